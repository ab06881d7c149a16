/-
  Laws that the proof stands on.
-/
import Derived.Test.YtmmikiikddokgaaGreatDoorU36
import Derived.Defers
import Derived.Recover
namespace Go.Proofs.YtmmikiikddokgaaGreatDoor
open Go.RowKit Go.Sort
set_option linter.unusedVariables false
set_option linter.unusedSimpArgs false
set_option maxRecDepth 4000
set_option maxHeartbeats 8000000
variable {fs:List AG}{l:AJ}{g B i t k:Nat}{v tv:Value}{w w' wr:World}
def Dp(u:AJ->Int×List ByteArray×Nat)(l:AJ):AJ:=l.now (u l).1 (u l).2.1 (u l).2.2
def Bb(u:AJ->Int×List ByteArray×Nat)(i:Nat)(ls:List AJ):List AJ:=(ls.take i).map (Dp u)++ls.drop i
theorem Ff(u:AJ->Int×List ByteArray×Nat)(i:Nat)(ls:List AJ):(Bb u i ls).length=ls.length:=by simp[Bb];omega
theorem fJ(u:AJ->Int×List ByteArray×Nat)(ls:List AJ):Bb u 0 ls=ls:=by simp[Bb]
theorem Kp(u:AJ->Int×List ByteArray×Nat){i:Nat}{ls:List AJ}(h:ls.length<=i):Bb u i ls=ls.map (Dp u):=by simp[Bb,List.take_of_length_le h,List.drop_eq_nil_of_le h]
theorem LU(u:AJ->Int×List ByteArray×Nat)(i k:Nat)(ls:List AJ)(a:k<ls.length):(Bb u i ls).getD k .dflt=if k<i then Dp u (ls.getD k .dflt)else ls.getD k .dflt:=by
 unfold Bb;simp only[List.getD_eq_getElem?_getD];split
 ·rename_i h
  rw[List.getElem?_append_left (by simp;omega)];simp[h,a]
 ·rename_i h
  rw[List.getElem?_append_right (by simp;omega)];simp only[List.length_map,List.length_take,List.getElem?_drop];rw[show i+(k-min i ls.length)=k by omega]
theorem JE(u:AJ->Int×List ByteArray×Nat){i:Nat}{ls:List AJ}(h:i<ls.length):(Bb u i ls).getD i .dflt=ls.getD i .dflt:=by rw[LU u i i ls h,if_neg (Nat.lt_irrefl _)]
theorem fI(u:AJ->Int×List ByteArray×Nat){i:Nat}{ls:List AJ}(h:i<ls.length):(Bb u i ls).set i (Dp u (ls.getD i .dflt))=Bb u (i+1) ls:=by
 unfold Bb;have a:((ls.take i).map (Dp u)).length=i:=by simp;omega
 rw[List.set_append_right _ _ (by omega),a,Nat.sub_self,List.take_succ_eq_append_getElem h,List.map_append,List.append_assoc];have b:ls.getD i .dflt=ls[i]:=by simp[List.getD_eq_getElem?_getD,h]
 rw[b,show ls.drop i=ls[i]::ls.drop (i+1) from List.drop_eq_getElem_cons h];rfl
def Ao.withL(n:Ao)(ls:List AJ)(t:Nat):Ao:=⟨n.id,n.inc,n.p,n.src,⟨n.s.lv,ls,n.s.gm,n.s.Z,n.s.gc,n.s.gcm,n.s.N,n.s.P,n.s.rl,n.s.dc⟩,t⟩
theorem Al.lstep{n:Ao}{u:AJ->Int×List ByteArray×Nat}(h:Al w g B (n.withL (Bb u i n.s.ls) t))(f:i<n.s.ls.length)(m:(Dp u (n.s.ls.getD i .dflt)).At w' n.p.M n.p.queue)(ht:Tu (n.s.ls.getD i .dflt).F w w')(o:(u (n.s.ls.getD i .dflt)).2.2<=t):
  Al w' g B (n.withL (Bb u (i+1) n.s.ls) t):=by
 have r:i<(Bb u i n.s.ls).length:=by rw[Ff];exact f
 have d:=JE u f;have z:=h.st.link (i:=i) (lv:=(u (n.s.ls.getD i .dflt)).1) (L:=(u (n.s.ls.getD i .dflt)).2.1) (lo:=(u (n.s.ls.getD i .dflt)).2.2) r (by show AJ.At w' n.p.M n.p.queue (((Bb u i n.s.ls).getD i .dflt).now _ _ _);rw[d];exact m) (by show Tu ((Bb u i n.s.ls).getD i .dflt).F w w';rw[d];exact ht);have q:Ag w' B n.p ⟨n.s.lv,Bb u (i+1) n.s.ls,n.s.gm,n.s.Z,n.s.gc,n.s.gcm,n.s.N,n.s.P,n.s.rl,n.s.dc⟩:=by
  rw[<-fI u f];have e:(Bb u i n.s.ls).getD i .dflt=n.s.ls.getD i .dflt:=d;have:Ag w' B n.p ⟨n.s.lv,(Bb u i n.s.ls).set i (((Bb u i n.s.ls).getD i .dflt).now (u (n.s.ls.getD i .dflt)).1 (u (n.s.ls.getD i .dflt)).2.1 (u (n.s.ls.getD i .dflt)).2.2),n.s.gm,n.s.Z,n.s.gc,n.s.gcm,n.s.N,n.s.P,n.s.rl,n.s.dc⟩:=z;rw[e]at this;exact this
 have c:=h.tm;refine Al.state (n:=n.withL (Bb u i n.s.ls) t) h q (ht.wide fun j y=>.inr (.inl ⟨i,r,by show((Bb u i n.s.ls).getD i .dflt).F j;rw[d];exact y⟩)) rfl Iff.rfl Iff.rfl (by show(Bb u (i+1) n.s.ls).length=(Bb u i n.s.ls).length;rw[Ff,Ff]) ⟨c.1,fun k m=>?_⟩;have b:k<n.s.ls.length:=by rw[<-Ff u (i+1) n.s.ls];exact m
 show((Bb u (i+1) n.s.ls).getD k .dflt).lo<=t;have a:((Bb u i n.s.ls).getD k .dflt).lo<=t:=c.2 k (by show k<(Bb u i n.s.ls).length;rw[Ff];exact b);rw[LU u _ _ _ b]at a⊢;by_cases e:k<i
 ·rw[if_pos e]at a;rw[if_pos (by omega)];exact a
 ·by_cases x:k=i
  ·subst x;rw[if_pos (by omega)];exact o
  ·rw[if_neg e]at a;rw[if_neg (by omega)];exact a
theorem Al.lstart{n:Ao}(h:Al w g B n)(u:AJ->Int×List ByteArray×Nat)(ht:n.t<=t):Al w g B (n.withL (Bb u 0 n.s.ls) t):=by
 rw[fJ];exact⟨h.blk,h.lo,h.tos,h.src,h.st,h.kd,h.num,Nat.le_trans h.tm.1 ht,fun i a=>Nat.le_trans (h.tm.2 i a) ht⟩
def Ao.each(n:Ao)(u:AJ->Int×List ByteArray×Nat):Ao:=n.withL (n.s.ls.map (Dp u)) (n.t+1)
def Fv(q:Int)(e:ByteArray)(l:AJ):Int×List ByteArray×Nat:=if l.L.length<capN q then(l.lv,l.L++[e],l.lo)else(l.lv,l.L,l.lo+1)
def Iw(M q k:Int)(l:AJ):Int×List ByteArray×Nat:=(Gn M (1000*Bw q 1 256) l.lv k,l.L,l.lo)
theorem lJ(l:AJ)(M q:Int)(f:Bo)(w:World)(h:l.At w M q)(ht:Tab w)(x:RowAt w f.p.r.a f.p.r.n f.p.r.xs)(u:f.p.r.n<=1048576)(s:f.ok)(o:l.lo<=1099511627776):
  Calls Tryz.prog 79 #[.pointer (some ⟨l.g,0,none⟩),f.val] w fun e w'=> ∃en:Int,e=.returned (.int .i64 en)/\(Dp (Fv q f.enc) l).At w' M q/\Tu l.F w w':=by
 unfold Dp Fv;by_cases m:l.L.length<capN q
 ·rw[if_pos m]
  exact(lK l.g l.gb l.gq l.c l.lo M q l.lv l.L f w h ht x u s m).mono fun e w' ⟨j,b,d⟩=>⟨0,j,b,d⟩
 ·rw[if_neg m]
  exact(dS l.g l.gb l.gq l.c l.lo M q l.lv l.L f w h ht x u s (by omega) o).mono fun e w' ⟨j,b,d⟩=>⟨5,j,b,d⟩
theorem AJ.At.row{M q:Int}(h:l.At w M q){a:Option Addr}{n:Nat}{xs:List Nat}(j:RowAt w a n xs)(ht:Tu l.F w w'):RowAt w' a n xs:=by
 refine⟨j.1,j.2.1,?_⟩;rcases j.2.2 with u|⟨b,off,rfl,p⟩
 ·exact .inl u
 ·refine .inr ⟨b,off,rfl,fun i o=>ht.cell (p i o) fun e=>?_⟩
  have d:=p i o
  have no:∀(T:TypeId) (cs:List Value),BkA T w b cs->(∀x∈cs,∀i,x≠ .int .u64 i)->False:=fun T cs m f=>by
   unfold BkA at m;rw[cell_of_row w b _ _ _ _ m]at d;have y:cs[off+i]? =some (.int .u64 ((xs.getD i 0:Nat):Int)):=by simpa using d
   exact f _ (List.mem_of_getElem? y) _ rfl
  rcases e with e|e|e|e
  ·have e:b=l.g:=e
   subst e;exact no _ _ h.blk (by simp)
  ·have e:b=l.gb:=e
   subst e;exact no _ _ h.bt.blk (by simp)
  ·have e:b=l.gq:=e
   subst e;exact no _ _ h.qu.blk (by simp)
  ·have e:b=l.c:=e
   subst e;obtain⟨s,r,f⟩:=h.qu.chn;rw[World.cell?,f]at d;cases d
theorem E7.ok{n:Ao}{L:List Nat}{f:Bo}(h:Al w g B n)(E:n.id<=7)(q:∀r,n.src=some r->Ck n.id r)(D:E7 n L f):f.ok/\f.p.r.xs.length<=10:=by
 obtain⟨A,C,j,c⟩:=D;have z:=h.num.1;have m:f.p.r.xs=((C8 n L).getD EI.pd).xs:=by rw[<-c];rfl
 have y:∀d,C8 n L=some d->BO d=true:=fun d a=>by
  unfold C8 at a;cases x:n.src with
  |some r=>rw[x]at a;cases a;exact(q r x).ck L
  |none=>
   rw[x]at a;cases u:n.s.rl with
   |none=>rw[u]at a;cases a
   |some r=>
    rw[u]at a;obtain⟨H,G⟩:=kP a;exact(X6 (h.st.rl r u).buf.inv.ok G).1
 have b:(0<=f.fr/\f.fr<=7)/\(0<=f.ic/\f.ic<=4294967295):=by rw[A,C];omega
 cases o:C8 n L with
 |none=>
  rw[o]at j c m;refine⟨⟨b.1,b.2,.inl ⟨j,?_⟩⟩,by rw[m];decide⟩;have e:f.p.pd=EI.pd:=c;simp only[PKV.pd,EI,PD.mk.injEq]at e;exact Uu ⟨e.1,e.2.1,e.2.2.1,e.2.2.2.1,e.2.2.2.2.1,e.2.2.2.2.2.1,e.2.2.2.2.2.2⟩
 |some d=>
  have a:=y d o;rw[o]at j c m;have e:f.p.pd=d:=c;refine⟨⟨b.1,b.2,.inr ⟨j,?_⟩⟩,by rw[m];exact Nat.le_trans (JN a) (by decide)⟩;have:=Gf.1 a;rw[<-e]at this;exact this
def Bo.cells(f:Bo):List Value:=[.int .i64 f.kd,.int .i64 f.fr,.int .i64 f.ic,.int .i64 f.p.o,.int .i64 f.p.l,.int .i64 f.p.k,.int .i64 f.p.z,.int .i64 f.p.h,.slice f.p.r.a f.p.r.n f.p.r.c,.string f.p.r.s]
theorem Al.keeps{n:Ao}(h:Al w g B n)(ht:Tu (Bg g n) w w'):Below B w w':=h.step (Below.refl B w) ht
theorem Na{n:Ao}(a:i<n.s.ls.length):∀j,(n.s.ls.getD i .dflt).F j->Bg g n j:=fun j b=>.inr (.inr (.inr (.inr (.inl ⟨i,a,b⟩))))
theorem Al.lptr{n:Ao}{u:AJ->Int×List ByteArray×Nat}(h:Al w g B (n.withL (Bb u i n.s.ls) t))(a:i<n.s.ls.length):∃b c,n.s.lv=.slice (some ⟨b,0,none⟩) n.s.ls.length c/\w.cell? ⟨b,i,none⟩=some (.pointer (some ⟨(n.s.ls.getD i .dflt).g,0,none⟩)):=by
 have f:0<(Bb u i n.s.ls).length:=by rw[Ff];omega
 obtain⟨b,c,e,d⟩:=Bl.at (ls:=Bb u i n.s.ls) h.st.lks f;have:=d i (by rw[Ff];exact a);rw[JE u a]at this;rw[Ff]at e;exact⟨b,c,e,this⟩
structure FW(w wr:World)(g B fq k:Nat)(n:Ao)(f:Bo):Prop where
 nd:Al wr g B (n.withL (Bb (Fv n.p.queue f.enc) k n.s.ls) (n.t+1))
 tu:Tu (Bg g n) w wr
 row:RowAt wr f.p.r.a f.p.r.n f.p.r.xs
 box:BkA 157 wr fq f.cells
theorem AJ.At.box{M q:Int}{cs:List Value}(h:l.At w M q)(a:BkA 157 w g cs)(ht:Tu l.F w w'):BkA 157 w' g cs:=a.tu ht fun e=>by have:=Aw.kd h g e;have:=a.kd;omega
theorem FW.step{w2:World}{b:Nat}{n:Ao}{f:Bo}(h:FW w wr g B b k n f)(c:k<n.s.ls.length){l:AJ}(m:n.s.ls.getD k .dflt=l)(a:l.At wr n.p.M n.p.queue)(d:(Dp (Fv n.p.queue f.enc) l).At w2 n.p.M n.p.queue)(ht:Tu l.F wr w2)(o:l.lo<=n.t):FW w w2 g B b (k+1) n f:=by
 subst m;refine⟨h.nd.lstep c d ht ?_,h.tu.trans ht fun j _ e=>Na c j e,a.row h.row ht,a.box h.box ht⟩;unfold Fv;split
 ·show(n.s.ls.getD k .dflt).lo<=n.t+1;omega
 ·show(n.s.ls.getD k .dflt).lo+1<=n.t+1;omega
theorem kh(g B:Nat)(n:Ao)(a:Option Addr)(dn dc:Nat)(L:List Nat)(now:Int)(w:World)(h:Al w g B n)(ht:∀wx,Below B w wx->Br wx)(y:∀r,n.src=some r->Ck n.id r)(Z:n.id<=7)(hd:RowAt w a dn L)(Y:dn<=1048576)(af:n.t<1099511627776):
  Calls Tryz.prog 50 #[.pointer (some ⟨g,0,none⟩),.slice a dn dc,.int .i64 now] w fun e w'=>e=.returned (.tuple #[])/\∃f:Bo,E7 n L f/\Al w' g B (n.each (Fv n.p.queue f.enc))/\Tu (Bg g n) w w'/\Ac f.p.r.xs:=by
 have HF:=Ab (eP g B n a dn dc L w h (ht w (Below.refl _ _)) y hd Y);obtain⟨al,cl,N⟩:=h.st.lks.len;have aa:n.s.ls.length<=8:=by have:=h.num;omega
 have H:=Ab h;have HT:=Ab ht;have T:=Ab y;have ad:=h.blk.lt;clear h ht y hd;go_enter Tryz.func50,Tryz.ntmps50;go_wp2_with fail;refine(Aa HF).mono ?_;rintro e w1 ⟨f,rfl,J,A,x⟩;have D:=Ab J;have V:=Ab A.2.1;have m:=Ad x (Ax w1 (.cells #[.int .i64 f.kd,.int .i64 f.fr,.int .i64 f.ic,.int .i64 f.p.o,.int .i64 f.p.l,.int .i64 f.p.k,.int .i64 f.p.z,.int .i64 f.p.h,.slice f.p.r.a f.p.r.n f.p.r.c,.string f.p.r.s] 157));have E:=Ab (show FW w (w1.alloc (.cells #[.int .i64 f.kd,.int .i64 f.fr,.int .i64 f.ic,.int .i64 f.p.o,.int .i64 f.p.l,.int .i64 f.p.k,.int .i64 f.p.z,.int .i64 f.p.h,.slice f.p.r.a f.p.r.n f.p.r.c,.string f.p.r.s] 157)) g B w1.heap.size 0 n f from⟨((Aa H).below m).lstart _ (Nat.le_succ _),Tu.of_below m,A.below (Ax _ _),AO 157 w1 f.cells⟩);have G:=((Aa H).below m).blk.at 11 (show(EG n)[11]? =some n.s.lv from rfl);rw[N]at G;have ae:w1.heap.size≠g:=by have:=x.size;omega
 unfold Bo.val;clear J A x m;go_wp2_with fail;generalize w1.alloc (.cells #[.int .i64 f.kd,.int .i64 f.fr,.int .i64 f.ic,.int .i64 f.p.o,.int .i64 f.p.l,.int .i64 f.p.k,.int .i64 f.p.z,.int .i64 f.p.h,.slice f.p.r.a f.p.r.n f.p.r.c,.string f.p.r.s] 157)=wa at*;generalize w1.heap.size=fq at*;clear G;have q:=Ab (E7.ok (Aa H) Z (Aa T) (Aa D));go_loopw [20] (fun i wr=> ∃k:Nat,k<=n.s.ls.length/\i=.int .i64 k/\Hid (FW w wr g B fq k n f)) (fun i _=>n.s.ls.length-(intOf i).toNat)
 case atStart=>exact⟨0,Nat.zero_le _,rfl,E⟩
 case round=>
  obtain⟨k,hk,rfl,j⟩:=hrel;clear E;rename_i wr;by_cases d:k<n.s.ls.length
  ·have ab:(k:Int)<(n.s.ls.length:Int):=by omega
   obtain⟨b,c,X,ac⟩:=(Aa j).nd.lptr d;rw[N]at X;simp only[Value.slice.injEq,true_and]at X;obtain⟨rfl,rfl⟩:=X;have K:(n.s.ls.getD k .dflt).lo<=n.t:=(Aa H).tm.2 k d;have u:(n.s.ls.getD k .dflt).At wr n.p.M n.p.queue:=by
    have:=((Aa j).nd.st.each k (by show k<(Bb _ k n.s.ls).length;rw[Ff];exact d)).1;have e:AJ.At wr n.p.M n.p.queue ((Bb (Fv n.p.queue f.enc) k n.s.ls).getD k .dflt):=this;rwa[JE _ d]at e
   have Q:=Ab u;have HS:=Ab (lJ _ n.p.M n.p.queue f wr u (Aa HT _ ((Aa H).keeps (Aa j).tu)).tab (Aa j).row (by have:=(Aa q).2;have:=(Aa j).row.1;omega) (Aa q).1 (by omega));have S:=Ab K;have C:=Ab (Aa j).box;clear u K;generalize hl:n.s.ls.getD k .dflt=l at*;have R:=Ab hl;clear hl;unfold Bo.val at HS;unfold Bo.cells at C
   go_wp2_with (first
    |((with_reducible refine Po 157 Tryz.underlying157 rfl JC 6 fq _ ?_ (Aa C) rfl ?_);(focus rfl))
    |(go_at_call 79;refine(Aa HS).mono ?_;rintro e w2 ⟨en,rfl,I,O⟩;have P:=Ab I;have W:=Ab O;clear I O)
    |fail)
   go_round
   case rel=>exact⟨k+1,d,by go_num,Ab ((Aa j).step d (Aa R) (Aa Q) (Aa P) (Aa W) (Aa S))⟩
   case measure=>simp[intOf];omega
  ·obtain rfl:k=n.s.ls.length:=by omega
   go_wp2;have hn:=(Aa j).nd;rw[Kp _ (Nat.le_refl _)]at hn;go_end0;exact⟨rfl,f,Aa D,hn,(Aa j).tu,Aa V⟩
theorem cI{ops:Array Oper}{o:Oper}{a:Act}{K:Act->World->Prop}{Q:Exit->Act->World->Prop}{E:Prop}(d:o.guard=none)(s x:Operand)
  (A:o.op=.call {callee:=.builtin .append,args:=#[s,x],argTypes:=#[46,46]}) (B:Nat) (v:Value) (fs:List AG) (f:AG) (C:a.eval s=v) (c:Ap w B v fs) (b:Nat)
  (D:a.eval x=.slice (some ⟨b,0,none⟩) 1 1) (y:w.heap[b]? =some (.cells #[.int .i64 f.fr,.int .i64 f.dst,.string f.s] 99 (0,0))) (I:fs.length<=1000000) (r:B<=w.heap.size)
  (h:∀g cap w',Ap w' B (.slice (some ⟨g,0,none⟩) (fs.length+1) cap) (fs++[f])->w.grownBy w' v.ownBlock->K (a.put o.dst (.slice (some ⟨g,0,none⟩) (fs.length+1) cap)) w'):
  if Region.wanted o (yielded ops a.tmps)=true then Oper.wp Tryz.prog o a w K Q else E:=by
 obtain⟨G,z,e,j,m⟩:=info_parts Mn
 refine step_append_lies w d s x 46 A B 99 G _ 3 32 Tryz.underlying46 z e j m rfl (by decide) v fs.length (cellsG fs) C c ⟨b,0,none⟩ 1 1 f.cells D rfl
  (World.news_of_block y) (fun u n=>by simp only[AG.cells,List.mem_cons,List.not_mem_nil,or_false]at n;rcases n with h|h|h<;>(rw[h];rfl)) (by decide) (by unfold maxLen;omega) (by omega) r _ rfl (fun g cap w' p q H _=>h g cap w' ?_ q)
 show w'.ownsRow B 99 3 _ (fs++[f]).length (cellsG (fs++[f]));rw[List.length_append,show cellsG (fs++[f])=cellsG fs++f.cells by simp[cellsG]];exact p
theorem Al.nk{n:Ao}(h:Al w g B n):∀j,Bg g n j->kdB w j≠99+2/\kdB w j≠265+2:=fun j a=>by
 rcases a with rfl|a|⟨r,b,a⟩|a
 ·have:=h.blk.kd;omega
 ·have:=Bs h.tos a;omega
 ·have:=(h.src r b).kd j a;omega
 ·have:=h.st.kd j a;omega
def Cw(l:AJ):Int×List ByteArray×Nat:=(l.lv-1000*(DQ l.L l.lv:Int),l.L.drop (DQ l.L l.lv),l.lo)
def Dm(n:Ao)(i m:Nat):List AG:=((n.s.ls.getD i .dflt).L.take m).map fun s=>⟨(n.id:Int),n.p.tos.getD i 0,s⟩
def EC(n:Ao)(i:Nat):Nat:=DQ (n.s.ls.getD i .dflt).L (n.s.ls.getD i .dflt).lv
def flyTo(n:Ao):Nat->List AG
 |0=>[]
 |k+1=>flyTo n k++Dm n k (EC n k)
theorem jv{n:Ao}{m:Nat}(h:m<(n.s.ls.getD i .dflt).L.length):Dm n i m++[⟨(n.id:Int),n.p.tos.getD i 0,(n.s.ls.getD i .dflt).L.getD m ByteArray.empty⟩]=Dm n i (m+1):=by
 unfold Dm;rw[<-SR h,List.map_append];rfl
theorem Vs(n:Ao)(i m:Nat):(Dm n i m).length<=m:=by unfold Dm;rw[List.length_map,List.length_take];omega
theorem OF{n:Ao}:∀{k:Nat},(∀i,i<k->EC n i<=256)->(flyTo n k).length<=256*k
 |0,_=>Nat.le_refl _
 |k+1,h=>by
  have a:=OF (n:=n) (k:=k) fun i d=>h i (by omega);have b:=Vs n k (EC n k);have c:=h k (by omega);show(flyTo n k++Dm n k (EC n k)).length<=_;rw[List.length_append];omega
theorem Al.fly{n:Ao}(h:Al w g B n)(a:i<n.s.ls.length):EC n i<=256:=
 Nat.le_trans (UP _ _) (Nat.le_trans (Aw.qu (h.st.each i a).1).len (Aw.qu (h.st.each i a).1).most)
structure Ln(w wr:World)(g B k:Nat)(n:Ao)(v:Value)(fs:List AG):Prop where
 nd:Al wr g B (n.withL (Bb Cw k n.s.ls) (n.t+1))
 tu:Tu (Bg g n) w wr
 out:Ap wr w.heap.size v fs
theorem Al.gb{C:Nat}{n:Ao}(h:Al w g B n)(b:Ap w C v fs)(c:w.grownBy w' v.ownBlock):Al w' g B n:=
 h.tu (F:=fun j=>v.ownBlock=some j) (Tu.of_gb c fun j _ e=>e) (fun j a e=>by have:=(h.nk j a).1;have:=Bs b e;omega) fun j a e=>by have:=Bs b e;omega
theorem ZK{F:Nat->Prop}(h:Tu F w wr)(b:Ap wr w.heap.size v fs)(a:wr.grownBy w' v.ownBlock):Tu F w w':=
 h.trans (Tu.of_gb (F:=fun j=>v.ownBlock=some j) a fun j _ e=>e) fun j c e=>by have:=(EM b e).1;omega
structure Hw(w wi:World)(g B k:Nat)(n:Ao)(tv:Value)(ts:List ByteArray)(v:Value)(fs:List AG):Prop where
 nd:Al wi g B (n.withL (Bb Cw (k+1) n.s.ls) (n.t+1))
 tu:Tu (Bg g n) w wi
 out:Ap wi w.heap.size v fs
 tx:Ar wi w.heap.size tv ts
theorem Ln.go{w2:World}{n:Ao}{m:Nat}(h:Ln w wr g B k n v fs)(a:k<n.s.ls.length)(f:n.s.ls.getD k .dflt=l)(q:EC n k=m)(o:l.lo<=n.t)(ht:Gw wr w2 l.g l.gb l.gq l.c n.p.M n.p.queue l.lv l.L l.lo m tv):Hw w w2 g B k n tv (l.L.take m) v fs:=by
 subst f q;have b:(n.s.ls.getD k .dflt).At wr n.p.M n.p.queue:=by
  have:=(h.nd.st.each k (by show k<(Bb _ k n.s.ls).length;rw[Ff];exact a)).1;have e:AJ.At wr n.p.M n.p.queue ((Bb Cw k n.s.ls).getD k .dflt):=this;rwa[JE _ a]at e
 exact⟨h.nd.lstep a ht.lk ht.tu (by show(n.s.ls.getD k .dflt).lo<=n.t+1;omega),h.tu.trans ht.tu fun j _ e=>Na a j e,CN h.out ht.tu fun j d e=>by have:=Bs h.out d;have:=Aw.kd b j e;omega,ht.own.mono h.tu.size⟩
theorem Hw.gb{m:World}{n:Ao}{v':Value}{d:List ByteArray}{a:List AG}(h:Hw w m g B k n tv d v fs){f:World}(b:Below m.heap.size m f)(c:f.grownBy w' v.ownBlock)(q:Ap w' w.heap.size v' a):Hw w w' g B k n tv d v' a:=by
 have o2:=h.out.below b;have o:Ar f w.heap.size tv d:=h.tx.below b;exact⟨(h.nd.below b).gb o2 c,ZK (h.tu.then b) o2 c,q,CN o (Tu.of_gb (F:=fun j=>v.ownBlock=some j) c fun j _ e=>e) fun j p e=>by have:=Bs o p;have:=Bs o2 e;omega⟩
theorem Hw.cells{c:World}{n:Ao}{r:List ByteArray}(h:Hw w c g B k n tv r v fs)(o:k<n.p.tos.length):∃a d,n.p.tv=.slice (some ⟨a,0,none⟩) n.p.tos.length d/\c.cell? ⟨g,0,none⟩=some (.int .i64 (n.id:Int))/\c.cell? ⟨g,9,none⟩=some (.slice (some ⟨a,0,none⟩) n.p.tos.length d)/\c.cell? ⟨a,k,none⟩=some (.int .i64 (n.p.tos.getD k 0)):=by
 have f:c.ownsRow B 3 1 n.p.tv n.p.tos.length (cellsZ n.p.tos):=h.nd.tos;have m:=h.nd.blk.at 9 (show(EG (n.withL (Bb Cw (k+1) n.s.ls) (n.t+1)))[9]? =some n.p.tv from rfl);rcases f.2 with⟨_,u⟩|⟨a,cap,j,e,x,y,A,z,q,ht⟩
 ·omega
 ·refine⟨a,cap,e,h.nd.blk.at 0 rfl,by rw[<-e];exact m,?_⟩
  have b:=f;rw[e]at b;rw[b.cellAt k (by omega),G8 _ k o]
theorem iP(g B:Nat)(n:Ao)(w:World)(h:Al w g B n):
  Calls Tryz.prog 49 #[.pointer (some ⟨g,0,none⟩)] w fun e w'=> ∃v,e=.returned v/\Ap w' w.heap.size v (flyTo n n.s.ls.length)/\Al w' g B (n.each Cw)/\Tu (Bg g n) w w':=by
 obtain⟨al,cl,V⟩:=h.st.lks.len;have am:n.s.ls.length<=8:=by have:=h.num;omega
 have N:=h.blk.at 11 (show(EG n)[11]? =some n.s.lv from rfl);rw[V]at N;have D:=Ab (show Ln w w g B 0 n (.slice none 0 0) (flyTo n 0) from⟨h.lstart _ (Nat.le_succ _),Tu.refl _ _,Ap.nil _ _⟩);have H:=Ab h;have ay:=h.blk.lt;have K:=Ab (show n.s.ls.length=n.p.tos.length from h.num.2.1);clear h;go_enter Tryz.func49,Tryz.ntmps49;go_wp2_with fail;clear N;go_loopw [3,16] (fun o i wr=> ∃k:Nat,k<=n.s.ls.length/\i=.int .i64 k/\Hid (Ln w wr g B k n o (flyTo n k))) (fun _ i _=>n.s.ls.length-(intOf i).toNat)
 case atStart=>exact⟨0,Nat.zero_le _,rfl,D⟩
 case round=>
  obtain⟨k,hk,rfl,y⟩:=hrel;clear D;by_cases d:k<n.s.ls.length
  ·have av:(k:Int)<(n.s.ls.length:Int):=by omega
   obtain⟨b,c,hb,ak⟩:=(Aa y).nd.lptr d;rw[V]at hb;simp only[Value.slice.injEq,true_and]at hb;obtain⟨rfl,rfl⟩:=hb;have x:(n.s.ls.getD k .dflt).At wr n.p.M n.p.queue:=by
    have:=((Aa y).nd.st.each k (by show k<(Bb _ k n.s.ls).length;rw[Ff];exact d)).1;have e:AJ.At wr n.p.M n.p.queue ((Bb Cw k n.s.ls).getD k .dflt):=this;rwa[JE _ d]at e
   have HP:=Ab (fl _ _ _ _ _ _ _ _ _ wr x);have ax:=Ab ((Aa H).tm.2 k d);have ae:=Ab (show(n.s.ls.getD k .dflt).L.length<=256 from Nat.le_trans x.qu.len x.qu.most);have HN:=Ab (show DQ (n.s.ls.getD k .dflt).L (n.s.ls.getD k .dflt).lv=EC n k from rfl);have z:EC n k<=(n.s.ls.getD k .dflt).L.length:=UP _ _;have G:=Ab z;have au:EC n k<=256:=Nat.le_trans z (Aa ae);rw[Aa HN]at HP;clear x z;generalize hl:n.s.ls.getD k .dflt=l at*;generalize hm:EC n k=m at*;have u:=Ab hl;have I:=Ab hm;clear hl hm
   go_wp2_with (first
    |(go_at_call 77;refine(Aa HP).mono ?_;rintro e w2 ⟨b2,c2,rfl,S⟩;have E:=Ab S;clear S)
    |fail)
   have C:=Ab (show Hw w w2 g B k n (.slice b2 m c2) (l.L.take m) u3 (flyTo n k++Dm n k 0) from by
    have:=(Aa y).go d (Aa u) (Aa I) (by rw[<-Aa u];exact(Aa H).tm.2 k d) (Aa E);rwa[show Dm n k 0=[] from rfl,List.append_nil])
   clear HP E y ak;go_loopw [3,24] (fun o i wi=> ∃q:Nat,q<=m/\i=.int .i64 q/\Hid (Hw w wi g B k n (.slice b2 m c2) (l.L.take m) o (flyTo n k++Dm n k q))) (fun _ i _=>m-(intOf i).toNat)
   case atStart=>exact⟨0,Nat.zero_le _,rfl,C⟩
   case round=>
    obtain⟨q,hq,rfl,f⟩:=hrel;clear C;by_cases X:q<m
    ·have aw:(q:Int)<(m:Int):=by omega
     have an:m<=l.L.length:=Aa G;have ao:(l.L.take m).length=m:=by rw[List.length_take];omega
     obtain⟨gt,ct,ht, -, -,O, -⟩:=(Aa f).tx.at (by omega);simp only[Value.slice.injEq]at ht;obtain⟨rfl, -,rfl⟩:=ht;have t0:=O q (by omega);have Q:(l.L.take m).getD q ByteArray.empty=l.L.getD q ByteArray.empty:=by simp[List.getD_eq_getElem?_getD,X]
     rw[Q]at t0;obtain⟨A,cz,aa,s0,s9,sz⟩:=(Aa f).cells (by rw[<-Aa K];exact d);have J:=Ab (fun(e:some g=Value.ownBlock u3)=>by have:=Bs (Aa f).out e.symm;have:=(Aa f).nd.blk.kd;omega:some g≠Value.ownBlock u3);have af:=Ab (show some A≠Value.ownBlock u3 from fun e=>by have:=Bs (Aa f).out e.symm;have:=Bs (Aa f).nd.tos (show n.p.tv.ownBlock=some A by rw[aa];rfl);omega);have a0:(k:Int)<(n.p.tos.length:Int):=by have:=Aa K;omega
     have az:k<n.p.tos.length:=by omega
     have ai:=Ab (show l.L.getD q ByteArray.empty=l.L.getD q ByteArray.empty from rfl);have ab:=Ab (show(flyTo n k++Dm n k q).length<=1000000 from by rw[List.length_append];have:=OF (n:=n) (k:=k) fun i hi=>(Aa H).fly (by omega);have:=Vs n k q;omega);have R:g<wr.heap.size:=(Aa f).nd.blk.lt;have aq:A<wr.heap.size:=World.block_lt_of_cell? wr _ sz;have Y:w.heap.size<=wr.heap.size:=(Aa f).tu.size;have ag:=Ab Y;clear O ao an Q aa;generalize hT:l.L.getD q ByteArray.empty=T at*;have ah:=Ab hT;clear hT ai Y;generalize hZ:n.p.tos.getD k 0=Z at*;have aj:=Ab hZ;clear hZ;have ap:=(Aa f).out.len;generalize P:flyTo n k++Dm n k q=fs at*;have ac:=Ab P;clear P;obtain⟨a3,c3,rfl⟩:=ap;go_wp2_with fail
     go_region_held3 (fun w'=>w'.cell? ⟨g,0,none⟩=some (.int .i64 (n.id:Int))/\w'.cell? ⟨g,9,none⟩=some (.slice (some ⟨A,0,none⟩) n.p.tos.length cz)/\w'.cell? ⟨A,k,none⟩=some (.int .i64 Z)) (go_keep) (first
      |(refine cI (by rfl) (.tmp 28) (.tmp 43) (by rfl) w.heap.size (.slice a3 fs.length c3) fs ⟨(n.id:Int),Z,T⟩ (by rfl) ((Aa f).out.below ((Below.refl _ _).drew.alloc (Nat.le_refl _) _)) wr.heap.size (by rfl) (AO 99 wr.drew [.int .i64 (n.id:Int),.int .i64 Z,.string T]) (Aa ab) (Nat.le_trans (Aa ag) ((Below.refl _ _).drew.alloc (Nat.le_refl _) _).size) ?_;intro g4 ar w4 W r;have j:Below wr.heap.size wr (wr.drew.alloc (.cells #[.int .i64 (n.id:Int),.int .i64 Z,.string T] 99)):=((Below.refl _ _).drew.alloc (Nat.le_refl _) _);have v0:=r.cell (a:=⟨g,0,none⟩) ((j.cell R).trans s0) (Aa J);have v9:=r.cell (a:=⟨g,9,none⟩) ((j.cell R).trans s9) (Aa J);have vz:=r.cell (a:=⟨A,k,none⟩) ((j.cell aq).trans sz) (Aa af);have ad:=Ab ((Aa f).gb j r W);clear j W r)
      |fail)
     go_wp2;go_round
     case rel=>
      refine⟨q+1,X,by go_num,Ab ?_⟩;have h4:=Aa ad;have e:fs++[⟨(n.id:Int),Z,T⟩]=flyTo n k++Dm n k (q+1):=by
       rw[<-Aa ac,List.append_assoc,<-Aa aj,<-Aa ah,<-Aa u,jv (by rw[Aa u];have:=Aa G;omega)]
      rw[e]at h4;exact h4
     case measure=>simp[intOf];omega
    ·obtain rfl:q=m:=by omega
     go_wp2;go_round
     case rel=>exact⟨k+1,d,by go_num,Ab ⟨(Aa f).nd,(Aa f).tu,by have:=(Aa f).out;rwa[<-Aa I]at this⟩⟩
     case measure=>simp[intOf];omega
  ·obtain rfl:k=n.s.ls.length:=by omega
   go_wp2;have hn:=(Aa y).nd;rw[Kp _ (Nat.le_refl _)]at hn;go_ret;exact⟨_,rfl,(Aa y).out,hn,(Aa y).tu⟩
theorem nZ(w:World)(o:Obj):(w.alloc o).heap[w.heap.size]? =some o:=by
 show(w.heap.push o)[w.heap.size]? =_;simp
theorem dQ(a:Option Addr)(l c:Nat)(ss:List ByteArray)(n:Nat)(w:World)(h:As w a l ss)(D:l<=1048576)(E:n<=9223372036854775807):
  Calls Tryz.prog 218 #[.slice a l c,.int .i64 (n:Int)] w fun e w'=>e=.returned (.int .i64 ((n-(joinL ss).length:Nat):Int))/\w'=w:=by
 obtain rfl:=h.1;go_enter Tryz.func218,Tryz.ntmps218;go_wp2;go_loop [1,9] (fun v i=> ∃k r:Nat,k<=ss.length/\i=.int .i64 k/\v=.int .i64 (r:Int)/\r<=n/\Hid (r=n-(joinL (ss.take k)).length)) (fun _ i=>ss.length-(intOf i).toNat)
 case atStart=>exact⟨0,n,Nat.zero_le _,rfl,rfl,Nat.le_refl _,Ab (by simp[joinL])⟩
 case round=>
  obtain⟨k,r,C,rfl,rfl,G,m⟩:=hrel;by_cases f:k<ss.length
  ·obtain⟨b,off,rfl,s⟩:=h.at f
   have p:=s k f;have u:=R2 ss k f;have d:=congrArg List.length u;rw[List.length_append,AT]at d;have z:=Ab d;generalize ss.getD k ByteArray.empty=t at*;have M:=I3 t.size r;obtain⟨q,y⟩:∃q,min t.size r=q:=⟨_,rfl⟩;rw[y]at M;have j:(r:Int)-(q:Int)=((r-q:Nat):Int):=by omega
   have A:q<=r:=by omega
   have x:(k:Int)<(ss.length:Int):=by omega
   have o:=Ab (show r-q=n-(joinL (ss.take (k+1))).length by have:=Aa m;have:=Aa z;omega);clear s u d y h;go_wp2;go_round
   case rel=>exact⟨k+1,r-q,by omega,by go_num,by first|rfl|rw[j],by omega,o⟩
   case measure=>simp[intOf];omega
  ·obtain rfl:k=ss.length:=by omega
   rw[List.take_length]at m;clear h;go_wp2;go_ret;exact⟨CB (by rw[Aa m]),rfl⟩
theorem ng(a:Option Addr)(l c:Nat)(ss:List ByteArray)(n:Nat)(w:World)(h:As w a l ss)(Z:l<=1048576)(hn:n<=1073741824)(hj:n<=(joinL ss).length):
  Calls Tryz.prog 187 #[.slice a l c,.int .i64 (n:Int)] w fun e w'=>e=.returned (.tuple #[.string (st ((joinL ss).take n)),.int .i64 0])/\Below w.heap.size w w':=by
 obtain rfl:=h.1;have m:=dQ a ss.length c ss n w h Z (by omega);rw[show n-(joinL ss).length=0 by omega]at m;have O:=Ab m;have N:=Ab (Tl w.heap.size w.heap.size n (w.alloc (.cells #[.pointer none,.slice none 0 0] 298)) (Nat.le_refl _) (nZ w _) (by simp) hn);have A:Below w.heap.size w (w.alloc (.cells #[.pointer none,.slice none 0 0] 298)):=(Below.refl _ _).alloc (Nat.le_refl _) _;have aa:(0:Int)<=(n:Int):=by omega
 clear m;go_enter Tryz.func187,Tryz.ntmps187;go_wp2_with (first|(go_at_call 218;refine(Aa O).mono ?_;rintro e w1 ⟨rfl,L⟩;obtain rfl:=L.symm)|(go_at_call 204;refine(Aa N).mono ?_;rintro e w1 ⟨rfl,z,d⟩));have s:=Ab z;have u:=Ab (A.trans d);clear A d z N O;go_loopw [21] (fun i wr=> ∃k:Nat,k<=ss.length/\i=.int .i64 k/\Hid (Gs wr w.heap.size w.heap.size ((joinL (ss.take k)).take n))/\Hid (Below w.heap.size w wr)) (fun i _=>ss.length-(intOf i).toNat)
 case atStart=>exact⟨0,Nat.zero_le _,rfl,Ab (by simpa [joinL]using Aa s),u⟩
 case round=>
  obtain⟨k,hk,rfl,f,p⟩:=hrel;clear s u;by_cases o:k<ss.length
  ·obtain⟨b,off,rfl,J⟩:=(h.below (Aa p)).at o
   have K:=J k o;have H:=Ab (R2 ss k o);generalize ss.getD k ByteArray.empty=t at*;obtain⟨P,R⟩:∃P,joinL (ss.take k)=P:=⟨_,rfl⟩;rw[R]at f H;have I:(P.take n).length<=n:=List.length_take_le _ _;obtain⟨q,E⟩:∃q,(P.take n).length=q:=⟨_,rfl⟩;have y:=Ab (ma w.heap.size w.heap.size (P.take n) _ (Aa f));rw[E]at y I;have Q:(n:Int)-(q:Int)=((n-q:Nat):Int):=by omega
   have M:=I3 t.size (n-q);obtain⟨r,T⟩:∃r,min t.size (n-q)=r:=⟨_,rfl⟩;rw[T]at M;have ab:r<=t.size:=by omega
   have D:(t.extract 0 r).size=r:=by rw[ByteArray.size_extract];omega
   have X:=Ab (jM w.heap.size w.heap.size (P.take n) (t.extract 0 r) _ (Aa f) (by rw[E,D];omega) (Aa p).size)
   have V:=Ab (show P.take n++tx (t.extract 0 r)=(joinL (ss.take (k+1))).take n by
    rw[Aa H,List.take_append,Es,List.drop_zero,Nat.sub_zero];congr 1;rw[List.length_take]at E;by_cases J:n<=P.length
    ·rw[show r=0 by omega,show n-P.length=0 by omega]
    ·by_cases Y:t.size<=n-P.length
     ·rw[List.take_of_length_le (by rw[AT];omega),List.take_of_length_le (by rw[AT];omega)]
     ·rw[show r=n-P.length by omega])
   have S:(k:Int)<(ss.length:Int):=by omega
   clear J R E T D H;go_wp2_with (first|(go_at_call 220;refine(Aa y).mono ?_;rintro e w1 ⟨rfl,L⟩;obtain rfl:=L.symm)|(go_at_call 219;refine(Aa X).mono ?_;rintro e w2 ⟨rfl,j,C⟩));rw[Aa V]at j;have G:=Ab j;have x:=Ab ((Aa p).trans C);clear j C f p;go_wp2;go_roundw
   case rel=>exact⟨k+1,by omega,by go_num,G,x⟩
   case measure=>simp[intOf];omega
  ·obtain rfl:k=ss.length:=by omega
   rw[List.take_length]at f;have W:=Ab (Uw w.heap.size w.heap.size _ _ (Aa f) (Aa p).size);clear h f;go_wp2_with (go_at_call 206;refine(Aa W).mono ?_;rintro e w1 ⟨rfl,d⟩);go_ret2;exact⟨rfl,(Aa p).trans d⟩
theorem jT(g B:Nat)(M:Int)(p:PKV)(w:World)(h:An w g B M C9 g (.slice none 0 0) [])(hr:RowAt w p.r.a p.r.n p.r.xs)(hp:DD p=true):
  Calls Tryz.prog 126 #[.pointer (some ⟨g,0,none⟩),.agg #[.int .i64 p.o,.int .i64 p.l,.int .i64 p.k,.int .i64 p.z,.int .i64 p.h,.slice p.r.a p.r.n p.r.c,.string p.r.s]] w fun e w'=>
   e=.returned (.tuple #[])/\∃gs,An w' g B M (Cx C9 p) gs (.slice none 0 0) []/\Tu (fun j=>j=g) w w'/\w.heap.size<=gs:=by
 have q:=Ax w (.cells #[.int .i64 p.o,.int .i64 p.l,.int .i64 p.k,.int .i64 p.z,.int .i64 p.h,.slice p.r.a p.r.n p.r.c,.string p.r.s] 75);have m:=AO 75 w [.int .i64 p.o,.int .i64 p.l,.int .i64 p.k,.int .i64 p.z,.int .i64 p.h,.slice p.r.a p.r.n p.r.c,.string p.r.s];have HC:=Ab (EL p.o p.l p.k p.z p.h p.r.a p.r.n p.r.c p.r.xs p.r.s _ (hr.below q) 0 (Qs hp));have ad:=h.lt;have J:w.heap.size≠g:=by omega
 have HD:=Ab (h.below q);have hE:w.alloc (.cells [.int .i64 p.o,.int .i64 p.l,.int .i64 p.k,.int .i64 p.z,.int .i64 p.h,.slice p.r.a p.r.n p.r.c,.string p.r.s].toArray 75)=w.alloc (.cells #[.int .i64 p.o,.int .i64 p.l,.int .i64 p.k,.int .i64 p.z,.int .i64 p.h,.slice p.r.a p.r.n p.r.c,.string p.r.s] 75):=rfl;rw[hE]at m;clear hE h hr;generalize hW:w.alloc (.cells #[.int .i64 p.o,.int .i64 p.l,.int .i64 p.k,.int .i64 p.z,.int .i64 p.h,.slice p.r.a p.r.n p.r.c,.string p.r.s] 75)=W at*;have HX:=Ab m;have E:=Ab q;have O:=m.at 0 rfl;have P:=m.at 1 rfl;have Q:=m.at 2 rfl;have R:=m.at 3 rfl;have S:=m.at 4 rfl;have T:=m.at 5 rfl;have V:=m.at 6 rfl;clear m q;go_enter Tryz.func126,Tryz.ntmps126;go_wp2_with fail;refine(Aa HC).mono ?_;rintro e w1 ⟨rfl,u⟩;have A:=(Aa HD).below u;have b:=(Aa HX).below u;have y:=Ab (Ad (Aa E) u);have d5:w1.cell? ⟨g,5,none⟩=some (.pointer none):=A.blk.at 5 rfl;have G:=Ab (fu g B M p w1 A hp);have H:=Ab b;clear u HC E HX HD O P Q R S T V A;have O:=b.at 0 rfl;have P:=b.at 1 rfl;have Q:=b.at 2 rfl;have R:=b.at 3 rfl;have S:=b.at 4 rfl;have T:=b.at 5 rfl;have V:=b.at 6 rfl;clear b;have ac:Tryz.prog.eqGuardType Tryz.prog.depth 171=false:=by kernel_rfl
 go_wp2_with (first|(go_at_call 158;refine(KJ _ _).mono ?_;rintro e w2 ⟨rfl,L⟩;obtain rfl:=L.symm;clear L)|(go_at_call 159;refine(Aa G).mono ?_;rintro e w3 ⟨rfl,gs,C,D,K⟩));have d:=(Aa H).tu D J;have f:BkA 174 w3 g [.int .i64 M,.int .i64 p.o,.int .i64 p.l,.int .i64 p.k,.int .i64 p.z,.pointer (some ⟨gs,0,none⟩),.bool false,.string ⟨#[]⟩]:=C.blk;have HQ:=Ab (fun wx (hb:Below w3.heap.size w3 wx)=>show _/\_ from⟨f.below hb,d.below hb⟩);have aa:=Ab (Tu.after (Aa y) D);have Y:=Ab C;have Z:=Ab (Nat.le_trans (Aa y).size K);clear O P Q R S T V d5 G H y D C K;have O:=d.at 0 rfl;have P:=d.at 1 rfl;have Q:=d.at 2 rfl;have R:=d.at 3 rfl;have S:=d.at 4 rfl;have T:=d.at 5 rfl;have V:=d.at 6 rfl;have d1:=f.at 1 rfl;have d2:=f.at 2 rfl;have d3:=f.at 3 rfl;have d4:=f.at 4 rfl;clear d f
 have ab:∀W,(binOp .eql 171 (.agg #[.int .i64 p.o,.int .i64 p.l,.int .i64 p.k,.int .i64 p.z]) (.agg #[.int .i64 p.o,.int .i64 p.l,.int .i64 p.k,.int .i64 p.z])).run Tryz.prog W=.ok (.bool true) W:=fun W=>by
  rw[Qv];simp
 go_region_held3 (fun w'=>w'.cell? ⟨w.heap.size,0,none⟩=some (.int .i64 p.o)/\w'.cell? ⟨w.heap.size,1,none⟩=some (.int .i64 p.l)/\w'.cell? ⟨w.heap.size,2,none⟩=some (.int .i64 p.k)/\w'.cell? ⟨w.heap.size,3,none⟩=some (.int .i64 p.z)/\w'.cell? ⟨w.heap.size,4,none⟩=some (.int .i64 p.h)/\w'.cell? ⟨w.heap.size,5,none⟩=some (.slice p.r.a p.r.n p.r.c)/\w'.cell? ⟨w.heap.size,6,none⟩=some (.string p.r.s)/\w'.cell? ⟨g,1,none⟩=some (.int .i64 p.o)/\w'.cell? ⟨g,2,none⟩=some (.int .i64 p.l)/\w'.cell? ⟨g,3,none⟩=some (.int .i64 p.k)/\w'.cell? ⟨g,4,none⟩=some (.int .i64 p.z)) (go_keep) (first
  |(go_at_call 160;refine(JM p.o p.l p.k p.z p.h (.slice p.r.a p.r.n p.r.c) (.string p.r.s) _).mono ?_;rintro e w4 ⟨rfl,I⟩;have X:=Ab (show Below w3.heap.size w3 w4 from Ad (Below.refl _ _).drew I);obtain⟨N,x⟩:=Aa HQ w4 (Aa X);have r0:=x.at 0 rfl;have r1:=x.at 1 rfl;have r2:=x.at 2 rfl;have r3:=x.at 3 rfl;have r4:=x.at 4 rfl;have r5:=x.at 5 rfl;have r6:=x.at 6 rfl;have e1:=N.at 1 rfl;have e2:=N.at 2 rfl;have e3:=N.at 3 rfl;have e4:=N.at 4 rfl;clear I N x)
  |(go_at_call 158;refine(KJ _ _).mono ?_;rintro e w5 ⟨rfl,L⟩;obtain rfl:=L.symm;clear L)
  |fail)
 all_goals (try go_wp2)
 all_goals go_end0
 all_goals exact⟨rfl,gs,(Aa Y).below (Aa X),(Aa aa).then (Aa X),Aa Z⟩
theorem Td{s:DS}{p:PKV}(h:s.bg=true):Dk s p=(DD p&&K0 s p):=by
 unfold Dk;rw[h];rfl
theorem mr(g B:Nat)(M:Int)(s:DS)(gs:Nat)(v:Value)(rs:List RV)(p:PKV)(w:World)(h:An w g B M s gs v rs)(f:RowAt w p.r.a p.r.n p.r.xs)(hp:Dk s p=false):
  Calls Tryz.prog 126 #[.pointer (some ⟨g,0,none⟩),.agg #[.int .i64 p.o,.int .i64 p.l,.int .i64 p.k,.int .i64 p.z,.int .i64 p.h,.slice p.r.a p.r.n p.r.c,.string p.r.s]] w fun e w'=>Lr e/\Below w.heap.size w w':=by
 cases b:DD p
 ·exact jS g p w f b
 ·cases d:s.bg
  ·unfold Dk at hp
   rw[b,d]at hp;cases hp
  ·rw[Td d,b,Bool.true_and]at hp
   exact(Te g B M s gs v rs p w h d f b).mono fun e w' ⟨j,m⟩=>⟨j.2 hp,m⟩
theorem ms(g B:Nat)(M:Int)(s:DS)(gs:Nat)(v:Value)(rs:List RV)(p:PKV)(w:World)(h:An w g B M s gs v rs)(u:RowAt w p.r.a p.r.n p.r.xs)(hp:Dk s p=true):
  Calls Tryz.prog 126 #[.pointer (some ⟨g,0,none⟩),.agg #[.int .i64 p.o,.int .i64 p.l,.int .i64 p.k,.int .i64 p.z,.int .i64 p.h,.slice p.r.a p.r.n p.r.c,.string p.r.s]] w fun e w'=>e=.returned (.tuple #[])/\∃b v' q,An w' g B M (Cx s p) b v' q/\Tu (CG g gs v) w w'/\Mv w gs v b v':=by
 have m:=(Pw hp).1;cases f:s.bg
 ·obtain⟨rfl,rfl,rfl⟩:=h.fresh f
  obtain rfl:rs=[]:=List.map_eq_nil_iff.1 h.co;refine(jT gs B M p w h u m).mono ?_;rintro e w' ⟨rfl,b,j,d,y⟩;exact⟨rfl,b,_,_,j,⟨d.os,d.tape,d.output,d.size,fun k A C=>d.block k A fun e=>C (.inl e)⟩,.inr y,.inl rfl⟩
 ·rw[Td f,m,Bool.true_and]at hp
  refine(Te g B M s gs v rs p w h f u m).mono ?_;rintro e w' ⟨j,d⟩;have x:Cx s p=s:=by unfold Cx;rw[if_pos f]
  rw[x];exact⟨j.1 hp,gs,v,rs,h.below d,Tu.of_below d,Mv.refl _ _ _⟩
theorem bP(q:Addr)(x:Int)(u:TypeId)(b:Value)(a:List PanicEntry)(w:World)(c:w.cell? q=some (.int .i64 x))(f:w.frozen? q=false):
  CallsD Tryz.prog 125 #[.pointer (some q)] (.panicking ({v:=.iface u b,recovered:=false}::a)) w fun e h w'=>
   e=.returned (.tuple #[])/\h=.panicking ({v:=.iface u b,recovered:=true}::a)/\w'=w.setCell q (.int .i64 1):=by
 refine callsD_of_wpS Tryz.func125 rfl fun j cs d=>?_;apply wpS_seq;apply wpS_region;simp[wpOpsS,go_sem,recoverD,d,Tryz.ntmps125,Exit.thenS];refine wpS_cond (t:=true) (by simp[Act.eval,Array.replicate]) ?_;simp only[if_true];apply wpS_region;simp[wpOpsS,go_sem,c,f,bodyPostS,results,Tryz.results125]
theorem Sd(q:Addr)(w:World):
  CallsD Tryz.prog 125 #[.pointer (some q)] .returning w fun e c w'=>e=.returned (.tuple #[])/\c=.returning/\w'=w:=by
 refine callsD_of_wpS Tryz.func125 rfl fun a cs b=>?_;apply wpS_seq;apply wpS_region;simp[wpOpsS,go_sem,recoverD,b,Tryz.ntmps125,Exit.thenS];refine wpS_cond (t:=false) (by simp[Act.eval,Array.replicate]) ?_;simp only[Bool.false_eq_true,if_false];refine wpS_of_wp (wp_skip ?_);cases a
 simp_all [bodyPostS,results,Tryz.results125]
theorem dr(K m:Nat)(a:Option Addr)(n c:Nat)(us:List RV)(w:World)(ht:Tab w)(j:Aj w a n us)(q:Af us)(A:n<=300)(O:1<=K/\K<=128)(P:m<=64)(L:∀x∈us.map core,B8 (K:Int) (m:Int) x=true)(H:CY (us.map core)=K):
  Calls Tryz.prog 185 #[.int .i64 (K:Int),.slice a n c] w fun e w'=> ∃h f c1 ss,e=.returned (.tuple #[.slice h f c1,.bool true])/\As w' h f ss/\f<=1048576/\(joinL ss).length=K*m/\(∀l:Int,Co (K:Int) l (us.map core) (st ((joinL ss).take l.toNat)))/\Below w.heap.size w w':=by
 have z:=Pt j q;have I:=QB j q;have u:us.length<=300:=by rw[j.1];exact A
 obtain⟨kn,bs,p⟩:=YX (k:=(K:Int)) z
 have d:∀r∈us,AU (K:Int) r.xs=true/\r.s.size=m:=fun r b=>by
  have:=L (core r) (List.mem_map.2 ⟨r,b,rfl⟩);unfold B8 at this;rw[Bool.and_eq_true,Bool.and_eq_true]at this;have o:=decide_eq_true_iff.1 this.2;exact⟨this.1.1,by have:(r.s.size:Int)=(m:Int):=o;omega⟩
 have N:0<sizeOfK (K:Int):=by
  unfold sizeOfK;rw[if_neg (by omega)];omega
 obtain⟨D,o,E⟩:=jz p z I u N (fun r b=>(d r b).1) (fun r b=>(d r b).2) H;refine(fv (K:Int) a n c us kn bs p w ht j q A).mono ?_;rintro e w' ⟨h,f,c1,rfl,J,G⟩;rw[D];obtain⟨C,y⟩:=J.at';rw[<-C]at y;exact⟨h,f,c1,_,rfl,y,by omega,by rw[R1 E,o],fun l=>⟨us,kn,bs,rfl,p,rfl⟩,G⟩
theorem fg(g gs B:Nat)(M:Int)(s:DS)(m:Nat)(v:Value)(rs:List RV)(ov:Bool)(w:World)(ht:∀wx,Below w.heap.size w wx->Tab wx)(b:BkA 174 w g (Je M s (some ⟨gs,0,none⟩)))(o:Av w gs B s.k s.z m v rs ov)(hI:BV s)(hf:∀x∈rs.map core,B8 s.k s.z x=true)(hk:(CY (rs.map core):Int)=s.k):
  Calls Tryz.prog 162 #[.pointer (some ⟨g,0,none⟩)] w fun e w'=> ∃ob,e=.returned (.string ob)/\Co s.k s.l (rs.map core) ob/\Below w.heap.size w w':=by
 obtain⟨⟨⟨k1,k2⟩,z1,z2⟩,l1,l2⟩:=hI.sh;have ac:=hI.lz;obtain⟨K,f⟩:∃K:Nat,s.k=(K:Int):=⟨s.k.toNat,by omega⟩;obtain⟨Z,hZ⟩:∃Z:Nat,s.z=(Z:Int):=⟨s.z.toNat,by omega⟩;obtain⟨N,q⟩:∃N:Nat,s.l=(N:Int):=⟨s.l.toNat,by omega⟩;rw[f,hZ]at hf;rw[f]at hk;have p:=Ab (show∀ob,Co (K:Int) (N:Int) (rs.map core) ob->Co s.k s.l (rs.map core) ob from fun ob h=>by rw[f,q];exact h);have ab:N<=K*Z:=by rw[f,hZ,q]at l2;exact_mod_cast l2
 have ae:N<=8192:=by omega
 have J:=o.rows.rows;have L:=o.short;have C:=o.le;have D:=o.most;have HR:=Ab (fun wx (b:Below w.heap.size w wx)=>rC gs B s.k s.z m v rs ov wx (o.below b));have HD:=Ab (fun(a:Option Addr) (n c:Nat) (us:List RV) wx (b:Below w.heap.size w wx) (hA:Aj wx a n us) (hS:Af us) (he:us.map core=rs.map core) (hn:n<=300)=>dr K Z a n c us wx (ht wx b) hA hS hn (by omega) (by omega) (by rw[he];exact hf) (by rw[he];omega));have HQ:=Ab (fun wx (aa:Below w.heap.size w wx)=>b.below aa);have X:=Ab J;have Y:=Ab L;have d2:=b.at 2 rfl;have d3:=b.at 3 rfl;have d5:=b.at 5 rfl;rw[f]at d3;rw[q]at d2;have HK:=Ab f;have HN:=Ab q;clear ht b o hI hf hk f hZ q l1 l2 k1 k2 z1 z2 ac J L;have ad:rs.length<=256:=Nat.le_trans C D;clear C D;go_enter Tryz.func162,Tryz.ntmps162;go_wp2_with fail
 go_region_held3 (fun w'=>w'.cell? ⟨g,2,none⟩=some (.int .i64 (N:Int))/\w'.cell? ⟨g,3,none⟩=some (.int .i64 (K:Int))/\w'.cell? ⟨g,5,none⟩=some (.pointer (some ⟨gs,0,none⟩))) (go_keep) (first
  |(go_at_call 186;refine(Aa HR _ (Below.refl _ _).drew).mono ?_;rintro e w1 ⟨b1,c1,us,rfl,G,I,d,r⟩;have R:=Ab (show Below w.heap.size w w1 from Ad (Below.refl _ _).drew r);have j:=IC.at G I d (Aa X) (Aa Y);have S:=Ab (Aa HD (some ⟨b1,0,none⟩) rs.length c1 us w1 (Aa R) j.1 j.2.2.1 d (by omega));have T:=Ab d;have P:=Aa HQ w1 (Aa R);have e2:=P.at 2 rfl;have e3:=P.at 3 rfl;have e5:=P.at 5 rfl;rw[Aa HK]at e3;rw[Aa HN]at e2;clear G I d r j P)
  |(go_at_call 185;refine(Aa S).mono ?_;rintro e w2 ⟨a2,m2,c2,ss,rfl,O,E,A,H,u⟩;have D2:=Ab (show Below w.heap.size w w2 from Ad (Aa R) u);have V:=Ab (ng a2 m2 c2 ss N w2 O E (by omega) (by rw[A];exact ab));have W:=Ab (show Co (K:Int) (N:Int) (rs.map core) (st ((joinL ss).take N)) from by have:=H (N:Int);rw[Aa T,Int.toNat_natCast]at this;exact this);have Q:=Aa HQ w2 (Aa D2);have e2:=Q.at 2 rfl;have e3:=Q.at 3 rfl;have e5:=Q.at 5 rfl;rw[Aa HK]at e3;rw[Aa HN]at e2;clear O E A H u Q)
  |fail)
 generalize st ((joinL ss).take N)=ob at*
 go_wp2_with (first
  |(go_at_call 158;refine(KJ _ _).mono ?_;rintro e w5 ⟨rfl,hw⟩;obtain rfl:=hw.symm;clear hw)
  |(go_at_call 187;refine(Aa V).mono ?_;rintro e w3 ⟨rfl,y⟩;have D3:=Ab (Ad (Aa D2) y);clear y))
 go_ret;exact⟨ob,rfl,Aa p ob (Aa W),Aa D3⟩
end Go.Proofs.YtmmikiikddokgaaGreatDoor
