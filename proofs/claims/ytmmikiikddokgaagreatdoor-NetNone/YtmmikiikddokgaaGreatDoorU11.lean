/-
  Laws that the proof stands on.
-/
import Derived.Test.YtmmikiikddokgaaGreatDoorU10
import Derived.Lib.UnsafeStr
import Derived.Laws.Concat
import Derived.Deep.RegionHeld3
import Derived.Deep.AppendLies
namespace Go.Proofs.YtmmikiikddokgaaGreatDoor
open Go.RowKit Go.Sort
set_option linter.unusedVariables false
set_option linter.unusedSimpArgs false
set_option maxRecDepth 4000
set_option maxHeartbeats 8000000
variable {rs:List (List Nat)}{xs:List Nat}{vs:List Value}{n B B':Nat}{v u:Value}{w w':World}
def DY(xs:List Nat):List Value:=xs.map fun(x:Nat)=>Value.int .i64 (x:Int)
theorem Sg(xs:List Nat)(i:Nat)(h:i<xs.length):(DY xs)[i]? =some (.int .i64 ((xs.getD i 0:Nat):Int)):=by
 simp[DY,List.getElem?_eq_getElem h,List.getD_eq_getElem?_getD]
theorem fF(xs:List Nat)(i x:Nat):(DY xs).set i (.int .i64 (x:Int))=DY (xs.set i x):=by
 simp[DY,List.map_set]
def IntsAt(w:World)(a:Option Addr)(n:Nat)(xs:List Nat):Prop:=
 xs.length=n/\(n=0\/∃b off,a=some ⟨b,off,none⟩/\∀i,i<n->w.cell? ⟨b,off+i,none⟩=some (.int .i64 ((xs.getD i 0:Nat):Int)))
theorem IntsAt.at{a:Option Addr}(h:IntsAt w a n xs){i:Nat}(d:i<n):
  ∃b off,a=some ⟨b,off,none⟩/\∀i,i<n->w.cell? ⟨b,off+i,none⟩=some (.int .i64 ((xs.getD i 0:Nat):Int)):=by
 rcases h.2 with c|c
 ·omega
 ·exact c
theorem IntsAt.below{a:Option Addr}(h:IntsAt w a n xs)(f:Below w.heap.size w w'):IntsAt w' a n xs:=by
 refine⟨h.1,?_⟩;rcases h.2 with e|⟨b,off,rfl,c⟩
 ·exact .inl e
 ·exact .inr ⟨b,off,rfl,fun i d=>(f.cell (World.block_lt_of_cell? w _ (c i d))).trans (c i d)⟩
def AD(w:World)(B:Nat)(v:Value)(xs:List Nat):Prop:=w.ownsRow B 3 1 v xs.length (DY xs)
theorem AD.ints(h:AD w B v xs):∃a c,v=.slice a xs.length c/\IntsAt w a xs.length xs:=by
 have b:w.ownsRow B 3 1 v xs.length (DY xs):=h;rcases h.2 with⟨rfl,d⟩|⟨g,cap,e,rfl,l,o,q,p,j,ht⟩
 ·exact⟨none,0,by rw[d],rfl,.inl d⟩
 ·refine⟨_,cap,rfl,rfl,.inr ⟨g,0,rfl,fun i f=>?_⟩⟩
  rw[Nat.zero_add,b.cellAt i (by omega),Sg xs i f]
theorem AD.nil(w:World)(B:Nat):AD w B (.slice none 0 0) []:=World.ownsRow_nil _ _ _ _
theorem AD.mono(h:AD w B v xs)(d:B'<=B):AD w B' v xs:=by
 refine⟨h.1,?_⟩;rcases h.2 with b|⟨g,cap,a,c,e,r⟩
 ·exact .inl b
 ·exact .inr ⟨g,cap,a,c,Nat.le_trans d e,r⟩
theorem AD.below(h:AD w B v xs)(a:Below w.heap.size w w'):AD w' B v xs:=Ka h a
theorem Pr{e f:TypeId}{m:Nat}{cs ds:List Value}(b:e≠f)(h:w.ownsRow B e 1 v n cs)(k:w.ownsRow B' f 1 u m ds):El u v:=by
 rcases h.2 with⟨rfl,_⟩|⟨g,cap,i,rfl,o,l,_⟩
 ·by_cases e:u.ownBlock=none
  ·exact .inl e
  ·exact .inr e
 ·rcases k.2 with⟨rfl,_⟩|⟨g',c,d,rfl,j,a,_⟩
  ·exact .inl rfl
  ·right
   intro e;simp only[Value.ownBlock,Option.some.injEq]at e;rw[e]at a;rw[l]at a;simp at a;exact b a.2
theorem AD.keptV(h:AD w B v xs)(k:AA w B' u vs rs)(a:w.grownBy w' u.ownBlock):AD w' B v xs:=
 World.ownsRow.kept h a (Pr (by decide) k.top h)
theorem Own.keptI{b:List Nat}(h:Own w B v xs)(k:AD w B' u b)(a:w.grownBy w' u.ownBlock):Own w' B v xs:=
 h.kept a (Pr (by decide) k h.2)
theorem AA.keptI{c:List Nat}(h:AA w B v vs rs)(k:AD w B' u c)(a:w.grownBy w' u.ownBlock):AA w' B v vs rs:=
 ⟨h.top.kept a (Pr (by decide) k h.top),fun i u b=>(h.rows i u b).keptI k a,h.apart⟩
theorem VB:(Tryz.prog.info? 3).map (fun i=>(i.zero,i.size,i.bytes))=some (some (.int .i64 0),1,8):=by kernel_rfl
theorem RB{ops:Array Oper}{rest:List Oper}{o:Oper}{act:Act}{Q:Exit->Act->World->Prop}(d:o.guard=none)(s x:Operand)
  (G:o.op=.call {callee:=.builtin .append,args:=#[s,x],argTypes:=#[27,27]}) (B:Nat) (v:Value) (xs:List Nat) (y:Nat)
  (H:act.eval s=v) (J:act.eval x=.slice (some ⟨w.heap.size,0,none⟩) 1 1) (h:AD w B v xs) (A:B<=w.heap.size) (L:xs.length<=1048576)
  (C:∀q w',AD w' B q (xs++[y])->w.grownBy w' v.ownBlock->wpList Tryz.prog ops Q rest (act.put o.dst q) w'):wpList Tryz.prog ops Q (o::rest) act (w.alloc (.cells #[.int .i64 (y:Int)] 3)):=by
 obtain⟨K,E,f,i,l⟩:=info_parts VB;have c:Below w.heap.size w (w.alloc (.cells #[.int .i64 (y:Int)] 3)):=(Below.refl _ _).alloc (Nat.le_refl _) _;have r:=h.below c
 refine wpList_append_own _ d s x 27 G B 3 K (.int .i64 0) 1 8 Tryz.underlying27 E f i l rfl (by decide) v xs.length (DY xs) H r ⟨w.heap.size,0,none⟩ 1 1 [.int .i64 (y:Int)] J rfl (fun j u p=>?_)
  (fun u I=>by rw[List.mem_singleton.1 I];rfl) (by unfold maxLen;omega) (by omega) (Nat.le_trans A c.size) ?_
 ·match j with
  |0=>
   have D:(w.alloc (.cells #[.int .i64 (y:Int)] 3)).cell? ⟨w.heap.size,0,none⟩=some (.int .i64 (y:Int)):=by rw[World.cell?_alloc_at _ _ _ _ rfl];rfl
   simpa [Addr.add,D]using p
  |j+1=>simp at p
 ·intro v' w' a b _
  refine C v' w' ?_ (By (CM c _) b (.inl rfl));have e:DY xs++[.int .i64 (y:Int)]=DY (xs++[y]):=by simp[DY]
  rw[e]at a;show w'.ownsRow B 3 1 v' (xs++[y]).length (DY (xs++[y]));rw[List.length_append];exact a
theorem AD.grown(h:AD w B v xs)(b:w.grownBy w' v.ownBlock)(a:B<=w.heap.size):Below B w w':=CJ b a fun k c=>(World.ownsRow.lt h k c).1
theorem AA.grown(h:AA w B v vs rs)(b:w.grownBy w' v.ownBlock)(a:B<=w.heap.size):Below B w w':=CJ b a fun k c=>(h.top.lt k c).1
theorem lq(rs:List (List Nat))(k:Nat)(a:k<rs.length):(firstI (reduceL (broughtL (rs.take k)) (rs.getD k []))<0->keepL rs (k+1)=keepL rs k/\broughtL (rs.take (k+1))=broughtL (rs.take k))/\
  (0<=firstI (reduceL (broughtL (rs.take k)) (rs.getD k []))->keepL rs (k+1)=keepL rs k++[k]/\broughtL (rs.take (k+1))=broughtL (rs.take k)++[reduceL (broughtL (rs.take k)) (rs.getD k [])]):=by
 rw[Ro a];unfold Dh;simp only[keepL];constructor
 ·intro h
  rw[if_pos h,if_pos h];exact⟨rfl,rfl⟩
 ·intro h
  rw[if_neg (by omega),if_neg (by omega)];exact⟨rfl,rfl⟩
theorem KM(a:Option Addr)(n c:Nat)(rs:List (List Nat))(w:World)(ht:Tab w)(h:VecsAt w a n rs)(hf:AC 1048576 rs)(hn:n<=100000):
  Calls Tryz.prog 188 #[.slice a n c] w fun e w'=> ∃vk vb vs,e=.returned (.tuple #[vk,vb])/\AD w' w.heap.size vk (keepL rs rs.length)/\AA w' w.heap.size vb vs (broughtL rs)/\Below w.heap.size w w':=by
 obtain rfl:n=rs.length:=h.1.symm;go_enter Tryz.func188,Tryz.ntmps188;go_wp2
 go_loopw [2,3,9] (fun kv bv i wr=> ∃k:Nat,k<=rs.length/\i=.int .i64 k/\∃ak ck ab cb vs,kv=.slice ak (keepL rs k).length ck/\bv=.slice ab (broughtL (rs.take k)).length cb/\
  Hid (AD wr w.heap.size (.slice ak (keepL rs k).length ck) (keepL rs k))/\Hid (AA wr w.heap.size (.slice ab (broughtL (rs.take k)).length cb) vs (broughtL (rs.take k)))/\Hid (Below w.heap.size w wr)) (fun _ _ i _=>rs.length-(intOf i).toNat)
 case atStart=>exact⟨0,Nat.zero_le _,rfl,none,0,none,0,[],rfl,rfl,Ab (AD.nil _ _),Ab (AA.nil _ _),Ab (Below.refl _ _)⟩
 case round=>
  obtain⟨k,hk,rfl,ak,ck,ab,cb,vs,rfl,rfl,HI,K,HB⟩:=hrel;by_cases Y:k<rs.length
  ·have L:=Aa HB
   obtain⟨b,off,rfl,hc⟩:=(h.below L).at Y;obtain⟨ai,ci,s,N⟩:=hc k Y;obtain⟨_,_,e1,O⟩:=(Aa K).vecs;simp only[Value.slice.injEq,true_and]at e1;obtain⟨rfl,rfl⟩:=e1;have W:=Fa (hf.take k);have au:=Kj (hf.take k);have aw:(rs.take k).length<=k:=List.length_take_le _ _;have av:=GA rs k;have HR:=Ab (N6 ab _ cb (broughtL (rs.take k)) ai _ ci (rs.getD k []) wr (ht.below L) O W N (by omega) (hf.getD k).2);have aq:=(EO W (hf.getD k).1 (hf.getD k).2).2;have HF:=Ab (fun(w1:World) (R:Option Addr) (cr:Nat) (hb:Below wr.heap.size wr w1) (hr:RowAt w1 R (reduceL (broughtL (rs.take k)) (rs.getD k [])).length (reduceL (broughtL (rs.take k)) (rs.getD k [])))=>Jp R _ cr (reduceL (broughtL (rs.take k)) (rs.getD k [])) w1 (ht.below (Ad L hb)) hr aq);obtain⟨ag,ah⟩:=lq rs k Y;have P:=Ab ag;have Q:=Ab ah;clear hc N h W O ag ah;generalize rs.getD k []=y at*;generalize broughtL (rs.take k)=bk at*;generalize keepL rs k=kk at*;generalize reduceL bk y=r at*;have an:bk.length<=1048576:=by omega
   have ap:kk.length<=1048576:=by omega
   by_cases C:firstI r<0
   ·obtain⟨x,A⟩:=Aa P C
    have ao:decide (0<=firstI r)=false:=by rw[decide_eq_false_iff_not];omega
    have o:=Ab x;have p:=Ab A;clear C x A P Q;generalize firstI r=f at*;go_wp2_with fail;refine(Aa HR).mono ?_;rintro e w1 ⟨v,rfl,Z,d⟩;obtain⟨R,cr,rfl,hr⟩:=Z.row;have q:=Ab (Aa HF w1 R cr d hr);have S:=(Aa HI).below d;have V:=(Aa K).below d;have l:=Ab (Ad L d);clear d Z hr HF HR HB HI K L s;go_wp2_with fail;refine(Aa q).mono ?_;rintro e w2 ⟨rfl,hw⟩;obtain rfl:=hw.symm;rw[<-Aa o];rw[<-Aa p];rw[<-Aa o]at S;rw[<-Aa p]at V;have j:=Ab S;have D:=Ab V;clear S V o p q;go_wp2;go_roundw
    case rel=>exact⟨k+1,by omega,by go_num,ak,ck,ab,cb,vs,rfl,rfl,j,D,l⟩
    case measure=>simp[intOf];omega
   ·obtain⟨x,A⟩:=Aa Q (by omega)
    have ao:decide (0<=firstI r)=true:=by rw[decide_eq_true_iff];omega
    have o:=Ab x;have p:=Ab A;clear C x A P Q;generalize firstI r=f at*;go_wp2_with fail;refine(Aa HR).mono ?_;rintro e w1 ⟨v,rfl,Z,d⟩;obtain⟨R,cr,rfl,hr⟩:=Z.row;have q:=Ab (Aa HF w1 R cr d hr);have aa:=Ab ((Aa K).dis_new Z);have j:=Ab ((Aa HI).below d);have D:=Ab ((Aa K).below d);have l:=Ab (Ad L d);have ac:=Ab (Z.mono L.size);clear d Z hr HF HR HB HI K L s;go_wp2_with fail;refine(Aa q).mono ?_;rintro e w2 ⟨rfl,hw⟩;obtain rfl:=hw.symm;clear q
    go_wp2_with (first
     |(at_builtin;refine RB rfl _ _ rfl w.heap.size (.slice ak kk.length ck) kk k rfl rfl (Aa j) (Aa l).size ap ?_;intro s4 w4 G J;have H:=(Aa D).keptI (Aa j) J;have af:=(Aa ac).keptI (Aa j) J;have E:=(Aa l).trans ((Aa j).grown J (Aa l).size);rw[<-Aa o]at G;obtain⟨a4,c4,rfl,_⟩:=G.ints;clear J)
     |(at_builtin;refine eM rfl _ _ rfl w.heap.size (.slice ab bk.length cb) vs bk (.slice R r.length cr) r rfl rfl H E.size af (Aa aa) an ?_;intro s5 w5 I X;have ae:=G.keptV H X;have ad:=E.trans (H.grown X E.size);rw[<-Aa p]at I;obtain⟨a5,c5,rfl⟩:=I.shape;have am:=Ab I;have al:=Ab ae;have aj:=Ab ad;clear I ae ad X G H af E j D ac aa l o p))
    go_roundw
    case rel=>exact⟨k+1,by omega,by go_num,a4,c4,a5,c5,_,rfl,rfl,al,am,aj⟩
    case measure=>simp[intOf];omega
  ·obtain rfl:k=rs.length:=by omega
   rw[List.take_length]at K;rw[List.take_length];clear h;go_wp2;go_ret2;exact⟨_,_,_,rfl,Aa HI,Aa K,Aa HB⟩
theorem VF(a:Option Addr)(n c:Nat)(rs:List (List Nat))(w:World)(ht:Tab w)(h:VecsAt w a n rs)(l:AC 1048576 rs)(q:n<=100000):
  Calls Tryz.prog 163 #[.slice a n c] w fun e w'=> ∃d,e=.returned d/\AD w' w.heap.size d (keepL rs rs.length)/\Below w.heap.size w w':=by
 have f:=Ab (KM a n c rs w ht h l q);clear h l;generalize keepL rs rs.length=y at*;generalize broughtL rs=x at*;go_enter Tryz.func163,Tryz.ntmps163;go_wp2_with fail;refine(Aa f).mono ?_;rintro e w1 ⟨d,A,vs,rfl,b,i,j⟩;obtain⟨r,c1,rfl,_⟩:=b.ints;obtain⟨s,c2,rfl⟩:=i.shape;have p:=Ab b;have o:=Ab j;clear b i j f;go_wp2;go_ret;exact⟨_,rfl,Aa p,Aa o⟩
def Fj(rs:List (List Nat))(xs:List Nat):Bool:= !decide (firstI (reduceL (broughtL rs) xs)<0)
theorem jy(a:Option Addr)(n c:Nat)(rs:List (List Nat))(j:Option Addr)(m s:Nat)(xs:List Nat)(w:World)(ht:Tab w)(h:VecsAt w a n rs)(f:AC 1048576 rs)(x:RowAt w j m xs)(J:n<=100000)(I:m<=1048576):
  Calls Tryz.prog 349 #[.slice a n c,.slice j m s] w fun e w'=>e=.returned (.bool (Fj rs xs))/\Below w.heap.size w w':=by
 have q:=Ab (KM a n c rs w ht h f J);have p:=Fa f;have H:=Kj f;have K:=h.1;have y:Fj rs xs= !decide (firstI (reduceL (broughtL rs) xs)<0):=rfl;rw[y];clear h f y;have r:=Ab (fun(w1:World) (l:Option Addr) (c1:Nat) (d:Below w.heap.size w w1) (L:VecsAt w1 l (broughtL rs).length (broughtL rs))=>PZ l _ c1 (broughtL rs) j m s xs w1 (ht.below d) L p (x.below d) (by omega) I);generalize keepL rs rs.length=O at*;generalize broughtL rs=G at*;generalize decide (firstI (reduceL G xs)<0)=N at*;clear x;go_enter Tryz.func349,Tryz.ntmps349;go_wp2_with fail;refine(Aa q).mono ?_;rintro e w1 ⟨Q,P,vs,rfl,A,C,d⟩;obtain⟨l,c1,rfl,_⟩:=A.ints;obtain⟨E,c2,rfl,b⟩:=C.vecs;have i:=Ab (Aa r w1 E c2 d b);have D:=Ab d;clear A C d q r b;go_wp2_with fail;refine(Aa i).mono ?_;rintro e w2 ⟨rfl,o⟩;go_wp2;go_ret;exact⟨rfl,Ad (Aa D) o⟩
theorem Ol(a:Option Addr)(n c:Nat)(d:List RV)(w:World)(h:Aj w a n d)(K:n<=1048576):
  Calls Tryz.prog 164 #[.slice a n c] w fun e w'=> ∃v,e=.returned v/\CP w' w.heap.size v d/\Below w.heap.size w w':=by
 obtain rfl:=h.1;have N:=Ab h;have S:=QF d.length K;have x:=QE w d.length K;rw[<-Sv]at x;have x:=Ab x;have q:Hid (Below w.heap.size w (w.alloc (.cells (madeCells #[.slice none 0 0] d.length) 40))):=Ab ((Below.refl _ _).alloc (Nat.le_refl _) _);clear h;go_enter Tryz.func164,Tryz.ntmps164;go_wp2;go_loopw [11] (fun i wr=> ∃k:Nat,k<=d.length/\i=.int .i64 k/\Hid (wr.ownsRow w.heap.size 40 1 (.slice (some ⟨w.heap.size,0,none⟩) d.length d.length) d.length (ER d k))/\Hid (Below w.heap.size w wr)) (fun i _=>d.length-(intOf i).toNat)
 case atStart=>exact⟨0,Nat.zero_le _,rfl,x,q⟩
 case round=>
  obtain⟨k,X,rfl,E,D⟩:=hrel;clear x q;by_cases l:k<d.length
  ·obtain⟨b,off,rfl,A⟩:=((Aa N).below (Aa D)).at l
   obtain⟨O,P⟩:=A k l;have J:(k:Int)<(d.length:Int):=by omega
   have I:=Su d k l;have C:(ER d k)[k]? =some (.slice none 0 0):=by
    unfold ER;have R:((d.take k).map fun r=>Value.slice r.a r.n r.c).length=k:=by simp;omega
    rw[List.getElem?_append_right (by omega),R,Nat.sub_self,List.getElem?_replicate,if_pos (by omega)]
   generalize d.getD k .dflt=r at*;have f:Below wr.heap.size wr (wr.alloc (.cells #[.slice r.a r.n r.c,.string r.s] 73)):=(Below.refl _ _).alloc (Nat.le_refl _) _;have G:=Ka (Aa E) f;have j:=G.cellAt k (by omega);rw[C]at j;have Q:=G.frozenAt k;have o:=(G.stored k (.slice r.a r.n r.c)).1;rw[I]at o;have y:=(Ad (Aa D) f).setCell (p:=⟨w.heap.size,k,none⟩) (Nat.le_refl _) (.slice r.a r.n r.c);obtain⟨V,W⟩:=GH wr (.slice r.a r.n r.c) (.string r.s);have L:=Ab o;have H:=Ab y;clear A G o y f I C E D;go_wp2;go_roundw
   case rel=>exact⟨k+1,by omega,by go_num,L,H⟩
   case measure=>simp[intOf];omega
  ·obtain rfl:k=d.length:=by omega
   rw[TT]at E;go_wp2;go_ret;exact⟨_,rfl,Aa E,Aa D⟩
theorem KF(a:List RV):(vecsL a).length=a.length:=by simp[vecsL]
theorem jc(a:Option Addr)(n c:Nat)(d:List RV)(w:World)(ht:Tab w)(h:Aj w a n d)(x:Ae w d)(C:Af d)(G:n<=100000):
  Calls Tryz.prog 128 #[.slice a n c] w fun e w'=>e=.returned (.int .i64 ((keepL (vecsL d) d.length).length:Int))/\Below w.heap.size w w':=by
 obtain rfl:=h.1;have A:=Ab (Ol a d.length c d w h (by omega));have y:=Ab (fun(w1:World) (q:Option Addr) (c1:Nat) (E:Below w.heap.size w w1) (H:VecsAt w1 q d.length (vecsL d))=>VF q d.length c1 (vecsL d) w1 (ht.below E) H (P7 x C) G);have D:=Ab x;clear h x C ht;go_enter Tryz.func128,Tryz.ntmps128;go_wp2_with fail;refine(Aa A).mono ?_;rintro e w1 ⟨v1,rfl,l,f⟩;obtain⟨q,c1,rfl,p⟩:=l.vecs ((Aa D).below f);have b:=Aa y w1 q c1 f p;rw[KF]at b;have b:=Ab b;have i:=Ab f;clear l f p A y;go_wp2_with fail;refine(Aa b).mono ?_;rintro e w2 ⟨v2,rfl,o,j⟩;obtain⟨I,c2,rfl,s⟩:=o.ints;have r:=Ab (Ad (Aa i) j);clear o j s b i;go_wp2;go_ret;exact⟨rfl,Aa r⟩
theorem VZ{s:ByteArray}(h:s.size=0):s=⟨#[]⟩:=by
 apply I9;have a:(tx s).length=0:=by rw[AT];exact h
 rw[List.eq_nil_of_length_eq_zero a];rfl
theorem fi(s:ByteArray)(w:World)(R:s.size<=1048576):
  Calls Tryz.prog 64 #[.string s] w fun e w'=>e=.returned (.string s)/\Below w.heap.size w w':=by
 by_cases I:s.size=0
 ·obtain rfl:=VZ I
  go_enter Tryz.func64,Tryz.ntmps64;go_wp2;go_ret;exact⟨rfl,Below.refl _ _⟩
 ·have N:¬((s.size:Int)=0):=by omega
  obtain⟨G,d,D,f,E⟩:=info_parts Pk;have q:Tryz.prog.cellsOf 5=1:=by simp[Program.cellsOf,d,f]
  have C:=fun W=>run_make (P:=Tryz.prog) W 165 5 G (.int .u8 0) Tryz.underlying165 d D .i64 .i64 (s.size:Int) (s.size:Int) (by omega) (by omega) (by rw[E];omega) (by omega);simp only[Int.toNat_natCast]at C;have r:(madeCells (Value.int .u8 0).cells (s.size*G.size)).size=s.size:=by rw[size_madeCells,f,Nat.mul_one]
  generalize madeCells (Value.int .u8 0).cells (s.size*G.size)=a at*;have c:(w.alloc (.cells a 5)).heap[w.heap.size]? =some (.cells a 5 (0,0)):=by
   show(w.heap.push _)[w.heap.size]? =_;simp
  have l:Below w.heap.size w (w.alloc (.cells a 5)):=(Below.refl _ _).alloc (Nat.le_refl _) _;have O:=Rh (P:=Tryz.prog) (w.alloc (.cells a 5)) 165 9 3 5 w.heap.size s.size s.size s a 5 Tryz.underlying165 (by rw[d];simp[f]) c r rfl;have y:=setRow_heap (w.alloc (.cells a 5)) w.heap.size a (s.data.map fun b=>Value.int .u8 (b.toNat:Int)) 5 (0,0) c;have J:(s.data.map fun b=>Value.int .u8 (b.toNat:Int)).size=s.size:=by rw[Array.size_map];rfl
  have A:s.data.toList.length=s.size:=Array.length_toList;have i:Below w.heap.size w ((w.alloc (.cells a 5)).setRow w.heap.size (s.data.map fun b=>Value.int .u8 (b.toNat:Int))):=l.trans ⟨rfl,rfl,rfl,by simp,fun k Q=>setRow_other _ _ k _ (by omega)⟩;have o:∀(j:Nat) (x:UInt8),s.data.toList[j]? =some x->((w.alloc (.cells a 5)).setRow w.heap.size (s.data.map fun b=>Value.int .u8 (b.toNat:Int))).cell? ((⟨w.heap.size,0,none⟩:Addr).add j)=some (.int .u8 x.toNat):=by
   intro j x K;have e:(⟨w.heap.size,0,none⟩:Addr).add j=⟨w.heap.size,j,none⟩:=by unfold Addr.add;split<;>simp_all
   rw[e,cell_setRow_same _ _ j _ _ _ _ c];rw[Array.getElem?_toList]at K;simp[K]
  have h:=Lib.run_unsafeString_row (P:=Tryz.prog) ((w.alloc (.cells a 5)).setRow w.heap.size (s.data.map fun b=>Value.int .u8 (b.toNat:Int))) 176 3 9 5 Tryz.underlying176 q w.heap.size s.size (by unfold World.shape?;rw[y];exact congrArg (fun n=>some (5,n)) J) s.data.toList
   (fun e=>I (by rw[<-A,e];rfl)) (by rw[A];omega) (by rw[A];omega) o
  rw[A]at h;have H:(⟨s.data.toList.toArray⟩:ByteArray)=s:=by cases s;simp
  rw[H]at h;generalize (w.alloc (.cells a 5)).setRow w.heap.size (s.data.map fun b=>Value.int .u8 (b.toNat:Int))=w1 at*;have L:=Ab (Lib.below_freeze i (p:=⟨w.heap.size,0,none⟩) (Nat.le_refl _) s.size);clear o i J y l c r A H q;go_enter Tryz.func64,Tryz.ntmps64;go_wp2;go_ret;exact⟨rfl,Aa L⟩
theorem GF(s:ByteArray)(w:World)(c:s.size<=1048576):
  Calls Tryz.prog 33 #[.string s] w fun e w'=>e=.returned (.string s)/\Below w.heap.size w w':=by
 go_enter Tryz.func33,Tryz.ntmps33;go_wp2_with fail;refine(fi s w c).mono ?_;rintro e w1 ⟨rfl,a⟩;have b:=Ab a;clear a;go_wp2;go_ret;exact⟨rfl,Aa b⟩
variable {ov:Bool}{k z:Int}{rs:List RV}{g B m:Nat}{F:Nat->Prop}{T:TypeId}{v0 v1 v2 v3 v4 v:Value}{w w':World}
def Bj(T:TypeId)(w:World)(g:Nat)(v0 v1 v2 v3 v4:Value):Prop:=w.heap[g]? =some (.cells #[v0,v1,v2,v3,v4] T (0,0))
theorem XC(T:TypeId)(w:World)(v0 v1 v2 v3 v4:Value):Bj T (w.alloc (.cells #[v0,v1,v2,v3,v4] T)) w.heap.size v0 v1 v2 v3 v4:=by
 show(w.heap.push _)[w.heap.size]? =_;simp
theorem Bj.lt(h:Bj T w g v0 v1 v2 v3 v4):g<w.heap.size:=(Array.getElem?_eq_some_iff.1 h).1
theorem Bj.belowB(h:Bj T w g v0 v1 v2 v3 v4)(a:Below B w w')(b:g<B):Bj T w' g v0 v1 v2 v3 v4:=(a.block g b).trans h
theorem Bj.below(h:Bj T w g v0 v1 v2 v3 v4)(a:Below w.heap.size w w'):Bj T w' g v0 v1 v2 v3 v4:=h.belowB a h.lt
theorem Bj.tu(h:Bj T w g v0 v1 v2 v3 v4)(ht:Tu F w w')(a:¬F g):Bj T w' g v0 v1 v2 v3 v4:=(ht.block g h.lt a).trans h
theorem Bj.kept{row:Option Nat}(h:Bj T w g v0 v1 v2 v3 v4)(b:w.grownBy w' row)(a:some g≠row):Bj T w' g v0 v1 v2 v3 v4:=(b.block g h.lt a).trans h
theorem Bj.at(h:Bj T w g v0 v1 v2 v3 v4):w.cell? ⟨g,0,none⟩=some v0/\w.cell? ⟨g,1,none⟩=some v1/\w.cell? ⟨g,2,none⟩=some v2/\w.cell? ⟨g,3,none⟩=some v3/\w.cell? ⟨g,4,none⟩=some v4:=by
 unfold Bj at h;refine⟨?_,?_,?_,?_,?_⟩<;>(rw[cell_of_row w g _ _ _ _ h];rfl)
theorem Bj.frz(h:Bj T w g v0 v1 v2 v3 v4)(i:Nat):w.frozen? ⟨g,i,none⟩=false:=by
 unfold Bj at h;simp[World.frozen?,h]
theorem Bj.set3(h:Bj T w g v0 v1 v2 v3 v4)(u:Value):Bj T (w.setCell ⟨g,3,none⟩ u) g v0 v1 v2 u v4:=heap_setCell_same w g 3 _ _ u h
theorem Bj.set4(h:Bj T w g v0 v1 v2 v3 v4)(u:Value):Bj T (w.setCell ⟨g,4,none⟩ u) g v0 v1 v2 v3 u:=heap_setCell_same w g 4 _ _ u h
theorem Bj.sets(h:Bj T w g v0 v1 v2 v3 v4)(u0 u1 u2 u3 u4:Value):
  Bj T (((((w.setCell ⟨g,0,none⟩ u0).setCell ⟨g,1,none⟩ u1).setCell ⟨g,2,none⟩ u2).setCell ⟨g,3,none⟩ u3).setCell ⟨g,4,none⟩ u4) g u0 u1 u2 u3 u4:=
 heap_setCell_same _ g 4 _ _ u4 (heap_setCell_same _ g 3 _ _ u3 (heap_setCell_same _ g 2 _ _ u2 (heap_setCell_same _ g 1 _ _ u1 (heap_setCell_same w g 0 _ _ u0 h))))
theorem Bj.drew(h:Bj T w g v0 v1 v2 v3 v4):Bj T w.drew g v0 v1 v2 v3 v4:=h
theorem Ak.tu(h:Ak w B v rs)(ht:Tu F w w')(e:∀j,v.ownBlock=some j->¬F j):Ak w' B v rs:=by
 refine⟨h.1,?_⟩;rcases h.2 with d|⟨g,cap,b,c,f,a,r⟩
 ·exact .inl d
 ·exact .inr ⟨g,cap,b,c,f,(ht.block g (Array.getElem?_eq_some_iff.1 a).1 (e g (by rw[c];rfl))).trans a,r⟩
theorem Ak.blk5(h:Ak w B v rs)(b:v.ownBlock=some g):∃a,w.heap[g]? =some (.cells a 73 (0,0)):=by
 rcases h.2 with⟨rfl,_⟩|⟨g',cap,a,rfl,_,c,_⟩
 ·cases b
 ·simp only[Value.ownBlock,Option.some.injEq]at b
  exact⟨a,b▸c⟩
def AF(w:World)(B:Nat)(rs:List RV):Prop:=∀r∈rs,Own w B (.slice r.a r.n r.c) r.xs
theorem AF.nil(w:World)(B:Nat):AF w B []:=fun r a=>by cases a
theorem AF.below(h:AF w B rs)(a:Below w.heap.size w w'):AF w' B rs:=fun r b=>(h r b).below a
theorem AF.mono{B':Nat}(h:AF w B rs)(a:B'<=B):AF w B' rs:=fun r b=>(h r b).mono a
theorem AF.snoc{r:RV}(h:AF w B rs)(d:Own w B (.slice r.a r.n r.c) r.xs):AF w B (rs++[r]):=fun x b=>by
 rcases List.mem_append.1 b with b|b
 ·exact h x b
 ·rw[List.mem_singleton.1 b];exact d
theorem AF.rows(h:AF w B rs):Ae w rs:=fun r b=>by
 obtain⟨a,c,e,i⟩:=(h r b).row;simp only[Value.slice.injEq]at e;obtain⟨d,f,j⟩:=e;exact⟨by rw[d,f];exact i,(h r b).cap⟩
theorem AF.tu(h:AF w B rs)(ht:Tu F w w')(c:∀j a,w.heap[j]? =some (.cells a 265 (0,0))->¬F j):AF w' B rs:=fun r b=>
 (h r b).tu ht fun j e=>by
  obtain⟨a,d⟩:=(h r b).blkU e;exact c j a d
def C0(g:Nat)(v:Value)(k:Nat):Prop:=k=g\/v.ownBlock=some k
structure Av(w:World)(g B:Nat)(k z:Int)(m:Nat)(v:Value)(rs:List RV)(ov:Bool):Prop where
 blk:Bj 225 w g (.int .i64 k) (.int .i64 z) (.int .i64 (m:Int)) v (.bool ov)
 lo:B<=g
 own:Ak w B v rs
 rows:AF w B rs
 le:rs.length<=m
 most:m<=256
 short:Af rs
theorem Av.below(h:Av w g B k z m v rs ov)(a:Below w.heap.size w w'):Av w' g B k z m v rs ov:=
 ⟨h.blk.below a,h.lo,h.own.below a,h.rows.below a,h.le,h.most,h.short⟩
theorem Av.lt(h:Av w g B k z m v rs ov):g<w.heap.size:=h.blk.lt
theorem Av.low(h:Av w g B k z m v rs ov):∀j,j<B->¬C0 g v j:=fun j b a=>by
 rcases a with rfl|a
 ·have:=h.lo;omega
 ·have:=(World.ownsRow.lt h.own j a).1;omega
theorem Av.words(h:Av w g B k z m v rs ov):∀j b,w.heap[j]? =some (.cells b 265 (0,0))->¬C0 g v j:=fun j b a c=>by
 rcases c with rfl|c
 ·have:=h.blk
  unfold Bj at this;rw[this]at a;simp only[Option.some.injEq,Obj.cells.injEq]at a;exact absurd a.2.1 (by decide)
 ·obtain⟨d,e⟩:=h.own.blk5 c
  rw[e]at a;simp only[Option.some.injEq,Obj.cells.injEq]at a;exact absurd a.2.1 (by decide)
theorem Av.keeps(h:Av w g B k z m v rs ov)(ht:Tu (C0 g v) w w')(a:B<=w.heap.size):Below B w w':=ht.below a h.low
theorem Av.lob(h:Av w g B k z m v rs ov):B<=w.heap.size:=Nat.le_of_lt (Nat.lt_of_le_of_lt h.lo h.lt)
theorem Av.other{g2 l:Nat}{q s:Int}{r:Nat}{f:List RV}{e:Bool}(h:Av w g B k z m v rs ov)(d:Av w g2 l q s r v2 f e)
  (o:g≠g2) (p:∀j,v.ownBlock=some j->v2.ownBlock≠some j) (ht:Tu (C0 g2 v2) w w'):Av w' g B k z m v rs ov:=by
 refine⟨h.blk.tu ht fun a=>?_,h.lo,h.own.tu ht fun j i a=>?_,h.rows.tu ht d.words,h.le,h.most,h.short⟩
 ·rcases a with a|a
  ·exact o a
  ·obtain⟨c,b⟩:=d.own.blk5 a
   have:=h.blk;unfold Bj at this;rw[this]at b;simp only[Option.some.injEq,Obj.cells.injEq]at b;exact absurd b.2.1 (by decide)
 ·rcases a with rfl|a
  ·obtain⟨c,b⟩:=h.own.blk5 i
   have:=d.blk;unfold Bj at this;rw[this]at b;simp only[Option.some.injEq,Obj.cells.injEq]at b;exact absurd b.2.1 (by decide)
  ·exact p j i a
theorem Av.at(h:Av w g B k z m v rs ov):∃a c,v=.slice a rs.length c/\Aj w a rs.length rs/\rs.length<=c/\c<=9223372036854775807:=h.own.rows h.rows.rows
def B8(k z:Int)(x:List Nat×ByteArray):Bool:=AU k x.1&&decide (0<cnt x.1)&&decide ((x.2.size:Int)=z)
def IL(k z:Int)(m:Nat)(L:List (List Nat×ByteArray))(x:List Nat×ByteArray):List (List Nat×ByteArray):=if B8 k z x=true/\L.length<m then L++[x]else L
def IM(k z:Int)(m:Nat)(L:List (List Nat×ByteArray))(o:Bool)(x:List Nat×ByteArray):Bool:=if B8 k z x=true/\¬L.length<m then true else o
def IK(k z:Int)(m:Nat)(L:List (List Nat×ByteArray))(x:List Nat×ByteArray):Int:=if B8 k z x=true then(if L.length<m then 0 else 5)else 1
theorem Af.snoc{r:RV}(h:Af rs)(c:r.n<=10)(d:r.s.size<=1000):Af (rs++[r]):=fun i=>by
 by_cases b:i<rs.length
 ·rw[List.getD_eq_getElem?_getD,List.getElem?_append_left b,<-List.getD_eq_getElem?_getD];exact h i
 ·by_cases a:i=rs.length
  ·rw[a,List.getD_eq_getElem?_getD,List.getElem?_append_right (Nat.le_refl _),Nat.sub_self];exact⟨c,d⟩
  ·rw[List.getD_eq_getElem?_getD,List.getElem?_eq_none (by rw[List.length_append,List.length_singleton];omega)];exact⟨Nat.zero_le _,Nat.zero_le _⟩
end Go.Proofs.YtmmikiikddokgaaGreatDoor
