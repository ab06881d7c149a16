/- Laws for the proof. -/
import Derived.Test.YtfpmnekaockodaaGreatDoorU44
namespace Go.Proofs.YtfpmnekaockodaaGreatDoor
open Go.RowKit Go.Sort
set_option linter.all false
set_option maxRecDepth 4000
set_option maxHeartbeats 8000000
variable {ok:Bool}{f:A4}{a nd b:Int}{L:List Nat}{n:Ao}{x0 x1 x2:BB}{T T':AF}{q k k' x y:Nat}{nv:Value}{w w':World}
theorem fh:(Tryz.prog.info? 90).map (fun i=>(i.zero,i.size,i.bytes))=some (some (.pointer none),1,8):=by kernel_rfl
theorem dm{ops:Array Oper}{o:Oper}{a:Act}{K:Act->World->Prop}{Q:Exit->Act->World->Prop}{E:Prop}(d:o.guard=none)(s x:Operand)
  (C:o.op=.call {callee:=.builtin .append,args:=#[s,x],argTypes:=#[87,87]}) (B:Nat) (v:Value) (ls:List BB) (l:BB) (D:a.eval s=v) (c:w.ownsRow B 90 1 v ls.length (Ey ls)) (b:Nat)
  (I:a.eval x=.slice (some ⟨b,0,none⟩) 1 1) (z:w.heap[b]? =some (.cells #[.pointer (some ⟨l.g,0,none⟩)] 90 (0,0))) (O:ls.length<=1000000) (r:B<=w.heap.size)
  (h:∀g cap w',w'.ownsRow B 90 1 (.slice (some ⟨g,0,none⟩) (ls.length+1) cap) (ls++[l]).length (Ey (ls++[l]))->w.grownBy w' v.ownBlock->K (a.put o.dst (.slice (some ⟨g,0,none⟩) (ls.length+1) cap)) w'):
  if Region.wanted o (yielded ops a.tmps)=true then Oper.wp Tryz.prog o a w K Q else E:=by
 obtain⟨J,A,e,i,j⟩:=info_parts fh
 refine step_append_lies w d s x 87 C B 90 J (.pointer none) 1 8 Tryz.underlying87 A e i j rfl (by decide) v ls.length (Ey ls) D c ⟨b,0,none⟩ 1 1 [.pointer (some ⟨l.g,0,none⟩)] I rfl
  (World.news_of_block z) (fun u H=>by rw[List.mem_singleton.1 H];rfl) (by decide) (by unfold maxLen;omega) (by omega) r _ rfl (fun g cap w' m p N _=>h g cap w' ?_ p)
 rw[List.length_append,show Ey (ls++[l])=Ey ls++[Value.pointer (some ⟨l.g,0,none⟩)] by simp[Ey]];exact m
theorem AB.push{w1 w2 w3:World}{B:Nat}{ns:List BB}(h:AB w q B ⟨nv,ns,0,.slice none 0 0,[]⟩)(Q:Below w.heap.size w w1){g:Nat}{n:Ao}(J:Al w1 g w.heap.size n)(P:B<=w.heap.size)(p:Below w1.heap.size w1 w2){v:Value}
  (K:w3.ownsRow B 90 1 v (ns++[(⟨g,n⟩:BB)]).length (Ey (ns++[⟨g,n⟩]))) (E:w2.grownBy w3 nv.ownBlock) (I:ns.length<=7):AB (w3.setCell ⟨q,0,none⟩ v) q B ⟨v,ns++[⟨g,n⟩],0,.slice none 0 0,[]⟩:=by
 have O:=h.below Q;have o:=O.below p;have R:=o.blk.kd;have N:∀j,nv.ownBlock=some j->kdB w2 j=90+2:=fun j e=>Bu o.own e;have u:some q≠nv.ownBlock:=fun e=>by have:=N q e.symm;omega
 have ht:Tu (fun j=>j=q\/nv.ownBlock=some j) w2 (w3.setCell ⟨q,0,none⟩ v):=(Tu.of_gb (F:=fun j=>j=q\/nv.ownBlock=some j) E fun j _ e=>.inr e).trans (Be w3 q 0 v) fun j _ e=>.inl e
 have z:∀j,(j=q\/nv.ownBlock=some j)->kdB w2 j=89+2\/kdB w2 j=90+2:=fun j e=>by
  rcases e with rfl|e
  ·exact .inl R
  ·exact .inr (N j e)
 have d:∀(i:Nat) (x:BB),(ns++[⟨g,n⟩])[i]? =some x->(ns[i]? =some x/\i<ns.length)\/(i=ns.length/\x=⟨g,n⟩):=fun i x c=>by
  by_cases e:i<ns.length
  ·rw[List.getElem?_append_left e]at c
   exact .inl ⟨c,e⟩
  ·rw[List.getElem?_append_right (by omega)]at c
   have I:=(List.getElem?_eq_some_iff.1 c).1;have:i=ns.length:=by simp at I;omega
   subst this;simp at c;exact .inr ⟨rfl,c.symm⟩
 have l:∀j,Bg g n j->w.heap.size<=j:=fun j e=>J.low j e;have hold:∀(i:Nat) (x:BB),ns[i]? =some x->∀j,Bg x.g x.n j->j<w.heap.size:=fun i x c j e=>(h.each i x c).lt j e;refine⟨(o.blk.kept E u).set 0 v,h.lo,CO K (Be w3 q 0 v) fun j m e=>?_,fun i x c=>?_,fun i k x y c A r j C D=>?_,Ap.nil _ _,⟨by show(ns++[_]).length<=8;rw[List.length_append];exact Nat.succ_le_succ I,Nat.zero_le _⟩,⟨Int.le_refl _,(by decide:(0:Int)<=1099511627776)⟩⟩
 ·have S:=Bu K m
  have V:=(o.blk.kept E u).kd;subst e;omega
 ·rcases d i x c with⟨c,_⟩|⟨_,rfl⟩
  ·exact(o.each i x c).tu ht (fun j m e=>by have:=(o.each i x c).nn j m;have:=z j e;omega) fun j m e=>(by have:=z j e;omega)
  ·have s:=(J.mono P).below p
   exact s.tu ht (fun j m e=>by have:=s.nn j m;have:=z j e;omega) fun j m e=>(by have:=z j e;omega)
 ·rcases d i x c with⟨c,_⟩|⟨rfl,rfl⟩<;>rcases d k y A with⟨A,_⟩|⟨H,rfl⟩
  ·exact h.apart i k x y c A r j C D
  ·have:=hold i x c j C;have:=l j D;omega
  ·have:=hold k y A j D;have:=l j C;omega
  ·exact r H.symm
def Fw(T:AF)(i:Nat):Bq:=match T.ns[i]? with
 |some x=>x.n.p
 |none=>⟨0,0,0,0,0,0,0,.slice none 0 0,[]⟩
structure ET(f:A4)(T:AF):Prop where
 len:T.ns.length=f.n
 now:T.now=0
 fs:T.fs=[]
 node:∀i x,T.ns[i]? =some x->Gb f i x.n
theorem Zt{B:Nat}(c:ET f T)(h:AB w' q B T)(e:Bz w f)(p:Bl f 0):Ia (Fw T) T 0:=by
 refine⟨fun i x d=>?_,fun f o=>by rw[c.fs]at o;cases o⟩;have N:=c.node i x d;have l:i<f.n:=by have:=(List.getElem?_eq_some_iff.1 d).1;have:=c.len;omega
 obtain⟨g,s⟩:=WZ e p l;refine⟨N.id,by unfold Fw;rw[d],aB g (by omega) N (h.each i x d),CJ.new N.new,by rw[N.tm];exact Nat.le_refl _,by rw[N.rate];exact e.rate,fun j r=>?_⟩;rw[N.tos,c.len];rw[N.tos]at r;rcases p with⟨hp,m⟩|⟨_,m⟩
 ·have:=hp.2.1 i l
  have ht:=this.2.2 j (by have:=(e.nds.2.1 i l).1;omega);omega
 ·exact absurd m (by decide)
structure Ib(w0 w:World)(q p:Nat)(f:A4)(nv:Value)(ns:List BB):Prop where
 net:AB w q w0.heap.size ⟨nv,ns,0,.slice none 0 0,[]⟩
 node:∀(i:Nat) (x:BB),ns[i]? =some x->Gb f i x.n
 low:Below w0.heap.size w0 w
 box:BkA 25 w p [.slice f.a f.n f.c,.string f.obj,.int .i64 f.size,.int .i64 f.spread,.int .i64 f.buffer,.int .i64 f.queue,.int .i64 f.cache,.float .f64 f.rate,.int .i64 f.timeout,.int .i64 f.target]
 bq:p≠q
theorem Ib.below{w0:World}{p:Nat}{ns:List BB}(h:Ib w0 w q p f nv ns)(c:Below w.heap.size w w'):Ib w0 w' q p f nv ns:=⟨h.net.below c,h.node,Ad h.low c,h.box.below c,h.bq⟩
theorem Ib.push{w0 w1 w2 w3:World}{p:Nat}{ns:List BB}(h:Ib w0 w q p f nv ns)(u:Below w.heap.size w w1){g:Nat}{n:Ao}(C:Al w1 g w.heap.size n)(A:Gb f ns.length n)(l:Below w1.heap.size w1 w2){v:Value}
  (D:w3.ownsRow w0.heap.size 90 1 v (ns++[(⟨g,n⟩:BB)]).length (Ey (ns++[⟨g,n⟩]))) (o:w2.grownBy w3 nv.ownBlock) (r:ns.length<=7):Ib w0 (w3.setCell ⟨q,0,none⟩ v) q p f v (ns++[⟨g,n⟩]):=by
 have d:=(h.below u).below l;have z:=h.low.size;have m:=d.box;have B:=m.kd;have s:some p≠nv.ownBlock:=fun e=>by have:=Bu d.net.own e.symm;omega
 refine⟨h.net.push u C z l D o r,fun i x c=>?_,?_,(m.kept o s).tu (Be w3 q 0 v) h.bq,h.bq⟩
 ·by_cases e:i<ns.length
  ·rw[List.getElem?_append_left e]at c
   exact h.node i x c
  ·rw[List.getElem?_append_right (by omega)]at c
   have r:=(List.getElem?_eq_some_iff.1 c).1;have:i=ns.length:=by simp at r;omega
   subst this;simp at c;subst c;exact A
 ·have ht:Tu (fun j=>j=q\/nv.ownBlock=some j) w2 (w3.setCell ⟨q,0,none⟩ v):=(Tu.of_gb (F:=fun j=>j=q\/nv.ownBlock=some j) o fun j _ e=>.inr e).trans (Be w3 q 0 v) fun j _ e=>.inl e
  refine d.low.trans (ht.below d.low.size fun j E e=>?_);rcases e with e|e
  ·have:=h.net.lo;omega
  ·have:=(EW d.net.own e).1;omega
theorem OB(f:A4)(w:World)(h:Bz w f):
  Calls Tryz.prog 9 #[f.val] w fun e w'=>Below w.heap.size w w'/\∃en:Int,Bl f en/\((en≠0/\e=.returned (.tuple #[.pointer none,.int .i64 en]))\/(en=0/\∃(q:Nat) (T:AF),e=.returned (.tuple #[.pointer (some ⟨q,0,none⟩),.int .i64 0])/\ET f T/\AS w w' q (Fw T) T 0)):=by
 have s:=Ax w (.cells #[.slice f.a f.n f.c,.string f.obj,.int .i64 f.size,.int .i64 f.spread,.int .i64 f.buffer,.int .i64 f.queue,.int .i64 f.cache,.float .f64 f.rate,.int .i64 f.timeout,.int .i64 f.target] 25);have z:=AN 25 w [.slice f.a f.n f.c,.string f.obj,.int .i64 f.size,.int .i64 f.spread,.int .i64 f.buffer,.int .i64 f.queue,.int .i64 f.cache,.float .f64 f.rate,.int .i64 f.timeout,.int .i64 f.target];have HC:=Ab (T7 f _ (h.below s) h.caps);have ad:=z.load Tryz.underlying25 rfl JJ rfl;have B:=Ab s;have I:=Ab z;have HH:=Ab h;have ag:=h.len;clear s z h;unfold A4.val at*;go_enter Tryz.func9,Tryz.ntmps9;go_wp2_with fail;refine(Aa HC).mono ?_;rintro e w1 ⟨en,rfl,hr,g⟩;have V:=Ab hr;have l:=Ab (Ad (Aa B) g);have m:=Ab ((Aa I).below g);clear HC ad hr g;by_cases W:en=0
 case neg=>
  have hd:(en !=0)=true:=by simp[W]
  have S:=Ab W;clear W;go_wp2;go_ret2;exact⟨Aa l,en,Aa V,.inl ⟨Aa S,rfl⟩⟩
 subst W;have u:∀i,i<f.n->G9 w f i/\f.n<=8:=fun i hi=>WZ (Aa HH) (Aa V) hi;have Y:=Ab u
 have H8:Hid (f.n<=8):=Ab (by
  by_cases e:0<f.n
  ·exact(u 0 e).2
  ·omega)
 have C:Hid (Ib w (w1.alloc (.cells #[.slice none 0 0,.int .i64 0,.slice none 0 0] 89)) w1.heap.size w.heap.size f (.slice none 0 0) []):=Ab (by
  have hb:=Ad (Aa l) (Ax w1 (.cells #[.slice none 0 0,.int .i64 0,.slice none 0 0] 89));refine⟨⟨AN 89 w1 [.slice none 0 0,.int .i64 0,.slice none 0 0],(Aa l).size,World.ownsRow_nil _ _ _ _,fun i x R=>(by cases R),fun i k x y R=>(by cases R),Ap.nil _ _,⟨Nat.zero_le _,Nat.zero_le _⟩,⟨Int.le_refl _,(by decide:(0:Int)<=1099511627776)⟩⟩,fun i x R=>(by cases R),hb,(Aa m).below (Ax _ _),Nat.ne_of_lt (Aa m).lt⟩)
 have x0:=((Aa m).below (Ax w1 (.cells #[.slice none 0 0,.int .i64 0,.slice none 0 0] 89))).at 0 rfl;have af:=Ab (Nat.le_trans (Aa l).size (Nat.le_refl w1.heap.size));clear u m I B;generalize hq:w1.heap.size=q at*;go_wp2_with fail;generalize w1.alloc (.cells #[.slice none 0 0,.int .i64 0,.slice none 0 0] 89)=W1 at*;clear hq;go_loopw [17] (fun i wr=> ∃(nv:Value) (ns:List BB),ns.length<=f.n/\i=.int .i64 (ns.length:Nat)/\Hid (Ib w wr q w.heap.size f nv ns)) (fun i _=>f.n-(intOf i).toNat)
 case atStart=>exact⟨.slice none 0 0,[],Nat.zero_le _,rfl,C⟩
 case round=>
  obtain⟨nv,ns,hm,rfl,r⟩:=hrel;rename_i wr;clear C x0;by_cases N:ns.length<f.n
  ·have ae:(ns.length:Int)<(f.n:Int):=by omega
   have d:=Aa r;have p:=d.low.size;have q0:=d.net.blk.at 0 rfl;have b0:=d.box.at 0 rfl;have b1:=d.box.at 1 rfl;have b2:=d.box.at 2 rfl;have b3:=d.box.at 3 rfl;have b4:=d.box.at 4 rfl;have b5:=d.box.at 5 rfl;have b6:=d.box.at 6 rfl;have b7:=d.box.at 7 rfl;have b8:=d.box.at 8 rfl;have b9:=d.box.at 9 rfl
   have S:=Ab (fun wx (hb:Below wr.heap.size wr wx)=>lG f ns.length wx (by
    obtain⟨a1,a2,a3,a4,a5,a6,a7,a8⟩:=(Aa Y ns.length N).1;exact⟨a1.below (d.low.trans (hb.mono p)),a2,a3,a4,a5,a6,a7,a8⟩))
   have aa:=Ab (show ns.length<=1000000 by have:=Aa H8;omega);have Z:=Ab (show ns.length<=7 by have:=Aa H8;omega);clear d;unfold A4.val at S;go_wp2_with fail
   go_region_law (first
    |(go_simp;go_at_call 22;refine(Aa S _ (by first|exact(Below.refl _ _).drew|exact I8 (Below.refl _ _) _)).mono ?_;rintro e w2 ⟨o,n1,rfl,O,K,g⟩;have A:=Ab (show Below wr.heap.size wr w2 from(Below.refl _ _).drew.trans g);have k0:=(((Aa r).below (Aa A)).net.blk).at 0 rfl;have ah:=((((Aa r).below (Aa A)).below (Ax w2 (.cells #[.pointer (some ⟨o,0,none⟩)] 90))).net.blk).at 0 rfl;have E:=Ab (And.intro (show Al w2 o wr.heap.size n1 from O) K);have H:=Ab ((((Aa r).below (Aa A)).below (Ax w2 (.cells #[.pointer (some ⟨o,0,none⟩)] 90))).net.own);have ac:=Ab (show w.heap.size<=(w2.alloc (.cells #[.pointer (some ⟨o,0,none⟩)] 90)).heap.size from Nat.le_trans (Nat.le_trans p (Aa A).size) (Ax _ _).size);have D:=Ab ((((Aa r).below (Aa A)).below (Ax w2 (.cells #[.pointer (some ⟨o,0,none⟩)] 90))).net.blk);clear O K g)
    |(refine dm (by rfl) (.tmp 24) (.tmp 28) (by rfl) w.heap.size nv ns ⟨o,n1⟩ (by rfl) (Aa H) w2.heap.size (by rfl) (AN 90 w2 [.pointer (some ⟨o,0,none⟩)]) (Aa aa) (Aa ac) ?_;intro g2 J w3 Q j;have v:=(Aa D).kept j (fun e=>by have:=Bu (Aa H) e.symm;have:=(Aa D).kd;omega);have t0:=v.at 0 rfl;have tf:=v.frz 0;have ab:=Ab Q;have X:=Ab j;clear v Q j)
    |fail)
   all_goals go_wp2
   all_goals go_round
   all_goals first
    |(simp[intOf];omega)
    |exact⟨.slice (some ⟨g2,0,none⟩) (ns.length+1) J,ns++[⟨o,n1⟩],by rw[List.length_append];exact N,by rw[List.length_append];go_num,Ab ((Aa r).push (Aa A) (Aa E).1 (Aa E).2 (Ax _ _) (Aa ab) (Aa X) (Aa Z))⟩
  ·have he:ns.length=f.n:=by omega
   go_wp2;go_ret2;have d:=Aa r;have P:ET f ⟨nv,ns,0,.slice none 0 0,[]⟩:=⟨he,rfl,rfl,d.node⟩;exact⟨d.low,0,Aa V,.inr ⟨rfl,q,_,rfl,P,d.net,Zt P d.net (Aa HH) (Aa V),d.low⟩⟩
theorem Ya{n:Int}(h:ES T 1 nd n a b L k ok T' k'):ok=true/\∃wv,T'=FW T (min (max n 0) 1048576) T.ns.length wv/\k'=k+2*T.ns.length:=by
 rcases h with⟨d,_,h⟩|⟨_,c,_⟩|⟨_,c,_⟩|⟨_,c,_⟩|⟨_,c,_⟩
 ·exact⟨d,h⟩
 ·omega
 ·omega
 ·omega
 ·rcases c with c|⟨c,_⟩|⟨c,_⟩<;>omega
theorem Q8{i:Nat}{x:BB}{n:Int}(h:ES T 2 (i:Int) n a b L k ok T' k')(d:T.ns[i]? =some x):ok=true/\∃f wv,Fi x.n L f/\T'=NA T i x f wv/\k'=k+2:=by
 have p:=(List.getElem?_eq_some_iff.1 d).1;rcases h with⟨_,c,_⟩|⟨g,_,j,y,f,wv,r,e,m,l,o⟩|⟨_,c,_⟩|⟨_,c,_⟩|⟨_,c,_⟩
 ·omega
 ·obtain rfl:i=j:=by omega
  rw[d]at e;cases e;exact⟨g,f,wv,m,l,o⟩
 ·omega
 ·omega
 ·rcases c with c|⟨_,c⟩|⟨c,_⟩
  ·omega
  ·exact absurd (by omega) c
  ·omega
theorem M7{kd n:Int}(h:ES T kd nd n a b L k ok T' k')(g:3<=kd/\kd<=6)(e:T.fs≠ []):ok=true/\Ny T kd n a b k T' k':=by
 rcases h with⟨_,c,_⟩|⟨_,c,_⟩|⟨_,c,_⟩|⟨d,_,_,h⟩|⟨_,c,_⟩
 ·omega
 ·omega
 ·omega
 ·exact⟨d,h⟩
 ·rcases c with c|⟨c,_⟩|⟨_,c⟩
  ·omega
  ·omega
  ·exact absurd c e
theorem Rm{kd n:Int}(h:ES T kd nd n a b L k ok T' k')(c:Qy T kd nd):ok=false/\T'=T/\k'=k:=by
 rcases h with⟨_,d,_⟩|⟨_,d,i,x,_,_,l,e,_⟩|⟨_,d,i,x,_,l,e,_⟩|⟨_,d,g,_⟩|⟨j,_,h⟩
 ·rcases c with h|⟨h,_⟩|⟨h,_⟩<;>omega
 ·have:=(List.getElem?_eq_some_iff.1 e).1
  rcases c with h|⟨_,h⟩|⟨h,_⟩
  ·omega
  ·exact absurd (by omega) h
  ·omega
 ·have:=(List.getElem?_eq_some_iff.1 e).1
  rcases c with h|⟨_,h⟩|⟨h,_⟩
  ·omega
  ·exact absurd (by omega) h
  ·omega
 ·rcases c with h|⟨h,_⟩|⟨_,h⟩
  ·omega
  ·omega
  ·rw[h]at g;cases g
 ·exact⟨j,h⟩
def EB(a x y:Nat):A4:=⟨some ⟨a,0,none⟩,3,3,[⟨1,some ⟨x,0,none⟩,1,1,[1]⟩,⟨2,some ⟨y,0,none⟩,1,1,[2]⟩,⟨3,none,0,0,[]⟩],⟨#[97]⟩,1,0,4,4,0,4607182418800017408,5,1⟩
def II:PD:=⟨0,1,1,1,0,[1],⟨#[97]⟩⟩
def EM:PD:=⟨0,1,1,1,1,[1],⟨#[97]⟩⟩
def Bh(n:Ao):Prop:=n.p.queue=4/\∀i,i<n.s.ls.length->(n.s.ls.getD i .dflt).lv=4000/\(n.s.ls.getD i .dflt).L=[]
theorem Bh.new(h:Hw n.p n.s)(c:n.p.queue=4):Bh n:=⟨c,fun i d=>by
 obtain⟨a,b,_⟩:=h.1.1 i d;rw[c]at a;exact⟨a.trans (by decide),b⟩⟩
theorem Bh.fly(h:Bh n):∀k,k<=n.s.ls.length->flyTo n k=[]
 |0,_=>rfl
 |k+1,c=>by
  show flyTo n k++Dl n k (EJ n k)=[];rw[h.fly k (by omega),List.nil_append];unfold Dl;rw[(h.2 k (by omega)).2,List.take_nil];rfl
theorem Bh.tick(h:Bh n):Bh (BX 3 n):=⟨h.1,fun i d=>by
 have c:i<n.s.ls.length:=by rwa[BX,Fo]at d
 unfold BX;rw[Mz c];refine⟨?_,(h.2 i c).2⟩;show Gx n.p.M (1000*By n.p.queue 1 256) (n.s.ls.getD i .dflt).lv 3=4000;rw[h.1,(h.2 i c).1];have e:0<=n.p.M:=Int.natCast_nonneg _;unfold Gx;rw[show By 3 0 1048576=3 from by decide,show 1000*By 4 1 256=4000 from by decide];omega⟩
theorem Bh.pump(h:Bh n):Bh (n.each Cx):=⟨h.1,fun i d=>by
 have c:i<n.s.ls.length:=by rwa[Fo]at d
 rw[Mz c];obtain⟨a,b⟩:=h.2 i c;have hp:DV (n.s.ls.getD i .dflt).L (n.s.ls.getD i .dflt).lv=0:=by rw[b];unfold DV;simp
 refine⟨?_,?_⟩
 ·show(n.s.ls.getD i .dflt).lv-1000*(DV (n.s.ls.getD i .dflt).L (n.s.ls.getD i .dflt).lv:Int)=4000
  rw[hp,a];decide
 ·show(n.s.ls.getD i .dflt).L.drop _=[]
  rw[b];exact List.drop_nil⟩
theorem Bh.act(h:Bh n)(c:n.s.ls.length=1)(f:Bp):flyTo (E7 n f) n.s.ls.length=[⟨(n.id:Int),n.p.tos.getD 0 0,f.enc⟩]:=by
 obtain⟨a,b⟩:=h.2 0 (by omega);rw[c];show []++Dl (E7 n f) 0 (EJ (E7 n f) 0)=_;unfold Dl EJ E7;rw[Mz (by omega)];have d:Dp (F2 n.p.queue f.enc) (n.s.ls.getD 0 .dflt)=(n.s.ls.getD 0 .dflt).now 4000 [f.enc] (n.s.ls.getD 0 .dflt).lo:=by
  unfold Dp F2;rw[a,b,h.1];rfl
 rw[d];rfl
structure CW(n:Ao):Prop where
 id:n.id=0/\n.inc=0
 rest:Bh n
 len:n.s.ls.length=1
 tos:n.p.tos=[1]
 src:∃g v,n.src=some ⟨g,v,1,1,0,Bw (tx ⟨#[97]⟩) 1 1⟩
structure CT(n:Ao):Prop where
 id:n.id=1/\n.inc=0
 rest:Bh n
 len:n.s.ls.length=1
 tos:n.p.tos=[2]
 src:n.src=none
 num:n.p.timeout=5/\n.p.cache=0/\n.p.buffer=4/\n.p.target=1
 rl:∃r,n.s.rl=some r/\r.ps=[]
 Z:n.s.Z=List.replicate 16 0
 P:n.s.P=[]
structure CU(n:Ao):Prop where
 rest:Bh n
 num:n.p.cache=0/\n.p.buffer=4
 dc:∃d,n.s.dc=some d/\d.s=C9
 P:n.s.P=[]
theorem CW.tick(h:CW n):CW ((BX 3 n).each Cx):=⟨h.id,h.rest.tick.pump,by rw[Fo,BX,Fo];exact h.len,h.tos,h.src⟩
theorem CT.tick(h:CT n):CT ((BX 3 n).each Cx):=⟨h.id,h.rest.tick.pump,by rw[Fo,BX,Fo];exact h.len,h.tos,h.src,h.num,h.rl,h.Z,h.P⟩
theorem CU.tick(h:CU n):CU ((BX 3 n).each Cx):=⟨h.rest.tick.pump,h.num,h.dc,h.P⟩
theorem CW.em(h:CW n):C8 n []=some II:=by
 obtain⟨g,v,e⟩:=h.src;unfold C8;rw[e,h.id.1];exact congrArg some (show Ke 0 ⟨g,v,1,1,0,Bw (tx ⟨#[97]⟩) 1 1⟩ []=II by kernel_rfl)
theorem Oa:Ac [1]:=fun y c=>by cases List.mem_singleton.1 c;exact(by decide:(1:Nat)<18446744073709551616)
theorem aR{r:Gc}(d:n.src=none)(c:n.s.rl=some r):C8 n L=GY (r.ps.map PKV.pd) L 0 (Gs n.p.target):=by
 unfold C8;rw[d,c]
theorem CT.recv{c:Ao}{en:Nat}(h:CT n)(o:Hr n (FY 0 0 II) 3 en c):(c.id=1/\c.inc=0)/\Bh c/\c.s.ls.length=1/\c.p.tos=[2]/\C8 c []=some EM/\(Gy (CP c.p.timeout) c.s.Z 3).length=1:=by
 obtain⟨H,D,A,r1,o1,C,m,f1,B⟩:=Ws (d:=II) Oa (by decide) (by decide) (by kernel_rfl) o;obtain⟨z,E,t3,t4⟩:=h.num;obtain⟨r,g,i⟩:=h.rl;rw[h.P,t3]at f1;have e:Dx [] II=true:=by kernel_rfl
 rw[e]at f1;obtain⟨j,u,_,_,_,l⟩:=f1.2 r g;rw[i]at l;have v:j.ps.map PKV.pd=[II]:=l.trans (by kernel_rfl);subst m;refine⟨h.id,h.rest,h.len,h.tos,?_,?_⟩
 ·refine Eq.trans (aR (r:=j) h.src ?_) ?_
  ·exact u
  show GY (j.ps.map PKV.pd) [] 0 (Gs n.p.target)=some EM;rw[v,t4]
  kernel_rfl
 ·show(Gy (CP n.p.timeout) (EH n.s.Z 0 0 3) 3).length=1
  rw[h.Z,z]
  kernel_rfl
theorem cV{q:PKV}{ob:ByteArray}(h:q.pd=EM)(p:Dn C9 q=true->AT 4 (Cy C9 q) (q.r.xs,q.r.s) ob):(FX 4 C9 q ob).dn=true/\(FX 4 C9 q ob).ob=⟨#[97]⟩:=by
 have i:(FX 4 C9 q ob).dn=true:=by
  obtain⟨o,l,k,z,u,a,n,c,xs,s⟩:=q;simp only[PKV.pd,EM,PD.mk.injEq]at h;obtain⟨rfl,rfl,rfl,rfl,rfl,rfl,rfl⟩:=h
  kernel_rfl
 have d:IN ⟨#[97]⟩ 1 q:=by
  obtain⟨o,l,k,z,u,a,n,c,xs,s⟩:=q;simp only[PKV.pd,EM,PD.mk.injEq]at h;obtain⟨rfl,rfl,rfl,rfl,rfl,rfl,rfl⟩:=h;exact⟨by kernel_rfl,rfl,by kernel_rfl,rfl,by kernel_rfl⟩
 have g:q.r.xs=[1]/\q.r.s=⟨#[97]⟩:=by
  have j:q.pd.xs=[1]:=by rw[h];rfl
  have m:q.pd.s=⟨#[97]⟩:=by rw[h];rfl
  exact⟨j,m⟩
 have:=(Fk.zero ⟨#[97]⟩ 1).put (fun e=>by cases e) (by decide) d ⟨by rw[g.1];exact Oa,by rw[g.2];decide,by rw[g.1];decide⟩ p;exact⟨i,this.told i⟩
theorem CU.recv{l:Ao}{en:Nat}(h:CU n)(r:Hr n (FY 1 0 EM) 3 en l):GB l.s=true/\GC l.s=⟨#[97]⟩:=by
 obtain⟨I,E,C,r1,o1,B,p,f1,e⟩:=Ws (d:=EM) Oa (by decide) (by decide) (by kernel_rfl) r;obtain⟨H,t3⟩:=h.num;obtain⟨d,g,i⟩:=h.dc;rw[h.P,t3]at e;have c:Dx [] EM=true:=by kernel_rfl
 rw[c]at e;obtain⟨D,m,_,_,u⟩:=e.2 d g;obtain⟨A,j,o⟩:=u rfl;rw[i]at j o;obtain⟨v,z⟩:=cV B o;subst p;exact⟨(oc m).trans (by rw[j];exact v),(pb m).trans (by rw[j];exact z)⟩
structure Dt(T:AF)(x0 x1 x2:BB)(now:Int)(fs:List AH):Prop where
 ns:T.ns=[x0,x1,x2]
 now:T.now=now
 fs:T.fs=fs
theorem Vu{a:Nat}{en:Int}(h:Bl (EB a x y) en):en=0:=by
 have hp:LF (EB a x y):=by
  refine⟨⟨⟨show 1<=3 by decide,show 3<=8 by decide⟩,⟨show(0:Int)<=0 by decide,show(0:Int)<=128 by decide⟩,⟨show(1:Int)<=4 by decide,show(4:Int)<=256 by decide⟩,⟨show(1:Int)<=4 by decide,show(4:Int)<=256 by decide⟩,⟨show(0:Int)<=0 by decide,show(0:Int)<=256 by decide⟩,⟨show(0:Int)<=5 by decide,show(5:Int)<=1048576 by decide⟩,show(1:Int)<=1 by decide,show(1:Int)<=128 by decide⟩,fun i e=>?_,by kernel_rfl⟩;have g:i<3:=e;obtain rfl|rfl|rfl:i=0\/i=1\/i=2:=by omega
  ·exact⟨⟨show(1:Int)<=1 by decide,show(1:Int)<=3 by decide⟩,show(1:Int)<3 by decide,fun j c=>by
    have d:j<1:=c;obtain rfl:j=0:=by omega
    exact⟨⟨show(0:Int)<=1 by decide,show(1:Int)<=3-1 by decide⟩,show(1:Int)≠0 by decide,fun k l=>by omega⟩⟩
  ·exact⟨⟨show(1:Int)<=2 by decide,show(2:Int)<=3 by decide⟩,show(1:Int)<3 by decide,fun j c=>by
    have d:j<1:=c;obtain rfl:j=0:=by omega
    exact⟨⟨show(0:Int)<=2 by decide,show(2:Int)<=3-1 by decide⟩,show(2:Int)≠1 by decide,fun k l=>by omega⟩⟩
  ·exact⟨⟨show(1:Int)<=3 by decide,show(3:Int)<=3 by decide⟩,show(0:Int)<3 by decide,fun j c=>by
    have d:j<0:=c;omega⟩
 rcases h with⟨_,h⟩|⟨h,_⟩
 ·exact h.trans (by kernel_rfl)
 ·exact absurd hp h
theorem lL{α:Type}:∀{l:List α},l.length=3->∃a b c,l=[a,b,c]
 |[a,b,c],_=>⟨a,b,c,rfl⟩
 |[],h=>by cases h
 |[_],h=>by cases h
 |[_,_],h=>by cases h
 |_::_::_::_::_,h=>by simp at h
theorem qi{a:Nat}{P:Nat->Bq}(h:ET (EB a x y) T)(l:AS w w' q P T k):∃x0 x1 x2,Dt T x0 x1 x2 0 []/\CW x0.n/\CT x1.n/\CU x2.n:=by
 obtain⟨x0,x1,x2,e⟩:∃x0 x1 x2,T.ns=[x0,x1,x2]:=lL (h.len.trans rfl);have o:T.ns[0]? =some x0:=by rw[e];rfl
 have s:T.ns[1]? =some x1:=by rw[e];rfl
 have g2:T.ns[2]? =some x2:=by rw[e];rfl
 have i:=h.node 0 x0 o;have c:=h.node 1 x1 s;have j:=h.node 2 x2 g2;have z:=l.net.each 0 x0 o;have m:=l.net.each 1 x1 s;have I:=l.net.each 2 x2 g2;have D:x0.n.p.kd=1:=i.kd;have E:x1.n.p.kd=2:=c.kd;have H:x2.n.p.kd=3:=j.kd;have t0:x0.n.p.tos=[1]:=i.tos;have u:x1.n.p.tos=[2]:=c.tos;refine⟨x0,x1,x2,⟨e,h.now,h.fs⟩,⟨⟨i.id,i.inc⟩,Bh.new i.new i.queue,by rw[z.num.2.1,t0];rfl,t0,?_⟩,⟨⟨c.id,c.inc⟩,Bh.new c.new c.queue,by rw[m.num.2.1,u];rfl,u,?_,⟨c.timeout,c.cache,c.buffer,c.target⟩,?_,c.new.1.2.1,c.new.1.2.2.2⟩,⟨Bh.new j.new j.queue,⟨j.cache,j.buffer⟩,?_,j.new.1.2.2.2⟩⟩
 ·obtain⟨g,v,e⟩:=i.src D
  exact⟨g,v,e.trans (by kernel_rfl)⟩
 ·rcases m.kd with⟨k,_⟩|⟨_,k,_⟩|⟨k,_⟩
  ·omega
  ·exact k
  ·omega
 ·rcases c.new.2 with⟨_,_,r,B,_,hp⟩|⟨k,_⟩|⟨k,_⟩
  ·exact⟨r,B,hp⟩
  ·omega
  ·exact absurd E k
 ·rcases j.new.2 with⟨k,_⟩|⟨_,_,d,A,C,_⟩|⟨_,k,_⟩
  ·omega
  ·exact⟨d,A,C⟩
  ·exact absurd H k
theorem lN(h:Dt T x0 x1 x2 0 [])(d:CW x0.n)(e:CT x1.n)(i:CU x2.n)(r:ES T 1 0 3 0 0 [] k ok T' k'):ok=true/\k'=k+6/\∃l m o,Dt T' l m o 3 []/\CW l.n/\CT m.n/\CU o.n:=by
 obtain⟨p,wv,rfl,u⟩:=Ya r;have c:T.ns.length=3:=by rw[h.ns];rfl
 have f0:flyTo (BX 3 x0.n) x0.n.s.ls.length=[]:=d.rest.tick.fly _ (by rw[BX,Fo];exact Nat.le_refl _);have f1:flyTo (BX 3 x1.n) x1.n.s.ls.length=[]:=e.rest.tick.fly _ (by rw[BX,Fo];exact Nat.le_refl _);have f2:flyTo (BX 3 x2.n) x2.n.s.ls.length=[]:=i.rest.tick.fly _ (by rw[BX,Fo];exact Nat.le_refl _);have j:min (max (3:Int) 0) 1048576=3:=by decide
 have ht:EK 3 [x0,x1,x2] 3 []=([⟨x0.g,(BX 3 x0.n).each Cx⟩,⟨x1.g,(BX 3 x1.n).each Cx⟩,⟨x2.g,(BX 3 x2.n).each Cx⟩],[]):=by
  simp[EK,f0,f1,f2,onto]
 refine⟨p,by rw[u,c],⟨x0.g,(BX 3 x0.n).each Cx⟩,⟨x1.g,(BX 3 x1.n).each Cx⟩,⟨x2.g,(BX 3 x2.n).each Cx⟩,⟨?_,?_,?_⟩,d.tick,e.tick,i.tick⟩
 ·show(EK (min (max 3 0) 1048576) T.ns T.ns.length T.fs).1=_
  rw[c,h.ns,h.fs,j,ht]
 ·show min (T.now+min (max 3 0) 1048576) 1099511627776=3
  rw[h.now];decide
 ·show(EK (min (max 3 0) 1048576) T.ns T.ns.length T.fs).2=_
  rw[c,h.ns,h.fs,j,ht]
theorem Wd(y:AH):onto [] [y]=[y]:=rfl
theorem pg(h:Dt T x0 x1 x2 3 [])(c:CW x0.n)(j:ES T 2 0 0 0 0 [] k ok T' k'):ok=true/\k'=k+2/\∃o,Dt T' o x1 x2 3 [⟨0,1,FY 0 0 II⟩]:=by
 obtain⟨e,f,wv,l,rfl,m⟩:=Q8 (i:=0) (x:=x0) j (by rw[h.ns];rfl);have d:=W5 l c.em;rw[c.id.1,c.id.2]at d;refine⟨e,m,⟨x0.g,(E7 x0.n f).each Cx⟩,⟨?_,h.now,?_⟩⟩
 ·show T.ns.set 0 _=_
  rw[h.ns];rfl
 ·show onto T.fs (flyTo (E7 x0.n f) x0.n.s.ls.length)=_
  rw[h.fs,c.rest.act c.len,Wd,c.id.1,c.tos,d];rfl
theorem qh(h:Dt T x0 x1 x2 3 [⟨0,1,FY 0 0 II⟩])(m:CT x1.n)(r:ES T 3 0 0 0 0 [] k ok T' k'):ok=true/\k'=k+1/\∃n,Dt T' x0 ⟨x1.g,n⟩ x2 3 []/\(n.id=1/\n.inc=0)/\Bh n/\n.s.ls.length=1/\n.p.tos=[2]/\C8 n []=some EM/\(Gy (CP n.p.timeout) n.s.Z 3).length=1:=by
 obtain⟨o,f,wv,e,⟨_,y,en,n,l,j,rfl,u⟩|⟨d,_⟩|⟨d,_⟩|⟨d,_⟩⟩:=M7 r (by decide) (by rw[h.fs];exact List.cons_ne_nil _ _)
 ·have i:DW T 0=0:=by unfold DW;rw[h.fs];rfl
  rw[i,h.fs]at e;cases e;rw[h.ns]at l;have c:some x1=some y:=l;cases c;rw[h.now]at j;obtain⟨v,z,A,B,C,D⟩:=m.recv j;refine⟨o,u,n,⟨?_,h.now,?_⟩,v,z,A,B,C,D⟩
  ·show T.ns.set 1 _=_
   rw[h.ns];rfl
  ·show T.fs.eraseIdx (DW T 0)=[]
   rw[i,h.fs];rfl
 ·omega
 ·omega
 ·omega
theorem qj{g:Nat}(h:Dt T x0 ⟨g,n⟩ x2 3 [])(c:n.id=1/\n.inc=0)(r:Bh n)(u:n.s.ls.length=1)(v:n.p.tos=[2])(z:C8 n []=some EM)(j:ES T 2 1 0 0 0 [] k ok T' k'):ok=true/\k'=k+2/\∃m,Dt T' x0 ⟨g,m⟩ x2 3 [⟨1,2,FY 1 0 EM⟩]/\m.p=n.p/\m.s.Z=n.s.Z:=by
 obtain⟨e,f,wv,l,rfl,o⟩:=Q8 (i:=1) (x:=⟨g,n⟩) j (by rw[h.ns];rfl);have d:=W5 l z;rw[c.1,c.2]at d;refine⟨e,o,(E7 n f).each Cx,⟨?_,h.now,?_⟩,rfl,rfl⟩
 ·show T.ns.set 1 _=_
  rw[h.ns];rfl
 ·show onto T.fs (flyTo (E7 n f) n.s.ls.length)=_
  rw[h.fs,r.act u,Wd,c.1,v,d];rfl
theorem qg{y:AH}(h:Dt T x0 x1 x2 3 [y])(g:ES T 5 0 0 0 0 [] k ok T' k'):ok=true/\k'=k/\Dt T' x0 x1 x2 3 [y,y]:=by
 obtain⟨e,f,wv,d,⟨c,_⟩|⟨c,_⟩|⟨_,rfl,j⟩|⟨c,_⟩⟩:=M7 g (by decide) (by rw[h.fs];exact List.cons_ne_nil _ _)
 ·omega
 ·omega
 ·have i:DW T 0=0:=by unfold DW;rw[h.fs];rfl
  rw[i,h.fs]at d;cases d;exact⟨e,j,h.ns,h.now,by show onto T.fs [y]=_;rw[h.fs];rfl⟩
 ·omega
theorem pf(h:Dt T x0 x1 x2 3 [⟨1,2,FY 1 0 EM⟩,⟨1,2,FY 1 0 EM⟩])(m:CU x2.n)(p:ES T 3 0 1 0 0 [] k ok T' k'):ok=true/\k'=k+1/\∃n,Dt T' x0 x1 ⟨x2.g,n⟩ 3 [⟨1,2,FY 1 0 EM⟩]/\GB n.s=true/\GC n.s=⟨#[97]⟩:=by
 obtain⟨o,f,wv,e,⟨_,y,en,n,l,j,rfl,r⟩|⟨d,_⟩|⟨d,_⟩|⟨d,_⟩⟩:=M7 p (by decide) (by rw[h.fs];exact List.cons_ne_nil _ _)
 ·have i:DW T 1=1:=by unfold DW;rw[h.fs];rfl
  rw[i,h.fs]at e;cases e;rw[h.ns]at l;have c:some x2=some y:=l;cases c;rw[h.now]at j;obtain⟨u,v⟩:=m.recv j;refine⟨o,r,n,⟨?_,h.now,?_⟩,u,v⟩
  ·show T.ns.set 2 _=_
   rw[h.ns];rfl
  ·show T.fs.eraseIdx (DW T 1)=_
   rw[i,h.fs];rfl
 ·omega
 ·omega
 ·omega
theorem lM{y:AH}(h:Dt T x0 x1 x2 3 [y])(e:ES T 4 0 0 0 0 [] k ok T' k'):ok=true/\k'=k/\Dt T' x0 x1 x2 3 []:=by
 obtain⟨d,f,wv,j,⟨c,_⟩|⟨_,rfl,i⟩|⟨c,_⟩|⟨c,_⟩⟩:=M7 e (by decide) (by rw[h.fs];exact List.cons_ne_nil _ _)
 ·omega
 ·have g:DW T 0=0:=by unfold DW;rw[h.fs];rfl
  exact⟨d,i,h.ns,h.now,by show T.fs.eraseIdx (DW T 0)=[];rw[g,h.fs];rfl⟩
 ·omega
 ·omega
theorem eg{tmps:Array Value}{W:World}{g:Nat}{cs:List Value}(e:tmps.getD 0 undef=.pointer (some ⟨g,0,none⟩))(i:BkA 25 W g cs)(h:cs.length=10):(results Tryz.f21 tmps).run Tryz.prog W=.ok (.agg cs.toArray) W:=by
 have d:=i.load Tryz.underlying25 rfl JJ h;have c:tmps[0]?.getD undef=.pointer (some ⟨g,0,none⟩):=by simpa using e
 simp[results,Tryz.results21,asAddr,c,d]
theorem Vt(a x y:Nat):∀i,i<(EB a x y).n->((EB a x y).ds.getD i .dflt).n<=((EB a x y).ds.getD i .dflt).c:=fun i d=>by
 have e:i<3:=d;obtain rfl|rfl|rfl:i=0\/i=1\/i=2:=by omega
 ·exact Nat.le_refl 1
 ·exact Nat.le_refl 1
 ·exact Nat.le_refl 0
theorem Vs(w:World):Calls Tryz.prog 21 #[] w fun e w'=> ∃a x y,e=.returned (EB a x y).val/\Bz w' (EB a x y)/\Below w.heap.size w w':=by
 have u:=Ab (show BkA 25 ((((w.alloc (.cells #[.slice none 0 0,.string ⟨#[]⟩,.int .i64 0,.int .i64 0,.int .i64 0,.int .i64 0,.int .i64 0,.float .f64 0,.int .i64 0,.int .i64 0] 25)).alloc (.cells #[.int .i64 1] 3)).alloc (.cells #[.int .i64 2] 3)).alloc (.cells #[.int .i64 1,.slice (some ⟨w.heap.size+1,0,none⟩) 1 1,.int .i64 2,.slice (some ⟨w.heap.size+1+1,0,none⟩) 1 1,.int .i64 3,.slice none 0 0] 29)) w.heap.size [.slice none 0 0,.string ⟨#[]⟩,.int .i64 0,.int .i64 0,.int .i64 0,.int .i64 0,.int .i64 0,.float .f64 0,.int .i64 0,.int .i64 0] from(((AN 25 w [.slice none 0 0,.string ⟨#[]⟩,.int .i64 0,.int .i64 0,.int .i64 0,.int .i64 0,.int .i64 0,.float .f64 0,.int .i64 0,.int .i64 0]).below (Ax _ _)).below (Ax _ _)).below (Ax _ _));go_enter Tryz.func21,Tryz.ntmps21
 go_wp2_with (first
  |((with_reducible refine Ld 25 25 JJ 0 7 w.heap.size 0 _ [.slice (some ⟨w.heap.size+1+1+1,0,none⟩) 3 3,.string ⟨#[97]⟩,.int .i64 1,.int .i64 0,.int .i64 4,.int .i64 4,.int .i64 0,.float .f64 4607182418800017408,.int .i64 5,.int .i64 1] ?_ ?_ (Aa u) rfl ?_ ?_ ?_);(focus rfl);(focus rfl);(focus exact(show 0+10<=10 by decide));(focus exact(by simp[Value.oneCell']));intro D l c;have p:=Ab l;have o:=Ab c;clear l c)
  |fail)
 have c:=Aa o;refine bodyPost_ret (eg rfl (Aa p) rfl) rfl ⟨w.heap.size+1+1+1,w.heap.size+1,w.heap.size+1+1,rfl,⟨?_,show 3<=9223372036854775807 by decide,show 1<=9223372036854775807 by decide,show 4607182418800017408<18446744073709551616 by decide,fun i g=>?_,Vt _ _ _⟩,?_⟩
 ·have A:=((AN 3 (w.alloc (.cells #[.slice none 0 0,.string ⟨#[]⟩,.int .i64 0,.int .i64 0,.int .i64 0,.int .i64 0,.int .i64 0,.float .f64 0,.int .i64 0,.int .i64 0] 25)) [.int .i64 1]).below (Ax _ (.cells #[.int .i64 2] 3))).below (Ax _ (.cells #[.int .i64 1,.slice (some ⟨w.heap.size+1,0,none⟩) 1 1,.int .i64 2,.slice (some ⟨w.heap.size+1+1,0,none⟩) 1 1,.int .i64 3,.slice none 0 0] 29))
  have B:=(AN 3 ((w.alloc (.cells #[.slice none 0 0,.string ⟨#[]⟩,.int .i64 0,.int .i64 0,.int .i64 0,.int .i64 0,.int .i64 0,.float .f64 0,.int .i64 0,.int .i64 0] 25)).alloc (.cells #[.int .i64 1] 3)) [.int .i64 2]).below (Ax _ (.cells #[.int .i64 1,.slice (some ⟨w.heap.size+1,0,none⟩) 1 1,.int .i64 2,.slice (some ⟨w.heap.size+1+1,0,none⟩) 1 1,.int .i64 3,.slice none 0 0] 29));have C:=AN 29 (((w.alloc (.cells #[.slice none 0 0,.string ⟨#[]⟩,.int .i64 0,.int .i64 0,.int .i64 0,.int .i64 0,.int .i64 0,.float .f64 0,.int .i64 0,.int .i64 0] 25)).alloc (.cells #[.int .i64 1] 3)).alloc (.cells #[.int .i64 2] 3)) [.int .i64 1,.slice (some ⟨w.heap.size+1,0,none⟩) 1 1,.int .i64 2,.slice (some ⟨w.heap.size+1+1,0,none⟩) 1 1,.int .i64 3,.slice none 0 0];simp only[Bc]at A B C;have v:¬(w.heap.size+1=w.heap.size):=by omega
  have z:¬(w.heap.size+1+1=w.heap.size):=by omega
  have d:¬(w.heap.size+1+1+1=w.heap.size):=by omega
  refine⟨rfl,fun i g=>?_,.inr ⟨_,0,rfl,fun i g=>?_⟩⟩
  ·have h:i<3:=g
   obtain rfl|rfl|rfl:i=0\/i=1\/i=2:=by omega
   ·exact⟨rfl,.inr ⟨_,0,rfl,fun j m=>by
     have s:j<1:=m;obtain rfl:j=0:=by omega
     exact c.cell (A.at 0 rfl) v⟩⟩
   ·exact⟨rfl,.inr ⟨_,0,rfl,fun j m=>by
     have s:j<1:=m;obtain rfl:j=0:=by omega
     exact c.cell (B.at 0 rfl) z⟩⟩
   ·exact⟨rfl,.inl rfl⟩
  ·have h:i<3:=g
   obtain rfl|rfl|rfl:i=0\/i=1\/i=2:=by omega
   ·exact⟨c.cell (C.at 0 rfl) d,c.cell (C.at 1 rfl) d⟩
   ·exact⟨c.cell (C.at 2 rfl) d,c.cell (C.at 3 rfl) d⟩
   ·exact⟨c.cell (C.at 4 rfl) d,c.cell (C.at 5 rfl) d⟩
 ·have h:i<3:=g
  obtain rfl|rfl|rfl:i=0\/i=1\/i=2:=by omega
  ·exact⟨show 1<=9223372036854775807 by decide,fun e=>by have r:some (⟨w.heap.size+1,0,none⟩:Addr)=none:=e;cases r⟩
  ·exact⟨show 1<=9223372036854775807 by decide,fun e=>by have r:some (⟨w.heap.size+1+1,0,none⟩:Addr)=none:=e;cases r⟩
  ·exact⟨show 0<=9223372036854775807 by decide,fun _=>⟨rfl,rfl⟩⟩
 ·exact(Ad (Ad (Ad (Ax _ _) (Ax _ _)) (Ax _ _)) (Ax _ _)).trans (c.below (Ad (Ad (Ad (Ax _ _) (Ax _ _)) (Ax _ _)) (Ax _ _)).size fun j m e=>by omega)
def zF:A4:=⟨none,0,0,[],⟨#[]⟩,0,0,0,0,0,0,0,0⟩
theorem bB(w:World):Bz w zF:=⟨⟨rfl,fun i c=>absurd c (Nat.not_lt_zero i),.inl rfl⟩,Nat.zero_le _,Nat.zero_le _,(by decide:0<18446744073709551616),(fun i c=>absurd c (Nat.not_lt_zero i)),fun i c=>absurd c (Nat.not_lt_zero i)⟩
theorem cM{en:Int}(h:Bl zF en):en=1:=by
 rcases h with⟨h,_⟩|⟨_,h⟩
 ·exact absurd h.1.1.1 (show¬1<=0 by decide)
 ·exact h
theorem aE(w:World):Calls Tryz.prog 9 #[.agg #[.slice none 0 0,.string ⟨#[]⟩,.int .i64 0,.int .i64 0,.int .i64 0,.int .i64 0,.int .i64 0,.float .f64 0,.int .i64 0,.int .i64 0]] w fun e w'=>e=.returned (.tuple #[.pointer none,.int .i64 1])/\Below w.heap.size w w':=
 (OB zF w (bB w)).mono fun e w' ⟨c,en,d,h⟩=>by
  obtain rfl:=cM d;rcases h with⟨_,h⟩|⟨h,_⟩
  ·exact⟨h,c⟩
  ·exact absurd h (by decide)
theorem aD{a:Nat}(h:Bz w (EB a x y)):Calls Tryz.prog 9 #[(EB a x y).val] w fun e w'=> ∃(q:Nat) (T:AF) (P:Nat->Bq) (x0 x1 x2:BB),e=.returned (.tuple #[.pointer (some ⟨q,0,none⟩),.int .i64 0])/\AS w w' q P T 0/\Dt T x0 x1 x2 0 []/\CW x0.n/\CT x1.n/\CU x2.n:=
 (OB (EB a x y) w h).mono fun e w' ⟨_,en,p,m⟩=>by
  rcases m with⟨c,_⟩|⟨_,q,T,l,o,d⟩
  ·exact absurd (Vu p) c
  ·obtain⟨x0,x1,x2,c,g,i,j⟩:=qi o d
   exact⟨q,T,_,x0,x1,x2,l,d,c,g,i,j⟩
theorem aC{a:Nat}(h:Bz w (EB a x y)):Calls Tryz.prog 10 #[(EB a x y).val] w fun e w'=>e=.returned (.int .i64 0)/\Below w.heap.size w w':=
 (T7 (EB a x y) w h (Vt a x y)).mono fun e w' ⟨en,d,g,c⟩=>⟨by rw[d,Vu g],c⟩
end Go.Proofs.YtfpmnekaockodaaGreatDoor
