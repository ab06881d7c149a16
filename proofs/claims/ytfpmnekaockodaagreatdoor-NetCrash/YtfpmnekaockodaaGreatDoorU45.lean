/- Laws for the proof. -/
import Derived.Test.YtfpmnekaockodaaGreatDoorU44
set_option linter.all false
open Go.Proofs.Tryz
open Option renaming some->U,none->ζ
open Go.Value renaming slice->β,int->γ,pointer->ε
open Go.IntKind renaming i64->δ
open List renaming length_append->η,cons_ne_nil->θ,getElem?_append_right->ι,getElem?_append_left->μ
open Nat renaming le_refl->κ,zero_le->ν,le_trans->ξ
namespace Go.Proofs.YtfpmnekaockodaaGreatDoor
open Go.RowKit Go.Sort
set_option maxRecDepth 4000
set_option maxHeartbeats 8000000
variable {ok:Bool}{f:A1}{a nd b:Int}{L:List Nat}{n:Ap}{x0 x1 x2:Bg}{T T':Az}{q k k':Nat}{nv:Value}{w w':World}
def jF:(Tryz.prog.info? 90).map (fun i=>(i.zero,i.size,i.bytes))=U (U (ε none),1,8):=by kernel_rfl
def eD{ops:Array Oper}{o:Oper}{a:Act}{K:Act->World->Prop}{Q:Exit->Act->World->Prop}{E:Prop}(d:o.guard=ζ)(s x:Operand)
  (A:o.op=.call {callee:=.builtin .append,args:=#[s,x],argTypes:=#[87,87]}) (B:Nat) (v:Value) (ls:List Bg) (l:Bg) (C:a.eval s=v) (c:w.ownsRow B 90 1 v ls.length (Ev ls)) (b:Nat)
  (H:a.eval x=.slice (U ⟨b,0,ζ⟩) 1 1) (y:w.heap[b]? =U (.cells #[.pointer (U ⟨l.g,0,ζ⟩)] 90 (0,0))) (N:ls.length<=1000000) (r:B<=w.heap.size)
  (h:∀g cap w',w'.ownsRow B 90 1 (.slice (U ⟨g,0,ζ⟩) (ls.length+1) cap) (ls++[l]).length (Ev (ls++[l]))->w.grownBy w' v.ownBlock->K (a.put o.dst (.slice (U ⟨g,0,ζ⟩) (ls.length+1) cap)) w'):
  if Region.wanted o (yielded ops a.tmps)=true then Oper.wp Tryz.prog o a w K Q else E:=by
 obtain⟨I,z,e,i,j⟩:=info_parts jF
 refine step_append_lies w d s x 87 A B 90 I (ε none) 1 8 underlying87 z e i j rfl (by decide) v ls.length (Ev ls) C c ⟨b,0,ζ⟩ 1 1 [.pointer (U ⟨l.g,0,ζ⟩)] H rfl
  (World.news_of_block y) (fun u D=>by rw[List.mem_singleton.1 D];rfl) (by decide) (by unfold maxLen;omega) (by omega) r _ rfl (fun g cap w' m p J _=>h g cap w' ?_ p)
 rw[η,show Ev (ls++[l])=Ev ls++[Value.pointer (U ⟨l.g,0,ζ⟩)] by simp[Ev]];exact m
def Aw.push{w1 w2 w3:World}{B:Nat}{ns:List Bg}(h:Aw w q B ⟨nv,ns,0,β none 0 0,[]⟩)(Q:Below w.heap.size w w1){g:Nat}{n:Ap}(J:Al w1 g w.heap.size n)(P:B<=w.heap.size)(p:Below w1.heap.size w1 w2){v:Value}
  (K:w3.ownsRow B 90 1 v (ns++[(⟨g,n⟩:Bg)]).length (Ev (ns++[⟨g,n⟩]))) (E:w2.grownBy w3 nv.ownBlock) (I:ns.length<=7):Aw (w3.setCell ⟨q,0,ζ⟩ v) q B ⟨v,ns++[⟨g,n⟩],0,β none 0 0,[]⟩:=by
 have O:=h.below Q;have o:=O.below p;have R:=o.blk.kd;have N:∀j,nv.ownBlock=U j->kdB w2 j=90+2:=fun j e=>Bc o.own e;have u:U q≠nv.ownBlock:=fun e=>by have:=N q e.symm;omega
 have ht:Tu (fun j=>j=q\/nv.ownBlock=U j) w2 (w3.setCell ⟨q,0,ζ⟩ v):=(Tu.of_gb (F:=fun j=>j=q\/nv.ownBlock=U j) E fun j _ e=>.inr e).trans (A8 w3 q 0 v) fun j _ e=>.inl e
 have z:∀j,(j=q\/nv.ownBlock=U j)->kdB w2 j=89+2\/kdB w2 j=90+2:=fun j e=>by
  rcases e with rfl|e
  ·exact .inl R
  ·exact .inr (N j e)
 have d:∀(i:Nat) (x:Bg),(ns++[⟨g,n⟩])[i]? =U x->(ns[i]? =U x/\i<ns.length)\/(i=ns.length/\x=⟨g,n⟩):=fun i x c=>by
  by_cases e:i<ns.length
  ·rw[μ e]at c
   exact .inl ⟨c,e⟩
  ·rw[ι (by omega)]at c
   have I:=(List.getElem?_eq_some_iff.1 c).1;have:i=ns.length:=by simp at I;omega
   subst this;simp at c;exact .inr ⟨rfl,c.symm⟩
 have l:∀j,A9 g n j->w.heap.size<=j:=fun j e=>J.low j e;have hold:∀(i:Nat) (x:Bg),ns[i]? =U x->∀j,A9 x.g x.n j->j<w.heap.size:=fun i x c j e=>(h.each i x c).lt j e;refine⟨(o.blk.kept E u).set 0 v,h.lo,Cj K (A8 w3 q 0 v) fun j m e=>?_,fun i x c=>?_,fun i k x y c A r j C D=>?_,An.nil _ _,⟨by show(ns++[_]).length<=8;rw[η];exact Nat.succ_le_succ I,ν _⟩,⟨Int.le_refl _,(by decide:(0:Int)<=1099511627776)⟩⟩
 ·have S:=Bc K m
  have V:=(o.blk.kept E u).kd;subst e;omega
 ·rcases d i x c with⟨c,_⟩|⟨_,rfl⟩
  ·exact(o.each i x c).tu ht (fun j m e=>by have:=(o.each i x c).nn j m;have:=z j e;omega) fun j m e=>(by have:=z j e;omega)
  ·have s:=(J.mono P).below p
   exact s.tu ht (fun j m e=>by have:=s.nn j m;have:=z j e;omega) fun j m e=>(by have:=z j e;omega)
 ·rcases d i x c with⟨c,_⟩|⟨rfl,rfl⟩<;>rcases d k y A with⟨A,_⟩|⟨H,rfl⟩
  ·exact h.apart i k x y c A r j C D
  ·have:=hold i x c j C;have:=l j D;omega
  ·have:=hold k y A j D;have:=l j C;omega
  ·exact r H.symm
def Hv(T:Az)(i:Nat):Bi:=match T.ns[i]? with
 |some x=>x.n.p
 |none=>⟨0,0,0,0,0,0,0,β none 0 0,[]⟩
structure Ga(f:A1)(T:Az):Prop where
 len:T.ns.length=f.n
 now:T.now=0
 fs:T.fs=[]
 node:∀i x,T.ns[i]? =U x->F9 f i x.n
def ZP{B:Nat}(c:Ga f T)(h:Aw w' q B T)(e:BN w f)(p:Bm f 0):Ie (Hv T) T 0:=by
 refine⟨fun i x d=>?_,fun f o=>by rw[c.fs]at o;cases o⟩;have N:=c.node i x d;have l:i<f.n:=by have:=(List.getElem?_eq_some_iff.1 d).1;have:=c.len;omega
 obtain⟨g,s⟩:=Xe e p l;refine⟨N.id,by unfold Hv;rw[d],bU g (by omega) N (h.each i x d),Cz.new N.new,by rw[N.tm];exact κ _,by rw[N.rate];exact e.rate,fun j r=>?_⟩;rw[N.tos,c.len];rw[N.tos]at r;rcases p with⟨hp,m⟩|⟨_,m⟩
 ·have:=hp.2.1 i l
  have ht:=this.2.2 j (by have:=(e.nds.2.1 i l).1;omega);omega
 ·exact absurd m (by decide)
structure If(w0 w:World)(q p:Nat)(f:A1)(nv:Value)(ns:List Bg):Prop where
 net:Aw w q w0.heap.size ⟨nv,ns,0,β none 0 0,[]⟩
 node:∀(i:Nat) (x:Bg),ns[i]? =U x->F9 f i x.n
 low:Below w0.heap.size w0 w
 box:BkA 25 w p [.slice f.a f.n f.c,.string f.obj,γ δ f.size,γ δ f.spread,γ δ f.buffer,γ δ f.queue,γ δ f.cache,.float .f64 f.rate,γ δ f.timeout,γ δ f.target]
 bq:p≠q
def If.below{w0:World}{p:Nat}{ns:List Bg}(h:If w0 w q p f nv ns)(c:Below w.heap.size w w'):If w0 w' q p f nv ns:=⟨h.net.below c,h.node,Ad h.low c,h.box.below c,h.bq⟩
def If.push{w0 w1 w2 w3:World}{p:Nat}{ns:List Bg}(h:If w0 w q p f nv ns)(u:Below w.heap.size w w1){g:Nat}{n:Ap}(B:Al w1 g w.heap.size n)(z:F9 f ns.length n)(l:Below w1.heap.size w1 w2){v:Value}
  (C:w3.ownsRow w0.heap.size 90 1 v (ns++[(⟨g,n⟩:Bg)]).length (Ev (ns++[⟨g,n⟩]))) (o:w2.grownBy w3 nv.ownBlock) (r:ns.length<=7):If w0 (w3.setCell ⟨q,0,ζ⟩ v) q p f v (ns++[⟨g,n⟩]):=by
 have d:=(h.below u).below l;have y:=h.low.size;have m:=d.box;have A:=m.kd;have s:U p≠nv.ownBlock:=fun e=>by have:=Bc d.net.own e.symm;omega
 refine⟨h.net.push u B y l C o r,fun i x c=>?_,?_,(m.kept o s).tu (A8 w3 q 0 v) h.bq,h.bq⟩
 ·by_cases e:i<ns.length
  ·rw[μ e]at c
   exact h.node i x c
  ·rw[ι (by omega)]at c
   have r:=(List.getElem?_eq_some_iff.1 c).1;have:i=ns.length:=by simp at r;omega
   subst this;simp at c;subst c;exact z
 ·have ht:Tu (fun j=>j=q\/nv.ownBlock=U j) w2 (w3.setCell ⟨q,0,ζ⟩ v):=(Tu.of_gb (F:=fun j=>j=q\/nv.ownBlock=U j) o fun j _ e=>.inr e).trans (A8 w3 q 0 v) fun j _ e=>.inl e
  refine d.low.trans (ht.below d.low.size fun j D e=>?_);rcases e with e|e
  ·have:=h.net.lo;omega
  ·have:=(C9 d.net.own e).1;omega
def OV(f:A1)(w:World)(h:BN w f):
  Calls Tryz.prog 9 #[f.val] w fun e w'=>Below w.heap.size w w'/\∃en:Int,Bm f en/\((en≠0/\e=.returned (.tuple #[ε none,γ δ en]))\/(en=0/\∃(q:Nat) (T:Az),e=.returned (.tuple #[.pointer (U ⟨q,0,ζ⟩),γ δ 0])/\Ga f T/\AQ w w' q (Hv T) T 0)):=by
 have s:=As w (.cells #[.slice f.a f.n f.c,.string f.obj,γ δ f.size,γ δ f.spread,γ δ f.buffer,γ δ f.queue,γ δ f.cache,.float .f64 f.rate,γ δ f.timeout,γ δ f.target] 25);have z:=AI 25 w [.slice f.a f.n f.c,.string f.obj,γ δ f.size,γ δ f.spread,γ δ f.buffer,γ δ f.queue,γ δ f.cache,.float .f64 f.rate,γ δ f.timeout,γ δ f.target];have HC:=Ab (Tz f _ (h.below s) h.caps);have ad:=z.load underlying25 rfl JO rfl;have B:=Ab s;have I:=Ab z;have HH:=Ab h;have ag:=h.len;clear s z h;unfold A1.val at*;go_enter func9,ntmps9;go_wp2_with fail;refine(Aa HC).mono ?_;rintro e w1 ⟨en,rfl,hr,g⟩;have V:=Ab hr;have l:=Ab (Ad (Aa B) g);have m:=Ab ((Aa I).below g);clear HC ad hr g;by_cases W:en=0
 case neg=>
  have hd:(en !=0)=true:=by simp[W]
  have S:=Ab W;clear W;go_wp2;go_ret2;exact⟨Aa l,en,Aa V,.inl ⟨Aa S,rfl⟩⟩
 subst W;have u:∀i,i<f.n->Hc w f i/\f.n<=8:=fun i hi=>Xe (Aa HH) (Aa V) hi;have Y:=Ab u
 have H8:Hid (f.n<=8):=Ab (by
  by_cases e:0<f.n
  ·exact(u 0 e).2
  ·omega)
 have C:Hid (If w (w1.alloc (.cells #[β none 0 0,γ δ 0,β none 0 0] 89)) w1.heap.size w.heap.size f (β none 0 0) []):=Ab (by
  have hb:=Ad (Aa l) (As w1 (.cells #[β none 0 0,γ δ 0,β none 0 0] 89));refine⟨⟨AI 89 w1 [β none 0 0,γ δ 0,β none 0 0],(Aa l).size,World.ownsRow_nil _ _ _ _,fun i x R=>(by cases R),fun i k x y R=>(by cases R),An.nil _ _,⟨ν _,ν _⟩,⟨Int.le_refl _,(by decide:(0:Int)<=1099511627776)⟩⟩,fun i x R=>(by cases R),hb,(Aa m).below (As _ _),Nat.ne_of_lt (Aa m).lt⟩)
 have x0:=((Aa m).below (As w1 (.cells #[β none 0 0,γ δ 0,β none 0 0] 89))).at 0 rfl;have af:=Ab (ξ (Aa l).size (κ w1.heap.size));clear u m I B;generalize hq:w1.heap.size=q at*;go_wp2_with fail;generalize w1.alloc (.cells #[β none 0 0,γ δ 0,β none 0 0] 89)=W1 at*;clear hq;go_loopw [17] (fun i wr=> ∃(nv:Value) (ns:List Bg),ns.length<=f.n/\i=γ δ (ns.length:Nat)/\Hid (If w wr q w.heap.size f nv ns)) (fun i _=>f.n-(intOf i).toNat)
 case atStart=>exact⟨β none 0 0,[],ν _,rfl,C⟩
 case round=>
  obtain⟨nv,ns,hm,rfl,r⟩:=hrel;rename_i wr;clear C x0;by_cases N:ns.length<f.n
  ·have ae:(ns.length:Int)<(f.n:Int):=by omega
   have d:=Aa r;have p:=d.low.size;have q0:=d.net.blk.at 0 rfl;have b0:=d.box.at 0 rfl;have b1:=d.box.at 1 rfl;have b2:=d.box.at 2 rfl;have b3:=d.box.at 3 rfl;have b4:=d.box.at 4 rfl;have b5:=d.box.at 5 rfl;have b6:=d.box.at 6 rfl;have b7:=d.box.at 7 rfl;have b8:=d.box.at 8 rfl;have b9:=d.box.at 9 rfl
   have S:=Ab (fun wx (hb:Below wr.heap.size wr wx)=>nB f ns.length wx (by
    obtain⟨a1,a2,a3,a4,a5,a6,a7,a8⟩:=(Aa Y ns.length N).1;exact⟨a1.below (d.low.trans (hb.mono p)),a2,a3,a4,a5,a6,a7,a8⟩))
   have aa:=Ab (show ns.length<=1000000 by have:=Aa H8;omega);have Z:=Ab (show ns.length<=7 by have:=Aa H8;omega);clear d;unfold A1.val at S;go_wp2_with fail
   go_region_law (first
    |(go_simp;go_at_call 22;refine(Aa S _ (by first|exact(Below.refl _ _).drew|exact I8 (Below.refl _ _) _)).mono ?_;rintro e w2 ⟨o,n1,rfl,O,K,g⟩;have A:=Ab (show Below wr.heap.size wr w2 from(Below.refl _ _).drew.trans g);have k0:=(((Aa r).below (Aa A)).net.blk).at 0 rfl;have ah:=((((Aa r).below (Aa A)).below (As w2 (.cells #[.pointer (U ⟨o,0,ζ⟩)] 90))).net.blk).at 0 rfl;have E:=Ab (And.intro (show Al w2 o wr.heap.size n1 from O) K);have H:=Ab ((((Aa r).below (Aa A)).below (As w2 (.cells #[.pointer (U ⟨o,0,ζ⟩)] 90))).net.own);have ac:=Ab (show w.heap.size<=(w2.alloc (.cells #[.pointer (U ⟨o,0,ζ⟩)] 90)).heap.size from ξ (ξ p (Aa A).size) (As _ _).size);have D:=Ab ((((Aa r).below (Aa A)).below (As w2 (.cells #[.pointer (U ⟨o,0,ζ⟩)] 90))).net.blk);clear O K g)
    |(refine eD (by rfl) (.tmp 24) (.tmp 28) (by rfl) w.heap.size nv ns ⟨o,n1⟩ (by rfl) (Aa H) w2.heap.size (by rfl) (AI 90 w2 [.pointer (U ⟨o,0,ζ⟩)]) (Aa aa) (Aa ac) ?_;intro g2 J w3 Q j;have v:=(Aa D).kept j (fun e=>by have:=Bc (Aa H) e.symm;have:=(Aa D).kd;omega);have t0:=v.at 0 rfl;have tf:=v.frz 0;have ab:=Ab Q;have X:=Ab j;clear v Q j)
    |fail)
   all_goals go_wp2
   all_goals go_round
   all_goals first
    |(simp[intOf];omega)
    |exact⟨.slice (U ⟨g2,0,ζ⟩) (ns.length+1) J,ns++[⟨o,n1⟩],by rw[η];exact N,by rw[η];go_num,Ab ((Aa r).push (Aa A) (Aa E).1 (Aa E).2 (As _ _) (Aa ab) (Aa X) (Aa Z))⟩
  ·have he:ns.length=f.n:=by omega
   go_wp2;go_ret2;have d:=Aa r;have P:Ga f ⟨nv,ns,0,β none 0 0,[]⟩:=⟨he,rfl,rfl,d.node⟩;exact⟨d.low,0,Aa V,.inr ⟨rfl,q,_,rfl,P,d.net,ZP P d.net (Aa HH) (Aa V),d.low⟩⟩
def YD{n:Int}(h:DR T 1 nd n a b L k ok T' k'):ok=true/\∃wv,T'=FT T (min (max n 0) 1048576) T.ns.length wv/\k'=k+2*T.ns.length:=by
 rcases h with⟨d,_,h⟩|⟨_,c,_⟩|⟨_,c,_⟩|⟨_,c,_⟩|⟨_,c,_⟩
 ·exact⟨d,h⟩
 ·omega
 ·omega
 ·omega
 ·rcases c with c|⟨c,_⟩|⟨c,_⟩<;>omega
def QQ{i:Nat}{x:Bg}{n:Int}(h:DR T 2 (i:Int) n a b L k ok T' k')(d:T.ns[i]? =U x):ok=true/\∃f wv,Fc x.n L f/\T'=NA T i x f wv/\k'=k+2:=by
 have p:=(List.getElem?_eq_some_iff.1 d).1;rcases h with⟨_,c,_⟩|⟨g,_,j,y,f,wv,r,e,m,l,o⟩|⟨_,c,_⟩|⟨_,c,_⟩|⟨_,c,_⟩
 ·omega
 ·obtain rfl:i=j:=by omega
  rw[d]at e;cases e;exact⟨g,f,wv,m,l,o⟩
 ·omega
 ·omega
 ·rcases c with c|⟨_,c⟩|⟨c,_⟩
  ·omega
  ·exact absurd (by omega) c
  ·omega
def M1{kd n:Int}(h:DR T kd nd n a b L k ok T' k')(g:3<=kd/\kd<=6)(e:T.fs≠ []):ok=true/\Ny T kd n a b k T' k':=by
 rcases h with⟨_,c,_⟩|⟨_,c,_⟩|⟨_,c,_⟩|⟨d,_,_,h⟩|⟨_,c,_⟩
 ·omega
 ·omega
 ·omega
 ·exact⟨d,h⟩
 ·rcases c with c|⟨c,_⟩|⟨_,c⟩
  ·omega
  ·omega
  ·exact absurd c e
def Rc{kd n:Int}(h:DR T kd nd n a b L k ok T' k')(c:QA T kd nd):ok=false/\T'=T/\k'=k:=by
 rcases h with⟨_,d,_⟩|⟨_,d,i,x,_,_,l,e,_⟩|⟨_,d,i,x,_,l,e,_⟩|⟨_,d,g,_⟩|⟨j,_,h⟩
 ·rcases c with h|⟨h,_⟩|⟨h,_⟩<;>omega
 ·have:=(List.getElem?_eq_some_iff.1 e).1
  rcases c with h|⟨_,h⟩|⟨h,_⟩
  ·omega
  ·exact absurd (by omega) h
  ·omega
 ·have:=(List.getElem?_eq_some_iff.1 e).1
  rcases c with h|⟨_,h⟩|⟨h,_⟩
  ·omega
  ·exact absurd (by omega) h
  ·omega
 ·rcases c with h|⟨h,_⟩|⟨_,h⟩
  ·omega
  ·omega
  ·rw[h]at g;cases g
 ·exact⟨j,h⟩
def Ey(a x y:Nat):A1:=⟨U ⟨a,0,ζ⟩,3,3,[⟨1,U ⟨x,0,ζ⟩,1,1,[1]⟩,⟨2,U ⟨y,0,ζ⟩,1,1,[2]⟩,⟨3,ζ,0,0,[]⟩],⟨#[97]⟩,1,0,4,4,0,4607182418800017408,5,1⟩
def IJ:PD:=⟨0,1,1,1,0,[1],⟨#[97]⟩⟩
def EH:PD:=⟨0,1,1,1,1,[1],⟨#[97]⟩⟩
def Ba(n:Ap):Prop:=n.p.queue=4/\∀i,i<n.s.ls.length->(n.s.ls.getD i .dflt).lv=4000/\(n.s.ls.getD i .dflt).L=[]
def Ba.new(h:Gx n.p n.s)(c:n.p.queue=4):Ba n:=⟨c,fun i d=>by
 obtain⟨a,b,_⟩:=h.1.1 i d;rw[c]at a;exact⟨a.trans (by decide),b⟩⟩
def Ba.fly(h:Ba n):∀k,k<=n.s.ls.length->flyTo n k=[]
 |0,_=>rfl
 |k+1,c=>by
  show flyTo n k++Di n k (ED n k)=[];rw[h.fly k (by omega),List.nil_append];unfold Di;rw[(h.2 k (by omega)).2,List.take_nil];rfl
def Ba.tick(h:Ba n):Ba (BR 3 n):=⟨h.1,fun i d=>by
 have c:i<n.s.ls.length:=by rwa[BR,Fi]at d
 unfold BR;rw[My c];refine⟨?_,(h.2 i c).2⟩;show Gw n.p.M (1000*Bu n.p.queue 1 256) (n.s.ls.getD i .dflt).lv 3=4000;rw[h.1,(h.2 i c).1];have e:0<=n.p.M:=Int.natCast_nonneg _;unfold Gw;rw[show Bu 3 0 1048576=3 from by decide,show 1000*Bu 4 1 256=4000 from by decide];omega⟩
def Ba.pump(h:Ba n):Ba (n.each Co):=⟨h.1,fun i d=>by
 have c:i<n.s.ls.length:=by rwa[Fi]at d
 rw[My c];obtain⟨a,b⟩:=h.2 i c;have hp:DP (n.s.ls.getD i .dflt).L (n.s.ls.getD i .dflt).lv=0:=by rw[b];unfold DP;simp
 refine⟨?_,?_⟩
 ·show(n.s.ls.getD i .dflt).lv-1000*(DP (n.s.ls.getD i .dflt).L (n.s.ls.getD i .dflt).lv:Int)=4000
  rw[hp,a];decide
 ·show(n.s.ls.getD i .dflt).L.drop _=[]
  rw[b];exact List.drop_nil⟩
def Ba.act(h:Ba n)(c:n.s.ls.length=1)(f:Br):flyTo (Ej n f) n.s.ls.length=[⟨(n.id:Int),n.p.tos.getD 0 0,f.enc⟩]:=by
 obtain⟨a,b⟩:=h.2 0 (by omega);rw[c];show []++Di (Ej n f) 0 (ED (Ej n f) 0)=_;unfold Di ED Ej;rw[My (by omega)];have d:Dg (FU n.p.queue f.enc) (n.s.ls.getD 0 .dflt)=(n.s.ls.getD 0 .dflt).now 4000 [f.enc] (n.s.ls.getD 0 .dflt).lo:=by
  unfold Dg FU;rw[a,b,h.1];rfl
 rw[d];rfl
structure CK(n:Ap):Prop where
 id:n.id=0/\n.inc=0
 rest:Ba n
 len:n.s.ls.length=1
 tos:n.p.tos=[1]
 src:∃g v,n.src=U ⟨g,v,1,1,0,Bo (tx ⟨#[97]⟩) 1 1⟩
structure CI(n:Ap):Prop where
 id:n.id=1/\n.inc=0
 rest:Ba n
 len:n.s.ls.length=1
 tos:n.p.tos=[2]
 src:n.src=ζ
 num:n.p.timeout=5/\n.p.cache=0/\n.p.buffer=4/\n.p.target=1
 rl:∃r,n.s.rl=U r/\r.ps=[]
 Z:n.s.Z=List.replicate 16 0
 P:n.s.P=[]
structure CJ(n:Ap):Prop where
 rest:Ba n
 num:n.p.cache=0/\n.p.buffer=4
 dc:∃d,n.s.dc=U d/\d.s=CQ
 P:n.s.P=[]
def CK.tick(h:CK n):CK ((BR 3 n).each Co):=⟨h.id,h.rest.tick.pump,by rw[Fi,BR,Fi];exact h.len,h.tos,h.src⟩
def CI.tick(h:CI n):CI ((BR 3 n).each Co):=⟨h.id,h.rest.tick.pump,by rw[Fi,BR,Fi];exact h.len,h.tos,h.src,h.num,h.rl,h.Z,h.P⟩
def CJ.tick(h:CJ n):CJ ((BR 3 n).each Co):=⟨h.rest.tick.pump,h.num,h.dc,h.P⟩
def CK.em(h:CK n):C1 n []=U IJ:=by
 obtain⟨g,v,e⟩:=h.src;unfold C1;rw[e,h.id.1];exact congrArg U (show Ki 0 ⟨g,v,1,1,0,Bo (tx ⟨#[97]⟩) 1 1⟩ []=IJ by kernel_rfl)
def N9:Ac [1]:=fun y c=>by cases List.mem_singleton.1 c;exact(by decide:(1:Nat)<18446744073709551616)
def aD{r:Gc}(d:n.src=ζ)(c:n.s.rl=U r):C1 n L=G0 (r.ps.map PKV.pd) L 0 (Gr n.p.target):=by
 unfold C1;rw[d,c]
def CI.recv{c:Ap}{en:Nat}(h:CI n)(o:GZ n (FX 0 0 IJ) 3 en c):(c.id=1/\c.inc=0)/\Ba c/\c.s.ls.length=1/\c.p.tos=[2]/\C1 c []=U EH/\(FV (CF c.p.timeout) c.s.Z 3).length=1:=by
 obtain⟨D,B,y,r1,o1,A,m,f1,z⟩:=VQ (d:=IJ) N9 (by decide) (by decide) (by kernel_rfl) o;obtain⟨x,C,t3,t4⟩:=h.num;obtain⟨r,g,i⟩:=h.rl;rw[h.P,t3]at f1;have e:Dp [] IJ=true:=by kernel_rfl
 rw[e]at f1;obtain⟨j,u,_,_,_,l⟩:=f1.2 r g;rw[i]at l;have v:j.ps.map PKV.pd=[IJ]:=l.trans (by kernel_rfl);subst m;refine⟨h.id,h.rest,h.len,h.tos,?_,?_⟩
 ·refine Eq.trans (aD (r:=j) h.src ?_) ?_
  ·exact u
  show G0 (j.ps.map PKV.pd) [] 0 (Gr n.p.target)=U EH;rw[v,t4]
  kernel_rfl
 ·show(FV (CF n.p.timeout) (EC n.s.Z 0 0 3) 3).length=1
  rw[h.Z,x]
  kernel_rfl
def cS{q:PKV}{ob:ByteArray}(h:q.pd=EH)(p:Df CQ q=true->GV 4 (Cs CQ q) (q.r.xs,q.r.s) ob):(FW 4 CQ q ob).dn=true/\(FW 4 CQ q ob).ob=⟨#[97]⟩:=by
 have i:(FW 4 CQ q ob).dn=true:=by
  obtain⟨o,l,k,z,u,a,n,c,xs,s⟩:=q;simp only[PKV.pd,EH,PD.mk.injEq]at h;obtain⟨rfl,rfl,rfl,rfl,rfl,rfl,rfl⟩:=h
  kernel_rfl
 have d:IM ⟨#[97]⟩ 1 q:=by
  obtain⟨o,l,k,z,u,a,n,c,xs,s⟩:=q;simp only[PKV.pd,EH,PD.mk.injEq]at h;obtain⟨rfl,rfl,rfl,rfl,rfl,rfl,rfl⟩:=h;exact⟨by kernel_rfl,rfl,by kernel_rfl,rfl,by kernel_rfl⟩
 have g:q.r.xs=[1]/\q.r.s=⟨#[97]⟩:=by
  have j:q.pd.xs=[1]:=by rw[h];rfl
  have m:q.pd.s=⟨#[97]⟩:=by rw[h];rfl
  exact⟨j,m⟩
 have:=(Ff.zero ⟨#[97]⟩ 1).put (fun e=>by cases e) (by decide) d ⟨by rw[g.1];exact N9,by rw[g.2];decide,by rw[g.1];decide⟩ p;exact⟨i,this.told i⟩
def CJ.recv{l:Ap}{en:Nat}(h:CJ n)(r:GZ n (FX 1 0 EH) 3 en l):EF l.s=true/\EL l.s=⟨#[97]⟩:=by
 obtain⟨E,C,A,r1,o1,z,p,f1,e⟩:=VQ (d:=EH) N9 (by decide) (by decide) (by kernel_rfl) r;obtain⟨D,t3⟩:=h.num;obtain⟨d,g,i⟩:=h.dc;rw[h.P,t3]at e;have c:Dp [] EH=true:=by kernel_rfl
 rw[c]at e;obtain⟨B,m,_,_,u⟩:=e.2 d g;obtain⟨y,j,o⟩:=u rfl;rw[i]at j o;obtain⟨v,x⟩:=cS z o;subst p;exact⟨(pJ m).trans (by rw[j];exact v),(sD m).trans (by rw[j];exact x)⟩
structure Dn(T:Az)(x0 x1 x2:Bg)(now:Int)(fs:List AE):Prop where
 ns:T.ns=[x0,x1,x2]
 now:T.now=now
 fs:T.fs=fs
def Wf{a x y:Nat}{en:Int}(h:Bm (Ey a x y) en):en=0:=by
 have hp:LC (Ey a x y):=by
  refine⟨⟨⟨show 1<=3 by decide,show 3<=8 by decide⟩,⟨show(0:Int)<=0 by decide,show(0:Int)<=128 by decide⟩,⟨show(1:Int)<=4 by decide,show(4:Int)<=256 by decide⟩,⟨show(1:Int)<=4 by decide,show(4:Int)<=256 by decide⟩,⟨show(0:Int)<=0 by decide,show(0:Int)<=256 by decide⟩,⟨show(0:Int)<=5 by decide,show(5:Int)<=1048576 by decide⟩,show(1:Int)<=1 by decide,show(1:Int)<=128 by decide⟩,fun i e=>?_,by kernel_rfl⟩;have g:i<3:=e;obtain rfl|rfl|rfl:i=0\/i=1\/i=2:=by omega
  ·exact⟨⟨show(1:Int)<=1 by decide,show(1:Int)<=3 by decide⟩,show(1:Int)<3 by decide,fun j c=>by
    have d:j<1:=c;obtain rfl:j=0:=by omega
    exact⟨⟨show(0:Int)<=1 by decide,show(1:Int)<=3-1 by decide⟩,show(1:Int)≠0 by decide,fun k l=>by omega⟩⟩
  ·exact⟨⟨show(1:Int)<=2 by decide,show(2:Int)<=3 by decide⟩,show(1:Int)<3 by decide,fun j c=>by
    have d:j<1:=c;obtain rfl:j=0:=by omega
    exact⟨⟨show(0:Int)<=2 by decide,show(2:Int)<=3-1 by decide⟩,show(2:Int)≠1 by decide,fun k l=>by omega⟩⟩
  ·exact⟨⟨show(1:Int)<=3 by decide,show(3:Int)<=3 by decide⟩,show(0:Int)<3 by decide,fun j c=>by
    have d:j<0:=c;omega⟩
 rcases h with⟨_,h⟩|⟨h,_⟩
 ·exact h.trans (by kernel_rfl)
 ·exact absurd hp h
def ld{α:Type}:∀{l:List α},l.length=3->∃a b c,l=[a,b,c]
 |[a,b,c],_=>⟨a,b,c,rfl⟩
 |[],h=>by cases h
 |[_],h=>by cases h
 |[_,_],h=>by cases h
 |_::_::_::_::_,h=>by simp at h
def qH{a x y:Nat}{P:Nat->Bi}(h:Ga (Ey a x y) T)(l:AQ w w' q P T k):∃x0 x1 x2,Dn T x0 x1 x2 0 []/\CK x0.n/\CI x1.n/\CJ x2.n:=by
 obtain⟨x0,x1,x2,e⟩:∃x0 x1 x2,T.ns=[x0,x1,x2]:=ld (h.len.trans rfl);have o:T.ns[0]? =U x0:=by rw[e];rfl
 have s:T.ns[1]? =U x1:=by rw[e];rfl
 have g2:T.ns[2]? =U x2:=by rw[e];rfl
 have i:=h.node 0 x0 o;have c:=h.node 1 x1 s;have j:=h.node 2 x2 g2;have z:=l.net.each 0 x0 o;have m:=l.net.each 1 x1 s;have I:=l.net.each 2 x2 g2;have D:x0.n.p.kd=1:=i.kd;have E:x1.n.p.kd=2:=c.kd;have H:x2.n.p.kd=3:=j.kd;have t0:x0.n.p.tos=[1]:=i.tos;have u:x1.n.p.tos=[2]:=c.tos;refine⟨x0,x1,x2,⟨e,h.now,h.fs⟩,⟨⟨i.id,i.inc⟩,Ba.new i.new i.queue,by rw[z.num.2.1,t0];rfl,t0,?_⟩,⟨⟨c.id,c.inc⟩,Ba.new c.new c.queue,by rw[m.num.2.1,u];rfl,u,?_,⟨c.timeout,c.cache,c.buffer,c.target⟩,?_,c.new.1.2.1,c.new.1.2.2.2⟩,⟨Ba.new j.new j.queue,⟨j.cache,j.buffer⟩,?_,j.new.1.2.2.2⟩⟩
 ·obtain⟨g,v,e⟩:=i.src D
  exact⟨g,v,e.trans (by kernel_rfl)⟩
 ·rcases m.kd with⟨k,_⟩|⟨_,k,_⟩|⟨k,_⟩
  ·omega
  ·exact k
  ·omega
 ·rcases c.new.2 with⟨_,_,r,B,_,hp⟩|⟨k,_⟩|⟨k,_⟩
  ·exact⟨r,B,hp⟩
  ·omega
  ·exact absurd E k
 ·rcases j.new.2 with⟨k,_⟩|⟨_,_,d,A,C,_⟩|⟨_,k,_⟩
  ·omega
  ·exact⟨d,A,C⟩
  ·exact absurd H k
def lh(h:Dn T x0 x1 x2 0 [])(d:CK x0.n)(e:CI x1.n)(i:CJ x2.n)(r:DR T 1 0 3 0 0 [] k ok T' k'):ok=true/\k'=k+6/\∃l m o,Dn T' l m o 3 []/\CK l.n/\CI m.n/\CJ o.n:=by
 obtain⟨p,wv,rfl,u⟩:=YD r;have c:T.ns.length=3:=by rw[h.ns];rfl
 have f0:flyTo (BR 3 x0.n) x0.n.s.ls.length=[]:=d.rest.tick.fly _ (by rw[BR,Fi];exact κ _);have f1:flyTo (BR 3 x1.n) x1.n.s.ls.length=[]:=e.rest.tick.fly _ (by rw[BR,Fi];exact κ _);have f2:flyTo (BR 3 x2.n) x2.n.s.ls.length=[]:=i.rest.tick.fly _ (by rw[BR,Fi];exact κ _);have j:min (max (3:Int) 0) 1048576=3:=by decide
 have ht:Eb 3 [x0,x1,x2] 3 []=([⟨x0.g,(BR 3 x0.n).each Co⟩,⟨x1.g,(BR 3 x1.n).each Co⟩,⟨x2.g,(BR 3 x2.n).each Co⟩],[]):=by
  simp[Eb,f0,f1,f2,onto]
 refine⟨p,by rw[u,c],⟨x0.g,(BR 3 x0.n).each Co⟩,⟨x1.g,(BR 3 x1.n).each Co⟩,⟨x2.g,(BR 3 x2.n).each Co⟩,⟨?_,?_,?_⟩,d.tick,e.tick,i.tick⟩
 ·show(Eb (min (max 3 0) 1048576) T.ns T.ns.length T.fs).1=_
  rw[c,h.ns,h.fs,j,ht]
 ·show min (T.now+min (max 3 0) 1048576) 1099511627776=3
  rw[h.now];decide
 ·show(Eb (min (max 3 0) 1048576) T.ns T.ns.length T.fs).2=_
  rw[c,h.ns,h.fs,j,ht]
def Wr(y:AE):onto [] [y]=[y]:=rfl
def qK(h:Dn T x0 x1 x2 3 [])(c:CK x0.n)(j:DR T 2 0 0 0 0 [] k ok T' k'):ok=true/\k'=k+2/\∃o,Dn T' o x1 x2 3 [⟨0,1,FX 0 0 IJ⟩]:=by
 obtain⟨e,f,wv,l,rfl,m⟩:=QQ (i:=0) (x:=x0) j (by rw[h.ns];rfl);have d:=W5 l c.em;rw[c.id.1,c.id.2]at d;refine⟨e,m,⟨x0.g,(Ej x0.n f).each Co⟩,⟨?_,h.now,?_⟩⟩
 ·show T.ns.set 0 _=_
  rw[h.ns];rfl
 ·show onto T.fs (flyTo (Ej x0.n f) x0.n.s.ls.length)=_
  rw[h.fs,c.rest.act c.len,Wr,c.id.1,c.tos,d];rfl
def qG(h:Dn T x0 x1 x2 3 [⟨0,1,FX 0 0 IJ⟩])(m:CI x1.n)(r:DR T 3 0 0 0 0 [] k ok T' k'):ok=true/\k'=k+1/\∃n,Dn T' x0 ⟨x1.g,n⟩ x2 3 []/\(n.id=1/\n.inc=0)/\Ba n/\n.s.ls.length=1/\n.p.tos=[2]/\C1 n []=U EH/\(FV (CF n.p.timeout) n.s.Z 3).length=1:=by
 obtain⟨o,f,wv,e,⟨_,y,en,n,l,j,rfl,u⟩|⟨d,_⟩|⟨d,_⟩|⟨d,_⟩⟩:=M1 r (by decide) (by rw[h.fs];exact θ _ _)
 ·have i:Dy T 0=0:=by unfold Dy;rw[h.fs];rfl
  rw[i,h.fs]at e;cases e;rw[h.ns]at l;have c:U x1=U y:=l;cases c;rw[h.now]at j;obtain⟨v,x,z,A,B,C⟩:=m.recv j;refine⟨o,u,n,⟨?_,h.now,?_⟩,v,x,z,A,B,C⟩
  ·show T.ns.set 1 _=_
   rw[h.ns];rfl
  ·show T.fs.eraseIdx (Dy T 0)=[]
   rw[i,h.fs];rfl
 ·omega
 ·omega
 ·omega
def qI{g:Nat}(h:Dn T x0 ⟨g,n⟩ x2 3 [])(c:n.id=1/\n.inc=0)(r:Ba n)(u:n.s.ls.length=1)(v:n.p.tos=[2])(y:C1 n []=U EH)(j:DR T 2 1 0 0 0 [] k ok T' k'):ok=true/\k'=k+2/\∃m,Dn T' x0 ⟨g,m⟩ x2 3 [⟨1,2,FX 1 0 EH⟩]/\m.p=n.p/\m.s.Z=n.s.Z:=by
 obtain⟨e,f,wv,l,rfl,o⟩:=QQ (i:=1) (x:=⟨g,n⟩) j (by rw[h.ns];rfl);have d:=W5 l y;rw[c.1,c.2]at d;refine⟨e,o,(Ej n f).each Co,⟨?_,h.now,?_⟩,rfl,rfl⟩
 ·show T.ns.set 1 _=_
  rw[h.ns];rfl
 ·show onto T.fs (flyTo (Ej n f) n.s.ls.length)=_
  rw[h.fs,r.act u,Wr,c.1,v,d];rfl
def qF{y:AE}(h:Dn T x0 x1 x2 3 [y])(g:DR T 5 0 0 0 0 [] k ok T' k'):ok=true/\k'=k/\Dn T' x0 x1 x2 3 [y,y]:=by
 obtain⟨e,f,wv,d,⟨c,_⟩|⟨c,_⟩|⟨_,rfl,j⟩|⟨c,_⟩⟩:=M1 g (by decide) (by rw[h.fs];exact θ _ _)
 ·omega
 ·omega
 ·have i:Dy T 0=0:=by unfold Dy;rw[h.fs];rfl
  rw[i,h.fs]at d;cases d;exact⟨e,j,h.ns,h.now,by show onto T.fs [y]=_;rw[h.fs];rfl⟩
 ·omega
def qJ(h:Dn T x0 x1 x2 3 [⟨1,2,FX 1 0 EH⟩,⟨1,2,FX 1 0 EH⟩])(m:CJ x2.n)(p:DR T 3 0 1 0 0 [] k ok T' k'):ok=true/\k'=k+1/\∃n,Dn T' x0 x1 ⟨x2.g,n⟩ 3 [⟨1,2,FX 1 0 EH⟩]/\EF n.s=true/\EL n.s=⟨#[97]⟩:=by
 obtain⟨o,f,wv,e,⟨_,y,en,n,l,j,rfl,r⟩|⟨d,_⟩|⟨d,_⟩|⟨d,_⟩⟩:=M1 p (by decide) (by rw[h.fs];exact θ _ _)
 ·have i:Dy T 1=1:=by unfold Dy;rw[h.fs];rfl
  rw[i,h.fs]at e;cases e;rw[h.ns]at l;have c:U x2=U y:=l;cases c;rw[h.now]at j;obtain⟨u,v⟩:=m.recv j;refine⟨o,r,n,⟨?_,h.now,?_⟩,u,v⟩
  ·show T.ns.set 2 _=_
   rw[h.ns];rfl
  ·show T.fs.eraseIdx (Dy T 1)=_
   rw[i,h.fs];rfl
 ·omega
 ·omega
 ·omega
def lg{y:AE}(h:Dn T x0 x1 x2 3 [y])(e:DR T 4 0 0 0 0 [] k ok T' k'):ok=true/\k'=k/\Dn T' x0 x1 x2 3 []:=by
 obtain⟨d,f,wv,j,⟨c,_⟩|⟨_,rfl,i⟩|⟨c,_⟩|⟨c,_⟩⟩:=M1 e (by decide) (by rw[h.fs];exact θ _ _)
 ·omega
 ·have g:Dy T 0=0:=by unfold Dy;rw[h.fs];rfl
  exact⟨d,i,h.ns,h.now,by show T.fs.eraseIdx (Dy T 0)=[];rw[g,h.fs];rfl⟩
 ·omega
 ·omega
end Go.Proofs.YtfpmnekaockodaaGreatDoor
