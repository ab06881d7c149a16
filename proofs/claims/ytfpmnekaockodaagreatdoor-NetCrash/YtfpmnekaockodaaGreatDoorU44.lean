/- Laws for the proof. -/
import Derived.Test.YtfpmnekaockodaaGreatDoorU43
set_option linter.all false
open Go.Proofs.Tryz
open Go.Value renaming int->U,string->ε,slice->η,pointer->θ,tuple->ω
open Go.IntKind renaming i64->α
open Option renaming some->β,none->γ
open Go.Ending renaming returned->δ
open Go.Proofs.Tryz renaming prog->ζ
open Go.Obj renaming cells->ι
open List renaming getElem?_eq_getElem->κ,getD_eq_getElem?_getD->ν,length_set->ξ,mem_of_getElem?->τ,getElem?_set->Α
open Go.RowKit.Below renaming refl->μ
open Go renaming Calls->ο,Value->σ,World->ψ
open Go.World renaming block_lt_of_cell?->π,heap_drewN->Β
open And renaming intro->ρ
open Go.RowKit renaming Below->ς
open Nat renaming le_trans->υ,le_refl->φ,succ_le_succ->χ
namespace Go.Proofs.YtfpmnekaockodaaGreatDoor
open Go.RowKit Go.Sort
set_option maxRecDepth 4000
set_option maxHeartbeats 8000000
variable {n:Ap}{x:Bg}{i N k k' q B:Nat}{P:Nat->Bi}{w w0 w':ψ}
structure Fe(p:Bi)(i N k:Nat)(n:Ap):Prop where
 id:n.id=i
 p:n.p=p
 src:∀r,n.src=β r->Ci n.id r
 fr:Cz n
 tm:n.t<=k
 rate:n.p.rate<18446744073709551616
 tos:∀j,j<n.p.tos.length->0<=n.p.tos.getD j 0/\n.p.tos.getD j 0<N
def GF(N:Nat)(f:AE):Prop:=(0<=f.dst/\f.dst<N)/\0<f.s.size/\f.s.size<=1048576
structure Ie(P:Nat->Bi)(T:Az)(k:Nat):Prop where
 node:∀i x,T.ns[i]? =β x->Fe (P i) i T.ns.length k x.n
 fly:∀f∈T.fs,GF T.ns.length f
def Fe.more{p:Bi}(h:Fe p i N k n)(a:k<=k'):Fe p i N k' n:=⟨h.id,h.p,h.src,h.fr,υ h.tm a,h.rate,h.tos⟩
def Fe.each{p:Bi}{u:AH->Int×List ByteArray×Nat}(h:Fe p i N k n)(a:Cz (n.each u)):Fe p i N (k+1) (n.each u):=⟨h.id,h.p,h.src,a,χ h.tm,h.rate,h.tos⟩
def Hb.pos{id:Nat}{kd:Int}{s:ByteArray}(h:Hb id kd s):0<s.size:=by
 obtain⟨f,a,_,rfl,_⟩:=h;show 0<(Fv _ _ _ _ _ _ _ _ _ _).size;unfold Fv;rw[KK];omega
def Fe.fly{p:Bi}(h:Fe p i N k n)(e:n.s.ls.length=n.p.tos.length):∀f∈flyTo n n.s.ls.length,GF N f:=fun f c=>by
 obtain⟨_,a,j,d,b⟩:=W4 h.fr _ (φ _) f c;exact⟨b▸h.tos j (by omega),a.pos,a.size⟩
def Ie.more{T:Az}(h:Ie P T k)(a:k<=k'):Ie P T k':=⟨fun i x b=>(h.node i x b).more a,h.fly⟩
def Ie.set{T:Az}{wv:σ}{fs:List AE}{now:Int}(h:Ie P T k)(d:k<=k')(m:T.ns[i]? =β x)(l:Fe (P i) i T.ns.length k' n)(c:∀f∈fs,GF T.ns.length f):Ie P ⟨T.nv,T.ns.set i ⟨x.g,n⟩,now,wv,fs⟩ k':=by
 have b:(T.ns.set i ⟨x.g,n⟩).length=T.ns.length:=ξ;refine⟨fun j y a=>?_,fun f e=>?_⟩
 ·show Fe (P j) j (T.ns.set i _).length k' y.n
  rw[b];rcases Mj m a with⟨rfl,rfl⟩|⟨o,a⟩
  ·exact l
  ·exact(h.node j y a).more d
 ·show GF (T.ns.set i _).length f
  rw[b];exact c f e
def sH{fs us:List AE}(b:∀f∈fs,GF N f)(c:∀f∈us,GF N f):∀f∈onto fs us,GF N f:=fun f d=>by
 rcases List.mem_append.1 d with a|a
 ·exact b f a
 ·exact c f (List.mem_of_mem_take a)
def Aw.wayT{T:Az}(h:Aw w q B T):∀j,F4 q T j->EK q T j:=fun j a=>a.imp id fun e=>.inr (.inl e)
def Wo{T:Az}(b:T.ns[i]? =β x):∀j,A9 x.g x.n j->EK q T j:=fun j a=>.inr (.inr (.inr ⟨i,x,b,a⟩))
def Aw.lowB{T:Az}(h:Aw w q B T)(a:ς B w0 w)(ht:Tu (EK q T) w w'):ς B w0 w':=
 a.trans (ht.below (υ h.lo (Nat.le_of_lt h.blk.lt)) fun j c b=>by have:=h.low j b;omega)
def evC(kd nd n at_ by_:Int)(v:σ):List σ:=[U α kd,U α nd,U α n,U α at_,U α by_,v]
def TD(q B:Nat)(T:Az)(kd id n a b:Int)(v:σ)(w:ψ)(h:Aw w q B T)(c:¬(0<=id/\id<T.ns.length)):
  ο ζ 28 #[.pointer (β ⟨q,0,γ⟩),.agg #[U α kd,U α id,U α n,U α a,U α b,v]] w fun e w'=>e=δ (.bool false)/\ς w.heap.size w w':=by
 have g:=Ab (As w (ι (evC kd id n a b v).toArray 42));have l:=Ab (AI 42 w (evC kd id n a b v));have j:=Ab (Mh q B T id _ (h.below (As w (ι (evC kd id n a b v).toArray 42))));have o:=(Aa l).at 1 rfl;have m:=Ab c;clear h c;simp only[evC]at g l j o;go_enter func28,ntmps28
 go_wp2_with (first
  |(go_at_call 30;refine(Aa j).mono ?_;rintro e w1 ⟨⟨rfl,f⟩|⟨rfl, -⟩,d⟩;(exact absurd f (Aa m));(obtain rfl:=d.symm;clear d))
  |fail)
 go_ret;exact⟨rfl,Aa g⟩
def Az.setN(T:Az)(i g:Nat)(n:Ap):Az:=⟨T.nv,T.ns.set i ⟨g,n⟩,T.now,T.wv,T.fs⟩
def Az.fly(T:Az)(v:σ)(fs:List AE):Az:=⟨T.nv,T.ns,T.now,v,fs⟩
def P1{T:Az}(a:T.ns[i]? =β x)(n:Ap):(T.setN i x.g n).ns[i]? =β ⟨x.g,n⟩:=by
 show(T.ns.set i _)[i]? =_;rw[Α,if_pos rfl,if_pos (List.getElem?_eq_some_iff.1 a).1]
def JK(T:Az)(i g:Nat)(n:Ap):(T.setN i g n).ns.length=T.ns.length:=ξ
def VV(T:Az)(i g:Nat)(n m:Ap):(T.setN i g n).setN i g m=T.setN i g m:=by
 unfold Az.setN;simp only[List.set_set]
structure AQ(w0 w:ψ)(q:Nat)(P:Nat->Bi)(T:Az)(k:Nat):Prop where
 net:Aw w q w0.heap.size T
 inv:Ie P T k
 low:ς w0.heap.size w0 w
def AQ.tabs{T:Az}(h:AQ w0 w q P T k)(ht:Bv w0):∀wx,ς w0.heap.size w wx->Bv wx:=fun wx a=>ht.below (h.low.trans a)
def AQ.below{T:Az}(h:AQ w0 w q P T k)(a:ς w.heap.size w w'):AQ w0 w' q P T k:=⟨h.net.below a,h.inv,Ad h.low a⟩
def AQ.more{T:Az}(h:AQ w0 w q P T k)(a:k<=k'):AQ w0 w q P T k':=⟨h.net,h.inv.more a,h.low⟩
def AQ.set{T:Az}(h:AQ w0 w q P T k)(a:T.ns[i]? =β x)(c:Al w' x.g w0.heap.size n)(ht:Tu (A9 x.g x.n) w w')(d:∀j,j<w.heap.size->A9 x.g n j->A9 x.g x.n j)(b:Fe (P i) i T.ns.length (k+1) n):AQ w0 w' q P (T.setN i x.g n) (k+1):=
 ⟨h.net.node a c ht d,h.inv.set (Nat.le_succ k) a b h.inv.fly,h.net.lowB h.low (ht.wide (Wo (q:=q) a))⟩
def Ej(n:Ap)(f:Br):Ap:=n.each (FU n.p.queue f.enc)
def Zf{T:Az}(h:AQ w0 w q P T k)(ht:Bv w0)(b:T.ns[i]? =β x)(u:k<=1000000){c:Option Addr}{dn:Nat}(dc:Nat){L:List Nat}(r:RowAt w c dn L)(d:dn<=1048576)(now:Int):
  ο ζ 50 #[.pointer (β ⟨x.g,0,γ⟩),η c dn dc,U α now] w fun e w'=>e=δ (ω #[])/\∃f:Br,Fc x.n L f/\AQ w0 w' q P (T.setN i x.g (Ej x.n f)) (k+1):=by
 have X:=h.inv.node i x b;have N:=h.net.each i x b;have a:x.n.id<=7:=by rw[X.id];have:=(List.getElem?_eq_some_iff.1 b).1;have:=h.net.few.1;omega
 refine(nA x.g w0.heap.size x.n c dn dc L now w N (h.tabs ht) X.src a r d (by have:=X.tm;omega)).mono ?_;rintro e w' ⟨rfl,f,o,p,m,l⟩;exact⟨rfl,f,o,h.set b p m (fun j _ s=>PU j s) (X.each (X.fr.act (Yj N a X.src o l)))⟩
def rz{T:Az}(h:AQ w0 w q P T k)(b:T.ns[i]? =β x)(d:Int):
  ο ζ 47 #[.pointer (β ⟨x.g,0,γ⟩),U α d] w fun e w'=>e=δ (ω #[])/\AQ w0 w' q P (T.setN i x.g (x.n.each (II x.n.p.M x.n.p.queue d))) (k+1):=by
 have X:=h.inv.node i x b;refine(ib x.g w0.heap.size x.n d w (h.net.each i x b)).mono ?_;rintro e w' ⟨rfl,c,a⟩;exact⟨rfl,h.set b c a (fun j _ f=>PU j f) (X.each X.fr.tick)⟩
def Wp{T:Az}(h:AQ w0 w q P T k)(b:T.ns[i]? =β x):
  ο ζ 49 #[.pointer (β ⟨x.g,0,γ⟩)] w fun e w'=> ∃v,e=δ v/\An w' w.heap.size v (flyTo x.n x.n.s.ls.length)/\(flyTo x.n x.n.s.ls.length).length<=4096/\(∀f∈flyTo x.n x.n.s.ls.length,GF T.ns.length f)/\AQ w0 w' q P (T.setN i x.g (x.n.each Co)) (k+1):=by
 have X:=h.inv.node i x b;have N:=h.net.each i x b;refine(iZ x.g w0.heap.size x.n w N).mono ?_;rintro e w' ⟨v,rfl,m,c,a⟩;refine⟨v,rfl,m,?_,X.fly N.num.2.1,h.set b c a (fun j _ l=>PU j l) (X.each X.fr.pump)⟩;have o:x.n.s.ls.length<=8:=by have:=N.num;omega
 exact υ (OG fun i d=>N.fly d) (by omega)
def PE{b:Nat}{T:Az}{v:σ}{us:List AE}(h:AQ w0 w q P T k)(l:An w b v us)(g:us.length<=4096)(d:∀f∈us,GF T.ns.length f):
  ο ζ 48 #[.pointer (β ⟨q,0,γ⟩),v] w fun e w'=>e=δ (ω #[])/\∃wv,AQ w0 w' q P (T.fly wv (onto T.fs us)) k:=
 (ig q w0.heap.size b T v us w h.net l g).mono fun e w' ⟨c,wv,j,a⟩=>
  ⟨c,wv,j,⟨fun i x m=>h.inv.node i x m,sH h.inv.fly d⟩,h.net.lowB h.low (a.wide h.net.wayT)⟩
def Wq{T:Az}(h:AQ w0 w q P T k)(d:i<T.fs.length):
  ο ζ 53 #[.pointer (β ⟨q,0,γ⟩),U α (i:Int)] w fun e w'=>e=δ (ω #[])/\∃wv,AQ w0 w' q P (T.fly wv (T.fs.eraseIdx i)) k/\Tu (F4 q T) w w':=
 (ii q w0.heap.size i T w h.net d).mono fun e w' ⟨b,wv,g,a⟩=>
  ⟨b,wv,⟨g,⟨fun i x j=>h.inv.node i x j,fun f c=>h.inv.fly f (List.mem_of_mem_eraseIdx c)⟩,h.net.lowB h.low (a.wide h.net.wayT)⟩,a⟩
def ry{T:Az}(h:AQ w0 w q P T k)(ht:Bv w0)(f:T.ns[i]? =β x)(u:k<=1000000)(s:ByteArray)(r:s.size<=1048576)(now:Int):
  ο ζ 54 #[.pointer (β ⟨x.g,0,γ⟩),ε s,U α now] w fun e w'=> ∃(en:Nat) (n:Ap),e=δ (U α (en:Int))/\GZ x.n s now en n/\AQ w0 w' q P (T.setN i x.g n) (k+1)/\Tu (A9 x.g x.n) w w':=by
 have X:=h.inv.node i x f;have N:=h.net.each i x f;refine(ia x.g w0.heap.size x.n s now w N (h.tabs ht) r (by have:=X.tm;omega)).mono ?_;rintro e w' ⟨en,n,rfl,c,o,a,d⟩;obtain⟨l,j,b,m⟩:=X.fr.recv c;exact⟨en,n,rfl,c,h.set f o a d ⟨j.trans X.id,b.trans X.p,by rw[m,j];exact X.src,l,υ (cD c) (χ X.tm),by rw[b];exact X.rate,by rw[b];exact X.tos⟩,a⟩
def nI{T:Az}(h:AQ w0 w q P T k)(d:T.ns[i]? =β x):
  ο ζ 51 #[.pointer (β ⟨x.g,0,γ⟩)] w fun e w'=>e=δ (ω #[])/\∃s:AU,Gx x.n.p s/\AQ w0 w' q P (T.setN i x.g ⟨x.n.id,(x.n.inc+1)%4294967296,x.n.p,x.n.src,s,x.n.t+1⟩) (k+1)/\Tu (EK q T) w w':=by
 have X:=h.inv.node i x d;have N:=h.net.each i x d;refine(fD x.g w0.heap.size x.n w N X.rate).mono ?_;rintro e w' ⟨rfl,s,l,f,c,b⟩;refine⟨rfl,s,f,h.set d l (c.wide fun j e=>.inl e) (fun j m a=>?_) ⟨X.id,X.p,X.src,Cz.new f,χ X.tm,X.rate,X.tos⟩,c.wide fun j e=>Wo d j (.inl e)⟩;rcases a with a|a|a|a
 ·exact .inl a
 ·exact .inr (.inl a)
 ·exact .inr (.inr (.inl a))
 ·have:=b j a
  omega
def I8{a:ψ}(h:ς B a w)(n:Nat):ς B a (w.drewN n):=h.trans ⟨rfl,rfl,rfl,φ _,fun _ _=>rfl⟩
def NA(T:Az)(i:Nat)(x:Bg)(f:Br)(wv:σ):Az:=(T.setN i x.g ((Ej x.n f).each Co)).fly wv (onto T.fs (flyTo (Ej x.n f) x.n.s.ls.length))
def nG{T:Az}(h:AQ w0 w q P T k)(ht:Bv w0)(C:T.ns[i]? =β x)(hk:k<=1000000){l:Option Addr}{dn:Nat}(dc:Nat){L:List Nat}(S:RowAt w l dn L)(H:dn<=1048576)(n a b:Int):
  ο ζ 28 #[.pointer (β ⟨q,0,γ⟩),.agg #[U α 2,U α (i:Int),U α n,U α a,U α b,η l dn dc]] w fun e w'=>e=δ (.bool true)/\∃(f:Br) (wv:σ),Fc x.n L f/\AQ w0 w' q P (NA T i x f wv) (k+2):=by
 have aa:=(List.getElem?_eq_some_iff.1 C).1;have h8:=h.net.few.1;have d:=As w (ι (evC 2 i n a b (η l dn dc)).toArray 42);have A:=Ab (AI 42 w (evC 2 i n a b (η l dn dc)));have m:=h.below d;have Q:=Ab (Mh q w0.heap.size T (i:Int) _ m.net);have e0:=(Aa A).at 0 rfl;have e1:=(Aa A).at 1 rfl;have e5:=(Aa A).at 5 rfl;obtain⟨g,c,Y,hc⟩:=m.net.cell C;have c0:=m.net.blk.at 0 rfl;rw[Y]at c0;have c1:=m.net.blk.at 1 rfl;have O:=Ab (fun wx (R:ς (w.alloc (ι (evC 2 i n a b (η l dn dc)).toArray 42)).heap.size (w.alloc (ι (evC 2 i n a b (η l dn dc)).toArray 42)) wx)=>Zf (m.below R) ht C hk dc ((S.below d).below R) H T.now);have HI:=Ab (show 0<=(i:Int)/\(i:Int)<T.ns.length by omega);have X:(i:Int)<(T.ns.length:Int):=by omega
 clear h ht S m Y d;simp only[evC]at A Q e0 e1 e5 c0 c1 hc O;go_enter func28,ntmps28
 go_wp2_with (first
  |(go_at_call 30;refine(Aa Q).mono ?_;rintro e w1 ⟨⟨rfl, -⟩|⟨rfl,J⟩,z⟩;(rotate_left;exact absurd (Aa HI) J);obtain rfl:=z.symm;clear z)
  |fail)
 go_quiet (fail);go_wp2_with fail
 go_region_with (first
  |(go_at_call 50;refine(Aa O _ (by first|exact I8 (μ _ _) _|exact(μ _ _).drew)).mono ?_;rintro e w2 ⟨rfl,f,V,W⟩;have Z:=Ab V;have HJ:=Ab W;clear V W)
  |fail)
 all_goals (have K:=P1 C (Ej x.n f))
 all_goals (have I:(Ej x.n f).s.ls.length=x.n.s.ls.length:=Fi)
 all_goals go_wp2_with (first
  |(go_at_call 49;refine(Wp (Aa HJ) K).mono ?_;rintro e w3 ⟨v,rfl,y,u,o,p⟩;have j:=Ab (ρ y (ρ u o));have D:=Ab p;clear y u o p)
  |(go_at_call 48;refine(PE (Aa D) (Aa j).1 (Aa j).2.1 (by rw[JK];exact(Aa j).2.2)).mono ?_;rintro e w4 ⟨rfl,wv,r⟩;have E:=Ab r;clear r)
  |fail)
 all_goals go_ret
 all_goals (refine⟨rfl,f,wv,Aa Z,?_⟩;have:=Aa E;rw[VV,I]at this;exact this)
def fH{T:Az}(h:AQ w0 w q P T k)(y:T.ns[i]? =β x)(n a b:Int)(v:σ):
  ο ζ 28 #[.pointer (β ⟨q,0,γ⟩),.agg #[U α 7,U α (i:Int),U α n,U α a,U α b,v]] w fun e w'=>e=δ (.bool true)/\∃s:AU,Gx x.n.p s/\AQ w0 w' q P (T.setN i x.g ⟨x.n.id,(x.n.inc+1)%4294967296,x.n.p,x.n.src,s,x.n.t+1⟩) (k+1)/\Tu (EK q T) w w':=by
 have R:=(List.getElem?_eq_some_iff.1 y).1;have S:=h.net.few.1;have d:=As w (ι (evC 7 i n a b v).toArray 42);have r:=Ab (AI 42 w (evC 7 i n a b v));have f:=h.below d;have A:=Ab (Mh q w0.heap.size T (i:Int) _ f.net);have K:=(Aa r).at 0 rfl;have L:=(Aa r).at 1 rfl;obtain⟨g,c,E,O⟩:=f.net.cell y;have c0:=f.net.blk.at 0 rfl;rw[E]at c0;have z:=Ab (fun wx (C:ς (w.alloc (ι (evC 7 i n a b v).toArray 42)).heap.size (w.alloc (ι (evC 7 i n a b v).toArray 42)) wx)=>(nI (f.below C) y).mono fun e w' ⟨Q,s,o,m,ht⟩=>(show e=Ending.returned (ω #[])/\∃s:AU,Gx x.n.p s/\AQ w0 w' q P (T.setN i x.g ⟨x.n.id,(x.n.inc+1)%4294967296,x.n.p,x.n.src,s,x.n.t+1⟩) (k+1)/\Tu (EK q T) w w' from⟨Q,s,o,m,(Tu.of_below (F:=EK q T) (Ad d C)).trans ht fun j _ e=>e⟩));have H:=Ab (show 0<=(i:Int)/\(i:Int)<T.ns.length by omega);have D:(i:Int)<(T.ns.length:Int):=by omega
 clear h f E d;simp only[evC]at r A K L c0 O z;go_enter func28,ntmps28
 go_wp2_with (first
  |(go_at_call 30;refine(Aa A).mono ?_;rintro e w1 ⟨⟨rfl, -⟩|⟨rfl,u⟩,l⟩;(rotate_left;exact absurd (Aa H) u);obtain rfl:=l.symm;clear l)
  |fail)
 go_quiet (fail)
 go_wp2_with (first
  |(go_at_call 51;refine(Aa z _ (by first|exact I8 (μ _ _) _|exact(μ _ _).drew)).mono ?_;rintro e w2 ⟨rfl,s,o,m⟩;have J:=Ab o;have I:=Ab m;clear o m)
  |fail)
 go_ret;exact⟨rfl,s,Aa J,Aa I⟩
def BR(d:Int)(n:Ap):Ap:=n.each (II n.p.M n.p.queue d)
def Eb(d:Int)(ns:List Bg):Nat->List AE->List Bg×List AE
 |0,fs=>(ns,fs)
 |k+1,fs=>match ns[k]? with
  |some x=>((Eb d ns k fs).1.set k ⟨x.g,(BR d x.n).each Co⟩,onto (Eb d ns k fs).2 (flyTo (BR d x.n) x.n.s.ls.length))
  |none=>Eb d ns k fs
def Pr(d:Int)(ns:List Bg):∀k fs,(Eb d ns k fs).1.length=ns.length
 |0,fs=>rfl
 |k+1,fs=>by
  unfold Eb;split
  ·show(List.set _ _ _).length=_
   rw[ξ,Pr d ns k fs]
  ·exact Pr d ns k fs
def PR(d:Int)(ns:List Bg):∀k fs j,k<=j->(Eb d ns k fs).1[j]? =ns[j]?
 |0,fs,j,_=>rfl
 |k+1,fs,j,a=>by
  unfold Eb;split
  ·show(List.set _ _ _)[j]? =_
   rw[Α,if_neg (by omega),PR d ns k fs j (by omega)]
  ·exact PR d ns k fs j (by omega)
def FT(T:Az)(d:Int)(k:Nat)(wv:σ):Az:=⟨T.nv,(Eb d T.ns k T.fs).1,min (T.now+d) 1099511627776,wv,(Eb d T.ns k T.fs).2⟩
def kN{T:Az}{d:Int}(a:T.ns[k]? =β x)(v wv:σ):((((FT T d k v).setN k x.g (BR d x.n)).setN k x.g ((BR d x.n).each Co)).fly wv (onto (((FT T d k v).setN k x.g (BR d x.n)).setN k x.g ((BR d x.n).each Co)).fs (flyTo (BR d x.n) (BR d x.n).s.ls.length)))=FT T d (k+1) wv:=by
 rw[VV,show(BR d x.n).s.ls.length=x.n.s.ls.length from Fi];unfold FT Az.fly Az.setN
 conv=>rhs;unfold Eb
 rw[a]
def ij{T:Az}(h:AQ w0 w q P T k)(d:Int)(hd:0<=d/\d<=1048576):
  ο ζ 27 #[.pointer (β ⟨q,0,γ⟩),U α d] w fun e w'=>e=δ (ω #[])/\∃wv,AQ w0 w' q P (FT T d T.ns.length wv) (k+2*T.ns.length):=by
 have c1:=h.net.blk.at 1 rfl;have f1:=h.net.blk.frz 1;have C:=h.net.now0;have ac:IntKind.i64.wrap (T.now+d)=T.now+d:=by rw[IntKind.wrap_i64];omega
 have ab:=Iz (T.now+d) 1099511627776;have y:=h.net.blk.set 1 (U α (min (T.now+d) 1099511627776))
 have f:Hid (AQ w0 (w.setCell ⟨q,1,γ⟩ (U α (min (T.now+d) 1099511627776))) q P (FT T d 0 T.wv) (k+2*0)):=Ab (by
  have E:=A8 w q 1 (U α (min (T.now+d) 1099511627776));have H:Tu (F4 q T) w _:=E.wide fun j e=>.inl e;refine⟨h.net.way H y (Cj h.net.fly E fun j J e=>?_) h.net.few.2 (by omega),⟨fun i x I=>h.inv.node i x I,h.inv.fly⟩,h.net.lowB h.low (H.wide h.net.wayT)⟩;have:=Bc h.net.fly J;have:=h.net.blk.kd;subst e;omega)
 obtain⟨av,cv,p⟩:∃a c,T.nv=η a T.ns.length c:=by
  rcases h.net.own.2 with⟨e,h0⟩|⟨g,cap,aa,e,_⟩
  ·exact⟨γ,0,by rw[e,h0]⟩
  ·exact⟨_,_,e⟩
 have n0:=(Aa f).net.blk.at 0 (show _=β (Value.slice av T.ns.length cv) from by rw[<-p];rfl);have h8:=h.net.few.1;have Y:=Ab p;clear h y C p;go_enter func27,ntmps27;go_wp2_with fail;go_loopw [21] (fun i wr=> ∃(m:Nat) (wv:σ),m<=T.ns.length/\i=U α m/\Hid (AQ w0 wr q P (FT T d m wv) (k+2*m))) (fun i _=>T.ns.length-(intOf i).toNat)
 case atStart=>exact⟨0,T.wv,Nat.zero_le _,rfl,f⟩
 case round=>
  obtain⟨m,wv,hm,rfl,K⟩:=hrel;clear f n0;by_cases A:m<T.ns.length
  ·have W:(m:Int)<(T.ns.length:Int):=by omega
   obtain⟨x,I⟩:∃x,T.ns[m]? =β x:=⟨_,κ A⟩;have b:(FT T d m wv).ns[m]? =β x:=(PR d T.ns m T.fs m (φ _)).trans I;obtain⟨g,c,p,hc⟩:=(Aa K).net.cell b;have o:T.nv=.slice (β ⟨g,0,γ⟩) (FT T d m wv).ns.length c:=p;rw[Aa Y]at o;simp only[Value.slice.injEq]at o;obtain⟨rfl, -,rfl⟩:=o;have Z:=Ab I;have S:=Ab b;have X:=P1 b (BR d x.n);have R:=Ab X;clear I b p X
   go_wp2_with (first
    |(go_at_call 47;refine(rz (Aa K) (Aa S) d).mono ?_;rintro e w2 ⟨rfl,J⟩;have L:=Ab (show AQ w0 w2 q P ((FT T d m wv).setN m x.g (BR d x.n)) (k+2*m+1) from J);clear J)
    |(go_at_call 49;refine(Wp (Aa L) (Aa R)).mono ?_;rintro e w3 ⟨v,rfl,D,z,r,s⟩;have l:=Ab (ρ D (ρ z r));have O:=Ab s;clear D z r s)
    |(go_at_call 48;refine(PE (Aa O) (Aa l).1 (Aa l).2.1 (by rw[JK];exact(Aa l).2.2)).mono ?_;rintro e w4 ⟨rfl,V,u⟩;have Q:=Ab u;clear u)
    |fail)
   go_roundw
   case rel=>
    refine⟨m+1,V,A,by go_num,Ab ?_⟩;have:=Aa Q;rw[kN (Aa Z)]at this;exact this.more (by omega)
   case measure=>simp[intOf];omega
  ·obtain rfl:m=T.ns.length:=by omega
   go_wp2;go_end0;exact⟨rfl,wv,Aa K⟩
def Ik(s:ByteArray)(a b:Int):ByteArray:=st ((tx s).set (modZ a s.size).toNat ((tx s).getD (modZ a s.size).toNat 0^^^(b%256).toNat))
def jq(s:ByteArray)(a b:Int):(Ik s a b).size=s.size:=by rw[Ik,Dq,ξ,AR]
def fF(s:ByteArray)(a b:Int)(w:ψ)(W:0<s.size)(X:s.size<=1048576):
  ο ζ 55 #[ε s,U α a,U α b] w fun e w'=>e=δ (ε (Ik s a b))/\ς w.heap.size w w':=by
 have R:=Xd (n:=a) (m:=(s.size:Int)) (by omega);have z:=Ab (fun wx=>TC a (s.size:Int) wx (by omega));obtain⟨w1,cap,L,r,C⟩:=hJ w s;have c:=AR s;obtain⟨k,o⟩:∃k:Nat,modZ a s.size=(k:Int):=⟨(modZ a s.size).toNat,by omega⟩;have Q:k<s.size:=by omega
 have H:(k:Int)<(s.size:Int):=by omega
 obtain⟨y,v⟩:∃y:Nat,b%256=(y:Int):=⟨(b%256).toNat,by omega⟩;have g:y<256:=by omega
 have V:IntKind.u8.wrap b=(y:Int):=by rw[IntKind.wrap_u8',v]
 have d:=r;rw[<-c]at d;obtain⟨g',A,I,l,_,D,E⟩:=d.at (by omega);simp only[Value.slice.injEq,Option.some.injEq,Addr.mk.injEq,and_true,true_and]at I;obtain⟨rfl,rfl⟩:=I;have j:=D k (by omega);have O:=E k (by omega);have u:=r.1.get k;have f:=d.stored k ((tx s).getD k 0^^^y) (Qg u g);rw[c]at f;have T:bits .xor .u8 (((tx s).getD k 0:Nat):Int) (y:Int)=(((tx s).getD k 0^^^y:Nat):Int):=u8_xor_nat _ y u g;have J:=Ab (C.setCell (p:=⟨w.heap.size,k,γ⟩) (φ _) (U .u8 (((tx s).getD k 0^^^y:Nat):Int)));have S:=f.text;have K:=Ab (show st ((tx s).set k ((tx s).getD k 0^^^y))=Ik s a b from by unfold Ik;rw[o,v];rfl);rw[o]at z;clear r d D E u f C c l R o v g;generalize st ((tx s).set k ((tx s).getD k 0^^^y))=Z at*;generalize (tx s).getD k 0^^^y=Y at*;generalize (tx s).getD k 0=x at*;go_enter func55,ntmps55
 go_wp2_with (first
  |(go_at_call 52;refine(Aa z _).mono ?_;rintro e w2 ⟨rfl,h⟩;obtain rfl:=h.symm;clear h)
  |fail)
 go_ret;exact⟨by rw[Aa K];rfl,Aa J⟩
def Ze{T:Az}(h:AQ w0 w q P T k)(g:T.fs=[])(kd nd n a b:Int)(v:σ):
  ο ζ 29 #[.pointer (β ⟨q,0,γ⟩),.agg #[U α kd,U α nd,U α n,U α a,U α b,v]] w fun e w'=>e=δ (.bool false)/\ς w.heap.size w w':=by
 have c:=As w (ι (evC kd nd n a b v).toArray 42);have d:=Ab c;obtain⟨j,l,f⟩:=h.net.fly.len;have c2:=(h.below c).net.blk.at 2 rfl;rw[f,g]at c2;clear h c f;simp only[evC]at d c2;go_enter func29,ntmps29;go_wp2;go_ret;exact⟨rfl,Aa d⟩
def Dy(T:Az)(n:Int):Nat:=(modZ n T.fs.length).toNat
def Ny(T:Az)(kd n a b:Int)(k:Nat)(c:Az)(k':Nat):Prop:=∃f wv,T.fs[Dy T n]? =β f/\
 ((kd=3/\∃x en d,T.ns[f.dst.toNat]? =β x/\GZ x.n f.s T.now en d/\c=(T.fly wv (T.fs.eraseIdx (Dy T n))).setN f.dst.toNat x.g d/\k'=k+1)\/
  (kd=4/\c=T.fly wv (T.fs.eraseIdx (Dy T n))/\k'=k)\/(kd=5/\c=T.fly wv (onto T.fs [f])/\k'=k)\/(kd=6/\c=T.fly wv (T.fs.set (Dy T n) (f.bear (Ik f.s a b)))/\k'=k))
structure Ke(w0 w:ψ)(q p k:Nat)(P:Nat->Bi)(T:Az)(f:AE):Prop where
 nj:AQ w0 w q P T k
 box:BkA 99 w p [U α f.fr,U α f.dst,ε f.s]
 out:¬F4 q T p
 lo:w0.heap.size<=p
def An.lit(w:ψ)(f:AE):An (w.alloc (ι #[U α f.fr,U α f.dst,ε f.s] 99)) w.heap.size (.slice (β ⟨w.heap.size,0,γ⟩) 1 1) [f]:=World.ownsRow_lit _ #[U α f.fr,U α f.dst,ε f.s] 1 (φ _) (by decide) rfl
def AQ.flij{w1:ψ}{T:Az}(h:AQ w0 w q P T k)(a:ς w.heap.size w w1)(f:AE):Ke w0 (w1.alloc (ι #[U α f.fr,U α f.dst,ε f.s] 99)) q w1.heap.size k P T f:=
 ⟨(h.below a).below (As _ _),AI 99 w1 [U α f.fr,U α f.dst,ε f.s],fun e=>by
  have:=a.size;rcases e with e|e
  ·have:=h.net.blk.lt;omega
  ·have:=(C9 h.net.fly e).2;omega,υ h.low.size a.size⟩
def aJ{g c:Nat}{T:Az}{f:AE}{s:ByteArray}(h:AQ w0 w q P T k)(l:T.wv=.slice (β ⟨g,0,γ⟩) T.fs.length c)(m:T.fs[i]? =β f)(A:s.size=f.s.size):AQ w0 (w.setCell ⟨g,i*3+2,γ⟩ (ε s)) q P (T.fly T.wv (T.fs.set i (f.bear s))) k:=by
 have r:=(List.getElem?_eq_some_iff.1 m).1;have p:T.fs.getD i .dflt=f:=by rw[ν,m];rfl
 have b:Tu (fun j=>j=g) w (w.setCell ⟨g,i*3+2,γ⟩ (ε s)):=A8 _ _ _ _;have d:Tu (F4 q T) w (w.setCell ⟨g,i*3+2,γ⟩ (ε s)):=b.wide fun j e=>.inr (by rw[l,e];rfl);have y:kdB w g=99+2:=Bc h.net.fly (by rw[l];rfl);have v:=h.net.fly;rw[l]at v;have a:=An.setS v r s;rw[p,<-l]at a
 have o:∀x∈T.fs.set i (f.bear s),GF T.ns.length x:=fun x u=>by
  rcases List.mem_or_eq_of_mem_set u with e|rfl
  ·exact h.inv.fly x e
  ·obtain⟨z,C,D⟩:=h.inv.fly f (τ m)
   exact⟨z,by show 0<s.size;omega,by show s.size<=1048576;omega⟩
 exact⟨h.net.way d (h.net.blk.tu b fun e=>by have:=h.net.blk.kd;subst e;omega) a (by rw[ξ];exact h.net.few.2) h.net.now0,⟨fun i x u=>h.inv.node i x u,o⟩,h.net.lowB h.low (d.wide h.net.wayT)⟩
def rx{T:Az}(h:AQ w0 w q P T k)(ht:Bv w0)(hk:k<=1000000)(hf:0<T.fs.length)(kd nd n a b:Int)(af:kd=3\/kd=4\/kd=5\/kd=6)(v:σ):
  ο ζ 29 #[.pointer (β ⟨q,0,γ⟩),.agg #[U α kd,U α nd,U α n,U α a,U α b,v]] w fun e w'=>e=δ (.bool true)/\∃T' k',Ny T kd n a b k T' k'/\AQ w0 w' q P T' k':=by
 have ag:=h.net.few.2;have hm:=Xd (n:=n) (m:=(T.fs.length:Int)) (by omega);obtain⟨i,hi⟩:∃i:Nat,modZ n T.fs.length=(i:Int):=⟨(modZ n T.fs.length).toNat,by omega⟩;have z:i<T.fs.length:=by omega
 have Y:Dy T n=i:=by unfold Dy;omega
 have A:=As w (ι (evC kd nd n a b v).toArray 42);have S:=Ab (AI 42 w (evC kd nd n a b v));have hN:=h.below A;have HM:=Ab (fun wx=>TC n (T.fs.length:Int) wx (by omega));rw[hi]at HM;have e0:=(Aa S).at 0 rfl;have e2:=(Aa S).at 2 rfl;have e3:=(Aa S).at 3 rfl;have e4:=(Aa S).at 4 rfl;obtain⟨g,c,hv,hc⟩:=hN.net.fly.at hf;have c2:=hN.net.blk.at 2 rfl;rw[hv]at c2;obtain⟨f0,f1,f2⟩:=hc i z;obtain⟨f,E⟩:∃f,T.fs[i]? =β f:=⟨_,κ z⟩;obtain⟨⟨W,X⟩,H,I⟩:=h.inv.fly f (τ E);obtain⟨fr,dst,s⟩:=f;obtain⟨m,rfl⟩:∃m:Nat,dst=(m:Int):=⟨dst.toNat,by have:(0:Int)<=dst:=W;omega⟩;have Z:T.fs.getD i .dflt=⟨fr,m,s⟩:=by rw[ν,E];rfl
 rw[Z]at f0 f1 f2;have ai:(m:Int)<(T.ns.length:Int):=X;have I:s.size<=1048576:=I;have H:0<s.size:=H;have ah:(i:Int)<(T.fs.length:Int):=by omega
 have aj:((T.fs.length:Int)==0)=false:=by rw[beq_eq_false_iff_ne];omega
 obtain⟨x,hx⟩:∃x,T.ns[m]? =β x:=⟨_,κ (by omega)⟩
 have HJ:=Ab (fun nq=>(show Ke w0 (((w.alloc (ι (evC kd nd n a b v).toArray 42)).drewN nq).alloc (ι #[U α fr,U α (m:Int),ε s] 99)) q (w.heap.size+1) k P T ⟨fr,m,s⟩ from by
  have:=h.flij (I8 A nq) ⟨fr,m,s⟩;rw[Β,A7]at this;exact this))
 have L:=Ab (fun nq=>(show(((w.alloc (ι (evC kd nd n a b v).toArray 42)).drewN nq).alloc (ι #[U α fr,U α (m:Int),ε s] 99)).heap.size=w.heap.size+1+1 from by rw[A7,Β,A7]));have K:=Ab (fun nq=>((AI 42 w (evC kd nd n a b v)).belowB (I8 (μ _ _) nq) (BkA.lt (AI 42 w (evC kd nd n a b v)))).below (As _ (ι #[U α fr,U α (m:Int),ε s] 99)));have HV:=Ab hv;have ac:=Ab (fun wx=>fF s a b wx H I);have o:=Ab E
 have HG:=Ab (show g≠q/\g<w.heap.size from by
  have k1:=Bc h.net.fly (j:=g) (by rw[show T.wv=_ from hv];rfl);have k2:=h.net.blk.kd;have k3:=(C9 h.net.fly (j:=g) (by rw[show T.wv=_ from hv];rfl)).2;exact⟨fun e=>by subst e;omega,k3⟩)
 have p:=Ab Y;clear h A hc hN hv hm hi Z W X H E Y;simp only[evC]at S e0 e2 e3 e4 c2 f0 f1 f2 HJ L K;rcases af with rfl|rfl|rfl|rfl
 all_goals go_enter func29,ntmps29
 all_goals go_wp2_with fail
 all_goals go_quiet ((go_at_call 52;exact Calls.quiet_of_same (Aa HM _)))
 all_goals go_wp2_with fail
 all_goals (have y:=Aa HJ nq;have hz:=Aa L nq;have D:=Aa K nq;clear HJ L K)
 ·refine(Wq y.nj z).mono ?_
  rintro e w3 ⟨rfl,wv,r,t3⟩;have d:=y.box.tu t3 y.out;have b1:w3.cell? ⟨w.heap.size+1,1,γ⟩=β (U α (m:Int)):=d.at 1 rfl;have b2:w3.cell? ⟨w.heap.size+1,2,γ⟩=β (ε s):=d.at 2 rfl;obtain⟨g2,k2,Q,V⟩:=r.net.cell (show(T.fly wv (T.fs.eraseIdx i)).ns[m]? =β x from hx);have n0:=r.net.blk.at 0 rfl;rw[Q]at n0;have n1:w3.cell? ⟨q,1,γ⟩=β (U α T.now):=r.net.blk.at 1 rfl;have aa:w3.cell? ⟨q,0,γ⟩=β (.slice (β ⟨g2,0,γ⟩) T.ns.length k2):=n0
  have HR:=Ab (fun wx (u:ς w3.heap.size w3 wx)=>(ry (r.below u) ht (show(T.fly wv (T.fs.eraseIdx i)).ns[m]? =β x from hx) hk s I T.now).mono (R':=fun e w'=> ∃(en:Nat) (R:Ap),e=δ (U α (en:Int))/\Hid (GZ x.n s T.now en R/\AQ w0 w' q P ((T.fly wv (T.fs.eraseIdx i)).setN m x.g R) (k+1))/\w'.cell? ⟨q,0,γ⟩=β (.slice (β ⟨g2,0,γ⟩) T.ns.length k2)/\w'.cell? ⟨w.heap.size+1,1,γ⟩=β (U α (m:Int))/\w'.cell? ⟨g2,m,γ⟩=β (.pointer (β ⟨x.g,0,γ⟩))/\w'.cell? ⟨w.heap.size+1,2,γ⟩=β (ε s)/\w'.cell? ⟨q,1,γ⟩=β (U α T.now)) fun e w' ⟨en,R,he,hr,ae,C⟩=>by
   have N:=(r.below u).net.each m x hx;have kq:=(r.below u).net.blk.kd;have kg:=Bc (r.below u).net.own (j:=g2) (by rw[Q];rfl);have O:=d.below u;have kp:=O.kd;have q1:¬A9 x.g x.n q:=fun e=>(N.nn q e).1 kq;have q2:¬A9 x.g x.n g2:=fun e=>(N.nn g2 e).2 kg;have q3:¬A9 x.g x.n (w.heap.size+1):=fun e=>(N.nk _ e).1 kp;exact⟨en,R,he,⟨hr,ae⟩,C.cell ((u.cell (π w3 _ aa)).trans aa) q1,C.cell (O.at 1 rfl) q3,C.cell ((u.cell (π w3 _ V)).trans V) q2,C.cell (O.at 2 rfl) q3,C.cell ((u.cell (π w3 _ n1)).trans n1) q1⟩)
  clear y r t3 d n0 Q c2 f0 f1 f2 e0 e2 e3 e4 hz D;go_wp2_with fail
  go_region_held3 (fun w'=>w'.cell? ⟨q,0,γ⟩=β (.slice (β ⟨g2,0,γ⟩) T.ns.length k2)/\w'.cell? ⟨w.heap.size+1,1,γ⟩=β (U α (m:Int))/\w'.cell? ⟨g2,m,γ⟩=β (.pointer (β ⟨x.g,0,γ⟩))/\w'.cell? ⟨w.heap.size+1,2,γ⟩=β (ε s)/\w'.cell? ⟨q,1,γ⟩=β (U α T.now)) (go_keep) (first
   |(go_at_call 54;refine(Aa HR _ (by first|exact I8 (μ _ _) _|exact(μ _ _).drew)).mono ?_;rintro e w4 ⟨en,R,rfl,l,z0,z1,z2,z3,z4⟩)
   |fail)
  all_goals go_wp2
  all_goals go_ret
  all_goals exact⟨rfl,_,_,⟨⟨fr,m,s⟩,wv,by rw[Aa p];exact Aa o,.inl ⟨rfl,x,en,R,hx,(Aa l).1,by rw[Aa p];rfl,rfl⟩⟩,(Aa l).2⟩
 ·refine(Wq y.nj z).mono ?_
  rintro e w3 ⟨rfl,wv,r,t3⟩;have l:=Ab r;clear y r t3 c2 f0 f1 f2 e0 e2 e3 e4;go_wp2;go_ret;exact⟨rfl,_,_,⟨⟨fr,m,s⟩,wv,by rw[Aa p];exact Aa o,.inr (.inl ⟨rfl,by rw[Aa p],rfl⟩)⟩,Aa l⟩
 ·have J:=An.lit (((w.alloc (ι #[U α 5,U α nd,U α n,U α a,U α b,v] 42)).drewN nq).alloc (ι #[U α fr,U α (m:Int),ε s] 99)) ⟨fr,m,s⟩
  rw[hz]at J;refine(PE (y.nj.below (As _ _)) J (show 1<=4096 by decide) (fun f hm=>by rw[List.mem_singleton.1 hm];exact y.nj.inv.fly _ (τ (Aa o)))).mono ?_;rintro e w3 ⟨rfl,wv,r⟩;have l:=Ab r;clear y r c2 f0 f1 f2 e0 e2 e3 e4;go_wp2;go_ret;exact⟨rfl,_,_,⟨⟨fr,m,s⟩,wv,by rw[Aa p];exact Aa o,.inr (.inr (.inl ⟨rfl,rfl,rfl⟩))⟩,Aa l⟩
 ·have l:=Ab (fun wx (u:ς (((w.alloc (ι #[U α 6,U α nd,U α n,U α a,U α b,v] 42)).drewN nq).alloc (ι #[U α fr,U α (m:Int),ε s] 99)).heap.size _ wx)=>(show wx.cell? ⟨q,2,γ⟩=β (.slice (β ⟨g,0,γ⟩) T.fs.length c)/\wx.cell? ⟨g,i*3+2,γ⟩=β (ε s)/\wx.frozen? ⟨g,i*3+2,γ⟩=false/\wx.cell? ⟨w.heap.size+1,2,γ⟩=β (ε s)/\wx.cell? ⟨w.heap.size,3,γ⟩=β (U α a)/\wx.cell? ⟨w.heap.size,4,γ⟩=β (U α b)/\Hid (AQ w0 (wx.setCell ⟨g,i*3+2,γ⟩ (ε (Ik s a b))) q P (T.fly T.wv (T.fs.set i ((⟨fr,m,s⟩:AE).bear (Ik s a b)))) k) from by
   have h4:=y.nj.below u;have c4:=h4.net.blk.at 2 rfl;have o4:=h4.net.fly;rw[Aa HV]at c4 o4;refine⟨c4,?_,o4.frz _,(y.box.below u).at 2 rfl,(D.below u).at 3 rfl,(D.below u).at 4 rfl,aJ h4 (Aa HV) (Aa o) (jq _ _ _)⟩;obtain⟨g',c',e',ad⟩:=o4.at hf;simp only[Value.slice.injEq,Option.some.injEq,Addr.mk.injEq,and_true,true_and]at e';obtain⟨rfl,rfl⟩:=e';have:=(ad i z).2.2;rwa[ν,Aa o]at this))
  have g1:g≠q:=(Aa HG).1;have g2:g≠w.heap.size+1:=by have:=(Aa HG).2;omega
  have g3:g≠w.heap.size:=by have:=(Aa HG).2;omega
  have p2:=y.box.at 2 rfl;have g4:=g1.symm;have g5:=g2.symm;have g6:=g3.symm;clear y hz D
  go_region_held3 (fun w'=>w'.cell? ⟨q,2,γ⟩=β (.slice (β ⟨g,0,γ⟩) T.fs.length c)/\w'.cell? ⟨w.heap.size+1,2,γ⟩=β (ε s)/\w'.cell? ⟨w.heap.size,3,γ⟩=β (U α a)/\w'.cell? ⟨w.heap.size,4,γ⟩=β (U α b)) (go_keep) (first
   |(go_at_call 55;refine(Aa ac _).mono ?_;rintro e w3 ⟨rfl,d⟩;obtain⟨y1,y2,y3,y4,y5,y6,ab⟩:=Aa l w3 (by first|exact(I8 (μ _ _) _).trans d|exact(μ _ _).drew.trans d|exact d);clear d)
   |fail)
  all_goals go_wp2
  all_goals go_ret
  all_goals exact⟨rfl,_,_,⟨⟨fr,m,s⟩,T.wv,by rw[Aa p];exact Aa o,.inr (.inr (.inr ⟨rfl,by rw[Aa p],rfl⟩))⟩,Aa ab⟩
def QA(T:Az)(kd nd:Int):Prop:=(kd<1\/7<kd)\/((kd=2\/kd=7)/\¬(0<=nd/\nd<T.ns.length))\/((kd=3\/kd=4\/kd=5\/kd=6)/\T.fs=[])
def DR(T:Az)(kd nd n a b:Int)(L:List Nat)(k:Nat)(ok:Bool)(c:Az)(k':Nat):Prop:=
 (ok=true/\kd=1/\∃wv,c=FT T (min (max n 0) 1048576) T.ns.length wv/\k'=k+2*T.ns.length)\/
 (ok=true/\kd=2/\∃(i:Nat) (x:Bg) (f:Br) (wv:σ),nd=(i:Int)/\T.ns[i]? =β x/\Fc x.n L f/\c=NA T i x f wv/\k'=k+2)\/
 (ok=true/\kd=7/\∃(i:Nat) (x:Bg) (s:AU),nd=(i:Int)/\T.ns[i]? =β x/\Gx x.n.p s/\c=T.setN i x.g ⟨x.n.id,(x.n.inc+1)%4294967296,x.n.p,x.n.src,s,x.n.t+1⟩/\k'=k+1)\/
 (ok=true/\(kd=3\/kd=4\/kd=5\/kd=6)/\0<T.fs.length/\Ny T kd n a b k c k')\/
 (ok=false/\QA T kd nd/\c=T/\k'=k)
def TA{T:Az}(h:AQ w0 w q P T k)(ht:Bv w0)(V:k<=1000000)(kd nd n a b:Int){r:Option Addr}{dn:Nat}(dc:Nat){L:List Nat}(S:RowAt w r dn L)(O:dn<=1048576):
  ο ζ 13 #[.pointer (β ⟨q,0,γ⟩),.agg #[U α kd,U α nd,U α n,U α a,U α b,η r dn dc]] w fun e w'=> ∃ok J k',e=δ (.bool ok)/\DR T kd nd n a b L k ok J k'/\AQ w0 w' q P J k'/\(kd=7->Tu (EK q T) w w'):=by
 have m:=As w (ι (evC kd nd n a b (η r dn dc)).toArray 42);have y:=Ab (AI 42 w (evC kd nd n a b (η r dn dc)));have g:=h.below m;have R:=Ab m;have c:=S.below m;have X:=(Aa y).at 0 rfl;have Y:=(Aa y).at 1 rfl;have Z:=(Aa y).at 2 rfl;have e3:=(Aa y).at 3 rfl;have e4:=(Aa y).at 4 rfl;have e5:=(Aa y).at 5 rfl;have h8:=h.net.few.1;clear h m S;simp only[evC]at y g c X Y Z e3 e4 e5;by_cases C:kd=1
 ·subst C
  have ab:=JJ n 0;have aa:=Iz (max n 0) 1048576;have o:=Ab (ij g (min (max n 0) 1048576) (by omega));clear g c;generalize hg:min (max n 0) 1048576=d at*;go_enter func13,ntmps13
  go_wp2_with (first
   |(go_at_call 27;refine(Aa o).mono ?_;rintro e w1 ⟨rfl,wv,p⟩;have j:=Ab p;clear p)
   |fail)
  go_ret;exact⟨true,_,_,rfl,.inl ⟨rfl,rfl,wv,by rw[hg],rfl⟩,Aa j,fun e=>absurd e (by decide)⟩
 by_cases D:kd=2
 ·subst D
  by_cases l:0<=nd/\nd<T.ns.length
  ·obtain⟨i,rfl⟩:∃i:Nat,nd=(i:Int):=⟨nd.toNat,by omega⟩
   obtain⟨x,A⟩:∃x,T.ns[i]? =β x:=⟨_,κ (by omega)⟩;have o:=Ab (nG g ht A V dc c O n a b);clear g c l;go_enter func13,ntmps13
   go_wp2_with (first
    |(go_at_call 28;refine(Aa o).mono ?_;rintro e w1 ⟨rfl,f,wv,z,p⟩;have j:=Ab (ρ z p);clear z p)
    |fail)
   go_ret;exact⟨true,_,_,rfl,.inr (.inl ⟨rfl,rfl,i,x,f,wv,rfl,A,(Aa j).1,rfl,rfl⟩),(Aa j).2,fun e=>absurd e (by decide)⟩
  ·have o:=Ab (TD q w0.heap.size T 2 nd n a b (η r dn dc) _ g.net l)
   have v:=Ab g;clear g c;go_enter func13,ntmps13
   go_wp2_with (first
    |(go_at_call 28;refine(Aa o).mono ?_;rintro e w1 ⟨rfl,u⟩;have j:=Ab ((Aa v).below u);clear u)
    |fail)
   go_ret;exact⟨false,_,_,rfl,.inr (.inr (.inr (.inr ⟨rfl,.inr (.inl ⟨.inl rfl,l⟩),rfl,rfl⟩))),Aa j,fun e=>absurd e (by decide)⟩
 by_cases H:kd=7
 ·subst H
  by_cases l:0<=nd/\nd<T.ns.length
  ·obtain⟨i,rfl⟩:∃i:Nat,nd=(i:Int):=⟨nd.toNat,by omega⟩
   obtain⟨x,A⟩:∃x,T.ns[i]? =β x:=⟨_,κ (by omega)⟩;have o:=Ab (fH g A n a b (η r dn dc));clear g c l;go_enter func13,ntmps13
   go_wp2_with (first
    |(go_at_call 28;refine(Aa o).mono ?_;rintro e w1 ⟨rfl,s,W,p⟩;have j:=Ab (ρ W p);clear W p)
    |fail)
   go_ret;exact⟨true,_,_,rfl,.inr (.inr (.inl ⟨rfl,rfl,i,x,s,rfl,A,(Aa j).1,rfl,rfl⟩)),(Aa j).2.1,fun _=>(Tu.of_below (Aa R)).trans (Aa j).2.2 fun _ _ e=>e⟩
  ·have o:=Ab (TD q w0.heap.size T 7 nd n a b (η r dn dc) _ g.net l)
   have v:=Ab g;clear g c;go_enter func13,ntmps13
   go_wp2_with (first
    |(go_at_call 28;refine(Aa o).mono ?_;rintro e w1 ⟨rfl,u⟩;have j:=Ab (ρ ((Aa v).below u) (Tu.of_below (F:=EK q T) (Ad (Aa R) u)));clear u)
    |fail)
   go_ret;exact⟨false,_,_,rfl,.inr (.inr (.inr (.inr ⟨rfl,.inr (.inl ⟨.inr rfl,l⟩),rfl,rfl⟩))),(Aa j).1,fun _=>(Aa j).2⟩
 by_cases E:kd=3\/kd=4\/kd=5\/kd=6
 ·by_cases z:0<T.fs.length
  ·have o:=Ab (rx g ht V z kd nd n a b E (η r dn dc))
   have I:=Ab z;clear g c C D H z;rcases E with rfl|rfl|rfl|rfl
   all_goals go_enter func13,ntmps13
   all_goals go_wp2_with (first
    |(go_at_call 29;refine(Aa o).mono ?_;rintro e w1 ⟨rfl,J,k',hp,p⟩;have j:=Ab (ρ hp p);clear hp p)
    |fail)
   all_goals go_ret
   all_goals exact⟨true,_,_,rfl,.inr (.inr (.inr (.inl ⟨rfl,by decide,Aa I,(Aa j).1⟩))),(Aa j).2,fun e=>absurd e (by decide)⟩
  ·have K:T.fs=[]:=List.eq_nil_of_length_eq_zero (by omega)
   have o:=Ab (Ze g K kd nd n a b (η r dn dc));have v:=Ab g;have I:=Ab K;clear g c C D H z K;rcases E with rfl|rfl|rfl|rfl
   all_goals go_enter func13,ntmps13
   all_goals go_wp2_with (first
    |(go_at_call 29;refine(Aa o).mono ?_;rintro e w1 ⟨rfl,u⟩;have j:=Ab ((Aa v).below u);clear u)
    |fail)
   all_goals go_ret
   all_goals exact⟨false,_,_,rfl,.inr (.inr (.inr (.inr ⟨rfl,.inr (.inr ⟨by decide,Aa I⟩),rfl,rfl⟩))),Aa j,fun e=>absurd e (by decide)⟩
 ·have v:=Ab g
  have Q:=Ab (show kd<1\/7<kd by omega);have b1:(kd==1)=false:=by rw[beq_eq_false_iff_ne];omega
  have b2:(kd==2)=false:=by rw[beq_eq_false_iff_ne];omega
  have b3:(kd==3)=false:=by rw[beq_eq_false_iff_ne];omega
  have b4:(kd==4)=false:=by rw[beq_eq_false_iff_ne];omega
  have b5:(kd==5)=false:=by rw[beq_eq_false_iff_ne];omega
  have b6:(kd==6)=false:=by rw[beq_eq_false_iff_ne];omega
  have b7:(kd==7)=false:=by rw[beq_eq_false_iff_ne];omega
  clear g c C D E H;go_enter func13,ntmps13;go_wp2;go_ret;exact⟨false,_,_,rfl,.inr (.inr (.inr (.inr ⟨rfl,.inl (Aa Q),rfl,rfl⟩))),Aa v,fun e=>absurd e (by have:=Aa Q;omega)⟩
def GN{T:Az}(h:AQ w0 w q P T k)(ht:Bv w0)(m:k<=1000000)(kd nd n a b:Int){f:Option Addr}{dn:Nat}(dc:Nat){L:List Nat}(g:RowAt w f dn L)(d:dn<=1048576):
  ο ζ 13 #[.pointer (β ⟨q,0,γ⟩),.agg #[U α kd,U α nd,U α n,U α a,U α b,η f dn dc]] w fun e w'=> ∃ok c k',e=δ (.bool ok)/\DR T kd nd n a b L k ok c k'/\AQ w0 w' q P c k':=
 (TA h ht m kd nd n a b dc g d).mono fun _ _ ⟨ok,c,k',j,hp,l,_⟩=>⟨ok,c,k',j,hp,l⟩
def fh(f:A1)(w:ψ)(g:f.obj.size<=9223372036854775807):
  ο ζ 17 #[f.val] w fun e w'=>((e=δ (U α 1)/\600<f.obj.size)\/(e=δ (U α 0)/\f.obj.size<=600))/\ς w.heap.size w w':=by
 obtain⟨a,n,c,ds,obj,size,spread,buffer,queue,cache,rate,timeout,target⟩:=f;simp only[A1.val]at g⊢;have b:=Ab (As w (ι #[η a n c,ε obj,U α size,U α spread,U α buffer,U α queue,U α cache,.float .f64 rate,U α timeout,U α target] 25));by_cases h:600<obj.size
 ·have d:decide (600<(obj.size:Int))=true:=by simp only[decide_eq_true_eq];omega
  go_enter func17,ntmps17;go_wp2;go_ret;exact⟨.inl ⟨rfl,h⟩,Aa b⟩
 ·have d:decide (600<(obj.size:Int))=false:=by simp only[decide_eq_false_iff_not];omega
  go_enter func17,ntmps17;go_wp2;go_ret;exact⟨.inr ⟨rfl,by omega⟩,Aa b⟩
def Xe{w:ψ}{f:A1}{i:Nat}(h:BN w f)(e:Bm f 0)(a:i<f.n):Hc w f i/\f.n<=8:=by
 rcases e with⟨hp,b⟩|⟨_,b⟩
 ·obtain⟨⟨j,l,_⟩,d,_⟩:=hp
  obtain⟨r,g,_⟩:=d i a;obtain⟨Z,m,o,p,c⟩:=rK b.symm;have s:=(h.nds.2.1 i a).1;refine⟨⟨h.nds,a,by omega,by omega,by omega,(h.tos i a).2,h.rate,⟨by omega,by omega,l.1,?_⟩⟩,j.2⟩;rw[m];exact c
 ·exact absurd b (by decide)
end Go.Proofs.YtfpmnekaockodaaGreatDoor
