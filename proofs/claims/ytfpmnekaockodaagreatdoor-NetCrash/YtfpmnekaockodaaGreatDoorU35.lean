/- Laws for the proof. -/
import Derived.Test.YtfpmnekaockodaaGreatDoorU34
set_option linter.all false
open Go.Proofs.Tryz
open Go.Value renaming int->U,string->β,slice->γ,pointer->ο,tuple->τ
open Go.IntKind renaming i64->α
open Option renaming none->δ,some->η
open Go renaming Value->ε,World->ζ,Calls->σ
open Option.some renaming inj->θ
open Go.Proofs.Tryz renaming prog->ι
open Nat renaming le_refl->κ,le_trans->ρ,zero_le->ς
open Go.RowKit renaming Below->μ
open Go.Ending renaming returned->ν
open Go.RowKit.Below renaming refl->ξ
open List renaming length_map->π
namespace Go.Proofs.YtfpmnekaockodaaGreatDoor
open Go.RowKit Go.Sort
set_option maxRecDepth 4000
set_option maxHeartbeats 8000000
variable {s:ByteArray}{t i:Int}{D:List Nat}{L:List PD}{ps us:List PKV}{g B N n c gb m gd Bd:Nat}{a:Option Addr}{v va v0 v1 v2 v3 v4 v5 v6 v7 v8 v9:ε}{w w' wx:ζ}
def EM:PKV:=⟨0,0,0,0,0,⟨δ,0,0,[],⟨#[]⟩⟩⟩
def mi(ch:List Bool)(n:Nat):(Gk ch n).length<=n:=by
 have:=List.length_filter_le (fun i=>ch.getD i false) (List.range n);rwa[List.length_range]at this
def G0(L:List PD)(D:List Nat)(N:Nat)(t:Int):Option PD:=if L.length=0 then none else emitD L (BF D (N+1)%L.length) t
def Rp(L:List PD)(N:Nat):Nat:=if L.length=0 then N else N+1
def ju(a:Option Addr)(n c:Nat)(ps:List PKV)(w:ζ)(h:PksAt w a n ps)(V:n<=1048576):
  σ ι 200 #[γ a n c] w fun e w'=> ∃v,e=ν v/\Ak w' w.heap.size v (Ai ps)/\μ w.heap.size w w':=by
 obtain rfl:=h.1;have X:=Ab h;have ag:=Nd ps.length V;have Q:=Ab (Nc w ps.length V (BK (Ai ps) 0) (by rw[OF,Es]));have x:Hid (μ w.heap.size w (w.alloc (.cells (madeCells #[γ none 0 0,β ⟨#[]⟩] (ps.length*2)) 73))):=Ab ((ξ _ _).alloc (κ _) _);clear h;go_enter func200,ntmps200;go_wp2;go_loopw [11] (fun i wr=> ∃k:Nat,k<=ps.length/\i=U α k/\Hid (Ak wr w.heap.size (γ (η ⟨w.heap.size,0,δ⟩) ps.length ps.length) (BK (Ai ps) k))/\Hid (μ w.heap.size w wr)) (fun i _=>ps.length-(intOf i).toNat)
 case atStart=>exact⟨0,ς _,rfl,Q,x⟩
 case round=>
  obtain⟨k,hk,rfl,I,H⟩:=hrel;clear Q x;by_cases d:k<ps.length
  ·obtain⟨b,off,rfl,C⟩:=((Aa X).below (Aa H)).at d
   obtain⟨Z,aa,ab,ac,ad,ae,af⟩:=C k d;have T:(k:Int)<(ps.length:Int):=by omega
   have P:=OE (Ai ps) k (by rw[Es];exact d);rw[US d]at P;generalize ps.getD k .dflt=p at*;have j:=Jh wr p;have A:=(Aa I).below j;obtain⟨ah,ai,aj,ak,al,am,an⟩:=Fq wr (U α p.o) (U α p.l) (U α p.k) (U α p.z) (U α p.h) (.slice p.r.a p.r.n p.r.c) (β p.r.s);have y:=Ad (Aa H) j;generalize Y:wr.alloc (.cells #[U α p.o,U α p.l,U α p.k,U α p.z,U α p.h,.slice p.r.a p.r.n p.r.c,β p.r.s] 75)=w1 at*;have E:(BK (Ai ps) k).length=ps.length:=by rw[NR _ _ (by rw[Es];exact hk),Es]
   have q:=In (BK (Ai ps) k) k (by omega);have J:=A.cellAt q.1;have K:=A.cellAt q.2;have f:w1.ownsRow w.heap.size 73 2 (γ (η ⟨w.heap.size,0,δ⟩) ps.length ps.length) ps.length (cellsR (BK (Ai ps) k)):=by
    have:w1.ownsRow w.heap.size 73 2 (γ (η ⟨w.heap.size,0,δ⟩) ps.length ps.length) (BK (Ai ps) k).length (cellsR (BK (Ai ps) k)):=A;rwa[E]at this
   have R:=f.frozenAt (k*2);have S:=f.frozenAt (k*2+1);have u:=A.stored k p.r;rw[P]at u;have W:=Ab u;have O:=Ab ((y.setCell (p:=⟨w.heap.size,k*2,δ⟩) (κ _) (.slice p.r.a p.r.n p.r.c)).setCell (p:=⟨w.heap.size,k*2+1,δ⟩) (κ _) (β p.r.s));clear C A f u P q E I H j y;generalize (BK (Ai ps) k).getD k .dflt=z at*;go_wp2;go_roundw
   case rel=>exact⟨k+1,by omega,by go_num,W,O⟩
   case measure=>simp[intOf];omega
  ·obtain rfl:k=ps.length:=by omega
   rw[show ps.length=(Ai ps).length from(Es ps).symm,Pv,Es]at I;go_wp2;go_ret;exact⟨_,rfl,Aa I,Aa H⟩
def Cl.own{o:Option PD}{e:Ending}(h:Cl w w' o e):μ w.heap.size w w'/\∃q:PKV,e=ν (τ #[q.val,.bool o.isSome])/\q.pd=o.getD EM.pd/\Own w' w.heap.size (.slice q.r.a q.r.n q.r.c) q.r.xs:=by
 cases o with
 |none=>exact⟨h.1,EM,h.2,rfl,Own.nil _ _⟩
 |some d=>
  obtain⟨b,q,k,f,j⟩:=h;exact⟨b,q,f,k,j⟩
def A5.not{T d:TypeId}{j:Nat}{u0 u1:ε}{b:Array ε}{f:Nat×Nat}(h:A5 T w g u0 u1)(l:w.heap[j]? =η (.cells b d f))(k:T≠d):j≠g:=fun e=>by
 subst e;unfold A5 at h;rw[l]at h;simp only[Option.some.injEq,Obj.cells.injEq]at h;exact k h.2.1.symm
def AF.bk{L:List Nat}(h:AF w g B L N):∃a n c,A5 246 w g (γ a n c) (U α (N:Int)):=by
 obtain⟨d,e,a,n,c,b,f⟩:=h;exact⟨a,n,c,b⟩
def Tab.drawn{T:TypeId}{u:ε}(h:Tab w)(f:A5 T w g (γ a n c) u)(j:w.grownBy w' (η g)):Tab w':=fun i k=>by
 refine j.cell (h i k) fun e=>?_;have d:=h 0 (by decide);have b:=f.at0;rw[<-θ e,d]at b;cases b
def Ym(w:ζ)(g:Nat)(u0 u1 u2 u3 u4 u5 u6:ε):w.grownBy (set7 w g u0 u1 u2 u3 u4 u5 u6) (η g):=
 Bx (Bx (Bx (Bx (Bx (Bx (Bz _ _ _ _) (Bz _ _ _ _) (.inl rfl)) (Bz _ _ _ _) (.inl rfl)) (Bz _ _ _ _) (.inl rfl)) (Bz _ _ _ _) (.inl rfl)) (Bz _ _ _ _) (.inl rfl)) (Bz _ _ _ _) (.inl rfl)
structure EmQ(w wx:ζ)(g gb B m:Nat)(t i:Int)(v:ε)(ps:List PKV)(gd Bd:Nat)(D:List Nat)(N:Nat)(va:ε)(us:List PKV):Prop where
 r:AA wx g gb B m t i v ps
 d:AF wx gd Bd D N
 bd:Bd<=wx.heap.size
 k:OwnP wx (w.heap.size+1) va us
 u:Aq wx (w.heap.size+1) us
 tab:Tab wx
 pz:AS wx w.heap.size (U α 0) (U α 0) (U α 0) (U α 0) (U α 0) (γ none 0 0) (β ⟨#[]⟩)
 gr:w.grownBy wx (η gd)
def EmQ.below{e:ζ}(h:EmQ w wx g gb B m t i v ps gd Bd D N va us)(b:μ wx.heap.size wx e):EmQ w e g gb B m t i v ps gd Bd D N va us:=
 ⟨h.r.below b,h.d.below (b.mono h.bd),ρ h.bd b.size,h.k.below b,h.u.below b,h.tab.below b,h.pz.below b,Bx h.gr (CD b (η gd)) (.inl rfl)⟩
def EmQ.drawn{l:ζ}{q:Nat}(h:EmQ w wx g gb B m t i v ps gd Bd D N va us)(x:AF l gd Bd D q)(b:wx.grownBy l (η gd)):EmQ w l g gb B m t i v ps gd Bd D q va us:=by
 obtain⟨a,n,c,f⟩:=h.d.bk;have ht:Tu (fun j=>j=gd) wx l:=Tu.of_gb b fun j _ e=>(θ e).symm;refine⟨h.r.drawn f (by decide) (by decide) (by decide) (by decide) b,x,ρ h.bd b.size,h.k.tu ht (fun j y=>?_),h.u.tu ht (fun j o p=>f.not p (by decide)),h.tab.drawn f b,?_,Bx h.gr b (.inl rfl)⟩
 ·obtain⟨o,p⟩:=h.k.blk y
  exact f.not p (by decide)
 ·exact(b.block _ h.pz.lt fun e=>f.not h.pz (by decide) (θ e)).trans h.pz
def EmQ.pks(h:EmQ w wx g gb B m t i v ps gd Bd D N (γ a n c) us):PksAt wx a n us:=(h.k.at' h.u.ks).1
def iI{rs:List RV}{b:Int}(h:rs.length<=300):(IE rs b t).length<=300:=by
 unfold IE;split
 ·exact ς _
 ·have:=mi (BC (AV rs) t (placeN b rs.length) 31).ch rs.length
  unfold A4;rw[π];omega
def SQ(j:KsIn w us)(h:Be m (us.map PKV.pd)):Qx us:=fun i=>by
 by_cases b:i<us.length
 ·have d:=(h.get (i:=i) (by rw[π];exact b)).1
  rw[Lq b]at d;have f:=JZ d;have k:=(j.get b).1.1;have l:(us.getD i .dflt).r.xs.length<=2:=f;have e:=I5 d;have o:((us.getD i .dflt).r.s.size:Int)=(us.getD i .dflt).z:=e.2.2.1;have p:(us.getD i .dflt).z<=64:=e.2.2.2.2.2;omega
 ·rw[List.getD_eq_getElem?_getD,List.getElem?_eq_none (by omega)]
  exact⟨ς _,ς _⟩
def VS{X:ζ}{tmps:Array ε}{o l k z h:Int}{b:Bool}(ht:tmps.getD 4 undef=.pointer (η ⟨g,0,δ⟩))(f:tmps.getD 5 undef=.bool b)(j:AS X g (U α o) (U α l) (U α k) (U α z) (U α h) (γ a n c) (β s)):
  (results Tryz.f168 tmps).run ι X=.ok (τ #[.agg #[U α o,U α l,U α k,U α z,U α h,γ a n c,β s],.bool b]) X:=by
 obtain⟨p,r1,r2,q,r,u,x⟩:=j.at;have e:tmps[4]?.getD undef=.pointer (η ⟨g,0,δ⟩):=by simpa using ht
 have d:tmps[5]?.getD undef=.bool b:=by simpa using f
 simp[results,Tryz.results168,go_sem,e,d,p,r1,r2,q,r,u,x]
def CR(w w':ζ)(o:Option PD)(e:Ending):Prop:=∃q:PKV,e=ν (τ #[q.val,.bool o.isSome])/\q.pd=o.getD EM.pd/\Own w' w.heap.size (.slice q.r.a q.r.n q.r.c) q.r.xs
def et(l:ε)(d:ε)(w:ζ)(k:∀wx,μ w.heap.size w wx->σ ι 56 #[l] wx fun e w'=>e=ν (U α 0)/\w'=wx):
  σ ι 168 #[l,d] w fun e w'=>CR w w' none e/\μ w.heap.size w w':=by
 have b:μ w.heap.size w (w.alloc (.cells #[U α 0,U α 0,U α 0,U α 0,U α 0,γ none 0 0,β ⟨#[]⟩] 75)):=(ξ _ _).alloc (κ _) _;have h:=CC w (U α 0) (U α 0) (U α 0) (U α 0) (U α 0) (γ none 0 0) (β ⟨#[]⟩);have o:=Ab (k _ b);have p:=Ab h;have j:=Ab b;obtain⟨r,u,x,y,z,A,C⟩:=h.at;have E:=h.frz;clear h b k;go_enter func168,ntmps168;generalize q:w.alloc (.cells #[U α 0,U α 0,U α 0,U α 0,U α 0,γ none 0 0,β ⟨#[]⟩] 75)=W at*;go_wp2_with (go_at_call 56;refine(Aa o).mono ?_;rintro e w1 ⟨rfl,f⟩;obtain rfl:=f.symm;clear f);exact bodyPost_ret (VS (X:=set7 W w.heap.size (U α 0) (U α 0) (U α 0) (U α 0) (U α 0) (γ none 0 0) (β ⟨#[]⟩)) rfl rfl ((Aa p).sets (U α 0) (U α 0) (U α 0) (U α 0) (U α 0) (γ none 0 0) (β ⟨#[]⟩))) rfl ⟨⟨EM,rfl,rfl,Own.nil _ _⟩,Cv (Aa j) (κ _) _ _ _ _ _ _ _⟩
def mr(g gb B m:Nat)(t i:Int)(v:ε)(d:ε)(w:ζ)(h:AA w g gb B m t i v []):σ ι 168 #[.pointer (η ⟨g,0,δ⟩),d] w fun e w'=>CR w w' none e/\μ w.heap.size w w':=
 et _ d w fun wx b=>LV g gb B m t i v [] wx (h.below b)
def qT{e w5:ζ}{q:PKV}(h:EmQ w e g gb B m t i v ps gd Bd D N va us)(u:μ e.heap.size e w5)(y:Own w5 e.heap.size (.slice q.r.a q.r.n q.r.c) q.r.xs):
  Own (set7 w5 w.heap.size (U α q.o) (U α q.l) (U α q.k) (U α q.z) (U α q.h) (.slice q.r.a q.r.n q.r.c) (β q.r.s)) w.heap.size (.slice q.r.a q.r.n q.r.c) q.r.xs/\(Bd<=w.heap.size->AF (set7 w5 w.heap.size (U α q.o) (U α q.l) (U α q.k) (U α q.z) (U α q.h) (.slice q.r.a q.r.n q.r.c) (β q.r.s)) gd Bd D N)/\w.grownBy (set7 w5 w.heap.size (U α q.o) (U α q.l) (U α q.k) (U α q.z) (U α q.h) (.slice q.r.a q.r.n q.r.c) (β q.r.s)) (η gd):=by
 have f:=h.below u;have b:=h.pz.lt;refine⟨(y.all7 b _ _ _ _ _ _ _).mono (Nat.le_of_lt b),fun p=>f.d.below (Cv (ξ _ _) p _ _ _ _ _ _ _),Bx f.gr (Ym _ _ _ _ _ _ _ _ _) (.inr fun j x=>Nat.le_of_eq (θ x))⟩
def mq(g gb B m:Nat)(t i:Int)(v:ε)(ps:List PKV)(gd Bd:Nat)(D:List Nat)(N:Nat)(w:ζ)(ht:Tab w)(h:AA w g gb B m t i v ps)(hd:AF w gd Bd D N)(hB:Bd<=w.heap.size)(hN:N<=1099511627776)(bg: -1099511627776<=t/\t<=1099511627776)(h0:0<ps.length):
  σ ι 168 #[.pointer (η ⟨g,0,δ⟩),.pointer (η ⟨gd,0,δ⟩)] w fun e w'=>CR w w' (emitD (ps.map PKV.pd) (BF D (N+1)%ps.length) t) e/\AF w' gd Bd D (N+1)/\w.grownBy w' (η gd):=by
 have b:μ w.heap.size w (w.alloc (.cells #[U α 0,U α 0,U α 0,U α 0,U α 0,γ none 0 0,β ⟨#[]⟩] 75)):=(ξ _ _).alloc (κ _) _;have hz:=CC w (U α 0) (U α 0) (U α 0) (U α 0) (U α 0) (γ none 0 0) (β ⟨#[]⟩);have av:(w.alloc (.cells #[U α 0,U α 0,U α 0,U α 0,U α 0,γ none 0 0,β ⟨#[]⟩] 75)).heap.size=w.heap.size+1:=A7 _ _;have ao:=h.buf.len.2;generalize bh:w.alloc (.cells #[U α 0,U α 0,U α 0,U α 0,U α 0,γ none 0 0,β ⟨#[]⟩] 75)=W at*;have aa:=Ab (hd.below (b.mono hB));have x:=LV g gb B m t i v ps W (h.below b);have P:=Ab (h.below b);have I:=Ab h.buf.inv;have a9:=Ab (ht.below b);have HZ:=Ab hz;have J:=Ab b;have ai:=Ab av;have bi:=pg ⟨gb,0,δ⟩;obtain⟨n,T⟩:∃n,ps.length=n:=⟨_,rfl⟩;rw[T]at x h0 ao⊢;have ac:=Ab x;have af:=Ab T;have bf:¬((n:Int)=0):=by omega
 have bj:((n:Int)==0)=false:=by rw[beq_eq_false_iff_ne];exact bf
 obtain⟨c0, -, -⟩:=(h.below b).cells;clear h ht hz b av T x hd;go_enter func168,ntmps168;go_wp2_with (go_at_call 56;refine(Aa ac).mono ?_;rintro e w1 ⟨rfl,ax⟩;obtain rfl:=ax.symm;clear ax ac);refine(lE gb B m v ps _ (Aa P).buf).mono ?_;rintro e w2 ⟨b2,c2,us,rfl,ap,an,E,f⟩;have aj:=f;have A:Hid (EmQ w w2 g gb B m t i v ps gd Bd D N (γ (η ⟨b2,0,δ⟩) ps.length c2) us):=Ab ⟨(Aa P).below f,(Aa aa).below (f.mono (ρ hB (Aa J).size)),(ρ hB (ρ (Aa J).size aj.size)),ap.mono (by rw[<-Aa ai];exact κ _),an.mono (by rw[<-Aa ai];exact κ _),(Aa a9).below f,(Aa HZ).below f,CD (Ad (Aa J) f) _⟩;have aw:us.length=n:=by rw[<-Aa af];have:=congrArg List.length E;simpa using this
 have Q:=Ab aw;have ab:Hid (Be m (us.map PKV.pd)):=Ab (by rw[E];exact Aa I);have a6:=Ab E;rw[Aa af]at A⊢;clear ap an E f aj aw I P aa;obtain⟨f0,f1, -⟩:=(Aa A).r.cells;have a8:=Ab (fun wx (hq:EmQ w wx g gb B m t i v ps gd Bd D N (γ (η ⟨b2,0,δ⟩) n c2) us)=>ju (η ⟨b2,0,δ⟩) n c2 us wx hq.pks (by omega));have az:=Ab (fun wx (hq:EmQ w wx g gb B m t i v ps gd Bd D N (γ (η ⟨b2,0,δ⟩) n c2) us)=>Ub gd Bd D N n wx hq.d hN (by omega) (by omega));have ad:=Ab (show BF D (N+1)%n<n from Nat.mod_lt _ h0);generalize bd:BF D (N+1)%n=bb at*;go_wp2_with fail
 go_region_held3 (fun w'=>w'.cell? ⟨g,1,δ⟩=η (U α t)) (go_keep) (first
  |(go_at_call 200;refine(Aa a8 _ ((Aa A).below (ξ _ _).drew)).mono ?_;rintro e w3 ⟨v3,rfl,C,ak⟩;have V:=((Aa A).below (ξ _ _).drew).below ak;have ah:=Ab V;obtain⟨a3,d3,rfl⟩:=C.shape;rw[Es,Aa Q]at C⊢;have a2:=Ab C;have a1:=Ab ((Aa A).below (ξ _ _).drew).d.lt;obtain⟨-,k1, -⟩:=V.r.cells;clear C ak V)
  |(go_at_call 201;refine(Aa az _ (Aa ah)).mono ?_;rintro e w4 ⟨rfl,am,S⟩;have Y:=(Aa ah).drawn am S;have K:=Ab Y;have a4:=Ab ((Aa a2).keptB S (Aa a1));obtain⟨-,l1, -⟩:=Y.r.cells;clear am S Y)
  |(go_at_call 199;refine(iH a3 n d3 (Ai us) (bb:Int) t w4 (((Aa a4).at' (KsIn.rows (Aa K).u.ks)).1) (N3 fun p hp=>SO (SQ (Aa K).u.ks (Aa ab)) hp) (by omega) (by have:=Aa ad;omega) bg).mono ?_;rintro e w5 ⟨v5,rfl,aq,al⟩;have Z:=(Aa K).below al;have j:=Ab Z;obtain⟨a5,d5,rfl,ay⟩:=aq.ints;have ba:=Ab ay;obtain⟨-,m1, -⟩:=Z.r.cells;clear aq al Z ay))
 have y:=lU (η ⟨b2,0,δ⟩) n c2 us a5 (IE (Ai us) (bb:Int) t).length d5 (IE (Ai us) (bb:Int) t) w5 (Aa j).tab (Aa j).pks (Aa j).u.ks (SQ (Aa j).u.ks (Aa ab)) (Aa ba) (by omega) (iI (by rw[Es,Aa Q];omega));rw[YE (by rw[Aa Q];exact Aa ad),Aa a6]at y;have ae:=Ab y;clear y;obtain⟨O,hO⟩:∃O,emitD (ps.map PKV.pd) bb t=O:=⟨_,rfl⟩;have ag:Hid (emitD (ps.map PKV.pd) (BF D (N+1)%n) t=O):=Ab (by rw[show BF D (N+1)%n=bb from bd];exact hO);rw[hO]at ae;clear hO;go_wp2_with (go_at_call 202;refine(Aa ae).mono ?_;rintro e w6 hM;obtain⟨R,q,rfl,au,ar⟩:=hM.own;have a0:=Ab (qT (Aa j) R ar);have a7:=Ab au;have H:=(Aa j).pz.below R;obtain⟨x0,x1,x2,x3,x4,x5,x6⟩:=H.at;have xf:=H.frz;have bc:=Ab H;unfold PKV.val;clear R au ar hM H);obtain⟨y1,y2,y3⟩:=Aa a0;exact bodyPost_ret (VS (X:=set7 w6 w.heap.size (U α q.o) (U α q.l) (U α q.k) (U α q.z) (U α q.h) (.slice q.r.a q.r.n q.r.c) (β q.r.s)) rfl rfl ((Aa bc).sets (U α q.o) (U α q.l) (U α q.k) (U α q.z) (U α q.h) (.slice q.r.a q.r.n q.r.c) (β q.r.s))) rfl ⟨⟨q,by rw[Aa ag];rfl,by rw[Aa ag];exact Aa a7,y1⟩,y2 hB,y3⟩
def QV{c P Q:Prop} [Decidable c](b:¬c)(h:Q):if c then P else Q:=by rw[if_neg b];exact h
def kT(D:List Nat)(N:Nat)(t:Int)(h:0<L.length):G0 L D N t=emitD L (BF D (N+1)%L.length) t:=if_neg (by omega)
def nt(N:Nat)(h:0<L.length):Rp L N=N+1:=if_neg (by omega)
def iU(g gb B m:Nat)(t i:Int)(v:ε)(ps:List PKV)(gd Bd:Nat)(D:List Nat)(N:Nat)(w:ζ)(ht:Tab w)(h:AA w g gb B m t i v ps)(l:AF w gd Bd D N)(k:Bd<=w.heap.size)(o:N<=1099511627776)(d: -1099511627776<=t/\t<=1099511627776):
  σ ι 168 #[.pointer (η ⟨g,0,δ⟩),.pointer (η ⟨gd,0,δ⟩)] w fun e w'=>CR w w' (G0 (ps.map PKV.pd) D N t) e/\AF w' gd Bd D (Rp (ps.map PKV.pd) N)/\w.grownBy w' (η gd):=by
 by_cases f:0<ps.length
 ·have j:0<(ps.map PKV.pd).length:=by rw[π];exact f
  rw[kT D N t j,nt N j,π];exact mq g gb B m t i v ps gd Bd D N w ht h l k o d f
 ·obtain rfl:ps=[]:=List.eq_nil_of_length_eq_zero (by omega)
  refine(mr g gb B m t i v _ w h).mono fun e w' b=>?_;exact⟨b.1,l.below (b.2.mono k),CD b.2 _⟩
def CR.row{o:Option PD}{e:Ending}(h:CR w w' o e):∃q:PKV,e=ν (τ #[q.val,.bool o.isSome])/\q.pd=o.getD EM.pd/\RowAt w' q.r.a q.r.n q.r.xs:=by
 obtain⟨q,f,k,j⟩:=h;refine⟨q,f,k,?_⟩;obtain⟨_,_,b,l⟩:=j.row;simp only[Value.slice.injEq]at b;obtain⟨rfl,d,rfl⟩:=b;rw[d];exact l
def QS(h:w.grownBy w' (η g))(b:B<=w.heap.size)(d:B<=g):μ B w w':=CA h b fun k e=>by rw[<-θ e];exact d
def mw(p:PKV)(w:ζ):σ ι 84 #[ο none,p.val] w fun e w'=>e=ν (.bool false)/\μ w.heap.size w w':=by
 have f:=Jh w p;unfold PKV.val;generalize hW:w.alloc (.cells #[U α p.o,U α p.l,U α p.k,U α p.z,U α p.h,.slice p.r.a p.r.n p.r.c,β p.r.s] 75)=W at*;have q:=Ab f;have A:=Ab (Cf (W:=W) (fun w' E=>(Tq w').mono fun e C x=>⟨x.1,by rw[x.2];exact ξ _ _⟩));clear f;go_enter func84,ntmps84;go_wp2_with fail;refine wp_region_quiet_below (by kernel_rfl) (by kernel_rfl) ?_
 repeat (with_reducible refine wpQuiet_step (fun K d=>?_);go_simp;first|(with_reducible refine d _ ?_;clear d K)|(refine QV (by decide) ?_;with_reducible refine d _ ?_;clear d K)|(apply Exists.intro;apply And.intro;(intro _;first|(go_at_call 86;exact Aa A _ _));with_reducible refine d _ ?_;clear d K))
 refine wpQuiet_nil ?_;intro w3 b;obtain⟨⟨u,j⟩,b⟩:=b;have y:=Ab (Ad (Aa q) (show μ W.heap.size W w3 by rw[b];exact below_regrown _ u j));clear b u j;go_wp2;go_ret;exact⟨rfl,Aa y⟩
def kS{d:PD}(h:G0 L D N t=η d):∃b,Ij L b=η d:=by
 unfold G0 at h;split at h
 ·cases h
 ·exact⟨_,h⟩
def AP(w:ζ)(g:Nat)(v0 v1 v2 v3 v4 v5 v6 v7 v8 v9:ε):Prop:=w.heap[g]? =η (.cells #[v0,v1,v2,v3,v4,v5,v6,v7,v8,v9] 157 (0,0))
def JT(w:ζ)(v0 v1 v2 v3 v4 v5 v6 v7 v8 v9:ε):AP (w.alloc (.cells #[v0,v1,v2,v3,v4,v5,v6,v7,v8,v9] 157)) w.heap.size v0 v1 v2 v3 v4 v5 v6 v7 v8 v9:=by
 show(w.heap.push _)[w.heap.size]? =_;simp
def AP.lt(h:AP w g v0 v1 v2 v3 v4 v5 v6 v7 v8 v9):g<w.heap.size:=(Array.getElem?_eq_some_iff.1 h).1
def AP.below(h:AP w g v0 v1 v2 v3 v4 v5 v6 v7 v8 v9)(b:μ w.heap.size w w'):AP w' g v0 v1 v2 v3 v4 v5 v6 v7 v8 v9:=(b.block g h.lt).trans h
def AP.at(h:AP w g v0 v1 v2 v3 v4 v5 v6 v7 v8 v9):F8 w g v0 v1 v2 v3 v4 v5 v6 v7 v8 v9:=by
 unfold AP at h;refine⟨⟨?_,?_,?_⟩,?_,?_,?_,?_,?_,?_,?_⟩<;>rw[cell_of_row w g _ _ _ _ h]<;>rfl
def AP.frz(h:AP w g v0 v1 v2 v3 v4 v5 v6 v7 v8 v9)(i:Nat):w.frozen? ⟨g,i,δ⟩=false:=by
 unfold AP at h;simp[World.frozen?,h]
def AP.other(h:AP w g v0 v1 v2 v3 v4 v5 v6 v7 v8 v9){a:Addr}(b:g≠a.block)(u:ε):AP (w.setCell a u) g v0 v1 v2 v3 v4 v5 v6 v7 v8 v9:=
 (Below.heap_setCell w a u g b).trans h
def AP.set0(h:AP w g v0 v1 v2 v3 v4 v5 v6 v7 v8 v9)(u:ε):AP (w.setCell ⟨g,0,δ⟩ u) g u v1 v2 v3 v4 v5 v6 v7 v8 v9:=heap_setCell_same w g 0 _ _ u h
def AP.set1(h:AP w g v0 v1 v2 v3 v4 v5 v6 v7 v8 v9)(u:ε):AP (w.setCell ⟨g,1,δ⟩ u) g v0 u v2 v3 v4 v5 v6 v7 v8 v9:=heap_setCell_same w g 1 _ _ u h
def AP.set2(h:AP w g v0 v1 v2 v3 v4 v5 v6 v7 v8 v9)(u:ε):AP (w.setCell ⟨g,2,δ⟩ u) g v0 v1 u v3 v4 v5 v6 v7 v8 v9:=heap_setCell_same w g 2 _ _ u h
def AP.set3(h:AP w g v0 v1 v2 v3 v4 v5 v6 v7 v8 v9)(u:ε):AP (w.setCell ⟨g,3,δ⟩ u) g v0 v1 v2 u v4 v5 v6 v7 v8 v9:=heap_setCell_same w g 3 _ _ u h
def AP.set4(h:AP w g v0 v1 v2 v3 v4 v5 v6 v7 v8 v9)(u:ε):AP (w.setCell ⟨g,4,δ⟩ u) g v0 v1 v2 v3 u v5 v6 v7 v8 v9:=heap_setCell_same w g 4 _ _ u h
def AP.set5(h:AP w g v0 v1 v2 v3 v4 v5 v6 v7 v8 v9)(u:ε):AP (w.setCell ⟨g,5,δ⟩ u) g v0 v1 v2 v3 v4 u v6 v7 v8 v9:=heap_setCell_same w g 5 _ _ u h
def AP.set6(h:AP w g v0 v1 v2 v3 v4 v5 v6 v7 v8 v9)(u:ε):AP (w.setCell ⟨g,6,δ⟩ u) g v0 v1 v2 v3 v4 v5 u v7 v8 v9:=heap_setCell_same w g 6 _ _ u h
def AP.set7(h:AP w g v0 v1 v2 v3 v4 v5 v6 v7 v8 v9)(u:ε):AP (w.setCell ⟨g,7,δ⟩ u) g v0 v1 v2 v3 v4 v5 v6 u v8 v9:=heap_setCell_same w g 7 _ _ u h
def AP.set8(h:AP w g v0 v1 v2 v3 v4 v5 v6 v7 v8 v9)(u:ε):AP (w.setCell ⟨g,8,δ⟩ u) g v0 v1 v2 v3 v4 v5 v6 v7 u v9:=heap_setCell_same w g 8 _ _ u h
def AP.set9(h:AP w g v0 v1 v2 v3 v4 v5 v6 v7 v8 v9)(u:ε):AP (w.setCell ⟨g,9,δ⟩ u) g v0 v1 v2 v3 v4 v5 v6 v7 v8 u:=heap_setCell_same w g 9 _ _ u h
def Ns(w:ζ)(g:Nat)(u0 u1 u2 u3 u4 u5 u6 u7 u8 u9:ε):ζ:=((((((((((w.setCell ⟨g,0,δ⟩ u0).setCell ⟨g,1,δ⟩ u1).setCell ⟨g,2,δ⟩ u2).setCell ⟨g,3,δ⟩ u3).setCell ⟨g,4,δ⟩ u4).setCell ⟨g,5,δ⟩ u5).setCell ⟨g,6,δ⟩ u6).setCell ⟨g,7,δ⟩ u7).setCell ⟨g,8,δ⟩ u8).setCell ⟨g,9,δ⟩ u9)
def Jr(w:ζ)(g:Nat)(u3 u4 u5 u6 u7 u8 u9:ε):ζ:=(((((((w.setCell ⟨g,3,δ⟩ u3).setCell ⟨g,4,δ⟩ u4).setCell ⟨g,5,δ⟩ u5).setCell ⟨g,6,δ⟩ u6).setCell ⟨g,7,δ⟩ u7).setCell ⟨g,8,δ⟩ u8).setCell ⟨g,9,δ⟩ u9)
def AP.sets(h:AP w g v0 v1 v2 v3 v4 v5 v6 v7 v8 v9)(u0 u1 u2 u3 u4 u5 u6 u7 u8 u9:ε):AP (Ns w g u0 u1 u2 u3 u4 u5 u6 u7 u8 u9) g u0 u1 u2 u3 u4 u5 u6 u7 u8 u9:=((((((((((h.set0 u0).set1 u1).set2 u2).set3 u3).set4 u4).set5 u5).set6 u6).set7 u7).set8 u8).set9 u9)
def AP.setp(h:AP w g v0 v1 v2 v3 v4 v5 v6 v7 v8 v9)(u3 u4 u5 u6 u7 u8 u9:ε):AP (Jr w g u3 u4 u5 u6 u7 u8 u9) g v0 v1 v2 u3 u4 u5 u6 u7 u8 u9:=(((((((h.set3 u3).set4 u4).set5 u5).set6 u6).set7 u7).set8 u8).set9 u9)
def AP.otherp{b:Nat}(h:AP w g v0 v1 v2 v3 v4 v5 v6 v7 v8 v9)(d:g≠b)(u3 u4 u5 u6 u7 u8 u9:ε):AP (Jr w b u3 u4 u5 u6 u7 u8 u9) g v0 v1 v2 v3 v4 v5 v6 v7 v8 v9:=(((((((h.other (a:=⟨b,3,δ⟩) d u3).other (a:=⟨b,4,δ⟩) d u4).other (a:=⟨b,5,δ⟩) d u5).other (a:=⟨b,6,δ⟩) d u6).other (a:=⟨b,7,δ⟩) d u7).other (a:=⟨b,8,δ⟩) d u8).other (a:=⟨b,9,δ⟩) d u9)
def JR{a:ζ}(h:μ B a w){g:Nat}(b:B<=g)(u0 u1 u2 u3 u4 u5 u6 u7 u8 u9:ε):μ B a (Ns w g u0 u1 u2 u3 u4 u5 u6 u7 u8 u9):=((((((((((h.setCell b u0).setCell b u1).setCell b u2).setCell b u3).setCell b u4).setCell b u5).setCell b u6).setCell b u7).setCell b u8).setCell b u9)
def aV{a:ζ}(h:μ B a w){g:Nat}(b:B<=g)(u3 u4 u5 u6 u7 u8 u9:ε):μ B a (Jr w g u3 u4 u5 u6 u7 u8 u9):=(((((((h.setCell b u3).setCell b u4).setCell b u5).setCell b u6).setCell b u7).setCell b u8).setCell b u9)
def RowAt.other10{xs:List Nat}(h:RowAt w a n xs){B:Nat}(b:∀d,a=η d->n≠0->d.block≠B)(u0 u1 u2 u3 u4 u5 u6 u7 u8 u9:ε):RowAt (Ns w B u0 u1 u2 u3 u4 u5 u6 u7 u8 u9) a n xs:=((((((((((h.other b 0 u0).other b 1 u1).other b 2 u2).other b 3 u3).other b 4 u4).other b 5 u5).other b 6 u6).other b 7 u7).other b 8 u8).other b 9 u9)
def RowAt.otherP{xs:List Nat}(h:RowAt w a n xs){B:Nat}(b:∀d,a=η d->n≠0->d.block≠B)(u3 u4 u5 u6 u7 u8 u9:ε):RowAt (Jr w B u3 u4 u5 u6 u7 u8 u9) a n xs:=(((((((h.other b 3 u3).other b 4 u4).other b 5 u5).other b 6 u6).other b 7 u7).other b 8 u8).other b 9 u9)
def AP.apart{r u x y z A C E:Int}{b:Option Addr}{t:ByteArray}(h:AP w g (U α r) (U α u) (U α x) (U α y) (U α z) (U α A) (U α C) (U α E) (γ b m c) (β t))
  {a:Option Addr} {n:Nat} {xs:List Nat} (q:RowAt w a n xs):∀f,a=η f->n≠0->f.block≠g:=by
 intro f o H j;obtain⟨l,off,e,p⟩:=q.at (i:=0) (by omega);rw[o]at e;obtain rfl:=θ e;have d:=p 0 (by omega);simp only at j;subst j;unfold AP at h;rw[Nat.add_zero,cell_of_row w l _ _ _ _ h]at d
 match off,d with
 |0,d=>simp at d
 |1,d=>simp at d
 |2,d=>simp at d
 |3,d=>simp at d
 |4,d=>simp at d
 |5,d=>simp at d
 |6,d=>simp at d
 |7,d=>simp at d
 |8,d=>simp at d
 |9,d=>simp at d
 |k+10,d=>simp at d
def AS.apart{r u x y z:Int}{b:Option Addr}{t:ByteArray}(h:AS w g (U α r) (U α u) (U α x) (U α y) (U α z) (γ b m c) (β t))
  {a:Option Addr} {n:Nat} {xs:List Nat} (q:RowAt w a n xs):∀f,a=η f->n≠0->f.block≠g:=by
 intro f o A j;obtain⟨l,off,e,p⟩:=q.at (i:=0) (by omega);rw[o]at e;obtain rfl:=θ e;have d:=p 0 (by omega);simp only at j;subst j;unfold AS at h;rw[Nat.add_zero,cell_of_row w l _ _ _ _ h]at d
 match off,d with
 |0,d=>simp at d
 |1,d=>simp at d
 |2,d=>simp at d
 |3,d=>simp at d
 |4,d=>simp at d
 |5,d=>simp at d
 |6,d=>simp at d
 |k+7,d=>simp at d
def NV(s:ByteArray)(f:s.size=1\/s.size=4)(w:ζ):
  σ ι 151 #[β s] w fun e w'=>e=ν (U α ((num (tx s):Nat):Int))/\w'=w:=by
 have d:=fun wx=>Si s (s.size:Int) wx;have b:=Nk (s:=s) (k:=(s.size:Int)) (by rcases f with h|h<;>rw[h]<;>simp[EG]) (Int.le_refl _);rw[Int.toNat_natCast,<-AR,List.take_length]at b;rw[AR]at b;rw[b.1,b.2]at d;have j:=Ab d;generalize num (tx s)=x at*;clear d b f;go_enter func151,ntmps151;go_wp2_with fail;refine(Aa j _).mono ?_;rintro e w' ⟨rfl,l⟩;obtain rfl:=l.symm;go_wp2;go_ret;exact⟨rfl,rfl⟩
def mA(s:ByteArray)(A:6<=s.size)(w:ζ):
  σ ι 114 #[β s] w fun e w'=>e=ν (.agg #[U α ((hdK s:Nat):Int),U α ((hdF s:Nat):Int),U α ((hdI s:Nat):Int),U α 0,U α 0,U α 0,U α 0,U α 0,γ none 0 0,β ⟨#[]⟩])/\μ w.heap.size w w':=by
 have f:=fun wx=>NV (s.extract 0 1) (by rw[ByteArray.size_extract];omega) wx;have j:=fun wx=>NV (s.extract 1 2) (by rw[ByteArray.size_extract];omega) wx;have k:=fun wx=>NV (s.extract 2 6) (by rw[ByteArray.size_extract];omega) wx;rw[show num (tx (s.extract 0 1))=hdK s from Lh s 0 (by omega)]at f;rw[show num (tx (s.extract 1 2))=hdF s from Lh s 1 (by omega)]at j;rw[show num (tx (s.extract 2 6))=hdI s from by rw[Eu];rfl]at k;have l:=Ab f;have o:=Ab j;have p:=Ab k;generalize hdK s=x at*;generalize hdF s=y at*;generalize hdI s=z at*;have q:(1:Int)<=(s.size:Int):=by omega
 have r:(2:Int)<=(s.size:Int):=by omega
 have u:(6:Int)<=(s.size:Int):=by omega
 clear f j k;go_enter func114,ntmps114;go_wp2_with fail;refine wp_region_any (by kernel_rfl) ?_;change wpAny _ _ _ _ _ _ _ (World.drew _);refine wpAny_take (i:=0) (v:=?_) rfl (by kernel_rfl) (by kernel_rfl) (by kernel_rfl) (fun _ _ _ h=>h) (Or.inl ⟨by rfl,?f0⟩) ?_
 case f0=>(intro w;go_simp;try with_reducible rfl)
 refine wpAny_take (i:=1) (v:=?_) rfl (by kernel_rfl) (by kernel_rfl) (by kernel_rfl) (fun _ _ _ h=>h) (Or.inl ⟨by rfl,?f1⟩) ?_
 case f1=>(intro w;go_simp;try with_reducible rfl)
 refine wpAny_take (i:=3) (v:=?_) rfl (by kernel_rfl) (by kernel_rfl) (by kernel_rfl) (fun _ _ _ h=>h) (Or.inl ⟨by rfl,?f3⟩) ?_
 case f3=>(intro w;go_simp;try with_reducible rfl)
 refine wpAny_take (i:=4) (v:=?_) rfl (by kernel_rfl) (by kernel_rfl) (by kernel_rfl) (fun _ _ _ h=>h) (Or.inl ⟨by rfl,?f4⟩) ?_
 case f4=>(intro w;go_simp;try with_reducible rfl)
 refine wpAny_take (i:=6) (v:=?_) rfl (by kernel_rfl) (by kernel_rfl) (by kernel_rfl) (fun _ _ _ h=>h) (Or.inl ⟨by rfl,?f6⟩) ?_
 case f6=>(intro w;go_simp;try with_reducible rfl)
 refine wpAny_take (i:=7) (v:=?_) rfl (by kernel_rfl) (by kernel_rfl) (by kernel_rfl) (fun _ _ _ h=>h) (Or.inl ⟨by rfl,?f7⟩) ?_
 case f7=>(intro w;go_simp;try with_reducible rfl)
 refine wpAny_ready (rs:=[2]) (by kernel_rfl) (by simp) ?_;refine AllReady.cons rfl (fun K b=>?_) AllReady.nil;go_simp;refine(Aa l _).mono ?_;rintro e w' ⟨rfl,d⟩;obtain rfl:=d.symm;clear d;refine b _ _ ?_;clear b K;refine wpAny_ready (rs:=[5]) (by kernel_rfl) (by simp) ?_;refine AllReady.cons rfl (fun K b=>?_) AllReady.nil;go_simp;refine(Aa o _).mono ?_;rintro e w' ⟨rfl,d⟩;obtain rfl:=d.symm;clear d;refine b _ _ ?_;clear b K;refine wpAny_ready (rs:=[8]) (by kernel_rfl) (by simp) ?_;refine AllReady.cons rfl (fun K b=>?_) AllReady.nil;go_simp;refine(Aa p _).mono ?_;rintro e w' ⟨rfl,d⟩;obtain rfl:=d.symm;clear d;refine b _ _ ?_;clear b K;refine wpAny_take (i:=9) (v:=?_) rfl (by kernel_rfl) (by kernel_rfl) (by kernel_rfl) (fun _ _ _ h=>h) (Or.inl ⟨by rfl,?f9⟩) ?_
 case f9=>(intro w;go_simp;try with_reducible rfl)
 refine wpAny_ready (rs:=[10]) (by kernel_rfl) (by simp) ?_;refine AllReady.cons rfl (fun K b=>?_) AllReady.nil;go_simp;refine b _ _ ?_;clear b K;refine wpAny_done (by kernel_rfl) ?_ _;go_wp2;exact bodyPost_ret (v:=.agg #[U α (x:Int),U α (y:Int),U α (z:Int),U α 0,U α 0,U α 0,U α 0,U α 0,γ none 0 0,β ⟨#[]⟩]) (by simp[results,Tryz.results114,go_sem]) rfl ⟨rfl,(Bn w _).drew⟩
def Ll(kd:Int)(s:ByteArray)(o l k z h:Int)(xs:List Nat)(t:ByteArray)(en:Nat):Prop:=
 (kd=1->(s.size≠0->en=3/\Ft o l k z h xs t)/\(s.size=0->en=0/\Ft o l k z h xs t))/\(kd=2->C4 s o l k z h xs t en)/\(kd≠1->kd≠2->en=3/\Ft o l k z h xs t)
def Ri(w:ζ)(kd:Int)(s:ByteArray)(e:Ending)(w':ζ):Prop:=
 ∃(o l k z h:Int) (a:Option Addr) (n c:Nat) (xs:List Nat) (t:ByteArray) (en:Nat),e=ν (τ #[.agg #[U α o,U α l,U α k,U α z,U α h,γ a n c,β t],U α ((en:Nat):Int)])/\
  RowAt w' a n xs/\DF w a n/\Ll kd s o l k z h xs t en/\μ w.heap.size w w'
def OZ{kd:Int}{en:Nat}(h:Ll kd s 0 0 0 0 0 [] ⟨#[]⟩ en)(b:μ w.heap.size w w'):
  Ri w kd s (ν (τ #[.agg #[U α 0,U α 0,U α 0,U α 0,U α 0,γ none 0 0,β ⟨#[]⟩],U α ((en:Nat):Int)])) w':=
 ⟨0,0,0,0,0,δ,0,0,[],⟨#[]⟩,en,rfl,C8 _,OU _ _,h,b⟩
def JH:Ft 0 0 0 0 0 [] ⟨#[]⟩:=⟨rfl,rfl,rfl,rfl,rfl,rfl,rfl⟩
def LJ{tmps:Array ε}{W:ζ}{x:Int}{u0 u1 u2 u3 u4 u5 u6:ε}(e:tmps.getD 4 undef=.pointer (η ⟨g,0,δ⟩))(f:tmps.getD 5 undef=U α x)(h:AS W g u0 u1 u2 u3 u4 u5 u6):
  (results Tryz.f115 tmps).run ι W=.ok (τ #[.agg #[u0,u1,u2,u3,u4,u5,u6],U α x]) W:=by
 obtain⟨j,k,l,o,p,q,r⟩:=h.at;have b:tmps[4]?.getD undef=.pointer (η ⟨g,0,δ⟩):=by simpa using e
 have d:tmps[5]?.getD undef=U α x:=by simpa using f
 simp[results,Tryz.results115,go_sem,b,d,j,k,l,o,p,q,r]
def ey(b:¬s.size=0):s.toList.isEmpty=false:=by
 have h:=Mz s ⟨#[]⟩;rw[decide_eq_false (fun h=>b (by rw[h];rfl))]at h;simpa using h
def rT(kd:Int)(v0 v1 v2 v3 v4 v5 v6:ε)(s:ByteArray)(w:ζ)(O:s.size<=140737488351232):
  σ ι 115 #[Gv kd v0 v1 v2 v3 v4 v5 v6,β s] w (Ri w kd s):=by
 by_cases C:kd=1
 ·subst C
  rw[M7];have P:=Rk;by_cases x:s.size=0
  ·obtain rfl:s=⟨#[]⟩:=VX x
   go_enter func115,ntmps115;go_wp2;exact bodyPost_ret (LJ rfl rfl (CC w (U α 0) (U α 0) (U α 0) (U α 0) (U α 0) (γ none 0 0) (β ⟨#[]⟩))) rfl (OZ (en:=0) ⟨fun _=>⟨fun h=>absurd rfl h,fun _=>⟨rfl,JH⟩⟩,fun h=>absurd h (by decide),fun h=>absurd rfl h⟩ (Bn w _))
  ·have T:=ey x
   have Q:=Ab x;clear x;go_enter func115,ntmps115;go_wp2;exact bodyPost_ret (LJ rfl rfl (CC w (U α 0) (U α 0) (U α 0) (U α 0) (U α 0) (γ none 0 0) (β ⟨#[]⟩))) rfl (OZ (en:=3) ⟨fun _=>⟨fun _=>⟨rfl,JH⟩,fun h=>absurd h (Aa Q)⟩,fun h=>absurd h (by decide),fun h=>absurd rfl h⟩ (Bn w _))
 ·by_cases E:kd=2
  ·subst E
   rw[M8];have P:=Rj;have S:=Np;have H:=Ab (fun wx=>pC s wx O);have J:=Ab (CC w (U α 0) (U α 0) (U α 0) (U α 0) (U α 0) (γ none 0 0) (β ⟨#[]⟩));have y:=Ab (Bn w (.cells #[U α 0,U α 0,U α 0,U α 0,U α 0,γ none 0 0,β ⟨#[]⟩] 75));clear O;go_enter func115,ntmps115;go_wp2_with fail;refine(Aa H _).mono ?_;rintro e w1 ⟨o,l,k,z,h,a,n,c,xs,t,en,rfl,K,p,d,j⟩;have A:=Ab (p.mono (Aa y).size);have u:=Ab ((Aa J).below j);have B1:=Ab (Ad (Aa y) j);have I:=Ab K;have R:=Ab d;clear K p d j J y H;obtain⟨V,W,X,Y,Z,k5,k6⟩:=(Aa u).at;have f:=(Aa u).frz;go_wp2;have q:=Ab ((Aa u).sets (U α o) (U α l) (U α k) (U α z) (U α h) (γ a n c) (β t));have b:=Ab (Cv (Aa B1) (κ _) (U α o) (U α l) (U α k) (U α z) (U α h) (γ a n c) (β t));have r:=Ab ((Aa I).other7 ((Aa u).apart (Aa I)) (U α o) (U α l) (U α k) (U α z) (U α h) (γ a n c) (β t));exact bodyPost_ret (LJ rfl rfl (Aa q)) rfl ⟨o,l,k,z,h,a,n,c,xs,t,en,rfl,Aa r,Aa A,⟨fun h=>absurd h (by decide),fun _=>Aa R,fun _ h=>absurd rfl h⟩,Aa b⟩
  ·rw[Qo C E]
   have P:=Rm;have S:=Rl;go_enter func115,ntmps115;go_wp2;exact bodyPost_ret (LJ rfl rfl (CC w (U α 0) (U α 0) (U α 0) (U α 0) (U α 0) (γ none 0 0) (β ⟨#[]⟩))) rfl (OZ (en:=3) ⟨fun h=>absurd h C,fun h=>absurd h E,fun _ _=>⟨rfl,JH⟩⟩ (Bn w _))
end Go.Proofs.YtfpmnekaockodaaGreatDoor
