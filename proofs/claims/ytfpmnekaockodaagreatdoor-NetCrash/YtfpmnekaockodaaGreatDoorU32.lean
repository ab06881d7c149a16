/- Laws for the proof. -/
import Derived.Test.YtfpmnekaockodaaGreatDoorU31
set_option linter.all false
open Go.Proofs.Tryz
open Go.Value renaming int->U,pointer->δ,string->ν,slice->ξ
open Go.IntKind renaming i64->α
open Go.Proofs.Tryz renaming prog->β
open Option renaming some->γ,none->ε
open Go.RowKit.Below renaming refl->ζ
open Or renaming inl->η
open Go renaming World->θ,Calls->σ,Value->τ
open Go.Ending renaming returned->ι
open Go.RowKit renaming Below->κ
open List renaming getD_eq_getElem?_getD->μ,length_append->ο,length_singleton->ρ,getElem?_append_left->υ
open Nat renaming le_refl->π
open Ne renaming symm->ς
namespace Go.Proofs.YtfpmnekaockodaaGreatDoor
open Go.RowKit Go.Sort Go.Maps
set_option maxRecDepth 4000
set_option maxHeartbeats 8000000
def tkHh{P:Program}{ops:Array Oper}{Q:Exit->Act->θ->Prop}{S:θ->Prop}{md:Region.Mode}{i:Nat}{oi:Oper}{v:τ}{fuel:Nat}{listed:Array Bool}{a:Act}{w:θ}(hi:ops[i]?=γ oi)(hQ:∀c a w,Q (.panic c) (a.put oi.dst v) w->Q (.panic c) a w)(hy:YieldsIf P ops S oi v a)(hS:S w)(h:wpAnyH P md ops Q S fuel (listed.setIfInBounds i true) (a.put oi.dst v) w)(hs:Region.noSelect ops=true:=by kernel_rfl)(hf:Region.free md ops listed i=true:=by kernel_rfl)(hr:(Region.ready md ops listed).contains i=true:=by kernel_rfl):wpAnyH P md ops Q S (fuel+1) listed a w:=wpAnyH_take hi hs hf hr hQ hy hS h
def YJ(a:Addr)(w:θ):(binOp .eql 167 (.iface 200 (.pointer (γ a))) .nilIface).run β w=.ok (.bool false) w:=by kernel_rfl
def ZL(x:τ)(w:θ):(Instr.makeInterface 200 x).run β w=.ok (.iface 200 x) w:=run_makeInterface w 200 x (by kernel_rfl)
def pi (a : Addr) (w : θ) : (method 525 200 (.pointer (γ a)) "Len").run β w = .ok (342, .pointer (γ a)) w := by kernel_rfl
def pj (a : Addr) (w : θ) : (method 525 200 (.pointer (γ a)) "Put").run β w = .ok (343, .pointer (γ a)) w := by kernel_rfl
def pg (a : Addr) (w : θ) : (method 525 200 (.pointer (γ a)) "All").run β w = .ok (340, .pointer (γ a)) w := by kernel_rfl
def Tp(g gb B m:Nat)(t i:Int)(v:τ)(ps:List PKV)(w:θ)(h:AA w g gb B m t i v ps):
  σ β 86 #[.pointer (γ ⟨g,0,ε⟩)] w fun e w'=>e=ι (.bool false)/\w'=w:=by
 obtain⟨a,b,c⟩:=h.cells;have d:=YJ ⟨gb,0,ε⟩;clear h;go_enter func86,ntmps86;go_wp2;go_ret;exact⟨rfl,rfl⟩
def Tq(w:θ):σ β 86 #[δ none] w fun e w'=>e=ι (.bool true)/\w'=w:=by
 go_enter func86,ntmps86;go_wp2;go_ret;exact⟨rfl,rfl⟩
def ms(n t:Int)(w:θ):
  σ β 73 #[U α n,U α t] w fun e w'=> ∃g gb,e=ι (.pointer (γ ⟨g,0,ε⟩))/\AA w' g gb w.heap.size (capN n) (Gr t) 0 (ξ none 0 0) []/\κ w.heap.size w w':=by
 have j:=JJ t (-1099511627776);have h:=Iz (max t (-1099511627776)) 1099511627776;have i:=ZL;have c:min (max t (-1099511627776)) 1099511627776=Gr t:=rfl;rw[c]at h;clear c;generalize max t (-1099511627776)=k at*;go_enter func73,ntmps73;go_wp2_with (go_at_call 103;refine(lH n _).mono ?_;rintro e w1 ⟨rfl,d,b⟩;have f:=Ab d;have a:=Ab b;clear d b);go_ret;exact⟨_,_,rfl,cI _ (Aa f),(Aa a).alloc (Aa a).size _⟩
def LV(g gb B m:Nat)(t i:Int)(v:τ)(ps:List PKV)(w:θ)(h:AA w g gb B m t i v ps):
  σ β 56 #[.pointer (γ ⟨g,0,ε⟩)] w fun e w'=>e=ι (U α (ps.length:Int))/\w'=w:=by
 obtain⟨f,j,k⟩:=h.cells;have d:=pi ⟨gb,0,ε⟩;have c:=Ab (Tp g gb B m t i v ps w h);have b:=Ab (lG gb B m v ps w h.buf);clear h;go_enter func56,ntmps56
 go_wp2_with (first
  |(go_at_call 86;refine(Aa c).mono ?_;rintro e w1 ⟨rfl,a⟩;obtain rfl:=a.symm;clear a)
  |(go_at_call 342;refine(Aa b).mono ?_;rintro e w1 ⟨rfl,a⟩;obtain rfl:=a.symm;clear a))
 go_ret;exact⟨rfl,rfl⟩
def To(w:θ):σ β 56 #[δ none] w fun e w'=>e=ι (U α 0)/\w'=w:=by
 go_enter func56,ntmps56;go_wp2_with (go_at_call 86;refine(Tq _).mono ?_;rintro e w1 ⟨rfl,a⟩;obtain rfl:=a.symm;clear a);go_ret;exact⟨rfl,rfl⟩
def js(g gb B m:Nat)(t i:Int)(v:τ)(ps:List PKV)(w:θ)(h:AA w g gb B m t i v ps):
  σ β 58 #[.pointer (γ ⟨g,0,ε⟩)] w fun e w'=>e=ι (U α (ps.length:Int))/\w'=w:=by
 have b:=Ab (LV g gb B m t i v ps w h);clear h;go_enter func58,ntmps58;go_wp2_with (go_at_call 56;refine(Aa b).mono ?_;rintro e w1 ⟨rfl,a⟩;obtain rfl:=a.symm;clear a);go_ret;exact⟨rfl,rfl⟩
def jt(w:θ):σ β 58 #[δ none] w fun e w'=>e=ι (U α 0)/\w'=w:=by
 go_enter func58,ntmps58;go_wp2_with (go_at_call 56;refine(To _).mono ?_;rintro e w1 ⟨rfl,a⟩;obtain rfl:=a.symm;clear a);go_ret;exact⟨rfl,rfl⟩
def dT(w w':θ)(g gb B m:Nat)(t i:Int)(v:τ)(ps:List PKV)(p:PKV)(e:Ending):Prop:=
 e=ι (.bool (Du m (ps.map PKV.pd) p.pd))/\∃v' a,AA w' g gb B m t i v' a/\a.map PKV.pd=Il m (ps.map PKV.pd) p.pd/\Tu (GA g gb v) w w'/\Cq w v v'
def mu(g gb B m:Nat)(t i:Int)(v:τ)(ps:List PKV)(p:PKV)(w:θ)(ht:Tab w)(h:AA w g gb B m t i v ps)(S:∀w',Tu (GA g gb v) w w'->RowAt w' p.r.a p.r.n p.r.xs)(Z:p.r.n<=10)(hs:p.r.s.size<=1000):
  σ β 84 #[.pointer (γ ⟨g,0,ε⟩),p.val] w fun e w'=>dT w w' g gb B m t i v ps p e:=by
 have b:=Jh w p;have f:BkA 75 (w.alloc (.cells #[U α p.o,U α p.l,U α p.k,U α p.z,U α p.h,.slice p.r.a p.r.n p.r.c,ν p.r.s] 75)) w.heap.size p.cells:=AI 75 w p.cells;have X:=h.buf.lt
 have J:Hid (¬CO gb v w.heap.size):=Ab fun V=>by
  rcases V with e|e
  ·omega
  ·have:=(World.ownsRow.lt h.buf.own _ e).2;omega
 unfold PKV.val;generalize hW:w.alloc (.cells #[U α p.o,U α p.l,U α p.k,U α p.z,U α p.h,.slice p.r.a p.r.n p.r.c,ν p.r.s] 75)=W at*;have K:=Ab (fun wx (u:κ W.heap.size W wx)=>Tp g gb B m t i v ps wx ((h.below b).below u));have q:=fun wx (u:κ W.heap.size W wx)=>lI gb B m v ps p wx ((ht.below b).below u) ((h.below b).below u).buf (fun w' Q=>S w' ((XC Q).after (Ad b u))) Z hs;unfold PKV.val at q;have N:=Ab q;have O:=Ab (fun wx (u:κ W.heap.size W wx)=>(h.below b).below u);have T:=Ab f;have y:=Ab b;have Y:=pj ⟨gb,0,ε⟩;obtain⟨c0, -, -⟩:=(h.below b).cells;obtain⟨q0,q1,q2,q3,q4,q5,q6⟩:PkAt W w.heap.size (U α p.o) (U α p.l) (U α p.k) (U α p.z) (U α p.h) (.slice p.r.a p.r.n p.r.c) (ν p.r.s):=⟨f.at 0 rfl,f.at 1 rfl,f.at 2 rfl,f.at 3 rfl,f.at 4 rfl,f.at 5 rfl,f.at 6 rfl⟩;clear h f b S ht q;go_enter func84,ntmps84;go_wp2_with fail
 go_region_held3 (fun w'=>w'.cell? ⟨g,0,ε⟩=γ (.iface 200 (.pointer (γ ⟨gb,0,ε⟩)))/\w'.cell? ⟨w.heap.size,0,ε⟩=γ (U α p.o)/\w'.cell? ⟨w.heap.size,1,ε⟩=γ (U α p.l)/\w'.cell? ⟨w.heap.size,2,ε⟩=γ (U α p.k)/\w'.cell? ⟨w.heap.size,3,ε⟩=γ (U α p.z)/\w'.cell? ⟨w.heap.size,4,ε⟩=γ (U α p.h)/\w'.cell? ⟨w.heap.size,5,ε⟩=γ (.slice p.r.a p.r.n p.r.c)/\w'.cell? ⟨w.heap.size,6,ε⟩=γ (ν p.r.s)) (go_keep) (first
  |(go_at_call 86;refine(Aa K _ (ζ _ _).drew).mono ?_;rintro e w1 ⟨rfl,E⟩;obtain rfl:=E.symm;clear E)
  |(go_at_call 343;refine(Aa N _ (ζ _ _).drew).mono ?_;rintro e w2 ⟨rfl,v2,R,A,D,d,C⟩;have x:=(Aa O _ (ζ _ _).drew).bufs A d;have H:=Ab x;have L:=Ab D;have P:=Ab d;have I:=Ab C;obtain⟨e0, -, -⟩:=x.cells;have j:=((Aa T).below (ζ _ _).drew).tu d (Aa J);obtain⟨y0,y1,y2,y3,y4,y5,y6⟩:PkAt w2 w.heap.size (U α p.o) (U α p.l) (U α p.k) (U α p.z) (U α p.h) (.slice p.r.a p.r.n p.r.c) (ν p.r.s):=⟨j.at 0 rfl,j.at 1 rfl,j.at 2 rfl,j.at 3 rfl,j.at 4 rfl,j.at 5 rfl,j.at 6 rfl⟩;clear x D d C j A))
 go_wp2;go_ret;exact⟨rfl,v2,R,Aa H,Aa L,(XC (Aa P)).after (Ad (Aa y) (ζ _ _).drew),(Aa I).new (Aa y).size⟩
def Z7{o l k z h:Int}{xs:List Nat}{n:Nat}(a:Cd o l k z h xs n):Cd o l k z 0 xs n:=
 ⟨⟨a.1.1,a.1.2.1,a.1.2.2.1,by decide,by decide⟩,a.2⟩
def kV{o l k z h:Int}{xs:List Nat}{s:ByteArray}(a:Cd o l k z h xs s.size):(st (BJ o l k z h xs (tx s))).size<=1048576:=by
 have b:=L7 a.2.1;have c:s.size<=64:=by have:=a.2.2.2;have:=a.1.1.2.2;omega
 rw[Dq];unfold BJ;simp only[ο,Fy,D9,CX,JA,AR];omega
def Y8(o l k z h:Int)(xs:List Nat)(s:ByteArray):sumS (st (BJ o l k z h xs (tx s)))=Jt (BJ o l k z h xs (tx s)):=by
 unfold sumS;rw[Dv (Ko _ _ _ _ _ _ _ (Cg s))]
def Q3(p:PKV)(w:θ)(m:RowAt w p.r.a p.r.n p.r.xs):
  σ β 124 #[p.val] w fun e w'=>e=ι (U .u32 ((Dj p.pd:Nat):Int))/\κ w.heap.size w w':=by
 obtain⟨o,l,k,z,h,⟨a,n,c,xs,s⟩⟩:=p;have u:=Ab (Bn w (.cells #[U α o,U α l,U α k,U α z,U α h,ξ a n c,ν s] 75));have x:=Ab (AI 75 w [U α o,U α l,U α k,U α z,U α h,ξ a n c,ν s]);have v:=Ab m;unfold PKV.val;cases g:BM (PKV.pd ⟨o,l,k,z,h,⟨a,n,c,xs,s⟩⟩)
 ·have i:=Ab (ES o l k z h a n c xs s _ (GP m (.cells #[U α o,U α l,U α k,U α z,U α h,ξ a n c,ν s] 75)) 1 (Qq g))
  rw[bY g];clear m g v x;go_enter func124,ntmps124;go_wp2_with fail;refine(Aa i).mono ?_;rintro e w1 ⟨rfl,b⟩;have B1:=Ab (Ad (Aa u) b);clear b i u;go_wp2;go_ret;exact⟨rfl,Aa B1⟩
 ·have C:Cd o l k z h xs s.size:=Gp.1 g
  have f:=Z7 C;have i:=Ab (ES o l k z h a n c xs s _ (GP m (.cells #[U α o,U α l,U α k,U α z,U α h,ξ a n c,ν s] 75)) 0 (MJ g));have E:=Ab (fun w' (y:RowAt w' a n xs)=>WJ o l k z 0 a n c xs s w' y f);have I:=Ab (fun w'=>Va (st (BJ o l k z 0 xs (tx s))) w' (kV f));have H:=Ab (show sumS (st (BJ o l k z 0 xs (tx s)))=Dj (PKV.pd ⟨o,l,k,z,h,⟨a,n,c,xs,s⟩⟩) from by rw[Zo g,Y8];rfl);generalize Dj (PKV.pd ⟨o,l,k,z,h,⟨a,n,c,xs,s⟩⟩)=X at*;generalize sumS (st (BJ o l k z 0 xs (tx s)))=Y at*;generalize st (BJ o l k z 0 xs (tx s))=T at*;clear m g C f;go_enter func124,ntmps124;go_wp2_with fail;refine(Aa i).mono ?_;rintro e w1 ⟨rfl,b⟩;have B1:=Ab (Ad (Aa u) b);have d:=(Aa x).below b;have K:=d.at 0 rfl;have L:=d.at 1 rfl;have N:=d.at 2 rfl;have O:=d.at 3 rfl;have P:=d.at 4 rfl;have Q:=d.at 5 rfl;have R:=d.at 6 rfl;have S:=d.frz 4;have A:=Ab (GY (Aa B1) (A8 w1 w.heap.size 4 (U α 0)) (π _));have J:=Ab ((Aa v).below (Aa A));clear b i u x v B1 d
  go_wp2_with (first
   |(go_at_call 156;refine(Aa E _ (Aa J)).mono ?_;rintro e w3 ⟨rfl,j⟩;have D:=Ab (Ad (Aa A) j);clear j)
   |(go_at_call 157;refine(Aa I _).mono ?_;rintro e V ⟨rfl,q⟩;obtain rfl:=q.symm;clear q)
   |fail)
  go_ret;exact⟨Cu (by rw[Aa H]),Aa D⟩
def ZS{w:θ}{b n nx:Nat}{D:DataW Unit}{d:List (Nat×Nat)}(h:AY w b n D)(e:Ep D nx d){x:Nat}(g:x<4294967296):
  ∃c:Int,(Instr.lookup 191 (.map (γ b)) (U .u32 (x:Int)) true).run β w=.ok (.tuple #[U α c,.bool (Dz (d.map Prod.fst) x)]) w:=by
 obtain⟨v,ps,a,f⟩:=World.ownsMap.look_ok h Kc underlying191 (bQ w) (zd:=.lit (.int α 0)) (zp:=[]) (plainElem_int underlying3 (by decide)) (Nu g);obtain⟨c,rfl,_⟩:=plainElem_int_inv underlying3 f;exact⟨c,by rw[a,e.has]⟩
def IF(F:Nat->Prop)(w:θ):Tu F w w.drew:=⟨rfl,rfl,rfl,π _,fun _ _ _=>rfl⟩
def oC(n:Int)(w:θ):
  σ β 71 #[U α n] w fun e w'=> ∃g b,e=ι (.pointer (γ ⟨g,0,ε⟩))/\w.heap.size<=g/\w.heap.size<=b/\AW w' g b (capN n) 0 []/\κ w.heap.size w w':=by
 have d:=MV n;have f:=MI n;have h:= @run_makeMap β;have c:=JS n;generalize capN n=m at*;go_enter func71,ntmps71;go_wp2;go_ret
 have a:κ w.heap.size w ((w.alloc (.map #[] 0)).alloc (.cells #[U α (m:Int),.map (γ w.heap.size),U α 0] 193)):=
  ((ζ _ _).alloc (π _) _).trans (((ζ _ _).alloc (π _) _).mono (by simp))
 refine⟨_,w.heap.size,rfl,by simp,π _,⟨⟨0,[],.map [],π _,?_,?_,Ep.empty,rfl⟩,Nat.zero_le _,c⟩,a⟩
 ·have:=AI 193 (w.alloc (.map #[] 0)) [U α (m:Int),.map (γ w.heap.size),U α 0]
  simpa using this
 ·exact World.ownsMap.alloc (World.ownsMap_made w β 112 (plainElem β 3)) _
def mb(g b m N:Nat)(L:List Nat)(p:PKV)(w:θ)(h:AW w g b m N L)(J:RowAt w p.r.a p.r.n p.r.xs):
  σ β 122 #[.pointer (γ ⟨g,0,ε⟩),p.val] w fun e w'=>e=ι (.bool (Dz L (Dj p.pd)))/\κ w.heap.size w w':=by
 have i:κ w.heap.size w (w.alloc (.cells #[U α p.o,U α p.l,U α p.k,U α p.z,U α p.h,.slice p.r.a p.r.n p.r.c,ν p.r.s] 75)):=Bn w _;have f:=AI 75 w [U α p.o,U α p.l,U α p.k,U α p.z,U α p.h,.slice p.r.a p.r.n p.r.c,ν p.r.s];have u:=J.below i;obtain⟨nx,T,D,V,y,I,H,E⟩:=(h.below i).it;unfold PKV.val;generalize hW:w.alloc (.cells #[U α p.o,U α p.l,U α p.k,U α p.z,U α p.h,.slice p.r.a p.r.n p.r.c,ν p.r.s] 75)=W at*;have P:=y.at 1 rfl;have Y:=f.at 0 rfl;have Z:=f.at 1 rfl;have q2:=f.at 2 rfl;have q3:=f.at 3 rfl;have q4:=f.at 4 rfl;have q5:=f.at 5 rfl;have q6:=f.at 6 rfl;have C:=Ab (Q3 p W.drew u);have A:=Ab (fun w1 (v:κ W.drew.heap.size W.drew w1)=>ZS (AY.tu (F:=fun _=>False) I (Tu.of_below (show κ W.heap.size W w1 from(ζ _ _).drew.trans v)) id) H (QJ p.pd));have O:=Ab (fun w1 (v:κ W.drew.heap.size W.drew w1)=>show _/\_ from⟨y.below (show κ W.heap.size W w1 from(ζ _ _).drew.trans v),f.below (show κ W.heap.size W w1 from(ζ _ _).drew.trans v)⟩);have K:=Ab i;rw[<-E]at A;generalize Dj p.pd=X at*;generalize Dz L X=R at*;unfold PKV.val at C;clear J u y I H E i f h;go_enter func122,ntmps122;go_wp2_with fail
 go_region_held (fun w'=>w'.cell? ⟨g,1,ε⟩=γ (.map (γ b))/\w'.cell? ⟨w.heap.size,0,ε⟩=γ (U α p.o)/\w'.cell? ⟨w.heap.size,1,ε⟩=γ (U α p.l)/\w'.cell? ⟨w.heap.size,2,ε⟩=γ (U α p.k)/\w'.cell? ⟨w.heap.size,3,ε⟩=γ (U α p.z)/\w'.cell? ⟨w.heap.size,4,ε⟩=γ (U α p.h)/\w'.cell? ⟨w.heap.size,5,ε⟩=γ (.slice p.r.a p.r.n p.r.c)/\w'.cell? ⟨w.heap.size,6,ε⟩=γ (ν p.r.s)) (go_keep) (first
  |(go_at_call 124;refine(Aa C).mono ?_;rintro e w1 ⟨rfl,j⟩;obtain⟨S,Q⟩:=Aa A w1 j;obtain⟨q,d⟩:=Aa O w1 j;have y1:=q.at 1 rfl;have z0:=d.at 0 rfl;have z1:=d.at 1 rfl;have z2:=d.at 2 rfl;have z3:=d.at 3 rfl;have z4:=d.at 4 rfl;have z5:=d.at 5 rfl;have z6:=d.at 6 rfl;have x:=Ab (show κ w.heap.size w w1 from Ad (Aa K) ((ζ _ _).drew.trans j));clear j q d))
 go_wp2;go_ret;exact⟨rfl,Aa x⟩
variable {B:Nat}{p:Bi}{s:AU}{w w':θ}
def TT:(Tryz.prog.info? 110).map (·.size)=γ 8:=by kernel_rfl
def er{tmps:Array τ}{W:θ}{g:Nat}{cs:List τ}(c:tmps.getD 4 undef=.pointer (γ ⟨g,0,ε⟩))(e:BkA 110 W g cs)(d:cs.length=8):
  (results Tryz.f38 tmps).run β W=.ok (.agg cs.toArray) W:=by
 have b:=e.load underlying110 rfl TT d;have a:tmps[4]?.getD undef=.pointer (γ ⟨g,0,ε⟩):=by simpa using c
 simp[results,Tryz.results38,asAddr,a,b]
def oq(a:Option Addr)(n c:Nat)(xs:List Int)(w:θ)(h:IntzAt w a n xs)(i:n<=1048576)(f:a=ε->n=0/\c=0):
  σ β 68 #[ξ a n c] w fun e w'=> ∃v,e=ι v/\Am w' w.heap.size v xs/\κ w.heap.size w w':=by
 cases a with
 |none=>
  obtain⟨rfl,rfl⟩:=f rfl;obtain rfl:xs=[]:=List.eq_nil_of_length_eq_zero h.1;exact(iK w).mono fun e w' ⟨g,b⟩=>⟨_,g,by rw[b];exact World.ownsRow_nil _ _ _ _,by rw[b];exact ζ _ _⟩
 |some d=>exact Sr d n c xs w h i
def iY(f:A1)(i:Nat)(d:Er)(w:θ)(h:BD w f.a f.n f.ds)(D:i<f.n)(I:f.ds.getD i .dflt=d)(T:d.n<=1048576)(P:d.a=ε->d.n=0/\d.c=0):
  σ β 38 #[f.val,U α (i:Int)] w fun e w'=> ∃tv,e=ι (.agg #[U α d.kd,U α f.buffer,U α f.queue,U α f.cache,U α f.timeout,U α f.target,.float .f64 f.rate,tv])/\Am w' w.heap.size tv d.tos/\κ w.heap.size w w':=by
 obtain⟨b,off,Q,z⟩:=h.at D;have c0:=(z i D).1;have c1:=(z i D).2;have L:=h.2.1 i D;rw[I]at c0 c1 L;have N:=Ab (fun wx (hb:κ w.heap.size w wx)=>oq d.a d.n d.c d.tos wx (L.below hb) T P);have y:b<w.heap.size:=World.block_lt_of_cell? w _ c0;clear z L P T h;obtain⟨a,n,c,ds,obj,size,spread,buffer,queue,cache,rate,timeout,target⟩:=f;obtain⟨kd,a',n',c',tos⟩:=d;simp only at Q D c0 c1 N I⊢;subst Q;clear I;have V:(i:Int)<(n:Int):=by omega
 unfold A1.val
 obtain⟨W,hW,X,Y,B1⟩:∃W,W=(w.alloc (.cells #[.slice (γ ⟨b,off,ε⟩) n c,ν obj,U α size,U α spread,U α buffer,U α queue,U α cache,.float .f64 rate,U α timeout,U α target] 25)).alloc (.cells #[U α 0,U α 0,U α 0,U α 0,U α 0,U α 0,.float .f64 0,ξ none 0 0] 110)/\
   BkA 110 W (w.heap.size+1) [U α 0,U α 0,U α 0,U α 0,U α 0,U α 0,.float .f64 0,ξ none 0 0]/\BkA 25 W w.heap.size [.slice (γ ⟨b,off,ε⟩) n c,ν obj,U α size,U α spread,U α buffer,U α queue,U α cache,.float .f64 rate,U α timeout,U α target]/\κ w.heap.size w W:=by
  refine⟨_,rfl,?_,(AI 25 w [_,_,_,_,_,_,_,_,_,_]).below (As _ _),Ad (As _ _) (As _ _)⟩;have:=AI 110 (w.alloc (.cells #[.slice (γ ⟨b,off,ε⟩) n c,ν obj,U α size,U α spread,U α buffer,U α queue,U α cache,.float .f64 rate,U α timeout,U α target] 25)) [U α 0,U α 0,U α 0,U α 0,U α 0,U α 0,.float .f64 0,ξ none 0 0];rwa[A7]at this
 have Z:=Ab Y;have O:=Ab X;have E:=Ab B1;replace c0:=(B1.cell y).trans c0;replace c1:=(B1.cell y).trans c1;have y0:=Y.at 0 rfl;have y4:=Y.at 4 rfl;have y5:=Y.at 5 rfl;have y6:=Y.at 6 rfl;have y7:=Y.at 7 rfl;have y8:=Y.at 8 rfl;have y9:=Y.at 9 rfl;have aa:=Y.lt;have u:b<W.heap.size:=Nat.lt_of_lt_of_le y B1.size;have l:w.heap.size+1≠w.heap.size:=by omega
 have ab:w.heap.size<w.heap.size+1:=by omega
 have x:w.heap.size+1≠b:=by omega
 clear X Y B1;go_enter func38,ntmps38;go_wp2_with fail;rw[<-hW];clear hW;generalize w.heap.size+1=q at*;refine wp_region_held_drew (S:=fun w'=>w'.cell? ⟨w.heap.size,0,ε⟩=γ (.slice (γ ⟨b,off,ε⟩) n c)/\w'.cell? ⟨w.heap.size,4,ε⟩=γ (U α buffer)/\w'.cell? ⟨w.heap.size,5,ε⟩=γ (U α queue)/\w'.cell? ⟨w.heap.size,6,ε⟩=γ (U α cache)/\w'.cell? ⟨w.heap.size,7,ε⟩=γ (.float .f64 rate)/\w'.cell? ⟨w.heap.size,8,ε⟩=γ (U α timeout)/\w'.cell? ⟨w.heap.size,9,ε⟩=γ (U α target)/\w'.cell? ⟨b,off+i*2,ε⟩=γ (U α kd)/\w'.cell? ⟨b,off+i*2+1,ε⟩=γ (ξ a' n' c')) (by kernel_rfl) ?_ (fun r=>?_)
 ·go_keep
 refine tkHh (i:=0) (v:=?_) rfl (fun _ _ _ h=>h) (η ⟨by rfl,?f0⟩) (by assumption) ?_
 case f0=>(intro w g;(try dsimp only at g);go_simp;try with_reducible rfl)
 refine tkHh (i:=1) (v:=?_) rfl (fun _ _ _ h=>h) (η ⟨by rfl,?f1⟩) (by assumption) ?_
 case f1=>(intro w g;(try dsimp only at g);go_simp;try with_reducible rfl)
 refine tkHh (i:=2) (v:=?_) rfl (fun _ _ _ h=>h) (η ⟨by rfl,?f2⟩) (by assumption) ?_
 case f2=>(intro w g;(try dsimp only at g);go_simp;try with_reducible rfl)
 refine tkHh (i:=3) (v:=?_) rfl (fun _ _ _ h=>h) (η ⟨by rfl,?f3⟩) (by assumption) ?_
 case f3=>(intro w g;(try dsimp only at g);go_simp;try with_reducible rfl)
 refine tkHh (i:=4) (v:=?_) rfl (fun _ _ _ h=>h) (η ⟨by rfl,?f4⟩) (by assumption) ?_
 case f4=>(intro w g;(try dsimp only at g);go_simp;try with_reducible rfl)
 refine tkHh (i:=5) (v:=?_) rfl (fun _ _ _ h=>h) (η ⟨by rfl,?f5⟩) (by assumption) ?_
 case f5=>(intro w g;(try dsimp only at g);go_simp;try with_reducible rfl)
 refine tkHh (i:=6) (v:=?_) rfl (fun _ _ _ h=>h) (η ⟨by rfl,?f6⟩) (by assumption) ?_
 case f6=>(intro w g;(try dsimp only at g);go_simp;try with_reducible rfl)
 refine tkHh (i:=7) (v:=?_) rfl (fun _ _ _ h=>h) (η ⟨by rfl,?f7⟩) (by assumption) ?_
 case f7=>(intro w g;(try dsimp only at g);go_simp;try with_reducible rfl)
 refine tkHh (i:=8) (v:=?_) rfl (fun _ _ _ h=>h) (η ⟨by rfl,?f8⟩) (by assumption) ?_
 case f8=>(intro w g;(try dsimp only at g);go_simp;try with_reducible rfl)
 refine tkHh (i:=9) (v:=?_) rfl (fun _ _ _ h=>h) (η ⟨by rfl,?f9⟩) (by assumption) ?_
 case f9=>(intro w g;(try dsimp only at g);go_simp;try with_reducible rfl)
 refine tkHh (i:=10) (v:=?_) rfl (fun _ _ _ h=>h) (η ⟨by rfl,?f10⟩) (by assumption) ?_
 case f10=>(intro w g;(try dsimp only at g);go_simp;try with_reducible rfl)
 refine tkHh (i:=11) (v:=?_) rfl (fun _ _ _ h=>h) (η ⟨by rfl,?f11⟩) (by assumption) ?_
 case f11=>(intro w g;(try dsimp only at g);go_simp;try with_reducible rfl)
 refine tkHh (i:=12) (v:=?_) rfl (fun _ _ _ h=>h) (η ⟨by rfl,?f12⟩) (by assumption) ?_
 case f12=>(intro w g;(try dsimp only at g);go_simp;try with_reducible rfl)
 refine tkHh (i:=13) (v:=?_) rfl (fun _ _ _ h=>h) (η ⟨by rfl,?f13⟩) (by assumption) ?_
 case f13=>(intro w g;(try dsimp only at g);go_simp;try with_reducible rfl)
 refine tkHh (i:=14) (v:=?_) rfl (fun _ _ _ h=>h) (η ⟨by rfl,?f14⟩) (by assumption) ?_
 case f14=>(intro w g;(try dsimp only at g);go_simp;try with_reducible rfl)
 refine tkHh (i:=15) (v:=?_) rfl (fun _ _ _ h=>h) (η ⟨by rfl,?f15⟩) (by assumption) ?_
 case f15=>(intro w g;(try dsimp only at g);go_simp;try with_reducible rfl)
 refine tkHh (i:=16) (v:=?_) rfl (fun _ _ _ h=>h) (η ⟨by rfl,?f16⟩) (by assumption) ?_
 case f16=>(intro w g;(try dsimp only at g);go_simp;try with_reducible rfl)
 refine tkHh (i:=17) (v:=?_) rfl (fun _ _ _ h=>h) (η ⟨by rfl,?f17⟩) (by assumption) ?_
 case f17=>(intro w g;(try dsimp only at g);go_simp;try with_reducible rfl)
 refine tkHh (i:=18) (v:=?_) rfl (fun _ _ _ h=>h) (η ⟨by rfl,?f18⟩) (by assumption) ?_
 case f18=>(intro w g;(try dsimp only at g);go_simp;try with_reducible rfl)
 refine tkHh (i:=19) (v:=?_) rfl (fun _ _ _ h=>h) (η ⟨by rfl,?f19⟩) (by assumption) ?_
 case f19=>(intro w g;(try dsimp only at g);go_simp;try with_reducible rfl)
 refine tkHh (i:=20) (v:=?_) rfl (fun _ _ _ h=>h) (η ⟨by rfl,?f20⟩) (by assumption) ?_
 case f20=>(intro w g;(try dsimp only at g);go_simp;try with_reducible rfl)
 refine tkHh (i:=21) (v:=?_) rfl (fun _ _ _ h=>h) (η ⟨by rfl,?f21⟩) (by assumption) ?_
 case f21=>(intro w g;(try dsimp only at g);go_simp;try with_reducible rfl)
 refine tkHh (i:=22) (v:=?_) rfl (fun _ _ _ h=>h) (η ⟨by rfl,?f22⟩) (by assumption) ?_
 case f22=>(intro w g;(try dsimp only at g);go_simp;try with_reducible rfl)
 refine tkHh (i:=23) (v:=?_) rfl (fun _ _ _ h=>h) (η ⟨by rfl,?f23⟩) (by assumption) ?_
 case f23=>(intro w g;(try dsimp only at g);go_simp;try with_reducible rfl)
 refine wpAnyH_ready (rs:=[24]) (by kernel_rfl) (by simp) ?_;refine AllReadyH.cons rfl (fun K C=>?_) AllReadyH.nil;go_simp;refine(Aa N _ ((Aa E).trans (ζ _ _).drew)).mono ?_;rintro e w5 ⟨v,rfl,A,H⟩;obtain⟨av,cv,rfl, -⟩:=A.ints;have k:κ W.heap.size W w5:=(ζ _ _).drew.trans H;have o:=(Aa Z).below k;have X5:=(Aa O).below k;refine C.out _ _ ?_ (fun r=>?_)
 ·exact⟨o.at 0 rfl,o.at 4 rfl,o.at 5 rfl,o.at 6 rfl,o.at 7 rfl,o.at 8 rfl,o.at 9 rfl,(k.cell (p:=⟨b,off+i*2,ε⟩) u).trans c0,(k.cell (p:=⟨b,off+i*2+1,ε⟩) u).trans c1⟩
 clear C K;refine tkHh (i:=25) (v:=?_) rfl (fun _ _ _ h=>h) (η ⟨by rfl,?f25⟩) (by assumption) ?_
 case f25=>(intro w g;(try dsimp only at g);go_simp;try with_reducible rfl)
 refine wpAnyH_ready (rs:=[26]) (by kernel_rfl) (by simp) ?_;refine AllReadyH.cons rfl (fun K C=>?_) AllReadyH.nil;refine Oa rfl 110 110 TT (.tmp 4) (.tmp 30) rfl q 0 _ [U α kd,U α buffer,U α queue,U α cache,U α timeout,U α target,.float .f64 rate,.slice av tos.length cv] rfl rfl X5 rfl (show 0+8<=8 by decide) (by simp[Value.oneCell']) fun w6 J m=>?_;refine C.out _ _ ?_ (fun r=>?_)
 ·exact⟨m.cell (o.at 0 rfl) (ς l),m.cell (o.at 4 rfl) (ς l),m.cell (o.at 5 rfl) (ς l),m.cell (o.at 6 rfl) (ς l),m.cell (o.at 7 rfl) (ς l),m.cell (o.at 8 rfl) (ς l),m.cell (o.at 9 rfl) (ς l),m.cell ((k.cell (p:=⟨b,off+i*2,ε⟩) u).trans c0) (ς x),m.cell ((k.cell (p:=⟨b,off+i*2+1,ε⟩) u).trans c1) (ς x)⟩
 clear C K;refine wpAnyH_done (by kernel_rfl) ?_ _;go_wp2;have ac:q<W.heap.size:=(Aa O).lt;refine bodyPost_ret (er rfl J rfl) rfl ⟨_,rfl,?_,?_⟩
 ·have:=Cj A m fun j R e=>by
   have:=(C9 A R).1;have:W.heap.size<=j:=this;omega
  exact Am.mono (show Am w6 W.heap.size _ _ from this) (Aa E).size
 ·exact(Ad (Aa E) k).trans (m.below (Ad (Aa E) k).size fun j R e=>by omega)
def Ag.push{w1 w2:θ}(h:Ag w B p s)(x:κ w.heap.size w w1){l:AH}(D:l.At w1 p.M p.queue)(A:∀j,l.F j->w.heap.size<=j)(H:B<=w.heap.size){v:τ}
  (K:Bh w2 B v (s.ls++[l])) (I:w1.grownBy w2 s.lv.ownBlock):Ag w2 B p {s with lv:=v,ls:=s.ls++[l]}:=by
 have g:=h.below x;have ht:Tu (fun j=>s.lv.ownBlock=γ j) w1 w2:=Tu.of_gb I fun j _ e=>e;have n:∀j,s.lv.ownBlock=γ j->kdB w1 j=150+2:=fun j e=>Bc g.lks e
 have q:∀i,i<s.ls.length->∀j,(s.ls.getD i .dflt).F j->j<w.heap.size:=fun i o j a=>by
  have:=Au.lt (h.each i o).1;rcases a with rfl|rfl|rfl|rfl<;>omega
 have c:∀i,i<s.ls.length->(s.ls++[l]).getD i .dflt=s.ls.getD i .dflt:=fun i o=>by simp[μ,υ o]
 have b:(s.ls++[l]).getD s.ls.length .dflt=l:=by simp[μ]
 refine⟨K,?_,?_,g.mem.tu ht (fun e=>by have:=g.mem.blk.kd;have:=n _ e;omega),h.memlo,g.ca.tu ht (fun e=>by have:=g.ca.kd _ (.inl rfl);have:=n _ e;omega) (fun e=>by have:=g.ca.kd _ (.inr rfl);have:=n _ e;omega),h.calo,
  fun r E=>(g.rl r E).tu ht (fun j a e=>by have:=(g.rl r E).kd j a;have:=n _ e;omega) fun j u y e=>(by have:=Ef y;have:=n _ e;omega),
  fun d C=>(g.dc d C).tu ht (fun j a e=>by have:=(g.dc d C).kd j a;have:=n _ e;omega) fun j u y e=>(by have:=Ef y;have:=n _ e;omega)⟩
 ·intro i o
  rw[ο,ρ]at o;by_cases e:i<s.ls.length
  ·rw[c i e]
   exact⟨(g.each i e).1.tu ht fun j a m=>by have:=(g.each i e).1.kd j a;have:=n _ m;omega,(h.each i e).2⟩
  ·obtain rfl:i=s.ls.length:=by omega
   rw[b];exact⟨D.tu ht fun j a m=>by have:=Au.kd D j a;have:=n _ m;omega,fun j a=>Nat.le_trans H (A j a)⟩
 ·intro i k o J z j a f
  rw[ο,ρ]at o J;by_cases e:i<s.ls.length
  ·rw[c i e]at a
   by_cases m:k<s.ls.length
   ·rw[c k m]at f
    exact h.apart i k e m z j a f
   ·obtain rfl:k=s.ls.length:=by omega
    rw[b]at f;have:=q i e j a;have:=A j f;omega
  ·obtain rfl:i=s.ls.length:=by omega
   rw[b]at a;have m:k<s.ls.length:=by omega
   rw[c k m]at f;have:=q k m j f;have:=A j a;omega
def Ag.addR(h:Ag w B p s)(b:κ w.heap.size w w')(r:Gc)(c:AA w' r.g r.gb B (capN p.buffer) (Gr p.target) r.i r.v r.ps):Ag w' B p {s with rl:=γ r}:=by
 have a:=h.below b;exact⟨a.lks,a.each,a.apart,a.mem,a.memlo,a.ca,a.calo,fun x d=>(by cases d;exact c),a.dc⟩
def Ag.addD(h:Ag w B p s)(b:κ w.heap.size w w')(d:Fb)(c:Ao w' d.g B p.buffer d.s d.gs d.v d.rs):Ag w' B p {s with dc:=γ d}:=by
 have a:=h.below b;exact⟨a.lks,a.each,a.apart,a.mem,a.memlo,a.ca,a.calo,a.rl,fun x e=>(by cases e;exact c)⟩
def IZ:(Tryz.prog.info? 120).map (·.size)=γ 5:=by kernel_rfl
def NN{tmps:Array τ}{W:θ}{g:Nat}{cs:List τ}(c:tmps.getD 2 undef=.pointer (γ ⟨g,0,ε⟩))(e:BkA 120 W g cs)(d:cs.length=5):
  (results Tryz.f40 tmps).run β W=.ok (.agg cs.toArray) W:=by
 have b:=e.load underlying120 rfl IZ d;have a:tmps[2]?.getD undef=.pointer (γ ⟨g,0,ε⟩):=by simpa using c
 simp[results,Tryz.results40,asAddr,a,b]
def Qj(p:Bi)(s:AU):Prop:=(∀i,i<s.ls.length->(s.ls.getD i .dflt).lv=1000*Bu p.queue 1 256/\(s.ls.getD i .dflt).L=[]/\(s.ls.getD i .dflt).lo=0)/\s.Z=List.replicate 16 0/\s.N=0/\s.P=[]
def Gx(p:Bi)(s:AU):Prop:=Qj p s/\((p.kd=2/\s.dc=ε/\∃r,s.rl=γ r/\r.i=0/\r.ps=[])\/(p.kd=3/\s.rl=ε/\∃d,s.dc=γ d/\d.s=CQ/\d.rs=[])\/(p.kd≠2/\p.kd≠3/\s.rl=ε/\s.dc=ε))
structure GC(w wr:θ)(q:Nat)(p:Bi)(s:AU):Prop where
 box:BkA 110 wr w.heap.size (Lw p)
 res:BkA 120 wr (w.heap.size+1) [ξ none 0 0,δ none,δ none,δ none,δ none]
 blk:BkA 120 wr q (E8 s)
 qlo:w.heap.size+1<q
 here:Ag wr w.heap.size p s
 low:κ w.heap.size w wr
 fr:Qj p s
 no:s.rl=ε/\s.dc=ε
def GC.tu{wr:θ}{q:Nat}{a:AU}(h:GC w wr q p s){F:Nat->Prop}(ht:Tu F wr w')(b:∀j,F j->j=q\/sttF s j)(d:BkA 120 w' q (E8 a))(i:Ag w' w.heap.size p a)(f:Qj p a)(g:a.rl=ε/\a.dc=ε):GC w w' q p a:=by
 have c:=h.here.kd;have kd:=h.qlo;refine⟨h.box.tu ht fun e=>?_,h.res.tu ht fun e=>?_,d,h.qlo,i,h.low.trans (ht.below h.low.size fun j k e=>?_),f,g⟩
 ·rcases b _ e with e|e
  ·omega
  ·have:=c _ e;have:=h.box.kd;omega
 ·rcases b _ e with e|e
  ·omega
  ·have:=c _ e;have:=h.res.kd;omega
 ·rcases b _ e with e|e
  ·omega
  ·have:=h.here.low _ e;omega
def GC.push{wr w1 w2 w3:θ}{q:Nat}(h:GC w wr q p s)(b:κ wr.heap.size wr w1){l:AH}(A:l.At w1 p.M p.queue)(C:∀j,l.F j->wr.heap.size<=j)(y:l.lv=1000*Bu p.queue 1 256/\l.L=[]/\l.lo=0){v:τ}
  (a:κ w1.heap.size w1 w2) (D:Bh w3 w.heap.size v (s.ls++[l])) (g:w2.grownBy w3 s.lv.ownBlock):GC w (w3.setCell ⟨q,0,ε⟩ v) q p {s with lv:=v,ls:=s.ls++[l]}:=by
 have u:w.heap.size<=wr.heap.size:=h.low.size;have k:l.At w2 p.M p.queue:=Au.below A a;have n:=h.here.push (Ad b a) k C u D g;have c:=h.blk.below (Ad b a);have f:=(h.here.below (Ad b a)).lks;have m:γ q≠s.lv.ownBlock:=fun e=>by have:=Bc f e.symm;have:=c.kd;omega
 have d:=c.kept g m;have r:=A8 w3 q 0 v;have H:=n.kd;have E:=d.kd
 have x:Tu (fun j=>j=q\/sttF s j) wr (w3.setCell ⟨q,0,ε⟩ v):=
  ((Tu.of_below (F:=fun j=>j=q\/sttF s j) (Ad b a)).trans (Tu.of_gb (F:=fun j=>s.lv.ownBlock=γ j) g fun j _ e=>e) fun j _ e=>.inr (.inl e)).trans r fun j _ e=>.inl e
 refine h.tu x (fun j e=>e) (d.set 0 v) (n.tu r (fun j o e=>by have:=H j o;subst e;omega) fun j o e=>by subst e;omega) ⟨fun i z=>?_,h.fr.2⟩ h.no;rw[ο,ρ]at z;by_cases e:i<s.ls.length
 ·rw[show(s.ls++[l]).getD i .dflt=s.ls.getD i .dflt by simp[μ,υ e]]
  exact h.fr.1 i e
 ·obtain rfl:i=s.ls.length:=by omega
  rw[show(s.ls++[l]).getD s.ls.length .dflt=l by simp[μ]];exact y
end Go.Proofs.YtfpmnekaockodaaGreatDoor
