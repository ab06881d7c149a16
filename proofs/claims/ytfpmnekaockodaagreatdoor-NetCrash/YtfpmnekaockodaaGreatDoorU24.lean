/- Laws for the proof. -/
import Derived.Test.YtfpmnekaockodaaGreatDoorU23
set_option linter.all false
open Go.Proofs.Tryz
open Go.Value renaming int->U,slice->β,string->γ,pointer->ω
open Go.IntKind renaming i64->α,u64->φ
open List renaming getD_eq_getElem?_getD->δ,getElem?_eq_getElem->θ,foldl_map->ρ,length_drop->σ,mem_of_mem_drop->Α,getElem?_drop->Β,map_map->Γ
open Option renaming some->ε,none->ζ
open Go.Obj renaming cells->η
open Go.Proofs.Tryz renaming prog->ι
open Nat renaming le_refl->κ,add_zero->τ,zero_le->υ
open Go.RowKit.Below renaming refl->μ
open Option.some renaming inj->ν,injEq->χ
open Go.World renaming cell?_setCell_other->ξ,cell?_setCell_same->ψ
open Go renaming World->ο,Calls->Δ
open Go.RowKit renaming Below->π
open Go.Ending renaming returned->ς
namespace Go.Proofs.YtfpmnekaockodaaGreatDoor
open Go.RowKit Go.Sort
set_option maxRecDepth 4000
set_option maxHeartbeats 8000000
variable {ps:List PKV}
def pV{X:ο}{tmps:Array Value}{g:Nat}{o l k z h:Int}{a:Option Addr}{n c:Nat}{s:ByteArray}(ht:tmps.getD 2 undef=.pointer (ε ⟨g,0,ζ⟩))(d:AS X g (U α o) (U α l) (U α k) (U α z) (U α h) (β a n c) (γ s)):
  (results Tryz.f248 tmps).run ι X=.ok (.agg #[U α o,U α l,U α k,U α z,U α h,β a n c,γ s]) X:=by
 obtain⟨e,r1,r2,f,i,j,m⟩:=d.at;have b:tmps[2]?.getD undef=.pointer (ε ⟨g,0,ζ⟩):=by simpa using ht
 simp[results,Tryz.results248,go_sem,b,e,r1,r2,f,i,j,m]
def Pe(o l k z hp:Int)(a:Option Addr)(n c:Nat)(s:ByteArray)(w:ο):
  Δ ι 248 #[.agg #[U α o,U α l,U α k,U α z,U α hp,β a n c,γ s]] w fun e w'=>e=ς (.agg #[U α o,U α l,U α k,U α z,U α 0,β none 0 0,γ ⟨#[]⟩])/\π w.heap.size w w':=by
 have f:=(CC w (U α o) (U α l) (U α k) (U α z) (U α hp) (β a n c) (γ s)).below ((μ _ _).alloc (κ _) (η #[U α 0,U α 0,U α 0,U α 0,U α 0,β none 0 0,γ ⟨#[]⟩] 75));have b:=CC (w.alloc (η #[U α o,U α l,U α k,U α z,U α hp,β a n c,γ s] 75)) (U α 0) (U α 0) (U α 0) (U α 0) (U α 0) (β none 0 0) (γ ⟨#[]⟩);rw[A7]at b;have d:π w.heap.size w ((w.alloc (η #[U α o,U α l,U α k,U α z,U α hp,β a n c,γ s] 75)).alloc (η #[U α 0,U α 0,U α 0,U α 0,U α 0,β none 0 0,γ ⟨#[]⟩] 75)):=GW (μ _ w) (μ _ _);generalize hW:(w.alloc (η #[U α o,U α l,U α k,U α z,U α hp,β a n c,γ s] 75)).alloc (η #[U α 0,U α 0,U α 0,U α 0,U α 0,β none 0 0,γ ⟨#[]⟩] 75)=W at*;obtain⟨m,p,q,r,u,v,x⟩:=f.at;obtain⟨y,A,C,D,E,H,I⟩:=b.at;have j:=b.frz;have i:=Ab b;have h:=Ab d;clear f b d;go_enter func248,ntmps248;go_wp2;exact bodyPost_ret (pV (g:=w.heap.size+1) (X:=set7 W (w.heap.size+1) (U α o) (U α l) (U α k) (U α z) (U α 0) (β none 0 0) (γ ⟨#[]⟩)) rfl ((Aa i).sets _ _ _ _ _ _ _)) rfl ⟨rfl,Cv (Aa h) (Nat.le_succ _) _ _ _ _ _ _ _⟩
def Jo(ps:List PKV):Bool:=ps.all fun p=>Bt (ps.getD 0 .dflt).pd p.pd
def ja(q p:PKV):TB (Bt q.pd p.pd) (Ng p.o p.l p.k p.z 0 [] ⟨#[]⟩ q.o q.l q.k q.z 0 [] ⟨#[]⟩):=by
 unfold TB Bt Ng;rw[decide_eq_true_iff];show(q.o=p.o/\q.l=p.l/\q.k=p.k/\q.z=p.z)↔_;constructor
 ·rintro⟨a,b,c,d⟩
  exact⟨⟨⟨a.symm,b.symm,c.symm,d.symm,rfl⟩,rfl⟩,rfl⟩
 ·intro h
  exact⟨h.1.1.1.symm,h.1.1.2.1.symm,h.1.1.2.2.1.symm,h.1.1.2.2.2.1.symm⟩
def SV(ps:List PKV)(k:Nat)(a:k<ps.length):ps.take (k+1)=ps.take k++[ps.getD k .dflt]:=by
 rw[List.take_succ_eq_append_getElem a];simp[δ,θ a]
def LN(a:Option Addr)(n c:Nat)(ps:List PKV)(w:ο)(ht:Tab w)(h:PksAt w a n ps)(h0:0<n)(hn:n<=1048576):
  Δ ι 245 #[β a n c] w fun e w'=>e=ς (.bool (Jo ps))/\π w.heap.size w w':=by
 obtain rfl:=h.1;obtain⟨b,off,rfl,j⟩:=h.at h0;obtain⟨c0,c1,c2,c3,c4,c5,c6⟩:=j 0 h0;simp only[Nat.zero_mul,τ]at c0 c1 c2 c3 c4 c5 c6;have ai:(0:Int)<(ps.length:Int):=by omega
 have Hh:=Ab h;have HT:=Ab ht;unfold Jo;generalize ps.getD 0 .dflt=q at*;have d:=Ab (Pe q.o q.l q.k q.z q.h q.r.a q.r.n q.r.c q.r.s w);clear h j ht;go_enter func245,ntmps245;go_wp2_with (go_at_call 248;refine(Aa d).mono ?_;rintro e w1 ⟨rfl,X⟩;have Q:=Ab X;clear X);have aa:=CC w1 (U α q.o) (U α q.l) (U α q.k) (U α q.z) (U α 0) (β none 0 0) (γ ⟨#[]⟩);have Y:π w1.heap.size w1 (w1.alloc (η #[U α q.o,U α q.l,U α q.k,U α q.z,U α 0,β none 0 0,γ ⟨#[]⟩] 75)):=(μ _ _).alloc (κ _) _;generalize hW:w1.alloc (η #[U α q.o,U α q.l,U α q.k,U α q.z,U α 0,β none 0 0,γ ⟨#[]⟩] 75)=W at*;have ae:=Ab aa;have f:=Ab (Ad (Aa Q) Y);clear aa Y hW Q d c0 c1 c2 c3 c4 c5 c6;go_loopw [12] (fun i wr=> ∃m:Nat,m<=ps.length/\i=U α m/\Hid (∀p∈ps.take m,Bt q.pd p.pd=true)/\Hid (π W.heap.size W wr)) (fun i _=>ps.length-(intOf i).toNat)
 case atStart=>exact⟨0,υ _,rfl,Ab (fun p hp=>by rw[List.take_zero]at hp;cases hp),Ab (μ _ _)⟩
 case round=>
  obtain⟨m,hm,rfl,P,HB⟩:=hrel;by_cases u:m<ps.length
  ·have H:=(Aa f).trans ((Aa HB).mono (Aa f).size)
   obtain⟨b',ah,e,j⟩:=((Aa Hh).below H).at u;simp only[χ,Addr.mk.injEq,and_true]at e;obtain⟨rfl,rfl⟩:=e;obtain⟨c0,c1,c2,c3,c4,c5,c6⟩:=j m u;have ag:(m:Int)<(ps.length:Int):=by omega
   have E:=Ab (SV ps m u);have D:=Ab (show ps.getD m .dflt∈ps from by rw[δ,θ u];exact List.getElem_mem u);clear j;generalize ps.getD m .dflt=p at*;have ab:=CC wr (U α p.o) (U α p.l) (U α p.k) (U α p.z) (U α p.h) (.slice p.r.a p.r.n p.r.c) (γ p.r.s);have C:π wr.heap.size wr (wr.alloc (η #[U α p.o,U α p.l,U α p.k,U α p.z,U α p.h,.slice p.r.a p.r.n p.r.c,γ p.r.s] 75)):=(μ _ _).alloc (κ _) _;have ac:=((Aa ae).below (Aa HB)).below C;generalize aj:wr.alloc (η #[U α p.o,U α p.l,U α p.k,U α p.z,U α p.h,.slice p.r.a p.r.n p.r.c,γ p.r.s] 75)=w2 at*;have ad:=(Aa HT).below (Ad H C);have cB:=Cf (W:=w2) (fun w' Z=>Pe p.o p.l p.k p.z p.h p.r.a p.r.n p.r.c p.r.s w');have J:=Cf (W:=w2) (fun w' Z=>UO p.o p.l p.k p.z 0 none 0 0 [] ⟨#[]⟩ q.o q.l q.k q.z 0 none 0 0 [] ⟨#[]⟩ w' (ad.below Z) (C8 _) (C8 _) (by omega) (by omega) (Bt q.pd p.pd) (ja q p));obtain⟨x0,x1,x2,x3,x4,x5,x6⟩:=ab.at;obtain⟨y0,y1,y2,y3,y4,y5,y6⟩:=ac.at;have k0:=cell_regrown x0;have k1:=cell_regrown x1;have k2:=cell_regrown x2;have k3:=cell_regrown x3;have k4:=cell_regrown x4;have k5:=cell_regrown x5;have k6:=cell_regrown x6;have l0:=cell_regrown y0;have l1:=cell_regrown y1;have l2:=cell_regrown y2;have l3:=cell_regrown y3;have l4:=cell_regrown y4;have l5:=cell_regrown y5;have l6:=cell_regrown y6;have R:=Ab (Ad (Aa HB) C);clear ab ac C ad H x0 x1 x2 x3 x4 x5 x6 y0 y1 y2 y3 y4 y5 y6;cases O:Bt q.pd p.pd
   ·rw[O]at J
    have S:Hid ((ps.all fun p=>Bt q.pd p.pd)=false):=Ab (by rw[List.all_eq_false];exact⟨p,Aa D,by rw[O];decide⟩);clear E D P O;go_wp2_with fail;refine wp_region_quiet_below (by kernel_rfl) (by kernel_rfl) ?_
    repeat (with_reducible refine wpQuiet_step (fun K A=>?_);go_simp;first|(with_reducible refine A _ ?_;clear A K)|(apply Exists.intro;apply And.intro;(intro _;first|(go_at_call 248;exact cB _ _)|(go_at_call 203;exact J _ _));with_reducible refine A _ ?_;clear A K))
    refine wpQuiet_nil ?_;intro _ I;obtain⟨⟨V,y⟩,v⟩:=I;subst v;have d:=Ab (Ad (Aa R) (below_regrown w2 V y));clear cB J k0 k1 k2 k3 k4 k5 k6 l0 l1 l2 l3 l4 l5 l6;generalize grow (redrawn w2 V) y=w3 at*;go_wp2;go_ret;exact⟨by rw[Aa S];rfl,(Aa f).trans ((Aa d).mono (Aa f).size)⟩
   ·rw[O]at J
    have S:Hid (∀p∈ps.take (m+1),Bt q.pd p.pd=true):=Ab (fun x hx=>by
     rw[Aa E,List.mem_append,List.mem_singleton]at hx;rcases hx with hx|rfl
     ·exact Aa P x hx
     ·exact O)
    clear E D P O;go_wp2_with fail;refine wp_region_quiet_below (by kernel_rfl) (by kernel_rfl) ?_
    repeat (with_reducible refine wpQuiet_step (fun K A=>?_);go_simp;first|(with_reducible refine A _ ?_;clear A K)|(apply Exists.intro;apply And.intro;(intro _;first|(go_at_call 248;exact cB _ _)|(go_at_call 203;exact J _ _));with_reducible refine A _ ?_;clear A K))
    refine wpQuiet_nil ?_;intro _ I;obtain⟨⟨V,y⟩,v⟩:=I;subst v;have d:=Ab (Ad (Aa R) (below_regrown w2 V y));clear cB J k0 k1 k2 k3 k4 k5 k6 l0 l1 l2 l3 l4 l5 l6;generalize grow (redrawn w2 V) y=w3 at*;go_wp2;go_roundw
    case rel=>exact⟨m+1,by omega,by go_num,S,d⟩
    case measure=>simp[intOf];omega
  ·have af:ps.take m=ps:=List.take_of_length_le (by omega)
   rw[af]at P;have S:Hid ((ps.all fun p=>Bt q.pd p.pd)=true):=Ab (List.all_eq_true.2 (Aa P));go_wp2;go_ret;exact⟨by rw[Aa S];rfl,(Aa f).trans ((Aa HB).mono (Aa f).size)⟩
def IU(ps:List PKV)(m:Nat):Int:=(ps.take m).foldl (fun a p=>max a p.h) (ps.getD 0 .dflt).h
def mR{m:Nat}(h:m<ps.length):IU ps (m+1)=max (IU ps m) (ps.getD m .dflt).h:=by
 unfold IU;rw[SV ps m h,List.foldl_append];rfl
def pw(h:0<ps.length):IU ps ps.length=C0 (ps.map PKV.pd):=by
 cases ps with
 |nil=>simp at h
 |cons p Q=>
  unfold IU;rw[List.take_length];show(p::Q).foldl _ p.h=(Q.map PKV.pd).foldl _ p.h;rw[List.foldl_cons,ρ,Int.max_self];rfl
def eP(a:Option Addr)(n c:Nat)(ps:List PKV)(w:ο)(h:PksAt w a n ps)(y:0<n)(Q:n<=1048576):
  Δ ι 246 #[β a n c] w fun e w'=>e=ς (U α (C0 (ps.map PKV.pd)))/\π w.heap.size w w':=by
 obtain rfl:=h.1;obtain⟨b,off,rfl,d⟩:=h.at y;obtain⟨c0,c1,c2,c3,c4,c5,x⟩:=d 0 y;simp only[Nat.zero_mul,τ]at c0 c1 c2 c3 c4 c5 x;have J:(0:Int)<(ps.length:Int):=by omega
 have I:=Ab h;have E:=Ab (pw y);have j:=Ab (show(ps.getD 0 .dflt).h=IU ps 0 from rfl);have C:=JJ;generalize ps.getD 0 .dflt=q at*;clear h d;go_enter func246,ntmps246;go_wp2;go_loopw [3,12] (fun K i wr=> ∃m:Nat,m<=ps.length/\i=U α m/\K=U α (IU ps m)/\Hid (π w.heap.size w wr)) (fun _ i _=>ps.length-(intOf i).toNat)
 case atStart=>exact⟨0,υ _,rfl,by rw[Aa j],Ab (μ _ _)⟩
 case round=>
  obtain⟨m,P,rfl,rfl,u⟩:=hrel;clear c0 c1 c2 c3 c4 c5 x j;by_cases f:m<ps.length
  ·obtain⟨O,D,e,d⟩:=((Aa I).below (Aa u)).at f
   simp only[χ,Addr.mk.injEq,and_true]at e;obtain⟨rfl,rfl⟩:=e;obtain⟨c0,c1,c2,c3,c4,c5,x⟩:=d m f;have A:(m:Int)<(ps.length:Int):=by omega
   have H:=Ab (mR f);clear d;generalize ps.getD m .dflt=p at*;have v:=Ab (show π w.heap.size w (wr.alloc (η #[U α p.o,U α p.l,U α p.k,U α p.z,U α p.h,.slice p.r.a p.r.n p.r.c,γ p.r.s] 75)) from Ad (Aa u) ((μ _ _).alloc (κ _) _));go_wp2;go_roundw
   case rel=>exact⟨m+1,by omega,by go_num,by rw[Aa H],v⟩
   case measure=>simp[intOf];omega
  ·obtain rfl:m=ps.length:=by omega
   rw[Aa E];go_wp2;go_ret;exact⟨rfl,Aa u⟩
def Ai(ps:List PKV):List RV:=ps.map PKV.r
def Es(ps:List PKV):(Ai ps).length=ps.length:=by simp[Ai]
def US{i:Nat}(a:i<ps.length):(Ai ps).getD i .dflt=(ps.getD i .dflt).r:=by
 unfold Ai;rw[δ,List.getElem?_map,θ a,δ,θ a];rfl
def KsIn.rows{w:ο}(h:KsIn w ps):Ae w (Ai ps):=fun r a=>by
 obtain⟨p,hp,rfl⟩:=List.mem_map.1 a;exact h p hp
def SO(h:Qx ps){p:PKV}(hp:p∈ps):p.r.n<=10/\p.r.s.size<=1000:=by
 obtain⟨i,a,rfl⟩:=List.mem_iff_getElem.1 hp;have:=h i;rwa[δ,θ a]at this
def N3(h:∀p∈ps,p.r.n<=10/\p.r.s.size<=1000):Af (Ai ps):=rC fun r a=>by
 obtain⟨p,hp,rfl⟩:=List.mem_map.1 a;exact h p hp
def oA(ps:List PKV):E6 (ps.map PKV.pd)=AM (Ai ps):=by
 unfold E6 AM Ai;rw[ρ,ρ];rfl
def nm(ps:List PKV):Hd (ps.map PKV.pd)=Ct ((Ai ps).map fun r=>r.s):=by
 unfold Hd Ct Ai;rw[ρ,Γ,ρ];rfl
def pk{us:List PKV}(h:0<us.length):E5 (us.map PKV.pd)=if Jo us=true/\0<cnt (AM (Ai us))/\C0 (us.map PKV.pd)<15 then ε ⟨(us.getD 0 .dflt).o,(us.getD 0 .dflt).l,(us.getD 0 .dflt).k,(us.getD 0 .dflt).z,IntKind.i64.wrap (C0 (us.map PKV.pd)+1),AM (Ai us),st (Ct ((Ai us).map fun r=>r.s))⟩else none:=by
 cases us with
 |nil=>simp at h
 |cons p Q=>
  rw[<-oA,<-nm];rw[List.map_cons,KD];have e:(∀r∈Q.map PKV.pd,Bt p.pd r=true)↔Jo (p::Q)=true:=by
   unfold Jo;rw[List.all_eq_true];constructor
   ·intro b x a
    rcases List.mem_cons.1 a with rfl|a
    ·exact Pc _
    ·exact b _ (List.mem_map_of_mem a)
   ·intro b x a
    obtain⟨y,c,rfl⟩:=List.mem_map.1 a;exact b y (List.mem_cons_of_mem _ c)
  simp only[e];rfl
def my(a:Option Addr)(n c:Nat)(ps:List PKV)(w:ο)(h:PksAt w a n ps)(hk:KsIn w ps)(hs:∀p∈ps,p.r.n<=10/\p.r.s.size<=1000)(hn:n<=300):
  Δ ι 247 #[β a n c] w fun e w'=> ∃v,e=ς (.agg #[v,γ (st (Ct ((Ai ps).map fun r=>r.s)))])/\Own w' w.heap.size v (AM (Ai ps))/\π w.heap.size w w':=by
 obtain rfl:=h.1;have u:=(μ w.heap.size w).alloc (κ _) (η #[β none 0 0,γ ⟨#[]⟩] 73);have hX:=JM w (β none 0 0) (γ ⟨#[]⟩);have y:(w.alloc (η #[β none 0 0,γ ⟨#[]⟩] 73)).heap.size=w.heap.size+1:=by simp
 have hP:=h.below u;have hK:=hk.below u;generalize aj:w.alloc (η #[β none 0 0,γ ⟨#[]⟩] 73)=W at*;have HP:=Ab hP;have HK:=Ab hK;have HX:=Ab hX;have J:=Ab u;have j:=Ab y;have HS:=Ab (N3 hs);have Y:=Nd ps.length (by omega) W;rw[y]at Y;have E:=Nc W ps.length (by omega) (BK (Ai ps) 0) (by rw[OF,Es]);have O:π W.heap.size W (W.alloc (η (madeCells #[β none 0 0,γ ⟨#[]⟩] (ps.length*2)) 73)):=(μ _ _).alloc (κ _) _;rw[y]at E;have HM:=Ab E;have K:=Ab O;generalize ai:W.alloc (η (madeCells #[β none 0 0,γ ⟨#[]⟩] (ps.length*2)) 73)=W2 at*;clear h hk hs u hX hP hK E O y;go_enter func247,ntmps247;go_wp2;clear aj ai Y;go_loopw [11] (fun i wr=> ∃k:Nat,k<=ps.length/\i=U α k/\Hid (Ak wr (w.heap.size+1) (β (ε ⟨w.heap.size+1,0,ζ⟩) ps.length ps.length) (BK (Ai ps) k))/\Hid (π W.heap.size W wr)) (fun i _=>ps.length-(intOf i).toNat)
 case atStart=>exact⟨0,υ _,rfl,HM,K⟩
 case round=>
  obtain⟨k,hk,rfl,HI,A⟩:=hrel;clear HM K;by_cases x:k<ps.length
  ·obtain⟨b,off,rfl,Q⟩:=((Aa HP).below (Aa A)).at x
   obtain⟨c0,c1,c2,c3,c4,c5,c6⟩:=Q k x;have an:(k:Int)<(ps.length:Int):=by omega
   have hS:=OE (Ai ps) k (by rw[Es];exact x);rw[US x]at hS;clear Q;generalize ps.getD k .dflt=p at*;have d:π wr.heap.size wr (wr.alloc (η #[U α p.o,U α p.l,U α p.k,U α p.z,U α p.h,.slice p.r.a p.r.n p.r.c,γ p.r.s] 75)):=(μ _ _).alloc (κ _) _;have Z:=CC wr (U α p.o) (U α p.l) (U α p.k) (U α p.z) (U α p.h) (.slice p.r.a p.r.n p.r.c) (γ p.r.s);obtain⟨x0,x1,x2,x3,x4,x5,x6⟩:=Z.at;have q:=(Aa HI).below d;have f:=Ab (Ad (Aa A) d);generalize ao:wr.alloc (η #[U α p.o,U α p.l,U α p.k,U α p.z,U α p.h,.slice p.r.a p.r.n p.r.c,γ p.r.s] 75)=w3 at*;have S:(BK (Ai ps) k).length=ps.length:=by rw[NR _ _ (by rw[Es];exact hk),Es]
   have D:=In (BK (Ai ps) k) k (by omega);have ab:=q.cellAt D.1;have ac:=q.cellAt D.2;have C:w3.ownsRow (w.heap.size+1) 73 2 (β (ε ⟨w.heap.size+1,0,ζ⟩) ps.length ps.length) ps.length (cellsR (BK (Ai ps) k)):=by
    have:w3.ownsRow (w.heap.size+1) 73 2 (β (ε ⟨w.heap.size+1,0,ζ⟩) ps.length ps.length) (BK (Ai ps) k).length (cellsR (BK (Ai ps) k)):=q;rwa[S]at this
   have al:=C.frozenAt (k*2);have am:=C.frozenAt (k*2+1);have I:=q.stored k p.r;rw[hS]at I;have ag:=Ab I;have V:W.heap.size<=w.heap.size+1:=by have:=Aa j;omega
   have ae:=Ab (((Aa f).setCell (p:=⟨w.heap.size+1,k*2,ζ⟩) V (.slice p.r.a p.r.n p.r.c)).setCell (p:=⟨w.heap.size+1,k*2+1,ζ⟩) V (γ p.r.s));clear q C I hS D S HI A Z d f;generalize (BK (Ai ps) k).getD k .dflt=z at*;go_wp2;go_roundw
   case rel=>exact⟨k+1,by omega,by go_num,ag,ae⟩
   case measure=>simp[intOf];omega
  ·obtain rfl:k=ps.length:=by omega
   have q:=Aa HI;rw[show BK (Ai ps) ps.length=Ai ps from by rw[<-Es ps,Pv]]at q;have X:=(Aa HK).rows.below (Aa A);obtain⟨aa,ak,P,R⟩:=q.at' X;have HC:=Ab (Zu (ε ⟨w.heap.size+1,0,ζ⟩) ps.length ps.length (Ai ps) wr aa (Aa HS) (by omega) P R);have ah:=Ab ((Aa HX).below (Aa A));have ad:=Ab ((Aa J).trans ((Aa A).mono (by have:=Aa j;omega)));have ap:w.heap.size+1<=wr.heap.size:=by have h1:=Aa j;have h2:=(Aa A).size;omega
   clear X aa ak P R A HX J j HS HP HK q HI;go_wp2_with (go_at_call 275;refine(Aa HC).mono ?_;rintro e w3 ⟨v,rfl,H,d⟩;obtain⟨a2,m2,c2,rfl⟩:∃a m c,v=Value.slice a m c:=(by obtain⟨a,c,e,_⟩:=H.row;exact⟨a,_,c,e⟩);obtain⟨⟨x0,x1⟩,f0,f1⟩:=(Aa ah).below d;have f:=Ab (Ad (Aa ad) d);have af:=Ab H;clear H d HC);have y1:=ψ (w3.setCell ⟨w.heap.size,0,ζ⟩ (β a2 m2 c2)) ⟨w.heap.size,1,ζ⟩ (γ (st (Ct ((Ai ps).map fun r=>r.s)))) ((ξ (h:=by simp) ..).trans x1)
   have y0:((w3.setCell ⟨w.heap.size,0,ζ⟩ (β a2 m2 c2)).setCell ⟨w.heap.size,1,ζ⟩ (γ (st (Ct ((Ai ps).map fun r=>r.s))))).cell? ⟨w.heap.size,0,ζ⟩=ε (β a2 m2 c2):=
    (ξ (h:=by simp) ..).trans (ψ _ _ _ x0)
   exact bodyPost_ret (v:=.agg #[β a2 m2 c2,γ (st (Ct ((Ai ps).map fun r=>r.s)))]) (by simp[results,Tryz.results247,go_sem,y0,y1]) rfl
    ⟨_,rfl,(((Aa af).other (g:=w.heap.size) 0 _ (by omega)).other (g:=w.heap.size) 1 _ (by omega)).mono (by omega),((Aa f).setCell (κ _) _).setCell (κ _) _⟩
def rJ{b n:Nat}(h:b<n):placeN (b:Int) n=b:=by
 have a:(b:Int).tmod n=b:=by
  rw[<-Int.ofNat_tmod,Nat.mod_eq_of_lt h]
 have c:((b:Int)+n).tmod n=b:=by
  have d:((b:Int)+n)=((b+n:Nat):Int):=by omega
  rw[d,<-Int.ofNat_tmod,Nat.add_mod_right,Nat.mod_eq_of_lt h]
 unfold placeN;rw[a,c];omega
def nO(ps:List PKV):AV (Ai ps)=vecsD (ps.map PKV.pd):=by
 unfold AV Ai vecsD;rw[Γ,Γ];rfl
def YE{b:Nat}{t:Int}(a:b<ps.length):Ij (ps.map PKV.pd) (IE (Ai ps) (b:Int) t)=emitD (ps.map PKV.pd) b t:=by
 unfold IE emitD;rw[Es,if_neg (by omega),rJ a,nO,List.length_map]
def Gr(t:Int):Int:=min (max t (-1099511627776)) 1099511627776
def oo(t:Int): -1099511627776<=Gr t/\Gr t<=1099511627776:=by unfold Gr;omega
variable {L:List Nat}{g B n N:Nat}{T:TypeId}{v0 v1:Value}{w w':ο}
def A5(T:TypeId)(w:ο)(g:Nat)(v0 v1:Value):Prop:=w.heap[g]? =ε (η #[v0,v1] T (0,0))
def YV(T:TypeId)(w:ο)(v0 v1:Value):A5 T (w.alloc (η #[v0,v1] T)) w.heap.size v0 v1:=by
 show(w.heap.push _)[w.heap.size]? =_;simp
def A5.lt(h:A5 T w g v0 v1):g<w.heap.size:=(Array.getElem?_eq_some_iff.1 h).1
def A5.belowB(h:A5 T w g v0 v1)(a:π B w w')(b:g<B):A5 T w' g v0 v1:=(a.block g b).trans h
def A5.at0(h:A5 T w g v0 v1):w.cell? ⟨g,0,ζ⟩=ε v0:=by
 unfold A5 at h;rw[cell_of_row w g _ _ _ _ h];rfl
def A5.at1(h:A5 T w g v0 v1):w.cell? ⟨g,1,ζ⟩=ε v1:=by
 unfold A5 at h;rw[cell_of_row w g _ _ _ _ h];rfl
def A5.frz(h:A5 T w g v0 v1)(i:Nat):w.frozen? ⟨g,i,ζ⟩=false:=by
 unfold A5 at h;simp[World.frozen?,h]
def A5.set0(h:A5 T w g v0 v1)(u:Value):A5 T (w.setCell ⟨g,0,ζ⟩ u) g u v1:=heap_setCell_same w g 0 _ _ u h
def A5.set1(h:A5 T w g v0 v1)(u:Value):A5 T (w.setCell ⟨g,1,ζ⟩ u) g v0 u:=heap_setCell_same w g 1 _ _ u h
def A5.drew(h:A5 T w g v0 v1):A5 T w.drew g v0 v1:=h
def A5.apart{a:Option Addr}{c:Nat}{i:Int}(h:A5 T w g (β a n c) (U α i)){f:Option Addr}{m:Nat}{xs:List Nat}(r:RowAt w f m xs):
  m=0\/∀e,f=ε e->ε e.block≠ε g:=by
 by_cases q:m=0
 ·exact .inl q
 ·refine .inr fun e o j=>?_
  obtain⟨l,off,d,p⟩:=r.at (i:=0) (by omega);rw[o]at d;obtain rfl:=ν d;have b:=p 0 (by omega);simp only[χ]at j;subst j;unfold A5 at h;rw[τ,cell_of_row w l _ _ _ _ h]at b
  match off,b with
  |0,b=>simp at b
  |1,b=>simp at b
  |k+2,b=>simp at b
def RowAt.belowB{a:Option Addr}{xs:List Nat}(h:RowAt w a n xs)(f:π B w w')(d:n=0\/∀e,a=ε e->e.block<B):RowAt w' a n xs:=by
 refine⟨h.1,h.2.1,?_⟩;rcases h.2.2 with c|⟨b,off,rfl,j⟩
 ·exact .inl c
 ·rcases d with c|d
  ·exact .inl c
  ·exact .inr ⟨b,off,rfl,fun i k=>(f.cell (p:=⟨b,off+i,ζ⟩) (d ⟨b,off,ζ⟩ rfl)).trans (j i k)⟩
def AF(w:ο)(g B:Nat)(L:List Nat)(N:Nat):Prop:=
 g<B/\Ac L/\∃a n c,A5 246 w g (β a n c) (U α (N:Int))/\n<=c/\c<=1048576/\RowAt w a n (L.drop N)/\(n=0\/∀b,a=ε b->b.block<B/\∃d,w.heap[b.block]? =ε (.cells d 265 (0,0)))
def AF.below(h:AF w g B L N)(d:π B w w'):AF w' g B L N:=by
 obtain⟨f,l,a,n,c,m,o,p,q,i⟩:=h;exact⟨f,l,a,n,c,m.belowB d f,o,p,q.belowB d (i.imp id fun k b e=>(k b e).1),i.imp id fun k b e=>⟨(k b e).1,(k b e).2.imp fun j r=>(d.block _ (k b e).1).trans r⟩⟩
def AF.lt(h:AF w g B L N):g<w.heap.size:=by
 obtain⟨d,e,a,n,c,b,f,i,j,k⟩:=h;exact b.lt
def M2:Tryz.prog.underlying 40=ε (.slice (Tryz.prog.elem 40)):=by kernel_rfl
def WQ:Tryz.prog.elem 40=265:=by kernel_rfl
def Q7(w:ο):(sizeOf 265).run ι w=.ok 1 w:=by kernel_rfl
def Nr:(Tryz.prog.info? 265).map (·.size)=ε 1:=by kernel_rfl
def nR(b off n c:Nat)(d:n+1<=c):∃a,(n=0\/a=ε ⟨b,off+1,ζ⟩)/\∀w:ο,
  (Instr.sliceAt 40 (β (ε ⟨b,off,ζ⟩) (n+1) c) (ε (U α 1)) none none).run ι w=.ok (β a n (c-1)) w:=by
 refine⟨if c=1 then ε ⟨b,off,ζ⟩else ε ⟨b,off+1,ζ⟩,?_,fun w=>?_⟩
 ·by_cases h:c=1
  ·exact .inl (by omega)
  ·exact .inr (by rw[if_neg h])
 ·rw[run_sliceAt_slice _ _ _ _ _ _ M2,run_slice_l _ _ _ _ _ M2 _ _ (by omega) (by omega),WQ,Q7]
  simp[Result.andThen,sliced,Addr.add]
def nQ(b off n c:Nat)(w:ο):
  (Instr.sliceAt 40 (β (ε ⟨b,off,ζ⟩) n c) none (ε (U α 0)) none).run ι w=.ok (β (ε ⟨b,off,ζ⟩) 0 c) w:=by
 rw[run_sliceAt_slice _ _ _ _ _ _ M2,run_slice_h _ _ _ _ _ M2 _ _ (by omega) (by omega),WQ,Q7];simp[Result.andThen,sliced,Addr.add]
def nZ(g b off n c:Nat)(u:Value)(x:Nat)(w:ο)(h:A5 246 w g (β (ε ⟨b,off,ζ⟩) (n+1) c) u)(j:n+1<=c)(p:w.cell? ⟨b,off,ζ⟩=ε (U φ (x:Int))):
  Δ ι 233 #[.pointer (ε ⟨g,0,ζ⟩),U α 0] w fun e w'=>e=ς (U φ (x:Int))/\∃a,(n=0\/a=ε ⟨b,off+1,ζ⟩)/\A5 246 w' g (β a n (c-1)) u/\w.grownBy w' (ε g):=by
 obtain⟨a,f,k⟩:=nR b off n c j;have l:=nQ b off (n+1) c
 have d:∀(i:TypeId) (wx:ο),(Builtin.copy_ #[40,40] i #[β a n (c-1),β (ε ⟨b,off,ζ⟩) 0 c]).run ι wx=.ok (goInt 0) wx:=
  fun i wx=>run_copy_none wx 40 40 i 265 _ _ _ _ _ _ underlying40 Nr (Nat.min_eq_left (υ _))
 have m:=h.at0;have o:=h.frz 0;have H:=Ab h;have d:=d 3;clear h;go_enter func233,ntmps233;go_wp2_with fail;go_region_held (fun w'=>w'.cell? ⟨g,0,ζ⟩=ε (β (ε ⟨b,off,ζ⟩) (n+1) c)) (go_keep) (fail);go_wp2;go_ret;exact⟨rfl,a,f,((Aa H).set0 _).drew,JU (Bz _ _ _ _)⟩
def AF.open(h:AF w g B L N)(s:N<L.length):
  ∃b off n c,A5 246 w g (β (ε ⟨b,off,ζ⟩) (n+1) c) (U α (N:Int))/\n+1<=c/\c<=1048576/\n=L.length-(N+1)/\(b<B/\∃e,w.heap[b]? =ε (.cells e 265 (0,0)))/\∀i,i<n+1->w.cell? ⟨b,off+i,ζ⟩=ε (U φ ((L.getD (N+i) 0:Nat):Int)):=by
 obtain⟨q,r,a,n,c,j,k,l,f,d⟩:=h;have u:n=L.length-N:=by rw[<-f.1,σ]
 obtain⟨b,off,rfl,o⟩:=f.at (i:=0) (by omega);obtain⟨m,rfl⟩:∃m,n=m+1:=⟨n-1,by omega⟩;refine⟨b,off,m,c,j,k,l,by omega,?_,fun i p=>?_⟩
 ·rcases d with d|d
  ·omega
  ·exact d _ rfl
 ·rw[o i p]
  simp[δ,Β]
def AF.close{d:Option Addr}{b off c:Nat}(q:g<B)(l:Ac L)(m:A5 246 w g (β d n c) (U α ((N+1:Nat):Int)))(p:n<=c)(j:c<=1048576)(v:n=L.length-(N+1))
  (k:n=0\/d=ε ⟨b,off+1,ζ⟩) (o:b<B/\∃f,w.heap[b]? =ε (.cells f 265 (0,0))) (a:∀i,i<n+1->w.cell? ⟨b,off+i,ζ⟩=ε (U φ ((L.getD (N+i) 0:Nat):Int))):AF w g B L (N+1):=by
 refine⟨q,l,d,n,c,m,p,j,⟨by rw[σ];omega,fun x r=>l x (Α r),?_⟩,?_⟩
 ·rcases k with h|rfl
  ·exact .inl h
  ·refine .inr ⟨b,off+1,rfl,fun i u=>?_⟩
   rw[show off+1+i=off+(i+1) by omega,a (i+1) (by omega)];simp[δ,Β,show N+(i+1)=N+1+i by omega]
 ·rcases k with h|rfl
  ·exact .inl h
  ·exact .inr fun s e=>by rw[<-ν e];exact o
def Um(g B:Nat)(L:List Nat)(N:Nat)(w:ο)(h:AF w g B L N)(hN:N<=1099511627776):
  Δ ι 195 #[.pointer (ε ⟨g,0,ζ⟩)] w fun e w'=>e=ς (U φ ((BF L (N+1):Nat):Int))/\AF w' g B L (N+1)/\w.grownBy w' (ε g):=by
 by_cases z:N<L.length
 ·have q:=h.1
  have m:=h.2.1;obtain⟨b,off,n,c,d,r,v,W,u,f⟩:=h.open z;have s:=f 0 (by omega);rw[τ,τ,<-oX z]at s;have j:b≠g:=by
   intro e;subst e;have l:=s;unfold A5 at d;rw[cell_of_row w b _ _ _ _ d]at l
   match off,l with
   |0,l=>simp at l
   |1,l=>simp at l
   |k+2,l=>simp at l
  have I:=nZ g b off n c (U α ((N+1:Nat):Int)) (BF L (N+1)) (w.setCell ⟨g,1,ζ⟩ (U α ((N+1:Nat):Int))) (d.set1 _) r (by rw[ξ _ _ _ _ (fun e=>j (congrArg Addr.block e).symm)];exact s);have l:=d.at0;have R:=d.at1;have V:=d.frz 1;have S:(w.setCell ⟨g,1,ζ⟩ (U α ((N+1:Nat):Int))).cell? ⟨g,0,ζ⟩=ε (β (ε ⟨b,off,ζ⟩) (n+1) c):=(d.set1 _).at0;have J:=Ab (fun i E=>(ξ w ⟨g,1,ζ⟩ ⟨b,off+i,ζ⟩ (U α ((N+1:Nat):Int)) (fun e=>j (congrArg Addr.block e).symm)).trans (f i E));have P:=Ab I;have X:=Ab d;clear I f s d h;go_enter func195,ntmps195;go_wp2_with (go_at_call 233;refine(Aa P).mono ?_;rintro e w1 ⟨rfl,Y,C,A,p⟩);go_ret;refine⟨rfl,AF.close q m A (by omega) (by omega) W C ⟨u.1,u.2.imp fun Q r=>(p.block b (by simpa using(Array.getElem?_eq_some_iff.1 r).1) (fun e=>j (ν e))).trans ((Below.heap_setCell _ _ _ _ (fun e=>j e)).trans r)⟩ (fun i E=>p.cell (Aa J i E) (fun e=>j (ν e))),Bx (Bz _ _ _ _) p (.inl rfl)⟩
 ·obtain⟨q,m,a,n,c,d,r,v,o,D⟩:=h
  have H:n=0:=by rw[<-o.1,σ];omega
  subst H
  have y:AF (w.setCell ⟨g,1,ζ⟩ (U α ((N+1:Nat):Int))) g B L (N+1):=
   ⟨q,m,a,0,c,d.set1 _,r,v,⟨by rw[σ];omega,fun x s=>m x (Α s),.inl rfl⟩,.inl rfl⟩
  have O:=Ab (kw (L:=L) (n:=N+1) (by omega));have l:=d.at0;have R:=d.at1;have V:=d.frz 1;have S:(w.setCell ⟨g,1,ζ⟩ (U α ((N+1:Nat):Int))).cell? ⟨g,0,ζ⟩=ε (β a 0 c):=(d.set1 _).at0;have Z:(w.setCell ⟨g,1,ζ⟩ (U α ((N+1:Nat):Int))).cell? ⟨g,1,ζ⟩=ε (U α ((N+1:Nat):Int)):=(d.set1 _).at1;have K:=Ab y;clear y o D d;go_enter func195,ntmps195;go_wp2;go_ret;refine⟨Cu ?_,Aa K,Bz _ _ _ _⟩;rw[Aa O,IntKind.wrap_u64];omega
def rY(x n:Nat)(a:1<=n)(b:n<=9223372036854775807):(x:Int).tmod (n:Int)=((x%n:Nat):Int)/\x%n<=9223372036854775807:=by
 have:=Nat.mod_lt x a;exact⟨by rw[Int.tmod_eq_emod_of_nonneg (by omega)];simp,by omega⟩
def Ub(g B:Nat)(L:List Nat)(N n:Nat)(w:ο)(h:AF w g B L N)(i:N<=1099511627776)(b:1<=n)(c:n<=9223372036854775807):
  Δ ι 201 #[.pointer (ε ⟨g,0,ζ⟩),U α (n:Int)] w fun e w'=>e=ς (U α ((BF L (N+1)%n:Nat):Int))/\AF w' g B L (N+1)/\w.grownBy w' (ε g):=by
 have a:=Ab (Um g B L N w h i);have l:=Vc h.2.1 (N+1);clear h;generalize BF L (N+1)=x at*;obtain⟨k,j⟩:=rY x n b c;generalize x%n=y at*;go_enter func201,ntmps201;go_wp2_with (go_at_call 195;refine(Aa a).mono ?_;rintro e w1 ⟨rfl,d,f⟩);go_ret;exact⟨rfl,d,f⟩
def aN:(Tryz.prog.info? 265).map (fun i=>(i.zero,i.size,i.bytes))=ε (ε (U φ 0),1,8):=by kernel_rfl
def Q1(n:Nat)(f:n<=1048576)(wx:ο):(Instr.makeSlice 40 (U α (n:Int)) (U α (n:Int))).run ι wx=.ok (β (ε ⟨wx.heap.size,0,ζ⟩) n n) (wx.alloc (η (madeCells #[U φ 0] n) 265)):=by
 obtain⟨e,a,b,d,c⟩:=info_parts aN;have:=run_make (P:=ι) wx 40 265 e (U φ 0) underlying40 a b α α (n:Int) (n:Int) (by omega) (Int.le_refl _) (by rw[c];omega) (by omega);rw[d]at this;simpa [Value.cells]using this
def Z8(a:Option Addr)(n c:Nat)(xs:List Nat)(w:ο)(h:RowAt w a n xs)(q:TypeId):∃w2,(Builtin.copy_ #[40,40] q #[β (ε ⟨w.heap.size,0,ζ⟩) n n,β a n c]).run ι (w.alloc (η (madeCells #[U φ 0] n) 265))=.ok (goInt n) w2/\
  RowAt w2 (ε ⟨w.heap.size,0,ζ⟩) n xs/\π w.heap.size w w2/\(n=0\/∃o,w2.heap[w.heap.size]? =ε (.cells o 265 (0,0))):=by
 have e:π w.heap.size w (w.alloc (η (madeCells #[U φ 0] n) 265)):=(μ _ _).alloc (κ _) _;by_cases s:n=0
 ·subst s
  refine⟨_,run_copy_none _ 40 40 q 265 _ _ _ _ _ _ underlying40 Nr (Nat.min_eq_left (υ _)),⟨h.1,h.2.1,.inl rfl⟩,e,.inl rfl⟩
 ·obtain⟨b,off,rfl,x⟩:=h.at (i:=0) (by omega)
  have l:(cellsU xs).length=n:=by rw[NL];exact h.1
  have d:∀j,j<n->(w.alloc (η (madeCells #[U φ 0] n) 265)).cell? ⟨w.heap.size,0+j,ζ⟩=ε (U φ 0):=by
   intro j f;rw[World.cell?_alloc_at _ _ _ _ rfl,<-Array.getElem?_toList,toList_madeCells_one,List.getElem?_replicate,if_pos (by omega)]
  refine⟨(w.alloc (η (madeCells #[U φ 0] n) 265)).setCells w.heap.size 0 (cellsU xs),?_,?_,?_,.inr ?_⟩
  ·have:=run_copy_cells (P:=ι) (w.alloc (η (madeCells #[U φ 0] n) 265)) 40 40 q 265 w.heap.size 0 n n ⟨b,off,ζ⟩ n c (cellsU xs) underlying40 Nr (by rw[l];exact(Nat.min_self n).symm) (h.below e).news
    (fun j f=>by rw[l]at f;rw[d j f];rfl) (fun j f=>by unfold World.frozen?;rw[heap_alloc_new];simp) (So xs)
   rw[l]at this;exact this
  ·refine⟨h.1,h.2.1,.inr ⟨_,0,rfl,fun i p=>?_⟩⟩
   have:=World.cell?_setCells_in w.heap.size (cellsU xs) 0 (w.alloc (η (madeCells #[U φ 0] n) 265)) (fun j f=>by rw[l]at f;rw[d j f];rfl) i (by rw[l];exact p);rw[this];have r:=L3 xs i (by rw[h.1];exact p);rw[θ (by rw[l];exact p)]at r;exact r
  ·exact e.trans (CA (GJ w.heap.size (cellsU xs) 0 _) e.size (fun k v=>by rw[<-ν v];exact κ _))
  ·obtain⟨m,u,_⟩:=GK w.heap.size 265 (cellsU xs) 0 _ _ (heap_alloc_new w (η (madeCells #[U φ 0] n) 265))
   exact⟨m,u⟩
def ZO(a:Option Addr)(n c:Nat)(xs:List Nat)(w:ο)(h:RowAt w a n xs)(m:n<=1048576):
  Δ ι 110 #[β a n c] w fun e w'=> ∃g,e=ς (.pointer (ε ⟨g,0,ζ⟩))/\w.heap.size<=g/\AF w' g w'.heap.size xs 0/\π w.heap.size w w':=by
 obtain⟨w2,q,o,k,b⟩:=Z8 a n c xs w h 3;have f:=Ab b;have r:=Q1 n m w;have j:=Ab o;have p:=Ab k;clear h o k b;go_enter func110,ntmps110;go_wp2;go_ret;have d:=Aa p;refine⟨w2.heap.size,rfl,d.size,⟨by rw[A7];omega,(Aa j).2.1,ε ⟨w.heap.size,0,ζ⟩,n,n,YV _ _ _ _,κ _,m,?_,(Aa f).imp id fun b s e=>⟨?_,?_⟩⟩,d.alloc d.size _⟩
 ·exact GP (Aa j) _
 ·rw[<-ν e,A7]
  have:=d.size;show w.heap.size<_;omega
 ·obtain⟨i,l⟩:=b
  rw[<-ν e];refine⟨i,?_⟩;show(w2.heap.push _)[w.heap.size]? =_;rw[Array.getElem?_push_lt (Array.getElem?_eq_some_iff.1 l).1];exact(Array.getElem?_eq_getElem _).symm.trans l
end Go.Proofs.YtfpmnekaockodaaGreatDoor
