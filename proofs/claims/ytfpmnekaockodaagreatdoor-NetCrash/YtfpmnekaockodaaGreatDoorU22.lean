/- Laws for the proof. -/
import Derived.Test.YtfpmnekaockodaaGreatDoorU21
set_option linter.all false
open Go.Proofs.Tryz
open List renaming getD_eq_getElem?_getD->U,length_append->γ,length_singleton->θ,mem_cons_self->ι,getElem?_eq_getElem->κ,mem_cons_of_mem->μ,range->ξ,map_append->ρ,foldl_cons->σ,getElem?_replicate->τ,replicate->υ,take_succ_eq_append_getElem->φ,length_replicate->χ,eraseIdx_eq_take_drop_succ->ψ,length_map->ω,mem_append->Α,mem_singleton->Γ,take_length->Δ,pairwise_mergeSort->Ζ,append_nil->Η,length_set->Θ,pairwise_lt_range->Ι,filterMap_cons->Λ,mergeSort_perm->Μ,filterMap_nil->Ν,map_singleton->Ξ,foldl_append->Ο,getElem?_map->Ρ
open Go.Value renaming int->δ,slice->ζ,string->ς,slice->Τ
open Go.IntKind renaming i64->ε
open Go.RowKit.Below renaming refl->η
open Option renaming some->ν,none->π
open Nat renaming le_refl->ο,le_trans->Β,lt_or_ge->Ε,xor_assoc->Κ
namespace Go.Proofs.YtfpmnekaockodaaGreatDoor
open Go.RowKit Go.Sort
set_option maxRecDepth 4000
set_option maxHeartbeats 8000000
def PKV.cop(p:PKV)(a:Option Addr)(c2:Nat):PKV:=⟨p.o,p.l,p.k,p.z,p.h,⟨a,p.r.n,c2,p.r.xs,p.r.s⟩⟩
def Ry(w w':World)(g B m:Nat)(v:Value)(ps:List PKV)(p:PKV)(e:Ending):Prop:=
 e=.returned (.bool (Du m (ps.map PKV.pd) p.pd))/\∃v' a,Av w' g B m v' a/\a.map PKV.pd=Il m (ps.map PKV.pd) p.pd/\Tu (CO g v) w w'/\Cq w v v'
def RP{ops:Array Oper}{o:Oper}{a:Act}{w:World}{K:Act->World->Prop}{Q:Exit->Act->World->Prop}{E:Prop}(e:o.guard=π)(s x:Operand)
  (I:o.op=.call {callee:=.builtin .append,args:=#[s,x],argTypes:=#[69,69]}) (B:Nat) (v:Value) (ps:List PKV) (p:PKV) (J:a.eval s=v) (d:OwnP w B v ps) (b:Nat)
  (N:a.eval x=ζ (ν ⟨b,0,π⟩) 1 1) (D:w.heap[b]? =ν (.cells #[δ ε p.o,δ ε p.l,δ ε p.k,δ ε p.z,δ ε p.h,.slice p.r.a p.r.n p.r.c,ς p.r.s] 75 (0,0))) (P:ps.length<=1000000) (C:B<=w.heap.size)
  (h:∀g cap w',OwnP w' B (ζ (ν ⟨g,0,π⟩) (ps.length+1) cap) (ps++[p])->w.grownBy w' v.ownBlock->(v.ownBlock=ν g\/g=w.heap.size)->K (a.put o.dst (ζ (ν ⟨g,0,π⟩) (ps.length+1) cap)) w'):
  if Region.wanted o (yielded ops a.tmps)=true then Oper.wp Tryz.prog o a w K Q else E:=by
 obtain⟨O,H,f,j,m⟩:=info_parts Ma
 refine step_append_lies w e s x 69 I B 75 O _ 7 80 underlying69 H f j m rfl (by decide) v ps.length (cellsK ps) J d ⟨b,0,π⟩ 1 1 p.cells N rfl
  (World.news_of_block D) (LS p) (by decide) (by unfold maxLen;omega) (by omega) C _ rfl (fun g cap w' u y A _=>h g cap w' ?_ y A)
 show w'.ownsRow B 75 7 _ (ps++[p]).length (cellsK (ps++[p]));rw[γ,Kl,show cellsK [p]=p.cells from Η _];exact u
def WB{w Y w5 X z:World}{g B m:Nat}{v h:Value}{ps a:List PKV}{p:PKV}{x:Option Addr}{c2 g2 cap:Nat}(J:Av Y g B m h a)(u:Tu (CO g v) w Y)(O:Cq w v h)(f:Below Y.heap.size Y w5)(E:Own w5 Y.drew.heap.size (ζ x p.r.n c2) p.r.xs)
  (y:Below w5.heap.size w5 X) (H:OwnP z B (ζ (ν ⟨g2,0,π⟩) (a.length+1) cap) (a++[p.cop x c2])) (D:X.grownBy z h.ownBlock) (C:h.ownBlock=ν g2\/g2=X.heap.size)
  (R:a.map PKV.pd=leftD m (ps.map PKV.pd)) (K:Du m (ps.map PKV.pd) p.pd=true) (P:Be m (ps.map PKV.pd)) (I:Ac p.r.xs):
  Ry w (z.setCell ⟨g,1,π⟩ (ζ (ν ⟨g2,0,π⟩) (a.length+1) cap)) g B m v ps p (.returned (.bool true)):=by
 have N:Il m (ps.map PKV.pd) p.pd=(a++[p.cop x c2]).map PKV.pd:=by
  unfold Il;rw[if_pos K,ρ,R];rfl
 have d:=(J.below f).below y;have ht:Tu (fun j=>h.ownBlock=ν j) X z:=Tu.of_gb D fun j _ e=>e;have l:=P.put (p:=p.pd) I;rw[N]at l;have o:Cq X h (ζ (ν ⟨g2,0,π⟩) (a.length+1) cap):=by
  rcases C with e|e
  ·exact .inl (by rw[e];rfl)
  ·refine .inr fun j T=>?_
   obtain rfl:g2=j:=Option.some.inj T;omega
 have s:Aq X B (a++[p.cop x c2]):=d.rows.snoc ((E.below y).mono (Β J.lob (ο _)));obtain⟨r1,r2⟩:=d.puts ht H (s.tu ht fun j A S e=>d.words j A S (.inr e)) l o;refine⟨by rw[K],_,_,r1,N.symm,?_,?_⟩
 ·refine nl (u.then (Ad f y)) r2 O
 ·exact O.trans (o.new (Β f.size y.size)) u.size
def lI(g B m:Nat)(v:Value)(ps:List PKV)(p:PKV)(w:World)(ht:Tab w)(h:Av w g B m v ps)(hr:∀w',Tu (CO g v) w w'->RowAt w' p.r.a p.r.n p.r.xs)(hn:p.r.n<=10)(hs:p.r.s.size<=1000):
  Calls Tryz.prog 343 #[.pointer (ν ⟨g,0,π⟩),p.val] w fun e w'=>Ry w w' g B m v ps p e:=by
 have P:=Jh w p;have hB:=h.below P;have bo:=h.len;have hx:BkA 75 (w.alloc (.cells #[δ ε p.o,δ ε p.l,δ ε p.k,δ ε p.z,δ ε p.h,.slice p.r.a p.r.n p.r.c,ς p.r.s] 75)) w.heap.size p.cells:=AI 75 w p.cells;have K:=ee g B m v ps p _ (ht.below P) hB (hr _ (Tu.of_below P)) hn;unfold PKV.val at K⊢;have ba:=Ab K;clear K;have bt:=h.lt;have HI:=Ab h.inv;have a9:Hid (Ac p.r.xs):=Ab (hr w (Tu.refl _ _)).2.1
 have bj:Hid (¬CO g v w.heap.size):=Ab fun hf=>by
  rcases hf with e|e
  ·omega
  ·have:=(World.ownsRow.lt h.own _ e).2;omega
 have HR:=Ab hr;have Z:=Ab P;generalize hW:w.alloc (.cells #[δ ε p.o,δ ε p.l,δ ε p.k,δ ε p.z,δ ε p.h,.slice p.r.a p.r.n p.r.c,ς p.r.s] 75)=W at*;have HX:=Ab hx;have ar:=Ab hB;obtain⟨q0,q1,q2,q3,q4,q5,q6⟩:PkAt W w.heap.size (δ ε p.o) (δ ε p.l) (δ ε p.k) (δ ε p.z) (δ ε p.h) (.slice p.r.a p.r.n p.r.c) (ς p.r.s):=⟨hx.at 0 rfl,hx.at 1 rfl,hx.at 2 rfl,hx.at 3 rfl,hx.at 4 rfl,hx.at 5 rfl,hx.at 6 rfl⟩
 have a1:Hid (∀Y,Tu (CO g v) W Y->PkAt Y w.heap.size (δ ε p.o) (δ ε p.l) (δ ε p.k) (δ ε p.z) (δ ε p.h) (.slice p.r.a p.r.n p.r.c) (ς p.r.s)):=Ab fun Y hY=>by
  have hk:=(Aa HX).tu hY (Aa bj);exact⟨hk.at 0 rfl,hk.at 1 rfl,hk.at 2 rfl,hk.at 3 rfl,hk.at 4 rfl,hk.at 5 rfl,hk.at 6 rfl⟩
 clear h hB P hx hr ht;go_enter func343,ntmps343;go_wp2_with fail;refine(Aa ba).mono ?_;rintro e w1 ⟨rfl,ad⟩;have aa:=Ab ad;clear ba q0 q1 q2 q3 q4 q5 q6;cases hT:Du m (ps.map PKV.pd) p.pd
 ·have HT:=Ab hT
  clear hT ad;go_wp2;go_ret;have bm:=Ad (Aa Z) (Aa aa);exact⟨by rw[Aa HT];rfl,v,ps,(Aa ar).below (Aa aa),by unfold Il;rw[if_neg (by rw[Aa HT];decide)],Tu.of_below bm,Cq.refl _ _⟩
 have HT:=Ab hT;have ab:=(Aa ar).below ad;have a7:=Ab ab;obtain⟨d0,d1⟩:=ab.cells (η _ _);obtain⟨a,c,hv, -, -, -⟩:=ab.at;have bp:=(SS hT).1;clear ad ab hT;by_cases av:ps.length=m
 ·have af:0<ps.length:=by omega
  obtain⟨A,y,bq⟩:∃A y,v=ζ (ν ⟨A,0,π⟩) ps.length y:=by
   rcases(Aa ar).own.2 with⟨_,e⟩|⟨A,y,_,e,_⟩
   ·omega
   ·exact⟨A,y,e⟩
  subst bq;clear hv;have bn:((ps.length:Int)==(m:Int))=true:=by rw[beq_iff_eq];omega
  have ax:=(LQ (ps.map PKV.pd) ps.length af).1;have az:Av w1.drew g B m (ζ (ν ⟨A,0,π⟩) ps.length y) ps:=(Aa a7).below (η _ _).drew;have bb:=Ab (hG g B m _ ps w1.drew az af);have a5:Hid ((ps.eraseIdx (goesTo (ps.map PKV.pd) ps.length)).map PKV.pd=leftD m (ps.map PKV.pd)):=Ab (by unfold leftD;rw[ω,if_pos (by omega),Uo])
  have bi:Hid (Be m ((ps.eraseIdx (goesTo (ps.map PKV.pd) ps.length)).map PKV.pd)):=Ab (by
   rw[Aa a5];have hI:=Aa HI;exact⟨by have:=(UZ (m:=m) hI.le bp).1;omega,fun q hq=>hI.ok q (GM q hq),fun q hq r hr=>hI.alk q (GM q hq) r (GM r hr),fun q hq=>hI.sm q (GM q hq)⟩)
  have a4:=Ab (fun(wx:World) (ho:OwnP wx B (ζ (ν ⟨A,0,π⟩) ps.length y) ps)=>lF B A y (goesTo (ps.map PKV.pd) ps.length) ps wx ho ax bo.2);have bs:goesTo (ps.map PKV.pd) ps.length<=256:=by omega
  have bg:Hid ((ps.eraseIdx (goesTo (ps.map PKV.pd) ps.length)).length=ps.length-1):=Ab (List.length_eraseIdx_of_lt ax);have bh:Hid (∀q∈ps.eraseIdx (goesTo (ps.map PKV.pd) ps.length),q∈ps):=Ab fun q hq=>List.mem_of_mem_eraseIdx hq;have a8:=Ab az;clear az ax av;generalize goesTo (ps.map PKV.pd) ps.length=G at*;generalize ps.eraseIdx G=es at*;go_wp2;go_region_held3 (fun w'=>w'.cell? ⟨g,0,π⟩=ν (δ ε (m:Int))/\w'.cell? ⟨g,1,π⟩=ν (ζ (ν ⟨A,0,π⟩) ps.length y)) (go_keep) (fail);go_wp2_with fail;refine(Aa bb).mono ?_;rintro e w2 ⟨rfl,au⟩;have ac:=(Aa a8).below au;have I:=Ab ac;obtain⟨y0,y1⟩:=ac.cells (η _ _);have a3:=Ab (Aa a4 w2 ac.own);have ah:=Ab (show Below W.heap.size W w2 from Ad (Ad (Aa aa) (η _ _).drew) au);clear au ac bb a8 a4 d0 d1;go_wp2_with fail;refine(Aa a3).mono ?_;rintro e w3 ⟨rfl,bf,aw⟩;have a0:Tu (fun j=>(Τ (ν ⟨A,0,π⟩) ps.length y).ownBlock=ν j) w2 w3:=Tu.of_gb aw fun j _ e=>e;have ae:Cq w2 (ζ (ν ⟨A,0,π⟩) ps.length y) (ζ (ν ⟨A,0,π⟩) (ps.length-1) y):=.inl rfl;have ay:=(Aa I).blk.kept aw (fun e=>(Aa I).blk.neP (Aa I).own (by decide) e.symm);have y2:=ay.at 1 rfl;have yf:=ay.frz 1;have a6:=Ab ((Aa I).puts a0 bf (((Aa I).rows.sub (Aa bh)).tu a0 fun j bl hc e=>(Aa I).words j bl hc (.inr e)) (Aa bi) ae);clear bf aw a0 ay a3 y0 y1;go_wp2_with fail;generalize hY:w3.setCell ⟨g,1,π⟩ (ζ (ν ⟨A,0,π⟩) (ps.length-1) y)=Y at*;obtain⟨f,H⟩:=Aa a6;have N:=Ab (H.after (Ad (Aa Z) (Aa ah)));have am:Hid (Cq w (ζ (ν ⟨A,0,π⟩) ps.length y) (ζ (ν ⟨A,0,π⟩) (ps.length-1) y)):=Ab (ae.new (Ad (Aa Z) (Aa ah)).size);have HS:=Ab f;have d:=OO p Y.drew ((Aa HR _ (Aa N)).below (η _ _).drew) (by omega) (by omega);unfold PKV.val at d;have aj:=Ab d;clear d;obtain⟨q0,q1,q2,q3,q4,q5,q6⟩:=Aa a1 Y (H.after (Aa ah));obtain⟨z0,br⟩:=f.cells (η _ _);have bd:es.length=ps.length-1:=Aa bg;have al:Hid (es.length<=1000000):=Ab (by omega)
  have an:Hid (ν g≠(Τ (ν ⟨A,0,π⟩) (ps.length-1) y).ownBlock):=Ab fun e=>f.blk.neP f.own (by decide) e.symm;have HL:=a5;clear f H hY a6 bd y2 yf
  go_region_law (first
   |(go_simp;go_at_call 344;refine(Aa aj).mono ?_;rintro e w5 ⟨a2,c2,rfl,T,R⟩;have D5:=Ab (show Below Y.heap.size Y w5 from Ad (η _ _).drew R);have u:=(Aa HS).below (Aa D5);have J:=Ab u;have ap:=Ab T;have z1:=(u.cells (η _ _)).2;have x:Below w5.heap.size w5 (w5.alloc (.cells #[δ ε p.o,δ ε p.l,δ ε p.k,δ ε p.z,δ ε p.h,ζ a2 p.r.n c2,ς p.r.s] 75)):=(η _ _).alloc (ο _) _;have C:=Ab x;have z2:=(u.cells x).2;have S:=heap_alloc_new w5 (.cells #[δ ε p.o,δ ε p.l,δ ε p.k,δ ε p.z,δ ε p.h,ζ a2 p.r.n c2,ς p.r.s] 75);have ao:=Ab S;have ai:=Ab (Β u.lob x.size);clear T R u x S)
   |(refine RP (by rfl) _ _ (by rfl) B (ζ (ν ⟨A,0,π⟩) (ps.length-1) y) es (p.cop a2 c2) (by rfl) ((Aa J).own.below (Aa C)) w5.heap.size (by rfl) (Aa ao) (Aa al) (Aa ai) ?_;intro g2 cap w6 X D O;have aq:=Ab X;have ak:=Ab D;have ag:=Ab O;have E:=((Aa J).below (Aa C)).blk.kept D (Aa an);have u1:=E.at 1 rfl;have uf:=E.frz 1;clear X D O E)
   |fail)
  all_goals go_wp2
  all_goals go_ret
  all_goals exact WB (Aa HS) (Aa N) (Aa am) (Aa D5) (Aa ap) (Aa C) (Aa aq) (Aa ak) (Aa ag) (Aa HL) (Aa HT) (Aa HI) (Aa a9)
 ·have bn:((ps.length:Int)==(m:Int))=false:=by rw[beq_eq_false_iff_ne];omega
  subst hv;go_wp2;go_region_held3 (fun w'=>w'.cell? ⟨g,0,π⟩=ν (δ ε (m:Int))/\w'.cell? ⟨g,1,π⟩=ν (ζ a ps.length c)) (go_keep) (fail);go_wp2_with fail;have f:Av w1.drew g B m (ζ a ps.length c) ps:=(Aa a7).below (η _ _).drew;have bc:Below W.heap.size W w1.drew:=Ad (Aa aa) (η _ _).drew;have H:Tu (CO g (ζ a ps.length c)) W w1.drew:=Tu.of_below bc;generalize hY:w1.drew=Y at*;have N:=Ab (H.after (Aa Z));have am:Hid (Cq w (ζ a ps.length c) (ζ a ps.length c)):=Ab (Cq.refl _ _);have HS:=Ab f;have d:=OO p Y.drew ((Aa HR _ (Aa N)).below (η _ _).drew) (by omega) (by omega);unfold PKV.val at d;have aj:=Ab d;clear d;obtain⟨q0,q1,q2,q3,q4,q5,q6⟩:=Aa a1 Y H;obtain⟨z0,br⟩:=f.cells (η _ _);have al:Hid (ps.length<=1000000):=Ab (by omega);have an:Hid (ν g≠(Τ a ps.length c).ownBlock):=Ab fun e=>f.blk.neP f.own (by decide) e.symm;have HL:Hid (ps.map PKV.pd=leftD m (ps.map PKV.pd)):=Ab (by unfold leftD;rw[ω,if_neg (by omega)]);clear f H bc hY d0 d1
  go_region_law (first
   |(go_simp;go_at_call 344;refine(Aa aj).mono ?_;rintro e w5 ⟨a2,c2,rfl,T,R⟩;have D5:=Ab (show Below Y.heap.size Y w5 from Ad (η _ _).drew R);have u:=(Aa HS).below (Aa D5);have J:=Ab u;have ap:=Ab T;have z1:=(u.cells (η _ _)).2;have x:Below w5.heap.size w5 (w5.alloc (.cells #[δ ε p.o,δ ε p.l,δ ε p.k,δ ε p.z,δ ε p.h,ζ a2 p.r.n c2,ς p.r.s] 75)):=(η _ _).alloc (ο _) _;have C:=Ab x;have z2:=(u.cells x).2;have S:=heap_alloc_new w5 (.cells #[δ ε p.o,δ ε p.l,δ ε p.k,δ ε p.z,δ ε p.h,ζ a2 p.r.n c2,ς p.r.s] 75);have ao:=Ab S;have ai:=Ab (Β u.lob x.size);clear T R u x S)
   |(refine RP (by rfl) _ _ (by rfl) B (ζ a ps.length c) ps (p.cop a2 c2) (by rfl) ((Aa J).own.below (Aa C)) w5.heap.size (by rfl) (Aa ao) (Aa al) (Aa ai) ?_;intro g2 cap w6 X D O;have aq:=Ab X;have ak:=Ab D;have ag:=Ab O;have E:=((Aa J).below (Aa C)).blk.kept D (Aa an);have u1:=E.at 1 rfl;have uf:=E.frz 1;clear X D O E)
   |fail)
  all_goals go_wp2
  all_goals go_ret
  all_goals exact WB (Aa HS) (Aa N) (Aa am) (Aa D5) (Aa ap) (Aa C) (Aa aq) (Aa ak) (Aa ag) (Aa HL) (Aa HT) (Aa HI) (Aa a9)
def kJ(ks:List PKV)(k:Nat)(a:k<ks.length):ks.take k++[ks.getD k .dflt]=ks.take (k+1):=by
 rw[φ a];simp[U,κ a]
def dS(w w':World)(ps:List PKV)(e:Ending):Prop:=∃b c us,e=.returned (ζ (ν ⟨b,0,π⟩) ps.length c)/\OwnP w' w.heap.size (ζ (ν ⟨b,0,π⟩) ps.length c) us/\Aq w' w.heap.size us/\us.map PKV.pd=ps.map PKV.pd/\Below w.heap.size w w'
def lE(g B m:Nat)(v:Value)(ps:List PKV)(w:World)(h:Av w g B m v ps):
  Calls Tryz.prog 340 #[.pointer (ν ⟨g,0,π⟩)] w fun e w'=>dS w w' ps e:=by
 have aq:=h.len.2;obtain⟨a,c,rfl,hP, -, -⟩:=h.at;have ar:=ZW ps.length (by omega);have HM:=Ab (ZU w ps.length (by omega) (D6 ps.length []) (gY _));have I:Below w.heap.size w (w.alloc (.cells (madeCells #[δ ε 0,δ ε 0,δ ε 0,δ ε 0,δ ε 0,ζ none 0 0,ς ⟨#[]⟩] (ps.length*7)) 75)):=(η _ _).alloc (ο _) _;obtain⟨k0,k1⟩:=h.cells (η _ _);obtain⟨j0,j1⟩:=h.cells I;have O:=Ab I;have HZ:=Ab (show w.heap.size+1<=(w.alloc (.cells (madeCells #[δ ε 0,δ ε 0,δ ε 0,δ ε 0,δ ε 0,ζ none 0 0,ς ⟨#[]⟩] (ps.length*7)) 75)).heap.size by rw[A7];exact ο _);have Hh:=Ab hP
 have ae:Hid (∀i,i<ps.length->(ps.getD i .dflt).r.n<=1048576/\(ps.getD i .dflt).r.s.size<=1048576):=Ab fun i hi=>by
  have h1:=(h.inv.get (i:=i) (by rw[ω];exact hi)).1;rw[Lq hi]at h1;have h2:=JZ h1;have h3:=(hP.2.1 i hi).1;have h4:(ps.getD i .dflt).r.xs.length<=2:=h2;have h5:=I5 h1;have h6:((ps.getD i .dflt).r.s.size:Int)=(ps.getD i .dflt).z:=h5.2.2.1;have h7:(ps.getD i .dflt).z<=64:=h5.2.2.2.2.2;omega
 clear h hP I;go_enter func340,ntmps340;go_wp2;go_loopw [19] (fun i wr=> ∃us:List PKV,us.length<=ps.length/\i=δ ε us.length/\Hid (OwnP wr w.heap.size (ζ (ν ⟨w.heap.size,0,π⟩) ps.length ps.length) (D6 ps.length us))/\Hid (Aq wr (w.heap.size+1) us)/\Hid (us.map PKV.pd=(ps.take us.length).map PKV.pd)/\Hid (Below w.heap.size w wr)/\Hid (w.heap.size+1<=wr.heap.size)) (fun i _=>ps.length-(intOf i).toNat)
 case atStart=>exact⟨[],Nat.zero_le _,rfl,HM,Ab (Aq.nil _ _),Ab rfl,O,HZ⟩
 case round=>
  obtain⟨us,hk,rfl,HI,HU,HC,N,E⟩:=hrel;clear HM O HZ;by_cases f:us.length<ps.length
  ·obtain⟨b,off,rfl,X⟩:=((Aa Hh).below (Aa N)).at f
   obtain⟨ai,aj,ak,al,am,an,ao⟩:=X us.length f;have ah:(us.length:Int)<(ps.length:Int):=by omega
   have C:=((Aa Hh).below (Aa N)).2.1 us.length f;have K:=Aa ae us.length f;have S:=Ab (kJ ps us.length f);generalize ps.getD us.length .dflt=p at*;have H:=Jh wr p;have u:=OO p _ (C.below H) K.1 K.2;unfold PKV.val at u;have P:=Ab u;have D:=Ab H;obtain⟨au,av,aw,ax,ay,az,a0⟩:=Fq wr (δ ε p.o) (δ ε p.l) (δ ε p.k) (δ ε p.z) (δ ε p.h) (.slice p.r.a p.r.n p.r.c) (ς p.r.s);clear X C H u K;go_wp2_with fail;refine(Aa P).mono ?_;rintro e w2 ⟨A,c2,rfl,Z,W⟩;have x:=Ad (Aa D) W;have y:=(Aa HI).below x;have Y:=eQ hk;have d:=fun j hj=>Oi (D6 ps.length us) us.length j (by omega) hj;have e0:=y.cellAt ((d 0 (by decide)).trans rfl);have e1:=y.cellAt ((d 1 (by decide)).trans rfl);have e2:=y.cellAt ((d 2 (by decide)).trans rfl);have e3:=y.cellAt ((d 3 (by decide)).trans rfl);have e4:=y.cellAt ((d 4 (by decide)).trans rfl);have e5:=y.cellAt ((d 5 (by decide)).trans rfl);have e6:=y.cellAt ((d 6 (by decide)).trans rfl);rw[Nat.add_zero]at e0;have T:w2.ownsRow w.heap.size 75 7 (ζ (ν ⟨w.heap.size,0,π⟩) ps.length ps.length) ps.length (cellsK (D6 ps.length us)):=by
    have:w2.ownsRow w.heap.size 75 7 (ζ (ν ⟨w.heap.size,0,π⟩) ps.length ps.length) (D6 ps.length us).length (cellsK (D6 ps.length us)):=y;rwa[Y]at this
   have ap:∀j,w2.frozen? ⟨w.heap.size,j,π⟩=false:=fun j=>T.frozenAt j;have J:=y.stored us.length (p.cop A c2);rw[gX _ f]at J;have hZ:=Β (Aa E) (Aa D).size;have aa:=(((Aa HU).below x).snoc (p:=p.cop A c2) (Z.mono hZ));have af:=Ab (aa.setK (us.length*7) (p.cop A c2) (Nat.lt_succ_self _))
   have ad:=Ab (show(us++[p.cop A c2]).map PKV.pd=(ps.take (us++[p.cop A c2]).length).map PKV.pd by
    rw[γ,θ,<-Aa S,ρ,ρ,Aa HC];rfl)
   have HS:=Ab J;have ac:=Ab (aU (Ad (Aa N) x) (ο _) (us.length*7) (p.cop A c2))
   have ag:=Ab (show w.heap.size+1<=(setK w2 w.heap.size (us.length*7) (p.cop A c2)).heap.size by
    rw[oD];have:=x.size;have:=Aa E;omega)
   have R:=Ab (show(us++[p.cop A c2]).length=us.length+1 by rw[γ];rfl);clear P D Z W x y T Y d J aa hZ HI N HU HC E S;generalize (D6 ps.length us).getD us.length .dflt=zz at*;go_wp2;go_roundw
   case rel=>exact⟨us++[p.cop A c2],by rw[Aa R];omega,by rw[Aa R];go_num,HS,af,ad,ac,ag⟩
   case measure=>simp[intOf];omega
  ·have ab:us.length=ps.length:=by omega
   rw[mB ab]at HI;rw[ab,Δ]at HC;go_wp2;go_ret;exact⟨_,_,us,rfl,Aa HI,(Aa HU).mono (Nat.le_succ _),Aa HC,Aa N⟩
variable {t:Int}{V:List (List Nat)}{c:List Nat}{Q:List PD}{b k i:Nat}{q:PD}{α:Type}
def cW(L:List PD)(a:List Int):List PD:=a.filterMap fun(i:Int)=>if 0<=i/\i<(L.length:Int)then ν (L.getD i.toNat .dflt)else none
def E6(Q:List PD):List Nat:=Q.foldl (fun a p=>xorL a p.xs) []
def Hd(Q:List PD):List Nat:=Q.foldl (fun a p=>xorL a (tx p.s)) []
def C0:List PD->Int
 |[]=>0
 |p::Q=>Q.foldl (fun a q=>max a q.h) p.h
def E5:List PD->Option PD
 |[]=>π
 |q::Q=>if (∀p∈Q,Bt q p=true)/\0<cnt (E6 (q::Q))/\C0 (q::Q)<15 then ν ⟨q.o,q.l,q.k,q.z,IntKind.i64.wrap (C0 (q::Q)+1),E6 (q::Q),st (Hd (q::Q))⟩else none
def Ij(L:List PD)(a:List Int):Option PD:=E5 (cW L a)
def KD(q:PD)(Q:List PD):E5 (q::Q)=if (∀p∈Q,Bt q p=true)/\0<cnt (E6 (q::Q))/\C0 (q::Q)<15 then ν ⟨q.o,q.l,q.k,q.z,IntKind.i64.wrap (C0 (q::Q)+1),E6 (q::Q),st (Hd (q::Q))⟩else none:=rfl
def MC:∀(Q:List PD) (a:Int),a<=Q.foldl (fun a q=>max a q.h) a/\(∀p∈Q,p.h<=Q.foldl (fun a q=>max a q.h) a)/\∀b,a<=b->(∀p∈Q,p.h<=b)->Q.foldl (fun a q=>max a q.h) a<=b
 |[],a=>⟨Int.le_refl _,(fun p hp=>by cases hp),fun b h _=>h⟩
 |q::Q,a=>by
  obtain⟨j,d,f⟩:=MC Q (max a q.h);rw[σ];refine⟨by omega,fun p hp=>?_,fun b l hp=>f b (by have:=hp q ι;omega) fun p g=>hp p (μ _ g)⟩;rcases List.mem_cons.1 hp with e|e
  ·rw[e];omega
  ·exact d p e
def QU{b:Int}(h:∀p∈q::Q,p.h<=b):C0 (q::Q)<=b:=(MC Q q.h).2.2 b (h q ι) fun p hp=>h p (μ _ hp)
def M4{p:PD}(h:p∈q::Q):p.h<=C0 (q::Q):=by
 rcases List.mem_cons.1 h with e|e
 ·rw[e];exact(MC Q q.h).1
 ·exact(MC Q q.h).2.1 p e
def ny{k:Int}{a b:List Nat}(f:Cm k a)(g:Cm k b):Cm k (xorL a b):=by
 obtain⟨h,j,a3⟩:=f;obtain⟨l,m,e⟩:=g;refine⟨by rw[BS];omega,by rw[BS];omega,fun i d=>?_⟩;rw[mN,a3 i d,e i d,Bool.xor_false]
def UA{k:Int}:∀(Q:List PD) (a:List Nat),Cm k a->(∀p∈Q,Cm k p.xs)->Cm k (Q.foldl (fun a p=>xorL a p.xs) a)
 |[],a,d,_=>d
 |q::Q,a,d,h=>by
  rw[σ];exact UA Q _ (ny d (h q ι)) fun p hp=>h p (μ _ hp)
def Xq{m:Nat}:∀(Q:List PD) (a:List Nat),a.length=m->(∀p∈Q,p.s.size=m)->(Q.foldl (fun a p=>xorL a (tx p.s)) a).length=m
 |[],a,d,_=>d
 |q::Q,a,d,h=>by
  rw[σ];refine Xq Q _ ?_ fun p hp=>h p (μ _ hp);rw[BS,AR,d,h q ι,Nat.max_self]
def UD(a:List Nat):xorL [] a=a:=by rw[KS,MH]
def ZZ{r:PD}(d:∀p∈q::Q,BM p=true)(h:E5 (q::Q)=ν r):BM r=true/\r.h=C0 (q::Q)+1:=by
 rw[KD]at h;by_cases f:(∀p∈Q,Bt q p=true)/\0<cnt (E6 (q::Q))/\C0 (q::Q)<15
 ·rw[if_pos f]at h
  obtain⟨j,o,C⟩:=f;obtain rfl:=Option.some.inj h;have y:=Gp.1 (d q ι);obtain⟨⟨A,x,w,H⟩,B,v,l⟩:=y;have E:=M4 (q:=q) (Q:=Q) (p:=q) ι;have g:IntKind.i64.wrap (C0 (q::Q)+1)=C0 (q::Q)+1:=by rw[IntKind.wrap_i64];omega
  refine⟨Gp.2 ⟨⟨A,x,w,?_,?_⟩,?_,o,?_⟩,g⟩
  ·show 0<=IntKind.i64.wrap (C0 (q::Q)+1)
   omega
  ·show IntKind.i64.wrap (C0 (q::Q)+1)<=15
   omega
  ·show Cm q.k (E6 (q::Q))
   unfold E6;rw[σ,UD];refine UA Q _ B fun p hp=>?_;have e:=(I5 (d p (μ _ hp))).1;have a:=j p hp;unfold Bt at a;rw[decide_eq_true_eq]at a;rw[a.2.2.1];exact e
  ·show((st (Hd (q::Q))).size:Int)=q.z
   unfold Hd;rw[Dq,σ,UD,Xq (m:=q.s.size) Q _ (AR _) fun p hp=>?_]
   ·exact l
   ·have e:=(I5 (d p (μ _ hp))).2.2.1
    have a:=j p hp;unfold Bt at a;rw[decide_eq_true_eq]at a;have u:=a.2.2.2;have D:(p.s.size:Int)=(q.s.size:Int):=by rw[e,<-u,<-l]
    omega
 ·rw[if_neg f]at h;cases h
def Cr(n:Nat)(a:List Int):List Nat:=a.foldl (fun c i=>if 0<=i/\i<(n:Int)then c.set i.toNat (c.getD i.toNat 0+1)else c) (υ n 0)
def KQ(n:Nat):Cr n []=υ n 0:=rfl
def JE(n:Nat)(a:List Int)(i:Int):Cr n (a++[i])=if 0<=i/\i<(n:Int)then(Cr n a).set i.toNat ((Cr n a).getD i.toNat 0+1)else Cr n a:=by
 unfold Cr;rw[Ο];rfl
def KV{P:List α->Prop}(d:P [])(e:∀l a,P l->P (l++[a])):∀l,P l:=fun l=>by
 have:∀k,k<=l.length->P (l.take k):=fun k=>by
  induction k with
  |zero=>intro _;rw[List.take_zero];exact d
  |succ k g=>intro h;rw[φ (by omega)];exact e _ _ (g (by omega))
 have f:=this l.length (ο _);rwa[Δ]at f
def KP(n:Nat)(a:List Int):(Cr n a).length=n:=by
 refine KV (P:=fun a=>(Cr n a).length=n) (by rw[KQ,χ]) (fun l i d=>?_) a;rw[JE];split
 ·rw[Θ,d]
 ·exact d
def Wb(n:Nat)(a:List Int):∀b,(Cr n a).getD b 0<=a.length:=by
 refine KV (P:=fun a=> ∀b,(Cr n a).getD b 0<=a.length) (fun b=>?_) (fun l i d b=>?_) a
 ·rw[KQ,U,τ]
  split<;>simp
 ·rw[JE,γ,θ]
  split
  ·rw[DT]
   have:=d b;have:=d i.toNat;split<;>omega
  ·have:=d b
   omega
def BW{α:Type}(dd:α)(l:List α)(c:List Nat):Nat->List α
 |0=>[]
 |k+1=>if c.getD k 0=0 then BW dd l c k else if c.getD k 0%2=0 then BW dd l c k++[l.getD k dd]++[l.getD k dd]else BW dd l c k++[l.getD k dd]
def Fm{dd:α}{l:List α}(h:c.getD k 0=0):BW dd l c (k+1)=BW dd l c k:=if_pos h
def ER{dd:α}{l:List α}(h:c.getD k 0≠0)(a:c.getD k 0%2=0):BW dd l c (k+1)=BW dd l c k++[l.getD k dd]++[l.getD k dd]:=(if_neg h).trans (if_pos a)
def Ed{dd:α}{l:List α}(h:c.getD k 0≠0)(a:¬c.getD k 0%2=0):BW dd l c (k+1)=BW dd l c k++[l.getD k dd]:=(if_neg h).trans (if_neg a)
def Pd{α:Type}{dd:α}{l:List α}{c:List Nat}{b x:Nat}:∀n,n<=b->BW dd l (c.set b x) n=BW dd l c n
 |0,_=>rfl
 |n+1,h=>by
  have e:(c.set b x).getD n 0=c.getD n 0:=by rw[DT,if_neg (by omega)]
  show(if _ then _ else _)=(if _ then _ else _);rw[e,Pd n (by omega)]
def H3{α:Type}(g:α->List Nat)(Q:List α):List Nat:=Q.foldl (fun a p=>xorL a (g p)) []
def ET(g:α->List Nat)(Q:List α)(p:α):H3 g (Q++[p])=xorL (H3 g Q) (g p):=by
 unfold H3;rw[Ο];rfl
def jj(a b:List Nat):xorL (xorL (xorL a b) b) b=xorL a b:=by
 apply Ee
 ·simp only[BS];omega
 ·intro i _
  simp only[Do];rw[Κ,Nat.xor_self,Nat.xor_zero]
def Oe(a b c:List Nat):xorL (xorL a b) c=xorL (xorL a c) b:=by
 apply Ee
 ·simp only[BS];omega
 ·intro i _
  simp only[Do];rw[Κ,Nat.xor_comm (b.getD i 0),<-Κ]
def M6{x:Nat}(h:b<c.length):(c.set b x).getD b 0=x:=by rw[DT,if_pos ⟨rfl,h⟩]
def Nh{x:Nat}(h:i≠b):(c.set b x).getD i 0=c.getD i 0:=by rw[DT,if_neg (fun e=>h e.1)]
def SY{α:Type}{dd:α}(g:α->List Nat){l:List α}{c:List Nat}{b:Nat}(j:b<c.length):∀n,b<n->H3 g (BW dd l (c.set b (c.getD b 0+1)) n)=xorL (H3 g (BW dd l c n)) (g (l.getD b dd))
 |0,h=>by omega
 |n+1,h=>by
  by_cases e:n=b
  ·subst e
   have m:(c.set n (c.getD n 0+1)).getD n 0=c.getD n 0+1:=M6 j;have d:BW dd l (c.set n (c.getD n 0+1)) n=BW dd l c n:=Pd n (ο _);by_cases z:c.getD n 0=0
   ·rw[Ed (by omega) (by omega),Fm z,d,ET]
   ·by_cases a:c.getD n 0%2=0
    ·rw[Ed (by omega) (by omega),ER z a,d,ET,ET,ET,jj]
    ·rw[ER (by omega) (by omega),Ed z a,d,ET,ET]
  ·have f:=SY (dd:=dd) g (l:=l) j n (by omega)
   have m:(c.set b (c.getD b 0+1)).getD n 0=c.getD n 0:=Nh e;by_cases z:c.getD n 0=0
   ·rw[Fm (by omega),Fm z,f]
   ·by_cases a:c.getD n 0%2=0
    ·rw[ER (by omega) (by omega),ER z a,ET,ET,ET,ET,f,Oe _ (g (l.getD b dd)),Oe _ (g (l.getD b dd))]
    ·rw[Ed (by omega) (by omega),Ed z a,ET,ET,f,Oe]
def U0{α:Type}{dd:α}{l:List α}{c:List Nat}{b:Nat}(f:b<c.length):∀n,(BW dd l (c.set b (c.getD b 0+1)) n).length<=(BW dd l c n).length+(if b<n then 1 else 0)
 |0=>Nat.zero_le _
 |n+1=>by
  have h:=U0 (dd:=dd) (l:=l) f n;by_cases e:n=b
  ·subst e
   have g:(c.set n (c.getD n 0+1)).getD n 0=c.getD n 0+1:=M6 f;have d:BW dd l (c.set n (c.getD n 0+1)) n=BW dd l c n:=Pd n (ο _);rw[if_pos (by omega)];by_cases z:c.getD n 0=0
   ·rw[Ed (by omega) (by omega),Fm z,d,γ,θ]
    exact ο _
   ·by_cases a:c.getD n 0%2=0
    ·rw[Ed (by omega) (by omega),ER z a,d]
     simp only[γ,θ];omega
    ·rw[ER (by omega) (by omega),Ed z a,d]
     simp only[γ,θ];omega
  ·have g:(c.set b (c.getD b 0+1)).getD n 0=c.getD n 0:=Nh e
   rw[show(if b<n+1 then 1 else 0)=(if b<n then 1 else 0) by split<;>split<;>omega];by_cases z:c.getD n 0=0
   ·rw[Fm (by omega),Fm z];exact h
   ·by_cases a:c.getD n 0%2=0
    ·rw[ER (by omega) (by omega),ER z a]
     simp only[γ,θ];omega
    ·rw[Ed (by omega) (by omega),Ed z a]
     simp only[γ,θ];omega
def Qi{α:Type}{dd:α}{l:List α}{c:List Nat}{p:α}:∀n,p∈BW dd l c n↔∃i,i<n/\c.getD i 0≠0/\p=l.getD i dd
 |0=>by
  constructor
  ·intro h;cases h
  ·rintro⟨i,h,_⟩;omega
 |n+1=>by
  have m:=Qi (dd:=dd) (l:=l) (c:=c) (p:=p) n;have f:(∃i,i<n+1/\c.getD i 0≠0/\p=l.getD i dd)↔(∃i,i<n/\c.getD i 0≠0/\p=l.getD i dd)\/(c.getD n 0≠0/\p=l.getD n dd):=by
   constructor
   ·rintro⟨i,j,a,d⟩
    rcases Ε i n with e|e
    ·exact .inl ⟨i,e,a,d⟩
    ·obtain rfl:i=n:=by omega
     exact .inr ⟨a,d⟩
   ·rintro(⟨i,j,a,d⟩|⟨a,d⟩)
    ·exact⟨i,by omega,a,d⟩
    ·exact⟨n,by omega,a,d⟩
  rw[f,<-m];by_cases z:c.getD n 0=0
  ·rw[Fm z]
   exact⟨.inl,fun h=>h.elim id fun h=>absurd z h.1⟩
  ·by_cases g:c.getD n 0%2=0
   ·rw[ER z g,Α,Α,Γ]
    constructor
    ·rintro((h|h)|h)
     ·exact .inl h
     ·exact .inr ⟨z,h⟩
     ·exact .inr ⟨z,h⟩
    ·rintro(h|h)
     ·exact .inl (.inl h)
     ·exact .inr h.2
   ·rw[Ed z g,Α,Γ]
    constructor
    ·rintro(h|h)
     ·exact .inl h
     ·exact .inr ⟨z,h⟩
    ·rintro(h|h)
     ·exact .inl h
     ·exact .inr h.2
def F0{α:Type}(dd:α)(l:List α)(a:List Int):List α:=a.filterMap fun(i:Int)=>if 0<=i/\i<(l.length:Int)then ν (l.getD i.toNat dd)else none
def UT{dd:α}(l:List α)(a:List Int)(i:Int):F0 dd l (a++[i])=if 0<=i/\i<(l.length:Int)then F0 dd l a++[l.getD i.toNat dd]else F0 dd l a:=by
 unfold F0;rw[List.filterMap_append];by_cases h:0<=i/\i<(l.length:Int)
 ·rw[if_pos h,Λ,Ν,if_pos h]
 ·rw[if_neg h,Λ,Ν,if_neg h]
  exact Η _
def VU{dd:α}{l:List α}{d:List Int}{p:α}(h:p∈F0 dd l d):p∈l:=by
 obtain⟨i,_,a⟩:=List.mem_filterMap.1 h;split at a
 ·rename_i e
  rw[<-Option.some.inj a,U,κ (show i.toNat<l.length by omega)];exact List.getElem_mem _
 ·cases a
def atL{α:Type}(dd:α)(l:List α)(a:List Int):List α:=BW dd l (Cr l.length a) l.length
def Ms{α:Type}{dd:α}(l:List α):∀n,BW dd l (υ l.length 0) n=[]
 |0=>rfl
 |n+1=>by
  rw[Fm,Ms l n];rw[U,τ];split<;>rfl
def WE{dd:α}(g:α->List Nat)(l:List α)(a:List Int):H3 g (atL dd l a)=H3 g (F0 dd l a):=by
 refine KV (P:=fun a=>H3 g (atL dd l a)=H3 g (F0 dd l a)) ?_ (fun a i d=>?_) a
 ·unfold atL;rw[KQ,Ms];rfl
 ·unfold atL
  rw[JE,UT];by_cases h:0<=i/\i<(l.length:Int)
  ·rw[if_pos h,if_pos h,SY g (by rw[KP];omega) _ (by omega),ET,<-d]
   rfl
  ·rw[if_neg h,if_neg h,<-d]
   rfl
def YR{dd:α}(l:List α)(a:List Int):(atL dd l a).length<=a.length:=by
 refine KV (P:=fun a=>(atL dd l a).length<=a.length) ?_ (fun a i d=>?_) a
 ·unfold atL;rw[KQ,Ms];exact ο _
 ·unfold atL
  rw[JE,γ,θ];by_cases h:0<=i/\i<(l.length:Int)
  ·rw[if_pos h]
   have e:=U0 (dd:=dd) (l:=l) (c:=Cr l.length a) (b:=i.toNat) (by rw[KP];omega) l.length;rw[if_pos (by omega)]at e;unfold atL at d;omega
  ·rw[if_neg h]
   unfold atL at d;omega
def WD{dd:α}{l:List α}{a:List Int}{p:α}:p∈atL dd l a↔p∈F0 dd l a:=by
 refine KV (P:=fun a=>p∈atL dd l a↔p∈F0 dd l a) ?_ (fun a i m=>?_) a
 ·unfold atL;rw[KQ,Ms];exact Iff.rfl
 ·unfold atL at m⊢
  rw[JE,UT];by_cases h:0<=i/\i<(l.length:Int)
  ·rw[if_pos h,if_pos h,Α,Γ,<-m,Qi,Qi]
   have o:i.toNat<(Cr l.length a).length:=by rw[KP];omega
   constructor
   ·rintro⟨j,f,g,d⟩
    by_cases e:j=i.toNat
    ·subst e;exact .inr d
    ·rw[Nh e]at g
     exact .inl ⟨j,f,g,d⟩
   ·rintro(⟨j,f,g,d⟩|d)
    ·by_cases e:j=i.toNat
     ·subst e
      exact⟨i.toNat,f,by rw[M6 o];omega,d⟩
     ·exact⟨j,f,by rw[Nh e];exact g,d⟩
    ·exact⟨i.toNat,by omega,by rw[M6 o];omega,d⟩
  ·rw[if_neg h,if_neg h,m]
def Vv{α β:Type}{dd:α}(f:α->β)(l:List α)(c:List Nat):∀n,n<=l.length->(BW dd l c n).map f=BW (f dd) (l.map f) c n
 |0,_=>rfl
 |n+1,h=>by
  have d:=Vv (dd:=dd) f l c n (by omega);have e:f (l.getD n dd)=(l.map f).getD n (f dd):=by
   rw[U,κ (show n<l.length by omega),U,Ρ,κ (show n<l.length by omega)];rfl
  by_cases z:c.getD n 0=0
  ·rw[Fm z,Fm z,d]
  ·by_cases a:c.getD n 0%2=0
   ·rw[ER z a,ER z a,ρ,ρ,d,Ξ,e]
   ·rw[Ed z a,Ed z a,ρ,d,Ξ,e]
def YS{β:Type}{dd:α}(f:α->β)(l:List α)(a:List Int):(atL dd l a).map f=atL (f dd) (l.map f) a:=by
 unfold atL;rw[Vv f l _ _ (ο _),ω]
def lV{P:List PD}(a:∀p,p∈P↔p∈Q)(u:E6 P=E6 Q)(ht:Hd P=Hd Q):E5 P=E5 Q:=by
 cases P with
 |nil=>
  cases Q with
  |nil=>rfl
  |cons q Q=>exact absurd ((a q).2 ι) (by simp)
 |cons p P=>
  cases Q with
  |nil=>exact absurd ((a p).1 ι) (by simp)
  |cons q Q=>
   have s:C0 (p::P)=C0 (q::Q):=by
    apply Int.le_antisymm
    ·exact QU fun r g=>M4 ((a r).1 g)
    ·exact QU fun r g=>M4 ((a r).2 g)
   have f:∀{p q:PD} {P Q:List PD},(∀r,r∈p::P↔r∈q::Q)->(∀r∈P,Bt p r=true)->(∀r∈Q,Bt q r=true)/\Bt p q=true:=by
    intro p q P Q a h
    have d:∀r∈p::P,Bt p r=true:=fun r g=>by
     rcases List.mem_cons.1 g with e|e
     ·rw[e];exact Pc _
     ·exact h r e
    have m:Bt p q=true:=d q ((a q).2 ι);exact⟨fun r g=>Tw (Vu m) (d r ((a r).2 (μ _ g))),m⟩
   rw[KD,KD,u,ht,s];by_cases h:∀r∈P,Bt p r=true
   ·obtain⟨o,j⟩:=f a h
    by_cases l:0<cnt (E6 (q::Q))/\C0 (q::Q)<15
    ·rw[if_pos ⟨h,l⟩,if_pos ⟨o,l⟩]
     unfold Bt at j;rw[decide_eq_true_eq]at j;rw[j.1,j.2.1,j.2.2.1,j.2.2.2]
    ·rw[if_neg (fun e=>l e.2),if_neg (fun e=>l e.2)]
   ·rw[if_neg (fun e=>h e.1),if_neg (fun e=>h (f (fun r=>(a r).symm) e.1).1)]
def ZY(L:List PD)(a:List Int):E5 (atL .dflt L a)=Ij L a:=lV (fun p=>WD) (WE (fun p:PD=>p.xs) L a) (WE (fun p:PD=>tx p.s) L a)
def DN(d:Nat)(t:Int):Int:=if (d:Int)<t then t-d else d-t
def OD(d:Nat)(t:Int):0<=DN d t:=by unfold DN;split<;>omega
def F1(V:List (List Nat))(v:List Nat)(i:Nat):Nat:=cnt (xorL v (V.getD i []))
def Gt(V:List (List Nat))(ch:List Bool)(v:List Nat)(t:Int)(i:Nat)(z:Int):Prop:=ch.getD i false=false/\0<F1 V v i/\DN (F1 V v i) t<z
def ZM(V:List (List Nat))(ch:List Bool)(v:List Nat)(t:Int)(i:Nat)(z:Int):Decidable (Gt V ch v t i z):=
 inferInstanceAs (Decidable (ch.getD i false=false/\0<F1 V v i/\DN (F1 V v i) t<z))
def BI(V:List (List Nat))(ch:List Bool)(v:List Nat)(t:Int):Nat->Option Nat×Int
 |0=>(π,DN (cnt v) t)
 |i+1=> @ite _ (Gt V ch v t i (BI V ch v t i).2) (ZM V ch v t i (BI V ch v t i).2) (ν i,DN (F1 V v i) t) (BI V ch v t i)
def Ow{ch:List Bool}{v:List Nat}(h:Gt V ch v t i (BI V ch v t i).2):BI V ch v t (i+1)=(ν i,DN (F1 V v i) t):=by
 exact if_pos h
def OT{ch:List Bool}{v:List Nat}(h:¬Gt V ch v t i (BI V ch v t i).2):BI V ch v t (i+1)=BI V ch v t i:=by
 exact if_neg h
def Tx(V:List (List Nat))(ch:List Bool)(v:List Nat)(t:Int):∀n,(BI V ch v t n).2<=DN (cnt v) t/\(∀j,j<n->¬Gt V ch v t j (BI V ch v t n).2)/\
  match (BI V ch v t n).1 with
  |none=>(BI V ch v t n).2=DN (cnt v) t
  |some b=>b<n/\Gt V ch v t b (DN (cnt v) t)/\(BI V ch v t n).2=DN (F1 V v b) t/\∀j,j<b->¬Gt V ch v t j (DN (F1 V v b) t+1)
 |0=>⟨Int.le_refl _,fun j f=>by omega,rfl⟩
 |n+1=>by
  obtain⟨m,g,d⟩:=Tx V ch v t n;by_cases h:Gt V ch v t n (BI V ch v t n).2
  ·rw[Ow h]
   refine⟨by have:=h.2.2;omega,fun j f a=>?_,by omega,⟨h.1,h.2.1,by have:=h.2.2;omega⟩,rfl,fun j f a=>g j f ⟨a.1,a.2.1,by have:=a.2.2;have:=h.2.2;omega⟩⟩;rcases Ε j n with e|e
   ·exact g j e ⟨a.1,a.2.1,Int.lt_trans a.2.2 h.2.2⟩
   ·obtain rfl:j=n:=by omega
    have:=a.2.2;dsimp only at this;omega
  ·rw[OT h]
   refine⟨m,fun j f=>?_,?_⟩
   ·rcases Ε j n with e|e
    ·exact g j e
    ·obtain rfl:j=n:=by omega
     exact h
   ·cases l:(BI V ch v t n).1 with
    |none=>rw[l]at d;exact d
    |some b=>rw[l]at d;exact⟨by have:=d.1;omega,d.2⟩
def Q6{ch:List Bool}{x:Bool}(a:b<ch.length):(ch.set b x).getD b false=x:=by
 rw[U,List.getElem?_set_self a];rfl
def VW{ch:List Bool}{x:Bool}(h:i≠b):(ch.set b x).getD i false=ch.getD i false:=by
 rw[U,U,List.getElem?_set_ne (fun e=>h e.symm)]
def Gk(ch:List Bool)(n:Nat):List Nat:=(ξ n).filter fun i=>ch.getD i false
def SH(ch:List Bool)(n:Nat):(Gk ch n).Pairwise (· < ·):=List.Pairwise.filter _ Ι
def iv{ch:List Bool}{n:Nat}:i∈Gk ch n↔i<n/\ch.getD i false=true:=by
 unfold Gk;rw[List.mem_filter,List.mem_range]
structure CS where
 ch:List Bool
 v:List Nat
def Hx(V:List (List Nat))(t:Int)(s:CS):CS:=match (BI V s.ch s.v t V.length).1 with
 |none=>s
 |some b=>⟨s.ch.set b true,xorL s.v (V.getD b [])⟩
def BC(V:List (List Nat))(t:Int)(p:Nat):Nat->CS
 |0=>⟨(υ V.length false).set p true,V.getD p []⟩
 |k+1=>Hx V t (BC V t p k)
def oP{s:CS}(h:(BI V s.ch s.v t V.length).1=π):Hx V t s=s:=by unfold Hx;rw[h]
def oQ{s:CS}(h:(BI V s.ch s.v t V.length).1=ν b):Hx V t s=⟨s.ch.set b true,xorL s.v (V.getD b [])⟩:=by unfold Hx;rw[h]
def VC{V:List (List Nat)}{t:Int}{p k:Nat}(h:(BI V (BC V t p k).ch (BC V t p k).v t V.length).1=π):∀j,BC V t p (k+j)=BC V t p k
 |0=>rfl
 |j+1=>by
  show Hx V t (BC V t p (k+j))=_;rw[VC h j,oP h]
variable {L:List Nat}
def BF(L:List Nat)(n:Nat):Nat:=if n<=L.length then L.getD (n-1) 0 else n*11400714819323198485%18446744073709551616
def oX{n:Nat}(h:n<L.length):BF L (n+1)=L.getD n 0:=by
 unfold BF;rw[if_pos (by omega),Nat.add_sub_cancel]
def kw{n:Nat}(h:L.length<n):BF L n=n*11400714819323198485%18446744073709551616:=by
 unfold BF;rw[if_neg (by omega)]
def Vc(h:Ac L)(n:Nat):BF L n<18446744073709551616:=by
 unfold BF;split
 ·exact h.get _
 ·omega
def BV(L:List Nat)(N:Nat)(a:List Nat):Nat->List Nat
 |0=>a
 |k+1=>(BV L N a k).eraseIdx (BF L (N+k+1)%(BV L N a k).length)
def Eg(L:List Nat)(N:Nat)(a:List Nat):Nat->List Nat
 |0=>[]
 |k+1=>Eg L N a k++[(BV L N a k).getD (BF L (N+k+1)%(BV L N a k).length) 0]
def NE(L:List Nat)(N:Nat)(a:List Nat):∀k,k<=a.length->(BV L N a k).length=a.length-k
 |0,_=>rfl
 |k+1,h=>by
  have e:=NE L N a k (by omega);have d:BF L (N+k+1)%(BV L N a k).length<(BV L N a k).length:=Nat.mod_lt _ (by omega);show((BV L N a k).eraseIdx _).length=_;rw[List.length_eraseIdx,if_pos d,e];omega
def LM(L:List Nat)(N:Nat)(a:List Nat):∀k,(Eg L N a k).length=k
 |0=>rfl
 |k+1=>by
  show(Eg L N a k++[_]).length=_;rw[γ,LM L N a k];rfl
def gS(l:List Nat)(j:Nat)(h:j<l.length):(l.getD j 0::l.eraseIdx j).Perm l:=by
 rw[ψ];have e:l=l.take j++l.getD j 0::l.drop (j+1):=by
  rw[U,κ h];simp
 exact(List.perm_middle.symm).trans (List.Perm.of_eq e.symm)
def Tl(L:List Nat)(N:Nat)(a:List Nat):∀k,k<=a.length->(Eg L N a k++BV L N a k).Perm a
 |0,_=>List.Perm.refl _
 |k+1,h=>by
  have e:=Tl L N a k (by omega);have f:=NE L N a k (by omega);have d:BF L (N+k+1)%(BV L N a k).length<(BV L N a k).length:=Nat.mod_lt _ (by omega);show((Eg L N a k++[_])++(BV L N a k).eraseIdx _).Perm a;rw[List.append_assoc];exact(List.Perm.append_left _ (gS _ _ d)).trans e
def Dd(L:List Nat)(N n k:Nat):List Nat:=(ξ n).filter fun i=>decide (i∉BV L N (ξ n) k)
def Ul(L:List Nat)(N n k:Nat)(h:k<=n):(Eg L N (ξ n) k).Perm (Dd L N n k):=by
 have hp:=Tl L N (ξ n) k (by simpa using h);have m:=hp.symm.nodup List.nodup_range;obtain⟨_,_,l⟩:=List.nodup_append.1 m;have e:=hp.filter fun i=>decide (i∉BV L N (ξ n) k);have f:(Eg L N (ξ n) k).filter (fun i=>decide (i∉BV L N (ξ n) k))=Eg L N (ξ n) k:=List.filter_eq_self.2 fun a d=>by simpa using fun j=>l a d a j rfl
 have g:(BV L N (ξ n) k).filter (fun i=>decide (i∉BV L N (ξ n) k))=[]:=List.filter_eq_nil_iff.2 fun a d=>by simp[d]
 rw[List.filter_append,f,g,Η]at e;exact e
def RX(L:List Nat)(N n k:Nat)(h:k<=n):(Dd L N n k).length=k:=by
 rw[<-(Ul L N n k h).length_eq,LM]
def A4(l:List Nat):List Int:=l.map fun(x:Nat)=>(x:Int)
def Ir(l:List Nat):(A4 l).length=l.length:=by simp[A4]
def L2(l:List Nat)(i:Nat):(A4 l).getD i 0=((l.getD i 0:Nat):Int):=by
 simp only[A4,U,Ρ];cases l[i]? <;>rfl
def RR(l m:List Nat):A4 (l++m)=A4 l++A4 m:=by simp[A4]
def eg(l:List Nat)(j:Nat):A4 (l.eraseIdx j)=(A4 l).eraseIdx j:=by
 simp[A4,ψ,List.map_take,List.map_drop]
def km(L:List Nat)(N n k:Nat)(h:k<=n):(A4 (Eg L N (ξ n) k)).mergeSort (fun x y=>decide (x<=y))=A4 (Dd L N n k):=by
 have hp:((A4 (Eg L N (ξ n) k)).mergeSort fun x y=>decide (x<=y)).Perm (A4 (Dd L N n k)):=(Μ _ _).trans ((Ul L N n k h).map _);refine List.Perm.eq_of_pairwise (le:=fun x y:Int=>x<=y) (fun a b _ _ d e=>Int.le_antisymm d e) ?_ ?_ hp
 ·have:=Ζ (le:=fun x y:Int=>decide (x<=y)) (fun a b c d e=>by simp at*;omega) (fun a b=>by simp;omega) (A4 (Eg L N (ξ n) k))
  exact this.imp fun h=>by simpa using h
 ·have:(Dd L N n k).Pairwise (· < ·):=List.Pairwise.filter _ Ι
  exact List.Pairwise.map _ (fun a b f=>by omega) this
def pH(L:List Nat)(N n k i:Nat)(h:i<(Dd L N n k).length):(Dd L N n k).getD i 0<n:=by
 have a:(Dd L N n k)[i]∈Dd L N n k:=List.getElem_mem h;have:=(List.mem_filter.1 a).1;simpa [U,κ h]using this
variable {ch:List Bool}{ps:List Nat}{n:Nat}
structure Fa(n:Nat)(ch:List Bool)(ps:List Nat):Prop where
 len:ch.length=n
 nodup:ps.Nodup
 lt:∀i∈ps,i<n
 mem:∀i,i<n->ch.getD i false=decide (i∈ps)
def Yu{p:Nat}(hp:p<n):Fa n ((υ n false).set p true) [p]:=by
 refine⟨by rw[Θ,χ],by simp,fun i a=>by rw[List.mem_singleton.1 a];exact hp,fun i a=>?_⟩;by_cases e:i=p
 ·subst e
  rw[Q6 (by rw[χ];exact a)];simp
 ·rw[VW e,U,τ,if_pos a]
  simp[e]
def Fa.snoc(h:Fa n ch ps){b:Nat}(f:b<n)(l:ch.getD b false=false):Fa n (ch.set b true) (ps++[b]):=by
 have m:b∉ps:=by
  have:=h.mem b f;rw[l]at this;exact fun e=>by rw[decide_eq_true e]at this;cases this
 refine⟨by rw[Θ,h.len],?_,fun i d=>?_,fun i d=>?_⟩
 ·rw[List.nodup_append]
  refine⟨h.nodup,by simp,fun a g c j e=>m ?_⟩;rw[<-List.mem_singleton.1 j,<-e];exact g
 ·rcases List.mem_append.1 d with e|e
  ·exact h.lt i e
  ·rw[List.mem_singleton.1 e];exact f
 ·by_cases e:i=b
  ·subst e
   rw[Q6 (by rw[h.len];exact d)];simp
  ·rw[VW e,h.mem i d]
   simp[e]
def Fa.many(h:Fa n ch ps):ps.Perm (Gk ch n):=by
 have e:(Gk ch n).Nodup:=(SH ch n).imp fun h=>Nat.ne_of_lt h;refine(List.perm_ext_iff_of_nodup h.nodup e).2 fun i=>?_;rw[iv];constructor
 ·intro a
  exact⟨h.lt i a,by rw[h.mem i (h.lt i a)];exact decide_eq_true a⟩
 ·rintro⟨f,d⟩
  rw[h.mem i f]at d;exact of_decide_eq_true d
def Fa.sort(h:Fa n ch ps):(A4 ps).mergeSort (fun x y=>decide (x<=y))=A4 (Gk ch n):=by
 have hp:((A4 ps).mergeSort fun x y=>decide (x<=y)).Perm (A4 (Gk ch n)):=(Μ _ _).trans (h.many.map _);refine List.Perm.eq_of_pairwise (le:=fun x y:Int=>x<=y) (fun a b _ _ d e=>Int.le_antisymm d e) ?_ ?_ hp
 ·have:=Ζ (le:=fun x y:Int=>decide (x<=y)) (fun a b c d e=>by simp at*;omega) (fun a b=>by simp;omega) (A4 ps)
  exact this.imp fun h=>by simpa using h
 ·exact List.Pairwise.map _ (fun a b f=>by omega) (SH ch n)
def qv(ps:List Nat)(i:Nat):decide ((i:Int)∈A4 ps)=decide (i∈ps):=by
 have:((i:Int)∈A4 ps)↔i∈ps:=by
  unfold A4;rw[List.mem_map];constructor
  ·rintro⟨j,a,d⟩
   have:j=i:=by omega
   rw[<-this];exact a
  ·exact fun h=>⟨i,h,rfl⟩
 simp only[this]
def pD(a v:List Nat):cnt (a.take (min a.length v.length))<=cnt a/\cnt a-cnt (a.take (min a.length v.length))+cnt (xorL (a.take (min a.length v.length)) v)=cnt (xorL a v):=by
 have g:cnt (a.take (min a.length v.length))+cnt (a.drop (min a.length v.length))=cnt a:=by rw[<-On,List.take_append_drop]
 refine⟨by omega,?_⟩;rcases Ε a.length v.length with h|h
 ·rw[Nat.min_eq_left (Nat.le_of_lt h),Δ]
  omega
 ·have d:xorL a v=xorL (a.take (min a.length v.length)) v++a.drop (min a.length v.length):=by
   rw[Nat.min_eq_right h];apply Ee
   ·rw[BS,γ,BS,List.length_take,List.length_drop]
    omega
   ·intro i m
    rw[Do,U (l:=_++_),List.getElem?_append];have f:(xorL (a.take v.length) v).length=v.length:=by rw[BS,List.length_take];omega
    rw[f];by_cases e:i<v.length
    ·rw[if_pos e,<-U,Do]
     congr 1;rw[U,U,List.getElem?_take,if_pos e]
    ·rw[if_neg e,Ge (a:=v) (by omega),Nat.xor_zero,List.getElem?_drop,U]
     congr 2;omega
  have j:cnt (xorL a v)=cnt (xorL (a.take (min a.length v.length)) v)+cnt (a.drop (min a.length v.length)):=by rw[d,On]
  omega
def distN(d:Nat)(t:Int):Nat:=(DN d t).toNat
def St(d:Nat)(t:Int):((distN d t:Nat):Int)=DN d t:=Int.toNat_of_nonneg (OD d t)
def lL{V:List (List Nat)}{t:Int}{p k:Nat}(a:k<=31)(h:(BI V (BC V t p k).ch (BC V t p k).v t V.length).1=π):BC V t p k=BC V t p 31:=by
 have:=VC h (31-k);rw[show k+(31-k)=31 by omega]at this;exact this.symm
def VD{V:List (List Nat)}{t:Int}{p:Nat}{m:Nat}(a:∀i,(V.getD i []).length<=m):∀k,(BC V t p k).v.length<=m
 |0=>a p
 |k+1=>by
  have d:=VD (t:=t) (p:=p) a k;show(Hx V t (BC V t p k)).v.length<=m;unfold Hx;split
  ·exact d
  ·rename_i b _
   show(xorL _ _).length<=m;rw[BS];have:=a b;omega
def placeN(b:Int)(n:Nat):Nat:=((b.tmod n+n).tmod n).toNat
def Wv(b:Int){n:Nat}(f:0<n):((placeN b n:Nat):Int)=(b.tmod n+n).tmod n/\placeN b n<n:=by
 have a: -(n:Int)<b.tmod n:=by
  have:=Int.lt_tmod_of_pos b (show(0:Int)<n by omega);omega
 have d:0<=(b.tmod n+n).tmod n:=Int.tmod_nonneg _ (by omega);have e:(b.tmod n+n).tmod n<n:=Int.tmod_lt_of_pos _ (by omega);unfold placeN;omega
end Go.Proofs.YtfpmnekaockodaaGreatDoor
