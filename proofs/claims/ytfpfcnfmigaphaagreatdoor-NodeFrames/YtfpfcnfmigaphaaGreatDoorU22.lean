/-
  Laws that the proof stands on.
-/
import Derived.Test.YtfpfcnfmigaphaaGreatDoorU21
namespace Go.Proofs.YtfpfcnfmigaphaaGreatDoor
open Go.RowKit Go.Sort
set_option linter.unusedVariables false
set_option linter.unusedSimpArgs false
set_option maxRecDepth 4000
set_option maxHeartbeats 8000000
def PKV.cop(p:PKV)(a:Option Addr)(c2:Nat):PKV:=⟨p.o,p.l,p.k,p.z,p.h,⟨a,p.r.n,c2,p.r.xs,p.r.s⟩⟩
def Qs(w w':World)(g B m:Nat)(v:Value)(ps:List PKV)(p:PKV)(e:Ending):Prop:=
 e=.returned (.bool (DC m (ps.map PKV.pd) p.pd))/\∃v' a,Av w' g B m v' a/\a.map PKV.pd=H7 m (ps.map PKV.pd) p.pd/\Tu (CL g v) w w'/\Cx w v v'
theorem QK{ops:Array Oper}{o:Oper}{a:Act}{w:World}{K:Act->World->Prop}{Q:Exit->Act->World->Prop}{E:Prop}(e:o.guard=none)(s x:Operand)
  (G:o.op=.call {callee:=.builtin .append,args:=#[s,x],argTypes:=#[53,53]}) (B:Nat) (v:Value) (ps:List PKV) (p:PKV) (H:a.eval s=v) (d:OwnP w B v ps) (b:Nat)
  (I:a.eval x=.slice (some ⟨b,0,none⟩) 1 1) (C:w.heap[b]? =some (.cells #[.int .i64 p.o,.int .i64 p.l,.int .i64 p.k,.int .i64 p.z,.int .i64 p.h,.slice p.r.a p.r.n p.r.c,.string p.r.s] 59 (0,0))) (L:ps.length<=1000000) (A:B<=w.heap.size)
  (h:∀g cap w',OwnP w' B (.slice (some ⟨g,0,none⟩) (ps.length+1) cap) (ps++[p])->w.grownBy w' v.ownBlock->(v.ownBlock=some g\/g=w.heap.size)->K (a.put o.dst (.slice (some ⟨g,0,none⟩) (ps.length+1) cap)) w'):
  if Region.wanted o (yielded ops a.tmps)=true then Oper.wp Tryz.prog o a w K Q else E:=by
 obtain⟨J,D,f,i,j⟩:=info_parts LB
 refine step_append_lies w e s x 53 G B 59 J _ 7 80 Tryz.underlying53 D f i j rfl (by decide) v ps.length (cellsK ps) H d ⟨b,0,none⟩ 1 1 p.cells I rfl
  (World.news_of_block C) (Ll p) (by decide) (by unfold maxLen;omega) (by omega) A _ rfl (fun g cap w' m u y _=>h g cap w' ?_ u y)
 show w'.ownsRow B 59 7 _ (ps++[p]).length (cellsK (ps++[p]));rw[List.length_append,JK,show cellsK [p]=p.cells from List.append_nil _];exact m
theorem Vx{w Y s X u:World}{g B m:Nat}{v d:Value}{ps a:List PKV}{p:PKV}{l:Option Addr}{c2 g2 cap:Nat}(E:Av Y g B m d a)(k:Tu (CL g v) w Y)(I:Cx w v d)(c:Below Y.heap.size Y s)(A:Own s Y.drew.heap.size (.slice l p.r.n c2) p.r.xs)
  (o:Below s.heap.size s X) (C:OwnP u B (.slice (some ⟨g2,0,none⟩) (a.length+1) cap) (a++[p.cop l c2])) (z:X.grownBy u d.ownBlock) (y:d.ownBlock=some g2\/g2=X.heap.size)
  (K:a.map PKV.pd=leftD m (ps.map PKV.pd)) (G:DC m (ps.map PKV.pd) p.pd=true) (J:Bf m (ps.map PKV.pd)) (D:Ac p.r.xs):
  Qs w (u.setCell ⟨g,1,none⟩ (.slice (some ⟨g2,0,none⟩) (a.length+1) cap)) g B m v ps p (.returned (.bool true)):=by
 have H:H7 m (ps.map PKV.pd) p.pd=(a++[p.cop l c2]).map PKV.pd:=by
  unfold H7;rw[if_pos G,List.map_append,K];rfl
 have b:=(E.below c).below o;have ht:Tu (fun j=>d.ownBlock=some j) X u:=Tu.of_gb z fun j _ e=>e;have f:=J.put (p:=p.pd) D;rw[H]at f;have h:Cx X d (.slice (some ⟨g2,0,none⟩) (a.length+1) cap):=by
  rcases y with e|e
  ·exact .inl (by rw[e];rfl)
  ·refine .inr fun j N=>?_
   obtain rfl:g2=j:=Option.some.inj N;omega
 have i:Ar X B (a++[p.cop l c2]):=b.rows.snoc ((A.below o).mono (Nat.le_trans E.lob (Nat.le_refl _)));obtain⟨r1,r2⟩:=b.puts ht C (i.tu ht fun j x L e=>b.words j x L (.inr e)) f h;refine⟨by rw[G],_,_,r1,H.symm,?_,?_⟩
 ·refine mJ (k.then (Ad c o)) r2 I
 ·exact I.trans (h.new (Nat.le_trans c.size o.size)) k.size
theorem gx(g B m:Nat)(v:Value)(ps:List PKV)(p:PKV)(w:World)(ht:Tab w)(h:Av w g B m v ps)(hr:∀w',Tu (CL g v) w w'->RowAt w' p.r.a p.r.n p.r.xs)(hn:p.r.n<=10)(hs:p.r.s.size<=1000):
  Calls Tryz.prog 362 #[.pointer (some ⟨g,0,none⟩),p.val] w fun e w'=>Qs w w' g B m v ps p e:=by
 have N:=IN w p;have hB:=h.below N;have bl:=h.len;have hx:BkA 59 (w.alloc (.cells #[.int .i64 p.o,.int .i64 p.l,.int .i64 p.k,.int .i64 p.z,.int .i64 p.h,.slice p.r.a p.r.n p.r.c,.string p.r.s] 59)) w.heap.size p.cells:=AV 59 w p.cells;have J:=cR g B m v ps p _ (ht.below N) hB (hr _ (Tu.of_below N)) hn;unfold PKV.val at J⊢;have a7:=Ab J;clear J;have bq:=h.lt;have HI:=Ab h.inv;have a6:Hid (Ac p.r.xs):=Ab (hr w (Tu.refl _ _)).2.1
 have bg:Hid (¬CL g v w.heap.size):=Ab fun hf=>by
  rcases hf with e|e
  ·omega
  ·have:=(World.ownsRow.lt h.own _ e).2;omega
 have HR:=Ab hr;have T:=Ab N;generalize hW:w.alloc (.cells #[.int .i64 p.o,.int .i64 p.l,.int .i64 p.k,.int .i64 p.z,.int .i64 p.h,.slice p.r.a p.r.n p.r.c,.string p.r.s] 59)=W at*;have HX:=Ab hx;have ao:=Ab hB;obtain⟨q0,q1,q2,q3,q4,q5,q6⟩:PkAt W w.heap.size (.int .i64 p.o) (.int .i64 p.l) (.int .i64 p.k) (.int .i64 p.z) (.int .i64 p.h) (.slice p.r.a p.r.n p.r.c) (.string p.r.s):=⟨hx.at 0 rfl,hx.at 1 rfl,hx.at 2 rfl,hx.at 3 rfl,hx.at 4 rfl,hx.at 5 rfl,hx.at 6 rfl⟩
 have ay:Hid (∀Y,Tu (CL g v) W Y->PkAt Y w.heap.size (.int .i64 p.o) (.int .i64 p.l) (.int .i64 p.k) (.int .i64 p.z) (.int .i64 p.h) (.slice p.r.a p.r.n p.r.c) (.string p.r.s)):=Ab fun Y hY=>by
  have hk:=(Aa HX).tu hY (Aa bg);exact⟨hk.at 0 rfl,hk.at 1 rfl,hk.at 2 rfl,hk.at 3 rfl,hk.at 4 rfl,hk.at 5 rfl,hk.at 6 rfl⟩
 clear h hB N hx hr ht;go_enter Tryz.func362,Tryz.ntmps362;go_wp2_with fail;refine(Aa a7).mono ?_;rintro e w1 ⟨rfl,aa⟩;have V:=Ab aa;clear a7 q0 q1 q2 q3 q4 q5 q6;cases hT:DC m (ps.map PKV.pd) p.pd
 ·have HT:=Ab hT
  clear hT aa;go_wp2;go_ret;have bi:=Ad (Aa T) (Aa V);exact⟨by rw[Aa HT];rfl,v,ps,(Aa ao).below (Aa V),by unfold H7;rw[if_neg (by rw[Aa HT];decide)],Tu.of_below bi,Cx.refl _ _⟩
 have HT:=Ab hT;have X:=(Aa ao).below aa;have a4:=Ab X;obtain⟨d0,d1⟩:=X.cells (Below.refl _ _);obtain⟨a,c,hv, -, -, -⟩:=X.at;have bm:=(RI hT).1;clear aa X hT;by_cases aq:ps.length=m
 ·have ac:0<ps.length:=by omega
  obtain⟨x,u,bn⟩:∃x u,v=.slice (some ⟨x,0,none⟩) ps.length u:=by
   rcases(Aa ao).own.2 with⟨_,e⟩|⟨x,u,_,e,_⟩
   ·omega
   ·exact⟨x,u,e⟩
  subst bn;clear hv;have bj:((ps.length:Int)==(m:Int))=true:=by rw[beq_iff_eq];omega
  have au:=(La (ps.map PKV.pd) ps.length ac).1;have aw:Av w1.drew g B m (.slice (some ⟨x,0,none⟩) ps.length u) ps:=(Aa a4).below (Below.refl _ _).drew;have a8:=Ab (fC g B m _ ps w1.drew aw ac);have a1:Hid ((ps.eraseIdx (goesTo (ps.map PKV.pd) ps.length)).map PKV.pd=leftD m (ps.map PKV.pd)):=Ab (by unfold leftD;rw[List.length_map,if_pos (by omega),Tc])
  have bf:Hid (Bf m ((ps.eraseIdx (goesTo (ps.map PKV.pd) ps.length)).map PKV.pd)):=Ab (by
   rw[Aa a1];have hI:=Aa HI;exact⟨by have:=(Ul (m:=m) hI.le bm).1;omega,fun q hq=>hI.ok q (Gk q hq),fun q hq r hr=>hI.alk q (Gk q hq) r (Gk r hr),fun q hq=>hI.sm q (Gk q hq)⟩)
  have a0:=Ab (fun(wx:World) (ho:OwnP wx B (.slice (some ⟨x,0,none⟩) ps.length u) ps)=>gn B x u (goesTo (ps.map PKV.pd) ps.length) ps wx ho au bl.2);have bp:goesTo (ps.map PKV.pd) ps.length<=256:=by omega
  have bc:Hid ((ps.eraseIdx (goesTo (ps.map PKV.pd) ps.length)).length=ps.length-1):=Ab (List.length_eraseIdx_of_lt au);have bd:Hid (∀q∈ps.eraseIdx (goesTo (ps.map PKV.pd) ps.length),q∈ps):=Ab fun q hq=>List.mem_of_mem_eraseIdx hq;have a5:=Ab aw;clear aw au aq;generalize goesTo (ps.map PKV.pd) ps.length=G at*;generalize ps.eraseIdx G=es at*;go_wp2;go_region_held3 (fun w'=>w'.cell? ⟨g,0,none⟩=some (.int .i64 (m:Int))/\w'.cell? ⟨g,1,none⟩=some (.slice (some ⟨x,0,none⟩) ps.length u)) (go_keep) (fail);go_wp2_with fail;refine(Aa a8).mono ?_;rintro e w2 ⟨rfl,ap⟩;have Z:=(Aa a5).below ap;have E:=Ab Z;obtain⟨y0,y1⟩:=Z.cells (Below.refl _ _);have az:=Ab (Aa a0 w2 Z.own);have ae:=Ab (show Below W.heap.size W w2 from Ad (Ad (Aa V) (Below.refl _ _).drew) ap);clear ap Z a8 a5 a0 d0 d1;go_wp2_with fail;refine(Aa az).mono ?_;rintro e w3 ⟨rfl,bb,ar⟩;have ax:Tu (fun j=>(Value.slice (some ⟨x,0,none⟩) ps.length u).ownBlock=some j) w2 w3:=Tu.of_gb ar fun j _ e=>e;have ab:Cx w2 (.slice (some ⟨x,0,none⟩) ps.length u) (.slice (some ⟨x,0,none⟩) (ps.length-1) u):=.inl rfl;have av:=(Aa E).blk.kept ar (fun e=>(Aa E).blk.neP (Aa E).own (by decide) e.symm);have y2:=av.at 1 rfl;have yf:=av.frz 1;have a3:=Ab ((Aa E).puts ax bb (((Aa E).rows.sub (Aa bd)).tu ax fun j bh hc e=>(Aa E).words j bh hc (.inr e)) (Aa bf) ab);clear bb ar ax av az y0 y1;go_wp2_with fail;generalize hY:w3.setCell ⟨g,1,none⟩ (.slice (some ⟨x,0,none⟩) (ps.length-1) u)=Y at*;obtain⟨d,D⟩:=Aa a3;have K:=Ab (D.after (Ad (Aa T) (Aa ae)));have aj:Hid (Cx w (.slice (some ⟨x,0,none⟩) ps.length u) (.slice (some ⟨x,0,none⟩) (ps.length-1) u)):=Ab (ab.new (Ad (Aa T) (Aa ae)).size);have HS:=Ab d;have b:=N8 p Y.drew ((Aa HR _ (Aa K)).below (Below.refl _ _).drew) (by omega) (by omega);unfold PKV.val at b;have ag:=Ab b;clear b;obtain⟨q0,q1,q2,q3,q4,q5,q6⟩:=Aa ay Y (D.after (Aa ae));obtain⟨z0,bo⟩:=d.cells (Below.refl _ _);have ba:es.length=ps.length-1:=Aa bc;have ai:Hid (es.length<=1000000):=Ab (by omega)
  have ak:Hid (some g≠(Value.slice (some ⟨x,0,none⟩) (ps.length-1) u).ownBlock):=Ab fun e=>d.blk.neP d.own (by decide) e.symm;have HL:=a1;clear d D hY a3 ba y2 yf
  go_region_law (first
   |(go_simp;go_at_call 363;refine(Aa ag).mono ?_;rintro e H ⟨a2,c2,rfl,R,O⟩;have D5:=Ab (show Below Y.heap.size Y H from Ad (Below.refl _ _).drew O);have f:=(Aa HS).below (Aa D5);have I:=Ab f;have am:=Ab R;have z1:=(f.cells (Below.refl _ _)).2;have i:Below H.heap.size H (H.alloc (.cells #[.int .i64 p.o,.int .i64 p.l,.int .i64 p.k,.int .i64 p.z,.int .i64 p.h,.slice a2 p.r.n c2,.string p.r.s] 59)):=(Below.refl _ _).alloc (Nat.le_refl _) _;have y:=Ab i;have z2:=(f.cells i).2;have P:=heap_alloc_new H (.cells #[.int .i64 p.o,.int .i64 p.l,.int .i64 p.k,.int .i64 p.z,.int .i64 p.h,.slice a2 p.r.n c2,.string p.r.s] 59);have al:=Ab P;have af:=Ab (Nat.le_trans f.lob i.size);clear R O f i P)
   |(refine QK (by rfl) _ _ (by rfl) B (.slice (some ⟨x,0,none⟩) (ps.length-1) u) es (p.cop a2 c2) (by rfl) ((Aa I).own.below (Aa y)) H.heap.size (by rfl) (Aa al) (Aa ai) (Aa af) ?_;intro g2 cap w6 S A L;have an:=Ab S;have ah:=Ab A;have ad:=Ab L;have C:=((Aa I).below (Aa y)).blk.kept A (Aa ak);have u1:=C.at 1 rfl;have uf:=C.frz 1;clear S A L C)
   |fail)
  all_goals go_wp2
  all_goals go_ret
  all_goals exact Vx (Aa HS) (Aa K) (Aa aj) (Aa D5) (Aa am) (Aa y) (Aa an) (Aa ah) (Aa ad) (Aa HL) (Aa HT) (Aa HI) (Aa a6)
 ·have bj:((ps.length:Int)==(m:Int))=false:=by rw[beq_eq_false_iff_ne];omega
  subst hv;go_wp2;go_region_held3 (fun w'=>w'.cell? ⟨g,0,none⟩=some (.int .i64 (m:Int))/\w'.cell? ⟨g,1,none⟩=some (.slice a ps.length c)) (go_keep) (fail);go_wp2_with fail;have d:Av w1.drew g B m (.slice a ps.length c) ps:=(Aa a4).below (Below.refl _ _).drew;have a9:Below W.heap.size W w1.drew:=Ad (Aa V) (Below.refl _ _).drew;have D:Tu (CL g (.slice a ps.length c)) W w1.drew:=Tu.of_below a9;generalize hY:w1.drew=Y at*;have K:=Ab (D.after (Aa T));have aj:Hid (Cx w (.slice a ps.length c) (.slice a ps.length c)):=Ab (Cx.refl _ _);have HS:=Ab d;have b:=N8 p Y.drew ((Aa HR _ (Aa K)).below (Below.refl _ _).drew) (by omega) (by omega);unfold PKV.val at b;have ag:=Ab b;clear b;obtain⟨q0,q1,q2,q3,q4,q5,q6⟩:=Aa ay Y D;obtain⟨z0,bo⟩:=d.cells (Below.refl _ _);have ai:Hid (ps.length<=1000000):=Ab (by omega);have ak:Hid (some g≠(Value.slice a ps.length c).ownBlock):=Ab fun e=>d.blk.neP d.own (by decide) e.symm;have HL:Hid (ps.map PKV.pd=leftD m (ps.map PKV.pd)):=Ab (by unfold leftD;rw[List.length_map,if_neg (by omega)]);clear d D a9 hY d0 d1
  go_region_law (first
   |(go_simp;go_at_call 363;refine(Aa ag).mono ?_;rintro e H ⟨a2,c2,rfl,R,O⟩;have D5:=Ab (show Below Y.heap.size Y H from Ad (Below.refl _ _).drew O);have f:=(Aa HS).below (Aa D5);have I:=Ab f;have am:=Ab R;have z1:=(f.cells (Below.refl _ _)).2;have i:Below H.heap.size H (H.alloc (.cells #[.int .i64 p.o,.int .i64 p.l,.int .i64 p.k,.int .i64 p.z,.int .i64 p.h,.slice a2 p.r.n c2,.string p.r.s] 59)):=(Below.refl _ _).alloc (Nat.le_refl _) _;have y:=Ab i;have z2:=(f.cells i).2;have P:=heap_alloc_new H (.cells #[.int .i64 p.o,.int .i64 p.l,.int .i64 p.k,.int .i64 p.z,.int .i64 p.h,.slice a2 p.r.n c2,.string p.r.s] 59);have al:=Ab P;have af:=Ab (Nat.le_trans f.lob i.size);clear R O f i P)
   |(refine QK (by rfl) _ _ (by rfl) B (.slice a ps.length c) ps (p.cop a2 c2) (by rfl) ((Aa I).own.below (Aa y)) H.heap.size (by rfl) (Aa al) (Aa ai) (Aa af) ?_;intro g2 cap w6 S A L;have an:=Ab S;have ah:=Ab A;have ad:=Ab L;have C:=((Aa I).below (Aa y)).blk.kept A (Aa ak);have u1:=C.at 1 rfl;have uf:=C.frz 1;clear S A L C)
   |fail)
  all_goals go_wp2
  all_goals go_ret
  all_goals exact Vx (Aa HS) (Aa K) (Aa aj) (Aa D5) (Aa am) (Aa y) (Aa an) (Aa ah) (Aa ad) (Aa HL) (Aa HT) (Aa HI) (Aa a6)
theorem fZ(ks:List PKV)(k:Nat)(a:k<ks.length):ks.take k++[ks.getD k .dflt]=ks.take (k+1):=by
 rw[List.take_succ_eq_append_getElem a];simp[List.getD_eq_getElem?_getD,List.getElem?_eq_getElem a]
def aI(w w':World)(ps:List PKV)(e:Ending):Prop:=∃b c us,e=.returned (.slice (some ⟨b,0,none⟩) ps.length c)/\OwnP w' w.heap.size (.slice (some ⟨b,0,none⟩) ps.length c) us/\Ar w' w.heap.size us/\us.map PKV.pd=ps.map PKV.pd/\Below w.heap.size w w'
theorem gl(g B m:Nat)(v:Value)(ps:List PKV)(w:World)(h:Av w g B m v ps):
  Calls Tryz.prog 359 #[.pointer (some ⟨g,0,none⟩)] w fun e w'=>aI w w' ps e:=by
 have ao:=h.len.2;obtain⟨a,c,rfl,hP, -, -⟩:=h.at;have ap:=ZN ps.length (by omega);have HM:=Ab (ZL w ps.length (by omega) (Ed ps.length []) (ed _));have H:Below w.heap.size w (w.alloc (.cells (madeCells #[.int .i64 0,.int .i64 0,.int .i64 0,.int .i64 0,.int .i64 0,.slice none 0 0,.string ⟨#[]⟩] (ps.length*7)) 59)):=(Below.refl _ _).alloc (Nat.le_refl _) _;obtain⟨k0,k1⟩:=h.cells (Below.refl _ _);obtain⟨j0,j1⟩:=h.cells H;have L:=Ab H;have HZ:=Ab (show w.heap.size+1<=(w.alloc (.cells (madeCells #[.int .i64 0,.int .i64 0,.int .i64 0,.int .i64 0,.int .i64 0,.slice none 0 0,.string ⟨#[]⟩] (ps.length*7)) 59)).heap.size by rw[Bb];exact Nat.le_refl _);have Hh:=Ab hP
 have ac:Hid (∀i,i<ps.length->(ps.getD i .dflt).r.n<=1048576/\(ps.getD i .dflt).r.s.size<=1048576):=Ab fun i hi=>by
  have h1:=(h.inv.get (i:=i) (by rw[List.length_map];exact hi)).1;rw[KU hi]at h1;have h2:=Jo h1;have h3:=(hP.2.1 i hi).1;have h4:(ps.getD i .dflt).r.xs.length<=2:=h2;have h5:=IC h1;have h6:((ps.getD i .dflt).r.s.size:Int)=(ps.getD i .dflt).z:=h5.2.2.1;have h7:(ps.getD i .dflt).z<=64:=h5.2.2.2.2.2;omega
 clear h hP H;go_enter Tryz.func359,Tryz.ntmps359;go_wp2;go_loopw [19] (fun i wr=> ∃us:List PKV,us.length<=ps.length/\i=.int .i64 us.length/\Hid (OwnP wr w.heap.size (.slice (some ⟨w.heap.size,0,none⟩) ps.length ps.length) (Ed ps.length us))/\Hid (Ar wr (w.heap.size+1) us)/\Hid (us.map PKV.pd=(ps.take us.length).map PKV.pd)/\Hid (Below w.heap.size w wr)/\Hid (w.heap.size+1<=wr.heap.size)) (fun i _=>ps.length-(intOf i).toNat)
 case atStart=>exact⟨[],Nat.zero_le _,rfl,HM,Ab (Ar.nil _ _),Ab rfl,L,HZ⟩
 case round=>
  obtain⟨us,hk,rfl,HI,HU,Z,K,E⟩:=hrel;clear HM L HZ;by_cases f:us.length<ps.length
  ·obtain⟨b,off,rfl,T⟩:=((Aa Hh).below (Aa K)).at f
   obtain⟨ag,ah,ai,aj,ak,al,am⟩:=T us.length f;have af:(us.length:Int)<(ps.length:Int):=by omega
   have C:=((Aa Hh).below (Aa K)).2.1 us.length f;have J:=Aa ac us.length f;have P:=Ab (fZ ps us.length f);generalize ps.getD us.length .dflt=p at*;have G:=IN wr p;have u:=N8 p _ (C.below G) J.1 J.2;unfold PKV.val at u;have N:=Ab u;have D:=Ab G;obtain⟨aq,ar,au,av,aw,ax,ay⟩:=Fo wr (.int .i64 p.o) (.int .i64 p.l) (.int .i64 p.k) (.int .i64 p.z) (.int .i64 p.h) (.slice p.r.a p.r.n p.r.c) (.string p.r.s);clear T C G u J;go_wp2_with fail;refine(Aa N).mono ?_;rintro e w2 ⟨A,c2,rfl,W,S⟩;have x:=Ad (Aa D) S;have y:=(Aa HI).below x;have V:=bR hk;have d:=fun j hj=>NC (Ed ps.length us) us.length j (by omega) hj;have e0:=y.cellAt ((d 0 (by decide)).trans rfl);have e1:=y.cellAt ((d 1 (by decide)).trans rfl);have e2:=y.cellAt ((d 2 (by decide)).trans rfl);have e3:=y.cellAt ((d 3 (by decide)).trans rfl);have e4:=y.cellAt ((d 4 (by decide)).trans rfl);have e5:=y.cellAt ((d 5 (by decide)).trans rfl);have e6:=y.cellAt ((d 6 (by decide)).trans rfl);rw[Nat.add_zero]at e0;have R:w2.ownsRow w.heap.size 59 7 (.slice (some ⟨w.heap.size,0,none⟩) ps.length ps.length) ps.length (cellsK (Ed ps.length us)):=by
    have:w2.ownsRow w.heap.size 59 7 (.slice (some ⟨w.heap.size,0,none⟩) ps.length ps.length) (Ed ps.length us).length (cellsK (Ed ps.length us)):=y;rwa[V]at this
   have an:∀j,w2.frozen? ⟨w.heap.size,j,none⟩=false:=fun j=>R.frozenAt j;have I:=y.stored us.length (p.cop A c2);rw[eb _ f]at I;have hZ:=Nat.le_trans (Aa E) (Aa D).size;have X:=(((Aa HU).below x).snoc (p:=p.cop A c2) (W.mono hZ));have ad:=Ab (X.setK (us.length*7) (p.cop A c2) (Nat.lt_succ_self _))
   have ab:=Ab (show(us++[p.cop A c2]).map PKV.pd=(ps.take (us++[p.cop A c2]).length).map PKV.pd by
    rw[List.length_append,List.length_singleton,<-Aa P,List.map_append,List.map_append,Aa Z];rfl)
   have HS:=Ab I;have aa:=Ab (YJ (Ad (Aa K) x) (Nat.le_refl _) (us.length*7) (p.cop A c2))
   have ae:=Ab (show w.heap.size+1<=(setK w2 w.heap.size (us.length*7) (p.cop A c2)).heap.size by
    rw[kl];have:=x.size;have:=Aa E;omega)
   have O:=Ab (show(us++[p.cop A c2]).length=us.length+1 by rw[List.length_append];rfl);clear N D W S x y R V d I X hZ HI K HU Z E P;generalize (Ed ps.length us).getD us.length .dflt=zz at*;go_wp2;go_roundw
   case rel=>exact⟨us++[p.cop A c2],by rw[Aa O];omega,by rw[Aa O];go_num,HS,ad,ab,aa,ae⟩
   case measure=>simp[intOf];omega
  ·have Y:us.length=ps.length:=by omega
   rw[jG Y]at HI;rw[Y,List.take_length]at Z;go_wp2;go_ret;exact⟨_,_,us,rfl,Aa HI,(Aa HU).mono (Nat.le_succ _),Aa Z,Aa K⟩
variable {Q:List PD}{q:PD}
def aO(L:List PD)(a:List Int):List PD:=a.filterMap fun(i:Int)=>if 0<=i/\i<(L.length:Int)then some (L.getD i.toNat .dflt)else none
def E7(Q:List PD):List Nat:=Q.foldl (fun a p=>xorL a p.xs) []
def GY(Q:List PD):List Nat:=Q.foldl (fun a p=>xorL a (tx p.s)) []
def Db:List PD->Int
 |[]=>0
 |p::Q=>Q.foldl (fun a q=>max a q.h) p.h
def E6:List PD->Option PD
 |[]=>none
 |q::Q=>if (∀p∈Q,Bp q p=true)/\0<cnt (E7 (q::Q))/\Db (q::Q)<15 then some ⟨q.o,q.l,q.k,q.z,IntKind.i64.wrap (Db (q::Q)+1),E7 (q::Q),st (GY (q::Q))⟩else none
def Ha(L:List PD)(a:List Int):Option PD:=E6 (aO L a)
theorem Ka(q:PD)(Q:List PD):E6 (q::Q)=if (∀p∈Q,Bp q p=true)/\0<cnt (E7 (q::Q))/\Db (q::Q)<15 then some ⟨q.o,q.l,q.k,q.z,IntKind.i64.wrap (Db (q::Q)+1),E7 (q::Q),st (GY (q::Q))⟩else none:=rfl
theorem LX:∀(Q:List PD) (a:Int),a<=Q.foldl (fun a q=>max a q.h) a/\(∀p∈Q,p.h<=Q.foldl (fun a q=>max a q.h) a)/\∀b,a<=b->(∀p∈Q,p.h<=b)->Q.foldl (fun a q=>max a q.h) a<=b
 |[],a=>⟨Int.le_refl _,(fun p hp=>by cases hp),fun b h _=>h⟩
 |q::Q,a=>by
  obtain⟨g,c,d⟩:=LX Q (max a q.h);rw[List.foldl_cons];refine⟨by omega,fun p hp=>?_,fun b i hp=>d b (by have:=hp q List.mem_cons_self;omega) fun p f=>hp p (List.mem_cons_of_mem _ f)⟩;rcases List.mem_cons.1 hp with e|e
  ·rw[e];omega
  ·exact c p e
theorem WH{b:Int}(h:∀p∈q::Q,p.h<=b):Db (q::Q)<=b:=(LX Q q.h).2.2 b (h q List.mem_cons_self) fun p hp=>h p (List.mem_cons_of_mem _ hp)
theorem Mr{p:PD}(h:p∈q::Q):p.h<=Db (q::Q):=by
 rcases List.mem_cons.1 h with e|e
 ·rw[e];exact(LX Q q.h).1
 ·exact(LX Q q.h).2.1 p e
theorem mP{k:Int}{a b:List Nat}(e:BU k a)(f:BU k b):BU k (xorL a b):=by
 obtain⟨g,h,a3⟩:=e;obtain⟨j,l,d⟩:=f;refine⟨by rw[BV];omega,by rw[BV];omega,fun i c=>?_⟩;rw[jw,a3 i c,d i c,Bool.xor_false]
theorem Tl{k:Int}:∀(Q:List PD) (a:List Nat),BU k a->(∀p∈Q,BU k p.xs)->BU k (Q.foldl (fun a p=>xorL a p.xs) a)
 |[],a,b,_=>b
 |q::Q,a,b,h=>by
  rw[List.foldl_cons];exact Tl Q _ (mP b (h q List.mem_cons_self)) fun p hp=>h p (List.mem_cons_of_mem _ hp)
theorem WD{m:Nat}:∀(Q:List PD) (a:List Nat),a.length=m->(∀p∈Q,p.s.size=m)->(Q.foldl (fun a p=>xorL a (tx p.s)) a).length=m
 |[],a,b,_=>b
 |q::Q,a,b,h=>by
  rw[List.foldl_cons];refine WD Q _ ?_ fun p hp=>h p (List.mem_cons_of_mem _ hp);rw[BV,AQ,b,h q List.mem_cons_self,Nat.max_self]
theorem To(a:List Nat):xorL [] a=a:=by rw[J5,L5]
theorem ZQ{r:PD}(b:∀p∈q::Q,BN p=true)(h:E6 (q::Q)=some r):BN r=true/\r.h=Db (q::Q)+1:=by
 rw[Ka]at h;by_cases d:(∀p∈Q,Bp q p=true)/\0<cnt (E7 (q::Q))/\Db (q::Q)<15
 ·rw[if_pos d]at h
  obtain⟨f,i,x⟩:=d;obtain rfl:=Option.some.inj h;have u:=Fl.1 (b q List.mem_cons_self);obtain⟨⟨v,o,n,B⟩,w,l,g⟩:=u;have A:=Mr (q:=q) (Q:=Q) (p:=q) List.mem_cons_self;have e:IntKind.i64.wrap (Db (q::Q)+1)=Db (q::Q)+1:=by rw[IntKind.wrap_i64];omega
  refine⟨Fl.2 ⟨⟨v,o,n,?_,?_⟩,?_,i,?_⟩,e⟩
  ·show 0<=IntKind.i64.wrap (Db (q::Q)+1)
   omega
  ·show IntKind.i64.wrap (Db (q::Q)+1)<=15
   omega
  ·show BU q.k (E7 (q::Q))
   unfold E7;rw[List.foldl_cons,To];refine Tl Q _ w fun p hp=>?_;have c:=(IC (b p (List.mem_cons_of_mem _ hp))).1;have a:=f p hp;unfold Bp at a;rw[decide_eq_true_eq]at a;rw[a.2.2.1];exact c
  ·show((st (GY (q::Q))).size:Int)=q.z
   unfold GY;rw[Dz,List.foldl_cons,To,WD (m:=q.s.size) Q _ (AQ _) fun p hp=>?_]
   ·exact g
   ·have c:=(IC (b p (List.mem_cons_of_mem _ hp))).2.2.1
    have a:=f p hp;unfold Bp at a;rw[decide_eq_true_eq]at a;have j:=a.2.2.2;have y:(p.s.size:Int)=(q.s.size:Int):=by rw[c,<-j,<-g]
    omega
 ·rw[if_neg d]at h;cases h
end Go.Proofs.YtfpfcnfmigaphaaGreatDoor
