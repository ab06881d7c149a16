/-
  Laws that the proof stands on.
-/
import Derived.Test.YtmmikiikddokgaaGreatDoorU21
namespace Go.Proofs.YtmmikiikddokgaaGreatDoor
open Go.RowKit Go.Sort
set_option linter.unusedVariables false
set_option linter.unusedSimpArgs false
set_option maxRecDepth 4000
set_option maxHeartbeats 8000000
def PKV.cop(p:PKV)(a:Option Addr)(c2:Nat):PKV:=⟨p.o,p.l,p.k,p.z,p.h,⟨a,p.r.n,c2,p.r.xs,p.r.s⟩⟩
def Rb(w w':World)(g B m:Nat)(v:Value)(ps:List PKV)(p:PKV)(e:Ending):Prop:=
 e=.returned (.bool (DA m (ps.map PKV.pd) p.pd))/\∃v' a,Ay w' g B m v' a/\a.map PKV.pd=H6 m (ps.map PKV.pd) p.pd/\Tu (CF g v) w w'/\Ct w v v'
theorem Rn{ops:Array Oper}{o:Oper}{a:Act}{w:World}{K:Act->World->Prop}{Q:Exit->Act->World->Prop}{E:Prop}(e:o.guard=none)(s x:Operand)
  (G:o.op=.call {callee:=.builtin .append,args:=#[s,x],argTypes:=#[69,69]}) (B:Nat) (v:Value) (ps:List PKV) (p:PKV) (H:a.eval s=v) (d:OwnP w B v ps) (b:Nat)
  (I:a.eval x=.slice (some ⟨b,0,none⟩) 1 1) (C:w.heap[b]? =some (.cells #[.int .i64 p.o,.int .i64 p.l,.int .i64 p.k,.int .i64 p.z,.int .i64 p.h,.slice p.r.a p.r.n p.r.c,.string p.r.s] 75 (0,0))) (L:ps.length<=1000000) (A:B<=w.heap.size)
  (h:∀g cap w',OwnP w' B (.slice (some ⟨g,0,none⟩) (ps.length+1) cap) (ps++[p])->w.grownBy w' v.ownBlock->(v.ownBlock=some g\/g=w.heap.size)->K (a.put o.dst (.slice (some ⟨g,0,none⟩) (ps.length+1) cap)) w'):
  if Region.wanted o (yielded ops a.tmps)=true then Oper.wp Tryz.prog o a w K Q else E:=by
 obtain⟨J,D,f,i,j⟩:=info_parts Ma
 refine step_append_lies w e s x 69 G B 75 J _ 7 80 Tryz.underlying69 D f i j rfl (by decide) v ps.length (cellsK ps) H d ⟨b,0,none⟩ 1 1 p.cells I rfl
  (World.news_of_block C) (LD p) (by decide) (by unfold maxLen;omega) (by omega) A _ rfl (fun g cap w' m u y _=>h g cap w' ?_ u y)
 show w'.ownsRow B 75 7 _ (ps++[p]).length (cellsK (ps++[p]));rw[List.length_append,J4,show cellsK [p]=p.cells from List.append_nil _];exact m
theorem UQ{w Y x X y:World}{g B m:Nat}{v f:Value}{ps a:List PKV}{p:PKV}{s:Option Addr}{c2 g2 cap:Nat}(H:Ay Y g B m f a)(o:Tu (CF g v) w Y)(K:Ct w v f)(d:Below Y.heap.size Y x)(D:Own x Y.drew.heap.size (.slice s p.r.n c2) p.r.xs)
  (u:Below x.heap.size x X) (E:OwnP y B (.slice (some ⟨g2,0,none⟩) (a.length+1) cap) (a++[p.cop s c2])) (C:X.grownBy y f.ownBlock) (A:f.ownBlock=some g2\/g2=X.heap.size)
  (N:a.map PKV.pd=leftD m (ps.map PKV.pd)) (I:DA m (ps.map PKV.pd) p.pd=true) (L:Bk m (ps.map PKV.pd)) (G:Ac p.r.xs):
  Rb w (y.setCell ⟨g,1,none⟩ (.slice (some ⟨g2,0,none⟩) (a.length+1) cap)) g B m v ps p (.returned (.bool true)):=by
 have J:H6 m (ps.map PKV.pd) p.pd=(a++[p.cop s c2]).map PKV.pd:=by
  unfold H6;rw[if_pos I,List.map_append,N];rfl
 have b:=(H.below d).below u;have ht:Tu (fun j=>f.ownBlock=some j) X y:=Tu.of_gb C fun j _ e=>e;have h:=L.put (p:=p.pd) G;rw[J]at h;have i:Ct X f (.slice (some ⟨g2,0,none⟩) (a.length+1) cap):=by
  rcases A with e|e
  ·exact .inl (by rw[e];rfl)
  ·refine .inr fun j P=>?_
   obtain rfl:g2=j:=Option.some.inj P;omega
 have l:Au X B (a++[p.cop s c2]):=b.rows.snoc ((D.below u).mono (Nat.le_trans H.lob (Nat.le_refl _)));obtain⟨r1,r2⟩:=b.puts ht E (l.tu ht fun j z O e=>b.words j z O (.inr e)) h i;refine⟨by rw[I],_,_,r1,J.symm,?_,?_⟩
 ·refine nJ (o.then (Ad d u)) r2 K
 ·exact K.trans (i.new (Nat.le_trans d.size u.size)) o.size
theorem jL(g B m:Nat)(v:Value)(ps:List PKV)(p:PKV)(w:World)(ht:Tab w)(h:Ay w g B m v ps)(hr:∀w',Tu (CF g v) w w'->RowAt w' p.r.a p.r.n p.r.xs)(hn:p.r.n<=10)(hs:p.r.s.size<=1000):
  Calls Tryz.prog 343 #[.pointer (some ⟨g,0,none⟩),p.val] w fun e w'=>Rb w w' g B m v ps p e:=by
 have N:=I7 w p;have hB:=h.below N;have bl:=h.len;have hx:BkA 75 (w.alloc (.cells #[.int .i64 p.o,.int .i64 p.l,.int .i64 p.k,.int .i64 p.z,.int .i64 p.h,.slice p.r.a p.r.n p.r.c,.string p.r.s] 75)) w.heap.size p.cells:=AO 75 w p.cells;have J:=dj g B m v ps p _ (ht.below N) hB (hr _ (Tu.of_below N)) hn;unfold PKV.val at J⊢;have a7:=Ab J;clear J;have bq:=h.lt;have HI:=Ab h.inv;have a6:Hid (Ac p.r.xs):=Ab (hr w (Tu.refl _ _)).2.1
 have bg:Hid (¬CF g v w.heap.size):=Ab fun hf=>by
  rcases hf with e|e
  ·omega
  ·have:=(World.ownsRow.lt h.own _ e).2;omega
 have HR:=Ab hr;have T:=Ab N;generalize hW:w.alloc (.cells #[.int .i64 p.o,.int .i64 p.l,.int .i64 p.k,.int .i64 p.z,.int .i64 p.h,.slice p.r.a p.r.n p.r.c,.string p.r.s] 75)=W at*;have HX:=Ab hx;have ao:=Ab hB;obtain⟨q0,q1,q2,q3,q4,q5,q6⟩:PkAt W w.heap.size (.int .i64 p.o) (.int .i64 p.l) (.int .i64 p.k) (.int .i64 p.z) (.int .i64 p.h) (.slice p.r.a p.r.n p.r.c) (.string p.r.s):=⟨hx.at 0 rfl,hx.at 1 rfl,hx.at 2 rfl,hx.at 3 rfl,hx.at 4 rfl,hx.at 5 rfl,hx.at 6 rfl⟩
 have ay:Hid (∀Y,Tu (CF g v) W Y->PkAt Y w.heap.size (.int .i64 p.o) (.int .i64 p.l) (.int .i64 p.k) (.int .i64 p.z) (.int .i64 p.h) (.slice p.r.a p.r.n p.r.c) (.string p.r.s)):=Ab fun Y hY=>by
  have hk:=(Aa HX).tu hY (Aa bg);exact⟨hk.at 0 rfl,hk.at 1 rfl,hk.at 2 rfl,hk.at 3 rfl,hk.at 4 rfl,hk.at 5 rfl,hk.at 6 rfl⟩
 clear h hB N hx hr ht;go_enter Tryz.func343,Tryz.ntmps343;go_wp2_with fail;refine(Aa a7).mono ?_;rintro e w1 ⟨rfl,aa⟩;have V:=Ab aa;clear a7 q0 q1 q2 q3 q4 q5 q6;cases hT:DA m (ps.map PKV.pd) p.pd
 ·have HT:=Ab hT
  clear hT aa;go_wp2;go_ret;have bi:=Ad (Aa T) (Aa V);exact⟨by rw[Aa HT];rfl,v,ps,(Aa ao).below (Aa V),by unfold H6;rw[if_neg (by rw[Aa HT];decide)],Tu.of_below bi,Ct.refl _ _⟩
 have HT:=Ab hT;have X:=(Aa ao).below aa;have a4:=Ab X;obtain⟨d0,d1⟩:=X.cells (Below.refl _ _);obtain⟨a,c,hv, -, -, -⟩:=X.at;have bm:=(SQ hT).1;clear aa X hT;by_cases aq:ps.length=m
 ·have ac:0<ps.length:=by omega
  obtain⟨x,u,bn⟩:∃x u,v=.slice (some ⟨x,0,none⟩) ps.length u:=by
   rcases(Aa ao).own.2 with⟨_,e⟩|⟨x,u,_,e,_⟩
   ·omega
   ·exact⟨x,u,e⟩
  subst bn;clear hv;have bj:((ps.length:Int)==(m:Int))=true:=by rw[beq_iff_eq];omega
  have au:=(LB (ps.map PKV.pd) ps.length ac).1;have aw:Ay w1.drew g B m (.slice (some ⟨x,0,none⟩) ps.length u) ps:=(Aa a4).below (Below.refl _ _).drew;have a8:=Ab (fD g B m _ ps w1.drew aw ac);have a1:Hid ((ps.eraseIdx (goesTo (ps.map PKV.pd) ps.length)).map PKV.pd=leftD m (ps.map PKV.pd)):=Ab (by unfold leftD;rw[List.length_map,if_pos (by omega),Tc])
  have bf:Hid (Bk m ((ps.eraseIdx (goesTo (ps.map PKV.pd) ps.length)).map PKV.pd)):=Ab (by
   rw[Aa a1];have hI:=Aa HI;exact⟨by have:=(UX (m:=m) hI.le bm).1;omega,fun q hq=>hI.ok q (GB q hq),fun q hq r hr=>hI.alk q (GB q hq) r (GB r hr),fun q hq=>hI.sm q (GB q hq)⟩)
  have a0:=Ab (fun(wx:World) (ho:OwnP wx B (.slice (some ⟨x,0,none⟩) ps.length u) ps)=>jI B x u (goesTo (ps.map PKV.pd) ps.length) ps wx ho au bl.2);have bp:goesTo (ps.map PKV.pd) ps.length<=256:=by omega
  have bc:Hid ((ps.eraseIdx (goesTo (ps.map PKV.pd) ps.length)).length=ps.length-1):=Ab (List.length_eraseIdx_of_lt au);have bd:Hid (∀q∈ps.eraseIdx (goesTo (ps.map PKV.pd) ps.length),q∈ps):=Ab fun q hq=>List.mem_of_mem_eraseIdx hq;have a5:=Ab aw;clear aw au aq;generalize goesTo (ps.map PKV.pd) ps.length=G at*;generalize ps.eraseIdx G=es at*;go_wp2;go_region_held3 (fun w'=>w'.cell? ⟨g,0,none⟩=some (.int .i64 (m:Int))/\w'.cell? ⟨g,1,none⟩=some (.slice (some ⟨x,0,none⟩) ps.length u)) (go_keep) (fail);go_wp2_with fail;refine(Aa a8).mono ?_;rintro e w2 ⟨rfl,ap⟩;have Z:=(Aa a5).below ap;have E:=Ab Z;obtain⟨y0,y1⟩:=Z.cells (Below.refl _ _);have az:=Ab (Aa a0 w2 Z.own);have ae:=Ab (show Below W.heap.size W w2 from Ad (Ad (Aa V) (Below.refl _ _).drew) ap);clear ap Z a8 a5 a0 d0 d1;go_wp2_with fail;refine(Aa az).mono ?_;rintro e w3 ⟨rfl,bb,ar⟩;have ax:Tu (fun j=>(Value.slice (some ⟨x,0,none⟩) ps.length u).ownBlock=some j) w2 w3:=Tu.of_gb ar fun j _ e=>e;have ab:Ct w2 (.slice (some ⟨x,0,none⟩) ps.length u) (.slice (some ⟨x,0,none⟩) (ps.length-1) u):=.inl rfl;have av:=(Aa E).blk.kept ar (fun e=>(Aa E).blk.neP (Aa E).own (by decide) e.symm);have y2:=av.at 1 rfl;have yf:=av.frz 1;have a3:=Ab ((Aa E).puts ax bb (((Aa E).rows.sub (Aa bd)).tu ax fun j bh hc e=>(Aa E).words j bh hc (.inr e)) (Aa bf) ab);clear bb ar ax av az y0 y1;go_wp2_with fail;generalize hY:w3.setCell ⟨g,1,none⟩ (.slice (some ⟨x,0,none⟩) (ps.length-1) u)=Y at*;obtain⟨d,D⟩:=Aa a3;have K:=Ab (D.after (Ad (Aa T) (Aa ae)));have aj:Hid (Ct w (.slice (some ⟨x,0,none⟩) ps.length u) (.slice (some ⟨x,0,none⟩) (ps.length-1) u)):=Ab (ab.new (Ad (Aa T) (Aa ae)).size);have HS:=Ab d;have b:=OA p Y.drew ((Aa HR _ (Aa K)).below (Below.refl _ _).drew) (by omega) (by omega);unfold PKV.val at b;have ag:=Ab b;clear b;obtain⟨q0,q1,q2,q3,q4,q5,q6⟩:=Aa ay Y (D.after (Aa ae));obtain⟨z0,bo⟩:=d.cells (Below.refl _ _);have ba:es.length=ps.length-1:=Aa bc;have ai:Hid (es.length<=1000000):=Ab (by omega)
  have ak:Hid (some g≠(Value.slice (some ⟨x,0,none⟩) (ps.length-1) u).ownBlock):=Ab fun e=>d.blk.neP d.own (by decide) e.symm;have HL:=a1;clear d D hY a3 ba y2 yf
  go_region_law (first
   |(go_simp;go_at_call 344;refine(Aa ag).mono ?_;rintro e H ⟨a2,c2,rfl,R,O⟩;have D5:=Ab (show Below Y.heap.size Y H from Ad (Below.refl _ _).drew O);have f:=(Aa HS).below (Aa D5);have I:=Ab f;have am:=Ab R;have z1:=(f.cells (Below.refl _ _)).2;have i:Below H.heap.size H (H.alloc (.cells #[.int .i64 p.o,.int .i64 p.l,.int .i64 p.k,.int .i64 p.z,.int .i64 p.h,.slice a2 p.r.n c2,.string p.r.s] 75)):=(Below.refl _ _).alloc (Nat.le_refl _) _;have y:=Ab i;have z2:=(f.cells i).2;have P:=heap_alloc_new H (.cells #[.int .i64 p.o,.int .i64 p.l,.int .i64 p.k,.int .i64 p.z,.int .i64 p.h,.slice a2 p.r.n c2,.string p.r.s] 75);have al:=Ab P;have af:=Ab (Nat.le_trans f.lob i.size);clear R O f i P)
   |(refine Rn (by rfl) _ _ (by rfl) B (.slice (some ⟨x,0,none⟩) (ps.length-1) u) es (p.cop a2 c2) (by rfl) ((Aa I).own.below (Aa y)) H.heap.size (by rfl) (Aa al) (Aa ai) (Aa af) ?_;intro g2 cap w6 S A L;have an:=Ab S;have ah:=Ab A;have ad:=Ab L;have C:=((Aa I).below (Aa y)).blk.kept A (Aa ak);have u1:=C.at 1 rfl;have uf:=C.frz 1;clear S A L C)
   |fail)
  all_goals go_wp2
  all_goals go_ret
  all_goals exact UQ (Aa HS) (Aa K) (Aa aj) (Aa D5) (Aa am) (Aa y) (Aa an) (Aa ah) (Aa ad) (Aa HL) (Aa HT) (Aa HI) (Aa a6)
 ·have bj:((ps.length:Int)==(m:Int))=false:=by rw[beq_eq_false_iff_ne];omega
  subst hv;go_wp2;go_region_held3 (fun w'=>w'.cell? ⟨g,0,none⟩=some (.int .i64 (m:Int))/\w'.cell? ⟨g,1,none⟩=some (.slice a ps.length c)) (go_keep) (fail);go_wp2_with fail;have d:Ay w1.drew g B m (.slice a ps.length c) ps:=(Aa a4).below (Below.refl _ _).drew;have a9:Below W.heap.size W w1.drew:=Ad (Aa V) (Below.refl _ _).drew;have D:Tu (CF g (.slice a ps.length c)) W w1.drew:=Tu.of_below a9;generalize hY:w1.drew=Y at*;have K:=Ab (D.after (Aa T));have aj:Hid (Ct w (.slice a ps.length c) (.slice a ps.length c)):=Ab (Ct.refl _ _);have HS:=Ab d;have b:=OA p Y.drew ((Aa HR _ (Aa K)).below (Below.refl _ _).drew) (by omega) (by omega);unfold PKV.val at b;have ag:=Ab b;clear b;obtain⟨q0,q1,q2,q3,q4,q5,q6⟩:=Aa ay Y D;obtain⟨z0,bo⟩:=d.cells (Below.refl _ _);have ai:Hid (ps.length<=1000000):=Ab (by omega);have ak:Hid (some g≠(Value.slice a ps.length c).ownBlock):=Ab fun e=>d.blk.neP d.own (by decide) e.symm;have HL:Hid (ps.map PKV.pd=leftD m (ps.map PKV.pd)):=Ab (by unfold leftD;rw[List.length_map,if_neg (by omega)]);clear d D a9 hY d0 d1
  go_region_law (first
   |(go_simp;go_at_call 344;refine(Aa ag).mono ?_;rintro e H ⟨a2,c2,rfl,R,O⟩;have D5:=Ab (show Below Y.heap.size Y H from Ad (Below.refl _ _).drew O);have f:=(Aa HS).below (Aa D5);have I:=Ab f;have am:=Ab R;have z1:=(f.cells (Below.refl _ _)).2;have i:Below H.heap.size H (H.alloc (.cells #[.int .i64 p.o,.int .i64 p.l,.int .i64 p.k,.int .i64 p.z,.int .i64 p.h,.slice a2 p.r.n c2,.string p.r.s] 75)):=(Below.refl _ _).alloc (Nat.le_refl _) _;have y:=Ab i;have z2:=(f.cells i).2;have P:=heap_alloc_new H (.cells #[.int .i64 p.o,.int .i64 p.l,.int .i64 p.k,.int .i64 p.z,.int .i64 p.h,.slice a2 p.r.n c2,.string p.r.s] 75);have al:=Ab P;have af:=Ab (Nat.le_trans f.lob i.size);clear R O f i P)
   |(refine Rn (by rfl) _ _ (by rfl) B (.slice a ps.length c) ps (p.cop a2 c2) (by rfl) ((Aa I).own.below (Aa y)) H.heap.size (by rfl) (Aa al) (Aa ai) (Aa af) ?_;intro g2 cap w6 S A L;have an:=Ab S;have ah:=Ab A;have ad:=Ab L;have C:=((Aa I).below (Aa y)).blk.kept A (Aa ak);have u1:=C.at 1 rfl;have uf:=C.frz 1;clear S A L C)
   |fail)
  all_goals go_wp2
  all_goals go_ret
  all_goals exact UQ (Aa HS) (Aa K) (Aa aj) (Aa D5) (Aa am) (Aa y) (Aa an) (Aa ah) (Aa ad) (Aa HL) (Aa HT) (Aa HI) (Aa a6)
theorem iK(ks:List PKV)(k:Nat)(a:k<ks.length):ks.take k++[ks.getD k .dflt]=ks.take (k+1):=by
 rw[List.take_succ_eq_append_getElem a];simp[List.getD_eq_getElem?_getD,List.getElem?_eq_getElem a]
def aO(w w':World)(ps:List PKV)(e:Ending):Prop:=∃b c us,e=.returned (.slice (some ⟨b,0,none⟩) ps.length c)/\OwnP w' w.heap.size (.slice (some ⟨b,0,none⟩) ps.length c) us/\Au w' w.heap.size us/\us.map PKV.pd=ps.map PKV.pd/\Below w.heap.size w w'
theorem jH(g B m:Nat)(v:Value)(ps:List PKV)(w:World)(h:Ay w g B m v ps):
  Calls Tryz.prog 340 #[.pointer (some ⟨g,0,none⟩)] w fun e w'=>aO w w' ps e:=by
 have ao:=h.len.2;obtain⟨a,c,rfl,hP, -, -⟩:=h.at;have ap:=Z0 ps.length (by omega);have HM:=Ab (ZY w ps.length (by omega) (D6 ps.length []) (gP _));have H:Below w.heap.size w (w.alloc (.cells (madeCells #[.int .i64 0,.int .i64 0,.int .i64 0,.int .i64 0,.int .i64 0,.slice none 0 0,.string ⟨#[]⟩] (ps.length*7)) 75)):=(Below.refl _ _).alloc (Nat.le_refl _) _;obtain⟨k0,k1⟩:=h.cells (Below.refl _ _);obtain⟨j0,j1⟩:=h.cells H;have L:=Ab H;have HZ:=Ab (show w.heap.size+1<=(w.alloc (.cells (madeCells #[.int .i64 0,.int .i64 0,.int .i64 0,.int .i64 0,.int .i64 0,.slice none 0 0,.string ⟨#[]⟩] (ps.length*7)) 75)).heap.size by rw[Bc];exact Nat.le_refl _);have Hh:=Ab hP
 have ac:Hid (∀i,i<ps.length->(ps.getD i .dflt).r.n<=1048576/\(ps.getD i .dflt).r.s.size<=1048576):=Ab fun i hi=>by
  have h1:=(h.inv.get (i:=i) (by rw[List.length_map];exact hi)).1;rw[Lh hi]at h1;have h2:=JN h1;have h3:=(hP.2.1 i hi).1;have h4:(ps.getD i .dflt).r.xs.length<=2:=h2;have h5:=IV h1;have h6:((ps.getD i .dflt).r.s.size:Int)=(ps.getD i .dflt).z:=h5.2.2.1;have h7:(ps.getD i .dflt).z<=64:=h5.2.2.2.2.2;omega
 clear h hP H;go_enter Tryz.func340,Tryz.ntmps340;go_wp2;go_loopw [19] (fun i wr=> ∃us:List PKV,us.length<=ps.length/\i=.int .i64 us.length/\Hid (OwnP wr w.heap.size (.slice (some ⟨w.heap.size,0,none⟩) ps.length ps.length) (D6 ps.length us))/\Hid (Au wr (w.heap.size+1) us)/\Hid (us.map PKV.pd=(ps.take us.length).map PKV.pd)/\Hid (Below w.heap.size w wr)/\Hid (w.heap.size+1<=wr.heap.size)) (fun i _=>ps.length-(intOf i).toNat)
 case atStart=>exact⟨[],Nat.zero_le _,rfl,HM,Ab (Au.nil _ _),Ab rfl,L,HZ⟩
 case round=>
  obtain⟨us,hk,rfl,HI,HU,Z,K,E⟩:=hrel;clear HM L HZ;by_cases f:us.length<ps.length
  ·obtain⟨b,off,rfl,T⟩:=((Aa Hh).below (Aa K)).at f
   obtain⟨ag,ah,ai,aj,ak,al,am⟩:=T us.length f;have af:(us.length:Int)<(ps.length:Int):=by omega
   have C:=((Aa Hh).below (Aa K)).2.1 us.length f;have J:=Aa ac us.length f;have P:=Ab (iK ps us.length f);generalize ps.getD us.length .dflt=p at*;have G:=I7 wr p;have u:=OA p _ (C.below G) J.1 J.2;unfold PKV.val at u;have N:=Ab u;have D:=Ab G;obtain⟨aq,ar,au,av,aw,ax,ay⟩:=Fk wr (.int .i64 p.o) (.int .i64 p.l) (.int .i64 p.k) (.int .i64 p.z) (.int .i64 p.h) (.slice p.r.a p.r.n p.r.c) (.string p.r.s);clear T C G u J;go_wp2_with fail;refine(Aa N).mono ?_;rintro e w2 ⟨A,c2,rfl,W,S⟩;have x:=Ad (Aa D) S;have y:=(Aa HI).below x;have V:=dG hk;have d:=fun j hj=>NQ (D6 ps.length us) us.length j (by omega) hj;have e0:=y.cellAt ((d 0 (by decide)).trans rfl);have e1:=y.cellAt ((d 1 (by decide)).trans rfl);have e2:=y.cellAt ((d 2 (by decide)).trans rfl);have e3:=y.cellAt ((d 3 (by decide)).trans rfl);have e4:=y.cellAt ((d 4 (by decide)).trans rfl);have e5:=y.cellAt ((d 5 (by decide)).trans rfl);have e6:=y.cellAt ((d 6 (by decide)).trans rfl);rw[Nat.add_zero]at e0;have R:w2.ownsRow w.heap.size 75 7 (.slice (some ⟨w.heap.size,0,none⟩) ps.length ps.length) ps.length (cellsK (D6 ps.length us)):=by
    have:w2.ownsRow w.heap.size 75 7 (.slice (some ⟨w.heap.size,0,none⟩) ps.length ps.length) (D6 ps.length us).length (cellsK (D6 ps.length us)):=y;rwa[V]at this
   have an:∀j,w2.frozen? ⟨w.heap.size,j,none⟩=false:=fun j=>R.frozenAt j;have I:=y.stored us.length (p.cop A c2);rw[gO _ f]at I;have hZ:=Nat.le_trans (Aa E) (Aa D).size;have X:=(((Aa HU).below x).snoc (p:=p.cop A c2) (W.mono hZ));have ad:=Ab (X.setK (us.length*7) (p.cop A c2) (Nat.lt_succ_self _))
   have ab:=Ab (show(us++[p.cop A c2]).map PKV.pd=(ps.take (us++[p.cop A c2]).length).map PKV.pd by
    rw[List.length_append,List.length_singleton,<-Aa P,List.map_append,List.map_append,Aa Z];rfl)
   have HS:=Ab I;have aa:=Ab (YU (Ad (Aa K) x) (Nat.le_refl _) (us.length*7) (p.cop A c2))
   have ae:=Ab (show w.heap.size+1<=(setK w2 w.heap.size (us.length*7) (p.cop A c2)).heap.size by
    rw[lj];have:=x.size;have:=Aa E;omega)
   have O:=Ab (show(us++[p.cop A c2]).length=us.length+1 by rw[List.length_append];rfl);clear N D W S x y R V d I X hZ HI K HU Z E P;generalize (D6 ps.length us).getD us.length .dflt=zz at*;go_wp2;go_roundw
   case rel=>exact⟨us++[p.cop A c2],by rw[Aa O];omega,by rw[Aa O];go_num,HS,ad,ab,aa,ae⟩
   case measure=>simp[intOf];omega
  ·have Y:us.length=ps.length:=by omega
   rw[jp Y]at HI;rw[Y,List.take_length]at Z;go_wp2;go_ret;exact⟨_,_,us,rfl,Aa HI,(Aa HU).mono (Nat.le_succ _),Aa Z,Aa K⟩
variable {c:List Nat}{Q:List PD}{k:Nat}{q:PD}{α:Type}
def aB(L:List PD)(a:List Int):List PD:=a.filterMap fun(i:Int)=>if 0<=i/\i<(L.length:Int)then some (L.getD i.toNat .dflt)else none
def E1(Q:List PD):List Nat:=Q.foldl (fun a p=>xorL a p.xs) []
def Ho(Q:List PD):List Nat:=Q.foldl (fun a p=>xorL a (tx p.s)) []
def C7:List PD->Int
 |[]=>0
 |p::Q=>Q.foldl (fun a q=>max a q.h) p.h
def EW:List PD->Option PD
 |[]=>none
 |q::Q=>if (∀p∈Q,Bv q p=true)/\0<cnt (E1 (q::Q))/\C7 (q::Q)<15 then some ⟨q.o,q.l,q.k,q.z,IntKind.i64.wrap (C7 (q::Q)+1),E1 (q::Q),st (Ho (q::Q))⟩else none
def H7(L:List PD)(a:List Int):Option PD:=EW (aB L a)
theorem Kq(q:PD)(Q:List PD):EW (q::Q)=if (∀p∈Q,Bv q p=true)/\0<cnt (E1 (q::Q))/\C7 (q::Q)<15 then some ⟨q.o,q.l,q.k,q.z,IntKind.i64.wrap (C7 (q::Q)+1),E1 (q::Q),st (Ho (q::Q))⟩else none:=rfl
theorem Mm:∀(Q:List PD) (a:Int),a<=Q.foldl (fun a q=>max a q.h) a/\(∀p∈Q,p.h<=Q.foldl (fun a q=>max a q.h) a)/\∀b,a<=b->(∀p∈Q,p.h<=b)->Q.foldl (fun a q=>max a q.h) a<=b
 |[],a=>⟨Int.le_refl _,(fun p hp=>by cases hp),fun b h _=>h⟩
 |q::Q,a=>by
  obtain⟨i,d,f⟩:=Mm Q (max a q.h);rw[List.foldl_cons];refine⟨by omega,fun p hp=>?_,fun b j hp=>f b (by have:=hp q List.mem_cons_self;omega) fun p g=>hp p (List.mem_cons_of_mem _ g)⟩;rcases List.mem_cons.1 hp with e|e
  ·rw[e];omega
  ·exact d p e
theorem Qy{b:Int}(h:∀p∈q::Q,p.h<=b):C7 (q::Q)<=b:=(Mm Q q.h).2.2 b (h q List.mem_cons_self) fun p hp=>h p (List.mem_cons_of_mem _ hp)
theorem MR{p:PD}(h:p∈q::Q):p.h<=C7 (q::Q):=by
 rcases List.mem_cons.1 h with e|e
 ·rw[e];exact(Mm Q q.h).1
 ·exact(Mm Q q.h).2.1 p e
theorem nP{k:Int}{a b:List Nat}(f:Cp k a)(g:Cp k b):Cp k (xorL a b):=by
 obtain⟨h,j,a3⟩:=f;obtain⟨l,m,e⟩:=g;refine⟨by rw[BT];omega,by rw[BT];omega,fun i d=>?_⟩;rw[ja,a3 i d,e i d,Bool.xor_false]
theorem Up{k:Int}:∀(Q:List PD) (a:List Nat),Cp k a->(∀p∈Q,Cp k p.xs)->Cp k (Q.foldl (fun a p=>xorL a p.xs) a)
 |[],a,b,_=>b
 |q::Q,a,b,h=>by
  rw[List.foldl_cons];exact Up Q _ (nP b (h q List.mem_cons_self)) fun p hp=>h p (List.mem_cons_of_mem _ hp)
theorem W7{m:Nat}:∀(Q:List PD) (a:List Nat),a.length=m->(∀p∈Q,p.s.size=m)->(Q.foldl (fun a p=>xorL a (tx p.s)) a).length=m
 |[],a,b,_=>b
 |q::Q,a,b,h=>by
  rw[List.foldl_cons];refine W7 Q _ ?_ fun p hp=>h p (List.mem_cons_of_mem _ hp);rw[BT,AT,b,h q List.mem_cons_self,Nat.max_self]
theorem Us(a:List Nat):xorL [] a=a:=by rw[KG,Mq]
theorem Z6{r:PD}(b:∀p∈q::Q,BO p=true)(h:EW (q::Q)=some r):BO r=true/\r.h=C7 (q::Q)+1:=by
 rw[Kq]at h;by_cases e:(∀p∈Q,Bv q p=true)/\0<cnt (E1 (q::Q))/\C7 (q::Q)<15
 ·rw[if_pos e]at h
  obtain⟨g,j,y⟩:=e;obtain rfl:=Option.some.inj h;have v:=Gf.1 (b q List.mem_cons_self);obtain⟨⟨w,u,o,C⟩,x,n,i⟩:=v;have B:=MR (q:=q) (Q:=Q) (p:=q) List.mem_cons_self;have f:IntKind.i64.wrap (C7 (q::Q)+1)=C7 (q::Q)+1:=by rw[IntKind.wrap_i64];omega
  refine⟨Gf.2 ⟨⟨w,u,o,?_,?_⟩,?_,j,?_⟩,f⟩
  ·show 0<=IntKind.i64.wrap (C7 (q::Q)+1)
   omega
  ·show IntKind.i64.wrap (C7 (q::Q)+1)<=15
   omega
  ·show Cp q.k (E1 (q::Q))
   unfold E1;rw[List.foldl_cons,Us];refine Up Q _ x fun p hp=>?_;have d:=(IV (b p (List.mem_cons_of_mem _ hp))).1;have a:=g p hp;unfold Bv at a;rw[decide_eq_true_eq]at a;rw[a.2.2.1];exact d
  ·show((st (Ho (q::Q))).size:Int)=q.z
   unfold Ho;rw[Dx,List.foldl_cons,Us,W7 (m:=q.s.size) Q _ (AT _) fun p hp=>?_]
   ·exact i
   ·have d:=(IV (b p (List.mem_cons_of_mem _ hp))).2.2.1
    have a:=g p hp;unfold Bv at a;rw[decide_eq_true_eq]at a;have l:=a.2.2.2;have A:(p.s.size:Int)=(q.s.size:Int):=by rw[d,<-l,<-i]
    omega
 ·rw[if_neg e]at h;cases h
def Cv(n:Nat)(a:List Int):List Nat:=a.foldl (fun c i=>if 0<=i/\i<(n:Int)then c.set i.toNat (c.getD i.toNat 0+1)else c) (List.replicate n 0)
theorem KD(n:Nat):Cv n []=List.replicate n 0:=rfl
theorem Ju(n:Nat)(a:List Int)(i:Int):Cv n (a++[i])=if 0<=i/\i<(n:Int)then(Cv n a).set i.toNat ((Cv n a).getD i.toNat 0+1)else Cv n a:=by
 unfold Cv;rw[List.foldl_append];rfl
theorem KN{P:List α->Prop}(b:P [])(d:∀l a,P l->P (l++[a])):∀l,P l:=fun l=>by
 have:∀k,k<=l.length->P (l.take k):=fun k=>by
  induction k with
  |zero=>intro _;rw[List.take_zero];exact b
  |succ k f=>intro g;rw[List.take_succ_eq_append_getElem (by omega)];exact d _ _ (f (by omega))
 have e:=this l.length (Nat.le_refl _);rwa[List.take_length]at e
theorem KC(n:Nat)(a:List Int):(Cv n a).length=n:=by
 refine KN (P:=fun a=>(Cv n a).length=n) (by rw[KD,List.length_replicate]) (fun l i b=>?_) a;rw[Ju];split
 ·rw[List.length_set,b]
 ·exact b
theorem Wd(n:Nat)(a:List Int):∀b,(Cv n a).getD b 0<=a.length:=by
 refine KN (P:=fun a=> ∀b,(Cv n a).getD b 0<=a.length) (fun b=>?_) (fun l i d b=>?_) a
 ·rw[KD,List.getD_eq_getElem?_getD,List.getElem?_replicate]
  split<;>simp
 ·rw[Ju,List.length_append,List.length_singleton]
  split
  ·rw[DV]
   have:=d b;have:=d i.toNat;split<;>omega
  ·have:=d b
   omega
def BZ{α:Type}(dd:α)(l:List α)(c:List Nat):Nat->List α
 |0=>[]
 |k+1=>if c.getD k 0=0 then BZ dd l c k else if c.getD k 0%2=0 then BZ dd l c k++[l.getD k dd]++[l.getD k dd]else BZ dd l c k++[l.getD k dd]
theorem Fh{dd:α}{l:List α}(h:c.getD k 0=0):BZ dd l c (k+1)=BZ dd l c k:=if_pos h
theorem EK{dd:α}{l:List α}(h:c.getD k 0≠0)(a:c.getD k 0%2=0):BZ dd l c (k+1)=BZ dd l c k++[l.getD k dd]++[l.getD k dd]:=(if_neg h).trans (if_pos a)
theorem Ec{dd:α}{l:List α}(h:c.getD k 0≠0)(a:¬c.getD k 0%2=0):BZ dd l c (k+1)=BZ dd l c k++[l.getD k dd]:=(if_neg h).trans (if_neg a)
theorem OU{α:Type}{dd:α}{l:List α}{c:List Nat}{b x:Nat}:∀n,n<=b->BZ dd l (c.set b x) n=BZ dd l c n
 |0,_=>rfl
 |n+1,h=>by
  have e:(c.set b x).getD n 0=c.getD n 0:=by rw[DV,if_neg (by omega)]
  show(if _ then _ else _)=(if _ then _ else _);rw[e,OU n (by omega)]
def Hk{α:Type}(g:α->List Nat)(Q:List α):List Nat:=Q.foldl (fun a p=>xorL a (g p)) []
theorem EN(g:α->List Nat)(Q:List α)(p:α):Hk g (Q++[p])=xorL (Hk g Q) (g p):=by
 unfold Hk;rw[List.foldl_append];rfl
theorem jQ(a b:List Nat):xorL (xorL (xorL a b) b) b=xorL a b:=by
 apply Ed
 ·simp only[BT];omega
 ·intro i _
  simp only[Du];rw[Nat.xor_assoc,Nat.xor_self,Nat.xor_zero]
theorem NY(a b c:List Nat):xorL (xorL a b) c=xorL (xorL a c) b:=by
 apply Ed
 ·simp only[BT];omega
 ·intro i _
  simp only[Du];rw[Nat.xor_assoc,Nat.xor_comm (b.getD i 0),<-Nat.xor_assoc]
theorem ML{b x:Nat}(h:b<c.length):(c.set b x).getD b 0=x:=by rw[DV,if_pos ⟨rfl,h⟩]
theorem MX{b x i:Nat}(h:i≠b):(c.set b x).getD i 0=c.getD i 0:=by rw[DV,if_neg (fun e=>h e.1)]
theorem SX{α:Type}{dd:α}(g:α->List Nat){l:List α}{c:List Nat}{b:Nat}(i:b<c.length):∀n,b<n->Hk g (BZ dd l (c.set b (c.getD b 0+1)) n)=xorL (Hk g (BZ dd l c n)) (g (l.getD b dd))
 |0,h=>by omega
 |n+1,h=>by
  by_cases e:n=b
  ·subst e
   have j:(c.set n (c.getD n 0+1)).getD n 0=c.getD n 0+1:=ML i;have d:BZ dd l (c.set n (c.getD n 0+1)) n=BZ dd l c n:=OU n (Nat.le_refl _);by_cases z:c.getD n 0=0
   ·rw[Ec (by omega) (by omega),Fh z,d,EN]
   ·by_cases a:c.getD n 0%2=0
    ·rw[Ec (by omega) (by omega),EK z a,d,EN,EN,EN,jQ]
    ·rw[EK (by omega) (by omega),Ec z a,d,EN,EN]
  ·have f:=SX (dd:=dd) g (l:=l) i n (by omega)
   have j:(c.set b (c.getD b 0+1)).getD n 0=c.getD n 0:=MX e;by_cases z:c.getD n 0=0
   ·rw[Fh (by omega),Fh z,f]
   ·by_cases a:c.getD n 0%2=0
    ·rw[EK (by omega) (by omega),EK z a,EN,EN,EN,EN,f,NY _ (g (l.getD b dd)),NY _ (g (l.getD b dd))]
    ·rw[Ec (by omega) (by omega),Ec z a,EN,EN,f,NY]
theorem UY{α:Type}{dd:α}{l:List α}{c:List Nat}{b:Nat}(f:b<c.length):∀n,(BZ dd l (c.set b (c.getD b 0+1)) n).length<=(BZ dd l c n).length+(if b<n then 1 else 0)
 |0=>Nat.zero_le _
 |n+1=>by
  have h:=UY (dd:=dd) (l:=l) f n;by_cases e:n=b
  ·subst e
   have g:(c.set n (c.getD n 0+1)).getD n 0=c.getD n 0+1:=ML f;have d:BZ dd l (c.set n (c.getD n 0+1)) n=BZ dd l c n:=OU n (Nat.le_refl _);rw[if_pos (by omega)];by_cases z:c.getD n 0=0
   ·rw[Ec (by omega) (by omega),Fh z,d,List.length_append,List.length_singleton]
    exact Nat.le_refl _
   ·by_cases a:c.getD n 0%2=0
    ·rw[Ec (by omega) (by omega),EK z a,d]
     simp only[List.length_append,List.length_singleton];omega
    ·rw[EK (by omega) (by omega),Ec z a,d]
     simp only[List.length_append,List.length_singleton];omega
  ·have g:(c.set b (c.getD b 0+1)).getD n 0=c.getD n 0:=MX e
   rw[show(if b<n+1 then 1 else 0)=(if b<n then 1 else 0) by split<;>split<;>omega];by_cases z:c.getD n 0=0
   ·rw[Fh (by omega),Fh z];exact h
   ·by_cases a:c.getD n 0%2=0
    ·rw[EK (by omega) (by omega),EK z a]
     simp only[List.length_append,List.length_singleton];omega
    ·rw[Ec (by omega) (by omega),Ec z a]
     simp only[List.length_append,List.length_singleton];omega
theorem PR{α:Type}{dd:α}{l:List α}{c:List Nat}{p:α}:∀n,p∈BZ dd l c n↔∃i,i<n/\c.getD i 0≠0/\p=l.getD i dd
 |0=>by
  constructor
  ·intro h;cases h
  ·rintro⟨i,h,_⟩;omega
 |n+1=>by
  have j:=PR (dd:=dd) (l:=l) (c:=c) (p:=p) n;have d:(∃i,i<n+1/\c.getD i 0≠0/\p=l.getD i dd)↔(∃i,i<n/\c.getD i 0≠0/\p=l.getD i dd)\/(c.getD n 0≠0/\p=l.getD n dd):=by
   constructor
   ·rintro⟨i,g,a,b⟩
    rcases Nat.lt_or_ge i n with e|e
    ·exact .inl ⟨i,e,a,b⟩
    ·obtain rfl:i=n:=by omega
     exact .inr ⟨a,b⟩
   ·rintro(⟨i,g,a,b⟩|⟨a,b⟩)
    ·exact⟨i,by omega,a,b⟩
    ·exact⟨n,by omega,a,b⟩
  rw[d,<-j];by_cases z:c.getD n 0=0
  ·rw[Fh z]
   exact⟨.inl,fun h=>h.elim id fun h=>absurd z h.1⟩
  ·by_cases f:c.getD n 0%2=0
   ·rw[EK z f,List.mem_append,List.mem_append,List.mem_singleton]
    constructor
    ·rintro((h|h)|h)
     ·exact .inl h
     ·exact .inr ⟨z,h⟩
     ·exact .inr ⟨z,h⟩
    ·rintro(h|h)
     ·exact .inl (.inl h)
     ·exact .inr h.2
   ·rw[Ec z f,List.mem_append,List.mem_singleton]
    constructor
    ·rintro(h|h)
     ·exact .inl h
     ·exact .inr ⟨z,h⟩
    ·rintro(h|h)
     ·exact .inl h
     ·exact .inr h.2
def FM{α:Type}(dd:α)(l:List α)(a:List Int):List α:=a.filterMap fun(i:Int)=>if 0<=i/\i<(l.length:Int)then some (l.getD i.toNat dd)else none
theorem Tr{dd:α}(l:List α)(a:List Int)(i:Int):FM dd l (a++[i])=if 0<=i/\i<(l.length:Int)then FM dd l a++[l.getD i.toNat dd]else FM dd l a:=by
 unfold FM;rw[List.filterMap_append];by_cases h:0<=i/\i<(l.length:Int)
 ·rw[if_pos h,List.filterMap_cons,List.filterMap_nil,if_pos h]
 ·rw[if_neg h,List.filterMap_cons,List.filterMap_nil,if_neg h]
  exact List.append_nil _
theorem VV{dd:α}{l:List α}{b:List Int}{p:α}(h:p∈FM dd l b):p∈l:=by
 obtain⟨i,_,a⟩:=List.mem_filterMap.1 h;split at a
 ·rename_i d
  rw[<-Option.some.inj a,List.getD_eq_getElem?_getD,List.getElem?_eq_getElem (show i.toNat<l.length by omega)];exact List.getElem_mem _
 ·cases a
def atL{α:Type}(dd:α)(l:List α)(a:List Int):List α:=BZ dd l (Cv l.length a) l.length
theorem Md{α:Type}{dd:α}(l:List α):∀n,BZ dd l (List.replicate l.length 0) n=[]
 |0=>rfl
 |n+1=>by
  rw[Fh,Md l n];rw[List.getD_eq_getElem?_getD,List.getElem?_replicate];split<;>rfl
theorem Wr{dd:α}(g:α->List Nat)(l:List α)(a:List Int):Hk g (atL dd l a)=Hk g (FM dd l a):=by
 refine KN (P:=fun a=>Hk g (atL dd l a)=Hk g (FM dd l a)) ?_ (fun a i b=>?_) a
 ·unfold atL;rw[KD,Md];rfl
 ·unfold atL
  rw[Ju,Tr];by_cases h:0<=i/\i<(l.length:Int)
  ·rw[if_pos h,if_pos h,SX g (by rw[KC];omega) _ (by omega),EN,<-b]
   rfl
  ·rw[if_neg h,if_neg h,<-b]
   rfl
theorem Xx{dd:α}(l:List α)(a:List Int):(atL dd l a).length<=a.length:=by
 refine KN (P:=fun a=>(atL dd l a).length<=a.length) ?_ (fun a i d=>?_) a
 ·unfold atL;rw[KD,Md];exact Nat.le_refl _
 ·unfold atL
  rw[Ju,List.length_append,List.length_singleton];by_cases h:0<=i/\i<(l.length:Int)
  ·rw[if_pos h]
   have e:=UY (dd:=dd) (l:=l) (c:=Cv l.length a) (b:=i.toNat) (by rw[KC];omega) l.length;rw[if_pos (by omega)]at e;unfold atL at d;omega
  ·rw[if_neg h]
   unfold atL at d;omega
theorem Wq{dd:α}{l:List α}{a:List Int}{p:α}:p∈atL dd l a↔p∈FM dd l a:=by
 refine KN (P:=fun a=>p∈atL dd l a↔p∈FM dd l a) ?_ (fun a i g=>?_) a
 ·unfold atL;rw[KD,Md];exact Iff.rfl
 ·unfold atL at g⊢
  rw[Ju,Tr];by_cases h:0<=i/\i<(l.length:Int)
  ·rw[if_pos h,if_pos h,List.mem_append,List.mem_singleton,<-g,PR,PR]
   have m:i.toNat<(Cv l.length a).length:=by rw[KC];omega
   constructor
   ·rintro⟨j,d,f,b⟩
    by_cases e:j=i.toNat
    ·subst e;exact .inr b
    ·rw[MX e]at f
     exact .inl ⟨j,d,f,b⟩
   ·rintro(⟨j,d,f,b⟩|b)
    ·by_cases e:j=i.toNat
     ·subst e
      exact⟨i.toNat,d,by rw[ML m];omega,b⟩
     ·exact⟨j,d,by rw[MX e];exact f,b⟩
    ·exact⟨i.toNat,by omega,by rw[ML m];omega,b⟩
  ·rw[if_neg h,if_neg h,g]
theorem UF{α β:Type}{dd:α}(f:α->β)(l:List α)(c:List Nat):∀n,n<=l.length->(BZ dd l c n).map f=BZ (f dd) (l.map f) c n
 |0,_=>rfl
 |n+1,h=>by
  have b:=UF (dd:=dd) f l c n (by omega);have e:f (l.getD n dd)=(l.map f).getD n (f dd):=by
   rw[List.getD_eq_getElem?_getD,List.getElem?_eq_getElem (show n<l.length by omega),List.getD_eq_getElem?_getD,List.getElem?_map,List.getElem?_eq_getElem (show n<l.length by omega)];rfl
  by_cases z:c.getD n 0=0
  ·rw[Fh z,Fh z,b]
  ·by_cases a:c.getD n 0%2=0
   ·rw[EK z a,EK z a,List.map_append,List.map_append,b,List.map_singleton,e]
   ·rw[Ec z a,Ec z a,List.map_append,b,List.map_singleton,e]
theorem Xy{β:Type}{dd:α}(f:α->β)(l:List α)(a:List Int):(atL dd l a).map f=atL (f dd) (l.map f) a:=by
 unfold atL;rw[UF f l _ _ (Nat.le_refl _),List.length_map]
theorem ka{P:List PD}(a:∀p,p∈P↔p∈Q)(n:E1 P=E1 Q)(ht:Ho P=Ho Q):EW P=EW Q:=by
 cases P with
 |nil=>
  cases Q with
  |nil=>rfl
  |cons q Q=>exact absurd ((a q).2 List.mem_cons_self) (by simp)
 |cons p P=>
  cases Q with
  |nil=>exact absurd ((a p).1 List.mem_cons_self) (by simp)
  |cons q Q=>
   have m:C7 (p::P)=C7 (q::Q):=by
    apply Int.le_antisymm
    ·exact Qy fun r f=>MR ((a r).1 f)
    ·exact Qy fun r f=>MR ((a r).2 f)
   have d:∀{p q:PD} {P Q:List PD},(∀r,r∈p::P↔r∈q::Q)->(∀r∈P,Bv p r=true)->(∀r∈Q,Bv q r=true)/\Bv p q=true:=by
    intro p q P Q a h
    have b:∀r∈p::P,Bv p r=true:=fun r f=>by
     rcases List.mem_cons.1 f with e|e
     ·rw[e];exact OT _
     ·exact h r e
    have j:Bv p q=true:=b q ((a q).2 List.mem_cons_self);exact⟨fun r f=>Tf (UE j) (b r ((a r).2 (List.mem_cons_of_mem _ f))),j⟩
   rw[Kq,Kq,n,ht,m];by_cases h:∀r∈P,Bv p r=true
   ·obtain⟨l,g⟩:=d a h
    by_cases i:0<cnt (E1 (q::Q))/\C7 (q::Q)<15
    ·rw[if_pos ⟨h,i⟩,if_pos ⟨l,i⟩]
     unfold Bv at g;rw[decide_eq_true_eq]at g;rw[g.1,g.2.1,g.2.2.1,g.2.2.2]
    ·rw[if_neg (fun e=>i e.2),if_neg (fun e=>i e.2)]
   ·rw[if_neg (fun e=>h e.1),if_neg (fun e=>h (d (fun r=>(a r).symm) e.1).1)]
theorem Z5(L:List PD)(a:List Int):EW (atL .dflt L a)=H7 L a:=ka (fun p=>Wq) (Wr (fun p:PD=>p.xs) L a) (Wr (fun p:PD=>tx p.s) L a)
end Go.Proofs.YtmmikiikddokgaaGreatDoor
