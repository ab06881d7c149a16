/- Laws for the proof. -/
import Derived.Test.YtfpmnekaockodaaGreatDoorU21
namespace Go.Proofs.YtfpmnekaockodaaGreatDoor
open Go.RowKit Go.Sort
set_option linter.all false
set_option maxRecDepth 4000
set_option maxHeartbeats 8000000
def PKV.cop(p:PKV)(a:Option Addr)(c2:Nat):PKV:=⟨p.o,p.l,p.k,p.z,p.h,⟨a,p.r.n,c2,p.r.xs,p.r.s⟩⟩
def Rw(w w':World)(g B m:Nat)(v:Value)(ps:List PKV)(p:PKV)(e:Ending):Prop:=
 e=.returned (.bool (DD m (ps.map PKV.pd) p.pd))/\∃v' a,Ay w' g B m v' a/\a.map PKV.pd=Ij m (ps.map PKV.pd) p.pd/\Tu (CG g v) w w'/\Cu w v v'
theorem RM{ops:Array Oper}{o:Oper}{a:Act}{w:World}{K:Act->World->Prop}{Q:Exit->Act->World->Prop}{E:Prop}(e:o.guard=none)(s x:Operand)
  (I:o.op=.call {callee:=.builtin .append,args:=#[s,x],argTypes:=#[69,69]}) (B:Nat) (v:Value) (ps:List PKV) (p:PKV) (J:a.eval s=v) (d:OwnP w B v ps) (b:Nat)
  (N:a.eval x=.slice (some ⟨b,0,none⟩) 1 1) (D:w.heap[b]? =some (.cells #[.int .i64 p.o,.int .i64 p.l,.int .i64 p.k,.int .i64 p.z,.int .i64 p.h,.slice p.r.a p.r.n p.r.c,.string p.r.s] 75 (0,0))) (P:ps.length<=1000000) (C:B<=w.heap.size)
  (h:∀g cap w',OwnP w' B (.slice (some ⟨g,0,none⟩) (ps.length+1) cap) (ps++[p])->w.grownBy w' v.ownBlock->(v.ownBlock=some g\/g=w.heap.size)->K (a.put o.dst (.slice (some ⟨g,0,none⟩) (ps.length+1) cap)) w'):
  if Region.wanted o (yielded ops a.tmps)=true then Oper.wp Tryz.prog o a w K Q else E:=by
 obtain⟨O,H,f,j,m⟩:=info_parts Mb
 refine step_append_lies w e s x 69 I B 75 O _ 7 80 Tryz.underlying69 H f j m rfl (by decide) v ps.length (cellsK ps) J d ⟨b,0,none⟩ 1 1 p.cells N rfl
  (World.news_of_block D) (LS p) (by decide) (by unfold maxLen;omega) (by omega) C _ rfl (fun g cap w' u y A _=>h g cap w' ?_ y A)
 show w'.ownsRow B 75 7 _ (ps++[p]).length (cellsK (ps++[p]));rw[List.length_append,Kg,show cellsK [p]=p.cells from List.append_nil _];exact u
theorem Wn{w Y y X z:World}{g B m:Nat}{v f:Value}{ps a:List PKV}{p:PKV}{u:Option Addr}{c2 g2 cap:Nat}(J:Ay Y g B m f a)(s:Tu (CG g v) w Y)(O:Cu w v f)(hd5:Below Y.heap.size Y y)(E:Own y Y.drew.heap.size (.slice u p.r.n c2) p.r.xs)
  (x:Below y.heap.size y X) (H:OwnP z B (.slice (some ⟨g2,0,none⟩) (a.length+1) cap) (a++[p.cop u c2])) (D:X.grownBy z f.ownBlock) (C:f.ownBlock=some g2\/g2=X.heap.size)
  (R:a.map PKV.pd=leftD m (ps.map PKV.pd)) (K:DD m (ps.map PKV.pd) p.pd=true) (P:Bk m (ps.map PKV.pd)) (I:Ac p.r.xs):
  Rw w (z.setCell ⟨g,1,none⟩ (.slice (some ⟨g2,0,none⟩) (a.length+1) cap)) g B m v ps p (.returned (.bool true)):=by
 have N:Ij m (ps.map PKV.pd) p.pd=(a++[p.cop u c2]).map PKV.pd:=by
  unfold Ij;rw[if_pos K,List.map_append,R];rfl
 have d:=(J.below hd5).below x;have ht:Tu (fun j=>f.ownBlock=some j) X z:=Tu.of_gb D fun j _ e=>e;have h:=P.put (p:=p.pd) I;rw[N]at h;have l:Cu X f (.slice (some ⟨g2,0,none⟩) (a.length+1) cap):=by
  rcases C with e|e
  ·exact .inl (by rw[e];rfl)
  ·refine .inr fun j T=>?_
   obtain rfl:g2=j:=Option.some.inj T;omega
 have o:Av X B (a++[p.cop u c2]):=d.rows.snoc ((E.below x).mono (Nat.le_trans J.lob (Nat.le_refl _)));obtain⟨r1,r2⟩:=d.puts ht H (o.tu ht fun j A S e=>d.words j A S (.inr e)) h l;refine⟨by rw[K],_,_,r1,N.symm,?_,?_⟩
 ·refine nJ (s.then (Ad hd5 x)) r2 O
 ·exact O.trans (l.new (Nat.le_trans hd5.size x.size)) s.size
theorem km(g B m:Nat)(v:Value)(ps:List PKV)(p:PKV)(w:World)(ht:Tab w)(h:Ay w g B m v ps)(hr:∀w',Tu (CG g v) w w'->RowAt w' p.r.a p.r.n p.r.xs)(hn:p.r.n<=10)(hs:p.r.s.size<=1000):
  Calls Tryz.prog 343 #[.pointer (some ⟨g,0,none⟩),p.val] w fun e w'=>Rw w w' g B m v ps p e:=by
 have R:=Jh w p;have hB:=h.below R;have bp:=h.len;have hx:BkA 75 (w.alloc (.cells #[.int .i64 p.o,.int .i64 p.l,.int .i64 p.k,.int .i64 p.z,.int .i64 p.h,.slice p.r.a p.r.n p.r.c,.string p.r.s] 75)) w.heap.size p.cells:=AN 75 w p.cells;have N:=eV g B m v ps p _ (ht.below R) hB (hr _ (Tu.of_below R)) hn;unfold PKV.val at N⊢;have bb:=Ab N;clear N;have bu:=h.lt;have HI:=Ab h.inv;have ba:Hid (Ac p.r.xs):=Ab (hr w (Tu.refl _ _)).2.1
 have bl:Hid (¬CG g v w.heap.size):=Ab fun hf=>by
  rcases hf with e|e
  ·omega
  ·have:=(World.ownsRow.lt h.own _ e).2;omega
 have HR:=Ab hr;have aa:=Ab R;generalize hW:w.alloc (.cells #[.int .i64 p.o,.int .i64 p.l,.int .i64 p.k,.int .i64 p.z,.int .i64 p.h,.slice p.r.a p.r.n p.r.c,.string p.r.s] 75)=W at*;have HX:=Ab hx;have au:=Ab hB;obtain⟨q0,q1,q2,q3,q4,q5,q6⟩:PkAt W w.heap.size (.int .i64 p.o) (.int .i64 p.l) (.int .i64 p.k) (.int .i64 p.z) (.int .i64 p.h) (.slice p.r.a p.r.n p.r.c) (.string p.r.s):=⟨hx.at 0 rfl,hx.at 1 rfl,hx.at 2 rfl,hx.at 3 rfl,hx.at 4 rfl,hx.at 5 rfl,hx.at 6 rfl⟩
 have a3:Hid (∀Y,Tu (CG g v) W Y->PkAt Y w.heap.size (.int .i64 p.o) (.int .i64 p.l) (.int .i64 p.k) (.int .i64 p.z) (.int .i64 p.h) (.slice p.r.a p.r.n p.r.c) (.string p.r.s)):=Ab fun Y hY=>by
  have hk:=(Aa HX).tu hY (Aa bl);exact⟨hk.at 0 rfl,hk.at 1 rfl,hk.at 2 rfl,hk.at 3 rfl,hk.at 4 rfl,hk.at 5 rfl,hk.at 6 rfl⟩
 clear h hB R hx hr ht;go_enter Tryz.func343,Tryz.ntmps343;go_wp2_with fail;refine(Aa bb).mono ?_;rintro e w1 ⟨rfl,ae⟩;have ab:=Ab ae;clear bb q0 q1 q2 q3 q4 q5 q6;cases hT:DD m (ps.map PKV.pd) p.pd
 ·have HT:=Ab hT
  clear hT ae;go_wp2;go_ret;have bn:=Ad (Aa aa) (Aa ab);exact⟨by rw[Aa HT];rfl,v,ps,(Aa au).below (Aa ab),by unfold Ij;rw[if_neg (by rw[Aa HT];decide)],Tu.of_below bn,Cu.refl _ _⟩
 have HT:=Ab hT;have ac:=(Aa au).below ae;have a8:=Ab ac;obtain⟨d0,d1⟩:=ac.cells (Below.refl _ _);obtain⟨a,c,hv, -, -, -⟩:=ac.at;have bq:=(To hT).1;clear ae ac hT;by_cases aw:ps.length=m
 ·have ag:0<ps.length:=by omega
  obtain⟨A,y,br⟩:∃A y,v=.slice (some ⟨A,0,none⟩) ps.length y:=by
   rcases(Aa au).own.2 with⟨_,e⟩|⟨A,y,_,e,_⟩
   ·omega
   ·exact⟨A,y,e⟩
  subst br;clear hv;have bo:((ps.length:Int)==(m:Int))=true:=by rw[beq_iff_eq];omega
  have ay:=(LO (ps.map PKV.pd) ps.length ag).1;have a0:Ay w1.drew g B m (.slice (some ⟨A,0,none⟩) ps.length y) ps:=(Aa a8).below (Below.refl _ _).drew;have bc:=Ab (gV g B m _ ps w1.drew a0 ag);have a6:Hid ((ps.eraseIdx (goesTo (ps.map PKV.pd) ps.length)).map PKV.pd=leftD m (ps.map PKV.pd)):=Ab (by unfold leftD;rw[List.length_map,if_pos (by omega),Un])
  have bj:Hid (Bk m ((ps.eraseIdx (goesTo (ps.map PKV.pd) ps.length)).map PKV.pd)):=Ab (by
   rw[Aa a6];have hI:=Aa HI;exact⟨by have:=(Vm (m:=m) hI.le bq).1;omega,fun q hq=>hI.ok q (GN q hq),fun q hq r hr=>hI.alk q (GN q hq) r (GN r hr),fun q hq=>hI.sm q (GN q hq)⟩)
  have a5:=Ab (fun(wx:World) (ho:OwnP wx B (.slice (some ⟨A,0,none⟩) ps.length y) ps)=>ki B A y (goesTo (ps.map PKV.pd) ps.length) ps wx ho ay bp.2);have bt:goesTo (ps.map PKV.pd) ps.length<=256:=by omega
  have bh:Hid ((ps.eraseIdx (goesTo (ps.map PKV.pd) ps.length)).length=ps.length-1):=Ab (List.length_eraseIdx_of_lt ay);have bi:Hid (∀q∈ps.eraseIdx (goesTo (ps.map PKV.pd) ps.length),q∈ps):=Ab fun q hq=>List.mem_of_mem_eraseIdx hq;have a9:=Ab a0;clear a0 ay aw;generalize goesTo (ps.map PKV.pd) ps.length=G at*;generalize ps.eraseIdx G=es at*;go_wp2;go_region_held3 (fun w'=>w'.cell? ⟨g,0,none⟩=some (.int .i64 (m:Int))/\w'.cell? ⟨g,1,none⟩=some (.slice (some ⟨A,0,none⟩) ps.length y)) (go_keep) (fail);go_wp2_with fail;refine(Aa bc).mono ?_;rintro e w2 ⟨rfl,av⟩;have ad:=(Aa a9).below av;have I:=Ab ad;obtain⟨y0,y1⟩:=ad.cells (Below.refl _ _);have a4:=Ab (Aa a5 w2 ad.own);have ai:=Ab (show Below W.heap.size W w2 from Ad (Ad (Aa ab) (Below.refl _ _).drew) av);clear av ad bc a9 a5 d0 d1;go_wp2_with fail;refine(Aa a4).mono ?_;rintro e w3 ⟨rfl,bg,ax⟩;have a1:Tu (fun j=>(Value.slice (some ⟨A,0,none⟩) ps.length y).ownBlock=some j) w2 w3:=Tu.of_gb ax fun j _ e=>e;have af:Cu w2 (.slice (some ⟨A,0,none⟩) ps.length y) (.slice (some ⟨A,0,none⟩) (ps.length-1) y):=.inl rfl;have az:=(Aa I).blk.kept ax (fun e=>(Aa I).blk.neP (Aa I).own (by decide) e.symm);have y2:=az.at 1 rfl;have yf:=az.frz 1;have a7:=Ab ((Aa I).puts a1 bg (((Aa I).rows.sub (Aa bi)).tu a1 fun j bm hc e=>(Aa I).words j bm hc (.inr e)) (Aa bj) af);clear bg ax a1 az a4 y0 y1;go_wp2_with fail;generalize hY:w3.setCell ⟨g,1,none⟩ (.slice (some ⟨A,0,none⟩) (ps.length-1) y)=Y at*;obtain⟨f,H⟩:=Aa a7;have O:=Ab (H.after (Ad (Aa aa) (Aa ai)));have an:Hid (Cu w (.slice (some ⟨A,0,none⟩) ps.length y) (.slice (some ⟨A,0,none⟩) (ps.length-1) y)):=Ab (af.new (Ad (Aa aa) (Aa ai)).size);have HS:=Ab f;have d:=OP p Y.drew ((Aa HR _ (Aa O)).below (Below.refl _ _).drew) (by omega) (by omega);unfold PKV.val at d;have ak:=Ab d;clear d;obtain⟨q0,q1,q2,q3,q4,q5,q6⟩:=Aa a3 Y (H.after (Aa ai));obtain⟨z0,bs⟩:=f.cells (Below.refl _ _);have bf:es.length=ps.length-1:=Aa bh;have am:Hid (es.length<=1000000):=Ab (by omega)
  have ao:Hid (some g≠(Value.slice (some ⟨A,0,none⟩) (ps.length-1) y).ownBlock):=Ab fun e=>f.blk.neP f.own (by decide) e.symm;have HL:=a6;clear f H hY a7 bf y2 yf
  go_region_law (first
   |(go_simp;go_at_call 344;refine(Aa ak).mono ?_;rintro e J ⟨a2,c2,rfl,X,S⟩;have D5:=Ab (show Below Y.heap.size Y J from Ad (Below.refl _ _).drew S);have u:=(Aa HS).below (Aa D5);have K:=Ab u;have aq:=Ab X;have z1:=(u.cells (Below.refl _ _)).2;have x:Below J.heap.size J (J.alloc (.cells #[.int .i64 p.o,.int .i64 p.l,.int .i64 p.k,.int .i64 p.z,.int .i64 p.h,.slice a2 p.r.n c2,.string p.r.s] 75)):=(Below.refl _ _).alloc (Nat.le_refl _) _;have C:=Ab x;have z2:=(u.cells x).2;have T:=heap_alloc_new J (.cells #[.int .i64 p.o,.int .i64 p.l,.int .i64 p.k,.int .i64 p.z,.int .i64 p.h,.slice a2 p.r.n c2,.string p.r.s] 75);have ap:=Ab T;have aj:=Ab (Nat.le_trans u.lob x.size);clear X S u x T)
   |(refine RM (by rfl) _ _ (by rfl) B (.slice (some ⟨A,0,none⟩) (ps.length-1) y) es (p.cop a2 c2) (by rfl) ((Aa K).own.below (Aa C)) J.heap.size (by rfl) (Aa ap) (Aa am) (Aa aj) ?_;intro g2 cap w6 Z D P;have ar:=Ab Z;have al:=Ab D;have ah:=Ab P;have E:=((Aa K).below (Aa C)).blk.kept D (Aa ao);have u1:=E.at 1 rfl;have uf:=E.frz 1;clear Z D P E)
   |fail)
  all_goals go_wp2
  all_goals go_ret
  all_goals exact Wn (Aa HS) (Aa O) (Aa an) (Aa D5) (Aa aq) (Aa C) (Aa ar) (Aa al) (Aa ah) (Aa HL) (Aa HT) (Aa HI) (Aa ba)
 ·have bo:((ps.length:Int)==(m:Int))=false:=by rw[beq_eq_false_iff_ne];omega
  subst hv;go_wp2;go_region_held3 (fun w'=>w'.cell? ⟨g,0,none⟩=some (.int .i64 (m:Int))/\w'.cell? ⟨g,1,none⟩=some (.slice a ps.length c)) (go_keep) (fail);go_wp2_with fail;have f:Ay w1.drew g B m (.slice a ps.length c) ps:=(Aa a8).below (Below.refl _ _).drew;have bd:Below W.heap.size W w1.drew:=Ad (Aa ab) (Below.refl _ _).drew;have H:Tu (CG g (.slice a ps.length c)) W w1.drew:=Tu.of_below bd;generalize hY:w1.drew=Y at*;have O:=Ab (H.after (Aa aa));have an:Hid (Cu w (.slice a ps.length c) (.slice a ps.length c)):=Ab (Cu.refl _ _);have HS:=Ab f;have d:=OP p Y.drew ((Aa HR _ (Aa O)).below (Below.refl _ _).drew) (by omega) (by omega);unfold PKV.val at d;have ak:=Ab d;clear d;obtain⟨q0,q1,q2,q3,q4,q5,q6⟩:=Aa a3 Y H;obtain⟨z0,bs⟩:=f.cells (Below.refl _ _);have am:Hid (ps.length<=1000000):=Ab (by omega);have ao:Hid (some g≠(Value.slice a ps.length c).ownBlock):=Ab fun e=>f.blk.neP f.own (by decide) e.symm;have HL:Hid (ps.map PKV.pd=leftD m (ps.map PKV.pd)):=Ab (by unfold leftD;rw[List.length_map,if_neg (by omega)]);clear f H bd hY d0 d1
  go_region_law (first
   |(go_simp;go_at_call 344;refine(Aa ak).mono ?_;rintro e J ⟨a2,c2,rfl,X,S⟩;have D5:=Ab (show Below Y.heap.size Y J from Ad (Below.refl _ _).drew S);have u:=(Aa HS).below (Aa D5);have K:=Ab u;have aq:=Ab X;have z1:=(u.cells (Below.refl _ _)).2;have x:Below J.heap.size J (J.alloc (.cells #[.int .i64 p.o,.int .i64 p.l,.int .i64 p.k,.int .i64 p.z,.int .i64 p.h,.slice a2 p.r.n c2,.string p.r.s] 75)):=(Below.refl _ _).alloc (Nat.le_refl _) _;have C:=Ab x;have z2:=(u.cells x).2;have T:=heap_alloc_new J (.cells #[.int .i64 p.o,.int .i64 p.l,.int .i64 p.k,.int .i64 p.z,.int .i64 p.h,.slice a2 p.r.n c2,.string p.r.s] 75);have ap:=Ab T;have aj:=Ab (Nat.le_trans u.lob x.size);clear X S u x T)
   |(refine RM (by rfl) _ _ (by rfl) B (.slice a ps.length c) ps (p.cop a2 c2) (by rfl) ((Aa K).own.below (Aa C)) J.heap.size (by rfl) (Aa ap) (Aa am) (Aa aj) ?_;intro g2 cap w6 Z D P;have ar:=Ab Z;have al:=Ab D;have ah:=Ab P;have E:=((Aa K).below (Aa C)).blk.kept D (Aa ao);have u1:=E.at 1 rfl;have uf:=E.frz 1;clear Z D P E)
   |fail)
  all_goals go_wp2
  all_goals go_ret
  all_goals exact Wn (Aa HS) (Aa O) (Aa an) (Aa D5) (Aa aq) (Aa C) (Aa ar) (Aa al) (Aa ah) (Aa HL) (Aa HT) (Aa HI) (Aa ba)
theorem jn(ks:List PKV)(k:Nat)(a:k<ks.length):ks.take k++[ks.getD k .dflt]=ks.take (k+1):=by
 rw[List.take_succ_eq_append_getElem a];simp[List.getD_eq_getElem?_getD,List.getElem?_eq_getElem a]
def cR(w w':World)(ps:List PKV)(e:Ending):Prop:=∃b c us,e=.returned (.slice (some ⟨b,0,none⟩) ps.length c)/\OwnP w' w.heap.size (.slice (some ⟨b,0,none⟩) ps.length c) us/\Av w' w.heap.size us/\us.map PKV.pd=ps.map PKV.pd/\Below w.heap.size w w'
theorem kh(g B m:Nat)(v:Value)(ps:List PKV)(w:World)(h:Ay w g B m v ps):
  Calls Tryz.prog 340 #[.pointer (some ⟨g,0,none⟩)] w fun e w'=>cR w w' ps e:=by
 have aq:=h.len.2;obtain⟨a,c,rfl,hP, -, -⟩:=h.at;have ar:=Z6 ps.length (by omega);have HM:=Ab (Z2 w ps.length (by omega) (Eb ps.length []) (gC _));have I:Below w.heap.size w (w.alloc (.cells (madeCells #[.int .i64 0,.int .i64 0,.int .i64 0,.int .i64 0,.int .i64 0,.slice none 0 0,.string ⟨#[]⟩] (ps.length*7)) 75)):=(Below.refl _ _).alloc (Nat.le_refl _) _;obtain⟨k0,k1⟩:=h.cells (Below.refl _ _);obtain⟨j0,j1⟩:=h.cells I;have O:=Ab I;have HZ:=Ab (show w.heap.size+1<=(w.alloc (.cells (madeCells #[.int .i64 0,.int .i64 0,.int .i64 0,.int .i64 0,.int .i64 0,.slice none 0 0,.string ⟨#[]⟩] (ps.length*7)) 75)).heap.size by rw[Bc];exact Nat.le_refl _);have Hh:=Ab hP
 have ae:Hid (∀i,i<ps.length->(ps.getD i .dflt).r.n<=1048576/\(ps.getD i .dflt).r.s.size<=1048576):=Ab fun i hi=>by
  have h1:=(h.inv.get (i:=i) (by rw[List.length_map];exact hi)).1;rw[Lu hi]at h1;have h2:=JX h1;have h3:=(hP.2.1 i hi).1;have h4:(ps.getD i .dflt).r.xs.length<=2:=h2;have h5:=I5 h1;have h6:((ps.getD i .dflt).r.s.size:Int)=(ps.getD i .dflt).z:=h5.2.2.1;have h7:(ps.getD i .dflt).z<=64:=h5.2.2.2.2.2;omega
 clear h hP I;go_enter Tryz.func340,Tryz.ntmps340;go_wp2;go_loopw [19] (fun i wr=> ∃us:List PKV,us.length<=ps.length/\i=.int .i64 us.length/\Hid (OwnP wr w.heap.size (.slice (some ⟨w.heap.size,0,none⟩) ps.length ps.length) (Eb ps.length us))/\Hid (Av wr (w.heap.size+1) us)/\Hid (us.map PKV.pd=(ps.take us.length).map PKV.pd)/\Hid (Below w.heap.size w wr)/\Hid (w.heap.size+1<=wr.heap.size)) (fun i _=>ps.length-(intOf i).toNat)
 case atStart=>exact⟨[],Nat.zero_le _,rfl,HM,Ab (Av.nil _ _),Ab rfl,O,HZ⟩
 case round=>
  obtain⟨us,hk,rfl,HI,HU,HC,N,E⟩:=hrel;clear HM O HZ;by_cases f:us.length<ps.length
  ·obtain⟨b,off,rfl,X⟩:=((Aa Hh).below (Aa N)).at f
   obtain⟨ai,aj,ak,al,am,an,ao⟩:=X us.length f;have ah:(us.length:Int)<(ps.length:Int):=by omega
   have C:=((Aa Hh).below (Aa N)).2.1 us.length f;have K:=Aa ae us.length f;have S:=Ab (jn ps us.length f);generalize ps.getD us.length .dflt=p at*;have H:=Jh wr p;have u:=OP p _ (C.below H) K.1 K.2;unfold PKV.val at u;have P:=Ab u;have D:=Ab H;obtain⟨au,av,aw,ax,ay,az,a0⟩:=Fv wr (.int .i64 p.o) (.int .i64 p.l) (.int .i64 p.k) (.int .i64 p.z) (.int .i64 p.h) (.slice p.r.a p.r.n p.r.c) (.string p.r.s);clear X C H u K;go_wp2_with fail;refine(Aa P).mono ?_;rintro e w2 ⟨A,c2,rfl,Z,W⟩;have x:=Ad (Aa D) W;have y:=(Aa HI).below x;have Y:=eG hk;have d:=fun j hj=>Oj (Eb ps.length us) us.length j (by omega) hj;have e0:=y.cellAt ((d 0 (by decide)).trans rfl);have e1:=y.cellAt ((d 1 (by decide)).trans rfl);have e2:=y.cellAt ((d 2 (by decide)).trans rfl);have e3:=y.cellAt ((d 3 (by decide)).trans rfl);have e4:=y.cellAt ((d 4 (by decide)).trans rfl);have e5:=y.cellAt ((d 5 (by decide)).trans rfl);have e6:=y.cellAt ((d 6 (by decide)).trans rfl);rw[Nat.add_zero]at e0;have T:w2.ownsRow w.heap.size 75 7 (.slice (some ⟨w.heap.size,0,none⟩) ps.length ps.length) ps.length (cellsK (Eb ps.length us)):=by
    have:w2.ownsRow w.heap.size 75 7 (.slice (some ⟨w.heap.size,0,none⟩) ps.length ps.length) (Eb ps.length us).length (cellsK (Eb ps.length us)):=y;rwa[Y]at this
   have ap:∀j,w2.frozen? ⟨w.heap.size,j,none⟩=false:=fun j=>T.frozenAt j;have J:=y.stored us.length (p.cop A c2);rw[gB _ f]at J;have hZ:=Nat.le_trans (Aa E) (Aa D).size;have aa:=(((Aa HU).below x).snoc (p:=p.cop A c2) (Z.mono hZ));have af:=Ab (aa.setK (us.length*7) (p.cop A c2) (Nat.lt_succ_self _))
   have ad:=Ab (show(us++[p.cop A c2]).map PKV.pd=(ps.take (us++[p.cop A c2]).length).map PKV.pd by
    rw[List.length_append,List.length_singleton,<-Aa S,List.map_append,List.map_append,Aa HC];rfl)
   have HS:=Ab J;have ac:=Ab (aG (Ad (Aa N) x) (Nat.le_refl _) (us.length*7) (p.cop A c2))
   have ag:=Ab (show w.heap.size+1<=(setK w2 w.heap.size (us.length*7) (p.cop A c2)).heap.size by
    rw[mF];have:=x.size;have:=Aa E;omega)
   have R:=Ab (show(us++[p.cop A c2]).length=us.length+1 by rw[List.length_append];rfl);clear P D Z W x y T Y d J aa hZ HI N HU HC E S;generalize (Eb ps.length us).getD us.length .dflt=zz at*;go_wp2;go_roundw
   case rel=>exact⟨us++[p.cop A c2],by rw[Aa R];omega,by rw[Aa R];go_num,HS,af,ad,ac,ag⟩
   case measure=>simp[intOf];omega
  ·have ab:us.length=ps.length:=by omega
   rw[kI ab]at HI;rw[ab,List.take_length]at HC;go_wp2;go_ret;exact⟨_,_,us,rfl,Aa HI,(Aa HU).mono (Nat.le_succ _),Aa HC,Aa N⟩
variable {t:Int}{V:List (List Nat)}{c:List Nat}{Q:List PD}{b k i:Nat}{q:PD}{α:Type}
def cZ(L:List PD)(a:List Int):List PD:=a.filterMap fun(i:Int)=>if 0<=i/\i<(L.length:Int)then some (L.getD i.toNat .dflt)else none
def Fc(Q:List PD):List Nat:=Q.foldl (fun a p=>xorL a p.xs) []
def Hy(Q:List PD):List Nat:=Q.foldl (fun a p=>xorL a (tx p.s)) []
def C6:List PD->Int
 |[]=>0
 |p::Q=>Q.foldl (fun a q=>max a q.h) p.h
def E9:List PD->Option PD
 |[]=>none
 |q::Q=>if (∀p∈Q,Bx q p=true)/\0<cnt (Fc (q::Q))/\C6 (q::Q)<15 then some ⟨q.o,q.l,q.k,q.z,IntKind.i64.wrap (C6 (q::Q)+1),Fc (q::Q),st (Hy (q::Q))⟩else none
def Ig(L:List PD)(a:List Int):Option PD:=E9 (cZ L a)
theorem KI(q:PD)(Q:List PD):E9 (q::Q)=if (∀p∈Q,Bx q p=true)/\0<cnt (Fc (q::Q))/\C6 (q::Q)<15 then some ⟨q.o,q.l,q.k,q.z,IntKind.i64.wrap (C6 (q::Q)+1),Fc (q::Q),st (Hy (q::Q))⟩else none:=rfl
theorem MD:∀(Q:List PD) (a:Int),a<=Q.foldl (fun a q=>max a q.h) a/\(∀p∈Q,p.h<=Q.foldl (fun a q=>max a q.h) a)/\∀b,a<=b->(∀p∈Q,p.h<=b)->Q.foldl (fun a q=>max a q.h) a<=b
 |[],a=>⟨Int.le_refl _,(fun p hp=>by cases hp),fun b h _=>h⟩
 |q::Q,a=>by
  obtain⟨j,d,f⟩:=MD Q (max a q.h);rw[List.foldl_cons];refine⟨by omega,fun p hp=>?_,fun b l hp=>f b (by have:=hp q List.mem_cons_self;omega) fun p g=>hp p (List.mem_cons_of_mem _ g)⟩;rcases List.mem_cons.1 hp with e|e
  ·rw[e];omega
  ·exact d p e
theorem QE{b:Int}(h:∀p∈q::Q,p.h<=b):C6 (q::Q)<=b:=(MD Q q.h).2.2 b (h q List.mem_cons_self) fun p hp=>h p (List.mem_cons_of_mem _ hp)
theorem M3{p:PD}(h:p∈q::Q):p.h<=C6 (q::Q):=by
 rcases List.mem_cons.1 h with e|e
 ·rw[e];exact(MD Q q.h).1
 ·exact(MD Q q.h).2.1 p e
theorem nP{k:Int}{a b:List Nat}(f:Cq k a)(g:Cq k b):Cq k (xorL a b):=by
 obtain⟨h,j,a3⟩:=f;obtain⟨l,m,e⟩:=g;refine⟨by rw[BY];omega,by rw[BY];omega,fun i d=>?_⟩;rw[lq,a3 i d,e i d,Bool.xor_false]
theorem Ux{k:Int}:∀(Q:List PD) (a:List Nat),Cq k a->(∀p∈Q,Cq k p.xs)->Cq k (Q.foldl (fun a p=>xorL a p.xs) a)
 |[],a,d,_=>d
 |q::Q,a,d,h=>by
  rw[List.foldl_cons];exact Ux Q _ (nP d (h q List.mem_cons_self)) fun p hp=>h p (List.mem_cons_of_mem _ hp)
theorem Xn{m:Nat}:∀(Q:List PD) (a:List Nat),a.length=m->(∀p∈Q,p.s.size=m)->(Q.foldl (fun a p=>xorL a (tx p.s)) a).length=m
 |[],a,d,_=>d
 |q::Q,a,d,h=>by
  rw[List.foldl_cons];refine Xn Q _ ?_ fun p hp=>h p (List.mem_cons_of_mem _ hp);rw[BY,AU,d,h q List.mem_cons_self,Nat.max_self]
theorem UA(a:List Nat):xorL [] a=a:=by rw[KP,MI]
theorem Z9{r:PD}(d:∀p∈q::Q,BT p=true)(h:E9 (q::Q)=some r):BT r=true/\r.h=C6 (q::Q)+1:=by
 rw[KI]at h;by_cases f:(∀p∈Q,Bx q p=true)/\0<cnt (Fc (q::Q))/\C6 (q::Q)<15
 ·rw[if_pos f]at h
  obtain⟨j,o,C⟩:=f;obtain rfl:=Option.some.inj h;have y:=Gp.1 (d q List.mem_cons_self);obtain⟨⟨A,x,w,H⟩,B,v,l⟩:=y;have E:=M3 (q:=q) (Q:=Q) (p:=q) List.mem_cons_self;have g:IntKind.i64.wrap (C6 (q::Q)+1)=C6 (q::Q)+1:=by rw[IntKind.wrap_i64];omega
  refine⟨Gp.2 ⟨⟨A,x,w,?_,?_⟩,?_,o,?_⟩,g⟩
  ·show 0<=IntKind.i64.wrap (C6 (q::Q)+1)
   omega
  ·show IntKind.i64.wrap (C6 (q::Q)+1)<=15
   omega
  ·show Cq q.k (Fc (q::Q))
   unfold Fc;rw[List.foldl_cons,UA];refine Ux Q _ B fun p hp=>?_;have e:=(I5 (d p (List.mem_cons_of_mem _ hp))).1;have a:=j p hp;unfold Bx at a;rw[decide_eq_true_eq]at a;rw[a.2.2.1];exact e
  ·show((st (Hy (q::Q))).size:Int)=q.z
   unfold Hy;rw[Dw,List.foldl_cons,UA,Xn (m:=q.s.size) Q _ (AU _) fun p hp=>?_]
   ·exact l
   ·have e:=(I5 (d p (List.mem_cons_of_mem _ hp))).2.2.1
    have a:=j p hp;unfold Bx at a;rw[decide_eq_true_eq]at a;have u:=a.2.2.2;have D:(p.s.size:Int)=(q.s.size:Int):=by rw[e,<-u,<-l]
    omega
 ·rw[if_neg f]at h;cases h
def Cw(n:Nat)(a:List Int):List Nat:=a.foldl (fun c i=>if 0<=i/\i<(n:Int)then c.set i.toNat (c.getD i.toNat 0+1)else c) (List.replicate n 0)
theorem KN(n:Nat):Cw n []=List.replicate n 0:=rfl
theorem JC(n:Nat)(a:List Int)(i:Int):Cw n (a++[i])=if 0<=i/\i<(n:Int)then(Cw n a).set i.toNat ((Cw n a).getD i.toNat 0+1)else Cw n a:=by
 unfold Cw;rw[List.foldl_append];rfl
theorem KT{P:List α->Prop}(d:P [])(e:∀l a,P l->P (l++[a])):∀l,P l:=fun l=>by
 have:∀k,k<=l.length->P (l.take k):=fun k=>by
  induction k with
  |zero=>intro _;rw[List.take_zero];exact d
  |succ k g=>intro h;rw[List.take_succ_eq_append_getElem (by omega)];exact e _ _ (g (by omega))
 have f:=this l.length (Nat.le_refl _);rwa[List.take_length]at f
theorem KM(n:Nat)(a:List Int):(Cw n a).length=n:=by
 refine KT (P:=fun a=>(Cw n a).length=n) (by rw[KN,List.length_replicate]) (fun l i d=>?_) a;rw[JC];split
 ·rw[List.length_set,d]
 ·exact d
theorem VZ(n:Nat)(a:List Int):∀b,(Cw n a).getD b 0<=a.length:=by
 refine KT (P:=fun a=> ∀b,(Cw n a).getD b 0<=a.length) (fun b=>?_) (fun l i d b=>?_) a
 ·rw[KN,List.getD_eq_getElem?_getD,List.getElem?_replicate]
  split<;>simp
 ·rw[JC,List.length_append,List.length_singleton]
  split
  ·rw[DZ]
   have:=d b;have:=d i.toNat;split<;>omega
  ·have:=d b
   omega
def Ca{α:Type}(dd:α)(l:List α)(c:List Nat):Nat->List α
 |0=>[]
 |k+1=>if c.getD k 0=0 then Ca dd l c k else if c.getD k 0%2=0 then Ca dd l c k++[l.getD k dd]++[l.getD k dd]else Ca dd l c k++[l.getD k dd]
theorem Fs{dd:α}{l:List α}(h:c.getD k 0=0):Ca dd l c (k+1)=Ca dd l c k:=if_pos h
theorem EU{dd:α}{l:List α}(h:c.getD k 0≠0)(a:c.getD k 0%2=0):Ca dd l c (k+1)=Ca dd l c k++[l.getD k dd]++[l.getD k dd]:=(if_neg h).trans (if_pos a)
theorem Eh{dd:α}{l:List α}(h:c.getD k 0≠0)(a:¬c.getD k 0%2=0):Ca dd l c (k+1)=Ca dd l c k++[l.getD k dd]:=(if_neg h).trans (if_neg a)
theorem Pa{α:Type}{dd:α}{l:List α}{c:List Nat}{b x:Nat}:∀n,n<=b->Ca dd l (c.set b x) n=Ca dd l c n
 |0,_=>rfl
 |n+1,h=>by
  have e:(c.set b x).getD n 0=c.getD n 0:=by rw[DZ,if_neg (by omega)]
  show(if _ then _ else _)=(if _ then _ else _);rw[e,Pa n (by omega)]
def Hu{α:Type}(g:α->List Nat)(Q:List α):List Nat:=Q.foldl (fun a p=>xorL a (g p)) []
theorem EY(g:α->List Nat)(Q:List α)(p:α):Hu g (Q++[p])=xorL (Hu g Q) (g p):=by
 unfold Hu;rw[List.foldl_append];rfl
theorem kA(a b:List Nat):xorL (xorL (xorL a b) b) b=xorL a b:=by
 apply Ei
 ·simp only[BY];omega
 ·intro i _
  simp only[Du];rw[Nat.xor_assoc,Nat.xor_self,Nat.xor_zero]
theorem Of(a b c:List Nat):xorL (xorL a b) c=xorL (xorL a c) b:=by
 apply Ei
 ·simp only[BY];omega
 ·intro i _
  simp only[Du];rw[Nat.xor_assoc,Nat.xor_comm (b.getD i 0),<-Nat.xor_assoc]
theorem M0{x:Nat}(h:b<c.length):(c.set b x).getD b 0=x:=by rw[DZ,if_pos ⟨rfl,h⟩]
theorem Ng{x:Nat}(h:i≠b):(c.set b x).getD i 0=c.getD i 0:=by rw[DZ,if_neg (fun e=>h e.1)]
theorem SV{α:Type}{dd:α}(g:α->List Nat){l:List α}{c:List Nat}{b:Nat}(j:b<c.length):∀n,b<n->Hu g (Ca dd l (c.set b (c.getD b 0+1)) n)=xorL (Hu g (Ca dd l c n)) (g (l.getD b dd))
 |0,h=>by omega
 |n+1,h=>by
  by_cases e:n=b
  ·subst e
   have m:(c.set n (c.getD n 0+1)).getD n 0=c.getD n 0+1:=M0 j;have d:Ca dd l (c.set n (c.getD n 0+1)) n=Ca dd l c n:=Pa n (Nat.le_refl _);by_cases z:c.getD n 0=0
   ·rw[Eh (by omega) (by omega),Fs z,d,EY]
   ·by_cases a:c.getD n 0%2=0
    ·rw[Eh (by omega) (by omega),EU z a,d,EY,EY,EY,kA]
    ·rw[EU (by omega) (by omega),Eh z a,d,EY,EY]
  ·have f:=SV (dd:=dd) g (l:=l) j n (by omega)
   have m:(c.set b (c.getD b 0+1)).getD n 0=c.getD n 0:=Ng e;by_cases z:c.getD n 0=0
   ·rw[Fs (by omega),Fs z,f]
   ·by_cases a:c.getD n 0%2=0
    ·rw[EU (by omega) (by omega),EU z a,EY,EY,EY,EY,f,Of _ (g (l.getD b dd)),Of _ (g (l.getD b dd))]
    ·rw[Eh (by omega) (by omega),Eh z a,EY,EY,f,Of]
theorem Vn{α:Type}{dd:α}{l:List α}{c:List Nat}{b:Nat}(f:b<c.length):∀n,(Ca dd l (c.set b (c.getD b 0+1)) n).length<=(Ca dd l c n).length+(if b<n then 1 else 0)
 |0=>Nat.zero_le _
 |n+1=>by
  have h:=Vn (dd:=dd) (l:=l) f n;by_cases e:n=b
  ·subst e
   have g:(c.set n (c.getD n 0+1)).getD n 0=c.getD n 0+1:=M0 f;have d:Ca dd l (c.set n (c.getD n 0+1)) n=Ca dd l c n:=Pa n (Nat.le_refl _);rw[if_pos (by omega)];by_cases z:c.getD n 0=0
   ·rw[Eh (by omega) (by omega),Fs z,d,List.length_append,List.length_singleton]
    exact Nat.le_refl _
   ·by_cases a:c.getD n 0%2=0
    ·rw[Eh (by omega) (by omega),EU z a,d]
     simp only[List.length_append,List.length_singleton];omega
    ·rw[EU (by omega) (by omega),Eh z a,d]
     simp only[List.length_append,List.length_singleton];omega
  ·have g:(c.set b (c.getD b 0+1)).getD n 0=c.getD n 0:=Ng e
   rw[show(if b<n+1 then 1 else 0)=(if b<n then 1 else 0) by split<;>split<;>omega];by_cases z:c.getD n 0=0
   ·rw[Fs (by omega),Fs z];exact h
   ·by_cases a:c.getD n 0%2=0
    ·rw[EU (by omega) (by omega),EU z a]
     simp only[List.length_append,List.length_singleton];omega
    ·rw[Eh (by omega) (by omega),Eh z a]
     simp only[List.length_append,List.length_singleton];omega
theorem Qi{α:Type}{dd:α}{l:List α}{c:List Nat}{p:α}:∀n,p∈Ca dd l c n↔∃i,i<n/\c.getD i 0≠0/\p=l.getD i dd
 |0=>by
  constructor
  ·intro h;cases h
  ·rintro⟨i,h,_⟩;omega
 |n+1=>by
  have m:=Qi (dd:=dd) (l:=l) (c:=c) (p:=p) n;have f:(∃i,i<n+1/\c.getD i 0≠0/\p=l.getD i dd)↔(∃i,i<n/\c.getD i 0≠0/\p=l.getD i dd)\/(c.getD n 0≠0/\p=l.getD n dd):=by
   constructor
   ·rintro⟨i,j,a,d⟩
    rcases Nat.lt_or_ge i n with e|e
    ·exact .inl ⟨i,e,a,d⟩
    ·obtain rfl:i=n:=by omega
     exact .inr ⟨a,d⟩
   ·rintro(⟨i,j,a,d⟩|⟨a,d⟩)
    ·exact⟨i,by omega,a,d⟩
    ·exact⟨n,by omega,a,d⟩
  rw[f,<-m];by_cases z:c.getD n 0=0
  ·rw[Fs z]
   exact⟨.inl,fun h=>h.elim id fun h=>absurd z h.1⟩
  ·by_cases g:c.getD n 0%2=0
   ·rw[EU z g,List.mem_append,List.mem_append,List.mem_singleton]
    constructor
    ·rintro((h|h)|h)
     ·exact .inl h
     ·exact .inr ⟨z,h⟩
     ·exact .inr ⟨z,h⟩
    ·rintro(h|h)
     ·exact .inl (.inl h)
     ·exact .inr h.2
   ·rw[Eh z g,List.mem_append,List.mem_singleton]
    constructor
    ·rintro(h|h)
     ·exact .inl h
     ·exact .inr ⟨z,h⟩
    ·rintro(h|h)
     ·exact .inl h
     ·exact .inr h.2
def F1{α:Type}(dd:α)(l:List α)(a:List Int):List α:=a.filterMap fun(i:Int)=>if 0<=i/\i<(l.length:Int)then some (l.getD i.toNat dd)else none
theorem UG{dd:α}(l:List α)(a:List Int)(i:Int):F1 dd l (a++[i])=if 0<=i/\i<(l.length:Int)then F1 dd l a++[l.getD i.toNat dd]else F1 dd l a:=by
 unfold F1;rw[List.filterMap_append];by_cases h:0<=i/\i<(l.length:Int)
 ·rw[if_pos h,List.filterMap_cons,List.filterMap_nil,if_pos h]
 ·rw[if_neg h,List.filterMap_cons,List.filterMap_nil,if_neg h]
  exact List.append_nil _
theorem Wy{dd:α}{l:List α}{d:List Int}{p:α}(h:p∈F1 dd l d):p∈l:=by
 obtain⟨i,_,a⟩:=List.mem_filterMap.1 h;split at a
 ·rename_i e
  rw[<-Option.some.inj a,List.getD_eq_getElem?_getD,List.getElem?_eq_getElem (show i.toNat<l.length by omega)];exact List.getElem_mem _
 ·cases a
def atL{α:Type}(dd:α)(l:List α)(a:List Int):List α:=Ca dd l (Cw l.length a) l.length
theorem Mt{α:Type}{dd:α}(l:List α):∀n,Ca dd l (List.replicate l.length 0) n=[]
 |0=>rfl
 |n+1=>by
  rw[Fs,Mt l n];rw[List.getD_eq_getElem?_getD,List.getElem?_replicate];split<;>rfl
theorem WH{dd:α}(g:α->List Nat)(l:List α)(a:List Int):Hu g (atL dd l a)=Hu g (F1 dd l a):=by
 refine KT (P:=fun a=>Hu g (atL dd l a)=Hu g (F1 dd l a)) ?_ (fun a i d=>?_) a
 ·unfold atL;rw[KN,Mt];rfl
 ·unfold atL
  rw[JC,UG];by_cases h:0<=i/\i<(l.length:Int)
  ·rw[if_pos h,if_pos h,SV g (by rw[KM];omega) _ (by omega),EY,<-d]
   rfl
  ·rw[if_neg h,if_neg h,<-d]
   rfl
theorem Yx{dd:α}(l:List α)(a:List Int):(atL dd l a).length<=a.length:=by
 refine KT (P:=fun a=>(atL dd l a).length<=a.length) ?_ (fun a i d=>?_) a
 ·unfold atL;rw[KN,Mt];exact Nat.le_refl _
 ·unfold atL
  rw[JC,List.length_append,List.length_singleton];by_cases h:0<=i/\i<(l.length:Int)
  ·rw[if_pos h]
   have e:=Vn (dd:=dd) (l:=l) (c:=Cw l.length a) (b:=i.toNat) (by rw[KM];omega) l.length;rw[if_pos (by omega)]at e;unfold atL at d;omega
  ·rw[if_neg h]
   unfold atL at d;omega
theorem WG{dd:α}{l:List α}{a:List Int}{p:α}:p∈atL dd l a↔p∈F1 dd l a:=by
 refine KT (P:=fun a=>p∈atL dd l a↔p∈F1 dd l a) ?_ (fun a i m=>?_) a
 ·unfold atL;rw[KN,Mt];exact Iff.rfl
 ·unfold atL at m⊢
  rw[JC,UG];by_cases h:0<=i/\i<(l.length:Int)
  ·rw[if_pos h,if_pos h,List.mem_append,List.mem_singleton,<-m,Qi,Qi]
   have o:i.toNat<(Cw l.length a).length:=by rw[KM];omega
   constructor
   ·rintro⟨j,f,g,d⟩
    by_cases e:j=i.toNat
    ·subst e;exact .inr d
    ·rw[Ng e]at g
     exact .inl ⟨j,f,g,d⟩
   ·rintro(⟨j,f,g,d⟩|d)
    ·by_cases e:j=i.toNat
     ·subst e
      exact⟨i.toNat,f,by rw[M0 o];omega,d⟩
     ·exact⟨j,f,by rw[Ng e];exact g,d⟩
    ·exact⟨i.toNat,by omega,by rw[M0 o];omega,d⟩
  ·rw[if_neg h,if_neg h,m]
theorem UV{α β:Type}{dd:α}(f:α->β)(l:List α)(c:List Nat):∀n,n<=l.length->(Ca dd l c n).map f=Ca (f dd) (l.map f) c n
 |0,_=>rfl
 |n+1,h=>by
  have d:=UV (dd:=dd) f l c n (by omega);have e:f (l.getD n dd)=(l.map f).getD n (f dd):=by
   rw[List.getD_eq_getElem?_getD,List.getElem?_eq_getElem (show n<l.length by omega),List.getD_eq_getElem?_getD,List.getElem?_map,List.getElem?_eq_getElem (show n<l.length by omega)];rfl
  by_cases z:c.getD n 0=0
  ·rw[Fs z,Fs z,d]
  ·by_cases a:c.getD n 0%2=0
   ·rw[EU z a,EU z a,List.map_append,List.map_append,d,List.map_singleton,e]
   ·rw[Eh z a,Eh z a,List.map_append,d,List.map_singleton,e]
theorem Yy{β:Type}{dd:α}(f:α->β)(l:List α)(a:List Int):(atL dd l a).map f=atL (f dd) (l.map f) a:=by
 unfold atL;rw[UV f l _ _ (Nat.le_refl _),List.length_map]
theorem lC{P:List PD}(a:∀p,p∈P↔p∈Q)(u:Fc P=Fc Q)(ht:Hy P=Hy Q):E9 P=E9 Q:=by
 cases P with
 |nil=>
  cases Q with
  |nil=>rfl
  |cons q Q=>exact absurd ((a q).2 List.mem_cons_self) (by simp)
 |cons p P=>
  cases Q with
  |nil=>exact absurd ((a p).1 List.mem_cons_self) (by simp)
  |cons q Q=>
   have s:C6 (p::P)=C6 (q::Q):=by
    apply Int.le_antisymm
    ·exact QE fun r g=>M3 ((a r).1 g)
    ·exact QE fun r g=>M3 ((a r).2 g)
   have f:∀{p q:PD} {P Q:List PD},(∀r,r∈p::P↔r∈q::Q)->(∀r∈P,Bx p r=true)->(∀r∈Q,Bx q r=true)/\Bx p q=true:=by
    intro p q P Q a h
    have d:∀r∈p::P,Bx p r=true:=fun r g=>by
     rcases List.mem_cons.1 g with e|e
     ·rw[e];exact O9 _
     ·exact h r e
    have m:Bx p q=true:=d q ((a q).2 List.mem_cons_self);exact⟨fun r g=>Tz (UT m) (d r ((a r).2 (List.mem_cons_of_mem _ g))),m⟩
   rw[KI,KI,u,ht,s];by_cases h:∀r∈P,Bx p r=true
   ·obtain⟨o,j⟩:=f a h
    by_cases l:0<cnt (Fc (q::Q))/\C6 (q::Q)<15
    ·rw[if_pos ⟨h,l⟩,if_pos ⟨o,l⟩]
     unfold Bx at j;rw[decide_eq_true_eq]at j;rw[j.1,j.2.1,j.2.2.1,j.2.2.2]
    ·rw[if_neg (fun e=>l e.2),if_neg (fun e=>l e.2)]
   ·rw[if_neg (fun e=>h e.1),if_neg (fun e=>h (f (fun r=>(a r).symm) e.1).1)]
theorem Z8(L:List PD)(a:List Int):E9 (atL .dflt L a)=Ig L a:=lC (fun p=>WG) (WH (fun p:PD=>p.xs) L a) (WH (fun p:PD=>tx p.s) L a)
def DU(d:Nat)(t:Int):Int:=if (d:Int)<t then t-d else d-t
theorem OD(d:Nat)(t:Int):0<=DU d t:=by unfold DU;split<;>omega
def F4(V:List (List Nat))(v:List Nat)(i:Nat):Nat:=cnt (xorL v (V.getD i []))
def Gt(V:List (List Nat))(ch:List Bool)(v:List Nat)(t:Int)(i:Nat)(z:Int):Prop:=ch.getD i false=false/\0<F4 V v i/\DU (F4 V v i) t<z
def Zq(V:List (List Nat))(ch:List Bool)(v:List Nat)(t:Int)(i:Nat)(z:Int):Decidable (Gt V ch v t i z):=
 inferInstanceAs (Decidable (ch.getD i false=false/\0<F4 V v i/\DU (F4 V v i) t<z))
def BP(V:List (List Nat))(ch:List Bool)(v:List Nat)(t:Int):Nat->Option Nat×Int
 |0=>(none,DU (cnt v) t)
 |i+1=> @ite _ (Gt V ch v t i (BP V ch v t i).2) (Zq V ch v t i (BP V ch v t i).2) (some i,DU (F4 V v i) t) (BP V ch v t i)
theorem Ow{ch:List Bool}{v:List Nat}(h:Gt V ch v t i (BP V ch v t i).2):BP V ch v t (i+1)=(some i,DU (F4 V v i) t):=by
 exact if_pos h
theorem Oz{ch:List Bool}{v:List Nat}(h:¬Gt V ch v t i (BP V ch v t i).2):BP V ch v t (i+1)=BP V ch v t i:=by
 exact if_neg h
theorem TY(V:List (List Nat))(ch:List Bool)(v:List Nat)(t:Int):∀n,(BP V ch v t n).2<=DU (cnt v) t/\(∀j,j<n->¬Gt V ch v t j (BP V ch v t n).2)/\
  match (BP V ch v t n).1 with
  |none=>(BP V ch v t n).2=DU (cnt v) t
  |some b=>b<n/\Gt V ch v t b (DU (cnt v) t)/\(BP V ch v t n).2=DU (F4 V v b) t/\∀j,j<b->¬Gt V ch v t j (DU (F4 V v b) t+1)
 |0=>⟨Int.le_refl _,fun j f=>by omega,rfl⟩
 |n+1=>by
  obtain⟨m,g,d⟩:=TY V ch v t n;by_cases h:Gt V ch v t n (BP V ch v t n).2
  ·rw[Ow h]
   refine⟨by have:=h.2.2;omega,fun j f a=>?_,by omega,⟨h.1,h.2.1,by have:=h.2.2;omega⟩,rfl,fun j f a=>g j f ⟨a.1,a.2.1,by have:=a.2.2;have:=h.2.2;omega⟩⟩;rcases Nat.lt_or_ge j n with e|e
   ·exact g j e ⟨a.1,a.2.1,Int.lt_trans a.2.2 h.2.2⟩
   ·obtain rfl:j=n:=by omega
    have:=a.2.2;dsimp only at this;omega
  ·rw[Oz h]
   refine⟨m,fun j f=>?_,?_⟩
   ·rcases Nat.lt_or_ge j n with e|e
    ·exact g j e
    ·obtain rfl:j=n:=by omega
     exact h
   ·cases l:(BP V ch v t n).1 with
    |none=>rw[l]at d;exact d
    |some b=>rw[l]at d;exact⟨by have:=d.1;omega,d.2⟩
theorem QZ{ch:List Bool}{x:Bool}(a:b<ch.length):(ch.set b x).getD b false=x:=by
 rw[List.getD_eq_getElem?_getD,List.getElem?_set_self a];rfl
theorem WA{ch:List Bool}{x:Bool}(h:i≠b):(ch.set b x).getD i false=ch.getD i false:=by
 rw[List.getD_eq_getElem?_getD,List.getD_eq_getElem?_getD,List.getElem?_set_ne (fun e=>h e.symm)]
def Gl(ch:List Bool)(n:Nat):List Nat:=(List.range n).filter fun i=>ch.getD i false
theorem SJ(ch:List Bool)(n:Nat):(Gl ch n).Pairwise (· < ·):=List.Pairwise.filter _ List.pairwise_lt_range
theorem iX{ch:List Bool}{n:Nat}:i∈Gl ch n↔i<n/\ch.getD i false=true:=by
 unfold Gl;rw[List.mem_filter,List.mem_range]
structure CS where
 ch:List Bool
 v:List Nat
def Hq(V:List (List Nat))(t:Int)(s:CS):CS:=match (BP V s.ch s.v t V.length).1 with
 |none=>s
 |some b=>⟨s.ch.set b true,xorL s.v (V.getD b [])⟩
def BI(V:List (List Nat))(t:Int)(p:Nat):Nat->CS
 |0=>⟨(List.replicate V.length false).set p true,V.getD p []⟩
 |k+1=>Hq V t (BI V t p k)
theorem nm{s:CS}(h:(BP V s.ch s.v t V.length).1=none):Hq V t s=s:=by unfold Hq;rw[h]
theorem nr{s:CS}(h:(BP V s.ch s.v t V.length).1=some b):Hq V t s=⟨s.ch.set b true,xorL s.v (V.getD b [])⟩:=by unfold Hq;rw[h]
theorem VB{V:List (List Nat)}{t:Int}{p k:Nat}(h:(BP V (BI V t p k).ch (BI V t p k).v t V.length).1=none):∀j,BI V t p (k+j)=BI V t p k
 |0=>rfl
 |j+1=>by
  show Hq V t (BI V t p (k+j))=_;rw[VB h j,nm h]
variable {L:List Nat}
def BN(L:List Nat)(n:Nat):Nat:=if n<=L.length then L.getD (n-1) 0 else n*11400714819323198485%18446744073709551616
theorem oh{n:Nat}(h:n<L.length):BN L (n+1)=L.getD n 0:=by
 unfold BN;rw[if_pos (by omega),Nat.add_sub_cancel]
theorem kW{n:Nat}(h:L.length<n):BN L n=n*11400714819323198485%18446744073709551616:=by
 unfold BN;rw[if_neg (by omega)]
theorem VI(h:Ac L)(n:Nat):BN L n<18446744073709551616:=by
 unfold BN;split
 ·exact h.get _
 ·omega
def B9(L:List Nat)(N:Nat)(a:List Nat):Nat->List Nat
 |0=>a
 |k+1=>(B9 L N a k).eraseIdx (BN L (N+k+1)%(B9 L N a k).length)
def Ek(L:List Nat)(N:Nat)(a:List Nat):Nat->List Nat
 |0=>[]
 |k+1=>Ek L N a k++[(B9 L N a k).getD (BN L (N+k+1)%(B9 L N a k).length) 0]
theorem NX(L:List Nat)(N:Nat)(a:List Nat):∀k,k<=a.length->(B9 L N a k).length=a.length-k
 |0,_=>rfl
 |k+1,h=>by
  have e:=NX L N a k (by omega);have d:BN L (N+k+1)%(B9 L N a k).length<(B9 L N a k).length:=Nat.mod_lt _ (by omega);show((B9 L N a k).eraseIdx _).length=_;rw[List.length_eraseIdx,if_pos d,e];omega
theorem LN(L:List Nat)(N:Nat)(a:List Nat):∀k,(Ek L N a k).length=k
 |0=>rfl
 |k+1=>by
  show(Ek L N a k++[_]).length=_;rw[List.length_append,LN L N a k];rfl
theorem fw(l:List Nat)(j:Nat)(h:j<l.length):(l.getD j 0::l.eraseIdx j).Perm l:=by
 rw[List.eraseIdx_eq_take_drop_succ];have e:l=l.take j++l.getD j 0::l.drop (j+1):=by
  rw[List.getD_eq_getElem?_getD,List.getElem?_eq_getElem h];simp
 exact(List.perm_middle.symm).trans (List.Perm.of_eq e.symm)
theorem Tb(L:List Nat)(N:Nat)(a:List Nat):∀k,k<=a.length->(Ek L N a k++B9 L N a k).Perm a
 |0,_=>List.Perm.refl _
 |k+1,h=>by
  have e:=Tb L N a k (by omega);have f:=NX L N a k (by omega);have d:BN L (N+k+1)%(B9 L N a k).length<(B9 L N a k).length:=Nat.mod_lt _ (by omega);show((Ek L N a k++[_])++(B9 L N a k).eraseIdx _).Perm a;rw[List.append_assoc];exact(List.Perm.append_left _ (fw _ _ d)).trans e
def Di(L:List Nat)(N n k:Nat):List Nat:=(List.range n).filter fun i=>decide (i∉B9 L N (List.range n) k)
theorem Uk(L:List Nat)(N n k:Nat)(h:k<=n):(Ek L N (List.range n) k).Perm (Di L N n k):=by
 have hp:=Tb L N (List.range n) k (by simpa using h);have m:=hp.symm.nodup List.nodup_range;obtain⟨_,_,l⟩:=List.nodup_append.1 m;have e:=hp.filter fun i=>decide (i∉B9 L N (List.range n) k);have f:(Ek L N (List.range n) k).filter (fun i=>decide (i∉B9 L N (List.range n) k))=Ek L N (List.range n) k:=List.filter_eq_self.2 fun a d=>by simpa using fun j=>l a d a j rfl
 have g:(B9 L N (List.range n) k).filter (fun i=>decide (i∉B9 L N (List.range n) k))=[]:=List.filter_eq_nil_iff.2 fun a d=>by simp[d]
 rw[List.filter_append,f,g,List.append_nil]at e;exact e
theorem RU(L:List Nat)(N n k:Nat)(h:k<=n):(Di L N n k).length=k:=by
 rw[<-(Uk L N n k h).length_eq,LN]
def A8(l:List Nat):List Int:=l.map fun(x:Nat)=>(x:Int)
theorem Ip(l:List Nat):(A8 l).length=l.length:=by simp[A8]
theorem L2(l:List Nat)(i:Nat):(A8 l).getD i 0=((l.getD i 0:Nat):Int):=by
 simp only[A8,List.getD_eq_getElem?_getD,List.getElem?_map];cases l[i]? <;>rfl
theorem RP(l m:List Nat):A8 (l++m)=A8 l++A8 m:=by simp[A8]
theorem eW(l:List Nat)(j:Nat):A8 (l.eraseIdx j)=(A8 l).eraseIdx j:=by
 simp[A8,List.eraseIdx_eq_take_drop_succ,List.map_take,List.map_drop]
theorem kS(L:List Nat)(N n k:Nat)(h:k<=n):(A8 (Ek L N (List.range n) k)).mergeSort (fun x y=>decide (x<=y))=A8 (Di L N n k):=by
 have hp:((A8 (Ek L N (List.range n) k)).mergeSort fun x y=>decide (x<=y)).Perm (A8 (Di L N n k)):=(List.mergeSort_perm _ _).trans ((Uk L N n k h).map _);refine List.Perm.eq_of_pairwise (le:=fun x y:Int=>x<=y) (fun a b _ _ d e=>Int.le_antisymm d e) ?_ ?_ hp
 ·have:=List.pairwise_mergeSort (le:=fun x y:Int=>decide (x<=y)) (fun a b c d e=>by simp at*;omega) (fun a b=>by simp;omega) (A8 (Ek L N (List.range n) k))
  exact this.imp fun h=>by simpa using h
 ·have:(Di L N n k).Pairwise (· < ·):=List.Pairwise.filter _ List.pairwise_lt_range
  exact List.Pairwise.map _ (fun a b f=>by omega) this
theorem oZ(L:List Nat)(N n k i:Nat)(h:i<(Di L N n k).length):(Di L N n k).getD i 0<n:=by
 have a:(Di L N n k)[i]∈Di L N n k:=List.getElem_mem h;have:=(List.mem_filter.1 a).1;simpa [List.getD_eq_getElem?_getD,List.getElem?_eq_getElem h]using this
variable {ch:List Bool}{ps:List Nat}{n:Nat}
structure Fg(n:Nat)(ch:List Bool)(ps:List Nat):Prop where
 len:ch.length=n
 nodup:ps.Nodup
 lt:∀i∈ps,i<n
 mem:∀i,i<n->ch.getD i false=decide (i∈ps)
theorem YL{p:Nat}(hp:p<n):Fg n ((List.replicate n false).set p true) [p]:=by
 refine⟨by rw[List.length_set,List.length_replicate],by simp,fun i a=>by rw[List.mem_singleton.1 a];exact hp,fun i a=>?_⟩;by_cases e:i=p
 ·subst e
  rw[QZ (by rw[List.length_replicate];exact a)];simp
 ·rw[WA e,List.getD_eq_getElem?_getD,List.getElem?_replicate,if_pos a]
  simp[e]
theorem Fg.snoc(h:Fg n ch ps){b:Nat}(f:b<n)(l:ch.getD b false=false):Fg n (ch.set b true) (ps++[b]):=by
 have m:b∉ps:=by
  have:=h.mem b f;rw[l]at this;exact fun e=>by rw[decide_eq_true e]at this;cases this
 refine⟨by rw[List.length_set,h.len],?_,fun i d=>?_,fun i d=>?_⟩
 ·rw[List.nodup_append]
  refine⟨h.nodup,by simp,fun a g c j e=>m ?_⟩;rw[<-List.mem_singleton.1 j,<-e];exact g
 ·rcases List.mem_append.1 d with e|e
  ·exact h.lt i e
  ·rw[List.mem_singleton.1 e];exact f
 ·by_cases e:i=b
  ·subst e
   rw[QZ (by rw[h.len];exact d)];simp
  ·rw[WA e,h.mem i d]
   simp[e]
theorem Fg.many(h:Fg n ch ps):ps.Perm (Gl ch n):=by
 have e:(Gl ch n).Nodup:=(SJ ch n).imp fun h=>Nat.ne_of_lt h;refine(List.perm_ext_iff_of_nodup h.nodup e).2 fun i=>?_;rw[iX];constructor
 ·intro a
  exact⟨h.lt i a,by rw[h.mem i (h.lt i a)];exact decide_eq_true a⟩
 ·rintro⟨f,d⟩
  rw[h.mem i f]at d;exact of_decide_eq_true d
theorem Fg.sort(h:Fg n ch ps):(A8 ps).mergeSort (fun x y=>decide (x<=y))=A8 (Gl ch n):=by
 have hp:((A8 ps).mergeSort fun x y=>decide (x<=y)).Perm (A8 (Gl ch n)):=(List.mergeSort_perm _ _).trans (h.many.map _);refine List.Perm.eq_of_pairwise (le:=fun x y:Int=>x<=y) (fun a b _ _ d e=>Int.le_antisymm d e) ?_ ?_ hp
 ·have:=List.pairwise_mergeSort (le:=fun x y:Int=>decide (x<=y)) (fun a b c d e=>by simp at*;omega) (fun a b=>by simp;omega) (A8 ps)
  exact this.imp fun h=>by simpa using h
 ·exact List.Pairwise.map _ (fun a b f=>by omega) (SJ ch n)
theorem qV(ps:List Nat)(i:Nat):decide ((i:Int)∈A8 ps)=decide (i∈ps):=by
 have:((i:Int)∈A8 ps)↔i∈ps:=by
  unfold A8;rw[List.mem_map];constructor
  ·rintro⟨j,a,d⟩
   have:j=i:=by omega
   rw[<-this];exact a
  ·exact fun h=>⟨i,h,rfl⟩
 simp only[this]
theorem oV(a v:List Nat):cnt (a.take (min a.length v.length))<=cnt a/\cnt a-cnt (a.take (min a.length v.length))+cnt (xorL (a.take (min a.length v.length)) v)=cnt (xorL a v):=by
 have g:cnt (a.take (min a.length v.length))+cnt (a.drop (min a.length v.length))=cnt a:=by rw[<-Oo,List.take_append_drop]
 refine⟨by omega,?_⟩;rcases Nat.lt_or_ge a.length v.length with h|h
 ·rw[Nat.min_eq_left (Nat.le_of_lt h),List.take_length]
  omega
 ·have d:xorL a v=xorL (a.take (min a.length v.length)) v++a.drop (min a.length v.length):=by
   rw[Nat.min_eq_right h];apply Ei
   ·rw[BY,List.length_append,BY,List.length_take,List.length_drop]
    omega
   ·intro i m
    rw[Du,List.getD_eq_getElem?_getD (l:=_++_),List.getElem?_append];have f:(xorL (a.take v.length) v).length=v.length:=by rw[BY,List.length_take];omega
    rw[f];by_cases e:i<v.length
    ·rw[if_pos e,<-List.getD_eq_getElem?_getD,Du]
     congr 1;rw[List.getD_eq_getElem?_getD,List.getD_eq_getElem?_getD,List.getElem?_take,if_pos e]
    ·rw[if_neg e,Ge (a:=v) (by omega),Nat.xor_zero,List.getElem?_drop,List.getD_eq_getElem?_getD]
     congr 2;omega
  have j:cnt (xorL a v)=cnt (xorL (a.take (min a.length v.length)) v)+cnt (a.drop (min a.length v.length)):=by rw[d,Oo]
  omega
def distN(d:Nat)(t:Int):Nat:=(DU d t).toNat
theorem SH(d:Nat)(t:Int):((distN d t:Nat):Int)=DU d t:=Int.toNat_of_nonneg (OD d t)
theorem kw{V:List (List Nat)}{t:Int}{p k:Nat}(a:k<=31)(h:(BP V (BI V t p k).ch (BI V t p k).v t V.length).1=none):BI V t p k=BI V t p 31:=by
 have:=VB h (31-k);rw[show k+(31-k)=31 by omega]at this;exact this.symm
theorem VC{V:List (List Nat)}{t:Int}{p:Nat}{m:Nat}(a:∀i,(V.getD i []).length<=m):∀k,(BI V t p k).v.length<=m
 |0=>a p
 |k+1=>by
  have d:=VC (t:=t) (p:=p) a k;show(Hq V t (BI V t p k)).v.length<=m;unfold Hq;split
  ·exact d
  ·rename_i b _
   show(xorL _ _).length<=m;rw[BY];have:=a b;omega
def placeN(b:Int)(n:Nat):Nat:=((b.tmod n+n).tmod n).toNat
theorem Wh(b:Int){n:Nat}(f:0<n):((placeN b n:Nat):Int)=(b.tmod n+n).tmod n/\placeN b n<n:=by
 have a: -(n:Int)<b.tmod n:=by
  have:=Int.lt_tmod_of_pos b (show(0:Int)<n by omega);omega
 have d:0<=(b.tmod n+n).tmod n:=Int.tmod_nonneg _ (by omega);have e:(b.tmod n+n).tmod n<n:=Int.tmod_lt_of_pos _ (by omega);unfold placeN;omega
end Go.Proofs.YtfpmnekaockodaaGreatDoor
