/-
  Contract of plan.begin, the walk.
  Contract of node.New: of a number that is one, and of another. Condition: the kind is one of three, at most 8 to send to, a source's blocks can be cut.
  Numbers that are taken one by one: supply[int] in memory ('SupAt'). Contracts of supply[int].take, upTo and Draws.Distinct. Conditions: at most 2^20 numbers, at most 2^39 draws used.
-/
import Derived.Test.YtlhhinlghhjghaaGreatDoorU36
import Derived.Test.YtlhhinlghhjghaaGreatDoorU27
import Derived.Test.YtlhhinlghhjghaaGreatDoorU25
namespace Go.Proofs.YtlhhinlghhjghaaGreatDoor
open Go.RowKit Go.Sort
set_option linter.unusedVariables false
set_option linter.unusedSimpArgs false
set_option maxRecDepth 4000
set_option maxHeartbeats 8000000
variable {p:PLD}{w w3:World}
theorem Zxm(t:Int)(W w:World)(hb:Below W.heap.size W w):Calls Tryz.prog 59 #[.int .i64 t] w fun e w'=> ∃g,e=.returned (.pointer (some ⟨g,0,none⟩))∧Hid (MbAt w' g (ZcY t) (List.replicate 16 0)∧W.heap.size≤g∧Below W.heap.size W w'∧Below w.heap.size w w'):=
 (ZrE t w).mono fun e w' ⟨he,h1,h2⟩=>⟨_,he,hide ⟨h1,hb.size,below0 hb h2,h2⟩⟩
theorem ZwQ(n:Int)(W w:World)(hb:Below W.heap.size W w):Calls Tryz.prog 60 #[.int .i64 n] w fun e w'=> ∃g b,e=.returned (.pointer (some ⟨g,0,none⟩))∧Hid (CaAt w' g b (capN n) 0 []∧(W.heap.size≤g∧W.heap.size≤b)∧Below W.heap.size W w'∧Below w.heap.size w w'):=
 (ZsY n w).mono fun e w' ⟨g,b,he,h0,h00,h1,h2⟩=>⟨g,b,he,hide ⟨h1,⟨Nat.le_trans hb.size h0,Nat.le_trans hb.size h00⟩,below0 hb h2,h2⟩⟩
theorem ZtN(w:World)(g:Nat)(u0 u1 u2 u3 u4:Value):Tu (fun j=>j=g) w (((((w.setCell ⟨g,0,none⟩ u0).setCell ⟨g,1,none⟩ u1).setCell ⟨g,2,none⟩ u2).setCell ⟨g,3,none⟩ u3).setCell ⟨g,4,none⟩ u4):=
 ((((Zav w g 0 u0).trans (Zav _ g 1 u1) fun _ _ e=>e).trans (Zav _ g 2 u2) fun _ _ e=>e).trans (Zav _ g 3 u3) fun _ _ e=>e).trans (Zav _ g 4 u4) fun _ _ e=>e
theorem new_link{g gb gq c:Nat}{lv:Int}{L:List ByteArray}{lo:Nat}(h:w.drew.heap.size≤g∧w.drew.heap.size≤gb∧w.drew.heap.size≤gq∧w.drew.heap.size≤c):∀j,(⟨g,gb,gq,c,lv,L,lo⟩:LkV).F j→w.heap.size≤j:=fun j hj=>by
 rcases hj with rfl|rfl|rfl|rfl
 ·exact h.1
 ·exact h.2.1
 ·exact h.2.2.1
 ·exact h.2.2.2
theorem one5{v:Value}(h:∃a n c,v=.slice a n c)(a b c d:Option Addr):∀u∈[v,.pointer a,.pointer b,.pointer c,.pointer d],u.oneCell'=true:=fun u hu=>by
 obtain⟨_,_,_,rfl⟩:=h
 simp only[List.mem_cons,List.not_mem_nil,or_false]at hu
 rcases hu with h|h|h|h|h<;>(rw[h];rfl)
theorem Zwv(M:Int)(w:World):Calls Tryz.prog 63 #[.int .i64 M] w fun e w'=> ∃g,e=.returned (.pointer (some ⟨g,0,none⟩))∧DcAt w' g w.heap.size M zDS g (.slice none 0 0) []∧Below w.heap.size w w':=
 (Zth M w).mono fun e w' ⟨he,h1,h2⟩=>⟨_,he,h1,h2⟩
theorem ZsX{wr w1 w2:World}{q:Nat}{s s':STD}(h:BgJ w wr q p s)(hb:Below wr.heap.size wr w1)(hs:SttAt w1 w.heap.size p s')(h2:Tu (fun j=>j=q) w1 w2)(h3:Tu (fun j=>j=w.heap.size+1) w2 w3):SttAt w3 w.heap.size p s'∧Below w.heap.size w w3:=by
 have hT:Tu (fun j=>j=q∨j=w.heap.size+1) w1 w3:=((Tu.refl _ w1).trans h2 fun j _ e=>.inl e).trans h3 fun j _ e=>.inr e
 have k1:=(h.blk.below hb).kd
 have k2:=(h.res.below hb).kd
 have hq:=h.qlo
 refine⟨hs.tu hT (fun j hj e=>?_) fun j hj e=>?_,below0 h.low hb|>.trans (hT.below (below0 h.low hb).size fun j hj e=>by omega)⟩
 ·have:=hs.kd j hj
  rcases e with rfl|rfl<;>omega
 ·rcases e with rfl|rfl<;>omega
def stt0(gm gc gcm:Nat):STD:=⟨.slice none 0 0,[],gm,List.replicate 16 0,gc,gcm,0,[],none,none⟩
theorem Zjt{W w2:World}{q gm gc gcm:Nat}(hz:W.heap.size=w.heap.size+1+1)(hx:BkA 103 W (w.heap.size+1) [.slice none 0 0,.pointer none,.pointer none,.pointer none,.pointer none])(hy:BkA 93 W w.heap.size (plC p))(hb:Below w.heap.size w W)(h2:Below W.heap.size W w2)
  (hm:MbAt w2 gm (ZcY p.timeout) (List.replicate 16 0)) (hm0:W.heap.size≤gm) (hc:CaAt w2 gc gcm (capN p.cache) 0 []) (hc0:W.heap.size≤gc∧W.heap.size≤gcm) (hq:W.heap.size≤q) (hk:BkA 103 w3 q (sttC (stt0 gm gc gcm))) (h3:Below w2.heap.size w2 w3∨(Tu (fun j=>j=q) w2 w3∧∃cs,BkA 103 w2 q cs)):BgJ w w3 q p (stt0 gm gc gcm):=by
 obtain⟨ht,hF⟩:∃(ht:Tu (fun j=>j=q) w2 w3),∀j,j<w2.heap.size→kdB w2 j≠103+2→j≠q∨w3.heap[j]? =w2.heap[j]? :=by
  rcases h3 with h3|⟨h3,cs,h4⟩
  ·exact⟨Tu.of_below h3,fun j hj _=>.inr (h3.block j hj)⟩
  ·exact⟨h3,fun j hj hk=>.inl fun e=>hk (by rw[e];exact h4.kd)⟩
 have hkeep:∀j,j<w2.heap.size→kdB w2 j≠103+2→w3.heap[j]? =w2.heap[j]? :=fun j hj hk=>(hF j hj hk).elim (fun e=>ht.block j hj e) id
 have hT:Tu (fun j=>kdB w2 j=103+2) w2 w3:=⟨ht.os,ht.tape,ht.output,ht.size,hkeep⟩
 have s2:=h2.size
 have hlow:Below W.heap.size W w3:=h2.trans (ht.below s2 fun j hj e=>by omega)
 refine⟨hy.below hlow,hx.below hlow,hk,by omega,⟨OwnL.nil _ _,fun i hi=>absurd hi (by show¬i<0;omega),fun i k hi=>absurd hi (by show¬i<0;omega),hm.tu hT fun e=>?_,by show w.heap.size≤gm;omega,hc.tu hT (fun e=>?_) fun e=>?_,fun j e=>?_,fun r e=>(by cases e),fun d e=>(by cases e)⟩,below0 hb hlow,⟨fun i hi=>absurd hi (by show¬i<0;omega),rfl,rfl,rfl⟩,rfl,rfl⟩
 ·have:=hm.blk.kd;omega
 ·have:=hc.kd _ (.inl rfl);omega
 ·have:=hc.kd _ (.inr rfl);omega
 ·rcases e with e|e
  ·have:j=gc:=e;omega
  ·have:j=gcm:=e;omega
theorem Zhp(p:PLD)(a:Option Addr)(m c:Nat)(w:World)(hr:p.rate<18446744073709551616)(hv:p.tv=.slice a m c)(hm:m≤1000000):
  Calls Tryz.prog 29 #[.agg #[.int .i64 p.kd,.int .i64 p.buffer,.int .i64 p.queue,.int .i64 p.cache,.int .i64 p.timeout,.int .i64 p.target,.float .f64 p.rate,p.tv]] w fun e w'=> ∃s:STD,e=.returned (.agg #[s.lv,.pointer (some ⟨s.gm,0,none⟩),.pointer (some ⟨s.gc,0,none⟩),.pointer (ptrR s.rl),.pointer (ptrC s.dc)])∧SttAt w' w.heap.size p s∧NewP p s∧s.ls.length=m∧Below w.heap.size w w':=by
 obtain⟨W,hW,X,Y,B1⟩:∃W,W=(w.alloc (.cells #[.int .i64 p.kd,.int .i64 p.buffer,.int .i64 p.queue,.int .i64 p.cache,.int .i64 p.timeout,.int .i64 p.target,.float .f64 p.rate,p.tv] 93)).alloc (.cells #[.slice none 0 0,.pointer none,.pointer none,.pointer none,.pointer none] 103)∧
   BkA 103 W (w.heap.size+1) [.slice none 0 0,.pointer none,.pointer none,.pointer none,.pointer none]∧BkA 93 W w.heap.size (plC p)∧Below w.heap.size w W:=by
  refine⟨_,rfl,?_,(Zag 93 w (plC p)).below (alloc_low _ _),below0 (alloc_low _ _) (alloc_low _ _)⟩
  have:=Zag 103 (w.alloc (.cells #[.int .i64 p.kd,.int .i64 p.buffer,.int .i64 p.queue,.int .i64 p.cache,.int .i64 p.timeout,.int .i64 p.target,.float .f64 p.rate,p.tv] 93)) [.slice none 0 0,.pointer none,.pointer none,.pointer none,.pointer none]
  rwa[Zab]at this
 have HX:=hide X
 have HY:=hide Y
 have HB:=hide B1
 have hsz:W.heap.size=w.heap.size+1+1:=by rw[hW,Zab,Zab]
 have HSZ:=hide (fun wx (hb:Below W.heap.size W wx)=>(show wx.cell? ⟨w.heap.size,3,none⟩=some (.int .i64 p.cache)∧wx.cell? ⟨w.heap.size,4,none⟩=some (.int .i64 p.timeout) from⟨(Y.below hb).at 3 rfl,(Y.below hb).at 4 rfl⟩))
 have y3:=Y.at 3 rfl
 have y4:=Y.at 4 rfl
 have hne1:W.heap.size≠w.heap.size:=by omega
 have HR:=hide hr
 have hnw:∀wx,Below W.heap.size W wx→wx.heap.size≠w.heap.size:=fun wx hb=>by have:=hb.size;omega
 have HNW:=hide hnw
 have HZZ:=hide hsz
 clear X Y B1 hr hnw hsz
 rw[hv]
 rw[hv]at hW
 go_enter Tryz.func29,Tryz.ntmps29
 go_wp2_with fail
 rw[←hW]
 clear hW
 go_cut [3] from 4 to 10 (fun t wx=> ∃q s,t=.pointer (some ⟨q,0,none⟩)∧Hid (BgJ w wx q p s∧s.ls=[]∧s.lv=.slice none 0 0))
 case first=>
  go_region_held3 (fun w'=>w'.cell? ⟨w.heap.size,3,none⟩=some (.int .i64 p.cache)∧w'.cell? ⟨w.heap.size,4,none⟩=some (.int .i64 p.timeout)) (go_keep) (first
   |(go_at_call 59;refine(Zxm p.timeout W _ (by first|exact(Below.refl _ _).drew|exact(Below.refl _ _).drew.alloc (Nat.le_refl _) _)).mono ?_;rintro e w1 ⟨gm,rfl,HM1⟩;obtain⟨z3,z4⟩:=unhide HSZ w1 (unhide HM1).2.2.1;have hn1:=unhide HNW w1 (unhide HM1).2.2.1;(first|(have X1:=hide (show BkA 103 w1 W.heap.size [.slice none 0 0,.pointer none,.pointer none,.pointer none,.pointer none] from(Zag 103 W.drew [.slice none 0 0,.pointer none,.pointer none,.pointer none,.pointer none]).below (unhide HM1).2.2.2))|skip))
   |(go_at_call 60;refine(ZwQ p.cache W _ (by first|exact(unhide HM1).2.2.1|exact(unhide HM1).2.2.1.alloc (unhide HM1).2.2.1.size _)).mono ?_;rintro e w2 ⟨gc,gcm,rfl,HC2⟩;obtain⟨z3',z4'⟩:=unhide HSZ w2 (unhide HC2).2.2.1;have hn2:=unhide HNW w2 (unhide HC2).2.2.1;(first|(have X2:=hide ((unhide X1).below (unhide HC2).2.2.2);have x0:=(unhide X2).at 0 rfl;have x1:=(unhide X2).at 1 rfl;have x2:=(unhide X2).at 2 rfl;have x3:=(unhide X2).at 3 rfl;have x4:=(unhide X2).at 4 rfl;have f0:=(unhide X2).frz 0;have f1:=(unhide X2).frz 1;have f2:=(unhide X2).frz 2;have f3:=(unhide X2).frz 3;have f4:=(unhide X2).frz 4)|(have X2:=hide (show BkA 103 w2 w1.heap.size [.slice none 0 0,.pointer none,.pointer none,.pointer none,.pointer none] from(Zag 103 w1 [.slice none 0 0,.pointer none,.pointer none,.pointer none,.pointer none]).below (unhide HC2).2.2.2);have x0:=(unhide X2).at 0 rfl;have x1:=(unhide X2).at 1 rfl;have x2:=(unhide X2).at 2 rfl;have x3:=(unhide X2).at 3 rfl;have x4:=(unhide X2).at 4 rfl;have f0:=(unhide X2).frz 0;have f1:=(unhide X2).frz 1;have f2:=(unhide X2).frz 2;have f3:=(unhide X2).frz 3;have f4:=(unhide X2).frz 4)|skip))
   |fail)
  all_goals (try go_wp2_with fail)
  all_goals go_meet
  ·exact⟨_,stt0 gm gc gcm,rfl,hide ⟨Zjt (unhide HZZ) (unhide HX) (unhide HY) (unhide HB) (unhide HC2).2.2.1 ((unhide HM1).1.below (unhide HC2).2.2.2) (unhide HM1).2.1 (unhide HC2).1 (unhide HC2).2.1 (unhide HC2).2.2.1.size (Zag 103 w2 (sttC (stt0 gm gc gcm))) (.inl (alloc_low _ _)),rfl,rfl⟩⟩
  ·exact⟨_,stt0 gm gc gcm,rfl,hide ⟨Zjt (unhide HZZ) (unhide HX) (unhide HY) (unhide HB) (unhide HC2).2.2.1 ((unhide HM1).1.below (below0 (alloc_low _ _) (unhide HC2).2.2.2)) (unhide HM1).2.1 (unhide HC2).1 (unhide HC2).2.1 (unhide HM1).2.2.1.size (((((unhide X2).set 0 _).set 1 _).set 2 _).set 3 _|>.set 4 _) (.inr ⟨ZtN _ _ _ _ _ _ _,_,unhide X2⟩),rfl,rfl⟩⟩
  ·exact⟨_,stt0 gm gc gcm,rfl,hide ⟨Zjt (unhide HZZ) (unhide HX) (unhide HY) (unhide HB) (unhide HC2).2.2.1 ((unhide HM1).1.below (unhide HC2).2.2.2) (unhide HM1).2.1 (unhide HC2).1 (unhide HC2).2.1 (Nat.le_refl _) (((((unhide X2).set 0 _).set 1 _).set 2 _).set 3 _|>.set 4 _) (.inr ⟨ZtN _ _ _ _ _ _ _,_,unhide X2⟩),rfl,rfl⟩⟩
 case rest=>
  obtain⟨q,s,rfl,HJ⟩:=hcut
  clear HX HY HB HSZ y3 y4 hne1 HNW HZZ W
  have b7:=(unhide HJ).1.box.at 7 (show(plC p)[7]? =some p.tv from rfl)
  rw[hv]at b7
  go_wp2_with fail
  clear b7
  go_loopw [14] (fun i wr=> ∃(k:Nat) (s:STD),k≤m∧i=.int .i64 k∧Hid (BgJ w wr q p s∧s.ls.length=k)) (fun i _=>m-(intOf i).toNat)
  case atStart=>exact⟨0,s,Nat.zero_le _,rfl,hide ⟨(unhide HJ).1,by rw[(unhide HJ).2.1];rfl⟩⟩
  case round=>
   obtain⟨k,s1,hk,rfl,HJ1⟩:=hrel
   clear HJ
   rename_i wr
   by_cases hlt:k<m
   ·have hlt':(k:Int)<(m:Int):=by omega
    have q0:=(unhide HJ1).1.blk.at 0 rfl
    have b6:=(unhide HJ1).1.box.at 6 rfl
    have b2:=(unhide HJ1).1.box.at 2 rfl
    have hqz:w.heap.size≠q:=by have:=(unhide HJ1).1.qlo;omega
    have HLS:=hide (show s1.ls.length≤1000000 by have:=(unhide HJ1).2;omega)
    have hpos:=(unhide HJ1).1.low.size
    go_wp2_with fail
    go_region_law (first
     |(go_simp;go_at_call 61;refine(ZqL p.rate (unhide HR) p.queue _).mono ?_;rintro e w1 ⟨g1,gb1,gq1,c1,rfl,hg1,hl1,hb1⟩;have D1:=hide (show Below wr.heap.size wr w1 from(Below.refl _ _).drew.trans hb1);have hk1:=(unhide HJ1).1.blk.below (unhide D1);have k0:=hk1.at 0 rfl;have e6:=((unhide HJ1).1.box.below (unhide D1)).at 6 rfl;have e2:=((unhide HJ1).1.box.below (unhide D1)).at 2 rfl;have HL1:=hide (And.intro (show(⟨g1,gb1,gq1,c1,1000*wiZ p.queue 1 256,[],0⟩:LkV).At w1 p.M p.queue from hl1) hg1);have HO1:=hide (show OwnL (w1.alloc (.cells #[.pointer (some ⟨g1,0,none⟩)] 114)) w.heap.size s1.lv s1.ls from OwnL.below (OwnL.below (unhide HJ1).1.here.lks (unhide D1)) (alloc_low _ _));have HZ1:=hide (show w.heap.size≤(w1.alloc (.cells #[.pointer (some ⟨g1,0,none⟩)] 114)).heap.size from Nat.le_trans (Nat.le_trans hpos (unhide D1).size) (alloc_low _ _).size);have HK1:=hide (hk1.below (alloc_low w1 (.cells #[.pointer (some ⟨g1,0,none⟩)] 114)));have k0':=(unhide HK1).at 0 rfl;clear hl1 hg1 hb1 hk1)
     |(refine ZkB (by rfl) (.tmp 17) (.tmp 23) (by rfl) w.heap.size s1.lv s1.ls ⟨g1,gb1,gq1,c1,1000*wiZ p.queue 1 256,[],0⟩ (by rfl) (unhide HO1) w1.heap.size (by rfl) (Zag 114 w1 [.pointer (some ⟨g1,0,none⟩)]) (unhide HLS) (unhide HZ1) ?_;intro g2 cap2 w3 ho3 hgr3;have hk3:=(unhide HK1).kept hgr3 (fun e=>by have:=Zah (unhide HO1) e.symm;have:=(unhide HK1).kd;omega);have t0:=hk3.at 0 rfl;have tf:=hk3.frz 0;have HO3:=hide ho3;have HG3:=hide hgr3;clear hk3 ho3 hgr3)
     |fail)
    all_goals go_wp2
    all_goals go_round
    all_goals first
     |(simp[intOf];omega)
     |exact⟨k+1,{s1 with lv:=.slice (some ⟨g2,0,none⟩) (s1.ls.length+1) cap2,ls:=s1.ls++[⟨g1,gb1,gq1,c1,1000*wiZ p.queue 1 256,[],0⟩]},by omega,by go_num,hide ⟨(unhide HJ1).1.push (unhide D1) (unhide HL1).1 (new_link (unhide HL1).2) ⟨rfl,rfl,rfl⟩ (alloc_low _ _) (unhide HO3) (unhide HG3),by rw[List.length_append,(unhide HJ1).2];rfl⟩⟩
   ·obtain rfl:k=m:=by omega
    have HK:=hide (unhide HJ1).1.blk
    have HX:=hide (unhide HJ1).1.res
    have q0:=(unhide HK).at 0 rfl
    have q1:=(unhide HK).at 1 rfl
    have q2:=(unhide HK).at 2 rfl
    have q3:=(unhide HK).at 3 rfl
    have q4:=(unhide HK).at 4 rfl
    have b0:=(unhide HJ1).1.box.at 0 rfl
    have b1:=(unhide HJ1).1.box.at 1 rfl
    have b5:=(unhide HJ1).1.box.at 5 rfl
    have hne:q≠w.heap.size+1:=by have:=(unhide HJ1).1.qlo;omega
    have hq9:=(unhide HJ1).1.qlo
    have hno:=(unhide HJ1).1.no
    have hc:sttC s1=[s1.lv,.pointer (some ⟨s1.gm,0,none⟩),.pointer (some ⟨s1.gc,0,none⟩),.pointer none,.pointer none]:=by unfold sttC;rw[hno.1,hno.2];rfl
    have HC:=hide hc
    rw[hno.1]at q3
    rw[hno.2]at q4
    simp only[ptrR,ptrC,Option.map_none]at q3 q4
    have HNO:=hide hno
    clear hno hc
    have HON:=hide (show∃a n c,s1.lv=.slice a n c from by obtain⟨a,c,e⟩:=(unhide HJ1).1.here.lks.len;exact⟨a,_,c,e⟩)
    by_cases h2:p.kd=2
    ·have hd2:decide (p.kd=2)=true:=decide_eq_true h2
     go_wp2_with (first
      |(go_at_call 62;refine(ZuI p.buffer p.target _).mono ?_;rintro e w1 ⟨g1,gb1,rfl,hr1,hb1⟩;have HB1:=hide hb1;have HR1:=hide hr1;have hk1:=(unhide HK).below hb1;have HX1:=hide ((unhide HX).below hb1);have k0:=hk1.at 0 rfl;have k1:=hk1.at 1 rfl;have k2:=hk1.at 2 rfl;have k3:=hk1.at 3 (by rw[unhide HC];rfl);have k4:=hk1.at 4 (by rw[unhide HC];rfl);have HXS:=hide (fun v=>(unhide HX1).tu (Zav w1 q 3 v) (fun e=>hne e.symm));have kf:=hk1.frz 3;have HK1:=hide hk1;clear hr1 hb1 hk1)
      |((with_reducible refine Zfg 103 ZbM 2 43 (w.heap.size+1) [.slice none 0 0,.pointer none,.pointer none,.pointer none,.pointer none] [s1.lv,.pointer (some ⟨s1.gm,0,none⟩),.pointer (some ⟨s1.gc,0,none⟩),.pointer (some ⟨g1,0,none⟩),.pointer none] ?_ ?_ (unhide HXS _) rfl rfl (one5 (unhide HON) _ _ _ _) ?_);(focus rfl);(focus rfl);intro w4 hx4 ht4;have HX4:=hide hx4;have HT4:=hide ht4;clear hx4 ht4)
      |fail)
     have hst:=(unhide HJ1).1.here.addR (unhide HB1) ⟨g1,gb1,0,.slice none 0 0,[]⟩ ((unhide HR1).mono (unhide HJ1).1.low.size)
     have hen:=ZsX (unhide HJ1).1 (unhide HB1) hst (Zav _ _ _ _) (unhide HT4)
     exact bodyPost_ret (Zc5 rfl (unhide HX4) rfl) rfl ⟨{s1 with rl:=some ⟨g1,gb1,0,.slice none 0 0,[]⟩},by rw[show ptrC s1.dc=none by rw[(unhide HNO).2];rfl];rfl,hen.1,⟨(unhide HJ1).1.fr,.inl ⟨h2,(unhide HNO).2,_,rfl,rfl,rfl⟩⟩,(unhide HJ1).2,hen.2⟩
    have hd2:decide (p.kd=2)=false:=decide_eq_false h2
    by_cases h3:p.kd=3
    ·have hd3:decide (p.kd=3)=true:=decide_eq_true h3
     go_wp2_with (first
      |(go_at_call 63;refine(Zwv p.buffer _).mono ?_;rintro e w1 ⟨g1,rfl,hr1,hb1⟩;have HB1:=hide hb1;have HR1:=hide hr1;have hk1:=(unhide HK).below hb1;have HX1:=hide ((unhide HX).below hb1);have k0:=hk1.at 0 rfl;have k1:=hk1.at 1 rfl;have k2:=hk1.at 2 rfl;have k3:=hk1.at 3 (by rw[unhide HC];rfl);have k4:=hk1.at 4 (by rw[unhide HC];rfl);have HXS:=hide (fun v=>(unhide HX1).tu (Zav w1 q 4 v) (fun e=>hne e.symm));have kf:=hk1.frz 4;have HK1:=hide hk1;clear hr1 hb1 hk1)
      |((with_reducible refine Zfg 103 ZbM 2 43 (w.heap.size+1) [.slice none 0 0,.pointer none,.pointer none,.pointer none,.pointer none] [s1.lv,.pointer (some ⟨s1.gm,0,none⟩),.pointer (some ⟨s1.gc,0,none⟩),.pointer none,.pointer (some ⟨g1,0,none⟩)] ?_ ?_ (unhide HXS _) rfl rfl (one5 (unhide HON) _ _ _ _) ?_);(focus rfl);(focus rfl);intro w4 hx4 ht4;have HX4:=hide hx4;have HT4:=hide ht4;clear hx4 ht4)
      |fail)
     have hst:=(unhide HJ1).1.here.addD (unhide HB1) ⟨g1,zDS,g1,.slice none 0 0,[]⟩ ((unhide HR1).mono (unhide HJ1).1.low.size)
     have hen:=ZsX (unhide HJ1).1 (unhide HB1) hst (Zav _ _ _ _) (unhide HT4)
     exact bodyPost_ret (Zc5 rfl (unhide HX4) rfl) rfl ⟨{s1 with dc:=some ⟨g1,zDS,g1,.slice none 0 0,[]⟩},by rw[show ptrR s1.rl=none by rw[(unhide HNO).1];rfl];rfl,hen.1,⟨(unhide HJ1).1.fr,.inr (.inl ⟨h3,(unhide HNO).1,_,rfl,rfl,rfl⟩)⟩,(unhide HJ1).2,hen.2⟩
    ·have hd3:decide (p.kd=3)=false:=decide_eq_false h3
     go_wp2_with (first
      |((with_reducible refine Zfg 103 ZbM 2 43 (w.heap.size+1) [.slice none 0 0,.pointer none,.pointer none,.pointer none,.pointer none] [s1.lv,.pointer (some ⟨s1.gm,0,none⟩),.pointer (some ⟨s1.gc,0,none⟩),.pointer none,.pointer none] ?_ ?_ (unhide HX) rfl rfl (one5 (unhide HON) _ _ _ _) ?_);(focus rfl);(focus rfl);intro w4 hx4 ht4;have HX4:=hide hx4;have HT4:=hide ht4;clear hx4 ht4)
      |fail)
     have hen:=ZsX (unhide HJ1).1 (Below.refl _ _) (unhide HJ1).1.here (Tu.refl _ _) (unhide HT4)
     exact bodyPost_ret (Zc5 rfl (unhide HX4) rfl) rfl ⟨s1,by rw[(unhide HNO).1,(unhide HNO).2];rfl,hen.1,⟨(unhide HJ1).1.fr,.inr (.inr ⟨h2,h3,unhide HNO⟩)⟩,(unhide HJ1).2,hen.2⟩
theorem Zn3(f:CFV)(i:Int)(w:World)(h:i<0∨(f.n:Int)≤i):Calls Tryz.prog 10 #[f.val,.int .i64 i] w fun e w'=>e=.returned (.pointer none)∧Below w.heap.size w w':=by
 obtain⟨a,n,c,ds,obj,size,spread,buffer,queue,cache,rate,timeout,target⟩:=f
 have hb:=alloc_low w (.cells #[.slice a n c,.string obj,.int .i64 size,.int .i64 spread,.int .i64 buffer,.int .i64 queue,.int .i64 cache,.float .f64 rate,.int .i64 timeout,.int .i64 target] 25)
 have HB:=hide hb
 simp only[CFV.val]at h⊢
 clear hb
 by_cases h0:i<0
 ·clear h
  go_enter Tryz.func10,Tryz.ntmps10
  go_wp2
  go_ret
  exact⟨rfl,unhide HB⟩
 ·have h1:(n:Int)≤i:=by omega
  clear h
  go_enter Tryz.func10,Tryz.ntmps10
  go_wp2
  go_ret
  exact⟨rfl,unhide HB⟩
structure NewN(f:CFV)(i:Nat)(n:NDD):Prop where
 id:n.id=i
 inc:n.inc=0
 kd:n.p.kd=(f.ds.getD i .dflt).kd
 buffer:n.p.buffer=f.buffer
 queue:n.p.queue=f.queue
 cache:n.p.cache=f.cache
 timeout:n.p.timeout=f.timeout
 target:n.p.target=f.target
 rate:n.p.rate=f.rate
 tos:n.p.tos=(f.ds.getD i .dflt).tos
 new:NewP n.p n.s
 src:n.p.kd=1→∃g v,n.src=some ⟨g,v,(f.obj.size:Int),f.size,min f.spread.toNat (kc f.obj.size f.size.toNat),Zap (tx f.obj) f.size.toNat (kc f.obj.size f.size.toNat)⟩
 tm:n.t=0
structure NewC(w:World)(f:CFV)(i:Nat):Prop where
 nds:NdsAt w f.a f.n f.ds
 lt:i<f.n
 id:i≤4294967295
 kd:(f.ds.getD i .dflt).kd=1∨(f.ds.getD i .dflt).kd=2∨(f.ds.getD i .dflt).kd=3
 len:(f.ds.getD i .dflt).n≤8
 nil:(f.ds.getD i .dflt).a=none→(f.ds.getD i .dflt).n=0∧(f.ds.getD i .dflt).c=0
 rate:f.rate<18446744073709551616
 size:1≤f.size∧f.size≤64∧0≤f.spread∧kc f.obj.size f.size.toNat≤128
theorem ZlP{w4:World}{B g id inc t:Nat}{src:Option SRV}{s:STD}(hb:BkA 105 w4 g (ndC ⟨id,inc,p,src,s,t⟩))(hlo:B≤g)(ho:OwnZ w3 B p.tv p.tos)(hs:∀r,src=some r→SrcO w3 r.g B r.v (id:Int) r.l r.z r.k r.ss)(hst:SttAt w3 B p s){cs:List Value}(h3:BkA 105 w3 g cs)(ht:Tu (fun j=>j=g) w3 w4)
  (hk:(p.kd=1∧src≠none)∨(p.kd=2∧src=none)∨(p.kd=3∧src=none)) (hn:NewP p s) (hi:inc<4294967296) (hl:s.ls.length=p.tos.length∧p.tos.length≤8):NdAt w4 g B ⟨id,inc,p,src,s,t⟩:=by
 have k3:=h3.kd
 refine⟨hb,hlo,Zam ho ht fun j hj e=>?_,fun r hr=>(hs r hr).tu ht fun j hj e=>?_,hst.tu ht (fun j hj e=>?_) fun j hj e=>?_,?_,⟨hi,hl⟩,?_⟩
 ·have:=Zah ho hj;subst e;omega
 ·have:=(hs r hr).kd j hj;subst e;omega
 ·have:=hst.kd j hj;subst e;omega
 ·subst e;omega
 ·rcases hk with⟨a,b⟩|⟨a,b⟩|⟨a,b⟩<;>rcases hn.2 with⟨c,d,r,e,_⟩|⟨c,d,r,e,_⟩|⟨c,d,e,f⟩
  ·omega
  ·omega
  ·exact .inl ⟨a,b,e,f⟩
  ·exact .inr (.inl ⟨a,b,(by show s.rl≠none;rw[e];exact fun h=>by cases h),d⟩)
  ·omega
  ·exact absurd a c
  ·omega
  ·exact .inr (.inr ⟨a,b,d,by show s.dc≠none;rw[e];exact fun h=>by cases h⟩)
  ·exact absurd a d
 ·exact⟨by show s.N≤t;rw[hn.1.2.2.1];omega,fun i hi=>by show(s.ls.getD i .dflt).lo≤t;rw[(hn.1.1 i hi).2.2];omega⟩
theorem ZuB{f:CFV}{i:Nat}(hi:i≤4294967295)(h:1≤f.size∧f.size≤64∧0≤f.spread∧kc f.obj.size f.size.toNat≤128)(w:World):Calls Tryz.prog 28 #[.int .i64 (i:Int),.string f.obj,.int .i64 f.size,.int .i64 f.spread] w fun e w'=>
  ∃r:SRV,e=.returned (.tuple #[.pointer (some ⟨r.g,0,none⟩),.int .i64 0])∧Hid (SrcO w' r.g w.heap.size r.v (i:Int) r.l r.z r.k r.ss∧(∃g v,r=⟨g,v,(f.obj.size:Int),f.size,min f.spread.toNat (kc f.obj.size f.size.toNat),Zap (tx f.obj) f.size.toNat (kc f.obj.size f.size.toNat)⟩)∧Below w.heap.size w w'):=by
 obtain⟨h1,h2,h3,h4⟩:=h
 have:=Zyq i f.obj f.size.toNat f.spread.toNat w hi (by omega) (by omega) h4
 rw[Int.toNat_of_nonneg (by omega),Int.toNat_of_nonneg h3]at this
 exact this.mono fun e w' ⟨g,v,he,hs,hb⟩=>⟨⟨g,v,_,_,_,_⟩,he,hide ⟨hs,⟨g,v,rfl⟩,hb⟩⟩
theorem Zks(f:CFV)(i:Nat)(w:World)(h:NewC w f i):
  Calls Tryz.prog 10 #[f.val,.int .i64 (i:Int)] w fun e w'=> ∃g n,e=.returned (.pointer (some ⟨g,0,none⟩))∧NdAt w' g w.heap.size n∧NewN f i n∧Below w.heap.size w w':=by
 have hlen:(f.ds.getD i .dflt).tos.length=(f.ds.getD i .dflt).n:=(h.nds.2.1 i h.lt).1
 have HP:=hide (fun wx (hb:Below w.heap.size w wx)=>Zp9 f i _ wx (h.nds.below hb) h.lt rfl (by have:=h.len;omega) h.nil)
 have HN:=hide h
 have hi:=h.lt
 have hi':(i:Int)<(f.n:Int):=by omega
 clear h
 have HY:=hide (Zag 25 w [.slice f.a f.n f.c,.string f.obj,.int .i64 f.size,.int .i64 f.spread,.int .i64 f.buffer,.int .i64 f.queue,.int .i64 f.cache,.float .f64 f.rate,.int .i64 f.timeout,.int .i64 f.target])
 have HB:=hide (alloc_low w (.cells #[.slice f.a f.n f.c,.string f.obj,.int .i64 f.size,.int .i64 f.spread,.int .i64 f.buffer,.int .i64 f.queue,.int .i64 f.cache,.float .f64 f.rate,.int .i64 f.timeout,.int .i64 f.target] 25))
 unfold CFV.val at HP⊢
 have hi0:¬(i:Int)<0:=by omega
 have HE:=hide (ZuB (f:=f) (unhide HN).id (unhide HN).size)
 have hkd:=(unhide HN).kd
 have hln:=(unhide HN).len
 have HR:=hide (unhide HN).rate
 generalize hd:f.ds.getD i .dflt=d at*
 have HBG:=hide (fun a c wx=>Zhp ⟨d.kd,f.buffer,f.queue,f.cache,f.timeout,f.target,f.rate,.slice a d.n c,d.tos⟩ a d.n c wx (unhide HR) rfl (by omega))
 have HD:=hide hd
 have HLN:=hide (show d.tos.length=d.n from hlen)
 clear hd
 simp only[]at HBG
 by_cases hk1:d.kd=1
 ·have hbb:(d.kd==1)=true:=by rw[hk1];rfl
  have HKD:=hide hk1
  clear hk1 hkd
  go_enter Tryz.func10,Tryz.ntmps10
  go_wp2_with (first
   |(go_at_call 27;refine(unhide HP _ (unhide HB)).mono ?_;rintro e w1 ⟨tv,rfl,ho1,hb1⟩;obtain⟨at1,ct1,rfl, -⟩:=ho1.ints;have HO1:=hide ho1;have hy1:=(unhide HY).below hb1;have z1:=hy1.at 1 rfl;have z2:=hy1.at 2 rfl;have z3:=hy1.at 3 rfl;have HB1:=hide (below0 (unhide HB) hb1);have hhl:=hy1.lt;clear ho1 hb1 hy1)
   |(go_at_call 28;refine(unhide HE _).mono ?_;rintro e w2 ⟨r,rfl,HR2⟩;have hk2:=(Zag 105 w1 [.int .i64 (i:Int),.int .u32 0,.int .i64 d.kd,.int .i64 f.buffer,.int .i64 f.queue,.int .i64 f.cache,.int .i64 f.timeout,.int .i64 f.target,.float .f64 f.rate,.slice at1 d.n ct1,.pointer none,.slice none 0 0,.pointer none,.pointer none,.pointer none,.pointer none]).below (unhide HR2).2.2;have x10:=hk2.at 10 rfl;have f10:=hk2.frz 10;have x2:=hk2.at 2 rfl;have x3:=hk2.at 3 rfl;have x4:=hk2.at 4 rfl;have x5:=hk2.at 5 rfl;have x6:=hk2.at 6 rfl;have x7:=hk2.at 7 rfl;have x8:=hk2.at 8 rfl;have x9:=hk2.at 9 rfl;have HK2:=hide (hk2.set 10 (.pointer (some ⟨r.g,0,none⟩)));clear hk2)
   |(go_at_call 29;refine(unhide HBG _ _ _).mono ?_;rintro e w3 ⟨s,rfl,hs3,hn3,hl3,hb3⟩;have HK3:=hide ((unhide HK2).below hb3);have HS3:=hide hs3;have HN3:=hide hn3;have HL3:=hide hl3;have HB3:=hide hb3;clear hs3 hn3 hl3 hb3)
   |((with_reducible refine Zh4 103 105 ZbM 48 46 w1.heap.size 11 _ [s.lv,.pointer (some ⟨s.gm,0,none⟩),.pointer (some ⟨s.gc,0,none⟩),.pointer (ptrR s.rl),.pointer (ptrC s.dc)] ?_ ?_ (unhide HK3) rfl ?_ ?_ ?_);(focus rfl);(focus rfl);(focus exact(show 11+5≤16 by decide));(focus exact one5 (by obtain⟨a,c,e⟩:=(unhide HS3).lks.len;exact⟨a,_,c,e⟩) _ _ _ _);intro w4 hx4 ht4;have HX4:=hide hx4;have HT4:=hide ht4;clear hx4 ht4)
   |fail)
  go_ret
  have hz:w.heap.size≤w1.heap.size:=(unhide HB1).size
  have ho:OwnZ w1 w.heap.size (.slice at1 d.n ct1) d.tos:=by have:=(unhide HO1).mono (unhide HB).size;rwa[unhide HLN]at this
  have hb2:Below w1.heap.size w1 w2:=below0 (alloc_low _ _) (unhide HR2).2.2
  have hz2:=hb2.size
  have hkn:kdB w2 w1.heap.size=105+2:=((Zag 105 w1 [.int .i64 (i:Int),.int .u32 0,.int .i64 d.kd,.int .i64 f.buffer,.int .i64 f.queue,.int .i64 f.cache,.int .i64 f.timeout,.int .i64 f.target,.float .f64 f.rate,.slice at1 d.n ct1,.pointer none,.slice none 0 0,.pointer none,.pointer none,.pointer none,.pointer none]).below (unhide HR2).2.2).kd
  have ho2:OwnZ w2 w.heap.size (.slice at1 d.n ct1) d.tos:=ho.below hb2
  have hs2:=(unhide HR2).1.mono (B':=w.heap.size) (by rw[Zab];omega)
  have ht2:=Zav w2 w1.heap.size 10 (.pointer (some ⟨r.g,0,none⟩))
  have ho3:OwnZ _ w.heap.size (.slice at1 d.n ct1) d.tos:=Zam ho2 ht2 fun j hj e=>by have:=Zah ho2 hj;subst e;omega
  have hs3:=hs2.tu ht2 fun j hj e=>by have:=hs2.kd j hj;subst e;omega
  have hl3:=Ze2 (below0 (unhide HB1) hb2) ht2 hz
  refine⟨w1.heap.size,⟨i,0,⟨d.kd,f.buffer,f.queue,f.cache,f.timeout,f.target,f.rate,.slice at1 d.n ct1,d.tos⟩,some r,s,0⟩,rfl,ZlP (unhide HX4) hz (ho3.below (unhide HB3)) (fun x hx=>?_) ((unhide HS3).mono hl3.size) (unhide HK3) (unhide HT4) (.inl ⟨unhide HKD,fun h=>by cases h⟩) (unhide HN3) (by decide) ⟨by rw[unhide HL3];exact(unhide HLN).symm,by show d.tos.length≤8;rw[unhide HLN];exact hln⟩,⟨rfl,rfl,by rw[unhide HD],rfl,rfl,rfl,rfl,rfl,rfl,by rw[unhide HD],unhide HN3,fun _=>?_,rfl⟩,?_⟩
  ·cases hx
   exact hs3.tu (F:=fun _=>False) (Tu.of_below (unhide HB3)) fun _ _=>id
  ·obtain⟨g,v,rfl⟩:=(unhide HR2).2.1
   exact⟨g,v,rfl⟩
  ·exact Ze2 (below0 hl3 (unhide HB3)) (unhide HT4) hz
 ·have hbb:(d.kd==1)=false:=by simpa using hk1
  have HKD:=hide (show d.kd=2∨d.kd=3 by omega)
  have HK1:=hide hk1
  clear hk1 hkd
  go_enter Tryz.func10,Tryz.ntmps10
  go_wp2_with (first
   |(go_at_call 27;refine(unhide HP _ (unhide HB)).mono ?_;rintro e w1 ⟨tv,rfl,ho1,hb1⟩;obtain⟨at1,ct1,rfl, -⟩:=ho1.ints;have HO1:=hide ho1;have HB1:=hide (below0 (unhide HB) hb1);clear ho1 hb1)
   |(go_at_call 29;refine(unhide HBG _ _ _).mono ?_;rintro e w3 ⟨s,rfl,hs3,hn3,hl3,hb3⟩;have HK3:=hide ((Zag 105 w1 [.int .i64 (i:Int),.int .u32 0,.int .i64 d.kd,.int .i64 f.buffer,.int .i64 f.queue,.int .i64 f.cache,.int .i64 f.timeout,.int .i64 f.target,.float .f64 f.rate,.slice at1 d.n ct1,.pointer none,.slice none 0 0,.pointer none,.pointer none,.pointer none,.pointer none]).below hb3);have HS3:=hide hs3;have HN3:=hide hn3;have HL3:=hide hl3;have HB3:=hide hb3;clear hs3 hn3 hl3 hb3)
   |((with_reducible refine Zh4 103 105 ZbM 48 46 w1.heap.size 11 _ [s.lv,.pointer (some ⟨s.gm,0,none⟩),.pointer (some ⟨s.gc,0,none⟩),.pointer (ptrR s.rl),.pointer (ptrC s.dc)] ?_ ?_ (unhide HK3) rfl ?_ ?_ ?_);(focus rfl);(focus rfl);(focus exact(show 11+5≤16 by decide));(focus exact one5 (by obtain⟨a,c,e⟩:=(unhide HS3).lks.len;exact⟨a,_,c,e⟩) _ _ _ _);intro w4 hx4 ht4;have HX4:=hide hx4;have HT4:=hide ht4;clear hx4 ht4)
   |fail)
  go_ret
  have hz:w.heap.size≤w1.heap.size:=(unhide HB1).size
  have ho:OwnZ w1 w.heap.size (.slice at1 d.n ct1) d.tos:=by have:=(unhide HO1).mono (unhide HB).size;rwa[unhide HLN]at this
  have hb3:Below w1.heap.size w1 w3:=below0 (alloc_low _ _) (unhide HB3)
  refine⟨w1.heap.size,⟨i,0,⟨d.kd,f.buffer,f.queue,f.cache,f.timeout,f.target,f.rate,.slice at1 d.n ct1,d.tos⟩,none,s,0⟩,rfl,ZlP (unhide HX4) hz (ho.below hb3) (fun x hx=>by cases hx) ((unhide HS3).mono (by rw[Zab];omega)) (unhide HK3) (unhide HT4) (.inr ((unhide HKD).imp (fun e=>⟨e,rfl⟩) fun e=>⟨e,rfl⟩)) (unhide HN3) (by decide) ⟨by rw[unhide HL3];exact(unhide HLN).symm,by show d.tos.length≤8;rw[unhide HLN];exact hln⟩,⟨rfl,rfl,by rw[unhide HD],rfl,rfl,rfl,rfl,rfl,rfl,by rw[unhide HD],unhide HN3,fun e=>absurd e (unhide HK1),rfl⟩,?_⟩
  exact Ze2 (below0 (unhide HB1) hb3) (unhide HT4) hz
end Go.Proofs.YtlhhinlghhjghaaGreatDoor
namespace Go.Proofs.YtlhhinlghhjghaaGreatDoor
open Go.RowKit
set_option linter.unusedVariables false
set_option linter.unusedSimpArgs false
set_option maxRecDepth 4000
set_option maxHeartbeats 8000000
variable {g B B2:Nat}{T:TypeId}{v:Value}{w w':World}
def Bk1(T:TypeId)(w:World)(g:Nat)(v:Value):Prop:=w.heap[g]? =some (.cells #[v] T (0,0))
theorem Zuz(T:TypeId)(w:World)(v:Value):Bk1 T (w.alloc (.cells #[v] T)) w.heap.size v:=by
 show(w.heap.push _)[w.heap.size]? =_
 simp
theorem Bk1.lt(h:Bk1 T w g v):g<w.heap.size:=(Array.getElem?_eq_some_iff.1 h).1
theorem Bk1.belowB(h:Bk1 T w g v)(hb:Below B w w')(hg:g<B):Bk1 T w' g v:=(hb.block g hg).trans h
theorem Bk1.kept{row:Option Nat}(h:Bk1 T w g v)(hg:w.grownBy w' row)(hne:some g≠row):Bk1 T w' g v:=(hg.block g h.lt hne).trans h
theorem Bk1.at0(h:Bk1 T w g v):w.cell? ⟨g,0,none⟩=some v:=by
 unfold Bk1 at h
 rw[cell_of_row w g _ _ _ _ h];rfl
theorem Bk1.frz(h:Bk1 T w g v)(i:Nat):w.frozen? ⟨g,i,none⟩=false:=by
 unfold Bk1 at h
 simp[World.frozen?,h]
theorem Bk1.set0(h:Bk1 T w g v)(u:Value):Bk1 T (w.setCell ⟨g,0,none⟩ u) g u:=heap_setCell_same w g 0 _ _ u h
theorem Bk1.drew(h:Bk1 T w g v):Bk1 T w.drew g v:=h
structure Mid(B B2:Nat)(w w':World):Prop where
 os:w'.os=w.os
 tape:w'.tape=w.tape
 output:w'.output=w.output
 size:w.heap.size≤w'.heap.size
 block:∀k,k<w.heap.size→k<B∨B2≤k→w'.heap[k]? =w.heap[k]?
theorem Mid.below(h:Mid B B2 w w')(hB:B≤w.heap.size):Below B w w':=⟨h.os,h.tape,h.output,h.size,fun k hk=>h.block k (by omega) (.inl hk)⟩
theorem OwnZ.mid{xs:List Int}(h:OwnZ w B2 v xs)(hm:Mid B B2 w w'):OwnZ w' B2 v xs:=by
 refine⟨h.1,?_⟩
 rcases h.2 with h0|⟨g,cap,cur,h1,hg,hgg,r⟩
 ·exact .inl h0
 ·exact .inr ⟨g,cap,cur,h1,hg,(hm.block g (Array.getElem?_eq_some_iff.1 hgg).1 (.inr hg)).trans hgg,r⟩
theorem OwnZ.kept{xs:List Int}{k:Nat}(h:OwnZ w B v xs)(hg:w.grownBy w' (some k))(hk:k<B):OwnZ w' B v xs:=by
 refine⟨h.1,?_⟩
 rcases h.2 with h0|⟨g,cap,cur,h1,hg1,hgg,r⟩
 ·exact .inl h0
 ·exact .inr ⟨g,cap,cur,h1,hg1,(hg.block g (Array.getElem?_eq_some_iff.1 hgg).1 (fun e=>by have:=Option.some.inj e;omega)).trans hgg,r⟩
theorem ZfP{w1 w2:World}{r:Option Nat}(h:w.grownBy w1 r)(hb:Below w.heap.size w1 w2):w.grownBy w2 r:=
 ⟨hb.os.trans h.os,hb.tape.trans h.tape,hb.output.trans h.output,Nat.le_trans h.size hb.size,fun k hk hne=>(hb.block k hk).trans (h.block k hk hne)⟩
def SupAt(w:World)(h B B2:Nat)(zs:List Int):Prop:=
 ∃b off c,Bk1 338 w h (.slice (some ⟨b,off,none⟩) zs.length c)∧zs.length≤c∧c≤1048576∧(B≤b∧b<B2∧B≤h∧h<B2∧b≠h)∧
  (∀i,i<zs.length→w.cell? ⟨b,off+i,none⟩=some (.int .i64 (zs.getD i 0)))∧∀i,w.frozen? ⟨b,i,none⟩=false
theorem SupAt.below{h:Nat}{zs:List Int}(H:SupAt w h B B2 zs)(hb:Below B2 w w'):SupAt w' h B B2 zs:=by
 obtain⟨b,off,c,h1,h2,h3,h4,h5,h6⟩:=H
 exact⟨b,off,c,h1.belowB hb h4.2.2.2.1,h2,h3,h4,fun i hi=>(hb.cell (p:=⟨b,off+i,none⟩) h4.2.1).trans (h5 i hi),fun i=>(hb.frozen (p:=⟨b,i,none⟩) h4.2.1).trans (h6 i)⟩
theorem SupAt.kept{h k:Nat}{zs:List Int}(H:SupAt w h B B2 zs)(hg:w.grownBy w' (some k))(hk:k<B)(hs:B2≤w.heap.size):SupAt w' h B B2 zs:=by
 obtain⟨b,off,c,h1,h2,h3,h4,h5,h6⟩:=H
 have hbk:w'.heap[b]? =w.heap[b]? :=hg.block b (by omega) (fun e=>by have:=Option.some.inj e;omega)
 exact⟨b,off,c,h1.kept hg (fun e=>by have:=Option.some.inj e;omega),h2,h3,h4,fun i hi=>(World.cell?_of_block (a:=⟨b,off+i,none⟩) hbk).trans (h5 i hi),fun i=>(World.frozen?_of_block (a:=⟨b,i,none⟩) hbk).trans (h6 i)⟩
theorem Zm3:Tryz.prog.underlying 83=some (.slice (Tryz.prog.elem 83)):=by kernel_rfl
theorem Zto:Tryz.prog.elem 83=3:=by kernel_rfl
theorem Zyh(w:World):(sizeOf 3).run Tryz.prog w=.ok 1 w:=by kernel_rfl
theorem ZAs:(Tryz.prog.info? 3).map (·.size)=some 1:=by kernel_rfl
theorem Zsk(b off n c:Nat)(hc:n+1≤c):∃off',(n=0∨off'=off+1)∧∀w:World,
  (Instr.sliceAt 83 (.slice (some ⟨b,off,none⟩) (n+1) c) (some (.int .i64 1)) none none).run Tryz.prog w=.ok (.slice (some ⟨b,off',none⟩) n (c-1)) w:=by
 refine⟨if c=1 then off else off+1,?_,fun w=>?_⟩
 ·by_cases h:c=1
  ·exact .inl (by omega)
  ·exact .inr (by rw[if_neg h])
 ·rw[run_sliceAt_slice _ _ _ _ _ _ Zm3,run_slice_l _ _ _ _ _ Zm3 _ _ (by omega) (by omega),Zto,Zyh]
  by_cases h:c=1
  ·simp[Result.andThen,sliced,h]
  ·simp[Result.andThen,sliced,Addr.add,h]
theorem ZrY(b off n c j:Nat)(hj:j≤c)(w:World):
  (Instr.sliceAt 83 (.slice (some ⟨b,off,none⟩) n c) none (some (.int .i64 (j:Int))) none).run Tryz.prog w=.ok (.slice (some ⟨b,off,none⟩) j c) w:=by
 rw[run_sliceAt_slice _ _ _ _ _ _ Zm3,run_slice_h _ _ _ _ _ Zm3 _ _ (by omega) (by omega),Zto,Zyh]
 simp[Result.andThen,sliced,Addr.add]
theorem ZpK(xs:List Int):∀u∈cellsZ xs,u.oneCell'=true:=by
 intro u hu
 obtain⟨_,_,rfl⟩:=List.mem_map.1 hu
 rfl
theorem ZvT(b off i:Nat):(⟨b,off,none⟩:Addr).add i=⟨b,off+i,none⟩:=by
 unfold Addr.add
 split
 ·rename_i h;simp_all
 ·rfl
theorem Zz3(b off off' n c j:Nat)(zs:List Int)(wx:World)(hl:zs.length=n+1)(hj:j<n+1)(ho:n=0∨off'=off+1)
  (hc:∀i,i<n+1→wx.cell? ⟨b,off+i,none⟩=some (.int .i64 (zs.getD i 0))) (hf:∀i,wx.frozen? ⟨b,i,none⟩=false) (ty:TypeId):
  ∃w2,(Builtin.copy_ #[83,83] ty #[.slice (some ⟨b,off',none⟩) n (c-1),.slice (some ⟨b,off,none⟩) j c]).run Tryz.prog wx=.ok (goInt j) w2∧
   (∀i,i<n→w2.cell? ⟨b,off'+i,none⟩=some (.int .i64 ((zs.eraseIdx j).getD i 0)))∧(∀i,w2.frozen? ⟨b,i,none⟩=false)∧wx.grownBy w2 (some b):=by
 have hget:∀i,(zs.eraseIdx j).getD i 0=if i<j then zs.getD i 0 else zs.getD (i+1) 0:=by
  intro i
  simp only[List.getD_eq_getElem?_getD,List.getElem?_eraseIdx]
  split<;>rfl
 by_cases h0:j=0
 ·subst h0
  refine⟨wx,run_copy_none wx 83 83 ty 3 _ _ _ _ _ _ Tryz.underlying83 ZAs (Nat.min_eq_left (Nat.zero_le _)),fun i hi=>?_,hf,Zdw _ _⟩
  rw[hget,if_neg (by omega)]
  rcases ho with ho|rfl
  ·omega
  ·rw[show off+1+i=off+(i+1) by omega]
   exact hc (i+1) (by omega)
 ·have ho:off'=off+1:=by omega
  subst ho
  have hln:(cellsZ (zs.take j)).length=j:=by rw[Zaq,List.length_take];omega
  have htk:∀i,i<j→(zs.take j).getD i 0=zs.getD i 0:=fun i hi=>by simp[List.getD_eq_getElem?_getD,hi]
  refine⟨wx.setCells b (off+1) (cellsZ (zs.take j)),?_,fun i hi=>?_,fun i=>by rw[World.frozen?_setCells];exact hf i,Zbf _ _ _ _⟩
  ·have:=run_copy_cells (P:=Tryz.prog) wx 83 83 ty 3 b (off+1) n (c-1) ⟨b,off,none⟩ j c (cellsZ (zs.take j)) Tryz.underlying83 ZAs (by rw[hln];exact(Nat.min_eq_left (by omega)).symm)
    (fun i u hi=>by
     have hlt:i<(zs.take j).length:=by
      have:=(List.getElem?_eq_some_iff.1 hi).1
      rwa[Zaq]at this
     have hlt':i<j:=by rw[List.length_take]at hlt;omega
     rw[Zbm _ _ hlt,htk i hlt']at hi
     rw[ZvT,hc i (by omega)]
     exact hi)
    (fun i hi=>by rw[hln]at hi;rw[show off+1+i=off+(i+1) by omega,hc (i+1) (by omega)];rfl) (fun i hi=>hf _) (ZpK _)
   rw[hln]at this
   exact this
  ·rw[hget]
   by_cases hij:i<j
   ·rw[if_pos hij]
    have:=World.cell?_setCells_in b (cellsZ (zs.take j)) (off+1) wx (fun i hi=>by rw[hln]at hi;rw[show off+1+i=off+(i+1) by omega,hc (i+1) (by omega)];rfl) i (by rw[hln];exact hij)
    rw[this]
    have h5:=Zbm (zs.take j) i (by rw[List.length_take];omega)
    rw[List.getElem?_eq_getElem (by rw[hln];exact hij),htk i hij]at h5
    exact h5
   ·rw[if_neg hij,World.cell?_setCells_out b _ _ _ _ (fun _ _=>.inr (by rw[hln];show off+1+j≤off+1+i;omega)),show off+1+i=off+(i+1) by omega]
    exact hc (i+1) (by omega)
theorem ZsN(h B B2 j:Nat)(zs:List Int)(w:World)(H:SupAt w h B B2 zs)(hj:j<zs.length)(hs:B2≤w.heap.size):
  Calls Tryz.prog 251 #[.pointer (some ⟨h,0,none⟩),.int .i64 (j:Int)] w fun e w'=>e=.returned (.int .i64 (zs.getD j 0))∧SupAt w' h B B2 (zs.eraseIdx j)∧Mid B B2 w w':=by
 obtain⟨b,off,c,h1,h2,h3,h4,h5,h6⟩:=H
 obtain⟨n,hn⟩:∃n,zs.length=n+1:=⟨zs.length-1,by omega⟩
 rw[hn]at h1 h2 h5 hj
 obtain⟨off',ho,hs1⟩:=Zsk b off n c h2
 have hs2:=ZrY b off (n+1) c j (by omega)
 obtain⟨w2,hcp,hc2,hf2,hg2⟩:=Zz3 b off off' n c j zs w.drew hn hj ho h5 h6 3
 have hx:=h5 j hj
 have h0:=h1.at0
 have k1:Bk1 338 w2 h (.slice (some ⟨b,off,none⟩) (n+1) c):=h1.drew.kept hg2 (fun e=>h4.2.2.2.2 (Option.some.inj e).symm)
 have k0:=k1.at0
 have kf:=k1.frz 0
 have HK:=hide k1
 have HG:=hide hg2
 have HC:=hide hc2
 have HF:=hide hf2
 have H4:=hide h4
 generalize zs.getD j 0=x at*
 clear h1 h5 h6 hc2 hf2 hg2 k1 h4
 go_enter Tryz.func251,Tryz.ntmps251
 go_wp2_with fail
 go_region_held (fun w'=>w'.cell? ⟨h,0,none⟩=some (.slice (some ⟨b,off,none⟩) (n+1) c)) (go_keep) (fail)
 go_wp2
 go_ret
 have h4:=unhide H4
 have hlen:(zs.eraseIdx j).length=n:=by rw[List.length_eraseIdx,if_pos (by omega)];omega
 have hgs:=Zad w2 h 0 (.slice (some ⟨b,off',none⟩) n (c-1))
 have hbk:=hgs.block b (by have:=(unhide HG).size;simp at this;omega) (fun e=>h4.2.2.2.2 (Option.some.inj e))
 refine⟨rfl,⟨b,off',c-1,by rw[hlen];exact(unhide HK).set0 _,by omega,by omega,h4,fun i hi=>?_,fun i=>?_⟩,?_⟩
 ·rw[hlen]at hi
  exact(World.cell?_of_block (a:=⟨b,off'+i,none⟩) hbk).trans (unhide HC i hi)
 ·exact(World.frozen?_of_block (a:=⟨b,i,none⟩) hbk).trans (unhide HF i)
 ·have hG:=unhide HG
  refine⟨hgs.os.trans hG.os,hgs.tape.trans hG.tape,hgs.output.trans hG.output,Nat.le_trans hG.size hgs.size,fun k hk hkB=>?_⟩
  exact(hgs.block k (Nat.lt_of_lt_of_le hk hG.size) (fun e=>by have:=Option.some.inj e;omega)).trans (hG.block k hk (fun e=>by have:=Option.some.inj e;omega))
end Go.Proofs.YtlhhinlghhjghaaGreatDoor
