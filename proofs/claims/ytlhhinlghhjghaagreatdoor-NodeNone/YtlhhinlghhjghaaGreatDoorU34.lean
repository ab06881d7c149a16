/-
  Contracts of split.filled, cut, Split: for every text and int.
  Contracts of split.Split and bucketlineref09.Split: for every text and int.
  A source in memory ('SrcAt'); slices of texts that are made and filled. Contracts of encoder.cut, New, Source.K, Source.Blocks: for every int and every text of at most 2^63 - 1 bytes.
  What kind a block is ('kdB'); the state of a node in memory ('SttAt': its links, members, cache, relay, decoder), and what is kept where one of these turns. No condition.
-/
import Derived.Test.YtlhhinlghhjghaaGreatDoorU33
import Derived.Test.YtlhhinlghhjghaaGreatDoorU12
import Derived.Test.YtlhhinlghhjghaaGreatDoorU14
import Derived.WalkMore
import Derived.ScopeJumps
import Derived.Laws.AppendOwn
import Derived.Test.YtlhhinlghhjghaaGreatDoorU13
import Derived.Test.YtlhhinlghhjghaaGreatDoorU5
import Derived.Test.YtlhhinlghhjghaaGreatDoorU27
import Derived.Test.YtlhhinlghhjghaaGreatDoorU20
import Derived.Test.YtlhhinlghhjghaaGreatDoorU21
import Derived.Test.YtlhhinlghhjghaaGreatDoorU28
namespace Go.Proofs.YtlhhinlghhjghaaGreatDoor
open Go.RowKit
set_option linter.unusedVariables false
set_option linter.unusedSimpArgs false
set_option maxRecDepth 4000
set_option maxHeartbeats 8000000
variable {o l z:Int}{ss:List ByteArray}{g s k B:Nat}{v0 v1 v2 v3:Value}{w w':World}
theorem Zrc(xs ys:List Nat):st xs++st ys=st (xs++ys):=by
 apply ByteArray.ext
 unfold st
 rw[ByteArray.data_append]
 simp
theorem ZyY(s:ByteArray)(z:Nat):s++st (List.replicate (z-s.size) 0)=st (pad z (tx s)):=by
 conv=>lhs;rw[←Zll s]
 rw[Zrc,Zll,pad,Zaa]
theorem Zqx(s:ByteArray)(Z:Nat)(w:World)(hs:s.size≤Z)(hZ:Z≤64):
  Calls Tryz.prog 200 #[.string s,.int .i64 (Z:Int)] w fun e w'=>e=.returned (.string (st (pad Z (tx s))))∧Below w.heap.size w w':=by
 have HE:=hide (ZyY s Z)
 have HL:=hide (show(st (List.replicate (Z-s.size) 0)).size=Z-s.size by rw[Zb1,List.length_replicate])
 have esub:(Z:Int)-(s.size:Int)=((Z-s.size:Nat):Int):=by omega
 have HR:=hide (fun wx=>Zlj (Z-s.size) wx (by omega))
 have hd:Z-s.size≤64:=by omega
 generalize Z-s.size=d at*
 generalize st (List.replicate d 0)=t at*
 have hts:t.size≤64:=by have:=unhide HL;omega
 have hadd:(9223372036854775807<s.size+t.size)=False:=by simp;omega
 have HC:=hide (fun wx=>Zbp (s++t) wx (by rw[ByteArray.size_append];omega))
 go_enter Tryz.func200,Tryz.ntmps200
 go_wp2_with (first|(go_at_call 233;refine(unhide HR _).mono ?_;rintro e w1 ⟨rfl,hb⟩)|(go_at_call 89;refine(unhide HC _).mono ?_;rintro e w2 ⟨rfl,hb2⟩))
 go_ret
 exact⟨Zzq (unhide HE),below0 hb hb2⟩
theorem Zjj{P:Program}{a:Act}{Q:Exit→Act→World→Prop}{c X:Code}(l:Nat)(J:Act→World→Prop)(μ:Act→World→Nat)(hf:findLabel c l=some (Code.skip.seq X))
  (pass:∀a w,J a w→X.wp P (Exit.jump l (fun a' w'=>J a' w'∧μ a' w'<μ a w) Q) a w)
  (first:(∀a w,J a w→X.wp P (Exit.jump l J Q) a w)→c.wp P (Exit.jump l J Q) a w):(Code.scope c).wp P Q a w:=
 wp_scope_jumps l J μ hf (first fun a w h=>wp_mono (pass a w h) fun e a w h=>by
  cases e with
  |goto l'=>exact⟨h.1,h.2.1⟩
  |_=>exact h) fun a w h=>wp_seq (wp_skip (pass a w h))
def ZBs:Value→Nat| .string s=>s.size|_=>0
theorem Zvr(xs:List Nat)(Z i n:Nat)(h:n=min Z (xs.drop (i*Z)).length):
  ((xs.drop (i*Z)).drop 0).take (n-0)=(xs.drop (i*Z)).take Z∧((xs.drop (i*Z)).drop n).take ((xs.drop (i*Z)).length-n)=xs.drop ((i+1)*Z):=by
 have hl:=List.length_drop (i:=i*Z) (l:=xs)
 constructor
 ·rw[List.drop_zero,Nat.sub_zero]
  by_cases hc:Z≤(xs.drop (i*Z)).length
  ·rw[show n=Z by omega]
  ·rw[List.take_of_length_le (by omega),List.take_of_length_le (by omega)]
 ·rw[List.take_of_length_le (by rw[List.length_drop];omega),List.drop_drop,Nat.add_mul,Nat.one_mul]
  by_cases hc:Z≤(xs.drop (i*Z)).length
  ·rw[show n=Z by omega]
  ·rw[List.drop_eq_nil_of_le (by omega),List.drop_eq_nil_of_le (by omega)]
def CutJ (s : ByteArray) (Z k : Nat) (w : World) (a' : Act) (w' : World) : Prop := ∃ (i : Nat) (t : ByteArray) (b : Option Addr) (c : Nat) (u8 u9 u10 u11 u12 u13 u14 u15 u16 u17 u18 u19 u20 u21 u22 u23 u24 u25 u26 u27 u28 : Value),
      a' = { tmps := #[.string t, .int .i64 (Z : Int), .int .i64 (k : Int), undef, undef, undef, .slice none 0 0, .slice b i c, u8, u9, u10, u11, u12, u13, u14, u15, u16, u17, u18, u19, u20, u21, u22, u23, u24, u25, u26, u27, u28], defers := [] }
      ∧ i < k ∧ Hid (tx t = (tx s).drop (i * Z)) ∧ Hid (OwnT w' w.heap.size (.slice b i c) (Zap (tx s) Z i)) ∧ Hid (Below w.heap.size w w')
theorem CutJ.mk(s:ByteArray)(Z k:Nat)(w:World){w':World}(i:Nat){t:ByteArray}{b:Option Addr}{c:Nat}{u8 u9 u10 u11 u12 u13 u14 u15 u16 u17 u18 u19 u20 u21 u22 u23 u24 u25 u26 u27 u28:Value}(hi:i<k)(HT:Hid (tx t=(tx s).drop (i*Z)))
  (HO:Hid (OwnT w' w.heap.size (.slice b i c) (Zap (tx s) Z i))) (HB:Hid (Below w.heap.size w w')):
  CutJ s Z k w {tmps:=#[.string t,.int .i64 (Z:Int),.int .i64 (k:Int),undef,undef,undef,.slice none 0 0,.slice b i c,u8,u9,u10,u11,u12,u13,u14,u15,u16,u17,u18,u19,u20,u21,u22,u23,u24,u25,u26,u27,u28],defers:=[]} w':=
 ⟨i,t,b,c,u8,u9,u10,u11,u12,u13,u14,u15,u16,u17,u18,u19,u20,u21,u22,u23,u24,u25,u26,u27,u28,rfl,hi,HT,HO,HB⟩
theorem ZoF(x:ByteArray):x.toList.isEmpty=(tx x).isEmpty:=by
 rw[ByteArray.toList_eq]
 unfold tx
 simp
theorem Zw2(s:ByteArray)(Z k:Nat)(w:World)(hz1:1≤Z)(hz2:Z≤64)(hk:kc s.size Z=k)(hk2:k≤128):
  Calls Tryz.prog 171 #[.string s,.int .i64 (Z:Int),.int .i64 (k:Int)] w fun e w'=> ∃v,e=.returned v∧OwnT w' w.heap.size v (Zap (tx s) Z k)∧Below w.heap.size w w':=by
 obtain⟨i0,hi0,hz0,hzs,hzb⟩:=info_parts Ze7
 obtain⟨wm,hrun,hown,hgr⟩:=run_make_own (P:=Tryz.prog) w w.heap.size 50 9 i0 (.string ByteArray.empty) 1 Tryz.underlying50 hi0 hz0 hzs .i64 .i64 k (by rw[hzb];omega) (by unfold maxLen;omega) (Nat.le_refl _)
 have HOm:Hid (OwnT wm w.heap.size (.slice (some ⟨w.heap.size,0,none⟩) 0 k) (Zap (tx s) Z 0)):=hide hown
 have HBm:=hide ((Below.refl w.heap.size w).grown hgr (Nat.le_refl _) (fun _ h=>by cases h))
 have HK1:=hide (Zx6 s.size Z)
 have HKE:=hide (Zfi s.size Z hz1)
 have HKL:=hide (fun j h1 h2=>Znk s.size Z j hz1 h1 h2)
 rw[hk]at HK1 HKE HKL
 have HX:=hide (Zaa s)
 have HXB:=hide (Zal s)
 have hst:=Zll s
 have hss:s.size≤8192:=by
  have h1:=unhide HKE
  have h2:k*Z≤128*64:=Nat.mul_le_mul hk2 hz2
  omega
 have HS:=hide hst
 clear hown hgr hi0 hz0 hzs hzb hk hst
 go_enter Tryz.func171,Tryz.ntmps171
 go_wp2
 refine Zjj 0 (CutJ s Z k w) (fun a' _=>ZBs (a'.tmps.getD 0 undef)) rfl ?_ ?_
 ·rintro a' w' ⟨i,t,b,c,u8,u9,u10,u11,u12,u13,u14,u15,u16,u17,u18,u19,u20,u21,u22,u23,u24,u25,u26,u27,u28,rfl,hi,HT,HO,HB⟩
  have hts:t.size≤8192:=by
   rw[←Zaa,unhide HT,List.length_drop,unhide HX]
   omega
  have htl:t.size=((tx s).drop (i*Z)).length:=by rw[←Zaa,unhide HT]
  have HTL:=hide htl
  have M:=Zex Z t.size
  obtain⟨n,hn⟩:∃n,n=min Z t.size:=⟨_,rfl⟩
  rw[←hn]at M
  have hnz:n≤Z:=by omega
  have hnt:n≤t.size:=by omega
  have HN:=hide hn
  obtain⟨hc1,hc2⟩:=Zvr (tx s) Z i n (by rw[←htl];exact hn)
  rw[←unhide HT,←ZcJ]at hc1
  rw[←unhide HT,Zaa,←ZcJ]at hc2
  have HC1:=hide hc1
  have HC2:=hide hc2
  have hx1:(t.extract 0 n).size=n:=by rw[ByteArray.size_extract];omega
  have HF:=hide (fun wx=>Zqx (t.extract 0 n) Z wx (by rw[hx1];exact hnz) hz2)
  rw[hc1]at HF
  rw[unhide HT]at HF
  change Hid (∀wx,Calls Tryz.prog _ _ wx fun e w'=>e=.returned (.string (st (blk (tx s) Z i)))∧_)at HF
  have HQ:=hide (Zdv (tx s) Z i)
  have HQL:=hide (Za8 (tx s) Z i)
  clear hn htl hc1 hc2 hx1
  have hsb:=(unhide HB).size
  go_wp2_with (first|(go_at_call 200;refine(unhide HF _).mono ?_;rintro e w1 ⟨rfl,hb1⟩)|(at_builtin;refine Zf7 rfl _ _ rfl w.heap.size (.slice b i c) _ _ rfl rfl ((unhide HO).below hb1) (by have:=hb1.size;omega) (by rw[unhide HQL];omega) ?_))
  intro v2 w2 ho2 hb2
  rw[←unhide HQ]at ho2
  obtain⟨b2,c2,rfl, -⟩:=ho2.texts
  rw[Za8]at ho2⊢
  have HO2:=hide ho2
  have HB2:=hide ((below0 (unhide HB) hb1).trans hb2)
  have hem:=ZoF (t.extract n t.size)
  have hlast:=hide (unhide HC2)
  by_cases hl:(i+1)*Z<s.size
  ·have hi2:i+1<k:=by
    rcases Nat.lt_or_ge (i+1) k with h|h
    ·exact h
    ·have h1:=Nat.mul_le_mul_right Z h
     have h2:=unhide HKE
     omega
   have hne:((tx s).drop ((i+1)*Z)).isEmpty=false:=by
    rw[List.isEmpty_eq_false_iff]
    intro h
    have h2:=congrArg List.length h
    rw[List.length_drop,unhide HX]at h2
    simp at h2
    omega
   have hmu:(t.extract n t.size).size<t.size:=by
    have h1:=Zaa (t.extract n t.size)
    rw[unhide HC2,List.length_drop,unhide HX]at h1
    have h2:=Zaa t
    rw[unhide HT,List.length_drop,unhide HX]at h2
    rw[Nat.add_mul]at h1 hl
    omega
   rw[unhide HC2,hne]at hem
   have HMU:=hide hmu
   clear ho2 hb1 hb2 HO HB HF hne hmu hl hlast
   go_wp2
   go_step3
   exact⟨rfl,CutJ.mk s Z k w (i+1) hi2 HC2 HO2 HB2,unhide HMU⟩
  ·have hi2:i+1=k:=by
    have:=unhide HKL (i+1) (by omega) (by omega)
    omega
   have hne:((tx s).drop ((i+1)*Z)).isEmpty=true:=by
    rw[List.isEmpty_iff]
    apply List.drop_eq_nil_of_le
    rw[unhide HX]
    omega
   rw[unhide HC2,hne]at hem
   subst hi2
   clear ho2 hb1 hb2 HO HB HF hne hl hlast
   go_wp2
   simp only[Exit.jump]
   go_ret
   exact⟨_,rfl,unhide HO2,unhide HB2⟩
 ·intro hpass
  go_wp2
  go_step3
  rename_i K hK
  exact hK _ _ (hpass _ _ (CutJ.mk s Z k w 0 (unhide HK1) (hide (by simp)) HOm HBm))
theorem ZsQ(s:ByteArray)(Z:Nat)(w:World)(hz1:1≤Z)(hz2:Z≤64)(hk2:kc s.size Z≤128):
  Calls Tryz.prog 119 #[.string s,.int .i64 (Z:Int)] w fun e w'=> ∃v,e=.returned (.tuple #[v,.int .i64 0])∧OwnT w' w.heap.size v (Zap (tx s) Z (kc s.size Z))∧Below w.heap.size w w':=by
 have hs:s.size≤8192:=by
  have h1:=Zfi s.size Z hz1
  have h2:kc s.size Z*Z≤128*64:=Nat.mul_le_mul hk2 hz2
  omega
 have hp:=ZwD (s.size:Int) (Z:Int) w (by omega)
 rw[(ZmJ hz1 hz2 hk2).1,(ZmJ hz1 hz2 hk2).2]at hp
 have HP:=hide hp
 have HC:=hide (Zw2 s Z (kc s.size Z) w hz1 hz2 rfl hk2)
 clear hp
 generalize kc s.size Z=k at*
 go_enter Tryz.func119,Tryz.ntmps119
 go_wp2_with (first|(go_at_call 170;refine(unhide HP).mono ?_;rintro e w1 ⟨rfl,hw⟩;obtain rfl:=hw.symm)|(go_at_call 171;refine(unhide HC).mono ?_;rintro e w2 ⟨v,rfl,ho,hb⟩))
 go_ret2
 exact⟨_,rfl,ho,hb⟩
def SrcAt(w:World)(g:Nat)(o l z:Int)(s:Nat)(ss:List ByteArray):Prop:=
 ∃a c,(w.cell? ⟨g,0,none⟩=some (.int .i64 o)∧w.cell? ⟨g,1,none⟩=some (.int .i64 l)∧w.cell? ⟨g,2,none⟩=some (.int .i64 z)∧w.cell? ⟨g,3,none⟩=some (.slice a ss.length c)∧w.cell? ⟨g,4,none⟩=some (.int .i64 (s:Int)))∧TextsAt w a ss.length ss
theorem SrcAt.below(h:SrcAt w g o l z s ss)(hb:Below w.heap.size w w'):SrcAt w' g o l z s ss:=by
 obtain⟨a,c,⟨h0,h1,h2,h3,h4⟩,ht⟩:=h
 have e:∀o,w'.cell? ⟨g,o,none⟩=w.cell? ⟨g,o,none⟩:=fun o=>hb.cell (show g<w.heap.size from World.block_lt_of_cell? w ⟨g,0,none⟩ h0)
 exact⟨a,c,⟨(e _).trans h0,(e _).trans h1,(e _).trans h2,(e _).trans h3,(e _).trans h4⟩,ht.below hb⟩
theorem SrcAt.kept{T:TypeId}{a':Option Addr}{n' c':Nat}{i:Int}(h:SrcAt w g o l z s ss)(hg:w.grownBy w' (some k))(hap:Bk2 T w k (.slice a' n' c') (.int .i64 i)):SrcAt w' g o l z s ss:=by
 obtain⟨a,c,⟨h0,h1,h2,h3,h4⟩,hl,ht⟩:=h
 have hne:g≠k:=by
  rintro rfl
  rw[hap.at0]at h0
  simp at h0
 refine⟨a,c,⟨hg.cell h0 (fun e=>hne (Option.some.inj e)),hg.cell h1 (fun e=>hne (Option.some.inj e)),hg.cell h2 (fun e=>hne (Option.some.inj e)),hg.cell h3 (fun e=>hne (Option.some.inj e)),hg.cell h4 (fun e=>hne (Option.some.inj e))⟩,hl,?_⟩
 rcases ht with h0|⟨b,off,rfl,hc⟩
 ·exact .inl h0
 ·refine .inr ⟨b,off,rfl,fun j hj=>hg.cell (hc j hj) (fun e=>?_)⟩
  have e:b=k:=Option.some.inj e
  subst e
  have h0:=hc j hj
  unfold Bk2 at hap
  rw[cell_of_row w b _ _ _ _ hap]at h0
  match off+j,h0 with
  |0,h0=>simp at h0
  |1,h0=>simp at h0
  |q+2,h0=>simp at h0
def ObB(w:World)(g:Nat)(v0 v1 v2 v3:Value):Prop:=w.heap[g]? =some (.cells #[v0,v1,v2,v3] 145 (0,0))
theorem Zy2(w:World)(v0 v1 v2 v3:Value):ObB (w.alloc (.cells #[v0,v1,v2,v3] 145)) w.heap.size v0 v1 v2 v3:=by
 show(w.heap.push _)[w.heap.size]? =_
 simp
theorem ObB.lt(h:ObB w g v0 v1 v2 v3):g<w.heap.size:=(Array.getElem?_eq_some_iff.1 h).1
theorem ObB.below(h:ObB w g v0 v1 v2 v3)(hb:Below w.heap.size w w'):ObB w' g v0 v1 v2 v3:=(hb.block g h.lt).trans h
theorem ObB.cells(h:ObB w g v0 v1 v2 v3):w.cell? ⟨g,0,none⟩=some v0∧w.cell? ⟨g,1,none⟩=some v1∧w.cell? ⟨g,2,none⟩=some v2∧w.cell? ⟨g,3,none⟩=some v3:=by
 unfold ObB at h
 refine⟨?_,?_,?_,?_⟩<;>rw[cell_of_row w g _ _ _ _ h]<;>rfl
theorem ObB.frz(h:ObB w g v0 v1 v2 v3)(i:Nat):w.frozen? ⟨g,i,none⟩=false:=by
 unfold ObB at h
 simp[World.frozen?,h]
def set4(w:World)(g:Nat)(u0 u1 u2 u3:Value):World:=(((w.setCell ⟨g,0,none⟩ u0).setCell ⟨g,1,none⟩ u1).setCell ⟨g,2,none⟩ u2).setCell ⟨g,3,none⟩ u3
theorem ObB.set0(h:ObB w g v0 v1 v2 v3)(u:Value):ObB (w.setCell ⟨g,0,none⟩ u) g u v1 v2 v3:=heap_setCell_same w g 0 _ _ u h
theorem ObB.set1(h:ObB w g v0 v1 v2 v3)(u:Value):ObB (w.setCell ⟨g,1,none⟩ u) g v0 u v2 v3:=heap_setCell_same w g 1 _ _ u h
theorem ObB.set2(h:ObB w g v0 v1 v2 v3)(u:Value):ObB (w.setCell ⟨g,2,none⟩ u) g v0 v1 u v3:=heap_setCell_same w g 2 _ _ u h
theorem ObB.set3(h:ObB w g v0 v1 v2 v3)(u:Value):ObB (w.setCell ⟨g,3,none⟩ u) g v0 v1 v2 u:=heap_setCell_same w g 3 _ _ u h
theorem ObB.sets(h:ObB w g v0 v1 v2 v3)(u0 u1 u2 u3:Value):ObB (set4 w g u0 u1 u2 u3) g u0 u1 u2 u3:=(((h.set0 u0).set1 u1).set2 u2).set3 u3
theorem ZA7{a:World}(h:Below B a w){g:Nat}(hg:B≤g)(u0 u1 u2 u3:Value):Below B a (set4 w g u0 u1 u2 u3):=
 (((h.setCell hg u0).setCell hg u1).setCell hg u2).setCell hg u3
theorem gb4(w:World)(g:Nat)(u0 u1 u2 u3:Value):w.grownBy (set4 w g u0 u1 u2 u3) (some g):=
 gb_trans (gb_trans (gb_trans (Zad _ _ _ _) (Zad _ _ _ _) (.inl rfl)) (Zad _ _ _ _) (.inl rfl)) (Zad _ _ _ _) (.inl rfl)
theorem OwnT.kept{v:Value}(h:OwnT w B v ss)(hg:w.grownBy w' (some k))(hk:k<B):OwnT w' B v ss:=by
 refine⟨h.1,?_⟩
 rcases h.2 with h0|⟨g,cap,cur,h1,hb,hgg,r⟩
 ·exact .inl h0
 ·exact .inr ⟨g,cap,cur,h1,hb,(hg.block g (Array.getElem?_eq_some_iff.1 hgg).1 (fun e=>by have:=Option.some.inj e;omega)).trans hgg,r⟩
theorem Zl3{tmps:Array Value}{W:World}{x:Int}{u0 u1 u2 u3:Value}(h2:tmps.getD 6 undef=.pointer (some ⟨g,0,none⟩))(h3:tmps.getD 7 undef=.int .i64 x)(hq:ObB W g u0 u1 u2 u3):
  (results Tryz.f58 tmps).run Tryz.prog W=.ok (.tuple #[.agg #[u0,u1,u2,u3],.int .i64 x]) W:=by
 obtain⟨k0,k1,k2,k3⟩:=hq.cells
 have h2':tmps[6]?.getD undef=.pointer (some ⟨g,0,none⟩):=by simpa using h2
 have h3':tmps[7]?.getD undef=.int .i64 x:=by simpa using h3
 simp[results,Tryz.results58,go_sem,h2',h3',k0,k1,k2,k3]
theorem ZvW(o:Int)(s:ByteArray)(Z:Nat)(w:World)(hz1:1≤Z)(hz2:Z≤64)(hk2:kc s.size Z≤128):
  Calls Tryz.prog 58 #[.int .i64 o,.string s,.int .i64 (Z:Int)] w fun e w'=> ∃a c,e=.returned (.tuple #[.agg #[.int .i64 o,.int .i64 (s.size:Int),.int .i64 (Z:Int),.slice a (kc s.size Z) c],.int .i64 0])∧OwnT w' w.heap.size (.slice a (kc s.size Z) c) (Zap (tx s) Z (kc s.size Z))∧Below w.heap.size w w':=by
 have hbl:=Za8 (tx s) Z (kc s.size Z)
 have X0:=hide (Zy2 w (.int .i64 0) (.int .i64 0) (.int .i64 0) (.slice none 0 0))
 have HS:=hide (ZsQ s Z (w.alloc (.cells #[.int .i64 0,.int .i64 0,.int .i64 0,.slice none 0 0] 145)) hz1 hz2 hk2)
 have B0:=hide ((Below.refl _ w).alloc (Nat.le_refl _) (.cells #[.int .i64 0,.int .i64 0,.int .i64 0,.slice none 0 0] 145))
 generalize kc s.size Z=k at*
 generalize Zap (tx s) Z k=ss at*
 go_enter Tryz.func58,Tryz.ntmps58
 go_wp2_with fail
 refine(unhide HS).mono ?_
 rintro e w1 ⟨v,rfl,ho,hb⟩
 obtain⟨a,c,rfl,ht⟩:=ho.texts
 rw[hbl]at ho ht⊢
 have x1:=(unhide X0).below hb
 have B1:=hide (below0 (unhide B0) hb)
 have HO:=hide ho
 have X1:=hide x1
 obtain⟨k0,k1,k2,k3⟩:=x1.cells
 have f0:=x1.frz 0
 have f1:=x1.frz 1
 have f2:=x1.frz 2
 have f3:=x1.frz 3
 clear ht ho hb hbl x1
 go_wp2
 exact bodyPost_ret (Zl3 rfl rfl ((unhide X1).sets (.int .i64 o) (.int .i64 (s.size:Int)) (.int .i64 (Z:Int)) (.slice a k c))) rfl
  ⟨a,c,rfl,((unhide HO).kept (gb4 w1 w.heap.size _ _ _ _) (by rw[Zab];omega)).mono (by rw[Zab];omega),ZA7 (unhide B1) (Nat.le_refl _) _ _ _ _⟩
structure SrcO(w:World)(g B:Nat)(v:Value)(o l z:Int)(s:Nat)(ss:List ByteArray):Prop where
 blk:BkA 149 w g [.int .i64 o,.int .i64 l,.int .i64 z,v,.int .i64 (s:Int)]
 lo:B≤g
 own:OwnT w B v ss
theorem SrcO.src{v:Value}(h:SrcO w g B v o l z s ss):SrcAt w g o l z s ss:=by
 obtain⟨a,c,rfl,ht⟩:=h.own.texts
 exact⟨a,c,⟨h.blk.at 0 rfl,h.blk.at 1 rfl,h.blk.at 2 rfl,h.blk.at 3 rfl,h.blk.at 4 rfl⟩,ht⟩
theorem ZyI{c:Nat}{a:Option Addr}(hB:B≤w.heap.size)(h:OwnT w B (.slice a k c) ss)(o l z:Int)(s:Nat)(ob:Obj):
  SrcO ((w.alloc ob).alloc (.cells #[.int .i64 o,.int .i64 l,.int .i64 z,.slice a k c,.int .i64 (s:Int)] 149)) (w.heap.size+1) B (.slice a k c) o l z s ss:=by
 rw[←Zab w ob]
 exact⟨Zag 149 (w.alloc ob) _,by rw[Zab];omega,(h.below ((Below.refl _ _).alloc (Nat.le_refl _) _)).below ((Below.refl _ _).alloc (Nat.le_refl _) _)⟩
theorem Zyq(O:Nat)(s:ByteArray)(Z Q:Nat)(w:World)(ho:O≤4294967295)(hz1:1≤Z)(hz2:Z≤64)(hk2:kc s.size Z≤128):
  Calls Tryz.prog 28 #[.int .i64 (O:Int),.string s,.int .i64 (Z:Int),.int .i64 (Q:Int)] w fun e w'=> ∃g v,e=.returned (.tuple #[.pointer (some ⟨g,0,none⟩),.int .i64 0])∧SrcO w' g w.heap.size v (O:Int) (s.size:Int) (Z:Int) (min Q (kc s.size Z)) (Zap (tx s) Z (kc s.size Z))∧Below w.heap.size w w':=by
 have HC:=hide (ZvW (O:Int) s Z w hz1 hz2 hk2)
 generalize kc s.size Z=k at*
 have hmin:=Zex Q k
 generalize Zap (tx s) Z k=ss at*
 generalize min Q k=M at*
 go_enter Tryz.func28,Tryz.ntmps28
 go_wp2_with (go_at_call 58;refine(unhide HC).mono ?_;rintro e w1 ⟨a,c,rfl,ht,hb⟩;have HB:=hide hb;have HT:=hide ht;clear hb ht)
 go_ret2
 have hB:=unhide HB
 have h1:=hB.alloc hB.size (.cells #[.int .i64 (O:Int),.int .i64 (s.size:Int),.int .i64 (Z:Int),.slice a k c] 145)
 exact⟨_,_,rfl,ZyI hB.size (unhide HT) _ _ _ _ _,h1.alloc h1.size _⟩
theorem ZA8(g:Nat)(o l z:Int)(s:Nat)(ss:List ByteArray)(w:World)(h:SrcAt w g o l z s ss):
  Calls Tryz.prog 218 #[.pointer (some ⟨g,0,none⟩)] w fun e w'=>e=.returned (.int .i64 (ss.length:Int))∧w'=w:=by
 obtain⟨a,c,⟨h0,h1,h2,h3,h4⟩,ht⟩:=h
 clear ht h0 h1 h2 h4
 generalize ss.length=n at*
 go_enter Tryz.func218,Tryz.ntmps218
 go_wp2
 go_ret
 exact⟨rfl,rfl⟩
end Go.Proofs.YtlhhinlghhjghaaGreatDoor
namespace Go.Proofs.YtlhhinlghhjghaaGreatDoor
open Go.RowKit Go.Sort
set_option linter.unusedVariables false
set_option linter.unusedSimpArgs false
set_option maxRecDepth 4000
set_option maxHeartbeats 8000000
variable {o:Int}{cs:List Value}{B sz n B':Nat}{T:TypeId}{w w':World}
def kdB(w:World)(j:Nat):Nat:=match w.heap[j]? with
 |some (.cells _ T _)=>T+2
 |some (.chan _ _ _ _ _ _)=>1
 |_=>0
theorem Za2{j:Nat}{cur:Array Value}{fz:Nat×Nat}(h:w.heap[j]? =some (.cells cur T fz)):kdB w j=T+2:=by unfold kdB;rw[h]
theorem BkA.kd{g:Nat}(h:BkA T w g cs):kdB w g=T+2:=Za2 h
theorem Zah{v:Value}(h:w.ownsRow B T sz v n cs){j:Nat}(hj:v.ownBlock=some j):kdB w j=T+2:=by
 rcases h.2 with⟨rfl,_⟩|⟨g,cap,cur,rfl,_,hg,_⟩
 ·cases hj
 ·simp only[Value.ownBlock,Option.some.injEq]at hj
  exact Za2 (hj▸hg)
theorem ZbL{v:Value}(h:w.ownsRow B T sz v n cs){j:Nat}(hj:v.ownBlock=some j):B≤j∧j<w.heap.size:=by
 rcases h.2 with⟨rfl,_⟩|⟨g,cap,cur,rfl,hb,hg,_⟩
 ·cases hj
 ·simp only[Value.ownBlock,Option.some.injEq]at hj
  exact⟨hj▸hb,hj▸(Array.getElem?_eq_some_iff.1 hg).1⟩
theorem Zam{F:Nat→Prop}{v:Value}(h:w.ownsRow B T sz v n cs)(ht:Tu F w w')(hF:∀j,v.ownBlock=some j→¬F j):w'.ownsRow B T sz v n cs:=by
 refine⟨h.1,?_⟩
 rcases h.2 with h0|⟨g,cap,cur,h1,hg,hgg,r⟩
 ·exact .inl h0
 ·exact .inr ⟨g,cap,cur,h1,hg,(ht.block g (Array.getElem?_eq_some_iff.1 hgg).1 (hF g (by rw[h1];rfl))).trans hgg,r⟩
theorem LkAt.kd{g gb gq c lo:Nat}{M q Lv:Int}{L:List ByteArray}(h:LkAt w g gb gq c M q Lv L lo):∀j,lkF g gb gq c j→kdB w j=190+2∨kdB w j=252+2∨kdB w j=250+2∨kdB w j=1:=fun j hj=>by
 rcases hj with rfl|rfl|rfl|rfl
 ·exact .inl h.blk.kd
 ·exact .inr (.inl h.bt.blk.kd)
 ·exact .inr (.inr (.inl h.qu.blk.kd))
 ·obtain⟨s,r,hc⟩:=h.qu.chn
  exact .inr (.inr (.inr (by unfold kdB;rw[hc])))
theorem CaAt.kd{g b m N:Nat}{L:List Nat}(h:CaAt w g b m N L):∀j,caF g b j→kdB w j=226+2∨kdB w j=0:=fun j hj=>by
 obtain⟨nx,es,D,_,hb,ho,_⟩:=h.it
 rcases hj with rfl|rfl
 ·exact .inl hb.kd
 ·obtain⟨es,clock,hk,_⟩:=ho
  exact .inr (by unfold kdB;rw[hk])
theorem RlAt.kd{g gb m:Nat}{t i:Int}{v:Value}{ps:List PKV}(h:RlAt w g gb B m t i v ps):∀j,rlF g gb v j→kdB w j=173+2∨kdB w j=280+2∨kdB w j=59+2:=fun j hj=>by
 rcases hj with rfl|rfl|hj
 ·exact .inl h.blk.kd
 ·exact .inr (.inl h.buf.blk.kd)
 ·exact .inr (.inr (Zah h.buf.own hj))
theorem DcAt.kd{g:Nat}{M:Int}{s:DS}{gs:Nat}{v:Value}{rs:List RV}(h:DcAt w g B M s gs v rs):∀j,dcF g gs v j→kdB w j=179+2∨kdB w j=255+2∨kdB w j=57+2:=fun j hj=>by
 rcases hj with rfl|hj
 ·exact .inl h.blk.kd
 ·cases hb:s.bg
  ·obtain⟨_,rfl,rfl⟩:=h.fresh hb
   rcases hj with rfl|hj
   ·exact .inl h.blk.kd
   ·cases hj
  ·rcases hj with rfl|hj
   ·exact .inr (.inl (Za2 (h.begun hb).1.blk))
   ·exact .inr (.inr (Zah (h.begun hb).1.own hj))
theorem DcAt.tu{F:Nat→Prop}{g:Nat}{M:Int}{s:DS}{gs:Nat}{v:Value}{rs:List RV}(h:DcAt w g B M s gs v rs)(ht:Tu F w w')(hs:∀j,dcF g gs v j→¬F j)(hw:∀j cur,w.heap[j]? =some (.cells cur 69 (0,0))→¬F j):DcAt w' g B M s gs v rs:=
 ⟨h.blk.tu ht (hs g (.inl rfl)),h.lo,fun e=>⟨(h.begun e).1.tu ht (fun j hj=>hs j (.inr hj)) hw,(h.begun e).2⟩,h.fresh,h.co⟩
def srF(g:Nat)(v:Value)(j:Nat):Prop:=j=g∨v.ownBlock=some j
theorem SrcO.kd{g:Nat}{v:Value}{l z:Int}{s:Nat}{ss:List ByteArray}(h:SrcO w g B v o l z s ss):∀j,srF g v j→kdB w j=149+2∨kdB w j=9+2:=fun j hj=>by
 rcases hj with rfl|hj
 ·exact .inl h.blk.kd
 ·exact .inr (Zah h.own hj)
theorem SrcO.tu{F:Nat→Prop}{g:Nat}{v:Value}{l z:Int}{s:Nat}{ss:List ByteArray}(h:SrcO w g B v o l z s ss)(ht:Tu F w w')(hs:∀j,srF g v j→¬F j):SrcO w' g B v o l z s ss:=
 ⟨h.blk.tu ht (hs g (.inl rfl)),h.lo,Zam h.own ht fun j hj=>hs j (.inr hj)⟩
structure LkV where
 g:Nat
 gb:Nat
 gq:Nat
 c:Nat
 lv:Int
 L:List ByteArray
 lo:Nat
def LkV.F(l:LkV)(j:Nat):Prop:=lkF l.g l.gb l.gq l.c j
def LkV.At(w:World)(M q:Int)(l:LkV):Prop:=LkAt w l.g l.gb l.gq l.c M q l.lv l.L l.lo
def LkV.dflt:LkV:=⟨0,0,0,0,0,[],0⟩
def ZcR(ls:List LkV):List Value:=ls.map fun l=>.pointer (some ⟨l.g,0,none⟩)
theorem ZqC(ls:List LkV)(i:Nat)(h:i<ls.length):(ZcR ls)[i]? =some (.pointer (some ⟨(ls.getD i .dflt).g,0,none⟩)):=by
 simp[ZcR,List.getElem?_eq_getElem h,List.getD_eq_getElem?_getD]
def OwnL(w:World)(B:Nat)(v:Value)(ls:List LkV):Prop:=w.ownsRow B 114 1 v ls.length (ZcR ls)
theorem OwnL.nil(w:World)(B:Nat):OwnL w B (.slice none 0 0) []:=World.ownsRow_nil _ _ _ _
theorem OwnL.at{v:Value}{ls:List LkV}(h:OwnL w B v ls)(hn:0<ls.length):∃g cap,v=.slice (some ⟨g,0,none⟩) ls.length cap∧∀i,i<ls.length→w.cell? ⟨g,i,none⟩=some (.pointer (some ⟨(ls.getD i .dflt).g,0,none⟩)):=by
 have ho':w.ownsRow B 114 1 v ls.length (ZcR ls):=h
 rcases h.2 with⟨rfl,h0⟩|⟨g,cap,cur,rfl,hb,hg,hn,hm,hsz,ht⟩
 ·omega
 ·refine⟨g,cap,rfl,fun i hi=>?_⟩
  rw[ho'.cellAt i (by omega),ZqC ls i hi]
theorem OwnL.len{v:Value}{ls:List LkV}(h:OwnL w B v ls):∃a c,v=.slice a ls.length c:=by
 rcases h.2 with⟨rfl,h0⟩|⟨g,cap,cur,rfl,_⟩
 ·exact⟨none,0,by rw[h0]⟩
 ·exact⟨_,_,rfl⟩
structure RLV where
 g:Nat
 gb:Nat
 i:Int
 v:Value
 ps:List PKV
structure DCV where
 g:Nat
 s:DS
 gs:Nat
 v:Value
 rs:List RV
structure PLD where
 kd:Int
 buffer:Int
 queue:Int
 cache:Int
 timeout:Int
 target:Int
 rate:Nat
 tv:Value
 tos:List Int
structure STD where
 lv:Value
 ls:List LkV
 gm:Nat
 Z:List Int
 gc:Nat
 gcm:Nat
 N:Nat
 P:List Nat
 rl:Option RLV
 dc:Option DCV
def ptrR(o:Option RLV):Option Addr:=o.map fun r=>⟨r.g,0,none⟩
def ptrC(o:Option DCV):Option Addr:=o.map fun r=>⟨r.g,0,none⟩
def sttC(s:STD):List Value:=[s.lv,.pointer (some ⟨s.gm,0,none⟩),.pointer (some ⟨s.gc,0,none⟩),.pointer (ptrR s.rl),.pointer (ptrC s.dc)]
def PLD.M(p:PLD):Int:=((milZ p.rate:Nat):Int)
structure SttAt(w:World)(B:Nat)(p:PLD)(s:STD):Prop where
 lks:OwnL w B s.lv s.ls
 each:∀i,i<s.ls.length→(s.ls.getD i .dflt).At w p.M p.queue∧∀j,(s.ls.getD i .dflt).F j→B≤j
 apart:∀i k,i<s.ls.length→k<s.ls.length→i≠k→∀j,(s.ls.getD i .dflt).F j→¬(s.ls.getD k .dflt).F j
 mem:MbAt w s.gm (ZcY p.timeout) s.Z
 memlo:B≤s.gm
 ca:CaAt w s.gc s.gcm (capN p.cache) s.N s.P
 calo:∀j,caF s.gc s.gcm j→B≤j
 rl:∀r,s.rl=some r→RlAt w r.g r.gb B (capN p.buffer) (Zfk p.target) r.i r.v r.ps
 dc:∀d,s.dc=some d→DcAt w d.g B p.buffer d.s d.gs d.v d.rs
def sttF(s:STD)(j:Nat):Prop:=s.lv.ownBlock=some j∨(∃i,i<s.ls.length∧(s.ls.getD i .dflt).F j)∨j=s.gm∨caF s.gc s.gcm j∨(∃r,s.rl=some r∧rlF r.g r.gb r.v j)∨∃d,s.dc=some d∧dcF d.g d.gs d.v j
theorem SttAt.kd{p:PLD}{s:STD}(h:SttAt w B p s):∀j,sttF s j→(kdB w j=114+2∨(kdB w j=190+2∨kdB w j=252+2∨kdB w j=250+2∨kdB w j=1)∨kdB w j=166+2∨(kdB w j=226+2∨kdB w j=0)∨(kdB w j=173+2∨kdB w j=280+2∨kdB w j=59+2)∨(kdB w j=179+2∨kdB w j=255+2∨kdB w j=57+2)):=fun j hj=>by
 rcases hj with hj|⟨l,hl,hj⟩|rfl|hj|⟨r,hr,hj⟩|⟨d,hd,hj⟩
 ·exact .inl (Zah h.lks hj)
 ·exact .inr (.inl ((h.each l hl).1.kd j hj))
 ·exact .inr (.inr (.inl h.mem.blk.kd))
 ·exact .inr (.inr (.inr (.inl (h.ca.kd j hj))))
 ·exact .inr (.inr (.inr (.inr (.inl ((h.rl r hr).kd j hj)))))
 ·exact .inr (.inr (.inr (.inr (.inr ((h.dc d hd).kd j hj)))))
theorem SttAt.low{p:PLD}{s:STD}(h:SttAt w B p s):∀j,sttF s j→B≤j:=fun j hj=>by
 rcases hj with hj|⟨l,hl,hj⟩|rfl|hj|⟨r,hr,hj⟩|⟨d,hd,hj⟩
 ·exact(ZbL h.lks hj).1
 ·exact(h.each l hl).2 j hj
 ·exact h.memlo
 ·exact h.calo j hj
 ·exact Nat.le_of_not_lt fun e=>(h.rl r hr).low j e hj
 ·exact Nat.le_of_not_lt fun e=>(h.dc d hd).low j e hj
theorem LkV.At.tu{F:Nat→Prop}{M q:Int}{l:LkV}(h:l.At w M q)(ht:Tu F w w')(hF:∀j,l.F j→¬F j):l.At w' M q:=
 LkAt.tu h ht (hF _ (.inl rfl)) (hF _ (.inr (.inl rfl))) (hF _ (.inr (.inr (.inl rfl)))) (hF _ (.inr (.inr (.inr rfl))))
theorem SttAt.tu{F:Nat→Prop}{p:PLD}{s:STD}(h:SttAt w B p s)(ht:Tu F w w')(hs:∀j,sttF s j→¬F j)(hw:∀j,kdB w j=69+2→¬F j):SttAt w' B p s:=
 ⟨Zam h.lks ht fun j hj=>hs j (.inl hj),fun i hi=>⟨(h.each i hi).1.tu ht fun j hj=>hs j (.inr (.inl ⟨i,hi,hj⟩)),(h.each i hi).2⟩,h.apart,h.mem.tu ht (hs _ (.inr (.inr (.inl rfl)))),h.memlo,
  h.ca.tu ht (hs _ (.inr (.inr (.inr (.inl (.inl rfl)))))) (hs _ (.inr (.inr (.inr (.inl (.inr rfl)))))),h.calo,
  fun r hr=>(h.rl r hr).tu ht (fun j hj=>hs j (.inr (.inr (.inr (.inr (.inl ⟨r,hr,hj⟩)))))) fun j cur hc=>hw j (Za2 hc),fun d hd=>(h.dc d hd).tu ht (fun j hj=>hs j (.inr (.inr (.inr (.inr (.inr ⟨d,hd,hj⟩)))))) fun j cur hc=>hw j (Za2 hc)⟩
theorem SttAt.below{p:PLD}{s:STD}(h:SttAt w B p s)(hb:Below w.heap.size w w'):SttAt w' B p s:=h.tu (F:=fun _=>False) (Tu.of_below hb) (fun _ _=>id) fun _ _=>id
theorem ZiW(ls:List LkV)(i k:Nat)(x:LkV)(hi:i<ls.length):(ls.set i x).getD k .dflt=if k=i then x else ls.getD k .dflt:=by
 rw[List.getD_eq_getElem?_getD,List.getElem?_set]
 by_cases e:k=i
 ·subst e;simp[hi]
 ·rw[if_neg (fun h=>e h.symm),if_neg e,List.getD_eq_getElem?_getD]
def LkV.now(l:LkV)(lv:Int)(L:List ByteArray)(lo:Nat):LkV:=⟨l.g,l.gb,l.gq,l.c,lv,L,lo⟩
theorem ZpX(ls:List LkV)(i:Nat)(lv:Int)(L:List ByteArray)(lo:Nat):ZcR (ls.set i ((ls.getD i .dflt).now lv L lo))=ZcR ls:=by
 unfold ZcR
 apply List.ext_getElem?
 intro j
 rw[List.getElem?_map,List.getElem?_map,List.getElem?_set]
 split
 ·rename_i e
  subst e
  split
  ·rename_i h
   simp[LkV.now,List.getD_eq_getElem?_getD,h]
  ·rename_i h
   simp[List.getElem?_eq_none (Nat.le_of_not_lt h)]
 ·rfl
theorem ZdR{v:Value}(h:w.ownsRow B T sz v n cs)(hB:B'≤B):w.ownsRow B' T sz v n cs:=
 ⟨h.1,h.2.imp id fun⟨g,cap,cur,h1,hb,r⟩=>⟨g,cap,cur,h1,Nat.le_trans hB hb,r⟩⟩
theorem SrcO.mono{g:Nat}{v:Value}{l z:Int}{s:Nat}{ss:List ByteArray}(h:SrcO w g B v o l z s ss)(hB:B'≤B):SrcO w g B' v o l z s ss:=⟨h.blk,Nat.le_trans hB h.lo,ZdR h.own hB⟩
theorem SttAt.mono{p:PLD}{s:STD}(h:SttAt w B p s)(hB:B'≤B):SttAt w B' p s:=
 ⟨ZdR h.lks hB,fun i hi=>⟨(h.each i hi).1,fun j hj=>Nat.le_trans hB ((h.each i hi).2 j hj)⟩,h.apart,h.mem,Nat.le_trans hB h.memlo,h.ca,fun j hj=>Nat.le_trans hB (h.calo j hj),fun r hr=>(h.rl r hr).mono hB,fun d hd=>(h.dc d hd).mono hB⟩
theorem SttAt.link{p:PLD}{s:STD}(h:SttAt w B p s){i:Nat}(hi:i<s.ls.length){lv:Int}{L:List ByteArray}{lo:Nat}(hk:((s.ls.getD i .dflt).now lv L lo).At w' p.M p.queue)(ht:Tu (s.ls.getD i .dflt).F w w'):
  SttAt w' B p {s with ls:=s.ls.set i ((s.ls.getD i .dflt).now lv L lo)}:=by
 have k0:=(h.each i hi).1.kd
 refine⟨?_,?_,?_,h.mem.tu ht fun e=>?_,h.memlo,h.ca.tu ht (fun e=>?_) fun e=>?_,h.calo,fun r hr=>(h.rl r hr).tu ht (fun j hj e=>?_) fun j cur hc e=>?_,fun d hd=>(h.dc d hd).tu ht (fun j hj e=>?_) fun j cur hc e=>?_⟩
 ·have:=Zam h.lks ht fun j hj e=>by
   have:=Zah h.lks hj
   have:=k0 j e
   omega
  show w'.ownsRow B 114 1 s.lv (s.ls.set i _).length (ZcR _)
  rw[List.length_set,ZpX]
  exact this
 ·intro k hk2
  rw[List.length_set]at hk2
  rw[ZiW _ _ _ _ hi]
  split
  ·exact⟨hk,(h.each i hi).2⟩
  ·rename_i e
   exact⟨(h.each k hk2).1.tu ht fun j hj=>h.apart k i hk2 hi e j hj,(h.each k hk2).2⟩
 ·intro a b ha hb hab j
  rw[List.length_set]at ha hb
  rw[ZiW _ _ _ _ hi,ZiW _ _ _ _ hi]
  have hF:((s.ls.getD i .dflt).now lv L lo).F=(s.ls.getD i .dflt).F:=rfl
  split
  ·rename_i e
   subst e
   rw[if_neg (Ne.symm hab),hF]
   exact h.apart a b ha hb hab j
  ·split
   ·rename_i e
    subst e
    rw[hF]
    exact h.apart a b ha hb hab j
   ·exact h.apart a b ha hb hab j
 ·have:=h.mem.blk.kd;have:=k0 _ e;omega
 ·have:=h.ca.kd _ (.inl rfl);have:=k0 _ e;omega
 ·have:=h.ca.kd _ (.inr rfl);have:=k0 _ e;omega
 ·have:=(h.rl r hr).kd j hj;have:=k0 _ e;omega
 ·have:=Za2 hc;have:=k0 _ e;omega
 ·have:=(h.dc d hd).kd j hj;have:=k0 _ e;omega
 ·have:=Za2 hc;have:=k0 _ e;omega
theorem SttAt.keep{F:Nat→Prop}{p:PLD}{s:STD}(h:SttAt w B p s)(ht:Tu F w w')(hF:∀j,F j→kdB w j≠114+2∧kdB w j≠190+2∧kdB w j≠252+2∧kdB w j≠250+2∧kdB w j≠1):
  OwnL w' B s.lv s.ls∧∀i,i<s.ls.length→(s.ls.getD i .dflt).At w' p.M p.queue∧∀j,(s.ls.getD i .dflt).F j→B≤j:=
 ⟨Zam h.lks ht fun j hj e=>by have:=Zah h.lks hj;have:=hF j e;omega,fun i hi=>⟨(h.each i hi).1.tu ht fun j hj e=>by have:=(h.each i hi).1.kd j hj;have:=hF j e;omega,(h.each i hi).2⟩⟩
theorem SttAt.hear{p:PLD}{s:STD}(h:SttAt w B p s){Z:List Int}(hm:MbAt w' s.gm (ZcY p.timeout) Z)(ht:Tu (fun j=>j=s.gm) w w'):SttAt w' B p {s with Z:=Z}:=by
 have k0:∀j,j=s.gm→kdB w j=166+2:=fun j e=>by subst e;exact h.mem.blk.kd
 obtain⟨h1,h2⟩:=h.keep ht fun j e=>by have:=k0 j e;omega
 exact⟨h1,h2,h.apart,hm,h.memlo,h.ca.tu ht (fun e=>by have:=h.ca.kd _ (.inl rfl);have:=k0 _ e;omega) (fun e=>by have:=h.ca.kd _ (.inr rfl);have:=k0 _ e;omega),h.calo,
  fun r hr=>(h.rl r hr).tu ht (fun j hj e=>by have:=(h.rl r hr).kd j hj;have:=k0 _ e;omega) fun j cur hc e=>(by have:=Za2 hc;have:=k0 _ e;omega),
  fun d hd=>(h.dc d hd).tu ht (fun j hj e=>by have:=(h.dc d hd).kd j hj;have:=k0 _ e;omega) fun j cur hc e=>(by have:=Za2 hc;have:=k0 _ e;omega)⟩
theorem SttAt.seen{p:PLD}{s:STD}(h:SttAt w B p s){N:Nat}{P:List Nat}(hm:CaAt w' s.gc s.gcm (capN p.cache) N P)(ht:Tu (caF s.gc s.gcm) w w'):SttAt w' B p {s with N:=N,P:=P}:=by
 have k0:=h.ca.kd
 obtain⟨h1,h2⟩:=h.keep ht fun j e=>by have:=k0 j e;omega
 exact⟨h1,h2,h.apart,h.mem.tu ht (fun e=>by have:=h.mem.blk.kd;have:=k0 _ e;omega),h.memlo,hm,h.calo,
  fun r hr=>(h.rl r hr).tu ht (fun j hj e=>by have:=(h.rl r hr).kd j hj;have:=k0 _ e;omega) fun j cur hc e=>(by have:=Za2 hc;have:=k0 _ e;omega),
  fun d hd=>(h.dc d hd).tu ht (fun j hj e=>by have:=(h.dc d hd).kd j hj;have:=k0 _ e;omega) fun j cur hc e=>(by have:=Za2 hc;have:=k0 _ e;omega)⟩
theorem SttAt.relay{p:PLD}{s:STD}(h:SttAt w B p s){r:RLV}(hr:s.rl=some r)(r':RLV)(hm:RlAt w' r'.g r'.gb B (capN p.buffer) (Zfk p.target) r'.i r'.v r'.ps)(ht:Tu (rlF r.g r.gb r.v) w w'):SttAt w' B p {s with rl:=some r'}:=by
 have k0:=(h.rl r hr).kd
 obtain⟨h1,h2⟩:=h.keep ht fun j e=>by have:=k0 j e;omega
 exact⟨h1,h2,h.apart,h.mem.tu ht (fun e=>by have:=h.mem.blk.kd;have:=k0 _ e;omega),h.memlo,h.ca.tu ht (fun e=>by have:=h.ca.kd _ (.inl rfl);have:=k0 _ e;omega) (fun e=>by have:=h.ca.kd _ (.inr rfl);have:=k0 _ e;omega),h.calo,
  fun x hx=>(by cases hx;exact hm),fun d hd=>(h.dc d hd).tu ht (fun j hj e=>by have:=(h.dc d hd).kd j hj;have:=k0 _ e;omega) fun j cur hc e=>(by have:=Za2 hc;have:=k0 _ e;omega)⟩
theorem SttAt.deco{p:PLD}{s:STD}(h:SttAt w B p s){d:DCV}(hd:s.dc=some d)(d':DCV)(hm:DcAt w' d'.g B p.buffer d'.s d'.gs d'.v d'.rs)(ht:Tu (dcF d.g d.gs d.v) w w'):SttAt w' B p {s with dc:=some d'}:=by
 have k0:=(h.dc d hd).kd
 obtain⟨h1,h2⟩:=h.keep ht fun j e=>by have:=k0 j e;omega
 exact⟨h1,h2,h.apart,h.mem.tu ht (fun e=>by have:=h.mem.blk.kd;have:=k0 _ e;omega),h.memlo,h.ca.tu ht (fun e=>by have:=h.ca.kd _ (.inl rfl);have:=k0 _ e;omega) (fun e=>by have:=h.ca.kd _ (.inr rfl);have:=k0 _ e;omega),h.calo,
  fun r hr=>(h.rl r hr).tu ht (fun j hj e=>by have:=(h.rl r hr).kd j hj;have:=k0 _ e;omega) fun j cur hc e=>(by have:=Za2 hc;have:=k0 _ e;omega),fun x hx=>(by cases hx;exact hm)⟩
structure SRV where
 g:Nat
 v:Value
 l:Int
 z:Int
 k:Nat
 ss:List ByteArray
structure NDD where
 id:Nat
 inc:Nat
 p:PLD
 src:Option SRV
 s:STD
 t:Nat
def ptrS(o:Option SRV):Option Addr:=o.map fun r=>⟨r.g,0,none⟩
def plC(p:PLD):List Value:=[.int .i64 p.kd,.int .i64 p.buffer,.int .i64 p.queue,.int .i64 p.cache,.int .i64 p.timeout,.int .i64 p.target,.float .f64 p.rate,p.tv]
def ndC(n:NDD):List Value:=[.int .i64 (n.id:Int),.int .u32 (n.inc:Int),.int .i64 n.p.kd,.int .i64 n.p.buffer,.int .i64 n.p.queue,.int .i64 n.p.cache,.int .i64 n.p.timeout,.int .i64 n.p.target,.float .f64 n.p.rate,n.p.tv,.pointer (ptrS n.src),n.s.lv,.pointer (some ⟨n.s.gm,0,none⟩),.pointer (some ⟨n.s.gc,0,none⟩),.pointer (ptrR n.s.rl),.pointer (ptrC n.s.dc)]
structure NdAt(w:World)(g B:Nat)(n:NDD):Prop where
 blk:BkA 105 w g (ndC n)
 lo:B≤g
 tos:OwnZ w B n.p.tv n.p.tos
 src:∀r,n.src=some r→SrcO w r.g B r.v (n.id:Int) r.l r.z r.k r.ss
 st:SttAt w B n.p n.s
 kd:(n.p.kd=1∧n.src≠none∧n.s.rl=none∧n.s.dc=none)∨(n.p.kd=2∧n.src=none∧n.s.rl≠none∧n.s.dc=none)∨(n.p.kd=3∧n.src=none∧n.s.rl=none∧n.s.dc≠none)
 num:n.inc<4294967296∧n.s.ls.length=n.p.tos.length∧n.p.tos.length≤8
 tm:n.s.N≤n.t∧∀i,i<n.s.ls.length→(n.s.ls.getD i .dflt).lo≤n.t
def ndF(g:Nat)(n:NDD)(j:Nat):Prop:=j=g∨n.p.tv.ownBlock=some j∨(∃r,n.src=some r∧srF r.g r.v j)∨sttF n.s j
theorem NdAt.tu{F:Nat→Prop}{g:Nat}{n:NDD}(h:NdAt w g B n)(ht:Tu F w w')(hs:∀j,ndF g n j→¬F j)(hw:∀j,kdB w j=69+2→¬F j):NdAt w' g B n:=
 ⟨h.blk.tu ht (hs g (.inl rfl)),h.lo,Zam h.tos ht fun j hj=>hs j (.inr (.inl hj)),fun r hr=>(h.src r hr).tu ht fun j hj=>hs j (.inr (.inr (.inl ⟨r,hr,hj⟩))),h.st.tu ht (fun j hj=>hs j (.inr (.inr (.inr hj)))) hw,h.kd,h.num,h.tm⟩
theorem NdAt.below{g:Nat}{n:NDD}(h:NdAt w g B n)(hb:Below w.heap.size w w'):NdAt w' g B n:=h.tu (F:=fun _=>False) (Tu.of_below hb) (fun _ _=>id) fun _ _=>id
theorem NdAt.low{g:Nat}{n:NDD}(h:NdAt w g B n):∀j,ndF g n j→B≤j:=fun j hj=>by
 rcases hj with rfl|hj|⟨r,hr,hj⟩|hj
 ·exact h.lo
 ·exact(ZbL h.tos hj).1
 ·rcases hj with rfl|hj
  ·exact(h.src r hr).lo
  ·exact(ZbL (h.src r hr).own hj).1
 ·exact h.st.low j hj
theorem NdAt.step{w0:World}{g:Nat}{n:NDD}(h:NdAt w g B n)(hb:Below B w0 w)(ht:Tu (ndF g n) w w'):Below B w0 w':=
 hb.trans (ht.below (Nat.le_of_lt (Nat.lt_of_le_of_lt h.lo h.blk.lt)) fun j hj hf=>by have:=h.low j hf;omega)
theorem NdAt.state{g:Nat}{n:NDD}(h:NdAt w g B n){s:STD}(hs:SttAt w' B n.p s)(ht:Tu (sttF n.s) w w')(hc:sttC s=sttC n.s)
  (hr:s.rl=none↔n.s.rl=none) (hd:s.dc=none↔n.s.dc=none) (hl:s.ls.length=n.s.ls.length) {t:Nat} (hm:s.N≤t∧∀i,i<s.ls.length→(s.ls.getD i .dflt).lo≤t):NdAt w' g B {n with s:=s,t:=t}:=by
 have k0:=h.st.kd
 have he:ndC {n with s:=s,t:=t}=ndC n:=by
  simp only[sttC,List.cons.injEq,and_true]at hc
  obtain⟨c1,c2,c3,c4,c5⟩:=hc
  simp only[ndC,c1,c2,c3,c4,c5]
 have hb:BkA 105 w' g (ndC n):=h.blk.tu ht fun e=>by have:=h.blk.kd;have:=k0 _ e;omega
 refine⟨by rw[he];exact hb,h.lo,Zam h.tos ht fun j hj e=>?_,fun r hr=>(h.src r hr).tu ht fun j hj e=>?_,hs,?_,⟨h.num.1,hl.trans h.num.2.1,h.num.2.2⟩,hm⟩
 ·have:=Zah h.tos hj;have:=k0 _ e;omega
 ·have:=(h.src r hr).kd j hj;have:=k0 _ e;omega
 ·rcases h.kd with⟨a,b,c,d⟩|⟨a,b,c,d⟩|⟨a,b,c,d⟩
  ·exact .inl ⟨a,b,hr.2 c,hd.2 d⟩
  ·exact .inr (.inl ⟨a,b,fun e=>c (hr.1 e),hd.2 d⟩)
  ·exact .inr (.inr ⟨a,b,hr.2 c,fun e=>d (hd.1 e)⟩)
end Go.Proofs.YtlhhinlghhjghaaGreatDoor
