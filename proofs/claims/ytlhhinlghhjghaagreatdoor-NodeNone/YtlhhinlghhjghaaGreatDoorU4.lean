/-
  Contracts of peel.set and peel.drop, which change a row of one's own.
  Slices of rows of one's own, and 'append' of one row; 'append(own, make([]uint64, m)...)'.
  Contract of xor.vecs.
  Rows in memory, on: their cores, slices of rows that are made and filled, or that two slices share; contract of bucketlineref02.All, of equal rows.
  Plain mathematics of shares: their sum, the degree that a draw picks, the table of shares. Of no program. No condition but where it is said.
-/
import Derived.Test.YtlhhinlghhjghaaGreatDoorU3
import Derived.Test.YtlhhinlghhjghaaGreatDoorU2
import Derived.OwnWalk
import Derived.Lib.AppendZeros
import Derived.Lib.AppendZerosOnto
import Derived.Test.YtlhhinlghhjghaaGreatDoorU1
import Derived.Laws.MathBits
namespace Go.Proofs.YtlhhinlghhjghaaGreatDoor
open Go.RowKit Go.Sort
set_option linter.unusedVariables false
set_option linter.unusedSimpArgs false
set_option maxRecDepth 4000
set_option maxHeartbeats 8000000
variable {L:List (List Nat×ByteArray)}{rs ts:List RV}{B g n c:Nat}{a:Option Addr}{v:Value}{wr w w':World}
theorem Zv0(B g cap:Nat)(xs:List Nat)(b:Nat)(w:World)(ho:Own w B (.slice (some ⟨g,0,none⟩) xs.length cap) xs)(hb:b/64<xs.length)(hn:xs.length≤1048576):
  Calls Tryz.prog 311 #[.slice (some ⟨g,0,none⟩) xs.length cap,.int .i64 (b:Int)] w fun e w'=>e=.returned (.tuple #[])∧Own w' B (.slice (some ⟨g,0,none⟩) xs.length cap) (setB xs b true)∧w.grownBy w' (some g):=by
 obtain⟨i,hi⟩:∃i:Int,i=(b:Int):=⟨_,rfl⟩
 rw[←hi]
 have h0:0≤i:=by omega
 have him:i≤9223372036854775807:=by omega
 obtain⟨q,hq⟩:=Int.eq_ofNat_of_zero_le (show 0≤i/64 by omega)
 have hql:q<xs.length:=by omega
 have hql':(q:Int)<(xs.length:Int):=by omega
 have hqw:=Zgv i q h0 him hq
 obtain⟨g',cap',he,hBg,hgs,hcg,hfg⟩:=ho.at (by omega)
 simp only[Value.slice.injEq,Option.some.injEq,Addr.mk.injEq,true_and,and_true]at he
 obtain⟨rfl,rfl⟩:=he
 have hcell:=hcg q hql
 have hfz:=hfg q
 have hx:=ho.1.get q
 have hmk:=Zjo i
 have hor:=ZxQ (xs.getD q 0) i hx
 have R:=hide (Zls (on:=true) h0 hq ho.1 hBg ho (Below.refl B w)).1
 have RG:=hide (fun u=>Zad w g q u)
 have HE:Hid (setI xs i true=setB xs b true):=hide (by unfold setI;rw[if_neg (by omega),hi,Int.toNat_natCast])
 generalize (2^(i%64).toNat:Nat)=mk at*
 generalize xs.getD q 0=x at*
 generalize setW x (i%64).toNat true=y at*
 clear hcg hfg ho hb hi
 go_enter Tryz.func311,Tryz.ntmps311
 go_wp2
 go_end0
 exact⟨rfl,by rw[←unhide HE];exact unhide R,unhide RG _⟩
theorem Zo8{cap:Nat}{xs ys:List Nat}{k:Nat}(hx:smalls xs)(hk:k<xs.length)(ho:Own wr B (.slice (some ⟨g,0,none⟩) xs.length cap) (Zdu xs ys k)):
  Own (wr.setCell ⟨g,k,none⟩ (.int .u64 ((anW (xs.getD k 0) (ys.getD k 0):Nat):Int))) B (.slice (some ⟨g,0,none⟩) xs.length cap) (Zdu xs ys (k+1)):=by
 have hl:=Zar xs ys k
 rw[←hl]at ho
 have:=ho.stored k (anW (xs.getD k 0) (ys.getD k 0)) (ZxN _ _ (hx.get k))
 rw[ZlG xs ys k hk,hl]at this
 exact this
theorem Zu6(B:Nat)(a:Option Addr)(c:Nat)(xs:List Nat)(a':Option Addr)(m c':Nat)(ys:List Nat)(w:World)(ho:Own w B (.slice a xs.length c) xs)(h':RowAt w a' m ys)
  (hap:m=0∨∀ad,a'=some ad→some ad.block≠(Value.slice a xs.length c).ownBlock) (hn:xs.length≤1048576) (hm:m≤1048576):
  Calls Tryz.prog 309 #[.slice a xs.length c,.slice a' m c'] w fun e w'=>e=.returned (.tuple #[])∧Own w' B (.slice a xs.length c) (dropL xs ys)∧w.grownBy w' (Value.slice a xs.length c).ownBlock:=by
 obtain rfl:m=ys.length:=h'.1.symm
 have hmin:=fun wx ts t=>Zex xs.length ys.length ts t wx
 obtain⟨mn,hmn⟩:∃mn,mn=min xs.length ys.length:=⟨_,rfl⟩
 rw[←hmn]at hmin
 have hml:mn≤xs.length∧mn≤ys.length:=by omega
 have HME:=hide hmn
 clear hmn
 go_enter Tryz.func309,Tryz.ntmps309
 go_wp2
 go_loopw [10] (fun i wr=> ∃k:Nat,k≤mn∧i=.int .i64 k∧Hid (Own wr B (.slice a xs.length c) (Zdu xs ys k))∧Hid (w.grownBy wr (Value.slice a xs.length c).ownBlock)) (fun i _=>mn-(intOf i).toNat)
 case atStart=>exact⟨0,Nat.zero_le _,rfl,hide (by rw[Zme];exact ho),hide (Zdw _ _)⟩
 case round=>
  obtain⟨k,hk,rfl,HO,HB⟩:=hrel
  by_cases hlt:k<mn
  ·obtain⟨b',off',rfl,hc'⟩:=(h'.kept (unhide HB) hap).at (i:=k) (by omega)
   have hkn:k<xs.length:=by omega
   have hky:(k:Int)<(ys.length:Int):=by omega
   have hkx:(k:Int)<(xs.length:Int):=by omega
   obtain⟨g,cap,he,hBg,hgs,hcg,hfg⟩:=(unhide HO).at (by rw[Zar];omega)
   rw[Zar]at he
   simp only[Value.slice.injEq,true_and]at he
   obtain⟨rfl,rfl⟩:=he
   have hcell':=hc' k (by omega)
   have hcell:=hcg k (by rw[Zar];omega)
   have hfz:=hfg k
   rw[Zcn xs ys k k (by omega),if_neg (by omega)]at hcell
   have hxo:=Zzz (xs.getD k 0) (ys.getD k 0) (ho.1.get k) (h'.2.1.get k)
   have R:=hide (Zo8 ho.1 hkn (unhide HO))
   have RG:=hide (fun u=>gb_trans (unhide HB) (Zad _ g k u) (.inl rfl))
   generalize anW (xs.getD k 0) (ys.getD k 0)=z at*
   generalize xs.getD k 0=x at*
   generalize ys.getD k 0=y at*
   clear hc' hcg hfg h' HO ho hap
   have hlt':(k:Int)<(mn:Int):=by omega
   go_wp2
   go_region
   all_goals go_wp2
   all_goals go_roundw
   all_goals first|exact⟨k+1,by omega,by go_num,hide (unhide R).drew,hide (Zl8 (unhide RG _))⟩|(simp[intOf];omega)
  ·have hke:k=mn:=by omega
   subst hke
   rw[Zpm xs ys _ (by have:=unhide HME;omega)]at HO
   clear h' hap ho
   go_wp2
   go_end0
   exact⟨rfl,unhide HO,unhide HB⟩
theorem Zdx:(Tryz.prog.info? 57).map (fun i=>(i.zero,i.size,i.bytes))=some (some (.agg #[.slice none 0 0,.string ⟨#[]⟩]),2,40):=by kernel_rfl
def cellsR:List RV→List Value
 |[]=>[]
 |r::rs=>.slice r.a r.n r.c::.string r.s::cellsR rs
theorem Zcf:∀rs:List RV,(cellsR rs).length=rs.length*2
 |[]=>rfl
 |r::rs=>by simp[cellsR,Zcf rs];omega
theorem ZbH:∀(a b:List RV),cellsR (a++b)=cellsR a++cellsR b
 |[],b=>rfl
 |r::a,b=>by simp[cellsR,ZbH a b]
theorem Zbv:∀(rs:List RV) (i:Nat),i<rs.length→(cellsR rs)[i*2]? =some (.slice (rs.getD i .dflt).a (rs.getD i .dflt).n (rs.getD i .dflt).c)∧(cellsR rs)[i*2+1]? =some (.string (rs.getD i .dflt).s)
 |[],i,h=>by simp at h
 |r::rs,0,_=>by simp[cellsR]
 |r::rs,i+1,h=>by
  have:=Zbv rs i (by simpa using h)
  rw[show(i+1)*2=i*2+1+1 by omega]
  simpa [cellsR]using this
theorem Zij:∀(rs:List RV),∀u∈cellsR rs,u.oneCell'=true
 |[],u,h=>by cases h
 |r::rs,u,h=>by
  rcases List.mem_cons.1 h with rfl|h
  ·rfl
  ·rcases List.mem_cons.1 h with rfl|h
   ·rfl
   ·exact Zij rs u h
def OwnS(w:World)(B:Nat)(v:Value)(rs:List RV):Prop:=w.ownsRow B 57 2 v rs.length (cellsR rs)
theorem OwnS.nil(w:World)(B:Nat):OwnS w B (.slice none 0 0) []:=World.ownsRow_nil _ _ _ _
theorem OwnS.cellAt(h:OwnS w B (.slice (some ⟨g,0,none⟩) n c) rs){j:Nat}{u:Value}(hu:(cellsR rs)[j]? =some u):w.cell? ⟨g,j,none⟩=some u:=by
 have:=World.ownsRow.cells h (g:=g) rfl j u hu
 rwa[show(⟨g,0,none⟩:Addr).add j=⟨g,j,none⟩ by unfold Addr.add;split<;>simp_all]at this
theorem OwnS.rows(h:OwnS w B v rs)(hr:RowsIn w rs):∃a c,v=.slice a rs.length c∧RowsAt w a rs.length rs∧rs.length≤c∧c≤9223372036854775807:=by
 have h':=h
 rcases h.2 with⟨rfl,h0⟩|⟨g,cap,cur,rfl,hb,hg,hn,hm,hsz,ht⟩
 ·exact⟨none,0,by rw[h0],⟨rfl,fun i hi=>by omega,.inl h0⟩,by omega,by omega⟩
 ·refine⟨_,cap,rfl,⟨rfl,fun i hi=>(hr.get hi).1,.inr ⟨g,0,rfl,fun i hi=>?_⟩⟩,hn,by simpa [maxLen]using hm⟩
  rw[Nat.zero_add]
  exact⟨h'.cellAt (Zbv rs i hi).1,h'.cellAt (Zbv rs i hi).2⟩
theorem OwnS.mono{B':Nat}(h:OwnS w B v rs)(hB:B'≤B):OwnS w B' v rs:=by
 refine⟨h.1,?_⟩
 rcases h.2 with h0|⟨g,cap,cur,h1,hb,r⟩
 ·exact .inl h0
 ·exact .inr ⟨g,cap,cur,h1,Nat.le_trans hB hb,r⟩
theorem OwnS.below(h:OwnS w B v rs)(hb:Below w.heap.size w w'):OwnS w' B v rs:=by
 refine⟨h.1,?_⟩
 rcases h.2 with h0|⟨g,cap,cur,h1,hg,hgg,r⟩
 ·exact .inl h0
 ·exact .inr ⟨g,cap,cur,h1,hg,(hb.block g (Array.getElem?_eq_some_iff.1 hgg).1).trans hgg,r⟩
theorem Zf1 {w : World} {ops : Array Oper} {rest : List Oper} {o : Oper} {act : Act} {Q : Exit → Act → World → Prop} (hgd : o.guard = none) (s x : Operand)
    (ho : o.op = .call { callee := .builtin .append, args := #[s, x], argTypes := #[60, 60] }) (B : Nat) (v : Value) (rs : List RV) (r : RV)
    (hs : act.eval s = v) (hx : act.eval x = .slice (some ⟨w.heap.size, 0, none⟩) 1 1) (h : OwnS w B v rs) (hB : B ≤ w.heap.size) (hn : rs.length ≤ 1048576)
    (hK : ∀ s' w', OwnS w' B s' (rs ++ [r]) → w.grownBy w' v.ownBlock → Below B w w' → wpList Tryz.prog ops Q rest (act.put o.dst s') w') : wpList Tryz.prog ops Q (o :: rest) act (w.alloc (.cells #[.slice r.a r.n r.c, .string r.s] 57)) := by
  obtain ⟨i0, hi, hz0, hz1, hz2⟩ := info_parts Zdx
  have hb : Below w.heap.size w (w.alloc (.cells #[.slice r.a r.n r.c, .string r.s] 57)) := (Below.refl _ _).alloc (Nat.le_refl _) _
  have h1 : (w.alloc (.cells #[.slice r.a r.n r.c, .string r.s] 57)).ownsRow B 57 2 v rs.length (cellsR rs) := h.below hb
  refine wpList_append_own _ hgd s x 60 ho B 57 i0 (.agg #[.slice none 0 0, .string ⟨#[]⟩]) 2 40 Tryz.underlying60 hi hz0 hz1 hz2 rfl (by decide) v rs.length (cellsR rs) hs h1 ⟨w.heap.size, 0, none⟩ 1 1 [.slice r.a r.n r.c, .string r.s] hx rfl (fun j u hj => ?_)
    (fun u hu => by rcases List.mem_cons.1 hu with rfl | hu; · rfl
                    · rw [List.mem_singleton.1 hu]; rfl) (by unfold maxLen; omega) (by omega) (Nat.le_trans hB hb.size) ?_
  · have e : (⟨w.heap.size, 0, none⟩ : Addr).add j = ⟨w.heap.size, j, none⟩ := by unfold Addr.add; split <;> simp_all
    rw [e, World.cell?_alloc_at _ _ _ _ rfl]
    match j with
    | 0 => simpa using hj
    | 1 => simpa using hj
    | j + 2 => simp at hj
  · intro v' w' hown hgrow _
    refine hK v' w' ?_ (gb_trans (Zai hb _) hgrow (.inl rfl)) ((hb.mono hB).grown hgrow (Nat.le_trans hB hb.size) fun k hk => (h1.lt k hk).1)
    rw [show cellsR rs ++ [.slice r.a r.n r.c, .string r.s] = cellsR (rs ++ [r]) by rw [ZbH]; rfl] at hown
    show w'.ownsRow B 57 2 v' (rs ++ [r]).length (cellsR (rs ++ [r]))
    rw [List.length_append]
    exact hown
def vecL(rs:List RV):List Nat:=rs.foldl (fun a r=>xorL a r.xs) []
theorem ZkI(rs:List RV):∀a,rs.foldl (fun a r=>xorL a r.xs) a=xorL a (vecL rs):=by
 induction rs with
 |nil=>intro a;exact(ZgE a).symm
 |cons r rs ih=>
  intro a
  show rs.foldl _ (xorL a r.xs)=xorL a (rs.foldl _ (xorL [] r.xs))
  rw[ih,ih (xorL [] r.xs),Zjm,Zo1]
theorem Zkh(r:RV)(rs:List RV):vecL (r::rs)=xorL r.xs (vecL rs):=by
 show rs.foldl _ (xorL [] r.xs)=_
 rw[ZkI,Zjm]
theorem Zmh(ps bs:List RV):vecL (ps++bs)=xorL (vecL ps) (vecL bs):=by
 unfold vecL
 rw[List.foldl_append]
 exact ZkI bs _
theorem Zi7(rs:List RV)(h:∀r∈rs,r.xs.length≤10):(vecL rs).length≤10:=by
 induction rs with
 |nil=>simp[vecL]
 |cons r rs ih=>
  rw[Zkh,Zae]
  have h1:=h r List.mem_cons_self
  have h2:=ih (fun r hr=>h r (List.mem_cons_of_mem _ hr))
  omega
theorem Zf0(rs:List RV)(q i:Nat)(h:i<q):(rs.take q).getD i .dflt=rs.getD i .dflt:=by
 simp[List.getD_eq_getElem?_getD,h]
theorem Zgg(rs:List RV)(q i:Nat):(rs.drop q).getD i .dflt=rs.getD (q+i) .dflt:=by
 simp[List.getD_eq_getElem?_getD,List.getElem?_drop]
theorem RowsAt.take(h:RowsAt w a n rs)(q:Nat)(hq:q≤n):RowsAt w a q (rs.take q):=by
 refine⟨by rw[List.length_take,h.1];omega,fun i hi=>by rw[Zf0 rs q i hi];exact h.2.1 i (by omega),?_⟩
 rcases h.2.2 with h0|⟨b,off,rfl,hc⟩
 ·exact .inl (by omega)
 ·exact .inr ⟨b,off,rfl,fun i hi=>by rw[Zf0 rs q i hi];exact hc i (by omega)⟩
theorem RowsAt.drop{b off:Nat}(h:RowsAt w (some ⟨b,off,none⟩) n rs)(q:Nat)(hq:q≤n):RowsAt w (some ⟨b,off+q*2,none⟩) (n-q) (rs.drop q):=by
 refine⟨by rw[List.length_drop,h.1],fun i hi=>by rw[Zgg];exact h.2.1 _ (by omega),?_⟩
 rcases h.2.2 with h0|⟨b',off',he,hc⟩
 ·exact .inl (by omega)
 ·simp only[Option.some.injEq,Addr.mk.injEq,and_true]at he
  obtain⟨rfl,rfl⟩:=he
  refine .inr ⟨b,_,rfl,fun i hi=>?_⟩
  rw[Zgg,show off+q*2+i*2=off+(q+i)*2 from by omega]
  exact hc (q+i) (by omega)
theorem Znx:(Tryz.prog.info? 57).map (fun i=>(i.size,i.bytes))=some (2,40):=by kernel_rfl
theorem ZjH(w:World):(sizeOf 57).run Tryz.prog w=.ok 2 w:=by
 cases h:Tryz.prog.info? 57 with
 |none=>have:=Znx;rw[h]at this;cases this
 |some i=>
  have:=Znx
  rw[h]at this
  simp only[Option.map_some,Option.some.injEq,Prod.mk.injEq]at this
  simp[sizeOf,typeInfo,h,this.1]
theorem ZcV:Tryz.prog.underlying 60=some (.slice (Tryz.prog.elem 60)):=by kernel_rfl
theorem Zfz:Tryz.prog.elem 60=57:=by kernel_rfl
theorem Zwc(b off n c q:Nat)(hq:q≤n)(hc:q<c)(w:World):
  (Instr.sliceAt 60 (.slice (some ⟨b,off,none⟩) n c) (some (.int .i64 (q:Int))) none none).run Tryz.prog w=.ok (.slice (some ⟨b,off+q*2,none⟩) (n-q) (c-q)) w:=by
 rw[run_sliceAt_slice _ _ _ _ _ _ ZcV,run_slice_l _ _ _ _ _ ZcV _ _ (by omega) (by omega),Zfz,ZjH]
 have e:¬c=q:=by omega
 simp[Result.andThen,sliced,e,Addr.add]
theorem Znr(b off n c q:Nat)(hc:q≤c)(w:World):
  (Instr.sliceAt 60 (.slice (some ⟨b,off,none⟩) n c) none (some (.int .i64 (q:Int))) none).run Tryz.prog w=.ok (.slice (some ⟨b,off,none⟩) q c) w:=by
 rw[run_sliceAt_slice _ _ _ _ _ _ ZcV,run_slice_h _ _ _ _ _ ZcV _ _ (by omega) (by omega),Zfz,ZjH]
 simp[Result.andThen,sliced,Addr.add]
theorem Zw1(N:Nat):∀(a:Option Addr) (n c:Nat) (rs:List RV) (w:World),n≤N→RowsAt w a n rs→(∀r∈rs,r.xs.length≤10)→n≤1048576→n≤c→c≤9223372036854775807→
  Calls Tryz.prog 324 #[.slice a n c] w fun e w'=> ∃v,e=.returned v∧Own w' w.heap.size v (vecL rs)∧Below w.heap.size w w':=by
 induction N with
 |zero=>
  intro a n c rs w hN h hs hn hc hcc
  obtain rfl:n=0:=by omega
  obtain rfl:rs=[]:=List.eq_nil_of_length_eq_zero h.1
  go_enter Tryz.func324,Tryz.ntmps324
  go_wp2
  go_ret
  exact⟨_,rfl,Own.nil _ _,Below.refl _ _⟩
 |succ N ih=>
  intro a n c rs w hN h hs hn hc hcc
  by_cases h0:n=0
  ·subst h0
   obtain rfl:rs=[]:=List.eq_nil_of_length_eq_zero h.1
   go_enter Tryz.func324,Tryz.ntmps324
   go_wp2
   go_ret
   exact⟨_,rfl,Own.nil _ _,Below.refl _ _⟩
  by_cases h1:n=1
  ·subst h1
   obtain⟨r,rfl⟩:∃r,rs=[r]:=by
    match rs,h.1 with
    |[r],_=>exact⟨r,rfl⟩
   have hr:=h.2.1 0 (by omega)
   obtain⟨b,off,rfl,hcl⟩:=h.at (i:=0) (by omega)
   obtain⟨hc0,_⟩:=hcl 0 (by omega)
   have hl:=hs r List.mem_cons_self
   have hv:=hide (show xorL r.xs []=vecL [r] from by rw[Zkh];rfl)
   simp only[List.getD_cons_zero,Nat.zero_mul,Nat.add_zero]at hr hc0
   have hrn:r.n≤10:=by rw[←hr.1];exact hl
   have HR:=hide hr
   clear h hcl hs hr ih
   go_enter Tryz.func324,Tryz.ntmps324
   go_wp2_with fail
   refine(ZeC r.a r.n r.c r.xs none 0 0 [] _ (unhide HR) (ZbT _) (by omega) (by omega)).mono ?_
   rintro e w1 ⟨v,rfl,ho,hb⟩
   rw[unhide hv]at ho
   have HO:=hide ho
   have HB:=hide hb
   clear ho hb
   go_wp2
   go_ret
   exact⟨_,rfl,unhide HO,unhide HB⟩
  have e0:((n:Int)==0)=false:=by simp;omega
  have e1:((n:Int)==1)=false:=by simp;omega
  obtain⟨q,hq⟩:∃q,n/2=q:=⟨_,rfl⟩
  have hqi:(n:Int)/2=(q:Int):=by omega
  have hqt:IntKind.i64.wrap ((n:Int).tdiv 2)=(q:Int):=by rw[Int.tdiv_eq_ediv_of_nonneg (by omega),hqi,IntKind.wrap_i64];omega
  have hq1:q≤N:=by omega
  have hq2:n-q≤N:=by omega
  have hqn:q≤n:=by omega
  have hqc:(q:Int)≤(c:Int):=by omega
  obtain⟨b,off,rfl,hcl⟩:=h.at (i:=0) (by omega)
  have hb0:=(Below.refl w.heap.size w).drew
  have HT:=hide ((h.take q hqn).below hb0)
  have HD:=hide ((h.drop q hqn).below hb0)
  have HB0:=hide hb0
  have hqcn:q≤c:=by omega
  have hs1:=Znr b off n c q hqcn
  have hs2:=Zwc b off n c q hqn (by omega)
  have hq3:q≤1048576:=by omega
  have hq4:n-q≤1048576:=by omega
  have hq5:n-q≤c-q:=by omega
  have hq6:c-q≤9223372036854775807:=by omega
  have hst:Hid (∀r∈rs.take q,r.xs.length≤10):=hide (fun r hr=>hs r (List.mem_of_mem_take hr))
  have hsd:Hid (∀r∈rs.drop q,r.xs.length≤10):=hide (fun r hr=>hs r (List.mem_of_mem_drop hr))
  have HV:=hide (show xorL (vecL (rs.take q)) (vecL (rs.drop q))=vecL rs from by rw[←Zmh,List.take_append_drop])
  have HL1:Hid ((vecL (rs.take q)).length≤1048576):=hide (by have:=Zi7 _ (unhide hst);omega)
  have HL2:Hid ((vecL (rs.drop q)).length≤1048576):=hide (by have:=Zi7 _ (unhide hsd);omega)
  have KA:=hide (ih (some ⟨b,off,none⟩) q c (rs.take q) w.drew hq1 (unhide HT) (unhide hst) hq3 hqcn hcc)
  have KB:Hid (∀w1,Below w.drew.heap.size w.drew w1→Calls Tryz.prog 324 #[.slice (some ⟨b,off+q*2,none⟩) (n-q) (c-q)] w1 fun e w'=> ∃v,e=.returned v∧Own w' w1.heap.size v (vecL (rs.drop q))∧Below w1.heap.size w1 w'):=
   hide (fun w1 hb=>ih (some ⟨b,off+q*2,none⟩) (n-q) (c-q) (rs.drop q) w1 hq2 ((unhide HD).below hb) (unhide hsd) hq4 hq5 hq6)
  clear h hcl hs ih hq hqc hb0 HT HD hst hsd hq3 hq4 hq5 hq6 hq1 hq2
  go_enter Tryz.func324,Tryz.ntmps324
  go_wp2_with fail
  refine wp_region_any (by kernel_rfl) ?_
  change wpAny _ _ _ _ _ _ _ (World.drew _)
  refine wpAny_take (i:=0) (v:=?_) rfl (by kernel_rfl) (by kernel_rfl) (by kernel_rfl) (fun _ _ _ h=>h) (Or.inl ⟨by rfl,?f0⟩) ?_
  case f0=>(intro w;go_simp;try with_reducible rfl)
  refine wpAny_take (i:=1) (v:=?_) rfl (by kernel_rfl) (by kernel_rfl) (by kernel_rfl) (fun _ _ _ h=>h) (Or.inl ⟨by rfl,?f1⟩) ?_
  case f1=>(intro w;go_simp;try with_reducible rfl)
  refine wpAny_take (i:=2) (v:=?_) rfl (by kernel_rfl) (by kernel_rfl) (by kernel_rfl) (fun _ _ _ h=>h) (Or.inl ⟨by rfl,?f2⟩) ?_
  case f2=>(intro w;go_simp;try with_reducible rfl)
  refine wpAny_take (i:=4) (v:=?_) rfl (by kernel_rfl) (by kernel_rfl) (by kernel_rfl) (fun _ _ _ h=>h) (Or.inl ⟨by rfl,?f4⟩) ?_
  case f4=>(intro w;go_simp;try with_reducible rfl)
  refine wpAny_take (i:=5) (v:=?_) rfl (by kernel_rfl) (by kernel_rfl) (by kernel_rfl) (fun _ _ _ h=>h) (Or.inl ⟨by rfl,?f5⟩) ?_
  case f5=>(intro w;go_simp;try with_reducible rfl)
  refine wpAny_take (i:=6) (v:=?_) rfl (by kernel_rfl) (by kernel_rfl) (by kernel_rfl) (fun _ _ _ h=>h) (Or.inl ⟨by rfl,?f6⟩) ?_
  case f6=>(intro w;go_simp;try with_reducible rfl)
  refine wpAny_ready (rs:=[3]) (by kernel_rfl) (by simp) ?_
  refine AllReady.cons rfl (fun K hK=>?_) AllReady.nil
  go_simp
  refine(unhide KA).mono ?_
  rintro e w1 ⟨v1,rfl,ho1,hb1⟩
  obtain⟨a1,c1,rfl,hr1⟩:=ho1.row
  have HR1:=hide hr1
  have HB1:=hide hb1
  clear ho1 hr1 hb1 KA
  refine hK _ _ ?_
  clear hK K
  refine wpAny_ready (rs:=[7]) (by kernel_rfl) (by simp) ?_
  refine AllReady.cons rfl (fun K hK=>?_) AllReady.nil
  go_simp
  refine(unhide KB _ (unhide HB1)).mono ?_
  rintro e w2 ⟨v2,rfl,ho2,hb2⟩
  obtain⟨a2,c2,rfl,hr2⟩:=ho2.row
  have HR2:=hide hr2
  have HR12:=hide ((unhide HR1).below hb2)
  have HB2:=hide (below0 (below0 (unhide HB0) (unhide HB1)) hb2)
  clear ho2 hr2 hb2 HB1 HR1 KB
  refine hK _ _ ?_
  clear hK K
  refine wpAny_ready (rs:=[8]) (by kernel_rfl) (by simp) ?_
  refine AllReady.cons rfl (fun K hK=>?_) AllReady.nil
  go_simp
  refine(ZeC _ _ _ _ _ _ _ _ _ (unhide HR12) (unhide HR2) (unhide HL1) (unhide HL2)).mono ?_
  rintro e w3 ⟨v3,rfl,ho3,hb3⟩
  rw[unhide HV]at ho3
  have HO3:=hide (ho3.mono (unhide HB2).size)
  have HB3:=hide (below0 (unhide HB2) hb3)
  obtain⟨a3,c3,rfl,hr3⟩:=ho3.row
  clear ho3 hb3 hr3 HR2 HR12 HB2 HV HL1 HL2
  refine hK _ _ ?_
  clear hK K
  refine wpAny_take (i:=9) (v:=?_) rfl (by kernel_rfl) (by kernel_rfl) (by kernel_rfl) (fun _ _ _ h=>h) (Or.inl ⟨by rfl,?f9⟩) ?_
  case f9=>(intro w;go_simp;try with_reducible rfl)
  refine wpAny_done (by kernel_rfl) ?_ _
  go_wp2
  go_ret
  exact⟨_,rfl,unhide HO3,unhide HB3⟩
def core(r:RV):List Nat×ByteArray:=(r.xs,r.s)
def Tys(w:World)(B:Nat)(ts:List RV):Prop:=∀r∈ts,r.n=0∨∃b off,r.a=some ⟨b,off,none⟩∧(b<B∨∃cur m,w.heap[b]? =some (.cells cur 69 m))
theorem Tys.nil(w:World)(B:Nat):Tys w B []:=fun r hr=>by cases hr
theorem Tys.below(h:Tys w B ts)(hb:Below w.heap.size w w'):Tys w' B ts:=fun r hr=>by
 rcases h r hr with h0|⟨b,off,e,h1|⟨cur,m,hc⟩⟩
 ·exact .inl h0
 ·exact .inr ⟨b,off,e,.inl h1⟩
 ·exact .inr ⟨b,off,e,.inr ⟨cur,m,(hb.block b (Array.getElem?_eq_some_iff.1 hc).1).trans hc⟩⟩
theorem Tys.append{us:List RV}(h:Tys w B ts)(k:Tys w B us):Tys w B (ts++us):=fun r hr=>(List.mem_append.1 hr).elim (h r) (k r)
theorem OwnS.lt'(h:OwnS w B v rs){k:Nat}(hk:v.ownBlock=some k):B≤k∧k<w.heap.size:=World.ownsRow.lt h k hk
theorem OwnS.blk(h:OwnS w B v rs)(hk:v.ownBlock=some g):∃cur,w.heap[g]? =some (.cells cur 57 (0,0)):=by
 rcases h.2 with⟨rfl,_⟩|⟨g',cap,cur,rfl,_,hg,_⟩
 ·cases hk
 ·simp only[Value.ownBlock,Option.some.injEq]at hk
  exact⟨cur,by rw[←hk];exact hg⟩
theorem ZxV{b:Nat}(ho:OwnS w B v rs)(h:b<B∨∃cur m,w.heap[b]? =some (.cells cur 69 m)):some b≠v.ownBlock:=fun e=>by
 obtain⟨cur,hc⟩:=ho.blk e.symm
 rcases h with h|⟨cur2,m,h⟩
 ·have:=(ho.lt' e.symm).1;omega
 ·rw[hc]at h
  simp only[Option.some.injEq,Obj.cells.injEq]at h
  exact absurd h.2.1 (by decide)
theorem Tys.pushed(h:Tys w B ts)(ho:OwnS w B v rs)(hg:w.grownBy w' v.ownBlock):Tys w' B ts:=fun r hr=>by
 rcases h r hr with h0|⟨b,off,e,h1⟩
 ·exact .inl h0
 ·have hne:=ZxV ho h1
  rcases h1 with h1|⟨cur,m,hc⟩
  ·exact .inr ⟨b,off,e,.inl h1⟩
  ·exact .inr ⟨b,off,e,.inr ⟨cur,m,(hg.block b (Array.getElem?_eq_some_iff.1 hc).1 hne).trans hc⟩⟩
theorem RowsIn.pushed(h:RowsIn w ts)(ht:Tys w B ts)(ho:OwnS w B v rs)(hg:w.grownBy w' v.ownBlock):RowsIn w' ts:=fun r hr=>⟨by
 refine(h r hr).1.kept hg ?_
 rcases ht r hr with h0|⟨b,off,e,h1⟩
 ·exact .inl h0
 ·refine .inr fun ad e2=>?_
  rw[e]at e2
  simp only[Option.some.injEq]at e2
  subst e2
  exact ZxV ho h1,(h r hr).2⟩
theorem Tys.own{B':Nat}{xs:List Nat}{s:ByteArray}(h:Own w B' (.slice a n c) xs):Tys w B [⟨a,n,c,xs,s⟩]:=fun r hr=>by
 rw[List.mem_singleton.1 hr]
 rcases h.2.2 with⟨e,h0⟩|⟨g,cap,cur,e,_,hg,_⟩
 ·simp only[Value.slice.injEq]at e
  exact .inl e.2.1
 ·simp only[Value.slice.injEq]at e
  exact .inr ⟨g,0,e.1,.inr ⟨cur,_,hg⟩⟩
def GaS(w wr:World)(a1:Option Addr)(m1 c1:Nat)(L:List (List Nat×ByteArray))(ts:List RV):Prop:=
 OwnS wr w.heap.size (.slice a1 m1 c1) ts∧RowsIn wr ts∧Tys wr w.heap.size ts∧ts.map core=L∧Below w.heap.size w wr
theorem GaS.nil(w:World):GaS w w none 0 0 [] []:=⟨OwnS.nil _ _,RowsIn.nil _,Tys.nil _ _,rfl,Below.refl _ _⟩
theorem GaS.below{w1:World}{a1:Option Addr}{m1 c1:Nat}(h:GaS w wr a1 m1 c1 L ts)(hb:Below wr.heap.size wr w1):GaS w w1 a1 m1 c1 L ts:=⟨h.1.below hb,h.2.1.below hb,h.2.2.1.below hb,h.2.2.2.1,below0 h.2.2.2.2 hb⟩
theorem GaS.push{w1:World}{a1:Option Addr}{m1 c1:Nat}{r:RV}{v2:Value}(h:GaS w wr a1 m1 c1 L ts)(hr:RowsIn wr [r])(ht:Tys wr w.heap.size [r])(ho:OwnS w1 w.heap.size v2 (ts++[r]))(hg:wr.grownBy w1 (Value.slice a1 m1 c1).ownBlock)(hb:Below w.heap.size wr w1):
  ∃a2 m2 c2,v2=.slice a2 m2 c2∧GaS w w1 a2 m2 c2 (L++[core r]) (ts++[r]):=by
 obtain⟨h1,h2,h3,h4,h5⟩:=h
 have hR:=(h2.append hr).pushed (h3.append ht) h1 hg
 obtain⟨a2,c2,e,_⟩:=ho.rows hR
 exact⟨a2,_,c2,e,by rw[←e];exact ho,hR,(h3.append ht).pushed h1 hg,by rw[List.map_append,h4];rfl,h5.trans hb⟩
theorem Zpr(ks:List RV)(k:Nat)(hk:k<ks.length):ks.take k++[ks.getD k .dflt]=ks.take (k+1):=by
 rw[List.take_succ_eq_append_getElem hk]
 simp[List.getD_eq_getElem?_getD,List.getElem?_eq_getElem hk]
theorem OwnS.shape(h:OwnS w B v rs):∃a c,v=.slice a rs.length c:=by
 rcases h.2 with⟨rfl,h0⟩|⟨g,cap,cur,rfl,_⟩
 ·exact⟨none,0,by rw[h0]⟩
 ·exact⟨_,cap,rfl⟩
theorem OwnS.at'{m:Nat}(h:OwnS w B (.slice a m c) ts)(hr:RowsIn w ts):RowsAt w a m ts∧m=ts.length∧m≤c∧c≤9223372036854775807:=by
 obtain⟨a',c',e,h1,h2,h3⟩:=h.rows hr
 simp only[Value.slice.injEq]at e
 obtain⟨rfl,rfl,rfl⟩:=e
 exact⟨h1,rfl,h2,h3⟩
theorem Zia(hr:RowsIn w ts)(h:ts.map core=L)(hL:∀x∈L,x.1.length≤10∧x.2.size≤1000):shortR ts:=fun i=>by
 by_cases hi:i<ts.length
 ·have hm:core (ts.getD i .dflt)∈L:=by
   rw[←h,List.getD_eq_getElem?_getD,List.getElem?_eq_getElem hi]
   exact List.mem_map.2 ⟨_,List.getElem_mem hi,rfl⟩
  have:=hL _ hm
  have hl:=(hr.get hi).1.1
  exact⟨by rw[←hl];exact this.1,this.2⟩
 ·rw[List.getD_eq_getElem?_getD,List.getElem?_eq_none (by omega)]
  exact⟨Nat.zero_le _,Nat.zero_le _⟩
theorem Ze0:shortR []:=fun i=>⟨Nat.zero_le _,Nat.zero_le _⟩
def zR:RV:=⟨none,0,0,[],⟨#[]⟩⟩
def filR(us:List RV)(k:Nat):List RV:=us.take k++List.replicate (us.length-k) zR
theorem Zg1(us:List RV):filR us 0=List.replicate us.length zR:=by simp[filR]
theorem Zi9(us:List RV):filR us us.length=us:=by simp[filR]
theorem Zev(us:List RV)(k:Nat)(hk:k≤us.length):(filR us k).length=us.length:=by simp[filR];omega
theorem Zhj(us:List RV)(k:Nat)(hk:k<us.length):(filR us k).set k (us.getD k .dflt)=filR us (k+1):=by
 unfold filR
 have hl:(us.take k).length=k:=by simp;omega
 rw[List.set_append_right _ _ (by omega),hl,Nat.sub_self,List.take_succ_eq_append_getElem hk,List.append_assoc,show us.length-k=(us.length-(k+1))+1 by omega,List.replicate_succ,List.set_cons_zero]
 simp[List.getD_eq_getElem?_getD,List.getElem?_eq_getElem hk]
theorem ZiH:∀(rs:List RV) (k:Nat) (r:RV),((cellsR rs).set (k*2) (.slice r.a r.n r.c)).set (k*2+1) (.string r.s)=cellsR (rs.set k r)
 |[],k,r=>by simp[cellsR]
 |x::rs,0,r=>by simp[cellsR]
 |x::rs,k+1,r=>by
  rw[show(k+1)*2=k*2+1+1 by omega]
  simp only[cellsR,List.set_cons_succ]
  rw[ZiH rs k r]
theorem Zga:∀n:Nat,(madeCells #[.slice none 0 0,.string ⟨#[]⟩] (n*2)).toList=cellsR (List.replicate n zR)
 |0=>by simp[madeCells,cellsR]
 |n+1=>by
  rw[List.replicate_succ',ZbH,←Zga n]
  unfold madeCells
  rw[show(n+1)*2=n*2+1+1 by omega]
  simp only[Array.toList_map,Array.toList_range]
  rw[List.range_succ,List.range_succ]
  simp[cellsR,zR,Nat.mul_mod_left]
theorem Zoo(n:Nat)(hn:n≤1048576)(wx:World):(Instr.makeSlice 60 (.int .i64 (n:Int)) (.int .i64 (n:Int))).run Tryz.prog wx=.ok (.slice (some ⟨wx.heap.size,0,none⟩) n n) (wx.alloc (.cells (madeCells #[.slice none 0 0,.string ⟨#[]⟩] (n*2)) 57)):=by
 obtain⟨i0,hi0,hz0,hzs,hzb⟩:=info_parts Zdx
 have:=run_make (P:=Tryz.prog) wx 60 57 i0 (.agg #[.slice none 0 0,.string ⟨#[]⟩]) Tryz.underlying60 hi0 hz0 .i64 .i64 (n:Int) (n:Int) (by omega) (Int.le_refl _) (by rw[hzb];omega) (by omega)
 rw[hzs]at this
 simpa [Value.cells]using this
theorem Zm1(w:World)(n:Nat)(hn:n≤1048576)(rs:List RV)(hrs:rs=List.replicate n zR):OwnS (w.alloc (.cells (madeCells #[.slice none 0 0,.string ⟨#[]⟩] (n*2)) 57)) w.heap.size (.slice (some ⟨w.heap.size,0,none⟩) n n) rs:=by
 subst hrs
 refine⟨Zcf _,.inr ⟨w.heap.size,n,madeCells #[.slice none 0 0,.string ⟨#[]⟩] (n*2),by simp,Nat.le_refl _,heap_alloc_new w _,by simp,by unfold maxLen;omega,by simp[size_madeCells],?_⟩⟩
 rw[Zga,List.take_of_length_le (by rw[Zcf];exact Nat.le_refl _)]
theorem OwnS.stored{cap:Nat}(h:OwnS w B (.slice (some ⟨g,0,none⟩) n cap) rs)(k:Nat)(r:RV):
  OwnS ((w.setCell ⟨g,k*2,none⟩ (.slice r.a r.n r.c)).setCell ⟨g,k*2+1,none⟩ (.string r.s)) B (.slice (some ⟨g,0,none⟩) n cap) (rs.set k r):=by
 obtain rfl:n=rs.length:=by
  rcases h.2 with⟨e,_⟩|⟨g1,cap1,cur,e,_⟩
  ·cases e
  ·simp only[Value.slice.injEq]at e;exact e.2.1
 have ho:w.ownsRow B 57 2 (.slice (some ⟨g,0,none⟩) rs.length cap) rs.length (cellsR rs):=h
 have:=((ho.stored (k*2) (.slice r.a r.n r.c)).1.stored (k*2+1) (.string r.s)).1
 rw[ZiH]at this
 show World.ownsRow _ B 57 2 _ (rs.set k r).length _
 rw[List.length_set]
 exact this
theorem OwnS.keptB(h:OwnS w B v rs)(hg:w.grownBy w' (some g))(hB:g<B):OwnS w' B v rs:=by
 refine World.ownsRow.kept h hg (.inr fun e=>?_)
 have:=(World.ownsRow.lt h g e).1
 omega
theorem Zen{ops:Array Oper}{rest:List Oper}{o:Oper}{act:Act}{Q:Exit→Act→World→Prop}(hgd:o.guard=none)(s x:Operand)
  (ho:o.op=.call {callee:=.builtin .append,args:=#[s,x],argTypes:=#[60,60]}) (B B':Nat) (v v2:Value) (ts us:List RV)
  (hs:act.eval s=v) (hx:act.eval x=v2) (h:OwnS w B v ts) (hB:B≤w.heap.size) (h2:OwnS w B' v2 us) (hn:ts.length+us.length≤1048576)
  (hK:∀s' w',OwnS w' B s' (ts++us)→Below B w w'→wpList Tryz.prog ops Q rest (act.put o.dst s') w'):wpList Tryz.prog ops Q (o::rest) act w:=by
 obtain⟨i0,hi,hz0,hz1,hz2⟩:=info_parts Zdx
 have h2':=h2
 rcases h2.2 with⟨rfl,h0⟩|⟨g,cap,cur,rfl,hb,hg,hnc,hm,hsz,ht⟩
 ·have hus:us=[]:=List.eq_nil_of_length_eq_zero h0
  subst hus
  refine wpList_append_own_none hgd s x 60 ho B 57 i0 2 Tryz.underlying60 hi v ts.length (cellsR ts) hs h hx ?_
  exact hK v w (by rw[List.append_nil];exact h) (Below.refl _ _)
 ·refine wpList_append_own _ hgd s x 60 ho B 57 i0 (.agg #[.slice none 0 0,.string ⟨#[]⟩]) 2 40 Tryz.underlying60 hi hz0 hz1 hz2 rfl (by decide) v ts.length (cellsR ts) hs h ⟨g,0,none⟩ us.length cap (cellsR us) hx (Zcf us) (World.ownsRow.cells h2' (g:=g) rfl) (Zij us) (by unfold maxLen;omega) (by omega) hB ?_
  intro v' w' hown hgrow _
  refine hK v' w' ?_ ((Below.refl _ _).grown hgrow hB fun k hk=>(World.ownsRow.lt h k hk).1)
  show w'.ownsRow B 57 2 v' (ts++us).length (cellsR (ts++us))
  rw[List.length_append,ZbH]
  exact hown
end Go.Proofs.YtlhhinlghhjghaaGreatDoor
namespace Go.Proofs.YtlhhinlghhjghaaGreatDoor
set_option linter.unusedVariables false
set_option linter.unusedSimpArgs false
set_option maxRecDepth 4000
set_option maxHeartbeats 8000000
variable {l:List Int}{k d s:Nat}
def sumZ:List Int→Nat
 |[]=>0
 |x::r=>x.toNat+sumZ r
theorem Zeu:∀(a b:List Int),sumZ (a++b)=sumZ a+sumZ b
 |[],b=>by simp[sumZ]
 |x::a,b=>by simp only[List.cons_append,sumZ,Zeu a b];omega
theorem ZhN(l:List Int)(k:Nat)(hk:k<l.length):sumZ (l.take (k+1))=sumZ (l.take k)+(l.getD k 0).toNat:=by
 rw[List.take_succ_eq_append_getElem hk,Zeu]
 simp[sumZ,List.getD_eq_getElem?_getD,List.getElem?_eq_getElem hk]
theorem Zdp(l:List Int)(k:Nat):sumZ (l.take k)≤sumZ l:=by
 have h:=Zeu (l.take k) (l.drop k)
 rw[List.take_append_drop]at h
 omega
theorem Zsm(M:Nat):∀(l:List Int),(∀x∈l,x≤(M:Int))→sumZ l≤l.length*M
 |[],_=>by simp[sumZ]
 |x::r,h=>by
  have h1:=Zsm M r (fun y hy=>h y (by simp[hy]))
  have h2:=h x (by simp)
  simp only[sumZ,List.length_cons,Nat.add_mul,Nat.one_mul]
  omega
def Zfn:List Int→Nat→Nat→Nat
 |[],_,_=>0
 |y::r,j,x=>if x<y.toNat then j+1 else Zfn r (j+1) (x-y.toNat)
theorem Zek(l:List Int)(k:Nat)(hk:k<l.length):l.drop k=l.getD k 0::l.drop (k+1):=by
 rw[List.drop_eq_getElem_cons hk]
 simp[List.getD_eq_getElem?_getD,List.getElem?_eq_getElem hk]
theorem ZuG(l:List Int)(k x:Nat)(hk:k<l.length)(h:x<(l.getD k 0).toNat):Zfn (l.drop k) k x=k+1:=by
 rw[Zek l k hk,Zfn,if_pos h]
theorem Zxe(l:List Int)(k x:Nat)(hk:k<l.length)(h:¬x<(l.getD k 0).toNat):Zfn (l.drop k) k x=Zfn (l.drop (k+1)) (k+1) (x-(l.getD k 0).toNat):=by
 rw[Zek l k hk,Zfn,if_neg h]
theorem Ztx(l:List Int)(j x:Nat):Zfn (l.drop l.length) j x=0:=by simp[Zfn]
theorem Zm2:∀(l:List Int) (j x:Nat),x<sumZ l→j+1≤Zfn l j x∧Zfn l j x≤j+l.length
 |[],j,x,h=>by simp[sumZ]at h
 |y::r,j,x,h=>by
  simp only[sumZ]at h
  simp only[Zfn,List.length_cons]
  by_cases hx:x<y.toNat
  ·rw[if_pos hx];omega
  ·rw[if_neg hx]
   have:=Zm2 r (j+1) (x-y.toNat) (by omega)
   omega
def pickD(l:List Int)(draw:Nat):Nat:=if sumZ l=0 then 0 else Zfn l 0 (draw%sumZ l)
theorem Zpw(h:sumZ l=0)(draw:Nat):pickD l draw=0:=if_pos h
theorem Zh1(h:sumZ l≠0)(draw:Nat):pickD l draw=Zfn l 0 (draw%sumZ l):=if_neg h
theorem ZwG(h:sumZ l≠0)(draw:Nat):1≤pickD l draw∧pickD l draw≤l.length:=by
 rw[Zh1 h]
 have:=Zm2 l 0 (draw%sumZ l) (Nat.mod_lt _ (by omega))
 omega
def baseN(k d:Nat):Nat:=if d=1 then 1048576/k else 1048576/(d*(d-1))
def moreN(k s d:Nat):Nat:=if s=0 then 0 else if d<k/s then 1048576*s/(k*d)else if d=k/s then 1048576*s*bitLen s/k else 0
def Ze8(k s d:Nat):Nat:=max 1 (baseN k d+moreN k s d)
def tableL(k s:Nat):List Int:=(List.range k).map fun i=>((Ze8 k s (i+1):Nat):Int)
theorem Zt8(k:Nat):baseN k 1=1048576/k:=if_pos rfl
theorem Zqd(h:d≠1):baseN k d=1048576/(d*(d-1)):=if_neg h
theorem ZpG(k d:Nat):moreN k 0 d=0:=if_pos rfl
theorem Zqf(hs:s≠0)(h:d<k/s):moreN k s d=1048576*s/(k*d):=by rw[moreN,if_neg hs,if_pos h]
theorem Zo5(hs:s≠0)(h:d=k/s):moreN k s d=1048576*s*bitLen s/k:=by rw[moreN,if_neg hs,if_neg (by omega),if_pos h]
theorem ZpP(hs:s≠0)(h:k/s<d):moreN k s d=0:=by rw[moreN,if_neg hs,if_neg (by omega),if_neg (by omega)]
theorem Znc(k d:Nat):baseN k d≤1048576:=by
 unfold baseN
 split
 ·exact Nat.div_le_self _ _
 ·exact Nat.div_le_self _ _
theorem Znj(k s d:Nat)(hs:s≤128):moreN k s d≤1073741824:=by
 unfold moreN
 have hb:=bitLen_le8 s (by omega)
 have h1:1048576*s*bitLen s≤1048576*128*8:=Nat.mul_le_mul (Nat.mul_le_mul_left _ hs) hb
 have h2:=Nat.div_le_self (1048576*s*bitLen s) k
 have h3:=Nat.div_le_self (1048576*s) (k*d)
 split
 ·omega
 ·split
  ·omega
  ·split
   ·omega
   ·omega
theorem Zlp(k s d:Nat)(hs:s≤128):1≤Ze8 k s d∧Ze8 k s d≤1074790400:=by
 have h1:=Znc k d
 have h2:=Znj k s d hs
 unfold Ze8
 omega
theorem Zbo(k s:Nat):(tableL k s).length=k:=by simp[tableL]
theorem ZfI(k s i:Nat)(h:i<k):(tableL k s).getD i 0=((Ze8 k s (i+1):Nat):Int):=by
 simp[tableL,List.getD_eq_getElem?_getD,h]
theorem ZpH(k s:Nat)(hk:k≤128)(hs:s≤128):sumZ (tableL k s)≤137573171200:=by
 have:=Zsm 1074790400 (tableL k s) (fun x hx=>by
  obtain⟨i,_,rfl⟩:=List.mem_map.1 hx
  have:=(Zlp k s (i+1) hs).2
  omega)
 rw[Zbo]at this
 omega
theorem Zqh(k s:Nat)(hk:1≤k)(hs:s≤128):sumZ (tableL k s)≠0:=by
 have h1:=ZhN (tableL k s) 0 (by rw[Zbo];omega)
 have h2:=Zdp (tableL k s) (0+1)
 rw[ZfI k s 0 (by omega)]at h1
 have:=(Zlp k s (0+1) hs).1
 omega
end Go.Proofs.YtlhhinlghhjghaaGreatDoor
