/-
  Contracts of nums.join, Put, PutVec: for every int, rows of at most 2^20 words.
  Contracts of nums.GetVec and bucketlineref06.GetVec: for every text and every int.
  Which packets may be (CheckP); bools and errors' numbers that tell a proposition. No condition.
  Plain mathematics of packets: their bytes (encL), what bytes are read as (DecP): there and back, cut, with more behind. No condition.
  Plain mathematics of packets' bytes: what bytes are read as (DecP): there and back, cut, with more behind. No condition.
-/
import Derived.Test.YtlhhinlghhjghaaGreatDoorU14
import Derived.Test.YtlhhinlghhjghaaGreatDoorU3
import Derived.Test.YtlhhinlghhjghaaGreatDoorU2
namespace Go.Proofs.YtlhhinlghhjghaaGreatDoor
open Go.RowKit
set_option linter.unusedVariables false
set_option linter.unusedSimpArgs false
set_option maxRecDepth 4000
set_option maxHeartbeats 8000000
variable {k:Int}
theorem Zzh(x d:Nat):(x:Int)/2^(8*d)%256=((x/256^d%256:Nat):Int):=by
 rw[show(2:Int)^(8*d)=((256^d:Nat):Int) by rw[Int.pow_mul];simp]
 simp
theorem Znd(W:Nat)(hW0:0<W)(hW:W≤8)(a:Option Addr)(n c:Nat)(xs:List Nat)(w:World)(h:RowAt w a n xs)(hn:n≤1048576):
  Calls Tryz.prog 194 #[.int .i64 (W:Int),.slice a n c] w fun e w'=>e=.returned (.string (st (xs.flatMap (be W))))∧Below w.heap.size w w':=by
 obtain rfl:n=xs.length:=h.1.symm
 have hmul:(W:Int)*(xs.length:Int)=((W*xs.length:Nat):Int):=by simp
 have hm2:W*xs.length≤8388608:=Nat.le_trans (Nat.mul_le_mul hW hn) (by decide)
 have HG:=hide (ZkO w.heap.size w.heap.size (W*xs.length) (w.alloc (.cells #[.pointer none,.slice none 0 0] 317)) (Nat.le_refl _) (heap_alloc_new w _) (by simp) (by omega))
 have hb0:Below w.heap.size w (w.alloc (.cells #[.pointer none,.slice none 0 0] 317)):=(Below.refl _ _).alloc (Nat.le_refl _) _
 generalize W*xs.length=m at*
 go_enter Tryz.func194,Tryz.ntmps194
 go_wp2_with (go_at_call 214;refine(unhide HG).mono ?_;rintro e w1 ⟨rfl,hB1,hb1⟩)
 have hB:=hb0.trans hb1
 have HB0:=hide hB1
 have HBB:=hide hB
 clear hb0 hb1 hB1 hB HG hm2 hmul
 go_loopw [16] (fun i wr=> ∃k:Nat,k≤xs.length∧i=.int .i64 k∧Hid (Bld wr w.heap.size w.heap.size ((xs.take k).flatMap (be W)))∧Hid (Below w.heap.size w wr)) (fun i _=>xs.length-(intOf i).toNat)
 case atStart=>exact⟨0,Nat.zero_le _,rfl,hide (by simpa using unhide HB0),HBB⟩
 case round=>
  obtain⟨k,hk,rfl,HO,HB⟩:=hrel
  clear HB0 HBB
  by_cases hlt:k<xs.length
  ·obtain⟨b,off,rfl,hc⟩:=(h.below (unhide HB)).at hlt
   have hcell:=hc k hlt
   have hx:=h.2.1.get k
   have HT:=hide (Zwq W hlt)
   have hpl:((xs.take k).flatMap (be W)).length≤8388608:=by
    rw[ZiC,List.length_take]
    exact Nat.le_trans (Nat.mul_le_mul (show min k xs.length≤1048576 by omega) hW) (by decide)
   generalize xs.getD k 0=x at*
   generalize (xs.take k).flatMap (be W)=pre at*
   clear hc
   go_wp2
   go_loopw [21] (fun i wq=> ∃j:Nat,j≤W∧i=.int .i64 j∧Hid (Bld wq w.heap.size w.heap.size (pre++(be W x).take j))∧Hid (Below w.heap.size w wq)) (fun i _=>W-(intOf i).toNat)
   case atStart=>exact⟨0,Nat.zero_le _,rfl,hide (by simpa using unhide HO),HB⟩
   case round=>
    obtain⟨j,hj,rfl,HO,HB⟩:=hrel
    by_cases hjt:j<W
    ·have hby:=Zzh x (W-1-j)
     have HS:=hide (ZsF W x j hjt)
     have hy:x/256^(W-1-j)%256<256:=Nat.mod_lt _ (by decide)
     generalize x/256^(W-1-j)%256=y at*
     have hle:(pre++(be W x).take j).length≤1073741824:=by
      rw[List.length_append]
      have:=List.length_take_le j (be W x)
      omega
     have HC:=hide (Zsy w.heap.size w.heap.size _ y _ (unhide HO) hy hle (unhide HB).size)
     clear hle
     go_wp2_with (go_at_call 230;refine(unhide HC).mono ?_;rintro e w' ⟨rfl,hO',hB'⟩)
     rw[List.append_assoc,←unhide HS]at hO'
     go_roundw
     case rel=>exact⟨j+1,by omega,by go_num,hide hO',hide ((unhide HB).trans hB')⟩
     case measure=>simp[intOf];omega
    ·have hje:j=W:=by omega
     subst hje
     rw[List.take_of_length_le (by rw[Zan];exact Nat.le_refl _),←unhide HT]at HO
     go_wp2
     go_roundw
     case rel=>exact⟨k+1,by omega,by go_num,HO,HB⟩
     case measure=>simp[intOf];omega
  ·have hke:k=xs.length:=by omega
   subst hke
   rw[List.take_length]at HO
   have HC:=hide (Zou w.heap.size w.heap.size _ _ (unhide HO) (unhide HB).size)
   go_wp2_with (go_at_call 217;refine(unhide HC).mono ?_;rintro e w' ⟨rfl,hB'⟩)
   go_ret
   exact⟨rfl,(unhide HB).trans hB'⟩
def m64(n:Int):Nat:=(n%18446744073709551616).toNat
theorem ZAI(n:Int):m64 n<18446744073709551616:=by unfold m64;omega
theorem Zwf(n:Int):IntKind.u64.wrap n=((m64 n:Nat):Int):=by rw[IntKind.wrap_u64];unfold m64;omega
def Zbc(n k:Int):List Nat:=if k=1∨k=2∨k=4 then be k.toNat (m64 n)else []
theorem ZjA{n:Int}(h:isW k):Zbc n k=be k.toNat (m64 n):=if_pos h
theorem ZzE{n:Int}(h:¬isW k):Zbc n k=[]:=if_neg h
theorem Za9(n k:Int):bytes (Zbc n k):=by
 unfold Zbc
 split
 ·exact Zjb _ _
 ·exact ZcW
theorem ZAU:st []=⟨#[]⟩:=rfl
theorem ZcK(n k:Int)(w:World):
  Calls Tryz.prog 141 #[.int .i64 n,.int .i64 k] w fun e w'=>e=.returned (.string (st (Zbc n k)))∧Below w.heap.size w w':=by
 by_cases h:isW k
 ·rw[ZjA h]
  have HK:=hide (fun wx=>Zhl k h wx)
  obtain⟨W,rfl,hW⟩:=ZjT h
  have hwr:=Zwf n
  have hlt:=ZAI n
  rw[Int.toNat_natCast]
  generalize m64 n=m at*
  have HJ:=hide (Znd W (by omega) (by omega) _ 1 1 [m] _ (ZwB w m hlt) (by omega))
  clear h hW hlt
  go_enter Tryz.func141,Tryz.ntmps141
  go_wp2_with (first|(go_at_call 193;refine(unhide HK _).mono ?_;rintro e w' ⟨rfl,rfl⟩)|(go_at_call 194;refine(unhide HJ).mono ?_;rintro e w' ⟨rfl,hb⟩))
  go_ret
  exact⟨rfl,Ztv (Below.refl _ _) hb⟩
 ·rw[ZzE h,ZAU]
  have HK:=hide (fun wx=>ZmZ k h wx)
  clear h
  go_enter Tryz.func141,Tryz.ntmps141
  go_wp2_with (go_at_call 193;refine(unhide HK _).mono ?_;rintro e w' ⟨rfl,rfl⟩)
  go_ret
  exact⟨rfl,Below.refl _ _⟩
theorem Zpo(a:Option Addr)(n c:Nat)(xs:List Nat)(w:World)(h:RowAt w a n xs)(hn:n≤1048576):
  Calls Tryz.prog 182 #[.slice a n c] w fun e w'=>e=.returned (.string (st (beV xs)))∧Below w.heap.size w w':=by
 have HJ:=hide (Znd 8 (by omega) (by omega) a n c xs w h hn)
 clear h hn
 go_enter Tryz.func182,Tryz.ntmps182
 go_wp2_with (go_at_call 194;refine(unhide HJ).mono ?_;rintro e w' ⟨rfl,hb⟩)
 go_ret
 exact⟨rfl,hb⟩
def GotP(s:ByteArray)(k:Int)(xs:List Nat)(e:Nat):Prop:=
 (sizeOfK k=0∧e=1∧xs=[])∨(0<sizeOfK k∧s.size<8*sizeOfK k∧e=2∧xs=[])∨
 (0<sizeOfK k∧8*sizeOfK k≤s.size∧¬Za5 k (wsL (tx s) (sizeOfK k))∧e=3∧xs=[])∨(0<sizeOfK k∧8*sizeOfK k≤s.size∧Za5 k (wsL (tx s) (sizeOfK k))∧e=0∧xs=wsL (tx s) (sizeOfK k))
theorem Zvg{s:ByteArray}{xs:List Nat}{e:Nat}(h0:¬sizeOfK k=0)(h1:¬s.size<8*sizeOfK k):
  GotP s k xs e↔(¬Za5 k (wsL (tx s) (sizeOfK k))∧e=3∧xs=[])∨(Za5 k (wsL (tx s) (sizeOfK k))∧e=0∧xs=wsL (tx s) (sizeOfK k)):=by
 unfold GotP
 constructor
 ·intro h
  rcases h with⟨a,_⟩|⟨a,b,_⟩|⟨a,b,c⟩|⟨a,b,c⟩
  ·omega
  ·omega
  ·exact .inl c
  ·exact .inr c
 ·rintro(h|h)
  ·exact .inr (.inr (.inl ⟨by omega,by omega,h⟩))
  ·exact .inr (.inr (.inr ⟨by omega,by omega,h⟩))
def part(xs:List Nat)(n j:Nat):List Nat:=wsL xs j++List.replicate (n-j) 0
theorem ZmP(xs:List Nat)(n j:Nat)(h:j≤n):(part xs n j).length=n:=by unfold part;rw[List.length_append,Zd9,List.length_replicate];omega
theorem Zq9(xs:List Nat)(n:Nat):part xs n 0=List.replicate n 0:=by simp[part,wsL]
theorem ZvA(xs:List Nat)(n:Nat):part xs n n=wsL xs n:=by simp[part]
theorem Zvj(xs:List Nat)(n j:Nat)(h:j<n):(part xs n j).set j (num ((xs.drop (8*j)).take 8))=part xs n (j+1):=by
 unfold part
 rw[ZoA,List.set_append,if_neg (by rw[Zd9];omega),Zd9,Nat.sub_self,show n-j=(n-(j+1))+1 by omega,List.replicate_succ,List.set_cons_zero,List.append_assoc]
 rfl
theorem Zzj(s:ByteArray)(j:Nat):tx (s.extract (8*j) (8*(j+1)))=((tx s).drop (8*j)).take 8:=by
 rw[ZcJ,show 8*(j+1)-8*j=8 by omega]
theorem ZiK(s:ByteArray)(k:Int)(w:World)(hsz:s.size≤9223372036854775807):
  Calls Tryz.prog 178 #[.string s,.int .i64 k] w fun e w'=> ∃v xs en,e=.returned (.tuple #[v,.int .i64 ((en:Nat):Int)])∧Own w' w.heap.size v xs∧GotP s k xs en∧Below w.heap.size w w':=by
 have HZ:=hide (Zcd k)
 have hle:=Zas k
 by_cases h0:sizeOfK k=0
 ·have hb0:(((sizeOfK k:Nat):Int)==0)=true:=by rw[h0];rfl
  have HF:=hide (show GotP s k [] 1 from .inl ⟨h0,rfl,rfl⟩)
  clear h0 hle
  go_enter Tryz.func178,Tryz.ntmps178
  go_wp2_with (go_at_call 177;refine(unhide HZ _).mono ?_;rintro e w' ⟨rfl,rfl⟩)
  go_ret2
  exact⟨_,[],1,rfl,Own.nil _ _,unhide HF,Below.refl _ _⟩
 ·have hb0:(((sizeOfK k:Nat):Int)==0)=false:=by simp only[beq_eq_false_iff_ne,ne_eq];omega
  by_cases h1:s.size<8*sizeOfK k
  ·have HF:=hide (show GotP s k [] 2 from .inr (.inl ⟨by omega,h1,rfl,rfl⟩))
   have hd:((s.size:Int)<((sizeOfK k:Nat):Int)*8):=by omega
   clear h0
   go_enter Tryz.func178,Tryz.ntmps178
   go_wp2_with (go_at_call 177;refine(unhide HZ _).mono ?_;rintro e w' ⟨rfl,rfl⟩)
   go_ret2
   exact⟨_,[],2,rfl,Own.nil _ _,unhide HF,Below.refl _ _⟩
  ·have hd:¬((s.size:Int)<((sizeOfK k:Nat):Int)*8):=by omega
   have HG:=hide (fun xs e=>Zvg (s:=s) (k:=k) (xs:=xs) (e:=e) h0 h1)
   obtain⟨i0,hi0,hz0,hz1,hz2⟩:=info_parts ZeL
   obtain⟨wm,hrun,hown,hgrow⟩:=run_make_full (P:=Tryz.prog) w w.heap.size 32 69 i0 (.int .u64 0) 1 Tryz.underlying32 hi0 hz0 hz1 .i64 .i64 (sizeOfK k) (by rw[hz2];omega) (by unfold maxLen;omega) (Nat.le_refl _)
   have ho:=ZnC hown
   have hb:Below w.heap.size w wm:=(Below.refl _ _).grown hgrow (Nat.le_refl _) (fun k hk=>by cases hk)
   rw[←Zq9 (tx s) (sizeOfK k)]at ho
   have HO:=hide ho
   have HB:=hide hb
   generalize sizeOfK k=n at*
   clear hown hgrow ho hb hi0 hz0 hz1 hz2
   go_enter Tryz.func178,Tryz.ntmps178
   go_wp2_with (go_at_call 177;refine(unhide HZ _).mono ?_;rintro e w' ⟨rfl,hw⟩;obtain rfl:=hw.symm)
   go_loopw [22] (fun i wr=> ∃j:Nat,j≤n∧i=.int .i64 j∧Hid (Own wr w.heap.size (.slice (some ⟨w.heap.size,0,none⟩) n n) (part (tx s) n j))∧Hid (Below w.heap.size w wr)) (fun i _=>n-(intOf i).toNat)
   case atStart=>exact⟨0,Nat.zero_le _,rfl,HO,HB⟩
   case round=>
    obtain⟨j,hj,rfl,HO,HB⟩:=hrel
    by_cases hlt:j<n
    ·have hl:=ZmP (tx s) n j (by omega)
     have ho:=unhide HO
     have hx:num (((tx s).drop (8*j)).take 8)<18446744073709551616:=Zcp (k:=8) (ZaU (Zbr (Zal s) _) 8) (List.length_take_le ..)
     have hes:(s.extract (j*8) ((j+1)*8)).size=8:=by rw[ByteArray.size_extract];omega
     have HN:=hide (fun wx=>Zix (s.extract (j*8) ((j+1)*8)) (by omega) wx)
     rw[show j*8=8*j by omega,show(j+1)*8=8*(j+1) by omega,Zzj]at HN
     rw[show 8*(j+1)=(j+1)*8 by omega]at HN
     rw[show tx s=tx s from rfl]at HN
     have hst:=Zvj (tx s) n j hlt
     generalize hxe:num (((tx s).drop (8*j)).take 8)=x at*
     rw[show 8*j=j*8 by omega]at HN
     obtain⟨g',cap',hv,hBg,hgs,hcg,hfg⟩:=((show Own wr w.heap.size (.slice (some ⟨w.heap.size,0,none⟩) n n) (part (tx s) n j) from ho)).at (by omega)
     have hcell:=hcg j (by omega)
     have hfz:=hfg j
     have hs1:=(show Own wr w.heap.size (.slice (some ⟨w.heap.size,0,none⟩) (part (tx s) n j).length n) (part (tx s) n j) by rw[hl];exact ho).stored j x hx
     rw[hl,hst]at hs1
     simp only[Value.slice.injEq,Option.some.injEq,Addr.mk.injEq,and_true]at hv
     obtain⟨rfl, -, -⟩:=hv
     have HS:=hide hs1
     have HB2:=hide ((unhide HB).setCell (p:=⟨w.heap.size,j,none⟩) (Nat.le_refl _) (.int .u64 (x:Int)))
     generalize (part (tx s) n j).getD j 0=z at hcell
     clear hcg hfg hs1 ho hl hst hes HO hxe HG
     go_wp2_with (go_at_call 202;refine(unhide HN _).mono ?_;rintro e w' ⟨rfl,hw⟩;obtain rfl:=hw.symm)
     go_roundw
     case rel=>exact⟨j+1,by omega,by go_num,HS,HB2⟩
     case measure=>simp[intOf];omega
    ·have hje:j=n:=by omega
     subst hje
     rw[ZvA]at HO
     have hl:=Zd9 (tx s) j
     obtain⟨a1,c1,hv,hr⟩:=(unhide HO).row
     rw[hl]at hv hr
     simp only[Value.slice.injEq,true_and]at hv
     obtain⟨rfl,rfl⟩:=hv
     have HV:=hide (Zff _ j j _ k _ hr)
     clear hr hl
     go_wp2_with fail
     refine(unhide HV).mono ?_
     rintro e w' ⟨⟨b,rfl,hbe⟩,hb'⟩
     have HO':=hide ((unhide HO).below hb')
     have HB':=hide (below0 (unhide HB) hb')
     cases b with
     |true=>
      have HF:=hide ((unhide HG _ _).2 (.inr ⟨hbe.1 rfl,rfl,rfl⟩))
      clear hbe hb'
      go_wp2
      go_ret2
      exact⟨_,_,0,rfl,unhide HO',unhide HF,unhide HB'⟩
     |false=>
      have HF:=hide ((unhide HG _ _).2 (.inl ⟨fun h=>by simpa using hbe.2 h,rfl,rfl⟩))
      clear hbe hb'
      go_wp2
      go_ret2
      exact⟨_,[],3,rfl,Own.nil _ _,unhide HF,unhide HB'⟩
end Go.Proofs.YtlhhinlghhjghaaGreatDoor
namespace Go.Proofs.YtlhhinlghhjghaaGreatDoor
set_option linter.unusedVariables false
set_option linter.unusedSimpArgs false
set_option maxRecDepth 4000
set_option maxHeartbeats 8000000
variable {s:ByteArray}{k z o l h:Int}{xs ts:List Nat}{en:Nat}{P:Prop}
def TB(b:Bool)(P:Prop):Prop:=b=true↔P
theorem ZfF(P:Prop):∃b,TB b P:=by
 by_cases h:P
 ·exact⟨true,by simp[TB,h]⟩
 ·exact⟨false,by simp[TB,h]⟩
theorem TB.no{b:Bool}(h:TB b P)(hp:¬P):b=false:=by
 cases b
 ·rfl
 ·exact absurd (h.1 rfl) hp
theorem TB.yes{b:Bool}(h:TB b P)(hp:P):b=true:=h.2 hp
def CkP(en:Nat)(P:Prop):Prop:=(P∧en=0)∨(¬P∧en=1)
theorem ZyW(P:Prop):∃en,CkP en P:=by
 by_cases h:P
 ·exact⟨0,.inl ⟨h,rfl⟩⟩
 ·exact⟨1,.inr ⟨h,rfl⟩⟩
theorem CkP.yes(h:CkP en P)(hp:P):en=0:=by
 rcases h with⟨_,h⟩|⟨h,_⟩
 ·exact h
 ·exact absurd hp h
theorem CkP.no(h:CkP en P)(hp:¬P):en=1:=by
 rcases h with⟨h,_⟩|⟨_,h⟩
 ·exact absurd h hp
 ·exact h
def ZeD(k z:Int):Prop:=(1≤k∧k≤128)∧1≤z∧z≤64
def ZkM(o l k z h:Int):Prop:=ZeD k z∧(0≤o∧o≤4294967295)∧(0≤l∧l≤k*z)∧0≤h∧h≤15
def Zh3(k z:Int)(xs:List Nat)(n:Nat):Prop:=Za5 k xs∧0<cnt xs∧(n:Int)=z
def ZaX(o l k z h:Int)(xs:List Nat)(n:Nat):Prop:=ZkM o l k z h∧Zh3 k z xs n
theorem ZtJ(h:ZeD k z):0≤k*z∧k*z≤8192:=by
 obtain⟨⟨h1,h2⟩,h3,h4⟩:=h
 have e1:0≤k*z:=Int.mul_nonneg (by omega) (by omega)
 have e2:k*z≤128*z:=Int.mul_le_mul_of_nonneg_right h2 (by omega)
 omega
def encL(o l k z h:Int)(xs ts:List Nat):List Nat:=Zbc o 4++Zbc l 4++Zbc k 1++Zbc z 1++Zbc h 1++beV xs++ts
theorem ZcU(o l k z h:Int)(xs ts:List Nat)(ht:bytes ts):bytes (encL o l k z h xs ts):=
 Zay (Zay (Zay (Zay (Zay (Zay (Za9 _ _) (Za9 _ _)) (Za9 _ _)) (Za9 _ _)) (Za9 _ _)) (Zk3 _)) ht
theorem Zgh(n:Int):Zbc n 4=be 4 (m64 n):=ZjA (.inr (.inr rfl))
theorem Zeg(n:Int):Zbc n 1=be 1 (m64 n):=ZjA (.inl rfl)
theorem be1(n:Nat):be 1 n=[n%256]:=by simp[be]
theorem Zb9{n:Int}{m:Nat}(h:n=(m:Int))(hm:m<18446744073709551616):m64 n=m:=by
 subst h
 unfold m64
 omega
theorem Zyc:∀xs:List Nat,bytes xs→be xs.length (num xs)=xs
 |[],_=>rfl
 |x::r,h=>by
  have h1:x<256:=h x (List.mem_cons_self ..)
  have h2:bytes r:=fun y hy=>h y (List.mem_cons_of_mem _ hy)
  have h3:=Zx4 h2
  rw[List.length_cons,be,Zjx]
  have h4:(x*256^r.length+num r)/256^r.length=x:=by
   rw[Nat.mul_comm,Nat.mul_add_div (Nat.pow_pos (by decide)),Nat.div_eq_of_lt h3,Nat.add_zero]
  have h5:be r.length (x*256^r.length+num r)=be r.length (num r):=ZxP _ _ _ (by rw[Nat.mul_add_mod_self_right])
  rw[h4,h5,Zyc r h2,Nat.mod_eq_of_lt h1]
theorem ZeS{W:Nat}(h:bytes xs)(hl:xs.length=W):be W (num xs)=xs:=by rw[←hl];exact Zyc xs h
theorem ZrO(h:bytes xs):∀n,8*n≤xs.length→beV (wsL xs n)=xs.take (8*n)
 |0,_=>by simp[wsL,beV]
 |n+1,hn=>by
  have ih:=ZrO h n (by omega)
  have e:beV (wsL xs n++[num ((xs.drop (8*n)).take 8)])=beV (wsL xs n)++be 8 (num ((xs.drop (8*n)).take 8)):=by simp[beV]
  rw[ZoA,e,ih,ZeS (ZaU (Zbr h _) _) (by rw[List.length_take,List.length_drop];omega),show 8*(n+1)=8*n+8 by omega,List.take_add]
def dO(s:ByteArray):Nat:=num ((tx s).take 4)
def dL(s:ByteArray):Nat:=num (((tx s).drop 4).take 4)
def dK(s:ByteArray):Nat:=(tx s).getD 8 0
def dZ(s:ByteArray):Nat:=(tx s).getD 9 0
def dH(s:ByteArray):Nat:=(tx s).getD 10 0
def dN(s:ByteArray):Nat:=11+8*sizeOfK (dK s)
def dX(s:ByteArray):List Nat:=wsL ((tx s).drop 11) (sizeOfK (dK s))
def Zca(s:ByteArray):Prop:=s.size<11∨(ZeD (dK s) (dZ s)∧s.size<dN s+dZ s)
def ZfA(s:ByteArray):Prop:=ZaX (dO s) (dL s) (dK s) (dZ s) (dH s) (dX s) (s.size-dN s)
def Zgm(o l k z h:Int)(xs:List Nat)(t:ByteArray):Prop:=o=0∧l=0∧k=0∧z=0∧h=0∧xs=[]∧t=⟨#[]⟩
def ZmA(s:ByteArray)(o l k z h:Int)(xs:List Nat)(t:ByteArray):Prop:=o=dO s∧l=dL s∧k=dK s∧z=dZ s∧h=dH s∧xs=dX s∧t=s.extract (dN s) s.size
def DecP(s:ByteArray)(o l k z h:Int)(xs:List Nat)(t:ByteArray)(en:Nat):Prop:=
 (Zca s∧en=2∧Zgm o l k z h xs t)∨(¬Zca s∧¬ZfA s∧en=3∧Zgm o l k z h xs t)∨(¬Zca s∧ZfA s∧en=0∧ZmA s o l k z h xs t)
theorem DecP.uniq {s : ByteArray} {o l k z h o' l' k' z' h' : Int} {xs ys : List Nat} {t t' : ByteArray} {en en' : Nat} (h1 : DecP s o l k z h xs t en) (h2 : DecP s o' l' k' z' h' ys t' en') :
    (o = o' ∧ l = l' ∧ k = k' ∧ z = z' ∧ h = h') ∧ xs = ys ∧ t = t' ∧ en = en' := by
  rcases h1 with ⟨a, b, c⟩ | ⟨a, a2, b, c⟩ | ⟨a, a2, b, c⟩ <;> rcases h2 with ⟨a', b', c'⟩ | ⟨a', a2', b', c'⟩ | ⟨a', a2', b', c'⟩
  all_goals first
    | exact absurd a a'
    | exact absurd a' a
    | exact absurd a2 a2'
    | exact absurd a2' a2
    | (obtain ⟨p1, p2, p3, p4, p5, p6, p7⟩ := c
       obtain ⟨q1, q2, q3, q4, q5, q6, q7⟩ := c'
       rw [p1, p2, p3, p4, p5, p6, p7, q1, q2, q3, q4, q5, q6, q7, b, b']
       exact ⟨⟨rfl, rfl, rfl, rfl, rfl⟩, rfl, rfl, rfl⟩)
theorem DecP.err{t:ByteArray}(h1:DecP s o l k z h xs t en):(en=0∧¬Zca s∧ZfA s∧ZmA s o l k z h xs t)∨((en=2∨en=3)∧Zgm o l k z h xs t):=by
 rcases h1 with⟨_,h,h2⟩|⟨_,_,h,h2⟩|⟨h0,h1,h,h2⟩
 ·exact .inr ⟨.inl h,h2⟩
 ·exact .inr ⟨.inr h,h2⟩
 ·exact .inl ⟨h,h0,h1,h2⟩
theorem ZmF{p q:List Nat}{i:Nat}(h:i<p.length):(p++q).getD i 0=p.getD i 0:=by
 simp[List.getD_eq_getElem?_getD,List.getElem?_append_left h]
theorem Zzo{us:List Nat}(hb:ZkM o l k z h)(hx:smalls xs)(hv:xs.length=sizeOfK k)(h11:11≤s.size)(hp:∃r,tx s++r=encL o l k z h xs ts):
  o=dO s∧l=dL s∧k=dK s∧z=dZ s∧h=dH s:=by
 obtain⟨r,hr⟩:=hp
 have hl:=Zaa s
 obtain⟨⟨⟨k1,k2⟩,z1,z2⟩,⟨o1,o2⟩,⟨l1,l2⟩,h1,h2⟩:=hb
 have hkz:=ZtJ ⟨⟨k1,k2⟩,z1,z2⟩
 have e:encL o l k z h xs ts=be 4 (m64 o)++(be 4 (m64 l)++([m64 k%256,m64 z%256,m64 h%256]++(beV xs++ts))):=by
  unfold encL
  rw[Zgh,Zgh,Zeg,Zeg,Zeg,be1,be1,be1]
  simp
 rw[e]at hr
 have mo:m64 o=o.toNat:=Zb9 (by omega) (by omega)
 have ml:m64 l=l.toNat:=Zb9 (by omega) (by omega)
 have mk:m64 k=k.toNat:=Zb9 (by omega) (by omega)
 have mz:m64 z=z.toNat:=Zb9 (by omega) (by omega)
 have mh:m64 h=h.toNat:=Zb9 (by omega) (by omega)
 have t4:(tx s).take 4=be 4 (m64 o):=by
  have:=congrArg (List.take 4) hr
  rw[List.take_append_of_le_length (by omega),List.take_append_of_le_length (by rw[Zan];omega),List.take_of_length_le (l:=be 4 (m64 o)) (by rw[Zan];omega)]at this
  exact this
 have d4:(tx s).drop 4++r=be 4 (m64 l)++([m64 k%256,m64 z%256,m64 h%256]++(beV xs++ts)):=by
  have:=congrArg (List.drop 4) hr
  rw[List.drop_append_of_le_length (by omega),List.drop_append_of_le_length (by rw[Zan];omega),(show(be 4 (m64 o)).drop 4=[] from List.drop_eq_nil_of_le (by rw[Zan];omega)),List.nil_append]at this
  exact this
 have t8:((tx s).drop 4).take 4=be 4 (m64 l):=by
  have:=congrArg (List.take 4) d4
  rw[List.take_append_of_le_length (by rw[List.length_drop];omega),List.take_append_of_le_length (by rw[Zan];omega),List.take_of_length_le (l:=be 4 (m64 l)) (by rw[Zan];omega)]at this
  exact this
 have g:∀i,i<11→(tx s).getD i 0=(be 4 (m64 o)++(be 4 (m64 l)++([m64 k%256,m64 z%256,m64 h%256]++(beV xs++ts)))).getD i 0:=fun i hi=>by
  rw[←hr,ZmF (by omega)]
 have g8:dK s=m64 k%256:=by
  unfold dK
  rw[g 8 (by omega)]
  simp[be]
 have g9:dZ s=m64 z%256:=by
  unfold dZ
  rw[g 9 (by omega)]
  simp[be]
 have g10:dH s=m64 h%256:=by
  unfold dH
  rw[g 10 (by omega)]
  simp[be]
 have go:dO s=m64 o%256^4:=by unfold dO;rw[t4,Zlx]
 have gl:dL s=m64 l%256^4:=by unfold dL;rw[t8,Zlx]
 rw[go,gl,g8,g9,g10,mo,ml,mk,mz,mh]
 refine⟨?_,?_,?_,?_,?_⟩<;>omega
theorem ZyN:(encL o l k z h xs ts).length=11+8*xs.length+ts.length:=by
 unfold encL
 simp only[List.length_append,Zgh,Zeg,Zan,Zcj]
theorem Zoh:(encL o l k z h xs ts).drop 11=beV xs++ts:=by
 unfold encL
 rw[List.append_assoc _ (beV xs),List.drop_append_of_le_length (by simp only[List.length_append,Zgh,Zeg,Zan];omega),List.drop_eq_nil_of_le (by simp only[List.length_append,Zgh,Zeg,Zan];omega),List.nil_append]
theorem enc_size(o l k z h:Int)(xs:List Nat)(t:ByteArray):(st (encL o l k z h xs (tx t))).size=11+8*xs.length+t.size:=by rw[Zb1,ZyN,Zaa]
theorem ZyL{t:ByteArray}(hx:smalls xs)(hc:ZaX o l k z h xs t.size):
  ¬Zca (st (encL o l k z h xs (tx t)))∧ZfA (st (encL o l k z h xs (tx t)))∧ZmA (st (encL o l k z h xs (tx t))) o l k z h xs t:=by
 have hsz:=enc_size o l k z h xs t
 have ht:=Zdl (ZcU o l k z h xs (tx t) (Zal t))
 have hh:=Zzo (s:=st (encL o l k z h xs (tx t))) (us:=[]) hc.1 hx hc.2.1.2.1 (by omega) ⟨[],by rw[ht,List.append_nil]⟩
 generalize hS:st (encL o l k z h xs (tx t))=s at*
 obtain⟨e1,e2,e3,e4,e5⟩:=hh
 have hn:xs.length=sizeOfK k:=hc.2.1.2.1
 have hz:(t.size:Int)=z:=hc.2.2.2
 have eN:dN s=11+8*xs.length:=by unfold dN;rw[←e3,hn]
 have eX:dX s=xs:=by unfold dX;rw[←e3,←hn,ht,Zoh,Zsx xs _ hx]
 have eT:t=s.extract (dN s) s.size:=by
  apply ZhO
  have e11:11+8*xs.length=8*xs.length+11:=by omega
  rw[ZcJ,ht,eN,←List.drop_drop,Zoh,List.drop_append_of_le_length (by rw[Zcj];exact Nat.le_refl _),List.drop_eq_nil_of_le (by rw[Zcj];exact Nat.le_refl _),List.nil_append,List.take_of_length_le (by rw[Zaa];omega)]
 refine⟨?_,?_,e1,e2,e3,e4,e5,eX.symm,eT⟩
 ·rintro(h0|⟨_,h0⟩)
  ·omega
  ·rw[eN]at h0
   omega
 ·unfold ZfA
  rw[←e1,←e2,←e3,←e4,←e5,eX,eN,show s.size-(11+8*xs.length)=t.size by omega]
  exact hc
theorem Zyx(hs:¬Zca s)(hg:ZfA s):
  (s.extract (dN s) s.size).size=s.size-dN s∧st (encL (dO s) (dL s) (dK s) (dZ s) (dH s) (dX s) (tx (s.extract (dN s) s.size)))=s:=by
 have hsh:=hg.1.1
 have hle:dN s+dZ s≤s.size:=by
  have:¬s.size<dN s+dZ s:=fun h=>hs (.inr ⟨hsh,h⟩)
  omega
 have h11:11≤s.size:=by
  have:¬s.size<11:=fun h=>hs (.inl h)
  omega
 have hl:=Zaa s
 have hb:=Zal s
 refine⟨by rw[ByteArray.size_extract];omega,?_⟩
 apply ZhO
 rw[Zdl (ZcU _ _ _ _ _ _ _ (Zal _)),ZcJ]
 have hbyte:∀i,(tx s).getD i 0<256:=fun i=>hb.get i
 have mo:m64 (dO s:Int)=dO s:=Zb9 rfl (Nat.lt_trans (Zcp (ZaU hb 4) (k:=4) (by rw[List.length_take];omega)) (by decide))
 have ml:m64 (dL s:Int)=dL s:=Zb9 rfl (Nat.lt_trans (Zcp (ZaU (Zbr hb 4) 4) (k:=4) (by rw[List.length_take];omega)) (by decide))
 have mk:m64 (dK s:Int)=dK s:=Zb9 rfl (Nat.lt_trans (hbyte 8) (by decide))
 have mz:m64 (dZ s:Int)=dZ s:=Zb9 rfl (Nat.lt_trans (hbyte 9) (by decide))
 have mh:m64 (dH s:Int)=dH s:=Zb9 rfl (Nat.lt_trans (hbyte 10) (by decide))
 have b1:∀i,i<s.size→be 1 ((tx s).getD i 0)=((tx s).drop i).take 1:=fun i hi=>by
  rw[be1,Nat.mod_eq_of_lt (hbyte i)]
  have:i<(tx s).length:=by omega
  rw[List.drop_eq_getElem_cons this,List.take_succ_cons,List.take_zero,List.getD_eq_getElem?_getD,List.getElem?_eq_getElem this]
  rfl
 unfold encL
 rw[Zgh,Zgh,Zeg,Zeg,Zeg,mo,ml,mk,mz,mh]
 have w4:be 4 (dO s)=(tx s).take 4:=ZeS (ZaU hb 4) (by rw[List.length_take];omega)
 have w8:be 4 (dL s)=((tx s).drop 4).take 4:=ZeS (ZaU (Zbr hb 4) 4) (by rw[List.length_take,List.length_drop];omega)
 have wx:beV (dX s)=((tx s).drop 11).take (8*sizeOfK (dK s)):=ZrO (Zbr hb 11) _ (by rw[List.length_drop];unfold dN at hle;omega)
 rw[w4,w8,show be 1 (dK s)=((tx s).drop 8).take 1 from b1 8 (by omega),show be 1 (dZ s)=((tx s).drop 9).take 1 from b1 9 (by omega),show be 1 (dH s)=((tx s).drop 10).take 1 from b1 10 (by omega),wx]
 rw[←List.take_add,←List.take_add,←List.take_add,←List.take_add,←List.take_add]
 rw[show 4+4+1+1+1+8*sizeOfK (dK s)=dN s from by unfold dN;omega]
 rw[List.take_of_length_le (l:=(tx s).drop (dN s)) (by rw[List.length_drop];omega),List.take_append_drop]
theorem Zxh(xs:List Nat)(n:Nat):wsL (xs.take (8*n)) n=wsL xs n:=by
 unfold wsL
 apply List.map_congr_left
 intro i hi
 rw[List.mem_range]at hi
 rw[List.drop_take,List.take_take,show min 8 (8*n-8*i)=8 by omega]
theorem Zuc(s:ByteArray):wsL (tx (s.extract 11 (dN s))) (sizeOfK (dK s))=dX s:=by
 rw[ZcJ,show dN s-11=8*sizeOfK (dK s) by unfold dN;omega,Zxh]
 rfl
theorem Znv{D:Nat}(hN:dN s=D)(hsz:s.size=D+dZ s)(hpos:0<sizeOfK (dK s))(hg:GotP (s.extract 11 D) (dK s) xs en):
  (ZaX (dO s) (dL s) (dK s) (dZ s) (dH s) xs (dZ s)↔ZfA s)∧(ZaX (dO s) (dL s) (dK s) (dZ s) (dH s) xs (dZ s)→xs=dX s):=by
 have e0:=Zuc s
 rw[hN]at e0
 have eS:s.size-dN s=dZ s:=by omega
 have e8:(s.extract 11 D).size=8*sizeOfK (dK s):=by rw[ByteArray.size_extract,←hN];unfold dN at*;omega
 unfold ZfA
 rw[eS]
 rcases hg with⟨a,_⟩|⟨_,b,_⟩|⟨_,_,c,_,d⟩|⟨_,_,c,_,d⟩
 ·omega
 ·omega
 ·rw[e0]at c
  subst d
  exact⟨⟨fun h=>absurd h.2.1.1 (by simp),fun h=>absurd h.2.1 c⟩,fun h=>absurd h.2.1.1 (by simp)⟩
 ·rw[e0]at d
  subst d
  exact⟨Iff.rfl,fun _=>rfl⟩
end Go.Proofs.YtlhhinlghhjghaaGreatDoor
