/-
  Laws that the proof stands on.
-/
import Derived.Laws.ShiftsVarLaws
import Derived.Test.YtmmikiikddokgaaGreatDoorU17
namespace Go.Proofs.YtmmikiikddokgaaGreatDoor
open Go.RowKit Go.Sort
set_option linter.unusedVariables false
set_option linter.unusedSimpArgs false
set_option maxRecDepth 4000
set_option maxHeartbeats 8000000
variable {c:Nat}
def step1(c:Nat):Nat:=if c%2=1 then(c/2)^^^3988292384 else c/2
def stepN:Nat->Nat->Nat
 |0,c=>c
 |k+1,c=>step1 (stepN k c)
def M6(c b:Nat):Nat:=stepN 8 (c^^^b)
def Hn(c:Nat)(xs:List Nat):Nat:=xs.foldl M6 c
def Ji(xs:List Nat):Nat:=Hn 4294967295 xs^^^4294967295
def Hr(c:Nat):List Nat:=[c/16777216%256,c/65536%256,c/256%256,c%256]
theorem rO(h:c<4294967296):step1 c<4294967296:=by
 unfold step1;split
 ·exact Nat.xor_lt_two_pow (n:=32) (by omega) (by decide)
 ·omega
theorem V5(h:c<4294967296)(k:Nat):stepN k c<4294967296:=by
 induction k with
 |zero=>exact h
 |succ k a=>exact rO a
theorem O5{a b:Nat}(d:a<4294967296)(e:b<4294967296):a^^^b<4294967296:=Nat.xor_lt_two_pow (n:=32) d e
theorem oS{b:Nat}(h:c<4294967296)(a:b<256):M6 c b<4294967296:=V5 (O5 h (by omega)) 8
theorem Wj{xs:List Nat}(h:c<4294967296)(a:∀x∈xs,x<256):Hn c xs<4294967296:=by
 induction xs generalizing c with
 |nil=>exact h
 |cons x xs d=>exact d (oS h (a x (by simp))) (fun y b=>a y (by simp[b]))
theorem WR{xs:List Nat}(a:∀x∈xs,x<256):Ji xs<4294967296:=O5 (Wj (by decide) a) (by decide)
theorem dp(c:Nat)(xs ys:List Nat):Hn c (xs++ys)=Hn (Hn c xs) ys:=List.foldl_append ..
theorem pw(x:Nat)(a:x<4294967296):bits .and .u32 (x:Int) 1=((x%2:Nat):Int):=by
 have h:=u32_and_nat x 1 a (by decide);rw[Nat.and_one_is_mod]at h;exact h
theorem rP(x:Nat)(a:x<4294967296)(h:x%2=1):bits .xor .u32 ((x:Int)/2) 3988292384=((step1 x:Nat):Int):=by
 have e:=u32_xor_nat (x/2) 3988292384 (by omega) (by decide);unfold step1;rw[if_pos h,<-e];rfl
theorem lU(x:Nat)(h:x%2=0):(x:Int)/2=((step1 x:Nat):Int):=by
 unfold step1;rw[if_neg (by omega)];rfl
theorem ln(c:Nat)(w:World)(p:c<4294967296):
  Calls Tryz.prog 182 #[.int .u32 (c:Int)] w fun e w'=>e=.returned (.int .u32 ((stepN 8 c:Nat):Int))/\w'=w:=by
 go_enter Tryz.func182,Tryz.ntmps182;go_wp2;go_loop [0,4] (fun t i=> ∃k x:Nat,k<=8/\i=.int .i64 k/\t=.int .u32 (x:Int)/\Hid (x=stepN k c)) (fun _ i=>8-(intOf i).toNat)
 case atStart=>exact⟨0,c,by decide,rfl,rfl,Ab rfl⟩
 case round=>
  obtain⟨k,x,r,rfl,rfl,d⟩:=hrel;have j:x<4294967296:=by rw[Aa d];exact V5 p k
  by_cases q:k<8
  ·have g:(k:Int)<8:=by omega
   have a:=pw x j;rcases Nat.mod_two_eq_zero_or_one x with b|b
   ·rw[b]at a
    have n:=Ab (lU x b);clear b;go_wp2;go_round
    case rel=>exact⟨k+1,step1 x,by omega,by go_num,by rw[Aa n],Ab (by rw[Aa d];rfl)⟩
    case measure=>simp[intOf];omega
   ·rw[b]at a
    have u:=rP x j b;clear b;go_wp2;go_round
    case rel=>exact⟨k+1,step1 x,by omega,by go_num,rfl,Ab (by rw[Aa d];rfl)⟩
    case measure=>simp[intOf];omega
  ·have f:k=8:=by omega
   have m:Hid (stepN 8 c=x):=Ab (by rw[Aa d,f]);go_wp2;go_ret;exact⟨CB (by rw[Aa m]),rfl⟩
theorem iw(c:Nat)(xs:List Nat)(k:Nat)(h:k<xs.length):Hn c (xs.take (k+1))=M6 (Hn c (xs.take k)) (xs.getD k 0):=by
 rw[List.take_add_one,dp,List.getElem?_eq_getElem h,List.getD_eq_getElem?_getD,List.getElem?_eq_getElem h];rfl
theorem qa(x:Nat)(a:x<4294967296):bits .xor .u32 IntKind.u32.max (x:Int)=((x^^^4294967295:Nat):Int):=by
 have:=u32_xor_nat 4294967295 x (by decide) a;rw[Nat.xor_comm]at this;exact this
def sumS(s:ByteArray):Nat:=Ji (tx s)
theorem Zg(s:ByteArray):sumS s<4294967296:=WR (Ci s)
theorem UC(s:ByteArray)(w:World)(A:s.size<=1048576):
  Calls Tryz.prog 157 #[.string s] w fun e w'=>e=.returned (.int .u32 ((sumS s:Nat):Int))/\w'=w:=by
 go_enter Tryz.func157,Tryz.ntmps157;go_wp2;go_loop [3,7] (fun t i=> ∃k x:Nat,k<=s.size/\i=.int .i64 k/\t=.int .u32 (x:Int)/\Hid (x=Hn 4294967295 ((tx s).take k))) (fun _ i=>s.size-(intOf i).toNat)
 case atStart=>exact⟨0,4294967295,Nat.zero_le _,rfl,rfl,Ab rfl⟩
 case round=>
  obtain⟨k,x,v,rfl,rfl,d⟩:=hrel;have g:x<4294967296:=by rw[Aa d];exact Wj (by decide) (fun y r=>Ci s y (List.mem_of_mem_take r))
  by_cases b:k<s.size
  ·have j:(k:Int)<(s.size:Int):=by omega
   have u:s[k].toNat<256:=s[k].toNat_lt;have q:=u32_xor_nat x s[k].toNat g (by omega)
   have n:=Ab (show stepN 8 (x^^^s[k].toNat)=Hn 4294967295 ((tx s).take (k+1)) from by
    rw[iw _ _ _ (by rw[AT];exact b),<-Aa d,<-K7 s k b];rfl)
   have f:=ln (x^^^s[k].toNat) w (O5 g (by omega));go_wp2_with (go_at_call 182;refine f.mono ?_;rintro e w' ⟨rfl,p⟩;obtain rfl:=p.symm);go_round
   case rel=>exact⟨k+1,_,by omega,by go_num,rfl,n⟩
   case measure=>simp[intOf];omega
  ·have a:k=(tx s).length:=by rw[AT];omega
   have m:Hid (sumS s=x^^^4294967295):=Ab (by unfold sumS Ji;rw[Aa d,a,List.take_length]);clear a;go_wp2;go_ret;exact⟨CB (by rw[Aa m];exact qa x g),rfl⟩
def Iy(c k:Nat):List Nat:=[if 0<k then c/16777216%256 else 0,if 1<k then c/65536%256 else 0,if 2<k then c/256%256 else 0,if 3<k then c%256 else 0]
theorem W8(c d:Nat):(((c/d%256:Nat):Nat):Int)=(c:Int)/(d:Int)%256:=by simp
theorem YO(c:Nat):((c/16777216:Nat):Int)=(c:Int)/16777216:=by simp
theorem Xw(w:World)(t:TypeId):AE (w.alloc (.cells #[.int .u8 0,.int .u8 0,.int .u8 0,.int .u8 0] t)) w.heap.size (.slice (some ⟨w.heap.size,0,none⟩) 4 4) [0,0,0,0]:=by
 refine⟨fun x b=>?_,.inr ⟨w.heap.size,4,rfl,Nat.le_refl _,by simp,fun i a=>?_,fun i a=>?_⟩⟩
 ·simp only[List.mem_cons,List.mem_nil_iff,or_false,or_self]at b
  omega
 ·match i,a with
  |0,_=>simp
  |1,_=>simp
  |2,_=>simp
  |3,_=>simp
 ·match i,a with
  |0,_=>simp
  |1,_=>simp
  |2,_=>simp
  |3,_=>simp
theorem L2{w wr:World}{B g:Nat}{xs:List Nat}(b:xs.length=4)(a:AE wr B (.slice (some ⟨g,0,none⟩) 4 4) xs)(e:Below B w wr)(d:B<=g)(i x:Nat)(f:x<256):
  AE (wr.setCell ⟨g,i,none⟩ (.int .u8 (x:Int))) B (.slice (some ⟨g,0,none⟩) 4 4) (xs.set i x)/\Below B w (wr.setCell ⟨g,i,none⟩ (.int .u8 (x:Int))):=by
 rw[<-b]at a⊢;exact⟨a.stored i x f,e.setCell (by exact d) _⟩
theorem S6(s:ByteArray)(w:World)(A:s.size<=1048576):
  Calls Tryz.prog 150 #[.string s] w fun e w'=>e=.returned (.string (st (Hr (sumS s))))/\Below w.heap.size w w':=by
 have v:=Zg s;have q:=Ab (UC s w A);obtain⟨c,d⟩:∃c,sumS s=c:=⟨_,rfl⟩;rw[d]at v q;rw[d];clear d;go_enter Tryz.func150,Tryz.ntmps150;go_wp2_with (go_at_call 157;refine(Aa q).mono ?_;rintro e w' ⟨rfl,B⟩;obtain rfl:=B.symm);go_loopw [8] (fun i wr=> ∃k:Nat,k<=4/\i=.int .i64 k/\Hid (AE wr w.heap.size (.slice (some ⟨w.heap.size,0,none⟩) 4 4) (Iy c k))/\Hid (Below w.heap.size w wr)) (fun i _=>4-(intOf i).toNat)
 case atStart=>exact⟨0,by decide,rfl,Ab (Xw _ _),Ab ((Below.refl _ _).alloc (Nat.le_refl _) _)⟩
 case round=>
  obtain⟨k,C,rfl,a,b⟩:=hrel;by_cases f:k<4
  ·obtain⟨g,cap,r,u,y,j,m⟩:=(Aa a).at (by simp[Iy])
   simp only[Value.slice.injEq,Option.some.injEq,Addr.mk.injEq,and_true]at r;obtain⟨rfl, -⟩:=r;have n:=j k (by simpa [Iy]using f);have x:=m k (by simpa [Iy]using f);clear j m
   match k,f with
   |0,_=>
    have R:=Ab (L2 rfl (Aa a) (Aa b) (Nat.le_refl _) 0 (c/16777216) (by omega));rw[YO,show(Iy c 0).set 0 (c/16777216)=Iy c 1 from by unfold Iy;rw[show c/16777216=c/16777216%256 by omega];simp]at R;clear a b;go_wp2;go_roundw
    case rel=>exact⟨1,by omega,rfl,Ab (Aa R).1,Ab (Aa R).2⟩
    case measure=>simp[intOf]
   |1,_=>
    have R:=Ab (L2 rfl (Aa a) (Aa b) (Nat.le_refl _) 1 (c/65536%256) (by omega));rw[W8]at R;clear a b;go_wp2;go_roundw
    case rel=>exact⟨2,by omega,rfl,Ab (Aa R).1,Ab (Aa R).2⟩
    case measure=>simp[intOf]
   |2,_=>
    have R:=Ab (L2 rfl (Aa a) (Aa b) (Nat.le_refl _) 2 (c/256%256) (by omega));rw[W8]at R;clear a b;go_wp2;go_roundw
    case rel=>exact⟨3,by omega,rfl,Ab (Aa R).1,Ab (Aa R).2⟩
    case measure=>simp[intOf]
   |3,_=>
    have R:=Ab (L2 rfl (Aa a) (Aa b) (Nat.le_refl _) 3 (c%256) (by omega));clear a b;go_wp2;go_roundw
    case rel=>exact⟨4,by omega,rfl,Ab (Aa R).1,Ab (Aa R).2⟩
    case measure=>simp[intOf]
  ·obtain rfl:k=4:=by omega
   have p:=(Aa a).text;rw[show Iy c 4=Hr c from rfl]at p;clear a;go_wp2;go_ret;exact⟨rfl,Aa b⟩
variable {s:ByteArray}
theorem Zv{W:World}{f:FuncId}{args:Array Value}{v:Value}(h:∀w',Below W.heap.size W w'->Calls Tryz.prog f args w' fun e a=>e=.returned v/\Below w'.heap.size w' a)(d:Nat)(os:Array Obj):
  Calls Tryz.prog f args (grow (redrawn W d) os) fun e a=>e=.returned v/\∃p:Regrown,a=grow (redrawn W p.d) p.os:=
 Calls.regrown_of (h _ (below_regrown W d os))
def Fu(s:ByteArray):ByteArray:=st (Hr (sumS s))
def Ea(s:ByteArray):ByteArray:=s++Fu s
def Cr(s:ByteArray):ByteArray:=s.extract 0 (s.size-4)
def Eg(s:ByteArray):ByteArray:=s.extract (s.size-4) s.size
theorem SP(s:ByteArray):(Fu s).size=4:=by unfold Fu;rw[Dx];rfl
theorem Kv(s:ByteArray):(Ea s).size=s.size+4:=by unfold Ea;rw[ByteArray.size_append,SP]
theorem fX(s:ByteArray)(h:4<=s.size):(Cr s).size=s.size-4:=by unfold Cr;rw[ByteArray.size_extract];omega
theorem Ua(s:ByteArray)(h:4<=s.size):s=Cr s++Eg s:=by
 unfold Cr Eg;rw[ByteArray.extract_append_extract];have a:min 0 (s.size-4)=0:=by omega
 have b:max (s.size-4) s.size=s.size:=by omega
 rw[a,b];exact(ByteArray.extract_zero_size).symm
theorem Oh(s:ByteArray):Cr (Ea s)=s:=by
 unfold Cr;rw[Kv,Nat.add_sub_cancel];unfold Ea;rw[ByteArray.extract_append_size_left];exact ByteArray.extract_zero_size
theorem lf(s:ByteArray):Eg (Ea s)=Fu s:=by
 have h:=Ua (Ea s) (by rw[Kv];omega);rw[Oh]at h;unfold Ea at h;exact(ByteArray.append_right_inj _).1 h|>.symm
def openE(s:ByteArray):Nat:=if s.size<4 then 2 else if Eg s=Fu (Cr s)then 0 else 4
def openT(s:ByteArray):ByteArray:=if openE s=0 then Cr s else⟨#[]⟩
theorem kS(s:ByteArray):openE (Ea s)=0/\openT (Ea s)=s:=by
 have h:openE (Ea s)=0:=by
  unfold openE;rw[if_neg (by rw[Kv];omega),if_pos (by rw[lf,Oh])]
 exact⟨h,by unfold openT;rw[if_pos h,Oh]⟩
theorem lg(s:ByteArray)(h:openE s=0):Ea (openT s)=s:=by
 unfold openT;rw[if_pos h];unfold openE at h;by_cases a:s.size<4
 ·rw[if_pos a]at h;omega
 ·rw[if_neg a]at h
  by_cases b:Eg s=Fu (Cr s)
  ·unfold Ea
   rw[<-b];exact(Ua s (by omega)).symm
  ·rw[if_neg b]at h;omega
theorem kA(s:ByteArray)(w:World)(i:s.size<=1048576):
  Calls Tryz.prog 148 #[.string s] w fun e w'=>e=.returned (.string (Ea s))/\Below w.heap.size w w':=by
 have ht:=SP s;have g:=Ab (show∀w',Calls Tryz.prog 150 #[.string s] w' fun e a=>e=.returned (.string (Fu s))/\Below w'.heap.size w' a from fun w'=>S6 s w' i);have d:¬(9223372036854775807<s.size+(Fu s).size):=by omega
 unfold Ea;generalize Fu s=t at*;go_enter Tryz.func148,Tryz.ntmps148;go_wp2_with fail;refine(Aa g _).mono ?_;rintro e w1 ⟨rfl,b⟩;have f:=Ab b;clear b;go_wp2;go_ret;exact⟨rfl,Aa f⟩
theorem iX(h:s.size<4):openE s=2/\openT s=⟨#[]⟩:=by
 have e:openE s=2:=by unfold openE;rw[if_pos h]
 exact⟨e,by unfold openT;rw[if_neg (by omega)]⟩
theorem pe(h:¬s.size<4)(a:Eg s=Fu (Cr s)):openE s=0/\openT s=Cr s:=by
 have e:openE s=0:=by unfold openE;rw[if_neg h,if_pos a]
 exact⟨e,by unfold openT;rw[if_pos e]⟩
theorem XM(h:¬s.size<4)(a:¬Eg s=Fu (Cr s)):openE s=4/\openT s=⟨#[]⟩:=by
 have e:openE s=4:=by unfold openE;rw[if_neg h,if_neg a]
 exact⟨e,by unfold openT;rw[if_neg (by omega)]⟩
theorem Pc{a b:ByteArray}{i j:Int}(h:a=b)(h':i=j):Ending.returned (.tuple #[.string a,.int .i64 i])=.returned (.tuple #[.string b,.int .i64 j]):=by rw[h,h']
theorem S5(s:ByteArray)(w:World)(I:s.size<=1048576):
  Calls Tryz.prog 113 #[.string s] w fun e w'=>e=.returned (.tuple #[.string (openT s),.int .i64 ((openE s:Nat):Int)])/\Below w.heap.size w w':=by
 by_cases j:s.size<4
 ·have u:(s.size:Int)<4:=by omega
  have g:=Ab (iX j);clear j;go_enter Tryz.func113,Tryz.ntmps113;go_wp2;go_ret2;exact⟨Pc (Aa g).2.symm (by rw[(Aa g).1];rfl),Below.refl _ _⟩
 ·have u:decide ((s.size:Int)<4)=false:=by rw[decide_eq_false_iff_not];omega
  have H:=fX s (by omega);have G:((s.size:Int)-4).toNat=s.size-4:=by omega
  have y:(0:Int)<=(s.size:Int)-4:=by omega
  have A:(s.size:Int)-4<=(s.size:Int):=by omega
  have C:s.extract 0 (s.size-4)=Cr s:=rfl;have D:s.extract (s.size-4) s.size=Eg s:=rfl;have q:=Zv (W:=w) (fun w' _=>S6 (Cr s) w' (by omega));have x:∀w',Calls Tryz.prog 33 #[.string (Cr s)] w' fun e v=>e=.returned (.string (Cr s))/\Below w'.heap.size w' v:=fun w'=>GF (Cr s) w' (by omega);have B:=Ab x;clear x;by_cases m:Eg s=Fu (Cr s)
  ·have g:=Ab (pe j m)
   have E:((Eg s).toList==(st (Hr (sumS (Cr s)))).toList)=true:=by
    rw[Mj,decide_eq_true (show Eg s=st (Hr (sumS (Cr s))) from m)]
   clear j m;generalize Cr s=h at*;generalize Eg s=l at*;generalize st (Hr (sumS h))=t at*;go_enter Tryz.func113,Tryz.ntmps113;go_wp2_with fail;refine wp_region_quiet_below (by kernel_rfl) (by kernel_rfl) ?_
   repeat (with_reducible refine wpQuiet_step (fun K f=>?_);go_simp;first|(with_reducible refine f _ ?_;clear f K)|(apply Exists.intro;apply And.intro;(intro _;go_at_call 150;exact q _ _);with_reducible refine f _ ?_;clear f K))
   refine wpQuiet_nil ?_;intro _ i;obtain⟨⟨n,b⟩,a⟩:=i;subst a;have d:=Ab (below_regrown w n b);generalize grow (redrawn w n) b=w1 at*;clear q;go_wp2_with fail;refine(Aa B _).mono ?_;rintro e w2 ⟨rfl,p⟩;have r:=Ab (Ad (Aa d) p);clear p d;go_wp2;go_ret2;exact⟨Pc (Aa g).2.symm (by rw[(Aa g).1];rfl),Aa r⟩
  ·have g:=Ab (XM j m)
   have E:((Eg s).toList==(st (Hr (sumS (Cr s)))).toList)=false:=by
    rw[Mj,decide_eq_false (show¬Eg s=st (Hr (sumS (Cr s))) from m)]
   clear j m;generalize Cr s=h at*;generalize Eg s=l at*;generalize st (Hr (sumS h))=t at*;go_enter Tryz.func113,Tryz.ntmps113;go_wp2_with fail;refine wp_region_quiet_below (by kernel_rfl) (by kernel_rfl) ?_
   repeat (with_reducible refine wpQuiet_step (fun K f=>?_);go_simp;first|(with_reducible refine f _ ?_;clear f K)|(apply Exists.intro;apply And.intro;(intro _;go_at_call 150;exact q _ _);with_reducible refine f _ ?_;clear f K))
   refine wpQuiet_nil ?_;intro _ i;obtain⟨⟨n,b⟩,a⟩:=i;subst a;have d:=Ab (below_regrown w n b);generalize grow (redrawn w n) b=w1 at*;clear q;go_wp2;go_ret2;exact⟨Pc (Aa g).2.symm (by rw[(Aa g).1];rfl),Aa d⟩
variable {s t T t':ByteArray}{kd fr ic o l k z h o' l' k' z' h':Int}{xs ys:List Nat}{en:Nat}
def hdK(t:ByteArray):Nat:=(tx t).getD 0 0
def hdF(t:ByteArray):Nat:=(tx t).getD 1 0
def hdI(t:ByteArray):Nat:=num (((tx t).drop 2).take 4)
def Ex(t:ByteArray):ByteArray:=t.extract 6 t.size
def Fw(t:ByteArray):Prop:=8<=hdF t\/(hdK t≠1/\hdK t≠2)\/(hdK t=1/\6<t.size)
def FZ(kd fr ic o l k z h:Int)(xs:List Nat)(t:ByteArray):Prop:=(kd=0/\fr=0/\ic=0)/\A8 o l k z h xs t
def K8(T:ByteArray)(kd fr ic:Int):Prop:=kd=hdK T/\fr=hdF T/\ic=hdI T
def Iu(T:ByteArray)(kd fr ic o l k z h:Int)(xs:List Nat)(t:ByteArray)(en:Nat):Prop:=
 (T.size<6->en=2/\FZ kd fr ic o l k z h xs t)/\(¬T.size<6->Fw T->en=3/\FZ kd fr ic o l k z h xs t)/\
 (¬T.size<6->¬Fw T->hdK T=1->en=0/\K8 T kd fr ic/\A8 o l k z h xs t)/\
 (¬T.size<6->¬Fw T->hdK T≠1->Ce (Ex T) o l k z h xs t en/\(en≠0->kd=0/\fr=0/\ic=0)/\(en=0->K8 T kd fr ic))
def AQ(s:ByteArray)(kd fr ic o l k z h:Int)(xs:List Nat)(t:ByteArray)(en:Nat):Prop:=
 (openE s≠0->en=openE s/\FZ kd fr ic o l k z h xs t)/\(openE s=0->Iu (openT s) kd fr ic o l k z h xs t en)
theorem Yq(a:openE s≠0)(b:en=openE s)(d:FZ kd fr ic o l k z h xs t):AQ s kd fr ic o l k z h xs t en:=
 ⟨fun _=>⟨b,d⟩,fun h=>absurd h a⟩
theorem oD(a:T.size<6)(b:en=2)(d:FZ kd fr ic o l k z h xs t):Iu T kd fr ic o l k z h xs t en:=
 ⟨fun _=>⟨b,d⟩,fun h=>absurd a h,fun h=>absurd a h,fun h=>absurd a h⟩
theorem P0(b:¬T.size<6)(a:Fw T)(d:en=3)(e:FZ kd fr ic o l k z h xs t):Iu T kd fr ic o l k z h xs t en:=
 ⟨fun h=>absurd h b,fun _ _=>⟨d,e⟩,fun _ h=>absurd a h,fun _ h=>absurd a h⟩
theorem oC(b:¬T.size<6)(d:¬Fw T)(a:hdK T=1)(e:en=0)(f:K8 T kd fr ic)(g:A8 o l k z h xs t):Iu T kd fr ic o l k z h xs t en:=
 ⟨fun h=>absurd h b,fun _ h=>absurd h d,fun _ _ _=>⟨e,f,g⟩,fun _ _ h=>absurd a h⟩
theorem Wv(b:¬T.size<6)(d:¬Fw T)(a:hdK T≠1)(e:Ce (Ex T) o l k z h xs t en)(f:en≠0->kd=0/\fr=0/\ic=0)(g:en=0->K8 T kd fr ic):Iu T kd fr ic o l k z h xs t en:=
 ⟨fun h=>absurd h b,fun _ h=>absurd h d,fun _ _ h=>absurd h a,fun _ _ _=>⟨e,f,g⟩⟩
theorem A8.uniq(a:A8 o l k z h xs t)(b:A8 o' l' k' z' h' ys t'):(o=o'/\l=l'/\k=k'/\z=z'/\h=h')/\xs=ys/\t=t':=by
 obtain⟨d,e,f,g,i,j,m⟩:=a;obtain⟨n,p,q,r,u,v,w⟩:=b;rw[d,e,f,g,i,j,m,n,p,q,r,u,v,w];exact⟨⟨rfl,rfl,rfl,rfl,rfl⟩,rfl,rfl⟩
def Qi(kd fr ic o l k z h:Int)(xs:List Nat)(t:ByteArray)(en:Nat)(e b d o' l' k' z' h':Int)(ys:List Nat)(t':ByteArray)(a:Nat):Prop:=
 (kd=e/\fr=b/\ic=d)/\(o=o'/\l=l'/\k=k'/\z=z'/\h=h')/\xs=ys/\t=t'/\en=a
theorem FZ.uniq{i f g:Int}{e:Nat}(u:en=e)(q:FZ kd fr ic o l k z h xs t)(r:FZ i f g o' l' k' z' h' ys t'):Qi kd fr ic o l k z h xs t en i f g o' l' k' z' h' ys t' e:=by
 obtain⟨⟨a,b,c⟩,d⟩:=q;obtain⟨⟨j,m,n⟩,p⟩:=r;have:=d.uniq p;exact⟨⟨a.trans j.symm,b.trans m.symm,c.trans n.symm⟩,this.1,this.2.1,this.2.2,u⟩
theorem AQ.uniq{e b d:Int}{a:Nat}(f:AQ s kd fr ic o l k z h xs t en)(g:AQ s e b d o' l' k' z' h' ys t' a):
  Qi kd fr ic o l k z h xs t en e b d o' l' k' z' h' ys t' a:=by
 by_cases c1:openE s=0
 ·obtain⟨A,B,a3,a4⟩:=f.2 c1
  obtain⟨C,D,E,G⟩:=g.2 c1;generalize openT s=T at*;by_cases c2:T.size<6
  ·exact FZ.uniq ((A c2).1.trans (C c2).1.symm) (A c2).2 (C c2).2
  ·by_cases c3:Fw T
   ·exact FZ.uniq ((B c2 c3).1.trans (D c2 c3).1.symm) (B c2 c3).2 (D c2 c3).2
   ·by_cases c4:hdK T=1
    ·obtain⟨r,⟨u,v,H⟩,I⟩:=a3 c2 c3 c4
     obtain⟨w,⟨x,y,J⟩,K⟩:=E c2 c3 c4;have:=I.uniq K;exact⟨⟨u.trans x.symm,v.trans y.symm,H.trans J.symm⟩,this.1,this.2.1,this.2.2,r.trans w.symm⟩
    ·obtain⟨r,u,v⟩:=a4 c2 c3 c4
     obtain⟨w,x,y⟩:=G c2 c3 c4;obtain⟨u1,u2,u3,u4⟩:=r.uniq w;subst u4;refine⟨?_,u1,u2,u3,rfl⟩;by_cases c5:en=0
     ·obtain⟨i,j,m⟩:=v c5
      obtain⟨n,p,q⟩:=y c5;exact⟨i.trans n.symm,j.trans p.symm,m.trans q.symm⟩
     ·obtain⟨i,j,m⟩:=u c5
      obtain⟨n,p,q⟩:=x c5;exact⟨i.trans n.symm,j.trans p.symm,m.trans q.symm⟩
 ·exact FZ.uniq ((f.1 c1).1.trans (g.1 c1).1.symm) (f.1 c1).2 (g.1 c1).2
def M4(o l k z h:Int)(xs:List Nat)(s:ByteArray):Prop:=MW o l k z h xs s 0 0 0 0 0 [] ⟨#[]⟩
def IF(kd o l k z h:Int)(xs:List Nat)(s:ByteArray):Prop:=(kd=1/\M4 o l k z h xs s)\/(kd=2/\Cg o l k z h xs s.size)
def MV(kd fr ic o l k z h:Int)(xs:List Nat)(s:ByteArray):Prop:=(0<=fr/\fr<=7)/\(0<=ic/\ic<=4294967295)/\IF kd o l k z h xs s
def Fo(kd o l k z h:Int)(xs:List Nat)(s:ByteArray):ByteArray:=if kd=2 then st (BK o l k z h xs (tx s))else⟨#[]⟩
def DP(kd fr ic:Int)(b:List Nat):List Nat:=BC kd 1++BC fr 1++BC ic 4++b
def Fp(kd fr ic o l k z h:Int)(xs:List Nat)(s:ByteArray):ByteArray:=Ea (st (DP kd fr ic (tx (Fo kd o l k z h xs s))))
theorem RX(kd fr ic:Int)(b:List Nat)(a:bytes b):bytes (DP kd fr ic b):=
 F8 (F8 (F8 (GE _ _) (GE _ _)) (GE _ _)) a
theorem TP(kd fr ic:Int)(b:List Nat):(DP kd fr ic b).length=6+b.length:=by
 unfold DP;simp only[List.length_append,Fs,D9,C3]
theorem Yv(a:IF kd o l k z h xs s):kd=1\/kd=2:=by
 rcases a with h|h
 ·exact .inl h.1
 ·exact .inr h.1
theorem OZ(o l k z h:Int)(xs:List Nat)(s:ByteArray):Fo 1 o l k z h xs s=⟨#[]⟩:=if_neg (by decide)
theorem Me(o l k z h:Int)(xs:List Nat)(s:ByteArray):Fo 2 o l k z h xs s=st (BK o l k z h xs (tx s)):=if_pos rfl
theorem ZO{b:List Nat}{K F I:Nat}(f:bytes b)(n:kd=(K:Int))(j:fr=(F:Int))(m:ic=(I:Int))(g:K<256)(i:F<256)(p:I<4294967296):
  (st (DP kd fr ic b)).size=6+b.length/\hdK (st (DP kd fr ic b))=K/\hdF (st (DP kd fr ic b))=F/\hdI (st (DP kd fr ic b))=I/\Ex (st (DP kd fr ic b))=st b:=by
 have d:(st (DP kd fr ic b)).size=6+b.length:=by rw[Dx,TP]
 have ht:=DB (RX kd fr ic b f);have e:DP kd fr ic b=K::F::(be 4 I++b):=by
  unfold DP;rw[D9,D9,Fs,DZ n (by omega),DZ j (by omega),DZ m (by omega),Ja,Ja,Nat.mod_eq_of_lt g,Nat.mod_eq_of_lt i];simp
 have a:=C3 4 I;refine⟨d,?_,?_,?_,?_⟩
 ·unfold hdK;rw[ht,e];rfl
 ·unfold hdF;rw[ht,e];rfl
 ·unfold hdI
  rw[ht,e,List.drop_succ_cons,List.drop_succ_cons,List.drop_zero,List.take_left' a,K5];exact Nat.mod_eq_of_lt (by omega)
 ·apply I9
  unfold Ex;rw[Es,ht,d,DB f,e,List.drop_succ_cons,List.drop_succ_cons];rw[List.drop_left' a];exact List.take_of_length_le (by omega)
theorem oX(xs:List Nat):cnt (xorL xs xs)=0:=RW _ (bW _)
theorem Uu(a:A8 o l k z h xs t):M4 o l k z h xs t:=by
 obtain⟨b,d,e,f,g,i,j⟩:=a;rw[b,d,e,f,g,i,j];exact⟨⟨⟨rfl,rfl,rfl,rfl,rfl⟩,rfl⟩,oX []⟩
theorem bF(j:6<=T.size):BC (hdK T) 1++BC (hdF T) 1++BC (hdI T) 4=(tx T).take 6:=by
 have b:=Ci T;have n:=AT T;have a:∀i,(tx T).getD i 0<256:=fun i=>b.get i;have f:m64 (hdI T:Int)=hdI T:=DZ rfl (Nat.lt_trans (IT (F4 (G7 b 2) 4) (k:=4) (by rw[List.length_take];omega)) (by decide));have mk:m64 (hdK T:Int)=hdK T:=DZ rfl (Nat.lt_trans (a 0) (by decide));have e:m64 (hdF T:Int)=hdF T:=DZ rfl (Nat.lt_trans (a 1) (by decide))
 have d:∀i,i<T.size->be 1 ((tx T).getD i 0)=((tx T).drop i).take 1:=fun i m=>by
  rw[Ja,Nat.mod_eq_of_lt (a i)];have:i<(tx T).length:=by omega
  rw[List.drop_eq_getElem_cons this,List.take_succ_cons,List.take_zero,List.getD_eq_getElem?_getD,List.getElem?_eq_getElem this];rfl
 have g:be 4 (hdI T)=((tx T).drop 2).take 4:=L3 (F4 (G7 b 2) 4) (by rw[List.length_take,List.length_drop];omega);rw[Fs,D9,D9,f,mk,e,g,show be 1 (hdK T)=((tx T).drop 0).take 1 from d 0 (by omega),show be 1 (hdF T)=((tx T).drop 1).take 1 from d 1 (by omega)];rw[List.drop_zero,<-List.take_add,<-List.take_add]
theorem Vq(m:AQ s kd fr ic o l k z h xs t 0):
  MV kd fr ic o l k z h xs t/\Fp kd fr ic o l k z h xs t=s:=by
 have n:openE s=0:=by
  by_cases i:openE s=0
  ·exact i
  ·have:=(m.1 i).1
   omega
 have a:=lg s n;obtain⟨y,A,a3,a4⟩:=m.2 n;unfold Fp;generalize openT s=T at*;have c2:¬T.size<6:=fun h=>by have:=(y h).1;omega
 have c3:¬Fw T:=fun h=>by have:=(A c2 h).1;omega
 have I:¬8<=hdF T:=fun h=>c3 (.inl h);have O:hdI T<4294967296:=Nat.lt_of_lt_of_le (IT (F4 (G7 (Ci T) 2) 4) (k:=4) (by rw[List.length_take];omega)) (by decide);have E:=bF (T:=T) (by omega);have P:=AT T
 suffices e:K8 T kd fr ic/\IF kd o l k z h xs t/\tx (Fo kd o l k z h xs t)=(tx T).drop 6 by
  obtain⟨⟨B,C,D⟩,b,H⟩:=e;refine⟨⟨by omega,by omega,b⟩,?_⟩;unfold DP;rw[H,B,C,D,E,List.take_append_drop,Iv];exact a
 by_cases c4:hdK T=1
 ·obtain⟨_,f,J⟩:=a3 c2 c3 c4
  have G:¬6<T.size:=fun h=>c3 (.inr (.inr ⟨c4,h⟩));have d:kd=1:=by rw[f.1,c4];rfl
  refine⟨f,.inl ⟨d,Uu J⟩,?_⟩;rw[d,OZ,List.drop_eq_nil_of_le (by omega)];rfl
 ·have c5:hdK T=2:=by
   by_cases h:hdK T=2
   ·exact h
   ·exact absurd (.inr (.inl ⟨c4,h⟩)) c3
  obtain⟨f,_,K⟩:=a4 c2 c3 c4;have e:=K rfl;have d:kd=2:=by rw[e.1,c5];rfl
  obtain⟨_,ns,g,p,q,r,u,v,w,x⟩|⟨j,_⟩:=f.err
  ·obtain⟨L,N⟩:=Ym ns g
   refine⟨e,.inr ⟨d,?_⟩,?_⟩
   ·unfold ES at g
    rw[p,q,r,u,v,w,x,L];exact g
   ·rw[d,Me,p,q,r,u,v,w,x,N]
    unfold Ex;rw[Es,List.take_of_length_le (by rw[List.length_drop];omega)]
  ·omega
theorem AQ.none(b:AQ s kd fr ic o l k z h xs t en)(a:en≠0):FZ kd fr ic o l k z h xs t:=by
 by_cases c1:openE s=0
 ·obtain⟨d,e,a3,a4⟩:=b.2 c1
  generalize openT s=T at*;by_cases c2:T.size<6
  ·exact(d c2).2
  ·by_cases c3:Fw T
   ·exact(e c2 c3).2
   ·by_cases c4:hdK T=1
    ·exact absurd (a3 c2 c3 c4).1 a
    ·obtain⟨f,g,_⟩:=a4 c2 c3 c4
     obtain⟨h,_⟩|⟨_,h⟩:=f.err
     ·exact absurd h a
     ·exact⟨g a,h⟩
 ·exact(b.1 c1).2
def F0(w:World)(g:Nat)(u0 u1 u2 v0 a b v3 v4 v5 d:Value):Prop:=
 (w.cell? ⟨g,0,none⟩=some u0/\w.cell? ⟨g,1,none⟩=some u1/\w.cell? ⟨g,2,none⟩=some u2)/\w.cell? ⟨g,3,none⟩=some v0/\w.cell? ⟨g,4,none⟩=some a/\w.cell? ⟨g,5,none⟩=some b/\w.cell? ⟨g,6,none⟩=some v3/\w.cell? ⟨g,7,none⟩=some v4/\w.cell? ⟨g,8,none⟩=some v5/\w.cell? ⟨g,9,none⟩=some d
theorem ZR(w:World)(u0 u1 u2 v0 a b v3 v4 v5 d:Value):F0 (w.alloc (.cells #[u0,u1,u2,v0,a,b,v3,v4,v5,d] 157)) w.heap.size u0 u1 u2 v0 a b v3 v4 v5 d:=by
 refine⟨⟨?_,?_,?_⟩,?_,?_,?_,?_,?_,?_,?_⟩<;>simp
theorem F0.below{w w':World}{g:Nat}{u0 u1 u2 v0 b d v3 v4 v5 f:Value}(h:F0 w g u0 u1 u2 v0 b d v3 v4 v5 f)(v:Below w.heap.size w w'):F0 w' g u0 u1 u2 v0 b d v3 v4 v5 f:=by
 obtain⟨⟨a,i,g2⟩,j,m,n,p,q,r,u⟩:=h;have e:∀o,w'.cell? ⟨g,o,none⟩=w.cell? ⟨g,o,none⟩:=fun o=>v.cell (show g<w.heap.size from World.block_lt_of_cell? w ⟨g,0,none⟩ a);exact⟨⟨(e _).trans a,(e _).trans i,(e _).trans g2⟩,(e _).trans j,(e _).trans m,(e _).trans n,(e _).trans p,(e _).trans q,(e _).trans r,(e _).trans u⟩
theorem qJ(x:Value)(w:World):(Instr.makeInterface 250 x).run Tryz.prog w=.ok (.iface 250 x) w:=run_makeInterface w 250 x (by kernel_rfl)
theorem X7(x:Value)(w:World):(Instr.makeInterface 251 x).run Tryz.prog w=.ok (.iface 251 x) w:=run_makeInterface w 251 x (by kernel_rfl)
theorem QU(v:Value)(w:World):(Instr.typeAssert (.iface 250 v) 20 250 true).run Tryz.prog w=.ok (.tuple #[v,.bool true]) w:=by kernel_rfl
theorem M5(v:Value)(w:World):(Instr.typeAssert (.iface 251 v) 20 251 true).run Tryz.prog w=.ok (.tuple #[v,.bool true]) w:=by kernel_rfl
theorem QT(v:Value)(w:World):(Instr.typeAssert (.iface 251 v) 20 250 true).run Tryz.prog w=.ok (.tuple #[.agg #[.int .i64 0,.int .i64 0,.int .i64 0,.int .i64 0,.int .i64 0,.slice none 0 0,.string ⟨#[]⟩],.bool false]) w:=by kernel_rfl
theorem aY(v:Value)(w:World):(Instr.typeAssert (.iface 250 v) 20 251 true).run Tryz.prog w=.ok (.tuple #[.agg #[.int .i64 0,.int .i64 0,.int .i64 0,.int .i64 0,.int .i64 0,.slice none 0 0,.string ⟨#[]⟩],.bool false]) w:=by kernel_rfl
theorem QW(w:World):(Instr.typeAssert .nilIface 20 250 true).run Tryz.prog w=.ok (.tuple #[.agg #[.int .i64 0,.int .i64 0,.int .i64 0,.int .i64 0,.int .i64 0,.slice none 0 0,.string ⟨#[]⟩],.bool false]) w:=by kernel_rfl
theorem QV(w:World):(Instr.typeAssert .nilIface 20 251 true).run Tryz.prog w=.ok (.tuple #[.agg #[.int .i64 0,.int .i64 0,.int .i64 0,.int .i64 0,.int .i64 0,.slice none 0 0,.string ⟨#[]⟩],.bool false]) w:=by kernel_rfl
theorem RI(n d:Int)(w:World)(b:Bool)(f:TB b (0<=n/\n<=d)):
  Calls Tryz.prog 169 #[.int .i64 n,.int .i64 d] w fun e w'=>e=.returned (.bool b)/\w'=w:=by
 have a:=Ab f;clear f;by_cases g:0<=n
 ·by_cases i:n<=d
  ·go_enter Tryz.func169,Tryz.ntmps169
   go_wp2;go_ret;exact⟨Cb ((Aa a).yes ⟨g,i⟩).symm,rfl⟩
  ·go_enter Tryz.func169,Tryz.ntmps169
   go_wp2;go_ret;exact⟨Cb ((Aa a).no (fun h=>by omega)).symm,rfl⟩
 ·go_enter Tryz.func169,Tryz.ntmps169
  go_wp2;go_ret;exact⟨Cb ((Aa a).no (fun h=>by omega)).symm,rfl⟩
def Gm(kd:Int)(v0 a b v3 v4 v5 d:Value):Value:=if kd=1 then .iface 250 (.agg #[v0,a,b,v3,v4,v5,d])else if kd=2 then .iface 251 (.agg #[v0,a,b,v3,v4,v5,d])else .nilIface
theorem MM(v0 a b v3 v4 v5 d:Value):Gm 1 v0 a b v3 v4 v5 d=.iface 250 (.agg #[v0,a,b,v3,v4,v5,d]):=rfl
theorem MI(v0 a b v3 v4 v5 d:Value):Gm 2 v0 a b v3 v4 v5 d=.iface 251 (.agg #[v0,a,b,v3,v4,v5,d]):=rfl
theorem PW{kd:Int}(a:kd≠1)(b:kd≠2)(v0 d e v3 v4 v5 f:Value):Gm kd v0 d e v3 v4 v5 f=.nilIface:=by
 unfold Gm;rw[if_neg a,if_neg b]
theorem OY(kd:Int)(u1 u2 v0 b d v3 v4 v5 f:Value)(w:World):
  Calls Tryz.prog 116 #[.agg #[.int .i64 kd,u1,u2,v0,b,d,v3,v4,v5,f]] w fun e w'=>e=.returned (Gm kd v0 b d v3 v4 v5 f)/\Below w.heap.size w w':=by
 have a:=Ab (Bt w (.cells #[.int .i64 kd,u1,u2,v0,b,d,v3,v4,v5,f] 157));have j:=qJ;have m:=X7;by_cases g:kd=1
 ·subst g
  rw[MM];go_enter Tryz.func116,Tryz.ntmps116;go_wp2;go_ret;exact⟨rfl,Aa a⟩
 ·by_cases i:kd=2
  ·subst i
   rw[MI];go_enter Tryz.func116,Tryz.ntmps116;go_wp2;go_ret;exact⟨rfl,Aa a⟩
  ·rw[PW g i]
   go_enter Tryz.func116,Tryz.ntmps116;go_wp2;go_ret;exact⟨rfl,Aa a⟩
theorem fT(o l k z h:Int)(a:Option Addr)(n c:Nat)(xs:List Nat)(s:ByteArray)(w:World)(ht:Tab w)(m:RowAt w a n xs)(j:n<=1048576)(b:Bool)(i:TB b (M4 o l k z h xs s)):
  Calls Tryz.prog 170 #[.iface 250 (.agg #[.int .i64 o,.int .i64 l,.int .i64 k,.int .i64 z,.int .i64 h,.slice a n c,.string s])] w fun e w'=>e=.returned (.bool b)/\Below w.heap.size w w':=by
 have u:=Ab (ht.below (Bt w (.cells #[.int .i64 o,.int .i64 l,.int .i64 k,.int .i64 z,.int .i64 h,.slice a n c,.string s] 250)));have q:=Ab (GD m (.cells #[.int .i64 o,.int .i64 l,.int .i64 k,.int .i64 z,.int .i64 h,.slice a n c,.string s] 250));have r:=Ab (fun wx (g:Tab wx) (f:RowAt wx a n xs)=>TK o l k z h a n c xs s 0 0 0 0 0 none 0 0 [] ⟨#[]⟩ wx g f (Dv _) j (by decide) b i);have p:=Ab (Bt w (.cells #[.int .i64 o,.int .i64 l,.int .i64 k,.int .i64 z,.int .i64 h,.slice a n c,.string s] 250));have v:=QU;clear i ht m j;go_enter Tryz.func170,Tryz.ntmps170;go_wp2_with fail;refine(Aa r _ (Aa u) (Aa q)).mono ?_;rintro e w1 ⟨rfl,d⟩;have B1:=Ab (Ad (Aa p) d);clear d;go_wp2;go_ret;exact⟨rfl,Aa B1⟩
theorem jt(o l k z h:Int)(a:Option Addr)(n c:Nat)(xs:List Nat)(s:ByteArray)(w:World)(r:RowAt w a n xs)(b:Bool)(q:TB b (Cg o l k z h xs s.size)):
  Calls Tryz.prog 170 #[.iface 251 (.agg #[.int .i64 o,.int .i64 l,.int .i64 k,.int .i64 z,.int .i64 h,.slice a n c,.string s])] w fun e w'=>e=.returned (.bool b)/\Below w.heap.size w w':=by
 obtain⟨ck,d⟩:=M1 (Cg o l k z h xs s.size);have m:=Ab q;have i:=Ab d;have p:=Ab (EL o l k z h a n c xs s _ (GD r (.cells #[.int .i64 o,.int .i64 l,.int .i64 k,.int .i64 z,.int .i64 h,.slice a n c,.string s] 251)) ck d);have u:=Ab (Bt w (.cells #[.int .i64 o,.int .i64 l,.int .i64 k,.int .i64 z,.int .i64 h,.slice a n c,.string s] 251));have v:=QT;have x:=M5;clear q r d;go_enter Tryz.func170,Tryz.ntmps170;go_wp2_with fail;refine(Aa p).mono ?_;rintro e w1 ⟨rfl,g⟩;have B1:=Ab (Ad (Aa u) g);clear g p;rcases(Aa i)with⟨f,rfl⟩|⟨f,rfl⟩
 ·have j:=Ab f
  clear f i;go_wp2;go_ret;exact⟨Cb ((Aa m).yes (Aa j)).symm,Aa B1⟩
 ·have j:=Ab f
  clear f i;go_wp2;go_ret;exact⟨Cb ((Aa m).no (Aa j)).symm,Aa B1⟩
theorem ju(w:World):Calls Tryz.prog 170 #[.nilIface] w fun e w'=>e=.returned (.bool false)/\w'=w:=by
 have a:=QW;have b:=QV;go_enter Tryz.func170,Tryz.ntmps170;go_wp2;go_ret;exact⟨rfl,rfl⟩
theorem jn(kd o l k z h:Int)(a:Option Addr)(n c:Nat)(xs:List Nat)(s:ByteArray)(w:World)(ht:Tab w)(i:RowAt w a n xs)(m:n<=1048576)(b:Bool)(d:TB b (IF kd o l k z h xs s)):
  Calls Tryz.prog 170 #[Gm kd (.int .i64 o) (.int .i64 l) (.int .i64 k) (.int .i64 z) (.int .i64 h) (.slice a n c) (.string s)] w fun e w'=>e=.returned (.bool b)/\Below w.heap.size w w':=by
 by_cases f:kd=1
 ·subst f
  rw[MM];refine fT o l k z h a n c xs s w ht i m b ⟨fun h=>?_,fun h=>d.2 (.inl ⟨rfl,h⟩)⟩;rcases d.1 h with h|h
  ·exact h.2
  ·exact absurd h.1 (by decide)
 ·by_cases g:kd=2
  ·subst g
   rw[MI];refine jt o l k z h a n c xs s w i b ⟨fun h=>?_,fun h=>d.2 (.inr ⟨rfl,h⟩)⟩;rcases d.1 h with h|h
   ·exact absurd h.1 (by decide)
   ·exact h.2
  ·rw[PW f g]
   refine(ju w).mono fun e w' ⟨j,p⟩=>⟨?_,by rw[p];exact Below.refl _ _⟩;rw[j,d.no (fun h=>by rcases Yv h with h|h;exact f h;exact g h)]
theorem gL(kd fr ic o l k z h:Int)(a:Option Addr)(n c:Nat)(xs:List Nat)(s:ByteArray)(w:World)(ht:Tab w)(H:RowAt w a n xs)(G:n<=1048576)(en:Nat)(g:EJ en (MV kd fr ic o l k z h xs s)):
  Calls Tryz.prog 146 #[.agg #[.int .i64 kd,.int .i64 fr,.int .i64 ic,.int .i64 o,.int .i64 l,.int .i64 k,.int .i64 z,.int .i64 h,.slice a n c,.string s]] w fun e w'=>e=.returned (.int .i64 ((en:Nat):Int))/\Below w.heap.size w w':=by
 obtain⟨A,D⟩:=ET (0<=fr/\fr<=7);obtain⟨B,E⟩:=ET (0<=ic/\ic<=4294967295);obtain⟨C,r⟩:=ET (IF kd o l k z h xs s);have p:=Ab D;have q:=Ab E;have y:=Ab r;have j:=Ab g;have J:=Ab (fun wx (v:Tab wx) (u:RowAt wx a n xs)=>jn kd o l k z h a n c xs s wx v u G C r);have I:=Ab (fun wx=>OY kd (.int .i64 fr) (.int .i64 ic) (.int .i64 o) (.int .i64 l) (.int .i64 k) (.int .i64 z) (.int .i64 h) (.slice a n c) (.string s) wx);have L:=Ab ht;have K:=Ab H;have m:=Ab (Bt w (.cells #[.int .i64 kd,.int .i64 fr,.int .i64 ic,.int .i64 o,.int .i64 l,.int .i64 k,.int .i64 z,.int .i64 h,.slice a n c,.string s] 157));generalize Gm kd (.int .i64 o) (.int .i64 l) (.int .i64 k) (.int .i64 z) (.int .i64 h) (.slice a n c) (.string s)=V at*;clear D E r g ht H G;go_enter Tryz.func146,Tryz.ntmps146;go_wp2_with fail;refine(RI fr 7 _ A (Aa p)).mono ?_;rintro e w' ⟨rfl,i⟩;obtain rfl:=i.symm;clear i;cases A
 ·rcases(Aa j)with⟨b,rfl⟩|⟨b,rfl⟩
  ·exact absurd ((Aa p).2 b.1) (by decide)
  ·clear b
   go_wp2;go_ret;exact⟨rfl,Aa m⟩
 ·go_wp2_with fail
  refine(RI ic 4294967295 _ B (Aa q)).mono ?_;rintro e w' ⟨rfl,i⟩;obtain rfl:=i.symm;clear i;cases B
  ·rcases(Aa j)with⟨b,rfl⟩|⟨b,rfl⟩
   ·exact absurd ((Aa q).2 b.2.1) (by decide)
   ·clear b
    go_wp2;go_ret;exact⟨rfl,Aa m⟩
  ·go_wp2_with fail
   refine(Aa I _).mono ?_;rintro e w1 ⟨rfl,d⟩;have B1:=Ab (Ad (Aa m) d);clear d;go_wp2_with fail;refine(Aa J _ ((Aa L).below (Aa B1)) ((Aa K).below (Aa B1))).mono ?_;rintro e w2 ⟨rfl,f⟩;have x:=Ab (Ad (Aa B1) f);clear f;cases C
   ·rcases(Aa j)with⟨b,rfl⟩|⟨b,rfl⟩
    ·exact absurd ((Aa y).2 b.2.2) (by decide)
    ·clear b
     go_wp2;go_ret;exact⟨rfl,Aa x⟩
   ·rcases(Aa j)with⟨b,rfl⟩|⟨b,rfl⟩
    ·clear b
     go_wp2;go_ret;exact⟨rfl,Aa x⟩
    ·exact absurd ⟨(Aa p).1 rfl,(Aa q).1 rfl,(Aa y).1 rfl⟩ b
end Go.Proofs.YtmmikiikddokgaaGreatDoor
