/- Laws for the proof. -/
import Derived.Laws.ShiftsVarLaws
import Derived.Test.YtfpmnekaockodaaGreatDoorU17
namespace Go.Proofs.YtfpmnekaockodaaGreatDoor
open Go.RowKit Go.Sort
set_option linter.all false
set_option maxRecDepth 4000
set_option maxHeartbeats 8000000
variable {c:Nat}
def step1(c:Nat):Nat:=if c%2=1 then(c/2)^^^3988292384 else c/2
def stepN:Nat->Nat->Nat
 |0,c=>c
 |k+1,c=>step1 (stepN k c)
def Nr(c b:Nat):Nat:=stepN 8 (c^^^b)
def Hx(c:Nat)(xs:List Nat):Nat:=xs.foldl Nr c
def Js(xs:List Nat):Nat:=Hx 4294967295 xs^^^4294967295
def H3(c:Nat):List Nat:=[c/16777216%256,c/65536%256,c/256%256,c%256]
theorem rO(h:c<4294967296):step1 c<4294967296:=by
 unfold step1;split
 ·exact Nat.xor_lt_two_pow (n:=32) (by omega) (by decide)
 ·omega
theorem VR(h:c<4294967296)(k:Nat):stepN k c<4294967296:=by
 induction k with
 |zero=>exact h
 |succ k a=>exact rO a
theorem Pn{a b:Nat}(d:a<4294967296)(e:b<4294967296):a^^^b<4294967296:=Nat.xor_lt_two_pow (n:=32) d e
theorem pN{b:Nat}(h:c<4294967296)(a:b<256):Nr c b<4294967296:=VR (Pn h (by omega)) 8
theorem WV{xs:List Nat}(h:c<4294967296)(a:∀x∈xs,x<256):Hx c xs<4294967296:=by
 induction xs generalizing c with
 |nil=>exact h
 |cons x xs d=>exact d (pN h (a x (by simp))) (fun y b=>a y (by simp[b]))
theorem Xv{xs:List Nat}(a:∀x∈xs,x<256):Js xs<4294967296:=Pn (WV (by decide) a) (by decide)
theorem eZ(c:Nat)(xs ys:List Nat):Hx c (xs++ys)=Hx (Hx c xs) ys:=List.foldl_append ..
theorem pi(x:Nat)(a:x<4294967296):bits .and .u32 (x:Int) 1=((x%2:Nat):Int):=by
 have h:=u32_and_nat x 1 a (by decide);rw[Nat.and_one_is_mod]at h;exact h
theorem rP(x:Nat)(a:x<4294967296)(h:x%2=1):bits .xor .u32 ((x:Int)/2) 3988292384=((step1 x:Nat):Int):=by
 have e:=u32_xor_nat (x/2) 3988292384 (by omega) (by decide);unfold step1;rw[if_pos h,<-e];rfl
theorem nl(x:Nat)(h:x%2=0):(x:Int)/2=((step1 x:Nat):Int):=by
 unfold step1;rw[if_neg (by omega)];rfl
theorem mI(c:Nat)(w:World)(p:c<4294967296):
  Calls Tryz.prog 182 #[.int .u32 (c:Int)] w fun e w'=>e=.returned (.int .u32 ((stepN 8 c:Nat):Int))/\w'=w:=by
 go_enter Tryz.func182,Tryz.ntmps182;go_wp2;go_loop [0,4] (fun t i=> ∃k x:Nat,k<=8/\i=.int .i64 k/\t=.int .u32 (x:Int)/\Hid (x=stepN k c)) (fun _ i=>8-(intOf i).toNat)
 case atStart=>exact⟨0,c,by decide,rfl,rfl,Ab rfl⟩
 case round=>
  obtain⟨k,x,r,rfl,rfl,d⟩:=hrel;have j:x<4294967296:=by rw[Aa d];exact VR p k
  by_cases q:k<8
  ·have g:(k:Int)<8:=by omega
   have a:=pi x j;rcases Nat.mod_two_eq_zero_or_one x with b|b
   ·rw[b]at a
    have n:=Ab (nl x b);clear b;go_wp2;go_round
    case rel=>exact⟨k+1,step1 x,by omega,by go_num,by rw[Aa n],Ab (by rw[Aa d];rfl)⟩
    case measure=>simp[intOf];omega
   ·rw[b]at a
    have u:=rP x j b;clear b;go_wp2;go_round
    case rel=>exact⟨k+1,step1 x,by omega,by go_num,rfl,Ab (by rw[Aa d];rfl)⟩
    case measure=>simp[intOf];omega
  ·have f:k=8:=by omega
   have m:Hid (stepN 8 c=x):=Ab (by rw[Aa d,f]);go_wp2;go_ret;exact⟨CC (by rw[Aa m]),rfl⟩
theorem kz(c:Nat)(xs:List Nat)(k:Nat)(h:k<xs.length):Hx c (xs.take (k+1))=Nr (Hx c (xs.take k)) (xs.getD k 0):=by
 rw[List.take_add_one,eZ,List.getElem?_eq_getElem h,List.getD_eq_getElem?_getD,List.getElem?_eq_getElem h];rfl
theorem qr(x:Nat)(a:x<4294967296):bits .xor .u32 IntKind.u32.max (x:Int)=((x^^^4294967295:Nat):Int):=by
 have:=u32_xor_nat 4294967295 x (by decide) a;rw[Nat.xor_comm]at this;exact this
def sumS(s:ByteArray):Nat:=Js (tx s)
theorem Zb(s:ByteArray):sumS s<4294967296:=Xv (Ck s)
theorem VG(s:ByteArray)(w:World)(A:s.size<=1048576):
  Calls Tryz.prog 157 #[.string s] w fun e w'=>e=.returned (.int .u32 ((sumS s:Nat):Int))/\w'=w:=by
 go_enter Tryz.func157,Tryz.ntmps157;go_wp2;go_loop [3,7] (fun t i=> ∃k x:Nat,k<=s.size/\i=.int .i64 k/\t=.int .u32 (x:Int)/\Hid (x=Hx 4294967295 ((tx s).take k))) (fun _ i=>s.size-(intOf i).toNat)
 case atStart=>exact⟨0,4294967295,Nat.zero_le _,rfl,rfl,Ab rfl⟩
 case round=>
  obtain⟨k,x,v,rfl,rfl,d⟩:=hrel;have g:x<4294967296:=by rw[Aa d];exact WV (by decide) (fun y r=>Ck s y (List.mem_of_mem_take r))
  by_cases b:k<s.size
  ·have j:(k:Int)<(s.size:Int):=by omega
   have u:s[k].toNat<256:=s[k].toNat_lt;have q:=u32_xor_nat x s[k].toNat g (by omega)
   have n:=Ab (show stepN 8 (x^^^s[k].toNat)=Hx 4294967295 ((tx s).take (k+1)) from by
    rw[kz _ _ _ (by rw[AU];exact b),<-Aa d,<-Lk s k b];rfl)
   have f:=mI (x^^^s[k].toNat) w (Pn g (by omega));go_wp2_with (go_at_call 182;refine f.mono ?_;rintro e w' ⟨rfl,p⟩;obtain rfl:=p.symm);go_round
   case rel=>exact⟨k+1,_,by omega,by go_num,rfl,n⟩
   case measure=>simp[intOf];omega
  ·have a:k=(tx s).length:=by rw[AU];omega
   have m:Hid (sumS s=x^^^4294967295):=Ab (by unfold sumS Js;rw[Aa d,a,List.take_length]);clear a;go_wp2;go_ret;exact⟨CC (by rw[Aa m];exact qr x g),rfl⟩
def Ii(c k:Nat):List Nat:=[if 0<k then c/16777216%256 else 0,if 1<k then c/65536%256 else 0,if 2<k then c/256%256 else 0,if 3<k then c%256 else 0]
theorem Xo(c d:Nat):(((c/d%256:Nat):Nat):Int)=(c:Int)/(d:Int)%256:=by simp
theorem Zh(c:Nat):((c/16777216:Nat):Int)=(c:Int)/16777216:=by simp
theorem XH(w:World)(t:TypeId):AE (w.alloc (.cells #[.int .u8 0,.int .u8 0,.int .u8 0,.int .u8 0] t)) w.heap.size (.slice (some ⟨w.heap.size,0,none⟩) 4 4) [0,0,0,0]:=by
 refine⟨fun x b=>?_,.inr ⟨w.heap.size,4,rfl,Nat.le_refl _,by simp,fun i a=>?_,fun i a=>?_⟩⟩
 ·simp only[List.mem_cons,List.mem_nil_iff,or_false,or_self]at b
  omega
 ·match i,a with
  |0,_=>simp
  |1,_=>simp
  |2,_=>simp
  |3,_=>simp
 ·match i,a with
  |0,_=>simp
  |1,_=>simp
  |2,_=>simp
  |3,_=>simp
theorem Mm{w wr:World}{B g:Nat}{xs:List Nat}(b:xs.length=4)(a:AE wr B (.slice (some ⟨g,0,none⟩) 4 4) xs)(e:Below B w wr)(d:B<=g)(i x:Nat)(f:x<256):
  AE (wr.setCell ⟨g,i,none⟩ (.int .u8 (x:Int))) B (.slice (some ⟨g,0,none⟩) 4 4) (xs.set i x)/\Below B w (wr.setCell ⟨g,i,none⟩ (.int .u8 (x:Int))):=by
 rw[<-b]at a⊢;exact⟨a.stored i x f,e.setCell (by exact d) _⟩
theorem Uh(s:ByteArray)(w:World)(A:s.size<=1048576):
  Calls Tryz.prog 150 #[.string s] w fun e w'=>e=.returned (.string (st (H3 (sumS s))))/\Below w.heap.size w w':=by
 have v:=Zb s;have q:=Ab (VG s w A);obtain⟨c,d⟩:∃c,sumS s=c:=⟨_,rfl⟩;rw[d]at v q;rw[d];clear d;go_enter Tryz.func150,Tryz.ntmps150;go_wp2_with (go_at_call 157;refine(Aa q).mono ?_;rintro e w' ⟨rfl,B⟩;obtain rfl:=B.symm);go_loopw [8] (fun i wr=> ∃k:Nat,k<=4/\i=.int .i64 k/\Hid (AE wr w.heap.size (.slice (some ⟨w.heap.size,0,none⟩) 4 4) (Ii c k))/\Hid (Below w.heap.size w wr)) (fun i _=>4-(intOf i).toNat)
 case atStart=>exact⟨0,by decide,rfl,Ab (XH _ _),Ab ((Below.refl _ _).alloc (Nat.le_refl _) _)⟩
 case round=>
  obtain⟨k,C,rfl,a,b⟩:=hrel;by_cases f:k<4
  ·obtain⟨g,cap,r,u,y,j,m⟩:=(Aa a).at (by simp[Ii])
   simp only[Value.slice.injEq,Option.some.injEq,Addr.mk.injEq,and_true]at r;obtain⟨rfl, -⟩:=r;have n:=j k (by simpa [Ii]using f);have x:=m k (by simpa [Ii]using f);clear j m
   match k,f with
   |0,_=>
    have R:=Ab (Mm rfl (Aa a) (Aa b) (Nat.le_refl _) 0 (c/16777216) (by omega));rw[Zh,show(Ii c 0).set 0 (c/16777216)=Ii c 1 from by unfold Ii;rw[show c/16777216=c/16777216%256 by omega];simp]at R;clear a b;go_wp2;go_roundw
    case rel=>exact⟨1,by omega,rfl,Ab (Aa R).1,Ab (Aa R).2⟩
    case measure=>simp[intOf]
   |1,_=>
    have R:=Ab (Mm rfl (Aa a) (Aa b) (Nat.le_refl _) 1 (c/65536%256) (by omega));rw[Xo]at R;clear a b;go_wp2;go_roundw
    case rel=>exact⟨2,by omega,rfl,Ab (Aa R).1,Ab (Aa R).2⟩
    case measure=>simp[intOf]
   |2,_=>
    have R:=Ab (Mm rfl (Aa a) (Aa b) (Nat.le_refl _) 2 (c/256%256) (by omega));rw[Xo]at R;clear a b;go_wp2;go_roundw
    case rel=>exact⟨3,by omega,rfl,Ab (Aa R).1,Ab (Aa R).2⟩
    case measure=>simp[intOf]
   |3,_=>
    have R:=Ab (Mm rfl (Aa a) (Aa b) (Nat.le_refl _) 3 (c%256) (by omega));clear a b;go_wp2;go_roundw
    case rel=>exact⟨4,by omega,rfl,Ab (Aa R).1,Ab (Aa R).2⟩
    case measure=>simp[intOf]
  ·obtain rfl:k=4:=by omega
   have p:=(Aa a).text;rw[show Ii c 4=H3 c from rfl]at p;clear a;go_wp2;go_ret;exact⟨rfl,Aa b⟩
variable {s:ByteArray}
theorem ZJ{W:World}{f:FuncId}{args:Array Value}{v:Value}(h:∀w',Below W.heap.size W w'->Calls Tryz.prog f args w' fun e a=>e=.returned v/\Below w'.heap.size w' a)(d:Nat)(os:Array Obj):
  Calls Tryz.prog f args (grow (redrawn W d) os) fun e a=>e=.returned v/\∃p:Regrown,a=grow (redrawn W p.d) p.os:=
 Calls.regrown_of (h _ (below_regrown W d os))
def FV(s:ByteArray):ByteArray:=st (H3 (sumS s))
def Ee(s:ByteArray):ByteArray:=s++FV s
def Cs(s:ByteArray):ByteArray:=s.extract 0 (s.size-4)
def El(s:ByteArray):ByteArray:=s.extract (s.size-4) s.size
theorem Tn(s:ByteArray):(FV s).size=4:=by unfold FV;rw[Dw];rfl
theorem KF(s:ByteArray):(Ee s).size=s.size+4:=by unfold Ee;rw[ByteArray.size_append,Tn]
theorem fd(s:ByteArray)(h:4<=s.size):(Cs s).size=s.size-4:=by unfold Cs;rw[ByteArray.size_extract];omega
theorem TR(s:ByteArray)(h:4<=s.size):s=Cs s++El s:=by
 unfold Cs El;rw[ByteArray.extract_append_extract];have a:min 0 (s.size-4)=0:=by omega
 have b:max (s.size-4) s.size=s.size:=by omega
 rw[a,b];exact(ByteArray.extract_zero_size).symm
theorem OV(s:ByteArray):Cs (Ee s)=s:=by
 unfold Cs;rw[KF,Nat.add_sub_cancel];unfold Ee;rw[ByteArray.extract_append_size_left];exact ByteArray.extract_zero_size
theorem ma(s:ByteArray):El (Ee s)=FV s:=by
 have h:=TR (Ee s) (by rw[KF];omega);rw[OV]at h;unfold Ee at h;exact(ByteArray.append_right_inj _).1 h|>.symm
def openE(s:ByteArray):Nat:=if s.size<4 then 2 else if El s=FV (Cs s)then 0 else 4
def openT(s:ByteArray):ByteArray:=if openE s=0 then Cs s else⟨#[]⟩
theorem mo(s:ByteArray):openE (Ee s)=0/\openT (Ee s)=s:=by
 have h:openE (Ee s)=0:=by
  unfold openE;rw[if_neg (by rw[KF];omega),if_pos (by rw[ma,OV])]
 exact⟨h,by unfold openT;rw[if_pos h,OV]⟩
theorem mb(s:ByteArray)(h:openE s=0):Ee (openT s)=s:=by
 unfold openT;rw[if_pos h];unfold openE at h;by_cases a:s.size<4
 ·rw[if_pos a]at h;omega
 ·rw[if_neg a]at h
  by_cases b:El s=FV (Cs s)
  ·unfold Ee
   rw[<-b];exact(TR s (by omega)).symm
  ·rw[if_neg b]at h;omega
theorem lA(s:ByteArray)(w:World)(i:s.size<=1048576):
  Calls Tryz.prog 148 #[.string s] w fun e w'=>e=.returned (.string (Ee s))/\Below w.heap.size w w':=by
 have ht:=Tn s;have g:=Ab (show∀w',Calls Tryz.prog 150 #[.string s] w' fun e a=>e=.returned (.string (FV s))/\Below w'.heap.size w' a from fun w'=>Uh s w' i);have d:¬(9223372036854775807<s.size+(FV s).size):=by omega
 unfold Ee;generalize FV s=t at*;go_enter Tryz.func148,Tryz.ntmps148;go_wp2_with fail;refine(Aa g _).mono ?_;rintro e w1 ⟨rfl,b⟩;have f:=Ab b;clear b;go_wp2;go_ret;exact⟨rfl,Aa f⟩
theorem iP(h:s.size<4):openE s=2/\openT s=⟨#[]⟩:=by
 have e:openE s=2:=by unfold openE;rw[if_pos h]
 exact⟨e,by unfold openT;rw[if_neg (by omega)]⟩
theorem rZ(h:¬s.size<4)(a:El s=FV (Cs s)):openE s=0/\openT s=Cs s:=by
 have e:openE s=0:=by unfold openE;rw[if_neg h,if_pos a]
 exact⟨e,by unfold openT;rw[if_pos e]⟩
theorem ZC(h:¬s.size<4)(a:¬El s=FV (Cs s)):openE s=4/\openT s=⟨#[]⟩:=by
 have e:openE s=4:=by unfold openE;rw[if_neg h,if_neg a]
 exact⟨e,by unfold openT;rw[if_neg (by omega)]⟩
theorem Py{a b:ByteArray}{i j:Int}(h:a=b)(h':i=j):Ending.returned (.tuple #[.string a,.int .i64 i])=.returned (.tuple #[.string b,.int .i64 j]):=by rw[h,h']
theorem Ug(s:ByteArray)(w:World)(J:s.size<=1048576):
  Calls Tryz.prog 113 #[.string s] w fun e w'=>e=.returned (.tuple #[.string (openT s),.int .i64 ((openE s:Nat):Int)])/\Below w.heap.size w w':=by
 by_cases j:s.size<4
 ·have u:(s.size:Int)<4:=by omega
  have g:=Ab (iP j);clear j;go_enter Tryz.func113,Tryz.ntmps113;go_wp2;go_ret2;exact⟨Py (Aa g).2.symm (by rw[(Aa g).1];rfl),Below.refl _ _⟩
 ·have u:decide ((s.size:Int)<4)=false:=by rw[decide_eq_false_iff_not];omega
  have I:=fd s (by omega);have H:((s.size:Int)-4).toNat=s.size-4:=by omega
  have y:(0:Int)<=(s.size:Int)-4:=by omega
  have A:(s.size:Int)-4<=(s.size:Int):=by omega
  have C:s.extract 0 (s.size-4)=Cs s:=rfl;have D:s.extract (s.size-4) s.size=El s:=rfl;have q:=ZJ (W:=w) (fun w' _=>Uh (Cs s) w' (by omega));have x:∀w',Calls Tryz.prog 33 #[.string (Cs s)] w' fun e v=>e=.returned (.string (Cs s))/\Below w'.heap.size w' v:=fun w'=>GS (Cs s) w' (by omega);have B:=Ab x;clear x;by_cases m:El s=FV (Cs s)
  ·have g:=Ab (rZ j m)
   have E:((El s).toList==(st (H3 (sumS (Cs s)))).toList)=true:=by
    rw[MA,decide_eq_true (show El s=st (H3 (sumS (Cs s))) from m)]
   clear j m;generalize Cs s=h at*;generalize El s=l at*;generalize st (H3 (sumS h))=t at*;go_enter Tryz.func113,Tryz.ntmps113;go_wp2_with fail;refine wp_region_quiet_below (by kernel_rfl) (by kernel_rfl) ?_
   repeat (with_reducible refine wpQuiet_step (fun K f=>?_);go_simp;first|(with_reducible refine f _ ?_;clear f K)|(apply Exists.intro;apply And.intro;(intro _;go_at_call 150;exact q _ _);with_reducible refine f _ ?_;clear f K))
   refine wpQuiet_nil ?_;intro _ i;obtain⟨⟨n,b⟩,a⟩:=i;subst a;have d:=Ab (below_regrown w n b);generalize grow (redrawn w n) b=w1 at*;clear q;go_wp2_with fail;refine(Aa B _).mono ?_;rintro e w2 ⟨rfl,p⟩;have r:=Ab (Ad (Aa d) p);clear p d;go_wp2;go_ret2;exact⟨Py (Aa g).2.symm (by rw[(Aa g).1];rfl),Aa r⟩
  ·have g:=Ab (ZC j m)
   have E:((El s).toList==(st (H3 (sumS (Cs s)))).toList)=false:=by
    rw[MA,decide_eq_false (show¬El s=st (H3 (sumS (Cs s))) from m)]
   clear j m;generalize Cs s=h at*;generalize El s=l at*;generalize st (H3 (sumS h))=t at*;go_enter Tryz.func113,Tryz.ntmps113;go_wp2_with fail;refine wp_region_quiet_below (by kernel_rfl) (by kernel_rfl) ?_
   repeat (with_reducible refine wpQuiet_step (fun K f=>?_);go_simp;first|(with_reducible refine f _ ?_;clear f K)|(apply Exists.intro;apply And.intro;(intro _;go_at_call 150;exact q _ _);with_reducible refine f _ ?_;clear f K))
   refine wpQuiet_nil ?_;intro _ i;obtain⟨⟨n,b⟩,a⟩:=i;subst a;have d:=Ab (below_regrown w n b);generalize grow (redrawn w n) b=w1 at*;clear q;go_wp2;go_ret2;exact⟨Py (Aa g).2.symm (by rw[(Aa g).1];rfl),Aa d⟩
variable {s t T t':ByteArray}{kd fr ic o l k z h o' l' k' z' h':Int}{xs ys:List Nat}{en:Nat}
def hdK(t:ByteArray):Nat:=(tx t).getD 0 0
def hdF(t:ByteArray):Nat:=(tx t).getD 1 0
def hdI(t:ByteArray):Nat:=num (((tx t).drop 2).take 4)
def EE(t:ByteArray):ByteArray:=t.extract 6 t.size
def F3(t:ByteArray):Prop:=8<=hdF t\/(hdK t≠1/\hdK t≠2)\/(hdK t=1/\6<t.size)
def FZ(kd fr ic o l k z h:Int)(xs:List Nat)(t:ByteArray):Prop:=(kd=0/\fr=0/\ic=0)/\A9 o l k z h xs t
def Ll(T:ByteArray)(kd fr ic:Int):Prop:=kd=hdK T/\fr=hdF T/\ic=hdI T
def IF(T:ByteArray)(kd fr ic o l k z h:Int)(xs:List Nat)(t:ByteArray)(en:Nat):Prop:=
 (T.size<6->en=2/\FZ kd fr ic o l k z h xs t)/\(¬T.size<6->F3 T->en=3/\FZ kd fr ic o l k z h xs t)/\
 (¬T.size<6->¬F3 T->hdK T=1->en=0/\Ll T kd fr ic/\A9 o l k z h xs t)/\
 (¬T.size<6->¬F3 T->hdK T≠1->Cg (EE T) o l k z h xs t en/\(en≠0->kd=0/\fr=0/\ic=0)/\(en=0->Ll T kd fr ic))
def AQ(s:ByteArray)(kd fr ic o l k z h:Int)(xs:List Nat)(t:ByteArray)(en:Nat):Prop:=
 (openE s≠0->en=openE s/\FZ kd fr ic o l k z h xs t)/\(openE s=0->IF (openT s) kd fr ic o l k z h xs t en)
theorem Yh(a:openE s≠0)(b:en=openE s)(d:FZ kd fr ic o l k z h xs t):AQ s kd fr ic o l k z h xs t en:=
 ⟨fun _=>⟨b,d⟩,fun h=>absurd h a⟩
theorem oI(a:T.size<6)(b:en=2)(d:FZ kd fr ic o l k z h xs t):IF T kd fr ic o l k z h xs t en:=
 ⟨fun _=>⟨b,d⟩,fun h=>absurd a h,fun h=>absurd a h,fun h=>absurd a h⟩
theorem Qj(b:¬T.size<6)(a:F3 T)(d:en=3)(e:FZ kd fr ic o l k z h xs t):IF T kd fr ic o l k z h xs t en:=
 ⟨fun h=>absurd h b,fun _ _=>⟨d,e⟩,fun _ h=>absurd a h,fun _ h=>absurd a h⟩
theorem oH(b:¬T.size<6)(d:¬F3 T)(a:hdK T=1)(e:en=0)(f:Ll T kd fr ic)(g:A9 o l k z h xs t):IF T kd fr ic o l k z h xs t en:=
 ⟨fun h=>absurd h b,fun _ h=>absurd h d,fun _ _ _=>⟨e,f,g⟩,fun _ _ h=>absurd a h⟩
theorem WK(b:¬T.size<6)(d:¬F3 T)(a:hdK T≠1)(e:Cg (EE T) o l k z h xs t en)(f:en≠0->kd=0/\fr=0/\ic=0)(g:en=0->Ll T kd fr ic):IF T kd fr ic o l k z h xs t en:=
 ⟨fun h=>absurd h b,fun _ h=>absurd h d,fun _ _ h=>absurd h a,fun _ _ _=>⟨e,f,g⟩⟩
theorem A9.uniq(a:A9 o l k z h xs t)(b:A9 o' l' k' z' h' ys t'):(o=o'/\l=l'/\k=k'/\z=z'/\h=h')/\xs=ys/\t=t':=by
 obtain⟨d,e,f,g,i,j,m⟩:=a;obtain⟨n,p,q,r,u,v,w⟩:=b;rw[d,e,f,g,i,j,m,n,p,q,r,u,v,w];exact⟨⟨rfl,rfl,rfl,rfl,rfl⟩,rfl,rfl⟩
def Qx(kd fr ic o l k z h:Int)(xs:List Nat)(t:ByteArray)(en:Nat)(e b d o' l' k' z' h':Int)(ys:List Nat)(t':ByteArray)(a:Nat):Prop:=
 (kd=e/\fr=b/\ic=d)/\(o=o'/\l=l'/\k=k'/\z=z'/\h=h')/\xs=ys/\t=t'/\en=a
theorem FZ.uniq{i f g:Int}{e:Nat}(u:en=e)(q:FZ kd fr ic o l k z h xs t)(r:FZ i f g o' l' k' z' h' ys t'):Qx kd fr ic o l k z h xs t en i f g o' l' k' z' h' ys t' e:=by
 obtain⟨⟨a,b,c⟩,d⟩:=q;obtain⟨⟨j,m,n⟩,p⟩:=r;have:=d.uniq p;exact⟨⟨a.trans j.symm,b.trans m.symm,c.trans n.symm⟩,this.1,this.2.1,this.2.2,u⟩
theorem AQ.uniq{e b d:Int}{a:Nat}(f:AQ s kd fr ic o l k z h xs t en)(g:AQ s e b d o' l' k' z' h' ys t' a):
  Qx kd fr ic o l k z h xs t en e b d o' l' k' z' h' ys t' a:=by
 by_cases c1:openE s=0
 ·obtain⟨A,B,a3,a4⟩:=f.2 c1
  obtain⟨C,D,E,H⟩:=g.2 c1;generalize openT s=T at*;by_cases c2:T.size<6
  ·exact FZ.uniq ((A c2).1.trans (C c2).1.symm) (A c2).2 (C c2).2
  ·by_cases c3:F3 T
   ·exact FZ.uniq ((B c2 c3).1.trans (D c2 c3).1.symm) (B c2 c3).2 (D c2 c3).2
   ·by_cases c4:hdK T=1
    ·obtain⟨r,⟨u,v,I⟩,J⟩:=a3 c2 c3 c4
     obtain⟨w,⟨x,y,K⟩,L⟩:=E c2 c3 c4;have:=J.uniq L;exact⟨⟨u.trans x.symm,v.trans y.symm,I.trans K.symm⟩,this.1,this.2.1,this.2.2,r.trans w.symm⟩
    ·obtain⟨r,u,v⟩:=a4 c2 c3 c4
     obtain⟨w,x,y⟩:=H c2 c3 c4;obtain⟨u1,u2,u3,u4⟩:=r.uniq w;subst u4;refine⟨?_,u1,u2,u3,rfl⟩;by_cases c5:en=0
     ·obtain⟨i,j,m⟩:=v c5
      obtain⟨n,p,q⟩:=y c5;exact⟨i.trans n.symm,j.trans p.symm,m.trans q.symm⟩
     ·obtain⟨i,j,m⟩:=u c5
      obtain⟨n,p,q⟩:=x c5;exact⟨i.trans n.symm,j.trans p.symm,m.trans q.symm⟩
 ·exact FZ.uniq ((f.1 c1).1.trans (g.1 c1).1.symm) (f.1 c1).2 (g.1 c1).2
def Nl(o l k z h:Int)(xs:List Nat)(s:ByteArray):Prop:=Nf o l k z h xs s 0 0 0 0 0 [] ⟨#[]⟩
def IP(kd o l k z h:Int)(xs:List Nat)(s:ByteArray):Prop:=(kd=1/\Nl o l k z h xs s)\/(kd=2/\Ci o l k z h xs s.size)
def Nd(kd fr ic o l k z h:Int)(xs:List Nat)(s:ByteArray):Prop:=(0<=fr/\fr<=7)/\(0<=ic/\ic<=4294967295)/\IP kd o l k z h xs s
def Fy(kd o l k z h:Int)(xs:List Nat)(s:ByteArray):ByteArray:=if kd=2 then st (BQ o l k z h xs (tx s))else⟨#[]⟩
def DQ(kd fr ic:Int)(b:List Nat):List Nat:=BH kd 1++BH fr 1++BH ic 4++b
def Fz(kd fr ic o l k z h:Int)(xs:List Nat)(s:ByteArray):ByteArray:=Ee (st (DQ kd fr ic (tx (Fy kd o l k z h xs s))))
theorem R9(kd fr ic:Int)(b:List Nat)(a:bytes b):bytes (DQ kd fr ic b):=
 Gh (Gh (Gh (GR _ _) (GR _ _)) (GR _ _)) a
theorem Uq(kd fr ic:Int)(b:List Nat):(DQ kd fr ic b).length=6+b.length:=by
 unfold DQ;simp only[List.length_append,FT,Ed,C4]
theorem Ym(a:IP kd o l k z h xs s):kd=1\/kd=2:=by
 rcases a with h|h
 ·exact .inl h.1
 ·exact .inr h.1
theorem Pf(o l k z h:Int)(xs:List Nat)(s:ByteArray):Fy 1 o l k z h xs s=⟨#[]⟩:=if_neg (by decide)
theorem Mu(o l k z h:Int)(xs:List Nat)(s:ByteArray):Fy 2 o l k z h xs s=st (BQ o l k z h xs (tx s)):=if_pos rfl
theorem ZR{b:List Nat}{K F I:Nat}(f:bytes b)(n:kd=(K:Int))(j:fr=(F:Int))(m:ic=(I:Int))(g:K<256)(i:F<256)(p:I<4294967296):
  (st (DQ kd fr ic b)).size=6+b.length/\hdK (st (DQ kd fr ic b))=K/\hdF (st (DQ kd fr ic b))=F/\hdI (st (DQ kd fr ic b))=I/\EE (st (DQ kd fr ic b))=st b:=by
 have d:(st (DQ kd fr ic b)).size=6+b.length:=by rw[Dw,Uq]
 have ht:=DE (R9 kd fr ic b f);have e:DQ kd fr ic b=K::F::(be 4 I++b):=by
  unfold DQ;rw[Ed,Ed,FT,Ea n (by omega),Ea j (by omega),Ea m (by omega),Jk,Jk,Nat.mod_eq_of_lt g,Nat.mod_eq_of_lt i];simp
 have a:=C4 4 I;refine⟨d,?_,?_,?_,?_⟩
 ·unfold hdK;rw[ht,e];rfl
 ·unfold hdF;rw[ht,e];rfl
 ·unfold hdI
  rw[ht,e,List.drop_succ_cons,List.drop_succ_cons,List.drop_zero,List.take_left' a,Lh];exact Nat.mod_eq_of_lt (by omega)
 ·apply Jj
  unfold EE;rw[Ex,ht,d,DE f,e,List.drop_succ_cons,List.drop_succ_cons];rw[List.drop_left' a];exact List.take_of_length_le (by omega)
theorem pS(xs:List Nat):cnt (xorL xs xs)=0:=R8 _ (dM _)
theorem UC(a:A9 o l k z h xs t):Nl o l k z h xs t:=by
 obtain⟨b,d,e,f,g,i,j⟩:=a;rw[b,d,e,f,g,i,j];exact⟨⟨⟨rfl,rfl,rfl,rfl,rfl⟩,rfl⟩,pS []⟩
theorem bJ(j:6<=T.size):BH (hdK T) 1++BH (hdF T) 1++BH (hdI T) 4=(tx T).take 6:=by
 have b:=Ck T;have n:=AU T;have a:∀i,(tx T).getD i 0<256:=fun i=>b.get i;have f:m64 (hdI T:Int)=hdI T:=Ea rfl (Nat.lt_trans (I3 (Gd (Hk b 2) 4) (k:=4) (by rw[List.length_take];omega)) (by decide));have mk:m64 (hdK T:Int)=hdK T:=Ea rfl (Nat.lt_trans (a 0) (by decide));have e:m64 (hdF T:Int)=hdF T:=Ea rfl (Nat.lt_trans (a 1) (by decide))
 have d:∀i,i<T.size->be 1 ((tx T).getD i 0)=((tx T).drop i).take 1:=fun i m=>by
  rw[Jk,Nat.mod_eq_of_lt (a i)];have:i<(tx T).length:=by omega
  rw[List.drop_eq_getElem_cons this,List.take_succ_cons,List.take_zero,List.getD_eq_getElem?_getD,List.getElem?_eq_getElem this];rfl
 have g:be 4 (hdI T)=((tx T).drop 2).take 4:=Mn (Gd (Hk b 2) 4) (by rw[List.length_take,List.length_drop];omega);rw[FT,Ed,Ed,f,mk,e,g,show be 1 (hdK T)=((tx T).drop 0).take 1 from d 0 (by omega),show be 1 (hdF T)=((tx T).drop 1).take 1 from d 1 (by omega)];rw[List.drop_zero,<-List.take_add,<-List.take_add]
theorem VL(m:AQ s kd fr ic o l k z h xs t 0):
  Nd kd fr ic o l k z h xs t/\Fz kd fr ic o l k z h xs t=s:=by
 have n:openE s=0:=by
  by_cases i:openE s=0
  ·exact i
  ·have:=(m.1 i).1
   omega
 have a:=mb s n;obtain⟨y,A,a3,a4⟩:=m.2 n;unfold Fz;generalize openT s=T at*;have c2:¬T.size<6:=fun h=>by have:=(y h).1;omega
 have c3:¬F3 T:=fun h=>by have:=(A c2 h).1;omega
 have J:¬8<=hdF T:=fun h=>c3 (.inl h);have P:hdI T<4294967296:=Nat.lt_of_lt_of_le (I3 (Gd (Hk (Ck T) 2) 4) (k:=4) (by rw[List.length_take];omega)) (by decide);have E:=bJ (T:=T) (by omega);have Q:=AU T
 suffices e:Ll T kd fr ic/\IP kd o l k z h xs t/\tx (Fy kd o l k z h xs t)=(tx T).drop 6 by
  obtain⟨⟨B,C,D⟩,b,I⟩:=e;refine⟨⟨by omega,by omega,b⟩,?_⟩;unfold DQ;rw[I,B,C,D,E,List.take_append_drop,IG];exact a
 by_cases c4:hdK T=1
 ·obtain⟨_,f,K⟩:=a3 c2 c3 c4
  have H:¬6<T.size:=fun h=>c3 (.inr (.inr ⟨c4,h⟩));have d:kd=1:=by rw[f.1,c4];rfl
  refine⟨f,.inl ⟨d,UC K⟩,?_⟩;rw[d,Pf,List.drop_eq_nil_of_le (by omega)];rfl
 ·have c5:hdK T=2:=by
   by_cases h:hdK T=2
   ·exact h
   ·exact absurd (.inr (.inl ⟨c4,h⟩)) c3
  obtain⟨f,_,L⟩:=a4 c2 c3 c4;have e:=L rfl;have d:kd=2:=by rw[e.1,c5];rfl
  obtain⟨_,ns,g,p,q,r,u,v,w,x⟩|⟨j,_⟩:=f.err
  ·obtain⟨N,O⟩:=Yd ns g
   refine⟨e,.inr ⟨d,?_⟩,?_⟩
   ·unfold E6 at g
    rw[p,q,r,u,v,w,x,N];exact g
   ·rw[d,Mu,p,q,r,u,v,w,x,O]
    unfold EE;rw[Ex,List.take_of_length_le (by rw[List.length_drop];omega)]
  ·omega
theorem AQ.none(b:AQ s kd fr ic o l k z h xs t en)(a:en≠0):FZ kd fr ic o l k z h xs t:=by
 by_cases c1:openE s=0
 ·obtain⟨d,e,a3,a4⟩:=b.2 c1
  generalize openT s=T at*;by_cases c2:T.size<6
  ·exact(d c2).2
  ·by_cases c3:F3 T
   ·exact(e c2 c3).2
   ·by_cases c4:hdK T=1
    ·exact absurd (a3 c2 c3 c4).1 a
    ·obtain⟨f,g,_⟩:=a4 c2 c3 c4
     obtain⟨h,_⟩|⟨_,h⟩:=f.err
     ·exact absurd h a
     ·exact⟨g a,h⟩
 ·exact(b.1 c1).2
def Ga(w:World)(g:Nat)(u0 u1 u2 v0 a b v3 v4 v5 d:Value):Prop:=
 (w.cell? ⟨g,0,none⟩=some u0/\w.cell? ⟨g,1,none⟩=some u1/\w.cell? ⟨g,2,none⟩=some u2)/\w.cell? ⟨g,3,none⟩=some v0/\w.cell? ⟨g,4,none⟩=some a/\w.cell? ⟨g,5,none⟩=some b/\w.cell? ⟨g,6,none⟩=some v3/\w.cell? ⟨g,7,none⟩=some v4/\w.cell? ⟨g,8,none⟩=some v5/\w.cell? ⟨g,9,none⟩=some d
theorem ZU(w:World)(u0 u1 u2 v0 a b v3 v4 v5 d:Value):Ga (w.alloc (.cells #[u0,u1,u2,v0,a,b,v3,v4,v5,d] 157)) w.heap.size u0 u1 u2 v0 a b v3 v4 v5 d:=by
 refine⟨⟨?_,?_,?_⟩,?_,?_,?_,?_,?_,?_,?_⟩<;>simp
theorem Ga.below{w w':World}{g:Nat}{u0 u1 u2 v0 b d v3 v4 v5 f:Value}(h:Ga w g u0 u1 u2 v0 b d v3 v4 v5 f)(v:Below w.heap.size w w'):Ga w' g u0 u1 u2 v0 b d v3 v4 v5 f:=by
 obtain⟨⟨a,i,g2⟩,j,m,n,p,q,r,u⟩:=h;have e:∀o,w'.cell? ⟨g,o,none⟩=w.cell? ⟨g,o,none⟩:=fun o=>v.cell (show g<w.heap.size from World.block_lt_of_cell? w ⟨g,0,none⟩ a);exact⟨⟨(e _).trans a,(e _).trans i,(e _).trans g2⟩,(e _).trans j,(e _).trans m,(e _).trans n,(e _).trans p,(e _).trans q,(e _).trans r,(e _).trans u⟩
theorem px(x:Value)(w:World):(Instr.makeInterface 250 x).run Tryz.prog w=.ok (.iface 250 x) w:=run_makeInterface w 250 x (by kernel_rfl)
theorem Zo(x:Value)(w:World):(Instr.makeInterface 251 x).run Tryz.prog w=.ok (.iface 251 x) w:=run_makeInterface w 251 x (by kernel_rfl)
theorem Ri(v:Value)(w:World):(Instr.typeAssert (.iface 250 v) 20 250 true).run Tryz.prog w=.ok (.tuple #[v,.bool true]) w:=by kernel_rfl
theorem Nq(v:Value)(w:World):(Instr.typeAssert (.iface 251 v) 20 251 true).run Tryz.prog w=.ok (.tuple #[v,.bool true]) w:=by kernel_rfl
theorem Rh(v:Value)(w:World):(Instr.typeAssert (.iface 251 v) 20 250 true).run Tryz.prog w=.ok (.tuple #[.agg #[.int .i64 0,.int .i64 0,.int .i64 0,.int .i64 0,.int .i64 0,.slice none 0 0,.string ⟨#[]⟩],.bool false]) w:=by kernel_rfl
theorem bD(v:Value)(w:World):(Instr.typeAssert (.iface 250 v) 20 251 true).run Tryz.prog w=.ok (.tuple #[.agg #[.int .i64 0,.int .i64 0,.int .i64 0,.int .i64 0,.int .i64 0,.slice none 0 0,.string ⟨#[]⟩],.bool false]) w:=by kernel_rfl
theorem Rk(w:World):(Instr.typeAssert .nilIface 20 250 true).run Tryz.prog w=.ok (.tuple #[.agg #[.int .i64 0,.int .i64 0,.int .i64 0,.int .i64 0,.int .i64 0,.slice none 0 0,.string ⟨#[]⟩],.bool false]) w:=by kernel_rfl
theorem Rj(w:World):(Instr.typeAssert .nilIface 20 251 true).run Tryz.prog w=.ok (.tuple #[.agg #[.int .i64 0,.int .i64 0,.int .i64 0,.int .i64 0,.int .i64 0,.slice none 0 0,.string ⟨#[]⟩],.bool false]) w:=by kernel_rfl
theorem Sc(n d:Int)(w:World)(b:Bool)(f:TB b (0<=n/\n<=d)):
  Calls Tryz.prog 169 #[.int .i64 n,.int .i64 d] w fun e w'=>e=.returned (.bool b)/\w'=w:=by
 have a:=Ab f;clear f;by_cases g:0<=n
 ·by_cases i:n<=d
  ·go_enter Tryz.func169,Tryz.ntmps169
   go_wp2;go_ret;exact⟨Ce ((Aa a).yes ⟨g,i⟩).symm,rfl⟩
  ·go_enter Tryz.func169,Tryz.ntmps169
   go_wp2;go_ret;exact⟨Ce ((Aa a).no (fun h=>by omega)).symm,rfl⟩
 ·go_enter Tryz.func169,Tryz.ntmps169
  go_wp2;go_ret;exact⟨Ce ((Aa a).no (fun h=>by omega)).symm,rfl⟩
def Gw(kd:Int)(v0 a b v3 v4 v5 d:Value):Value:=if kd=1 then .iface 250 (.agg #[v0,a,b,v3,v4,v5,d])else if kd=2 then .iface 251 (.agg #[v0,a,b,v3,v4,v5,d])else .nilIface
theorem M4(v0 a b v3 v4 v5 d:Value):Gw 1 v0 a b v3 v4 v5 d=.iface 250 (.agg #[v0,a,b,v3,v4,v5,d]):=rfl
theorem M5(v0 a b v3 v4 v5 d:Value):Gw 2 v0 a b v3 v4 v5 d=.iface 251 (.agg #[v0,a,b,v3,v4,v5,d]):=rfl
theorem Ql{kd:Int}(a:kd≠1)(b:kd≠2)(v0 d e v3 v4 v5 f:Value):Gw kd v0 d e v3 v4 v5 f=.nilIface:=by
 unfold Gw;rw[if_neg a,if_neg b]
theorem Pe(kd:Int)(u1 u2 v0 b d v3 v4 v5 f:Value)(w:World):
  Calls Tryz.prog 116 #[.agg #[.int .i64 kd,u1,u2,v0,b,d,v3,v4,v5,f]] w fun e w'=>e=.returned (Gw kd v0 b d v3 v4 v5 f)/\Below w.heap.size w w':=by
 have a:=Ab (Bv w (.cells #[.int .i64 kd,u1,u2,v0,b,d,v3,v4,v5,f] 157));have j:=px;have m:=Zo;by_cases g:kd=1
 ·subst g
  rw[M4];go_enter Tryz.func116,Tryz.ntmps116;go_wp2;go_ret;exact⟨rfl,Aa a⟩
 ·by_cases i:kd=2
  ·subst i
   rw[M5];go_enter Tryz.func116,Tryz.ntmps116;go_wp2;go_ret;exact⟨rfl,Aa a⟩
  ·rw[Ql g i]
   go_enter Tryz.func116,Tryz.ntmps116;go_wp2;go_ret;exact⟨rfl,Aa a⟩
theorem gM(o l k z h:Int)(a:Option Addr)(n c:Nat)(xs:List Nat)(s:ByteArray)(w:World)(ht:Tab w)(m:RowAt w a n xs)(j:n<=1048576)(b:Bool)(i:TB b (Nl o l k z h xs s)):
  Calls Tryz.prog 170 #[.iface 250 (.agg #[.int .i64 o,.int .i64 l,.int .i64 k,.int .i64 z,.int .i64 h,.slice a n c,.string s])] w fun e w'=>e=.returned (.bool b)/\Below w.heap.size w w':=by
 have u:=Ab (ht.below (Bv w (.cells #[.int .i64 o,.int .i64 l,.int .i64 k,.int .i64 z,.int .i64 h,.slice a n c,.string s] 250)));have q:=Ab (GQ m (.cells #[.int .i64 o,.int .i64 l,.int .i64 k,.int .i64 z,.int .i64 h,.slice a n c,.string s] 250));have r:=Ab (fun wx (g:Tab wx) (f:RowAt wx a n xs)=>TI o l k z h a n c xs s 0 0 0 0 0 none 0 0 [] ⟨#[]⟩ wx g f (Dv _) j (by decide) b i);have p:=Ab (Bv w (.cells #[.int .i64 o,.int .i64 l,.int .i64 k,.int .i64 z,.int .i64 h,.slice a n c,.string s] 250));have v:=Ri;clear i ht m j;go_enter Tryz.func170,Tryz.ntmps170;go_wp2_with fail;refine(Aa r _ (Aa u) (Aa q)).mono ?_;rintro e w1 ⟨rfl,d⟩;have B1:=Ab (Ad (Aa p) d);clear d;go_wp2;go_ret;exact⟨rfl,Aa B1⟩
theorem lg(o l k z h:Int)(a:Option Addr)(n c:Nat)(xs:List Nat)(s:ByteArray)(w:World)(r:RowAt w a n xs)(b:Bool)(q:TB b (Ci o l k z h xs s.size)):
  Calls Tryz.prog 170 #[.iface 251 (.agg #[.int .i64 o,.int .i64 l,.int .i64 k,.int .i64 z,.int .i64 h,.slice a n c,.string s])] w fun e w'=>e=.returned (.bool b)/\Below w.heap.size w w':=by
 obtain⟨ck,d⟩:=Ns (Ci o l k z h xs s.size);have m:=Ab q;have i:=Ab d;have p:=Ab (EV o l k z h a n c xs s _ (GQ r (.cells #[.int .i64 o,.int .i64 l,.int .i64 k,.int .i64 z,.int .i64 h,.slice a n c,.string s] 251)) ck d);have u:=Ab (Bv w (.cells #[.int .i64 o,.int .i64 l,.int .i64 k,.int .i64 z,.int .i64 h,.slice a n c,.string s] 251));have v:=Rh;have x:=Nq;clear q r d;go_enter Tryz.func170,Tryz.ntmps170;go_wp2_with fail;refine(Aa p).mono ?_;rintro e w1 ⟨rfl,g⟩;have B1:=Ab (Ad (Aa u) g);clear g p;rcases(Aa i)with⟨f,rfl⟩|⟨f,rfl⟩
 ·have j:=Ab f
  clear f i;go_wp2;go_ret;exact⟨Ce ((Aa m).yes (Aa j)).symm,Aa B1⟩
 ·have j:=Ab f
  clear f i;go_wp2;go_ret;exact⟨Ce ((Aa m).no (Aa j)).symm,Aa B1⟩
theorem lh(w:World):Calls Tryz.prog 170 #[.nilIface] w fun e w'=>e=.returned (.bool false)/\w'=w:=by
 have a:=Rk;have b:=Rj;go_enter Tryz.func170,Tryz.ntmps170;go_wp2;go_ret;exact⟨rfl,rfl⟩
theorem kG(kd o l k z h:Int)(a:Option Addr)(n c:Nat)(xs:List Nat)(s:ByteArray)(w:World)(ht:Tab w)(i:RowAt w a n xs)(m:n<=1048576)(b:Bool)(d:TB b (IP kd o l k z h xs s)):
  Calls Tryz.prog 170 #[Gw kd (.int .i64 o) (.int .i64 l) (.int .i64 k) (.int .i64 z) (.int .i64 h) (.slice a n c) (.string s)] w fun e w'=>e=.returned (.bool b)/\Below w.heap.size w w':=by
 by_cases f:kd=1
 ·subst f
  rw[M4];refine gM o l k z h a n c xs s w ht i m b ⟨fun h=>?_,fun h=>d.2 (.inl ⟨rfl,h⟩)⟩;rcases d.1 h with h|h
  ·exact h.2
  ·exact absurd h.1 (by decide)
 ·by_cases g:kd=2
  ·subst g
   rw[M5];refine lg o l k z h a n c xs s w i b ⟨fun h=>?_,fun h=>d.2 (.inr ⟨rfl,h⟩)⟩;rcases d.1 h with h|h
   ·exact absurd h.1 (by decide)
   ·exact h.2
  ·rw[Ql f g]
   refine(lh w).mono fun e w' ⟨j,p⟩=>⟨?_,by rw[p];exact Below.refl _ _⟩;rw[j,d.no (fun h=>by rcases Ym h with h|h;exact f h;exact g h)]
theorem fz(kd fr ic o l k z h:Int)(a:Option Addr)(n c:Nat)(xs:List Nat)(s:ByteArray)(w:World)(ht:Tab w)(I:RowAt w a n xs)(H:n<=1048576)(en:Nat)(g:ER en (Nd kd fr ic o l k z h xs s)):
  Calls Tryz.prog 146 #[.agg #[.int .i64 kd,.int .i64 fr,.int .i64 ic,.int .i64 o,.int .i64 l,.int .i64 k,.int .i64 z,.int .i64 h,.slice a n c,.string s]] w fun e w'=>e=.returned (.int .i64 ((en:Nat):Int))/\Below w.heap.size w w':=by
 obtain⟨A,D⟩:=E3 (0<=fr/\fr<=7);obtain⟨B,E⟩:=E3 (0<=ic/\ic<=4294967295);obtain⟨C,r⟩:=E3 (IP kd o l k z h xs s);have p:=Ab D;have q:=Ab E;have y:=Ab r;have j:=Ab g;have K:=Ab (fun wx (v:Tab wx) (u:RowAt wx a n xs)=>kG kd o l k z h a n c xs s wx v u H C r);have J:=Ab (fun wx=>Pe kd (.int .i64 fr) (.int .i64 ic) (.int .i64 o) (.int .i64 l) (.int .i64 k) (.int .i64 z) (.int .i64 h) (.slice a n c) (.string s) wx);have N:=Ab ht;have L:=Ab I;have m:=Ab (Bv w (.cells #[.int .i64 kd,.int .i64 fr,.int .i64 ic,.int .i64 o,.int .i64 l,.int .i64 k,.int .i64 z,.int .i64 h,.slice a n c,.string s] 157));generalize Gw kd (.int .i64 o) (.int .i64 l) (.int .i64 k) (.int .i64 z) (.int .i64 h) (.slice a n c) (.string s)=V at*;clear D E r g ht I H;go_enter Tryz.func146,Tryz.ntmps146;go_wp2_with fail;refine(Sc fr 7 _ A (Aa p)).mono ?_;rintro e w' ⟨rfl,i⟩;obtain rfl:=i.symm;clear i;cases A
 ·rcases(Aa j)with⟨b,rfl⟩|⟨b,rfl⟩
  ·exact absurd ((Aa p).2 b.1) (by decide)
  ·clear b
   go_wp2;go_ret;exact⟨rfl,Aa m⟩
 ·go_wp2_with fail
  refine(Sc ic 4294967295 _ B (Aa q)).mono ?_;rintro e w' ⟨rfl,i⟩;obtain rfl:=i.symm;clear i;cases B
  ·rcases(Aa j)with⟨b,rfl⟩|⟨b,rfl⟩
   ·exact absurd ((Aa q).2 b.2.1) (by decide)
   ·clear b
    go_wp2;go_ret;exact⟨rfl,Aa m⟩
  ·go_wp2_with fail
   refine(Aa J _).mono ?_;rintro e w1 ⟨rfl,d⟩;have B1:=Ab (Ad (Aa m) d);clear d;go_wp2_with fail;refine(Aa K _ ((Aa N).below (Aa B1)) ((Aa L).below (Aa B1))).mono ?_;rintro e w2 ⟨rfl,f⟩;have x:=Ab (Ad (Aa B1) f);clear f;cases C
   ·rcases(Aa j)with⟨b,rfl⟩|⟨b,rfl⟩
    ·exact absurd ((Aa y).2 b.2.2) (by decide)
    ·clear b
     go_wp2;go_ret;exact⟨rfl,Aa x⟩
   ·rcases(Aa j)with⟨b,rfl⟩|⟨b,rfl⟩
    ·clear b
     go_wp2;go_ret;exact⟨rfl,Aa x⟩
    ·exact absurd ⟨(Aa p).1 rfl,(Aa q).1 rfl,(Aa y).1 rfl⟩ b
end Go.Proofs.YtfpmnekaockodaaGreatDoor
