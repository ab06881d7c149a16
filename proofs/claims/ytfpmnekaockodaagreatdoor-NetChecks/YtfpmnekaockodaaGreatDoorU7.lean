/-
  Laws that the proof stands on.
-/
import Derived.Test.YtfpmnekaockodaaGreatDoorU6
import Derived.Deep.LoopGhost
import Derived.ProofKit
import Derived.OpenShut
import Derived.ShutString
import Derived.ChangeOld
import Derived.ChangeMaps5
import Derived.SliceStrings
import Derived.Deep.SlicePairs
import Derived.Deep.DeepHandedRow
import Derived.Lib.LaidTab
import Derived.Below
import Derived.Lib.BitFns
namespace Go.Proofs.YtfpmnekaockodaaGreatDoor
open Go.RowKit Go.Sort Go.ChangeShapes Go.WideShapes Go.ChangeAt
set_option linter.unusedVariables false
set_option linter.unusedSimpArgs false
set_option maxRecDepth 4000
set_option maxHeartbeats 8000000
variable {k:Int}{ss:List ByteArray}{kn:List Nat}{rs:List RV}{n g:Nat}{S:Nat->Bool}{cs:Nat->List Nat}{w:World}
def Fv(k:Int)(kn:List Nat)(r:RV):Bool:=AU k r.xs&& !decide (cnt (dropL r.xs kn)=0)&& !decide (cnt (dropL r.xs kn)=1)
def restL(k:Int)(rs:List RV)(kn:List Nat)(bs:List ByteArray):List (List Nat×ByteArray):=(rs.filter (Fv k kn)).map fun r=>(dropL r.xs kn,Do bs r.xs r.s)
def BU(k:Int)(rs:List RV)(n:Nat)(S:Nat->Bool)(cs:Nat->List Nat)(kn:List Nat):Prop:=
 (∀p,S p=true->p<n/\AU k (rs.getD p .dflt).xs=true/\dropL (cs p) kn=dropL (rs.getD p .dflt).xs kn)/\∀p,p<n->AU k (rs.getD p .dflt).xs=true->S p=false->cnt (dropL (rs.getD p .dflt).xs kn)=0
theorem BU.start(k:Int)(rs:List RV)(n:Nat)(kn:List Nat):BU k rs n (CF k rs n) (fun p=>(rs.getD p .dflt).xs) kn:=by
 refine⟨fun p hp=>?_,fun p hp b a=>?_⟩
 ·unfold CF at hp
  rw[Bool.and_eq_true,decide_eq_true_eq]at hp;exact⟨hp.1,hp.2,rfl⟩
 ·unfold CF at a
  rw[b,decide_eq_true hp]at a;cases a
theorem BU.next(h:BU k rs n S cs kn):
  (∀p,Dy S cs kn p=true->p<n/\AU k (rs.getD p .dflt).xs=true/\dropL (cs p) kn=dropL (rs.getD p .dflt).xs kn/\¬cnt (dropL (rs.getD p .dflt).xs kn)=0)/\∀p,p<n->AU k (rs.getD p .dflt).xs=true->Dy S cs kn p=false->cnt (dropL (rs.getD p .dflt).xs kn)=0:=by
 refine⟨fun p hp=>?_,fun p hp i b=>?_⟩
 ·unfold Dy at hp
  rw[Bool.and_eq_true]at hp;obtain⟨d,f,c⟩:=h.1 p hp.1;refine⟨d,f,c,fun e=>?_⟩;rw[c,e]at hp;simp at hp
 ·cases a:S p
  ·exact h.2 p hp i a
  ·unfold Dy at b
   rw[a,Bool.true_and]at b;rw[<-(h.1 p a).2.2];simpa using b
theorem BU.tell{e:List Nat}(h:BU k rs n S cs kn)(f:∀p,p<n->Ac (rs.getD p .dflt).xs)(d:∀i,Ai kn i=true->Ai e i=true):BU k rs n (Dy S cs kn) (fun p=>dropL (cs p) kn) e:=by
 obtain⟨l,m⟩:=h.next;refine⟨fun p hp=>?_,fun p hp q o=>?_⟩
 ·obtain⟨a,b,c,_⟩:=l p hp
  refine⟨a,b,?_⟩;show dropL (dropL (cs p) kn) e=_;rw[c,eK _ _ _ d (f p a)]
 ·have j:=O1.1 (m p hp q o)
  refine O1.2 fun i=>?_;have:=j i;rw[G7]at this⊢;cases r:Ai (rs.getD p .dflt).xs i
  ·rfl
  ·rw[r]at this
   simp at this;rw[d i this];rfl
theorem BU.found{first:Nat}(h:BU k rs n S cs kn)(q:rs.length=n)(m:first<n)(f:S first=true/\cnt (dropL (cs first) kn)=1)(i:∀p,S p=true->cnt (dropL (cs p) kn)=1->first<=p):
  rs.find? (Cv k kn)=some (rs.getD first .dflt)/\Cv k kn (rs.getD first .dflt)=true:=by
 obtain⟨a,b,c⟩:=h.1 first f.1
 have ht:Cv k kn (rs.getD first .dflt)=true:=by
  unfold Cv;rw[b,<-c,f.2];rfl
 refine⟨YJ (by omega) ht fun j o=>?_,ht⟩;cases e:AU k (rs.getD j .dflt).xs
 ·unfold Cv;rw[e];rfl
 ·unfold Cv
  rw[e,Bool.true_and,decide_eq_false_iff_not];intro l;cases d:S j
  ·have:=h.2 j (by omega) e d;omega
  ·have:=i j d (by rw[(h.1 j d).2.2];exact l);omega
theorem BU.nomore(h:BU k rs n S cs kn)(f:rs.length=n)(c:∀p,S p=true->cnt (dropL (cs p) kn)=1->n<=p):rs.find? (Cv k kn)=none:=by
 refine XU fun j e=>?_;cases b:AU k (rs.getD j .dflt).xs
 ·unfold Cv;rw[b];rfl
 ·unfold Cv
  rw[b,Bool.true_and,decide_eq_false_iff_not];intro d;cases a:S j
  ·have:=h.2 j (by omega) b a;omega
  ·have:=c j a (by rw[(h.1 j a).2.2];exact d);omega
theorem dF(rs:List RV)(q:RV->Bool)(g:RV->List Nat×ByteArray):((List.range rs.length).filter fun p=>q (rs.getD p .dflt)).map (fun p=>g (rs.getD p .dflt))=(rs.filter q).map g:=by
 have e:(List.range rs.length).map (fun p=>rs.getD p .dflt)=rs:=by
  apply List.ext_getElem
  ·simp
  ·intro i b a
   simp[List.getD_eq_getElem?_getD,List.getElem?_eq_getElem a]
 conv=>rhs;rw[<-e,List.filter_map,List.map_map]
 rfl
theorem BU.rest(h:BU k rs n S cs kn)(q:rs.length=n)(f:rs.find? (Cv k kn)=none)(bs:List ByteArray):Fq (Dy S cs kn) (fun p=>dropL (cs p) kn) bs rs n=restL k rs kn bs:=by
 obtain⟨i,o⟩:=h.next
 have l:∀p,p<n->Dy S cs kn p=Fv k kn (rs.getD p .dflt):=fun p hp=>by
  have e:Cv k kn (rs.getD p .dflt)=false:=by
   rw[<-Bool.not_eq_true];have:=List.find?_eq_none.1 f rs[p] (List.getElem_mem (by omega));rwa[List.getD_eq_getElem?_getD,List.getElem?_eq_getElem (by omega)]
  unfold Fv;unfold Cv at e;cases j:Dy S cs kn p
  ·cases u:AU k (rs.getD p .dflt).xs
   ·rfl
   ·rw[o p hp u j];rfl
  ·obtain⟨a,b,c,d⟩:=i p j
   rw[b,Bool.true_and]at e;rw[b,decide_eq_false d,e];rfl
 unfold Fq restL;subst q;rw[<-dF rs (Fv k kn) fun r=>(dropL r.xs kn,Do bs r.xs r.s)];have m:((List.range rs.length).filter fun p=>Dy S cs kn p)=((List.range rs.length).filter fun p=>Fv k kn (rs.getD p .dflt)):=List.filter_congr fun p hp=>l p (List.mem_range.1 hp);rw[m];apply List.map_congr_left;intro p hp;rw[List.mem_filter,List.mem_range]at hp;have:=i p (by rw[l p hp.1];exact hp.2);show(dropL (cs p) kn,_)=_;rw[this.2.2.1]
theorem Pw{a:Option Addr}(h:Aj w a n rs)(f:Af rs):Dm rs:=fun r e=>by
 obtain⟨i,d,rfl⟩:=List.mem_iff_getElem.1 e;have b:=h.2.1 i (by rw[<-h.1];exact d);have c:=f i;rw[List.getD_eq_getElem?_getD,List.getElem?_eq_getElem d]at b c;exact⟨b.2.1,c.2⟩
def Xv(w wr:World)(v:PV)(K:Nat)(rs:List RV)(f:Nat->Nat×Nat)(gk:Nat)(S:Nat->Bool)(cs:Nat->List Nat)(kn:List Nat)(bs:List ByteArray):Prop:=
 ∃j,Run (K:Int) rs j kn bs/\K=gk+j/\PS wr w.heap.size v (sizeOfK (K:Int)) S f cs kn bs/\BU (K:Int) rs v.n S cs kn/\Below w.heap.size w wr
def DH(w w':World)(k:Int)(rs:List RV)(c:Option Addr)(e c1:Nat)(a:List RV)(d:Option Addr)(f c2:Nat)(b:List RV):Prop:=
 ∃kn bs,AM k rs kn bs/\Ak w' w.heap.size (.slice c e c1) a/\Ae w' a/\a.map core=toldTo k kn bs k.toNat/\Ak w' w.heap.size (.slice d f c2) b/\Ae w' b/\b.map core=restL k rs kn bs/\Below w.heap.size w w'
theorem pL(K:Nat)(a:Option Addr)(n c:Nat)(rs:List RV)(w:World)(ht:Tab w)(C:0<sizeOfK (K:Int))(h:Aj w a n rs)(hs:Af rs)(hn:n<=1048576):
  Calls Tryz.prog 254 #[.int .i64 (K:Int),.slice a n c] w fun e w'=> ∃a1 m1 c1 X a2 m2 c2 Y,e=.returned (.tuple #[.slice a1 m1 c1,.slice a2 m2 c2])/\DH w w' (K:Int) rs a1 m1 c1 X a2 m2 c2 Y:=by
 have V:=DZ C;have hK:K<=128:=by omega
 have bl:=DY (K:Int);have hg:=Pw h hs;have ar:∀p,p<n->Ac (rs.getD p .dflt).xs:=fun p hp=>(h.2.1 p hp).2.1;have I:=Ab (fun(j:Nat) (kn:List Nat) (bs:List ByteArray) (hr:Run (K:Int) rs j kn bs)=>Run.known C hg hr);have ax:=Ab (jS K a n c rs w C h hs hn);have E:((sizeOfK (K:Int):Nat):Int)≠0:=by omega
 have bf:(((sizeOfK (K:Int):Nat):Int)==0)=false:=by rw[beq_eq_false_iff_ne];exact E
 have HZ:=Ab (Hg (K:Int) w);have Hh:=Ab h;have Hs:=Ab hs;have HT:=Ab ht;have ae:=Ab ar;have HL:=Ab h.1;clear h hs ht ar hg V C E;generalize bi:sizeOfK (K:Int)=zz at HZ bf;clear bi;go_enter Tryz.func254,Tryz.ntmps254;go_wp2_with (first|(go_at_call 176;refine(Aa HZ).mono ?_;rintro e w9 ⟨rfl,av⟩;obtain rfl:=av.symm;clear av)|(go_at_call 278;refine(Aa ax).mono ?_;rintro e w1 ⟨g,kg,bg,f,rfl,l,q⟩;have L:=Ab l;have s:=Ab q;clear l q));go_loopg [7] K (fun gk _ wr=> ∃(S:Nat->Bool) (cs:Nat->List Nat) (kn:List Nat) (bs:List ByteArray),Hid (Xv w wr ⟨g,a,n,c,kg,sizeOfK (K:Int),bg,K,w.heap.size⟩ K rs f gk S cs kn bs))
 case atStart=>exact⟨_,_,_,_,Ab ⟨0,⟨rfl,by rw[Int.toNat_natCast]⟩,by omega,Aa L,BU.start _ _ _ _,Aa s⟩⟩
 case round=>
  obtain⟨S,cs,kn,bs,ab⟩:=hrel;obtain⟨j,y,ah,ai,D,A⟩:=Aa ab;have u:=Aa I j kn bs y;have T:=u.lenb;rw[Int.toNat_natCast]at T;have bd:=u.len;have J:=Ab (pa w.heap.size ⟨g,a,n,c,kg,sizeOfK (K:Int),bg,K,w.heap.size⟩ (sizeOfK (K:Int)) S f cs kn bs wr ai A.size (by omega) (by omega) hn);have aj:=(Aa Hh).below A;have o:=Ab D;have ad:=Ab y;have ay:=Ab A;have bj:=Ab aj;have Z:=Ab ah;have aa:=Ab u;have al:=Ab u.shorts;clear L s ai D A y aj u ab ah;go_wp2_with fail;refine(Aa J).mono ?_;rintro e w1 ⟨first,rfl,l,q,am,r,B⟩;have b:=(Aa ay).trans q;have s:=Ab b;have ac:=Ab ((Aa Hh).below b);have a9:=Ab ((Aa HT).below b);have L:=Ab l;by_cases d:first<n
  ·obtain⟨an,au⟩:=(Aa o).found (Aa HL) d (r d) B
   obtain⟨hv,R,bc,bh,ak,ao⟩:=KG (Aa ae first d) au;rw[Int.toNat_natCast]at ak;have ap:Dy S cs kn first=true:=by
    unfold Dy;rw[(r d).1,(r d).2];rfl
   have H:∀i,Ai kn i=true->Ai (BC kn (blkOf kn (rs.getD first .dflt)) true) i=true:=fun i hi=>by
    rw[Ir _ _ _ _ (by have:=DZ (Aa aa).size;omega)];split
    ·rfl
    ·exact hi
   have ba:=Ab (qv w.heap.size ⟨g,a,n,c,kg,sizeOfK (K:Int),bg,K,w.heap.size⟩ (sizeOfK (K:Int)) (Dy S cs kn) f (fun p=>dropL (cs p) kn) kn bs rs first (blkOf kn (rs.getD first .dflt)) w1 (Aa a9) l b.size (Aa ac) (Aa Hs) hn (Aa al) (by omega) (by omega) (by omega) ap
    (by show firstI (dropL (cs first) kn)=_;rw[((Aa o).1 first (r d).1).2.2];exact ao) (by omega) (by have:=DZ (Aa aa).size;omega))
   have a3:=Ab ((Aa o).tell (Aa ae) H);have N:=Ab (show Run (K:Int) rs (j+1) _ _ from⟨kn,bs,_,Aa ad,an,rfl,rfl⟩);have x:decide (first<n)=true:=decide_eq_true d;rw[x];clear an au hv R bc bh ak ao ap H x am r B l q b J;go_wp2_with (go_at_call 282;refine(Aa ba).mono ?_;rintro e w2 ⟨rfl,aq,v⟩;have a4:=Ab aq;have aw:=Ab ((Aa s).trans v);clear aq v);go_roundg (gk-1)
   case measure=>
    have:=(Aa I (j+1) _ _ (Aa N)).le;rw[Int.toNat_natCast]at this;have:=Aa Z;omega
   case rel=>
    have h1:=(Aa I (j+1) _ _ (Aa N)).le;rw[Int.toNat_natCast]at h1;have h2:=Aa Z;exact⟨_,_,_,_,Ab ⟨j+1,Aa N,by omega,Aa a4,Aa a3,Aa aw⟩⟩
  ·have bb:first=n:=by omega
   have m:=(Aa o).nomore (Aa HL) (fun p hp hc=>by have:=B p hp hc;omega);have a5:=Ab (show AM (K:Int) rs kn bs from⟨⟨j,Aa ad⟩,m⟩);have a6:=Ab ((Aa o).rest (Aa HL) m bs);have af:=Ab (qy w.heap.size ⟨g,a,n,c,kg,sizeOfK (K:Int),bg,K,w.heap.size⟩ kn bs w1 l.1 (by omega) (by omega));have a7:=Ab (fun w2 (v:Below w1.heap.size w1 w2)=>rX w.heap.size ⟨g,a,n,c,kg,sizeOfK (K:Int),bg,K,w.heap.size⟩ (sizeOfK (K:Int)) (Dy S cs kn) f (fun p=>dropL (cs p) kn) kn bs rs w2 (l.below v) ((Aa ac).below v) (Aa Hs) hn (Aa al) (by omega));rw[T]at af;have x:decide (first<n)=false:=decide_eq_false d;rw[x];clear m x am r B l q b J d bb o T bd;go_wp2_with (first|(go_at_call 280;refine(Aa af).mono ?_;rintro e w2 ⟨a1,m1,c1,X,rfl,P⟩;have az:=Ab P;have a8:=Ab (Aa a7 w2 P.2.2.2.2);clear P)|(go_at_call 281;refine(Aa a8).mono ?_;rintro e w3 ⟨a2,m2,c2,Y,rfl,ag⟩;have a0:=Ab ag;clear ag));go_ret2;have g1:=Aa az;have g2:=Aa a0;have Q:=g2.2.2.2.2;have O:=Aa s;refine⟨a1,m1,c1,X,a2,m2,c2,Y,rfl,kn,bs,Aa a5,(g1.1.below Q).mono O.size,g1.2.1.below Q,?_,g2.1.mono (Nat.le_trans O.size g1.2.2.2.2.size),g2.2.1,?_,Ad (Ad O g1.2.2.2.2) Q⟩
   ·rw[Int.toNat_natCast];exact g1.2.2.2.1
   ·rw[<-Aa a6];exact g2.2.2.2.1
theorem IV(h:sizeOfK k=0):AM k rs [] (List.replicate k.toNat ByteArray.empty)/\toldTo k [] (List.replicate k.toNat ByteArray.empty) k.toNat=[]/\restL k rs [] (List.replicate k.toNat ByteArray.empty)=[]:=by
 have a:∀xs,AU k xs=false:=fun xs=>by
  rw[<-Bool.not_eq_true];intro c;have:=(Gf c).1;omega
 refine⟨⟨⟨0,by rw[h];rfl,rfl⟩,?_⟩,?_,?_⟩
 ·rw[List.find?_eq_none]
  intro r _;unfold Cv;rw[a];simp
 ·unfold toldTo
  rw[List.filter_eq_nil_iff.2 (fun b _=>by rw[VM];simp)];rfl
 ·unfold restL
  rw[List.filter_eq_nil_iff.2 (fun r _=>by unfold Fv;rw[a];simp)];rfl
theorem pK(k:Int)(a:Option Addr)(n c:Nat)(rs:List RV)(w:World)(ht:Tab w)(h:Aj w a n rs)(u:Af rs)(A:n<=1048576):
  Calls Tryz.prog 254 #[.int .i64 k,.slice a n c] w fun e w'=> ∃o v c1 l p x c2 m,e=.returned (.tuple #[.slice o v c1,.slice p x c2])/\DH w w' k rs o v c1 l p x c2 m:=by
 by_cases j:sizeOfK k=0
 ·have f:=Hg k w
  rw[j]at f;have f:=Ab f;obtain⟨q,r,s⟩:=IV (rs:=rs) j;have y:Hid (DH w w k rs none 0 0 [] none 0 0 []):=Ab ⟨_,_,q,Ak.nil _ _,Ae.nil _,r.symm,Ak.nil _ _,Ae.nil _,s.symm,Below.refl _ _⟩;clear h u ht q r s j;go_enter Tryz.func254,Tryz.ntmps254;go_wp2_with (first|(go_at_call 176;refine(Aa f).mono ?_;rintro e B ⟨rfl,d⟩;obtain rfl:=d.symm;clear d));go_ret2;exact⟨none,0,0,[],none,0,0,[],rfl,Aa y⟩
 ·have b:0<sizeOfK k:=by omega
  have i:=DZ b;obtain⟨K,rfl⟩:=Int.eq_ofNat_of_zero_le (show 0<=k by omega);exact pL K a n c rs w ht b h u A
def A2(w:World)(g:Nat)(ss:List ByteArray):Prop:=∀i,i<ss.length->w.cell? ⟨g,i,none⟩=some (.string (ss.getD i ByteArray.empty))/\w.frozen? ⟨g,i,none⟩=false
theorem A2.texts(h:A2 w g ss):As w (some ⟨g,0,none⟩) ss.length ss:=
 ⟨rfl,.inr ⟨g,0,rfl,fun i a=>by rw[Nat.zero_add];exact(h i a).1⟩⟩
theorem A2.alloc(h:A2 w g ss)(a:g<w.heap.size)(o:Obj):A2 (w.alloc o) g ss:=fun i b=>
 ⟨(World.cell?_alloc_lt (h:=by exact a) ..).trans (h i b).1,(World.frozen?_alloc_old (h:=by exact Nat.ne_of_lt a) ..).trans (h i b).2⟩
theorem Sj(ss:List ByteArray)(k i:Nat)(z:ByteArray)(a:k<ss.length):(ss.set k z).getD i ByteArray.empty=if i=k then z else ss.getD i ByteArray.empty:=by
 simp only[List.getD_eq_getElem?_getD,List.getElem?_set];by_cases h:k=i
 ·subst h;simp[a]
 ·simp[h,Ne.symm h]
theorem A2.stored(h:A2 w g ss)(k:Nat)(z:ByteArray)(c:k<ss.length):A2 (w.setCell ⟨g,k,none⟩ (.string z)) g (ss.set k z):=by
 intro i a;rw[List.length_set]at a;refine⟨?_,by rw[World.frozen?_setCell];exact(h i a).2⟩;rw[Sj ss k i z c];by_cases e:i=k
 ·subst e
  rw[if_pos rfl];exact World.cell?_setCell_same _ _ _ (h i a).1
 ·rw[if_neg e]
  have b:(⟨g,k,none⟩:Addr)≠⟨g,i,none⟩:=fun h=>e (by injection h with _ h;exact h.symm);exact(World.cell?_setCell_other (h:=b) ..).trans (h i a).1
def Gs(rs:List RV)(k:Nat):List ByteArray:=(List.range rs.length).map fun i=>if i<k then(rs.getD i .dflt).s else ByteArray.empty
theorem G9(rs:List RV)(k:Nat):(Gs rs k).length=rs.length:=by simp[Gs]
theorem Mg(rs:List RV)(k i:Nat):(Gs rs k).getD i ByteArray.empty=if i<k/\i<rs.length then(rs.getD i .dflt).s else ByteArray.empty:=by
 unfold Gs;rw[List.getD_eq_getElem?_getD];by_cases a:i<rs.length
 ·simp[a]
 ·simp[a]
theorem Rj{a b:List ByteArray}(e:a.length=b.length)(h:∀i,i<a.length->a.getD i ByteArray.empty=b.getD i ByteArray.empty):a=b:=by
 apply List.ext_getElem e;intro i c d;have:=h i c;simpa [List.getD_eq_getElem?_getD,List.getElem?_eq_getElem c,List.getElem?_eq_getElem d]using this
theorem kU(rs:List RV)(k:Nat)(c:k<rs.length):(Gs rs k).set k (rs.getD k .dflt).s=Gs rs (k+1):=by
 apply Rj
 ·rw[List.length_set,G9,G9]
 ·intro i a
  rw[List.length_set,G9]at a;rw[Sj _ _ _ _ (by rw[G9];exact c),Mg,Mg];by_cases e:i=k
  ·subst e;simp[a]
  ·rw[if_neg e]
   by_cases b:i<k
   ·rw[if_pos ⟨b,a⟩,if_pos ⟨by omega,a⟩]
   ·rw[if_neg (by omega),if_neg (by omega)]
theorem oy(rs:List RV):Gs rs rs.length=rs.map fun r=>r.s:=by
 apply Rj
 ·simp[G9]
 ·intro i a
  rw[G9]at a;rw[Mg,if_pos ⟨a,a⟩];simp[List.getD_eq_getElem?_getD,List.getElem?_eq_getElem a]
theorem ly{wr:World}{b k:Nat}{x y u v:Value}(f:A2 wr g (Gs rs k))(e:k<rs.length)(j:g<wr.heap.size)(h:Ba wr b x y)(d:g≠b)(i:Below w.heap.size w wr)(c:w.heap.size<=g):
  A2 ((wr.setCell ⟨g,k,none⟩ (.string (rs.getD k .dflt).s)).alloc (.cells #[u,v] 73)) g (Gs rs (k+1))/\
  Ba ((wr.setCell ⟨g,k,none⟩ (.string (rs.getD k .dflt).s)).alloc (.cells #[u,v] 73)) b x y/\
  Below w.heap.size w ((wr.setCell ⟨g,k,none⟩ (.string (rs.getD k .dflt).s)).alloc (.cells #[u,v] 73))/\
  g<((wr.setCell ⟨g,k,none⟩ (.string (rs.getD k .dflt).s)).alloc (.cells #[u,v] 73)).heap.size:=by
 have a:=i.setCell (p:=⟨g,k,none⟩) (by exact c) (.string (rs.getD k .dflt).s);refine⟨?_,(h.other _ _ d).alloc _,a.alloc a.size _,by simp;omega⟩;rw[<-kU rs k e];exact(f.stored k _ (by rw[G9];exact e)).alloc (by simpa using j) _
theorem qA:(Tryz.prog.info? 9).map (fun i=>(i.zero,i.size,i.bytes))=some (some (.string ByteArray.empty),1,16):=by kernel_rfl
theorem ej(w:World)(n:Nat)(rs:List RV)(b:rs.length=n):A2 (w.alloc (.cells (madeCells (Value.string ByteArray.empty).cells (n*1)) 9)) w.heap.size (Gs rs 0):=by
 intro i a;rw[G9]at a;refine⟨?_,by simp⟩;rw[World.cell?_alloc_new,Mg,if_neg (by omega)];rw[show(Value.string ByteArray.empty).cells=#[Value.string ByteArray.empty] from rfl,<-Array.getElem?_toList,toList_madeCells_one,Nat.mul_one];simp[show i<n from by omega]
theorem Zn(a:Option Addr)(n c:Nat)(rs:List RV)(w:World)(h:Aj w a n rs)(K:Af rs)(hn:n<=1048576)(hc:n<=c)(aa:c<=9223372036854775807):
  Calls Tryz.prog 275 #[.slice a n c] w fun e w'=> ∃v,e=.returned (.agg #[v,.string (st (Cz (rs.map fun r=>r.s)))])/\Own w' w.heap.size v (AO rs)/\Below w.heap.size w w':=by
 obtain rfl:=h.1;obtain⟨i0,J,L,N,O⟩:=info_parts qA;have d:=run_make (P:=Tryz.prog) (w.alloc (.cells #[.slice none 0 0,.string ⟨#[]⟩] 73)) 66 9 i0 (.string ByteArray.empty) Tryz.underlying66 J L .i64 .i64 (rs.length:Int) (rs.length:Int) (by omega) (by omega) (by rw[O];omega) (by omega);simp only[Int.toNat_natCast]at d;rw[N]at d;have hX:=(JH w (.slice none 0 0) (.string ⟨#[]⟩)).alloc (.cells (madeCells (Value.string ByteArray.empty).cells (rs.length*1)) 9);have Z:=ej (w.alloc (.cells #[.slice none 0 0,.string ⟨#[]⟩] 73)) rs.length rs rfl;have hb:=GK (Below.refl _ w) (Below.refl ((w.alloc (.cells #[.slice none 0 0,.string ⟨#[]⟩] 73)).alloc (.cells (madeCells (Value.string ByteArray.empty).cells (rs.length*1)) 9)).heap.size _);have x:(w.alloc (.cells #[.slice none 0 0,.string ⟨#[]⟩] 73)).heap.size<((w.alloc (.cells #[.slice none 0 0,.string ⟨#[]⟩] 73)).alloc (.cells (madeCells (Value.string ByteArray.empty).cells (rs.length*1)) 9)).heap.size:=by simp
 rw[Bc]at d Z x;generalize ((w.alloc (.cells #[.slice none 0 0,.string ⟨#[]⟩] 73)).alloc (.cells (madeCells (Value.string ByteArray.empty).cells (rs.length*1)) 9))=w1 at*;have HX:=Ab hX;have HT:=Ab Z;have HB:=Ab hb;have HG:=Ab x;clear hX Z hb x J L N O;go_enter Tryz.func275,Tryz.ntmps275;go_wp2;go_loopw [11] (fun i wr=> ∃k:Nat,k<=rs.length/\i=.int .i64 k/\Hid (A2 wr (w.heap.size+1) (Gs rs k))/\Hid (Ba wr w.heap.size (.slice none 0 0) (.string ⟨#[]⟩))/\Hid (Below w.heap.size w wr)/\Hid (w.heap.size+1<wr.heap.size)) (fun i _=>rs.length-(intOf i).toNat)
 case atStart=>exact⟨0,Nat.zero_le _,rfl,HT,HX,HB,HG⟩
 case round=>
  obtain⟨k,hk,rfl,j,o,f,m⟩:=hrel;clear HT HX HB HG d;by_cases l:k<rs.length
  ·obtain⟨b,off,rfl,I⟩:=(h.below (Aa f)).at l
   obtain⟨af,ag⟩:=I k l;have ae:(k:Int)<(rs.length:Int):=by omega
   have R:=Ab (ly (u:=.slice (rs.getD k .dflt).a (rs.getD k .dflt).n (rs.getD k .dflt).c) (v:=.string (rs.getD k .dflt).s) (Aa j) l (Aa m) (Aa o) (by omega) (Aa f) (by omega));have hold:=(Aa j) k (by rw[G9];exact l);obtain⟨ah,ai⟩:=hold;have x:=Aa m;have Hh:=Ab h;have Hs:=Ab K;clear h I K j o f m;generalize rs.getD k .dflt=r at*;go_wp2;go_roundw
   case rel=>exact⟨k+1,by omega,by go_num,Ab (Aa R).1,Ab (Aa R).2.1,Ab (Aa R).2.2.1,Ab (Aa R).2.2.2⟩
   case measure=>simp[intOf];omega
  ·have ab:k=rs.length:=by omega
   subst ab;rw[oy]at j;have HR:=Ab (h.below (Aa f))
   have HS:Hid (∀r∈rs,r.xs.length<=10):=Ab (fun r hr=>by
    obtain⟨i,T,rfl⟩:=List.mem_iff_getElem.1 hr;have H:=(K i).1;have h2:=(h.2.1 i T).1;rw[List.getD_eq_getElem?_getD,List.getElem?_eq_getElem T]at H h2;simp only[Option.getD_some]at H h2;omega)
   have Y:Hid (shorts (rs.map fun r=>r.s)):=Ab (fun t ht=>by
    obtain⟨r,hr,rfl⟩:=List.mem_map.1 ht;obtain⟨i,T,rfl⟩:=List.mem_iff_getElem.1 hr;have H:=(K i).2;rw[List.getD_eq_getElem?_getD,List.getElem?_eq_getElem T]at H;simp only[Option.getD_some]at H;omega)
   have ac:Hid ((rs.map fun r=>r.s).length=rs.length):=Ab (by simp);clear h K l;go_wp2_with fail;refine(qY rs.length a rs.length c rs _ (Nat.le_refl _) (Aa HR) (Aa HS) hn hc aa).mono ?_;rintro e w2 ⟨v2,rfl,y,p⟩;obtain⟨Q,c2,rfl,ad⟩:=y.row;clear ad;have A:=(Aa j).texts.below p;rw[Aa ac]at A;have D:=Ab A;have E:=Ab ((Aa o).below p);have B:=Ab (Ad (Aa f) p);have C:=Ab (y.mono (show w.heap.size+1<=_ from by have:=Aa m;omega));clear y p A j o f HR;go_wp2_with fail;refine(Xl _ _ _ _ _ (Aa D) (Aa Y) hn).mono ?_;rintro e w3 ⟨rfl,q⟩;obtain⟨⟨x0,x1⟩,f0,f1⟩:=(Aa E).below q;have V:=Ab (Ad (Aa B) q);have X:=Ab ((Aa C).below q);clear E D B C q;go_wp2;have y1:=World.cell?_setCell_same (w3.setCell ⟨w.heap.size,0,none⟩ (.slice Q (AO rs).length c2)) ⟨w.heap.size,1,none⟩ (.string (st (Cz (rs.map fun r=>r.s)))) ((World.cell?_setCell_other (h:=by simp) ..).trans x1)
   have y0:((w3.setCell ⟨w.heap.size,0,none⟩ (.slice Q (AO rs).length c2)).setCell ⟨w.heap.size,1,none⟩ (.string (st (Cz (rs.map fun r=>r.s))))).cell? ⟨w.heap.size,0,none⟩=some (.slice Q (AO rs).length c2):=
    (World.cell?_setCell_other (h:=by simp) ..).trans (World.cell?_setCell_same _ _ _ x0)
   exact bodyPost_ret (v:=.agg #[.slice Q (AO rs).length c2,.string (st (Cz (rs.map fun r=>r.s)))]) (by simp[results,Tryz.results275,go_sem,y0,y1]) rfl
    ⟨_,rfl,(((Aa X).other _ _ (by omega)).other _ _ (by omega)).mono (by omega),((Aa V).setCell (Nat.le_refl _) _).setCell (Nat.le_refl _) _⟩
variable {W:World}
theorem own:ownKnob Tryz.prog.godebug=none:=by kernel_rfl
theorem Yd:laidOutB Tryz.prog=true:=by kernel_rfl
theorem Rp : Tryz.prog.globalNamed "math/bits.deBruijn64tab" = some 2 := by kernel_rfl
theorem nl:(Tryz.prog.globals[2]?).map (·.type)=some 385:=by kernel_rfl
theorem ol:Tryz.prog.cellsOf 385=64:=by kernel_rfl
theorem ZW:Tryz.prog.cellsOf 5=1:=by kernel_rfl
theorem qt {W : World} (h : laidMetH Tryz.prog Rows.netChecksRow.laid W) : Lib.TabIs Tryz.prog W "math/bits.deBruijn64tab" .u8 (Lib.deBruijn64tab.map fun (x : Nat) => (x : Int)) :=
 Lib.tabIs_of_head (rest:=_) Rp nl Tryz.underlying385 Tryz.underlying5 ZW ol h
theorem Zs(h:laidMetH Tryz.prog Rows.netChecksRow.laid W):Tab W:=by
 intro i b;have c:(Lib.deBruijn64tab.map fun(x:Nat)=>(x:Int)).length=64:=by decide
 have:=(qt h).cell Rp i (by omega);rw[this];have a:Lib.deBruijn64tab.length=64:=by decide
 have e:i<Lib.deBruijn64tab.length:=by omega
 simp[List.getD_eq_getElem?_getD,List.getElem?_eq_getElem e]
theorem KX(b off i:Nat):(⟨b,off,none⟩:Addr).add i=⟨b,off+i,none⟩:=by
 unfold Addr.add;split
 ·rename_i h;simp_all
 ·rfl
theorem PW{n:Nat}(h:n<=maxLen):n<=9223372036854775807:=by simpa [maxLen]using h
theorem qp{H:Type}{enc:TypeId×Value->H}{a:Nat}{v:Value}{x:DataW H×List MemPlace}
  (h:DataW.trod enc Tryz.prog W 0 (fun _=>true) true a 9 [v]=some x):∃s,v=.string s/\s.size<=9223372036854775807:=by
 cases a with
 |zero=>simp[DataW.trod]at h
 |succ a=>
  cases v<;>simp[DataW.trod,Tryz.underlying9]at h;exact⟨_,rfl,PW h.1⟩
theorem It{H:Type}{enc:TypeId×Value->H}{b:Nat}{v:Value}{x:DataW H×List MemPlace}
  (h:DataW.trod enc Tryz.prog W 0 (fun _=>true) true b 3 [v]=some x):∃a,v=.int .i64 a:=by
 cases b with
 |zero=>simp[DataW.trod]at h
 |succ b=>
  cases v<;>simp[DataW.trod,Tryz.underlying3]at h;obtain⟨⟨rfl,_⟩,_⟩:=h;exact⟨_,rfl⟩
theorem Fm{α:Type}{l:List α}{i:Nat}(h:i<l.length):∃y,l[i]? =some y:=⟨_,List.getElem?_eq_getElem h⟩
variable {z:Nat}{w:World}
theorem XK(a:Option Addr)(n c:Nat)(xs:List Int)(w:World)(h:IntzAt w a n xs)(C:n<=1048576)(A:sumZ xs<=4611686018427387904):
  Calls Tryz.prog 230 #[.slice a n c] w fun e w'=>e=.returned (.int .i64 ((sumZ xs:Nat):Int))/\w'=w:=by
 obtain rfl:n=xs.length:=h.1.symm;obtain⟨S,j⟩:∃S,sumZ xs=S:=⟨_,rfl⟩;have l:=Ab (show sumZ (xs.take xs.length)=S by rw[List.take_length];exact j);have m:=Ab (fun k=>Nat.le_trans (NT xs k) (Nat.le_of_eq j));have p:=Ab (fun k v=>OS xs k v);rw[j]at A⊢;clear j;go_enter Tryz.func230,Tryz.ntmps230;go_wp2;go_loop [3,8] (fun t i=> ∃k q:Nat,k<=xs.length/\i=.int .i64 k/\t=.int .i64 (q:Int)/\Hid (q=sumZ (xs.take k))) (fun _ i=>xs.length-(intOf i).toNat)
 case atStart=>exact⟨0,0,Nat.zero_le _,rfl,rfl,Ab rfl⟩
 case round=>
  obtain⟨k,q,v,rfl,rfl,f⟩:=hrel;by_cases d:k<xs.length
  ·obtain⟨b,off,rfl,u⟩:=h.at d
   have r:=u k d;have ht:=Aa p k d;have s:=Aa m (k+1);rw[<-Aa f]at ht;rw[ht]at s;have o:=Ab ht;clear u h p m l f ht;generalize xs.getD k 0=x at*;have B:=Vr x;generalize x.toNat=z at*;go_wp2;go_round
   case rel=>exact⟨k+1,q+z,by omega,by go_num,by go_num,Ab (Aa o).symm⟩
   case measure=>simp[intOf];omega
  ·obtain rfl:k=xs.length:=by omega
   have y:=Ab ((Aa f).trans (Aa l));clear h p m l f;go_wp2;go_ret;exact⟨CC (by rw[Aa y]),rfl⟩
theorem X7(l:List Int)(k:Nat)(a:k<l.length):(l.getD k 0).toNat<=sumZ l:=by
 have b:=OS l k a;have c:=NT l (k+1);omega
theorem nB(a:Option Addr)(n c:Nat)(xs:List Int)(d:Nat)(w:World)(h:IntzAt w a n xs)(Q:n<=1048576)(J:sumZ xs<=4611686018427387904)(X:d<18446744073709551616):
  Calls Tryz.prog 193 #[.slice a n c,.int .u64 (d:Int)] w fun e w'=>e=.returned (.int .i64 ((pickD xs d:Nat):Int))/\w'=w:=by
 have m:=Ab (XK a n c xs w h Q J);obtain rfl:n=xs.length:=h.1.symm;obtain⟨S,o⟩:∃S,sumZ xs=S:=⟨_,rfl⟩;obtain⟨R,r⟩:∃R,pickD xs d=R:=⟨_,rfl⟩;have s:=Ab (fun(N:S=0)=>r.symm.trans (gx (o.trans N) d));have q:=Ab (fun(O:S≠0)=>r.symm.trans (SZ (by rw[o];exact O) d));have E:=Ab (fun k I=>Nat.le_trans (X7 xs k I) (Nat.le_of_eq o));rw[o]at J m q;rw[r];clear o r;by_cases K:S=0
 ·subst K
  have j:=Ab (Aa s rfl);clear s q h;go_enter Tryz.func193,Tryz.ntmps193;go_wp2_with (go_at_call 230;refine(Aa m).mono ?_;rintro e w1 ⟨rfl,D⟩;obtain rfl:=D.symm);go_ret;exact⟨CC (by rw[Aa j];rfl),rfl⟩
 ·have j:=Ab (Aa q K)
  have P:d%S<S:=Nat.mod_lt _ (by omega);have C:(d:Int)%(S:Int)=((d%S:Nat):Int):=by simp
  have V:((S:Int)==0)=false:=by simp;omega
  clear s q;generalize d%S=L at*;go_enter Tryz.func193,Tryz.ntmps193;go_wp2_with (go_at_call 230;refine(Aa m).mono ?_;rintro e w1 ⟨rfl,D⟩;obtain rfl:=D.symm);go_loop [6,20] (fun t i=> ∃k x:Nat,k<=xs.length/\i=.int .i64 k/\t=.int .u64 (x:Int)/\x<=L/\Hid (R=Ez (xs.drop k) k x)) (fun _ i=>xs.length-(intOf i).toNat)
  case atStart=>exact⟨0,L,Nat.zero_le _,rfl,by first|rfl|rw[C],Nat.le_refl _,Ab (Aa j)⟩
  case round=>
   obtain⟨k,x,I,rfl,rfl,Z,l⟩:=hrel;by_cases f:k<xs.length
   ·obtain⟨b,off,rfl,H⟩:=h.at f
    have A:=H k f;have v:=Ab (fun B=>(Aa l).trans (mV xs k x f B));have u:=Ab (fun B=>(Aa l).trans (pN xs k x f B));clear H h l j m;have T:=Aa E k f;clear E;generalize xs.getD k 0=y at*;have Y:=Vr y;generalize y.toNat=z at*;by_cases p:x<z
    ·have j:=Ab (Aa v p)
     clear v u;go_wp2;go_ret;exact⟨CC (by rw[Aa j];go_num),rfl⟩
    ·have j:=Ab (Aa u p)
     clear v u;go_wp2;go_round
     case rel=>exact⟨k+1,x-z,by omega,by go_num,by go_num,by omega,j⟩
     case measure=>simp[intOf];omega
   ·obtain rfl:k=xs.length:=by omega
    have j:=Ab ((Aa l).trans (mU xs _ _));clear h l m;go_wp2;go_ret;exact⟨CC (by rw[Aa j];rfl),rfl⟩
def B8(w:World):Prop:=∀i,i<127->w.cell? ⟨1,i,none⟩=some (.int .u32 ((1048576/((i+2)*(i+1)):Nat):Int))
theorem B8.below{w':World}(h:B8 w)(b:Below w.heap.size w w'):B8 w':=fun i a=>(b.cell (World.block_lt_of_cell? w _ (h i a))).trans (h i a)
theorem iz(x:Nat)(a:x<256):Lib.bitLen x=bitLen x:=by
 have h:∀j:Fin 256,Lib.bitLen j.val=bitLen j.val:=by decide+kernel
 exact h ⟨x,a⟩
theorem qE(x:Nat)(a:x<256):Lib.len8 (x:Int)=((bitLen x:Nat):Int):=by
 rw[Lib.len8_of (x:Int) (by omega) (by omega),Int.toNat_natCast,iz x a]
set_option maxRecDepth 100000 in
theorem jk(x:Nat)(b:x<256)(w:World):
  Calls Tryz.prog 295 #[.int .u64 (x:Int)] w fun e w'=>e=.returned (.int .i64 ((bitLen x:Nat):Int))/\w'=w:=by
 have H:=qE x b;have c:=fun W=>Lib.run_index_len8tab (P:=Tryz.prog) W 9 .u8 (x:Int) Tryz.underlying9 (by omega) (by omega);rw[H]at c;clear H;have l:((bitLen x:Nat):Int)<=8:=by have:=bitLen_le8 x b;omega
 have j:(x:Int)<=255:=by omega
 generalize bitLen x=z at*;clear b;go_enter Tryz.func295,Tryz.ntmps295;generalize f:ByteArray.mk (List.toArray _)=T at*;have a:T=Lib.len8tab:=f.symm.trans (by kernel_rfl);clear f;rw[<-a]at c;clear a;generalize d:bodyPost _ _ _=Q at*;have i:=Ab d;clear d
 iterate 20 go_step
 refine wp_cond_split rfl (fun h=>?_) (fun h=>?_)
 ·exact absurd (of_decide_eq_true h) (by omega)
 clear h
 iterate 15 go_step
 refine wp_cond_split rfl (fun h=>?_) (fun h=>?_)
 ·exact absurd (of_decide_eq_true h) (by omega)
 clear h
 iterate 15 go_step
 refine wp_cond_split rfl (fun h=>?_) (fun h=>?_)
 ·exact absurd (of_decide_eq_true h) (by omega)
 clear h;go_wp2;rw[<-Aa i];go_ret;exact⟨rfl,rfl⟩
theorem XJ(x:Nat)(b:x<256)(w:World):
  Calls Tryz.prog 267 #[.int .u64 (x:Int)] w fun e w'=>e=.returned (.int .i64 ((bitLen x:Nat):Int))/\w'=w:=by
 have H:=Ab (jk x b w);generalize bitLen x=z at*;go_enter Tryz.func267,Tryz.ntmps267;go_wp2_with (go_at_call 295;refine(Aa H).mono ?_;rintro e w1 ⟨rfl,a⟩;obtain rfl:=a.symm);go_ret;exact⟨rfl,rfl⟩
theorem mh(k d:Nat)(p:1<=k)(j:k<=128)(o:1<=d)(f:d<=128)(w:World)(ht:B8 w):
  Calls Tryz.prog 231 #[.int .i64 (k:Int),.int .i64 (d:Int)] w fun e w'=>e=.returned (.int .i64 ((baseN k d:Nat):Int))/\w'=w:=by
 by_cases c:d=1
 ·subst c
  have m:(1048576:Int)/(k:Int)=((1048576/k:Nat):Int):=by simp
  have b:=Nat.div_le_self 1048576 k;rw[jP];have l:(1:Int)<=(k:Int):=by omega
  generalize 1048576/k=q at*;clear ht;go_enter Tryz.func231,Tryz.ntmps231;go_wp2;go_ret;exact⟨CC (by first|rfl|rw[m]),rfl⟩
 ·rw[fL c]
  obtain⟨i,rfl⟩:∃i,d=i+2:=⟨d-2,by omega⟩;have a:=ht i (by omega);rw[show(i+2)*(i+2-1)=(i+2)*(i+1) from rfl];have b:=Nat.div_le_self 1048576 ((i+2)*(i+1));have h:((i+2:Nat):Int)-2=(i:Int):=by omega
  generalize 1048576/((i+2)*(i+1))=q at*;clear ht;go_enter Tryz.func231,Tryz.ntmps231;go_wp2;go_ret;exact⟨rfl,rfl⟩
theorem pU(k s d:Nat)(B:1<=k)(j:k<=128)(y:1<=d)(h:d<=128)(J:s<=128)(w:World):
  Calls Tryz.prog 232 #[.int .i64 (k:Int),.int .i64 (s:Int),.int .i64 (d:Int)] w fun e w'=>e=.returned (.int .i64 ((moreN k s d:Nat):Int))/\w'=w:=by
 by_cases a:s=0
 ·subst a
  rw[ie];go_enter Tryz.func232,Tryz.ntmps232;go_wp2;go_ret;exact⟨rfl,rfl⟩
 ·have K:(1:Int)<=(s:Int):=by omega
  have E:(1:Int)<=(k:Int):=by omega
  have A:(1:Int)<=(d:Int):=by omega
  have O:(k:Int)/(s:Int)=((k/s:Nat):Int):=by simp
  have H:=Nat.div_le_self k s;by_cases b:d<k/s
  ·rw[ib a b]
   have C:k*d<=128*128:=Nat.mul_le_mul j h;have v:1*1<=k*d:=Nat.mul_le_mul B y;have o:(k:Int)*(d:Int)=((k*d:Nat):Int):=by simp
   have r:(1048576*s:Int)/((k*d:Nat):Int)=((1048576*s/(k*d):Nat):Int):=by simp
   have l:=Nat.div_le_self (1048576*s) (k*d);have D:(1:Int)<=((k*d:Nat):Int):=by omega
   generalize 1048576*s/(k*d)=q at*;generalize k*d=m at*;generalize k/s=u at*;go_enter Tryz.func232,Tryz.ntmps232;go_wp2;go_ret;exact⟨CC (by first|rfl|rw[r]),rfl⟩
  ·by_cases c:d=k/s
   ·rw[ii a c]
    have x:=Ab (XJ s (by omega) w);have f:=bitLen_le8 s (by omega);have I:1048576*s*bitLen s<=1048576*128*8:=Nat.mul_le_mul (Nat.mul_le_mul_left _ J) f;have o:(1048576*(s:Int))*((bitLen s:Nat):Int)=((1048576*s*bitLen s:Nat):Int):=by simp
    have r:((1048576*s*bitLen s:Nat):Int)/(k:Int)=((1048576*s*bitLen s/k:Nat):Int):=by simp
    have l:=Nat.div_le_self (1048576*s*bitLen s) k;have i:(d:Int)=((k/s:Nat):Int):=by omega
    generalize 1048576*s*bitLen s/k=q at*;generalize 1048576*s*bitLen s=p at*;generalize bitLen s=z at*;generalize k/s=u at*;subst c;clear b i;go_enter Tryz.func232,Tryz.ntmps232;go_wp2_with (go_at_call 267;refine(Aa x).mono ?_;rintro e w1 ⟨rfl,L⟩;obtain rfl:=L.symm);go_ret;exact⟨CC (by first|rfl|rw[r]),rfl⟩
   ·rw[ig a (by omega)]
    generalize k/s=u at*;have N:u<d:=by omega
    clear b c;go_enter Tryz.func232,Tryz.ntmps232;go_wp2;go_ret;exact⟨rfl,rfl⟩
theorem mI(k s d:Nat):max 1 (baseN k d+moreN k s d)=Hj k s d:=rfl
theorem nO(k s:Nat)(O:1<=k)(l:k<=128)(hs:s<=k)(w:World)(ht:B8 w):
  Calls Tryz.prog 194 #[.int .i64 (k:Int),.int .i64 (s:Int)] w fun e w'=> ∃v,e=.returned v/\Am w' w.heap.size v (tableL k s)/\Below w.heap.size w w':=by
 have Z:=L7 k (by omega);have C:=Ab (L6 w k (by omega) (Df (tableL k s) 0) (by rw[Nw,Hd]));have a:Hid (Below w.heap.size w (w.alloc (.cells (madeCells #[.int .i64 0] k) 3))):=Ab ((Below.refl _ _).alloc (Nat.le_refl _) _);have D:decide ((k:Int)<1)=false:=by rw[decide_eq_false_iff_not];omega
 have e2:decide (128<(k:Int))=false:=by rw[decide_eq_false_iff_not];omega
 have e3:decide ((s:Int)<0)=false:=by rw[decide_eq_false_iff_not];omega
 have e4:decide (k<s)=false:=by rw[decide_eq_false_iff_not];omega
 have aa:s<=128:=by omega
 have N:=Ab O;clear O hs;go_enter Tryz.func194,Tryz.ntmps194;go_wp2;go_loopw [27] (fun i wr=> ∃j:Nat,j<=k/\i=.int .i64 j/\Hid (Am wr w.heap.size (.slice (some ⟨w.heap.size,0,none⟩) k k) (Df (tableL k s) j))/\Hid (Below w.heap.size w wr)) (fun i _=>k-(intOf i).toNat)
 case atStart=>exact⟨0,Nat.zero_le _,rfl,C,a⟩
 case round=>
  obtain⟨j,Y,rfl,r,A⟩:=hrel;have H:=Aa A;by_cases b:j<k
  ·have J:=Aa r
   have K:(Df (tableL k s) j).length=k:=by rw[LC _ _ (by rw[Hd];exact Y),Hd]
   obtain⟨g,cap,D,_,_,d,f⟩:=J.at (by omega);simp only[Value.slice.injEq,Option.some.injEq,Addr.mk.injEq,and_true]at D;obtain⟨rfl, -, -⟩:=D;have u:=d j (by omega);have X:=f j;have h:((j+1:Nat):Int)=(j:Int)+1:=by omega
   have E:=mh k (j+1) (Aa N) l (by omega) (by omega) wr (ht.below H);have I:=pU k s (j+1) (Aa N) l (by omega) (by omega) (by omega) wr;rw[h]at E I;have P:=Ab E;have Q:=Ab I;have T:=UN k (j+1);have V:=Vt k s (j+1) (by omega);have m:=qQ (baseN k (j+1)+moreN k s (j+1));have c:=J.stored j ((Hj k s (j+1):Nat):Int);rw[<-N2 k s j b,Nv _ _ (by rw[Hd];exact b),N2 k s j b]at c;have R:=Ab c;have B:=Ab (H.setCell (p:=⟨w.heap.size,j,none⟩) (by exact Nat.le_refl _) (.int .i64 ((Hj k s (j+1):Nat):Int)));rw[mI]at m;clear E I h;clear J K d f c H A r C a ht;generalize Hj k s (j+1)=q at*;generalize baseN k (j+1)=x at*;generalize moreN k s (j+1)=y at*;have o:((x+y:Nat):Int)=(x:Int)+(y:Int):=by omega
   rw[o]at m;clear o;go_wp2_with (first|(go_at_call 231;refine(Aa P).mono ?_;rintro e w1 ⟨rfl,L⟩;obtain rfl:=L.symm)|(go_at_call 232;refine(Aa Q).mono ?_;rintro e w1 ⟨rfl,L⟩;obtain rfl:=L.symm));go_roundw
   case rel=>exact⟨j+1,by omega,by go_num,R,B⟩
   case measure=>simp[intOf];omega
  ·obtain rfl:j=k:=by omega
   rw[show Df (tableL j s) j=tableL j s by
    have:=NI (tableL j s);rwa[Hd]at this]at r
   clear C a;go_wp2;go_ret;exact⟨_,rfl,Aa r,Aa A⟩
def kc(n z:Nat):Nat:=if 0<n%z\/n/z=0 then n/z+1 else n/z
theorem JT(n z:Nat):1<=kc n z:=by
 unfold kc;generalize n/z=q;generalize n%z=r;split<;>rename_i h<;>omega
theorem Kr(n z:Nat)(b:0<z):n<=kc n z*z:=by
 have a:=Nat.div_add_mod n z;have c:=Nat.mod_lt n b;rw[Nat.mul_comm]at a;unfold kc;split
 ·rw[Nat.add_mul];omega
 ·rename_i h
  have:n%z=0:=by omega
  omega
theorem Pj(n z k:Nat)(d:0<z)(f:1<=k)(h:n<=k*z):kc n z<=k:=by
 have c:=Nat.div_add_mod n z;have e:=Nat.mod_lt n d;rw[Nat.mul_comm]at c;unfold kc;split
 ·rename_i b
  rcases b with b|b
  ·rcases Nat.lt_or_ge (n/z) k with a|a
   ·omega
   ·have:=Nat.mul_le_mul_right z a
    omega
  ·omega
 ·rename_i b
  rcases Nat.lt_or_ge k (n/z)with a|a
  ·have:=Nat.mul_le_mul_right z (Nat.succ_le_of_lt a)
   rw[Nat.succ_mul]at this;omega
  ·exact a
theorem KR(n z k:Nat)(b:0<z)(c:1<=k):k<kc n z↔k*z<n:=by
 constructor
 ·intro h
  rcases Nat.lt_or_ge (k*z) n with a|a
  ·exact a
  ·have:=Pj n z k b c a
   omega
 ·intro h
  have d:=Kr n z b;rcases Nat.lt_or_ge k (kc n z)with a|a
  ·exact a
  ·have:=Nat.mul_le_mul_right z a
   omega
theorem aV(n z k:Nat)(b:0<z)(c:1<=k)(h:n<=k*z)(a:k=1\/(k-1)*z<n):kc n z=k:=by
 have d:=Pj n z k b c h;rcases a with rfl|a
 ·have:=JT n z;omega
 ·by_cases e:k=1
  ·subst e;have:=JT n z;omega
  ·have:=(KR n z (k-1) b (by omega)).2 a
   omega
def planE(n z:Int):Int:=if n<0\/z<1\/64<z then 1 else if 128<kc n.toNat z.toNat then 2 else 0
def planK(n z:Int):Int:=if planE n z=0 then(kc n.toNat z.toNat:Int)else 0
theorem Mz{n z:Int}(h:n<0\/z<1\/64<z):planE n z=1/\planK n z=0:=by
 have e:planE n z=1:=if_pos h;exact⟨e,by unfold planK;rw[e];rfl⟩
theorem TC{n:Nat}(a:1<=z)(b:z<=64)(h:128<kc n z):planE (n:Int) (z:Int)=2/\planK (n:Int) (z:Int)=0:=by
 have e:planE (n:Int) (z:Int)=2:=by
  unfold planE;rw[if_neg (by omega),if_pos (by simpa using h)]
 exact⟨e,by unfold planK;rw[e];rfl⟩
theorem MR{n:Nat}(a:1<=z)(b:z<=64)(h:kc n z<=128):planE (n:Int) (z:Int)=0/\planK (n:Int) (z:Int)=(kc n z:Int):=by
 have e:planE (n:Int) (z:Int)=0:=by
  unfold planE;rw[if_neg (by omega),if_neg (by simp;omega)]
 exact⟨e,by unfold planK;rw[e];simp⟩
theorem rI{n:Nat}{z:Int}(h:planE (n:Int) z=0):∃Z:Nat,z=(Z:Int)/\1<=Z/\Z<=64/\kc n Z<=128:=by
 unfold planE at h;split at h
 ·omega
 ·rename_i b
  obtain⟨Z,rfl⟩:∃Z:Nat,z=(Z:Int):=⟨z.toNat,by omega⟩;split at h
  ·omega
  ·rename_i a
   simp only[Int.toNat_natCast]at a;exact⟨Z,rfl,by omega,by omega,by omega⟩
def Hx(z:Nat)(t:List Nat):List Nat:=t++List.replicate (z-t.length) 0
def blk(xs:List Nat)(z i:Nat):List Nat:=Hx z ((xs.drop (i*z)).take z)
def Bw(xs:List Nat)(z k:Nat):List ByteArray:=(List.range k).map fun i=>st (blk xs z i)
theorem iw(z:Nat)(t:List Nat)(h:t.length<=z):(Hx z t).length=z:=by
 unfold Hx;rw[List.length_append,List.length_replicate];omega
theorem NV(xs:List Nat)(z i:Nat):(blk xs z i).length=z:=iw _ _ (List.length_take_le _ _)
theorem IT(xs:List Nat)(z k:Nat):(Bw xs z k).length=k:=by simp[Bw]
theorem NB(xs:List Nat)(z k:Nat):Bw xs z (k+1)=Bw xs z k++[st (blk xs z k)]:=by
 simp[Bw,List.range_succ]
theorem mO{t:List Nat}(h:bytes t):bytes (Hx z t):=by
 intro x a;rcases List.mem_append.1 a with a|a
 ·exact h x a
 ·rw[(List.mem_replicate.1 a).2];decide
theorem To{xs:List Nat}(h:bytes xs)(z i:Nat):bytes (blk xs z i):=mO (F7 (Hb h _) _)
def joinL(ss:List ByteArray):List Nat:=ss.flatMap tx
theorem Oe(ss:List ByteArray)(s:ByteArray):joinL (ss++[s])=joinL ss++tx s:=by simp[joinL]
theorem So(ss:List ByteArray)(k:Nat)(h:k<ss.length):joinL (ss.take (k+1))=joinL (ss.take k)++tx (ss.getD k ByteArray.empty):=by
 rw[List.take_succ_eq_append_getElem h,Oe];simp[List.getD_eq_getElem?_getD,List.getElem?_eq_getElem h]
theorem RS{xs:List Nat}(a:bytes xs)(z:Nat):∀k,k*z<=xs.length->joinL (Bw xs z k)=xs.take (k*z)
 |0,_=>by simp[Bw,joinL]
 |k+1,h=>by
  rw[Nat.add_mul,Nat.one_mul]at h;rw[NB,Oe,RS a z k (by omega),DD (To a z k),Nat.add_mul,Nat.one_mul,List.take_add];congr 1;unfold blk Hx;rw[List.length_take,List.length_drop];rw[show z-min z (xs.length-k*z)=0 by omega];simp
theorem lV{xs:List Nat}(b:bytes xs)(z k:Nat)(d:1<=k)(h:xs.length<=k*z)(a:k=1\/(k-1)*z<xs.length):(joinL (Bw xs z k)).take xs.length=xs:=by
 obtain⟨j,rfl⟩:∃j,k=j+1:=⟨k-1,by omega⟩;have c:j*z<=xs.length:=by
  rcases a with a|a
  ·obtain rfl:j=0:=by omega
   omega
  ·simp at a;omega
 rw[NB,Oe,RS b z j c,DD (To b z j)];rw[Nat.add_mul,Nat.one_mul]at h;have e:(xs.drop (j*z)).take z=xs.drop (j*z):=List.take_of_length_le (by rw[List.length_drop];omega);unfold blk Hx;rw[e,<-List.append_assoc,List.take_append_drop,List.take_append_of_le_length (Nat.le_refl _),List.take_length]
theorem dE(xs:List Nat)(z k:Nat)(b:z<=64):shorts (Bw xs z k):=by
 intro s a;obtain⟨i,_,rfl⟩:=List.mem_map.1 a;rw[Dx,NV];omega
theorem Sr(xs:List Nat)(z k i:Nat)(h:i<k):(Bw xs z k).getD i ByteArray.empty=st (blk xs z i):=by
 unfold Bw;rw[List.getD_eq_getElem?_getD,List.getElem?_map,List.getElem?_range h];rfl
structure Er where
 kd:Int
 a:Option Addr
 n:Nat
 c:Nat
 tos:List Int
def Er.dflt:Er:=⟨0,none,0,0,[]⟩
structure Bl where
 a:Option Addr
 n:Nat
 c:Nat
 ds:List Er
 obj:ByteArray
 size:Int
 spread:Int
 buffer:Int
 queue:Int
 cache:Int
 rate:Nat
 timeout:Int
 target:Int
def Bl.val(f:Bl):Value:=.agg #[.slice f.a f.n f.c,.string f.obj,.int .i64 f.size,.int .i64 f.spread,.int .i64 f.buffer,.int .i64 f.queue,.int .i64 f.cache,.float .f64 f.rate,.int .i64 f.timeout,.int .i64 f.target]
def BK(w:World)(a:Option Addr)(n:Nat)(ds:List Er):Prop:=
 ds.length=n/\(∀i,i<n->IntzAt w (ds.getD i .dflt).a (ds.getD i .dflt).n (ds.getD i .dflt).tos)/\(n=0\/∃b off,a=some ⟨b,off,none⟩/\∀i,i<n->w.cell? ⟨b,off+i*2,none⟩=some (.int .i64 (ds.getD i .dflt).kd)/\w.cell? ⟨b,off+i*2+1,none⟩=some (.slice (ds.getD i .dflt).a (ds.getD i .dflt).n (ds.getD i .dflt).c))
theorem BK.at{a:Option Addr}{n:Nat}{ds:List Er}(h:BK w a n ds){i:Nat}(e:i<n):∃b off,a=some ⟨b,off,none⟩/\∀i,i<n->w.cell? ⟨b,off+i*2,none⟩=some (.int .i64 (ds.getD i .dflt).kd)/\w.cell? ⟨b,off+i*2+1,none⟩=some (.slice (ds.getD i .dflt).a (ds.getD i .dflt).n (ds.getD i .dflt).c):=by
 rcases h.2.2 with d|d
 ·omega
 ·exact d
theorem BK.below{w':World}{a:Option Addr}{n:Nat}{ds:List Er}(h:BK w a n ds)(e:Below w.heap.size w w'):BK w' a n ds:=by
 refine⟨h.1,fun i c=>(h.2.1 i c).below e,?_⟩;rcases h.2.2 with f|⟨b,off,rfl,d⟩
 ·exact .inl f
 ·exact .inr ⟨b,off,rfl,fun i c=>⟨(e.cell (p:=⟨b,off+i*2,none⟩) (World.block_lt_of_cell? w _ (d i c).1)).trans (d i c).1,(e.cell (p:=⟨b,off+i*2+1,none⟩) (World.block_lt_of_cell? w _ (d i c).2)).trans (d i c).2⟩⟩
def BA(xs:List Int)(id n:Int):Prop:=(xs.length:Int)<n/\∀i,i<xs.length->(0<=xs.getD i 0/\xs.getD i 0<=n-1)/\xs.getD i 0≠id/\∀k,k<i->xs.getD k 0≠xs.getD i 0
def LA(f:Bl):Prop:=(1<=f.n/\f.n<=8)/\(0<=f.spread/\f.spread<=128)/\(1<=f.buffer/\f.buffer<=256)/\(1<=f.queue/\f.queue<=256)/\(0<=f.cache/\f.cache<=256)/\(0<=f.timeout/\f.timeout<=1048576)/\(1<=f.target/\f.target<=128)
def aK(f:Bl)(i:Nat):Prop:=(1<=(f.ds.getD i .dflt).kd/\(f.ds.getD i .dflt).kd<=3)/\BA (f.ds.getD i .dflt).tos i f.n
def srcN(ds:List Er):Nat->Nat
 |0=>0
 |k+1=>srcN ds k+if (ds.getD k .dflt).kd=1 then 1 else 0
theorem W5(ds:List Er)(k:Nat):srcN ds k<=k:=by
 induction k with
 |zero=>exact Nat.le_refl _
 |succ k a=>unfold srcN;split<;>omega
def Lz(f:Bl):Prop:=LA f/\(∀i,i<f.n->aK f i)/\srcN f.ds f.n=1
def Br(f:Bl)(en:Int):Prop:=(Lz f/\en=planE f.obj.size f.size)\/(¬Lz f/\en=1)
theorem Br.uniq{f:Bl}{x y:Int}(h:Br f x)(k:Br f y):x=y:=by
 rcases h with⟨a,b⟩|⟨a,b⟩<;>rcases k with⟨c,d⟩|⟨c,d⟩
 ·rw[b,d]
 ·exact absurd a c
 ·exact absurd c a
 ·rw[b,d]
end Go.Proofs.YtfpmnekaockodaaGreatDoor
