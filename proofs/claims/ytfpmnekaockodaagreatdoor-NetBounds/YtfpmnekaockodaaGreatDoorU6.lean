/- Laws for the proof. -/
import Derived.Test.YtfpmnekaockodaaGreatDoorU5
import Derived.Deep.LoopGhost
namespace Go.Proofs.YtfpmnekaockodaaGreatDoor
open Go.RowKit Go.Sort
set_option linter.all false
set_option maxRecDepth 4000
set_option maxHeartbeats 8000000
variable {k:Int}{ss:List ByteArray}{kn:List Nat}{rs:List RV}{n g:Nat}{S:Nat->Bool}{cs:Nat->List Nat}{w:World}
def FU(k:Int)(kn:List Nat)(r:RV):Bool:=AV k r.xs&& !decide (cnt (dropL r.xs kn)=0)&& !decide (cnt (dropL r.xs kn)=1)
def restL(k:Int)(rs:List RV)(kn:List Nat)(bs:List ByteArray):List (List Nat×ByteArray):=(rs.filter (FU k kn)).map fun r=>(dropL r.xs kn,Do bs r.xs r.s)
def BU(k:Int)(rs:List RV)(n:Nat)(S:Nat->Bool)(cs:Nat->List Nat)(kn:List Nat):Prop:=
 (∀p,S p=true->p<n/\AV k (rs.getD p .dflt).xs=true/\dropL (cs p) kn=dropL (rs.getD p .dflt).xs kn)/\∀p,p<n->AV k (rs.getD p .dflt).xs=true->S p=false->cnt (dropL (rs.getD p .dflt).xs kn)=0
theorem BU.start(k:Int)(rs:List RV)(n:Nat)(kn:List Nat):BU k rs n (CF k rs n) (fun p=>(rs.getD p .dflt).xs) kn:=by
 refine⟨fun p hp=>?_,fun p hp b a=>?_⟩
 ·unfold CF at hp
  rw[Bool.and_eq_true,decide_eq_true_eq]at hp;exact⟨hp.1,hp.2,rfl⟩
 ·unfold CF at a
  rw[b,decide_eq_true hp]at a;cases a
theorem BU.next(h:BU k rs n S cs kn):
  (∀p,Dz S cs kn p=true->p<n/\AV k (rs.getD p .dflt).xs=true/\dropL (cs p) kn=dropL (rs.getD p .dflt).xs kn/\¬cnt (dropL (rs.getD p .dflt).xs kn)=0)/\∀p,p<n->AV k (rs.getD p .dflt).xs=true->Dz S cs kn p=false->cnt (dropL (rs.getD p .dflt).xs kn)=0:=by
 refine⟨fun p hp=>?_,fun p hp i b=>?_⟩
 ·unfold Dz at hp
  rw[Bool.and_eq_true]at hp;obtain⟨d,f,c⟩:=h.1 p hp.1;refine⟨d,f,c,fun e=>?_⟩;rw[c,e]at hp;simp at hp
 ·cases a:S p
  ·exact h.2 p hp i a
  ·unfold Dz at b
   rw[a,Bool.true_and]at b;rw[<-(h.1 p a).2.2];simpa using b
theorem BU.tell{e:List Nat}(h:BU k rs n S cs kn)(f:∀p,p<n->Ac (rs.getD p .dflt).xs)(d:∀i,Ai kn i=true->Ai e i=true):BU k rs n (Dz S cs kn) (fun p=>dropL (cs p) kn) e:=by
 obtain⟨l,m⟩:=h.next;refine⟨fun p hp=>?_,fun p hp q o=>?_⟩
 ·obtain⟨a,b,c,_⟩:=l p hp
  refine⟨a,b,?_⟩;show dropL (dropL (cs p) kn) e=_;rw[c,eK _ _ _ d (f p a)]
 ·have j:=O6.1 (m p hp q o)
  refine O6.2 fun i=>?_;have:=j i;rw[Hf]at this⊢;cases r:Ai (rs.getD p .dflt).xs i
  ·rfl
  ·rw[r]at this
   simp at this;rw[d i this];rfl
theorem BU.found{first:Nat}(h:BU k rs n S cs kn)(q:rs.length=n)(m:first<n)(f:S first=true/\cnt (dropL (cs first) kn)=1)(i:∀p,S p=true->cnt (dropL (cs p) kn)=1->first<=p):
  rs.find? (Cv k kn)=some (rs.getD first .dflt)/\Cv k kn (rs.getD first .dflt)=true:=by
 obtain⟨a,b,c⟩:=h.1 first f.1
 have ht:Cv k kn (rs.getD first .dflt)=true:=by
  unfold Cv;rw[b,<-c,f.2];rfl
 refine⟨Yk (by omega) ht fun j o=>?_,ht⟩;cases e:AV k (rs.getD j .dflt).xs
 ·unfold Cv;rw[e];rfl
 ·unfold Cv
  rw[e,Bool.true_and,decide_eq_false_iff_not];intro l;cases d:S j
  ·have:=h.2 j (by omega) e d;omega
  ·have:=i j d (by rw[(h.1 j d).2.2];exact l);omega
theorem BU.nomore(h:BU k rs n S cs kn)(f:rs.length=n)(c:∀p,S p=true->cnt (dropL (cs p) kn)=1->n<=p):rs.find? (Cv k kn)=none:=by
 refine Yl fun j e=>?_;cases b:AV k (rs.getD j .dflt).xs
 ·unfold Cv;rw[b];rfl
 ·unfold Cv
  rw[b,Bool.true_and,decide_eq_false_iff_not];intro d;cases a:S j
  ·have:=h.2 j (by omega) b a;omega
  ·have:=c j a (by rw[(h.1 j a).2.2];exact d);omega
theorem eb(rs:List RV)(q:RV->Bool)(g:RV->List Nat×ByteArray):((List.range rs.length).filter fun p=>q (rs.getD p .dflt)).map (fun p=>g (rs.getD p .dflt))=(rs.filter q).map g:=by
 have e:(List.range rs.length).map (fun p=>rs.getD p .dflt)=rs:=by
  apply List.ext_getElem
  ·simp
  ·intro i b a
   simp[List.getD_eq_getElem?_getD,List.getElem?_eq_getElem a]
 conv=>rhs;rw[<-e,List.filter_map,List.map_map]
 rfl
theorem BU.rest(h:BU k rs n S cs kn)(q:rs.length=n)(f:rs.find? (Cv k kn)=none)(bs:List ByteArray):Fx (Dz S cs kn) (fun p=>dropL (cs p) kn) bs rs n=restL k rs kn bs:=by
 obtain⟨i,o⟩:=h.next
 have l:∀p,p<n->Dz S cs kn p=FU k kn (rs.getD p .dflt):=fun p hp=>by
  have e:Cv k kn (rs.getD p .dflt)=false:=by
   rw[<-Bool.not_eq_true];have:=List.find?_eq_none.1 f rs[p] (List.getElem_mem (by omega));rwa[List.getD_eq_getElem?_getD,List.getElem?_eq_getElem (by omega)]
  unfold FU;unfold Cv at e;cases j:Dz S cs kn p
  ·cases u:AV k (rs.getD p .dflt).xs
   ·rfl
   ·rw[o p hp u j];rfl
  ·obtain⟨a,b,c,d⟩:=i p j
   rw[b,Bool.true_and]at e;rw[b,decide_eq_false d,e];rfl
 unfold Fx restL;subst q;rw[<-eb rs (FU k kn) fun r=>(dropL r.xs kn,Do bs r.xs r.s)];have m:((List.range rs.length).filter fun p=>Dz S cs kn p)=((List.range rs.length).filter fun p=>FU k kn (rs.getD p .dflt)):=List.filter_congr fun p hp=>l p (List.mem_range.1 hp);rw[m];apply List.map_congr_left;intro p hp;rw[List.mem_filter,List.mem_range]at hp;have:=i p (by rw[l p hp.1];exact hp.2);show(dropL (cs p) kn,_)=_;rw[this.2.2.1]
theorem P0{a:Option Addr}(h:Aj w a n rs)(f:Af rs):Dm rs:=fun r e=>by
 obtain⟨i,d,rfl⟩:=List.mem_iff_getElem.1 e;have b:=h.2.1 i (by rw[<-h.1];exact d);have c:=f i;rw[List.getD_eq_getElem?_getD,List.getElem?_eq_getElem d]at b c;exact⟨b.2.1,c.2⟩
def XD(w wr:World)(v:PV)(K:Nat)(rs:List RV)(f:Nat->Nat×Nat)(gk:Nat)(S:Nat->Bool)(cs:Nat->List Nat)(kn:List Nat)(bs:List ByteArray):Prop:=
 ∃j,Run (K:Int) rs j kn bs/\K=gk+j/\PS wr w.heap.size v (sizeOfK (K:Int)) S f cs kn bs/\BU (K:Int) rs v.n S cs kn/\Below w.heap.size w wr
def DJ(w w':World)(k:Int)(rs:List RV)(c:Option Addr)(e c1:Nat)(a:List RV)(d:Option Addr)(f c2:Nat)(b:List RV):Prop:=
 ∃kn bs,AM k rs kn bs/\Ak w' w.heap.size (.slice c e c1) a/\Ae w' a/\a.map core=toldTo k kn bs k.toNat/\Ak w' w.heap.size (.slice d f c2) b/\Ae w' b/\b.map core=restL k rs kn bs/\Below w.heap.size w w'
theorem rf(K:Nat)(a:Option Addr)(n c:Nat)(rs:List RV)(w:World)(ht:Tab w)(B:0<sizeOfK (K:Int))(h:Aj w a n rs)(hs:Af rs)(hn:n<=1048576):
  Calls Tryz.prog 254 #[.int .i64 (K:Int),.slice a n c] w fun e w'=> ∃a1 m1 c1 V a2 m2 c2 W,e=.returned (.tuple #[.slice a1 m1 c1,.slice a2 m2 c2])/\DJ w w' (K:Int) rs a1 m1 c1 V a2 m2 c2 W:=by
 have T:=D8 B;have hK:K<=128:=by omega
 have bi:=D6 (K:Int);have hg:=P0 h hs;have ap:∀p,p<n->Ac (rs.getD p .dflt).xs:=fun p hp=>(h.2.1 p hp).2.1;have H:=Ab (fun(j:Nat) (kn:List Nat) (bs:List ByteArray) (hr:Run (K:Int) rs j kn bs)=>Run.known B hg hr);have av:=Ab (jQ K a n c rs w B h hs hn);have D:((sizeOfK (K:Int):Nat):Int)≠0:=by omega
 have bc:(((sizeOfK (K:Int):Nat):Int)==0)=false:=by rw[beq_eq_false_iff_ne];exact D
 have HZ:=Ab (Hn (K:Int) w);have Hh:=Ab h;have Hs:=Ab hs;have HT:=Ab ht;have ac:=Ab ap;have HL:=Ab h.1;clear h hs ht ap hg T B D;generalize bf:sizeOfK (K:Int)=zz at HZ bc;clear bf;go_enter Tryz.func254,Tryz.ntmps254;go_wp2_with (first|(go_at_call 176;refine(Aa HZ).mono ?_;rintro e w9 ⟨rfl,ar⟩;obtain rfl:=ar.symm;clear ar)|(go_at_call 278;refine(Aa av).mono ?_;rintro e w1 ⟨g,kg,bg,f,rfl,l,q⟩;have J:=Ab l;have s:=Ab q;clear l q));go_loopg [7] K (fun gk _ wr=> ∃(S:Nat->Bool) (cs:Nat->List Nat) (kn:List Nat) (bs:List ByteArray),Hid (XD w wr ⟨g,a,n,c,kg,sizeOfK (K:Int),bg,K,w.heap.size⟩ K rs f gk S cs kn bs))
 case atStart=>exact⟨_,_,_,_,Ab ⟨0,⟨rfl,by rw[Int.toNat_natCast]⟩,by omega,Aa J,BU.start _ _ _ _,Aa s⟩⟩
 case round=>
  obtain⟨S,cs,kn,bs,Z⟩:=hrel;obtain⟨j,y,af,ag,C,z⟩:=Aa Z;have u:=Aa H j kn bs y;have R:=u.lenb;rw[Int.toNat_natCast]at R;have bb:=u.len;have I:=Ab (qG w.heap.size ⟨g,a,n,c,kg,sizeOfK (K:Int),bg,K,w.heap.size⟩ (sizeOfK (K:Int)) S f cs kn bs wr ag z.size (by omega) (by omega) hn);have ah:=(Aa Hh).below z;have o:=Ab C;have ab:=Ab y;have aw:=Ab z;have bh:=Ab ah;have X:=Ab af;have Y:=Ab u;have aj:=Ab u.shorts;clear J s ag C z y ah u Z af;go_wp2_with fail;refine(Aa I).mono ?_;rintro e w1 ⟨first,rfl,l,q,ak,r,A⟩;have b:=(Aa aw).trans q;have s:=Ab b;have aa:=Ab ((Aa Hh).below b);have a7:=Ab ((Aa HT).below b);have J:=Ab l;by_cases d:first<n
  ·obtain⟨al,aq⟩:=(Aa o).found (Aa HL) d (r d) A
   obtain⟨hv,Q,ba,bd,ai,am⟩:=KL (Aa ac first d) aq;rw[Int.toNat_natCast]at ai;have an:Dz S cs kn first=true:=by
    unfold Dz;rw[(r d).1,(r d).2];rfl
   have E:∀i,Ai kn i=true->Ai (BE kn (blkOf kn (rs.getD first .dflt)) true) i=true:=fun i hi=>by
    rw[Iw _ _ _ _ (by have:=D8 (Aa Y).size;omega)];split
    ·rfl
    ·exact hi
   have a8:=Ab (qk w.heap.size ⟨g,a,n,c,kg,sizeOfK (K:Int),bg,K,w.heap.size⟩ (sizeOfK (K:Int)) (Dz S cs kn) f (fun p=>dropL (cs p) kn) kn bs rs first (blkOf kn (rs.getD first .dflt)) w1 (Aa a7) l b.size (Aa aa) (Aa Hs) hn (Aa aj) (by omega) (by omega) (by omega) an
    (by show firstI (dropL (cs first) kn)=_;rw[((Aa o).1 first (r d).1).2.2];exact am) (by omega) (by have:=D8 (Aa Y).size;omega))
   have az:=Ab ((Aa o).tell (Aa ac) E);have L:=Ab (show Run (K:Int) rs (j+1) _ _ from⟨kn,bs,_,Aa ab,al,rfl,rfl⟩);have x:decide (first<n)=true:=decide_eq_true d;rw[x];clear al aq hv Q ba bd ai am an E x ak r A l q b I;go_wp2_with (go_at_call 282;refine(Aa a8).mono ?_;rintro e w2 ⟨rfl,ao,v⟩;have a0:=Ab ao;have au:=Ab ((Aa s).trans v);clear ao v);go_roundg (gk-1)
   case measure=>
    have:=(Aa H (j+1) _ _ (Aa L)).le;rw[Int.toNat_natCast]at this;have:=Aa X;omega
   case rel=>
    have h1:=(Aa H (j+1) _ _ (Aa L)).le;rw[Int.toNat_natCast]at h1;have h2:=Aa X;exact⟨_,_,_,_,Ab ⟨j+1,Aa L,by omega,Aa a0,Aa az,Aa au⟩⟩
  ·have a9:first=n:=by omega
   have m:=(Aa o).nomore (Aa HL) (fun p hp hc=>by have:=A p hp hc;omega);have a3:=Ab (show AM (K:Int) rs kn bs from⟨⟨j,Aa ab⟩,m⟩);have a4:=Ab ((Aa o).rest (Aa HL) m bs);have ad:=Ab (qm w.heap.size ⟨g,a,n,c,kg,sizeOfK (K:Int),bg,K,w.heap.size⟩ kn bs w1 l.1 (by omega) (by omega));have a5:=Ab (fun w2 (v:Below w1.heap.size w1 w2)=>qy w.heap.size ⟨g,a,n,c,kg,sizeOfK (K:Int),bg,K,w.heap.size⟩ (sizeOfK (K:Int)) (Dz S cs kn) f (fun p=>dropL (cs p) kn) kn bs rs w2 (l.below v) ((Aa aa).below v) (Aa Hs) hn (Aa aj) (by omega));rw[R]at ad;have x:decide (first<n)=false:=decide_eq_false d;rw[x];clear m x ak r A l q b I d a9 o R bb;go_wp2_with (first|(go_at_call 280;refine(Aa ad).mono ?_;rintro e w2 ⟨a1,m1,c1,V,rfl,O⟩;have ax:=Ab O;have a6:=Ab (Aa a5 w2 O.2.2.2.2);clear O)|(go_at_call 281;refine(Aa a6).mono ?_;rintro e w3 ⟨a2,m2,c2,W,rfl,ae⟩;have ay:=Ab ae;clear ae));go_ret2;have g1:=Aa ax;have g2:=Aa ay;have P:=g2.2.2.2.2;have N:=Aa s;refine⟨a1,m1,c1,V,a2,m2,c2,W,rfl,kn,bs,Aa a3,(g1.1.below P).mono N.size,g1.2.1.below P,?_,g2.1.mono (Nat.le_trans N.size g1.2.2.2.2.size),g2.2.1,?_,Ad (Ad N g1.2.2.2.2) P⟩
   ·rw[Int.toNat_natCast];exact g1.2.2.2.1
   ·rw[<-Aa a4];exact g2.2.2.2.1
theorem I0(h:sizeOfK k=0):AM k rs [] (List.replicate k.toNat ByteArray.empty)/\toldTo k [] (List.replicate k.toNat ByteArray.empty) k.toNat=[]/\restL k rs [] (List.replicate k.toNat ByteArray.empty)=[]:=by
 have a:∀xs,AV k xs=false:=fun xs=>by
  rw[<-Bool.not_eq_true];intro c;have:=(Gg c).1;omega
 refine⟨⟨⟨0,by rw[h];rfl,rfl⟩,?_⟩,?_,?_⟩
 ·rw[List.find?_eq_none]
  intro r _;unfold Cv;rw[a];simp
 ·unfold toldTo
  rw[List.filter_eq_nil_iff.2 (fun b _=>by rw[Vb];simp)];rfl
 ·unfold restL
  rw[List.filter_eq_nil_iff.2 (fun r _=>by unfold FU;rw[a];simp)];rfl
theorem re(k:Int)(a:Option Addr)(n c:Nat)(rs:List RV)(w:World)(ht:Tab w)(h:Aj w a n rs)(u:Af rs)(z:n<=1048576):
  Calls Tryz.prog 254 #[.int .i64 k,.slice a n c] w fun e w'=> ∃o v c1 l p x c2 m,e=.returned (.tuple #[.slice o v c1,.slice p x c2])/\DJ w w' k rs o v c1 l p x c2 m:=by
 by_cases j:sizeOfK k=0
 ·have f:=Hn k w
  rw[j]at f;have f:=Ab f;obtain⟨q,r,s⟩:=I0 (rs:=rs) j;have y:Hid (DJ w w k rs none 0 0 [] none 0 0 []):=Ab ⟨_,_,q,Ak.nil _ _,Ae.nil _,r.symm,Ak.nil _ _,Ae.nil _,s.symm,Below.refl _ _⟩;clear h u ht q r s j;go_enter Tryz.func254,Tryz.ntmps254;go_wp2_with (first|(go_at_call 176;refine(Aa f).mono ?_;rintro e A ⟨rfl,d⟩;obtain rfl:=d.symm;clear d));go_ret2;exact⟨none,0,0,[],none,0,0,[],rfl,Aa y⟩
 ·have b:0<sizeOfK k:=by omega
  have i:=D8 b;obtain⟨K,rfl⟩:=Int.eq_ofNat_of_zero_le (show 0<=k by omega);exact rf K a n c rs w ht b h u z
def A3(w:World)(g:Nat)(ss:List ByteArray):Prop:=∀i,i<ss.length->w.cell? ⟨g,i,none⟩=some (.string (ss.getD i ByteArray.empty))/\w.frozen? ⟨g,i,none⟩=false
theorem A3.texts(h:A3 w g ss):As w (some ⟨g,0,none⟩) ss.length ss:=
 ⟨rfl,.inr ⟨g,0,rfl,fun i a=>by rw[Nat.zero_add];exact(h i a).1⟩⟩
theorem A3.alloc(h:A3 w g ss)(a:g<w.heap.size)(o:Obj):A3 (w.alloc o) g ss:=fun i b=>
 ⟨(World.cell?_alloc_lt (h:=by exact a) ..).trans (h i b).1,(World.frozen?_alloc_old (h:=by exact Nat.ne_of_lt a) ..).trans (h i b).2⟩
theorem So(ss:List ByteArray)(k i:Nat)(z:ByteArray)(a:k<ss.length):(ss.set k z).getD i ByteArray.empty=if i=k then z else ss.getD i ByteArray.empty:=by
 simp only[List.getD_eq_getElem?_getD,List.getElem?_set];by_cases h:k=i
 ·subst h;simp[a]
 ·simp[h,Ne.symm h]
theorem A3.stored(h:A3 w g ss)(k:Nat)(z:ByteArray)(c:k<ss.length):A3 (w.setCell ⟨g,k,none⟩ (.string z)) g (ss.set k z):=by
 intro i a;rw[List.length_set]at a;refine⟨?_,by rw[World.frozen?_setCell];exact(h i a).2⟩;rw[So ss k i z c];by_cases e:i=k
 ·subst e
  rw[if_pos rfl];exact World.cell?_setCell_same _ _ _ (h i a).1
 ·rw[if_neg e]
  have b:(⟨g,k,none⟩:Addr)≠⟨g,i,none⟩:=fun h=>e (by injection h with _ h;exact h.symm);exact(World.cell?_setCell_other (h:=b) ..).trans (h i a).1
def Gz(rs:List RV)(k:Nat):List ByteArray:=(List.range rs.length).map fun i=>if i<k then(rs.getD i .dflt).s else ByteArray.empty
theorem Hi(rs:List RV)(k:Nat):(Gz rs k).length=rs.length:=by simp[Gz]
theorem Mp(rs:List RV)(k i:Nat):(Gz rs k).getD i ByteArray.empty=if i<k/\i<rs.length then(rs.getD i .dflt).s else ByteArray.empty:=by
 unfold Gz;rw[List.getD_eq_getElem?_getD];by_cases a:i<rs.length
 ·simp[a]
 ·simp[a]
theorem Rn{a b:List ByteArray}(e:a.length=b.length)(h:∀i,i<a.length->a.getD i ByteArray.empty=b.getD i ByteArray.empty):a=b:=by
 apply List.ext_getElem e;intro i c d;have:=h i c;simpa [List.getD_eq_getElem?_getD,List.getElem?_eq_getElem c,List.getElem?_eq_getElem d]using this
theorem kL(rs:List RV)(k:Nat)(c:k<rs.length):(Gz rs k).set k (rs.getD k .dflt).s=Gz rs (k+1):=by
 apply Rn
 ·rw[List.length_set,Hi,Hi]
 ·intro i a
  rw[List.length_set,Hi]at a;rw[So _ _ _ _ (by rw[Hi];exact c),Mp,Mp];by_cases e:i=k
  ·subst e;simp[a]
  ·rw[if_neg e]
   by_cases b:i<k
   ·rw[if_pos ⟨b,a⟩,if_pos ⟨by omega,a⟩]
   ·rw[if_neg (by omega),if_neg (by omega)]
theorem oR(rs:List RV):Gz rs rs.length=rs.map fun r=>r.s:=by
 apply Rn
 ·simp[Hi]
 ·intro i a
  rw[Hi]at a;rw[Mp,if_pos ⟨a,a⟩];simp[List.getD_eq_getElem?_getD,List.getElem?_eq_getElem a]
theorem mX{wr:World}{b k:Nat}{x y u v:Value}(f:A3 wr g (Gz rs k))(e:k<rs.length)(j:g<wr.heap.size)(h:Ba wr b x y)(d:g≠b)(i:Below w.heap.size w wr)(c:w.heap.size<=g):
  A3 ((wr.setCell ⟨g,k,none⟩ (.string (rs.getD k .dflt).s)).alloc (.cells #[u,v] 73)) g (Gz rs (k+1))/\
  Ba ((wr.setCell ⟨g,k,none⟩ (.string (rs.getD k .dflt).s)).alloc (.cells #[u,v] 73)) b x y/\
  Below w.heap.size w ((wr.setCell ⟨g,k,none⟩ (.string (rs.getD k .dflt).s)).alloc (.cells #[u,v] 73))/\
  g<((wr.setCell ⟨g,k,none⟩ (.string (rs.getD k .dflt).s)).alloc (.cells #[u,v] 73)).heap.size:=by
 have a:=i.setCell (p:=⟨g,k,none⟩) (by exact c) (.string (rs.getD k .dflt).s);refine⟨?_,(h.other _ _ d).alloc _,a.alloc a.size _,by simp;omega⟩;rw[<-kL rs k e];exact(f.stored k _ (by rw[Hi];exact e)).alloc (by simpa using j) _
theorem qa:(Tryz.prog.info? 9).map (fun i=>(i.zero,i.size,i.bytes))=some (some (.string ByteArray.empty),1,16):=by kernel_rfl
theorem fM(w:World)(n:Nat)(rs:List RV)(b:rs.length=n):A3 (w.alloc (.cells (madeCells (Value.string ByteArray.empty).cells (n*1)) 9)) w.heap.size (Gz rs 0):=by
 intro i a;rw[Hi]at a;refine⟨?_,by simp⟩;rw[World.cell?_alloc_new,Mp,if_neg (by omega)];rw[show(Value.string ByteArray.empty).cells=#[Value.string ByteArray.empty] from rfl,<-Array.getElem?_toList,toList_madeCells_one,Nat.mul_one];simp[show i<n from by omega]
theorem Y0(a:Option Addr)(n c:Nat)(rs:List RV)(w:World)(h:Aj w a n rs)(J:Af rs)(hn:n<=1048576)(hc:n<=c)(Y:c<=9223372036854775807):
  Calls Tryz.prog 275 #[.slice a n c] w fun e w'=> ∃v,e=.returned (.agg #[v,.string (st (Cz (rs.map fun r=>r.s)))])/\Own w' w.heap.size v (AO rs)/\Below w.heap.size w w':=by
 obtain rfl:=h.1;obtain⟨i0,I,K,L,N⟩:=info_parts qa;have d:=run_make (P:=Tryz.prog) (w.alloc (.cells #[.slice none 0 0,.string ⟨#[]⟩] 73)) 66 9 i0 (.string ByteArray.empty) Tryz.underlying66 I K .i64 .i64 (rs.length:Int) (rs.length:Int) (by omega) (by omega) (by rw[N];omega) (by omega);simp only[Int.toNat_natCast]at d;rw[L]at d;have hX:=(JO w (.slice none 0 0) (.string ⟨#[]⟩)).alloc (.cells (madeCells (Value.string ByteArray.empty).cells (rs.length*1)) 9);have X:=fM (w.alloc (.cells #[.slice none 0 0,.string ⟨#[]⟩] 73)) rs.length rs rfl;have hb:=GV (Below.refl _ w) (Below.refl ((w.alloc (.cells #[.slice none 0 0,.string ⟨#[]⟩] 73)).alloc (.cells (madeCells (Value.string ByteArray.empty).cells (rs.length*1)) 9)).heap.size _);have x:(w.alloc (.cells #[.slice none 0 0,.string ⟨#[]⟩] 73)).heap.size<((w.alloc (.cells #[.slice none 0 0,.string ⟨#[]⟩] 73)).alloc (.cells (madeCells (Value.string ByteArray.empty).cells (rs.length*1)) 9)).heap.size:=by simp
 rw[Bc]at d X x;generalize ((w.alloc (.cells #[.slice none 0 0,.string ⟨#[]⟩] 73)).alloc (.cells (madeCells (Value.string ByteArray.empty).cells (rs.length*1)) 9))=w1 at*;have HX:=Ab hX;have HT:=Ab X;have HB:=Ab hb;have HG:=Ab x;clear hX X hb x I K L N;go_enter Tryz.func275,Tryz.ntmps275;go_wp2;go_loopw [11] (fun i wr=> ∃k:Nat,k<=rs.length/\i=.int .i64 k/\Hid (A3 wr (w.heap.size+1) (Gz rs k))/\Hid (Ba wr w.heap.size (.slice none 0 0) (.string ⟨#[]⟩))/\Hid (Below w.heap.size w wr)/\Hid (w.heap.size+1<wr.heap.size)) (fun i _=>rs.length-(intOf i).toNat)
 case atStart=>exact⟨0,Nat.zero_le _,rfl,HT,HX,HB,HG⟩
 case round=>
  obtain⟨k,hk,rfl,j,o,f,m⟩:=hrel;clear HT HX HB HG d;by_cases l:k<rs.length
  ·obtain⟨b,off,rfl,H⟩:=(h.below (Aa f)).at l
   obtain⟨ad,ae⟩:=H k l;have ac:(k:Int)<(rs.length:Int):=by omega
   have R:=Ab (mX (u:=.slice (rs.getD k .dflt).a (rs.getD k .dflt).n (rs.getD k .dflt).c) (v:=.string (rs.getD k .dflt).s) (Aa j) l (Aa m) (Aa o) (by omega) (Aa f) (by omega));have hold:=(Aa j) k (by rw[Hi];exact l);obtain⟨af,ag⟩:=hold;have x:=Aa m;have Hh:=Ab h;have Hs:=Ab J;clear h H J j o f m;generalize rs.getD k .dflt=r at*;go_wp2;go_roundw
   case rel=>exact⟨k+1,by omega,by go_num,Ab (Aa R).1,Ab (Aa R).2.1,Ab (Aa R).2.2.1,Ab (Aa R).2.2.2⟩
   case measure=>simp[intOf];omega
  ·have Z:k=rs.length:=by omega
   subst Z;rw[oR]at j;have HR:=Ab (h.below (Aa f))
   have HS:Hid (∀r∈rs,r.xs.length<=10):=Ab (fun r hr=>by
    obtain⟨i,Q,rfl⟩:=List.mem_iff_getElem.1 hr;have E:=(J i).1;have h2:=(h.2.1 i Q).1;rw[List.getD_eq_getElem?_getD,List.getElem?_eq_getElem Q]at E h2;simp only[Option.getD_some]at E h2;omega)
   have W:Hid (shorts (rs.map fun r=>r.s)):=Ab (fun t ht=>by
    obtain⟨r,hr,rfl⟩:=List.mem_map.1 ht;obtain⟨i,Q,rfl⟩:=List.mem_iff_getElem.1 hr;have E:=(J i).2;rw[List.getD_eq_getElem?_getD,List.getElem?_eq_getElem Q]at E;simp only[Option.getD_some]at E;omega)
   have aa:Hid ((rs.map fun r=>r.s).length=rs.length):=Ab (by simp);clear h J l;go_wp2_with fail;refine(XN rs.length a rs.length c rs _ (Nat.le_refl _) (Aa HR) (Aa HS) hn hc Y).mono ?_;rintro e w2 ⟨v2,rfl,y,p⟩;obtain⟨O,c2,rfl,ab⟩:=y.row;clear ab;have z:=(Aa j).texts.below p;rw[Aa aa]at z;have C:=Ab z;have D:=Ab ((Aa o).below p);have A:=Ab (Ad (Aa f) p);have B:=Ab (y.mono (show w.heap.size+1<=_ from by have:=Aa m;omega));clear y p z j o f HR;go_wp2_with fail;refine(Xx _ _ _ _ _ (Aa C) (Aa W) hn).mono ?_;rintro e w3 ⟨rfl,q⟩;obtain⟨⟨x0,x1⟩,f0,f1⟩:=(Aa D).below q;have T:=Ab (Ad (Aa A) q);have V:=Ab ((Aa B).below q);clear D C A B q;go_wp2;have y1:=World.cell?_setCell_same (w3.setCell ⟨w.heap.size,0,none⟩ (.slice O (AO rs).length c2)) ⟨w.heap.size,1,none⟩ (.string (st (Cz (rs.map fun r=>r.s)))) ((World.cell?_setCell_other (h:=by simp) ..).trans x1)
   have y0:((w3.setCell ⟨w.heap.size,0,none⟩ (.slice O (AO rs).length c2)).setCell ⟨w.heap.size,1,none⟩ (.string (st (Cz (rs.map fun r=>r.s))))).cell? ⟨w.heap.size,0,none⟩=some (.slice O (AO rs).length c2):=
    (World.cell?_setCell_other (h:=by simp) ..).trans (World.cell?_setCell_same _ _ _ x0)
   exact bodyPost_ret (v:=.agg #[.slice O (AO rs).length c2,.string (st (Cz (rs.map fun r=>r.s)))]) (by simp[results,Tryz.results275,go_sem,y0,y1]) rfl
    ⟨_,rfl,(((Aa V).other _ _ (by omega)).other _ _ (by omega)).mono (by omega),((Aa T).setCell (Nat.le_refl _) _).setCell (Nat.le_refl _) _⟩
end Go.Proofs.YtfpmnekaockodaaGreatDoor
