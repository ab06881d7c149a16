/- Laws for the proof. -/
import Derived.Test.YtfpmnekaockodaaGreatDoorU28
set_option linter.all false
open Bool renaming and_eq_true->U
open List renaming getD_eq_getElem?_getD->V,replicate->W,getElem?_eq_getElem->X,foldl_cons->Z,length_map->α,length_filter_le->β,length_replicate->γ,mem_cons_of_mem->δ,mem_cons_self->ε,length_append->ζ,length_range->η
open Go.Value renaming int->Y
namespace Go.Proofs.YtfpmnekaockodaaGreatDoor
open Go.RowKit Go.Sort
set_option maxRecDepth 4000
set_option maxHeartbeats 8000000
variable {M:Int}{x:List Nat×ByteArray}{rs:List RV}{m g B gs gs1:Nat}{p:PKV}{v v1:Value}{w w' w1:World}
def C6(k l:Int)(L:List (List Nat×ByteArray))(ob:ByteArray):Prop:=∃rs kn bs,rs.map core=L/\AN k rs kn bs/\ob=st ((joinL (solveC k (peelC k rs kn bs))).take l.toNat)
def C6.size{k l:Int}{L:List (List Nat×ByteArray)}{a:ByteArray}(h:C6 k l L a):a.size<=l.toNat:=by
 obtain⟨rs,kn,bs,_,_,rfl⟩:=h;rw[Dq];exact List.length_take_le _ _
def Td{m:Nat}:∀{ss:List ByteArray},(∀s∈ss,s.size=m)->(joinL ss).length=ss.length*m
 |[],_=>by simp[joinL]
 |s::ss,h=>by
  have a:=Td (ss:=ss) fun t ht=>h t (δ _ ht);have b:=h s ε;unfold joinL at*;rw[List.flatMap_cons,ζ,a,AR,b,List.length_cons,Nat.add_mul,Nat.one_mul,Nat.add_comm]
def V5{m:Nat}{L:List (List Nat×ByteArray)}:∀(ps:List Nat) (a:List Nat),(∀i∈ps,(L.getD i zC).2.size=m)->a.length=m\/(a.length<=m/\ps≠ [])->((Gu L ps).foldl (fun a s=>xorL a (tx s)) a).length=m
 |[],a,_,h=>by
  rcases h with h|h
  ·exact h
  ·exact absurd rfl h.2
 |i::ps,a,hp,h=>by
  unfold Gu;rw[List.map_cons,Z];refine V5 ps _ (fun q b=>hp q (δ _ b)) (.inl ?_);have:=hp i ε;rw[BS,AR,this];rcases h with h|h<;>omega
def gu{K:Nat}{L:List (List Nat×ByteArray)}(O:0<sizeOfK (K:Int))(r:C5 1048576 L)(P:L.length<=100000)(J:∀x∈L,AX (K:Int) x.1=true)(H:∀x∈L,x.2.size=m)
  (I:(Ce (vecsC L)).length=K) {b:Nat} (D:b<K):(blockC (K:Int) L b).size=m:=by
 have a:((b:Nat):Int)<(K:Int):=by omega
 have A:val (unitL (K:Int) (b:Int))=2^b:=K9 (Fh a) (I7 O a);have u:(unitL (K:Int) (b:Int)).length<=1048576:=by rw[JL a];have:=DU (K:Int);omega
 have j:Ech.Sp ((vecsC (Cw L)).map val) (val (unitL (K:Int) (b:Int))):=by
  rw[OP,MT r,A]
  have z:∀v∈vecsC L,AX (K:Int) v=true:=fun v y=>by
   obtain⟨x,N,rfl⟩:=List.mem_map.1 y;exact J x N
  exact(OY r z).2 (by rw[Int.toNat_natCast];exact I) b (by rw[Int.toNat_natCast];exact D)
 have d:=r.kept;have h:(vecsC (Cw L)).length<=100000:=by
  rw[I6,R7];have:=GL (vecsC L) L.length;omega
 obtain⟨c,n⟩:=Ue d j;have l:firstI (reduceL (broughtL (vecsC (Cw L))) (unitL (K:Int) (b:Int)))<0:=(L1 d (Fh a) u).2 j;have q:exL (vecsC (Cw L)) (unitL (K:Int) (b:Int))=exprL (vecsC (Cw L)) (unitL (K:Int) (b:Int)):=by unfold exL;rw[if_pos l]
 unfold blockC;rw[q,Dq];have o:=NQ d h (Fh a) n;have f:val (Ek (vecsC (Cw L)) (exprL (vecsC (Cw L)) (unitL (K:Int) (b:Int))))=2^b:=by
  rw[o,<-A];exact n.sum d
 have e:=WK _ d h (Fh a) n;refine V5 _ [] (fun i E=>?_) (.inr ⟨Nat.zero_le _,fun s=>?_⟩)
 ·have e:=e i E
  rw[I6]at e;rw[V,X e];exact H _ (UX (List.getElem_mem e))
 ·rw[s]at f
  have C:val (Ek (vecsC (Cw L)) [])=0:=by simp[Ek,val]
  rw[C]at f;have:=Nat.two_pow_pos b;omega
def mL{K:Nat}{kn:List Nat}{bs:List ByteArray}(l:AN (K:Int) rs kn bs)(d:Dx rs)(L:∀r∈rs,r.xs.length<=10)(S:rs.length<=300)(i:0<sizeOfK (K:Int))(I:∀r∈rs,AX (K:Int) r.xs=true)(N:∀r∈rs,r.s.size=m)(P:CY (rs.map core)=K):
  Ec (K:Int) (peelC (K:Int) rs kn bs)=true/\(solveC (K:Int) (peelC (K:Int) rs kn bs)).length=K/\∀s∈solveC (K:Int) (peelC (K:Int) rs kn bs),s.size=m:=by
 have c:=Tj l d;have Q:=DU (K:Int);have H:=DV i;obtain⟨j,J⟩:=l.kn d i
 have q:C5 1048576 (peelC (K:Int) rs kn bs):=fun v I=>by
  obtain⟨x,a,rfl⟩:=List.mem_map.1 I;refine⟨?_,by have:=(GS (c x a)).2.1;omega⟩;unfold peelC at a;rcases List.mem_append.1 a with a|a
  ·obtain⟨b,o,_,rfl⟩:=Iw J a
   exact Fh (by omega)
  ·unfold restL at a
   obtain⟨r,e,rfl⟩:=List.mem_map.1 a;exact Hn (d r (List.mem_filter.1 e).1).1 _
 have D:(peelC (K:Int) rs kn bs).length<=100000:=by
  unfold peelC toldTo restL;rw[ζ,α,α];have n:=β (fun b=>Ah kn b) (List.range (K:Int).toNat);have R:=β (Fz (K:Int) kn) rs;rw[η]at n;omega
 have y:Ay 1048576 (vecsL rs):=by
  have:=L4 d L (fun _=>true);rwa[List.filter_eq_self.2 (fun _ _=>rfl)]at this
 have u:(rs.filter fun r=>AX (K:Int) r.xs)=rs:=List.filter_eq_self.2 I;have e:(Ce (vecsC (peelC (K:Int) rs kn bs))).length=K:=by
  have n:(Ce (vecsC (peelC (K:Int) rs kn bs))).length=Hz (K:Int) rs:=W9 q (L4 d L _) (UK l d);rw[n];unfold Hz;rw[u,<-Md y,KR,<-P,<-LU];rfl
 have C:(keepL (vecsC (peelC (K:Int) rs kn bs)) (peelC (K:Int) rs kn bs).length).length=K:=by
  have:=Md q;rw[I6]at this;exact this.trans e
 have f:Ec (K:Int) (peelC (K:Int) rs kn bs)=true:=by
  unfold Ec;rw[decide_eq_true i,Bool.true_and,C];exact decide_eq_true (Int.le_refl _)
 obtain⟨⟨T,A⟩,_⟩:=id l;obtain⟨s1,s2⟩:=O1 i d N A
 have E:∀x∈peelC (K:Int) rs kn bs,x.2.size=m:=fun x a=>by
  unfold peelC at a;rcases List.mem_append.1 a with a|a
  ·obtain⟨b,o,z,rfl⟩:=Iw J a
   exact s1 b z
  ·unfold restL at a
   obtain⟨r,e,rfl⟩:=List.mem_map.1 a;exact O5 s2 (N r (List.mem_filter.1 e).1)
 have O:solveC (K:Int) (peelC (K:Int) rs kn bs)=(List.range K).map (blockC (K:Int) (peelC (K:Int) rs kn bs)):=by
  unfold solveC;rw[if_pos f,Int.toNat_natCast]
 refine⟨f,by rw[O,α,η],fun s h=>?_⟩;rw[O]at h;obtain⟨b,o,rfl⟩:=List.mem_map.1 h;exact gu i q D c E e (List.mem_range.1 o)
structure DS where
 bg:Bool
 o:Int
 l:Int
 k:Int
 z:Int
 L:List (List Nat×ByteArray)
 ov:Bool
 dn:Bool
 ob:ByteArray
def CQ:DS:=⟨false,0,0,0,0,[],false,false,⟨#[]⟩⟩
def DD(p:PKV):Bool:=decide (((1<=p.k/\p.k<=128)/\1<=p.z/\p.z<=64)/\(0<=p.o/\p.o<=4294967295)/\(0<=p.l/\p.l<=p.k*p.z)/\0<=p.h/\p.h<=15)&&BX p.k p.z (p.r.xs,p.r.s)
def qf{k z:Int}:BX k z x=true↔J4 k z x.1 x.2.size:=by
 unfold BX J4;rw[U,U,Hg,decide_eq_true_iff,decide_eq_true_iff,and_assoc]
def Xj:DD p=true↔Cd p.o p.l p.k p.z p.h p.r.xs p.r.s.size:=by
 unfold DD Cd;rw[U,decide_eq_true_iff,qf];rfl
def QF(p:PKV):EN (if DD p=true then 0 else 1) (Cd p.o p.l p.k p.z p.h p.r.xs p.r.s.size):=by
 by_cases h:DD p=true
 ·rw[if_pos h];exact .inl ⟨Xj.1 h,rfl⟩
 ·rw[if_neg h];exact .inr ⟨fun a=>h (Xj.2 a),rfl⟩
def La(s:DS)(p:PKV):Bool:=decide (p.o=s.o/\p.l=s.l/\p.k=s.k/\p.z=s.z)
def Df(s:DS)(p:PKV):Bool:=DD p&&(!s.bg||La s p)
def Cs(s:DS)(p:PKV):DS:=if s.bg=true then s else⟨true,p.o,p.l,p.k,p.z,[],false,false,⟨#[]⟩⟩
def Hu(M:Int)(s:DS)(x:List Nat×ByteArray):Bool:= !s.dn&&(decide (s.L.length<capN M)&&decide ((CY (s.L++[x]):Int)=s.k))
def E3(M:Int)(s:DS)(x:List Nat×ByteArray)(ob:ByteArray):DS:=
 if s.dn=true then s
 else if s.L.length<capN M then(if (CY (s.L++[x]):Int)=s.k then{s with L:=s.L++[x],dn:=true,ob:=ob}else{s with L:=s.L++[x]})
 else{s with ov:=true}
def Fx(M:Int)(s:DS):Int:=if s.dn=true then 0 else if s.L.length<capN M then 0 else 5
def FW(M:Int)(s:DS)(p:PKV)(ob:ByteArray):DS:=if Df s p=true then E3 M (Cs s p) (p.r.xs,p.r.s) ob else s
def Lo(M:Int)(s:DS)(p:PKV):Int:=if Df s p=true then Fx M (Cs s p)else 1
def GV(M:Int)(s:DS)(x:List Nat×ByteArray)(ob:ByteArray):Prop:=Hu M s x=true->C6 s.k s.l (s.L++[x]) ob
def Py{s:DS}{ob:ByteArray}(h:s.dn=true):E3 M s x ob=s/\Fx M s=0:=by
 unfold E3 Fx;rw[if_pos h,if_pos h];exact⟨rfl,rfl⟩
def Kz{s:DS}{ob:ByteArray}(h:s.dn=false)(a:s.L.length<capN M)(b:(CY (s.L++[x]):Int)=s.k):E3 M s x ob={s with L:=s.L++[x],dn:=true,ob:=ob}/\Fx M s=0/\Hu M s x=true:=by
 unfold E3 Fx Hu;rw[h,if_neg (by decide),if_pos a,if_pos b,if_neg (by decide),if_pos a,decide_eq_true a,decide_eq_true b];exact⟨rfl,rfl,rfl⟩
def Pz{s:DS}{ob:ByteArray}(h:s.dn=false)(a:s.L.length<capN M)(b:¬(CY (s.L++[x]):Int)=s.k):E3 M s x ob={s with L:=s.L++[x]}/\Fx M s=0/\Hu M s x=false:=by
 unfold E3 Fx Hu;rw[h,if_neg (by decide),if_pos a,if_neg b,if_neg (by decide),if_pos a,decide_eq_true a,decide_eq_false b];exact⟨rfl,rfl,rfl⟩
def Ou{s:DS}{ob:ByteArray}(h:s.dn=false)(a:¬s.L.length<capN M):E3 M s x ob={s with ov:=true}/\Fx M s=5/\Hu M s x=false:=by
 unfold E3 Fx Hu;rw[h,if_neg (by decide),if_neg a,if_neg (by decide),if_neg a,decide_eq_false a];exact⟨rfl,rfl,rfl⟩
def nE{s:DS}(h:s.dn=true):Hu M s x=false:=by
 unfold Hu;rw[h];rfl
structure BU(s:DS):Prop where
 bg:s.bg=true
 sh:((1<=s.k/\s.k<=128)/\1<=s.z/\s.z<=64)/\0<=s.l/\s.l<=s.k*s.z
 fit:∀x∈s.L,BX s.k s.z x=true
 dn:s.dn=true↔(CY s.L:Int)=s.k
 ob:s.dn=false->s.ob=⟨#[]⟩
 obs:s.ob.size<=8192
def BU.lz{s:DS}(h:BU s):s.l.toNat<=8192:=by
 have:=Qv (k:=s.k) (z:=s.z) h.sh.1;have:=h.sh.2;omega
def BU.keep{s:DS}(h:BU s){x:List Nat×ByteArray}(l:BX s.k s.z x=true){ob:ByteArray}(j:GV M s x ob):BU (E3 M s x ob):=by
 have a:∀y∈s.L++[x],BX s.k s.z y=true:=fun y d=>by
  rcases List.mem_append.1 d with d|d
  ·exact h.fit y d
  ·rw[List.mem_singleton.1 d];exact l
 cases b:s.dn
 ·by_cases f:s.L.length<capN M
  ·by_cases c:(CY (s.L++[x]):Int)=s.k
   ·have n:=(j (Kz (ob:=ob) b f c).2.2).size
    rw[(Kz b f c).1];exact⟨h.bg,h.sh,a,⟨fun _=>c,fun _=>rfl⟩,(fun e=>by cases e),Nat.le_trans n h.lz⟩
   ·rw[(Pz b f c).1]
    exact⟨h.bg,h.sh,a,⟨(fun e=>by have i:s.dn=true:=e;rw[b]at i;cases i),fun e=>absurd e c⟩,h.ob,h.obs⟩
  ·rw[(Ou b f).1]
   exact⟨h.bg,h.sh,h.fit,h.dn,h.ob,h.obs⟩
 ·rw[(Py b).1];exact h
def mm:CY []=0:=rfl
def PI{s:DS}(h:Df s p=true):DD p=true/\BX (Cs s p).k (Cs s p).z (p.r.xs,p.r.s)=true/\(Cs s p).bg=true:=by
 unfold Df at h;rw[U,Bool.or_eq_true]at h;obtain⟨c,a⟩:=h;have b:=c;unfold DD at b;rw[U]at b;refine⟨c,?_⟩;unfold Cs;cases d:s.bg
 ·rw[if_neg (by decide)];exact⟨b.2,rfl⟩
 ·rw[if_pos rfl]
  rw[d]at a;rcases a with a|a
  ·cases a
  ·unfold La at a
   obtain⟨_,_,e,f⟩:=decide_eq_true_iff.1 a;rw[<-e,<-f];exact⟨b.2,d⟩
def BU.beg{s:DS}(h:s.bg=true->BU s)(hp:DD p=true):BU (Cs s p):=by
 unfold Cs;cases c:s.bg
 ·rw[if_neg (by decide)]
  unfold DD at hp;rw[U]at hp;obtain⟨a,f,a3,a4⟩:=decide_eq_true_iff.1 hp.1;exact⟨rfl,⟨a,a3⟩,(fun x d=>by cases d),⟨(fun e=>by cases e),(fun e=>by have b:(CY []:Int)=p.k:=e;rw[mm]at b;omega)⟩,(fun _=>rfl),Nat.zero_le _⟩
 ·rw[if_pos rfl];exact h c
def Ax.tu{F:Nat->Prop}{k z:Int}{ov:Bool}(h:Ax w g B k z m v rs ov)(ht:Tu F w w')(b:∀j,Dk g v j->¬F j)(d:∀j a,w.heap[j]? =some (.cells a 265 (0,0))->¬F j):Ax w' g B k z m v rs ov:=
 ⟨h.blk.tu ht (b g (.inl rfl)),h.lo,h.own.tu ht (fun j c=>b j (.inr c)),h.rows.tu ht d,h.le,h.most,h.short⟩
def Jp(M:Int)(s:DS)(p:Option Addr):List Value:=[Y .i64 M,Y .i64 s.o,Y .i64 s.l,Y .i64 s.k,Y .i64 s.z,.pointer p,.bool s.dn,.string s.ob]
def FY(b:Bool)(gs:Nat):Option Addr:=if b=true then some ⟨gs,0,none⟩else none
def CP(g gs:Nat)(v:Value)(k:Nat):Prop:=k=g\/Dk gs v k
structure Ao(w:World)(g B:Nat)(M:Int)(s:DS)(gs:Nat)(v:Value)(rs:List RV):Prop where
 blk:BkA 174 w g (Jp M s (FY s.bg gs))
 lo:B<=g
 begun:s.bg=true->Ax w gs B s.k s.z (capN M) v rs s.ov/\BU s
 fresh:s.bg=false->s=CQ/\v=.slice none 0 0/\gs=g
 co:rs.map core=s.L
def Ao.below{s:DS}(h:Ao w g B M s gs v rs)(a:Below w.heap.size w w'):Ao w' g B M s gs v rs:=
 ⟨h.blk.below a,h.lo,fun e=>⟨(h.begun e).1.below a,(h.begun e).2⟩,h.fresh,h.co⟩
def Ao.lt{s:DS}(h:Ao w g B M s gs v rs):g<w.heap.size:=h.blk.lt
def Ao.lob{s:DS}(h:Ao w g B M s gs v rs):B<=w.heap.size:=Nat.le_of_lt (Nat.lt_of_le_of_lt h.lo h.lt)
def Ao.mono{B':Nat}{s:DS}(h:Ao w g B M s gs v rs)(a:B'<=B):Ao w g B' M s gs v rs:=
 ⟨h.blk,Nat.le_trans a h.lo,fun e=>⟨(h.begun e).1.mono a,(h.begun e).2⟩,h.fresh,h.co⟩
def Ao.low{s:DS}(h:Ao w g B M s gs v rs):∀j,j<B->¬CP g gs v j:=fun j c a=>by
 have d:=h.lo;rcases a with rfl|a
 ·omega
 ·cases b:s.bg
  ·obtain⟨_,rfl,rfl⟩:=h.fresh b
   rcases a with rfl|a
   ·omega
   ·cases a
  ·exact(h.begun b).1.low j c a
def Ao.keeps{s:DS}(h:Ao w g B M s gs v rs)(ht:Tu (CP g gs v) w w'):Below B w w':=ht.below h.lob h.low
def Ao.out{s:DS}(h:Ao w g B M s gs v rs){T:TypeId}{p:Nat}{b:Array Value}{j:Nat×Nat}(hp:w.heap[p]? =some (.cells b T j))(e:174≠T)(l:225≠T)(n:73≠T):¬CP g gs v p:=fun a=>by
 rcases a with rfl|a
 ·exact h.blk.ne hp e rfl
 ·cases f:s.bg
  ·obtain⟨_,rfl,rfl⟩:=h.fresh f
   rcases a with rfl|a
   ·exact h.blk.ne hp e rfl
   ·cases a
  ·have i:=(h.begun f).1
   rcases a with rfl|a
   ·have:=i.blk
    unfold BG at this;rw[this]at hp;simp only[Option.some.injEq,Obj.cells.injEq]at hp;exact l hp.2.1
   ·obtain⟨d,c⟩:=i.own.blk5 a
    rw[c]at hp;simp only[Option.some.injEq,Obj.cells.injEq]at hp;exact n hp.2.1
def Mv(w:World)(gs:Nat)(v:Value)(a:Nat)(v':Value):Prop:=(a=gs\/w.heap.size<=a)/\(v'.ownBlock=v.ownBlock\/∀j,v'.ownBlock=some j->w.heap.size<=j)
def Mv.refl(w:World)(gs:Nat)(v:Value):Mv w gs v gs v:=⟨.inl rfl,.inl rfl⟩
def Mv.at{a:Nat}{v':Value}(h:Mv w gs v a v')(g j:Nat)(c:j<w.heap.size)(b:CP g a v' j):CP g gs v j:=by
 rcases b with rfl|rfl|b
 ·exact .inl rfl
 ·rcases h.1 with e|e
  ·exact .inr (.inl e)
  ·omega
 ·rcases h.2 with e|e
  ·exact .inr (.inr (e▸b))
  ·have:=e j b;omega
def Mv.trans{a:Nat}{b:Value}(h:Mv w gs v gs1 v1)(k:Mv w1 gs1 v1 a b)(d:w.heap.size<=w1.heap.size):Mv w gs v a b:=by
 refine⟨?_,?_⟩
 ·rcases k.1 with e|e
  ·rw[e];exact h.1
  ·exact .inr (by omega)
 ·rcases k.2 with e|e
  ·rw[e];exact h.2
  ·exact .inr fun j c=>Nat.le_trans d (e j c)
def Mv.new(h:Mv w1 gs v gs1 v1)(a:w.heap.size<=w1.heap.size):Mv w gs v gs1 v1:=(Mv.refl w gs v).trans h a
def XT{w2:World}(h:Tu (CP g gs v) w w1)(k:Tu (CP g gs1 v1) w1 w2)(c:Mv w gs v gs1 v1):Tu (CP g gs v) w w2:=h.trans k fun j b a=>c.at g j b a
def Z9(w:World)(M:Int):Ao (w.alloc (.cells #[Y .i64 M,Y .i64 0,Y .i64 0,Y .i64 0,Y .i64 0,.pointer none,.bool false,.string ⟨#[]⟩] 174)) w.heap.size w.heap.size M CQ w.heap.size (.slice none 0 0) []:=
 ⟨AI 174 w (Jp M CQ none),Nat.le_refl _,(fun e=>by cases e),(fun _=>⟨rfl,rfl,rfl⟩),rfl⟩
def Ao.cells{s:DS}(h:Ao w g B M s gs v rs):
  w.cell? ⟨g,0,none⟩=some (Y .i64 M)/\w.cell? ⟨g,1,none⟩=some (Y .i64 s.o)/\w.cell? ⟨g,2,none⟩=some (Y .i64 s.l)/\w.cell? ⟨g,3,none⟩=some (Y .i64 s.k)/\w.cell? ⟨g,4,none⟩=some (Y .i64 s.z)/\
   w.cell? ⟨g,5,none⟩=some (.pointer (FY s.bg gs))/\w.cell? ⟨g,6,none⟩=some (.bool s.dn)/\w.cell? ⟨g,7,none⟩=some (.string s.ob):=
 ⟨h.blk.at 0 rfl,h.blk.at 1 rfl,h.blk.at 2 rfl,h.blk.at 3 rfl,h.blk.at 4 rfl,h.blk.at 5 rfl,h.blk.at 6 rfl,h.blk.at 7 rfl⟩
variable {k:Nat}
def fz(xs:List Nat)(i j:Nat)(h:i<64*xs.length):Ah (By xs i true) j=(decide (j=i)||Ah xs j):=by
 have e:i/64<xs.length:=by omega
 unfold Ah By setW;rw[DT];by_cases c:j/64=i/64
 ·rw[if_pos ⟨c,e⟩,c]
  by_cases f:j%64=i%64
  ·have a:j=i:=by omega
   subst a;split
   ·rename_i b;rw[b];simp
   ·rename_i b;rw[Nat.testBit_xor,Nat.testBit_two_pow];simp at b;simp[b]
  ·have a:decide (j=i)=false:=by simp;omega
   have d:decide (i%64=j%64)=false:=by simp;omega
   split
   ·rw[a];rfl
   ·rw[Nat.testBit_xor,Nat.testBit_two_pow,a,d];simp
 ·have a:decide (j=i)=false:=by simp;omega
  rw[if_neg (fun k=>c k.1),a];rfl
def ff(n i:Nat):Ah (W n 0) i=false:=by
 unfold Ah;have:(W n 0).getD (i/64) 0=0:=by
  rw[V,List.getElem?_replicate];split<;>rfl
 rw[this];simp
def El(k:Nat)(ns:List Nat):List Nat:=ns.foldl (fun v i=>By v i true) (W (sizeOfK (k:Int)) 0)
def rb(k:Nat):El k []=W (sizeOfK (k:Int)) 0:=rfl
def mx(k:Nat)(ns:List Nat)(i:Nat):El k (ns++[i])=By (El k ns) i true:=by simp[El,List.foldl_append]
def mS(k:Nat)(ns:List Nat)(j:Nat)(h:j<ns.length):El k (ns.take (j+1))=By (El k (ns.take j)) (ns.getD j 0) true:=by
 rw[List.take_succ_eq_append_getElem h,mx];simp[V,X h]
def SJ(a:1<=k)(b:k<=128):sizeOfK (k:Int)=(k+63)/64:=by
 unfold sizeOfK;rw[if_neg (by omega)];omega
def Vi:∀(ns v:List Nat),(ns.foldl (fun v i=>By v i true) v).length=v.length
 |[],_=>rfl
 |i::ns,v=>by rw[Z,Vi ns,Iu]
def LR(k:Nat)(ns:List Nat):(El k ns).length=sizeOfK (k:Int):=by rw[El,Vi,γ]
def ei(n:Nat):Ac (W n 0):=by
 intro x a;rw[(List.mem_replicate.1 a).2];show 0<18446744073709551616;decide
def Vh:∀(ns v:List Nat) (j:Nat),(∀i∈ns,i<64*v.length)->Ah (ns.foldl (fun v i=>By v i true) v) j=(decide (j∈ns)||Ah v j)
 |[],v,j,_=>by simp
 |i::ns,v,j,h=>by
  rw[Z,Vh ns _ j (fun x c=>by rw[Iu];exact h x (by simp[c])),fz v i j (h i (by simp))];by_cases a:j∈ns<;>by_cases b:j=i<;>simp[a,b]
def VT{ns:List Nat}(a:1<=k)(b:k<=128)(h:∀i∈ns,i<k)(j:Nat):Ah (El k ns) j=decide (j∈ns):=by
 rw[El,Vh ns _ j (fun i c=>by have:=h i c;rw[γ,SJ a b];omega),ff];simp
def jv{ns:List Nat}(a:1<=k)(b:k<=128)(h:∀i∈ns,i<k):Cm (k:Int) (El k ns):=by
 refine⟨by rw[LR,SJ a b];omega,LR _ _,fun i d=>?_⟩;rw[VT a b h,decide_eq_false_iff_not];intro c;have:=h i c;omega
def ou{xs:List Nat}{i:Nat}(h:Ah xs i=true):0<cnt xs:=by
 rcases Nat.eq_zero_or_pos (cnt xs)with a|a
 ·exfalso
  have b:Bp xs 0=cnt xs:=by rw[a];rfl
  rw[(Ps xs 0).1 b i (Nat.zero_le _)]at h;cases h
 ·exact a
def Nx(k s x:Nat):Nat:=pickD (tableL k s) x
def Yz(k s x:Nat)(a:1<=k)(b:s<=128):1<=Nx k s x/\Nx k s x<=k:=by
 have:=sP (kH k s a b) x;rw[Hf]at this;exact this
def degL(k s:Nat)(L:List Nat)(N:Nat):Nat:=Nx k s (BF L (N+1))
def De(k s:Nat)(L:List Nat)(N:Nat):List Nat:=El k (Dd L (N+1) k (degL k s L N))
def Nw(k s:Nat)(L:List Nat)(N:Nat):Nat:=N+1+degL k s L N
def P7(k s:Nat)(L:List Nat)(N:Nat)(a:1<=k)(b:s<=128):1<=degL k s L N/\degL k s L N<=k:=Yz k s _ a b
def YA(k s:Nat)(L:List Nat)(N:Nat)(a:1<=k)(b:s<=128):min ((degL k s L N:Nat):Int).toNat k=degL k s L N:=by
 have:=P7 k s L N a b;omega
def Pb(L:List Nat)(N n k i:Nat)(h:i∈Dd L N n k):i<n:=by
 unfold Dd at h;exact List.mem_range.1 (List.mem_filter.1 h).1
def fl(k s:Nat)(L:List Nat)(N:Nat):(De k s L N).length=sizeOfK (k:Int):=LR _ _
def jg(k s:Nat)(L:List Nat)(N:Nat)(a:1<=k)(b:k<=128):Cm (k:Int) (De k s L N):=jv a b fun i c=>Pb _ _ _ _ i c
def Uz(k s:Nat)(L:List Nat)(N:Nat)(a:1<=k)(d:k<=128)(l:s<=128):∃i,i<k/\Ah (De k s L N) i=true:=by
 have f:=P7 k s L N a l;have b:=RX L (N+1) k (degL k s L N) f.2;obtain⟨i,n,h⟩:=List.exists_cons_of_ne_nil (show Dd L (N+1) k (degL k s L N)≠ [] from fun e=>by rw[e]at b;simp at b;omega);have c:i∈Dd L (N+1) k (degL k s L N):=by rw[h];simp
 refine⟨i,Pb _ _ _ _ i c,?_⟩;rw[De,VT a d (fun i j=>Pb _ _ _ _ i j)];exact decide_eq_true c
def Ya(k s:Nat)(L:List Nat)(N:Nat)(a:1<=k)(b:k<=128)(d:s<=128):0<cnt (De k s L N):=by
 obtain⟨i,_,c⟩:=Uz k s L N a b d;exact ou c
def UH(ss:List ByteArray)(vs:List Nat)(z:Nat)(h:∀i,i<ss.length->(ss.getD i ByteArray.empty).size=z):∀n,n<=ss.length->((∃i,i<n/\Ah vs i=true)->(Bl ss vs n).length=z)/\((Bl ss vs n).length=0\/(Bl ss vs n).length=z)
 |0,_=>⟨fun⟨i,j,_⟩=>by omega,.inl rfl⟩
 |n+1,l=>by
  obtain⟨e,a⟩:=UH ss vs z h n (by omega);cases c:Ah vs n
  ·rw[QD c]
   refine⟨fun⟨i,j,b⟩=>e ⟨i,?_,b⟩,a⟩;rcases Nat.lt_or_ge i n with d|f
   ·exact d
   ·obtain rfl:i=n:=by omega
    rw[c]at b;cases b
  ·rw[Xg c,BS,AR,h n (by omega)]
   have:max (Bl ss vs n).length z=z:=by rcases a with a|a<;>omega
   exact⟨fun _=>this,.inr this⟩
def oi(xs:List Nat)(z k i:Nat)(h:i<k):((Bo xs z k).getD i ByteArray.empty).size=z:=by rw[SA xs z k i h,Dq,Of]
def Zh(xs:List Nat)(z k s:Nat)(L:List Nat)(N:Nat)(b:1<=k)(c:k<=128)(d:s<=128):(st (Bl (Bo xs z k) (De k s L N) k)).size=z:=by
 rw[Dq];refine(UH (Bo xs z k) (De k s L N) z (fun i a=>?_) k (by rw[IX];exact Nat.le_refl _)).1 (Uz k s L N b c d);rw[IX]at a;exact oi xs z k i a
def YF(o len z k s:Nat)(xs:List Nat)(L:List Nat)(N:Nat)(h:o<=4294967295)(d:1<=z)(e:z<=64)(a:1<=k)(b:k<=128)(c:s<=128)(f:len<=k*z):
  Cd (o:Int) (len:Int) (k:Int) (z:Int) 0 (De k s L N) (st (Bl (Bo xs z k) (De k s L N) k)).size:=by
 refine⟨⟨⟨⟨by omega,by omega⟩,by omega,by omega⟩,⟨by omega,by omega⟩,⟨by omega,?_⟩,by omega,by omega⟩,jg k s L N a b,Ya k s L N a b c,?_⟩
 ·have:((k:Int)*(z:Int))=((k*z:Nat):Int):=by simp
  rw[this];omega
 ·rw[Zh xs z k s L N a b c]
end Go.Proofs.YtfpmnekaockodaaGreatDoor
