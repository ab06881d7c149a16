/- Laws for the proof. -/
import Derived.Test.YtfpmnekaockodaaGreatDoorU40
set_option linter.all false
open Go.Proofs.Tryz
open Go.Ending renaming returned->U
open Go.Value renaming pointer->α,int->β,string->π,bool->ς,slice->τ
open Go.IntKind renaming i64->γ,wrap_i64->ρ
open Go.Proofs.Tryz renaming prog->δ
open Option renaming none->ε,some->ζ
open Go.RowKit renaming Below->η
open Or renaming inl->θ
open Go.AllReadyH renaming cons->ι,nil->κ
open Go renaming Calls->μ,World->ν,Value->σ
open Nat renaming zero_le->ξ,le_trans->ο
namespace Go.Proofs.YtfpmnekaockodaaGreatDoor
open Go.RowKit Go.Sort
set_option maxRecDepth 4000
set_option maxHeartbeats 8000000
variable {T t:Int}{p:Int×Int}{g B:Nat}{w:ν}
def fD(g B:Nat)(n:Ap)(w:ν)(h:Al w g B n)(I:n.p.rate<18446744073709551616):
  μ δ 51 #[α (ζ ⟨g,0,ε⟩)] w fun e w'=>e=U (.tuple #[])/\∃s:AU,Al w' g B ⟨n.id,(n.inc+1)%4294967296,n.p,n.src,s,n.t+1⟩/\Gx n.p s/\Tu (fun j=>j=g) w w'/\∀j,sttF s j->w.heap.size<=j:=by
 obtain⟨at1,L,f, -⟩:=Am.ints h.tos;have z:=h.num.2.2;have c1:=h.blk.at 1 rfl;have c2:=h.blk.at 2 rfl;have c3:=h.blk.at 3 rfl;have c4:=h.blk.at 4 rfl;have c5:=h.blk.at 5 rfl;have X:=h.blk.at 6 rfl;have Y:=h.blk.at 7 rfl;have Z:=h.blk.at 8 rfl;have R:=h.blk.at 9 (show(EJ n)[9]? =ζ n.p.tv from rfl);rw[f]at R;have f1:=h.blk.frz 1;have W:IntKind.u32.wrap ((n.inc:Int)+1)=(((n.inc+1)%4294967296:Nat):Int):=by rw[IntKind.wrap_u32];omega
 have H:=Ab h;have o:=Ab (fun wx=>R9 n.p at1 n.p.tos.length L wx I f (by omega));rw[f]at o;have Q:=Ab f;have N:=h.blk.lt;clear h f;generalize V:(n.inc+1)%4294967296=m at*;have P:=Ab (show m<4294967296 by omega);clear V;go_enter func51,ntmps51
 go_wp2_with (first
  |(go_at_call 40;refine(Aa o _).mono ?_;rintro e w3 ⟨s,rfl,C,A,y,l⟩;have q:=Ab (((Aa H).blk.set 1 (β .u32 (m:Int))).below l);have k:=Ab C;have u:=Ab A;have J:=Ab y;have i:=Ab l;clear C A y l)
  |((with_reducible refine Ld 120 122 IZ 18 16 g 11 _ [s.lv,α (ζ ⟨s.gm,0,ε⟩),α (ζ ⟨s.gc,0,ε⟩),.pointer (ptrR s.rl),.pointer (ptrC s.dc)] ?_ ?_ (Aa q) rfl ?_ ?_ ?_);(focus rfl);(focus rfl);(focus exact(show 11+5<=16 by decide));(focus exact Jq (by obtain⟨a,c,e⟩:=(Aa k).lks.len;exact⟨a,_,c,e⟩) _ _ _ _);intro w4 E D;have K:=Ab E;have v:=Ab D;clear E D)
  |fail)
 go_end0;have h:=Aa H;have d:=A8 w g 1 (β .u32 (m:Int));have hk:=h.blk.kd;have O:Am (w.setCell ⟨g,1,ε⟩ (β .u32 (m:Int))) B n.p.tv n.p.tos:=Cj h.tos d fun j x e=>by have:=Bc h.tos x;subst e;omega
 have S:B<=(w.setCell ⟨g,1,ε⟩ (β .u32 (m:Int))).heap.size:=ο h.lo (Nat.le_of_lt (Nat.lt_of_lt_of_le N d.size));refine⟨rfl,s,PW (Aa K) h.lo (O.below (Aa i)) (fun r I=>?_) ((Aa k).mono S) (Aa q) (Aa v) ?_ (Aa u) (Aa P) ⟨Aa J,z⟩,Aa u,?_,fun j x=>ο d.size ((Aa k).low j x)⟩
 ·have:=(h.src r I).tu d fun j x e=>by have:=(h.src r I).kd j x;subst e;omega
  exact this.tu (F:=fun _=>False) (Tu.of_below (Aa i)) fun _ _=>id
 ·rcases h.kd with⟨a,b,_⟩|⟨a,b,_⟩|⟨a,b,_⟩
  ·exact .inl ⟨a,b⟩
  ·exact .inr (.inl ⟨a,b⟩)
  ·exact .inr (.inr ⟨a,b⟩)
 ·exact(d.then (Aa i)).trans (Aa v) fun j _ e=>e
def Ei(ls:List AH):Nat->Nat
 |0=>0
 |k+1=>Ei ls k+(ls.getD k .dflt).L.length
def VO{ls:List AH}:∀{k:Nat},(∀i,i<k->(ls.getD i .dflt).L.length<=256)->Ei ls k<=256*k
 |0,_=>Nat.le_refl _
 |k+1,h=>by
  have a:=VO (ls:=ls) (k:=k) fun i c=>h i (by omega);have b:=h k (by omega);show Ei ls k+(ls.getD k .dflt).L.length<=_;omega
def iz(B:Nat)(p:Bi)(s:AU)(w:ν)(h:Ag w B p s)(D:s.ls.length<=8):
  μ δ 60 #[.agg #[s.lv,α (ζ ⟨s.gm,0,ε⟩),α (ζ ⟨s.gc,0,ε⟩),.pointer (ptrR s.rl),.pointer (ptrC s.dc)]] w fun e w'=>e=U (β γ (Ei s.ls s.ls.length:Nat))/\η w.heap.size w w':=by
 obtain⟨v,x,j⟩:=h.lks.len;have d:=As w (.cells #[s.lv,α (ζ ⟨s.gm,0,ε⟩),α (ζ ⟨s.gc,0,ε⟩),.pointer (ptrR s.rl),.pointer (ptrC s.dc)] 120);have H:=Ab (h.below d);have r:=Ab d;have u:=Ab (fun k (y:k<=s.ls.length)=>VO (ls:=s.ls) (k:=k) fun i I=>ο (Au.qu (h.each i (by omega)).1).len (Au.qu (h.each i (by omega)).1).most);rw[j]at H r⊢;have A:=(AI 120 w [τ v s.ls.length x,α (ζ ⟨s.gm,0,ε⟩),α (ζ ⟨s.gc,0,ε⟩),.pointer (ptrR s.rl),.pointer (ptrC s.dc)]).at 0 rfl;simp only[List.toArray]at A;clear h d;generalize hW:w.alloc (.cells #[τ v s.ls.length x,α (ζ ⟨s.gm,0,ε⟩),α (ζ ⟨s.gc,0,ε⟩),.pointer (ptrR s.rl),.pointer (ptrC s.dc)] 120)=W at*;go_enter func60,ntmps60;go_wp2_with fail;clear hW A;go_loop [3,9] (fun q i=> ∃k:Nat,k<=s.ls.length/\i=β γ k/\q=β γ (Ei s.ls k:Nat)) (fun _ i=>s.ls.length-(intOf i).toNat)
 case atStart=>exact⟨0,ξ _,rfl,rfl⟩
 case round=>
  obtain⟨k,y,rfl,rfl⟩:=hrel;have J:=Aa u k y;by_cases a:k<s.ls.length
  ·have z:(k:Int)<(s.ls.length:Int):=by omega
   obtain⟨b,c,d,f⟩:=(Aa H).lks.at (by omega);rw[j]at d;simp only[Value.slice.injEq,true_and]at d;obtain⟨rfl,rfl⟩:=d;have E:=f k a;have n:=Ab (eL _ _ _ _ _ _ _ _ _ _ W ((Aa H).each k a).1 rfl);have o:=Aa u (k+1) a;have C:=Ab (show Ei s.ls (k+1)=Ei s.ls k+(s.ls.getD k .dflt).L.length from rfl);clear f;generalize s.ls.getD k .dflt=l at*
   go_wp2_with (first
    |(go_at_call 89;refine(Aa n).mono ?_;rintro e w2 ⟨rfl,m⟩;obtain rfl:=m.symm;clear m)
    |fail)
   go_round
   case rel=>exact⟨k+1,a,by go_num,by have e:=Aa C;rw[e]at o;rw[e];simp only[Value.int.injEq,true_and];unfold wrap64;omega⟩
   case measure=>simp[intOf];omega
  ·obtain rfl:k=s.ls.length:=by omega
   go_wp2;go_ret;exact⟨rfl,Aa r⟩
def Ao.nobs{M:Int}{s:DS}{gs:Nat}{v:σ}{rs:List RV}(h:Ao w g B M s gs v rs):s.ob.size<=8192:=by
 cases a:s.bg
 ·rw[(h.fresh a).1];exact ξ _
 ·exact(h.begun a).2.obs
def Ao.len{M:Int}{s:DS}{gs:Nat}{v:σ}{rs:List RV}(h:Ao w g B M s gs v rs):s.L.length=rs.length/\rs.length<=256:=by
 refine⟨by rw[<-h.co,List.length_map],?_⟩;cases b:s.bg
 ·have a:=h.co
  rw[(h.fresh b).1]at a;rw[List.map_eq_nil_iff.1 a];exact ξ _
 ·have a:=(h.begun b).1
  exact ο a.le a.most
def gG(g B:Nat)(M:Int)(s:DS)(gs:Nat)(v:σ)(rs:List RV)(w:ν)(h:Ao w g B M s gs v rs):
  μ δ 62 #[α (ζ ⟨g,0,ε⟩)] w fun e w'=>e=U (ς s.dn)/\w'=w:=by
 obtain⟨-, -, -, -, -, -,a, -⟩:=h.cells;clear h;go_enter func62,ntmps62;go_wp2;go_ret;exact⟨rfl,rfl⟩
def gH(w:ν):μ δ 62 #[α none] w fun e w'=>e=U (ς false)/\w'=w:=by
 go_enter func62,ntmps62;go_wp2;go_ret;exact⟨rfl,rfl⟩
def ki(g B:Nat)(M:Int)(s:DS)(gs:Nat)(v:σ)(rs:List RV)(w:ν)(h:Ao w g B M s gs v rs):
  μ δ 63 #[α (ζ ⟨g,0,ε⟩)] w fun e w'=>e=U (π s.ob)/\η w.heap.size w w':=by
 obtain⟨-, -, -, -, -, -, -,c⟩:=h.cells;have b:=Ab (GR s.ob w (by have:=h.nobs;omega));clear h;go_enter func63,ntmps63;go_wp2_with (go_at_call 33;refine(Aa b).mono ?_;rintro e w1 ⟨rfl,a⟩);go_ret;exact⟨rfl,a⟩
def kj(w:ν):μ δ 63 #[α none] w fun e w'=>e=U (π ⟨#[]⟩)/\w'=w:=by
 go_enter func63,ntmps63;go_wp2;go_ret;exact⟨rfl,rfl⟩
def gI(g B:Nat)(M:Int)(s:DS)(gs:Nat)(v:σ)(rs:List RV)(w:ν)(h:Ao w g B M s gs v rs):
  μ δ 57 #[α (ζ ⟨g,0,ε⟩)] w fun e w'=>e=U (β γ (s.L.length:Int))/\w'=w:=by
 obtain⟨-, -, -, -, -,d, -, -⟩:=h.cells;rw[h.len.1];cases b:s.bg
 ·rw[b,show FY false gs=ε from rfl]at d
  obtain rfl:rs=[]:=by have c:=h.co;rw[(h.fresh b).1]at c;exact List.map_eq_nil_iff.1 c
  clear h;go_enter func57,ntmps57;go_wp2_with (go_at_call 87;refine(ZC _).mono ?_;rintro e w1 ⟨rfl,a⟩;obtain rfl:=a.symm;clear a);go_ret;exact⟨rfl,rfl⟩
 ·rw[b,show FY true gs=ζ ⟨gs,0,ε⟩ from rfl]at d
  have f:=Ab (ZB gs B s.k s.z (capN M) v rs s.ov w (h.begun b).1);clear h;go_enter func57,ntmps57;go_wp2_with (go_at_call 87;refine(Aa f).mono ?_;rintro e w1 ⟨rfl,a⟩;obtain rfl:=a.symm;clear a);go_ret;exact⟨rfl,rfl⟩
def gJ(w:ν):μ δ 57 #[α none] w fun e w'=>e=U (β γ 0)/\w'=w:=by
 go_enter func57,ntmps57;go_wp2;go_ret;exact⟨rfl,rfl⟩
def gK(g B:Nat)(M:Int)(s:DS)(gs:Nat)(v:σ)(rs:List RV)(w:ν)(ht:Tab w)(h:Ao w g B M s gs v rs):
  μ δ 59 #[α (ζ ⟨g,0,ε⟩)] w fun e w'=>e=U (β γ (CY s.L:Int))/\η w.heap.size w w':=by
 obtain⟨-, -, -, -, -,d, -, -⟩:=h.cells;rw[<-h.co,<-LU];cases a:s.bg
 ·rw[a,show FY false gs=ε from rfl]at d
  obtain rfl:rs=[]:=by have c:=h.co;rw[(h.fresh a).1]at c;exact List.map_eq_nil_iff.1 c
  clear h;go_enter func59,ntmps59;go_wp2_with (go_at_call 88;refine(rQ _).mono ?_;rintro e w1 ⟨rfl,f⟩;obtain rfl:=f.symm;clear f);go_ret;exact⟨rfl,Below.refl _ _⟩
 ·rw[a,show FY true gs=ζ ⟨gs,0,ε⟩ from rfl]at d
  have i:=Ab (VP gs B s.k s.z (capN M) v rs s.ov w ht (h.begun a).1);clear h;generalize rankN rs=R at*;go_enter func59,ntmps59;go_wp2_with (go_at_call 88;refine(Aa i).mono ?_;rintro e w1 ⟨rfl,b⟩);go_ret;exact⟨rfl,b⟩
def gL(w:ν):μ δ 59 #[α none] w fun e w'=>e=U (β γ 0)/\w'=w:=by
 go_enter func59,ntmps59;go_wp2;go_ret;exact⟨rfl,rfl⟩
def jn(h:G8 p=false):Jg T p t=false:=by unfold Jg;rw[h];rfl
def eZ(h:E0 t=false):Jg T p t=false:=by unfold Jg;rw[h,Bool.and_false];rfl
def jo(h:G8 p=true)(ht:E0 t=true):Jg T p t=(decide (0<=t-(p.2-1))&&decide (t-(p.2-1)<=T)):=by unfold Jg;rw[h,ht];rfl
def gh(v:σ)(T:Int)(a b x t:Int)(w:ν)(i:μ δ 130 #[v,β γ x] w fun e w'=>e=U (.agg #[β γ a,β γ b])/\η w.heap.size w w')(k:G8 (a,b)=false):
  μ δ 90 #[v,β γ x,β γ t] w fun e w'=>e=U (ς false)/\η w.heap.size w w':=by
 have j:=Ab i;clear i;go_enter func90,ntmps90
 go_wp2_with (first
  |(go_at_call 130;refine(Aa j).mono ?_;rintro e w1 ⟨rfl,c⟩;have f:=Ab (Ad c (As w1 (.cells #[β γ a,β γ b] 187)));clear c)
  |(go_at_call 131;refine(Mr a b _).mono ?_;rintro e w2 ⟨rfl,d⟩;have h:=Ab (Ad (Aa f) d);clear d;rw[k])
  |fail)
 go_ret;exact⟨rfl,Aa h⟩
def fC(g:Nat)(T:Int)(Z:List Int)(x t:Int)(w:ν)(h:A2 w g T Z):
  μ δ 90 #[α (ζ ⟨g,0,ε⟩),β γ x,β γ t] w fun e w'=>e=U (ς (M5 T Z x t))/\η w.heap.size w w':=by
 have hp:=h.inv.mem x;have C:=jX g T Z x w h;unfold M5;generalize CG Z x=p at*;obtain⟨a,b⟩:=p;cases s:G8 (a,b)
 ·rw[jn s]
  exact gh _ T a b x t w C s
 have v:=Ab C;clear C;cases ht:E0 t
 ·rw[eZ ht]
  clear h hp;go_enter func90,ntmps90
  go_wp2_with (first
   |(go_at_call 130;refine(Aa v).mono ?_;rintro e w1 ⟨rfl,c⟩;have j:=Ab (Ad c (As w1 (.cells #[β γ a,β γ b] 187)));clear c)
   |(go_at_call 131;refine(Mr a b _).mono ?_;rintro e w2 ⟨rfl,d⟩;have k:=Ab (Ad (Aa j) d);clear d;rw[s])
   |(go_at_call 118;refine(JC _ _).mono ?_;rintro e w3 ⟨rfl,f⟩;obtain rfl:=f.symm;clear f;rw[ht])
   |fail)
  go_ret;exact⟨rfl,Aa k⟩
 rw[jo s ht];have E:=O4.1 ht;obtain⟨-,r,c, -⟩:=hp;simp only at r c;have N:IntKind.i64.wrap (t-(b-1))=t-(b-1):=by rw[ρ];omega
 have K:=Ab (fun wx=>mz a b ⟨r,c⟩ wx);have O:=Ab h;clear h E r c;simp only;obtain⟨q,D⟩:∃q,t-(b-1)=q:=⟨_,rfl⟩;have H:IntKind.i64.wrap (t-(b-1))=q:=N.trans D;rw[D];obtain⟨l,A⟩:∃l,b-1=l:=⟨_,rfl⟩;have o:=K;rw[A]at o H;clear K N D;have P:=Ab A;clear A;by_cases L:0<=q
 ·have z:decide (0<=q)=true:=decide_eq_true L
  rw[z,Bool.true_and];go_enter func90,ntmps90
  go_wp2_with (first
   |(go_at_call 130;refine(Aa v).mono ?_;rintro e w1 ⟨rfl,c⟩;have u:=Ab c;have j:=Ab (Ad c (As w1 (.cells #[β γ a,β γ b] 187)));have y:=Ab (AI 187 w1 [β γ a,β γ b]);clear c)
   |(go_at_call 131;refine(Mr a b _).mono ?_;rintro e w2 ⟨rfl,d⟩;have k:=Ab (Ad (Aa j) d);have i:=(Aa y).below d;have I:=i.at 0 rfl;have J:=i.at 1 rfl;clear d i;rw[s])
   |(go_at_call 118;refine(JC _ _).mono ?_;rintro e w3 ⟨rfl,f⟩;obtain rfl:=f.symm;clear f;rw[ht])
   |(go_at_call 132;refine(Aa o _).mono ?_;rintro e Q ⟨rfl,m⟩;have n:=Ab (Ad (Aa k) m);have R:=((Aa O).below (Aa n)).t;clear m I J)
   |fail)
  go_ret;exact⟨rfl,Aa n⟩
 ·have z:decide (0<=q)=false:=decide_eq_false L
  rw[z,Bool.false_and];go_enter func90,ntmps90
  go_wp2_with (first
   |(go_at_call 130;refine(Aa v).mono ?_;rintro e w1 ⟨rfl,c⟩;have u:=Ab c;have j:=Ab (Ad c (As w1 (.cells #[β γ a,β γ b] 187)));have y:=Ab (AI 187 w1 [β γ a,β γ b]);clear c)
   |(go_at_call 131;refine(Mr a b _).mono ?_;rintro e w2 ⟨rfl,d⟩;have k:=Ab (Ad (Aa j) d);have i:=(Aa y).below d;have I:=i.at 0 rfl;have J:=i.at 1 rfl;clear d i;rw[s])
   |(go_at_call 118;refine(JC _ _).mono ?_;rintro e w3 ⟨rfl,f⟩;obtain rfl:=f.symm;clear f;rw[ht])
   |(go_at_call 132;refine(Aa o _).mono ?_;rintro e Q ⟨rfl,m⟩;have n:=Ab (Ad (Aa k) m);clear m I J)
   |fail)
  go_ret;exact⟨rfl,Aa n⟩
def pS(v:σ)(P:Nat->Bool)(t:Int)(w:ν)(C:∀(n:Nat) (wx:ν),n<8->η w.heap.size w wx->μ δ 90 #[v,β γ (n:Int),β γ t] wx fun e w'=>e=U (ς (P n))/\η wx.heap.size wx w'):
  μ δ 61 #[v,β γ t] w fun e w'=> ∃o,e=U o/\Am w' w.heap.size o (DZ P 8)/\η w.heap.size w w':=by
 have l:=Ab C;clear C;go_enter func61,ntmps61;go_wp2;go_loopw [5,7] (fun o i wr=> ∃k:Nat,k<=8/\i=β γ k/\Hid (Am wr w.heap.size o (DZ P k)/\η w.heap.size w wr)) (fun _ i _=>8-(intOf i).toNat)
 case atStart=>exact⟨0,ξ _,rfl,Ab ⟨Am.nil _ _,Below.refl _ _⟩⟩
 case round=>
  obtain⟨k,I,rfl,f⟩:=hrel;obtain⟨z,j⟩:=Aa f;by_cases y:k<8
  ·have D:(k:Int)<8:=by omega
   have h:=Ab (Aa l k wr y j);have r:=Ab z;have A:=Ab j;clear z j f l;obtain⟨H,co,rfl, -⟩:=(Aa r).ints;cases hp:P k
   ·rw[hp]at h
    have q:=Ab (pQ hp);clear hp;go_wp2_with (go_at_call 90;refine(Aa h).mono ?_;rintro e w1 ⟨rfl,a⟩;have b:=Ab a;clear a);go_roundw
    case rel=>exact⟨k+1,by omega,by go_num,Ab ⟨by rw[Aa q];exact(Aa r).below (Aa b),Ad (Aa A) (Aa b)⟩⟩
    case measure=>simp[intOf];omega
   ·rw[hp]at h
    have q:=Ab (jp hp);have E:=ON P k;clear hp;generalize (DZ P k).length=N at*
    go_wp2_with (first
     |(go_at_call 90;refine(Aa h).mono ?_;rintro e w1 ⟨rfl,a⟩;have b:=Ab (Ad (Aa A) a);have s:=Ab ((Aa r).below a);clear a)
     |(at_builtin;refine RO rfl (.tmp 14) (.tmp 16) rfl w.heap.size _ (DZ P k) (k:Int) rfl rfl (Aa s) (Aa b).size (ο (ON P k) (by omega)) ?_;intro J K c d;rw[<-Aa q]at c;have u:=Ab c;have m:=Ab ((Aa b).trans d);clear c d)
     |fail)
    go_roundw
    case rel=>exact⟨k+1,by omega,by go_num,Ab ⟨Aa u,Aa m⟩⟩
    case measure=>simp[intOf];omega
  ·obtain rfl:k=8:=by omega
   have x:=f;clear z j f l;go_wp2;go_ret;exact⟨_,rfl,Aa x⟩
def lO(g:Nat)(T:Int)(Z:List Int)(t:Int)(w:ν)(h:A2 w g T Z):
  μ δ 61 #[α (ζ ⟨g,0,ε⟩),β γ t] w fun e w'=> ∃o,e=U o/\Am w' w.heap.size o (FV T Z t)/\η w.heap.size w w':=
 pS _ _ t w fun n wx _ a=>fC g T Z (n:Int) t wx (h.below a)
def kR(s:AU):Nat:=match s.rl with
 |some r=>r.ps.length
 |none=>0
def kD(s:AU):Nat:=match s.dc with
 |some d=>d.s.L.length
 |none=>0
def rD(s:AU):Nat:=match s.dc with
 |some d=>CY d.s.L
 |none=>0
def EF(s:AU):Bool:=match s.dc with
 |some d=>d.s.dn
 |none=>false
def EL(s:AU):ByteArray:=match s.dc with
 |some d=>d.s.ob
 |none=>⟨#[]⟩
def Xc{p:Bi}{s:AU}(h:Ag w B p s):(μ δ 56 #[.pointer (ptrR s.rl)] w fun e w'=>e=U (β γ (kR s:Nat))/\w'=w)/\(μ δ 58 #[.pointer (ptrR s.rl)] w fun e w'=>e=U (β γ (kR s:Nat))/\w'=w):=by
 unfold kR;cases a:s.rl with
 |none=>exact⟨To w,jt w⟩
 |some r=>exact⟨LV _ _ _ _ _ _ _ _ w (h.rl r a),js _ _ _ _ _ _ _ _ w (h.rl r a)⟩
def MK{p:Bi}{s:AU}(h:Ag w B p s)(ht:Tab w):(μ δ 57 #[.pointer (ptrC s.dc)] w fun e w'=>e=U (β γ (kD s:Nat))/\w'=w)/\(μ δ 59 #[.pointer (ptrC s.dc)] w fun e w'=>e=U (β γ (rD s:Nat))/\η w.heap.size w w')/\
  (μ δ 62 #[.pointer (ptrC s.dc)] w fun e w'=>e=U (ς (EF s))/\w'=w)/\(μ δ 63 #[.pointer (ptrC s.dc)] w fun e w'=>e=U (π (EL s))/\η w.heap.size w w'):=by
 unfold kD rD EF EL;cases a:s.dc with
 |none=>exact⟨gJ w,(gL w).mono fun e w' ⟨b,c⟩=>⟨b,by rw[c];exact Below.refl _ _⟩,gH w,(kj w).mono fun e w' ⟨b,c⟩=>⟨b,by rw[c];exact Below.refl _ _⟩⟩
 |some d=>exact⟨gI _ _ _ _ _ _ _ w (h.dc d a),gK _ _ _ _ _ _ _ w ht (h.dc d a),gG _ _ _ _ _ _ _ w (h.dc d a),ki _ _ _ _ _ _ _ w (h.dc d a)⟩
def Gz(n:Ap)(now:Int):List σ:=[β γ (n.inc:Int),β γ ((kR n.s+kD n.s:Nat):Int),β γ ((kR n.s+rD n.s:Nat):Int),β γ (Ei n.s.ls n.s.ls.length:Nat),β γ ((FV (CF n.p.timeout) n.s.Z now).length:Nat),ς (EF n.s),π (EL n.s)]
def JQ:(Tryz.prog.info? 44).map (·.size)=ζ 7:=by kernel_rfl
def fO{tmps:Array σ}{W:ν}{cs:List σ}(c:tmps.getD 4 undef=α (ζ ⟨g,0,ε⟩))(e:BkA 44 W g cs)(d:cs.length=7):(results Tryz.f31 tmps).run δ W=.ok (.agg cs.toArray) W:=by
 have b:=e.load underlying44 rfl JQ d;have a:tmps[4]?.getD undef=α (ζ ⟨g,0,ε⟩):=by simpa using c
 simp[results,Tryz.results31,asAddr,a,b]
def nC(g B:Nat)(n:Ap)(now:Int)(w:ν)(h:Al w g B n)(ht:Tab w):μ δ 31 #[α (ζ ⟨g,0,ε⟩),β γ now] w fun e w'=>e=U (.agg (Gz n now).toArray)/\η w.heap.size w w':=by
 have c1:=h.blk.at 1 rfl;have I:=h.blk.at 11 (show(EJ n)[11]? =ζ n.s.lv from rfl);have af:=h.blk.at 12 rfl;have ag:=h.blk.at 13 rfl;have ah:=h.blk.at 14 rfl;have ai:=h.blk.at 15 rfl;have ao:=h.blk.lt;have O:=h.num.1;have h8:n.s.ls.length<=8:=by have:=h.num;omega
 have ap:IntKind.i64.wrap (n.inc:Int)=(n.inc:Int):=by rw[ρ];omega
 have am:kR n.s<=256:=by
  unfold kR;cases Q:n.s.rl with
  |none=>exact ξ _
  |some r=>exact ο (by have:=(h.st.rl r Q).buf.inv.le;rwa[List.length_map]at this) (h.st.rl r Q).buf.most
 have ak:kD n.s<=256/\rD n.s<=256:=by
  unfold kD rD;cases Q:n.s.dc with
  |none=>exact⟨ξ _,ξ _⟩
  |some d=>
   have h1:=(h.st.dc d Q).len;have h2:=rP d.s.L;exact⟨by show d.s.L.length<=256;omega,by show CY d.s.L<=256;omega⟩
 have w1:IntKind.i64.wrap ((kR n.s:Int)+(kD n.s:Int))=((kR n.s+kD n.s:Nat):Int):=by rw[ρ];omega
 have w2:IntKind.i64.wrap ((kR n.s:Int)+(rD n.s:Int))=((kR n.s+rD n.s:Nat):Int):=by rw[ρ];omega
 obtain⟨H,J,P⟩:=h.st.lks.len;obtain⟨W,hW,X,Y,C⟩:∃W,(w.alloc (.cells #[β γ 0,β γ 0,β γ 0,β γ 0,β γ 0,ς false,π ⟨#[]⟩] 44)).alloc (.cells #[τ H n.s.ls.length J,α (ζ ⟨n.s.gm,0,ε⟩),α (ζ ⟨n.s.gc,0,ε⟩),.pointer (ptrR n.s.rl),.pointer (ptrC n.s.dc)] 120)=W/\BkA 44 W w.heap.size [β γ 0,β γ 0,β γ 0,β γ 0,β γ 0,ς false,π ⟨#[]⟩]/\BkA 120 W (w.heap.size+1) [τ H n.s.ls.length J,α (ζ ⟨n.s.gm,0,ε⟩),α (ζ ⟨n.s.gc,0,ε⟩),.pointer (ptrR n.s.rl),.pointer (ptrC n.s.dc)]/\η w.heap.size w W:=by
  refine⟨_,rfl,(AI 44 w [β γ 0,β γ 0,β γ 0,β γ 0,β γ 0,ς false,π ⟨#[]⟩]).below (As _ _),?_,Ad (As _ _) (As _ _)⟩;have:=AI 120 (w.alloc (.cells #[β γ 0,β γ 0,β γ 0,β γ 0,β γ 0,ς false,π ⟨#[]⟩] 44)) [τ H n.s.ls.length J,α (ζ ⟨n.s.gm,0,ε⟩),α (ζ ⟨n.s.gc,0,ε⟩),.pointer (ptrR n.s.rl),.pointer (ptrC n.s.dc)];rwa[A7]at this
 have A:=h.below C;have m:=Ab (fun wx (k:η W.heap.size W wx)=>(show(wx.cell? ⟨g,1,ε⟩=ζ (β .u32 (n.inc:Int))/\wx.cell? ⟨w.heap.size+1,0,ε⟩=ζ (τ H n.s.ls.length J)/\wx.cell? ⟨w.heap.size+1,1,ε⟩=ζ (α (ζ ⟨n.s.gm,0,ε⟩))/\wx.cell? ⟨w.heap.size+1,2,ε⟩=ζ (α (ζ ⟨n.s.gc,0,ε⟩))/\wx.cell? ⟨w.heap.size+1,3,ε⟩=ζ (.pointer (ptrR n.s.rl))/\wx.cell? ⟨w.heap.size+1,4,ε⟩=ζ (.pointer (ptrC n.s.dc))) from⟨(A.below k).blk.at 1 rfl,(Y.below k).at 0 rfl,(Y.below k).at 1 rfl,(Y.below k).at 2 rfl,(Y.below k).at 3 rfl,(Y.below k).at 4 rfl⟩));have ad:=Ab (fun wx (k:η W.heap.size W wx)=>((Xc (A.st.below k)).1.mono (R':=fun e w'=>e=U (β γ (kR n.s:Nat))/\η W.heap.size W w') fun e w' ⟨u,y⟩=>⟨u,by rw[y];exact k⟩));have ae:=Ab (fun wx (k:η W.heap.size W wx)=>((Xc (A.st.below k)).2.mono (R':=fun e w'=>e=U (β γ (kR n.s:Nat))/\η W.heap.size W w') fun e w' ⟨u,y⟩=>⟨u,by rw[y];exact k⟩));have aa:=Ab (fun wx (k:η W.heap.size W wx)=>((MK (A.st.below k) ((ht.below C).below k)).1.mono (R':=fun e w'=>e=U (β γ (kD n.s:Nat))/\η W.heap.size W w') fun e w' ⟨u,y⟩=>⟨u,by rw[y];exact k⟩));have ac:=Ab (fun wx (k:η W.heap.size W wx)=>((MK (A.st.below k) ((ht.below C).below k)).2.1.mono (R':=fun e w'=>e=U (β γ (rD n.s:Nat))/\η W.heap.size W w') fun e w' ⟨u,y⟩=>⟨u,Ad k y⟩));have V:=Ab (fun wx (k:η W.heap.size W wx)=>((MK (A.st.below k) ((ht.below C).below k)).2.2.1.mono (R':=fun e w'=>e=U (ς (EF n.s))/\η W.heap.size W w') fun e w' ⟨u,y⟩=>⟨u,by rw[y];exact k⟩));have ab:=Ab (fun wx (k:η W.heap.size W wx)=>((MK (A.st.below k) ((ht.below C).below k)).2.2.2.mono (R':=fun e w'=>e=U (π (EL n.s))/\η W.heap.size W w') fun e w' ⟨u,y⟩=>⟨u,Ad k y⟩))
 have E:=Ab (fun wx (k:η W.heap.size W wx)=>((iz B n.p n.s wx (A.st.below k) h8).mono (R':=fun e w'=>e=U (β γ (Ei n.s.ls n.s.ls.length:Nat))/\η W.heap.size W w') fun e w' ⟨u,y⟩=>⟨u,Ad k y⟩));rw[P]at E I;have R:=Ab (fun wx (k:η W.heap.size W wx)=>((lO n.s.gm (CF n.p.timeout) n.s.Z now wx (A.st.mem.below k)).mono (R':=fun e w'=> ∃a c,e=U (τ a (FV (CF n.p.timeout) n.s.Z now).length c)/\η W.heap.size W w') fun e w' ⟨o,u,ho,y⟩=>by obtain⟨a,c,hv, -⟩:=ho.ints;exact⟨a,c,by rw[u,hv],Ad k y⟩));have HX:=Ab X;have D:=Ab C;obtain⟨s1,s2,s3,s4,s5,s6⟩:=Aa m W (Below.refl _ _);have z:w.heap.size≠w.heap.size+1:=by omega
 have aj:w.heap.size≠g:=by omega
 clear h ht A Y X C h8 am ak O P;unfold Gz;generalize kR n.s=kr at*;generalize kD n.s=kd at*;generalize rD n.s=rd at*;generalize EF n.s=dn at*;generalize EL n.s=ob at*;generalize hq:Ei n.s.ls n.s.ls.length=qq at*;clear hq;generalize (FV (CF n.p.timeout) n.s.Z now).length=kn at*;go_enter func31,ntmps31;go_wp2_with fail;clear hW c1 I af ag ah ai;generalize w.heap.size+1=q at*;refine wp_region_held_drew (S:=fun w'=>w'.cell? ⟨g,1,ε⟩=ζ (β .u32 (n.inc:Int))/\w'.cell? ⟨q,0,ε⟩=ζ (τ H n.s.ls.length J)/\w'.cell? ⟨q,1,ε⟩=ζ (α (ζ ⟨n.s.gm,0,ε⟩))/\w'.cell? ⟨q,2,ε⟩=ζ (α (ζ ⟨n.s.gc,0,ε⟩))/\w'.cell? ⟨q,3,ε⟩=ζ (.pointer (ptrR n.s.rl))/\w'.cell? ⟨q,4,ε⟩=ζ (.pointer (ptrC n.s.dc))) (by kernel_rfl) ?_ (fun f=>?_)
 ·go_keep
 refine tkHh (i:=0) (v:=?_) rfl (fun _ _ _ h=>h) (θ ⟨by rfl,?f0⟩) (by assumption) ?_
 case f0=>(intro w b;(try dsimp only at b);go_simp;try with_reducible rfl)
 refine tkHh (i:=1) (v:=?_) rfl (fun _ _ _ h=>h) (θ ⟨by rfl,?f1⟩) (by assumption) ?_
 case f1=>(intro w b;(try dsimp only at b);go_simp;try with_reducible rfl)
 refine tkHh (i:=2) (v:=?_) rfl (fun _ _ _ h=>h) (θ ⟨by rfl,?f2⟩) (by assumption) ?_
 case f2=>(intro w b;(try dsimp only at b);go_simp;try with_reducible rfl)
 refine tkHh (i:=3) (v:=?_) rfl (fun _ _ _ h=>h) (θ ⟨by rfl,?f3⟩) (by assumption) ?_
 case f3=>(intro w b;(try dsimp only at b);go_simp;try with_reducible rfl)
 refine tkHh (i:=4) (v:=?_) rfl (fun _ _ _ h=>h) (θ ⟨by rfl,?f4⟩) (by assumption) ?_
 case f4=>(intro w b;(try dsimp only at b);go_simp;try with_reducible rfl)
 refine tkHh (i:=5) (v:=?_) rfl (fun _ _ _ h=>h) (θ ⟨by rfl,?f5⟩) (by assumption) ?_
 case f5=>(intro w b;(try dsimp only at b);go_simp;try with_reducible rfl)
 refine tkHh (i:=6) (v:=?_) rfl (fun _ _ _ h=>h) (θ ⟨by rfl,?f6⟩) (by assumption) ?_
 case f6=>(intro w b;(try dsimp only at b);go_simp;try with_reducible rfl)
 refine tkHh (i:=8) (v:=?_) rfl (fun _ _ _ h=>h) (θ ⟨by rfl,?f8⟩) (by assumption) ?_
 case f8=>(intro w b;(try dsimp only at b);go_simp;try with_reducible rfl)
 refine tkHh (i:=9) (v:=?_) rfl (fun _ _ _ h=>h) (θ ⟨by rfl,?f9⟩) (by assumption) ?_
 case f9=>(intro w b;(try dsimp only at b);go_simp;try with_reducible rfl)
 refine tkHh (i:=12) (v:=?_) rfl (fun _ _ _ h=>h) (θ ⟨by rfl,?f12⟩) (by assumption) ?_
 case f12=>(intro w b;(try dsimp only at b);go_simp;try with_reducible rfl)
 refine tkHh (i:=13) (v:=?_) rfl (fun _ _ _ h=>h) (θ ⟨by rfl,?f13⟩) (by assumption) ?_
 case f13=>(intro w b;(try dsimp only at b);go_simp;try with_reducible rfl)
 refine tkHh (i:=15) (v:=?_) rfl (fun _ _ _ h=>h) (θ ⟨by rfl,?f15⟩) (by assumption) ?_
 case f15=>(intro w b;(try dsimp only at b);go_simp;try with_reducible rfl)
 refine tkHh (i:=16) (v:=?_) rfl (fun _ _ _ h=>h) (θ ⟨by rfl,?f16⟩) (by assumption) ?_
 case f16=>(intro w b;(try dsimp only at b);go_simp;try with_reducible rfl)
 refine tkHh (i:=19) (v:=?_) rfl (fun _ _ _ h=>h) (θ ⟨by rfl,?f19⟩) (by assumption) ?_
 case f19=>(intro w b;(try dsimp only at b);go_simp;try with_reducible rfl)
 refine tkHh (i:=21) (v:=?_) rfl (fun _ _ _ h=>h) (θ ⟨by rfl,?f21⟩) (by assumption) ?_
 case f21=>(intro w b;(try dsimp only at b);go_simp;try with_reducible rfl)
 refine tkHh (i:=22) (v:=?_) rfl (fun _ _ _ h=>h) (θ ⟨by rfl,?f22⟩) (by assumption) ?_
 case f22=>(intro w b;(try dsimp only at b);go_simp;try with_reducible rfl)
 refine tkHh (i:=23) (v:=?_) rfl (fun _ _ _ h=>h) (θ ⟨by rfl,?f23⟩) (by assumption) ?_
 case f23=>(intro w b;(try dsimp only at b);go_simp;try with_reducible rfl)
 refine tkHh (i:=26) (v:=?_) rfl (fun _ _ _ h=>h) (θ ⟨by rfl,?f26⟩) (by assumption) ?_
 case f26=>(intro w b;(try dsimp only at b);go_simp;try with_reducible rfl)
 refine tkHh (i:=27) (v:=?_) rfl (fun _ _ _ h=>h) (θ ⟨by rfl,?f27⟩) (by assumption) ?_
 case f27=>(intro w b;(try dsimp only at b);go_simp;try with_reducible rfl)
 refine tkHh (i:=29) (v:=?_) rfl (fun _ _ _ h=>h) (θ ⟨by rfl,?f29⟩) (by assumption) ?_
 case f29=>(intro w b;(try dsimp only at b);go_simp;try with_reducible rfl)
 refine tkHh (i:=30) (v:=?_) rfl (fun _ _ _ h=>h) (θ ⟨by rfl,?f30⟩) (by assumption) ?_
 case f30=>(intro w b;(try dsimp only at b);go_simp;try with_reducible rfl)
 refine wpAnyH_ready (rs:=[7]) (by kernel_rfl) (by simp) ?_;refine ι rfl (fun K l=>?_) κ;go_simp;refine(Aa ad _ ((Below.refl _ _).drew)).mono ?_;rintro e w1 ⟨rfl,d1⟩;refine l.out _ _ (Aa m w1 d1) (fun f=>?_);clear l K;refine wpAnyH_ready (rs:=[10]) (by kernel_rfl) (by simp) ?_;refine ι rfl (fun K l=>?_) κ;go_simp;refine(Aa aa _ d1).mono ?_;rintro e w2 ⟨rfl,d2⟩;refine l.out _ _ (Aa m w2 d2) (fun f=>?_);clear l K;refine tkHh (i:=11) (v:=?_) rfl (fun _ _ _ h=>h) (θ ⟨by rfl,?f11⟩) (by assumption) ?_
 case f11=>(intro w b;(try dsimp only at b);go_simp;try with_reducible rfl)
 refine wpAnyH_ready (rs:=[14]) (by kernel_rfl) (by simp) ?_;refine ι rfl (fun K l=>?_) κ;go_simp;refine(Aa ae _ d2).mono ?_;rintro e w3 ⟨rfl,d3⟩;refine l.out _ _ (Aa m w3 d3) (fun f=>?_);clear l K;refine wpAnyH_ready (rs:=[17]) (by kernel_rfl) (by simp) ?_;refine ι rfl (fun K l=>?_) κ;go_simp;refine(Aa ac _ d3).mono ?_;rintro e w4 ⟨rfl,d4⟩;refine l.out _ _ (Aa m w4 d4) (fun f=>?_);clear l K;refine tkHh (i:=18) (v:=?_) rfl (fun _ _ _ h=>h) (θ ⟨by rfl,?f18⟩) (by assumption) ?_
 case f18=>(intro w b;(try dsimp only at b);go_simp;try with_reducible rfl)
 refine wpAnyH_ready (rs:=[20]) (by kernel_rfl) (by simp) ?_;refine ι rfl (fun K l=>?_) κ;go_simp;refine(Aa E _ d4).mono ?_;rintro e w5 ⟨rfl,d5⟩;refine l.out _ _ (Aa m w5 d5) (fun f=>?_);clear l K;refine wpAnyH_ready (rs:=[24]) (by kernel_rfl) (by simp) ?_;refine ι rfl (fun K l=>?_) κ;go_simp;refine(Aa R _ d5).mono ?_;rintro e w6 ⟨a6,c6,rfl,d6⟩;refine l.out _ _ (Aa m w6 d6) (fun f=>?_);clear l K;refine tkHh (i:=25) (v:=?_) rfl (fun _ _ _ h=>h) (θ ⟨by rfl,?f25⟩) (by assumption) ?_
 case f25=>(intro w b;(try dsimp only at b);go_simp;try with_reducible rfl)
 refine wpAnyH_ready (rs:=[28]) (by kernel_rfl) (by simp) ?_;refine ι rfl (fun K l=>?_) κ;go_simp;refine(Aa V _ d6).mono ?_;rintro e w7 ⟨rfl,d7⟩;refine l.out _ _ (Aa m w7 d7) (fun f=>?_);clear l K;refine wpAnyH_ready (rs:=[31]) (by kernel_rfl) (by simp) ?_;refine ι rfl (fun K l=>?_) κ;go_simp;refine(Aa ab _ d7).mono ?_;rintro e w8 ⟨rfl,N⟩;refine l.out _ _ (Aa m w8 N) (fun f=>?_);clear l K;refine tkHh (i:=32) (v:=?_) rfl (fun _ _ _ h=>h) (θ ⟨by rfl,?f32⟩) (by assumption) ?_
 case f32=>(intro w b;(try dsimp only at b);go_simp;try with_reducible rfl)
 have X8:=(Aa HX).below N;refine wpAnyH_ready (rs:=[33]) (by kernel_rfl) (by simp) ?_;refine ι rfl (fun K l=>?_) κ;refine Oa rfl 44 44 JQ (.tmp 4) (.tmp 45) rfl w.heap.size 0 _ [β γ (n.inc:Int),β γ ((kr+kd:Nat):Int),β γ ((kr+rd:Nat):Int),β γ (qq:Int),β γ (kn:Int),ς dn,π ob] rfl rfl X8 rfl (show 0+7<=7 by decide) (by simp[Value.oneCell']) fun w9 an x=>?_;obtain⟨y1,y2,y3,y4,y5,y6⟩:=Aa m w8 N;refine l.out _ _ ⟨x.cell y1 (Ne.symm aj),x.cell y2 (Ne.symm z),x.cell y3 (Ne.symm z),x.cell y4 (Ne.symm z),x.cell y5 (Ne.symm z),x.cell y6 (Ne.symm z)⟩ (fun f=>?_);clear l K;refine wpAnyH_done (by kernel_rfl) ?_ _;go_wp2;exact bodyPost_ret (fO rfl an rfl) rfl ⟨rfl,(Ad (Aa D) N).trans (x.below (Ad (Aa D) N).size fun j hj e=>by omega)⟩
end Go.Proofs.YtfpmnekaockodaaGreatDoor
