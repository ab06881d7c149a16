/- Laws for the proof. -/
import Derived.Test.YtfpmnekaockodaaGreatDoorU40
namespace Go.Proofs.YtfpmnekaockodaaGreatDoor
open Go.RowKit Go.Sort
set_option linter.all false
set_option maxRecDepth 4000
set_option maxHeartbeats 8000000
variable {T t:Int}{p:Int×Int}{g B:Nat}{w:World}
theorem fO(g B:Nat)(n:Ao)(w:World)(h:Al w g B n)(I:n.p.rate<18446744073709551616):
  Calls Tryz.prog 51 #[.pointer (some ⟨g,0,none⟩)] w fun e w'=>e=.returned (.tuple #[])/\∃s:A0,Al w' g B ⟨n.id,(n.inc+1)%4294967296,n.p,n.src,s,n.t+1⟩/\Hw n.p s/\Tu (fun j=>j=g) w w'/\∀j,sttF s j->w.heap.size<=j:=by
 obtain⟨at1,L,f, -⟩:=Am.ints h.tos;have z:=h.num.2.2;have c1:=h.blk.at 1 rfl;have c2:=h.blk.at 2 rfl;have c3:=h.blk.at 3 rfl;have c4:=h.blk.at 4 rfl;have c5:=h.blk.at 5 rfl;have X:=h.blk.at 6 rfl;have Y:=h.blk.at 7 rfl;have Z:=h.blk.at 8 rfl;have R:=h.blk.at 9 (show(EO n)[9]? =some n.p.tv from rfl);rw[f]at R;have f1:=h.blk.frz 1;have W:IntKind.u32.wrap ((n.inc:Int)+1)=(((n.inc+1)%4294967296:Nat):Int):=by rw[IntKind.wrap_u32];omega
 have H:=Ab h;have o:=Ab (fun wx=>R5 n.p at1 n.p.tos.length L wx I f (by omega));rw[f]at o;have Q:=Ab f;have N:=h.blk.lt;clear h f;generalize V:(n.inc+1)%4294967296=m at*;have P:=Ab (show m<4294967296 by omega);clear V;go_enter Tryz.func51,Tryz.ntmps51
 go_wp2_with (first
  |(go_at_call 40;refine(Aa o _).mono ?_;rintro e w3 ⟨s,rfl,C,A,y,l⟩;have q:=Ab (((Aa H).blk.set 1 (.int .u32 (m:Int))).below l);have k:=Ab C;have u:=Ab A;have J:=Ab y;have i:=Ab l;clear C A y l)
  |((with_reducible refine Ld 120 122 IZ 18 16 g 11 _ [s.lv,.pointer (some ⟨s.gm,0,none⟩),.pointer (some ⟨s.gc,0,none⟩),.pointer (ptrR s.rl),.pointer (ptrC s.dc)] ?_ ?_ (Aa q) rfl ?_ ?_ ?_);(focus rfl);(focus rfl);(focus exact(show 11+5<=16 by decide));(focus exact Jp (by obtain⟨a,c,e⟩:=(Aa k).lks.len;exact⟨a,_,c,e⟩) _ _ _ _);intro w4 E D;have K:=Ab E;have v:=Ab D;clear E D)
  |fail)
 go_end0;have h:=Aa H;have d:=Be w g 1 (.int .u32 (m:Int));have hk:=h.blk.kd;have O:Am (w.setCell ⟨g,1,none⟩ (.int .u32 (m:Int))) B n.p.tv n.p.tos:=CO h.tos d fun j x e=>by have:=Bu h.tos x;subst e;omega
 have S:B<=(w.setCell ⟨g,1,none⟩ (.int .u32 (m:Int))).heap.size:=Nat.le_trans h.lo (Nat.le_of_lt (Nat.lt_of_lt_of_le N d.size));refine⟨rfl,s,Qc (Aa K) h.lo (O.below (Aa i)) (fun r I=>?_) ((Aa k).mono S) (Aa q) (Aa v) ?_ (Aa u) (Aa P) ⟨Aa J,z⟩,Aa u,?_,fun j x=>Nat.le_trans d.size ((Aa k).low j x)⟩
 ·have:=(h.src r I).tu d fun j x e=>by have:=(h.src r I).kd j x;subst e;omega
  exact this.tu (F:=fun _=>False) (Tu.of_below (Aa i)) fun _ _=>id
 ·rcases h.kd with⟨a,b,_⟩|⟨a,b,_⟩|⟨a,b,_⟩
  ·exact .inl ⟨a,b⟩
  ·exact .inr (.inl ⟨a,b⟩)
  ·exact .inr (.inr ⟨a,b⟩)
 ·exact(d.then (Aa i)).trans (Aa v) fun j _ e=>e
def ED(ls:List AJ):Nat->Nat
 |0=>0
 |k+1=>ED ls k+(ls.getD k .dflt).L.length
theorem Wp{ls:List AJ}:∀{k:Nat},(∀i,i<k->(ls.getD i .dflt).L.length<=256)->ED ls k<=256*k
 |0,_=>Nat.le_refl _
 |k+1,h=>by
  have a:=Wp (ls:=ls) (k:=k) fun i c=>h i (by omega);have b:=h k (by omega);show ED ls k+(ls.getD k .dflt).L.length<=_;omega
theorem ib(B:Nat)(p:Bq)(s:A0)(w:World)(h:Ag w B p s)(D:s.ls.length<=8):
  Calls Tryz.prog 60 #[.agg #[s.lv,.pointer (some ⟨s.gm,0,none⟩),.pointer (some ⟨s.gc,0,none⟩),.pointer (ptrR s.rl),.pointer (ptrC s.dc)]] w fun e w'=>e=.returned (.int .i64 (ED s.ls s.ls.length:Nat))/\Below w.heap.size w w':=by
 obtain⟨v,x,j⟩:=h.lks.len;have d:=Ax w (.cells #[s.lv,.pointer (some ⟨s.gm,0,none⟩),.pointer (some ⟨s.gc,0,none⟩),.pointer (ptrR s.rl),.pointer (ptrC s.dc)] 120);have H:=Ab (h.below d);have r:=Ab d;have u:=Ab (fun k (y:k<=s.ls.length)=>Wp (ls:=s.ls) (k:=k) fun i I=>Nat.le_trans (Au.qu (h.each i (by omega)).1).len (Au.qu (h.each i (by omega)).1).most);rw[j]at H r⊢;have A:=(AN 120 w [.slice v s.ls.length x,.pointer (some ⟨s.gm,0,none⟩),.pointer (some ⟨s.gc,0,none⟩),.pointer (ptrR s.rl),.pointer (ptrC s.dc)]).at 0 rfl;simp only[List.toArray]at A;clear h d;generalize hW:w.alloc (.cells #[.slice v s.ls.length x,.pointer (some ⟨s.gm,0,none⟩),.pointer (some ⟨s.gc,0,none⟩),.pointer (ptrR s.rl),.pointer (ptrC s.dc)] 120)=W at*;go_enter Tryz.func60,Tryz.ntmps60;go_wp2_with fail;clear hW A;go_loop [3,9] (fun q i=> ∃k:Nat,k<=s.ls.length/\i=.int .i64 k/\q=.int .i64 (ED s.ls k:Nat)) (fun _ i=>s.ls.length-(intOf i).toNat)
 case atStart=>exact⟨0,Nat.zero_le _,rfl,rfl⟩
 case round=>
  obtain⟨k,y,rfl,rfl⟩:=hrel;have J:=Aa u k y;by_cases a:k<s.ls.length
  ·have z:(k:Int)<(s.ls.length:Int):=by omega
   obtain⟨b,c,d,f⟩:=(Aa H).lks.at (by omega);rw[j]at d;simp only[Value.slice.injEq,true_and]at d;obtain⟨rfl,rfl⟩:=d;have E:=f k a;have n:=Ab (eA _ _ _ _ _ _ _ _ _ _ W ((Aa H).each k a).1 rfl);have o:=Aa u (k+1) a;have C:=Ab (show ED s.ls (k+1)=ED s.ls k+(s.ls.getD k .dflt).L.length from rfl);clear f;generalize s.ls.getD k .dflt=l at*
   go_wp2_with (first
    |(go_at_call 89;refine(Aa n).mono ?_;rintro e w2 ⟨rfl,m⟩;obtain rfl:=m.symm;clear m)
    |fail)
   go_round
   case rel=>exact⟨k+1,a,by go_num,by have e:=Aa C;rw[e]at o;rw[e];simp only[Value.int.injEq,true_and];unfold wrap64;omega⟩
   case measure=>simp[intOf];omega
  ·obtain rfl:k=s.ls.length:=by omega
   go_wp2;go_ret;exact⟨rfl,Aa r⟩
theorem An.nobs{M:Int}{s:DS}{gs:Nat}{v:Value}{rs:List RV}(h:An w g B M s gs v rs):s.ob.size<=8192:=by
 cases a:s.bg
 ·rw[(h.fresh a).1];exact Nat.zero_le _
 ·exact(h.begun a).2.obs
theorem An.len{M:Int}{s:DS}{gs:Nat}{v:Value}{rs:List RV}(h:An w g B M s gs v rs):s.L.length=rs.length/\rs.length<=256:=by
 refine⟨by rw[<-h.co,List.length_map],?_⟩;cases b:s.bg
 ·have a:=h.co
  rw[(h.fresh b).1]at a;rw[List.map_eq_nil_iff.1 a];exact Nat.zero_le _
 ·have a:=(h.begun b).1
  exact Nat.le_trans a.le a.most
theorem gx(g B:Nat)(M:Int)(s:DS)(gs:Nat)(v:Value)(rs:List RV)(w:World)(h:An w g B M s gs v rs):
  Calls Tryz.prog 62 #[.pointer (some ⟨g,0,none⟩)] w fun e w'=>e=.returned (.bool s.dn)/\w'=w:=by
 obtain⟨-, -, -, -, -, -,a, -⟩:=h.cells;clear h;go_enter Tryz.func62,Tryz.ntmps62;go_wp2;go_ret;exact⟨rfl,rfl⟩
theorem gy(w:World):Calls Tryz.prog 62 #[.pointer none] w fun e w'=>e=.returned (.bool false)/\w'=w:=by
 go_enter Tryz.func62,Tryz.ntmps62;go_wp2;go_ret;exact⟨rfl,rfl⟩
theorem kO(g B:Nat)(M:Int)(s:DS)(gs:Nat)(v:Value)(rs:List RV)(w:World)(h:An w g B M s gs v rs):
  Calls Tryz.prog 63 #[.pointer (some ⟨g,0,none⟩)] w fun e w'=>e=.returned (.string s.ob)/\Below w.heap.size w w':=by
 obtain⟨-, -, -, -, -, -, -,c⟩:=h.cells;have b:=Ab (GS s.ob w (by have:=h.nobs;omega));clear h;go_enter Tryz.func63,Tryz.ntmps63;go_wp2_with (go_at_call 33;refine(Aa b).mono ?_;rintro e w1 ⟨rfl,a⟩);go_ret;exact⟨rfl,a⟩
theorem kP(w:World):Calls Tryz.prog 63 #[.pointer none] w fun e w'=>e=.returned (.string ⟨#[]⟩)/\w'=w:=by
 go_enter Tryz.func63,Tryz.ntmps63;go_wp2;go_ret;exact⟨rfl,rfl⟩
theorem hG(g B:Nat)(M:Int)(s:DS)(gs:Nat)(v:Value)(rs:List RV)(w:World)(h:An w g B M s gs v rs):
  Calls Tryz.prog 57 #[.pointer (some ⟨g,0,none⟩)] w fun e w'=>e=.returned (.int .i64 (s.L.length:Int))/\w'=w:=by
 obtain⟨-, -, -, -, -,d, -, -⟩:=h.cells;rw[h.len.1];cases b:s.bg
 ·rw[b,show F0 false gs=none from rfl]at d
  obtain rfl:rs=[]:=by have c:=h.co;rw[(h.fresh b).1]at c;exact List.map_eq_nil_iff.1 c
  clear h;go_enter Tryz.func57,Tryz.ntmps57;go_wp2_with (go_at_call 87;refine(XX _).mono ?_;rintro e w1 ⟨rfl,a⟩;obtain rfl:=a.symm;clear a);go_ret;exact⟨rfl,rfl⟩
 ·rw[b,show F0 true gs=some ⟨gs,0,none⟩ from rfl]at d
  have f:=Ab (XW gs B s.k s.z (capN M) v rs s.ov w (h.begun b).1);clear h;go_enter Tryz.func57,Tryz.ntmps57;go_wp2_with (go_at_call 87;refine(Aa f).mono ?_;rintro e w1 ⟨rfl,a⟩;obtain rfl:=a.symm;clear a);go_ret;exact⟨rfl,rfl⟩
theorem hJ(w:World):Calls Tryz.prog 57 #[.pointer none] w fun e w'=>e=.returned (.int .i64 0)/\w'=w:=by
 go_enter Tryz.func57,Tryz.ntmps57;go_wp2;go_ret;exact⟨rfl,rfl⟩
theorem hU(g B:Nat)(M:Int)(s:DS)(gs:Nat)(v:Value)(rs:List RV)(w:World)(ht:Tab w)(h:An w g B M s gs v rs):
  Calls Tryz.prog 59 #[.pointer (some ⟨g,0,none⟩)] w fun e w'=>e=.returned (.int .i64 (CZ s.L:Int))/\Below w.heap.size w w':=by
 obtain⟨-, -, -, -, -,d, -, -⟩:=h.cells;rw[<-h.co,<-LU];cases a:s.bg
 ·rw[a,show F0 false gs=none from rfl]at d
  obtain rfl:rs=[]:=by have c:=h.co;rw[(h.fresh a).1]at c;exact List.map_eq_nil_iff.1 c
  clear h;go_enter Tryz.func59,Tryz.ntmps59;go_wp2_with (go_at_call 88;refine(rv _).mono ?_;rintro e w1 ⟨rfl,f⟩;obtain rfl:=f.symm;clear f);go_ret;exact⟨rfl,Below.refl _ _⟩
 ·rw[a,show F0 true gs=some ⟨gs,0,none⟩ from rfl]at d
  have i:=Ab (Wr gs B s.k s.z (capN M) v rs s.ov w ht (h.begun a).1);clear h;generalize rankN rs=R at*;go_enter Tryz.func59,Tryz.ntmps59;go_wp2_with (go_at_call 88;refine(Aa i).mono ?_;rintro e w1 ⟨rfl,b⟩);go_ret;exact⟨rfl,b⟩
theorem iA(w:World):Calls Tryz.prog 59 #[.pointer none] w fun e w'=>e=.returned (.int .i64 0)/\w'=w:=by
 go_enter Tryz.func59,Tryz.ntmps59;go_wp2;go_ret;exact⟨rfl,rfl⟩
theorem jY(h:G5 p=false):Jg T p t=false:=by unfold Jg;rw[h];rfl
theorem eR(h:E4 t=false):Jg T p t=false:=by unfold Jg;rw[h,Bool.and_false];rfl
theorem jZ(h:G5 p=true)(ht:E4 t=true):Jg T p t=(decide (0<=t-(p.2-1))&&decide (t-(p.2-1)<=T)):=by unfold Jg;rw[h,ht];rfl
theorem fV(v:Value)(T:Int)(a b x t:Int)(w:World)(i:Calls Tryz.prog 130 #[v,.int .i64 x] w fun e w'=>e=.returned (.agg #[.int .i64 a,.int .i64 b])/\Below w.heap.size w w')(k:G5 (a,b)=false):
  Calls Tryz.prog 90 #[v,.int .i64 x,.int .i64 t] w fun e w'=>e=.returned (.bool false)/\Below w.heap.size w w':=by
 have j:=Ab i;clear i;go_enter Tryz.func90,Tryz.ntmps90
 go_wp2_with (first
  |(go_at_call 130;refine(Aa j).mono ?_;rintro e w1 ⟨rfl,c⟩;have f:=Ab (Ad c (Ax w1 (.cells #[.int .i64 a,.int .i64 b] 187)));clear c)
  |(go_at_call 131;refine(Ma a b _).mono ?_;rintro e w2 ⟨rfl,d⟩;have h:=Ab (Ad (Aa f) d);clear d;rw[k])
  |fail)
 go_ret;exact⟨rfl,Aa h⟩
theorem fN(g:Nat)(T:Int)(Z:List Int)(x t:Int)(w:World)(h:A6 w g T Z):
  Calls Tryz.prog 90 #[.pointer (some ⟨g,0,none⟩),.int .i64 x,.int .i64 t] w fun e w'=>e=.returned (.bool (Qh T Z x t))/\Below w.heap.size w w':=by
 have hp:=h.inv.mem x;have C:=jF g T Z x w h;unfold Qh;generalize C7 Z x=p at*;obtain⟨a,b⟩:=p;cases s:G5 (a,b)
 ·rw[jY s]
  exact fV _ T a b x t w C s
 have v:=Ab C;clear C;cases ht:E4 t
 ·rw[eR ht]
  clear h hp;go_enter Tryz.func90,Tryz.ntmps90
  go_wp2_with (first
   |(go_at_call 130;refine(Aa v).mono ?_;rintro e w1 ⟨rfl,c⟩;have j:=Ab (Ad c (Ax w1 (.cells #[.int .i64 a,.int .i64 b] 187)));clear c)
   |(go_at_call 131;refine(Ma a b _).mono ?_;rintro e w2 ⟨rfl,d⟩;have k:=Ab (Ad (Aa j) d);clear d;rw[s])
   |(go_at_call 118;refine(JA _ _).mono ?_;rintro e w3 ⟨rfl,f⟩;obtain rfl:=f.symm;clear f;rw[ht])
   |fail)
  go_ret;exact⟨rfl,Aa k⟩
 rw[jZ s ht];have E:=OX.1 ht;obtain⟨-,r,c, -⟩:=hp;simp only at r c;have N:IntKind.i64.wrap (t-(b-1))=t-(b-1):=by rw[IntKind.wrap_i64];omega
 have K:=Ab (fun wx=>lE a b ⟨r,c⟩ wx);have O:=Ab h;clear h E r c;simp only;obtain⟨q,D⟩:∃q,t-(b-1)=q:=⟨_,rfl⟩;have H:IntKind.i64.wrap (t-(b-1))=q:=N.trans D;rw[D];obtain⟨l,A⟩:∃l,b-1=l:=⟨_,rfl⟩;have o:=K;rw[A]at o H;clear K N D;have P:=Ab A;clear A;by_cases L:0<=q
 ·have z:decide (0<=q)=true:=decide_eq_true L
  rw[z,Bool.true_and];go_enter Tryz.func90,Tryz.ntmps90
  go_wp2_with (first
   |(go_at_call 130;refine(Aa v).mono ?_;rintro e w1 ⟨rfl,c⟩;have u:=Ab c;have j:=Ab (Ad c (Ax w1 (.cells #[.int .i64 a,.int .i64 b] 187)));have y:=Ab (AN 187 w1 [.int .i64 a,.int .i64 b]);clear c)
   |(go_at_call 131;refine(Ma a b _).mono ?_;rintro e w2 ⟨rfl,d⟩;have k:=Ab (Ad (Aa j) d);have i:=(Aa y).below d;have I:=i.at 0 rfl;have J:=i.at 1 rfl;clear d i;rw[s])
   |(go_at_call 118;refine(JA _ _).mono ?_;rintro e w3 ⟨rfl,f⟩;obtain rfl:=f.symm;clear f;rw[ht])
   |(go_at_call 132;refine(Aa o _).mono ?_;rintro e Q ⟨rfl,m⟩;have n:=Ab (Ad (Aa k) m);have R:=((Aa O).below (Aa n)).t;clear m I J)
   |fail)
  go_ret;exact⟨rfl,Aa n⟩
 ·have z:decide (0<=q)=false:=decide_eq_false L
  rw[z,Bool.false_and];go_enter Tryz.func90,Tryz.ntmps90
  go_wp2_with (first
   |(go_at_call 130;refine(Aa v).mono ?_;rintro e w1 ⟨rfl,c⟩;have u:=Ab c;have j:=Ab (Ad c (Ax w1 (.cells #[.int .i64 a,.int .i64 b] 187)));have y:=Ab (AN 187 w1 [.int .i64 a,.int .i64 b]);clear c)
   |(go_at_call 131;refine(Ma a b _).mono ?_;rintro e w2 ⟨rfl,d⟩;have k:=Ab (Ad (Aa j) d);have i:=(Aa y).below d;have I:=i.at 0 rfl;have J:=i.at 1 rfl;clear d i;rw[s])
   |(go_at_call 118;refine(JA _ _).mono ?_;rintro e w3 ⟨rfl,f⟩;obtain rfl:=f.symm;clear f;rw[ht])
   |(go_at_call 132;refine(Aa o _).mono ?_;rintro e Q ⟨rfl,m⟩;have n:=Ab (Ad (Aa k) m);clear m I J)
   |fail)
  go_ret;exact⟨rfl,Aa n⟩
theorem ox(v:Value)(P:Nat->Bool)(t:Int)(w:World)(C:∀(n:Nat) (wx:World),n<8->Below w.heap.size w wx->Calls Tryz.prog 90 #[v,.int .i64 (n:Int),.int .i64 t] wx fun e w'=>e=.returned (.bool (P n))/\Below wx.heap.size wx w'):
  Calls Tryz.prog 61 #[v,.int .i64 t] w fun e w'=> ∃o,e=.returned o/\Am w' w.heap.size o (EF P 8)/\Below w.heap.size w w':=by
 have l:=Ab C;clear C;go_enter Tryz.func61,Tryz.ntmps61;go_wp2;go_loopw [5,7] (fun o i wr=> ∃k:Nat,k<=8/\i=.int .i64 k/\Hid (Am wr w.heap.size o (EF P k)/\Below w.heap.size w wr)) (fun _ i _=>8-(intOf i).toNat)
 case atStart=>exact⟨0,Nat.zero_le _,rfl,Ab ⟨Am.nil _ _,Below.refl _ _⟩⟩
 case round=>
  obtain⟨k,I,rfl,f⟩:=hrel;obtain⟨z,j⟩:=Aa f;by_cases y:k<8
  ·have D:(k:Int)<8:=by omega
   have h:=Ab (Aa l k wr y j);have r:=Ab z;have A:=Ab j;clear z j f l;obtain⟨H,co,rfl, -⟩:=(Aa r).ints;cases hp:P k
   ·rw[hp]at h
    have q:=Ab (ow hp);clear hp;go_wp2_with (go_at_call 90;refine(Aa h).mono ?_;rintro e w1 ⟨rfl,a⟩;have b:=Ab a;clear a);go_roundw
    case rel=>exact⟨k+1,by omega,by go_num,Ab ⟨by rw[Aa q];exact(Aa r).below (Aa b),Ad (Aa A) (Aa b)⟩⟩
    case measure=>simp[intOf];omega
   ·rw[hp]at h
    have q:=Ab (ja hp);have E:=Ml P k;clear hp;generalize (EF P k).length=N at*
    go_wp2_with (first
     |(go_at_call 90;refine(Aa h).mono ?_;rintro e w1 ⟨rfl,a⟩;have b:=Ab (Ad (Aa A) a);have s:=Ab ((Aa r).below a);clear a)
     |(at_builtin;refine RK rfl (.tmp 14) (.tmp 16) rfl w.heap.size _ (EF P k) (k:Int) rfl rfl (Aa s) (Aa b).size (Nat.le_trans (Ml P k) (by omega)) ?_;intro J K c d;rw[<-Aa q]at c;have u:=Ab c;have m:=Ab ((Aa b).trans d);clear c d)
     |fail)
    go_roundw
    case rel=>exact⟨k+1,by omega,by go_num,Ab ⟨Aa u,Aa m⟩⟩
    case measure=>simp[intOf];omega
  ·obtain rfl:k=8:=by omega
   have x:=f;clear z j f l;go_wp2;go_ret;exact⟨_,rfl,Aa x⟩
theorem lX(g:Nat)(T:Int)(Z:List Int)(t:Int)(w:World)(h:A6 w g T Z):
  Calls Tryz.prog 61 #[.pointer (some ⟨g,0,none⟩),.int .i64 t] w fun e w'=> ∃o,e=.returned o/\Am w' w.heap.size o (Gy T Z t)/\Below w.heap.size w w':=
 ox _ _ t w fun n wx _ a=>fN g T Z (n:Int) t wx (h.below a)
def kR(s:A0):Nat:=match s.rl with
 |some r=>r.ps.length
 |none=>0
def kD(s:A0):Nat:=match s.dc with
 |some d=>d.s.L.length
 |none=>0
def rD(s:A0):Nat:=match s.dc with
 |some d=>CZ d.s.L
 |none=>0
def GB(s:A0):Bool:=match s.dc with
 |some d=>d.s.dn
 |none=>false
def GC(s:A0):ByteArray:=match s.dc with
 |some d=>d.s.ob
 |none=>⟨#[]⟩
theorem Xf{p:Bq}{s:A0}(h:Ag w B p s):(Calls Tryz.prog 56 #[.pointer (ptrR s.rl)] w fun e w'=>e=.returned (.int .i64 (kR s:Nat))/\w'=w)/\(Calls Tryz.prog 58 #[.pointer (ptrR s.rl)] w fun e w'=>e=.returned (.int .i64 (kR s:Nat))/\w'=w):=by
 unfold kR;cases a:s.rl with
 |none=>exact⟨Te w,iD w⟩
 |some r=>exact⟨LV _ _ _ _ _ _ _ _ w (h.rl r a),iC _ _ _ _ _ _ _ _ w (h.rl r a)⟩
theorem MK{p:Bq}{s:A0}(h:Ag w B p s)(ht:Tab w):(Calls Tryz.prog 57 #[.pointer (ptrC s.dc)] w fun e w'=>e=.returned (.int .i64 (kD s:Nat))/\w'=w)/\(Calls Tryz.prog 59 #[.pointer (ptrC s.dc)] w fun e w'=>e=.returned (.int .i64 (rD s:Nat))/\Below w.heap.size w w')/\
  (Calls Tryz.prog 62 #[.pointer (ptrC s.dc)] w fun e w'=>e=.returned (.bool (GB s))/\w'=w)/\(Calls Tryz.prog 63 #[.pointer (ptrC s.dc)] w fun e w'=>e=.returned (.string (GC s))/\Below w.heap.size w w'):=by
 unfold kD rD GB GC;cases a:s.dc with
 |none=>exact⟨hJ w,(iA w).mono fun e w' ⟨b,c⟩=>⟨b,by rw[c];exact Below.refl _ _⟩,gy w,(kP w).mono fun e w' ⟨b,c⟩=>⟨b,by rw[c];exact Below.refl _ _⟩⟩
 |some d=>exact⟨hG _ _ _ _ _ _ _ w (h.dc d a),hU _ _ _ _ _ _ _ w ht (h.dc d a),gx _ _ _ _ _ _ _ w (h.dc d a),kO _ _ _ _ _ _ _ w (h.dc d a)⟩
def Hz(n:Ao)(now:Int):List Value:=[.int .i64 (n.inc:Int),.int .i64 ((kR n.s+kD n.s:Nat):Int),.int .i64 ((kR n.s+rD n.s:Nat):Int),.int .i64 (ED n.s.ls n.s.ls.length:Nat),.int .i64 ((Gy (CP n.p.timeout) n.s.Z now).length:Nat),.bool (GB n.s),.string (GC n.s)]
theorem KU:(Tryz.prog.info? 44).map (·.size)=some 7:=by kernel_rfl
theorem ev{tmps:Array Value}{W:World}{cs:List Value}(c:tmps.getD 4 undef=.pointer (some ⟨g,0,none⟩))(e:BkA 44 W g cs)(d:cs.length=7):(results Tryz.f31 tmps).run Tryz.prog W=.ok (.agg cs.toArray) W:=by
 have b:=e.load Tryz.underlying44 rfl KU d;have a:tmps[4]?.getD undef=.pointer (some ⟨g,0,none⟩):=by simpa using c
 simp[results,Tryz.results31,asAddr,a,b]
theorem lH(g B:Nat)(n:Ao)(now:Int)(w:World)(h:Al w g B n)(ht:Tab w):Calls Tryz.prog 31 #[.pointer (some ⟨g,0,none⟩),.int .i64 now] w fun e w'=>e=.returned (.agg (Hz n now).toArray)/\Below w.heap.size w w':=by
 have c1:=h.blk.at 1 rfl;have I:=h.blk.at 11 (show(EO n)[11]? =some n.s.lv from rfl);have af:=h.blk.at 12 rfl;have ag:=h.blk.at 13 rfl;have ah:=h.blk.at 14 rfl;have ai:=h.blk.at 15 rfl;have ao:=h.blk.lt;have O:=h.num.1;have h8:n.s.ls.length<=8:=by have:=h.num;omega
 have ap:IntKind.i64.wrap (n.inc:Int)=(n.inc:Int):=by rw[IntKind.wrap_i64];omega
 have am:kR n.s<=256:=by
  unfold kR;cases Q:n.s.rl with
  |none=>exact Nat.zero_le _
  |some r=>exact Nat.le_trans (by have:=(h.st.rl r Q).buf.inv.le;rwa[List.length_map]at this) (h.st.rl r Q).buf.most
 have ak:kD n.s<=256/\rD n.s<=256:=by
  unfold kD rD;cases Q:n.s.dc with
  |none=>exact⟨Nat.zero_le _,Nat.zero_le _⟩
  |some d=>
   have h1:=(h.st.dc d Q).len;have h2:=Wq d.s.L;exact⟨by show d.s.L.length<=256;omega,by show CZ d.s.L<=256;omega⟩
 have w1:IntKind.i64.wrap ((kR n.s:Int)+(kD n.s:Int))=((kR n.s+kD n.s:Nat):Int):=by rw[IntKind.wrap_i64];omega
 have w2:IntKind.i64.wrap ((kR n.s:Int)+(rD n.s:Int))=((kR n.s+rD n.s:Nat):Int):=by rw[IntKind.wrap_i64];omega
 obtain⟨H,J,P⟩:=h.st.lks.len;obtain⟨W,hW,X,Y,C⟩:∃W,(w.alloc (.cells #[.int .i64 0,.int .i64 0,.int .i64 0,.int .i64 0,.int .i64 0,.bool false,.string ⟨#[]⟩] 44)).alloc (.cells #[.slice H n.s.ls.length J,.pointer (some ⟨n.s.gm,0,none⟩),.pointer (some ⟨n.s.gc,0,none⟩),.pointer (ptrR n.s.rl),.pointer (ptrC n.s.dc)] 120)=W/\BkA 44 W w.heap.size [.int .i64 0,.int .i64 0,.int .i64 0,.int .i64 0,.int .i64 0,.bool false,.string ⟨#[]⟩]/\BkA 120 W (w.heap.size+1) [.slice H n.s.ls.length J,.pointer (some ⟨n.s.gm,0,none⟩),.pointer (some ⟨n.s.gc,0,none⟩),.pointer (ptrR n.s.rl),.pointer (ptrC n.s.dc)]/\Below w.heap.size w W:=by
  refine⟨_,rfl,(AN 44 w [.int .i64 0,.int .i64 0,.int .i64 0,.int .i64 0,.int .i64 0,.bool false,.string ⟨#[]⟩]).below (Ax _ _),?_,Ad (Ax _ _) (Ax _ _)⟩;have:=AN 120 (w.alloc (.cells #[.int .i64 0,.int .i64 0,.int .i64 0,.int .i64 0,.int .i64 0,.bool false,.string ⟨#[]⟩] 44)) [.slice H n.s.ls.length J,.pointer (some ⟨n.s.gm,0,none⟩),.pointer (some ⟨n.s.gc,0,none⟩),.pointer (ptrR n.s.rl),.pointer (ptrC n.s.dc)];rwa[Bc]at this
 have A:=h.below C;have m:=Ab (fun wx (k:Below W.heap.size W wx)=>(show(wx.cell? ⟨g,1,none⟩=some (.int .u32 (n.inc:Int))/\wx.cell? ⟨w.heap.size+1,0,none⟩=some (.slice H n.s.ls.length J)/\wx.cell? ⟨w.heap.size+1,1,none⟩=some (.pointer (some ⟨n.s.gm,0,none⟩))/\wx.cell? ⟨w.heap.size+1,2,none⟩=some (.pointer (some ⟨n.s.gc,0,none⟩))/\wx.cell? ⟨w.heap.size+1,3,none⟩=some (.pointer (ptrR n.s.rl))/\wx.cell? ⟨w.heap.size+1,4,none⟩=some (.pointer (ptrC n.s.dc))) from⟨(A.below k).blk.at 1 rfl,(Y.below k).at 0 rfl,(Y.below k).at 1 rfl,(Y.below k).at 2 rfl,(Y.below k).at 3 rfl,(Y.below k).at 4 rfl⟩));have ad:=Ab (fun wx (k:Below W.heap.size W wx)=>((Xf (A.st.below k)).1.mono (R':=fun e w'=>e=.returned (.int .i64 (kR n.s:Nat))/\Below W.heap.size W w') fun e w' ⟨u,y⟩=>⟨u,by rw[y];exact k⟩));have ae:=Ab (fun wx (k:Below W.heap.size W wx)=>((Xf (A.st.below k)).2.mono (R':=fun e w'=>e=.returned (.int .i64 (kR n.s:Nat))/\Below W.heap.size W w') fun e w' ⟨u,y⟩=>⟨u,by rw[y];exact k⟩));have aa:=Ab (fun wx (k:Below W.heap.size W wx)=>((MK (A.st.below k) ((ht.below C).below k)).1.mono (R':=fun e w'=>e=.returned (.int .i64 (kD n.s:Nat))/\Below W.heap.size W w') fun e w' ⟨u,y⟩=>⟨u,by rw[y];exact k⟩));have ac:=Ab (fun wx (k:Below W.heap.size W wx)=>((MK (A.st.below k) ((ht.below C).below k)).2.1.mono (R':=fun e w'=>e=.returned (.int .i64 (rD n.s:Nat))/\Below W.heap.size W w') fun e w' ⟨u,y⟩=>⟨u,Ad k y⟩));have V:=Ab (fun wx (k:Below W.heap.size W wx)=>((MK (A.st.below k) ((ht.below C).below k)).2.2.1.mono (R':=fun e w'=>e=.returned (.bool (GB n.s))/\Below W.heap.size W w') fun e w' ⟨u,y⟩=>⟨u,by rw[y];exact k⟩));have ab:=Ab (fun wx (k:Below W.heap.size W wx)=>((MK (A.st.below k) ((ht.below C).below k)).2.2.2.mono (R':=fun e w'=>e=.returned (.string (GC n.s))/\Below W.heap.size W w') fun e w' ⟨u,y⟩=>⟨u,Ad k y⟩))
 have E:=Ab (fun wx (k:Below W.heap.size W wx)=>((ib B n.p n.s wx (A.st.below k) h8).mono (R':=fun e w'=>e=.returned (.int .i64 (ED n.s.ls n.s.ls.length:Nat))/\Below W.heap.size W w') fun e w' ⟨u,y⟩=>⟨u,Ad k y⟩));rw[P]at E I;have R:=Ab (fun wx (k:Below W.heap.size W wx)=>((lX n.s.gm (CP n.p.timeout) n.s.Z now wx (A.st.mem.below k)).mono (R':=fun e w'=> ∃a c,e=.returned (.slice a (Gy (CP n.p.timeout) n.s.Z now).length c)/\Below W.heap.size W w') fun e w' ⟨o,u,ho,y⟩=>by obtain⟨a,c,hv, -⟩:=ho.ints;exact⟨a,c,by rw[u,hv],Ad k y⟩));have HX:=Ab X;have D:=Ab C;obtain⟨s1,s2,s3,s4,s5,s6⟩:=Aa m W (Below.refl _ _);have z:w.heap.size≠w.heap.size+1:=by omega
 have aj:w.heap.size≠g:=by omega
 clear h ht A Y X C h8 am ak O P;unfold Hz;generalize kR n.s=kr at*;generalize kD n.s=kd at*;generalize rD n.s=rd at*;generalize GB n.s=dn at*;generalize GC n.s=ob at*;generalize hq:ED n.s.ls n.s.ls.length=qq at*;clear hq;generalize (Gy (CP n.p.timeout) n.s.Z now).length=kn at*;go_enter Tryz.func31,Tryz.ntmps31;go_wp2_with fail;clear hW c1 I af ag ah ai;generalize w.heap.size+1=q at*;refine wp_region_held_drew (S:=fun w'=>w'.cell? ⟨g,1,none⟩=some (.int .u32 (n.inc:Int))/\w'.cell? ⟨q,0,none⟩=some (.slice H n.s.ls.length J)/\w'.cell? ⟨q,1,none⟩=some (.pointer (some ⟨n.s.gm,0,none⟩))/\w'.cell? ⟨q,2,none⟩=some (.pointer (some ⟨n.s.gc,0,none⟩))/\w'.cell? ⟨q,3,none⟩=some (.pointer (ptrR n.s.rl))/\w'.cell? ⟨q,4,none⟩=some (.pointer (ptrC n.s.dc))) (by kernel_rfl) ?_ (fun f=>?_)
 ·go_keep
 refine tkHh (i:=0) (v:=?_) rfl (fun _ _ _ h=>h) (Or.inl ⟨by rfl,?f0⟩) (by assumption) ?_
 case f0=>(intro w b;(try dsimp only at b);go_simp;try with_reducible rfl)
 refine tkHh (i:=1) (v:=?_) rfl (fun _ _ _ h=>h) (Or.inl ⟨by rfl,?f1⟩) (by assumption) ?_
 case f1=>(intro w b;(try dsimp only at b);go_simp;try with_reducible rfl)
 refine tkHh (i:=2) (v:=?_) rfl (fun _ _ _ h=>h) (Or.inl ⟨by rfl,?f2⟩) (by assumption) ?_
 case f2=>(intro w b;(try dsimp only at b);go_simp;try with_reducible rfl)
 refine tkHh (i:=3) (v:=?_) rfl (fun _ _ _ h=>h) (Or.inl ⟨by rfl,?f3⟩) (by assumption) ?_
 case f3=>(intro w b;(try dsimp only at b);go_simp;try with_reducible rfl)
 refine tkHh (i:=4) (v:=?_) rfl (fun _ _ _ h=>h) (Or.inl ⟨by rfl,?f4⟩) (by assumption) ?_
 case f4=>(intro w b;(try dsimp only at b);go_simp;try with_reducible rfl)
 refine tkHh (i:=5) (v:=?_) rfl (fun _ _ _ h=>h) (Or.inl ⟨by rfl,?f5⟩) (by assumption) ?_
 case f5=>(intro w b;(try dsimp only at b);go_simp;try with_reducible rfl)
 refine tkHh (i:=6) (v:=?_) rfl (fun _ _ _ h=>h) (Or.inl ⟨by rfl,?f6⟩) (by assumption) ?_
 case f6=>(intro w b;(try dsimp only at b);go_simp;try with_reducible rfl)
 refine tkHh (i:=8) (v:=?_) rfl (fun _ _ _ h=>h) (Or.inl ⟨by rfl,?f8⟩) (by assumption) ?_
 case f8=>(intro w b;(try dsimp only at b);go_simp;try with_reducible rfl)
 refine tkHh (i:=9) (v:=?_) rfl (fun _ _ _ h=>h) (Or.inl ⟨by rfl,?f9⟩) (by assumption) ?_
 case f9=>(intro w b;(try dsimp only at b);go_simp;try with_reducible rfl)
 refine tkHh (i:=12) (v:=?_) rfl (fun _ _ _ h=>h) (Or.inl ⟨by rfl,?f12⟩) (by assumption) ?_
 case f12=>(intro w b;(try dsimp only at b);go_simp;try with_reducible rfl)
 refine tkHh (i:=13) (v:=?_) rfl (fun _ _ _ h=>h) (Or.inl ⟨by rfl,?f13⟩) (by assumption) ?_
 case f13=>(intro w b;(try dsimp only at b);go_simp;try with_reducible rfl)
 refine tkHh (i:=15) (v:=?_) rfl (fun _ _ _ h=>h) (Or.inl ⟨by rfl,?f15⟩) (by assumption) ?_
 case f15=>(intro w b;(try dsimp only at b);go_simp;try with_reducible rfl)
 refine tkHh (i:=16) (v:=?_) rfl (fun _ _ _ h=>h) (Or.inl ⟨by rfl,?f16⟩) (by assumption) ?_
 case f16=>(intro w b;(try dsimp only at b);go_simp;try with_reducible rfl)
 refine tkHh (i:=19) (v:=?_) rfl (fun _ _ _ h=>h) (Or.inl ⟨by rfl,?f19⟩) (by assumption) ?_
 case f19=>(intro w b;(try dsimp only at b);go_simp;try with_reducible rfl)
 refine tkHh (i:=21) (v:=?_) rfl (fun _ _ _ h=>h) (Or.inl ⟨by rfl,?f21⟩) (by assumption) ?_
 case f21=>(intro w b;(try dsimp only at b);go_simp;try with_reducible rfl)
 refine tkHh (i:=22) (v:=?_) rfl (fun _ _ _ h=>h) (Or.inl ⟨by rfl,?f22⟩) (by assumption) ?_
 case f22=>(intro w b;(try dsimp only at b);go_simp;try with_reducible rfl)
 refine tkHh (i:=23) (v:=?_) rfl (fun _ _ _ h=>h) (Or.inl ⟨by rfl,?f23⟩) (by assumption) ?_
 case f23=>(intro w b;(try dsimp only at b);go_simp;try with_reducible rfl)
 refine tkHh (i:=26) (v:=?_) rfl (fun _ _ _ h=>h) (Or.inl ⟨by rfl,?f26⟩) (by assumption) ?_
 case f26=>(intro w b;(try dsimp only at b);go_simp;try with_reducible rfl)
 refine tkHh (i:=27) (v:=?_) rfl (fun _ _ _ h=>h) (Or.inl ⟨by rfl,?f27⟩) (by assumption) ?_
 case f27=>(intro w b;(try dsimp only at b);go_simp;try with_reducible rfl)
 refine tkHh (i:=29) (v:=?_) rfl (fun _ _ _ h=>h) (Or.inl ⟨by rfl,?f29⟩) (by assumption) ?_
 case f29=>(intro w b;(try dsimp only at b);go_simp;try with_reducible rfl)
 refine tkHh (i:=30) (v:=?_) rfl (fun _ _ _ h=>h) (Or.inl ⟨by rfl,?f30⟩) (by assumption) ?_
 case f30=>(intro w b;(try dsimp only at b);go_simp;try with_reducible rfl)
 refine wpAnyH_ready (rs:=[7]) (by kernel_rfl) (by simp) ?_;refine AllReadyH.cons rfl (fun K l=>?_) AllReadyH.nil;go_simp;refine(Aa ad _ ((Below.refl _ _).drew)).mono ?_;rintro e w1 ⟨rfl,d1⟩;refine l.out _ _ (Aa m w1 d1) (fun f=>?_);clear l K;refine wpAnyH_ready (rs:=[10]) (by kernel_rfl) (by simp) ?_;refine AllReadyH.cons rfl (fun K l=>?_) AllReadyH.nil;go_simp;refine(Aa aa _ d1).mono ?_;rintro e w2 ⟨rfl,d2⟩;refine l.out _ _ (Aa m w2 d2) (fun f=>?_);clear l K;refine tkHh (i:=11) (v:=?_) rfl (fun _ _ _ h=>h) (Or.inl ⟨by rfl,?f11⟩) (by assumption) ?_
 case f11=>(intro w b;(try dsimp only at b);go_simp;try with_reducible rfl)
 refine wpAnyH_ready (rs:=[14]) (by kernel_rfl) (by simp) ?_;refine AllReadyH.cons rfl (fun K l=>?_) AllReadyH.nil;go_simp;refine(Aa ae _ d2).mono ?_;rintro e w3 ⟨rfl,d3⟩;refine l.out _ _ (Aa m w3 d3) (fun f=>?_);clear l K;refine wpAnyH_ready (rs:=[17]) (by kernel_rfl) (by simp) ?_;refine AllReadyH.cons rfl (fun K l=>?_) AllReadyH.nil;go_simp;refine(Aa ac _ d3).mono ?_;rintro e w4 ⟨rfl,d4⟩;refine l.out _ _ (Aa m w4 d4) (fun f=>?_);clear l K;refine tkHh (i:=18) (v:=?_) rfl (fun _ _ _ h=>h) (Or.inl ⟨by rfl,?f18⟩) (by assumption) ?_
 case f18=>(intro w b;(try dsimp only at b);go_simp;try with_reducible rfl)
 refine wpAnyH_ready (rs:=[20]) (by kernel_rfl) (by simp) ?_;refine AllReadyH.cons rfl (fun K l=>?_) AllReadyH.nil;go_simp;refine(Aa E _ d4).mono ?_;rintro e w5 ⟨rfl,d5⟩;refine l.out _ _ (Aa m w5 d5) (fun f=>?_);clear l K;refine wpAnyH_ready (rs:=[24]) (by kernel_rfl) (by simp) ?_;refine AllReadyH.cons rfl (fun K l=>?_) AllReadyH.nil;go_simp;refine(Aa R _ d5).mono ?_;rintro e w6 ⟨a6,c6,rfl,d6⟩;refine l.out _ _ (Aa m w6 d6) (fun f=>?_);clear l K;refine tkHh (i:=25) (v:=?_) rfl (fun _ _ _ h=>h) (Or.inl ⟨by rfl,?f25⟩) (by assumption) ?_
 case f25=>(intro w b;(try dsimp only at b);go_simp;try with_reducible rfl)
 refine wpAnyH_ready (rs:=[28]) (by kernel_rfl) (by simp) ?_;refine AllReadyH.cons rfl (fun K l=>?_) AllReadyH.nil;go_simp;refine(Aa V _ d6).mono ?_;rintro e w7 ⟨rfl,d7⟩;refine l.out _ _ (Aa m w7 d7) (fun f=>?_);clear l K;refine wpAnyH_ready (rs:=[31]) (by kernel_rfl) (by simp) ?_;refine AllReadyH.cons rfl (fun K l=>?_) AllReadyH.nil;go_simp;refine(Aa ab _ d7).mono ?_;rintro e w8 ⟨rfl,N⟩;refine l.out _ _ (Aa m w8 N) (fun f=>?_);clear l K;refine tkHh (i:=32) (v:=?_) rfl (fun _ _ _ h=>h) (Or.inl ⟨by rfl,?f32⟩) (by assumption) ?_
 case f32=>(intro w b;(try dsimp only at b);go_simp;try with_reducible rfl)
 have X8:=(Aa HX).below N;refine wpAnyH_ready (rs:=[33]) (by kernel_rfl) (by simp) ?_;refine AllReadyH.cons rfl (fun K l=>?_) AllReadyH.nil;refine Ob rfl 44 44 KU (.tmp 4) (.tmp 45) rfl w.heap.size 0 _ [.int .i64 (n.inc:Int),.int .i64 ((kr+kd:Nat):Int),.int .i64 ((kr+rd:Nat):Int),.int .i64 (qq:Int),.int .i64 (kn:Int),.bool dn,.string ob] rfl rfl X8 rfl (show 0+7<=7 by decide) (by simp[Value.oneCell']) fun w9 an x=>?_;obtain⟨y1,y2,y3,y4,y5,y6⟩:=Aa m w8 N;refine l.out _ _ ⟨x.cell y1 (Ne.symm aj),x.cell y2 (Ne.symm z),x.cell y3 (Ne.symm z),x.cell y4 (Ne.symm z),x.cell y5 (Ne.symm z),x.cell y6 (Ne.symm z)⟩ (fun f=>?_);clear l K;refine wpAnyH_done (by kernel_rfl) ?_ _;go_wp2;exact bodyPost_ret (ev rfl an rfl) rfl ⟨rfl,(Ad (Aa D) N).trans (x.below (Ad (Aa D) N).size fun j hj e=>by omega)⟩
end Go.Proofs.YtfpmnekaockodaaGreatDoor
