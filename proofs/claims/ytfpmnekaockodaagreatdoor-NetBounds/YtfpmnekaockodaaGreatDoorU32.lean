/- Laws for the proof. -/
import Derived.Test.YtfpmnekaockodaaGreatDoorU31
namespace Go.Proofs.YtfpmnekaockodaaGreatDoor
open Go.RowKit Go.Sort Go.Maps
set_option linter.all false
set_option maxRecDepth 4000
set_option maxHeartbeats 8000000
theorem tkHh{P:Program}{ops:Array Oper}{Q:Exit->Act->World->Prop}{S:World->Prop}{md:Region.Mode}{i:Nat}{oi:Oper}{v:Value}{fuel:Nat}{listed:Array Bool}{a:Act}{w:World}(hi:ops[i]?=some oi)(hQ:∀c a w,Q (.panic c) (a.put oi.dst v) w->Q (.panic c) a w)(hy:YieldsIf P ops S oi v a)(hS:S w)(h:wpAnyH P md ops Q S fuel (listed.setIfInBounds i true) (a.put oi.dst v) w)(hs:Region.noSelect ops=true:=by kernel_rfl)(hf:Region.free md ops listed i=true:=by kernel_rfl)(hr:(Region.ready md ops listed).contains i=true:=by kernel_rfl):wpAnyH P md ops Q S (fuel+1) listed a w:=wpAnyH_take hi hs hf hr hQ hy hS h
theorem Yg(a:Addr)(w:World):(binOp .eql 167 (.iface 200 (.pointer (some a))) .nilIface).run Tryz.prog w=.ok (.bool false) w:=by kernel_rfl
theorem Zp(x:Value)(w:World):(Instr.makeInterface 200 x).run Tryz.prog w=.ok (.iface 200 x) w:=run_makeInterface w 200 x (by kernel_rfl)
theorem pu (a : Addr) (w : World) : (method 525 200 (.pointer (some a)) "Len").run Tryz.prog w = .ok (342, .pointer (some a)) w := by kernel_rfl
theorem pv (a : Addr) (w : World) : (method 525 200 (.pointer (some a)) "Put").run Tryz.prog w = .ok (343, .pointer (some a)) w := by kernel_rfl
theorem pt (a : Addr) (w : World) : (method 525 200 (.pointer (some a)) "All").run Tryz.prog w = .ok (340, .pointer (some a)) w := by kernel_rfl
theorem Tf(g gb B m:Nat)(t i:Int)(v:Value)(ps:List PKV)(w:World)(h:Aq w g gb B m t i v ps):
  Calls Tryz.prog 86 #[.pointer (some ⟨g,0,none⟩)] w fun e w'=>e=.returned (.bool false)/\w'=w:=by
 obtain⟨a,b,c⟩:=h.cells;have d:=Yg ⟨gb,0,none⟩;clear h;go_enter Tryz.func86,Tryz.ntmps86;go_wp2;go_ret;exact⟨rfl,rfl⟩
theorem Tg(w:World):Calls Tryz.prog 86 #[.pointer none] w fun e w'=>e=.returned (.bool true)/\w'=w:=by
 go_enter Tryz.func86,Tryz.ntmps86;go_wp2;go_ret;exact⟨rfl,rfl⟩
theorem mQ(n t:Int)(w:World):
  Calls Tryz.prog 73 #[.int .i64 n,.int .i64 t] w fun e w'=> ∃g gb,e=.returned (.pointer (some ⟨g,0,none⟩))/\Aq w' g gb w.heap.size (capN n) (Gs t) 0 (.slice none 0 0) []/\Below w.heap.size w w':=by
 have j:=JM t (-1099511627776);have h:=Iy (max t (-1099511627776)) 1099511627776;have i:=Zp;have c:min (max t (-1099511627776)) 1099511627776=Gs t:=rfl;rw[c]at h;clear c;generalize max t (-1099511627776)=k at*;go_enter Tryz.func73,Tryz.ntmps73;go_wp2_with (go_at_call 103;refine(kl n _).mono ?_;rintro e w1 ⟨rfl,d,b⟩;have f:=Ab d;have a:=Ab b;clear d b);go_ret;exact⟨_,_,rfl,ZP _ (Aa f),(Aa a).alloc (Aa a).size _⟩
theorem LV(g gb B m:Nat)(t i:Int)(v:Value)(ps:List PKV)(w:World)(h:Aq w g gb B m t i v ps):
  Calls Tryz.prog 56 #[.pointer (some ⟨g,0,none⟩)] w fun e w'=>e=.returned (.int .i64 (ps.length:Int))/\w'=w:=by
 obtain⟨f,j,k⟩:=h.cells;have d:=pu ⟨gb,0,none⟩;have c:=Ab (Tf g gb B m t i v ps w h);have b:=Ab (kj gb B m v ps w h.buf);clear h;go_enter Tryz.func56,Tryz.ntmps56
 go_wp2_with (first
  |(go_at_call 86;refine(Aa c).mono ?_;rintro e w1 ⟨rfl,a⟩;obtain rfl:=a.symm;clear a)
  |(go_at_call 342;refine(Aa b).mono ?_;rintro e w1 ⟨rfl,a⟩;obtain rfl:=a.symm;clear a))
 go_ret;exact⟨rfl,rfl⟩
theorem Te(w:World):Calls Tryz.prog 56 #[.pointer none] w fun e w'=>e=.returned (.int .i64 0)/\w'=w:=by
 go_enter Tryz.func56,Tryz.ntmps56;go_wp2_with (go_at_call 86;refine(Tg _).mono ?_;rintro e w1 ⟨rfl,a⟩;obtain rfl:=a.symm;clear a);go_ret;exact⟨rfl,rfl⟩
theorem iC(g gb B m:Nat)(t i:Int)(v:Value)(ps:List PKV)(w:World)(h:Aq w g gb B m t i v ps):
  Calls Tryz.prog 58 #[.pointer (some ⟨g,0,none⟩)] w fun e w'=>e=.returned (.int .i64 (ps.length:Int))/\w'=w:=by
 have b:=Ab (LV g gb B m t i v ps w h);clear h;go_enter Tryz.func58,Tryz.ntmps58;go_wp2_with (go_at_call 56;refine(Aa b).mono ?_;rintro e w1 ⟨rfl,a⟩;obtain rfl:=a.symm;clear a);go_ret;exact⟨rfl,rfl⟩
theorem iD(w:World):Calls Tryz.prog 58 #[.pointer none] w fun e w'=>e=.returned (.int .i64 0)/\w'=w:=by
 go_enter Tryz.func58,Tryz.ntmps58;go_wp2_with (go_at_call 56;refine(Te _).mono ?_;rintro e w1 ⟨rfl,a⟩;obtain rfl:=a.symm;clear a);go_ret;exact⟨rfl,rfl⟩
def cS(w w':World)(g gb B m:Nat)(t i:Int)(v:Value)(ps:List PKV)(p:PKV)(e:Ending):Prop:=
 e=.returned (.bool (DD m (ps.map PKV.pd) p.pd))/\∃v' a,Aq w' g gb B m t i v' a/\a.map PKV.pd=Ij m (ps.map PKV.pd) p.pd/\Tu (EP g gb v) w w'/\Cu w v v'
theorem mR(g gb B m:Nat)(t i:Int)(v:Value)(ps:List PKV)(p:PKV)(w:World)(ht:Tab w)(h:Aq w g gb B m t i v ps)(S:∀w',Tu (EP g gb v) w w'->RowAt w' p.r.a p.r.n p.r.xs)(Z:p.r.n<=10)(hs:p.r.s.size<=1000):
  Calls Tryz.prog 84 #[.pointer (some ⟨g,0,none⟩),p.val] w fun e w'=>cS w w' g gb B m t i v ps p e:=by
 have b:=Jh w p;have f:BkA 75 (w.alloc (.cells #[.int .i64 p.o,.int .i64 p.l,.int .i64 p.k,.int .i64 p.z,.int .i64 p.h,.slice p.r.a p.r.n p.r.c,.string p.r.s] 75)) w.heap.size p.cells:=AN 75 w p.cells;have X:=h.buf.lt
 have J:Hid (¬CG gb v w.heap.size):=Ab fun V=>by
  rcases V with e|e
  ·omega
  ·have:=(World.ownsRow.lt h.buf.own _ e).2;omega
 unfold PKV.val;generalize hW:w.alloc (.cells #[.int .i64 p.o,.int .i64 p.l,.int .i64 p.k,.int .i64 p.z,.int .i64 p.h,.slice p.r.a p.r.n p.r.c,.string p.r.s] 75)=W at*;have K:=Ab (fun wx (u:Below W.heap.size W wx)=>Tf g gb B m t i v ps wx ((h.below b).below u));have q:=fun wx (u:Below W.heap.size W wx)=>km gb B m v ps p wx ((ht.below b).below u) ((h.below b).below u).buf (fun w' Q=>S w' ((XC Q).after (Ad b u))) Z hs;unfold PKV.val at q;have N:=Ab q;have O:=Ab (fun wx (u:Below W.heap.size W wx)=>(h.below b).below u);have T:=Ab f;have y:=Ab b;have Y:=pv ⟨gb,0,none⟩;obtain⟨c0, -, -⟩:=(h.below b).cells;obtain⟨q0,q1,q2,q3,q4,q5,q6⟩:PkAt W w.heap.size (.int .i64 p.o) (.int .i64 p.l) (.int .i64 p.k) (.int .i64 p.z) (.int .i64 p.h) (.slice p.r.a p.r.n p.r.c) (.string p.r.s):=⟨f.at 0 rfl,f.at 1 rfl,f.at 2 rfl,f.at 3 rfl,f.at 4 rfl,f.at 5 rfl,f.at 6 rfl⟩;clear h f b S ht q;go_enter Tryz.func84,Tryz.ntmps84;go_wp2_with fail
 go_region_held3 (fun w'=>w'.cell? ⟨g,0,none⟩=some (.iface 200 (.pointer (some ⟨gb,0,none⟩)))/\w'.cell? ⟨w.heap.size,0,none⟩=some (.int .i64 p.o)/\w'.cell? ⟨w.heap.size,1,none⟩=some (.int .i64 p.l)/\w'.cell? ⟨w.heap.size,2,none⟩=some (.int .i64 p.k)/\w'.cell? ⟨w.heap.size,3,none⟩=some (.int .i64 p.z)/\w'.cell? ⟨w.heap.size,4,none⟩=some (.int .i64 p.h)/\w'.cell? ⟨w.heap.size,5,none⟩=some (.slice p.r.a p.r.n p.r.c)/\w'.cell? ⟨w.heap.size,6,none⟩=some (.string p.r.s)) (go_keep) (first
  |(go_at_call 86;refine(Aa K _ (Below.refl _ _).drew).mono ?_;rintro e w1 ⟨rfl,E⟩;obtain rfl:=E.symm;clear E)
  |(go_at_call 343;refine(Aa N _ (Below.refl _ _).drew).mono ?_;rintro e w2 ⟨rfl,v2,R,A,D,d,C⟩;have x:=(Aa O _ (Below.refl _ _).drew).bufs A d;have H:=Ab x;have L:=Ab D;have P:=Ab d;have I:=Ab C;obtain⟨e0, -, -⟩:=x.cells;have j:=((Aa T).below (Below.refl _ _).drew).tu d (Aa J);obtain⟨y0,y1,y2,y3,y4,y5,y6⟩:PkAt w2 w.heap.size (.int .i64 p.o) (.int .i64 p.l) (.int .i64 p.k) (.int .i64 p.z) (.int .i64 p.h) (.slice p.r.a p.r.n p.r.c) (.string p.r.s):=⟨j.at 0 rfl,j.at 1 rfl,j.at 2 rfl,j.at 3 rfl,j.at 4 rfl,j.at 5 rfl,j.at 6 rfl⟩;clear x D d C j A))
 go_wp2;go_ret;exact⟨rfl,v2,R,Aa H,Aa L,(XC (Aa P)).after (Ad (Aa y) (Below.refl _ _).drew),(Aa I).new (Aa y).size⟩
theorem aM{o l k z h:Int}{xs:List Nat}{n:Nat}(a:Ci o l k z h xs n):Ci o l k z 0 xs n:=
 ⟨⟨a.1.1,a.1.2.1,a.1.2.2.1,by decide,by decide⟩,a.2⟩
theorem kb{o l k z h:Int}{xs:List Nat}{s:ByteArray}(a:Ci o l k z h xs s.size):(st (BQ o l k z h xs (tx s))).size<=1048576:=by
 have b:=JH a.2.1;have c:s.size<=64:=by have:=a.2.2.2;have:=a.1.1.2.2;omega
 rw[Dw];unfold BQ;simp only[List.length_append,FT,Ed,C4,Jy,AU];omega
theorem Zc(o l k z h:Int)(xs:List Nat)(s:ByteArray):sumS (st (BQ o l k z h xs (tx s)))=Js (BQ o l k z h xs (tx s)):=by
 unfold sumS;rw[DE (Kz _ _ _ _ _ _ _ (Ck s))]
theorem QX(p:PKV)(w:World)(m:RowAt w p.r.a p.r.n p.r.xs):
  Calls Tryz.prog 124 #[p.val] w fun e w'=>e=.returned (.int .u32 ((Dq p.pd:Nat):Int))/\Below w.heap.size w w':=by
 obtain⟨o,l,k,z,h,⟨a,n,c,xs,s⟩⟩:=p;have u:=Ab (Bv w (.cells #[.int .i64 o,.int .i64 l,.int .i64 k,.int .i64 z,.int .i64 h,.slice a n c,.string s] 75));have x:=Ab (AN 75 w [.int .i64 o,.int .i64 l,.int .i64 k,.int .i64 z,.int .i64 h,.slice a n c,.string s]);have v:=Ab m;unfold PKV.val;cases g:BT (PKV.pd ⟨o,l,k,z,h,⟨a,n,c,xs,s⟩⟩)
 ·have i:=Ab (EV o l k z h a n c xs s _ (GQ m (.cells #[.int .i64 o,.int .i64 l,.int .i64 k,.int .i64 z,.int .i64 h,.slice a n c,.string s] 75)) 1 (Qn g))
  rw[ZH g];clear m g v x;go_enter Tryz.func124,Tryz.ntmps124;go_wp2_with fail;refine(Aa i).mono ?_;rintro e w1 ⟨rfl,b⟩;have B1:=Ab (Ad (Aa u) b);clear b i u;go_wp2;go_ret;exact⟨rfl,Aa B1⟩
 ·have C:Ci o l k z h xs s.size:=Gp.1 g
  have f:=aM C;have i:=Ab (EV o l k z h a n c xs s _ (GQ m (.cells #[.int .i64 o,.int .i64 l,.int .i64 k,.int .i64 z,.int .i64 h,.slice a n c,.string s] 75)) 0 (MJ g));have E:=Ab (fun w' (y:RowAt w' a n xs)=>WP o l k z 0 a n c xs s w' y f);have I:=Ab (fun w'=>VG (st (BQ o l k z 0 xs (tx s))) w' (kb f));have H:=Ab (show sumS (st (BQ o l k z 0 xs (tx s)))=Dq (PKV.pd ⟨o,l,k,z,h,⟨a,n,c,xs,s⟩⟩) from by rw[ZG g,Zc];rfl);generalize Dq (PKV.pd ⟨o,l,k,z,h,⟨a,n,c,xs,s⟩⟩)=X at*;generalize sumS (st (BQ o l k z 0 xs (tx s)))=Y at*;generalize st (BQ o l k z 0 xs (tx s))=T at*;clear m g C f;go_enter Tryz.func124,Tryz.ntmps124;go_wp2_with fail;refine(Aa i).mono ?_;rintro e w1 ⟨rfl,b⟩;have B1:=Ab (Ad (Aa u) b);have d:=(Aa x).below b;have K:=d.at 0 rfl;have L:=d.at 1 rfl;have N:=d.at 2 rfl;have O:=d.at 3 rfl;have P:=d.at 4 rfl;have Q:=d.at 5 rfl;have R:=d.at 6 rfl;have S:=d.frz 4;have A:=Ab (GX (Aa B1) (Be w1 w.heap.size 4 (.int .i64 0)) (Nat.le_refl _));have J:=Ab ((Aa v).below (Aa A));clear b i u x v B1 d
  go_wp2_with (first
   |(go_at_call 156;refine(Aa E _ (Aa J)).mono ?_;rintro e w3 ⟨rfl,j⟩;have D:=Ab (Ad (Aa A) j);clear j)
   |(go_at_call 157;refine(Aa I _).mono ?_;rintro e V ⟨rfl,q⟩;obtain rfl:=q.symm;clear q)
   |fail)
  go_ret;exact⟨CC (by rw[Aa H]),Aa D⟩
theorem ZZ{w:World}{b n nx:Nat}{D:DataW Unit}{d:List (Nat×Nat)}(h:A1 w b n D)(e:Et D nx d){x:Nat}(g:x<4294967296):
  ∃c:Int,(Instr.lookup 191 (.map (some b)) (.int .u32 (x:Int)) true).run Tryz.prog w=.ok (.tuple #[.int .i64 c,.bool (DF (d.map Prod.fst) x)]) w:=by
 obtain⟨v,ps,a,f⟩:=World.ownsMap.look_ok h J8 Tryz.underlying191 (cN w) (zd:=.lit (.int .i64 0)) (zp:=[]) (plainElem_int Tryz.underlying3 (by decide)) (Nn g);obtain⟨c,rfl,_⟩:=plainElem_int_inv Tryz.underlying3 f;exact⟨c,by rw[a,e.has]⟩
theorem IE(F:Nat->Prop)(w:World):Tu F w w.drew:=⟨rfl,rfl,rfl,Nat.le_refl _,fun _ _ _=>rfl⟩
theorem mE(n:Int)(w:World):
  Calls Tryz.prog 71 #[.int .i64 n] w fun e w'=> ∃g b,e=.returned (.pointer (some ⟨g,0,none⟩))/\w.heap.size<=g/\w.heap.size<=b/\AP w' g b (capN n) 0 []/\Below w.heap.size w w':=by
 have d:=MV n;have f:=MN n;have h:= @run_makeMap Tryz.prog;have c:=JQ n;generalize capN n=m at*;go_enter Tryz.func71,Tryz.ntmps71;go_wp2;go_ret
 have a:Below w.heap.size w ((w.alloc (.map #[] 0)).alloc (.cells #[.int .i64 (m:Int),.map (some w.heap.size),.int .i64 0] 193)):=
  ((Below.refl _ _).alloc (Nat.le_refl _) _).trans (((Below.refl _ _).alloc (Nat.le_refl _) _).mono (by simp))
 refine⟨_,w.heap.size,rfl,by simp,Nat.le_refl _,⟨⟨0,[],.map [],Nat.le_refl _,?_,?_,Et.empty,rfl⟩,Nat.zero_le _,c⟩,a⟩
 ·have:=AN 193 (w.alloc (.map #[] 0)) [.int .i64 (m:Int),.map (some w.heap.size),.int .i64 0]
  simpa using this
 ·exact World.ownsMap.alloc (World.ownsMap_made w Tryz.prog 112 (plainElem Tryz.prog 3)) _
theorem mc(g b m N:Nat)(L:List Nat)(p:PKV)(w:World)(h:AP w g b m N L)(J:RowAt w p.r.a p.r.n p.r.xs):
  Calls Tryz.prog 122 #[.pointer (some ⟨g,0,none⟩),p.val] w fun e w'=>e=.returned (.bool (DF L (Dq p.pd)))/\Below w.heap.size w w':=by
 have i:Below w.heap.size w (w.alloc (.cells #[.int .i64 p.o,.int .i64 p.l,.int .i64 p.k,.int .i64 p.z,.int .i64 p.h,.slice p.r.a p.r.n p.r.c,.string p.r.s] 75)):=Bv w _;have f:=AN 75 w [.int .i64 p.o,.int .i64 p.l,.int .i64 p.k,.int .i64 p.z,.int .i64 p.h,.slice p.r.a p.r.n p.r.c,.string p.r.s];have u:=J.below i;obtain⟨nx,T,D,V,y,I,H,E⟩:=(h.below i).it;unfold PKV.val;generalize hW:w.alloc (.cells #[.int .i64 p.o,.int .i64 p.l,.int .i64 p.k,.int .i64 p.z,.int .i64 p.h,.slice p.r.a p.r.n p.r.c,.string p.r.s] 75)=W at*;have P:=y.at 1 rfl;have Y:=f.at 0 rfl;have Z:=f.at 1 rfl;have q2:=f.at 2 rfl;have q3:=f.at 3 rfl;have q4:=f.at 4 rfl;have q5:=f.at 5 rfl;have q6:=f.at 6 rfl;have C:=Ab (QX p W.drew u);have A:=Ab (fun w1 (v:Below W.drew.heap.size W.drew w1)=>ZZ (A1.tu (F:=fun _=>False) I (Tu.of_below (show Below W.heap.size W w1 from(Below.refl _ _).drew.trans v)) id) H (QW p.pd));have O:=Ab (fun w1 (v:Below W.drew.heap.size W.drew w1)=>show _/\_ from⟨y.below (show Below W.heap.size W w1 from(Below.refl _ _).drew.trans v),f.below (show Below W.heap.size W w1 from(Below.refl _ _).drew.trans v)⟩);have K:=Ab i;rw[<-E]at A;generalize Dq p.pd=X at*;generalize DF L X=R at*;unfold PKV.val at C;clear J u y I H E i f h;go_enter Tryz.func122,Tryz.ntmps122;go_wp2_with fail
 go_region_held (fun w'=>w'.cell? ⟨g,1,none⟩=some (.map (some b))/\w'.cell? ⟨w.heap.size,0,none⟩=some (.int .i64 p.o)/\w'.cell? ⟨w.heap.size,1,none⟩=some (.int .i64 p.l)/\w'.cell? ⟨w.heap.size,2,none⟩=some (.int .i64 p.k)/\w'.cell? ⟨w.heap.size,3,none⟩=some (.int .i64 p.z)/\w'.cell? ⟨w.heap.size,4,none⟩=some (.int .i64 p.h)/\w'.cell? ⟨w.heap.size,5,none⟩=some (.slice p.r.a p.r.n p.r.c)/\w'.cell? ⟨w.heap.size,6,none⟩=some (.string p.r.s)) (go_keep) (first
  |(go_at_call 124;refine(Aa C).mono ?_;rintro e w1 ⟨rfl,j⟩;obtain⟨S,Q⟩:=Aa A w1 j;obtain⟨q,d⟩:=Aa O w1 j;have y1:=q.at 1 rfl;have z0:=d.at 0 rfl;have z1:=d.at 1 rfl;have z2:=d.at 2 rfl;have z3:=d.at 3 rfl;have z4:=d.at 4 rfl;have z5:=d.at 5 rfl;have z6:=d.at 6 rfl;have x:=Ab (show Below w.heap.size w w1 from Ad (Aa K) ((Below.refl _ _).drew.trans j));clear j q d))
 go_wp2;go_ret;exact⟨rfl,Aa x⟩
variable {B:Nat}{p:Bq}{s:A0}{w w':World}
theorem TT:(Tryz.prog.info? 110).map (·.size)=some 8:=by kernel_rfl
theorem eh{tmps:Array Value}{W:World}{g:Nat}{cs:List Value}(c:tmps.getD 4 undef=.pointer (some ⟨g,0,none⟩))(e:BkA 110 W g cs)(d:cs.length=8):
  (results Tryz.f38 tmps).run Tryz.prog W=.ok (.agg cs.toArray) W:=by
 have b:=e.load Tryz.underlying110 rfl TT d;have a:tmps[4]?.getD undef=.pointer (some ⟨g,0,none⟩):=by simpa using c
 simp[results,Tryz.results38,asAddr,a,b]
theorem pR(a:Option Addr)(n c:Nat)(xs:List Int)(w:World)(h:IntzAt w a n xs)(i:n<=1048576)(f:a=none->n=0/\c=0):
  Calls Tryz.prog 68 #[.slice a n c] w fun e w'=> ∃v,e=.returned v/\Am w' w.heap.size v xs/\Below w.heap.size w w':=by
 cases a with
 |none=>
  obtain⟨rfl,rfl⟩:=f rfl;obtain rfl:xs=[]:=List.eq_nil_of_length_eq_zero h.1;exact(gn w).mono fun e w' ⟨g,b⟩=>⟨_,g,by rw[b];exact World.ownsRow_nil _ _ _ _,by rw[b];exact Below.refl _ _⟩
 |some d=>exact SF d n c xs w h i
theorem jL(f:A4)(i:Nat)(d:Eu)(w:World)(h:BL w f.a f.n f.ds)(D:i<f.n)(I:f.ds.getD i .dflt=d)(T:d.n<=1048576)(P:d.a=none->d.n=0/\d.c=0):
  Calls Tryz.prog 38 #[f.val,.int .i64 (i:Int)] w fun e w'=> ∃tv,e=.returned (.agg #[.int .i64 d.kd,.int .i64 f.buffer,.int .i64 f.queue,.int .i64 f.cache,.int .i64 f.timeout,.int .i64 f.target,.float .f64 f.rate,tv])/\Am w' w.heap.size tv d.tos/\Below w.heap.size w w':=by
 obtain⟨b,off,Q,z⟩:=h.at D;have c0:=(z i D).1;have c1:=(z i D).2;have L:=h.2.1 i D;rw[I]at c0 c1 L;have N:=Ab (fun wx (hb:Below w.heap.size w wx)=>pR d.a d.n d.c d.tos wx (L.below hb) T P);have y:b<w.heap.size:=World.block_lt_of_cell? w _ c0;clear z L P T h;obtain⟨a,n,c,ds,obj,size,spread,buffer,queue,cache,rate,timeout,target⟩:=f;obtain⟨kd,a',n',c',tos⟩:=d;simp only at Q D c0 c1 N I⊢;subst Q;clear I;have V:(i:Int)<(n:Int):=by omega
 unfold A4.val
 obtain⟨W,hW,X,Y,B1⟩:∃W,W=(w.alloc (.cells #[.slice (some ⟨b,off,none⟩) n c,.string obj,.int .i64 size,.int .i64 spread,.int .i64 buffer,.int .i64 queue,.int .i64 cache,.float .f64 rate,.int .i64 timeout,.int .i64 target] 25)).alloc (.cells #[.int .i64 0,.int .i64 0,.int .i64 0,.int .i64 0,.int .i64 0,.int .i64 0,.float .f64 0,.slice none 0 0] 110)/\
   BkA 110 W (w.heap.size+1) [.int .i64 0,.int .i64 0,.int .i64 0,.int .i64 0,.int .i64 0,.int .i64 0,.float .f64 0,.slice none 0 0]/\BkA 25 W w.heap.size [.slice (some ⟨b,off,none⟩) n c,.string obj,.int .i64 size,.int .i64 spread,.int .i64 buffer,.int .i64 queue,.int .i64 cache,.float .f64 rate,.int .i64 timeout,.int .i64 target]/\Below w.heap.size w W:=by
  refine⟨_,rfl,?_,(AN 25 w [_,_,_,_,_,_,_,_,_,_]).below (Ax _ _),Ad (Ax _ _) (Ax _ _)⟩;have:=AN 110 (w.alloc (.cells #[.slice (some ⟨b,off,none⟩) n c,.string obj,.int .i64 size,.int .i64 spread,.int .i64 buffer,.int .i64 queue,.int .i64 cache,.float .f64 rate,.int .i64 timeout,.int .i64 target] 25)) [.int .i64 0,.int .i64 0,.int .i64 0,.int .i64 0,.int .i64 0,.int .i64 0,.float .f64 0,.slice none 0 0];rwa[Bc]at this
 have Z:=Ab Y;have O:=Ab X;have E:=Ab B1;replace c0:=(B1.cell y).trans c0;replace c1:=(B1.cell y).trans c1;have y0:=Y.at 0 rfl;have y4:=Y.at 4 rfl;have y5:=Y.at 5 rfl;have y6:=Y.at 6 rfl;have y7:=Y.at 7 rfl;have y8:=Y.at 8 rfl;have y9:=Y.at 9 rfl;have aa:=Y.lt;have u:b<W.heap.size:=Nat.lt_of_lt_of_le y B1.size;have l:w.heap.size+1≠w.heap.size:=by omega
 have ab:w.heap.size<w.heap.size+1:=by omega
 have x:w.heap.size+1≠b:=by omega
 clear X Y B1;go_enter Tryz.func38,Tryz.ntmps38;go_wp2_with fail;rw[<-hW];clear hW;generalize w.heap.size+1=q at*;refine wp_region_held_drew (S:=fun w'=>w'.cell? ⟨w.heap.size,0,none⟩=some (.slice (some ⟨b,off,none⟩) n c)/\w'.cell? ⟨w.heap.size,4,none⟩=some (.int .i64 buffer)/\w'.cell? ⟨w.heap.size,5,none⟩=some (.int .i64 queue)/\w'.cell? ⟨w.heap.size,6,none⟩=some (.int .i64 cache)/\w'.cell? ⟨w.heap.size,7,none⟩=some (.float .f64 rate)/\w'.cell? ⟨w.heap.size,8,none⟩=some (.int .i64 timeout)/\w'.cell? ⟨w.heap.size,9,none⟩=some (.int .i64 target)/\w'.cell? ⟨b,off+i*2,none⟩=some (.int .i64 kd)/\w'.cell? ⟨b,off+i*2+1,none⟩=some (.slice a' n' c')) (by kernel_rfl) ?_ (fun r=>?_)
 ·go_keep
 refine tkHh (i:=0) (v:=?_) rfl (fun _ _ _ h=>h) (Or.inl ⟨by rfl,?f0⟩) (by assumption) ?_
 case f0=>(intro w g;(try dsimp only at g);go_simp;try with_reducible rfl)
 refine tkHh (i:=1) (v:=?_) rfl (fun _ _ _ h=>h) (Or.inl ⟨by rfl,?f1⟩) (by assumption) ?_
 case f1=>(intro w g;(try dsimp only at g);go_simp;try with_reducible rfl)
 refine tkHh (i:=2) (v:=?_) rfl (fun _ _ _ h=>h) (Or.inl ⟨by rfl,?f2⟩) (by assumption) ?_
 case f2=>(intro w g;(try dsimp only at g);go_simp;try with_reducible rfl)
 refine tkHh (i:=3) (v:=?_) rfl (fun _ _ _ h=>h) (Or.inl ⟨by rfl,?f3⟩) (by assumption) ?_
 case f3=>(intro w g;(try dsimp only at g);go_simp;try with_reducible rfl)
 refine tkHh (i:=4) (v:=?_) rfl (fun _ _ _ h=>h) (Or.inl ⟨by rfl,?f4⟩) (by assumption) ?_
 case f4=>(intro w g;(try dsimp only at g);go_simp;try with_reducible rfl)
 refine tkHh (i:=5) (v:=?_) rfl (fun _ _ _ h=>h) (Or.inl ⟨by rfl,?f5⟩) (by assumption) ?_
 case f5=>(intro w g;(try dsimp only at g);go_simp;try with_reducible rfl)
 refine tkHh (i:=6) (v:=?_) rfl (fun _ _ _ h=>h) (Or.inl ⟨by rfl,?f6⟩) (by assumption) ?_
 case f6=>(intro w g;(try dsimp only at g);go_simp;try with_reducible rfl)
 refine tkHh (i:=7) (v:=?_) rfl (fun _ _ _ h=>h) (Or.inl ⟨by rfl,?f7⟩) (by assumption) ?_
 case f7=>(intro w g;(try dsimp only at g);go_simp;try with_reducible rfl)
 refine tkHh (i:=8) (v:=?_) rfl (fun _ _ _ h=>h) (Or.inl ⟨by rfl,?f8⟩) (by assumption) ?_
 case f8=>(intro w g;(try dsimp only at g);go_simp;try with_reducible rfl)
 refine tkHh (i:=9) (v:=?_) rfl (fun _ _ _ h=>h) (Or.inl ⟨by rfl,?f9⟩) (by assumption) ?_
 case f9=>(intro w g;(try dsimp only at g);go_simp;try with_reducible rfl)
 refine tkHh (i:=10) (v:=?_) rfl (fun _ _ _ h=>h) (Or.inl ⟨by rfl,?f10⟩) (by assumption) ?_
 case f10=>(intro w g;(try dsimp only at g);go_simp;try with_reducible rfl)
 refine tkHh (i:=11) (v:=?_) rfl (fun _ _ _ h=>h) (Or.inl ⟨by rfl,?f11⟩) (by assumption) ?_
 case f11=>(intro w g;(try dsimp only at g);go_simp;try with_reducible rfl)
 refine tkHh (i:=12) (v:=?_) rfl (fun _ _ _ h=>h) (Or.inl ⟨by rfl,?f12⟩) (by assumption) ?_
 case f12=>(intro w g;(try dsimp only at g);go_simp;try with_reducible rfl)
 refine tkHh (i:=13) (v:=?_) rfl (fun _ _ _ h=>h) (Or.inl ⟨by rfl,?f13⟩) (by assumption) ?_
 case f13=>(intro w g;(try dsimp only at g);go_simp;try with_reducible rfl)
 refine tkHh (i:=14) (v:=?_) rfl (fun _ _ _ h=>h) (Or.inl ⟨by rfl,?f14⟩) (by assumption) ?_
 case f14=>(intro w g;(try dsimp only at g);go_simp;try with_reducible rfl)
 refine tkHh (i:=15) (v:=?_) rfl (fun _ _ _ h=>h) (Or.inl ⟨by rfl,?f15⟩) (by assumption) ?_
 case f15=>(intro w g;(try dsimp only at g);go_simp;try with_reducible rfl)
 refine tkHh (i:=16) (v:=?_) rfl (fun _ _ _ h=>h) (Or.inl ⟨by rfl,?f16⟩) (by assumption) ?_
 case f16=>(intro w g;(try dsimp only at g);go_simp;try with_reducible rfl)
 refine tkHh (i:=17) (v:=?_) rfl (fun _ _ _ h=>h) (Or.inl ⟨by rfl,?f17⟩) (by assumption) ?_
 case f17=>(intro w g;(try dsimp only at g);go_simp;try with_reducible rfl)
 refine tkHh (i:=18) (v:=?_) rfl (fun _ _ _ h=>h) (Or.inl ⟨by rfl,?f18⟩) (by assumption) ?_
 case f18=>(intro w g;(try dsimp only at g);go_simp;try with_reducible rfl)
 refine tkHh (i:=19) (v:=?_) rfl (fun _ _ _ h=>h) (Or.inl ⟨by rfl,?f19⟩) (by assumption) ?_
 case f19=>(intro w g;(try dsimp only at g);go_simp;try with_reducible rfl)
 refine tkHh (i:=20) (v:=?_) rfl (fun _ _ _ h=>h) (Or.inl ⟨by rfl,?f20⟩) (by assumption) ?_
 case f20=>(intro w g;(try dsimp only at g);go_simp;try with_reducible rfl)
 refine tkHh (i:=21) (v:=?_) rfl (fun _ _ _ h=>h) (Or.inl ⟨by rfl,?f21⟩) (by assumption) ?_
 case f21=>(intro w g;(try dsimp only at g);go_simp;try with_reducible rfl)
 refine tkHh (i:=22) (v:=?_) rfl (fun _ _ _ h=>h) (Or.inl ⟨by rfl,?f22⟩) (by assumption) ?_
 case f22=>(intro w g;(try dsimp only at g);go_simp;try with_reducible rfl)
 refine tkHh (i:=23) (v:=?_) rfl (fun _ _ _ h=>h) (Or.inl ⟨by rfl,?f23⟩) (by assumption) ?_
 case f23=>(intro w g;(try dsimp only at g);go_simp;try with_reducible rfl)
 refine wpAnyH_ready (rs:=[24]) (by kernel_rfl) (by simp) ?_;refine AllReadyH.cons rfl (fun K C=>?_) AllReadyH.nil;go_simp;refine(Aa N _ ((Aa E).trans (Below.refl _ _).drew)).mono ?_;rintro e w5 ⟨v,rfl,A,H⟩;obtain⟨av,cv,rfl, -⟩:=A.ints;have k:Below W.heap.size W w5:=(Below.refl _ _).drew.trans H;have o:=(Aa Z).below k;have X5:=(Aa O).below k;refine C.out _ _ ?_ (fun r=>?_)
 ·exact⟨o.at 0 rfl,o.at 4 rfl,o.at 5 rfl,o.at 6 rfl,o.at 7 rfl,o.at 8 rfl,o.at 9 rfl,(k.cell (p:=⟨b,off+i*2,none⟩) u).trans c0,(k.cell (p:=⟨b,off+i*2+1,none⟩) u).trans c1⟩
 clear C K;refine tkHh (i:=25) (v:=?_) rfl (fun _ _ _ h=>h) (Or.inl ⟨by rfl,?f25⟩) (by assumption) ?_
 case f25=>(intro w g;(try dsimp only at g);go_simp;try with_reducible rfl)
 refine wpAnyH_ready (rs:=[26]) (by kernel_rfl) (by simp) ?_;refine AllReadyH.cons rfl (fun K C=>?_) AllReadyH.nil;refine Ob rfl 110 110 TT (.tmp 4) (.tmp 30) rfl q 0 _ [.int .i64 kd,.int .i64 buffer,.int .i64 queue,.int .i64 cache,.int .i64 timeout,.int .i64 target,.float .f64 rate,.slice av tos.length cv] rfl rfl X5 rfl (show 0+8<=8 by decide) (by simp[Value.oneCell']) fun w6 J m=>?_;refine C.out _ _ ?_ (fun r=>?_)
 ·exact⟨m.cell (o.at 0 rfl) (Ne.symm l),m.cell (o.at 4 rfl) (Ne.symm l),m.cell (o.at 5 rfl) (Ne.symm l),m.cell (o.at 6 rfl) (Ne.symm l),m.cell (o.at 7 rfl) (Ne.symm l),m.cell (o.at 8 rfl) (Ne.symm l),m.cell (o.at 9 rfl) (Ne.symm l),m.cell ((k.cell (p:=⟨b,off+i*2,none⟩) u).trans c0) (Ne.symm x),m.cell ((k.cell (p:=⟨b,off+i*2+1,none⟩) u).trans c1) (Ne.symm x)⟩
 clear C K;refine wpAnyH_done (by kernel_rfl) ?_ _;go_wp2;have ac:q<W.heap.size:=(Aa O).lt;refine bodyPost_ret (eh rfl J rfl) rfl ⟨_,rfl,?_,?_⟩
 ·have:=CO A m fun j R e=>by
   have:=(EW A R).1;have:W.heap.size<=j:=this;omega
  exact Am.mono (show Am w6 W.heap.size _ _ from this) (Aa E).size
 ·exact(Ad (Aa E) k).trans (m.below (Ad (Aa E) k).size fun j R e=>by omega)
theorem Ag.push{w1 w2:World}(h:Ag w B p s)(x:Below w.heap.size w w1){l:AJ}(D:l.At w1 p.M p.queue)(A:∀j,l.F j->w.heap.size<=j)(H:B<=w.heap.size){v:Value}
  (K:Bm w2 B v (s.ls++[l])) (I:w1.grownBy w2 s.lv.ownBlock):Ag w2 B p {s with lv:=v,ls:=s.ls++[l]}:=by
 have g:=h.below x;have ht:Tu (fun j=>s.lv.ownBlock=some j) w1 w2:=Tu.of_gb I fun j _ e=>e;have n:∀j,s.lv.ownBlock=some j->kdB w1 j=150+2:=fun j e=>Bu g.lks e
 have q:∀i,i<s.ls.length->∀j,(s.ls.getD i .dflt).F j->j<w.heap.size:=fun i o j a=>by
  have:=Au.lt (h.each i o).1;rcases a with rfl|rfl|rfl|rfl<;>omega
 have c:∀i,i<s.ls.length->(s.ls++[l]).getD i .dflt=s.ls.getD i .dflt:=fun i o=>by simp[List.getD_eq_getElem?_getD,List.getElem?_append_left o]
 have b:(s.ls++[l]).getD s.ls.length .dflt=l:=by simp[List.getD_eq_getElem?_getD]
 refine⟨K,?_,?_,g.mem.tu ht (fun e=>by have:=g.mem.blk.kd;have:=n _ e;omega),h.memlo,g.ca.tu ht (fun e=>by have:=g.ca.kd _ (.inl rfl);have:=n _ e;omega) (fun e=>by have:=g.ca.kd _ (.inr rfl);have:=n _ e;omega),h.calo,
  fun r E=>(g.rl r E).tu ht (fun j a e=>by have:=(g.rl r E).kd j a;have:=n _ e;omega) fun j u y e=>(by have:=Ej y;have:=n _ e;omega),
  fun d C=>(g.dc d C).tu ht (fun j a e=>by have:=(g.dc d C).kd j a;have:=n _ e;omega) fun j u y e=>(by have:=Ej y;have:=n _ e;omega)⟩
 ·intro i o
  rw[List.length_append,List.length_singleton]at o;by_cases e:i<s.ls.length
  ·rw[c i e]
   exact⟨(g.each i e).1.tu ht fun j a m=>by have:=(g.each i e).1.kd j a;have:=n _ m;omega,(h.each i e).2⟩
  ·obtain rfl:i=s.ls.length:=by omega
   rw[b];exact⟨D.tu ht fun j a m=>by have:=Au.kd D j a;have:=n _ m;omega,fun j a=>Nat.le_trans H (A j a)⟩
 ·intro i k o J z j a f
  rw[List.length_append,List.length_singleton]at o J;by_cases e:i<s.ls.length
  ·rw[c i e]at a
   by_cases m:k<s.ls.length
   ·rw[c k m]at f
    exact h.apart i k e m z j a f
   ·obtain rfl:k=s.ls.length:=by omega
    rw[b]at f;have:=q i e j a;have:=A j f;omega
  ·obtain rfl:i=s.ls.length:=by omega
   rw[b]at a;have m:k<s.ls.length:=by omega
   rw[c k m]at f;have:=q k m j f;have:=A j a;omega
theorem Ag.addR(h:Ag w B p s)(b:Below w.heap.size w w')(r:Gc)(c:Aq w' r.g r.gb B (capN p.buffer) (Gs p.target) r.i r.v r.ps):Ag w' B p {s with rl:=some r}:=by
 have a:=h.below b;exact⟨a.lks,a.each,a.apart,a.mem,a.memlo,a.ca,a.calo,fun x d=>(by cases d;exact c),a.dc⟩
theorem Ag.addD(h:Ag w B p s)(b:Below w.heap.size w w')(d:Fh)(c:An w' d.g B p.buffer d.s d.gs d.v d.rs):Ag w' B p {s with dc:=some d}:=by
 have a:=h.below b;exact⟨a.lks,a.each,a.apart,a.mem,a.memlo,a.ca,a.calo,a.rl,fun x e=>(by cases e;exact c)⟩
theorem IZ:(Tryz.prog.info? 120).map (·.size)=some 5:=by kernel_rfl
theorem NG{tmps:Array Value}{W:World}{g:Nat}{cs:List Value}(c:tmps.getD 2 undef=.pointer (some ⟨g,0,none⟩))(e:BkA 120 W g cs)(d:cs.length=5):
  (results Tryz.f40 tmps).run Tryz.prog W=.ok (.agg cs.toArray) W:=by
 have b:=e.load Tryz.underlying120 rfl IZ d;have a:tmps[2]?.getD undef=.pointer (some ⟨g,0,none⟩):=by simpa using c
 simp[results,Tryz.results40,asAddr,a,b]
def Qg(p:Bq)(s:A0):Prop:=(∀i,i<s.ls.length->(s.ls.getD i .dflt).lv=1000*By p.queue 1 256/\(s.ls.getD i .dflt).L=[]/\(s.ls.getD i .dflt).lo=0)/\s.Z=List.replicate 16 0/\s.N=0/\s.P=[]
def Hw(p:Bq)(s:A0):Prop:=Qg p s/\((p.kd=2/\s.dc=none/\∃r,s.rl=some r/\r.i=0/\r.ps=[])\/(p.kd=3/\s.rl=none/\∃d,s.dc=some d/\d.s=C9/\d.rs=[])\/(p.kd≠2/\p.kd≠3/\s.rl=none/\s.dc=none))
structure GE(w wr:World)(q:Nat)(p:Bq)(s:A0):Prop where
 box:BkA 110 wr w.heap.size (Ly p)
 res:BkA 120 wr (w.heap.size+1) [.slice none 0 0,.pointer none,.pointer none,.pointer none,.pointer none]
 blk:BkA 120 wr q (Fb s)
 qlo:w.heap.size+1<q
 here:Ag wr w.heap.size p s
 low:Below w.heap.size w wr
 fr:Qg p s
 no:s.rl=none/\s.dc=none
theorem GE.tu{wr:World}{q:Nat}{a:A0}(h:GE w wr q p s){F:Nat->Prop}(ht:Tu F wr w')(b:∀j,F j->j=q\/sttF s j)(d:BkA 120 w' q (Fb a))(i:Ag w' w.heap.size p a)(f:Qg p a)(g:a.rl=none/\a.dc=none):GE w w' q p a:=by
 have c:=h.here.kd;have kd:=h.qlo;refine⟨h.box.tu ht fun e=>?_,h.res.tu ht fun e=>?_,d,h.qlo,i,h.low.trans (ht.below h.low.size fun j k e=>?_),f,g⟩
 ·rcases b _ e with e|e
  ·omega
  ·have:=c _ e;have:=h.box.kd;omega
 ·rcases b _ e with e|e
  ·omega
  ·have:=c _ e;have:=h.res.kd;omega
 ·rcases b _ e with e|e
  ·omega
  ·have:=h.here.low _ e;omega
theorem GE.push{wr w1 w2 w3:World}{q:Nat}(h:GE w wr q p s)(b:Below wr.heap.size wr w1){l:AJ}(A:l.At w1 p.M p.queue)(C:∀j,l.F j->wr.heap.size<=j)(y:l.lv=1000*By p.queue 1 256/\l.L=[]/\l.lo=0){v:Value}
  (a:Below w1.heap.size w1 w2) (D:Bm w3 w.heap.size v (s.ls++[l])) (g:w2.grownBy w3 s.lv.ownBlock):GE w (w3.setCell ⟨q,0,none⟩ v) q p {s with lv:=v,ls:=s.ls++[l]}:=by
 have u:w.heap.size<=wr.heap.size:=h.low.size;have k:l.At w2 p.M p.queue:=Au.below A a;have n:=h.here.push (Ad b a) k C u D g;have c:=h.blk.below (Ad b a);have f:=(h.here.below (Ad b a)).lks;have m:some q≠s.lv.ownBlock:=fun e=>by have:=Bu f e.symm;have:=c.kd;omega
 have d:=c.kept g m;have r:=Be w3 q 0 v;have H:=n.kd;have E:=d.kd
 have x:Tu (fun j=>j=q\/sttF s j) wr (w3.setCell ⟨q,0,none⟩ v):=
  ((Tu.of_below (F:=fun j=>j=q\/sttF s j) (Ad b a)).trans (Tu.of_gb (F:=fun j=>s.lv.ownBlock=some j) g fun j _ e=>e) fun j _ e=>.inr (.inl e)).trans r fun j _ e=>.inl e
 refine h.tu x (fun j e=>e) (d.set 0 v) (n.tu r (fun j o e=>by have:=H j o;subst e;omega) fun j o e=>by subst e;omega) ⟨fun i z=>?_,h.fr.2⟩ h.no;rw[List.length_append,List.length_singleton]at z;by_cases e:i<s.ls.length
 ·rw[show(s.ls++[l]).getD i .dflt=s.ls.getD i .dflt by simp[List.getD_eq_getElem?_getD,List.getElem?_append_left e]]
  exact h.fr.1 i e
 ·obtain rfl:i=s.ls.length:=by omega
  rw[show(s.ls++[l]).getD s.ls.length .dflt=l by simp[List.getD_eq_getElem?_getD]];exact y
end Go.Proofs.YtfpmnekaockodaaGreatDoor
