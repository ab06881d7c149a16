/- Laws for the proof. -/
import Derived.Test.YtfpmnekaockodaaGreatDoorU35
set_option linter.all false
open Go.Proofs.Tryz
open Go.Value renaming int->U,string->β,slice->γ,pointer->ε,bool->ξ,tuple->ο
open Go.IntKind renaming i64->α
open Option renaming some->δ,none->η
open Go.Proofs.Tryz renaming prog->ζ
open Option.some renaming inj->θ
open Nat renaming le_refl->ι
open Go renaming World->κ,Value->ν
open Go.Obj renaming cells->μ
namespace Go.Proofs.YtfpmnekaockodaaGreatDoor
open Go.RowKit Go.Sort
set_option maxRecDepth 4000
set_option maxHeartbeats 8000000
variable {cs:List ν}{g:Nat}{T:TypeId}{w:κ}
def N2{tmps:Array ν}{W:κ}{b:Bool}{u0 u1 u2 u3 u4 u5 u6:ν}(l:tmps.getD 4 undef=.pointer (δ ⟨g,0,η⟩))(m:tmps.getD 5 undef=ξ b)(n:AS W g u0 u1 u2 u3 u4 u5 u6):
  (results Tryz.f143 tmps).run ζ W=.ok (ο #[.agg #[u0,u1,u2,u3,u4,u5,u6],ξ b]) W/\(results Tryz.f144 tmps).run ζ W=.ok (ο #[.agg #[u0,u1,u2,u3,u4,u5,u6],ξ b]) W/\(results Tryz.f145 tmps).run ζ W=.ok (ο #[.agg #[u0,u1,u2,u3,u4,u5,u6],ξ b]) W:=by
 obtain⟨d,e,f,h,i,j,k⟩:=n.at;have a:tmps[4]?.getD undef=.pointer (δ ⟨g,0,η⟩):=by simpa using l
 have c:tmps[5]?.getD undef=ξ b:=by simpa using m
 refine⟨?_,?_,?_⟩
 ·simp[results,Tryz.results143,go_sem,a,c,d,e,f,h,i,j,k]
 ·simp[results,Tryz.results144,go_sem,a,c,d,e,f,h,i,j,k]
 ·simp[results,Tryz.results145,go_sem,a,c,d,e,f,h,i,j,k]
def IW(k:Int):FuncId:=if k=1 then 143 else if k=2 then 144 else 145
def aS(k:Int)(w:κ):Calls ζ 109 #[U α k] w fun e w'=>e=.returned (.func (.func (IW k)) #[] #[])/\w'=w:=by
 unfold IW;by_cases a:k=1
 ·subst a
  go_enter func109,ntmps109;go_wp2;go_ret;exact⟨rfl,rfl⟩
 ·by_cases b:k=2
  ·subst b
   go_enter func109,ntmps109;go_wp2;go_ret;exact⟨rfl,rfl⟩
  ·rw[if_neg a,if_neg b]
   go_enter func109,ntmps109;go_wp2;go_ret;exact⟨rfl,rfl⟩
def qU(a b:ν)(w:κ):Calls ζ 145 #[a,b] w fun e w'=>e=.returned (ο #[EM.val,ξ false])/\Below w.heap.size w w':=by
 have X:=Ab (CC w (U α 0) (U α 0) (U α 0) (U α 0) (U α 0) (γ none 0 0) (β ⟨#[]⟩));go_enter func145,ntmps145;go_wp2;exact bodyPost_ret (N2 rfl rfl (Aa X)).2.2 rfl ⟨rfl,As _ _⟩
def Ki(o:Nat)(r:IL)(L:List Nat):PD:=⟨(o:Int),r.l,(r.ss.length:Int),r.z,0,De r.ss.length r.k L 0,st (Bl r.ss (De r.ss.length r.k L 0) r.ss.length)⟩
def kx(g h p o:Nat)(r:IL)(L:List Nat)(w:κ)(v:w.cell? ⟨g,10,η⟩=δ (.pointer (δ ⟨r.g,0,η⟩)))(A:Bj w r.g (o:Int) r.l r.z r.k r.ss)(E:1<=r.ss.length)(H:r.ss.length<=128)(I:r.k<=r.ss.length)(j:shorts r.ss)(ht:DG w)(u:AF w h p L 0)(J:p<=w.heap.size):
  Calls ζ 143 #[.pointer (δ ⟨g,0,η⟩),.pointer (δ ⟨h,0,η⟩)] w fun e w'=> ∃q:PKV,e=.returned (ο #[q.val,ξ true])/\q.pd=Ki o r L/\RowAt w' q.r.a q.r.n q.r.xs/\w.grownBy w' (δ h):=by
 have d:=As w (μ #[U α 0,U α 0,U α 0,U α 0,U α 0,γ none 0 0,β ⟨#[]⟩] 75);have X:=Ab (CC w (U α 0) (U α 0) (U α 0) (U α 0) (U α 0) (γ none 0 0) (β ⟨#[]⟩));have C:=Ab (od r.g h p (o:Int) r.l r.z r.k r.ss.length r.ss L 0 _ (A.below d) rfl E H I j (ht.below d) (u.below (d.mono J)) (by rw[A7];omega) (by decide));have K:=u.lt;have N:=(d.cell (World.block_lt_of_cell? w _ v)).trans v;clear A j ht u v;unfold Ki;generalize st (Bl r.ss (De r.ss.length r.k L 0) r.ss.length)=D at*;generalize De r.ss.length r.k L 0=V at*;generalize r.ss.length=k at*;generalize sizeOfK (k:Int)=m at*;have B:=Ab d;clear d;go_enter func143,ntmps143
 go_wp2_with (first
  |(go_at_call 167;refine(Aa C).mono ?_;rintro e w1 ⟨y,c1,rfl,i, -,c⟩;have b:=(Aa X).kept c (fun e=>by have:=θ e;omega);obtain⟨O,P,Q,R,S,W,Y⟩:=b.at;have f0:=b.frz 0;have f1:=b.frz 1;have f2:=b.frz 2;have f3:=b.frz 3;have f4:=b.frz 4;have f5:=b.frz 5;have f6:=b.frz 6;have x:=Ab b;have f:=Ab i;have s:=Ab c;clear b i c)
  |fail)
 refine bodyPost_ret (N2 rfl rfl ((Aa x).sets (U α (o:Int)) (U α r.l) (U α (k:Int)) (U α r.z) (U α 0) (γ y m c1) (β D))).1 rfl ⟨⟨(o:Int),r.l,(k:Int),r.z,0,⟨y,m,c1,V,D⟩⟩,rfl,rfl,(Aa f).other7 ((Aa x).apart (Aa f)) _ _ _ _ _ _ _,?_⟩;exact JV (Bx (CD (Aa B) (δ h)) (Aa s) (.inl rfl)) (Cv (Below.refl _ _) (ι _) _ _ _ _ _ _ _)
def kU(g j k:Nat)(r:Gc)(B m:Nat)(t:Int)(L:List Nat)(w:κ)(p:w.cell? ⟨g,14,η⟩=δ (.pointer (δ ⟨r.g,0,η⟩)))(y:AA w r.g r.gb B m t r.i r.v r.ps)(s: -1099511627776<=t/\t<=1099511627776)(ht:Tab w)(o:AF w j k L 0)(R:k<=w.heap.size):
  Calls ζ 144 #[.pointer (δ ⟨g,0,η⟩),.pointer (δ ⟨j,0,η⟩)] w fun e w'=> ∃q:PKV,e=.returned (ο #[q.val,ξ (G0 (r.ps.map PKV.pd) L 0 t).isSome])/\q.pd=(G0 (r.ps.map PKV.pd) L 0 t).getD EM.pd/\RowAt w' q.r.a q.r.n q.r.xs/\w.grownBy w' (δ j):=by
 have f:=As w (μ #[U α 0,U α 0,U α 0,U α 0,U α 0,γ none 0 0,β ⟨#[]⟩] 75);have X:=Ab (CC w (U α 0) (U α 0) (U α 0) (U α 0) (U α 0) (γ none 0 0) (β ⟨#[]⟩));have P:=Ab (iU r.g r.gb B m t r.i r.v r.ps j k L 0 _ (ht.below f) (y.below f) (o.below (f.mono R)) (by rw[A7];omega) (by decide) s);have S:=o.lt;have V:=(f.cell (World.block_lt_of_cell? w _ p)).trans p;clear y ht o p;generalize G0 (r.ps.map PKV.pd) L 0 t=O at*;have N:=Ab f;clear f;go_enter func144,ntmps144
 go_wp2_with (first
  |(go_at_call 168;refine(Aa P).mono ?_;rintro e w1 ⟨c, -,d⟩;obtain⟨q,rfl,x,c⟩:=c.row;obtain⟨I,E,D,K,C,z,H,A,W,J⟩:=q;simp only[PKV.val];have b:=(Aa X).kept d (fun e=>by have:=θ e;omega);obtain⟨Y,Z,y2,y3,y4,y5,y6⟩:=b.at;have f0:=b.frz 0;have f1:=b.frz 1;have f2:=b.frz 2;have f3:=b.frz 3;have f4:=b.frz 4;have f5:=b.frz 5;have f6:=b.frz 6;have u:=Ab b;have h:=Ab c;have Q:=Ab x;have l:=Ab d;clear b c d x)
  |fail)
 refine bodyPost_ret (N2 rfl rfl ((Aa u).sets (U α I) (U α E) (U α D) (U α K) (U α C) (γ z H A) (β J))).2.1 rfl ⟨⟨I,E,D,K,C,⟨z,H,A,W,J⟩⟩,rfl,Aa Q,(Aa h).other7 ((Aa u).apart (Aa h)) _ _ _ _ _ _ _,?_⟩;exact JV (Bx (CD (Aa N) (δ j)) (Aa l) (.inl rfl)) (Cv (Below.refl _ _) (ι _) _ _ _ _ _ _ _)
structure Ci(o:Nat)(r:IL):Prop where
 one:1<=r.ss.length
 most:r.ss.length<=128
 k:r.k<=r.ss.length
 sh:shorts r.ss
 ck:∀L,BM (Ki o r L)=true
def C1(n:Ap)(L:List Nat):Option PD:=match n.src with
 |some r=>δ (Ki n.id r L)
 |none=>match n.s.rl with
  |some r=>G0 (r.ps.map PKV.pd) L 0 (Gr n.p.target)
  |none=>η
def VJ(g B i j:Nat)(n:Ap)(L:List Nat)(w:κ)(h:Al w g B n)(ht:Bv w)(l:∀r,n.src=δ r->Ci n.id r)(u:AF w i j L 0)(m:j<=w.heap.size):
  Calls ζ (IW n.p.kd) #[.pointer (δ ⟨g,0,η⟩),.pointer (δ ⟨i,0,η⟩)] w fun e w'=> ∃q:PKV,e=.returned (ο #[q.val,ξ (C1 n L).isSome])/\q.pd=(C1 n L).getD EM.pd/\RowAt w' q.r.a q.r.n q.r.xs/\w.grownBy w' (δ i):=by
 have o:=h.blk;unfold IW C1;rcases h.kd with⟨a,b,c,d⟩|⟨a,b,c,d⟩|⟨a,b,c,d⟩
 ·rw[if_pos a]
  cases f:n.src with
  |none=>exact absurd f b
  |some r=>
   have k:=l r f;exact(kx g i j n.id r L w (by have:=o.at 10 rfl;rwa[f]at this) (h.src r f).src k.one k.most k.k k.sh ht.pl u m).mono fun e w' h=>h
 ·rw[if_neg (by omega),if_pos a,b]
  cases f:n.s.rl with
  |none=>exact absurd f c
  |some r=>exact(kU g i j r B _ _ L w (by have:=o.at 14 rfl;rwa[f]at this) (h.st.rl r f) (oo _) ht.tab u m).mono fun e w' h=>h
 ·rw[if_neg (by omega),if_neg (by omega),b,c]
  exact(qU _ _ w).mono fun e w' ⟨x,v⟩=>⟨EM,x,rfl,C8 _,CD v _⟩
def UC(k:Int)(args:Array ν)(w:κ):Sem.run ζ (callFunc (IW k) args) w=.ok (.enter (IW k) args) w:=by
 unfold IW;split
 ·kernel_rfl
 ·split
  ·kernel_rfl
  ·kernel_rfl
def Fc(n:Ap)(L:List Nat)(f:Br):Prop:=f.fr=n.id/\f.ic=n.inc/\f.kd=(if (C1 n L).isSome=true then 2 else 1)/\f.p.pd=(C1 n L).getD EM.pd
def JP:(Tryz.prog.info? 157).map (·.size)=δ 10:=by kernel_rfl
def Tn{tmps:Array ν}{W:κ}(c:tmps.getD 4 undef=.pointer (δ ⟨g,0,η⟩))(e:BkA 157 W g cs)(d:cs.length=10):(results Tryz.f78 tmps).run ζ W=.ok (.agg cs.toArray) W:=by
 have b:=e.load underlying157 rfl JP d;have a:tmps[4]?.getD undef=.pointer (δ ⟨g,0,η⟩):=by simpa using c
 simp[results,Tryz.results78,asAddr,a,b]
def YC(a:Option Addr)(n c:Nat)(xs:List Nat)(w:κ)(h:RowAt w a n xs)(d:n<=1048576):Calls ζ 110 #[γ a n c] w fun e w'=> ∃g,e=.returned (.pointer (δ ⟨g,0,η⟩))/\Hid (w.heap.size<=g/\AF w' g w'.heap.size xs 0/\Below w.heap.size w w'):=
 (ZO a n c xs w h d).mono fun e w' ⟨g,b,h⟩=>⟨g,b,Ab h⟩
def Lt(w:κ)(q:Nat)(u0 u3 u4 u5 u6 u7 u8 u9:ν):κ:=((((((((w.setCell ⟨q,0,η⟩ u0).setCell ⟨q,3,η⟩ u3).setCell ⟨q,4,η⟩ u4).setCell ⟨q,5,η⟩ u5).setCell ⟨q,6,η⟩ u6).setCell ⟨q,7,η⟩ u7).setCell ⟨q,8,η⟩ u8).setCell ⟨q,9,η⟩ u9).drew
def BkA.drew(h:BkA T w g cs):BkA T w.drew g cs:=h
def BkA.putF{q:Nat}{v0 a b v3 v4 v5 e d c v9:ν}(h:BkA T w q [v0,a,b,v3,v4,v5,e,d,c,v9])(u0 u3 u4 u5 u6 u7 u8 u9:ν):BkA T (Lt w q u0 u3 u4 u5 u6 u7 u8 u9) q [u0,a,b,u3,u4,u5,u6,u7,u8,u9]:=by
 have f:BkA T _ q [u0,a,b,v3,v4,v5,e,d,c,v9]:=h.set 0 u0;have i:BkA T _ q [u0,a,b,u3,v4,v5,e,d,c,v9]:=f.set 3 u3;have j:BkA T _ q [u0,a,b,u3,u4,v5,e,d,c,v9]:=i.set 4 u4;have k:BkA T _ q [u0,a,b,u3,u4,u5,e,d,c,v9]:=j.set 5 u5;have l:BkA T _ q [u0,a,b,u3,u4,u5,u6,d,c,v9]:=k.set 6 u6;have m:BkA T _ q [u0,a,b,u3,u4,u5,u6,u7,c,v9]:=l.set 7 u7;have n:BkA T _ q [u0,a,b,u3,u4,u5,u6,u7,u8,v9]:=m.set 8 u8;have o:BkA T _ q [u0,a,b,u3,u4,u5,u6,u7,u8,u9]:=n.set 9 u9;unfold Lt;exact o.drew
def Tu.drew{F:Nat->Prop}{w':κ}(h:Tu F w w'):Tu F w w'.drew:=h.trans (Tu.of_below (F:=F) (Below.refl _ _).drew) fun _ _ e=>e
def XS(w:κ)(q:Nat)(u0 u3 u4 u5 u6 u7 u8 u9:ν):Tu (fun j=>j=q) w (Lt w q u0 u3 u4 u5 u6 u7 u8 u9):=
 ((((((((A8 w q 0 u0).trans (A8 _ q 3 u3) fun _ _ e=>e).trans (A8 _ q 4 u4) fun _ _ e=>e).trans (A8 _ q 5 u5) fun _ _ e=>e).trans (A8 _ q 6 u6) fun _ _ e=>e).trans (A8 _ q 7 u7) fun _ _ e=>e).trans (A8 _ q 8 u8) fun _ _ e=>e).trans (A8 _ q 9 u9) fun _ _ e=>e).drew
def BkA.row{q:Nat}{a:Option Addr}{n:Nat}{xs:List Nat}(h:BkA T w q cs)(c:RowAt w a n xs)(o:∀x∈cs,∀i,x≠ U .u64 i){w':κ}(ht:Tu (fun j=>j=q) w w'):RowAt w' a n xs:=by
 refine⟨c.1,c.2.1,?_⟩;rcases c.2.2 with l|⟨b,off,rfl,k⟩
 ·exact .inl l
 ·refine .inr ⟨b,off,rfl,fun i f=>ht.cell (k i f) fun e=>?_⟩
  have e:b=q:=e;have d:=k i f;subst e;unfold BkA at h;rw[cell_of_row w b _ _ _ _ h]at d;have m:cs[off+i]? =δ (U .u64 ((xs.getD i 0:Nat):Int)):=by simpa using d
  exact o _ (List.mem_of_getElem? m) _ rfl
def fE(g B:Nat)(n:Ap)(a:Option Addr)(dn dc:Nat)(L:List Nat)(w:κ)(h:Al w g B n)(ht:Bv w)(al:∀r,n.src=δ r->Ci n.id r)(hd:RowAt w a dn L)(a0:dn<=1048576):
  Calls ζ 78 #[.pointer (δ ⟨g,0,η⟩),γ a dn dc] w fun e w'=> ∃f:Br,e=.returned f.val/\Fc n L f/\RowAt w' f.p.r.a f.p.r.n f.p.r.xs/\Below w.heap.size w w':=by
 have c0:=h.blk.at 0 rfl;have c1:=h.blk.at 1 rfl;have ak:=h.blk.lt;have H:=Ab h;have HT:=Ab ht;have ae:=Ab al;have a2:=h.num.1;have HW:=Ab (fun wx=>aS n.p.kd wx);have ad:=Ab (fun wx (hb:Below w.heap.size w wx)=>YC a dn dc L wx (hd.below hb) a0);obtain⟨W,hW,X,B1⟩:∃W,W=w.alloc (μ #[U α 0,U α 0,U α 0,U α 0,U α 0,U α 0,U α 0,U α 0,γ none 0 0,β ⟨#[]⟩] 157)/\BkA 157 W w.heap.size [U α 0,U α 0,U α 0,U α 0,U α 0,U α 0,U α 0,U α 0,γ none 0 0,β ⟨#[]⟩]/\Below w.heap.size w W:=⟨_,rfl,AI 157 w [_,_,_,_,_,_,_,_,_,_],As _ _⟩;have HX:=Ab X;have HB:=Ab B1;have c0:=(B1.cell ak).trans c0;have c1:=(B1.cell ak).trans c1;have ao:W.heap.size=w.heap.size+1:=by rw[hW,A7]
 have a3:W.heap.size≠g:=by omega
 have a5:IntKind.i64.wrap (n.inc:Int)=(n.inc:Int):=by rw[IntKind.wrap_i64];omega
 have ax:=Ab ao;clear X B1 ht al hd h ao;go_enter func78,ntmps78;go_wp2_with fail;rw[<-hW];clear hW;go_cut [5] from 9 to 18 (fun t wx=> ∃q,t=.pointer (δ ⟨q,0,η⟩)/\Hid (BkA 157 wx q [U α 1,U α (n.id:Int),U α (n.inc:Int),U α 0,U α 0,U α 0,U α 0,U α 0,γ none 0 0,β ⟨#[]⟩]/\W.heap.size<=q/\Below W.heap.size W wx))
 case first=>
  go_region_held3 (fun w'=>w'.cell? ⟨g,0,η⟩=δ (U α (n.id:Int))/\w'.cell? ⟨g,1,η⟩=δ (U .u32 (n.inc:Int))) (go_keep) (first|fail);go_wp2_with fail;go_meet;exact⟨_,rfl,Ab ⟨AI 157 W [_,_,_,_,_,_,_,_,_,_],ι _,(As _ _).drew⟩⟩
 case rest=>
  obtain⟨q,rfl,A⟩:=hcut;rename_i wc;have z:=Ab (Ad (Aa HB) (Aa A).2.2);have Z:=Ab ((Aa H).below (Aa z));have e2:=(Aa Z).blk.at 2 rfl;have a1:q≠w.heap.size:=by have:=(Aa A).2.1;have:=Aa ax;omega
  clear c0 c1;generalize hO:C1 n L=O at*;have HO:=Ab hO;clear hO;cases O with
  |none=>
   go_wp2_with (first
    |(go_at_call 109;refine(Aa HW _).mono ?_;rintro e w1 ⟨rfl,P⟩;obtain rfl:=P.symm;clear P)
    |(go_at_call 110;refine(Aa ad _ (Aa z)).mono ?_;rintro e w2 ⟨R,rfl,b⟩;have Y:=Ab ((Aa Z).below (Aa b).2.2);have y:=Ab (Ad (Aa z) (Aa b).2.2);have aa:=Ab ((Aa A).1.below (Aa b).2.2);have ab:=Ab (((Aa HX).below (Aa A).2.2).below (Aa b).2.2))
    |fail)
   rw[UC,Oper.upon_enter];refine(VJ g B R w2.heap.size n L w2 (Aa Y) ((Aa HT).below (Aa y)) (Aa ae) (Aa b).2.1 (ι _)).mono ?_;rw[Aa HO];rintro e w3 ⟨⟨u,o,m,x,l,j,s,k,qx,v⟩,rfl,K,N,d⟩;have E:w.heap.size<=R:=Nat.le_trans (Aa z).size (Aa b).1;have I:δ q≠δ R:=fun e=>by have:=(Aa A).1.lt;have:=(Aa b).1;have:=θ e;omega
   have J:δ w.heap.size≠δ R:=fun e=>by have:=((Aa HX).below (Aa A).2.2).lt;have:=(Aa b).1;have:=θ e;omega
   have c:=(Aa aa).kept d I;have Q:=(Aa ab).kept d J;have ah:=Ab N;have af:=Ab K;have V:=Ab ((Aa y).trans (QS d (Aa y).size E));have C:=Ab (fun ob=>c.below (As w3 ob));have ac:=Ab (fun ob=>Q.below (As w3 ob));have ag:=Ab c.lt;clear c Q N K d E I J;simp only[PKV.val,Option.isSome_none]
   go_wp2_with (first
    |((with_reducible refine PK 157 underlying157 rfl JP 5 q _ ?_ (Aa C _) rfl ?_);(focus rfl))
    |((with_reducible refine JN 157 JP 4 37 w.heap.size _ [U α 1,U α (n.id:Int),U α (n.inc:Int),U α 0,U α 0,U α 0,U α 0,U α 0,γ none 0 0,β ⟨#[]⟩] ?_ ?_ (Aa ac _) rfl rfl ?_ ?_);(focus rfl);(focus rfl);(focus simp[Value.oneCell']);intro w4 ap am;have ay:=Ab ap;have aw:=Ab am;clear ap am)
    |fail)
   exact bodyPost_ret (Tn rfl (Aa ay) rfl) rfl ⟨⟨1,n.id,n.inc,EM⟩,rfl,⟨rfl,rfl,by rw[Aa HO];rfl,by rw[Aa HO];rfl⟩,C8 _,GY (Ad (Aa V) (As _ _)) (Aa aw) (ι _)⟩
  |some D=>
   go_wp2_with (first
    |(go_at_call 109;refine(Aa HW _).mono ?_;rintro e w1 ⟨rfl,P⟩;obtain rfl:=P.symm;clear P)
    |(go_at_call 110;refine(Aa ad _ (Aa z)).mono ?_;rintro e w2 ⟨R,rfl,b⟩;have Y:=Ab ((Aa Z).below (Aa b).2.2);have y:=Ab (Ad (Aa z) (Aa b).2.2);have aa:=Ab ((Aa A).1.below (Aa b).2.2);have ab:=Ab (((Aa HX).below (Aa A).2.2).below (Aa b).2.2))
    |fail)
   rw[UC,Oper.upon_enter];refine(VJ g B R w2.heap.size n L w2 (Aa Y) ((Aa HT).below (Aa y)) (Aa ae) (Aa b).2.1 (ι _)).mono ?_;rw[Aa HO];rintro e w3 ⟨⟨u,o,m,x,l,j,s,k,qx,v⟩,rfl,K,N,d⟩;have E:w.heap.size<=R:=Nat.le_trans (Aa z).size (Aa b).1;have I:δ q≠δ R:=fun e=>by have:=(Aa A).1.lt;have:=(Aa b).1;have:=θ e;omega
   have J:δ w.heap.size≠δ R:=fun e=>by have:=((Aa HX).below (Aa A).2.2).lt;have:=(Aa b).1;have:=θ e;omega
   have c:=(Aa aa).kept d I;have Q:=(Aa ab).kept d J;have ah:=Ab N;have af:=Ab K;have V:=Ab ((Aa y).trans (QS d (Aa y).size E));have C:=Ab (fun ob=>c.below (As w3 ob));have ac:=Ab (fun ob=>Q.below (As w3 ob));have ag:=Ab c.lt;clear c Q N K d E I J;simp only[PKV.val,Option.isSome_some];have i:=Aa C (μ #[U α u,U α o,U α m,U α x,U α l,γ j s k,β v] 75);have k0:=i.at 0 rfl;have k3:=i.at 3 rfl;have k4:=i.at 4 rfl;have k5:=i.at 5 rfl;have k6:=i.at 6 rfl;have k7:=i.at 7 rfl;have k8:=i.at 8 rfl;have k9:=i.at 9 rfl;have f0:=i.frz 0;have f3:=i.frz 3;have f4:=i.frz 4;have f5:=i.frz 5;have f6:=i.frz 6;have f7:=i.frz 7;have f8:=i.frz 8;have f9:=i.frz 9;have a4:w3.heap.size≠q:=Nat.ne_of_gt (Aa ag);have S:=XS (w3.alloc (μ #[U α u,U α o,U α m,U α x,U α l,γ j s k,β v] 75)) q (U α 2) (U α u) (U α o) (U α m) (U α x) (U α l) (γ j s k) (β v);have au:=Ab ((Aa C (μ #[U α u,U α o,U α m,U α x,U α l,γ j s k,β v] 75)).putF (U α 2) (U α u) (U α o) (U α m) (U α x) (U α l) (γ j s k) (β v));have aj:=Ab ((Aa ac (μ #[U α u,U α o,U α m,U α x,U α l,γ j s k,β v] 75)).tu S fun e=>a1 e.symm);have av:=Ab ((Aa C (μ #[U α u,U α o,U α m,U α x,U α l,γ j s k,β v] 75)).row ((Aa ah).below (As w3 (μ #[U α u,U α o,U α m,U α x,U α l,γ j s k,β v] 75))) (by simp) S);have ar:=Ab (GY (Ad (Aa V) (As w3 (μ #[U α u,U α o,U α m,U α x,U α l,γ j s k,β v] 75))) S (by have:=(Aa A).2.1;have:=(Aa HB).size;omega));clear S;clear i;go_wp2_with fail;go_region_law (first|fail)
   all_goals change Exit.then _ _ _ _ (Lt (w3.alloc (μ #[U α u,U α o,U α m,U α x,U α l,γ j s k,β v] 75)) q (U α 2) (U α u) (U α o) (U α m) (U α x) (U α l) (γ j s k) (β v))
   all_goals generalize Lt (w3.alloc (μ #[U α u,U α o,U α m,U α x,U α l,γ j s k,β v] 75)) q (U α 2) (U α u) (U α o) (U α m) (U α x) (U α l) (γ j s k) (β v)=w5 at*
   all_goals go_wp2_with (first
    |((with_reducible refine PK 157 underlying157 rfl JP 5 q _ ?_ (Aa au) rfl ?_);(focus rfl))
    |((with_reducible refine JN 157 JP 4 37 w.heap.size _ [U α 2,U α (n.id:Int),U α (n.inc:Int),U α u,U α o,U α m,U α x,U α l,γ j s k,β v] ?_ ?_ (Aa aj) rfl rfl ?_ ?_);(focus rfl);(focus rfl);(focus simp[Value.oneCell']);intro w6 aq an;have az:=Ab aq;have ai:=Ab an;clear aq an)
    |fail)
   all_goals exact bodyPost_ret (Tn rfl (Aa az) rfl) rfl ⟨⟨2,n.id,n.inc,⟨u,o,m,x,l,⟨j,s,k,qx,v⟩⟩⟩,rfl,⟨rfl,rfl,by rw[Aa HO];rfl,by rw[Aa HO];exact Aa af⟩,(Aa aj).row (Aa av) (by simp) (Aa ai),GY (Aa ar) (Aa ai) (ι _)⟩
end Go.Proofs.YtfpmnekaockodaaGreatDoor
