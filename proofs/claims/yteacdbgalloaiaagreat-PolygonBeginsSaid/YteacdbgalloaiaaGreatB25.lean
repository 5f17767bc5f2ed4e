/- Contracts of the packages integer, rat, plane, polygon and their references. -/
import Derived.Test.YteacdbgalloaiaaGreatB22
import Derived.Test.YteacdbgalloaiaaGreatB21
import Derived.Test.YteacdbgalloaiaaGreatB24
set_option linter.unusedVariables false
set_option maxRecDepth 100000
set_option maxHeartbeats 6400000
namespace Go.Proofs.YteacdbgalloaiaaGreat
open Go.RowKit
open Go
theorem VI_64 {l:List Int}{v:Value}{w:World}(h:VI l v w):i64s l:=by
 obtain⟨a,m,c,-,-,-,h⟩:=h;exact h
section
variable {w:World}{lv v0 v1 v2 v3:Value}{vs:List P2}{N M:Nat}
theorem same4T {a b:Rat}(h0:Vq N a v0 w)(h1:Vq M b v1 w)(hN:N<=9000)(hM:M<=9000)(e:a=b):Calls Tryz.prog 19 #[v0,v1] w (RV (Vb true) w):=
 (cR4Same (Vq_le h0 hN) (Vq_le h1 hM)).mono fun _ _ h=>h.le fun _ _ hv=>hv.trans (congrArg Value.bool (dT e))
theorem same5T {a b c d:Rat}(h0:Vv N a b v0 w)(h1:Vv M c d v1 w)(hN:N<=9000)(hM:M<=9000)(e:a=c/\b=d):Calls Tryz.prog 18 #[v0,v1] w (RV (Vb true) w):=
 (cR5Same (Vv_le h0 hN) (Vv_le h1 hM)).mono fun _ _ h=>h.le fun _ _ hv=>hv.trans (congrArg Value.bool (dT e))
theorem lvArea {q:Rat}(hS:VSv 3 vs lv w)(hn:vs.length<=6)(hq:areaQ vs=q):Calls Tryz.prog 20 #[lv] w (RV (Vq 100 q) w):=by
 subst hq;exact(cArea (show VEq lv lv w from rfl) hS).mono fun _ _ h=>h.le fun _ _ h=>Vq_le h (by omega)
theorem lvCtr {q:P2}(hS:VSv 3 vs lv w)(hn:vs.length<=6)(hq:ctr vs=q):Calls Tryz.prog 22 #[lv] w (RV (Vv 300 q.1 q.2) w):=by
 subst hq;exact(cCenter hS).mono fun _ _ h=>h.le fun _ _ h=>Vv_le h (by omega)
theorem lvConvex {x:Bool}(hS:VSv 3 vs lv w)(hx:convexP vs=x):Calls Tryz.prog 17 #[lv] w (RV (Vb x) w):=by
 subst hx;exact cConvex hS
theorem lvValid {x:Bool}(hS:VSv 3 vs lv w)(hx:validP vs=x):Calls Tryz.prog 16 #[lv] w (RV (Vb x) w):=
 cValidV (show VEq lv lv w from rfl) hS (by omega) (by omega) hx
theorem lvMeets {a b c d:P2}{x:Bool}(h0:Vv N a.1 a.2 v0 w)(h1:Vv N b.1 b.2 v1 w)(h2:Vv N c.1 c.2 v2 w)(h3:Vv N d.1 d.2 v3 w)(hN:1<=N)(hN2:N<=1000)(hx:mts a b c d=x):Calls Tryz.prog 33 #[v0,v1,v2,v3] w (RV (Vb x) w):=by
 subst hx;exact cMeets h0 h1 h2 h3 hN hN2
theorem lvHas {p:P2}{x:Int}(hS:VSv 3 vs lv w)(h1:Vv 3 p.1 p.2 v1 w)(hx:hasI vs p=x):Calls Tryz.prog 10 #[lv,v1] w (RV (Vi x) w):=by
 subst hx;exact cHas h1 hS
theorem lvBox (hS:VSv 3 anV lv w):Calls Tryz.prog 15 #[lv] w (RV (VTup (Vv 3 0 0) (Vv 3 (Rat.divInt 4 1) (Rat.divInt 4 1))) w):=by
 have h:=cBoxCons (show VEq lv lv w from rfl) (show VSv 3 ((0,0):: [(4,0),(4,2),(2,2),(2,4),(0,4)]) lv w from hS);have e1:bxL ((0,0):: [(4,0),(4,2),(2,2),(2,4),(0,4)])=((0,0):P2):=an_boxL;have e2:bxH ((0,0):: [(4,0),(4,2),(2,2),(2,4),(0,4)])=((Rat.divInt 4 1,Rat.divInt 4 1):P2):=an_boxH;rw [e1,e2] at h;exact h
end
theorem cL6Lives {w:World}:Calls Tryz.prog 12 #[] w (RV (Vb true) w):=by
 go_enter Tryz.func12,Tryz.ntmps12
 refine Sg 124 [] L0 fun a0 st0=>Wn ?_
 refine rH [(30,4,0),(32,8,0)] [Vb false] [] [(0,Vb false)] st0 ⟨ks,trivial⟩ fun a1 w1 st1=>Wn ?_
 refine rH [] [VI [0,0,4,0,4,4,0,4],VSv 3 (ofL [0,0,4,0,4,4,0,4] 4),VSv 3 (ofL [0,0,4,0,4,4,0,4] 4)] [] [(0,Vb false),(1,VSv 3 (ofL [0,0,4,0,4,4,0,4] 4))] st1 ⟨(km fun _ ac Y h D=>bslice_I8 rfl (fun _=>rfl)),(kd1 fun _ _ _ _ _ X0=>cOf6 (n:=4) X0 rfl (by omega) (by omega) (VI_64 X0)),ks,trivial⟩ fun a2 w2 st2=>Wn ?_
 refine rH [] [VI [0,0,4,0,4,2,2,2,2,4,0,4],VSv 3 (ofL [0,0,4,0,4,2,2,2,2,4,0,4] 6),VSv 3 (ofL [0,0,4,0,4,2,2,2,2,4,0,4] 6)] [] [(0,Vb false),(1,VSv 3 (ofL [0,0,4,0,4,4,0,4] 4)),(2,VSv 3 (ofL [0,0,4,0,4,2,2,2,2,4,0,4] 6))] st2 ⟨(km fun _ ac Y h D=>bslice_I12 rfl (fun _=>rfl)),(kd1 fun _ _ _ _ _ X0=>cOf6 (n:=6) X0 rfl (by omega) (by omega) (VI_64 X0)),ks,trivial⟩ ?_;intro a3 w3 st3;replace st3:St w.heap.size w 124 [] [(0,Vb false),(1,VSv 3 (ofL [0,0,4,0,4,4,0,4] 4)),(2,VSv 3 (ofL [0,0,4,0,4,2,2,2,2,4,0,4] 6))] a3 w3:=st3;obtain⟨u1,p1,s1⟩:=st3.sl (1,VSv 3 (ofL [0,0,4,0,4,4,0,4] 4)) (lS_mem rfl);obtain⟨u2,p2,s2⟩:=st3.sl (2,VSv 3 (ofL [0,0,4,0,4,2,2,2,2,4,0,4] 6)) (lS_mem rfl);rw [sq_ofL] at s1;rw [an_ofL] at s2;refine Wn ?_
 obtain⟨hbN,stB⟩:=st3.base [(1,VAt w3 (VSv 3 sqV)),(2,VAt w3 (VSv 3 anV))] (Lq.2 ⟨⟨_,p1,s1⟩,(Lq.2 ⟨⟨_,p2,s2⟩,L0⟩)⟩);obtain⟨wU,hren⟩:∃z,z=w:=⟨_,rfl⟩;subst hren;have hbO:=hbN;clear hbN;obtain⟨w,hren⟩:∃z,z=w3:=⟨_,rfl⟩;subst hren;have st3:St w.heap.size w 124 [] [(1,VAt w (VSv 3 sqV)),(2,VAt w (VSv 3 anV))] a3 w:=stB;clear stB;clear p1 s1 p2 s2;refine Wn ?_
 refine rH [(30,4,0),(32,8,0)] [Vq 3 (Rat.divInt 5 3),VT,VT] [⟨3,some 1,some 2,30,4,Vq 3 (Rat.divInt 5 3),VT⟩] [(1,VAt w (VSv 3 sqV)),(2,VAt w (VSv 3 anV))] st3 ⟨(by refine kc fun _ ac Y h D=>?_;exact⟨#[.int .i64 5,.int .i64 3],by simp [eval_const],cR4Of (show Vi 5 (.int .i64 5) Y from rfl) (show Vi 3 (.int .i64 3) Y from rfl)⟩),ks,ks,trivial⟩ ?_;intro a4 w4 st4;refine Wn ?_
 refine rH [(30,4,0),(32,8,0)] [VAt w (VSv 3 sqV),Vb true,Vb false,Vb false,VAt w (VSv 3 anV),Vb true,Vb false,Vb false,Vb false,VAt w (VSv 3 anV),Vb false,Vb false,Vb false,VAt w (VSv 3 sqV),VAt w (VSv 3 (sqV.take 2)),Vb false,Vb false] [.k 3 30 4 (Vq 3 (Rat.divInt 5 3))] [(1,VAt w (VSv 3 sqV)),(2,VAt w (VSv 3 anV)),(27,Vb false)] st4 ⟨ks,(kd1 fun _ _ Y h v0 X0=>lvConvex (VSv_later (show VSv 3 sqV _ w from(show VAt w (VSv 3 sqV) v0 Y from X0)) h.k.below) sq_convex),ks,ks,ks,(kd1 fun _ _ Y h v0 X0=>lvValid (VSv_later (show VSv 3 anV _ w from(show VAt w (VSv 3 anV) v0 Y from X0)) h.k.below) an_valid),ks,ks,ks,ks,(kd1 fun _ _ Y h v0 X0=>lvConvex (VSv_later (show VSv 3 anV _ w from(show VAt w (VSv 3 anV) v0 Y from X0)) h.k.below) an_convex),ks,ks,ks,(kr1 24 fun _ _ _ _ _ x0 X0=>take_Sv rfl x0 X0 rfl rfl (by decide) (by decide)),(kd1 fun _ _ Y h v0 X0=>lvValid (VSv_later (show VSv 3 (sqV.take 2) _ w from(show VAt w (VSv 3 (sqV.take 2)) v0 Y from X0)) h.k.below) sq_two),ks,trivial⟩ fun a5 w5 st5=>Wn ?_
 refine cF st5 ?_;refine Wn ?_
 refine rH [(30,4,0),(32,8,0)] [VAt w (VSv 3 sqV),Vq 100 (Rat.divInt 16 1),Vq 3 (Rat.divInt 16 1),Vb true,Vb false,Vb false,VAt w (VSv 3 anV),Vq 100 (Rat.divInt 12 1),Vq 3 (Rat.divInt 12 1),Vb true,Vb false,Vb false,Vb false,VAt w (VSv 3 sqV),Vv 300 (Rat.divInt 2 1) (Rat.divInt 2 1),Vv 3 (Rat.divInt 2 1) (Rat.divInt 2 1),Vb true,Vb false,Vb false,Vb false,VAt w (VSv 3 anV),Vv 300 (Rat.divInt 5 3) (Rat.divInt 5 3),Vq 3 (Rat.divInt 5 3),Vq 3 (Rat.divInt 5 3),Vv 3 (Rat.divInt 5 3) (Rat.divInt 5 3),Vb true,Vb false,Vb false] [.k 3 30 4 (Vq 3 (Rat.divInt 5 3))] [(1,VAt w (VSv 3 sqV)),(2,VAt w (VSv 3 anV)),(27,Vb false),(55,Vb false)] st5 ⟨ks,(kd1 fun _ _ Y h v0 X0=>lvArea (VSv_later (show VSv 3 sqV _ w from(show VAt w (VSv 3 sqV) v0 Y from X0)) h.k.below) (by decide) sq_area),(by refine kc fun _ ac Y h D=>?_;exact⟨#[.int .i64 16,.int .i64 1],by simp [eval_const],cR4Of (show Vi 16 (.int .i64 16) Y from rfl) (show Vi 1 (.int .i64 1) Y from rfl)⟩),(kd2 fun _ _ _ _ _ X0 _ X1=>same4T X0 X1 (by omega) (by omega) rfl),ks,ks,ks,(kd1 fun _ _ Y h v0 X0=>lvArea (VSv_later (show VSv 3 anV _ w from(show VAt w (VSv 3 anV) v0 Y from X0)) h.k.below) (by decide) an_area),(by refine kc fun _ ac Y h D=>?_;exact⟨#[.int .i64 12,.int .i64 1],by simp [eval_const],cR4Of (show Vi 12 (.int .i64 12) Y from rfl) (show Vi 1 (.int .i64 1) Y from rfl)⟩),(kd2 fun _ _ _ _ _ X0 _ X1=>same4T X0 X1 (by omega) (by omega) rfl),ks,ks,ks,ks,(kd1 fun _ _ Y h v0 X0=>lvCtr (VSv_later (show VSv 3 sqV _ w from(show VAt w (VSv 3 sqV) v0 Y from X0)) h.k.below) (by decide) sq_ctr),(by refine kc fun _ ac Y h D=>?_;exact⟨#[.int .i64 2,.int .i64 2],by simp [eval_const],cR5Of (show Vi 2 (.int .i64 2) Y from rfl) (show Vi 2 (.int .i64 2) Y from rfl)⟩),(kd2 fun _ _ _ _ _ X0 _ X1=>same5T X0 X1 (by omega) (by omega) ⟨rfl,rfl⟩),ks,ks,ks,ks,(kd1 fun _ _ Y h v0 X0=>lvCtr (VSv_later (show VSv 3 anV _ w from(show VAt w (VSv 3 anV) v0 Y from X0)) h.k.below) (by decide) an_ctr),ks,ks,(kr2 50 51 fun _ _ _ _ _ x0 X0 _ x1 X1=>build_Vec rfl x0 x1 (AggV_Vq _ _) (AggV_Vq _ _) X0 X1),(kd2 fun _ _ _ _ _ X0 _ X1=>same5T X0 X1 (by omega) (by omega) ⟨rfl,rfl⟩),ks,ks,trivial⟩ ?_;intro a6 w6 st6;refine Wn ?_
 refine cF st6 ?_;refine Wn ?_
 refine rH [(30,4,0),(32,8,0)] [VAt w (VSv 3 anV),VTup (Vv 3 0 0) (Vv 3 (Rat.divInt 4 1) (Rat.divInt 4 1)),VTup (Vv 3 0 0) (Vv 3 (Rat.divInt 4 1) (Rat.divInt 4 1)),Vv 3 0 0,Vv 3 (Rat.divInt 4 1) (Rat.divInt 4 1),VT,VT,VT,VT] [.k 3 30 4 (Vq 3 (Rat.divInt 5 3)),⟨4,some 5,some 7,32,8,Vv 3 0 0,VT⟩,⟨5,some 6,some 8,32,8,Vv 3 (Rat.divInt 4 1) (Rat.divInt 4 1),VT⟩] [(1,VAt w (VSv 3 sqV)),(2,VAt w (VSv 3 anV)),(27,Vb false),(55,Vb false)] st6 ⟨ks,(kd1 fun _ _ Y h v0 X0=>lvBox (VSv_later (show VSv 3 anV _ w from(show VAt w (VSv 3 anV) v0 Y from X0)) h.k.below)),ks,ks,ks,ks,ks,ks,ks,trivial⟩ fun a7 w7 st7=>Wn ?_
 refine rH [(30,4,0),(32,8,0)] [Vv 3 0 0,Vv 1 0 0,Vb true,Vb false,Vb false,Vv 3 (Rat.divInt 4 1) (Rat.divInt 4 1),Vv 3 (Rat.divInt 4 1) (Rat.divInt 4 1),Vb true,Vb false,Vb false,Vb false,VAt w (VSv 3 sqV),VAt w (VEp 32 8 (Vv 3 ((0,0):P2).1 ((0,0):P2).2)),Vv 3 (((0,0):P2).1) (((0,0):P2).2),VAt w (VSv 3 sqV),VAt w (VEp 32 8 (Vv 3 ((4,4):P2).1 ((4,4):P2).2)),Vv 3 (((4,4):P2).1) (((4,4):P2).2),VAt w (VSv 3 sqV),VAt w (VEp 32 8 (Vv 3 ((4,0):P2).1 ((4,0):P2).2)),Vv 3 (((4,0):P2).1) (((4,0):P2).2),VAt w (VSv 3 sqV),VAt w (VEp 32 8 (Vv 3 ((0,4):P2).1 ((0,4):P2).2)),Vv 3 (((0,4):P2).1) (((0,4):P2).2),Vb true,Vb false,Vb false,Vb false,VAt w (VSv 3 sqV),VAt w (VEp 32 8 (Vv 3 ((0,0):P2).1 ((0,0):P2).2)),Vv 3 (((0,0):P2).1) (((0,0):P2).2),VAt w (VSv 3 sqV),VAt w (VEp 32 8 (Vv 3 ((4,0):P2).1 ((4,0):P2).2)),Vv 3 (((4,0):P2).1) (((4,0):P2).2),VAt w (VSv 3 sqV),VAt w (VEp 32 8 (Vv 3 ((4,4):P2).1 ((4,4):P2).2)),Vv 3 (((4,4):P2).1) (((4,4):P2).2),VAt w (VSv 3 sqV),VAt w (VEp 32 8 (Vv 3 ((0,4):P2).1 ((0,4):P2).2)),Vv 3 (((0,4):P2).1) (((0,4):P2).2),Vb false,Vb false] [.k 3 30 4 (Vq 3 (Rat.divInt 5 3)),.k 4 32 8 (Vv 3 0 0),.k 5 32 8 (Vv 3 (Rat.divInt 4 1) (Rat.divInt 4 1))] [(1,VAt w (VSv 3 sqV)),(2,VAt w (VSv 3 anV)),(27,Vb false),(55,Vb false),(101,Vb false)] st7 ⟨ks,(kr fun _ ac Y h D=>build_Vec0 rfl),(kd2 fun _ _ _ _ _ X0 _ X1=>same5T X0 X1 (by omega) (by omega) ⟨rfl,rfl⟩),ks,ks,ks,(by refine kc fun _ ac Y h D=>?_;exact⟨#[.int .i64 4,.int .i64 4],by simp [eval_const],cR5Of (show Vi 4 (.int .i64 4) Y from rfl) (show Vi 4 (.int .i64 4) Y from rfl)⟩),(kd2 fun _ _ _ _ _ X0 _ X1=>same5T X0 X1 (by omega) (by omega) ⟨rfl,rfl⟩),ks,ks,ks,ks,(kr1 72 fun _ _ Y _ v0 x0 X0=>index_Sv (j:=0) (a:=((0,0):P2)) rfl x0 (show VEq v0 v0 Y from rfl) X0 rfl rfl rfl),(kr1 73 fun _ _ _ h _ x0 X0=>load_EpC (w:=w) (k:=8) (A:=Vv 3 ((0,0):P2).1 ((0,0):P2).2) (Stab_Vv _ _ _) rfl x0 X0 h.k.below Tryz.underlying32 rfl size_Vec),ks,(kr1 75 fun _ _ Y _ v0 x0 X0=>index_Sv (j:=2) (a:=((4,4):P2)) rfl x0 (show VEq v0 v0 Y from rfl) X0 rfl rfl rfl),(kr1 76 fun _ _ _ h _ x0 X0=>load_EpC (w:=w) (k:=8) (A:=Vv 3 ((4,4):P2).1 ((4,4):P2).2) (Stab_Vv _ _ _) rfl x0 X0 h.k.below Tryz.underlying32 rfl size_Vec),ks,(kr1 78 fun _ _ Y _ v0 x0 X0=>index_Sv (j:=1) (a:=((4,0):P2)) rfl x0 (show VEq v0 v0 Y from rfl) X0 rfl rfl rfl),(kr1 79 fun _ _ _ h _ x0 X0=>load_EpC (w:=w) (k:=8) (A:=Vv 3 ((4,0):P2).1 ((4,0):P2).2) (Stab_Vv _ _ _) rfl x0 X0 h.k.below Tryz.underlying32 rfl size_Vec),ks,(kr1 81 fun _ _ Y _ v0 x0 X0=>index_Sv (j:=3) (a:=((0,4):P2)) rfl x0 (show VEq v0 v0 Y from rfl) X0 rfl rfl rfl),(kr1 82 fun _ _ _ h _ x0 X0=>load_EpC (w:=w) (k:=8) (A:=Vv 3 ((0,4):P2).1 ((0,4):P2).2) (Stab_Vv _ _ _) rfl x0 X0 h.k.below Tryz.underlying32 rfl size_Vec),(by refine kc fun _ ac Y h D=>?_;obtain⟨v0,x0,X0⟩:=h.dp D 74;obtain⟨v1,x1,X1⟩:=h.dp D 77;obtain⟨v2,x2,X2⟩:=h.dp D 80;obtain⟨v3,x3,X3⟩:=h.dp D 83;exact⟨#[v0,v1,v2,v3],by simp [x0,x1,x2,x3],lvMeets X0 X1 X2 X3 (by omega) (by omega) sq_mts⟩),ks,ks,ks,ks,(kr1 88 fun _ _ Y _ v0 x0 X0=>index_Sv (j:=0) (a:=((0,0):P2)) rfl x0 (show VEq v0 v0 Y from rfl) X0 rfl rfl rfl),(kr1 89 fun _ _ _ h _ x0 X0=>load_EpC (w:=w) (k:=8) (A:=Vv 3 ((0,0):P2).1 ((0,0):P2).2) (Stab_Vv _ _ _) rfl x0 X0 h.k.below Tryz.underlying32 rfl size_Vec),ks,(kr1 91 fun _ _ Y _ v0 x0 X0=>index_Sv (j:=1) (a:=((4,0):P2)) rfl x0 (show VEq v0 v0 Y from rfl) X0 rfl rfl rfl),(kr1 92 fun _ _ _ h _ x0 X0=>load_EpC (w:=w) (k:=8) (A:=Vv 3 ((4,0):P2).1 ((4,0):P2).2) (Stab_Vv _ _ _) rfl x0 X0 h.k.below Tryz.underlying32 rfl size_Vec),ks,(kr1 94 fun _ _ Y _ v0 x0 X0=>index_Sv (j:=2) (a:=((4,4):P2)) rfl x0 (show VEq v0 v0 Y from rfl) X0 rfl rfl rfl),(kr1 95 fun _ _ _ h _ x0 X0=>load_EpC (w:=w) (k:=8) (A:=Vv 3 ((4,4):P2).1 ((4,4):P2).2) (Stab_Vv _ _ _) rfl x0 X0 h.k.below Tryz.underlying32 rfl size_Vec),ks,(kr1 97 fun _ _ Y _ v0 x0 X0=>index_Sv (j:=3) (a:=((0,4):P2)) rfl x0 (show VEq v0 v0 Y from rfl) X0 rfl rfl rfl),(kr1 98 fun _ _ _ h _ x0 X0=>load_EpC (w:=w) (k:=8) (A:=Vv 3 ((0,4):P2).1 ((0,4):P2).2) (Stab_Vv _ _ _) rfl x0 X0 h.k.below Tryz.underlying32 rfl size_Vec),(by refine kc fun _ ac Y h D=>?_;obtain⟨v0,x0,X0⟩:=h.dp D 90;obtain⟨v1,x1,X1⟩:=h.dp D 93;obtain⟨v2,x2,X2⟩:=h.dp D 96;obtain⟨v3,x3,X3⟩:=h.dp D 99;exact⟨#[v0,v1,v2,v3],by simp [x0,x1,x2,x3],lvMeets X0 X1 X2 X3 (by omega) (by omega) sq_mts2⟩),ks,trivial⟩ ?_;intro a8 w8 st8;refine Wn ?_
 refine cF st8 ?_;refine Wn ?_
 refine rH [(30,4,0),(32,8,0)] [VAt w (VSv 3 sqV),Vv 3 (Rat.divInt 2 1) (Rat.divInt 2 1),Vi 1,Vb true,Vb true,VAt w (VSv 3 sqV),Vv 3 (Rat.divInt 4 1) (Rat.divInt 1 1),Vi 0,Vb true,Vb true,Vb true,VAt w (VSv 3 sqV),Vv 3 (Rat.divInt 5 1) (Rat.divInt 1 1),Vi (-1),Vb true,Vb true,Vb true,VAt w (VSv 3 anV),Vv 3 (Rat.divInt 3 1) (Rat.divInt 3 1),Vi (-1),Vb true,Vb true,Vb true] [.k 3 30 4 (Vq 3 (Rat.divInt 5 3)),.k 4 32 8 (Vv 3 0 0),.k 5 32 8 (Vv 3 (Rat.divInt 4 1) (Rat.divInt 4 1))] [(1,VAt w (VSv 3 sqV)),(2,VAt w (VSv 3 anV)),(27,Vb false),(55,Vb false),(101,Vb false),(0,Vb true)] st8 ⟨ks,(by refine kc fun _ ac Y h D=>?_;exact⟨#[.int .i64 2,.int .i64 2],by simp [eval_const],cR5Of (show Vi 2 (.int .i64 2) Y from rfl) (show Vi 2 (.int .i64 2) Y from rfl)⟩),(kd2 fun _ _ Y h v0 X0 v1 X1=>lvHas (p:=(Rat.divInt 2 1,Rat.divInt 2 1)) (VSv_later (show VSv 3 sqV _ w from(show VAt w (VSv 3 sqV) v0 Y from X0)) h.k.below) X1 sq_has1),(kr1 104 fun _ _ _ _ _ x0 X0=>⟨_,run_eqi rfl (x0.trans X0) rfl,congrArg Value.bool rfl⟩),ks,ks,(by refine kc fun _ ac Y h D=>?_;exact⟨#[.int .i64 4,.int .i64 1],by simp [eval_const],cR5Of (show Vi 4 (.int .i64 4) Y from rfl) (show Vi 1 (.int .i64 1) Y from rfl)⟩),(kd2 fun _ _ Y h v0 X0 v1 X1=>lvHas (p:=(Rat.divInt 4 1,Rat.divInt 1 1)) (VSv_later (show VSv 3 sqV _ w from(show VAt w (VSv 3 sqV) v0 Y from X0)) h.k.below) X1 sq_has0),(kr1 109 fun _ _ _ _ _ x0 X0=>⟨_,run_eqi rfl (x0.trans X0) rfl,congrArg Value.bool rfl⟩),ks,ks,ks,(by refine kc fun _ ac Y h D=>?_;exact⟨#[.int .i64 5,.int .i64 1],by simp [eval_const],cR5Of (show Vi 5 (.int .i64 5) Y from rfl) (show Vi 1 (.int .i64 1) Y from rfl)⟩),(kd2 fun _ _ Y h v0 X0 v1 X1=>lvHas (p:=(Rat.divInt 5 1,Rat.divInt 1 1)) (VSv_later (show VSv 3 sqV _ w from(show VAt w (VSv 3 sqV) v0 Y from X0)) h.k.below) X1 sq_hasN),(kr1 115 fun _ _ _ _ _ x0 X0=>⟨_,run_eqi rfl (x0.trans X0) rfl,congrArg Value.bool rfl⟩),ks,ks,ks,(by refine kc fun _ ac Y h D=>?_;exact⟨#[.int .i64 3,.int .i64 3],by simp [eval_const],cR5Of (show Vi 3 (.int .i64 3) Y from rfl) (show Vi 3 (.int .i64 3) Y from rfl)⟩),(kd2 fun _ _ Y h v0 X0 v1 X1=>lvHas (p:=(Rat.divInt 3 1,Rat.divInt 3 1)) (VSv_later (show VSv 3 anV _ w from(show VAt w (VSv 3 anV) v0 Y from X0)) h.k.below) X1 an_hasN),(kr1 121 fun _ _ _ _ _ x0 X0=>⟨_,run_eqi rfl (x0.trans X0) rfl,congrArg Value.bool rfl⟩),ks,ks,trivial⟩ ?_;intro a9 w9 st9;refine Wn ?_
 obtain⟨vr,r1,r4⟩:=st9.slot (0,Vb true) (.tail _ (.tail _ (.tail _ (.tail _ (.tail _ (.head _))))));exact wp_ret (bodyPost_ret (results_tmp rfl _ _ _) st9.defers ⟨_,congrArg Ending.returned (show _=vr from r1),r4,below_tr hbO st9.k.below⟩)
theorem sumQ_range (f:Nat->Rat)(j:Nat):sumQ f (List.range j)=sumT f j:=rfl
theorem sumT_tel (f g t:Nat->Rat)(h:∀k,g k=f k+(t k - t (k+1))):∀j,sumT g j=sumT f j+(t 0 - t j)
 |0=>by
  show(0:Rat)=0+(t 0 - t 0)
  grind
 |j+1=>by
  rw [sumT_succ,sumT_succ,sumT_tel f g t h j,h j]
  grind
theorem cv_len (vs:List P2):cv vs vs.length=cv vs 0:=by
 unfold cv;rw [Nat.mod_self,Nat.zero_mod]
theorem tr_cr (vs:List P2)(k:Nat):trK vs k=crK vs k+((cv vs k).1*(cv vs k).2 - (cv vs (k+1)).1*(cv vs (k+1)).2):=by
 unfold trK crK crs
 grind
theorem half_two:(Rat.divInt 1 2:Rat)=1 / 2:=by decide+kernel
theorem two_one:(Rat.divInt 2 1:Rat)=2:=by decide+kernel
theorem areaR_eq (vs:List P2):areaR vs=areaQ vs:=by
 unfold areaR areaQ twQ;rw [sumQ_range,sumT_tel (crK vs) (trK vs) (fun k=>(cv vs k).1*(cv vs k).2) (tr_cr vs),cv_len,half_two,two_one]
 grind
theorem fan (f:P2->Rat)(hf:(f=fun p=>p.1)∨f=fun p=>p.2)(vs:List P2):∀j,sumT (fun k=>(f (cv vs 0)+f (cv vs (k+1))+f (cv vs (k+2)))*prR vs k) j*6=sumT (fun k=>(f (cv vs k)+f (cv vs (k+1)))*crK vs k) (j+1) - (f (cv vs 0)+f (cv vs (j+1)))*crs (cv vs 0) (cv vs (j+1))
 |0=>by
  show(0:Rat)*6=0+(f (cv vs 0)+f (cv vs 1))*crK vs 0 - _;unfold crK
  grind
 |j+1=>by
  have h6:(Rat.divInt 1 6:Rat)=1 / 6:=by decide+kernel
  have ih:=fan f hf vs j;rw [sumT_succ,sumT_succ (fun k=>(f (cv vs k)+f (cv vs (k+1)))*crK vs k)];rw [Rat.add_mul,ih];unfold prR crK crs sbP;rw [h6];generalize cv vs 0=p0;generalize cv vs (j+1)=p1;generalize cv vs (j+1+1)=p2;show _ - _+_=_+(f p1+f p2)*_ - _;rcases hf with rfl|rfl<;>grind
theorem fan_all (f:P2->Rat)(hf:(f=fun p=>p.1)∨f=fun p=>p.2)(vs:List P2)(hn:2<=vs.length):sumT (fun k=>(f (cv vs 0)+f (cv vs (k+1))+f (cv vs (k+2)))*prR vs k) (vs.length - 2)*6=sumT (fun k=>(f (cv vs k)+f (cv vs (k+1)))*crK vs k) vs.length:=by
 rw [fan f hf vs];obtain⟨m,hm⟩:∃m,vs.length=m+2:=⟨vs.length - 2,by omega⟩
 have e:cv vs (m+1+1)=cv vs 0:=by
  have:=cv_len vs;rwa [hm] at this
 rw [show vs.length - 2+1=m+1 by omega,hm,show m+2=m+1+1 from rfl,sumT_succ (fun k=>(f (cv vs k)+f (cv vs (k+1)))*crK vs k) (m+1)];generalize sumT (fun k=>(f (cv vs k)+f (cv vs (k+1)))*crK vs k) (m+1)=A;unfold crK crs;rw [e]
 grind
theorem ctrR_eq (vs:List P2):ctrR vs=ctr vs:=by
 have h3:(Rat.divInt 1 3:Rat)=1 / 3:=by decide+kernel
 have h1:(Rat.divInt 1 1:Rat)=1:=by decide+kernel
 have ha:=areaR_eq vs;unfold areaQ at ha;rw [two_one] at ha;by_cases hz:(areaR vs).num=0
 ·have h0:areaR vs=0:=Rat.num_eq_zero.1 hz;have ht:twQ vs=0:=by rw [h0] at ha;grind
  rw [ctrR_zero hz];unfold ctr;rw [ht,h3,show((1 / 3:Rat) / 0)=0 by decide+kernel,Rat.mul_zero,Rat.mul_zero]
 ·have hne:areaR vs≠0:=fun e=>hz (by rw [e];rfl)
  have hn:2<=vs.length:=by
   rcases Nat.lt_or_ge vs.length 2 with h|h
   ·exfalso;apply hne;rw [areaR_eq];unfold areaQ twQ;rw [sumQ_range]
    match hl:vs.length,h with
    |0,_=>
     show(0:Rat) / _=0;rw [two_one];decide+kernel
    |1,_=>
     have e:cv vs 1=cv vs 0:=by have:=cv_len vs;rwa [hl] at this
     show(0+crK vs 0) / _=0;unfold crK crs;rw [two_one,e]
     grind
   ·exact h
  rw [ctrR_ne hz];have hx:=fan_all (fun p=>p.1) (.inl rfl) vs hn;have hy:=fan_all (fun p=>p.2) (.inr rfl) vs hn;have hx:sumT (ceX vs) (vs.length - 2)*6=sumT (cwX vs) vs.length:=hx;have hy:sumT (ceY vs) (vs.length - 2)*6=sumT (cwY vs) vs.length:=hy;unfold ctr;rw [sumQ_range,sumQ_range,<-hx,<-hy,h3,h1];have ht:twQ vs=2*areaR vs:=by rw [ha];grind
  rw [ht];generalize sumT (ceX vs) (vs.length - 2)=a;generalize sumT (ceY vs) (vs.length - 2)=b;generalize areaR vs=t at hne;exact Prod.ext (by show a*(1 / t)=a*6*(1 / 3 / (2*t));grind) (by show b*(1 / t)=b*6*(1 / 3 / (2*t));grind)
def VQ5 (b:Bool)(q:List P2):VP:=fun v w=>(b=true/\VSv 3 q v w)∨(b=false/\∃bl:List (P2×Bool),bl.length=q.length/\VSb 14 bl v w/\∃(i:Nat) (x:P2×Bool),bl[i]? =some x/\x.2=true)
theorem cNumbersQ {b:Bool}{q:List P2}{v:Value}{w:World}(h:VQ5 b q v w):Calls Tryz.prog 76 #[v] w (RV (Vb b) w):=by
 rcases h with⟨rfl,h⟩|⟨rfl,bl,-,h,hb⟩
 ·exact cR6Numbers (show VEq v v w from rfl) h
 ·exact cR6NumbersB (show VAt w (VSb 14 bl) v w from h) hb
section
variable {w:World}{lv v0 v1:Value}{vs:List P2}
theorem gBox (hS:VSv 3 vs lv w):Calls Tryz.prog 15 #[lv] w (RV (VTup (Vv 3 (bxL vs).1 (bxL vs).2) (Vv 3 (bxH vs).1 (bxH vs).2)) w):=by
 cases vs with
 |nil=>exact(cBoxNil (show VEq lv lv w from rfl) hS).mono fun _ _ h=>h.le fun _ _ ⟨x,y,e,h1,h2⟩=>⟨x,y,e,Vv_le h1 (by omega),Vv_le h2 (by omega)⟩
 |cons a xs=>exact cBoxCons (show VEq lv lv w from rfl) hS
theorem gArea (hS:VSv 3 vs lv w)(hn:vs.length<=14:=by omega):Calls Tryz.prog 20 #[lv] w (RV (Vq 900 (areaQ vs)) w):=
 (cArea (show VEq lv lv w from rfl) hS).mono fun _ _ h=>h.le fun _ _ h=>Vq_le h (by omega)
theorem gAreaR (hS:VSv 3 vs lv w)(hn:vs.length<=14:=by omega):Calls Tryz.prog 79 #[lv] w (RV (Vq 900 (areaQ vs)) w):=by
 rw [<-areaR_eq];exact(cR6Area (show VEq lv lv w from rfl) hS).mono fun _ _ h=>h.le fun _ _ h=>Vq_le h (by omega)
theorem gCtr (hS:VSv 3 vs lv w)(hn:vs.length<=14:=by omega):Calls Tryz.prog 22 #[lv] w (RV (Vv 3000 (ctr vs).1 (ctr vs).2) w):=
 (cCenter hS).mono fun _ _ h=>h.le fun _ _ h=>Vv_le h (by omega)
theorem gCtrR (hS:VSv 3 vs lv w)(hn:vs.length<=14:=by omega):Calls Tryz.prog 42 #[lv] w (RV (Vv 3000 (ctr vs).1 (ctr vs).2) w):=by
 rw [<-ctrR_eq];exact cR6Center (show VEq lv lv w from rfl) hS
end
theorem sumT_congr {f g:Nat->Rat}:∀{n:Nat},(∀k,k<n->f k=g k)->sumT f n=sumT g n
 |0,_=>rfl
 |n+1,h=>by rw [sumT_succ,sumT_succ,sumT_congr fun k hk=>h k (by omega),h n (by omega)]
def Fk (F:P2->P2->Rat)(vs:List P2)(k:Nat):Rat:=F (cv vs k) (cv vs (k+1))
theorem cv_of {vs:List P2}{k:Nat}{u:P2}(h:vs[k]? =some u):cv vs k=u:=by
 have hk:k<vs.length:=by
  rcases Nat.lt_or_ge k vs.length with h'|h'
  ·exact h'
  ·rw [List.getElem?_eq_none h'] at h;cases h
 have:=cv_gets hk;rw [h] at this;exact(Option.some.inj this).symm
theorem two_part (vs:List P2):areaQ vs=sumT (Fk crs vs) vs.length / 2:=by
 show sumQ (crK vs) (List.range vs.length) / Rat.divInt 2 1=_;rw [two_one];rfl
theorem third_one:(Rat.divInt 1 3:Rat)=1 / 3:=by decide+kernel
theorem sdR_eq (a b c:P2):sdR a b c=sdI a b c:=by
 unfold sdR sdI
 congr 2
 grind
theorem tnR_eq (vs:List P2)(k:Nat):tnR vs k=tn vs k:=sdR_eq _ _ _
theorem mts_symm (a b c d:P2):mts a b c d=mts c d a b:=by
 unfold mts ovl;rw [Bool.and_comm (decide (cmpV (loV a b) (hiV c d)<=0)),Bool.and_comm (prt a b c d)]
def MeetEq:Prop:=∀a b c d,meetsR a b c d=mts a b c d
theorem gp_ge {vs:List P2}{i k:Nat}(hi:i<vs.length)(hk:k<vs.length)(h:i<=k):gp vs i k=k - i:=by
 unfold gp;rw [show k+vs.length - i=(k - i)+vs.length by omega,Nat.add_mod_right,Nat.mod_eq_of_lt (by omega)]
theorem gp_lt {vs:List P2}{i k:Nat}(hi:i<vs.length)(h:k<i):gp vs i k=k+vs.length - i:=by
 unfold gp;rw [Nat.mod_eq_of_lt (by omega)]
theorem badR_lt {vs:List P2}(hM:MeetEq){i k:Nat}(hi:i<vs.length)(hk:k<vs.length)(h:i<k):badR vs i k=badB vs i k:=by
 unfold badR badB fol;rw [gp_ge hi hk (by omega),hM];by_cases h1:k=i+1
 ·subst h1;simp
 ·by_cases h2:i=0
  ·subst h2;by_cases h3:k+1=vs.length
   ·simp [h3]
   ·rw [dT (show 1<k - 0 by omega),dT (show k - 0+1<vs.length by omega),dT h,dF h1,dF h3];rfl
  ·rw [dT (show 1<k - i by omega),dT (show k - i+1<vs.length by omega),dT h,dF h1,dF h2];rfl
theorem badR_gt {vs:List P2}(hM:MeetEq){i k:Nat}(hi:i<vs.length)(hk:k<vs.length)(h:k<i):badR vs i k=badB vs k i:=by
 unfold badR badB fol;rw [gp_lt hi h,hM,mts_symm];by_cases h1:i=k+1
 ·subst h1;rw [dF (show ¬(k+vs.length - (k+1)+1<vs.length) by omega)];simp
 ·by_cases h2:k=0
  ·subst h2;by_cases h3:i+1=vs.length
   ·rw [dF (show ¬(1<0+vs.length - i) by omega)];simp [h3]
   ·rw [dT (show 1<0+vs.length - i by omega),dT (show 0+vs.length - i+1<vs.length by omega),dT h,dF h1,dF h3];rfl
  ·rw [dT (show 1<k+vs.length - i by omega),dT (show k+vs.length - i+1<vs.length by omega),dT h,dF h1,dF h2];rfl
theorem badR_self {vs:List P2}{i:Nat}(hi:i<vs.length):badR vs i i=false:=by
 unfold badR;rw [gp_ge hi hi (Nat.le_refl _),Nat.sub_self];rfl
theorem badB_le {vs:List P2}{i k:Nat}(h:k<=i):badB vs i k=false:=by
 unfold badB;rw [dF (by omega)];rfl
theorem okR_all (hM:MeetEq)(vs:List P2):decide (∀i∈List.range vs.length,okR vs i)=(bentP vs && simpleP vs):=by
 have key:(∀i∈List.range vs.length,okR vs i)↔(∀k∈List.range vs.length,¬tn vs k=0)/\∀k∈List.range vs.length,∀m∈List.range vs.length,badB vs k m=false:=by
  constructor
  ·intro h;refine⟨fun k hk=>by have:=(h k hk).1;rwa [tnR_eq] at this,fun k hk m hm=>?_⟩;rcases Nat.lt_or_ge k m with hkm|hkm
   ·rw [<-badR_lt hM (List.mem_range.1 hk) (List.mem_range.1 hm) hkm];exact(h k hk).2 m hm
   ·exact badB_le hkm
  ·rintro⟨h1,h2⟩ i hi
   refine⟨by rw [tnR_eq];exact h1 i hi,fun k hk=>?_⟩;rcases Nat.lt_trichotomy i k with hik|rfl|hik
   ·rw [badR_lt hM (List.mem_range.1 hi) (List.mem_range.1 hk) hik];exact h2 i hi k hk
   ·exact badR_self (List.mem_range.1 hi)
   ·rw [badR_gt hM (List.mem_range.1 hi) (List.mem_range.1 hk) hik];exact h2 k hk i hi
 unfold bentP simpleP;rw [decide_eq_decide.2 key,Bool.decide_and]
theorem validR_eq (hM:MeetEq)(vs:List P2):validR vs=validP vs:=by
 unfold validR validP;rw [okR_all hM,areaR_eq,Bool.and_assoc]
theorem convexR_eq (hM:MeetEq)(vs:List P2):convexR vs=convexP vs:=by
 unfold convexR convexP;rw [validR_eq hM]
 congr 1
 rw [decide_eq_decide];exact forall_congr' fun k=>forall_congr' fun _=>by rw [tnR_eq]
theorem cmpQ_cases (x y:Rat):cmpQ x y= -1∨cmpQ x y=0∨cmpQ x y=1:=cmpI_abs _ _
theorem ltQ_iff {x y:Rat}:ltQ x y=true↔x<y:=by
 unfold ltQ;rw [decide_eq_true_eq,<-cmpQ_lt];rcases cmpQ_cases x y with h|h|h<;>rw [h]<;>decide
theorem gtQ_iff {x y:Rat}:gtQ x y=true↔y<x:=by
 unfold gtQ;rw [decide_eq_true_eq,<-cmpQ_gt];rcases cmpQ_cases x y with h|h|h<;>rw [h]<;>decide
theorem btwB_iff {n a b c d:P2}:btwB n a b c d=true↔(dtP n a<dtP n c/\dtP n a<dtP n d/\dtP n b<dtP n c/\dtP n b<dtP n d)∨(dtP n c<dtP n a/\dtP n d<dtP n a/\dtP n c<dtP n b/\dtP n d<dtP n b):=by
 unfold btwB;simp only [Bool.or_eq_true,Bool.and_eq_true,ltQ_iff,gtQ_iff]
def sdD (a b p:P2):Rat:=(b.1 - a.1)*(p.2 - a.2) - (b.2 - a.2)*(p.1 - a.1)
theorem sdI_sdD (a b p:P2):sdI a b p=cmpI (sdD a b p).num 0:=by
 unfold sdI sdD
 congr 2
 grind
theorem cmpQ_zero (q:Rat):cmpQ q 0=cmpI q.num 0:=by
 unfold cmpQ;rw [show((0:Rat).den:Int)=1 from rfl,show(0:Rat).num=0 from rfl,Int.mul_one,Int.zero_mul]
theorem sign_cases (q:Rat):(q<0/\cmpI q.num 0= -1)∨(q=0/\cmpI q.num 0=0)∨(0<q/\cmpI q.num 0=1):=by
 rw [<-cmpQ_zero];rcases cmpQ_cases q 0 with h|h|h
 ·exact .inl ⟨cmpQ_lt.1 h,h⟩
 ·exact .inr (.inl ⟨cmpQ_eq.1 h,h⟩)
 ·exact .inr (.inr ⟨cmpQ_gt.1 h,h⟩)
theorem dt_qt (a b p:P2):dtP (qtP (sbP b a)) p=dtP (qtP (sbP b a)) a+sdD a b p:=by
 unfold dtP qtP sbP sdD
 grind
theorem dt_qt2 (a b:P2):dtP (qtP (sbP b a)) b=dtP (qtP (sbP b a)) a:=by
 unfold dtP qtP sbP
 grind
theorem prt_sep {a b c d:P2}(h:prt a b c d=false):btwB (qtP (sbP b a)) a b c d=true:=by
 rw [btwB_iff,dt_qt2,dt_qt a b c,dt_qt a b d];unfold prt at h;rw [decide_eq_false_iff_not,sdI_sdD,sdI_sdD] at h
 rcases sign_cases (sdD a b c)with⟨h1,h2⟩|⟨h1,h2⟩|⟨h1,h2⟩<;>rcases sign_cases (sdD a b d)with⟨h3,h4⟩|⟨h3,h4⟩|⟨h3,h4⟩<;>rw [h2,h4] at h<;>first
  |(exfalso;revert h;decide)
  |(left;refine⟨?_,?_,?_,?_⟩<;>grind)
  |(right;refine⟨?_,?_,?_,?_⟩<;>grind)
theorem prt_true {a b c d:P2}:prt a b c d=true↔¬(0<sdD a b c/\0<sdD a b d)/\¬(sdD a b c<0/\sdD a b d<0):=by
 unfold prt;rw [decide_eq_true_eq,sdI_sdD,sdI_sdD]
 rcases sign_cases (sdD a b c)with⟨h1,h2⟩|⟨h1,h2⟩|⟨h1,h2⟩<;>rcases sign_cases (sdD a b d)with⟨h3,h4⟩|⟨h3,h4⟩|⟨h3,h4⟩<;>rw [h2,h4]<;>constructor<;>intro h<;>first
  |(exfalso;revert h;decide)
  |decide
  |(constructor<;>rintro⟨h5,h6⟩<;>grind)
  |(exfalso;obtain⟨h5,h6⟩:=h;first|exact h5 ⟨h1,h3⟩|exact h6 ⟨h1,h3⟩)


def ptS (a b:P2)(s:Rat):P2:=(a.1+s*(b.1 - a.1),a.2+s*(b.2 - a.2))
def common (a b c d:P2):Prop:=∃s t:Rat,0<=s/\s<=1/\0<=t/\t<=1/\ptS a b s=ptS c d t
theorem dt_pt (n a b:P2)(s:Rat):dtP n (ptS a b s)=dtP n a+s*(dtP n b - dtP n a):=by
 unfold dtP ptS
 grind
theorem mul_le' {s x:Rat}(h0:0<=s)(h1:s<=1):(0<=x->0<=s*x/\s*x<=x)/\(x<=0->s*x<=0/\x<=s*x):=by
 refine⟨fun hx=>?_,fun hx=>?_⟩
 ·have a1:=Rat.mul_nonneg h0 hx;have a2:=Rat.mul_nonneg (show 0<=1 - s by grind) hx;exact⟨a1,by grind⟩
 ·have a1:=Rat.mul_nonneg h0 (show 0<= -x by grind);have a2:=Rat.mul_nonneg (show 0<=1 - s by grind) (show 0<= -x by grind);exact⟨by grind,by grind⟩
theorem common_sep {a b c d:P2}(h:common a b c d)(n:P2):¬(dtP n a<dtP n c/\dtP n a<dtP n d/\dtP n b<dtP n c/\dtP n b<dtP n d):=by
 rintro⟨h1,h2,h3,h4⟩
 obtain⟨s,t,s0,s1,t0,t1,e⟩:=h;have e2:=congrArg (dtP n) e;rw [dt_pt,dt_pt] at e2;generalize dtP n a=A at*
 generalize dtP n b=B at*
 generalize dtP n c=C at*
 generalize dtP n d=D at*
 have p:=mul_le' (x:=B - A) s0 s1;have q:=mul_le' (x:=D - C) t0 t1;rcases Rat.le_total (a:=0) (b:=B - A)with hp|hp<;>rcases Rat.le_total (a:=0) (b:=D - C)with hq|hq
 ·have:=p.1 hp;have:=q.1 hq;grind
 ·have:=p.1 hp;have:=q.2 hq;grind
 ·have:=p.2 hp;have:=q.1 hq;grind
 ·have:=p.2 hp;have:=q.2 hq;grind
theorem common_symm {a b c d:P2}(h:common a b c d):common c d a b:=by
 obtain⟨s,t,s0,s1,t0,t1,e⟩:=h;exact⟨t,s,t0,t1,s0,s1,e.symm⟩
theorem common_btw {a b c d:P2}(h:common a b c d)(n:P2):btwB n a b c d=false:=by
 rw [<-Bool.not_eq_true,btwB_iff]
 rintro(h1|⟨h1,h2,h3,h4⟩)
 ·exact common_sep h n h1
 ·exact common_sep (common_symm h) n ⟨h1,h3,h2,h4⟩
theorem common_meetsR {a b c d:P2}(h:common a b c d):meetsR a b c d=true:=dT fun _ _=>common_btw h _
theorem frac_range {x y t:Rat}(ht:t*(x - y)=x)(hne:x - y≠0)(h1:¬(0<x/\0<y))(h2:¬(x<0/\y<0)):0<=t/\t<=1:=by
 rcases Rat.le_total (a:=0) (b:=x - y)with hs|hs
 ·have hp:0<x - y:=Rat.lt_of_le_of_ne hs (fun e=>hne e.symm);refine⟨?_,?_⟩
  ·rcases Rat.le_total (a:=0) (b:=t)with h|h
   ·exact h
   ·have:=Rat.mul_nonneg (show 0<= -t by grind) hs;have hx:x<=0:=by grind
    have:¬x<0:=fun hx2=>h2 ⟨hx2,by grind⟩
    have hx0:x=0:=by grind
    rw [hx0] at ht;rcases Rat.mul_eq_zero.1 ht with h0|h0
    ·rw [h0];exact Rat.le_refl
    ·exact absurd (by rw [hx0];exact h0) hne
  ·rcases Rat.le_total (a:=t) (b:=1)with h|h
   ·exact h
   ·have:=Rat.mul_nonneg (show 0<=t - 1 by grind) hs;have hy:0<=y:=by grind
    have hx:0<x:=by grind
    have:¬0<y:=fun hy2=>h1 ⟨hx,hy2⟩
    have hy0:y=0:=by grind
    have e:(t - 1)*(x - y)=0:=by grind
    rcases Rat.mul_eq_zero.1 e with h0|h0
    ·have:t=1:=by grind
     rw [this];exact Rat.le_refl
    ·exact absurd h0 hne
 ·have hp:0<y - x:=by
   have:y - x≠0:=fun e=>hne (by grind)
   exact Rat.lt_of_le_of_ne (by grind) (fun e=>this e.symm)
  have hs':0<=y - x:=by grind
  refine⟨?_,?_⟩
  ·rcases Rat.le_total (a:=0) (b:=t)with h|h
   ·exact h
   ·have:=Rat.mul_nonneg (show 0<= -t by grind) hs';have hx:0<=x:=by grind
    have:¬0<x:=fun hx2=>h1 ⟨hx2,by grind⟩
    have hx0:x=0:=by grind
    rw [hx0] at ht;rcases Rat.mul_eq_zero.1 ht with h0|h0
    ·rw [h0];exact Rat.le_refl
    ·exact absurd (by rw [hx0];exact h0) hne
  ·rcases Rat.le_total (a:=t) (b:=1)with h|h
   ·exact h
   ·have:=Rat.mul_nonneg (show 0<=t - 1 by grind) hs';have hy:y<=0:=by grind
    have hx:x<0:=by grind
    have:¬y<0:=fun hy2=>h2 ⟨hx,hy2⟩
    have hy0:y=0:=by grind
    have e:(t - 1)*(x - y)=0:=by grind
    rcases Rat.mul_eq_zero.1 e with h0|h0
    ·have:t=1:=by grind
     rw [this];exact Rat.le_refl
    ·exact absurd h0 hne
theorem div_mul' {x k:Rat}(h:k≠0):x / k*k=x:=Rat.div_mul_cancel h
theorem cross_common {a b c d:P2}(h1:prt a b c d=true)(h2:prt c d a b=true)(hK:sdD a b c - sdD a b d≠0):common a b c d:=by
 rw [prt_true] at h1 h2;have hE:sdD c d a - sdD c d b= -(sdD a b c - sdD a b d):=by unfold sdD;grind
 have hK2:sdD c d a - sdD c d b≠0:=fun e=>hK (by rw [hE] at e;grind)
 have ht:=div_mul' (x:=sdD a b c) hK;have hs:=div_mul' (x:=sdD c d a) hK2;obtain⟨t,et⟩:∃t,sdD a b c / (sdD a b c - sdD a b d)=t:=⟨_,rfl⟩;obtain⟨s,es⟩:∃s,sdD c d a / (sdD c d a - sdD c d b)=s:=⟨_,rfl⟩;rw [et] at ht;rw [es] at hs;have rt:=frac_range ht hK h1.1 h1.2;have rs:=frac_range hs hK2 h2.1 h2.2;refine⟨s,t,rs.1,rs.2,rt.1,rt.2,?_⟩;rw [hE] at hs
 have e1:(sdD a b c - sdD a b d)*((ptS a b s).1 - (ptS c d t).1)=0:=by
  unfold ptS sdD at*
  grind
 have e2:(sdD a b c - sdD a b d)*((ptS a b s).2 - (ptS c d t).2)=0:=by
  unfold ptS sdD at*
  grind
 have e1':=(Rat.mul_eq_zero.1 e1).resolve_left hK;have e2':=(Rat.mul_eq_zero.1 e2).resolve_left hK;exact Prod.ext (by grind) (by grind)
def lexlt (x y:P2):Prop:=x.1<y.1∨(x.1=y.1/\x.2<y.2)
theorem cmpV_pos {x y:P2}:0<cmpV x y↔lexlt y x:=by
 unfold cmpV lexlt;rcases cmpQ_cases x.1 y.1 with h|h|h
 ·have:=cmpQ_lt.1 h;rw [h,if_neg (by decide)];constructor
  ·intro h2;exact absurd h2 (by decide)
  ·rintro(h2|⟨h2,-⟩)<;>grind
 ·have e:=cmpQ_eq.1 h;rw [h,if_pos rfl];rcases cmpQ_cases x.2 y.2 with k|k|k<;>rw [k]
  ·have:=cmpQ_lt.1 k;constructor
   ·intro h2;exact absurd h2 (by decide)
   ·rintro(h2|⟨-,h2⟩)<;>grind
  ·have:=cmpQ_eq.1 k;constructor
   ·intro h2;exact absurd h2 (by decide)
   ·rintro(h2|⟨-,h2⟩)<;>grind
  ·have:=cmpQ_gt.1 k;exact⟨fun _=> .inr ⟨e.symm,this⟩,fun _=>by decide⟩
 ·have:=cmpQ_gt.1 h;rw [h,if_neg (by decide)];exact⟨fun _=> .inl this,fun _=>by decide⟩
theorem lex_trans {x y z:P2}(h:lexlt x y)(k:lexlt y z):lexlt x z:=by
 unfold lexlt at*
 rcases h with h|⟨h,h'⟩<;>rcases k with k|⟨k,k'⟩
 ·exact .inl (by grind)
 ·exact .inl (by grind)
 ·exact .inl (by grind)
 ·exact .inr ⟨h.trans k,by grind⟩
theorem lex_tri (x y:P2):lexlt x y∨x=y∨lexlt y x:=by
 unfold lexlt;rcases cmpQ_cases x.1 y.1 with h|h|h
 ·exact .inl (.inl (cmpQ_lt.1 h))
 ·have e:=cmpQ_eq.1 h;rcases cmpQ_cases x.2 y.2 with k|k|k
  ·exact .inl (.inr ⟨e,cmpQ_lt.1 k⟩)
  ·exact .inr (.inl (Prod.ext e (cmpQ_eq.1 k)))
  ·exact .inr (.inr (.inr ⟨e.symm,cmpQ_gt.1 k⟩))
 ·exact .inr (.inr (.inl (cmpQ_gt.1 h)))
def before (a b c d:P2):Prop:=lexlt a c/\lexlt a d/\lexlt b c/\lexlt b d
theorem hi_lo {a b c d:P2}:lexlt (hiV a b) (loV c d)↔before a b c d:=by
 unfold hiV loV before;constructor
 ·intro h;by_cases h1:0<cmpV a b<;>by_cases h2:0<cmpV c d<;>simp only [h1,h2,if_true,if_false] at h
  ·have k1:=cmpV_pos.1 h1;have k2:=cmpV_pos.1 h2;exact⟨lex_trans h k2,h,lex_trans k1 (lex_trans h k2),lex_trans k1 h⟩
  ·have k1:=cmpV_pos.1 h1;have k2:=fun k=>h2 (cmpV_pos.2 k)
   rcases lex_tri c d with k|rfl|k
   ·exact⟨h,lex_trans h k,lex_trans k1 h,lex_trans k1 (lex_trans h k)⟩
   ·exact⟨h,h,lex_trans k1 h,lex_trans k1 h⟩
   ·exact absurd k k2
  ·have k2:=cmpV_pos.1 h2;have k1:=fun k=>h1 (cmpV_pos.2 k)
   rcases lex_tri a b with k|rfl|k
   ·exact⟨lex_trans k (lex_trans h k2),lex_trans k h,lex_trans h k2,h⟩
   ·exact⟨lex_trans h k2,h,lex_trans h k2,h⟩
   ·exact absurd k k1
  ·have k1:=fun k=>h1 (cmpV_pos.2 k)
   have k2:=fun k=>h2 (cmpV_pos.2 k)
   have b1:∀z,lexlt b z->lexlt a z:=fun z hz=>by
    rcases lex_tri a b with k|rfl|k
    ·exact lex_trans k hz
    ·exact hz
    ·exact absurd k k1
   have c1:∀z,lexlt z c->lexlt z d:=fun z hz=>by
    rcases lex_tri c d with k|rfl|k
    ·exact lex_trans hz k
    ·exact hz
    ·exact absurd k k2
   exact⟨b1 _ h,c1 _ (b1 _ h),h,c1 _ h⟩
 ·rintro⟨h1,h2,h3,h4⟩
  split<;>split<;>assumption
theorem ovl_iff {a b c d:P2}:ovl a b c d=true↔¬before c d a b/\¬before a b c d:=by
 unfold ovl;rw [Bool.and_eq_true,decide_eq_true_eq,decide_eq_true_eq,<-hi_lo,<-hi_lo,<-cmpV_pos,<-cmpV_pos];constructor
 ·rintro⟨h1,h2⟩
  exact⟨by omega,by omega⟩
 ·rintro⟨h1,h2⟩
  exact⟨by omega,by omega⟩
def near (P:Rat->Prop):Prop:=∃e0:Rat,0<e0/\∀e,0<e->e<=e0->P e
theorem near_and {P Q:Rat->Prop}(h:near P)(k:near Q):near fun e=>P e/\Q e:=by
 obtain⟨x,x0,hx⟩:=h;obtain⟨y,y0,hy⟩:=k;rcases Rat.le_total (a:=x) (b:=y)with hxy|hxy
 ·exact⟨x,x0,fun e h1 h2=>⟨hx e h1 h2,hy e h1 (Rat.le_trans h2 hxy)⟩⟩
 ·exact⟨y,y0,fun e h1 h2=>⟨hx e h1 (Rat.le_trans h2 hxy),hy e h1 h2⟩⟩
theorem near_lex {x y:P2}(h:lexlt x y):near fun e=>dtP (1,e) x<dtP (1,e) y:=by
 have key:∀e:Rat,dtP (1,e) y - dtP (1,e) x=(y.1 - x.1)+e*(y.2 - x.2):=fun e=>by unfold dtP;grind
 rcases h with h|⟨h,h'⟩
 ·rcases Rat.le_total (a:=0) (b:=y.2 - x.2)with hq|hq
  ·refine⟨1,by decide,fun e h1 _=>?_⟩;have k:=key e;have:=Rat.mul_nonneg (Rat.le_of_lt h1) hq
   grind
  ·have hne:(1 - (y.2 - x.2))≠0:=by
    intro e
    grind
   have he:=div_mul' (x:=y.1 - x.1) hne;obtain⟨e0,q0⟩:∃e0,(y.1 - x.1) / (1 - (y.2 - x.2))=e0:=⟨_,rfl⟩;rw [q0] at he;refine⟨e0,?_,fun e h1 h2=>?_⟩
   ·rcases Rat.le_total (a:=e0) (b:=0)with hl|hl
    ·exfalso;have:=Rat.mul_nonneg (show 0<= -e0 by grind) (show 0<=1 - (y.2 - x.2) by grind)
     grind
    ·refine Rat.lt_of_le_of_ne hl fun e=>?_
     rw [<-e,Rat.zero_mul] at he
     grind
   ·have k:=key e;have:=Rat.mul_nonneg (show 0<=e0 - e by grind) (show 0<=1 - (y.2 - x.2) by grind)
    grind
 ·refine⟨1,by decide,fun e h1 _=>?_⟩;have k:=key e;have:=Rat.mul_pos h1 (show 0<y.2 - x.2 by grind)
  grind
theorem before_none {a b c d:P2}(h:before a b c d):¬common a b c d:=fun hc=>by
 obtain⟨h1,h2,h3,h4⟩:=h;obtain⟨e,e0,he⟩:=near_and (near_lex h1) (near_and (near_lex h2) (near_and (near_lex h3) (near_lex h4)));exact common_sep hc (1,e) (he e e0 Rat.le_refl)
theorem common_ovl {a b c d:P2}(h:common a b c d):ovl a b c d=true:=ovl_iff.2 ⟨fun k=>before_none k (common_symm h),fun k=>before_none k h⟩
theorem pt0 (a b:P2):ptS a b 0=a:=by unfold ptS;exact Prod.ext (by show a.1+0*_=a.1;grind) (by show a.2+0*_=a.2;grind)
theorem pt1 (a b:P2):ptS a b 1=b:=by unfold ptS;exact Prod.ext (by show a.1+1*(b.1 - a.1)=b.1;grind) (by show a.2+1*(b.2 - a.2)=b.2;grind)
theorem on_line {a b c:P2}(hab:a≠b)(h:sdD a b c=0):∃g:Rat,c=ptS a b g:=by
 unfold sdD at h;by_cases h1:b.1 - a.1=0
 ·have h2:b.2 - a.2≠0:=fun h2=>hab (Prod.ext (by grind) (by grind))
  have e:=div_mul' (x:=c.2 - a.2) h2
  have e2:c.1 - a.1=0:=by
   have:(b.2 - a.2)*(c.1 - a.1)=0:=by rw [h1] at h;grind
   exact(Rat.mul_eq_zero.1 this).resolve_left h2
  exact⟨(c.2 - a.2) / (b.2 - a.2),by unfold ptS;exact Prod.ext (by show c.1=a.1+_*(b.1 - a.1);rw [h1];grind) (by show c.2=a.2+_;rw [e];grind)⟩
 ·have e:=div_mul' (x:=c.1 - a.1) h1;refine⟨(c.1 - a.1) / (b.1 - a.1),?_⟩;unfold ptS;refine Prod.ext (by show c.1=a.1+_;rw [e];grind) ?_;show c.2=a.2+_*(b.2 - a.2);generalize(c.1 - a.1) / (b.1 - a.1)=g at e ⊢
  have:(b.1 - a.1)*(c.2 - a.2 - g*(b.2 - a.2))=0:=by
   rw [<-e] at h
   grind
  have:=(Rat.mul_eq_zero.1 this).resolve_left h1
  grind
theorem line_case (a b:P2)(g k:Rat):common a b (ptS a b g) (ptS a b k)∨(g<0/\k<0)∨(1<g/\1<k):=by
 by_cases h1:0<=g/\g<=1
 ·exact .inl ⟨g,0,h1.1,h1.2,by decide,by decide,(pt0 _ _).symm⟩
 by_cases h2:0<=k/\k<=1
 ·exact .inl ⟨k,1,h2.1,h2.2,by decide,by decide,(pt1 _ _).symm⟩
 by_cases h3:g<0/\k<0
 ·exact .inr (.inl h3)
 by_cases h4:1<g/\1<k
 ·exact .inr (.inr h4)
 left
 have hne:g - k≠0:=by
  intro e;have e2:g=k:=by grind
  subst e2
  grind
 have ht:=div_mul' (x:=g) hne;obtain⟨t,et⟩:∃t,g / (g - k)=t:=⟨_,rfl⟩;rw [et] at ht;have rt:=frac_range ht hne (by grind) h3;refine⟨0,t,by decide,by decide,rt.1,rt.2,?_⟩;rw [pt0];unfold ptS;exact Prod.ext (by show a.1=a.1+g*(b.1 - a.1)+t*(a.1+k*(b.1 - a.1) - (a.1+g*(b.1 - a.1)));grind) (by show a.2=a.2+g*(b.2 - a.2)+t*(a.2+k*(b.2 - a.2) - (a.2+g*(b.2 - a.2)));grind)
theorem sq_pos {a b:P2}(hab:a≠b):0<dtP (sbP b a) b - dtP (sbP b a) a:=by
 have e:dtP (sbP b a) b - dtP (sbP b a) a=(b.1 - a.1)*(b.1 - a.1)+(b.2 - a.2)*(b.2 - a.2):=by unfold dtP sbP;grind
 rw [e]
 have sq:∀x:Rat,0<=x*x/\(x≠0->0<x*x):=fun x=>by
  have h0:0<=x*x:=by
   rcases Rat.le_total (a:=0) (b:=x)with h|h
   ·exact Rat.mul_nonneg h h
   ·have:=Rat.mul_nonneg (show 0<= -x by grind) (show 0<= -x by grind)
    grind
  exact⟨h0,fun hx=>Rat.lt_of_le_of_ne h0 fun e=>(Rat.mul_eq_zero.1 e.symm).elim hx hx⟩
 have s1:=sq (b.1 - a.1);have s2:=sq (b.2 - a.2);by_cases h1:b.1 - a.1=0
 ·have h2:b.2 - a.2≠0:=fun h2=>hab (Prod.ext (by grind) (by grind))
  have:=s2.2 h2
  grind
 ·have:=s1.2 h1
  grind
theorem line_sep {a b:P2}(hab:a≠b){g k:Rat}(h:(g<0/\k<0)∨(1<g/\1<k)):btwB (sbP b a) a b (ptS a b g) (ptS a b k)=true:=by
 rw [btwB_iff,dt_pt,dt_pt];have hL:=sq_pos hab;generalize hA:dtP (sbP b a) a=A at*
 generalize hB:dtP (sbP b a) b=B at*
 rcases h with⟨h1,h2⟩|⟨h1,h2⟩
 ·have m1:=Rat.mul_pos (show 0< -g by grind) hL;have m2:=Rat.mul_pos (show 0< -k by grind) hL;right;refine⟨?_,?_,?_,?_⟩<;>grind
 ·have m1:=Rat.mul_pos (show 0<g - 1 by grind) hL;have m2:=Rat.mul_pos (show 0<k - 1 by grind) hL;left;refine⟨?_,?_,?_,?_⟩<;>grind
theorem lex_pt {a b:P2}{x y:Rat}(h:lexlt a b)(hxy:x<y):lexlt (ptS a b x) (ptS a b y):=by
 unfold ptS lexlt at*
 rcases h with h|⟨h,h'⟩
 ·have:=Rat.mul_pos (show 0<y - x by grind) (show 0<b.1 - a.1 by grind);exact .inl (by show a.1+x*(b.1 - a.1)<a.1+y*(b.1 - a.1);grind)
 ·have:=Rat.mul_pos (show 0<y - x by grind) (show 0<b.2 - a.2 by grind);exact .inr ⟨by show a.1+x*(b.1 - a.1)=a.1+y*(b.1 - a.1);rw [h];grind,by show a.2+x*(b.2 - a.2)<a.2+y*(b.2 - a.2);grind⟩
theorem lex_pt' {a b:P2}{x y:Rat}(h:lexlt b a)(hxy:x<y):lexlt (ptS a b y) (ptS a b x):=by
 unfold ptS lexlt at*
 rcases h with h|⟨h,h'⟩
 ·have:=Rat.mul_pos (show 0<y - x by grind) (show 0<a.1 - b.1 by grind);exact .inl (by show a.1+y*(b.1 - a.1)<a.1+x*(b.1 - a.1);grind)
 ·have:=Rat.mul_pos (show 0<y - x by grind) (show 0<a.2 - b.2 by grind);exact .inr ⟨by show a.1+y*(b.1 - a.1)=a.1+x*(b.1 - a.1);rw [h];grind,by show a.2+y*(b.2 - a.2)<a.2+x*(b.2 - a.2);grind⟩
theorem line_ovl {a b:P2}(hab:a≠b){g k:Rat}(h:(g<0/\k<0)∨(1<g/\1<k)):ovl a b (ptS a b g) (ptS a b k)=false:=by
 rw [<-Bool.not_eq_true,ovl_iff]
 rintro⟨n1,n2⟩
 have q0:=pt0 a b;have q1:=pt1 a b;have up:lexlt a b->∀x y:Rat,x<y->lexlt (ptS a b x) (ptS a b y):=fun l x y=>lex_pt l
 have dn:lexlt b a->∀x y:Rat,x<y->lexlt (ptS a b y) (ptS a b x):=fun l x y=>lex_pt' l
 rcases lex_tri a b with l|l|l
 ·rcases h with⟨h1,h2⟩|⟨h1,h2⟩
  ·have w1:=up l g 0 h1;have w2:=up l g 1 (by grind);have w3:=up l k 0 h2;have w4:=up l k 1 (by grind);rw [q0] at w1 w3;rw [q1] at w2 w4;exact n1 ⟨w1,w2,w3,w4⟩
  ·have w1:=up l 0 g (by grind);have w2:=up l 0 k (by grind);have w3:=up l 1 g h1;have w4:=up l 1 k h2;rw [q0] at w1 w2;rw [q1] at w3 w4;exact n2 ⟨w1,w2,w3,w4⟩
 ·exact hab l
 ·rcases h with⟨h1,h2⟩|⟨h1,h2⟩
  ·have w1:=dn l g 0 h1;have w2:=dn l k 0 h2;have w3:=dn l g 1 (by grind);have w4:=dn l k 1 (by grind);rw [q0] at w1 w2;rw [q1] at w3 w4;exact n2 ⟨w1,w2,w3,w4⟩
  ·have w1:=dn l 0 g (by grind);have w2:=dn l 1 g h1;have w3:=dn l 0 k (by grind);have w4:=dn l 1 k h2;rw [q0] at w1 w3;rw [q1] at w2 w4;exact n1 ⟨w1,w2,w3,w4⟩
theorem btw_symm {n a b c d:P2}(h:btwB n a b c d=true):btwB n c d a b=true:=by
 rw [btwB_iff] at*
 rcases h with⟨h1,h2,h3,h4⟩|⟨h1,h2,h3,h4⟩
 ·exact .inr ⟨h1,h3,h2,h4⟩
 ·exact .inl ⟨h1,h3,h2,h4⟩
theorem ovl_symm (a b c d:P2):ovl a b c d=ovl c d a b:=by unfold ovl;rw [Bool.and_comm]
theorem meetsR_false {a b c d n:P2}{i:Nat}(hi:i<5)(hn:(dirs a b c d).getD i (0,0)=n)(h:btwB n a b c d=true):meetsR a b c d=false:=dF fun k=>by
 have:=k i (List.mem_range.2 hi);rw [hn,h] at this;cases this
theorem both {a b c d:P2}(h1:prt a b c d=true)(h2:prt c d a b=true):common a b c d∨(ovl a b c d=false/\meetsR a b c d=false):=by
 by_cases hK:sdD a b c - sdD a b d=0
 ·have p1:=prt_true.1 h1;have p2:=prt_true.1 h2;by_cases hab:a=b
  ·by_cases hcd:c=d
   ·subst hab hcd;by_cases hac:a=c
    ·subst hac;exact .inl ⟨0,0,by decide,by decide,by decide,by decide,rfl⟩
    ·refine .inr ⟨?_,meetsR_false (n:=sbP c a) (i:=4) (by decide) rfl ?_⟩
     ·rw [<-Bool.not_eq_true,ovl_iff]
      rintro⟨n1,n2⟩
      rcases lex_tri a c with l|l|l
      ·exact n2 ⟨l,l,l,l⟩
      ·exact hac l
      ·exact n1 ⟨l,l,l,l⟩
     ·have:=sq_pos hac;rw [btwB_iff];left;refine⟨?_,?_,?_,?_⟩<;>grind
   ·subst hab;have e0:sdD c d a=0:=by grind
    obtain⟨g,hg⟩:=on_line hcd e0;rcases line_case c d g g with h|h
    ·left;rw [<-hg] at h;exact common_symm h
    ·right;have s1:=line_ovl hcd h;have s2:=line_sep hcd h;rw [<-hg] at s1 s2;exact⟨by rw [ovl_symm];exact s1,meetsR_false (i:=3) (by decide) rfl (btw_symm s2)⟩
  ·have e1:sdD a b c=0:=by grind
   have e2:sdD a b d=0:=by grind
   obtain⟨g,rfl⟩:=on_line hab e1;obtain⟨k,rfl⟩:=on_line hab e2;rcases line_case a b g k with h|h
   ·exact .inl h
   ·exact .inr ⟨line_ovl hab h,meetsR_false (i:=2) (by decide) rfl (line_sep hab h)⟩
 ·exact .inl (cross_common h1 h2 hK)
theorem meetEq:MeetEq:=fun a b c d=>by
 unfold mts;by_cases h1:prt a b c d=true
 ·by_cases h2:prt c d a b=true
  ·rw [h1,h2];rcases both h1 h2 with h|⟨h3,h4⟩
   ·rw [common_meetsR h,common_ovl h];rfl
   ·rw [h3,h4];rfl
  ·rw [Bool.not_eq_true] at h2;rw [h1,h2,meetsR_false (i:=1) (by decide) rfl (btw_symm (prt_sep h2))];simp
 ·rw [Bool.not_eq_true] at h1;rw [h1,meetsR_false (i:=0) (by decide) rfl (prt_sep h1)];simp
theorem validR_valid (vs:List P2):validR vs=validP vs:=validR_eq meetEq vs
theorem convexR_convex (vs:List P2):convexR vs=convexP vs:=convexR_eq meetEq vs
end Go.Proofs.YteacdbgalloaiaaGreat
