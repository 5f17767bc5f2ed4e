/- Contracts of the packages integer, rat, plane, polygon and their references. -/
import Derived.Test.YtjdkdjobaabdiaaGreatP40
import Derived.Test.YtjdkdjobaabdiaaGreatP36
import Derived.Test.YtjdkdjobaabdiaaGreatP43
set_option linter.unusedVariables false
set_option maxRecDepth 100000
set_option maxHeartbeats 6400000
namespace Go.Proofs.YtjdkdjobaabdiaaGreat
open Go.RowKit
open Go
theorem VI_64 {l:List Int}{v:Value}{w:World}(h:VI l v w):i64s l:=by
 obtain⟨a,m,c,-,-,-,h⟩:=h
 exact h
section
variable {w:World}{lv v0 v1 v2 v3:Value}{vs:List P2}{N M:Nat}
theorem same4T {a b:Rat}(h0:Vq N a v0 w)(h1:Vq M b v1 w)(hN:N<=9000)(hM:M<=9000)(e:a=b):Calls Tryz.prog 23 #[v0,v1] w (RV (Vb true) w):=
 (cR4Same (Vq_le h0 hN) (Vq_le h1 hM) (by omega)).mono fun _ _ h=>h.le fun _ _ hv=>hv.trans (congrArg Value.bool (dT e))
theorem same5T {a b c d:Rat}(h0:Vv N a b v0 w)(h1:Vv M c d v1 w)(hN:N<=9000)(hM:M<=9000)(e:a=c/\b=d):Calls Tryz.prog 26 #[v0,v1] w (RV (Vb true) w):=
 (cR5Same (Vv_le h0 hN) (Vv_le h1 hM) (by omega) (by omega)).mono fun _ _ h=>h.le fun _ _ hv=>hv.trans (congrArg Value.bool (dT e))
theorem lvArea {q:Rat}(hS:VSv 3 vs lv w)(hn:vs.length<=6)(hq:areaQ vs=q):Calls Tryz.prog 24 #[lv] w (RV (Vq 100 q) w):=by
 subst hq
 exact(cArea (show VEq lv lv w from rfl) hS (by omega) (by omega)).mono fun _ _ h=>h.le fun _ _ h=>Vq_le h (by omega)
theorem lvCtr {q:P2}(hS:VSv 3 vs lv w)(hn:vs.length<=6)(hq:ctr vs=q):Calls Tryz.prog 27 #[lv] w (RV (Vv 300 q.1 q.2) w):=by
 subst hq
 exact(cCenter hS (by omega) (by omega)).mono fun _ _ h=>h.le fun _ _ h=>Vv_le h (by omega)
theorem lvConvex {x:Bool}(hS:VSv 3 vs lv w)(hx:convexP vs=x):Calls Tryz.prog 16 #[lv] w (RV (Vb x) w):=by
 subst hx
 exact cConvex hS (by omega) (by omega)
theorem lvValid {x:Bool}(hS:VSv 3 vs lv w)(hx:validP vs=x):Calls Tryz.prog 14 #[lv] w (RV (Vb x) w):=
 cValidV (show VEq lv lv w from rfl) hS (by omega) (by omega) hx
theorem lvMeets {a b c d:P2}{x:Bool}(h0:Vv N a.1 a.2 v0 w)(h1:Vv N b.1 b.2 v1 w)(h2:Vv N c.1 c.2 v2 w)(h3:Vv N d.1 d.2 v3 w)(hN:1<=N)(hN2:N<=1000)(hx:mts a b c d=x):Calls Tryz.prog 34 #[v0,v1,v2,v3] w (RV (Vb x) w):=by
 subst hx
 exact cMeets h0 h1 h2 h3 hN hN2
theorem lvHas {p:P2}{x:Int}(hS:VSv 3 vs lv w)(h1:Vv 3 p.1 p.2 v1 w)(hx:hasI vs p=x):Calls Tryz.prog 30 #[lv,v1] w (RV (Vi x) w):=by
 subst hx
 exact cHas h1 hS (by omega) (by omega)
theorem lvBox (hS:VSv 3 anV lv w):Calls Tryz.prog 21 #[lv] w (RV (VTup (Vv 3 0 0) (Vv 3 (Rat.divInt 4 1) (Rat.divInt 4 1))) w):=by
 have h:=cBoxCons (show VEq lv lv w from rfl) (show VSv 3 ((0,0):: [(4,0),(4,2),(2,2),(2,4),(0,4)]) lv w from hS) (by omega) (by omega)
 have e1:bxL ((0,0):: [(4,0),(4,2),(2,2),(2,4),(0,4)])=((0,0):P2):=an_boxL
 have e2:bxH ((0,0):: [(4,0),(4,2),(2,2),(2,4),(0,4)])=((Rat.divInt 4 1,Rat.divInt 4 1):P2):=an_boxH
 rw [e1,e2] at h
 exact h
end
theorem cL6Lives {w:World}:Calls Tryz.prog 18 #[] w (RV (Vb true) w):=by
 go_enter Tryz.func18,Tryz.ntmps18
 generalize hA:(⟨_,_⟩:Act)=a0
 have st0:St w.heap.size w 124 [] [] a0 w:=by subst hA;exact St.begin rfl rfl (fun _ h=>absurd h (by simp))
 clear hA
 repeat first|apply Wq|apply Wb|apply Wk|apply Wx
 refine rH [(33,4,0),(35,8,0)] [Vb (false)] [] [(0,Vb (false))] st0 ⟨ks,trivial⟩ ?_
 intro a1 w1 st1
 clear st0
 repeat first|apply Wq|apply Wb|apply Wk|apply Wx
 refine rH [] [VI [0,0,4,0,4,4,0,4],VSv 3 (ofL [0,0,4,0,4,4,0,4] 4),VSv 3 (ofL [0,0,4,0,4,4,0,4] 4)] [] [(0,Vb (false)),(1,VSv 3 (ofL [0,0,4,0,4,4,0,4] 4))] st1 ⟨(km fun _ ac Y h D=>bslice_I8 rfl (fun _=>rfl)),(kd1 fun _ _ _ _ _ X0=>cOf6 (n:=4) X0 rfl (by omega) (by omega) (VI_64 X0)),ks,trivial⟩ ?_
 intro a2 w2 st2
 clear st1
 repeat first|apply Wq|apply Wb|apply Wk|apply Wx
 refine rH [] [VI [0,0,4,0,4,2,2,2,2,4,0,4],VSv 3 (ofL [0,0,4,0,4,2,2,2,2,4,0,4] 6),VSv 3 (ofL [0,0,4,0,4,2,2,2,2,4,0,4] 6)] [] [(0,Vb (false)),(1,VSv 3 (ofL [0,0,4,0,4,4,0,4] 4)),(2,VSv 3 (ofL [0,0,4,0,4,2,2,2,2,4,0,4] 6))] st2 ⟨(km fun _ ac Y h D=>bslice_I12 rfl (fun _=>rfl)),(kd1 fun _ _ _ _ _ X0=>cOf6 (n:=6) X0 rfl (by omega) (by omega) (VI_64 X0)),ks,trivial⟩ ?_
 intro a3 w3 st3
 clear st2
 replace st3:St w.heap.size w 124 [] [(0,Vb (false)),(1,VSv 3 (ofL [0,0,4,0,4,4,0,4] 4)),(2,VSv 3 (ofL [0,0,4,0,4,2,2,2,2,4,0,4] 6))] a3 w3:=st3
 obtain⟨u1,p1,s1⟩:=st3.sl (1,VSv 3 (ofL [0,0,4,0,4,4,0,4] 4)) (lS_mem rfl)
 obtain⟨u2,p2,s2⟩:=st3.sl (2,VSv 3 (ofL [0,0,4,0,4,2,2,2,2,4,0,4] 6)) (lS_mem rfl)
 rw [sq_ofL] at s1
 rw [an_ofL] at s2
 repeat first|apply Wq|apply Wb|apply Wk|apply Wx
 obtain⟨hbN,stB⟩:=st3.base [(1,VAt w3 (VSv 3 (sqV))),(2,VAt w3 (VSv 3 (anV)))] (Lq.2 ⟨⟨_,p1,s1⟩,(Lq.2 ⟨⟨_,p2,s2⟩,(fun _ h=>absurd h (by simp))⟩)⟩)
 clear st3
 obtain⟨wO,hren⟩:∃z,z=w:=⟨_,rfl⟩
 subst hren
 have hbO:=hbN
 clear hbN
 obtain⟨w,hren⟩:∃z,z=w3:=⟨_,rfl⟩
 subst hren
 have st3:St w.heap.size w 124 [] [(1,VAt w (VSv 3 (sqV))),(2,VAt w (VSv 3 (anV)))] a3 w:=stB
 clear stB
 clear p1 s1 p2 s2
 repeat first|apply Wq|apply Wb|apply Wk|apply Wx
 refine rH [(33,4,0),(35,8,0)] [Vq 3 (Rat.divInt (5) (3)),VT,VT] [⟨3,some 1,some 2,33,4,Vq 3 (Rat.divInt (5) (3)),VT⟩] [(1,VAt w (VSv 3 (sqV))),(2,VAt w (VSv 3 (anV)))] st3 ⟨(by refine kc fun _ ac Y h D=>?_;exact⟨#[.int .i64 (5),.int .i64 (3)],by simp [eval_const],cR4Of (show Vi 5 (.int .i64 (5)) Y from rfl) (show Vi 3 (.int .i64 (3)) Y from rfl) (by omega) (by omega) (by omega) (by omega)⟩),ks,ks,trivial⟩ ?_
 intro a4 w4 st4
 clear st3
 repeat first|apply Wq|apply Wb|apply Wk|apply Wx
 refine rH [(33,4,0),(35,8,0)] [VAt w (VSv 3 (sqV)),Vb (true),Vb (false),Vb (false),VAt w (VSv 3 (anV)),Vb (true),Vb (false),Vb (false),Vb (false),VAt w (VSv 3 (anV)),Vb (false),Vb (false),Vb (false),VAt w (VSv 3 (sqV)),VAt w (VSv 3 (sqV.take 2)),Vb (false),Vb (false)] [⟨3,none,none,33,4,Vq 3 (Rat.divInt (5) (3)),VT⟩] [(1,VAt w (VSv 3 (sqV))),(2,VAt w (VSv 3 (anV))),(27,Vb (false))] st4 ⟨ks,(kd1 fun _ _ Y h v0 X0=>lvConvex (VSv_later (show VSv 3 (sqV) _ w from(show VAt w (VSv 3 (sqV)) v0 Y from X0)) h.k.below) sq_convex),ks,ks,ks,(kd1 fun _ _ Y h v0 X0=>lvValid (VSv_later (show VSv 3 (anV) _ w from(show VAt w (VSv 3 (anV)) v0 Y from X0)) h.k.below) an_valid),ks,ks,ks,ks,(kd1 fun _ _ Y h v0 X0=>lvConvex (VSv_later (show VSv 3 (anV) _ w from(show VAt w (VSv 3 (anV)) v0 Y from X0)) h.k.below) an_convex),ks,ks,ks,(kr1 24 fun _ _ _ _ _ x0 X0=>take_Sv rfl x0 X0 rfl rfl (by decide) (by decide)),(kd1 fun _ _ Y h v0 X0=>lvValid (VSv_later (show VSv 3 (sqV.take 2) _ w from(show VAt w (VSv 3 (sqV.take 2)) v0 Y from X0)) h.k.below) sq_two),ks,trivial⟩ ?_
 intro a5 w5 st5
 clear st4
 repeat first|apply Wq|apply Wb|apply Wk|apply Wx
 refine cF st5 ?_
 repeat first|apply Wq|apply Wb|apply Wk|apply Wx
 refine rH [(33,4,0),(35,8,0)] [VAt w (VSv 3 (sqV)),Vq 100 (Rat.divInt 16 1),Vq 3 (Rat.divInt (16) (1)),Vb (true),Vb (false),Vb (false),VAt w (VSv 3 (anV)),Vq 100 (Rat.divInt 12 1),Vq 3 (Rat.divInt (12) (1)),Vb (true),Vb (false),Vb (false),Vb (false),VAt w (VSv 3 (sqV)),Vv 300 (Rat.divInt 2 1) (Rat.divInt 2 1),Vv 3 (Rat.divInt (2) 1) (Rat.divInt (2) 1),Vb (true),Vb (false),Vb (false),Vb (false),VAt w (VSv 3 (anV)),Vv 300 (Rat.divInt 5 3) (Rat.divInt 5 3),Vq 3 (Rat.divInt (5) (3)),Vq 3 (Rat.divInt (5) (3)),Vv 3 (Rat.divInt (5) (3)) (Rat.divInt (5) (3)),Vb (true),Vb (false),Vb (false)] [⟨3,none,none,33,4,Vq 3 (Rat.divInt (5) (3)),VT⟩] [(1,VAt w (VSv 3 (sqV))),(2,VAt w (VSv 3 (anV))),(27,Vb (false)),(55,Vb (false))] st5 ⟨ks,(kd1 fun _ _ Y h v0 X0=>lvArea (VSv_later (show VSv 3 (sqV) _ w from(show VAt w (VSv 3 (sqV)) v0 Y from X0)) h.k.below) (by decide) sq_area),(by refine kc fun _ ac Y h D=>?_;exact⟨#[.int .i64 (16),.int .i64 (1)],by simp [eval_const],cR4Of (show Vi 16 (.int .i64 (16)) Y from rfl) (show Vi 1 (.int .i64 (1)) Y from rfl) (by omega) (by omega) (by omega) (by omega)⟩),(kd2 fun _ _ _ _ _ X0 _ X1=>same4T X0 X1 (by omega) (by omega) rfl),ks,ks,ks,(kd1 fun _ _ Y h v0 X0=>lvArea (VSv_later (show VSv 3 (anV) _ w from(show VAt w (VSv 3 (anV)) v0 Y from X0)) h.k.below) (by decide) an_area),(by refine kc fun _ ac Y h D=>?_;exact⟨#[.int .i64 (12),.int .i64 (1)],by simp [eval_const],cR4Of (show Vi 12 (.int .i64 (12)) Y from rfl) (show Vi 1 (.int .i64 (1)) Y from rfl) (by omega) (by omega) (by omega) (by omega)⟩),(kd2 fun _ _ _ _ _ X0 _ X1=>same4T X0 X1 (by omega) (by omega) rfl),ks,ks,ks,ks,(kd1 fun _ _ Y h v0 X0=>lvCtr (VSv_later (show VSv 3 (sqV) _ w from(show VAt w (VSv 3 (sqV)) v0 Y from X0)) h.k.below) (by decide) sq_ctr),(by refine kc fun _ ac Y h D=>?_;exact⟨#[.int .i64 (2),.int .i64 (2)],by simp [eval_const],cR5Of (show Vi 2 (.int .i64 (2)) Y from rfl) (show Vi 2 (.int .i64 (2)) Y from rfl) (by omega) (by omega) (by omega) (by omega)⟩),(kd2 fun _ _ _ _ _ X0 _ X1=>same5T X0 X1 (by omega) (by omega) ⟨rfl,rfl⟩),ks,ks,ks,ks,(kd1 fun _ _ Y h v0 X0=>lvCtr (VSv_later (show VSv 3 (anV) _ w from(show VAt w (VSv 3 (anV)) v0 Y from X0)) h.k.below) (by decide) an_ctr),ks,ks,(kr2 50 51 fun _ _ _ _ _ x0 X0 _ x1 X1=>build_Vec rfl x0 x1 (AggV_Vq _ _) (AggV_Vq _ _) X0 X1),(kd2 fun _ _ _ _ _ X0 _ X1=>same5T X0 X1 (by omega) (by omega) ⟨rfl,rfl⟩),ks,ks,trivial⟩ ?_
 intro a6 w6 st6
 clear st5
 repeat first|apply Wq|apply Wb|apply Wk|apply Wx
 refine cF st6 ?_
 repeat first|apply Wq|apply Wb|apply Wk|apply Wx
 refine rH [(33,4,0),(35,8,0)] [VAt w (VSv 3 (anV)),VTup (Vv 3 (0) (0)) (Vv 3 (Rat.divInt 4 1) (Rat.divInt 4 1)),VTup (Vv 3 (0) (0)) (Vv 3 (Rat.divInt 4 1) (Rat.divInt 4 1)),Vv 3 (0) (0),Vv 3 (Rat.divInt 4 1) (Rat.divInt 4 1),VT,VT,VT,VT] [⟨3,none,none,33,4,Vq 3 (Rat.divInt (5) (3)),VT⟩,⟨4,some 5,some 7,35,8,Vv 3 (0) (0),VT⟩,⟨5,some 6,some 8,35,8,Vv 3 (Rat.divInt 4 1) (Rat.divInt 4 1),VT⟩] [(1,VAt w (VSv 3 (sqV))),(2,VAt w (VSv 3 (anV))),(27,Vb (false)),(55,Vb (false))] st6 ⟨ks,(kd1 fun _ _ Y h v0 X0=>lvBox (VSv_later (show VSv 3 (anV) _ w from(show VAt w (VSv 3 (anV)) v0 Y from X0)) h.k.below)),ks,ks,ks,ks,ks,ks,ks,trivial⟩ ?_
 intro a7 w7 st7
 clear st6
 repeat first|apply Wq|apply Wb|apply Wk|apply Wx
 refine rH [(33,4,0),(35,8,0)] [Vv 3 (0) (0),Vv 1 (0) (0),Vb (true),Vb (false),Vb (false),Vv 3 (Rat.divInt 4 1) (Rat.divInt 4 1),Vv 3 (Rat.divInt (4) 1) (Rat.divInt (4) 1),Vb (true),Vb (false),Vb (false),Vb (false),VAt w (VSv 3 (sqV)),VAt w (VEp 35 8 (Vv 3 ((0,0):P2).1 ((0,0):P2).2)),Vv 3 (((0,0):P2).1) (((0,0):P2).2),VAt w (VSv 3 (sqV)),VAt w (VEp 35 8 (Vv 3 ((4,4):P2).1 ((4,4):P2).2)),Vv 3 (((4,4):P2).1) (((4,4):P2).2),VAt w (VSv 3 (sqV)),VAt w (VEp 35 8 (Vv 3 ((4,0):P2).1 ((4,0):P2).2)),Vv 3 (((4,0):P2).1) (((4,0):P2).2),VAt w (VSv 3 (sqV)),VAt w (VEp 35 8 (Vv 3 ((0,4):P2).1 ((0,4):P2).2)),Vv 3 (((0,4):P2).1) (((0,4):P2).2),Vb (true),Vb (false),Vb (false),Vb (false),VAt w (VSv 3 (sqV)),VAt w (VEp 35 8 (Vv 3 ((0,0):P2).1 ((0,0):P2).2)),Vv 3 (((0,0):P2).1) (((0,0):P2).2),VAt w (VSv 3 (sqV)),VAt w (VEp 35 8 (Vv 3 ((4,0):P2).1 ((4,0):P2).2)),Vv 3 (((4,0):P2).1) (((4,0):P2).2),VAt w (VSv 3 (sqV)),VAt w (VEp 35 8 (Vv 3 ((4,4):P2).1 ((4,4):P2).2)),Vv 3 (((4,4):P2).1) (((4,4):P2).2),VAt w (VSv 3 (sqV)),VAt w (VEp 35 8 (Vv 3 ((0,4):P2).1 ((0,4):P2).2)),Vv 3 (((0,4):P2).1) (((0,4):P2).2),Vb (false),Vb (false)] [⟨3,none,none,33,4,Vq 3 (Rat.divInt (5) (3)),VT⟩,⟨4,none,none,35,8,Vv 3 (0) (0),VT⟩,⟨5,none,none,35,8,Vv 3 (Rat.divInt 4 1) (Rat.divInt 4 1),VT⟩] [(1,VAt w (VSv 3 (sqV))),(2,VAt w (VSv 3 (anV))),(27,Vb (false)),(55,Vb (false)),(101,Vb (false))] st7 ⟨ks,(kr fun _ ac Y h D=>build_Vec0 rfl),(kd2 fun _ _ _ _ _ X0 _ X1=>same5T X0 X1 (by omega) (by omega) ⟨rfl,rfl⟩),ks,ks,ks,(by refine kc fun _ ac Y h D=>?_;exact⟨#[.int .i64 (4),.int .i64 (4)],by simp [eval_const],cR5Of (show Vi 4 (.int .i64 (4)) Y from rfl) (show Vi 4 (.int .i64 (4)) Y from rfl) (by omega) (by omega) (by omega) (by omega)⟩),(kd2 fun _ _ _ _ _ X0 _ X1=>same5T X0 X1 (by omega) (by omega) ⟨rfl,rfl⟩),ks,ks,ks,ks,(kr1 72 fun _ _ Y _ v0 x0 X0=>index_Sv (j:=0) (a:=((0,0):P2)) rfl x0 (show VEq v0 v0 Y from rfl) X0 rfl rfl rfl),(by refine kr fun _ ac Y h D=>?_;obtain⟨v0,x0,X0⟩:=h.dp D 73;exact load_EpC (w:=w) (k:=8) (A:=Vv 3 ((0,0):P2).1 ((0,0):P2).2) (Stab_Vv _ _ _) rfl x0 X0 h.k.below Tryz.underlying35 rfl size_Vec),ks,(kr1 75 fun _ _ Y _ v0 x0 X0=>index_Sv (j:=2) (a:=((4,4):P2)) rfl x0 (show VEq v0 v0 Y from rfl) X0 rfl rfl rfl),(by refine kr fun _ ac Y h D=>?_;obtain⟨v0,x0,X0⟩:=h.dp D 76;exact load_EpC (w:=w) (k:=8) (A:=Vv 3 ((4,4):P2).1 ((4,4):P2).2) (Stab_Vv _ _ _) rfl x0 X0 h.k.below Tryz.underlying35 rfl size_Vec),ks,(kr1 78 fun _ _ Y _ v0 x0 X0=>index_Sv (j:=1) (a:=((4,0):P2)) rfl x0 (show VEq v0 v0 Y from rfl) X0 rfl rfl rfl),(by refine kr fun _ ac Y h D=>?_;obtain⟨v0,x0,X0⟩:=h.dp D 79;exact load_EpC (w:=w) (k:=8) (A:=Vv 3 ((4,0):P2).1 ((4,0):P2).2) (Stab_Vv _ _ _) rfl x0 X0 h.k.below Tryz.underlying35 rfl size_Vec),ks,(kr1 81 fun _ _ Y _ v0 x0 X0=>index_Sv (j:=3) (a:=((0,4):P2)) rfl x0 (show VEq v0 v0 Y from rfl) X0 rfl rfl rfl),(by refine kr fun _ ac Y h D=>?_;obtain⟨v0,x0,X0⟩:=h.dp D 82;exact load_EpC (w:=w) (k:=8) (A:=Vv 3 ((0,4):P2).1 ((0,4):P2).2) (Stab_Vv _ _ _) rfl x0 X0 h.k.below Tryz.underlying35 rfl size_Vec),(by refine kc fun _ ac Y h D=>?_;obtain⟨v0,x0,X0⟩:=h.dp D 74;obtain⟨v1,x1,X1⟩:=h.dp D 77;obtain⟨v2,x2,X2⟩:=h.dp D 80;obtain⟨v3,x3,X3⟩:=h.dp D 83;exact⟨#[v0,v1,v2,v3],by simp [x0,x1,x2,x3],lvMeets X0 X1 X2 X3 (by omega) (by omega) sq_mts⟩),ks,ks,ks,ks,(kr1 88 fun _ _ Y _ v0 x0 X0=>index_Sv (j:=0) (a:=((0,0):P2)) rfl x0 (show VEq v0 v0 Y from rfl) X0 rfl rfl rfl),(by refine kr fun _ ac Y h D=>?_;obtain⟨v0,x0,X0⟩:=h.dp D 89;exact load_EpC (w:=w) (k:=8) (A:=Vv 3 ((0,0):P2).1 ((0,0):P2).2) (Stab_Vv _ _ _) rfl x0 X0 h.k.below Tryz.underlying35 rfl size_Vec),ks,(kr1 91 fun _ _ Y _ v0 x0 X0=>index_Sv (j:=1) (a:=((4,0):P2)) rfl x0 (show VEq v0 v0 Y from rfl) X0 rfl rfl rfl),(by refine kr fun _ ac Y h D=>?_;obtain⟨v0,x0,X0⟩:=h.dp D 92;exact load_EpC (w:=w) (k:=8) (A:=Vv 3 ((4,0):P2).1 ((4,0):P2).2) (Stab_Vv _ _ _) rfl x0 X0 h.k.below Tryz.underlying35 rfl size_Vec),ks,(kr1 94 fun _ _ Y _ v0 x0 X0=>index_Sv (j:=2) (a:=((4,4):P2)) rfl x0 (show VEq v0 v0 Y from rfl) X0 rfl rfl rfl),(by refine kr fun _ ac Y h D=>?_;obtain⟨v0,x0,X0⟩:=h.dp D 95;exact load_EpC (w:=w) (k:=8) (A:=Vv 3 ((4,4):P2).1 ((4,4):P2).2) (Stab_Vv _ _ _) rfl x0 X0 h.k.below Tryz.underlying35 rfl size_Vec),ks,(kr1 97 fun _ _ Y _ v0 x0 X0=>index_Sv (j:=3) (a:=((0,4):P2)) rfl x0 (show VEq v0 v0 Y from rfl) X0 rfl rfl rfl),(by refine kr fun _ ac Y h D=>?_;obtain⟨v0,x0,X0⟩:=h.dp D 98;exact load_EpC (w:=w) (k:=8) (A:=Vv 3 ((0,4):P2).1 ((0,4):P2).2) (Stab_Vv _ _ _) rfl x0 X0 h.k.below Tryz.underlying35 rfl size_Vec),(by refine kc fun _ ac Y h D=>?_;obtain⟨v0,x0,X0⟩:=h.dp D 90;obtain⟨v1,x1,X1⟩:=h.dp D 93;obtain⟨v2,x2,X2⟩:=h.dp D 96;obtain⟨v3,x3,X3⟩:=h.dp D 99;exact⟨#[v0,v1,v2,v3],by simp [x0,x1,x2,x3],lvMeets X0 X1 X2 X3 (by omega) (by omega) sq_mts2⟩),ks,trivial⟩ ?_
 intro a8 w8 st8
 clear st7
 repeat first|apply Wq|apply Wb|apply Wk|apply Wx
 refine cF st8 ?_
 repeat first|apply Wq|apply Wb|apply Wk|apply Wx
 refine rH [(33,4,0),(35,8,0)] [VAt w (VSv 3 (sqV)),Vv 3 (Rat.divInt (2) 1) (Rat.divInt (2) 1),Vi (1),Vb (true),Vb (true),VAt w (VSv 3 (sqV)),Vv 3 (Rat.divInt (4) 1) (Rat.divInt (1) 1),Vi (0),Vb (true),Vb (true),Vb (true),VAt w (VSv 3 (sqV)),Vv 3 (Rat.divInt (5) 1) (Rat.divInt (1) 1),Vi (-1),Vb (true),Vb (true),Vb (true),VAt w (VSv 3 (anV)),Vv 3 (Rat.divInt (3) 1) (Rat.divInt (3) 1),Vi (-1),Vb (true),Vb (true),Vb (true)] [⟨3,none,none,33,4,Vq 3 (Rat.divInt (5) (3)),VT⟩,⟨4,none,none,35,8,Vv 3 (0) (0),VT⟩,⟨5,none,none,35,8,Vv 3 (Rat.divInt 4 1) (Rat.divInt 4 1),VT⟩] [(1,VAt w (VSv 3 (sqV))),(2,VAt w (VSv 3 (anV))),(27,Vb (false)),(55,Vb (false)),(101,Vb (false)),(0,Vb (true))] st8 ⟨ks,(by refine kc fun _ ac Y h D=>?_;exact⟨#[.int .i64 (2),.int .i64 (2)],by simp [eval_const],cR5Of (show Vi 2 (.int .i64 (2)) Y from rfl) (show Vi 2 (.int .i64 (2)) Y from rfl) (by omega) (by omega) (by omega) (by omega)⟩),(kd2 fun _ _ Y h v0 X0 v1 X1=>lvHas (p:=(Rat.divInt (2) 1,Rat.divInt (2) 1)) (VSv_later (show VSv 3 (sqV) _ w from(show VAt w (VSv 3 (sqV)) v0 Y from X0)) h.k.below) X1 sq_has1),(by refine kr fun _ ac Y h D=>?_;obtain⟨v0,x0,X0⟩:=h.dp D 104;have hV0':v0= .int .i64 (1):=X0;exact⟨_,run_eqi rfl (x0.trans hV0') rfl,congrArg Value.bool (rfl)⟩),ks,ks,(by refine kc fun _ ac Y h D=>?_;exact⟨#[.int .i64 (4),.int .i64 (1)],by simp [eval_const],cR5Of (show Vi 4 (.int .i64 (4)) Y from rfl) (show Vi 1 (.int .i64 (1)) Y from rfl) (by omega) (by omega) (by omega) (by omega)⟩),(kd2 fun _ _ Y h v0 X0 v1 X1=>lvHas (p:=(Rat.divInt (4) 1,Rat.divInt (1) 1)) (VSv_later (show VSv 3 (sqV) _ w from(show VAt w (VSv 3 (sqV)) v0 Y from X0)) h.k.below) X1 sq_has0),(by refine kr fun _ ac Y h D=>?_;obtain⟨v0,x0,X0⟩:=h.dp D 109;have hV0':v0= .int .i64 (0):=X0;exact⟨_,run_eqi rfl (x0.trans hV0') rfl,congrArg Value.bool (rfl)⟩),ks,ks,ks,(by refine kc fun _ ac Y h D=>?_;exact⟨#[.int .i64 (5),.int .i64 (1)],by simp [eval_const],cR5Of (show Vi 5 (.int .i64 (5)) Y from rfl) (show Vi 1 (.int .i64 (1)) Y from rfl) (by omega) (by omega) (by omega) (by omega)⟩),(kd2 fun _ _ Y h v0 X0 v1 X1=>lvHas (p:=(Rat.divInt (5) 1,Rat.divInt (1) 1)) (VSv_later (show VSv 3 (sqV) _ w from(show VAt w (VSv 3 (sqV)) v0 Y from X0)) h.k.below) X1 sq_hasN),(by refine kr fun _ ac Y h D=>?_;obtain⟨v0,x0,X0⟩:=h.dp D 115;have hV0':v0= .int .i64 (-1):=X0;exact⟨_,run_eqi rfl (x0.trans hV0') rfl,congrArg Value.bool (rfl)⟩),ks,ks,ks,(by refine kc fun _ ac Y h D=>?_;exact⟨#[.int .i64 (3),.int .i64 (3)],by simp [eval_const],cR5Of (show Vi 3 (.int .i64 (3)) Y from rfl) (show Vi 3 (.int .i64 (3)) Y from rfl) (by omega) (by omega) (by omega) (by omega)⟩),(kd2 fun _ _ Y h v0 X0 v1 X1=>lvHas (p:=(Rat.divInt (3) 1,Rat.divInt (3) 1)) (VSv_later (show VSv 3 (anV) _ w from(show VAt w (VSv 3 (anV)) v0 Y from X0)) h.k.below) X1 an_hasN),(by refine kr fun _ ac Y h D=>?_;obtain⟨v0,x0,X0⟩:=h.dp D 121;have hV0':v0= .int .i64 (-1):=X0;exact⟨_,run_eqi rfl (x0.trans hV0') rfl,congrArg Value.bool (rfl)⟩),ks,ks,trivial⟩ ?_
 intro a9 w9 st9
 clear st8
 repeat first|apply Wq|apply Wb|apply Wk|apply Wx
 obtain⟨vr,r1,r4⟩:=st9.slot (0,Vb (true)) (.tail _ (.tail _ (.tail _ (.tail _ (.tail _ (.head _))))))
 exact wp_ret (bodyPost_ret (results_tmp rfl _ _ _) st9.defers ⟨_,congrArg Ending.returned (show _=vr from r1),r4,below_tr hbO st9.k.below⟩)
theorem cv_len (vs:List P2):cv vs vs.length=cv vs 0:=by
 unfold cv
 rw [Nat.mod_self,Nat.zero_mod]
theorem two_one:(Rat.divInt 2 1:Rat)=2:=by decide+kernel
def VQ5 (b:Bool)(q:List P2):VP:=fun v w=>(b=true/\VSv 3 q v w)∨(b=false/\∃bl:List (P2×Bool),bl.length=q.length/\VSb 14 bl v w/\∃(i:Nat) (x:P2×Bool),bl[i]? =some x/\x.2=true)
theorem Stab_VQ5 (b:Bool)(q:List P2):Stab [] (VQ5 b q):=fun _ _ _ h hr=>h.imp (fun h=>⟨h.1,Stab_VSvN _ _ _ h.2 hr⟩) fun ⟨h1,bl,hl,⟨hh,o,c,cs,e1,e2,e3,e4,e5,e6⟩,h3⟩=>⟨h1,bl,hl,⟨hh,o,c,cs,e1,e2,e3,(hr.row _ _ _ e4 (.inl (by simp))).trans e4,e5,fun i x hx=>Stab_EVb _ _ _ _ _ (e6 i x hx) hr⟩,h3⟩
instance (b:Bool)(q:List P2):Sb [] (VQ5 b q):=⟨Stab_VQ5 b q⟩
theorem cNumbersQ {b:Bool}{q:List P2}{v:Value}{w:World}(h:VQ5 b q v w):Calls Tryz.prog 20 #[v] w (RV (Vb b) w):=by
 rcases h with⟨rfl,h⟩|⟨rfl,bl,-,h,hb⟩
 ·exact cR6Numbers (show VEq v v w from rfl) h (by omega) (by omega)
 ·exact cR6NumbersB (show VAt w (VSb 14 bl) v w from h) hb (by omega) (by omega)
theorem len_VQ5 {ρ:Operand->Value}{o:Oper}{W:World}{x:Operand}{va:Value}{b:Bool}{q:List P2}(ho:o.op= .call {callee:= .builtin .len,args:=#[x],argTypes:=#[23]})(hty:o.type=3)(hx:ρ x=va)(h:VQ5 b q va W):∃v,(execOp ρ o).run Tryz.prog W= .ok (.value v) W/\Vi (q.length:Int) v W:=by
 rcases h with⟨-,h⟩|⟨-,bl,hl,h,-⟩
 ·exact len_SvA (w:=W) ho hty hx h
 ·rw [<-hl]
  exact len_Sb (w:=W) ho hty hx h
theorem VQ5_good {q:List P2}{v:Value}{w:World}(h:VQ5 true q v w):VSv 3 q v w:=by
 rcases h with⟨-,h⟩|⟨h,-⟩
 ·exact h
 ·cases h
section
variable {w:World}{lv v0 v1:Value}{vs:List P2}
theorem gArea (hS:VSv 3 vs lv w)(hn:vs.length<=14):Calls Tryz.prog 24 #[lv] w (RV (Vq 900 (areaQ vs)) w):=
 (cArea (show VEq lv lv w from rfl) hS (by omega) (by omega)).mono fun _ _ h=>h.le fun _ _ h=>Vq_le h (by omega)
theorem gCtr (hS:VSv 3 vs lv w)(hn:vs.length<=14):Calls Tryz.prog 27 #[lv] w (RV (Vv 3000 (ctr vs).1 (ctr vs).2) w):=
 (cCenter hS (by omega) (by omega)).mono fun _ _ h=>h.le fun _ _ h=>Vv_le h (by omega)
end
theorem sumT_split (f:Nat->Rat)(i:Nat):∀j,sumT f (i+j)=sumT f i+sumT (fun k=>f (i+k)) j
 |0=>by
  show sumT f i=sumT f i+0
  grind
 |j+1=>by
  rw [<-Nat.add_assoc,sumT_succ,sumT_succ,sumT_split f i j]
  grind
theorem sumT_congr {f g:Nat->Rat}:∀{n:Nat},(∀k,k<n->f k=g k)->sumT f n=sumT g n
 |0,_=>rfl
 |n+1,h=>by rw [sumT_succ,sumT_succ,sumT_congr fun k hk=>h k (by omega),h n (by omega)]
def Fk (F:P2->P2->Rat)(vs:List P2)(k:Nat):Rat:=F (cv vs k) (cv vs (k+1))
theorem cv_of {vs:List P2}{k:Nat}{u:P2}(h:vs[k]? =some u):cv vs k=u:=by
 have hk:k<vs.length:=by
  rcases Nat.lt_or_ge k vs.length with h'|h'
  ·exact h'
  ·rw [List.getElem?_eq_none h'] at h;cases h
 have:=cv_gets hk
 rw [h] at this
 exact(Option.some.inj this).symm
theorem parts (F:P2->P2->Rat)(hF:∀p q,F p q+F q p=0){P x y:List P2}{a b:Nat}(hab:a<=b)(hb:b<P.length)(hx:x=(P.take (b+1)).drop a)(hy:y=P.drop b++P.take (a+1)):
 sumT (Fk F x) x.length+sumT (Fk F y) y.length=sumT (Fk F P) P.length:=by
 obtain⟨m,hm⟩:∃m,b=a+m:=⟨b - a,by omega⟩
 obtain⟨r,hr⟩:∃r,P.length=b+r:=⟨P.length - b,by omega⟩
 have lx:x.length=m+1:=by rw [hx,List.length_drop,List.length_take];omega
 have ly:y.length=r+a+1:=by rw [hy,List.length_append,List.length_drop,List.length_take];omega
 have cx:∀k,k<=m->cv x k=cv P (a+k):=fun k hk=>cv_of (by
  rw [hx,List.getElem?_drop,List.getElem?_take,if_pos (by omega)]
  exact cv_gets (by omega))
 have c1:∀k,k<r->cv y k=cv P (b+k):=fun k hk=>cv_of (by
  rw [hy,List.getElem?_append_left (by rw [List.length_drop];omega),List.getElem?_drop]
  exact cv_gets (by omega))
 have c2:∀k,k<=a->cv y (r+k)=cv P k:=fun k hk=>cv_of (by
  rw [hy,List.getElem?_append_right (by rw [List.length_drop];omega),List.length_drop,show r+k - (P.length - b)=k by omega,List.getElem?_take,if_pos (by omega)]
  exact cv_gets (by omega))
 have ex:sumT (Fk F x) x.length=sumT (fun k=>Fk F P (a+k)) m+F (cv P b) (cv P a):=by
  rw [lx,sumT_succ]
  congr 1
  ·exact sumT_congr fun k hk=>by unfold Fk;rw [cx k (by omega),cx (k+1) (by omega)];rfl
  ·unfold Fk
   rw [cx m (Nat.le_refl _),<-hm,<-lx,cv_len,cx 0 (by omega)]
   rfl
 have ey:sumT (Fk F y) y.length=sumT (fun k=>Fk F P (b+k)) r+sumT (Fk F P) a+F (cv P a) (cv P b):=by
  rw [ly,sumT_succ,sumT_split]
  have e1:sumT (Fk F y) r=sumT (fun k=>Fk F P (b+k)) r:=sumT_congr fun k hk=>by
   unfold Fk
   rw [c1 k hk]
   congr 1
   by_cases h:k+1<r
   ·exact c1 (k+1) h
   ·obtain rfl:r=k+1:=by omega
    have:=c2 0 (by omega)
    rw [Nat.add_zero] at this
    rw [this,show b+k+1=P.length by omega,cv_len]
  have e2:sumT (fun k=>Fk F y (r+k)) a=sumT (Fk F P) a:=sumT_congr fun k hk=>by
   unfold Fk
   rw [c2 k (by omega),show r+k+1=r+(k+1) by omega,c2 (k+1) (by omega)]
  have e3:Fk F y (r+a)=F (cv P a) (cv P b):=by
   unfold Fk
   rw [c2 a (Nat.le_refl _),<-ly,cv_len]
   have:=c1 0 (by omega)
   rw [this]
   rfl
  rw [e1,e2,e3]
 have ep:sumT (Fk F P) P.length=sumT (Fk F P) a+sumT (fun k=>Fk F P (a+k)) m+sumT (fun k=>Fk F P (b+k)) r:=by
  rw [hr,sumT_split,hm,sumT_split]
 rw [ex,ey,ep]
 have:=hF (cv P a) (cv P b)
 grind
theorem two_part (vs:List P2):areaQ vs=sumT (Fk crs vs) vs.length / 2:=by
 show sumQ (crK vs) (List.range vs.length) / Rat.divInt 2 1=_
 rw [two_one]
 rfl
theorem parts_area {P x y:List P2}{a b:Nat}(hab:a<=b)(hb:b<P.length)(hx:x=(P.take (b+1)).drop a)(hy:y=P.drop b++P.take (a+1)):areaQ x+areaQ y=areaQ P:=by
 have h:=parts crs (fun p q=>by unfold crs;grind) hab hb hx hy
 rw [two_part,two_part,two_part,<-h]
 grind
theorem third_one:(Rat.divInt 1 3:Rat)=1 / 3:=by decide+kernel
theorem ctr_part1 {vs:List P2}(h:areaQ vs≠0):(ctr vs).1*areaQ vs=sumT (Fk (fun p q=>(p.1+q.1)*crs p q) vs) vs.length / 6:=by
 have e:(ctr vs).1=sumT (Fk (fun p q=>(p.1+q.1)*crs p q) vs) vs.length*(Rat.divInt 1 3 / sumT (Fk crs vs) vs.length):=rfl
 rw [two_part] at h ⊢
 rw [e,third_one]
 generalize sumT (Fk crs vs) vs.length=t at*
 have ht:t≠0:=fun h0=>h (by rw [h0];grind)
 have:(1:Rat) / 3 / t*t=1 / 3:=Rat.div_mul_cancel ht
 grind
theorem ctr_part2 {vs:List P2}(h:areaQ vs≠0):(ctr vs).2*areaQ vs=sumT (Fk (fun p q=>(p.2+q.2)*crs p q) vs) vs.length / 6:=by
 have e:(ctr vs).2=sumT (Fk (fun p q=>(p.2+q.2)*crs p q) vs) vs.length*(Rat.divInt 1 3 / sumT (Fk crs vs) vs.length):=rfl
 rw [two_part] at h ⊢
 rw [e,third_one]
 generalize sumT (Fk crs vs) vs.length=t at*
 have ht:t≠0:=fun h0=>h (by rw [h0];grind)
 have:(1:Rat) / 3 / t*t=1 / 3:=Rat.div_mul_cancel ht
 grind
theorem parts_ctr {P x y:List P2}{a b:Nat}(hab:a<=b)(hb:b<P.length)(hx:x=(P.take (b+1)).drop a)(hy:y=P.drop b++P.take (a+1))(h1:areaQ x≠0)(h2:areaQ y≠0)(h3:areaQ P≠0):
 (ctr x).1*areaQ x+(ctr y).1*areaQ y=(ctr P).1*areaQ P/\(ctr x).2*areaQ x+(ctr y).2*areaQ y=(ctr P).2*areaQ P:=by
 have q1:=parts (fun p q=>(p.1+q.1)*crs p q) (fun p q=>by unfold crs;grind) hab hb hx hy
 have q2:=parts (fun p q=>(p.2+q.2)*crs p q) (fun p q=>by unfold crs;grind) hab hb hx hy
 rw [ctr_part1 h1,ctr_part1 h2,ctr_part1 h3,ctr_part2 h1,ctr_part2 h2,ctr_part2 h3,<-q1,<-q2]
 constructor<;>grind
section
variable {ρ:Operand->Value}{o:Oper}{w W:World}{x y z:Operand}{va vb vc:Value}{N:Nat}{vs:List P2}
theorem mid_Sv {i j:Nat}(ho:o.op= .slice 23 x (some y) (some z) none)(hx:ρ x=va)(h:VAt w (VSv N vs) va W)(hy:ρ y=vb)(hi:Vi (i:Int) vb W)(hz:ρ z=vc)(hj:Vi (j:Int) vc W)(hij:i<j)(hle:j<=vs.length):∃v,(execOp ρ o).run Tryz.prog W= .ok (.value v) W/\VAt w (VSv N ((vs.take j).drop i)) v W:=by
 obtain rfl:vb=_:=hi
 obtain rfl:vc=_:=hj
 rcases h with⟨-,rfl⟩|⟨hh,oo,c,cs,rfl,e2,e3,e4,e5,e6⟩
 ·simp at hle;omega
 have hl:((vs.take j).drop i).length=j - i:=by rw [List.length_drop,List.length_take];omega
 refine⟨.slice (some ⟨hh,oo+8*i,none⟩) ((vs.take j).drop i).length (c - i),?_,.inr ⟨hh,oo+8*i,c - i,cs,rfl,by omega,by omega,e4,by omega,fun k p hp=>?_⟩⟩
 ·rw [hl]
  have q1:(i:Int)<=(j:Int):=by omega
  have q2:(j:Int)<=(c:Int):=by omega
  have q3:(vs.length:Int)<=(c:Int):=by omega
  have q4:¬c=i:=by omega
  have q5:i*8=8*i:=Nat.mul_comm _ _
  clear hl e6 e5 e4 e2 e3 hle hij
  generalize vs.length=m at*
  obtain⟨dd,op,ty,ps,af,gd⟩:=o
  subst ho
  go_simp
 ·rw [List.getElem?_drop,List.getElem?_take] at hp
  split at hp
  ·have:=e6 _ _ hp
   rw [Nat.mul_add,<-Nat.add_assoc] at this
   exact this
  ·cases hp
end

theorem cmpQ_cases (x y:Rat):cmpQ x y= -1∨cmpQ x y=0∨cmpQ x y=1:=cmpI_abs _ _
theorem cmpQ_zero (q:Rat):cmpQ q 0=cmpI q.num 0:=by
 unfold cmpQ
 rw [show((0:Rat).den:Int)=1 from rfl,show(0:Rat).num=0 from rfl,Int.mul_one,Int.zero_mul]
theorem sign_cases (q:Rat):(q<0/\cmpI q.num 0= -1)∨(q=0/\cmpI q.num 0=0)∨(0<q/\cmpI q.num 0=1):=by
 rw [<-cmpQ_zero]
 rcases cmpQ_cases q 0 with h|h|h
 ·exact .inl ⟨cmpQ_lt.1 h,h⟩
 ·exact .inr (.inl ⟨cmpQ_eq.1 h,h⟩)
 ·exact .inr (.inr ⟨cmpQ_gt.1 h,h⟩)
end Go.Proofs.YtjdkdjobaabdiaaGreat
