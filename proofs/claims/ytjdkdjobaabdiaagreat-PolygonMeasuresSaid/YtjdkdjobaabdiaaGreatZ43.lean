/- Contracts of the packages integer, rat, plane, polygon and their references. -/
import Derived.Test.YtjdkdjobaabdiaaGreatZ39
import Derived.Test.YtjdkdjobaabdiaaGreatZ35
import Derived.Test.YtjdkdjobaabdiaaGreatZ42
set_option linter.unusedVariables false
set_option maxRecDepth 100000
set_option maxHeartbeats 6400000
namespace Go.Proofs.YtjdkdjobaabdiaaGreat
open Go.RowKit
open Go
theorem VI_64 {l:List Int}{v:Value}{w:World}(h:VI l v w):i64s l:=by
 obtain⟨a,m,c,-,-,-,h⟩:=h;exact h
section
variable {w:World}{lv v0 v1 v2 v3:Value}{vs:List P2}{N M:Nat}
theorem same4T {a b:Rat}(h0:Vq N a v0 w)(h1:Vq M b v1 w)(hN:N<=9000)(hM:M<=9000)(e:a=b):Calls Tryz.prog 23 #[v0,v1] w (RV (Vb true) w):=
 (cR4Same (Vq_le h0 hN) (Vq_le h1 hM)).mono fun _ _ h=>h.le fun _ _ hv=>hv.trans (congrArg Value.bool (dT e))
theorem same5T {a b c d:Rat}(h0:Vv N a b v0 w)(h1:Vv M c d v1 w)(hN:N<=9000)(hM:M<=9000)(e:a=c/\b=d):Calls Tryz.prog 26 #[v0,v1] w (RV (Vb true) w):=
 (cR5Same (Vv_le h0 hN) (Vv_le h1 hM)).mono fun _ _ h=>h.le fun _ _ hv=>hv.trans (congrArg Value.bool (dT e))
theorem lvArea {q:Rat}(hS:VSv 3 vs lv w)(hn:vs.length<=6)(hq:areaQ vs=q):Calls Tryz.prog 24 #[lv] w (RV (Vq 100 q) w):=by
 subst hq;exact(cArea (show VEq lv lv w from rfl) hS).mono fun _ _ h=>h.le fun _ _ h=>Vq_le h (by omega)
theorem lvCtr {q:P2}(hS:VSv 3 vs lv w)(hn:vs.length<=6)(hq:ctr vs=q):Calls Tryz.prog 27 #[lv] w (RV (Vv 300 q.1 q.2) w):=by
 subst hq;exact(cCenter hS).mono fun _ _ h=>h.le fun _ _ h=>Vv_le h (by omega)
theorem lvConvex {x:Bool}(hS:VSv 3 vs lv w)(hx:convexP vs=x):Calls Tryz.prog 16 #[lv] w (RV (Vb x) w):=by
 subst hx;exact cConvex hS
theorem lvValid {x:Bool}(hS:VSv 3 vs lv w)(hx:validP vs=x):Calls Tryz.prog 14 #[lv] w (RV (Vb x) w):=
 cValidV (show VEq lv lv w from rfl) hS (by omega) (by omega) hx
theorem lvMeets {a b c d:P2}{x:Bool}(h0:Vv N a.1 a.2 v0 w)(h1:Vv N b.1 b.2 v1 w)(h2:Vv N c.1 c.2 v2 w)(h3:Vv N d.1 d.2 v3 w)(hN:1<=N)(hN2:N<=1000)(hx:mts a b c d=x):Calls Tryz.prog 34 #[v0,v1,v2,v3] w (RV (Vb x) w):=by
 subst hx;exact cMeets h0 h1 h2 h3 hN hN2
theorem lvHas {p:P2}{x:Int}(hS:VSv 3 vs lv w)(h1:Vv 3 p.1 p.2 v1 w)(hx:hasI vs p=x):Calls Tryz.prog 30 #[lv,v1] w (RV (Vi x) w):=by
 subst hx;exact cHas h1 hS
theorem lvBox (hS:VSv 3 anV lv w):Calls Tryz.prog 21 #[lv] w (RV (VTup (Vv 3 0 0) (Vv 3 (Rat.divInt 4 1) (Rat.divInt 4 1))) w):=by
 have h:=cBoxCons (show VEq lv lv w from rfl) (show VSv 3 ((0,0):: [(4,0),(4,2),(2,2),(2,4),(0,4)]) lv w from hS);have e1:bxL ((0,0):: [(4,0),(4,2),(2,2),(2,4),(0,4)])=((0,0):P2):=an_boxL;have e2:bxH ((0,0):: [(4,0),(4,2),(2,2),(2,4),(0,4)])=((Rat.divInt 4 1,Rat.divInt 4 1):P2):=an_boxH;rw [e1,e2] at h;exact h
end
theorem cL6Lives {w:World}:Calls Tryz.prog 18 #[] w (RV (Vb true) w):=by
 go_enter Tryz.func18,Tryz.ntmps18
 generalize hA:(⟨_,_⟩:Act)=a0;have st0:St w.heap.size w 124 [] [] a0 w:=by subst hA;exact St.begin rfl rfl (fun _ h=>absurd h (by simp))
 clear hA;repeat first|apply Wq|apply Wb|apply Wk|apply Wx
 refine rH [(33,4,0),(35,8,0)] [Vb (false)] [] [(0,Vb (false))] st0 ⟨ks,trivial⟩ ?_;intro a1 w1 st1;clear st0;repeat first|apply Wq|apply Wb|apply Wk|apply Wx
 refine rH [] [VI [0,0,4,0,4,4,0,4],VSv 3 (ofL [0,0,4,0,4,4,0,4] 4),VSv 3 (ofL [0,0,4,0,4,4,0,4] 4)] [] [(0,Vb (false)),(1,VSv 3 (ofL [0,0,4,0,4,4,0,4] 4))] st1 ⟨(km fun _ ac Y h D=>bslice_I8 rfl (fun _=>rfl)),(kd1 fun _ _ _ _ _ X0=>cOf6 (n:=4) X0 rfl (by omega) (by omega) (VI_64 X0)),ks,trivial⟩ ?_;intro a2 w2 st2;clear st1;repeat first|apply Wq|apply Wb|apply Wk|apply Wx
 refine rH [] [VI [0,0,4,0,4,2,2,2,2,4,0,4],VSv 3 (ofL [0,0,4,0,4,2,2,2,2,4,0,4] 6),VSv 3 (ofL [0,0,4,0,4,2,2,2,2,4,0,4] 6)] [] [(0,Vb (false)),(1,VSv 3 (ofL [0,0,4,0,4,4,0,4] 4)),(2,VSv 3 (ofL [0,0,4,0,4,2,2,2,2,4,0,4] 6))] st2 ⟨(km fun _ ac Y h D=>bslice_I12 rfl (fun _=>rfl)),(kd1 fun _ _ _ _ _ X0=>cOf6 (n:=6) X0 rfl (by omega) (by omega) (VI_64 X0)),ks,trivial⟩ ?_;intro a3 w3 st3;clear st2;replace st3:St w.heap.size w 124 [] [(0,Vb (false)),(1,VSv 3 (ofL [0,0,4,0,4,4,0,4] 4)),(2,VSv 3 (ofL [0,0,4,0,4,2,2,2,2,4,0,4] 6))] a3 w3:=st3;obtain⟨u1,p1,s1⟩:=st3.sl (1,VSv 3 (ofL [0,0,4,0,4,4,0,4] 4)) (lS_mem rfl);obtain⟨u2,p2,s2⟩:=st3.sl (2,VSv 3 (ofL [0,0,4,0,4,2,2,2,2,4,0,4] 6)) (lS_mem rfl);rw [sq_ofL] at s1;rw [an_ofL] at s2;repeat first|apply Wq|apply Wb|apply Wk|apply Wx
 obtain⟨hbN,stB⟩:=st3.base [(1,VAt w3 (VSv 3 (sqV))),(2,VAt w3 (VSv 3 (anV)))] (Lq.2 ⟨⟨_,p1,s1⟩,(Lq.2 ⟨⟨_,p2,s2⟩,(fun _ h=>absurd h (by simp))⟩)⟩);clear st3;obtain⟨wO,hren⟩:∃z,z=w:=⟨_,rfl⟩;subst hren;have hbO:=hbN;clear hbN;obtain⟨w,hren⟩:∃z,z=w3:=⟨_,rfl⟩;subst hren;have st3:St w.heap.size w 124 [] [(1,VAt w (VSv 3 (sqV))),(2,VAt w (VSv 3 (anV)))] a3 w:=stB;clear stB;clear p1 s1 p2 s2;repeat first|apply Wq|apply Wb|apply Wk|apply Wx
 refine rH [(33,4,0),(35,8,0)] [Vq 3 (Rat.divInt (5) (3)),VT,VT] [⟨3,some 1,some 2,33,4,Vq 3 (Rat.divInt (5) (3)),VT⟩] [(1,VAt w (VSv 3 (sqV))),(2,VAt w (VSv 3 (anV)))] st3 ⟨(by refine kc fun _ ac Y h D=>?_;exact⟨#[.int .i64 (5),.int .i64 (3)],by simp [eval_const],cR4Of (show Vi 5 (.int .i64 (5)) Y from rfl) (show Vi 3 (.int .i64 (3)) Y from rfl)⟩),ks,ks,trivial⟩ ?_;intro a4 w4 st4;clear st3;repeat first|apply Wq|apply Wb|apply Wk|apply Wx
 refine rH [(33,4,0),(35,8,0)] [VAt w (VSv 3 (sqV)),Vb (true),Vb (false),Vb (false),VAt w (VSv 3 (anV)),Vb (true),Vb (false),Vb (false),Vb (false),VAt w (VSv 3 (anV)),Vb (false),Vb (false),Vb (false),VAt w (VSv 3 (sqV)),VAt w (VSv 3 (sqV.take 2)),Vb (false),Vb (false)] [⟨3,none,none,33,4,Vq 3 (Rat.divInt (5) (3)),VT⟩] [(1,VAt w (VSv 3 (sqV))),(2,VAt w (VSv 3 (anV))),(27,Vb (false))] st4 ⟨ks,(kd1 fun _ _ Y h v0 X0=>lvConvex (VSv_later (show VSv 3 (sqV) _ w from(show VAt w (VSv 3 (sqV)) v0 Y from X0)) h.k.below) sq_convex),ks,ks,ks,(kd1 fun _ _ Y h v0 X0=>lvValid (VSv_later (show VSv 3 (anV) _ w from(show VAt w (VSv 3 (anV)) v0 Y from X0)) h.k.below) an_valid),ks,ks,ks,ks,(kd1 fun _ _ Y h v0 X0=>lvConvex (VSv_later (show VSv 3 (anV) _ w from(show VAt w (VSv 3 (anV)) v0 Y from X0)) h.k.below) an_convex),ks,ks,ks,(kr1 24 fun _ _ _ _ _ x0 X0=>take_Sv rfl x0 X0 rfl rfl (by decide) (by decide)),(kd1 fun _ _ Y h v0 X0=>lvValid (VSv_later (show VSv 3 (sqV.take 2) _ w from(show VAt w (VSv 3 (sqV.take 2)) v0 Y from X0)) h.k.below) sq_two),ks,trivial⟩ ?_;intro a5 w5 st5;clear st4;repeat first|apply Wq|apply Wb|apply Wk|apply Wx
 refine cF st5 ?_;repeat first|apply Wq|apply Wb|apply Wk|apply Wx
 refine rH [(33,4,0),(35,8,0)] [VAt w (VSv 3 (sqV)),Vq 100 (Rat.divInt 16 1),Vq 3 (Rat.divInt (16) (1)),Vb (true),Vb (false),Vb (false),VAt w (VSv 3 (anV)),Vq 100 (Rat.divInt 12 1),Vq 3 (Rat.divInt (12) (1)),Vb (true),Vb (false),Vb (false),Vb (false),VAt w (VSv 3 (sqV)),Vv 300 (Rat.divInt 2 1) (Rat.divInt 2 1),Vv 3 (Rat.divInt (2) 1) (Rat.divInt (2) 1),Vb (true),Vb (false),Vb (false),Vb (false),VAt w (VSv 3 (anV)),Vv 300 (Rat.divInt 5 3) (Rat.divInt 5 3),Vq 3 (Rat.divInt (5) (3)),Vq 3 (Rat.divInt (5) (3)),Vv 3 (Rat.divInt (5) (3)) (Rat.divInt (5) (3)),Vb (true),Vb (false),Vb (false)] [⟨3,none,none,33,4,Vq 3 (Rat.divInt (5) (3)),VT⟩] [(1,VAt w (VSv 3 (sqV))),(2,VAt w (VSv 3 (anV))),(27,Vb (false)),(55,Vb (false))] st5 ⟨ks,(kd1 fun _ _ Y h v0 X0=>lvArea (VSv_later (show VSv 3 (sqV) _ w from(show VAt w (VSv 3 (sqV)) v0 Y from X0)) h.k.below) (by decide) sq_area),(by refine kc fun _ ac Y h D=>?_;exact⟨#[.int .i64 (16),.int .i64 (1)],by simp [eval_const],cR4Of (show Vi 16 (.int .i64 (16)) Y from rfl) (show Vi 1 (.int .i64 (1)) Y from rfl)⟩),(kd2 fun _ _ _ _ _ X0 _ X1=>same4T X0 X1 (by omega) (by omega) rfl),ks,ks,ks,(kd1 fun _ _ Y h v0 X0=>lvArea (VSv_later (show VSv 3 (anV) _ w from(show VAt w (VSv 3 (anV)) v0 Y from X0)) h.k.below) (by decide) an_area),(by refine kc fun _ ac Y h D=>?_;exact⟨#[.int .i64 (12),.int .i64 (1)],by simp [eval_const],cR4Of (show Vi 12 (.int .i64 (12)) Y from rfl) (show Vi 1 (.int .i64 (1)) Y from rfl)⟩),(kd2 fun _ _ _ _ _ X0 _ X1=>same4T X0 X1 (by omega) (by omega) rfl),ks,ks,ks,ks,(kd1 fun _ _ Y h v0 X0=>lvCtr (VSv_later (show VSv 3 (sqV) _ w from(show VAt w (VSv 3 (sqV)) v0 Y from X0)) h.k.below) (by decide) sq_ctr),(by refine kc fun _ ac Y h D=>?_;exact⟨#[.int .i64 (2),.int .i64 (2)],by simp [eval_const],cR5Of (show Vi 2 (.int .i64 (2)) Y from rfl) (show Vi 2 (.int .i64 (2)) Y from rfl)⟩),(kd2 fun _ _ _ _ _ X0 _ X1=>same5T X0 X1 (by omega) (by omega) ⟨rfl,rfl⟩),ks,ks,ks,ks,(kd1 fun _ _ Y h v0 X0=>lvCtr (VSv_later (show VSv 3 (anV) _ w from(show VAt w (VSv 3 (anV)) v0 Y from X0)) h.k.below) (by decide) an_ctr),ks,ks,(kr2 50 51 fun _ _ _ _ _ x0 X0 _ x1 X1=>build_Vec rfl x0 x1 (AggV_Vq _ _) (AggV_Vq _ _) X0 X1),(kd2 fun _ _ _ _ _ X0 _ X1=>same5T X0 X1 (by omega) (by omega) ⟨rfl,rfl⟩),ks,ks,trivial⟩ ?_;intro a6 w6 st6;clear st5;repeat first|apply Wq|apply Wb|apply Wk|apply Wx
 refine cF st6 ?_;repeat first|apply Wq|apply Wb|apply Wk|apply Wx
 refine rH [(33,4,0),(35,8,0)] [VAt w (VSv 3 (anV)),VTup (Vv 3 (0) (0)) (Vv 3 (Rat.divInt 4 1) (Rat.divInt 4 1)),VTup (Vv 3 (0) (0)) (Vv 3 (Rat.divInt 4 1) (Rat.divInt 4 1)),Vv 3 (0) (0),Vv 3 (Rat.divInt 4 1) (Rat.divInt 4 1),VT,VT,VT,VT] [⟨3,none,none,33,4,Vq 3 (Rat.divInt (5) (3)),VT⟩,⟨4,some 5,some 7,35,8,Vv 3 (0) (0),VT⟩,⟨5,some 6,some 8,35,8,Vv 3 (Rat.divInt 4 1) (Rat.divInt 4 1),VT⟩] [(1,VAt w (VSv 3 (sqV))),(2,VAt w (VSv 3 (anV))),(27,Vb (false)),(55,Vb (false))] st6 ⟨ks,(kd1 fun _ _ Y h v0 X0=>lvBox (VSv_later (show VSv 3 (anV) _ w from(show VAt w (VSv 3 (anV)) v0 Y from X0)) h.k.below)),ks,ks,ks,ks,ks,ks,ks,trivial⟩ ?_;intro a7 w7 st7;clear st6;repeat first|apply Wq|apply Wb|apply Wk|apply Wx
 refine rH [(33,4,0),(35,8,0)] [Vv 3 (0) (0),Vv 1 (0) (0),Vb (true),Vb (false),Vb (false),Vv 3 (Rat.divInt 4 1) (Rat.divInt 4 1),Vv 3 (Rat.divInt (4) 1) (Rat.divInt (4) 1),Vb (true),Vb (false),Vb (false),Vb (false),VAt w (VSv 3 (sqV)),VAt w (VEp 35 8 (Vv 3 ((0,0):P2).1 ((0,0):P2).2)),Vv 3 (((0,0):P2).1) (((0,0):P2).2),VAt w (VSv 3 (sqV)),VAt w (VEp 35 8 (Vv 3 ((4,4):P2).1 ((4,4):P2).2)),Vv 3 (((4,4):P2).1) (((4,4):P2).2),VAt w (VSv 3 (sqV)),VAt w (VEp 35 8 (Vv 3 ((4,0):P2).1 ((4,0):P2).2)),Vv 3 (((4,0):P2).1) (((4,0):P2).2),VAt w (VSv 3 (sqV)),VAt w (VEp 35 8 (Vv 3 ((0,4):P2).1 ((0,4):P2).2)),Vv 3 (((0,4):P2).1) (((0,4):P2).2),Vb (true),Vb (false),Vb (false),Vb (false),VAt w (VSv 3 (sqV)),VAt w (VEp 35 8 (Vv 3 ((0,0):P2).1 ((0,0):P2).2)),Vv 3 (((0,0):P2).1) (((0,0):P2).2),VAt w (VSv 3 (sqV)),VAt w (VEp 35 8 (Vv 3 ((4,0):P2).1 ((4,0):P2).2)),Vv 3 (((4,0):P2).1) (((4,0):P2).2),VAt w (VSv 3 (sqV)),VAt w (VEp 35 8 (Vv 3 ((4,4):P2).1 ((4,4):P2).2)),Vv 3 (((4,4):P2).1) (((4,4):P2).2),VAt w (VSv 3 (sqV)),VAt w (VEp 35 8 (Vv 3 ((0,4):P2).1 ((0,4):P2).2)),Vv 3 (((0,4):P2).1) (((0,4):P2).2),Vb (false),Vb (false)] [⟨3,none,none,33,4,Vq 3 (Rat.divInt (5) (3)),VT⟩,⟨4,none,none,35,8,Vv 3 (0) (0),VT⟩,⟨5,none,none,35,8,Vv 3 (Rat.divInt 4 1) (Rat.divInt 4 1),VT⟩] [(1,VAt w (VSv 3 (sqV))),(2,VAt w (VSv 3 (anV))),(27,Vb (false)),(55,Vb (false)),(101,Vb (false))] st7 ⟨ks,(kr fun _ ac Y h D=>build_Vec0 rfl),(kd2 fun _ _ _ _ _ X0 _ X1=>same5T X0 X1 (by omega) (by omega) ⟨rfl,rfl⟩),ks,ks,ks,(by refine kc fun _ ac Y h D=>?_;exact⟨#[.int .i64 (4),.int .i64 (4)],by simp [eval_const],cR5Of (show Vi 4 (.int .i64 (4)) Y from rfl) (show Vi 4 (.int .i64 (4)) Y from rfl)⟩),(kd2 fun _ _ _ _ _ X0 _ X1=>same5T X0 X1 (by omega) (by omega) ⟨rfl,rfl⟩),ks,ks,ks,ks,(kr1 72 fun _ _ Y _ v0 x0 X0=>index_Sv (j:=0) (a:=((0,0):P2)) rfl x0 (show VEq v0 v0 Y from rfl) X0 rfl rfl rfl),(kr1 73 fun _ _ _ h _ x0 X0=>load_EpC (w:=w) (k:=8) (A:=Vv 3 ((0,0):P2).1 ((0,0):P2).2) (Stab_Vv _ _ _) rfl x0 X0 h.k.below Tryz.underlying35 rfl size_Vec),ks,(kr1 75 fun _ _ Y _ v0 x0 X0=>index_Sv (j:=2) (a:=((4,4):P2)) rfl x0 (show VEq v0 v0 Y from rfl) X0 rfl rfl rfl),(kr1 76 fun _ _ _ h _ x0 X0=>load_EpC (w:=w) (k:=8) (A:=Vv 3 ((4,4):P2).1 ((4,4):P2).2) (Stab_Vv _ _ _) rfl x0 X0 h.k.below Tryz.underlying35 rfl size_Vec),ks,(kr1 78 fun _ _ Y _ v0 x0 X0=>index_Sv (j:=1) (a:=((4,0):P2)) rfl x0 (show VEq v0 v0 Y from rfl) X0 rfl rfl rfl),(kr1 79 fun _ _ _ h _ x0 X0=>load_EpC (w:=w) (k:=8) (A:=Vv 3 ((4,0):P2).1 ((4,0):P2).2) (Stab_Vv _ _ _) rfl x0 X0 h.k.below Tryz.underlying35 rfl size_Vec),ks,(kr1 81 fun _ _ Y _ v0 x0 X0=>index_Sv (j:=3) (a:=((0,4):P2)) rfl x0 (show VEq v0 v0 Y from rfl) X0 rfl rfl rfl),(kr1 82 fun _ _ _ h _ x0 X0=>load_EpC (w:=w) (k:=8) (A:=Vv 3 ((0,4):P2).1 ((0,4):P2).2) (Stab_Vv _ _ _) rfl x0 X0 h.k.below Tryz.underlying35 rfl size_Vec),(by refine kc fun _ ac Y h D=>?_;obtain⟨v0,x0,X0⟩:=h.dp D 74;obtain⟨v1,x1,X1⟩:=h.dp D 77;obtain⟨v2,x2,X2⟩:=h.dp D 80;obtain⟨v3,x3,X3⟩:=h.dp D 83;exact⟨#[v0,v1,v2,v3],by simp [x0,x1,x2,x3],lvMeets X0 X1 X2 X3 (by omega) (by omega) sq_mts⟩),ks,ks,ks,ks,(kr1 88 fun _ _ Y _ v0 x0 X0=>index_Sv (j:=0) (a:=((0,0):P2)) rfl x0 (show VEq v0 v0 Y from rfl) X0 rfl rfl rfl),(kr1 89 fun _ _ _ h _ x0 X0=>load_EpC (w:=w) (k:=8) (A:=Vv 3 ((0,0):P2).1 ((0,0):P2).2) (Stab_Vv _ _ _) rfl x0 X0 h.k.below Tryz.underlying35 rfl size_Vec),ks,(kr1 91 fun _ _ Y _ v0 x0 X0=>index_Sv (j:=1) (a:=((4,0):P2)) rfl x0 (show VEq v0 v0 Y from rfl) X0 rfl rfl rfl),(kr1 92 fun _ _ _ h _ x0 X0=>load_EpC (w:=w) (k:=8) (A:=Vv 3 ((4,0):P2).1 ((4,0):P2).2) (Stab_Vv _ _ _) rfl x0 X0 h.k.below Tryz.underlying35 rfl size_Vec),ks,(kr1 94 fun _ _ Y _ v0 x0 X0=>index_Sv (j:=2) (a:=((4,4):P2)) rfl x0 (show VEq v0 v0 Y from rfl) X0 rfl rfl rfl),(kr1 95 fun _ _ _ h _ x0 X0=>load_EpC (w:=w) (k:=8) (A:=Vv 3 ((4,4):P2).1 ((4,4):P2).2) (Stab_Vv _ _ _) rfl x0 X0 h.k.below Tryz.underlying35 rfl size_Vec),ks,(kr1 97 fun _ _ Y _ v0 x0 X0=>index_Sv (j:=3) (a:=((0,4):P2)) rfl x0 (show VEq v0 v0 Y from rfl) X0 rfl rfl rfl),(kr1 98 fun _ _ _ h _ x0 X0=>load_EpC (w:=w) (k:=8) (A:=Vv 3 ((0,4):P2).1 ((0,4):P2).2) (Stab_Vv _ _ _) rfl x0 X0 h.k.below Tryz.underlying35 rfl size_Vec),(by refine kc fun _ ac Y h D=>?_;obtain⟨v0,x0,X0⟩:=h.dp D 90;obtain⟨v1,x1,X1⟩:=h.dp D 93;obtain⟨v2,x2,X2⟩:=h.dp D 96;obtain⟨v3,x3,X3⟩:=h.dp D 99;exact⟨#[v0,v1,v2,v3],by simp [x0,x1,x2,x3],lvMeets X0 X1 X2 X3 (by omega) (by omega) sq_mts2⟩),ks,trivial⟩ ?_;intro a8 w8 st8;clear st7;repeat first|apply Wq|apply Wb|apply Wk|apply Wx
 refine cF st8 ?_;repeat first|apply Wq|apply Wb|apply Wk|apply Wx
 refine rH [(33,4,0),(35,8,0)] [VAt w (VSv 3 (sqV)),Vv 3 (Rat.divInt (2) 1) (Rat.divInt (2) 1),Vi (1),Vb (true),Vb (true),VAt w (VSv 3 (sqV)),Vv 3 (Rat.divInt (4) 1) (Rat.divInt (1) 1),Vi (0),Vb (true),Vb (true),Vb (true),VAt w (VSv 3 (sqV)),Vv 3 (Rat.divInt (5) 1) (Rat.divInt (1) 1),Vi (-1),Vb (true),Vb (true),Vb (true),VAt w (VSv 3 (anV)),Vv 3 (Rat.divInt (3) 1) (Rat.divInt (3) 1),Vi (-1),Vb (true),Vb (true),Vb (true)] [⟨3,none,none,33,4,Vq 3 (Rat.divInt (5) (3)),VT⟩,⟨4,none,none,35,8,Vv 3 (0) (0),VT⟩,⟨5,none,none,35,8,Vv 3 (Rat.divInt 4 1) (Rat.divInt 4 1),VT⟩] [(1,VAt w (VSv 3 (sqV))),(2,VAt w (VSv 3 (anV))),(27,Vb (false)),(55,Vb (false)),(101,Vb (false)),(0,Vb (true))] st8 ⟨ks,(by refine kc fun _ ac Y h D=>?_;exact⟨#[.int .i64 (2),.int .i64 (2)],by simp [eval_const],cR5Of (show Vi 2 (.int .i64 (2)) Y from rfl) (show Vi 2 (.int .i64 (2)) Y from rfl)⟩),(kd2 fun _ _ Y h v0 X0 v1 X1=>lvHas (p:=(Rat.divInt (2) 1,Rat.divInt (2) 1)) (VSv_later (show VSv 3 (sqV) _ w from(show VAt w (VSv 3 (sqV)) v0 Y from X0)) h.k.below) X1 sq_has1),(kr1 104 fun _ _ _ _ _ x0 X0=>⟨_,run_eqi rfl (x0.trans X0) rfl,congrArg Value.bool (rfl)⟩),ks,ks,(by refine kc fun _ ac Y h D=>?_;exact⟨#[.int .i64 (4),.int .i64 (1)],by simp [eval_const],cR5Of (show Vi 4 (.int .i64 (4)) Y from rfl) (show Vi 1 (.int .i64 (1)) Y from rfl)⟩),(kd2 fun _ _ Y h v0 X0 v1 X1=>lvHas (p:=(Rat.divInt (4) 1,Rat.divInt (1) 1)) (VSv_later (show VSv 3 (sqV) _ w from(show VAt w (VSv 3 (sqV)) v0 Y from X0)) h.k.below) X1 sq_has0),(kr1 109 fun _ _ _ _ _ x0 X0=>⟨_,run_eqi rfl (x0.trans X0) rfl,congrArg Value.bool (rfl)⟩),ks,ks,ks,(by refine kc fun _ ac Y h D=>?_;exact⟨#[.int .i64 (5),.int .i64 (1)],by simp [eval_const],cR5Of (show Vi 5 (.int .i64 (5)) Y from rfl) (show Vi 1 (.int .i64 (1)) Y from rfl)⟩),(kd2 fun _ _ Y h v0 X0 v1 X1=>lvHas (p:=(Rat.divInt (5) 1,Rat.divInt (1) 1)) (VSv_later (show VSv 3 (sqV) _ w from(show VAt w (VSv 3 (sqV)) v0 Y from X0)) h.k.below) X1 sq_hasN),(kr1 115 fun _ _ _ _ _ x0 X0=>⟨_,run_eqi rfl (x0.trans X0) rfl,congrArg Value.bool (rfl)⟩),ks,ks,ks,(by refine kc fun _ ac Y h D=>?_;exact⟨#[.int .i64 (3),.int .i64 (3)],by simp [eval_const],cR5Of (show Vi 3 (.int .i64 (3)) Y from rfl) (show Vi 3 (.int .i64 (3)) Y from rfl)⟩),(kd2 fun _ _ Y h v0 X0 v1 X1=>lvHas (p:=(Rat.divInt (3) 1,Rat.divInt (3) 1)) (VSv_later (show VSv 3 (anV) _ w from(show VAt w (VSv 3 (anV)) v0 Y from X0)) h.k.below) X1 an_hasN),(kr1 121 fun _ _ _ _ _ x0 X0=>⟨_,run_eqi rfl (x0.trans X0) rfl,congrArg Value.bool (rfl)⟩),ks,ks,trivial⟩ ?_;intro a9 w9 st9;clear st8;repeat first|apply Wq|apply Wb|apply Wk|apply Wx
 obtain⟨vr,r1,r4⟩:=st9.slot (0,Vb (true)) (.tail _ (.tail _ (.tail _ (.tail _ (.tail _ (.head _))))));exact wp_ret (bodyPost_ret (results_tmp rfl _ _ _) st9.defers ⟨_,congrArg Ending.returned (show _=vr from r1),r4,below_tr hbO st9.k.below⟩)
theorem sumQ_range (f:Nat->Rat)(j:Nat):sumQ f (List.range j)=sumT f j:=rfl
theorem sumT_tel (f g t:Nat->Rat)(h:∀k,g k=f k+(t k - t (k+1))):∀j,sumT g j=sumT f j+(t 0 - t j)
 |0=>by
  show(0:Rat)=0+(t 0 - t 0)
  grind
 |j+1=>by
  rw [sumT_succ,sumT_succ,sumT_tel f g t h j,h j]
  grind
theorem cv_len (vs:List P2):cv vs vs.length=cv vs 0:=by
 unfold cv;rw [Nat.mod_self,Nat.zero_mod]
theorem tr_cr (vs:List P2)(k:Nat):trK vs k=crK vs k+((cv vs k).1*(cv vs k).2 - (cv vs (k+1)).1*(cv vs (k+1)).2):=by
 unfold trK crK crs
 grind
theorem half_two:(Rat.divInt 1 2:Rat)=1 / 2:=by decide+kernel
theorem two_one:(Rat.divInt 2 1:Rat)=2:=by decide+kernel
theorem areaR_eq (vs:List P2):areaR vs=areaQ vs:=by
 unfold areaR areaQ twQ;rw [sumQ_range,sumT_tel (crK vs) (trK vs) (fun k=>(cv vs k).1*(cv vs k).2) (tr_cr vs),cv_len,half_two,two_one]
 grind
theorem fan (f:P2->Rat)(hf:(f=fun p=>p.1)∨f=fun p=>p.2)(vs:List P2):∀j,sumT (fun k=>(f (cv vs 0)+f (cv vs (k+1))+f (cv vs (k+2)))*prR vs k) j*6=sumT (fun k=>(f (cv vs k)+f (cv vs (k+1)))*crK vs k) (j+1) - (f (cv vs 0)+f (cv vs (j+1)))*crs (cv vs 0) (cv vs (j+1))
 |0=>by
  show(0:Rat)*6=0+(f (cv vs 0)+f (cv vs 1))*crK vs 0 - _;unfold crK
  grind
 |j+1=>by
  have h6:(Rat.divInt 1 6:Rat)=1 / 6:=by decide+kernel
  have ih:=fan f hf vs j;rw [sumT_succ,sumT_succ (fun k=>(f (cv vs k)+f (cv vs (k+1)))*crK vs k)];rw [Rat.add_mul,ih];unfold prR crK crs sbP;rw [h6];generalize cv vs 0=p0;generalize cv vs (j+1)=p1;generalize cv vs (j+1+1)=p2;show _ - _+_=_+(f p1+f p2)*_ - _;rcases hf with rfl|rfl<;>grind
theorem fan_all (f:P2->Rat)(hf:(f=fun p=>p.1)∨f=fun p=>p.2)(vs:List P2)(hn:2<=vs.length):sumT (fun k=>(f (cv vs 0)+f (cv vs (k+1))+f (cv vs (k+2)))*prR vs k) (vs.length - 2)*6=sumT (fun k=>(f (cv vs k)+f (cv vs (k+1)))*crK vs k) vs.length:=by
 rw [fan f hf vs];obtain⟨m,hm⟩:∃m,vs.length=m+2:=⟨vs.length - 2,by omega⟩
 have e:cv vs (m+1+1)=cv vs 0:=by
  have:=cv_len vs;rwa [hm] at this
 rw [show vs.length - 2+1=m+1 by omega,hm,show m+2=m+1+1 from rfl,sumT_succ (fun k=>(f (cv vs k)+f (cv vs (k+1)))*crK vs k) (m+1)];generalize sumT (fun k=>(f (cv vs k)+f (cv vs (k+1)))*crK vs k) (m+1)=A;unfold crK crs;rw [e]
 grind
theorem ctrR_eq (vs:List P2):ctrR vs=ctr vs:=by
 have h3:(Rat.divInt 1 3:Rat)=1 / 3:=by decide+kernel
 have h1:(Rat.divInt 1 1:Rat)=1:=by decide+kernel
 have ha:=areaR_eq vs;unfold areaQ at ha;rw [two_one] at ha;by_cases hz:(areaR vs).num=0
 ·have h0:areaR vs=0:=Rat.num_eq_zero.1 hz;have ht:twQ vs=0:=by rw [h0] at ha;grind
  rw [ctrR_zero hz];unfold ctr;rw [ht,h3,show((1 / 3:Rat) / 0)=0 by decide+kernel,Rat.mul_zero,Rat.mul_zero]
 ·have hne:areaR vs≠0:=fun e=>hz (by rw [e];rfl)
  have hn:2<=vs.length:=by
   rcases Nat.lt_or_ge vs.length 2 with h|h
   ·exfalso;apply hne;rw [areaR_eq];unfold areaQ twQ;rw [sumQ_range]
    match hl:vs.length,h with
    |0,_=>
     show(0:Rat) / _=0;rw [two_one];decide+kernel
    |1,_=>
     have e:cv vs 1=cv vs 0:=by have:=cv_len vs;rwa [hl] at this
     show(0+crK vs 0) / _=0;unfold crK crs;rw [two_one,e]
     grind
   ·exact h
  rw [ctrR_ne hz];have hx:=fan_all (fun p=>p.1) (.inl rfl) vs hn;have hy:=fan_all (fun p=>p.2) (.inr rfl) vs hn;have hx:sumT (ceX vs) (vs.length - 2)*6=sumT (cwX vs) vs.length:=hx;have hy:sumT (ceY vs) (vs.length - 2)*6=sumT (cwY vs) vs.length:=hy;unfold ctr;rw [sumQ_range,sumQ_range,<-hx,<-hy,h3,h1];have ht:twQ vs=2*areaR vs:=by rw [ha];grind
  rw [ht];generalize sumT (ceX vs) (vs.length - 2)=a;generalize sumT (ceY vs) (vs.length - 2)=b;generalize areaR vs=t at hne;exact Prod.ext (by show a*(1 / t)=a*6*(1 / 3 / (2*t));grind) (by show b*(1 / t)=b*6*(1 / 3 / (2*t));grind)
theorem lsR_eq (x y:Rat):lsR x y=lsQ x y:=by
 unfold lsR lsQ;rcases (show cmpQ x y= -1∨cmpQ x y=0∨cmpQ x y=1 from cmpI_abs _ _)with h|h|h
 ·rw [h];rfl
 ·rw [h];exact(cmpQ_eq.1 h).symm
 ·rw [h];rfl
theorem grR_eq (x y:Rat):grR x y=grQ x y:=by
 unfold grR grQ;rcases (show cmpQ x y= -1∨cmpQ x y=0∨cmpQ x y=1 from cmpI_abs _ _)with h|h|h
 ·rw [h];rfl
 ·rw [h];exact(cmpQ_eq.1 h).symm
 ·rw [h];rfl
theorem bxLr_eq (vs:List P2):bxLr vs=bxL vs:=by
 have:lsW=lsV:=funext fun p=>funext fun q=>by unfold lsW lsV;rw [lsR_eq,lsR_eq]
 cases vs with
 |nil=>rfl
 |cons a xs=>show xs.foldl lsW a=xs.foldl lsV a;rw [this]
theorem bxHr_eq (vs:List P2):bxHr vs=bxH vs:=by
 have:grW=grV:=funext fun p=>funext fun q=>by unfold grW grV;rw [grR_eq,grR_eq]
 cases vs with
 |nil=>rfl
 |cons a xs=>show xs.foldl grW a=xs.foldl grV a;rw [this]
instance iAlSlS:SlT 26 23 1:=⟨Tryz.underlying26,by
 have h:(Tryz.prog.info? 23).map (fun i=>(i.zero,i.size,i.bytes))=some (some (.slice none 0 0),1,24):=by kernel_rfl
 cases hq:Tryz.prog.info? 23 with
 |none=>rw [hq] at h;cases h
 |some i=>
  rw [hq] at h;simp only [Option.map_some,Option.some.injEq,Prod.mk.injEq] at h
  exact⟨i,_,rfl,h.1,h.2.1,by rw [h.2.2];omega,rfl,noint_of (by simp [Value.cells])⟩,by decide⟩
def ES (vs:List P2):VP:=fun v w=>∃u,v= .agg #[u]/\VSv 3 vs u w
theorem Stab_ES (vs:List P2):Stab [] (ES vs):=fun _ _ _ ⟨u,e,h⟩ hr=>⟨u,e,Stab_VSvN _ _ _ h hr⟩
instance (vs:List P2):Ag (ES vs) 1:=⟨by
 rintro v w ⟨u,rfl,h⟩
 obtain⟨p,c,rfl⟩:=VSv_slice h;refine⟨_,rfl,rfl,fun i x hx=>?_,by simp [Value.oneCell']⟩
 match i with
 |0=>simp at hx
 |i+1=>simp at hx⟩
def VLs (L:List (List P2)):VP:=VSl 23 1 ES L
instance (L:List (List P2)):Sb [] (VOs 23 1 ES L):=⟨Stab_VOs Stab_ES (by simp)⟩
theorem VLs_mono {v:Value}{w:World}{L:List (List P2)}(h:VOs 23 1 ES L v w)(hm:L.length<=1000):VLs L v w:=by
 obtain⟨h,cs,e1,e2,e3,_,e4,e5⟩:=h;cases e4;exact⟨h,0,_,cs,e1,Nat.le_refl _,by omega,e2,by omega,fun i x hx=>by rw [Nat.zero_add];exact e5 i x hx⟩
theorem VOs_rg {v:Value}{w:World}{L:List (List P2)}(h:VOs 23 1 ES L v w)(h0:0<L.length)(hm:L.length<=1000):∃g,VRg 23 1 ES none g L.length L v w:=by
 obtain⟨h,cs,e1,e2,e3,e4⟩:=h;exact⟨h,Nat.le_refl _,by omega,.inr ⟨h0,e1,cs,e2,e3,(VEl_flat (by omega) e4 e3).1,e4⟩⟩
section
variable {ρ:Operand->Value}{o:Oper}{w W:World}{x y:Operand}{va vb:Value}{L:List (List P2)}{vs:List P2}{j:Nat}
theorem len_Ls (ho:o.op= .call {callee:= .builtin .len,args:=#[x],argTypes:=#[26]})(hty:o.type=3)(hx:ρ x=va)(h:VAt w (VLs L) va W):∃v,(execOp ρ o).run Tryz.prog W= .ok (.value v) W/\Vi (L.length:Int) v W:=by
 obtain⟨hh,oo,c,cs,rfl,-⟩:=h;refine⟨.int .i64 (L.length:Int),?_,rfl⟩;generalize L.length=n at*
 obtain⟨dd,op,ty,ps,af,gd⟩:=o;subst ho;simp only at hty;subst hty
 go_simp
theorem index_Ls (ho:o.op= .indexAddr 26 x y)(hx:ρ x=va)(h:VAt w (VLs L) va W)(hy:ρ y=vb)(hb:Vi (j:Int) vb W)(hz:L[j]? =some vs):∃v,(execOp ρ o).run Tryz.prog W= .ok (.value v) W/\VAt w (VEp 23 1 (ES vs)) v W:=by
 obtain⟨b,off,c,rfl,h2⟩:=VSl_el h hz;obtain rfl:vb=_:=hb;refine⟨.pointer (some ⟨b,off+1*j,none⟩),?_,h2⟩
 have hj:j<L.length:=by
  rcases Nat.lt_or_ge j L.length with h'|h'
  ·exact h'
  ·rw [List.getElem?_eq_none h'] at hz;cases hz
 have hj2:(j:Int)<(L.length:Int):=by omega
 clear h h2 hz;generalize L.length=n at*
 obtain⟨dd,op,ty,ps,af,gd⟩:=o;subst ho
 go_simp
theorem load_Ls (ho:o.op= .load 23 x)(hx:ρ x=va)(h:VAt w (VEp 23 1 (ES vs)) va W)(hb:Below w.heap.size w W):∃v,(execOp ρ o).run Tryz.prog W= .ok (.value v) W/\VAt w (VSv 3 vs) v W:=by
 obtain⟨g,off,cs,rfl,e2,e3,u,e4,e5⟩:=h;have hg:W.heap[g]? =some (.cells cs 23 (0,0)):=(hb.block _ (lt_blk e2)).trans e2
 have hu:cs[off]? =some u:=by
  have e6:(cs.extract off (off+1))[0]? =some u:=by rw [Value.agg.inj e4];rfl
  rw [Array.getElem?_extract,if_pos (by omega)] at e6
  simpa using e6
 have hcell:W.cell? ⟨g,off,none⟩=some u:=by simp [World.cell?,hg,hu]
 have hagg:(isAgg 23).run Tryz.prog W= .ok false W:=by
  unfold isAgg;rw [Sem.run_bind,run_underlying Tryz.underlying23 W];rfl
 refine⟨_,?_,e5⟩;unfold execOp;simp only [ho,hx,Instr.loadAt,Instr.sureAddr,Sem.run_bind,Sem.run_pure,Result.andThen_ok,loadVar,hagg];simp only [Bool.false_eq_true,if_false,run_load,hcell,Result.andThen_ok]
theorem bslice_L1 (ho:o.op= .buildSlice 26 1 #[(0,x)])(hx:ρ x=va)(h:VSv 3 vs va W):∃v w',(execOp ρ o).run Tryz.prog W= .ok (.value v) w'/\Below W.heap.size W w'/\VOs 23 1 ES [vs] v w':=by
 obtain⟨p,c,rfl⟩:=VSv_slice h;have hb:=below_new W (.cells #[.slice p vs.length c] 23);refine⟨.slice (some ⟨W.heap.size,0,none⟩) 1 1,_,?_,hb,_,_,rfl,heap_alloc_new _ _,rfl,_,rfl,fun i z hz=>?_⟩
 ·clear h hb;generalize vs.length=n at*
  obtain⟨dd,op,ty,ps,af,gd⟩:=o;subst ho
  go_simp
 ·match i,hz with
  |0,hz=>cases hz;exact⟨_,rfl,VSv_later h hb⟩
  |i+1,hz=>simp at hz
theorem bslice_L5 {x0 x1 x3 x4:Operand}{v0 v1 v3 v4:Value}{d0 d1 d3 d4:List P2}(ho:o.op= .buildSlice 26 5 #[(0,x0),(1,x1),(2,.const (.slice none 0 0)),(3,x3),(4,x4)])(hc:∀v,ρ (.const v)=v)(e0:ρ x0=v0)(e1:ρ x1=v1)(e3:ρ x3=v3)(e4:ρ x4=v4)(h0:VSv 3 d0 v0 W)(h1:VSv 3 d1 v1 W)(h3:VSv 3 d3 v3 W)(h4:VSv 3 d4 v4 W):∃v w',(execOp ρ o).run Tryz.prog W= .ok (.value v) w'/\Below W.heap.size W w'/\VOs 23 1 ES [d0,d1,[],d3,d4] v w':=by
 obtain⟨p0,c0,rfl⟩:=VSv_slice h0;obtain⟨p1,c1,rfl⟩:=VSv_slice h1;obtain⟨p3,c3,rfl⟩:=VSv_slice h3;obtain⟨p4,c4,rfl⟩:=VSv_slice h4;have hb:=below_new W (.cells #[.slice p0 d0.length c0,.slice p1 d1.length c1,.slice none 0 0,.slice p3 d3.length c3,.slice p4 d4.length c4] 23);refine⟨.slice (some ⟨W.heap.size,0,none⟩) 5 5,_,?_,hb,_,_,rfl,heap_alloc_new _ _,rfl,_,rfl,fun i z hz=>?_⟩
 ·clear h0 h1 h3 h4 hb;generalize d0.length=n0 at*
  generalize d1.length=n1 at*
  generalize d3.length=n3 at*
  generalize d4.length=n4 at*
  obtain⟨dd,op,ty,ps,af,gd⟩:=o;subst ho
  go_simp
 ·match i,hz with
  |0,hz=>cases hz;exact⟨_,rfl,VSv_later h0 hb⟩
  |1,hz=>cases hz;exact⟨_,rfl,VSv_later h1 hb⟩
  |2,hz=>cases hz;exact⟨_,rfl,.inl ⟨rfl,rfl⟩⟩
  |3,hz=>cases hz;exact⟨_,rfl,VSv_later h3 hb⟩
  |4,hz=>cases hz;exact⟨_,rfl,VSv_later h4 hb⟩
  |i+5,hz=>simp at hz
end
def VQ5 (b:Bool)(q:List P2):VP:=fun v w=>(b=true/\VSv 3 q v w)∨(b=false/\∃bl:List (P2×Bool),bl.length=q.length/\VSb 14 bl v w/\∃(i:Nat) (x:P2×Bool),bl[i]? =some x/\x.2=true)
theorem Stab_VQ5 (b:Bool)(q:List P2):Stab [] (VQ5 b q):=fun _ _ _ h hr=>h.imp (fun h=>⟨h.1,Stab_VSvN _ _ _ h.2 hr⟩) fun ⟨h1,bl,hl,⟨hh,o,c,cs,e1,e2,e3,e4,e5,e6⟩,h3⟩=>⟨h1,bl,hl,⟨hh,o,c,cs,e1,e2,e3,(hr.row _ _ _ e4 (.inl (by simp))).trans e4,e5,fun i x hx=>Stab_EVb _ _ _ _ _ (e6 i x hx) hr⟩,h3⟩
instance (b:Bool)(q:List P2):Sb [] (VQ5 b q):=⟨Stab_VQ5 b q⟩
theorem cNumbersQ {b:Bool}{q:List P2}{v:Value}{w:World}(h:VQ5 b q v w):Calls Tryz.prog 20 #[v] w (RV (Vb b) w):=by
 rcases h with⟨rfl,h⟩|⟨rfl,bl,-,h,hb⟩
 ·exact cR6Numbers (show VEq v v w from rfl) h
 ·exact cR6NumbersB (show VAt w (VSb 14 bl) v w from h) hb
theorem len_VQ5 {ρ:Operand->Value}{o:Oper}{W:World}{x:Operand}{va:Value}{b:Bool}{q:List P2}(ho:o.op= .call {callee:= .builtin .len,args:=#[x],argTypes:=#[23]})(hty:o.type=3)(hx:ρ x=va)(h:VQ5 b q va W):∃v,(execOp ρ o).run Tryz.prog W= .ok (.value v) W/\Vi (q.length:Int) v W:=by
 rcases h with⟨-,h⟩|⟨-,bl,hl,h,-⟩
 ·exact len_SvA (w:=W) ho hty hx h
 ·rw [<-hl];exact len_Sb (w:=W) ho hty hx h
theorem VQ5_good {q:List P2}{v:Value}{w:World}(h:VQ5 true q v w):VSv 3 q v w:=by
 rcases h with⟨-,h⟩|⟨h,-⟩
 ·exact h
 ·cases h
section
variable {w:World}{lv v0 v1:Value}{vs:List P2}
theorem gBox (hS:VSv 3 vs lv w):Calls Tryz.prog 21 #[lv] w (RV (VTup (Vv 3 (bxL vs).1 (bxL vs).2) (Vv 3 (bxH vs).1 (bxH vs).2)) w):=by
 cases vs with
 |nil=>exact(cBoxNil (show VEq lv lv w from rfl) hS).mono fun _ _ h=>h.le fun _ _ ⟨x,y,e,h1,h2⟩=>⟨x,y,e,Vv_le h1 (by omega),Vv_le h2 (by omega)⟩
 |cons a xs=>exact cBoxCons (show VEq lv lv w from rfl) hS
theorem gBoxR (hS:VSv 3 vs lv w):Calls Tryz.prog 22 #[lv] w (RV (VTup (Vv 3 (bxL vs).1 (bxL vs).2) (Vv 3 (bxH vs).1 (bxH vs).2)) w):=by
 rw [<-bxLr_eq,<-bxHr_eq];cases vs with
 |nil=>exact(cR6BoxNil (show VEq lv lv w from rfl) hS).mono fun _ _ h=>h.le fun _ _ ⟨x,y,e,h1,h2⟩=>⟨x,y,e,Vv_le h1 (by omega),Vv_le h2 (by omega)⟩
 |cons a xs=>exact cR6BoxCons (show VEq lv lv w from rfl) hS
theorem gArea (hS:VSv 3 vs lv w)(hn:vs.length<=14:=by omega):Calls Tryz.prog 24 #[lv] w (RV (Vq 900 (areaQ vs)) w):=
 (cArea (show VEq lv lv w from rfl) hS).mono fun _ _ h=>h.le fun _ _ h=>Vq_le h (by omega)
theorem gAreaR (hS:VSv 3 vs lv w)(hn:vs.length<=14:=by omega):Calls Tryz.prog 25 #[lv] w (RV (Vq 900 (areaQ vs)) w):=by
 rw [<-areaR_eq];exact(cR6Area (show VEq lv lv w from rfl) hS).mono fun _ _ h=>h.le fun _ _ h=>Vq_le h (by omega)
theorem gCtr (hS:VSv 3 vs lv w)(hn:vs.length<=14:=by omega):Calls Tryz.prog 27 #[lv] w (RV (Vv 3000 (ctr vs).1 (ctr vs).2) w):=
 (cCenter hS).mono fun _ _ h=>h.le fun _ _ h=>Vv_le h (by omega)
theorem gCtrR (hS:VSv 3 vs lv w)(hn:vs.length<=14:=by omega):Calls Tryz.prog 28 #[lv] w (RV (Vv 3000 (ctr vs).1 (ctr vs).2) w):=by
 rw [<-ctrR_eq];exact cR6Center (show VEq lv lv w from rfl) hS
end
end Go.Proofs.YtjdkdjobaabdiaaGreat
