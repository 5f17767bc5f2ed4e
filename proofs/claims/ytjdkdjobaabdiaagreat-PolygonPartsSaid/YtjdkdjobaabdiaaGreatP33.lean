/- Contracts of the packages integer, rat, plane, polygon and their references. -/
import Derived.Test.YtjdkdjobaabdiaaGreatP32
set_option linter.unusedVariables false
set_option maxRecDepth 100000
set_option maxHeartbeats 6400000
namespace Go.Proofs.YtjdkdjobaabdiaaGreat
open Go.RowKit
open Go
def dtP (a b:P2):Rat:=a.1*b.1+a.2*b.2
def ltQ (a b:Rat):Bool:=decide (cmpQ a b<0)
def gtQ (a b:Rat):Bool:=decide (0<cmpQ a b)
def btwB (n a b c d:P2):Bool:=(ltQ (dtP n a) (dtP n c) && (ltQ (dtP n a) (dtP n d) && (ltQ (dtP n b) (dtP n c) && ltQ (dtP n b) (dtP n d))))||(gtQ (dtP n a) (dtP n c) && (gtQ (dtP n a) (dtP n d) && (gtQ (dtP n b) (dtP n c) && gtQ (dtP n b) (dtP n d))))
theorem wp_mono' {P:Program}{Q Q':Exit->Act->World->Prop}{c:Code}{a:Act}{w:World}(h:c.wp P Q a w)(hq:∀e a w,Q e a w->Q' e a w):c.wp P Q' a w:=wp_mono h hq
theorem cR6Between {w:World}{N:Nat}{n a b c d:P2}{v0 v1 v2 v3 v4:Value}(h0:Vv N (n.1) (n.2) v0 w)(h1:Vv N (a.1) (a.2) v1 w)(h2:Vv N (b.1) (b.2) v2 w)(h3:Vv N (c.1) (c.2) v3 w)(h4:Vv N (d.1) (d.2) v4 w)(hN3:3<=N)(hN:N<=900):Calls Tryz.prog 83 #[v0,v1,v2,v3,v4] w (RV (Vb (btwB n a b c d)) w):=by
 go_enter Tryz.func83,Tryz.ntmps83
 generalize hA:(⟨_,_⟩:Act)=a0
 have st0:St w.heap.size w 77 [] [(0,Vv N (n.1) (n.2)),(1,Vv N (a.1) (a.2)),(2,Vv N (b.1) (b.2)),(3,Vv N (c.1) (c.2)),(4,Vv N (d.1) (d.2))] a0 w:=by subst hA;exact St.begin rfl rfl (Lq.2 ⟨⟨_,rfl,h0⟩,(Lq.2 ⟨⟨_,rfl,h1⟩,(Lq.2 ⟨⟨_,rfl,h2⟩,(Lq.2 ⟨⟨_,rfl,h3⟩,(Lq.2 ⟨⟨_,rfl,h4⟩,(fun _ h=>absurd h (by simp))⟩)⟩)⟩)⟩)⟩)
 clear hA
 have hB:btwB n a b c d=((ltQ (dtP n a) (dtP n c) && (ltQ (dtP n a) (dtP n d) && (ltQ (dtP n b) (dtP n c) && ltQ (dtP n b) (dtP n d))))||(gtQ (dtP n a) (dtP n c) && (gtQ (dtP n a) (dtP n d) && (gtQ (dtP n b) (dtP n c) && gtQ (dtP n b) (dtP n d))))):=rfl
 repeat first|apply Wq|apply Wb|apply Wk|apply Wx
 refine rH [(33,4,0)] [VT,VT,VT,VT,VT,Vb (false)] [⟨5,some 0,some 0,35,8,Vv N (n.1) (n.2),VT⟩,⟨6,some 1,some 1,35,8,Vv N (a.1) (a.2),VT⟩,⟨7,some 2,some 2,35,8,Vv N (b.1) (b.2),VT⟩,⟨8,some 3,some 3,35,8,Vv N (c.1) (c.2),VT⟩,⟨9,some 4,some 4,35,8,Vv N (d.1) (d.2),VT⟩] [(10,Vb (false))] st0 ⟨ks,ks,ks,ks,ks,ks,trivial⟩ ?_
 intro a1 w1 st1
 clear st0
 repeat first|apply Wq|apply Wb|apply Wk|apply Wx
 refine rH [(33,4,0)] [Vv N (n.1) (n.2),Vv N (a.1) (a.2),Vq (4*N+1) ((n.1)*(a.1)+(n.2)*(a.2)),VT,VT] [⟨5,none,none,35,8,Vv N (n.1) (n.2),VT⟩,⟨6,none,none,35,8,Vv N (a.1) (a.2),VT⟩,⟨7,none,none,35,8,Vv N (b.1) (b.2),VT⟩,⟨8,none,none,35,8,Vv N (c.1) (c.2),VT⟩,⟨9,none,none,35,8,Vv N (d.1) (d.2),VT⟩,⟨11,some 3,some 4,33,4,Vq (4*N+1) ((n.1)*(a.1)+(n.2)*(a.2)),VT⟩] [(10,Vb (false))] st1 ⟨ks,ks,(kd2 fun _ _ _ _ _ X0 _ X1=>cR5Dot X0 X1 (by omega) (by omega)),ks,ks,trivial⟩ ?_
 intro a2 w2 st2
 clear st1
 repeat first|apply Wq|apply Wb|apply Wk|apply Wx
 refine rH [(33,4,0)] [Vv N (n.1) (n.2),Vv N (b.1) (b.2),Vq (4*N+1) ((n.1)*(b.1)+(n.2)*(b.2)),VT,VT] [⟨5,none,none,35,8,Vv N (n.1) (n.2),VT⟩,⟨6,none,none,35,8,Vv N (a.1) (a.2),VT⟩,⟨7,none,none,35,8,Vv N (b.1) (b.2),VT⟩,⟨8,none,none,35,8,Vv N (c.1) (c.2),VT⟩,⟨9,none,none,35,8,Vv N (d.1) (d.2),VT⟩,⟨11,none,none,33,4,Vq (4*N+1) ((n.1)*(a.1)+(n.2)*(a.2)),VT⟩,⟨12,some 3,some 4,33,4,Vq (4*N+1) ((n.1)*(b.1)+(n.2)*(b.2)),VT⟩] [(10,Vb (false))] st2 ⟨ks,ks,(kd2 fun _ _ _ _ _ X0 _ X1=>cR5Dot X0 X1 (by omega) (by omega)),ks,ks,trivial⟩ ?_
 intro a3 w3 st3
 clear st2
 repeat first|apply Wq|apply Wb|apply Wk|apply Wx
 refine rH [(33,4,0)] [Vv N (n.1) (n.2),Vv N (c.1) (c.2),Vq (4*N+1) ((n.1)*(c.1)+(n.2)*(c.2)),VT,VT] [⟨5,none,none,35,8,Vv N (n.1) (n.2),VT⟩,⟨6,none,none,35,8,Vv N (a.1) (a.2),VT⟩,⟨7,none,none,35,8,Vv N (b.1) (b.2),VT⟩,⟨8,none,none,35,8,Vv N (c.1) (c.2),VT⟩,⟨9,none,none,35,8,Vv N (d.1) (d.2),VT⟩,⟨11,none,none,33,4,Vq (4*N+1) ((n.1)*(a.1)+(n.2)*(a.2)),VT⟩,⟨12,none,none,33,4,Vq (4*N+1) ((n.1)*(b.1)+(n.2)*(b.2)),VT⟩,⟨13,some 3,some 4,33,4,Vq (4*N+1) ((n.1)*(c.1)+(n.2)*(c.2)),VT⟩] [(10,Vb (false))] st3 ⟨ks,ks,(kd2 fun _ _ _ _ _ X0 _ X1=>cR5Dot X0 X1 (by omega) (by omega)),ks,ks,trivial⟩ ?_
 intro a4 w4 st4
 clear st3
 repeat first|apply Wq|apply Wb|apply Wk|apply Wx
 refine rH [(33,4,0)] [Vv N (n.1) (n.2),Vv N (d.1) (d.2),Vq (4*N+1) ((n.1)*(d.1)+(n.2)*(d.2)),VT,VT] [⟨5,none,none,35,8,Vv N (n.1) (n.2),VT⟩,⟨6,none,none,35,8,Vv N (a.1) (a.2),VT⟩,⟨7,none,none,35,8,Vv N (b.1) (b.2),VT⟩,⟨8,none,none,35,8,Vv N (c.1) (c.2),VT⟩,⟨9,none,none,35,8,Vv N (d.1) (d.2),VT⟩,⟨11,none,none,33,4,Vq (4*N+1) ((n.1)*(a.1)+(n.2)*(a.2)),VT⟩,⟨12,none,none,33,4,Vq (4*N+1) ((n.1)*(b.1)+(n.2)*(b.2)),VT⟩,⟨13,none,none,33,4,Vq (4*N+1) ((n.1)*(c.1)+(n.2)*(c.2)),VT⟩,⟨14,some 3,some 4,33,4,Vq (4*N+1) ((n.1)*(d.1)+(n.2)*(d.2)),VT⟩] [(10,Vb (false))] st4 ⟨ks,ks,(kd2 fun _ _ _ _ _ X0 _ X1=>cR5Dot X0 X1 (by omega) (by omega)),ks,ks,trivial⟩ ?_
 intro a5 w5 st5
 clear st4
 replace st5:St w.heap.size w 77 [⟨11,none,none,33,4,Vq (4*N+1) (dtP n a),VT⟩,⟨12,none,none,33,4,Vq (4*N+1) (dtP n b),VT⟩,⟨13,none,none,33,4,Vq (4*N+1) (dtP n c),VT⟩,⟨14,none,none,33,4,Vq (4*N+1) (dtP n d),VT⟩] [] a5 w5:=st5.cut
 generalize dtP n a=pA at*
 generalize dtP n b=pB at*
 generalize dtP n c=pC at*
 generalize dtP n d=pD at*
 repeat first|apply Wq|apply Wb|apply Wk|apply Wx
 refine wp_mono' (Q:=fun e aX wX=>e= .normal/\St w.heap.size w 77 [⟨11,none,none,33,4,Vq (4*N+1) (pA),VT⟩,⟨12,none,none,33,4,Vq (4*N+1) (pB),VT⟩,⟨13,none,none,33,4,Vq (4*N+1) (pC),VT⟩,⟨14,none,none,33,4,Vq (4*N+1) (pD),VT⟩] [(15,Vb (ltQ pA pC && (ltQ pA pD && (ltQ pB pC && (ltQ pB pD)))))] aX wX) ?r5 ?_
 case r5=>
  by_cases hc0:cmpQ pA pC<0
  ·
   by_cases hc1:cmpQ pA pD<0
   ·
    by_cases hc2:cmpQ pB pC<0
    ·
     by_cases hc3:cmpQ pB pD<0
     ·
      repeat first|apply Wq|apply Wb|apply Wk|apply Wx
      refine rH [(33,4,0)] [Vq (4*N+1) (pA),Vq (4*N+1) (pC),Vi (cmpQ (pA) (pC)),Vb (true),Vb (true),Vq (4*N+1) (pA),Vq (4*N+1) (pD),Vi (cmpQ (pA) (pD)),Vb (true),Vb (true),Vb (true),Vq (4*N+1) (pB),Vq (4*N+1) (pC),Vi (cmpQ (pB) (pC)),Vb (true),Vb (true),Vb (true),Vq (4*N+1) (pB),Vq (4*N+1) (pD),Vi (cmpQ (pB) (pD)),Vb (true),Vb (true),Vb (true)] [⟨11,none,none,33,4,Vq (4*N+1) (pA),VT⟩,⟨12,none,none,33,4,Vq (4*N+1) (pB),VT⟩,⟨13,none,none,33,4,Vq (4*N+1) (pC),VT⟩,⟨14,none,none,33,4,Vq (4*N+1) (pD),VT⟩] [(15,Vb (true))] st5 ⟨ks,ks,(kd2 fun _ _ _ _ _ X0 _ X1=>cR4Compare X0 X1 (by omega) (by omega)),(by refine kr fun _ A Y h D=>?_;obtain⟨v0,x0,X0⟩:=h.dp D 31;have hV0':v0= .int .i64 (cmpQ (pA) (pC)):=X0;exact⟨_,run_lssi rfl (x0.trans hV0') rfl,congrArg Value.bool (dT hc0)⟩),ks,ks,ks,(kd2 fun _ _ _ _ _ X0 _ X1=>cR4Compare X0 X1 (by omega) (by omega)),(by refine kr fun _ A Y h D=>?_;obtain⟨v0,x0,X0⟩:=h.dp D 36;have hV0':v0= .int .i64 (cmpQ (pA) (pD)):=X0;exact⟨_,run_lssi rfl (x0.trans hV0') rfl,congrArg Value.bool (dT hc1)⟩),ks,ks,ks,ks,(kd2 fun _ _ _ _ _ X0 _ X1=>cR4Compare X0 X1 (by omega) (by omega)),(by refine kr fun _ A Y h D=>?_;obtain⟨v0,x0,X0⟩:=h.dp D 42;have hV0':v0= .int .i64 (cmpQ (pB) (pC)):=X0;exact⟨_,run_lssi rfl (x0.trans hV0') rfl,congrArg Value.bool (dT hc2)⟩),ks,ks,ks,ks,(kd2 fun _ _ _ _ _ X0 _ X1=>cR4Compare X0 X1 (by omega) (by omega)),(by refine kr fun _ A Y h D=>?_;obtain⟨v0,x0,X0⟩:=h.dp D 48;have hV0':v0= .int .i64 (cmpQ (pB) (pD)):=X0;exact⟨_,run_lssi rfl (x0.trans hV0') rfl,congrArg Value.bool (dT hc3)⟩),ks,ks,trivial⟩ ?_
      intro a6 w6 st6
      clear st5
      have hv:(ltQ pA pC && (ltQ pA pD && (ltQ pB pC && (ltQ pB pD))))=true:=by rw [show ltQ pA pC=true from dT hc0,show ltQ pA pD=true from dT hc1,show ltQ pB pC=true from dT hc2,show ltQ pB pD=true from dT hc3];simp
      exact⟨rfl,by rw [hv];exact st6.cut⟩
     ·
      repeat first|apply Wq|apply Wb|apply Wk|apply Wx
      refine rH [(33,4,0)] [Vq (4*N+1) (pA),Vq (4*N+1) (pC),Vi (cmpQ (pA) (pC)),Vb (true),Vb (true),Vq (4*N+1) (pA),Vq (4*N+1) (pD),Vi (cmpQ (pA) (pD)),Vb (true),Vb (true),Vb (true),Vq (4*N+1) (pB),Vq (4*N+1) (pC),Vi (cmpQ (pB) (pC)),Vb (true),Vb (true),Vb (true),Vq (4*N+1) (pB),Vq (4*N+1) (pD),Vi (cmpQ (pB) (pD)),Vb (false),Vb (false),Vb (false)] [⟨11,none,none,33,4,Vq (4*N+1) (pA),VT⟩,⟨12,none,none,33,4,Vq (4*N+1) (pB),VT⟩,⟨13,none,none,33,4,Vq (4*N+1) (pC),VT⟩,⟨14,none,none,33,4,Vq (4*N+1) (pD),VT⟩] [(15,Vb (false))] st5 ⟨ks,ks,(kd2 fun _ _ _ _ _ X0 _ X1=>cR4Compare X0 X1 (by omega) (by omega)),(by refine kr fun _ A Y h D=>?_;obtain⟨v0,x0,X0⟩:=h.dp D 31;have hV0':v0= .int .i64 (cmpQ (pA) (pC)):=X0;exact⟨_,run_lssi rfl (x0.trans hV0') rfl,congrArg Value.bool (dT hc0)⟩),ks,ks,ks,(kd2 fun _ _ _ _ _ X0 _ X1=>cR4Compare X0 X1 (by omega) (by omega)),(by refine kr fun _ A Y h D=>?_;obtain⟨v0,x0,X0⟩:=h.dp D 36;have hV0':v0= .int .i64 (cmpQ (pA) (pD)):=X0;exact⟨_,run_lssi rfl (x0.trans hV0') rfl,congrArg Value.bool (dT hc1)⟩),ks,ks,ks,ks,(kd2 fun _ _ _ _ _ X0 _ X1=>cR4Compare X0 X1 (by omega) (by omega)),(by refine kr fun _ A Y h D=>?_;obtain⟨v0,x0,X0⟩:=h.dp D 42;have hV0':v0= .int .i64 (cmpQ (pB) (pC)):=X0;exact⟨_,run_lssi rfl (x0.trans hV0') rfl,congrArg Value.bool (dT hc2)⟩),ks,ks,ks,ks,(kd2 fun _ _ _ _ _ X0 _ X1=>cR4Compare X0 X1 (by omega) (by omega)),(by refine kr fun _ A Y h D=>?_;obtain⟨v0,x0,X0⟩:=h.dp D 48;have hV0':v0= .int .i64 (cmpQ (pB) (pD)):=X0;exact⟨_,run_lssi rfl (x0.trans hV0') rfl,congrArg Value.bool (dF hc3)⟩),ks,ks,trivial⟩ ?_
      intro a6 w6 st6
      clear st5
      have hv:(ltQ pA pC && (ltQ pA pD && (ltQ pB pC && (ltQ pB pD))))=false:=by rw [show ltQ pA pC=true from dT hc0,show ltQ pA pD=true from dT hc1,show ltQ pB pC=true from dT hc2,show ltQ pB pD=false from dF hc3];simp
      exact⟨rfl,by rw [hv];exact st6.cut⟩
    ·
     repeat first|apply Wq|apply Wb|apply Wk|apply Wx
     refine rH [(33,4,0)] [Vq (4*N+1) (pA),Vq (4*N+1) (pC),Vi (cmpQ (pA) (pC)),Vb (true),Vb (true),Vq (4*N+1) (pA),Vq (4*N+1) (pD),Vi (cmpQ (pA) (pD)),Vb (true),Vb (true),Vb (true),Vq (4*N+1) (pB),Vq (4*N+1) (pC),Vi (cmpQ (pB) (pC)),Vb (false),Vb (false),Vb (false),VT,VT,VT,VT,Vb (false),Vb (false)] [⟨11,none,none,33,4,Vq (4*N+1) (pA),VT⟩,⟨12,none,none,33,4,Vq (4*N+1) (pB),VT⟩,⟨13,none,none,33,4,Vq (4*N+1) (pC),VT⟩,⟨14,none,none,33,4,Vq (4*N+1) (pD),VT⟩] [(15,Vb (false))] st5 ⟨ks,ks,(kd2 fun _ _ _ _ _ X0 _ X1=>cR4Compare X0 X1 (by omega) (by omega)),(by refine kr fun _ A Y h D=>?_;obtain⟨v0,x0,X0⟩:=h.dp D 31;have hV0':v0= .int .i64 (cmpQ (pA) (pC)):=X0;exact⟨_,run_lssi rfl (x0.trans hV0') rfl,congrArg Value.bool (dT hc0)⟩),ks,ks,ks,(kd2 fun _ _ _ _ _ X0 _ X1=>cR4Compare X0 X1 (by omega) (by omega)),(by refine kr fun _ A Y h D=>?_;obtain⟨v0,x0,X0⟩:=h.dp D 36;have hV0':v0= .int .i64 (cmpQ (pA) (pD)):=X0;exact⟨_,run_lssi rfl (x0.trans hV0') rfl,congrArg Value.bool (dT hc1)⟩),ks,ks,ks,ks,(kd2 fun _ _ _ _ _ X0 _ X1=>cR4Compare X0 X1 (by omega) (by omega)),(by refine kr fun _ A Y h D=>?_;obtain⟨v0,x0,X0⟩:=h.dp D 42;have hV0':v0= .int .i64 (cmpQ (pB) (pC)):=X0;exact⟨_,run_lssi rfl (x0.trans hV0') rfl,congrArg Value.bool (dF hc2)⟩),ks,ks,ks,ks,ks,ks,ks,ks,trivial⟩ ?_
     intro a6 w6 st6
     clear st5
     have hv:(ltQ pA pC && (ltQ pA pD && (ltQ pB pC && (ltQ pB pD))))=false:=by rw [show ltQ pA pC=true from dT hc0,show ltQ pA pD=true from dT hc1,show ltQ pB pC=false from dF hc2];simp
     exact⟨rfl,by rw [hv];exact st6.cut⟩
   ·
    repeat first|apply Wq|apply Wb|apply Wk|apply Wx
    refine rH [(33,4,0)] [Vq (4*N+1) (pA),Vq (4*N+1) (pC),Vi (cmpQ (pA) (pC)),Vb (true),Vb (true),Vq (4*N+1) (pA),Vq (4*N+1) (pD),Vi (cmpQ (pA) (pD)),Vb (false),Vb (false),Vb (false),VT,VT,VT,VT,Vb (false),Vb (false),VT,VT,VT,VT,Vb (false),Vb (false)] [⟨11,none,none,33,4,Vq (4*N+1) (pA),VT⟩,⟨12,none,none,33,4,Vq (4*N+1) (pB),VT⟩,⟨13,none,none,33,4,Vq (4*N+1) (pC),VT⟩,⟨14,none,none,33,4,Vq (4*N+1) (pD),VT⟩] [(15,Vb (false))] st5 ⟨ks,ks,(kd2 fun _ _ _ _ _ X0 _ X1=>cR4Compare X0 X1 (by omega) (by omega)),(by refine kr fun _ A Y h D=>?_;obtain⟨v0,x0,X0⟩:=h.dp D 31;have hV0':v0= .int .i64 (cmpQ (pA) (pC)):=X0;exact⟨_,run_lssi rfl (x0.trans hV0') rfl,congrArg Value.bool (dT hc0)⟩),ks,ks,ks,(kd2 fun _ _ _ _ _ X0 _ X1=>cR4Compare X0 X1 (by omega) (by omega)),(by refine kr fun _ A Y h D=>?_;obtain⟨v0,x0,X0⟩:=h.dp D 36;have hV0':v0= .int .i64 (cmpQ (pA) (pD)):=X0;exact⟨_,run_lssi rfl (x0.trans hV0') rfl,congrArg Value.bool (dF hc1)⟩),ks,ks,ks,ks,ks,ks,ks,ks,ks,ks,ks,ks,ks,ks,trivial⟩ ?_
    intro a6 w6 st6
    clear st5
    have hv:(ltQ pA pC && (ltQ pA pD && (ltQ pB pC && (ltQ pB pD))))=false:=by rw [show ltQ pA pC=true from dT hc0,show ltQ pA pD=false from dF hc1];simp
    exact⟨rfl,by rw [hv];exact st6.cut⟩
  ·
   repeat first|apply Wq|apply Wb|apply Wk|apply Wx
   refine rH [(33,4,0)] [Vq (4*N+1) (pA),Vq (4*N+1) (pC),Vi (cmpQ (pA) (pC)),Vb (false),Vb (false),VT,VT,VT,VT,Vb (false),Vb (false),VT,VT,VT,VT,Vb (false),Vb (false),VT,VT,VT,VT,Vb (false),Vb (false)] [⟨11,none,none,33,4,Vq (4*N+1) (pA),VT⟩,⟨12,none,none,33,4,Vq (4*N+1) (pB),VT⟩,⟨13,none,none,33,4,Vq (4*N+1) (pC),VT⟩,⟨14,none,none,33,4,Vq (4*N+1) (pD),VT⟩] [(15,Vb (false))] st5 ⟨ks,ks,(kd2 fun _ _ _ _ _ X0 _ X1=>cR4Compare X0 X1 (by omega) (by omega)),(by refine kr fun _ A Y h D=>?_;obtain⟨v0,x0,X0⟩:=h.dp D 31;have hV0':v0= .int .i64 (cmpQ (pA) (pC)):=X0;exact⟨_,run_lssi rfl (x0.trans hV0') rfl,congrArg Value.bool (dF hc0)⟩),ks,ks,ks,ks,ks,ks,ks,ks,ks,ks,ks,ks,ks,ks,ks,ks,ks,ks,ks,trivial⟩ ?_
   intro a6 w6 st6
   clear st5
   have hv:(ltQ pA pC && (ltQ pA pD && (ltQ pB pC && (ltQ pB pD))))=false:=by rw [show ltQ pA pC=false from dF hc0];simp
   exact⟨rfl,by rw [hv];exact st6.cut⟩
 rintro _ a6x w6x ⟨rfl,st6⟩
 clear st5
 repeat first|apply Wq|apply Wb|apply Wk|apply Wx
 refine wp_mono' (Q:=fun e aX wX=>e= .normal/\St w.heap.size w 77 [⟨11,none,none,33,4,Vq (4*N+1) (pA),VT⟩,⟨12,none,none,33,4,Vq (4*N+1) (pB),VT⟩,⟨13,none,none,33,4,Vq (4*N+1) (pC),VT⟩,⟨14,none,none,33,4,Vq (4*N+1) (pD),VT⟩] [(15,Vb (ltQ pA pC && (ltQ pA pD && (ltQ pB pC && (ltQ pB pD))))),(16,Vb (gtQ pA pC && (gtQ pA pD && (gtQ pB pC && (gtQ pB pD)))))] aX wX) ?r6 ?_
 case r6=>
  by_cases hc0:0<cmpQ pA pC
  ·
   by_cases hc1:0<cmpQ pA pD
   ·
    by_cases hc2:0<cmpQ pB pC
    ·
     by_cases hc3:0<cmpQ pB pD
     ·
      repeat first|apply Wq|apply Wb|apply Wk|apply Wx
      refine rH [(33,4,0)] [Vq (4*N+1) (pA),Vq (4*N+1) (pC),Vi (cmpQ (pA) (pC)),Vb (true),Vb (true),Vq (4*N+1) (pA),Vq (4*N+1) (pD),Vi (cmpQ (pA) (pD)),Vb (true),Vb (true),Vb (true),Vq (4*N+1) (pB),Vq (4*N+1) (pC),Vi (cmpQ (pB) (pC)),Vb (true),Vb (true),Vb (true),Vq (4*N+1) (pB),Vq (4*N+1) (pD),Vi (cmpQ (pB) (pD)),Vb (true),Vb (true),Vb (true)] [⟨11,none,none,33,4,Vq (4*N+1) (pA),VT⟩,⟨12,none,none,33,4,Vq (4*N+1) (pB),VT⟩,⟨13,none,none,33,4,Vq (4*N+1) (pC),VT⟩,⟨14,none,none,33,4,Vq (4*N+1) (pD),VT⟩] [(15,Vb (ltQ pA pC && (ltQ pA pD && (ltQ pB pC && (ltQ pB pD))))),(16,Vb (true))] st6 ⟨ks,ks,(kd2 fun _ _ _ _ _ X0 _ X1=>cR4Compare X0 X1 (by omega) (by omega)),(by refine kr fun _ A Y h D=>?_;obtain⟨v0,x0,X0⟩:=h.dp D 53;have hV0':v0= .int .i64 (cmpQ (pA) (pC)):=X0;exact⟨_,run_gtri rfl (x0.trans hV0') rfl,congrArg Value.bool (dT hc0)⟩),ks,ks,ks,(kd2 fun _ _ _ _ _ X0 _ X1=>cR4Compare X0 X1 (by omega) (by omega)),(by refine kr fun _ A Y h D=>?_;obtain⟨v0,x0,X0⟩:=h.dp D 58;have hV0':v0= .int .i64 (cmpQ (pA) (pD)):=X0;exact⟨_,run_gtri rfl (x0.trans hV0') rfl,congrArg Value.bool (dT hc1)⟩),ks,ks,ks,ks,(kd2 fun _ _ _ _ _ X0 _ X1=>cR4Compare X0 X1 (by omega) (by omega)),(by refine kr fun _ A Y h D=>?_;obtain⟨v0,x0,X0⟩:=h.dp D 64;have hV0':v0= .int .i64 (cmpQ (pB) (pC)):=X0;exact⟨_,run_gtri rfl (x0.trans hV0') rfl,congrArg Value.bool (dT hc2)⟩),ks,ks,ks,ks,(kd2 fun _ _ _ _ _ X0 _ X1=>cR4Compare X0 X1 (by omega) (by omega)),(by refine kr fun _ A Y h D=>?_;obtain⟨v0,x0,X0⟩:=h.dp D 70;have hV0':v0= .int .i64 (cmpQ (pB) (pD)):=X0;exact⟨_,run_gtri rfl (x0.trans hV0') rfl,congrArg Value.bool (dT hc3)⟩),ks,ks,trivial⟩ ?_
      intro a7 w7 st7
      clear st6
      have hv:(gtQ pA pC && (gtQ pA pD && (gtQ pB pC && (gtQ pB pD))))=true:=by rw [show gtQ pA pC=true from dT hc0,show gtQ pA pD=true from dT hc1,show gtQ pB pC=true from dT hc2,show gtQ pB pD=true from dT hc3];simp
      exact⟨rfl,by rw [hv];exact st7.cut⟩
     ·
      repeat first|apply Wq|apply Wb|apply Wk|apply Wx
      refine rH [(33,4,0)] [Vq (4*N+1) (pA),Vq (4*N+1) (pC),Vi (cmpQ (pA) (pC)),Vb (true),Vb (true),Vq (4*N+1) (pA),Vq (4*N+1) (pD),Vi (cmpQ (pA) (pD)),Vb (true),Vb (true),Vb (true),Vq (4*N+1) (pB),Vq (4*N+1) (pC),Vi (cmpQ (pB) (pC)),Vb (true),Vb (true),Vb (true),Vq (4*N+1) (pB),Vq (4*N+1) (pD),Vi (cmpQ (pB) (pD)),Vb (false),Vb (false),Vb (false)] [⟨11,none,none,33,4,Vq (4*N+1) (pA),VT⟩,⟨12,none,none,33,4,Vq (4*N+1) (pB),VT⟩,⟨13,none,none,33,4,Vq (4*N+1) (pC),VT⟩,⟨14,none,none,33,4,Vq (4*N+1) (pD),VT⟩] [(15,Vb (ltQ pA pC && (ltQ pA pD && (ltQ pB pC && (ltQ pB pD))))),(16,Vb (false))] st6 ⟨ks,ks,(kd2 fun _ _ _ _ _ X0 _ X1=>cR4Compare X0 X1 (by omega) (by omega)),(by refine kr fun _ A Y h D=>?_;obtain⟨v0,x0,X0⟩:=h.dp D 53;have hV0':v0= .int .i64 (cmpQ (pA) (pC)):=X0;exact⟨_,run_gtri rfl (x0.trans hV0') rfl,congrArg Value.bool (dT hc0)⟩),ks,ks,ks,(kd2 fun _ _ _ _ _ X0 _ X1=>cR4Compare X0 X1 (by omega) (by omega)),(by refine kr fun _ A Y h D=>?_;obtain⟨v0,x0,X0⟩:=h.dp D 58;have hV0':v0= .int .i64 (cmpQ (pA) (pD)):=X0;exact⟨_,run_gtri rfl (x0.trans hV0') rfl,congrArg Value.bool (dT hc1)⟩),ks,ks,ks,ks,(kd2 fun _ _ _ _ _ X0 _ X1=>cR4Compare X0 X1 (by omega) (by omega)),(by refine kr fun _ A Y h D=>?_;obtain⟨v0,x0,X0⟩:=h.dp D 64;have hV0':v0= .int .i64 (cmpQ (pB) (pC)):=X0;exact⟨_,run_gtri rfl (x0.trans hV0') rfl,congrArg Value.bool (dT hc2)⟩),ks,ks,ks,ks,(kd2 fun _ _ _ _ _ X0 _ X1=>cR4Compare X0 X1 (by omega) (by omega)),(by refine kr fun _ A Y h D=>?_;obtain⟨v0,x0,X0⟩:=h.dp D 70;have hV0':v0= .int .i64 (cmpQ (pB) (pD)):=X0;exact⟨_,run_gtri rfl (x0.trans hV0') rfl,congrArg Value.bool (dF hc3)⟩),ks,ks,trivial⟩ ?_
      intro a7 w7 st7
      clear st6
      have hv:(gtQ pA pC && (gtQ pA pD && (gtQ pB pC && (gtQ pB pD))))=false:=by rw [show gtQ pA pC=true from dT hc0,show gtQ pA pD=true from dT hc1,show gtQ pB pC=true from dT hc2,show gtQ pB pD=false from dF hc3];simp
      exact⟨rfl,by rw [hv];exact st7.cut⟩
    ·
     repeat first|apply Wq|apply Wb|apply Wk|apply Wx
     refine rH [(33,4,0)] [Vq (4*N+1) (pA),Vq (4*N+1) (pC),Vi (cmpQ (pA) (pC)),Vb (true),Vb (true),Vq (4*N+1) (pA),Vq (4*N+1) (pD),Vi (cmpQ (pA) (pD)),Vb (true),Vb (true),Vb (true),Vq (4*N+1) (pB),Vq (4*N+1) (pC),Vi (cmpQ (pB) (pC)),Vb (false),Vb (false),Vb (false),VT,VT,VT,VT,Vb (false),Vb (false)] [⟨11,none,none,33,4,Vq (4*N+1) (pA),VT⟩,⟨12,none,none,33,4,Vq (4*N+1) (pB),VT⟩,⟨13,none,none,33,4,Vq (4*N+1) (pC),VT⟩,⟨14,none,none,33,4,Vq (4*N+1) (pD),VT⟩] [(15,Vb (ltQ pA pC && (ltQ pA pD && (ltQ pB pC && (ltQ pB pD))))),(16,Vb (false))] st6 ⟨ks,ks,(kd2 fun _ _ _ _ _ X0 _ X1=>cR4Compare X0 X1 (by omega) (by omega)),(by refine kr fun _ A Y h D=>?_;obtain⟨v0,x0,X0⟩:=h.dp D 53;have hV0':v0= .int .i64 (cmpQ (pA) (pC)):=X0;exact⟨_,run_gtri rfl (x0.trans hV0') rfl,congrArg Value.bool (dT hc0)⟩),ks,ks,ks,(kd2 fun _ _ _ _ _ X0 _ X1=>cR4Compare X0 X1 (by omega) (by omega)),(by refine kr fun _ A Y h D=>?_;obtain⟨v0,x0,X0⟩:=h.dp D 58;have hV0':v0= .int .i64 (cmpQ (pA) (pD)):=X0;exact⟨_,run_gtri rfl (x0.trans hV0') rfl,congrArg Value.bool (dT hc1)⟩),ks,ks,ks,ks,(kd2 fun _ _ _ _ _ X0 _ X1=>cR4Compare X0 X1 (by omega) (by omega)),(by refine kr fun _ A Y h D=>?_;obtain⟨v0,x0,X0⟩:=h.dp D 64;have hV0':v0= .int .i64 (cmpQ (pB) (pC)):=X0;exact⟨_,run_gtri rfl (x0.trans hV0') rfl,congrArg Value.bool (dF hc2)⟩),ks,ks,ks,ks,ks,ks,ks,ks,trivial⟩ ?_
     intro a7 w7 st7
     clear st6
     have hv:(gtQ pA pC && (gtQ pA pD && (gtQ pB pC && (gtQ pB pD))))=false:=by rw [show gtQ pA pC=true from dT hc0,show gtQ pA pD=true from dT hc1,show gtQ pB pC=false from dF hc2];simp
     exact⟨rfl,by rw [hv];exact st7.cut⟩
   ·
    repeat first|apply Wq|apply Wb|apply Wk|apply Wx
    refine rH [(33,4,0)] [Vq (4*N+1) (pA),Vq (4*N+1) (pC),Vi (cmpQ (pA) (pC)),Vb (true),Vb (true),Vq (4*N+1) (pA),Vq (4*N+1) (pD),Vi (cmpQ (pA) (pD)),Vb (false),Vb (false),Vb (false),VT,VT,VT,VT,Vb (false),Vb (false),VT,VT,VT,VT,Vb (false),Vb (false)] [⟨11,none,none,33,4,Vq (4*N+1) (pA),VT⟩,⟨12,none,none,33,4,Vq (4*N+1) (pB),VT⟩,⟨13,none,none,33,4,Vq (4*N+1) (pC),VT⟩,⟨14,none,none,33,4,Vq (4*N+1) (pD),VT⟩] [(15,Vb (ltQ pA pC && (ltQ pA pD && (ltQ pB pC && (ltQ pB pD))))),(16,Vb (false))] st6 ⟨ks,ks,(kd2 fun _ _ _ _ _ X0 _ X1=>cR4Compare X0 X1 (by omega) (by omega)),(by refine kr fun _ A Y h D=>?_;obtain⟨v0,x0,X0⟩:=h.dp D 53;have hV0':v0= .int .i64 (cmpQ (pA) (pC)):=X0;exact⟨_,run_gtri rfl (x0.trans hV0') rfl,congrArg Value.bool (dT hc0)⟩),ks,ks,ks,(kd2 fun _ _ _ _ _ X0 _ X1=>cR4Compare X0 X1 (by omega) (by omega)),(by refine kr fun _ A Y h D=>?_;obtain⟨v0,x0,X0⟩:=h.dp D 58;have hV0':v0= .int .i64 (cmpQ (pA) (pD)):=X0;exact⟨_,run_gtri rfl (x0.trans hV0') rfl,congrArg Value.bool (dF hc1)⟩),ks,ks,ks,ks,ks,ks,ks,ks,ks,ks,ks,ks,ks,ks,trivial⟩ ?_
    intro a7 w7 st7
    clear st6
    have hv:(gtQ pA pC && (gtQ pA pD && (gtQ pB pC && (gtQ pB pD))))=false:=by rw [show gtQ pA pC=true from dT hc0,show gtQ pA pD=false from dF hc1];simp
    exact⟨rfl,by rw [hv];exact st7.cut⟩
  ·
   repeat first|apply Wq|apply Wb|apply Wk|apply Wx
   refine rH [(33,4,0)] [Vq (4*N+1) (pA),Vq (4*N+1) (pC),Vi (cmpQ (pA) (pC)),Vb (false),Vb (false),VT,VT,VT,VT,Vb (false),Vb (false),VT,VT,VT,VT,Vb (false),Vb (false),VT,VT,VT,VT,Vb (false),Vb (false)] [⟨11,none,none,33,4,Vq (4*N+1) (pA),VT⟩,⟨12,none,none,33,4,Vq (4*N+1) (pB),VT⟩,⟨13,none,none,33,4,Vq (4*N+1) (pC),VT⟩,⟨14,none,none,33,4,Vq (4*N+1) (pD),VT⟩] [(15,Vb (ltQ pA pC && (ltQ pA pD && (ltQ pB pC && (ltQ pB pD))))),(16,Vb (false))] st6 ⟨ks,ks,(kd2 fun _ _ _ _ _ X0 _ X1=>cR4Compare X0 X1 (by omega) (by omega)),(by refine kr fun _ A Y h D=>?_;obtain⟨v0,x0,X0⟩:=h.dp D 53;have hV0':v0= .int .i64 (cmpQ (pA) (pC)):=X0;exact⟨_,run_gtri rfl (x0.trans hV0') rfl,congrArg Value.bool (dF hc0)⟩),ks,ks,ks,ks,ks,ks,ks,ks,ks,ks,ks,ks,ks,ks,ks,ks,ks,ks,ks,trivial⟩ ?_
   intro a7 w7 st7
   clear st6
   have hv:(gtQ pA pC && (gtQ pA pD && (gtQ pB pC && (gtQ pB pD))))=false:=by rw [show gtQ pA pC=false from dF hc0];simp
   exact⟨rfl,by rw [hv];exact st7.cut⟩
 rintro _ a7x w7x ⟨rfl,st7⟩
 clear st6
 generalize(ltQ pA pC && (ltQ pA pD && (ltQ pB pC && (ltQ pB pD))))=x15 at st7 hB
 generalize(gtQ pA pC && (gtQ pA pD && (gtQ pB pC && (gtQ pB pD))))=x16 at st7 hB
 cases h15:x15<;>cases h16:x16
 ·
  subst h15 h16
  repeat first|apply Wq|apply Wb|apply Wk|apply Wx
  refine rH [(33,4,0)] [Vb (false),Vb (false),Vb (false),Vb (false),Vb (false)] [⟨11,none,none,33,4,Vq (4*N+1) (pA),VT⟩,⟨12,none,none,33,4,Vq (4*N+1) (pB),VT⟩,⟨13,none,none,33,4,Vq (4*N+1) (pC),VT⟩,⟨14,none,none,33,4,Vq (4*N+1) (pD),VT⟩] [(10,Vb (false))] st7 ⟨ks,ks,ks,ks,ks,trivial⟩ ?_
  intro a8 w8 st8
  clear st7
  repeat first|apply Wq|apply Wb|apply Wk|apply Wx
  exact wp_ret (rS 10 (Vb (false)) st8 fun vr r4=>(by rw [show btwB n a b c d=false from hB];exact r4))
 ·
  subst h15 h16
  repeat first|apply Wq|apply Wb|apply Wk|apply Wx
  refine rH [(33,4,0)] [Vb (false),Vb (false),Vb (true),Vb (true),Vb (true)] [⟨11,none,none,33,4,Vq (4*N+1) (pA),VT⟩,⟨12,none,none,33,4,Vq (4*N+1) (pB),VT⟩,⟨13,none,none,33,4,Vq (4*N+1) (pC),VT⟩,⟨14,none,none,33,4,Vq (4*N+1) (pD),VT⟩] [(10,Vb (true))] st7 ⟨ks,ks,ks,ks,ks,trivial⟩ ?_
  intro a8 w8 st8
  clear st7
  repeat first|apply Wq|apply Wb|apply Wk|apply Wx
  exact wp_ret (rS 10 (Vb (true)) st8 fun vr r4=>(by rw [show btwB n a b c d=true from hB];exact r4))
 ·
  subst h15 h16
  repeat first|apply Wq|apply Wb|apply Wk|apply Wx
  refine rH [(33,4,0)] [Vb (true),Vb (true),VT,Vb (true),Vb (true)] [⟨11,none,none,33,4,Vq (4*N+1) (pA),VT⟩,⟨12,none,none,33,4,Vq (4*N+1) (pB),VT⟩,⟨13,none,none,33,4,Vq (4*N+1) (pC),VT⟩,⟨14,none,none,33,4,Vq (4*N+1) (pD),VT⟩] [(10,Vb (true))] st7 ⟨ks,ks,ks,ks,ks,trivial⟩ ?_
  intro a8 w8 st8
  clear st7
  repeat first|apply Wq|apply Wb|apply Wk|apply Wx
  exact wp_ret (rS 10 (Vb (true)) st8 fun vr r4=>(by rw [show btwB n a b c d=true from hB];exact r4))
 ·
  subst h15 h16
  repeat first|apply Wq|apply Wb|apply Wk|apply Wx
  refine rH [(33,4,0)] [Vb (true),Vb (true),VT,Vb (true),Vb (true)] [⟨11,none,none,33,4,Vq (4*N+1) (pA),VT⟩,⟨12,none,none,33,4,Vq (4*N+1) (pB),VT⟩,⟨13,none,none,33,4,Vq (4*N+1) (pC),VT⟩,⟨14,none,none,33,4,Vq (4*N+1) (pD),VT⟩] [(10,Vb (true))] st7 ⟨ks,ks,ks,ks,ks,trivial⟩ ?_
  intro a8 w8 st8
  clear st7
  repeat first|apply Wq|apply Wb|apply Wk|apply Wx
  exact wp_ret (rS 10 (Vb (true)) st8 fun vr r4=>(by rw [show btwB n a b c d=true from hB];exact r4))
end Go.Proofs.YtjdkdjobaabdiaaGreat
