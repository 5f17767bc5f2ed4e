/- Contracts of the packages integer, rat, plane, polygon and their references. -/
import Derived.Test.YteacdbgalloaiaaGreatH30
import Derived.Deep.LoopGhost
import Derived.Test.YteacdbgalloaiaaGreatH20
set_option linter.unusedVariables false
set_option maxRecDepth 100000
set_option maxHeartbeats 6400000
namespace Go.Proofs.YteacdbgalloaiaaGreat
open Go.RowKit
open Go
def dtP (a b:P2):Rat:=a.1*b.1+a.2*b.2
def ltQ (a b:Rat):Bool:=decide (cmpQ a b<0)
def gtQ (a b:Rat):Bool:=decide (0<cmpQ a b)
def btwB (n a b c d:P2):Bool:=(ltQ (dtP n a) (dtP n c) && (ltQ (dtP n a) (dtP n d) && (ltQ (dtP n b) (dtP n c) && ltQ (dtP n b) (dtP n d))))||(gtQ (dtP n a) (dtP n c) && (gtQ (dtP n a) (dtP n d) && (gtQ (dtP n b) (dtP n c) && gtQ (dtP n b) (dtP n d))))
theorem wp_mono' {P:Program}{Q Q':Exit->Act->World->Prop}{c:Code}{a:Act}{w:World}(h:c.wp P Q a w)(hq:∀e a w,Q e a w->Q' e a w):c.wp P Q' a w:=wp_mono h hq
theorem cR6Between {w:World}{N:Nat}{n a b c d:P2}{v0 v1 v2 v3 v4:Value}(h0:Vv N (n.1) (n.2) v0 w)(h1:Vv N (a.1) (a.2) v1 w)(h2:Vv N (b.1) (b.2) v2 w)(h3:Vv N (c.1) (c.2) v3 w)(h4:Vv N (d.1) (d.2) v4 w)(hN3:3<=N:=by omega)(hN:N<=900:=by omega):Calls Tryz.prog 93 #[v0,v1,v2,v3,v4] w (RV (Vb (btwB n a b c d)) w):=by
 go_enter Tryz.func93,Tryz.ntmps93
 generalize hA:(⟨_,_⟩:Act)=a0;have st0:St w.heap.size w 77 [] [(0,Vv N (n.1) (n.2)),(1,Vv N (a.1) (a.2)),(2,Vv N (b.1) (b.2)),(3,Vv N (c.1) (c.2)),(4,Vv N (d.1) (d.2))] a0 w:=by subst hA;exact St.begin rfl rfl (Lq.2 ⟨⟨_,rfl,h0⟩,(Lq.2 ⟨⟨_,rfl,h1⟩,(Lq.2 ⟨⟨_,rfl,h2⟩,(Lq.2 ⟨⟨_,rfl,h3⟩,(Lq.2 ⟨⟨_,rfl,h4⟩,L0⟩)⟩)⟩)⟩)⟩)
 clear hA;have hB:btwB n a b c d=((ltQ (dtP n a) (dtP n c) && (ltQ (dtP n a) (dtP n d) && (ltQ (dtP n b) (dtP n c) && ltQ (dtP n b) (dtP n d))))||(gtQ (dtP n a) (dtP n c) && (gtQ (dtP n a) (dtP n d) && (gtQ (dtP n b) (dtP n c) && gtQ (dtP n b) (dtP n d))))):=rfl;refine Wn ?_
 refine rH [(30,4,0)] [VT,VT,VT,VT,VT,Vb (false)] [⟨5,some 0,some 0,32,8,Vv N (n.1) (n.2),VT⟩,⟨6,some 1,some 1,32,8,Vv N (a.1) (a.2),VT⟩,⟨7,some 2,some 2,32,8,Vv N (b.1) (b.2),VT⟩,⟨8,some 3,some 3,32,8,Vv N (c.1) (c.2),VT⟩,⟨9,some 4,some 4,32,8,Vv N (d.1) (d.2),VT⟩] [(10,Vb (false))] st0 ⟨ks,ks,ks,ks,ks,ks,trivial⟩ fun a1 w1 st1=>Wn ?_;clear st0
 refine rH [(30,4,0)] [Vv N (n.1) (n.2),Vv N (a.1) (a.2),Vq (4*N+1) ((n.1)*(a.1)+(n.2)*(a.2)),VT,VT] [⟨5,none,none,32,8,Vv N (n.1) (n.2),VT⟩,⟨6,none,none,32,8,Vv N (a.1) (a.2),VT⟩,⟨7,none,none,32,8,Vv N (b.1) (b.2),VT⟩,⟨8,none,none,32,8,Vv N (c.1) (c.2),VT⟩,⟨9,none,none,32,8,Vv N (d.1) (d.2),VT⟩,⟨11,some 3,some 4,30,4,Vq (4*N+1) ((n.1)*(a.1)+(n.2)*(a.2)),VT⟩] [(10,Vb (false))] st1 ⟨ks,ks,(kd2 fun _ _ _ _ _ X0 _ X1=>cR5Dot X0 X1),ks,ks,trivial⟩ fun a2 w2 st2=>Wn ?_;clear st1
 refine rH [(30,4,0)] [Vv N (n.1) (n.2),Vv N (b.1) (b.2),Vq (4*N+1) ((n.1)*(b.1)+(n.2)*(b.2)),VT,VT] [⟨5,none,none,32,8,Vv N (n.1) (n.2),VT⟩,⟨6,none,none,32,8,Vv N (a.1) (a.2),VT⟩,⟨7,none,none,32,8,Vv N (b.1) (b.2),VT⟩,⟨8,none,none,32,8,Vv N (c.1) (c.2),VT⟩,⟨9,none,none,32,8,Vv N (d.1) (d.2),VT⟩,⟨11,none,none,30,4,Vq (4*N+1) ((n.1)*(a.1)+(n.2)*(a.2)),VT⟩,⟨12,some 3,some 4,30,4,Vq (4*N+1) ((n.1)*(b.1)+(n.2)*(b.2)),VT⟩] [(10,Vb (false))] st2 ⟨ks,ks,(kd2 fun _ _ _ _ _ X0 _ X1=>cR5Dot X0 X1),ks,ks,trivial⟩ fun a3 w3 st3=>Wn ?_;clear st2
 refine rH [(30,4,0)] [Vv N (n.1) (n.2),Vv N (c.1) (c.2),Vq (4*N+1) ((n.1)*(c.1)+(n.2)*(c.2)),VT,VT] [⟨5,none,none,32,8,Vv N (n.1) (n.2),VT⟩,⟨6,none,none,32,8,Vv N (a.1) (a.2),VT⟩,⟨7,none,none,32,8,Vv N (b.1) (b.2),VT⟩,⟨8,none,none,32,8,Vv N (c.1) (c.2),VT⟩,⟨9,none,none,32,8,Vv N (d.1) (d.2),VT⟩,⟨11,none,none,30,4,Vq (4*N+1) ((n.1)*(a.1)+(n.2)*(a.2)),VT⟩,⟨12,none,none,30,4,Vq (4*N+1) ((n.1)*(b.1)+(n.2)*(b.2)),VT⟩,⟨13,some 3,some 4,30,4,Vq (4*N+1) ((n.1)*(c.1)+(n.2)*(c.2)),VT⟩] [(10,Vb (false))] st3 ⟨ks,ks,(kd2 fun _ _ _ _ _ X0 _ X1=>cR5Dot X0 X1),ks,ks,trivial⟩ fun a4 w4 st4=>Wn ?_;clear st3
 refine rH [(30,4,0)] [Vv N (n.1) (n.2),Vv N (d.1) (d.2),Vq (4*N+1) ((n.1)*(d.1)+(n.2)*(d.2)),VT,VT] [⟨5,none,none,32,8,Vv N (n.1) (n.2),VT⟩,⟨6,none,none,32,8,Vv N (a.1) (a.2),VT⟩,⟨7,none,none,32,8,Vv N (b.1) (b.2),VT⟩,⟨8,none,none,32,8,Vv N (c.1) (c.2),VT⟩,⟨9,none,none,32,8,Vv N (d.1) (d.2),VT⟩,⟨11,none,none,30,4,Vq (4*N+1) ((n.1)*(a.1)+(n.2)*(a.2)),VT⟩,⟨12,none,none,30,4,Vq (4*N+1) ((n.1)*(b.1)+(n.2)*(b.2)),VT⟩,⟨13,none,none,30,4,Vq (4*N+1) ((n.1)*(c.1)+(n.2)*(c.2)),VT⟩,⟨14,some 3,some 4,30,4,Vq (4*N+1) ((n.1)*(d.1)+(n.2)*(d.2)),VT⟩] [(10,Vb (false))] st4 ⟨ks,ks,(kd2 fun _ _ _ _ _ X0 _ X1=>cR5Dot X0 X1),ks,ks,trivial⟩ ?_;intro a5 w5 st5;clear st4;replace st5:St w.heap.size w 77 [⟨11,none,none,30,4,Vq (4*N+1) (dtP n a),VT⟩,⟨12,none,none,30,4,Vq (4*N+1) (dtP n b),VT⟩,⟨13,none,none,30,4,Vq (4*N+1) (dtP n c),VT⟩,⟨14,none,none,30,4,Vq (4*N+1) (dtP n d),VT⟩] [] a5 w5:=st5.cut;generalize dtP n a=pA at*
 generalize dtP n b=pB at*
 generalize dtP n c=pC at*
 generalize dtP n d=pD at*
 refine Wn ?_
 refine wp_mono' (Q:=fun e aX wX=>e= .normal/\St w.heap.size w 77 [⟨11,none,none,30,4,Vq (4*N+1) (pA),VT⟩,⟨12,none,none,30,4,Vq (4*N+1) (pB),VT⟩,⟨13,none,none,30,4,Vq (4*N+1) (pC),VT⟩,⟨14,none,none,30,4,Vq (4*N+1) (pD),VT⟩] [(15,Vb (ltQ pA pC && (ltQ pA pD && (ltQ pB pC && (ltQ pB pD)))))] aX wX) ?r5 ?_
 case r5=>
  by_cases hc0:cmpQ pA pC<0
  ·
   by_cases hc1:cmpQ pA pD<0
   ·
    by_cases hc2:cmpQ pB pC<0
    ·
     by_cases hc3:cmpQ pB pD<0
     ·
      refine Wn ?_
      refine rH [(30,4,0)] [Vq (4*N+1) (pA),Vq (4*N+1) (pC),Vi (cmpQ (pA) (pC)),Vb (true),Vb (true),Vq (4*N+1) (pA),Vq (4*N+1) (pD),Vi (cmpQ (pA) (pD)),Vb (true),Vb (true),Vb (true),Vq (4*N+1) (pB),Vq (4*N+1) (pC),Vi (cmpQ (pB) (pC)),Vb (true),Vb (true),Vb (true),Vq (4*N+1) (pB),Vq (4*N+1) (pD),Vi (cmpQ (pB) (pD)),Vb (true),Vb (true),Vb (true)] [⟨11,none,none,30,4,Vq (4*N+1) (pA),VT⟩,⟨12,none,none,30,4,Vq (4*N+1) (pB),VT⟩,⟨13,none,none,30,4,Vq (4*N+1) (pC),VT⟩,⟨14,none,none,30,4,Vq (4*N+1) (pD),VT⟩] [(15,Vb (true))] st5 ⟨ks,ks,(kd2 fun _ _ _ _ _ X0 _ X1=>cR4Compare X0 X1),(kr1 31 fun _ _ _ _ _ x0 X0=>⟨_,run_lssi rfl (x0.trans X0) rfl,congrArg Value.bool (dT hc0)⟩),ks,ks,ks,(kd2 fun _ _ _ _ _ X0 _ X1=>cR4Compare X0 X1),(kr1 36 fun _ _ _ _ _ x0 X0=>⟨_,run_lssi rfl (x0.trans X0) rfl,congrArg Value.bool (dT hc1)⟩),ks,ks,ks,ks,(kd2 fun _ _ _ _ _ X0 _ X1=>cR4Compare X0 X1),(kr1 42 fun _ _ _ _ _ x0 X0=>⟨_,run_lssi rfl (x0.trans X0) rfl,congrArg Value.bool (dT hc2)⟩),ks,ks,ks,ks,(kd2 fun _ _ _ _ _ X0 _ X1=>cR4Compare X0 X1),(kr1 48 fun _ _ _ _ _ x0 X0=>⟨_,run_lssi rfl (x0.trans X0) rfl,congrArg Value.bool (dT hc3)⟩),ks,ks,trivial⟩ ?_;intro a6 w6 st6;clear st5;have hv:(ltQ pA pC && (ltQ pA pD && (ltQ pB pC && (ltQ pB pD))))=true:=by rw [show ltQ pA pC=true from dT hc0,show ltQ pA pD=true from dT hc1,show ltQ pB pC=true from dT hc2,show ltQ pB pD=true from dT hc3];simp
      exact⟨rfl,by rw [hv];exact st6.cut⟩
     ·
      refine Wn ?_
      refine rH [(30,4,0)] [Vq (4*N+1) (pA),Vq (4*N+1) (pC),Vi (cmpQ (pA) (pC)),Vb (true),Vb (true),Vq (4*N+1) (pA),Vq (4*N+1) (pD),Vi (cmpQ (pA) (pD)),Vb (true),Vb (true),Vb (true),Vq (4*N+1) (pB),Vq (4*N+1) (pC),Vi (cmpQ (pB) (pC)),Vb (true),Vb (true),Vb (true),Vq (4*N+1) (pB),Vq (4*N+1) (pD),Vi (cmpQ (pB) (pD)),Vb (false),Vb (false),Vb (false)] [⟨11,none,none,30,4,Vq (4*N+1) (pA),VT⟩,⟨12,none,none,30,4,Vq (4*N+1) (pB),VT⟩,⟨13,none,none,30,4,Vq (4*N+1) (pC),VT⟩,⟨14,none,none,30,4,Vq (4*N+1) (pD),VT⟩] [(15,Vb (false))] st5 ⟨ks,ks,(kd2 fun _ _ _ _ _ X0 _ X1=>cR4Compare X0 X1),(kr1 31 fun _ _ _ _ _ x0 X0=>⟨_,run_lssi rfl (x0.trans X0) rfl,congrArg Value.bool (dT hc0)⟩),ks,ks,ks,(kd2 fun _ _ _ _ _ X0 _ X1=>cR4Compare X0 X1),(kr1 36 fun _ _ _ _ _ x0 X0=>⟨_,run_lssi rfl (x0.trans X0) rfl,congrArg Value.bool (dT hc1)⟩),ks,ks,ks,ks,(kd2 fun _ _ _ _ _ X0 _ X1=>cR4Compare X0 X1),(kr1 42 fun _ _ _ _ _ x0 X0=>⟨_,run_lssi rfl (x0.trans X0) rfl,congrArg Value.bool (dT hc2)⟩),ks,ks,ks,ks,(kd2 fun _ _ _ _ _ X0 _ X1=>cR4Compare X0 X1),(kr1 48 fun _ _ _ _ _ x0 X0=>⟨_,run_lssi rfl (x0.trans X0) rfl,congrArg Value.bool (dF hc3)⟩),ks,ks,trivial⟩ ?_;intro a6 w6 st6;clear st5;have hv:(ltQ pA pC && (ltQ pA pD && (ltQ pB pC && (ltQ pB pD))))=false:=by rw [show ltQ pA pC=true from dT hc0,show ltQ pA pD=true from dT hc1,show ltQ pB pC=true from dT hc2,show ltQ pB pD=false from dF hc3];simp
      exact⟨rfl,by rw [hv];exact st6.cut⟩
    ·
     refine Wn ?_
     refine rH [(30,4,0)] [Vq (4*N+1) (pA),Vq (4*N+1) (pC),Vi (cmpQ (pA) (pC)),Vb (true),Vb (true),Vq (4*N+1) (pA),Vq (4*N+1) (pD),Vi (cmpQ (pA) (pD)),Vb (true),Vb (true),Vb (true),Vq (4*N+1) (pB),Vq (4*N+1) (pC),Vi (cmpQ (pB) (pC)),Vb (false),Vb (false),Vb (false),VT,VT,VT,VT,Vb (false),Vb (false)] [⟨11,none,none,30,4,Vq (4*N+1) (pA),VT⟩,⟨12,none,none,30,4,Vq (4*N+1) (pB),VT⟩,⟨13,none,none,30,4,Vq (4*N+1) (pC),VT⟩,⟨14,none,none,30,4,Vq (4*N+1) (pD),VT⟩] [(15,Vb (false))] st5 ⟨ks,ks,(kd2 fun _ _ _ _ _ X0 _ X1=>cR4Compare X0 X1),(kr1 31 fun _ _ _ _ _ x0 X0=>⟨_,run_lssi rfl (x0.trans X0) rfl,congrArg Value.bool (dT hc0)⟩),ks,ks,ks,(kd2 fun _ _ _ _ _ X0 _ X1=>cR4Compare X0 X1),(kr1 36 fun _ _ _ _ _ x0 X0=>⟨_,run_lssi rfl (x0.trans X0) rfl,congrArg Value.bool (dT hc1)⟩),ks,ks,ks,ks,(kd2 fun _ _ _ _ _ X0 _ X1=>cR4Compare X0 X1),(kr1 42 fun _ _ _ _ _ x0 X0=>⟨_,run_lssi rfl (x0.trans X0) rfl,congrArg Value.bool (dF hc2)⟩),ks,ks,ks,ks,ks,ks,ks,ks,trivial⟩ ?_;intro a6 w6 st6;clear st5;have hv:(ltQ pA pC && (ltQ pA pD && (ltQ pB pC && (ltQ pB pD))))=false:=by rw [show ltQ pA pC=true from dT hc0,show ltQ pA pD=true from dT hc1,show ltQ pB pC=false from dF hc2];simp
     exact⟨rfl,by rw [hv];exact st6.cut⟩
   ·
    refine Wn ?_
    refine rH [(30,4,0)] [Vq (4*N+1) (pA),Vq (4*N+1) (pC),Vi (cmpQ (pA) (pC)),Vb (true),Vb (true),Vq (4*N+1) (pA),Vq (4*N+1) (pD),Vi (cmpQ (pA) (pD)),Vb (false),Vb (false),Vb (false),VT,VT,VT,VT,Vb (false),Vb (false),VT,VT,VT,VT,Vb (false),Vb (false)] [⟨11,none,none,30,4,Vq (4*N+1) (pA),VT⟩,⟨12,none,none,30,4,Vq (4*N+1) (pB),VT⟩,⟨13,none,none,30,4,Vq (4*N+1) (pC),VT⟩,⟨14,none,none,30,4,Vq (4*N+1) (pD),VT⟩] [(15,Vb (false))] st5 ⟨ks,ks,(kd2 fun _ _ _ _ _ X0 _ X1=>cR4Compare X0 X1),(kr1 31 fun _ _ _ _ _ x0 X0=>⟨_,run_lssi rfl (x0.trans X0) rfl,congrArg Value.bool (dT hc0)⟩),ks,ks,ks,(kd2 fun _ _ _ _ _ X0 _ X1=>cR4Compare X0 X1),(kr1 36 fun _ _ _ _ _ x0 X0=>⟨_,run_lssi rfl (x0.trans X0) rfl,congrArg Value.bool (dF hc1)⟩),ks,ks,ks,ks,ks,ks,ks,ks,ks,ks,ks,ks,ks,ks,trivial⟩ ?_;intro a6 w6 st6;clear st5;have hv:(ltQ pA pC && (ltQ pA pD && (ltQ pB pC && (ltQ pB pD))))=false:=by rw [show ltQ pA pC=true from dT hc0,show ltQ pA pD=false from dF hc1];simp
    exact⟨rfl,by rw [hv];exact st6.cut⟩
  ·
   refine Wn ?_
   refine rH [(30,4,0)] [Vq (4*N+1) (pA),Vq (4*N+1) (pC),Vi (cmpQ (pA) (pC)),Vb (false),Vb (false),VT,VT,VT,VT,Vb (false),Vb (false),VT,VT,VT,VT,Vb (false),Vb (false),VT,VT,VT,VT,Vb (false),Vb (false)] [⟨11,none,none,30,4,Vq (4*N+1) (pA),VT⟩,⟨12,none,none,30,4,Vq (4*N+1) (pB),VT⟩,⟨13,none,none,30,4,Vq (4*N+1) (pC),VT⟩,⟨14,none,none,30,4,Vq (4*N+1) (pD),VT⟩] [(15,Vb (false))] st5 ⟨ks,ks,(kd2 fun _ _ _ _ _ X0 _ X1=>cR4Compare X0 X1),(kr1 31 fun _ _ _ _ _ x0 X0=>⟨_,run_lssi rfl (x0.trans X0) rfl,congrArg Value.bool (dF hc0)⟩),ks,ks,ks,ks,ks,ks,ks,ks,ks,ks,ks,ks,ks,ks,ks,ks,ks,ks,ks,trivial⟩ ?_;intro a6 w6 st6;clear st5;have hv:(ltQ pA pC && (ltQ pA pD && (ltQ pB pC && (ltQ pB pD))))=false:=by rw [show ltQ pA pC=false from dF hc0];simp
   exact⟨rfl,by rw [hv];exact st6.cut⟩
 rintro _ a6x w6x ⟨rfl,st6⟩
 clear st5;refine Wn ?_
 refine wp_mono' (Q:=fun e aX wX=>e= .normal/\St w.heap.size w 77 [⟨11,none,none,30,4,Vq (4*N+1) (pA),VT⟩,⟨12,none,none,30,4,Vq (4*N+1) (pB),VT⟩,⟨13,none,none,30,4,Vq (4*N+1) (pC),VT⟩,⟨14,none,none,30,4,Vq (4*N+1) (pD),VT⟩] [(15,Vb (ltQ pA pC && (ltQ pA pD && (ltQ pB pC && (ltQ pB pD))))),(16,Vb (gtQ pA pC && (gtQ pA pD && (gtQ pB pC && (gtQ pB pD)))))] aX wX) ?r6 ?_
 case r6=>
  by_cases hc0:0<cmpQ pA pC
  ·
   by_cases hc1:0<cmpQ pA pD
   ·
    by_cases hc2:0<cmpQ pB pC
    ·
     by_cases hc3:0<cmpQ pB pD
     ·
      refine Wn ?_
      refine rH [(30,4,0)] [Vq (4*N+1) (pA),Vq (4*N+1) (pC),Vi (cmpQ (pA) (pC)),Vb (true),Vb (true),Vq (4*N+1) (pA),Vq (4*N+1) (pD),Vi (cmpQ (pA) (pD)),Vb (true),Vb (true),Vb (true),Vq (4*N+1) (pB),Vq (4*N+1) (pC),Vi (cmpQ (pB) (pC)),Vb (true),Vb (true),Vb (true),Vq (4*N+1) (pB),Vq (4*N+1) (pD),Vi (cmpQ (pB) (pD)),Vb (true),Vb (true),Vb (true)] [⟨11,none,none,30,4,Vq (4*N+1) (pA),VT⟩,⟨12,none,none,30,4,Vq (4*N+1) (pB),VT⟩,⟨13,none,none,30,4,Vq (4*N+1) (pC),VT⟩,⟨14,none,none,30,4,Vq (4*N+1) (pD),VT⟩] [(15,Vb (ltQ pA pC && (ltQ pA pD && (ltQ pB pC && (ltQ pB pD))))),(16,Vb (true))] st6 ⟨ks,ks,(kd2 fun _ _ _ _ _ X0 _ X1=>cR4Compare X0 X1),(kr1 53 fun _ _ _ _ _ x0 X0=>⟨_,run_gtri rfl (x0.trans X0) rfl,congrArg Value.bool (dT hc0)⟩),ks,ks,ks,(kd2 fun _ _ _ _ _ X0 _ X1=>cR4Compare X0 X1),(kr1 58 fun _ _ _ _ _ x0 X0=>⟨_,run_gtri rfl (x0.trans X0) rfl,congrArg Value.bool (dT hc1)⟩),ks,ks,ks,ks,(kd2 fun _ _ _ _ _ X0 _ X1=>cR4Compare X0 X1),(kr1 64 fun _ _ _ _ _ x0 X0=>⟨_,run_gtri rfl (x0.trans X0) rfl,congrArg Value.bool (dT hc2)⟩),ks,ks,ks,ks,(kd2 fun _ _ _ _ _ X0 _ X1=>cR4Compare X0 X1),(kr1 70 fun _ _ _ _ _ x0 X0=>⟨_,run_gtri rfl (x0.trans X0) rfl,congrArg Value.bool (dT hc3)⟩),ks,ks,trivial⟩ ?_;intro a7 w7 st7;clear st6;have hv:(gtQ pA pC && (gtQ pA pD && (gtQ pB pC && (gtQ pB pD))))=true:=by rw [show gtQ pA pC=true from dT hc0,show gtQ pA pD=true from dT hc1,show gtQ pB pC=true from dT hc2,show gtQ pB pD=true from dT hc3];simp
      exact⟨rfl,by rw [hv];exact st7.cut⟩
     ·
      refine Wn ?_
      refine rH [(30,4,0)] [Vq (4*N+1) (pA),Vq (4*N+1) (pC),Vi (cmpQ (pA) (pC)),Vb (true),Vb (true),Vq (4*N+1) (pA),Vq (4*N+1) (pD),Vi (cmpQ (pA) (pD)),Vb (true),Vb (true),Vb (true),Vq (4*N+1) (pB),Vq (4*N+1) (pC),Vi (cmpQ (pB) (pC)),Vb (true),Vb (true),Vb (true),Vq (4*N+1) (pB),Vq (4*N+1) (pD),Vi (cmpQ (pB) (pD)),Vb (false),Vb (false),Vb (false)] [⟨11,none,none,30,4,Vq (4*N+1) (pA),VT⟩,⟨12,none,none,30,4,Vq (4*N+1) (pB),VT⟩,⟨13,none,none,30,4,Vq (4*N+1) (pC),VT⟩,⟨14,none,none,30,4,Vq (4*N+1) (pD),VT⟩] [(15,Vb (ltQ pA pC && (ltQ pA pD && (ltQ pB pC && (ltQ pB pD))))),(16,Vb (false))] st6 ⟨ks,ks,(kd2 fun _ _ _ _ _ X0 _ X1=>cR4Compare X0 X1),(kr1 53 fun _ _ _ _ _ x0 X0=>⟨_,run_gtri rfl (x0.trans X0) rfl,congrArg Value.bool (dT hc0)⟩),ks,ks,ks,(kd2 fun _ _ _ _ _ X0 _ X1=>cR4Compare X0 X1),(kr1 58 fun _ _ _ _ _ x0 X0=>⟨_,run_gtri rfl (x0.trans X0) rfl,congrArg Value.bool (dT hc1)⟩),ks,ks,ks,ks,(kd2 fun _ _ _ _ _ X0 _ X1=>cR4Compare X0 X1),(kr1 64 fun _ _ _ _ _ x0 X0=>⟨_,run_gtri rfl (x0.trans X0) rfl,congrArg Value.bool (dT hc2)⟩),ks,ks,ks,ks,(kd2 fun _ _ _ _ _ X0 _ X1=>cR4Compare X0 X1),(kr1 70 fun _ _ _ _ _ x0 X0=>⟨_,run_gtri rfl (x0.trans X0) rfl,congrArg Value.bool (dF hc3)⟩),ks,ks,trivial⟩ ?_;intro a7 w7 st7;clear st6;have hv:(gtQ pA pC && (gtQ pA pD && (gtQ pB pC && (gtQ pB pD))))=false:=by rw [show gtQ pA pC=true from dT hc0,show gtQ pA pD=true from dT hc1,show gtQ pB pC=true from dT hc2,show gtQ pB pD=false from dF hc3];simp
      exact⟨rfl,by rw [hv];exact st7.cut⟩
    ·
     refine Wn ?_
     refine rH [(30,4,0)] [Vq (4*N+1) (pA),Vq (4*N+1) (pC),Vi (cmpQ (pA) (pC)),Vb (true),Vb (true),Vq (4*N+1) (pA),Vq (4*N+1) (pD),Vi (cmpQ (pA) (pD)),Vb (true),Vb (true),Vb (true),Vq (4*N+1) (pB),Vq (4*N+1) (pC),Vi (cmpQ (pB) (pC)),Vb (false),Vb (false),Vb (false),VT,VT,VT,VT,Vb (false),Vb (false)] [⟨11,none,none,30,4,Vq (4*N+1) (pA),VT⟩,⟨12,none,none,30,4,Vq (4*N+1) (pB),VT⟩,⟨13,none,none,30,4,Vq (4*N+1) (pC),VT⟩,⟨14,none,none,30,4,Vq (4*N+1) (pD),VT⟩] [(15,Vb (ltQ pA pC && (ltQ pA pD && (ltQ pB pC && (ltQ pB pD))))),(16,Vb (false))] st6 ⟨ks,ks,(kd2 fun _ _ _ _ _ X0 _ X1=>cR4Compare X0 X1),(kr1 53 fun _ _ _ _ _ x0 X0=>⟨_,run_gtri rfl (x0.trans X0) rfl,congrArg Value.bool (dT hc0)⟩),ks,ks,ks,(kd2 fun _ _ _ _ _ X0 _ X1=>cR4Compare X0 X1),(kr1 58 fun _ _ _ _ _ x0 X0=>⟨_,run_gtri rfl (x0.trans X0) rfl,congrArg Value.bool (dT hc1)⟩),ks,ks,ks,ks,(kd2 fun _ _ _ _ _ X0 _ X1=>cR4Compare X0 X1),(kr1 64 fun _ _ _ _ _ x0 X0=>⟨_,run_gtri rfl (x0.trans X0) rfl,congrArg Value.bool (dF hc2)⟩),ks,ks,ks,ks,ks,ks,ks,ks,trivial⟩ ?_;intro a7 w7 st7;clear st6;have hv:(gtQ pA pC && (gtQ pA pD && (gtQ pB pC && (gtQ pB pD))))=false:=by rw [show gtQ pA pC=true from dT hc0,show gtQ pA pD=true from dT hc1,show gtQ pB pC=false from dF hc2];simp
     exact⟨rfl,by rw [hv];exact st7.cut⟩
   ·
    refine Wn ?_
    refine rH [(30,4,0)] [Vq (4*N+1) (pA),Vq (4*N+1) (pC),Vi (cmpQ (pA) (pC)),Vb (true),Vb (true),Vq (4*N+1) (pA),Vq (4*N+1) (pD),Vi (cmpQ (pA) (pD)),Vb (false),Vb (false),Vb (false),VT,VT,VT,VT,Vb (false),Vb (false),VT,VT,VT,VT,Vb (false),Vb (false)] [⟨11,none,none,30,4,Vq (4*N+1) (pA),VT⟩,⟨12,none,none,30,4,Vq (4*N+1) (pB),VT⟩,⟨13,none,none,30,4,Vq (4*N+1) (pC),VT⟩,⟨14,none,none,30,4,Vq (4*N+1) (pD),VT⟩] [(15,Vb (ltQ pA pC && (ltQ pA pD && (ltQ pB pC && (ltQ pB pD))))),(16,Vb (false))] st6 ⟨ks,ks,(kd2 fun _ _ _ _ _ X0 _ X1=>cR4Compare X0 X1),(kr1 53 fun _ _ _ _ _ x0 X0=>⟨_,run_gtri rfl (x0.trans X0) rfl,congrArg Value.bool (dT hc0)⟩),ks,ks,ks,(kd2 fun _ _ _ _ _ X0 _ X1=>cR4Compare X0 X1),(kr1 58 fun _ _ _ _ _ x0 X0=>⟨_,run_gtri rfl (x0.trans X0) rfl,congrArg Value.bool (dF hc1)⟩),ks,ks,ks,ks,ks,ks,ks,ks,ks,ks,ks,ks,ks,ks,trivial⟩ ?_;intro a7 w7 st7;clear st6;have hv:(gtQ pA pC && (gtQ pA pD && (gtQ pB pC && (gtQ pB pD))))=false:=by rw [show gtQ pA pC=true from dT hc0,show gtQ pA pD=false from dF hc1];simp
    exact⟨rfl,by rw [hv];exact st7.cut⟩
  ·
   refine Wn ?_
   refine rH [(30,4,0)] [Vq (4*N+1) (pA),Vq (4*N+1) (pC),Vi (cmpQ (pA) (pC)),Vb (false),Vb (false),VT,VT,VT,VT,Vb (false),Vb (false),VT,VT,VT,VT,Vb (false),Vb (false),VT,VT,VT,VT,Vb (false),Vb (false)] [⟨11,none,none,30,4,Vq (4*N+1) (pA),VT⟩,⟨12,none,none,30,4,Vq (4*N+1) (pB),VT⟩,⟨13,none,none,30,4,Vq (4*N+1) (pC),VT⟩,⟨14,none,none,30,4,Vq (4*N+1) (pD),VT⟩] [(15,Vb (ltQ pA pC && (ltQ pA pD && (ltQ pB pC && (ltQ pB pD))))),(16,Vb (false))] st6 ⟨ks,ks,(kd2 fun _ _ _ _ _ X0 _ X1=>cR4Compare X0 X1),(kr1 53 fun _ _ _ _ _ x0 X0=>⟨_,run_gtri rfl (x0.trans X0) rfl,congrArg Value.bool (dF hc0)⟩),ks,ks,ks,ks,ks,ks,ks,ks,ks,ks,ks,ks,ks,ks,ks,ks,ks,ks,ks,trivial⟩ ?_;intro a7 w7 st7;clear st6;have hv:(gtQ pA pC && (gtQ pA pD && (gtQ pB pC && (gtQ pB pD))))=false:=by rw [show gtQ pA pC=false from dF hc0];simp
   exact⟨rfl,by rw [hv];exact st7.cut⟩
 rintro _ a7x w7x ⟨rfl,st7⟩
 clear st6;generalize(ltQ pA pC && (ltQ pA pD && (ltQ pB pC && (ltQ pB pD))))=x15 at st7 hB;generalize(gtQ pA pC && (gtQ pA pD && (gtQ pB pC && (gtQ pB pD))))=x16 at st7 hB;cases h15:x15<;>cases h16:x16
 ·
  subst h15 h16;refine Wn ?_
  refine rH [(30,4,0)] [Vb (false),Vb (false),Vb (false),Vb (false),Vb (false)] [⟨11,none,none,30,4,Vq (4*N+1) (pA),VT⟩,⟨12,none,none,30,4,Vq (4*N+1) (pB),VT⟩,⟨13,none,none,30,4,Vq (4*N+1) (pC),VT⟩,⟨14,none,none,30,4,Vq (4*N+1) (pD),VT⟩] [(10,Vb (false))] st7 ⟨ks,ks,ks,ks,ks,trivial⟩ fun a8 w8 st8=>Wn ?_;clear st7
  exact wp_ret (rS 10 (Vb (false)) st8 fun vr r4=>(by rw [show btwB n a b c d=false from hB];exact r4))
 ·
  subst h15 h16;refine Wn ?_
  refine rH [(30,4,0)] [Vb (false),Vb (false),Vb (true),Vb (true),Vb (true)] [⟨11,none,none,30,4,Vq (4*N+1) (pA),VT⟩,⟨12,none,none,30,4,Vq (4*N+1) (pB),VT⟩,⟨13,none,none,30,4,Vq (4*N+1) (pC),VT⟩,⟨14,none,none,30,4,Vq (4*N+1) (pD),VT⟩] [(10,Vb (true))] st7 ⟨ks,ks,ks,ks,ks,trivial⟩ fun a8 w8 st8=>Wn ?_;clear st7
  exact wp_ret (rS 10 (Vb (true)) st8 fun vr r4=>(by rw [show btwB n a b c d=true from hB];exact r4))
 ·
  subst h15 h16;refine Wn ?_
  refine rH [(30,4,0)] [Vb (true),Vb (true),VT,Vb (true),Vb (true)] [⟨11,none,none,30,4,Vq (4*N+1) (pA),VT⟩,⟨12,none,none,30,4,Vq (4*N+1) (pB),VT⟩,⟨13,none,none,30,4,Vq (4*N+1) (pC),VT⟩,⟨14,none,none,30,4,Vq (4*N+1) (pD),VT⟩] [(10,Vb (true))] st7 ⟨ks,ks,ks,ks,ks,trivial⟩ fun a8 w8 st8=>Wn ?_;clear st7
  exact wp_ret (rS 10 (Vb (true)) st8 fun vr r4=>(by rw [show btwB n a b c d=true from hB];exact r4))
 ·
  subst h15 h16;refine Wn ?_
  refine rH [(30,4,0)] [Vb (true),Vb (true),VT,Vb (true),Vb (true)] [⟨11,none,none,30,4,Vq (4*N+1) (pA),VT⟩,⟨12,none,none,30,4,Vq (4*N+1) (pB),VT⟩,⟨13,none,none,30,4,Vq (4*N+1) (pC),VT⟩,⟨14,none,none,30,4,Vq (4*N+1) (pD),VT⟩] [(10,Vb (true))] st7 ⟨ks,ks,ks,ks,ks,trivial⟩ fun a8 w8 st8=>Wn ?_;clear st7
  exact wp_ret (rS 10 (Vb (true)) st8 fun vr r4=>(by rw [show btwB n a b c d=true from hB];exact r4))
theorem Stab_VSv0 {N:Nat}{vs:List P2}:Stab [] (VSv N vs):=fun _ _ _ h hr=>h.imp id fun ⟨hh,o,c,cs,e1,e2,e3,e4,e5,e6⟩=>⟨hh,o,c,cs,e1,e2,e3,(hr.row _ _ _ e4 (.inl (by simp))).trans e4,e5,fun i x hx=>Stab_Vv _ _ _ _ _ _ (e6 i x hx) hr⟩
instance {N:Nat}{vs:List P2}:Sb [] (VSv N vs):=⟨Stab_VSv0⟩
theorem Stab_VEp0 {T:TypeId}{k:Nat}{A:VP}(hA:Stab [] A):Stab [] (VEp T k A):=fun _ _ _ ⟨h,off,cs,e1,e2,e3,e4⟩ hr=>⟨h,off,cs,e1,(hr.row _ _ _ e2 (.inl (by simp))).trans e2,e3,hA _ _ _ e4 hr⟩
instance {T:TypeId}{k N:Nat}{x y:Rat}:Sb [] (VEp T k (Vv N x y)):=⟨Stab_VEp0 (Stab_Vv _ _ _)⟩
section
variable {ρ:Operand->Value}{o:Oper}{W:World}{x y:Operand}{va vb:Value}{N:Nat}{vs:List P2}
theorem len_SvC (ho:o.op= .call {callee:= .builtin .len,args:=#[x],argTypes:=#[23]})(hty:o.type=3)(hx:ρ x=va)(h:VSv N vs va W):∃v,(execOp ρ o).run Tryz.prog W= .ok (.value v) W/\Vi (vs.length:Int) v W:=len_Sv ho hty hx rfl h
theorem index_SvC {a:P2}{j:Nat}(ho:o.op= .indexAddr 23 x y)(hx:ρ x=va)(h:VSv N vs va W)(hy:ρ y=vb)(hb:Vi (j:Int) vb W)(hz:vs[j]? =some a):∃v,(execOp ρ o).run Tryz.prog W= .ok (.value v) W/\VEp 32 8 (Vv N a.1 a.2) v W:=index_Sv ho hx rfl h hy hb hz
theorem load_EpW {a:P2}(ho:o.op= .load 32 x)(hx:ρ x=va)(h:VEp 32 8 (Vv N a.1 a.2) va W):∃v,(execOp ρ o).run Tryz.prog W= .ok (.value v) W/\Vv N a.1 a.2 v W:=load_EpC (w:=W) (Stab_Vv _ _ _) ho hx h (Below.refl _ _) Tryz.underlying32 rfl size_Vec
end
theorem bslice_V5 {ρ:Operand->Value}{o:Oper}{W:World}{M:Nat}{x0 x1 x2 x3 x4:Operand}{v0 v1 v2 v3 v4:Value}{d0 d1 d2 d3 d4:P2}(ho:o.op= .buildSlice 23 5 #[(0,x0),(1,x1),(2,x2),(3,x3),(4,x4)])(e0:ρ x0=v0)(e1:ρ x1=v1)(e2:ρ x2=v2)(e3:ρ x3=v3)(e4:ρ x4=v4)(h0:Vv M d0.1 d0.2 v0 W)(h1:Vv M d1.1 d1.2 v1 W)(h2:Vv M d2.1 d2.2 v2 W)(h3:Vv M d3.1 d3.2 v3 W)(h4:Vv M d4.1 d4.2 v4 W):
 ∃v w',(execOp ρ o).run Tryz.prog W= .ok (.value v) w'/\Below W.heap.size W w'/\VSv M [d0,d1,d2,d3,d4] v w':=by
 obtain⟨c0,rfl,s0,-⟩:=AggV_Vv _ _ _ _ _ h0;obtain⟨c1,rfl,s1,-⟩:=AggV_Vv _ _ _ _ _ h1;obtain⟨c2,rfl,s2,-⟩:=AggV_Vv _ _ _ _ _ h2;obtain⟨c3,rfl,s3,-⟩:=AggV_Vv _ _ _ _ _ h3;obtain⟨c4,rfl,s4,-⟩:=AggV_Vv _ _ _ _ _ h4;obtain⟨p0_0,p0_1,p0_2,p0_3,p0_4,p0_5,p0_6,p0_7,rfl⟩:=arr8 s0;obtain⟨p1_0,p1_1,p1_2,p1_3,p1_4,p1_5,p1_6,p1_7,rfl⟩:=arr8 s1;obtain⟨p2_0,p2_1,p2_2,p2_3,p2_4,p2_5,p2_6,p2_7,rfl⟩:=arr8 s2;obtain⟨p3_0,p3_1,p3_2,p3_3,p3_4,p3_5,p3_6,p3_7,rfl⟩:=arr8 s3;obtain⟨p4_0,p4_1,p4_2,p4_3,p4_4,p4_5,p4_6,p4_7,rfl⟩:=arr8 s4;have hb:=below_new W (.cells #[p0_0,p0_1,p0_2,p0_3,p0_4,p0_5,p0_6,p0_7,p1_0,p1_1,p1_2,p1_3,p1_4,p1_5,p1_6,p1_7,p2_0,p2_1,p2_2,p2_3,p2_4,p2_5,p2_6,p2_7,p3_0,p3_1,p3_2,p3_3,p3_4,p3_5,p3_6,p3_7,p4_0,p4_1,p4_2,p4_3,p4_4,p4_5,p4_6,p4_7] 32);refine⟨.slice (some ⟨W.heap.size,0,none⟩) 5 5,_,?_,hb,.inr ⟨_,0,5,_,rfl,Nat.le_refl _,by omega,heap_alloc_new _ _,Nat.le_refl _,fun i z hz=>?_⟩⟩
 ·clear h0 h1 h2 h3 h4 hb;obtain⟨dd,op,ty,ps,af,gd⟩:=o;subst ho
  go_simp
 ·match i,hz with
  |0,hz=>cases hz;exact Stab_Vv (BT:=[]) _ _ _ _ _ _ h0 (RI.of_below hb)
  |1,hz=>cases hz;exact Stab_Vv (BT:=[]) _ _ _ _ _ _ h1 (RI.of_below hb)
  |2,hz=>cases hz;exact Stab_Vv (BT:=[]) _ _ _ _ _ _ h2 (RI.of_below hb)
  |3,hz=>cases hz;exact Stab_Vv (BT:=[]) _ _ _ _ _ _ h3 (RI.of_below hb)
  |4,hz=>cases hz;exact Stab_Vv (BT:=[]) _ _ _ _ _ _ h4 (RI.of_below hb)
  |i+5,hz=>simp at hz
def sbP (a b:P2):P2:=(a.1 - b.1,a.2 - b.2)
def qtP (a:P2):P2:=(-a.2,a.1)
def dirs (a b c d:P2):List P2:=[qtP (sbP b a),qtP (sbP d c),sbP b a,sbP d c,sbP c a]
def meetsR (a b c d:P2):Bool:=decide (∀i∈List.range 5,btwB ((dirs a b c d).getD i (0,0)) a b c d=false)
theorem cBetweenM {w:World}{M N:Nat}{n a b c d:P2}{v0 v1 v2 v3 v4:Value}{x:Bool}(h0:Vv M n.1 n.2 v0 w)(h1:Vv N a.1 a.2 v1 w)(h2:Vv N b.1 b.2 v2 w)(h3:Vv N c.1 c.2 v3 w)(h4:Vv N d.1 d.2 v4 w)(hNM:N<=M)(hN3:3<=M)(hN:M<=900)(hx:btwB n a b c d=x):Calls Tryz.prog 93 #[v0,v1,v2,v3,v4] w (RV (Vb x) w):=by
 subst hx;exact cR6Between h0 (Vv_le h1 hNM) (Vv_le h2 hNM) (Vv_le h3 hNM) (Vv_le h4 hNM) hN3 hN
theorem cR6Meets {w:World}{N:Nat}{a b c d:P2}{v0 v1 v2 v3:Value}(h0:Vv N (a.1) (a.2) v0 w)(h1:Vv N (b.1) (b.2) v1 w)(h2:Vv N (c.1) (c.2) v2 w)(h3:Vv N (d.1) (d.2) v3 w)(hN3:3<=N:=by omega)(hN:N<=400:=by omega):Calls Tryz.prog 46 #[v0,v1,v2,v3] w (RV (Vb (meetsR a b c d)) w):=by
 go_enter Tryz.func46,Tryz.ntmps46
 generalize hA:(⟨_,_⟩:Act)=a0;have st0:St w.heap.size w 44 [] [(0,Vv N (a.1) (a.2)),(1,Vv N (b.1) (b.2)),(2,Vv N (c.1) (c.2)),(3,Vv N (d.1) (d.2))] a0 w:=by subst hA;exact St.begin rfl rfl (Lq.2 ⟨⟨_,rfl,h0⟩,(Lq.2 ⟨⟨_,rfl,h1⟩,(Lq.2 ⟨⟨_,rfl,h2⟩,(Lq.2 ⟨⟨_,rfl,h3⟩,L0⟩)⟩)⟩)⟩)
 clear hA;refine Wn ?_
 refine rH [(32,8,0)] [VT,VT,VT,VT,Vb (false)] [⟨4,some 0,some 0,32,8,Vv N (a.1) (a.2),VT⟩,⟨5,some 1,some 1,32,8,Vv N (b.1) (b.2),VT⟩,⟨6,some 2,some 2,32,8,Vv N (c.1) (c.2),VT⟩,⟨7,some 3,some 3,32,8,Vv N (d.1) (d.2),VT⟩] [(8,Vb (false))] st0 ⟨ks,ks,ks,ks,ks,trivial⟩ fun a1 w1 st1=>Wn ?_;clear st0
 refine rH [(32,8,0)] [Vv N (b.1) (b.2),Vv N (a.1) (a.2),Vv (N+N+1) ((b.1) - (a.1)) ((b.2) - (a.2)),VT,VT] [⟨4,none,none,32,8,Vv N (a.1) (a.2),VT⟩,⟨5,none,none,32,8,Vv N (b.1) (b.2),VT⟩,⟨6,none,none,32,8,Vv N (c.1) (c.2),VT⟩,⟨7,none,none,32,8,Vv N (d.1) (d.2),VT⟩,⟨9,some 3,some 4,32,8,Vv (N+N+1) ((b.1) - (a.1)) ((b.2) - (a.2)),VT⟩] [(8,Vb (false))] st1 ⟨ks,ks,(kd2 fun _ _ _ _ _ X0 _ X1=>cR5Sub X0 X1),ks,ks,trivial⟩ fun a2 w2 st2=>Wn ?_;clear st1
 refine rH [(32,8,0)] [Vv N (d.1) (d.2),Vv N (c.1) (c.2),Vv (N+N+1) ((d.1) - (c.1)) ((d.2) - (c.2)),VT,VT] [⟨4,none,none,32,8,Vv N (a.1) (a.2),VT⟩,⟨5,none,none,32,8,Vv N (b.1) (b.2),VT⟩,⟨6,none,none,32,8,Vv N (c.1) (c.2),VT⟩,⟨7,none,none,32,8,Vv N (d.1) (d.2),VT⟩,⟨9,none,none,32,8,Vv (N+N+1) ((sbP b a).1) ((sbP b a).2),VT⟩,⟨10,some 3,some 4,32,8,Vv (N+N+1) ((d.1) - (c.1)) ((d.2) - (c.2)),VT⟩] [(8,Vb (false))] st2 ⟨ks,ks,(kd2 fun _ _ _ _ _ X0 _ X1=>cR5Sub X0 X1),ks,ks,trivial⟩ ?_;intro a3 w3 st3;clear st2;replace st3:St w.heap.size w 44 [⟨4,none,none,32,8,Vv N (a.1) (a.2),VT⟩,⟨5,none,none,32,8,Vv N (b.1) (b.2),VT⟩,⟨6,none,none,32,8,Vv N (c.1) (c.2),VT⟩,⟨7,none,none,32,8,Vv N (d.1) (d.2),VT⟩,⟨9,none,none,32,8,Vv (N+N+1) ((sbP b a).1) ((sbP b a).2),VT⟩,⟨10,none,none,32,8,Vv (N+N+1) ((sbP d c).1) ((sbP d c).2),VT⟩] [(8,Vb (false))] a3 w3:=st3;refine Wn ?_
 refine rH [] [Vv (N+N+1) ((sbP b a).1) ((sbP b a).2),Vv (N+N+1) ((qtP ((sbP b a))).1) ((qtP ((sbP b a))).2),Vv (N+N+1) ((sbP d c).1) ((sbP d c).2),Vv (N+N+1) ((qtP ((sbP d c))).1) ((qtP ((sbP d c))).2),Vv (N+N+1) ((sbP b a).1) ((sbP b a).2),Vv (N+N+1) ((sbP d c).1) ((sbP d c).2),Vv N (c.1) (c.2),Vv N (a.1) (a.2),Vv (N+N+1) ((c.1) - (a.1)) ((c.2) - (a.2)),VSv (N+N+1) (dirs a b c d),VSv (N+N+1) (dirs a b c d)] [⟨4,none,none,32,8,Vv N (a.1) (a.2),VT⟩,⟨5,none,none,32,8,Vv N (b.1) (b.2),VT⟩,⟨6,none,none,32,8,Vv N (c.1) (c.2),VT⟩,⟨7,none,none,32,8,Vv N (d.1) (d.2),VT⟩,⟨9,none,none,32,8,Vv (N+N+1) ((sbP b a).1) ((sbP b a).2),VT⟩,⟨10,none,none,32,8,Vv (N+N+1) ((sbP d c).1) ((sbP d c).2),VT⟩] [(8,Vb (false)),(11,VSv (N+N+1) (dirs a b c d))] st3 ⟨ks,(kd1 fun _ _ _ _ _ X0=>cR6Turned X0),ks,(kd1 fun _ _ _ _ _ X0=>cR6Turned X0),ks,ks,ks,ks,(kd2 fun _ _ _ _ _ X0 _ X1=>cR5Sub X0 X1),?s9,ks,trivial⟩ ?_
 case s9=>
  refine k_mem SbB.out (by kernel_rfl) fun _ A Y h D=>⟨trivial,?_⟩
  obtain⟨v0,x0,X0⟩:=h.dp D 20;obtain⟨v1,x1,X1⟩:=h.dp D 22;obtain⟨v2,x2,X2⟩:=h.dp D 23;obtain⟨v3,x3,X3⟩:=h.dp D 24;obtain⟨v4,x4,X4⟩:=h.dp D 27;exact bslice_V5 (M:=N+N+1) (d0:=qtP (sbP b a)) (d1:=qtP (sbP d c)) (d2:=sbP b a) (d3:=sbP d c) (d4:=sbP c a) rfl x0 x1 x2 x3 x4 X0 X1 X2 X3 X4
 intro a4 w4 st4;clear st3;refine Wn ?_
 refine rH [] [Vi (0)] [⟨4,none,none,32,8,Vv N (a.1) (a.2),VT⟩,⟨5,none,none,32,8,Vv N (b.1) (b.2),VT⟩,⟨6,none,none,32,8,Vv N (c.1) (c.2),VT⟩,⟨7,none,none,32,8,Vv N (d.1) (d.2),VT⟩,⟨9,none,none,32,8,Vv (N+N+1) ((sbP b a).1) ((sbP b a).2),VT⟩,⟨10,none,none,32,8,Vv (N+N+1) ((sbP d c).1) ((sbP d c).2),VT⟩] [(8,Vb (false)),(11,VSv (N+N+1) (dirs a b c d)),(12,Vi (0))] st4 ⟨ks,trivial⟩ ?_;intro a5 w5 st5;clear st4;replace st5:St w.heap.size w 44 [⟨4,none,none,32,8,Vv N (a.1) (a.2),VT⟩,⟨5,none,none,32,8,Vv N (b.1) (b.2),VT⟩,⟨6,none,none,32,8,Vv N (c.1) (c.2),VT⟩,⟨7,none,none,32,8,Vv N (d.1) (d.2),VT⟩] [(11,VSv (N+N+1) (dirs a b c d)),(12,Vi (((0:Nat):Int)))] a5 w5:=st5.cut;refine Wn ?_
 refine wp_loop_ghost (fun m aX wX=>∃j:Nat,j+m=5/\(∀i<j,btwB ((dirs a b c d).getD i (0,0)) a b c d=false)/\St w.heap.size w 44 [⟨4,none,none,32,8,Vv N (a.1) (a.2),VT⟩,⟨5,none,none,32,8,Vv N (b.1) (b.2),VT⟩,⟨6,none,none,32,8,Vv N (c.1) (c.2),VT⟩,⟨7,none,none,32,8,Vv N (d.1) (d.2),VT⟩] [(11,VSv (N+N+1) (dirs a b c d)),(12,Vi (((j:Nat):Int)))] aX wX) 5 ⟨0,by omega,fun i hi=>absurd hi (by omega),st5⟩ ?_;clear st5;intro m aL wL ⟨j,hj,hpre,st5⟩;by_cases hlt:j<5
 ·
  refine Wn ?_
  refine rH [] [Vi (((j:Nat):Int)),VSv (N+N+1) (dirs a b c d),Vi (((5:Nat):Int)),Vb (true)] [⟨4,none,none,32,8,Vv N (a.1) (a.2),VT⟩,⟨5,none,none,32,8,Vv N (b.1) (b.2),VT⟩,⟨6,none,none,32,8,Vv N (c.1) (c.2),VT⟩,⟨7,none,none,32,8,Vv N (d.1) (d.2),VT⟩] [(11,VSv (N+N+1) (dirs a b c d)),(12,Vi (((j:Nat):Int))),(32,Vb (true))] st5 ⟨ks,ks,(kr1 30 fun _ _ _ _ _ x0 X0=>len_SvC rfl rfl x0 X0),(kr2 29 31 fun _ _ _ _ _ x0 X0 _ x1 X1=>⟨_,run_lssi rfl (x0.trans X0) (x1.trans X1),congrArg Value.bool (dT (by omega))⟩),trivial⟩ fun a6 w6 st6=>Wn ?_;clear st5
  refine cT st6 ?_;have hgd:(dirs a b c d)[j]? =some ((dirs a b c d).getD j (0,0)):=by rw [List.getD_eq_getElem?_getD,List.getElem?_eq_getElem (by simp [dirs];omega)];rfl
  by_cases hbt:btwB ((dirs a b c d).getD j (0,0)) a b c d=true
  ·
   refine Wn ?_
   refine rH [] [VSv (N+N+1) (dirs a b c d),Vi (((j:Nat):Int)),VEp 32 8 (Vv (N+N+1) ((dirs a b c d).getD j (0,0)).1 ((dirs a b c d).getD j (0,0)).2),Vv (N+N+1) (((dirs a b c d).getD j (0,0)).1) (((dirs a b c d).getD j (0,0)).2),Vv N (a.1) (a.2),Vv N (b.1) (b.2),Vv N (c.1) (c.2),Vv N (d.1) (d.2),Vb (true)] [⟨4,none,none,32,8,Vv N (a.1) (a.2),VT⟩,⟨5,none,none,32,8,Vv N (b.1) (b.2),VT⟩,⟨6,none,none,32,8,Vv N (c.1) (c.2),VT⟩,⟨7,none,none,32,8,Vv N (d.1) (d.2),VT⟩] [(11,VSv (N+N+1) (dirs a b c d)),(12,Vi (((j:Nat):Int))),(43,Vb (true))] st6 ⟨ks,ks,(kr2 35 36 fun _ _ _ _ _ x0 X0 _ x1 X1=>index_SvC rfl x0 X0 x1 X1 hgd),(kr1 37 fun _ _ _ _ _ x0 X0=>load_EpW rfl x0 X0),ks,ks,ks,ks,(by refine kc fun _ A Y h D=>?_;obtain⟨v0,x0,X0⟩:=h.dp D 38;obtain⟨v1,x1,X1⟩:=h.dp D 39;obtain⟨v2,x2,X2⟩:=h.dp D 40;obtain⟨v3,x3,X3⟩:=h.dp D 41;obtain⟨v4,x4,X4⟩:=h.dp D 42;exact⟨#[v0,v1,v2,v3,v4],by simp [x0,x1,x2,x3,x4],cBetweenM X0 X1 X2 X3 X4 (by omega) (by omega) (by omega) hbt⟩),trivial⟩ ?_;intro a7 w7 st7;clear st6;refine Wn ?_
   refine cT st7 ?_;refine Wn ?_
   refine rH [] [Vb (false)] [⟨4,none,none,32,8,Vv N (a.1) (a.2),VT⟩,⟨5,none,none,32,8,Vv N (b.1) (b.2),VT⟩,⟨6,none,none,32,8,Vv N (c.1) (c.2),VT⟩,⟨7,none,none,32,8,Vv N (d.1) (d.2),VT⟩] [(11,VSv (N+N+1) (dirs a b c d)),(12,Vi (((j:Nat):Int))),(8,Vb (false))] st7 ⟨ks,trivial⟩ fun a8 w8 st8=>Wn ?_;clear st7
   exact wp_ret (rS 8 (Vb (false)) st8 fun vr r4=>(by rw [show meetsR a b c d=false from dF fun h=>by rw [h j (List.mem_range.2 hlt)] at hbt;cases hbt];exact r4))
  ·
   rw [Bool.not_eq_true] at hbt;refine Wn ?_
   refine rH [] [VSv (N+N+1) (dirs a b c d),Vi (((j:Nat):Int)),VEp 32 8 (Vv (N+N+1) ((dirs a b c d).getD j (0,0)).1 ((dirs a b c d).getD j (0,0)).2),Vv (N+N+1) (((dirs a b c d).getD j (0,0)).1) (((dirs a b c d).getD j (0,0)).2),Vv N (a.1) (a.2),Vv N (b.1) (b.2),Vv N (c.1) (c.2),Vv N (d.1) (d.2),Vb (false)] [⟨4,none,none,32,8,Vv N (a.1) (a.2),VT⟩,⟨5,none,none,32,8,Vv N (b.1) (b.2),VT⟩,⟨6,none,none,32,8,Vv N (c.1) (c.2),VT⟩,⟨7,none,none,32,8,Vv N (d.1) (d.2),VT⟩] [(11,VSv (N+N+1) (dirs a b c d)),(12,Vi (((j:Nat):Int))),(43,Vb (false))] st6 ⟨ks,ks,(kr2 35 36 fun _ _ _ _ _ x0 X0 _ x1 X1=>index_SvC rfl x0 X0 x1 X1 hgd),(kr1 37 fun _ _ _ _ _ x0 X0=>load_EpW rfl x0 X0),ks,ks,ks,ks,(by refine kc fun _ A Y h D=>?_;obtain⟨v0,x0,X0⟩:=h.dp D 38;obtain⟨v1,x1,X1⟩:=h.dp D 39;obtain⟨v2,x2,X2⟩:=h.dp D 40;obtain⟨v3,x3,X3⟩:=h.dp D 41;obtain⟨v4,x4,X4⟩:=h.dp D 42;exact⟨#[v0,v1,v2,v3,v4],by simp [x0,x1,x2,x3,x4],cBetweenM X0 X1 X2 X3 X4 (by omega) (by omega) (by omega) hbt⟩),trivial⟩ ?_;intro a7 w7 st7;clear st6;refine Wn ?_
   refine cF st7 ?_;refine Wn ?_
   refine rH [] [Vi (((j:Nat):Int)),Vi (((j+1:Nat):Int)),Vi (((j+1:Nat):Int))] [⟨4,none,none,32,8,Vv N (a.1) (a.2),VT⟩,⟨5,none,none,32,8,Vv N (b.1) (b.2),VT⟩,⟨6,none,none,32,8,Vv N (c.1) (c.2),VT⟩,⟨7,none,none,32,8,Vv N (d.1) (d.2),VT⟩] [(11,VSv (N+N+1) (dirs a b c d)),(12,Vi (((j+1:Nat):Int)))] st7 ⟨?s0,(kr1 33 fun _ _ _ _ v0 x0 X0=>⟨_,run_addi rfl (x0.trans (show v0= .int .i64 ((j:Nat):Int)from X0)) rfl (wrap_id (by omega) (by omega)),congrArg (Value.int .i64) (by omega)⟩),ks,trivial⟩ ?_
   case s0=>
    refine k_run0 SbB.out (by kernel_rfl) fun listed A Y h D hnl=>⟨trivial,?_⟩
    obtain⟨v0,x0,X0⟩:=h.out0 hnl (12,Vi (((j:Nat):Int))) (.tail _ (.head _)) 2 (by kernel_rfl) (.inr (by kernel_rfl));exact⟨_,run_move rfl,by rw [x0];exact X0⟩
   intro a8 w8 st8;clear st7;replace st8:St w.heap.size w 44 [⟨4,none,none,32,8,Vv N (a.1) (a.2),VT⟩,⟨5,none,none,32,8,Vv N (b.1) (b.2),VT⟩,⟨6,none,none,32,8,Vv N (c.1) (c.2),VT⟩,⟨7,none,none,32,8,Vv N (d.1) (d.2),VT⟩] [(11,VSv (N+N+1) (dirs a b c d)),(12,Vi (((j+1:Nat):Int)))] a8 w8:=st8;exact⟨m - 1,by omega,j+1,by omega,fun i hi=>(by rcases Nat.lt_or_ge i j with h|h;exact hpre i h;rw [show i=j by omega];exact hbt),st8.cut⟩
 ·
  refine Wn ?_
  refine rH [] [Vi (((j:Nat):Int)),VSv (N+N+1) (dirs a b c d),Vi (((5:Nat):Int)),Vb (false)] [⟨4,none,none,32,8,Vv N (a.1) (a.2),VT⟩,⟨5,none,none,32,8,Vv N (b.1) (b.2),VT⟩,⟨6,none,none,32,8,Vv N (c.1) (c.2),VT⟩,⟨7,none,none,32,8,Vv N (d.1) (d.2),VT⟩] [(11,VSv (N+N+1) (dirs a b c d)),(12,Vi (((j:Nat):Int))),(32,Vb (false))] st5 ⟨ks,ks,(kr1 30 fun _ _ _ _ _ x0 X0=>len_SvC rfl rfl x0 X0),(kr2 29 31 fun _ _ _ _ _ x0 X0 _ x1 X1=>⟨_,run_lssi rfl (x0.trans X0) (x1.trans X1),congrArg Value.bool (dF (by omega))⟩),trivial⟩ fun a6 w6 st6=>Wn ?_;clear st5
  refine cF st6 ?_;refine Wn ?_
  refine rH [] [Vb (true)] [⟨4,none,none,32,8,Vv N (a.1) (a.2),VT⟩,⟨5,none,none,32,8,Vv N (b.1) (b.2),VT⟩,⟨6,none,none,32,8,Vv N (c.1) (c.2),VT⟩,⟨7,none,none,32,8,Vv N (d.1) (d.2),VT⟩] [(11,VSv (N+N+1) (dirs a b c d)),(12,Vi (((j:Nat):Int))),(8,Vb (true))] st6 ⟨ks,trivial⟩ fun a7 w7 st7=>Wn ?_;clear st6
  exact wp_ret (rS 8 (Vb (true)) st7 fun vr r4=>(by rw [show meetsR a b c d=true from dT fun i hi=>hpre i (by have:=List.mem_range.1 hi;omega)];exact r4))


end Go.Proofs.YteacdbgalloaiaaGreat
