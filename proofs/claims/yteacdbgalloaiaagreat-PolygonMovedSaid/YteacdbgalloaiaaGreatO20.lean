/- Contracts of the packages integer, rat, plane, polygon and their references. -/
import Derived.Test.YteacdbgalloaiaaGreatO19
import Derived.Deep.LoopGhost
import Derived.Test.YteacdbgalloaiaaGreatO13
import Derived.Test.YteacdbgalloaiaaGreatO9
set_option linter.unusedVariables false
set_option maxRecDepth 100000
set_option maxHeartbeats 6400000
namespace Go.Proofs.YteacdbgalloaiaaGreat
open Go.RowKit
open Go
def dtP (a b:P2):Rat:=a.1*b.1+a.2*b.2
def ltQ (a b:Rat):Bool:=decide (cmpQ a b<0)
def gtQ (a b:Rat):Bool:=decide (0<cmpQ a b)
def btwB (n a b c d:P2):Bool:=(ltQ (dtP n a) (dtP n c) && (ltQ (dtP n a) (dtP n d) && (ltQ (dtP n b) (dtP n c) && ltQ (dtP n b) (dtP n d))))||(gtQ (dtP n a) (dtP n c) && (gtQ (dtP n a) (dtP n d) && (gtQ (dtP n b) (dtP n c) && gtQ (dtP n b) (dtP n d))))
theorem wp_mono' {P:Program}{Q Q':Exit->Act->World->Prop}{c:Code}{a:Act}{w:World}(h:c.wp P Q a w)(hq:∀e a w,Q e a w->Q' e a w):c.wp P Q' a w:=wp_mono h hq
theorem cR6Between {w:World}{N:Nat}{n a b c d:P2}{v0 v1 v2 v3 v4:Value}(h0:Vv N n.1 n.2 v0 w)(h1:Vv N a.1 a.2 v1 w)(h2:Vv N b.1 b.2 v2 w)(h3:Vv N c.1 c.2 v3 w)(h4:Vv N d.1 d.2 v4 w)(hN3:3<=N:=by omega)(hN:N<=900:=by omega):Calls Tryz.prog 93 #[v0,v1,v2,v3,v4] w (RV (Vb (btwB n a b c d)) w):=by
 go_enter Tryz.func93,Tryz.ntmps93
 generalize hA:(⟨_,_⟩:Act)=a0;have st0:St w.heap.size w 77 [] [(0,Vv N n.1 n.2),(1,Vv N a.1 a.2),(2,Vv N b.1 b.2),(3,Vv N c.1 c.2),(4,Vv N d.1 d.2)] a0 w:=by subst hA;exact St.begin rfl rfl (Lq.2 ⟨⟨_,rfl,h0⟩,(Lq.2 ⟨⟨_,rfl,h1⟩,(Lq.2 ⟨⟨_,rfl,h2⟩,(Lq.2 ⟨⟨_,rfl,h3⟩,(Lq.2 ⟨⟨_,rfl,h4⟩,L0⟩)⟩)⟩)⟩)⟩)
 clear hA;have hB:btwB n a b c d=((ltQ (dtP n a) (dtP n c) && (ltQ (dtP n a) (dtP n d) && (ltQ (dtP n b) (dtP n c) && ltQ (dtP n b) (dtP n d))))||(gtQ (dtP n a) (dtP n c) && (gtQ (dtP n a) (dtP n d) && (gtQ (dtP n b) (dtP n c) && gtQ (dtP n b) (dtP n d))))):=rfl;refine Wn ?_
 refine rH [(30,4,0)] [VT,VT,VT,VT,VT,Vb false] [⟨5,some 0,some 0,32,8,Vv N n.1 n.2,VT⟩,⟨6,some 1,some 1,32,8,Vv N a.1 a.2,VT⟩,⟨7,some 2,some 2,32,8,Vv N b.1 b.2,VT⟩,⟨8,some 3,some 3,32,8,Vv N c.1 c.2,VT⟩,⟨9,some 4,some 4,32,8,Vv N d.1 d.2,VT⟩] [(10,Vb false)] st0 ⟨ks,ks,ks,ks,ks,ks,trivial⟩ fun a1 w1 st1=>Wn ?_
 refine rH [(30,4,0)] [Vv N n.1 n.2,Vv N a.1 a.2,Vq (4*N+1) ((n.1)*(a.1)+(n.2)*(a.2)),VT,VT] [.k 5 32 8 (Vv N n.1 n.2),.k 6 32 8 (Vv N a.1 a.2),.k 7 32 8 (Vv N b.1 b.2),.k 8 32 8 (Vv N c.1 c.2),.k 9 32 8 (Vv N d.1 d.2),⟨11,some 3,some 4,30,4,Vq (4*N+1) ((n.1)*(a.1)+(n.2)*(a.2)),VT⟩] [(10,Vb false)] st1 ⟨ks,ks,(kd2 fun _ _ _ _ _ X0 _ X1=>cR5Dot X0 X1),ks,ks,trivial⟩ fun a2 w2 st2=>Wn ?_
 refine rH [(30,4,0)] [Vv N n.1 n.2,Vv N b.1 b.2,Vq (4*N+1) ((n.1)*(b.1)+(n.2)*(b.2)),VT,VT] [.k 5 32 8 (Vv N n.1 n.2),.k 6 32 8 (Vv N a.1 a.2),.k 7 32 8 (Vv N b.1 b.2),.k 8 32 8 (Vv N c.1 c.2),.k 9 32 8 (Vv N d.1 d.2),.k 11 30 4 (Vq (4*N+1) ((n.1)*(a.1)+(n.2)*(a.2))),⟨12,some 3,some 4,30,4,Vq (4*N+1) ((n.1)*(b.1)+(n.2)*(b.2)),VT⟩] [(10,Vb false)] st2 ⟨ks,ks,(kd2 fun _ _ _ _ _ X0 _ X1=>cR5Dot X0 X1),ks,ks,trivial⟩ fun a3 w3 st3=>Wn ?_
 refine rH [(30,4,0)] [Vv N n.1 n.2,Vv N c.1 c.2,Vq (4*N+1) ((n.1)*(c.1)+(n.2)*(c.2)),VT,VT] [.k 5 32 8 (Vv N n.1 n.2),.k 6 32 8 (Vv N a.1 a.2),.k 7 32 8 (Vv N b.1 b.2),.k 8 32 8 (Vv N c.1 c.2),.k 9 32 8 (Vv N d.1 d.2),.k 11 30 4 (Vq (4*N+1) ((n.1)*(a.1)+(n.2)*(a.2))),.k 12 30 4 (Vq (4*N+1) ((n.1)*(b.1)+(n.2)*(b.2))),⟨13,some 3,some 4,30,4,Vq (4*N+1) ((n.1)*(c.1)+(n.2)*(c.2)),VT⟩] [(10,Vb false)] st3 ⟨ks,ks,(kd2 fun _ _ _ _ _ X0 _ X1=>cR5Dot X0 X1),ks,ks,trivial⟩ fun a4 w4 st4=>Wn ?_
 refine rH [(30,4,0)] [Vv N n.1 n.2,Vv N d.1 d.2,Vq (4*N+1) ((n.1)*(d.1)+(n.2)*(d.2)),VT,VT] [.k 5 32 8 (Vv N n.1 n.2),.k 6 32 8 (Vv N a.1 a.2),.k 7 32 8 (Vv N b.1 b.2),.k 8 32 8 (Vv N c.1 c.2),.k 9 32 8 (Vv N d.1 d.2),.k 11 30 4 (Vq (4*N+1) ((n.1)*(a.1)+(n.2)*(a.2))),.k 12 30 4 (Vq (4*N+1) ((n.1)*(b.1)+(n.2)*(b.2))),.k 13 30 4 (Vq (4*N+1) ((n.1)*(c.1)+(n.2)*(c.2))),⟨14,some 3,some 4,30,4,Vq (4*N+1) ((n.1)*(d.1)+(n.2)*(d.2)),VT⟩] [(10,Vb false)] st4 ⟨ks,ks,(kd2 fun _ _ _ _ _ X0 _ X1=>cR5Dot X0 X1),ks,ks,trivial⟩ ?_;intro a5 w5 st5;replace st5:St w.heap.size w 77 [.k 11 30 4 (Vq (4*N+1) (dtP n a)),.k 12 30 4 (Vq (4*N+1) (dtP n b)),.k 13 30 4 (Vq (4*N+1) (dtP n c)),.k 14 30 4 (Vq (4*N+1) (dtP n d))] [] a5 w5:=st5.cut;generalize dtP n a=pA at*
 generalize dtP n b=pB at*
 generalize dtP n c=pC at*
 generalize dtP n d=pD at*
 refine Wn ?_
 refine wp_mono' (Q:=fun e aX wX=>e= .normal/\St w.heap.size w 77 [.k 11 30 4 (Vq (4*N+1) pA),.k 12 30 4 (Vq (4*N+1) pB),.k 13 30 4 (Vq (4*N+1) pC),.k 14 30 4 (Vq (4*N+1) pD)] [(15,Vb (ltQ pA pC && (ltQ pA pD && (ltQ pB pC && (ltQ pB pD)))))] aX wX) ?r5 ?_
 case r5=>
  by_cases hc0:cmpQ pA pC<0
  ·
   by_cases hc1:cmpQ pA pD<0
   ·
    by_cases hc2:cmpQ pB pC<0
    ·
     by_cases hc3:cmpQ pB pD<0
     ·
      refine Wn ?_
      refine rH [(30,4,0)] [Vq (4*N+1) pA,Vq (4*N+1) pC,Vi (cmpQ pA pC),Vb true,Vb true,Vq (4*N+1) pA,Vq (4*N+1) pD,Vi (cmpQ pA pD),Vb true,Vb true,Vb true,Vq (4*N+1) pB,Vq (4*N+1) pC,Vi (cmpQ pB pC),Vb true,Vb true,Vb true,Vq (4*N+1) pB,Vq (4*N+1) pD,Vi (cmpQ pB pD),Vb true,Vb true,Vb true] [.k 11 30 4 (Vq (4*N+1) pA),.k 12 30 4 (Vq (4*N+1) pB),.k 13 30 4 (Vq (4*N+1) pC),.k 14 30 4 (Vq (4*N+1) pD)] [(15,Vb true)] st5 ⟨ks,ks,(kd2 fun _ _ _ _ _ X0 _ X1=>cR4Compare X0 X1),(kr1 31 fun _ _ _ _ _ x0 X0=>⟨_,run_lssi rfl (x0.trans X0) rfl,congrArg Value.bool (dT hc0)⟩),ks,ks,ks,(kd2 fun _ _ _ _ _ X0 _ X1=>cR4Compare X0 X1),(kr1 36 fun _ _ _ _ _ x0 X0=>⟨_,run_lssi rfl (x0.trans X0) rfl,congrArg Value.bool (dT hc1)⟩),ks,ks,ks,ks,(kd2 fun _ _ _ _ _ X0 _ X1=>cR4Compare X0 X1),(kr1 42 fun _ _ _ _ _ x0 X0=>⟨_,run_lssi rfl (x0.trans X0) rfl,congrArg Value.bool (dT hc2)⟩),ks,ks,ks,ks,(kd2 fun _ _ _ _ _ X0 _ X1=>cR4Compare X0 X1),(kr1 48 fun _ _ _ _ _ x0 X0=>⟨_,run_lssi rfl (x0.trans X0) rfl,congrArg Value.bool (dT hc3)⟩),ks,ks,trivial⟩ ?_;intro a6 w6 st6;have hv:(ltQ pA pC && (ltQ pA pD && (ltQ pB pC && (ltQ pB pD))))=true:=by rw [show ltQ pA pC=true from dT hc0,show ltQ pA pD=true from dT hc1,show ltQ pB pC=true from dT hc2,show ltQ pB pD=true from dT hc3];simp
      exact⟨rfl,by rw [hv];exact st6.cut⟩
     ·
      refine Wn ?_
      refine rH [(30,4,0)] [Vq (4*N+1) pA,Vq (4*N+1) pC,Vi (cmpQ pA pC),Vb true,Vb true,Vq (4*N+1) pA,Vq (4*N+1) pD,Vi (cmpQ pA pD),Vb true,Vb true,Vb true,Vq (4*N+1) pB,Vq (4*N+1) pC,Vi (cmpQ pB pC),Vb true,Vb true,Vb true,Vq (4*N+1) pB,Vq (4*N+1) pD,Vi (cmpQ pB pD),Vb false,Vb false,Vb false] [.k 11 30 4 (Vq (4*N+1) pA),.k 12 30 4 (Vq (4*N+1) pB),.k 13 30 4 (Vq (4*N+1) pC),.k 14 30 4 (Vq (4*N+1) pD)] [(15,Vb false)] st5 ⟨ks,ks,(kd2 fun _ _ _ _ _ X0 _ X1=>cR4Compare X0 X1),(kr1 31 fun _ _ _ _ _ x0 X0=>⟨_,run_lssi rfl (x0.trans X0) rfl,congrArg Value.bool (dT hc0)⟩),ks,ks,ks,(kd2 fun _ _ _ _ _ X0 _ X1=>cR4Compare X0 X1),(kr1 36 fun _ _ _ _ _ x0 X0=>⟨_,run_lssi rfl (x0.trans X0) rfl,congrArg Value.bool (dT hc1)⟩),ks,ks,ks,ks,(kd2 fun _ _ _ _ _ X0 _ X1=>cR4Compare X0 X1),(kr1 42 fun _ _ _ _ _ x0 X0=>⟨_,run_lssi rfl (x0.trans X0) rfl,congrArg Value.bool (dT hc2)⟩),ks,ks,ks,ks,(kd2 fun _ _ _ _ _ X0 _ X1=>cR4Compare X0 X1),(kr1 48 fun _ _ _ _ _ x0 X0=>⟨_,run_lssi rfl (x0.trans X0) rfl,congrArg Value.bool (dF hc3)⟩),ks,ks,trivial⟩ ?_;intro a6 w6 st6;have hv:(ltQ pA pC && (ltQ pA pD && (ltQ pB pC && (ltQ pB pD))))=false:=by rw [show ltQ pA pC=true from dT hc0,show ltQ pA pD=true from dT hc1,show ltQ pB pC=true from dT hc2,show ltQ pB pD=false from dF hc3];simp
      exact⟨rfl,by rw [hv];exact st6.cut⟩
    ·
     refine Wn ?_
     refine rH [(30,4,0)] [Vq (4*N+1) pA,Vq (4*N+1) pC,Vi (cmpQ pA pC),Vb true,Vb true,Vq (4*N+1) pA,Vq (4*N+1) pD,Vi (cmpQ pA pD),Vb true,Vb true,Vb true,Vq (4*N+1) pB,Vq (4*N+1) pC,Vi (cmpQ pB pC),Vb false,Vb false,Vb false,VT,VT,VT,VT,Vb false,Vb false] [.k 11 30 4 (Vq (4*N+1) pA),.k 12 30 4 (Vq (4*N+1) pB),.k 13 30 4 (Vq (4*N+1) pC),.k 14 30 4 (Vq (4*N+1) pD)] [(15,Vb false)] st5 ⟨ks,ks,(kd2 fun _ _ _ _ _ X0 _ X1=>cR4Compare X0 X1),(kr1 31 fun _ _ _ _ _ x0 X0=>⟨_,run_lssi rfl (x0.trans X0) rfl,congrArg Value.bool (dT hc0)⟩),ks,ks,ks,(kd2 fun _ _ _ _ _ X0 _ X1=>cR4Compare X0 X1),(kr1 36 fun _ _ _ _ _ x0 X0=>⟨_,run_lssi rfl (x0.trans X0) rfl,congrArg Value.bool (dT hc1)⟩),ks,ks,ks,ks,(kd2 fun _ _ _ _ _ X0 _ X1=>cR4Compare X0 X1),(kr1 42 fun _ _ _ _ _ x0 X0=>⟨_,run_lssi rfl (x0.trans X0) rfl,congrArg Value.bool (dF hc2)⟩),ks,ks,ks,ks,ks,ks,ks,ks,trivial⟩ ?_;intro a6 w6 st6;have hv:(ltQ pA pC && (ltQ pA pD && (ltQ pB pC && (ltQ pB pD))))=false:=by rw [show ltQ pA pC=true from dT hc0,show ltQ pA pD=true from dT hc1,show ltQ pB pC=false from dF hc2];simp
     exact⟨rfl,by rw [hv];exact st6.cut⟩
   ·
    refine Wn ?_
    refine rH [(30,4,0)] [Vq (4*N+1) pA,Vq (4*N+1) pC,Vi (cmpQ pA pC),Vb true,Vb true,Vq (4*N+1) pA,Vq (4*N+1) pD,Vi (cmpQ pA pD),Vb false,Vb false,Vb false,VT,VT,VT,VT,Vb false,Vb false,VT,VT,VT,VT,Vb false,Vb false] [.k 11 30 4 (Vq (4*N+1) pA),.k 12 30 4 (Vq (4*N+1) pB),.k 13 30 4 (Vq (4*N+1) pC),.k 14 30 4 (Vq (4*N+1) pD)] [(15,Vb false)] st5 ⟨ks,ks,(kd2 fun _ _ _ _ _ X0 _ X1=>cR4Compare X0 X1),(kr1 31 fun _ _ _ _ _ x0 X0=>⟨_,run_lssi rfl (x0.trans X0) rfl,congrArg Value.bool (dT hc0)⟩),ks,ks,ks,(kd2 fun _ _ _ _ _ X0 _ X1=>cR4Compare X0 X1),(kr1 36 fun _ _ _ _ _ x0 X0=>⟨_,run_lssi rfl (x0.trans X0) rfl,congrArg Value.bool (dF hc1)⟩),ks,ks,ks,ks,ks,ks,ks,ks,ks,ks,ks,ks,ks,ks,trivial⟩ ?_;intro a6 w6 st6;have hv:(ltQ pA pC && (ltQ pA pD && (ltQ pB pC && (ltQ pB pD))))=false:=by rw [show ltQ pA pC=true from dT hc0,show ltQ pA pD=false from dF hc1];simp
    exact⟨rfl,by rw [hv];exact st6.cut⟩
  ·
   refine Wn ?_
   refine rH [(30,4,0)] [Vq (4*N+1) pA,Vq (4*N+1) pC,Vi (cmpQ pA pC),Vb false,Vb false,VT,VT,VT,VT,Vb false,Vb false,VT,VT,VT,VT,Vb false,Vb false,VT,VT,VT,VT,Vb false,Vb false] [.k 11 30 4 (Vq (4*N+1) pA),.k 12 30 4 (Vq (4*N+1) pB),.k 13 30 4 (Vq (4*N+1) pC),.k 14 30 4 (Vq (4*N+1) pD)] [(15,Vb false)] st5 ⟨ks,ks,(kd2 fun _ _ _ _ _ X0 _ X1=>cR4Compare X0 X1),(kr1 31 fun _ _ _ _ _ x0 X0=>⟨_,run_lssi rfl (x0.trans X0) rfl,congrArg Value.bool (dF hc0)⟩),ks,ks,ks,ks,ks,ks,ks,ks,ks,ks,ks,ks,ks,ks,ks,ks,ks,ks,ks,trivial⟩ ?_;intro a6 w6 st6;have hv:(ltQ pA pC && (ltQ pA pD && (ltQ pB pC && (ltQ pB pD))))=false:=by rw [show ltQ pA pC=false from dF hc0];simp
   exact⟨rfl,by rw [hv];exact st6.cut⟩
 rintro _ a6x w6x ⟨rfl,st6⟩
 clear st5;refine Wn ?_
 refine wp_mono' (Q:=fun e aX wX=>e= .normal/\St w.heap.size w 77 [.k 11 30 4 (Vq (4*N+1) pA),.k 12 30 4 (Vq (4*N+1) pB),.k 13 30 4 (Vq (4*N+1) pC),.k 14 30 4 (Vq (4*N+1) pD)] [(15,Vb (ltQ pA pC && (ltQ pA pD && (ltQ pB pC && (ltQ pB pD))))),(16,Vb (gtQ pA pC && (gtQ pA pD && (gtQ pB pC && (gtQ pB pD)))))] aX wX) ?r6 ?_
 case r6=>
  by_cases hc0:0<cmpQ pA pC
  ·
   by_cases hc1:0<cmpQ pA pD
   ·
    by_cases hc2:0<cmpQ pB pC
    ·
     by_cases hc3:0<cmpQ pB pD
     ·
      refine Wn ?_
      refine rH [(30,4,0)] [Vq (4*N+1) pA,Vq (4*N+1) pC,Vi (cmpQ pA pC),Vb true,Vb true,Vq (4*N+1) pA,Vq (4*N+1) pD,Vi (cmpQ pA pD),Vb true,Vb true,Vb true,Vq (4*N+1) pB,Vq (4*N+1) pC,Vi (cmpQ pB pC),Vb true,Vb true,Vb true,Vq (4*N+1) pB,Vq (4*N+1) pD,Vi (cmpQ pB pD),Vb true,Vb true,Vb true] [.k 11 30 4 (Vq (4*N+1) pA),.k 12 30 4 (Vq (4*N+1) pB),.k 13 30 4 (Vq (4*N+1) pC),.k 14 30 4 (Vq (4*N+1) pD)] [(15,Vb (ltQ pA pC && (ltQ pA pD && (ltQ pB pC && (ltQ pB pD))))),(16,Vb true)] st6 ⟨ks,ks,(kd2 fun _ _ _ _ _ X0 _ X1=>cR4Compare X0 X1),(kr1 53 fun _ _ _ _ _ x0 X0=>⟨_,run_gtri rfl (x0.trans X0) rfl,congrArg Value.bool (dT hc0)⟩),ks,ks,ks,(kd2 fun _ _ _ _ _ X0 _ X1=>cR4Compare X0 X1),(kr1 58 fun _ _ _ _ _ x0 X0=>⟨_,run_gtri rfl (x0.trans X0) rfl,congrArg Value.bool (dT hc1)⟩),ks,ks,ks,ks,(kd2 fun _ _ _ _ _ X0 _ X1=>cR4Compare X0 X1),(kr1 64 fun _ _ _ _ _ x0 X0=>⟨_,run_gtri rfl (x0.trans X0) rfl,congrArg Value.bool (dT hc2)⟩),ks,ks,ks,ks,(kd2 fun _ _ _ _ _ X0 _ X1=>cR4Compare X0 X1),(kr1 70 fun _ _ _ _ _ x0 X0=>⟨_,run_gtri rfl (x0.trans X0) rfl,congrArg Value.bool (dT hc3)⟩),ks,ks,trivial⟩ ?_;intro a7 w7 st7;have hv:(gtQ pA pC && (gtQ pA pD && (gtQ pB pC && (gtQ pB pD))))=true:=by rw [show gtQ pA pC=true from dT hc0,show gtQ pA pD=true from dT hc1,show gtQ pB pC=true from dT hc2,show gtQ pB pD=true from dT hc3];simp
      exact⟨rfl,by rw [hv];exact st7.cut⟩
     ·
      refine Wn ?_
      refine rH [(30,4,0)] [Vq (4*N+1) pA,Vq (4*N+1) pC,Vi (cmpQ pA pC),Vb true,Vb true,Vq (4*N+1) pA,Vq (4*N+1) pD,Vi (cmpQ pA pD),Vb true,Vb true,Vb true,Vq (4*N+1) pB,Vq (4*N+1) pC,Vi (cmpQ pB pC),Vb true,Vb true,Vb true,Vq (4*N+1) pB,Vq (4*N+1) pD,Vi (cmpQ pB pD),Vb false,Vb false,Vb false] [.k 11 30 4 (Vq (4*N+1) pA),.k 12 30 4 (Vq (4*N+1) pB),.k 13 30 4 (Vq (4*N+1) pC),.k 14 30 4 (Vq (4*N+1) pD)] [(15,Vb (ltQ pA pC && (ltQ pA pD && (ltQ pB pC && (ltQ pB pD))))),(16,Vb false)] st6 ⟨ks,ks,(kd2 fun _ _ _ _ _ X0 _ X1=>cR4Compare X0 X1),(kr1 53 fun _ _ _ _ _ x0 X0=>⟨_,run_gtri rfl (x0.trans X0) rfl,congrArg Value.bool (dT hc0)⟩),ks,ks,ks,(kd2 fun _ _ _ _ _ X0 _ X1=>cR4Compare X0 X1),(kr1 58 fun _ _ _ _ _ x0 X0=>⟨_,run_gtri rfl (x0.trans X0) rfl,congrArg Value.bool (dT hc1)⟩),ks,ks,ks,ks,(kd2 fun _ _ _ _ _ X0 _ X1=>cR4Compare X0 X1),(kr1 64 fun _ _ _ _ _ x0 X0=>⟨_,run_gtri rfl (x0.trans X0) rfl,congrArg Value.bool (dT hc2)⟩),ks,ks,ks,ks,(kd2 fun _ _ _ _ _ X0 _ X1=>cR4Compare X0 X1),(kr1 70 fun _ _ _ _ _ x0 X0=>⟨_,run_gtri rfl (x0.trans X0) rfl,congrArg Value.bool (dF hc3)⟩),ks,ks,trivial⟩ ?_;intro a7 w7 st7;have hv:(gtQ pA pC && (gtQ pA pD && (gtQ pB pC && (gtQ pB pD))))=false:=by rw [show gtQ pA pC=true from dT hc0,show gtQ pA pD=true from dT hc1,show gtQ pB pC=true from dT hc2,show gtQ pB pD=false from dF hc3];simp
      exact⟨rfl,by rw [hv];exact st7.cut⟩
    ·
     refine Wn ?_
     refine rH [(30,4,0)] [Vq (4*N+1) pA,Vq (4*N+1) pC,Vi (cmpQ pA pC),Vb true,Vb true,Vq (4*N+1) pA,Vq (4*N+1) pD,Vi (cmpQ pA pD),Vb true,Vb true,Vb true,Vq (4*N+1) pB,Vq (4*N+1) pC,Vi (cmpQ pB pC),Vb false,Vb false,Vb false,VT,VT,VT,VT,Vb false,Vb false] [.k 11 30 4 (Vq (4*N+1) pA),.k 12 30 4 (Vq (4*N+1) pB),.k 13 30 4 (Vq (4*N+1) pC),.k 14 30 4 (Vq (4*N+1) pD)] [(15,Vb (ltQ pA pC && (ltQ pA pD && (ltQ pB pC && (ltQ pB pD))))),(16,Vb false)] st6 ⟨ks,ks,(kd2 fun _ _ _ _ _ X0 _ X1=>cR4Compare X0 X1),(kr1 53 fun _ _ _ _ _ x0 X0=>⟨_,run_gtri rfl (x0.trans X0) rfl,congrArg Value.bool (dT hc0)⟩),ks,ks,ks,(kd2 fun _ _ _ _ _ X0 _ X1=>cR4Compare X0 X1),(kr1 58 fun _ _ _ _ _ x0 X0=>⟨_,run_gtri rfl (x0.trans X0) rfl,congrArg Value.bool (dT hc1)⟩),ks,ks,ks,ks,(kd2 fun _ _ _ _ _ X0 _ X1=>cR4Compare X0 X1),(kr1 64 fun _ _ _ _ _ x0 X0=>⟨_,run_gtri rfl (x0.trans X0) rfl,congrArg Value.bool (dF hc2)⟩),ks,ks,ks,ks,ks,ks,ks,ks,trivial⟩ ?_;intro a7 w7 st7;have hv:(gtQ pA pC && (gtQ pA pD && (gtQ pB pC && (gtQ pB pD))))=false:=by rw [show gtQ pA pC=true from dT hc0,show gtQ pA pD=true from dT hc1,show gtQ pB pC=false from dF hc2];simp
     exact⟨rfl,by rw [hv];exact st7.cut⟩
   ·
    refine Wn ?_
    refine rH [(30,4,0)] [Vq (4*N+1) pA,Vq (4*N+1) pC,Vi (cmpQ pA pC),Vb true,Vb true,Vq (4*N+1) pA,Vq (4*N+1) pD,Vi (cmpQ pA pD),Vb false,Vb false,Vb false,VT,VT,VT,VT,Vb false,Vb false,VT,VT,VT,VT,Vb false,Vb false] [.k 11 30 4 (Vq (4*N+1) pA),.k 12 30 4 (Vq (4*N+1) pB),.k 13 30 4 (Vq (4*N+1) pC),.k 14 30 4 (Vq (4*N+1) pD)] [(15,Vb (ltQ pA pC && (ltQ pA pD && (ltQ pB pC && (ltQ pB pD))))),(16,Vb false)] st6 ⟨ks,ks,(kd2 fun _ _ _ _ _ X0 _ X1=>cR4Compare X0 X1),(kr1 53 fun _ _ _ _ _ x0 X0=>⟨_,run_gtri rfl (x0.trans X0) rfl,congrArg Value.bool (dT hc0)⟩),ks,ks,ks,(kd2 fun _ _ _ _ _ X0 _ X1=>cR4Compare X0 X1),(kr1 58 fun _ _ _ _ _ x0 X0=>⟨_,run_gtri rfl (x0.trans X0) rfl,congrArg Value.bool (dF hc1)⟩),ks,ks,ks,ks,ks,ks,ks,ks,ks,ks,ks,ks,ks,ks,trivial⟩ ?_;intro a7 w7 st7;have hv:(gtQ pA pC && (gtQ pA pD && (gtQ pB pC && (gtQ pB pD))))=false:=by rw [show gtQ pA pC=true from dT hc0,show gtQ pA pD=false from dF hc1];simp
    exact⟨rfl,by rw [hv];exact st7.cut⟩
  ·
   refine Wn ?_
   refine rH [(30,4,0)] [Vq (4*N+1) pA,Vq (4*N+1) pC,Vi (cmpQ pA pC),Vb false,Vb false,VT,VT,VT,VT,Vb false,Vb false,VT,VT,VT,VT,Vb false,Vb false,VT,VT,VT,VT,Vb false,Vb false] [.k 11 30 4 (Vq (4*N+1) pA),.k 12 30 4 (Vq (4*N+1) pB),.k 13 30 4 (Vq (4*N+1) pC),.k 14 30 4 (Vq (4*N+1) pD)] [(15,Vb (ltQ pA pC && (ltQ pA pD && (ltQ pB pC && (ltQ pB pD))))),(16,Vb false)] st6 ⟨ks,ks,(kd2 fun _ _ _ _ _ X0 _ X1=>cR4Compare X0 X1),(kr1 53 fun _ _ _ _ _ x0 X0=>⟨_,run_gtri rfl (x0.trans X0) rfl,congrArg Value.bool (dF hc0)⟩),ks,ks,ks,ks,ks,ks,ks,ks,ks,ks,ks,ks,ks,ks,ks,ks,ks,ks,ks,trivial⟩ ?_;intro a7 w7 st7;have hv:(gtQ pA pC && (gtQ pA pD && (gtQ pB pC && (gtQ pB pD))))=false:=by rw [show gtQ pA pC=false from dF hc0];simp
   exact⟨rfl,by rw [hv];exact st7.cut⟩
 rintro _ a7x w7x ⟨rfl,st7⟩
 clear st6;generalize(ltQ pA pC && (ltQ pA pD && (ltQ pB pC && (ltQ pB pD))))=x15 at st7 hB;generalize(gtQ pA pC && (gtQ pA pD && (gtQ pB pC && (gtQ pB pD))))=x16 at st7 hB;cases h15:x15<;>cases h16:x16
 ·
  subst h15 h16;refine Wn ?_
  refine rH [(30,4,0)] [Vb false,Vb false,Vb false,Vb false,Vb false] [.k 11 30 4 (Vq (4*N+1) pA),.k 12 30 4 (Vq (4*N+1) pB),.k 13 30 4 (Vq (4*N+1) pC),.k 14 30 4 (Vq (4*N+1) pD)] [(10,Vb false)] st7 ⟨ks,ks,ks,ks,ks,trivial⟩ fun a8 w8 st8=>Wn ?_
  exact wp_ret (rS 10 (Vb false) st8 fun vr r4=>(by rw [show btwB n a b c d=false from hB];exact r4))
 ·
  subst h15 h16;refine Wn ?_
  refine rH [(30,4,0)] [Vb false,Vb false,Vb true,Vb true,Vb true] [.k 11 30 4 (Vq (4*N+1) pA),.k 12 30 4 (Vq (4*N+1) pB),.k 13 30 4 (Vq (4*N+1) pC),.k 14 30 4 (Vq (4*N+1) pD)] [(10,Vb true)] st7 ⟨ks,ks,ks,ks,ks,trivial⟩ fun a8 w8 st8=>Wn ?_
  exact wp_ret (rS 10 (Vb true) st8 fun vr r4=>(by rw [show btwB n a b c d=true from hB];exact r4))
 ·
  subst h15 h16;refine Wn ?_
  refine rH [(30,4,0)] [Vb true,Vb true,VT,Vb true,Vb true] [.k 11 30 4 (Vq (4*N+1) pA),.k 12 30 4 (Vq (4*N+1) pB),.k 13 30 4 (Vq (4*N+1) pC),.k 14 30 4 (Vq (4*N+1) pD)] [(10,Vb true)] st7 ⟨ks,ks,ks,ks,ks,trivial⟩ fun a8 w8 st8=>Wn ?_
  exact wp_ret (rS 10 (Vb true) st8 fun vr r4=>(by rw [show btwB n a b c d=true from hB];exact r4))
 ·
  subst h15 h16;refine Wn ?_
  refine rH [(30,4,0)] [Vb true,Vb true,VT,Vb true,Vb true] [.k 11 30 4 (Vq (4*N+1) pA),.k 12 30 4 (Vq (4*N+1) pB),.k 13 30 4 (Vq (4*N+1) pC),.k 14 30 4 (Vq (4*N+1) pD)] [(10,Vb true)] st7 ⟨ks,ks,ks,ks,ks,trivial⟩ fun a8 w8 st8=>Wn ?_
  exact wp_ret (rS 10 (Vb true) st8 fun vr r4=>(by rw [show btwB n a b c d=true from hB];exact r4))
theorem Stab_VSv0 {N:Nat}{vs:List P2}:Stab [] (VSv N vs):=fun _ _ _ h hr=>h.imp id fun ⟨hh,o,c,cs,e1,e2,e3,e4,e5,e6⟩=>⟨hh,o,c,cs,e1,e2,e3,(hr.row _ _ _ e4 (.inl (by simp))).trans e4,e5,fun i x hx=>Stab_Vv _ _ _ _ _ _ (e6 i x hx) hr⟩
instance {N:Nat}{vs:List P2}:Sb [] (VSv N vs):=⟨Stab_VSv0⟩
theorem Stab_VEp0 {T:TypeId}{k:Nat}{A:VP}(hA:Stab [] A):Stab [] (VEp T k A):=fun _ _ _ ⟨h,off,cs,e1,e2,e3,e4⟩ hr=>⟨h,off,cs,e1,(hr.row _ _ _ e2 (.inl (by simp))).trans e2,e3,hA _ _ _ e4 hr⟩
instance {T:TypeId}{k N:Nat}{x y:Rat}:Sb [] (VEp T k (Vv N x y)):=⟨Stab_VEp0 (Stab_Vv _ _ _)⟩
section
variable {ρ:Operand->Value}{o:Oper}{W:World}{x y:Operand}{va vb:Value}{N:Nat}{vs:List P2}
theorem len_SvC (ho:o.op= .call {callee:= .builtin .len,args:=#[x],argTypes:=#[23]})(hty:o.type=3)(hx:ρ x=va)(h:VSv N vs va W):∃v,(execOp ρ o).run Tryz.prog W= .ok (.value v) W/\Vi (vs.length:Int) v W:=len_Sv ho hty hx rfl h
theorem index_SvC {a:P2}{j:Nat}(ho:o.op= .indexAddr 23 x y)(hx:ρ x=va)(h:VSv N vs va W)(hy:ρ y=vb)(hb:Vi (j:Int) vb W)(hz:vs[j]? =some a):∃v,(execOp ρ o).run Tryz.prog W= .ok (.value v) W/\VEp 32 8 (Vv N a.1 a.2) v W:=index_Sv ho hx rfl h hy hb hz
theorem load_EpW {a:P2}(ho:o.op= .load 32 x)(hx:ρ x=va)(h:VEp 32 8 (Vv N a.1 a.2) va W):∃v,(execOp ρ o).run Tryz.prog W= .ok (.value v) W/\Vv N a.1 a.2 v W:=load_EpC (w:=W) (Stab_Vv _ _ _) ho hx h (Below.refl _ _) Tryz.underlying32 rfl size_Vec
end
theorem bslice_V5 {ρ:Operand->Value}{o:Oper}{W:World}{M:Nat}{x0 x1 x2 x3 x4:Operand}{v0 v1 v2 v3 v4:Value}{d0 d1 d2 d3 d4:P2}(ho:o.op= .buildSlice 23 5 #[(0,x0),(1,x1),(2,x2),(3,x3),(4,x4)])(e0:ρ x0=v0)(e1:ρ x1=v1)(e2:ρ x2=v2)(e3:ρ x3=v3)(e4:ρ x4=v4)(h0:Vv M d0.1 d0.2 v0 W)(h1:Vv M d1.1 d1.2 v1 W)(h2:Vv M d2.1 d2.2 v2 W)(h3:Vv M d3.1 d3.2 v3 W)(h4:Vv M d4.1 d4.2 v4 W):
 ∃v w',(execOp ρ o).run Tryz.prog W= .ok (.value v) w'/\Below W.heap.size W w'/\VSv M [d0,d1,d2,d3,d4] v w':=by
 obtain⟨c0,rfl,s0,-⟩:=AggV_Vv _ _ _ _ _ h0;obtain⟨c1,rfl,s1,-⟩:=AggV_Vv _ _ _ _ _ h1;obtain⟨c2,rfl,s2,-⟩:=AggV_Vv _ _ _ _ _ h2;obtain⟨c3,rfl,s3,-⟩:=AggV_Vv _ _ _ _ _ h3;obtain⟨c4,rfl,s4,-⟩:=AggV_Vv _ _ _ _ _ h4;obtain⟨p0_0,p0_1,p0_2,p0_3,p0_4,p0_5,p0_6,p0_7,rfl⟩:=arr8 s0;obtain⟨p1_0,p1_1,p1_2,p1_3,p1_4,p1_5,p1_6,p1_7,rfl⟩:=arr8 s1;obtain⟨p2_0,p2_1,p2_2,p2_3,p2_4,p2_5,p2_6,p2_7,rfl⟩:=arr8 s2;obtain⟨p3_0,p3_1,p3_2,p3_3,p3_4,p3_5,p3_6,p3_7,rfl⟩:=arr8 s3;obtain⟨p4_0,p4_1,p4_2,p4_3,p4_4,p4_5,p4_6,p4_7,rfl⟩:=arr8 s4;have hb:=below_new W (.cells #[p0_0,p0_1,p0_2,p0_3,p0_4,p0_5,p0_6,p0_7,p1_0,p1_1,p1_2,p1_3,p1_4,p1_5,p1_6,p1_7,p2_0,p2_1,p2_2,p2_3,p2_4,p2_5,p2_6,p2_7,p3_0,p3_1,p3_2,p3_3,p3_4,p3_5,p3_6,p3_7,p4_0,p4_1,p4_2,p4_3,p4_4,p4_5,p4_6,p4_7] 32);refine⟨.slice (some ⟨W.heap.size,0,none⟩) 5 5,_,?_,hb,.inr ⟨_,0,5,_,rfl,Nat.le_refl _,by omega,heap_alloc_new _ _,Nat.le_refl _,fun i z hz=>?_⟩⟩
 ·clear h0 h1 h2 h3 h4 hb;obtain⟨dd,op,ty,ps,af,gd⟩:=o;subst ho
  go_simp
 ·match i,hz with
  |0,hz=>cases hz;exact Stab_Vv (BT:=[]) _ _ _ _ _ _ h0 (RI.of_below hb)
  |1,hz=>cases hz;exact Stab_Vv (BT:=[]) _ _ _ _ _ _ h1 (RI.of_below hb)
  |2,hz=>cases hz;exact Stab_Vv (BT:=[]) _ _ _ _ _ _ h2 (RI.of_below hb)
  |3,hz=>cases hz;exact Stab_Vv (BT:=[]) _ _ _ _ _ _ h3 (RI.of_below hb)
  |4,hz=>cases hz;exact Stab_Vv (BT:=[]) _ _ _ _ _ _ h4 (RI.of_below hb)
  |i+5,hz=>simp at hz
def sbP (a b:P2):P2:=(a.1 - b.1,a.2 - b.2)
def qtP (a:P2):P2:=(-a.2,a.1)
def dirs (a b c d:P2):List P2:=[qtP (sbP b a),qtP (sbP d c),sbP b a,sbP d c,sbP c a]
def meetsR (a b c d:P2):Bool:=decide (∀i∈List.range 5,btwB ((dirs a b c d).getD i (0,0)) a b c d=false)
theorem cBetweenM {w:World}{M N:Nat}{n a b c d:P2}{v0 v1 v2 v3 v4:Value}{x:Bool}(h0:Vv M n.1 n.2 v0 w)(h1:Vv N a.1 a.2 v1 w)(h2:Vv N b.1 b.2 v2 w)(h3:Vv N c.1 c.2 v3 w)(h4:Vv N d.1 d.2 v4 w)(hNM:N<=M)(hN3:3<=M)(hN:M<=900)(hx:btwB n a b c d=x):Calls Tryz.prog 93 #[v0,v1,v2,v3,v4] w (RV (Vb x) w):=by
 subst hx;exact cR6Between h0 (Vv_le h1 hNM) (Vv_le h2 hNM) (Vv_le h3 hNM) (Vv_le h4 hNM) hN3 hN
theorem cR6Meets {w:World}{N:Nat}{a b c d:P2}{v0 v1 v2 v3:Value}(h0:Vv N a.1 a.2 v0 w)(h1:Vv N b.1 b.2 v1 w)(h2:Vv N c.1 c.2 v2 w)(h3:Vv N d.1 d.2 v3 w)(hN3:3<=N:=by omega)(hN:N<=400:=by omega):Calls Tryz.prog 46 #[v0,v1,v2,v3] w (RV (Vb (meetsR a b c d)) w):=by
 go_enter Tryz.func46,Tryz.ntmps46
 refine Sg 44 [(0,Vv N a.1 a.2),(1,Vv N b.1 b.2),(2,Vv N c.1 c.2),(3,Vv N d.1 d.2)] (Lq.2 ⟨⟨_,rfl,h0⟩,(Lq.2 ⟨⟨_,rfl,h1⟩,(Lq.2 ⟨⟨_,rfl,h2⟩,(Lq.2 ⟨⟨_,rfl,h3⟩,L0⟩)⟩)⟩)⟩) fun a0 st0=>Wn ?_
 refine rH [(32,8,0)] [VT,VT,VT,VT,Vb false] [⟨4,some 0,some 0,32,8,Vv N a.1 a.2,VT⟩,⟨5,some 1,some 1,32,8,Vv N b.1 b.2,VT⟩,⟨6,some 2,some 2,32,8,Vv N c.1 c.2,VT⟩,⟨7,some 3,some 3,32,8,Vv N d.1 d.2,VT⟩] [(8,Vb false)] st0 ⟨ks,ks,ks,ks,ks,trivial⟩ fun a1 w1 st1=>Wn ?_
 refine rH [(32,8,0)] [Vv N b.1 b.2,Vv N a.1 a.2,Vv (N+N+1) ((b.1) - a.1) ((b.2) - a.2),VT,VT] [.k 4 32 8 (Vv N a.1 a.2),.k 5 32 8 (Vv N b.1 b.2),.k 6 32 8 (Vv N c.1 c.2),.k 7 32 8 (Vv N d.1 d.2),⟨9,some 3,some 4,32,8,Vv (N+N+1) ((b.1) - a.1) ((b.2) - a.2),VT⟩] [(8,Vb false)] st1 ⟨ks,ks,(kd2 fun _ _ _ _ _ X0 _ X1=>cR5Sub X0 X1),ks,ks,trivial⟩ fun a2 w2 st2=>Wn ?_
 refine rH [(32,8,0)] [Vv N d.1 d.2,Vv N c.1 c.2,Vv (N+N+1) ((d.1) - c.1) ((d.2) - c.2),VT,VT] [.k 4 32 8 (Vv N a.1 a.2),.k 5 32 8 (Vv N b.1 b.2),.k 6 32 8 (Vv N c.1 c.2),.k 7 32 8 (Vv N d.1 d.2),.k 9 32 8 (Vv (N+N+1) ((sbP b a).1) ((sbP b a).2)),⟨10,some 3,some 4,32,8,Vv (N+N+1) ((d.1) - c.1) ((d.2) - c.2),VT⟩] [(8,Vb false)] st2 ⟨ks,ks,(kd2 fun _ _ _ _ _ X0 _ X1=>cR5Sub X0 X1),ks,ks,trivial⟩ ?_;intro a3 w3 st3;replace st3:St w.heap.size w 44 [.k 4 32 8 (Vv N a.1 a.2),.k 5 32 8 (Vv N b.1 b.2),.k 6 32 8 (Vv N c.1 c.2),.k 7 32 8 (Vv N d.1 d.2),.k 9 32 8 (Vv (N+N+1) ((sbP b a).1) ((sbP b a).2)),.k 10 32 8 (Vv (N+N+1) ((sbP d c).1) ((sbP d c).2))] [(8,Vb false)] a3 w3:=st3;refine Wn ?_
 refine rH [] [Vv (N+N+1) ((sbP b a).1) ((sbP b a).2),Vv (N+N+1) ((qtP (sbP b a)).1) ((qtP (sbP b a)).2),Vv (N+N+1) ((sbP d c).1) ((sbP d c).2),Vv (N+N+1) ((qtP (sbP d c)).1) ((qtP (sbP d c)).2),Vv (N+N+1) ((sbP b a).1) ((sbP b a).2),Vv (N+N+1) ((sbP d c).1) ((sbP d c).2),Vv N c.1 c.2,Vv N a.1 a.2,Vv (N+N+1) ((c.1) - a.1) ((c.2) - a.2),VSv (N+N+1) (dirs a b c d),VSv (N+N+1) (dirs a b c d)] [.k 4 32 8 (Vv N a.1 a.2),.k 5 32 8 (Vv N b.1 b.2),.k 6 32 8 (Vv N c.1 c.2),.k 7 32 8 (Vv N d.1 d.2),.k 9 32 8 (Vv (N+N+1) ((sbP b a).1) ((sbP b a).2)),.k 10 32 8 (Vv (N+N+1) ((sbP d c).1) ((sbP d c).2))] [(8,Vb false),(11,VSv (N+N+1) (dirs a b c d))] st3 ⟨ks,(kd1 fun _ _ _ _ _ X0=>cR6Turned X0),ks,(kd1 fun _ _ _ _ _ X0=>cR6Turned X0),ks,ks,ks,ks,(kd2 fun _ _ _ _ _ X0 _ X1=>cR5Sub X0 X1),?s9,ks,trivial⟩ ?_
 case s9=>
  refine k_mem SbB.out (by kernel_rfl) fun _ A Y h D=>⟨trivial,?_⟩
  obtain⟨v0,x0,X0⟩:=h.dp D 20;obtain⟨v1,x1,X1⟩:=h.dp D 22;obtain⟨v2,x2,X2⟩:=h.dp D 23;obtain⟨v3,x3,X3⟩:=h.dp D 24;obtain⟨v4,x4,X4⟩:=h.dp D 27;exact bslice_V5 (M:=N+N+1) (d0:=qtP (sbP b a)) (d1:=qtP (sbP d c)) (d2:=sbP b a) (d3:=sbP d c) (d4:=sbP c a) rfl x0 x1 x2 x3 x4 X0 X1 X2 X3 X4
 intro a4 w4 st4;refine Wn ?_
 refine rH [] [Vi 0] [.k 4 32 8 (Vv N a.1 a.2),.k 5 32 8 (Vv N b.1 b.2),.k 6 32 8 (Vv N c.1 c.2),.k 7 32 8 (Vv N d.1 d.2),.k 9 32 8 (Vv (N+N+1) ((sbP b a).1) ((sbP b a).2)),.k 10 32 8 (Vv (N+N+1) ((sbP d c).1) ((sbP d c).2))] [(8,Vb false),(11,VSv (N+N+1) (dirs a b c d)),(12,Vi 0)] st4 ⟨ks,trivial⟩ ?_;intro a5 w5 st5;replace st5:St w.heap.size w 44 [.k 4 32 8 (Vv N a.1 a.2),.k 5 32 8 (Vv N b.1 b.2),.k 6 32 8 (Vv N c.1 c.2),.k 7 32 8 (Vv N d.1 d.2)] [(11,VSv (N+N+1) (dirs a b c d)),(12,Vi ((0:Nat):Int))] a5 w5:=st5.cut;refine Wn ?_
 refine wp_loop_ghost (fun m aX wX=>∃j:Nat,j+m=5/\(∀i<j,btwB ((dirs a b c d).getD i (0,0)) a b c d=false)/\St w.heap.size w 44 [.k 4 32 8 (Vv N a.1 a.2),.k 5 32 8 (Vv N b.1 b.2),.k 6 32 8 (Vv N c.1 c.2),.k 7 32 8 (Vv N d.1 d.2)] [(11,VSv (N+N+1) (dirs a b c d)),(12,Vi j)] aX wX) 5 ⟨0,by omega,fun i hi=>absurd hi (by omega),st5⟩ ?_;intro m aL wL ⟨j,hj,hpre,st5⟩;by_cases hlt:j<5
 ·
  refine Wn ?_
  refine rH [] [Vi j,VSv (N+N+1) (dirs a b c d),Vi ((5:Nat):Int),Vb true] [.k 4 32 8 (Vv N a.1 a.2),.k 5 32 8 (Vv N b.1 b.2),.k 6 32 8 (Vv N c.1 c.2),.k 7 32 8 (Vv N d.1 d.2)] [(11,VSv (N+N+1) (dirs a b c d)),(12,Vi j),(32,Vb true)] st5 ⟨ks,ks,(kr1 30 fun _ _ _ _ _ x0 X0=>len_SvC rfl rfl x0 X0),(kr2 29 31 fun _ _ _ _ _ x0 X0 _ x1 X1=>⟨_,run_lssi rfl (x0.trans X0) (x1.trans X1),congrArg Value.bool (dT (by omega))⟩),trivial⟩ fun a6 w6 st6=>Wn ?_
  refine cT st6 ?_;have hgd:(dirs a b c d)[j]? =some ((dirs a b c d).getD j (0,0)):=by rw [List.getD_eq_getElem?_getD,List.getElem?_eq_getElem (by simp [dirs];omega)];rfl
  by_cases hbt:btwB ((dirs a b c d).getD j (0,0)) a b c d=true
  ·
   refine Wn ?_
   refine rH [] [VSv (N+N+1) (dirs a b c d),Vi j,VEp 32 8 (Vv (N+N+1) ((dirs a b c d).getD j (0,0)).1 ((dirs a b c d).getD j (0,0)).2),Vv (N+N+1) (((dirs a b c d).getD j (0,0)).1) (((dirs a b c d).getD j (0,0)).2),Vv N a.1 a.2,Vv N b.1 b.2,Vv N c.1 c.2,Vv N d.1 d.2,Vb true] [.k 4 32 8 (Vv N a.1 a.2),.k 5 32 8 (Vv N b.1 b.2),.k 6 32 8 (Vv N c.1 c.2),.k 7 32 8 (Vv N d.1 d.2)] [(11,VSv (N+N+1) (dirs a b c d)),(12,Vi j),(43,Vb true)] st6 ⟨ks,ks,(kr2 35 36 fun _ _ _ _ _ x0 X0 _ x1 X1=>index_SvC rfl x0 X0 x1 X1 hgd),(kr1 37 fun _ _ _ _ _ x0 X0=>load_EpW rfl x0 X0),ks,ks,ks,ks,(by refine kc fun _ A Y h D=>?_;obtain⟨v0,x0,X0⟩:=h.dp D 38;obtain⟨v1,x1,X1⟩:=h.dp D 39;obtain⟨v2,x2,X2⟩:=h.dp D 40;obtain⟨v3,x3,X3⟩:=h.dp D 41;obtain⟨v4,x4,X4⟩:=h.dp D 42;exact⟨#[v0,v1,v2,v3,v4],by simp [x0,x1,x2,x3,x4],cBetweenM X0 X1 X2 X3 X4 (by omega) (by omega) (by omega) hbt⟩),trivial⟩ ?_;intro a7 w7 st7;refine Wn ?_
   refine cT st7 ?_;refine Wn ?_
   refine rH [] [Vb false] [.k 4 32 8 (Vv N a.1 a.2),.k 5 32 8 (Vv N b.1 b.2),.k 6 32 8 (Vv N c.1 c.2),.k 7 32 8 (Vv N d.1 d.2)] [(11,VSv (N+N+1) (dirs a b c d)),(12,Vi j),(8,Vb false)] st7 ⟨ks,trivial⟩ fun a8 w8 st8=>Wn ?_
   exact wp_ret (rS 8 (Vb false) st8 fun vr r4=>(by rw [show meetsR a b c d=false from dF fun h=>by rw [h j (List.mem_range.2 hlt)] at hbt;cases hbt];exact r4))
  ·
   rw [Bool.not_eq_true] at hbt;refine Wn ?_
   refine rH [] [VSv (N+N+1) (dirs a b c d),Vi j,VEp 32 8 (Vv (N+N+1) ((dirs a b c d).getD j (0,0)).1 ((dirs a b c d).getD j (0,0)).2),Vv (N+N+1) (((dirs a b c d).getD j (0,0)).1) (((dirs a b c d).getD j (0,0)).2),Vv N a.1 a.2,Vv N b.1 b.2,Vv N c.1 c.2,Vv N d.1 d.2,Vb false] [.k 4 32 8 (Vv N a.1 a.2),.k 5 32 8 (Vv N b.1 b.2),.k 6 32 8 (Vv N c.1 c.2),.k 7 32 8 (Vv N d.1 d.2)] [(11,VSv (N+N+1) (dirs a b c d)),(12,Vi j),(43,Vb false)] st6 ⟨ks,ks,(kr2 35 36 fun _ _ _ _ _ x0 X0 _ x1 X1=>index_SvC rfl x0 X0 x1 X1 hgd),(kr1 37 fun _ _ _ _ _ x0 X0=>load_EpW rfl x0 X0),ks,ks,ks,ks,(by refine kc fun _ A Y h D=>?_;obtain⟨v0,x0,X0⟩:=h.dp D 38;obtain⟨v1,x1,X1⟩:=h.dp D 39;obtain⟨v2,x2,X2⟩:=h.dp D 40;obtain⟨v3,x3,X3⟩:=h.dp D 41;obtain⟨v4,x4,X4⟩:=h.dp D 42;exact⟨#[v0,v1,v2,v3,v4],by simp [x0,x1,x2,x3,x4],cBetweenM X0 X1 X2 X3 X4 (by omega) (by omega) (by omega) hbt⟩),trivial⟩ ?_;intro a7 w7 st7;refine Wn ?_
   refine cF st7 ?_;refine Wn ?_
   refine rH [] [Vi j,Vi ((j+1:Nat):Int),Vi ((j+1:Nat):Int)] [.k 4 32 8 (Vv N a.1 a.2),.k 5 32 8 (Vv N b.1 b.2),.k 6 32 8 (Vv N c.1 c.2),.k 7 32 8 (Vv N d.1 d.2)] [(11,VSv (N+N+1) (dirs a b c d)),(12,Vi ((j+1:Nat):Int))] st7 ⟨?s0,(kr1 33 fun _ _ _ _ v0 x0 X0=>⟨_,run_addi rfl (x0.trans (show v0= .int .i64 j from X0)) rfl wO,congrArg (Value.int .i64) (by omega)⟩),ks,trivial⟩ ?_
   case s0=>
    refine k_run0 SbB.out (by kernel_rfl) fun listed A Y h D hnl=>⟨trivial,?_⟩
    obtain⟨v0,x0,X0⟩:=h.out0 hnl (12,Vi j) (.tail _ (.head _)) 2 (by kernel_rfl) (.inr (by kernel_rfl));exact⟨_,run_move rfl,by rw [x0];exact X0⟩
   intro a8 w8 st8;replace st8:St w.heap.size w 44 [.k 4 32 8 (Vv N a.1 a.2),.k 5 32 8 (Vv N b.1 b.2),.k 6 32 8 (Vv N c.1 c.2),.k 7 32 8 (Vv N d.1 d.2)] [(11,VSv (N+N+1) (dirs a b c d)),(12,Vi ((j+1:Nat):Int))] a8 w8:=st8;exact⟨m - 1,by omega,j+1,by omega,fun i hi=>(by rcases Nat.lt_or_ge i j with h|h;exact hpre i h;rw [show i=j by omega];exact hbt),st8.cut⟩
 ·
  refine Wn ?_
  refine rH [] [Vi j,VSv (N+N+1) (dirs a b c d),Vi ((5:Nat):Int),Vb false] [.k 4 32 8 (Vv N a.1 a.2),.k 5 32 8 (Vv N b.1 b.2),.k 6 32 8 (Vv N c.1 c.2),.k 7 32 8 (Vv N d.1 d.2)] [(11,VSv (N+N+1) (dirs a b c d)),(12,Vi j),(32,Vb false)] st5 ⟨ks,ks,(kr1 30 fun _ _ _ _ _ x0 X0=>len_SvC rfl rfl x0 X0),(kr2 29 31 fun _ _ _ _ _ x0 X0 _ x1 X1=>⟨_,run_lssi rfl (x0.trans X0) (x1.trans X1),congrArg Value.bool (dF (by omega))⟩),trivial⟩ fun a6 w6 st6=>Wn ?_
  refine cF st6 ?_;refine Wn ?_
  refine rH [] [Vb true] [.k 4 32 8 (Vv N a.1 a.2),.k 5 32 8 (Vv N b.1 b.2),.k 6 32 8 (Vv N c.1 c.2),.k 7 32 8 (Vv N d.1 d.2)] [(11,VSv (N+N+1) (dirs a b c d)),(12,Vi j),(8,Vb true)] st6 ⟨ks,trivial⟩ fun a7 w7 st7=>Wn ?_
  exact wp_ret (rS 8 (Vb true) st7 fun vr r4=>(by rw [show meetsR a b c d=true from dT fun i hi=>hpre i (by have:=List.mem_range.1 hi;omega)];exact r4))


section
variable {BT:List (TypeId×Nat×Nat)}
theorem cR4ValidZ {w:World}{N:Nat}{x y:Int}{v0:Value}(h0:VP2 2 2 (Vz N x) (Vz N y) v0 w)(h3:3<=N:=by omega)(hN:N<=100000:=by omega):Calls Tryz.prog 115 #[v0] w (RV (Vb (decide (y=0∨(1<y/\Int.gcd x y=1)))) w):=by
 go_enter Tryz.func115,Tryz.ntmps115
 refine Sg 34 [(0,VP2 2 2 (Vz N x) (Vz N y))] (Lq.2 ⟨⟨_,rfl,h0⟩,L0⟩) fun a0 st0=>Wn ?_
 refine rH [] [VT,Vb false] [⟨1,some 0,some 0,30,4,VP2 2 2 (Vz N x) (Vz N y),VT⟩] [(2,Vb false)] st0 ⟨ks,ks,trivial⟩ ?_;intro a1 w1 st1;by_cases hl:y<0
 ·
  refine Wn ?_
  refine rH [] [Vpt a1 1 0,Vz N x,Vb true,Vb false,Vb false,Vpt a1 1 2,Vz N y,Vb true,Vb false,Vb false,Vb false,Vpt a1 1 2,Vpt a1 1 2,Vb true,Vb true,Vb true,VT,VT,VT,Vb true] [.k 1 30 4 (VP2 2 2 (Vz N x) (Vz N y))] [(2,Vb false),(22,Vb true)] st1 ⟨ks,ks,(kd1 fun _ _ _ _ _ X0=>cR3Valid X0),ks,ks,ks,ks,(kd1 fun _ _ _ _ _ X0=>cR3Valid X0),ks,ks,ks,ks,ks,(by exact k_cell (j:=12) (off:=2) SbB.out (by kernel_rfl) (.head _) rfl rfl rfl (by kernel_rfl) (by kernel_rfl) rfl (by kernel_rfl) (fun cs w h=>vzz_N2T h hl) Tryz.underlying4 rfl fun listed A Y h D=>⟨(by obtain⟨u,hu,hy,hU⟩:=h.dep D 10 13 (by kernel_rfl) (by kernel_rfl);obtain rfl:u= .bool false:=hU;exact hy),trivial⟩),ks,ks,ks,ks,ks,ks,trivial⟩ fun a2 w2 st2=>Wn ?_
  refine cT st2 ?_;refine Wn ?_
  refine rH [] [Vb false] [.k 1 30 4 (VP2 2 2 (Vz N x) (Vz N y))] [(22,Vb true),(2,Vb false)] st2 ⟨ks,trivial⟩ fun a3 w3 st3=>Wn ?_
  exact wp_ret (rS 2 (Vb false) st3 fun vr r4=>(by rw [dF (show ¬(y=0∨(1<y/\Int.gcd x y=1)) by omega)];exact r4))
 ·
  by_cases h1:y=1
  ·
   refine Wn ?_
   refine rH [] [Vpt a1 1 0,Vz N x,Vb true,Vb false,Vb false,Vpt a1 1 2,Vz N y,Vb true,Vb false,Vb false,Vb false,Vpt a1 1 2,Vpt a1 1 2,Vb false,Vb false,Vb false,Vpt a1 1 2,Vz N y,Vb true,Vb true] [.k 1 30 4 (VP2 2 2 (Vz N x) (Vz N y))] [(2,Vb false),(22,Vb true)] st1 ⟨ks,ks,(kd1 fun _ _ _ _ _ X0=>cR3Valid X0),ks,ks,ks,ks,(kd1 fun _ _ _ _ _ X0=>cR3Valid X0),ks,ks,ks,ks,ks,(by exact k_cell (j:=12) (off:=2) SbB.out (by kernel_rfl) (.head _) rfl rfl rfl (by kernel_rfl) (by kernel_rfl) rfl (by kernel_rfl) (fun cs w h=>vzz_N2F h hl) Tryz.underlying4 rfl fun listed A Y h D=>⟨(by obtain⟨u,hu,hy,hU⟩:=h.dep D 10 13 (by kernel_rfl) (by kernel_rfl);obtain rfl:u= .bool false:=hU;exact hy),trivial⟩),ks,ks,ks,ks,(kd1 fun _ _ _ h _ X0=>(cR4One X0).mono fun e w h=>h.le fun v w hv=>hv.trans (congrArg Value.bool (dT h1))),ks,trivial⟩ fun a2 w2 st2=>Wn ?_
   refine cT st2 ?_;refine Wn ?_
   refine rH [] [Vb false] [.k 1 30 4 (VP2 2 2 (Vz N x) (Vz N y))] [(22,Vb true),(2,Vb false)] st2 ⟨ks,trivial⟩ fun a3 w3 st3=>Wn ?_
   exact wp_ret (rS 2 (Vb false) st3 fun vr r4=>(by rw [dF (show ¬(y=0∨(1<y/\Int.gcd x y=1)) by omega)];exact r4))
  ·
   refine Wn ?_
   refine rH [] [Vpt a1 1 0,Vz N x,Vb true,Vb false,Vb false,Vpt a1 1 2,Vz N y,Vb true,Vb false,Vb false,Vb false,Vpt a1 1 2,Vpt a1 1 2,Vb false,Vb false,Vb false,Vpt a1 1 2,Vz N y,Vb false,Vb false] [.k 1 30 4 (VP2 2 2 (Vz N x) (Vz N y))] [(2,Vb false),(22,Vb false)] st1 ⟨ks,ks,(kd1 fun _ _ _ _ _ X0=>cR3Valid X0),ks,ks,ks,ks,(kd1 fun _ _ _ _ _ X0=>cR3Valid X0),ks,ks,ks,ks,ks,(by exact k_cell (j:=12) (off:=2) SbB.out (by kernel_rfl) (.head _) rfl rfl rfl (by kernel_rfl) (by kernel_rfl) rfl (by kernel_rfl) (fun cs w h=>vzz_N2F h hl) Tryz.underlying4 rfl fun listed A Y h D=>⟨(by obtain⟨u,hu,hy,hU⟩:=h.dep D 10 13 (by kernel_rfl) (by kernel_rfl);obtain rfl:u= .bool false:=hU;exact hy),trivial⟩),ks,ks,ks,ks,(kd1 fun _ _ _ h _ X0=>(cR4One X0).mono fun e w h=>h.le fun v w hv=>hv.trans (congrArg Value.bool (dF h1))),ks,trivial⟩ fun a2 w2 st2=>Wn ?_
   refine cF st2 ?_;by_cases hz:y=0
   ·
    refine Wn ?_
    refine rH [] [Vpt a2 1 2,Vpt a2 1 3,VD N y,Vi ((digs y.natAbs).length:Int),Vb true] [.k 1 30 4 (VP2 2 2 (Vz N x) (Vz N y))] [(2,Vb false),(22,Vb false),(27,Vb true)] st2 ⟨ks,ks,ks,(by refine kr fun _ A Y h D=>?_;obtain⟨v0,x0,X0⟩:=h.dp D 25;obtain⟨pp,nn,cc,rfl,hnn,-⟩:=X0;exact⟨_,run_len rfl rfl x0,by rw [hnn];rfl⟩),(by refine kr fun _ A Y h D=>?_;obtain⟨v0,x0,X0⟩:=h.dp D 26;have hV0':v0= .int .i64 ((digs y.natAbs).length:Int):=X0;exact⟨_,run_eqi rfl (x0.trans hV0') rfl,congrArg Value.bool (by rw [len_eq0];exact dT hz)⟩),trivial⟩ ?_;intro a3 w3 st3;refine Wn ?_
    refine cT st3 ?_;refine Wn ?_
    refine rH [] [Vb true] [.k 1 30 4 (VP2 2 2 (Vz N x) (Vz N y))] [(22,Vb false),(27,Vb true),(2,Vb true)] st3 ⟨ks,trivial⟩ fun a4 w4 st4=>Wn ?_
    exact wp_ret (rS 2 (Vb true) st4 fun vr r4=>(by rw [dT (show y=0∨(1<y/\Int.gcd x y=1)from .inl hz)];exact r4))
   ·
    refine Wn ?_
    refine rH [] [Vpt a2 1 2,Vpt a2 1 3,VD N y,Vi ((digs y.natAbs).length:Int),Vb false] [.k 1 30 4 (VP2 2 2 (Vz N x) (Vz N y))] [(2,Vb false),(22,Vb false),(27,Vb false)] st2 ⟨ks,ks,ks,(by refine kr fun _ A Y h D=>?_;obtain⟨v0,x0,X0⟩:=h.dp D 25;obtain⟨pp,nn,cc,rfl,hnn,-⟩:=X0;exact⟨_,run_len rfl rfl x0,by rw [hnn];rfl⟩),(by refine kr fun _ A Y h D=>?_;obtain⟨v0,x0,X0⟩:=h.dp D 26;have hV0':v0= .int .i64 ((digs y.natAbs).length:Int):=X0;exact⟨_,run_eqi rfl (x0.trans hV0') rfl,congrArg Value.bool (by rw [len_eq0];exact dF hz)⟩),trivial⟩ ?_;intro a3 w3 st3;refine Wn ?_
    refine cF st3 ?_;refine Wn ?_
    refine rH [] [Vpt a3 1 0,Vz N x,Vpt a3 1 2,Vz N y,Vz N (Int.gcd x (y):Int),Vb (decide ((Int.gcd x (y):Int)=1)),Vb (decide ((Int.gcd x (y):Int)=1))] [.k 1 30 4 (VP2 2 2 (Vz N x) (Vz N y))] [(22,Vb false),(27,Vb false),(2,Vb (decide ((Int.gcd x (y):Int)=1)))] st3 ⟨ks,ks,ks,ks,(kd2 fun _ _ _ _ _ X0 _ X1=>cRGcd X0 X1),(kd1 fun _ _ _ _ _ X0=>cR4One X0),ks,trivial⟩ fun a4 w4 st4=>Wn ?_
    exact wp_ret (rS 2 (Vb (decide ((Int.gcd x (y):Int)=1))) st4 fun vr r4=>(by rw [decide_eq_decide.2 (show(y=0∨(1<y/\Int.gcd x y=1))↔((Int.gcd x y:Int)=1) by omega)];exact r4))
theorem q_low {q:Rat}:qd q=0∨(1<qd q/\Int.gcd q.num (qd q)=1):=by
 by_cases h:q.den=1
 ·exact .inl (if_pos h)
 ·have:=q.den_pos;exact .inr ⟨by rw [qd_of h];omega,by rw [qd_of h];exact q.reduced⟩
theorem cR4Valid {W:World}{N:Nat}{q:Rat}{v:Value}(h:Vq N q v W)(h3:3<=N:=by omega)(hN:N<=100000:=by omega):Calls Tryz.prog 115 #[v] W (RV (Vb true) W):=by
 have:=cR4ValidZ h h3 hN;rw [dT q_low] at this;exact this
end
section
variable {ρ:Operand->Value}{o:Oper}{w W:World}{x:Operand}{va:Value}{N:Nat}{a b:Rat}
theorem field_Ep0 (ho:o.op= .fieldAddr 32 x 0)(hx:ρ x=va)(h:VAt w (VEp 32 8 (Vv N a b)) va W):∃v,(execOp ρ o).run Tryz.prog W= .ok (.value v) W/\VAt w (VEp 32 4 (Vq N a)) v W:=by
 obtain⟨g,off,cs,rfl,e2,e3,e4⟩:=h;refine⟨_,?_,g,off+0,cs,rfl,e2,by omega,?_⟩
 ·unfold execOp;simp only [ho,hx,Sem.run_bind,field_Vec0,Sem.run_pure,Result.andThen_ok]
 ·have:=VP2_fst e4;rw [show(4:Nat)=0+4 from rfl,ext_ext (by omega)] at this;exact this
theorem field_Ep1 (ho:o.op= .fieldAddr 32 x 1)(hx:ρ x=va)(h:VAt w (VEp 32 8 (Vv N a b)) va W):∃v,(execOp ρ o).run Tryz.prog W= .ok (.value v) W/\VAt w (VEp 32 4 (Vq N b)) v W:=by
 obtain⟨g,off,cs,rfl,e2,e3,e4⟩:=h;refine⟨_,?_,g,off+4,cs,rfl,e2,by omega,?_⟩
 ·unfold execOp;simp only [ho,hx,Sem.run_bind,field_Vec1,Sem.run_pure,Result.andThen_ok]
 ·have:=VP2_snd e4;rw [ext_ext (by omega)] at this;exact this
theorem load_EpF (ho:o.op= .load 30 x)(hx:ρ x=va)(h:VAt w (VEp 32 4 (Vq N a)) va W)(hb:Below w.heap.size w W):∃v,(execOp ρ o).run Tryz.prog W= .ok (.value v) W/\Vq N a v W:=by
 obtain⟨g,off,cs,rfl,e2,e3,e4⟩:=h;refine⟨_,?_,VAt_cur (Stab_Vq _ _) (show VAt w (Vq N a) _ W from e4) hb⟩;have e5:=(hb.block _ (lt_blk e2)).trans e2;unfold execOp;simp only [ho,hx,Instr.loadAt,Instr.sureAddr,Sem.run_bind,Sem.run_pure,Result.andThen_ok,run_loadVar_part W g off 4 32 30 cs (0,0) _ e5 e3 Tryz.underlying30 rfl size_Rat]
end
def sumT (f:Nat->Rat)(j:Nat):Rat:=sumQ f (List.range j)
theorem sumT_succ (f:Nat->Rat)(j:Nat):sumT f (j+1)=sumT f j+f j:=by
 unfold sumT;rw [List.range_succ,sumQ_snoc]
def trK (vs:List P2)(k:Nat):Rat:=((cv vs k).1 - (cv vs (k+1)).1)*((cv vs k).2+(cv vs (k+1)).2)
def areaR (vs:List P2):Rat:=sumT (trK vs) vs.length*Rat.divInt 1 2
theorem cR6Numbers {w:World}{N:Nat}{vs:List P2}{lv:Value}{v0:Value}(h0:VEq lv v0 w)(hS:VSv N vs lv w)(hN3:3<=N:=by omega)(hN:N<=900:=by omega):Calls Tryz.prog 76 #[v0] w (RV (Vb true) w):=by
 go_enter Tryz.func76,Tryz.ntmps76
 generalize hA:(⟨_,_⟩:Act)=a0;have st0:St w.heap.size w 26 [] [(0,VEq lv)] a0 w:=by subst hA;exact St.begin rfl rfl (Lq.2 ⟨⟨_,rfl,h0⟩,L0⟩)
 clear hA;have hmax:=VSv_max hS;refine Wn ?_
 refine rH [] [Vb false] [] [(0,VEq lv),(2,Vb false)] st0 ⟨ks,trivial⟩ fun a1 w1 st1=>Wn ?_
 refine rH [] [Vi 0] [] [(0,VEq lv),(2,Vb false),(3,Vi 0)] st1 ⟨ks,trivial⟩ ?_;intro a2 w2 st2;replace st2:St w.heap.size w 26 [] [(0,VEq lv),(3,Vi ((0:Nat):Int))] a2 w2:=st2.cut;refine Wn ?_
 refine wp_loop_ghost (fun m aX wX=>∃j:Nat,j+m=vs.length/\St w.heap.size w 26 [] [(0,VEq lv),(3,Vi j)] aX wX) vs.length ⟨0,by omega,st2⟩ ?_;intro m aL wL ⟨j,hj,st2⟩;by_cases hlt:j<vs.length
 ·
  refine Wn ?_
  refine rH [] [Vi j,VEq lv,Vi (vs.length:Int),Vb true] [] [(0,VEq lv),(3,Vi j),(7,Vb true)] st2 ⟨ks,ks,(kr1 5 fun _ _ _ _ _ x0 X0=>len_Sv rfl rfl x0 X0 hS),(kr2 4 6 fun _ _ _ _ _ x0 X0 _ x1 X1=>⟨_,run_lssi rfl (x0.trans X0) (x1.trans X1),congrArg Value.bool (dT (by omega))⟩),trivial⟩ fun a3 w3 st3=>Wn ?_
  refine cT st3 ?_;have hgd:vs[j]? =some (cv vs j):=by have:=cv_get (vs:=vs) j (by omega);rwa [Nat.mod_eq_of_lt hlt] at this
  refine Wn ?_
  refine rH [] [VEq lv,Vi j,VAt w (VEp 32 8 (Vv N (cv vs j).1 (cv vs j).2)),VAt w (VEp 32 4 (Vq N ((cv vs j).1))),Vq N ((cv vs j).1),Vb true,Vb false,Vb false,VEq lv,Vi j,VAt w (VEp 32 8 (Vv N (cv vs j).1 (cv vs j).2)),VAt w (VEp 32 4 (Vq N ((cv vs j).2))),Vq N ((cv vs j).2),Vb true,Vb false,Vb false] [] [(0,VEq lv),(3,Vi j),(7,Vb true),(25,Vb false)] st3 ⟨ks,ks,(kr2 10 11 fun _ _ _ _ _ x0 X0 _ x1 X1=>index_Sv rfl x0 X0 hS x1 X1 hgd),(kr1 12 fun _ _ _ _ _ x0 X0=>field_Ep0 rfl x0 X0),(kr1 13 fun _ _ _ h _ x0 X0=>load_EpF rfl x0 X0 h.k.below),(kd1 fun _ _ _ _ _ X0=>cR4Valid X0),ks,ks,ks,ks,(kr2 18 19 fun _ _ _ _ _ x0 X0 _ x1 X1=>index_Sv rfl x0 X0 hS x1 X1 hgd),(kr1 20 fun _ _ _ _ _ x0 X0=>field_Ep1 rfl x0 X0),(kr1 21 fun _ _ _ h _ x0 X0=>load_EpF rfl x0 X0 h.k.below),(kd1 fun _ _ _ _ _ X0=>cR4Valid X0),ks,ks,trivial⟩ fun a4 w4 st4=>Wn ?_
  refine cF st4 ?_;refine Wn ?_
  refine rH [] [Vi j,Vi ((j+1:Nat):Int),Vi ((j+1:Nat):Int)] [] [(0,VEq lv),(7,Vb true),(25,Vb false),(3,Vi ((j+1:Nat):Int))] st4 ⟨?s0,(kr1 8 fun _ _ _ _ v0 x0 X0=>⟨_,run_addi rfl (x0.trans (show v0= .int .i64 j from X0)) rfl wO,congrArg (Value.int .i64) (by omega)⟩),ks,trivial⟩ ?_
  case s0=>
   refine k_run0 SbB.out (by kernel_rfl) fun listed A Y h D hnl=>⟨trivial,?_⟩
   obtain⟨v0,x0,X0⟩:=h.out0 hnl (3,Vi j) (.tail _ (.head _)) 2 (by kernel_rfl) (.inr (by kernel_rfl));exact⟨_,run_move rfl,by rw [x0];exact X0⟩
  intro a5 w5 st5;replace st5:St w.heap.size w 26 [] [(0,VEq lv),(7,Vb true),(25,Vb false),(3,Vi ((j+1:Nat):Int))] a5 w5:=st5;exact⟨m - 1,by omega,j+1,by omega,st5.cut⟩
 ·
  refine Wn ?_
  refine rH [] [Vi j,VEq lv,Vi (vs.length:Int),Vb false] [] [(0,VEq lv),(3,Vi j),(7,Vb false)] st2 ⟨ks,ks,(kr1 5 fun _ _ _ _ _ x0 X0=>len_Sv rfl rfl x0 X0 hS),(kr2 4 6 fun _ _ _ _ _ x0 X0 _ x1 X1=>⟨_,run_lssi rfl (x0.trans X0) (x1.trans X1),congrArg Value.bool (dF (by omega))⟩),trivial⟩ fun a3 w3 st3=>Wn ?_
  refine cF st3 ?_;refine Wn ?_
  refine rH [] [Vb true] [] [(0,VEq lv),(3,Vi j),(7,Vb false),(2,Vb true)] st3 ⟨ks,trivial⟩ fun a4 w4 st4=>Wn ?_
  exact wp_ret (rS 2 (Vb true) st4 fun vr r4=>r4)
theorem cR4AddN {w:World}{N M:Nat}{a b:Rat}{v0 v1:Value}(h0:Vq N a v0 w)(h1:Vq M b v1 w)(k1:3<=N:=by omega)(k2:N<=100000:=by omega)(k3:3<=M:=by omega)(k4:M<=100000:=by omega):Calls Tryz.prog 80 #[v0,v1] w (RV (Vq (N+M+1) (a+b)) w):=by
 go_enter Tryz.func80,Tryz.ntmps80
 refine Sg 26 [(0,Vq N a),(1,Vq M b)] (Lq.2 ⟨⟨_,rfl,h0⟩,(Lq.2 ⟨⟨_,rfl,h1⟩,L0⟩)⟩) fun a0 st0=>Wn ?_
 refine rH [(28,2,0),(30,4,0)] [VT,VT,VT] [⟨2,some 0,some 0,30,4,Vq N a,VT⟩,⟨3,some 1,some 1,30,4,Vq M b,VT⟩,⟨4,some 2,none,30,4,VT,VT⟩] [] st0 ⟨ks,ks,ks,trivial⟩ fun a1 w1 st1=>Wn ?_
 refine rH [(28,2,0),(30,4,0)] [Vpt a1 2 0,Vz N a.num,Vq M b,Vz M (b.den:Int),Vz (N+M) ((a.num)*(b.den:Int)),VT,VT] [.k 2 30 4 (Vq N a),.k 3 30 4 (Vq M b),.k 4 30 4 VT,⟨5,some 5,some 6,28,2,Vz (N+M) ((a.num)*(b.den:Int)),VT⟩] [] st1 ⟨ks,ks,ks,(kd1 fun _ _ _ _ _ X0=>cR4Den X0),(kd2 fun _ _ _ _ _ X0 _ X1=>(cRMul X0 X1)),ks,ks,trivial⟩ fun a2 w2 st2=>Wn ?_
 refine rH [(28,2,0),(30,4,0)] [Vpt a2 3 0,Vz M b.num,Vq N a,Vz N (a.den:Int),Vz (M+N) ((b.num)*(a.den:Int)),VT,VT] [.k 2 30 4 (Vq N a),.k 3 30 4 (Vq M b),.k 4 30 4 VT,.k 5 28 2 (Vz (N+M) ((a.num)*(b.den:Int))),⟨6,some 5,some 6,28,2,Vz (M+N) ((b.num)*(a.den:Int)),VT⟩] [] st2 ⟨ks,ks,ks,(kd1 fun _ _ _ _ _ X0=>cR4Den X0),(kd2 fun _ _ _ _ _ X0 _ X1=>(cRMul X0 X1)),ks,ks,trivial⟩ fun a3 w3 st3=>Wn ?_
 refine rH [(28,2,0),(30,4,0)] [Vz (N+M) ((a.num)*(b.den:Int)),Vz (M+N) ((b.num)*(a.den:Int)),Vz (max (N+M) (M+N)+1) (((a.num)*(b.den:Int))+((b.num)*(a.den:Int))),Vq N a,Vz N (a.den:Int),Vq M b,Vz M (b.den:Int),Vz (N+M) ((a.den:Int)*(b.den:Int)),Vq (max (max (N+M) (M+N)+1) (N+M)) (Rat.divInt (((a.num)*(b.den:Int))+((b.num)*(a.den:Int))) ((a.den:Int)*(b.den:Int))),VT] [.k 2 30 4 (Vq N a),.k 3 30 4 (Vq M b),⟨4,none,some 9,30,4,Vq (max (max (N+M) (M+N)+1) (N+M)) (Rat.divInt (((a.num)*(b.den:Int))+((b.num)*(a.den:Int))) ((a.den:Int)*(b.den:Int))),VT⟩,.k 5 28 2 (Vz (N+M) ((a.num)*(b.den:Int))),.k 6 28 2 (Vz (M+N) ((b.num)*(a.den:Int)))] [] st3 ⟨ks,ks,(kd2 fun _ _ _ _ _ X0 _ X1=>(cRAdd X0 X1)),ks,(kd1 fun _ _ _ _ _ X0=>cR4Den X0),ks,(kd1 fun _ _ _ _ _ X0=>cR4Den X0),(kd2 fun _ _ _ _ _ X0 _ X1=>(cRMul X0 X1)),(kd2 fun _ _ _ _ _ X0 _ X1=>cR4Make (Vz_le (M:=(max (max (N+M) (M+N)+1) (N+M))) X0 (by omega)) (Vz_le (M:=(max (max (N+M) (M+N)+1) (N+M))) X1 (by omega))),ks,trivial⟩ fun a4 w4 st4=>Wn ?_
 exact wp_ret (rC 4 30 (Vq (max (max (N+M) (M+N)+1) (N+M)) (Rat.divInt (((a.num)*(b.den:Int))+((b.num)*(a.den:Int))) ((a.den:Int)*(b.den:Int)))) st4 fun cs r4=>(by rw [<-add_mk];exact Vq_le r4 (by omega)))
theorem cR4MulN {w:World}{N M:Nat}{a b:Rat}{v0 v1:Value}(h0:Vq N a v0 w)(h1:Vq M b v1 w)(k1:3<=N:=by omega)(k2:N<=100000:=by omega)(k3:3<=M:=by omega)(k4:M<=100000:=by omega):Calls Tryz.prog 83 #[v0,v1] w (RV (Vq (N+M) (a*b)) w):=by
 go_enter Tryz.func83,Tryz.ntmps83
 refine Sg 16 [(0,Vq N a),(1,Vq M b)] (Lq.2 ⟨⟨_,rfl,h0⟩,(Lq.2 ⟨⟨_,rfl,h1⟩,L0⟩)⟩) fun a0 st0=>Wn ?_
 refine rH [(30,4,0)] [VT,VT,VT] [⟨2,some 0,some 0,30,4,Vq N a,VT⟩,⟨3,some 1,some 1,30,4,Vq M b,VT⟩,⟨4,some 2,none,30,4,VT,VT⟩] [] st0 ⟨ks,ks,ks,trivial⟩ fun a1 w1 st1=>Wn ?_
 refine rH [(30,4,0)] [Vpt a1 2 0,Vz N a.num,Vpt a1 3 0,Vz M b.num,Vz (N+M) ((a.num)*(b.num)),Vq N a,Vz N (a.den:Int),Vq M b,Vz M (b.den:Int),Vz (N+M) ((a.den:Int)*(b.den:Int)),Vq (N+M) (Rat.divInt ((a.num)*(b.num)) ((a.den:Int)*(b.den:Int))),VT] [.k 2 30 4 (Vq N a),.k 3 30 4 (Vq M b),⟨4,none,some 11,30,4,Vq (N+M) (Rat.divInt ((a.num)*(b.num)) ((a.den:Int)*(b.den:Int))),VT⟩] [] st1 ⟨ks,ks,ks,ks,(kd2 fun _ _ _ _ _ X0 _ X1=>(cRMul X0 X1)),ks,(kd1 fun _ _ _ _ _ X0=>cR4Den X0),ks,(kd1 fun _ _ _ _ _ X0=>cR4Den X0),(kd2 fun _ _ _ _ _ X0 _ X1=>(cRMul X0 X1)),(kd2 fun _ _ _ _ _ X0 _ X1=>cR4Make X0 X1),ks,trivial⟩ fun a2 w2 st2=>Wn ?_
 exact wp_ret (rC 4 30 (Vq (N+M) (Rat.divInt ((a.num)*(b.num)) ((a.den:Int)*(b.den:Int)))) st2 fun cs r4=>(by rw [<-mul_mk];exact Vq_le r4 (by omega)))
theorem Vq_zero (w:World):Vq 1 0 (.agg #[.bool false,.slice none 0 0,.bool false,.slice none 0 0]) w:=
 show Vq 1 0 (.agg (#[.bool false,.slice none 0 0]++ #[.bool false,.slice none 0 0])) w from⟨_,_,rfl,rfl,rfl,⟨_,_,_,_,rfl,IntAt_zero _ _ _ (by omega),by omega⟩,⟨_,_,_,_,rfl,IntAt_zero _ _ _ (by omega),by omega⟩⟩
section
variable {md:Region.Mode}{ops:Array Oper}{Q:Exit->Act->World->Prop}{a0:Act}{Vl:List VP}{n0:Nat}{w0:World}{B:List Bd}{SL:List (Nat×VP)}{BT:List (TypeId×Nat×Nat)}
theorem k_allocQ0 {i t:Nat}{o:Oper}{b:Bd}[hB:SbB BT B](ho:o.op= .alloc 30)(hds:o.dst=some t)(hb:gB B (iB B t)=some b)(hbt:b.t=t)(hT:b.T=30)(hia:b.ia=some i)(hm:b.m=4)(hP:b.P=Vq 1 0)(hV:GV Vl i=VT)
 (hq:quietB (B.take (iB B t)++B.drop (iB B t+1)) i (some t)=true) (hg:GOk md ops Vl o):KStep BT Tryz.prog md ops Q a0 (GV Vl) n0 w0 B SL i o:=by
 subst hbt;intro listed a w h D hin hil hnl K hK;rw [if_pos (wanted_of (hg.get h D))]
 have ht:b.t<a.tmps.size:=by
  rw [hds] at hin;rw [h.size]
  simpa using hin
 have hks:=h.k.alloc (gB_split hb) hq hia hil ht hB.out h.n #[.bool false,.slice none 0 0,.bool false,.slice none 0 0] (by rw [hm];rfl) noint_Rat (fun hk=>by rw [hP];exact Vq_zero _);rw [hT] at hks;unfold Oper.wp execOp;simp only [ho,Sem.run_bind,alloc_Rat,Sem.run_pure,Result.andThen_ok];rw [<-hds] at hks;exact hK _ _ hks (RI.of_below (below_new _ _)) (by rw [hV];trivial)
end
theorem cR6Area {w:World}{N:Nat}{vs:List P2}{lv:Value}{v0:Value}(h0:VEq lv v0 w)(hS:VSv N vs lv w)(hN3:3<=N:=by omega)(hbd6:6+vs.length*(4*N+3)<=900:=by omega):Calls Tryz.prog 79 #[v0] w (RV (Vq (6+vs.length*(4*N+3)) (areaR vs)) w):=by
 go_enter Tryz.func79,Tryz.ntmps79
 generalize hA:(⟨_,_⟩:Act)=a0;have st0:St w.heap.size w 37 [] [(0,VEq lv)] a0 w:=by subst hA;exact St.begin rfl rfl (Lq.2 ⟨⟨_,rfl,h0⟩,L0⟩)
 clear hA;have hmax:=VSv_max hS;refine Wn ?_
 refine rH [(32,8,0),(30,4,0)] [VT] [⟨2,some 0,none,30,4,VT,VT⟩] [(0,VEq lv)] st0 ⟨ks,trivial⟩ fun a1 w1 st1=>Wn ?_
 refine rH [(32,8,0),(30,4,0)] [VT] [.k 2 30 4 VT,⟨3,some 0,none,30,4,Vq 1 0,VT⟩] [(0,VEq lv)] st1 ⟨(k_allocQ0 rfl rfl rfl rfl rfl rfl rfl rfl rfl (by kernel_rfl) (by first|exact trivial|exact⟨by kernel_rfl,⟨_,rfl⟩,rfl⟩)),trivial⟩ fun a2 w2 st2=>Wn ?_
 refine rH [(32,8,0),(30,4,0)] [Vi 0] [.k 2 30 4 VT,.k 3 30 4 (Vq 1 0)] [(0,VEq lv),(4,Vi 0)] st2 ⟨ks,trivial⟩ ?_;intro a3 w3 st3;replace st3:St w.heap.size w 37 [.k 2 30 4 VT,.k 3 30 4 (Vq 1 0)] [(0,VEq lv),(4,Vi ((0:Nat):Int))] a3 w3:=st3.cut;replace st3:St w.heap.size w 37 [.k 2 30 4 VT,.k 3 30 4 (Vq (3+0*(4*N+3)) (sumT (trK vs) 0))] [(0,VEq lv),(4,Vi ((0:Nat):Int))] a3 w3:=st3.weak [.k 2 30 4 VT,.k 3 30 4 (Vq (3+0*(4*N+3)) (sumT (trK vs) 0))] (Lq.2 ⟨⟨_,(.head _),rfl,rfl,rfl,rfl,rfl,rfl,rfl,fun _ _ h=>h⟩,(Lq.2 ⟨⟨_,(.tail _ (.head _)),rfl,rfl,rfl,rfl,rfl,rfl,rfl,fun _ _ h=>Vq_le h (by omega)⟩,L0⟩)⟩);refine Wn ?_
 refine wp_loop_ghost (fun m aX wX=>∃j:Nat,j+m=vs.length/\St w.heap.size w 37 [.k 2 30 4 VT,.k 3 30 4 (Vq (3+j*(4*N+3)) (sumT (trK vs) j))] [(0,VEq lv),(4,Vi j)] aX wX) vs.length ⟨0,by omega,st3⟩ ?_;intro m aL wL ⟨j,hj,st3⟩;have hmul:=Nat.mul_le_mul_right (4*N+3) (show j<=vs.length by omega);by_cases hlt:j<vs.length
 ·
  refine Wn ?_
  refine rH [(32,8,0),(30,4,0)] [Vi j,VEq lv,Vi (vs.length:Int),Vb true] [.k 2 30 4 VT,.k 3 30 4 (Vq (3+j*(4*N+3)) (sumT (trK vs) j))] [(0,VEq lv),(4,Vi j),(9,Vb true)] st3 ⟨ks,ks,(kr1 7 fun _ _ _ _ _ x0 X0=>len_Sv rfl rfl x0 X0 hS),(kr2 6 8 fun _ _ _ _ _ x0 X0 _ x1 X1=>⟨_,run_lssi rfl (x0.trans X0) (x1.trans X1),congrArg Value.bool (dT (by omega))⟩),trivial⟩ fun a4 w4 st4=>Wn ?_
  refine cT st4 ?_;have hgd:vs[j]? =some (cv vs j):=by have:=cv_get (vs:=vs) j (by omega);rwa [Nat.mod_eq_of_lt hlt] at this
  have hN9:4*N+3<=900:=by have:=Nat.le_mul_of_pos_left (4*N+3) (show 0<vs.length by omega);omega
  refine Wn ?_
  refine rH [(32,8,0),(30,4,0)] [VEq lv,Vi j,Vv N ((cv vs (j+1)).1) ((cv vs (j+1)).2),VT,VT] [.k 2 30 4 VT,.k 3 30 4 (Vq (3+j*(4*N+3)) (sumT (trK vs) j)),⟨5,some 3,some 4,32,8,Vv N ((cv vs (j+1)).1) ((cv vs (j+1)).2),VT⟩] [(0,VEq lv),(4,Vi j),(9,Vb true)] st4 ⟨ks,ks,(kd2 fun _ _ _ h _ X0 _ X1=>cR6Next X0 X1 (VSv_later hS h.k.below)),ks,ks,trivial⟩ fun a5 w5 st5=>Wn ?_
  refine rH [(32,8,0),(30,4,0)] [Vq (3+j*(4*N+3)) (sumT (trK vs) j),VEq lv,Vi j,VAt w (VEp 32 8 (Vv N (cv vs j).1 (cv vs j).2)),VAt w (VEp 32 4 (Vq N ((cv vs j).1))),Vq N ((cv vs j).1),Vpt a5 5 0,Vq N ((cv vs (j+1)).1),Vq (N+N+1) (((cv vs j).1) - ((cv vs (j+1)).1)),VEq lv,Vi j,VAt w (VEp 32 8 (Vv N (cv vs j).1 (cv vs j).2)),VAt w (VEp 32 4 (Vq N ((cv vs j).2))),Vq N ((cv vs j).2),Vpt a5 5 4,Vq N ((cv vs (j+1)).2),Vq (N+N+1) (((cv vs j).2)+((cv vs (j+1)).2)),Vq ((N+N+1)+(N+N+1)) ((((cv vs j).1) - ((cv vs (j+1)).1))*(((cv vs j).2)+((cv vs (j+1)).2))),Vq ((3+j*(4*N+3))+((N+N+1)+(N+N+1))+1) ((sumT (trK vs) j)+((((cv vs j).1) - ((cv vs (j+1)).1))*(((cv vs j).2)+((cv vs (j+1)).2)))),VT] [.k 2 30 4 VT,⟨3,none,some 19,30,4,Vq ((3+j*(4*N+3))+((N+N+1)+(N+N+1))+1) ((sumT (trK vs) j)+((((cv vs j).1) - ((cv vs (j+1)).1))*(((cv vs j).2)+((cv vs (j+1)).2)))),Vq (3+j*(4*N+3)) (sumT (trK vs) j)⟩,.k 5 32 8 (Vv N ((cv vs (j+1)).1) ((cv vs (j+1)).2))] [(0,VEq lv),(4,Vi j),(9,Vb true)] st5 ⟨ks,ks,ks,(kr2 16 17 fun _ _ _ _ _ x0 X0 _ x1 X1=>index_Sv rfl x0 X0 hS x1 X1 hgd),(kr1 18 fun _ _ _ _ _ x0 X0=>field_Ep0 rfl x0 X0),(kr1 19 fun _ _ _ h _ x0 X0=>load_EpF rfl x0 X0 h.k.below),ks,ks,(kd2 fun _ _ _ _ _ X0 _ X1=>cR4Sub X0 X1),ks,ks,(kr2 24 25 fun _ _ _ _ _ x0 X0 _ x1 X1=>index_Sv rfl x0 X0 hS x1 X1 hgd),(kr1 26 fun _ _ _ _ _ x0 X0=>field_Ep1 rfl x0 X0),(kr1 27 fun _ _ _ h _ x0 X0=>load_EpF rfl x0 X0 h.k.below),ks,ks,(kd2 fun _ _ _ _ _ X0 _ X1=>cR4AddN X0 X1),(kd2 fun _ _ _ _ _ X0 _ X1=>cR4MulN X0 X1),(kd2 fun _ _ _ _ _ X0 _ X1=>cR4AddN X0 X1),ks,trivial⟩ fun a6 w6 st6=>Wn ?_
  refine rH [(32,8,0),(30,4,0)] [Vi j,Vi ((j+1:Nat):Int),Vi ((j+1:Nat):Int)] [.k 2 30 4 VT,.k 3 30 4 (Vq ((3+j*(4*N+3))+((N+N+1)+(N+N+1))+1) ((sumT (trK vs) j)+((((cv vs j).1) - ((cv vs (j+1)).1))*(((cv vs j).2)+((cv vs (j+1)).2))))),.k 5 32 8 (Vv N ((cv vs (j+1)).1) ((cv vs (j+1)).2))] [(0,VEq lv),(9,Vb true),(4,Vi ((j+1:Nat):Int))] st6 ⟨?s0,(kr1 10 fun _ _ _ _ v0 x0 X0=>⟨_,run_addi rfl (x0.trans (show v0= .int .i64 j from X0)) rfl wO,congrArg (Value.int .i64) (by omega)⟩),ks,trivial⟩ ?_
  case s0=>
   refine k_run0 SbB.out (by kernel_rfl) fun listed A Y h D hnl=>⟨trivial,?_⟩
   obtain⟨v0,x0,X0⟩:=h.out0 hnl (4,Vi j) (.tail _ (.head _)) 2 (by kernel_rfl) (.inr (by kernel_rfl));exact⟨_,run_move rfl,by rw [x0];exact X0⟩
  intro a7 w7 st7;replace st7:St w.heap.size w 37 [.k 2 30 4 VT,.k 3 30 4 (Vq ((3+j*(4*N+3))+((N+N+1)+(N+N+1))+1) ((sumT (trK vs) j)+((((cv vs j).1) - ((cv vs (j+1)).1))*(((cv vs j).2)+((cv vs (j+1)).2)))))] [(0,VEq lv),(4,Vi ((j+1:Nat):Int))] a7 w7:=st7.cut;have eS:=sumT_succ (trK vs) j;have eM:3+(j+1)*(4*N+3)=(3+j*(4*N+3))+(4*N+3):=by rw [Nat.succ_mul];omega
  exact⟨m - 1,by omega,j+1,by omega,st7.weak [.k 2 30 4 VT,.k 3 30 4 (Vq (3+(j+1)*(4*N+3)) (sumT (trK vs) (j+1)))] (Lq.2 ⟨⟨_,(.head _),rfl,rfl,rfl,rfl,rfl,rfl,rfl,fun _ _ h=>h⟩,(Lq.2 ⟨⟨_,(.tail _ (.head _)),rfl,rfl,rfl,rfl,rfl,rfl,rfl,fun _ _ h=>by rw [eS];exact Vq_le h (by omega)⟩,L0⟩)⟩)⟩
 ·
  refine Wn ?_
  refine rH [(32,8,0),(30,4,0)] [Vi j,VEq lv,Vi (vs.length:Int),Vb false] [.k 2 30 4 VT,.k 3 30 4 (Vq (3+j*(4*N+3)) (sumT (trK vs) j))] [(0,VEq lv),(4,Vi j),(9,Vb false)] st3 ⟨ks,ks,(kr1 7 fun _ _ _ _ _ x0 X0=>len_Sv rfl rfl x0 X0 hS),(kr2 6 8 fun _ _ _ _ _ x0 X0 _ x1 X1=>⟨_,run_lssi rfl (x0.trans X0) (x1.trans X1),congrArg Value.bool (dF (by omega))⟩),trivial⟩ fun a4 w4 st4=>Wn ?_
  refine cF st4 ?_;have ej:j=vs.length:=by omega
  refine Wn ?_
  refine rH [(32,8,0),(30,4,0)] [Vq (3+j*(4*N+3)) (sumT (trK vs) j),Vq 3 (Rat.divInt 1 2),Vq ((3+j*(4*N+3))+3) ((sumT (trK vs) j)*(Rat.divInt 1 2)),VT] [⟨2,none,some 3,30,4,Vq ((3+j*(4*N+3))+3) ((sumT (trK vs) j)*(Rat.divInt 1 2)),VT⟩,.k 3 30 4 (Vq (3+j*(4*N+3)) (sumT (trK vs) j))] [(0,VEq lv),(4,Vi j),(9,Vb false)] st4 ⟨ks,(by refine kc fun _ A Y h D=>?_;exact⟨#[.int .i64 1,.int .i64 2],by simp [eval_const],cR4Of (show Vi 1 (.int .i64 1) Y from rfl) (show Vi 2 (.int .i64 2) Y from rfl)⟩),(kd2 fun _ _ _ _ _ X0 _ X1=>cR4MulN X0 X1),ks,trivial⟩ ?_;intro a5 w5 st5;refine Wn ?_
  exact wp_ret (rC 2 30 (Vq ((3+j*(4*N+3))+3) ((sumT (trK vs) j)*(Rat.divInt 1 2))) st5 fun cs r4=>(by rw [ej] at r4;exact Vq_le r4 (by omega)))

end Go.Proofs.YteacdbgalloaiaaGreat
