/- Contracts of the packages integer, rat, plane, polygon and their references. -/
import Derived.Test.YteacdbgalloaiaaGreatH19
import Derived.Test.YteacdbgalloaiaaGreatH15
import Derived.Test.YteacdbgalloaiaaGreatH16
set_option linter.unusedVariables false
set_option maxRecDepth 100000
set_option maxHeartbeats 6400000
namespace Go.Proofs.YteacdbgalloaiaaGreat
open Go.RowKit
theorem cR5Add {w:World}{N:Nat}{a b c d:Rat}{v0 v1:Value}(h0:Vv N (a) (b) v0 w)(h1:Vv N (c) (d) v1 w)(h3:3<=N:=by omega)(hN:N<=10000:=by omega):Calls Tryz.prog 39 #[v0,v1] w (RV (Vv (N+N+1) (a+c) (b+d)) w):=by
 go_enter Tryz.func39,Tryz.ntmps39
 generalize hA:(⟨_,_⟩:Act)=a0;have st0:St w.heap.size w 16 [] [(0,Vv N (a) (b)),(1,Vv N (c) (d))] a0 w:=by subst hA;exact St.begin rfl rfl (Lq.2 ⟨⟨_,rfl,h0⟩,(Lq.2 ⟨⟨_,rfl,h1⟩,L0⟩)⟩)
 clear hA;refine Wn ?_
 refine rH [(32,8,0)] [VT,VT,VT] [⟨2,some 0,some 0,32,8,Vv N (a) (b),VT⟩,⟨3,some 1,some 1,32,8,Vv N (c) (d),VT⟩,⟨4,some 2,none,32,8,VT,VT⟩] [] st0 ⟨ks,ks,ks,trivial⟩ fun a1 w1 st1=>Wn ?_;clear st0
 refine rH [(32,8,0)] [Vpt a1 2 0,Vq N (a),Vpt a1 3 0,Vq N (c),Vq (N+N+1) ((a)+(c)),Vpt a1 2 4,Vq N (b),Vpt a1 3 4,Vq N (d),Vq (N+N+1) ((b)+(d)),Vv (N+N+1) ((a)+(c)) ((b)+(d)),VT] [⟨2,none,none,32,8,Vv N (a) (b),VT⟩,⟨3,none,none,32,8,Vv N (c) (d),VT⟩,⟨4,none,some 11,32,8,Vv (N+N+1) ((a)+(c)) ((b)+(d)),VT⟩] [] st1 ⟨ks,ks,ks,ks,(kd2 fun _ _ _ _ _ X0 _ X1=>cR4Add X0 X1),ks,ks,ks,ks,(kd2 fun _ _ _ _ _ X0 _ X1=>cR4Add X0 X1),(kr2 9 14 fun _ _ _ _ _ x0 X0 _ x1 X1=>build_Vec rfl x0 x1 (AggV_Vq _ _) (AggV_Vq _ _) X0 X1),ks,trivial⟩ fun a2 w2 st2=>Wn ?_;clear st1
 exact wp_ret (rC 4 32 (Vv (N+N+1) ((a)+(c)) ((b)+(d))) st2 fun cs r4=>r4)
theorem cR5Sub {w:World}{N:Nat}{a b c d:Rat}{v0 v1:Value}(h0:Vv N (a) (b) v0 w)(h1:Vv N (c) (d) v1 w)(h3:3<=N:=by omega)(hN:N<=10000:=by omega):Calls Tryz.prog 85 #[v0,v1] w (RV (Vv (N+N+1) (a - c) (b - d)) w):=by
 go_enter Tryz.func85,Tryz.ntmps85
 generalize hA:(⟨_,_⟩:Act)=a0;have st0:St w.heap.size w 16 [] [(0,Vv N (a) (b)),(1,Vv N (c) (d))] a0 w:=by subst hA;exact St.begin rfl rfl (Lq.2 ⟨⟨_,rfl,h0⟩,(Lq.2 ⟨⟨_,rfl,h1⟩,L0⟩)⟩)
 clear hA;refine Wn ?_
 refine rH [(32,8,0)] [VT,VT,VT] [⟨2,some 0,some 0,32,8,Vv N (a) (b),VT⟩,⟨3,some 1,some 1,32,8,Vv N (c) (d),VT⟩,⟨4,some 2,none,32,8,VT,VT⟩] [] st0 ⟨ks,ks,ks,trivial⟩ fun a1 w1 st1=>Wn ?_;clear st0
 refine rH [(32,8,0)] [Vpt a1 2 0,Vq N (a),Vpt a1 3 0,Vq N (c),Vq (N+N+1) ((a) - (c)),Vpt a1 2 4,Vq N (b),Vpt a1 3 4,Vq N (d),Vq (N+N+1) ((b) - (d)),Vv (N+N+1) ((a) - (c)) ((b) - (d)),VT] [⟨2,none,none,32,8,Vv N (a) (b),VT⟩,⟨3,none,none,32,8,Vv N (c) (d),VT⟩,⟨4,none,some 11,32,8,Vv (N+N+1) ((a) - (c)) ((b) - (d)),VT⟩] [] st1 ⟨ks,ks,ks,ks,(kd2 fun _ _ _ _ _ X0 _ X1=>cR4Sub X0 X1),ks,ks,ks,ks,(kd2 fun _ _ _ _ _ X0 _ X1=>cR4Sub X0 X1),(kr2 9 14 fun _ _ _ _ _ x0 X0 _ x1 X1=>build_Vec rfl x0 x1 (AggV_Vq _ _) (AggV_Vq _ _) X0 X1),ks,trivial⟩ fun a2 w2 st2=>Wn ?_;clear st1
 exact wp_ret (rC 4 32 (Vv (N+N+1) ((a) - (c)) ((b) - (d))) st2 fun cs r4=>r4)
theorem cR5Scale {w:World}{N:Nat}{a b c:Rat}{v0 v1:Value}(h0:Vv N (a) (b) v0 w)(h1:Vq N (c) v1 w)(h3:3<=N:=by omega)(hN:N<=10000:=by omega):Calls Tryz.prog 70 #[v0,v1] w (RV (Vv (N+N) (a*c) (b*c)) w):=by
 go_enter Tryz.func70,Tryz.ntmps70
 generalize hA:(⟨_,_⟩:Act)=a0;have st0:St w.heap.size w 14 [] [(0,Vv N (a) (b)),(1,Vq N (c))] a0 w:=by subst hA;exact St.begin rfl rfl (Lq.2 ⟨⟨_,rfl,h0⟩,(Lq.2 ⟨⟨_,rfl,h1⟩,L0⟩)⟩)
 clear hA;refine Wn ?_
 refine rH [(32,8,0)] [VT,VT,VT] [⟨2,some 0,some 0,32,8,Vv N (a) (b),VT⟩,⟨3,some 1,some 1,30,4,Vq N (c),VT⟩,⟨4,some 2,none,32,8,VT,VT⟩] [] st0 ⟨ks,ks,ks,trivial⟩ fun a1 w1 st1=>Wn ?_;clear st0
 refine rH [(32,8,0)] [Vpt a1 2 0,Vq N (a),Vq N (c),Vq (N+N) ((a)*(c)),Vpt a1 2 4,Vq N (b),Vq N (c),Vq (N+N) ((b)*(c)),Vv (N+N) ((a)*(c)) ((b)*(c)),VT] [⟨2,none,none,32,8,Vv N (a) (b),VT⟩,⟨3,none,none,30,4,Vq N (c),VT⟩,⟨4,none,some 9,32,8,Vv (N+N) ((a)*(c)) ((b)*(c)),VT⟩] [] st1 ⟨ks,ks,ks,(kd2 fun _ _ _ _ _ X0 _ X1=>cR4Mul X0 X1),ks,ks,ks,(kd2 fun _ _ _ _ _ X0 _ X1=>cR4Mul X0 X1),(kr2 8 12 fun _ _ _ _ _ x0 X0 _ x1 X1=>build_Vec rfl x0 x1 (AggV_Vq _ _) (AggV_Vq _ _) X0 X1),ks,trivial⟩ fun a2 w2 st2=>Wn ?_;clear st1
 exact wp_ret (rC 4 32 (Vv (N+N) ((a)*(c)) ((b)*(c))) st2 fun cs r4=>r4)
theorem cR5Dot {w:World}{N:Nat}{a b c d:Rat}{v0 v1:Value}(h0:Vv N (a) (b) v0 w)(h1:Vv N (c) (d) v1 w)(h3:3<=N:=by omega)(hN:N<=10000:=by omega):Calls Tryz.prog 127 #[v0,v1] w (RV (Vq (4*N+1) (a*c+b*d)) w):=by
 go_enter Tryz.func127,Tryz.ntmps127
 generalize hA:(⟨_,_⟩:Act)=a0;have st0:St w.heap.size w 16 [] [(0,Vv N (a) (b)),(1,Vv N (c) (d))] a0 w:=by subst hA;exact St.begin rfl rfl (Lq.2 ⟨⟨_,rfl,h0⟩,(Lq.2 ⟨⟨_,rfl,h1⟩,L0⟩)⟩)
 clear hA;refine Wn ?_
 refine rH [(30,4,0)] [VT,VT,VT] [⟨2,some 0,some 0,32,8,Vv N (a) (b),VT⟩,⟨3,some 1,some 1,32,8,Vv N (c) (d),VT⟩,⟨4,some 2,none,30,4,VT,VT⟩] [] st0 ⟨ks,ks,ks,trivial⟩ fun a1 w1 st1=>Wn ?_;clear st0
 refine rH [(30,4,0)] [Vpt a1 2 0,Vq N (a),Vpt a1 3 0,Vq N (c),Vq (N+N) ((a)*(c)),Vpt a1 2 4,Vq N (b),Vpt a1 3 4,Vq N (d),Vq (N+N) ((b)*(d)),Vq ((N+N)+(N+N)+1) (((a)*(c))+((b)*(d))),VT] [⟨2,none,none,32,8,Vv N (a) (b),VT⟩,⟨3,none,none,32,8,Vv N (c) (d),VT⟩,⟨4,none,some 11,30,4,Vq ((N+N)+(N+N)+1) (((a)*(c))+((b)*(d))),VT⟩] [] st1 ⟨ks,ks,ks,ks,(kd2 fun _ _ _ _ _ X0 _ X1=>cR4Mul X0 X1),ks,ks,ks,ks,(kd2 fun _ _ _ _ _ X0 _ X1=>cR4Mul X0 X1),(kd2 fun _ _ _ _ _ X0 _ X1=>cR4Add X0 X1),ks,trivial⟩ fun a2 w2 st2=>Wn ?_;clear st1
 exact wp_ret (rC 4 30 (Vq ((N+N)+(N+N)+1) (((a)*(c))+((b)*(d)))) st2 fun cs r4=>(Vq_le r4 (by omega)))
theorem cR5Cross {w:World}{N:Nat}{a b c d:Rat}{v0 v1:Value}(h0:Vv N (a) (b) v0 w)(h1:Vv N (c) (d) v1 w)(h3:3<=N:=by omega)(hN:N<=10000:=by omega):Calls Tryz.prog 84 #[v0,v1] w (RV (Vq (4*N+1) (a*d - b*c)) w):=by
 go_enter Tryz.func84,Tryz.ntmps84
 generalize hA:(⟨_,_⟩:Act)=a0;have st0:St w.heap.size w 16 [] [(0,Vv N (a) (b)),(1,Vv N (c) (d))] a0 w:=by subst hA;exact St.begin rfl rfl (Lq.2 ⟨⟨_,rfl,h0⟩,(Lq.2 ⟨⟨_,rfl,h1⟩,L0⟩)⟩)
 clear hA;refine Wn ?_
 refine rH [(30,4,0)] [VT,VT,VT] [⟨2,some 0,some 0,32,8,Vv N (a) (b),VT⟩,⟨3,some 1,some 1,32,8,Vv N (c) (d),VT⟩,⟨4,some 2,none,30,4,VT,VT⟩] [] st0 ⟨ks,ks,ks,trivial⟩ fun a1 w1 st1=>Wn ?_;clear st0
 refine rH [(30,4,0)] [Vpt a1 2 0,Vq N (a),Vpt a1 3 4,Vq N (d),Vq (N+N) ((a)*(d)),Vpt a1 2 4,Vq N (b),Vpt a1 3 0,Vq N (c),Vq (N+N) ((b)*(c)),Vq ((N+N)+(N+N)+1) (((a)*(d)) - ((b)*(c))),VT] [⟨2,none,none,32,8,Vv N (a) (b),VT⟩,⟨3,none,none,32,8,Vv N (c) (d),VT⟩,⟨4,none,some 11,30,4,Vq ((N+N)+(N+N)+1) (((a)*(d)) - ((b)*(c))),VT⟩] [] st1 ⟨ks,ks,ks,ks,(kd2 fun _ _ _ _ _ X0 _ X1=>cR4Mul X0 X1),ks,ks,ks,ks,(kd2 fun _ _ _ _ _ X0 _ X1=>cR4Mul X0 X1),(kd2 fun _ _ _ _ _ X0 _ X1=>cR4Sub X0 X1),ks,trivial⟩ fun a2 w2 st2=>Wn ?_;clear st1
 exact wp_ret (rC 4 30 (Vq ((N+N)+(N+N)+1) (((a)*(d)) - ((b)*(c)))) st2 fun cs r4=>(Vq_le r4 (by omega)))
theorem cR5Same {w:World}{N:Nat}{a b c d:Rat}{v0 v1:Value}(h0:Vv N (a) (b) v0 w)(h1:Vv N (c) (d) v1 w)(h3:3<=N:=by omega)(hN:N<=10000:=by omega):Calls Tryz.prog 18 #[v0,v1] w (RV (Vb (decide (a=c/\b=d))) w):=by
 go_enter Tryz.func18,Tryz.ntmps18
 generalize hA:(⟨_,_⟩:Act)=a0;have st0:St w.heap.size w 17 [] [(0,Vv N (a) (b)),(1,Vv N (c) (d))] a0 w:=by subst hA;exact St.begin rfl rfl (Lq.2 ⟨⟨_,rfl,h0⟩,(Lq.2 ⟨⟨_,rfl,h1⟩,L0⟩)⟩)
 clear hA;refine Wn ?_
 refine rH [] [VT,VT,Vb (false)] [⟨2,some 0,some 0,32,8,Vv N (a) (b),VT⟩,⟨3,some 1,some 1,32,8,Vv N (c) (d),VT⟩] [(4,Vb (false))] st0 ⟨ks,ks,ks,trivial⟩ ?_;intro a1 w1 st1;clear st0;by_cases hp:a=c
 ·
  refine Wn ?_
  refine rH [] [Vpt a1 2 0,Vq N (a),Vpt a1 3 0,Vq N (c),Vb (true),Vb (true),Vpt a1 2 4,Vq N (b),Vpt a1 3 4,Vq N (d),Vb (decide ((b)=(d))),Vb (decide ((b)=(d))),Vb (decide ((b)=(d)))] [⟨2,none,none,32,8,Vv N (a) (b),VT⟩,⟨3,none,none,32,8,Vv N (c) (d),VT⟩] [(4,Vb (decide ((b)=(d))))] st1 ⟨ks,ks,ks,ks,(kd2 fun _ _ _ h _ X0 _ X1=>(cR4Same X0 X1).mono fun e w h=>h.le fun v w hv=>hv.trans (congrArg Value.bool (dT (hp)))),ks,ks,ks,ks,ks,(kd2 fun _ _ _ _ _ X0 _ X1=>cR4Same X0 X1),ks,ks,trivial⟩ fun a2 w2 st2=>Wn ?_;clear st1
  exact wp_ret (rS 4 (Vb (decide ((b)=(d)))) st2 fun vr r4=>(by rw [show decide (a=c/\b=d)=decide (b=d) by simp [hp]];exact r4))
 ·
  refine Wn ?_
  refine rH [] [Vpt a1 2 0,Vq N (a),Vpt a1 3 0,Vq N (c),Vb (false),Vb (false),VT,VT,VT,VT,VT,Vb (false),Vb (false)] [⟨2,none,none,32,8,Vv N (a) (b),VT⟩,⟨3,none,none,32,8,Vv N (c) (d),VT⟩] [(4,Vb (false))] st1 ⟨ks,ks,ks,ks,(kd2 fun _ _ _ h _ X0 _ X1=>(cR4Same X0 X1).mono fun e w h=>h.le fun v w hv=>hv.trans (congrArg Value.bool (dF (hp)))),ks,ks,ks,ks,ks,ks,ks,ks,trivial⟩ fun a2 w2 st2=>Wn ?_;clear st1
  exact wp_ret (rS 4 (Vb (false)) st2 fun vr r4=>(by rw [show decide (a=c/\b=d)=false by simp [hp]];exact r4))
theorem cR5Side {w:World}{N:Nat}{a b c d e f:Rat}{v0 v1 v2:Value}(h0:Vv N (a) (b) v0 w)(h1:Vv N (c) (d) v1 w)(h2:Vv N (e) (f) v2 w)(h3:3<=N:=by omega)(hN:N<=1000:=by omega):Calls Tryz.prog 48 #[v0,v1,v2] w (RV (Vi (cmpI ((c - a)*(f - b) - (d - b)*(e - a)).num 0)) w):=by
 go_enter Tryz.func48,Tryz.ntmps48
 generalize hA:(⟨_,_⟩:Act)=a0;have st0:St w.heap.size w 15 [] [(0,Vv N (a) (b)),(1,Vv N (c) (d)),(2,Vv N (e) (f))] a0 w:=by subst hA;exact St.begin rfl rfl (Lq.2 ⟨⟨_,rfl,h0⟩,(Lq.2 ⟨⟨_,rfl,h1⟩,(Lq.2 ⟨⟨_,rfl,h2⟩,L0⟩)⟩)⟩)
 clear hA;refine Wn ?_
 refine rH [] [VT,VT,VT,Vi (0)] [⟨3,some 0,some 0,32,8,Vv N (a) (b),VT⟩,⟨4,some 1,some 1,32,8,Vv N (c) (d),VT⟩,⟨5,some 2,some 2,32,8,Vv N (e) (f),VT⟩] [(6,Vi (0))] st0 ⟨ks,ks,ks,ks,trivial⟩ fun a1 w1 st1=>Wn ?_;clear st0
 refine rH [] [Vv N (c) (d),Vv N (a) (b),Vv (N+N+1) ((c) - (a)) ((d) - (b)),Vv N (e) (f),Vv N (a) (b),Vv (N+N+1) ((e) - (a)) ((f) - (b)),Vq (4*(N+N+1)+1) (((c) - (a))*((f) - (b)) - ((d) - (b))*((e) - (a))),Vi (cmpI (((c) - (a))*((f) - (b)) - ((d) - (b))*((e) - (a))).num 0),Vi (cmpI (((c) - (a))*((f) - (b)) - ((d) - (b))*((e) - (a))).num 0)] [⟨3,none,none,32,8,Vv N (a) (b),VT⟩,⟨4,none,none,32,8,Vv N (c) (d),VT⟩,⟨5,none,none,32,8,Vv N (e) (f),VT⟩] [(6,Vi (cmpI (((c) - (a))*((f) - (b)) - ((d) - (b))*((e) - (a))).num 0))] st1 ⟨ks,ks,(kd2 fun _ _ _ _ _ X0 _ X1=>cR5Sub X0 X1),ks,ks,(kd2 fun _ _ _ _ _ X0 _ X1=>cR5Sub X0 X1),(kd2 fun _ _ _ _ _ X0 _ X1=>cR5Cross X0 X1),(kd1 fun _ _ _ _ _ X0=>cR4Sign X0),ks,trivial⟩ fun a2 w2 st2=>Wn ?_;clear st1
 exact wp_ret (rS 6 (Vi (cmpI (((c) - (a))*((f) - (b)) - ((d) - (b))*((e) - (a))).num 0)) st2 fun vr r4=>r4)
theorem cR5Of {w:World}{p q:Int}{v0 v1:Value}(h0:Vi (p) v0 w)(h1:Vi (q) v1 w)(hp0: -9223372036854775808<=p:=by omega)(hp1:p<=9223372036854775807:=by omega)(hq0: -9223372036854775808<=q:=by omega)(hq1:q<=9223372036854775807:=by omega):Calls Tryz.prog 37 #[v0,v1] w (RV (Vv 3 (Rat.divInt p 1) (Rat.divInt q 1)) w):=by
 go_enter Tryz.func37,Tryz.ntmps37
 generalize hA:(⟨_,_⟩:Act)=a0;have st0:St w.heap.size w 10 [] [(0,Vi (p)),(1,Vi (q))] a0 w:=by subst hA;exact St.begin rfl rfl (Lq.2 ⟨⟨_,rfl,h0⟩,(Lq.2 ⟨⟨_,rfl,h1⟩,L0⟩)⟩)
 clear hA;refine Wn ?_
 refine rH [(32,8,0)] [VT] [⟨4,some 0,none,32,8,VT,VT⟩] [(0,Vi (p)),(1,Vi (q))] st0 ⟨ks,trivial⟩ fun a1 w1 st1=>Wn ?_;clear st0
 refine rH [(32,8,0)] [Vi (p),Vq 3 (Rat.divInt (p) (1)),Vi (q),Vq 3 (Rat.divInt (q) (1)),Vv 3 (Rat.divInt (p) (1)) (Rat.divInt (q) (1)),VT] [⟨4,none,some 5,32,8,Vv 3 (Rat.divInt (p) (1)) (Rat.divInt (q) (1)),VT⟩] [] st1 ⟨ks,(by refine kc fun _ A Y h D=>?_;obtain⟨v0,x0,X0⟩:=h.dp D 5;exact⟨#[v0,.int .i64 (1)],by simp [x0,eval_const],cR4Of X0 (show Vi (1) (.int .i64 (1)) Y from rfl)⟩),ks,(by refine kc fun _ A Y h D=>?_;obtain⟨v0,x0,X0⟩:=h.dp D 7;exact⟨#[v0,.int .i64 (1)],by simp [x0,eval_const],cR4Of X0 (show Vi (1) (.int .i64 (1)) Y from rfl)⟩),(kr2 6 8 fun _ _ _ _ _ x0 X0 _ x1 X1=>build_Vec rfl x0 x1 (AggV_Vq _ _) (AggV_Vq _ _) X0 X1),ks,trivial⟩ ?_;intro a2 w2 st2;clear st1;refine Wn ?_
 exact wp_ret (rC 4 32 (Vv 3 (Rat.divInt (p) (1)) (Rat.divInt (q) (1))) st2 fun cs r4=>r4)


section
variable {BT:List (TypeId×Nat×Nat)}
section
variable {P:Program}{md:Region.Mode}{ops:Array Oper}{Q:Exit->Act->World->Prop}{a0:Act}{V:Nat->VP}{n0:Nat}{w0:World}{B:List Bd}{SL:List (Nat×VP)}
theorem k_part0 {i:Nat}{o:Oper}{b:Bd}{d:TypeDesc}{T:TypeId}{s j off k kk:Nat}(hBP:∀b∈B,b.stab BT)(hq:quietB B i o.dst=true)(hb:b∈B)(ho:o.op= .load T (.tmp s))(hon:b.ia=none)(hok:b.ik=some kk)(hkk:(match ops[kk]? with|some o=>o.after.any (fun e=>e.on==i && Region.binds md e)|none=>false)=true)(hj:o.after.any (fun e=>e.on==j && Region.binds md e)=true)(hdst:(ops[j]?).bind (·.dst)=some s)(hVj:V j=Vpt a0 b.t off)
 (hbt:ops.all (fun o=>o.dst !=some b.t)=true) (hk:off+k<=b.m) (hV:∀cs w,b.P0 (.agg cs) w->V i (.agg (cs.extract off (off+k))) w)
 (hu:P.underlying T=some d) (hdd:aggT d=true) (hi:(P.info? T).map (·.size)=some k) (H:Ask md ops a0 V n0 w0 B SL o fun _ _ _=>True):KStep BT P md ops Q a0 V n0 w0 B SL i o:=by
 intro listed a w h D _ _ hnl K hK;obtain⟨hg,-⟩:=H listed a w h D;rw [if_pos (wanted_of hg)];obtain⟨g,cs,e1,e2,e3,e4,e5,-,e7⟩:=h.k.ok b hb (by rw [hon];rfl);have hP:=e7 hon (by rw [hok];exact h.not_yet hnl hkk);obtain⟨v,hv,-,hVv⟩:=h.dep D j s hj hdst;rw [hVj] at hVv;obtain⟨g',f1,rfl⟩:=hVv
 have ho1:=h.other b.t fun i o ho=>by
  rw [Array.all_eq_true'] at hbt;have:=hbt o (Array.mem_of_getElem? ho)
  simpa using this
 rw [e1,f1] at ho1;simp at ho1;subst ho1;unfold Oper.wp execOp;simp only [ho,hv,Instr.loadAt,Instr.sureAddr,Sem.run_bind,Sem.run_pure,Result.andThen_ok,run_loadVar_part w g off k b.T T cs (0,0) d e3 (by omega) hu hdd hi];exact hK _ w (h.k.quiet hq hBP h.n (Below.refl _ _)) (RI.refl w) (hV _ _ hP)
end
section
variable {ρ:Operand->Value}{o:Oper}{W:World}{x y:Operand}{va vb:Value}{A B:VP}{a b:Int}
theorem run_eqb {c d:Bool}(ho:o.op= .binOp .eql 4 x y 4)(hx:ρ x= .bool c)(hy:ρ y= .bool d):(execOp ρ o).run Tryz.prog W= .ok (.value (.bool (c==d))) W:=by
 obtain⟨dd,op,ty,ps,af,gd⟩:=o;subst ho;cases c<;>cases d<;>go_simp
theorem build_Vec0 (ho:o.op= .build 32 #[]):∃v,(execOp ρ o).run Tryz.prog W= .ok (.value v) W/\Vv 1 0 0 v W:=by
 have hz:Vq 1 0 (.agg (#[.bool false,.slice none 0 0]++ #[.bool false,.slice none 0 0])) W:=⟨_,_,rfl,rfl,rfl,⟨_,_,_,_,rfl,IntAt_zero _ _ _ (by omega),by omega⟩,⟨_,_,_,_,rfl,IntAt_zero _ _ _ (by omega),by omega⟩⟩;refine⟨.agg ((#[.bool false,.slice none 0 0]++ #[.bool false,.slice none 0 0])++(#[.bool false,.slice none 0 0]++ #[.bool false,.slice none 0 0])),?_,⟨_,_,rfl,rfl,rfl,hz,hz⟩⟩;obtain⟨dd,op,ty,ps,af,gd⟩:=o;subst ho
 go_simp
end
theorem vzz_D3 {N:Nat}{a b:Int}{cs:Array Value}{w:World}(h:VP2 2 2 (Vz N a) (Vz N b) (.agg cs) w):∃v,cs[3]? =some v/\VD N b v w:=by
 obtain⟨x,y,h1,h2,h3,h4,h5⟩:=h;obtain⟨nb,p,n,c,e1,e2,-⟩:=h4;obtain⟨nb2,p2,n2,c2,f1,f2,f3⟩:=h5;cases h3;cases e1;cases f1;exact⟨_,rfl,p2,n2,c2,rfl,f2.2.1,f2.2.2.1,f2.2.2.2.1,f2.2.2.2.2,f3⟩
instance (N:Nat)(a b:Int):CeC (VP2 2 2 (Vz N a) (Vz N b)) 3 (VD N b):=⟨fun _ _ h=>vzz_D3 h⟩
theorem vzz_N2 {N:Nat}{a b:Int}{cs:Array Value}{w:World}(h:VP2 2 2 (Vz N a) (Vz N b) (.agg cs) w):∃v,cs[2]? =some v/\Vb (decide (b<0)) v w:=by
 obtain⟨x,y,h1,h2,h3,h4,h5⟩:=h;obtain⟨nb,p,n,c,e1,e2,-⟩:=h4;obtain⟨nb2,p2,n2,c2,f1,f2,f3⟩:=h5;cases h3;cases e1;cases f1;exact⟨_,rfl,congrArg Value.bool f2.1⟩
theorem vzz_N2T {N:Nat}{a b:Int}{cs:Array Value}{w:World}(h:VP2 2 2 (Vz N a) (Vz N b) (.agg cs) w)(hz:b<0):∃v,cs[2]? =some v/\Vb true v w:=by
 obtain⟨v,h1,h2⟩:=vzz_N2 h;rw [dT hz] at h2;exact⟨v,h1,h2⟩
theorem vzz_N2F {N:Nat}{a b:Int}{cs:Array Value}{w:World}(h:VP2 2 2 (Vz N a) (Vz N b) (.agg cs) w)(hz:¬b<0):∃v,cs[2]? =some v/\Vb false v w:=by
 obtain⟨v,h1,h2⟩:=vzz_N2 h;rw [dF hz] at h2;exact⟨v,h1,h2⟩
theorem cR3Valid {W:World}{N:Nat}{z:Int}{v:Value}(h:Vz N z v W)(hN:N<=1000000:=by omega):Calls Tryz.prog 138 #[v] W (RV (Vb true) W):=by
 obtain⟨nb,p,n,c,rfl,hI,hn⟩:=h;have:=rValid_any nb p n c (digs z.natAbs) W hI.2.2.1 hI.2.1 (by omega);rw [vld_int hI.1] at this;exact this.mono fun e w' h=>⟨_,h.1,rfl,h.2⟩
end
end Go.Proofs.YteacdbgalloaiaaGreat
