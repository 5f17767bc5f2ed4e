/- Contracts of the packages integer, rat, plane, polygon and their references. -/
import Derived.Test.YtjdkdjobaabdiaaGreatP14
import Derived.Test.YtjdkdjobaabdiaaGreatP5
set_option linter.unusedVariables false
set_option maxRecDepth 100000
set_option maxHeartbeats 6400000
namespace Go.Proofs.YtjdkdjobaabdiaaGreat
open Go.RowKit
theorem cSumA {w:World}{N:Nat}{a b c d:Rat}{v0 v1:Value}(h0:Vv N (a) (b) v0 w)(h1:VAt w (VR1 (Vv N c d)) v1 w)(hN1:1<=N)(hN:N<=20000):Calls Tryz.prog 127 #[v0,v1] w (RV (Vq (4*N+1) (a*b+c*d)) w):=by
 go_enter Tryz.func127,Tryz.ntmps127
 generalize hA:(⟨_,_⟩:Act)=a0
 have st0:St w.heap.size w 28 [] [(0,Vv N (a) (b)),(1,VAt w (VR1 (Vv N c d)))] a0 w:=by subst hA;exact St.begin rfl rfl (Lq.2 ⟨⟨_,rfl,h0⟩,(Lq.2 ⟨⟨_,rfl,h1⟩,(fun _ h=>absurd h (by simp))⟩)⟩)
 clear hA
 repeat first|apply Wq|apply Wb|apply Wk|apply Wx
 refine rH [(33,4,0),(110,8,0)] [VT,VT] [⟨2,some 0,some 0,110,8,Vv N (a) (b),VT⟩,⟨4,some 1,none,33,4,VT,VT⟩] [(1,VAt w (VR1 (Vv N c d)))] st0 ⟨ks,ks,trivial⟩ ?_
 intro a1 w1 st1
 clear st0
 repeat first|apply Wq|apply Wb|apply Wk|apply Wx
 refine rH [(33,4,0),(110,8,0)] [Vpt a1 2 0,Vq N (a),Vpt a1 2 4,Vq N (b),Vq (N+N) ((a)*(b)),VT,VT] [⟨2,none,none,110,8,Vv N (a) (b),VT⟩,⟨4,none,none,33,4,VT,VT⟩,⟨5,some 5,some 6,33,4,Vq (N+N) ((a)*(b)),VT⟩] [(1,VAt w (VR1 (Vv N c d)))] st1 ⟨ks,ks,ks,ks,(kd2 fun _ _ _ _ _ X0 _ X1=>cQMul X0 X1 (by omega) (by omega) (by omega) (by omega)),ks,ks,trivial⟩ ?_
 intro a2 w2 st2
 clear st1
 repeat first|apply Wq|apply Wb|apply Wk|apply Wx
 refine rH [(33,4,0),(110,8,0)] [VAt w (VR1 (Vv N c d)),Vi (1),Vi (0)] [⟨2,none,none,110,8,Vv N (a) (b),VT⟩,⟨4,none,none,33,4,VT,VT⟩,⟨5,none,none,33,4,Vq (N+N) ((a)*(b)),VT⟩] [(13,VAt w (VR1 (Vv N c d))),(14,Vi (1)),(15,Vi (0))] st2 ⟨ks,(kr1 13 fun _ _ _ _ _ x0 X0=>run_len1 rfl rfl x0 X0),ks,trivial⟩ ?_
 intro a3 w3 st3
 clear st2
 replace st3:St w.heap.size w 28 [⟨2,none,none,110,8,Vv N (a) (b),VT⟩,⟨4,none,none,33,4,VT,VT⟩,⟨5,none,none,33,4,Vq (N+N) ((a)*(b)),VT⟩] [(13,VAt w (VR1 (Vv N c d))),(14,Vi (1)),(15,Vi (0))] a3 w3:=st3
 repeat first|apply Wq|apply Wb|apply Wk|apply Wx
 refine wp_loop (fun aX wX=>St w.heap.size w 28 [⟨2,none,none,110,8,Vv N (a) (b),VT⟩,⟨4,none,none,33,4,VT,VT⟩,⟨5,none,none,33,4,Vq (N+N) ((a)*(b)),VT⟩] [(13,VAt w (VR1 (Vv N c d))),(14,Vi (1)),(15,Vi (0))] aX wX∨St w.heap.size w 28 [⟨2,none,none,110,8,Vv N (a) (b),VT⟩,⟨4,none,none,33,4,VT,VT⟩,⟨5,none,none,33,4,Vq ((N+N)+(N+N)+1) ((a)*(b)+((c)*(d))),VT⟩,⟨7,none,none,110,8,Vv N (c) (d),VT⟩] [(13,VAt w (VR1 (Vv N c d))),(14,Vi (1)),(15,Vi (1))] aX wX) (fun aX _=>1 - (intOf (aX.eval (.tmp 15))).toNat) (.inl st3) ?_
 clear st3
 intro aL wL hI
 rcases hI with st3|st3
 ·
  have hm0:(intOf (aL.eval (.tmp 15))).toNat=0:=by obtain⟨vv,e1,e2⟩:=st3.slot (15,Vi (0)) (.tail _ (.tail _ (.head _)));rw [e1,e2];rfl
  repeat first|apply Wq|apply Wb|apply Wk|apply Wx
  refine rH [(33,4,0),(110,8,0)] [Vb (true)] [⟨2,none,none,110,8,Vv N (a) (b),VT⟩,⟨4,none,none,33,4,VT,VT⟩,⟨5,none,none,33,4,Vq (N+N) ((a)*(b)),VT⟩] [(13,VAt w (VR1 (Vv N c d))),(14,Vi (1)),(15,Vi (0)),(16,Vb (true))] st3 ⟨(by refine kr fun _ A Y h D=>?_;obtain⟨v0,x0,X0⟩:=h.ot 15;have hV0':v0= .int .i64 (0):=X0;obtain⟨v1,x1,X1⟩:=h.ot 14;have hV1':v1= .int .i64 (1):=X1;exact⟨_,run_lssi rfl (x0.trans hV0') (x1.trans hV1'),congrArg Value.bool (by decide)⟩),trivial⟩ ?_
  intro a4 w4 st4
  clear st3
  repeat first|apply Wq|apply Wb|apply Wk|apply Wx
  refine cT st4 ?_
  repeat first|apply Wq|apply Wb|apply Wk|apply Wx
  refine rH [(33,4,0),(110,8,0)] [VAt w (VPtr (Vv N c d)),Vv N (c) (d),VT,VT] [⟨2,none,none,110,8,Vv N (a) (b),VT⟩,⟨4,none,none,33,4,VT,VT⟩,⟨5,none,none,33,4,Vq (N+N) ((a)*(b)),VT⟩,⟨7,some 2,some 3,110,8,Vv N (c) (d),VT⟩] [(13,VAt w (VR1 (Vv N c d))),(14,Vi (1)),(15,Vi (0)),(16,Vb (true))] st4 ⟨(by refine kr fun _ A Y h D=>?_;obtain⟨v0,x0,X0⟩:=h.ot 13;obtain⟨v1,x1,X1⟩:=h.ot 15;exact index_pair rfl x0 X0 x1 X1),(kr1 17 fun _ _ _ h _ x0 X0=>load_pair rfl x0 X0 h.k.below (Stab_Vv _ _ _)),ks,ks,trivial⟩ ?_
  intro a5 w5 st5
  clear st4
  repeat first|apply Wq|apply Wb|apply Wk|apply Wx
  refine rH [(33,4,0),(110,8,0)] [Vq (N+N) ((a)*(b)),Vpt a5 7 0,Vq N (c),Vpt a5 7 4,Vq N (d),Vq (N+N) ((c)*(d)),Vq ((N+N)+(N+N)+1) (((a)*(b))+((c)*(d))),VT] [⟨2,none,none,110,8,Vv N (a) (b),VT⟩,⟨4,none,none,33,4,VT,VT⟩,⟨5,none,some 7,33,4,Vq ((N+N)+(N+N)+1) (((a)*(b))+((c)*(d))),Vq (N+N) ((a)*(b))⟩,⟨7,none,none,110,8,Vv N (c) (d),VT⟩] [(13,VAt w (VR1 (Vv N c d))),(14,Vi (1)),(15,Vi (0)),(16,Vb (true))] st5 ⟨ks,ks,ks,ks,ks,(kd2 fun _ _ _ _ _ X0 _ X1=>cQMul X0 X1 (by omega) (by omega) (by omega) (by omega)),(kd2 fun _ _ _ _ _ X0 _ X1=>cQAdd X0 X1 (by omega) (by omega) (by omega) (by omega)),ks,trivial⟩ ?_
  intro a6 w6 st6
  clear st5
  repeat first|apply Wq|apply Wb|apply Wk|apply Wx
  refine rH [(33,4,0),(110,8,0)] [Vi (1),Vi (1)] [⟨2,none,none,110,8,Vv N (a) (b),VT⟩,⟨4,none,none,33,4,VT,VT⟩,⟨5,none,none,33,4,Vq ((N+N)+(N+N)+1) (((a)*(b))+((c)*(d))),VT⟩,⟨7,none,none,110,8,Vv N (c) (d),VT⟩] [(13,VAt w (VR1 (Vv N c d))),(14,Vi (1)),(16,Vb (true)),(15,Vi (1))] st6 ⟨?s0,ks,trivial⟩ ?_
  case s0=>
   refine k_run0 SbB.out (by kernel_rfl) fun listed A Y h D hnl=>⟨trivial,?_⟩
   obtain⟨v0,x0,X0⟩:=h.out0 hnl (15,Vi (0)) (.tail _ (.tail _ (.head _))) 1 (by kernel_rfl) (.inr (by kernel_rfl))
   obtain rfl:v0= .int .i64 0:=X0
   exact⟨.int .i64 1,run_addi rfl x0 rfl rfl,rfl⟩
  intro a7 w7 st7
  clear st6
  refine⟨.inr ?_,?_⟩
  ·exact st7.cut
  ·have hm1:(intOf (a7.eval (.tmp 15))).toNat=1:=(by obtain⟨vv,e1,e2⟩:=st7.slot (15,Vi (1)) (.tail _ (.tail _ (.tail _ (.head _))));rw [e1,e2];rfl)
   show 1 - _<1 - _
   rw [hm0,hm1];omega
 ·
  repeat first|apply Wq|apply Wb|apply Wk|apply Wx
  refine rH [(33,4,0),(110,8,0)] [Vb (false)] [⟨2,none,none,110,8,Vv N (a) (b),VT⟩,⟨4,none,none,33,4,VT,VT⟩,⟨5,none,none,33,4,Vq ((N+N)+(N+N)+1) ((a)*(b)+((c)*(d))),VT⟩,⟨7,none,none,110,8,Vv N (c) (d),VT⟩] [(13,VAt w (VR1 (Vv N c d))),(14,Vi (1)),(15,Vi (1)),(16,Vb (false))] st3 ⟨(by refine kr fun _ A Y h D=>?_;obtain⟨v0,x0,X0⟩:=h.ot 15;have hV0':v0= .int .i64 (1):=X0;obtain⟨v1,x1,X1⟩:=h.ot 14;have hV1':v1= .int .i64 (1):=X1;exact⟨_,run_lssi rfl (x0.trans hV0') (x1.trans hV1'),congrArg Value.bool (by decide)⟩),trivial⟩ ?_
  intro a4 w4 st4
  clear st3
  repeat first|apply Wq|apply Wb|apply Wk|apply Wx
  refine cF st4 ?_
  repeat first|apply Wq|apply Wb|apply Wk|apply Wx
  refine rH [(33,4,0),(110,8,0)] [Vq ((N+N)+(N+N)+1) ((a)*(b)+((c)*(d))),VT] [⟨2,none,none,110,8,Vv N (a) (b),VT⟩,⟨4,none,some 1,33,4,Vq ((N+N)+(N+N)+1) ((a)*(b)+((c)*(d))),VT⟩,⟨5,none,none,33,4,Vq ((N+N)+(N+N)+1) ((a)*(b)+((c)*(d))),VT⟩,⟨7,none,none,110,8,Vv N (c) (d),VT⟩] [(13,VAt w (VR1 (Vv N c d))),(14,Vi (1)),(15,Vi (1)),(16,Vb (false))] st4 ⟨ks,ks,trivial⟩ ?_
  intro a5 w5 st5
  clear st4
  repeat first|apply Wq|apply Wb|apply Wk|apply Wx
  exact wp_ret (rC 4 33 (Vq ((N+N)+(N+N)+1) ((a)*(b)+((c)*(d)))) st5 fun cs r4=>(Vq_le r4 (by omega)))
theorem cCross {w:World}{N:Nat}{a b c d:Rat}{v0 v1:Value}(h0:Vv N (a) (b) v0 w)(h1:Vv N (c) (d) v1 w)(hN1:1<=N)(hN:N<=4000):Calls Tryz.prog 119 #[v0,v1] w (RV (Vq (4*N+1) (a*d+ -b*c)) w):=by
 go_enter Tryz.func119,Tryz.ntmps119
 generalize hA:(⟨_,_⟩:Act)=a0
 have st0:St w.heap.size w 18 [] [(0,Vv N (a) (b)),(1,Vv N (c) (d))] a0 w:=by subst hA;exact St.begin rfl rfl (Lq.2 ⟨⟨_,rfl,h0⟩,(Lq.2 ⟨⟨_,rfl,h1⟩,(fun _ h=>absurd h (by simp))⟩)⟩)
 clear hA
 repeat first|apply Wq|apply Wb|apply Wk|apply Wx
 refine rH [(33,4,0)] [VT,VT,VT] [⟨2,some 0,some 0,35,8,Vv N (a) (b),VT⟩,⟨3,some 1,some 1,35,8,Vv N (c) (d),VT⟩,⟨4,some 2,none,33,4,VT,VT⟩] [] st0 ⟨ks,ks,ks,trivial⟩ ?_
 intro a1 w1 st1
 clear st0
 repeat first|apply Wq|apply Wb|apply Wk|apply Wx
 have:Sb [(33,4,0)] (VR1 (Vv N (-(b)) (c))):=⟨Stab_VR1 (Stab_Vv _ _ _) (by kernel_rfl)⟩
 refine rH [(33,4,0)] [Vpt a1 2 0,Vq N (a),Vpt a1 3 4,Vq N (d),Vv N (a) (d),Vpt a1 2 4,Vq N (b),Vq N (-(b)),Vpt a1 3 0,Vq N (c),Vv N (-(b)) (c),VR1 (Vv N (-(b)) (c)),Vq (4*N+1) ((a)*(d)+(-(b))*(c)),VT] [⟨2,none,none,35,8,Vv N (a) (b),VT⟩,⟨3,none,none,35,8,Vv N (c) (d),VT⟩,⟨4,none,some 13,33,4,Vq (4*N+1) ((a)*(d)+(-(b))*(c)),VT⟩] [] st1 ⟨ks,ks,ks,ks,(by refine kr fun _ A Y h D=>?_;obtain⟨v0,x0,X0⟩:=h.dp D 6;obtain⟨v1,x1,X1⟩:=h.dp D 8;exact build_pair rfl x0 x1 (AggV_Vq _ _) (AggV_Vq _ _) X0 X1),ks,ks,(kd1 fun _ _ _ _ _ X0=>cQNeg X0 (by omega)),ks,ks,(by refine kr fun _ A Y h D=>?_;obtain⟨v0,x0,X0⟩:=h.dp D 12;obtain⟨v1,x1,X1⟩:=h.dp D 14;exact build_pair rfl x0 x1 (AggV_Vq _ _) (AggV_Vq _ _) X0 X1),(by refine km fun _ A Y h D=>?_;obtain⟨v0,x0,X0⟩:=h.dp D 15;exact bslice_pair rfl x0 (AggV_Vv _ _ _) (Stab_Vv _ _ _) X0),(kd2 fun _ _ Y _ v0 X0 v1 X1=>cSumA X0 (show VR1 (Vv N (-(b)) (c)) v1 Y from X1) (by omega) (by omega)),ks,trivial⟩ ?_
 intro a2 w2 st2
 clear st1
 repeat first|apply Wq|apply Wb|apply Wk|apply Wx
 exact wp_ret (rC 4 33 (Vq (4*N+1) ((a)*(d)+(-(b))*(c))) st2 fun cs r4=>r4)
theorem cVAdd {w:World}{N:Nat}{a b c d:Rat}{v0 v1:Value}(h0:Vv N (a) (b) v0 w)(h1:Vv N (c) (d) v1 w)(hN1:1<=N)(hN:N<=4000):Calls Tryz.prog 44 #[v0,v1] w (RV (Vv (N+N+1) (a+c) (b+d)) w):=by
 go_enter Tryz.func44,Tryz.ntmps44
 generalize hA:(⟨_,_⟩:Act)=a0
 have st0:St w.heap.size w 16 [] [(0,Vv N (a) (b)),(1,Vv N (c) (d))] a0 w:=by subst hA;exact St.begin rfl rfl (Lq.2 ⟨⟨_,rfl,h0⟩,(Lq.2 ⟨⟨_,rfl,h1⟩,(fun _ h=>absurd h (by simp))⟩)⟩)
 clear hA
 repeat first|apply Wq|apply Wb|apply Wk|apply Wx
 refine rH [(35,8,0)] [VT,VT,VT] [⟨2,some 0,some 0,35,8,Vv N (a) (b),VT⟩,⟨3,some 1,some 1,35,8,Vv N (c) (d),VT⟩,⟨4,some 2,none,35,8,VT,VT⟩] [] st0 ⟨ks,ks,ks,trivial⟩ ?_
 intro a1 w1 st1
 clear st0
 repeat first|apply Wq|apply Wb|apply Wk|apply Wx
 refine rH [(35,8,0)] [Vpt a1 2 0,Vq N (a),Vpt a1 3 0,Vq N (c),Vq (N+N+1) ((a)+(c)),Vpt a1 2 4,Vq N (b),Vpt a1 3 4,Vq N (d),Vq (N+N+1) ((b)+(d)),Vv (N+N+1) ((a)+(c)) ((b)+(d)),VT] [⟨2,none,none,35,8,Vv N (a) (b),VT⟩,⟨3,none,none,35,8,Vv N (c) (d),VT⟩,⟨4,none,some 11,35,8,Vv (N+N+1) ((a)+(c)) ((b)+(d)),VT⟩] [] st1 ⟨ks,ks,ks,ks,(kd2 fun _ _ _ _ _ X0 _ X1=>cQAdd X0 X1 (by omega) (by omega) (by omega) (by omega)),ks,ks,ks,ks,(kd2 fun _ _ _ _ _ X0 _ X1=>cQAdd X0 X1 (by omega) (by omega) (by omega) (by omega)),(by refine kr fun _ A Y h D=>?_;obtain⟨v0,x0,X0⟩:=h.dp D 9;obtain⟨v1,x1,X1⟩:=h.dp D 14;exact build_Vec rfl x0 x1 (AggV_Vq _ _) (AggV_Vq _ _) X0 X1),ks,trivial⟩ ?_
 intro a2 w2 st2
 clear st1
 repeat first|apply Wq|apply Wb|apply Wk|apply Wx
 exact wp_ret (rC 4 35 (Vv (N+N+1) ((a)+(c)) ((b)+(d))) st2 fun cs r4=>r4)
theorem cVSub {w:World}{N:Nat}{a b c d:Rat}{v0 v1:Value}(h0:Vv N (a) (b) v0 w)(h1:Vv N (c) (d) v1 w)(hN1:1<=N)(hN:N<=4000):Calls Tryz.prog 143 #[v0,v1] w (RV (Vv (N+N+1) (a - c) (b - d)) w):=by
 go_enter Tryz.func143,Tryz.ntmps143
 generalize hA:(⟨_,_⟩:Act)=a0
 have st0:St w.heap.size w 16 [] [(0,Vv N (a) (b)),(1,Vv N (c) (d))] a0 w:=by subst hA;exact St.begin rfl rfl (Lq.2 ⟨⟨_,rfl,h0⟩,(Lq.2 ⟨⟨_,rfl,h1⟩,(fun _ h=>absurd h (by simp))⟩)⟩)
 clear hA
 repeat first|apply Wq|apply Wb|apply Wk|apply Wx
 refine rH [(35,8,0)] [VT,VT,VT] [⟨2,some 0,some 0,35,8,Vv N (a) (b),VT⟩,⟨3,some 1,some 1,35,8,Vv N (c) (d),VT⟩,⟨4,some 2,none,35,8,VT,VT⟩] [] st0 ⟨ks,ks,ks,trivial⟩ ?_
 intro a1 w1 st1
 clear st0
 repeat first|apply Wq|apply Wb|apply Wk|apply Wx
 refine rH [(35,8,0)] [Vpt a1 2 0,Vq N (a),Vpt a1 3 0,Vq N (c),Vq (N+N+1) ((a) - (c)),Vpt a1 2 4,Vq N (b),Vpt a1 3 4,Vq N (d),Vq (N+N+1) ((b) - (d)),Vv (N+N+1) ((a) - (c)) ((b) - (d)),VT] [⟨2,none,none,35,8,Vv N (a) (b),VT⟩,⟨3,none,none,35,8,Vv N (c) (d),VT⟩,⟨4,none,some 11,35,8,Vv (N+N+1) ((a) - (c)) ((b) - (d)),VT⟩] [] st1 ⟨ks,ks,ks,ks,(kd2 fun _ _ _ _ _ X0 _ X1=>cQSub X0 X1 (by omega) (by omega) (by omega) (by omega)),ks,ks,ks,ks,(kd2 fun _ _ _ _ _ X0 _ X1=>cQSub X0 X1 (by omega) (by omega) (by omega) (by omega)),(by refine kr fun _ A Y h D=>?_;obtain⟨v0,x0,X0⟩:=h.dp D 9;obtain⟨v1,x1,X1⟩:=h.dp D 14;exact build_Vec rfl x0 x1 (AggV_Vq _ _) (AggV_Vq _ _) X0 X1),ks,trivial⟩ ?_
 intro a2 w2 st2
 clear st1
 repeat first|apply Wq|apply Wb|apply Wk|apply Wx
 exact wp_ret (rC 4 35 (Vv (N+N+1) ((a) - (c)) ((b) - (d))) st2 fun cs r4=>r4)
theorem cVCompare {w:World}{N:Nat}{a b c d:Rat}{v0 v1:Value}(h0:Vv N (a) (b) v0 w)(h1:Vv N (c) (d) v1 w)(hN1:1<=N)(hN:N<=4000):Calls Tryz.prog 150 #[v0,v1] w (RV (Vi (if cmpQ a c=0 then cmpQ b d else cmpQ a c)) w):=by
 go_enter Tryz.func150,Tryz.ntmps150
 generalize hA:(⟨_,_⟩:Act)=a0
 have st0:St w.heap.size w 19 [] [(0,Vv N (a) (b)),(1,Vv N (c) (d))] a0 w:=by subst hA;exact St.begin rfl rfl (Lq.2 ⟨⟨_,rfl,h0⟩,(Lq.2 ⟨⟨_,rfl,h1⟩,(fun _ h=>absurd h (by simp))⟩)⟩)
 clear hA
 repeat first|apply Wq|apply Wb|apply Wk|apply Wx
 refine rH [] [VT,VT,Vi (0)] [⟨2,some 0,some 0,35,8,Vv N (a) (b),VT⟩,⟨3,some 1,some 1,35,8,Vv N (c) (d),VT⟩] [(4,Vi (0))] st0 ⟨ks,ks,ks,trivial⟩ ?_
 intro a1 w1 st1
 clear st0
 repeat first|apply Wq|apply Wb|apply Wk|apply Wx
 refine rH [] [Vpt a1 2 0,Vq N (a),Vpt a1 3 0,Vq N (c),Vi (cmpQ (a) (c)),Vi (cmpQ (a) (c))] [⟨2,none,none,35,8,Vv N (a) (b),VT⟩,⟨3,none,none,35,8,Vv N (c) (d),VT⟩] [(4,Vi (0)),(5,Vi (cmpQ (a) (c)))] st1 ⟨ks,ks,ks,ks,(kd2 fun _ _ _ _ _ X0 _ X1=>cQCompare X0 X1 (by omega) (by omega) (by omega) (by omega)),ks,trivial⟩ ?_
 intro a2 w2 st2
 clear st1
 by_cases hp:cmpQ a c=0
 ·
  repeat first|apply Wq|apply Wb|apply Wk|apply Wx
  refine rH [] [Vi (cmpQ (a) (c)),Vb (false)] [⟨2,none,none,35,8,Vv N (a) (b),VT⟩,⟨3,none,none,35,8,Vv N (c) (d),VT⟩] [(4,Vi (0)),(5,Vi (cmpQ (a) (c))),(12,Vb (false))] st2 ⟨ks,(by refine kr fun _ A Y h D=>?_;obtain⟨v0,x0,X0⟩:=h.dp D 11;have hV0':v0= .int .i64 (cmpQ (a) (c)):=X0;exact⟨_,run_neqi rfl (x0.trans hV0') rfl,congrArg Value.bool (by rw [hp];rfl)⟩),trivial⟩ ?_
  intro a3 w3 st3
  clear st2
  repeat first|apply Wq|apply Wb|apply Wk|apply Wx
  refine cF st3 ?_
  repeat first|apply Wq|apply Wb|apply Wk|apply Wx
  refine rH [] [Vpt a3 2 4,Vq N (b),Vpt a3 3 4,Vq N (d),Vi (cmpQ (b) (d)),Vi (cmpQ (b) (d))] [⟨2,none,none,35,8,Vv N (a) (b),VT⟩,⟨3,none,none,35,8,Vv N (c) (d),VT⟩] [(5,Vi (cmpQ (a) (c))),(12,Vb (false)),(4,Vi (cmpQ (b) (d)))] st3 ⟨ks,ks,ks,ks,(kd2 fun _ _ _ _ _ X0 _ X1=>cQCompare X0 X1 (by omega) (by omega) (by omega) (by omega)),ks,trivial⟩ ?_
  intro a4 w4 st4
  clear st3
  repeat first|apply Wq|apply Wb|apply Wk|apply Wx
  exact wp_ret (rS 4 (Vi (cmpQ (b) (d))) st4 fun vr r4=>(by rw [if_pos hp];exact r4))
 ·
  repeat first|apply Wq|apply Wb|apply Wk|apply Wx
  refine rH [] [Vi (cmpQ (a) (c)),Vb (true)] [⟨2,none,none,35,8,Vv N (a) (b),VT⟩,⟨3,none,none,35,8,Vv N (c) (d),VT⟩] [(4,Vi (0)),(5,Vi (cmpQ (a) (c))),(12,Vb (true))] st2 ⟨ks,(by refine kr fun _ A Y h D=>?_;obtain⟨v0,x0,X0⟩:=h.dp D 11;have hV0':v0= .int .i64 (cmpQ (a) (c)):=X0;exact⟨_,run_neqi rfl (x0.trans hV0') rfl,congrArg Value.bool (bne_iff_ne.2 hp)⟩),trivial⟩ ?_
  intro a3 w3 st3
  clear st2
  repeat first|apply Wq|apply Wb|apply Wk|apply Wx
  refine cT st3 ?_
  repeat first|apply Wq|apply Wb|apply Wk|apply Wx
  refine rH [] [Vi (cmpQ (a) (c)),Vi (cmpQ (a) (c))] [⟨2,none,none,35,8,Vv N (a) (b),VT⟩,⟨3,none,none,35,8,Vv N (c) (d),VT⟩] [(5,Vi (cmpQ (a) (c))),(12,Vb (true)),(4,Vi (cmpQ (a) (c)))] st3 ⟨ks,ks,trivial⟩ ?_
  intro a4 w4 st4
  clear st3
  repeat first|apply Wq|apply Wb|apply Wk|apply Wx
  exact wp_ret (rS 4 (Vi (cmpQ (a) (c))) st4 fun vr r4=>(by rw [if_neg hp];exact r4))
theorem cSide {w:World}{N:Nat}{a b c d e f:Rat}{v0 v1 v2:Value}(h0:Vv N (a) (b) v0 w)(h1:Vv N (c) (d) v1 w)(h2:Vv N (e) (f) v2 w)(hN1:1<=N)(hN:N<=1000):Calls Tryz.prog 107 #[v0,v1,v2] w (RV (Vi (cmpI ((c - a)*(f - b)+ -(d - b)*(e - a)).num 0)) w):=by
 go_enter Tryz.func107,Tryz.ntmps107
 generalize hA:(⟨_,_⟩:Act)=a0
 have st0:St w.heap.size w 15 [] [(0,Vv N (a) (b)),(1,Vv N (c) (d)),(2,Vv N (e) (f))] a0 w:=by subst hA;exact St.begin rfl rfl (Lq.2 ⟨⟨_,rfl,h0⟩,(Lq.2 ⟨⟨_,rfl,h1⟩,(Lq.2 ⟨⟨_,rfl,h2⟩,(fun _ h=>absurd h (by simp))⟩)⟩)⟩)
 clear hA
 repeat first|apply Wq|apply Wb|apply Wk|apply Wx
 refine rH [] [VT,VT,VT,Vi (0)] [⟨3,some 0,some 0,35,8,Vv N (a) (b),VT⟩,⟨4,some 1,some 1,35,8,Vv N (c) (d),VT⟩,⟨5,some 2,some 2,35,8,Vv N (e) (f),VT⟩] [(6,Vi (0))] st0 ⟨ks,ks,ks,ks,trivial⟩ ?_
 intro a1 w1 st1
 clear st0
 repeat first|apply Wq|apply Wb|apply Wk|apply Wx
 refine rH [] [Vv N (c) (d),Vv N (a) (b),Vv (N+N+1) ((c) - (a)) ((d) - (b)),Vv N (e) (f),Vv N (a) (b),Vv (N+N+1) ((e) - (a)) ((f) - (b)),Vq (4*(N+N+1)+1) (((c) - (a))*((f) - (b))+ -((d) - (b))*((e) - (a))),Vi (cmpI (((c) - (a))*((f) - (b))+ -((d) - (b))*((e) - (a))).num 0),Vi (cmpI (((c) - (a))*((f) - (b))+ -((d) - (b))*((e) - (a))).num 0)] [⟨3,none,none,35,8,Vv N (a) (b),VT⟩,⟨4,none,none,35,8,Vv N (c) (d),VT⟩,⟨5,none,none,35,8,Vv N (e) (f),VT⟩] [(6,Vi (cmpI (((c) - (a))*((f) - (b))+ -((d) - (b))*((e) - (a))).num 0))] st1 ⟨ks,ks,(kd2 fun _ _ _ _ _ X0 _ X1=>cVSub X0 X1 (by omega) (by omega)),ks,ks,(kd2 fun _ _ _ _ _ X0 _ X1=>cVSub X0 X1 (by omega) (by omega)),(kd2 fun _ _ _ _ _ X0 _ X1=>cCross X0 X1 (by omega) (by omega)),(kd1 fun _ _ _ _ _ X0=>cQSign X0 (by omega)),ks,trivial⟩ ?_
 intro a2 w2 st2
 clear st1
 repeat first|apply Wq|apply Wb|apply Wk|apply Wx
 exact wp_ret (rS 6 (Vi (cmpI (((c) - (a))*((f) - (b))+ -((d) - (b))*((e) - (a))).num 0)) st2 fun vr r4=>r4)
section
variable {BT:List (TypeId×Nat×Nat)}
theorem arr8 {x:Array Value}(h:x.size=8):∃a b c d e f g h,x=#[a,b,c,d,e,f,g,h]:=by
 match x,h with
 |⟨[a,b,c,d,e,f,g,h]⟩,_=>exact⟨a,b,c,d,e,f,g,h,rfl⟩
end



structure MinI (l m:List Int)(k:Nat)(b:Int)(z:List Int):Prop where
 len:z.length=k
 dg:Dg z
 sum:val z - pw k*b=val (l.take k) - val (m.take k)
 lo:0<=b
 hi:b<=1
theorem MinI.start (l m:List Int):MinI l m 0 0 []:=⟨rfl,Dg_nil,by simp [val],by omega,by omega⟩
theorem MinI.keep {l m z:List Int}{k:Nat}{b:Int}(h:MinI l m k b z)(hl:Dg l)(hm:Dg m)(hv:0<=iat l k - iat m k - b):MinI l m (k+1) 0 (z++ [iat l k - iat m k - b]):=by
 have h1:=hl.all k
 have h2:=hm.all k
 have h3:=h.lo
 have hs:=h.sum
 have hlen:=h.len
 refine⟨by rw [List.length_append,hlen];rfl,Dg_append h.dg (Dg_cons (by omega) (by omega) Dg_nil),?_,by omega,by omega⟩
 rw [val_append,hlen,val_take',val_take']
 show val z+pw k*((iat l k - iat m k - b)+1000000000*0) - 1000000000*pw k*0=_
 grind
theorem MinI.take_ {l m z:List Int}{k:Nat}{b:Int}(h:MinI l m k b z)(hl:Dg l)(hm:Dg m)(hv:iat l k - iat m k - b<0):MinI l m (k+1) 1 (z++ [iat l k - iat m k - b+1000000000]):=by
 have h1:=hl.all k
 have h2:=hm.all k
 have h3:=h.hi
 have hs:=h.sum
 have hlen:=h.len
 refine⟨by rw [List.length_append,hlen];rfl,Dg_append h.dg (Dg_cons (by omega) (by omega) Dg_nil),?_,by omega,by omega⟩
 rw [val_append,hlen,val_take',val_take']
 show val z+pw k*((iat l k - iat m k - b+1000000000)+1000000000*0) - 1000000000*pw k*1=_
 grind
theorem MinI.done {l m z:List Int}{b:Int}(h:MinI l m l.length b z)(hml:m.length<=l.length)(hle:val m<=val l):DifP l m z:=by
 have hs:=h.sum
 rw [List.take_length,List.take_of_length_le hml] at hs
 have h1:=h.dg.hi
 rw [h.len] at h1
 have h2:=h.lo
 have h3:=h.hi
 have hb:b=0:=by
  rcases Int.lt_or_le 0 b with h4|h4
  ·have:b=1:=by omega
   subst this
   omega
  ·omega
 subst hb
 exact⟨h.dg,by simpa using hs,h.len⟩
def MinL (w:World)(l m:List Int)(k:Nat)(b:Int)(v:Value)(wr:World):Prop:=∃z,MinI l m k b z/\GrowI w v z wr
theorem minus_any (a1 a2:Option Addr)(n1 c1 n2 c2:Nat)(l m:List Int)(w:World)(hR1:Rdi w a1 l)(hR2:Rdi w a2 m)(hn1:n1=l.length)(hn2:n2=m.length)(hd1:Dg l)(hd2:Dg m)(hm1:n1<=1099511627775)(hle:n2<=n1)(x0:val m<=val l):
 Calls Tryz.prog 148 #[.slice a1 n1 c1,.slice a2 n2 c2] w (NewS w (DifP l m)):=by
 obtain⟨i0,hi,hz0,hz1,hz2⟩:=info_parts info_i64
 have H1:=Lib.hid hR1
 have H2:=Lib.hid hR2
 have N1:=Lib.hid hn1
 have N2:=Lib.hid hn2
 have D1:=Lib.hid hd1
 have D2:=Lib.hid hd2
 have hv:=Lib.hid x0
 have hI:Hid (MinL w l m 0 0 (.slice none 0 0) w):=Lib.hid ⟨[],MinI.start l m,GrowI.start w⟩
 clear hR1 hR2 hn1 hn2 hd1 hd2 x0
 go_enter Tryz.func148,Tryz.ntmps148
 go_wp2_with fail
 go_loopw [5,6,7] (fun v bv iv wr=>∃(k:Nat) (b:Int),k<=n1/\iv= .int .i64 (k:Int)/\bv= .int .i64 b/\MinL w l m k b v wr) (fun _ _ iv _=>n1 - (intOf iv).toNat)
 case atStart=>exact⟨0,0,by omega,rfl,rfl,hI.out⟩
 case round=>
  obtain⟨k,b,hk,rfl,rfl,z,hP,hG⟩:=hrel
  clear hI
  have hzl:Hid (z.length=k):=Lib.hid hP.len
  by_cases hlt:k<n1
  ·have hB:=hG.2
   have gq:Hid (∀q,Calls Tryz.prog 159 #[.slice a2 n2 c2,.int .i64 (k:Int)] (wr.drewN q) fun e w'=>e= .returned (.int .i64 (iat m k))/\wr.drewN q=w'):=Lib.hid fun q=>digit_any _ _ _ _ _ (wr.drewN q) (Rdi_below (below_drewN hB q) H2.out) N2.out
   obtain⟨b1,o1,rfl,hc1⟩:=Rdi_at H1.out k (by rw [<-N1.out];exact hlt)
   have cx:=Below.cell_of' hB hc1
   have hx:=D1.out.all k
   have hy:=D2.out.all k
   have hb0:=hP.lo
   have hb1:=hP.hi
   have hkeep:=Lib.hid (fun h=>hP.keep D1.out D2.out h)
   have htake:=Lib.hid (fun h=>hP.take_ D1.out D2.out h)
   obtain⟨x,hxx⟩:∃x,iat l k=x:=⟨_,rfl⟩
   obtain⟨y,hyy⟩:∃y,iat m k=y:=⟨_,rfl⟩
   rw [hxx] at cx hx hkeep htake
   rw [hyy] at gq hy hkeep htake
   obtain⟨hx1,hx2⟩:=hx
   obtain⟨hy1,hy2⟩:=hy
   have hG':=Lib.hid hG
   have hsz:=hB.size
   have k0:0<=(k:Int):=by omega
   have k1:(k:Int)<(n1:Int):=by omega
   have k2:((k:Int)).toNat=k:=by omega
   have s0: -1000000000<x - y:=by omega
   have s1:x - y<1000000000:=by omega
   have s2: -1000000001<x - y - b:=by omega
   have s3:x - y - b<1000000000:=by omega
   clear hP hG hB hxx hyy hc1
   by_cases hneg:x - y - b<0
   ·have hst:=Lib.hid (htake.out hneg)
    have s4:0<=x - y - b+1000000000:=by omega
    clear hkeep htake
    go_wp2_with fail
    go_quiet ((go_at_call 159;exact q_left (gq.out _)))
    have hGq:=Lib.hid (hG'.out.drewN nq)
    have hsq:w.heap.size<=(wr.drewN nq).heap.size:=hsz
    generalize wr.drewN nq=wq at hGq hsq ⊢
    clear cx hG'
    go_wp2_with (at_builtin;refine wpList_append_own _ rfl _ _ 22 rfl w.heap.size 3 i0 (.int .i64 0) 1 8 Tryz.underlying22 hi hz0 hz1 hz2 rfl (by decide) _ _ _ rfl (hGq.out.1.alloc _) ⟨wq.heap.size,0,none⟩ 1 1 [.int .i64 (x - y - b+1000000000)] rfl rfl (cell_one_new _ _ _) (by intro u hu;simp at hu;subst hu;rfl) (by rw [hzl.out];unfold maxLen;omega) (by rw [hzl.out];omega) (by simp;omega) ?_;intro v2 w2 ho2 hg2 _;have hG2:=Lib.hid (hGq.out.push ho2 hg2);clear ho2 hg2)
    exact⟨⟨k+1,_,by omega,by simp,rfl,_,hst.out,hG2.out⟩,by simp only [intOf];omega⟩
   ·have hst:=Lib.hid (hkeep.out (by omega))
    clear hkeep htake
    go_wp2_with fail
    go_quiet ((go_at_call 159;exact q_left (gq.out _)))
    have hGq:=Lib.hid (hG'.out.drewN nq)
    have hsq:w.heap.size<=(wr.drewN nq).heap.size:=hsz
    generalize wr.drewN nq=wq at hGq hsq ⊢
    clear cx hG'
    go_wp2_with (at_builtin;refine wpList_append_own _ rfl _ _ 22 rfl w.heap.size 3 i0 (.int .i64 0) 1 8 Tryz.underlying22 hi hz0 hz1 hz2 rfl (by decide) _ _ _ rfl (hGq.out.1.alloc _) ⟨wq.heap.size,0,none⟩ 1 1 [.int .i64 (x - y - b)] rfl rfl (cell_one_new _ _ _) (by intro u hu;simp at hu;subst hu;rfl) (by rw [hzl.out];unfold maxLen;omega) (by rw [hzl.out];omega) (by simp;omega) ?_;intro v2 w2 ho2 hg2 _;have hG2:=Lib.hid (hGq.out.push ho2 hg2);clear ho2 hg2)
    exact⟨⟨k+1,_,by omega,by simp,rfl,_,hst.out,hG2.out⟩,by simp only [intOf];omega⟩
  ·have hk':k=n1:=by omega
   subst hk'
   have hf:=Lib.hid (hG.done (MinI.done (by rw [<-N1.out];exact hP) (by rw [<-N1.out,<-N2.out];exact hle) hv.out))
   clear hP hG
   go_wp2_with fail
   go_ret
   exact hf.out
theorem Ar2.other {w W:World}{nx:Bool}{px:Option Addr}{lx cx:Nat}{ny:Bool}{py:Option Addr}{ly cy:Nat}(h:Ar2 w nx px lx cx ny py ly cy W){g i:Nat}{v:Value}(hg:w.heap.size+1+1<g):Ar2 w nx px lx cx ny py ly cy (W.setCell ⟨g,i,none⟩ v):=by
 obtain⟨h1,h2,⟨u,v,h3⟩,h4⟩:=h
 refine⟨?_,?_,⟨u,v,?_⟩,h4.setCell (by simp;omega) _⟩
 ·rw [heap_setCell_other _ _ _ _ (by simp;omega)];exact h1
 ·rw [heap_setCell_other _ _ _ _ (by simp;omega)];exact h2
 ·rw [heap_setCell_other _ _ _ _ (by simp;omega)];exact h3
def RMulL (w:World)(nx:Bool)(px:Option Addr)(lx cx:Nat)(ny:Bool)(py:Option Addr)(ly cy:Nat)(g:Nat)(l m:List Int)(i:Nat)(wr:World):Prop:=∃z,MulA l m i z/\Blk wr g z/\Ar2 w nx px lx cx ny py ly cy wr
def RMulM (w:World)(nx:Bool)(px:Option Addr)(lx cx:Nat)(ny:Bool)(py:Option Addr)(ly cy:Nat)(g:Nat)(l m:List Int)(i j:Nat)(over:Int)(wr:World):Prop:=∃z,MulB l m i j over z/\Blk wr g z/\Ar2 w nx px lx cx ny py ly cy wr
theorem rMul_any (nx ny:Bool)(px py:Option Addr)(lx cx ly cy:Nat)(x y:Int)(w:World)(hx0:IntZ w nx px lx cx x)(hy0:IntZ w ny py ly cy y)(hlx:lx<=549755813887)(hly:ly<=549755813887):
 Calls Tryz.prog 114 #[.agg #[.bool nx,.slice px lx cx],.agg #[.bool ny,.slice py ly cy]] w (RetI w (x*y)):=by
 have H1:=Lib.hid hx0.2.2.1
 have H2:=Lib.hid hy0.2.2.1
 have N1:=Lib.hid hx0.2.1
 have N2:=Lib.hid hy0.2.1
 have D1:=Lib.hid (Dg_digs x.natAbs)
 have D2:=Lib.hid (Dg_digs y.natAbs)
 have hsg:Hid (sg (nx !=ny) (val (digs x.natAbs)*val (digs y.natAbs))=x*y):=Lib.hid (by
  rw [val_digs,val_digs]
  have h1:=wk_neg hx0.1
  have h2:=wk_neg hy0.1
  by_cases hxz:x=0
  ·subst hxz;cases nx<;>cases ny<;>simp [sg]
  ·by_cases hyz:y=0
   ·subst hyz;cases nx<;>cases ny<;>simp [sg]
   ·rw [hx0.1 hxz,hy0.1 hyz];exact mul_sg x y)
 have hS0:=Lib.hid (@Ar2.start nx px lx cx ny py ly cy w)
 have hf:=Lib.hid (fun W (h:Ar2 w nx px lx cx ny py ly cy W)=>h.facts)
 generalize digs x.natAbs=l at H1 N1 D1 hsg
 generalize digs y.natAbs=m at H2 N2 D2 hsg
 clear hx0 hy0
 have hmk:=run_make_row' (P:=Tryz.prog) 22 3 (.int .i64 0) 8 Tryz.underlying22 info_i64 rfl .i64 .i64 (lx+ly) (by omega) (by omega)
 rw [zvs_zeros,show((lx+ly:Nat):Int)=(lx:Int)+(ly:Int) by omega] at hmk
 obtain⟨Z,hZ⟩:∃Z,zvs (List.replicate (lx+ly) 0)=Z:=⟨_,rfl⟩
 rw [hZ] at hmk
 have hZ':=Lib.hid hZ
 clear hZ
 go_enter Tryz.func114,Tryz.ntmps114
 go_upto_region 1 with fail
 generalize((w.alloc (.cells #[.bool nx,.slice px lx cx] 31)).alloc (.cells #[.bool ny,.slice py ly cy] 31)).alloc (.cells #[.bool false,.slice none 0 0] 31)=W0 at hS0 ⊢
 have hS1:=hS0.out
 have hf1:=hf.out _ hS1
 have hI:Hid (RMulL w nx px lx cx ny py ly cy W0.heap.size l m 0 (W0.alloc (.cells Z.toArray 3))):=Lib.hid ⟨_,MulA.start l m,by rw [<-N1.out,<-N2.out];have:=hZ'.out;rw [<-this];exact Blk_new _ _,hS1.later (below_new _ _)⟩
 have hgt:Hid (w.heap.size+1+1<W0.heap.size):=Lib.hid hS1.top
 clear hS0
 go_wp2_with fail
 generalize W0.alloc (.cells Z.toArray 3)=w1 at hI ⊢
 generalize W0.heap.size=g at hI hgt ⊢
 clear hmk hS1 hf1
 go_loopw [6] (fun iv wr=>∃k:Nat,k<=lx/\iv= .int .i64 (k:Int)/\RMulL w nx px lx cx ny py ly cy g l m k wr) (fun iv _=>lx - (intOf iv).toNat)
 case atStart=>exact⟨0,Nat.zero_le _,rfl,hI.out⟩
 case round=>
  obtain⟨i,hi,rfl,hL⟩:=hrel
  clear hI
  have hf2:_:=hf.out _ hL.choose_spec.2.2
  by_cases hlt:i<lx
  ·have hM:Hid (RMulM w nx px lx cx ny py ly cy g l m i 0 0 wr):=Lib.hid (by
    obtain⟨z,hA,hz,hB⟩:=hL
    exact⟨z,hA.row,hz,hB⟩)
   have i0:0<=(i:Int):=by omega
   have i1:(i:Int)<(lx:Int):=by omega
   clear hL
   go_wp2_with fail
   obtain⟨wo,rfl⟩:∃wo:World,wo=wr:=⟨_,rfl⟩
   clear hf2
   have hlt':=Lib.hid hlt
   clear hlt
   go_loopw [7,8] (fun ov jv wr=>∃(j:Nat) (over:Int),j<=ly/\jv= .int .i64 (j:Int)/\ov= .int .i64 over/\RMulM w nx px lx cx ny py ly cy g l m i j over wr) (fun _ jv _=>ly - (intOf jv).toNat)
   case atStart=>exact⟨0,0,Nat.zero_le _,rfl,rfl,hM.out⟩
   case round=>
    obtain⟨j,over,hj,rfl,rfl,z,hB,hz,hA2⟩:=hrel
    clear hM
    have hf3:=hf.out _ hA2
    have hil:i<l.length:=by rw [<-N1.out];exact hlt'.out
    by_cases hlt:j<ly
    ·obtain⟨b1,o1,hpx,hcx0⟩:=Rdi_at H1.out i hil
     obtain⟨b2,o2,hpy,hcy0⟩:=Rdi_at H2.out j (by rw [<-N2.out];exact hlt)
     have kx:=Below.cell_of' hA2.2.2.2 hcx0
     have ky:=Below.cell_of' hA2.2.2.2 hcy0
     have hkz:i+j<z.length:=by rw [hB.len,<-N1.out,<-N2.out];omega
     have cz:=hz.cell hkz
     have cf:=hz.free (i+j)
     have hx1:=D1.out.all i
     have hnx:=hB.next hil (by rw [<-N2.out];exact hlt) hx1.1 hx1.2 D2.out
     have hst:Hid (∀q,RMulM w nx px lx cx ny py ly cy g l m i (j+1) ((iat l i*iat m j+iat z (i+j)+over) / 1000000000) ((wr.drewN q).setCell ⟨g,i+j,none⟩ (.int .i64 ((iat l i*iat m j+iat z (i+j)+over) % 1000000000)))):=Lib.hid fun q=>⟨_,hnx,Blk.set (hz.drewN q) _ _,(hA2.later (below_drewN (Below.refl _ _) q)).other hgt.out⟩
     have hy1:=D2.out.all j
     have hz1:=hB.dg.all (i+j)
     have ho1:=hB.lo
     have ho2:=hB.hi
     have hmd:=mul_digit hx1.1 hx1.2 hy1.1 hy1.2 hz1.1 hz1.2 ho1 ho2
     obtain⟨x',hxx⟩:∃x,iat l i=x:=⟨_,rfl⟩
     obtain⟨y',hyy⟩:∃y,iat m j=y:=⟨_,rfl⟩
     obtain⟨v,hvv⟩:∃v,iat z (i+j)=v:=⟨_,rfl⟩
     rw [hxx] at kx hst hmd
     rw [hyy] at ky hst hmd
     rw [hvv] at cz hst hz1 hmd
     rw [Int.add_comm (x'*y') v] at hst hmd
     obtain⟨q1,q2,q3,q4⟩:=hmd
     obtain⟨hz3,hz4⟩:=hz1
     have j0:0<=(j:Int):=by omega
     have j1:(j:Int)<(ly:Int):=by omega
     have j2:(i:Int)+(j:Int)<(lx:Int)+(ly:Int):=by omega
     have j3:0<=(i:Int)+(j:Int):=by omega
     have j4:((i:Int)+(j:Int)).toNat=i+j:=by omega
     have j5:((i:Int)).toNat=i:=by omega
     have j6:((j:Int)).toNat=j:=by omega
     have v1:0<=v+x'*y':=by omega
     have v2:v+x'*y'<2000000000000000000:=by omega
     have u1:IntKind.i64.wrap ((i:Int)+(j:Int))=(i:Int)+(j:Int):=IntWalk.i64_in _ (by omega)
     have u2:IntKind.i64.wrap (x'*y')=x'*y':=IntWalk.i64_in _ (by omega)
     have u3:IntKind.i64.wrap (v+x'*y')=v+x'*y':=IntWalk.i64_in _ (by omega)
     have u4:IntKind.i64.wrap (v+x'*y'+over)=v+x'*y'+over:=IntWalk.i64_in _ (by omega)
     have hfin2:Hid (ly - (j+1)<ly - j):=Lib.hid (by omega)
     subst hpx hpy
     clear hB hz hA2 hcx0 hcy0 hkz hil hnx hxx hyy hvv hx1 hy1 hlt
     go_wp2_with fail
     go_quiet (fail)
     have czq:(wr.drewN nq).cell? ⟨g,i+j,none⟩=some (.int .i64 v):=cz
     have cfq:(wr.drewN nq).frozen? ⟨g,i+j,none⟩=false:=cf
     have hstq:=Lib.hid (hst.out nq)
     generalize wr.drewN nq=wq at czq cfq hstq ⊢
     clear cz cf kx ky hf3 u2 u3 u4
     go_wp2_with fail
     exact⟨⟨j+1,_,by omega,by simp,rfl,hstq.out⟩,by simp [intOf];exact hfin2.out⟩
    ·obtain rfl:ly=j:=by omega
     have hkz:i+ly<z.length:=by rw [hB.len,<-N1.out,<-N2.out];have:=hlt'.out;omega
     have cz:=hz.cell hkz
     have cf:=hz.free (i+ly)
     rw [N2.out] at hB
     have hdn:=hB.done hil
     rw [<-N2.out] at hdn
     have hst:Hid (RMulL w nx px lx cx ny py ly cy g l m (i+1) (wr.setCell ⟨g,i+ly,none⟩ (.int .i64 over))):=Lib.hid ⟨_,hdn,hz.set _ _,hA2.other hgt.out⟩
     have hii:=hlt'.out
     have hii2:Hid (lx - (i+1)<lx - i):=Lib.hid (by omega)
     have j0:0<=(ly:Int):=by omega
     generalize iat z (i+ly)=v at cz
     clear hB hz hA2 hil hkz hdn hlt
     go_wp2_with fail
     exact⟨⟨i+1,by omega,by simp,hst.out⟩,by simp [intOf];exact hii2.out⟩
  ·have hk':i=lx:=by omega
   subst hk'
   obtain⟨z,hA,hz,hB⟩:=hL
   have hno:Hid (Calls Tryz.prog 140 #[.bool (!nx==ny),.slice (some ⟨g,0,none⟩) (i+ly) (i+ly)] wr (RetF (fun q=>some (⟨g,0,none⟩:Addr)=some q) wr (sg (!nx==ny) (val z)))):=Lib.hid (normal_any _ _ _ _ z wr hz.rdi (by rw [hA.len,N1.out,N2.out]) (Nat.le_refl _) (by omega) hA.dg)
   have hsg2:Hid (sg (!nx==ny) (val z)=x*y):=Lib.hid (by rw [hA.sum,N1.out,List.take_length,<-hsg.out];cases nx<;>cases ny<;>rfl)
   have hB':=hB
   clear hz hA hB hsg
   go_wp2_with fail
   refine hno.out.mono ?_
   rintro e w2 ⟨nb,p,n2,c2,rfl,hI0,hb2,hp0⟩
   have hS2:=hB'.later hb2
   have hf4:=hf.out _ hS2
   have hfin:=Lib.hid (hS2.ret hI0 (fun q hq=>by
    have:=hp0 q hq
    cases this
    exact hgt.out) hsg2.out)
   clear hI0 hb2 hp0
   go_wp2_with fail
   exact bodyPost_ret (v:= .agg #[.bool nb,.slice p n2 c2]) (results_cell_row rfl _ _ (w.heap.size+1+1) 31 _ (0,0) _ rfl (hS2.res _ _) Tryz.underlying31 rfl size_Int) rfl hfin.out
theorem compared_any (a1 a2:Option Addr)(n1 c1 n2 c2:Nat)(x y:Nat)(w:World)(hR1:Rdi w a1 (digs x))(hR2:Rdi w a2 (digs y))(hn1:n1=(digs x).length)(hn2:n2=(digs y).length)(hm1:n1<=9223372036854775807)(hm2:n2<=9223372036854775807):
 Calls Tryz.prog 147 #[.slice a1 n1 c1,.slice a2 n2 c2] w fun e w'=>e= .returned (.int .i64 (cmpI x y))/\Below w.heap.size w w':=by
 have H1:=Lib.hid hR1
 have H2:=Lib.hid hR2
 have N1:=Lib.hid hn1
 have N2:=Lib.hid hn2
 clear hR1 hR2 hn1 hn2
 rcases Nat.lt_trichotomy n1 n2 with hlt|heq|hgt
 ·have t1:(n1:Int)<(n2:Int):=by omega
  have hr:Hid (cmpI x y= -1):=Lib.hid (by rw [<-cmp_len (by rw [<-N1.out,<-N2.out];omega),<-N1.out,<-N2.out];exact cmp_lt t1)
  go_enter Tryz.func147,Tryz.ntmps147
  go_wp2_with fail
  go_ret
  exact⟨by rw [hr.out];rfl,Below.refl _ _⟩
 ·subst heq
  have t1:¬(n1:Int)<(n1:Int):=by omega
  have HL:Hid ((digs x).length=(digs y).length):=Lib.hid (by rw [<-N1.out,<-N2.out])
  go_enter Tryz.func147,Tryz.ntmps147
  go_wp2_with fail
  go_loopw [5] (fun i wr=>∃k:Nat,k<=n1/\i= .int .i64 ((k:Int) - 1)/\Hid ((digs x).drop k=(digs y).drop k)/\Below w.heap.size w wr) (fun i _=>(intOf i+1).toNat)
  case atStart=>exact⟨n1,Nat.le_refl _,rfl,Lib.hid (by rw [List.drop_of_length_le (by rw [<-N1.out];exact Nat.le_refl _),List.drop_of_length_le (by rw [<-N2.out];exact Nat.le_refl _)]),Below.refl _ _⟩
  case round=>
   obtain⟨k,hk,rfl,D,hB⟩:=hrel
   by_cases h0:k=0
   ·subst h0
    have hr:Hid (cmpI x y=0):=Lib.hid (by
     have:=D.out
     rw [List.drop_zero,List.drop_zero] at this
     rw [digs_inj this];exact cmp_eq _)
    have hB':=Lib.hid hB
    clear hB
    rw [show((0:Nat):Int) - 1= -1 from rfl]
    go_wp2_with fail
    go_ret
    exact⟨by rw [hr.out];rfl,hB'.out⟩
   ·obtain⟨j,rfl⟩:∃j,k=j+1:=⟨k - 1,by omega⟩
    obtain⟨b1,o1,rfl,hc1⟩:=Rdi_at H1.out j (by rw [<-N1.out];omega)
    obtain⟨b2,o2,rfl,hc2⟩:=Rdi_at H2.out j (by rw [<-N2.out];omega)
    have C1:=Below.cell_of' hB hc1
    have C2:=Below.cell_of' hB hc2
    have hB':=Lib.hid hB
    obtain⟨X,hX⟩:∃X,iat (digs x) j=X:=⟨_,rfl⟩
    obtain⟨Y,hY⟩:∃Y,iat (digs y) j=Y:=⟨_,rfl⟩
    rw [hX] at C1
    rw [hY] at C2
    have hX':=Lib.hid hX
    have hY':=Lib.hid hY
    have hj1:j<(digs x).length:=by rw [<-N1.out];omega
    have e3:(j:Int)<(n1:Int):=by omega
    have e4:0<=(j:Int):=by omega
    have e5:((j:Int)).toNat=j:=by omega
    clear hB hc1 hc2 hX hY h0
    rw [show((j+1:Nat):Int) - 1=(j:Int) by omega]
    rcases Int.lt_trichotomy X Y with hXY|hXY|hXY
    ·have hn:X<Y:=hXY
     have hr:Hid (cmpI x y= -1):=Lib.hid (by rw [<-cmp_top HL.out j hj1 D.out (by rw [hX'.out,hY'.out];omega),hX'.out,hY'.out];exact cmp_lt hXY)
     clear hXY
     go_wp2_with fail
     go_quiet (fail)
     go_wp2_with fail
     go_ret
     exact⟨by rw [hr.out];rfl,below_drewN hB'.out _⟩
    ·subst hXY
     have hn:¬X<X:=by omega
     have hs:Hid ((digs x).drop j=(digs y).drop j):=Lib.hid (drop_same HL.out j hj1 D.out (by rw [hX'.out,hY'.out]))
     go_wp2_with fail
     go_quiet (fail)
     go_wp2_with fail
     have hBq:=Lib.hid (below_drewN hB'.out nq)
     have C1q:(wr.drewN nq).cell? ⟨b1,o1+j,none⟩=some (.int .i64 X):=C1
     have C2q:(wr.drewN nq).cell? ⟨b2,o2+j,none⟩=some (.int .i64 X):=C2
     generalize wr.drewN nq=wq at hBq C1q C2q ⊢
     clear C1 C2
     go_quiet (fail)
     go_wp2_with fail
     exact⟨⟨j,by omega,by simp,hs,below_drewN hBq.out _⟩,by simp [intOf]⟩
    ·have hn:¬X<Y:=by omega
     have hn2:Y<X:=hXY
     have hr:Hid (cmpI x y=1):=Lib.hid (by rw [<-cmp_top HL.out j hj1 D.out (by rw [hX'.out,hY'.out];omega),hX'.out,hY'.out];exact cmp_gt hXY)
     clear hXY
     go_wp2_with fail
     go_quiet (fail)
     go_wp2_with fail
     have hBq:=Lib.hid (below_drewN hB'.out nq)
     have C1q:(wr.drewN nq).cell? ⟨b1,o1+j,none⟩=some (.int .i64 X):=C1
     have C2q:(wr.drewN nq).cell? ⟨b2,o2+j,none⟩=some (.int .i64 Y):=C2
     generalize wr.drewN nq=wq at hBq C1q C2q ⊢
     clear C1 C2
     go_quiet (fail)
     go_wp2_with fail
     go_ret
     exact⟨by rw [hr.out];rfl,below_drewN hBq.out _⟩
 ·have t1:¬(n1:Int)<(n2:Int):=by omega
  have t2:(n2:Int)<(n1:Int):=by omega
  have hr:Hid (cmpI x y=1):=Lib.hid (by rw [<-cmp_len (by rw [<-N1.out,<-N2.out];omega),<-N1.out,<-N2.out];exact cmp_gt t2)
  go_enter Tryz.func147,Tryz.ntmps147
  go_wp2_with fail
  go_ret
  exact⟨by rw [hr.out];rfl,Below.refl _ _⟩
end Go.Proofs.YtjdkdjobaabdiaaGreat
