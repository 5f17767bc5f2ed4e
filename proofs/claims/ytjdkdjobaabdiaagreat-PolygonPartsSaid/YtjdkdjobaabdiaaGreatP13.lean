/- Contracts of the packages integer, rat, plane, polygon and their references. -/
import Derived.Test.YtjdkdjobaabdiaaGreatP12
set_option linter.unusedVariables false
set_option maxRecDepth 100000
set_option maxHeartbeats 6400000
namespace Go.Proofs.YtjdkdjobaabdiaaGreat
open Go.RowKit
theorem cDen {w:World}{N:Nat}{q:Rat}{v0:Value}(h0:Vq N (q) v0 w)(hN:1<=N):Calls Tryz.prog 92 #[v0] w (RV (Vz N (q.den:Int)) w):=by
 go_enter Tryz.func92,Tryz.ntmps92
 generalize hA:(⟨_,_⟩:Act)=a0
 have st0:St w.heap.size w 11 [] [(0,Vq N (q))] a0 w:=by subst hA;exact St.begin rfl rfl (Lq.2 ⟨⟨_,rfl,h0⟩,(fun _ h=>absurd h (by simp))⟩)
 clear hA
 repeat first|apply Wq|apply Wb|apply Wk|apply Wx
 refine rH [(31,2,0)] [VT,VT] [⟨1,some 0,some 0,33,4,Vq N (q),VT⟩,⟨2,some 1,none,31,2,VT,VT⟩] [] st0 ⟨ks,ks,trivial⟩ ?_
 intro a1 w1 st1
 clear st0
 repeat first|apply Wq|apply Wb|apply Wk|apply Wx
 refine rH [(31,2,0)] [Vpt a1 1 2,Vpt a1 1 3,VD N (qd (q)),Vi (((digs (qd (q)).natAbs).length:Int)),Vb (decide (q.den=1))] [⟨1,none,none,33,4,Vq N (q),VT⟩,⟨2,none,none,31,2,VT,VT⟩] [(7,Vb (decide (q.den=1)))] st1 ⟨ks,ks,ks,(by refine kr fun _ A Y h D=>?_;obtain⟨v0,x0,X0⟩:=h.dp D 5;obtain⟨pp,nn,cc,rfl,hnn,-⟩:=X0;exact⟨_,run_len rfl rfl x0,by rw [hnn];rfl⟩),(by refine kr fun _ A Y h D=>?_;obtain⟨v0,x0,X0⟩:=h.dp D 6;have hV0':v0= .int .i64 (((digs (qd (q)).natAbs).length:Int)):=X0;exact⟨_,run_eqi rfl (x0.trans hV0') rfl,congrArg Value.bool (by rw [len_eq0];exact decide_eq_decide.2 (qd0 q))⟩),trivial⟩ ?_
 intro a2 w2 st2
 clear st1
 repeat first|apply Wq|apply Wb|apply Wk|apply Wx
 obtain⟨vc,hc1,hc2⟩:=st2.slot (7,Vb (decide (q.den=1))) (.head _)
 by_cases hcc:q.den=1
 ·refine wp_cond_true (hc1.trans (hc2.trans (congrArg Value.bool (dT hcc)))) ?_
  clear hc1 hc2
  repeat first|apply Wq|apply Wb|apply Wk|apply Wx
  refine rH [(31,2,0)] [Vz 1 (1),VT] [⟨1,none,none,33,4,Vq N (q),VT⟩,⟨2,none,some 1,31,2,Vz 1 (1),VT⟩] [(7,Vb (decide (q.den=1)))] st2 ⟨(by refine kc fun _ A Y h D=>?_;exact⟨#[.int .i64 (1)],by simp [eval_const],cOf1⟩),ks,trivial⟩ ?_
  intro a3 w3 st3
  clear st2
  repeat first|apply Wq|apply Wb|apply Wk|apply Wx
  exact wp_ret (rC 2 31 (Vz 1 (1)) st3 fun cs r4=>(by rw [show(q.den:Int)=1 by omega];exact Vz_le r4 hN))
 ·refine wp_cond_false (hc1.trans (hc2.trans (congrArg Value.bool (dF hcc)))) ?_
  clear hc1 hc2
  repeat first|apply Wq|apply Wb|apply Wk|apply Wx
  refine rH [(31,2,0)] [Vpt a2 1 2,Vz N (qd (q)),VT] [⟨1,none,none,33,4,Vq N (q),VT⟩,⟨2,none,some 2,31,2,Vz N (qd (q)),VT⟩] [(7,Vb (decide (q.den=1)))] st2 ⟨ks,ks,ks,trivial⟩ ?_
  intro a3 w3 st3
  clear st2
  repeat first|apply Wq|apply Wb|apply Wk|apply Wx
  exact wp_ret (rC 2 31 (Vz N (qd (q))) st3 fun cs r4=>(by rw [show(q.den:Int)=qd q from(if_neg hcc).symm];exact r4))
theorem cQNeg {w:World}{N:Nat}{q:Rat}{v0:Value}(h0:Vq N (q) v0 w)(hN:N<=1000000):Calls Tryz.prog 46 #[v0] w (RV (Vq N (-q)) w):=by
 go_enter Tryz.func46,Tryz.ntmps46
 generalize hA:(⟨_,_⟩:Act)=a0
 have st0:St w.heap.size w 9 [] [(0,Vq N (q))] a0 w:=by subst hA;exact St.begin rfl rfl (Lq.2 ⟨⟨_,rfl,h0⟩,(fun _ h=>absurd h (by simp))⟩)
 clear hA
 repeat first|apply Wq|apply Wb|apply Wk|apply Wx
 refine rH [(33,4,0)] [VT,VT] [⟨1,some 0,some 0,33,4,Vq N (q),VT⟩,⟨2,some 1,none,33,4,VT,VT⟩] [] st0 ⟨ks,ks,trivial⟩ ?_
 intro a1 w1 st1
 clear st0
 repeat first|apply Wq|apply Wb|apply Wk|apply Wx
 refine rH [(33,4,0)] [Vpt a1 1 0,Vz N ((q).num),Vz N (-((q).num)),Vpt a1 1 2,Vz N (qd (q)),VP2 2 2 (Vz N (-((q).num))) (Vz N (qd (q))),VT] [⟨1,none,none,33,4,Vq N (q),VT⟩,⟨2,none,some 6,33,4,VP2 2 2 (Vz N (-((q).num))) (Vz N (qd (q))),VT⟩] [] st1 ⟨ks,ks,(kd1 fun _ _ _ _ _ X0=>cNeg X0 (by omega)),ks,ks,(kr2 5 7 fun _ _ _ _ _ x0 X0 _ x1 X1=>build_Rat rfl x0 x1 (AggV_Vz _ _) (AggV_Vz _ _) X0 X1),ks,trivial⟩ ?_
 intro a2 w2 st2
 clear st1
 repeat first|apply Wq|apply Wb|apply Wk|apply Wx
 exact wp_ret (rC 2 33 (VP2 2 2 (Vz N (-((q).num))) (Vz N (qd (q)))) st2 fun cs r4=>(show Vq N (-q) _ _ from r4))
theorem cQSign {w:World}{N:Nat}{q:Rat}{v0:Value}(h0:Vq N (q) v0 w)(hN:N<=1000000):Calls Tryz.prog 40 #[v0] w (RV (Vi (cmpI q.num 0)) w):=by
 go_enter Tryz.func40,Tryz.ntmps40
 generalize hA:(⟨_,_⟩:Act)=a0
 have st0:St w.heap.size w 6 [] [(0,Vq N (q))] a0 w:=by subst hA;exact St.begin rfl rfl (Lq.2 ⟨⟨_,rfl,h0⟩,(fun _ h=>absurd h (by simp))⟩)
 clear hA
 repeat first|apply Wq|apply Wb|apply Wk|apply Wx
 refine rH [] [VT,Vi (0)] [⟨1,some 0,some 0,33,4,Vq N (q),VT⟩] [(2,Vi (0))] st0 ⟨ks,ks,trivial⟩ ?_
 intro a1 w1 st1
 clear st0
 repeat first|apply Wq|apply Wb|apply Wk|apply Wx
 refine rH [] [Vpt a1 1 0,Vz N ((q).num),Vi (cmpI ((q).num) 0),Vi (cmpI ((q).num) 0)] [⟨1,none,none,33,4,Vq N (q),VT⟩] [(2,Vi (cmpI ((q).num) 0))] st1 ⟨ks,ks,(kd1 fun _ _ _ _ _ X0=>cSign X0 (by omega)),ks,trivial⟩ ?_
 intro a2 w2 st2
 clear st1
 repeat first|apply Wq|apply Wb|apply Wk|apply Wx
 exact wp_ret (rS 2 (Vi (cmpI ((q).num) 0)) st2 fun vr r4=>r4)
theorem cQInv {w:World}{N:Nat}{q:Rat}{v0:Value}(h0:Vq N (q) v0 w)(hN1:1<=N)(hN:N<=1000000)(hq:0<q.num):Calls Tryz.prog 111 #[v0] w (RV (Vq N q⁻¹) w):=by
 go_enter Tryz.func111,Tryz.ntmps111
 generalize hA:(⟨_,_⟩:Act)=a0
 have st0:St w.heap.size w 8 [] [(0,Vq N (q))] a0 w:=by subst hA;exact St.begin rfl rfl (Lq.2 ⟨⟨_,rfl,h0⟩,(fun _ h=>absurd h (by simp))⟩)
 clear hA
 repeat first|apply Wq|apply Wb|apply Wk|apply Wx
 refine rH [(33,4,0)] [VT,VT] [⟨1,some 0,some 0,33,4,Vq N (q),VT⟩,⟨2,some 1,none,33,4,VT,VT⟩] [] st0 ⟨ks,ks,trivial⟩ ?_
 intro a1 w1 st1
 clear st0
 repeat first|apply Wq|apply Wb|apply Wk|apply Wx
 refine rH [(33,4,0)] [Vq N (q),Vz N (((q).den:Int)),Vpt a1 1 0,Vz N ((q).num),Vq N (q⁻¹),VT] [⟨1,none,none,33,4,Vq N (q),VT⟩,⟨2,none,some 5,33,4,Vq N (q⁻¹),VT⟩] [] st1 ⟨ks,(kd1 fun _ _ _ _ _ X0=>cDen X0 (by omega)),ks,ks,(kd2 fun _ _ _ _ _ X0 _ X1=>cMade (r:=q⁻¹) (Vz_le (M:=N) X0 (by omega)) (Vz_le (M:=N) X1 (by omega)) (inv_low hq)),ks,trivial⟩ ?_
 intro a2 w2 st2
 clear st1
 repeat first|apply Wq|apply Wb|apply Wk|apply Wx
 exact wp_ret (rC 2 33 (Vq N (q⁻¹)) st2 fun cs r4=>r4)
theorem cQMul {w:World}{Na Nb:Nat}{a b:Rat}{v0 v1:Value}(h0:Vq Na (a) v0 w)(h1:Vq Nb (b) v1 w)(h1a:1<=Na)(h1b:1<=Nb)(hNa:Na<=100000)(hNb:Nb<=100000):Calls Tryz.prog 97 #[v0,v1] w (RV (Vq (Na+Nb) (a*b)) w):=by
 go_enter Tryz.func97,Tryz.ntmps97
 generalize hA:(⟨_,_⟩:Act)=a0
 have st0:St w.heap.size w 38 [] [(0,Vq Na (a)),(1,Vq Nb (b))] a0 w:=by subst hA;exact St.begin rfl rfl (Lq.2 ⟨⟨_,rfl,h0⟩,(Lq.2 ⟨⟨_,rfl,h1⟩,(fun _ h=>absurd h (by simp))⟩)⟩)
 clear hA
 repeat first|apply Wq|apply Wb|apply Wk|apply Wx
 refine rH [(31,2,0),(33,4,0)] [VT,VT,VT] [⟨2,some 0,some 0,33,4,Vq Na (a),VT⟩,⟨3,some 1,some 1,33,4,Vq Nb (b),VT⟩,⟨4,some 2,none,33,4,VT,VT⟩] [] st0 ⟨ks,ks,ks,trivial⟩ ?_
 intro a1 w1 st1
 clear st0
 repeat first|apply Wq|apply Wb|apply Wk|apply Wx
 refine rH [(31,2,0),(33,4,0)] [Vpt a1 2 0,Vz Na ((a).num),Vq Nb (b),Vz Nb (((b).den:Int)),Vz (max Na Nb) ((Int.gcd ((a).num) (((b).den:Int)):Int)),Vpt a1 3 0,Vz Nb ((b).num),Vq Na (a),Vz Na (((a).den:Int)),Vz (max Nb Na) ((Int.gcd ((b).num) (((a).den:Int)):Int)),VT,VT,VT,VT] [⟨2,none,none,33,4,Vq Na (a),VT⟩,⟨3,none,none,33,4,Vq Nb (b),VT⟩,⟨4,none,none,33,4,VT,VT⟩,⟨5,some 10,some 12,31,2,Vz (max Na Nb) ((Int.gcd ((a).num) (((b).den:Int)):Int)),VT⟩,⟨6,some 11,some 13,31,2,Vz (max Nb Na) ((Int.gcd ((b).num) (((a).den:Int)):Int)),VT⟩] [] st1 ⟨ks,ks,ks,(kd1 fun _ _ _ _ _ X0=>cDen X0 (by omega)),(kd2 fun _ _ _ _ _ X0 _ X1=>(cGcd X0 X1 (by omega) (by omega))),ks,ks,ks,(kd1 fun _ _ _ _ _ X0=>cDen X0 (by omega)),(kd2 fun _ _ _ _ _ X0 _ X1=>(cGcd X0 X1 (by omega) (by omega))),ks,ks,ks,ks,trivial⟩ ?_
 intro a2 w2 st2
 clear st1
 repeat first|apply Wq|apply Wb|apply Wk|apply Wx
 refine rH [(31,2,0),(33,4,0)] [Vpt a2 2 0,Vz Na ((a).num),Vz (max Na Nb) ((Int.gcd ((a).num) (((b).den:Int)):Int)),Vz Na (((a).num) / ((Int.gcd ((a).num) (((b).den:Int)):Int))),Vpt a2 3 0,Vz Nb ((b).num),Vz (max Nb Na) ((Int.gcd ((b).num) (((a).den:Int)):Int)),Vz Nb (((b).num) / ((Int.gcd ((b).num) (((a).den:Int)):Int))),Vz (Na+Nb) ((((a).num) / ((Int.gcd ((a).num) (((b).den:Int)):Int)))*(((b).num) / ((Int.gcd ((b).num) (((a).den:Int)):Int)))),VT,VT] [⟨2,none,none,33,4,Vq Na (a),VT⟩,⟨3,none,none,33,4,Vq Nb (b),VT⟩,⟨4,none,none,33,4,VT,VT⟩,⟨5,none,none,31,2,Vz (max Na Nb) ((Int.gcd ((a).num) (((b).den:Int)):Int)),VT⟩,⟨6,none,none,31,2,Vz (max Nb Na) ((Int.gcd ((b).num) (((a).den:Int)):Int)),VT⟩,⟨7,some 9,some 10,31,2,Vz (Na+Nb) ((((a).num) / ((Int.gcd ((a).num) (((b).den:Int)):Int)))*(((b).num) / ((Int.gcd ((b).num) (((a).den:Int)):Int)))),VT⟩] [] st2 ⟨ks,ks,ks,(kd2 fun _ _ _ _ _ X0 _ X1=>cPart X0 X1 (by first|exact gcd_den_ne _ _|exact gcd_den_ne' _ _|exact gcd_gcd_ne _ _ _) (by omega) (by omega)),ks,ks,ks,(kd2 fun _ _ _ _ _ X0 _ X1=>cPart X0 X1 (by first|exact gcd_den_ne _ _|exact gcd_den_ne' _ _|exact gcd_gcd_ne _ _ _) (by omega) (by omega)),(kd2 fun _ _ _ _ _ X0 _ X1=>(cMul X0 X1 (by omega) (by omega))),ks,ks,trivial⟩ ?_
 intro a3 w3 st3
 clear st2
 repeat first|apply Wq|apply Wb|apply Wk|apply Wx
 refine rH [(31,2,0),(33,4,0)] [Vz (Na+Nb) ((((a).num) / ((Int.gcd ((a).num) (((b).den:Int)):Int)))*(((b).num) / ((Int.gcd ((b).num) (((a).den:Int)):Int)))),Vq Na (a),Vz Na (((a).den:Int)),Vz (max Nb Na) ((Int.gcd ((b).num) (((a).den:Int)):Int)),Vz Na ((((a).den:Int)) / ((Int.gcd ((b).num) (((a).den:Int)):Int))),Vq Nb (b),Vz Nb (((b).den:Int)),Vz (max Na Nb) ((Int.gcd ((a).num) (((b).den:Int)):Int)),Vz Nb ((((b).den:Int)) / ((Int.gcd ((a).num) (((b).den:Int)):Int))),Vz (Na+Nb) (((((a).den:Int)) / ((Int.gcd ((b).num) (((a).den:Int)):Int)))*((((b).den:Int)) / ((Int.gcd ((a).num) (((b).den:Int)):Int)))),Vq (Na+Nb) (a*b),VT] [⟨2,none,none,33,4,Vq Na (a),VT⟩,⟨3,none,none,33,4,Vq Nb (b),VT⟩,⟨4,none,some 11,33,4,Vq (Na+Nb) (a*b),VT⟩,⟨5,none,none,31,2,Vz (max Na Nb) ((Int.gcd ((a).num) (((b).den:Int)):Int)),VT⟩,⟨6,none,none,31,2,Vz (max Nb Na) ((Int.gcd ((b).num) (((a).den:Int)):Int)),VT⟩,⟨7,none,none,31,2,Vz (Na+Nb) ((((a).num) / ((Int.gcd ((a).num) (((b).den:Int)):Int)))*(((b).num) / ((Int.gcd ((b).num) (((a).den:Int)):Int)))),VT⟩] [] st3 ⟨ks,ks,(kd1 fun _ _ _ _ _ X0=>cDen X0 (by omega)),ks,(kd2 fun _ _ _ _ _ X0 _ X1=>cPart X0 X1 (by first|exact gcd_den_ne _ _|exact gcd_den_ne' _ _|exact gcd_gcd_ne _ _ _) (by omega) (by omega)),ks,(kd1 fun _ _ _ _ _ X0=>cDen X0 (by omega)),ks,(kd2 fun _ _ _ _ _ X0 _ X1=>cPart X0 X1 (by first|exact gcd_den_ne _ _|exact gcd_den_ne' _ _|exact gcd_gcd_ne _ _ _) (by omega) (by omega)),(kd2 fun _ _ _ _ _ X0 _ X1=>(cMul X0 X1 (by omega) (by omega))),(kd2 fun _ _ _ _ _ X0 _ X1=>cMade (r:=a*b) (Vz_le (M:=(Na+Nb)) X0 (by omega)) (Vz_le (M:=(Na+Nb)) X1 (by omega)) (mul_low a b _ _ rfl rfl)),ks,trivial⟩ ?_
 intro a4 w4 st4
 clear st3
 repeat first|apply Wq|apply Wb|apply Wk|apply Wx
 exact wp_ret (rC 4 33 (Vq (Na+Nb) (a*b)) st4 fun cs r4=>Vq_le r4 (by omega))
theorem cQAdd {w:World}{Na Nb:Nat}{a b:Rat}{v0 v1:Value}(h0:Vq Na (a) v0 w)(h1:Vq Nb (b) v1 w)(h1a:1<=Na)(h1b:1<=Nb)(hNa:Na<=100000)(hNb:Nb<=100000):Calls Tryz.prog 43 #[v0,v1] w (RV (Vq (Na+Nb+1) (a+b)) w):=by
 go_enter Tryz.func43,Tryz.ntmps43
 generalize hA:(⟨_,_⟩:Act)=a0
 have st0:St w.heap.size w 45 [] [(0,Vq Na (a)),(1,Vq Nb (b))] a0 w:=by subst hA;exact St.begin rfl rfl (Lq.2 ⟨⟨_,rfl,h0⟩,(Lq.2 ⟨⟨_,rfl,h1⟩,(fun _ h=>absurd h (by simp))⟩)⟩)
 clear hA
 repeat first|apply Wq|apply Wb|apply Wk|apply Wx
 refine rH [(31,2,0),(33,4,0)] [VT,VT,VT] [⟨2,some 0,some 0,33,4,Vq Na (a),VT⟩,⟨3,some 1,some 1,33,4,Vq Nb (b),VT⟩,⟨4,some 2,none,33,4,VT,VT⟩] [] st0 ⟨ks,ks,ks,trivial⟩ ?_
 intro a1 w1 st1
 clear st0
 repeat first|apply Wq|apply Wb|apply Wk|apply Wx
 refine rH [(31,2,0),(33,4,0)] [Vq Na (a),Vz Na (((a).den:Int)),Vq Nb (b),Vz Nb (((b).den:Int)),Vz (max Na Nb) ((Int.gcd (((a).den:Int)) (((b).den:Int)):Int)),VT,VT] [⟨2,none,none,33,4,Vq Na (a),VT⟩,⟨3,none,none,33,4,Vq Nb (b),VT⟩,⟨4,none,none,33,4,VT,VT⟩,⟨5,some 5,some 6,31,2,Vz (max Na Nb) ((Int.gcd (((a).den:Int)) (((b).den:Int)):Int)),VT⟩] [] st1 ⟨ks,(kd1 fun _ _ _ _ _ X0=>cDen X0 (by omega)),ks,(kd1 fun _ _ _ _ _ X0=>cDen X0 (by omega)),(kd2 fun _ _ _ _ _ X0 _ X1=>(cGcd X0 X1 (by omega) (by omega))),ks,ks,trivial⟩ ?_
 intro a2 w2 st2
 clear st1
 repeat first|apply Wq|apply Wb|apply Wk|apply Wx
 refine rH [(31,2,0),(33,4,0)] [Vq Na (a),Vz Na (((a).den:Int)),Vz (max Na Nb) ((Int.gcd (((a).den:Int)) (((b).den:Int)):Int)),Vz Na ((((a).den:Int)) / ((Int.gcd (((a).den:Int)) (((b).den:Int)):Int))),Vq Nb (b),Vz Nb (((b).den:Int)),Vz (max Na Nb) ((Int.gcd (((a).den:Int)) (((b).den:Int)):Int)),Vz Nb ((((b).den:Int)) / ((Int.gcd (((a).den:Int)) (((b).den:Int)):Int))),VT,VT,VT,VT] [⟨2,none,none,33,4,Vq Na (a),VT⟩,⟨3,none,none,33,4,Vq Nb (b),VT⟩,⟨4,none,none,33,4,VT,VT⟩,⟨5,none,none,31,2,Vz (max Na Nb) ((Int.gcd (((a).den:Int)) (((b).den:Int)):Int)),VT⟩,⟨6,some 8,some 10,31,2,Vz Na ((((a).den:Int)) / ((Int.gcd (((a).den:Int)) (((b).den:Int)):Int))),VT⟩,⟨7,some 9,some 11,31,2,Vz Nb ((((b).den:Int)) / ((Int.gcd (((a).den:Int)) (((b).den:Int)):Int))),VT⟩] [] st2 ⟨ks,(kd1 fun _ _ _ _ _ X0=>cDen X0 (by omega)),ks,(kd2 fun _ _ _ _ _ X0 _ X1=>cPart X0 X1 (by first|exact gcd_den_ne _ _|exact gcd_den_ne' _ _|exact gcd_gcd_ne _ _ _) (by omega) (by omega)),ks,(kd1 fun _ _ _ _ _ X0=>cDen X0 (by omega)),ks,(kd2 fun _ _ _ _ _ X0 _ X1=>cPart X0 X1 (by first|exact gcd_den_ne _ _|exact gcd_den_ne' _ _|exact gcd_gcd_ne _ _ _) (by omega) (by omega)),ks,ks,ks,ks,trivial⟩ ?_
 intro a3 w3 st3
 clear st2
 repeat first|apply Wq|apply Wb|apply Wk|apply Wx
 refine rH [(31,2,0),(33,4,0)] [Vpt a3 2 0,Vz Na ((a).num),Vz Nb ((((b).den:Int)) / ((Int.gcd (((a).den:Int)) (((b).den:Int)):Int))),Vz (Na+Nb) (((a).num)*((((b).den:Int)) / ((Int.gcd (((a).den:Int)) (((b).den:Int)):Int)))),Vpt a3 3 0,Vz Nb ((b).num),Vz Na ((((a).den:Int)) / ((Int.gcd (((a).den:Int)) (((b).den:Int)):Int))),Vz (Nb+Na) (((b).num)*((((a).den:Int)) / ((Int.gcd (((a).den:Int)) (((b).den:Int)):Int)))),Vz (max (Na+Nb) (Nb+Na)+1) ((((a).num)*((((b).den:Int)) / ((Int.gcd (((a).den:Int)) (((b).den:Int)):Int))))+(((b).num)*((((a).den:Int)) / ((Int.gcd (((a).den:Int)) (((b).den:Int)):Int))))),VT,VT] [⟨2,none,none,33,4,Vq Na (a),VT⟩,⟨3,none,none,33,4,Vq Nb (b),VT⟩,⟨4,none,none,33,4,VT,VT⟩,⟨5,none,none,31,2,Vz (max Na Nb) ((Int.gcd (((a).den:Int)) (((b).den:Int)):Int)),VT⟩,⟨6,none,none,31,2,Vz Na ((((a).den:Int)) / ((Int.gcd (((a).den:Int)) (((b).den:Int)):Int))),VT⟩,⟨7,none,none,31,2,Vz Nb ((((b).den:Int)) / ((Int.gcd (((a).den:Int)) (((b).den:Int)):Int))),VT⟩,⟨8,some 9,some 10,31,2,Vz (max (Na+Nb) (Nb+Na)+1) ((((a).num)*((((b).den:Int)) / ((Int.gcd (((a).den:Int)) (((b).den:Int)):Int))))+(((b).num)*((((a).den:Int)) / ((Int.gcd (((a).den:Int)) (((b).den:Int)):Int))))),VT⟩] [] st3 ⟨ks,ks,ks,(kd2 fun _ _ _ _ _ X0 _ X1=>(cMul X0 X1 (by omega) (by omega))),ks,ks,ks,(kd2 fun _ _ _ _ _ X0 _ X1=>(cMul X0 X1 (by omega) (by omega))),(kd2 fun _ _ _ _ _ X0 _ X1=>(cAdd X0 X1 (by omega) (by omega))),ks,ks,trivial⟩ ?_
 intro a4 w4 st4
 clear st3
 repeat first|apply Wq|apply Wb|apply Wk|apply Wx
 refine rH [(31,2,0),(33,4,0)] [Vz (max (Na+Nb) (Nb+Na)+1) ((((a).num)*((((b).den:Int)) / ((Int.gcd (((a).den:Int)) (((b).den:Int)):Int))))+(((b).num)*((((a).den:Int)) / ((Int.gcd (((a).den:Int)) (((b).den:Int)):Int))))),Vz (max Na Nb) ((Int.gcd (((a).den:Int)) (((b).den:Int)):Int)),Vz (max (max (Na+Nb) (Nb+Na)+1) (max Na Nb)) ((Int.gcd ((((a).num)*((((b).den:Int)) / ((Int.gcd (((a).den:Int)) (((b).den:Int)):Int))))+(((b).num)*((((a).den:Int)) / ((Int.gcd (((a).den:Int)) (((b).den:Int)):Int))))) ((Int.gcd (((a).den:Int)) (((b).den:Int)):Int)):Int)),VT,VT] [⟨2,none,none,33,4,Vq Na (a),VT⟩,⟨3,none,none,33,4,Vq Nb (b),VT⟩,⟨4,none,none,33,4,VT,VT⟩,⟨5,none,none,31,2,Vz (max Na Nb) ((Int.gcd (((a).den:Int)) (((b).den:Int)):Int)),VT⟩,⟨6,none,none,31,2,Vz Na ((((a).den:Int)) / ((Int.gcd (((a).den:Int)) (((b).den:Int)):Int))),VT⟩,⟨7,none,none,31,2,Vz Nb ((((b).den:Int)) / ((Int.gcd (((a).den:Int)) (((b).den:Int)):Int))),VT⟩,⟨8,none,none,31,2,Vz (max (Na+Nb) (Nb+Na)+1) ((((a).num)*((((b).den:Int)) / ((Int.gcd (((a).den:Int)) (((b).den:Int)):Int))))+(((b).num)*((((a).den:Int)) / ((Int.gcd (((a).den:Int)) (((b).den:Int)):Int))))),VT⟩,⟨9,some 3,some 4,31,2,Vz (max (max (Na+Nb) (Nb+Na)+1) (max Na Nb)) ((Int.gcd ((((a).num)*((((b).den:Int)) / ((Int.gcd (((a).den:Int)) (((b).den:Int)):Int))))+(((b).num)*((((a).den:Int)) / ((Int.gcd (((a).den:Int)) (((b).den:Int)):Int))))) ((Int.gcd (((a).den:Int)) (((b).den:Int)):Int)):Int)),VT⟩] [] st4 ⟨ks,ks,(kd2 fun _ _ _ _ _ X0 _ X1=>(cGcd X0 X1 (by omega) (by omega))),ks,ks,trivial⟩ ?_
 intro a5 w5 st5
 clear st4
 repeat first|apply Wq|apply Wb|apply Wk|apply Wx
 refine rH [(31,2,0),(33,4,0)] [Vz (max (Na+Nb) (Nb+Na)+1) ((((a).num)*((((b).den:Int)) / ((Int.gcd (((a).den:Int)) (((b).den:Int)):Int))))+(((b).num)*((((a).den:Int)) / ((Int.gcd (((a).den:Int)) (((b).den:Int)):Int))))),Vz (max (max (Na+Nb) (Nb+Na)+1) (max Na Nb)) ((Int.gcd ((((a).num)*((((b).den:Int)) / ((Int.gcd (((a).den:Int)) (((b).den:Int)):Int))))+(((b).num)*((((a).den:Int)) / ((Int.gcd (((a).den:Int)) (((b).den:Int)):Int))))) ((Int.gcd (((a).den:Int)) (((b).den:Int)):Int)):Int)),Vz (max (Na+Nb) (Nb+Na)+1) (((((a).num)*((((b).den:Int)) / ((Int.gcd (((a).den:Int)) (((b).den:Int)):Int))))+(((b).num)*((((a).den:Int)) / ((Int.gcd (((a).den:Int)) (((b).den:Int)):Int))))) / ((Int.gcd ((((a).num)*((((b).den:Int)) / ((Int.gcd (((a).den:Int)) (((b).den:Int)):Int))))+(((b).num)*((((a).den:Int)) / ((Int.gcd (((a).den:Int)) (((b).den:Int)):Int))))) ((Int.gcd (((a).den:Int)) (((b).den:Int)):Int)):Int))),Vz Na ((((a).den:Int)) / ((Int.gcd (((a).den:Int)) (((b).den:Int)):Int))),Vq Nb (b),Vz Nb (((b).den:Int)),Vz (max (max (Na+Nb) (Nb+Na)+1) (max Na Nb)) ((Int.gcd ((((a).num)*((((b).den:Int)) / ((Int.gcd (((a).den:Int)) (((b).den:Int)):Int))))+(((b).num)*((((a).den:Int)) / ((Int.gcd (((a).den:Int)) (((b).den:Int)):Int))))) ((Int.gcd (((a).den:Int)) (((b).den:Int)):Int)):Int)),Vz Nb ((((b).den:Int)) / ((Int.gcd ((((a).num)*((((b).den:Int)) / ((Int.gcd (((a).den:Int)) (((b).den:Int)):Int))))+(((b).num)*((((a).den:Int)) / ((Int.gcd (((a).den:Int)) (((b).den:Int)):Int))))) ((Int.gcd (((a).den:Int)) (((b).den:Int)):Int)):Int))),Vz (Na+Nb) (((((a).den:Int)) / ((Int.gcd (((a).den:Int)) (((b).den:Int)):Int)))*((((b).den:Int)) / ((Int.gcd ((((a).num)*((((b).den:Int)) / ((Int.gcd (((a).den:Int)) (((b).den:Int)):Int))))+(((b).num)*((((a).den:Int)) / ((Int.gcd (((a).den:Int)) (((b).den:Int)):Int))))) ((Int.gcd (((a).den:Int)) (((b).den:Int)):Int)):Int)))),Vq (max (max (Na+Nb) (Nb+Na)+1) (Na+Nb)) (a+b),VT] [⟨2,none,none,33,4,Vq Na (a),VT⟩,⟨3,none,none,33,4,Vq Nb (b),VT⟩,⟨4,none,some 10,33,4,Vq (max (max (Na+Nb) (Nb+Na)+1) (Na+Nb)) (a+b),VT⟩,⟨5,none,none,31,2,Vz (max Na Nb) ((Int.gcd (((a).den:Int)) (((b).den:Int)):Int)),VT⟩,⟨6,none,none,31,2,Vz Na ((((a).den:Int)) / ((Int.gcd (((a).den:Int)) (((b).den:Int)):Int))),VT⟩,⟨7,none,none,31,2,Vz Nb ((((b).den:Int)) / ((Int.gcd (((a).den:Int)) (((b).den:Int)):Int))),VT⟩,⟨8,none,none,31,2,Vz (max (Na+Nb) (Nb+Na)+1) ((((a).num)*((((b).den:Int)) / ((Int.gcd (((a).den:Int)) (((b).den:Int)):Int))))+(((b).num)*((((a).den:Int)) / ((Int.gcd (((a).den:Int)) (((b).den:Int)):Int))))),VT⟩,⟨9,none,none,31,2,Vz (max (max (Na+Nb) (Nb+Na)+1) (max Na Nb)) ((Int.gcd ((((a).num)*((((b).den:Int)) / ((Int.gcd (((a).den:Int)) (((b).den:Int)):Int))))+(((b).num)*((((a).den:Int)) / ((Int.gcd (((a).den:Int)) (((b).den:Int)):Int))))) ((Int.gcd (((a).den:Int)) (((b).den:Int)):Int)):Int)),VT⟩] [] st5 ⟨ks,ks,(kd2 fun _ _ _ _ _ X0 _ X1=>cPart X0 X1 (by first|exact gcd_den_ne _ _|exact gcd_den_ne' _ _|exact gcd_gcd_ne _ _ _) (by omega) (by omega)),ks,ks,(kd1 fun _ _ _ _ _ X0=>cDen X0 (by omega)),ks,(kd2 fun _ _ _ _ _ X0 _ X1=>cPart X0 X1 (by first|exact gcd_den_ne _ _|exact gcd_den_ne' _ _|exact gcd_gcd_ne _ _ _) (by omega) (by omega)),(kd2 fun _ _ _ _ _ X0 _ X1=>(cMul X0 X1 (by omega) (by omega))),(kd2 fun _ _ _ _ _ X0 _ X1=>cMade (r:=a+b) (Vz_le (M:=(max (max (Na+Nb) (Nb+Na)+1) (Na+Nb))) X0 (by omega)) (Vz_le (M:=(max (max (Na+Nb) (Nb+Na)+1) (Na+Nb))) X1 (by omega)) (add_low a b _ _ _ _ rfl rfl rfl rfl)),ks,trivial⟩ ?_
 intro a6 w6 st6
 clear st5
 repeat first|apply Wq|apply Wb|apply Wk|apply Wx
 exact wp_ret (rC 4 33 (Vq (max (max (Na+Nb) (Nb+Na)+1) (Na+Nb)) (a+b)) st6 fun cs r4=>(Vq_le r4 (by omega)))
end Go.Proofs.YtjdkdjobaabdiaaGreat
