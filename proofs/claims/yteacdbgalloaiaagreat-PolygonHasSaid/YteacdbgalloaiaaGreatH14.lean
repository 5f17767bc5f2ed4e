/- Contracts of the packages integer, rat, plane, polygon and their references. -/
import Derived.Test.YteacdbgalloaiaaGreatH13
set_option linter.unusedVariables false
set_option maxRecDepth 100000
set_option maxHeartbeats 6400000
namespace Go.Proofs.YteacdbgalloaiaaGreat
open Go.RowKit
theorem cQSub {w:World}{Na Nb:Nat}{a b:Rat}{v0 v1:Value}(h0:Vq Na (a) v0 w)(h1:Vq Nb (b) v1 w)(h1a:1<=Na:=by omega)(h1b:1<=Nb:=by omega)(hNa:Na<=100000:=by omega)(hNb:Nb<=100000:=by omega):Calls Tryz.prog 144 #[v0,v1] w (RV (Vq (Na+Nb+1) (a - b)) w):=by
 go_enter Tryz.func144,Tryz.ntmps144
 generalize hA:(⟨_,_⟩:Act)=a0;have st0:St w.heap.size w 9 [] [(0,Vq Na (a)),(1,Vq Nb (b))] a0 w:=by subst hA;exact St.begin rfl rfl (Lq.2 ⟨⟨_,rfl,h0⟩,(Lq.2 ⟨⟨_,rfl,h1⟩,L0⟩)⟩)
 clear hA;refine Wn ?_
 refine rH [(30,4,0)] [VT,VT,VT] [⟨2,some 0,some 0,30,4,Vq Na (a),VT⟩,⟨3,some 1,some 1,30,4,Vq Nb (b),VT⟩,⟨4,some 2,none,30,4,VT,VT⟩] [] st0 ⟨ks,ks,ks,trivial⟩ fun a1 w1 st1=>Wn ?_;clear st0
 refine rH [(30,4,0)] [Vq Na (a),Vq Nb (b),Vq Nb (-(b)),Vq (Na+Nb+1) ((a)+(-(b))),VT] [⟨2,none,none,30,4,Vq Na (a),VT⟩,⟨3,none,none,30,4,Vq Nb (b),VT⟩,⟨4,none,some 4,30,4,Vq (Na+Nb+1) ((a)+(-(b))),VT⟩] [] st1 ⟨ks,ks,(kd1 fun _ _ _ _ _ X0=>cQNeg X0),(kd2 fun _ _ _ _ _ X0 _ X1=>cQAdd X0 X1),ks,trivial⟩ fun a2 w2 st2=>Wn ?_;clear st1
 exact wp_ret (rC 4 30 (Vq (Na+Nb+1) ((a)+(-(b)))) st2 fun cs r4=>(by rw [Rat.sub_eq_add_neg];exact r4))
theorem cQDiv {w:World}{Na Nb:Nat}{a b:Rat}{v0 v1:Value}(h0:Vq Na (a) v0 w)(h1:Vq Nb (b) v1 w)(h1a:1<=Na:=by omega)(h1b:1<=Nb:=by omega)(hNa:Na<=100000:=by omega)(hNb:Nb<=100000:=by omega):Calls Tryz.prog 57 #[v0,v1] w (RV (Vq (Na+Nb) (a / b)) w):=by
 go_enter Tryz.func57,Tryz.ntmps57
 generalize hA:(⟨_,_⟩:Act)=a0;have st0:St w.heap.size w 22 [] [(0,Vq Na (a)),(1,Vq Nb (b))] a0 w:=by subst hA;exact St.begin rfl rfl (Lq.2 ⟨⟨_,rfl,h0⟩,(Lq.2 ⟨⟨_,rfl,h1⟩,L0⟩)⟩)
 clear hA;refine Wn ?_
 refine rH [(30,4,0)] [VT,VT,VT] [⟨2,some 0,some 0,30,4,Vq Na (a),VT⟩,⟨3,some 1,some 1,30,4,Vq Nb (b),VT⟩,⟨4,some 2,none,30,4,VT,VT⟩] [] st0 ⟨ks,ks,ks,trivial⟩ fun a1 w1 st1=>Wn ?_;clear st0
 refine rH [(30,4,0)] [Vq Nb (b),Vi (cmpI (b).num 0)] [⟨2,none,none,30,4,Vq Na (a),VT⟩,⟨3,none,none,30,4,Vq Nb (b),VT⟩,⟨4,none,none,30,4,VT,VT⟩] [(6,Vi (cmpI (b).num 0))] st1 ⟨ks,(kd1 fun _ _ _ _ _ X0=>cQSign X0),trivial⟩ ?_;intro a2 w2 st2;clear st1;by_cases hz:b.num=0
 ·
  refine Wn ?_
  refine rH [(30,4,0)] [Vb (true),Vb (true)] [⟨2,none,none,30,4,Vq Na (a),VT⟩,⟨3,none,none,30,4,Vq Nb (b),VT⟩,⟨4,none,none,30,4,VT,VT⟩] [(6,Vi (cmpI (b).num 0)),(7,Vb (true))] st2 ⟨(by refine kr fun _ A Y h D=>?_;obtain⟨v0,x0,X0⟩:=h.ot 6;have hV0':v0= .int .i64 (cmpI (b).num 0):=X0;exact⟨_,run_eqi rfl (x0.trans hV0') rfl,congrArg Value.bool (by rw [hz,cmp_eq];rfl)⟩),ks,trivial⟩ ?_;intro a3 w3 st3;clear st2;refine Wn ?_
  refine cT st3 ?_;refine Wn ?_
  refine rH [(30,4,0)] [Vq 1 (0),VT] [⟨2,none,none,30,4,Vq Na (a),VT⟩,⟨3,none,none,30,4,Vq Nb (b),VT⟩,⟨4,none,some 1,30,4,Vq 1 (0),VT⟩] [(6,Vi (cmpI (b).num 0)),(7,Vb (true))] st3 ⟨(kr fun _ A Y h D=>build_Rat0 rfl),ks,trivial⟩ fun a4 w4 st4=>Wn ?_;clear st3
  exact wp_ret (rC 4 30 (Vq 1 (0)) st4 fun cs r4=>(by have e:b=0:=Rat.num_eq_zero.1 hz;rw [show a / b=0 by rw [e,Rat.div_def,Rat.inv_zero,Rat.mul_zero]];exact Vq_le r4 (by omega)))
 ·
  by_cases hl:b.num<0
  ·
   refine Wn ?_
   refine rH [(30,4,0)] [Vb (false),Vb (false)] [⟨2,none,none,30,4,Vq Na (a),VT⟩,⟨3,none,none,30,4,Vq Nb (b),VT⟩,⟨4,none,none,30,4,VT,VT⟩] [(6,Vi (cmpI (b).num 0)),(7,Vb (false))] st2 ⟨(by refine kr fun _ A Y h D=>?_;obtain⟨v0,x0,X0⟩:=h.ot 6;have hV0':v0= .int .i64 (cmpI (b).num 0):=X0;exact⟨_,run_eqi rfl (x0.trans hV0') rfl,congrArg Value.bool (by rw [cmp0];exact dF hz)⟩),ks,trivial⟩ ?_;intro a3 w3 st3;clear st2;refine Wn ?_
   refine cF st3 ?_;refine Wn ?_
   refine rH [(30,4,0)] [Vb (true),Vb (true)] [⟨2,none,none,30,4,Vq Na (a),VT⟩,⟨3,none,none,30,4,Vq Nb (b),VT⟩,⟨4,none,none,30,4,VT,VT⟩] [(6,Vi (cmpI (b).num 0)),(7,Vb (false)),(10,Vb (true))] st3 ⟨(by refine kr fun _ A Y h D=>?_;obtain⟨v0,x0,X0⟩:=h.ot 6;have hV0':v0= .int .i64 (cmpI (b).num 0):=X0;exact⟨_,run_eqi rfl (x0.trans hV0') rfl,congrArg Value.bool (by rw [cmp_lt hl];rfl)⟩),ks,trivial⟩ ?_;intro a4 w4 st4;clear st3;refine Wn ?_
   refine cT st4 ?_;refine Wn ?_
   refine rH [(30,4,0)] [Vq Na (a),Vq Na (-(a)),Vq Nb (b),Vq Nb (-(b)),Vq Nb ((-(b))⁻¹),Vq (Na+Nb) ((-(a))*((-(b))⁻¹)),VT] [⟨2,none,none,30,4,Vq Na (a),VT⟩,⟨3,none,none,30,4,Vq Nb (b),VT⟩,⟨4,none,some 6,30,4,Vq (Na+Nb) ((-(a))*((-(b))⁻¹)),VT⟩] [(6,Vi (cmpI (b).num 0)),(7,Vb (false)),(10,Vb (true))] st4 ⟨ks,(kd1 fun _ _ _ _ _ X0=>cQNeg X0),ks,(kd1 fun _ _ _ _ _ X0=>cQNeg X0),(by exact kd1 fun _ _ _ _ _ X0=>cQInv X0 (by omega) (by omega) (by rw [Rat.neg_num];omega)),(kd2 fun _ _ _ _ _ X0 _ X1=>cQMul X0 X1),ks,trivial⟩ fun a5 w5 st5=>Wn ?_;clear st4
   exact wp_ret (rC 4 30 (Vq (Na+Nb) ((-(a))*((-(b))⁻¹))) st5 fun cs r4=>(by rw [show a / b= -a*(-b)⁻¹ from div_neg_neg a b];exact r4))
  ·
   refine Wn ?_
   refine rH [(30,4,0)] [Vb (false),Vb (false)] [⟨2,none,none,30,4,Vq Na (a),VT⟩,⟨3,none,none,30,4,Vq Nb (b),VT⟩,⟨4,none,none,30,4,VT,VT⟩] [(6,Vi (cmpI (b).num 0)),(7,Vb (false))] st2 ⟨(by refine kr fun _ A Y h D=>?_;obtain⟨v0,x0,X0⟩:=h.ot 6;have hV0':v0= .int .i64 (cmpI (b).num 0):=X0;exact⟨_,run_eqi rfl (x0.trans hV0') rfl,congrArg Value.bool (by rw [cmp0];exact dF hz)⟩),ks,trivial⟩ ?_;intro a3 w3 st3;clear st2;refine Wn ?_
   refine cF st3 ?_;refine Wn ?_
   refine rH [(30,4,0)] [Vb (false),Vb (false)] [⟨2,none,none,30,4,Vq Na (a),VT⟩,⟨3,none,none,30,4,Vq Nb (b),VT⟩,⟨4,none,none,30,4,VT,VT⟩] [(6,Vi (cmpI (b).num 0)),(7,Vb (false)),(10,Vb (false))] st3 ⟨(by refine kr fun _ A Y h D=>?_;obtain⟨v0,x0,X0⟩:=h.ot 6;have hV0':v0= .int .i64 (cmpI (b).num 0):=X0;exact⟨_,run_eqi rfl (x0.trans hV0') rfl,congrArg Value.bool (by rw [cmp_gt (by omega)];rfl)⟩),ks,trivial⟩ ?_;intro a4 w4 st4;clear st3;refine Wn ?_
   refine cF st4 ?_;refine Wn ?_
   refine rH [(30,4,0)] [Vq Na (a),Vq Nb (b),Vq Nb ((b)⁻¹),Vq (Na+Nb) ((a)*((b)⁻¹)),VT] [⟨2,none,none,30,4,Vq Na (a),VT⟩,⟨3,none,none,30,4,Vq Nb (b),VT⟩,⟨4,none,some 4,30,4,Vq (Na+Nb) ((a)*((b)⁻¹)),VT⟩] [(6,Vi (cmpI (b).num 0)),(7,Vb (false)),(10,Vb (false))] st4 ⟨ks,ks,(kd1 fun _ _ _ _ _ X0=>cQInv X0),(kd2 fun _ _ _ _ _ X0 _ X1=>cQMul X0 X1),ks,trivial⟩ fun a5 w5 st5=>Wn ?_;clear st4
   exact wp_ret (rC 4 30 (Vq (Na+Nb) ((a)*((b)⁻¹))) st5 fun cs r4=>(by rw [Rat.div_def];exact r4))
theorem cQCompare {w:World}{Na Nb:Nat}{a b:Rat}{v0 v1:Value}(h0:Vq Na (a) v0 w)(h1:Vq Nb (b) v1 w)(h1a:1<=Na:=by omega)(h1b:1<=Nb:=by omega)(hNa:Na<=100000:=by omega)(hNb:Nb<=100000:=by omega):Calls Tryz.prog 32 #[v0,v1] w (RV (Vi (cmpQ a b)) w):=by
 go_enter Tryz.func32,Tryz.ntmps32
 generalize hA:(⟨_,_⟩:Act)=a0;have st0:St w.heap.size w 28 [] [(0,Vq Na (a)),(1,Vq Nb (b))] a0 w:=by subst hA;exact St.begin rfl rfl (Lq.2 ⟨⟨_,rfl,h0⟩,(Lq.2 ⟨⟨_,rfl,h1⟩,L0⟩)⟩)
 clear hA;refine Wn ?_
 refine rH [] [VT,VT,Vi (0)] [⟨2,some 0,some 0,30,4,Vq Na (a),VT⟩,⟨3,some 1,some 1,30,4,Vq Nb (b),VT⟩] [(4,Vi (0))] st0 ⟨ks,ks,ks,trivial⟩ fun a1 w1 st1=>Wn ?_;clear st0
 refine rH [] [Vq Na (a),Vi (cmpI (a).num 0),Vq Nb (b),Vi (cmpI (b).num 0),Vi (cmpI (a).num 0),Vi (cmpI (b).num 0)] [⟨2,none,none,30,4,Vq Na (a),VT⟩,⟨3,none,none,30,4,Vq Nb (b),VT⟩] [(4,Vi (0)),(5,Vi (cmpI (a).num 0)),(6,Vi (cmpI (b).num 0))] st1 ⟨ks,(kd1 fun _ _ _ _ _ X0=>cQSign X0),ks,(kd1 fun _ _ _ _ _ X0=>cQSign X0),ks,ks,trivial⟩ ?_;intro a2 w2 st2;clear st1;by_cases hs:cmpI a.num 0=cmpI b.num 0
 ·
  refine Wn ?_
  refine rH [] [Vi (cmpI (a).num 0),Vi (cmpI (b).num 0),Vb (false)] [⟨2,none,none,30,4,Vq Na (a),VT⟩,⟨3,none,none,30,4,Vq Nb (b),VT⟩] [(4,Vi (0)),(5,Vi (cmpI (a).num 0)),(6,Vi (cmpI (b).num 0)),(13,Vb (false))] st2 ⟨ks,ks,(by refine kr fun _ A Y h D=>?_;obtain⟨v0,x0,X0⟩:=h.dp D 11;have hV0':v0= .int .i64 (cmpI (a).num 0):=X0;obtain⟨v1,x1,X1⟩:=h.dp D 12;have hV1':v1= .int .i64 (cmpI (b).num 0):=X1;exact⟨_,run_neqi rfl (x0.trans hV0') (x1.trans hV1'),congrArg Value.bool (by rw [hs];simp)⟩),trivial⟩ ?_;intro a3 w3 st3;clear st2;refine Wn ?_
  refine cF st3 ?_;refine Wn ?_
  refine rH [] [Vpt a3 2 0,Vz Na ((a).num),Vq Nb (b),Vz Nb (((b).den:Int)),Vz (Na+Nb) (((a).num)*(((b).den:Int))),Vpt a3 3 0,Vz Nb ((b).num),Vq Na (a),Vz Na (((a).den:Int)),Vz (Nb+Na) (((b).num)*(((a).den:Int))),Vi (cmpI (((a).num)*(((b).den:Int))) (((b).num)*(((a).den:Int)))),Vi (cmpI (((a).num)*(((b).den:Int))) (((b).num)*(((a).den:Int))))] [⟨2,none,none,30,4,Vq Na (a),VT⟩,⟨3,none,none,30,4,Vq Nb (b),VT⟩] [(5,Vi (cmpI (a).num 0)),(6,Vi (cmpI (b).num 0)),(13,Vb (false)),(4,Vi (cmpI (((a).num)*(((b).den:Int))) (((b).num)*(((a).den:Int)))))] st3 ⟨ks,ks,ks,(kd1 fun _ _ _ _ _ X0=>cDen X0),(kd2 fun _ _ _ _ _ X0 _ X1=>(cMul X0 X1)),ks,ks,ks,(kd1 fun _ _ _ _ _ X0=>cDen X0),(kd2 fun _ _ _ _ _ X0 _ X1=>(cMul X0 X1)),(kd2 fun _ _ _ _ _ X0 _ X1=>(cCompare X0 X1)),ks,trivial⟩ fun a4 w4 st4=>Wn ?_;clear st3
  exact wp_ret (rS 4 (Vi (cmpI (((a).num)*(((b).den:Int))) (((b).num)*(((a).den:Int))))) st4 fun vr r4=>r4)
 ·
  refine Wn ?_
  refine rH [] [Vi (cmpI (a).num 0),Vi (cmpI (b).num 0),Vb (true)] [⟨2,none,none,30,4,Vq Na (a),VT⟩,⟨3,none,none,30,4,Vq Nb (b),VT⟩] [(4,Vi (0)),(5,Vi (cmpI (a).num 0)),(6,Vi (cmpI (b).num 0)),(13,Vb (true))] st2 ⟨ks,ks,(kr2 11 12 fun _ _ _ _ _ x0 X0 _ x1 X1=>⟨_,run_neqi rfl (x0.trans X0) (x1.trans X1),congrArg Value.bool (bne_iff_ne.2 hs)⟩),trivial⟩ fun a3 w3 st3=>Wn ?_;clear st2
  refine cT st3 ?_;refine Wn ?_
  refine rH [] [Vi (cmpI (a).num 0),Vi (cmpI (b).num 0),Vi (cmpI (cmpI (a).num 0) (cmpI (b).num 0)),Vi (cmpI (cmpI (a).num 0) (cmpI (b).num 0))] [⟨2,none,none,30,4,Vq Na (a),VT⟩,⟨3,none,none,30,4,Vq Nb (b),VT⟩] [(5,Vi (cmpI (a).num 0)),(6,Vi (cmpI (b).num 0)),(13,Vb (true)),(4,Vi (cmpI (cmpI (a).num 0) (cmpI (b).num 0)))] st3 ⟨ks,ks,(kd2 fun _ _ _ _ _ X0 _ X1=>cCmp X0 X1),ks,trivial⟩ fun a4 w4 st4=>Wn ?_;clear st3
  exact wp_ret (rS 4 (Vi (cmpI (cmpI (a).num 0) (cmpI (b).num 0))) st4 fun vr r4=>(by rw [<-cmpQ_sign hs];exact r4))
theorem cQMake {w:World}{Na Nb:Nat}{p q:Int}{v0 v1:Value}(h0:Vz Na (p) v0 w)(h1:Vz Nb (q) v1 w)(h1a:1<=Na:=by omega)(h1b:1<=Nb:=by omega)(hNa:Na<=100000:=by omega)(hNb:Nb<=100000:=by omega):Calls Tryz.prog 103 #[v0,v1] w (RV (Vq (max Na Nb) (Rat.divInt p q)) w):=by
 go_enter Tryz.func103,Tryz.ntmps103
 generalize hA:(⟨_,_⟩:Act)=a0;have st0:St w.heap.size w 27 [] [(0,Vz Na (p)),(1,Vz Nb (q))] a0 w:=by subst hA;exact St.begin rfl rfl (Lq.2 ⟨⟨_,rfl,h0⟩,(Lq.2 ⟨⟨_,rfl,h1⟩,L0⟩)⟩)
 clear hA;refine Wn ?_
 refine rH [(30,4,0),(28,2,0)] [VT,VT,VT] [⟨2,some 0,some 0,28,2,Vz Na (p),VT⟩,⟨3,some 1,some 1,28,2,Vz Nb (q),VT⟩,⟨4,some 2,none,30,4,VT,VT⟩] [] st0 ⟨ks,ks,ks,trivial⟩ fun a1 w1 st1=>Wn ?_;clear st0
 refine rH [(30,4,0),(28,2,0)] [Vz Nb (q),Vi (cmpI (q) 0)] [⟨2,none,none,28,2,Vz Na (p),VT⟩,⟨3,none,none,28,2,Vz Nb (q),VT⟩,⟨4,none,none,30,4,VT,VT⟩] [(7,Vi (cmpI (q) 0))] st1 ⟨ks,(kd1 fun _ _ _ _ _ X0=>cSign X0),trivial⟩ ?_;intro a2 w2 st2;clear st1;by_cases hz:q=0
 ·
  refine Wn ?_
  refine rH [(30,4,0),(28,2,0)] [Vb (true),Vb (true)] [⟨2,none,none,28,2,Vz Na (p),VT⟩,⟨3,none,none,28,2,Vz Nb (q),VT⟩,⟨4,none,none,30,4,VT,VT⟩] [(7,Vi (cmpI (q) 0)),(8,Vb (true))] st2 ⟨(by refine kr fun _ A Y h D=>?_;obtain⟨v0,x0,X0⟩:=h.ot 7;have hV0':v0= .int .i64 (cmpI (q) 0):=X0;exact⟨_,run_eqi rfl (x0.trans hV0') rfl,congrArg Value.bool (by rw [hz,cmp_eq];rfl)⟩),ks,trivial⟩ ?_;intro a3 w3 st3;clear st2;refine Wn ?_
  refine cT st3 ?_;refine Wn ?_
  refine rH [(30,4,0),(28,2,0)] [Vq 1 (0),VT] [⟨2,none,none,28,2,Vz Na (p),VT⟩,⟨3,none,none,28,2,Vz Nb (q),VT⟩,⟨4,none,some 1,30,4,Vq 1 (0),VT⟩] [(7,Vi (cmpI (q) 0)),(8,Vb (true))] st3 ⟨(kr fun _ A Y h D=>build_Rat0 rfl),ks,trivial⟩ fun a4 w4 st4=>Wn ?_;clear st3
  exact wp_ret (rC 4 30 (Vq 1 (0)) st4 fun cs r4=>(by rw [hz,Rat.divInt_zero];exact Vq_le r4 (by omega)))
 ·
  by_cases hl:q<0
  ·
   refine Wn ?_
   refine rH [(30,4,0),(28,2,0)] [Vb (false),Vb (false)] [⟨2,none,none,28,2,Vz Na (p),VT⟩,⟨3,none,none,28,2,Vz Nb (q),VT⟩,⟨4,none,none,30,4,VT,VT⟩] [(7,Vi (cmpI (q) 0)),(8,Vb (false))] st2 ⟨(by refine kr fun _ A Y h D=>?_;obtain⟨v0,x0,X0⟩:=h.ot 7;have hV0':v0= .int .i64 (cmpI (q) 0):=X0;exact⟨_,run_eqi rfl (x0.trans hV0') rfl,congrArg Value.bool (by rw [cmp0];exact dF hz)⟩),ks,trivial⟩ ?_;intro a3 w3 st3;clear st2;refine Wn ?_
   refine cF st3 ?_;refine Wn ?_
   refine rH [(30,4,0),(28,2,0)] [Vb (true),Vb (true)] [⟨2,none,none,28,2,Vz Na (p),VT⟩,⟨3,none,none,28,2,Vz Nb (q),VT⟩,⟨4,none,none,30,4,VT,VT⟩] [(7,Vi (cmpI (q) 0)),(8,Vb (false)),(11,Vb (true))] st3 ⟨(by refine kr fun _ A Y h D=>?_;obtain⟨v0,x0,X0⟩:=h.ot 7;have hV0':v0= .int .i64 (cmpI (q) 0):=X0;exact⟨_,run_eqi rfl (x0.trans hV0') rfl,congrArg Value.bool (by rw [cmp_lt hl];rfl)⟩),ks,trivial⟩ ?_;intro a4 w4 st4;clear st3;refine Wn ?_
   refine cT st4 ?_;refine Wn ?_
   refine rH [(30,4,0),(28,2,0)] [Vz Na (p),Vz Na (-(p)),Vz Nb (q),Vz Nb (-(q)),VT,VT] [⟨2,none,some 4,28,2,Vz Na (-(p)),Vz Na (p)⟩,⟨3,none,some 5,28,2,Vz Nb (-(q)),Vz Nb (q)⟩,⟨4,none,none,30,4,VT,VT⟩] [(7,Vi (cmpI (q) 0)),(8,Vb (false)),(11,Vb (true))] st4 ⟨ks,(kd1 fun _ _ _ _ _ X0=>cNeg X0),ks,(kd1 fun _ _ _ _ _ X0=>cNeg X0),ks,ks,trivial⟩ fun a5 w5 st5=>Wn ?_;clear st4
   refine rH [(30,4,0),(28,2,0)] [Vz Na (-(p)),Vz Nb (-(q)),Vz (max Na Nb) ((Int.gcd (-(p)) (-(q)):Int)),VT,VT] [⟨2,none,none,28,2,Vz Na (-(p)),VT⟩,⟨3,none,none,28,2,Vz Nb (-(q)),VT⟩,⟨4,none,none,30,4,VT,VT⟩,⟨5,some 3,some 4,28,2,Vz (max Na Nb) ((Int.gcd (-(p)) (-(q)):Int)),VT⟩] [(7,Vi (cmpI (q) 0)),(8,Vb (false)),(11,Vb (true))] st5 ⟨ks,ks,(kd2 fun _ _ _ _ _ X0 _ X1=>(cGcd X0 X1)),ks,ks,trivial⟩ fun a6 w6 st6=>Wn ?_;clear st5
   refine rH [(30,4,0),(28,2,0)] [Vz Na (-(p)),Vz (max Na Nb) ((Int.gcd (-(p)) (-(q)):Int)),Vz Na ((-(p)) / ((Int.gcd (-(p)) (-(q)):Int))),Vz Nb (-(q)),Vz (max Na Nb) ((Int.gcd (-(p)) (-(q)):Int)),Vz Nb ((-(q)) / ((Int.gcd (-(p)) (-(q)):Int))),Vq (max Na Nb) (Rat.divInt p q),VT] [⟨2,none,none,28,2,Vz Na (-(p)),VT⟩,⟨3,none,none,28,2,Vz Nb (-(q)),VT⟩,⟨4,none,some 7,30,4,Vq (max Na Nb) (Rat.divInt p q),VT⟩,⟨5,none,none,28,2,Vz (max Na Nb) ((Int.gcd (-(p)) (-(q)):Int)),VT⟩] [(7,Vi (cmpI (q) 0)),(8,Vb (false)),(11,Vb (true))] st6 ⟨ks,ks,(kd2 fun _ _ _ _ _ X0 _ X1=>cPart X0 X1 (by first|exact gcd_den_ne _ _|exact gcd_den_ne' _ _|exact gcd_gcd_ne _ _ _|exact gcd_ne_r (by omega))),ks,ks,(kd2 fun _ _ _ _ _ X0 _ X1=>cPart X0 X1 (by first|exact gcd_den_ne _ _|exact gcd_den_ne' _ _|exact gcd_gcd_ne _ _ _|exact gcd_ne_r (by omega))),(by exact kd2 fun _ _ _ _ _ X0 _ X1=>cMade (r:=Rat.divInt p q) (Vz_le (M:=(max Na Nb)) X0 (by omega)) (Vz_le (M:=(max Na Nb)) X1 (by omega)) (by rw [<-Rat.neg_divInt_neg];exact make_low (by omega))),ks,trivial⟩ fun a7 w7 st7=>Wn ?_;clear st6
   exact wp_ret (rC 4 30 (Vq (max Na Nb) (Rat.divInt p q)) st7 fun cs r4=>r4)
  ·
   refine Wn ?_
   refine rH [(30,4,0),(28,2,0)] [Vb (false),Vb (false)] [⟨2,none,none,28,2,Vz Na (p),VT⟩,⟨3,none,none,28,2,Vz Nb (q),VT⟩,⟨4,none,none,30,4,VT,VT⟩] [(7,Vi (cmpI (q) 0)),(8,Vb (false))] st2 ⟨(by refine kr fun _ A Y h D=>?_;obtain⟨v0,x0,X0⟩:=h.ot 7;have hV0':v0= .int .i64 (cmpI (q) 0):=X0;exact⟨_,run_eqi rfl (x0.trans hV0') rfl,congrArg Value.bool (by rw [cmp0];exact dF hz)⟩),ks,trivial⟩ ?_;intro a3 w3 st3;clear st2;refine Wn ?_
   refine cF st3 ?_;refine Wn ?_
   refine rH [(30,4,0),(28,2,0)] [Vb (false),Vb (false)] [⟨2,none,none,28,2,Vz Na (p),VT⟩,⟨3,none,none,28,2,Vz Nb (q),VT⟩,⟨4,none,none,30,4,VT,VT⟩] [(7,Vi (cmpI (q) 0)),(8,Vb (false)),(11,Vb (false))] st3 ⟨(by refine kr fun _ A Y h D=>?_;obtain⟨v0,x0,X0⟩:=h.ot 7;have hV0':v0= .int .i64 (cmpI (q) 0):=X0;exact⟨_,run_eqi rfl (x0.trans hV0') rfl,congrArg Value.bool (by rw [cmp_gt (by omega)];rfl)⟩),ks,trivial⟩ ?_;intro a4 w4 st4;clear st3;refine Wn ?_
   refine cF st4 ?_;refine Wn ?_
   refine rH [(30,4,0),(28,2,0)] [Vz Na (p),Vz Nb (q),Vz (max Na Nb) ((Int.gcd (p) (q):Int)),VT,VT] [⟨2,none,none,28,2,Vz Na (p),VT⟩,⟨3,none,none,28,2,Vz Nb (q),VT⟩,⟨4,none,none,30,4,VT,VT⟩,⟨5,some 3,some 4,28,2,Vz (max Na Nb) ((Int.gcd (p) (q):Int)),VT⟩] [(7,Vi (cmpI (q) 0)),(8,Vb (false)),(11,Vb (false))] st4 ⟨ks,ks,(kd2 fun _ _ _ _ _ X0 _ X1=>(cGcd X0 X1)),ks,ks,trivial⟩ fun a5 w5 st5=>Wn ?_;clear st4
   refine rH [(30,4,0),(28,2,0)] [Vz Na (p),Vz (max Na Nb) ((Int.gcd (p) (q):Int)),Vz Na ((p) / ((Int.gcd (p) (q):Int))),Vz Nb (q),Vz (max Na Nb) ((Int.gcd (p) (q):Int)),Vz Nb ((q) / ((Int.gcd (p) (q):Int))),Vq (max Na Nb) (Rat.divInt p q),VT] [⟨2,none,none,28,2,Vz Na (p),VT⟩,⟨3,none,none,28,2,Vz Nb (q),VT⟩,⟨4,none,some 7,30,4,Vq (max Na Nb) (Rat.divInt p q),VT⟩,⟨5,none,none,28,2,Vz (max Na Nb) ((Int.gcd (p) (q):Int)),VT⟩] [(7,Vi (cmpI (q) 0)),(8,Vb (false)),(11,Vb (false))] st5 ⟨ks,ks,(kd2 fun _ _ _ _ _ X0 _ X1=>cPart X0 X1 (by first|exact gcd_den_ne _ _|exact gcd_den_ne' _ _|exact gcd_gcd_ne _ _ _|exact gcd_ne_r (by omega))),ks,ks,(kd2 fun _ _ _ _ _ X0 _ X1=>cPart X0 X1 (by first|exact gcd_den_ne _ _|exact gcd_den_ne' _ _|exact gcd_gcd_ne _ _ _|exact gcd_ne_r (by omega))),(kd2 fun _ _ _ _ _ X0 _ X1=>cMade (r:=Rat.divInt p q) (Vz_le (M:=(max Na Nb)) X0 (by omega)) (Vz_le (M:=(max Na Nb)) X1 (by omega)) (make_low (by omega))),ks,trivial⟩ fun a6 w6 st6=>Wn ?_;clear st5
   exact wp_ret (rC 4 30 (Vq (max Na Nb) (Rat.divInt p q)) st6 fun cs r4=>r4)
theorem cQOf {w:World}{p q:Int}{v0 v1:Value}(h0:Vi (p) v0 w)(h1:Vi (q) v1 w)(hp0: -9223372036854775808<=p:=by omega)(hp1:p<=9223372036854775807:=by omega)(hq0: -9223372036854775808<=q:=by omega)(hq1:q<=9223372036854775807:=by omega):Calls Tryz.prog 59 #[v0,v1] w (RV (Vq 3 (Rat.divInt p q)) w):=by
 go_enter Tryz.func59,Tryz.ntmps59
 generalize hA:(⟨_,_⟩:Act)=a0;have st0:St w.heap.size w 10 [] [(0,Vi (p)),(1,Vi (q))] a0 w:=by subst hA;exact St.begin rfl rfl (Lq.2 ⟨⟨_,rfl,h0⟩,(Lq.2 ⟨⟨_,rfl,h1⟩,L0⟩)⟩)
 clear hA;refine Wn ?_
 refine rH [(30,4,0)] [VT] [⟨4,some 0,none,30,4,VT,VT⟩] [(0,Vi (p)),(1,Vi (q))] st0 ⟨ks,trivial⟩ fun a1 w1 st1=>Wn ?_;clear st0
 refine rH [(30,4,0)] [Vi (p),Vz 3 (p),Vi (q),Vz 3 (q),Vq 3 (Rat.divInt (p) (q)),VT] [⟨4,none,some 5,30,4,Vq 3 (Rat.divInt (p) (q)),VT⟩] [] st1 ⟨ks,(kd1 fun _ _ _ _ _ X0=>cOfV X0),ks,(kd1 fun _ _ _ _ _ X0=>cOfV X0),(kd2 fun _ _ _ _ _ X0 _ X1=>cQMake X0 X1),ks,trivial⟩ fun a2 w2 st2=>Wn ?_;clear st1
 exact wp_ret (rC 4 30 (Vq 3 (Rat.divInt (p) (q))) st2 fun cs r4=>r4)
theorem cQValid {w:World}{N:Nat}{q:Rat}{v0:Value}(h0:Vq N (q) v0 w)(hN:N<=100000:=by omega):Calls Tryz.prog 97 #[v0] w (RV (Vb true) w):=by
 go_enter Tryz.func97,Tryz.ntmps97
 generalize hA:(⟨_,_⟩:Act)=a0;have st0:St w.heap.size w 38 [] [(0,Vq N (q))] a0 w:=by subst hA;exact St.begin rfl rfl (Lq.2 ⟨⟨_,rfl,h0⟩,L0⟩)
 clear hA;refine Wn ?_
 refine rH [] [VT,Vb (false)] [⟨1,some 0,some 0,30,4,Vq N (q),VT⟩] [(2,Vb (false))] st0 ⟨ks,ks,trivial⟩ fun a1 w1 st1=>Wn ?_;clear st0
 refine rH [] [Vpt a1 1 0,Vz N ((q).num),Vb (true),Vb (false),Vb (false),Vpt a1 1 2,Vz N (qd (q)),Vb (true),Vb (false),Vb (false),Vb (false)] [⟨1,none,none,30,4,Vq N (q),VT⟩] [(2,Vb (false)),(3,Vb (false))] st1 ⟨ks,ks,(kd1 fun _ _ _ _ _ X0=>cZValid X0),ks,ks,ks,ks,(kd1 fun _ _ _ _ _ X0=>cZValid X0),ks,ks,ks,trivial⟩ fun a2 w2 st2=>Wn ?_;clear st1
 refine cF st2 ?_;by_cases hd1:q.den=1
 ·
  refine Wn ?_
  refine rH [] [Vpt a2 1 2,Vpt a2 1 3,VD N (qd (q)),Vi (((digs (qd (q)).natAbs).length:Int)),Vb (true),Vb (true)] [⟨1,none,none,30,4,Vq N (q),VT⟩] [(2,Vb (false)),(3,Vb (false)),(14,Vb (true))] st2 ⟨ks,ks,ks,(by refine kr fun _ A Y h D=>?_;obtain⟨v0,x0,X0⟩:=h.dp D 17;obtain⟨pp,nn,cc,rfl,hnn,-⟩:=X0;exact⟨_,run_len rfl rfl x0,by rw [hnn];rfl⟩),(by refine kr fun _ A Y h D=>?_;obtain⟨v0,x0,X0⟩:=h.dp D 18;have hV0':v0= .int .i64 (((digs (qd (q)).natAbs).length:Int)):=X0;exact⟨_,run_eqi rfl (x0.trans hV0') rfl,congrArg Value.bool (by rw [len_eq0];exact dT ((qd0 q).2 hd1))⟩),ks,trivial⟩ ?_;intro a3 w3 st3;clear st2;refine Wn ?_
  refine cT st3 ?_;refine Wn ?_
  refine rH [] [Vb (true)] [⟨1,none,none,30,4,Vq N (q),VT⟩] [(3,Vb (false)),(14,Vb (true)),(2,Vb (true))] st3 ⟨ks,trivial⟩ fun a4 w4 st4=>Wn ?_;clear st3
  exact wp_ret (rS 2 (Vb (true)) st4 fun vr r4=>r4)
 ·
  refine Wn ?_
  refine rH [] [Vpt a2 1 2,Vpt a2 1 3,VD N (qd (q)),Vi (((digs (qd (q)).natAbs).length:Int)),Vb (false),Vb (false)] [⟨1,none,none,30,4,Vq N (q),VT⟩] [(2,Vb (false)),(3,Vb (false)),(14,Vb (false))] st2 ⟨ks,ks,ks,(by refine kr fun _ A Y h D=>?_;obtain⟨v0,x0,X0⟩:=h.dp D 17;obtain⟨pp,nn,cc,rfl,hnn,-⟩:=X0;exact⟨_,run_len rfl rfl x0,by rw [hnn];rfl⟩),(by refine kr fun _ A Y h D=>?_;obtain⟨v0,x0,X0⟩:=h.dp D 18;have hV0':v0= .int .i64 (((digs (qd (q)).natAbs).length:Int)):=X0;exact⟨_,run_eqi rfl (x0.trans hV0') rfl,congrArg Value.bool (by rw [len_eq0];exact dF (fun e=>hd1 ((qd0 q).1 e)))⟩),ks,trivial⟩ ?_;intro a3 w3 st3;clear st2;refine Wn ?_
  refine cF st3 ?_;refine Wn ?_
  refine rH [] [Vpt a3 1 2,Vz N (qd (q)),Vi (cmpI (qd (q)) 0),Vb (true),Vb (true),Vpt a3 1 2,Vz N (qd (q)),Vb (false),Vb (true),Vb (true),Vb (true),Vpt a3 1 0,Vz N ((q).num),Vpt a3 1 2,Vz N (qd (q)),Vz (max N N) ((Int.gcd ((q).num) (qd (q)):Int)),Vb (true),Vb (true),Vb (true)] [⟨1,none,none,30,4,Vq N (q),VT⟩] [(3,Vb (false)),(14,Vb (false)),(2,Vb (true))] st3 ⟨ks,ks,(kd1 fun _ _ _ _ _ X0=>cSign X0),(by refine kr fun _ A Y h D=>?_;obtain⟨v0,x0,X0⟩:=h.dp D 22;have hV0':v0= .int .i64 (cmpI (qd (q)) 0):=X0;exact⟨_,run_gtri rfl (x0.trans hV0') rfl,congrArg Value.bool (by rw [cmp_gt (by rw [qd_of hd1];have:=q.den_pos;omega)];rfl)⟩),ks,ks,ks,(by exact kd1 fun _ _ _ h _ X0=>(cOne X0).mono fun e w h=>h.le fun v w hv=>hv.trans (congrArg Value.bool (dF (by rw [qd_of hd1];omega)))),ks,ks,ks,ks,ks,ks,ks,(kd2 fun _ _ _ _ _ X0 _ X1=>(cGcd X0 X1)),(by exact kd1 fun _ _ _ h _ X0=>(cOne X0).mono fun e w h=>h.le fun v w hv=>hv.trans (congrArg Value.bool (dT (by rw [qd_of hd1];exact congrArg Int.ofNat q.reduced)))),ks,ks,trivial⟩ ?_;intro a4 w4 st4;clear st3;refine Wn ?_
  exact wp_ret (rS 2 (Vb (true)) st4 fun vr r4=>r4)
section
variable {BT:List (TypeId×Nat×Nat)}
def Vv (N:Nat)(x y:Rat):VP:=VP2 4 4 (Vq N x) (Vq N y)
theorem Stab_Vv (N:Nat)(x y:Rat):Stab BT (Vv N x y):=Stab_VP2 (Stab_Vq _ _) (Stab_Vq _ _)
theorem AggV_Vv (N:Nat)(x y:Rat):AggV 8 (Vv N x y):=AggV_VP2 (AggV_Vq _ _) (AggV_Vq _ _)
def Vp (N:Nat)(c s x y:Rat):VP:=VP2 8 8 (Vv N c s) (Vv N x y)
theorem Stab_Vp (N:Nat)(c s x y:Rat):Stab BT (Vp N c s x y):=Stab_VP2 (Stab_Vv _ _ _) (Stab_Vv _ _ _)
theorem AggV_Vp (N:Nat)(c s x y:Rat):AggV 16 (Vp N c s x y):=AggV_VP2 (AggV_Vv _ _ _) (AggV_Vv _ _ _)
theorem VP2_le {k1 k2:Nat}{A B A' B':VP}{v:Value}{w:World}(h:VP2 k1 k2 A B v w)(hA:∀v,A v w->A' v w)(hB:∀v,B v w->B' v w):VP2 k1 k2 A' B' v w:=by
 obtain⟨x,y,h1,h2,h3,h4,h5⟩:=h;exact⟨x,y,h1,h2,h3,hA _ h4,hB _ h5⟩
theorem Vv_le {N M:Nat}{x y:Rat}{v:Value}{w:World}(h:Vv N x y v w)(hM:N<=M):Vv M x y v w:=VP2_le h (fun _ h=>Vq_le h hM) (fun _ h=>Vq_le h hM)
theorem size_Vec:(Tryz.prog.info? 32).map (·.size)=some 8:=by kernel_rfl
theorem size_pair:(Tryz.prog.info? 110).map (·.size)=some 8:=by kernel_rfl
theorem field_Vec0 (g off:Nat)(W:World):(Instr.fieldAt 32 (.pointer (some ⟨g,off,none⟩)) 0).run Tryz.prog W= .ok (.pointer (some ⟨g,off+0,none⟩)) W:=by go_simp
theorem field_Vec1 (g off:Nat)(W:World):(Instr.fieldAt 32 (.pointer (some ⟨g,off,none⟩)) 1).run Tryz.prog W= .ok (.pointer (some ⟨g,off+4,none⟩)) W:=by go_simp
theorem field_pair0 (g off:Nat)(W:World):(Instr.fieldAt 110 (.pointer (some ⟨g,off,none⟩)) 0).run Tryz.prog W= .ok (.pointer (some ⟨g,off+0,none⟩)) W:=by go_simp
theorem field_pair1 (g off:Nat)(W:World):(Instr.fieldAt 110 (.pointer (some ⟨g,off,none⟩)) 1).run Tryz.prog W= .ok (.pointer (some ⟨g,off+4,none⟩)) W:=by go_simp
theorem alloc_Vec (W:World):(Instr.alloc 32 true (.tuple #[])).run Tryz.prog W= .ok (.pointer (some ⟨W.heap.size,0,none⟩)) (W.alloc (.cells #[.bool false,.slice none 0 0,.bool false,.slice none 0 0,.bool false,.slice none 0 0,.bool false,.slice none 0 0] 32)):=by go_simp
theorem alloc_pair (W:World):(Instr.alloc 110 true (.tuple #[])).run Tryz.prog W= .ok (.pointer (some ⟨W.heap.size,0,none⟩)) (W.alloc (.cells #[.bool false,.slice none 0 0,.bool false,.slice none 0 0,.bool false,.slice none 0 0,.bool false,.slice none 0 0] 110)):=by go_simp
theorem noint_Vec:NoInt #[Value.bool false,.slice none 0 0,.bool false,.slice none 0 0,.bool false,.slice none 0 0,.bool false,.slice none 0 0]:=noint_of (by simp)
theorem noint_pair:NoInt #[Value.bool false,.slice none 0 0,.bool false,.slice none 0 0,.bool false,.slice none 0 0,.bool false,.slice none 0 0]:=noint_of (by simp)
instance (N:Nat)(x y:Rat):Sb BT (Vv N x y):=⟨Stab_Vv N x y⟩
instance (N:Nat)(c s x y:Rat):Sb BT (Vp N c s x y):=⟨Stab_Vp N c s x y⟩
instance (N:Nat)(x y:Rat):Ag (Vv N x y) 8:=⟨AggV_Vv N x y⟩
instance (N:Nat)(c s x y:Rat):Ag (Vp N c s x y) 16:=⟨AggV_Vp N c s x y⟩
instance iSzVec:SzT 32 8:=⟨⟨_,Tryz.underlying32,rfl⟩,size_Vec⟩
instance iFdVec0:FdT 32 0 0:=⟨field_Vec0⟩
instance iFdVec1:FdT 32 1 4:=⟨field_Vec1⟩
instance iAlVec:AlT 32 8:=⟨_,alloc_Vec,rfl,noint_Vec⟩
instance iSzpair:SzT 110 8:=⟨⟨_,Tryz.underlying110,rfl⟩,size_pair⟩
instance iFdpair0:FdT 110 0 0:=⟨field_pair0⟩
instance iFdpair1:FdT 110 1 4:=⟨field_pair1⟩
instance iAlpair:AlT 110 8:=⟨_,alloc_pair,rfl,noint_pair⟩
theorem ext_ext {cs:Array Value}{o1 k1 o2 k2:Nat}(h:o2+k2<=k1):(cs.extract o1 (o1+k1)).extract o2 (o2+k2)=cs.extract (o1+o2) (o1+o2+k2):=by
 rw [Array.extract_extract,show min (o1+(o2+k2)) (o1+k1)=o1+o2+k2 by omega]
instance (N:Nat)(x y:Rat):PtC (Vv N x y) 0 4 (Vq N x):=⟨fun _ _ h=>VP2_fst h⟩
instance (N:Nat)(x y:Rat):PtC (Vv N x y) 4 4 (Vq N y):=⟨fun _ _ h=>VP2_snd h⟩
instance (N:Nat)(c s x y:Rat):PtC (Vp N c s x y) 0 8 (Vv N c s):=⟨fun _ _ h=>VP2_fst h⟩
instance (N:Nat)(c s x y:Rat):PtC (Vp N c s x y) 8 8 (Vv N x y):=⟨fun _ _ h=>VP2_snd h⟩
section
variable {ρ:Operand->Value}{o:Oper}{W:World}{x y:Operand}{va vb:Value}{A B:VP}
theorem build_Vec (ho:o.op= .build 32 #[(0,x),(1,y)])(hx:ρ x=va)(hy:ρ y=vb)(hA:AggV 4 A)(hB:AggV 4 B)(h1:A va W)(h2:B vb W):∃v,(execOp ρ o).run Tryz.prog W= .ok (.value v) W/\VP2 4 4 A B v W:=by
 obtain⟨cx,rfl,e1,-⟩:=hA _ _ h1;obtain⟨cy,rfl,e2,-⟩:=hB _ _ h2;obtain⟨a,b,c,d,rfl⟩:=arr4 e1;obtain⟨a',b',c',d',rfl⟩:=arr4 e2;refine⟨.agg (#[a,b,c,d]++ #[a',b',c',d']),?_,⟨_,_,rfl,rfl,rfl,h1,h2⟩⟩;obtain⟨dd,op,ty,ps,af,gd⟩:=o;subst ho
 go_simp
theorem build_pair (ho:o.op= .build 110 #[(0,x),(1,y)])(hx:ρ x=va)(hy:ρ y=vb)(hA:AggV 4 A)(hB:AggV 4 B)(h1:A va W)(h2:B vb W):∃v,(execOp ρ o).run Tryz.prog W= .ok (.value v) W/\VP2 4 4 A B v W:=by
 obtain⟨cx,rfl,e1,-⟩:=hA _ _ h1;obtain⟨cy,rfl,e2,-⟩:=hB _ _ h2;obtain⟨a,b,c,d,rfl⟩:=arr4 e1;obtain⟨a',b',c',d',rfl⟩:=arr4 e2;refine⟨.agg (#[a,b,c,d]++ #[a',b',c',d']),?_,⟨_,_,rfl,rfl,rfl,h1,h2⟩⟩;obtain⟨dd,op,ty,ps,af,gd⟩:=o;subst ho
 go_simp
def VR1 (V:VP):VP:=fun v w=>∃h cs,v= .slice (some ⟨h,0,none⟩) 1 1/\w.heap[h]? =some (.cells cs 110 (0,0))/\cs.size=8/\V (.agg cs) w
theorem Stab_VR1 {V:VP}(hV:Stab BT V)(hn:BT.any (fun e=>e.1==110 && e.2.1==8)=false):Stab BT (VR1 V):=fun _ _ _ ⟨h,cs,e1,e2,e3,e4⟩ hr=>
 ⟨h,cs,e1,(hr.row h cs _ e2 (BT_not hn e3)).trans e2,e3,hV _ _ _ e4 hr⟩
theorem bslice_pair (ho:o.op= .buildSlice 121 1 #[(0,x)])(hx:ρ x=va)(hA:AggV 8 A)(hS:Stab [] A)(h1:A va W):∃v w',(execOp ρ o).run Tryz.prog W= .ok (.value v) w'/\Below W.heap.size W w'/\VR1 A v w':=by
 obtain⟨cx,rfl,e1,-⟩:=hA _ _ h1
 match cx,e1 with
 |⟨[a,b,c,d,a',b',c',d']⟩,_=>
  refine⟨.slice (some ⟨W.heap.size,0,none⟩) 1 1,W.alloc (.cells #[a,b,c,d,a',b',c',d'] 110),?_,below_new _ _,⟨_,_,rfl,heap_alloc_new _ _,rfl,hS _ _ _ h1 (RI.of_below (below_new _ _))⟩⟩;obtain⟨dd,op,ty,ps,af,gd⟩:=o;subst ho
  go_simp
end
def VAt (w:World)(V:VP):VP:=fun v _=>V v w
theorem Stab_VAt (w:World)(V:VP):Stab BT (VAt w V):=fun _ _ _ h _=>h
instance (w:World)(V:VP):Sb BT (VAt w V):=⟨Stab_VAt w V⟩
def VPtr (V:VP):VP:=fun v w=>∃h cs,v= .pointer (some ⟨h,0,none⟩)/\w.heap[h]? =some (.cells cs 110 (0,0))/\cs.size=8/\V (.agg cs) w
section
variable {ρ:Operand->Value}{o:Oper}{W w:World}{x y:Operand}{va vb:Value}{A:VP}
theorem run_len1 (ho:o.op= .call {callee:= .builtin .len,args:=#[x],argTypes:=#[121]})(hty:o.type=3)(hx:ρ x=va)(h:VAt w (VR1 A) va W):∃v,(execOp ρ o).run Tryz.prog W= .ok (.value v) W/\Vi 1 v W:=by
 obtain⟨h,cs,rfl,-⟩:=h;refine⟨.int .i64 1,?_,rfl⟩;obtain⟨dd,op,ty,ps,af,gd⟩:=o;subst ho;simp only at hty;subst hty
 go_simp
theorem index_pair (ho:o.op= .indexAddr 121 x y)(hx:ρ x=va)(h:VAt w (VR1 A) va W)(hy:ρ y=vb)(hb:Vi 0 vb W):∃v,(execOp ρ o).run Tryz.prog W= .ok (.value v) W/\VAt w (VPtr A) v W:=by
 obtain⟨h,cs,rfl,e2,e3,e4⟩:=h;obtain rfl:=hb;refine⟨.pointer (some ⟨h,0,none⟩),?_,⟨h,cs,rfl,e2,e3,e4⟩⟩;obtain⟨dd,op,ty,ps,af,gd⟩:=o;subst ho
 go_simp
theorem load_pair (ho:o.op= .load 110 x)(hx:ρ x=va)(h:VAt w (VPtr A) va W)(hb:Below w.heap.size w W)(hA:Stab [] A):∃v,(execOp ρ o).run Tryz.prog W= .ok (.value v) W/\A v W:=by
 obtain⟨h,cs,rfl,e2,e3,e4⟩:=h;refine⟨.agg cs,?_,hA _ _ _ e4 (RI.of_below hb)⟩;have e5:=(hb.block _ (lt_blk e2)).trans e2;unfold execOp;simp only [ho,hx,Instr.loadAt,Instr.sureAddr,Sem.run_bind,Sem.run_pure,Result.andThen_ok,run_loadVar_row W h 110 110 cs (0,0) _ e5 Tryz.underlying110 rfl (by rw [e3];exact size_pair)]
end
end
theorem cSumA {w:World}{N:Nat}{a b c d:Rat}{v0 v1:Value}(h0:Vv N (a) (b) v0 w)(h1:VAt w (VR1 (Vv N c d)) v1 w)(hN1:1<=N:=by omega)(hN:N<=20000:=by omega):Calls Tryz.prog 110 #[v0,v1] w (RV (Vq (4*N+1) (a*b+c*d)) w):=by
 go_enter Tryz.func110,Tryz.ntmps110
 generalize hA:(⟨_,_⟩:Act)=a0;have st0:St w.heap.size w 28 [] [(0,Vv N (a) (b)),(1,VAt w (VR1 (Vv N c d)))] a0 w:=by subst hA;exact St.begin rfl rfl (Lq.2 ⟨⟨_,rfl,h0⟩,(Lq.2 ⟨⟨_,rfl,h1⟩,L0⟩)⟩)
 clear hA;refine Wn ?_
 refine rH [(30,4,0),(110,8,0)] [VT,VT] [⟨2,some 0,some 0,110,8,Vv N (a) (b),VT⟩,⟨4,some 1,none,30,4,VT,VT⟩] [(1,VAt w (VR1 (Vv N c d)))] st0 ⟨ks,ks,trivial⟩ fun a1 w1 st1=>Wn ?_;clear st0
 refine rH [(30,4,0),(110,8,0)] [Vpt a1 2 0,Vq N (a),Vpt a1 2 4,Vq N (b),Vq (N+N) ((a)*(b)),VT,VT] [⟨2,none,none,110,8,Vv N (a) (b),VT⟩,⟨4,none,none,30,4,VT,VT⟩,⟨5,some 5,some 6,30,4,Vq (N+N) ((a)*(b)),VT⟩] [(1,VAt w (VR1 (Vv N c d)))] st1 ⟨ks,ks,ks,ks,(kd2 fun _ _ _ _ _ X0 _ X1=>cQMul X0 X1),ks,ks,trivial⟩ fun a2 w2 st2=>Wn ?_;clear st1
 refine rH [(30,4,0),(110,8,0)] [VAt w (VR1 (Vv N c d)),Vi (1),Vi (0)] [⟨2,none,none,110,8,Vv N (a) (b),VT⟩,⟨4,none,none,30,4,VT,VT⟩,⟨5,none,none,30,4,Vq (N+N) ((a)*(b)),VT⟩] [(13,VAt w (VR1 (Vv N c d))),(14,Vi (1)),(15,Vi (0))] st2 ⟨ks,(kr1 13 fun _ _ _ _ _ x0 X0=>run_len1 rfl rfl x0 X0),ks,trivial⟩ ?_;intro a3 w3 st3;clear st2;replace st3:St w.heap.size w 28 [⟨2,none,none,110,8,Vv N (a) (b),VT⟩,⟨4,none,none,30,4,VT,VT⟩,⟨5,none,none,30,4,Vq (N+N) ((a)*(b)),VT⟩] [(13,VAt w (VR1 (Vv N c d))),(14,Vi (1)),(15,Vi (0))] a3 w3:=st3;refine Wn ?_
 refine wp_loop (fun aX wX=>St w.heap.size w 28 [⟨2,none,none,110,8,Vv N (a) (b),VT⟩,⟨4,none,none,30,4,VT,VT⟩,⟨5,none,none,30,4,Vq (N+N) ((a)*(b)),VT⟩] [(13,VAt w (VR1 (Vv N c d))),(14,Vi (1)),(15,Vi (0))] aX wX∨St w.heap.size w 28 [⟨2,none,none,110,8,Vv N (a) (b),VT⟩,⟨4,none,none,30,4,VT,VT⟩,⟨5,none,none,30,4,Vq ((N+N)+(N+N)+1) ((a)*(b)+((c)*(d))),VT⟩,⟨7,none,none,110,8,Vv N (c) (d),VT⟩] [(13,VAt w (VR1 (Vv N c d))),(14,Vi (1)),(15,Vi (1))] aX wX) (fun aX _=>1 - (intOf (aX.eval (.tmp 15))).toNat) (.inl st3) ?_;clear st3;intro aL wL hI;rcases hI with st3|st3
 ·
  have hm0:(intOf (aL.eval (.tmp 15))).toNat=0:=by obtain⟨vv,e1,e2⟩:=st3.slot (15,Vi (0)) (.tail _ (.tail _ (.head _)));rw [e1,e2];rfl
  refine Wn ?_
  refine rH [(30,4,0),(110,8,0)] [Vb (true)] [⟨2,none,none,110,8,Vv N (a) (b),VT⟩,⟨4,none,none,30,4,VT,VT⟩,⟨5,none,none,30,4,Vq (N+N) ((a)*(b)),VT⟩] [(13,VAt w (VR1 (Vv N c d))),(14,Vi (1)),(15,Vi (0)),(16,Vb (true))] st3 ⟨(by refine kr fun _ A Y h D=>?_;obtain⟨v0,x0,X0⟩:=h.ot 15;have hV0':v0= .int .i64 (0):=X0;obtain⟨v1,x1,X1⟩:=h.ot 14;have hV1':v1= .int .i64 (1):=X1;exact⟨_,run_lssi rfl (x0.trans hV0') (x1.trans hV1'),congrArg Value.bool (by decide)⟩),trivial⟩ ?_;intro a4 w4 st4;clear st3;refine Wn ?_
  refine cT st4 ?_;refine Wn ?_
  refine rH [(30,4,0),(110,8,0)] [VAt w (VPtr (Vv N c d)),Vv N (c) (d),VT,VT] [⟨2,none,none,110,8,Vv N (a) (b),VT⟩,⟨4,none,none,30,4,VT,VT⟩,⟨5,none,none,30,4,Vq (N+N) ((a)*(b)),VT⟩,⟨7,some 2,some 3,110,8,Vv N (c) (d),VT⟩] [(13,VAt w (VR1 (Vv N c d))),(14,Vi (1)),(15,Vi (0)),(16,Vb (true))] st4 ⟨(by refine kr fun _ A Y h D=>?_;obtain⟨v0,x0,X0⟩:=h.ot 13;obtain⟨v1,x1,X1⟩:=h.ot 15;exact index_pair rfl x0 X0 x1 X1),(kr1 17 fun _ _ _ h _ x0 X0=>load_pair rfl x0 X0 h.k.below (Stab_Vv _ _ _)),ks,ks,trivial⟩ ?_;intro a5 w5 st5;clear st4;refine Wn ?_
  refine rH [(30,4,0),(110,8,0)] [Vq (N+N) ((a)*(b)),Vpt a5 7 0,Vq N (c),Vpt a5 7 4,Vq N (d),Vq (N+N) ((c)*(d)),Vq ((N+N)+(N+N)+1) (((a)*(b))+((c)*(d))),VT] [⟨2,none,none,110,8,Vv N (a) (b),VT⟩,⟨4,none,none,30,4,VT,VT⟩,⟨5,none,some 7,30,4,Vq ((N+N)+(N+N)+1) (((a)*(b))+((c)*(d))),Vq (N+N) ((a)*(b))⟩,⟨7,none,none,110,8,Vv N (c) (d),VT⟩] [(13,VAt w (VR1 (Vv N c d))),(14,Vi (1)),(15,Vi (0)),(16,Vb (true))] st5 ⟨ks,ks,ks,ks,ks,(kd2 fun _ _ _ _ _ X0 _ X1=>cQMul X0 X1),(kd2 fun _ _ _ _ _ X0 _ X1=>cQAdd X0 X1),ks,trivial⟩ fun a6 w6 st6=>Wn ?_;clear st5
  refine rH [(30,4,0),(110,8,0)] [Vi (1),Vi (1)] [⟨2,none,none,110,8,Vv N (a) (b),VT⟩,⟨4,none,none,30,4,VT,VT⟩,⟨5,none,none,30,4,Vq ((N+N)+(N+N)+1) (((a)*(b))+((c)*(d))),VT⟩,⟨7,none,none,110,8,Vv N (c) (d),VT⟩] [(13,VAt w (VR1 (Vv N c d))),(14,Vi (1)),(16,Vb (true)),(15,Vi (1))] st6 ⟨?s0,ks,trivial⟩ ?_
  case s0=>
   refine k_run0 SbB.out (by kernel_rfl) fun listed A Y h D hnl=>⟨trivial,?_⟩
   obtain⟨v0,x0,X0⟩:=h.out0 hnl (15,Vi (0)) (.tail _ (.tail _ (.head _))) 1 (by kernel_rfl) (.inr (by kernel_rfl));obtain rfl:v0= .int .i64 0:=X0;exact⟨.int .i64 1,run_addi rfl x0 rfl rfl,rfl⟩
  intro a7 w7 st7;clear st6;refine⟨.inr ?_,?_⟩
  ·exact st7.cut
  ·have hm1:(intOf (a7.eval (.tmp 15))).toNat=1:=(by obtain⟨vv,e1,e2⟩:=st7.slot (15,Vi (1)) (.tail _ (.tail _ (.tail _ (.head _))));rw [e1,e2];rfl);show 1 - _<1 - _;rw [hm0,hm1];omega
 ·
  refine Wn ?_
  refine rH [(30,4,0),(110,8,0)] [Vb (false)] [⟨2,none,none,110,8,Vv N (a) (b),VT⟩,⟨4,none,none,30,4,VT,VT⟩,⟨5,none,none,30,4,Vq ((N+N)+(N+N)+1) ((a)*(b)+((c)*(d))),VT⟩,⟨7,none,none,110,8,Vv N (c) (d),VT⟩] [(13,VAt w (VR1 (Vv N c d))),(14,Vi (1)),(15,Vi (1)),(16,Vb (false))] st3 ⟨(by refine kr fun _ A Y h D=>?_;obtain⟨v0,x0,X0⟩:=h.ot 15;have hV0':v0= .int .i64 (1):=X0;obtain⟨v1,x1,X1⟩:=h.ot 14;have hV1':v1= .int .i64 (1):=X1;exact⟨_,run_lssi rfl (x0.trans hV0') (x1.trans hV1'),congrArg Value.bool (by decide)⟩),trivial⟩ ?_;intro a4 w4 st4;clear st3;refine Wn ?_
  refine cF st4 ?_;refine Wn ?_
  refine rH [(30,4,0),(110,8,0)] [Vq ((N+N)+(N+N)+1) ((a)*(b)+((c)*(d))),VT] [⟨2,none,none,110,8,Vv N (a) (b),VT⟩,⟨4,none,some 1,30,4,Vq ((N+N)+(N+N)+1) ((a)*(b)+((c)*(d))),VT⟩,⟨5,none,none,30,4,Vq ((N+N)+(N+N)+1) ((a)*(b)+((c)*(d))),VT⟩,⟨7,none,none,110,8,Vv N (c) (d),VT⟩] [(13,VAt w (VR1 (Vv N c d))),(14,Vi (1)),(15,Vi (1)),(16,Vb (false))] st4 ⟨ks,ks,trivial⟩ fun a5 w5 st5=>Wn ?_;clear st4
  exact wp_ret (rC 4 30 (Vq ((N+N)+(N+N)+1) ((a)*(b)+((c)*(d)))) st5 fun cs r4=>(Vq_le r4 (by omega)))
end Go.Proofs.YteacdbgalloaiaaGreat
