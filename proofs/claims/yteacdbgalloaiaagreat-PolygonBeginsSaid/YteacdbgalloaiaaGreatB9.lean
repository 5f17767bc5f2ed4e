/- Contracts of the packages integer, rat, plane, polygon and their references. -/
import Derived.Test.YteacdbgalloaiaaGreatB8
import Derived.Test.YteacdbgalloaiaaGreatB4
import Derived.Test.YteacdbgalloaiaaGreatB3
set_option linter.unusedVariables false
set_option maxRecDepth 100000
set_option maxHeartbeats 6400000
namespace Go.Proofs.YteacdbgalloaiaaGreat
open Go.RowKit
theorem cQSub {w:World}{Na Nb:Nat}{a b:Rat}{v0 v1:Value}(h0:Vq Na a v0 w)(h1:Vq Nb b v1 w)(h1a:1<=Na:=by omega)(h1b:1<=Nb:=by omega)(hNa:Na<=100000:=by omega)(hNb:Nb<=100000:=by omega):Calls Tryz.prog 144 #[v0,v1] w (RV (Vq (Na+Nb+1) (a - b)) w):=by
 go_enter Tryz.func144,Tryz.ntmps144
 refine Sg 9 [(0,Vq Na a),(1,Vq Nb b)] (Lq.2 ⟨⟨_,rfl,h0⟩,(Lq.2 ⟨⟨_,rfl,h1⟩,L0⟩)⟩) fun a0 st0=>Wn ?_
 refine rH [(30,4,0)] [VT,VT,VT] [⟨2,some 0,some 0,30,4,Vq Na a,VT⟩,⟨3,some 1,some 1,30,4,Vq Nb b,VT⟩,⟨4,some 2,none,30,4,VT,VT⟩] [] st0 ⟨ks,ks,ks,trivial⟩ fun a1 w1 st1=>Wn ?_
 refine rH [(30,4,0)] [Vq Na a,Vq Nb b,Vq Nb (-(b)),Vq (Na+Nb+1) ((a)+(-(b))),VT] [.k 2 30 4 (Vq Na a),.k 3 30 4 (Vq Nb b),⟨4,none,some 4,30,4,Vq (Na+Nb+1) ((a)+(-(b))),VT⟩] [] st1 ⟨ks,ks,(kd1 fun _ _ _ _ _ X0=>cQNeg X0),(kd2 fun _ _ _ _ _ X0 _ X1=>cQAdd X0 X1),ks,trivial⟩ fun a2 w2 st2=>Wn ?_
 exact wp_ret (rC 4 30 (Vq (Na+Nb+1) ((a)+(-(b)))) st2 fun cs r4=>(by rw [Rat.sub_eq_add_neg];exact r4))
theorem cQDiv {w:World}{Na Nb:Nat}{a b:Rat}{v0 v1:Value}(h0:Vq Na a v0 w)(h1:Vq Nb b v1 w)(h1a:1<=Na:=by omega)(h1b:1<=Nb:=by omega)(hNa:Na<=100000:=by omega)(hNb:Nb<=100000:=by omega):Calls Tryz.prog 57 #[v0,v1] w (RV (Vq (Na+Nb) (a / b)) w):=by
 go_enter Tryz.func57,Tryz.ntmps57
 refine Sg 22 [(0,Vq Na a),(1,Vq Nb b)] (Lq.2 ⟨⟨_,rfl,h0⟩,(Lq.2 ⟨⟨_,rfl,h1⟩,L0⟩)⟩) fun a0 st0=>Wn ?_
 refine rH [(30,4,0)] [VT,VT,VT] [⟨2,some 0,some 0,30,4,Vq Na a,VT⟩,⟨3,some 1,some 1,30,4,Vq Nb b,VT⟩,⟨4,some 2,none,30,4,VT,VT⟩] [] st0 ⟨ks,ks,ks,trivial⟩ fun a1 w1 st1=>Wn ?_
 refine rH [(30,4,0)] [Vq Nb b,Vi (cmpI b.num 0)] [.k 2 30 4 (Vq Na a),.k 3 30 4 (Vq Nb b),.k 4 30 4 VT] [(6,Vi (cmpI b.num 0))] st1 ⟨ks,(kd1 fun _ _ _ _ _ X0=>cQSign X0),trivial⟩ ?_;intro a2 w2 st2;by_cases hz:b.num=0
 ·
  refine Wn ?_
  refine rH [(30,4,0)] [Vb true,Vb true] [.k 2 30 4 (Vq Na a),.k 3 30 4 (Vq Nb b),.k 4 30 4 VT] [(6,Vi (cmpI b.num 0)),(7,Vb true)] st2 ⟨(by refine kr fun _ A Y h D=>?_;obtain⟨v0,x0,X0⟩:=h.ot 6;have hV0':v0= .int .i64 (cmpI b.num 0):=X0;exact⟨_,run_eqi rfl (x0.trans hV0') rfl,congrArg Value.bool (by rw [hz,cmp_eq];rfl)⟩),ks,trivial⟩ ?_;intro a3 w3 st3;refine Wn ?_
  refine cT st3 ?_;refine Wn ?_
  refine rH [(30,4,0)] [Vq 1 0,VT] [.k 2 30 4 (Vq Na a),.k 3 30 4 (Vq Nb b),⟨4,none,some 1,30,4,Vq 1 0,VT⟩] [(6,Vi (cmpI b.num 0)),(7,Vb true)] st3 ⟨(kr fun _ A Y h D=>build_Rat0 rfl),ks,trivial⟩ fun a4 w4 st4=>Wn ?_
  exact wp_ret (rC 4 30 (Vq 1 0) st4 fun cs r4=>(by have e:b=0:=Rat.num_eq_zero.1 hz;rw [show a / b=0 by rw [e,Rat.div_def,Rat.inv_zero,Rat.mul_zero]];exact Vq_le r4 (by omega)))
 ·
  by_cases hl:b.num<0
  ·
   refine Wn ?_
   refine rH [(30,4,0)] [Vb false,Vb false] [.k 2 30 4 (Vq Na a),.k 3 30 4 (Vq Nb b),.k 4 30 4 VT] [(6,Vi (cmpI b.num 0)),(7,Vb false)] st2 ⟨(by refine kr fun _ A Y h D=>?_;obtain⟨v0,x0,X0⟩:=h.ot 6;have hV0':v0= .int .i64 (cmpI b.num 0):=X0;exact⟨_,run_eqi rfl (x0.trans hV0') rfl,congrArg Value.bool (by rw [cmp0];exact dF hz)⟩),ks,trivial⟩ ?_;intro a3 w3 st3;refine Wn ?_
   refine cF st3 ?_;refine Wn ?_
   refine rH [(30,4,0)] [Vb true,Vb true] [.k 2 30 4 (Vq Na a),.k 3 30 4 (Vq Nb b),.k 4 30 4 VT] [(6,Vi (cmpI b.num 0)),(7,Vb false),(10,Vb true)] st3 ⟨(by refine kr fun _ A Y h D=>?_;obtain⟨v0,x0,X0⟩:=h.ot 6;have hV0':v0= .int .i64 (cmpI b.num 0):=X0;exact⟨_,run_eqi rfl (x0.trans hV0') rfl,congrArg Value.bool (by rw [cmp_lt hl];rfl)⟩),ks,trivial⟩ ?_;intro a4 w4 st4;refine Wn ?_
   refine cT st4 ?_;refine Wn ?_
   refine rH [(30,4,0)] [Vq Na a,Vq Na (-(a)),Vq Nb b,Vq Nb (-(b)),Vq Nb ((-(b))⁻¹),Vq (Na+Nb) ((-(a))*((-(b))⁻¹)),VT] [.k 2 30 4 (Vq Na a),.k 3 30 4 (Vq Nb b),⟨4,none,some 6,30,4,Vq (Na+Nb) ((-(a))*((-(b))⁻¹)),VT⟩] [(6,Vi (cmpI b.num 0)),(7,Vb false),(10,Vb true)] st4 ⟨ks,(kd1 fun _ _ _ _ _ X0=>cQNeg X0),ks,(kd1 fun _ _ _ _ _ X0=>cQNeg X0),(by exact kd1 fun _ _ _ _ _ X0=>cQInv X0 (by omega) (by omega) (by rw [Rat.neg_num];omega)),(kd2 fun _ _ _ _ _ X0 _ X1=>cQMul X0 X1),ks,trivial⟩ fun a5 w5 st5=>Wn ?_
   exact wp_ret (rC 4 30 (Vq (Na+Nb) ((-(a))*((-(b))⁻¹))) st5 fun cs r4=>(by rw [show a / b= -a*(-b)⁻¹ from div_neg_neg a b];exact r4))
  ·
   refine Wn ?_
   refine rH [(30,4,0)] [Vb false,Vb false] [.k 2 30 4 (Vq Na a),.k 3 30 4 (Vq Nb b),.k 4 30 4 VT] [(6,Vi (cmpI b.num 0)),(7,Vb false)] st2 ⟨(by refine kr fun _ A Y h D=>?_;obtain⟨v0,x0,X0⟩:=h.ot 6;have hV0':v0= .int .i64 (cmpI b.num 0):=X0;exact⟨_,run_eqi rfl (x0.trans hV0') rfl,congrArg Value.bool (by rw [cmp0];exact dF hz)⟩),ks,trivial⟩ ?_;intro a3 w3 st3;refine Wn ?_
   refine cF st3 ?_;refine Wn ?_
   refine rH [(30,4,0)] [Vb false,Vb false] [.k 2 30 4 (Vq Na a),.k 3 30 4 (Vq Nb b),.k 4 30 4 VT] [(6,Vi (cmpI b.num 0)),(7,Vb false),(10,Vb false)] st3 ⟨(by refine kr fun _ A Y h D=>?_;obtain⟨v0,x0,X0⟩:=h.ot 6;have hV0':v0= .int .i64 (cmpI b.num 0):=X0;exact⟨_,run_eqi rfl (x0.trans hV0') rfl,congrArg Value.bool (by rw [cmp_gt (by omega)];rfl)⟩),ks,trivial⟩ ?_;intro a4 w4 st4;refine Wn ?_
   refine cF st4 ?_;refine Wn ?_
   refine rH [(30,4,0)] [Vq Na a,Vq Nb b,Vq Nb ((b)⁻¹),Vq (Na+Nb) ((a)*((b)⁻¹)),VT] [.k 2 30 4 (Vq Na a),.k 3 30 4 (Vq Nb b),⟨4,none,some 4,30,4,Vq (Na+Nb) ((a)*((b)⁻¹)),VT⟩] [(6,Vi (cmpI b.num 0)),(7,Vb false),(10,Vb false)] st4 ⟨ks,ks,(kd1 fun _ _ _ _ _ X0=>cQInv X0),(kd2 fun _ _ _ _ _ X0 _ X1=>cQMul X0 X1),ks,trivial⟩ fun a5 w5 st5=>Wn ?_
   exact wp_ret (rC 4 30 (Vq (Na+Nb) ((a)*((b)⁻¹))) st5 fun cs r4=>(by rw [Rat.div_def];exact r4))
theorem cQCompare {w:World}{Na Nb:Nat}{a b:Rat}{v0 v1:Value}(h0:Vq Na a v0 w)(h1:Vq Nb b v1 w)(h1a:1<=Na:=by omega)(h1b:1<=Nb:=by omega)(hNa:Na<=100000:=by omega)(hNb:Nb<=100000:=by omega):Calls Tryz.prog 32 #[v0,v1] w (RV (Vi (cmpQ a b)) w):=by
 go_enter Tryz.func32,Tryz.ntmps32
 refine Sg 28 [(0,Vq Na a),(1,Vq Nb b)] (Lq.2 ⟨⟨_,rfl,h0⟩,(Lq.2 ⟨⟨_,rfl,h1⟩,L0⟩)⟩) fun a0 st0=>Wn ?_
 refine rH [] [VT,VT,Vi 0] [⟨2,some 0,some 0,30,4,Vq Na a,VT⟩,⟨3,some 1,some 1,30,4,Vq Nb b,VT⟩] [(4,Vi 0)] st0 ⟨ks,ks,ks,trivial⟩ fun a1 w1 st1=>Wn ?_
 refine rH [] [Vq Na a,Vi (cmpI a.num 0),Vq Nb b,Vi (cmpI b.num 0),Vi (cmpI a.num 0),Vi (cmpI b.num 0)] [.k 2 30 4 (Vq Na a),.k 3 30 4 (Vq Nb b)] [(4,Vi 0),(5,Vi (cmpI a.num 0)),(6,Vi (cmpI b.num 0))] st1 ⟨ks,(kd1 fun _ _ _ _ _ X0=>cQSign X0),ks,(kd1 fun _ _ _ _ _ X0=>cQSign X0),ks,ks,trivial⟩ ?_;intro a2 w2 st2;by_cases hs:cmpI a.num 0=cmpI b.num 0
 ·
  refine Wn ?_
  refine rH [] [Vi (cmpI a.num 0),Vi (cmpI b.num 0),Vb false] [.k 2 30 4 (Vq Na a),.k 3 30 4 (Vq Nb b)] [(4,Vi 0),(5,Vi (cmpI a.num 0)),(6,Vi (cmpI b.num 0)),(13,Vb false)] st2 ⟨ks,ks,(by refine kr fun _ A Y h D=>?_;obtain⟨v0,x0,X0⟩:=h.dp D 11;have hV0':v0= .int .i64 (cmpI a.num 0):=X0;obtain⟨v1,x1,X1⟩:=h.dp D 12;have hV1':v1= .int .i64 (cmpI b.num 0):=X1;exact⟨_,run_neqi rfl (x0.trans hV0') (x1.trans hV1'),congrArg Value.bool (by rw [hs];simp)⟩),trivial⟩ ?_;intro a3 w3 st3;refine Wn ?_
  refine cF st3 ?_;refine Wn ?_
  refine rH [] [Vpt a3 2 0,Vz Na a.num,Vq Nb b,Vz Nb (b.den:Int),Vz (Na+Nb) ((a.num)*(b.den:Int)),Vpt a3 3 0,Vz Nb b.num,Vq Na a,Vz Na (a.den:Int),Vz (Nb+Na) ((b.num)*(a.den:Int)),Vi (cmpI ((a.num)*(b.den:Int)) ((b.num)*(a.den:Int))),Vi (cmpI ((a.num)*(b.den:Int)) ((b.num)*(a.den:Int)))] [.k 2 30 4 (Vq Na a),.k 3 30 4 (Vq Nb b)] [(5,Vi (cmpI a.num 0)),(6,Vi (cmpI b.num 0)),(13,Vb false),(4,Vi (cmpI ((a.num)*(b.den:Int)) ((b.num)*(a.den:Int))))] st3 ⟨ks,ks,ks,(kd1 fun _ _ _ _ _ X0=>cDen X0),(kd2 fun _ _ _ _ _ X0 _ X1=>(cMul X0 X1)),ks,ks,ks,(kd1 fun _ _ _ _ _ X0=>cDen X0),(kd2 fun _ _ _ _ _ X0 _ X1=>(cMul X0 X1)),(kd2 fun _ _ _ _ _ X0 _ X1=>(cCompare X0 X1)),ks,trivial⟩ fun a4 w4 st4=>Wn ?_
  exact wp_ret (rS 4 (Vi (cmpI ((a.num)*(b.den:Int)) ((b.num)*(a.den:Int)))) st4 fun vr r4=>r4)
 ·
  refine Wn ?_
  refine rH [] [Vi (cmpI a.num 0),Vi (cmpI b.num 0),Vb true] [.k 2 30 4 (Vq Na a),.k 3 30 4 (Vq Nb b)] [(4,Vi 0),(5,Vi (cmpI a.num 0)),(6,Vi (cmpI b.num 0)),(13,Vb true)] st2 ⟨ks,ks,(kr2 11 12 fun _ _ _ _ _ x0 X0 _ x1 X1=>⟨_,run_neqi rfl (x0.trans X0) (x1.trans X1),congrArg Value.bool (bne_iff_ne.2 hs)⟩),trivial⟩ fun a3 w3 st3=>Wn ?_
  refine cT st3 ?_;refine Wn ?_
  refine rH [] [Vi (cmpI a.num 0),Vi (cmpI b.num 0),Vi (cmpI (cmpI a.num 0) (cmpI b.num 0)),Vi (cmpI (cmpI a.num 0) (cmpI b.num 0))] [.k 2 30 4 (Vq Na a),.k 3 30 4 (Vq Nb b)] [(5,Vi (cmpI a.num 0)),(6,Vi (cmpI b.num 0)),(13,Vb true),(4,Vi (cmpI (cmpI a.num 0) (cmpI b.num 0)))] st3 ⟨ks,ks,(kd2 fun _ _ _ _ _ X0 _ X1=>cCmp X0 X1),ks,trivial⟩ fun a4 w4 st4=>Wn ?_
  exact wp_ret (rS 4 (Vi (cmpI (cmpI a.num 0) (cmpI b.num 0))) st4 fun vr r4=>(by rw [<-cmpQ_sign hs];exact r4))
theorem cQMake {w:World}{Na Nb:Nat}{p q:Int}{v0 v1:Value}(h0:Vz Na p v0 w)(h1:Vz Nb q v1 w)(h1a:1<=Na:=by omega)(h1b:1<=Nb:=by omega)(hNa:Na<=100000:=by omega)(hNb:Nb<=100000:=by omega):Calls Tryz.prog 103 #[v0,v1] w (RV (Vq (max Na Nb) (Rat.divInt p q)) w):=by
 go_enter Tryz.func103,Tryz.ntmps103
 refine Sg 27 [(0,Vz Na p),(1,Vz Nb q)] (Lq.2 ⟨⟨_,rfl,h0⟩,(Lq.2 ⟨⟨_,rfl,h1⟩,L0⟩)⟩) fun a0 st0=>Wn ?_
 refine rH [(30,4,0),(28,2,0)] [VT,VT,VT] [⟨2,some 0,some 0,28,2,Vz Na p,VT⟩,⟨3,some 1,some 1,28,2,Vz Nb q,VT⟩,⟨4,some 2,none,30,4,VT,VT⟩] [] st0 ⟨ks,ks,ks,trivial⟩ fun a1 w1 st1=>Wn ?_
 refine rH [(30,4,0),(28,2,0)] [Vz Nb q,Vi (cmpI q 0)] [.k 2 28 2 (Vz Na p),.k 3 28 2 (Vz Nb q),.k 4 30 4 VT] [(7,Vi (cmpI q 0))] st1 ⟨ks,(kd1 fun _ _ _ _ _ X0=>cSign X0),trivial⟩ ?_;intro a2 w2 st2;by_cases hz:q=0
 ·
  refine Wn ?_
  refine rH [(30,4,0),(28,2,0)] [Vb true,Vb true] [.k 2 28 2 (Vz Na p),.k 3 28 2 (Vz Nb q),.k 4 30 4 VT] [(7,Vi (cmpI q 0)),(8,Vb true)] st2 ⟨(by refine kr fun _ A Y h D=>?_;obtain⟨v0,x0,X0⟩:=h.ot 7;have hV0':v0= .int .i64 (cmpI q 0):=X0;exact⟨_,run_eqi rfl (x0.trans hV0') rfl,congrArg Value.bool (by rw [hz,cmp_eq];rfl)⟩),ks,trivial⟩ ?_;intro a3 w3 st3;refine Wn ?_
  refine cT st3 ?_;refine Wn ?_
  refine rH [(30,4,0),(28,2,0)] [Vq 1 0,VT] [.k 2 28 2 (Vz Na p),.k 3 28 2 (Vz Nb q),⟨4,none,some 1,30,4,Vq 1 0,VT⟩] [(7,Vi (cmpI q 0)),(8,Vb true)] st3 ⟨(kr fun _ A Y h D=>build_Rat0 rfl),ks,trivial⟩ fun a4 w4 st4=>Wn ?_
  exact wp_ret (rC 4 30 (Vq 1 0) st4 fun cs r4=>(by rw [hz,Rat.divInt_zero];exact Vq_le r4 (by omega)))
 ·
  by_cases hl:q<0
  ·
   refine Wn ?_
   refine rH [(30,4,0),(28,2,0)] [Vb false,Vb false] [.k 2 28 2 (Vz Na p),.k 3 28 2 (Vz Nb q),.k 4 30 4 VT] [(7,Vi (cmpI q 0)),(8,Vb false)] st2 ⟨(by refine kr fun _ A Y h D=>?_;obtain⟨v0,x0,X0⟩:=h.ot 7;have hV0':v0= .int .i64 (cmpI q 0):=X0;exact⟨_,run_eqi rfl (x0.trans hV0') rfl,congrArg Value.bool (by rw [cmp0];exact dF hz)⟩),ks,trivial⟩ ?_;intro a3 w3 st3;refine Wn ?_
   refine cF st3 ?_;refine Wn ?_
   refine rH [(30,4,0),(28,2,0)] [Vb true,Vb true] [.k 2 28 2 (Vz Na p),.k 3 28 2 (Vz Nb q),.k 4 30 4 VT] [(7,Vi (cmpI q 0)),(8,Vb false),(11,Vb true)] st3 ⟨(by refine kr fun _ A Y h D=>?_;obtain⟨v0,x0,X0⟩:=h.ot 7;have hV0':v0= .int .i64 (cmpI q 0):=X0;exact⟨_,run_eqi rfl (x0.trans hV0') rfl,congrArg Value.bool (by rw [cmp_lt hl];rfl)⟩),ks,trivial⟩ ?_;intro a4 w4 st4;refine Wn ?_
   refine cT st4 ?_;refine Wn ?_
   refine rH [(30,4,0),(28,2,0)] [Vz Na p,Vz Na (-(p)),Vz Nb q,Vz Nb (-(q)),VT,VT] [⟨2,none,some 4,28,2,Vz Na (-(p)),Vz Na p⟩,⟨3,none,some 5,28,2,Vz Nb (-(q)),Vz Nb q⟩,.k 4 30 4 VT] [(7,Vi (cmpI q 0)),(8,Vb false),(11,Vb true)] st4 ⟨ks,(kd1 fun _ _ _ _ _ X0=>cNeg X0),ks,(kd1 fun _ _ _ _ _ X0=>cNeg X0),ks,ks,trivial⟩ fun a5 w5 st5=>Wn ?_
   refine rH [(30,4,0),(28,2,0)] [Vz Na (-(p)),Vz Nb (-(q)),Vz (max Na Nb) (Int.gcd (-(p)) (-(q)):Int),VT,VT] [.k 2 28 2 (Vz Na (-(p))),.k 3 28 2 (Vz Nb (-(q))),.k 4 30 4 VT,⟨5,some 3,some 4,28,2,Vz (max Na Nb) (Int.gcd (-(p)) (-(q)):Int),VT⟩] [(7,Vi (cmpI q 0)),(8,Vb false),(11,Vb true)] st5 ⟨ks,ks,(kd2 fun _ _ _ _ _ X0 _ X1=>(cGcd X0 X1)),ks,ks,trivial⟩ fun a6 w6 st6=>Wn ?_
   refine rH [(30,4,0),(28,2,0)] [Vz Na (-(p)),Vz (max Na Nb) (Int.gcd (-(p)) (-(q)):Int),Vz Na ((-(p)) / (Int.gcd (-(p)) (-(q)):Int)),Vz Nb (-(q)),Vz (max Na Nb) (Int.gcd (-(p)) (-(q)):Int),Vz Nb ((-(q)) / (Int.gcd (-(p)) (-(q)):Int)),Vq (max Na Nb) (Rat.divInt p q),VT] [.k 2 28 2 (Vz Na (-(p))),.k 3 28 2 (Vz Nb (-(q))),⟨4,none,some 7,30,4,Vq (max Na Nb) (Rat.divInt p q),VT⟩,.k 5 28 2 (Vz (max Na Nb) (Int.gcd (-(p)) (-(q)):Int))] [(7,Vi (cmpI q 0)),(8,Vb false),(11,Vb true)] st6 ⟨ks,ks,(kd2 fun _ _ _ _ _ X0 _ X1=>cPart X0 X1 (by first|exact gcd_den_ne _ _|exact gcd_den_ne' _ _|exact gcd_gcd_ne _ _ _|exact gcd_ne_r (by omega))),ks,ks,(kd2 fun _ _ _ _ _ X0 _ X1=>cPart X0 X1 (by first|exact gcd_den_ne _ _|exact gcd_den_ne' _ _|exact gcd_gcd_ne _ _ _|exact gcd_ne_r (by omega))),(by exact kd2 fun _ _ _ _ _ X0 _ X1=>cMade (r:=Rat.divInt p q) (Vz_le (M:=(max Na Nb)) X0 (by omega)) (Vz_le (M:=(max Na Nb)) X1 (by omega)) (by rw [<-Rat.neg_divInt_neg];exact make_low (by omega))),ks,trivial⟩ fun a7 w7 st7=>Wn ?_
   exact wp_ret (rC 4 30 (Vq (max Na Nb) (Rat.divInt p q)) st7 fun cs r4=>r4)
  ·
   refine Wn ?_
   refine rH [(30,4,0),(28,2,0)] [Vb false,Vb false] [.k 2 28 2 (Vz Na p),.k 3 28 2 (Vz Nb q),.k 4 30 4 VT] [(7,Vi (cmpI q 0)),(8,Vb false)] st2 ⟨(by refine kr fun _ A Y h D=>?_;obtain⟨v0,x0,X0⟩:=h.ot 7;have hV0':v0= .int .i64 (cmpI q 0):=X0;exact⟨_,run_eqi rfl (x0.trans hV0') rfl,congrArg Value.bool (by rw [cmp0];exact dF hz)⟩),ks,trivial⟩ ?_;intro a3 w3 st3;refine Wn ?_
   refine cF st3 ?_;refine Wn ?_
   refine rH [(30,4,0),(28,2,0)] [Vb false,Vb false] [.k 2 28 2 (Vz Na p),.k 3 28 2 (Vz Nb q),.k 4 30 4 VT] [(7,Vi (cmpI q 0)),(8,Vb false),(11,Vb false)] st3 ⟨(by refine kr fun _ A Y h D=>?_;obtain⟨v0,x0,X0⟩:=h.ot 7;have hV0':v0= .int .i64 (cmpI q 0):=X0;exact⟨_,run_eqi rfl (x0.trans hV0') rfl,congrArg Value.bool (by rw [cmp_gt (by omega)];rfl)⟩),ks,trivial⟩ ?_;intro a4 w4 st4;refine Wn ?_
   refine cF st4 ?_;refine Wn ?_
   refine rH [(30,4,0),(28,2,0)] [Vz Na p,Vz Nb q,Vz (max Na Nb) (Int.gcd p (q):Int),VT,VT] [.k 2 28 2 (Vz Na p),.k 3 28 2 (Vz Nb q),.k 4 30 4 VT,⟨5,some 3,some 4,28,2,Vz (max Na Nb) (Int.gcd p (q):Int),VT⟩] [(7,Vi (cmpI q 0)),(8,Vb false),(11,Vb false)] st4 ⟨ks,ks,(kd2 fun _ _ _ _ _ X0 _ X1=>(cGcd X0 X1)),ks,ks,trivial⟩ fun a5 w5 st5=>Wn ?_
   refine rH [(30,4,0),(28,2,0)] [Vz Na p,Vz (max Na Nb) (Int.gcd p (q):Int),Vz Na ((p) / (Int.gcd p (q):Int)),Vz Nb q,Vz (max Na Nb) (Int.gcd p (q):Int),Vz Nb ((q) / (Int.gcd p (q):Int)),Vq (max Na Nb) (Rat.divInt p q),VT] [.k 2 28 2 (Vz Na p),.k 3 28 2 (Vz Nb q),⟨4,none,some 7,30,4,Vq (max Na Nb) (Rat.divInt p q),VT⟩,.k 5 28 2 (Vz (max Na Nb) (Int.gcd p (q):Int))] [(7,Vi (cmpI q 0)),(8,Vb false),(11,Vb false)] st5 ⟨ks,ks,(kd2 fun _ _ _ _ _ X0 _ X1=>cPart X0 X1 (by first|exact gcd_den_ne _ _|exact gcd_den_ne' _ _|exact gcd_gcd_ne _ _ _|exact gcd_ne_r (by omega))),ks,ks,(kd2 fun _ _ _ _ _ X0 _ X1=>cPart X0 X1 (by first|exact gcd_den_ne _ _|exact gcd_den_ne' _ _|exact gcd_gcd_ne _ _ _|exact gcd_ne_r (by omega))),(kd2 fun _ _ _ _ _ X0 _ X1=>cMade (r:=Rat.divInt p q) (Vz_le (M:=(max Na Nb)) X0 (by omega)) (Vz_le (M:=(max Na Nb)) X1 (by omega)) (make_low (by omega))),ks,trivial⟩ fun a6 w6 st6=>Wn ?_
   exact wp_ret (rC 4 30 (Vq (max Na Nb) (Rat.divInt p q)) st6 fun cs r4=>r4)
theorem cQOf {w:World}{p q:Int}{v0 v1:Value}(h0:Vi p v0 w)(h1:Vi q v1 w)(hp0: -9223372036854775808<=p:=by omega)(hp1:p<=9223372036854775807:=by omega)(hq0: -9223372036854775808<=q:=by omega)(hq1:q<=9223372036854775807:=by omega):Calls Tryz.prog 59 #[v0,v1] w (RV (Vq 3 (Rat.divInt p q)) w):=by
 go_enter Tryz.func59,Tryz.ntmps59
 refine Sg 10 [(0,Vi p),(1,Vi q)] (Lq.2 ⟨⟨_,rfl,h0⟩,(Lq.2 ⟨⟨_,rfl,h1⟩,L0⟩)⟩) fun a0 st0=>Wn ?_
 refine rH [(30,4,0)] [VT] [⟨4,some 0,none,30,4,VT,VT⟩] [(0,Vi p),(1,Vi q)] st0 ⟨ks,trivial⟩ fun a1 w1 st1=>Wn ?_
 refine rH [(30,4,0)] [Vi p,Vz 3 p,Vi q,Vz 3 q,Vq 3 (Rat.divInt p q),VT] [⟨4,none,some 5,30,4,Vq 3 (Rat.divInt p q),VT⟩] [] st1 ⟨ks,(kd1 fun _ _ _ _ _ X0=>cOfV X0),ks,(kd1 fun _ _ _ _ _ X0=>cOfV X0),(kd2 fun _ _ _ _ _ X0 _ X1=>cQMake X0 X1),ks,trivial⟩ fun a2 w2 st2=>Wn ?_
 exact wp_ret (rC 4 30 (Vq 3 (Rat.divInt p q)) st2 fun cs r4=>r4)
theorem cQValid {w:World}{N:Nat}{q:Rat}{v0:Value}(h0:Vq N q v0 w)(hN:N<=100000:=by omega):Calls Tryz.prog 97 #[v0] w (RV (Vb true) w):=by
 go_enter Tryz.func97,Tryz.ntmps97
 refine Sg 38 [(0,Vq N q)] (Lq.2 ⟨⟨_,rfl,h0⟩,L0⟩) fun a0 st0=>Wn ?_
 refine rH [] [VT,Vb false] [⟨1,some 0,some 0,30,4,Vq N q,VT⟩] [(2,Vb false)] st0 ⟨ks,ks,trivial⟩ fun a1 w1 st1=>Wn ?_
 refine rH [] [Vpt a1 1 0,Vz N q.num,Vb true,Vb false,Vb false,Vpt a1 1 2,Vz N (qd q),Vb true,Vb false,Vb false,Vb false] [.k 1 30 4 (Vq N q)] [(2,Vb false),(3,Vb false)] st1 ⟨ks,ks,(kd1 fun _ _ _ _ _ X0=>cZValid X0),ks,ks,ks,ks,(kd1 fun _ _ _ _ _ X0=>cZValid X0),ks,ks,ks,trivial⟩ fun a2 w2 st2=>Wn ?_
 refine cF st2 ?_;by_cases hd1:q.den=1
 ·
  refine Wn ?_
  refine rH [] [Vpt a2 1 2,Vpt a2 1 3,VD N (qd q),Vi ((digs (qd q).natAbs).length:Int),Vb true,Vb true] [.k 1 30 4 (Vq N q)] [(2,Vb false),(3,Vb false),(14,Vb true)] st2 ⟨ks,ks,ks,(by refine kr fun _ A Y h D=>?_;obtain⟨v0,x0,X0⟩:=h.dp D 17;obtain⟨pp,nn,cc,rfl,hnn,-⟩:=X0;exact⟨_,run_len rfl rfl x0,by rw [hnn];rfl⟩),(by refine kr fun _ A Y h D=>?_;obtain⟨v0,x0,X0⟩:=h.dp D 18;have hV0':v0= .int .i64 ((digs (qd q).natAbs).length:Int):=X0;exact⟨_,run_eqi rfl (x0.trans hV0') rfl,congrArg Value.bool (by rw [len_eq0];exact dT ((qd0 q).2 hd1))⟩),ks,trivial⟩ ?_;intro a3 w3 st3;refine Wn ?_
  refine cT st3 ?_;refine Wn ?_
  refine rH [] [Vb true] [.k 1 30 4 (Vq N q)] [(3,Vb false),(14,Vb true),(2,Vb true)] st3 ⟨ks,trivial⟩ fun a4 w4 st4=>Wn ?_
  exact wp_ret (rS 2 (Vb true) st4 fun vr r4=>r4)
 ·
  refine Wn ?_
  refine rH [] [Vpt a2 1 2,Vpt a2 1 3,VD N (qd q),Vi ((digs (qd q).natAbs).length:Int),Vb false,Vb false] [.k 1 30 4 (Vq N q)] [(2,Vb false),(3,Vb false),(14,Vb false)] st2 ⟨ks,ks,ks,(by refine kr fun _ A Y h D=>?_;obtain⟨v0,x0,X0⟩:=h.dp D 17;obtain⟨pp,nn,cc,rfl,hnn,-⟩:=X0;exact⟨_,run_len rfl rfl x0,by rw [hnn];rfl⟩),(by refine kr fun _ A Y h D=>?_;obtain⟨v0,x0,X0⟩:=h.dp D 18;have hV0':v0= .int .i64 ((digs (qd q).natAbs).length:Int):=X0;exact⟨_,run_eqi rfl (x0.trans hV0') rfl,congrArg Value.bool (by rw [len_eq0];exact dF (fun e=>hd1 ((qd0 q).1 e)))⟩),ks,trivial⟩ ?_;intro a3 w3 st3;refine Wn ?_
  refine cF st3 ?_;refine Wn ?_
  refine rH [] [Vpt a3 1 2,Vz N (qd q),Vi (cmpI (qd q) 0),Vb true,Vb true,Vpt a3 1 2,Vz N (qd q),Vb false,Vb true,Vb true,Vb true,Vpt a3 1 0,Vz N q.num,Vpt a3 1 2,Vz N (qd q),Vz (max N N) (Int.gcd q.num (qd q):Int),Vb true,Vb true,Vb true] [.k 1 30 4 (Vq N q)] [(3,Vb false),(14,Vb false),(2,Vb true)] st3 ⟨ks,ks,(kd1 fun _ _ _ _ _ X0=>cSign X0),(by refine kr fun _ A Y h D=>?_;obtain⟨v0,x0,X0⟩:=h.dp D 22;have hV0':v0= .int .i64 (cmpI (qd q) 0):=X0;exact⟨_,run_gtri rfl (x0.trans hV0') rfl,congrArg Value.bool (by rw [cmp_gt (by rw [qd_of hd1];have:=q.den_pos;omega)];rfl)⟩),ks,ks,ks,(by exact kd1 fun _ _ _ h _ X0=>(cOne X0).mono fun e w h=>h.le fun v w hv=>hv.trans (congrArg Value.bool (dF (by rw [qd_of hd1];omega)))),ks,ks,ks,ks,ks,ks,ks,(kd2 fun _ _ _ _ _ X0 _ X1=>(cGcd X0 X1)),(by exact kd1 fun _ _ _ h _ X0=>(cOne X0).mono fun e w h=>h.le fun v w hv=>hv.trans (congrArg Value.bool (dT (by rw [qd_of hd1];exact congrArg Int.ofNat q.reduced)))),ks,ks,trivial⟩ ?_;intro a4 w4 st4;refine Wn ?_
  exact wp_ret (rS 2 (Vb true) st4 fun vr r4=>r4)
section
variable {BT:List (TypeId×Nat×Nat)}
def Vv (N:Nat)(x y:Rat):VP:=VP2 4 4 (Vq N x) (Vq N y)
theorem Stab_Vv (N:Nat)(x y:Rat):Stab BT (Vv N x y):=Stab_VP2 (Stab_Vq _ _) (Stab_Vq _ _)
theorem AggV_Vv (N:Nat)(x y:Rat):AggV 8 (Vv N x y):=AggV_VP2 (AggV_Vq _ _) (AggV_Vq _ _)
def Vp (N:Nat)(c s x y:Rat):VP:=VP2 8 8 (Vv N c s) (Vv N x y)
theorem Stab_Vp (N:Nat)(c s x y:Rat):Stab BT (Vp N c s x y):=Stab_VP2 (Stab_Vv _ _ _) (Stab_Vv _ _ _)
theorem AggV_Vp (N:Nat)(c s x y:Rat):AggV 16 (Vp N c s x y):=AggV_VP2 (AggV_Vv _ _ _) (AggV_Vv _ _ _)
theorem VP2_le {k1 k2:Nat}{A B A' B':VP}{v:Value}{w:World}(h:VP2 k1 k2 A B v w)(hA:∀v,A v w->A' v w)(hB:∀v,B v w->B' v w):VP2 k1 k2 A' B' v w:=by
 obtain⟨x,y,h1,h2,h3,h4,h5⟩:=h;exact⟨x,y,h1,h2,h3,hA _ h4,hB _ h5⟩
theorem Vv_le {N M:Nat}{x y:Rat}{v:Value}{w:World}(h:Vv N x y v w)(hM:N<=M):Vv M x y v w:=VP2_le h (fun _ h=>Vq_le h hM) (fun _ h=>Vq_le h hM)
theorem size_Vec:(Tryz.prog.info? 32).map (·.size)=some 8:=by kernel_rfl
theorem size_pair:(Tryz.prog.info? 110).map (·.size)=some 8:=by kernel_rfl
theorem field_Vec0 (g off:Nat)(W:World):(Instr.fieldAt 32 (.pointer (some ⟨g,off,none⟩)) 0).run Tryz.prog W= .ok (.pointer (some ⟨g,off+0,none⟩)) W:=by go_simp
theorem field_Vec1 (g off:Nat)(W:World):(Instr.fieldAt 32 (.pointer (some ⟨g,off,none⟩)) 1).run Tryz.prog W= .ok (.pointer (some ⟨g,off+4,none⟩)) W:=by go_simp
theorem field_pair0 (g off:Nat)(W:World):(Instr.fieldAt 110 (.pointer (some ⟨g,off,none⟩)) 0).run Tryz.prog W= .ok (.pointer (some ⟨g,off+0,none⟩)) W:=by go_simp
theorem field_pair1 (g off:Nat)(W:World):(Instr.fieldAt 110 (.pointer (some ⟨g,off,none⟩)) 1).run Tryz.prog W= .ok (.pointer (some ⟨g,off+4,none⟩)) W:=by go_simp
theorem alloc_Vec (W:World):(Instr.alloc 32 true (.tuple #[])).run Tryz.prog W= .ok (.pointer (some ⟨W.heap.size,0,none⟩)) (W.alloc (.cells #[.bool false,.slice none 0 0,.bool false,.slice none 0 0,.bool false,.slice none 0 0,.bool false,.slice none 0 0] 32)):=by go_simp
theorem alloc_pair (W:World):(Instr.alloc 110 true (.tuple #[])).run Tryz.prog W= .ok (.pointer (some ⟨W.heap.size,0,none⟩)) (W.alloc (.cells #[.bool false,.slice none 0 0,.bool false,.slice none 0 0,.bool false,.slice none 0 0,.bool false,.slice none 0 0] 110)):=by go_simp
theorem noint_Vec:NoInt #[Value.bool false,.slice none 0 0,.bool false,.slice none 0 0,.bool false,.slice none 0 0,.bool false,.slice none 0 0]:=noint_of (by simp)
theorem noint_pair:NoInt #[Value.bool false,.slice none 0 0,.bool false,.slice none 0 0,.bool false,.slice none 0 0,.bool false,.slice none 0 0]:=noint_of (by simp)
instance (N:Nat)(x y:Rat):Sb BT (Vv N x y):=⟨Stab_Vv N x y⟩
instance (N:Nat)(c s x y:Rat):Sb BT (Vp N c s x y):=⟨Stab_Vp N c s x y⟩
instance (N:Nat)(x y:Rat):Ag (Vv N x y) 8:=⟨AggV_Vv N x y⟩
instance (N:Nat)(c s x y:Rat):Ag (Vp N c s x y) 16:=⟨AggV_Vp N c s x y⟩
instance iSzVec:SzT 32 8:=⟨⟨_,Tryz.underlying32,rfl⟩,size_Vec⟩
instance iFdVec0:FdT 32 0 0:=⟨field_Vec0⟩
instance iFdVec1:FdT 32 1 4:=⟨field_Vec1⟩
instance iAlVec:AlT 32 8:=⟨_,alloc_Vec,rfl,noint_Vec⟩
instance iSzpair:SzT 110 8:=⟨⟨_,Tryz.underlying110,rfl⟩,size_pair⟩
instance iFdpair0:FdT 110 0 0:=⟨field_pair0⟩
instance iFdpair1:FdT 110 1 4:=⟨field_pair1⟩
instance iAlpair:AlT 110 8:=⟨_,alloc_pair,rfl,noint_pair⟩
theorem ext_ext {cs:Array Value}{o1 k1 o2 k2:Nat}(h:o2+k2<=k1):(cs.extract o1 (o1+k1)).extract o2 (o2+k2)=cs.extract (o1+o2) (o1+o2+k2):=by
 rw [Array.extract_extract,show min (o1+(o2+k2)) (o1+k1)=o1+o2+k2 by omega]
instance (N:Nat)(x y:Rat):PtC (Vv N x y) 0 4 (Vq N x):=⟨fun _ _ h=>VP2_fst h⟩
instance (N:Nat)(x y:Rat):PtC (Vv N x y) 4 4 (Vq N y):=⟨fun _ _ h=>VP2_snd h⟩
instance (N:Nat)(c s x y:Rat):PtC (Vp N c s x y) 0 8 (Vv N c s):=⟨fun _ _ h=>VP2_fst h⟩
instance (N:Nat)(c s x y:Rat):PtC (Vp N c s x y) 8 8 (Vv N x y):=⟨fun _ _ h=>VP2_snd h⟩
section
variable {ρ:Operand->Value}{o:Oper}{W:World}{x y:Operand}{va vb:Value}{A B:VP}
theorem build_Vec (ho:o.op= .build 32 #[(0,x),(1,y)])(hx:ρ x=va)(hy:ρ y=vb)(hA:AggV 4 A)(hB:AggV 4 B)(h1:A va W)(h2:B vb W):∃v,(execOp ρ o).run Tryz.prog W= .ok (.value v) W/\VP2 4 4 A B v W:=by
 obtain⟨cx,rfl,e1,-⟩:=hA _ _ h1;obtain⟨cy,rfl,e2,-⟩:=hB _ _ h2;obtain⟨a,b,c,d,rfl⟩:=arr4 e1;obtain⟨a',b',c',d',rfl⟩:=arr4 e2;refine⟨.agg (#[a,b,c,d]++ #[a',b',c',d']),?_,⟨_,_,rfl,rfl,rfl,h1,h2⟩⟩;obtain⟨dd,op,ty,ps,af,gd⟩:=o;subst ho
 go_simp
theorem build_pair (ho:o.op= .build 110 #[(0,x),(1,y)])(hx:ρ x=va)(hy:ρ y=vb)(hA:AggV 4 A)(hB:AggV 4 B)(h1:A va W)(h2:B vb W):∃v,(execOp ρ o).run Tryz.prog W= .ok (.value v) W/\VP2 4 4 A B v W:=by
 obtain⟨cx,rfl,e1,-⟩:=hA _ _ h1;obtain⟨cy,rfl,e2,-⟩:=hB _ _ h2;obtain⟨a,b,c,d,rfl⟩:=arr4 e1;obtain⟨a',b',c',d',rfl⟩:=arr4 e2;refine⟨.agg (#[a,b,c,d]++ #[a',b',c',d']),?_,⟨_,_,rfl,rfl,rfl,h1,h2⟩⟩;obtain⟨dd,op,ty,ps,af,gd⟩:=o;subst ho
 go_simp
def VR1 (V:VP):VP:=fun v w=>∃h cs,v= .slice (some ⟨h,0,none⟩) 1 1/\w.heap[h]? =some (.cells cs 110 (0,0))/\cs.size=8/\V (.agg cs) w
theorem Stab_VR1 {V:VP}(hV:Stab BT V)(hn:BT.any (fun e=>e.1==110 && e.2.1==8)=false):Stab BT (VR1 V):=fun _ _ _ ⟨h,cs,e1,e2,e3,e4⟩ hr=>
 ⟨h,cs,e1,(hr.row h cs _ e2 (BT_not hn e3)).trans e2,e3,hV _ _ _ e4 hr⟩
theorem bslice_pair (ho:o.op= .buildSlice 121 1 #[(0,x)])(hx:ρ x=va)(hA:AggV 8 A)(hS:Stab [] A)(h1:A va W):∃v w',(execOp ρ o).run Tryz.prog W= .ok (.value v) w'/\Below W.heap.size W w'/\VR1 A v w':=by
 obtain⟨cx,rfl,e1,-⟩:=hA _ _ h1
 match cx,e1 with
 |⟨[a,b,c,d,a',b',c',d']⟩,_=>
  refine⟨.slice (some ⟨W.heap.size,0,none⟩) 1 1,W.alloc (.cells #[a,b,c,d,a',b',c',d'] 110),?_,below_new _ _,⟨_,_,rfl,heap_alloc_new _ _,rfl,hS _ _ _ h1 (RI.of_below (below_new _ _))⟩⟩;obtain⟨dd,op,ty,ps,af,gd⟩:=o;subst ho
  go_simp
end
def VAt (w:World)(V:VP):VP:=fun v _=>V v w
theorem Stab_VAt (w:World)(V:VP):Stab BT (VAt w V):=fun _ _ _ h _=>h
instance (w:World)(V:VP):Sb BT (VAt w V):=⟨Stab_VAt w V⟩
def VPtr (V:VP):VP:=fun v w=>∃h cs,v= .pointer (some ⟨h,0,none⟩)/\w.heap[h]? =some (.cells cs 110 (0,0))/\cs.size=8/\V (.agg cs) w
section
variable {ρ:Operand->Value}{o:Oper}{W w:World}{x y:Operand}{va vb:Value}{A:VP}
theorem run_len1 (ho:o.op= .call {callee:= .builtin .len,args:=#[x],argTypes:=#[121]})(hty:o.type=3)(hx:ρ x=va)(h:VAt w (VR1 A) va W):∃v,(execOp ρ o).run Tryz.prog W= .ok (.value v) W/\Vi 1 v W:=by
 obtain⟨h,cs,rfl,-⟩:=h;refine⟨.int .i64 1,?_,rfl⟩;obtain⟨dd,op,ty,ps,af,gd⟩:=o;subst ho;simp only at hty;subst hty
 go_simp
theorem index_pair (ho:o.op= .indexAddr 121 x y)(hx:ρ x=va)(h:VAt w (VR1 A) va W)(hy:ρ y=vb)(hb:Vi 0 vb W):∃v,(execOp ρ o).run Tryz.prog W= .ok (.value v) W/\VAt w (VPtr A) v W:=by
 obtain⟨h,cs,rfl,e2,e3,e4⟩:=h;obtain rfl:=hb;refine⟨.pointer (some ⟨h,0,none⟩),?_,⟨h,cs,rfl,e2,e3,e4⟩⟩;obtain⟨dd,op,ty,ps,af,gd⟩:=o;subst ho
 go_simp
theorem load_pair (ho:o.op= .load 110 x)(hx:ρ x=va)(h:VAt w (VPtr A) va W)(hb:Below w.heap.size w W)(hA:Stab [] A):∃v,(execOp ρ o).run Tryz.prog W= .ok (.value v) W/\A v W:=by
 obtain⟨h,cs,rfl,e2,e3,e4⟩:=h;refine⟨.agg cs,?_,hA _ _ _ e4 (RI.of_below hb)⟩;have e5:=(hb.block _ (lt_blk e2)).trans e2;unfold execOp;simp only [ho,hx,Instr.loadAt,Instr.sureAddr,Sem.run_bind,Sem.run_pure,Result.andThen_ok,run_loadVar_row W h 110 110 cs (0,0) _ e5 Tryz.underlying110 rfl (by rw [e3];exact size_pair)]
end
end
theorem cSumA {w:World}{N:Nat}{a b c d:Rat}{v0 v1:Value}(h0:Vv N a b v0 w)(h1:VAt w (VR1 (Vv N c d)) v1 w)(hN1:1<=N:=by omega)(hN:N<=20000:=by omega):Calls Tryz.prog 110 #[v0,v1] w (RV (Vq (4*N+1) (a*b+c*d)) w):=by
 go_enter Tryz.func110,Tryz.ntmps110
 refine Sg 28 [(0,Vv N a b),(1,VAt w (VR1 (Vv N c d)))] (Lq.2 ⟨⟨_,rfl,h0⟩,(Lq.2 ⟨⟨_,rfl,h1⟩,L0⟩)⟩) fun a0 st0=>Wn ?_
 refine rH [(30,4,0),(110,8,0)] [VT,VT] [⟨2,some 0,some 0,110,8,Vv N a b,VT⟩,⟨4,some 1,none,30,4,VT,VT⟩] [(1,VAt w (VR1 (Vv N c d)))] st0 ⟨ks,ks,trivial⟩ fun a1 w1 st1=>Wn ?_
 refine rH [(30,4,0),(110,8,0)] [Vpt a1 2 0,Vq N a,Vpt a1 2 4,Vq N b,Vq (N+N) ((a)*(b)),VT,VT] [.k 2 110 8 (Vv N a b),.k 4 30 4 VT,⟨5,some 5,some 6,30,4,Vq (N+N) ((a)*(b)),VT⟩] [(1,VAt w (VR1 (Vv N c d)))] st1 ⟨ks,ks,ks,ks,(kd2 fun _ _ _ _ _ X0 _ X1=>cQMul X0 X1),ks,ks,trivial⟩ fun a2 w2 st2=>Wn ?_
 refine rH [(30,4,0),(110,8,0)] [VAt w (VR1 (Vv N c d)),Vi 1,Vi 0] [.k 2 110 8 (Vv N a b),.k 4 30 4 VT,.k 5 30 4 (Vq (N+N) ((a)*(b)))] [(13,VAt w (VR1 (Vv N c d))),(14,Vi 1),(15,Vi 0)] st2 ⟨ks,(kr1 13 fun _ _ _ _ _ x0 X0=>run_len1 rfl rfl x0 X0),ks,trivial⟩ ?_;intro a3 w3 st3;replace st3:St w.heap.size w 28 [.k 2 110 8 (Vv N a b),.k 4 30 4 VT,.k 5 30 4 (Vq (N+N) ((a)*(b)))] [(13,VAt w (VR1 (Vv N c d))),(14,Vi 1),(15,Vi 0)] a3 w3:=st3;refine Wn ?_
 refine wp_loop (fun aX wX=>St w.heap.size w 28 [.k 2 110 8 (Vv N a b),.k 4 30 4 VT,.k 5 30 4 (Vq (N+N) ((a)*(b)))] [(13,VAt w (VR1 (Vv N c d))),(14,Vi 1),(15,Vi 0)] aX wX∨St w.heap.size w 28 [.k 2 110 8 (Vv N a b),.k 4 30 4 VT,.k 5 30 4 (Vq ((N+N)+(N+N)+1) ((a)*(b)+((c)*(d)))),.k 7 110 8 (Vv N c d)] [(13,VAt w (VR1 (Vv N c d))),(14,Vi 1),(15,Vi 1)] aX wX) (fun aX _=>1 - (intOf (aX.eval (.tmp 15))).toNat) (.inl st3) ?_;intro aL wL hI;rcases hI with st3|st3
 ·
  have hm0:(intOf (aL.eval (.tmp 15))).toNat=0:=by obtain⟨vv,e1,e2⟩:=st3.slot (15,Vi 0) (.tail _ (.tail _ (.head _)));rw [e1,e2];rfl
  refine Wn ?_
  refine rH [(30,4,0),(110,8,0)] [Vb true] [.k 2 110 8 (Vv N a b),.k 4 30 4 VT,.k 5 30 4 (Vq (N+N) ((a)*(b)))] [(13,VAt w (VR1 (Vv N c d))),(14,Vi 1),(15,Vi 0),(16,Vb true)] st3 ⟨(by refine kr fun _ A Y h D=>?_;obtain⟨v0,x0,X0⟩:=h.ot 15;have hV0':v0= .int .i64 (0):=X0;obtain⟨v1,x1,X1⟩:=h.ot 14;have hV1':v1= .int .i64 (1):=X1;exact⟨_,run_lssi rfl (x0.trans hV0') (x1.trans hV1'),congrArg Value.bool (by decide)⟩),trivial⟩ ?_;intro a4 w4 st4;refine Wn ?_
  refine cT st4 ?_;refine Wn ?_
  refine rH [(30,4,0),(110,8,0)] [VAt w (VPtr (Vv N c d)),Vv N c d,VT,VT] [.k 2 110 8 (Vv N a b),.k 4 30 4 VT,.k 5 30 4 (Vq (N+N) ((a)*(b))),⟨7,some 2,some 3,110,8,Vv N c d,VT⟩] [(13,VAt w (VR1 (Vv N c d))),(14,Vi 1),(15,Vi 0),(16,Vb true)] st4 ⟨(by refine kr fun _ A Y h D=>?_;obtain⟨v0,x0,X0⟩:=h.ot 13;obtain⟨v1,x1,X1⟩:=h.ot 15;exact index_pair rfl x0 X0 x1 X1),(kr1 17 fun _ _ _ h _ x0 X0=>load_pair rfl x0 X0 h.k.below (Stab_Vv _ _ _)),ks,ks,trivial⟩ ?_;intro a5 w5 st5;refine Wn ?_
  refine rH [(30,4,0),(110,8,0)] [Vq (N+N) ((a)*(b)),Vpt a5 7 0,Vq N c,Vpt a5 7 4,Vq N d,Vq (N+N) ((c)*(d)),Vq ((N+N)+(N+N)+1) (((a)*(b))+((c)*(d))),VT] [.k 2 110 8 (Vv N a b),.k 4 30 4 VT,⟨5,none,some 7,30,4,Vq ((N+N)+(N+N)+1) (((a)*(b))+((c)*(d))),Vq (N+N) ((a)*(b))⟩,.k 7 110 8 (Vv N c d)] [(13,VAt w (VR1 (Vv N c d))),(14,Vi 1),(15,Vi 0),(16,Vb true)] st5 ⟨ks,ks,ks,ks,ks,(kd2 fun _ _ _ _ _ X0 _ X1=>cQMul X0 X1),(kd2 fun _ _ _ _ _ X0 _ X1=>cQAdd X0 X1),ks,trivial⟩ fun a6 w6 st6=>Wn ?_
  refine rH [(30,4,0),(110,8,0)] [Vi 1,Vi 1] [.k 2 110 8 (Vv N a b),.k 4 30 4 VT,.k 5 30 4 (Vq ((N+N)+(N+N)+1) (((a)*(b))+((c)*(d)))),.k 7 110 8 (Vv N c d)] [(13,VAt w (VR1 (Vv N c d))),(14,Vi 1),(16,Vb true),(15,Vi 1)] st6 ⟨?s0,ks,trivial⟩ ?_
  case s0=>
   refine k_run0 SbB.out (by kernel_rfl) fun listed A Y h D hnl=>⟨trivial,?_⟩
   obtain⟨v0,x0,X0⟩:=h.out0 hnl (15,Vi 0) (.tail _ (.tail _ (.head _))) 1 (by kernel_rfl) (.inr (by kernel_rfl));obtain rfl:v0= .int .i64 0:=X0;exact⟨.int .i64 1,run_addi rfl x0 rfl rfl,rfl⟩
  intro a7 w7 st7;refine⟨.inr ?_,?_⟩
  ·exact st7.cut
  ·have hm1:(intOf (a7.eval (.tmp 15))).toNat=1:=(by obtain⟨vv,e1,e2⟩:=st7.slot (15,Vi 1) (.tail _ (.tail _ (.tail _ (.head _))));rw [e1,e2];rfl);show 1 - _<1 - _;rw [hm0,hm1];omega
 ·
  refine Wn ?_
  refine rH [(30,4,0),(110,8,0)] [Vb false] [.k 2 110 8 (Vv N a b),.k 4 30 4 VT,.k 5 30 4 (Vq ((N+N)+(N+N)+1) ((a)*(b)+((c)*(d)))),.k 7 110 8 (Vv N c d)] [(13,VAt w (VR1 (Vv N c d))),(14,Vi 1),(15,Vi 1),(16,Vb false)] st3 ⟨(by refine kr fun _ A Y h D=>?_;obtain⟨v0,x0,X0⟩:=h.ot 15;have hV0':v0= .int .i64 (1):=X0;obtain⟨v1,x1,X1⟩:=h.ot 14;have hV1':v1= .int .i64 (1):=X1;exact⟨_,run_lssi rfl (x0.trans hV0') (x1.trans hV1'),congrArg Value.bool (by decide)⟩),trivial⟩ ?_;intro a4 w4 st4;refine Wn ?_
  refine cF st4 ?_;refine Wn ?_
  refine rH [(30,4,0),(110,8,0)] [Vq ((N+N)+(N+N)+1) ((a)*(b)+((c)*(d))),VT] [.k 2 110 8 (Vv N a b),⟨4,none,some 1,30,4,Vq ((N+N)+(N+N)+1) ((a)*(b)+((c)*(d))),VT⟩,.k 5 30 4 (Vq ((N+N)+(N+N)+1) ((a)*(b)+((c)*(d)))),.k 7 110 8 (Vv N c d)] [(13,VAt w (VR1 (Vv N c d))),(14,Vi 1),(15,Vi 1),(16,Vb false)] st4 ⟨ks,ks,trivial⟩ fun a5 w5 st5=>Wn ?_
  exact wp_ret (rC 4 30 (Vq ((N+N)+(N+N)+1) ((a)*(b)+((c)*(d)))) st5 fun cs r4=>(Vq_le r4 (by omega)))
theorem cCross {w:World}{N:Nat}{a b c d:Rat}{v0 v1:Value}(h0:Vv N a b v0 w)(h1:Vv N c d v1 w)(hN1:1<=N:=by omega)(hN:N<=4000:=by omega):Calls Tryz.prog 107 #[v0,v1] w (RV (Vq (4*N+1) (a*d+ -b*c)) w):=by
 go_enter Tryz.func107,Tryz.ntmps107
 refine Sg 18 [(0,Vv N a b),(1,Vv N c d)] (Lq.2 ⟨⟨_,rfl,h0⟩,(Lq.2 ⟨⟨_,rfl,h1⟩,L0⟩)⟩) fun a0 st0=>Wn ?_
 refine rH [(30,4,0)] [VT,VT,VT] [⟨2,some 0,some 0,32,8,Vv N a b,VT⟩,⟨3,some 1,some 1,32,8,Vv N c d,VT⟩,⟨4,some 2,none,30,4,VT,VT⟩] [] st0 ⟨ks,ks,ks,trivial⟩ fun a1 w1 st1=>Wn ?_
 have:Sb [(30,4,0)] (VR1 (Vv N (-(b)) c)):=⟨Stab_VR1 (Stab_Vv _ _ _) (by kernel_rfl)⟩;refine rH [(30,4,0)] [Vpt a1 2 0,Vq N a,Vpt a1 3 4,Vq N d,Vv N a d,Vpt a1 2 4,Vq N b,Vq N (-(b)),Vpt a1 3 0,Vq N c,Vv N (-(b)) c,VR1 (Vv N (-(b)) c),Vq (4*N+1) ((a)*(d)+(-(b))*(c)),VT] [.k 2 32 8 (Vv N a b),.k 3 32 8 (Vv N c d),⟨4,none,some 13,30,4,Vq (4*N+1) ((a)*(d)+(-(b))*(c)),VT⟩] [] st1 ⟨ks,ks,ks,ks,(kr2 6 8 fun _ _ _ _ _ x0 X0 _ x1 X1=>build_pair rfl x0 x1 (AggV_Vq _ _) (AggV_Vq _ _) X0 X1),ks,ks,(kd1 fun _ _ _ _ _ X0=>cQNeg X0),ks,ks,(kr2 12 14 fun _ _ _ _ _ x0 X0 _ x1 X1=>build_pair rfl x0 x1 (AggV_Vq _ _) (AggV_Vq _ _) X0 X1),(by refine km fun _ A Y h D=>?_;obtain⟨v0,x0,X0⟩:=h.dp D 15;exact bslice_pair rfl x0 (AggV_Vv _ _ _) (Stab_Vv _ _ _) X0),(kd2 fun _ _ Y _ v0 X0 v1 X1=>cSumA X0 (show VR1 (Vv N (-(b)) c) v1 Y from X1)),ks,trivial⟩ ?_;intro a2 w2 st2;refine Wn ?_
 exact wp_ret (rC 4 30 (Vq (4*N+1) ((a)*(d)+(-(b))*(c))) st2 fun cs r4=>r4)
theorem cVAdd {w:World}{N:Nat}{a b c d:Rat}{v0 v1:Value}(h0:Vv N a b v0 w)(h1:Vv N c d v1 w)(hN1:1<=N:=by omega)(hN:N<=4000:=by omega):Calls Tryz.prog 61 #[v0,v1] w (RV (Vv (N+N+1) (a+c) (b+d)) w):=by
 go_enter Tryz.func61,Tryz.ntmps61
 refine Sg 16 [(0,Vv N a b),(1,Vv N c d)] (Lq.2 ⟨⟨_,rfl,h0⟩,(Lq.2 ⟨⟨_,rfl,h1⟩,L0⟩)⟩) fun a0 st0=>Wn ?_
 refine rH [(32,8,0)] [VT,VT,VT] [⟨2,some 0,some 0,32,8,Vv N a b,VT⟩,⟨3,some 1,some 1,32,8,Vv N c d,VT⟩,⟨4,some 2,none,32,8,VT,VT⟩] [] st0 ⟨ks,ks,ks,trivial⟩ fun a1 w1 st1=>Wn ?_
 refine rH [(32,8,0)] [Vpt a1 2 0,Vq N a,Vpt a1 3 0,Vq N c,Vq (N+N+1) ((a)+(c)),Vpt a1 2 4,Vq N b,Vpt a1 3 4,Vq N d,Vq (N+N+1) ((b)+(d)),Vv (N+N+1) ((a)+(c)) ((b)+(d)),VT] [.k 2 32 8 (Vv N a b),.k 3 32 8 (Vv N c d),⟨4,none,some 11,32,8,Vv (N+N+1) ((a)+(c)) ((b)+(d)),VT⟩] [] st1 ⟨ks,ks,ks,ks,(kd2 fun _ _ _ _ _ X0 _ X1=>cQAdd X0 X1),ks,ks,ks,ks,(kd2 fun _ _ _ _ _ X0 _ X1=>cQAdd X0 X1),(kr2 9 14 fun _ _ _ _ _ x0 X0 _ x1 X1=>build_Vec rfl x0 x1 (AggV_Vq _ _) (AggV_Vq _ _) X0 X1),ks,trivial⟩ fun a2 w2 st2=>Wn ?_
 exact wp_ret (rC 4 32 (Vv (N+N+1) ((a)+(c)) ((b)+(d))) st2 fun cs r4=>r4)
theorem cVSub {w:World}{N:Nat}{a b c d:Rat}{v0 v1:Value}(h0:Vv N a b v0 w)(h1:Vv N c d v1 w)(hN1:1<=N:=by omega)(hN:N<=4000:=by omega):Calls Tryz.prog 132 #[v0,v1] w (RV (Vv (N+N+1) (a - c) (b - d)) w):=by
 go_enter Tryz.func132,Tryz.ntmps132
 refine Sg 16 [(0,Vv N a b),(1,Vv N c d)] (Lq.2 ⟨⟨_,rfl,h0⟩,(Lq.2 ⟨⟨_,rfl,h1⟩,L0⟩)⟩) fun a0 st0=>Wn ?_
 refine rH [(32,8,0)] [VT,VT,VT] [⟨2,some 0,some 0,32,8,Vv N a b,VT⟩,⟨3,some 1,some 1,32,8,Vv N c d,VT⟩,⟨4,some 2,none,32,8,VT,VT⟩] [] st0 ⟨ks,ks,ks,trivial⟩ fun a1 w1 st1=>Wn ?_
 refine rH [(32,8,0)] [Vpt a1 2 0,Vq N a,Vpt a1 3 0,Vq N c,Vq (N+N+1) ((a) - c),Vpt a1 2 4,Vq N b,Vpt a1 3 4,Vq N d,Vq (N+N+1) ((b) - d),Vv (N+N+1) ((a) - c) ((b) - d),VT] [.k 2 32 8 (Vv N a b),.k 3 32 8 (Vv N c d),⟨4,none,some 11,32,8,Vv (N+N+1) ((a) - c) ((b) - d),VT⟩] [] st1 ⟨ks,ks,ks,ks,(kd2 fun _ _ _ _ _ X0 _ X1=>cQSub X0 X1),ks,ks,ks,ks,(kd2 fun _ _ _ _ _ X0 _ X1=>cQSub X0 X1),(kr2 9 14 fun _ _ _ _ _ x0 X0 _ x1 X1=>build_Vec rfl x0 x1 (AggV_Vq _ _) (AggV_Vq _ _) X0 X1),ks,trivial⟩ fun a2 w2 st2=>Wn ?_
 exact wp_ret (rC 4 32 (Vv (N+N+1) ((a) - c) ((b) - d)) st2 fun cs r4=>r4)
theorem cVCompare {w:World}{N:Nat}{a b c d:Rat}{v0 v1:Value}(h0:Vv N a b v0 w)(h1:Vv N c d v1 w)(hN1:1<=N:=by omega)(hN:N<=4000:=by omega):Calls Tryz.prog 125 #[v0,v1] w (RV (Vi (if cmpQ a c=0 then cmpQ b d else cmpQ a c)) w):=by
 go_enter Tryz.func125,Tryz.ntmps125
 refine Sg 19 [(0,Vv N a b),(1,Vv N c d)] (Lq.2 ⟨⟨_,rfl,h0⟩,(Lq.2 ⟨⟨_,rfl,h1⟩,L0⟩)⟩) fun a0 st0=>Wn ?_
 refine rH [] [VT,VT,Vi 0] [⟨2,some 0,some 0,32,8,Vv N a b,VT⟩,⟨3,some 1,some 1,32,8,Vv N c d,VT⟩] [(4,Vi 0)] st0 ⟨ks,ks,ks,trivial⟩ fun a1 w1 st1=>Wn ?_
 refine rH [] [Vpt a1 2 0,Vq N a,Vpt a1 3 0,Vq N c,Vi (cmpQ a c),Vi (cmpQ a c)] [.k 2 32 8 (Vv N a b),.k 3 32 8 (Vv N c d)] [(4,Vi 0),(5,Vi (cmpQ a c))] st1 ⟨ks,ks,ks,ks,(kd2 fun _ _ _ _ _ X0 _ X1=>cQCompare X0 X1),ks,trivial⟩ ?_;intro a2 w2 st2;by_cases hp:cmpQ a c=0
 ·
  refine Wn ?_
  refine rH [] [Vi (cmpQ a c),Vb false] [.k 2 32 8 (Vv N a b),.k 3 32 8 (Vv N c d)] [(4,Vi 0),(5,Vi (cmpQ a c)),(12,Vb false)] st2 ⟨ks,(by refine kr fun _ A Y h D=>?_;obtain⟨v0,x0,X0⟩:=h.dp D 11;have hV0':v0= .int .i64 (cmpQ a c):=X0;exact⟨_,run_neqi rfl (x0.trans hV0') rfl,congrArg Value.bool (by rw [hp];rfl)⟩),trivial⟩ ?_;intro a3 w3 st3;refine Wn ?_
  refine cF st3 ?_;refine Wn ?_
  refine rH [] [Vpt a3 2 4,Vq N b,Vpt a3 3 4,Vq N d,Vi (cmpQ b d),Vi (cmpQ b d)] [.k 2 32 8 (Vv N a b),.k 3 32 8 (Vv N c d)] [(5,Vi (cmpQ a c)),(12,Vb false),(4,Vi (cmpQ b d))] st3 ⟨ks,ks,ks,ks,(kd2 fun _ _ _ _ _ X0 _ X1=>cQCompare X0 X1),ks,trivial⟩ fun a4 w4 st4=>Wn ?_
  exact wp_ret (rS 4 (Vi (cmpQ b d)) st4 fun vr r4=>(by rw [if_pos hp];exact r4))
 ·
  refine Wn ?_
  refine rH [] [Vi (cmpQ a c),Vb true] [.k 2 32 8 (Vv N a b),.k 3 32 8 (Vv N c d)] [(4,Vi 0),(5,Vi (cmpQ a c)),(12,Vb true)] st2 ⟨ks,(kr1 11 fun _ _ _ _ _ x0 X0=>⟨_,run_neqi rfl (x0.trans X0) rfl,congrArg Value.bool (bne_iff_ne.2 hp)⟩),trivial⟩ fun a3 w3 st3=>Wn ?_
  refine cT st3 ?_;refine Wn ?_
  refine rH [] [Vi (cmpQ a c),Vi (cmpQ a c)] [.k 2 32 8 (Vv N a b),.k 3 32 8 (Vv N c d)] [(5,Vi (cmpQ a c)),(12,Vb true),(4,Vi (cmpQ a c))] st3 ⟨ks,ks,trivial⟩ fun a4 w4 st4=>Wn ?_
  exact wp_ret (rS 4 (Vi (cmpQ a c)) st4 fun vr r4=>(by rw [if_neg hp];exact r4))
theorem cSide {w:World}{N:Nat}{a b c d e f:Rat}{v0 v1 v2:Value}(h0:Vv N a b v0 w)(h1:Vv N c d v1 w)(h2:Vv N e f v2 w)(hN1:1<=N:=by omega)(hN:N<=1000:=by omega):Calls Tryz.prog 99 #[v0,v1,v2] w (RV (Vi (cmpI ((c - a)*(f - b)+ -(d - b)*(e - a)).num 0)) w):=by
 go_enter Tryz.func99,Tryz.ntmps99
 refine Sg 15 [(0,Vv N a b),(1,Vv N c d),(2,Vv N e f)] (Lq.2 ⟨⟨_,rfl,h0⟩,(Lq.2 ⟨⟨_,rfl,h1⟩,(Lq.2 ⟨⟨_,rfl,h2⟩,L0⟩)⟩)⟩) fun a0 st0=>Wn ?_
 refine rH [] [VT,VT,VT,Vi 0] [⟨3,some 0,some 0,32,8,Vv N a b,VT⟩,⟨4,some 1,some 1,32,8,Vv N c d,VT⟩,⟨5,some 2,some 2,32,8,Vv N e f,VT⟩] [(6,Vi 0)] st0 ⟨ks,ks,ks,ks,trivial⟩ fun a1 w1 st1=>Wn ?_
 refine rH [] [Vv N c d,Vv N a b,Vv (N+N+1) ((c) - a) ((d) - b),Vv N e f,Vv N a b,Vv (N+N+1) ((e) - a) ((f) - b),Vq (4*(N+N+1)+1) (((c) - a)*((f) - b)+ -((d) - b)*((e) - a)),Vi (cmpI (((c) - a)*((f) - b)+ -((d) - b)*((e) - a)).num 0),Vi (cmpI (((c) - a)*((f) - b)+ -((d) - b)*((e) - a)).num 0)] [.k 3 32 8 (Vv N a b),.k 4 32 8 (Vv N c d),.k 5 32 8 (Vv N e f)] [(6,Vi (cmpI (((c) - a)*((f) - b)+ -((d) - b)*((e) - a)).num 0))] st1 ⟨ks,ks,(kd2 fun _ _ _ _ _ X0 _ X1=>cVSub X0 X1),ks,ks,(kd2 fun _ _ _ _ _ X0 _ X1=>cVSub X0 X1),(kd2 fun _ _ _ _ _ X0 _ X1=>cCross X0 X1),(kd1 fun _ _ _ _ _ X0=>cQSign X0),ks,trivial⟩ fun a2 w2 st2=>Wn ?_
 exact wp_ret (rS 6 (Vi (cmpI (((c) - a)*((f) - b)+ -((d) - b)*((e) - a)).num 0)) st2 fun vr r4=>r4)
section
variable {BT:List (TypeId×Nat×Nat)}
theorem arr8 {x:Array Value}(h:x.size=8):∃a b c d e f g h,x=#[a,b,c,d,e,f,g,h]:=by
 match x,h with
 |⟨[a,b,c,d,e,f,g,h]⟩,_=>exact⟨a,b,c,d,e,f,g,h,rfl⟩
end



structure MinI (l m:List Int)(k:Nat)(b:Int)(z:List Int):Prop where
 len:z.length=k
 dg:Dg z
 sum:val z - pw k*b=val (l.take k) - val (m.take k)
 lo:0<=b
 hi:b<=1
theorem MinI.start (l m:List Int):MinI l m 0 0 []:=⟨rfl,Dg_nil,by simp [val],by omega,by omega⟩
theorem MinI.keep {l m z:List Int}{k:Nat}{b:Int}(h:MinI l m k b z)(hl:Dg l)(hm:Dg m)(hv:0<=iat l k - iat m k - b):MinI l m (k+1) 0 (z++ [iat l k - iat m k - b]):=by
 have h1:=hl.all k;have h2:=hm.all k;have h3:=h.lo;have hs:=h.sum;have hlen:=h.len;refine⟨by rw [List.length_append,hlen];rfl,Dg_append h.dg (Dg_cons (by omega) (by omega) Dg_nil),?_,by omega,by omega⟩;rw [val_append,hlen,val_take',val_take'];show val z+pw k*((iat l k - iat m k - b)+1000000000*0) - 1000000000*pw k*0=_
 grind
theorem MinI.take_ {l m z:List Int}{k:Nat}{b:Int}(h:MinI l m k b z)(hl:Dg l)(hm:Dg m)(hv:iat l k - iat m k - b<0):MinI l m (k+1) 1 (z++ [iat l k - iat m k - b+1000000000]):=by
 have h1:=hl.all k;have h2:=hm.all k;have h3:=h.hi;have hs:=h.sum;have hlen:=h.len;refine⟨by rw [List.length_append,hlen];rfl,Dg_append h.dg (Dg_cons (by omega) (by omega) Dg_nil),?_,by omega,by omega⟩;rw [val_append,hlen,val_take',val_take'];show val z+pw k*((iat l k - iat m k - b+1000000000)+1000000000*0) - 1000000000*pw k*1=_
 grind
theorem MinI.done {l m z:List Int}{b:Int}(h:MinI l m l.length b z)(hml:m.length<=l.length)(hle:val m<=val l):DifP l m z:=by
 have hs:=h.sum;rw [List.take_length,List.take_of_length_le hml] at hs;have h1:=h.dg.hi;rw [h.len] at h1;have h2:=h.lo;have h3:=h.hi
 have hb:b=0:=by
  rcases Int.lt_or_le 0 b with h4|h4
  ·have:b=1:=by omega
   subst this;omega
  ·omega
 subst hb;exact⟨h.dg,by simpa using hs,h.len⟩
def MinL (w:World)(l m:List Int)(k:Nat)(b:Int)(v:Value)(wr:World):Prop:=∃z,MinI l m k b z/\GrowI w v z wr
theorem minus_any (a1 a2:Option Addr)(n1 c1 n2 c2:Nat)(l m:List Int)(w:World)(hR1:Rdi w a1 l)(hR2:Rdi w a2 m)(hn1:n1=l.length)(hn2:n2=m.length)(hd1:Dg l)(hd2:Dg m)(hm1:n1<=1099511627775)(hle:n2<=n1)(x0:val m<=val l):
 Calls Tryz.prog 140 #[.slice a1 n1 c1,.slice a2 n2 c2] w (NewS w (DifP l m)):=by
 obtain⟨i0,hi,hz0,hz1,hz2⟩:=info_parts info_i64;have H1:=hIq hR1;have H2:=hIq hR2;have N1:=hIq hn1;have N2:=hIq hn2;have D1:=hIq hd1;have D2:=hIq hd2;have hv:=hIq x0;have hI:Hid (MinL w l m 0 0 (.slice none 0 0) w):=hIq ⟨[],MinI.start l m,GrowI.start w⟩;clear hR1 hR2 hn1 hn2 hd1 hd2 x0
 go_enter Tryz.func140,Tryz.ntmps140
 go_wp2_with fail
 go_loopw [5,6,7] (fun v bv iv wr=>∃(k:Nat) (b:Int),k<=n1/\iv= .int .i64 (k:Int)/\bv= .int .i64 b/\MinL w l m k b v wr) (fun _ _ iv _=>n1 - (intOf iv).toNat)
 case atStart=>exact⟨0,0,by omega,rfl,rfl,hI.out⟩
 case round=>
  obtain⟨k,b,hk,rfl,rfl,z,hP,hG⟩:=hrel;clear hI;have hzl:Hid (z.length=k):=hIq hP.len;by_cases hlt:k<n1
  ·have hB:=hG.2;have gq:Hid (∀q,Calls Tryz.prog 148 #[.slice a2 n2 c2,.int .i64 (k:Int)] (wr.drewN q) fun e w'=>e= .returned (.int .i64 (iat m k))/\wr.drewN q=w'):=hIq fun q=>digit_any _ _ _ _ _ (wr.drewN q) (Rdi_below (below_drewN hB q) H2.out) N2.out
   obtain⟨b1,o1,rfl,hc1⟩:=Rdi_at H1.out k (by rw [<-N1.out];exact hlt);have cx:=Below.cell_of' hB hc1;have hx:=D1.out.all k;have hy:=D2.out.all k;have hb0:=hP.lo;have hb1:=hP.hi;have hkeep:=hIq (fun h=>hP.keep D1.out D2.out h);have htake:=hIq (fun h=>hP.take_ D1.out D2.out h);obtain⟨x,hxx⟩:∃x,iat l k=x:=⟨_,rfl⟩;obtain⟨y,hyy⟩:∃y,iat m k=y:=⟨_,rfl⟩;rw [hxx] at cx hx hkeep htake;rw [hyy] at gq hy hkeep htake;obtain⟨hx1,hx2⟩:=hx;obtain⟨hy1,hy2⟩:=hy;have hG':=hIq hG;have hsz:=hB.size;have k0:0<=(k:Int):=by omega
   have k1:(k:Int)<(n1:Int):=by omega
   have k2:((k:Int)).toNat=k:=by omega
   have s0: -1000000000<x - y:=by omega
   have s1:x - y<1000000000:=by omega
   have s2: -1000000001<x - y - b:=by omega
   have s3:x - y - b<1000000000:=by omega
   clear hP hG hB hxx hyy hc1;by_cases hneg:x - y - b<0
   ·have hst:=hIq (htake.out hneg);have s4:0<=x - y - b+1000000000:=by omega
    clear hkeep htake;go_wp2_with fail
    go_quiet ((go_at_call 148;exact q_left (gq.out _)))
    have hGq:=hIq (hG'.out.drewN nq);have hsq:w.heap.size<=(wr.drewN nq).heap.size:=hsz;generalize wr.drewN nq=wq at hGq hsq ⊢;clear cx hG';go_wp2_with (at_builtin;refine wpList_append_own _ rfl _ _ 22 rfl w.heap.size 3 i0 (.int .i64 0) 1 8 Tryz.underlying22 hi hz0 hz1 hz2 rfl (by decide) _ _ _ rfl (hGq.out.1.alloc _) ⟨wq.heap.size,0,none⟩ 1 1 [.int .i64 (x - y - b+1000000000)] rfl rfl (cell_one_new _ _ _) (by intro u hu;simp at hu;subst hu;rfl) (by rw [hzl.out];unfold maxLen;omega) (by rw [hzl.out];omega) (by simp;omega) ?_;intro v2 w2 ho2 hg2 _;have hG2:=hIq (hGq.out.push ho2 hg2);clear ho2 hg2)
    exact⟨⟨k+1,_,by omega,by simp,rfl,_,hst.out,hG2.out⟩,by simp only [intOf];omega⟩
   ·have hst:=hIq (hkeep.out (by omega));clear hkeep htake;go_wp2_with fail
    go_quiet ((go_at_call 148;exact q_left (gq.out _)))
    have hGq:=hIq (hG'.out.drewN nq);have hsq:w.heap.size<=(wr.drewN nq).heap.size:=hsz;generalize wr.drewN nq=wq at hGq hsq ⊢;clear cx hG';go_wp2_with (at_builtin;refine wpList_append_own _ rfl _ _ 22 rfl w.heap.size 3 i0 (.int .i64 0) 1 8 Tryz.underlying22 hi hz0 hz1 hz2 rfl (by decide) _ _ _ rfl (hGq.out.1.alloc _) ⟨wq.heap.size,0,none⟩ 1 1 [.int .i64 (x - y - b)] rfl rfl (cell_one_new _ _ _) (by intro u hu;simp at hu;subst hu;rfl) (by rw [hzl.out];unfold maxLen;omega) (by rw [hzl.out];omega) (by simp;omega) ?_;intro v2 w2 ho2 hg2 _;have hG2:=hIq (hGq.out.push ho2 hg2);clear ho2 hg2)
    exact⟨⟨k+1,_,by omega,by simp,rfl,_,hst.out,hG2.out⟩,by simp only [intOf];omega⟩
  ·have hk':k=n1:=by omega
   subst hk';have hf:=hIq (hG.done (MinI.done (by rw [<-N1.out];exact hP) (by rw [<-N1.out,<-N2.out];exact hle) hv.out));clear hP hG;go_wp2_with fail
   go_ret
   exact hf.out
theorem Ar2.other {w W:World}{nx:Bool}{px:Option Addr}{lx cx:Nat}{ny:Bool}{py:Option Addr}{ly cy:Nat}(h:Ar2 w nx px lx cx ny py ly cy W){g i:Nat}{v:Value}(hg:w.heap.size+1+1<g):Ar2 w nx px lx cx ny py ly cy (W.setCell ⟨g,i,none⟩ v):=by
 obtain⟨h1,h2,⟨u,v,h3⟩,h4⟩:=h;refine⟨?_,?_,⟨u,v,?_⟩,h4.setCell (by simp;omega) _⟩
 ·rw [heap_setCell_other _ _ _ _ (by simp;omega)];exact h1
 ·rw [heap_setCell_other _ _ _ _ (by simp;omega)];exact h2
 ·rw [heap_setCell_other _ _ _ _ (by simp;omega)];exact h3
def RMulL (w:World)(nx:Bool)(px:Option Addr)(lx cx:Nat)(ny:Bool)(py:Option Addr)(ly cy:Nat)(g:Nat)(l m:List Int)(i:Nat)(wr:World):Prop:=∃z,MulA l m i z/\Blk wr g z/\Ar2 w nx px lx cx ny py ly cy wr
def RMulM (w:World)(nx:Bool)(px:Option Addr)(lx cx:Nat)(ny:Bool)(py:Option Addr)(ly cy:Nat)(g:Nat)(l m:List Int)(i j:Nat)(over:Int)(wr:World):Prop:=∃z,MulB l m i j over z/\Blk wr g z/\Ar2 w nx px lx cx ny py ly cy wr
theorem rMul_any (nx ny:Bool)(px py:Option Addr)(lx cx ly cy:Nat)(x y:Int)(w:World)(hx0:IntZ w nx px lx cx x)(hy0:IntZ w ny py ly cy y)(hlx:lx<=549755813887)(hly:ly<=549755813887):
 Calls Tryz.prog 95 #[.agg #[.bool nx,.slice px lx cx],.agg #[.bool ny,.slice py ly cy]] w (RetI w (x*y)):=by
 have H1:=hIq hx0.2.2.1;have H2:=hIq hy0.2.2.1;have N1:=hIq hx0.2.1;have N2:=hIq hy0.2.1;have D1:=hIq (Dg_digs x.natAbs);have D2:=hIq (Dg_digs y.natAbs)
 have hsg:Hid (sg (nx !=ny) (val (digs x.natAbs)*val (digs y.natAbs))=x*y):=hIq (by
  rw [val_digs,val_digs];have h1:=wk_neg hx0.1;have h2:=wk_neg hy0.1;by_cases hxz:x=0
  ·subst hxz;cases nx<;>cases ny<;>simp [sg]
  ·by_cases hyz:y=0
   ·subst hyz;cases nx<;>cases ny<;>simp [sg]
   ·rw [hx0.1 hxz,hy0.1 hyz];exact mul_sg x y)
 have hS0:=hIq (@Ar2.start nx px lx cx ny py ly cy w);have hf:=hIq (fun W (h:Ar2 w nx px lx cx ny py ly cy W)=>h.facts);generalize digs x.natAbs=l at H1 N1 D1 hsg;generalize digs y.natAbs=m at H2 N2 D2 hsg;clear hx0 hy0;have hmk:=run_make_row' (P:=Tryz.prog) 22 3 (.int .i64 0) 8 Tryz.underlying22 info_i64 rfl .i64 .i64 (lx+ly) (by omega) (by omega);rw [zvs_zeros,show((lx+ly:Nat):Int)=(lx:Int)+(ly:Int) by omega] at hmk;obtain⟨Z,hZ⟩:∃Z,zvs (List.replicate (lx+ly) 0)=Z:=⟨_,rfl⟩;rw [hZ] at hmk;have hZ':=hIq hZ;clear hZ
 go_enter Tryz.func95,Tryz.ntmps95
 go_upto_region 1 with fail
 generalize((w.alloc (.cells #[.bool nx,.slice px lx cx] 28)).alloc (.cells #[.bool ny,.slice py ly cy] 28)).alloc (.cells #[.bool false,.slice none 0 0] 28)=W0 at hS0 ⊢;have hS1:=hS0.out;have hf1:=hf.out _ hS1;have hI:Hid (RMulL w nx px lx cx ny py ly cy W0.heap.size l m 0 (W0.alloc (.cells Z.toArray 3))):=hIq ⟨_,MulA.start l m,by rw [<-N1.out,<-N2.out];have:=hZ'.out;rw [<-this];exact Blk_new _ _,hS1.later (below_new _ _)⟩;have hgt:Hid (w.heap.size+1+1<W0.heap.size):=hIq hS1.top;clear hS0;go_wp2_with fail
 generalize W0.alloc (.cells Z.toArray 3)=w1 at hI ⊢;generalize W0.heap.size=g at hI hgt ⊢;clear hmk hS1 hf1
 go_loopw [6] (fun iv wr=>∃k:Nat,k<=lx/\iv= .int .i64 (k:Int)/\RMulL w nx px lx cx ny py ly cy g l m k wr) (fun iv _=>lx - (intOf iv).toNat)
 case atStart=>exact⟨0,Nat.zero_le _,rfl,hI.out⟩
 case round=>
  obtain⟨i,hi,rfl,hL⟩:=hrel;clear hI;have hf2:_:=hf.out _ hL.choose_spec.2.2;by_cases hlt:i<lx
  ·have hM:Hid (RMulM w nx px lx cx ny py ly cy g l m i 0 0 wr):=hIq (by
    obtain⟨z,hA,hz,hB⟩:=hL
    exact⟨z,hA.row,hz,hB⟩)
   have i0:0<=(i:Int):=by omega
   have i1:(i:Int)<(lx:Int):=by omega
   clear hL;go_wp2_with fail
   obtain⟨wo,rfl⟩:∃wo:World,wo=wr:=⟨_,rfl⟩;clear hf2;have hlt':=hIq hlt;clear hlt
   go_loopw [7,8] (fun ov jv wr=>∃(j:Nat) (over:Int),j<=ly/\jv= .int .i64 (j:Int)/\ov= .int .i64 over/\RMulM w nx px lx cx ny py ly cy g l m i j over wr) (fun _ jv _=>ly - (intOf jv).toNat)
   case atStart=>exact⟨0,0,Nat.zero_le _,rfl,rfl,hM.out⟩
   case round=>
    obtain⟨j,over,hj,rfl,rfl,z,hB,hz,hA2⟩:=hrel;clear hM;have hf3:=hf.out _ hA2;have hil:i<l.length:=by rw [<-N1.out];exact hlt'.out
    by_cases hlt:j<ly
    ·obtain⟨b1,o1,hpx,hcx0⟩:=Rdi_at H1.out i hil;obtain⟨b2,o2,hpy,hcy0⟩:=Rdi_at H2.out j (by rw [<-N2.out];exact hlt);have kx:=Below.cell_of' hA2.2.2.2 hcx0;have ky:=Below.cell_of' hA2.2.2.2 hcy0;have hkz:i+j<z.length:=by rw [hB.len,<-N1.out,<-N2.out];omega
     have cz:=hz.cell hkz;have cf:=hz.free (i+j);have hx1:=D1.out.all i;have hnx:=hB.next hil (by rw [<-N2.out];exact hlt) hx1.1 hx1.2 D2.out;have hst:Hid (∀q,RMulM w nx px lx cx ny py ly cy g l m i (j+1) ((iat l i*iat m j+iat z (i+j)+over) / 1000000000) ((wr.drewN q).setCell ⟨g,i+j,none⟩ (.int .i64 ((iat l i*iat m j+iat z (i+j)+over) % 1000000000)))):=hIq fun q=>⟨_,hnx,Blk.set (hz.drewN q) _ _,(hA2.later (below_drewN (Below.refl _ _) q)).other hgt.out⟩
     have hy1:=D2.out.all j;have hz1:=hB.dg.all (i+j);have ho1:=hB.lo;have ho2:=hB.hi;have hmd:=mul_digit hx1.1 hx1.2 hy1.1 hy1.2 hz1.1 hz1.2 ho1 ho2;obtain⟨x',hxx⟩:∃x,iat l i=x:=⟨_,rfl⟩;obtain⟨y',hyy⟩:∃y,iat m j=y:=⟨_,rfl⟩;obtain⟨v,hvv⟩:∃v,iat z (i+j)=v:=⟨_,rfl⟩;rw [hxx] at kx hst hmd;rw [hyy] at ky hst hmd;rw [hvv] at cz hst hz1 hmd;rw [Int.add_comm (x'*y') v] at hst hmd;obtain⟨q1,q2,q3,q4⟩:=hmd;obtain⟨hz3,hz4⟩:=hz1;have j0:0<=(j:Int):=by omega
     have j1:(j:Int)<(ly:Int):=by omega
     have j2:(i:Int)+(j:Int)<(lx:Int)+(ly:Int):=by omega
     have j3:0<=(i:Int)+(j:Int):=by omega
     have j4:((i:Int)+(j:Int)).toNat=i+j:=by omega
     have j5:((i:Int)).toNat=i:=by omega
     have j6:((j:Int)).toNat=j:=by omega
     have v1:0<=v+x'*y':=by omega
     have v2:v+x'*y'<2000000000000000000:=by omega
     have u1:IntKind.i64.wrap ((i:Int)+(j:Int))=(i:Int)+(j:Int):=IntWalk.i64_in _ (by omega);have u2:IntKind.i64.wrap (x'*y')=x'*y':=IntWalk.i64_in _ (by omega);have u3:IntKind.i64.wrap (v+x'*y')=v+x'*y':=IntWalk.i64_in _ (by omega);have u4:IntKind.i64.wrap (v+x'*y'+over)=v+x'*y'+over:=IntWalk.i64_in _ (by omega);have hfin2:Hid (ly - (j+1)<ly - j):=hIq (by omega);subst hpx hpy;clear hB hz hA2 hcx0 hcy0 hkz hil hnx hxx hyy hvv hx1 hy1 hlt;go_wp2_with fail
     go_quiet (fail)
     have czq:(wr.drewN nq).cell? ⟨g,i+j,none⟩=some (.int .i64 v):=cz;have cfq:(wr.drewN nq).frozen? ⟨g,i+j,none⟩=false:=cf;have hstq:=hIq (hst.out nq);generalize wr.drewN nq=wq at czq cfq hstq ⊢;clear cz cf kx ky hf3 u2 u3 u4;go_wp2_with fail
     exact⟨⟨j+1,_,by omega,by simp,rfl,hstq.out⟩,by simp [intOf];exact hfin2.out⟩
    ·obtain rfl:ly=j:=by omega
     have hkz:i+ly<z.length:=by rw [hB.len,<-N1.out,<-N2.out];have:=hlt'.out;omega
     have cz:=hz.cell hkz;have cf:=hz.free (i+ly);rw [N2.out] at hB;have hdn:=hB.done hil;rw [<-N2.out] at hdn;have hst:Hid (RMulL w nx px lx cx ny py ly cy g l m (i+1) (wr.setCell ⟨g,i+ly,none⟩ (.int .i64 over))):=hIq ⟨_,hdn,hz.set _ _,hA2.other hgt.out⟩;have hii:=hlt'.out;have hii2:Hid (lx - (i+1)<lx - i):=hIq (by omega);have j0:0<=(ly:Int):=by omega
     generalize iat z (i+ly)=v at cz;clear hB hz hA2 hil hkz hdn hlt;go_wp2_with fail
     exact⟨⟨i+1,by omega,by simp,hst.out⟩,by simp [intOf];exact hii2.out⟩
  ·have hk':i=lx:=by omega
   subst hk';obtain⟨z,hA,hz,hB⟩:=hL;have hno:Hid (Calls Tryz.prog 122 #[.bool (!nx==ny),.slice (some ⟨g,0,none⟩) (i+ly) (i+ly)] wr (RetF (fun q=>some (⟨g,0,none⟩:Addr)=some q) wr (sg (!nx==ny) (val z)))):=hIq (normal_any _ _ _ _ z wr hz.rdi (by rw [hA.len,N1.out,N2.out]) (Nat.le_refl _) (by omega) hA.dg);have hsg2:Hid (sg (!nx==ny) (val z)=x*y):=hIq (by rw [hA.sum,N1.out,List.take_length,<-hsg.out];cases nx<;>cases ny<;>rfl);have hB':=hB;clear hz hA hB hsg;go_wp2_with fail
   refine hno.out.mono ?_
   rintro e w2 ⟨nb,p,n2,c2,rfl,hI0,hb2,hp0⟩
   have hS2:=hB'.later hb2;have hf4:=hf.out _ hS2
   have hfin:=hIq (hS2.ret hI0 (fun q hq=>by
    have:=hp0 q hq;cases this
    exact hgt.out) hsg2.out)
   clear hI0 hb2 hp0;go_wp2_with fail
   exact bodyPost_ret (v:= .agg #[.bool nb,.slice p n2 c2]) (results_cell_row rfl _ _ (w.heap.size+1+1) 28 _ (0,0) _ rfl (hS2.res _ _) Tryz.underlying28 rfl size_Int) rfl hfin.out
theorem compared_any (a1 a2:Option Addr)(n1 c1 n2 c2:Nat)(x y:Nat)(w:World)(hR1:Rdi w a1 (digs x))(hR2:Rdi w a2 (digs y))(hn1:n1=(digs x).length)(hn2:n2=(digs y).length)(hm1:n1<=9223372036854775807)(hm2:n2<=9223372036854775807):
 Calls Tryz.prog 128 #[.slice a1 n1 c1,.slice a2 n2 c2] w fun e w'=>e= .returned (.int .i64 (cmpI x y))/\Below w.heap.size w w':=by
 have H1:=hIq hR1;have H2:=hIq hR2;have N1:=hIq hn1;have N2:=hIq hn2;clear hR1 hR2 hn1 hn2;rcases Nat.lt_trichotomy n1 n2 with hlt|heq|hgt
 ·have t1:(n1:Int)<(n2:Int):=by omega
  have hr:Hid (cmpI x y= -1):=hIq (by rw [<-cmp_len (by rw [<-N1.out,<-N2.out];omega),<-N1.out,<-N2.out];exact cmp_lt t1)
  go_enter Tryz.func128,Tryz.ntmps128
  go_wp2_with fail
  go_ret
  exact⟨by rw [hr.out];rfl,Below.refl _ _⟩
 ·subst heq;have t1:¬(n1:Int)<(n1:Int):=by omega
  have HL:Hid ((digs x).length=(digs y).length):=hIq (by rw [<-N1.out,<-N2.out])
  go_enter Tryz.func128,Tryz.ntmps128
  go_wp2_with fail
  go_loopw [5] (fun i wr=>∃k:Nat,k<=n1/\i= .int .i64 ((k:Int) - 1)/\Hid ((digs x).drop k=(digs y).drop k)/\Below w.heap.size w wr) (fun i _=>(intOf i+1).toNat)
  case atStart=>exact⟨n1,Nat.le_refl _,rfl,hIq (by rw [List.drop_of_length_le (by rw [<-N1.out];exact Nat.le_refl _),List.drop_of_length_le (by rw [<-N2.out];exact Nat.le_refl _)]),Below.refl _ _⟩
  case round=>
   obtain⟨k,hk,rfl,D,hB⟩:=hrel;by_cases h0:k=0
   ·subst h0
    have hr:Hid (cmpI x y=0):=hIq (by
     have:=D.out;rw [List.drop_zero,List.drop_zero] at this
     rw [digs_inj this];exact cmp_eq _)
    have hB':=hIq hB;clear hB;rw [show((0:Nat):Int) - 1= -1 from rfl];go_wp2_with fail
    go_ret
    exact⟨by rw [hr.out];rfl,hB'.out⟩
   ·obtain⟨j,rfl⟩:∃j,k=j+1:=⟨k - 1,by omega⟩;obtain⟨b1,o1,rfl,hc1⟩:=Rdi_at H1.out j (by rw [<-N1.out];omega);obtain⟨b2,o2,rfl,hc2⟩:=Rdi_at H2.out j (by rw [<-N2.out];omega);have C1:=Below.cell_of' hB hc1;have C2:=Below.cell_of' hB hc2;have hB':=hIq hB;obtain⟨X,hX⟩:∃X,iat (digs x) j=X:=⟨_,rfl⟩;obtain⟨Y,hY⟩:∃Y,iat (digs y) j=Y:=⟨_,rfl⟩;rw [hX] at C1;rw [hY] at C2;have hX':=hIq hX;have hY':=hIq hY;have hj1:j<(digs x).length:=by rw [<-N1.out];omega
    have e3:(j:Int)<(n1:Int):=by omega
    have e4:0<=(j:Int):=by omega
    have e5:((j:Int)).toNat=j:=by omega
    clear hB hc1 hc2 hX hY h0;rw [show((j+1:Nat):Int) - 1=(j:Int) by omega];rcases Int.lt_trichotomy X Y with hXY|hXY|hXY
    ·have hn:X<Y:=hXY;have hr:Hid (cmpI x y= -1):=hIq (by rw [<-cmp_top HL.out j hj1 D.out (by rw [hX'.out,hY'.out];omega),hX'.out,hY'.out];exact cmp_lt hXY);clear hXY;go_wp2_with fail
     go_quiet (fail)
     go_wp2_with fail
     go_ret
     exact⟨by rw [hr.out];rfl,below_drewN hB'.out _⟩
    ·subst hXY;have hn:¬X<X:=by omega
     have hs:Hid ((digs x).drop j=(digs y).drop j):=hIq (drop_same HL.out j hj1 D.out (by rw [hX'.out,hY'.out]));go_wp2_with fail
     go_quiet (fail)
     go_wp2_with fail
     have hBq:=hIq (below_drewN hB'.out nq);have C1q:(wr.drewN nq).cell? ⟨b1,o1+j,none⟩=some (.int .i64 X):=C1;have C2q:(wr.drewN nq).cell? ⟨b2,o2+j,none⟩=some (.int .i64 X):=C2;generalize wr.drewN nq=wq at hBq C1q C2q ⊢;clear C1 C2
     go_quiet (fail)
     go_wp2_with fail
     exact⟨⟨j,by omega,by simp,hs,below_drewN hBq.out _⟩,by simp [intOf]⟩
    ·have hn:¬X<Y:=by omega
     have hn2:Y<X:=hXY;have hr:Hid (cmpI x y=1):=hIq (by rw [<-cmp_top HL.out j hj1 D.out (by rw [hX'.out,hY'.out];omega),hX'.out,hY'.out];exact cmp_gt hXY);clear hXY;go_wp2_with fail
     go_quiet (fail)
     go_wp2_with fail
     have hBq:=hIq (below_drewN hB'.out nq);have C1q:(wr.drewN nq).cell? ⟨b1,o1+j,none⟩=some (.int .i64 X):=C1;have C2q:(wr.drewN nq).cell? ⟨b2,o2+j,none⟩=some (.int .i64 Y):=C2;generalize wr.drewN nq=wq at hBq C1q C2q ⊢;clear C1 C2
     go_quiet (fail)
     go_wp2_with fail
     go_ret
     exact⟨by rw [hr.out];rfl,below_drewN hBq.out _⟩
 ·have t1:¬(n1:Int)<(n2:Int):=by omega
  have t2:(n2:Int)<(n1:Int):=by omega
  have hr:Hid (cmpI x y=1):=hIq (by rw [<-cmp_len (by rw [<-N1.out,<-N2.out];omega),<-N1.out,<-N2.out];exact cmp_gt t2)
  go_enter Tryz.func128,Tryz.ntmps128
  go_wp2_with fail
  go_ret
  exact⟨by rw [hr.out];rfl,Below.refl _ _⟩
end Go.Proofs.YteacdbgalloaiaaGreat
