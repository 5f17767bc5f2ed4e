/- Contracts of the packages integer, rat, plane, polygon and their references. -/
import Derived.Test.YteacdbgalloaiaaGreatO8
import Derived.Test.YteacdbgalloaiaaGreatO4
set_option linter.unusedVariables false
set_option maxRecDepth 100000
set_option maxHeartbeats 6400000
namespace Go.Proofs.YteacdbgalloaiaaGreat
open Go.RowKit
theorem cQSub {w:World}{Na Nb:Nat}{a b:Rat}{v0 v1:Value}(h0:Vq Na a v0 w)(h1:Vq Nb b v1 w)(h1a:1<=Na:=by omega)(h1b:1<=Nb:=by omega)(hNa:Na<=100000:=by omega)(hNb:Nb<=100000:=by omega):Calls Tryz.prog 144 #[v0,v1] w (RV (Vq (Na+Nb+1) (a - b)) w):=by
 go_enter Tryz.func144,Tryz.ntmps144
 refine Sg 9 [(0,Vq Na a),(1,Vq Nb b)] (Lq.2 ⟨⟨_,rfl,h0⟩,(Lq.2 ⟨⟨_,rfl,h1⟩,L0⟩)⟩) fun a0 st0=>Wn ?_
 refine rH [(30,4,0)] [VT,VT,VT] [⟨2,some 0,some 0,30,4,Vq Na a,VT⟩,⟨3,some 1,some 1,30,4,Vq Nb b,VT⟩,⟨4,some 2,none,30,4,VT,VT⟩] [] st0 ⟨ks,ks,ks,trivial⟩ fun a1 w1 st1=>Wn ?_
 refine rH [(30,4,0)] [Vq Na a,Vq Nb b,Vq Nb (-(b)),Vq (Na+Nb+1) ((a)+(-(b))),VT] [.k 2 30 4 (Vq Na a),.k 3 30 4 (Vq Nb b),⟨4,none,some 4,30,4,Vq (Na+Nb+1) ((a)+(-(b))),VT⟩] [] st1 ⟨ks,ks,(kd1 fun _ _ _ _ _ X0=>cQNeg X0),(kd2 fun _ _ _ _ _ X0 _ X1=>cQAdd X0 X1),ks,trivial⟩ fun a2 w2 st2=>Wn ?_
 exact wp_ret (rC 4 30 (Vq (Na+Nb+1) ((a)+(-(b)))) st2 fun cs r4=>(by rw [Rat.sub_eq_add_neg];exact r4))
theorem cQDiv {w:World}{Na Nb:Nat}{a b:Rat}{v0 v1:Value}(h0:Vq Na a v0 w)(h1:Vq Nb b v1 w)(h1a:1<=Na:=by omega)(h1b:1<=Nb:=by omega)(hNa:Na<=100000:=by omega)(hNb:Nb<=100000:=by omega):Calls Tryz.prog 57 #[v0,v1] w (RV (Vq (Na+Nb) (a / b)) w):=by
 go_enter Tryz.func57,Tryz.ntmps57
 refine Sg 22 [(0,Vq Na a),(1,Vq Nb b)] (Lq.2 ⟨⟨_,rfl,h0⟩,(Lq.2 ⟨⟨_,rfl,h1⟩,L0⟩)⟩) fun a0 st0=>Wn ?_
 refine rH [(30,4,0)] [VT,VT,VT] [⟨2,some 0,some 0,30,4,Vq Na a,VT⟩,⟨3,some 1,some 1,30,4,Vq Nb b,VT⟩,⟨4,some 2,none,30,4,VT,VT⟩] [] st0 ⟨ks,ks,ks,trivial⟩ fun a1 w1 st1=>Wn ?_
 refine rH [(30,4,0)] [Vq Nb b,Vi (cmpI b.num 0)] [.k 2 30 4 (Vq Na a),.k 3 30 4 (Vq Nb b),.k 4 30 4 VT] [(6,Vi (cmpI b.num 0))] st1 ⟨ks,(kd1 fun _ _ _ _ _ X0=>cQSign X0),trivial⟩ ?_;intro a2 w2 st2;by_cases hz:b.num=0
 ·
  refine Wn ?_
  refine rH [(30,4,0)] [Vb true,Vb true] [.k 2 30 4 (Vq Na a),.k 3 30 4 (Vq Nb b),.k 4 30 4 VT] [(6,Vi (cmpI b.num 0)),(7,Vb true)] st2 ⟨(by refine kr fun _ A Y h D=>?_;obtain⟨v0,x0,X0⟩:=h.ot 6;have hV0':v0= .int .i64 (cmpI b.num 0):=X0;exact⟨_,run_eqi rfl (x0.trans hV0') rfl,congrArg Value.bool (by rw [hz,cmp_eq];rfl)⟩),ks,trivial⟩ ?_;intro a3 w3 st3;refine Wn ?_
  refine cT st3 ?_;refine Wn ?_
  refine rH [(30,4,0)] [Vq 1 0,VT] [.k 2 30 4 (Vq Na a),.k 3 30 4 (Vq Nb b),⟨4,none,some 1,30,4,Vq 1 0,VT⟩] [(6,Vi (cmpI b.num 0)),(7,Vb true)] st3 ⟨(kr fun _ A Y h D=>build_Rat0 rfl),ks,trivial⟩ fun a4 w4 st4=>Wn ?_
  exact wp_ret (rC 4 30 (Vq 1 0) st4 fun cs r4=>(by have e:b=0:=Rat.num_eq_zero.1 hz;rw [show a / b=0 by rw [e,Rat.div_def,Rat.inv_zero,Rat.mul_zero]];exact Vq_le r4 (by omega)))
 ·
  by_cases hl:b.num<0
  ·
   refine Wn ?_
   refine rH [(30,4,0)] [Vb false,Vb false] [.k 2 30 4 (Vq Na a),.k 3 30 4 (Vq Nb b),.k 4 30 4 VT] [(6,Vi (cmpI b.num 0)),(7,Vb false)] st2 ⟨(by refine kr fun _ A Y h D=>?_;obtain⟨v0,x0,X0⟩:=h.ot 6;have hV0':v0= .int .i64 (cmpI b.num 0):=X0;exact⟨_,run_eqi rfl (x0.trans hV0') rfl,congrArg Value.bool (by rw [cmp0];exact dF hz)⟩),ks,trivial⟩ ?_;intro a3 w3 st3;refine Wn ?_
   refine cF st3 ?_;refine Wn ?_
   refine rH [(30,4,0)] [Vb true,Vb true] [.k 2 30 4 (Vq Na a),.k 3 30 4 (Vq Nb b),.k 4 30 4 VT] [(6,Vi (cmpI b.num 0)),(7,Vb false),(10,Vb true)] st3 ⟨(by refine kr fun _ A Y h D=>?_;obtain⟨v0,x0,X0⟩:=h.ot 6;have hV0':v0= .int .i64 (cmpI b.num 0):=X0;exact⟨_,run_eqi rfl (x0.trans hV0') rfl,congrArg Value.bool (by rw [cmp_lt hl];rfl)⟩),ks,trivial⟩ ?_;intro a4 w4 st4;refine Wn ?_
   refine cT st4 ?_;refine Wn ?_
   refine rH [(30,4,0)] [Vq Na a,Vq Na (-(a)),Vq Nb b,Vq Nb (-(b)),Vq Nb ((-(b))⁻¹),Vq (Na+Nb) ((-(a))*((-(b))⁻¹)),VT] [.k 2 30 4 (Vq Na a),.k 3 30 4 (Vq Nb b),⟨4,none,some 6,30,4,Vq (Na+Nb) ((-(a))*((-(b))⁻¹)),VT⟩] [(6,Vi (cmpI b.num 0)),(7,Vb false),(10,Vb true)] st4 ⟨ks,(kd1 fun _ _ _ _ _ X0=>cQNeg X0),ks,(kd1 fun _ _ _ _ _ X0=>cQNeg X0),(by exact kd1 fun _ _ _ _ _ X0=>cQInv X0 (by omega) (by omega) (by rw [Rat.neg_num];omega)),(kd2 fun _ _ _ _ _ X0 _ X1=>cQMul X0 X1),ks,trivial⟩ fun a5 w5 st5=>Wn ?_
   exact wp_ret (rC 4 30 (Vq (Na+Nb) ((-(a))*((-(b))⁻¹))) st5 fun cs r4=>(by rw [show a / b= -a*(-b)⁻¹ from div_neg_neg a b];exact r4))
  ·
   refine Wn ?_
   refine rH [(30,4,0)] [Vb false,Vb false] [.k 2 30 4 (Vq Na a),.k 3 30 4 (Vq Nb b),.k 4 30 4 VT] [(6,Vi (cmpI b.num 0)),(7,Vb false)] st2 ⟨(by refine kr fun _ A Y h D=>?_;obtain⟨v0,x0,X0⟩:=h.ot 6;have hV0':v0= .int .i64 (cmpI b.num 0):=X0;exact⟨_,run_eqi rfl (x0.trans hV0') rfl,congrArg Value.bool (by rw [cmp0];exact dF hz)⟩),ks,trivial⟩ ?_;intro a3 w3 st3;refine Wn ?_
   refine cF st3 ?_;refine Wn ?_
   refine rH [(30,4,0)] [Vb false,Vb false] [.k 2 30 4 (Vq Na a),.k 3 30 4 (Vq Nb b),.k 4 30 4 VT] [(6,Vi (cmpI b.num 0)),(7,Vb false),(10,Vb false)] st3 ⟨(by refine kr fun _ A Y h D=>?_;obtain⟨v0,x0,X0⟩:=h.ot 6;have hV0':v0= .int .i64 (cmpI b.num 0):=X0;exact⟨_,run_eqi rfl (x0.trans hV0') rfl,congrArg Value.bool (by rw [cmp_gt (by omega)];rfl)⟩),ks,trivial⟩ ?_;intro a4 w4 st4;refine Wn ?_
   refine cF st4 ?_;refine Wn ?_
   refine rH [(30,4,0)] [Vq Na a,Vq Nb b,Vq Nb ((b)⁻¹),Vq (Na+Nb) ((a)*((b)⁻¹)),VT] [.k 2 30 4 (Vq Na a),.k 3 30 4 (Vq Nb b),⟨4,none,some 4,30,4,Vq (Na+Nb) ((a)*((b)⁻¹)),VT⟩] [(6,Vi (cmpI b.num 0)),(7,Vb false),(10,Vb false)] st4 ⟨ks,ks,(kd1 fun _ _ _ _ _ X0=>cQInv X0),(kd2 fun _ _ _ _ _ X0 _ X1=>cQMul X0 X1),ks,trivial⟩ fun a5 w5 st5=>Wn ?_
   exact wp_ret (rC 4 30 (Vq (Na+Nb) ((a)*((b)⁻¹))) st5 fun cs r4=>(by rw [Rat.div_def];exact r4))
theorem cQCompare {w:World}{Na Nb:Nat}{a b:Rat}{v0 v1:Value}(h0:Vq Na a v0 w)(h1:Vq Nb b v1 w)(h1a:1<=Na:=by omega)(h1b:1<=Nb:=by omega)(hNa:Na<=100000:=by omega)(hNb:Nb<=100000:=by omega):Calls Tryz.prog 32 #[v0,v1] w (RV (Vi (cmpQ a b)) w):=by
 go_enter Tryz.func32,Tryz.ntmps32
 refine Sg 28 [(0,Vq Na a),(1,Vq Nb b)] (Lq.2 ⟨⟨_,rfl,h0⟩,(Lq.2 ⟨⟨_,rfl,h1⟩,L0⟩)⟩) fun a0 st0=>Wn ?_
 refine rH [] [VT,VT,Vi 0] [⟨2,some 0,some 0,30,4,Vq Na a,VT⟩,⟨3,some 1,some 1,30,4,Vq Nb b,VT⟩] [(4,Vi 0)] st0 ⟨ks,ks,ks,trivial⟩ fun a1 w1 st1=>Wn ?_
 refine rH [] [Vq Na a,Vi (cmpI a.num 0),Vq Nb b,Vi (cmpI b.num 0),Vi (cmpI a.num 0),Vi (cmpI b.num 0)] [.k 2 30 4 (Vq Na a),.k 3 30 4 (Vq Nb b)] [(4,Vi 0),(5,Vi (cmpI a.num 0)),(6,Vi (cmpI b.num 0))] st1 ⟨ks,(kd1 fun _ _ _ _ _ X0=>cQSign X0),ks,(kd1 fun _ _ _ _ _ X0=>cQSign X0),ks,ks,trivial⟩ ?_;intro a2 w2 st2;by_cases hs:cmpI a.num 0=cmpI b.num 0
 ·
  refine Wn ?_
  refine rH [] [Vi (cmpI a.num 0),Vi (cmpI b.num 0),Vb false] [.k 2 30 4 (Vq Na a),.k 3 30 4 (Vq Nb b)] [(4,Vi 0),(5,Vi (cmpI a.num 0)),(6,Vi (cmpI b.num 0)),(13,Vb false)] st2 ⟨ks,ks,(by refine kr fun _ A Y h D=>?_;obtain⟨v0,x0,X0⟩:=h.dp D 11;have hV0':v0= .int .i64 (cmpI a.num 0):=X0;obtain⟨v1,x1,X1⟩:=h.dp D 12;have hV1':v1= .int .i64 (cmpI b.num 0):=X1;exact⟨_,run_neqi rfl (x0.trans hV0') (x1.trans hV1'),congrArg Value.bool (by rw [hs];simp)⟩),trivial⟩ ?_;intro a3 w3 st3;refine Wn ?_
  refine cF st3 ?_;refine Wn ?_
  refine rH [] [Vpt a3 2 0,Vz Na a.num,Vq Nb b,Vz Nb (b.den:Int),Vz (Na+Nb) ((a.num)*(b.den:Int)),Vpt a3 3 0,Vz Nb b.num,Vq Na a,Vz Na (a.den:Int),Vz (Nb+Na) ((b.num)*(a.den:Int)),Vi (cmpI ((a.num)*(b.den:Int)) ((b.num)*(a.den:Int))),Vi (cmpI ((a.num)*(b.den:Int)) ((b.num)*(a.den:Int)))] [.k 2 30 4 (Vq Na a),.k 3 30 4 (Vq Nb b)] [(5,Vi (cmpI a.num 0)),(6,Vi (cmpI b.num 0)),(13,Vb false),(4,Vi (cmpI ((a.num)*(b.den:Int)) ((b.num)*(a.den:Int))))] st3 ⟨ks,ks,ks,(kd1 fun _ _ _ _ _ X0=>cDen X0),(kd2 fun _ _ _ _ _ X0 _ X1=>(cMul X0 X1)),ks,ks,ks,(kd1 fun _ _ _ _ _ X0=>cDen X0),(kd2 fun _ _ _ _ _ X0 _ X1=>(cMul X0 X1)),(kd2 fun _ _ _ _ _ X0 _ X1=>(cCompare X0 X1)),ks,trivial⟩ fun a4 w4 st4=>Wn ?_
  exact wp_ret (rS 4 (Vi (cmpI ((a.num)*(b.den:Int)) ((b.num)*(a.den:Int)))) st4 fun vr r4=>r4)
 ·
  refine Wn ?_
  refine rH [] [Vi (cmpI a.num 0),Vi (cmpI b.num 0),Vb true] [.k 2 30 4 (Vq Na a),.k 3 30 4 (Vq Nb b)] [(4,Vi 0),(5,Vi (cmpI a.num 0)),(6,Vi (cmpI b.num 0)),(13,Vb true)] st2 ⟨ks,ks,(kr2 11 12 fun _ _ _ _ _ x0 X0 _ x1 X1=>⟨_,run_neqi rfl (x0.trans X0) (x1.trans X1),congrArg Value.bool (bne_iff_ne.2 hs)⟩),trivial⟩ fun a3 w3 st3=>Wn ?_
  refine cT st3 ?_;refine Wn ?_
  refine rH [] [Vi (cmpI a.num 0),Vi (cmpI b.num 0),Vi (cmpI (cmpI a.num 0) (cmpI b.num 0)),Vi (cmpI (cmpI a.num 0) (cmpI b.num 0))] [.k 2 30 4 (Vq Na a),.k 3 30 4 (Vq Nb b)] [(5,Vi (cmpI a.num 0)),(6,Vi (cmpI b.num 0)),(13,Vb true),(4,Vi (cmpI (cmpI a.num 0) (cmpI b.num 0)))] st3 ⟨ks,ks,(kd2 fun _ _ _ _ _ X0 _ X1=>cCmp X0 X1),ks,trivial⟩ fun a4 w4 st4=>Wn ?_
  exact wp_ret (rS 4 (Vi (cmpI (cmpI a.num 0) (cmpI b.num 0))) st4 fun vr r4=>(by rw [<-cmpQ_sign hs];exact r4))
theorem cQMake {w:World}{Na Nb:Nat}{p q:Int}{v0 v1:Value}(h0:Vz Na p v0 w)(h1:Vz Nb q v1 w)(h1a:1<=Na:=by omega)(h1b:1<=Nb:=by omega)(hNa:Na<=100000:=by omega)(hNb:Nb<=100000:=by omega):Calls Tryz.prog 103 #[v0,v1] w (RV (Vq (max Na Nb) (Rat.divInt p q)) w):=by
 go_enter Tryz.func103,Tryz.ntmps103
 refine Sg 27 [(0,Vz Na p),(1,Vz Nb q)] (Lq.2 ⟨⟨_,rfl,h0⟩,(Lq.2 ⟨⟨_,rfl,h1⟩,L0⟩)⟩) fun a0 st0=>Wn ?_
 refine rH [(30,4,0),(28,2,0)] [VT,VT,VT] [⟨2,some 0,some 0,28,2,Vz Na p,VT⟩,⟨3,some 1,some 1,28,2,Vz Nb q,VT⟩,⟨4,some 2,none,30,4,VT,VT⟩] [] st0 ⟨ks,ks,ks,trivial⟩ fun a1 w1 st1=>Wn ?_
 refine rH [(30,4,0),(28,2,0)] [Vz Nb q,Vi (cmpI q 0)] [.k 2 28 2 (Vz Na p),.k 3 28 2 (Vz Nb q),.k 4 30 4 VT] [(7,Vi (cmpI q 0))] st1 ⟨ks,(kd1 fun _ _ _ _ _ X0=>cSign X0),trivial⟩ ?_;intro a2 w2 st2;by_cases hz:q=0
 ·
  refine Wn ?_
  refine rH [(30,4,0),(28,2,0)] [Vb true,Vb true] [.k 2 28 2 (Vz Na p),.k 3 28 2 (Vz Nb q),.k 4 30 4 VT] [(7,Vi (cmpI q 0)),(8,Vb true)] st2 ⟨(by refine kr fun _ A Y h D=>?_;obtain⟨v0,x0,X0⟩:=h.ot 7;have hV0':v0= .int .i64 (cmpI q 0):=X0;exact⟨_,run_eqi rfl (x0.trans hV0') rfl,congrArg Value.bool (by rw [hz,cmp_eq];rfl)⟩),ks,trivial⟩ ?_;intro a3 w3 st3;refine Wn ?_
  refine cT st3 ?_;refine Wn ?_
  refine rH [(30,4,0),(28,2,0)] [Vq 1 0,VT] [.k 2 28 2 (Vz Na p),.k 3 28 2 (Vz Nb q),⟨4,none,some 1,30,4,Vq 1 0,VT⟩] [(7,Vi (cmpI q 0)),(8,Vb true)] st3 ⟨(kr fun _ A Y h D=>build_Rat0 rfl),ks,trivial⟩ fun a4 w4 st4=>Wn ?_
  exact wp_ret (rC 4 30 (Vq 1 0) st4 fun cs r4=>(by rw [hz,Rat.divInt_zero];exact Vq_le r4 (by omega)))
 ·
  by_cases hl:q<0
  ·
   refine Wn ?_
   refine rH [(30,4,0),(28,2,0)] [Vb false,Vb false] [.k 2 28 2 (Vz Na p),.k 3 28 2 (Vz Nb q),.k 4 30 4 VT] [(7,Vi (cmpI q 0)),(8,Vb false)] st2 ⟨(by refine kr fun _ A Y h D=>?_;obtain⟨v0,x0,X0⟩:=h.ot 7;have hV0':v0= .int .i64 (cmpI q 0):=X0;exact⟨_,run_eqi rfl (x0.trans hV0') rfl,congrArg Value.bool (by rw [cmp0];exact dF hz)⟩),ks,trivial⟩ ?_;intro a3 w3 st3;refine Wn ?_
   refine cF st3 ?_;refine Wn ?_
   refine rH [(30,4,0),(28,2,0)] [Vb true,Vb true] [.k 2 28 2 (Vz Na p),.k 3 28 2 (Vz Nb q),.k 4 30 4 VT] [(7,Vi (cmpI q 0)),(8,Vb false),(11,Vb true)] st3 ⟨(by refine kr fun _ A Y h D=>?_;obtain⟨v0,x0,X0⟩:=h.ot 7;have hV0':v0= .int .i64 (cmpI q 0):=X0;exact⟨_,run_eqi rfl (x0.trans hV0') rfl,congrArg Value.bool (by rw [cmp_lt hl];rfl)⟩),ks,trivial⟩ ?_;intro a4 w4 st4;refine Wn ?_
   refine cT st4 ?_;refine Wn ?_
   refine rH [(30,4,0),(28,2,0)] [Vz Na p,Vz Na (-(p)),Vz Nb q,Vz Nb (-(q)),VT,VT] [⟨2,none,some 4,28,2,Vz Na (-(p)),Vz Na p⟩,⟨3,none,some 5,28,2,Vz Nb (-(q)),Vz Nb q⟩,.k 4 30 4 VT] [(7,Vi (cmpI q 0)),(8,Vb false),(11,Vb true)] st4 ⟨ks,(kd1 fun _ _ _ _ _ X0=>cNeg X0),ks,(kd1 fun _ _ _ _ _ X0=>cNeg X0),ks,ks,trivial⟩ fun a5 w5 st5=>Wn ?_
   refine rH [(30,4,0),(28,2,0)] [Vz Na (-(p)),Vz Nb (-(q)),Vz (max Na Nb) (Int.gcd (-(p)) (-(q)):Int),VT,VT] [.k 2 28 2 (Vz Na (-(p))),.k 3 28 2 (Vz Nb (-(q))),.k 4 30 4 VT,⟨5,some 3,some 4,28,2,Vz (max Na Nb) (Int.gcd (-(p)) (-(q)):Int),VT⟩] [(7,Vi (cmpI q 0)),(8,Vb false),(11,Vb true)] st5 ⟨ks,ks,(kd2 fun _ _ _ _ _ X0 _ X1=>(cGcd X0 X1)),ks,ks,trivial⟩ fun a6 w6 st6=>Wn ?_
   refine rH [(30,4,0),(28,2,0)] [Vz Na (-(p)),Vz (max Na Nb) (Int.gcd (-(p)) (-(q)):Int),Vz Na ((-(p)) / (Int.gcd (-(p)) (-(q)):Int)),Vz Nb (-(q)),Vz (max Na Nb) (Int.gcd (-(p)) (-(q)):Int),Vz Nb ((-(q)) / (Int.gcd (-(p)) (-(q)):Int)),Vq (max Na Nb) (Rat.divInt p q),VT] [.k 2 28 2 (Vz Na (-(p))),.k 3 28 2 (Vz Nb (-(q))),⟨4,none,some 7,30,4,Vq (max Na Nb) (Rat.divInt p q),VT⟩,.k 5 28 2 (Vz (max Na Nb) (Int.gcd (-(p)) (-(q)):Int))] [(7,Vi (cmpI q 0)),(8,Vb false),(11,Vb true)] st6 ⟨ks,ks,(kd2 fun _ _ _ _ _ X0 _ X1=>cPart X0 X1 (by first|exact gcd_den_ne _ _|exact gcd_den_ne' _ _|exact gcd_gcd_ne _ _ _|exact gcd_ne_r (by omega))),ks,ks,(kd2 fun _ _ _ _ _ X0 _ X1=>cPart X0 X1 (by first|exact gcd_den_ne _ _|exact gcd_den_ne' _ _|exact gcd_gcd_ne _ _ _|exact gcd_ne_r (by omega))),(by exact kd2 fun _ _ _ _ _ X0 _ X1=>cMade (r:=Rat.divInt p q) (Vz_le (M:=(max Na Nb)) X0 (by omega)) (Vz_le (M:=(max Na Nb)) X1 (by omega)) (by rw [<-Rat.neg_divInt_neg];exact make_low (by omega))),ks,trivial⟩ fun a7 w7 st7=>Wn ?_
   exact wp_ret (rC 4 30 (Vq (max Na Nb) (Rat.divInt p q)) st7 fun cs r4=>r4)
  ·
   refine Wn ?_
   refine rH [(30,4,0),(28,2,0)] [Vb false,Vb false] [.k 2 28 2 (Vz Na p),.k 3 28 2 (Vz Nb q),.k 4 30 4 VT] [(7,Vi (cmpI q 0)),(8,Vb false)] st2 ⟨(by refine kr fun _ A Y h D=>?_;obtain⟨v0,x0,X0⟩:=h.ot 7;have hV0':v0= .int .i64 (cmpI q 0):=X0;exact⟨_,run_eqi rfl (x0.trans hV0') rfl,congrArg Value.bool (by rw [cmp0];exact dF hz)⟩),ks,trivial⟩ ?_;intro a3 w3 st3;refine Wn ?_
   refine cF st3 ?_;refine Wn ?_
   refine rH [(30,4,0),(28,2,0)] [Vb false,Vb false] [.k 2 28 2 (Vz Na p),.k 3 28 2 (Vz Nb q),.k 4 30 4 VT] [(7,Vi (cmpI q 0)),(8,Vb false),(11,Vb false)] st3 ⟨(by refine kr fun _ A Y h D=>?_;obtain⟨v0,x0,X0⟩:=h.ot 7;have hV0':v0= .int .i64 (cmpI q 0):=X0;exact⟨_,run_eqi rfl (x0.trans hV0') rfl,congrArg Value.bool (by rw [cmp_gt (by omega)];rfl)⟩),ks,trivial⟩ ?_;intro a4 w4 st4;refine Wn ?_
   refine cF st4 ?_;refine Wn ?_
   refine rH [(30,4,0),(28,2,0)] [Vz Na p,Vz Nb q,Vz (max Na Nb) (Int.gcd p (q):Int),VT,VT] [.k 2 28 2 (Vz Na p),.k 3 28 2 (Vz Nb q),.k 4 30 4 VT,⟨5,some 3,some 4,28,2,Vz (max Na Nb) (Int.gcd p (q):Int),VT⟩] [(7,Vi (cmpI q 0)),(8,Vb false),(11,Vb false)] st4 ⟨ks,ks,(kd2 fun _ _ _ _ _ X0 _ X1=>(cGcd X0 X1)),ks,ks,trivial⟩ fun a5 w5 st5=>Wn ?_
   refine rH [(30,4,0),(28,2,0)] [Vz Na p,Vz (max Na Nb) (Int.gcd p (q):Int),Vz Na ((p) / (Int.gcd p (q):Int)),Vz Nb q,Vz (max Na Nb) (Int.gcd p (q):Int),Vz Nb ((q) / (Int.gcd p (q):Int)),Vq (max Na Nb) (Rat.divInt p q),VT] [.k 2 28 2 (Vz Na p),.k 3 28 2 (Vz Nb q),⟨4,none,some 7,30,4,Vq (max Na Nb) (Rat.divInt p q),VT⟩,.k 5 28 2 (Vz (max Na Nb) (Int.gcd p (q):Int))] [(7,Vi (cmpI q 0)),(8,Vb false),(11,Vb false)] st5 ⟨ks,ks,(kd2 fun _ _ _ _ _ X0 _ X1=>cPart X0 X1 (by first|exact gcd_den_ne _ _|exact gcd_den_ne' _ _|exact gcd_gcd_ne _ _ _|exact gcd_ne_r (by omega))),ks,ks,(kd2 fun _ _ _ _ _ X0 _ X1=>cPart X0 X1 (by first|exact gcd_den_ne _ _|exact gcd_den_ne' _ _|exact gcd_gcd_ne _ _ _|exact gcd_ne_r (by omega))),(kd2 fun _ _ _ _ _ X0 _ X1=>cMade (r:=Rat.divInt p q) (Vz_le (M:=(max Na Nb)) X0 (by omega)) (Vz_le (M:=(max Na Nb)) X1 (by omega)) (make_low (by omega))),ks,trivial⟩ fun a6 w6 st6=>Wn ?_
   exact wp_ret (rC 4 30 (Vq (max Na Nb) (Rat.divInt p q)) st6 fun cs r4=>r4)
theorem cQOf {w:World}{p q:Int}{v0 v1:Value}(h0:Vi p v0 w)(h1:Vi q v1 w)(hp0: -9223372036854775808<=p:=by omega)(hp1:p<=9223372036854775807:=by omega)(hq0: -9223372036854775808<=q:=by omega)(hq1:q<=9223372036854775807:=by omega):Calls Tryz.prog 59 #[v0,v1] w (RV (Vq 3 (Rat.divInt p q)) w):=by
 go_enter Tryz.func59,Tryz.ntmps59
 refine Sg 10 [(0,Vi p),(1,Vi q)] (Lq.2 ⟨⟨_,rfl,h0⟩,(Lq.2 ⟨⟨_,rfl,h1⟩,L0⟩)⟩) fun a0 st0=>Wn ?_
 refine rH [(30,4,0)] [VT] [⟨4,some 0,none,30,4,VT,VT⟩] [(0,Vi p),(1,Vi q)] st0 ⟨ks,trivial⟩ fun a1 w1 st1=>Wn ?_
 refine rH [(30,4,0)] [Vi p,Vz 3 p,Vi q,Vz 3 q,Vq 3 (Rat.divInt p q),VT] [⟨4,none,some 5,30,4,Vq 3 (Rat.divInt p q),VT⟩] [] st1 ⟨ks,(kd1 fun _ _ _ _ _ X0=>cOfV X0),ks,(kd1 fun _ _ _ _ _ X0=>cOfV X0),(kd2 fun _ _ _ _ _ X0 _ X1=>cQMake X0 X1),ks,trivial⟩ fun a2 w2 st2=>Wn ?_
 exact wp_ret (rC 4 30 (Vq 3 (Rat.divInt p q)) st2 fun cs r4=>r4)
theorem cQValid {w:World}{N:Nat}{q:Rat}{v0:Value}(h0:Vq N q v0 w)(hN:N<=100000:=by omega):Calls Tryz.prog 97 #[v0] w (RV (Vb true) w):=by
 go_enter Tryz.func97,Tryz.ntmps97
 refine Sg 38 [(0,Vq N q)] (Lq.2 ⟨⟨_,rfl,h0⟩,L0⟩) fun a0 st0=>Wn ?_
 refine rH [] [VT,Vb false] [⟨1,some 0,some 0,30,4,Vq N q,VT⟩] [(2,Vb false)] st0 ⟨ks,ks,trivial⟩ fun a1 w1 st1=>Wn ?_
 refine rH [] [Vpt a1 1 0,Vz N q.num,Vb true,Vb false,Vb false,Vpt a1 1 2,Vz N (qd q),Vb true,Vb false,Vb false,Vb false] [.k 1 30 4 (Vq N q)] [(2,Vb false),(3,Vb false)] st1 ⟨ks,ks,(kd1 fun _ _ _ _ _ X0=>cZValid X0),ks,ks,ks,ks,(kd1 fun _ _ _ _ _ X0=>cZValid X0),ks,ks,ks,trivial⟩ fun a2 w2 st2=>Wn ?_
 refine cF st2 ?_;by_cases hd1:q.den=1
 ·
  refine Wn ?_
  refine rH [] [Vpt a2 1 2,Vpt a2 1 3,VD N (qd q),Vi ((digs (qd q).natAbs).length:Int),Vb true,Vb true] [.k 1 30 4 (Vq N q)] [(2,Vb false),(3,Vb false),(14,Vb true)] st2 ⟨ks,ks,ks,(by refine kr fun _ A Y h D=>?_;obtain⟨v0,x0,X0⟩:=h.dp D 17;obtain⟨pp,nn,cc,rfl,hnn,-⟩:=X0;exact⟨_,run_len rfl rfl x0,by rw [hnn];rfl⟩),(by refine kr fun _ A Y h D=>?_;obtain⟨v0,x0,X0⟩:=h.dp D 18;have hV0':v0= .int .i64 ((digs (qd q).natAbs).length:Int):=X0;exact⟨_,run_eqi rfl (x0.trans hV0') rfl,congrArg Value.bool (by rw [len_eq0];exact dT ((qd0 q).2 hd1))⟩),ks,trivial⟩ ?_;intro a3 w3 st3;refine Wn ?_
  refine cT st3 ?_;refine Wn ?_
  refine rH [] [Vb true] [.k 1 30 4 (Vq N q)] [(3,Vb false),(14,Vb true),(2,Vb true)] st3 ⟨ks,trivial⟩ fun a4 w4 st4=>Wn ?_
  exact wp_ret (rS 2 (Vb true) st4 fun vr r4=>r4)
 ·
  refine Wn ?_
  refine rH [] [Vpt a2 1 2,Vpt a2 1 3,VD N (qd q),Vi ((digs (qd q).natAbs).length:Int),Vb false,Vb false] [.k 1 30 4 (Vq N q)] [(2,Vb false),(3,Vb false),(14,Vb false)] st2 ⟨ks,ks,ks,(by refine kr fun _ A Y h D=>?_;obtain⟨v0,x0,X0⟩:=h.dp D 17;obtain⟨pp,nn,cc,rfl,hnn,-⟩:=X0;exact⟨_,run_len rfl rfl x0,by rw [hnn];rfl⟩),(by refine kr fun _ A Y h D=>?_;obtain⟨v0,x0,X0⟩:=h.dp D 18;have hV0':v0= .int .i64 ((digs (qd q).natAbs).length:Int):=X0;exact⟨_,run_eqi rfl (x0.trans hV0') rfl,congrArg Value.bool (by rw [len_eq0];exact dF (fun e=>hd1 ((qd0 q).1 e)))⟩),ks,trivial⟩ ?_;intro a3 w3 st3;refine Wn ?_
  refine cF st3 ?_;refine Wn ?_
  refine rH [] [Vpt a3 1 2,Vz N (qd q),Vi (cmpI (qd q) 0),Vb true,Vb true,Vpt a3 1 2,Vz N (qd q),Vb false,Vb true,Vb true,Vb true,Vpt a3 1 0,Vz N q.num,Vpt a3 1 2,Vz N (qd q),Vz (max N N) (Int.gcd q.num (qd q):Int),Vb true,Vb true,Vb true] [.k 1 30 4 (Vq N q)] [(3,Vb false),(14,Vb false),(2,Vb true)] st3 ⟨ks,ks,(kd1 fun _ _ _ _ _ X0=>cSign X0),(by refine kr fun _ A Y h D=>?_;obtain⟨v0,x0,X0⟩:=h.dp D 22;have hV0':v0= .int .i64 (cmpI (qd q) 0):=X0;exact⟨_,run_gtri rfl (x0.trans hV0') rfl,congrArg Value.bool (by rw [cmp_gt (by rw [qd_of hd1];have:=q.den_pos;omega)];rfl)⟩),ks,ks,ks,(by exact kd1 fun _ _ _ h _ X0=>(cOne X0).mono fun e w h=>h.le fun v w hv=>hv.trans (congrArg Value.bool (dF (by rw [qd_of hd1];omega)))),ks,ks,ks,ks,ks,ks,ks,(kd2 fun _ _ _ _ _ X0 _ X1=>(cGcd X0 X1)),(by exact kd1 fun _ _ _ h _ X0=>(cOne X0).mono fun e w h=>h.le fun v w hv=>hv.trans (congrArg Value.bool (dT (by rw [qd_of hd1];exact congrArg Int.ofNat q.reduced)))),ks,ks,trivial⟩ ?_;intro a4 w4 st4;refine Wn ?_
  exact wp_ret (rS 2 (Vb true) st4 fun vr r4=>r4)
section
variable {BT:List (TypeId×Nat×Nat)}
def Vv (N:Nat)(x y:Rat):VP:=VP2 4 4 (Vq N x) (Vq N y)
theorem Stab_Vv (N:Nat)(x y:Rat):Stab BT (Vv N x y):=Stab_VP2 (Stab_Vq _ _) (Stab_Vq _ _)
theorem AggV_Vv (N:Nat)(x y:Rat):AggV 8 (Vv N x y):=AggV_VP2 (AggV_Vq _ _) (AggV_Vq _ _)
def Vp (N:Nat)(c s x y:Rat):VP:=VP2 8 8 (Vv N c s) (Vv N x y)
theorem Stab_Vp (N:Nat)(c s x y:Rat):Stab BT (Vp N c s x y):=Stab_VP2 (Stab_Vv _ _ _) (Stab_Vv _ _ _)
theorem AggV_Vp (N:Nat)(c s x y:Rat):AggV 16 (Vp N c s x y):=AggV_VP2 (AggV_Vv _ _ _) (AggV_Vv _ _ _)
theorem VP2_le {k1 k2:Nat}{A B A' B':VP}{v:Value}{w:World}(h:VP2 k1 k2 A B v w)(hA:∀v,A v w->A' v w)(hB:∀v,B v w->B' v w):VP2 k1 k2 A' B' v w:=by
 obtain⟨x,y,h1,h2,h3,h4,h5⟩:=h;exact⟨x,y,h1,h2,h3,hA _ h4,hB _ h5⟩
theorem Vv_le {N M:Nat}{x y:Rat}{v:Value}{w:World}(h:Vv N x y v w)(hM:N<=M):Vv M x y v w:=VP2_le h (fun _ h=>Vq_le h hM) (fun _ h=>Vq_le h hM)
theorem Vp_le {N M:Nat}{c s x y:Rat}{v:Value}{w:World}(h:Vp N c s x y v w)(hM:N<=M):Vp M c s x y v w:=VP2_le h (fun _ h=>Vv_le h hM) (fun _ h=>Vv_le h hM)
theorem size_Vec:(Tryz.prog.info? 32).map (·.size)=some 8:=by kernel_rfl
theorem size_Turn:(Tryz.prog.info? 47).map (·.size)=some 8:=by kernel_rfl
theorem size_Place:(Tryz.prog.info? 49).map (·.size)=some 16:=by kernel_rfl
theorem size_pair:(Tryz.prog.info? 110).map (·.size)=some 8:=by kernel_rfl
theorem field_Vec0 (g off:Nat)(W:World):(Instr.fieldAt 32 (.pointer (some ⟨g,off,none⟩)) 0).run Tryz.prog W= .ok (.pointer (some ⟨g,off+0,none⟩)) W:=by go_simp
theorem field_Vec1 (g off:Nat)(W:World):(Instr.fieldAt 32 (.pointer (some ⟨g,off,none⟩)) 1).run Tryz.prog W= .ok (.pointer (some ⟨g,off+4,none⟩)) W:=by go_simp
theorem field_Turn0 (g off:Nat)(W:World):(Instr.fieldAt 47 (.pointer (some ⟨g,off,none⟩)) 0).run Tryz.prog W= .ok (.pointer (some ⟨g,off+0,none⟩)) W:=by go_simp
theorem field_Turn1 (g off:Nat)(W:World):(Instr.fieldAt 47 (.pointer (some ⟨g,off,none⟩)) 1).run Tryz.prog W= .ok (.pointer (some ⟨g,off+4,none⟩)) W:=by go_simp
theorem field_pair0 (g off:Nat)(W:World):(Instr.fieldAt 110 (.pointer (some ⟨g,off,none⟩)) 0).run Tryz.prog W= .ok (.pointer (some ⟨g,off+0,none⟩)) W:=by go_simp
theorem field_pair1 (g off:Nat)(W:World):(Instr.fieldAt 110 (.pointer (some ⟨g,off,none⟩)) 1).run Tryz.prog W= .ok (.pointer (some ⟨g,off+4,none⟩)) W:=by go_simp
theorem field_Place0 (g off:Nat)(W:World):(Instr.fieldAt 49 (.pointer (some ⟨g,off,none⟩)) 0).run Tryz.prog W= .ok (.pointer (some ⟨g,off+0,none⟩)) W:=by go_simp
theorem field_Place1 (g off:Nat)(W:World):(Instr.fieldAt 49 (.pointer (some ⟨g,off,none⟩)) 1).run Tryz.prog W= .ok (.pointer (some ⟨g,off+8,none⟩)) W:=by go_simp
theorem alloc_Vec (W:World):(Instr.alloc 32 true (.tuple #[])).run Tryz.prog W= .ok (.pointer (some ⟨W.heap.size,0,none⟩)) (W.alloc (.cells #[.bool false,.slice none 0 0,.bool false,.slice none 0 0,.bool false,.slice none 0 0,.bool false,.slice none 0 0] 32)):=by go_simp
theorem alloc_Turn (W:World):(Instr.alloc 47 true (.tuple #[])).run Tryz.prog W= .ok (.pointer (some ⟨W.heap.size,0,none⟩)) (W.alloc (.cells #[.bool false,.slice none 0 0,.bool false,.slice none 0 0,.bool false,.slice none 0 0,.bool false,.slice none 0 0] 47)):=by go_simp
theorem alloc_pair (W:World):(Instr.alloc 110 true (.tuple #[])).run Tryz.prog W= .ok (.pointer (some ⟨W.heap.size,0,none⟩)) (W.alloc (.cells #[.bool false,.slice none 0 0,.bool false,.slice none 0 0,.bool false,.slice none 0 0,.bool false,.slice none 0 0] 110)):=by go_simp
theorem alloc_Place (W:World):(Instr.alloc 49 true (.tuple #[])).run Tryz.prog W= .ok (.pointer (some ⟨W.heap.size,0,none⟩)) (W.alloc (.cells #[.bool false,.slice none 0 0,.bool false,.slice none 0 0,.bool false,.slice none 0 0,.bool false,.slice none 0 0,.bool false,.slice none 0 0,.bool false,.slice none 0 0,.bool false,.slice none 0 0,.bool false,.slice none 0 0] 49)):=by go_simp
theorem noint_Vec:NoInt #[Value.bool false,.slice none 0 0,.bool false,.slice none 0 0,.bool false,.slice none 0 0,.bool false,.slice none 0 0]:=noint_of (by simp)
theorem noint_Turn:NoInt #[Value.bool false,.slice none 0 0,.bool false,.slice none 0 0,.bool false,.slice none 0 0,.bool false,.slice none 0 0]:=noint_of (by simp)
theorem noint_pair:NoInt #[Value.bool false,.slice none 0 0,.bool false,.slice none 0 0,.bool false,.slice none 0 0,.bool false,.slice none 0 0]:=noint_of (by simp)
theorem noint_Place:NoInt #[Value.bool false,.slice none 0 0,.bool false,.slice none 0 0,.bool false,.slice none 0 0,.bool false,.slice none 0 0,.bool false,.slice none 0 0,.bool false,.slice none 0 0,.bool false,.slice none 0 0,.bool false,.slice none 0 0]:=noint_of (by simp)
instance (N:Nat)(x y:Rat):Sb BT (Vv N x y):=⟨Stab_Vv N x y⟩
instance (N:Nat)(c s x y:Rat):Sb BT (Vp N c s x y):=⟨Stab_Vp N c s x y⟩
instance (N:Nat)(x y:Rat):Ag (Vv N x y) 8:=⟨AggV_Vv N x y⟩
instance (N:Nat)(c s x y:Rat):Ag (Vp N c s x y) 16:=⟨AggV_Vp N c s x y⟩
instance iSzVec:SzT 32 8:=⟨⟨_,Tryz.underlying32,rfl⟩,size_Vec⟩
instance iFdVec0:FdT 32 0 0:=⟨field_Vec0⟩
instance iFdVec1:FdT 32 1 4:=⟨field_Vec1⟩
instance iAlVec:AlT 32 8:=⟨_,alloc_Vec,rfl,noint_Vec⟩
instance iSzTurn:SzT 47 8:=⟨⟨_,Tryz.underlying47,rfl⟩,size_Turn⟩
instance iFdTurn0:FdT 47 0 0:=⟨field_Turn0⟩
instance iFdTurn1:FdT 47 1 4:=⟨field_Turn1⟩
instance iAlTurn:AlT 47 8:=⟨_,alloc_Turn,rfl,noint_Turn⟩
instance iSzPlace:SzT 49 16:=⟨⟨_,Tryz.underlying49,rfl⟩,size_Place⟩
instance iFdPlace0:FdT 49 0 0:=⟨field_Place0⟩
instance iFdPlace1:FdT 49 1 8:=⟨field_Place1⟩
instance iAlPlace:AlT 49 16:=⟨_,alloc_Place,rfl,noint_Place⟩
instance iSzpair:SzT 110 8:=⟨⟨_,Tryz.underlying110,rfl⟩,size_pair⟩
instance iFdpair0:FdT 110 0 0:=⟨field_pair0⟩
instance iFdpair1:FdT 110 1 4:=⟨field_pair1⟩
instance iAlpair:AlT 110 8:=⟨_,alloc_pair,rfl,noint_pair⟩
theorem ext_ext {cs:Array Value}{o1 k1 o2 k2:Nat}(h:o2+k2<=k1):(cs.extract o1 (o1+k1)).extract o2 (o2+k2)=cs.extract (o1+o2) (o1+o2+k2):=by
 rw [Array.extract_extract,show min (o1+(o2+k2)) (o1+k1)=o1+o2+k2 by omega]
instance (N:Nat)(x y:Rat):PtC (Vv N x y) 0 4 (Vq N x):=⟨fun _ _ h=>VP2_fst h⟩
instance (N:Nat)(x y:Rat):PtC (Vv N x y) 4 4 (Vq N y):=⟨fun _ _ h=>VP2_snd h⟩
instance (N:Nat)(c s x y:Rat):PtC (Vp N c s x y) 0 8 (Vv N c s):=⟨fun _ _ h=>VP2_fst h⟩
instance (N:Nat)(c s x y:Rat):PtC (Vp N c s x y) 8 8 (Vv N x y):=⟨fun _ _ h=>VP2_snd h⟩
section
variable {ρ:Operand->Value}{o:Oper}{W:World}{x y:Operand}{va vb:Value}{A B:VP}
theorem build_Vec (ho:o.op= .build 32 #[(0,x),(1,y)])(hx:ρ x=va)(hy:ρ y=vb)(hA:AggV 4 A)(hB:AggV 4 B)(h1:A va W)(h2:B vb W):∃v,(execOp ρ o).run Tryz.prog W= .ok (.value v) W/\VP2 4 4 A B v W:=by
 obtain⟨cx,rfl,e1,-⟩:=hA _ _ h1;obtain⟨cy,rfl,e2,-⟩:=hB _ _ h2;obtain⟨a,b,c,d,rfl⟩:=arr4 e1;obtain⟨a',b',c',d',rfl⟩:=arr4 e2;refine⟨.agg (#[a,b,c,d]++ #[a',b',c',d']),?_,⟨_,_,rfl,rfl,rfl,h1,h2⟩⟩;obtain⟨dd,op,ty,ps,af,gd⟩:=o;subst ho
 go_simp
theorem build_Turn (ho:o.op= .build 47 #[(0,x),(1,y)])(hx:ρ x=va)(hy:ρ y=vb)(hA:AggV 4 A)(hB:AggV 4 B)(h1:A va W)(h2:B vb W):∃v,(execOp ρ o).run Tryz.prog W= .ok (.value v) W/\VP2 4 4 A B v W:=by
 obtain⟨cx,rfl,e1,-⟩:=hA _ _ h1;obtain⟨cy,rfl,e2,-⟩:=hB _ _ h2;obtain⟨a,b,c,d,rfl⟩:=arr4 e1;obtain⟨a',b',c',d',rfl⟩:=arr4 e2;refine⟨.agg (#[a,b,c,d]++ #[a',b',c',d']),?_,⟨_,_,rfl,rfl,rfl,h1,h2⟩⟩;obtain⟨dd,op,ty,ps,af,gd⟩:=o;subst ho
 go_simp
theorem build_pair (ho:o.op= .build 110 #[(0,x),(1,y)])(hx:ρ x=va)(hy:ρ y=vb)(hA:AggV 4 A)(hB:AggV 4 B)(h1:A va W)(h2:B vb W):∃v,(execOp ρ o).run Tryz.prog W= .ok (.value v) W/\VP2 4 4 A B v W:=by
 obtain⟨cx,rfl,e1,-⟩:=hA _ _ h1;obtain⟨cy,rfl,e2,-⟩:=hB _ _ h2;obtain⟨a,b,c,d,rfl⟩:=arr4 e1;obtain⟨a',b',c',d',rfl⟩:=arr4 e2;refine⟨.agg (#[a,b,c,d]++ #[a',b',c',d']),?_,⟨_,_,rfl,rfl,rfl,h1,h2⟩⟩;obtain⟨dd,op,ty,ps,af,gd⟩:=o;subst ho
 go_simp
def VR1 (V:VP):VP:=fun v w=>∃h cs,v= .slice (some ⟨h,0,none⟩) 1 1/\w.heap[h]? =some (.cells cs 110 (0,0))/\cs.size=8/\V (.agg cs) w
theorem Stab_VR1 {V:VP}(hV:Stab BT V)(hn:BT.any (fun e=>e.1==110 && e.2.1==8)=false):Stab BT (VR1 V):=fun _ _ _ ⟨h,cs,e1,e2,e3,e4⟩ hr=>
 ⟨h,cs,e1,(hr.row h cs _ e2 (BT_not hn e3)).trans e2,e3,hV _ _ _ e4 hr⟩
theorem bslice_pair (ho:o.op= .buildSlice 121 1 #[(0,x)])(hx:ρ x=va)(hA:AggV 8 A)(hS:Stab [] A)(h1:A va W):∃v w',(execOp ρ o).run Tryz.prog W= .ok (.value v) w'/\Below W.heap.size W w'/\VR1 A v w':=by
 obtain⟨cx,rfl,e1,-⟩:=hA _ _ h1
 match cx,e1 with
 |⟨[a,b,c,d,a',b',c',d']⟩,_=>
  refine⟨.slice (some ⟨W.heap.size,0,none⟩) 1 1,W.alloc (.cells #[a,b,c,d,a',b',c',d'] 110),?_,below_new _ _,⟨_,_,rfl,heap_alloc_new _ _,rfl,hS _ _ _ h1 (RI.of_below (below_new _ _))⟩⟩;obtain⟨dd,op,ty,ps,af,gd⟩:=o;subst ho
  go_simp
end
def VAt (w:World)(V:VP):VP:=fun v _=>V v w
theorem Stab_VAt (w:World)(V:VP):Stab BT (VAt w V):=fun _ _ _ h _=>h
instance (w:World)(V:VP):Sb BT (VAt w V):=⟨Stab_VAt w V⟩
def VPtr (V:VP):VP:=fun v w=>∃h cs,v= .pointer (some ⟨h,0,none⟩)/\w.heap[h]? =some (.cells cs 110 (0,0))/\cs.size=8/\V (.agg cs) w
section
variable {ρ:Operand->Value}{o:Oper}{W w:World}{x y:Operand}{va vb:Value}{A:VP}
theorem run_len1 (ho:o.op= .call {callee:= .builtin .len,args:=#[x],argTypes:=#[121]})(hty:o.type=3)(hx:ρ x=va)(h:VAt w (VR1 A) va W):∃v,(execOp ρ o).run Tryz.prog W= .ok (.value v) W/\Vi 1 v W:=by
 obtain⟨h,cs,rfl,-⟩:=h;refine⟨.int .i64 1,?_,rfl⟩;obtain⟨dd,op,ty,ps,af,gd⟩:=o;subst ho;simp only at hty;subst hty
 go_simp
theorem index_pair (ho:o.op= .indexAddr 121 x y)(hx:ρ x=va)(h:VAt w (VR1 A) va W)(hy:ρ y=vb)(hb:Vi 0 vb W):∃v,(execOp ρ o).run Tryz.prog W= .ok (.value v) W/\VAt w (VPtr A) v W:=by
 obtain⟨h,cs,rfl,e2,e3,e4⟩:=h;obtain rfl:=hb;refine⟨.pointer (some ⟨h,0,none⟩),?_,⟨h,cs,rfl,e2,e3,e4⟩⟩;obtain⟨dd,op,ty,ps,af,gd⟩:=o;subst ho
 go_simp
theorem load_pair (ho:o.op= .load 110 x)(hx:ρ x=va)(h:VAt w (VPtr A) va W)(hb:Below w.heap.size w W)(hA:Stab [] A):∃v,(execOp ρ o).run Tryz.prog W= .ok (.value v) W/\A v W:=by
 obtain⟨h,cs,rfl,e2,e3,e4⟩:=h;refine⟨.agg cs,?_,hA _ _ _ e4 (RI.of_below hb)⟩;have e5:=(hb.block _ (lt_blk e2)).trans e2;unfold execOp;simp only [ho,hx,Instr.loadAt,Instr.sureAddr,Sem.run_bind,Sem.run_pure,Result.andThen_ok,run_loadVar_row W h 110 110 cs (0,0) _ e5 Tryz.underlying110 rfl (by rw [e3];exact size_pair)]
end
end
theorem cSumA {w:World}{N:Nat}{a b c d:Rat}{v0 v1:Value}(h0:Vv N a b v0 w)(h1:VAt w (VR1 (Vv N c d)) v1 w)(hN1:1<=N:=by omega)(hN:N<=20000:=by omega):Calls Tryz.prog 110 #[v0,v1] w (RV (Vq (4*N+1) (a*b+c*d)) w):=by
 go_enter Tryz.func110,Tryz.ntmps110
 refine Sg 28 [(0,Vv N a b),(1,VAt w (VR1 (Vv N c d)))] (Lq.2 ⟨⟨_,rfl,h0⟩,(Lq.2 ⟨⟨_,rfl,h1⟩,L0⟩)⟩) fun a0 st0=>Wn ?_
 refine rH [(30,4,0),(110,8,0)] [VT,VT] [⟨2,some 0,some 0,110,8,Vv N a b,VT⟩,⟨4,some 1,none,30,4,VT,VT⟩] [(1,VAt w (VR1 (Vv N c d)))] st0 ⟨ks,ks,trivial⟩ fun a1 w1 st1=>Wn ?_
 refine rH [(30,4,0),(110,8,0)] [Vpt a1 2 0,Vq N a,Vpt a1 2 4,Vq N b,Vq (N+N) ((a)*(b)),VT,VT] [.k 2 110 8 (Vv N a b),.k 4 30 4 VT,⟨5,some 5,some 6,30,4,Vq (N+N) ((a)*(b)),VT⟩] [(1,VAt w (VR1 (Vv N c d)))] st1 ⟨ks,ks,ks,ks,(kd2 fun _ _ _ _ _ X0 _ X1=>cQMul X0 X1),ks,ks,trivial⟩ fun a2 w2 st2=>Wn ?_
 refine rH [(30,4,0),(110,8,0)] [VAt w (VR1 (Vv N c d)),Vi 1,Vi 0] [.k 2 110 8 (Vv N a b),.k 4 30 4 VT,.k 5 30 4 (Vq (N+N) ((a)*(b)))] [(13,VAt w (VR1 (Vv N c d))),(14,Vi 1),(15,Vi 0)] st2 ⟨ks,(kr1 13 fun _ _ _ _ _ x0 X0=>run_len1 rfl rfl x0 X0),ks,trivial⟩ ?_;intro a3 w3 st3;replace st3:St w.heap.size w 28 [.k 2 110 8 (Vv N a b),.k 4 30 4 VT,.k 5 30 4 (Vq (N+N) ((a)*(b)))] [(13,VAt w (VR1 (Vv N c d))),(14,Vi 1),(15,Vi 0)] a3 w3:=st3;refine Wn ?_
 refine wp_loop (fun aX wX=>St w.heap.size w 28 [.k 2 110 8 (Vv N a b),.k 4 30 4 VT,.k 5 30 4 (Vq (N+N) ((a)*(b)))] [(13,VAt w (VR1 (Vv N c d))),(14,Vi 1),(15,Vi 0)] aX wX∨St w.heap.size w 28 [.k 2 110 8 (Vv N a b),.k 4 30 4 VT,.k 5 30 4 (Vq ((N+N)+(N+N)+1) ((a)*(b)+((c)*(d)))),.k 7 110 8 (Vv N c d)] [(13,VAt w (VR1 (Vv N c d))),(14,Vi 1),(15,Vi 1)] aX wX) (fun aX _=>1 - (intOf (aX.eval (.tmp 15))).toNat) (.inl st3) ?_;intro aL wL hI;rcases hI with st3|st3
 ·
  have hm0:(intOf (aL.eval (.tmp 15))).toNat=0:=by obtain⟨vv,e1,e2⟩:=st3.slot (15,Vi 0) (.tail _ (.tail _ (.head _)));rw [e1,e2];rfl
  refine Wn ?_
  refine rH [(30,4,0),(110,8,0)] [Vb true] [.k 2 110 8 (Vv N a b),.k 4 30 4 VT,.k 5 30 4 (Vq (N+N) ((a)*(b)))] [(13,VAt w (VR1 (Vv N c d))),(14,Vi 1),(15,Vi 0),(16,Vb true)] st3 ⟨(by refine kr fun _ A Y h D=>?_;obtain⟨v0,x0,X0⟩:=h.ot 15;have hV0':v0= .int .i64 (0):=X0;obtain⟨v1,x1,X1⟩:=h.ot 14;have hV1':v1= .int .i64 (1):=X1;exact⟨_,run_lssi rfl (x0.trans hV0') (x1.trans hV1'),congrArg Value.bool (by decide)⟩),trivial⟩ ?_;intro a4 w4 st4;refine Wn ?_
  refine cT st4 ?_;refine Wn ?_
  refine rH [(30,4,0),(110,8,0)] [VAt w (VPtr (Vv N c d)),Vv N c d,VT,VT] [.k 2 110 8 (Vv N a b),.k 4 30 4 VT,.k 5 30 4 (Vq (N+N) ((a)*(b))),⟨7,some 2,some 3,110,8,Vv N c d,VT⟩] [(13,VAt w (VR1 (Vv N c d))),(14,Vi 1),(15,Vi 0),(16,Vb true)] st4 ⟨(by refine kr fun _ A Y h D=>?_;obtain⟨v0,x0,X0⟩:=h.ot 13;obtain⟨v1,x1,X1⟩:=h.ot 15;exact index_pair rfl x0 X0 x1 X1),(kr1 17 fun _ _ _ h _ x0 X0=>load_pair rfl x0 X0 h.k.below (Stab_Vv _ _ _)),ks,ks,trivial⟩ ?_;intro a5 w5 st5;refine Wn ?_
  refine rH [(30,4,0),(110,8,0)] [Vq (N+N) ((a)*(b)),Vpt a5 7 0,Vq N c,Vpt a5 7 4,Vq N d,Vq (N+N) ((c)*(d)),Vq ((N+N)+(N+N)+1) (((a)*(b))+((c)*(d))),VT] [.k 2 110 8 (Vv N a b),.k 4 30 4 VT,⟨5,none,some 7,30,4,Vq ((N+N)+(N+N)+1) (((a)*(b))+((c)*(d))),Vq (N+N) ((a)*(b))⟩,.k 7 110 8 (Vv N c d)] [(13,VAt w (VR1 (Vv N c d))),(14,Vi 1),(15,Vi 0),(16,Vb true)] st5 ⟨ks,ks,ks,ks,ks,(kd2 fun _ _ _ _ _ X0 _ X1=>cQMul X0 X1),(kd2 fun _ _ _ _ _ X0 _ X1=>cQAdd X0 X1),ks,trivial⟩ fun a6 w6 st6=>Wn ?_
  refine rH [(30,4,0),(110,8,0)] [Vi 1,Vi 1] [.k 2 110 8 (Vv N a b),.k 4 30 4 VT,.k 5 30 4 (Vq ((N+N)+(N+N)+1) (((a)*(b))+((c)*(d)))),.k 7 110 8 (Vv N c d)] [(13,VAt w (VR1 (Vv N c d))),(14,Vi 1),(16,Vb true),(15,Vi 1)] st6 ⟨?s0,ks,trivial⟩ ?_
  case s0=>
   refine k_run0 SbB.out (by kernel_rfl) fun listed A Y h D hnl=>⟨trivial,?_⟩
   obtain⟨v0,x0,X0⟩:=h.out0 hnl (15,Vi 0) (.tail _ (.tail _ (.head _))) 1 (by kernel_rfl) (.inr (by kernel_rfl));obtain rfl:v0= .int .i64 0:=X0;exact⟨.int .i64 1,run_addi rfl x0 rfl rfl,rfl⟩
  intro a7 w7 st7;refine⟨.inr ?_,?_⟩
  ·exact st7.cut
  ·have hm1:(intOf (a7.eval (.tmp 15))).toNat=1:=(by obtain⟨vv,e1,e2⟩:=st7.slot (15,Vi 1) (.tail _ (.tail _ (.tail _ (.head _))));rw [e1,e2];rfl);show 1 - _<1 - _;rw [hm0,hm1];omega
 ·
  refine Wn ?_
  refine rH [(30,4,0),(110,8,0)] [Vb false] [.k 2 110 8 (Vv N a b),.k 4 30 4 VT,.k 5 30 4 (Vq ((N+N)+(N+N)+1) ((a)*(b)+((c)*(d)))),.k 7 110 8 (Vv N c d)] [(13,VAt w (VR1 (Vv N c d))),(14,Vi 1),(15,Vi 1),(16,Vb false)] st3 ⟨(by refine kr fun _ A Y h D=>?_;obtain⟨v0,x0,X0⟩:=h.ot 15;have hV0':v0= .int .i64 (1):=X0;obtain⟨v1,x1,X1⟩:=h.ot 14;have hV1':v1= .int .i64 (1):=X1;exact⟨_,run_lssi rfl (x0.trans hV0') (x1.trans hV1'),congrArg Value.bool (by decide)⟩),trivial⟩ ?_;intro a4 w4 st4;refine Wn ?_
  refine cF st4 ?_;refine Wn ?_
  refine rH [(30,4,0),(110,8,0)] [Vq ((N+N)+(N+N)+1) ((a)*(b)+((c)*(d))),VT] [.k 2 110 8 (Vv N a b),⟨4,none,some 1,30,4,Vq ((N+N)+(N+N)+1) ((a)*(b)+((c)*(d))),VT⟩,.k 5 30 4 (Vq ((N+N)+(N+N)+1) ((a)*(b)+((c)*(d)))),.k 7 110 8 (Vv N c d)] [(13,VAt w (VR1 (Vv N c d))),(14,Vi 1),(15,Vi 1),(16,Vb false)] st4 ⟨ks,ks,trivial⟩ fun a5 w5 st5=>Wn ?_
  exact wp_ret (rC 4 30 (Vq ((N+N)+(N+N)+1) ((a)*(b)+((c)*(d)))) st5 fun cs r4=>(Vq_le r4 (by omega)))
theorem cCross {w:World}{N:Nat}{a b c d:Rat}{v0 v1:Value}(h0:Vv N a b v0 w)(h1:Vv N c d v1 w)(hN1:1<=N:=by omega)(hN:N<=4000:=by omega):Calls Tryz.prog 107 #[v0,v1] w (RV (Vq (4*N+1) (a*d+ -b*c)) w):=by
 go_enter Tryz.func107,Tryz.ntmps107
 refine Sg 18 [(0,Vv N a b),(1,Vv N c d)] (Lq.2 ⟨⟨_,rfl,h0⟩,(Lq.2 ⟨⟨_,rfl,h1⟩,L0⟩)⟩) fun a0 st0=>Wn ?_
 refine rH [(30,4,0)] [VT,VT,VT] [⟨2,some 0,some 0,32,8,Vv N a b,VT⟩,⟨3,some 1,some 1,32,8,Vv N c d,VT⟩,⟨4,some 2,none,30,4,VT,VT⟩] [] st0 ⟨ks,ks,ks,trivial⟩ fun a1 w1 st1=>Wn ?_
 have:Sb [(30,4,0)] (VR1 (Vv N (-(b)) c)):=⟨Stab_VR1 (Stab_Vv _ _ _) (by kernel_rfl)⟩;refine rH [(30,4,0)] [Vpt a1 2 0,Vq N a,Vpt a1 3 4,Vq N d,Vv N a d,Vpt a1 2 4,Vq N b,Vq N (-(b)),Vpt a1 3 0,Vq N c,Vv N (-(b)) c,VR1 (Vv N (-(b)) c),Vq (4*N+1) ((a)*(d)+(-(b))*(c)),VT] [.k 2 32 8 (Vv N a b),.k 3 32 8 (Vv N c d),⟨4,none,some 13,30,4,Vq (4*N+1) ((a)*(d)+(-(b))*(c)),VT⟩] [] st1 ⟨ks,ks,ks,ks,(kr2 6 8 fun _ _ _ _ _ x0 X0 _ x1 X1=>build_pair rfl x0 x1 (AggV_Vq _ _) (AggV_Vq _ _) X0 X1),ks,ks,(kd1 fun _ _ _ _ _ X0=>cQNeg X0),ks,ks,(kr2 12 14 fun _ _ _ _ _ x0 X0 _ x1 X1=>build_pair rfl x0 x1 (AggV_Vq _ _) (AggV_Vq _ _) X0 X1),(by refine km fun _ A Y h D=>?_;obtain⟨v0,x0,X0⟩:=h.dp D 15;exact bslice_pair rfl x0 (AggV_Vv _ _ _) (Stab_Vv _ _ _) X0),(kd2 fun _ _ Y _ v0 X0 v1 X1=>cSumA X0 (show VR1 (Vv N (-(b)) c) v1 Y from X1)),ks,trivial⟩ ?_;intro a2 w2 st2;refine Wn ?_
 exact wp_ret (rC 4 30 (Vq (4*N+1) ((a)*(d)+(-(b))*(c))) st2 fun cs r4=>r4)
theorem cVAdd {w:World}{N:Nat}{a b c d:Rat}{v0 v1:Value}(h0:Vv N a b v0 w)(h1:Vv N c d v1 w)(hN1:1<=N:=by omega)(hN:N<=4000:=by omega):Calls Tryz.prog 61 #[v0,v1] w (RV (Vv (N+N+1) (a+c) (b+d)) w):=by
 go_enter Tryz.func61,Tryz.ntmps61
 refine Sg 16 [(0,Vv N a b),(1,Vv N c d)] (Lq.2 ⟨⟨_,rfl,h0⟩,(Lq.2 ⟨⟨_,rfl,h1⟩,L0⟩)⟩) fun a0 st0=>Wn ?_
 refine rH [(32,8,0)] [VT,VT,VT] [⟨2,some 0,some 0,32,8,Vv N a b,VT⟩,⟨3,some 1,some 1,32,8,Vv N c d,VT⟩,⟨4,some 2,none,32,8,VT,VT⟩] [] st0 ⟨ks,ks,ks,trivial⟩ fun a1 w1 st1=>Wn ?_
 refine rH [(32,8,0)] [Vpt a1 2 0,Vq N a,Vpt a1 3 0,Vq N c,Vq (N+N+1) ((a)+(c)),Vpt a1 2 4,Vq N b,Vpt a1 3 4,Vq N d,Vq (N+N+1) ((b)+(d)),Vv (N+N+1) ((a)+(c)) ((b)+(d)),VT] [.k 2 32 8 (Vv N a b),.k 3 32 8 (Vv N c d),⟨4,none,some 11,32,8,Vv (N+N+1) ((a)+(c)) ((b)+(d)),VT⟩] [] st1 ⟨ks,ks,ks,ks,(kd2 fun _ _ _ _ _ X0 _ X1=>cQAdd X0 X1),ks,ks,ks,ks,(kd2 fun _ _ _ _ _ X0 _ X1=>cQAdd X0 X1),(kr2 9 14 fun _ _ _ _ _ x0 X0 _ x1 X1=>build_Vec rfl x0 x1 (AggV_Vq _ _) (AggV_Vq _ _) X0 X1),ks,trivial⟩ fun a2 w2 st2=>Wn ?_
 exact wp_ret (rC 4 32 (Vv (N+N+1) ((a)+(c)) ((b)+(d))) st2 fun cs r4=>r4)
theorem cVSub {w:World}{N:Nat}{a b c d:Rat}{v0 v1:Value}(h0:Vv N a b v0 w)(h1:Vv N c d v1 w)(hN1:1<=N:=by omega)(hN:N<=4000:=by omega):Calls Tryz.prog 132 #[v0,v1] w (RV (Vv (N+N+1) (a - c) (b - d)) w):=by
 go_enter Tryz.func132,Tryz.ntmps132
 refine Sg 16 [(0,Vv N a b),(1,Vv N c d)] (Lq.2 ⟨⟨_,rfl,h0⟩,(Lq.2 ⟨⟨_,rfl,h1⟩,L0⟩)⟩) fun a0 st0=>Wn ?_
 refine rH [(32,8,0)] [VT,VT,VT] [⟨2,some 0,some 0,32,8,Vv N a b,VT⟩,⟨3,some 1,some 1,32,8,Vv N c d,VT⟩,⟨4,some 2,none,32,8,VT,VT⟩] [] st0 ⟨ks,ks,ks,trivial⟩ fun a1 w1 st1=>Wn ?_
 refine rH [(32,8,0)] [Vpt a1 2 0,Vq N a,Vpt a1 3 0,Vq N c,Vq (N+N+1) ((a) - c),Vpt a1 2 4,Vq N b,Vpt a1 3 4,Vq N d,Vq (N+N+1) ((b) - d),Vv (N+N+1) ((a) - c) ((b) - d),VT] [.k 2 32 8 (Vv N a b),.k 3 32 8 (Vv N c d),⟨4,none,some 11,32,8,Vv (N+N+1) ((a) - c) ((b) - d),VT⟩] [] st1 ⟨ks,ks,ks,ks,(kd2 fun _ _ _ _ _ X0 _ X1=>cQSub X0 X1),ks,ks,ks,ks,(kd2 fun _ _ _ _ _ X0 _ X1=>cQSub X0 X1),(kr2 9 14 fun _ _ _ _ _ x0 X0 _ x1 X1=>build_Vec rfl x0 x1 (AggV_Vq _ _) (AggV_Vq _ _) X0 X1),ks,trivial⟩ fun a2 w2 st2=>Wn ?_
 exact wp_ret (rC 4 32 (Vv (N+N+1) ((a) - c) ((b) - d)) st2 fun cs r4=>r4)
theorem cVScale {w:World}{N:Nat}{a b c:Rat}{v0 v1:Value}(h0:Vv N a b v0 w)(h1:Vq N c v1 w)(hN1:1<=N:=by omega)(hN:N<=4000:=by omega):Calls Tryz.prog 62 #[v0,v1] w (RV (Vv (N+N) (a*c) (b*c)) w):=by
 go_enter Tryz.func62,Tryz.ntmps62
 refine Sg 14 [(0,Vv N a b),(1,Vq N c)] (Lq.2 ⟨⟨_,rfl,h0⟩,(Lq.2 ⟨⟨_,rfl,h1⟩,L0⟩)⟩) fun a0 st0=>Wn ?_
 refine rH [(32,8,0)] [VT,VT,VT] [⟨2,some 0,some 0,32,8,Vv N a b,VT⟩,⟨3,some 1,some 1,30,4,Vq N c,VT⟩,⟨4,some 2,none,32,8,VT,VT⟩] [] st0 ⟨ks,ks,ks,trivial⟩ fun a1 w1 st1=>Wn ?_
 refine rH [(32,8,0)] [Vpt a1 2 0,Vq N a,Vq N c,Vq (N+N) ((a)*(c)),Vpt a1 2 4,Vq N b,Vq N c,Vq (N+N) ((b)*(c)),Vv (N+N) ((a)*(c)) ((b)*(c)),VT] [.k 2 32 8 (Vv N a b),.k 3 30 4 (Vq N c),⟨4,none,some 9,32,8,Vv (N+N) ((a)*(c)) ((b)*(c)),VT⟩] [] st1 ⟨ks,ks,ks,(kd2 fun _ _ _ _ _ X0 _ X1=>cQMul X0 X1),ks,ks,ks,(kd2 fun _ _ _ _ _ X0 _ X1=>cQMul X0 X1),(kr2 8 12 fun _ _ _ _ _ x0 X0 _ x1 X1=>build_Vec rfl x0 x1 (AggV_Vq _ _) (AggV_Vq _ _) X0 X1),ks,trivial⟩ fun a2 w2 st2=>Wn ?_
 exact wp_ret (rC 4 32 (Vv (N+N) ((a)*(c)) ((b)*(c))) st2 fun cs r4=>r4)
theorem cRotate {w:World}{N:Nat}{a b c d:Rat}{v0 v1:Value}(h0:Vv N a b v0 w)(h1:Vv N c d v1 w)(hN1:1<=N:=by omega)(hN:N<=4000:=by omega):Calls Tryz.prog 69 #[v0,v1] w (RV (Vv (4*N+1) (a*c+ -b*d) (b*c+a*d)) w):=by
 go_enter Tryz.func69,Tryz.ntmps69
 refine Sg 31 [(0,Vv N a b),(1,Vv N c d)] (Lq.2 ⟨⟨_,rfl,h0⟩,(Lq.2 ⟨⟨_,rfl,h1⟩,L0⟩)⟩) fun a0 st0=>Wn ?_
 refine rH [(32,8,0)] [VT,VT,VT] [⟨2,some 0,some 0,47,8,Vv N a b,VT⟩,⟨3,some 1,some 1,32,8,Vv N c d,VT⟩,⟨4,some 2,none,32,8,VT,VT⟩] [] st0 ⟨ks,ks,ks,trivial⟩ fun a1 w1 st1=>Wn ?_
 have:Sb [(32,8,0)] (VR1 (Vv N (-(b)) d)):=⟨Stab_VR1 (Stab_Vv _ _ _) (by kernel_rfl)⟩;have:Sb [(32,8,0)] (VR1 (Vv N a d)):=⟨Stab_VR1 (Stab_Vv _ _ _) (by kernel_rfl)⟩;refine rH [(32,8,0)] [Vpt a1 2 0,Vq N a,Vpt a1 3 0,Vq N c,Vv N a c,Vpt a1 2 4,Vq N b,Vq N (-(b)),Vpt a1 3 4,Vq N d,Vv N (-(b)) d,VR1 (Vv N (-(b)) d),Vq (4*N+1) ((a)*(c)+(-(b))*(d)),Vpt a1 2 4,Vq N b,Vpt a1 3 0,Vq N c,Vv N b c,Vpt a1 2 0,Vq N a,Vpt a1 3 4,Vq N d,Vv N a d,VR1 (Vv N a d),Vq (4*N+1) ((b)*(c)+(a)*(d)),Vv (4*N+1) ((a)*(c)+(-(b))*(d)) ((b)*(c)+(a)*(d)),VT] [.k 2 47 8 (Vv N a b),.k 3 32 8 (Vv N c d),⟨4,none,some 26,32,8,Vv (4*N+1) ((a)*(c)+(-(b))*(d)) ((b)*(c)+(a)*(d)),VT⟩] [] st1 ⟨ks,ks,ks,ks,(kr2 6 8 fun _ _ _ _ _ x0 X0 _ x1 X1=>build_pair rfl x0 x1 (AggV_Vq _ _) (AggV_Vq _ _) X0 X1),ks,ks,(kd1 fun _ _ _ _ _ X0=>cQNeg X0),ks,ks,(kr2 12 14 fun _ _ _ _ _ x0 X0 _ x1 X1=>build_pair rfl x0 x1 (AggV_Vq _ _) (AggV_Vq _ _) X0 X1),(by refine km fun _ A Y h D=>?_;obtain⟨v0,x0,X0⟩:=h.dp D 15;exact bslice_pair rfl x0 (AggV_Vv _ _ _) (Stab_Vv _ _ _) X0),(kd2 fun _ _ Y _ v0 X0 v1 X1=>cSumA X0 (show VR1 (Vv N (-(b)) d) v1 Y from X1)),ks,ks,ks,ks,(kr2 19 21 fun _ _ _ _ _ x0 X0 _ x1 X1=>build_pair rfl x0 x1 (AggV_Vq _ _) (AggV_Vq _ _) X0 X1),ks,ks,ks,ks,(kr2 24 26 fun _ _ _ _ _ x0 X0 _ x1 X1=>build_pair rfl x0 x1 (AggV_Vq _ _) (AggV_Vq _ _) X0 X1),(by refine km fun _ A Y h D=>?_;obtain⟨v0,x0,X0⟩:=h.dp D 27;exact bslice_pair rfl x0 (AggV_Vv _ _ _) (Stab_Vv _ _ _) X0),(kd2 fun _ _ Y _ v0 X0 v1 X1=>cSumA X0 (show VR1 (Vv N a d) v1 Y from X1)),(kr2 17 29 fun _ _ _ _ _ x0 X0 _ x1 X1=>build_Vec rfl x0 x1 (AggV_Vq _ _) (AggV_Vq _ _) X0 X1),ks,trivial⟩ ?_;intro a2 w2 st2;refine Wn ?_
 exact wp_ret (rC 4 32 (Vv (4*N+1) ((a)*(c)+(-(b))*(d)) ((b)*(c)+(a)*(d))) st2 fun cs r4=>r4)
theorem cBack {w:World}{N:Nat}{a b:Rat}{v0:Value}(h0:Vv N a b v0 w)(hN:N<=4000:=by omega):Calls Tryz.prog 68 #[v0] w (RV (Vv N a (-b)) w):=by
 go_enter Tryz.func68,Tryz.ntmps68
 refine Sg 9 [(0,Vv N a b)] (Lq.2 ⟨⟨_,rfl,h0⟩,L0⟩) fun a0 st0=>Wn ?_
 refine rH [(47,8,0)] [VT,VT] [⟨1,some 0,some 0,47,8,Vv N a b,VT⟩,⟨2,some 1,none,47,8,VT,VT⟩] [] st0 ⟨ks,ks,trivial⟩ fun a1 w1 st1=>Wn ?_
 refine rH [(47,8,0)] [Vpt a1 1 0,Vq N a,Vpt a1 1 4,Vq N b,Vq N (-(b)),Vv N a (-(b)),VT] [.k 1 47 8 (Vv N a b),⟨2,none,some 6,47,8,Vv N a (-(b)),VT⟩] [] st1 ⟨ks,ks,ks,ks,(kd1 fun _ _ _ _ _ X0=>cQNeg X0),(kr2 4 7 fun _ _ _ _ _ x0 X0 _ x1 X1=>build_Turn rfl x0 x1 (AggV_Vq _ _) (AggV_Vq _ _) X0 X1),ks,trivial⟩ fun a2 w2 st2=>Wn ?_
 exact wp_ret (rC 2 47 (Vv N a (-(b))) st2 fun cs r4=>r4)
theorem cVCompare {w:World}{N:Nat}{a b c d:Rat}{v0 v1:Value}(h0:Vv N a b v0 w)(h1:Vv N c d v1 w)(hN1:1<=N:=by omega)(hN:N<=4000:=by omega):Calls Tryz.prog 125 #[v0,v1] w (RV (Vi (if cmpQ a c=0 then cmpQ b d else cmpQ a c)) w):=by
 go_enter Tryz.func125,Tryz.ntmps125
 refine Sg 19 [(0,Vv N a b),(1,Vv N c d)] (Lq.2 ⟨⟨_,rfl,h0⟩,(Lq.2 ⟨⟨_,rfl,h1⟩,L0⟩)⟩) fun a0 st0=>Wn ?_
 refine rH [] [VT,VT,Vi 0] [⟨2,some 0,some 0,32,8,Vv N a b,VT⟩,⟨3,some 1,some 1,32,8,Vv N c d,VT⟩] [(4,Vi 0)] st0 ⟨ks,ks,ks,trivial⟩ fun a1 w1 st1=>Wn ?_
 refine rH [] [Vpt a1 2 0,Vq N a,Vpt a1 3 0,Vq N c,Vi (cmpQ a c),Vi (cmpQ a c)] [.k 2 32 8 (Vv N a b),.k 3 32 8 (Vv N c d)] [(4,Vi 0),(5,Vi (cmpQ a c))] st1 ⟨ks,ks,ks,ks,(kd2 fun _ _ _ _ _ X0 _ X1=>cQCompare X0 X1),ks,trivial⟩ ?_;intro a2 w2 st2;by_cases hp:cmpQ a c=0
 ·
  refine Wn ?_
  refine rH [] [Vi (cmpQ a c),Vb false] [.k 2 32 8 (Vv N a b),.k 3 32 8 (Vv N c d)] [(4,Vi 0),(5,Vi (cmpQ a c)),(12,Vb false)] st2 ⟨ks,(by refine kr fun _ A Y h D=>?_;obtain⟨v0,x0,X0⟩:=h.dp D 11;have hV0':v0= .int .i64 (cmpQ a c):=X0;exact⟨_,run_neqi rfl (x0.trans hV0') rfl,congrArg Value.bool (by rw [hp];rfl)⟩),trivial⟩ ?_;intro a3 w3 st3;refine Wn ?_
  refine cF st3 ?_;refine Wn ?_
  refine rH [] [Vpt a3 2 4,Vq N b,Vpt a3 3 4,Vq N d,Vi (cmpQ b d),Vi (cmpQ b d)] [.k 2 32 8 (Vv N a b),.k 3 32 8 (Vv N c d)] [(5,Vi (cmpQ a c)),(12,Vb false),(4,Vi (cmpQ b d))] st3 ⟨ks,ks,ks,ks,(kd2 fun _ _ _ _ _ X0 _ X1=>cQCompare X0 X1),ks,trivial⟩ fun a4 w4 st4=>Wn ?_
  exact wp_ret (rS 4 (Vi (cmpQ b d)) st4 fun vr r4=>(by rw [if_pos hp];exact r4))
 ·
  refine Wn ?_
  refine rH [] [Vi (cmpQ a c),Vb true] [.k 2 32 8 (Vv N a b),.k 3 32 8 (Vv N c d)] [(4,Vi 0),(5,Vi (cmpQ a c)),(12,Vb true)] st2 ⟨ks,(kr1 11 fun _ _ _ _ _ x0 X0=>⟨_,run_neqi rfl (x0.trans X0) rfl,congrArg Value.bool (bne_iff_ne.2 hp)⟩),trivial⟩ fun a3 w3 st3=>Wn ?_
  refine cT st3 ?_;refine Wn ?_
  refine rH [] [Vi (cmpQ a c),Vi (cmpQ a c)] [.k 2 32 8 (Vv N a b),.k 3 32 8 (Vv N c d)] [(5,Vi (cmpQ a c)),(12,Vb true),(4,Vi (cmpQ a c))] st3 ⟨ks,ks,trivial⟩ fun a4 w4 st4=>Wn ?_
  exact wp_ret (rS 4 (Vi (cmpQ a c)) st4 fun vr r4=>(by rw [if_neg hp];exact r4))
theorem cSide {w:World}{N:Nat}{a b c d e f:Rat}{v0 v1 v2:Value}(h0:Vv N a b v0 w)(h1:Vv N c d v1 w)(h2:Vv N e f v2 w)(hN1:1<=N:=by omega)(hN:N<=1000:=by omega):Calls Tryz.prog 99 #[v0,v1,v2] w (RV (Vi (cmpI ((c - a)*(f - b)+ -(d - b)*(e - a)).num 0)) w):=by
 go_enter Tryz.func99,Tryz.ntmps99
 refine Sg 15 [(0,Vv N a b),(1,Vv N c d),(2,Vv N e f)] (Lq.2 ⟨⟨_,rfl,h0⟩,(Lq.2 ⟨⟨_,rfl,h1⟩,(Lq.2 ⟨⟨_,rfl,h2⟩,L0⟩)⟩)⟩) fun a0 st0=>Wn ?_
 refine rH [] [VT,VT,VT,Vi 0] [⟨3,some 0,some 0,32,8,Vv N a b,VT⟩,⟨4,some 1,some 1,32,8,Vv N c d,VT⟩,⟨5,some 2,some 2,32,8,Vv N e f,VT⟩] [(6,Vi 0)] st0 ⟨ks,ks,ks,ks,trivial⟩ fun a1 w1 st1=>Wn ?_
 refine rH [] [Vv N c d,Vv N a b,Vv (N+N+1) ((c) - a) ((d) - b),Vv N e f,Vv N a b,Vv (N+N+1) ((e) - a) ((f) - b),Vq (4*(N+N+1)+1) (((c) - a)*((f) - b)+ -((d) - b)*((e) - a)),Vi (cmpI (((c) - a)*((f) - b)+ -((d) - b)*((e) - a)).num 0),Vi (cmpI (((c) - a)*((f) - b)+ -((d) - b)*((e) - a)).num 0)] [.k 3 32 8 (Vv N a b),.k 4 32 8 (Vv N c d),.k 5 32 8 (Vv N e f)] [(6,Vi (cmpI (((c) - a)*((f) - b)+ -((d) - b)*((e) - a)).num 0))] st1 ⟨ks,ks,(kd2 fun _ _ _ _ _ X0 _ X1=>cVSub X0 X1),ks,ks,(kd2 fun _ _ _ _ _ X0 _ X1=>cVSub X0 X1),(kd2 fun _ _ _ _ _ X0 _ X1=>cCross X0 X1),(kd1 fun _ _ _ _ _ X0=>cQSign X0),ks,trivial⟩ fun a2 w2 st2=>Wn ?_
 exact wp_ret (rS 6 (Vi (cmpI (((c) - a)*((f) - b)+ -((d) - b)*((e) - a)).num 0)) st2 fun vr r4=>r4)
section
variable {BT:List (TypeId×Nat×Nat)}
def VFn (A:VP):VP:=fun v w=>∃g cs,v= .func (.func 109) #[] #[.pointer (some ⟨g,0,none⟩)]/\w.heap[g]? =some (.cells cs 49 (0,0))/\cs.size=16/\A (.agg cs) w
theorem Stab_VFn {A:VP}(hA:Stab BT A)(hn:BT.any (fun e=>e.1==49 && e.2.1==16)=false):Stab BT (VFn A):=fun _ _ _ ⟨h,cs,e1,e2,e3,e4⟩ hr=>
 ⟨h,cs,e1,(hr.row h cs _ e2 (BT_not hn e3)).trans e2,e3,hA _ _ _ e4 hr⟩
def VPlo (A:VP)(off:Nat):VP:=fun v w=>∃g cs,v= .pointer (some ⟨g,off,none⟩)/\w.heap[g]? =some (.cells cs 49 (0,0))/\cs.size=16/\A (.agg cs) w
section
variable {ρ:Operand->Value}{o:Oper}{W w:World}{x y:Operand}{va vb:Value}{A C:VP}
theorem field_pl0 (ho:o.op= .fieldAddr 49 x 0)(hx:ρ x=va)(h:VAt w (VPlo A 0) va W):∃v,(execOp ρ o).run Tryz.prog W= .ok (.value v) W/\VAt w (VPlo A 0) v W:=by
 obtain⟨g,cs,rfl,e2⟩:=h;refine⟨.pointer (some ⟨g,0,none⟩),?_,⟨g,cs,rfl,e2⟩⟩;unfold execOp;simp only [ho,hx,Sem.run_bind,field_Place0,Sem.run_pure,Result.andThen_ok]
theorem field_pl1 (ho:o.op= .fieldAddr 49 x 1)(hx:ρ x=va)(h:VAt w (VPlo A 0) va W):∃v,(execOp ρ o).run Tryz.prog W= .ok (.value v) W/\VAt w (VPlo A 8) v W:=by
 obtain⟨g,cs,rfl,e2⟩:=h;refine⟨.pointer (some ⟨g,8,none⟩),?_,⟨g,cs,rfl,e2⟩⟩;unfold execOp;simp only [ho,hx,Sem.run_bind,field_Place1,Sem.run_pure,Result.andThen_ok]
theorem load_pl {T:TypeId}{d:TypeDesc}{off:Nat}(ho:o.op= .load T x)(hx:ρ x=va)(h:VAt w (VPlo A off) va W)(hb:Below w.heap.size w W)(hA:Stab [] A)(hoff:off+8<=16)(hAC:∀cs w,A (.agg cs) w->C (.agg (cs.extract off (off+8))) w)
 (hu:Tryz.prog.underlying T=some d) (D:aggT d=true) (hi:(Tryz.prog.info? T).map (·.size)=some 8):∃v,(execOp ρ o).run Tryz.prog W= .ok (.value v) W/\C v W:=by
 obtain⟨g,cs,rfl,e2,e3,e4⟩:=h;refine⟨.agg (cs.extract off (off+8)),?_,hAC _ _ (hA _ _ _ e4 (RI.of_below hb))⟩;have e5:=(hb.block _ (lt_blk e2)).trans e2;unfold execOp;simp only [ho,hx,Instr.loadAt,Instr.sureAddr,Sem.run_bind,Sem.run_pure,Result.andThen_ok,run_loadVar_part W g off 8 _ T cs (0,0) d e5 (by omega) hu D hi]
end
theorem run_closure {ρ:Operand->Value}{o:Oper}{W:World}{x y:Operand}{va vb:Value}{ats:Array TypeId}(ho:o.op= .call {callee:= .value x,args:=#[y],argTypes:=ats})(hx:ρ x= .func (.func 109) #[] #[va])(hy:ρ y=vb):(execOp ρ o).run Tryz.prog W= .ok (.enter 109 #[vb,va]) W:=by
 obtain⟨dd,op,ty,ps,af,gd⟩:=o;subst ho
 go_simp
theorem cMover {w:World}{A:VP}{v:Value}(hA:AggV 16 A)(hS:Stab [] A)(h:A v w):Calls Tryz.prog 67 #[v] w (RV (VFn A) w):=by
 obtain⟨cs,rfl,e1,-⟩:=hA _ _ h;have hfin:Hid (RV (VFn A) w (.returned (.func (.func 109) #[] #[.pointer (some ⟨w.heap.size,0,none⟩)])) (w.alloc (.cells cs 49))):=hIq ⟨_,rfl,⟨_,cs,rfl,heap_alloc_new _ _,e1,hS _ _ _ h (RI.of_below (below_new _ _))⟩,below_new _ _⟩;clear h
 go_enter Tryz.func67,Tryz.ntmps67
 go_wp2_with fail
 go_ret
 exact hfin.out
theorem arr8 {x:Array Value}(h:x.size=8):∃a b c d e f g h,x=#[a,b,c,d,e,f,g,h]:=by
 match x,h with
 |⟨[a,b,c,d,e,f,g,h]⟩,_=>exact⟨a,b,c,d,e,f,g,h,rfl⟩
theorem build_Place {ρ:Operand->Value}{o:Oper}{W:World}{x y:Operand}{va vb:Value}{A B:VP}(ho:o.op= .build 49 #[(0,x),(1,y)])(hx:ρ x=va)(hy:ρ y=vb)(hA:AggV 8 A)(hB:AggV 8 B)(h1:A va W)(h2:B vb W):∃v,(execOp ρ o).run Tryz.prog W= .ok (.value v) W/\VP2 8 8 A B v W:=by
 obtain⟨cx,rfl,e1,-⟩:=hA _ _ h1;obtain⟨cy,rfl,e2,-⟩:=hB _ _ h2;obtain⟨a,b,c,d,e,f,g,h,rfl⟩:=arr8 e1;obtain⟨a',b',c',d',e',f',g',h',rfl⟩:=arr8 e2;refine⟨.agg (#[a,b,c,d,e,f,g,h]++ #[a',b',c',d',e',f',g',h']),?_,⟨_,_,rfl,rfl,rfl,h1,h2⟩⟩;obtain⟨dd,op,ty,ps,af,gd⟩:=o;subst ho
 go_simp
end
theorem cMover1 {w:World}{N:Nat}{a b c s x y:Rat}{v0 v1:Value}(h0:Vv N a b v0 w)(h1:VAt w (VPlo (Vp N c s x y) 0) v1 w)(hN1:1<=N:=by omega)(hN:N<=500:=by omega):Calls Tryz.prog 109 #[v0,v1] w (RV (Vv (8*N+3) (c*a+ -s*b+x) (s*a+c*b+y)) w):=by
 go_enter Tryz.func109,Tryz.ntmps109
 refine Sg 11 [(0,Vv N a b),(1,VAt w (VPlo (Vp N c s x y) 0))] (Lq.2 ⟨⟨_,rfl,h0⟩,(Lq.2 ⟨⟨_,rfl,h1⟩,L0⟩)⟩) fun a0 st0=>Wn ?_
 refine rH [(32,8,0)] [VT,VT] [⟨2,some 0,some 0,32,8,Vv N a b,VT⟩,⟨3,some 1,none,32,8,VT,VT⟩] [(1,VAt w (VPlo (Vp N c s x y) 0))] st0 ⟨ks,ks,trivial⟩ fun a1 w1 st1=>Wn ?_
 refine rH [(32,8,0)] [VAt w (VPlo (Vp N c s x y) 0),Vv N c s,Vv N a b,Vv (4*N+1) ((c)*(a)+ -(s)*(b)) ((s)*(a)+(c)*(b)),VAt w (VPlo (Vp N c s x y) 8),Vv N x y,Vv ((max (4*N+1) N)+(max (4*N+1) N)+1) (((c)*(a)+ -(s)*(b))+(x)) (((s)*(a)+(c)*(b))+(y)),VT] [.k 2 32 8 (Vv N a b),⟨3,none,some 7,32,8,Vv ((max (4*N+1) N)+(max (4*N+1) N)+1) (((c)*(a)+ -(s)*(b))+(x)) (((s)*(a)+(c)*(b))+(y)),VT⟩] [] st1 ⟨(by refine kr fun _ A Y h D=>?_;obtain⟨v0,x0,X0⟩:=h.ot 1;exact field_pl0 rfl x0 X0),(kr1 4 fun _ _ _ h _ x0 X0=>load_pl rfl x0 X0 h.k.below (Stab_Vp _ _ _ _ _) (by omega) (fun cs w h=>VP2_fst h) Tryz.underlying47 rfl size_Turn),ks,(kd2 fun _ _ _ _ _ X0 _ X1=>cRotate X0 X1),(by refine kr fun _ A Y h D=>?_;obtain⟨v0,x0,X0⟩:=h.ot 1;exact field_pl1 rfl x0 X0),(kr1 8 fun _ _ _ h _ x0 X0=>load_pl rfl x0 X0 h.k.below (Stab_Vp _ _ _ _ _) (by omega) (fun cs w h=>VP2_snd h) Tryz.underlying32 rfl size_Vec),(kd2 fun _ _ _ _ _ X0 _ X1=>cVAdd (Vv_le (M:=(max (4*N+1) N)) X0 (by omega)) (Vv_le (M:=(max (4*N+1) N)) X1 (by omega))),ks,trivial⟩ ?_;intro a2 w2 st2;refine Wn ?_
 exact wp_ret (rC 3 32 (Vv ((max (4*N+1) N)+(max (4*N+1) N)+1) (((c)*(a)+ -(s)*(b))+(x)) (((s)*(a)+(c)*(b))+(y))) st2 fun cs r4=>(Vv_le r4 (by omega)))
theorem cPut {w:World}{N:Nat}{a b c s x y:Rat}{v0 v1:Value}(h0:Vp N c s x y v0 w)(h1:Vv N a b v1 w)(hN1:1<=N:=by omega)(hN:N<=500:=by omega):Calls Tryz.prog 28 #[v0,v1] w (RV (Vv (8*N+3) (c*a+ -s*b+x) (s*a+c*b+y)) w):=by
 go_enter Tryz.func28,Tryz.ntmps28
 refine Sg 9 [(0,Vp N c s x y),(1,Vv N a b)] (Lq.2 ⟨⟨_,rfl,h0⟩,(Lq.2 ⟨⟨_,rfl,h1⟩,L0⟩)⟩) fun a0 st0=>Wn ?_
 refine rH [(32,8,0)] [VT,VT,VT] [⟨2,some 0,some 0,49,16,Vp N c s x y,VT⟩,⟨3,some 1,some 1,32,8,Vv N a b,VT⟩,⟨4,some 2,none,32,8,VT,VT⟩] [] st0 ⟨ks,ks,ks,trivial⟩ fun a1 w1 st1=>Wn ?_
 have:Sb [(32,8,0)] (VFn (Vp N c s x y)):=⟨Stab_VFn (Stab_Vp _ _ _ _ _) (by kernel_rfl)⟩;refine rH [(32,8,0)] [Vp N c s x y,VFn (Vp N c s x y),Vv N a b,Vv (8*N+3) (c*a+ -s*b+x) (s*a+c*b+y),VT] [.k 2 49 16 (Vp N c s x y),.k 3 32 8 (Vv N a b),⟨4,none,some 4,32,8,Vv (8*N+3) (c*a+ -s*b+x) (s*a+c*b+y),VT⟩] [] st1 ⟨ks,(kd1 fun _ _ _ _ _ X0=>cMover (AggV_Vp _ _ _ _ _) (Stab_Vp _ _ _ _ _) X0),ks,(by refine ke fun _ A Y h D=>?_;obtain⟨v0,x0,X0⟩:=h.dp D 6;obtain⟨v1,x1,X1⟩:=h.dp D 7;obtain⟨g,cs,rfl,f2⟩:=X0;exact⟨_,#[v1,.pointer (some ⟨g,0,none⟩)],run_closure rfl x0 x1,cMover1 X1 ⟨g,cs,rfl,f2⟩ hN1 hN⟩),ks,trivial⟩ ?_;intro a2 w2 st2;refine Wn ?_
 exact wp_ret (rC 4 32 (Vv (8*N+3) (c*a+ -s*b+x) (s*a+c*b+y)) st2 fun cs r4=>r4)
theorem cInverse {w:World}{N:Nat}{c s x y:Rat}{v0:Value}(h0:Vp N c s x y v0 w)(hN1:1<=N:=by omega)(hN:N<=500:=by omega):Calls Tryz.prog 29 #[v0] w (RV (Vp (8*N+30) c (-s) (c*(x*Rat.divInt (-1) 1)+ - -s*(y*Rat.divInt (-1) 1)) (-s*(x*Rat.divInt (-1) 1)+c*(y*Rat.divInt (-1) 1))) w):=by
 go_enter Tryz.func29,Tryz.ntmps29
 refine Sg 15 [(0,Vp N c s x y)] (Lq.2 ⟨⟨_,rfl,h0⟩,L0⟩) fun a0 st0=>Wn ?_
 refine rH [(47,8,0),(49,16,0)] [VT,VT] [⟨1,some 0,some 0,49,16,Vp N c s x y,VT⟩,⟨2,some 1,none,49,16,VT,VT⟩] [] st0 ⟨ks,ks,trivial⟩ fun a1 w1 st1=>Wn ?_
 refine rH [(47,8,0),(49,16,0)] [Vpt a1 1 0,Vv N c s,Vv N c (-(s)),VT,VT] [.k 1 49 16 (Vp N c s x y),.k 2 49 16 VT,⟨3,some 3,some 4,47,8,Vv N c (-(s)),VT⟩] [] st1 ⟨ks,ks,(kd1 fun _ _ _ _ _ X0=>cBack X0),ks,ks,trivial⟩ fun a2 w2 st2=>Wn ?_
 refine rH [(47,8,0),(49,16,0)] [Vv N c (-(s)),Vv N c (-(s)),Vpt a2 1 8,Vv N x y,Vq 3 (Rat.divInt (-1) 1),Vv ((max N 3)+(max N 3)) ((x)*(Rat.divInt (-1) 1)) ((y)*(Rat.divInt (-1) 1)),Vv (4*(max N ((max N 3)+(max N 3)))+1) ((c)*((x)*(Rat.divInt (-1) 1))+ -(-(s))*((y)*(Rat.divInt (-1) 1))) ((-(s))*((x)*(Rat.divInt (-1) 1))+(c)*((y)*(Rat.divInt (-1) 1))),Vp (max N (4*(max N ((max N 3)+(max N 3)))+1)) c (-(s)) ((c)*((x)*(Rat.divInt (-1) 1))+ -(-(s))*((y)*(Rat.divInt (-1) 1))) ((-(s))*((x)*(Rat.divInt (-1) 1))+(c)*((y)*(Rat.divInt (-1) 1))),VT] [.k 1 49 16 (Vp N c s x y),⟨2,none,some 8,49,16,Vp (max N (4*(max N ((max N 3)+(max N 3)))+1)) c (-(s)) ((c)*((x)*(Rat.divInt (-1) 1))+ -(-(s))*((y)*(Rat.divInt (-1) 1))) ((-(s))*((x)*(Rat.divInt (-1) 1))+(c)*((y)*(Rat.divInt (-1) 1))),VT⟩,.k 3 47 8 (Vv N c (-(s)))] [] st2 ⟨ks,ks,ks,ks,(by refine kc fun _ A Y h D=>?_;exact⟨#[.int .i64 (-1),.int .i64 1],by simp [eval_const],cQOf (show Vi (-1) (.int .i64 (-1)) Y from rfl) (show Vi 1 (.int .i64 1) Y from rfl)⟩),(kd2 fun _ _ _ _ _ X0 _ X1=>cVScale (Vv_le (M:=(max N 3)) X0 (by omega)) (Vq_le (M:=(max N 3)) X1 (by omega))),(kd2 fun _ _ _ _ _ X0 _ X1=>cRotate (Vv_le (M:=(max N ((max N 3)+(max N 3)))) X0 (by omega)) (Vv_le (M:=(max N ((max N 3)+(max N 3)))) X1 (by omega))),(kr2 7 13 fun _ _ _ _ _ x0 X0 _ x1 X1=>build_Place rfl x0 x1 (AggV_Vv _ _ _) (AggV_Vv _ _ _) (Vv_le (M:=(max N (4*(max N ((max N 3)+(max N 3)))+1))) X0 (by omega)) (Vv_le (M:=(max N (4*(max N ((max N 3)+(max N 3)))+1))) X1 (by omega))),ks,trivial⟩ ?_;intro a3 w3 st3;refine Wn ?_
 exact wp_ret (rC 2 49 (Vp (max N (4*(max N ((max N 3)+(max N 3)))+1)) c (-(s)) ((c)*((x)*(Rat.divInt (-1) 1))+ -(-(s))*((y)*(Rat.divInt (-1) 1))) ((-(s))*((x)*(Rat.divInt (-1) 1))+(c)*((y)*(Rat.divInt (-1) 1)))) st3 fun cs r4=>(Vp_le r4 (by omega)))

end Go.Proofs.YteacdbgalloaiaaGreat
