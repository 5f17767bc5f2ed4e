/- Contracts of the packages integer, rat, plane, polygon and their references. -/
import Derived.Test.YtjdkdjobaabdiaaGreatM13
set_option linter.unusedVariables false
set_option maxRecDepth 100000
set_option maxHeartbeats 6400000
namespace Go.Proofs.YtjdkdjobaabdiaaGreat
open Go.RowKit
theorem cQSub {w:World}{Na Nb:Nat}{a b:Rat}{v0 v1:Value}(h0:Vq Na (a) v0 w)(h1:Vq Nb (b) v1 w)(h1a:1≤Na)(h1b:1≤Nb)(hNa:Na≤100000)(hNb:Nb≤100000):Calls Tryz.prog 158 #[v0,v1] w (RV (Vq (Na+Nb+1) (a - b)) w):=by
 go_enter Tryz.func158,Tryz.ntmps158
 have st0:St w.heap.size w 9 [] [(0,Vq Na (a)),(1,Vq Nb (b))] _ w:=St.begin (a:=⟨#[v0,v1,undef,undef,undef,undef,undef,undef,undef],[]⟩) rfl rfl (Lq.2 ⟨⟨_,rfl,h0⟩,(Lq.2 ⟨⟨_,rfl,h1⟩,(fun _ h=>absurd h (by simp))⟩)⟩)
 generalize(⟨_,_⟩:Act)=a0 at st0 ⊢
 repeat first|refine Wq ?_|refine Wb ?_|refine Wk ?_|refine Wx ?_
 refine rg (BT:=[(33,4,0)]) (Vl:=[VT,VT,VT]) (B:=[⟨2,some 0,some 0,33,4,Vq Na (a),VT⟩,⟨3,some 1,some 1,33,4,Vq Nb (b),VT⟩,⟨4,some 2,none,33,4,VT,VT⟩]) (SL':=[]) st0 ⟨ks,ks,ks,trivial⟩ ?_
 intro a1 w1 st1
 clear st0
 repeat first|refine Wq ?_|refine Wb ?_|refine Wk ?_|refine Wx ?_
 refine rg (BT:=[(33,4,0)]) (Vl:=[Vq Na (a),Vq Nb (b),Vq Nb (-(b)),Vq (Na+Nb+1) ((a)+(-(b))),VT]) (B:=[⟨2,none,none,33,4,Vq Na (a),VT⟩,⟨3,none,none,33,4,Vq Nb (b),VT⟩,⟨4,none,some 4,33,4,Vq (Na+Nb+1) ((a)+(-(b))),VT⟩]) (SL':=[]) st1 ⟨ks,ks,?s2,?s3,ks,trivial⟩ ?_
 case s2=>exact kd1 fun _ _ _ _ _ X0=>cQNeg X0 (by omega)
 case s3=>exact kd2 fun _ _ _ _ _ X0 _ X1=>cQAdd X0 X1 (by omega) (by omega) (by omega) (by omega)
 intro a2 w2 st2
 clear st1
 repeat first|refine Wq ?_|refine Wb ?_|refine Wk ?_|refine Wx ?_
 obtain⟨g,cs,r1,r2,r3,r4,r5⟩:=st2.res ⟨4,none,none,33,4,Vq (Na+Nb+1) ((a)+(-(b))),VT⟩ (.tail _ (.tail _ (.head _))) rfl rfl
 exact wp_ret (bodyPost_ret (results_cell_row rfl _ _ g 33 cs (0,0) _ r1 r2 Tryz.underlying33 rfl (by rw [r3];exact size_Rat)) st2.defers ⟨_,rfl,(by rw [Rat.sub_eq_add_neg];exact r4),r5⟩)
theorem cQDiv {w:World}{Na Nb:Nat}{a b:Rat}{v0 v1:Value}(h0:Vq Na (a) v0 w)(h1:Vq Nb (b) v1 w)(h1a:1≤Na)(h1b:1≤Nb)(hNa:Na≤100000)(hNb:Nb≤100000):Calls Tryz.prog 67 #[v0,v1] w (RV (Vq (Na+Nb) (a / b)) w):=by
 go_enter Tryz.func67,Tryz.ntmps67
 have st0:St w.heap.size w 22 [] [(0,Vq Na (a)),(1,Vq Nb (b))] _ w:=St.begin (a:=⟨#[v0,v1,undef,undef,undef,undef,undef,undef,undef,undef,undef,undef,undef,undef,undef,undef,undef,undef,undef,undef,undef,undef],[]⟩) rfl rfl (Lq.2 ⟨⟨_,rfl,h0⟩,(Lq.2 ⟨⟨_,rfl,h1⟩,(fun _ h=>absurd h (by simp))⟩)⟩)
 generalize(⟨_,_⟩:Act)=a0 at st0 ⊢
 repeat first|refine Wq ?_|refine Wb ?_|refine Wk ?_|refine Wx ?_
 refine rg (BT:=[(33,4,0)]) (Vl:=[VT,VT,VT]) (B:=[⟨2,some 0,some 0,33,4,Vq Na (a),VT⟩,⟨3,some 1,some 1,33,4,Vq Nb (b),VT⟩,⟨4,some 2,none,33,4,VT,VT⟩]) (SL':=[]) st0 ⟨ks,ks,ks,trivial⟩ ?_
 intro a1 w1 st1
 clear st0
 repeat first|refine Wq ?_|refine Wb ?_|refine Wk ?_|refine Wx ?_
 refine rg (BT:=[(33,4,0)]) (Vl:=[Vq Nb (b),Vi (cmpI (b).num 0)]) (B:=[⟨2,none,none,33,4,Vq Na (a),VT⟩,⟨3,none,none,33,4,Vq Nb (b),VT⟩,⟨4,none,none,33,4,VT,VT⟩]) (SL':=[(6,Vi (cmpI (b).num 0))]) st1 ⟨ks,?s1,trivial⟩ ?_
 case s1=>exact kd1 fun _ _ _ _ _ X0=>cQSign X0 (by omega)
 intro a2 w2 st2
 clear st1
 by_cases hz:b.num=0
 ·
  repeat first|refine Wq ?_|refine Wb ?_|refine Wk ?_|refine Wx ?_
  refine rg (BT:=[(33,4,0)]) (Vl:=[Vb (true),Vb (true)]) (B:=[⟨2,none,none,33,4,Vq Na (a),VT⟩,⟨3,none,none,33,4,Vq Nb (b),VT⟩,⟨4,none,none,33,4,VT,VT⟩]) (SL':=[(6,Vi (cmpI (b).num 0)),(7,Vb (true))]) st2 ⟨?s0,ks,trivial⟩ ?_
  case s0=>
   refine kr fun _ A Y h D=>?_
   obtain⟨v0,x0,X0⟩:=h.ot 6
   have hV0':v0= .int .i64 (cmpI (b).num 0):=X0
   exact⟨_,run_eqi rfl (x0.trans hV0') rfl,congrArg Value.bool (by rw [hz,cmp_eq];rfl)⟩
  intro a3 w3 st3
  clear st2
  repeat first|refine Wq ?_|refine Wb ?_|refine Wk ?_|refine Wx ?_
  obtain⟨vc,hc1,hc2⟩:=st3.slot (7,Vb (true)) (.tail _ (.head _))
  refine wp_cond_true (hc1.trans hc2) ?_
  clear hc1 hc2
  repeat first|refine Wq ?_|refine Wb ?_|refine Wk ?_|refine Wx ?_
  refine rg (BT:=[(33,4,0)]) (Vl:=[Vq 1 (0),VT]) (B:=[⟨2,none,none,33,4,Vq Na (a),VT⟩,⟨3,none,none,33,4,Vq Nb (b),VT⟩,⟨4,none,some 1,33,4,Vq 1 (0),VT⟩]) (SL':=[(6,Vi (cmpI (b).num 0)),(7,Vb (true))]) st3 ⟨?s0,ks,trivial⟩ ?_
  case s0=>exact kr fun _ A Y h D=>build_Rat0 rfl
  intro a4 w4 st4
  clear st3
  repeat first|refine Wq ?_|refine Wb ?_|refine Wk ?_|refine Wx ?_
  obtain⟨g,cs,r1,r2,r3,r4,r5⟩:=st4.res ⟨4,none,none,33,4,Vq 1 (0),VT⟩ (.tail _ (.tail _ (.head _))) rfl rfl
  exact wp_ret (bodyPost_ret (results_cell_row rfl _ _ g 33 cs (0,0) _ r1 r2 Tryz.underlying33 rfl (by rw [r3];exact size_Rat)) st4.defers ⟨_,rfl,(by have e:b=0:=Rat.num_eq_zero.1 hz;rw [show a / b=0 by rw [e,Rat.div_def,Rat.inv_zero,Rat.mul_zero]];exact Vq_le r4 (by omega)),r5⟩)
 ·
  by_cases hl:b.num<0
  ·
   repeat first|refine Wq ?_|refine Wb ?_|refine Wk ?_|refine Wx ?_
   refine rg (BT:=[(33,4,0)]) (Vl:=[Vb (false),Vb (false)]) (B:=[⟨2,none,none,33,4,Vq Na (a),VT⟩,⟨3,none,none,33,4,Vq Nb (b),VT⟩,⟨4,none,none,33,4,VT,VT⟩]) (SL':=[(6,Vi (cmpI (b).num 0)),(7,Vb (false))]) st2 ⟨?s0,ks,trivial⟩ ?_
   case s0=>
    refine kr fun _ A Y h D=>?_
    obtain⟨v0,x0,X0⟩:=h.ot 6
    have hV0':v0= .int .i64 (cmpI (b).num 0):=X0
    exact⟨_,run_eqi rfl (x0.trans hV0') rfl,congrArg Value.bool (by rw [cmp0];exact dF hz)⟩
   intro a3 w3 st3
   clear st2
   repeat first|refine Wq ?_|refine Wb ?_|refine Wk ?_|refine Wx ?_
   obtain⟨vc,hc1,hc2⟩:=st3.slot (7,Vb (false)) (.tail _ (.head _))
   refine wp_cond_false (hc1.trans hc2) ?_
   clear hc1 hc2
   repeat first|refine Wq ?_|refine Wb ?_|refine Wk ?_|refine Wx ?_
   refine rg (BT:=[(33,4,0)]) (Vl:=[Vb (true),Vb (true)]) (B:=[⟨2,none,none,33,4,Vq Na (a),VT⟩,⟨3,none,none,33,4,Vq Nb (b),VT⟩,⟨4,none,none,33,4,VT,VT⟩]) (SL':=[(6,Vi (cmpI (b).num 0)),(7,Vb (false)),(10,Vb (true))]) st3 ⟨?s0,ks,trivial⟩ ?_
   case s0=>
    refine kr fun _ A Y h D=>?_
    obtain⟨v0,x0,X0⟩:=h.ot 6
    have hV0':v0= .int .i64 (cmpI (b).num 0):=X0
    exact⟨_,run_eqi rfl (x0.trans hV0') rfl,congrArg Value.bool (by rw [cmp_lt hl];rfl)⟩
   intro a4 w4 st4
   clear st3
   repeat first|refine Wq ?_|refine Wb ?_|refine Wk ?_|refine Wx ?_
   obtain⟨vc,hc1,hc2⟩:=st4.slot (10,Vb (true)) (.tail _ (.tail _ (.head _)))
   refine wp_cond_true (hc1.trans hc2) ?_
   clear hc1 hc2
   repeat first|refine Wq ?_|refine Wb ?_|refine Wk ?_|refine Wx ?_
   refine rg (BT:=[(33,4,0)]) (Vl:=[Vq Na (a),Vq Na (-(a)),Vq Nb (b),Vq Nb (-(b)),Vq Nb ((-(b))⁻¹),Vq (Na+Nb) ((-(a))*((-(b))⁻¹)),VT]) (B:=[⟨2,none,none,33,4,Vq Na (a),VT⟩,⟨3,none,none,33,4,Vq Nb (b),VT⟩,⟨4,none,some 6,33,4,Vq (Na+Nb) ((-(a))*((-(b))⁻¹)),VT⟩]) (SL':=[(6,Vi (cmpI (b).num 0)),(7,Vb (false)),(10,Vb (true))]) st4 ⟨ks,?s1,ks,?s3,?s4,?s5,ks,trivial⟩ ?_
   case s1=>exact kd1 fun _ _ _ _ _ X0=>cQNeg X0 (by omega)
   case s3=>exact kd1 fun _ _ _ _ _ X0=>cQNeg X0 (by omega)
   case s4=>exact kd1 fun _ _ _ _ _ X0=>cQInv X0 (by omega) (by omega) (by rw [Rat.neg_num];omega)
   case s5=>exact kd2 fun _ _ _ _ _ X0 _ X1=>cQMul X0 X1 (by omega) (by omega) (by omega) (by omega)
   intro a5 w5 st5
   clear st4
   repeat first|refine Wq ?_|refine Wb ?_|refine Wk ?_|refine Wx ?_
   obtain⟨g,cs,r1,r2,r3,r4,r5⟩:=st5.res ⟨4,none,none,33,4,Vq (Na+Nb) ((-(a))*((-(b))⁻¹)),VT⟩ (.tail _ (.tail _ (.head _))) rfl rfl
   exact wp_ret (bodyPost_ret (results_cell_row rfl _ _ g 33 cs (0,0) _ r1 r2 Tryz.underlying33 rfl (by rw [r3];exact size_Rat)) st5.defers ⟨_,rfl,(by rw [show a / b= -a*(-b)⁻¹ from div_neg_neg a b];exact r4),r5⟩)
  ·
   repeat first|refine Wq ?_|refine Wb ?_|refine Wk ?_|refine Wx ?_
   refine rg (BT:=[(33,4,0)]) (Vl:=[Vb (false),Vb (false)]) (B:=[⟨2,none,none,33,4,Vq Na (a),VT⟩,⟨3,none,none,33,4,Vq Nb (b),VT⟩,⟨4,none,none,33,4,VT,VT⟩]) (SL':=[(6,Vi (cmpI (b).num 0)),(7,Vb (false))]) st2 ⟨?s0,ks,trivial⟩ ?_
   case s0=>
    refine kr fun _ A Y h D=>?_
    obtain⟨v0,x0,X0⟩:=h.ot 6
    have hV0':v0= .int .i64 (cmpI (b).num 0):=X0
    exact⟨_,run_eqi rfl (x0.trans hV0') rfl,congrArg Value.bool (by rw [cmp0];exact dF hz)⟩
   intro a3 w3 st3
   clear st2
   repeat first|refine Wq ?_|refine Wb ?_|refine Wk ?_|refine Wx ?_
   obtain⟨vc,hc1,hc2⟩:=st3.slot (7,Vb (false)) (.tail _ (.head _))
   refine wp_cond_false (hc1.trans hc2) ?_
   clear hc1 hc2
   repeat first|refine Wq ?_|refine Wb ?_|refine Wk ?_|refine Wx ?_
   refine rg (BT:=[(33,4,0)]) (Vl:=[Vb (false),Vb (false)]) (B:=[⟨2,none,none,33,4,Vq Na (a),VT⟩,⟨3,none,none,33,4,Vq Nb (b),VT⟩,⟨4,none,none,33,4,VT,VT⟩]) (SL':=[(6,Vi (cmpI (b).num 0)),(7,Vb (false)),(10,Vb (false))]) st3 ⟨?s0,ks,trivial⟩ ?_
   case s0=>
    refine kr fun _ A Y h D=>?_
    obtain⟨v0,x0,X0⟩:=h.ot 6
    have hV0':v0= .int .i64 (cmpI (b).num 0):=X0
    exact⟨_,run_eqi rfl (x0.trans hV0') rfl,congrArg Value.bool (by rw [cmp_gt (by omega)];rfl)⟩
   intro a4 w4 st4
   clear st3
   repeat first|refine Wq ?_|refine Wb ?_|refine Wk ?_|refine Wx ?_
   obtain⟨vc,hc1,hc2⟩:=st4.slot (10,Vb (false)) (.tail _ (.tail _ (.head _)))
   refine wp_cond_false (hc1.trans hc2) ?_
   clear hc1 hc2
   repeat first|refine Wq ?_|refine Wb ?_|refine Wk ?_|refine Wx ?_
   refine rg (BT:=[(33,4,0)]) (Vl:=[Vq Na (a),Vq Nb (b),Vq Nb ((b)⁻¹),Vq (Na+Nb) ((a)*((b)⁻¹)),VT]) (B:=[⟨2,none,none,33,4,Vq Na (a),VT⟩,⟨3,none,none,33,4,Vq Nb (b),VT⟩,⟨4,none,some 4,33,4,Vq (Na+Nb) ((a)*((b)⁻¹)),VT⟩]) (SL':=[(6,Vi (cmpI (b).num 0)),(7,Vb (false)),(10,Vb (false))]) st4 ⟨ks,ks,?s2,?s3,ks,trivial⟩ ?_
   case s2=>exact kd1 fun _ _ _ _ _ X0=>cQInv X0 (by omega) (by omega) (by omega)
   case s3=>exact kd2 fun _ _ _ _ _ X0 _ X1=>cQMul X0 X1 (by omega) (by omega) (by omega) (by omega)
   intro a5 w5 st5
   clear st4
   repeat first|refine Wq ?_|refine Wb ?_|refine Wk ?_|refine Wx ?_
   obtain⟨g,cs,r1,r2,r3,r4,r5⟩:=st5.res ⟨4,none,none,33,4,Vq (Na+Nb) ((a)*((b)⁻¹)),VT⟩ (.tail _ (.tail _ (.head _))) rfl rfl
   exact wp_ret (bodyPost_ret (results_cell_row rfl _ _ g 33 cs (0,0) _ r1 r2 Tryz.underlying33 rfl (by rw [r3];exact size_Rat)) st5.defers ⟨_,rfl,(by rw [Rat.div_def];exact r4),r5⟩)
theorem cQCompare {w:World}{Na Nb:Nat}{a b:Rat}{v0 v1:Value}(h0:Vq Na (a) v0 w)(h1:Vq Nb (b) v1 w)(h1a:1≤Na)(h1b:1≤Nb)(hNa:Na≤100000)(hNb:Nb≤100000):Calls Tryz.prog 48 #[v0,v1] w (RV (Vi (cmpQ a b)) w):=by
 go_enter Tryz.func48,Tryz.ntmps48
 have st0:St w.heap.size w 28 [] [(0,Vq Na (a)),(1,Vq Nb (b))] _ w:=St.begin (a:=⟨#[v0,v1,undef,undef,undef,undef,undef,undef,undef,undef,undef,undef,undef,undef,undef,undef,undef,undef,undef,undef,undef,undef,undef,undef,undef,undef,undef,undef],[]⟩) rfl rfl (Lq.2 ⟨⟨_,rfl,h0⟩,(Lq.2 ⟨⟨_,rfl,h1⟩,(fun _ h=>absurd h (by simp))⟩)⟩)
 generalize(⟨_,_⟩:Act)=a0 at st0 ⊢
 repeat first|refine Wq ?_|refine Wb ?_|refine Wk ?_|refine Wx ?_
 refine rg (BT:=[]) (Vl:=[VT,VT,Vi (0)]) (B:=[⟨2,some 0,some 0,33,4,Vq Na (a),VT⟩,⟨3,some 1,some 1,33,4,Vq Nb (b),VT⟩]) (SL':=[(4,Vi (0))]) st0 ⟨ks,ks,ks,trivial⟩ ?_
 intro a1 w1 st1
 clear st0
 repeat first|refine Wq ?_|refine Wb ?_|refine Wk ?_|refine Wx ?_
 refine rg (BT:=[]) (Vl:=[Vq Na (a),Vi (cmpI (a).num 0),Vq Nb (b),Vi (cmpI (b).num 0),Vi (cmpI (a).num 0),Vi (cmpI (b).num 0)]) (B:=[⟨2,none,none,33,4,Vq Na (a),VT⟩,⟨3,none,none,33,4,Vq Nb (b),VT⟩]) (SL':=[(4,Vi (0)),(5,Vi (cmpI (a).num 0)),(6,Vi (cmpI (b).num 0))]) st1 ⟨ks,?s1,ks,?s3,ks,ks,trivial⟩ ?_
 case s1=>exact kd1 fun _ _ _ _ _ X0=>cQSign X0 (by omega)
 case s3=>exact kd1 fun _ _ _ _ _ X0=>cQSign X0 (by omega)
 intro a2 w2 st2
 clear st1
 by_cases hs:cmpI a.num 0=cmpI b.num 0
 ·
  repeat first|refine Wq ?_|refine Wb ?_|refine Wk ?_|refine Wx ?_
  refine rg (BT:=[]) (Vl:=[Vi (cmpI (a).num 0),Vi (cmpI (b).num 0),Vb (false)]) (B:=[⟨2,none,none,33,4,Vq Na (a),VT⟩,⟨3,none,none,33,4,Vq Nb (b),VT⟩]) (SL':=[(4,Vi (0)),(5,Vi (cmpI (a).num 0)),(6,Vi (cmpI (b).num 0)),(13,Vb (false))]) st2 ⟨ks,ks,?s2,trivial⟩ ?_
  case s2=>
   refine kr fun _ A Y h D=>?_
   obtain⟨v0,x0,X0⟩:=h.dp D 11
   have hV0':v0= .int .i64 (cmpI (a).num 0):=X0
   obtain⟨v1,x1,X1⟩:=h.dp D 12
   have hV1':v1= .int .i64 (cmpI (b).num 0):=X1
   exact⟨_,run_neqi rfl (x0.trans hV0') (x1.trans hV1'),congrArg Value.bool (by rw [hs];simp)⟩
  intro a3 w3 st3
  clear st2
  repeat first|refine Wq ?_|refine Wb ?_|refine Wk ?_|refine Wx ?_
  obtain⟨vc,hc1,hc2⟩:=st3.slot (13,Vb (false)) (.tail _ (.tail _ (.tail _ (.head _))))
  refine wp_cond_false (hc1.trans hc2) ?_
  clear hc1 hc2
  repeat first|refine Wq ?_|refine Wb ?_|refine Wk ?_|refine Wx ?_
  refine rg (BT:=[]) (Vl:=[Vpt a3 2 0,Vz Na ((a).num),Vq Nb (b),Vz Nb (((b).den:Int)),Vz (Na+Nb) (((a).num)*(((b).den:Int))),Vpt a3 3 0,Vz Nb ((b).num),Vq Na (a),Vz Na (((a).den:Int)),Vz (Nb+Na) (((b).num)*(((a).den:Int))),Vi (cmpI (((a).num)*(((b).den:Int))) (((b).num)*(((a).den:Int)))),Vi (cmpI (((a).num)*(((b).den:Int))) (((b).num)*(((a).den:Int))))]) (B:=[⟨2,none,none,33,4,Vq Na (a),VT⟩,⟨3,none,none,33,4,Vq Nb (b),VT⟩]) (SL':=[(5,Vi (cmpI (a).num 0)),(6,Vi (cmpI (b).num 0)),(13,Vb (false)),(4,Vi (cmpI (((a).num)*(((b).den:Int))) (((b).num)*(((a).den:Int)))))]) st3 ⟨ks,ks,ks,?s3,?s4,ks,ks,ks,?s8,?s9,?s10,ks,trivial⟩ ?_
  case s3=>exact kd1 fun _ _ _ _ _ X0=>cDen X0 (by omega)
  case s4=>exact kd2 fun _ _ _ _ _ X0 _ X1=>(cMul X0 X1 (by omega) (by omega))
  case s8=>exact kd1 fun _ _ _ _ _ X0=>cDen X0 (by omega)
  case s9=>exact kd2 fun _ _ _ _ _ X0 _ X1=>(cMul X0 X1 (by omega) (by omega))
  case s10=>exact kd2 fun _ _ _ _ _ X0 _ X1=>(cCompare X0 X1 (by omega) (by omega))
  intro a4 w4 st4
  clear st3
  repeat first|refine Wq ?_|refine Wb ?_|refine Wk ?_|refine Wx ?_
  obtain⟨vr,r1,r4⟩:=st4.slot (4,Vi (cmpI (((a).num)*(((b).den:Int))) (((b).num)*(((a).den:Int))))) (.tail _ (.tail _ (.tail _ (.head _))))
  exact wp_ret (bodyPost_ret (results_tmp rfl _ _ _) st4.defers ⟨_,congrArg Ending.returned (show _=vr from r1),r4,st4.k.below⟩)
 ·
  repeat first|refine Wq ?_|refine Wb ?_|refine Wk ?_|refine Wx ?_
  refine rg (BT:=[]) (Vl:=[Vi (cmpI (a).num 0),Vi (cmpI (b).num 0),Vb (true)]) (B:=[⟨2,none,none,33,4,Vq Na (a),VT⟩,⟨3,none,none,33,4,Vq Nb (b),VT⟩]) (SL':=[(4,Vi (0)),(5,Vi (cmpI (a).num 0)),(6,Vi (cmpI (b).num 0)),(13,Vb (true))]) st2 ⟨ks,ks,?s2,trivial⟩ ?_
  case s2=>
   refine kr fun _ A Y h D=>?_
   obtain⟨v0,x0,X0⟩:=h.dp D 11
   have hV0':v0= .int .i64 (cmpI (a).num 0):=X0
   obtain⟨v1,x1,X1⟩:=h.dp D 12
   have hV1':v1= .int .i64 (cmpI (b).num 0):=X1
   exact⟨_,run_neqi rfl (x0.trans hV0') (x1.trans hV1'),congrArg Value.bool (bne_iff_ne.2 hs)⟩
  intro a3 w3 st3
  clear st2
  repeat first|refine Wq ?_|refine Wb ?_|refine Wk ?_|refine Wx ?_
  obtain⟨vc,hc1,hc2⟩:=st3.slot (13,Vb (true)) (.tail _ (.tail _ (.tail _ (.head _))))
  refine wp_cond_true (hc1.trans hc2) ?_
  clear hc1 hc2
  repeat first|refine Wq ?_|refine Wb ?_|refine Wk ?_|refine Wx ?_
  refine rg (BT:=[]) (Vl:=[Vi (cmpI (a).num 0),Vi (cmpI (b).num 0),Vi (cmpI (cmpI (a).num 0) (cmpI (b).num 0)),Vi (cmpI (cmpI (a).num 0) (cmpI (b).num 0))]) (B:=[⟨2,none,none,33,4,Vq Na (a),VT⟩,⟨3,none,none,33,4,Vq Nb (b),VT⟩]) (SL':=[(5,Vi (cmpI (a).num 0)),(6,Vi (cmpI (b).num 0)),(13,Vb (true)),(4,Vi (cmpI (cmpI (a).num 0) (cmpI (b).num 0)))]) st3 ⟨ks,ks,?s2,ks,trivial⟩ ?_
  case s2=>exact kd2 fun _ _ _ _ _ X0 _ X1=>cCmp X0 X1
  intro a4 w4 st4
  clear st3
  repeat first|refine Wq ?_|refine Wb ?_|refine Wk ?_|refine Wx ?_
  obtain⟨vr,r1,r4⟩:=st4.slot (4,Vi (cmpI (cmpI (a).num 0) (cmpI (b).num 0))) (.tail _ (.tail _ (.tail _ (.head _))))
  exact wp_ret (bodyPost_ret (results_tmp rfl _ _ _) st4.defers ⟨_,congrArg Ending.returned (show _=vr from r1),(by rw [←cmpQ_sign hs];exact r4),st4.k.below⟩)
theorem cQMake {w:World}{Na Nb:Nat}{p q:Int}{v0 v1:Value}(h0:Vz Na (p) v0 w)(h1:Vz Nb (q) v1 w)(h1a:1≤Na)(h1b:1≤Nb)(hNa:Na≤100000)(hNb:Nb≤100000):Calls Tryz.prog 112 #[v0,v1] w (RV (Vq (max Na Nb) (Rat.divInt p q)) w):=by
 go_enter Tryz.func112,Tryz.ntmps112
 have st0:St w.heap.size w 27 [] [(0,Vz Na (p)),(1,Vz Nb (q))] _ w:=St.begin (a:=⟨#[v0,v1,undef,undef,undef,undef,undef,undef,undef,undef,undef,undef,undef,undef,undef,undef,undef,undef,undef,undef,undef,undef,undef,undef,undef,undef,undef],[]⟩) rfl rfl (Lq.2 ⟨⟨_,rfl,h0⟩,(Lq.2 ⟨⟨_,rfl,h1⟩,(fun _ h=>absurd h (by simp))⟩)⟩)
 generalize(⟨_,_⟩:Act)=a0 at st0 ⊢
 repeat first|refine Wq ?_|refine Wb ?_|refine Wk ?_|refine Wx ?_
 refine rg (BT:=[(33,4,0),(31,2,0)]) (Vl:=[VT,VT,VT]) (B:=[⟨2,some 0,some 0,31,2,Vz Na (p),VT⟩,⟨3,some 1,some 1,31,2,Vz Nb (q),VT⟩,⟨4,some 2,none,33,4,VT,VT⟩]) (SL':=[]) st0 ⟨ks,ks,ks,trivial⟩ ?_
 intro a1 w1 st1
 clear st0
 repeat first|refine Wq ?_|refine Wb ?_|refine Wk ?_|refine Wx ?_
 refine rg (BT:=[(33,4,0),(31,2,0)]) (Vl:=[Vz Nb (q),Vi (cmpI (q) 0)]) (B:=[⟨2,none,none,31,2,Vz Na (p),VT⟩,⟨3,none,none,31,2,Vz Nb (q),VT⟩,⟨4,none,none,33,4,VT,VT⟩]) (SL':=[(7,Vi (cmpI (q) 0))]) st1 ⟨ks,?s1,trivial⟩ ?_
 case s1=>exact kd1 fun _ _ _ _ _ X0=>cSign X0 (by omega)
 intro a2 w2 st2
 clear st1
 by_cases hz:q=0
 ·
  repeat first|refine Wq ?_|refine Wb ?_|refine Wk ?_|refine Wx ?_
  refine rg (BT:=[(33,4,0),(31,2,0)]) (Vl:=[Vb (true),Vb (true)]) (B:=[⟨2,none,none,31,2,Vz Na (p),VT⟩,⟨3,none,none,31,2,Vz Nb (q),VT⟩,⟨4,none,none,33,4,VT,VT⟩]) (SL':=[(7,Vi (cmpI (q) 0)),(8,Vb (true))]) st2 ⟨?s0,ks,trivial⟩ ?_
  case s0=>refine kr fun _ A Y h D=>?_;obtain⟨v0,x0,X0⟩:=h.ot 7;have hV0':v0= .int .i64 (cmpI (q) 0):=X0;exact⟨_,run_eqi rfl (x0.trans hV0') rfl,congrArg Value.bool (by rw [hz,cmp_eq];rfl)⟩
  intro a3 w3 st3
  clear st2
  repeat first|refine Wq ?_|refine Wb ?_|refine Wk ?_|refine Wx ?_
  obtain⟨vc,hc1,hc2⟩:=st3.slot (8,Vb (true)) (.tail _ (.head _))
  refine wp_cond_true (hc1.trans hc2) ?_
  clear hc1 hc2
  repeat first|refine Wq ?_|refine Wb ?_|refine Wk ?_|refine Wx ?_
  refine rg (BT:=[(33,4,0),(31,2,0)]) (Vl:=[Vq 1 (0),VT]) (B:=[⟨2,none,none,31,2,Vz Na (p),VT⟩,⟨3,none,none,31,2,Vz Nb (q),VT⟩,⟨4,none,some 1,33,4,Vq 1 (0),VT⟩]) (SL':=[(7,Vi (cmpI (q) 0)),(8,Vb (true))]) st3 ⟨?s0,ks,trivial⟩ ?_
  case s0=>exact kr fun _ A Y h D=>build_Rat0 rfl
  intro a4 w4 st4
  clear st3
  repeat first|refine Wq ?_|refine Wb ?_|refine Wk ?_|refine Wx ?_
  obtain⟨g,cs,r1,r2,r3,r4,r5⟩:=st4.res ⟨4,none,none,33,4,Vq 1 (0),VT⟩ (.tail _ (.tail _ (.head _))) rfl rfl
  exact wp_ret (bodyPost_ret (results_cell_row rfl _ _ g 33 cs (0,0) _ r1 r2 Tryz.underlying33 rfl (by rw [r3];exact size_Rat)) st4.defers ⟨_,rfl,(by rw [hz,Rat.divInt_zero];exact Vq_le r4 (by omega)),r5⟩)
 ·
  by_cases hl:q<0
  ·
   repeat first|refine Wq ?_|refine Wb ?_|refine Wk ?_|refine Wx ?_
   refine rg (BT:=[(33,4,0),(31,2,0)]) (Vl:=[Vb (false),Vb (false)]) (B:=[⟨2,none,none,31,2,Vz Na (p),VT⟩,⟨3,none,none,31,2,Vz Nb (q),VT⟩,⟨4,none,none,33,4,VT,VT⟩]) (SL':=[(7,Vi (cmpI (q) 0)),(8,Vb (false))]) st2 ⟨?s0,ks,trivial⟩ ?_
   case s0=>
    refine kr fun _ A Y h D=>?_
    obtain⟨v0,x0,X0⟩:=h.ot 7
    have hV0':v0= .int .i64 (cmpI (q) 0):=X0
    exact⟨_,run_eqi rfl (x0.trans hV0') rfl,congrArg Value.bool (by rw [cmp0];exact dF hz)⟩
   intro a3 w3 st3
   clear st2
   repeat first|refine Wq ?_|refine Wb ?_|refine Wk ?_|refine Wx ?_
   obtain⟨vc,hc1,hc2⟩:=st3.slot (8,Vb (false)) (.tail _ (.head _))
   refine wp_cond_false (hc1.trans hc2) ?_
   clear hc1 hc2
   repeat first|refine Wq ?_|refine Wb ?_|refine Wk ?_|refine Wx ?_
   refine rg (BT:=[(33,4,0),(31,2,0)]) (Vl:=[Vb (true),Vb (true)]) (B:=[⟨2,none,none,31,2,Vz Na (p),VT⟩,⟨3,none,none,31,2,Vz Nb (q),VT⟩,⟨4,none,none,33,4,VT,VT⟩]) (SL':=[(7,Vi (cmpI (q) 0)),(8,Vb (false)),(11,Vb (true))]) st3 ⟨?s0,ks,trivial⟩ ?_
   case s0=>refine kr fun _ A Y h D=>?_;obtain⟨v0,x0,X0⟩:=h.ot 7;have hV0':v0= .int .i64 (cmpI (q) 0):=X0;exact⟨_,run_eqi rfl (x0.trans hV0') rfl,congrArg Value.bool (by rw [cmp_lt hl];rfl)⟩
   intro a4 w4 st4
   clear st3
   repeat first|refine Wq ?_|refine Wb ?_|refine Wk ?_|refine Wx ?_
   obtain⟨vc,hc1,hc2⟩:=st4.slot (11,Vb (true)) (.tail _ (.tail _ (.head _)))
   refine wp_cond_true (hc1.trans hc2) ?_
   clear hc1 hc2
   repeat first|refine Wq ?_|refine Wb ?_|refine Wk ?_|refine Wx ?_
   refine rg (BT:=[(33,4,0),(31,2,0)]) (Vl:=[Vz Na (p),Vz Na (-(p)),Vz Nb (q),Vz Nb (-(q)),VT,VT]) (B:=[⟨2,none,some 4,31,2,Vz Na (-(p)),Vz Na (p)⟩,⟨3,none,some 5,31,2,Vz Nb (-(q)),Vz Nb (q)⟩,⟨4,none,none,33,4,VT,VT⟩]) (SL':=[(7,Vi (cmpI (q) 0)),(8,Vb (false)),(11,Vb (true))]) st4 ⟨ks,?s1,ks,?s3,ks,ks,trivial⟩ ?_
   case s1=>exact kd1 fun _ _ _ _ _ X0=>cNeg X0 (by omega)
   case s3=>exact kd1 fun _ _ _ _ _ X0=>cNeg X0 (by omega)
   intro a5 w5 st5
   clear st4
   repeat first|refine Wq ?_|refine Wb ?_|refine Wk ?_|refine Wx ?_
   refine rg (BT:=[(33,4,0),(31,2,0)]) (Vl:=[Vz Na (-(p)),Vz Nb (-(q)),Vz (max Na Nb) ((Int.gcd (-(p)) (-(q)):Int)),VT,VT]) (B:=[⟨2,none,none,31,2,Vz Na (-(p)),VT⟩,⟨3,none,none,31,2,Vz Nb (-(q)),VT⟩,⟨4,none,none,33,4,VT,VT⟩,⟨5,some 3,some 4,31,2,Vz (max Na Nb) ((Int.gcd (-(p)) (-(q)):Int)),VT⟩]) (SL':=[(7,Vi (cmpI (q) 0)),(8,Vb (false)),(11,Vb (true))]) st5 ⟨ks,ks,?s2,ks,ks,trivial⟩ ?_
   case s2=>exact kd2 fun _ _ _ _ _ X0 _ X1=>(cGcd X0 X1 (by omega) (by omega))
   intro a6 w6 st6
   clear st5
   repeat first|refine Wq ?_|refine Wb ?_|refine Wk ?_|refine Wx ?_
   refine rg (BT:=[(33,4,0),(31,2,0)]) (Vl:=[Vz Na (-(p)),Vz (max Na Nb) ((Int.gcd (-(p)) (-(q)):Int)),Vz Na ((-(p)) / ((Int.gcd (-(p)) (-(q)):Int))),Vz Nb (-(q)),Vz (max Na Nb) ((Int.gcd (-(p)) (-(q)):Int)),Vz Nb ((-(q)) / ((Int.gcd (-(p)) (-(q)):Int))),Vq (max Na Nb) (Rat.divInt p q),VT]) (B:=[⟨2,none,none,31,2,Vz Na (-(p)),VT⟩,⟨3,none,none,31,2,Vz Nb (-(q)),VT⟩,⟨4,none,some 7,33,4,Vq (max Na Nb) (Rat.divInt p q),VT⟩,⟨5,none,none,31,2,Vz (max Na Nb) ((Int.gcd (-(p)) (-(q)):Int)),VT⟩]) (SL':=[(7,Vi (cmpI (q) 0)),(8,Vb (false)),(11,Vb (true))]) st6 ⟨ks,ks,?s2,ks,ks,?s5,?s6,ks,trivial⟩ ?_
   case s2=>exact kd2 fun _ _ _ _ _ X0 _ X1=>cPart X0 X1 (by first|exact gcd_den_ne _ _|exact gcd_den_ne' _ _|exact gcd_gcd_ne _ _ _|exact gcd_ne_r (by omega)) (by omega) (by omega)
   case s5=>exact kd2 fun _ _ _ _ _ X0 _ X1=>cPart X0 X1 (by first|exact gcd_den_ne _ _|exact gcd_den_ne' _ _|exact gcd_gcd_ne _ _ _|exact gcd_ne_r (by omega)) (by omega) (by omega)
   case s6=>exact kd2 fun _ _ _ _ _ X0 _ X1=>cMade (r:=Rat.divInt p q) (Vz_le (M:=(max Na Nb)) X0 (by omega)) (Vz_le (M:=(max Na Nb)) X1 (by omega)) (by rw [←Rat.neg_divInt_neg];exact make_low (by omega))
   intro a7 w7 st7
   clear st6
   repeat first|refine Wq ?_|refine Wb ?_|refine Wk ?_|refine Wx ?_
   obtain⟨g,cs,r1,r2,r3,r4,r5⟩:=st7.res ⟨4,none,none,33,4,Vq (max Na Nb) (Rat.divInt p q),VT⟩ (.tail _ (.tail _ (.head _))) rfl rfl
   exact wp_ret (bodyPost_ret (results_cell_row rfl _ _ g 33 cs (0,0) _ r1 r2 Tryz.underlying33 rfl (by rw [r3];exact size_Rat)) st7.defers ⟨_,rfl,r4,r5⟩)
  ·
   repeat first|refine Wq ?_|refine Wb ?_|refine Wk ?_|refine Wx ?_
   refine rg (BT:=[(33,4,0),(31,2,0)]) (Vl:=[Vb (false),Vb (false)]) (B:=[⟨2,none,none,31,2,Vz Na (p),VT⟩,⟨3,none,none,31,2,Vz Nb (q),VT⟩,⟨4,none,none,33,4,VT,VT⟩]) (SL':=[(7,Vi (cmpI (q) 0)),(8,Vb (false))]) st2 ⟨?s0,ks,trivial⟩ ?_
   case s0=>
    refine kr fun _ A Y h D=>?_
    obtain⟨v0,x0,X0⟩:=h.ot 7
    have hV0':v0= .int .i64 (cmpI (q) 0):=X0
    exact⟨_,run_eqi rfl (x0.trans hV0') rfl,congrArg Value.bool (by rw [cmp0];exact dF hz)⟩
   intro a3 w3 st3
   clear st2
   repeat first|refine Wq ?_|refine Wb ?_|refine Wk ?_|refine Wx ?_
   obtain⟨vc,hc1,hc2⟩:=st3.slot (8,Vb (false)) (.tail _ (.head _))
   refine wp_cond_false (hc1.trans hc2) ?_
   clear hc1 hc2
   repeat first|refine Wq ?_|refine Wb ?_|refine Wk ?_|refine Wx ?_
   refine rg (BT:=[(33,4,0),(31,2,0)]) (Vl:=[Vb (false),Vb (false)]) (B:=[⟨2,none,none,31,2,Vz Na (p),VT⟩,⟨3,none,none,31,2,Vz Nb (q),VT⟩,⟨4,none,none,33,4,VT,VT⟩]) (SL':=[(7,Vi (cmpI (q) 0)),(8,Vb (false)),(11,Vb (false))]) st3 ⟨?s0,ks,trivial⟩ ?_
   case s0=>
    refine kr fun _ A Y h D=>?_
    obtain⟨v0,x0,X0⟩:=h.ot 7
    have hV0':v0= .int .i64 (cmpI (q) 0):=X0
    exact⟨_,run_eqi rfl (x0.trans hV0') rfl,congrArg Value.bool (by rw [cmp_gt (by omega)];rfl)⟩
   intro a4 w4 st4
   clear st3
   repeat first|refine Wq ?_|refine Wb ?_|refine Wk ?_|refine Wx ?_
   obtain⟨vc,hc1,hc2⟩:=st4.slot (11,Vb (false)) (.tail _ (.tail _ (.head _)))
   refine wp_cond_false (hc1.trans hc2) ?_
   clear hc1 hc2
   repeat first|refine Wq ?_|refine Wb ?_|refine Wk ?_|refine Wx ?_
   refine rg (BT:=[(33,4,0),(31,2,0)]) (Vl:=[Vz Na (p),Vz Nb (q),Vz (max Na Nb) ((Int.gcd (p) (q):Int)),VT,VT]) (B:=[⟨2,none,none,31,2,Vz Na (p),VT⟩,⟨3,none,none,31,2,Vz Nb (q),VT⟩,⟨4,none,none,33,4,VT,VT⟩,⟨5,some 3,some 4,31,2,Vz (max Na Nb) ((Int.gcd (p) (q):Int)),VT⟩]) (SL':=[(7,Vi (cmpI (q) 0)),(8,Vb (false)),(11,Vb (false))]) st4 ⟨ks,ks,?s2,ks,ks,trivial⟩ ?_
   case s2=>exact kd2 fun _ _ _ _ _ X0 _ X1=>(cGcd X0 X1 (by omega) (by omega))
   intro a5 w5 st5
   clear st4
   repeat first|refine Wq ?_|refine Wb ?_|refine Wk ?_|refine Wx ?_
   refine rg (BT:=[(33,4,0),(31,2,0)]) (Vl:=[Vz Na (p),Vz (max Na Nb) ((Int.gcd (p) (q):Int)),Vz Na ((p) / ((Int.gcd (p) (q):Int))),Vz Nb (q),Vz (max Na Nb) ((Int.gcd (p) (q):Int)),Vz Nb ((q) / ((Int.gcd (p) (q):Int))),Vq (max Na Nb) (Rat.divInt p q),VT]) (B:=[⟨2,none,none,31,2,Vz Na (p),VT⟩,⟨3,none,none,31,2,Vz Nb (q),VT⟩,⟨4,none,some 7,33,4,Vq (max Na Nb) (Rat.divInt p q),VT⟩,⟨5,none,none,31,2,Vz (max Na Nb) ((Int.gcd (p) (q):Int)),VT⟩]) (SL':=[(7,Vi (cmpI (q) 0)),(8,Vb (false)),(11,Vb (false))]) st5 ⟨ks,ks,?s2,ks,ks,?s5,?s6,ks,trivial⟩ ?_
   case s2=>exact kd2 fun _ _ _ _ _ X0 _ X1=>cPart X0 X1 (by first|exact gcd_den_ne _ _|exact gcd_den_ne' _ _|exact gcd_gcd_ne _ _ _|exact gcd_ne_r (by omega)) (by omega) (by omega)
   case s5=>exact kd2 fun _ _ _ _ _ X0 _ X1=>cPart X0 X1 (by first|exact gcd_den_ne _ _|exact gcd_den_ne' _ _|exact gcd_gcd_ne _ _ _|exact gcd_ne_r (by omega)) (by omega) (by omega)
   case s6=>exact kd2 fun _ _ _ _ _ X0 _ X1=>cMade (r:=Rat.divInt p q) (Vz_le (M:=(max Na Nb)) X0 (by omega)) (Vz_le (M:=(max Na Nb)) X1 (by omega)) (make_low (by omega))
   intro a6 w6 st6
   clear st5
   repeat first|refine Wq ?_|refine Wb ?_|refine Wk ?_|refine Wx ?_
   obtain⟨g,cs,r1,r2,r3,r4,r5⟩:=st6.res ⟨4,none,none,33,4,Vq (max Na Nb) (Rat.divInt p q),VT⟩ (.tail _ (.tail _ (.head _))) rfl rfl
   exact wp_ret (bodyPost_ret (results_cell_row rfl _ _ g 33 cs (0,0) _ r1 r2 Tryz.underlying33 rfl (by rw [r3];exact size_Rat)) st6.defers ⟨_,rfl,r4,r5⟩)
theorem cQOf {w:World}{p q:Int}{v0 v1:Value}(h0:Vi (p) v0 w)(h1:Vi (q) v1 w)(hp0: -9223372036854775808≤p)(hp1:p≤9223372036854775807)(hq0: -9223372036854775808≤q)(hq1:q≤9223372036854775807):Calls Tryz.prog 69 #[v0,v1] w (RV (Vq 3 (Rat.divInt p q)) w):=by
 go_enter Tryz.func69,Tryz.ntmps69
 have st0:St w.heap.size w 10 [] [(0,Vi (p)),(1,Vi (q))] _ w:=St.begin (a:=⟨#[v0,v1,undef,undef,undef,undef,undef,undef,undef,undef],[]⟩) rfl rfl (Lq.2 ⟨⟨_,rfl,h0⟩,(Lq.2 ⟨⟨_,rfl,h1⟩,(fun _ h=>absurd h (by simp))⟩)⟩)
 generalize(⟨_,_⟩:Act)=a0 at st0 ⊢
 repeat first|refine Wq ?_|refine Wb ?_|refine Wk ?_|refine Wx ?_
 refine rg (BT:=[(33,4,0)]) (Vl:=[VT]) (B:=[⟨4,some 0,none,33,4,VT,VT⟩]) (SL':=[(0,Vi (p)),(1,Vi (q))]) st0 ⟨ks,trivial⟩ ?_
 intro a1 w1 st1
 clear st0
 repeat first|refine Wq ?_|refine Wb ?_|refine Wk ?_|refine Wx ?_
 refine rg (BT:=[(33,4,0)]) (Vl:=[Vi (p),Vz 3 (p),Vi (q),Vz 3 (q),Vq 3 (Rat.divInt (p) (q)),VT]) (B:=[⟨4,none,some 5,33,4,Vq 3 (Rat.divInt (p) (q)),VT⟩]) (SL':=[]) st1 ⟨ks,?s1,ks,?s3,?s4,ks,trivial⟩ ?_
 case s1=>exact kd1 fun _ _ _ _ _ X0=>cOfV X0 (by omega) (by omega)
 case s3=>exact kd1 fun _ _ _ _ _ X0=>cOfV X0 (by omega) (by omega)
 case s4=>exact kd2 fun _ _ _ _ _ X0 _ X1=>cQMake X0 X1 (by omega) (by omega) (by omega) (by omega)
 intro a2 w2 st2
 clear st1
 repeat first|refine Wq ?_|refine Wb ?_|refine Wk ?_|refine Wx ?_
 obtain⟨g,cs,r1,r2,r3,r4,r5⟩:=st2.res ⟨4,none,none,33,4,Vq 3 (Rat.divInt (p) (q)),VT⟩ (.head _) rfl rfl
 exact wp_ret (bodyPost_ret (results_cell_row rfl _ _ g 33 cs (0,0) _ r1 r2 Tryz.underlying33 rfl (by rw [r3];exact size_Rat)) st2.defers ⟨_,rfl,r4,r5⟩)
theorem cQValid {w:World}{N:Nat}{q:Rat}{v0:Value}(h0:Vq N (q) v0 w)(hN:N≤100000):Calls Tryz.prog 103 #[v0] w (RV (Vb true) w):=by
 go_enter Tryz.func103,Tryz.ntmps103
 have st0:St w.heap.size w 38 [] [(0,Vq N (q))] _ w:=St.begin (a:=⟨#[v0,undef,undef,undef,undef,undef,undef,undef,undef,undef,undef,undef,undef,undef,undef,undef,undef,undef,undef,undef,undef,undef,undef,undef,undef,undef,undef,undef,undef,undef,undef,undef,undef,undef,undef,undef,undef,undef],[]⟩) rfl rfl (Lq.2 ⟨⟨_,rfl,h0⟩,(fun _ h=>absurd h (by simp))⟩)
 generalize(⟨_,_⟩:Act)=a0 at st0 ⊢
 repeat first|refine Wq ?_|refine Wb ?_|refine Wk ?_|refine Wx ?_
 refine rg (BT:=[]) (Vl:=[VT,Vb (false)]) (B:=[⟨1,some 0,some 0,33,4,Vq N (q),VT⟩]) (SL':=[(2,Vb (false))]) st0 ⟨ks,ks,trivial⟩ ?_
 intro a1 w1 st1
 clear st0
 repeat first|refine Wq ?_|refine Wb ?_|refine Wk ?_|refine Wx ?_
 refine rg (BT:=[]) (Vl:=[Vpt a1 1 0,Vz N ((q).num),Vb (true),Vb (false),Vb (false),Vpt a1 1 2,Vz N (qd (q)),Vb (true),Vb (false),Vb (false),Vb (false)]) (B:=[⟨1,none,none,33,4,Vq N (q),VT⟩]) (SL':=[(2,Vb (false)),(3,Vb (false))]) st1 ⟨ks,ks,?s2,ks,ks,ks,ks,?s7,ks,ks,ks,trivial⟩ ?_
 case s2=>exact kd1 fun _ _ _ _ _ X0=>cZValid X0 (by omega)
 case s7=>exact kd1 fun _ _ _ _ _ X0=>cZValid X0 (by omega)
 intro a2 w2 st2
 clear st1
 repeat first|refine Wq ?_|refine Wb ?_|refine Wk ?_|refine Wx ?_
 obtain⟨vc,hc1,hc2⟩:=st2.slot (3,Vb (false)) (.tail _ (.head _))
 refine wp_cond_false (hc1.trans hc2) ?_
 clear hc1 hc2
 by_cases hd1:q.den=1
 ·
  repeat first|refine Wq ?_|refine Wb ?_|refine Wk ?_|refine Wx ?_
  refine rg (BT:=[]) (Vl:=[Vpt a2 1 2,Vpt a2 1 3,VD N (qd (q)),Vi (((digs (qd (q)).natAbs).length:Int)),Vb (true),Vb (true)]) (B:=[⟨1,none,none,33,4,Vq N (q),VT⟩]) (SL':=[(2,Vb (false)),(3,Vb (false)),(14,Vb (true))]) st2 ⟨ks,ks,ks,?s3,?s4,ks,trivial⟩ ?_
  case s3=>refine kr fun _ A Y h D=>?_;obtain⟨v0,x0,X0⟩:=h.dp D 17;obtain⟨pp,nn,cc,rfl,hnn,-⟩:=X0;exact⟨_,run_len rfl rfl x0,by rw [hnn];rfl⟩
  case s4=>
   refine kr fun _ A Y h D=>?_
   obtain⟨v0,x0,X0⟩:=h.dp D 18
   have hV0':v0= .int .i64 (((digs (qd (q)).natAbs).length:Int)):=X0
   exact⟨_,run_eqi rfl (x0.trans hV0') rfl,congrArg Value.bool (by rw [len_eq0];exact dT ((qd0 q).2 hd1))⟩
  intro a3 w3 st3
  clear st2
  repeat first|refine Wq ?_|refine Wb ?_|refine Wk ?_|refine Wx ?_
  obtain⟨vc,hc1,hc2⟩:=st3.slot (14,Vb (true)) (.tail _ (.tail _ (.head _)))
  refine wp_cond_true (hc1.trans hc2) ?_
  clear hc1 hc2
  repeat first|refine Wq ?_|refine Wb ?_|refine Wk ?_|refine Wx ?_
  refine rg (BT:=[]) (Vl:=[Vb (true)]) (B:=[⟨1,none,none,33,4,Vq N (q),VT⟩]) (SL':=[(3,Vb (false)),(14,Vb (true)),(2,Vb (true))]) st3 ⟨ks,trivial⟩ ?_
  intro a4 w4 st4
  clear st3
  repeat first|refine Wq ?_|refine Wb ?_|refine Wk ?_|refine Wx ?_
  obtain⟨vr,r1,r4⟩:=st4.slot (2,Vb (true)) (.tail _ (.tail _ (.head _)))
  exact wp_ret (bodyPost_ret (results_tmp rfl _ _ _) st4.defers ⟨_,congrArg Ending.returned (show _=vr from r1),r4,st4.k.below⟩)
 ·
  repeat first|refine Wq ?_|refine Wb ?_|refine Wk ?_|refine Wx ?_
  refine rg (BT:=[]) (Vl:=[Vpt a2 1 2,Vpt a2 1 3,VD N (qd (q)),Vi (((digs (qd (q)).natAbs).length:Int)),Vb (false),Vb (false)]) (B:=[⟨1,none,none,33,4,Vq N (q),VT⟩]) (SL':=[(2,Vb (false)),(3,Vb (false)),(14,Vb (false))]) st2 ⟨ks,ks,ks,?s3,?s4,ks,trivial⟩ ?_
  case s3=>refine kr fun _ A Y h D=>?_;obtain⟨v0,x0,X0⟩:=h.dp D 17;obtain⟨pp,nn,cc,rfl,hnn,-⟩:=X0;exact⟨_,run_len rfl rfl x0,by rw [hnn];rfl⟩
  case s4=>
   refine kr fun _ A Y h D=>?_
   obtain⟨v0,x0,X0⟩:=h.dp D 18
   have hV0':v0= .int .i64 (((digs (qd (q)).natAbs).length:Int)):=X0
   exact⟨_,run_eqi rfl (x0.trans hV0') rfl,congrArg Value.bool (by rw [len_eq0];exact dF (fun e=>hd1 ((qd0 q).1 e)))⟩
  intro a3 w3 st3
  clear st2
  repeat first|refine Wq ?_|refine Wb ?_|refine Wk ?_|refine Wx ?_
  obtain⟨vc,hc1,hc2⟩:=st3.slot (14,Vb (false)) (.tail _ (.tail _ (.head _)))
  refine wp_cond_false (hc1.trans hc2) ?_
  clear hc1 hc2
  repeat first|refine Wq ?_|refine Wb ?_|refine Wk ?_|refine Wx ?_
  refine rg (BT:=[]) (Vl:=[Vpt a3 1 2,Vz N (qd (q)),Vi (cmpI (qd (q)) 0),Vb (true),Vb (true),Vpt a3 1 2,Vz N (qd (q)),Vb (false),Vb (true),Vb (true),Vb (true),Vpt a3 1 0,Vz N ((q).num),Vpt a3 1 2,Vz N (qd (q)),Vz (max N N) ((Int.gcd ((q).num) (qd (q)):Int)),Vb (true),Vb (true),Vb (true)]) (B:=[⟨1,none,none,33,4,Vq N (q),VT⟩]) (SL':=[(3,Vb (false)),(14,Vb (false)),(2,Vb (true))]) st3 ⟨ks,ks,?s2,?s3,ks,ks,ks,?s7,ks,ks,ks,ks,ks,ks,ks,?s15,?s16,ks,ks,trivial⟩ ?_
  case s2=>exact kd1 fun _ _ _ _ _ X0=>cSign X0 (by omega)
  case s3=>
   refine kr fun _ A Y h D=>?_
   obtain⟨v0,x0,X0⟩:=h.dp D 22
   have hV0':v0= .int .i64 (cmpI (qd (q)) 0):=X0
   exact⟨_,run_gtri rfl (x0.trans hV0') rfl,congrArg Value.bool (by rw [cmp_gt (by rw [qd_of hd1];have:=q.den_pos;omega)];rfl)⟩
  case s7=>exact kd1 fun _ _ _ h _ X0=>(cOne X0).mono fun e w h=>h.le fun v w hv=>hv.trans (congrArg Value.bool (dF (by rw [qd_of hd1];omega)))
  case s15=>exact kd2 fun _ _ _ _ _ X0 _ X1=>(cGcd X0 X1 (by omega) (by omega))
  case s16=>exact kd1 fun _ _ _ h _ X0=>(cOne X0).mono fun e w h=>h.le fun v w hv=>hv.trans (congrArg Value.bool (dT (by rw [qd_of hd1];exact congrArg Int.ofNat q.reduced)))
  intro a4 w4 st4
  clear st3
  repeat first|refine Wq ?_|refine Wb ?_|refine Wk ?_|refine Wx ?_
  obtain⟨vr,r1,r4⟩:=st4.slot (2,Vb (true)) (.tail _ (.tail _ (.head _)))
  exact wp_ret (bodyPost_ret (results_tmp rfl _ _ _) st4.defers ⟨_,congrArg Ending.returned (show _=vr from r1),r4,st4.k.below⟩)
end Go.Proofs.YtjdkdjobaabdiaaGreat
