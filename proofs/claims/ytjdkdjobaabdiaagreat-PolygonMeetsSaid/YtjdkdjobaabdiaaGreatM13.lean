/- Contracts of the packages integer, rat, plane, polygon and their references. -/
import Derived.Test.YtjdkdjobaabdiaaGreatM12
set_option linter.unusedVariables false
set_option maxRecDepth 100000
set_option maxHeartbeats 6400000
namespace Go.Proofs.YtjdkdjobaabdiaaGreat
open Go.RowKit
theorem cDen {w:World}{N:Nat}{q:Rat}{v0:Value}(h0:Vq N (q) v0 w)(hN:1≤N):Calls Tryz.prog 92 #[v0] w (RV (Vz N (q.den:Int)) w):=by
 go_enter Tryz.func92,Tryz.ntmps92
 have st0:St w.heap.size w 11 [] [(0,Vq N (q))] _ w:=St.begin (a:=⟨#[v0,undef,undef,undef,undef,undef,undef,undef,undef,undef,undef],[]⟩) rfl rfl (Lq.2 ⟨⟨_,rfl,h0⟩,(fun _ h=>absurd h (by simp))⟩)
 generalize(⟨_,_⟩:Act)=a0 at st0 ⊢
 repeat first|refine Wq ?_|refine Wb ?_|refine Wk ?_|refine Wx ?_
 refine rg (BT:=[(31,2,0)]) (Vl:=[VT,VT]) (B:=[⟨1,some 0,some 0,33,4,Vq N (q),VT⟩,⟨2,some 1,none,31,2,VT,VT⟩]) (SL':=[]) st0 ⟨ks,ks,trivial⟩ ?_
 intro a1 w1 st1
 clear st0
 repeat first|refine Wq ?_|refine Wb ?_|refine Wk ?_|refine Wx ?_
 refine rg (BT:=[(31,2,0)]) (Vl:=[Vpt a1 1 2,Vpt a1 1 3,VD N (qd (q)),Vi (((digs (qd (q)).natAbs).length:Int)),Vb (decide (q.den=1))]) (B:=[⟨1,none,none,33,4,Vq N (q),VT⟩,⟨2,none,none,31,2,VT,VT⟩]) (SL':=[(7,Vb (decide (q.den=1)))]) st1 ⟨ks,ks,ks,?s3,?s4,trivial⟩ ?_
 case s3=>refine kr fun _ A Y h D=>?_;obtain⟨v0,x0,X0⟩:=h.dp D 5;obtain⟨pp,nn,cc,rfl,hnn,-⟩:=X0;exact⟨_,run_len rfl rfl x0,by rw [hnn];rfl⟩
 case s4=>
  refine kr fun _ A Y h D=>?_
  obtain⟨v0,x0,X0⟩:=h.dp D 6
  have hV0':v0= .int .i64 (((digs (qd (q)).natAbs).length:Int)):=X0
  exact⟨_,run_eqi rfl (x0.trans hV0') rfl,congrArg Value.bool (by rw [len_eq0];exact decide_eq_decide.2 (qd0 q))⟩
 intro a2 w2 st2
 clear st1
 repeat first|refine Wq ?_|refine Wb ?_|refine Wk ?_|refine Wx ?_
 obtain⟨vc,hc1,hc2⟩:=st2.slot (7,Vb (decide (q.den=1))) (.head _)
 by_cases hcc:q.den=1
 ·refine wp_cond_true (hc1.trans (hc2.trans (congrArg Value.bool (dT hcc)))) ?_
  clear hc1 hc2
  repeat first|refine Wq ?_|refine Wb ?_|refine Wk ?_|refine Wx ?_
  refine rg (BT:=[(31,2,0)]) (Vl:=[Vz 1 (1),VT]) (B:=[⟨1,none,none,33,4,Vq N (q),VT⟩,⟨2,none,some 1,31,2,Vz 1 (1),VT⟩]) (SL':=[(7,Vb (decide (q.den=1)))]) st2 ⟨?s0,ks,trivial⟩ ?_
  case s0=>refine kc fun _ A Y h D=>?_;exact⟨#[.int .i64 (1)],by simp [eval_const],cOf1⟩
  intro a3 w3 st3
  clear st2
  repeat first|refine Wq ?_|refine Wb ?_|refine Wk ?_|refine Wx ?_
  obtain⟨g,cs,r1,r2,r3,r4,r5⟩:=st3.res ⟨2,none,none,31,2,Vz 1 (1),VT⟩ (.tail _ (.head _)) rfl rfl
  exact wp_ret (bodyPost_ret (results_cell_row rfl _ _ g 31 cs (0,0) _ r1 r2 Tryz.underlying31 rfl (by rw [r3];exact size_Int)) st3.defers ⟨_,rfl,(by rw [show(q.den:Int)=1 by omega];exact Vz_le r4 hN),r5⟩)
 ·refine wp_cond_false (hc1.trans (hc2.trans (congrArg Value.bool (dF hcc)))) ?_
  clear hc1 hc2
  repeat first|refine Wq ?_|refine Wb ?_|refine Wk ?_|refine Wx ?_
  refine rg (BT:=[(31,2,0)]) (Vl:=[Vpt a2 1 2,Vz N (qd (q)),VT]) (B:=[⟨1,none,none,33,4,Vq N (q),VT⟩,⟨2,none,some 2,31,2,Vz N (qd (q)),VT⟩]) (SL':=[(7,Vb (decide (q.den=1)))]) st2 ⟨ks,ks,ks,trivial⟩ ?_
  intro a3 w3 st3
  clear st2
  repeat first|refine Wq ?_|refine Wb ?_|refine Wk ?_|refine Wx ?_
  obtain⟨g,cs,r1,r2,r3,r4,r5⟩:=st3.res ⟨2,none,none,31,2,Vz N (qd (q)),VT⟩ (.tail _ (.head _)) rfl rfl
  exact wp_ret (bodyPost_ret (results_cell_row rfl _ _ g 31 cs (0,0) _ r1 r2 Tryz.underlying31 rfl (by rw [r3];exact size_Int)) st3.defers ⟨_,rfl,(by rw [show(q.den:Int)=qd q from(if_neg hcc).symm];exact r4),r5⟩)
theorem cQNeg {w:World}{N:Nat}{q:Rat}{v0:Value}(h0:Vq N (q) v0 w)(hN:N≤1000000):Calls Tryz.prog 46 #[v0] w (RV (Vq N (-q)) w):=by
 go_enter Tryz.func46,Tryz.ntmps46
 have st0:St w.heap.size w 9 [] [(0,Vq N (q))] _ w:=St.begin (a:=⟨#[v0,undef,undef,undef,undef,undef,undef,undef,undef],[]⟩) rfl rfl (Lq.2 ⟨⟨_,rfl,h0⟩,(fun _ h=>absurd h (by simp))⟩)
 generalize(⟨_,_⟩:Act)=a0 at st0 ⊢
 repeat first|refine Wq ?_|refine Wb ?_|refine Wk ?_|refine Wx ?_
 refine rg (BT:=[(33,4,0)]) (Vl:=[VT,VT]) (B:=[⟨1,some 0,some 0,33,4,Vq N (q),VT⟩,⟨2,some 1,none,33,4,VT,VT⟩]) (SL':=[]) st0 ⟨ks,ks,trivial⟩ ?_
 intro a1 w1 st1
 clear st0
 repeat first|refine Wq ?_|refine Wb ?_|refine Wk ?_|refine Wx ?_
 refine rg (BT:=[(33,4,0)]) (Vl:=[Vpt a1 1 0,Vz N ((q).num),Vz N (-((q).num)),Vpt a1 1 2,Vz N (qd (q)),VP2 2 2 (Vz N (-((q).num))) (Vz N (qd (q))),VT]) (B:=[⟨1,none,none,33,4,Vq N (q),VT⟩,⟨2,none,some 6,33,4,VP2 2 2 (Vz N (-((q).num))) (Vz N (qd (q))),VT⟩]) (SL':=[]) st1 ⟨ks,ks,?s2,ks,ks,?s5,ks,trivial⟩ ?_
 case s2=>exact kd1 fun _ _ _ _ _ X0=>cNeg X0 (by omega)
 case s5=>refine kr fun _ A Y h D=>?_;obtain⟨v0,x0,X0⟩:=h.dp D 5;obtain⟨v1,x1,X1⟩:=h.dp D 7;exact build_Rat rfl x0 x1 (AggV_Vz _ _) (AggV_Vz _ _) X0 X1
 intro a2 w2 st2
 clear st1
 repeat first|refine Wq ?_|refine Wb ?_|refine Wk ?_|refine Wx ?_
 obtain⟨g,cs,r1,r2,r3,r4,r5⟩:=st2.res ⟨2,none,none,33,4,VP2 2 2 (Vz N (-((q).num))) (Vz N (qd (q))),VT⟩ (.tail _ (.head _)) rfl rfl
 exact wp_ret (bodyPost_ret (results_cell_row rfl _ _ g 33 cs (0,0) _ r1 r2 Tryz.underlying33 rfl (by rw [r3];exact size_Rat)) st2.defers ⟨_,rfl,(show Vq N (-q) _ _ from r4),r5⟩)
theorem cQSign {w:World}{N:Nat}{q:Rat}{v0:Value}(h0:Vq N (q) v0 w)(hN:N≤1000000):Calls Tryz.prog 40 #[v0] w (RV (Vi (cmpI q.num 0)) w):=by
 go_enter Tryz.func40,Tryz.ntmps40
 have st0:St w.heap.size w 6 [] [(0,Vq N (q))] _ w:=St.begin (a:=⟨#[v0,undef,undef,undef,undef,undef],[]⟩) rfl rfl (Lq.2 ⟨⟨_,rfl,h0⟩,(fun _ h=>absurd h (by simp))⟩)
 generalize(⟨_,_⟩:Act)=a0 at st0 ⊢
 repeat first|refine Wq ?_|refine Wb ?_|refine Wk ?_|refine Wx ?_
 refine rg (BT:=[]) (Vl:=[VT,Vi (0)]) (B:=[⟨1,some 0,some 0,33,4,Vq N (q),VT⟩]) (SL':=[(2,Vi (0))]) st0 ⟨ks,ks,trivial⟩ ?_
 intro a1 w1 st1
 clear st0
 repeat first|refine Wq ?_|refine Wb ?_|refine Wk ?_|refine Wx ?_
 refine rg (BT:=[]) (Vl:=[Vpt a1 1 0,Vz N ((q).num),Vi (cmpI ((q).num) 0),Vi (cmpI ((q).num) 0)]) (B:=[⟨1,none,none,33,4,Vq N (q),VT⟩]) (SL':=[(2,Vi (cmpI ((q).num) 0))]) st1 ⟨ks,ks,?s2,ks,trivial⟩ ?_
 case s2=>exact kd1 fun _ _ _ _ _ X0=>cSign X0 (by omega)
 intro a2 w2 st2
 clear st1
 repeat first|refine Wq ?_|refine Wb ?_|refine Wk ?_|refine Wx ?_
 obtain⟨vr,r1,r4⟩:=st2.slot (2,Vi (cmpI ((q).num) 0)) (.head _)
 exact wp_ret (bodyPost_ret (results_tmp rfl _ _ _) st2.defers ⟨_,congrArg Ending.returned (show _=vr from r1),r4,st2.k.below⟩)
theorem cQInv {w:World}{N:Nat}{q:Rat}{v0:Value}(h0:Vq N (q) v0 w)(hN1:1≤N)(hN:N≤1000000)(hq:0<q.num):Calls Tryz.prog 111 #[v0] w (RV (Vq N q⁻¹) w):=by
 go_enter Tryz.func111,Tryz.ntmps111
 have st0:St w.heap.size w 8 [] [(0,Vq N (q))] _ w:=St.begin (a:=⟨#[v0,undef,undef,undef,undef,undef,undef,undef],[]⟩) rfl rfl (Lq.2 ⟨⟨_,rfl,h0⟩,(fun _ h=>absurd h (by simp))⟩)
 generalize(⟨_,_⟩:Act)=a0 at st0 ⊢
 repeat first|refine Wq ?_|refine Wb ?_|refine Wk ?_|refine Wx ?_
 refine rg (BT:=[(33,4,0)]) (Vl:=[VT,VT]) (B:=[⟨1,some 0,some 0,33,4,Vq N (q),VT⟩,⟨2,some 1,none,33,4,VT,VT⟩]) (SL':=[]) st0 ⟨ks,ks,trivial⟩ ?_
 intro a1 w1 st1
 clear st0
 repeat first|refine Wq ?_|refine Wb ?_|refine Wk ?_|refine Wx ?_
 refine rg (BT:=[(33,4,0)]) (Vl:=[Vq N (q),Vz N (((q).den:Int)),Vpt a1 1 0,Vz N ((q).num),Vq N (q⁻¹),VT]) (B:=[⟨1,none,none,33,4,Vq N (q),VT⟩,⟨2,none,some 5,33,4,Vq N (q⁻¹),VT⟩]) (SL':=[]) st1 ⟨ks,?s1,ks,ks,?s4,ks,trivial⟩ ?_
 case s1=>exact kd1 fun _ _ _ _ _ X0=>cDen X0 (by omega)
 case s4=>exact kd2 fun _ _ _ _ _ X0 _ X1=>cMade (r:=q⁻¹) (Vz_le (M:=N) X0 (by omega)) (Vz_le (M:=N) X1 (by omega)) (inv_low hq)
 intro a2 w2 st2
 clear st1
 repeat first|refine Wq ?_|refine Wb ?_|refine Wk ?_|refine Wx ?_
 obtain⟨g,cs,r1,r2,r3,r4,r5⟩:=st2.res ⟨2,none,none,33,4,Vq N (q⁻¹),VT⟩ (.tail _ (.head _)) rfl rfl
 exact wp_ret (bodyPost_ret (results_cell_row rfl _ _ g 33 cs (0,0) _ r1 r2 Tryz.underlying33 rfl (by rw [r3];exact size_Rat)) st2.defers ⟨_,rfl,r4,r5⟩)
theorem cQMul {w:World}{Na Nb:Nat}{a b:Rat}{v0 v1:Value}(h0:Vq Na (a) v0 w)(h1:Vq Nb (b) v1 w)(h1a:1≤Na)(h1b:1≤Nb)(hNa:Na≤100000)(hNb:Nb≤100000):Calls Tryz.prog 97 #[v0,v1] w (RV (Vq (Na+Nb) (a*b)) w):=by
 go_enter Tryz.func97,Tryz.ntmps97
 have st0:St w.heap.size w 38 [] [(0,Vq Na (a)),(1,Vq Nb (b))] _ w:=St.begin (a:=⟨#[v0,v1,undef,undef,undef,undef,undef,undef,undef,undef,undef,undef,undef,undef,undef,undef,undef,undef,undef,undef,undef,undef,undef,undef,undef,undef,undef,undef,undef,undef,undef,undef,undef,undef,undef,undef,undef,undef],[]⟩) rfl rfl (Lq.2 ⟨⟨_,rfl,h0⟩,(Lq.2 ⟨⟨_,rfl,h1⟩,(fun _ h=>absurd h (by simp))⟩)⟩)
 generalize(⟨_,_⟩:Act)=a0 at st0 ⊢
 repeat first|refine Wq ?_|refine Wb ?_|refine Wk ?_|refine Wx ?_
 refine rg (BT:=[(31,2,0),(33,4,0)]) (Vl:=[VT,VT,VT]) (B:=[⟨2,some 0,some 0,33,4,Vq Na (a),VT⟩,⟨3,some 1,some 1,33,4,Vq Nb (b),VT⟩,⟨4,some 2,none,33,4,VT,VT⟩]) (SL':=[]) st0 ⟨ks,ks,ks,trivial⟩ ?_
 intro a1 w1 st1
 clear st0
 repeat first|refine Wq ?_|refine Wb ?_|refine Wk ?_|refine Wx ?_
 refine rg (BT:=[(31,2,0),(33,4,0)]) (Vl:=[Vpt a1 2 0,Vz Na ((a).num),Vq Nb (b),Vz Nb (((b).den:Int)),Vz (max Na Nb) ((Int.gcd ((a).num) (((b).den:Int)):Int)),Vpt a1 3 0,Vz Nb ((b).num),Vq Na (a),Vz Na (((a).den:Int)),Vz (max Nb Na) ((Int.gcd ((b).num) (((a).den:Int)):Int)),VT,VT,VT,VT]) (B:=[⟨2,none,none,33,4,Vq Na (a),VT⟩,⟨3,none,none,33,4,Vq Nb (b),VT⟩,⟨4,none,none,33,4,VT,VT⟩,⟨5,some 10,some 12,31,2,Vz (max Na Nb) ((Int.gcd ((a).num) (((b).den:Int)):Int)),VT⟩,⟨6,some 11,some 13,31,2,Vz (max Nb Na) ((Int.gcd ((b).num) (((a).den:Int)):Int)),VT⟩]) (SL':=[]) st1 ⟨ks,ks,ks,?s3,?s4,ks,ks,ks,?s8,?s9,ks,ks,ks,ks,trivial⟩ ?_
 case s3=>exact kd1 fun _ _ _ _ _ X0=>cDen X0 (by omega)
 case s4=>exact kd2 fun _ _ _ _ _ X0 _ X1=>(cGcd X0 X1 (by omega) (by omega))
 case s8=>exact kd1 fun _ _ _ _ _ X0=>cDen X0 (by omega)
 case s9=>exact kd2 fun _ _ _ _ _ X0 _ X1=>(cGcd X0 X1 (by omega) (by omega))
 intro a2 w2 st2
 clear st1
 repeat first|refine Wq ?_|refine Wb ?_|refine Wk ?_|refine Wx ?_
 refine rg (BT:=[(31,2,0),(33,4,0)]) (Vl:=[Vpt a2 2 0,Vz Na ((a).num),Vz (max Na Nb) ((Int.gcd ((a).num) (((b).den:Int)):Int)),Vz Na (((a).num) / ((Int.gcd ((a).num) (((b).den:Int)):Int))),Vpt a2 3 0,Vz Nb ((b).num),Vz (max Nb Na) ((Int.gcd ((b).num) (((a).den:Int)):Int)),Vz Nb (((b).num) / ((Int.gcd ((b).num) (((a).den:Int)):Int))),Vz (Na+Nb) ((((a).num) / ((Int.gcd ((a).num) (((b).den:Int)):Int)))*(((b).num) / ((Int.gcd ((b).num) (((a).den:Int)):Int)))),VT,VT]) (B:=[⟨2,none,none,33,4,Vq Na (a),VT⟩,⟨3,none,none,33,4,Vq Nb (b),VT⟩,⟨4,none,none,33,4,VT,VT⟩,⟨5,none,none,31,2,Vz (max Na Nb) ((Int.gcd ((a).num) (((b).den:Int)):Int)),VT⟩,⟨6,none,none,31,2,Vz (max Nb Na) ((Int.gcd ((b).num) (((a).den:Int)):Int)),VT⟩,⟨7,some 9,some 10,31,2,Vz (Na+Nb) ((((a).num) / ((Int.gcd ((a).num) (((b).den:Int)):Int)))*(((b).num) / ((Int.gcd ((b).num) (((a).den:Int)):Int)))),VT⟩]) (SL':=[]) st2 ⟨ks,ks,ks,?s3,ks,ks,ks,?s7,?s8,ks,ks,trivial⟩ ?_
 case s3=>exact kd2 fun _ _ _ _ _ X0 _ X1=>cPart X0 X1 (by first|exact gcd_den_ne _ _|exact gcd_den_ne' _ _|exact gcd_gcd_ne _ _ _) (by omega) (by omega)
 case s7=>exact kd2 fun _ _ _ _ _ X0 _ X1=>cPart X0 X1 (by first|exact gcd_den_ne _ _|exact gcd_den_ne' _ _|exact gcd_gcd_ne _ _ _) (by omega) (by omega)
 case s8=>exact kd2 fun _ _ _ _ _ X0 _ X1=>(cMul X0 X1 (by omega) (by omega))
 intro a3 w3 st3
 clear st2
 repeat first|refine Wq ?_|refine Wb ?_|refine Wk ?_|refine Wx ?_
 refine rg (BT:=[(31,2,0),(33,4,0)]) (Vl:=[Vz (Na+Nb) ((((a).num) / ((Int.gcd ((a).num) (((b).den:Int)):Int)))*(((b).num) / ((Int.gcd ((b).num) (((a).den:Int)):Int)))),Vq Na (a),Vz Na (((a).den:Int)),Vz (max Nb Na) ((Int.gcd ((b).num) (((a).den:Int)):Int)),Vz Na ((((a).den:Int)) / ((Int.gcd ((b).num) (((a).den:Int)):Int))),Vq Nb (b),Vz Nb (((b).den:Int)),Vz (max Na Nb) ((Int.gcd ((a).num) (((b).den:Int)):Int)),Vz Nb ((((b).den:Int)) / ((Int.gcd ((a).num) (((b).den:Int)):Int))),Vz (Na+Nb) (((((a).den:Int)) / ((Int.gcd ((b).num) (((a).den:Int)):Int)))*((((b).den:Int)) / ((Int.gcd ((a).num) (((b).den:Int)):Int)))),Vq (Na+Nb) (a*b),VT]) (B:=[⟨2,none,none,33,4,Vq Na (a),VT⟩,⟨3,none,none,33,4,Vq Nb (b),VT⟩,⟨4,none,some 11,33,4,Vq (Na+Nb) (a*b),VT⟩,⟨5,none,none,31,2,Vz (max Na Nb) ((Int.gcd ((a).num) (((b).den:Int)):Int)),VT⟩,⟨6,none,none,31,2,Vz (max Nb Na) ((Int.gcd ((b).num) (((a).den:Int)):Int)),VT⟩,⟨7,none,none,31,2,Vz (Na+Nb) ((((a).num) / ((Int.gcd ((a).num) (((b).den:Int)):Int)))*(((b).num) / ((Int.gcd ((b).num) (((a).den:Int)):Int)))),VT⟩]) (SL':=[]) st3 ⟨ks,ks,?s2,ks,?s4,ks,?s6,ks,?s8,?s9,?s10,ks,trivial⟩ ?_
 case s2=>exact kd1 fun _ _ _ _ _ X0=>cDen X0 (by omega)
 case s4=>exact kd2 fun _ _ _ _ _ X0 _ X1=>cPart X0 X1 (by first|exact gcd_den_ne _ _|exact gcd_den_ne' _ _|exact gcd_gcd_ne _ _ _) (by omega) (by omega)
 case s6=>exact kd1 fun _ _ _ _ _ X0=>cDen X0 (by omega)
 case s8=>exact kd2 fun _ _ _ _ _ X0 _ X1=>cPart X0 X1 (by first|exact gcd_den_ne _ _|exact gcd_den_ne' _ _|exact gcd_gcd_ne _ _ _) (by omega) (by omega)
 case s9=>exact kd2 fun _ _ _ _ _ X0 _ X1=>(cMul X0 X1 (by omega) (by omega))
 case s10=>exact kd2 fun _ _ _ _ _ X0 _ X1=>cMade (r:=a*b) (Vz_le (M:=(Na+Nb)) X0 (by omega)) (Vz_le (M:=(Na+Nb)) X1 (by omega)) (mul_low a b _ _ rfl rfl)
 intro a4 w4 st4
 clear st3
 repeat first|refine Wq ?_|refine Wb ?_|refine Wk ?_|refine Wx ?_
 obtain⟨g,cs,r1,r2,r3,r4,r5⟩:=st4.res ⟨4,none,none,33,4,Vq (Na+Nb) (a*b),VT⟩ (.tail _ (.tail _ (.head _))) rfl rfl
 exact wp_ret (bodyPost_ret (results_cell_row rfl _ _ g 33 cs (0,0) _ r1 r2 Tryz.underlying33 rfl (by rw [r3];exact size_Rat)) st4.defers ⟨_,rfl,Vq_le r4 (by omega),r5⟩)
theorem cQAdd {w:World}{Na Nb:Nat}{a b:Rat}{v0 v1:Value}(h0:Vq Na (a) v0 w)(h1:Vq Nb (b) v1 w)(h1a:1≤Na)(h1b:1≤Nb)(hNa:Na≤100000)(hNb:Nb≤100000):Calls Tryz.prog 43 #[v0,v1] w (RV (Vq (Na+Nb+1) (a+b)) w):=by
 go_enter Tryz.func43,Tryz.ntmps43
 have st0:St w.heap.size w 45 [] [(0,Vq Na (a)),(1,Vq Nb (b))] _ w:=St.begin (a:=⟨#[v0,v1,undef,undef,undef,undef,undef,undef,undef,undef,undef,undef,undef,undef,undef,undef,undef,undef,undef,undef,undef,undef,undef,undef,undef,undef,undef,undef,undef,undef,undef,undef,undef,undef,undef,undef,undef,undef,undef,undef,undef,undef,undef,undef,undef],[]⟩) rfl rfl (Lq.2 ⟨⟨_,rfl,h0⟩,(Lq.2 ⟨⟨_,rfl,h1⟩,(fun _ h=>absurd h (by simp))⟩)⟩)
 generalize(⟨_,_⟩:Act)=a0 at st0 ⊢
 repeat first|refine Wq ?_|refine Wb ?_|refine Wk ?_|refine Wx ?_
 refine rg (BT:=[(31,2,0),(33,4,0)]) (Vl:=[VT,VT,VT]) (B:=[⟨2,some 0,some 0,33,4,Vq Na (a),VT⟩,⟨3,some 1,some 1,33,4,Vq Nb (b),VT⟩,⟨4,some 2,none,33,4,VT,VT⟩]) (SL':=[]) st0 ⟨ks,ks,ks,trivial⟩ ?_
 intro a1 w1 st1
 clear st0
 repeat first|refine Wq ?_|refine Wb ?_|refine Wk ?_|refine Wx ?_
 refine rg (BT:=[(31,2,0),(33,4,0)]) (Vl:=[Vq Na (a),Vz Na (((a).den:Int)),Vq Nb (b),Vz Nb (((b).den:Int)),Vz (max Na Nb) ((Int.gcd (((a).den:Int)) (((b).den:Int)):Int)),VT,VT]) (B:=[⟨2,none,none,33,4,Vq Na (a),VT⟩,⟨3,none,none,33,4,Vq Nb (b),VT⟩,⟨4,none,none,33,4,VT,VT⟩,⟨5,some 5,some 6,31,2,Vz (max Na Nb) ((Int.gcd (((a).den:Int)) (((b).den:Int)):Int)),VT⟩]) (SL':=[]) st1 ⟨ks,?s1,ks,?s3,?s4,ks,ks,trivial⟩ ?_
 case s1=>exact kd1 fun _ _ _ _ _ X0=>cDen X0 (by omega)
 case s3=>exact kd1 fun _ _ _ _ _ X0=>cDen X0 (by omega)
 case s4=>exact kd2 fun _ _ _ _ _ X0 _ X1=>(cGcd X0 X1 (by omega) (by omega))
 intro a2 w2 st2
 clear st1
 repeat first|refine Wq ?_|refine Wb ?_|refine Wk ?_|refine Wx ?_
 refine rg (BT:=[(31,2,0),(33,4,0)]) (Vl:=[Vq Na (a),Vz Na (((a).den:Int)),Vz (max Na Nb) ((Int.gcd (((a).den:Int)) (((b).den:Int)):Int)),Vz Na ((((a).den:Int)) / ((Int.gcd (((a).den:Int)) (((b).den:Int)):Int))),Vq Nb (b),Vz Nb (((b).den:Int)),Vz (max Na Nb) ((Int.gcd (((a).den:Int)) (((b).den:Int)):Int)),Vz Nb ((((b).den:Int)) / ((Int.gcd (((a).den:Int)) (((b).den:Int)):Int))),VT,VT,VT,VT]) (B:=[⟨2,none,none,33,4,Vq Na (a),VT⟩,⟨3,none,none,33,4,Vq Nb (b),VT⟩,⟨4,none,none,33,4,VT,VT⟩,⟨5,none,none,31,2,Vz (max Na Nb) ((Int.gcd (((a).den:Int)) (((b).den:Int)):Int)),VT⟩,⟨6,some 8,some 10,31,2,Vz Na ((((a).den:Int)) / ((Int.gcd (((a).den:Int)) (((b).den:Int)):Int))),VT⟩,⟨7,some 9,some 11,31,2,Vz Nb ((((b).den:Int)) / ((Int.gcd (((a).den:Int)) (((b).den:Int)):Int))),VT⟩]) (SL':=[]) st2 ⟨ks,?s1,ks,?s3,ks,?s5,ks,?s7,ks,ks,ks,ks,trivial⟩ ?_
 case s1=>exact kd1 fun _ _ _ _ _ X0=>cDen X0 (by omega)
 case s3=>exact kd2 fun _ _ _ _ _ X0 _ X1=>cPart X0 X1 (by first|exact gcd_den_ne _ _|exact gcd_den_ne' _ _|exact gcd_gcd_ne _ _ _) (by omega) (by omega)
 case s5=>exact kd1 fun _ _ _ _ _ X0=>cDen X0 (by omega)
 case s7=>exact kd2 fun _ _ _ _ _ X0 _ X1=>cPart X0 X1 (by first|exact gcd_den_ne _ _|exact gcd_den_ne' _ _|exact gcd_gcd_ne _ _ _) (by omega) (by omega)
 intro a3 w3 st3
 clear st2
 repeat first|refine Wq ?_|refine Wb ?_|refine Wk ?_|refine Wx ?_
 refine rg (BT:=[(31,2,0),(33,4,0)]) (Vl:=[Vpt a3 2 0,Vz Na ((a).num),Vz Nb ((((b).den:Int)) / ((Int.gcd (((a).den:Int)) (((b).den:Int)):Int))),Vz (Na+Nb) (((a).num)*((((b).den:Int)) / ((Int.gcd (((a).den:Int)) (((b).den:Int)):Int)))),Vpt a3 3 0,Vz Nb ((b).num),Vz Na ((((a).den:Int)) / ((Int.gcd (((a).den:Int)) (((b).den:Int)):Int))),Vz (Nb+Na) (((b).num)*((((a).den:Int)) / ((Int.gcd (((a).den:Int)) (((b).den:Int)):Int)))),Vz (max (Na+Nb) (Nb+Na)+1) ((((a).num)*((((b).den:Int)) / ((Int.gcd (((a).den:Int)) (((b).den:Int)):Int))))+(((b).num)*((((a).den:Int)) / ((Int.gcd (((a).den:Int)) (((b).den:Int)):Int))))),VT,VT]) (B:=[⟨2,none,none,33,4,Vq Na (a),VT⟩,⟨3,none,none,33,4,Vq Nb (b),VT⟩,⟨4,none,none,33,4,VT,VT⟩,⟨5,none,none,31,2,Vz (max Na Nb) ((Int.gcd (((a).den:Int)) (((b).den:Int)):Int)),VT⟩,⟨6,none,none,31,2,Vz Na ((((a).den:Int)) / ((Int.gcd (((a).den:Int)) (((b).den:Int)):Int))),VT⟩,⟨7,none,none,31,2,Vz Nb ((((b).den:Int)) / ((Int.gcd (((a).den:Int)) (((b).den:Int)):Int))),VT⟩,⟨8,some 9,some 10,31,2,Vz (max (Na+Nb) (Nb+Na)+1) ((((a).num)*((((b).den:Int)) / ((Int.gcd (((a).den:Int)) (((b).den:Int)):Int))))+(((b).num)*((((a).den:Int)) / ((Int.gcd (((a).den:Int)) (((b).den:Int)):Int))))),VT⟩]) (SL':=[]) st3 ⟨ks,ks,ks,?s3,ks,ks,ks,?s7,?s8,ks,ks,trivial⟩ ?_
 case s3=>exact kd2 fun _ _ _ _ _ X0 _ X1=>(cMul X0 X1 (by omega) (by omega))
 case s7=>exact kd2 fun _ _ _ _ _ X0 _ X1=>(cMul X0 X1 (by omega) (by omega))
 case s8=>exact kd2 fun _ _ _ _ _ X0 _ X1=>(cAdd X0 X1 (by omega) (by omega))
 intro a4 w4 st4
 clear st3
 repeat first|refine Wq ?_|refine Wb ?_|refine Wk ?_|refine Wx ?_
 refine rg (BT:=[(31,2,0),(33,4,0)]) (Vl:=[Vz (max (Na+Nb) (Nb+Na)+1) ((((a).num)*((((b).den:Int)) / ((Int.gcd (((a).den:Int)) (((b).den:Int)):Int))))+(((b).num)*((((a).den:Int)) / ((Int.gcd (((a).den:Int)) (((b).den:Int)):Int))))),Vz (max Na Nb) ((Int.gcd (((a).den:Int)) (((b).den:Int)):Int)),Vz (max (max (Na+Nb) (Nb+Na)+1) (max Na Nb)) ((Int.gcd ((((a).num)*((((b).den:Int)) / ((Int.gcd (((a).den:Int)) (((b).den:Int)):Int))))+(((b).num)*((((a).den:Int)) / ((Int.gcd (((a).den:Int)) (((b).den:Int)):Int))))) ((Int.gcd (((a).den:Int)) (((b).den:Int)):Int)):Int)),VT,VT]) (B:=[⟨2,none,none,33,4,Vq Na (a),VT⟩,⟨3,none,none,33,4,Vq Nb (b),VT⟩,⟨4,none,none,33,4,VT,VT⟩,⟨5,none,none,31,2,Vz (max Na Nb) ((Int.gcd (((a).den:Int)) (((b).den:Int)):Int)),VT⟩,⟨6,none,none,31,2,Vz Na ((((a).den:Int)) / ((Int.gcd (((a).den:Int)) (((b).den:Int)):Int))),VT⟩,⟨7,none,none,31,2,Vz Nb ((((b).den:Int)) / ((Int.gcd (((a).den:Int)) (((b).den:Int)):Int))),VT⟩,⟨8,none,none,31,2,Vz (max (Na+Nb) (Nb+Na)+1) ((((a).num)*((((b).den:Int)) / ((Int.gcd (((a).den:Int)) (((b).den:Int)):Int))))+(((b).num)*((((a).den:Int)) / ((Int.gcd (((a).den:Int)) (((b).den:Int)):Int))))),VT⟩,⟨9,some 3,some 4,31,2,Vz (max (max (Na+Nb) (Nb+Na)+1) (max Na Nb)) ((Int.gcd ((((a).num)*((((b).den:Int)) / ((Int.gcd (((a).den:Int)) (((b).den:Int)):Int))))+(((b).num)*((((a).den:Int)) / ((Int.gcd (((a).den:Int)) (((b).den:Int)):Int))))) ((Int.gcd (((a).den:Int)) (((b).den:Int)):Int)):Int)),VT⟩]) (SL':=[]) st4 ⟨ks,ks,?s2,ks,ks,trivial⟩ ?_
 case s2=>exact kd2 fun _ _ _ _ _ X0 _ X1=>(cGcd X0 X1 (by omega) (by omega))
 intro a5 w5 st5
 clear st4
 repeat first|refine Wq ?_|refine Wb ?_|refine Wk ?_|refine Wx ?_
 refine rg (BT:=[(31,2,0),(33,4,0)]) (Vl:=[Vz (max (Na+Nb) (Nb+Na)+1) ((((a).num)*((((b).den:Int)) / ((Int.gcd (((a).den:Int)) (((b).den:Int)):Int))))+(((b).num)*((((a).den:Int)) / ((Int.gcd (((a).den:Int)) (((b).den:Int)):Int))))),Vz (max (max (Na+Nb) (Nb+Na)+1) (max Na Nb)) ((Int.gcd ((((a).num)*((((b).den:Int)) / ((Int.gcd (((a).den:Int)) (((b).den:Int)):Int))))+(((b).num)*((((a).den:Int)) / ((Int.gcd (((a).den:Int)) (((b).den:Int)):Int))))) ((Int.gcd (((a).den:Int)) (((b).den:Int)):Int)):Int)),Vz (max (Na+Nb) (Nb+Na)+1) (((((a).num)*((((b).den:Int)) / ((Int.gcd (((a).den:Int)) (((b).den:Int)):Int))))+(((b).num)*((((a).den:Int)) / ((Int.gcd (((a).den:Int)) (((b).den:Int)):Int))))) / ((Int.gcd ((((a).num)*((((b).den:Int)) / ((Int.gcd (((a).den:Int)) (((b).den:Int)):Int))))+(((b).num)*((((a).den:Int)) / ((Int.gcd (((a).den:Int)) (((b).den:Int)):Int))))) ((Int.gcd (((a).den:Int)) (((b).den:Int)):Int)):Int))),Vz Na ((((a).den:Int)) / ((Int.gcd (((a).den:Int)) (((b).den:Int)):Int))),Vq Nb (b),Vz Nb (((b).den:Int)),Vz (max (max (Na+Nb) (Nb+Na)+1) (max Na Nb)) ((Int.gcd ((((a).num)*((((b).den:Int)) / ((Int.gcd (((a).den:Int)) (((b).den:Int)):Int))))+(((b).num)*((((a).den:Int)) / ((Int.gcd (((a).den:Int)) (((b).den:Int)):Int))))) ((Int.gcd (((a).den:Int)) (((b).den:Int)):Int)):Int)),Vz Nb ((((b).den:Int)) / ((Int.gcd ((((a).num)*((((b).den:Int)) / ((Int.gcd (((a).den:Int)) (((b).den:Int)):Int))))+(((b).num)*((((a).den:Int)) / ((Int.gcd (((a).den:Int)) (((b).den:Int)):Int))))) ((Int.gcd (((a).den:Int)) (((b).den:Int)):Int)):Int))),Vz (Na+Nb) (((((a).den:Int)) / ((Int.gcd (((a).den:Int)) (((b).den:Int)):Int)))*((((b).den:Int)) / ((Int.gcd ((((a).num)*((((b).den:Int)) / ((Int.gcd (((a).den:Int)) (((b).den:Int)):Int))))+(((b).num)*((((a).den:Int)) / ((Int.gcd (((a).den:Int)) (((b).den:Int)):Int))))) ((Int.gcd (((a).den:Int)) (((b).den:Int)):Int)):Int)))),Vq (max (max (Na+Nb) (Nb+Na)+1) (Na+Nb)) (a+b),VT]) (B:=[⟨2,none,none,33,4,Vq Na (a),VT⟩,⟨3,none,none,33,4,Vq Nb (b),VT⟩,⟨4,none,some 10,33,4,Vq (max (max (Na+Nb) (Nb+Na)+1) (Na+Nb)) (a+b),VT⟩,⟨5,none,none,31,2,Vz (max Na Nb) ((Int.gcd (((a).den:Int)) (((b).den:Int)):Int)),VT⟩,⟨6,none,none,31,2,Vz Na ((((a).den:Int)) / ((Int.gcd (((a).den:Int)) (((b).den:Int)):Int))),VT⟩,⟨7,none,none,31,2,Vz Nb ((((b).den:Int)) / ((Int.gcd (((a).den:Int)) (((b).den:Int)):Int))),VT⟩,⟨8,none,none,31,2,Vz (max (Na+Nb) (Nb+Na)+1) ((((a).num)*((((b).den:Int)) / ((Int.gcd (((a).den:Int)) (((b).den:Int)):Int))))+(((b).num)*((((a).den:Int)) / ((Int.gcd (((a).den:Int)) (((b).den:Int)):Int))))),VT⟩,⟨9,none,none,31,2,Vz (max (max (Na+Nb) (Nb+Na)+1) (max Na Nb)) ((Int.gcd ((((a).num)*((((b).den:Int)) / ((Int.gcd (((a).den:Int)) (((b).den:Int)):Int))))+(((b).num)*((((a).den:Int)) / ((Int.gcd (((a).den:Int)) (((b).den:Int)):Int))))) ((Int.gcd (((a).den:Int)) (((b).den:Int)):Int)):Int)),VT⟩]) (SL':=[]) st5 ⟨ks,ks,?s2,ks,ks,?s5,ks,?s7,?s8,?s9,ks,trivial⟩ ?_
 case s2=>exact kd2 fun _ _ _ _ _ X0 _ X1=>cPart X0 X1 (by first|exact gcd_den_ne _ _|exact gcd_den_ne' _ _|exact gcd_gcd_ne _ _ _) (by omega) (by omega)
 case s5=>exact kd1 fun _ _ _ _ _ X0=>cDen X0 (by omega)
 case s7=>exact kd2 fun _ _ _ _ _ X0 _ X1=>cPart X0 X1 (by first|exact gcd_den_ne _ _|exact gcd_den_ne' _ _|exact gcd_gcd_ne _ _ _) (by omega) (by omega)
 case s8=>exact kd2 fun _ _ _ _ _ X0 _ X1=>(cMul X0 X1 (by omega) (by omega))
 case s9=>exact kd2 fun _ _ _ _ _ X0 _ X1=>cMade (r:=a+b) (Vz_le (M:=(max (max (Na+Nb) (Nb+Na)+1) (Na+Nb))) X0 (by omega)) (Vz_le (M:=(max (max (Na+Nb) (Nb+Na)+1) (Na+Nb))) X1 (by omega)) (add_low a b _ _ _ _ rfl rfl rfl rfl)
 intro a6 w6 st6
 clear st5
 repeat first|refine Wq ?_|refine Wb ?_|refine Wk ?_|refine Wx ?_
 obtain⟨g,cs,r1,r2,r3,r4,r5⟩:=st6.res ⟨4,none,none,33,4,Vq (max (max (Na+Nb) (Nb+Na)+1) (Na+Nb)) (a+b),VT⟩ (.tail _ (.tail _ (.head _))) rfl rfl
 exact wp_ret (bodyPost_ret (results_cell_row rfl _ _ g 33 cs (0,0) _ r1 r2 Tryz.underlying33 rfl (by rw [r3];exact size_Rat)) st6.defers ⟨_,rfl,(Vq_le r4 (by omega)),r5⟩)
end Go.Proofs.YtjdkdjobaabdiaaGreat
