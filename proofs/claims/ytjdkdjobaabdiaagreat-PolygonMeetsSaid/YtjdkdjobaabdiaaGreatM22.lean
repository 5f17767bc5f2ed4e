/- Contracts of the packages integer, rat, plane, polygon and their references. -/
import Derived.Test.YtjdkdjobaabdiaaGreatM21
import Derived.Test.YtjdkdjobaabdiaaGreatM15
set_option linter.unusedVariables false
set_option maxRecDepth 100000
set_option maxHeartbeats 6400000
namespace Go.Proofs.YtjdkdjobaabdiaaGreat
open Go.RowKit
theorem add_mk (a b:Rat):Rat.divInt (a.num*(b.den:Int)+b.num*(a.den:Int)) ((a.den:Int)*(b.den:Int))=a+b:=by
 have h1:=a.den_pos
 have h2:=b.den_pos
 have:=Rat.divInt_add_divInt a.num b.num (d₁:=(a.den:Int)) (d₂:=(b.den:Int)) (by omega) (by omega)
 rw [Rat.num_divInt_den,Rat.num_divInt_den] at this
 exact this.symm
theorem mul_mk (a b:Rat):Rat.divInt (a.num*b.num) ((a.den:Int)*(b.den:Int))=a*b:=by
 have:=Rat.divInt_mul_divInt a.num b.num (d₁:=(a.den:Int)) (d₂:=(b.den:Int))
 rw [Rat.num_divInt_den,Rat.num_divInt_den] at this
 exact this.symm
theorem cR4Neg {w:World}{N:Nat}{q:Rat}{v0:Value}(h0:Vq N (q) v0 w)(hN:N≤1000000):Calls Tryz.prog 117 #[v0] w (RV (Vq N (-q)) w):=by
 go_enter Tryz.func117,Tryz.ntmps117
 have st0:St w.heap.size w 9 [] [(0,Vq N (q))] _ w:=St.begin (a:=⟨#[v0,undef,undef,undef,undef,undef,undef,undef,undef],[]⟩) rfl rfl (Lq.2 ⟨⟨_,rfl,h0⟩,(fun _ h=>absurd h (by simp))⟩)
 generalize(⟨_,_⟩:Act)=a0 at st0 ⊢
 repeat first|refine Wq ?_|refine Wb ?_|refine Wk ?_|refine Wx ?_
 refine rg (BT:=[(33,4,0)]) (Vl:=[VT,VT]) (B:=[⟨1,some 0,some 0,33,4,Vq N (q),VT⟩,⟨2,some 1,none,33,4,VT,VT⟩]) (SL':=[]) st0 ⟨ks,ks,trivial⟩ ?_
 intro a1 w1 st1
 clear st0
 repeat first|refine Wq ?_|refine Wb ?_|refine Wk ?_|refine Wx ?_
 refine rg (BT:=[(33,4,0)]) (Vl:=[Vpt a1 1 0,Vz N ((q).num),Vz N (-((q).num)),Vpt a1 1 2,Vz N (qd (q)),VP2 2 2 (Vz N (-((q).num))) (Vz N (qd (q))),VT]) (B:=[⟨1,none,none,33,4,Vq N (q),VT⟩,⟨2,none,some 6,33,4,VP2 2 2 (Vz N (-((q).num))) (Vz N (qd (q))),VT⟩]) (SL':=[]) st1 ⟨ks,ks,?s2,ks,ks,?s5,ks,trivial⟩ ?_
 case s2=>exact kd1 fun _ _ _ _ _ X0=>cRNeg X0
 case s5=>refine kr fun _ A Y h D=>?_;obtain⟨v0,x0,X0⟩:=h.dp D 5;obtain⟨v1,x1,X1⟩:=h.dp D 7;exact build_Rat rfl x0 x1 (AggV_Vz _ _) (AggV_Vz _ _) X0 X1
 intro a2 w2 st2
 clear st1
 repeat first|refine Wq ?_|refine Wb ?_|refine Wk ?_|refine Wx ?_
 obtain⟨g,cs,r1,r2,r3,r4,r5⟩:=st2.res ⟨2,none,none,33,4,VP2 2 2 (Vz N (-((q).num))) (Vz N (qd (q))),VT⟩ (.tail _ (.head _)) rfl rfl
 exact wp_ret (bodyPost_ret (results_cell_row rfl _ _ g 33 cs (0,0) _ r1 r2 Tryz.underlying33 rfl (by rw [r3];exact size_Rat)) st2.defers ⟨_,rfl,(show Vq N (-q) _ _ from r4),r5⟩)
theorem cR4Sign {w:World}{N:Nat}{q:Rat}{v0:Value}(h0:Vq N (q) v0 w)(hN:N≤1000000):Calls Tryz.prog 58 #[v0] w (RV (Vi (cmpI q.num 0)) w):=by
 go_enter Tryz.func58,Tryz.ntmps58
 have st0:St w.heap.size w 6 [] [(0,Vq N (q))] _ w:=St.begin (a:=⟨#[v0,undef,undef,undef,undef,undef],[]⟩) rfl rfl (Lq.2 ⟨⟨_,rfl,h0⟩,(fun _ h=>absurd h (by simp))⟩)
 generalize(⟨_,_⟩:Act)=a0 at st0 ⊢
 repeat first|refine Wq ?_|refine Wb ?_|refine Wk ?_|refine Wx ?_
 refine rg (BT:=[]) (Vl:=[VT,Vi (0)]) (B:=[⟨1,some 0,some 0,33,4,Vq N (q),VT⟩]) (SL':=[(2,Vi (0))]) st0 ⟨ks,ks,trivial⟩ ?_
 intro a1 w1 st1
 clear st0
 repeat first|refine Wq ?_|refine Wb ?_|refine Wk ?_|refine Wx ?_
 refine rg (BT:=[]) (Vl:=[Vpt a1 1 0,Vz N ((q).num),Vi (cmpI ((q).num) 0),Vi (cmpI ((q).num) 0)]) (B:=[⟨1,none,none,33,4,Vq N (q),VT⟩]) (SL':=[(2,Vi (cmpI ((q).num) 0))]) st1 ⟨ks,ks,?s2,ks,trivial⟩ ?_
 case s2=>exact kd1 fun _ _ _ _ _ X0=>cRSign X0 (by omega)
 intro a2 w2 st2
 clear st1
 repeat first|refine Wq ?_|refine Wb ?_|refine Wk ?_|refine Wx ?_
 obtain⟨vr,r1,r4⟩:=st2.slot (2,Vi (cmpI ((q).num) 0)) (.head _)
 exact wp_ret (bodyPost_ret (results_tmp rfl _ _ _) st2.defers ⟨_,congrArg Ending.returned (show _=vr from r1),r4,st2.k.below⟩)
theorem cR4Of {w:World}{p q:Int}{v0 v1:Value}(h0:Vi (p) v0 w)(h1:Vi (q) v1 w)(hp0: -9223372036854775808≤p)(hp1:p≤9223372036854775807)(hq0: -9223372036854775808≤q)(hq1:q≤9223372036854775807):Calls Tryz.prog 52 #[v0,v1] w (RV (Vq 3 (Rat.divInt p q)) w):=by
 go_enter Tryz.func52,Tryz.ntmps52
 have st0:St w.heap.size w 10 [] [(0,Vi (p)),(1,Vi (q))] _ w:=St.begin (a:=⟨#[v0,v1,undef,undef,undef,undef,undef,undef,undef,undef],[]⟩) rfl rfl (Lq.2 ⟨⟨_,rfl,h0⟩,(Lq.2 ⟨⟨_,rfl,h1⟩,(fun _ h=>absurd h (by simp))⟩)⟩)
 generalize(⟨_,_⟩:Act)=a0 at st0 ⊢
 repeat first|refine Wq ?_|refine Wb ?_|refine Wk ?_|refine Wx ?_
 refine rg (BT:=[(33,4,0)]) (Vl:=[VT]) (B:=[⟨4,some 0,none,33,4,VT,VT⟩]) (SL':=[(0,Vi (p)),(1,Vi (q))]) st0 ⟨ks,trivial⟩ ?_
 intro a1 w1 st1
 clear st0
 repeat first|refine Wq ?_|refine Wb ?_|refine Wk ?_|refine Wx ?_
 refine rg (BT:=[(33,4,0)]) (Vl:=[Vi (p),Vz 3 (p),Vi (q),Vz 3 (q),Vq 3 (Rat.divInt (p) (q)),VT]) (B:=[⟨4,none,some 5,33,4,Vq 3 (Rat.divInt (p) (q)),VT⟩]) (SL':=[]) st1 ⟨ks,?s1,ks,?s3,?s4,ks,trivial⟩ ?_
 case s1=>exact kd1 fun _ _ _ _ _ X0=>cROfV X0 (by omega) (by omega)
 case s3=>exact kd1 fun _ _ _ _ _ X0=>cROfV X0 (by omega) (by omega)
 case s4=>exact kd2 fun _ _ _ _ _ X0 _ X1=>cR4Make X0 X1 (by omega) (by omega)
 intro a2 w2 st2
 clear st1
 repeat first|refine Wq ?_|refine Wb ?_|refine Wk ?_|refine Wx ?_
 obtain⟨g,cs,r1,r2,r3,r4,r5⟩:=st2.res ⟨4,none,none,33,4,Vq 3 (Rat.divInt (p) (q)),VT⟩ (.head _) rfl rfl
 exact wp_ret (bodyPost_ret (results_cell_row rfl _ _ g 33 cs (0,0) _ r1 r2 Tryz.underlying33 rfl (by rw [r3];exact size_Rat)) st2.defers ⟨_,rfl,r4,r5⟩)
theorem cR4Add {w:World}{N:Nat}{a b:Rat}{v0 v1:Value}(h0:Vq N (a) v0 w)(h1:Vq N (b) v1 w)(h3:3≤N)(hN:N≤100000):Calls Tryz.prog 70 #[v0,v1] w (RV (Vq (N+N+1) (a+b)) w):=by
 go_enter Tryz.func70,Tryz.ntmps70
 have st0:St w.heap.size w 26 [] [(0,Vq N (a)),(1,Vq N (b))] _ w:=St.begin (a:=⟨#[v0,v1,undef,undef,undef,undef,undef,undef,undef,undef,undef,undef,undef,undef,undef,undef,undef,undef,undef,undef,undef,undef,undef,undef,undef,undef],[]⟩) rfl rfl (Lq.2 ⟨⟨_,rfl,h0⟩,(Lq.2 ⟨⟨_,rfl,h1⟩,(fun _ h=>absurd h (by simp))⟩)⟩)
 generalize(⟨_,_⟩:Act)=a0 at st0 ⊢
 repeat first|refine Wq ?_|refine Wb ?_|refine Wk ?_|refine Wx ?_
 refine rg (BT:=[(31,2,0),(33,4,0)]) (Vl:=[VT,VT,VT]) (B:=[⟨2,some 0,some 0,33,4,Vq N (a),VT⟩,⟨3,some 1,some 1,33,4,Vq N (b),VT⟩,⟨4,some 2,none,33,4,VT,VT⟩]) (SL':=[]) st0 ⟨ks,ks,ks,trivial⟩ ?_
 intro a1 w1 st1
 clear st0
 repeat first|refine Wq ?_|refine Wb ?_|refine Wk ?_|refine Wx ?_
 refine rg (BT:=[(31,2,0),(33,4,0)]) (Vl:=[Vpt a1 2 0,Vz N ((a).num),Vq N (b),Vz N (((b).den:Int)),Vz (N+N) (((a).num)*(((b).den:Int))),VT,VT]) (B:=[⟨2,none,none,33,4,Vq N (a),VT⟩,⟨3,none,none,33,4,Vq N (b),VT⟩,⟨4,none,none,33,4,VT,VT⟩,⟨5,some 5,some 6,31,2,Vz (N+N) (((a).num)*(((b).den:Int))),VT⟩]) (SL':=[]) st1 ⟨ks,ks,ks,?s3,?s4,ks,ks,trivial⟩ ?_
 case s3=>exact kd1 fun _ _ _ _ _ X0=>cR4Den X0 (by omega)
 case s4=>exact kd2 fun _ _ _ _ _ X0 _ X1=>(cRMul X0 X1 (by omega) (by omega))
 intro a2 w2 st2
 clear st1
 repeat first|refine Wq ?_|refine Wb ?_|refine Wk ?_|refine Wx ?_
 refine rg (BT:=[(31,2,0),(33,4,0)]) (Vl:=[Vpt a2 3 0,Vz N ((b).num),Vq N (a),Vz N (((a).den:Int)),Vz (N+N) (((b).num)*(((a).den:Int))),VT,VT]) (B:=[⟨2,none,none,33,4,Vq N (a),VT⟩,⟨3,none,none,33,4,Vq N (b),VT⟩,⟨4,none,none,33,4,VT,VT⟩,⟨5,none,none,31,2,Vz (N+N) (((a).num)*(((b).den:Int))),VT⟩,⟨6,some 5,some 6,31,2,Vz (N+N) (((b).num)*(((a).den:Int))),VT⟩]) (SL':=[]) st2 ⟨ks,ks,ks,?s3,?s4,ks,ks,trivial⟩ ?_
 case s3=>exact kd1 fun _ _ _ _ _ X0=>cR4Den X0 (by omega)
 case s4=>exact kd2 fun _ _ _ _ _ X0 _ X1=>(cRMul X0 X1 (by omega) (by omega))
 intro a3 w3 st3
 clear st2
 repeat first|refine Wq ?_|refine Wb ?_|refine Wk ?_|refine Wx ?_
 refine rg (BT:=[(31,2,0),(33,4,0)]) (Vl:=[Vz (N+N) (((a).num)*(((b).den:Int))),Vz (N+N) (((b).num)*(((a).den:Int))),Vz (max (N+N) (N+N)+1) ((((a).num)*(((b).den:Int)))+(((b).num)*(((a).den:Int)))),Vq N (a),Vz N (((a).den:Int)),Vq N (b),Vz N (((b).den:Int)),Vz (N+N) ((((a).den:Int))*(((b).den:Int))),Vq (max (max (N+N) (N+N)+1) (N+N)) (Rat.divInt ((((a).num)*(((b).den:Int)))+(((b).num)*(((a).den:Int)))) ((((a).den:Int))*(((b).den:Int)))),VT]) (B:=[⟨2,none,none,33,4,Vq N (a),VT⟩,⟨3,none,none,33,4,Vq N (b),VT⟩,⟨4,none,some 9,33,4,Vq (max (max (N+N) (N+N)+1) (N+N)) (Rat.divInt ((((a).num)*(((b).den:Int)))+(((b).num)*(((a).den:Int)))) ((((a).den:Int))*(((b).den:Int)))),VT⟩,⟨5,none,none,31,2,Vz (N+N) (((a).num)*(((b).den:Int))),VT⟩,⟨6,none,none,31,2,Vz (N+N) (((b).num)*(((a).den:Int))),VT⟩]) (SL':=[]) st3 ⟨ks,ks,?s2,ks,?s4,ks,?s6,?s7,?s8,ks,trivial⟩ ?_
 case s2=>exact kd2 fun _ _ _ _ _ X0 _ X1=>(cRAdd X0 X1 (by omega) (by omega))
 case s4=>exact kd1 fun _ _ _ _ _ X0=>cR4Den X0 (by omega)
 case s6=>exact kd1 fun _ _ _ _ _ X0=>cR4Den X0 (by omega)
 case s7=>exact kd2 fun _ _ _ _ _ X0 _ X1=>(cRMul X0 X1 (by omega) (by omega))
 case s8=>exact kd2 fun _ _ _ _ _ X0 _ X1=>cR4Make (Vz_le (M:=(max (max (N+N) (N+N)+1) (N+N))) X0 (by omega)) (Vz_le (M:=(max (max (N+N) (N+N)+1) (N+N))) X1 (by omega)) (by omega) (by omega)
 intro a4 w4 st4
 clear st3
 repeat first|refine Wq ?_|refine Wb ?_|refine Wk ?_|refine Wx ?_
 obtain⟨g,cs,r1,r2,r3,r4,r5⟩:=st4.res ⟨4,none,none,33,4,Vq (max (max (N+N) (N+N)+1) (N+N)) (Rat.divInt ((((a).num)*(((b).den:Int)))+(((b).num)*(((a).den:Int)))) ((((a).den:Int))*(((b).den:Int)))),VT⟩ (.tail _ (.tail _ (.head _))) rfl rfl
 exact wp_ret (bodyPost_ret (results_cell_row rfl _ _ g 33 cs (0,0) _ r1 r2 Tryz.underlying33 rfl (by rw [r3];exact size_Rat)) st4.defers ⟨_,rfl,(by rw [←add_mk];exact Vq_le r4 (by omega)),r5⟩)
theorem cR4Sub {w:World}{N:Nat}{a b:Rat}{v0 v1:Value}(h0:Vq N (a) v0 w)(h1:Vq N (b) v1 w)(h3:3≤N)(hN:N≤100000):Calls Tryz.prog 72 #[v0,v1] w (RV (Vq (N+N+1) (a - b)) w):=by
 go_enter Tryz.func72,Tryz.ntmps72
 have st0:St w.heap.size w 9 [] [(0,Vq N (a)),(1,Vq N (b))] _ w:=St.begin (a:=⟨#[v0,v1,undef,undef,undef,undef,undef,undef,undef],[]⟩) rfl rfl (Lq.2 ⟨⟨_,rfl,h0⟩,(Lq.2 ⟨⟨_,rfl,h1⟩,(fun _ h=>absurd h (by simp))⟩)⟩)
 generalize(⟨_,_⟩:Act)=a0 at st0 ⊢
 repeat first|refine Wq ?_|refine Wb ?_|refine Wk ?_|refine Wx ?_
 refine rg (BT:=[(33,4,0)]) (Vl:=[VT,VT,VT]) (B:=[⟨2,some 0,some 0,33,4,Vq N (a),VT⟩,⟨3,some 1,some 1,33,4,Vq N (b),VT⟩,⟨4,some 2,none,33,4,VT,VT⟩]) (SL':=[]) st0 ⟨ks,ks,ks,trivial⟩ ?_
 intro a1 w1 st1
 clear st0
 repeat first|refine Wq ?_|refine Wb ?_|refine Wk ?_|refine Wx ?_
 refine rg (BT:=[(33,4,0)]) (Vl:=[Vq N (a),Vq N (b),Vq N (-(b)),Vq (N+N+1) ((a)+(-(b))),VT]) (B:=[⟨2,none,none,33,4,Vq N (a),VT⟩,⟨3,none,none,33,4,Vq N (b),VT⟩,⟨4,none,some 4,33,4,Vq (N+N+1) ((a)+(-(b))),VT⟩]) (SL':=[]) st1 ⟨ks,ks,?s2,?s3,ks,trivial⟩ ?_
 case s2=>exact kd1 fun _ _ _ _ _ X0=>cR4Neg X0 (by omega)
 case s3=>exact kd2 fun _ _ _ _ _ X0 _ X1=>cR4Add X0 X1 (by omega) (by omega)
 intro a2 w2 st2
 clear st1
 repeat first|refine Wq ?_|refine Wb ?_|refine Wk ?_|refine Wx ?_
 obtain⟨g,cs,r1,r2,r3,r4,r5⟩:=st2.res ⟨4,none,none,33,4,Vq (N+N+1) ((a)+(-(b))),VT⟩ (.tail _ (.tail _ (.head _))) rfl rfl
 exact wp_ret (bodyPost_ret (results_cell_row rfl _ _ g 33 cs (0,0) _ r1 r2 Tryz.underlying33 rfl (by rw [r3];exact size_Rat)) st2.defers ⟨_,rfl,(by rw [Rat.sub_eq_add_neg];exact r4),r5⟩)
theorem cR4Mul {w:World}{N:Nat}{a b:Rat}{v0 v1:Value}(h0:Vq N (a) v0 w)(h1:Vq N (b) v1 w)(h3:3≤N)(hN:N≤100000):Calls Tryz.prog 71 #[v0,v1] w (RV (Vq (N+N) (a*b)) w):=by
 go_enter Tryz.func71,Tryz.ntmps71
 have st0:St w.heap.size w 16 [] [(0,Vq N (a)),(1,Vq N (b))] _ w:=St.begin (a:=⟨#[v0,v1,undef,undef,undef,undef,undef,undef,undef,undef,undef,undef,undef,undef,undef,undef],[]⟩) rfl rfl (Lq.2 ⟨⟨_,rfl,h0⟩,(Lq.2 ⟨⟨_,rfl,h1⟩,(fun _ h=>absurd h (by simp))⟩)⟩)
 generalize(⟨_,_⟩:Act)=a0 at st0 ⊢
 repeat first|refine Wq ?_|refine Wb ?_|refine Wk ?_|refine Wx ?_
 refine rg (BT:=[(33,4,0)]) (Vl:=[VT,VT,VT]) (B:=[⟨2,some 0,some 0,33,4,Vq N (a),VT⟩,⟨3,some 1,some 1,33,4,Vq N (b),VT⟩,⟨4,some 2,none,33,4,VT,VT⟩]) (SL':=[]) st0 ⟨ks,ks,ks,trivial⟩ ?_
 intro a1 w1 st1
 clear st0
 repeat first|refine Wq ?_|refine Wb ?_|refine Wk ?_|refine Wx ?_
 refine rg (BT:=[(33,4,0)]) (Vl:=[Vpt a1 2 0,Vz N ((a).num),Vpt a1 3 0,Vz N ((b).num),Vz (N+N) (((a).num)*((b).num)),Vq N (a),Vz N (((a).den:Int)),Vq N (b),Vz N (((b).den:Int)),Vz (N+N) ((((a).den:Int))*(((b).den:Int))),Vq (N+N) (Rat.divInt (((a).num)*((b).num)) ((((a).den:Int))*(((b).den:Int)))),VT]) (B:=[⟨2,none,none,33,4,Vq N (a),VT⟩,⟨3,none,none,33,4,Vq N (b),VT⟩,⟨4,none,some 11,33,4,Vq (N+N) (Rat.divInt (((a).num)*((b).num)) ((((a).den:Int))*(((b).den:Int)))),VT⟩]) (SL':=[]) st1 ⟨ks,ks,ks,ks,?s4,ks,?s6,ks,?s8,?s9,?s10,ks,trivial⟩ ?_
 case s4=>exact kd2 fun _ _ _ _ _ X0 _ X1=>(cRMul X0 X1 (by omega) (by omega))
 case s6=>exact kd1 fun _ _ _ _ _ X0=>cR4Den X0 (by omega)
 case s8=>exact kd1 fun _ _ _ _ _ X0=>cR4Den X0 (by omega)
 case s9=>exact kd2 fun _ _ _ _ _ X0 _ X1=>(cRMul X0 X1 (by omega) (by omega))
 case s10=>exact kd2 fun _ _ _ _ _ X0 _ X1=>cR4Make X0 X1 (by omega) (by omega)
 intro a2 w2 st2
 clear st1
 repeat first|refine Wq ?_|refine Wb ?_|refine Wk ?_|refine Wx ?_
 obtain⟨g,cs,r1,r2,r3,r4,r5⟩:=st2.res ⟨4,none,none,33,4,Vq (N+N) (Rat.divInt (((a).num)*((b).num)) ((((a).den:Int))*(((b).den:Int)))),VT⟩ (.tail _ (.tail _ (.head _))) rfl rfl
 exact wp_ret (bodyPost_ret (results_cell_row rfl _ _ g 33 cs (0,0) _ r1 r2 Tryz.underlying33 rfl (by rw [r3];exact size_Rat)) st2.defers ⟨_,rfl,(by rw [←mul_mk];exact Vq_le r4 (by omega)),r5⟩)
theorem cR4Compare {w:World}{N:Nat}{a b:Rat}{v0 v1:Value}(h0:Vq N (a) v0 w)(h1:Vq N (b) v1 w)(h3:3≤N)(hN:N≤100000):Calls Tryz.prog 81 #[v0,v1] w (RV (Vi (cmpQ a b)) w):=by
 go_enter Tryz.func81,Tryz.ntmps81
 have st0:St w.heap.size w 16 [] [(0,Vq N (a)),(1,Vq N (b))] _ w:=St.begin (a:=⟨#[v0,v1,undef,undef,undef,undef,undef,undef,undef,undef,undef,undef,undef,undef,undef,undef],[]⟩) rfl rfl (Lq.2 ⟨⟨_,rfl,h0⟩,(Lq.2 ⟨⟨_,rfl,h1⟩,(fun _ h=>absurd h (by simp))⟩)⟩)
 generalize(⟨_,_⟩:Act)=a0 at st0 ⊢
 repeat first|refine Wq ?_|refine Wb ?_|refine Wk ?_|refine Wx ?_
 refine rg (BT:=[]) (Vl:=[VT,VT,Vi (0)]) (B:=[⟨2,some 0,some 0,33,4,Vq N (a),VT⟩,⟨3,some 1,some 1,33,4,Vq N (b),VT⟩]) (SL':=[(4,Vi (0))]) st0 ⟨ks,ks,ks,trivial⟩ ?_
 intro a1 w1 st1
 clear st0
 repeat first|refine Wq ?_|refine Wb ?_|refine Wk ?_|refine Wx ?_
 refine rg (BT:=[]) (Vl:=[Vpt a1 2 0,Vz N ((a).num),Vq N (b),Vz N (((b).den:Int)),Vz (N+N) (((a).num)*(((b).den:Int))),Vpt a1 3 0,Vz N ((b).num),Vq N (a),Vz N (((a).den:Int)),Vz (N+N) (((b).num)*(((a).den:Int))),Vi (cmpI (((a).num)*(((b).den:Int))) (((b).num)*(((a).den:Int)))),Vi (cmpI (((a).num)*(((b).den:Int))) (((b).num)*(((a).den:Int))))]) (B:=[⟨2,none,none,33,4,Vq N (a),VT⟩,⟨3,none,none,33,4,Vq N (b),VT⟩]) (SL':=[(4,Vi (cmpI (((a).num)*(((b).den:Int))) (((b).num)*(((a).den:Int)))))]) st1 ⟨ks,ks,ks,?s3,?s4,ks,ks,ks,?s8,?s9,?s10,ks,trivial⟩ ?_
 case s3=>exact kd1 fun _ _ _ _ _ X0=>cR4Den X0 (by omega)
 case s4=>exact kd2 fun _ _ _ _ _ X0 _ X1=>(cRMul X0 X1 (by omega) (by omega))
 case s8=>exact kd1 fun _ _ _ _ _ X0=>cR4Den X0 (by omega)
 case s9=>exact kd2 fun _ _ _ _ _ X0 _ X1=>(cRMul X0 X1 (by omega) (by omega))
 case s10=>exact kd2 fun _ _ _ _ _ X0 _ X1=>(cRCompare X0 X1 (by omega) (by omega))
 intro a2 w2 st2
 clear st1
 repeat first|refine Wq ?_|refine Wb ?_|refine Wk ?_|refine Wx ?_
 obtain⟨vr,r1,r4⟩:=st2.slot (4,Vi (cmpI (((a).num)*(((b).den:Int))) (((b).num)*(((a).den:Int))))) (.head _)
 exact wp_ret (bodyPost_ret (results_tmp rfl _ _ _) st2.defers ⟨_,congrArg Ending.returned (show _=vr from r1),r4,st2.k.below⟩)
theorem cR3Same {W:World}{Na Nb:Nat}{x y:Int}{v1 v2:Value}(h1:Vz Na x v1 W)(h2:Vz Nb y v2 W)(hNa:Na≤1000000)(hNb:Nb≤1000000):Calls Tryz.prog 66 #[v1,v2] W (RV (Vb (decide (x=y))) W):=by
 obtain⟨nb,p,n,c,rfl,hI,hn⟩:=h1
 obtain⟨nb2,p2,n2,c2,rfl,hI2,hn2⟩:=h2
 exact(Same_any nb nb2 p p2 n c n2 c2 x y W hI hI2 (by omega) (by omega)).mono fun e w' h=>⟨_,h.1,rfl,h.2⟩
theorem cR4Same {w:World}{N:Nat}{a b:Rat}{v0 v1:Value}(h0:Vq N (a) v0 w)(h1:Vq N (b) v1 w)(hN:N≤100000):Calls Tryz.prog 23 #[v0,v1] w (RV (Vb (decide (a=b))) w):=by
 go_enter Tryz.func23,Tryz.ntmps23
 have st0:St w.heap.size w 17 [] [(0,Vq N (a)),(1,Vq N (b))] _ w:=St.begin (a:=⟨#[v0,v1,undef,undef,undef,undef,undef,undef,undef,undef,undef,undef,undef,undef,undef,undef,undef],[]⟩) rfl rfl (Lq.2 ⟨⟨_,rfl,h0⟩,(Lq.2 ⟨⟨_,rfl,h1⟩,(fun _ h=>absurd h (by simp))⟩)⟩)
 generalize(⟨_,_⟩:Act)=a0 at st0 ⊢
 repeat first|refine Wq ?_|refine Wb ?_|refine Wk ?_|refine Wx ?_
 refine rg (BT:=[]) (Vl:=[VT,VT,Vb (false)]) (B:=[⟨2,some 0,some 0,33,4,Vq N (a),VT⟩,⟨3,some 1,some 1,33,4,Vq N (b),VT⟩]) (SL':=[(4,Vb (false))]) st0 ⟨ks,ks,ks,trivial⟩ ?_
 intro a1 w1 st1
 clear st0
 by_cases hp:a.num=b.num
 ·
  repeat first|refine Wq ?_|refine Wb ?_|refine Wk ?_|refine Wx ?_
  refine rg (BT:=[]) (Vl:=[Vpt a1 2 0,Vz N ((a).num),Vpt a1 3 0,Vz N ((b).num),Vb (true),Vb (true),Vpt a1 2 2,Vz N (qd (a)),Vpt a1 3 2,Vz N (qd (b)),Vb (decide ((qd (a))=(qd (b)))),Vb (decide ((qd (a))=(qd (b)))),Vb (decide ((qd (a))=(qd (b))))]) (B:=[⟨2,none,none,33,4,Vq N (a),VT⟩,⟨3,none,none,33,4,Vq N (b),VT⟩]) (SL':=[(4,Vb (decide ((qd (a))=(qd (b)))))]) st1 ⟨ks,ks,ks,ks,?s4,ks,ks,ks,ks,ks,?s10,ks,ks,trivial⟩ ?_
  case s4=>exact kd2 fun _ _ _ h _ X0 _ X1=>(cR3Same X0 X1 (by omega) (by omega)).mono fun e w h=>h.le fun v w hv=>hv.trans (congrArg Value.bool (dT (hp)))
  case s10=>exact kd2 fun _ _ _ _ _ X0 _ X1=>cR3Same X0 X1 (by omega) (by omega)
  intro a2 w2 st2
  clear st1
  repeat first|refine Wq ?_|refine Wb ?_|refine Wk ?_|refine Wx ?_
  obtain⟨vr,r1,r4⟩:=st2.slot (4,Vb (decide ((qd (a))=(qd (b))))) (.head _)
  exact wp_ret (bodyPost_ret (results_tmp rfl _ _ _) st2.defers ⟨_,congrArg Ending.returned (show _=vr from r1),(by rw [show decide (a=b)=decide (qd a=qd b)from decide_eq_decide.2 (qd_inj hp).symm];exact r4),st2.k.below⟩)
 ·
  repeat first|refine Wq ?_|refine Wb ?_|refine Wk ?_|refine Wx ?_
  refine rg (BT:=[]) (Vl:=[Vpt a1 2 0,Vz N ((a).num),Vpt a1 3 0,Vz N ((b).num),Vb (false),Vb (false),VT,VT,VT,VT,VT,Vb (false),Vb (false)]) (B:=[⟨2,none,none,33,4,Vq N (a),VT⟩,⟨3,none,none,33,4,Vq N (b),VT⟩]) (SL':=[(4,Vb (false))]) st1 ⟨ks,ks,ks,ks,?s4,ks,ks,ks,ks,ks,ks,ks,ks,trivial⟩ ?_
  case s4=>exact kd2 fun _ _ _ h _ X0 _ X1=>(cR3Same X0 X1 (by omega) (by omega)).mono fun e w h=>h.le fun v w hv=>hv.trans (congrArg Value.bool (dF (hp)))
  intro a2 w2 st2
  clear st1
  repeat first|refine Wq ?_|refine Wb ?_|refine Wk ?_|refine Wx ?_
  obtain⟨vr,r1,r4⟩:=st2.slot (4,Vb (false)) (.head _)
  exact wp_ret (bodyPost_ret (results_tmp rfl _ _ _) st2.defers ⟨_,congrArg Ending.returned (show _=vr from r1),(by rw [dF (fun e=>hp (by rw [e]))];exact r4),st2.k.below⟩)
theorem cR5Add {w:World}{N:Nat}{a b c d:Rat}{v0 v1:Value}(h0:Vv N (a) (b) v0 w)(h1:Vv N (c) (d) v1 w)(h3:3≤N)(hN:N≤10000):Calls Tryz.prog 51 #[v0,v1] w (RV (Vv (N+N+1) (a+c) (b+d)) w):=by
 go_enter Tryz.func51,Tryz.ntmps51
 have st0:St w.heap.size w 16 [] [(0,Vv N (a) (b)),(1,Vv N (c) (d))] _ w:=St.begin (a:=⟨#[v0,v1,undef,undef,undef,undef,undef,undef,undef,undef,undef,undef,undef,undef,undef,undef],[]⟩) rfl rfl (Lq.2 ⟨⟨_,rfl,h0⟩,(Lq.2 ⟨⟨_,rfl,h1⟩,(fun _ h=>absurd h (by simp))⟩)⟩)
 generalize(⟨_,_⟩:Act)=a0 at st0 ⊢
 repeat first|refine Wq ?_|refine Wb ?_|refine Wk ?_|refine Wx ?_
 refine rg (BT:=[(35,8,0)]) (Vl:=[VT,VT,VT]) (B:=[⟨2,some 0,some 0,35,8,Vv N (a) (b),VT⟩,⟨3,some 1,some 1,35,8,Vv N (c) (d),VT⟩,⟨4,some 2,none,35,8,VT,VT⟩]) (SL':=[]) st0 ⟨ks,ks,ks,trivial⟩ ?_
 intro a1 w1 st1
 clear st0
 repeat first|refine Wq ?_|refine Wb ?_|refine Wk ?_|refine Wx ?_
 refine rg (BT:=[(35,8,0)]) (Vl:=[Vpt a1 2 0,Vq N (a),Vpt a1 3 0,Vq N (c),Vq (N+N+1) ((a)+(c)),Vpt a1 2 4,Vq N (b),Vpt a1 3 4,Vq N (d),Vq (N+N+1) ((b)+(d)),Vv (N+N+1) ((a)+(c)) ((b)+(d)),VT]) (B:=[⟨2,none,none,35,8,Vv N (a) (b),VT⟩,⟨3,none,none,35,8,Vv N (c) (d),VT⟩,⟨4,none,some 11,35,8,Vv (N+N+1) ((a)+(c)) ((b)+(d)),VT⟩]) (SL':=[]) st1 ⟨ks,ks,ks,ks,?s4,ks,ks,ks,ks,?s9,?s10,ks,trivial⟩ ?_
 case s4=>exact kd2 fun _ _ _ _ _ X0 _ X1=>cR4Add X0 X1 (by omega) (by omega)
 case s9=>exact kd2 fun _ _ _ _ _ X0 _ X1=>cR4Add X0 X1 (by omega) (by omega)
 case s10=>
  refine kr fun _ A Y h D=>?_
  obtain⟨v0,x0,X0⟩:=h.dp D 9
  obtain⟨v1,x1,X1⟩:=h.dp D 14
  exact build_Vec rfl x0 x1 (AggV_Vq _ _) (AggV_Vq _ _) X0 X1
 intro a2 w2 st2
 clear st1
 repeat first|refine Wq ?_|refine Wb ?_|refine Wk ?_|refine Wx ?_
 obtain⟨g,cs,r1,r2,r3,r4,r5⟩:=st2.res ⟨4,none,none,35,8,Vv (N+N+1) ((a)+(c)) ((b)+(d)),VT⟩ (.tail _ (.tail _ (.head _))) rfl rfl
 exact wp_ret (bodyPost_ret (results_cell_row rfl _ _ g 35 cs (0,0) _ r1 r2 Tryz.underlying35 rfl (by rw [r3];exact size_Vec)) st2.defers ⟨_,rfl,r4,r5⟩)
theorem cR5Sub {w:World}{N:Nat}{a b c d:Rat}{v0 v1:Value}(h0:Vv N (a) (b) v0 w)(h1:Vv N (c) (d) v1 w)(h3:3≤N)(hN:N≤10000):Calls Tryz.prog 76 #[v0,v1] w (RV (Vv (N+N+1) (a - c) (b - d)) w):=by
 go_enter Tryz.func76,Tryz.ntmps76
 have st0:St w.heap.size w 16 [] [(0,Vv N (a) (b)),(1,Vv N (c) (d))] _ w:=St.begin (a:=⟨#[v0,v1,undef,undef,undef,undef,undef,undef,undef,undef,undef,undef,undef,undef,undef,undef],[]⟩) rfl rfl (Lq.2 ⟨⟨_,rfl,h0⟩,(Lq.2 ⟨⟨_,rfl,h1⟩,(fun _ h=>absurd h (by simp))⟩)⟩)
 generalize(⟨_,_⟩:Act)=a0 at st0 ⊢
 repeat first|refine Wq ?_|refine Wb ?_|refine Wk ?_|refine Wx ?_
 refine rg (BT:=[(35,8,0)]) (Vl:=[VT,VT,VT]) (B:=[⟨2,some 0,some 0,35,8,Vv N (a) (b),VT⟩,⟨3,some 1,some 1,35,8,Vv N (c) (d),VT⟩,⟨4,some 2,none,35,8,VT,VT⟩]) (SL':=[]) st0 ⟨ks,ks,ks,trivial⟩ ?_
 intro a1 w1 st1
 clear st0
 repeat first|refine Wq ?_|refine Wb ?_|refine Wk ?_|refine Wx ?_
 refine rg (BT:=[(35,8,0)]) (Vl:=[Vpt a1 2 0,Vq N (a),Vpt a1 3 0,Vq N (c),Vq (N+N+1) ((a) - (c)),Vpt a1 2 4,Vq N (b),Vpt a1 3 4,Vq N (d),Vq (N+N+1) ((b) - (d)),Vv (N+N+1) ((a) - (c)) ((b) - (d)),VT]) (B:=[⟨2,none,none,35,8,Vv N (a) (b),VT⟩,⟨3,none,none,35,8,Vv N (c) (d),VT⟩,⟨4,none,some 11,35,8,Vv (N+N+1) ((a) - (c)) ((b) - (d)),VT⟩]) (SL':=[]) st1 ⟨ks,ks,ks,ks,?s4,ks,ks,ks,ks,?s9,?s10,ks,trivial⟩ ?_
 case s4=>exact kd2 fun _ _ _ _ _ X0 _ X1=>cR4Sub X0 X1 (by omega) (by omega)
 case s9=>exact kd2 fun _ _ _ _ _ X0 _ X1=>cR4Sub X0 X1 (by omega) (by omega)
 case s10=>
  refine kr fun _ A Y h D=>?_
  obtain⟨v0,x0,X0⟩:=h.dp D 9
  obtain⟨v1,x1,X1⟩:=h.dp D 14
  exact build_Vec rfl x0 x1 (AggV_Vq _ _) (AggV_Vq _ _) X0 X1
 intro a2 w2 st2
 clear st1
 repeat first|refine Wq ?_|refine Wb ?_|refine Wk ?_|refine Wx ?_
 obtain⟨g,cs,r1,r2,r3,r4,r5⟩:=st2.res ⟨4,none,none,35,8,Vv (N+N+1) ((a) - (c)) ((b) - (d)),VT⟩ (.tail _ (.tail _ (.head _))) rfl rfl
 exact wp_ret (bodyPost_ret (results_cell_row rfl _ _ g 35 cs (0,0) _ r1 r2 Tryz.underlying35 rfl (by rw [r3];exact size_Vec)) st2.defers ⟨_,rfl,r4,r5⟩)
theorem cR5Scale {w:World}{N:Nat}{a b c:Rat}{v0 v1:Value}(h0:Vv N (a) (b) v0 w)(h1:Vq N (c) v1 w)(h3:3≤N)(hN:N≤10000):Calls Tryz.prog 77 #[v0,v1] w (RV (Vv (N+N) (a*c) (b*c)) w):=by
 go_enter Tryz.func77,Tryz.ntmps77
 have st0:St w.heap.size w 14 [] [(0,Vv N (a) (b)),(1,Vq N (c))] _ w:=St.begin (a:=⟨#[v0,v1,undef,undef,undef,undef,undef,undef,undef,undef,undef,undef,undef,undef],[]⟩) rfl rfl (Lq.2 ⟨⟨_,rfl,h0⟩,(Lq.2 ⟨⟨_,rfl,h1⟩,(fun _ h=>absurd h (by simp))⟩)⟩)
 generalize(⟨_,_⟩:Act)=a0 at st0 ⊢
 repeat first|refine Wq ?_|refine Wb ?_|refine Wk ?_|refine Wx ?_
 refine rg (BT:=[(35,8,0)]) (Vl:=[VT,VT,VT]) (B:=[⟨2,some 0,some 0,35,8,Vv N (a) (b),VT⟩,⟨3,some 1,some 1,33,4,Vq N (c),VT⟩,⟨4,some 2,none,35,8,VT,VT⟩]) (SL':=[]) st0 ⟨ks,ks,ks,trivial⟩ ?_
 intro a1 w1 st1
 clear st0
 repeat first|refine Wq ?_|refine Wb ?_|refine Wk ?_|refine Wx ?_
 refine rg (BT:=[(35,8,0)]) (Vl:=[Vpt a1 2 0,Vq N (a),Vq N (c),Vq (N+N) ((a)*(c)),Vpt a1 2 4,Vq N (b),Vq N (c),Vq (N+N) ((b)*(c)),Vv (N+N) ((a)*(c)) ((b)*(c)),VT]) (B:=[⟨2,none,none,35,8,Vv N (a) (b),VT⟩,⟨3,none,none,33,4,Vq N (c),VT⟩,⟨4,none,some 9,35,8,Vv (N+N) ((a)*(c)) ((b)*(c)),VT⟩]) (SL':=[]) st1 ⟨ks,ks,ks,?s3,ks,ks,ks,?s7,?s8,ks,trivial⟩ ?_
 case s3=>exact kd2 fun _ _ _ _ _ X0 _ X1=>cR4Mul X0 X1 (by omega) (by omega)
 case s7=>exact kd2 fun _ _ _ _ _ X0 _ X1=>cR4Mul X0 X1 (by omega) (by omega)
 case s8=>
  refine kr fun _ A Y h D=>?_
  obtain⟨v0,x0,X0⟩:=h.dp D 8
  obtain⟨v1,x1,X1⟩:=h.dp D 12
  exact build_Vec rfl x0 x1 (AggV_Vq _ _) (AggV_Vq _ _) X0 X1
 intro a2 w2 st2
 clear st1
 repeat first|refine Wq ?_|refine Wb ?_|refine Wk ?_|refine Wx ?_
 obtain⟨g,cs,r1,r2,r3,r4,r5⟩:=st2.res ⟨4,none,none,35,8,Vv (N+N) ((a)*(c)) ((b)*(c)),VT⟩ (.tail _ (.tail _ (.head _))) rfl rfl
 exact wp_ret (bodyPost_ret (results_cell_row rfl _ _ g 35 cs (0,0) _ r1 r2 Tryz.underlying35 rfl (by rw [r3];exact size_Vec)) st2.defers ⟨_,rfl,r4,r5⟩)
theorem cR5Dot {w:World}{N:Nat}{a b c d:Rat}{v0 v1:Value}(h0:Vv N (a) (b) v0 w)(h1:Vv N (c) (d) v1 w)(h3:3≤N)(hN:N≤10000):Calls Tryz.prog 124 #[v0,v1] w (RV (Vq (4*N+1) (a*c+b*d)) w):=by
 go_enter Tryz.func124,Tryz.ntmps124
 have st0:St w.heap.size w 16 [] [(0,Vv N (a) (b)),(1,Vv N (c) (d))] _ w:=St.begin (a:=⟨#[v0,v1,undef,undef,undef,undef,undef,undef,undef,undef,undef,undef,undef,undef,undef,undef],[]⟩) rfl rfl (Lq.2 ⟨⟨_,rfl,h0⟩,(Lq.2 ⟨⟨_,rfl,h1⟩,(fun _ h=>absurd h (by simp))⟩)⟩)
 generalize(⟨_,_⟩:Act)=a0 at st0 ⊢
 repeat first|refine Wq ?_|refine Wb ?_|refine Wk ?_|refine Wx ?_
 refine rg (BT:=[(33,4,0)]) (Vl:=[VT,VT,VT]) (B:=[⟨2,some 0,some 0,35,8,Vv N (a) (b),VT⟩,⟨3,some 1,some 1,35,8,Vv N (c) (d),VT⟩,⟨4,some 2,none,33,4,VT,VT⟩]) (SL':=[]) st0 ⟨ks,ks,ks,trivial⟩ ?_
 intro a1 w1 st1
 clear st0
 repeat first|refine Wq ?_|refine Wb ?_|refine Wk ?_|refine Wx ?_
 refine rg (BT:=[(33,4,0)]) (Vl:=[Vpt a1 2 0,Vq N (a),Vpt a1 3 0,Vq N (c),Vq (N+N) ((a)*(c)),Vpt a1 2 4,Vq N (b),Vpt a1 3 4,Vq N (d),Vq (N+N) ((b)*(d)),Vq ((N+N)+(N+N)+1) (((a)*(c))+((b)*(d))),VT]) (B:=[⟨2,none,none,35,8,Vv N (a) (b),VT⟩,⟨3,none,none,35,8,Vv N (c) (d),VT⟩,⟨4,none,some 11,33,4,Vq ((N+N)+(N+N)+1) (((a)*(c))+((b)*(d))),VT⟩]) (SL':=[]) st1 ⟨ks,ks,ks,ks,?s4,ks,ks,ks,ks,?s9,?s10,ks,trivial⟩ ?_
 case s4=>exact kd2 fun _ _ _ _ _ X0 _ X1=>cR4Mul X0 X1 (by omega) (by omega)
 case s9=>exact kd2 fun _ _ _ _ _ X0 _ X1=>cR4Mul X0 X1 (by omega) (by omega)
 case s10=>exact kd2 fun _ _ _ _ _ X0 _ X1=>cR4Add X0 X1 (by omega) (by omega)
 intro a2 w2 st2
 clear st1
 repeat first|refine Wq ?_|refine Wb ?_|refine Wk ?_|refine Wx ?_
 obtain⟨g,cs,r1,r2,r3,r4,r5⟩:=st2.res ⟨4,none,none,33,4,Vq ((N+N)+(N+N)+1) (((a)*(c))+((b)*(d))),VT⟩ (.tail _ (.tail _ (.head _))) rfl rfl
 exact wp_ret (bodyPost_ret (results_cell_row rfl _ _ g 33 cs (0,0) _ r1 r2 Tryz.underlying33 rfl (by rw [r3];exact size_Rat)) st2.defers ⟨_,rfl,(Vq_le r4 (by omega)),r5⟩)
theorem cR5Cross {w:World}{N:Nat}{a b c d:Rat}{v0 v1:Value}(h0:Vv N (a) (b) v0 w)(h1:Vv N (c) (d) v1 w)(h3:3≤N)(hN:N≤10000):Calls Tryz.prog 75 #[v0,v1] w (RV (Vq (4*N+1) (a*d - b*c)) w):=by
 go_enter Tryz.func75,Tryz.ntmps75
 have st0:St w.heap.size w 16 [] [(0,Vv N (a) (b)),(1,Vv N (c) (d))] _ w:=St.begin (a:=⟨#[v0,v1,undef,undef,undef,undef,undef,undef,undef,undef,undef,undef,undef,undef,undef,undef],[]⟩) rfl rfl (Lq.2 ⟨⟨_,rfl,h0⟩,(Lq.2 ⟨⟨_,rfl,h1⟩,(fun _ h=>absurd h (by simp))⟩)⟩)
 generalize(⟨_,_⟩:Act)=a0 at st0 ⊢
 repeat first|refine Wq ?_|refine Wb ?_|refine Wk ?_|refine Wx ?_
 refine rg (BT:=[(33,4,0)]) (Vl:=[VT,VT,VT]) (B:=[⟨2,some 0,some 0,35,8,Vv N (a) (b),VT⟩,⟨3,some 1,some 1,35,8,Vv N (c) (d),VT⟩,⟨4,some 2,none,33,4,VT,VT⟩]) (SL':=[]) st0 ⟨ks,ks,ks,trivial⟩ ?_
 intro a1 w1 st1
 clear st0
 repeat first|refine Wq ?_|refine Wb ?_|refine Wk ?_|refine Wx ?_
 refine rg (BT:=[(33,4,0)]) (Vl:=[Vpt a1 2 0,Vq N (a),Vpt a1 3 4,Vq N (d),Vq (N+N) ((a)*(d)),Vpt a1 2 4,Vq N (b),Vpt a1 3 0,Vq N (c),Vq (N+N) ((b)*(c)),Vq ((N+N)+(N+N)+1) (((a)*(d)) - ((b)*(c))),VT]) (B:=[⟨2,none,none,35,8,Vv N (a) (b),VT⟩,⟨3,none,none,35,8,Vv N (c) (d),VT⟩,⟨4,none,some 11,33,4,Vq ((N+N)+(N+N)+1) (((a)*(d)) - ((b)*(c))),VT⟩]) (SL':=[]) st1 ⟨ks,ks,ks,ks,?s4,ks,ks,ks,ks,?s9,?s10,ks,trivial⟩ ?_
 case s4=>exact kd2 fun _ _ _ _ _ X0 _ X1=>cR4Mul X0 X1 (by omega) (by omega)
 case s9=>exact kd2 fun _ _ _ _ _ X0 _ X1=>cR4Mul X0 X1 (by omega) (by omega)
 case s10=>exact kd2 fun _ _ _ _ _ X0 _ X1=>cR4Sub X0 X1 (by omega) (by omega)
 intro a2 w2 st2
 clear st1
 repeat first|refine Wq ?_|refine Wb ?_|refine Wk ?_|refine Wx ?_
 obtain⟨g,cs,r1,r2,r3,r4,r5⟩:=st2.res ⟨4,none,none,33,4,Vq ((N+N)+(N+N)+1) (((a)*(d)) - ((b)*(c))),VT⟩ (.tail _ (.tail _ (.head _))) rfl rfl
 exact wp_ret (bodyPost_ret (results_cell_row rfl _ _ g 33 cs (0,0) _ r1 r2 Tryz.underlying33 rfl (by rw [r3];exact size_Rat)) st2.defers ⟨_,rfl,(Vq_le r4 (by omega)),r5⟩)
theorem cR5Same {w:World}{N:Nat}{a b c d:Rat}{v0 v1:Value}(h0:Vv N (a) (b) v0 w)(h1:Vv N (c) (d) v1 w)(h3:3≤N)(hN:N≤10000):Calls Tryz.prog 26 #[v0,v1] w (RV (Vb (decide (a=c∧b=d))) w):=by
 go_enter Tryz.func26,Tryz.ntmps26
 have st0:St w.heap.size w 17 [] [(0,Vv N (a) (b)),(1,Vv N (c) (d))] _ w:=St.begin (a:=⟨#[v0,v1,undef,undef,undef,undef,undef,undef,undef,undef,undef,undef,undef,undef,undef,undef,undef],[]⟩) rfl rfl (Lq.2 ⟨⟨_,rfl,h0⟩,(Lq.2 ⟨⟨_,rfl,h1⟩,(fun _ h=>absurd h (by simp))⟩)⟩)
 generalize(⟨_,_⟩:Act)=a0 at st0 ⊢
 repeat first|refine Wq ?_|refine Wb ?_|refine Wk ?_|refine Wx ?_
 refine rg (BT:=[]) (Vl:=[VT,VT,Vb (false)]) (B:=[⟨2,some 0,some 0,35,8,Vv N (a) (b),VT⟩,⟨3,some 1,some 1,35,8,Vv N (c) (d),VT⟩]) (SL':=[(4,Vb (false))]) st0 ⟨ks,ks,ks,trivial⟩ ?_
 intro a1 w1 st1
 clear st0
 by_cases hp:a=c
 ·
  repeat first|refine Wq ?_|refine Wb ?_|refine Wk ?_|refine Wx ?_
  refine rg (BT:=[]) (Vl:=[Vpt a1 2 0,Vq N (a),Vpt a1 3 0,Vq N (c),Vb (true),Vb (true),Vpt a1 2 4,Vq N (b),Vpt a1 3 4,Vq N (d),Vb (decide ((b)=(d))),Vb (decide ((b)=(d))),Vb (decide ((b)=(d)))]) (B:=[⟨2,none,none,35,8,Vv N (a) (b),VT⟩,⟨3,none,none,35,8,Vv N (c) (d),VT⟩]) (SL':=[(4,Vb (decide ((b)=(d))))]) st1 ⟨ks,ks,ks,ks,?s4,ks,ks,ks,ks,ks,?s10,ks,ks,trivial⟩ ?_
  case s4=>exact kd2 fun _ _ _ h _ X0 _ X1=>(cR4Same X0 X1 (by omega)).mono fun e w h=>h.le fun v w hv=>hv.trans (congrArg Value.bool (dT (hp)))
  case s10=>exact kd2 fun _ _ _ _ _ X0 _ X1=>cR4Same X0 X1 (by omega)
  intro a2 w2 st2
  clear st1
  repeat first|refine Wq ?_|refine Wb ?_|refine Wk ?_|refine Wx ?_
  obtain⟨vr,r1,r4⟩:=st2.slot (4,Vb (decide ((b)=(d)))) (.head _)
  exact wp_ret (bodyPost_ret (results_tmp rfl _ _ _) st2.defers ⟨_,congrArg Ending.returned (show _=vr from r1),(by rw [show decide (a=c∧b=d)=decide (b=d) by simp [hp]];exact r4),st2.k.below⟩)
 ·
  repeat first|refine Wq ?_|refine Wb ?_|refine Wk ?_|refine Wx ?_
  refine rg (BT:=[]) (Vl:=[Vpt a1 2 0,Vq N (a),Vpt a1 3 0,Vq N (c),Vb (false),Vb (false),VT,VT,VT,VT,VT,Vb (false),Vb (false)]) (B:=[⟨2,none,none,35,8,Vv N (a) (b),VT⟩,⟨3,none,none,35,8,Vv N (c) (d),VT⟩]) (SL':=[(4,Vb (false))]) st1 ⟨ks,ks,ks,ks,?s4,ks,ks,ks,ks,ks,ks,ks,ks,trivial⟩ ?_
  case s4=>exact kd2 fun _ _ _ h _ X0 _ X1=>(cR4Same X0 X1 (by omega)).mono fun e w h=>h.le fun v w hv=>hv.trans (congrArg Value.bool (dF (hp)))
  intro a2 w2 st2
  clear st1
  repeat first|refine Wq ?_|refine Wb ?_|refine Wk ?_|refine Wx ?_
  obtain⟨vr,r1,r4⟩:=st2.slot (4,Vb (false)) (.head _)
  exact wp_ret (bodyPost_ret (results_tmp rfl _ _ _) st2.defers ⟨_,congrArg Ending.returned (show _=vr from r1),(by rw [show decide (a=c∧b=d)=false by simp [hp]];exact r4),st2.k.below⟩)
theorem cR5Side {w:World}{N:Nat}{a b c d e f:Rat}{v0 v1 v2:Value}(h0:Vv N (a) (b) v0 w)(h1:Vv N (c) (d) v1 w)(h2:Vv N (e) (f) v2 w)(h3:3≤N)(hN:N≤1000):Calls Tryz.prog 56 #[v0,v1,v2] w (RV (Vi (cmpI ((c - a)*(f - b) - (d - b)*(e - a)).num 0)) w):=by
 go_enter Tryz.func56,Tryz.ntmps56
 have st0:St w.heap.size w 15 [] [(0,Vv N (a) (b)),(1,Vv N (c) (d)),(2,Vv N (e) (f))] _ w:=St.begin (a:=⟨#[v0,v1,v2,undef,undef,undef,undef,undef,undef,undef,undef,undef,undef,undef,undef],[]⟩) rfl rfl (Lq.2 ⟨⟨_,rfl,h0⟩,(Lq.2 ⟨⟨_,rfl,h1⟩,(Lq.2 ⟨⟨_,rfl,h2⟩,(fun _ h=>absurd h (by simp))⟩)⟩)⟩)
 generalize(⟨_,_⟩:Act)=a0 at st0 ⊢
 repeat first|refine Wq ?_|refine Wb ?_|refine Wk ?_|refine Wx ?_
 refine rg (BT:=[]) (Vl:=[VT,VT,VT,Vi (0)]) (B:=[⟨3,some 0,some 0,35,8,Vv N (a) (b),VT⟩,⟨4,some 1,some 1,35,8,Vv N (c) (d),VT⟩,⟨5,some 2,some 2,35,8,Vv N (e) (f),VT⟩]) (SL':=[(6,Vi (0))]) st0 ⟨ks,ks,ks,ks,trivial⟩ ?_
 intro a1 w1 st1
 clear st0
 repeat first|refine Wq ?_|refine Wb ?_|refine Wk ?_|refine Wx ?_
 refine rg (BT:=[]) (Vl:=[Vv N (c) (d),Vv N (a) (b),Vv (N+N+1) ((c) - (a)) ((d) - (b)),Vv N (e) (f),Vv N (a) (b),Vv (N+N+1) ((e) - (a)) ((f) - (b)),Vq (4*(N+N+1)+1) (((c) - (a))*((f) - (b)) - ((d) - (b))*((e) - (a))),Vi (cmpI (((c) - (a))*((f) - (b)) - ((d) - (b))*((e) - (a))).num 0),Vi (cmpI (((c) - (a))*((f) - (b)) - ((d) - (b))*((e) - (a))).num 0)]) (B:=[⟨3,none,none,35,8,Vv N (a) (b),VT⟩,⟨4,none,none,35,8,Vv N (c) (d),VT⟩,⟨5,none,none,35,8,Vv N (e) (f),VT⟩]) (SL':=[(6,Vi (cmpI (((c) - (a))*((f) - (b)) - ((d) - (b))*((e) - (a))).num 0))]) st1 ⟨ks,ks,?s2,ks,ks,?s5,?s6,?s7,ks,trivial⟩ ?_
 case s2=>exact kd2 fun _ _ _ _ _ X0 _ X1=>cR5Sub X0 X1 (by omega) (by omega)
 case s5=>exact kd2 fun _ _ _ _ _ X0 _ X1=>cR5Sub X0 X1 (by omega) (by omega)
 case s6=>exact kd2 fun _ _ _ _ _ X0 _ X1=>cR5Cross X0 X1 (by omega) (by omega)
 case s7=>exact kd1 fun _ _ _ _ _ X0=>cR4Sign X0 (by omega)
 intro a2 w2 st2
 clear st1
 repeat first|refine Wq ?_|refine Wb ?_|refine Wk ?_|refine Wx ?_
 obtain⟨vr,r1,r4⟩:=st2.slot (6,Vi (cmpI (((c) - (a))*((f) - (b)) - ((d) - (b))*((e) - (a))).num 0)) (.head _)
 exact wp_ret (bodyPost_ret (results_tmp rfl _ _ _) st2.defers ⟨_,congrArg Ending.returned (show _=vr from r1),r4,st2.k.below⟩)
theorem cR5Of {w:World}{p q:Int}{v0 v1:Value}(h0:Vi (p) v0 w)(h1:Vi (q) v1 w)(hp0: -9223372036854775808≤p)(hp1:p≤9223372036854775807)(hq0: -9223372036854775808≤q)(hq1:q≤9223372036854775807):Calls Tryz.prog 49 #[v0,v1] w (RV (Vv 3 (Rat.divInt p 1) (Rat.divInt q 1)) w):=by
 go_enter Tryz.func49,Tryz.ntmps49
 have st0:St w.heap.size w 10 [] [(0,Vi (p)),(1,Vi (q))] _ w:=St.begin (a:=⟨#[v0,v1,undef,undef,undef,undef,undef,undef,undef,undef],[]⟩) rfl rfl (Lq.2 ⟨⟨_,rfl,h0⟩,(Lq.2 ⟨⟨_,rfl,h1⟩,(fun _ h=>absurd h (by simp))⟩)⟩)
 generalize(⟨_,_⟩:Act)=a0 at st0 ⊢
 repeat first|refine Wq ?_|refine Wb ?_|refine Wk ?_|refine Wx ?_
 refine rg (BT:=[(35,8,0)]) (Vl:=[VT]) (B:=[⟨4,some 0,none,35,8,VT,VT⟩]) (SL':=[(0,Vi (p)),(1,Vi (q))]) st0 ⟨ks,trivial⟩ ?_
 intro a1 w1 st1
 clear st0
 repeat first|refine Wq ?_|refine Wb ?_|refine Wk ?_|refine Wx ?_
 refine rg (BT:=[(35,8,0)]) (Vl:=[Vi (p),Vq 3 (Rat.divInt (p) (1)),Vi (q),Vq 3 (Rat.divInt (q) (1)),Vv 3 (Rat.divInt (p) (1)) (Rat.divInt (q) (1)),VT]) (B:=[⟨4,none,some 5,35,8,Vv 3 (Rat.divInt (p) (1)) (Rat.divInt (q) (1)),VT⟩]) (SL':=[]) st1 ⟨ks,?s1,ks,?s3,?s4,ks,trivial⟩ ?_
 case s1=>
  refine kc fun _ A Y h D=>?_
  obtain⟨v0,x0,X0⟩:=h.dp D 5
  exact⟨#[v0,.int .i64 (1)],by simp [x0,eval_const],cR4Of X0 (show Vi (1) (.int .i64 (1)) Y from rfl) (by omega) (by omega) (by omega) (by omega)⟩
 case s3=>
  refine kc fun _ A Y h D=>?_
  obtain⟨v0,x0,X0⟩:=h.dp D 7
  exact⟨#[v0,.int .i64 (1)],by simp [x0,eval_const],cR4Of X0 (show Vi (1) (.int .i64 (1)) Y from rfl) (by omega) (by omega) (by omega) (by omega)⟩
 case s4=>
  refine kr fun _ A Y h D=>?_
  obtain⟨v0,x0,X0⟩:=h.dp D 6
  obtain⟨v1,x1,X1⟩:=h.dp D 8
  exact build_Vec rfl x0 x1 (AggV_Vq _ _) (AggV_Vq _ _) X0 X1
 intro a2 w2 st2
 clear st1
 repeat first|refine Wq ?_|refine Wb ?_|refine Wk ?_|refine Wx ?_
 obtain⟨g,cs,r1,r2,r3,r4,r5⟩:=st2.res ⟨4,none,none,35,8,Vv 3 (Rat.divInt (p) (1)) (Rat.divInt (q) (1)),VT⟩ (.head _) rfl rfl
 exact wp_ret (bodyPost_ret (results_cell_row rfl _ _ g 35 cs (0,0) _ r1 r2 Tryz.underlying35 rfl (by rw [r3];exact size_Vec)) st2.defers ⟨_,rfl,r4,r5⟩)


end Go.Proofs.YtjdkdjobaabdiaaGreat
