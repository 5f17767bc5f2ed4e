/- Contracts of the packages integer, rat, plane, polygon and their references. -/
import Derived.Test.YtjdkdjobaabdiaaGreatM20
set_option linter.unusedVariables false
set_option maxRecDepth 100000
set_option maxHeartbeats 6400000
namespace Go.Proofs.YtjdkdjobaabdiaaGreat
open Go.RowKit
theorem Vz_len {N:Nat}{z:Int}{v:Value}{w:World}(h:Vz N z v w):(digs z.natAbs).length≤N:=by
 obtain⟨nb,p,n,c,h1,h2,h3⟩:=h
 rw [←h2.2.1];exact h3
theorem Vz_fit {N M:Nat}{z:Int}{v:Value}{w:World}(h:Vz N z v w)(hM:(digs z.natAbs).length≤M):Vz M z v w:=by
 obtain⟨nb,p,n,c,h1,h2,h3⟩:=h
 exact⟨nb,p,n,c,h1,h2,by rw [h2.2.1];exact hM⟩
theorem cRDivG {W:World}{Na Nb:Nat}{x y:Int}{v1 v2:Value}(h1:Vz Na x v1 W)(h2:Vz Nb y v2 W)(hy:y≠0)(ha:1≤Na)(hb:1≤Nb)(hNa:Na≤1000000)(hNb:Nb≤1000000):
 Calls Tryz.prog 138 #[v1,v2] W (RV (VTup (Vz Na (x / y)) (Vz Nb (dr x y))) W):=
 (cRDiv h1 h2 ha hb hNa hNb).mono fun e w' h=>h.le fun v w ⟨a,c,e1,h3,h4⟩=>⟨a,c,e1,Vz_fit (by rw [show x / y=dq x y from(if_neg hy).symm];exact h3) (Nat.le_trans (digs_len_mono (Int.natAbs_ediv_le_natAbs x y)) (Vz_len h1)),h4⟩
theorem make_neg {p q:Int}(hq:q<0):(Rat.divInt p q).num= -(p / (Int.gcd p q:Int))∧((Rat.divInt p q).den:Int)= -(q / (Int.gcd p q:Int)):=by
 have:=make_low (p:= -p) (q:= -q) (by omega)
 rw [Rat.neg_divInt_neg,Int.neg_gcd,Int.gcd_neg,Int.neg_ediv_of_dvd (Int.gcd_dvd_left ..),Int.neg_ediv_of_dvd (Int.gcd_dvd_right ..)] at this
 exact this
theorem quo_sign {p q:Int}(hz:q≠0):q / (Int.gcd p q:Int)<0↔q<0:=by
 have hg:(0:Int)<Int.gcd p q:=by have:=Int.gcd_pos_of_ne_zero_right p (b:=q) hz;omega
 have d2:(Int.gcd p q:Int)∣q:=Int.gcd_dvd_right ..
 have e:=Int.ediv_mul_cancel d2
 constructor
 ·intro h;rcases Int.lt_or_le q 0 with h1|h1
  ·exact h1
  ·have:=Int.ediv_nonneg h1 (Int.le_of_lt hg);omega
 ·intro h;rcases Int.lt_or_le (q / (Int.gcd p q:Int)) 0 with h1|h1
  ·exact h1
  ·have:=Int.mul_nonneg h1 (Int.le_of_lt hg);omega
theorem made1 {N:Nat}{r:Rat}{a b:Int}{v:Value}{w:World}(hr:r.num=a∧(r.den:Int)=b)(hb:b=1)(h:VP2 2 2 (Vz N a) (Vz N 0) v w):Vq N r v w:=by
 have e:qd r=0:=if_pos (by have:=hr.2;omega)
 unfold Vq;rw [hr.1,e];exact h
theorem made2 {N:Nat}{r:Rat}{a b:Int}{v:Value}{w:World}(hr:r.num=a∧(r.den:Int)=b)(hb:¬b=1)(h:VP2 2 2 (Vz N a) (Vz N b) v w):Vq N r v w:=by
 have e:qd r=b:=(by unfold qd;rw [if_neg (by have:=hr.2;omega)];exact hr.2)
 unfold Vq;rw [hr.1,e];exact h
theorem cR4Den {w:World}{N:Nat}{q:Rat}{v0:Value}(h0:Vq N (q) v0 w)(hN:3≤N):Calls Tryz.prog 115 #[v0] w (RV (Vz N (q.den:Int)) w):=by
 go_enter Tryz.func115,Tryz.ntmps115
 have st0:St w.heap.size w 11 [] [(0,Vq N (q))] _ w:=St.begin (a:=⟨#[v0,undef,undef,undef,undef,undef,undef,undef,undef,undef,undef],[]⟩) rfl rfl (Lq.2 ⟨⟨_,rfl,h0⟩,(fun _ h=>absurd h (by simp))⟩)
 generalize(⟨_,_⟩:Act)=a0 at st0 ⊢
 repeat first|refine Wq ?_|refine Wb ?_|refine Wk ?_|refine Wx ?_
 refine rg (BT:=[(31,2,0)]) (Vl:=[VT,VT]) (B:=[⟨1,some 0,some 0,33,4,Vq N (q),VT⟩,⟨2,some 1,none,31,2,VT,VT⟩]) (SL':=[]) st0 ⟨ks,ks,trivial⟩ ?_
 intro a1 w1 st1
 clear st0
 repeat first|refine Wq ?_|refine Wb ?_|refine Wk ?_|refine Wx ?_
 refine rg (BT:=[(31,2,0)]) (Vl:=[Vpt a1 1 2,Vpt a1 1 3,VD N (qd (q)),Vi (((digs (qd (q)).natAbs).length:Int)),Vb (decide (q.den=1))]) (B:=[⟨1,none,none,33,4,Vq N (q),VT⟩,⟨2,none,none,31,2,VT,VT⟩]) (SL':=[(7,Vb (decide (q.den=1)))]) st1 ⟨ks,ks,ks,?s3,?s4,trivial⟩ ?_
 case s3=>refine kr fun _ A Y h D=>?_;obtain⟨v0,x0,X0⟩:=h.dp D 5;obtain⟨pp,nn,cc,rfl,hnn,-⟩:=X0;exact⟨_,run_len rfl rfl x0,by rw [hnn];rfl⟩
 case s4=>
  refine kr fun _ A Y h D=>?_
  obtain⟨v0,x0,X0⟩:=h.dp D 6
  have hV0':v0= .int .i64 (((digs (qd (q)).natAbs).length:Int)):=X0
  exact⟨_,run_eqi rfl (x0.trans hV0') rfl,congrArg Value.bool (by rw [len_eq0];exact decide_eq_decide.2 (qd0 q))⟩
 intro a2 w2 st2
 clear st1
 repeat first|refine Wq ?_|refine Wb ?_|refine Wk ?_|refine Wx ?_
 obtain⟨vc,hc1,hc2⟩:=st2.slot (7,Vb (decide (q.den=1))) (.head _)
 by_cases hcc:q.den=1
 ·refine wp_cond_true (hc1.trans (hc2.trans (congrArg Value.bool (dT hcc)))) ?_
  clear hc1 hc2
  repeat first|refine Wq ?_|refine Wb ?_|refine Wk ?_|refine Wx ?_
  refine rg (BT:=[(31,2,0)]) (Vl:=[Vz 3 (1),VT]) (B:=[⟨1,none,none,33,4,Vq N (q),VT⟩,⟨2,none,some 1,31,2,Vz 3 (1),VT⟩]) (SL':=[(7,Vb (decide (q.den=1)))]) st2 ⟨?s0,ks,trivial⟩ ?_
  case s0=>refine kc fun _ A Y h D=>?_;exact⟨#[.int .i64 (1)],by simp [eval_const],cROf (1) (by omega) (by omega)⟩
  intro a3 w3 st3
  clear st2
  repeat first|refine Wq ?_|refine Wb ?_|refine Wk ?_|refine Wx ?_
  obtain⟨g,cs,r1,r2,r3,r4,r5⟩:=st3.res ⟨2,none,none,31,2,Vz 3 (1),VT⟩ (.tail _ (.head _)) rfl rfl
  exact wp_ret (bodyPost_ret (results_cell_row rfl _ _ g 31 cs (0,0) _ r1 r2 Tryz.underlying31 rfl (by rw [r3];exact size_Int)) st3.defers ⟨_,rfl,(by rw [show(q.den:Int)=1 by omega];exact Vz_le r4 hN),r5⟩)
 ·refine wp_cond_false (hc1.trans (hc2.trans (congrArg Value.bool (dF hcc)))) ?_
  clear hc1 hc2
  repeat first|refine Wq ?_|refine Wb ?_|refine Wk ?_|refine Wx ?_
  refine rg (BT:=[(31,2,0)]) (Vl:=[Vpt a2 1 2,Vz N (qd (q)),VT]) (B:=[⟨1,none,none,33,4,Vq N (q),VT⟩,⟨2,none,some 2,31,2,Vz N (qd (q)),VT⟩]) (SL':=[(7,Vb (decide (q.den=1)))]) st2 ⟨ks,ks,ks,trivial⟩ ?_
  intro a3 w3 st3
  clear st2
  repeat first|refine Wq ?_|refine Wb ?_|refine Wk ?_|refine Wx ?_
  obtain⟨g,cs,r1,r2,r3,r4,r5⟩:=st3.res ⟨2,none,none,31,2,Vz N (qd (q)),VT⟩ (.tail _ (.head _)) rfl rfl
  exact wp_ret (bodyPost_ret (results_cell_row rfl _ _ g 31 cs (0,0) _ r1 r2 Tryz.underlying31 rfl (by rw [r3];exact size_Int)) st3.defers ⟨_,rfl,(by rw [show(q.den:Int)=qd q from(if_neg hcc).symm];exact r4),r5⟩)
theorem cR4Make {w:World}{N:Nat}{p q:Int}{v0 v1:Value}(h0:Vz N (p) v0 w)(h1:Vz N (q) v1 w)(h3:3≤N)(hN:N≤1000000):Calls Tryz.prog 101 #[v0,v1] w (RV (Vq N (Rat.divInt p q)) w):=by
 go_enter Tryz.func101,Tryz.ntmps101
 have st0:St w.heap.size w 49 [] [(0,Vz N (p)),(1,Vz N (q))] _ w:=St.begin (a:=⟨#[v0,v1,undef,undef,undef,undef,undef,undef,undef,undef,undef,undef,undef,undef,undef,undef,undef,undef,undef,undef,undef,undef,undef,undef,undef,undef,undef,undef,undef,undef,undef,undef,undef,undef,undef,undef,undef,undef,undef,undef,undef,undef,undef,undef,undef,undef,undef,undef,undef],[]⟩) rfl rfl (Lq.2 ⟨⟨_,rfl,h0⟩,(Lq.2 ⟨⟨_,rfl,h1⟩,(fun _ h=>absurd h (by simp))⟩)⟩)
 generalize(⟨_,_⟩:Act)=a0 at st0 ⊢
 repeat first|refine Wq ?_|refine Wb ?_|refine Wk ?_|refine Wx ?_
 refine rg (BT:=[(33,4,0),(31,2,0)]) (Vl:=[VT,VT,VT]) (B:=[⟨2,some 0,some 0,31,2,Vz N (p),VT⟩,⟨3,some 1,some 1,31,2,Vz N (q),VT⟩,⟨4,some 2,none,33,4,VT,VT⟩]) (SL':=[]) st0 ⟨ks,ks,ks,trivial⟩ ?_
 intro a1 w1 st1
 clear st0
 by_cases hz:q=0
 ·
  repeat first|refine Wq ?_|refine Wb ?_|refine Wk ?_|refine Wx ?_
  refine rg (BT:=[(33,4,0),(31,2,0)]) (Vl:=[Vpt a1 3 1,VD N (q),Vi (((digs (q).natAbs).length:Int)),Vb (true),Vb (true),VT,VT,VT,VT,Vb (true)]) (B:=[⟨2,none,none,31,2,Vz N (p),VT⟩,⟨3,none,none,31,2,Vz N (q),VT⟩,⟨4,none,none,33,4,VT,VT⟩]) (SL':=[(19,Vb (true))]) st1 ⟨ks,ks,?s2,?s3,ks,ks,ks,ks,ks,ks,trivial⟩ ?_
  case s2=>refine kr fun _ A Y h D=>?_;obtain⟨v0,x0,X0⟩:=h.dp D 11;obtain⟨pp,nn,cc,rfl,hnn,-⟩:=X0;exact⟨_,run_len rfl rfl x0,by rw [hnn];rfl⟩
  case s3=>
   refine kr fun _ A Y h D=>?_
   obtain⟨v0,x0,X0⟩:=h.dp D 12
   have hV0':v0= .int .i64 (((digs (q).natAbs).length:Int)):=X0
   exact⟨_,run_eqi rfl (x0.trans hV0') rfl,congrArg Value.bool (by rw [len_eq0];exact dT hz)⟩
  intro a2 w2 st2
  clear st1
  repeat first|refine Wq ?_|refine Wb ?_|refine Wk ?_|refine Wx ?_
  obtain⟨vc,hc1,hc2⟩:=st2.slot (19,Vb (true)) (.head _)
  refine wp_cond_true (hc1.trans hc2) ?_
  clear hc1 hc2
  repeat first|refine Wq ?_|refine Wb ?_|refine Wk ?_|refine Wx ?_
  refine rg (BT:=[(33,4,0),(31,2,0)]) (Vl:=[Vq 1 (0),VT]) (B:=[⟨2,none,none,31,2,Vz N (p),VT⟩,⟨3,none,none,31,2,Vz N (q),VT⟩,⟨4,none,some 1,33,4,Vq 1 (0),VT⟩]) (SL':=[(19,Vb (true))]) st2 ⟨?s0,ks,trivial⟩ ?_
  case s0=>exact kr fun _ A Y h D=>build_Rat0 rfl
  intro a3 w3 st3
  clear st2
  repeat first|refine Wq ?_|refine Wb ?_|refine Wk ?_|refine Wx ?_
  obtain⟨g,cs,r1,r2,r3,r4,r5⟩:=st3.res ⟨4,none,none,33,4,Vq 1 (0),VT⟩ (.tail _ (.tail _ (.head _))) rfl rfl
  exact wp_ret (bodyPost_ret (results_cell_row rfl _ _ g 33 cs (0,0) _ r1 r2 Tryz.underlying33 rfl (by rw [r3];exact size_Rat)) st3.defers ⟨_,rfl,(by rw [hz,Rat.divInt_zero];exact Vq_le r4 (by omega)),r5⟩)
 ·
  by_cases hp:p=0
  ·
   repeat first|refine Wq ?_|refine Wb ?_|refine Wk ?_|refine Wx ?_
   refine rg (BT:=[(33,4,0),(31,2,0)]) (Vl:=[Vpt a1 3 1,VD N (q),Vi (((digs (q).natAbs).length:Int)),Vb (false),Vb (false),Vpt a1 2 1,VD N (p),Vi (((digs (p).natAbs).length:Int)),Vb (true),Vb (true)]) (B:=[⟨2,none,none,31,2,Vz N (p),VT⟩,⟨3,none,none,31,2,Vz N (q),VT⟩,⟨4,none,none,33,4,VT,VT⟩]) (SL':=[(19,Vb (true))]) st1 ⟨ks,ks,?s2,?s3,ks,ks,ks,?s7,?s8,ks,trivial⟩ ?_
   case s2=>refine kr fun _ A Y h D=>?_;obtain⟨v0,x0,X0⟩:=h.dp D 11;obtain⟨pp,nn,cc,rfl,hnn,-⟩:=X0;exact⟨_,run_len rfl rfl x0,by rw [hnn];rfl⟩
   case s3=>
    refine kr fun _ A Y h D=>?_
    obtain⟨v0,x0,X0⟩:=h.dp D 12
    have hV0':v0= .int .i64 (((digs (q).natAbs).length:Int)):=X0
    exact⟨_,run_eqi rfl (x0.trans hV0') rfl,congrArg Value.bool (by rw [len_eq0];exact dF hz)⟩
   case s7=>refine kr fun _ A Y h D=>?_;obtain⟨v0,x0,X0⟩:=h.dp D 16;obtain⟨pp,nn,cc,rfl,hnn,-⟩:=X0;exact⟨_,run_len rfl rfl x0,by rw [hnn];rfl⟩
   case s8=>
    refine kr fun _ A Y h D=>?_
    obtain⟨v0,x0,X0⟩:=h.dp D 17
    have hV0':v0= .int .i64 (((digs (p).natAbs).length:Int)):=X0
    exact⟨_,run_eqi rfl (x0.trans hV0') rfl,congrArg Value.bool (by rw [len_eq0];exact dT hp)⟩
   intro a2 w2 st2
   clear st1
   repeat first|refine Wq ?_|refine Wb ?_|refine Wk ?_|refine Wx ?_
   obtain⟨vc,hc1,hc2⟩:=st2.slot (19,Vb (true)) (.head _)
   refine wp_cond_true (hc1.trans hc2) ?_
   clear hc1 hc2
   repeat first|refine Wq ?_|refine Wb ?_|refine Wk ?_|refine Wx ?_
   refine rg (BT:=[(33,4,0),(31,2,0)]) (Vl:=[Vq 1 (0),VT]) (B:=[⟨2,none,none,31,2,Vz N (p),VT⟩,⟨3,none,none,31,2,Vz N (q),VT⟩,⟨4,none,some 1,33,4,Vq 1 (0),VT⟩]) (SL':=[(19,Vb (true))]) st2 ⟨?s0,ks,trivial⟩ ?_
   case s0=>exact kr fun _ A Y h D=>build_Rat0 rfl
   intro a3 w3 st3
   clear st2
   repeat first|refine Wq ?_|refine Wb ?_|refine Wk ?_|refine Wx ?_
   obtain⟨g,cs,r1,r2,r3,r4,r5⟩:=st3.res ⟨4,none,none,33,4,Vq 1 (0),VT⟩ (.tail _ (.tail _ (.head _))) rfl rfl
   exact wp_ret (bodyPost_ret (results_cell_row rfl _ _ g 33 cs (0,0) _ r1 r2 Tryz.underlying33 rfl (by rw [r3];exact size_Rat)) st3.defers ⟨_,rfl,(by rw [hp,Rat.zero_divInt];exact Vq_le r4 (by omega)),r5⟩)
  ·
   repeat first|refine Wq ?_|refine Wb ?_|refine Wk ?_|refine Wx ?_
   refine rg (BT:=[(33,4,0),(31,2,0)]) (Vl:=[Vpt a1 3 1,VD N (q),Vi (((digs (q).natAbs).length:Int)),Vb (false),Vb (false),Vpt a1 2 1,VD N (p),Vi (((digs (p).natAbs).length:Int)),Vb (false),Vb (false)]) (B:=[⟨2,none,none,31,2,Vz N (p),VT⟩,⟨3,none,none,31,2,Vz N (q),VT⟩,⟨4,none,none,33,4,VT,VT⟩]) (SL':=[(19,Vb (false))]) st1 ⟨ks,ks,?s2,?s3,ks,ks,ks,?s7,?s8,ks,trivial⟩ ?_
   case s2=>refine kr fun _ A Y h D=>?_;obtain⟨v0,x0,X0⟩:=h.dp D 11;obtain⟨pp,nn,cc,rfl,hnn,-⟩:=X0;exact⟨_,run_len rfl rfl x0,by rw [hnn];rfl⟩
   case s3=>
    refine kr fun _ A Y h D=>?_
    obtain⟨v0,x0,X0⟩:=h.dp D 12
    have hV0':v0= .int .i64 (((digs (q).natAbs).length:Int)):=X0
    exact⟨_,run_eqi rfl (x0.trans hV0') rfl,congrArg Value.bool (by rw [len_eq0];exact dF hz)⟩
   case s7=>refine kr fun _ A Y h D=>?_;obtain⟨v0,x0,X0⟩:=h.dp D 16;obtain⟨pp,nn,cc,rfl,hnn,-⟩:=X0;exact⟨_,run_len rfl rfl x0,by rw [hnn];rfl⟩
   case s8=>
    refine kr fun _ A Y h D=>?_
    obtain⟨v0,x0,X0⟩:=h.dp D 17
    have hV0':v0= .int .i64 (((digs (p).natAbs).length:Int)):=X0
    exact⟨_,run_eqi rfl (x0.trans hV0') rfl,congrArg Value.bool (by rw [len_eq0];exact dF hp)⟩
   intro a2 w2 st2
   clear st1
   repeat first|refine Wq ?_|refine Wb ?_|refine Wk ?_|refine Wx ?_
   obtain⟨vc,hc1,hc2⟩:=st2.slot (19,Vb (false)) (.head _)
   refine wp_cond_false (hc1.trans hc2) ?_
   clear hc1 hc2
   repeat first|refine Wq ?_|refine Wb ?_|refine Wk ?_|refine Wx ?_
   refine rg (BT:=[(33,4,0),(31,2,0)]) (Vl:=[Vz N (p),Vz N (q),Vz N ((Int.gcd (p) (q):Int)),VT,VT]) (B:=[⟨2,none,none,31,2,Vz N (p),VT⟩,⟨3,none,none,31,2,Vz N (q),VT⟩,⟨4,none,none,33,4,VT,VT⟩,⟨5,some 3,some 4,31,2,Vz N ((Int.gcd (p) (q):Int)),VT⟩]) (SL':=[(19,Vb (false))]) st2 ⟨ks,ks,?s2,ks,ks,trivial⟩ ?_
   case s2=>exact kd2 fun _ _ _ _ _ X0 _ X1=>cRGcd X0 X1 (by omega) (by omega)
   intro a3 w3 st3
   clear st2
   repeat first|refine Wq ?_|refine Wb ?_|refine Wk ?_|refine Wx ?_
   refine rg (BT:=[(33,4,0),(31,2,0)]) (Vl:=[Vz N (p),Vz N ((Int.gcd (p) (q):Int)),VTup (Vz N ((p) / ((Int.gcd (p) (q):Int)))) (Vz N (dr (p) ((Int.gcd (p) (q):Int)))),VTup (Vz N ((p) / ((Int.gcd (p) (q):Int)))) (Vz N (dr (p) ((Int.gcd (p) (q):Int)))),Vz N ((p) / ((Int.gcd (p) (q):Int))),Vz N (dr (p) ((Int.gcd (p) (q):Int))),VT,VT,VT,VT]) (B:=[⟨2,none,none,31,2,Vz N (p),VT⟩,⟨3,none,none,31,2,Vz N (q),VT⟩,⟨4,none,none,33,4,VT,VT⟩,⟨5,none,none,31,2,Vz N ((Int.gcd (p) (q):Int)),VT⟩,⟨6,some 6,some 8,31,2,Vz N ((p) / ((Int.gcd (p) (q):Int))),VT⟩,⟨7,some 7,some 9,31,2,Vz N (dr (p) ((Int.gcd (p) (q):Int))),VT⟩]) (SL':=[(19,Vb (false))]) st3 ⟨ks,ks,?s2,ks,ks,ks,ks,ks,ks,ks,trivial⟩ ?_
   case s2=>exact kd2 fun _ _ _ _ _ X0 _ X1=>(cRDivG X0 X1 (gcd_ne_r hz) (by omega) (by omega) (by omega) (by omega))
   intro a4 w4 st4
   clear st3
   repeat first|refine Wq ?_|refine Wb ?_|refine Wk ?_|refine Wx ?_
   refine rg (BT:=[(33,4,0),(31,2,0)]) (Vl:=[Vz N (q),Vz N ((Int.gcd (p) (q):Int)),VTup (Vz N ((q) / ((Int.gcd (p) (q):Int)))) (Vz N (dr (q) ((Int.gcd (p) (q):Int)))),VTup (Vz N ((q) / ((Int.gcd (p) (q):Int)))) (Vz N (dr (q) ((Int.gcd (p) (q):Int)))),Vz N ((q) / ((Int.gcd (p) (q):Int))),Vz N (dr (q) ((Int.gcd (p) (q):Int))),VT,VT,VT,VT]) (B:=[⟨2,none,none,31,2,Vz N (p),VT⟩,⟨3,none,none,31,2,Vz N (q),VT⟩,⟨4,none,none,33,4,VT,VT⟩,⟨5,none,none,31,2,Vz N ((Int.gcd (p) (q):Int)),VT⟩,⟨6,none,none,31,2,Vz N ((p) / ((Int.gcd (p) (q):Int))),VT⟩,⟨7,none,none,31,2,Vz N (dr (p) ((Int.gcd (p) (q):Int))),VT⟩,⟨8,some 6,some 8,31,2,Vz N ((q) / ((Int.gcd (p) (q):Int))),VT⟩,⟨9,some 7,some 9,31,2,Vz N (dr (q) ((Int.gcd (p) (q):Int))),VT⟩]) (SL':=[(19,Vb (false))]) st4 ⟨ks,ks,?s2,ks,ks,ks,ks,ks,ks,ks,trivial⟩ ?_
   case s2=>exact kd2 fun _ _ _ _ _ X0 _ X1=>(cRDivG X0 X1 (gcd_ne_r hz) (by omega) (by omega) (by omega) (by omega))
   intro a5 w5 st5
   clear st4
   by_cases hl:q<0
   ·
    repeat first|refine Wq ?_|refine Wb ?_|refine Wk ?_|refine Wx ?_
    refine rg (BT:=[(33,4,0),(31,2,0)]) (Vl:=[Vpt a5 8 0,Vb (true)]) (B:=[⟨2,none,none,31,2,Vz N (p),VT⟩,⟨3,none,none,31,2,Vz N (q),VT⟩,⟨4,none,none,33,4,VT,VT⟩,⟨5,none,none,31,2,Vz N ((Int.gcd (p) (q):Int)),VT⟩,⟨6,none,none,31,2,Vz N ((p) / ((Int.gcd (p) (q):Int))),VT⟩,⟨7,none,none,31,2,Vz N (dr (p) ((Int.gcd (p) (q):Int))),VT⟩,⟨8,none,none,31,2,Vz N ((q) / ((Int.gcd (p) (q):Int))),VT⟩,⟨9,none,none,31,2,Vz N (dr (q) ((Int.gcd (p) (q):Int))),VT⟩]) (SL':=[(19,Vb (false)),(37,Vb (true))]) st5 ⟨ks,?s1,trivial⟩ ?_
    case s1=>
     exact k_cell (j:=0) (off:=0) SbB.out (by kernel_rfl) (.tail _ (.tail _ (.tail _ (.tail _ (.tail _ (.tail _ (.head _))))))) rfl rfl rfl (by kernel_rfl) (by kernel_rfl) rfl (by kernel_rfl) (fun cs w h=>vz_NT h ((quo_sign hz).2 hl)) Tryz.underlying4 rfl fun listed A Y h D=>⟨trivial,trivial⟩
    intro a6 w6 st6
    clear st5
    repeat first|refine Wq ?_|refine Wb ?_|refine Wk ?_|refine Wx ?_
    obtain⟨vc,hc1,hc2⟩:=st6.slot (37,Vb (true)) (.tail _ (.head _))
    refine wp_cond_true (hc1.trans hc2) ?_
    clear hc1 hc2
    repeat first|refine Wq ?_|refine Wb ?_|refine Wk ?_|refine Wx ?_
    refine rg (BT:=[(33,4,0),(31,2,0)]) (Vl:=[Vz N ((p) / ((Int.gcd (p) (q):Int))),Vz N (-((p) / ((Int.gcd (p) (q):Int)))),VT]) (B:=[⟨2,none,none,31,2,Vz N (p),VT⟩,⟨3,none,none,31,2,Vz N (q),VT⟩,⟨4,none,none,33,4,VT,VT⟩,⟨5,none,none,31,2,Vz N ((Int.gcd (p) (q):Int)),VT⟩,⟨6,none,some 2,31,2,Vz N (-((p) / ((Int.gcd (p) (q):Int)))),Vz N ((p) / ((Int.gcd (p) (q):Int)))⟩,⟨7,none,none,31,2,Vz N (dr (p) ((Int.gcd (p) (q):Int))),VT⟩,⟨8,none,none,31,2,Vz N ((q) / ((Int.gcd (p) (q):Int))),VT⟩,⟨9,none,none,31,2,Vz N (dr (q) ((Int.gcd (p) (q):Int))),VT⟩]) (SL':=[(19,Vb (false)),(37,Vb (true))]) st6 ⟨ks,?s1,ks,trivial⟩ ?_
    case s1=>exact kd1 fun _ _ _ _ _ X0=>cRNeg X0
    intro a7 w7 st7
    clear st6
    repeat first|refine Wq ?_|refine Wb ?_|refine Wk ?_|refine Wx ?_
    refine rg (BT:=[(33,4,0),(31,2,0)]) (Vl:=[Vz N ((q) / ((Int.gcd (p) (q):Int))),Vz N (-((q) / ((Int.gcd (p) (q):Int)))),VT]) (B:=[⟨2,none,none,31,2,Vz N (p),VT⟩,⟨3,none,none,31,2,Vz N (q),VT⟩,⟨4,none,none,33,4,VT,VT⟩,⟨5,none,none,31,2,Vz N ((Int.gcd (p) (q):Int)),VT⟩,⟨6,none,none,31,2,Vz N (-((p) / ((Int.gcd (p) (q):Int)))),VT⟩,⟨7,none,none,31,2,Vz N (dr (p) ((Int.gcd (p) (q):Int))),VT⟩,⟨8,none,some 2,31,2,Vz N (-((q) / ((Int.gcd (p) (q):Int)))),Vz N ((q) / ((Int.gcd (p) (q):Int)))⟩,⟨9,none,none,31,2,Vz N (dr (q) ((Int.gcd (p) (q):Int))),VT⟩]) (SL':=[(19,Vb (false)),(37,Vb (true))]) st7 ⟨ks,?s1,ks,trivial⟩ ?_
    case s1=>exact kd1 fun _ _ _ _ _ X0=>cRNeg X0
    intro a8 w8 st8
    clear st7
    repeat first|refine Wq ?_|refine Wb ?_|refine Wk ?_|refine Wx ?_
    refine rg (BT:=[(33,4,0),(31,2,0)]) (Vl:=[Vz N (-((q) / ((Int.gcd (p) (q):Int)))),Vb (decide ((-((q) / ((Int.gcd (p) (q):Int))))=1))]) (B:=[⟨2,none,none,31,2,Vz N (p),VT⟩,⟨3,none,none,31,2,Vz N (q),VT⟩,⟨4,none,none,33,4,VT,VT⟩,⟨5,none,none,31,2,Vz N ((Int.gcd (p) (q):Int)),VT⟩,⟨6,none,none,31,2,Vz N (-((p) / ((Int.gcd (p) (q):Int)))),VT⟩,⟨7,none,none,31,2,Vz N (dr (p) ((Int.gcd (p) (q):Int))),VT⟩,⟨8,none,none,31,2,Vz N (-((q) / ((Int.gcd (p) (q):Int)))),VT⟩,⟨9,none,none,31,2,Vz N (dr (q) ((Int.gcd (p) (q):Int))),VT⟩]) (SL':=[(19,Vb (false)),(37,Vb (true)),(43,Vb (decide ((-((q) / ((Int.gcd (p) (q):Int))))=1)))]) st8 ⟨ks,?s1,trivial⟩ ?_
    case s1=>exact kd1 fun _ _ _ _ _ X0=>cR4One X0
    intro a9 w9 st9
    clear st8
    repeat first|refine Wq ?_|refine Wb ?_|refine Wk ?_|refine Wx ?_
    obtain⟨vc,hc1,hc2⟩:=st9.slot (43,Vb (decide ((-((q) / ((Int.gcd (p) (q):Int))))=1))) (.tail _ (.tail _ (.head _)))
    by_cases hcc: -((q) / ((Int.gcd (p) (q):Int)))=1
    ·refine wp_cond_true (hc1.trans (hc2.trans (congrArg Value.bool (dT hcc)))) ?_
     clear hc1 hc2
     repeat first|refine Wq ?_|refine Wb ?_|refine Wk ?_|refine Wx ?_
     refine rg (BT:=[(33,4,0),(31,2,0)]) (Vl:=[Vz N (-((p) / ((Int.gcd (p) (q):Int)))),VP2 2 2 (Vz N (-((p) / ((Int.gcd (p) (q):Int))))) (Vz N 0),VT]) (B:=[⟨2,none,none,31,2,Vz N (p),VT⟩,⟨3,none,none,31,2,Vz N (q),VT⟩,⟨4,none,some 2,33,4,VP2 2 2 (Vz N (-((p) / ((Int.gcd (p) (q):Int))))) (Vz N 0),VT⟩,⟨5,none,none,31,2,Vz N ((Int.gcd (p) (q):Int)),VT⟩,⟨6,none,none,31,2,Vz N (-((p) / ((Int.gcd (p) (q):Int)))),VT⟩,⟨7,none,none,31,2,Vz N (dr (p) ((Int.gcd (p) (q):Int))),VT⟩,⟨8,none,none,31,2,Vz N (-((q) / ((Int.gcd (p) (q):Int)))),VT⟩,⟨9,none,none,31,2,Vz N (dr (q) ((Int.gcd (p) (q):Int))),VT⟩]) (SL':=[(19,Vb (false)),(37,Vb (true)),(43,Vb (decide ((-((q) / ((Int.gcd (p) (q):Int))))=1)))]) st9 ⟨ks,?s1,ks,trivial⟩ ?_
     case s1=>refine kr fun _ A Y h D=>?_;obtain⟨v0,x0,X0⟩:=h.dp D 44;exact build_Rat1 N rfl x0 (AggV_Vz _ _) X0
     intro a10 w10 st10
     clear st9
     repeat first|refine Wq ?_|refine Wb ?_|refine Wk ?_|refine Wx ?_
     obtain⟨g,cs,r1,r2,r3,r4,r5⟩:=st10.res ⟨4,none,none,33,4,VP2 2 2 (Vz N (-((p) / ((Int.gcd (p) (q):Int))))) (Vz N 0),VT⟩ (.tail _ (.tail _ (.head _))) rfl rfl
     exact wp_ret (bodyPost_ret (results_cell_row rfl _ _ g 33 cs (0,0) _ r1 r2 Tryz.underlying33 rfl (by rw [r3];exact size_Rat)) st10.defers ⟨_,rfl,(made1 (make_neg hl) hcc r4),r5⟩)
    ·refine wp_cond_false (hc1.trans (hc2.trans (congrArg Value.bool (dF hcc)))) ?_
     clear hc1 hc2
     repeat first|refine Wq ?_|refine Wb ?_|refine Wk ?_|refine Wx ?_
     refine rg (BT:=[(33,4,0),(31,2,0)]) (Vl:=[Vz N (-((p) / ((Int.gcd (p) (q):Int)))),Vz N (-((q) / ((Int.gcd (p) (q):Int)))),VP2 2 2 (Vz N (-((p) / ((Int.gcd (p) (q):Int))))) (Vz N (-((q) / ((Int.gcd (p) (q):Int))))),VT]) (B:=[⟨2,none,none,31,2,Vz N (p),VT⟩,⟨3,none,none,31,2,Vz N (q),VT⟩,⟨4,none,some 3,33,4,VP2 2 2 (Vz N (-((p) / ((Int.gcd (p) (q):Int))))) (Vz N (-((q) / ((Int.gcd (p) (q):Int))))),VT⟩,⟨5,none,none,31,2,Vz N ((Int.gcd (p) (q):Int)),VT⟩,⟨6,none,none,31,2,Vz N (-((p) / ((Int.gcd (p) (q):Int)))),VT⟩,⟨7,none,none,31,2,Vz N (dr (p) ((Int.gcd (p) (q):Int))),VT⟩,⟨8,none,none,31,2,Vz N (-((q) / ((Int.gcd (p) (q):Int)))),VT⟩,⟨9,none,none,31,2,Vz N (dr (q) ((Int.gcd (p) (q):Int))),VT⟩]) (SL':=[(19,Vb (false)),(37,Vb (true)),(43,Vb (decide ((-((q) / ((Int.gcd (p) (q):Int))))=1)))]) st9 ⟨ks,ks,?s2,ks,trivial⟩ ?_
     case s2=>refine kr fun _ A Y h D=>?_;obtain⟨v0,x0,X0⟩:=h.dp D 46;obtain⟨v1,x1,X1⟩:=h.dp D 47;exact build_Rat rfl x0 x1 (AggV_Vz _ _) (AggV_Vz _ _) X0 X1
     intro a10 w10 st10
     clear st9
     repeat first|refine Wq ?_|refine Wb ?_|refine Wk ?_|refine Wx ?_
     obtain⟨g,cs,r1,r2,r3,r4,r5⟩:=st10.res ⟨4,none,none,33,4,VP2 2 2 (Vz N (-((p) / ((Int.gcd (p) (q):Int))))) (Vz N (-((q) / ((Int.gcd (p) (q):Int))))),VT⟩ (.tail _ (.tail _ (.head _))) rfl rfl
     exact wp_ret (bodyPost_ret (results_cell_row rfl _ _ g 33 cs (0,0) _ r1 r2 Tryz.underlying33 rfl (by rw [r3];exact size_Rat)) st10.defers ⟨_,rfl,(made2 (make_neg hl) hcc r4),r5⟩)
   ·
    repeat first|refine Wq ?_|refine Wb ?_|refine Wk ?_|refine Wx ?_
    refine rg (BT:=[(33,4,0),(31,2,0)]) (Vl:=[Vpt a5 8 0,Vb (false)]) (B:=[⟨2,none,none,31,2,Vz N (p),VT⟩,⟨3,none,none,31,2,Vz N (q),VT⟩,⟨4,none,none,33,4,VT,VT⟩,⟨5,none,none,31,2,Vz N ((Int.gcd (p) (q):Int)),VT⟩,⟨6,none,none,31,2,Vz N ((p) / ((Int.gcd (p) (q):Int))),VT⟩,⟨7,none,none,31,2,Vz N (dr (p) ((Int.gcd (p) (q):Int))),VT⟩,⟨8,none,none,31,2,Vz N ((q) / ((Int.gcd (p) (q):Int))),VT⟩,⟨9,none,none,31,2,Vz N (dr (q) ((Int.gcd (p) (q):Int))),VT⟩]) (SL':=[(19,Vb (false)),(37,Vb (false))]) st5 ⟨ks,?s1,trivial⟩ ?_
    case s1=>
     exact k_cell (j:=0) (off:=0) SbB.out (by kernel_rfl) (.tail _ (.tail _ (.tail _ (.tail _ (.tail _ (.tail _ (.head _))))))) rfl rfl rfl (by kernel_rfl) (by kernel_rfl) rfl (by kernel_rfl) (fun cs w h=>vz_NF h (fun h=>hl ((quo_sign hz).1 h))) Tryz.underlying4 rfl fun listed A Y h D=>⟨trivial,trivial⟩
    intro a6 w6 st6
    clear st5
    repeat first|refine Wq ?_|refine Wb ?_|refine Wk ?_|refine Wx ?_
    obtain⟨vc,hc1,hc2⟩:=st6.slot (37,Vb (false)) (.tail _ (.head _))
    refine wp_cond_false (hc1.trans hc2) ?_
    clear hc1 hc2
    repeat first|refine Wq ?_|refine Wb ?_|refine Wk ?_|refine Wx ?_
    refine rg (BT:=[(33,4,0),(31,2,0)]) (Vl:=[Vz N ((q) / ((Int.gcd (p) (q):Int))),Vb (decide (((q) / ((Int.gcd (p) (q):Int)))=1))]) (B:=[⟨2,none,none,31,2,Vz N (p),VT⟩,⟨3,none,none,31,2,Vz N (q),VT⟩,⟨4,none,none,33,4,VT,VT⟩,⟨5,none,none,31,2,Vz N ((Int.gcd (p) (q):Int)),VT⟩,⟨6,none,none,31,2,Vz N ((p) / ((Int.gcd (p) (q):Int))),VT⟩,⟨7,none,none,31,2,Vz N (dr (p) ((Int.gcd (p) (q):Int))),VT⟩,⟨8,none,none,31,2,Vz N ((q) / ((Int.gcd (p) (q):Int))),VT⟩,⟨9,none,none,31,2,Vz N (dr (q) ((Int.gcd (p) (q):Int))),VT⟩]) (SL':=[(19,Vb (false)),(37,Vb (false)),(43,Vb (decide (((q) / ((Int.gcd (p) (q):Int)))=1)))]) st6 ⟨ks,?s1,trivial⟩ ?_
    case s1=>exact kd1 fun _ _ _ _ _ X0=>cR4One X0
    intro a7 w7 st7
    clear st6
    repeat first|refine Wq ?_|refine Wb ?_|refine Wk ?_|refine Wx ?_
    obtain⟨vc,hc1,hc2⟩:=st7.slot (43,Vb (decide (((q) / ((Int.gcd (p) (q):Int)))=1))) (.tail _ (.tail _ (.head _)))
    by_cases hcc:(q) / ((Int.gcd (p) (q):Int))=1
    ·refine wp_cond_true (hc1.trans (hc2.trans (congrArg Value.bool (dT hcc)))) ?_
     clear hc1 hc2
     repeat first|refine Wq ?_|refine Wb ?_|refine Wk ?_|refine Wx ?_
     refine rg (BT:=[(33,4,0),(31,2,0)]) (Vl:=[Vz N ((p) / ((Int.gcd (p) (q):Int))),VP2 2 2 (Vz N ((p) / ((Int.gcd (p) (q):Int)))) (Vz N 0),VT]) (B:=[⟨2,none,none,31,2,Vz N (p),VT⟩,⟨3,none,none,31,2,Vz N (q),VT⟩,⟨4,none,some 2,33,4,VP2 2 2 (Vz N ((p) / ((Int.gcd (p) (q):Int)))) (Vz N 0),VT⟩,⟨5,none,none,31,2,Vz N ((Int.gcd (p) (q):Int)),VT⟩,⟨6,none,none,31,2,Vz N ((p) / ((Int.gcd (p) (q):Int))),VT⟩,⟨7,none,none,31,2,Vz N (dr (p) ((Int.gcd (p) (q):Int))),VT⟩,⟨8,none,none,31,2,Vz N ((q) / ((Int.gcd (p) (q):Int))),VT⟩,⟨9,none,none,31,2,Vz N (dr (q) ((Int.gcd (p) (q):Int))),VT⟩]) (SL':=[(19,Vb (false)),(37,Vb (false)),(43,Vb (decide (((q) / ((Int.gcd (p) (q):Int)))=1)))]) st7 ⟨ks,?s1,ks,trivial⟩ ?_
     case s1=>refine kr fun _ A Y h D=>?_;obtain⟨v0,x0,X0⟩:=h.dp D 44;exact build_Rat1 N rfl x0 (AggV_Vz _ _) X0
     intro a8 w8 st8
     clear st7
     repeat first|refine Wq ?_|refine Wb ?_|refine Wk ?_|refine Wx ?_
     obtain⟨g,cs,r1,r2,r3,r4,r5⟩:=st8.res ⟨4,none,none,33,4,VP2 2 2 (Vz N ((p) / ((Int.gcd (p) (q):Int)))) (Vz N 0),VT⟩ (.tail _ (.tail _ (.head _))) rfl rfl
     exact wp_ret (bodyPost_ret (results_cell_row rfl _ _ g 33 cs (0,0) _ r1 r2 Tryz.underlying33 rfl (by rw [r3];exact size_Rat)) st8.defers ⟨_,rfl,(made1 (make_low (by omega)) hcc r4),r5⟩)
    ·refine wp_cond_false (hc1.trans (hc2.trans (congrArg Value.bool (dF hcc)))) ?_
     clear hc1 hc2
     repeat first|refine Wq ?_|refine Wb ?_|refine Wk ?_|refine Wx ?_
     refine rg (BT:=[(33,4,0),(31,2,0)]) (Vl:=[Vz N ((p) / ((Int.gcd (p) (q):Int))),Vz N ((q) / ((Int.gcd (p) (q):Int))),VP2 2 2 (Vz N ((p) / ((Int.gcd (p) (q):Int)))) (Vz N ((q) / ((Int.gcd (p) (q):Int)))),VT]) (B:=[⟨2,none,none,31,2,Vz N (p),VT⟩,⟨3,none,none,31,2,Vz N (q),VT⟩,⟨4,none,some 3,33,4,VP2 2 2 (Vz N ((p) / ((Int.gcd (p) (q):Int)))) (Vz N ((q) / ((Int.gcd (p) (q):Int)))),VT⟩,⟨5,none,none,31,2,Vz N ((Int.gcd (p) (q):Int)),VT⟩,⟨6,none,none,31,2,Vz N ((p) / ((Int.gcd (p) (q):Int))),VT⟩,⟨7,none,none,31,2,Vz N (dr (p) ((Int.gcd (p) (q):Int))),VT⟩,⟨8,none,none,31,2,Vz N ((q) / ((Int.gcd (p) (q):Int))),VT⟩,⟨9,none,none,31,2,Vz N (dr (q) ((Int.gcd (p) (q):Int))),VT⟩]) (SL':=[(19,Vb (false)),(37,Vb (false)),(43,Vb (decide (((q) / ((Int.gcd (p) (q):Int)))=1)))]) st7 ⟨ks,ks,?s2,ks,trivial⟩ ?_
     case s2=>refine kr fun _ A Y h D=>?_;obtain⟨v0,x0,X0⟩:=h.dp D 46;obtain⟨v1,x1,X1⟩:=h.dp D 47;exact build_Rat rfl x0 x1 (AggV_Vz _ _) (AggV_Vz _ _) X0 X1
     intro a8 w8 st8
     clear st7
     repeat first|refine Wq ?_|refine Wb ?_|refine Wk ?_|refine Wx ?_
     obtain⟨g,cs,r1,r2,r3,r4,r5⟩:=st8.res ⟨4,none,none,33,4,VP2 2 2 (Vz N ((p) / ((Int.gcd (p) (q):Int)))) (Vz N ((q) / ((Int.gcd (p) (q):Int)))),VT⟩ (.tail _ (.tail _ (.head _))) rfl rfl
     exact wp_ret (bodyPost_ret (results_cell_row rfl _ _ g 33 cs (0,0) _ r1 r2 Tryz.underlying33 rfl (by rw [r3];exact size_Rat)) st8.defers ⟨_,rfl,(made2 (make_low (by omega)) hcc r4),r5⟩)
end Go.Proofs.YtjdkdjobaabdiaaGreat
