/- Contracts of the packages integer, rat, plane, polygon and their references. -/
import Derived.Test.YteacdbgalloaiaaGreatB11
import Derived.Test.YteacdbgalloaiaaGreatB9
import Derived.Test.YteacdbgalloaiaaGreatB10
set_option linter.unusedVariables false
set_option maxRecDepth 100000
set_option maxHeartbeats 6400000
namespace Go.Proofs.YteacdbgalloaiaaGreat
open Go.RowKit
theorem Vz_len {N:Nat}{z:Int}{v:Value}{w:World}(h:Vz N z v w):(digs z.natAbs).length<=N:=by
 obtain⟨nb,p,n,c,h1,h2,h3⟩:=h;rw [<-h2.2.1];exact h3
theorem Vz_fit {N M:Nat}{z:Int}{v:Value}{w:World}(h:Vz N z v w)(hM:(digs z.natAbs).length<=M):Vz M z v w:=by
 obtain⟨nb,p,n,c,h1,h2,h3⟩:=h;exact⟨nb,p,n,c,h1,h2,by rw [h2.2.1];exact hM⟩
theorem cRDivG {W:World}{Na Nb:Nat}{x y:Int}{v1 v2:Value}(h1:Vz Na x v1 W)(h2:Vz Nb y v2 W)(hy:y≠0:=by omega)(ha:1<=Na:=by omega)(hb:1<=Nb:=by omega)(hNa:Na<=1000000:=by omega)(hNb:Nb<=1000000:=by omega):
 Calls Tryz.prog 119 #[v1,v2] W (RV (VTup (Vz Na (x / y)) (Vz Nb (dr x y))) W):=
 (cRDiv h1 h2 ha hb hNa hNb).mono fun e w' h=>h.le fun v w ⟨a,c,e1,h3,h4⟩=>⟨a,c,e1,Vz_fit (by rw [show x / y=dq x y from(if_neg hy).symm];exact h3) (Nat.le_trans (digs_len_mono (Int.natAbs_ediv_le_natAbs x y)) (Vz_len h1)),h4⟩
theorem make_neg {p q:Int}(hq:q<0):(Rat.divInt p q).num= -(p / (Int.gcd p q:Int))/\((Rat.divInt p q).den:Int)= -(q / (Int.gcd p q:Int)):=by
 have:=make_low (p:= -p) (q:= -q) (by omega);rw [Rat.neg_divInt_neg,Int.neg_gcd,Int.gcd_neg,Int.neg_ediv_of_dvd (Int.gcd_dvd_left ..),Int.neg_ediv_of_dvd (Int.gcd_dvd_right ..)] at this;exact this
theorem quo_sign {p q:Int}(hz:q≠0):q / (Int.gcd p q:Int)<0↔q<0:=by
 have hg:(0:Int)<Int.gcd p q:=by have:=Int.gcd_pos_of_ne_zero_right p (b:=q) hz;omega
 have d2:(Int.gcd p q:Int)∣q:=Int.gcd_dvd_right ..;have e:=Int.ediv_mul_cancel d2;constructor
 ·intro h;rcases Int.lt_or_le q 0 with h1|h1
  ·exact h1
  ·have:=Int.ediv_nonneg h1 (Int.le_of_lt hg);omega
 ·intro h;rcases Int.lt_or_le (q / (Int.gcd p q:Int)) 0 with h1|h1
  ·exact h1
  ·have:=Int.mul_nonneg h1 (Int.le_of_lt hg);omega
theorem made1 {N:Nat}{r:Rat}{a b:Int}{v:Value}{w:World}(hr:r.num=a/\(r.den:Int)=b)(hb:b=1)(h:VP2 2 2 (Vz N a) (Vz N 0) v w):Vq N r v w:=by
 have e:qd r=0:=if_pos (by have:=hr.2;omega);unfold Vq;rw [hr.1,e];exact h
theorem made2 {N:Nat}{r:Rat}{a b:Int}{v:Value}{w:World}(hr:r.num=a/\(r.den:Int)=b)(hb:¬b=1)(h:VP2 2 2 (Vz N a) (Vz N b) v w):Vq N r v w:=by
 have e:qd r=b:=(by unfold qd;rw [if_neg (by have:=hr.2;omega)];exact hr.2);unfold Vq;rw [hr.1,e];exact h
theorem cR4Den {w:World}{N:Nat}{q:Rat}{v0:Value}(h0:Vq N q v0 w)(hN:3<=N:=by omega):Calls Tryz.prog 96 #[v0] w (RV (Vz N (q.den:Int)) w):=by
 go_enter Tryz.func96,Tryz.ntmps96
 refine Sg 11 [(0,Vq N q)] (Lq.2 ⟨⟨_,rfl,h0⟩,L0⟩) fun a0 st0=>Wn ?_
 refine rH [(28,2,0)] [VT,VT] [⟨1,some 0,some 0,30,4,Vq N q,VT⟩,⟨2,some 1,none,28,2,VT,VT⟩] [] st0 ⟨ks,ks,trivial⟩ fun a1 w1 st1=>Wn ?_
 refine rH [(28,2,0)] [Vpt a1 1 2,Vpt a1 1 3,VD N (qd q),Vi ((digs (qd q).natAbs).length:Int),Vb (decide (q.den=1))] [.k 1 30 4 (Vq N q),.k 2 28 2 VT] [(7,Vb (decide (q.den=1)))] st1 ⟨ks,ks,ks,(by refine kr fun _ A Y h D=>?_;obtain⟨v0,x0,X0⟩:=h.dp D 5;obtain⟨pp,nn,cc,rfl,hnn,-⟩:=X0;exact⟨_,run_len rfl rfl x0,by rw [hnn];rfl⟩),(by refine kr fun _ A Y h D=>?_;obtain⟨v0,x0,X0⟩:=h.dp D 6;have hV0':v0= .int .i64 ((digs (qd q).natAbs).length:Int):=X0;exact⟨_,run_eqi rfl (x0.trans hV0') rfl,congrArg Value.bool (by rw [len_eq0];exact decide_eq_decide.2 (qd0 q))⟩),trivial⟩ ?_;intro a2 w2 st2;refine Wn ?_
 obtain⟨vc,hc1,hc2⟩:=st2.slot (7,Vb (decide (q.den=1))) (.head _);by_cases hcc:q.den=1
 ·refine wp_cond_true (hc1.trans (hc2.trans (congrArg Value.bool (dT hcc)))) ?_;clear hc1 hc2;refine Wn ?_
  refine rH [(28,2,0)] [Vz 3 1,VT] [.k 1 30 4 (Vq N q),⟨2,none,some 1,28,2,Vz 3 1,VT⟩] [(7,Vb (decide (q.den=1)))] st2 ⟨(by refine kc fun _ A Y h D=>?_;exact⟨#[.int .i64 1],by simp [eval_const],cROf 1⟩),ks,trivial⟩ ?_;intro a3 w3 st3;refine Wn ?_
  exact wp_ret (rC 2 28 (Vz 3 1) st3 fun cs r4=>(by rw [show(q.den:Int)=1 by omega];exact Vz_le r4 hN))
 ·refine wp_cond_false (hc1.trans (hc2.trans (congrArg Value.bool (dF hcc)))) ?_;clear hc1 hc2;refine Wn ?_
  refine rH [(28,2,0)] [Vpt a2 1 2,Vz N (qd q),VT] [.k 1 30 4 (Vq N q),⟨2,none,some 2,28,2,Vz N (qd q),VT⟩] [(7,Vb (decide (q.den=1)))] st2 ⟨ks,ks,ks,trivial⟩ fun a3 w3 st3=>Wn ?_
  exact wp_ret (rC 2 28 (Vz N (qd q)) st3 fun cs r4=>(by rw [show(q.den:Int)=qd q from(if_neg hcc).symm];exact r4))
theorem cR4Make {w:World}{N:Nat}{p q:Int}{v0 v1:Value}(h0:Vz N p v0 w)(h1:Vz N q v1 w)(h3:3<=N:=by omega)(hN:N<=1000000:=by omega):Calls Tryz.prog 81 #[v0,v1] w (RV (Vq N (Rat.divInt p q)) w):=by
 go_enter Tryz.func81,Tryz.ntmps81
 refine Sg 49 [(0,Vz N p),(1,Vz N q)] (Lq.2 ⟨⟨_,rfl,h0⟩,(Lq.2 ⟨⟨_,rfl,h1⟩,L0⟩)⟩) fun a0 st0=>Wn ?_
 refine rH [(30,4,0),(28,2,0)] [VT,VT,VT] [⟨2,some 0,some 0,28,2,Vz N p,VT⟩,⟨3,some 1,some 1,28,2,Vz N q,VT⟩,⟨4,some 2,none,30,4,VT,VT⟩] [] st0 ⟨ks,ks,ks,trivial⟩ ?_;intro a1 w1 st1;by_cases hz:q=0
 ·
  refine Wn ?_
  refine rH [(30,4,0),(28,2,0)] [Vpt a1 3 1,VD N q,Vi ((digs q.natAbs).length:Int),Vb true,Vb true,VT,VT,VT,VT,Vb true] [.k 2 28 2 (Vz N p),.k 3 28 2 (Vz N q),.k 4 30 4 VT] [(19,Vb true)] st1 ⟨ks,ks,(by refine kr fun _ A Y h D=>?_;obtain⟨v0,x0,X0⟩:=h.dp D 11;obtain⟨pp,nn,cc,rfl,hnn,-⟩:=X0;exact⟨_,run_len rfl rfl x0,by rw [hnn];rfl⟩),(by refine kr fun _ A Y h D=>?_;obtain⟨v0,x0,X0⟩:=h.dp D 12;have hV0':v0= .int .i64 ((digs q.natAbs).length:Int):=X0;exact⟨_,run_eqi rfl (x0.trans hV0') rfl,congrArg Value.bool (by rw [len_eq0];exact dT hz)⟩),ks,ks,ks,ks,ks,ks,trivial⟩ ?_;intro a2 w2 st2;refine Wn ?_
  refine cT st2 ?_;refine Wn ?_
  refine rH [(30,4,0),(28,2,0)] [Vq 1 0,VT] [.k 2 28 2 (Vz N p),.k 3 28 2 (Vz N q),⟨4,none,some 1,30,4,Vq 1 0,VT⟩] [(19,Vb true)] st2 ⟨(kr fun _ A Y h D=>build_Rat0 rfl),ks,trivial⟩ fun a3 w3 st3=>Wn ?_
  exact wp_ret (rC 4 30 (Vq 1 0) st3 fun cs r4=>(by rw [hz,Rat.divInt_zero];exact Vq_le r4 (by omega)))
 ·
  by_cases hp:p=0
  ·
   refine Wn ?_
   refine rH [(30,4,0),(28,2,0)] [Vpt a1 3 1,VD N q,Vi ((digs q.natAbs).length:Int),Vb false,Vb false,Vpt a1 2 1,VD N p,Vi ((digs p.natAbs).length:Int),Vb true,Vb true] [.k 2 28 2 (Vz N p),.k 3 28 2 (Vz N q),.k 4 30 4 VT] [(19,Vb true)] st1 ⟨ks,ks,(by refine kr fun _ A Y h D=>?_;obtain⟨v0,x0,X0⟩:=h.dp D 11;obtain⟨pp,nn,cc,rfl,hnn,-⟩:=X0;exact⟨_,run_len rfl rfl x0,by rw [hnn];rfl⟩),(by refine kr fun _ A Y h D=>?_;obtain⟨v0,x0,X0⟩:=h.dp D 12;have hV0':v0= .int .i64 ((digs q.natAbs).length:Int):=X0;exact⟨_,run_eqi rfl (x0.trans hV0') rfl,congrArg Value.bool (by rw [len_eq0];exact dF hz)⟩),ks,ks,ks,(by refine kr fun _ A Y h D=>?_;obtain⟨v0,x0,X0⟩:=h.dp D 16;obtain⟨pp,nn,cc,rfl,hnn,-⟩:=X0;exact⟨_,run_len rfl rfl x0,by rw [hnn];rfl⟩),(by refine kr fun _ A Y h D=>?_;obtain⟨v0,x0,X0⟩:=h.dp D 17;have hV0':v0= .int .i64 ((digs p.natAbs).length:Int):=X0;exact⟨_,run_eqi rfl (x0.trans hV0') rfl,congrArg Value.bool (by rw [len_eq0];exact dT hp)⟩),ks,trivial⟩ ?_;intro a2 w2 st2;refine Wn ?_
   refine cT st2 ?_;refine Wn ?_
   refine rH [(30,4,0),(28,2,0)] [Vq 1 0,VT] [.k 2 28 2 (Vz N p),.k 3 28 2 (Vz N q),⟨4,none,some 1,30,4,Vq 1 0,VT⟩] [(19,Vb true)] st2 ⟨(kr fun _ A Y h D=>build_Rat0 rfl),ks,trivial⟩ fun a3 w3 st3=>Wn ?_
   exact wp_ret (rC 4 30 (Vq 1 0) st3 fun cs r4=>(by rw [hp,Rat.zero_divInt];exact Vq_le r4 (by omega)))
  ·
   refine Wn ?_
   refine rH [(30,4,0),(28,2,0)] [Vpt a1 3 1,VD N q,Vi ((digs q.natAbs).length:Int),Vb false,Vb false,Vpt a1 2 1,VD N p,Vi ((digs p.natAbs).length:Int),Vb false,Vb false] [.k 2 28 2 (Vz N p),.k 3 28 2 (Vz N q),.k 4 30 4 VT] [(19,Vb false)] st1 ⟨ks,ks,(by refine kr fun _ A Y h D=>?_;obtain⟨v0,x0,X0⟩:=h.dp D 11;obtain⟨pp,nn,cc,rfl,hnn,-⟩:=X0;exact⟨_,run_len rfl rfl x0,by rw [hnn];rfl⟩),(by refine kr fun _ A Y h D=>?_;obtain⟨v0,x0,X0⟩:=h.dp D 12;have hV0':v0= .int .i64 ((digs q.natAbs).length:Int):=X0;exact⟨_,run_eqi rfl (x0.trans hV0') rfl,congrArg Value.bool (by rw [len_eq0];exact dF hz)⟩),ks,ks,ks,(by refine kr fun _ A Y h D=>?_;obtain⟨v0,x0,X0⟩:=h.dp D 16;obtain⟨pp,nn,cc,rfl,hnn,-⟩:=X0;exact⟨_,run_len rfl rfl x0,by rw [hnn];rfl⟩),(by refine kr fun _ A Y h D=>?_;obtain⟨v0,x0,X0⟩:=h.dp D 17;have hV0':v0= .int .i64 ((digs p.natAbs).length:Int):=X0;exact⟨_,run_eqi rfl (x0.trans hV0') rfl,congrArg Value.bool (by rw [len_eq0];exact dF hp)⟩),ks,trivial⟩ ?_;intro a2 w2 st2;refine Wn ?_
   refine cF st2 ?_;refine Wn ?_
   refine rH [(30,4,0),(28,2,0)] [Vz N p,Vz N q,Vz N (Int.gcd p (q):Int),VT,VT] [.k 2 28 2 (Vz N p),.k 3 28 2 (Vz N q),.k 4 30 4 VT,⟨5,some 3,some 4,28,2,Vz N (Int.gcd p (q):Int),VT⟩] [(19,Vb false)] st2 ⟨ks,ks,(kd2 fun _ _ _ _ _ X0 _ X1=>cRGcd X0 X1),ks,ks,trivial⟩ fun a3 w3 st3=>Wn ?_
   refine rH [(30,4,0),(28,2,0)] [Vz N p,Vz N (Int.gcd p (q):Int),VTup (Vz N ((p) / (Int.gcd p (q):Int))) (Vz N (dr p (Int.gcd p (q):Int))),VTup (Vz N ((p) / (Int.gcd p (q):Int))) (Vz N (dr p (Int.gcd p (q):Int))),Vz N ((p) / (Int.gcd p (q):Int)),Vz N (dr p (Int.gcd p (q):Int)),VT,VT,VT,VT] [.k 2 28 2 (Vz N p),.k 3 28 2 (Vz N q),.k 4 30 4 VT,.k 5 28 2 (Vz N (Int.gcd p (q):Int)),⟨6,some 6,some 8,28,2,Vz N ((p) / (Int.gcd p (q):Int)),VT⟩,⟨7,some 7,some 9,28,2,Vz N (dr p (Int.gcd p (q):Int)),VT⟩] [(19,Vb false)] st3 ⟨ks,ks,(kd2 fun _ _ _ _ _ X0 _ X1=>(cRDivG X0 X1 (gcd_ne_r hz))),ks,ks,ks,ks,ks,ks,ks,trivial⟩ fun a4 w4 st4=>Wn ?_
   refine rH [(30,4,0),(28,2,0)] [Vz N q,Vz N (Int.gcd p (q):Int),VTup (Vz N ((q) / (Int.gcd p (q):Int))) (Vz N (dr q (Int.gcd p (q):Int))),VTup (Vz N ((q) / (Int.gcd p (q):Int))) (Vz N (dr q (Int.gcd p (q):Int))),Vz N ((q) / (Int.gcd p (q):Int)),Vz N (dr q (Int.gcd p (q):Int)),VT,VT,VT,VT] [.k 2 28 2 (Vz N p),.k 3 28 2 (Vz N q),.k 4 30 4 VT,.k 5 28 2 (Vz N (Int.gcd p (q):Int)),.k 6 28 2 (Vz N ((p) / (Int.gcd p (q):Int))),.k 7 28 2 (Vz N (dr p (Int.gcd p (q):Int))),⟨8,some 6,some 8,28,2,Vz N ((q) / (Int.gcd p (q):Int)),VT⟩,⟨9,some 7,some 9,28,2,Vz N (dr q (Int.gcd p (q):Int)),VT⟩] [(19,Vb false)] st4 ⟨ks,ks,(kd2 fun _ _ _ _ _ X0 _ X1=>(cRDivG X0 X1 (gcd_ne_r hz))),ks,ks,ks,ks,ks,ks,ks,trivial⟩ ?_;intro a5 w5 st5;by_cases hl:q<0
   ·
    refine Wn ?_
    refine rH [(30,4,0),(28,2,0)] [Vpt a5 8 0,Vb true] [.k 2 28 2 (Vz N p),.k 3 28 2 (Vz N q),.k 4 30 4 VT,.k 5 28 2 (Vz N (Int.gcd p (q):Int)),.k 6 28 2 (Vz N ((p) / (Int.gcd p (q):Int))),.k 7 28 2 (Vz N (dr p (Int.gcd p (q):Int))),.k 8 28 2 (Vz N ((q) / (Int.gcd p (q):Int))),.k 9 28 2 (Vz N (dr q (Int.gcd p (q):Int)))] [(19,Vb false),(37,Vb true)] st5 ⟨ks,(k_cell (j:=0) (off:=0) SbB.out (by kernel_rfl) (.tail _ (.tail _ (.tail _ (.tail _ (.tail _ (.tail _ (.head _))))))) rfl rfl rfl (by kernel_rfl) (by kernel_rfl) rfl (by kernel_rfl) (fun cs w h=>vz_NT h ((quo_sign hz).2 hl)) Tryz.underlying4 rfl fun listed A Y h D=>⟨trivial,trivial⟩),trivial⟩ fun a6 w6 st6=>Wn ?_
    refine cT st6 ?_;refine Wn ?_
    refine rH [(30,4,0),(28,2,0)] [Vz N ((p) / (Int.gcd p (q):Int)),Vz N (-((p) / (Int.gcd p (q):Int))),VT] [.k 2 28 2 (Vz N p),.k 3 28 2 (Vz N q),.k 4 30 4 VT,.k 5 28 2 (Vz N (Int.gcd p (q):Int)),⟨6,none,some 2,28,2,Vz N (-((p) / (Int.gcd p (q):Int))),Vz N ((p) / (Int.gcd p (q):Int))⟩,.k 7 28 2 (Vz N (dr p (Int.gcd p (q):Int))),.k 8 28 2 (Vz N ((q) / (Int.gcd p (q):Int))),.k 9 28 2 (Vz N (dr q (Int.gcd p (q):Int)))] [(19,Vb false),(37,Vb true)] st6 ⟨ks,(kd1 fun _ _ _ _ _ X0=>cRNeg X0),ks,trivial⟩ fun a7 w7 st7=>Wn ?_
    refine rH [(30,4,0),(28,2,0)] [Vz N ((q) / (Int.gcd p (q):Int)),Vz N (-((q) / (Int.gcd p (q):Int))),VT] [.k 2 28 2 (Vz N p),.k 3 28 2 (Vz N q),.k 4 30 4 VT,.k 5 28 2 (Vz N (Int.gcd p (q):Int)),.k 6 28 2 (Vz N (-((p) / (Int.gcd p (q):Int)))),.k 7 28 2 (Vz N (dr p (Int.gcd p (q):Int))),⟨8,none,some 2,28,2,Vz N (-((q) / (Int.gcd p (q):Int))),Vz N ((q) / (Int.gcd p (q):Int))⟩,.k 9 28 2 (Vz N (dr q (Int.gcd p (q):Int)))] [(19,Vb false),(37,Vb true)] st7 ⟨ks,(kd1 fun _ _ _ _ _ X0=>cRNeg X0),ks,trivial⟩ fun a8 w8 st8=>Wn ?_
    refine rH [(30,4,0),(28,2,0)] [Vz N (-((q) / (Int.gcd p (q):Int))),Vb (decide ((-((q) / (Int.gcd p (q):Int)))=1))] [.k 2 28 2 (Vz N p),.k 3 28 2 (Vz N q),.k 4 30 4 VT,.k 5 28 2 (Vz N (Int.gcd p (q):Int)),.k 6 28 2 (Vz N (-((p) / (Int.gcd p (q):Int)))),.k 7 28 2 (Vz N (dr p (Int.gcd p (q):Int))),.k 8 28 2 (Vz N (-((q) / (Int.gcd p (q):Int)))),.k 9 28 2 (Vz N (dr q (Int.gcd p (q):Int)))] [(19,Vb false),(37,Vb true),(43,Vb (decide ((-((q) / (Int.gcd p (q):Int)))=1)))] st8 ⟨ks,(kd1 fun _ _ _ _ _ X0=>cR4One X0),trivial⟩ fun a9 w9 st9=>Wn ?_
    obtain⟨vc,hc1,hc2⟩:=st9.slot (43,Vb (decide ((-((q) / (Int.gcd p (q):Int)))=1))) (.tail _ (.tail _ (.head _)));by_cases hcc: -((q) / (Int.gcd p (q):Int))=1
    ·refine wp_cond_true (hc1.trans (hc2.trans (congrArg Value.bool (dT hcc)))) ?_;clear hc1 hc2;refine Wn ?_
     refine rH [(30,4,0),(28,2,0)] [Vz N (-((p) / (Int.gcd p (q):Int))),VP2 2 2 (Vz N (-((p) / (Int.gcd p (q):Int)))) (Vz N 0),VT] [.k 2 28 2 (Vz N p),.k 3 28 2 (Vz N q),⟨4,none,some 2,30,4,VP2 2 2 (Vz N (-((p) / (Int.gcd p (q):Int)))) (Vz N 0),VT⟩,.k 5 28 2 (Vz N (Int.gcd p (q):Int)),.k 6 28 2 (Vz N (-((p) / (Int.gcd p (q):Int)))),.k 7 28 2 (Vz N (dr p (Int.gcd p (q):Int))),.k 8 28 2 (Vz N (-((q) / (Int.gcd p (q):Int)))),.k 9 28 2 (Vz N (dr q (Int.gcd p (q):Int)))] [(19,Vb false),(37,Vb true),(43,Vb (decide ((-((q) / (Int.gcd p (q):Int)))=1)))] st9 ⟨ks,(kr1 44 fun _ _ _ _ _ x0 X0=>build_Rat1 N rfl x0 (AggV_Vz _ _) X0),ks,trivial⟩ fun a10 w10 st10=>Wn ?_
     exact wp_ret (rC 4 30 (VP2 2 2 (Vz N (-((p) / (Int.gcd p (q):Int)))) (Vz N 0)) st10 fun cs r4=>(made1 (make_neg hl) hcc r4))
    ·refine wp_cond_false (hc1.trans (hc2.trans (congrArg Value.bool (dF hcc)))) ?_;clear hc1 hc2;refine Wn ?_
     refine rH [(30,4,0),(28,2,0)] [Vz N (-((p) / (Int.gcd p (q):Int))),Vz N (-((q) / (Int.gcd p (q):Int))),VP2 2 2 (Vz N (-((p) / (Int.gcd p (q):Int)))) (Vz N (-((q) / (Int.gcd p (q):Int)))),VT] [.k 2 28 2 (Vz N p),.k 3 28 2 (Vz N q),⟨4,none,some 3,30,4,VP2 2 2 (Vz N (-((p) / (Int.gcd p (q):Int)))) (Vz N (-((q) / (Int.gcd p (q):Int)))),VT⟩,.k 5 28 2 (Vz N (Int.gcd p (q):Int)),.k 6 28 2 (Vz N (-((p) / (Int.gcd p (q):Int)))),.k 7 28 2 (Vz N (dr p (Int.gcd p (q):Int))),.k 8 28 2 (Vz N (-((q) / (Int.gcd p (q):Int)))),.k 9 28 2 (Vz N (dr q (Int.gcd p (q):Int)))] [(19,Vb false),(37,Vb true),(43,Vb (decide ((-((q) / (Int.gcd p (q):Int)))=1)))] st9 ⟨ks,ks,(kr2 46 47 fun _ _ _ _ _ x0 X0 _ x1 X1=>build_Rat rfl x0 x1 (AggV_Vz _ _) (AggV_Vz _ _) X0 X1),ks,trivial⟩ fun a10 w10 st10=>Wn ?_
     exact wp_ret (rC 4 30 (VP2 2 2 (Vz N (-((p) / (Int.gcd p (q):Int)))) (Vz N (-((q) / (Int.gcd p (q):Int))))) st10 fun cs r4=>(made2 (make_neg hl) hcc r4))
   ·
    refine Wn ?_
    refine rH [(30,4,0),(28,2,0)] [Vpt a5 8 0,Vb false] [.k 2 28 2 (Vz N p),.k 3 28 2 (Vz N q),.k 4 30 4 VT,.k 5 28 2 (Vz N (Int.gcd p (q):Int)),.k 6 28 2 (Vz N ((p) / (Int.gcd p (q):Int))),.k 7 28 2 (Vz N (dr p (Int.gcd p (q):Int))),.k 8 28 2 (Vz N ((q) / (Int.gcd p (q):Int))),.k 9 28 2 (Vz N (dr q (Int.gcd p (q):Int)))] [(19,Vb false),(37,Vb false)] st5 ⟨ks,(k_cell (j:=0) (off:=0) SbB.out (by kernel_rfl) (.tail _ (.tail _ (.tail _ (.tail _ (.tail _ (.tail _ (.head _))))))) rfl rfl rfl (by kernel_rfl) (by kernel_rfl) rfl (by kernel_rfl) (fun cs w h=>vz_NF h (fun h=>hl ((quo_sign hz).1 h))) Tryz.underlying4 rfl fun listed A Y h D=>⟨trivial,trivial⟩),trivial⟩ fun a6 w6 st6=>Wn ?_
    refine cF st6 ?_;refine Wn ?_
    refine rH [(30,4,0),(28,2,0)] [Vz N ((q) / (Int.gcd p (q):Int)),Vb (decide (((q) / (Int.gcd p (q):Int))=1))] [.k 2 28 2 (Vz N p),.k 3 28 2 (Vz N q),.k 4 30 4 VT,.k 5 28 2 (Vz N (Int.gcd p (q):Int)),.k 6 28 2 (Vz N ((p) / (Int.gcd p (q):Int))),.k 7 28 2 (Vz N (dr p (Int.gcd p (q):Int))),.k 8 28 2 (Vz N ((q) / (Int.gcd p (q):Int))),.k 9 28 2 (Vz N (dr q (Int.gcd p (q):Int)))] [(19,Vb false),(37,Vb false),(43,Vb (decide (((q) / (Int.gcd p (q):Int))=1)))] st6 ⟨ks,(kd1 fun _ _ _ _ _ X0=>cR4One X0),trivial⟩ fun a7 w7 st7=>Wn ?_
    obtain⟨vc,hc1,hc2⟩:=st7.slot (43,Vb (decide (((q) / (Int.gcd p (q):Int))=1))) (.tail _ (.tail _ (.head _)));by_cases hcc:(q) / (Int.gcd p (q):Int)=1
    ·refine wp_cond_true (hc1.trans (hc2.trans (congrArg Value.bool (dT hcc)))) ?_;clear hc1 hc2;refine Wn ?_
     refine rH [(30,4,0),(28,2,0)] [Vz N ((p) / (Int.gcd p (q):Int)),VP2 2 2 (Vz N ((p) / (Int.gcd p (q):Int))) (Vz N 0),VT] [.k 2 28 2 (Vz N p),.k 3 28 2 (Vz N q),⟨4,none,some 2,30,4,VP2 2 2 (Vz N ((p) / (Int.gcd p (q):Int))) (Vz N 0),VT⟩,.k 5 28 2 (Vz N (Int.gcd p (q):Int)),.k 6 28 2 (Vz N ((p) / (Int.gcd p (q):Int))),.k 7 28 2 (Vz N (dr p (Int.gcd p (q):Int))),.k 8 28 2 (Vz N ((q) / (Int.gcd p (q):Int))),.k 9 28 2 (Vz N (dr q (Int.gcd p (q):Int)))] [(19,Vb false),(37,Vb false),(43,Vb (decide (((q) / (Int.gcd p (q):Int))=1)))] st7 ⟨ks,(kr1 44 fun _ _ _ _ _ x0 X0=>build_Rat1 N rfl x0 (AggV_Vz _ _) X0),ks,trivial⟩ fun a8 w8 st8=>Wn ?_
     exact wp_ret (rC 4 30 (VP2 2 2 (Vz N ((p) / (Int.gcd p (q):Int))) (Vz N 0)) st8 fun cs r4=>(made1 (make_low (by omega)) hcc r4))
    ·refine wp_cond_false (hc1.trans (hc2.trans (congrArg Value.bool (dF hcc)))) ?_;clear hc1 hc2;refine Wn ?_
     refine rH [(30,4,0),(28,2,0)] [Vz N ((p) / (Int.gcd p (q):Int)),Vz N ((q) / (Int.gcd p (q):Int)),VP2 2 2 (Vz N ((p) / (Int.gcd p (q):Int))) (Vz N ((q) / (Int.gcd p (q):Int))),VT] [.k 2 28 2 (Vz N p),.k 3 28 2 (Vz N q),⟨4,none,some 3,30,4,VP2 2 2 (Vz N ((p) / (Int.gcd p (q):Int))) (Vz N ((q) / (Int.gcd p (q):Int))),VT⟩,.k 5 28 2 (Vz N (Int.gcd p (q):Int)),.k 6 28 2 (Vz N ((p) / (Int.gcd p (q):Int))),.k 7 28 2 (Vz N (dr p (Int.gcd p (q):Int))),.k 8 28 2 (Vz N ((q) / (Int.gcd p (q):Int))),.k 9 28 2 (Vz N (dr q (Int.gcd p (q):Int)))] [(19,Vb false),(37,Vb false),(43,Vb (decide (((q) / (Int.gcd p (q):Int))=1)))] st7 ⟨ks,ks,(kr2 46 47 fun _ _ _ _ _ x0 X0 _ x1 X1=>build_Rat rfl x0 x1 (AggV_Vz _ _) (AggV_Vz _ _) X0 X1),ks,trivial⟩ fun a8 w8 st8=>Wn ?_
     exact wp_ret (rC 4 30 (VP2 2 2 (Vz N ((p) / (Int.gcd p (q):Int))) (Vz N ((q) / (Int.gcd p (q):Int)))) st8 fun cs r4=>(made2 (make_low (by omega)) hcc r4))
theorem add_mk (a b:Rat):Rat.divInt (a.num*(b.den:Int)+b.num*(a.den:Int)) ((a.den:Int)*(b.den:Int))=a+b:=by
 have h1:=a.den_pos;have h2:=b.den_pos;have:=Rat.divInt_add_divInt a.num b.num (d₁:=(a.den:Int)) (d₂:=(b.den:Int)) (by omega) (by omega);rw [Rat.num_divInt_den,Rat.num_divInt_den] at this;exact this.symm
theorem mul_mk (a b:Rat):Rat.divInt (a.num*b.num) ((a.den:Int)*(b.den:Int))=a*b:=by
 have:=Rat.divInt_mul_divInt a.num b.num (d₁:=(a.den:Int)) (d₂:=(b.den:Int));rw [Rat.num_divInt_den,Rat.num_divInt_den] at this;exact this.symm
theorem div_mk (a b:Rat):Rat.divInt (a.num*(b.den:Int)) ((a.den:Int)*b.num)=a / b:=by
 have e:b⁻¹=Rat.divInt (b.den:Int) b.num:=by
  have:=Rat.inv_divInt b.num (b.den:Int);rwa [Rat.num_divInt_den] at this
 have:=Rat.divInt_mul_divInt a.num (b.den:Int) (d₁:=(a.den:Int)) (d₂:=b.num);rw [Rat.num_divInt_den,<-e,<-Rat.div_def] at this;exact this.symm
theorem cR4Neg {w:World}{N:Nat}{q:Rat}{v0:Value}(h0:Vq N q v0 w)(hN:N<=1000000:=by omega):Calls Tryz.prog 126 #[v0] w (RV (Vq N (-q)) w):=by
 go_enter Tryz.func126,Tryz.ntmps126
 refine Sg 9 [(0,Vq N q)] (Lq.2 ⟨⟨_,rfl,h0⟩,L0⟩) fun a0 st0=>Wn ?_
 refine rH [(30,4,0)] [VT,VT] [⟨1,some 0,some 0,30,4,Vq N q,VT⟩,⟨2,some 1,none,30,4,VT,VT⟩] [] st0 ⟨ks,ks,trivial⟩ fun a1 w1 st1=>Wn ?_
 refine rH [(30,4,0)] [Vpt a1 1 0,Vz N q.num,Vz N (-(q.num)),Vpt a1 1 2,Vz N (qd q),VP2 2 2 (Vz N (-(q.num))) (Vz N (qd q)),VT] [.k 1 30 4 (Vq N q),⟨2,none,some 6,30,4,VP2 2 2 (Vz N (-(q.num))) (Vz N (qd q)),VT⟩] [] st1 ⟨ks,ks,(kd1 fun _ _ _ _ _ X0=>cRNeg X0),ks,ks,(kr2 5 7 fun _ _ _ _ _ x0 X0 _ x1 X1=>build_Rat rfl x0 x1 (AggV_Vz _ _) (AggV_Vz _ _) X0 X1),ks,trivial⟩ fun a2 w2 st2=>Wn ?_
 exact wp_ret (rC 2 30 (VP2 2 2 (Vz N (-(q.num))) (Vz N (qd q))) st2 fun cs r4=>(show Vq N (-q) _ _ from r4))
theorem cR4Sign {w:World}{N:Nat}{q:Rat}{v0:Value}(h0:Vq N q v0 w)(hN:N<=1000000:=by omega):Calls Tryz.prog 78 #[v0] w (RV (Vi (cmpI q.num 0)) w):=by
 go_enter Tryz.func78,Tryz.ntmps78
 refine Sg 6 [(0,Vq N q)] (Lq.2 ⟨⟨_,rfl,h0⟩,L0⟩) fun a0 st0=>Wn ?_
 refine rH [] [VT,Vi 0] [⟨1,some 0,some 0,30,4,Vq N q,VT⟩] [(2,Vi 0)] st0 ⟨ks,ks,trivial⟩ fun a1 w1 st1=>Wn ?_
 refine rH [] [Vpt a1 1 0,Vz N q.num,Vi (cmpI q.num 0),Vi (cmpI q.num 0)] [.k 1 30 4 (Vq N q)] [(2,Vi (cmpI q.num 0))] st1 ⟨ks,ks,(kd1 fun _ _ _ _ _ X0=>cRSign X0),ks,trivial⟩ fun a2 w2 st2=>Wn ?_
 exact wp_ret (rS 2 (Vi (cmpI q.num 0)) st2 fun vr r4=>r4)
theorem cR4Of {w:World}{p q:Int}{v0 v1:Value}(h0:Vi p v0 w)(h1:Vi q v1 w)(hp0: -9223372036854775808<=p:=by omega)(hp1:p<=9223372036854775807:=by omega)(hq0: -9223372036854775808<=q:=by omega)(hq1:q<=9223372036854775807:=by omega):Calls Tryz.prog 40 #[v0,v1] w (RV (Vq 3 (Rat.divInt p q)) w):=by
 go_enter Tryz.func40,Tryz.ntmps40
 refine Sg 10 [(0,Vi p),(1,Vi q)] (Lq.2 ⟨⟨_,rfl,h0⟩,(Lq.2 ⟨⟨_,rfl,h1⟩,L0⟩)⟩) fun a0 st0=>Wn ?_
 refine rH [(30,4,0)] [VT] [⟨4,some 0,none,30,4,VT,VT⟩] [(0,Vi p),(1,Vi q)] st0 ⟨ks,trivial⟩ fun a1 w1 st1=>Wn ?_
 refine rH [(30,4,0)] [Vi p,Vz 3 p,Vi q,Vz 3 q,Vq 3 (Rat.divInt p q),VT] [⟨4,none,some 5,30,4,Vq 3 (Rat.divInt p q),VT⟩] [] st1 ⟨ks,(kd1 fun _ _ _ _ _ X0=>cROfV X0),ks,(kd1 fun _ _ _ _ _ X0=>cROfV X0),(kd2 fun _ _ _ _ _ X0 _ X1=>cR4Make X0 X1),ks,trivial⟩ fun a2 w2 st2=>Wn ?_
 exact wp_ret (rC 4 30 (Vq 3 (Rat.divInt p q)) st2 fun cs r4=>r4)
theorem cR4Add {w:World}{N:Nat}{a b:Rat}{v0 v1:Value}(h0:Vq N a v0 w)(h1:Vq N b v1 w)(h3:3<=N:=by omega)(hN:N<=100000:=by omega):Calls Tryz.prog 80 #[v0,v1] w (RV (Vq (N+N+1) (a+b)) w):=by
 go_enter Tryz.func80,Tryz.ntmps80
 refine Sg 26 [(0,Vq N a),(1,Vq N b)] (Lq.2 ⟨⟨_,rfl,h0⟩,(Lq.2 ⟨⟨_,rfl,h1⟩,L0⟩)⟩) fun a0 st0=>Wn ?_
 refine rH [(28,2,0),(30,4,0)] [VT,VT,VT] [⟨2,some 0,some 0,30,4,Vq N a,VT⟩,⟨3,some 1,some 1,30,4,Vq N b,VT⟩,⟨4,some 2,none,30,4,VT,VT⟩] [] st0 ⟨ks,ks,ks,trivial⟩ fun a1 w1 st1=>Wn ?_
 refine rH [(28,2,0),(30,4,0)] [Vpt a1 2 0,Vz N a.num,Vq N b,Vz N (b.den:Int),Vz (N+N) ((a.num)*(b.den:Int)),VT,VT] [.k 2 30 4 (Vq N a),.k 3 30 4 (Vq N b),.k 4 30 4 VT,⟨5,some 5,some 6,28,2,Vz (N+N) ((a.num)*(b.den:Int)),VT⟩] [] st1 ⟨ks,ks,ks,(kd1 fun _ _ _ _ _ X0=>cR4Den X0),(kd2 fun _ _ _ _ _ X0 _ X1=>(cRMul X0 X1)),ks,ks,trivial⟩ fun a2 w2 st2=>Wn ?_
 refine rH [(28,2,0),(30,4,0)] [Vpt a2 3 0,Vz N b.num,Vq N a,Vz N (a.den:Int),Vz (N+N) ((b.num)*(a.den:Int)),VT,VT] [.k 2 30 4 (Vq N a),.k 3 30 4 (Vq N b),.k 4 30 4 VT,.k 5 28 2 (Vz (N+N) ((a.num)*(b.den:Int))),⟨6,some 5,some 6,28,2,Vz (N+N) ((b.num)*(a.den:Int)),VT⟩] [] st2 ⟨ks,ks,ks,(kd1 fun _ _ _ _ _ X0=>cR4Den X0),(kd2 fun _ _ _ _ _ X0 _ X1=>(cRMul X0 X1)),ks,ks,trivial⟩ fun a3 w3 st3=>Wn ?_
 refine rH [(28,2,0),(30,4,0)] [Vz (N+N) ((a.num)*(b.den:Int)),Vz (N+N) ((b.num)*(a.den:Int)),Vz (max (N+N) (N+N)+1) (((a.num)*(b.den:Int))+((b.num)*(a.den:Int))),Vq N a,Vz N (a.den:Int),Vq N b,Vz N (b.den:Int),Vz (N+N) ((a.den:Int)*(b.den:Int)),Vq (max (max (N+N) (N+N)+1) (N+N)) (Rat.divInt (((a.num)*(b.den:Int))+((b.num)*(a.den:Int))) ((a.den:Int)*(b.den:Int))),VT] [.k 2 30 4 (Vq N a),.k 3 30 4 (Vq N b),⟨4,none,some 9,30,4,Vq (max (max (N+N) (N+N)+1) (N+N)) (Rat.divInt (((a.num)*(b.den:Int))+((b.num)*(a.den:Int))) ((a.den:Int)*(b.den:Int))),VT⟩,.k 5 28 2 (Vz (N+N) ((a.num)*(b.den:Int))),.k 6 28 2 (Vz (N+N) ((b.num)*(a.den:Int)))] [] st3 ⟨ks,ks,(kd2 fun _ _ _ _ _ X0 _ X1=>(cRAdd X0 X1)),ks,(kd1 fun _ _ _ _ _ X0=>cR4Den X0),ks,(kd1 fun _ _ _ _ _ X0=>cR4Den X0),(kd2 fun _ _ _ _ _ X0 _ X1=>(cRMul X0 X1)),(kd2 fun _ _ _ _ _ X0 _ X1=>cR4Make (Vz_le (M:=(max (max (N+N) (N+N)+1) (N+N))) X0 (by omega)) (Vz_le (M:=(max (max (N+N) (N+N)+1) (N+N))) X1 (by omega))),ks,trivial⟩ fun a4 w4 st4=>Wn ?_
 exact wp_ret (rC 4 30 (Vq (max (max (N+N) (N+N)+1) (N+N)) (Rat.divInt (((a.num)*(b.den:Int))+((b.num)*(a.den:Int))) ((a.den:Int)*(b.den:Int)))) st4 fun cs r4=>(by rw [<-add_mk];exact Vq_le r4 (by omega)))
theorem cR4Sub {w:World}{N:Nat}{a b:Rat}{v0 v1:Value}(h0:Vq N a v0 w)(h1:Vq N b v1 w)(h3:3<=N:=by omega)(hN:N<=100000:=by omega):Calls Tryz.prog 108 #[v0,v1] w (RV (Vq (N+N+1) (a - b)) w):=by
 go_enter Tryz.func108,Tryz.ntmps108
 refine Sg 9 [(0,Vq N a),(1,Vq N b)] (Lq.2 ⟨⟨_,rfl,h0⟩,(Lq.2 ⟨⟨_,rfl,h1⟩,L0⟩)⟩) fun a0 st0=>Wn ?_
 refine rH [(30,4,0)] [VT,VT,VT] [⟨2,some 0,some 0,30,4,Vq N a,VT⟩,⟨3,some 1,some 1,30,4,Vq N b,VT⟩,⟨4,some 2,none,30,4,VT,VT⟩] [] st0 ⟨ks,ks,ks,trivial⟩ fun a1 w1 st1=>Wn ?_
 refine rH [(30,4,0)] [Vq N a,Vq N b,Vq N (-(b)),Vq (N+N+1) ((a)+(-(b))),VT] [.k 2 30 4 (Vq N a),.k 3 30 4 (Vq N b),⟨4,none,some 4,30,4,Vq (N+N+1) ((a)+(-(b))),VT⟩] [] st1 ⟨ks,ks,(kd1 fun _ _ _ _ _ X0=>cR4Neg X0),(kd2 fun _ _ _ _ _ X0 _ X1=>cR4Add X0 X1),ks,trivial⟩ fun a2 w2 st2=>Wn ?_
 exact wp_ret (rC 4 30 (Vq (N+N+1) ((a)+(-(b)))) st2 fun cs r4=>(by rw [Rat.sub_eq_add_neg];exact r4))
theorem cR4Mul {w:World}{N:Nat}{a b:Rat}{v0 v1:Value}(h0:Vq N a v0 w)(h1:Vq N b v1 w)(h3:3<=N:=by omega)(hN:N<=100000:=by omega):Calls Tryz.prog 83 #[v0,v1] w (RV (Vq (N+N) (a*b)) w):=by
 go_enter Tryz.func83,Tryz.ntmps83
 refine Sg 16 [(0,Vq N a),(1,Vq N b)] (Lq.2 ⟨⟨_,rfl,h0⟩,(Lq.2 ⟨⟨_,rfl,h1⟩,L0⟩)⟩) fun a0 st0=>Wn ?_
 refine rH [(30,4,0)] [VT,VT,VT] [⟨2,some 0,some 0,30,4,Vq N a,VT⟩,⟨3,some 1,some 1,30,4,Vq N b,VT⟩,⟨4,some 2,none,30,4,VT,VT⟩] [] st0 ⟨ks,ks,ks,trivial⟩ fun a1 w1 st1=>Wn ?_
 refine rH [(30,4,0)] [Vpt a1 2 0,Vz N a.num,Vpt a1 3 0,Vz N b.num,Vz (N+N) ((a.num)*(b.num)),Vq N a,Vz N (a.den:Int),Vq N b,Vz N (b.den:Int),Vz (N+N) ((a.den:Int)*(b.den:Int)),Vq (N+N) (Rat.divInt ((a.num)*(b.num)) ((a.den:Int)*(b.den:Int))),VT] [.k 2 30 4 (Vq N a),.k 3 30 4 (Vq N b),⟨4,none,some 11,30,4,Vq (N+N) (Rat.divInt ((a.num)*(b.num)) ((a.den:Int)*(b.den:Int))),VT⟩] [] st1 ⟨ks,ks,ks,ks,(kd2 fun _ _ _ _ _ X0 _ X1=>(cRMul X0 X1)),ks,(kd1 fun _ _ _ _ _ X0=>cR4Den X0),ks,(kd1 fun _ _ _ _ _ X0=>cR4Den X0),(kd2 fun _ _ _ _ _ X0 _ X1=>(cRMul X0 X1)),(kd2 fun _ _ _ _ _ X0 _ X1=>cR4Make X0 X1),ks,trivial⟩ fun a2 w2 st2=>Wn ?_
 exact wp_ret (rC 4 30 (Vq (N+N) (Rat.divInt ((a.num)*(b.num)) ((a.den:Int)*(b.den:Int)))) st2 fun cs r4=>(by rw [<-mul_mk];exact Vq_le r4 (by omega)))
theorem cR4Div {w:World}{N:Nat}{a b:Rat}{v0 v1:Value}(h0:Vq N a v0 w)(h1:Vq N b v1 w)(h3:3<=N:=by omega)(hN:N<=100000:=by omega):Calls Tryz.prog 86 #[v0,v1] w (RV (Vq (N+N) (a / b)) w):=by
 go_enter Tryz.func86,Tryz.ntmps86
 refine Sg 16 [(0,Vq N a),(1,Vq N b)] (Lq.2 ⟨⟨_,rfl,h0⟩,(Lq.2 ⟨⟨_,rfl,h1⟩,L0⟩)⟩) fun a0 st0=>Wn ?_
 refine rH [(30,4,0)] [VT,VT,VT] [⟨2,some 0,some 0,30,4,Vq N a,VT⟩,⟨3,some 1,some 1,30,4,Vq N b,VT⟩,⟨4,some 2,none,30,4,VT,VT⟩] [] st0 ⟨ks,ks,ks,trivial⟩ fun a1 w1 st1=>Wn ?_
 refine rH [(30,4,0)] [Vpt a1 2 0,Vz N a.num,Vq N b,Vz N (b.den:Int),Vz (N+N) ((a.num)*(b.den:Int)),Vq N a,Vz N (a.den:Int),Vpt a1 3 0,Vz N b.num,Vz (N+N) ((a.den:Int)*(b.num)),Vq (N+N) (Rat.divInt ((a.num)*(b.den:Int)) ((a.den:Int)*(b.num))),VT] [.k 2 30 4 (Vq N a),.k 3 30 4 (Vq N b),⟨4,none,some 11,30,4,Vq (N+N) (Rat.divInt ((a.num)*(b.den:Int)) ((a.den:Int)*(b.num))),VT⟩] [] st1 ⟨ks,ks,ks,(kd1 fun _ _ _ _ _ X0=>cR4Den X0),(kd2 fun _ _ _ _ _ X0 _ X1=>(cRMul X0 X1)),ks,(kd1 fun _ _ _ _ _ X0=>cR4Den X0),ks,ks,(kd2 fun _ _ _ _ _ X0 _ X1=>(cRMul X0 X1)),(kd2 fun _ _ _ _ _ X0 _ X1=>cR4Make X0 X1),ks,trivial⟩ fun a2 w2 st2=>Wn ?_
 exact wp_ret (rC 4 30 (Vq (N+N) (Rat.divInt ((a.num)*(b.den:Int)) ((a.den:Int)*(b.num)))) st2 fun cs r4=>(by rw [<-div_mk];exact Vq_le r4 (by omega)))
theorem cR4Compare {w:World}{N:Nat}{a b:Rat}{v0 v1:Value}(h0:Vq N a v0 w)(h1:Vq N b v1 w)(h3:3<=N:=by omega)(hN:N<=100000:=by omega):Calls Tryz.prog 47 #[v0,v1] w (RV (Vi (cmpQ a b)) w):=by
 go_enter Tryz.func47,Tryz.ntmps47
 refine Sg 16 [(0,Vq N a),(1,Vq N b)] (Lq.2 ⟨⟨_,rfl,h0⟩,(Lq.2 ⟨⟨_,rfl,h1⟩,L0⟩)⟩) fun a0 st0=>Wn ?_
 refine rH [] [VT,VT,Vi 0] [⟨2,some 0,some 0,30,4,Vq N a,VT⟩,⟨3,some 1,some 1,30,4,Vq N b,VT⟩] [(4,Vi 0)] st0 ⟨ks,ks,ks,trivial⟩ fun a1 w1 st1=>Wn ?_
 refine rH [] [Vpt a1 2 0,Vz N a.num,Vq N b,Vz N (b.den:Int),Vz (N+N) ((a.num)*(b.den:Int)),Vpt a1 3 0,Vz N b.num,Vq N a,Vz N (a.den:Int),Vz (N+N) ((b.num)*(a.den:Int)),Vi (cmpI ((a.num)*(b.den:Int)) ((b.num)*(a.den:Int))),Vi (cmpI ((a.num)*(b.den:Int)) ((b.num)*(a.den:Int)))] [.k 2 30 4 (Vq N a),.k 3 30 4 (Vq N b)] [(4,Vi (cmpI ((a.num)*(b.den:Int)) ((b.num)*(a.den:Int))))] st1 ⟨ks,ks,ks,(kd1 fun _ _ _ _ _ X0=>cR4Den X0),(kd2 fun _ _ _ _ _ X0 _ X1=>(cRMul X0 X1)),ks,ks,ks,(kd1 fun _ _ _ _ _ X0=>cR4Den X0),(kd2 fun _ _ _ _ _ X0 _ X1=>(cRMul X0 X1)),(kd2 fun _ _ _ _ _ X0 _ X1=>(cRCompare X0 X1)),ks,trivial⟩ fun a2 w2 st2=>Wn ?_
 exact wp_ret (rS 4 (Vi (cmpI ((a.num)*(b.den:Int)) ((b.num)*(a.den:Int)))) st2 fun vr r4=>r4)
theorem cR3Same {W:World}{Na Nb:Nat}{x y:Int}{v1 v2:Value}(h1:Vz Na x v1 W)(h2:Vz Nb y v2 W)(hNa:Na<=1000000:=by omega)(hNb:Nb<=1000000:=by omega):Calls Tryz.prog 56 #[v1,v2] W (RV (Vb (decide (x=y))) W):=by
 obtain⟨nb,p,n,c,rfl,hI,hn⟩:=h1;obtain⟨nb2,p2,n2,c2,rfl,hI2,hn2⟩:=h2;exact(Same_any nb nb2 p p2 n c n2 c2 x y W hI hI2 (by omega) (by omega)).mono fun e w' h=>⟨_,h.1,rfl,h.2⟩
theorem cR4Same {w:World}{N:Nat}{a b:Rat}{v0 v1:Value}(h0:Vq N a v0 w)(h1:Vq N b v1 w)(hN:N<=100000:=by omega):Calls Tryz.prog 19 #[v0,v1] w (RV (Vb (decide (a=b))) w):=by
 go_enter Tryz.func19,Tryz.ntmps19
 refine Sg 17 [(0,Vq N a),(1,Vq N b)] (Lq.2 ⟨⟨_,rfl,h0⟩,(Lq.2 ⟨⟨_,rfl,h1⟩,L0⟩)⟩) fun a0 st0=>Wn ?_
 refine rH [] [VT,VT,Vb false] [⟨2,some 0,some 0,30,4,Vq N a,VT⟩,⟨3,some 1,some 1,30,4,Vq N b,VT⟩] [(4,Vb false)] st0 ⟨ks,ks,ks,trivial⟩ ?_;intro a1 w1 st1;by_cases hp:a.num=b.num
 ·
  refine Wn ?_
  refine rH [] [Vpt a1 2 0,Vz N a.num,Vpt a1 3 0,Vz N b.num,Vb true,Vb true,Vpt a1 2 2,Vz N (qd a),Vpt a1 3 2,Vz N (qd b),Vb (decide ((qd a)=(qd b))),Vb (decide ((qd a)=(qd b))),Vb (decide ((qd a)=(qd b)))] [.k 2 30 4 (Vq N a),.k 3 30 4 (Vq N b)] [(4,Vb (decide ((qd a)=(qd b))))] st1 ⟨ks,ks,ks,ks,(kd2 fun _ _ _ h _ X0 _ X1=>(cR3Same X0 X1).mono fun e w h=>h.le fun v w hv=>hv.trans (congrArg Value.bool (dT hp))),ks,ks,ks,ks,ks,(kd2 fun _ _ _ _ _ X0 _ X1=>cR3Same X0 X1),ks,ks,trivial⟩ fun a2 w2 st2=>Wn ?_
  exact wp_ret (rS 4 (Vb (decide ((qd a)=(qd b)))) st2 fun vr r4=>(by rw [show decide (a=b)=decide (qd a=qd b)from decide_eq_decide.2 (qd_inj hp).symm];exact r4))
 ·
  refine Wn ?_
  refine rH [] [Vpt a1 2 0,Vz N a.num,Vpt a1 3 0,Vz N b.num,Vb false,Vb false,VT,VT,VT,VT,VT,Vb false,Vb false] [.k 2 30 4 (Vq N a),.k 3 30 4 (Vq N b)] [(4,Vb false)] st1 ⟨ks,ks,ks,ks,(kd2 fun _ _ _ h _ X0 _ X1=>(cR3Same X0 X1).mono fun e w h=>h.le fun v w hv=>hv.trans (congrArg Value.bool (dF hp))),ks,ks,ks,ks,ks,ks,ks,ks,trivial⟩ fun a2 w2 st2=>Wn ?_
  exact wp_ret (rS 4 (Vb false) st2 fun vr r4=>(by rw [dF (fun e=>hp (by rw [e]))];exact r4))
theorem cR5Add {w:World}{N:Nat}{a b c d:Rat}{v0 v1:Value}(h0:Vv N a b v0 w)(h1:Vv N c d v1 w)(h3:3<=N:=by omega)(hN:N<=10000:=by omega):Calls Tryz.prog 39 #[v0,v1] w (RV (Vv (N+N+1) (a+c) (b+d)) w):=by
 go_enter Tryz.func39,Tryz.ntmps39
 refine Sg 16 [(0,Vv N a b),(1,Vv N c d)] (Lq.2 ⟨⟨_,rfl,h0⟩,(Lq.2 ⟨⟨_,rfl,h1⟩,L0⟩)⟩) fun a0 st0=>Wn ?_
 refine rH [(32,8,0)] [VT,VT,VT] [⟨2,some 0,some 0,32,8,Vv N a b,VT⟩,⟨3,some 1,some 1,32,8,Vv N c d,VT⟩,⟨4,some 2,none,32,8,VT,VT⟩] [] st0 ⟨ks,ks,ks,trivial⟩ fun a1 w1 st1=>Wn ?_
 refine rH [(32,8,0)] [Vpt a1 2 0,Vq N a,Vpt a1 3 0,Vq N c,Vq (N+N+1) ((a)+(c)),Vpt a1 2 4,Vq N b,Vpt a1 3 4,Vq N d,Vq (N+N+1) ((b)+(d)),Vv (N+N+1) ((a)+(c)) ((b)+(d)),VT] [.k 2 32 8 (Vv N a b),.k 3 32 8 (Vv N c d),⟨4,none,some 11,32,8,Vv (N+N+1) ((a)+(c)) ((b)+(d)),VT⟩] [] st1 ⟨ks,ks,ks,ks,(kd2 fun _ _ _ _ _ X0 _ X1=>cR4Add X0 X1),ks,ks,ks,ks,(kd2 fun _ _ _ _ _ X0 _ X1=>cR4Add X0 X1),(kr2 9 14 fun _ _ _ _ _ x0 X0 _ x1 X1=>build_Vec rfl x0 x1 (AggV_Vq _ _) (AggV_Vq _ _) X0 X1),ks,trivial⟩ fun a2 w2 st2=>Wn ?_
 exact wp_ret (rC 4 32 (Vv (N+N+1) ((a)+(c)) ((b)+(d))) st2 fun cs r4=>r4)
theorem cR5Sub {w:World}{N:Nat}{a b c d:Rat}{v0 v1:Value}(h0:Vv N a b v0 w)(h1:Vv N c d v1 w)(h3:3<=N:=by omega)(hN:N<=10000:=by omega):Calls Tryz.prog 85 #[v0,v1] w (RV (Vv (N+N+1) (a - c) (b - d)) w):=by
 go_enter Tryz.func85,Tryz.ntmps85
 refine Sg 16 [(0,Vv N a b),(1,Vv N c d)] (Lq.2 ⟨⟨_,rfl,h0⟩,(Lq.2 ⟨⟨_,rfl,h1⟩,L0⟩)⟩) fun a0 st0=>Wn ?_
 refine rH [(32,8,0)] [VT,VT,VT] [⟨2,some 0,some 0,32,8,Vv N a b,VT⟩,⟨3,some 1,some 1,32,8,Vv N c d,VT⟩,⟨4,some 2,none,32,8,VT,VT⟩] [] st0 ⟨ks,ks,ks,trivial⟩ fun a1 w1 st1=>Wn ?_
 refine rH [(32,8,0)] [Vpt a1 2 0,Vq N a,Vpt a1 3 0,Vq N c,Vq (N+N+1) ((a) - c),Vpt a1 2 4,Vq N b,Vpt a1 3 4,Vq N d,Vq (N+N+1) ((b) - d),Vv (N+N+1) ((a) - c) ((b) - d),VT] [.k 2 32 8 (Vv N a b),.k 3 32 8 (Vv N c d),⟨4,none,some 11,32,8,Vv (N+N+1) ((a) - c) ((b) - d),VT⟩] [] st1 ⟨ks,ks,ks,ks,(kd2 fun _ _ _ _ _ X0 _ X1=>cR4Sub X0 X1),ks,ks,ks,ks,(kd2 fun _ _ _ _ _ X0 _ X1=>cR4Sub X0 X1),(kr2 9 14 fun _ _ _ _ _ x0 X0 _ x1 X1=>build_Vec rfl x0 x1 (AggV_Vq _ _) (AggV_Vq _ _) X0 X1),ks,trivial⟩ fun a2 w2 st2=>Wn ?_
 exact wp_ret (rC 4 32 (Vv (N+N+1) ((a) - c) ((b) - d)) st2 fun cs r4=>r4)
theorem cR5Scale {w:World}{N:Nat}{a b c:Rat}{v0 v1:Value}(h0:Vv N a b v0 w)(h1:Vq N c v1 w)(h3:3<=N:=by omega)(hN:N<=10000:=by omega):Calls Tryz.prog 70 #[v0,v1] w (RV (Vv (N+N) (a*c) (b*c)) w):=by
 go_enter Tryz.func70,Tryz.ntmps70
 refine Sg 14 [(0,Vv N a b),(1,Vq N c)] (Lq.2 ⟨⟨_,rfl,h0⟩,(Lq.2 ⟨⟨_,rfl,h1⟩,L0⟩)⟩) fun a0 st0=>Wn ?_
 refine rH [(32,8,0)] [VT,VT,VT] [⟨2,some 0,some 0,32,8,Vv N a b,VT⟩,⟨3,some 1,some 1,30,4,Vq N c,VT⟩,⟨4,some 2,none,32,8,VT,VT⟩] [] st0 ⟨ks,ks,ks,trivial⟩ fun a1 w1 st1=>Wn ?_
 refine rH [(32,8,0)] [Vpt a1 2 0,Vq N a,Vq N c,Vq (N+N) ((a)*(c)),Vpt a1 2 4,Vq N b,Vq N c,Vq (N+N) ((b)*(c)),Vv (N+N) ((a)*(c)) ((b)*(c)),VT] [.k 2 32 8 (Vv N a b),.k 3 30 4 (Vq N c),⟨4,none,some 9,32,8,Vv (N+N) ((a)*(c)) ((b)*(c)),VT⟩] [] st1 ⟨ks,ks,ks,(kd2 fun _ _ _ _ _ X0 _ X1=>cR4Mul X0 X1),ks,ks,ks,(kd2 fun _ _ _ _ _ X0 _ X1=>cR4Mul X0 X1),(kr2 8 12 fun _ _ _ _ _ x0 X0 _ x1 X1=>build_Vec rfl x0 x1 (AggV_Vq _ _) (AggV_Vq _ _) X0 X1),ks,trivial⟩ fun a2 w2 st2=>Wn ?_
 exact wp_ret (rC 4 32 (Vv (N+N) ((a)*(c)) ((b)*(c))) st2 fun cs r4=>r4)
theorem cR5Dot {w:World}{N:Nat}{a b c d:Rat}{v0 v1:Value}(h0:Vv N a b v0 w)(h1:Vv N c d v1 w)(h3:3<=N:=by omega)(hN:N<=10000:=by omega):Calls Tryz.prog 127 #[v0,v1] w (RV (Vq (4*N+1) (a*c+b*d)) w):=by
 go_enter Tryz.func127,Tryz.ntmps127
 refine Sg 16 [(0,Vv N a b),(1,Vv N c d)] (Lq.2 ⟨⟨_,rfl,h0⟩,(Lq.2 ⟨⟨_,rfl,h1⟩,L0⟩)⟩) fun a0 st0=>Wn ?_
 refine rH [(30,4,0)] [VT,VT,VT] [⟨2,some 0,some 0,32,8,Vv N a b,VT⟩,⟨3,some 1,some 1,32,8,Vv N c d,VT⟩,⟨4,some 2,none,30,4,VT,VT⟩] [] st0 ⟨ks,ks,ks,trivial⟩ fun a1 w1 st1=>Wn ?_
 refine rH [(30,4,0)] [Vpt a1 2 0,Vq N a,Vpt a1 3 0,Vq N c,Vq (N+N) ((a)*(c)),Vpt a1 2 4,Vq N b,Vpt a1 3 4,Vq N d,Vq (N+N) ((b)*(d)),Vq ((N+N)+(N+N)+1) (((a)*(c))+((b)*(d))),VT] [.k 2 32 8 (Vv N a b),.k 3 32 8 (Vv N c d),⟨4,none,some 11,30,4,Vq ((N+N)+(N+N)+1) (((a)*(c))+((b)*(d))),VT⟩] [] st1 ⟨ks,ks,ks,ks,(kd2 fun _ _ _ _ _ X0 _ X1=>cR4Mul X0 X1),ks,ks,ks,ks,(kd2 fun _ _ _ _ _ X0 _ X1=>cR4Mul X0 X1),(kd2 fun _ _ _ _ _ X0 _ X1=>cR4Add X0 X1),ks,trivial⟩ fun a2 w2 st2=>Wn ?_
 exact wp_ret (rC 4 30 (Vq ((N+N)+(N+N)+1) (((a)*(c))+((b)*(d)))) st2 fun cs r4=>(Vq_le r4 (by omega)))
theorem cR5Cross {w:World}{N:Nat}{a b c d:Rat}{v0 v1:Value}(h0:Vv N a b v0 w)(h1:Vv N c d v1 w)(h3:3<=N:=by omega)(hN:N<=10000:=by omega):Calls Tryz.prog 84 #[v0,v1] w (RV (Vq (4*N+1) (a*d - b*c)) w):=by
 go_enter Tryz.func84,Tryz.ntmps84
 refine Sg 16 [(0,Vv N a b),(1,Vv N c d)] (Lq.2 ⟨⟨_,rfl,h0⟩,(Lq.2 ⟨⟨_,rfl,h1⟩,L0⟩)⟩) fun a0 st0=>Wn ?_
 refine rH [(30,4,0)] [VT,VT,VT] [⟨2,some 0,some 0,32,8,Vv N a b,VT⟩,⟨3,some 1,some 1,32,8,Vv N c d,VT⟩,⟨4,some 2,none,30,4,VT,VT⟩] [] st0 ⟨ks,ks,ks,trivial⟩ fun a1 w1 st1=>Wn ?_
 refine rH [(30,4,0)] [Vpt a1 2 0,Vq N a,Vpt a1 3 4,Vq N d,Vq (N+N) ((a)*(d)),Vpt a1 2 4,Vq N b,Vpt a1 3 0,Vq N c,Vq (N+N) ((b)*(c)),Vq ((N+N)+(N+N)+1) (((a)*(d)) - ((b)*(c))),VT] [.k 2 32 8 (Vv N a b),.k 3 32 8 (Vv N c d),⟨4,none,some 11,30,4,Vq ((N+N)+(N+N)+1) (((a)*(d)) - ((b)*(c))),VT⟩] [] st1 ⟨ks,ks,ks,ks,(kd2 fun _ _ _ _ _ X0 _ X1=>cR4Mul X0 X1),ks,ks,ks,ks,(kd2 fun _ _ _ _ _ X0 _ X1=>cR4Mul X0 X1),(kd2 fun _ _ _ _ _ X0 _ X1=>cR4Sub X0 X1),ks,trivial⟩ fun a2 w2 st2=>Wn ?_
 exact wp_ret (rC 4 30 (Vq ((N+N)+(N+N)+1) (((a)*(d)) - ((b)*(c)))) st2 fun cs r4=>(Vq_le r4 (by omega)))
theorem cR5Same {w:World}{N:Nat}{a b c d:Rat}{v0 v1:Value}(h0:Vv N a b v0 w)(h1:Vv N c d v1 w)(h3:3<=N:=by omega)(hN:N<=10000:=by omega):Calls Tryz.prog 18 #[v0,v1] w (RV (Vb (decide (a=c/\b=d))) w):=by
 go_enter Tryz.func18,Tryz.ntmps18
 refine Sg 17 [(0,Vv N a b),(1,Vv N c d)] (Lq.2 ⟨⟨_,rfl,h0⟩,(Lq.2 ⟨⟨_,rfl,h1⟩,L0⟩)⟩) fun a0 st0=>Wn ?_
 refine rH [] [VT,VT,Vb false] [⟨2,some 0,some 0,32,8,Vv N a b,VT⟩,⟨3,some 1,some 1,32,8,Vv N c d,VT⟩] [(4,Vb false)] st0 ⟨ks,ks,ks,trivial⟩ ?_;intro a1 w1 st1;by_cases hp:a=c
 ·
  refine Wn ?_
  refine rH [] [Vpt a1 2 0,Vq N a,Vpt a1 3 0,Vq N c,Vb true,Vb true,Vpt a1 2 4,Vq N b,Vpt a1 3 4,Vq N d,Vb (decide ((b)=(d))),Vb (decide ((b)=(d))),Vb (decide ((b)=(d)))] [.k 2 32 8 (Vv N a b),.k 3 32 8 (Vv N c d)] [(4,Vb (decide ((b)=(d))))] st1 ⟨ks,ks,ks,ks,(kd2 fun _ _ _ h _ X0 _ X1=>(cR4Same X0 X1).mono fun e w h=>h.le fun v w hv=>hv.trans (congrArg Value.bool (dT hp))),ks,ks,ks,ks,ks,(kd2 fun _ _ _ _ _ X0 _ X1=>cR4Same X0 X1),ks,ks,trivial⟩ fun a2 w2 st2=>Wn ?_
  exact wp_ret (rS 4 (Vb (decide ((b)=(d)))) st2 fun vr r4=>(by rw [show decide (a=c/\b=d)=decide (b=d) by simp [hp]];exact r4))
 ·
  refine Wn ?_
  refine rH [] [Vpt a1 2 0,Vq N a,Vpt a1 3 0,Vq N c,Vb false,Vb false,VT,VT,VT,VT,VT,Vb false,Vb false] [.k 2 32 8 (Vv N a b),.k 3 32 8 (Vv N c d)] [(4,Vb false)] st1 ⟨ks,ks,ks,ks,(kd2 fun _ _ _ h _ X0 _ X1=>(cR4Same X0 X1).mono fun e w h=>h.le fun v w hv=>hv.trans (congrArg Value.bool (dF hp))),ks,ks,ks,ks,ks,ks,ks,ks,trivial⟩ fun a2 w2 st2=>Wn ?_
  exact wp_ret (rS 4 (Vb false) st2 fun vr r4=>(by rw [show decide (a=c/\b=d)=false by simp [hp]];exact r4))
theorem cR5Side {w:World}{N:Nat}{a b c d e f:Rat}{v0 v1 v2:Value}(h0:Vv N a b v0 w)(h1:Vv N c d v1 w)(h2:Vv N e f v2 w)(h3:3<=N:=by omega)(hN:N<=1000:=by omega):Calls Tryz.prog 48 #[v0,v1,v2] w (RV (Vi (cmpI ((c - a)*(f - b) - (d - b)*(e - a)).num 0)) w):=by
 go_enter Tryz.func48,Tryz.ntmps48
 refine Sg 15 [(0,Vv N a b),(1,Vv N c d),(2,Vv N e f)] (Lq.2 ⟨⟨_,rfl,h0⟩,(Lq.2 ⟨⟨_,rfl,h1⟩,(Lq.2 ⟨⟨_,rfl,h2⟩,L0⟩)⟩)⟩) fun a0 st0=>Wn ?_
 refine rH [] [VT,VT,VT,Vi 0] [⟨3,some 0,some 0,32,8,Vv N a b,VT⟩,⟨4,some 1,some 1,32,8,Vv N c d,VT⟩,⟨5,some 2,some 2,32,8,Vv N e f,VT⟩] [(6,Vi 0)] st0 ⟨ks,ks,ks,ks,trivial⟩ fun a1 w1 st1=>Wn ?_
 refine rH [] [Vv N c d,Vv N a b,Vv (N+N+1) ((c) - a) ((d) - b),Vv N e f,Vv N a b,Vv (N+N+1) ((e) - a) ((f) - b),Vq (4*(N+N+1)+1) (((c) - a)*((f) - b) - ((d) - b)*((e) - a)),Vi (cmpI (((c) - a)*((f) - b) - ((d) - b)*((e) - a)).num 0),Vi (cmpI (((c) - a)*((f) - b) - ((d) - b)*((e) - a)).num 0)] [.k 3 32 8 (Vv N a b),.k 4 32 8 (Vv N c d),.k 5 32 8 (Vv N e f)] [(6,Vi (cmpI (((c) - a)*((f) - b) - ((d) - b)*((e) - a)).num 0))] st1 ⟨ks,ks,(kd2 fun _ _ _ _ _ X0 _ X1=>cR5Sub X0 X1),ks,ks,(kd2 fun _ _ _ _ _ X0 _ X1=>cR5Sub X0 X1),(kd2 fun _ _ _ _ _ X0 _ X1=>cR5Cross X0 X1),(kd1 fun _ _ _ _ _ X0=>cR4Sign X0),ks,trivial⟩ fun a2 w2 st2=>Wn ?_
 exact wp_ret (rS 6 (Vi (cmpI (((c) - a)*((f) - b) - ((d) - b)*((e) - a)).num 0)) st2 fun vr r4=>r4)
theorem cR5Of {w:World}{p q:Int}{v0 v1:Value}(h0:Vi p v0 w)(h1:Vi q v1 w)(hp0: -9223372036854775808<=p:=by omega)(hp1:p<=9223372036854775807:=by omega)(hq0: -9223372036854775808<=q:=by omega)(hq1:q<=9223372036854775807:=by omega):Calls Tryz.prog 37 #[v0,v1] w (RV (Vv 3 (Rat.divInt p 1) (Rat.divInt q 1)) w):=by
 go_enter Tryz.func37,Tryz.ntmps37
 refine Sg 10 [(0,Vi p),(1,Vi q)] (Lq.2 ⟨⟨_,rfl,h0⟩,(Lq.2 ⟨⟨_,rfl,h1⟩,L0⟩)⟩) fun a0 st0=>Wn ?_
 refine rH [(32,8,0)] [VT] [⟨4,some 0,none,32,8,VT,VT⟩] [(0,Vi p),(1,Vi q)] st0 ⟨ks,trivial⟩ fun a1 w1 st1=>Wn ?_
 refine rH [(32,8,0)] [Vi p,Vq 3 (Rat.divInt p 1),Vi q,Vq 3 (Rat.divInt q 1),Vv 3 (Rat.divInt p 1) (Rat.divInt q 1),VT] [⟨4,none,some 5,32,8,Vv 3 (Rat.divInt p 1) (Rat.divInt q 1),VT⟩] [] st1 ⟨ks,(by refine kc fun _ A Y h D=>?_;obtain⟨v0,x0,X0⟩:=h.dp D 5;exact⟨#[v0,.int .i64 1],by simp [x0,eval_const],cR4Of X0 (show Vi 1 (.int .i64 1) Y from rfl)⟩),ks,(by refine kc fun _ A Y h D=>?_;obtain⟨v0,x0,X0⟩:=h.dp D 7;exact⟨#[v0,.int .i64 1],by simp [x0,eval_const],cR4Of X0 (show Vi 1 (.int .i64 1) Y from rfl)⟩),(kr2 6 8 fun _ _ _ _ _ x0 X0 _ x1 X1=>build_Vec rfl x0 x1 (AggV_Vq _ _) (AggV_Vq _ _) X0 X1),ks,trivial⟩ ?_;intro a2 w2 st2;refine Wn ?_
 exact wp_ret (rC 4 32 (Vv 3 (Rat.divInt p 1) (Rat.divInt q 1)) st2 fun cs r4=>r4)


section
variable {BT:List (TypeId×Nat×Nat)}
section
variable {P:Program}{md:Region.Mode}{ops:Array Oper}{Q:Exit->Act->World->Prop}{a0:Act}{V:Nat->VP}{n0:Nat}{w0:World}{B:List Bd}{SL:List (Nat×VP)}
theorem k_part0 {i:Nat}{o:Oper}{b:Bd}{d:TypeDesc}{T:TypeId}{s j off k kk:Nat}(hBP:∀b∈B,b.stab BT)(hq:quietB B i o.dst=true)(hb:b∈B)(ho:o.op= .load T (.tmp s))(hon:b.ia=none)(hok:b.ik=some kk)(hkk:(match ops[kk]? with|some o=>o.after.any (fun e=>e.on==i && Region.binds md e)|none=>false)=true)(hj:o.after.any (fun e=>e.on==j && Region.binds md e)=true)(hdst:(ops[j]?).bind (·.dst)=some s)(hVj:V j=Vpt a0 b.t off)
 (hbt:ops.all (fun o=>o.dst !=some b.t)=true) (hk:off+k<=b.m) (hV:∀cs w,b.P0 (.agg cs) w->V i (.agg (cs.extract off (off+k))) w)
 (hu:P.underlying T=some d) (hdd:aggT d=true) (hi:(P.info? T).map (·.size)=some k) (H:Ask md ops a0 V n0 w0 B SL o fun _ _ _=>True):KStep BT P md ops Q a0 V n0 w0 B SL i o:=by
 intro listed a w h D _ _ hnl K hK;obtain⟨hg,-⟩:=H listed a w h D;rw [if_pos (wanted_of hg)];obtain⟨g,cs,e1,e2,e3,e4,e5,-,e7⟩:=h.k.ok b hb (by rw [hon];rfl);have hP:=e7 hon (by rw [hok];exact h.not_yet hnl hkk);obtain⟨v,hv,-,hVv⟩:=h.dep D j s hj hdst;rw [hVj] at hVv;obtain⟨g',f1,rfl⟩:=hVv
 have ho1:=h.other b.t fun i o ho=>by
  rw [Array.all_eq_true'] at hbt;have:=hbt o (Array.mem_of_getElem? ho)
  simpa using this
 rw [e1,f1] at ho1;simp at ho1;subst ho1;unfold Oper.wp execOp;simp only [ho,hv,Instr.loadAt,Instr.sureAddr,Sem.run_bind,Sem.run_pure,Result.andThen_ok,run_loadVar_part w g off k b.T T cs (0,0) d e3 (by omega) hu hdd hi];exact hK _ w (h.k.quiet hq hBP h.n (Below.refl _ _)) (RI.refl w) (hV _ _ hP)
end
section
variable {ρ:Operand->Value}{o:Oper}{W:World}{x y:Operand}{va vb:Value}{A B:VP}{a b:Int}
theorem run_eqb {c d:Bool}(ho:o.op= .binOp .eql 4 x y 4)(hx:ρ x= .bool c)(hy:ρ y= .bool d):(execOp ρ o).run Tryz.prog W= .ok (.value (.bool (c==d))) W:=by
 obtain⟨dd,op,ty,ps,af,gd⟩:=o;subst ho;cases c<;>cases d<;>go_simp
theorem build_Vec0 (ho:o.op= .build 32 #[]):∃v,(execOp ρ o).run Tryz.prog W= .ok (.value v) W/\Vv 1 0 0 v W:=by
 have hz:Vq 1 0 (.agg (#[.bool false,.slice none 0 0]++ #[.bool false,.slice none 0 0])) W:=⟨_,_,rfl,rfl,rfl,⟨_,_,_,_,rfl,IntAt_zero _ _ _ (by omega),by omega⟩,⟨_,_,_,_,rfl,IntAt_zero _ _ _ (by omega),by omega⟩⟩;refine⟨.agg ((#[.bool false,.slice none 0 0]++ #[.bool false,.slice none 0 0])++(#[.bool false,.slice none 0 0]++ #[.bool false,.slice none 0 0])),?_,⟨_,_,rfl,rfl,rfl,hz,hz⟩⟩;obtain⟨dd,op,ty,ps,af,gd⟩:=o;subst ho
 go_simp
end
theorem vzz_D3 {N:Nat}{a b:Int}{cs:Array Value}{w:World}(h:VP2 2 2 (Vz N a) (Vz N b) (.agg cs) w):∃v,cs[3]? =some v/\VD N b v w:=by
 obtain⟨x,y,h1,h2,h3,h4,h5⟩:=h;obtain⟨nb,p,n,c,e1,e2,-⟩:=h4;obtain⟨nb2,p2,n2,c2,f1,f2,f3⟩:=h5;cases h3;cases e1;cases f1;exact⟨_,rfl,p2,n2,c2,rfl,f2.2.1,f2.2.2.1,f2.2.2.2.1,f2.2.2.2.2,f3⟩
instance (N:Nat)(a b:Int):CeC (VP2 2 2 (Vz N a) (Vz N b)) 3 (VD N b):=⟨fun _ _ h=>vzz_D3 h⟩
theorem vzz_N2 {N:Nat}{a b:Int}{cs:Array Value}{w:World}(h:VP2 2 2 (Vz N a) (Vz N b) (.agg cs) w):∃v,cs[2]? =some v/\Vb (decide (b<0)) v w:=by
 obtain⟨x,y,h1,h2,h3,h4,h5⟩:=h;obtain⟨nb,p,n,c,e1,e2,-⟩:=h4;obtain⟨nb2,p2,n2,c2,f1,f2,f3⟩:=h5;cases h3;cases e1;cases f1;exact⟨_,rfl,congrArg Value.bool f2.1⟩
theorem vzz_N2T {N:Nat}{a b:Int}{cs:Array Value}{w:World}(h:VP2 2 2 (Vz N a) (Vz N b) (.agg cs) w)(hz:b<0):∃v,cs[2]? =some v/\Vb true v w:=by
 obtain⟨v,h1,h2⟩:=vzz_N2 h;rw [dT hz] at h2;exact⟨v,h1,h2⟩
theorem vzz_N2F {N:Nat}{a b:Int}{cs:Array Value}{w:World}(h:VP2 2 2 (Vz N a) (Vz N b) (.agg cs) w)(hz:¬b<0):∃v,cs[2]? =some v/\Vb false v w:=by
 obtain⟨v,h1,h2⟩:=vzz_N2 h;rw [dF hz] at h2;exact⟨v,h1,h2⟩
theorem cR3Valid {W:World}{N:Nat}{z:Int}{v:Value}(h:Vz N z v W)(hN:N<=1000000:=by omega):Calls Tryz.prog 138 #[v] W (RV (Vb true) W):=by
 obtain⟨nb,p,n,c,rfl,hI,hn⟩:=h;have:=rValid_any nb p n c (digs z.natAbs) W hI.2.2.1 hI.2.1 (by omega);rw [vld_int hI.1] at this;exact this.mono fun e w' h=>⟨_,h.1,rfl,h.2⟩
end
end Go.Proofs.YteacdbgalloaiaaGreat
