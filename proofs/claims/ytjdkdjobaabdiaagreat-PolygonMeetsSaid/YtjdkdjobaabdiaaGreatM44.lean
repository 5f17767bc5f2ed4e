/- Contracts of the packages integer, rat, plane, polygon and their references. -/
import Derived.Test.YtjdkdjobaabdiaaGreatM42
import Derived.Test.YtjdkdjobaabdiaaGreatM43
import Derived.Test.YtjdkdjobaabdiaaGreatM8
set_option linter.unusedVariables false
set_option maxRecDepth 100000
set_option maxHeartbeats 6400000
namespace Go.Proofs.YtjdkdjobaabdiaaGreat
open Go.RowKit
open Go
theorem mts_common {a b c d:P2}:mts a b c d=true↔common a b c d:=by
 constructor
 ·intro h
  have h2:=h
  unfold mts at h2
  simp only [Bool.and_eq_true] at h2
  rcases both h2.2.1 h2.2.2 with h3|⟨h3,-⟩
  ·exact h3
  ·rw [h3] at h2;exact absurd h2.1 (by decide)
 ·intro h
  rw [←meetEq]
  exact common_meetsR h
theorem pt_flip (a b:P2)(s:Rat):ptS b a (1 - s)=ptS a b s:=by
 unfold ptS
 exact Prod.ext (by show b.1+(1 - s)*(a.1 - b.1)=a.1+s*(b.1 - a.1);grind) (by show b.2+(1 - s)*(a.2 - b.2)=a.2+s*(b.2 - a.2);grind)
theorem common_flip {a b c d:P2}:common a b c d→common b a c d:=by
 rintro⟨s,t,h1,h2,h3,h4,h5⟩
 exact⟨1 - s,t,by grind,by grind,h3,h4,(pt_flip a b s).trans h5⟩
theorem mts_flip (a b c d:P2):mts b a c d=mts a b c d:=Bool.eq_iff_iff.2 (mts_common.trans (Iff.trans ⟨common_flip,common_flip⟩ mts_common.symm))
theorem mts_back (a b c d:P2):mts c d b a=mts a b c d:=by rw [mts_symm,mts_flip]
theorem mts_chain (a b c:P2):mts a b b c=true:=mts_common.2 ⟨1,0,by decide,by decide,by decide,by decide,(pt1 a b).trans (pt0 b c).symm⟩
theorem polyR_len (l:List Int):3≤(polyR l).length∧(polyR l).length≤12:=by
 unfold polyR
 split
 ·rename_i h;exact validR_len h
 ·exact⟨by show 3≤4;omega,by show 4≤12;omega⟩
def mid2 (a b:P2):P2:=(midQ a.1 b.1,midQ a.2 b.2)
def lstM (P:List P2)(m:List Int):List P2:=[spt m 0,spt m 3,cv P 0,cv P 1,mid2 (cv P 0) (cv P 1),mid2 (cv P 1) (cv P 2)]
theorem cv_gets {vs:List P2}{k:Nat}(h:k<vs.length):vs[k]? =some (cv vs k):=by
 have:=cv_get (vs:=vs) k (by omega)
 rwa [Nat.mod_eq_of_lt h] at this
theorem bslice_V6 {ρ:Operand→Value}{o:Oper}{W:World}{M:Nat}{x0 x1 x2 x3 x4 x5:Operand}{v0 v1 v2 v3 v4 v5:Value}{d0 d1 d2 d3 d4 d5:P2}(ho:o.op= .buildSlice 23 6 #[(0,x0),(1,x1),(2,x2),(3,x3),(4,x4),(5,x5)])(e0:ρ x0=v0)(e1:ρ x1=v1)(e2:ρ x2=v2)(e3:ρ x3=v3)(e4:ρ x4=v4)(e5:ρ x5=v5)(h0:Vv M d0.1 d0.2 v0 W)(h1:Vv M d1.1 d1.2 v1 W)(h2:Vv M d2.1 d2.2 v2 W)(h3:Vv M d3.1 d3.2 v3 W)(h4:Vv M d4.1 d4.2 v4 W)(h5:Vv M d5.1 d5.2 v5 W):
 ∃v w',(execOp ρ o).run Tryz.prog W= .ok (.value v) w'∧Below W.heap.size W w'∧VSv M [d0,d1,d2,d3,d4,d5] v w':=by
 obtain⟨c0,rfl,s0,-⟩:=AggV_Vv _ _ _ _ _ h0
 obtain⟨c1,rfl,s1,-⟩:=AggV_Vv _ _ _ _ _ h1
 obtain⟨c2,rfl,s2,-⟩:=AggV_Vv _ _ _ _ _ h2
 obtain⟨c3,rfl,s3,-⟩:=AggV_Vv _ _ _ _ _ h3
 obtain⟨c4,rfl,s4,-⟩:=AggV_Vv _ _ _ _ _ h4
 obtain⟨c5,rfl,s5,-⟩:=AggV_Vv _ _ _ _ _ h5
 obtain⟨p0_0,p0_1,p0_2,p0_3,p0_4,p0_5,p0_6,p0_7,rfl⟩:=arr8 s0
 obtain⟨p1_0,p1_1,p1_2,p1_3,p1_4,p1_5,p1_6,p1_7,rfl⟩:=arr8 s1
 obtain⟨p2_0,p2_1,p2_2,p2_3,p2_4,p2_5,p2_6,p2_7,rfl⟩:=arr8 s2
 obtain⟨p3_0,p3_1,p3_2,p3_3,p3_4,p3_5,p3_6,p3_7,rfl⟩:=arr8 s3
 obtain⟨p4_0,p4_1,p4_2,p4_3,p4_4,p4_5,p4_6,p4_7,rfl⟩:=arr8 s4
 obtain⟨p5_0,p5_1,p5_2,p5_3,p5_4,p5_5,p5_6,p5_7,rfl⟩:=arr8 s5
 have hb:=below_new W (.cells #[p0_0,p0_1,p0_2,p0_3,p0_4,p0_5,p0_6,p0_7,p1_0,p1_1,p1_2,p1_3,p1_4,p1_5,p1_6,p1_7,p2_0,p2_1,p2_2,p2_3,p2_4,p2_5,p2_6,p2_7,p3_0,p3_1,p3_2,p3_3,p3_4,p3_5,p3_6,p3_7,p4_0,p4_1,p4_2,p4_3,p4_4,p4_5,p4_6,p4_7,p5_0,p5_1,p5_2,p5_3,p5_4,p5_5,p5_6,p5_7] 35)
 refine⟨.slice (some ⟨W.heap.size,0,none⟩) 6 6,_,?_,hb,.inr ⟨_,0,6,_,rfl,Nat.le_refl _,by omega,heap_alloc_new _ _,Nat.le_refl _,fun i z hz=>?_⟩⟩
 ·clear h0 h1 h2 h3 h4 h5 hb
  obtain⟨dd,op,ty,ps,af,gd⟩:=o
  subst ho
  go_simp
 ·match i,hz with
  |0,hz=>cases hz;exact Stab_Vv (BT:=[]) _ _ _ _ _ _ h0 (RI.of_below hb)
  |1,hz=>cases hz;exact Stab_Vv (BT:=[]) _ _ _ _ _ _ h1 (RI.of_below hb)
  |2,hz=>cases hz;exact Stab_Vv (BT:=[]) _ _ _ _ _ _ h2 (RI.of_below hb)
  |3,hz=>cases hz;exact Stab_Vv (BT:=[]) _ _ _ _ _ _ h3 (RI.of_below hb)
  |4,hz=>cases hz;exact Stab_Vv (BT:=[]) _ _ _ _ _ _ h4 (RI.of_below hb)
  |5,hz=>cases hz;exact Stab_Vv (BT:=[]) _ _ _ _ _ _ h5 (RI.of_below hb)
  |i+6,hz=>simp at hz
section
variable {ρ:Operand→Value}{o:Oper}{w W:World}{x y:Operand}{va vb:Value}{N:Nat}{vs:List P2}
theorem index_SvA {a:P2}{j:Nat}(ho:o.op= .indexAddr 23 x y)(hx:ρ x=va)(h:VAt w (VSv N vs) va W)(hy:ρ y=vb)(hb:Vi (j:Int) vb W)(hz:vs[j]? =some a):∃v,(execOp ρ o).run Tryz.prog W= .ok (.value v) W∧VAt w (VEp 35 8 (Vv N a.1 a.2)) v W:=index_Sv ho hx (show VEq va va W from rfl) h hy hb hz
end
theorem walkMeets {w:World}{l m:List Int}{v0 v1:Value}(h0:VI l v0 w)(h1:VI m v1 w):Calls Tryz.prog 6 #[v0,v1] w (RV (Vb true) w):=by
 go_enter Tryz.func6,Tryz.ntmps6
 have st0:St w.heap.size w 116 [] [(0,VI l),(1,VI m)] _ w:=St.begin (a:=⟨#[v0,v1,undef,undef,undef,undef,undef,undef,undef,undef,undef,undef,undef,undef,undef,undef,undef,undef,undef,undef,undef,undef,undef,undef,undef,undef,undef,undef,undef,undef,undef,undef,undef,undef,undef,undef,undef,undef,undef,undef,undef,undef,undef,undef,undef,undef,undef,undef,undef,undef,undef,undef,undef,undef,undef,undef,undef,undef,undef,undef,undef,undef,undef,undef,undef,undef,undef,undef,undef,undef,undef,undef,undef,undef,undef,undef,undef,undef,undef,undef,undef,undef,undef,undef,undef,undef,undef,undef,undef,undef,undef,undef,undef,undef,undef,undef,undef,undef,undef,undef,undef,undef,undef,undef,undef,undef,undef,undef,undef,undef,undef,undef,undef,undef,undef,undef],[]⟩) rfl rfl (Lq.2 ⟨⟨_,rfl,h0⟩,(Lq.2 ⟨⟨_,rfl,h1⟩,(fun _ h=>absurd h (by simp))⟩)⟩)
 generalize(⟨_,_⟩:Act)=a0 at st0 ⊢
 repeat first|refine Wq ?_|refine Wb ?_|refine Wk ?_|refine Wx ?_
 refine rg (BT:=[(35,8,0)]) (Vl:=[Vb (false)]) (B:=[]) (SL':=[(0,VI l),(1,VI m),(4,Vb (false))]) st0 ⟨ks,trivial⟩ ?_
 intro a1 w1 st1
 clear st0
 repeat first|refine Wq ?_|refine Wb ?_|refine Wk ?_|refine Wx ?_
 have:Sb [] (VSv 7 (polyR l)):=⟨Stab_VSvN⟩
 refine rg (BT:=[]) (Vl:=[VI l,VSv 7 (polyR l),VSv 7 (polyR l)]) (B:=[]) (SL':=[(0,VI l),(1,VI m),(4,Vb (false)),(5,VSv 7 (polyR l))]) st1 ⟨ks,?s1,ks,trivial⟩ ?_
 case s1=>exact kd1 fun _ _ _ _ _ X0=>cR6Polygon X0
 intro a2 w2 st2
 clear st1
 replace st2:St w.heap.size w 116 [] [(0,VI l),(1,VI m),(4,Vb (false)),(5,VSv 7 (polyR l))] a2 w2:=st2
 obtain⟨u0,p0,s0⟩:=st2.sl (0,VI l) (lS_mem rfl)
 obtain⟨u1,p1,s1⟩:=st2.sl (1,VI m) (lS_mem rfl)
 obtain⟨u5,p5,s5⟩:=st2.sl (5,VSv 7 (polyR l)) (lS_mem rfl)
 repeat first|refine Wq ?_|refine Wb ?_|refine Wk ?_|refine Wx ?_
 obtain⟨hbN,stB⟩:=st2.base [(0,VI l),(1,VI m),(5,VAt w2 (VSv 7 (polyR l)))] (Lq.2 ⟨⟨_,p0,s0⟩,(Lq.2 ⟨⟨_,p1,s1⟩,(Lq.2 ⟨⟨_,p5,s5⟩,(fun _ h=>absurd h (by simp))⟩)⟩)⟩)
 clear st2
 obtain⟨wO,hren⟩:∃z,z=w:=⟨_,rfl⟩
 subst hren
 have hbO:=hbN
 clear hbN
 obtain⟨w,hren⟩:∃z,z=w2:=⟨_,rfl⟩
 subst hren
 have st2:St w.heap.size w 116 [] [(0,VI l),(1,VI m),(5,VAt w (VSv 7 (polyR l)))] a2 w:=stB
 clear stB
 clear p0 s0 p1 s1 p5 s5
 obtain⟨hP3,hP12⟩:=polyR_len l
 repeat first|refine Wq ?_|refine Wb ?_|refine Wk ?_|refine Wx ?_
 have:Sb [] (VSv 30 (lstM (polyR l) m)):=⟨Stab_VSvN⟩
 refine rg (BT:=[]) (Vl:=[VI m,Vv 3 ((spt m (0)).1) ((spt m (0)).2),VI m,Vv 3 ((spt m (3)).1) ((spt m (3)).2),VAt w (VSv 7 (polyR l)),VAt w (VEp 35 8 (Vv 7 (cv (polyR l) (0)).1 (cv (polyR l) (0)).2)),Vv 7 ((cv (polyR l) (0)).1) ((cv (polyR l) (0)).2),VAt w (VSv 7 (polyR l)),VAt w (VEp 35 8 (Vv 7 (cv (polyR l) (1)).1 (cv (polyR l) (1)).2)),Vv 7 ((cv (polyR l) (1)).1) ((cv (polyR l) (1)).2),VAt w (VSv 7 (polyR l)),VAt w (VEp 35 8 (Vv 7 (cv (polyR l) (0)).1 (cv (polyR l) (0)).2)),Vv 7 ((cv (polyR l) (0)).1) ((cv (polyR l) (0)).2),VAt w (VSv 7 (polyR l)),VAt w (VEp 35 8 (Vv 7 (cv (polyR l) (1)).1 (cv (polyR l) (1)).2)),Vv 7 ((cv (polyR l) (1)).1) ((cv (polyR l) (1)).2),Vv 30 (midQ ((cv (polyR l) (0)).1) ((cv (polyR l) (1)).1)) (midQ ((cv (polyR l) (0)).2) ((cv (polyR l) (1)).2)),VAt w (VSv 7 (polyR l)),VAt w (VEp 35 8 (Vv 7 (cv (polyR l) (1)).1 (cv (polyR l) (1)).2)),Vv 7 ((cv (polyR l) (1)).1) ((cv (polyR l) (1)).2),VAt w (VSv 7 (polyR l)),VAt w (VEp 35 8 (Vv 7 (cv (polyR l) (2)).1 (cv (polyR l) (2)).2)),Vv 7 ((cv (polyR l) (2)).1) ((cv (polyR l) (2)).2),Vv 30 (midQ ((cv (polyR l) (1)).1) ((cv (polyR l) (2)).1)) (midQ ((cv (polyR l) (1)).2) ((cv (polyR l) (2)).2)),VSv 30 (lstM (polyR l) m),VSv 30 (lstM (polyR l) m)]) (B:=[]) (SL':=[(0,VI l),(1,VI m),(5,VAt w (VSv 7 (polyR l))),(6,VSv 30 (lstM (polyR l) m))]) st2 ⟨ks,?s1,ks,?s3,ks,?s5,?s6,ks,?s8,?s9,ks,?s11,?s12,ks,?s14,?s15,?s16,ks,?s18,?s19,ks,?s21,?s22,?s23,?s24,ks,trivial⟩ ?_
 case s1=>
  refine kc fun _ ac Y h D=>?_
  obtain⟨v0,x0,X0⟩:=h.dp D 16
  exact⟨#[v0,.int .i64 (0)],by simp [x0,eval_const],cR6Spot X0 (show Vi (0) (.int .i64 (0)) Y from rfl) (by omega) (by omega)⟩
 case s3=>
  refine kc fun _ ac Y h D=>?_
  obtain⟨v0,x0,X0⟩:=h.dp D 18
  exact⟨#[v0,.int .i64 (3)],by simp [x0,eval_const],cR6Spot X0 (show Vi (3) (.int .i64 (3)) Y from rfl) (by omega) (by omega)⟩
 case s5=>refine kr fun _ ac Y h D=>?_;obtain⟨v0,x0,X0⟩:=h.dp D 20;exact index_SvA (j:=0) (a:=(cv (polyR l) (0))) rfl x0 X0 rfl rfl (cv_gets (by omega))
 case s6=>
  refine kr fun _ ac Y h D=>?_
  obtain⟨v0,x0,X0⟩:=h.dp D 21
  exact load_EpC (w:=w) (k:=8) (A:=Vv 7 (cv (polyR l) (0)).1 (cv (polyR l) (0)).2) (Stab_Vv _ _ _) rfl x0 X0 h.k.below Tryz.underlying35 rfl size_Vec
 case s8=>refine kr fun _ ac Y h D=>?_;obtain⟨v0,x0,X0⟩:=h.dp D 23;exact index_SvA (j:=1) (a:=(cv (polyR l) (1))) rfl x0 X0 rfl rfl (cv_gets (by omega))
 case s9=>
  refine kr fun _ ac Y h D=>?_
  obtain⟨v0,x0,X0⟩:=h.dp D 24
  exact load_EpC (w:=w) (k:=8) (A:=Vv 7 (cv (polyR l) (1)).1 (cv (polyR l) (1)).2) (Stab_Vv _ _ _) rfl x0 X0 h.k.below Tryz.underlying35 rfl size_Vec
 case s11=>refine kr fun _ ac Y h D=>?_;obtain⟨v0,x0,X0⟩:=h.dp D 26;exact index_SvA (j:=0) (a:=(cv (polyR l) (0))) rfl x0 X0 rfl rfl (cv_gets (by omega))
 case s12=>
  refine kr fun _ ac Y h D=>?_
  obtain⟨v0,x0,X0⟩:=h.dp D 27
  exact load_EpC (w:=w) (k:=8) (A:=Vv 7 (cv (polyR l) (0)).1 (cv (polyR l) (0)).2) (Stab_Vv _ _ _) rfl x0 X0 h.k.below Tryz.underlying35 rfl size_Vec
 case s14=>refine kr fun _ ac Y h D=>?_;obtain⟨v0,x0,X0⟩:=h.dp D 29;exact index_SvA (j:=1) (a:=(cv (polyR l) (1))) rfl x0 X0 rfl rfl (cv_gets (by omega))
 case s15=>
  refine kr fun _ ac Y h D=>?_
  obtain⟨v0,x0,X0⟩:=h.dp D 30
  exact load_EpC (w:=w) (k:=8) (A:=Vv 7 (cv (polyR l) (1)).1 (cv (polyR l) (1)).2) (Stab_Vv _ _ _) rfl x0 X0 h.k.below Tryz.underlying35 rfl size_Vec
 case s16=>exact kd2 fun _ _ _ _ _ X0 _ X1=>cR6Middle (N:=7) X0 X1 (by omega) (by omega)
 case s18=>refine kr fun _ ac Y h D=>?_;obtain⟨v0,x0,X0⟩:=h.dp D 33;exact index_SvA (j:=1) (a:=(cv (polyR l) (1))) rfl x0 X0 rfl rfl (cv_gets (by omega))
 case s19=>
  refine kr fun _ ac Y h D=>?_
  obtain⟨v0,x0,X0⟩:=h.dp D 34
  exact load_EpC (w:=w) (k:=8) (A:=Vv 7 (cv (polyR l) (1)).1 (cv (polyR l) (1)).2) (Stab_Vv _ _ _) rfl x0 X0 h.k.below Tryz.underlying35 rfl size_Vec
 case s21=>refine kr fun _ ac Y h D=>?_;obtain⟨v0,x0,X0⟩:=h.dp D 36;exact index_SvA (j:=2) (a:=(cv (polyR l) (2))) rfl x0 X0 rfl rfl (cv_gets (by omega))
 case s22=>
  refine kr fun _ ac Y h D=>?_
  obtain⟨v0,x0,X0⟩:=h.dp D 37
  exact load_EpC (w:=w) (k:=8) (A:=Vv 7 (cv (polyR l) (2)).1 (cv (polyR l) (2)).2) (Stab_Vv _ _ _) rfl x0 X0 h.k.below Tryz.underlying35 rfl size_Vec
 case s23=>exact kd2 fun _ _ _ _ _ X0 _ X1=>cR6Middle (N:=7) X0 X1 (by omega) (by omega)
 case s24=>
  refine km fun _ ac Y h D=>?_
  obtain⟨v0,x0,X0⟩:=h.dp D 17
  obtain⟨v1,x1,X1⟩:=h.dp D 19
  obtain⟨v2,x2,X2⟩:=h.dp D 22
  obtain⟨v3,x3,X3⟩:=h.dp D 25
  obtain⟨v4,x4,X4⟩:=h.dp D 32
  obtain⟨v5,x5,X5⟩:=h.dp D 39
  exact bslice_V6 (M:=30) (d0:=spt m 0) (d1:=spt m 3) (d2:=cv (polyR l) 0) (d3:=cv (polyR l) 1) (d4:=mid2 (cv (polyR l) 0) (cv (polyR l) 1)) (d5:=mid2 (cv (polyR l) 1) (cv (polyR l) 2)) rfl x0 x1 x2 x3 x4 x5 (Vv_le X0 (by omega)) (Vv_le X1 (by omega)) (Vv_le X2 (by omega)) (Vv_le X3 (by omega)) X4 X5
 intro a3 w3 st3
 clear st2
 replace st3:St w.heap.size w 116 [] [(0,VI l),(1,VI m),(5,VAt w (VSv 7 (polyR l))),(6,VSv 30 (lstM (polyR l) m))] a3 w3:=st3
 obtain⟨u6,p6,s6⟩:=st3.sl (6,VSv 30 (lstM (polyR l) m)) (lS_mem rfl)
 repeat first|refine Wq ?_|refine Wb ?_|refine Wk ?_|refine Wx ?_
 obtain⟨hbN,stB⟩:=st3.base [(6,VAt w3 (VSv 30 (lstM (polyR l) m)))] (Lq.2 ⟨⟨_,p6,s6⟩,(fun _ h=>absurd h (by simp))⟩)
 clear st3
 have hbX:=below_tr hbO hbN
 clear hbN
 clear hbO
 have hbO:=hbX
 clear hbX
 obtain⟨wP,hren⟩:∃z,z=w:=⟨_,rfl⟩
 subst hren
 obtain⟨w,hren⟩:∃z,z=w3:=⟨_,rfl⟩
 subst hren
 have st3:St w.heap.size w 116 [] [(6,VAt w (VSv 30 (lstM (polyR l) m)))] a3 w:=stB
 clear stB
 clear p6 s6
 have hL6:(lstM (polyR l) m).length=6:=rfl
 generalize lstM (polyR l) m=L at st3 hL6
 repeat first|refine Wq ?_|refine Wb ?_|refine Wk ?_|refine Wx ?_
 refine rg (BT:=[(35,8,0)]) (Vl:=[Vi (0)]) (B:=[]) (SL':=[(6,VAt w (VSv 30 (L))),(7,Vi (0))]) st3 ⟨ks,trivial⟩ ?_
 intro a4 w4 st4
 clear st3
 replace st4:St w.heap.size w 116 [] [(6,VAt w (VSv 30 (L))),(7,Vi (((0:Nat):Int)))] a4 w4:=st4.cut
 repeat first|refine Wq ?_|refine Wb ?_|refine Wk ?_|refine Wx ?_
 refine wp_loop_ghost (fun m aX wX=>∃j:Nat,j+m=6∧St w.heap.size w 116 [] [(6,VAt w (VSv 30 (L))),(7,Vi (((j:Nat):Int)))] aX wX) 6 ⟨0,by omega,st4⟩ ?_
 clear st4
 intro m1 aL wL ⟨j,hj,st4⟩
 by_cases hlt:j<6
 ·
  repeat first|refine Wq ?_|refine Wb ?_|refine Wk ?_|refine Wx ?_
  refine rg (BT:=[(35,8,0)]) (Vl:=[Vi (((j:Nat):Int)),VAt w (VSv 30 (L)),Vi (6),Vb (true)]) (B:=[]) (SL':=[(6,VAt w (VSv 30 (L))),(7,Vi (((j:Nat):Int))),(44,Vb (true))]) st4 ⟨ks,ks,?s2,?s3,trivial⟩ ?_
  case s2=>refine kr fun _ ac Y h D=>?_;obtain⟨v0,x0,X0⟩:=h.dp D 42;rw [←show((L.length:Nat):Int)=6 by rw [hL6];rfl];exact len_SvA rfl rfl x0 X0
  case s3=>
   refine kr fun _ ac Y h D=>?_
   obtain⟨v0,x0,X0⟩:=h.dp D 41
   have hV0':v0= .int .i64 (((j:Nat):Int)):=X0
   obtain⟨v1,x1,X1⟩:=h.dp D 43
   have hV1':v1= .int .i64 (6):=X1
   exact⟨_,run_lssi rfl (x0.trans hV0') (x1.trans hV1'),congrArg Value.bool (dT (by omega))⟩
  intro a5 w5 st5
  clear st4
  repeat first|refine Wq ?_|refine Wb ?_|refine Wk ?_|refine Wx ?_
  obtain⟨vc,hc1,hc2⟩:=st5.slot (44,Vb (true)) (.tail _ (.tail _ (.head _)))
  refine wp_cond_true (hc1.trans hc2) ?_
  clear hc1 hc2
  repeat first|refine Wq ?_|refine Wb ?_|refine Wk ?_|refine Wx ?_
  refine rg (BT:=[(35,8,0)]) (Vl:=[Vi (0)]) (B:=[]) (SL':=[(6,VAt w (VSv 30 (L))),(7,Vi (((j:Nat):Int))),(44,Vb (true)),(8,Vi (0))]) st5 ⟨ks,trivial⟩ ?_
  intro a6 w6 st6
  clear st5
  replace st6:St w.heap.size w 116 [] [(6,VAt w (VSv 30 (L))),(7,Vi (((j:Nat):Int))),(8,Vi (((0:Nat):Int)))] a6 w6:=st6.cut
  repeat first|refine Wq ?_|refine Wb ?_|refine Wk ?_|refine Wx ?_
  refine wp_loop_ghost (fun m aX wX=>∃t:Nat,t+m=6∧St w.heap.size w 116 [] [(6,VAt w (VSv 30 (L))),(7,Vi (((j:Nat):Int))),(8,Vi (((t:Nat):Int)))] aX wX) 6 ⟨0,by omega,st6⟩ ?_
  clear st6
  intro m2 aM wM ⟨t,ht,st6⟩
  by_cases hlt2:t<6
  ·
   repeat first|refine Wq ?_|refine Wb ?_|refine Wk ?_|refine Wx ?_
   refine rg (BT:=[(35,8,0)]) (Vl:=[Vi (((t:Nat):Int)),VAt w (VSv 30 (L)),Vi (6),Vb (true)]) (B:=[]) (SL':=[(6,VAt w (VSv 30 (L))),(7,Vi (((j:Nat):Int))),(8,Vi (((t:Nat):Int))),(50,Vb (true))]) st6 ⟨ks,ks,?s2,?s3,trivial⟩ ?_
   case s2=>refine kr fun _ ac Y h D=>?_;obtain⟨v0,x0,X0⟩:=h.dp D 48;rw [←show((L.length:Nat):Int)=6 by rw [hL6];rfl];exact len_SvA rfl rfl x0 X0
   case s3=>
    refine kr fun _ ac Y h D=>?_
    obtain⟨v0,x0,X0⟩:=h.dp D 47
    have hV0':v0= .int .i64 (((t:Nat):Int)):=X0
    obtain⟨v1,x1,X1⟩:=h.dp D 49
    have hV1':v1= .int .i64 (6):=X1
    exact⟨_,run_lssi rfl (x0.trans hV0') (x1.trans hV1'),congrArg Value.bool (dT (by omega))⟩
   intro a7 w7 st7
   clear st6
   repeat first|refine Wq ?_|refine Wb ?_|refine Wk ?_|refine Wx ?_
   obtain⟨vc,hc1,hc2⟩:=st7.slot (50,Vb (true)) (.tail _ (.tail _ (.tail _ (.head _))))
   refine wp_cond_true (hc1.trans hc2) ?_
   clear hc1 hc2
   have hgj:L[j]? =some (cv L j):=cv_gets (by omega)
   have hgt:L[t]? =some (cv L t):=cv_gets (by omega)
   have hgc:L[(j+2) % 6]? =some (cv L (j+2)):=by have:=cv_get (vs:=L) (j+2) (by omega);rwa [hL6] at this
   have hgd:L[(t+3) % 6]? =some (cv L (t+3)):=by have:=cv_get (vs:=L) (t+3) (by omega);rwa [hL6] at this
   repeat first|refine Wq ?_|refine Wb ?_|refine Wk ?_|refine Wx ?_
   refine rg (BT:=[(35,8,0)]) (Vl:=[VAt w (VSv 30 (L)),Vi (((j:Nat):Int)),VAt w (VEp 35 8 (Vv 30 (cv (L) (j)).1 (cv (L) (j)).2)),Vv 30 ((cv (L) (j)).1) ((cv (L) (j)).2),VT,VT]) (B:=[⟨9,some 4,some 5,35,8,Vv 30 ((cv (L) (j)).1) ((cv (L) (j)).2),VT⟩]) (SL':=[(6,VAt w (VSv 30 (L))),(7,Vi (((j:Nat):Int))),(8,Vi (((t:Nat):Int))),(50,Vb (true))]) st7 ⟨ks,ks,?s2,?s3,ks,ks,trivial⟩ ?_
   case s2=>refine kr fun _ ac Y h D=>?_;obtain⟨v0,x0,X0⟩:=h.dp D 53;obtain⟨v1,x1,X1⟩:=h.dp D 54;exact index_SvA (a:=(cv (L) (j))) rfl x0 X0 x1 X1 hgj
   case s3=>
    refine kr fun _ ac Y h D=>?_
    obtain⟨v0,x0,X0⟩:=h.dp D 55
    exact load_EpC (w:=w) (k:=8) (A:=Vv 30 (cv (L) (j)).1 (cv (L) (j)).2) (Stab_Vv _ _ _) rfl x0 X0 h.k.below Tryz.underlying35 rfl size_Vec
   intro a8 w8 st8
   clear st7
   repeat first|refine Wq ?_|refine Wb ?_|refine Wk ?_|refine Wx ?_
   refine rg (BT:=[(35,8,0)]) (Vl:=[VAt w (VSv 30 (L)),Vi (((t:Nat):Int)),VAt w (VEp 35 8 (Vv 30 (cv (L) (t)).1 (cv (L) (t)).2)),Vv 30 ((cv (L) (t)).1) ((cv (L) (t)).2),VT,VT]) (B:=[⟨9,none,none,35,8,Vv 30 ((cv (L) (j)).1) ((cv (L) (j)).2),VT⟩,⟨10,some 4,some 5,35,8,Vv 30 ((cv (L) (t)).1) ((cv (L) (t)).2),VT⟩]) (SL':=[(6,VAt w (VSv 30 (L))),(7,Vi (((j:Nat):Int))),(8,Vi (((t:Nat):Int))),(50,Vb (true))]) st8 ⟨ks,ks,?s2,?s3,ks,ks,trivial⟩ ?_
   case s2=>refine kr fun _ ac Y h D=>?_;obtain⟨v0,x0,X0⟩:=h.dp D 57;obtain⟨v1,x1,X1⟩:=h.dp D 58;exact index_SvA (a:=(cv (L) (t))) rfl x0 X0 x1 X1 hgt
   case s3=>
    refine kr fun _ ac Y h D=>?_
    obtain⟨v0,x0,X0⟩:=h.dp D 59
    exact load_EpC (w:=w) (k:=8) (A:=Vv 30 (cv (L) (t)).1 (cv (L) (t)).2) (Stab_Vv _ _ _) rfl x0 X0 h.k.below Tryz.underlying35 rfl size_Vec
   intro a9 w9 st9
   clear st8
   repeat first|refine Wq ?_|refine Wb ?_|refine Wk ?_|refine Wx ?_
   refine rg (BT:=[(35,8,0)]) (Vl:=[VAt w (VSv 30 (L)),Vi (((j:Nat):Int)),Vi (((j+2:Nat):Int)),VAt w (VSv 30 (L)),Vi (((6:Nat):Int)),Vi ((((j+2) % 6:Nat):Int)),VAt w (VEp 35 8 (Vv 30 (cv (L) (j+2)).1 (cv (L) (j+2)).2)),Vv 30 ((cv (L) (j+2)).1) ((cv (L) (j+2)).2),VT,VT]) (B:=[⟨9,none,none,35,8,Vv 30 ((cv (L) (j)).1) ((cv (L) (j)).2),VT⟩,⟨10,none,none,35,8,Vv 30 ((cv (L) (t)).1) ((cv (L) (t)).2),VT⟩,⟨11,some 8,some 9,35,8,Vv 30 ((cv (L) (j+2)).1) ((cv (L) (j+2)).2),VT⟩]) (SL':=[(6,VAt w (VSv 30 (L))),(7,Vi (((j:Nat):Int))),(8,Vi (((t:Nat):Int))),(50,Vb (true))]) st9 ⟨ks,ks,?s2,ks,?s4,?s5,?s6,?s7,ks,ks,trivial⟩ ?_
   case s2=>
    refine kr fun _ ac Y h D=>?_
    obtain⟨v0,x0,X0⟩:=h.dp D 62
    exact⟨_,run_addi rfl (x0.trans (show v0= .int .i64 ((j:Nat):Int)from X0)) rfl (wrap_id (by omega) (by omega)),congrArg (Value.int .i64) (by omega)⟩
   case s4=>refine kr fun _ ac Y h D=>?_;obtain⟨v0,x0,X0⟩:=h.dp D 64;rw [←hL6];exact len_SvA rfl rfl x0 X0
   case s5=>refine kr fun _ ac Y h D=>?_;obtain⟨v0,x0,X0⟩:=h.dp D 63;obtain⟨v1,x1,X1⟩:=h.dp D 65;exact rem_n rfl x0 x1 X0 X1 (by omega)
   case s6=>refine kr fun _ ac Y h D=>?_;obtain⟨v0,x0,X0⟩:=h.dp D 61;obtain⟨v1,x1,X1⟩:=h.dp D 66;exact index_SvA (a:=(cv (L) (j+2))) rfl x0 X0 x1 X1 hgc
   case s7=>
    refine kr fun _ ac Y h D=>?_
    obtain⟨v0,x0,X0⟩:=h.dp D 67
    exact load_EpC (w:=w) (k:=8) (A:=Vv 30 (cv (L) (j+2)).1 (cv (L) (j+2)).2) (Stab_Vv _ _ _) rfl x0 X0 h.k.below Tryz.underlying35 rfl size_Vec
   intro a10 w10 st10
   clear st9
   repeat first|refine Wq ?_|refine Wb ?_|refine Wk ?_|refine Wx ?_
   refine rg (BT:=[(35,8,0)]) (Vl:=[VAt w (VSv 30 (L)),Vi (((t:Nat):Int)),Vi (((t+3:Nat):Int)),VAt w (VSv 30 (L)),Vi (((6:Nat):Int)),Vi ((((t+3) % 6:Nat):Int)),VAt w (VEp 35 8 (Vv 30 (cv (L) (t+3)).1 (cv (L) (t+3)).2)),Vv 30 ((cv (L) (t+3)).1) ((cv (L) (t+3)).2),VT,VT]) (B:=[⟨9,none,none,35,8,Vv 30 ((cv (L) (j)).1) ((cv (L) (j)).2),VT⟩,⟨10,none,none,35,8,Vv 30 ((cv (L) (t)).1) ((cv (L) (t)).2),VT⟩,⟨11,none,none,35,8,Vv 30 ((cv (L) (j+2)).1) ((cv (L) (j+2)).2),VT⟩,⟨12,some 8,some 9,35,8,Vv 30 ((cv (L) (t+3)).1) ((cv (L) (t+3)).2),VT⟩]) (SL':=[(6,VAt w (VSv 30 (L))),(7,Vi (((j:Nat):Int))),(8,Vi (((t:Nat):Int))),(50,Vb (true))]) st10 ⟨ks,ks,?s2,ks,?s4,?s5,?s6,?s7,ks,ks,trivial⟩ ?_
   case s2=>
    refine kr fun _ ac Y h D=>?_
    obtain⟨v0,x0,X0⟩:=h.dp D 70
    exact⟨_,run_addi rfl (x0.trans (show v0= .int .i64 ((t:Nat):Int)from X0)) rfl (wrap_id (by omega) (by omega)),congrArg (Value.int .i64) (by omega)⟩
   case s4=>refine kr fun _ ac Y h D=>?_;obtain⟨v0,x0,X0⟩:=h.dp D 72;rw [←hL6];exact len_SvA rfl rfl x0 X0
   case s5=>refine kr fun _ ac Y h D=>?_;obtain⟨v0,x0,X0⟩:=h.dp D 71;obtain⟨v1,x1,X1⟩:=h.dp D 73;exact rem_n rfl x0 x1 X0 X1 (by omega)
   case s6=>refine kr fun _ ac Y h D=>?_;obtain⟨v0,x0,X0⟩:=h.dp D 69;obtain⟨v1,x1,X1⟩:=h.dp D 74;exact index_SvA (a:=(cv (L) (t+3))) rfl x0 X0 x1 X1 hgd
   case s7=>
    refine kr fun _ ac Y h D=>?_
    obtain⟨v0,x0,X0⟩:=h.dp D 75
    exact load_EpC (w:=w) (k:=8) (A:=Vv 30 (cv (L) (t+3)).1 (cv (L) (t+3)).2) (Stab_Vv _ _ _) rfl x0 X0 h.k.below Tryz.underlying35 rfl size_Vec
   intro a11 w11 st11
   clear st10
   repeat first|refine Wq ?_|refine Wb ?_|refine Wk ?_|refine Wx ?_
   refine rg (BT:=[(35,8,0)]) (Vl:=[Vv 30 ((cv (L) (j)).1) ((cv (L) (j)).2),Vv 30 ((cv (L) (t)).1) ((cv (L) (t)).2),Vv 30 ((cv (L) (j+2)).1) ((cv (L) (j+2)).2),Vv 30 ((cv (L) (t+3)).1) ((cv (L) (t+3)).2),Vb (mts (cv L j) (cv L t) (cv L (j+2)) (cv L (t+3))),Vb (mts (cv L j) (cv L t) (cv L (j+2)) (cv L (t+3)))]) (B:=[⟨9,none,none,35,8,Vv 30 ((cv (L) (j)).1) ((cv (L) (j)).2),VT⟩,⟨10,none,none,35,8,Vv 30 ((cv (L) (t)).1) ((cv (L) (t)).2),VT⟩,⟨11,none,none,35,8,Vv 30 ((cv (L) (j+2)).1) ((cv (L) (j+2)).2),VT⟩,⟨12,none,none,35,8,Vv 30 ((cv (L) (t+3)).1) ((cv (L) (t+3)).2),VT⟩]) (SL':=[(6,VAt w (VSv 30 (L))),(7,Vi (((j:Nat):Int))),(8,Vi (((t:Nat):Int))),(50,Vb (true)),(13,Vb (mts (cv L j) (cv L t) (cv L (j+2)) (cv L (t+3))))]) st11 ⟨ks,ks,ks,ks,?s4,ks,trivial⟩ ?_
   case s4=>
    refine kc fun _ ac Y h D=>?_
    obtain⟨v0,x0,X0⟩:=h.dp D 77
    obtain⟨v1,x1,X1⟩:=h.dp D 78
    obtain⟨v2,x2,X2⟩:=h.dp D 79
    obtain⟨v3,x3,X3⟩:=h.dp D 80
    exact⟨#[v0,v1,v2,v3],by simp [x0,x1,x2,x3],cR6MeetsV (N:=30) X0 X1 X2 X3 (by omega) (by omega) (meetEq _ _ _ _)⟩
   intro a12 w12 st12
   clear st11
   repeat first|refine Wq ?_|refine Wb ?_|refine Wk ?_|refine Wx ?_
   refine rg (BT:=[(35,8,0)]) (Vl:=[Vv 30 ((cv (L) (j)).1) ((cv (L) (j)).2),Vv 30 ((cv (L) (t)).1) ((cv (L) (t)).2),Vv 30 ((cv (L) (j+2)).1) ((cv (L) (j+2)).2),Vv 30 ((cv (L) (t+3)).1) ((cv (L) (t+3)).2),Vb (mts (cv L j) (cv L t) (cv L (j+2)) (cv L (t+3))),Vb (mts (cv L j) (cv L t) (cv L (j+2)) (cv L (t+3))),Vb (false),Vb (false),Vv 30 ((cv (L) (t)).1) ((cv (L) (t)).2),Vv 30 ((cv (L) (j)).1) ((cv (L) (j)).2),Vv 30 ((cv (L) (j+2)).1) ((cv (L) (j+2)).2),Vv 30 ((cv (L) (t+3)).1) ((cv (L) (t+3)).2),Vb (mts (cv L j) (cv L t) (cv L (j+2)) (cv L (t+3))),Vb (mts (cv L j) (cv L t) (cv L (j+2)) (cv L (t+3))),Vb (false),Vb (false),Vb (false),Vv 30 ((cv (L) (j+2)).1) ((cv (L) (j+2)).2),Vv 30 ((cv (L) (t+3)).1) ((cv (L) (t+3)).2),Vv 30 ((cv (L) (t)).1) ((cv (L) (t)).2),Vv 30 ((cv (L) (j)).1) ((cv (L) (j)).2),Vb (mts (cv L j) (cv L t) (cv L (j+2)) (cv L (t+3))),Vb (mts (cv L j) (cv L t) (cv L (j+2)) (cv L (t+3))),Vb (false),Vb (false),Vb (false),Vv 30 ((cv (L) (j)).1) ((cv (L) (j)).2),Vv 30 ((cv (L) (t)).1) ((cv (L) (t)).2),Vv 30 ((cv (L) (t)).1) ((cv (L) (t)).2),Vv 30 ((cv (L) (j+2)).1) ((cv (L) (j+2)).2),Vb (true),Vb (false),Vb (false)]) (B:=[⟨9,none,none,35,8,Vv 30 ((cv (L) (j)).1) ((cv (L) (j)).2),VT⟩,⟨10,none,none,35,8,Vv 30 ((cv (L) (t)).1) ((cv (L) (t)).2),VT⟩,⟨11,none,none,35,8,Vv 30 ((cv (L) (j+2)).1) ((cv (L) (j+2)).2),VT⟩,⟨12,none,none,35,8,Vv 30 ((cv (L) (t+3)).1) ((cv (L) (t+3)).2),VT⟩]) (SL':=[(6,VAt w (VSv 30 (L))),(7,Vi (((j:Nat):Int))),(8,Vi (((t:Nat):Int))),(50,Vb (true)),(13,Vb (mts (cv L j) (cv L t) (cv L (j+2)) (cv L (t+3)))),(114,Vb (false))]) st12 ⟨ks,ks,ks,ks,?s4,ks,?s6,ks,ks,ks,ks,ks,?s12,ks,?s14,ks,ks,ks,ks,ks,ks,?s21,ks,?s23,ks,ks,ks,ks,ks,ks,?s30,ks,ks,trivial⟩ ?_
   case s4=>
    refine kc fun _ ac Y h D=>?_
    obtain⟨v0,x0,X0⟩:=h.dp D 82
    obtain⟨v1,x1,X1⟩:=h.dp D 83
    obtain⟨v2,x2,X2⟩:=h.dp D 84
    obtain⟨v3,x3,X3⟩:=h.dp D 85
    exact⟨#[v0,v1,v2,v3],by simp [x0,x1,x2,x3],lvMeets X0 X1 X2 X3 (by omega) (by omega) rfl⟩
   case s6=>
    refine kr fun _ ac Y h D=>?_
    obtain⟨v0,x0,X0⟩:=h.dp D 86
    obtain⟨v1,x1,X1⟩:=h.dp D 87
    exact⟨_,run_neqb rfl (x0.trans X0) (x1.trans X1),congrArg Value.bool (bne_self_eq_false _)⟩
   case s12=>
    refine kc fun _ ac Y h D=>?_
    obtain⟨v0,x0,X0⟩:=h.dp D 90
    obtain⟨v1,x1,X1⟩:=h.dp D 91
    obtain⟨v2,x2,X2⟩:=h.dp D 92
    obtain⟨v3,x3,X3⟩:=h.dp D 93
    exact⟨#[v0,v1,v2,v3],by simp [x0,x1,x2,x3],lvMeets X0 X1 X2 X3 (by omega) (by omega) (mts_flip _ _ _ _)⟩
   case s14=>
    refine kr fun _ ac Y h D=>?_
    obtain⟨v0,x0,X0⟩:=h.dp D 94
    obtain⟨v1,x1,X1⟩:=h.dp D 95
    exact⟨_,run_neqb rfl (x0.trans X0) (x1.trans X1),congrArg Value.bool (bne_self_eq_false _)⟩
   case s21=>
    refine kc fun _ ac Y h D=>?_
    obtain⟨v0,x0,X0⟩:=h.dp D 99
    obtain⟨v1,x1,X1⟩:=h.dp D 100
    obtain⟨v2,x2,X2⟩:=h.dp D 101
    obtain⟨v3,x3,X3⟩:=h.dp D 102
    exact⟨#[v0,v1,v2,v3],by simp [x0,x1,x2,x3],lvMeets X0 X1 X2 X3 (by omega) (by omega) (mts_back _ _ _ _)⟩
   case s23=>
    refine kr fun _ ac Y h D=>?_
    obtain⟨v0,x0,X0⟩:=h.dp D 103
    obtain⟨v1,x1,X1⟩:=h.dp D 104
    exact⟨_,run_neqb rfl (x0.trans X0) (x1.trans X1),congrArg Value.bool (bne_self_eq_false _)⟩
   case s30=>
    refine kc fun _ ac Y h D=>?_
    obtain⟨v0,x0,X0⟩:=h.dp D 108
    obtain⟨v1,x1,X1⟩:=h.dp D 109
    obtain⟨v2,x2,X2⟩:=h.dp D 110
    obtain⟨v3,x3,X3⟩:=h.dp D 111
    exact⟨#[v0,v1,v2,v3],by simp [x0,x1,x2,x3],lvMeets X0 X1 X2 X3 (by omega) (by omega) (mts_chain _ _ _)⟩
   intro a13 w13 st13
   clear st12
   repeat first|refine Wq ?_|refine Wb ?_|refine Wk ?_|refine Wx ?_
   obtain⟨vc,hc1,hc2⟩:=st13.slot (114,Vb (false)) (.tail _ (.tail _ (.tail _ (.tail _ (.tail _ (.head _))))))
   refine wp_cond_false (hc1.trans hc2) ?_
   clear hc1 hc2
   repeat first|refine Wq ?_|refine Wb ?_|refine Wk ?_|refine Wx ?_
   refine rg (BT:=[(35,8,0)]) (Vl:=[Vi (((t:Nat):Int)),Vi (((t+1:Nat):Int)),Vi (((t+1:Nat):Int))]) (B:=[⟨9,none,none,35,8,Vv 30 ((cv (L) (j)).1) ((cv (L) (j)).2),VT⟩,⟨10,none,none,35,8,Vv 30 ((cv (L) (t)).1) ((cv (L) (t)).2),VT⟩,⟨11,none,none,35,8,Vv 30 ((cv (L) (j+2)).1) ((cv (L) (j+2)).2),VT⟩,⟨12,none,none,35,8,Vv 30 ((cv (L) (t+3)).1) ((cv (L) (t+3)).2),VT⟩]) (SL':=[(6,VAt w (VSv 30 (L))),(7,Vi (((j:Nat):Int))),(50,Vb (true)),(13,Vb (mts (cv L j) (cv L t) (cv L (j+2)) (cv L (t+3)))),(114,Vb (false)),(8,Vi (((t+1:Nat):Int)))]) st13 ⟨?s0,?s1,ks,trivial⟩ ?_
   case s0=>
    refine k_run0 SbB.out (by kernel_rfl) fun listed ac Y h D hnl=>⟨trivial,?_⟩
    obtain⟨v0,x0,X0⟩:=h.out0 hnl (8,Vi (((t:Nat):Int))) (.tail _ (.tail _ (.head _))) 2 (by kernel_rfl) (.inr (by kernel_rfl))
    exact⟨_,run_move rfl,by rw [x0];exact X0⟩
   case s1=>
    refine kr fun _ ac Y h D=>?_
    obtain⟨v0,x0,X0⟩:=h.dp D 51
    exact⟨_,run_addi rfl (x0.trans (show v0= .int .i64 ((t:Nat):Int)from X0)) rfl (wrap_id (by omega) (by omega)),congrArg (Value.int .i64) (by omega)⟩
   intro a14 w14 st14
   clear st13
   replace st14:St w.heap.size w 116 [⟨9,none,none,35,8,Vv 30 ((cv (L) (j)).1) ((cv (L) (j)).2),VT⟩,⟨10,none,none,35,8,Vv 30 ((cv (L) (t)).1) ((cv (L) (t)).2),VT⟩,⟨11,none,none,35,8,Vv 30 ((cv (L) (j+2)).1) ((cv (L) (j+2)).2),VT⟩,⟨12,none,none,35,8,Vv 30 ((cv (L) (t+3)).1) ((cv (L) (t+3)).2),VT⟩] [(6,VAt w (VSv 30 (L))),(7,Vi (((j:Nat):Int))),(50,Vb (true)),(13,Vb (mts (cv L j) (cv L t) (cv L (j+2)) (cv L (t+3)))),(114,Vb (false)),(8,Vi (((t+1:Nat):Int)))] a14 w14:=st14
   exact⟨m2 - 1,by omega,t+1,by omega,st14.cut⟩
  ·
   repeat first|refine Wq ?_|refine Wb ?_|refine Wk ?_|refine Wx ?_
   refine rg (BT:=[(35,8,0)]) (Vl:=[Vi (((t:Nat):Int)),VAt w (VSv 30 (L)),Vi (6),Vb (false)]) (B:=[]) (SL':=[(6,VAt w (VSv 30 (L))),(7,Vi (((j:Nat):Int))),(8,Vi (((t:Nat):Int))),(50,Vb (false))]) st6 ⟨ks,ks,?s2,?s3,trivial⟩ ?_
   case s2=>refine kr fun _ ac Y h D=>?_;obtain⟨v0,x0,X0⟩:=h.dp D 48;rw [←show((L.length:Nat):Int)=6 by rw [hL6];rfl];exact len_SvA rfl rfl x0 X0
   case s3=>
    refine kr fun _ ac Y h D=>?_
    obtain⟨v0,x0,X0⟩:=h.dp D 47
    have hV0':v0= .int .i64 (((t:Nat):Int)):=X0
    obtain⟨v1,x1,X1⟩:=h.dp D 49
    have hV1':v1= .int .i64 (6):=X1
    exact⟨_,run_lssi rfl (x0.trans hV0') (x1.trans hV1'),congrArg Value.bool (dF (by omega))⟩
   intro a7 w7 st7
   clear st6
   repeat first|refine Wq ?_|refine Wb ?_|refine Wk ?_|refine Wx ?_
   obtain⟨vc,hc1,hc2⟩:=st7.slot (50,Vb (false)) (.tail _ (.tail _ (.tail _ (.head _))))
   refine wp_cond_false (hc1.trans hc2) ?_
   clear hc1 hc2
   repeat first|refine Wq ?_|refine Wb ?_|refine Wk ?_|refine Wx ?_
   refine rg (BT:=[(35,8,0)]) (Vl:=[Vi (((j:Nat):Int)),Vi (((j+1:Nat):Int)),Vi (((j+1:Nat):Int))]) (B:=[]) (SL':=[(6,VAt w (VSv 30 (L))),(8,Vi (((t:Nat):Int))),(50,Vb (false)),(7,Vi (((j+1:Nat):Int)))]) st7 ⟨?s0,?s1,ks,trivial⟩ ?_
   case s0=>
    refine k_run0 SbB.out (by kernel_rfl) fun listed ac Y h D hnl=>⟨trivial,?_⟩
    obtain⟨v0,x0,X0⟩:=h.out0 hnl (7,Vi (((j:Nat):Int))) (.tail _ (.head _)) 2 (by kernel_rfl) (.inr (by kernel_rfl))
    exact⟨_,run_move rfl,by rw [x0];exact X0⟩
   case s1=>
    refine kr fun _ ac Y h D=>?_
    obtain⟨v0,x0,X0⟩:=h.dp D 45
    exact⟨_,run_addi rfl (x0.trans (show v0= .int .i64 ((j:Nat):Int)from X0)) rfl (wrap_id (by omega) (by omega)),congrArg (Value.int .i64) (by omega)⟩
   intro a8 w8 st8
   clear st7
   replace st8:St w.heap.size w 116 [] [(6,VAt w (VSv 30 (L))),(8,Vi (((t:Nat):Int))),(50,Vb (false)),(7,Vi (((j+1:Nat):Int)))] a8 w8:=st8
   exact⟨m1 - 1,by omega,j+1,by omega,st8.cut⟩
 ·
  repeat first|refine Wq ?_|refine Wb ?_|refine Wk ?_|refine Wx ?_
  refine rg (BT:=[(35,8,0)]) (Vl:=[Vi (((j:Nat):Int)),VAt w (VSv 30 (L)),Vi (6),Vb (false)]) (B:=[]) (SL':=[(6,VAt w (VSv 30 (L))),(7,Vi (((j:Nat):Int))),(44,Vb (false))]) st4 ⟨ks,ks,?s2,?s3,trivial⟩ ?_
  case s2=>refine kr fun _ ac Y h D=>?_;obtain⟨v0,x0,X0⟩:=h.dp D 42;rw [←show((L.length:Nat):Int)=6 by rw [hL6];rfl];exact len_SvA rfl rfl x0 X0
  case s3=>
   refine kr fun _ ac Y h D=>?_
   obtain⟨v0,x0,X0⟩:=h.dp D 41
   have hV0':v0= .int .i64 (((j:Nat):Int)):=X0
   obtain⟨v1,x1,X1⟩:=h.dp D 43
   have hV1':v1= .int .i64 (6):=X1
   exact⟨_,run_lssi rfl (x0.trans hV0') (x1.trans hV1'),congrArg Value.bool (dF (by omega))⟩
  intro a5 w5 st5
  clear st4
  repeat first|refine Wq ?_|refine Wb ?_|refine Wk ?_|refine Wx ?_
  obtain⟨vc,hc1,hc2⟩:=st5.slot (44,Vb (false)) (.tail _ (.tail _ (.head _)))
  refine wp_cond_false (hc1.trans hc2) ?_
  clear hc1 hc2
  repeat first|refine Wq ?_|refine Wb ?_|refine Wk ?_|refine Wx ?_
  refine rg (BT:=[(35,8,0)]) (Vl:=[Vb (true),Vb (true)]) (B:=[]) (SL':=[(6,VAt w (VSv 30 (L))),(7,Vi (((j:Nat):Int))),(44,Vb (false)),(4,Vb (true))]) st5 ⟨?s0,ks,trivial⟩ ?_
  case s0=>refine kc fun _ ac Y h D=>?_;exact⟨#[],by simp [],cL6Lives⟩
  intro a6 w6 st6
  clear st5
  repeat first|refine Wq ?_|refine Wb ?_|refine Wk ?_|refine Wx ?_
  obtain⟨vr,r1,r4⟩:=st6.slot (4,Vb (true)) (.tail _ (.tail _ (.tail _ (.head _))))
  exact wp_ret (bodyPost_ret (results_tmp rfl _ _ _) st6.defers ⟨_,congrArg Ending.returned (show _=vr from r1),r4,below_tr hbO st6.k.below⟩)
theorem wf_i64' {n:Int}(h:(Lit.int .i64 n).wf=true): -9223372036854775808≤n∧n≤9223372036854775807:=by
 simp [Lit.wf,IntKind.min,IntKind.max,IntKind.signed,IntKind.bits] at h
 omega
theorem add_plain' (b o i:Nat):(⟨b,o,none⟩:Addr).add i=⟨b,o+i,none⟩:=by unfold Addr.add;split<;>simp_all
theorem addr_plain' {w:World}{x:Addr}{u:Value}(h:w.cell? (x.add 0)=some u):x=⟨x.block,x.off,none⟩:=by
 have h0:x.add 0=x:=by simp [Addr.add]
 rw [h0] at h
 cases x with
 |mk b o s=>
  cases s with
  |none=>rfl
  |some s=>
   unfold World.cell? at h
   split at h
   ·simp at h
   ·cases h
theorem row_Rdi {w:World}{a:Option Addr}{len cap:Nat}{zs:List Int}
 (h:(a=none∧len=0∧cap=0∧zs= [])∨∃x,a=some x∧len≤cap∧cap≤maxLen∧zs.length=cap∧(∀i,i<zs.length→w.cell? (x.add i)=some (.int .i64 (zs.getD i 0)))∧∀n∈zs,(Lit.int .i64 n).wf=true):
 ∃l:List Int,Rdi w a l∧i64s l∧len=l.length∧len≤cap∧cap≤9223372036854775807:=by
 rcases h with⟨rfl,rfl,rfl,rfl⟩|⟨x,rfl,hl,hm,hz,hc,hw⟩
 ·exact⟨[],.inl rfl,fun i hi=>by simp at hi,rfl,Nat.le_refl _,by omega⟩
 ·refine⟨zs.take len,?_,?_,by simp;omega,hl,by unfold maxLen at hm;omega⟩
  ·rcases Nat.eq_zero_or_pos len with h0|h0
   ·subst h0;exact .inl (by simp)
   ·have hx:=addr_plain' (hc 0 (by omega))
    refine .inr ⟨x.block,x.off,by rw [←hx],fun i hi=>?_⟩
    have hi':i<len:=by simp at hi;omega
    have hi2:i<zs.length:=by omega
    have hadd:x.add i=⟨x.block,x.off+i,none⟩:=(congrArg (fun y:Addr=>y.add i) hx).trans (add_plain' _ _ _)
    rw [←hadd,hc i hi2]
    simp [iat,List.getD_eq_getElem?_getD,hi']
  ·intro i hi
   have hi':i<len:=by simp at hi;omega
   have hi2:i<zs.length:=by omega
   have hb:=wf_i64' (hw (zs[i]) (List.getElem_mem hi2))
   have e:iat (zs.take len) i=zs[i]:=by simp [iat,List.getD_eq_getElem?_getD,hi',hi2]
   rw [e]
   omega
end Go.Proofs.YtjdkdjobaabdiaaGreat
