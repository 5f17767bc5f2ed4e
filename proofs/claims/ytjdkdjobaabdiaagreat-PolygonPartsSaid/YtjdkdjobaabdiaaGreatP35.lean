/- Contracts of the packages integer, rat, plane, polygon and their references. -/
import Derived.Test.YtjdkdjobaabdiaaGreatP34
set_option linter.unusedVariables false
set_option maxRecDepth 100000
set_option maxHeartbeats 6400000
namespace Go.Proofs.YtjdkdjobaabdiaaGreat
open Go.RowKit
open Go
theorem Vq_zero (w:World):Vq 1 0 (.agg #[.bool false,.slice none 0 0,.bool false,.slice none 0 0]) w:=
 show Vq 1 0 (.agg (#[.bool false,.slice none 0 0]++ #[.bool false,.slice none 0 0])) w from⟨_,_,rfl,rfl,rfl,⟨_,_,_,_,rfl,IntAt_zero _ _ _ (by omega),by omega⟩,⟨_,_,_,_,rfl,IntAt_zero _ _ _ (by omega),by omega⟩⟩
section
variable {md:Region.Mode}{ops:Array Oper}{Q:Exit->Act->World->Prop}{a0:Act}{Vl:List VP}{n0:Nat}{w0:World}{B:List Bd}{SL:List (Nat×VP)}{BT:List (TypeId×Nat×Nat)}
theorem k_allocQ0 {i t:Nat}{o:Oper}{b:Bd}[hB:SbB BT B](ho:o.op= .alloc 33)(hds:o.dst=some t)(hb:gB B (iB B t)=some b)(hbt:b.t=t)(hT:b.T=33)(hia:b.ia=some i)(hm:b.m=4)(hP:b.P=Vq 1 0)(hV:GV Vl i=VT)
 (hq:quietB (B.take (iB B t)++B.drop (iB B t+1)) i (some t)=true) (hg:GOk md ops Vl o):KStep BT Tryz.prog md ops Q a0 (GV Vl) n0 w0 B SL i o:=by
 subst hbt
 intro listed a w h D hin hil hnl K hK
 rw [if_pos (wanted_of (hg.get h D))]
 have ht:b.t<a.tmps.size:=by
  rw [hds] at hin
  rw [h.size]
  simpa using hin
 have hks:=h.k.alloc (gB_split hb) hq hia hil ht hB.out h.n #[.bool false,.slice none 0 0,.bool false,.slice none 0 0] (by rw [hm];rfl) noint_Rat (fun hk=>by rw [hP];exact Vq_zero _)
 rw [hT] at hks
 unfold Oper.wp execOp
 simp only [ho,Sem.run_bind,alloc_Rat,Sem.run_pure,Result.andThen_ok]
 rw [<-hds] at hks
 exact hK _ _ hks (RI.of_below (below_new _ _)) (by rw [hV];trivial)
end
theorem cR6Area {w:World}{N:Nat}{vs:List P2}{lv:Value}{v0:Value}(h0:VEq (lv) v0 w)(hS:VSv N vs lv w)(hN3:3<=N)(hbd6:6+vs.length*(4*N+3)<=900):Calls Tryz.prog 25 #[v0] w (RV (Vq (6+vs.length*(4*N+3)) (areaR vs)) w):=by
 go_enter Tryz.func25,Tryz.ntmps25
 generalize hA:(⟨_,_⟩:Act)=a0
 have st0:St w.heap.size w 37 [] [(0,VEq (lv))] a0 w:=by subst hA;exact St.begin rfl rfl (Lq.2 ⟨⟨_,rfl,h0⟩,(fun _ h=>absurd h (by simp))⟩)
 clear hA
 have hmax:=VSv_max hS
 repeat first|apply Wq|apply Wb|apply Wk|apply Wx
 refine rH [(35,8,0),(33,4,0)] [VT] [⟨2,some 0,none,33,4,VT,VT⟩] [(0,VEq (lv))] st0 ⟨ks,trivial⟩ ?_
 intro a1 w1 st1
 clear st0
 repeat first|apply Wq|apply Wb|apply Wk|apply Wx
 refine rH [(35,8,0),(33,4,0)] [VT] [⟨2,none,none,33,4,VT,VT⟩,⟨3,some 0,none,33,4,Vq 1 (0),VT⟩] [(0,VEq (lv))] st1 ⟨(k_allocQ0 rfl rfl rfl rfl rfl rfl rfl rfl rfl (by kernel_rfl) (by first|exact trivial|exact⟨by kernel_rfl,⟨_,rfl⟩,rfl⟩)),trivial⟩ ?_
 intro a2 w2 st2
 clear st1
 repeat first|apply Wq|apply Wb|apply Wk|apply Wx
 refine rH [(35,8,0),(33,4,0)] [Vi (0)] [⟨2,none,none,33,4,VT,VT⟩,⟨3,none,none,33,4,Vq 1 (0),VT⟩] [(0,VEq (lv)),(4,Vi (0))] st2 ⟨ks,trivial⟩ ?_
 intro a3 w3 st3
 clear st2
 replace st3:St w.heap.size w 37 [⟨2,none,none,33,4,VT,VT⟩,⟨3,none,none,33,4,Vq 1 (0),VT⟩] [(0,VEq (lv)),(4,Vi (((0:Nat):Int)))] a3 w3:=st3.cut
 replace st3:St w.heap.size w 37 [⟨2,none,none,33,4,VT,VT⟩,⟨3,none,none,33,4,Vq (3+0*(4*N+3)) (sumT (trK vs) 0),VT⟩] [(0,VEq (lv)),(4,Vi (((0:Nat):Int)))] a3 w3:=st3.weak [⟨2,none,none,33,4,VT,VT⟩,⟨3,none,none,33,4,Vq (3+0*(4*N+3)) (sumT (trK vs) 0),VT⟩] (Lq.2 ⟨⟨_,(.head _),rfl,rfl,rfl,rfl,rfl,rfl,rfl,fun _ _ h=>h⟩,(Lq.2 ⟨⟨_,(.tail _ (.head _)),rfl,rfl,rfl,rfl,rfl,rfl,rfl,fun _ _ h=>Vq_le h (by omega)⟩,(fun _ h=>absurd h (by simp))⟩)⟩)
 repeat first|apply Wq|apply Wb|apply Wk|apply Wx
 refine wp_loop_ghost (fun m aX wX=>∃j:Nat,j+m=vs.length/\St w.heap.size w 37 [⟨2,none,none,33,4,VT,VT⟩,⟨3,none,none,33,4,Vq (3+j*(4*N+3)) (sumT (trK vs) j),VT⟩] [(0,VEq (lv)),(4,Vi (((j:Nat):Int)))] aX wX) vs.length ⟨0,by omega,st3⟩ ?_
 clear st3
 intro m aL wL ⟨j,hj,st3⟩
 have hmul:=Nat.mul_le_mul_right (4*N+3) (show j<=vs.length by omega)
 by_cases hlt:j<vs.length
 ·
  repeat first|apply Wq|apply Wb|apply Wk|apply Wx
  refine rH [(35,8,0),(33,4,0)] [Vi (((j:Nat):Int)),VEq (lv),Vi ((vs.length:Int)),Vb (true)] [⟨2,none,none,33,4,VT,VT⟩,⟨3,none,none,33,4,Vq (3+j*(4*N+3)) (sumT (trK vs) j),VT⟩] [(0,VEq (lv)),(4,Vi (((j:Nat):Int))),(9,Vb (true))] st3 ⟨ks,ks,(kr1 7 fun _ _ _ _ _ x0 X0=>len_Sv rfl rfl x0 X0 hS),(by refine kr fun _ A Y h D=>?_;obtain⟨v0,x0,X0⟩:=h.dp D 6;have hV0':v0= .int .i64 (((j:Nat):Int)):=X0;obtain⟨v1,x1,X1⟩:=h.dp D 8;have hV1':v1= .int .i64 ((vs.length:Int)):=X1;exact⟨_,run_lssi rfl (x0.trans hV0') (x1.trans hV1'),congrArg Value.bool (dT (by omega))⟩),trivial⟩ ?_
  intro a4 w4 st4
  clear st3
  repeat first|apply Wq|apply Wb|apply Wk|apply Wx
  refine cT st4 ?_
  have hgd:vs[j]? =some (cv vs j):=by have:=cv_get (vs:=vs) j (by omega);rwa [Nat.mod_eq_of_lt hlt] at this
  have hN9:4*N+3<=900:=by have:=Nat.le_mul_of_pos_left (4*N+3) (show 0<vs.length by omega);omega
  repeat first|apply Wq|apply Wb|apply Wk|apply Wx
  refine rH [(35,8,0),(33,4,0)] [VEq (lv),Vi (((j:Nat):Int)),Vv N ((cv vs (j+1)).1) ((cv vs (j+1)).2),VT,VT] [⟨2,none,none,33,4,VT,VT⟩,⟨3,none,none,33,4,Vq (3+j*(4*N+3)) (sumT (trK vs) j),VT⟩,⟨5,some 3,some 4,35,8,Vv N ((cv vs (j+1)).1) ((cv vs (j+1)).2),VT⟩] [(0,VEq (lv)),(4,Vi (((j:Nat):Int))),(9,Vb (true))] st4 ⟨ks,ks,(kd2 fun _ _ _ h _ X0 _ X1=>cR6Next X0 X1 (VSv_later hS h.k.below) (by omega)),ks,ks,trivial⟩ ?_
  intro a5 w5 st5
  clear st4
  repeat first|apply Wq|apply Wb|apply Wk|apply Wx
  refine rH [(35,8,0),(33,4,0)] [Vq (3+j*(4*N+3)) (sumT (trK vs) j),VEq (lv),Vi (((j:Nat):Int)),VAt w (VEp 35 8 (Vv N (cv vs j).1 (cv vs j).2)),VAt w (VEp 35 4 (Vq N ((cv vs j).1))),Vq N ((cv vs j).1),Vpt a5 5 0,Vq N ((cv vs (j+1)).1),Vq (N+N+1) (((cv vs j).1) - ((cv vs (j+1)).1)),VEq (lv),Vi (((j:Nat):Int)),VAt w (VEp 35 8 (Vv N (cv vs j).1 (cv vs j).2)),VAt w (VEp 35 4 (Vq N ((cv vs j).2))),Vq N ((cv vs j).2),Vpt a5 5 4,Vq N ((cv vs (j+1)).2),Vq (N+N+1) (((cv vs j).2)+((cv vs (j+1)).2)),Vq ((N+N+1)+(N+N+1)) ((((cv vs j).1) - ((cv vs (j+1)).1))*(((cv vs j).2)+((cv vs (j+1)).2))),Vq ((3+j*(4*N+3))+((N+N+1)+(N+N+1))+1) ((sumT (trK vs) j)+((((cv vs j).1) - ((cv vs (j+1)).1))*(((cv vs j).2)+((cv vs (j+1)).2)))),VT] [⟨2,none,none,33,4,VT,VT⟩,⟨3,none,some 19,33,4,Vq ((3+j*(4*N+3))+((N+N+1)+(N+N+1))+1) ((sumT (trK vs) j)+((((cv vs j).1) - ((cv vs (j+1)).1))*(((cv vs j).2)+((cv vs (j+1)).2)))),Vq (3+j*(4*N+3)) (sumT (trK vs) j)⟩,⟨5,none,none,35,8,Vv N ((cv vs (j+1)).1) ((cv vs (j+1)).2),VT⟩] [(0,VEq (lv)),(4,Vi (((j:Nat):Int))),(9,Vb (true))] st5 ⟨ks,ks,ks,(kr2 16 17 fun _ _ _ _ _ x0 X0 _ x1 X1=>index_Sv rfl x0 X0 hS x1 X1 hgd),(kr1 18 fun _ _ _ _ _ x0 X0=>field_Ep0 rfl x0 X0),(kr1 19 fun _ _ _ h _ x0 X0=>load_EpF rfl x0 X0 h.k.below),ks,ks,(kd2 fun _ _ _ _ _ X0 _ X1=>cR4Sub X0 X1 (by omega) (by omega)),ks,ks,(kr2 24 25 fun _ _ _ _ _ x0 X0 _ x1 X1=>index_Sv rfl x0 X0 hS x1 X1 hgd),(kr1 26 fun _ _ _ _ _ x0 X0=>field_Ep1 rfl x0 X0),(kr1 27 fun _ _ _ h _ x0 X0=>load_EpF rfl x0 X0 h.k.below),ks,ks,(kd2 fun _ _ _ _ _ X0 _ X1=>cR4AddN X0 X1 (by omega) (by omega) (by omega) (by omega)),(kd2 fun _ _ _ _ _ X0 _ X1=>cR4MulN X0 X1 (by omega) (by omega) (by omega) (by omega)),(kd2 fun _ _ _ _ _ X0 _ X1=>cR4AddN X0 X1 (by omega) (by omega) (by omega) (by omega)),ks,trivial⟩ ?_
  intro a6 w6 st6
  clear st5
  repeat first|apply Wq|apply Wb|apply Wk|apply Wx
  refine rH [(35,8,0),(33,4,0)] [Vi (((j:Nat):Int)),Vi (((j+1:Nat):Int)),Vi (((j+1:Nat):Int))] [⟨2,none,none,33,4,VT,VT⟩,⟨3,none,none,33,4,Vq ((3+j*(4*N+3))+((N+N+1)+(N+N+1))+1) ((sumT (trK vs) j)+((((cv vs j).1) - ((cv vs (j+1)).1))*(((cv vs j).2)+((cv vs (j+1)).2)))),VT⟩,⟨5,none,none,35,8,Vv N ((cv vs (j+1)).1) ((cv vs (j+1)).2),VT⟩] [(0,VEq (lv)),(9,Vb (true)),(4,Vi (((j+1:Nat):Int)))] st6 ⟨?s0,(by refine kr fun _ A Y h D=>?_;obtain⟨v0,x0,X0⟩:=h.dp D 10;exact⟨_,run_addi rfl (x0.trans (show v0= .int .i64 ((j:Nat):Int)from X0)) rfl (wrap_id (by omega) (by omega)),congrArg (Value.int .i64) (by omega)⟩),ks,trivial⟩ ?_
  case s0=>
   refine k_run0 SbB.out (by kernel_rfl) fun listed A Y h D hnl=>⟨trivial,?_⟩
   obtain⟨v0,x0,X0⟩:=h.out0 hnl (4,Vi (((j:Nat):Int))) (.tail _ (.head _)) 2 (by kernel_rfl) (.inr (by kernel_rfl))
   exact⟨_,run_move rfl,by rw [x0];exact X0⟩
  intro a7 w7 st7
  clear st6
  replace st7:St w.heap.size w 37 [⟨2,none,none,33,4,VT,VT⟩,⟨3,none,none,33,4,Vq ((3+j*(4*N+3))+((N+N+1)+(N+N+1))+1) ((sumT (trK vs) j)+((((cv vs j).1) - ((cv vs (j+1)).1))*(((cv vs j).2)+((cv vs (j+1)).2)))),VT⟩] [(0,VEq (lv)),(4,Vi (((j+1:Nat):Int)))] a7 w7:=st7.cut
  have eS:=sumT_succ (trK vs) j
  have eM:3+(j+1)*(4*N+3)=(3+j*(4*N+3))+(4*N+3):=by rw [Nat.succ_mul];omega
  exact⟨m - 1,by omega,j+1,by omega,st7.weak [⟨2,none,none,33,4,VT,VT⟩,⟨3,none,none,33,4,Vq (3+(j+1)*(4*N+3)) (sumT (trK vs) (j+1)),VT⟩] (Lq.2 ⟨⟨_,(.head _),rfl,rfl,rfl,rfl,rfl,rfl,rfl,fun _ _ h=>h⟩,(Lq.2 ⟨⟨_,(.tail _ (.head _)),rfl,rfl,rfl,rfl,rfl,rfl,rfl,fun _ _ h=>by rw [eS];exact Vq_le h (by omega)⟩,(fun _ h=>absurd h (by simp))⟩)⟩)⟩
 ·
  repeat first|apply Wq|apply Wb|apply Wk|apply Wx
  refine rH [(35,8,0),(33,4,0)] [Vi (((j:Nat):Int)),VEq (lv),Vi ((vs.length:Int)),Vb (false)] [⟨2,none,none,33,4,VT,VT⟩,⟨3,none,none,33,4,Vq (3+j*(4*N+3)) (sumT (trK vs) j),VT⟩] [(0,VEq (lv)),(4,Vi (((j:Nat):Int))),(9,Vb (false))] st3 ⟨ks,ks,(kr1 7 fun _ _ _ _ _ x0 X0=>len_Sv rfl rfl x0 X0 hS),(by refine kr fun _ A Y h D=>?_;obtain⟨v0,x0,X0⟩:=h.dp D 6;have hV0':v0= .int .i64 (((j:Nat):Int)):=X0;obtain⟨v1,x1,X1⟩:=h.dp D 8;have hV1':v1= .int .i64 ((vs.length:Int)):=X1;exact⟨_,run_lssi rfl (x0.trans hV0') (x1.trans hV1'),congrArg Value.bool (dF (by omega))⟩),trivial⟩ ?_
  intro a4 w4 st4
  clear st3
  repeat first|apply Wq|apply Wb|apply Wk|apply Wx
  refine cF st4 ?_
  have ej:j=vs.length:=by omega
  repeat first|apply Wq|apply Wb|apply Wk|apply Wx
  refine rH [(35,8,0),(33,4,0)] [Vq (3+j*(4*N+3)) (sumT (trK vs) j),Vq 3 (Rat.divInt (1) (2)),Vq ((3+j*(4*N+3))+3) ((sumT (trK vs) j)*(Rat.divInt (1) (2))),VT] [⟨2,none,some 3,33,4,Vq ((3+j*(4*N+3))+3) ((sumT (trK vs) j)*(Rat.divInt (1) (2))),VT⟩,⟨3,none,none,33,4,Vq (3+j*(4*N+3)) (sumT (trK vs) j),VT⟩] [(0,VEq (lv)),(4,Vi (((j:Nat):Int))),(9,Vb (false))] st4 ⟨ks,(by refine kc fun _ A Y h D=>?_;exact⟨#[.int .i64 (1),.int .i64 (2)],by simp [eval_const],cR4Of (show Vi (1) (.int .i64 (1)) Y from rfl) (show Vi (2) (.int .i64 (2)) Y from rfl) (by omega) (by omega) (by omega) (by omega)⟩),(kd2 fun _ _ _ _ _ X0 _ X1=>cR4MulN X0 X1 (by omega) (by omega) (by omega) (by omega)),ks,trivial⟩ ?_
  intro a5 w5 st5
  clear st4
  repeat first|apply Wq|apply Wb|apply Wk|apply Wx
  exact wp_ret (rC 2 33 (Vq ((3+j*(4*N+3))+3) ((sumT (trK vs) j)*(Rat.divInt (1) (2)))) st5 fun cs r4=>(by rw [ej] at r4;exact Vq_le r4 (by omega)))


end Go.Proofs.YtjdkdjobaabdiaaGreat
