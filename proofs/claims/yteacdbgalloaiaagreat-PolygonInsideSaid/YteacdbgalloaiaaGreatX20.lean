/- Contracts of the packages integer, rat, plane, polygon and their references. -/
import Derived.Test.YteacdbgalloaiaaGreatX19
import Derived.Deep.AppendSrc
import Derived.Test.YteacdbgalloaiaaGreatX14
set_option linter.unusedVariables false
set_option maxRecDepth 100000
set_option maxHeartbeats 6400000
namespace Go.Proofs.YteacdbgalloaiaaGreat
open Go.RowKit
open Go
theorem cR5AddN {w:World}{N M:Nat}{a b c d:Rat}{v0 v1:Value}(h0:Vv N a b v0 w)(h1:Vv M c d v1 w)(k1:3<=N:=by omega)(k2:N<=50000:=by omega)(k3:3<=M:=by omega)(k4:M<=50000:=by omega):Calls Tryz.prog 39 #[v0,v1] w (RV (Vv (N+M+1) (a+c) (b+d)) w):=by
 go_enter Tryz.func39,Tryz.ntmps39
 refine Sg 16 [(0,Vv N a b),(1,Vv M c d)] (Lq.2 ⟨⟨_,rfl,h0⟩,(Lq.2 ⟨⟨_,rfl,h1⟩,L0⟩)⟩) fun a0 st0=>Wn ?_
 refine rH [(32,8,0)] [VT,VT,VT] [⟨2,some 0,some 0,32,8,Vv N a b,VT⟩,⟨3,some 1,some 1,32,8,Vv M c d,VT⟩,⟨4,some 2,none,32,8,VT,VT⟩] [] st0 ⟨ks,ks,ks,trivial⟩ fun a1 w1 st1=>Wn ?_
 refine rH [(32,8,0)] [Vpt a1 2 0,Vq N a,Vpt a1 3 0,Vq M c,Vq (N+M+1) ((a)+(c)),Vpt a1 2 4,Vq N b,Vpt a1 3 4,Vq M d,Vq (N+M+1) ((b)+(d)),Vv (N+M+1) ((a)+(c)) ((b)+(d)),VT] [.k 2 32 8 (Vv N a b),.k 3 32 8 (Vv M c d),⟨4,none,some 11,32,8,Vv (N+M+1) ((a)+(c)) ((b)+(d)),VT⟩] [] st1 ⟨ks,ks,ks,ks,(kd2 fun _ _ _ _ _ X0 _ X1=>cR4AddN X0 X1),ks,ks,ks,ks,(kd2 fun _ _ _ _ _ X0 _ X1=>cR4AddN X0 X1),(kr2 9 14 fun _ _ _ _ _ x0 X0 _ x1 X1=>build_Vec rfl x0 x1 (AggV_Vq _ _) (AggV_Vq _ _) X0 X1),ks,trivial⟩ fun a2 w2 st2=>Wn ?_
 exact wp_ret (rC 4 32 (Vv (N+M+1) ((a)+(c)) ((b)+(d))) st2 fun cs r4=>r4)
theorem cR5ScaleN {w:World}{N M:Nat}{a b c:Rat}{v0 v1:Value}(h0:Vv N a b v0 w)(h1:Vq M c v1 w)(k1:3<=N:=by omega)(k2:N<=50000:=by omega)(k3:3<=M:=by omega)(k4:M<=50000:=by omega):Calls Tryz.prog 70 #[v0,v1] w (RV (Vv (N+M) (a*c) (b*c)) w):=by
 go_enter Tryz.func70,Tryz.ntmps70
 refine Sg 14 [(0,Vv N a b),(1,Vq M c)] (Lq.2 ⟨⟨_,rfl,h0⟩,(Lq.2 ⟨⟨_,rfl,h1⟩,L0⟩)⟩) fun a0 st0=>Wn ?_
 refine rH [(32,8,0)] [VT,VT,VT] [⟨2,some 0,some 0,32,8,Vv N a b,VT⟩,⟨3,some 1,some 1,30,4,Vq M c,VT⟩,⟨4,some 2,none,32,8,VT,VT⟩] [] st0 ⟨ks,ks,ks,trivial⟩ fun a1 w1 st1=>Wn ?_
 refine rH [(32,8,0)] [Vpt a1 2 0,Vq N a,Vq M c,Vq (N+M) ((a)*(c)),Vpt a1 2 4,Vq N b,Vq M c,Vq (N+M) ((b)*(c)),Vv (N+M) ((a)*(c)) ((b)*(c)),VT] [.k 2 32 8 (Vv N a b),.k 3 30 4 (Vq M c),⟨4,none,some 9,32,8,Vv (N+M) ((a)*(c)) ((b)*(c)),VT⟩] [] st1 ⟨ks,ks,ks,(kd2 fun _ _ _ _ _ X0 _ X1=>cR4MulN X0 X1),ks,ks,ks,(kd2 fun _ _ _ _ _ X0 _ X1=>cR4MulN X0 X1),(kr2 8 12 fun _ _ _ _ _ x0 X0 _ x1 X1=>build_Vec rfl x0 x1 (AggV_Vq _ _) (AggV_Vq _ _) X0 X1),ks,trivial⟩ fun a2 w2 st2=>Wn ?_
 exact wp_ret (rC 4 32 (Vv (N+M) ((a)*(c)) ((b)*(c))) st2 fun cs r4=>r4)
theorem Vv_zero (w:World):Vv 1 0 0 (.agg #[.bool false,.slice none 0 0,.bool false,.slice none 0 0,.bool false,.slice none 0 0,.bool false,.slice none 0 0]) w:=
 show Vv 1 0 0 (.agg (#[.bool false,.slice none 0 0,.bool false,.slice none 0 0]++ #[.bool false,.slice none 0 0,.bool false,.slice none 0 0])) w from⟨_,_,rfl,rfl,rfl,Vq_zero _,Vq_zero _⟩
section
variable {md:Region.Mode}{ops:Array Oper}{Q:Exit->Act->World->Prop}{a0:Act}{Vl:List VP}{n0:Nat}{w0:World}{B:List Bd}{SL:List (Nat×VP)}{BT:List (TypeId×Nat×Nat)}
theorem k_allocV0 {i t:Nat}{o:Oper}{b:Bd}[hB:SbB BT B](ho:o.op= .alloc 32)(hds:o.dst=some t)(hb:gB B (iB B t)=some b)(hbt:b.t=t)(hT:b.T=32)(hia:b.ia=some i)(hm:b.m=8)(hP:b.P=Vv 1 0 0)(hV:GV Vl i=VT)
 (hq:quietB (B.take (iB B t)++B.drop (iB B t+1)) i (some t)=true) (hg:GOk md ops Vl o):KStep BT Tryz.prog md ops Q a0 (GV Vl) n0 w0 B SL i o:=by
 subst hbt;intro listed a w h D hin hil hnl K hK;rw [if_pos (wanted_of (hg.get h D))]
 have ht:b.t<a.tmps.size:=by
  rw [hds] at hin;rw [h.size]
  simpa using hin
 have hks:=h.k.alloc (gB_split hb) hq hia hil ht hB.out h.n #[.bool false,.slice none 0 0,.bool false,.slice none 0 0,.bool false,.slice none 0 0,.bool false,.slice none 0 0] (by rw [hm];rfl) noint_Vec (fun hk=>by rw [hP];exact Vv_zero _);rw [hT] at hks;unfold Oper.wp execOp;simp only [ho,Sem.run_bind,alloc_Vec,Sem.run_pure,Result.andThen_ok];rw [<-hds] at hks;exact hK _ _ hks (RI.of_below (below_new _ _)) (by rw [hV];trivial)
end
def prR (vs:List P2)(k:Nat):Rat:=((sbP (cv vs (k+1)) (cv vs 0)).1*(sbP (cv vs (k+2)) (cv vs 0)).2 - (sbP (cv vs (k+1)) (cv vs 0)).2*(sbP (cv vs (k+2)) (cv vs 0)).1)*Rat.divInt 1 6
def ceX (vs:List P2)(k:Nat):Rat:=((cv vs 0).1+(cv vs (k+1)).1+(cv vs (k+2)).1)*prR vs k
def ceY (vs:List P2)(k:Nat):Rat:=((cv vs 0).2+(cv vs (k+1)).2+(cv vs (k+2)).2)*prR vs k
def ctrR (vs:List P2):P2:=if (areaR vs).num=0 then(0,0)else(sumT (ceX vs) (vs.length - 2)*(Rat.divInt 1 1 / areaR vs),sumT (ceY vs) (vs.length - 2)*(Rat.divInt 1 1 / areaR vs))
theorem cmpI_zero (z:Int):cmpI z 0=0↔z=0:=by unfold cmpI;split<;>(try split)<;>omega
theorem ctrR_zero {vs:List P2}(h:(areaR vs).num=0):ctrR vs=(0,0):=if_pos h
theorem ctrR_ne {vs:List P2}(h:¬(areaR vs).num=0):ctrR vs=(sumT (ceX vs) (vs.length - 2)*(Rat.divInt 1 1 / areaR vs),sumT (ceY vs) (vs.length - 2)*(Rat.divInt 1 1 / areaR vs)):=if_neg h
theorem cR6Center {w:World}{N:Nat}{vs:List P2}{lv:Value}{v0:Value}(h0:VEq lv v0 w)(hS:VSv N vs lv w)(hN3:3<=N:=by omega)(hbdc:6+vs.length*(11*N+11)<=900:=by omega):Calls Tryz.prog 42 #[v0] w (RV (Vv 3000 (ctrR vs).1 (ctrR vs).2) w):=by
 go_enter Tryz.func42,Tryz.ntmps42
 generalize hA:(⟨_,_⟩:Act)=a0;have st0:St w.heap.size w 63 [] [(0,VEq lv)] a0 w:=by subst hA;exact St.begin rfl rfl (Lq.2 ⟨⟨_,rfl,h0⟩,L0⟩)
 clear hA;have hmax:=VSv_max hS;have hn9:vs.length*(4*N+3)<=vs.length*(11*N+11):=Nat.mul_le_mul_left _ (by omega);have hbd6:6+vs.length*(4*N+3)<=900:=by omega
 refine Wn ?_
 refine rH [(30,4,0),(32,8,0)] [VT] [⟨2,some 0,none,32,8,VT,VT⟩] [(0,VEq lv)] st0 ⟨ks,trivial⟩ fun a1 w1 st1=>Wn ?_
 refine rH [(30,4,0),(32,8,0)] [VEq lv,Vq (6+vs.length*(4*N+3)) (areaR vs),VT,VT] [.k 2 32 8 VT,⟨3,some 2,some 3,30,4,Vq (6+vs.length*(4*N+3)) (areaR vs),VT⟩] [(0,VEq lv)] st1 ⟨ks,(kd1 fun _ _ _ h _ X0=>cR6Area X0 (VSv_later hS h.k.below) (by omega) hbd6),ks,ks,trivial⟩ ?_;intro a2 w2 st2;by_cases har:(areaR vs).num=0
 ·
  refine Wn ?_
  refine rH [(30,4,0),(32,8,0)] [Vq (6+vs.length*(4*N+3)) (areaR vs),Vi (cmpI (areaR vs).num 0),Vb true] [.k 2 32 8 VT,.k 3 30 4 (Vq (6+vs.length*(4*N+3)) (areaR vs))] [(0,VEq lv),(11,Vb true)] st2 ⟨ks,(kd1 fun _ _ _ _ _ X0=>cR4Sign X0),(kr1 10 fun _ _ _ _ _ x0 X0=>⟨_,run_eqi rfl (x0.trans X0) rfl,congrArg Value.bool (dT ((cmpI_zero _).2 har))⟩),trivial⟩ fun a3 w3 st3=>Wn ?_
  refine cT st3 ?_;refine Wn ?_
  refine rH [(30,4,0),(32,8,0)] [Vv 1 0 0,VT] [⟨2,none,some 1,32,8,Vv 1 0 0,VT⟩,.k 3 30 4 (Vq (6+vs.length*(4*N+3)) (areaR vs))] [(0,VEq lv),(11,Vb true)] st3 ⟨(kr fun _ ac Y h D=>build_Vec0 rfl),ks,trivial⟩ fun a4 w4 st4=>Wn ?_
  exact wp_ret (rC 2 32 (Vv 1 0 0) st4 fun cs r4=>(by rw [ctrR_zero har];exact Vv_le r4 (by omega)))
 ·
  refine Wn ?_
  refine rH [(30,4,0),(32,8,0)] [Vq (6+vs.length*(4*N+3)) (areaR vs),Vi (cmpI (areaR vs).num 0),Vb false] [.k 2 32 8 VT,.k 3 30 4 (Vq (6+vs.length*(4*N+3)) (areaR vs))] [(0,VEq lv),(11,Vb false)] st2 ⟨ks,(kd1 fun _ _ _ _ _ X0=>cR4Sign X0),(kr1 10 fun _ _ _ h _ x0 X0=>⟨_,run_eqi rfl (x0.trans X0) rfl,congrArg Value.bool (dF (fun h=>har ((cmpI_zero _).1 h)))⟩),trivial⟩ fun a3 w3 st3=>Wn ?_
  refine cF st3 ?_;refine Wn ?_
  refine rH [(30,4,0),(32,8,0)] [VT] [.k 2 32 8 VT,.k 3 30 4 (Vq (6+vs.length*(4*N+3)) (areaR vs)),⟨4,some 0,none,32,8,Vv 1 0 0,VT⟩] [(0,VEq lv),(11,Vb false)] st3 ⟨(k_allocV0 rfl rfl rfl rfl rfl rfl rfl rfl rfl (by kernel_rfl) (by first|exact trivial|exact⟨by kernel_rfl,⟨_,rfl⟩,rfl⟩)),trivial⟩ fun a4 w4 st4=>Wn ?_
  refine rH [(30,4,0),(32,8,0)] [Vi 1] [.k 2 32 8 VT,.k 3 30 4 (Vq (6+vs.length*(4*N+3)) (areaR vs)),.k 4 32 8 (Vv 1 0 0)] [(0,VEq lv),(11,Vb false),(5,Vi 1)] st4 ⟨ks,trivial⟩ ?_;intro a5 w5 st5;replace st5:St w.heap.size w 63 [.k 2 32 8 VT,.k 3 30 4 (Vq (6+vs.length*(4*N+3)) (areaR vs)),.k 4 32 8 (Vv 1 0 0)] [(0,VEq lv),(5,Vi ((0+1:Nat):Int))] a5 w5:=st5.cut;replace st5:St w.heap.size w 63 [.k 2 32 8 VT,.k 3 30 4 (Vq (6+vs.length*(4*N+3)) (areaR vs)),.k 4 32 8 (Vv (3+0*(11*N+11)) (sumT (ceX vs) 0) (sumT (ceY vs) 0))] [(0,VEq lv),(5,Vi ((0+1:Nat):Int))] a5 w5:=st5.weak [.k 2 32 8 VT,.k 3 30 4 (Vq (6+vs.length*(4*N+3)) (areaR vs)),.k 4 32 8 (Vv (3+0*(11*N+11)) (sumT (ceX vs) 0) (sumT (ceY vs) 0))] (Lq.2 ⟨⟨_,(.head _),rfl,rfl,rfl,rfl,rfl,rfl,rfl,fun _ _ h=>h⟩,(Lq.2 ⟨⟨_,(.tail _ (.head _)),rfl,rfl,rfl,rfl,rfl,rfl,rfl,fun _ _ h=>h⟩,(Lq.2 ⟨⟨_,(.tail _ (.tail _ (.head _))),rfl,rfl,rfl,rfl,rfl,rfl,rfl,fun _ _ h=>Vv_le h (by omega)⟩,L0⟩)⟩)⟩);refine Wn ?_
  refine wp_loop_ghost (fun m aX wX=>∃j:Nat,j+m=vs.length - 2/\St w.heap.size w 63 [.k 2 32 8 VT,.k 3 30 4 (Vq (6+vs.length*(4*N+3)) (areaR vs)),.k 4 32 8 (Vv (3+j*(11*N+11)) (sumT (ceX vs) j) (sumT (ceY vs) j))] [(0,VEq lv),(5,Vi ((j+1:Nat):Int))] aX wX) (vs.length - 2) ⟨0,by omega,st5⟩ ?_;intro m aL wL ⟨j,hj,st5⟩;have hmul:=Nat.mul_le_mul_right (11*N+11) (show j<=vs.length by omega);by_cases hlt:j+2<vs.length
  ·
   refine Wn ?_
   refine rH [(30,4,0),(32,8,0)] [Vi ((j+1:Nat):Int),Vi ((j+2:Nat):Int),VEq lv,Vi (vs.length:Int),Vb true] [.k 2 32 8 VT,.k 3 30 4 (Vq (6+vs.length*(4*N+3)) (areaR vs)),.k 4 32 8 (Vv (3+j*(11*N+11)) (sumT (ceX vs) j) (sumT (ceY vs) j))] [(0,VEq lv),(5,Vi ((j+1:Nat):Int)),(17,Vb true)] st5 ⟨ks,(kr1 13 fun _ _ _ _ v0 x0 X0=>⟨_,run_addi rfl (x0.trans (show v0= .int .i64 ((j+1:Nat):Int)from X0)) rfl wO,congrArg (Value.int .i64) (by omega)⟩),ks,(kr1 15 fun _ _ _ _ _ x0 X0=>len_Sv rfl rfl x0 X0 hS),(kr2 14 16 fun _ _ _ _ _ x0 X0 _ x1 X1=>⟨_,run_lssi rfl (x0.trans X0) (x1.trans X1),congrArg Value.bool (dT (by omega))⟩),trivial⟩ fun a6 w6 st6=>Wn ?_
   refine cT st6 ?_;have hN9:11*N+11<=900:=by have:=Nat.le_mul_of_pos_left (11*N+11) (show 0<vs.length by omega);omega
   have hg0:vs[0]? =some (cv vs 0):=by have:=cv_get (vs:=vs) 0 (by omega);rwa [Nat.zero_mod] at this
   have hg1:vs[(j+1)]? =some (cv vs (j+1)):=by have:=cv_get (vs:=vs) (j+1) (by omega);rwa [Nat.mod_eq_of_lt (by omega)] at this
   have hg2:vs[(j+2)]? =some (cv vs (j+2)):=by have:=cv_get (vs:=vs) (j+2) (by omega);rwa [Nat.mod_eq_of_lt (by omega)] at this
   refine Wn ?_
   refine rH [(30,4,0),(32,8,0)] [VEq lv,Vi ((j+1:Nat):Int),VAt w (VEp 32 8 (Vv N (cv vs (j+1)).1 (cv vs (j+1)).2)),Vv N ((cv vs (j+1)).1) ((cv vs (j+1)).2),VEq lv,VAt w (VEp 32 8 (Vv N (cv vs 0).1 (cv vs 0).2)),Vv N ((cv vs 0).1) ((cv vs 0).2),Vv (N+N+1) (((cv vs (j+1)).1) - ((cv vs 0).1)) (((cv vs (j+1)).2) - ((cv vs 0).2)),VEq lv,Vi ((j+1:Nat):Int),Vi ((j+2:Nat):Int),VAt w (VEp 32 8 (Vv N (cv vs (j+2)).1 (cv vs (j+2)).2)),Vv N ((cv vs (j+2)).1) ((cv vs (j+2)).2),VEq lv,VAt w (VEp 32 8 (Vv N (cv vs 0).1 (cv vs 0).2)),Vv N ((cv vs 0).1) ((cv vs 0).2),Vv (N+N+1) (((cv vs (j+2)).1) - ((cv vs 0).1)) (((cv vs (j+2)).2) - ((cv vs 0).2)),Vq (4*(N+N+1)+1) ((((cv vs (j+1)).1) - ((cv vs 0).1))*(((cv vs (j+2)).2) - ((cv vs 0).2)) - (((cv vs (j+1)).2) - ((cv vs 0).2))*(((cv vs (j+2)).1) - ((cv vs 0).1))),Vq 3 (Rat.divInt 1 6),Vq ((4*(N+N+1)+1)+3) (((((cv vs (j+1)).1) - ((cv vs 0).1))*(((cv vs (j+2)).2) - ((cv vs 0).2)) - (((cv vs (j+1)).2) - ((cv vs 0).2))*(((cv vs (j+2)).1) - ((cv vs 0).1)))*(Rat.divInt 1 6)),VT,VT] [.k 2 32 8 VT,.k 3 30 4 (Vq (6+vs.length*(4*N+3)) (areaR vs)),.k 4 32 8 (Vv (3+j*(11*N+11)) (sumT (ceX vs) j) (sumT (ceY vs) j)),⟨6,some 20,some 21,30,4,Vq ((4*(N+N+1)+1)+3) (((((cv vs (j+1)).1) - ((cv vs 0).1))*(((cv vs (j+2)).2) - ((cv vs 0).2)) - (((cv vs (j+1)).2) - ((cv vs 0).2))*(((cv vs (j+2)).1) - ((cv vs 0).1)))*(Rat.divInt 1 6)),VT⟩] [(0,VEq lv),(5,Vi ((j+1:Nat):Int)),(17,Vb true)] st6 ⟨ks,ks,(kr2 20 21 fun _ _ _ _ _ x0 X0 _ x1 X1=>index_Sv rfl x0 X0 hS x1 X1 hg1),(kr1 22 fun _ _ _ h _ x0 X0=>load_EpC (w:=w) (k:=8) (A:=Vv N (cv vs (j+1)).1 (cv vs (j+1)).2) (Stab_Vv _ _ _) rfl x0 X0 h.k.below Tryz.underlying32 rfl size_Vec),ks,(kr1 24 fun _ _ _ _ _ x0 X0=>index_Sv (j:=0) rfl x0 X0 hS rfl rfl hg0),(kr1 25 fun _ _ _ h _ x0 X0=>load_EpC (w:=w) (k:=8) (A:=Vv N (cv vs 0).1 (cv vs 0).2) (Stab_Vv _ _ _) rfl x0 X0 h.k.below Tryz.underlying32 rfl size_Vec),(kd2 fun _ _ _ _ _ X0 _ X1=>cR5Sub X0 X1),ks,ks,(kr1 29 fun _ _ _ _ v0 x0 X0=>⟨_,run_addi rfl (x0.trans (show v0= .int .i64 ((j+1:Nat):Int)from X0)) rfl wO,congrArg (Value.int .i64) (by omega)⟩),(kr2 28 30 fun _ _ _ _ _ x0 X0 _ x1 X1=>index_Sv rfl x0 X0 hS x1 X1 hg2),(kr1 31 fun _ _ _ h _ x0 X0=>load_EpC (w:=w) (k:=8) (A:=Vv N (cv vs (j+2)).1 (cv vs (j+2)).2) (Stab_Vv _ _ _) rfl x0 X0 h.k.below Tryz.underlying32 rfl size_Vec),ks,(kr1 33 fun _ _ _ _ _ x0 X0=>index_Sv (j:=0) rfl x0 X0 hS rfl rfl hg0),(kr1 34 fun _ _ _ h _ x0 X0=>load_EpC (w:=w) (k:=8) (A:=Vv N (cv vs 0).1 (cv vs 0).2) (Stab_Vv _ _ _) rfl x0 X0 h.k.below Tryz.underlying32 rfl size_Vec),(kd2 fun _ _ _ _ _ X0 _ X1=>cR5Sub X0 X1),(kd2 fun _ _ _ _ _ X0 _ X1=>cR5Cross X0 X1),(by refine kc fun _ ac Y h D=>?_;exact⟨#[.int .i64 1,.int .i64 6],by simp [eval_const],cR4Of (show Vi 1 (.int .i64 1) Y from rfl) (show Vi 6 (.int .i64 6) Y from rfl)⟩),(kd2 fun _ _ _ _ _ X0 _ X1=>cR4MulN X0 X1),ks,ks,trivial⟩ ?_;intro a7 w7 st7;replace st7:St w.heap.size w 63 [.k 2 32 8 VT,.k 3 30 4 (Vq (6+vs.length*(4*N+3)) (areaR vs)),.k 4 32 8 (Vv (3+j*(11*N+11)) (sumT (ceX vs) j) (sumT (ceY vs) j)),.k 6 30 4 (Vq (4*(N+N+1)+1+3) (prR vs j))] [(0,VEq lv),(5,Vi ((j+1:Nat):Int)),(17,Vb true)] a7 w7:=st7;refine Wn ?_
   refine rH [(30,4,0),(32,8,0)] [Vv (3+j*(11*N+11)) (sumT (ceX vs) j) (sumT (ceY vs) j),VEq lv,VAt w (VEp 32 8 (Vv N (cv vs 0).1 (cv vs 0).2)),Vv N ((cv vs 0).1) ((cv vs 0).2),VEq lv,Vi ((j+1:Nat):Int),VAt w (VEp 32 8 (Vv N (cv vs (j+1)).1 (cv vs (j+1)).2)),Vv N ((cv vs (j+1)).1) ((cv vs (j+1)).2),Vv (N+N+1) (((cv vs 0).1)+((cv vs (j+1)).1)) (((cv vs 0).2)+((cv vs (j+1)).2)),VEq lv,Vi ((j+1:Nat):Int),Vi ((j+2:Nat):Int),VAt w (VEp 32 8 (Vv N (cv vs (j+2)).1 (cv vs (j+2)).2)),Vv N ((cv vs (j+2)).1) ((cv vs (j+2)).2),Vv ((N+N+1)+N+1) ((((cv vs 0).1)+((cv vs (j+1)).1))+((cv vs (j+2)).1)) ((((cv vs 0).2)+((cv vs (j+1)).2))+((cv vs (j+2)).2)),Vq (4*(N+N+1)+1+3) (prR vs j),Vv (((N+N+1)+N+1)+(4*(N+N+1)+1+3)) (((((cv vs 0).1)+((cv vs (j+1)).1))+((cv vs (j+2)).1))*(prR vs j)) (((((cv vs 0).2)+((cv vs (j+1)).2))+((cv vs (j+2)).2))*(prR vs j)),Vv ((3+j*(11*N+11))+(((N+N+1)+N+1)+(4*(N+N+1)+1+3))+1) ((sumT (ceX vs) j)+(((((cv vs 0).1)+((cv vs (j+1)).1))+((cv vs (j+2)).1))*(prR vs j))) ((sumT (ceY vs) j)+(((((cv vs 0).2)+((cv vs (j+1)).2))+((cv vs (j+2)).2))*(prR vs j))),VT] [.k 2 32 8 VT,.k 3 30 4 (Vq (6+vs.length*(4*N+3)) (areaR vs)),⟨4,none,some 18,32,8,Vv ((3+j*(11*N+11))+(((N+N+1)+N+1)+(4*(N+N+1)+1+3))+1) ((sumT (ceX vs) j)+(((((cv vs 0).1)+((cv vs (j+1)).1))+((cv vs (j+2)).1))*(prR vs j))) ((sumT (ceY vs) j)+(((((cv vs 0).2)+((cv vs (j+1)).2))+((cv vs (j+2)).2))*(prR vs j))),Vv (3+j*(11*N+11)) (sumT (ceX vs) j) (sumT (ceY vs) j)⟩,.k 6 30 4 (Vq (4*(N+N+1)+1+3) (prR vs j))] [(0,VEq lv),(5,Vi ((j+1:Nat):Int)),(17,Vb true)] st7 ⟨ks,ks,(kr1 41 fun _ _ _ _ _ x0 X0=>index_Sv (j:=0) rfl x0 X0 hS rfl rfl hg0),(kr1 42 fun _ _ _ h _ x0 X0=>load_EpC (w:=w) (k:=8) (A:=Vv N (cv vs 0).1 (cv vs 0).2) (Stab_Vv _ _ _) rfl x0 X0 h.k.below Tryz.underlying32 rfl size_Vec),ks,ks,(kr2 44 45 fun _ _ _ _ _ x0 X0 _ x1 X1=>index_Sv rfl x0 X0 hS x1 X1 hg1),(kr1 46 fun _ _ _ h _ x0 X0=>load_EpC (w:=w) (k:=8) (A:=Vv N (cv vs (j+1)).1 (cv vs (j+1)).2) (Stab_Vv _ _ _) rfl x0 X0 h.k.below Tryz.underlying32 rfl size_Vec),(kd2 fun _ _ _ _ _ X0 _ X1=>cR5AddN X0 X1),ks,ks,(kr1 50 fun _ _ _ _ v0 x0 X0=>⟨_,run_addi rfl (x0.trans (show v0= .int .i64 ((j+1:Nat):Int)from X0)) rfl wO,congrArg (Value.int .i64) (by omega)⟩),(kr2 49 51 fun _ _ _ _ _ x0 X0 _ x1 X1=>index_Sv rfl x0 X0 hS x1 X1 hg2),(kr1 52 fun _ _ _ h _ x0 X0=>load_EpC (w:=w) (k:=8) (A:=Vv N (cv vs (j+2)).1 (cv vs (j+2)).2) (Stab_Vv _ _ _) rfl x0 X0 h.k.below Tryz.underlying32 rfl size_Vec),(kd2 fun _ _ _ _ _ X0 _ X1=>cR5AddN X0 X1),ks,(kd2 fun _ _ _ _ _ X0 _ X1=>cR5ScaleN X0 X1),(kd2 fun _ _ _ _ _ X0 _ X1=>cR5AddN X0 X1),ks,trivial⟩ fun a8 w8 st8=>Wn ?_
   refine rH [(30,4,0),(32,8,0)] [Vi ((j+1:Nat):Int),Vi ((j+1+1:Nat):Int),Vi ((j+1+1:Nat):Int)] [.k 2 32 8 VT,.k 3 30 4 (Vq (6+vs.length*(4*N+3)) (areaR vs)),.k 4 32 8 (Vv ((3+j*(11*N+11))+(((N+N+1)+N+1)+(4*(N+N+1)+1+3))+1) ((sumT (ceX vs) j)+(((((cv vs 0).1)+((cv vs (j+1)).1))+((cv vs (j+2)).1))*(prR vs j))) ((sumT (ceY vs) j)+(((((cv vs 0).2)+((cv vs (j+1)).2))+((cv vs (j+2)).2))*(prR vs j)))),.k 6 30 4 (Vq (4*(N+N+1)+1+3) (prR vs j))] [(0,VEq lv),(17,Vb true),(5,Vi ((j+1+1:Nat):Int))] st8 ⟨?s0,(kr1 18 fun _ _ _ _ v0 x0 X0=>⟨_,run_addi rfl (x0.trans (show v0= .int .i64 ((j+1:Nat):Int)from X0)) rfl wO,congrArg (Value.int .i64) (by omega)⟩),ks,trivial⟩ ?_
   case s0=>
    refine k_run0 SbB.out (by kernel_rfl) fun listed ac Y h D hnl=>⟨trivial,?_⟩
    obtain⟨v0,x0,X0⟩:=h.out0 hnl (5,Vi ((j+1:Nat):Int)) (.tail _ (.head _)) 2 (by kernel_rfl) (.inr (by kernel_rfl));exact⟨_,run_move rfl,by rw [x0];exact X0⟩
   intro a9 w9 st9;replace st9:St w.heap.size w 63 [.k 2 32 8 VT,.k 3 30 4 (Vq (6+vs.length*(4*N+3)) (areaR vs)),.k 4 32 8 (Vv ((3+j*(11*N+11))+(((N+N+1)+N+1)+(4*(N+N+1)+1+3))+1) ((sumT (ceX vs) j)+(((((cv vs 0).1)+((cv vs (j+1)).1))+((cv vs (j+2)).1))*(prR vs j))) ((sumT (ceY vs) j)+(((((cv vs 0).2)+((cv vs (j+1)).2))+((cv vs (j+2)).2))*(prR vs j))))] [(0,VEq lv),(5,Vi ((j+1+1:Nat):Int))] a9 w9:=st9.cut;have eS:=sumT_succ (ceX vs) j;have eT:=sumT_succ (ceY vs) j;have eM:3+(j+1)*(11*N+11)=(3+j*(11*N+11))+(11*N+11):=by rw [Nat.succ_mul];omega
   exact⟨m - 1,by omega,j+1,by omega,st9.weak [.k 2 32 8 VT,.k 3 30 4 (Vq (6+vs.length*(4*N+3)) (areaR vs)),.k 4 32 8 (Vv (3+(j+1)*(11*N+11)) (sumT (ceX vs) (j+1)) (sumT (ceY vs) (j+1)))] (Lq.2 ⟨⟨_,(.head _),rfl,rfl,rfl,rfl,rfl,rfl,rfl,fun _ _ h=>h⟩,(Lq.2 ⟨⟨_,(.tail _ (.head _)),rfl,rfl,rfl,rfl,rfl,rfl,rfl,fun _ _ h=>h⟩,(Lq.2 ⟨⟨_,(.tail _ (.tail _ (.head _))),rfl,rfl,rfl,rfl,rfl,rfl,rfl,fun _ _ h=>by rw [eS,eT];exact Vv_le h (by omega)⟩,L0⟩)⟩)⟩)⟩
  ·
   refine Wn ?_
   refine rH [(30,4,0),(32,8,0)] [Vi ((j+1:Nat):Int),Vi ((j+2:Nat):Int),VEq lv,Vi (vs.length:Int),Vb false] [.k 2 32 8 VT,.k 3 30 4 (Vq (6+vs.length*(4*N+3)) (areaR vs)),.k 4 32 8 (Vv (3+j*(11*N+11)) (sumT (ceX vs) j) (sumT (ceY vs) j))] [(0,VEq lv),(5,Vi ((j+1:Nat):Int)),(17,Vb false)] st5 ⟨ks,(kr1 13 fun _ _ _ _ v0 x0 X0=>⟨_,run_addi rfl (x0.trans (show v0= .int .i64 ((j+1:Nat):Int)from X0)) rfl wO,congrArg (Value.int .i64) (by omega)⟩),ks,(kr1 15 fun _ _ _ _ _ x0 X0=>len_Sv rfl rfl x0 X0 hS),(kr2 14 16 fun _ _ _ _ _ x0 X0 _ x1 X1=>⟨_,run_lssi rfl (x0.trans X0) (x1.trans X1),congrArg Value.bool (dF (by omega))⟩),trivial⟩ fun a6 w6 st6=>Wn ?_
   refine cF st6 ?_;have ej:j=vs.length - 2:=by omega
   refine Wn ?_
   refine rH [(30,4,0),(32,8,0)] [Vv (3+j*(11*N+11)) (sumT (ceX vs) j) (sumT (ceY vs) j),Vq 3 (Rat.divInt 1 1),Vq (6+vs.length*(4*N+3)) (areaR vs),Vq ((max 3 (6+vs.length*(4*N+3)))+(max 3 (6+vs.length*(4*N+3)))) ((Rat.divInt 1 1) / (areaR vs)),Vv ((3+j*(11*N+11))+((max 3 (6+vs.length*(4*N+3)))+(max 3 (6+vs.length*(4*N+3))))) ((sumT (ceX vs) j)*((Rat.divInt 1 1) / (areaR vs))) ((sumT (ceY vs) j)*((Rat.divInt 1 1) / (areaR vs))),VT] [⟨2,none,some 5,32,8,Vv ((3+j*(11*N+11))+((max 3 (6+vs.length*(4*N+3)))+(max 3 (6+vs.length*(4*N+3))))) ((sumT (ceX vs) j)*((Rat.divInt 1 1) / (areaR vs))) ((sumT (ceY vs) j)*((Rat.divInt 1 1) / (areaR vs))),VT⟩,.k 3 30 4 (Vq (6+vs.length*(4*N+3)) (areaR vs)),.k 4 32 8 (Vv (3+j*(11*N+11)) (sumT (ceX vs) j) (sumT (ceY vs) j))] [(0,VEq lv),(5,Vi ((j+1:Nat):Int)),(17,Vb false)] st6 ⟨ks,(by refine kc fun _ ac Y h D=>?_;exact⟨#[.int .i64 1,.int .i64 1],by simp [eval_const],cR4Of (show Vi 1 (.int .i64 1) Y from rfl) (show Vi 1 (.int .i64 1) Y from rfl)⟩),ks,(kd2 fun _ _ _ _ _ X0 _ X1=>cR4Div (Vq_le (M:=(max 3 (6+vs.length*(4*N+3)))) X0 (by omega)) (Vq_le (M:=(max 3 (6+vs.length*(4*N+3)))) X1 (by omega))),(kd2 fun _ _ _ _ _ X0 _ X1=>cR5ScaleN X0 X1),ks,trivial⟩ ?_;intro a7 w7 st7;refine Wn ?_
   exact wp_ret (rC 2 32 (Vv ((3+j*(11*N+11))+((max 3 (6+vs.length*(4*N+3)))+(max 3 (6+vs.length*(4*N+3))))) ((sumT (ceX vs) j)*((Rat.divInt 1 1) / (areaR vs))) ((sumT (ceY vs) j)*((Rat.divInt 1 1) / (areaR vs)))) st7 fun cs r4=>(by rw [ctrR_ne har];rw [ej] at r4;exact Vv_le r4 (by rw [<-ej];omega)))
def spq (l:List Int)(ix:Int):Int:=1+atv l (ix+2) 2
def spt (l:List Int)(ix:Int):P2:=(Rat.divInt (atv l ix (16*spq l ix+1) - 8*spq l ix) (spq l ix),Rat.divInt (atv l (ix+1) (16*spq l ix+1) - 8*spq l ix) (spq l ix))
theorem spq_or (l:List Int)(ix:Int):spq l ix=1∨spq l ix=2:=by
 have h1:=atv_lo l (ix+2) 2 (by omega);have h3:=atv_hi l (ix+2) 2 (by omega);unfold spq;omega
theorem cR6Spot {w:World}{l:List Int}{ix:Int}{v0 v1:Value}(h0:VI l v0 w)(h1:Vi ix v1 w)(hi0:0<=ix:=by omega)(hi1:ix<=100000:=by omega):Calls Tryz.prog 41 #[v0,v1] w (RV (Vv 3 (spt l ix).1 (spt l ix).2) w):=by
 go_enter Tryz.func41,Tryz.ntmps41
 refine Sg 35 [(0,VI l),(1,Vi ix)] (Lq.2 ⟨⟨_,rfl,h0⟩,(Lq.2 ⟨⟨_,rfl,h1⟩,L0⟩)⟩) fun a0 st0=>Wn ?_
 refine rH [(32,8,0)] [VT] [⟨4,some 0,none,32,8,VT,VT⟩] [(0,VI l),(1,Vi ix)] st0 ⟨ks,trivial⟩ ?_;intro a1 w1 st1;have ha0:=atv_lo l (ix+2) 2 (by omega);have ha1:=atv_hi l (ix+2) 2 (by omega);refine Wn ?_
 refine rH [(32,8,0)] [VI l,Vi ix,Vi ((ix)+(2)),Vi (atv l ((ix)+(2)) 2),Vi ((1)+(atv l ((ix)+(2)) 2)),Vi ((1)+(atv l ((ix)+(2)) 2))] [.k 4 32 8 VT] [(0,VI l),(1,Vi ix),(5,Vi ((1)+(atv l ((ix)+(2)) 2)))] st1 ⟨ks,ks,(kr1 7 fun _ _ _ _ _ x0 X0=>⟨_,run_addi rfl (x0.trans X0) rfl wO,rfl⟩),(by refine kc fun _ A Y h D=>?_;obtain⟨v0,x0,X0⟩:=h.dp D 6;obtain⟨v1,x1,X1⟩:=h.dp D 8;exact⟨#[v0,v1,.int .i64 2],by simp [x0,x1,eval_const],cAt X0 X1⟩),(by refine kr fun _ A Y h D=>?_;obtain⟨v1,x1,X1⟩:=h.dp D 9;have hV1':v1= .int .i64 (atv l ((ix)+(2)) 2):=X1;exact⟨_,run_addi rfl rfl (x1.trans hV1') wO,rfl⟩),ks,trivial⟩ ?_;intro a2 w2 st2;have hq:=spq_or l ix;rcases hq with hq|hq
 ·
  have hq2:(1:Int)+(atv l (ix+2) 2)=1:=hq;replace st2:St w.heap.size w 35 [.k 4 32 8 VT] [(0,VI l),(1,Vi ix),(5,Vi ((1)+(atv l ((ix)+(2)) 2)))] a2 w2:=st2;rw [hq2] at st2;have hb0:=atv_lo l ix 17 (by omega);have hb2:=atv_lo l (ix+1) 17 (by omega);have hb4:=atv_hi l ix 17 (by omega);have hb5:=atv_hi l (ix+1) 17 (by omega);refine Wn ?_
  refine rH [(32,8,0)] [VI l,Vi ix,Vi 1,Vi ((16)*(1)),Vi (((16)*(1))+(1)),Vi (atv l ix 17),Vi 1,Vi ((8)*(1)),Vi ((atv l ix 17) - ((8)*(1))),Vi 1,Vq 3 (Rat.divInt ((atv l ix 17) - ((8)*(1))) 1),VI l,Vi ix,Vi ((ix)+(1)),Vi 1,Vi ((16)*(1)),Vi (((16)*(1))+(1)),Vi (atv l (ix+1) 17),Vi 1,Vi ((8)*(1)),Vi ((atv l (ix+1) 17) - ((8)*(1))),Vi 1,Vq 3 (Rat.divInt ((atv l (ix+1) 17) - ((8)*(1))) 1),Vv 3 (Rat.divInt ((atv l ix 17) - ((8)*(1))) 1) (Rat.divInt ((atv l (ix+1) 17) - ((8)*(1))) 1),VT] [⟨4,none,some 24,32,8,Vv 3 (Rat.divInt ((atv l ix 17) - ((8)*(1))) 1) (Rat.divInt ((atv l (ix+1) 17) - ((8)*(1))) 1),VT⟩] [(0,VI l),(1,Vi ix),(5,Vi 1)] st2 ⟨ks,ks,ks,(by refine kr fun _ A Y h D=>?_;obtain⟨v1,x1,X1⟩:=h.dp D 13;have hV1':v1= .int .i64 (1):=X1;exact⟨_,run_muli rfl rfl (x1.trans hV1') wO,rfl⟩),(kr1 14 fun _ _ _ _ _ x0 X0=>⟨_,run_addi rfl (x0.trans X0) rfl wO,rfl⟩),?s5,ks,(by refine kr fun _ A Y h D=>?_;obtain⟨v1,x1,X1⟩:=h.dp D 17;have hV1':v1= .int .i64 (1):=X1;exact⟨_,run_muli rfl rfl (x1.trans hV1') wO,rfl⟩),(kr2 16 18 fun _ _ _ _ _ x0 X0 _ x1 X1=>⟨_,run_subi rfl (x0.trans X0) (x1.trans X1) wO,rfl⟩),ks,(kd2 fun _ _ _ _ _ X0 _ X1=>cR4Of X0 X1),ks,ks,(kr1 23 fun _ _ _ _ _ x0 X0=>⟨_,run_addi rfl (x0.trans X0) rfl wO,rfl⟩),ks,(by refine kr fun _ A Y h D=>?_;obtain⟨v1,x1,X1⟩:=h.dp D 25;have hV1':v1= .int .i64 (1):=X1;exact⟨_,run_muli rfl rfl (x1.trans hV1') wO,rfl⟩),(kr1 26 fun _ _ _ _ _ x0 X0=>⟨_,run_addi rfl (x0.trans X0) rfl wO,rfl⟩),?s17,ks,(by refine kr fun _ A Y h D=>?_;obtain⟨v1,x1,X1⟩:=h.dp D 29;have hV1':v1= .int .i64 (1):=X1;exact⟨_,run_muli rfl rfl (x1.trans hV1') wO,rfl⟩),(kr2 28 30 fun _ _ _ _ _ x0 X0 _ x1 X1=>⟨_,run_subi rfl (x0.trans X0) (x1.trans X1) wO,rfl⟩),ks,(kd2 fun _ _ _ _ _ X0 _ X1=>cR4Of X0 X1),(kr2 21 33 fun _ _ _ _ _ x0 X0 _ x1 X1=>build_Vec rfl x0 x1 (AggV_Vq _ _) (AggV_Vq _ _) X0 X1),ks,trivial⟩ ?_
  case s5=>
   refine kc fun _ A Y h D=>?_
   obtain⟨v0,x0,X0⟩:=h.dp D 11;obtain⟨v1,x1,X1⟩:=h.dp D 12;obtain⟨v2,x2,X2⟩:=h.dp D 15;have hx:v2=Value.int .i64 17:=X2.trans (congrArg (Value.int .i64) (by omega));exact⟨#[v0,v1,v2],by simp [x0,x1,x2],by rw [hx];exact cAt X0 X1⟩
  case s17=>
   refine kc fun _ A Y h D=>?_
   obtain⟨v0,x0,X0⟩:=h.dp D 22;obtain⟨v1,x1,X1⟩:=h.dp D 24;obtain⟨v2,x2,X2⟩:=h.dp D 27;have hx:v2=Value.int .i64 17:=X2.trans (congrArg (Value.int .i64) (by omega));exact⟨#[v0,v1,v2],by simp [x0,x1,x2],by rw [hx];exact cAt X0 X1⟩
  intro a3 w3 st3;refine Wn ?_
  exact wp_ret (rC 4 32 (Vv 3 (Rat.divInt ((atv l ix 17) - ((8)*(1))) 1) (Rat.divInt ((atv l (ix+1) 17) - ((8)*(1))) 1)) st3 fun cs r4=>(by rw [show spt l ix=(Rat.divInt (atv l ix 17 - 8) 1,Rat.divInt (atv l (ix+1) 17 - 8) 1) by unfold spt;rw [hq];rfl];exact r4))
 ·
  have hq2:(1:Int)+(atv l (ix+2) 2)=2:=hq;replace st2:St w.heap.size w 35 [.k 4 32 8 VT] [(0,VI l),(1,Vi ix),(5,Vi ((1)+(atv l ((ix)+(2)) 2)))] a2 w2:=st2;rw [hq2] at st2;have hb0:=atv_lo l ix 33 (by omega);have hb2:=atv_lo l (ix+1) 33 (by omega);have hb4:=atv_hi l ix 33 (by omega);have hb5:=atv_hi l (ix+1) 33 (by omega);refine Wn ?_
  refine rH [(32,8,0)] [VI l,Vi ix,Vi 2,Vi ((16)*(2)),Vi (((16)*(2))+(1)),Vi (atv l ix 33),Vi 2,Vi ((8)*(2)),Vi ((atv l ix 33) - ((8)*(2))),Vi 2,Vq 3 (Rat.divInt ((atv l ix 33) - ((8)*(2))) 2),VI l,Vi ix,Vi ((ix)+(1)),Vi 2,Vi ((16)*(2)),Vi (((16)*(2))+(1)),Vi (atv l (ix+1) 33),Vi 2,Vi ((8)*(2)),Vi ((atv l (ix+1) 33) - ((8)*(2))),Vi 2,Vq 3 (Rat.divInt ((atv l (ix+1) 33) - ((8)*(2))) 2),Vv 3 (Rat.divInt ((atv l ix 33) - ((8)*(2))) 2) (Rat.divInt ((atv l (ix+1) 33) - ((8)*(2))) 2),VT] [⟨4,none,some 24,32,8,Vv 3 (Rat.divInt ((atv l ix 33) - ((8)*(2))) 2) (Rat.divInt ((atv l (ix+1) 33) - ((8)*(2))) 2),VT⟩] [(0,VI l),(1,Vi ix),(5,Vi 2)] st2 ⟨ks,ks,ks,(by refine kr fun _ A Y h D=>?_;obtain⟨v1,x1,X1⟩:=h.dp D 13;have hV1':v1= .int .i64 (2):=X1;exact⟨_,run_muli rfl rfl (x1.trans hV1') wO,rfl⟩),(kr1 14 fun _ _ _ _ _ x0 X0=>⟨_,run_addi rfl (x0.trans X0) rfl wO,rfl⟩),?s5,ks,(by refine kr fun _ A Y h D=>?_;obtain⟨v1,x1,X1⟩:=h.dp D 17;have hV1':v1= .int .i64 (2):=X1;exact⟨_,run_muli rfl rfl (x1.trans hV1') wO,rfl⟩),(kr2 16 18 fun _ _ _ _ _ x0 X0 _ x1 X1=>⟨_,run_subi rfl (x0.trans X0) (x1.trans X1) wO,rfl⟩),ks,(kd2 fun _ _ _ _ _ X0 _ X1=>cR4Of X0 X1),ks,ks,(kr1 23 fun _ _ _ _ _ x0 X0=>⟨_,run_addi rfl (x0.trans X0) rfl wO,rfl⟩),ks,(by refine kr fun _ A Y h D=>?_;obtain⟨v1,x1,X1⟩:=h.dp D 25;have hV1':v1= .int .i64 (2):=X1;exact⟨_,run_muli rfl rfl (x1.trans hV1') wO,rfl⟩),(kr1 26 fun _ _ _ _ _ x0 X0=>⟨_,run_addi rfl (x0.trans X0) rfl wO,rfl⟩),?s17,ks,(by refine kr fun _ A Y h D=>?_;obtain⟨v1,x1,X1⟩:=h.dp D 29;have hV1':v1= .int .i64 (2):=X1;exact⟨_,run_muli rfl rfl (x1.trans hV1') wO,rfl⟩),(kr2 28 30 fun _ _ _ _ _ x0 X0 _ x1 X1=>⟨_,run_subi rfl (x0.trans X0) (x1.trans X1) wO,rfl⟩),ks,(kd2 fun _ _ _ _ _ X0 _ X1=>cR4Of X0 X1),(kr2 21 33 fun _ _ _ _ _ x0 X0 _ x1 X1=>build_Vec rfl x0 x1 (AggV_Vq _ _) (AggV_Vq _ _) X0 X1),ks,trivial⟩ ?_
  case s5=>
   refine kc fun _ A Y h D=>?_
   obtain⟨v0,x0,X0⟩:=h.dp D 11;obtain⟨v1,x1,X1⟩:=h.dp D 12;obtain⟨v2,x2,X2⟩:=h.dp D 15;have hx:v2=Value.int .i64 33:=X2.trans (congrArg (Value.int .i64) (by omega));exact⟨#[v0,v1,v2],by simp [x0,x1,x2],by rw [hx];exact cAt X0 X1⟩
  case s17=>
   refine kc fun _ A Y h D=>?_
   obtain⟨v0,x0,X0⟩:=h.dp D 22;obtain⟨v1,x1,X1⟩:=h.dp D 24;obtain⟨v2,x2,X2⟩:=h.dp D 27;have hx:v2=Value.int .i64 33:=X2.trans (congrArg (Value.int .i64) (by omega));exact⟨#[v0,v1,v2],by simp [x0,x1,x2],by rw [hx];exact cAt X0 X1⟩
  intro a3 w3 st3;refine Wn ?_
  exact wp_ret (rC 4 32 (Vv 3 (Rat.divInt ((atv l ix 33) - ((8)*(2))) 2) (Rat.divInt ((atv l (ix+1) 33) - ((8)*(2))) 2)) st3 fun cs r4=>(by rw [show spt l ix=(Rat.divInt (atv l ix 33 - 16) 2,Rat.divInt (atv l (ix+1) 33 - 16) 2) by unfold spt;rw [hq];rfl];exact r4))



def VEl {α:Type}(k:Nat)(E:α->VP)(xs:List α):VP:=fun v w=>∃cs,v= .agg cs/\∀i x,xs[i]? =some x->E x (.agg (cs.extract (k*i) (k*i+k))) w
def VRg {α:Type}(T:TypeId)(k:Nat)(E:α->VP)(b:Option Addr)(g c:Nat)(xs:List α):VP:=fun v w=>xs.length<=c/\c<=9223372036854775807/\((c=0/\v= .slice b 0 0)∨(0<c/\v= .slice (some ⟨g,0,none⟩) xs.length c/\RowAt g T (k*c) (VEl k E xs) w))
def VRx {α:Type}(T:TypeId)(k:Nat)(E:α->VP)(lo:Nat)(xs:List α):VP:=fun v w=>∃g c,lo<=g/\0<c/\VRg T k E none g c xs v w
def VOs {α:Type}(T:TypeId)(k:Nat)(E:α->VP)(zs:List α):VP:=fun v w=>∃h cs,v= .slice (some ⟨h,0,none⟩) zs.length zs.length/\w.heap[h]? =some (.cells cs T (0,0))/\cs.size=k*zs.length/\VEl k E zs (.agg cs) w
def VSc {α:Type}(T:TypeId)(k:Nat)(E:α->VP)(zs:List α):VP:=fun v w=>(zs= []/\∃c,v= .slice none 0 c)∨∃h o c cs,v= .slice (some ⟨h,o,none⟩) zs.length c/\w.heap[h]? =some (.cells cs T (0,0))/\o+k*zs.length<=cs.size/\VEl k E zs (.agg (cs.extract o (o+k*zs.length))) w
section
variable {BT:List (TypeId×Nat×Nat)}{α:Type}{T ST:TypeId}{k g c lo:Nat}{b:Option Addr}{E:α->VP}{xs:List α}{A:VP}
theorem Stab_VEl (hE:∀x,Stab BT (E x)):Stab BT (VEl k E xs):=fun _ _ _ ⟨cs,h1,h2⟩ hr=>⟨cs,h1,fun i x hx=>hE x _ _ _ (h2 i x hx) hr⟩
instance [hE:∀x,Sb BT (E x)]:Sb BT (VEl k E xs):=⟨Stab_VEl fun x=>(hE x).out⟩
theorem Stab_VRg (hE:∀x,Stab BT (E x))(hk:0<k)(hp:(∀e∈BT,e.1≠T)∨(T,0,g)∈BT):Stab BT (VRg T k E b g c xs):=by
 rintro v w w' ⟨h1,h2,h4⟩ hr
 refine⟨h1,h2,h4.imp id ?_⟩
 rintro⟨h5,h6,cs,e1,e2,e3,e4⟩
 refine⟨h5,h6,cs,(hr.row g cs T e1 ?_).trans e1,e2,e3,Stab_VEl hE _ _ _ e4 hr⟩;rcases hp with hp|hp
 ·exact .inl fun e he q1=>absurd q1 (hp e he)
 ·exact .inr ⟨by rw [e2];exact Nat.mul_pos hk h5,_,hp,rfl,rfl,rfl⟩
theorem Stab_VRx (hE:∀x,Stab BT (E x))(hk:0<k)(hp:∀e∈BT,e.1≠T):Stab BT (VRx T k E lo xs):=fun _ _ _ ⟨g,c,h1,h2,h3⟩ hr=>⟨g,c,h1,h2,Stab_VRg hE hk (.inl hp) _ _ _ h3 hr⟩
theorem Stab_VOs (hE:∀x,Stab BT (E x))(hn:∀e∈BT,e.1=T->e.2.1≠k*xs.length):Stab BT (VOs T k E xs):=fun _ _ _ ⟨h,cs,e1,e2,e3,e4⟩ hr=>⟨h,cs,e1,(hr.row h cs T e2 (.inl fun e he q1 q2=>absurd (q2.trans e3) (hn e he q1))).trans e2,e3,Stab_VEl hE _ _ _ e4 hr⟩
class SlT (ST T:TypeId)(k:outParam Nat):Prop where
 und:Tryz.prog.underlying ST=some (.slice T)
 info:∃i zv,Tryz.prog.info? T=some i/\i.zero=some zv/\i.size=k/\i.bytes<=1000/\zv.cells.size=k/\NoInt zv.cells
 pos:0<k
theorem NoInt_zero {z:Array Value}{n:Nat}(h:NoInt z)(hz:0<z.size):NoInt (Builtin.zeroCells z n):=by
 intro i x hi;unfold Builtin.zeroCells at hi;rw [Array.getElem?_map] at hi;cases hr:(Array.range (n*z.size))[i]? with
 |none=>rw [hr] at hi;cases hi
 |some j=>
  rw [hr] at hi;simp only [Option.map_some] at hi;have hlt:j % z.size<z.size:=Nat.mod_lt _ hz
  have e:z[j % z.size]? =some (z[j % z.size]!):=by
   rw [getElem!_pos z (j % z.size) hlt,Array.getElem?_eq_getElem hlt]
  exact h _ _ (e.trans hi)
theorem NoInt_app {a b:Array Value}(ha:NoInt a)(hb:NoInt b):NoInt (a++b):=by
 intro i x hi;rw [Array.getElem?_append] at hi;split at hi
 ·exact ha _ _ hi
 ·exact hb _ _ hi
theorem NoInt_take {cs:Array Value}(h:NoInt cs)(n:Nat):NoInt (cs.toList.take n).toArray:=by
 intro i x hi;rw [List.getElem?_toArray,List.getElem?_take] at hi;split at hi
 ·rw [Array.getElem?_toList] at hi;exact h _ _ hi
 ·cases hi
theorem VEl_more {cs cs' z:Array Value}{zs:List α}{w:World}(h:VEl k E xs (.agg cs) w)(hz:VEl k E zs (.agg z) w)(hlen:k*xs.length+k*zs.length<=cs'.size)(hzs:z.size=k*zs.length)
 (hget:∀j,j<k*xs.length+k*zs.length->cs'[j]? =if j<k*xs.length then cs[j]? else z[j - k*xs.length]?) (hcs:k*xs.length<=cs.size):VEl k E (xs++zs) (.agg cs') w:=by
 obtain⟨_,e,h⟩:=h;cases e;obtain⟨_,e,hz⟩:=hz;cases e;refine⟨_,rfl,fun i y hy=>?_⟩;rw [List.getElem?_append] at hy;split at hy
 ·rename_i hi
  have hle:k*i+k<=k*xs.length:=by rw [<-Nat.mul_succ];exact Nat.mul_le_mul_left k hi
  have:cs'.extract (k*i) (k*i+k)=cs.extract (k*i) (k*i+k):=by
   apply Array.ext_getElem?;intro j;rw [Array.getElem?_extract,Array.getElem?_extract];by_cases hj:j<k
   ·rw [if_pos (by omega),if_pos (by omega),hget _ (by omega),if_pos (by omega)]
   ·rw [if_neg (by omega),if_neg (by omega)]
  rw [this];exact h i y hy
 ·rename_i hi
  have hi2:i - xs.length<zs.length:=by
   rcases Nat.lt_or_ge (i - xs.length) zs.length with h'|h'
   ·exact h'
   ·rw [List.getElem?_eq_none h'] at hy;cases hy
  have hle:k*(i - xs.length)+k<=k*zs.length:=by rw [<-Nat.mul_succ];exact Nat.mul_le_mul_left k hi2
  have hki:k*i=k*xs.length+k*(i - xs.length):=by rw [<-Nat.mul_add];congr 1;omega
  have:cs'.extract (k*i) (k*i+k)=z.extract (k*(i - xs.length)) (k*(i - xs.length)+k):=by
   apply Array.ext_getElem?;intro j;rw [Array.getElem?_extract,Array.getElem?_extract];by_cases hj:j<k
   ·rw [if_pos (by omega),if_pos (by omega),hget _ (by omega),if_neg (by omega)]
    congr 1;omega
   ·rw [if_neg (by omega),if_neg (by omega)]
  rw [this];exact hz _ y hy
theorem VEl_flat {z:Array Value}{w:World}[hA:∀x,Ag (E x) k](hk:0<k)(h:VEl k E xs (.agg z) w)(hz:z.size=k*xs.length):NoInt z/\z.all (·.oneCell')=true:=by
 obtain⟨_,e,h⟩:=h;cases e
 have key:∀j,j<z.size->∃x cs,x∈xs/\cs.size=k/\NoInt cs/\cs.all (·.oneCell')=true/\z[j]? =cs[j % k]? :=fun j hj=>by
  have hi:j / k<xs.length:=by rw [hz] at hj;exact Nat.div_lt_of_lt_mul hj
  have hx:xs[j / k]? =some xs[j / k]:=List.getElem?_eq_getElem hi;obtain⟨cs,e1,e2,e3,e4⟩:=(hA _).out _ _ (h _ _ hx);cases e1;refine⟨_,_,List.getElem_mem hi,e2,e3,e4,?_⟩;have hm:=Nat.mod_lt j hk
  rw [Array.getElem?_extract,if_pos (by
   have:k*(j / k)+k<=k*xs.length:=by rw [<-Nat.mul_succ];exact Nat.mul_le_mul_left k hi
   omega)]
  congr 1
  rw [Nat.div_add_mod]
 constructor
 ·intro i x hi
  have hl:i<z.size:=by
   rcases Nat.lt_or_ge i z.size with h'|h'
   ·exact h'
   ·rw [Array.getElem?_eq_none h'] at hi;cases hi
  obtain⟨_,cs,-,-,e3,-,e5⟩:=key i hl;exact e3 _ _ (e5.symm.trans hi)
 ·rw [Array.all_eq_true];intro i hi;obtain⟨_,cs,-,e2,-,e4,e5⟩:=key i hi;rw [Array.all_eq_true] at e4;have hm:=Nat.mod_lt i hk;have h1:=e4 (i % k) (by omega);rw [Array.getElem?_eq_getElem hi,Array.getElem?_eq_getElem (by omega),Option.some.injEq] at e5;rw [e5];exact h1
theorem VSc_src {ST:TypeId}[hs:SlT ST T k][hA:∀x,Ag (E x) k]{i:TypeInfo}{v:Value}{w:World}(hi:i.size=k)(h:VSc T k E xs v w):∃z:Array Value,Src Tryz.prog i.size ST v xs.length z.toList w/\z.size=k*xs.length/\NoInt z/\VEl k E xs (.agg z) w:=by
 subst hi;rcases h with⟨rfl,c,rfl⟩|⟨h,o,c,cs,rfl,e1,e2,e3⟩
 ·exact⟨#[],Src.ofNil w hs.und c,by simp,fun i x hi=>by simp at hi,⟨_,rfl,fun i x hi=>by simp at hi⟩⟩
 ·have hz:(cs.extract o (o+i.size*xs.length)).size=i.size*xs.length:=by rw [Array.size_extract];omega
  obtain⟨q1,q2⟩:=VEl_flat hs.pos e3 hz;refine⟨_,Src.ofSlice w hs.und _ _ _ _ (by rw [Array.length_toList,hz,Nat.mul_comm]) (fun j u hj=>?_) (fun u hu=>?_),hz,q1,e3⟩
  ·have:(⟨h,o,none⟩:Addr).add j=⟨h,o+j,none⟩:=by unfold Addr.add;split<;>simp_all
   rw [this];rw [Array.getElem?_toList,Array.getElem?_extract] at hj;split at hj
   ·simp only [World.cell?,e1];simpa using hj
   ·cases hj
  ·rw [Array.all_eq_true'] at q2;exact q2 u (Array.mem_toList_iff.1 hu)
theorem run_append_row {P:Program}(w:World)(t ty e:TypeId)(i:TypeInfo)(ht:P.underlying t=some (.slice e))(hi:P.info? e=some i)(g sLen sCap:Nat)(cur:Array Value)(hg:w.heap[g]? =some (.cells cur e (0,0)))(x:Value)(n:Nat)(news:List Value)(hs:Src P i.size t x n news w)
 (hroom:sLen+n<=sCap) (hfit:sLen*i.size+news.length<=cur.size):
 (Builtin.append_ #[t,t] ty #[.slice (some ⟨g,0,none⟩) sLen sCap,x]).run P w= .ok (.slice (some ⟨g,0,none⟩) (sLen+n) sCap) (w.setRow g (cur.toList.take (sLen*i.size)++news++cur.toList.drop (sLen*i.size+news.length)).toArray):=by
 have hst:=run_storeCells_at P g (sLen*i.size) e news 0 cur w hg (by simpa using hfit) hs.one;simp only [Nat.add_zero] at hst;simp [Builtin.append_,run_underlying ht,sizeOf,typeInfo,hi,hs.len,hroom,hs.cells,Addr.add_lit,hst]
section
variable {ρ:Operand->Value}{o:Oper}{W:World}{x y:Operand}{va vb:Value}{zs:List α}
theorem app_growM [hs:SlT ST T k][hA:∀x,Ag (E x) k](ho:o.op= .call {callee:= .builtin .append,args:=#[x,y],argTypes:=#[ST,ST]})(hx:ρ x=va)(h:VRg T k E b g c xs va W)(hy:ρ y=vb)(h1:VSc T k E zs vb W)(hE:∀x,Stab [] (E x))(hc:c<xs.length+zs.length)(hlo:lo<=W.heap.size)(hb:xs.length+zs.length<=1000000):
 ∃v w',(execOp ρ o).run Tryz.prog W= .ok (.value v) w'/\Below W.heap.size W w'/\VRx T k E lo (xs++zs) v w':=by
 obtain⟨i,zv,hi,hz,hsz,hby,hzc,hzn⟩:=hs.info;have hk:=hs.pos;obtain⟨hl,hcm,h⟩:=h;obtain⟨ch,hsrc,e2,e3,e5⟩:=VSc_src (ST:=ST) (i:=i) hsz h1
 have hfit:=growslice_fits (need:=xs.length+zs.length) (old:=c) (bytes:=i.bytes) hc (by
  have:=Nat.mul_le_mul (show xs.length+zs.length<=1000000 by omega) hby
  omega)
 have hge:=grownCap_ge W (xs.length+zs.length) c T;have hcap:grownCap W (xs.length+zs.length) c T<=maxLen:=grownCap_le_maxLen W (xs.length+zs.length) c T (by unfold maxLen;omega);unfold maxLen at hcap
 obtain⟨olds,base,hva,hold,hol,hnio,hel⟩:∃(olds:List Value) (base:Option Addr),va= .slice base xs.length c/\(Builtin.firstCells i.size xs.length (.slice base xs.length c)).run Tryz.prog W.drew= .ok olds.toArray W.drew/\olds.length=k*xs.length/\NoInt olds.toArray/\VEl k E xs (.agg olds.toArray) W:=by
  rcases h with⟨hc0,rfl⟩|⟨hc0,rfl,cs,q1,q2,q3,q4⟩
  ·have hx0:xs= []:=List.eq_nil_of_length_eq_zero (by omega);subst hx0 hc0
   exact⟨[],b,rfl,(by cases b with
    |none=>exact run_firstCells_none _ _ _ _ _
    |some p=>exact run_firstCells_some W.drew i.size 0 p 0 0 [] (by simp) (fun j u hj=>by simp at hj)),rfl,fun i x hi=>by simp at hi,⟨_,rfl,fun i x hi=>by simp at hi⟩⟩
  ·have hle:k*xs.length<=cs.size:=by rw [q2];exact Nat.mul_le_mul_left k hl
   refine⟨cs.toList.take (k*xs.length),some ⟨g,0,none⟩,rfl,run_firstCells_some W.drew i.size xs.length ⟨g,0,none⟩ _ _ _ (by rw [List.length_take,hsz,Nat.mul_comm xs.length k];exact Nat.min_eq_left hle) (fun j v hj=>?_),by rw [List.length_take];simp;omega,NoInt_take q3 _,⟨_,rfl,fun i x hi=>?_⟩⟩
   ·rw [List.getElem?_take] at hj;split at hj
    ·have:(⟨g,0,none⟩:Addr).add j=⟨g,0+j,none⟩:=by unfold Addr.add;split<;>simp_all
     rw [this];have q1':W.drew.heap[g]? =some (.cells cs T (0,0)):=q1;simp only [World.cell?,q1',Nat.zero_add]
     simpa using hj
    ·cases hj
   ·obtain⟨_,e,q4⟩:=q4;cases e
    have hil:i<xs.length:=by
     rcases Nat.lt_or_ge i xs.length with h'|h'
     ·exact h'
     ·rw [List.getElem?_eq_none h'] at hi;cases hi
    have hle2:k*i+k<=k*xs.length:=by rw [<-Nat.mul_succ];exact Nat.mul_le_mul_left k hil
    have:(cs.toList.take (k*xs.length)).toArray.extract (k*i) (k*i+k)=cs.extract (k*i) (k*i+k):=by
     apply Array.ext_getElem?;intro j;rw [Array.getElem?_extract,Array.getElem?_extract];have hsz2:(cs.toList.take (k*xs.length)).toArray.size=k*xs.length:=by simp;omega
     rw [hsz2];by_cases hj:j<k
     ·rw [if_pos (by omega),if_pos (by omega),List.getElem?_toArray,List.getElem?_take,if_pos (by omega),Array.getElem?_toList]
     ·rw [if_neg (by omega),if_neg (by omega)]
    rw [this];exact q4 i x hi
 subst hva;have hr:=run_append_grow_src (P:=Tryz.prog) W ST ST o.type T i zv hs.und hi hz base xs.length c olds hold vb zs.length ch.toList hsrc hc (by omega) hfit;have hcl:ch.toList.length=k*zs.length:=e2;have hb1:Below W.heap.size W (W.drew.alloc (.cells ((olds++ch.toList).toArray++Builtin.zeroCells zv.cells (grownCap W (xs.length+zs.length) c T - (xs.length+zs.length))) T)):=(below_drewN (Below.refl _ W) 1).alloc (Nat.le_refl _) _;have hgs:W.heap.size<(W.drew.alloc (.cells ((olds++ch.toList).toArray++Builtin.zeroCells zv.cells (grownCap W (xs.length+zs.length) c T - (xs.length+zs.length))) T)).heap.size:=lt_blk (heap_alloc_new W.drew _);refine⟨_,_,?_,hb1,⟨W.heap.size,grownCap W (xs.length+zs.length) c T,hlo,by omega,by simpa using hge,Nat.le_trans hcap (by omega),.inr ⟨by omega,by rw [List.length_append],_,heap_alloc_new W.drew _,?_,?_,?_⟩⟩⟩
 ·unfold execOp;simp only [ho,resolve,invoke,builtin,Sem.run_bind,Sem.run_pure,Result.andThen_ok,List.map_toArray,List.map_cons,List.map_nil,hx,hy,hr]
 ·rw [Array.size_append,List.size_toArray,List.length_append,hol,size_zeroCells,hzc,hcl,Nat.sub_mul,Nat.mul_comm (grownCap W (xs.length+zs.length) c T) k,Nat.add_mul,Nat.mul_comm xs.length k,Nat.mul_comm zs.length k];have:=Nat.mul_le_mul_left k hge;rw [Nat.mul_add] at this;omega
 ·refine NoInt_app ?_ (NoInt_zero hzn (by omega));rw [<-List.append_toArray];exact NoInt_app hnio (by simpa using e3)
 ·refine VEl_more (cs:=olds.toArray) (z:=ch) (Stab_VEl hE _ _ _ hel (RI.of_below hb1)) (Stab_VEl hE _ _ _ e5 (RI.of_below hb1)) ?_ e2 ?_ (by simp [hol])
  ·rw [Array.size_append,List.size_toArray,List.length_append,hol,hcl];omega
  ·intro j hj;rw [Array.getElem?_append_left (by rw [List.size_toArray,List.length_append,hol,hcl];exact hj),List.getElem?_toArray,List.getElem?_append,hol];simp only [List.getElem?_toArray,Array.getElem?_toList]
end
end
section
variable {md:Region.Mode}{ops:Array Oper}{Q:Exit->Act->World->Prop}{a0:Act}{Vl:List VP}{n0:Nat}{w0:World}{B:List Bd}{SL:List (Nat×VP)}{BT:List (TypeId×Nat×Nat)}{α:Type}{T ST:TypeId}{k g c lo:Nat}{b:Option Addr}{E:α->VP}{xs:List α}
theorem KS.rowsetD {listed:Array Bool}{a:Act}{w:World}{v:Value}{i g:Nat}{dst:Option Nat}{T:TypeId}{m:Nat}{old cs:Array Value}(h:KS n0 w0 B listed a w)(hr:RI BT w (w.setRow g cs))(hg:w.heap[g]? =some (.cells old T (0,0)))(ho:old.size=m)(hn0:n0<=g)(hne:∀b∈B,b.T=T->b.m≠m)(hq:quietB B i dst=true)(hB:SbB BT B):
 KS n0 w0 B (listed.setIfInBounds i true) (a.put dst v) (w.setRow g cs):=by
 have hgg:∀b∈B,∀g' cs',w.heap[g']? =some (.cells cs' b.T (0,0))->cs'.size=b.m->g'≠g:=fun b hb g' cs' h1 h2 e=>by
  subst e;rw [hg] at h1;cases h1;exact hne b hb rfl (h2.symm.trans ho)
 refine⟨⟨h.below.os,h.below.tape,h.below.output,Nat.le_trans h.below.size hr.size,fun k hk=>(setRow_other w g k cs (by omega)).trans (h.below.block k hk)⟩,fun b hb hon=>?_,fun b hb c hc hne' h1 h2=>?_,fun b hb hn1 hk=>?_⟩
 ·obtain⟨q1,q2,q3⟩:=quietB_get hq hb;rw [onb_set q1] at hon;obtain⟨g',cs',e1,e2,e3,e4,e5,e6,e7⟩:=h.ok b hb hon;refine⟨g',cs',by rw [put_get_ne q3];exact e1,e2,(setRow_other w g g' cs (hgg b hb g' cs' e3 e4)).trans e3,e4,e5,fun hk=>?_,fun h0 hk=>?_⟩
  ·rw [onb_set q2] at hk;exact(hB.out b hb).1 _ _ _ (e6 hk) hr
  ·rw [onb_set q2] at hk;exact(hB.out b hb).2 _ _ _ (e7 h0 hk) hr
 ·obtain⟨q1,q2,q3⟩:=quietB_get hq hb;obtain⟨p1,p2,p3⟩:=quietB_get hq hc;rw [onb_set q1] at h1;rw [onb_set p1] at h2;rw [put_get_ne q3,put_get_ne p3];exact h.ne b hb c hc hne' h1 h2
 ·obtain⟨q1,q2,-⟩:=quietB_get hq hb;rw [onb_set q2] at hk;rw [onb_set q1];exact h.fa b hb hn1 hk
theorem k_appM {s u j:Nat}{o:Oper}{us zs:List α}{X:VP}{r:Rw}[hB:SbB ((T,k*c,0)::BT) B][hs:SlT ST T k][hA:∀x,Ag (E x) k](hr:r=⟨g,j,T,k*c,VEl k E (xs++zs),VEl k E us⟩)(hpre:∃rest,us=xs++rest)(ho:o.op= .call {callee:= .builtin .append,args:=#[.tmp s,.tmp u],argTypes:=#[ST,ST]})
 (hx:KnS md ops Vl SL o s (VEq (.slice (some ⟨g,0,none⟩) xs.length c))) (hy:KnS md ops Vl SL o u X) (hX:∀v w,Below n0 w0 w->RowAt g T (k*c) (VEl k E us) w->X v w->VSc T k E zs v w) (hV:GV Vl j=VEq (.slice (some ⟨g,0,none⟩) (xs.length+zs.length) c)) (hroom:xs.length+zs.length<=c) (hc2:2<=c) (hn0:n0<=g)
 (hBk:B.all (fun b=>b.T !=T||b.m==k)=true) (hq:quietB B j o.dst=true) (hE:∀x BT,Stab BT (E x)) (hNP:∀e∈BT,e.1=T->e.2.1=0->e.2.2≠g) (hg:GOk md ops Vl o):KStepR ((T,k*c,0)::BT) Tryz.prog md ops Q a0 (GV Vl) n0 w0 B SL r o:=by
 subst hr;intro listed a w h hrow D _ hil hnl K hK;obtain⟨i,zv,hi,hz,hsz,hby,hzc,hzn⟩:=hs.info;have hk:=hs.pos;rw [if_pos (wanted_of (hg.get h D))];obtain⟨old,e1,e2,e3,-,e5⟩:=hrow
 have hP0:VEl k E xs (.agg old) w:=by
  obtain⟨rest,rfl⟩:=hpre;obtain⟨_,q1,q2⟩:=e5 hnl
  exact⟨_,q1,fun i x hx=>q2 i x (by
   have hi:i<xs.length:=by
    rcases Nat.lt_or_ge i xs.length with h'|h'
    ·exact h'
    ·rw [List.getElem?_eq_none h'] at hx;cases hx
   rw [List.getElem?_append_left hi];exact hx)⟩
 simp only at e1 e2;obtain⟨vs,hvs,hVs⟩:=hx.get h D;obtain rfl:vs=_:=hVs;obtain⟨vu,hvu,hXu⟩:=hy.get h D;obtain⟨ch,hsrc,q2,q3,q5⟩:=VSc_src (ST:=ST) (i:=i) hsz (hX _ _ h.k.below ⟨old,e1,e2,e3,e5 hnl⟩ hXu);have hcl:ch.toList.length=k*zs.length:=q2;have hle:k*xs.length+k*zs.length<=k*c:=by rw [<-Nat.mul_add];exact Nat.mul_le_mul_left k hroom
 have hrun:=run_append_row (P:=Tryz.prog) w ST o.type T i hs.und hi g xs.length c old e1 vu zs.length ch.toList hsrc hroom (by rw [hcl,hsz,Nat.mul_comm xs.length,e2];exact hle);obtain⟨cs',hcs'⟩:∃cs':Array Value,(old.toList.take (xs.length*i.size)++ch.toList++old.toList.drop (xs.length*i.size+ch.toList.length)).toArray=cs':=⟨_,rfl⟩;have hol:old.toList.length=k*c:=e2;have htl:(old.toList.take (xs.length*i.size)).length=k*xs.length:=by rw [List.length_take,hsz,Nat.mul_comm,hol];omega
 have hsize:cs'.size=k*c:=by
  rw [<-hcs',List.size_toArray,List.length_append,List.length_append,htl,hcl,List.length_drop,hol,hsz,Nat.mul_comm xs.length k];omega
 have hget:∀j,j<k*xs.length+k*zs.length->cs'[j]? =if j<k*xs.length then old[j]? else ch[j - k*xs.length]? :=fun j hj=>by
  rw [<-hcs',List.getElem?_toArray,List.getElem?_append_left (by rw [List.length_append,htl,hcl];exact hj),List.getElem?_append,htl];split
  ·rw [List.getElem?_take,if_pos (by rw [hsz,Nat.mul_comm];assumption),Array.getElem?_toList]
  ·rw [Array.getElem?_toList]
 have hni:NoInt cs':=fun i' x hx'=>by
  rw [<-hcs',List.getElem?_toArray,List.getElem?_append,List.getElem?_append] at hx';split at hx'
  ·split at hx'
   ·rw [List.getElem?_take] at hx';split at hx'
    ·rw [Array.getElem?_toList] at hx';exact e3 _ _ hx'
    ·cases hx'
   ·rw [Array.getElem?_toList] at hx';exact q3 _ _ hx'
  ·rw [List.getElem?_drop,Array.getElem?_toList] at hx';exact e3 _ _ hx'
 rw [hcs'] at hrun
 have hmk:k*c≠k:=by
  intro e;have:=Nat.mul_le_mul_left k hc2;omega
 have hkc:0<k*c:=Nat.mul_pos hk (by omega)
 have hRI:RI ((T,k*c,0)::BT) w (w.setRow g cs'):=RI_setRow e1 e3 ⟨⟨_,List.mem_cons_self,rfl,e2.symm,.inl rfl⟩,fun e he q1 q2=>by
  rcases List.mem_cons.1 he with rfl|he
  ·exact absurd q2 (by simp only;omega)
  ·exact hNP e he q1 q2⟩
 have hks:=h.k.rowsetD (i:=j) (v:= .slice (some ⟨g,0,none⟩) (xs.length+zs.length) c) (dst:=o.dst) hRI e1 e2 hn0 (fun b hb hbT=>by
  rw [List.all_eq_true] at hBk;have:=hBk b hb;simp only [hbT,bne_self_eq_false,Bool.false_or,beq_iff_eq] at this
  omega) hq hB
 have hlk:(listed.setIfInBounds j true).getD j false=true:=by rw [getD_set _ _ _ hil,if_pos rfl]
 unfold Oper.wp execOp;simp only [ho,resolve,invoke,builtin,Sem.run_bind,Sem.run_pure,Result.andThen_ok,List.map_toArray,List.map_cons,List.map_nil,hvs,hvu,hrun];refine hK _ _ hks hRI ⟨_,setRow_heap w g old cs' _ _ e1,hsize,hni,fun _=>VEl_more (Stab_VEl (fun x=>hE x _) _ _ _ hP0 hRI) (Stab_VEl (fun x=>hE x _) _ _ _ q5 hRI) (by rw [hsize];exact hle) q2 hget (by rw [e2];omega),fun hl=>by simp only at hl;rw [hlk] at hl;cases hl⟩ (by simp only;rw [hV];rfl)
theorem VRg_in {zs:List α}{w:World}(hl:(xs++zs).length<=c)(hc0:0<c)(hcm:c<=9223372036854775807)(hr:RowAt g T (k*c) (VEl k E (xs++zs)) w):VRg T k E b g c (xs++zs) (.slice (some ⟨g,0,none⟩) (xs.length+zs.length) c) w:=by
 exact⟨hl,hcm,.inr ⟨hc0,by rw [List.length_append],hr⟩⟩
theorem VRg_sl {v:Value}{w:World}(hx:xs≠ [])(h:VRg T k E b g c xs v w):VSl T k E xs v w:=by
 obtain⟨h3,h4,(⟨h6,h7⟩|⟨h6,rfl,cs,q1,q2,q3,_,q4,q5⟩)⟩:=h
 ·exact absurd (List.eq_nil_of_length_eq_zero (by omega)) hx
 ·cases q4;refine⟨g,0,c,cs,rfl,h3,h4,q1,?_,fun i x hx=>by rw [Nat.zero_add];exact q5 i x hx⟩;rw [Nat.zero_add,q2];exact Nat.mul_le_mul_left k h3
theorem VOs_sc {v:Value}{w:World}(h:VOs T k E xs v w):VSc T k E xs v w:=by
 obtain⟨hh,cs,e1,e2,e3,e4⟩:=h;refine .inr ⟨hh,0,_,cs,e1,e2,by omega,?_⟩;rw [Nat.zero_add,<-e3,Array.extract_size];exact e4
section
variable {N:Nat}{L:List Bd}{a:Act}{w:World}
theorem St.nameR (h:St n0 w0 N L SL a w)(s:Nat)(hm:lS SL s=some (VRx T k E lo xs)):∃g c,lo<=g/\0<c/\St n0 w0 N L ((s,VRg T k E none g c xs)::SL) a w:=by
 obtain⟨v,e1,g,c,h1,h2,h3⟩:=h.sl _ (lS_mem hm);exact⟨g,c,h1,h2,h.k,h.n,h.size,h.defers,Lq.2 ⟨⟨v,e1,h3⟩,h.sl⟩⟩
end
end
instance iAlSlV:SlT 23 32 8:=⟨Tryz.underlying23,by
 have h:(Tryz.prog.info? 32).map (fun i=>(i.zero,i.size,i.bytes))=some (some (.agg #[.bool false,.slice none 0 0,.bool false,.slice none 0 0,.bool false,.slice none 0 0,.bool false,.slice none 0 0]),8,128):=by kernel_rfl
 cases hq:Tryz.prog.info? 32 with
 |none=>rw [hq] at h;cases h
 |some i=>
  rw [hq] at h;simp only [Option.map_some,Option.some.injEq,Prod.mk.injEq] at h
  exact⟨i,_,rfl,h.1,h.2.1,by rw [h.2.2];omega,rfl,noint_of (by simp [Value.cells])⟩,by decide⟩
instance (N:Nat)(x:P2):Ag (EV N x) 8:=⟨(inferInstance:Ag (Vv N x.1 x.2) 8).out⟩
instance {BT:List (TypeId×Nat×Nat)}(N:Nat)(x:P2):Sb BT (EV N x):=⟨Stab_Vv _ _ _⟩
instance {N g c:Nat}{b:Option Addr}{us:List P2}:Sb [] (VRg 32 8 (EV N) b g c us):=⟨Stab_VRg (fun x=>Stab_Vv _ _ _) (by decide) (.inl (by simp))⟩
instance {N lo:Nat}{us:List P2}:Sb [] (VRx 32 8 (EV N) lo us):=⟨Stab_VRx (fun x=>Stab_Vv _ _ _) (by decide) (by simp)⟩
instance {N:Nat}{us:List P2}:Sb [] (VOs 32 8 (EV N) us):=⟨Stab_VOs (fun x=>Stab_Vv _ _ _) (by simp)⟩
theorem Stab_VSvN0 {N:Nat}{vs:List P2}:Stab [] (VSv N vs):=fun _ _ _ h hr=>h.imp id fun ⟨hh,o,c,cs,e1,e2,e3,e4,e5,e6⟩=>⟨hh,o,c,cs,e1,e2,e3,(hr.row _ _ _ e4 (.inl (by simp))).trans e4,e5,fun i x hx=>Stab_Vv _ _ _ _ _ _ (e6 i x hx) hr⟩
instance {N:Nat}{vs:List P2}:Sb [] (VSv N vs):=⟨Stab_VSvN0⟩
theorem VRg_sv {N g c:Nat}{vs:List P2}{v:Value}{w:World}(h:VRg 32 8 (EV N) none g c vs v w)(h0:vs= []->c=0):VSv N vs v w:=by
 by_cases hx:vs= []
 ·have hc:=h0 hx;subst hx;rcases h with⟨-,-,(⟨-,rfl⟩|⟨h6,-⟩)⟩
  ·exact .inl ⟨rfl,rfl⟩
  ·omega
 ·exact .inr (VRg_sl hx h)
end Go.Proofs.YteacdbgalloaiaaGreat
