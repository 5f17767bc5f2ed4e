/- Contracts of the packages integer, rat, plane, polygon and their references. -/
import Derived.Test.YteacdbgalloaiaaGreatX25
import Derived.Test.YteacdbgalloaiaaGreatX24
set_option linter.unusedVariables false
set_option maxRecDepth 100000
set_option maxHeartbeats 6400000
namespace Go.Proofs.YteacdbgalloaiaaGreat
open Go.RowKit
open Go
theorem cCtrP {w:World}{P:List P2}{v0:Value}(h0:VSv 3 P v0 w)(hPQ:∀p∈P,Q2 2 32 p)(h3:0<P.length:=by omega)(h12:P.length<=12:=by omega):Calls Tryz.prog 22 #[v0] w (RV (Vv 3 (ctr P).1 (ctr P).2) w):=
 (gCtr h0).mono fun _ _ h=>h.le fun v w h=>by
  obtain⟨K,k1,k2,k3⟩:=ctr_Q hPQ h3 h12;exact Vv_three (p:=ctr P) h k3 k1 k2 (by omega)
theorem walkInside {w:World}{l m:List Int}{v0 v1:Value}(h0:VI l v0 w)(h1:VI m v1 w):Calls Tryz.prog 6 #[v0,v1] w (RV (Vb true) w):=by
 go_enter Tryz.func6,Tryz.ntmps6
 generalize hA:(⟨_,_⟩:Act)=a0;have st0:St w.heap.size w 195 [] [(0,VI l),(1,VI m)] a0 w:=by subst hA;exact St.begin rfl rfl (Lq.2 ⟨⟨_,rfl,h0⟩,(Lq.2 ⟨⟨_,rfl,h1⟩,L0⟩)⟩)
 clear hA;have hC:=polyR_cvx (l:=l);refine Wn ?_
 refine rH [(32,8,0)] [Vb false] [] [(0,VI l),(1,VI m),(4,Vb false)] st0 ⟨ks,trivial⟩ fun a1 w1 st1=>Wn ?_
 refine rH [] [VI l,VSv 7 (polyR l),VSv 7 (polyR l)] [] [(1,VI m),(4,Vb false),(5,VSv 7 (polyR l))] st1 ⟨ks,(kd1 fun _ _ _ _ _ X0=>cR6Polygon X0),ks,trivial⟩ ?_;intro a2 w2 st2;replace st2:St w.heap.size w 195 [] [(1,VI m),(4,Vb false),(5,VSv 7 (polyR l))] a2 w2:=st2;obtain⟨u1,p1,s1⟩:=st2.sl (1,VI m) (lS_mem rfl);obtain⟨u5,p5,s5⟩:=st2.sl (5,VSv 7 (polyR l)) (lS_mem rfl);refine Wn ?_
 obtain⟨hbN,stB⟩:=st2.base [(1,VI m),(5,VAt w2 (VSv 3 (polyR l)))] (Lq.2 ⟨⟨_,p1,s1⟩,(Lq.2 ⟨⟨_,p5,VSv_three s5 (polyR_Q l) (by omega) (by omega) (by omega)⟩,L0⟩)⟩);obtain⟨wU,hren⟩:∃z,z=w:=⟨_,rfl⟩;subst hren;have hbO:=hbN;clear hbN;obtain⟨w,hren⟩:∃z,z=w2:=⟨_,rfl⟩;subst hren;have st2:St w.heap.size w 195 [] [(1,VI m),(5,VAt w (VSv 3 (polyR l)))] a2 w:=stB;clear stB;clear p1 s1 p5 s5;obtain⟨hP3,hP12⟩:=polyR_len l;have hPQ:=polyR_Q l;generalize polyR l=P at st2 hP3 hP12 hPQ hC;refine Wn ?_
 refine rH [(32,8,0)] [VAt w (VSv 3 P),VTup (Vv 3 ((bxL P).1) ((bxL P).2)) (Vv 3 ((bxH P).1) ((bxH P).2)),VTup (Vv 3 ((bxL P).1) ((bxL P).2)) (Vv 3 ((bxH P).1) ((bxH P).2)),Vv 3 ((bxL P).1) ((bxL P).2),Vv 3 ((bxH P).1) ((bxH P).2),VT,VT,VT,VT] [⟨6,some 5,some 7,32,8,Vv 3 ((bxL P).1) ((bxL P).2),VT⟩,⟨7,some 6,some 8,32,8,Vv 3 ((bxH P).1) ((bxH P).2),VT⟩] [(1,VI m),(5,VAt w (VSv 3 P))] st2 ⟨ks,(kd1 fun _ _ Y h v0 X0=>gBox (VSv_later (show VSv 3 P _ w from(show VAt w (VSv 3 P) v0 Y from X0)) h.k.below)),ks,ks,ks,ks,ks,ks,ks,trivial⟩ fun a3 w3 st3=>Wn ?_
 refine rH [] [VAt w (VSv 3 P),VI m,VSv 3 (spL m P P.length),VSv 3 (spL m P P.length)] [.k 6 32 8 (Vv 3 ((bxL P).1) ((bxL P).2)),.k 7 32 8 (Vv 3 ((bxH P).1) ((bxH P).2))] [(1,VI m),(5,VAt w (VSv 3 P)),(8,VSv 3 (spL m P P.length))] st3 ⟨ks,ks,(kd2 fun _ _ Y h v0 X0 v1 X1=>cSpots (show VAt Y (VSv 3 P) v0 Y from VSv_later X0 h.k.below) X1 hP3 hP12 hPQ),ks,trivial⟩ ?_;intro a4 w4 st4;replace st4:St w.heap.size w 195 [.k 6 32 8 (Vv 3 ((bxL P).1) ((bxL P).2)),.k 7 32 8 (Vv 3 ((bxH P).1) ((bxH P).2))] [(1,VI m),(5,VAt w (VSv 3 P)),(8,VSv 3 (spL m P P.length))] a4 w4:=st4;obtain⟨g6,e6,-,-,cs6,b6,c6,-,d6⟩:=st4.boxAt (b:=(.k 6 32 8 (Vv 3 ((bxL P).1) ((bxL P).2)))) (.head _) rfl rfl;obtain⟨g7,e7,-,-,cs7,b7,c7,-,d7⟩:=st4.boxAt (b:=(.k 7 32 8 (Vv 3 ((bxH P).1) ((bxH P).2)))) (.tail _ (.head _)) rfl rfl;obtain⟨u5,p5,s5⟩:=st4.sl (5,VAt w (VSv 3 P)) (lS_mem rfl);obtain⟨u8,p8,s8⟩:=st4.sl (8,VSv 3 (spL m P P.length)) (lS_mem rfl);have hL:=spL_len m P P.length;generalize spL m P P.length=L at s8 hL;refine Wn ?_
 obtain⟨hbN,stB⟩:=st4.base [(5,VAt w4 (VSv 3 P)),(6,VAt w4 (VEp 32 8 (Vv 3 (bxL P).1 (bxL P).2))),(7,VAt w4 (VEp 32 8 (Vv 3 (bxH P).1 (bxH P).2))),(8,VAt w4 (VSv 3 L))] (Lq.2 ⟨⟨_,p5,VSv_later s5 st4.k.below⟩,(Lq.2 ⟨⟨_,e6,_,0,_,rfl,b6,Nat.le_of_eq ((Nat.zero_add _).trans c6.symm),by rw [Nat.zero_add,show(8:Nat)=cs6.size from c6.symm,Array.extract_size];exact d6⟩,(Lq.2 ⟨⟨_,e7,_,0,_,rfl,b7,Nat.le_of_eq ((Nat.zero_add _).trans c7.symm),by rw [Nat.zero_add,show(8:Nat)=cs7.size from c7.symm,Array.extract_size];exact d7⟩,(Lq.2 ⟨⟨_,p8,s8⟩,L0⟩)⟩)⟩)⟩);have hbX:=below_tr hbO hbN;clear hbN;clear hbO;have hbO:=hbX;clear hbX;obtain⟨wP,hren⟩:∃z,z=w:=⟨_,rfl⟩;subst hren;obtain⟨w,hren⟩:∃z,z=w4:=⟨_,rfl⟩;subst hren;have st4:St w.heap.size w 195 [] [(5,VAt w (VSv 3 P)),(6,VAt w (VEp 32 8 (Vv 3 (bxL P).1 (bxL P).2))),(7,VAt w (VEp 32 8 (Vv 3 (bxH P).1 (bxH P).2))),(8,VAt w (VSv 3 L))] a4 w:=stB;clear stB;clear p5 s5 p8 s8 e6 b6 c6 d6 e7 b7 c7 d7;refine Wn ?_
 refine rH [(32,8,0)] [Vi 0] [] [(5,VAt w (VSv 3 P)),(6,VAt w (VEp 32 8 (Vv 3 (bxL P).1 (bxL P).2))),(7,VAt w (VEp 32 8 (Vv 3 (bxH P).1 (bxH P).2))),(8,VAt w (VSv 3 L)),(9,Vi 0)] st4 ⟨ks,trivial⟩ ?_;intro a5 w5 st5;replace st5:St w.heap.size w 195 [] [(5,VAt w (VSv 3 P)),(6,VAt w (VEp 32 8 (Vv 3 (bxL P).1 (bxL P).2))),(7,VAt w (VEp 32 8 (Vv 3 (bxH P).1 (bxH P).2))),(8,VAt w (VSv 3 L)),(9,Vi ((0:Nat):Int))] a5 w5:=st5.cut;refine Wn ?_
 refine wp_loop_ghost (fun m1 aX wX=>∃j:Nat,j+m1=P.length/\St w.heap.size w 195 [] [(5,VAt w (VSv 3 P)),(6,VAt w (VEp 32 8 (Vv 3 (bxL P).1 (bxL P).2))),(7,VAt w (VEp 32 8 (Vv 3 (bxH P).1 (bxH P).2))),(8,VAt w (VSv 3 L)),(9,Vi j)] aX wX) P.length ⟨0,by omega,st5⟩ ?_;intro m1 aLj wLj ⟨j,hj,st5⟩;by_cases hlt:j<P.length
 ·
  refine Wn ?_
  refine rH [(32,8,0)] [Vi j,VAt w (VSv 3 P),Vi (P.length:Int),Vb true] [] [(5,VAt w (VSv 3 P)),(6,VAt w (VEp 32 8 (Vv 3 (bxL P).1 (bxL P).2))),(7,VAt w (VEp 32 8 (Vv 3 (bxH P).1 (bxH P).2))),(8,VAt w (VSv 3 L)),(9,Vi j),(31,Vb true)] st5 ⟨ks,ks,(kr1 29 fun _ _ _ _ _ x0 X0=>len_SvA rfl rfl x0 X0),(kr2 28 30 fun _ _ _ _ _ x0 X0 _ x1 X1=>⟨_,run_lssi rfl (x0.trans X0) (x1.trans X1),congrArg Value.bool (dT (by omega))⟩),trivial⟩ fun a6 w6 st6=>Wn ?_
  refine cT st6 ?_;have hgj:P[j]? =some (cv P j):=cv_gets hlt;have qj:=cv_Q2 hPQ (k:=j) (by omega);have qn:=cv_Q2 hPQ (k:=j+1) (by omega);refine Wn ?_
  refine rH [(32,8,0)] [VAt w (VSv 3 P),VAt w (VSv 3 P),Vi j,VAt w (VEp 32 8 (Vv 3 (cv P j).1 (cv P j).2)),Vv 3 ((cv P j).1) ((cv P j).2),Vi 0,Vb false,Vb false,VAt w (VSv 3 P),VAt w (VSv 3 P),Vi j,VAt w (VEp 32 8 (Vv 3 (cv P j).1 (cv P j).2)),Vv 3 ((cv P j).1) ((cv P j).2),VAt w (VSv 3 P),Vi j,Vv 3 ((cv P (j+1)).1) ((cv P (j+1)).2),Vv 3 ((mid2 (cv P j) (cv P (j+1))).1) ((mid2 (cv P j) (cv P (j+1))).2),Vi 0,Vb false,Vb false] [] [(5,VAt w (VSv 3 P)),(6,VAt w (VEp 32 8 (Vv 3 (bxL P).1 (bxL P).2))),(7,VAt w (VEp 32 8 (Vv 3 (bxH P).1 (bxH P).2))),(8,VAt w (VSv 3 L)),(9,Vi j),(31,Vb true),(53,Vb false)] st6 ⟨ks,ks,ks,(kr2 35 36 fun _ _ _ _ _ x0 X0 _ x1 X1=>index_SvA (a:=(cv P j)) rfl x0 X0 x1 X1 hgj),(kr1 37 fun _ _ _ h _ x0 X0=>load_EpC (w:=w) (k:=8) (A:=Vv 3 (cv P j).1 (cv P j).2) (Stab_Vv _ _ _) rfl x0 X0 h.k.below Tryz.underlying32 rfl size_Vec),(kd2 fun _ _ _ h _ X0 _ X1=>has_corner hlt ▸ cHas (p:=cv P j) X1 (VSv_later X0 h.k.below)),(kr1 39 fun _ _ _ _ _ x0 X0=>⟨_,run_neqi rfl (x0.trans X0) rfl,congrArg Value.bool (bne_self_eq_false _)⟩),ks,ks,ks,ks,(kr2 43 44 fun _ _ _ _ _ x0 X0 _ x1 X1=>index_SvA (a:=(cv P j)) rfl x0 X0 x1 X1 hgj),(kr1 45 fun _ _ _ h _ x0 X0=>load_EpC (w:=w) (k:=8) (A:=Vv 3 (cv P j).1 (cv P j).2) (Stab_Vv _ _ _) rfl x0 X0 h.k.below Tryz.underlying32 rfl size_Vec),ks,ks,(kd2 fun _ _ Y h v0 X0 v1 X1=>cR6Next (show VEq v0 v0 Y from rfl) X1 (VSv_later X0 h.k.below) hlt),(kd2 fun _ _ _ _ _ X0 _ X1=>cMidQ X0 X1 qj qn),(kd2 fun _ _ _ h _ X0 _ X1=>has_mid hlt ▸ cHas (p:=(mid2 (cv P j) (cv P (j+1)))) X1 (VSv_later X0 h.k.below)),(kr1 51 fun _ _ _ _ _ x0 X0=>⟨_,run_neqi rfl (x0.trans X0) rfl,congrArg Value.bool (bne_self_eq_false _)⟩),ks,trivial⟩ fun a7 w7 st7=>Wn ?_
  refine cF st7 ?_;refine Wn ?_
  refine rH [(32,8,0)] [Vi j,Vi ((j+1:Nat):Int),Vi ((j+1:Nat):Int)] [] [(5,VAt w (VSv 3 P)),(6,VAt w (VEp 32 8 (Vv 3 (bxL P).1 (bxL P).2))),(7,VAt w (VEp 32 8 (Vv 3 (bxH P).1 (bxH P).2))),(8,VAt w (VSv 3 L)),(31,Vb true),(53,Vb false),(9,Vi ((j+1:Nat):Int))] st7 ⟨?s0,(kr1 32 fun _ _ _ _ v0 x0 X0=>⟨_,run_addi rfl (x0.trans (show v0= .int .i64 j from X0)) rfl wO,congrArg (Value.int .i64) (by omega)⟩),ks,trivial⟩ ?_
  case s0=>
   refine k_run0 SbB.out (by kernel_rfl) fun listed ac Y h D hnl=>⟨trivial,?_⟩
   obtain⟨v0,x0,X0⟩:=h.out0 hnl (9,Vi j) (.tail _ (.tail _ (.tail _ (.tail _ (.head _))))) 2 (by kernel_rfl) (.inr (by kernel_rfl));exact⟨_,run_move rfl,by rw [x0];exact X0⟩
  intro a8 w8 st8;replace st8:St w.heap.size w 195 [] [(5,VAt w (VSv 3 P)),(6,VAt w (VEp 32 8 (Vv 3 (bxL P).1 (bxL P).2))),(7,VAt w (VEp 32 8 (Vv 3 (bxH P).1 (bxH P).2))),(8,VAt w (VSv 3 L)),(31,Vb true),(53,Vb false),(9,Vi ((j+1:Nat):Int))] a8 w8:=st8;exact⟨m1 - 1,by omega,j+1,by omega,st8.cut⟩
 ·
  refine Wn ?_
  refine rH [(32,8,0)] [Vi j,VAt w (VSv 3 P),Vi (P.length:Int),Vb false] [] [(5,VAt w (VSv 3 P)),(6,VAt w (VEp 32 8 (Vv 3 (bxL P).1 (bxL P).2))),(7,VAt w (VEp 32 8 (Vv 3 (bxH P).1 (bxH P).2))),(8,VAt w (VSv 3 L)),(9,Vi j),(31,Vb false)] st5 ⟨ks,ks,(kr1 29 fun _ _ _ _ _ x0 X0=>len_SvA rfl rfl x0 X0),(kr2 28 30 fun _ _ _ _ _ x0 X0 _ x1 X1=>⟨_,run_lssi rfl (x0.trans X0) (x1.trans X1),congrArg Value.bool (dF (by omega))⟩),trivial⟩ fun a6 w6 st6=>Wn ?_
  refine cF st6 ?_;clear hlt hj;obtain⟨cb,hcb⟩:∃cb,convexP P=cb:=⟨_,rfl⟩;refine Wn ?_
  refine rH [(32,8,0)] [VAt w (VSv 3 P),Vb cb,Vb cb] [] [(5,VAt w (VSv 3 P)),(6,VAt w (VEp 32 8 (Vv 3 (bxL P).1 (bxL P).2))),(7,VAt w (VEp 32 8 (Vv 3 (bxH P).1 (bxH P).2))),(8,VAt w (VSv 3 L)),(9,Vi j),(31,Vb false),(10,Vb cb)] st6 ⟨ks,(kd1 fun _ _ Y h v0 X0=>lvConvex (VSv_later (show VSv 3 P _ w from(show VAt w (VSv 3 P) v0 Y from X0)) h.k.below) hcb),ks,trivial⟩ fun a7 w7 st7=>Wn ?_
  refine wp_mono' (Q:=fun e aX wX=>e= .normal/\St w.heap.size w 195 [] [(5,VAt w (VSv 3 P)),(6,VAt w (VEp 32 8 (Vv 3 (bxL P).1 (bxL P).2))),(7,VAt w (VEp 32 8 (Vv 3 (bxH P).1 (bxH P).2))),(8,VAt w (VSv 3 L)),(10,Vb cb),(63,Vb false)] aX wX) ?r10 ?_
  case r10=>
   cases cb with
   |true=>
    have hctr:=(hC hcb).ctr;refine Wn ?_
    refine rH [(32,8,0)] [Vb true,Vb true,VAt w (VSv 3 P),VAt w (VSv 3 P),Vv 3 ((ctr P).1) ((ctr P).2),Vi 1,Vb false,Vb false] [] [(5,VAt w (VSv 3 P)),(6,VAt w (VEp 32 8 (Vv 3 (bxL P).1 (bxL P).2))),(7,VAt w (VEp 32 8 (Vv 3 (bxH P).1 (bxH P).2))),(8,VAt w (VSv 3 L)),(9,Vi j),(31,Vb false),(10,Vb true),(63,Vb false)] st7 ⟨ks,ks,ks,ks,(kd1 fun _ _ _ h _ X0=>cCtrP (VSv_later X0 h.k.below) hPQ (by omega) hP12),(kd2 fun _ _ _ h _ X0 _ X1=>hctr ▸ cHas (p:=ctr P) X1 (VSv_later X0 h.k.below)),(kr1 61 fun _ _ _ _ _ x0 X0=>⟨_,run_neqi rfl (x0.trans X0) rfl,congrArg Value.bool (bne_self_eq_false _)⟩),ks,trivial⟩ ?_;intro a8 w8 st8;exact⟨rfl,st8.cut⟩
   |false=>
    refine Wn ?_
    refine rH [(32,8,0)] [Vb false,Vb false,VT,VT,VT,VT,VT,Vb false] [] [(5,VAt w (VSv 3 P)),(6,VAt w (VEp 32 8 (Vv 3 (bxL P).1 (bxL P).2))),(7,VAt w (VEp 32 8 (Vv 3 (bxH P).1 (bxH P).2))),(8,VAt w (VSv 3 L)),(9,Vi j),(31,Vb false),(10,Vb false),(63,Vb false)] st7 ⟨ks,ks,ks,ks,ks,ks,ks,ks,trivial⟩ ?_;intro a8 w8 st8;exact⟨rfl,st8.cut⟩
  rintro _ a8x w8x ⟨rfl,st8⟩
  clear st7;refine Wn ?_
  refine cF st8 ?_;refine Wn ?_
  refine rH [(32,8,0)] [Vi 0] [] [(5,VAt w (VSv 3 P)),(6,VAt w (VEp 32 8 (Vv 3 (bxL P).1 (bxL P).2))),(7,VAt w (VEp 32 8 (Vv 3 (bxH P).1 (bxH P).2))),(8,VAt w (VSv 3 L)),(10,Vb cb),(63,Vb false),(11,Vi 0)] st8 ⟨ks,trivial⟩ ?_;intro a9 w9 st9;replace st9:St w.heap.size w 195 [] [(5,VAt w (VSv 3 P)),(6,VAt w (VEp 32 8 (Vv 3 (bxL P).1 (bxL P).2))),(7,VAt w (VEp 32 8 (Vv 3 (bxH P).1 (bxH P).2))),(8,VAt w (VSv 3 L)),(10,Vb cb),(11,Vi ((0:Nat):Int))] a9 w9:=st9.cut;refine Wn ?_
  refine wp_loop_ghost (fun m1 aX wX=>∃j:Nat,j+m1=L.length/\St w.heap.size w 195 [] [(5,VAt w (VSv 3 P)),(6,VAt w (VEp 32 8 (Vv 3 (bxL P).1 (bxL P).2))),(7,VAt w (VEp 32 8 (Vv 3 (bxH P).1 (bxH P).2))),(8,VAt w (VSv 3 L)),(10,Vb cb),(11,Vi j)] aX wX) L.length ⟨0,by omega,st9⟩ ?_;intro m1 aLj wLj ⟨j,hj,st9⟩;by_cases hlt:j<L.length
  ·
   refine Wn ?_
   refine rH [(32,8,0)] [Vi j,VAt w (VSv 3 L),Vi (L.length:Int),Vb true] [] [(5,VAt w (VSv 3 P)),(6,VAt w (VEp 32 8 (Vv 3 (bxL P).1 (bxL P).2))),(7,VAt w (VEp 32 8 (Vv 3 (bxH P).1 (bxH P).2))),(8,VAt w (VSv 3 L)),(10,Vb cb),(11,Vi j),(67,Vb true)] st9 ⟨ks,ks,(kr1 65 fun _ _ _ _ _ x0 X0=>len_SvA rfl rfl x0 X0),(kr2 64 66 fun _ _ _ _ _ x0 X0 _ x1 X1=>⟨_,run_lssi rfl (x0.trans X0) (x1.trans X1),congrArg Value.bool (dT (by omega))⟩),trivial⟩ fun a10 w10 st10=>Wn ?_
   refine cT st10 ?_;have hgj:L[j]? =some (cv L j):=cv_gets hlt;obtain⟨x,hx⟩:∃x,hasI P (cv L j)=x:=⟨_,rfl⟩;have hx3:x=0∨x=1∨x= -1:=hx ▸ hasI_three _;have hxb:0<=x->_:=fun h=>has_box (vs:=P) (p:=cv L j) (by rw [hx];exact h)
   refine Wn ?_
   refine rH [(32,8,0)] [VAt w (VSv 3 P),VAt w (VSv 3 L),Vi j,VAt w (VEp 32 8 (Vv 3 (cv L j).1 (cv L j).2)),Vv 3 ((cv L j).1) ((cv L j).2),Vi x,Vi x] [] [(5,VAt w (VSv 3 P)),(6,VAt w (VEp 32 8 (Vv 3 (bxL P).1 (bxL P).2))),(7,VAt w (VEp 32 8 (Vv 3 (bxH P).1 (bxH P).2))),(8,VAt w (VSv 3 L)),(10,Vb cb),(11,Vi j),(67,Vb true),(12,Vi x)] st10 ⟨ks,ks,ks,(kr2 71 72 fun _ _ _ _ _ x0 X0 _ x1 X1=>index_SvA (a:=(cv L j)) rfl x0 X0 x1 X1 hgj),(kr1 73 fun _ _ _ h _ x0 X0=>load_EpC (w:=w) (k:=8) (A:=Vv 3 (cv L j).1 (cv L j).2) (Stab_Vv _ _ _) rfl x0 X0 h.k.below Tryz.underlying32 rfl size_Vec),(kd2 fun _ _ _ h _ X0 _ X1=>hx ▸ cHas (p:=cv L j) X1 (VSv_later X0 h.k.below)),ks,trivial⟩ fun a11 w11 st11=>Wn ?_
   refine wp_mono' (Q:=fun e aX wX=>e= .normal/\∃inb:Bool,(0<=x->inb=true)/\St w.heap.size w 195 [] [(5,VAt w (VSv 3 P)),(6,VAt w (VEp 32 8 (Vv 3 (bxL P).1 (bxL P).2))),(7,VAt w (VEp 32 8 (Vv 3 (bxH P).1 (bxH P).2))),(8,VAt w (VSv 3 L)),(10,Vb cb),(11,Vi j),(12,Vi x),(13,Vb inb)] aX wX) ?r16 ?_
   case r16=>
    by_cases hc0:0<=cmpQ (cv L j).1 (bxL P).1
    ·
     by_cases hc1:cmpQ (cv L j).1 (bxH P).1<=0
     ·
      by_cases hc2:0<=cmpQ (cv L j).2 (bxL P).2
      ·
       by_cases hc3:cmpQ (cv L j).2 (bxH P).2<=0
       ·
        refine Wn ?_
        refine rH [(32,8,0)] [VAt w (VSv 3 L),Vi j,VAt w (VEp 32 8 (Vv 3 (cv L j).1 (cv L j).2)),VAt w (VEp 32 4 (Vq 3 (cv L j).1)),Vq 3 ((cv L j).1),VAt w (VEp 32 4 (Vq 3 (bxL P).1)),Vq 3 ((bxL P).1),Vi (cmpQ ((cv L j).1) ((bxL P).1)),Vb true,Vb true,VAt w (VSv 3 L),Vi j,VAt w (VEp 32 8 (Vv 3 (cv L j).1 (cv L j).2)),VAt w (VEp 32 4 (Vq 3 (cv L j).1)),Vq 3 ((cv L j).1),VAt w (VEp 32 4 (Vq 3 (bxH P).1)),Vq 3 ((bxH P).1),Vi (cmpQ ((cv L j).1) ((bxH P).1)),Vb true,Vb true,Vb true,VAt w (VSv 3 L),Vi j,VAt w (VEp 32 8 (Vv 3 (cv L j).1 (cv L j).2)),VAt w (VEp 32 4 (Vq 3 (cv L j).2)),Vq 3 ((cv L j).2),VAt w (VEp 32 4 (Vq 3 (bxL P).2)),Vq 3 ((bxL P).2),Vi (cmpQ ((cv L j).2) ((bxL P).2)),Vb true,Vb true,Vb true,VAt w (VSv 3 L),Vi j,VAt w (VEp 32 8 (Vv 3 (cv L j).1 (cv L j).2)),VAt w (VEp 32 4 (Vq 3 (cv L j).2)),Vq 3 ((cv L j).2),VAt w (VEp 32 4 (Vq 3 (bxH P).2)),Vq 3 ((bxH P).2),Vi (cmpQ ((cv L j).2) ((bxH P).2)),Vb true,Vb true,Vb true] [] [(5,VAt w (VSv 3 P)),(6,VAt w (VEp 32 8 (Vv 3 (bxL P).1 (bxL P).2))),(7,VAt w (VEp 32 8 (Vv 3 (bxH P).1 (bxH P).2))),(8,VAt w (VSv 3 L)),(10,Vb cb),(11,Vi j),(67,Vb true),(12,Vi x),(13,Vb true)] st11 ⟨ks,ks,(kr2 76 77 fun _ _ _ _ _ x0 X0 _ x1 X1=>index_SvA (a:=(cv L j)) rfl x0 X0 x1 X1 hgj),(kr1 78 fun _ _ _ _ _ x0 X0=>field_Ep0 rfl x0 X0),(kr1 79 fun _ _ _ h _ x0 X0=>load_EpF rfl x0 X0 h.k.below),(by refine kr fun _ ac Y h D=>?_;obtain⟨v0,x0,X0⟩:=h.ot 6;exact field_Ep0 rfl x0 X0),(kr1 81 fun _ _ _ h _ x0 X0=>load_EpF rfl x0 X0 h.k.below),(kd2 fun _ _ _ _ _ X0 _ X1=>cQCompare X0 X1),(kr1 83 fun _ _ _ _ _ x0 X0=>⟨_,run_geqi rfl (x0.trans X0) rfl,congrArg Value.bool (dT hc0)⟩),ks,ks,ks,(kr2 86 87 fun _ _ _ _ _ x0 X0 _ x1 X1=>index_SvA (a:=(cv L j)) rfl x0 X0 x1 X1 hgj),(kr1 88 fun _ _ _ _ _ x0 X0=>field_Ep0 rfl x0 X0),(kr1 89 fun _ _ _ h _ x0 X0=>load_EpF rfl x0 X0 h.k.below),(by refine kr fun _ ac Y h D=>?_;obtain⟨v0,x0,X0⟩:=h.ot 7;exact field_Ep0 rfl x0 X0),(kr1 91 fun _ _ _ h _ x0 X0=>load_EpF rfl x0 X0 h.k.below),(kd2 fun _ _ _ _ _ X0 _ X1=>cQCompare X0 X1),(kr1 93 fun _ _ _ _ _ x0 X0=>⟨_,run_leqi rfl (x0.trans X0) rfl,congrArg Value.bool (dT hc1)⟩),ks,ks,ks,ks,(kr2 97 98 fun _ _ _ _ _ x0 X0 _ x1 X1=>index_SvA (a:=(cv L j)) rfl x0 X0 x1 X1 hgj),(kr1 99 fun _ _ _ _ _ x0 X0=>field_Ep1 rfl x0 X0),(kr1 100 fun _ _ _ h _ x0 X0=>load_EpF rfl x0 X0 h.k.below),(by refine kr fun _ ac Y h D=>?_;obtain⟨v0,x0,X0⟩:=h.ot 6;exact field_Ep1 rfl x0 X0),(kr1 102 fun _ _ _ h _ x0 X0=>load_EpF rfl x0 X0 h.k.below),(kd2 fun _ _ _ _ _ X0 _ X1=>cQCompare X0 X1),(kr1 104 fun _ _ _ _ _ x0 X0=>⟨_,run_geqi rfl (x0.trans X0) rfl,congrArg Value.bool (dT hc2)⟩),ks,ks,ks,ks,(kr2 108 109 fun _ _ _ _ _ x0 X0 _ x1 X1=>index_SvA (a:=(cv L j)) rfl x0 X0 x1 X1 hgj),(kr1 110 fun _ _ _ _ _ x0 X0=>field_Ep1 rfl x0 X0),(kr1 111 fun _ _ _ h _ x0 X0=>load_EpF rfl x0 X0 h.k.below),(by refine kr fun _ ac Y h D=>?_;obtain⟨v0,x0,X0⟩:=h.ot 7;exact field_Ep1 rfl x0 X0),(kr1 113 fun _ _ _ h _ x0 X0=>load_EpF rfl x0 X0 h.k.below),(kd2 fun _ _ _ _ _ X0 _ X1=>cQCompare X0 X1),(kr1 115 fun _ _ _ _ _ x0 X0=>⟨_,run_leqi rfl (x0.trans X0) rfl,congrArg Value.bool (dT hc3)⟩),ks,ks,trivial⟩ ?_;intro a12 w12 st12;exact⟨rfl,true,fun _=>rfl,st12.cut⟩
       ·
        refine Wn ?_
        refine rH [(32,8,0)] [VAt w (VSv 3 L),Vi j,VAt w (VEp 32 8 (Vv 3 (cv L j).1 (cv L j).2)),VAt w (VEp 32 4 (Vq 3 (cv L j).1)),Vq 3 ((cv L j).1),VAt w (VEp 32 4 (Vq 3 (bxL P).1)),Vq 3 ((bxL P).1),Vi (cmpQ ((cv L j).1) ((bxL P).1)),Vb true,Vb true,VAt w (VSv 3 L),Vi j,VAt w (VEp 32 8 (Vv 3 (cv L j).1 (cv L j).2)),VAt w (VEp 32 4 (Vq 3 (cv L j).1)),Vq 3 ((cv L j).1),VAt w (VEp 32 4 (Vq 3 (bxH P).1)),Vq 3 ((bxH P).1),Vi (cmpQ ((cv L j).1) ((bxH P).1)),Vb true,Vb true,Vb true,VAt w (VSv 3 L),Vi j,VAt w (VEp 32 8 (Vv 3 (cv L j).1 (cv L j).2)),VAt w (VEp 32 4 (Vq 3 (cv L j).2)),Vq 3 ((cv L j).2),VAt w (VEp 32 4 (Vq 3 (bxL P).2)),Vq 3 ((bxL P).2),Vi (cmpQ ((cv L j).2) ((bxL P).2)),Vb true,Vb true,Vb true,VAt w (VSv 3 L),Vi j,VAt w (VEp 32 8 (Vv 3 (cv L j).1 (cv L j).2)),VAt w (VEp 32 4 (Vq 3 (cv L j).2)),Vq 3 ((cv L j).2),VAt w (VEp 32 4 (Vq 3 (bxH P).2)),Vq 3 ((bxH P).2),Vi (cmpQ ((cv L j).2) ((bxH P).2)),Vb false,Vb false,Vb false] [] [(5,VAt w (VSv 3 P)),(6,VAt w (VEp 32 8 (Vv 3 (bxL P).1 (bxL P).2))),(7,VAt w (VEp 32 8 (Vv 3 (bxH P).1 (bxH P).2))),(8,VAt w (VSv 3 L)),(10,Vb cb),(11,Vi j),(67,Vb true),(12,Vi x),(13,Vb false)] st11 ⟨ks,ks,(kr2 76 77 fun _ _ _ _ _ x0 X0 _ x1 X1=>index_SvA (a:=(cv L j)) rfl x0 X0 x1 X1 hgj),(kr1 78 fun _ _ _ _ _ x0 X0=>field_Ep0 rfl x0 X0),(kr1 79 fun _ _ _ h _ x0 X0=>load_EpF rfl x0 X0 h.k.below),(by refine kr fun _ ac Y h D=>?_;obtain⟨v0,x0,X0⟩:=h.ot 6;exact field_Ep0 rfl x0 X0),(kr1 81 fun _ _ _ h _ x0 X0=>load_EpF rfl x0 X0 h.k.below),(kd2 fun _ _ _ _ _ X0 _ X1=>cQCompare X0 X1),(kr1 83 fun _ _ _ _ _ x0 X0=>⟨_,run_geqi rfl (x0.trans X0) rfl,congrArg Value.bool (dT hc0)⟩),ks,ks,ks,(kr2 86 87 fun _ _ _ _ _ x0 X0 _ x1 X1=>index_SvA (a:=(cv L j)) rfl x0 X0 x1 X1 hgj),(kr1 88 fun _ _ _ _ _ x0 X0=>field_Ep0 rfl x0 X0),(kr1 89 fun _ _ _ h _ x0 X0=>load_EpF rfl x0 X0 h.k.below),(by refine kr fun _ ac Y h D=>?_;obtain⟨v0,x0,X0⟩:=h.ot 7;exact field_Ep0 rfl x0 X0),(kr1 91 fun _ _ _ h _ x0 X0=>load_EpF rfl x0 X0 h.k.below),(kd2 fun _ _ _ _ _ X0 _ X1=>cQCompare X0 X1),(kr1 93 fun _ _ _ _ _ x0 X0=>⟨_,run_leqi rfl (x0.trans X0) rfl,congrArg Value.bool (dT hc1)⟩),ks,ks,ks,ks,(kr2 97 98 fun _ _ _ _ _ x0 X0 _ x1 X1=>index_SvA (a:=(cv L j)) rfl x0 X0 x1 X1 hgj),(kr1 99 fun _ _ _ _ _ x0 X0=>field_Ep1 rfl x0 X0),(kr1 100 fun _ _ _ h _ x0 X0=>load_EpF rfl x0 X0 h.k.below),(by refine kr fun _ ac Y h D=>?_;obtain⟨v0,x0,X0⟩:=h.ot 6;exact field_Ep1 rfl x0 X0),(kr1 102 fun _ _ _ h _ x0 X0=>load_EpF rfl x0 X0 h.k.below),(kd2 fun _ _ _ _ _ X0 _ X1=>cQCompare X0 X1),(kr1 104 fun _ _ _ _ _ x0 X0=>⟨_,run_geqi rfl (x0.trans X0) rfl,congrArg Value.bool (dT hc2)⟩),ks,ks,ks,ks,(kr2 108 109 fun _ _ _ _ _ x0 X0 _ x1 X1=>index_SvA (a:=(cv L j)) rfl x0 X0 x1 X1 hgj),(kr1 110 fun _ _ _ _ _ x0 X0=>field_Ep1 rfl x0 X0),(kr1 111 fun _ _ _ h _ x0 X0=>load_EpF rfl x0 X0 h.k.below),(by refine kr fun _ ac Y h D=>?_;obtain⟨v0,x0,X0⟩:=h.ot 7;exact field_Ep1 rfl x0 X0),(kr1 113 fun _ _ _ h _ x0 X0=>load_EpF rfl x0 X0 h.k.below),(kd2 fun _ _ _ _ _ X0 _ X1=>cQCompare X0 X1),(kr1 115 fun _ _ _ _ _ x0 X0=>⟨_,run_leqi rfl (x0.trans X0) rfl,congrArg Value.bool (dF hc3)⟩),ks,ks,trivial⟩ ?_;intro a12 w12 st12;exact⟨rfl,false,fun h=>absurd (cq_le.2 (hxb h).2.2.2) hc3,st12.cut⟩
      ·
       refine Wn ?_
       refine rH [(32,8,0)] [VAt w (VSv 3 L),Vi j,VAt w (VEp 32 8 (Vv 3 (cv L j).1 (cv L j).2)),VAt w (VEp 32 4 (Vq 3 (cv L j).1)),Vq 3 ((cv L j).1),VAt w (VEp 32 4 (Vq 3 (bxL P).1)),Vq 3 ((bxL P).1),Vi (cmpQ ((cv L j).1) ((bxL P).1)),Vb true,Vb true,VAt w (VSv 3 L),Vi j,VAt w (VEp 32 8 (Vv 3 (cv L j).1 (cv L j).2)),VAt w (VEp 32 4 (Vq 3 (cv L j).1)),Vq 3 ((cv L j).1),VAt w (VEp 32 4 (Vq 3 (bxH P).1)),Vq 3 ((bxH P).1),Vi (cmpQ ((cv L j).1) ((bxH P).1)),Vb true,Vb true,Vb true,VAt w (VSv 3 L),Vi j,VAt w (VEp 32 8 (Vv 3 (cv L j).1 (cv L j).2)),VAt w (VEp 32 4 (Vq 3 (cv L j).2)),Vq 3 ((cv L j).2),VAt w (VEp 32 4 (Vq 3 (bxL P).2)),Vq 3 ((bxL P).2),Vi (cmpQ ((cv L j).2) ((bxL P).2)),Vb false,Vb false,Vb false,VT,VT,VT,VT,VT,VT,VT,VT,VT,Vb false,Vb false] [] [(5,VAt w (VSv 3 P)),(6,VAt w (VEp 32 8 (Vv 3 (bxL P).1 (bxL P).2))),(7,VAt w (VEp 32 8 (Vv 3 (bxH P).1 (bxH P).2))),(8,VAt w (VSv 3 L)),(10,Vb cb),(11,Vi j),(67,Vb true),(12,Vi x),(13,Vb false)] st11 ⟨ks,ks,(kr2 76 77 fun _ _ _ _ _ x0 X0 _ x1 X1=>index_SvA (a:=(cv L j)) rfl x0 X0 x1 X1 hgj),(kr1 78 fun _ _ _ _ _ x0 X0=>field_Ep0 rfl x0 X0),(kr1 79 fun _ _ _ h _ x0 X0=>load_EpF rfl x0 X0 h.k.below),(by refine kr fun _ ac Y h D=>?_;obtain⟨v0,x0,X0⟩:=h.ot 6;exact field_Ep0 rfl x0 X0),(kr1 81 fun _ _ _ h _ x0 X0=>load_EpF rfl x0 X0 h.k.below),(kd2 fun _ _ _ _ _ X0 _ X1=>cQCompare X0 X1),(kr1 83 fun _ _ _ _ _ x0 X0=>⟨_,run_geqi rfl (x0.trans X0) rfl,congrArg Value.bool (dT hc0)⟩),ks,ks,ks,(kr2 86 87 fun _ _ _ _ _ x0 X0 _ x1 X1=>index_SvA (a:=(cv L j)) rfl x0 X0 x1 X1 hgj),(kr1 88 fun _ _ _ _ _ x0 X0=>field_Ep0 rfl x0 X0),(kr1 89 fun _ _ _ h _ x0 X0=>load_EpF rfl x0 X0 h.k.below),(by refine kr fun _ ac Y h D=>?_;obtain⟨v0,x0,X0⟩:=h.ot 7;exact field_Ep0 rfl x0 X0),(kr1 91 fun _ _ _ h _ x0 X0=>load_EpF rfl x0 X0 h.k.below),(kd2 fun _ _ _ _ _ X0 _ X1=>cQCompare X0 X1),(kr1 93 fun _ _ _ _ _ x0 X0=>⟨_,run_leqi rfl (x0.trans X0) rfl,congrArg Value.bool (dT hc1)⟩),ks,ks,ks,ks,(kr2 97 98 fun _ _ _ _ _ x0 X0 _ x1 X1=>index_SvA (a:=(cv L j)) rfl x0 X0 x1 X1 hgj),(kr1 99 fun _ _ _ _ _ x0 X0=>field_Ep1 rfl x0 X0),(kr1 100 fun _ _ _ h _ x0 X0=>load_EpF rfl x0 X0 h.k.below),(by refine kr fun _ ac Y h D=>?_;obtain⟨v0,x0,X0⟩:=h.ot 6;exact field_Ep1 rfl x0 X0),(kr1 102 fun _ _ _ h _ x0 X0=>load_EpF rfl x0 X0 h.k.below),(kd2 fun _ _ _ _ _ X0 _ X1=>cQCompare X0 X1),(kr1 104 fun _ _ _ _ _ x0 X0=>⟨_,run_geqi rfl (x0.trans X0) rfl,congrArg Value.bool (dF hc2)⟩),ks,ks,ks,ks,?s34,?s35,?s36,?s37,?s38,ks,ks,ks,ks,trivial⟩ ?_
       case s34=>
        refine k_skip SbB.out (by kernel_rfl) fun listed ac Y h D=>⟨?_,trivial⟩
        obtain⟨u,hu,hy,hU⟩:=h.dep D 31 107 (by kernel_rfl) (by kernel_rfl);obtain rfl:u= .bool false:=hU;exact⟨31,true,false,rfl,hy,by decide⟩
       case s35=>
        refine k_skip SbB.out (by kernel_rfl) fun listed ac Y h D=>⟨?_,trivial⟩
        obtain⟨u,hu,hy,hU⟩:=h.dep D 31 107 (by kernel_rfl) (by kernel_rfl);obtain rfl:u= .bool false:=hU;exact⟨31,true,false,rfl,hy,by decide⟩
       case s36=>
        refine k_skip SbB.out (by kernel_rfl) fun listed ac Y h D=>⟨?_,trivial⟩
        obtain⟨u,hu,hy,hU⟩:=h.dep D 31 107 (by kernel_rfl) (by kernel_rfl);obtain rfl:u= .bool false:=hU;exact⟨31,true,false,rfl,hy,by decide⟩
       case s37=>
        refine k_skip SbB.out (by kernel_rfl) fun listed ac Y h D=>⟨?_,trivial⟩
        obtain⟨u,hu,hy,hU⟩:=h.dep D 31 107 (by kernel_rfl) (by kernel_rfl);obtain rfl:u= .bool false:=hU;exact⟨31,true,false,rfl,hy,by decide⟩
       case s38=>
        refine k_skip SbB.out (by kernel_rfl) fun listed ac Y h D=>⟨?_,trivial⟩
        obtain⟨u,hu,hy,hU⟩:=h.dep D 31 107 (by kernel_rfl) (by kernel_rfl);obtain rfl:u= .bool false:=hU;exact⟨31,true,false,rfl,hy,by decide⟩
       intro a12 w12 st12;exact⟨rfl,false,fun h=>absurd (cq_ge.2 (hxb h).2.1) hc2,st12.cut⟩
     ·
      refine Wn ?_
      refine rH [(32,8,0)] [VAt w (VSv 3 L),Vi j,VAt w (VEp 32 8 (Vv 3 (cv L j).1 (cv L j).2)),VAt w (VEp 32 4 (Vq 3 (cv L j).1)),Vq 3 ((cv L j).1),VAt w (VEp 32 4 (Vq 3 (bxL P).1)),Vq 3 ((bxL P).1),Vi (cmpQ ((cv L j).1) ((bxL P).1)),Vb true,Vb true,VAt w (VSv 3 L),Vi j,VAt w (VEp 32 8 (Vv 3 (cv L j).1 (cv L j).2)),VAt w (VEp 32 4 (Vq 3 (cv L j).1)),Vq 3 ((cv L j).1),VAt w (VEp 32 4 (Vq 3 (bxH P).1)),Vq 3 ((bxH P).1),Vi (cmpQ ((cv L j).1) ((bxH P).1)),Vb false,Vb false,Vb false,VT,VT,VT,VT,VT,VT,VT,VT,VT,Vb false,Vb false,VT,VT,VT,VT,VT,VT,VT,VT,VT,Vb false,Vb false] [] [(5,VAt w (VSv 3 P)),(6,VAt w (VEp 32 8 (Vv 3 (bxL P).1 (bxL P).2))),(7,VAt w (VEp 32 8 (Vv 3 (bxH P).1 (bxH P).2))),(8,VAt w (VSv 3 L)),(10,Vb cb),(11,Vi j),(67,Vb true),(12,Vi x),(13,Vb false)] st11 ⟨ks,ks,(kr2 76 77 fun _ _ _ _ _ x0 X0 _ x1 X1=>index_SvA (a:=(cv L j)) rfl x0 X0 x1 X1 hgj),(kr1 78 fun _ _ _ _ _ x0 X0=>field_Ep0 rfl x0 X0),(kr1 79 fun _ _ _ h _ x0 X0=>load_EpF rfl x0 X0 h.k.below),(by refine kr fun _ ac Y h D=>?_;obtain⟨v0,x0,X0⟩:=h.ot 6;exact field_Ep0 rfl x0 X0),(kr1 81 fun _ _ _ h _ x0 X0=>load_EpF rfl x0 X0 h.k.below),(kd2 fun _ _ _ _ _ X0 _ X1=>cQCompare X0 X1),(kr1 83 fun _ _ _ _ _ x0 X0=>⟨_,run_geqi rfl (x0.trans X0) rfl,congrArg Value.bool (dT hc0)⟩),ks,ks,ks,(kr2 86 87 fun _ _ _ _ _ x0 X0 _ x1 X1=>index_SvA (a:=(cv L j)) rfl x0 X0 x1 X1 hgj),(kr1 88 fun _ _ _ _ _ x0 X0=>field_Ep0 rfl x0 X0),(kr1 89 fun _ _ _ h _ x0 X0=>load_EpF rfl x0 X0 h.k.below),(by refine kr fun _ ac Y h D=>?_;obtain⟨v0,x0,X0⟩:=h.ot 7;exact field_Ep0 rfl x0 X0),(kr1 91 fun _ _ _ h _ x0 X0=>load_EpF rfl x0 X0 h.k.below),(kd2 fun _ _ _ _ _ X0 _ X1=>cQCompare X0 X1),(kr1 93 fun _ _ _ _ _ x0 X0=>⟨_,run_leqi rfl (x0.trans X0) rfl,congrArg Value.bool (dF hc1)⟩),ks,ks,ks,ks,?s23,?s24,?s25,?s26,?s27,ks,ks,ks,ks,ks,ks,?s34,?s35,?s36,?s37,?s38,ks,ks,ks,ks,trivial⟩ ?_
      case s23=>
       refine k_skip SbB.out (by kernel_rfl) fun listed ac Y h D=>⟨?_,trivial⟩
       obtain⟨u,hu,hy,hU⟩:=h.dep D 20 96 (by kernel_rfl) (by kernel_rfl);obtain rfl:u= .bool false:=hU;exact⟨20,true,false,rfl,hy,by decide⟩
      case s24=>
       refine k_skip SbB.out (by kernel_rfl) fun listed ac Y h D=>⟨?_,trivial⟩
       obtain⟨u,hu,hy,hU⟩:=h.dep D 20 96 (by kernel_rfl) (by kernel_rfl);obtain rfl:u= .bool false:=hU;exact⟨20,true,false,rfl,hy,by decide⟩
      case s25=>
       refine k_skip SbB.out (by kernel_rfl) fun listed ac Y h D=>⟨?_,trivial⟩
       obtain⟨u,hu,hy,hU⟩:=h.dep D 20 96 (by kernel_rfl) (by kernel_rfl);obtain rfl:u= .bool false:=hU;exact⟨20,true,false,rfl,hy,by decide⟩
      case s26=>
       refine k_skip SbB.out (by kernel_rfl) fun listed ac Y h D=>⟨?_,trivial⟩
       obtain⟨u,hu,hy,hU⟩:=h.dep D 20 96 (by kernel_rfl) (by kernel_rfl);obtain rfl:u= .bool false:=hU;exact⟨20,true,false,rfl,hy,by decide⟩
      case s27=>
       refine k_skip SbB.out (by kernel_rfl) fun listed ac Y h D=>⟨?_,trivial⟩
       obtain⟨u,hu,hy,hU⟩:=h.dep D 20 96 (by kernel_rfl) (by kernel_rfl);obtain rfl:u= .bool false:=hU;exact⟨20,true,false,rfl,hy,by decide⟩
      case s34=>
       refine k_skip SbB.out (by kernel_rfl) fun listed ac Y h D=>⟨?_,trivial⟩
       obtain⟨u,hu,hy,hU⟩:=h.dep D 31 107 (by kernel_rfl) (by kernel_rfl);obtain rfl:u= .bool false:=hU;exact⟨31,true,false,rfl,hy,by decide⟩
      case s35=>
       refine k_skip SbB.out (by kernel_rfl) fun listed ac Y h D=>⟨?_,trivial⟩
       obtain⟨u,hu,hy,hU⟩:=h.dep D 31 107 (by kernel_rfl) (by kernel_rfl);obtain rfl:u= .bool false:=hU;exact⟨31,true,false,rfl,hy,by decide⟩
      case s36=>
       refine k_skip SbB.out (by kernel_rfl) fun listed ac Y h D=>⟨?_,trivial⟩
       obtain⟨u,hu,hy,hU⟩:=h.dep D 31 107 (by kernel_rfl) (by kernel_rfl);obtain rfl:u= .bool false:=hU;exact⟨31,true,false,rfl,hy,by decide⟩
      case s37=>
       refine k_skip SbB.out (by kernel_rfl) fun listed ac Y h D=>⟨?_,trivial⟩
       obtain⟨u,hu,hy,hU⟩:=h.dep D 31 107 (by kernel_rfl) (by kernel_rfl);obtain rfl:u= .bool false:=hU;exact⟨31,true,false,rfl,hy,by decide⟩
      case s38=>
       refine k_skip SbB.out (by kernel_rfl) fun listed ac Y h D=>⟨?_,trivial⟩
       obtain⟨u,hu,hy,hU⟩:=h.dep D 31 107 (by kernel_rfl) (by kernel_rfl);obtain rfl:u= .bool false:=hU;exact⟨31,true,false,rfl,hy,by decide⟩
      intro a12 w12 st12;exact⟨rfl,false,fun h=>absurd (cq_le.2 (hxb h).2.2.1) hc1,st12.cut⟩
    ·
     refine Wn ?_
     refine rH [(32,8,0)] [VAt w (VSv 3 L),Vi j,VAt w (VEp 32 8 (Vv 3 (cv L j).1 (cv L j).2)),VAt w (VEp 32 4 (Vq 3 (cv L j).1)),Vq 3 ((cv L j).1),VAt w (VEp 32 4 (Vq 3 (bxL P).1)),Vq 3 ((bxL P).1),Vi (cmpQ ((cv L j).1) ((bxL P).1)),Vb false,Vb false,VT,VT,VT,VT,VT,VT,VT,VT,VT,Vb false,Vb false,VT,VT,VT,VT,VT,VT,VT,VT,VT,Vb false,Vb false,VT,VT,VT,VT,VT,VT,VT,VT,VT,Vb false,Vb false] [] [(5,VAt w (VSv 3 P)),(6,VAt w (VEp 32 8 (Vv 3 (bxL P).1 (bxL P).2))),(7,VAt w (VEp 32 8 (Vv 3 (bxH P).1 (bxH P).2))),(8,VAt w (VSv 3 L)),(10,Vb cb),(11,Vi j),(67,Vb true),(12,Vi x),(13,Vb false)] st11 ⟨ks,ks,(kr2 76 77 fun _ _ _ _ _ x0 X0 _ x1 X1=>index_SvA (a:=(cv L j)) rfl x0 X0 x1 X1 hgj),(kr1 78 fun _ _ _ _ _ x0 X0=>field_Ep0 rfl x0 X0),(kr1 79 fun _ _ _ h _ x0 X0=>load_EpF rfl x0 X0 h.k.below),(by refine kr fun _ ac Y h D=>?_;obtain⟨v0,x0,X0⟩:=h.ot 6;exact field_Ep0 rfl x0 X0),(kr1 81 fun _ _ _ h _ x0 X0=>load_EpF rfl x0 X0 h.k.below),(kd2 fun _ _ _ _ _ X0 _ X1=>cQCompare X0 X1),(kr1 83 fun _ _ _ _ _ x0 X0=>⟨_,run_geqi rfl (x0.trans X0) rfl,congrArg Value.bool (dF hc0)⟩),ks,ks,ks,?s12,?s13,?s14,?s15,?s16,ks,ks,ks,ks,ks,ks,?s23,?s24,?s25,?s26,?s27,ks,ks,ks,ks,ks,ks,?s34,?s35,?s36,?s37,?s38,ks,ks,ks,ks,trivial⟩ ?_
     case s12=>
      refine k_skip SbB.out (by kernel_rfl) fun listed ac Y h D=>⟨?_,trivial⟩
      obtain⟨u,hu,hy,hU⟩:=h.dep D 9 85 (by kernel_rfl) (by kernel_rfl);obtain rfl:u= .bool false:=hU;exact⟨9,true,false,rfl,hy,by decide⟩
     case s13=>
      refine k_skip SbB.out (by kernel_rfl) fun listed ac Y h D=>⟨?_,trivial⟩
      obtain⟨u,hu,hy,hU⟩:=h.dep D 9 85 (by kernel_rfl) (by kernel_rfl);obtain rfl:u= .bool false:=hU;exact⟨9,true,false,rfl,hy,by decide⟩
     case s14=>
      refine k_skip SbB.out (by kernel_rfl) fun listed ac Y h D=>⟨?_,trivial⟩
      obtain⟨u,hu,hy,hU⟩:=h.dep D 9 85 (by kernel_rfl) (by kernel_rfl);obtain rfl:u= .bool false:=hU;exact⟨9,true,false,rfl,hy,by decide⟩
     case s15=>
      refine k_skip SbB.out (by kernel_rfl) fun listed ac Y h D=>⟨?_,trivial⟩
      obtain⟨u,hu,hy,hU⟩:=h.dep D 9 85 (by kernel_rfl) (by kernel_rfl);obtain rfl:u= .bool false:=hU;exact⟨9,true,false,rfl,hy,by decide⟩
     case s16=>
      refine k_skip SbB.out (by kernel_rfl) fun listed ac Y h D=>⟨?_,trivial⟩
      obtain⟨u,hu,hy,hU⟩:=h.dep D 9 85 (by kernel_rfl) (by kernel_rfl);obtain rfl:u= .bool false:=hU;exact⟨9,true,false,rfl,hy,by decide⟩
     case s23=>
      refine k_skip SbB.out (by kernel_rfl) fun listed ac Y h D=>⟨?_,trivial⟩
      obtain⟨u,hu,hy,hU⟩:=h.dep D 20 96 (by kernel_rfl) (by kernel_rfl);obtain rfl:u= .bool false:=hU;exact⟨20,true,false,rfl,hy,by decide⟩
     case s24=>
      refine k_skip SbB.out (by kernel_rfl) fun listed ac Y h D=>⟨?_,trivial⟩
      obtain⟨u,hu,hy,hU⟩:=h.dep D 20 96 (by kernel_rfl) (by kernel_rfl);obtain rfl:u= .bool false:=hU;exact⟨20,true,false,rfl,hy,by decide⟩
     case s25=>
      refine k_skip SbB.out (by kernel_rfl) fun listed ac Y h D=>⟨?_,trivial⟩
      obtain⟨u,hu,hy,hU⟩:=h.dep D 20 96 (by kernel_rfl) (by kernel_rfl);obtain rfl:u= .bool false:=hU;exact⟨20,true,false,rfl,hy,by decide⟩
     case s26=>
      refine k_skip SbB.out (by kernel_rfl) fun listed ac Y h D=>⟨?_,trivial⟩
      obtain⟨u,hu,hy,hU⟩:=h.dep D 20 96 (by kernel_rfl) (by kernel_rfl);obtain rfl:u= .bool false:=hU;exact⟨20,true,false,rfl,hy,by decide⟩
     case s27=>
      refine k_skip SbB.out (by kernel_rfl) fun listed ac Y h D=>⟨?_,trivial⟩
      obtain⟨u,hu,hy,hU⟩:=h.dep D 20 96 (by kernel_rfl) (by kernel_rfl);obtain rfl:u= .bool false:=hU;exact⟨20,true,false,rfl,hy,by decide⟩
     case s34=>
      refine k_skip SbB.out (by kernel_rfl) fun listed ac Y h D=>⟨?_,trivial⟩
      obtain⟨u,hu,hy,hU⟩:=h.dep D 31 107 (by kernel_rfl) (by kernel_rfl);obtain rfl:u= .bool false:=hU;exact⟨31,true,false,rfl,hy,by decide⟩
     case s35=>
      refine k_skip SbB.out (by kernel_rfl) fun listed ac Y h D=>⟨?_,trivial⟩
      obtain⟨u,hu,hy,hU⟩:=h.dep D 31 107 (by kernel_rfl) (by kernel_rfl);obtain rfl:u= .bool false:=hU;exact⟨31,true,false,rfl,hy,by decide⟩
     case s36=>
      refine k_skip SbB.out (by kernel_rfl) fun listed ac Y h D=>⟨?_,trivial⟩
      obtain⟨u,hu,hy,hU⟩:=h.dep D 31 107 (by kernel_rfl) (by kernel_rfl);obtain rfl:u= .bool false:=hU;exact⟨31,true,false,rfl,hy,by decide⟩
     case s37=>
      refine k_skip SbB.out (by kernel_rfl) fun listed ac Y h D=>⟨?_,trivial⟩
      obtain⟨u,hu,hy,hU⟩:=h.dep D 31 107 (by kernel_rfl) (by kernel_rfl);obtain rfl:u= .bool false:=hU;exact⟨31,true,false,rfl,hy,by decide⟩
     case s38=>
      refine k_skip SbB.out (by kernel_rfl) fun listed ac Y h D=>⟨?_,trivial⟩
      obtain⟨u,hu,hy,hU⟩:=h.dep D 31 107 (by kernel_rfl) (by kernel_rfl);obtain rfl:u= .bool false:=hU;exact⟨31,true,false,rfl,hy,by decide⟩
     intro a12 w12 st12;exact⟨rfl,false,fun h=>absurd (cq_ge.2 (hxb h).1) hc0,st12.cut⟩
   rintro _ a12x w12x ⟨rfl,inb,hin,st12⟩
   clear st11;refine Wn ?_
   refine wp_mono' (Q:=fun e aX wX=>e= .normal/\St w.heap.size w 195 [] [(5,VAt w (VSv 3 P)),(6,VAt w (VEp 32 8 (Vv 3 (bxL P).1 (bxL P).2))),(7,VAt w (VEp 32 8 (Vv 3 (bxH P).1 (bxH P).2))),(8,VAt w (VSv 3 L)),(10,Vb cb),(11,Vi j),(12,Vi x),(123,Vb false)] aX wX) ?r17 ?_
   case r17=>
    by_cases hx0:0<=x
    ·
     obtain rfl:=hin hx0;refine Wn ?_
     refine rH [(32,8,0)] [Vi x,Vb true,Vb true,Vb true,Vb false,Vb false] [] [(5,VAt w (VSv 3 P)),(6,VAt w (VEp 32 8 (Vv 3 (bxL P).1 (bxL P).2))),(7,VAt w (VEp 32 8 (Vv 3 (bxH P).1 (bxH P).2))),(8,VAt w (VSv 3 L)),(10,Vb cb),(11,Vi j),(12,Vi x),(13,Vb true),(123,Vb false)] st12 ⟨ks,(kr1 118 fun _ _ _ _ _ x0 X0=>⟨_,run_geqi rfl (x0.trans X0) rfl,congrArg Value.bool (dT hx0)⟩),ks,ks,ks,ks,trivial⟩ ?_;intro a13 w13 st13;exact⟨rfl,st13.cut⟩
    ·
     refine Wn ?_
     refine rH [(32,8,0)] [Vi x,Vb false,Vb false,VT,VT,Vb false] [] [(5,VAt w (VSv 3 P)),(6,VAt w (VEp 32 8 (Vv 3 (bxL P).1 (bxL P).2))),(7,VAt w (VEp 32 8 (Vv 3 (bxH P).1 (bxH P).2))),(8,VAt w (VSv 3 L)),(10,Vb cb),(11,Vi j),(12,Vi x),(13,Vb inb),(123,Vb false)] st12 ⟨ks,(kr1 118 fun _ _ _ _ _ x0 X0=>⟨_,run_geqi rfl (x0.trans X0) rfl,congrArg Value.bool (dF hx0)⟩),ks,ks,ks,ks,trivial⟩ ?_;intro a13 w13 st13;exact⟨rfl,st13.cut⟩
   rintro _ a13x w13x ⟨rfl,st13⟩
   clear st12;refine Wn ?_
   refine cF st13 ?_;refine Wn ?_
   refine rH [(32,8,0)] [Vi 0] [] [(5,VAt w (VSv 3 P)),(6,VAt w (VEp 32 8 (Vv 3 (bxL P).1 (bxL P).2))),(7,VAt w (VEp 32 8 (Vv 3 (bxH P).1 (bxH P).2))),(8,VAt w (VSv 3 L)),(10,Vb cb),(11,Vi j),(12,Vi x),(123,Vb false),(14,Vi 0)] st13 ⟨ks,trivial⟩ ?_;intro a14 w14 st14;replace st14:St w.heap.size w 195 [] [(5,VAt w (VSv 3 P)),(6,VAt w (VEp 32 8 (Vv 3 (bxL P).1 (bxL P).2))),(7,VAt w (VEp 32 8 (Vv 3 (bxH P).1 (bxH P).2))),(8,VAt w (VSv 3 L)),(10,Vb cb),(11,Vi j),(12,Vi x),(14,Vi ((0:Nat):Int))] a14 w14:=st14.cut;refine Wn ?_
   refine wp_loop_ghost (fun m2 aX wX=>∃t:Nat,t+m2=j/\St w.heap.size w 195 [] [(5,VAt w (VSv 3 P)),(6,VAt w (VEp 32 8 (Vv 3 (bxL P).1 (bxL P).2))),(7,VAt w (VEp 32 8 (Vv 3 (bxH P).1 (bxH P).2))),(8,VAt w (VSv 3 L)),(10,Vb cb),(11,Vi j),(12,Vi x),(14,Vi t)] aX wX) j ⟨0,by omega,st14⟩ ?_;intro m2 aLt wLt ⟨t,ht,st14⟩;by_cases htj:t<j
   ·
    by_cases ht5:t<5
    ·
     refine Wn ?_
     refine rH [(32,8,0)] [Vi t,Vi j,Vb true,Vb true,Vi t,Vb true,Vb true] [] [(5,VAt w (VSv 3 P)),(6,VAt w (VEp 32 8 (Vv 3 (bxL P).1 (bxL P).2))),(7,VAt w (VEp 32 8 (Vv 3 (bxH P).1 (bxH P).2))),(8,VAt w (VSv 3 L)),(10,Vb cb),(11,Vi j),(12,Vi x),(14,Vi t),(130,Vb true)] st14 ⟨ks,ks,(kr2 124 125 fun _ _ _ _ _ x0 X0 _ x1 X1=>⟨_,run_lssi rfl (x0.trans X0) (x1.trans X1),congrArg Value.bool (dT (by omega))⟩),ks,ks,(kr1 128 fun _ _ _ _ _ x0 X0=>⟨_,run_lssi rfl (x0.trans X0) rfl,congrArg Value.bool (dT (by omega))⟩),ks,trivial⟩ fun a15 w15 st15=>Wn ?_
     refine cT st15 ?_;have hgt:L[t]? =some (cv L t):=cv_gets (by omega);obtain⟨y,hy⟩:∃y,hasI P (cv L t)=y:=⟨_,rfl⟩;have hy3:y=0∨y=1∨y= -1:=hy ▸ hasI_three _;refine Wn ?_
     refine rH [(32,8,0)] [VAt w (VSv 3 P),VAt w (VSv 3 L),Vi t,VAt w (VEp 32 8 (Vv 3 (cv L t).1 (cv L t).2)),Vv 3 ((cv L t).1) ((cv L t).2),Vi y,Vi y] [] [(5,VAt w (VSv 3 P)),(6,VAt w (VEp 32 8 (Vv 3 (bxL P).1 (bxL P).2))),(7,VAt w (VEp 32 8 (Vv 3 (bxH P).1 (bxH P).2))),(8,VAt w (VSv 3 L)),(10,Vb cb),(11,Vi j),(12,Vi x),(14,Vi t),(130,Vb true),(15,Vi y)] st15 ⟨ks,ks,ks,(kr2 134 135 fun _ _ _ _ _ x0 X0 _ x1 X1=>index_SvA (a:=(cv L t)) rfl x0 X0 x1 X1 hgt),(kr1 136 fun _ _ _ h _ x0 X0=>load_EpC (w:=w) (k:=8) (A:=Vv 3 (cv L t).1 (cv L t).2) (Stab_Vv _ _ _) rfl x0 X0 h.k.below Tryz.underlying32 rfl size_Vec),(kd2 fun _ _ _ h _ X0 _ X1=>hy ▸ cHas (p:=cv L t) X1 (VSv_later X0 h.k.below)),ks,trivial⟩ fun a16 w16 st16=>Wn ?_
     refine wp_mono' (Q:=fun e aX wX=>e= .normal/\St w.heap.size w 195 [] [(5,VAt w (VSv 3 P)),(6,VAt w (VEp 32 8 (Vv 3 (bxL P).1 (bxL P).2))),(7,VAt w (VEp 32 8 (Vv 3 (bxH P).1 (bxH P).2))),(8,VAt w (VSv 3 L)),(10,Vb cb),(11,Vi j),(12,Vi x),(14,Vi t),(15,Vi y),(161,Vb false)] aX wX) ?r23 ?_
     case r23=>
      cases cb with
      |true=>
       by_cases hx0:0<=x
       ·
        by_cases hy0:0<=y
        ·
         have hmd:=(hC hcb).mid (p:=cv L j) (q:=cv L t) (by rw [hx];exact hx0) (by rw [hy];exact hy0);refine Wn ?_
         refine rH [(32,8,0)] [Vb true,Vb true,Vi x,Vb true,Vb true,Vb true,Vi y,Vb true,Vb true,Vb true,VAt w (VSv 3 P),VAt w (VSv 3 L),Vi j,VAt w (VEp 32 8 (Vv 3 (cv L j).1 (cv L j).2)),Vv 3 ((cv L j).1) ((cv L j).2),VAt w (VSv 3 L),Vi t,VAt w (VEp 32 8 (Vv 3 (cv L t).1 (cv L t).2)),Vv 3 ((cv L t).1) ((cv L t).2),Vv (4*3+2) ((mid2 (cv L j) (cv L t)).1) ((mid2 (cv L j) (cv L t)).2),Vi (hasI P (mid2 (cv L j) (cv L t))),Vb false,Vb false] [] [(5,VAt w (VSv 3 P)),(6,VAt w (VEp 32 8 (Vv 3 (bxL P).1 (bxL P).2))),(7,VAt w (VEp 32 8 (Vv 3 (bxH P).1 (bxH P).2))),(8,VAt w (VSv 3 L)),(10,Vb true),(11,Vi j),(12,Vi x),(14,Vi t),(130,Vb true),(15,Vi y),(161,Vb false)] st16 ⟨ks,ks,ks,(kr1 141 fun _ _ _ _ _ x0 X0=>⟨_,run_geqi rfl (x0.trans X0) rfl,congrArg Value.bool (dT hx0)⟩),ks,ks,ks,(kr1 145 fun _ _ _ _ _ x0 X0=>⟨_,run_geqi rfl (x0.trans X0) rfl,congrArg Value.bool (dT hy0)⟩),ks,ks,ks,ks,ks,(kr2 150 151 fun _ _ _ _ _ x0 X0 _ x1 X1=>index_SvA (a:=(cv L j)) rfl x0 X0 x1 X1 hgj),(kr1 152 fun _ _ _ h _ x0 X0=>load_EpC (w:=w) (k:=8) (A:=Vv 3 (cv L j).1 (cv L j).2) (Stab_Vv _ _ _) rfl x0 X0 h.k.below Tryz.underlying32 rfl size_Vec),ks,ks,(kr2 154 155 fun _ _ _ _ _ x0 X0 _ x1 X1=>index_SvA (a:=(cv L t)) rfl x0 X0 x1 X1 hgt),(kr1 156 fun _ _ _ h _ x0 X0=>load_EpC (w:=w) (k:=8) (A:=Vv 3 (cv L t).1 (cv L t).2) (Stab_Vv _ _ _) rfl x0 X0 h.k.below Tryz.underlying32 rfl size_Vec),(kd2 fun _ _ _ _ _ X0 _ X1=>cR6Middle X0 X1),(kd2 fun _ _ _ h _ X0 _ X1=>cHas (N:=4*3+2) (p:=(mid2 (cv L j) (cv L t))) X1 (VSv_le (VSv_later X0 h.k.below) (by omega))),(kr1 159 fun _ _ _ _ _ x0 X0=>⟨_,run_lssi rfl (x0.trans X0) rfl,congrArg Value.bool (dF (by omega))⟩),ks,trivial⟩ ?_;intro a17 w17 st17;exact⟨rfl,st17.cut⟩
        ·
         refine Wn ?_
         refine rH [(32,8,0)] [Vb true,Vb true,Vi x,Vb true,Vb true,Vb true,Vi y,Vb false,Vb false,Vb false,VT,VT,VT,VT,VT,VT,VT,VT,VT,VT,VT,VT,Vb false] [] [(5,VAt w (VSv 3 P)),(6,VAt w (VEp 32 8 (Vv 3 (bxL P).1 (bxL P).2))),(7,VAt w (VEp 32 8 (Vv 3 (bxH P).1 (bxH P).2))),(8,VAt w (VSv 3 L)),(10,Vb true),(11,Vi j),(12,Vi x),(14,Vi t),(130,Vb true),(15,Vi y),(161,Vb false)] st16 ⟨ks,ks,ks,(kr1 141 fun _ _ _ _ _ x0 X0=>⟨_,run_geqi rfl (x0.trans X0) rfl,congrArg Value.bool (dT hx0)⟩),ks,ks,ks,(kr1 145 fun _ _ _ _ _ x0 X0=>⟨_,run_geqi rfl (x0.trans X0) rfl,congrArg Value.bool (dF hy0)⟩),ks,ks,ks,ks,ks,ks,ks,ks,ks,ks,ks,ks,ks,ks,ks,trivial⟩ ?_;intro a17 w17 st17;exact⟨rfl,st17.cut⟩
       ·
        refine Wn ?_
        refine rH [(32,8,0)] [Vb true,Vb true,Vi x,Vb false,Vb false,Vb false,VT,VT,Vb false,Vb false,VT,VT,VT,VT,VT,VT,VT,VT,VT,VT,VT,VT,Vb false] [] [(5,VAt w (VSv 3 P)),(6,VAt w (VEp 32 8 (Vv 3 (bxL P).1 (bxL P).2))),(7,VAt w (VEp 32 8 (Vv 3 (bxH P).1 (bxH P).2))),(8,VAt w (VSv 3 L)),(10,Vb true),(11,Vi j),(12,Vi x),(14,Vi t),(130,Vb true),(15,Vi y),(161,Vb false)] st16 ⟨ks,ks,ks,(kr1 141 fun _ _ _ _ _ x0 X0=>⟨_,run_geqi rfl (x0.trans X0) rfl,congrArg Value.bool (dF hx0)⟩),ks,ks,ks,ks,ks,ks,ks,ks,ks,ks,ks,ks,ks,ks,ks,ks,ks,ks,ks,trivial⟩ ?_;intro a17 w17 st17;exact⟨rfl,st17.cut⟩
      |false=>
       refine Wn ?_
       refine rH [(32,8,0)] [Vb false,Vb false,VT,VT,Vb false,Vb false,VT,VT,Vb false,Vb false,VT,VT,VT,VT,VT,VT,VT,VT,VT,VT,VT,VT,Vb false] [] [(5,VAt w (VSv 3 P)),(6,VAt w (VEp 32 8 (Vv 3 (bxL P).1 (bxL P).2))),(7,VAt w (VEp 32 8 (Vv 3 (bxH P).1 (bxH P).2))),(8,VAt w (VSv 3 L)),(10,Vb false),(11,Vi j),(12,Vi x),(14,Vi t),(130,Vb true),(15,Vi y),(161,Vb false)] st16 ⟨ks,ks,ks,ks,ks,ks,ks,ks,ks,ks,ks,ks,ks,ks,ks,ks,ks,ks,ks,ks,ks,ks,ks,trivial⟩ ?_;intro a17 w17 st17;exact⟨rfl,st17.cut⟩
     rintro _ a17x w17x ⟨rfl,st17⟩
     clear st16;refine Wn ?_
     refine cF st17 ?_;have hxy: -1<=x*y/\x*y<=1:=by rcases hx3 with h|h|h<;>rcases hy3 with h2|h2|h2<;>rw [h,h2]<;>decide
     by_cases hge:0<=x*y
     ·
      refine Wn ?_
      refine rH [(32,8,0)] [Vi x,Vi y,Vi (x*y),Vb true] [] [(5,VAt w (VSv 3 P)),(6,VAt w (VEp 32 8 (Vv 3 (bxL P).1 (bxL P).2))),(7,VAt w (VEp 32 8 (Vv 3 (bxH P).1 (bxH P).2))),(8,VAt w (VSv 3 L)),(10,Vb cb),(11,Vi j),(12,Vi x),(14,Vi t),(15,Vi y),(161,Vb false),(165,Vb true)] st17 ⟨ks,ks,(kr2 162 163 fun _ _ _ _ _ x0 X0 _ x1 X1=>⟨_,run_muli rfl (x0.trans X0) (x1.trans X1) wO,rfl⟩),(kr1 164 fun _ _ _ _ _ x0 X0=>⟨_,run_geqi rfl (x0.trans X0) rfl,congrArg Value.bool (dT hge)⟩),trivial⟩ fun a18 w18 st18=>Wn ?_
      refine cT st18 ?_;refine Wn ?_
      refine rH [(32,8,0)] [Vi t,Vi ((t+1:Nat):Int),Vi ((t+1:Nat):Int)] [] [(5,VAt w (VSv 3 P)),(6,VAt w (VEp 32 8 (Vv 3 (bxL P).1 (bxL P).2))),(7,VAt w (VEp 32 8 (Vv 3 (bxH P).1 (bxH P).2))),(8,VAt w (VSv 3 L)),(10,Vb cb),(11,Vi j),(12,Vi x),(15,Vi y),(161,Vb false),(165,Vb true),(14,Vi ((t+1:Nat):Int))] st18 ⟨?s0,(kr1 131 fun _ _ _ _ v0 x0 X0=>⟨_,run_addi rfl (x0.trans (show v0= .int .i64 t from X0)) rfl wO,congrArg (Value.int .i64) (by omega)⟩),ks,trivial⟩ ?_
      case s0=>
       refine k_run0 SbB.out (by kernel_rfl) fun listed ac Y h D hnl=>⟨trivial,?_⟩
       obtain⟨v0,x0,X0⟩:=h.out0 hnl (14,Vi t) (.tail _ (.tail _ (.tail _ (.tail _ (.tail _ (.tail _ (.tail _ (.head _)))))))) 2 (by kernel_rfl) (.inr (by kernel_rfl));exact⟨_,run_move rfl,by rw [x0];exact X0⟩
      intro a19 w19 st19;replace st19:St w.heap.size w 195 [] [(5,VAt w (VSv 3 P)),(6,VAt w (VEp 32 8 (Vv 3 (bxL P).1 (bxL P).2))),(7,VAt w (VEp 32 8 (Vv 3 (bxH P).1 (bxH P).2))),(8,VAt w (VSv 3 L)),(10,Vb cb),(11,Vi j),(12,Vi x),(15,Vi y),(161,Vb false),(165,Vb true),(14,Vi ((t+1:Nat):Int))] a19 w19:=st19;exact⟨m2 - 1,by omega,t+1,by omega,st19.cut⟩
     ·
      refine Wn ?_
      refine rH [(32,8,0)] [Vi x,Vi y,Vi (x*y),Vb false] [] [(5,VAt w (VSv 3 P)),(6,VAt w (VEp 32 8 (Vv 3 (bxL P).1 (bxL P).2))),(7,VAt w (VEp 32 8 (Vv 3 (bxH P).1 (bxH P).2))),(8,VAt w (VSv 3 L)),(10,Vb cb),(11,Vi j),(12,Vi x),(14,Vi t),(15,Vi y),(161,Vb false),(165,Vb false)] st17 ⟨ks,ks,(kr2 162 163 fun _ _ _ _ _ x0 X0 _ x1 X1=>⟨_,run_muli rfl (x0.trans X0) (x1.trans X1) wO,rfl⟩),(kr1 164 fun _ _ _ _ _ x0 X0=>⟨_,run_geqi rfl (x0.trans X0) rfl,congrArg Value.bool (dF hge)⟩),trivial⟩ fun a18 w18 st18=>Wn ?_
      refine cF st18 ?_;have hmeet:=seg_meets (vs:=P) (x:=cv L j) (y:=cv L t) (by rw [hx,hy];omega);refine Wn ?_
      refine rH [(32,8,0)] [Vb false] [] [(5,VAt w (VSv 3 P)),(6,VAt w (VEp 32 8 (Vv 3 (bxL P).1 (bxL P).2))),(7,VAt w (VEp 32 8 (Vv 3 (bxH P).1 (bxH P).2))),(8,VAt w (VSv 3 L)),(10,Vb cb),(11,Vi j),(12,Vi x),(14,Vi t),(15,Vi y),(161,Vb false),(165,Vb false),(16,Vb false)] st18 ⟨ks,trivial⟩ fun a19 w19 st19=>Wn ?_
      refine rH [(32,8,0)] [Vi 0] [] [(5,VAt w (VSv 3 P)),(6,VAt w (VEp 32 8 (Vv 3 (bxL P).1 (bxL P).2))),(7,VAt w (VEp 32 8 (Vv 3 (bxH P).1 (bxH P).2))),(8,VAt w (VSv 3 L)),(10,Vb cb),(11,Vi j),(12,Vi x),(14,Vi t),(15,Vi y),(161,Vb false),(165,Vb false),(16,Vb false),(17,Vi 0)] st19 ⟨ks,trivial⟩ ?_;intro a20 w20 st20;replace st20:St w.heap.size w 195 [] [(5,VAt w (VSv 3 P)),(6,VAt w (VEp 32 8 (Vv 3 (bxL P).1 (bxL P).2))),(7,VAt w (VEp 32 8 (Vv 3 (bxH P).1 (bxH P).2))),(8,VAt w (VSv 3 L)),(10,Vb cb),(11,Vi j),(12,Vi x),(14,Vi t),(16,Vb false),(17,Vi ((0:Nat):Int))] a20 w20:=st20.cut;refine Wn ?_
      refine wp_loop_ghost (fun m3 aX wX=>∃(s:Nat) (mt:Bool),s+m3=P.length/\(mt=false->∀q,q<s->mts (cv L j) (cv L t) (cv P q) (cv P (q+1))=false)/\St w.heap.size w 195 [] [(5,VAt w (VSv 3 P)),(6,VAt w (VEp 32 8 (Vv 3 (bxL P).1 (bxL P).2))),(7,VAt w (VEp 32 8 (Vv 3 (bxH P).1 (bxH P).2))),(8,VAt w (VSv 3 L)),(10,Vb cb),(11,Vi j),(12,Vi x),(14,Vi t),(16,Vb mt),(17,Vi s)] aX wX) P.length ⟨0,false,by omega,fun _ q hq=>by omega,st20⟩ ?_;intro m3 aLs wLs ⟨s,mt,hs,hmt,st20⟩;cases mt with
      |true=>
       by_cases hsl:s<P.length
       ·
        refine Wn ?_
        refine rH [(32,8,0)] [Vi s,VAt w (VSv 3 P),Vi (P.length:Int),Vb true,Vb true,Vb true,Vb false,Vb false] [] [(5,VAt w (VSv 3 P)),(6,VAt w (VEp 32 8 (Vv 3 (bxL P).1 (bxL P).2))),(7,VAt w (VEp 32 8 (Vv 3 (bxH P).1 (bxH P).2))),(8,VAt w (VSv 3 L)),(10,Vb cb),(11,Vi j),(12,Vi x),(14,Vi t),(16,Vb true),(17,Vi s),(173,Vb false)] st20 ⟨ks,ks,(kr1 167 fun _ _ _ _ _ x0 X0=>len_SvA rfl rfl x0 X0),(kr2 166 168 fun _ _ _ _ _ x0 X0 _ x1 X1=>⟨_,run_lssi rfl (x0.trans X0) (x1.trans X1),congrArg Value.bool (dT (by omega))⟩),ks,ks,ks,ks,trivial⟩ fun a21 w21 st21=>Wn ?_
        refine cF st21 ?_;refine Wn ?_
        refine rH [(32,8,0)] [Vb true,Vb false] [] [(5,VAt w (VSv 3 P)),(6,VAt w (VEp 32 8 (Vv 3 (bxL P).1 (bxL P).2))),(7,VAt w (VEp 32 8 (Vv 3 (bxH P).1 (bxH P).2))),(8,VAt w (VSv 3 L)),(10,Vb cb),(11,Vi j),(12,Vi x),(14,Vi t),(16,Vb true),(17,Vi s),(173,Vb false),(193,Vb false)] st21 ⟨ks,ks,trivial⟩ fun a22 w22 st22=>Wn ?_
        refine cF st22 ?_;refine Wn ?_
        refine rH [(32,8,0)] [Vi t,Vi ((t+1:Nat):Int),Vi ((t+1:Nat):Int)] [] [(5,VAt w (VSv 3 P)),(6,VAt w (VEp 32 8 (Vv 3 (bxL P).1 (bxL P).2))),(7,VAt w (VEp 32 8 (Vv 3 (bxH P).1 (bxH P).2))),(8,VAt w (VSv 3 L)),(10,Vb cb),(11,Vi j),(12,Vi x),(16,Vb true),(17,Vi s),(173,Vb false),(193,Vb false),(14,Vi ((t+1:Nat):Int))] st22 ⟨?s0,(kr1 131 fun _ _ _ _ v0 x0 X0=>⟨_,run_addi rfl (x0.trans (show v0= .int .i64 t from X0)) rfl wO,congrArg (Value.int .i64) (by omega)⟩),ks,trivial⟩ ?_
        case s0=>
         refine k_run0 SbB.out (by kernel_rfl) fun listed ac Y h D hnl=>⟨trivial,?_⟩
         obtain⟨v0,x0,X0⟩:=h.out0 hnl (14,Vi t) (.tail _ (.tail _ (.tail _ (.tail _ (.tail _ (.tail _ (.tail _ (.head _)))))))) 2 (by kernel_rfl) (.inr (by kernel_rfl));exact⟨_,run_move rfl,by rw [x0];exact X0⟩
        intro a23 w23 st23;replace st23:St w.heap.size w 195 [] [(5,VAt w (VSv 3 P)),(6,VAt w (VEp 32 8 (Vv 3 (bxL P).1 (bxL P).2))),(7,VAt w (VEp 32 8 (Vv 3 (bxH P).1 (bxH P).2))),(8,VAt w (VSv 3 L)),(10,Vb cb),(11,Vi j),(12,Vi x),(16,Vb true),(17,Vi s),(173,Vb false),(193,Vb false),(14,Vi ((t+1:Nat):Int))] a23 w23:=st23;exact⟨m2 - 1,by omega,t+1,by omega,st23.cut⟩
       ·
        refine Wn ?_
        refine rH [(32,8,0)] [Vi s,VAt w (VSv 3 P),Vi (P.length:Int),Vb false,Vb false,VT,VT,Vb false] [] [(5,VAt w (VSv 3 P)),(6,VAt w (VEp 32 8 (Vv 3 (bxL P).1 (bxL P).2))),(7,VAt w (VEp 32 8 (Vv 3 (bxH P).1 (bxH P).2))),(8,VAt w (VSv 3 L)),(10,Vb cb),(11,Vi j),(12,Vi x),(14,Vi t),(16,Vb true),(17,Vi s),(173,Vb false)] st20 ⟨ks,ks,(kr1 167 fun _ _ _ _ _ x0 X0=>len_SvA rfl rfl x0 X0),(kr2 166 168 fun _ _ _ _ _ x0 X0 _ x1 X1=>⟨_,run_lssi rfl (x0.trans X0) (x1.trans X1),congrArg Value.bool (dF (by omega))⟩),ks,ks,ks,ks,trivial⟩ fun a21 w21 st21=>Wn ?_
        refine cF st21 ?_;refine Wn ?_
        refine rH [(32,8,0)] [Vb true,Vb false] [] [(5,VAt w (VSv 3 P)),(6,VAt w (VEp 32 8 (Vv 3 (bxL P).1 (bxL P).2))),(7,VAt w (VEp 32 8 (Vv 3 (bxH P).1 (bxH P).2))),(8,VAt w (VSv 3 L)),(10,Vb cb),(11,Vi j),(12,Vi x),(14,Vi t),(16,Vb true),(17,Vi s),(173,Vb false),(193,Vb false)] st21 ⟨ks,ks,trivial⟩ fun a22 w22 st22=>Wn ?_
        refine cF st22 ?_;refine Wn ?_
        refine rH [(32,8,0)] [Vi t,Vi ((t+1:Nat):Int),Vi ((t+1:Nat):Int)] [] [(5,VAt w (VSv 3 P)),(6,VAt w (VEp 32 8 (Vv 3 (bxL P).1 (bxL P).2))),(7,VAt w (VEp 32 8 (Vv 3 (bxH P).1 (bxH P).2))),(8,VAt w (VSv 3 L)),(10,Vb cb),(11,Vi j),(12,Vi x),(16,Vb true),(17,Vi s),(173,Vb false),(193,Vb false),(14,Vi ((t+1:Nat):Int))] st22 ⟨?s0,(kr1 131 fun _ _ _ _ v0 x0 X0=>⟨_,run_addi rfl (x0.trans (show v0= .int .i64 t from X0)) rfl wO,congrArg (Value.int .i64) (by omega)⟩),ks,trivial⟩ ?_
        case s0=>
         refine k_run0 SbB.out (by kernel_rfl) fun listed ac Y h D hnl=>⟨trivial,?_⟩
         obtain⟨v0,x0,X0⟩:=h.out0 hnl (14,Vi t) (.tail _ (.tail _ (.tail _ (.tail _ (.tail _ (.tail _ (.tail _ (.head _)))))))) 2 (by kernel_rfl) (.inr (by kernel_rfl));exact⟨_,run_move rfl,by rw [x0];exact X0⟩
        intro a23 w23 st23;replace st23:St w.heap.size w 195 [] [(5,VAt w (VSv 3 P)),(6,VAt w (VEp 32 8 (Vv 3 (bxL P).1 (bxL P).2))),(7,VAt w (VEp 32 8 (Vv 3 (bxH P).1 (bxH P).2))),(8,VAt w (VSv 3 L)),(10,Vb cb),(11,Vi j),(12,Vi x),(16,Vb true),(17,Vi s),(173,Vb false),(193,Vb false),(14,Vi ((t+1:Nat):Int))] a23 w23:=st23;exact⟨m2 - 1,by omega,t+1,by omega,st23.cut⟩
      |false=>
       by_cases hsl:s<P.length
       ·
        refine Wn ?_
        refine rH [(32,8,0)] [Vi s,VAt w (VSv 3 P),Vi (P.length:Int),Vb true,Vb true,Vb false,Vb true,Vb true] [] [(5,VAt w (VSv 3 P)),(6,VAt w (VEp 32 8 (Vv 3 (bxL P).1 (bxL P).2))),(7,VAt w (VEp 32 8 (Vv 3 (bxH P).1 (bxH P).2))),(8,VAt w (VSv 3 L)),(10,Vb cb),(11,Vi j),(12,Vi x),(14,Vi t),(16,Vb false),(17,Vi s),(173,Vb true)] st20 ⟨ks,ks,(kr1 167 fun _ _ _ _ _ x0 X0=>len_SvA rfl rfl x0 X0),(kr2 166 168 fun _ _ _ _ _ x0 X0 _ x1 X1=>⟨_,run_lssi rfl (x0.trans X0) (x1.trans X1),congrArg Value.bool (dT (by omega))⟩),ks,ks,ks,ks,trivial⟩ fun a21 w21 st21=>Wn ?_
        refine cT st21 ?_;have hgs:P[s]? =some (cv P s):=cv_gets hsl;obtain⟨mb,hmb⟩:∃mb,mts (cv L j) (cv L t) (cv P s) (cv P (s+1))=mb:=⟨_,rfl⟩;refine Wn ?_
        refine rH [(32,8,0)] [VAt w (VSv 3 L),Vi j,VAt w (VEp 32 8 (Vv 3 (cv L j).1 (cv L j).2)),Vv 3 ((cv L j).1) ((cv L j).2),VAt w (VSv 3 L),Vi t,VAt w (VEp 32 8 (Vv 3 (cv L t).1 (cv L t).2)),Vv 3 ((cv L t).1) ((cv L t).2),VAt w (VSv 3 P),Vi s,VAt w (VEp 32 8 (Vv 3 (cv P s).1 (cv P s).2)),Vv 3 ((cv P s).1) ((cv P s).2),VAt w (VSv 3 P),Vi s,Vv 3 ((cv P (s+1)).1) ((cv P (s+1)).2),Vb mb,Vb mb] [] [(5,VAt w (VSv 3 P)),(6,VAt w (VEp 32 8 (Vv 3 (bxL P).1 (bxL P).2))),(7,VAt w (VEp 32 8 (Vv 3 (bxH P).1 (bxH P).2))),(8,VAt w (VSv 3 L)),(10,Vb cb),(11,Vi j),(12,Vi x),(14,Vi t),(17,Vi s),(173,Vb true),(16,Vb mb)] st21 ⟨ks,ks,(kr2 176 177 fun _ _ _ _ _ x0 X0 _ x1 X1=>index_SvA (a:=(cv L j)) rfl x0 X0 x1 X1 hgj),(kr1 178 fun _ _ _ h _ x0 X0=>load_EpC (w:=w) (k:=8) (A:=Vv 3 (cv L j).1 (cv L j).2) (Stab_Vv _ _ _) rfl x0 X0 h.k.below Tryz.underlying32 rfl size_Vec),ks,ks,(kr2 180 181 fun _ _ _ _ _ x0 X0 _ x1 X1=>index_SvA (a:=(cv L t)) rfl x0 X0 x1 X1 hgt),(kr1 182 fun _ _ _ h _ x0 X0=>load_EpC (w:=w) (k:=8) (A:=Vv 3 (cv L t).1 (cv L t).2) (Stab_Vv _ _ _) rfl x0 X0 h.k.below Tryz.underlying32 rfl size_Vec),ks,ks,(kr2 184 185 fun _ _ _ _ _ x0 X0 _ x1 X1=>index_SvA (a:=(cv P s)) rfl x0 X0 x1 X1 hgs),(kr1 186 fun _ _ _ h _ x0 X0=>load_EpC (w:=w) (k:=8) (A:=Vv 3 (cv P s).1 (cv P s).2) (Stab_Vv _ _ _) rfl x0 X0 h.k.below Tryz.underlying32 rfl size_Vec),ks,ks,(kd2 fun _ _ Y h v0 X0 v1 X1=>cR6Next (show VEq v0 v0 Y from rfl) X1 (VSv_later X0 h.k.below) hsl),(by refine kc fun _ ac Y h D=>?_;obtain⟨v0,x0,X0⟩:=h.dp D 179;obtain⟨v1,x1,X1⟩:=h.dp D 183;obtain⟨v2,x2,X2⟩:=h.dp D 187;obtain⟨v3,x3,X3⟩:=h.dp D 190;exact⟨#[v0,v1,v2,v3],by simp [x0,x1,x2,x3],lvMeets (a:=cv L j) (b:=cv L t) (c:=cv P s) (d:=cv P (s+1)) X0 X1 X2 X3 (by omega) (by omega) hmb⟩),ks,trivial⟩ ?_;intro a22 w22 st22;refine Wn ?_
        refine rH [(32,8,0)] [Vi s,Vi ((s+1:Nat):Int),Vi ((s+1:Nat):Int)] [] [(5,VAt w (VSv 3 P)),(6,VAt w (VEp 32 8 (Vv 3 (bxL P).1 (bxL P).2))),(7,VAt w (VEp 32 8 (Vv 3 (bxH P).1 (bxH P).2))),(8,VAt w (VSv 3 L)),(10,Vb cb),(11,Vi j),(12,Vi x),(14,Vi t),(173,Vb true),(16,Vb mb),(17,Vi ((s+1:Nat):Int))] st22 ⟨?s0,(kr1 174 fun _ _ _ _ v0 x0 X0=>⟨_,run_addi rfl (x0.trans (show v0= .int .i64 s from X0)) rfl wO,congrArg (Value.int .i64) (by omega)⟩),ks,trivial⟩ ?_
        case s0=>
         refine k_run0 SbB.out (by kernel_rfl) fun listed ac Y h D hnl=>⟨trivial,?_⟩
         obtain⟨v0,x0,X0⟩:=h.out0 hnl (17,Vi s) (.tail _ (.tail _ (.tail _ (.tail _ (.tail _ (.tail _ (.tail _ (.tail _ (.head _))))))))) 2 (by kernel_rfl) (.inr (by kernel_rfl));exact⟨_,run_move rfl,by rw [x0];exact X0⟩
        intro a23 w23 st23;replace st23:St w.heap.size w 195 [] [(5,VAt w (VSv 3 P)),(6,VAt w (VEp 32 8 (Vv 3 (bxL P).1 (bxL P).2))),(7,VAt w (VEp 32 8 (Vv 3 (bxH P).1 (bxH P).2))),(8,VAt w (VSv 3 L)),(10,Vb cb),(11,Vi j),(12,Vi x),(14,Vi t),(173,Vb true),(16,Vb mb),(17,Vi ((s+1:Nat):Int))] a23 w23:=st23;exact⟨m3 - 1,by omega,s+1,mb,by omega,fun hf q hq=>by rcases Nat.lt_or_ge q s with h|h;exact hmt rfl q h;rw [show q=s by omega,hmb];exact hf,st23.cut⟩
       ·
        obtain⟨q,hq,hq2⟩:=hmeet;rw [hmt rfl q (by omega)] at hq2;cases hq2
    ·
     refine Wn ?_
     refine rH [(32,8,0)] [Vi t,Vi j,Vb true,Vb true,Vi t,Vb false,Vb false] [] [(5,VAt w (VSv 3 P)),(6,VAt w (VEp 32 8 (Vv 3 (bxL P).1 (bxL P).2))),(7,VAt w (VEp 32 8 (Vv 3 (bxH P).1 (bxH P).2))),(8,VAt w (VSv 3 L)),(10,Vb cb),(11,Vi j),(12,Vi x),(14,Vi t),(130,Vb false)] st14 ⟨ks,ks,(kr2 124 125 fun _ _ _ _ _ x0 X0 _ x1 X1=>⟨_,run_lssi rfl (x0.trans X0) (x1.trans X1),congrArg Value.bool (dT (by omega))⟩),ks,ks,(kr1 128 fun _ _ _ _ _ x0 X0=>⟨_,run_lssi rfl (x0.trans X0) rfl,congrArg Value.bool (dF (by omega))⟩),ks,trivial⟩ fun a15 w15 st15=>Wn ?_
     refine cF st15 ?_;refine Wn ?_
     refine rH [(32,8,0)] [Vi j,Vi ((j+1:Nat):Int),Vi ((j+1:Nat):Int)] [] [(5,VAt w (VSv 3 P)),(6,VAt w (VEp 32 8 (Vv 3 (bxL P).1 (bxL P).2))),(7,VAt w (VEp 32 8 (Vv 3 (bxH P).1 (bxH P).2))),(8,VAt w (VSv 3 L)),(10,Vb cb),(12,Vi x),(14,Vi t),(130,Vb false),(11,Vi ((j+1:Nat):Int))] st15 ⟨?s0,(kr1 68 fun _ _ _ _ v0 x0 X0=>⟨_,run_addi rfl (x0.trans (show v0= .int .i64 j from X0)) rfl wO,congrArg (Value.int .i64) (by omega)⟩),ks,trivial⟩ ?_
     case s0=>
      refine k_run0 SbB.out (by kernel_rfl) fun listed ac Y h D hnl=>⟨trivial,?_⟩
      obtain⟨v0,x0,X0⟩:=h.out0 hnl (11,Vi j) (.tail _ (.tail _ (.tail _ (.tail _ (.tail _ (.head _)))))) 2 (by kernel_rfl) (.inr (by kernel_rfl));exact⟨_,run_move rfl,by rw [x0];exact X0⟩
     intro a16 w16 st16;replace st16:St w.heap.size w 195 [] [(5,VAt w (VSv 3 P)),(6,VAt w (VEp 32 8 (Vv 3 (bxL P).1 (bxL P).2))),(7,VAt w (VEp 32 8 (Vv 3 (bxH P).1 (bxH P).2))),(8,VAt w (VSv 3 L)),(10,Vb cb),(12,Vi x),(14,Vi t),(130,Vb false),(11,Vi ((j+1:Nat):Int))] a16 w16:=st16;exact⟨m1 - 1,by omega,j+1,by omega,st16.cut⟩
   ·
    refine Wn ?_
    refine rH [(32,8,0)] [Vi t,Vi j,Vb false,Vb false,VT,VT,Vb false] [] [(5,VAt w (VSv 3 P)),(6,VAt w (VEp 32 8 (Vv 3 (bxL P).1 (bxL P).2))),(7,VAt w (VEp 32 8 (Vv 3 (bxH P).1 (bxH P).2))),(8,VAt w (VSv 3 L)),(10,Vb cb),(11,Vi j),(12,Vi x),(14,Vi t),(130,Vb false)] st14 ⟨ks,ks,(kr2 124 125 fun _ _ _ _ _ x0 X0 _ x1 X1=>⟨_,run_lssi rfl (x0.trans X0) (x1.trans X1),congrArg Value.bool (dF (by omega))⟩),ks,ks,ks,ks,trivial⟩ fun a15 w15 st15=>Wn ?_
    refine cF st15 ?_;refine Wn ?_
    refine rH [(32,8,0)] [Vi j,Vi ((j+1:Nat):Int),Vi ((j+1:Nat):Int)] [] [(5,VAt w (VSv 3 P)),(6,VAt w (VEp 32 8 (Vv 3 (bxL P).1 (bxL P).2))),(7,VAt w (VEp 32 8 (Vv 3 (bxH P).1 (bxH P).2))),(8,VAt w (VSv 3 L)),(10,Vb cb),(12,Vi x),(14,Vi t),(130,Vb false),(11,Vi ((j+1:Nat):Int))] st15 ⟨?s0,(kr1 68 fun _ _ _ _ v0 x0 X0=>⟨_,run_addi rfl (x0.trans (show v0= .int .i64 j from X0)) rfl wO,congrArg (Value.int .i64) (by omega)⟩),ks,trivial⟩ ?_
    case s0=>
     refine k_run0 SbB.out (by kernel_rfl) fun listed ac Y h D hnl=>⟨trivial,?_⟩
     obtain⟨v0,x0,X0⟩:=h.out0 hnl (11,Vi j) (.tail _ (.tail _ (.tail _ (.tail _ (.tail _ (.head _)))))) 2 (by kernel_rfl) (.inr (by kernel_rfl));exact⟨_,run_move rfl,by rw [x0];exact X0⟩
    intro a16 w16 st16;replace st16:St w.heap.size w 195 [] [(5,VAt w (VSv 3 P)),(6,VAt w (VEp 32 8 (Vv 3 (bxL P).1 (bxL P).2))),(7,VAt w (VEp 32 8 (Vv 3 (bxH P).1 (bxH P).2))),(8,VAt w (VSv 3 L)),(10,Vb cb),(12,Vi x),(14,Vi t),(130,Vb false),(11,Vi ((j+1:Nat):Int))] a16 w16:=st16;exact⟨m1 - 1,by omega,j+1,by omega,st16.cut⟩
  ·
   refine Wn ?_
   refine rH [(32,8,0)] [Vi j,VAt w (VSv 3 L),Vi (L.length:Int),Vb false] [] [(5,VAt w (VSv 3 P)),(6,VAt w (VEp 32 8 (Vv 3 (bxL P).1 (bxL P).2))),(7,VAt w (VEp 32 8 (Vv 3 (bxH P).1 (bxH P).2))),(8,VAt w (VSv 3 L)),(10,Vb cb),(11,Vi j),(67,Vb false)] st9 ⟨ks,ks,(kr1 65 fun _ _ _ _ _ x0 X0=>len_SvA rfl rfl x0 X0),(kr2 64 66 fun _ _ _ _ _ x0 X0 _ x1 X1=>⟨_,run_lssi rfl (x0.trans X0) (x1.trans X1),congrArg Value.bool (dF (by omega))⟩),trivial⟩ fun a10 w10 st10=>Wn ?_
   refine cF st10 ?_;refine Wn ?_
   refine rH [(32,8,0)] [Vb true,Vb true] [] [(5,VAt w (VSv 3 P)),(6,VAt w (VEp 32 8 (Vv 3 (bxL P).1 (bxL P).2))),(7,VAt w (VEp 32 8 (Vv 3 (bxH P).1 (bxH P).2))),(8,VAt w (VSv 3 L)),(10,Vb cb),(11,Vi j),(67,Vb false),(4,Vb true)] st10 ⟨(by refine kc fun _ ac Y h D=>?_;exact⟨#[],by simp [],cL6Lives⟩),ks,trivial⟩ ?_;intro a11 w11 st11;refine Wn ?_
   obtain⟨vr,r1,r4⟩:=st11.slot (4,Vb true) (.tail _ (.tail _ (.tail _ (.tail _ (.tail _ (.tail _ (.tail _ (.head _))))))));exact wp_ret (bodyPost_ret (results_tmp rfl _ _ _) st11.defers ⟨_,congrArg Ending.returned (show _=vr from r1),r4,below_tr hbO st11.k.below⟩)
end Go.Proofs.YteacdbgalloaiaaGreat
