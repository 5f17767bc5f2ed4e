/- Contracts of the packages integer, rat, plane, polygon and their references. -/
import Derived.Test.YteacdbgalloaiaaGreatO16
set_option linter.unusedVariables false
set_option maxRecDepth 100000
set_option maxHeartbeats 6400000
namespace Go.Proofs.YteacdbgalloaiaaGreat
open Go.RowKit
open Go
theorem tail_Sv {N:Nat}{a:P2}{xs:List P2}{lv:Value}{w:World}(hS:VSv N (a::xs) lv w):∃lv',VSv N xs lv' w/\∀(ρ:Operand->Value) (o:Oper) (x:Operand) (W:World),o.op= .slice 23 x (some (.const (.int .i64 1))) none none->ρ x=lv->ρ (.const (.int .i64 1))= .int .i64 1->(execOp ρ o).run Tryz.prog W= .ok (.value lv') W:=by
 rcases hS with⟨-,h⟩|⟨hh,oo,c,cs,rfl,e2,e3,e4,e5,e6⟩
 ·cases h
 have e2:xs.length+1<=c:=e2;have e5:oo+8*(xs.length+1)<=cs.size:=e5;by_cases h1:c=1
 ·have hn:xs.length=0:=by omega
  refine⟨.slice (some ⟨hh,oo,none⟩) xs.length 0,.inr ⟨hh,oo,0,cs,rfl,by omega,by omega,e4,by omega,fun i z hz=>?_⟩,?_⟩
  ·rw [List.length_eq_zero_iff.1 hn] at hz;cases hz
  ·intro ρ o x W ho hx hc;rw [List.length_cons,hn,h1] at hx;rw [hn];obtain⟨dd,op,ty,ps,af,gd⟩:=o;subst ho
   go_simp
 ·refine⟨.slice (some ⟨hh,oo+8,none⟩) xs.length (c - 1),.inr ⟨hh,oo+8,c - 1,cs,rfl,by omega,by omega,e4,by omega,fun i z hz=>?_⟩,?_⟩
  ·have:=e6 (i+1) z hz;rw [show oo+8+8*i=oo+8*(i+1) by omega];exact this
  ·intro ρ o x W ho hx hc;have q1:(1:Int)<=((xs.length+1:Nat):Int):=by omega
   have q2:(1:Int)<=(c:Int):=by omega
   have q3:((xs.length+1:Nat):Int)<=(c:Int):=by omega
   rw [List.length_cons] at hx;clear e6 e5 e4;generalize xs.length=m at*
   have q6:¬((m:Int)+1<1):=by omega
   have q7:oo+1*8=oo+8:=by omega
   obtain⟨dd,op,ty,ps,af,gd⟩:=o;subst ho
   go_simp
theorem load_EpC {ρ:Operand->Value}{o:Oper}{x:Operand}{va:Value}{d:TypeDesc}{T:TypeId}{k:Nat}{A:VP}{w W:World}(hA:Stab [] A)(ho:o.op= .load T x)(hx:ρ x=va)(h:VAt w (VEp T k A) va W)(hb:Below w.heap.size w W)(hu:Tryz.prog.underlying T=some d)(D:aggT d=true)(hi:(Tryz.prog.info? T).map (·.size)=some k):∃v,(execOp ρ o).run Tryz.prog W= .ok (.value v) W/\A v W:=by
 obtain⟨u,h1,h2⟩:=load_EpV ho hx h hb hu D hi;exact⟨u,h1,VAt_cur hA h2 hb⟩
def lsV (p q:P2):P2:=(lsQ p.1 q.1,lsQ p.2 q.2)
def grV (p q:P2):P2:=(grQ p.1 q.1,grQ p.2 q.2)
def bxL:List P2->P2
 | []=>(0,0)
 |a::xs=>xs.foldl lsV a
def bxH:List P2->P2
 | []=>(0,0)
 |a::xs=>xs.foldl grV a
def foldT (f:P2->P2->P2)(a:P2)(xs:List P2)(j:Nat):P2:=(xs.take j).foldl f a
theorem foldT_succ (f:P2->P2->P2)(a:P2)(xs:List P2)(j:Nat)(h:j<xs.length):foldT f a xs (j+1)=f (foldT f a xs j) (xs.getD j (0,0)):=by
 unfold foldT;rw [List.take_succ_eq_append_getElem h,List.foldl_append,List.getD_eq_getElem?_getD,List.getElem?_eq_getElem h];rfl
theorem cBoxCons {w:World}{N:Nat}{a:P2}{xs:List P2}{lv:Value}{v0:Value}(h0:VEq lv v0 w)(hS:VSv N (a::xs) lv w)(hN1:1<=N:=by omega)(hN:N<=900:=by omega):Calls Tryz.prog 15 #[v0] w (RV (VTup (Vv N (bxL (a::xs)).1 (bxL (a::xs)).2) (Vv N (bxH (a::xs)).1 (bxH (a::xs)).2)) w):=by
 go_enter Tryz.func15,Tryz.ntmps15
 generalize hA:(⟨_,_⟩:Act)=a0;have st0:St w.heap.size w 51 [] [(0,VEq lv)] a0 w:=by subst hA;exact St.begin rfl rfl (Lq.2 ⟨⟨_,rfl,h0⟩,L0⟩)
 clear hA;have hmax:=VSv_max hS;have hmx:xs.length+1<=9223372036854775807:=hmax;obtain⟨lv',hS',htl⟩:=tail_Sv hS;refine Wn ?_
 refine rH [(32,8,0)] [VT,VT] [⟨2,some 0,none,32,8,VT,VT⟩,⟨3,some 1,none,32,8,VT,VT⟩] [(0,VEq lv)] st0 ⟨ks,ks,trivial⟩ fun a1 w1 st1=>Wn ?_
 refine rH [(32,8,0)] [VEq lv,Vi ((a::xs).length:Int),Vb false] [.k 2 32 8 VT,.k 3 32 8 VT] [(0,VEq lv),(10,Vb false)] st1 ⟨ks,(kr1 8 fun _ _ _ _ _ x0 X0=>len_Sv rfl rfl x0 X0 hS),(by refine kr fun _ ac Y h D=>?_;obtain⟨v0,x0,X0⟩:=h.dp D 9;have hV0':v0= .int .i64 ((a::xs).length:Int):=X0;exact⟨_,run_eqi rfl (x0.trans hV0') rfl,congrArg Value.bool (dF (by rw [List.length_cons];omega))⟩),trivial⟩ ?_;intro a2 w2 st2;refine Wn ?_
 refine cF st2 ?_;refine Wn ?_
 refine rH [(32,8,0)] [VEq lv,VAt w (VEp 32 8 (Vv N a.1 a.2)),Vv N a.1 a.2,VEq lv,VAt w (VEp 32 8 (Vv N a.1 a.2)),Vv N a.1 a.2,VT,VT,VT,VT] [.k 2 32 8 VT,.k 3 32 8 VT,⟨4,some 6,some 8,32,8,Vv N a.1 a.2,VT⟩,⟨5,some 7,some 9,32,8,Vv N a.1 a.2,VT⟩] [(0,VEq lv),(10,Vb false)] st2 ⟨ks,(kr1 13 fun _ _ _ _ _ x0 X0=>index_Sv (j:=0) (a:=a) rfl x0 X0 hS rfl rfl rfl),(kr1 14 fun _ _ _ h _ x0 X0=>load_EpC (w:=w) (k:=8) (A:=Vv N a.1 a.2) (Stab_Vv _ _ _) rfl x0 X0 h.k.below Tryz.underlying32 rfl size_Vec),ks,(kr1 16 fun _ _ _ _ _ x0 X0=>index_Sv (j:=0) (a:=a) rfl x0 X0 hS rfl rfl rfl),(kr1 17 fun _ _ _ h _ x0 X0=>load_EpC (w:=w) (k:=8) (A:=Vv N a.1 a.2) (Stab_Vv _ _ _) rfl x0 X0 h.k.below Tryz.underlying32 rfl size_Vec),ks,ks,ks,ks,trivial⟩ fun a3 w3 st3=>Wn ?_
 refine rH [(32,8,0)] [VEq lv,VEq lv',Vi (xs.length:Int),Vi 0] [.k 2 32 8 VT,.k 3 32 8 VT,.k 4 32 8 (Vv N a.1 a.2),.k 5 32 8 (Vv N a.1 a.2)] [(0,VEq lv),(10,Vb false),(20,VEq lv'),(21,Vi (xs.length:Int)),(22,Vi 0)] st3 ⟨ks,(kr1 19 fun _ _ _ _ _ x0 X0=>⟨_,htl _ _ _ _ rfl (x0.trans X0) rfl,rfl⟩),(kr1 20 fun _ _ _ _ _ x0 X0=>len_Sv rfl rfl x0 X0 hS'),ks,trivial⟩ ?_;intro a4 w4 st4;replace st4:St w.heap.size w 51 [.k 2 32 8 VT,.k 3 32 8 VT,.k 4 32 8 (Vv N ((foldT lsV a xs 0).1) ((foldT lsV a xs 0).2)),.k 5 32 8 (Vv N ((foldT grV a xs 0).1) ((foldT grV a xs 0).2))] [(20,VEq lv'),(21,Vi (xs.length:Int)),(22,Vi ((0:Nat):Int))] a4 w4:=st4.cut;refine Wn ?_
 refine wp_loop_ghost (fun m aX wX=>∃j:Nat,j+m=xs.length/\St w.heap.size w 51 [.k 2 32 8 VT,.k 3 32 8 VT,.k 4 32 8 (Vv N ((foldT lsV a xs j).1) ((foldT lsV a xs j).2)),.k 5 32 8 (Vv N ((foldT grV a xs j).1) ((foldT grV a xs j).2))] [(20,VEq lv'),(21,Vi (xs.length:Int)),(22,Vi j)] aX wX) xs.length ⟨0,by omega,st4⟩ ?_;intro m aL wL ⟨j,hj,st4⟩;by_cases hlt:j<xs.length
 ·
  refine Wn ?_
  refine rH [(32,8,0)] [Vb true] [.k 2 32 8 VT,.k 3 32 8 VT,.k 4 32 8 (Vv N ((foldT lsV a xs j).1) ((foldT lsV a xs j).2)),.k 5 32 8 (Vv N ((foldT grV a xs j).1) ((foldT grV a xs j).2))] [(20,VEq lv'),(21,Vi (xs.length:Int)),(22,Vi j),(23,Vb true)] st4 ⟨(by refine kr fun _ ac Y h D=>?_;obtain⟨v0,x0,X0⟩:=h.ot 22;have hV0':v0= .int .i64 j:=X0;obtain⟨v1,x1,X1⟩:=h.ot 21;have hV1':v1= .int .i64 (xs.length:Int):=X1;exact⟨_,run_lssi rfl (x0.trans hV0') (x1.trans hV1'),congrArg Value.bool (dT (by omega))⟩),trivial⟩ ?_;intro a5 w5 st5;refine Wn ?_
  refine cT st5 ?_;have hgd:xs[j]? =some (xs.getD j (0,0)):=by rw [List.getD_eq_getElem?_getD,List.getElem?_eq_getElem (by omega)];rfl
  refine Wn ?_
  refine rH [(32,8,0)] [VAt w (VEp 32 8 (Vv N (xs.getD j (0,0)).1 (xs.getD j (0,0)).2)),Vv N ((xs.getD j (0,0)).1) ((xs.getD j (0,0)).2),VT,VT] [.k 2 32 8 VT,.k 3 32 8 VT,.k 4 32 8 (Vv N ((foldT lsV a xs j).1) ((foldT lsV a xs j).2)),.k 5 32 8 (Vv N ((foldT grV a xs j).1) ((foldT grV a xs j).2)),⟨7,some 2,some 3,32,8,Vv N ((xs.getD j (0,0)).1) ((xs.getD j (0,0)).2),VT⟩] [(20,VEq lv'),(21,Vi (xs.length:Int)),(22,Vi j),(23,Vb true)] st5 ⟨(by refine kr fun _ ac Y h D=>?_;obtain⟨v0,x0,X0⟩:=h.ot 20;obtain⟨v1,x1,X1⟩:=h.ot 22;exact index_Sv rfl x0 X0 hS' x1 X1 hgd),(kr1 24 fun _ _ _ h _ x0 X0=>load_EpC (w:=w) (k:=8) (A:=Vv N (xs.getD j (0,0)).1 (xs.getD j (0,0)).2) (Stab_Vv _ _ _) rfl x0 X0 h.k.below Tryz.underlying32 rfl size_Vec),ks,ks,trivial⟩ ?_;intro a6 w6 st6;refine Wn ?_
  refine rH [(32,8,0)] [Vpt a6 4 0,Vq N ((foldT lsV a xs j).1),Vpt a6 7 0,Vq N ((xs.getD j (0,0)).1),Vq N (lsQ ((foldT lsV a xs j).1) ((xs.getD j (0,0)).1)),Vpt a6 4 4,Vq N ((foldT lsV a xs j).2),Vpt a6 7 4,Vq N ((xs.getD j (0,0)).2),Vq N (lsQ ((foldT lsV a xs j).2) ((xs.getD j (0,0)).2)),Vv N (lsQ ((foldT lsV a xs j).1) ((xs.getD j (0,0)).1)) (lsQ ((foldT lsV a xs j).2) ((xs.getD j (0,0)).2)),VT] [.k 2 32 8 VT,.k 3 32 8 VT,⟨4,none,some 11,32,8,Vv N (lsQ ((foldT lsV a xs j).1) ((xs.getD j (0,0)).1)) (lsQ ((foldT lsV a xs j).2) ((xs.getD j (0,0)).2)),Vv N ((foldT lsV a xs j).1) ((foldT lsV a xs j).2)⟩,.k 5 32 8 (Vv N ((foldT grV a xs j).1) ((foldT grV a xs j).2)),.k 7 32 8 (Vv N ((xs.getD j (0,0)).1) ((xs.getD j (0,0)).2))] [(20,VEq lv'),(21,Vi (xs.length:Int)),(22,Vi j),(23,Vb true)] st6 ⟨ks,(k_part0 (j:=0) (off:=0) (k:=4) SbB.out (by kernel_rfl) (.tail _ (.tail _ (.head _))) rfl rfl rfl (by kernel_rfl) (by kernel_rfl) (by kernel_rfl) rfl (by kernel_rfl) (Nat.le_of_ble_eq_true rfl) (fun cs w h=>(VP2_fst h)) Tryz.underlying30 rfl size_Rat fun listed ac Y h D=>⟨trivial,trivial⟩),ks,ks,(kd2 fun _ _ _ _ _ X0 _ X1=>cLesser X0 X1),ks,(k_part0 (j:=5) (off:=4) (k:=4) SbB.out (by kernel_rfl) (.tail _ (.tail _ (.head _))) rfl rfl rfl (by kernel_rfl) (by kernel_rfl) (by kernel_rfl) rfl (by kernel_rfl) (Nat.le_of_ble_eq_true rfl) (fun cs w h=>(VP2_snd h)) Tryz.underlying30 rfl size_Rat fun listed ac Y h D=>⟨trivial,trivial⟩),ks,ks,(kd2 fun _ _ _ _ _ X0 _ X1=>cLesser X0 X1),(kr2 30 35 fun _ _ _ _ _ x0 X0 _ x1 X1=>build_Vec rfl x0 x1 (AggV_Vq _ _) (AggV_Vq _ _) X0 X1),ks,trivial⟩ fun a7 w7 st7=>Wn ?_
  refine rH [(32,8,0)] [Vpt a7 5 0,Vq N ((foldT grV a xs j).1),Vpt a7 7 0,Vq N ((xs.getD j (0,0)).1),Vq N (grQ ((foldT grV a xs j).1) ((xs.getD j (0,0)).1)),Vpt a7 5 4,Vq N ((foldT grV a xs j).2),Vpt a7 7 4,Vq N ((xs.getD j (0,0)).2),Vq N (grQ ((foldT grV a xs j).2) ((xs.getD j (0,0)).2)),Vv N (grQ ((foldT grV a xs j).1) ((xs.getD j (0,0)).1)) (grQ ((foldT grV a xs j).2) ((xs.getD j (0,0)).2)),VT] [.k 2 32 8 VT,.k 3 32 8 VT,.k 4 32 8 (Vv N (lsQ ((foldT lsV a xs j).1) ((xs.getD j (0,0)).1)) (lsQ ((foldT lsV a xs j).2) ((xs.getD j (0,0)).2))),⟨5,none,some 11,32,8,Vv N (grQ ((foldT grV a xs j).1) ((xs.getD j (0,0)).1)) (grQ ((foldT grV a xs j).2) ((xs.getD j (0,0)).2)),Vv N ((foldT grV a xs j).1) ((foldT grV a xs j).2)⟩,.k 7 32 8 (Vv N ((xs.getD j (0,0)).1) ((xs.getD j (0,0)).2))] [(20,VEq lv'),(21,Vi (xs.length:Int)),(22,Vi j),(23,Vb true)] st7 ⟨ks,(k_part0 (j:=0) (off:=0) (k:=4) SbB.out (by kernel_rfl) (.tail _ (.tail _ (.tail _ (.head _)))) rfl rfl rfl (by kernel_rfl) (by kernel_rfl) (by kernel_rfl) rfl (by kernel_rfl) (Nat.le_of_ble_eq_true rfl) (fun cs w h=>(VP2_fst h)) Tryz.underlying30 rfl size_Rat fun listed ac Y h D=>⟨trivial,trivial⟩),ks,ks,(kd2 fun _ _ _ _ _ X0 _ X1=>cGreater X0 X1),ks,(k_part0 (j:=5) (off:=4) (k:=4) SbB.out (by kernel_rfl) (.tail _ (.tail _ (.tail _ (.head _)))) rfl rfl rfl (by kernel_rfl) (by kernel_rfl) (by kernel_rfl) rfl (by kernel_rfl) (Nat.le_of_ble_eq_true rfl) (fun cs w h=>(VP2_snd h)) Tryz.underlying30 rfl size_Rat fun listed ac Y h D=>⟨trivial,trivial⟩),ks,ks,(kd2 fun _ _ _ _ _ X0 _ X1=>cGreater X0 X1),(kr2 41 46 fun _ _ _ _ _ x0 X0 _ x1 X1=>build_Vec rfl x0 x1 (AggV_Vq _ _) (AggV_Vq _ _) X0 X1),ks,trivial⟩ fun a8 w8 st8=>Wn ?_
  refine rH [(32,8,0)] [Vi ((j+1:Nat):Int),Vi ((j+1:Nat):Int)] [.k 2 32 8 VT,.k 3 32 8 VT,.k 4 32 8 (Vv N (lsQ ((foldT lsV a xs j).1) ((xs.getD j (0,0)).1)) (lsQ ((foldT lsV a xs j).2) ((xs.getD j (0,0)).2))),.k 5 32 8 (Vv N (grQ ((foldT grV a xs j).1) ((xs.getD j (0,0)).1)) (grQ ((foldT grV a xs j).2) ((xs.getD j (0,0)).2))),.k 7 32 8 (Vv N ((xs.getD j (0,0)).1) ((xs.getD j (0,0)).2))] [(20,VEq lv'),(21,Vi (xs.length:Int)),(23,Vb true),(22,Vi ((j+1:Nat):Int))] st8 ⟨?s0,ks,trivial⟩ ?_
  case s0=>
   refine k_run0 SbB.out (by kernel_rfl) fun listed ac Y h D hnl=>⟨trivial,?_⟩
   obtain⟨v0,x0,X0⟩:=h.out0 hnl (22,Vi j) (.tail _ (.tail _ (.head _))) 1 (by kernel_rfl) (.inr (by kernel_rfl));exact⟨_,run_addi rfl (x0.trans (show v0= .int .i64 j from X0)) rfl wO,congrArg (Value.int .i64) (by omega)⟩
  intro a9 w9 st9;replace st9:St w.heap.size w 51 [.k 2 32 8 VT,.k 3 32 8 VT,.k 4 32 8 (Vv N (lsQ ((foldT lsV a xs j).1) ((xs.getD j (0,0)).1)) (lsQ ((foldT lsV a xs j).2) ((xs.getD j (0,0)).2))),.k 5 32 8 (Vv N (grQ ((foldT grV a xs j).1) ((xs.getD j (0,0)).1)) (grQ ((foldT grV a xs j).2) ((xs.getD j (0,0)).2)))] [(20,VEq lv'),(21,Vi (xs.length:Int)),(22,Vi ((j+1:Nat):Int))] a9 w9:=st9.cut;have eA:=foldT_succ lsV a xs j (by omega);have eB:=foldT_succ grV a xs j (by omega);have fin:St w.heap.size w 51 [.k 2 32 8 VT,.k 3 32 8 VT,.k 4 32 8 (Vv N ((foldT lsV a xs (j+1)).1) ((foldT lsV a xs (j+1)).2)),.k 5 32 8 (Vv N ((foldT grV a xs (j+1)).1) ((foldT grV a xs (j+1)).2))] [(20,VEq lv'),(21,Vi (xs.length:Int)),(22,Vi ((j+1:Nat):Int))] a9 w9:=by rw [eA,eB];exact st9
  exact⟨m - 1,by omega,j+1,by omega,fin⟩
 ·
  refine Wn ?_
  refine rH [(32,8,0)] [Vb false] [.k 2 32 8 VT,.k 3 32 8 VT,.k 4 32 8 (Vv N ((foldT lsV a xs j).1) ((foldT lsV a xs j).2)),.k 5 32 8 (Vv N ((foldT grV a xs j).1) ((foldT grV a xs j).2))] [(20,VEq lv'),(21,Vi (xs.length:Int)),(22,Vi j),(23,Vb false)] st4 ⟨(by refine kr fun _ ac Y h D=>?_;obtain⟨v0,x0,X0⟩:=h.ot 22;have hV0':v0= .int .i64 j:=X0;obtain⟨v1,x1,X1⟩:=h.ot 21;have hV1':v1= .int .i64 (xs.length:Int):=X1;exact⟨_,run_lssi rfl (x0.trans hV0') (x1.trans hV1'),congrArg Value.bool (dF (by omega))⟩),trivial⟩ ?_;intro a5 w5 st5;refine Wn ?_
  refine cF st5 ?_;have ej:xs.take j=xs:=List.take_of_length_le (by omega);refine Wn ?_
  refine rH [(32,8,0)] [Vv N ((foldT lsV a xs j).1) ((foldT lsV a xs j).2),Vv N ((foldT grV a xs j).1) ((foldT grV a xs j).2),VT,VT] [⟨2,none,some 2,32,8,Vv N ((foldT lsV a xs j).1) ((foldT lsV a xs j).2),VT⟩,⟨3,none,some 3,32,8,Vv N ((foldT grV a xs j).1) ((foldT grV a xs j).2),VT⟩,.k 4 32 8 (Vv N ((foldT lsV a xs j).1) ((foldT lsV a xs j).2)),.k 5 32 8 (Vv N ((foldT grV a xs j).1) ((foldT grV a xs j).2))] [(20,VEq lv'),(21,Vi (xs.length:Int)),(22,Vi j),(23,Vb false)] st5 ⟨ks,ks,ks,ks,trivial⟩ fun a6 w6 st6=>Wn ?_
  obtain⟨g,cs,r1,r2,r3,r4,r5⟩:=st6.res (.k 2 32 8 (Vv N ((foldT lsV a xs j).1) ((foldT lsV a xs j).2))) (.head _) rfl rfl;obtain⟨g2,cs2,p1,p2,p3,p4,p5⟩:=st6.res (.k 3 32 8 (Vv N ((foldT grV a xs j).1) ((foldT grV a xs j).2))) (.tail _ (.head _)) rfl rfl;exact wp_ret (bodyPost_ret (results_cell2 rfl _ _ g g2 32 cs cs2 (0,0) (0,0) _ r1 p1 r2 p2 Tryz.underlying32 rfl (by rw [r3];exact size_Vec) (by rw [p3];exact size_Vec)) st6.defers ⟨_,rfl,⟨_,_,rfl,(by rw [show foldT lsV a xs j=bxL (a::xs) by unfold foldT;rw [ej];rfl] at r4;exact r4),(by rw [show foldT grV a xs j=bxH (a::xs) by unfold foldT;rw [ej];rfl] at p4;exact p4)⟩,r5⟩)
section
variable {P:Program}{md:Region.Mode}{ops:Array Oper}{Q:Exit->Act->World->Prop}{a0:Act}{n0 n:Nat}{w0:World}{B:List Bd}{SL:List (Nat×VP)}{BT:List (TypeId×Nat×Nat)}{ro:Option Nat}
theorem wpAny_s {V:Nat->VP}{k:Nat}{o1:Oper}(hfore:kFore md ops=true)(hown:flowOwn ops=true)(hin:∀(i:Nat) (o:Oper) (d:Tmp),ops[i]? =some o->o.dst=some d->d<a0.tmps.size)(hV:∀i,Stab BT (V i))(hSL:∀p∈SL,Stab BT p.2)
 (hk1:ops[k]? =some o1) (hsz:ops.size=k+1) (hg1:o1.guard=none) (hnd1:∀c,o1.op≠ .defer c) (hdep1:waits md ops k o1=true)
 (hstep:∀(i:Nat) (o:Oper),i<k->ops[i]? =some o->KStepI BT ro n P md ops Q a0 V n0 w0 B SL i o)
 (hlast:∀(listed:Array Bool) (a:Act) (w:World),KI md ops a0 V n0 w0 B SL listed a w->(∀j,j<k->listed.getD j false=true)->∃w2,(execOp a.eval o1).run P w= .ok .skip w2/\Q .normal (a.put o1.dst undef) w2):
 ∀(fuel:Nat) (listed:Array Bool) (a:Act) (w:World),KI md ops a0 V n0 w0 B SL listed a w->listed.getD k true=false->listed.toList.count false<=fuel->wpAnyIn (fW ro) n P md ops Q fuel listed a w:=by
 intro fuel
 induction fuel with
 |zero=>
  intro listed a w h hn1 hc;exfalso;have:=count_zero listed (by omega) k (by rw [h.len];omega);have hkl:k<listed.size:=by rw [h.len];omega
  simp only [Array.getD,hkl,dif_pos] at this hn1;rw [this] at hn1;cases hn1
 |succ fuel ih=>
  intro listed a w h hn1 hc;have hkl:k<listed.size:=by rw [h.len];omega
  refine⟨fun hr=>?_,fun i hi=>?_⟩
  ·exfalso;have:=kready_none hfore h.len hr k (by omega);simp only [Array.getD,hkl,dif_pos] at this hn1;rw [this] at hn1;cases hn1
  obtain⟨h1,o,ho,hdep⟩:=mem_ready.1 hi
  have hlt:i<listed.size:=by
   rw [h.len];rcases Nat.lt_or_ge i ops.size with h'|h'
   ·exact h'
   ·rw [Array.getElem?_eq_none h'] at ho;cases ho
  have hcnt:=count_set listed i hlt h1;rcases Nat.lt_trichotomy i k with hik|rfl|hik
  ·have:=hstep i o hik ho listed a w h hdep (dst_ok hin ho) hlt (by have h5:=h1;simp only [Array.getD,hlt,dif_pos] at h5 ⊢;exact h5) (wpAnyIn (fW ro) n P md ops Q fuel (listed.setIfInBounds i true)) fun v w' hS hR hv=>ih _ _ _ (h.step hown hin hV hSL ho hdep hS hR hv) (by
    have:(listed.setIfInBounds i true).getD k true=listed.getD k true:=by simp only [Array.getD_eq_getD_getElem?,Array.getElem?_setIfInBounds_ne (show i≠k by omega)]
    rw [this];exact hn1) (by omega)
   unfold wpOpIn;rw [ho];by_cases hw:Region.wanted o (yielded ops a.tmps)=true
   ·simp only [hw,if_true] at this ⊢;exact this
   ·simp only [hw] at this ⊢;exact⟨fun _ _=>trivial,this⟩
  ·rw [hk1] at ho;cases ho;have hall:∀j,j<i->listed.getD j false=true:=fun j hj=>waits_all hdep1 h hdep i j hj (by omega)
   obtain⟨w2,hrun,hQ⟩:=hlast listed a w h hall
   have hall2:∀j,j<ops.size->(listed.setIfInBounds i true).getD j false=true:=fun j hj=>by
    rw [getD_set _ _ _ hkl];split
    ·rfl
    ·exact hall j (by omega)
   have hno:∀j,j∈Region.ready md ops (listed.setIfInBounds i true)->False:=fun j hj=>by
    obtain⟨h1,o,ho,-⟩:=mem_ready.1 hj
    have hj':j<ops.size:=by
     rcases Nat.lt_or_ge j ops.size with h'|h'
     ·exact h'
     ·rw [Array.getElem?_eq_none h'] at ho;cases ho
    have:=hall2 j hj';have hj2:j<(listed.setIfInBounds i true).size:=by simp;omega
    simp only [Array.getD,hj2,dif_pos] at this h1;rw [this] at h1;cases h1
   have hdone:∀f,wpAnyIn (fW ro) n P md ops Q f (listed.setIfInBounds i true) (a.put o1.dst undef) w2:=by
    intro f;cases f with
    |zero=>exact⟨List.eq_nil_iff_forall_not_mem.2 (fun j hj=>hno j hj),hQ⟩
    |succ f=>exact⟨fun _=>hQ,fun j hj=>(hno j hj).elim⟩
   have hw:Region.wanted o1 (yielded ops a.tmps)=true:=wanted_of (by unfold Guards;rw [hg1];trivial);unfold wpOpIn;rw [hk1];simp only [hw,if_true];refine wp_in hnd1 ?_;unfold Oper.wp;rw [hrun];exact hdone _
  ·exfalso;have:=h.len;omega
theorem wpList_s {V:Nat->VP}{k:Nat}{o1:Oper}(hfore:kFore md ops=true)(hown:flowOwn ops=true)(hin:∀(i:Nat) (o:Oper) (d:Tmp),ops[i]? =some o->o.dst=some d->d<a0.tmps.size)(hV:∀i,Stab BT (V i))(hSL:∀p∈SL,Stab BT p.2)
 (hk1:ops[k]? =some o1) (hsz:ops.size=k+1) (hg1:o1.guard=none) (hnd1:∀c,o1.op≠ .defer c)
 (hstep:∀(i:Nat) (o:Oper),i<k->ops[i]? =some o->KStepI BT ro n P md ops Q a0 V n0 w0 B SL i o)
 (hlast:∀(listed:Array Bool) (a:Act) (w:World),KI md ops a0 V n0 w0 B SL listed a w->(∀j,j<k->listed.getD j false=true)->∃w2,(execOp a.eval o1).run P w= .ok .skip w2/\Q .normal (a.put o1.dst undef) w2):
 ∀(rest:List Oper) (j:Nat) (listed:Array Bool) (a:Act) (w:World),j<=k->ops.toList.drop j=rest->(∀i,i<j->i<ops.size->listed.getD i false=true)->(∀i,j<=i->listed.getD i false=false)->KI md ops a0 V n0 w0 B SL listed a w->wpListIn (fW ro) n P ops Q rest a w:=by
 intro rest
 induction rest with
 |nil=>
  intro j listed a w hjk hk hl _ h
  have:ops.size<=j:=by
   have:=List.drop_eq_nil_iff.1 hk
   simpa using this
  omega
 |cons o rest ih=>
  intro j listed a w hjk hk hl hnl h
  have hlt:j<ops.toList.length:=by
   have:ops.toList.length=ops.size:=by simp
   omega
  rw [List.drop_eq_getElem_cons hlt] at hk;have ho':ops.toList[j]=o:=(List.cons.inj hk).1
  have ho:ops[j]? =some o:=by
   have h1:j<ops.size:=by simpa using hlt
   rw [Array.getElem?_eq_getElem h1]
   simpa using ho'
  have hlk:j<listed.size:=by rw [h.len];simpa using hlt
  have hdep:∀e∈o.after,Region.binds md e=true->listed.getD e.on false=true:=fun e he hb=>by
   have h1:=kFore_spec hfore ho e he hb
   exact hl e.on h1 (by
    have:j<ops.size:=by simpa using hlt
    omega)
  rcases Nat.lt_or_ge j k with hj|hj
  ·have:=hstep j o hj ho listed a w h hdep (dst_ok hin ho) hlk (hnl j (Nat.le_refl _)) (wpListIn (fW ro) n P ops Q rest) fun v w' hS hR hv=>ih (j+1) _ _ _ hj (List.cons.inj hk).2 (fun i hi hi'=>by
    rw [getD_set _ _ _ hlk];split
    ·rfl
    ·exact hl i (by omega) hi') (fun i hi=>by
    rw [getD_set _ _ _ hlk,if_neg (by omega)]
    exact hnl i (by omega)) (h.step hown hin hV hSL ho hdep hS hR hv)
   unfold wpListIn;by_cases hw:Region.wanted o (yielded ops a.tmps)=true
   ·simp only [hw,if_true] at this ⊢;exact this
   ·simp only [hw] at this ⊢;exact⟨fun _ _=>trivial,this⟩
  ·obtain rfl:j=k:=by omega
   rw [hk1] at ho;cases ho;obtain⟨w2,hrun,hQ⟩:=hlast listed a w h (fun i hi=>hl i hi (by omega));have hw:Region.wanted o1 (yielded ops a.tmps)=true:=wanted_of (by unfold Guards;rw [hg1];trivial)
   have hr:rest= []:=by
    rw [<-(List.cons.inj hk).2];apply List.drop_eq_nil_iff.2;have:ops.toList.length=ops.size:=by simp
    omega
   subst hr;unfold wpListIn;simp only [hw,if_true];refine wp_in hnd1 ?_;unfold Oper.wp;rw [hrun];exact hQ
end
section
variable {ro:Option Nat}{n:Nat}{Q:Exit->Act->World->Prop}{Vl:List VP}{n0:Nat}{w0:World}{B:List Bd}{SL:List (Nat×VP)}{BT:List (TypeId×Nat×Nat)}
theorem rgS {id N k:Nat}{l:List Oper}{ord:Bool}{a:Act}{w:World}{o1:Oper}{SL':List (Nat×VP)}{ds:List Deferred}(hds:a.defers=ds)(st:St n0 w0 N B SL ⟨a.tmps,[]⟩ w)
 (hstep:AllK BT Tryz.prog .any l.toArray Q a (GV Vl) n0 w0 B SL 0 (l.take k))
 (hk1:l[k]? =some o1) (hsz:l.length=k+1) (hg1:o1.guard=none) (hd1:o1.dst=none) (hnd1:∀c,o1.op≠ .defer c) (hdep1:waits .any l.toArray k o1=true) (hVk:GV Vl k=VT)
 (hdone:∀a' w',a'.defers=ds->St n0 w0 N (B.map Bd.fin) SL' ⟨a'.tmps,[]⟩ w'->∃w2,(execOp a'.eval o1).run Tryz.prog w'= .ok .skip w2/\Q .normal a' w2)
 (hB0:B.all (fun b=>b.ia==none && b.ik==none)=true) [hB:SbB BT B] [hS:SbS BT SL] [hL:SbL BT Vl] (hnd:noDefer l=true)
 (hg:GetsF l.toArray (GV Vl) SL SL':=by repeat (first|exact trivial|refine⟨.inl ⟨rfl,rfl⟩,?_⟩|refine⟨.inr ⟨rfl,by kernel_rfl⟩,?_⟩))
 (hm:Tryz.prog.follows .mixedOrders=true:=by kernel_rfl) (hfore:kFore .any l.toArray=true:=by kernel_rfl) (hown:flowOwn l.toArray=true:=by kernel_rfl) (hin:l.all (fun o=>match o.dst with|some d=>decide (d<N)|none=>true)=true:=by kernel_rfl):(Code.region id l.toArray ord).wpIn (fW ro) n Tryz.prog Q a w:=by
 have hin':∀(i:Nat) (o:Oper) (d:Tmp),l.toArray[i]? =some o->o.dst=some d->d<a.tmps.size:=fun i o d ho D=>by
  rw [show a.tmps.size=N from st.size];rw [List.all_eq_true] at hin;have ho':l[i]? =some o:=by simpa using ho
  have:=hin o (List.mem_of_getElem? ho');rw [D] at this;exact of_decide_eq_true this
 have hB0':∀b∈B,b.ia=none/\b.ik=none:=fun b hb=>by
  rw [List.all_eq_true] at hB0;have:=hB0 b hb;simp only [Bool.and_eq_true,beq_iff_eq] at this;exact this
 have hs':∀(i:Nat) (o:Oper),i<k->l.toArray[i]? =some o->KStepI BT ro n Tryz.prog .any l.toArray Q a (GV Vl) n0 w0 B SL i o:=fun i o hi ho=>by
  have:=AllK.get (l.take k) 0 hstep i o (by rw [List.getElem?_take,if_pos hi];simpa using ho);rw [Nat.zero_add] at this;refine this.toI fun c e=>?_
  have ho':l[i]? =some o:=by simpa using ho
  unfold noDefer at hnd;rw [List.all_eq_true] at hnd;have:=hnd o (List.mem_of_getElem? ho');rw [e] at this;cases this
 have hno:∀i,(Array.replicate l.length false).getD i false=true->False:=fun i hl=>by
  simp only [Array.getD_eq_getD_getElem?,Array.getElem?_replicate] at hl;split at hl<;>simp at hl
 have mk:∀{listed:Array Bool} {a':Act} {w':World} (listed':Array Bool),KS n0 w0 B listed a' w'->KS n0 w0 B listed' a' w':=fun listed' h=>⟨h.below,fun b hb _=>by
  obtain⟨g,cs,e1,e2,e3,e4,e5,e6,e7⟩:=h.ok b hb (by rw [(hB0' b hb).1];rfl)
  exact⟨g,cs,e1,e2,e3,e4,e5,fun _=>e6 (by rw [(hB0' b hb).2];rfl),fun _ hk=>by rw [(hB0' b hb).2] at hk;cases hk⟩,fun b hb c hc hne _ _=>h.ne b hb c hc hne (by rw [(hB0' b hb).1];rfl) (by rw [(hB0' c hc).1];rfl),fun b hb h1 _=>absurd (hB0' b hb).2 h1⟩
 have hst:KS n0 w0 B (Array.replicate l.length false) a w:=(mk _ st.k).congr rfl;have hks:l.toArray.size=k+1:=by simpa using hsz
 have hkk:l.toArray[k]? =some o1:=by simpa using hk1
 have hlt:B.all (fun b=>(match b.ia with|some i=>decide (i<l.toArray.size)|none=>true) && (match b.ik with|some i=>decide (i<l.toArray.size)|none=>true))=true:=by
  rw [List.all_eq_true];intro b hb;rw [(hB0' b hb).1,(hB0' b hb).2];rfl
 have hlast:∀(listed:Array Bool) (a':Act) (w':World),KI .any l.toArray a (GV Vl) n0 w0 B SL listed a' w'->(∀j,j<k->listed.getD j false=true)->∃w2,(execOp a'.eval o1).run Tryz.prog w'= .ok .skip w2/\Q .normal (a'.put o1.dst undef) w2:=fun listed a' w' h hall=>by
  have hkl:k<listed.size:=by rw [h.len,hks];omega
  have h2:=h.step (v:=undef) (w':=w') hown hin' (stab_of hL.out) hS.out hkk (fun e he hb=>hall _ (kFore_spec hfore hkk e he hb)) (by rw [hd1];exact mk _ h.k) (RI.of_below (Below.refl _ _)) (show GV Vl k undef w' by rw [hVk];trivial);rw [hd1] at h2 ⊢
  have hall2:∀j,j<l.toArray.size->(listed.setIfInBounds k true).getD j false=true:=fun j hj=>by
   rw [getD_set _ _ _ hkl];split
   ·rfl
   ·exact hall j (by omega)
  exact hdone _ _ (h2.defers.trans hds) ((h2.congr (a0':=⟨a.tmps,[]⟩) (a':=⟨a'.tmps,[]⟩) rfl rfl rfl).st hall2 st.size rfl hlt SL' hg.to)
 have hn0:∀i,(Array.replicate l.length false).getD i false=false:=fun i=>by
  cases hl:(Array.replicate l.length false).getD i false with
  |false=>rfl
  |true=>exact(hno i hl).elim
 cases ord with
 |true=>
  refine wpIn_region_any hm (wpAny_s hfore hown hin' (stab_of hL.out) hS.out hkk hks hg1 hnd1 hdep1 hs' hlast _ _ _ _ ⟨?_,st.n,by simp,rfl,rfl,fun _ _=>rfl,fun i o d ho hl _=>(hno i (by simpa using hl)).elim,fun p hp=>?_,fun k o _ hl=>(hno k (by simpa using hl)).elim⟩ ?_ ?_)
  ·have:=hst.drew hB.out
   simpa using this
  ·obtain⟨v,h1,h2⟩:=st.sl p hp;exact⟨v,h1,hS.out p hp _ _ _ h2 (RI.drew w)⟩
  ·simp [Array.getD,hsz]
  ·simp
 |false=>
  exact wpIn_region_lit (wpList_s hfore hown hin' (stab_of hL.out) hS.out hkk hks hg1 hnd1 hs' hlast l 0 (Array.replicate l.length false) a w (Nat.zero_le _) (by simp) (fun i hi=>by omega) (fun i _=>hn0 i) ⟨hst,st.n,by simp,rfl,rfl,fun _ _=>rfl,fun i o d ho hl _=>(hno i hl).elim,st.sl,fun k o _ hl=>(hno k hl).elim⟩)
end
section
variable {n0 N:Nat}{w0:World}{L:List Bd}{SL:List (Nat×VP)}{a:Act}{w:World}
def Pure (P:VP):Prop:=∀v w w',P v w->P v w'
theorem Pure_VT:Pure VT:=fun _ _ _ _=>trivial
theorem below_setRow {g:Nat}{cs:Array Value}{n0:Nat}{w0 w:World}(h:Below n0 w0 w)(hn:n0<=g):Below n0 w0 (w.setRow g cs):=
 h.trans ⟨rfl,rfl,rfl,by simp [World.setRow],fun k hk=>setRow_other w g k cs (by omega)⟩
def VRow (g:Nat)(cs:Array Value)(T:TypeId):VP:=fun v w=>v= .pointer (some ⟨g,0,none⟩)/\w.heap[g]? =some (.cells cs T (0,0))
theorem Stab_VRow {BT:List (TypeId×Nat×Nat)}{g:Nat}{cs:Array Value}{T:TypeId}(h1:∀e∈BT,e.1≠T):Stab BT (VRow g cs T):=fun _ _ _ ⟨e1,e2⟩ hr=>⟨e1,(hr.row g _ _ e2 (.inl fun e he q=>absurd q (h1 e he))).trans e2⟩
theorem VRow_set {g k:Nat}{cs ds:Array Value}{T:TypeId}{v:Value}(h:VRow g cs T v w)(hk:g≠k):VRow g cs T v (w.setRow k ds):=⟨h.1,(setRow_other w k g ds hk).trans h.2⟩
theorem VKR_setRow {B:Nat}{BT:List (TypeId×Nat×Nat)}{W:World}{g:Nat}{old cs:Array Value}{T:TypeId}{v:Value}(h:VKR B BT W v w)(hg:w.heap[g]? =some (.cells old T (0,0)))(hT:∃e∈BT,e.1=T):VKR B BT W v (w.setRow g cs):=
 ⟨⟨Nat.le_trans h.1.1 (by simp [World.setRow]),fun k o hB hk ho=>by
  have:=h.1.2 k o hB hk ho;refine(setRow_other w g k cs ?_).trans this
  rintro rfl
  rw [hg] at this;cases this
  exact ho _ _ _ rfl⟩,h.2.trans (RowK.setRow hg hT)⟩
theorem St.setRow {g:Nat}{cs:Array Value}{SL':List (Nat×VP)}(h:St n0 w0 N L SL a w)(hn:n0<=g)(hs:∀p∈SL',∃v,a.tmps[p.1]? =some v/\p.2 v (w.setRow g cs)):St n0 w0 N [] SL' a (w.setRow g cs):=
 ⟨⟨below_setRow h.k.below hn,fun b hb=>absurd hb (by simp),fun b hb=>absurd hb (by simp),fun b hb=>absurd hb (by simp)⟩,by simpa [World.setRow] using h.n,h.size,h.defers,hs⟩
theorem St.slots {SL':List (Nat×VP)}(h:St n0 w0 N L SL a w)(hs:∀p∈SL',∃v,a.tmps[p.1]? =some v/\p.2 v w):St n0 w0 N L SL' a w:=⟨h.k,h.n,h.size,h.defers,hs⟩
end
section
variable {ρ:Operand->Value}{o:Oper}{W:World}{x y:Operand}{va vb:Value}
theorem load_Row1 {g:Nat}{u:Value}{T:TypeId}(ho:o.op= .load T x)(hx:ρ x=va)(h:VRow g #[u] T va W)[hc:CeT T]:∃v,(execOp ρ o).run Tryz.prog W= .ok (.value v) W/\VEq u v W:=load_Pb ho hx ⟨g,h.1,h.2⟩
theorem load_Row {g:Nat}{cs:Array Value}{T:TypeId}{d:TypeDesc}{A:VP}(ho:o.op= .load T x)(hx:ρ x=va)(h:VRow g cs T va W)(hu:Tryz.prog.underlying T=some d)(D:aggT d=true)(hi:(Tryz.prog.info? T).map (·.size)=some cs.size)(hA:A (.agg cs) W):∃v,(execOp ρ o).run Tryz.prog W= .ok (.value v) W/\A v W:=by
 obtain⟨rfl,e2⟩:=h;refine⟨.agg cs,?_,hA⟩;unfold execOp;simp only [ho,hx,Instr.loadAt,Instr.sureAddr,Sem.run_bind,Sem.run_pure,Result.andThen_ok,run_loadVar_row W g T T cs (0,0) d e2 hu (by cases d<;>simp_all [aggT]) hi]
theorem run_store1 {g:Nat}{u old:Value}{T:TypeId}(ho:o.op= .store T x y)(hx:ρ x= .pointer (some ⟨g,0,none⟩))(hy:ρ y=u)(hg:W.heap[g]? =some (.cells #[old] T (0,0)))(hsz:(Tryz.prog.info? T).map (·.size)=some 1)(o1:u.oneCell'=true):(execOp ρ o).run Tryz.prog W= .ok .skip (W.setRow g #[u]):=by
 unfold execOp;simp only [ho,hx,hy,Instr.storeAt,Instr.sureAddr,Sem.run_bind,Sem.run_pure,Result.andThen_ok,run_storeVar_one W g T T old _ hg hsz o1]
end
instance iCeint:CeT 3:=⟨_,Tryz.underlying3,rfl⟩
theorem size_int:(Tryz.prog.info? 3).map (·.size)=some 1:=by kernel_rfl
def VNw (n:Nat)(cs:Array Value)(T:TypeId):VP:=fun v w=>∃g,n<=g/\VRow g cs T v w
theorem Stab_VNw {BT:List (TypeId×Nat×Nat)}{n:Nat}{cs:Array Value}{T:TypeId}(h1:∀e∈BT,e.1≠T):Stab BT (VNw n cs T):=fun _ _ _ ⟨g,e1,e2⟩ hr=>⟨g,e1,Stab_VRow h1 _ _ _ e2 hr⟩
theorem alloc_int (W:World):(Instr.alloc 3 true (.tuple #[])).run Tryz.prog W= .ok (.pointer (some ⟨W.heap.size,0,none⟩)) (W.alloc (.cells #[.int .i64 0] 3)):=by go_simp
theorem alloc_intN {ρ:Operand->Value}{o:Oper}{W:World}{n:Nat}(ho:o.op= .alloc 3)(hn:n<=W.heap.size):∃v w',(execOp ρ o).run Tryz.prog W= .ok (.value v) w'/\Below W.heap.size W w'/\VNw n #[.int .i64 0] 3 v w':=by
 refine⟨_,W.alloc (.cells #[.int .i64 0] 3),?_,below_new _ _,W.heap.size,hn,rfl,World.alloc_heap_new _ _⟩;unfold execOp;simp only [ho,Sem.run_bind,alloc_int,Sem.run_pure,Result.andThen_ok]
def whr (vs:List P2)(p:P2)(ks:List Nat):Int:=ks.foldl (fun s k=>if rgt (cv vs k) (cv vs (k+1)) p=true then -s else s) (-1)
theorem whr_snoc (vs:List P2)(p:P2)(ks:List Nat)(k:Nat):whr vs p (ks++ [k])=if rgt (cv vs k) (cv vs (k+1)) p=true then -whr vs p ks else whr vs p ks:=by simp [whr,List.foldl_append]
theorem whr_one (vs:List P2)(p:P2)(ks:List Nat):whr vs p ks=1∨whr vs p ks= -1:=by
 unfold whr
 suffices h:∀s:Int,s=1∨s= -1->ks.foldl (fun s k=>if rgt (cv vs k) (cv vs (k+1)) p=true then -s else s) s=1∨ks.foldl (fun s k=>if rgt (cv vs k) (cv vs (k+1)) p=true then -s else s) s= -1 from h _ (.inr rfl)
 induction ks with
 |nil=>exact fun s h=>h
 |cons k ks ih=>
  intro s h;rw [List.foldl_cons];refine ih _ ?_;split<;>omega
def hasI (vs:List P2)(p:P2):Int:=if ∃k∈List.range vs.length,hasS (cv vs k) (cv vs (k+1)) p=true then 0 else whr vs p (List.range vs.length)
theorem St.redo {n0 N:Nat}{w0:World}{L:List Bd}{SL:List (Nat×VP)}{a:Act}{w:World}(D:a.defers= [])(h:St n0 w0 N L SL ⟨a.tmps,[]⟩ w):St n0 w0 N L SL a w:=by
 cases a with
 |mk t d=>
  simp only at D;subst D;exact h
theorem ev_tmp {a:Act}{t:Nat}{v:Value}(h:a.tmps[t]? =some v):a.eval (.tmp t)=v:=by simp [Act.eval,Array.getD_eq_getD_getElem?,h]
theorem own_row {n g:Nat}{A B:World}{row:Option Nat}{cs:Array Value}{T:TypeId}{f:Nat×Nat}(h:A.heap[g]? =some (.cells cs T f))(hg:A.grownBy B row)(hr:∀r,row=some r->n<=r/\∃o:Obj,A.heap[r]? =some o/\o.isCells=false):B.heap[g]? =some (.cells cs T f):=
 (hg.block _ (lt_blk h) fun e=>by
  obtain⟨o,h1,h2⟩:=(hr _ e.symm).2;rw [h] at h1;cases h1
  cases h2).trans h
instance {g:Nat}{cs:Array Value}{T:TypeId}:Sb [] (VRow g cs T):=⟨Stab_VRow (by simp)⟩
instance {n:Nat}{cs:Array Value}{T:TypeId}:Sb [] (VNw n cs T):=⟨Stab_VNw (by simp)⟩
theorem cHas {w:World}{N:Nat}{vs:List P2}{p:P2}{lv v1:Value}(h1:Vv N p.1 p.2 v1 w)(hS:VSv N vs lv w)(hN1:1<=N:=by omega)(hN:N<=900:=by omega):Calls Tryz.prog 10 #[lv,v1] w (RV (Vi (hasI vs p)) w):=by
 have hmax:=VSv_max hS;obtain⟨pp,c,hlv⟩:=VSv_slice hS;subst hlv;refine calls_of_marks Tryz.func10 rfl ?_;simp only [Tryz.ntmps10,List.size_toArray,List.length_cons,List.length_nil,Nat.reduceAdd,Nat.reduceSub,Array.replicate_succ,Array.replicate_zero,List.push_toArray,List.append_toArray,List.nil_append,List.cons_append];generalize hA:(⟨_,_⟩:Act)=a0;have st0:St w.heap.size w 23 [] [(0,VEq (.slice pp vs.length c)),(1,VAt w (Vv N p.1 p.2))] a0 w:=by subst hA;exact St.begin rfl rfl (Lq.2 ⟨⟨_,rfl,rfl⟩,(Lq.2 ⟨⟨_,rfl,h1⟩,L0⟩)⟩)
 clear hA;refine Wm ?_
 refine rJ [] [VT,VNw w.heap.size #[.int .i64 0] 3] [⟨3,some 0,some 0,32,8,VAt w (Vv N p.1 p.2),VT⟩] [(0,VEq (.slice pp vs.length c)),(4,VNw w.heap.size #[.int .i64 0] 3)] st0 ⟨ks,(by refine k_mem SbB.out (by kernel_rfl) fun _ ac Y h hd=>⟨trivial,?_⟩;exact alloc_intN rfl h.n),trivial⟩ ?_;intro a1 w1 st1;obtain⟨x3,e3,hx3,-,cs3,y3,z3,t3,u3⟩:=st1.boxAt (b:=(.k 3 32 8 (VAt w (Vv N p.1 p.2)))) (.head _) rfl rfl;obtain⟨_,e4,g4,hg4,rfl,y4⟩:=st1.sl (4,VNw w.heap.size #[.int .i64 0] 3) (lS_mem rfl);have z3':cs3.size=8:=z3;have e0:=st1.val (t:=0) (u:=(.slice pp vs.length c)) (by simp);have hb1:=st1.k.below;have stA:St w1.heap.size w1 23 [] [(0,VEq (.slice pp vs.length c)),(3,VRow x3 cs3 32),(4,VRow g4 #[.int .i64 0] 3)] a1 w1:=⟨⟨Below.refl _ _,L0,L0,L0⟩,Nat.le_refl _,st1.size,st1.defers,(Lq.2 ⟨⟨_,e0,rfl⟩,(Lq.2 ⟨⟨_,e3,rfl,y3⟩,(Lq.2 ⟨⟨_,e4,rfl,y4⟩,L0⟩)⟩)⟩)⟩;refine Wm ?_
 refine rgS (BT:=[]) (k:=1) (Vl:=[VNw w1.heap.size #[.int .i64 0] 3]) (B:=[]) (SL':=[(0,VEq (.slice pp vs.length c)),(3,VRow x3 cs3 32),(4,VRow g4 #[.int .i64 0] 3),(5,VNw w1.heap.size #[.int .i64 0] 3)]) stA.defers stA.undef ⟨?s0,trivial⟩ rfl rfl rfl rfl (fun _ e=>by cases e) (by kernel_rfl) rfl ?tail rfl (by kernel_rfl);case s0=>refine k_mem SbB.out (by kernel_rfl) fun _ ac Y h hd=>⟨trivial,?_⟩;exact alloc_intN rfl h.n
 case tail=>
 intro a2 w2 hd2 st2;obtain⟨_,e5,g5,hg5,rfl,y5⟩:=st2.sl (5,VNw w1.heap.size #[.int .i64 0] 3) (lS_mem rfl);obtain⟨_,f0,rfl⟩:=st2.sl (0,VEq (.slice pp vs.length c)) (lS_mem rfl);obtain⟨_,f3,rfl,qf3⟩:=st2.sl (3,VRow x3 cs3 32) (lS_mem rfl);obtain⟨_,f4,rfl,qf4⟩:=st2.sl (4,VRow g4 #[.int .i64 0] 3) (lS_mem rfl);have hlt4:=lt_blk y4;have hlt3:=lt_blk y3;refine⟨_,run_store1 (u:= .int .i64 (-1)) (old:= .int .i64 0) rfl (ev_tmp e5) rfl y5 size_int rfl,?_⟩;have st3:=(St.redo hd2 (st2.setRow (cs:=#[.int .i64 (-1)]) (SL':=[(0,VEq (.slice pp vs.length c)),(3,VRow x3 cs3 32),(4,VRow g4 #[.int .i64 0] 3),(5,VRow g5 #[.int .i64 (-1)] 3)]) hg5 (Lq.2 ⟨⟨_,f0,rfl⟩,(Lq.2 ⟨⟨_,f3,VRow_set ⟨rfl,qf3⟩ (by omega)⟩,(Lq.2 ⟨⟨_,f4,VRow_set ⟨rfl,qf4⟩ (by omega)⟩,(Lq.2 ⟨⟨_,e5,rfl,setRow_heap _ _ _ _ _ _ y5⟩,L0⟩)⟩)⟩)⟩))).lowB hb1 hb1.size;have hn45:g4≠g5:=by omega
 have hn35:x3≠g5:=by omega
 have hn34:x3≠g4:=by rintro rfl;rw [y3] at y4;cases y4
 have hg5w:w.heap.size<=g5:=Nat.le_trans hb1.size hg5;clear st2 stA st1 y5 qf3 qf4 f0 f3 f4 e5 e0 e3 e4 hg5 hlt4 hlt3 y3 y4;generalize w2.setRow g5 #[.int .i64 (-1)]=W3 at st3 ⊢;refine Wm ?_
 have:Sb [] (VSd (.slice pp vs.length c)):=⟨Stab_VSd (by simp) (by simp)⟩;refine rJ [] [VEq (.slice pp vs.length c),VSd (.slice pp vs.length c)] [] [(0,VEq (.slice pp vs.length c)),(3,VRow x3 cs3 32),(4,VRow g4 #[.int .i64 0] 3),(5,VRow g5 #[.int .i64 (-1)] 3),(9,VSd (.slice pp vs.length c))] st3 ⟨ks,(by refine kc fun _ ac Y h hd=>?_;obtain⟨v0,hv0,X0⟩:=h.dp hd 8;obtain rfl:v0=_:=X0;exact⟨#[(.slice pp vs.length c)],by simp [hv0],cSides⟩),trivial⟩ ?_;intro a5 w5 st5;have hsd:=st5.sl (9,VSd (.slice pp vs.length c)) (lS_mem rfl);obtain⟨_,f0,rfl⟩:=st5.sl (0,VEq (.slice pp vs.length c)) (lS_mem rfl);obtain⟨_,f3,rfl,qf3⟩:=st5.sl (3,VRow x3 cs3 32) (lS_mem rfl);obtain⟨_,f4,rfl,qf4⟩:=st5.sl (4,VRow g4 #[.int .i64 0] 3) (lS_mem rfl);obtain⟨_,f5,rfl,qf5⟩:=st5.sl (5,VRow g5 #[.int .i64 (-1)] 3) (lS_mem rfl);have stB:St w.heap.size w 23 [] [(0,VEq (.slice pp vs.length c)),(3,VEq (.pointer (some ⟨x3,0,none⟩))),(4,VEq (.pointer (some ⟨g4,0,none⟩))),(5,VEq (.pointer (some ⟨g5,0,none⟩)))] a5 w5:=st5.slots (Lq.2 ⟨⟨_,f0,rfl⟩,(Lq.2 ⟨⟨_,f3,rfl⟩,(Lq.2 ⟨⟨_,f4,rfl⟩,(Lq.2 ⟨⟨_,f5,rfl⟩,L0⟩)⟩)⟩)⟩);have hnb:=st5.n;refine Wm ?_
 refine range_sides (n:=5) (Nf:=23) (t:=7) (N:=N) (vs:=vs) (lv:=(.slice pp vs.length c)) (BT:=[(73,16,0),(3,1,0)]) (fun _=>[]) (fun _=>[]) (fun (ks:List Nat) (W:World)=>W.heap[x3]? =some (.cells cs3 32 (0,0))/\W.heap[g4]? =some (.cells #[.int .i64 0] 3 (0,0))/\W.heap[g5]? =some (.cells #[.int .i64 (whr vs p ks)] 3 (0,0))/\∀k∈ks,¬hasS (cv vs k) (cv vs (k+1)) p=true) (fun (ks:List Nat) (W:World)=>W.heap[g4]? =some (.cells #[.int .i64 0] 3 (0,0))/\∃k∈ks,hasS (cv vs k) (cv vs (k+1)) p=true) [(0,VEq (.slice pp vs.length c)),(3,VEq (.pointer (some ⟨x3,0,none⟩))),(4,VEq (.pointer (some ⟨g4,0,none⟩))),(5,VEq (.pointer (some ⟨g5,0,none⟩)))] stB ⟨qf3,qf4,qf5,by simp⟩ (fun _=>[]) (fun ks s A B row hs hg hr=>⟨own_row hs.1 hg hr,own_row hs.2.1 hg hr,own_row hs.2.2.1 hg hr,hs.2.2.2⟩) (fun ks s A B row hs hg hr=>⟨own_row hs.1 hg hr,hs.2⟩) hsd hS (fun _=>L0) (fun _=>L0) (Lq.2 ⟨⟨_,rfl⟩,(Lq.2 ⟨⟨_,rfl⟩,(Lq.2 ⟨⟨_,rfl⟩,(Lq.2 ⟨⟨_,rfl⟩,L0⟩)⟩)⟩)⟩) (by decide) (by decide) (by decide) (Lq.2 ⟨⟨by simp,by simp⟩,(Lq.2 ⟨⟨by simp,by simp⟩,(Lq.2 ⟨⟨by simp,by simp⟩,(Lq.2 ⟨⟨by simp,by simp⟩,L0⟩)⟩)⟩)⟩) (by decide) (by simp) (by simp) ?assign ?body (fun _ _=>L0) (fun _=>L0) ?done ?stop
 case assign=>
  intro l k a1 W K hnW hbW st1 hK;refine Wm ?_
  refine rJ [(73,16,0)] [VT,VT] [⟨7,some 0,some 1,73,16,VAt w (VSg N vs k),VT⟩] [(11,VAt w (VSg N vs k)),(10,Vi (k:Int)),(0,VEq (.slice pp vs.length c)),(3,VEq (.pointer (some ⟨x3,0,none⟩))),(4,VEq (.pointer (some ⟨g4,0,none⟩))),(5,VEq (.pointer (some ⟨g5,0,none⟩)))] st1 ⟨ks,ks,trivial⟩ ?_;intro a2 w2 st2;exact hK _ _ st2.cut
 case body=>
  intro l k xs a1 W hk hlen st1 hE1;obtain⟨r3,r4,r5,rn⟩:=hE1;obtain⟨_,d0,rfl⟩:=st1.sl (0,VEq (.slice pp vs.length c)) (lS_mem rfl);obtain⟨_,d3,rfl⟩:=st1.sl (3,VEq (.pointer (some ⟨x3,0,none⟩))) (lS_mem rfl);obtain⟨_,d4,rfl⟩:=st1.sl (4,VEq (.pointer (some ⟨g4,0,none⟩))) (lS_mem rfl);obtain⟨_,d5,rfl⟩:=st1.sl (5,VEq (.pointer (some ⟨g5,0,none⟩))) (lS_mem rfl);obtain⟨vk,d10,hvk⟩:=st1.sl (10,VKR w5.heap.size [(73,16,0),(3,1,0)] W) (lS_mem rfl);have stC:St w.heap.size w 23 [.k 7 73 16 (VAt w (VSg N vs k))] [(10,VKR w5.heap.size [(73,16,0),(3,1,0)] W),(0,VEq (.slice pp vs.length c)),(3,VRow x3 cs3 32),(4,VRow g4 #[.int .i64 0] 3),(5,VRow g5 #[.int .i64 (whr vs p xs)] 3)] a1 W:=st1.slots (Lq.2 ⟨⟨vk,d10,hvk⟩,(Lq.2 ⟨⟨_,d0,rfl⟩,(Lq.2 ⟨⟨_,d3,rfl,r3⟩,(Lq.2 ⟨⟨_,d4,rfl,r4⟩,(Lq.2 ⟨⟨_,d5,rfl,r5⟩,L0⟩)⟩)⟩)⟩)⟩);have:Sb [] (VKR w5.heap.size [(73,16,0),(3,1,0)] W):=⟨Stab_VKR (by simp) (by simp)⟩;have h1x:=whr_one vs p xs;have hws:=whr_snoc vs p xs k;by_cases hc:hasS (cv vs k) (cv vs (k+1)) p=true
  ·refine Wm ?_
   refine rJ [] [VAt w (VSg N vs k),VAt w (Vv N p.1 p.2),Vb true,Vb true] [.k 7 73 16 (VAt w (VSg N vs k))] [(10,VKR w5.heap.size [(73,16,0),(3,1,0)] W),(0,VEq (.slice pp vs.length c)),(3,VRow x3 cs3 32),(4,VRow g4 #[.int .i64 0] 3),(5,VRow g5 #[.int .i64 (whr vs p xs)] 3),(12,Vb true)] stC ⟨ks,(by refine kr fun _ ac Y h hd=>?_;obtain⟨v0,hv0,X0⟩:=h.ot 3;exact load_Row rfl hv0 X0 Tryz.underlying32 rfl (by rw [z3'];exact size_Vec) u3),(by exact kd2 fun _ _ Y h v0 X0 v1 X1=>by have:=cSgHas (VSg_now (show VAt w (VSg N vs k) v0 Y from X0) h.k.below) (VAt_cur (Stab_Vv _ _ _) (show VAt w (Vv N p.1 p.2) v1 Y from X1) h.k.below) hN1;rw [hc] at this;exact this),ks,trivial⟩ ?_;intro a2 w2 st2;refine Wm ?_
   refine cTI st2 ?_;refine Wm ?_
   refine rgS (BT:=[]) (k:=0) (Vl:=[]) (B:=[]) (SL':=[(10,VKR w5.heap.size [(73,16,0),(3,1,0)] W),(0,VEq (.slice pp vs.length c)),(3,VRow x3 cs3 32),(4,VRow g4 #[.int .i64 0] 3),(5,VRow g5 #[.int .i64 (whr vs p xs)] 3)]) st2.defers (St.cut (L':=[]) (SL':=[(10,VKR w5.heap.size [(73,16,0),(3,1,0)] W),(0,VEq (.slice pp vs.length c)),(3,VRow x3 cs3 32),(4,VRow g4 #[.int .i64 0] 3),(5,VRow g5 #[.int .i64 (whr vs p xs)] 3)]) st2.undef) trivial rfl rfl rfl rfl (fun _ e=>by cases e) (by kernel_rfl) rfl ?_ rfl (by kernel_rfl);intro a3 w3 hd3 st3;obtain⟨_,f4,rfl,qf4⟩:=st3.sl (4,VRow g4 #[.int .i64 0] 3) (lS_mem rfl);obtain⟨_,f0,rfl⟩:=st3.sl (0,VEq (.slice pp vs.length c)) (lS_mem rfl);obtain⟨_,f3,rfl,qf3⟩:=st3.sl (3,VRow x3 cs3 32) (lS_mem rfl);obtain⟨_,f5,rfl,qf5⟩:=st3.sl (5,VRow g5 #[.int .i64 (whr vs p xs)] 3) (lS_mem rfl);obtain⟨vk2,f10,hk2⟩:=st3.sl (10,VKR w5.heap.size [(73,16,0),(3,1,0)] W) (lS_mem rfl);refine⟨_,run_store1 (u:= .int .i64 0) rfl (ev_tmp f4) rfl qf4 size_int rfl,?_⟩;have st4:=St.redo hd3 (st3.setRow (cs:=#[.int .i64 0]) (SL':=[(10,VKR w5.heap.size [(73,16,0),(3,1,0)] W),(0,VEq (.slice pp vs.length c)),(3,VEq (.pointer (some ⟨x3,0,none⟩))),(4,VEq (.pointer (some ⟨g4,0,none⟩))),(5,VEq (.pointer (some ⟨g5,0,none⟩)))]) hg4 (Lq.2 ⟨⟨vk2,f10,VKR_setRow (v:=vk2) hk2 qf4 ⟨_,.tail _ (.head _),rfl⟩⟩,(Lq.2 ⟨⟨_,f0,rfl⟩,(Lq.2 ⟨⟨_,f3,rfl⟩,(Lq.2 ⟨⟨_,f4,rfl⟩,(Lq.2 ⟨⟨_,f5,rfl⟩,L0⟩)⟩)⟩)⟩)⟩));refine Wm ?_
   exact wpIn_ret ⟨st4,setRow_heap _ _ _ _ _ _ qf4,k,by simp,hc⟩
  ·refine Wm ?_
   refine rJ [] [VAt w (VSg N vs k),VAt w (Vv N p.1 p.2),Vb false,Vb false] [.k 7 73 16 (VAt w (VSg N vs k))] [(10,VKR w5.heap.size [(73,16,0),(3,1,0)] W),(0,VEq (.slice pp vs.length c)),(3,VRow x3 cs3 32),(4,VRow g4 #[.int .i64 0] 3),(5,VRow g5 #[.int .i64 (whr vs p xs)] 3),(12,Vb false)] stC ⟨ks,(by refine kr fun _ ac Y h hd=>?_;obtain⟨v0,hv0,X0⟩:=h.ot 3;exact load_Row rfl hv0 X0 Tryz.underlying32 rfl (by rw [z3'];exact size_Vec) u3),(by exact kd2 fun _ _ Y h v0 X0 v1 X1=>by have:=cSgHas (VSg_now (show VAt w (VSg N vs k) v0 Y from X0) h.k.below) (VAt_cur (Stab_Vv _ _ _) (show VAt w (Vv N p.1 p.2) v1 Y from X1) h.k.below) hN1;rw [Bool.eq_false_iff.2 hc] at this;exact this),ks,trivial⟩ ?_;intro a2 w2 st2;refine Wm ?_
   refine cFI st2 ?_;refine Wm ?_
   by_cases hr:rgt (cv vs k) (cv vs (k+1)) p=true
   ·rw [if_pos hr] at hws;refine rJ [] [VAt w (VSg N vs k),VAt w (Vv N p.1 p.2),Vb true,Vb true] [.k 7 73 16 (VAt w (VSg N vs k))] [(10,VKR w5.heap.size [(73,16,0),(3,1,0)] W),(0,VEq (.slice pp vs.length c)),(3,VRow x3 cs3 32),(4,VRow g4 #[.int .i64 0] 3),(5,VRow g5 #[.int .i64 (whr vs p xs)] 3),(16,Vb true)] st2 ⟨ks,(by refine kr fun _ ac Y h hd=>?_;obtain⟨v0,hv0,X0⟩:=h.ot 3;exact load_Row rfl hv0 X0 Tryz.underlying32 rfl (by rw [z3'];exact size_Vec) u3),(by exact kd2 fun _ _ Y h v0 X0 v1 X1=>by have:=cSgRight (VSg_now (show VAt w (VSg N vs k) v0 Y from X0) h.k.below) (VAt_cur (Stab_Vv _ _ _) (show VAt w (Vv N p.1 p.2) v1 Y from X1) h.k.below) hN1;rw [hr] at this;exact this),ks,trivial⟩ ?_;intro a3 w3 st3;refine Wm ?_
    refine cTI st3 ?_;refine Wm ?_
    refine rgS (BT:=[]) (k:=2) (Vl:=[VEq (.int .i64 (whr vs p xs)),VEq (.int .i64 (-whr vs p xs))]) (B:=[]) (SL':=[(10,VKR w5.heap.size [(73,16,0),(3,1,0)] W),(0,VEq (.slice pp vs.length c)),(3,VRow x3 cs3 32),(4,VRow g4 #[.int .i64 0] 3),(5,VRow g5 #[.int .i64 (whr vs p xs)] 3),(21,VEq (.int .i64 (-whr vs p xs)))]) st3.defers (St.cut (L':=[]) (SL':=[(10,VKR w5.heap.size [(73,16,0),(3,1,0)] W),(0,VEq (.slice pp vs.length c)),(3,VRow x3 cs3 32),(4,VRow g4 #[.int .i64 0] 3),(5,VRow g5 #[.int .i64 (whr vs p xs)] 3)]) st3.undef) ⟨?s0,?s1,trivial⟩ rfl rfl rfl rfl (fun _ e=>by cases e) (by kernel_rfl) rfl ?_ rfl (by kernel_rfl);case s0=>refine kr fun _ ac Y h hd=>?_;obtain⟨v0,hv0,X0⟩:=h.ot 5;exact load_Row1 rfl hv0 X0
    case s1=>exact kr1 20 fun _ _ _ _ _ hv0 X0=>⟨_,run_negi rfl (hv0.trans X0) wO,rfl⟩
    intro a4 w4 hd4 st4;obtain⟨_,f4,rfl,qf4⟩:=st4.sl (4,VRow g4 #[.int .i64 0] 3) (lS_mem rfl);obtain⟨_,f0,rfl⟩:=st4.sl (0,VEq (.slice pp vs.length c)) (lS_mem rfl);obtain⟨_,f21,rfl⟩:=st4.sl (21,VEq (.int .i64 (-whr vs p xs))) (lS_mem rfl);obtain⟨_,f3,rfl,qf3⟩:=st4.sl (3,VRow x3 cs3 32) (lS_mem rfl);obtain⟨_,f5,rfl,qf5⟩:=st4.sl (5,VRow g5 #[.int .i64 (whr vs p xs)] 3) (lS_mem rfl);obtain⟨vk2,f10,hk2⟩:=st4.sl (10,VKR w5.heap.size [(73,16,0),(3,1,0)] W) (lS_mem rfl);refine⟨_,run_store1 rfl (ev_tmp f5) (ev_tmp f21) qf5 size_int rfl,?_⟩;have st5:=St.redo hd4 (st4.setRow (cs:=#[.int .i64 (-whr vs p xs)]) (SL':=[(10,VKR w5.heap.size [(73,16,0),(3,1,0)] W),(0,VEq (.slice pp vs.length c)),(3,VEq (.pointer (some ⟨x3,0,none⟩))),(4,VEq (.pointer (some ⟨g4,0,none⟩))),(5,VEq (.pointer (some ⟨g5,0,none⟩)))]) hg5w (Lq.2 ⟨⟨vk2,f10,VKR_setRow (v:=vk2) hk2 qf5 ⟨_,.tail _ (.head _),rfl⟩⟩,(Lq.2 ⟨⟨_,f0,rfl⟩,(Lq.2 ⟨⟨_,f3,rfl⟩,(Lq.2 ⟨⟨_,f4,rfl⟩,(Lq.2 ⟨⟨_,f5,rfl⟩,L0⟩)⟩)⟩)⟩)⟩));refine Wm ?_
    refine⟨st5,(setRow_other _ _ _ _ hn35).trans qf3,(setRow_other _ _ _ _ hn45).trans qf4,?_,fun j hj=>?_⟩
    ·rw [hws];exact setRow_heap _ _ _ _ _ _ qf5
    ·rcases List.mem_append.1 hj with hj|hj
     ·exact rn j hj
     ·rw [List.mem_singleton.1 hj];exact hc
   ·rw [if_neg hr] at hws;refine rJ [] [VAt w (VSg N vs k),VAt w (Vv N p.1 p.2),Vb false,Vb false] [.k 7 73 16 (VAt w (VSg N vs k))] [(10,VKR w5.heap.size [(73,16,0),(3,1,0)] W),(0,VEq (.slice pp vs.length c)),(3,VRow x3 cs3 32),(4,VRow g4 #[.int .i64 0] 3),(5,VRow g5 #[.int .i64 (whr vs p xs)] 3),(16,Vb false)] st2 ⟨ks,(by refine kr fun _ ac Y h hd=>?_;obtain⟨v0,hv0,X0⟩:=h.ot 3;exact load_Row rfl hv0 X0 Tryz.underlying32 rfl (by rw [z3'];exact size_Vec) u3),(by exact kd2 fun _ _ Y h v0 X0 v1 X1=>by have:=cSgRight (VSg_now (show VAt w (VSg N vs k) v0 Y from X0) h.k.below) (VAt_cur (Stab_Vv _ _ _) (show VAt w (Vv N p.1 p.2) v1 Y from X1) h.k.below) hN1;rw [Bool.eq_false_iff.2 hr] at this;exact this),ks,trivial⟩ ?_;intro a3 w3 st3;refine Wm ?_
    refine cFI st3 ?_;refine Wm ?_
    obtain⟨_,f4,rfl,qf4⟩:=st3.sl (4,VRow g4 #[.int .i64 0] 3) (lS_mem rfl);obtain⟨_,f0,rfl⟩:=st3.sl (0,VEq (.slice pp vs.length c)) (lS_mem rfl);obtain⟨_,f3,rfl,qf3⟩:=st3.sl (3,VRow x3 cs3 32) (lS_mem rfl);obtain⟨_,f5,rfl,qf5⟩:=st3.sl (5,VRow g5 #[.int .i64 (whr vs p xs)] 3) (lS_mem rfl);obtain⟨vk2,f10,hk2⟩:=st3.sl (10,VKR w5.heap.size [(73,16,0),(3,1,0)] W) (lS_mem rfl);have st5:St w.heap.size w 23 [] [(10,VKR w5.heap.size [(73,16,0),(3,1,0)] W),(0,VEq (.slice pp vs.length c)),(3,VEq (.pointer (some ⟨x3,0,none⟩))),(4,VEq (.pointer (some ⟨g4,0,none⟩))),(5,VEq (.pointer (some ⟨g5,0,none⟩)))] a3 w3:=St.slots (L:=[]) (St.cut (L':=[]) (SL':=[]) st3) (Lq.2 ⟨⟨vk2,f10,hk2⟩,(Lq.2 ⟨⟨_,f0,rfl⟩,(Lq.2 ⟨⟨_,f3,rfl⟩,(Lq.2 ⟨⟨_,f4,rfl⟩,(Lq.2 ⟨⟨_,f5,rfl⟩,L0⟩)⟩)⟩)⟩)⟩);refine⟨st5,qf3,qf4,?_,fun j hj=>?_⟩
    ·rw [hws];exact qf5
    ·rcases List.mem_append.1 hj with hj|hj
     ·exact rn j hj
     ·rw [List.mem_singleton.1 hj];exact hc
 case stop=>
  intro D j W hD hj st1 hE1 hK;obtain⟨_,f4,rfl⟩:=st1.sl (4,VEq (.pointer (some ⟨g4,0,none⟩))) (lS_mem rfl);have hne:g4≠D:=by rintro rfl;have:=hE1.1;rw [hK] at this;cases this
  refine wpIn_ret (ret_mark rfl hK (results_cell_one rfl _ _ g4 3 (.int .i64 0) (by simp [Array.getD_eq_getD_getElem?,f4]) ((World.putObj_heap_other hne).trans hE1.1)) ⟨_,rfl,?_,st1.k.below.grown (grownBy_putObj' _ _ _) st1.k.below.size fun k e=>by cases e;omega⟩);obtain⟨k,hk,hk2⟩:=hE1.2;exact congrArg (Value.int .i64) (if_pos ⟨k,List.mem_range.2 (Nat.lt_of_lt_of_le (List.mem_range.1 hk) hj),hk2⟩).symm
 case done=>
  intro D W hD st1 hE1 hK;obtain⟨r3,r4,r5,rn⟩:=hE1;obtain⟨_,d4,rfl⟩:=st1.sl (4,VEq (.pointer (some ⟨g4,0,none⟩))) (lS_mem rfl);obtain⟨_,d5,rfl⟩:=st1.sl (5,VEq (.pointer (some ⟨g5,0,none⟩))) (lS_mem rfl);have hds:({a5 with defers:=[{target:= .collected D,args:=#[]}]}:Act).defers= [{target:= .collected D,args:=#[]}]:=rfl;have d9:a5.tmps[9]? =some (a5.tmps[9]'(by rw [st1.size];decide)):=Array.getElem?_eq_getElem _;have stD:St w.heap.size w 23 [] [(9,VOb D),(4,VRow g4 #[.int .i64 0] 3),(5,VRow g5 #[.int .i64 (whr vs p (List.range vs.length))] 3)] ⟨({a5 with defers:=[{target:= .collected D,args:=#[]}]}:Act).tmps,[]⟩ W:=(st1.undef).slots (Lq.2 ⟨⟨_,d9,hK⟩,(Lq.2 ⟨⟨_,d4,rfl,r4⟩,(Lq.2 ⟨⟨_,d5,rfl,r5⟩,L0⟩)⟩)⟩);generalize({a5 with defers:=[{target:= .collected D,args:=#[]}]}:Act)=aD at stD hds ⊢;have:Sb [] (VOb D):=⟨Stab_VOb (by simp)⟩;refine Wm ?_
  refine rgS (BT:=[]) (k:=1) (Vl:=[VEq (.int .i64 (whr vs p (List.range vs.length)))]) (B:=[]) (SL':=[(9,VOb D),(4,VRow g4 #[.int .i64 0] 3),(22,VEq (.int .i64 (whr vs p (List.range vs.length))))]) hds stD ⟨?s0,trivial⟩ rfl rfl rfl rfl (fun _ e=>by cases e) (by kernel_rfl) rfl ?_ rfl (by kernel_rfl);case s0=>refine kr fun _ ac Y h hd=>?_;obtain⟨v0,hv0,X0⟩:=h.ot 5;exact load_Row1 rfl hv0 X0
  intro a6 w6 hd6 st6;obtain⟨_,f4,rfl,qf4⟩:=st6.sl (4,VRow g4 #[.int .i64 0] 3) (lS_mem rfl);obtain⟨_,f22,rfl⟩:=st6.sl (22,VEq (.int .i64 (whr vs p (List.range vs.length)))) (lS_mem rfl);obtain⟨_,f9,hK6⟩:=st6.sl (9,VOb D) (lS_mem rfl);have hK6:w6.heap[D]? =some (.deferred (some [])):=hK6;have hne:g4≠D:=by rintro rfl;rw [hK6] at qf4;cases qf4
  refine⟨_,run_store1 rfl (ev_tmp f4) (ev_tmp f22) qf4 size_int rfl,?_⟩;refine Wm ?_
  have hbF:=below_setRow (cs:=#[.int .i64 (whr vs p (List.range vs.length))]) st6.k.below hg4;refine wpIn_ret (ret_mark hd6 ((setRow_other _ _ _ _ (Ne.symm hne)).trans hK6) (results_cell_one rfl _ _ g4 3 (.int .i64 (whr vs p (List.range vs.length))) (by have f4':a6.tmps[4]? =some (.pointer (some ⟨g4,0,none⟩)):=f4;simp [Array.getD_eq_getD_getElem?,f4']) ((World.putObj_heap_other hne).trans (setRow_heap _ _ _ _ _ _ qf4))) ⟨_,rfl,?_,hbF.grown (grownBy_putObj' _ _ _) hbF.size fun k e=>by cases e;omega⟩);exact congrArg (Value.int .i64) (if_neg (by rintro⟨k,hk,hk2⟩;exact rn k hk hk2)).symm
end Go.Proofs.YteacdbgalloaiaaGreat
