/- Contracts of the packages integer, rat, plane, polygon and their references. -/
import Derived.Test.YteacdbgalloaiaaGreatX18
import Derived.Test.YteacdbgalloaiaaGreatX9
set_option linter.unusedVariables false
set_option maxRecDepth 100000
set_option maxHeartbeats 6400000
namespace Go.Proofs.YteacdbgalloaiaaGreat
open Go.RowKit
section
variable {BT:List (TypeId×Nat×Nat)}
theorem cR4ValidZ {w:World}{N:Nat}{x y:Int}{v0:Value}(h0:VP2 2 2 (Vz N x) (Vz N y) v0 w)(h3:3<=N:=by omega)(hN:N<=100000:=by omega):Calls Tryz.prog 115 #[v0] w (RV (Vb (decide (y=0∨(1<y/\Int.gcd x y=1)))) w):=by
 go_enter Tryz.func115,Tryz.ntmps115
 refine Sg 34 [(0,VP2 2 2 (Vz N x) (Vz N y))] (Lq.2 ⟨⟨_,rfl,h0⟩,L0⟩) fun a0 st0=>Wn ?_
 refine rH [] [VT,Vb false] [⟨1,some 0,some 0,30,4,VP2 2 2 (Vz N x) (Vz N y),VT⟩] [(2,Vb false)] st0 ⟨ks,ks,trivial⟩ ?_;intro a1 w1 st1;by_cases hl:y<0
 ·
  refine Wn ?_
  refine rH [] [Vpt a1 1 0,Vz N x,Vb true,Vb false,Vb false,Vpt a1 1 2,Vz N y,Vb true,Vb false,Vb false,Vb false,Vpt a1 1 2,Vpt a1 1 2,Vb true,Vb true,Vb true,VT,VT,VT,Vb true] [.k 1 30 4 (VP2 2 2 (Vz N x) (Vz N y))] [(2,Vb false),(22,Vb true)] st1 ⟨ks,ks,(kd1 fun _ _ _ _ _ X0=>cR3Valid X0),ks,ks,ks,ks,(kd1 fun _ _ _ _ _ X0=>cR3Valid X0),ks,ks,ks,ks,ks,(by exact k_cell (j:=12) (off:=2) SbB.out (by kernel_rfl) (.head _) rfl rfl rfl (by kernel_rfl) (by kernel_rfl) rfl (by kernel_rfl) (fun cs w h=>vzz_N2T h hl) Tryz.underlying4 rfl fun listed A Y h D=>⟨(by obtain⟨u,hu,hy,hU⟩:=h.dep D 10 13 (by kernel_rfl) (by kernel_rfl);obtain rfl:u= .bool false:=hU;exact hy),trivial⟩),ks,ks,ks,ks,ks,ks,trivial⟩ fun a2 w2 st2=>Wn ?_
  refine cT st2 ?_;refine Wn ?_
  refine rH [] [Vb false] [.k 1 30 4 (VP2 2 2 (Vz N x) (Vz N y))] [(22,Vb true),(2,Vb false)] st2 ⟨ks,trivial⟩ fun a3 w3 st3=>Wn ?_
  exact wp_ret (rS 2 (Vb false) st3 fun vr r4=>(by rw [dF (show ¬(y=0∨(1<y/\Int.gcd x y=1)) by omega)];exact r4))
 ·
  by_cases h1:y=1
  ·
   refine Wn ?_
   refine rH [] [Vpt a1 1 0,Vz N x,Vb true,Vb false,Vb false,Vpt a1 1 2,Vz N y,Vb true,Vb false,Vb false,Vb false,Vpt a1 1 2,Vpt a1 1 2,Vb false,Vb false,Vb false,Vpt a1 1 2,Vz N y,Vb true,Vb true] [.k 1 30 4 (VP2 2 2 (Vz N x) (Vz N y))] [(2,Vb false),(22,Vb true)] st1 ⟨ks,ks,(kd1 fun _ _ _ _ _ X0=>cR3Valid X0),ks,ks,ks,ks,(kd1 fun _ _ _ _ _ X0=>cR3Valid X0),ks,ks,ks,ks,ks,(by exact k_cell (j:=12) (off:=2) SbB.out (by kernel_rfl) (.head _) rfl rfl rfl (by kernel_rfl) (by kernel_rfl) rfl (by kernel_rfl) (fun cs w h=>vzz_N2F h hl) Tryz.underlying4 rfl fun listed A Y h D=>⟨(by obtain⟨u,hu,hy,hU⟩:=h.dep D 10 13 (by kernel_rfl) (by kernel_rfl);obtain rfl:u= .bool false:=hU;exact hy),trivial⟩),ks,ks,ks,ks,(kd1 fun _ _ _ h _ X0=>(cR4One X0).mono fun e w h=>h.le fun v w hv=>hv.trans (congrArg Value.bool (dT h1))),ks,trivial⟩ fun a2 w2 st2=>Wn ?_
   refine cT st2 ?_;refine Wn ?_
   refine rH [] [Vb false] [.k 1 30 4 (VP2 2 2 (Vz N x) (Vz N y))] [(22,Vb true),(2,Vb false)] st2 ⟨ks,trivial⟩ fun a3 w3 st3=>Wn ?_
   exact wp_ret (rS 2 (Vb false) st3 fun vr r4=>(by rw [dF (show ¬(y=0∨(1<y/\Int.gcd x y=1)) by omega)];exact r4))
  ·
   refine Wn ?_
   refine rH [] [Vpt a1 1 0,Vz N x,Vb true,Vb false,Vb false,Vpt a1 1 2,Vz N y,Vb true,Vb false,Vb false,Vb false,Vpt a1 1 2,Vpt a1 1 2,Vb false,Vb false,Vb false,Vpt a1 1 2,Vz N y,Vb false,Vb false] [.k 1 30 4 (VP2 2 2 (Vz N x) (Vz N y))] [(2,Vb false),(22,Vb false)] st1 ⟨ks,ks,(kd1 fun _ _ _ _ _ X0=>cR3Valid X0),ks,ks,ks,ks,(kd1 fun _ _ _ _ _ X0=>cR3Valid X0),ks,ks,ks,ks,ks,(by exact k_cell (j:=12) (off:=2) SbB.out (by kernel_rfl) (.head _) rfl rfl rfl (by kernel_rfl) (by kernel_rfl) rfl (by kernel_rfl) (fun cs w h=>vzz_N2F h hl) Tryz.underlying4 rfl fun listed A Y h D=>⟨(by obtain⟨u,hu,hy,hU⟩:=h.dep D 10 13 (by kernel_rfl) (by kernel_rfl);obtain rfl:u= .bool false:=hU;exact hy),trivial⟩),ks,ks,ks,ks,(kd1 fun _ _ _ h _ X0=>(cR4One X0).mono fun e w h=>h.le fun v w hv=>hv.trans (congrArg Value.bool (dF h1))),ks,trivial⟩ fun a2 w2 st2=>Wn ?_
   refine cF st2 ?_;by_cases hz:y=0
   ·
    refine Wn ?_
    refine rH [] [Vpt a2 1 2,Vpt a2 1 3,VD N y,Vi ((digs y.natAbs).length:Int),Vb true] [.k 1 30 4 (VP2 2 2 (Vz N x) (Vz N y))] [(2,Vb false),(22,Vb false),(27,Vb true)] st2 ⟨ks,ks,ks,(by refine kr fun _ A Y h D=>?_;obtain⟨v0,x0,X0⟩:=h.dp D 25;obtain⟨pp,nn,cc,rfl,hnn,-⟩:=X0;exact⟨_,run_len rfl rfl x0,by rw [hnn];rfl⟩),(by refine kr fun _ A Y h D=>?_;obtain⟨v0,x0,X0⟩:=h.dp D 26;have hV0':v0= .int .i64 ((digs y.natAbs).length:Int):=X0;exact⟨_,run_eqi rfl (x0.trans hV0') rfl,congrArg Value.bool (by rw [len_eq0];exact dT hz)⟩),trivial⟩ ?_;intro a3 w3 st3;refine Wn ?_
    refine cT st3 ?_;refine Wn ?_
    refine rH [] [Vb true] [.k 1 30 4 (VP2 2 2 (Vz N x) (Vz N y))] [(22,Vb false),(27,Vb true),(2,Vb true)] st3 ⟨ks,trivial⟩ fun a4 w4 st4=>Wn ?_
    exact wp_ret (rS 2 (Vb true) st4 fun vr r4=>(by rw [dT (show y=0∨(1<y/\Int.gcd x y=1)from .inl hz)];exact r4))
   ·
    refine Wn ?_
    refine rH [] [Vpt a2 1 2,Vpt a2 1 3,VD N y,Vi ((digs y.natAbs).length:Int),Vb false] [.k 1 30 4 (VP2 2 2 (Vz N x) (Vz N y))] [(2,Vb false),(22,Vb false),(27,Vb false)] st2 ⟨ks,ks,ks,(by refine kr fun _ A Y h D=>?_;obtain⟨v0,x0,X0⟩:=h.dp D 25;obtain⟨pp,nn,cc,rfl,hnn,-⟩:=X0;exact⟨_,run_len rfl rfl x0,by rw [hnn];rfl⟩),(by refine kr fun _ A Y h D=>?_;obtain⟨v0,x0,X0⟩:=h.dp D 26;have hV0':v0= .int .i64 ((digs y.natAbs).length:Int):=X0;exact⟨_,run_eqi rfl (x0.trans hV0') rfl,congrArg Value.bool (by rw [len_eq0];exact dF hz)⟩),trivial⟩ ?_;intro a3 w3 st3;refine Wn ?_
    refine cF st3 ?_;refine Wn ?_
    refine rH [] [Vpt a3 1 0,Vz N x,Vpt a3 1 2,Vz N y,Vz N (Int.gcd x (y):Int),Vb (decide ((Int.gcd x (y):Int)=1)),Vb (decide ((Int.gcd x (y):Int)=1))] [.k 1 30 4 (VP2 2 2 (Vz N x) (Vz N y))] [(22,Vb false),(27,Vb false),(2,Vb (decide ((Int.gcd x (y):Int)=1)))] st3 ⟨ks,ks,ks,ks,(kd2 fun _ _ _ _ _ X0 _ X1=>cRGcd X0 X1),(kd1 fun _ _ _ _ _ X0=>cR4One X0),ks,trivial⟩ fun a4 w4 st4=>Wn ?_
    exact wp_ret (rS 2 (Vb (decide ((Int.gcd x (y):Int)=1))) st4 fun vr r4=>(by rw [decide_eq_decide.2 (show(y=0∨(1<y/\Int.gcd x y=1))↔((Int.gcd x y:Int)=1) by omega)];exact r4))
theorem q_low {q:Rat}:qd q=0∨(1<qd q/\Int.gcd q.num (qd q)=1):=by
 by_cases h:q.den=1
 ·exact .inl (if_pos h)
 ·have:=q.den_pos;exact .inr ⟨by rw [qd_of h];omega,by rw [qd_of h];exact q.reduced⟩
theorem cR4Valid {W:World}{N:Nat}{q:Rat}{v:Value}(h:Vq N q v W)(h3:3<=N:=by omega)(hN:N<=100000:=by omega):Calls Tryz.prog 115 #[v] W (RV (Vb true) W):=by
 have:=cR4ValidZ h h3 hN;rw [dT q_low] at this;exact this
end
open Go
section
variable {ρ:Operand->Value}{o:Oper}{w W:World}{x:Operand}{va:Value}{N:Nat}{a b:Rat}
theorem field_Ep0 (ho:o.op= .fieldAddr 32 x 0)(hx:ρ x=va)(h:VAt w (VEp 32 8 (Vv N a b)) va W):∃v,(execOp ρ o).run Tryz.prog W= .ok (.value v) W/\VAt w (VEp 32 4 (Vq N a)) v W:=by
 obtain⟨g,off,cs,rfl,e2,e3,e4⟩:=h;refine⟨_,?_,g,off+0,cs,rfl,e2,by omega,?_⟩
 ·unfold execOp;simp only [ho,hx,Sem.run_bind,field_Vec0,Sem.run_pure,Result.andThen_ok]
 ·have:=VP2_fst e4;rw [show(4:Nat)=0+4 from rfl,ext_ext (by omega)] at this;exact this
theorem field_Ep1 (ho:o.op= .fieldAddr 32 x 1)(hx:ρ x=va)(h:VAt w (VEp 32 8 (Vv N a b)) va W):∃v,(execOp ρ o).run Tryz.prog W= .ok (.value v) W/\VAt w (VEp 32 4 (Vq N b)) v W:=by
 obtain⟨g,off,cs,rfl,e2,e3,e4⟩:=h;refine⟨_,?_,g,off+4,cs,rfl,e2,by omega,?_⟩
 ·unfold execOp;simp only [ho,hx,Sem.run_bind,field_Vec1,Sem.run_pure,Result.andThen_ok]
 ·have:=VP2_snd e4;rw [ext_ext (by omega)] at this;exact this
theorem load_EpF (ho:o.op= .load 30 x)(hx:ρ x=va)(h:VAt w (VEp 32 4 (Vq N a)) va W)(hb:Below w.heap.size w W):∃v,(execOp ρ o).run Tryz.prog W= .ok (.value v) W/\Vq N a v W:=by
 obtain⟨g,off,cs,rfl,e2,e3,e4⟩:=h;refine⟨_,?_,VAt_cur (Stab_Vq _ _) (show VAt w (Vq N a) _ W from e4) hb⟩;have e5:=(hb.block _ (lt_blk e2)).trans e2;unfold execOp;simp only [ho,hx,Instr.loadAt,Instr.sureAddr,Sem.run_bind,Sem.run_pure,Result.andThen_ok,run_loadVar_part W g off 4 32 30 cs (0,0) _ e5 e3 Tryz.underlying30 rfl size_Rat]
end
def sumT (f:Nat->Rat)(j:Nat):Rat:=sumQ f (List.range j)
theorem sumT_succ (f:Nat->Rat)(j:Nat):sumT f (j+1)=sumT f j+f j:=by
 unfold sumT;rw [List.range_succ,sumQ_snoc]
def trK (vs:List P2)(k:Nat):Rat:=((cv vs k).1 - (cv vs (k+1)).1)*((cv vs k).2+(cv vs (k+1)).2)
def areaR (vs:List P2):Rat:=sumT (trK vs) vs.length*Rat.divInt 1 2
theorem cR6Numbers {w:World}{N:Nat}{vs:List P2}{lv:Value}{v0:Value}(h0:VEq lv v0 w)(hS:VSv N vs lv w)(hN3:3<=N:=by omega)(hN:N<=900:=by omega):Calls Tryz.prog 76 #[v0] w (RV (Vb true) w):=by
 go_enter Tryz.func76,Tryz.ntmps76
 generalize hA:(⟨_,_⟩:Act)=a0;have st0:St w.heap.size w 26 [] [(0,VEq lv)] a0 w:=by subst hA;exact St.begin rfl rfl (Lq.2 ⟨⟨_,rfl,h0⟩,L0⟩)
 clear hA;have hmax:=VSv_max hS;refine Wn ?_
 refine rH [] [Vb false] [] [(0,VEq lv),(2,Vb false)] st0 ⟨ks,trivial⟩ fun a1 w1 st1=>Wn ?_
 refine rH [] [Vi 0] [] [(0,VEq lv),(2,Vb false),(3,Vi 0)] st1 ⟨ks,trivial⟩ ?_;intro a2 w2 st2;replace st2:St w.heap.size w 26 [] [(0,VEq lv),(3,Vi ((0:Nat):Int))] a2 w2:=st2.cut;refine Wn ?_
 refine wp_loop_ghost (fun m aX wX=>∃j:Nat,j+m=vs.length/\St w.heap.size w 26 [] [(0,VEq lv),(3,Vi j)] aX wX) vs.length ⟨0,by omega,st2⟩ ?_;intro m aL wL ⟨j,hj,st2⟩;by_cases hlt:j<vs.length
 ·
  refine Wn ?_
  refine rH [] [Vi j,VEq lv,Vi (vs.length:Int),Vb true] [] [(0,VEq lv),(3,Vi j),(7,Vb true)] st2 ⟨ks,ks,(kr1 5 fun _ _ _ _ _ x0 X0=>len_Sv rfl rfl x0 X0 hS),(kr2 4 6 fun _ _ _ _ _ x0 X0 _ x1 X1=>⟨_,run_lssi rfl (x0.trans X0) (x1.trans X1),congrArg Value.bool (dT (by omega))⟩),trivial⟩ fun a3 w3 st3=>Wn ?_
  refine cT st3 ?_;have hgd:vs[j]? =some (cv vs j):=by have:=cv_get (vs:=vs) j (by omega);rwa [Nat.mod_eq_of_lt hlt] at this
  refine Wn ?_
  refine rH [] [VEq lv,Vi j,VAt w (VEp 32 8 (Vv N (cv vs j).1 (cv vs j).2)),VAt w (VEp 32 4 (Vq N ((cv vs j).1))),Vq N ((cv vs j).1),Vb true,Vb false,Vb false,VEq lv,Vi j,VAt w (VEp 32 8 (Vv N (cv vs j).1 (cv vs j).2)),VAt w (VEp 32 4 (Vq N ((cv vs j).2))),Vq N ((cv vs j).2),Vb true,Vb false,Vb false] [] [(0,VEq lv),(3,Vi j),(7,Vb true),(25,Vb false)] st3 ⟨ks,ks,(kr2 10 11 fun _ _ _ _ _ x0 X0 _ x1 X1=>index_Sv rfl x0 X0 hS x1 X1 hgd),(kr1 12 fun _ _ _ _ _ x0 X0=>field_Ep0 rfl x0 X0),(kr1 13 fun _ _ _ h _ x0 X0=>load_EpF rfl x0 X0 h.k.below),(kd1 fun _ _ _ _ _ X0=>cR4Valid X0),ks,ks,ks,ks,(kr2 18 19 fun _ _ _ _ _ x0 X0 _ x1 X1=>index_Sv rfl x0 X0 hS x1 X1 hgd),(kr1 20 fun _ _ _ _ _ x0 X0=>field_Ep1 rfl x0 X0),(kr1 21 fun _ _ _ h _ x0 X0=>load_EpF rfl x0 X0 h.k.below),(kd1 fun _ _ _ _ _ X0=>cR4Valid X0),ks,ks,trivial⟩ fun a4 w4 st4=>Wn ?_
  refine cF st4 ?_;refine Wn ?_
  refine rH [] [Vi j,Vi ((j+1:Nat):Int),Vi ((j+1:Nat):Int)] [] [(0,VEq lv),(7,Vb true),(25,Vb false),(3,Vi ((j+1:Nat):Int))] st4 ⟨?s0,(kr1 8 fun _ _ _ _ v0 x0 X0=>⟨_,run_addi rfl (x0.trans (show v0= .int .i64 j from X0)) rfl wO,congrArg (Value.int .i64) (by omega)⟩),ks,trivial⟩ ?_
  case s0=>
   refine k_run0 SbB.out (by kernel_rfl) fun listed A Y h D hnl=>⟨trivial,?_⟩
   obtain⟨v0,x0,X0⟩:=h.out0 hnl (3,Vi j) (.tail _ (.head _)) 2 (by kernel_rfl) (.inr (by kernel_rfl));exact⟨_,run_move rfl,by rw [x0];exact X0⟩
  intro a5 w5 st5;replace st5:St w.heap.size w 26 [] [(0,VEq lv),(7,Vb true),(25,Vb false),(3,Vi ((j+1:Nat):Int))] a5 w5:=st5;exact⟨m - 1,by omega,j+1,by omega,st5.cut⟩
 ·
  refine Wn ?_
  refine rH [] [Vi j,VEq lv,Vi (vs.length:Int),Vb false] [] [(0,VEq lv),(3,Vi j),(7,Vb false)] st2 ⟨ks,ks,(kr1 5 fun _ _ _ _ _ x0 X0=>len_Sv rfl rfl x0 X0 hS),(kr2 4 6 fun _ _ _ _ _ x0 X0 _ x1 X1=>⟨_,run_lssi rfl (x0.trans X0) (x1.trans X1),congrArg Value.bool (dF (by omega))⟩),trivial⟩ fun a3 w3 st3=>Wn ?_
  refine cF st3 ?_;refine Wn ?_
  refine rH [] [Vb true] [] [(0,VEq lv),(3,Vi j),(7,Vb false),(2,Vb true)] st3 ⟨ks,trivial⟩ fun a4 w4 st4=>Wn ?_
  exact wp_ret (rS 2 (Vb true) st4 fun vr r4=>r4)
theorem cR4AddN {w:World}{N M:Nat}{a b:Rat}{v0 v1:Value}(h0:Vq N a v0 w)(h1:Vq M b v1 w)(k1:3<=N:=by omega)(k2:N<=100000:=by omega)(k3:3<=M:=by omega)(k4:M<=100000:=by omega):Calls Tryz.prog 80 #[v0,v1] w (RV (Vq (N+M+1) (a+b)) w):=by
 go_enter Tryz.func80,Tryz.ntmps80
 refine Sg 26 [(0,Vq N a),(1,Vq M b)] (Lq.2 ⟨⟨_,rfl,h0⟩,(Lq.2 ⟨⟨_,rfl,h1⟩,L0⟩)⟩) fun a0 st0=>Wn ?_
 refine rH [(28,2,0),(30,4,0)] [VT,VT,VT] [⟨2,some 0,some 0,30,4,Vq N a,VT⟩,⟨3,some 1,some 1,30,4,Vq M b,VT⟩,⟨4,some 2,none,30,4,VT,VT⟩] [] st0 ⟨ks,ks,ks,trivial⟩ fun a1 w1 st1=>Wn ?_
 refine rH [(28,2,0),(30,4,0)] [Vpt a1 2 0,Vz N a.num,Vq M b,Vz M (b.den:Int),Vz (N+M) ((a.num)*(b.den:Int)),VT,VT] [.k 2 30 4 (Vq N a),.k 3 30 4 (Vq M b),.k 4 30 4 VT,⟨5,some 5,some 6,28,2,Vz (N+M) ((a.num)*(b.den:Int)),VT⟩] [] st1 ⟨ks,ks,ks,(kd1 fun _ _ _ _ _ X0=>cR4Den X0),(kd2 fun _ _ _ _ _ X0 _ X1=>(cRMul X0 X1)),ks,ks,trivial⟩ fun a2 w2 st2=>Wn ?_
 refine rH [(28,2,0),(30,4,0)] [Vpt a2 3 0,Vz M b.num,Vq N a,Vz N (a.den:Int),Vz (M+N) ((b.num)*(a.den:Int)),VT,VT] [.k 2 30 4 (Vq N a),.k 3 30 4 (Vq M b),.k 4 30 4 VT,.k 5 28 2 (Vz (N+M) ((a.num)*(b.den:Int))),⟨6,some 5,some 6,28,2,Vz (M+N) ((b.num)*(a.den:Int)),VT⟩] [] st2 ⟨ks,ks,ks,(kd1 fun _ _ _ _ _ X0=>cR4Den X0),(kd2 fun _ _ _ _ _ X0 _ X1=>(cRMul X0 X1)),ks,ks,trivial⟩ fun a3 w3 st3=>Wn ?_
 refine rH [(28,2,0),(30,4,0)] [Vz (N+M) ((a.num)*(b.den:Int)),Vz (M+N) ((b.num)*(a.den:Int)),Vz (max (N+M) (M+N)+1) (((a.num)*(b.den:Int))+((b.num)*(a.den:Int))),Vq N a,Vz N (a.den:Int),Vq M b,Vz M (b.den:Int),Vz (N+M) ((a.den:Int)*(b.den:Int)),Vq (max (max (N+M) (M+N)+1) (N+M)) (Rat.divInt (((a.num)*(b.den:Int))+((b.num)*(a.den:Int))) ((a.den:Int)*(b.den:Int))),VT] [.k 2 30 4 (Vq N a),.k 3 30 4 (Vq M b),⟨4,none,some 9,30,4,Vq (max (max (N+M) (M+N)+1) (N+M)) (Rat.divInt (((a.num)*(b.den:Int))+((b.num)*(a.den:Int))) ((a.den:Int)*(b.den:Int))),VT⟩,.k 5 28 2 (Vz (N+M) ((a.num)*(b.den:Int))),.k 6 28 2 (Vz (M+N) ((b.num)*(a.den:Int)))] [] st3 ⟨ks,ks,(kd2 fun _ _ _ _ _ X0 _ X1=>(cRAdd X0 X1)),ks,(kd1 fun _ _ _ _ _ X0=>cR4Den X0),ks,(kd1 fun _ _ _ _ _ X0=>cR4Den X0),(kd2 fun _ _ _ _ _ X0 _ X1=>(cRMul X0 X1)),(kd2 fun _ _ _ _ _ X0 _ X1=>cR4Make (Vz_le (M:=(max (max (N+M) (M+N)+1) (N+M))) X0 (by omega)) (Vz_le (M:=(max (max (N+M) (M+N)+1) (N+M))) X1 (by omega))),ks,trivial⟩ fun a4 w4 st4=>Wn ?_
 exact wp_ret (rC 4 30 (Vq (max (max (N+M) (M+N)+1) (N+M)) (Rat.divInt (((a.num)*(b.den:Int))+((b.num)*(a.den:Int))) ((a.den:Int)*(b.den:Int)))) st4 fun cs r4=>(by rw [<-add_mk];exact Vq_le r4 (by omega)))
theorem cR4MulN {w:World}{N M:Nat}{a b:Rat}{v0 v1:Value}(h0:Vq N a v0 w)(h1:Vq M b v1 w)(k1:3<=N:=by omega)(k2:N<=100000:=by omega)(k3:3<=M:=by omega)(k4:M<=100000:=by omega):Calls Tryz.prog 83 #[v0,v1] w (RV (Vq (N+M) (a*b)) w):=by
 go_enter Tryz.func83,Tryz.ntmps83
 refine Sg 16 [(0,Vq N a),(1,Vq M b)] (Lq.2 ⟨⟨_,rfl,h0⟩,(Lq.2 ⟨⟨_,rfl,h1⟩,L0⟩)⟩) fun a0 st0=>Wn ?_
 refine rH [(30,4,0)] [VT,VT,VT] [⟨2,some 0,some 0,30,4,Vq N a,VT⟩,⟨3,some 1,some 1,30,4,Vq M b,VT⟩,⟨4,some 2,none,30,4,VT,VT⟩] [] st0 ⟨ks,ks,ks,trivial⟩ fun a1 w1 st1=>Wn ?_
 refine rH [(30,4,0)] [Vpt a1 2 0,Vz N a.num,Vpt a1 3 0,Vz M b.num,Vz (N+M) ((a.num)*(b.num)),Vq N a,Vz N (a.den:Int),Vq M b,Vz M (b.den:Int),Vz (N+M) ((a.den:Int)*(b.den:Int)),Vq (N+M) (Rat.divInt ((a.num)*(b.num)) ((a.den:Int)*(b.den:Int))),VT] [.k 2 30 4 (Vq N a),.k 3 30 4 (Vq M b),⟨4,none,some 11,30,4,Vq (N+M) (Rat.divInt ((a.num)*(b.num)) ((a.den:Int)*(b.den:Int))),VT⟩] [] st1 ⟨ks,ks,ks,ks,(kd2 fun _ _ _ _ _ X0 _ X1=>(cRMul X0 X1)),ks,(kd1 fun _ _ _ _ _ X0=>cR4Den X0),ks,(kd1 fun _ _ _ _ _ X0=>cR4Den X0),(kd2 fun _ _ _ _ _ X0 _ X1=>(cRMul X0 X1)),(kd2 fun _ _ _ _ _ X0 _ X1=>cR4Make X0 X1),ks,trivial⟩ fun a2 w2 st2=>Wn ?_
 exact wp_ret (rC 4 30 (Vq (N+M) (Rat.divInt ((a.num)*(b.num)) ((a.den:Int)*(b.den:Int)))) st2 fun cs r4=>(by rw [<-mul_mk];exact Vq_le r4 (by omega)))
theorem Vq_zero (w:World):Vq 1 0 (.agg #[.bool false,.slice none 0 0,.bool false,.slice none 0 0]) w:=
 show Vq 1 0 (.agg (#[.bool false,.slice none 0 0]++ #[.bool false,.slice none 0 0])) w from⟨_,_,rfl,rfl,rfl,⟨_,_,_,_,rfl,IntAt_zero _ _ _ (by omega),by omega⟩,⟨_,_,_,_,rfl,IntAt_zero _ _ _ (by omega),by omega⟩⟩
section
variable {md:Region.Mode}{ops:Array Oper}{Q:Exit->Act->World->Prop}{a0:Act}{Vl:List VP}{n0:Nat}{w0:World}{B:List Bd}{SL:List (Nat×VP)}{BT:List (TypeId×Nat×Nat)}
theorem k_allocQ0 {i t:Nat}{o:Oper}{b:Bd}[hB:SbB BT B](ho:o.op= .alloc 30)(hds:o.dst=some t)(hb:gB B (iB B t)=some b)(hbt:b.t=t)(hT:b.T=30)(hia:b.ia=some i)(hm:b.m=4)(hP:b.P=Vq 1 0)(hV:GV Vl i=VT)
 (hq:quietB (B.take (iB B t)++B.drop (iB B t+1)) i (some t)=true) (hg:GOk md ops Vl o):KStep BT Tryz.prog md ops Q a0 (GV Vl) n0 w0 B SL i o:=by
 subst hbt;intro listed a w h D hin hil hnl K hK;rw [if_pos (wanted_of (hg.get h D))]
 have ht:b.t<a.tmps.size:=by
  rw [hds] at hin;rw [h.size]
  simpa using hin
 have hks:=h.k.alloc (gB_split hb) hq hia hil ht hB.out h.n #[.bool false,.slice none 0 0,.bool false,.slice none 0 0] (by rw [hm];rfl) noint_Rat (fun hk=>by rw [hP];exact Vq_zero _);rw [hT] at hks;unfold Oper.wp execOp;simp only [ho,Sem.run_bind,alloc_Rat,Sem.run_pure,Result.andThen_ok];rw [<-hds] at hks;exact hK _ _ hks (RI.of_below (below_new _ _)) (by rw [hV];trivial)
end
theorem cR6Area {w:World}{N:Nat}{vs:List P2}{lv:Value}{v0:Value}(h0:VEq lv v0 w)(hS:VSv N vs lv w)(hN3:3<=N:=by omega)(hbd6:6+vs.length*(4*N+3)<=900:=by omega):Calls Tryz.prog 79 #[v0] w (RV (Vq (6+vs.length*(4*N+3)) (areaR vs)) w):=by
 go_enter Tryz.func79,Tryz.ntmps79
 generalize hA:(⟨_,_⟩:Act)=a0;have st0:St w.heap.size w 37 [] [(0,VEq lv)] a0 w:=by subst hA;exact St.begin rfl rfl (Lq.2 ⟨⟨_,rfl,h0⟩,L0⟩)
 clear hA;have hmax:=VSv_max hS;refine Wn ?_
 refine rH [(32,8,0),(30,4,0)] [VT] [⟨2,some 0,none,30,4,VT,VT⟩] [(0,VEq lv)] st0 ⟨ks,trivial⟩ fun a1 w1 st1=>Wn ?_
 refine rH [(32,8,0),(30,4,0)] [VT] [.k 2 30 4 VT,⟨3,some 0,none,30,4,Vq 1 0,VT⟩] [(0,VEq lv)] st1 ⟨(k_allocQ0 rfl rfl rfl rfl rfl rfl rfl rfl rfl (by kernel_rfl) (by first|exact trivial|exact⟨by kernel_rfl,⟨_,rfl⟩,rfl⟩)),trivial⟩ fun a2 w2 st2=>Wn ?_
 refine rH [(32,8,0),(30,4,0)] [Vi 0] [.k 2 30 4 VT,.k 3 30 4 (Vq 1 0)] [(0,VEq lv),(4,Vi 0)] st2 ⟨ks,trivial⟩ ?_;intro a3 w3 st3;replace st3:St w.heap.size w 37 [.k 2 30 4 VT,.k 3 30 4 (Vq 1 0)] [(0,VEq lv),(4,Vi ((0:Nat):Int))] a3 w3:=st3.cut;replace st3:St w.heap.size w 37 [.k 2 30 4 VT,.k 3 30 4 (Vq (3+0*(4*N+3)) (sumT (trK vs) 0))] [(0,VEq lv),(4,Vi ((0:Nat):Int))] a3 w3:=st3.weak [.k 2 30 4 VT,.k 3 30 4 (Vq (3+0*(4*N+3)) (sumT (trK vs) 0))] (Lq.2 ⟨⟨_,(.head _),rfl,rfl,rfl,rfl,rfl,rfl,rfl,fun _ _ h=>h⟩,(Lq.2 ⟨⟨_,(.tail _ (.head _)),rfl,rfl,rfl,rfl,rfl,rfl,rfl,fun _ _ h=>Vq_le h (by omega)⟩,L0⟩)⟩);refine Wn ?_
 refine wp_loop_ghost (fun m aX wX=>∃j:Nat,j+m=vs.length/\St w.heap.size w 37 [.k 2 30 4 VT,.k 3 30 4 (Vq (3+j*(4*N+3)) (sumT (trK vs) j))] [(0,VEq lv),(4,Vi j)] aX wX) vs.length ⟨0,by omega,st3⟩ ?_;intro m aL wL ⟨j,hj,st3⟩;have hmul:=Nat.mul_le_mul_right (4*N+3) (show j<=vs.length by omega);by_cases hlt:j<vs.length
 ·
  refine Wn ?_
  refine rH [(32,8,0),(30,4,0)] [Vi j,VEq lv,Vi (vs.length:Int),Vb true] [.k 2 30 4 VT,.k 3 30 4 (Vq (3+j*(4*N+3)) (sumT (trK vs) j))] [(0,VEq lv),(4,Vi j),(9,Vb true)] st3 ⟨ks,ks,(kr1 7 fun _ _ _ _ _ x0 X0=>len_Sv rfl rfl x0 X0 hS),(kr2 6 8 fun _ _ _ _ _ x0 X0 _ x1 X1=>⟨_,run_lssi rfl (x0.trans X0) (x1.trans X1),congrArg Value.bool (dT (by omega))⟩),trivial⟩ fun a4 w4 st4=>Wn ?_
  refine cT st4 ?_;have hgd:vs[j]? =some (cv vs j):=by have:=cv_get (vs:=vs) j (by omega);rwa [Nat.mod_eq_of_lt hlt] at this
  have hN9:4*N+3<=900:=by have:=Nat.le_mul_of_pos_left (4*N+3) (show 0<vs.length by omega);omega
  refine Wn ?_
  refine rH [(32,8,0),(30,4,0)] [VEq lv,Vi j,Vv N ((cv vs (j+1)).1) ((cv vs (j+1)).2),VT,VT] [.k 2 30 4 VT,.k 3 30 4 (Vq (3+j*(4*N+3)) (sumT (trK vs) j)),⟨5,some 3,some 4,32,8,Vv N ((cv vs (j+1)).1) ((cv vs (j+1)).2),VT⟩] [(0,VEq lv),(4,Vi j),(9,Vb true)] st4 ⟨ks,ks,(kd2 fun _ _ _ h _ X0 _ X1=>cR6Next X0 X1 (VSv_later hS h.k.below)),ks,ks,trivial⟩ fun a5 w5 st5=>Wn ?_
  refine rH [(32,8,0),(30,4,0)] [Vq (3+j*(4*N+3)) (sumT (trK vs) j),VEq lv,Vi j,VAt w (VEp 32 8 (Vv N (cv vs j).1 (cv vs j).2)),VAt w (VEp 32 4 (Vq N ((cv vs j).1))),Vq N ((cv vs j).1),Vpt a5 5 0,Vq N ((cv vs (j+1)).1),Vq (N+N+1) (((cv vs j).1) - ((cv vs (j+1)).1)),VEq lv,Vi j,VAt w (VEp 32 8 (Vv N (cv vs j).1 (cv vs j).2)),VAt w (VEp 32 4 (Vq N ((cv vs j).2))),Vq N ((cv vs j).2),Vpt a5 5 4,Vq N ((cv vs (j+1)).2),Vq (N+N+1) (((cv vs j).2)+((cv vs (j+1)).2)),Vq ((N+N+1)+(N+N+1)) ((((cv vs j).1) - ((cv vs (j+1)).1))*(((cv vs j).2)+((cv vs (j+1)).2))),Vq ((3+j*(4*N+3))+((N+N+1)+(N+N+1))+1) ((sumT (trK vs) j)+((((cv vs j).1) - ((cv vs (j+1)).1))*(((cv vs j).2)+((cv vs (j+1)).2)))),VT] [.k 2 30 4 VT,⟨3,none,some 19,30,4,Vq ((3+j*(4*N+3))+((N+N+1)+(N+N+1))+1) ((sumT (trK vs) j)+((((cv vs j).1) - ((cv vs (j+1)).1))*(((cv vs j).2)+((cv vs (j+1)).2)))),Vq (3+j*(4*N+3)) (sumT (trK vs) j)⟩,.k 5 32 8 (Vv N ((cv vs (j+1)).1) ((cv vs (j+1)).2))] [(0,VEq lv),(4,Vi j),(9,Vb true)] st5 ⟨ks,ks,ks,(kr2 16 17 fun _ _ _ _ _ x0 X0 _ x1 X1=>index_Sv rfl x0 X0 hS x1 X1 hgd),(kr1 18 fun _ _ _ _ _ x0 X0=>field_Ep0 rfl x0 X0),(kr1 19 fun _ _ _ h _ x0 X0=>load_EpF rfl x0 X0 h.k.below),ks,ks,(kd2 fun _ _ _ _ _ X0 _ X1=>cR4Sub X0 X1),ks,ks,(kr2 24 25 fun _ _ _ _ _ x0 X0 _ x1 X1=>index_Sv rfl x0 X0 hS x1 X1 hgd),(kr1 26 fun _ _ _ _ _ x0 X0=>field_Ep1 rfl x0 X0),(kr1 27 fun _ _ _ h _ x0 X0=>load_EpF rfl x0 X0 h.k.below),ks,ks,(kd2 fun _ _ _ _ _ X0 _ X1=>cR4AddN X0 X1),(kd2 fun _ _ _ _ _ X0 _ X1=>cR4MulN X0 X1),(kd2 fun _ _ _ _ _ X0 _ X1=>cR4AddN X0 X1),ks,trivial⟩ fun a6 w6 st6=>Wn ?_
  refine rH [(32,8,0),(30,4,0)] [Vi j,Vi ((j+1:Nat):Int),Vi ((j+1:Nat):Int)] [.k 2 30 4 VT,.k 3 30 4 (Vq ((3+j*(4*N+3))+((N+N+1)+(N+N+1))+1) ((sumT (trK vs) j)+((((cv vs j).1) - ((cv vs (j+1)).1))*(((cv vs j).2)+((cv vs (j+1)).2))))),.k 5 32 8 (Vv N ((cv vs (j+1)).1) ((cv vs (j+1)).2))] [(0,VEq lv),(9,Vb true),(4,Vi ((j+1:Nat):Int))] st6 ⟨?s0,(kr1 10 fun _ _ _ _ v0 x0 X0=>⟨_,run_addi rfl (x0.trans (show v0= .int .i64 j from X0)) rfl wO,congrArg (Value.int .i64) (by omega)⟩),ks,trivial⟩ ?_
  case s0=>
   refine k_run0 SbB.out (by kernel_rfl) fun listed A Y h D hnl=>⟨trivial,?_⟩
   obtain⟨v0,x0,X0⟩:=h.out0 hnl (4,Vi j) (.tail _ (.head _)) 2 (by kernel_rfl) (.inr (by kernel_rfl));exact⟨_,run_move rfl,by rw [x0];exact X0⟩
  intro a7 w7 st7;replace st7:St w.heap.size w 37 [.k 2 30 4 VT,.k 3 30 4 (Vq ((3+j*(4*N+3))+((N+N+1)+(N+N+1))+1) ((sumT (trK vs) j)+((((cv vs j).1) - ((cv vs (j+1)).1))*(((cv vs j).2)+((cv vs (j+1)).2)))))] [(0,VEq lv),(4,Vi ((j+1:Nat):Int))] a7 w7:=st7.cut;have eS:=sumT_succ (trK vs) j;have eM:3+(j+1)*(4*N+3)=(3+j*(4*N+3))+(4*N+3):=by rw [Nat.succ_mul];omega
  exact⟨m - 1,by omega,j+1,by omega,st7.weak [.k 2 30 4 VT,.k 3 30 4 (Vq (3+(j+1)*(4*N+3)) (sumT (trK vs) (j+1)))] (Lq.2 ⟨⟨_,(.head _),rfl,rfl,rfl,rfl,rfl,rfl,rfl,fun _ _ h=>h⟩,(Lq.2 ⟨⟨_,(.tail _ (.head _)),rfl,rfl,rfl,rfl,rfl,rfl,rfl,fun _ _ h=>by rw [eS];exact Vq_le h (by omega)⟩,L0⟩)⟩)⟩
 ·
  refine Wn ?_
  refine rH [(32,8,0),(30,4,0)] [Vi j,VEq lv,Vi (vs.length:Int),Vb false] [.k 2 30 4 VT,.k 3 30 4 (Vq (3+j*(4*N+3)) (sumT (trK vs) j))] [(0,VEq lv),(4,Vi j),(9,Vb false)] st3 ⟨ks,ks,(kr1 7 fun _ _ _ _ _ x0 X0=>len_Sv rfl rfl x0 X0 hS),(kr2 6 8 fun _ _ _ _ _ x0 X0 _ x1 X1=>⟨_,run_lssi rfl (x0.trans X0) (x1.trans X1),congrArg Value.bool (dF (by omega))⟩),trivial⟩ fun a4 w4 st4=>Wn ?_
  refine cF st4 ?_;have ej:j=vs.length:=by omega
  refine Wn ?_
  refine rH [(32,8,0),(30,4,0)] [Vq (3+j*(4*N+3)) (sumT (trK vs) j),Vq 3 (Rat.divInt 1 2),Vq ((3+j*(4*N+3))+3) ((sumT (trK vs) j)*(Rat.divInt 1 2)),VT] [⟨2,none,some 3,30,4,Vq ((3+j*(4*N+3))+3) ((sumT (trK vs) j)*(Rat.divInt 1 2)),VT⟩,.k 3 30 4 (Vq (3+j*(4*N+3)) (sumT (trK vs) j))] [(0,VEq lv),(4,Vi j),(9,Vb false)] st4 ⟨ks,(by refine kc fun _ A Y h D=>?_;exact⟨#[.int .i64 1,.int .i64 2],by simp [eval_const],cR4Of (show Vi 1 (.int .i64 1) Y from rfl) (show Vi 2 (.int .i64 2) Y from rfl)⟩),(kd2 fun _ _ _ _ _ X0 _ X1=>cR4MulN X0 X1),ks,trivial⟩ ?_;intro a5 w5 st5;refine Wn ?_
  exact wp_ret (rC 2 30 (Vq ((3+j*(4*N+3))+3) ((sumT (trK vs) j)*(Rat.divInt 1 2))) st5 fun cs r4=>(by rw [ej] at r4;exact Vq_le r4 (by omega)))


def sdR (a b c:P2):Int:=cmpI ((b.1 - a.1)*(c.2 - a.2) - (b.2 - a.2)*(c.1 - a.1)).num 0
def tnR (vs:List P2)(k:Nat):Int:=sdR (cv vs k) (cv vs (k+1)) (cv vs (k+2))
def gp (vs:List P2)(i k:Nat):Nat:=(k+vs.length - i) % vs.length
def badR (vs:List P2)(i k:Nat):Bool:=decide (1<gp vs i k) && (decide (gp vs i k+1<vs.length) && meetsR (cv vs i) (cv vs (i+1)) (cv vs k) (cv vs (k+1)))
def okR (vs:List P2)(i:Nat):Prop:=¬tnR vs i=0/\∀k∈List.range vs.length,badR vs i k=false
instance (vs:List P2)(i:Nat):Decidable (okR vs i):=by unfold okR;infer_instance
def validR (vs:List P2):Bool:=decide (3<=vs.length) && (decide (vs.length<=12) && (decide (∀i∈List.range vs.length,okR vs i) && decide (0<(areaR vs).num)))
theorem validR_f {vs:List P2}{i:Nat}(hi:i<vs.length)(h:¬okR vs i):validR vs=false:=by
 unfold validR;rw [dF (p:=∀i∈List.range vs.length,okR vs i) (fun h2=>h (h2 i (List.mem_range.2 hi)))];simp
theorem cR6MeetsV {w:World}{N:Nat}{a b c d:P2}{v0 v1 v2 v3:Value}{x:Bool}(h0:Vv N a.1 a.2 v0 w)(h1:Vv N b.1 b.2 v1 w)(h2:Vv N c.1 c.2 v2 w)(h3:Vv N d.1 d.2 v3 w)(hN3:3<=N)(hN:N<=400)(hx:meetsR a b c d=x):Calls Tryz.prog 46 #[v0,v1,v2,v3] w (RV (Vb x) w):=by
 subst hx;exact cR6Meets h0 h1 h2 h3 hN3 hN
theorem cR6Valid {w:World}{N:Nat}{vs:List P2}{lv:Value}{v0:Value}(h0:VEq lv v0 w)(hS:VSv N vs lv w)(hN3:3<=N:=by omega)(hN:N<=17:=by omega):Calls Tryz.prog 35 #[v0] w (RV (Vb (validR vs)) w):=by
 go_enter Tryz.func35,Tryz.ntmps35
 generalize hA:(⟨_,_⟩:Act)=a0;have st0:St w.heap.size w 86 [] [(0,VEq lv)] a0 w:=by subst hA;exact St.begin rfl rfl (Lq.2 ⟨⟨_,rfl,h0⟩,L0⟩)
 clear hA;have hmax:=VSv_max hS;refine Wn ?_
 refine rH [] [Vb false] [] [(0,VEq lv),(2,Vb false)] st0 ⟨ks,trivial⟩ ?_;intro a1 w1 st1;by_cases hlt3:vs.length<3
 ·
  refine Wn ?_
  refine rH [] [VEq lv,Vi (vs.length:Int),Vb true,Vb true,VT,VT,VT,Vb true,Vb true,VT,VT,VT,Vb true] [] [(0,VEq lv),(2,Vb false),(18,Vb true)] st1 ⟨ks,(kr1 6 fun _ _ _ _ _ x0 X0=>len_Sv rfl rfl x0 X0 hS),(kr1 7 fun _ _ _ _ _ x0 X0=>⟨_,run_lssi rfl (x0.trans X0) rfl,congrArg Value.bool (dT (by omega))⟩),ks,ks,?s5,ks,ks,ks,ks,ks,ks,ks,trivial⟩ ?_
  case s5=>
   refine k_skip SbB.out (by kernel_rfl) fun listed ac Y h D=>⟨?_,trivial⟩
   obtain⟨u,hu,hy,hU⟩:=h.dep D 3 9 (by kernel_rfl) (by kernel_rfl);obtain rfl:u= .bool true:=hU;exact⟨3,false,true,rfl,hy,by decide⟩
  intro a2 w2 st2;refine Wn ?_
  refine cT st2 ?_;refine Wn ?_
  refine rH [] [Vb false] [] [(0,VEq lv),(18,Vb true),(2,Vb false)] st2 ⟨ks,trivial⟩ fun a3 w3 st3=>Wn ?_
  exact wp_ret (rS 2 (Vb false) st3 fun vr r4=>(by rw [show validR vs=false by unfold validR;rw [dF (show ¬3<=vs.length by omega)];simp];exact r4))
 ·
  by_cases hgt:12<vs.length
  ·
   refine Wn ?_
   refine rH [] [VEq lv,Vi (vs.length:Int),Vb false,Vb false,VEq lv,Vi (vs.length:Int),Vb true,Vb true,Vb true,VT,VT,VT,Vb true] [] [(0,VEq lv),(2,Vb false),(18,Vb true)] st1 ⟨ks,(kr1 6 fun _ _ _ _ _ x0 X0=>len_Sv rfl rfl x0 X0 hS),(kr1 7 fun _ _ _ _ _ x0 X0=>⟨_,run_lssi rfl (x0.trans X0) rfl,congrArg Value.bool (dF (by omega))⟩),ks,ks,(kr1 10 fun _ _ _ _ _ x0 X0=>len_Sv rfl rfl x0 X0 hS),(kr1 11 fun _ _ _ _ _ x0 X0=>⟨_,run_gtri rfl (x0.trans X0) rfl,congrArg Value.bool (dT (by omega))⟩),ks,ks,ks,ks,ks,ks,trivial⟩ fun a2 w2 st2=>Wn ?_
   refine cT st2 ?_;refine Wn ?_
   refine rH [] [Vb false] [] [(0,VEq lv),(18,Vb true),(2,Vb false)] st2 ⟨ks,trivial⟩ fun a3 w3 st3=>Wn ?_
   exact wp_ret (rS 2 (Vb false) st3 fun vr r4=>(by rw [show validR vs=false by unfold validR;rw [dF (show ¬vs.length<=12 by omega)];simp];exact r4))
  ·
   refine Wn ?_
   refine rH [] [VEq lv,Vi (vs.length:Int),Vb false,Vb false,VEq lv,Vi (vs.length:Int),Vb false,Vb false,Vb false,VEq lv,Vb true,Vb false,Vb false] [] [(0,VEq lv),(2,Vb false),(18,Vb false)] st1 ⟨ks,(kr1 6 fun _ _ _ _ _ x0 X0=>len_Sv rfl rfl x0 X0 hS),(kr1 7 fun _ _ _ _ _ x0 X0=>⟨_,run_lssi rfl (x0.trans X0) rfl,congrArg Value.bool (dF (by omega))⟩),ks,ks,(kr1 10 fun _ _ _ _ _ x0 X0=>len_Sv rfl rfl x0 X0 hS),(kr1 11 fun _ _ _ _ _ x0 X0=>⟨_,run_gtri rfl (x0.trans X0) rfl,congrArg Value.bool (dF (by omega))⟩),ks,ks,ks,(kd1 fun _ _ _ h _ X0=>cR6Numbers X0 (VSv_later hS h.k.below)),ks,ks,trivial⟩ ?_;intro a2 w2 st2
   have hbd6:6+vs.length*(4*N+3)<=900:=by
    have:=Nat.mul_le_mul (show vs.length<=12 by omega) (show 4*N+3<=71 by omega);omega
   have h3:decide (3<=vs.length)=true:=dT (by omega);have h12:decide (vs.length<=12)=true:=dT (by omega);refine Wn ?_
   refine cF st2 ?_;refine Wn ?_
   refine rH [] [Vi 0] [] [(0,VEq lv),(2,Vb false),(18,Vb false),(3,Vi 0)] st2 ⟨ks,trivial⟩ ?_;intro a3 w3 st3;replace st3:St w.heap.size w 86 [] [(0,VEq lv),(3,Vi ((0:Nat):Int))] a3 w3:=st3.cut;refine Wn ?_
   refine wp_loop_ghost (fun m aX wX=>∃i:Nat,i+m=vs.length/\(∀i2<i,okR vs i2)/\St w.heap.size w 86 [] [(0,VEq lv),(3,Vi i)] aX wX) vs.length ⟨0,by omega,fun i hi=>absurd hi (by omega),st3⟩ ?_;intro m aL wL ⟨i,hi,hpre,st3⟩;by_cases hlt:i<vs.length
   ·
    refine Wn ?_
    refine rH [] [Vi i,VEq lv,Vi (vs.length:Int),Vb true] [] [(0,VEq lv),(3,Vi i),(22,Vb true)] st3 ⟨ks,ks,(kr1 20 fun _ _ _ _ _ x0 X0=>len_Sv rfl rfl x0 X0 hS),(kr2 19 21 fun _ _ _ _ _ x0 X0 _ x1 X1=>⟨_,run_lssi rfl (x0.trans X0) (x1.trans X1),congrArg Value.bool (dT (by omega))⟩),trivial⟩ fun a4 w4 st4=>Wn ?_
    refine cT st4 ?_;have hgi:vs[i]? =some (cv vs i):=by have:=cv_get (vs:=vs) i (by omega);rwa [Nat.mod_eq_of_lt (by omega)] at this
    by_cases htn:tnR vs i=0
    ·
     refine Wn ?_
     refine rH [] [VEq lv,Vi i,VAt w (VEp 32 8 (Vv N (cv vs i).1 (cv vs i).2)),Vv N ((cv vs i).1) ((cv vs i).2),VEq lv,Vi i,Vi ((i+1:Nat):Int),Vv N ((cv vs (i+1)).1) ((cv vs (i+1)).2),VEq lv,Vi i,Vi ((i+2:Nat):Int),Vv N ((cv vs (i+2)).1) ((cv vs (i+2)).2),Vi (sdR (cv vs i) (cv vs (i+1)) (cv vs (i+2))),Vb true] [] [(0,VEq lv),(3,Vi i),(22,Vb true),(38,Vb true)] st4 ⟨ks,ks,(kr2 25 26 fun _ _ _ _ _ x0 X0 _ x1 X1=>index_Sv rfl x0 X0 hS x1 X1 hgi),(kr1 27 fun _ _ _ h _ x0 X0=>load_EpC (w:=w) (k:=8) (A:=Vv N (cv vs i).1 (cv vs i).2) (Stab_Vv _ _ _) rfl x0 X0 h.k.below Tryz.underlying32 rfl size_Vec),ks,ks,(kr1 30 fun _ _ _ _ v0 x0 X0=>⟨_,run_addi rfl (x0.trans (show v0= .int .i64 i from X0)) rfl wO,congrArg (Value.int .i64) (by omega)⟩),(kd2 fun _ _ _ h _ X0 _ X1=>cR6Corner (k:=i+1) X0 X1 (VSv_later hS h.k.below)),ks,ks,(kr1 34 fun _ _ _ _ v0 x0 X0=>⟨_,run_addi rfl (x0.trans (show v0= .int .i64 i from X0)) rfl wO,congrArg (Value.int .i64) (by omega)⟩),(kd2 fun _ _ _ h _ X0 _ X1=>cR6Corner (k:=i+2) X0 X1 (VSv_later hS h.k.below)),(by refine kc fun _ ac Y h D=>?_;obtain⟨v0,x0,X0⟩:=h.dp D 28;obtain⟨v1,x1,X1⟩:=h.dp D 32;obtain⟨v2,x2,X2⟩:=h.dp D 36;exact⟨#[v0,v1,v2],by simp [x0,x1,x2],cR5Side X0 X1 X2⟩),(kr1 37 fun _ _ _ _ _ x0 X0=>⟨_,run_eqi rfl (x0.trans X0) rfl,congrArg Value.bool (dT htn)⟩),trivial⟩ ?_;intro a5 w5 st5;refine Wn ?_
     refine cT st5 ?_;refine Wn ?_
     refine rH [] [Vb false] [] [(0,VEq lv),(3,Vi i),(22,Vb true),(38,Vb true),(2,Vb false)] st5 ⟨ks,trivial⟩ fun a6 w6 st6=>Wn ?_
     exact wp_ret (rS 2 (Vb false) st6 fun vr r4=>(by rw [validR_f hlt (fun h=>h.1 htn)];exact r4))
    ·
     refine Wn ?_
     refine rH [] [VEq lv,Vi i,VAt w (VEp 32 8 (Vv N (cv vs i).1 (cv vs i).2)),Vv N ((cv vs i).1) ((cv vs i).2),VEq lv,Vi i,Vi ((i+1:Nat):Int),Vv N ((cv vs (i+1)).1) ((cv vs (i+1)).2),VEq lv,Vi i,Vi ((i+2:Nat):Int),Vv N ((cv vs (i+2)).1) ((cv vs (i+2)).2),Vi (sdR (cv vs i) (cv vs (i+1)) (cv vs (i+2))),Vb false] [] [(0,VEq lv),(3,Vi i),(22,Vb true),(38,Vb false)] st4 ⟨ks,ks,(kr2 25 26 fun _ _ _ _ _ x0 X0 _ x1 X1=>index_Sv rfl x0 X0 hS x1 X1 hgi),(kr1 27 fun _ _ _ h _ x0 X0=>load_EpC (w:=w) (k:=8) (A:=Vv N (cv vs i).1 (cv vs i).2) (Stab_Vv _ _ _) rfl x0 X0 h.k.below Tryz.underlying32 rfl size_Vec),ks,ks,(kr1 30 fun _ _ _ _ v0 x0 X0=>⟨_,run_addi rfl (x0.trans (show v0= .int .i64 i from X0)) rfl wO,congrArg (Value.int .i64) (by omega)⟩),(kd2 fun _ _ _ h _ X0 _ X1=>cR6Corner (k:=i+1) X0 X1 (VSv_later hS h.k.below)),ks,ks,(kr1 34 fun _ _ _ _ v0 x0 X0=>⟨_,run_addi rfl (x0.trans (show v0= .int .i64 i from X0)) rfl wO,congrArg (Value.int .i64) (by omega)⟩),(kd2 fun _ _ _ h _ X0 _ X1=>cR6Corner (k:=i+2) X0 X1 (VSv_later hS h.k.below)),(by refine kc fun _ ac Y h D=>?_;obtain⟨v0,x0,X0⟩:=h.dp D 28;obtain⟨v1,x1,X1⟩:=h.dp D 32;obtain⟨v2,x2,X2⟩:=h.dp D 36;exact⟨#[v0,v1,v2],by simp [x0,x1,x2],cR5Side X0 X1 X2⟩),(kr1 37 fun _ _ _ _ _ x0 X0=>⟨_,run_eqi rfl (x0.trans X0) rfl,congrArg Value.bool (dF htn)⟩),trivial⟩ ?_;intro a5 w5 st5;refine Wn ?_
     refine cF st5 ?_;refine Wn ?_
     refine rH [] [Vi 0] [] [(0,VEq lv),(3,Vi i),(22,Vb true),(38,Vb false),(4,Vi 0)] st5 ⟨ks,trivial⟩ ?_;intro a6 w6 st6;replace st6:St w.heap.size w 86 [] [(0,VEq lv),(3,Vi i),(4,Vi ((0:Nat):Int))] a6 w6:=st6.cut;refine Wn ?_
     refine wp_loop_ghost (fun m2 aX wX=>∃k:Nat,k+m2=vs.length/\(∀k2<k,badR vs i k2=false)/\St w.heap.size w 86 [] [(0,VEq lv),(3,Vi i),(4,Vi k)] aX wX) vs.length ⟨0,by omega,fun i hi=>absurd hi (by omega),st6⟩ ?_;intro m2 aK wK ⟨k,hk,hpre2,st6⟩;by_cases hlk:k<vs.length
     ·
      refine Wn ?_
      refine rH [] [Vi k,VEq lv,Vi (vs.length:Int),Vb true] [] [(0,VEq lv),(3,Vi i),(4,Vi k),(42,Vb true)] st6 ⟨ks,ks,(kr1 40 fun _ _ _ _ _ x0 X0=>len_Sv rfl rfl x0 X0 hS),(kr2 39 41 fun _ _ _ _ _ x0 X0 _ x1 X1=>⟨_,run_lssi rfl (x0.trans X0) (x1.trans X1),congrArg Value.bool (dT (by omega))⟩),trivial⟩ fun a7 w7 st7=>Wn ?_
      refine cT st7 ?_;have hgk:vs[k]? =some (cv vs k):=by have:=cv_get (vs:=vs) k (by omega);rwa [Nat.mod_eq_of_lt (by omega)] at this
      refine Wn ?_
      refine rH [] [Vi k,Vi i,Vi ((k:Int) - (i:Int)),VEq lv,Vi (vs.length:Int),Vi ((k+vs.length - i:Nat):Int),VEq lv,Vi (vs.length:Int),Vi ((gp vs i k:Nat):Int),Vi ((gp vs i k:Nat):Int)] [] [(0,VEq lv),(3,Vi i),(4,Vi k),(42,Vb true),(5,Vi ((gp vs i k:Nat):Int))] st7 ⟨ks,ks,(kr2 45 46 fun _ _ _ _ v0 x0 X0 v1 x1 X1=>⟨_,run_subi rfl (x0.trans (show v0= .int .i64 k from X0)) (x1.trans (show v1= .int .i64 i from X1)) wO,rfl⟩),ks,(kr1 48 fun _ _ _ _ _ x0 X0=>len_Sv rfl rfl x0 X0 hS),(kr2 47 49 fun _ _ _ _ v0 x0 X0 v1 x1 X1=>⟨_,run_addi rfl (x0.trans (show v0= .int .i64 ((k:Int) - (i:Int))from X0)) (x1.trans (show v1= .int .i64 (vs.length:Int)from X1)) wO,congrArg (Value.int .i64) (by omega)⟩),ks,(kr1 51 fun _ _ _ _ _ x0 X0=>len_Sv rfl rfl x0 X0 hS),(kr2 50 52 fun _ _ _ _ _ x0 X0 _ x1 X1=>rem_n (j:=k+vs.length - i) (n:=vs.length) rfl x0 x1 X0 X1 (by omega)),ks,trivial⟩ ?_;intro a8 w8 st8;by_cases hg1:1<gp vs i k
      ·
       by_cases hg2:gp vs i k+1<vs.length
       ·
        by_cases hmt:meetsR (cv vs i) (cv vs (i+1)) (cv vs k) (cv vs (k+1))=true
        ·
         refine Wn ?_
         refine rH [] [Vi ((gp vs i k:Nat):Int),Vb true,Vb true,Vi ((gp vs i k:Nat):Int),VEq lv,Vi (vs.length:Int),Vi ((vs.length:Int) - 1),Vb true,Vb true,Vb true,VEq lv,Vi i,VAt w (VEp 32 8 (Vv N (cv vs i).1 (cv vs i).2)),Vv N ((cv vs i).1) ((cv vs i).2),VEq lv,Vi i,Vi ((i+1:Nat):Int),Vv N ((cv vs (i+1)).1) ((cv vs (i+1)).2),VEq lv,Vi k,VAt w (VEp 32 8 (Vv N (cv vs k).1 (cv vs k).2)),Vv N ((cv vs k).1) ((cv vs k).2),VEq lv,Vi k,Vi ((k+1:Nat):Int),Vv N ((cv vs (k+1)).1) ((cv vs (k+1)).2),Vb true,Vb true] [] [(0,VEq lv),(3,Vi i),(4,Vi k),(42,Vb true),(81,Vb true)] st8 ⟨ks,(kr1 54 fun _ _ _ _ _ x0 X0=>⟨_,run_gtri rfl (x0.trans X0) rfl,congrArg Value.bool (dT (by omega))⟩),ks,ks,ks,(kr1 58 fun _ _ _ _ _ x0 X0=>len_Sv rfl rfl x0 X0 hS),(kr1 59 fun _ _ _ _ _ x0 X0=>⟨_,run_subi rfl (x0.trans X0) rfl wO,rfl⟩),(kr2 57 60 fun _ _ _ _ _ x0 X0 _ x1 X1=>⟨_,run_lssi rfl (x0.trans X0) (x1.trans X1),congrArg Value.bool (dT (by omega))⟩),ks,ks,ks,ks,(kr2 64 65 fun _ _ _ _ _ x0 X0 _ x1 X1=>index_Sv rfl x0 X0 hS x1 X1 hgi),(kr1 66 fun _ _ _ h _ x0 X0=>load_EpC (w:=w) (k:=8) (A:=Vv N (cv vs i).1 (cv vs i).2) (Stab_Vv _ _ _) rfl x0 X0 h.k.below Tryz.underlying32 rfl size_Vec),ks,ks,(kr1 69 fun _ _ _ _ v0 x0 X0=>⟨_,run_addi rfl (x0.trans (show v0= .int .i64 i from X0)) rfl wO,congrArg (Value.int .i64) (by omega)⟩),(kd2 fun _ _ _ h _ X0 _ X1=>cR6Corner (k:=i+1) X0 X1 (VSv_later hS h.k.below)),ks,ks,(kr2 72 73 fun _ _ _ _ _ x0 X0 _ x1 X1=>index_Sv rfl x0 X0 hS x1 X1 hgk),(kr1 74 fun _ _ _ h _ x0 X0=>load_EpC (w:=w) (k:=8) (A:=Vv N (cv vs k).1 (cv vs k).2) (Stab_Vv _ _ _) rfl x0 X0 h.k.below Tryz.underlying32 rfl size_Vec),ks,ks,(kr1 77 fun _ _ _ _ v0 x0 X0=>⟨_,run_addi rfl (x0.trans (show v0= .int .i64 k from X0)) rfl wO,congrArg (Value.int .i64) (by omega)⟩),(kd2 fun _ _ _ h _ X0 _ X1=>cR6Corner (k:=k+1) X0 X1 (VSv_later hS h.k.below)),(by refine kc fun _ ac Y h D=>?_;obtain⟨v0,x0,X0⟩:=h.dp D 67;obtain⟨v1,x1,X1⟩:=h.dp D 71;obtain⟨v2,x2,X2⟩:=h.dp D 75;obtain⟨v3,x3,X3⟩:=h.dp D 79;exact⟨#[v0,v1,v2,v3],by simp [x0,x1,x2,x3],cR6MeetsV X0 X1 X2 X3 (by omega) (by omega) hmt⟩),ks,trivial⟩ ?_;intro a9 w9 st9;refine Wn ?_
         refine cT st9 ?_;refine Wn ?_
         refine rH [] [Vb false] [] [(0,VEq lv),(3,Vi i),(4,Vi k),(42,Vb true),(81,Vb true),(2,Vb false)] st9 ⟨ks,trivial⟩ fun a10 w10 st10=>Wn ?_
         exact wp_ret (rS 2 (Vb false) st10 fun vr r4=>(by rw [validR_f hlt (fun h=>by have:=h.2 k (List.mem_range.2 hlk);unfold badR at this;rw [dT hg1,dT hg2,hmt] at this;cases this)];exact r4))
        ·
         rw [Bool.not_eq_true] at hmt;refine Wn ?_
         refine rH [] [Vi ((gp vs i k:Nat):Int),Vb true,Vb true,Vi ((gp vs i k:Nat):Int),VEq lv,Vi (vs.length:Int),Vi ((vs.length:Int) - 1),Vb true,Vb true,Vb true,VEq lv,Vi i,VAt w (VEp 32 8 (Vv N (cv vs i).1 (cv vs i).2)),Vv N ((cv vs i).1) ((cv vs i).2),VEq lv,Vi i,Vi ((i+1:Nat):Int),Vv N ((cv vs (i+1)).1) ((cv vs (i+1)).2),VEq lv,Vi k,VAt w (VEp 32 8 (Vv N (cv vs k).1 (cv vs k).2)),Vv N ((cv vs k).1) ((cv vs k).2),VEq lv,Vi k,Vi ((k+1:Nat):Int),Vv N ((cv vs (k+1)).1) ((cv vs (k+1)).2),Vb false,Vb false] [] [(0,VEq lv),(3,Vi i),(4,Vi k),(42,Vb true),(81,Vb false)] st8 ⟨ks,(kr1 54 fun _ _ _ _ _ x0 X0=>⟨_,run_gtri rfl (x0.trans X0) rfl,congrArg Value.bool (dT (by omega))⟩),ks,ks,ks,(kr1 58 fun _ _ _ _ _ x0 X0=>len_Sv rfl rfl x0 X0 hS),(kr1 59 fun _ _ _ _ _ x0 X0=>⟨_,run_subi rfl (x0.trans X0) rfl wO,rfl⟩),(kr2 57 60 fun _ _ _ _ _ x0 X0 _ x1 X1=>⟨_,run_lssi rfl (x0.trans X0) (x1.trans X1),congrArg Value.bool (dT (by omega))⟩),ks,ks,ks,ks,(kr2 64 65 fun _ _ _ _ _ x0 X0 _ x1 X1=>index_Sv rfl x0 X0 hS x1 X1 hgi),(kr1 66 fun _ _ _ h _ x0 X0=>load_EpC (w:=w) (k:=8) (A:=Vv N (cv vs i).1 (cv vs i).2) (Stab_Vv _ _ _) rfl x0 X0 h.k.below Tryz.underlying32 rfl size_Vec),ks,ks,(kr1 69 fun _ _ _ _ v0 x0 X0=>⟨_,run_addi rfl (x0.trans (show v0= .int .i64 i from X0)) rfl wO,congrArg (Value.int .i64) (by omega)⟩),(kd2 fun _ _ _ h _ X0 _ X1=>cR6Corner (k:=i+1) X0 X1 (VSv_later hS h.k.below)),ks,ks,(kr2 72 73 fun _ _ _ _ _ x0 X0 _ x1 X1=>index_Sv rfl x0 X0 hS x1 X1 hgk),(kr1 74 fun _ _ _ h _ x0 X0=>load_EpC (w:=w) (k:=8) (A:=Vv N (cv vs k).1 (cv vs k).2) (Stab_Vv _ _ _) rfl x0 X0 h.k.below Tryz.underlying32 rfl size_Vec),ks,ks,(kr1 77 fun _ _ _ _ v0 x0 X0=>⟨_,run_addi rfl (x0.trans (show v0= .int .i64 k from X0)) rfl wO,congrArg (Value.int .i64) (by omega)⟩),(kd2 fun _ _ _ h _ X0 _ X1=>cR6Corner (k:=k+1) X0 X1 (VSv_later hS h.k.below)),(by refine kc fun _ ac Y h D=>?_;obtain⟨v0,x0,X0⟩:=h.dp D 67;obtain⟨v1,x1,X1⟩:=h.dp D 71;obtain⟨v2,x2,X2⟩:=h.dp D 75;obtain⟨v3,x3,X3⟩:=h.dp D 79;exact⟨#[v0,v1,v2,v3],by simp [x0,x1,x2,x3],cR6MeetsV X0 X1 X2 X3 (by omega) (by omega) hmt⟩),ks,trivial⟩ ?_;intro a9 w9 st9;refine Wn ?_
         refine cF st9 ?_;have hbd:badR vs i k=false:=by unfold badR;rw [hmt];simp
         refine Wn ?_
         refine rH [] [Vi k,Vi ((k+1:Nat):Int),Vi ((k+1:Nat):Int)] [] [(0,VEq lv),(3,Vi i),(42,Vb true),(81,Vb false),(4,Vi ((k+1:Nat):Int))] st9 ⟨?s0,(kr1 43 fun _ _ _ _ v0 x0 X0=>⟨_,run_addi rfl (x0.trans (show v0= .int .i64 k from X0)) rfl wO,congrArg (Value.int .i64) (by omega)⟩),ks,trivial⟩ ?_
         case s0=>
          refine k_run0 SbB.out (by kernel_rfl) fun listed ac Y h D hnl=>⟨trivial,?_⟩
          obtain⟨v0,x0,X0⟩:=h.out0 hnl (4,Vi k) (.tail _ (.tail _ (.head _))) 2 (by kernel_rfl) (.inr (by kernel_rfl));exact⟨_,run_move rfl,by rw [x0];exact X0⟩
         intro a10 w10 st10;replace st10:St w.heap.size w 86 [] [(0,VEq lv),(3,Vi i),(42,Vb true),(81,Vb false),(4,Vi ((k+1:Nat):Int))] a10 w10:=st10;exact⟨m2 - 1,by omega,k+1,by omega,fun k2 hk2=>(by rcases Nat.lt_or_ge k2 k with h|h;exact hpre2 k2 h;rw [show k2=k by omega];exact hbd),st10.cut⟩
       ·
        refine Wn ?_
        refine rH [] [Vi ((gp vs i k:Nat):Int),Vb true,Vb true,Vi ((gp vs i k:Nat):Int),VEq lv,Vi (vs.length:Int),Vi ((vs.length:Int) - 1),Vb false,Vb false,Vb false,VT,VT,VT,VT,VT,VT,VT,VT,VT,VT,VT,VT,VT,VT,VT,VT,VT,Vb false] [] [(0,VEq lv),(3,Vi i),(4,Vi k),(42,Vb true),(81,Vb false)] st8 ⟨ks,(kr1 54 fun _ _ _ _ _ x0 X0=>⟨_,run_gtri rfl (x0.trans X0) rfl,congrArg Value.bool (dT (by omega))⟩),ks,ks,ks,(kr1 58 fun _ _ _ _ _ x0 X0=>len_Sv rfl rfl x0 X0 hS),(kr1 59 fun _ _ _ _ _ x0 X0=>⟨_,run_subi rfl (x0.trans X0) rfl wO,rfl⟩),(kr2 57 60 fun _ _ _ _ _ x0 X0 _ x1 X1=>⟨_,run_lssi rfl (x0.trans X0) (x1.trans X1),congrArg Value.bool (dF (by omega))⟩),ks,ks,ks,ks,?s12,?s13,ks,ks,?s16,ks,ks,ks,?s20,?s21,ks,ks,?s24,ks,ks,ks,trivial⟩ ?_
        case s12=>
         refine k_skip SbB.out (by kernel_rfl) fun listed ac Y h D=>⟨?_,trivial⟩
         obtain⟨u,hu,hy,hU⟩:=h.dep D 9 63 (by kernel_rfl) (by kernel_rfl);obtain rfl:u= .bool false:=hU;exact⟨9,true,false,rfl,hy,by decide⟩
        case s13=>
         refine k_skip SbB.out (by kernel_rfl) fun listed ac Y h D=>⟨?_,trivial⟩
         obtain⟨u,hu,hy,hU⟩:=h.dep D 9 63 (by kernel_rfl) (by kernel_rfl);obtain rfl:u= .bool false:=hU;exact⟨9,true,false,rfl,hy,by decide⟩
        case s16=>
         refine k_skip SbB.out (by kernel_rfl) fun listed ac Y h D=>⟨?_,trivial⟩
         obtain⟨u,hu,hy,hU⟩:=h.dep D 9 63 (by kernel_rfl) (by kernel_rfl);obtain rfl:u= .bool false:=hU;exact⟨9,true,false,rfl,hy,by decide⟩
        case s20=>
         refine k_skip SbB.out (by kernel_rfl) fun listed ac Y h D=>⟨?_,trivial⟩
         obtain⟨u,hu,hy,hU⟩:=h.dep D 9 63 (by kernel_rfl) (by kernel_rfl);obtain rfl:u= .bool false:=hU;exact⟨9,true,false,rfl,hy,by decide⟩
        case s21=>
         refine k_skip SbB.out (by kernel_rfl) fun listed ac Y h D=>⟨?_,trivial⟩
         obtain⟨u,hu,hy,hU⟩:=h.dep D 9 63 (by kernel_rfl) (by kernel_rfl);obtain rfl:u= .bool false:=hU;exact⟨9,true,false,rfl,hy,by decide⟩
        case s24=>
         refine k_skip SbB.out (by kernel_rfl) fun listed ac Y h D=>⟨?_,trivial⟩
         obtain⟨u,hu,hy,hU⟩:=h.dep D 9 63 (by kernel_rfl) (by kernel_rfl);obtain rfl:u= .bool false:=hU;exact⟨9,true,false,rfl,hy,by decide⟩
        intro a9 w9 st9;refine Wn ?_
        refine cF st9 ?_;have hbd:badR vs i k=false:=by unfold badR;rw [dF hg2];simp
        refine Wn ?_
        refine rH [] [Vi k,Vi ((k+1:Nat):Int),Vi ((k+1:Nat):Int)] [] [(0,VEq lv),(3,Vi i),(42,Vb true),(81,Vb false),(4,Vi ((k+1:Nat):Int))] st9 ⟨?s0,(kr1 43 fun _ _ _ _ v0 x0 X0=>⟨_,run_addi rfl (x0.trans (show v0= .int .i64 k from X0)) rfl wO,congrArg (Value.int .i64) (by omega)⟩),ks,trivial⟩ ?_
        case s0=>
         refine k_run0 SbB.out (by kernel_rfl) fun listed ac Y h D hnl=>⟨trivial,?_⟩
         obtain⟨v0,x0,X0⟩:=h.out0 hnl (4,Vi k) (.tail _ (.tail _ (.head _))) 2 (by kernel_rfl) (.inr (by kernel_rfl));exact⟨_,run_move rfl,by rw [x0];exact X0⟩
        intro a10 w10 st10;replace st10:St w.heap.size w 86 [] [(0,VEq lv),(3,Vi i),(42,Vb true),(81,Vb false),(4,Vi ((k+1:Nat):Int))] a10 w10:=st10;exact⟨m2 - 1,by omega,k+1,by omega,fun k2 hk2=>(by rcases Nat.lt_or_ge k2 k with h|h;exact hpre2 k2 h;rw [show k2=k by omega];exact hbd),st10.cut⟩
      ·
       refine Wn ?_
       refine rH [] [Vi ((gp vs i k:Nat):Int),Vb false,Vb false,VT,VT,VT,VT,VT,Vb false,Vb false,VT,VT,VT,VT,VT,VT,VT,VT,VT,VT,VT,VT,VT,VT,VT,VT,VT,Vb false] [] [(0,VEq lv),(3,Vi i),(4,Vi k),(42,Vb true),(81,Vb false)] st8 ⟨ks,(kr1 54 fun _ _ _ _ _ x0 X0=>⟨_,run_gtri rfl (x0.trans X0) rfl,congrArg Value.bool (dF (by omega))⟩),ks,ks,ks,?s5,ks,ks,ks,ks,ks,ks,?s12,?s13,ks,ks,?s16,ks,ks,ks,?s20,?s21,ks,ks,?s24,ks,ks,ks,trivial⟩ ?_
       case s5=>
        refine k_skip SbB.out (by kernel_rfl) fun listed ac Y h D=>⟨?_,trivial⟩
        obtain⟨u,hu,hy,hU⟩:=h.dep D 2 56 (by kernel_rfl) (by kernel_rfl);obtain rfl:u= .bool false:=hU;exact⟨2,true,false,rfl,hy,by decide⟩
       case s12=>
        refine k_skip SbB.out (by kernel_rfl) fun listed ac Y h D=>⟨?_,trivial⟩
        obtain⟨u,hu,hy,hU⟩:=h.dep D 9 63 (by kernel_rfl) (by kernel_rfl);obtain rfl:u= .bool false:=hU;exact⟨9,true,false,rfl,hy,by decide⟩
       case s13=>
        refine k_skip SbB.out (by kernel_rfl) fun listed ac Y h D=>⟨?_,trivial⟩
        obtain⟨u,hu,hy,hU⟩:=h.dep D 9 63 (by kernel_rfl) (by kernel_rfl);obtain rfl:u= .bool false:=hU;exact⟨9,true,false,rfl,hy,by decide⟩
       case s16=>
        refine k_skip SbB.out (by kernel_rfl) fun listed ac Y h D=>⟨?_,trivial⟩
        obtain⟨u,hu,hy,hU⟩:=h.dep D 9 63 (by kernel_rfl) (by kernel_rfl);obtain rfl:u= .bool false:=hU;exact⟨9,true,false,rfl,hy,by decide⟩
       case s20=>
        refine k_skip SbB.out (by kernel_rfl) fun listed ac Y h D=>⟨?_,trivial⟩
        obtain⟨u,hu,hy,hU⟩:=h.dep D 9 63 (by kernel_rfl) (by kernel_rfl);obtain rfl:u= .bool false:=hU;exact⟨9,true,false,rfl,hy,by decide⟩
       case s21=>
        refine k_skip SbB.out (by kernel_rfl) fun listed ac Y h D=>⟨?_,trivial⟩
        obtain⟨u,hu,hy,hU⟩:=h.dep D 9 63 (by kernel_rfl) (by kernel_rfl);obtain rfl:u= .bool false:=hU;exact⟨9,true,false,rfl,hy,by decide⟩
       case s24=>
        refine k_skip SbB.out (by kernel_rfl) fun listed ac Y h D=>⟨?_,trivial⟩
        obtain⟨u,hu,hy,hU⟩:=h.dep D 9 63 (by kernel_rfl) (by kernel_rfl);obtain rfl:u= .bool false:=hU;exact⟨9,true,false,rfl,hy,by decide⟩
       intro a9 w9 st9;refine Wn ?_
       refine cF st9 ?_;have hbd:badR vs i k=false:=by unfold badR;rw [dF hg1];simp
       refine Wn ?_
       refine rH [] [Vi k,Vi ((k+1:Nat):Int),Vi ((k+1:Nat):Int)] [] [(0,VEq lv),(3,Vi i),(42,Vb true),(81,Vb false),(4,Vi ((k+1:Nat):Int))] st9 ⟨?s0,(kr1 43 fun _ _ _ _ v0 x0 X0=>⟨_,run_addi rfl (x0.trans (show v0= .int .i64 k from X0)) rfl wO,congrArg (Value.int .i64) (by omega)⟩),ks,trivial⟩ ?_
       case s0=>
        refine k_run0 SbB.out (by kernel_rfl) fun listed ac Y h D hnl=>⟨trivial,?_⟩
        obtain⟨v0,x0,X0⟩:=h.out0 hnl (4,Vi k) (.tail _ (.tail _ (.head _))) 2 (by kernel_rfl) (.inr (by kernel_rfl));exact⟨_,run_move rfl,by rw [x0];exact X0⟩
       intro a10 w10 st10;replace st10:St w.heap.size w 86 [] [(0,VEq lv),(3,Vi i),(42,Vb true),(81,Vb false),(4,Vi ((k+1:Nat):Int))] a10 w10:=st10;exact⟨m2 - 1,by omega,k+1,by omega,fun k2 hk2=>(by rcases Nat.lt_or_ge k2 k with h|h;exact hpre2 k2 h;rw [show k2=k by omega];exact hbd),st10.cut⟩
     ·
      refine Wn ?_
      refine rH [] [Vi k,VEq lv,Vi (vs.length:Int),Vb false] [] [(0,VEq lv),(3,Vi i),(4,Vi k),(42,Vb false)] st6 ⟨ks,ks,(kr1 40 fun _ _ _ _ _ x0 X0=>len_Sv rfl rfl x0 X0 hS),(kr2 39 41 fun _ _ _ _ _ x0 X0 _ x1 X1=>⟨_,run_lssi rfl (x0.trans X0) (x1.trans X1),congrArg Value.bool (dF (by omega))⟩),trivial⟩ fun a7 w7 st7=>Wn ?_
      refine cF st7 ?_;refine Wn ?_
      refine rH [] [Vi i,Vi ((i+1:Nat):Int),Vi ((i+1:Nat):Int)] [] [(0,VEq lv),(4,Vi k),(42,Vb false),(3,Vi ((i+1:Nat):Int))] st7 ⟨?s0,(kr1 23 fun _ _ _ _ v0 x0 X0=>⟨_,run_addi rfl (x0.trans (show v0= .int .i64 i from X0)) rfl wO,congrArg (Value.int .i64) (by omega)⟩),ks,trivial⟩ ?_
      case s0=>
       refine k_run0 SbB.out (by kernel_rfl) fun listed ac Y h D hnl=>⟨trivial,?_⟩
       obtain⟨v0,x0,X0⟩:=h.out0 hnl (3,Vi i) (.tail _ (.head _)) 2 (by kernel_rfl) (.inr (by kernel_rfl));exact⟨_,run_move rfl,by rw [x0];exact X0⟩
      intro a8 w8 st8;replace st8:St w.heap.size w 86 [] [(0,VEq lv),(4,Vi k),(42,Vb false),(3,Vi ((i+1:Nat):Int))] a8 w8:=st8;exact⟨m - 1,by omega,i+1,by omega,fun i2 hi2=>(by rcases Nat.lt_or_ge i2 i with h|h;exact hpre i2 h;rw [show i2=i by omega];exact⟨htn,fun k2 hk2=>hpre2 k2 (by have:=List.mem_range.1 hk2;omega)⟩),st8.cut⟩
   ·
    refine Wn ?_
    refine rH [] [Vi i,VEq lv,Vi (vs.length:Int),Vb false] [] [(0,VEq lv),(3,Vi i),(22,Vb false)] st3 ⟨ks,ks,(kr1 20 fun _ _ _ _ _ x0 X0=>len_Sv rfl rfl x0 X0 hS),(kr2 19 21 fun _ _ _ _ _ x0 X0 _ x1 X1=>⟨_,run_lssi rfl (x0.trans X0) (x1.trans X1),congrArg Value.bool (dF (by omega))⟩),trivial⟩ fun a4 w4 st4=>Wn ?_
    refine cF st4 ?_;have hok:decide (∀i∈List.range vs.length,okR vs i)=true:=dT fun i2 hi2=>hpre i2 (by have:=List.mem_range.1 hi2;omega)
    by_cases har:0<(areaR vs).num
    ·
     refine Wn ?_
     refine rH [] [VEq lv,Vq (6+vs.length*(4*N+3)) (areaR vs),Vi (cmpI (areaR vs).num 0),Vb true,Vb true] [] [(0,VEq lv),(3,Vi i),(22,Vb false),(2,Vb true)] st4 ⟨ks,(kd1 fun _ _ _ h _ X0=>cR6Area X0 (VSv_later hS h.k.below) (by omega) hbd6),(kd1 fun _ _ _ _ _ X0=>cR4Sign X0),(kr1 84 fun _ _ _ _ _ x0 X0=>⟨_,run_gtri rfl (x0.trans X0) rfl,congrArg Value.bool (dT ((cmpI_gt _).2 har))⟩),ks,trivial⟩ fun a5 w5 st5=>Wn ?_
     exact wp_ret (rS 2 (Vb true) st5 fun vr r4=>(by rw [show validR vs=true by unfold validR;rw [h3,h12,hok,dT har];rfl];exact r4))
    ·
     refine Wn ?_
     refine rH [] [VEq lv,Vq (6+vs.length*(4*N+3)) (areaR vs),Vi (cmpI (areaR vs).num 0),Vb false,Vb false] [] [(0,VEq lv),(3,Vi i),(22,Vb false),(2,Vb false)] st4 ⟨ks,(kd1 fun _ _ _ h _ X0=>cR6Area X0 (VSv_later hS h.k.below) (by omega) hbd6),(kd1 fun _ _ _ _ _ X0=>cR4Sign X0),(kr1 84 fun _ _ _ h _ x0 X0=>⟨_,run_gtri rfl (x0.trans X0) rfl,congrArg Value.bool (dF (fun h=>har ((cmpI_gt _).1 h)))⟩),ks,trivial⟩ fun a5 w5 st5=>Wn ?_
     exact wp_ret (rS 2 (Vb false) st5 fun vr r4=>(by rw [show validR vs=false by unfold validR;rw [dF har];simp];exact r4))
theorem validR_len {vs:List P2}(h:validR vs=true):3<=vs.length/\vs.length<=12:=by
 unfold validR at h;simp only [Bool.and_eq_true,decide_eq_true_eq] at h;exact⟨h.1,h.2.1⟩
theorem cR6ValidV {w:World}{N:Nat}{vs:List P2}{lv v0:Value}{x:Bool}(h0:VEq lv v0 w)(hS:VSv N vs lv w)(hN1:3<=N)(hN2:N<=17)(hx:validR vs=x):Calls Tryz.prog 35 #[v0] w (RV (Vb x) w):=by
 subst hx;exact cR6Valid h0 hS hN1 hN2
def onR (vs:List P2)(p:P2)(k:Nat):Bool:=meetsR p p (cv vs k) (cv vs (k+1))
end Go.Proofs.YteacdbgalloaiaaGreat
