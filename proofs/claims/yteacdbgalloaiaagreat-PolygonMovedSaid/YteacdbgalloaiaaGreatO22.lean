/- Contracts of the packages integer, rat, plane, polygon and their references. -/
import Derived.Test.YteacdbgalloaiaaGreatO21
import Derived.Deep.AppendSrc
import Derived.Test.YteacdbgalloaiaaGreatO14
set_option linter.unusedVariables false
set_option maxRecDepth 100000
set_option maxHeartbeats 6400000
namespace Go.Proofs.YteacdbgalloaiaaGreat
open Go.RowKit
open Go
def spq (l:List Int)(ix:Int):Int:=1+atv l (ix+2) 2
def spt (l:List Int)(ix:Int):P2:=(Rat.divInt (atv l ix (16*spq l ix+1) - 8*spq l ix) (spq l ix),Rat.divInt (atv l (ix+1) (16*spq l ix+1) - 8*spq l ix) (spq l ix))
theorem spq_or (l:List Int)(ix:Int):spq l ix=1∨spq l ix=2:=by
 have h1:=atv_lo l (ix+2) 2 (by omega);have h3:=atv_hi l (ix+2) 2 (by omega);unfold spq;omega
theorem cR6Spot {w:World}{l:List Int}{ix:Int}{v0 v1:Value}(h0:VI l v0 w)(h1:Vi ix v1 w)(hi0:0<=ix:=by omega)(hi1:ix<=100000:=by omega):Calls Tryz.prog 41 #[v0,v1] w (RV (Vv 3 (spt l ix).1 (spt l ix).2) w):=by
 go_enter Tryz.func41,Tryz.ntmps41
 refine Sg 35 [(0,VI l),(1,Vi ix)] (Lq.2 ⟨⟨_,rfl,h0⟩,(Lq.2 ⟨⟨_,rfl,h1⟩,L0⟩)⟩) fun a0 st0=>Wn ?_
 refine rH [(32,8,0)] [VT] [⟨4,some 0,none,32,8,VT,VT⟩] [(0,VI l),(1,Vi ix)] st0 ⟨ks,trivial⟩ ?_;intro a1 w1 st1;have ha0:=atv_lo l (ix+2) 2 (by omega);have ha1:=atv_hi l (ix+2) 2 (by omega);refine Wn ?_
 refine rH [(32,8,0)] [VI l,Vi ix,Vi ((ix)+(2)),Vi (atv l ((ix)+(2)) 2),Vi ((1)+(atv l ((ix)+(2)) 2)),Vi ((1)+(atv l ((ix)+(2)) 2))] [.k 4 32 8 VT] [(0,VI l),(1,Vi ix),(5,Vi ((1)+(atv l ((ix)+(2)) 2)))] st1 ⟨ks,ks,(kr1 7 fun _ _ _ _ _ x0 X0=>⟨_,run_addi rfl (x0.trans X0) rfl wO,rfl⟩),(by refine kc fun _ A Y h D=>?_;obtain⟨v0,x0,X0⟩:=h.dp D 6;obtain⟨v1,x1,X1⟩:=h.dp D 8;exact⟨#[v0,v1,.int .i64 2],by simp [x0,x1,eval_const],cAt X0 X1⟩),(by refine kr fun _ A Y h D=>?_;obtain⟨v1,x1,X1⟩:=h.dp D 9;have hV1':v1= .int .i64 (atv l ((ix)+(2)) 2):=X1;exact⟨_,run_addi rfl rfl (x1.trans hV1') wO,rfl⟩),ks,trivial⟩ ?_;intro a2 w2 st2;have hq:=spq_or l ix;rcases hq with hq|hq
 ·
  have hq2:(1:Int)+(atv l (ix+2) 2)=1:=hq;replace st2:St w.heap.size w 35 [.k 4 32 8 VT] [(0,VI l),(1,Vi ix),(5,Vi ((1)+(atv l ((ix)+(2)) 2)))] a2 w2:=st2;rw [hq2] at st2;have hb0:=atv_lo l ix 17 (by omega);have hb2:=atv_lo l (ix+1) 17 (by omega);have hb4:=atv_hi l ix 17 (by omega);have hb5:=atv_hi l (ix+1) 17 (by omega);refine Wn ?_
  refine rH [(32,8,0)] [VI l,Vi ix,Vi 1,Vi ((16)*(1)),Vi (((16)*(1))+(1)),Vi (atv l ix 17),Vi 1,Vi ((8)*(1)),Vi ((atv l ix 17) - ((8)*(1))),Vi 1,Vq 3 (Rat.divInt ((atv l ix 17) - ((8)*(1))) 1),VI l,Vi ix,Vi ((ix)+(1)),Vi 1,Vi ((16)*(1)),Vi (((16)*(1))+(1)),Vi (atv l (ix+1) 17),Vi 1,Vi ((8)*(1)),Vi ((atv l (ix+1) 17) - ((8)*(1))),Vi 1,Vq 3 (Rat.divInt ((atv l (ix+1) 17) - ((8)*(1))) 1),Vv 3 (Rat.divInt ((atv l ix 17) - ((8)*(1))) 1) (Rat.divInt ((atv l (ix+1) 17) - ((8)*(1))) 1),VT] [⟨4,none,some 24,32,8,Vv 3 (Rat.divInt ((atv l ix 17) - ((8)*(1))) 1) (Rat.divInt ((atv l (ix+1) 17) - ((8)*(1))) 1),VT⟩] [(0,VI l),(1,Vi ix),(5,Vi 1)] st2 ⟨ks,ks,ks,(by refine kr fun _ A Y h D=>?_;obtain⟨v1,x1,X1⟩:=h.dp D 13;have hV1':v1= .int .i64 (1):=X1;exact⟨_,run_muli rfl rfl (x1.trans hV1') wO,rfl⟩),(kr1 14 fun _ _ _ _ _ x0 X0=>⟨_,run_addi rfl (x0.trans X0) rfl wO,rfl⟩),?s5,ks,(by refine kr fun _ A Y h D=>?_;obtain⟨v1,x1,X1⟩:=h.dp D 17;have hV1':v1= .int .i64 (1):=X1;exact⟨_,run_muli rfl rfl (x1.trans hV1') wO,rfl⟩),(kr2 16 18 fun _ _ _ _ _ x0 X0 _ x1 X1=>⟨_,run_subi rfl (x0.trans X0) (x1.trans X1) wO,rfl⟩),ks,(kd2 fun _ _ _ _ _ X0 _ X1=>cR4Of X0 X1),ks,ks,(kr1 23 fun _ _ _ _ _ x0 X0=>⟨_,run_addi rfl (x0.trans X0) rfl wO,rfl⟩),ks,(by refine kr fun _ A Y h D=>?_;obtain⟨v1,x1,X1⟩:=h.dp D 25;have hV1':v1= .int .i64 (1):=X1;exact⟨_,run_muli rfl rfl (x1.trans hV1') wO,rfl⟩),(kr1 26 fun _ _ _ _ _ x0 X0=>⟨_,run_addi rfl (x0.trans X0) rfl wO,rfl⟩),?s17,ks,(by refine kr fun _ A Y h D=>?_;obtain⟨v1,x1,X1⟩:=h.dp D 29;have hV1':v1= .int .i64 (1):=X1;exact⟨_,run_muli rfl rfl (x1.trans hV1') wO,rfl⟩),(kr2 28 30 fun _ _ _ _ _ x0 X0 _ x1 X1=>⟨_,run_subi rfl (x0.trans X0) (x1.trans X1) wO,rfl⟩),ks,(kd2 fun _ _ _ _ _ X0 _ X1=>cR4Of X0 X1),(kr2 21 33 fun _ _ _ _ _ x0 X0 _ x1 X1=>build_Vec rfl x0 x1 (AggV_Vq _ _) (AggV_Vq _ _) X0 X1),ks,trivial⟩ ?_
  case s5=>
   refine kc fun _ A Y h D=>?_
   obtain⟨v0,x0,X0⟩:=h.dp D 11;obtain⟨v1,x1,X1⟩:=h.dp D 12;obtain⟨v2,x2,X2⟩:=h.dp D 15;have hx:v2=Value.int .i64 17:=X2.trans (congrArg (Value.int .i64) (by omega));exact⟨#[v0,v1,v2],by simp [x0,x1,x2],by rw [hx];exact cAt X0 X1⟩
  case s17=>
   refine kc fun _ A Y h D=>?_
   obtain⟨v0,x0,X0⟩:=h.dp D 22;obtain⟨v1,x1,X1⟩:=h.dp D 24;obtain⟨v2,x2,X2⟩:=h.dp D 27;have hx:v2=Value.int .i64 17:=X2.trans (congrArg (Value.int .i64) (by omega));exact⟨#[v0,v1,v2],by simp [x0,x1,x2],by rw [hx];exact cAt X0 X1⟩
  intro a3 w3 st3;refine Wn ?_
  exact wp_ret (rC 4 32 (Vv 3 (Rat.divInt ((atv l ix 17) - ((8)*(1))) 1) (Rat.divInt ((atv l (ix+1) 17) - ((8)*(1))) 1)) st3 fun cs r4=>(by rw [show spt l ix=(Rat.divInt (atv l ix 17 - 8) 1,Rat.divInt (atv l (ix+1) 17 - 8) 1) by unfold spt;rw [hq];rfl];exact r4))
 ·
  have hq2:(1:Int)+(atv l (ix+2) 2)=2:=hq;replace st2:St w.heap.size w 35 [.k 4 32 8 VT] [(0,VI l),(1,Vi ix),(5,Vi ((1)+(atv l ((ix)+(2)) 2)))] a2 w2:=st2;rw [hq2] at st2;have hb0:=atv_lo l ix 33 (by omega);have hb2:=atv_lo l (ix+1) 33 (by omega);have hb4:=atv_hi l ix 33 (by omega);have hb5:=atv_hi l (ix+1) 33 (by omega);refine Wn ?_
  refine rH [(32,8,0)] [VI l,Vi ix,Vi 2,Vi ((16)*(2)),Vi (((16)*(2))+(1)),Vi (atv l ix 33),Vi 2,Vi ((8)*(2)),Vi ((atv l ix 33) - ((8)*(2))),Vi 2,Vq 3 (Rat.divInt ((atv l ix 33) - ((8)*(2))) 2),VI l,Vi ix,Vi ((ix)+(1)),Vi 2,Vi ((16)*(2)),Vi (((16)*(2))+(1)),Vi (atv l (ix+1) 33),Vi 2,Vi ((8)*(2)),Vi ((atv l (ix+1) 33) - ((8)*(2))),Vi 2,Vq 3 (Rat.divInt ((atv l (ix+1) 33) - ((8)*(2))) 2),Vv 3 (Rat.divInt ((atv l ix 33) - ((8)*(2))) 2) (Rat.divInt ((atv l (ix+1) 33) - ((8)*(2))) 2),VT] [⟨4,none,some 24,32,8,Vv 3 (Rat.divInt ((atv l ix 33) - ((8)*(2))) 2) (Rat.divInt ((atv l (ix+1) 33) - ((8)*(2))) 2),VT⟩] [(0,VI l),(1,Vi ix),(5,Vi 2)] st2 ⟨ks,ks,ks,(by refine kr fun _ A Y h D=>?_;obtain⟨v1,x1,X1⟩:=h.dp D 13;have hV1':v1= .int .i64 (2):=X1;exact⟨_,run_muli rfl rfl (x1.trans hV1') wO,rfl⟩),(kr1 14 fun _ _ _ _ _ x0 X0=>⟨_,run_addi rfl (x0.trans X0) rfl wO,rfl⟩),?s5,ks,(by refine kr fun _ A Y h D=>?_;obtain⟨v1,x1,X1⟩:=h.dp D 17;have hV1':v1= .int .i64 (2):=X1;exact⟨_,run_muli rfl rfl (x1.trans hV1') wO,rfl⟩),(kr2 16 18 fun _ _ _ _ _ x0 X0 _ x1 X1=>⟨_,run_subi rfl (x0.trans X0) (x1.trans X1) wO,rfl⟩),ks,(kd2 fun _ _ _ _ _ X0 _ X1=>cR4Of X0 X1),ks,ks,(kr1 23 fun _ _ _ _ _ x0 X0=>⟨_,run_addi rfl (x0.trans X0) rfl wO,rfl⟩),ks,(by refine kr fun _ A Y h D=>?_;obtain⟨v1,x1,X1⟩:=h.dp D 25;have hV1':v1= .int .i64 (2):=X1;exact⟨_,run_muli rfl rfl (x1.trans hV1') wO,rfl⟩),(kr1 26 fun _ _ _ _ _ x0 X0=>⟨_,run_addi rfl (x0.trans X0) rfl wO,rfl⟩),?s17,ks,(by refine kr fun _ A Y h D=>?_;obtain⟨v1,x1,X1⟩:=h.dp D 29;have hV1':v1= .int .i64 (2):=X1;exact⟨_,run_muli rfl rfl (x1.trans hV1') wO,rfl⟩),(kr2 28 30 fun _ _ _ _ _ x0 X0 _ x1 X1=>⟨_,run_subi rfl (x0.trans X0) (x1.trans X1) wO,rfl⟩),ks,(kd2 fun _ _ _ _ _ X0 _ X1=>cR4Of X0 X1),(kr2 21 33 fun _ _ _ _ _ x0 X0 _ x1 X1=>build_Vec rfl x0 x1 (AggV_Vq _ _) (AggV_Vq _ _) X0 X1),ks,trivial⟩ ?_
  case s5=>
   refine kc fun _ A Y h D=>?_
   obtain⟨v0,x0,X0⟩:=h.dp D 11;obtain⟨v1,x1,X1⟩:=h.dp D 12;obtain⟨v2,x2,X2⟩:=h.dp D 15;have hx:v2=Value.int .i64 33:=X2.trans (congrArg (Value.int .i64) (by omega));exact⟨#[v0,v1,v2],by simp [x0,x1,x2],by rw [hx];exact cAt X0 X1⟩
  case s17=>
   refine kc fun _ A Y h D=>?_
   obtain⟨v0,x0,X0⟩:=h.dp D 22;obtain⟨v1,x1,X1⟩:=h.dp D 24;obtain⟨v2,x2,X2⟩:=h.dp D 27;have hx:v2=Value.int .i64 33:=X2.trans (congrArg (Value.int .i64) (by omega));exact⟨#[v0,v1,v2],by simp [x0,x1,x2],by rw [hx];exact cAt X0 X1⟩
  intro a3 w3 st3;refine Wn ?_
  exact wp_ret (rC 4 32 (Vv 3 (Rat.divInt ((atv l ix 33) - ((8)*(2))) 2) (Rat.divInt ((atv l (ix+1) 33) - ((8)*(2))) 2)) st3 fun cs r4=>(by rw [show spt l ix=(Rat.divInt (atv l ix 33 - 16) 2,Rat.divInt (atv l (ix+1) 33 - 16) 2) by unfold spt;rw [hq];rfl];exact r4))
def E3 (x:Int×Int×Int):VP:=VEq (.agg #[.int .i64 x.1,.int .i64 x.2.1,.int .i64 x.2.2])
instance {BT:List (TypeId×Nat×Nat)}(x:Int×Int×Int):Sb BT (E3 x):=⟨fun _ _ _ h _=>h⟩
def spins:List (Int×Int×Int):=[(1,0,1),(0,1,1),(-1,0,1),(0,-1,1),(3,4,5),(-4,3,5),(5,-12,13),(-3,-4,5)]
def spn (n:Int):Int×Int×Int:=spins.getD (arn n 8).toNat (0,0,0)
def spC (n:Int):Rat:=Rat.divInt (spn n).1 (spn n).2.2
def spS (n:Int):Rat:=Rat.divInt (spn n).2.1 (spn n).2.2
theorem spins_bd:∀j<8,-100<=(spins.getD j (0,0,0)).1/\(spins.getD j (0,0,0)).1<=100/\ -100<=(spins.getD j (0,0,0)).2.1/\(spins.getD j (0,0,0)).2.1<=100/\ -100<=(spins.getD j (0,0,0)).2.2/\(spins.getD j (0,0,0)).2.2<=100:=by decide
theorem Stab_VSl3 {xs:List (Int×Int×Int)}:Stab [] (VSl 106 3 E3 xs):=fun _ _ _ ⟨hh,o,c,cs,e1,e2,e3,e4,e5,e6⟩ hr=>⟨hh,o,c,cs,e1,e2,e3,(hr.row _ _ _ e4 (.inl (by simp))).trans e4,e5,e6⟩
instance {xs:List (Int×Int×Int)}:Sb [] (VSl 106 3 E3 xs):=⟨Stab_VSl3⟩
instance {x:Int×Int×Int}:Sb [] (VEp 106 3 (E3 x)):=⟨Stab_VEp0 (fun _ _ _ h _=>h)⟩
section
variable {ρ:Operand->Value}{o:Oper}{W:World}{x y:Operand}{va vb:Value}
theorem run_build3 {a b c:Int}(ho:o.op= .build 106 #[(0,.const (.int .i64 a)),(1,.const (.int .i64 b)),(2,.const (.int .i64 c))])(hc:∀v,ρ (.const v)=v):∃v,(execOp ρ o).run Tryz.prog W= .ok (.value v) W/\E3 (a,b,c) v W:=by
 refine⟨_,?_,rfl⟩;obtain⟨dd,op,ty,ps,af,gd⟩:=o;subst ho
 go_simp
theorem bslice_A8 {x0 x1 x2 x3 x4 x5 x6 x7:Operand}{v0 v1 v2 v3 v4 v5 v6 v7:Value}(ho:o.op= .buildSlice 107 8 #[(0,x0),(1,x1),(2,x2),(3,x3),(4,x4),(5,x5),(6,x6),(7,x7)])(e0:ρ x0=v0)(e1:ρ x1=v1)(e2:ρ x2=v2)(e3:ρ x3=v3)(e4:ρ x4=v4)(e5:ρ x5=v5)(e6:ρ x6=v6)(e7:ρ x7=v7)(h0:E3 (1,0,1) v0 W)(h1:E3 (0,1,1) v1 W)(h2:E3 (-1,0,1) v2 W)(h3:E3 (0,-1,1) v3 W)(h4:E3 (3,4,5) v4 W)(h5:E3 (-4,3,5) v5 W)(h6:E3 (5,-12,13) v6 W)(h7:E3 (-3,-4,5) v7 W):∃v w',(execOp ρ o).run Tryz.prog W= .ok (.value v) w'/\Below W.heap.size W w'/\VSl 106 3 E3 spins v w':=by
 obtain rfl:v0=_:=h0;obtain rfl:v1=_:=h1;obtain rfl:v2=_:=h2;obtain rfl:v3=_:=h3;obtain rfl:v4=_:=h4;obtain rfl:v5=_:=h5;obtain rfl:v6=_:=h6;obtain rfl:v7=_:=h7;have hb:=below_new W (.cells #[.int .i64 1,.int .i64 0,.int .i64 1,.int .i64 0,.int .i64 1,.int .i64 1,.int .i64 (-1),.int .i64 0,.int .i64 1,.int .i64 0,.int .i64 (-1),.int .i64 1,.int .i64 3,.int .i64 4,.int .i64 5,.int .i64 (-4),.int .i64 3,.int .i64 5,.int .i64 5,.int .i64 (-12),.int .i64 13,.int .i64 (-3),.int .i64 (-4),.int .i64 5] 106);refine⟨.slice (some ⟨W.heap.size,0,none⟩) 8 8,_,?_,hb,⟨_,0,8,_,rfl,Nat.le_refl _,by omega,heap_alloc_new _ _,Nat.le_refl _,fun i z hz=>?_⟩⟩
 ·clear hb;obtain⟨dd,op,ty,ps,af,gd⟩:=o;subst ho
  go_simp
 ·match i,hz with
  |0,hz=>cases hz;rfl
  |1,hz=>cases hz;rfl
  |2,hz=>cases hz;rfl
  |3,hz=>cases hz;rfl
  |4,hz=>cases hz;rfl
  |5,hz=>cases hz;rfl
  |6,hz=>cases hz;rfl
  |7,hz=>cases hz;rfl
  |i+8,hz=>simp [spins] at hz
theorem len_A8 (ho:o.op= .call {callee:= .builtin .len,args:=#[x],argTypes:=#[107]})(hty:o.type=3)(hx:ρ x=va)(h:VSl 106 3 E3 spins va W):∃v,(execOp ρ o).run Tryz.prog W= .ok (.value v) W/\Vi 8 v W:=by
 obtain⟨hh,oo,c,cs,rfl,-⟩:=h;refine⟨.int .i64 8,?_,rfl⟩;have:spins.length=8:=rfl;obtain⟨dd,op,ty,ps,af,gd⟩:=o;subst ho;simp only at hty;subst hty;rw [this] at hx
 go_simp
theorem index_A8 {z:Int×Int×Int}{j:Nat}(ho:o.op= .indexAddr 107 x y)(hx:ρ x=va)(h:VSl 106 3 E3 spins va W)(hy:ρ y=vb)(hb:Vi (j:Int) vb W)(hz:spins[j]? =some z)(hj:j<8):∃v,(execOp ρ o).run Tryz.prog W= .ok (.value v) W/\VEp 106 3 (E3 z) v W:=by
 obtain⟨b,off,c,rfl,h2⟩:=VSl_el h hz;obtain rfl:vb=_:=hb;refine⟨.pointer (some ⟨b,off+3*j,none⟩),?_,h2⟩;have hj2:(j:Int)<8:=by omega
 have hm:j*3=3*j:=Nat.mul_comm _ _;have hl:spins.length=8:=rfl;clear h h2 hz;obtain⟨dd,op,ty,ps,af,gd⟩:=o;subst ho;rw [hl] at hx
 go_simp
theorem load_A3 {z:Int×Int×Int}(ho:o.op= .load 106 x)(hx:ρ x=va)(h:VEp 106 3 (E3 z) va W):∃v,(execOp ρ o).run Tryz.prog W= .ok (.value v) W/\E3 z v W:=
 load_EpC (w:=W) (fun _ _ _ h _=>h) ho hx h (Below.refl _ _) Tryz.underlying106 rfl (by kernel_rfl)
theorem alloc_A3 (W:World):(Instr.alloc 106 true (.tuple #[])).run Tryz.prog W= .ok (.pointer (some ⟨W.heap.size,0,none⟩)) (W.alloc (.cells #[.int .i64 0,.int .i64 0,.int .i64 0] 106)):=by go_simp
theorem alloc_A3N {n:Nat}(ho:o.op= .alloc 106)(hn:n<=W.heap.size):∃v w',(execOp ρ o).run Tryz.prog W= .ok (.value v) w'/\Below W.heap.size W w'/\VNw n #[.int .i64 0,.int .i64 0,.int .i64 0] 106 v w':=by
 refine⟨_,W.alloc (.cells #[.int .i64 0,.int .i64 0,.int .i64 0] 106),?_,below_new _ _,W.heap.size,hn,rfl,World.alloc_heap_new _ _⟩;unfold execOp;simp only [ho,Sem.run_bind,alloc_A3,Sem.run_pure,Result.andThen_ok]
theorem index_c3 {g k:Nat}{cs:Array Value}(ho:o.op= .indexAddr 106 x (.const (.int .i64 (k:Int))))(hc:∀v,ρ (.const v)=v)(hx:ρ x=va)(h:VRow g cs 106 va W)(hk:k<3):∃v,(execOp ρ o).run Tryz.prog W= .ok (.value v) W/\VEq (.pointer (some ⟨g,k,none⟩)) v W:=by
 obtain⟨rfl,-⟩:=h;refine⟨.pointer (some ⟨g,k,none⟩),?_,rfl⟩;obtain⟨dd,op,ty,ps,af,gd⟩:=o;subst ho
 match k,hk with
 |0,_=>go_simp
 |1,_=>go_simp
 |2,_=>go_simp
theorem load_c3 {g k:Nat}{cs:Array Value}{u:Int}{T:TypeId}(ho:o.op= .load 3 x)(hx:ρ x=va)(h:VEq (.pointer (some ⟨g,k,none⟩)) va W)(hg:W.heap[g]? =some (.cells cs T (0,0)))(hu:cs[k]? =some (.int .i64 u)):∃v,(execOp ρ o).run Tryz.prog W= .ok (.value v) W/\Vi u v W:=by
 obtain rfl:va=_:=h;have hcell:W.cell? ⟨g,k,none⟩=some (.int .i64 u):=by simp [World.cell?,hg,hu]
 have hagg:(isAgg 3).run Tryz.prog W= .ok false W:=by
  unfold isAgg;rw [Sem.run_bind,run_underlying Tryz.underlying3 W];rfl
 refine⟨_,?_,rfl⟩;unfold execOp;simp only [ho,hx,Instr.loadAt,Instr.sureAddr,Sem.run_bind,Sem.run_pure,Result.andThen_ok,loadVar,hagg];simp only [Bool.false_eq_true,if_false,run_load,hcell,Result.andThen_ok]
end
theorem St.setRowB {n0 N g:Nat}{w0 w:World}{L:List Bd}{SL SL':List (Nat×VP)}{a:Act}{cs old:Array Value}{T:TypeId}(h:St n0 w0 N L SL a w)(hg:w.heap[g]? =some (.cells old T (0,0)))(hn:n0<=g)(hL:∀b∈L,b.T≠T/\Pure b.P/\b.ia=none/\b.ik=none)(hs:∀p∈SL',∃v,a.tmps[p.1]? =some v/\p.2 v (w.setRow g cs)):St n0 w0 N L SL' a (w.setRow g cs):=by
 refine⟨⟨below_setRow h.k.below hn,fun b hb hon=>?_,h.k.ne,fun b hb hk=>absurd (hL b hb).2.2.2 hk⟩,by simpa [World.setRow] using h.n,h.size,h.defers,hs⟩;obtain⟨q1,q2,q3,q4⟩:=hL b hb;obtain⟨g',cs',e1,e2,e3,e4,e5,e6,e7⟩:=h.k.ok b hb (by rw [q3];rfl);refine⟨g',cs',e1,e2,(setRow_other w g g' cs ?_).trans e3,e4,e5,fun hk=>q2 _ _ _ (e6 (by rw [q4];rfl)),fun _ hk=>by rw [q4] at hk;cases hk⟩
 rintro rfl
 rw [hg] at e3;cases e3;exact q1 rfl
theorem cR6Spin {w:World}{n:Int}{v0:Value}(h0:Vi n v0 w)(hn0: -9223372036854775808<=n:=by omega)(hn1:n<=9223372036854775807:=by omega):Calls Tryz.prog 64 #[v0] w (RV (Vv 3 (spC n) (spS n)) w):=by
 refine calls_of_marks Tryz.func64 rfl ?_;simp only [Tryz.ntmps64,List.size_toArray,List.length_cons,List.length_nil,Nat.reduceAdd,Nat.reduceSub,Array.replicate_succ,Array.replicate_zero,List.push_toArray,List.append_toArray,List.nil_append,List.cons_append];generalize hA:(⟨_,_⟩:Act)=a0;have st0:St w.heap.size w 32 [] [(0,Vi n)] a0 w:=by subst hA;exact St.begin rfl rfl (Lq.2 ⟨⟨_,rfl,h0⟩,L0⟩)
 clear hA;refine Wm ?_
 refine rJ [] [VT] [⟨2,some 0,none,47,8,VT,VT⟩] [(0,Vi n)] st0 ⟨ks,trivial⟩ ?_;intro a1 w1 st1;refine Wm ?_
 refine rJ [] [E3 (1,0,1),E3 (0,1,1),E3 (-1,0,1),E3 (0,-1,1),E3 (3,4,5),E3 (-4,3,5),E3 (5,-12,13),E3 (-3,-4,5),VSl 106 3 E3 spins,VSl 106 3 E3 spins] [.k 2 47 8 VT] [(0,Vi n),(3,VSl 106 3 E3 spins)] st1 ⟨(kr fun _ A Y h D=>run_build3 (a:=1) (b:=0) (c:=1) rfl (fun _=>rfl)),(kr fun _ A Y h D=>run_build3 (a:=0) (b:=1) (c:=1) rfl (fun _=>rfl)),(kr fun _ A Y h D=>run_build3 (a:= -1) (b:=0) (c:=1) rfl (fun _=>rfl)),(kr fun _ A Y h D=>run_build3 (a:=0) (b:= -1) (c:=1) rfl (fun _=>rfl)),(kr fun _ A Y h D=>run_build3 (a:=3) (b:=4) (c:=5) rfl (fun _=>rfl)),(kr fun _ A Y h D=>run_build3 (a:= -4) (b:=3) (c:=5) rfl (fun _=>rfl)),(kr fun _ A Y h D=>run_build3 (a:=5) (b:= -12) (c:=13) rfl (fun _=>rfl)),(kr fun _ A Y h D=>run_build3 (a:= -3) (b:= -4) (c:=5) rfl (fun _=>rfl)),?s8,ks,trivial⟩ ?_
 case s8=>
  refine k_mem SbB.out (by kernel_rfl) fun _ A Y h D=>⟨trivial,?_⟩
  obtain⟨v0,x0,X0⟩:=h.dp D 5;obtain⟨v1,x1,X1⟩:=h.dp D 6;obtain⟨v2,x2,X2⟩:=h.dp D 7;obtain⟨v3,x3,X3⟩:=h.dp D 8;obtain⟨v4,x4,X4⟩:=h.dp D 9;obtain⟨v5,x5,X5⟩:=h.dp D 10;obtain⟨v6,x6,X6⟩:=h.dp D 11;obtain⟨v7,x7,X7⟩:=h.dp D 12;exact bslice_A8 rfl x0 x1 x2 x3 x4 x5 x6 x7 X0 X1 X2 X3 X4 X5 X6 X7
 intro a2 w2 st2;have k0:=arn_lo n 8 (by omega);have k1:=arn_hi n 8 (by omega);have hbd:=spins_bd (arn n 8).toNat (by omega)
 have hz:spins[(arn n 8).toNat]? =some (spn n):=by
  have h8:(arn n 8).toNat<spins.length:=by show _<8;omega
  show _=some (spins.getD (arn n 8).toNat (0,0,0));rw [List.getD_eq_getElem?_getD,List.getElem?_eq_getElem h8];rfl
 obtain⟨_,f0,X0⟩:=st2.sl (0,Vi n) (lS_mem rfl);obtain⟨v3,f3,X3⟩:=st2.sl (3,VSl 106 3 E3 spins) (lS_mem rfl);refine Wm ?_
 refine rgS (BT:=[]) (k:=8) (Vl:=[VSl 106 3 E3 spins,Vi n,VSl 106 3 E3 spins,Vi 8,Vi (arn n 8),VEp 106 3 (E3 (spn n)),E3 (spn n),VNw w.heap.size #[.int .i64 0,.int .i64 0,.int .i64 0] 106]) (B:=[.k 2 47 8 VT]) (SL':=[(4,VNw w.heap.size #[.int .i64 0,.int .i64 0,.int .i64 0] 106),(20,E3 (spn n))]) st2.defers st2.undef ⟨ks,ks,ks,?s3,?s4,?s5,?s6,?s7,trivial⟩ rfl rfl rfl rfl (fun _ e=>by cases e) (by kernel_rfl) rfl ?tail rfl (by kernel_rfl);case s3=>exact kr1 16 fun _ _ _ _ _ x0 X0=>len_A8 rfl rfl x0 X0
 case s4=>refine kc fun _ A Y h D=>?_;obtain⟨v0,x0,X0⟩:=h.dp D 15;obtain⟨v1,x1,X1⟩:=h.dp D 17;obtain rfl:v1=Value.int .i64 8:=X1;exact⟨#[v0,.int .i64 8],by simp [x0,x1],cAround X0⟩
 case s5=>exact kr2 14 18 fun _ _ _ _ _ x0 X0 v1 x1 X1=>index_A8 (j:=(arn n 8).toNat) rfl x0 X0 x1 (show v1=Value.int .i64 ((arn n 8).toNat:Int) by rw [show v1=Value.int .i64 (arn n 8)from X1,Int.toNat_of_nonneg k0]) hz (by omega)
 case s6=>exact kr1 19 fun _ _ _ _ _ x0 X0=>load_A3 rfl x0 X0
 case s7=>refine k_mem SbB.out (by kernel_rfl) fun _ A Y h D=>⟨trivial,?_⟩;exact alloc_A3N rfl h.n
 case tail=>
 intro a3 w3 hd3 st3;obtain⟨_,e4,g4,hg4,rfl,y4⟩:=st3.sl (4,VNw w.heap.size #[.int .i64 0,.int .i64 0,.int .i64 0] 106) (lS_mem rfl);obtain⟨_,e20,rfl⟩:=st3.sl (20,E3 (spn n)) (lS_mem rfl);refine⟨_,run_storeV (z:=#[.int .i64 (spn n).1,.int .i64 (spn n).2.1,.int .i64 (spn n).2.2]) rfl (ev_tmp e4) (ev_tmp e20) y4 (by simp) (by kernel_rfl) (by simp [Value.oneCell']),?_⟩;rw [show updR #[.int .i64 0,.int .i64 0,.int .i64 0] 0 (#[.int .i64 (spn n).1,.int .i64 (spn n).2.1,.int .i64 (spn n).2.2]:Array Value).toList=#[.int .i64 (spn n).1,.int .i64 (spn n).2.1,.int .i64 (spn n).2.2] from rfl];have st4:=St.redo hd3 (St.setRowB (cs:=#[.int .i64 (spn n).1,.int .i64 (spn n).2.1,.int .i64 (spn n).2.2]) (SL':=[(4,VRow g4 #[.int .i64 (spn n).1,.int .i64 (spn n).2.1,.int .i64 (spn n).2.2] 106)]) (L:=[⟨2,none,none,47,8,VT,VT⟩]) st3 y4 hg4 (Lq.2 ⟨⟨by decide,Pure_VT,rfl,rfl⟩,L0⟩) (Lq.2 ⟨⟨_,e4,rfl,setRow_heap _ _ _ _ _ _ y4⟩,L0⟩));generalize w3.setRow g4 #[.int .i64 (spn n).1,.int .i64 (spn n).2.1,.int .i64 (spn n).2.2]=W4 at st4 ⊢;refine Wm ?_
 have:Sb [(47,8,0)] (VRow g4 #[.int .i64 (spn n).1,.int .i64 (spn n).2.1,.int .i64 (spn n).2.2] 106):=⟨Stab_VRow (by simp)⟩;refine rJ [(47,8,0)] [VEq (.pointer (some ⟨g4,0,none⟩)),Vi (spn n).1,VEq (.pointer (some ⟨g4,2,none⟩)),Vi (spn n).2.2,Vq 3 (spC n),VEq (.pointer (some ⟨g4,1,none⟩)),Vi (spn n).2.1,VEq (.pointer (some ⟨g4,2,none⟩)),Vi (spn n).2.2,Vq 3 (spS n),Vv 3 (spC n) (spS n),VT] [⟨2,none,some 11,47,8,Vv 3 (spC n) (spS n),VT⟩] [] st4 ⟨(by refine kr fun _ A Y h D=>?_;obtain⟨v0,x0,X0⟩:=h.ot 4;exact index_c3 (k:=0) rfl (fun _=>rfl) x0 X0 (by omega)),(by refine kr fun _ A Y h D=>?_;obtain⟨v0,x0,X0⟩:=h.dp D 21;obtain⟨v1,x1,X1⟩:=h.ot 4;exact load_c3 rfl x0 X0 X1.2 rfl),(by refine kr fun _ A Y h D=>?_;obtain⟨v0,x0,X0⟩:=h.ot 4;exact index_c3 (k:=2) rfl (fun _=>rfl) x0 X0 (by omega)),(by refine kr fun _ A Y h D=>?_;obtain⟨v0,x0,X0⟩:=h.dp D 23;obtain⟨v1,x1,X1⟩:=h.ot 4;exact load_c3 rfl x0 X0 X1.2 rfl),(by exact kd2 fun _ _ _ _ _ X0 _ X1=>cR4Of X0 X1 (by unfold spn;omega) (by unfold spn;omega) (by unfold spn;omega) (by unfold spn;omega)),(by refine kr fun _ A Y h D=>?_;obtain⟨v0,x0,X0⟩:=h.ot 4;exact index_c3 (k:=1) rfl (fun _=>rfl) x0 X0 (by omega)),(by refine kr fun _ A Y h D=>?_;obtain⟨v0,x0,X0⟩:=h.dp D 26;obtain⟨v1,x1,X1⟩:=h.ot 4;exact load_c3 rfl x0 X0 X1.2 rfl),(by refine kr fun _ A Y h D=>?_;obtain⟨v0,x0,X0⟩:=h.ot 4;exact index_c3 (k:=2) rfl (fun _=>rfl) x0 X0 (by omega)),(by refine kr fun _ A Y h D=>?_;obtain⟨v0,x0,X0⟩:=h.dp D 28;obtain⟨v1,x1,X1⟩:=h.ot 4;exact load_c3 rfl x0 X0 X1.2 rfl),(by exact kd2 fun _ _ _ _ _ X0 _ X1=>cR4Of X0 X1 (by unfold spn;omega) (by unfold spn;omega) (by unfold spn;omega) (by unfold spn;omega)),(kr2 25 30 fun _ _ _ _ _ x0 X0 _ x1 X1=>build_Turn rfl x0 x1 (AggV_Vq _ _) (AggV_Vq _ _) X0 X1),ks,trivial⟩ ?_;intro a5 w5 st5;refine Wm ?_
 obtain⟨g,cs,r1,r2,r3,r4,r5⟩:=st5.res (.k 2 47 8 (Vv 3 (spC n) (spS n))) (.head _) rfl rfl;exact wpIn_ret (ret_plain st5.defers (results_cell_row rfl _ _ g 47 cs (0,0) _ r1 r2 Tryz.underlying47 rfl (by rw [r3];exact size_Turn)) ⟨_,rfl,r4,r5⟩)
theorem cR6Place {w:World}{l:List Int}{ix:Int}{v0 v1:Value}(h0:VI l v0 w)(h1:Vi ix v1 w)(hi0:0<=ix:=by omega)(hi1:ix<=10000:=by omega):Calls Tryz.prog 23 #[v0,v1] w (RV (Vp 3 (spC (atv l ix 64)) (spS (atv l ix 64)) (spt l (ix+1)).1 (spt l (ix+1)).2) w):=by
 go_enter Tryz.func23,Tryz.ntmps23
 refine Sg 14 [(0,VI l),(1,Vi ix)] (Lq.2 ⟨⟨_,rfl,h0⟩,(Lq.2 ⟨⟨_,rfl,h1⟩,L0⟩)⟩) fun a0 st0=>Wn ?_
 refine rH [(49,16,0)] [VT] [⟨4,some 0,none,49,16,VT,VT⟩] [(0,VI l),(1,Vi ix)] st0 ⟨ks,trivial⟩ fun a1 w1 st1=>Wn ?_
 refine rH [(49,16,0)] [VI l,Vi ix,Vi (atv l ix 64),Vv 3 (spC (atv l ix 64)) (spS (atv l ix 64)),VI l,Vi ix,Vi ((ix)+(1)),Vv 3 ((spt l ((ix)+(1))).1) ((spt l ((ix)+(1))).2),Vp 3 (spC (atv l ix 64)) (spS (atv l ix 64)) ((spt l ((ix)+(1))).1) ((spt l ((ix)+(1))).2),VT] [⟨4,none,some 9,49,16,Vp 3 (spC (atv l ix 64)) (spS (atv l ix 64)) ((spt l ((ix)+(1))).1) ((spt l ((ix)+(1))).2),VT⟩] [] st1 ⟨ks,ks,(by refine kc fun _ A Y h D=>?_;obtain⟨v0,x0,X0⟩:=h.dp D 5;obtain⟨v1,x1,X1⟩:=h.dp D 6;exact⟨#[v0,v1,.int .i64 64],by simp [x0,x1,eval_const],cAt X0 X1⟩),(kd1 fun _ _ _ _ _ X0=>cR6Spin X0 (atv_ge _ _ _ (by omega)) (atv_le _ _ _ (by omega) (by omega))),ks,ks,(kr1 10 fun _ _ _ _ _ x0 X0=>⟨_,run_addi rfl (x0.trans X0) rfl wO,rfl⟩),(kd2 fun _ _ _ _ _ X0 _ X1=>cR6Spot X0 X1),(kr2 8 12 fun _ _ _ _ _ x0 X0 _ x1 X1=>build_Place rfl x0 x1 (AggV_Vv _ _ _) (AggV_Vv _ _ _) X0 X1),ks,trivial⟩ ?_;intro a2 w2 st2;refine Wn ?_
 exact wp_ret (rC 4 49 (Vp 3 (spC (atv l ix 64)) (spS (atv l ix 64)) ((spt l ((ix)+(1))).1) ((spt l ((ix)+(1))).2)) st2 fun cs r4=>r4)
def VEl {α:Type}(k:Nat)(E:α->VP)(xs:List α):VP:=fun v w=>∃cs,v= .agg cs/\∀i x,xs[i]? =some x->E x (.agg (cs.extract (k*i) (k*i+k))) w
def VRg {α:Type}(T:TypeId)(k:Nat)(E:α->VP)(b:Option Addr)(g c:Nat)(xs:List α):VP:=fun v w=>xs.length<=c/\c<=9223372036854775807/\((c=0/\v= .slice b 0 0)∨(0<c/\v= .slice (some ⟨g,0,none⟩) xs.length c/\RowAt g T (k*c) (VEl k E xs) w))
def VRx {α:Type}(T:TypeId)(k:Nat)(E:α->VP)(lo:Nat)(xs:List α):VP:=fun v w=>∃g c,lo<=g/\0<c/\VRg T k E none g c xs v w
def VOs {α:Type}(T:TypeId)(k:Nat)(E:α->VP)(zs:List α):VP:=fun v w=>∃h cs,v= .slice (some ⟨h,0,none⟩) zs.length zs.length/\w.heap[h]? =some (.cells cs T (0,0))/\cs.size=k*zs.length/\VEl k E zs (.agg cs) w
def VSc {α:Type}(T:TypeId)(k:Nat)(E:α->VP)(zs:List α):VP:=fun v w=>(zs= []/\∃c,v= .slice none 0 c)∨∃h o c cs,v= .slice (some ⟨h,o,none⟩) zs.length c/\w.heap[h]? =some (.cells cs T (0,0))/\o+k*zs.length<=cs.size/\VEl k E zs (.agg (cs.extract o (o+k*zs.length))) w
section
variable {BT:List (TypeId×Nat×Nat)}{α:Type}{T ST:TypeId}{k g c lo:Nat}{b:Option Addr}{E:α->VP}{xs:List α}{A:VP}
theorem Stab_VEl (hE:∀x,Stab BT (E x)):Stab BT (VEl k E xs):=fun _ _ _ ⟨cs,h1,h2⟩ hr=>⟨cs,h1,fun i x hx=>hE x _ _ _ (h2 i x hx) hr⟩
instance [hE:∀x,Sb BT (E x)]:Sb BT (VEl k E xs):=⟨Stab_VEl fun x=>(hE x).out⟩
theorem Stab_VRg (hE:∀x,Stab BT (E x))(hk:0<k)(hp:(∀e∈BT,e.1≠T)∨(T,0,g)∈BT):Stab BT (VRg T k E b g c xs):=by
 rintro v w w' ⟨h1,h2,h4⟩ hr
 refine⟨h1,h2,h4.imp id ?_⟩
 rintro⟨h5,h6,cs,e1,e2,e3,e4⟩
 refine⟨h5,h6,cs,(hr.row g cs T e1 ?_).trans e1,e2,e3,Stab_VEl hE _ _ _ e4 hr⟩;rcases hp with hp|hp
 ·exact .inl fun e he q1=>absurd q1 (hp e he)
 ·exact .inr ⟨by rw [e2];exact Nat.mul_pos hk h5,_,hp,rfl,rfl,rfl⟩
theorem Stab_VRx (hE:∀x,Stab BT (E x))(hk:0<k)(hp:∀e∈BT,e.1≠T):Stab BT (VRx T k E lo xs):=fun _ _ _ ⟨g,c,h1,h2,h3⟩ hr=>⟨g,c,h1,h2,Stab_VRg hE hk (.inl hp) _ _ _ h3 hr⟩
theorem Stab_VOs (hE:∀x,Stab BT (E x))(hn:∀e∈BT,e.1=T->e.2.1≠k*xs.length):Stab BT (VOs T k E xs):=fun _ _ _ ⟨h,cs,e1,e2,e3,e4⟩ hr=>⟨h,cs,e1,(hr.row h cs T e2 (.inl fun e he q1 q2=>absurd (q2.trans e3) (hn e he q1))).trans e2,e3,Stab_VEl hE _ _ _ e4 hr⟩
class SlT (ST T:TypeId)(k:outParam Nat):Prop where
 und:Tryz.prog.underlying ST=some (.slice T)
 info:∃i zv,Tryz.prog.info? T=some i/\i.zero=some zv/\i.size=k/\i.bytes<=1000/\zv.cells.size=k/\NoInt zv.cells
 pos:0<k
theorem NoInt_zero {z:Array Value}{n:Nat}(h:NoInt z)(hz:0<z.size):NoInt (Builtin.zeroCells z n):=by
 intro i x hi;unfold Builtin.zeroCells at hi;rw [Array.getElem?_map] at hi;cases hr:(Array.range (n*z.size))[i]? with
 |none=>rw [hr] at hi;cases hi
 |some j=>
  rw [hr] at hi;simp only [Option.map_some] at hi;have hlt:j % z.size<z.size:=Nat.mod_lt _ hz
  have e:z[j % z.size]? =some (z[j % z.size]!):=by
   rw [getElem!_pos z (j % z.size) hlt,Array.getElem?_eq_getElem hlt]
  exact h _ _ (e.trans hi)
theorem NoInt_app {a b:Array Value}(ha:NoInt a)(hb:NoInt b):NoInt (a++b):=by
 intro i x hi;rw [Array.getElem?_append] at hi;split at hi
 ·exact ha _ _ hi
 ·exact hb _ _ hi
theorem NoInt_take {cs:Array Value}(h:NoInt cs)(n:Nat):NoInt (cs.toList.take n).toArray:=by
 intro i x hi;rw [List.getElem?_toArray,List.getElem?_take] at hi;split at hi
 ·rw [Array.getElem?_toList] at hi;exact h _ _ hi
 ·cases hi
theorem VEl_more {cs cs' z:Array Value}{zs:List α}{w:World}(h:VEl k E xs (.agg cs) w)(hz:VEl k E zs (.agg z) w)(hlen:k*xs.length+k*zs.length<=cs'.size)(hzs:z.size=k*zs.length)
 (hget:∀j,j<k*xs.length+k*zs.length->cs'[j]? =if j<k*xs.length then cs[j]? else z[j - k*xs.length]?) (hcs:k*xs.length<=cs.size):VEl k E (xs++zs) (.agg cs') w:=by
 obtain⟨_,e,h⟩:=h;cases e;obtain⟨_,e,hz⟩:=hz;cases e;refine⟨_,rfl,fun i y hy=>?_⟩;rw [List.getElem?_append] at hy;split at hy
 ·rename_i hi
  have hle:k*i+k<=k*xs.length:=by rw [<-Nat.mul_succ];exact Nat.mul_le_mul_left k hi
  have:cs'.extract (k*i) (k*i+k)=cs.extract (k*i) (k*i+k):=by
   apply Array.ext_getElem?;intro j;rw [Array.getElem?_extract,Array.getElem?_extract];by_cases hj:j<k
   ·rw [if_pos (by omega),if_pos (by omega),hget _ (by omega),if_pos (by omega)]
   ·rw [if_neg (by omega),if_neg (by omega)]
  rw [this];exact h i y hy
 ·rename_i hi
  have hi2:i - xs.length<zs.length:=by
   rcases Nat.lt_or_ge (i - xs.length) zs.length with h'|h'
   ·exact h'
   ·rw [List.getElem?_eq_none h'] at hy;cases hy
  have hle:k*(i - xs.length)+k<=k*zs.length:=by rw [<-Nat.mul_succ];exact Nat.mul_le_mul_left k hi2
  have hki:k*i=k*xs.length+k*(i - xs.length):=by rw [<-Nat.mul_add];congr 1;omega
  have:cs'.extract (k*i) (k*i+k)=z.extract (k*(i - xs.length)) (k*(i - xs.length)+k):=by
   apply Array.ext_getElem?;intro j;rw [Array.getElem?_extract,Array.getElem?_extract];by_cases hj:j<k
   ·rw [if_pos (by omega),if_pos (by omega),hget _ (by omega),if_neg (by omega)]
    congr 1;omega
   ·rw [if_neg (by omega),if_neg (by omega)]
  rw [this];exact hz _ y hy
theorem VEl_flat {z:Array Value}{w:World}[hA:∀x,Ag (E x) k](hk:0<k)(h:VEl k E xs (.agg z) w)(hz:z.size=k*xs.length):NoInt z/\z.all (·.oneCell')=true:=by
 obtain⟨_,e,h⟩:=h;cases e
 have key:∀j,j<z.size->∃x cs,x∈xs/\cs.size=k/\NoInt cs/\cs.all (·.oneCell')=true/\z[j]? =cs[j % k]? :=fun j hj=>by
  have hi:j / k<xs.length:=by rw [hz] at hj;exact Nat.div_lt_of_lt_mul hj
  have hx:xs[j / k]? =some xs[j / k]:=List.getElem?_eq_getElem hi;obtain⟨cs,e1,e2,e3,e4⟩:=(hA _).out _ _ (h _ _ hx);cases e1;refine⟨_,_,List.getElem_mem hi,e2,e3,e4,?_⟩;have hm:=Nat.mod_lt j hk
  rw [Array.getElem?_extract,if_pos (by
   have:k*(j / k)+k<=k*xs.length:=by rw [<-Nat.mul_succ];exact Nat.mul_le_mul_left k hi
   omega)]
  congr 1
  rw [Nat.div_add_mod]
 constructor
 ·intro i x hi
  have hl:i<z.size:=by
   rcases Nat.lt_or_ge i z.size with h'|h'
   ·exact h'
   ·rw [Array.getElem?_eq_none h'] at hi;cases hi
  obtain⟨_,cs,-,-,e3,-,e5⟩:=key i hl;exact e3 _ _ (e5.symm.trans hi)
 ·rw [Array.all_eq_true];intro i hi;obtain⟨_,cs,-,e2,-,e4,e5⟩:=key i hi;rw [Array.all_eq_true] at e4;have hm:=Nat.mod_lt i hk;have h1:=e4 (i % k) (by omega);rw [Array.getElem?_eq_getElem hi,Array.getElem?_eq_getElem (by omega),Option.some.injEq] at e5;rw [e5];exact h1
theorem VSc_src {ST:TypeId}[hs:SlT ST T k][hA:∀x,Ag (E x) k]{i:TypeInfo}{v:Value}{w:World}(hi:i.size=k)(h:VSc T k E xs v w):∃z:Array Value,Src Tryz.prog i.size ST v xs.length z.toList w/\z.size=k*xs.length/\NoInt z/\VEl k E xs (.agg z) w:=by
 subst hi;rcases h with⟨rfl,c,rfl⟩|⟨h,o,c,cs,rfl,e1,e2,e3⟩
 ·exact⟨#[],Src.ofNil w hs.und c,by simp,fun i x hi=>by simp at hi,⟨_,rfl,fun i x hi=>by simp at hi⟩⟩
 ·have hz:(cs.extract o (o+i.size*xs.length)).size=i.size*xs.length:=by rw [Array.size_extract];omega
  obtain⟨q1,q2⟩:=VEl_flat hs.pos e3 hz;refine⟨_,Src.ofSlice w hs.und _ _ _ _ (by rw [Array.length_toList,hz,Nat.mul_comm]) (fun j u hj=>?_) (fun u hu=>?_),hz,q1,e3⟩
  ·have:(⟨h,o,none⟩:Addr).add j=⟨h,o+j,none⟩:=by unfold Addr.add;split<;>simp_all
   rw [this];rw [Array.getElem?_toList,Array.getElem?_extract] at hj;split at hj
   ·simp only [World.cell?,e1];simpa using hj
   ·cases hj
  ·rw [Array.all_eq_true'] at q2;exact q2 u (Array.mem_toList_iff.1 hu)
theorem run_append_row {P:Program}(w:World)(t ty e:TypeId)(i:TypeInfo)(ht:P.underlying t=some (.slice e))(hi:P.info? e=some i)(g sLen sCap:Nat)(cur:Array Value)(hg:w.heap[g]? =some (.cells cur e (0,0)))(x:Value)(n:Nat)(news:List Value)(hs:Src P i.size t x n news w)
 (hroom:sLen+n<=sCap) (hfit:sLen*i.size+news.length<=cur.size):
 (Builtin.append_ #[t,t] ty #[.slice (some ⟨g,0,none⟩) sLen sCap,x]).run P w= .ok (.slice (some ⟨g,0,none⟩) (sLen+n) sCap) (w.setRow g (cur.toList.take (sLen*i.size)++news++cur.toList.drop (sLen*i.size+news.length)).toArray):=by
 have hst:=run_storeCells_at P g (sLen*i.size) e news 0 cur w hg (by simpa using hfit) hs.one;simp only [Nat.add_zero] at hst;simp [Builtin.append_,run_underlying ht,sizeOf,typeInfo,hi,hs.len,hroom,hs.cells,Addr.add_lit,hst]
section
variable {ρ:Operand->Value}{o:Oper}{W:World}{x y:Operand}{va vb:Value}{zs:List α}
theorem app_growM [hs:SlT ST T k][hA:∀x,Ag (E x) k](ho:o.op= .call {callee:= .builtin .append,args:=#[x,y],argTypes:=#[ST,ST]})(hx:ρ x=va)(h:VRg T k E b g c xs va W)(hy:ρ y=vb)(h1:VSc T k E zs vb W)(hE:∀x,Stab [] (E x))(hc:c<xs.length+zs.length)(hlo:lo<=W.heap.size)(hb:xs.length+zs.length<=1000000):
 ∃v w',(execOp ρ o).run Tryz.prog W= .ok (.value v) w'/\Below W.heap.size W w'/\VRx T k E lo (xs++zs) v w':=by
 obtain⟨i,zv,hi,hz,hsz,hby,hzc,hzn⟩:=hs.info;have hk:=hs.pos;obtain⟨hl,hcm,h⟩:=h;obtain⟨ch,hsrc,e2,e3,e5⟩:=VSc_src (ST:=ST) (i:=i) hsz h1
 have hfit:=growslice_fits (need:=xs.length+zs.length) (old:=c) (bytes:=i.bytes) hc (by
  have:=Nat.mul_le_mul (show xs.length+zs.length<=1000000 by omega) hby
  omega)
 have hge:=grownCap_ge W (xs.length+zs.length) c T;have hcap:grownCap W (xs.length+zs.length) c T<=maxLen:=grownCap_le_maxLen W (xs.length+zs.length) c T (by unfold maxLen;omega);unfold maxLen at hcap
 obtain⟨olds,base,hva,hold,hol,hnio,hel⟩:∃(olds:List Value) (base:Option Addr),va= .slice base xs.length c/\(Builtin.firstCells i.size xs.length (.slice base xs.length c)).run Tryz.prog W.drew= .ok olds.toArray W.drew/\olds.length=k*xs.length/\NoInt olds.toArray/\VEl k E xs (.agg olds.toArray) W:=by
  rcases h with⟨hc0,rfl⟩|⟨hc0,rfl,cs,q1,q2,q3,q4⟩
  ·have hx0:xs= []:=List.eq_nil_of_length_eq_zero (by omega);subst hx0 hc0
   exact⟨[],b,rfl,(by cases b with
    |none=>exact run_firstCells_none _ _ _ _ _
    |some p=>exact run_firstCells_some W.drew i.size 0 p 0 0 [] (by simp) (fun j u hj=>by simp at hj)),rfl,fun i x hi=>by simp at hi,⟨_,rfl,fun i x hi=>by simp at hi⟩⟩
  ·have hle:k*xs.length<=cs.size:=by rw [q2];exact Nat.mul_le_mul_left k hl
   refine⟨cs.toList.take (k*xs.length),some ⟨g,0,none⟩,rfl,run_firstCells_some W.drew i.size xs.length ⟨g,0,none⟩ _ _ _ (by rw [List.length_take,hsz,Nat.mul_comm xs.length k];exact Nat.min_eq_left hle) (fun j v hj=>?_),by rw [List.length_take];simp;omega,NoInt_take q3 _,⟨_,rfl,fun i x hi=>?_⟩⟩
   ·rw [List.getElem?_take] at hj;split at hj
    ·have:(⟨g,0,none⟩:Addr).add j=⟨g,0+j,none⟩:=by unfold Addr.add;split<;>simp_all
     rw [this];have q1':W.drew.heap[g]? =some (.cells cs T (0,0)):=q1;simp only [World.cell?,q1',Nat.zero_add]
     simpa using hj
    ·cases hj
   ·obtain⟨_,e,q4⟩:=q4;cases e
    have hil:i<xs.length:=by
     rcases Nat.lt_or_ge i xs.length with h'|h'
     ·exact h'
     ·rw [List.getElem?_eq_none h'] at hi;cases hi
    have hle2:k*i+k<=k*xs.length:=by rw [<-Nat.mul_succ];exact Nat.mul_le_mul_left k hil
    have:(cs.toList.take (k*xs.length)).toArray.extract (k*i) (k*i+k)=cs.extract (k*i) (k*i+k):=by
     apply Array.ext_getElem?;intro j;rw [Array.getElem?_extract,Array.getElem?_extract];have hsz2:(cs.toList.take (k*xs.length)).toArray.size=k*xs.length:=by simp;omega
     rw [hsz2];by_cases hj:j<k
     ·rw [if_pos (by omega),if_pos (by omega),List.getElem?_toArray,List.getElem?_take,if_pos (by omega),Array.getElem?_toList]
     ·rw [if_neg (by omega),if_neg (by omega)]
    rw [this];exact q4 i x hi
 subst hva;have hr:=run_append_grow_src (P:=Tryz.prog) W ST ST o.type T i zv hs.und hi hz base xs.length c olds hold vb zs.length ch.toList hsrc hc (by omega) hfit;have hcl:ch.toList.length=k*zs.length:=e2;have hb1:Below W.heap.size W (W.drew.alloc (.cells ((olds++ch.toList).toArray++Builtin.zeroCells zv.cells (grownCap W (xs.length+zs.length) c T - (xs.length+zs.length))) T)):=(below_drewN (Below.refl _ W) 1).alloc (Nat.le_refl _) _;have hgs:W.heap.size<(W.drew.alloc (.cells ((olds++ch.toList).toArray++Builtin.zeroCells zv.cells (grownCap W (xs.length+zs.length) c T - (xs.length+zs.length))) T)).heap.size:=lt_blk (heap_alloc_new W.drew _);refine⟨_,_,?_,hb1,⟨W.heap.size,grownCap W (xs.length+zs.length) c T,hlo,by omega,by simpa using hge,Nat.le_trans hcap (by omega),.inr ⟨by omega,by rw [List.length_append],_,heap_alloc_new W.drew _,?_,?_,?_⟩⟩⟩
 ·unfold execOp;simp only [ho,resolve,invoke,builtin,Sem.run_bind,Sem.run_pure,Result.andThen_ok,List.map_toArray,List.map_cons,List.map_nil,hx,hy,hr]
 ·rw [Array.size_append,List.size_toArray,List.length_append,hol,size_zeroCells,hzc,hcl,Nat.sub_mul,Nat.mul_comm (grownCap W (xs.length+zs.length) c T) k,Nat.add_mul,Nat.mul_comm xs.length k,Nat.mul_comm zs.length k];have:=Nat.mul_le_mul_left k hge;rw [Nat.mul_add] at this;omega
 ·refine NoInt_app ?_ (NoInt_zero hzn (by omega));rw [<-List.append_toArray];exact NoInt_app hnio (by simpa using e3)
 ·refine VEl_more (cs:=olds.toArray) (z:=ch) (Stab_VEl hE _ _ _ hel (RI.of_below hb1)) (Stab_VEl hE _ _ _ e5 (RI.of_below hb1)) ?_ e2 ?_ (by simp [hol])
  ·rw [Array.size_append,List.size_toArray,List.length_append,hol,hcl];omega
  ·intro j hj;rw [Array.getElem?_append_left (by rw [List.size_toArray,List.length_append,hol,hcl];exact hj),List.getElem?_toArray,List.getElem?_append,hol];simp only [List.getElem?_toArray,Array.getElem?_toList]
end
end
section
variable {md:Region.Mode}{ops:Array Oper}{Q:Exit->Act->World->Prop}{a0:Act}{Vl:List VP}{n0:Nat}{w0:World}{B:List Bd}{SL:List (Nat×VP)}{BT:List (TypeId×Nat×Nat)}{α:Type}{T ST:TypeId}{k g c lo:Nat}{b:Option Addr}{E:α->VP}{xs:List α}
theorem KS.rowsetD {listed:Array Bool}{a:Act}{w:World}{v:Value}{i g:Nat}{dst:Option Nat}{T:TypeId}{m:Nat}{old cs:Array Value}(h:KS n0 w0 B listed a w)(hr:RI BT w (w.setRow g cs))(hg:w.heap[g]? =some (.cells old T (0,0)))(ho:old.size=m)(hn0:n0<=g)(hne:∀b∈B,b.T=T->b.m≠m)(hq:quietB B i dst=true)(hB:SbB BT B):
 KS n0 w0 B (listed.setIfInBounds i true) (a.put dst v) (w.setRow g cs):=by
 have hgg:∀b∈B,∀g' cs',w.heap[g']? =some (.cells cs' b.T (0,0))->cs'.size=b.m->g'≠g:=fun b hb g' cs' h1 h2 e=>by
  subst e;rw [hg] at h1;cases h1;exact hne b hb rfl (h2.symm.trans ho)
 refine⟨⟨h.below.os,h.below.tape,h.below.output,Nat.le_trans h.below.size hr.size,fun k hk=>(setRow_other w g k cs (by omega)).trans (h.below.block k hk)⟩,fun b hb hon=>?_,fun b hb c hc hne' h1 h2=>?_,fun b hb hn1 hk=>?_⟩
 ·obtain⟨q1,q2,q3⟩:=quietB_get hq hb;rw [onb_set q1] at hon;obtain⟨g',cs',e1,e2,e3,e4,e5,e6,e7⟩:=h.ok b hb hon;refine⟨g',cs',by rw [put_get_ne q3];exact e1,e2,(setRow_other w g g' cs (hgg b hb g' cs' e3 e4)).trans e3,e4,e5,fun hk=>?_,fun h0 hk=>?_⟩
  ·rw [onb_set q2] at hk;exact(hB.out b hb).1 _ _ _ (e6 hk) hr
  ·rw [onb_set q2] at hk;exact(hB.out b hb).2 _ _ _ (e7 h0 hk) hr
 ·obtain⟨q1,q2,q3⟩:=quietB_get hq hb;obtain⟨p1,p2,p3⟩:=quietB_get hq hc;rw [onb_set q1] at h1;rw [onb_set p1] at h2;rw [put_get_ne q3,put_get_ne p3];exact h.ne b hb c hc hne' h1 h2
 ·obtain⟨q1,q2,-⟩:=quietB_get hq hb;rw [onb_set q2] at hk;rw [onb_set q1];exact h.fa b hb hn1 hk
theorem k_appM {s u j:Nat}{o:Oper}{us zs:List α}{X:VP}{r:Rw}[hB:SbB ((T,k*c,0)::BT) B][hs:SlT ST T k][hA:∀x,Ag (E x) k](hr:r=⟨g,j,T,k*c,VEl k E (xs++zs),VEl k E us⟩)(hpre:∃rest,us=xs++rest)(ho:o.op= .call {callee:= .builtin .append,args:=#[.tmp s,.tmp u],argTypes:=#[ST,ST]})
 (hx:KnS md ops Vl SL o s (VEq (.slice (some ⟨g,0,none⟩) xs.length c))) (hy:KnS md ops Vl SL o u X) (hX:∀v w,Below n0 w0 w->RowAt g T (k*c) (VEl k E us) w->X v w->VSc T k E zs v w) (hV:GV Vl j=VEq (.slice (some ⟨g,0,none⟩) (xs.length+zs.length) c)) (hroom:xs.length+zs.length<=c) (hc2:2<=c) (hn0:n0<=g)
 (hBk:B.all (fun b=>b.T !=T||b.m==k)=true) (hq:quietB B j o.dst=true) (hE:∀x BT,Stab BT (E x)) (hNP:∀e∈BT,e.1=T->e.2.1=0->e.2.2≠g) (hg:GOk md ops Vl o):KStepR ((T,k*c,0)::BT) Tryz.prog md ops Q a0 (GV Vl) n0 w0 B SL r o:=by
 subst hr;intro listed a w h hrow D _ hil hnl K hK;obtain⟨i,zv,hi,hz,hsz,hby,hzc,hzn⟩:=hs.info;have hk:=hs.pos;rw [if_pos (wanted_of (hg.get h D))];obtain⟨old,e1,e2,e3,-,e5⟩:=hrow
 have hP0:VEl k E xs (.agg old) w:=by
  obtain⟨rest,rfl⟩:=hpre;obtain⟨_,q1,q2⟩:=e5 hnl
  exact⟨_,q1,fun i x hx=>q2 i x (by
   have hi:i<xs.length:=by
    rcases Nat.lt_or_ge i xs.length with h'|h'
    ·exact h'
    ·rw [List.getElem?_eq_none h'] at hx;cases hx
   rw [List.getElem?_append_left hi];exact hx)⟩
 simp only at e1 e2;obtain⟨vs,hvs,hVs⟩:=hx.get h D;obtain rfl:vs=_:=hVs;obtain⟨vu,hvu,hXu⟩:=hy.get h D;obtain⟨ch,hsrc,q2,q3,q5⟩:=VSc_src (ST:=ST) (i:=i) hsz (hX _ _ h.k.below ⟨old,e1,e2,e3,e5 hnl⟩ hXu);have hcl:ch.toList.length=k*zs.length:=q2;have hle:k*xs.length+k*zs.length<=k*c:=by rw [<-Nat.mul_add];exact Nat.mul_le_mul_left k hroom
 have hrun:=run_append_row (P:=Tryz.prog) w ST o.type T i hs.und hi g xs.length c old e1 vu zs.length ch.toList hsrc hroom (by rw [hcl,hsz,Nat.mul_comm xs.length,e2];exact hle);obtain⟨cs',hcs'⟩:∃cs':Array Value,(old.toList.take (xs.length*i.size)++ch.toList++old.toList.drop (xs.length*i.size+ch.toList.length)).toArray=cs':=⟨_,rfl⟩;have hol:old.toList.length=k*c:=e2;have htl:(old.toList.take (xs.length*i.size)).length=k*xs.length:=by rw [List.length_take,hsz,Nat.mul_comm,hol];omega
 have hsize:cs'.size=k*c:=by
  rw [<-hcs',List.size_toArray,List.length_append,List.length_append,htl,hcl,List.length_drop,hol,hsz,Nat.mul_comm xs.length k];omega
 have hget:∀j,j<k*xs.length+k*zs.length->cs'[j]? =if j<k*xs.length then old[j]? else ch[j - k*xs.length]? :=fun j hj=>by
  rw [<-hcs',List.getElem?_toArray,List.getElem?_append_left (by rw [List.length_append,htl,hcl];exact hj),List.getElem?_append,htl];split
  ·rw [List.getElem?_take,if_pos (by rw [hsz,Nat.mul_comm];assumption),Array.getElem?_toList]
  ·rw [Array.getElem?_toList]
 have hni:NoInt cs':=fun i' x hx'=>by
  rw [<-hcs',List.getElem?_toArray,List.getElem?_append,List.getElem?_append] at hx';split at hx'
  ·split at hx'
   ·rw [List.getElem?_take] at hx';split at hx'
    ·rw [Array.getElem?_toList] at hx';exact e3 _ _ hx'
    ·cases hx'
   ·rw [Array.getElem?_toList] at hx';exact q3 _ _ hx'
  ·rw [List.getElem?_drop,Array.getElem?_toList] at hx';exact e3 _ _ hx'
 rw [hcs'] at hrun
 have hmk:k*c≠k:=by
  intro e;have:=Nat.mul_le_mul_left k hc2;omega
 have hkc:0<k*c:=Nat.mul_pos hk (by omega)
 have hRI:RI ((T,k*c,0)::BT) w (w.setRow g cs'):=RI_setRow e1 e3 ⟨⟨_,List.mem_cons_self,rfl,e2.symm,.inl rfl⟩,fun e he q1 q2=>by
  rcases List.mem_cons.1 he with rfl|he
  ·exact absurd q2 (by simp only;omega)
  ·exact hNP e he q1 q2⟩
 have hks:=h.k.rowsetD (i:=j) (v:= .slice (some ⟨g,0,none⟩) (xs.length+zs.length) c) (dst:=o.dst) hRI e1 e2 hn0 (fun b hb hbT=>by
  rw [List.all_eq_true] at hBk;have:=hBk b hb;simp only [hbT,bne_self_eq_false,Bool.false_or,beq_iff_eq] at this
  omega) hq hB
 have hlk:(listed.setIfInBounds j true).getD j false=true:=by rw [getD_set _ _ _ hil,if_pos rfl]
 unfold Oper.wp execOp;simp only [ho,resolve,invoke,builtin,Sem.run_bind,Sem.run_pure,Result.andThen_ok,List.map_toArray,List.map_cons,List.map_nil,hvs,hvu,hrun];refine hK _ _ hks hRI ⟨_,setRow_heap w g old cs' _ _ e1,hsize,hni,fun _=>VEl_more (Stab_VEl (fun x=>hE x _) _ _ _ hP0 hRI) (Stab_VEl (fun x=>hE x _) _ _ _ q5 hRI) (by rw [hsize];exact hle) q2 hget (by rw [e2];omega),fun hl=>by simp only at hl;rw [hlk] at hl;cases hl⟩ (by simp only;rw [hV];rfl)
theorem VRg_in {zs:List α}{w:World}(hl:(xs++zs).length<=c)(hc0:0<c)(hcm:c<=9223372036854775807)(hr:RowAt g T (k*c) (VEl k E (xs++zs)) w):VRg T k E b g c (xs++zs) (.slice (some ⟨g,0,none⟩) (xs.length+zs.length) c) w:=by
 exact⟨hl,hcm,.inr ⟨hc0,by rw [List.length_append],hr⟩⟩
theorem VRg_sl {v:Value}{w:World}(hx:xs≠ [])(h:VRg T k E b g c xs v w):VSl T k E xs v w:=by
 obtain⟨h3,h4,(⟨h6,h7⟩|⟨h6,rfl,cs,q1,q2,q3,_,q4,q5⟩)⟩:=h
 ·exact absurd (List.eq_nil_of_length_eq_zero (by omega)) hx
 ·cases q4;refine⟨g,0,c,cs,rfl,h3,h4,q1,?_,fun i x hx=>by rw [Nat.zero_add];exact q5 i x hx⟩;rw [Nat.zero_add,q2];exact Nat.mul_le_mul_left k h3
theorem VSl_sc {v:Value}{w:World}(h:VSl T k E xs v w):VSc T k E xs v w:=by
 obtain⟨hh,o,c,cs,e1,e2,e3,e4,e5,e6⟩:=h;refine .inr ⟨hh,o,c,cs,e1,e4,e5,_,rfl,fun i x hx=>?_⟩
 have hi:i<xs.length:=by
  rcases Nat.lt_or_ge i xs.length with h'|h'
  ·exact h'
  ·rw [List.getElem?_eq_none h'] at hx;cases hx
 have hle:k*i+k<=k*xs.length:=by rw [<-Nat.mul_succ];exact Nat.mul_le_mul_left k hi
 rw [Array.extract_extract,show min (o+(k*i+k)) (o+k*xs.length)=o+k*i+k by omega];exact e6 i x hx
theorem VOs_sc {v:Value}{w:World}(h:VOs T k E xs v w):VSc T k E xs v w:=by
 obtain⟨hh,cs,e1,e2,e3,e4⟩:=h;refine .inr ⟨hh,0,_,cs,e1,e2,by omega,?_⟩;rw [Nat.zero_add,<-e3,Array.extract_size];exact e4
section
variable {N:Nat}{L:List Bd}{a:Act}{w:World}
theorem St.nameR (h:St n0 w0 N L SL a w)(s:Nat)(hm:lS SL s=some (VRx T k E lo xs)):∃g c,lo<=g/\0<c/\St n0 w0 N L ((s,VRg T k E none g c xs)::SL) a w:=by
 obtain⟨v,e1,g,c,h1,h2,h3⟩:=h.sl _ (lS_mem hm);exact⟨g,c,h1,h2,h.k,h.n,h.size,h.defers,Lq.2 ⟨⟨v,e1,h3⟩,h.sl⟩⟩
end
end
instance iAlSlV:SlT 23 32 8:=⟨Tryz.underlying23,by
 have h:(Tryz.prog.info? 32).map (fun i=>(i.zero,i.size,i.bytes))=some (some (.agg #[.bool false,.slice none 0 0,.bool false,.slice none 0 0,.bool false,.slice none 0 0,.bool false,.slice none 0 0]),8,128):=by kernel_rfl
 cases hq:Tryz.prog.info? 32 with
 |none=>rw [hq] at h;cases h
 |some i=>
  rw [hq] at h;simp only [Option.map_some,Option.some.injEq,Prod.mk.injEq] at h
  exact⟨i,_,rfl,h.1,h.2.1,by rw [h.2.2];omega,rfl,noint_of (by simp [Value.cells])⟩,by decide⟩
instance (N:Nat)(x:P2):Ag (EV N x) 8:=⟨(inferInstance:Ag (Vv N x.1 x.2) 8).out⟩
instance {BT:List (TypeId×Nat×Nat)}(N:Nat)(x:P2):Sb BT (EV N x):=⟨Stab_Vv _ _ _⟩
instance {N g c:Nat}{b:Option Addr}{us:List P2}:Sb [] (VRg 32 8 (EV N) b g c us):=⟨Stab_VRg (fun x=>Stab_Vv _ _ _) (by decide) (.inl (by simp))⟩
instance {N lo:Nat}{us:List P2}:Sb [] (VRx 32 8 (EV N) lo us):=⟨Stab_VRx (fun x=>Stab_Vv _ _ _) (by decide) (by simp)⟩
instance {N:Nat}{us:List P2}:Sb [] (VOs 32 8 (EV N) us):=⟨Stab_VOs (fun x=>Stab_Vv _ _ _) (by simp)⟩
theorem Stab_VSvN0 {N:Nat}{vs:List P2}:Stab [] (VSv N vs):=fun _ _ _ h hr=>h.imp id fun ⟨hh,o,c,cs,e1,e2,e3,e4,e5,e6⟩=>⟨hh,o,c,cs,e1,e2,e3,(hr.row _ _ _ e4 (.inl (by simp))).trans e4,e5,fun i x hx=>Stab_Vv _ _ _ _ _ _ (e6 i x hx) hr⟩
instance {N:Nat}{vs:List P2}:Sb [] (VSv N vs):=⟨Stab_VSvN0⟩
theorem VSv_sc {N:Nat}{vs:List P2}{v:Value}{w:World}(h:VSv N vs v w):VSc 32 8 (EV N) vs v w:=by
 rcases h with⟨rfl,rfl⟩|h
 ·exact .inl ⟨rfl,_,rfl⟩
 ·exact VSl_sc h
theorem VRg_sv {N g c:Nat}{vs:List P2}{v:Value}{w:World}(h:VRg 32 8 (EV N) none g c vs v w)(h0:vs= []->c=0):VSv N vs v w:=by
 by_cases hx:vs= []
 ·have hc:=h0 hx;subst hx;rcases h with⟨-,-,(⟨-,rfl⟩|⟨h6,-⟩)⟩
  ·exact .inl ⟨rfl,rfl⟩
  ·omega
 ·exact .inr (VRg_sl hx h)
def VPc (x:Int):VP:=fun v w=>∃p,v= .pointer (some p)/\w.cell? p=some (.int .i64 x)
theorem Stab_VPc {BT:List (TypeId×Nat×Nat)}(x:Int):Stab BT (VPc x):=fun _ _ _ ⟨p,e1,e2⟩ hr=>⟨p,e1,hr.int _ _ e2⟩
instance {BT:List (TypeId×Nat×Nat)}(x:Int):Sb BT (VPc x):=⟨Stab_VPc x⟩
def ofE (l:List Int)(j:Nat):P2:=(Rat.divInt (iat l (2*j)) 1,Rat.divInt (iat l (2*j+1)) 1)
def ofL (l:List Int)(n:Nat):List P2:=(List.range n).map (ofE l)
section
variable {ρ:Operand->Value}{o:Oper}{W:World}{x y:Operand}{va vb:Value}
theorem index_VI {l:List Int}{j:Nat}(ho:o.op= .indexAddr 22 x y)(hx:ρ x=va)(h:VI l va W)(hy:ρ y=vb)(hb:Vi (j:Int) vb W)(hj:j<l.length):∃v,(execOp ρ o).run Tryz.prog W= .ok (.value v) W/\VPc (iat l j) v W:=by
 obtain⟨a,m,c,rfl,hR,rfl,-⟩:=h;obtain⟨b,off,rfl,hc⟩:=Rdi_at hR j hj;obtain rfl:vb=_:=hb;refine⟨.pointer (some ⟨b,off+j,none⟩),?_,_,rfl,hc⟩;have hj2:(j:Int)<(l.length:Int):=by omega
 clear hR hc;generalize l.length=n at*
 obtain⟨dd,op,ty,ps,af,gd⟩:=o;subst ho
 go_simp
theorem len_VI {l:List Int}(ho:o.op= .call {callee:= .builtin .len,args:=#[x],argTypes:=#[22]})(hty:o.type=3)(hx:ρ x=va)(h:VI l va W):∃v,(execOp ρ o).run Tryz.prog W= .ok (.value v) W/\Vi (l.length:Int) v W:=by
 obtain⟨a,m,c,rfl,hR,rfl,-⟩:=h;refine⟨.int .i64 (l.length:Int),?_,rfl⟩;clear hR;generalize l.length=n at*
 obtain⟨dd,op,ty,ps,af,gd⟩:=o;subst ho;simp only at hty;subst hty
 go_simp
theorem load_Pc {u:Int}(ho:o.op= .load 3 x)(hx:ρ x=va)(h:VPc u va W):∃v,(execOp ρ o).run Tryz.prog W= .ok (.value v) W/\Vi u v W:=by
 obtain⟨p,rfl,hcell⟩:=h
 have hagg:(isAgg 3).run Tryz.prog W= .ok false W:=by
  unfold isAgg;rw [Sem.run_bind,run_underlying Tryz.underlying3 W];rfl
 refine⟨_,?_,rfl⟩;unfold execOp;simp only [ho,hx,Instr.loadAt,Instr.sureAddr,Sem.run_bind,Sem.run_pure,Result.andThen_ok,loadVar,hagg];simp only [Bool.false_eq_true,if_false,run_load,hcell,Result.andThen_ok]
theorem bslice_V1 {M:Nat}{d:P2}(ho:o.op= .buildSlice 23 1 #[(0,x)])(hx:ρ x=va)(h:Vv M d.1 d.2 va W):∃v w',(execOp ρ o).run Tryz.prog W= .ok (.value v) w'/\Below W.heap.size W w'/\VOs 32 8 (EV M) [d] v w':=by
 obtain⟨c0,rfl,s0,-⟩:=AggV_Vv _ _ _ _ _ h;obtain⟨p0,p1,p2,p3,p4,p5,p6,p7,rfl⟩:=arr8 s0;have hb:=below_new W (.cells #[p0,p1,p2,p3,p4,p5,p6,p7] 32);refine⟨.slice (some ⟨W.heap.size,0,none⟩) 1 1,_,?_,hb,_,_,rfl,heap_alloc_new _ _,rfl,_,rfl,fun i z hz=>?_⟩
 ·clear h hb;obtain⟨dd,op,ty,ps,af,gd⟩:=o;subst ho
  go_simp
 ·match i,hz with
  |0,hz=>cases hz;exact Stab_Vv (BT:=[]) _ _ _ _ _ _ h (RI.of_below hb)
  |i+1,hz=>simp at hz
end
theorem cOf6 {w:World}{l:List Int}{n:Nat}{v0:Value}(h0:VI l v0 w)(hl:l.length=2*n)(hn0:0<n)(hn:n<=1000)(hl64:i64s l):Calls Tryz.prog 49 #[v0] w (RV (VSv 3 (ofL l n)) w):=by
 go_enter Tryz.func49,Tryz.ntmps49
 refine Sg 26 [(0,VI l)] (Lq.2 ⟨⟨_,rfl,h0⟩,L0⟩) fun a0 st0=>Wn ?_
 refine rH [] [VEq (.slice none 0 0)] [] [(0,VI l),(2,VEq (.slice none 0 0))] st0 ⟨ks,trivial⟩ fun a1 w1 st1=>Wn ?_
 refine rH [] [VEq (.slice none 0 0)] [] [(0,VI l),(2,VEq (.slice none 0 0)),(3,VEq (.slice none 0 0))] st1 ⟨ks,trivial⟩ fun a2 w2 st2=>Wn ?_
 refine rH [] [Vi 0] [] [(0,VI l),(2,VEq (.slice none 0 0)),(3,VEq (.slice none 0 0)),(4,Vi 0)] st2 ⟨ks,trivial⟩ ?_;intro a3 w3 st3;replace st3:St w.heap.size w 26 [] [(0,VI l),(2,VEq (.slice none 0 0)),(3,VEq (.slice none 0 0)),(4,Vi 0)] a3 w3:=st3;obtain⟨vR,heR,hvR⟩:=st3.sl (3,VEq (.slice none 0 0)) (lS_mem rfl);replace st3:=st3.reT 3 (VRg 32 8 (EV 3) none 0 0 ([])) heR ⟨by simp,by omega,.inl ⟨rfl,hvR⟩⟩;replace st3:St w.heap.size w 26 [] [(0,VI l),(3,VRg 32 8 (EV 3) none 0 0 ([])),(4,Vi ((2*0:Nat):Int))] a3 w3:=st3.cut;clear heR hvR;refine Wn ?_
 refine wp_loop_ghost (fun m aX wX=>∃(j g c:Nat) (us:List P2),j+m=n/\us=ofL l j/\us.length=j/\(c=0∨w.heap.size<=g/\0<us.length)/\St w.heap.size w 26 [] [(0,VI l),(3,VRg 32 8 (EV 3) none g c us),(4,Vi ((2*j:Nat):Int))] aX wX) n ⟨0,0,0,[],by omega,rfl,rfl,.inl rfl,st3⟩ ?_;intro m aL wL ⟨j,g,c,us,hj,hus,hul,hxc,st3⟩;by_cases hlt:j<n
 ·
  refine Wn ?_
  refine rH [] [Vi ((2*j:Nat):Int),Vi ((2*j+1:Nat):Int),VI l,Vi (l.length:Int),Vb true] [] [(0,VI l),(3,VRg 32 8 (EV 3) none g c us),(4,Vi ((2*j:Nat):Int)),(9,Vb true)] st3 ⟨ks,(kr1 5 fun _ _ _ _ v0 x0 X0=>⟨_,run_addi rfl (x0.trans (show v0= .int .i64 ((2*j:Nat):Int)from X0)) rfl wO,congrArg (Value.int .i64) (by omega)⟩),ks,(kr1 7 fun _ _ _ _ _ x0 X0=>len_VI rfl rfl x0 X0),(kr2 6 8 fun _ _ _ _ _ x0 X0 _ x1 X1=>⟨_,run_lssi rfl (x0.trans X0) (x1.trans X1),congrArg Value.bool (dT (by omega))⟩),trivial⟩ fun a4 w4 st4=>Wn ?_
  refine cT st4 ?_;have hb0:=hl64 (2*j) (by omega);have hb1:=hl64 (2*j+1) (by omega);by_cases hrm:(us).length+([ofE l j]).length<=c
  ·
   replace st4:St w.heap.size w 26 [] [(0,VI l),(3,VRg 32 8 (EV 3) none g c us),(4,Vi ((2*j:Nat):Int)),(9,Vb true)] a4 w4:=st4;obtain⟨vR,heR,hlR,hcmR,(⟨h0,-⟩|⟨h0,hvR,hrow⟩)⟩:=st4.sl (3,VRg 32 8 (EV 3) none g c us) (lS_mem rfl)
   ·simp only [List.length_cons,List.length_nil] at hrm;omega
   have h2c:2<=c:=by simp only [List.length_cons,List.length_nil] at hrm;omega
   have hgn:w.heap.size<=g:=by omega
   replace st4:=st4.reT 3 (VEq (.slice (some ⟨g,0,none⟩) us.length c)) heR hvR;replace st4:St w.heap.size w 26 [] [(0,VI l),(3,VEq (.slice (some ⟨g,0,none⟩) us.length c)),(4,Vi ((2*j:Nat):Int)),(9,Vb true)] a4 w4:=st4.cut;clear heR hvR hlR;refine Wn ?_
   have:Sb ((32,8*c,0):: []) (VOs 32 8 (EV 3) ([ofE l j])):=⟨Stab_VOs (fun x=>Stab_Vv _ _ _) (by first|(simp;done)|(simp;omega))⟩;refine rgR (BT:=[]) (Vl:=[VEq (.slice (some ⟨g,0,none⟩) us.length c),VI l,Vi ((2*j:Nat):Int),VPc (iat l (2*j)),Vi (iat l (2*j)),VI l,Vi ((2*j:Nat):Int),Vi ((2*j+1:Nat):Int),VPc (iat l (2*j+1)),Vi (iat l (2*j+1)),Vv 3 (Rat.divInt (iat l (2*j)) 1) (Rat.divInt (iat l (2*j+1)) 1),VOs 32 8 (EV 3) ([ofE l j]),VEq (.slice (some ⟨g,0,none⟩) (us.length+([ofE l j]).length) c),VEq (.slice (some ⟨g,0,none⟩) (us.length+([ofE l j]).length) c)]) (B:=[]) (SL':=[(0,VI l),(4,Vi ((2*j:Nat):Int)),(9,Vb true),(3,VEq (.slice (some ⟨g,0,none⟩) (us.length+([ofE l j]).length) c))]) ⟨g,12,32,8*c,VEl 8 (EV 3) (us++ [ofE l j]),VEl 8 (EV 3) us⟩ st4 hrow ⟨fun _=>?s0,fun _=>ks,fun _=>ks,fun _=>(kr2 13 14 fun _ _ _ _ _ x0 X0 _ x1 X1=>index_VI rfl x0 X0 x1 X1 (by omega)),fun _=>(kr1 15 fun _ _ _ _ _ x0 X0=>load_Pc rfl x0 X0),fun _=>ks,fun _=>ks,fun _=>(kr1 18 fun _ _ _ _ v0 x0 X0=>⟨_,run_addi rfl (x0.trans (show v0= .int .i64 ((2*j:Nat):Int)from X0)) rfl wO,congrArg (Value.int .i64) (by omega)⟩),fun _=>(kr2 17 19 fun _ _ _ _ _ x0 X0 _ x1 X1=>index_VI rfl x0 X0 x1 X1 (by omega)),fun _=>(kr1 20 fun _ _ _ _ _ x0 X0=>load_Pc rfl x0 X0),fun _=>(kd2 fun _ _ _ _ _ X0 _ X1=>cR5Of X0 X1),fun _=>(by refine km fun _ A Y h D=>?_;obtain⟨v0,x0,X0⟩:=h.dp D 22;exact bslice_V1 rfl x0 X0),fun hne=>absurd rfl hne,fun _=>ks,trivial⟩ ?r12 ?_ (by kernel_rfl) (Nat.le_of_ble_eq_true rfl) (hm0:=(by show 8*c≠0;omega))
   case s0=>
    refine k_run0 SbB.out (by kernel_rfl) fun listed A Y h D hnl=>⟨trivial,?_⟩
    obtain⟨v0,x0,X0⟩:=h.out0 hnl (3,VEq (.slice (some ⟨g,0,none⟩) us.length c)) (.tail _ (.head _)) 13 (by kernel_rfl) (.inr (by kernel_rfl));exact⟨_,run_move rfl,by rw [x0];exact X0⟩
   case r12=>intro o ho;obtain rfl:=Option.some.inj ho.symm;exact k_appM (k:=8) (E:=EV 3) (us:=us) (zs:=[ofE l j]) rfl ⟨[],by simp⟩ rfl (.inl ⟨by kernel_rfl,rfl,rfl⟩) (.inl ⟨by kernel_rfl,rfl,rfl⟩) (fun _ _ _ _ h=>VOs_sc h) rfl hrm h2c hgn (by kernel_rfl) (by kernel_rfl) (fun x BT=>Stab_Vv _ _ _) (by simp) trivial
   clear hrow;intro a5 w5 st5 hrow;replace st5:St w.heap.size w 26 [] [(0,VI l),(4,Vi ((2*j:Nat):Int)),(9,Vb true),(3,VEq (.slice (some ⟨g,0,none⟩) (us.length+([ofE l j]).length) c))] a5 w5:=st5;obtain⟨vR,heR,hvR⟩:=st5.sl (3,VEq (.slice (some ⟨g,0,none⟩) (us.length+([ofE l j]).length) c)) (lS_mem rfl);replace st5:=st5.reT 3 (VRg 32 8 (EV 3) none g c (us++ [ofE l j])) heR (by obtain rfl:vR=_:=hvR;exact VRg_in (by rw [List.length_append];exact hrm) h0 hcmR hrow);replace st5:St w.heap.size w 26 [] [(0,VI l),(4,Vi ((2*j:Nat):Int)),(9,Vb true),(3,VRg 32 8 (EV 3) none g c (us++ [ofE l j]))] a5 w5:=st5.cut;clear heR hvR hrow hcmR h0;refine Wn ?_
   refine rH [] [Vi ((2*j:Nat):Int),Vi ((2*(j+1):Nat):Int),Vi ((2*(j+1):Nat):Int)] [] [(0,VI l),(9,Vb true),(3,VRg 32 8 (EV 3) none g c (us++ [ofE l j])),(4,Vi ((2*(j+1):Nat):Int))] st5 ⟨?s0,(kr1 10 fun _ _ _ _ v0 x0 X0=>⟨_,run_addi rfl (x0.trans (show v0= .int .i64 ((2*j:Nat):Int)from X0)) rfl wO,congrArg (Value.int .i64) (by omega)⟩),ks,trivial⟩ ?_
   case s0=>
    refine k_run0 SbB.out (by kernel_rfl) fun listed A Y h D hnl=>⟨trivial,?_⟩
    obtain⟨v0,x0,X0⟩:=h.out0 hnl (4,Vi ((2*j:Nat):Int)) (.tail _ (.head _)) 2 (by kernel_rfl) (.inr (by kernel_rfl));exact⟨_,run_move rfl,by rw [x0];exact X0⟩
   intro a6 w6 st6;replace st6:St w.heap.size w 26 [] [(0,VI l),(9,Vb true),(3,VRg 32 8 (EV 3) none g c (us++ [ofE l j])),(4,Vi ((2*(j+1):Nat):Int))] a6 w6:=st6;exact⟨m - 1,by omega,j+1,g,c,us++ [ofE l j],by omega,by rw [hus];unfold ofL;rw [List.range_succ,List.map_append];rfl,by rw [List.length_append,hul];rfl,.inr ⟨by omega,by rw [List.length_append,List.length_singleton];omega⟩,st6.cut⟩
  ·
   refine Wn ?_
   refine rH [] [VRg 32 8 (EV 3) none g c us,VI l,Vi ((2*j:Nat):Int),VPc (iat l (2*j)),Vi (iat l (2*j)),VI l,Vi ((2*j:Nat):Int),Vi ((2*j+1:Nat):Int),VPc (iat l (2*j+1)),Vi (iat l (2*j+1)),Vv 3 (Rat.divInt (iat l (2*j)) 1) (Rat.divInt (iat l (2*j+1)) 1),VOs 32 8 (EV 3) ([ofE l j]),VRx 32 8 (EV 3) w.heap.size (us++ [ofE l j]),VRx 32 8 (EV 3) w.heap.size (us++ [ofE l j])] [] [(0,VI l),(4,Vi ((2*j:Nat):Int)),(9,Vb true),(3,VRx 32 8 (EV 3) w.heap.size (us++ [ofE l j]))] st4 ⟨?s0,ks,ks,(kr2 13 14 fun _ _ _ _ _ x0 X0 _ x1 X1=>index_VI rfl x0 X0 x1 X1 (by omega)),(kr1 15 fun _ _ _ _ _ x0 X0=>load_Pc rfl x0 X0),ks,ks,(kr1 18 fun _ _ _ _ v0 x0 X0=>⟨_,run_addi rfl (x0.trans (show v0= .int .i64 ((2*j:Nat):Int)from X0)) rfl wO,congrArg (Value.int .i64) (by omega)⟩),(kr2 17 19 fun _ _ _ _ _ x0 X0 _ x1 X1=>index_VI rfl x0 X0 x1 X1 (by omega)),(kr1 20 fun _ _ _ _ _ x0 X0=>load_Pc rfl x0 X0),(kd2 fun _ _ _ _ _ X0 _ X1=>cR5Of X0 X1),(by refine km fun _ A Y h D=>?_;obtain⟨v0,x0,X0⟩:=h.dp D 22;exact bslice_V1 rfl x0 X0),(by refine km fun _ A Y h D=>?_;obtain⟨v0,x0,X0⟩:=h.dp D 12;obtain⟨v1,x1,X1⟩:=h.dp D 23;exact app_growM rfl x0 X0 x1 (VOs_sc X1) (fun x=>Stab_Vv _ _ _) (by omega) h.n (by simp only [List.length_cons,List.length_nil];omega)),ks,trivial⟩ ?_
   case s0=>
    refine k_run0 SbB.out (by kernel_rfl) fun listed A Y h D hnl=>⟨trivial,?_⟩
    obtain⟨v0,x0,X0⟩:=h.out0 hnl (3,VRg 32 8 (EV 3) none g c (us)) (.tail _ (.head _)) 13 (by kernel_rfl) (.inr (by kernel_rfl));exact⟨_,run_move rfl,by rw [x0];exact X0⟩
   intro a5 w5 st5;replace st5:St w.heap.size w 26 [] [(0,VI l),(4,Vi ((2*j:Nat):Int)),(9,Vb true),(3,VRx 32 8 (EV 3) w.heap.size (us++ [ofE l j]))] a5 w5:=st5;obtain⟨g2,c2,hg2,hc2,st5⟩:=st5.nameR 3 rfl;replace st5:St w.heap.size w 26 [] [(0,VI l),(4,Vi ((2*j:Nat):Int)),(9,Vb true),(3,VRg 32 8 (EV 3) none g2 c2 (us++ [ofE l j]))] a5 w5:=st5.cut;refine Wn ?_
   refine rH [] [Vi ((2*j:Nat):Int),Vi ((2*(j+1):Nat):Int),Vi ((2*(j+1):Nat):Int)] [] [(0,VI l),(9,Vb true),(3,VRg 32 8 (EV 3) none g2 c2 (us++ [ofE l j])),(4,Vi ((2*(j+1):Nat):Int))] st5 ⟨?s0,(kr1 10 fun _ _ _ _ v0 x0 X0=>⟨_,run_addi rfl (x0.trans (show v0= .int .i64 ((2*j:Nat):Int)from X0)) rfl wO,congrArg (Value.int .i64) (by omega)⟩),ks,trivial⟩ ?_
   case s0=>
    refine k_run0 SbB.out (by kernel_rfl) fun listed A Y h D hnl=>⟨trivial,?_⟩
    obtain⟨v0,x0,X0⟩:=h.out0 hnl (4,Vi ((2*j:Nat):Int)) (.tail _ (.head _)) 2 (by kernel_rfl) (.inr (by kernel_rfl));exact⟨_,run_move rfl,by rw [x0];exact X0⟩
   intro a6 w6 st6;replace st6:St w.heap.size w 26 [] [(0,VI l),(9,Vb true),(3,VRg 32 8 (EV 3) none g2 c2 (us++ [ofE l j])),(4,Vi ((2*(j+1):Nat):Int))] a6 w6:=st6;exact⟨m - 1,by omega,j+1,g2,c2,us++ [ofE l j],by omega,by rw [hus];unfold ofL;rw [List.range_succ,List.map_append];rfl,by rw [List.length_append,hul];rfl,.inr ⟨by omega,by rw [List.length_append,List.length_singleton];omega⟩,st6.cut⟩
 ·
  refine Wn ?_
  refine rH [] [Vi ((2*j:Nat):Int),Vi ((2*j+1:Nat):Int),VI l,Vi (l.length:Int),Vb false] [] [(0,VI l),(3,VRg 32 8 (EV 3) none g c us),(4,Vi ((2*j:Nat):Int)),(9,Vb false)] st3 ⟨ks,(kr1 5 fun _ _ _ _ v0 x0 X0=>⟨_,run_addi rfl (x0.trans (show v0= .int .i64 ((2*j:Nat):Int)from X0)) rfl wO,congrArg (Value.int .i64) (by omega)⟩),ks,(kr1 7 fun _ _ _ _ _ x0 X0=>len_VI rfl rfl x0 X0),(kr2 6 8 fun _ _ _ _ _ x0 X0 _ x1 X1=>⟨_,run_lssi rfl (x0.trans X0) (x1.trans X1),congrArg Value.bool (dF (by omega))⟩),trivial⟩ fun a4 w4 st4=>Wn ?_
  refine cF st4 ?_;obtain rfl:j=n:=by omega
  refine Wn ?_
  refine rH [] [VRg 32 8 (EV 3) none g c us,VRg 32 8 (EV 3) none g c us] [] [(0,VI l),(3,VRg 32 8 (EV 3) none g c us),(4,Vi ((2*j:Nat):Int)),(9,Vb false),(2,VRg 32 8 (EV 3) none g c us)] st4 ⟨ks,ks,trivial⟩ fun a5 w5 st5=>Wn ?_
  exact wp_ret (rS 2 (VRg 32 8 (EV 3) none g c (us)) st5 fun vr r4=>(by rw [<-hus];exact VRg_sv r4 (by intro e;rw [e] at hul;simp at hul;omega)))
end Go.Proofs.YteacdbgalloaiaaGreat
