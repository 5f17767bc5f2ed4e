/- Contracts of the packages integer, rat, plane, polygon and their references. -/
import Derived.Test.YteacdbgalloaiaaGreatH36
set_option linter.unusedVariables false
set_option maxRecDepth 100000
set_option maxHeartbeats 6400000
namespace Go.Proofs.YteacdbgalloaiaaGreat
open Go.RowKit
open Go
def E2 (x:Int×Int):VP:=VEq (.agg #[.int .i64 x.1,.int .i64 x.2])
instance {BT:List (TypeId×Nat×Nat)}(x:Int×Int):Sb BT (E2 x):=⟨fun _ _ _ h _=>h⟩
def wys:List (Int×Int):=[(4,0),(4,2),(3,3),(2,4),(0,4),(-2,4),(-3,3),(-4,2),(-4,0),(-4,-2),(-3,-3),(-2,-4),(0,-4),(2,-4),(3,-3),(4,-2)]
def wyc (i:Nat):Int×Int:=wys.getD i (0,0)
theorem wys_bd:∀j<16,-4<=(wyc j).1/\(wyc j).1<=4/\ -4<=(wyc j).2/\(wyc j).2<=4:=by decide
def byQ (l:List Int):P2:=(Rat.divInt (atv l 16 9 - 4) 1,Rat.divInt (atv l 17 9 - 4) 1)
def pgE (l:List Int)(i:Nat):P2:=((byQ l).1+Rat.divInt ((wyc i).1*atv l (i:Int) 6) 2,(byQ l).2+Rat.divInt ((wyc i).2*atv l (i:Int) 6) 2)
def pgL (l:List Int):Nat->List P2
 |0=>[]
 |i+1=>if (pgL l i).length<12/\0<atv l (i:Int) 6/\atv l (i:Int) 6<4 then pgL l i++ [pgE l i] else pgL l i
theorem pgL_stay {l:List Int}{i:Nat}(h:12<=(pgL l i).length):∀k,pgL l (i+k)=pgL l i
 |0=>rfl
 |k+1=>by
  have:=pgL_stay h k;show pgL l (i+k+1)=_;rw [pgL,if_neg (by rw [this];omega),this]
def pgF (l:List Int):List P2:=[byQ l,((byQ l).1+Rat.divInt 4 1,(byQ l).2+Rat.divInt 0 1),((byQ l).1+Rat.divInt (1+atv l 0 2) 1,(byQ l).2+Rat.divInt 3 1),((byQ l).1+Rat.divInt 1 1,(byQ l).2+Rat.divInt 1 1)]
def polyR (l:List Int):List P2:=if validR (pgL l 16)=true then pgL l 16 else pgF l
theorem Stab_VSl2 {BT:List (TypeId×Nat×Nat)}{xs:List (Int×Int)}(hn:∀e∈BT,e.1≠63):Stab BT (VSl 63 2 E2 xs):=fun _ _ _ ⟨hh,o,c,cs,e1,e2,e3,e4,e5,e6⟩ hr=>⟨hh,o,c,cs,e1,e2,e3,(hr.row _ _ _ e4 (.inl fun e he q=>absurd q (hn e he))).trans e4,e5,e6⟩
theorem Stab_VEp2 {BT:List (TypeId×Nat×Nat)}{x:Int×Int}(hn:∀e∈BT,e.1≠63):Stab BT (VEp 63 2 (E2 x)):=fun _ _ _ ⟨g,off,cs,e1,e2,e3,e4⟩ hr=>⟨g,off,cs,e1,(hr.row _ _ _ e2 (.inl fun e he q=>absurd q (hn e he))).trans e2,e3,e4⟩
instance {xs:List (Int×Int)}:Sb [] (VSl 63 2 E2 xs):=⟨Stab_VSl2 (by simp)⟩
instance {x:Int×Int}:Sb [] (VEp 63 2 (E2 x)):=⟨Stab_VEp2 (by simp)⟩
section
variable {ρ:Operand->Value}{o:Oper}{W:World}{x y:Operand}{va vb:Value}
theorem run_build2 {a b:Int}(ho:o.op= .build 63 #[(0,.const (.int .i64 a)),(1,.const (.int .i64 b))])(hc:∀v,ρ (.const v)=v):∃v,(execOp ρ o).run Tryz.prog W= .ok (.value v) W/\E2 (a,b) v W:=by
 refine⟨_,?_,rfl⟩;obtain⟨dd,op,ty,ps,af,gd⟩:=o;subst ho
 go_simp
theorem bslice_A16 {x0 x1 x2 x3 x4 x5 x6 x7 x8 x9 x10 x11 x12 x13 x14 x15:Operand}{v0 v1 v2 v3 v4 v5 v6 v7 v8 v9 v10 v11 v12 v13 v14 v15:Value}(ho:o.op= .buildSlice 64 16 #[(0,x0),(1,x1),(2,x2),(3,x3),(4,x4),(5,x5),(6,x6),(7,x7),(8,x8),(9,x9),(10,x10),(11,x11),(12,x12),(13,x13),(14,x14),(15,x15)])(e0:ρ x0=v0)(e1:ρ x1=v1)(e2:ρ x2=v2)(e3:ρ x3=v3)(e4:ρ x4=v4)(e5:ρ x5=v5)(e6:ρ x6=v6)(e7:ρ x7=v7)(e8:ρ x8=v8)(e9:ρ x9=v9)(e10:ρ x10=v10)(e11:ρ x11=v11)(e12:ρ x12=v12)(e13:ρ x13=v13)(e14:ρ x14=v14)(e15:ρ x15=v15)(h0:E2 (4,0) v0 W)(h1:E2 (4,2) v1 W)(h2:E2 (3,3) v2 W)(h3:E2 (2,4) v3 W)(h4:E2 (0,4) v4 W)(h5:E2 (-2,4) v5 W)(h6:E2 (-3,3) v6 W)(h7:E2 (-4,2) v7 W)(h8:E2 (-4,0) v8 W)(h9:E2 (-4,-2) v9 W)(h10:E2 (-3,-3) v10 W)(h11:E2 (-2,-4) v11 W)(h12:E2 (0,-4) v12 W)(h13:E2 (2,-4) v13 W)(h14:E2 (3,-3) v14 W)(h15:E2 (4,-2) v15 W):∃v w',(execOp ρ o).run Tryz.prog W= .ok (.value v) w'/\Below W.heap.size W w'/\VSl 63 2 E2 wys v w':=by
 obtain rfl:v0=_:=h0;obtain rfl:v1=_:=h1;obtain rfl:v2=_:=h2;obtain rfl:v3=_:=h3;obtain rfl:v4=_:=h4;obtain rfl:v5=_:=h5;obtain rfl:v6=_:=h6;obtain rfl:v7=_:=h7;obtain rfl:v8=_:=h8;obtain rfl:v9=_:=h9;obtain rfl:v10=_:=h10;obtain rfl:v11=_:=h11;obtain rfl:v12=_:=h12;obtain rfl:v13=_:=h13;obtain rfl:v14=_:=h14;obtain rfl:v15=_:=h15;have hb:=below_new W (.cells #[.int .i64 4,.int .i64 0,.int .i64 4,.int .i64 2,.int .i64 3,.int .i64 3,.int .i64 2,.int .i64 4,.int .i64 0,.int .i64 4,.int .i64 (-2),.int .i64 4,.int .i64 (-3),.int .i64 3,.int .i64 (-4),.int .i64 2,.int .i64 (-4),.int .i64 0,.int .i64 (-4),.int .i64 (-2),.int .i64 (-3),.int .i64 (-3),.int .i64 (-2),.int .i64 (-4),.int .i64 0,.int .i64 (-4),.int .i64 2,.int .i64 (-4),.int .i64 3,.int .i64 (-3),.int .i64 4,.int .i64 (-2)] 63);refine⟨.slice (some ⟨W.heap.size,0,none⟩) 16 16,_,?_,hb,⟨_,0,16,_,rfl,Nat.le_refl _,by omega,heap_alloc_new _ _,Nat.le_refl _,fun i z hz=>?_⟩⟩
 ·clear hb;obtain⟨dd,op,ty,ps,af,gd⟩:=o;subst ho
  go_simp
 ·match i,hz with
  |0,hz=>cases hz;rfl
  |1,hz=>cases hz;rfl
  |2,hz=>cases hz;rfl
  |3,hz=>cases hz;rfl
  |4,hz=>cases hz;rfl
  |5,hz=>cases hz;rfl
  |6,hz=>cases hz;rfl
  |7,hz=>cases hz;rfl
  |8,hz=>cases hz;rfl
  |9,hz=>cases hz;rfl
  |10,hz=>cases hz;rfl
  |11,hz=>cases hz;rfl
  |12,hz=>cases hz;rfl
  |13,hz=>cases hz;rfl
  |14,hz=>cases hz;rfl
  |15,hz=>cases hz;rfl
  |i+16,hz=>simp [wys] at hz
theorem len_A16 (ho:o.op= .call {callee:= .builtin .len,args:=#[x],argTypes:=#[64]})(hty:o.type=3)(hx:ρ x=va)(h:VSl 63 2 E2 wys va W):∃v,(execOp ρ o).run Tryz.prog W= .ok (.value v) W/\Vi 16 v W:=by
 obtain⟨hh,oo,c,cs,rfl,-⟩:=h;refine⟨.int .i64 16,?_,rfl⟩;have:wys.length=16:=rfl;obtain⟨dd,op,ty,ps,af,gd⟩:=o;subst ho;simp only at hty;subst hty;rw [this] at hx
 go_simp
theorem index_A16 {j:Nat}(ho:o.op= .indexAddr 64 x y)(hx:ρ x=va)(h:VSl 63 2 E2 wys va W)(hy:ρ y=vb)(hb:Vi (j:Int) vb W)(hj:j<16):∃v,(execOp ρ o).run Tryz.prog W= .ok (.value v) W/\VEp 63 2 (E2 (wyc j)) v W:=by
 have hl:wys.length=16:=rfl;have hz:wys[j]? =some (wyc j):=by unfold wyc;rw [List.getD_eq_getElem?_getD,List.getElem?_eq_getElem (by omega)];rfl
 obtain⟨b,off,c,rfl,h2⟩:=VSl_el h hz;obtain rfl:vb=_:=hb;refine⟨.pointer (some ⟨b,off+2*j,none⟩),?_,h2⟩;have hj2:(j:Int)<16:=by omega
 have hm:j*2=2*j:=Nat.mul_comm _ _;clear h h2 hz;obtain⟨dd,op,ty,ps,af,gd⟩:=o;subst ho;rw [hl] at hx
 go_simp
theorem index_E2 {z:Int×Int}{k:Nat}(ho:o.op= .indexAddr 63 x (.const (.int .i64 (k:Int))))(hc:∀v,ρ (.const v)=v)(hx:ρ x=va)(h:VEp 63 2 (E2 z) va W)(hk:k<2):∃v,(execOp ρ o).run Tryz.prog W= .ok (.value v) W/\VPc (if k=0 then z.1 else z.2) v W:=by
 obtain⟨g,off,cs,rfl,e2,e3,e4⟩:=h;have e4:Value.agg (cs.extract off (off+2))=_:=e4
 have hcell:W.cell? ⟨g,off+k,none⟩=some (.int .i64 (if k=0 then z.1 else z.2)):=by
  simp only [World.cell?,e2]
  have e5:(cs.extract off (off+2))[k]? =some (.int .i64 (if k=0 then z.1 else z.2)):=by
   rw [Value.agg.inj e4]
   match k,hk with
   |0,_=>rfl
   |1,_=>rfl
  rw [Array.getElem?_extract,if_pos (by omega)] at e5
  simpa using e5
 refine⟨.pointer (some ⟨g,off+k,none⟩),?_,_,rfl,hcell⟩;clear hcell e4;obtain⟨dd,op,ty,ps,af,gd⟩:=o;subst ho
 match k,hk with
 |0,_=>go_simp
 |1,_=>go_simp
theorem len_Rg {N g c:Nat}{us:List P2}(ho:o.op= .call {callee:= .builtin .len,args:=#[x],argTypes:=#[23]})(hty:o.type=3)(hx:ρ x=va)(h:VRg 32 8 (EV N) none g c us va W):∃v,(execOp ρ o).run Tryz.prog W= .ok (.value v) W/\Vi (us.length:Int) v W:=by
 have:∃p,va= .slice p us.length c:=by
  obtain⟨h1,-,(⟨h2,rfl⟩|⟨-,rfl,-⟩)⟩:=h
  ·subst h2;exact⟨none,by rw [Nat.le_zero.1 h1]⟩
  ·exact⟨_,rfl⟩
 obtain⟨p,rfl⟩:=this;refine⟨.int .i64 (us.length:Int),?_,rfl⟩;clear h;generalize us.length=n at*
 obtain⟨dd,op,ty,ps,af,gd⟩:=o;subst ho;simp only at hty;subst hty
 go_simp
theorem bslice_V4 {M:Nat}{x0 x1 x2 x3:Operand}{v0 v1 v2 v3:Value}{d0 d1 d2 d3:P2}(ho:o.op= .buildSlice 23 4 #[(0,x0),(1,x1),(2,x2),(3,x3)])(e0:ρ x0=v0)(e1:ρ x1=v1)(e2:ρ x2=v2)(e3:ρ x3=v3)(h0:Vv M d0.1 d0.2 v0 W)(h1:Vv M d1.1 d1.2 v1 W)(h2:Vv M d2.1 d2.2 v2 W)(h3:Vv M d3.1 d3.2 v3 W):
 ∃v w',(execOp ρ o).run Tryz.prog W= .ok (.value v) w'/\Below W.heap.size W w'/\VSv M [d0,d1,d2,d3] v w':=by
 obtain⟨c0,rfl,s0,-⟩:=AggV_Vv _ _ _ _ _ h0;obtain⟨c1,rfl,s1,-⟩:=AggV_Vv _ _ _ _ _ h1;obtain⟨c2,rfl,s2,-⟩:=AggV_Vv _ _ _ _ _ h2;obtain⟨c3,rfl,s3,-⟩:=AggV_Vv _ _ _ _ _ h3;obtain⟨p0_0,p0_1,p0_2,p0_3,p0_4,p0_5,p0_6,p0_7,rfl⟩:=arr8 s0;obtain⟨p1_0,p1_1,p1_2,p1_3,p1_4,p1_5,p1_6,p1_7,rfl⟩:=arr8 s1;obtain⟨p2_0,p2_1,p2_2,p2_3,p2_4,p2_5,p2_6,p2_7,rfl⟩:=arr8 s2;obtain⟨p3_0,p3_1,p3_2,p3_3,p3_4,p3_5,p3_6,p3_7,rfl⟩:=arr8 s3;have hb:=below_new W (.cells #[p0_0,p0_1,p0_2,p0_3,p0_4,p0_5,p0_6,p0_7,p1_0,p1_1,p1_2,p1_3,p1_4,p1_5,p1_6,p1_7,p2_0,p2_1,p2_2,p2_3,p2_4,p2_5,p2_6,p2_7,p3_0,p3_1,p3_2,p3_3,p3_4,p3_5,p3_6,p3_7] 32);refine⟨.slice (some ⟨W.heap.size,0,none⟩) 4 4,_,?_,hb,.inr ⟨_,0,4,_,rfl,Nat.le_refl _,by omega,heap_alloc_new _ _,Nat.le_refl _,fun i z hz=>?_⟩⟩
 ·clear h0 h1 h2 h3 hb;obtain⟨dd,op,ty,ps,af,gd⟩:=o;subst ho
  go_simp
 ·match i,hz with
  |0,hz=>cases hz;exact Stab_Vv (BT:=[]) _ _ _ _ _ _ h0 (RI.of_below hb)
  |1,hz=>cases hz;exact Stab_Vv (BT:=[]) _ _ _ _ _ _ h1 (RI.of_below hb)
  |2,hz=>cases hz;exact Stab_Vv (BT:=[]) _ _ _ _ _ _ h2 (RI.of_below hb)
  |3,hz=>cases hz;exact Stab_Vv (BT:=[]) _ _ _ _ _ _ h3 (RI.of_below hb)
  |i+4,hz=>simp at hz
end
end Go.Proofs.YteacdbgalloaiaaGreat
