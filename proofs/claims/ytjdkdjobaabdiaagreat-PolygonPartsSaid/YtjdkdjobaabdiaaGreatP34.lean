/- Contracts of the packages integer, rat, plane, polygon and their references. -/
import Derived.Test.YtjdkdjobaabdiaaGreatP33
import Derived.Deep.LoopGhost
import Derived.Test.YtjdkdjobaabdiaaGreatP22
import Derived.Test.YtjdkdjobaabdiaaGreatP15
set_option linter.unusedVariables false
set_option maxRecDepth 100000
set_option maxHeartbeats 6400000
namespace Go.Proofs.YtjdkdjobaabdiaaGreat
open Go.RowKit
open Go
theorem Stab_VSv0 {N:Nat}{vs:List P2}:Stab [] (VSv N vs):=fun _ _ _ h hr=>h.imp id fun ⟨hh,o,c,cs,e1,e2,e3,e4,e5,e6⟩=>⟨hh,o,c,cs,e1,e2,e3,(hr.row _ _ _ e4 (.inl (by simp))).trans e4,e5,fun i x hx=>Stab_Vv _ _ _ _ _ _ (e6 i x hx) hr⟩
instance {N:Nat}{vs:List P2}:Sb [] (VSv N vs):=⟨Stab_VSv0⟩
theorem Stab_VEp0 {T:TypeId}{k:Nat}{A:VP}(hA:Stab [] A):Stab [] (VEp T k A):=fun _ _ _ ⟨h,off,cs,e1,e2,e3,e4⟩ hr=>⟨h,off,cs,e1,(hr.row _ _ _ e2 (.inl (by simp))).trans e2,e3,hA _ _ _ e4 hr⟩
instance {T:TypeId}{k N:Nat}{x y:Rat}:Sb [] (VEp T k (Vv N x y)):=⟨Stab_VEp0 (Stab_Vv _ _ _)⟩
section
variable {ρ:Operand->Value}{o:Oper}{W:World}{x y:Operand}{va vb:Value}{N:Nat}{vs:List P2}
theorem len_SvC (ho:o.op= .call {callee:= .builtin .len,args:=#[x],argTypes:=#[23]})(hty:o.type=3)(hx:ρ x=va)(h:VSv N vs va W):∃v,(execOp ρ o).run Tryz.prog W= .ok (.value v) W/\Vi (vs.length:Int) v W:=len_Sv ho hty hx rfl h
theorem index_SvC {a:P2}{j:Nat}(ho:o.op= .indexAddr 23 x y)(hx:ρ x=va)(h:VSv N vs va W)(hy:ρ y=vb)(hb:Vi (j:Int) vb W)(hz:vs[j]? =some a):∃v,(execOp ρ o).run Tryz.prog W= .ok (.value v) W/\VEp 35 8 (Vv N a.1 a.2) v W:=index_Sv ho hx rfl h hy hb hz
theorem load_EpW {a:P2}(ho:o.op= .load 35 x)(hx:ρ x=va)(h:VEp 35 8 (Vv N a.1 a.2) va W):∃v,(execOp ρ o).run Tryz.prog W= .ok (.value v) W/\Vv N a.1 a.2 v W:=load_EpC (w:=W) (Stab_Vv _ _ _) ho hx h (Below.refl _ _) Tryz.underlying35 rfl size_Vec
end
theorem bslice_V5 {ρ:Operand->Value}{o:Oper}{W:World}{M:Nat}{x0 x1 x2 x3 x4:Operand}{v0 v1 v2 v3 v4:Value}{d0 d1 d2 d3 d4:P2}(ho:o.op= .buildSlice 23 5 #[(0,x0),(1,x1),(2,x2),(3,x3),(4,x4)])(e0:ρ x0=v0)(e1:ρ x1=v1)(e2:ρ x2=v2)(e3:ρ x3=v3)(e4:ρ x4=v4)(h0:Vv M d0.1 d0.2 v0 W)(h1:Vv M d1.1 d1.2 v1 W)(h2:Vv M d2.1 d2.2 v2 W)(h3:Vv M d3.1 d3.2 v3 W)(h4:Vv M d4.1 d4.2 v4 W):
 ∃v w',(execOp ρ o).run Tryz.prog W= .ok (.value v) w'/\Below W.heap.size W w'/\VSv M [d0,d1,d2,d3,d4] v w':=by
 obtain⟨c0,rfl,s0,-⟩:=AggV_Vv _ _ _ _ _ h0
 obtain⟨c1,rfl,s1,-⟩:=AggV_Vv _ _ _ _ _ h1
 obtain⟨c2,rfl,s2,-⟩:=AggV_Vv _ _ _ _ _ h2
 obtain⟨c3,rfl,s3,-⟩:=AggV_Vv _ _ _ _ _ h3
 obtain⟨c4,rfl,s4,-⟩:=AggV_Vv _ _ _ _ _ h4
 obtain⟨p0_0,p0_1,p0_2,p0_3,p0_4,p0_5,p0_6,p0_7,rfl⟩:=arr8 s0
 obtain⟨p1_0,p1_1,p1_2,p1_3,p1_4,p1_5,p1_6,p1_7,rfl⟩:=arr8 s1
 obtain⟨p2_0,p2_1,p2_2,p2_3,p2_4,p2_5,p2_6,p2_7,rfl⟩:=arr8 s2
 obtain⟨p3_0,p3_1,p3_2,p3_3,p3_4,p3_5,p3_6,p3_7,rfl⟩:=arr8 s3
 obtain⟨p4_0,p4_1,p4_2,p4_3,p4_4,p4_5,p4_6,p4_7,rfl⟩:=arr8 s4
 have hb:=below_new W (.cells #[p0_0,p0_1,p0_2,p0_3,p0_4,p0_5,p0_6,p0_7,p1_0,p1_1,p1_2,p1_3,p1_4,p1_5,p1_6,p1_7,p2_0,p2_1,p2_2,p2_3,p2_4,p2_5,p2_6,p2_7,p3_0,p3_1,p3_2,p3_3,p3_4,p3_5,p3_6,p3_7,p4_0,p4_1,p4_2,p4_3,p4_4,p4_5,p4_6,p4_7] 35)
 refine⟨.slice (some ⟨W.heap.size,0,none⟩) 5 5,_,?_,hb,.inr ⟨_,0,5,_,rfl,Nat.le_refl _,by omega,heap_alloc_new _ _,Nat.le_refl _,fun i z hz=>?_⟩⟩
 ·clear h0 h1 h2 h3 h4 hb
  obtain⟨dd,op,ty,ps,af,gd⟩:=o
  subst ho
  go_simp
 ·match i,hz with
  |0,hz=>cases hz;exact Stab_Vv (BT:=[]) _ _ _ _ _ _ h0 (RI.of_below hb)
  |1,hz=>cases hz;exact Stab_Vv (BT:=[]) _ _ _ _ _ _ h1 (RI.of_below hb)
  |2,hz=>cases hz;exact Stab_Vv (BT:=[]) _ _ _ _ _ _ h2 (RI.of_below hb)
  |3,hz=>cases hz;exact Stab_Vv (BT:=[]) _ _ _ _ _ _ h3 (RI.of_below hb)
  |4,hz=>cases hz;exact Stab_Vv (BT:=[]) _ _ _ _ _ _ h4 (RI.of_below hb)
  |i+5,hz=>simp at hz
def sbP (a b:P2):P2:=(a.1 - b.1,a.2 - b.2)
def qtP (a:P2):P2:=(-a.2,a.1)
def dirs (a b c d:P2):List P2:=[qtP (sbP b a),qtP (sbP d c),sbP b a,sbP d c,sbP c a]
def meetsR (a b c d:P2):Bool:=decide (∀i∈List.range 5,btwB ((dirs a b c d).getD i (0,0)) a b c d=false)
theorem cBetweenM {w:World}{M N:Nat}{n a b c d:P2}{v0 v1 v2 v3 v4:Value}{x:Bool}(h0:Vv M n.1 n.2 v0 w)(h1:Vv N a.1 a.2 v1 w)(h2:Vv N b.1 b.2 v2 w)(h3:Vv N c.1 c.2 v3 w)(h4:Vv N d.1 d.2 v4 w)(hNM:N<=M)(hN3:3<=M)(hN:M<=900)(hx:btwB n a b c d=x):Calls Tryz.prog 83 #[v0,v1,v2,v3,v4] w (RV (Vb x) w):=by
 subst hx
 exact cR6Between h0 (Vv_le h1 hNM) (Vv_le h2 hNM) (Vv_le h3 hNM) (Vv_le h4 hNM) hN3 hN
theorem cR6Meets {w:World}{N:Nat}{a b c d:P2}{v0 v1 v2 v3:Value}(h0:Vv N (a.1) (a.2) v0 w)(h1:Vv N (b.1) (b.2) v1 w)(h2:Vv N (c.1) (c.2) v2 w)(h3:Vv N (d.1) (d.2) v3 w)(hN3:3<=N)(hN:N<=400):Calls Tryz.prog 33 #[v0,v1,v2,v3] w (RV (Vb (meetsR a b c d)) w):=by
 go_enter Tryz.func33,Tryz.ntmps33
 generalize hA:(⟨_,_⟩:Act)=a0
 have st0:St w.heap.size w 44 [] [(0,Vv N (a.1) (a.2)),(1,Vv N (b.1) (b.2)),(2,Vv N (c.1) (c.2)),(3,Vv N (d.1) (d.2))] a0 w:=by subst hA;exact St.begin rfl rfl (Lq.2 ⟨⟨_,rfl,h0⟩,(Lq.2 ⟨⟨_,rfl,h1⟩,(Lq.2 ⟨⟨_,rfl,h2⟩,(Lq.2 ⟨⟨_,rfl,h3⟩,(fun _ h=>absurd h (by simp))⟩)⟩)⟩)⟩)
 clear hA
 repeat first|apply Wq|apply Wb|apply Wk|apply Wx
 refine rH [(35,8,0)] [VT,VT,VT,VT,Vb (false)] [⟨4,some 0,some 0,35,8,Vv N (a.1) (a.2),VT⟩,⟨5,some 1,some 1,35,8,Vv N (b.1) (b.2),VT⟩,⟨6,some 2,some 2,35,8,Vv N (c.1) (c.2),VT⟩,⟨7,some 3,some 3,35,8,Vv N (d.1) (d.2),VT⟩] [(8,Vb (false))] st0 ⟨ks,ks,ks,ks,ks,trivial⟩ ?_
 intro a1 w1 st1
 clear st0
 repeat first|apply Wq|apply Wb|apply Wk|apply Wx
 refine rH [(35,8,0)] [Vv N (b.1) (b.2),Vv N (a.1) (a.2),Vv (N+N+1) ((b.1) - (a.1)) ((b.2) - (a.2)),VT,VT] [⟨4,none,none,35,8,Vv N (a.1) (a.2),VT⟩,⟨5,none,none,35,8,Vv N (b.1) (b.2),VT⟩,⟨6,none,none,35,8,Vv N (c.1) (c.2),VT⟩,⟨7,none,none,35,8,Vv N (d.1) (d.2),VT⟩,⟨9,some 3,some 4,35,8,Vv (N+N+1) ((b.1) - (a.1)) ((b.2) - (a.2)),VT⟩] [(8,Vb (false))] st1 ⟨ks,ks,(kd2 fun _ _ _ _ _ X0 _ X1=>cR5Sub X0 X1 (by omega) (by omega)),ks,ks,trivial⟩ ?_
 intro a2 w2 st2
 clear st1
 repeat first|apply Wq|apply Wb|apply Wk|apply Wx
 refine rH [(35,8,0)] [Vv N (d.1) (d.2),Vv N (c.1) (c.2),Vv (N+N+1) ((d.1) - (c.1)) ((d.2) - (c.2)),VT,VT] [⟨4,none,none,35,8,Vv N (a.1) (a.2),VT⟩,⟨5,none,none,35,8,Vv N (b.1) (b.2),VT⟩,⟨6,none,none,35,8,Vv N (c.1) (c.2),VT⟩,⟨7,none,none,35,8,Vv N (d.1) (d.2),VT⟩,⟨9,none,none,35,8,Vv (N+N+1) ((sbP b a).1) ((sbP b a).2),VT⟩,⟨10,some 3,some 4,35,8,Vv (N+N+1) ((d.1) - (c.1)) ((d.2) - (c.2)),VT⟩] [(8,Vb (false))] st2 ⟨ks,ks,(kd2 fun _ _ _ _ _ X0 _ X1=>cR5Sub X0 X1 (by omega) (by omega)),ks,ks,trivial⟩ ?_
 intro a3 w3 st3
 clear st2
 replace st3:St w.heap.size w 44 [⟨4,none,none,35,8,Vv N (a.1) (a.2),VT⟩,⟨5,none,none,35,8,Vv N (b.1) (b.2),VT⟩,⟨6,none,none,35,8,Vv N (c.1) (c.2),VT⟩,⟨7,none,none,35,8,Vv N (d.1) (d.2),VT⟩,⟨9,none,none,35,8,Vv (N+N+1) ((sbP b a).1) ((sbP b a).2),VT⟩,⟨10,none,none,35,8,Vv (N+N+1) ((sbP d c).1) ((sbP d c).2),VT⟩] [(8,Vb (false))] a3 w3:=st3
 repeat first|apply Wq|apply Wb|apply Wk|apply Wx
 refine rH [] [Vv (N+N+1) ((sbP b a).1) ((sbP b a).2),Vv (N+N+1) ((qtP ((sbP b a))).1) ((qtP ((sbP b a))).2),Vv (N+N+1) ((sbP d c).1) ((sbP d c).2),Vv (N+N+1) ((qtP ((sbP d c))).1) ((qtP ((sbP d c))).2),Vv (N+N+1) ((sbP b a).1) ((sbP b a).2),Vv (N+N+1) ((sbP d c).1) ((sbP d c).2),Vv N (c.1) (c.2),Vv N (a.1) (a.2),Vv (N+N+1) ((c.1) - (a.1)) ((c.2) - (a.2)),VSv (N+N+1) (dirs a b c d),VSv (N+N+1) (dirs a b c d)] [⟨4,none,none,35,8,Vv N (a.1) (a.2),VT⟩,⟨5,none,none,35,8,Vv N (b.1) (b.2),VT⟩,⟨6,none,none,35,8,Vv N (c.1) (c.2),VT⟩,⟨7,none,none,35,8,Vv N (d.1) (d.2),VT⟩,⟨9,none,none,35,8,Vv (N+N+1) ((sbP b a).1) ((sbP b a).2),VT⟩,⟨10,none,none,35,8,Vv (N+N+1) ((sbP d c).1) ((sbP d c).2),VT⟩] [(8,Vb (false)),(11,VSv (N+N+1) (dirs a b c d))] st3 ⟨ks,(kd1 fun _ _ _ _ _ X0=>cR6Turned X0 (by omega) (by omega)),ks,(kd1 fun _ _ _ _ _ X0=>cR6Turned X0 (by omega) (by omega)),ks,ks,ks,ks,(kd2 fun _ _ _ _ _ X0 _ X1=>cR5Sub X0 X1 (by omega) (by omega)),?s9,ks,trivial⟩ ?_
 case s9=>
  refine k_mem SbB.out (by kernel_rfl) fun _ A Y h D=>⟨trivial,?_⟩
  obtain⟨v0,x0,X0⟩:=h.dp D 20
  obtain⟨v1,x1,X1⟩:=h.dp D 22
  obtain⟨v2,x2,X2⟩:=h.dp D 23
  obtain⟨v3,x3,X3⟩:=h.dp D 24
  obtain⟨v4,x4,X4⟩:=h.dp D 27
  exact bslice_V5 (M:=N+N+1) (d0:=qtP (sbP b a)) (d1:=qtP (sbP d c)) (d2:=sbP b a) (d3:=sbP d c) (d4:=sbP c a) rfl x0 x1 x2 x3 x4 X0 X1 X2 X3 X4
 intro a4 w4 st4
 clear st3
 repeat first|apply Wq|apply Wb|apply Wk|apply Wx
 refine rH [] [Vi (0)] [⟨4,none,none,35,8,Vv N (a.1) (a.2),VT⟩,⟨5,none,none,35,8,Vv N (b.1) (b.2),VT⟩,⟨6,none,none,35,8,Vv N (c.1) (c.2),VT⟩,⟨7,none,none,35,8,Vv N (d.1) (d.2),VT⟩,⟨9,none,none,35,8,Vv (N+N+1) ((sbP b a).1) ((sbP b a).2),VT⟩,⟨10,none,none,35,8,Vv (N+N+1) ((sbP d c).1) ((sbP d c).2),VT⟩] [(8,Vb (false)),(11,VSv (N+N+1) (dirs a b c d)),(12,Vi (0))] st4 ⟨ks,trivial⟩ ?_
 intro a5 w5 st5
 clear st4
 replace st5:St w.heap.size w 44 [⟨4,none,none,35,8,Vv N (a.1) (a.2),VT⟩,⟨5,none,none,35,8,Vv N (b.1) (b.2),VT⟩,⟨6,none,none,35,8,Vv N (c.1) (c.2),VT⟩,⟨7,none,none,35,8,Vv N (d.1) (d.2),VT⟩] [(11,VSv (N+N+1) (dirs a b c d)),(12,Vi (((0:Nat):Int)))] a5 w5:=st5.cut
 repeat first|apply Wq|apply Wb|apply Wk|apply Wx
 refine wp_loop_ghost (fun m aX wX=>∃j:Nat,j+m=5/\(∀i<j,btwB ((dirs a b c d).getD i (0,0)) a b c d=false)/\St w.heap.size w 44 [⟨4,none,none,35,8,Vv N (a.1) (a.2),VT⟩,⟨5,none,none,35,8,Vv N (b.1) (b.2),VT⟩,⟨6,none,none,35,8,Vv N (c.1) (c.2),VT⟩,⟨7,none,none,35,8,Vv N (d.1) (d.2),VT⟩] [(11,VSv (N+N+1) (dirs a b c d)),(12,Vi (((j:Nat):Int)))] aX wX) 5 ⟨0,by omega,fun i hi=>absurd hi (by omega),st5⟩ ?_
 clear st5
 intro m aL wL ⟨j,hj,hpre,st5⟩
 by_cases hlt:j<5
 ·
  repeat first|apply Wq|apply Wb|apply Wk|apply Wx
  refine rH [] [Vi (((j:Nat):Int)),VSv (N+N+1) (dirs a b c d),Vi (((5:Nat):Int)),Vb (true)] [⟨4,none,none,35,8,Vv N (a.1) (a.2),VT⟩,⟨5,none,none,35,8,Vv N (b.1) (b.2),VT⟩,⟨6,none,none,35,8,Vv N (c.1) (c.2),VT⟩,⟨7,none,none,35,8,Vv N (d.1) (d.2),VT⟩] [(11,VSv (N+N+1) (dirs a b c d)),(12,Vi (((j:Nat):Int))),(32,Vb (true))] st5 ⟨ks,ks,(kr1 30 fun _ _ _ _ _ x0 X0=>len_SvC rfl rfl x0 X0),(by refine kr fun _ A Y h D=>?_;obtain⟨v0,x0,X0⟩:=h.dp D 29;have hV0':v0= .int .i64 (((j:Nat):Int)):=X0;obtain⟨v1,x1,X1⟩:=h.dp D 31;have hV1':v1= .int .i64 (((5:Nat):Int)):=X1;exact⟨_,run_lssi rfl (x0.trans hV0') (x1.trans hV1'),congrArg Value.bool (dT (by omega))⟩),trivial⟩ ?_
  intro a6 w6 st6
  clear st5
  repeat first|apply Wq|apply Wb|apply Wk|apply Wx
  refine cT st6 ?_
  have hgd:(dirs a b c d)[j]? =some ((dirs a b c d).getD j (0,0)):=by rw [List.getD_eq_getElem?_getD,List.getElem?_eq_getElem (by simp [dirs];omega)];rfl
  by_cases hbt:btwB ((dirs a b c d).getD j (0,0)) a b c d=true
  ·
   repeat first|apply Wq|apply Wb|apply Wk|apply Wx
   refine rH [] [VSv (N+N+1) (dirs a b c d),Vi (((j:Nat):Int)),VEp 35 8 (Vv (N+N+1) ((dirs a b c d).getD j (0,0)).1 ((dirs a b c d).getD j (0,0)).2),Vv (N+N+1) (((dirs a b c d).getD j (0,0)).1) (((dirs a b c d).getD j (0,0)).2),Vv N (a.1) (a.2),Vv N (b.1) (b.2),Vv N (c.1) (c.2),Vv N (d.1) (d.2),Vb (true)] [⟨4,none,none,35,8,Vv N (a.1) (a.2),VT⟩,⟨5,none,none,35,8,Vv N (b.1) (b.2),VT⟩,⟨6,none,none,35,8,Vv N (c.1) (c.2),VT⟩,⟨7,none,none,35,8,Vv N (d.1) (d.2),VT⟩] [(11,VSv (N+N+1) (dirs a b c d)),(12,Vi (((j:Nat):Int))),(43,Vb (true))] st6 ⟨ks,ks,(kr2 35 36 fun _ _ _ _ _ x0 X0 _ x1 X1=>index_SvC rfl x0 X0 x1 X1 hgd),(kr1 37 fun _ _ _ _ _ x0 X0=>load_EpW rfl x0 X0),ks,ks,ks,ks,(by refine kc fun _ A Y h D=>?_;obtain⟨v0,x0,X0⟩:=h.dp D 38;obtain⟨v1,x1,X1⟩:=h.dp D 39;obtain⟨v2,x2,X2⟩:=h.dp D 40;obtain⟨v3,x3,X3⟩:=h.dp D 41;obtain⟨v4,x4,X4⟩:=h.dp D 42;exact⟨#[v0,v1,v2,v3,v4],by simp [x0,x1,x2,x3,x4],cBetweenM X0 X1 X2 X3 X4 (by omega) (by omega) (by omega) hbt⟩),trivial⟩ ?_
   intro a7 w7 st7
   clear st6
   repeat first|apply Wq|apply Wb|apply Wk|apply Wx
   refine cT st7 ?_
   repeat first|apply Wq|apply Wb|apply Wk|apply Wx
   refine rH [] [Vb (false)] [⟨4,none,none,35,8,Vv N (a.1) (a.2),VT⟩,⟨5,none,none,35,8,Vv N (b.1) (b.2),VT⟩,⟨6,none,none,35,8,Vv N (c.1) (c.2),VT⟩,⟨7,none,none,35,8,Vv N (d.1) (d.2),VT⟩] [(11,VSv (N+N+1) (dirs a b c d)),(12,Vi (((j:Nat):Int))),(8,Vb (false))] st7 ⟨ks,trivial⟩ ?_
   intro a8 w8 st8
   clear st7
   repeat first|apply Wq|apply Wb|apply Wk|apply Wx
   exact wp_ret (rS 8 (Vb (false)) st8 fun vr r4=>(by rw [show meetsR a b c d=false from dF fun h=>by rw [h j (List.mem_range.2 hlt)] at hbt;cases hbt];exact r4))
  ·
   rw [Bool.not_eq_true] at hbt
   repeat first|apply Wq|apply Wb|apply Wk|apply Wx
   refine rH [] [VSv (N+N+1) (dirs a b c d),Vi (((j:Nat):Int)),VEp 35 8 (Vv (N+N+1) ((dirs a b c d).getD j (0,0)).1 ((dirs a b c d).getD j (0,0)).2),Vv (N+N+1) (((dirs a b c d).getD j (0,0)).1) (((dirs a b c d).getD j (0,0)).2),Vv N (a.1) (a.2),Vv N (b.1) (b.2),Vv N (c.1) (c.2),Vv N (d.1) (d.2),Vb (false)] [⟨4,none,none,35,8,Vv N (a.1) (a.2),VT⟩,⟨5,none,none,35,8,Vv N (b.1) (b.2),VT⟩,⟨6,none,none,35,8,Vv N (c.1) (c.2),VT⟩,⟨7,none,none,35,8,Vv N (d.1) (d.2),VT⟩] [(11,VSv (N+N+1) (dirs a b c d)),(12,Vi (((j:Nat):Int))),(43,Vb (false))] st6 ⟨ks,ks,(kr2 35 36 fun _ _ _ _ _ x0 X0 _ x1 X1=>index_SvC rfl x0 X0 x1 X1 hgd),(kr1 37 fun _ _ _ _ _ x0 X0=>load_EpW rfl x0 X0),ks,ks,ks,ks,(by refine kc fun _ A Y h D=>?_;obtain⟨v0,x0,X0⟩:=h.dp D 38;obtain⟨v1,x1,X1⟩:=h.dp D 39;obtain⟨v2,x2,X2⟩:=h.dp D 40;obtain⟨v3,x3,X3⟩:=h.dp D 41;obtain⟨v4,x4,X4⟩:=h.dp D 42;exact⟨#[v0,v1,v2,v3,v4],by simp [x0,x1,x2,x3,x4],cBetweenM X0 X1 X2 X3 X4 (by omega) (by omega) (by omega) hbt⟩),trivial⟩ ?_
   intro a7 w7 st7
   clear st6
   repeat first|apply Wq|apply Wb|apply Wk|apply Wx
   refine cF st7 ?_
   repeat first|apply Wq|apply Wb|apply Wk|apply Wx
   refine rH [] [Vi (((j:Nat):Int)),Vi (((j+1:Nat):Int)),Vi (((j+1:Nat):Int))] [⟨4,none,none,35,8,Vv N (a.1) (a.2),VT⟩,⟨5,none,none,35,8,Vv N (b.1) (b.2),VT⟩,⟨6,none,none,35,8,Vv N (c.1) (c.2),VT⟩,⟨7,none,none,35,8,Vv N (d.1) (d.2),VT⟩] [(11,VSv (N+N+1) (dirs a b c d)),(12,Vi (((j+1:Nat):Int)))] st7 ⟨?s0,(by refine kr fun _ A Y h D=>?_;obtain⟨v0,x0,X0⟩:=h.dp D 33;exact⟨_,run_addi rfl (x0.trans (show v0= .int .i64 ((j:Nat):Int)from X0)) rfl (wrap_id (by omega) (by omega)),congrArg (Value.int .i64) (by omega)⟩),ks,trivial⟩ ?_
   case s0=>
    refine k_run0 SbB.out (by kernel_rfl) fun listed A Y h D hnl=>⟨trivial,?_⟩
    obtain⟨v0,x0,X0⟩:=h.out0 hnl (12,Vi (((j:Nat):Int))) (.tail _ (.head _)) 2 (by kernel_rfl) (.inr (by kernel_rfl))
    exact⟨_,run_move rfl,by rw [x0];exact X0⟩
   intro a8 w8 st8
   clear st7
   replace st8:St w.heap.size w 44 [⟨4,none,none,35,8,Vv N (a.1) (a.2),VT⟩,⟨5,none,none,35,8,Vv N (b.1) (b.2),VT⟩,⟨6,none,none,35,8,Vv N (c.1) (c.2),VT⟩,⟨7,none,none,35,8,Vv N (d.1) (d.2),VT⟩] [(11,VSv (N+N+1) (dirs a b c d)),(12,Vi (((j+1:Nat):Int)))] a8 w8:=st8
   exact⟨m - 1,by omega,j+1,by omega,fun i hi=>(by rcases Nat.lt_or_ge i j with h|h;exact hpre i h;rw [show i=j by omega];exact hbt),st8.cut⟩
 ·
  repeat first|apply Wq|apply Wb|apply Wk|apply Wx
  refine rH [] [Vi (((j:Nat):Int)),VSv (N+N+1) (dirs a b c d),Vi (((5:Nat):Int)),Vb (false)] [⟨4,none,none,35,8,Vv N (a.1) (a.2),VT⟩,⟨5,none,none,35,8,Vv N (b.1) (b.2),VT⟩,⟨6,none,none,35,8,Vv N (c.1) (c.2),VT⟩,⟨7,none,none,35,8,Vv N (d.1) (d.2),VT⟩] [(11,VSv (N+N+1) (dirs a b c d)),(12,Vi (((j:Nat):Int))),(32,Vb (false))] st5 ⟨ks,ks,(kr1 30 fun _ _ _ _ _ x0 X0=>len_SvC rfl rfl x0 X0),(by refine kr fun _ A Y h D=>?_;obtain⟨v0,x0,X0⟩:=h.dp D 29;have hV0':v0= .int .i64 (((j:Nat):Int)):=X0;obtain⟨v1,x1,X1⟩:=h.dp D 31;have hV1':v1= .int .i64 (((5:Nat):Int)):=X1;exact⟨_,run_lssi rfl (x0.trans hV0') (x1.trans hV1'),congrArg Value.bool (dF (by omega))⟩),trivial⟩ ?_
  intro a6 w6 st6
  clear st5
  repeat first|apply Wq|apply Wb|apply Wk|apply Wx
  refine cF st6 ?_
  repeat first|apply Wq|apply Wb|apply Wk|apply Wx
  refine rH [] [Vb (true)] [⟨4,none,none,35,8,Vv N (a.1) (a.2),VT⟩,⟨5,none,none,35,8,Vv N (b.1) (b.2),VT⟩,⟨6,none,none,35,8,Vv N (c.1) (c.2),VT⟩,⟨7,none,none,35,8,Vv N (d.1) (d.2),VT⟩] [(11,VSv (N+N+1) (dirs a b c d)),(12,Vi (((j:Nat):Int))),(8,Vb (true))] st6 ⟨ks,trivial⟩ ?_
  intro a7 w7 st7
  clear st6
  repeat first|apply Wq|apply Wb|apply Wk|apply Wx
  exact wp_ret (rS 8 (Vb (true)) st7 fun vr r4=>(by rw [show meetsR a b c d=true from dT fun i hi=>hpre i (by have:=List.mem_range.1 hi;omega)];exact r4))


section
variable {BT:List (TypeId×Nat×Nat)}
theorem cR4ValidZ {w:World}{N:Nat}{x y:Int}{v0:Value}(h0:VP2 2 2 (Vz N (x)) (Vz N (y)) v0 w)(h3:3<=N)(hN:N<=100000):Calls Tryz.prog 61 #[v0] w (RV (Vb (decide (y=0∨(1<y/\Int.gcd x y=1)))) w):=by
 go_enter Tryz.func61,Tryz.ntmps61
 generalize hA:(⟨_,_⟩:Act)=a0
 have st0:St w.heap.size w 34 [] [(0,VP2 2 2 (Vz N (x)) (Vz N (y)))] a0 w:=by subst hA;exact St.begin rfl rfl (Lq.2 ⟨⟨_,rfl,h0⟩,(fun _ h=>absurd h (by simp))⟩)
 clear hA
 repeat first|apply Wq|apply Wb|apply Wk|apply Wx
 refine rH [] [VT,Vb (false)] [⟨1,some 0,some 0,33,4,VP2 2 2 (Vz N (x)) (Vz N (y)),VT⟩] [(2,Vb (false))] st0 ⟨ks,ks,trivial⟩ ?_
 intro a1 w1 st1
 clear st0
 by_cases hl:y<0
 ·
  repeat first|apply Wq|apply Wb|apply Wk|apply Wx
  refine rH [] [Vpt a1 1 0,Vz N (x),Vb (true),Vb (false),Vb (false),Vpt a1 1 2,Vz N (y),Vb (true),Vb (false),Vb (false),Vb (false),Vpt a1 1 2,Vpt a1 1 2,Vb (true),Vb (true),Vb (true),VT,VT,VT,Vb (true)] [⟨1,none,none,33,4,VP2 2 2 (Vz N (x)) (Vz N (y)),VT⟩] [(2,Vb (false)),(22,Vb (true))] st1 ⟨ks,ks,(kd1 fun _ _ _ _ _ X0=>cR3Valid X0 (by omega)),ks,ks,ks,ks,(kd1 fun _ _ _ _ _ X0=>cR3Valid X0 (by omega)),ks,ks,ks,ks,ks,(by exact k_cell (j:=12) (off:=2) SbB.out (by kernel_rfl) (.head _) rfl rfl rfl (by kernel_rfl) (by kernel_rfl) rfl (by kernel_rfl) (fun cs w h=>vzz_N2T h (hl)) Tryz.underlying4 rfl fun listed A Y h D=>⟨(by obtain⟨u,hu,hy,hU⟩:=h.dep D 10 13 (by kernel_rfl) (by kernel_rfl);obtain rfl:u= .bool false:=hU;exact hy),trivial⟩),ks,ks,ks,ks,ks,ks,trivial⟩ ?_
  intro a2 w2 st2
  clear st1
  repeat first|apply Wq|apply Wb|apply Wk|apply Wx
  refine cT st2 ?_
  repeat first|apply Wq|apply Wb|apply Wk|apply Wx
  refine rH [] [Vb (false)] [⟨1,none,none,33,4,VP2 2 2 (Vz N (x)) (Vz N (y)),VT⟩] [(22,Vb (true)),(2,Vb (false))] st2 ⟨ks,trivial⟩ ?_
  intro a3 w3 st3
  clear st2
  repeat first|apply Wq|apply Wb|apply Wk|apply Wx
  exact wp_ret (rS 2 (Vb (false)) st3 fun vr r4=>(by rw [dF (show ¬(y=0∨(1<y/\Int.gcd x y=1)) by omega)];exact r4))
 ·
  by_cases h1:y=1
  ·
   repeat first|apply Wq|apply Wb|apply Wk|apply Wx
   refine rH [] [Vpt a1 1 0,Vz N (x),Vb (true),Vb (false),Vb (false),Vpt a1 1 2,Vz N (y),Vb (true),Vb (false),Vb (false),Vb (false),Vpt a1 1 2,Vpt a1 1 2,Vb (false),Vb (false),Vb (false),Vpt a1 1 2,Vz N (y),Vb (true),Vb (true)] [⟨1,none,none,33,4,VP2 2 2 (Vz N (x)) (Vz N (y)),VT⟩] [(2,Vb (false)),(22,Vb (true))] st1 ⟨ks,ks,(kd1 fun _ _ _ _ _ X0=>cR3Valid X0 (by omega)),ks,ks,ks,ks,(kd1 fun _ _ _ _ _ X0=>cR3Valid X0 (by omega)),ks,ks,ks,ks,ks,(by exact k_cell (j:=12) (off:=2) SbB.out (by kernel_rfl) (.head _) rfl rfl rfl (by kernel_rfl) (by kernel_rfl) rfl (by kernel_rfl) (fun cs w h=>vzz_N2F h (hl)) Tryz.underlying4 rfl fun listed A Y h D=>⟨(by obtain⟨u,hu,hy,hU⟩:=h.dep D 10 13 (by kernel_rfl) (by kernel_rfl);obtain rfl:u= .bool false:=hU;exact hy),trivial⟩),ks,ks,ks,ks,(kd1 fun _ _ _ h _ X0=>(cR4One X0).mono fun e w h=>h.le fun v w hv=>hv.trans (congrArg Value.bool (dT (h1)))),ks,trivial⟩ ?_
   intro a2 w2 st2
   clear st1
   repeat first|apply Wq|apply Wb|apply Wk|apply Wx
   refine cT st2 ?_
   repeat first|apply Wq|apply Wb|apply Wk|apply Wx
   refine rH [] [Vb (false)] [⟨1,none,none,33,4,VP2 2 2 (Vz N (x)) (Vz N (y)),VT⟩] [(22,Vb (true)),(2,Vb (false))] st2 ⟨ks,trivial⟩ ?_
   intro a3 w3 st3
   clear st2
   repeat first|apply Wq|apply Wb|apply Wk|apply Wx
   exact wp_ret (rS 2 (Vb (false)) st3 fun vr r4=>(by rw [dF (show ¬(y=0∨(1<y/\Int.gcd x y=1)) by omega)];exact r4))
  ·
   repeat first|apply Wq|apply Wb|apply Wk|apply Wx
   refine rH [] [Vpt a1 1 0,Vz N (x),Vb (true),Vb (false),Vb (false),Vpt a1 1 2,Vz N (y),Vb (true),Vb (false),Vb (false),Vb (false),Vpt a1 1 2,Vpt a1 1 2,Vb (false),Vb (false),Vb (false),Vpt a1 1 2,Vz N (y),Vb (false),Vb (false)] [⟨1,none,none,33,4,VP2 2 2 (Vz N (x)) (Vz N (y)),VT⟩] [(2,Vb (false)),(22,Vb (false))] st1 ⟨ks,ks,(kd1 fun _ _ _ _ _ X0=>cR3Valid X0 (by omega)),ks,ks,ks,ks,(kd1 fun _ _ _ _ _ X0=>cR3Valid X0 (by omega)),ks,ks,ks,ks,ks,(by exact k_cell (j:=12) (off:=2) SbB.out (by kernel_rfl) (.head _) rfl rfl rfl (by kernel_rfl) (by kernel_rfl) rfl (by kernel_rfl) (fun cs w h=>vzz_N2F h (hl)) Tryz.underlying4 rfl fun listed A Y h D=>⟨(by obtain⟨u,hu,hy,hU⟩:=h.dep D 10 13 (by kernel_rfl) (by kernel_rfl);obtain rfl:u= .bool false:=hU;exact hy),trivial⟩),ks,ks,ks,ks,(kd1 fun _ _ _ h _ X0=>(cR4One X0).mono fun e w h=>h.le fun v w hv=>hv.trans (congrArg Value.bool (dF (h1)))),ks,trivial⟩ ?_
   intro a2 w2 st2
   clear st1
   repeat first|apply Wq|apply Wb|apply Wk|apply Wx
   refine cF st2 ?_
   by_cases hz:y=0
   ·
    repeat first|apply Wq|apply Wb|apply Wk|apply Wx
    refine rH [] [Vpt a2 1 2,Vpt a2 1 3,VD N (y),Vi (((digs (y).natAbs).length:Int)),Vb (true)] [⟨1,none,none,33,4,VP2 2 2 (Vz N (x)) (Vz N (y)),VT⟩] [(2,Vb (false)),(22,Vb (false)),(27,Vb (true))] st2 ⟨ks,ks,ks,(by refine kr fun _ A Y h D=>?_;obtain⟨v0,x0,X0⟩:=h.dp D 25;obtain⟨pp,nn,cc,rfl,hnn,-⟩:=X0;exact⟨_,run_len rfl rfl x0,by rw [hnn];rfl⟩),(by refine kr fun _ A Y h D=>?_;obtain⟨v0,x0,X0⟩:=h.dp D 26;have hV0':v0= .int .i64 (((digs (y).natAbs).length:Int)):=X0;exact⟨_,run_eqi rfl (x0.trans hV0') rfl,congrArg Value.bool (by rw [len_eq0];exact dT hz)⟩),trivial⟩ ?_
    intro a3 w3 st3
    clear st2
    repeat first|apply Wq|apply Wb|apply Wk|apply Wx
    refine cT st3 ?_
    repeat first|apply Wq|apply Wb|apply Wk|apply Wx
    refine rH [] [Vb (true)] [⟨1,none,none,33,4,VP2 2 2 (Vz N (x)) (Vz N (y)),VT⟩] [(22,Vb (false)),(27,Vb (true)),(2,Vb (true))] st3 ⟨ks,trivial⟩ ?_
    intro a4 w4 st4
    clear st3
    repeat first|apply Wq|apply Wb|apply Wk|apply Wx
    exact wp_ret (rS 2 (Vb (true)) st4 fun vr r4=>(by rw [dT (show y=0∨(1<y/\Int.gcd x y=1)from .inl hz)];exact r4))
   ·
    repeat first|apply Wq|apply Wb|apply Wk|apply Wx
    refine rH [] [Vpt a2 1 2,Vpt a2 1 3,VD N (y),Vi (((digs (y).natAbs).length:Int)),Vb (false)] [⟨1,none,none,33,4,VP2 2 2 (Vz N (x)) (Vz N (y)),VT⟩] [(2,Vb (false)),(22,Vb (false)),(27,Vb (false))] st2 ⟨ks,ks,ks,(by refine kr fun _ A Y h D=>?_;obtain⟨v0,x0,X0⟩:=h.dp D 25;obtain⟨pp,nn,cc,rfl,hnn,-⟩:=X0;exact⟨_,run_len rfl rfl x0,by rw [hnn];rfl⟩),(by refine kr fun _ A Y h D=>?_;obtain⟨v0,x0,X0⟩:=h.dp D 26;have hV0':v0= .int .i64 (((digs (y).natAbs).length:Int)):=X0;exact⟨_,run_eqi rfl (x0.trans hV0') rfl,congrArg Value.bool (by rw [len_eq0];exact dF hz)⟩),trivial⟩ ?_
    intro a3 w3 st3
    clear st2
    repeat first|apply Wq|apply Wb|apply Wk|apply Wx
    refine cF st3 ?_
    repeat first|apply Wq|apply Wb|apply Wk|apply Wx
    refine rH [] [Vpt a3 1 0,Vz N (x),Vpt a3 1 2,Vz N (y),Vz N ((Int.gcd (x) (y):Int)),Vb (decide (((Int.gcd (x) (y):Int))=1)),Vb (decide (((Int.gcd (x) (y):Int))=1))] [⟨1,none,none,33,4,VP2 2 2 (Vz N (x)) (Vz N (y)),VT⟩] [(22,Vb (false)),(27,Vb (false)),(2,Vb (decide (((Int.gcd (x) (y):Int))=1)))] st3 ⟨ks,ks,ks,ks,(kd2 fun _ _ _ _ _ X0 _ X1=>cRGcd X0 X1 (by omega) (by omega)),(kd1 fun _ _ _ _ _ X0=>cR4One X0),ks,trivial⟩ ?_
    intro a4 w4 st4
    clear st3
    repeat first|apply Wq|apply Wb|apply Wk|apply Wx
    exact wp_ret (rS 2 (Vb (decide (((Int.gcd (x) (y):Int))=1))) st4 fun vr r4=>(by rw [decide_eq_decide.2 (show(y=0∨(1<y/\Int.gcd x y=1))↔((Int.gcd x y:Int)=1) by omega)];exact r4))
theorem q_low {q:Rat}:qd q=0∨(1<qd q/\Int.gcd q.num (qd q)=1):=by
 by_cases h:q.den=1
 ·exact .inl (if_pos h)
 ·have:=q.den_pos
  exact .inr ⟨by rw [qd_of h];omega,by rw [qd_of h];exact q.reduced⟩
theorem cR4Valid {W:World}{N:Nat}{q:Rat}{v:Value}(h:Vq N q v W)(h3:3<=N)(hN:N<=100000):Calls Tryz.prog 61 #[v] W (RV (Vb true) W):=by
 have:=cR4ValidZ h h3 hN
 rw [dT q_low] at this
 exact this
end
section
variable {ρ:Operand->Value}{o:Oper}{w W:World}{x:Operand}{va:Value}{N:Nat}{a b:Rat}
theorem field_Ep0 (ho:o.op= .fieldAddr 35 x 0)(hx:ρ x=va)(h:VAt w (VEp 35 8 (Vv N a b)) va W):∃v,(execOp ρ o).run Tryz.prog W= .ok (.value v) W/\VAt w (VEp 35 4 (Vq N a)) v W:=by
 obtain⟨g,off,cs,rfl,e2,e3,e4⟩:=h
 refine⟨_,?_,g,off+0,cs,rfl,e2,by omega,?_⟩
 ·unfold execOp
  simp only [ho,hx,Sem.run_bind,field_Vec0,Sem.run_pure,Result.andThen_ok]
 ·have:=VP2_fst e4
  rw [show(4:Nat)=0+4 from rfl,ext_ext (by omega)] at this
  exact this
theorem field_Ep1 (ho:o.op= .fieldAddr 35 x 1)(hx:ρ x=va)(h:VAt w (VEp 35 8 (Vv N a b)) va W):∃v,(execOp ρ o).run Tryz.prog W= .ok (.value v) W/\VAt w (VEp 35 4 (Vq N b)) v W:=by
 obtain⟨g,off,cs,rfl,e2,e3,e4⟩:=h
 refine⟨_,?_,g,off+4,cs,rfl,e2,by omega,?_⟩
 ·unfold execOp
  simp only [ho,hx,Sem.run_bind,field_Vec1,Sem.run_pure,Result.andThen_ok]
 ·have:=VP2_snd e4
  rw [ext_ext (by omega)] at this
  exact this
theorem load_EpF (ho:o.op= .load 33 x)(hx:ρ x=va)(h:VAt w (VEp 35 4 (Vq N a)) va W)(hb:Below w.heap.size w W):∃v,(execOp ρ o).run Tryz.prog W= .ok (.value v) W/\Vq N a v W:=by
 obtain⟨g,off,cs,rfl,e2,e3,e4⟩:=h
 refine⟨_,?_,VAt_cur (Stab_Vq _ _) (show VAt w (Vq N a) _ W from e4) hb⟩
 have e5:=(hb.block _ (lt_blk e2)).trans e2
 unfold execOp
 simp only [ho,hx,Instr.loadAt,Instr.sureAddr,Sem.run_bind,Sem.run_pure,Result.andThen_ok,run_loadVar_part W g off 4 35 33 cs (0,0) _ e5 e3 Tryz.underlying33 rfl size_Rat]
end
def sumT (f:Nat->Rat)(j:Nat):Rat:=sumQ f (List.range j)
theorem sumT_succ (f:Nat->Rat)(j:Nat):sumT f (j+1)=sumT f j+f j:=by
 unfold sumT
 rw [List.range_succ,sumQ_snoc]
def trK (vs:List P2)(k:Nat):Rat:=((cv vs k).1 - (cv vs (k+1)).1)*((cv vs k).2+(cv vs (k+1)).2)
def areaR (vs:List P2):Rat:=sumT (trK vs) vs.length*Rat.divInt 1 2
theorem cR6Numbers {w:World}{N:Nat}{vs:List P2}{lv:Value}{v0:Value}(h0:VEq (lv) v0 w)(hS:VSv N vs lv w)(hN3:3<=N)(hN:N<=900):Calls Tryz.prog 20 #[v0] w (RV (Vb true) w):=by
 go_enter Tryz.func20,Tryz.ntmps20
 generalize hA:(⟨_,_⟩:Act)=a0
 have st0:St w.heap.size w 26 [] [(0,VEq (lv))] a0 w:=by subst hA;exact St.begin rfl rfl (Lq.2 ⟨⟨_,rfl,h0⟩,(fun _ h=>absurd h (by simp))⟩)
 clear hA
 have hmax:=VSv_max hS
 repeat first|apply Wq|apply Wb|apply Wk|apply Wx
 refine rH [] [Vb (false)] [] [(0,VEq (lv)),(2,Vb (false))] st0 ⟨ks,trivial⟩ ?_
 intro a1 w1 st1
 clear st0
 repeat first|apply Wq|apply Wb|apply Wk|apply Wx
 refine rH [] [Vi (0)] [] [(0,VEq (lv)),(2,Vb (false)),(3,Vi (0))] st1 ⟨ks,trivial⟩ ?_
 intro a2 w2 st2
 clear st1
 replace st2:St w.heap.size w 26 [] [(0,VEq (lv)),(3,Vi (((0:Nat):Int)))] a2 w2:=st2.cut
 repeat first|apply Wq|apply Wb|apply Wk|apply Wx
 refine wp_loop_ghost (fun m aX wX=>∃j:Nat,j+m=vs.length/\St w.heap.size w 26 [] [(0,VEq (lv)),(3,Vi (((j:Nat):Int)))] aX wX) vs.length ⟨0,by omega,st2⟩ ?_
 clear st2
 intro m aL wL ⟨j,hj,st2⟩
 by_cases hlt:j<vs.length
 ·
  repeat first|apply Wq|apply Wb|apply Wk|apply Wx
  refine rH [] [Vi (((j:Nat):Int)),VEq (lv),Vi ((vs.length:Int)),Vb (true)] [] [(0,VEq (lv)),(3,Vi (((j:Nat):Int))),(7,Vb (true))] st2 ⟨ks,ks,(kr1 5 fun _ _ _ _ _ x0 X0=>len_Sv rfl rfl x0 X0 hS),(by refine kr fun _ A Y h D=>?_;obtain⟨v0,x0,X0⟩:=h.dp D 4;have hV0':v0= .int .i64 (((j:Nat):Int)):=X0;obtain⟨v1,x1,X1⟩:=h.dp D 6;have hV1':v1= .int .i64 ((vs.length:Int)):=X1;exact⟨_,run_lssi rfl (x0.trans hV0') (x1.trans hV1'),congrArg Value.bool (dT (by omega))⟩),trivial⟩ ?_
  intro a3 w3 st3
  clear st2
  repeat first|apply Wq|apply Wb|apply Wk|apply Wx
  refine cT st3 ?_
  have hgd:vs[j]? =some (cv vs j):=by have:=cv_get (vs:=vs) j (by omega);rwa [Nat.mod_eq_of_lt hlt] at this
  repeat first|apply Wq|apply Wb|apply Wk|apply Wx
  refine rH [] [VEq (lv),Vi (((j:Nat):Int)),VAt w (VEp 35 8 (Vv N (cv vs j).1 (cv vs j).2)),VAt w (VEp 35 4 (Vq N ((cv vs j).1))),Vq N ((cv vs j).1),Vb (true),Vb (false),Vb (false),VEq (lv),Vi (((j:Nat):Int)),VAt w (VEp 35 8 (Vv N (cv vs j).1 (cv vs j).2)),VAt w (VEp 35 4 (Vq N ((cv vs j).2))),Vq N ((cv vs j).2),Vb (true),Vb (false),Vb (false)] [] [(0,VEq (lv)),(3,Vi (((j:Nat):Int))),(7,Vb (true)),(25,Vb (false))] st3 ⟨ks,ks,(kr2 10 11 fun _ _ _ _ _ x0 X0 _ x1 X1=>index_Sv rfl x0 X0 hS x1 X1 hgd),(kr1 12 fun _ _ _ _ _ x0 X0=>field_Ep0 rfl x0 X0),(kr1 13 fun _ _ _ h _ x0 X0=>load_EpF rfl x0 X0 h.k.below),(kd1 fun _ _ _ _ _ X0=>cR4Valid X0 (by omega) (by omega)),ks,ks,ks,ks,(kr2 18 19 fun _ _ _ _ _ x0 X0 _ x1 X1=>index_Sv rfl x0 X0 hS x1 X1 hgd),(kr1 20 fun _ _ _ _ _ x0 X0=>field_Ep1 rfl x0 X0),(kr1 21 fun _ _ _ h _ x0 X0=>load_EpF rfl x0 X0 h.k.below),(kd1 fun _ _ _ _ _ X0=>cR4Valid X0 (by omega) (by omega)),ks,ks,trivial⟩ ?_
  intro a4 w4 st4
  clear st3
  repeat first|apply Wq|apply Wb|apply Wk|apply Wx
  refine cF st4 ?_
  repeat first|apply Wq|apply Wb|apply Wk|apply Wx
  refine rH [] [Vi (((j:Nat):Int)),Vi (((j+1:Nat):Int)),Vi (((j+1:Nat):Int))] [] [(0,VEq (lv)),(7,Vb (true)),(25,Vb (false)),(3,Vi (((j+1:Nat):Int)))] st4 ⟨?s0,(by refine kr fun _ A Y h D=>?_;obtain⟨v0,x0,X0⟩:=h.dp D 8;exact⟨_,run_addi rfl (x0.trans (show v0= .int .i64 ((j:Nat):Int)from X0)) rfl (wrap_id (by omega) (by omega)),congrArg (Value.int .i64) (by omega)⟩),ks,trivial⟩ ?_
  case s0=>
   refine k_run0 SbB.out (by kernel_rfl) fun listed A Y h D hnl=>⟨trivial,?_⟩
   obtain⟨v0,x0,X0⟩:=h.out0 hnl (3,Vi (((j:Nat):Int))) (.tail _ (.head _)) 2 (by kernel_rfl) (.inr (by kernel_rfl))
   exact⟨_,run_move rfl,by rw [x0];exact X0⟩
  intro a5 w5 st5
  clear st4
  replace st5:St w.heap.size w 26 [] [(0,VEq (lv)),(7,Vb (true)),(25,Vb (false)),(3,Vi (((j+1:Nat):Int)))] a5 w5:=st5
  exact⟨m - 1,by omega,j+1,by omega,st5.cut⟩
 ·
  repeat first|apply Wq|apply Wb|apply Wk|apply Wx
  refine rH [] [Vi (((j:Nat):Int)),VEq (lv),Vi ((vs.length:Int)),Vb (false)] [] [(0,VEq (lv)),(3,Vi (((j:Nat):Int))),(7,Vb (false))] st2 ⟨ks,ks,(kr1 5 fun _ _ _ _ _ x0 X0=>len_Sv rfl rfl x0 X0 hS),(by refine kr fun _ A Y h D=>?_;obtain⟨v0,x0,X0⟩:=h.dp D 4;have hV0':v0= .int .i64 (((j:Nat):Int)):=X0;obtain⟨v1,x1,X1⟩:=h.dp D 6;have hV1':v1= .int .i64 ((vs.length:Int)):=X1;exact⟨_,run_lssi rfl (x0.trans hV0') (x1.trans hV1'),congrArg Value.bool (dF (by omega))⟩),trivial⟩ ?_
  intro a3 w3 st3
  clear st2
  repeat first|apply Wq|apply Wb|apply Wk|apply Wx
  refine cF st3 ?_
  repeat first|apply Wq|apply Wb|apply Wk|apply Wx
  refine rH [] [Vb (true)] [] [(0,VEq (lv)),(3,Vi (((j:Nat):Int))),(7,Vb (false)),(2,Vb (true))] st3 ⟨ks,trivial⟩ ?_
  intro a4 w4 st4
  clear st3
  repeat first|apply Wq|apply Wb|apply Wk|apply Wx
  exact wp_ret (rS 2 (Vb (true)) st4 fun vr r4=>r4)
theorem cR4AddN {w:World}{N M:Nat}{a b:Rat}{v0 v1:Value}(h0:Vq N (a) v0 w)(h1:Vq M (b) v1 w)(k1:3<=N)(k2:N<=100000)(k3:3<=M)(k4:M<=100000):Calls Tryz.prog 70 #[v0,v1] w (RV (Vq (N+M+1) (a+b)) w):=by
 go_enter Tryz.func70,Tryz.ntmps70
 generalize hA:(⟨_,_⟩:Act)=a0
 have st0:St w.heap.size w 26 [] [(0,Vq N (a)),(1,Vq M (b))] a0 w:=by subst hA;exact St.begin rfl rfl (Lq.2 ⟨⟨_,rfl,h0⟩,(Lq.2 ⟨⟨_,rfl,h1⟩,(fun _ h=>absurd h (by simp))⟩)⟩)
 clear hA
 repeat first|apply Wq|apply Wb|apply Wk|apply Wx
 refine rH [(31,2,0),(33,4,0)] [VT,VT,VT] [⟨2,some 0,some 0,33,4,Vq N (a),VT⟩,⟨3,some 1,some 1,33,4,Vq M (b),VT⟩,⟨4,some 2,none,33,4,VT,VT⟩] [] st0 ⟨ks,ks,ks,trivial⟩ ?_
 intro a1 w1 st1
 clear st0
 repeat first|apply Wq|apply Wb|apply Wk|apply Wx
 refine rH [(31,2,0),(33,4,0)] [Vpt a1 2 0,Vz N ((a).num),Vq M (b),Vz M (((b).den:Int)),Vz (N+M) (((a).num)*(((b).den:Int))),VT,VT] [⟨2,none,none,33,4,Vq N (a),VT⟩,⟨3,none,none,33,4,Vq M (b),VT⟩,⟨4,none,none,33,4,VT,VT⟩,⟨5,some 5,some 6,31,2,Vz (N+M) (((a).num)*(((b).den:Int))),VT⟩] [] st1 ⟨ks,ks,ks,(kd1 fun _ _ _ _ _ X0=>cR4Den X0 (by omega)),(kd2 fun _ _ _ _ _ X0 _ X1=>(cRMul X0 X1 (by omega) (by omega))),ks,ks,trivial⟩ ?_
 intro a2 w2 st2
 clear st1
 repeat first|apply Wq|apply Wb|apply Wk|apply Wx
 refine rH [(31,2,0),(33,4,0)] [Vpt a2 3 0,Vz M ((b).num),Vq N (a),Vz N (((a).den:Int)),Vz (M+N) (((b).num)*(((a).den:Int))),VT,VT] [⟨2,none,none,33,4,Vq N (a),VT⟩,⟨3,none,none,33,4,Vq M (b),VT⟩,⟨4,none,none,33,4,VT,VT⟩,⟨5,none,none,31,2,Vz (N+M) (((a).num)*(((b).den:Int))),VT⟩,⟨6,some 5,some 6,31,2,Vz (M+N) (((b).num)*(((a).den:Int))),VT⟩] [] st2 ⟨ks,ks,ks,(kd1 fun _ _ _ _ _ X0=>cR4Den X0 (by omega)),(kd2 fun _ _ _ _ _ X0 _ X1=>(cRMul X0 X1 (by omega) (by omega))),ks,ks,trivial⟩ ?_
 intro a3 w3 st3
 clear st2
 repeat first|apply Wq|apply Wb|apply Wk|apply Wx
 refine rH [(31,2,0),(33,4,0)] [Vz (N+M) (((a).num)*(((b).den:Int))),Vz (M+N) (((b).num)*(((a).den:Int))),Vz (max (N+M) (M+N)+1) ((((a).num)*(((b).den:Int)))+(((b).num)*(((a).den:Int)))),Vq N (a),Vz N (((a).den:Int)),Vq M (b),Vz M (((b).den:Int)),Vz (N+M) ((((a).den:Int))*(((b).den:Int))),Vq (max (max (N+M) (M+N)+1) (N+M)) (Rat.divInt ((((a).num)*(((b).den:Int)))+(((b).num)*(((a).den:Int)))) ((((a).den:Int))*(((b).den:Int)))),VT] [⟨2,none,none,33,4,Vq N (a),VT⟩,⟨3,none,none,33,4,Vq M (b),VT⟩,⟨4,none,some 9,33,4,Vq (max (max (N+M) (M+N)+1) (N+M)) (Rat.divInt ((((a).num)*(((b).den:Int)))+(((b).num)*(((a).den:Int)))) ((((a).den:Int))*(((b).den:Int)))),VT⟩,⟨5,none,none,31,2,Vz (N+M) (((a).num)*(((b).den:Int))),VT⟩,⟨6,none,none,31,2,Vz (M+N) (((b).num)*(((a).den:Int))),VT⟩] [] st3 ⟨ks,ks,(kd2 fun _ _ _ _ _ X0 _ X1=>(cRAdd X0 X1 (by omega) (by omega))),ks,(kd1 fun _ _ _ _ _ X0=>cR4Den X0 (by omega)),ks,(kd1 fun _ _ _ _ _ X0=>cR4Den X0 (by omega)),(kd2 fun _ _ _ _ _ X0 _ X1=>(cRMul X0 X1 (by omega) (by omega))),(kd2 fun _ _ _ _ _ X0 _ X1=>cR4Make (Vz_le (M:=(max (max (N+M) (M+N)+1) (N+M))) X0 (by omega)) (Vz_le (M:=(max (max (N+M) (M+N)+1) (N+M))) X1 (by omega)) (by omega) (by omega)),ks,trivial⟩ ?_
 intro a4 w4 st4
 clear st3
 repeat first|apply Wq|apply Wb|apply Wk|apply Wx
 exact wp_ret (rC 4 33 (Vq (max (max (N+M) (M+N)+1) (N+M)) (Rat.divInt ((((a).num)*(((b).den:Int)))+(((b).num)*(((a).den:Int)))) ((((a).den:Int))*(((b).den:Int))))) st4 fun cs r4=>(by rw [<-add_mk];exact Vq_le r4 (by omega)))
theorem cR4MulN {w:World}{N M:Nat}{a b:Rat}{v0 v1:Value}(h0:Vq N (a) v0 w)(h1:Vq M (b) v1 w)(k1:3<=N)(k2:N<=100000)(k3:3<=M)(k4:M<=100000):Calls Tryz.prog 71 #[v0,v1] w (RV (Vq (N+M) (a*b)) w):=by
 go_enter Tryz.func71,Tryz.ntmps71
 generalize hA:(⟨_,_⟩:Act)=a0
 have st0:St w.heap.size w 16 [] [(0,Vq N (a)),(1,Vq M (b))] a0 w:=by subst hA;exact St.begin rfl rfl (Lq.2 ⟨⟨_,rfl,h0⟩,(Lq.2 ⟨⟨_,rfl,h1⟩,(fun _ h=>absurd h (by simp))⟩)⟩)
 clear hA
 repeat first|apply Wq|apply Wb|apply Wk|apply Wx
 refine rH [(33,4,0)] [VT,VT,VT] [⟨2,some 0,some 0,33,4,Vq N (a),VT⟩,⟨3,some 1,some 1,33,4,Vq M (b),VT⟩,⟨4,some 2,none,33,4,VT,VT⟩] [] st0 ⟨ks,ks,ks,trivial⟩ ?_
 intro a1 w1 st1
 clear st0
 repeat first|apply Wq|apply Wb|apply Wk|apply Wx
 refine rH [(33,4,0)] [Vpt a1 2 0,Vz N ((a).num),Vpt a1 3 0,Vz M ((b).num),Vz (N+M) (((a).num)*((b).num)),Vq N (a),Vz N (((a).den:Int)),Vq M (b),Vz M (((b).den:Int)),Vz (N+M) ((((a).den:Int))*(((b).den:Int))),Vq (N+M) (Rat.divInt (((a).num)*((b).num)) ((((a).den:Int))*(((b).den:Int)))),VT] [⟨2,none,none,33,4,Vq N (a),VT⟩,⟨3,none,none,33,4,Vq M (b),VT⟩,⟨4,none,some 11,33,4,Vq (N+M) (Rat.divInt (((a).num)*((b).num)) ((((a).den:Int))*(((b).den:Int)))),VT⟩] [] st1 ⟨ks,ks,ks,ks,(kd2 fun _ _ _ _ _ X0 _ X1=>(cRMul X0 X1 (by omega) (by omega))),ks,(kd1 fun _ _ _ _ _ X0=>cR4Den X0 (by omega)),ks,(kd1 fun _ _ _ _ _ X0=>cR4Den X0 (by omega)),(kd2 fun _ _ _ _ _ X0 _ X1=>(cRMul X0 X1 (by omega) (by omega))),(kd2 fun _ _ _ _ _ X0 _ X1=>cR4Make X0 X1 (by omega) (by omega)),ks,trivial⟩ ?_
 intro a2 w2 st2
 clear st1
 repeat first|apply Wq|apply Wb|apply Wk|apply Wx
 exact wp_ret (rC 4 33 (Vq (N+M) (Rat.divInt (((a).num)*((b).num)) ((((a).den:Int))*(((b).den:Int))))) st2 fun cs r4=>(by rw [<-mul_mk];exact Vq_le r4 (by omega)))
end Go.Proofs.YtjdkdjobaabdiaaGreat
