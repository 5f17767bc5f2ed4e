/- Contracts of the packages integer, rat, plane, polygon and their references. -/
import Derived.Test.YtjdkdjobaabdiaaGreatM39
set_option linter.unusedVariables false
set_option maxRecDepth 100000
set_option maxHeartbeats 6400000
namespace Go.Proofs.YtjdkdjobaabdiaaGreat
open Go.RowKit
open Go
def VPc (x:Int):VP:=fun v w=>∃p,v= .pointer (some p)∧w.cell? p=some (.int .i64 x)
theorem Stab_VPc {BT:List (TypeId×Nat×Nat)}(x:Int):Stab BT (VPc x):=fun _ _ _ ⟨p,e1,e2⟩ hr=>⟨p,e1,hr.int _ _ e2⟩
instance {BT:List (TypeId×Nat×Nat)}(x:Int):Sb BT (VPc x):=⟨Stab_VPc x⟩
def ofE (l:List Int)(j:Nat):P2:=(Rat.divInt (iat l (2*j)) 1,Rat.divInt (iat l (2*j+1)) 1)
def ofL (l:List Int)(n:Nat):List P2:=(List.range n).map (ofE l)
section
variable {ρ:Operand→Value}{o:Oper}{W:World}{x y:Operand}{va vb:Value}
theorem index_VI {l:List Int}{j:Nat}(ho:o.op= .indexAddr 22 x y)(hx:ρ x=va)(h:VI l va W)(hy:ρ y=vb)(hb:Vi (j:Int) vb W)(hj:j<l.length):∃v,(execOp ρ o).run Tryz.prog W= .ok (.value v) W∧VPc (iat l j) v W:=by
 obtain⟨a,m,c,rfl,hR,rfl,-⟩:=h
 obtain⟨b,off,rfl,hc⟩:=Rdi_at hR j hj
 obtain rfl:vb=_:=hb
 refine⟨.pointer (some ⟨b,off+j,none⟩),?_,_,rfl,hc⟩
 have hj2:(j:Int)<(l.length:Int):=by omega
 clear hR hc
 generalize l.length=n at*
 obtain⟨dd,op,ty,ps,af,gd⟩:=o
 subst ho
 go_simp
theorem len_VI {l:List Int}(ho:o.op= .call {callee:= .builtin .len,args:=#[x],argTypes:=#[22]})(hty:o.type=3)(hx:ρ x=va)(h:VI l va W):∃v,(execOp ρ o).run Tryz.prog W= .ok (.value v) W∧Vi (l.length:Int) v W:=by
 obtain⟨a,m,c,rfl,hR,rfl,-⟩:=h
 refine⟨.int .i64 (l.length:Int),?_,rfl⟩
 clear hR
 generalize l.length=n at*
 obtain⟨dd,op,ty,ps,af,gd⟩:=o
 subst ho
 simp only at hty
 subst hty
 go_simp
theorem load_Pc {u:Int}(ho:o.op= .load 3 x)(hx:ρ x=va)(h:VPc u va W):∃v,(execOp ρ o).run Tryz.prog W= .ok (.value v) W∧Vi u v W:=by
 obtain⟨p,rfl,hcell⟩:=h
 have hagg:(isAgg 3).run Tryz.prog W= .ok false W:=by
  unfold isAgg
  rw [Sem.run_bind,run_underlying Tryz.underlying3 W]
  rfl
 refine⟨_,?_,rfl⟩
 unfold execOp
 simp only [ho,hx,Instr.loadAt,Instr.sureAddr,Sem.run_bind,Sem.run_pure,Result.andThen_ok,loadVar,hagg]
 simp only [Bool.false_eq_true,if_false,run_load,hcell,Result.andThen_ok]
theorem bslice_V1 {M:Nat}{d:P2}(ho:o.op= .buildSlice 23 1 #[(0,x)])(hx:ρ x=va)(h:Vv M d.1 d.2 va W):∃v w',(execOp ρ o).run Tryz.prog W= .ok (.value v) w'∧Below W.heap.size W w'∧VOs 35 8 (EV M) [d] v w':=by
 obtain⟨c0,rfl,s0,-⟩:=AggV_Vv _ _ _ _ _ h
 obtain⟨p0,p1,p2,p3,p4,p5,p6,p7,rfl⟩:=arr8 s0
 have hb:=below_new W (.cells #[p0,p1,p2,p3,p4,p5,p6,p7] 35)
 refine⟨.slice (some ⟨W.heap.size,0,none⟩) 1 1,_,?_,hb,_,_,rfl,heap_alloc_new _ _,rfl,_,rfl,fun i z hz=>?_⟩
 ·clear h hb
  obtain⟨dd,op,ty,ps,af,gd⟩:=o
  subst ho
  go_simp
 ·match i,hz with
  |0,hz=>cases hz;exact Stab_Vv (BT:=[]) _ _ _ _ _ _ h (RI.of_below hb)
  |i+1,hz=>simp at hz
end
theorem cOf6 {w:World}{l:List Int}{n:Nat}{v0:Value}(h0:VI l v0 w)(hl:l.length=2*n)(hn0:0<n)(hn:n≤1000)(hl64:i64s l):Calls Tryz.prog 60 #[v0] w (RV (VSv 3 (ofL l n)) w):=by
 go_enter Tryz.func60,Tryz.ntmps60
 have st0:St w.heap.size w 26 [] [(0,VI l)] _ w:=St.begin (a:=⟨#[v0,undef,undef,undef,undef,undef,undef,undef,undef,undef,undef,undef,undef,undef,undef,undef,undef,undef,undef,undef,undef,undef,undef,undef,undef,undef],[]⟩) rfl rfl (Lq.2 ⟨⟨_,rfl,h0⟩,(fun _ h=>absurd h (by simp))⟩)
 generalize(⟨_,_⟩:Act)=a0 at st0 ⊢
 repeat first|refine Wq ?_|refine Wb ?_|refine Wk ?_|refine Wx ?_
 refine rg (BT:=[]) (Vl:=[VEq (.slice none 0 0)]) (B:=[]) (SL':=[(0,VI l),(2,VEq (.slice none 0 0))]) st0 ⟨ks,trivial⟩ ?_
 intro a1 w1 st1
 clear st0
 repeat first|refine Wq ?_|refine Wb ?_|refine Wk ?_|refine Wx ?_
 refine rg (BT:=[]) (Vl:=[VEq (.slice none 0 0)]) (B:=[]) (SL':=[(0,VI l),(2,VEq (.slice none 0 0)),(3,VEq (.slice none 0 0))]) st1 ⟨ks,trivial⟩ ?_
 intro a2 w2 st2
 clear st1
 repeat first|refine Wq ?_|refine Wb ?_|refine Wk ?_|refine Wx ?_
 refine rg (BT:=[]) (Vl:=[Vi (0)]) (B:=[]) (SL':=[(0,VI l),(2,VEq (.slice none 0 0)),(3,VEq (.slice none 0 0)),(4,Vi (0))]) st2 ⟨ks,trivial⟩ ?_
 intro a3 w3 st3
 clear st2
 replace st3:St w.heap.size w 26 [] [(0,VI l),(2,VEq (.slice none 0 0)),(3,VEq (.slice none 0 0)),(4,Vi (0))] a3 w3:=st3
 obtain⟨vR,heR,hvR⟩:=st3.sl (3,VEq (.slice none 0 0)) (lS_mem rfl)
 replace st3:=st3.reT 3 (VRg 35 8 (EV 3) none 0 0 ([])) heR ⟨by simp,by omega,.inl ⟨rfl,hvR⟩⟩
 replace st3:St w.heap.size w 26 [] [(0,VI l),(3,VRg 35 8 (EV 3) none 0 0 ([])),(4,Vi (((2*0:Nat):Int)))] a3 w3:=st3.cut
 clear heR hvR
 repeat first|refine Wq ?_|refine Wb ?_|refine Wk ?_|refine Wx ?_
 refine wp_loop_ghost (fun m aX wX=>∃(j g c:Nat) (us:List P2),j+m=n∧us=ofL l j∧us.length=j∧(c=0∨w.heap.size≤g∧0<us.length)∧St w.heap.size w 26 [] [(0,VI l),(3,VRg 35 8 (EV 3) none g c (us)),(4,Vi (((2*j:Nat):Int)))] aX wX) n ⟨0,0,0,[],by omega,rfl,rfl,.inl rfl,st3⟩ ?_
 clear st3
 intro m aL wL ⟨j,g,c,us,hj,hus,hul,hxc,st3⟩
 by_cases hlt:j<n
 ·
  repeat first|refine Wq ?_|refine Wb ?_|refine Wk ?_|refine Wx ?_
  have:Sb [] (VRg 35 8 (EV 3) none g c (us)):=⟨Stab_VRg (fun x=>Stab_Vv _ _ _) (by decide) (by first|(refine Or.inl ?_;simp;done)|(refine Or.inr ?_;simp;done))⟩
  refine rg (BT:=[]) (Vl:=[Vi (((2*j:Nat):Int)),Vi (((2*j+1:Nat):Int)),VI l,Vi ((l.length:Int)),Vb (true)]) (B:=[]) (SL':=[(0,VI l),(3,VRg 35 8 (EV 3) none g c (us)),(4,Vi (((2*j:Nat):Int))),(9,Vb (true))]) st3 ⟨ks,?s1,ks,?s3,?s4,trivial⟩ ?_
  case s1=>
   refine kr fun _ A Y h D=>?_
   obtain⟨v0,x0,X0⟩:=h.dp D 5
   exact⟨_,run_addi rfl (x0.trans (show v0= .int .i64 ((2*j:Nat):Int)from X0)) rfl (wrap_id (by omega) (by omega)),congrArg (Value.int .i64) (by omega)⟩
  case s3=>refine kr fun _ A Y h D=>?_;obtain⟨v0,x0,X0⟩:=h.dp D 7;exact len_VI rfl rfl x0 X0
  case s4=>
   refine kr fun _ A Y h D=>?_
   obtain⟨v0,x0,X0⟩:=h.dp D 6
   have hV0':v0= .int .i64 (((2*j+1:Nat):Int)):=X0
   obtain⟨v1,x1,X1⟩:=h.dp D 8
   have hV1':v1= .int .i64 ((l.length:Int)):=X1
   exact⟨_,run_lssi rfl (x0.trans hV0') (x1.trans hV1'),congrArg Value.bool (dT (by omega))⟩
  intro a4 w4 st4
  clear st3
  repeat first|refine Wq ?_|refine Wb ?_|refine Wk ?_|refine Wx ?_
  obtain⟨vc,hc1,hc2⟩:=st4.slot (9,Vb (true)) (.tail _ (.tail _ (.tail _ (.head _))))
  refine wp_cond_true (hc1.trans hc2) ?_
  clear hc1 hc2
  have hb0:=hl64 (2*j) (by omega)
  have hb1:=hl64 (2*j+1) (by omega)
  by_cases hrm:(us).length+([ofE l j]).length≤c
  ·
   replace st4:St w.heap.size w 26 [] [(0,VI l),(3,VRg 35 8 (EV 3) none g c (us)),(4,Vi (((2*j:Nat):Int))),(9,Vb (true))] a4 w4:=st4
   obtain⟨vR,heR,hlR,hcmR,(⟨h0,-⟩|⟨h0,hvR,hrow⟩)⟩:=st4.sl (3,VRg 35 8 (EV 3) none g c (us)) (lS_mem rfl)
   ·simp only [List.length_cons,List.length_nil] at hrm;omega
   have h2c:2≤c:=by simp only [List.length_cons,List.length_nil] at hrm;omega
   have hgn:w.heap.size≤g:=by omega
   replace st4:=st4.reT 3 (VEq (.slice (some ⟨g,0,none⟩) (us).length c)) heR hvR
   replace st4:St w.heap.size w 26 [] [(0,VI l),(3,VEq (.slice (some ⟨g,0,none⟩) (us).length c)),(4,Vi (((2*j:Nat):Int))),(9,Vb (true))] a4 w4:=st4.cut
   clear heR hvR hlR
   repeat first|refine Wq ?_|refine Wb ?_|refine Wk ?_|refine Wx ?_
   have:Sb ((35,8*c,0):: []) (VOs 35 8 (EV 3) ([ofE l j])):=⟨Stab_VOs (fun x=>Stab_Vv _ _ _) (by first|(simp;done)|(simp;omega))⟩
   refine rgR (BT:=[]) (Vl:=[VEq (.slice (some ⟨g,0,none⟩) (us).length c),VI l,Vi (((2*j:Nat):Int)),VPc (iat l (2*j)),Vi (iat l (2*j)),VI l,Vi (((2*j:Nat):Int)),Vi (((2*j+1:Nat):Int)),VPc (iat l (2*j+1)),Vi (iat l (2*j+1)),Vv 3 (Rat.divInt (iat l (2*j)) 1) (Rat.divInt (iat l (2*j+1)) 1),VOs 35 8 (EV 3) ([ofE l j]),VEq (.slice (some ⟨g,0,none⟩) ((us).length+([ofE l j]).length) c),VEq (.slice (some ⟨g,0,none⟩) ((us).length+([ofE l j]).length) c)]) (B:=[]) (SL':=[(0,VI l),(4,Vi (((2*j:Nat):Int))),(9,Vb (true)),(3,VEq (.slice (some ⟨g,0,none⟩) ((us).length+([ofE l j]).length) c))]) ⟨g,12,35,8*c,VEl 8 (EV 3) (us++ [ofE l j]),VEl 8 (EV 3) (us)⟩ st4 hrow ⟨fun _=>?s0,fun _=>ks,fun _=>ks,fun _=>?s3,fun _=>?s4,fun _=>ks,fun _=>ks,fun _=>?s7,fun _=>?s8,fun _=>?s9,fun _=>?s10,fun _=>?s11,fun hne=>absurd rfl hne,fun _=>ks,trivial⟩ ?r12 ?_ (by kernel_rfl) (Nat.le_of_ble_eq_true rfl) (hm0:=(by show 8*c≠0;omega))
   case s0=>
    refine k_run0 SbB.out (by kernel_rfl) fun listed A Y h D hnl=>⟨trivial,?_⟩
    obtain⟨v0,x0,X0⟩:=h.out0 hnl (3,VEq (.slice (some ⟨g,0,none⟩) (us).length c)) (.tail _ (.head _)) 13 (by kernel_rfl) (.inr (by kernel_rfl))
    exact⟨_,run_move rfl,by rw [x0];exact X0⟩
   case s3=>refine kr fun _ A Y h D=>?_;obtain⟨v0,x0,X0⟩:=h.dp D 13;obtain⟨v1,x1,X1⟩:=h.dp D 14;exact index_VI rfl x0 X0 x1 X1 (by omega)
   case s4=>refine kr fun _ A Y h D=>?_;obtain⟨v0,x0,X0⟩:=h.dp D 15;exact load_Pc rfl x0 X0
   case s7=>
    refine kr fun _ A Y h D=>?_
    obtain⟨v0,x0,X0⟩:=h.dp D 18
    exact⟨_,run_addi rfl (x0.trans (show v0= .int .i64 ((2*j:Nat):Int)from X0)) rfl (wrap_id (by omega) (by omega)),congrArg (Value.int .i64) (by omega)⟩
   case s8=>refine kr fun _ A Y h D=>?_;obtain⟨v0,x0,X0⟩:=h.dp D 17;obtain⟨v1,x1,X1⟩:=h.dp D 19;exact index_VI rfl x0 X0 x1 X1 (by omega)
   case s9=>refine kr fun _ A Y h D=>?_;obtain⟨v0,x0,X0⟩:=h.dp D 20;exact load_Pc rfl x0 X0
   case s10=>exact kd2 fun _ _ _ _ _ X0 _ X1=>cR5Of X0 X1 (by omega) (by omega) (by omega) (by omega)
   case s11=>refine km fun _ A Y h D=>?_;obtain⟨v0,x0,X0⟩:=h.dp D 22;exact bslice_V1 rfl x0 X0
   case r12=>intro o ho;obtain rfl:=Option.some.inj ho.symm;exact k_appM (k:=8) (E:=EV 3) (zs:=[ofE l j]) rfl rfl (.inl ⟨by kernel_rfl,rfl,rfl⟩) (.inl ⟨by kernel_rfl,rfl,rfl⟩) (fun _ _ _ h=>VOs_sc h) rfl hrm h2c hgn (by kernel_rfl) (by kernel_rfl) (fun x BT=>Stab_Vv _ _ _) (by simp) trivial
   clear hrow
   intro a5 w5 st5 hrow
   clear st4
   replace st5:St w.heap.size w 26 [] [(0,VI l),(4,Vi (((2*j:Nat):Int))),(9,Vb (true)),(3,VEq (.slice (some ⟨g,0,none⟩) ((us).length+([ofE l j]).length) c))] a5 w5:=st5
   obtain⟨vR,heR,hvR⟩:=st5.sl (3,VEq (.slice (some ⟨g,0,none⟩) ((us).length+([ofE l j]).length) c)) (lS_mem rfl)
   replace st5:=st5.reT 3 (VRg 35 8 (EV 3) none g c (us++ [ofE l j])) heR (by obtain rfl:vR=_:=hvR;exact VRg_in (by rw [List.length_append];exact hrm) h0 hcmR hrow)
   replace st5:St w.heap.size w 26 [] [(0,VI l),(4,Vi (((2*j:Nat):Int))),(9,Vb (true)),(3,VRg 35 8 (EV 3) none g c (us++ [ofE l j]))] a5 w5:=st5.cut
   clear heR hvR hrow hcmR h0
   repeat first|refine Wq ?_|refine Wb ?_|refine Wk ?_|refine Wx ?_
   have:Sb [] (VRg 35 8 (EV 3) none g c (us++ [ofE l j])):=⟨Stab_VRg (fun x=>Stab_Vv _ _ _) (by decide) (by first|(refine Or.inl ?_;simp;done)|(refine Or.inr ?_;simp;done))⟩
   refine rg (BT:=[]) (Vl:=[Vi (((2*j:Nat):Int)),Vi (((2*(j+1):Nat):Int)),Vi (((2*(j+1):Nat):Int))]) (B:=[]) (SL':=[(0,VI l),(9,Vb (true)),(3,VRg 35 8 (EV 3) none g c (us++ [ofE l j])),(4,Vi (((2*(j+1):Nat):Int)))]) st5 ⟨?s0,?s1,ks,trivial⟩ ?_
   case s0=>
    refine k_run0 SbB.out (by kernel_rfl) fun listed A Y h D hnl=>⟨trivial,?_⟩
    obtain⟨v0,x0,X0⟩:=h.out0 hnl (4,Vi (((2*j:Nat):Int))) (.tail _ (.head _)) 2 (by kernel_rfl) (.inr (by kernel_rfl))
    exact⟨_,run_move rfl,by rw [x0];exact X0⟩
   case s1=>
    refine kr fun _ A Y h D=>?_
    obtain⟨v0,x0,X0⟩:=h.dp D 10
    exact⟨_,run_addi rfl (x0.trans (show v0= .int .i64 ((2*j:Nat):Int)from X0)) rfl (wrap_id (by omega) (by omega)),congrArg (Value.int .i64) (by omega)⟩
   intro a6 w6 st6
   clear st5
   replace st6:St w.heap.size w 26 [] [(0,VI l),(9,Vb (true)),(3,VRg 35 8 (EV 3) none g c (us++ [ofE l j])),(4,Vi (((2*(j+1):Nat):Int)))] a6 w6:=st6
   exact⟨m - 1,by omega,j+1,g,c,us++ [ofE l j],by omega,by rw [hus];unfold ofL;rw [List.range_succ,List.map_append];rfl,by rw [List.length_append,hul];rfl,.inr ⟨by omega,by rw [List.length_append,List.length_singleton];omega⟩,st6.cut⟩
  ·
   repeat first|refine Wq ?_|refine Wb ?_|refine Wk ?_|refine Wx ?_
   have:Sb [] (VRg 35 8 (EV 3) none g c (us)):=⟨Stab_VRg (fun x=>Stab_Vv _ _ _) (by decide) (by first|(refine Or.inl ?_;simp;done)|(refine Or.inr ?_;simp;done))⟩
   have:Sb [] (VOs 35 8 (EV 3) ([ofE l j])):=⟨Stab_VOs (fun x=>Stab_Vv _ _ _) (by first|(simp;done)|(simp;omega))⟩
   have:Sb [] (VRx 35 8 (EV 3) w.heap.size (us++ [ofE l j])):=⟨Stab_VRx (fun x=>Stab_Vv _ _ _) (by decide) (by simp)⟩
   refine rg (BT:=[]) (Vl:=[VRg 35 8 (EV 3) none g c (us),VI l,Vi (((2*j:Nat):Int)),VPc (iat l (2*j)),Vi (iat l (2*j)),VI l,Vi (((2*j:Nat):Int)),Vi (((2*j+1:Nat):Int)),VPc (iat l (2*j+1)),Vi (iat l (2*j+1)),Vv 3 (Rat.divInt (iat l (2*j)) 1) (Rat.divInt (iat l (2*j+1)) 1),VOs 35 8 (EV 3) ([ofE l j]),VRx 35 8 (EV 3) w.heap.size (us++ [ofE l j]),VRx 35 8 (EV 3) w.heap.size (us++ [ofE l j])]) (B:=[]) (SL':=[(0,VI l),(4,Vi (((2*j:Nat):Int))),(9,Vb (true)),(3,VRx 35 8 (EV 3) w.heap.size (us++ [ofE l j]))]) st4 ⟨?s0,ks,ks,?s3,?s4,ks,ks,?s7,?s8,?s9,?s10,?s11,?s12,ks,trivial⟩ ?_
   case s0=>
    refine k_run0 SbB.out (by kernel_rfl) fun listed A Y h D hnl=>⟨trivial,?_⟩
    obtain⟨v0,x0,X0⟩:=h.out0 hnl (3,VRg 35 8 (EV 3) none g c (us)) (.tail _ (.head _)) 13 (by kernel_rfl) (.inr (by kernel_rfl))
    exact⟨_,run_move rfl,by rw [x0];exact X0⟩
   case s3=>refine kr fun _ A Y h D=>?_;obtain⟨v0,x0,X0⟩:=h.dp D 13;obtain⟨v1,x1,X1⟩:=h.dp D 14;exact index_VI rfl x0 X0 x1 X1 (by omega)
   case s4=>refine kr fun _ A Y h D=>?_;obtain⟨v0,x0,X0⟩:=h.dp D 15;exact load_Pc rfl x0 X0
   case s7=>
    refine kr fun _ A Y h D=>?_
    obtain⟨v0,x0,X0⟩:=h.dp D 18
    exact⟨_,run_addi rfl (x0.trans (show v0= .int .i64 ((2*j:Nat):Int)from X0)) rfl (wrap_id (by omega) (by omega)),congrArg (Value.int .i64) (by omega)⟩
   case s8=>refine kr fun _ A Y h D=>?_;obtain⟨v0,x0,X0⟩:=h.dp D 17;obtain⟨v1,x1,X1⟩:=h.dp D 19;exact index_VI rfl x0 X0 x1 X1 (by omega)
   case s9=>refine kr fun _ A Y h D=>?_;obtain⟨v0,x0,X0⟩:=h.dp D 20;exact load_Pc rfl x0 X0
   case s10=>exact kd2 fun _ _ _ _ _ X0 _ X1=>cR5Of X0 X1 (by omega) (by omega) (by omega) (by omega)
   case s11=>refine km fun _ A Y h D=>?_;obtain⟨v0,x0,X0⟩:=h.dp D 22;exact bslice_V1 rfl x0 X0
   case s12=>
    refine km fun _ A Y h D=>?_
    obtain⟨v0,x0,X0⟩:=h.dp D 12
    obtain⟨v1,x1,X1⟩:=h.dp D 23
    exact app_growM rfl x0 X0 x1 (VOs_sc X1) (fun x=>Stab_Vv _ _ _) (by omega) h.n (by simp only [List.length_cons,List.length_nil];omega)
   intro a5 w5 st5
   clear st4
   replace st5:St w.heap.size w 26 [] [(0,VI l),(4,Vi (((2*j:Nat):Int))),(9,Vb (true)),(3,VRx 35 8 (EV 3) w.heap.size (us++ [ofE l j]))] a5 w5:=st5
   obtain⟨g2,c2,hg2,hc2,st5⟩:=st5.nameR 3 rfl
   replace st5:St w.heap.size w 26 [] [(0,VI l),(4,Vi (((2*j:Nat):Int))),(9,Vb (true)),(3,VRg 35 8 (EV 3) none g2 c2 (us++ [ofE l j]))] a5 w5:=st5.cut
   repeat first|refine Wq ?_|refine Wb ?_|refine Wk ?_|refine Wx ?_
   have:Sb [] (VRg 35 8 (EV 3) none g2 c2 (us++ [ofE l j])):=⟨Stab_VRg (fun x=>Stab_Vv _ _ _) (by decide) (by first|(refine Or.inl ?_;simp;done)|(refine Or.inr ?_;simp;done))⟩
   refine rg (BT:=[]) (Vl:=[Vi (((2*j:Nat):Int)),Vi (((2*(j+1):Nat):Int)),Vi (((2*(j+1):Nat):Int))]) (B:=[]) (SL':=[(0,VI l),(9,Vb (true)),(3,VRg 35 8 (EV 3) none g2 c2 (us++ [ofE l j])),(4,Vi (((2*(j+1):Nat):Int)))]) st5 ⟨?s0,?s1,ks,trivial⟩ ?_
   case s0=>
    refine k_run0 SbB.out (by kernel_rfl) fun listed A Y h D hnl=>⟨trivial,?_⟩
    obtain⟨v0,x0,X0⟩:=h.out0 hnl (4,Vi (((2*j:Nat):Int))) (.tail _ (.head _)) 2 (by kernel_rfl) (.inr (by kernel_rfl))
    exact⟨_,run_move rfl,by rw [x0];exact X0⟩
   case s1=>
    refine kr fun _ A Y h D=>?_
    obtain⟨v0,x0,X0⟩:=h.dp D 10
    exact⟨_,run_addi rfl (x0.trans (show v0= .int .i64 ((2*j:Nat):Int)from X0)) rfl (wrap_id (by omega) (by omega)),congrArg (Value.int .i64) (by omega)⟩
   intro a6 w6 st6
   clear st5
   replace st6:St w.heap.size w 26 [] [(0,VI l),(9,Vb (true)),(3,VRg 35 8 (EV 3) none g2 c2 (us++ [ofE l j])),(4,Vi (((2*(j+1):Nat):Int)))] a6 w6:=st6
   exact⟨m - 1,by omega,j+1,g2,c2,us++ [ofE l j],by omega,by rw [hus];unfold ofL;rw [List.range_succ,List.map_append];rfl,by rw [List.length_append,hul];rfl,.inr ⟨by omega,by rw [List.length_append,List.length_singleton];omega⟩,st6.cut⟩
 ·
  repeat first|refine Wq ?_|refine Wb ?_|refine Wk ?_|refine Wx ?_
  have:Sb [] (VRg 35 8 (EV 3) none g c (us)):=⟨Stab_VRg (fun x=>Stab_Vv _ _ _) (by decide) (by first|(refine Or.inl ?_;simp;done)|(refine Or.inr ?_;simp;done))⟩
  refine rg (BT:=[]) (Vl:=[Vi (((2*j:Nat):Int)),Vi (((2*j+1:Nat):Int)),VI l,Vi ((l.length:Int)),Vb (false)]) (B:=[]) (SL':=[(0,VI l),(3,VRg 35 8 (EV 3) none g c (us)),(4,Vi (((2*j:Nat):Int))),(9,Vb (false))]) st3 ⟨ks,?s1,ks,?s3,?s4,trivial⟩ ?_
  case s1=>
   refine kr fun _ A Y h D=>?_
   obtain⟨v0,x0,X0⟩:=h.dp D 5
   exact⟨_,run_addi rfl (x0.trans (show v0= .int .i64 ((2*j:Nat):Int)from X0)) rfl (wrap_id (by omega) (by omega)),congrArg (Value.int .i64) (by omega)⟩
  case s3=>refine kr fun _ A Y h D=>?_;obtain⟨v0,x0,X0⟩:=h.dp D 7;exact len_VI rfl rfl x0 X0
  case s4=>
   refine kr fun _ A Y h D=>?_
   obtain⟨v0,x0,X0⟩:=h.dp D 6
   have hV0':v0= .int .i64 (((2*j+1:Nat):Int)):=X0
   obtain⟨v1,x1,X1⟩:=h.dp D 8
   have hV1':v1= .int .i64 ((l.length:Int)):=X1
   exact⟨_,run_lssi rfl (x0.trans hV0') (x1.trans hV1'),congrArg Value.bool (dF (by omega))⟩
  intro a4 w4 st4
  clear st3
  repeat first|refine Wq ?_|refine Wb ?_|refine Wk ?_|refine Wx ?_
  obtain⟨vc,hc1,hc2⟩:=st4.slot (9,Vb (false)) (.tail _ (.tail _ (.tail _ (.head _))))
  refine wp_cond_false (hc1.trans hc2) ?_
  clear hc1 hc2
  obtain rfl:j=n:=by omega
  repeat first|refine Wq ?_|refine Wb ?_|refine Wk ?_|refine Wx ?_
  have:Sb [] (VRg 35 8 (EV 3) none g c (us)):=⟨Stab_VRg (fun x=>Stab_Vv _ _ _) (by decide) (by first|(refine Or.inl ?_;simp;done)|(refine Or.inr ?_;simp;done))⟩
  refine rg (BT:=[]) (Vl:=[VRg 35 8 (EV 3) none g c (us),VRg 35 8 (EV 3) none g c (us)]) (B:=[]) (SL':=[(0,VI l),(3,VRg 35 8 (EV 3) none g c (us)),(4,Vi (((2*j:Nat):Int))),(9,Vb (false)),(2,VRg 35 8 (EV 3) none g c (us))]) st4 ⟨ks,ks,trivial⟩ ?_
  intro a5 w5 st5
  clear st4
  repeat first|refine Wq ?_|refine Wb ?_|refine Wk ?_|refine Wx ?_
  obtain⟨vr,r1,r4⟩:=st5.slot (2,VRg 35 8 (EV 3) none g c (us)) (.tail _ (.tail _ (.tail _ (.tail _ (.head _)))))
  exact wp_ret (bodyPost_ret (results_tmp rfl _ _ _) st5.defers ⟨_,congrArg Ending.returned (show _=vr from r1),(by rw [←hus];exact VRg_sv r4 (by intro e;rw [e] at hul;simp at hul;omega)),st5.k.below⟩)
def E2 (x:Int×Int):VP:=VEq (.agg #[.int .i64 x.1,.int .i64 x.2])
instance {BT:List (TypeId×Nat×Nat)}(x:Int×Int):Sb BT (E2 x):=⟨fun _ _ _ h _=>h⟩
def wys:List (Int×Int):=[(4,0),(4,2),(3,3),(2,4),(0,4),(-2,4),(-3,3),(-4,2),(-4,0),(-4,-2),(-3,-3),(-2,-4),(0,-4),(2,-4),(3,-3),(4,-2)]
def wyc (i:Nat):Int×Int:=wys.getD i (0,0)
theorem wys_bd:∀j<16,-4≤(wyc j).1∧(wyc j).1≤4∧ -4≤(wyc j).2∧(wyc j).2≤4:=by decide
def byQ (l:List Int):P2:=(Rat.divInt (atv l 16 9 - 4) 1,Rat.divInt (atv l 17 9 - 4) 1)
def pgE (l:List Int)(i:Nat):P2:=((byQ l).1+Rat.divInt ((wyc i).1*atv l (i:Int) 6) 2,(byQ l).2+Rat.divInt ((wyc i).2*atv l (i:Int) 6) 2)
def pgL (l:List Int):Nat→List P2
 |0=>[]
 |i+1=>if (pgL l i).length<12∧0<atv l (i:Int) 6∧atv l (i:Int) 6<4 then pgL l i++ [pgE l i] else pgL l i
theorem pgL_stay {l:List Int}{i:Nat}(h:12≤(pgL l i).length):∀k,pgL l (i+k)=pgL l i
 |0=>rfl
 |k+1=>by
  have:=pgL_stay h k
  show pgL l (i+k+1)=_
  rw [pgL,if_neg (by rw [this];omega),this]
def pgF (l:List Int):List P2:=[byQ l,((byQ l).1+Rat.divInt 4 1,(byQ l).2+Rat.divInt 0 1),((byQ l).1+Rat.divInt (1+atv l 0 2) 1,(byQ l).2+Rat.divInt 3 1),((byQ l).1+Rat.divInt 1 1,(byQ l).2+Rat.divInt 1 1)]
def polyR (l:List Int):List P2:=if validR (pgL l 16)=true then pgL l 16 else pgF l
theorem Stab_VSl2 {BT:List (TypeId×Nat×Nat)}{xs:List (Int×Int)}(hn:∀e∈BT,e.1≠67):Stab BT (VSl 67 2 E2 xs):=fun _ _ _ ⟨hh,o,c,cs,e1,e2,e3,e4,e5,e6⟩ hr=>⟨hh,o,c,cs,e1,e2,e3,(hr.row _ _ _ e4 (.inl fun e he q=>absurd q (hn e he))).trans e4,e5,e6⟩
theorem Stab_VEp2 {BT:List (TypeId×Nat×Nat)}{x:Int×Int}(hn:∀e∈BT,e.1≠67):Stab BT (VEp 67 2 (E2 x)):=fun _ _ _ ⟨g,off,cs,e1,e2,e3,e4⟩ hr=>⟨g,off,cs,e1,(hr.row _ _ _ e2 (.inl fun e he q=>absurd q (hn e he))).trans e2,e3,e4⟩
section
variable {ρ:Operand→Value}{o:Oper}{W:World}{x y:Operand}{va vb:Value}
theorem run_build2 {a b:Int}(ho:o.op= .build 67 #[(0,.const (.int .i64 a)),(1,.const (.int .i64 b))])(hc:∀v,ρ (.const v)=v):∃v,(execOp ρ o).run Tryz.prog W= .ok (.value v) W∧E2 (a,b) v W:=by
 refine⟨_,?_,rfl⟩
 obtain⟨dd,op,ty,ps,af,gd⟩:=o
 subst ho
 go_simp
theorem bslice_A16 {x0 x1 x2 x3 x4 x5 x6 x7 x8 x9 x10 x11 x12 x13 x14 x15:Operand}{v0 v1 v2 v3 v4 v5 v6 v7 v8 v9 v10 v11 v12 v13 v14 v15:Value}(ho:o.op= .buildSlice 68 16 #[(0,x0),(1,x1),(2,x2),(3,x3),(4,x4),(5,x5),(6,x6),(7,x7),(8,x8),(9,x9),(10,x10),(11,x11),(12,x12),(13,x13),(14,x14),(15,x15)])(e0:ρ x0=v0)(e1:ρ x1=v1)(e2:ρ x2=v2)(e3:ρ x3=v3)(e4:ρ x4=v4)(e5:ρ x5=v5)(e6:ρ x6=v6)(e7:ρ x7=v7)(e8:ρ x8=v8)(e9:ρ x9=v9)(e10:ρ x10=v10)(e11:ρ x11=v11)(e12:ρ x12=v12)(e13:ρ x13=v13)(e14:ρ x14=v14)(e15:ρ x15=v15)(h0:E2 (4,0) v0 W)(h1:E2 (4,2) v1 W)(h2:E2 (3,3) v2 W)(h3:E2 (2,4) v3 W)(h4:E2 (0,4) v4 W)(h5:E2 (-2,4) v5 W)(h6:E2 (-3,3) v6 W)(h7:E2 (-4,2) v7 W)(h8:E2 (-4,0) v8 W)(h9:E2 (-4,-2) v9 W)(h10:E2 (-3,-3) v10 W)(h11:E2 (-2,-4) v11 W)(h12:E2 (0,-4) v12 W)(h13:E2 (2,-4) v13 W)(h14:E2 (3,-3) v14 W)(h15:E2 (4,-2) v15 W):∃v w',(execOp ρ o).run Tryz.prog W= .ok (.value v) w'∧Below W.heap.size W w'∧VSl 67 2 E2 wys v w':=by
 obtain rfl:v0=_:=h0
 obtain rfl:v1=_:=h1
 obtain rfl:v2=_:=h2
 obtain rfl:v3=_:=h3
 obtain rfl:v4=_:=h4
 obtain rfl:v5=_:=h5
 obtain rfl:v6=_:=h6
 obtain rfl:v7=_:=h7
 obtain rfl:v8=_:=h8
 obtain rfl:v9=_:=h9
 obtain rfl:v10=_:=h10
 obtain rfl:v11=_:=h11
 obtain rfl:v12=_:=h12
 obtain rfl:v13=_:=h13
 obtain rfl:v14=_:=h14
 obtain rfl:v15=_:=h15
 have hb:=below_new W (.cells #[.int .i64 4,.int .i64 0,.int .i64 4,.int .i64 2,.int .i64 3,.int .i64 3,.int .i64 2,.int .i64 4,.int .i64 0,.int .i64 4,.int .i64 (-2),.int .i64 4,.int .i64 (-3),.int .i64 3,.int .i64 (-4),.int .i64 2,.int .i64 (-4),.int .i64 0,.int .i64 (-4),.int .i64 (-2),.int .i64 (-3),.int .i64 (-3),.int .i64 (-2),.int .i64 (-4),.int .i64 0,.int .i64 (-4),.int .i64 2,.int .i64 (-4),.int .i64 3,.int .i64 (-3),.int .i64 4,.int .i64 (-2)] 67)
 refine⟨.slice (some ⟨W.heap.size,0,none⟩) 16 16,_,?_,hb,⟨_,0,16,_,rfl,Nat.le_refl _,by omega,heap_alloc_new _ _,Nat.le_refl _,fun i z hz=>?_⟩⟩
 ·clear hb
  obtain⟨dd,op,ty,ps,af,gd⟩:=o
  subst ho
  go_simp
 ·match i,hz with
  |0,hz=>cases hz;rfl
  |1,hz=>cases hz;rfl
  |2,hz=>cases hz;rfl
  |3,hz=>cases hz;rfl
  |4,hz=>cases hz;rfl
  |5,hz=>cases hz;rfl
  |6,hz=>cases hz;rfl
  |7,hz=>cases hz;rfl
  |8,hz=>cases hz;rfl
  |9,hz=>cases hz;rfl
  |10,hz=>cases hz;rfl
  |11,hz=>cases hz;rfl
  |12,hz=>cases hz;rfl
  |13,hz=>cases hz;rfl
  |14,hz=>cases hz;rfl
  |15,hz=>cases hz;rfl
  |i+16,hz=>simp [wys] at hz
theorem len_A16 (ho:o.op= .call {callee:= .builtin .len,args:=#[x],argTypes:=#[68]})(hty:o.type=3)(hx:ρ x=va)(h:VSl 67 2 E2 wys va W):∃v,(execOp ρ o).run Tryz.prog W= .ok (.value v) W∧Vi 16 v W:=by
 obtain⟨hh,oo,c,cs,rfl,-⟩:=h
 refine⟨.int .i64 16,?_,rfl⟩
 have:wys.length=16:=rfl
 obtain⟨dd,op,ty,ps,af,gd⟩:=o
 subst ho
 simp only at hty
 subst hty
 rw [this] at hx
 go_simp
theorem index_A16 {j:Nat}(ho:o.op= .indexAddr 68 x y)(hx:ρ x=va)(h:VSl 67 2 E2 wys va W)(hy:ρ y=vb)(hb:Vi (j:Int) vb W)(hj:j<16):∃v,(execOp ρ o).run Tryz.prog W= .ok (.value v) W∧VEp 67 2 (E2 (wyc j)) v W:=by
 have hl:wys.length=16:=rfl
 have hz:wys[j]? =some (wyc j):=by unfold wyc;rw [List.getD_eq_getElem?_getD,List.getElem?_eq_getElem (by omega)];rfl
 obtain⟨b,off,c,rfl,h2⟩:=VSl_el h hz
 obtain rfl:vb=_:=hb
 refine⟨.pointer (some ⟨b,off+2*j,none⟩),?_,h2⟩
 have hj2:(j:Int)<16:=by omega
 have hm:j*2=2*j:=Nat.mul_comm _ _
 clear h h2 hz
 obtain⟨dd,op,ty,ps,af,gd⟩:=o
 subst ho
 rw [hl] at hx
 go_simp
theorem index_E2 {z:Int×Int}{k:Nat}(ho:o.op= .indexAddr 67 x (.const (.int .i64 (k:Int))))(hc:∀v,ρ (.const v)=v)(hx:ρ x=va)(h:VEp 67 2 (E2 z) va W)(hk:k<2):∃v,(execOp ρ o).run Tryz.prog W= .ok (.value v) W∧VPc (if k=0 then z.1 else z.2) v W:=by
 obtain⟨g,off,cs,rfl,e2,e3,e4⟩:=h
 have e4:Value.agg (cs.extract off (off+2))=_:=e4
 have hcell:W.cell? ⟨g,off+k,none⟩=some (.int .i64 (if k=0 then z.1 else z.2)):=by
  simp only [World.cell?,e2]
  have e5:(cs.extract off (off+2))[k]? =some (.int .i64 (if k=0 then z.1 else z.2)):=by
   rw [Value.agg.inj e4]
   match k,hk with
   |0,_=>rfl
   |1,_=>rfl
  rw [Array.getElem?_extract,if_pos (by omega)] at e5
  simpa using e5
 refine⟨.pointer (some ⟨g,off+k,none⟩),?_,_,rfl,hcell⟩
 clear hcell e4
 obtain⟨dd,op,ty,ps,af,gd⟩:=o
 subst ho
 match k,hk with
 |0,_=>go_simp
 |1,_=>go_simp
theorem len_Rg {N g c:Nat}{us:List P2}(ho:o.op= .call {callee:= .builtin .len,args:=#[x],argTypes:=#[23]})(hty:o.type=3)(hx:ρ x=va)(h:VRg 35 8 (EV N) none g c us va W):∃v,(execOp ρ o).run Tryz.prog W= .ok (.value v) W∧Vi (us.length:Int) v W:=by
 have:∃p,va= .slice p us.length c:=by
  obtain⟨h1,-,(⟨h2,rfl⟩|⟨-,rfl,-⟩)⟩:=h
  ·subst h2;exact⟨none,by rw [Nat.le_zero.1 h1]⟩
  ·exact⟨_,rfl⟩
 obtain⟨p,rfl⟩:=this
 refine⟨.int .i64 (us.length:Int),?_,rfl⟩
 clear h
 generalize us.length=n at*
 obtain⟨dd,op,ty,ps,af,gd⟩:=o
 subst ho
 simp only at hty
 subst hty
 go_simp
theorem bslice_V4 {M:Nat}{x0 x1 x2 x3:Operand}{v0 v1 v2 v3:Value}{d0 d1 d2 d3:P2}(ho:o.op= .buildSlice 23 4 #[(0,x0),(1,x1),(2,x2),(3,x3)])(e0:ρ x0=v0)(e1:ρ x1=v1)(e2:ρ x2=v2)(e3:ρ x3=v3)(h0:Vv M d0.1 d0.2 v0 W)(h1:Vv M d1.1 d1.2 v1 W)(h2:Vv M d2.1 d2.2 v2 W)(h3:Vv M d3.1 d3.2 v3 W):
 ∃v w',(execOp ρ o).run Tryz.prog W= .ok (.value v) w'∧Below W.heap.size W w'∧VSv M [d0,d1,d2,d3] v w':=by
 obtain⟨c0,rfl,s0,-⟩:=AggV_Vv _ _ _ _ _ h0
 obtain⟨c1,rfl,s1,-⟩:=AggV_Vv _ _ _ _ _ h1
 obtain⟨c2,rfl,s2,-⟩:=AggV_Vv _ _ _ _ _ h2
 obtain⟨c3,rfl,s3,-⟩:=AggV_Vv _ _ _ _ _ h3
 obtain⟨p0_0,p0_1,p0_2,p0_3,p0_4,p0_5,p0_6,p0_7,rfl⟩:=arr8 s0
 obtain⟨p1_0,p1_1,p1_2,p1_3,p1_4,p1_5,p1_6,p1_7,rfl⟩:=arr8 s1
 obtain⟨p2_0,p2_1,p2_2,p2_3,p2_4,p2_5,p2_6,p2_7,rfl⟩:=arr8 s2
 obtain⟨p3_0,p3_1,p3_2,p3_3,p3_4,p3_5,p3_6,p3_7,rfl⟩:=arr8 s3
 have hb:=below_new W (.cells #[p0_0,p0_1,p0_2,p0_3,p0_4,p0_5,p0_6,p0_7,p1_0,p1_1,p1_2,p1_3,p1_4,p1_5,p1_6,p1_7,p2_0,p2_1,p2_2,p2_3,p2_4,p2_5,p2_6,p2_7,p3_0,p3_1,p3_2,p3_3,p3_4,p3_5,p3_6,p3_7] 35)
 refine⟨.slice (some ⟨W.heap.size,0,none⟩) 4 4,_,?_,hb,.inr ⟨_,0,4,_,rfl,Nat.le_refl _,by omega,heap_alloc_new _ _,Nat.le_refl _,fun i z hz=>?_⟩⟩
 ·clear h0 h1 h2 h3 hb
  obtain⟨dd,op,ty,ps,af,gd⟩:=o
  subst ho
  go_simp
 ·match i,hz with
  |0,hz=>cases hz;exact Stab_Vv (BT:=[]) _ _ _ _ _ _ h0 (RI.of_below hb)
  |1,hz=>cases hz;exact Stab_Vv (BT:=[]) _ _ _ _ _ _ h1 (RI.of_below hb)
  |2,hz=>cases hz;exact Stab_Vv (BT:=[]) _ _ _ _ _ _ h2 (RI.of_below hb)
  |3,hz=>cases hz;exact Stab_Vv (BT:=[]) _ _ _ _ _ _ h3 (RI.of_below hb)
  |i+4,hz=>simp at hz
end
end Go.Proofs.YtjdkdjobaabdiaaGreat
