/- Contracts of the packages integer, rat, plane, polygon and their references. -/
import Derived.Test.YtjdkdjobaabdiaaGreatP38
set_option linter.unusedVariables false
set_option maxRecDepth 100000
set_option maxHeartbeats 6400000
namespace Go.Proofs.YtjdkdjobaabdiaaGreat
open Go.RowKit
open Go
theorem mul_bd4 {a k:Int}(h1: -4<=a)(h2:a<=4)(h3:0<=k)(h4:k<6): -24<=a*k/\a*k<=24:=by
 have h5:k=0∨k=1∨k=2∨k=3∨k=4∨k=5:=by omega
 rcases h5 with h|h|h|h|h|h<;>subst h<;>omega
theorem Stab_VSvN {N:Nat}{vs:List P2}:Stab [] (VSv N vs):=fun _ _ _ h hr=>h.imp id fun ⟨hh,o,c,cs,e1,e2,e3,e4,e5,e6⟩=>⟨hh,o,c,cs,e1,e2,e3,(hr.row _ _ _ e4 (.inl (by simp))).trans e4,e5,fun i x hx=>Stab_Vv _ _ _ _ _ _ (e6 i x hx) hr⟩
theorem cR6Polygon {w:World}{l:List Int}{v0:Value}(h0:VI l v0 w):Calls Tryz.prog 11 #[v0] w (RV (VSv 7 (polyR l)) w):=by
 go_enter Tryz.func11,Tryz.ntmps11
 generalize hA:(⟨_,_⟩:Act)=a0
 have st0:St w.heap.size w 91 [] [(0,VI l)] a0 w:=by subst hA;exact St.begin rfl rfl (Lq.2 ⟨⟨_,rfl,h0⟩,(fun _ h=>absurd h (by simp))⟩)
 clear hA
 repeat first|apply Wq|apply Wb|apply Wk|apply Wx
 refine rH [(35,8,0)] [VEq (.slice none 0 0)] [] [(0,VI l),(2,VEq (.slice none 0 0))] st0 ⟨ks,trivial⟩ ?_
 intro a1 w1 st1
 clear st0
 repeat first|apply Wq|apply Wb|apply Wk|apply Wx
 have:Sb [(35,8,0)] (VSl 67 2 E2 wys):=⟨Stab_VSl2 (by simp)⟩
 refine rH [(35,8,0)] [E2 (4,0),E2 (4,2),E2 (3,3),E2 (2,4),E2 (0,4),E2 (-2,4),E2 (-3,3),E2 (-4,2),E2 (-4,0),E2 (-4,-2),E2 (-3,-3),E2 (-2,-4),E2 (0,-4),E2 (2,-4),E2 (3,-3),E2 (4,-2),VSl 67 2 E2 wys,VSl 67 2 E2 wys] [] [(0,VI l),(2,VEq (.slice none 0 0)),(3,VSl 67 2 E2 wys)] st1 ⟨(kr fun _ A Y h D=>run_build2 (a:=4) (b:=0) rfl (fun _=>rfl)),(kr fun _ A Y h D=>run_build2 (a:=4) (b:=2) rfl (fun _=>rfl)),(kr fun _ A Y h D=>run_build2 (a:=3) (b:=3) rfl (fun _=>rfl)),(kr fun _ A Y h D=>run_build2 (a:=2) (b:=4) rfl (fun _=>rfl)),(kr fun _ A Y h D=>run_build2 (a:=0) (b:=4) rfl (fun _=>rfl)),(kr fun _ A Y h D=>run_build2 (a:= -2) (b:=4) rfl (fun _=>rfl)),(kr fun _ A Y h D=>run_build2 (a:= -3) (b:=3) rfl (fun _=>rfl)),(kr fun _ A Y h D=>run_build2 (a:= -4) (b:=2) rfl (fun _=>rfl)),(kr fun _ A Y h D=>run_build2 (a:= -4) (b:=0) rfl (fun _=>rfl)),(kr fun _ A Y h D=>run_build2 (a:= -4) (b:= -2) rfl (fun _=>rfl)),(kr fun _ A Y h D=>run_build2 (a:= -3) (b:= -3) rfl (fun _=>rfl)),(kr fun _ A Y h D=>run_build2 (a:= -2) (b:= -4) rfl (fun _=>rfl)),(kr fun _ A Y h D=>run_build2 (a:=0) (b:= -4) rfl (fun _=>rfl)),(kr fun _ A Y h D=>run_build2 (a:=2) (b:= -4) rfl (fun _=>rfl)),(kr fun _ A Y h D=>run_build2 (a:=3) (b:= -3) rfl (fun _=>rfl)),(kr fun _ A Y h D=>run_build2 (a:=4) (b:= -2) rfl (fun _=>rfl)),(by refine km fun _ A Y h D=>?_;obtain⟨v0,x0,X0⟩:=h.dp D 8;obtain⟨v1,x1,X1⟩:=h.dp D 9;obtain⟨v2,x2,X2⟩:=h.dp D 10;obtain⟨v3,x3,X3⟩:=h.dp D 11;obtain⟨v4,x4,X4⟩:=h.dp D 12;obtain⟨v5,x5,X5⟩:=h.dp D 13;obtain⟨v6,x6,X6⟩:=h.dp D 14;obtain⟨v7,x7,X7⟩:=h.dp D 15;obtain⟨v8,x8,X8⟩:=h.dp D 16;obtain⟨v9,x9,X9⟩:=h.dp D 17;obtain⟨v10,hv10,hV10⟩:=h.dp D 18;obtain⟨v11,hv11,hV11⟩:=h.dp D 19;obtain⟨v12,hv12,hV12⟩:=h.dp D 20;obtain⟨v13,hv13,hV13⟩:=h.dp D 21;obtain⟨v14,hv14,hV14⟩:=h.dp D 22;obtain⟨v15,hv15,hV15⟩:=h.dp D 23;exact bslice_A16 rfl x0 x1 x2 x3 x4 x5 x6 x7 x8 x9 hv10 hv11 hv12 hv13 hv14 hv15 X0 X1 X2 X3 X4 X5 X6 X7 X8 X9 hV10 hV11 hV12 hV13 hV14 hV15),ks,trivial⟩ ?_
 intro a2 w2 st2
 clear st1
 have ha0:=atv_lo l 16 9 (by omega)
 have ha1:=atv_hi l 16 9 (by omega)
 have ha2:=atv_lo l 17 9 (by omega)
 have ha3:=atv_hi l 17 9 (by omega)
 repeat first|apply Wq|apply Wb|apply Wk|apply Wx
 have:Sb [(35,8,0)] (VSl 67 2 E2 wys):=⟨Stab_VSl2 (by simp)⟩
 refine rH [(35,8,0)] [VI l,Vi (atv l (16) 9),Vi ((atv l (16) 9) - (4)),VI l,Vi (atv l (17) 9),Vi ((atv l (17) 9) - (4)),Vv 3 (Rat.divInt ((atv l (16) 9) - (4)) 1) (Rat.divInt ((atv l (17) 9) - (4)) 1),VT,VT] [⟨4,some 7,some 8,35,8,Vv 3 (Rat.divInt ((atv l (16) 9) - (4)) 1) (Rat.divInt ((atv l (17) 9) - (4)) 1),VT⟩] [(0,VI l),(2,VEq (.slice none 0 0)),(3,VSl 67 2 E2 wys)] st2 ⟨ks,(by refine kc fun _ A Y h D=>?_;obtain⟨v0,x0,X0⟩:=h.dp D 25;exact⟨#[v0,.int .i64 (16),.int .i64 (9)],by simp [x0,eval_const],cAt X0 (show Vi (16) (.int .i64 (16)) Y from rfl) (by omega) (by omega) (by omega) (by omega)⟩),(by refine kr fun _ A Y h D=>?_;obtain⟨v0,x0,X0⟩:=h.dp D 26;have hV0':v0= .int .i64 (atv l (16) 9):=X0;exact⟨_,run_subi rfl (x0.trans hV0') rfl (wrap_id (by omega) (by omega)),rfl⟩),ks,(by refine kc fun _ A Y h D=>?_;obtain⟨v0,x0,X0⟩:=h.dp D 28;exact⟨#[v0,.int .i64 (17),.int .i64 (9)],by simp [x0,eval_const],cAt X0 (show Vi (17) (.int .i64 (17)) Y from rfl) (by omega) (by omega) (by omega) (by omega)⟩),(by refine kr fun _ A Y h D=>?_;obtain⟨v0,x0,X0⟩:=h.dp D 29;have hV0':v0= .int .i64 (atv l (17) 9):=X0;exact⟨_,run_subi rfl (x0.trans hV0') rfl (wrap_id (by omega) (by omega)),rfl⟩),(kd2 fun _ _ _ _ _ X0 _ X1=>cR5Of X0 X1 (by omega) (by omega) (by omega) (by omega)),ks,ks,trivial⟩ ?_
 intro a3 w3 st3
 clear st2
 replace st3:St w.heap.size w 91 [⟨4,none,none,35,8,Vv 3 (Rat.divInt ((atv l (16) 9) - (4)) 1) (Rat.divInt ((atv l (17) 9) - (4)) 1),VT⟩] [(0,VI l),(2,VEq (.slice none 0 0)),(3,VSl 67 2 E2 wys)] a3 w3:=st3
 replace st3:St w.heap.size w 91 [⟨4,none,none,35,8,Vv 3 ((byQ l).1) ((byQ l).2),VT⟩] [(0,VI l),(2,VEq (.slice none 0 0)),(3,VSl 67 2 E2 wys)] a3 w3:=st3
 clear ha0 ha1 ha2 ha3
 repeat first|apply Wq|apply Wb|apply Wk|apply Wx
 have:Sb [(35,8,0)] (VSl 67 2 E2 wys):=⟨Stab_VSl2 (by simp)⟩
 refine rH [(35,8,0)] [VEq (.slice none 0 0)] [⟨4,none,none,35,8,Vv 3 ((byQ l).1) ((byQ l).2),VT⟩] [(0,VI l),(2,VEq (.slice none 0 0)),(3,VSl 67 2 E2 wys),(5,VEq (.slice none 0 0))] st3 ⟨ks,trivial⟩ ?_
 intro a4 w4 st4
 clear st3
 repeat first|apply Wq|apply Wb|apply Wk|apply Wx
 have:Sb [(35,8,0)] (VSl 67 2 E2 wys):=⟨Stab_VSl2 (by simp)⟩
 refine rH [(35,8,0)] [Vi (0)] [⟨4,none,none,35,8,Vv 3 ((byQ l).1) ((byQ l).2),VT⟩] [(0,VI l),(2,VEq (.slice none 0 0)),(3,VSl 67 2 E2 wys),(5,VEq (.slice none 0 0)),(6,Vi (0))] st4 ⟨ks,trivial⟩ ?_
 intro a5 w5 st5
 clear st4
 replace st5:St w.heap.size w 91 [⟨4,none,none,35,8,Vv 3 ((byQ l).1) ((byQ l).2),VT⟩] [(0,VI l),(2,VEq (.slice none 0 0)),(3,VSl 67 2 E2 wys),(5,VEq (.slice none 0 0)),(6,Vi (0))] a5 w5:=st5
 obtain⟨vR,heR,hvR⟩:=st5.sl (5,VEq (.slice none 0 0)) (lS_mem rfl)
 replace st5:=st5.reT 5 (VRg 35 8 (EV 7) none 0 0 ([])) heR ⟨by simp,by omega,.inl ⟨rfl,hvR⟩⟩
 replace st5:St w.heap.size w 91 [⟨4,none,none,35,8,Vv 3 ((byQ l).1) ((byQ l).2),VT⟩] [(0,VI l),(3,VSl 67 2 E2 wys),(5,VRg 35 8 (EV 7) none 0 0 ([])),(6,Vi (((0:Nat):Int)))] a5 w5:=st5.cut
 clear heR hvR
 repeat first|apply Wq|apply Wb|apply Wk|apply Wx
 refine wp_loop_ghost (fun m aX wX=>∃(j g c:Nat) (us:List P2),j+m=16/\us=pgL l j/\us.length<=12/\(c=0∨w.heap.size<=g/\0<us.length)/\St w.heap.size w 91 [⟨4,none,none,35,8,Vv 3 ((byQ l).1) ((byQ l).2),VT⟩] [(0,VI l),(3,VSl 67 2 E2 wys),(5,VRg 35 8 (EV 7) none g c (us)),(6,Vi (((j:Nat):Int)))] aX wX) 16 ⟨0,0,0,[],by omega,rfl,by simp,.inl rfl,st5⟩ ?_
 clear st5
 intro m aL wL ⟨j,g,c,us,hj,hus,hul,hxc,st5⟩
 by_cases hlt:j<16
 ·
  by_cases h12:us.length<12
  ·
   repeat first|apply Wq|apply Wb|apply Wk|apply Wx
   refine rH [] [Vi (((j:Nat):Int)),VSl 67 2 E2 wys,Vi (16),Vb (true),Vb (true),VRg 35 8 (EV 7) none g c (us),Vi ((us.length:Int)),Vb (true),Vb (true)] [⟨4,none,none,35,8,Vv 3 ((byQ l).1) ((byQ l).2),VT⟩] [(0,VI l),(3,VSl 67 2 E2 wys),(5,VRg 35 8 (EV 7) none g c (us)),(6,Vi (((j:Nat):Int))),(40,Vb (true))] st5 ⟨ks,ks,(kr1 33 fun _ _ _ _ _ x0 X0=>len_A16 rfl rfl x0 X0),(by refine kr fun _ A Y h D=>?_;obtain⟨v0,x0,X0⟩:=h.dp D 32;have hV0':v0= .int .i64 (((j:Nat):Int)):=X0;obtain⟨v1,x1,X1⟩:=h.dp D 34;have hV1':v1= .int .i64 (16):=X1;exact⟨_,run_lssi rfl (x0.trans hV0') (x1.trans hV1'),congrArg Value.bool (dT (by omega))⟩),ks,ks,(kr1 37 fun _ _ _ _ _ x0 X0=>len_Rg rfl rfl x0 X0),(by refine kr fun _ A Y h D=>?_;obtain⟨v0,x0,X0⟩:=h.dp D 38;have hV0':v0= .int .i64 ((us.length:Int)):=X0;exact⟨_,run_lssi rfl (x0.trans hV0') rfl,congrArg Value.bool (dT (by omega))⟩),ks,trivial⟩ ?_
   intro a6 w6 st6
   clear st5
   repeat first|apply Wq|apply Wb|apply Wk|apply Wx
   refine cT st6 ?_
   have hk0:=atv_lo l (j:Int) 6 (by omega)
   have hk5:=atv_hi l (j:Int) 6 (by omega)
   repeat first|apply Wq|apply Wb|apply Wk|apply Wx
   refine rH [] [VI l,Vi (((j:Nat):Int)),Vi (atv l (((j:Nat):Int)) 6),Vi (atv l (((j:Nat):Int)) 6)] [⟨4,none,none,35,8,Vv 3 ((byQ l).1) ((byQ l).2),VT⟩] [(0,VI l),(3,VSl 67 2 E2 wys),(5,VRg 35 8 (EV 7) none g c (us)),(6,Vi (((j:Nat):Int))),(40,Vb (true)),(7,Vi (atv l (((j:Nat):Int)) 6))] st6 ⟨ks,ks,(by refine kc fun _ A Y h D=>?_;obtain⟨v0,x0,X0⟩:=h.dp D 43;obtain⟨v1,x1,X1⟩:=h.dp D 44;exact⟨#[v0,v1,.int .i64 (6)],by simp [x0,x1,eval_const],cAt X0 X1 (by omega) (by omega) (by omega) (by omega)⟩),ks,trivial⟩ ?_
   intro a7 w7 st7
   clear st6
   by_cases hp0:0<atv l (j:Int) 6
   ·
    by_cases hp4:atv l (j:Int) 6<4
    ·
     repeat first|apply Wq|apply Wb|apply Wk|apply Wx
     refine rH [] [Vi (atv l (((j:Nat):Int)) 6),Vb (true),Vb (true),Vi (atv l (((j:Nat):Int)) 6),Vb (true),Vb (true)] [⟨4,none,none,35,8,Vv 3 ((byQ l).1) ((byQ l).2),VT⟩] [(0,VI l),(3,VSl 67 2 E2 wys),(5,VRg 35 8 (EV 7) none g c (us)),(6,Vi (((j:Nat):Int))),(40,Vb (true)),(7,Vi (atv l (((j:Nat):Int)) 6)),(51,Vb (true))] st7 ⟨ks,(by refine kr fun _ A Y h D=>?_;obtain⟨v0,x0,X0⟩:=h.dp D 46;have hV0':v0= .int .i64 (atv l (((j:Nat):Int)) 6):=X0;exact⟨_,run_gtri rfl (x0.trans hV0') rfl,congrArg Value.bool (dT hp0)⟩),ks,ks,(by refine kr fun _ A Y h D=>?_;obtain⟨v0,x0,X0⟩:=h.dp D 49;have hV0':v0= .int .i64 (atv l (((j:Nat):Int)) 6):=X0;exact⟨_,run_lssi rfl (x0.trans hV0') rfl,congrArg Value.bool (dT hp4)⟩),ks,trivial⟩ ?_
     intro a8 w8 st8
     clear st7
     repeat first|apply Wq|apply Wb|apply Wk|apply Wx
     refine cT st8 ?_
     have hw:=wys_bd j hlt
     have hm1: -24<=(wyc j).1*atv l (j:Int) 6/\(wyc j).1*atv l (j:Int) 6<=24:=mul_bd4 hw.1 hw.2.1 hk0 hk5
     have hm2: -24<=(wyc j).2*atv l (j:Int) 6/\(wyc j).2*atv l (j:Int) 6<=24:=mul_bd4 hw.2.2.1 hw.2.2.2 hk0 hk5
     by_cases hrm:(us).length+([pgE l j]).length<=c
     ·
      replace st8:St w.heap.size w 91 [⟨4,none,none,35,8,Vv 3 ((byQ l).1) ((byQ l).2),VT⟩] [(0,VI l),(3,VSl 67 2 E2 wys),(5,VRg 35 8 (EV 7) none g c (us)),(6,Vi (((j:Nat):Int))),(40,Vb (true)),(7,Vi (atv l (((j:Nat):Int)) 6)),(51,Vb (true))] a8 w8:=st8
      obtain⟨vR,heR,hlR,hcmR,(⟨h0,-⟩|⟨h0,hvR,hrow⟩)⟩:=st8.sl (5,VRg 35 8 (EV 7) none g c (us)) (lS_mem rfl)
      ·simp only [List.length_cons,List.length_nil] at hrm;omega
      have h2c:2<=c:=by simp only [List.length_cons,List.length_nil] at hrm;omega
      have hgn:w.heap.size<=g:=by omega
      replace st8:=st8.reT 5 (VEq (.slice (some ⟨g,0,none⟩) (us).length c)) heR hvR
      replace st8:St w.heap.size w 91 [⟨4,none,none,35,8,Vv 3 ((byQ l).1) ((byQ l).2),VT⟩] [(0,VI l),(3,VSl 67 2 E2 wys),(5,VEq (.slice (some ⟨g,0,none⟩) (us).length c)),(6,Vi (((j:Nat):Int))),(40,Vb (true)),(7,Vi (atv l (((j:Nat):Int)) 6)),(51,Vb (true))] a8 w8:=st8.cut
      clear heR hvR hlR
      repeat first|apply Wq|apply Wb|apply Wk|apply Wx
      have:Sb ((35,8*c,0):: []) (VSl 67 2 E2 wys):=⟨Stab_VSl2 (by simp)⟩
      have:Sb ((35,8*c,0):: []) (VEp 67 2 (E2 (wyc j))):=⟨Stab_VEp2 (by simp)⟩
      have:Sb ((35,8*c,0):: []) (VOs 35 8 (EV 7) ([pgE l j])):=⟨Stab_VOs (fun x=>Stab_Vv _ _ _) (by first|(simp;done)|(simp;omega))⟩
      refine rgR (BT:=[]) (Vl:=[VEq (.slice (some ⟨g,0,none⟩) (us).length c),Vv 3 ((byQ l).1) ((byQ l).2),VSl 67 2 E2 wys,Vi (((j:Nat):Int)),VEp 67 2 (E2 (wyc j)),VPc ((wyc j).1),Vi ((wyc j).1),Vi (atv l (((j:Nat):Int)) 6),Vi (((wyc j).1)*(atv l (((j:Nat):Int)) 6)),Vq 3 (Rat.divInt (((wyc j).1)*(atv l (((j:Nat):Int)) 6)) 2),VSl 67 2 E2 wys,Vi (((j:Nat):Int)),VEp 67 2 (E2 (wyc j)),VPc ((wyc j).2),Vi ((wyc j).2),Vi (atv l (((j:Nat):Int)) 6),Vi (((wyc j).2)*(atv l (((j:Nat):Int)) 6)),Vq 3 (Rat.divInt (((wyc j).2)*(atv l (((j:Nat):Int)) 6)) 2),Vv 3 (Rat.divInt (((wyc j).1)*(atv l (((j:Nat):Int)) 6)) 2) (Rat.divInt (((wyc j).2)*(atv l (((j:Nat):Int)) 6)) 2),Vv 7 (((byQ l).1)+(Rat.divInt (((wyc j).1)*(atv l (((j:Nat):Int)) 6)) 2)) (((byQ l).2)+(Rat.divInt (((wyc j).2)*(atv l (((j:Nat):Int)) 6)) 2)),VOs 35 8 (EV 7) ([pgE l j]),VEq (.slice (some ⟨g,0,none⟩) ((us).length+([pgE l j]).length) c),VEq (.slice (some ⟨g,0,none⟩) ((us).length+([pgE l j]).length) c)]) (B:=[⟨4,none,none,35,8,Vv 3 ((byQ l).1) ((byQ l).2),VT⟩]) (SL':=[(0,VI l),(3,VSl 67 2 E2 wys),(6,Vi (((j:Nat):Int))),(40,Vb (true)),(7,Vi (atv l (((j:Nat):Int)) 6)),(51,Vb (true)),(5,VEq (.slice (some ⟨g,0,none⟩) ((us).length+([pgE l j]).length) c))]) ⟨g,21,35,8*c,VEl 8 (EV 7) (us++ [pgE l j]),VEl 8 (EV 7) (us)⟩ st8 hrow ⟨fun _=>?s0,fun _=>ks,fun _=>ks,fun _=>ks,fun _=>(kr2 54 55 fun _ _ _ _ _ x0 X0 _ x1 X1=>index_A16 rfl x0 X0 x1 X1 hlt),fun _=>(kr1 56 fun _ _ _ _ _ x0 X0=>index_E2 (k:=0) rfl (fun _=>rfl) x0 X0 (by omega)),fun _=>(kr1 57 fun _ _ _ _ _ x0 X0=>load_Pc rfl x0 X0),fun _=>ks,fun _=>(by refine kr fun _ A Y h D=>?_;obtain⟨v0,x0,X0⟩:=h.dp D 58;have hV0':v0= .int .i64 ((wyc j).1):=X0;obtain⟨v1,x1,X1⟩:=h.dp D 59;have hV1':v1= .int .i64 (atv l (((j:Nat):Int)) 6):=X1;exact⟨_,run_muli rfl (x0.trans hV0') (x1.trans hV1') (wrap_id (by omega) (by omega)),rfl⟩),fun _=>(by refine kc fun _ A Y h D=>?_;obtain⟨v0,x0,X0⟩:=h.dp D 60;exact⟨#[v0,.int .i64 (2)],by simp [x0,eval_const],cR4Of X0 (show Vi 2 (.int .i64 2) Y from rfl) (by omega) (by omega) (by omega) (by omega)⟩),fun _=>ks,fun _=>ks,fun _=>(kr2 62 63 fun _ _ _ _ _ x0 X0 _ x1 X1=>index_A16 rfl x0 X0 x1 X1 hlt),fun _=>(kr1 64 fun _ _ _ _ _ x0 X0=>index_E2 (k:=1) rfl (fun _=>rfl) x0 X0 (by omega)),fun _=>(kr1 65 fun _ _ _ _ _ x0 X0=>load_Pc rfl x0 X0),fun _=>ks,fun _=>(by refine kr fun _ A Y h D=>?_;obtain⟨v0,x0,X0⟩:=h.dp D 66;have hV0':v0= .int .i64 ((wyc j).2):=X0;obtain⟨v1,x1,X1⟩:=h.dp D 67;have hV1':v1= .int .i64 (atv l (((j:Nat):Int)) 6):=X1;exact⟨_,run_muli rfl (x0.trans hV0') (x1.trans hV1') (wrap_id (by omega) (by omega)),rfl⟩),fun _=>(by refine kc fun _ A Y h D=>?_;obtain⟨v0,x0,X0⟩:=h.dp D 68;exact⟨#[v0,.int .i64 (2)],by simp [x0,eval_const],cR4Of X0 (show Vi 2 (.int .i64 2) Y from rfl) (by omega) (by omega) (by omega) (by omega)⟩),fun _=>(kr2 61 69 fun _ _ _ _ _ x0 X0 _ x1 X1=>build_Vec rfl x0 x1 (AggV_Vq _ _) (AggV_Vq _ _) X0 X1),fun _=>(kd2 fun _ _ _ _ _ X0 _ X1=>cR5Add (N:=3) X0 X1 (by omega) (by omega)),fun _=>(by refine km fun _ A Y h D=>?_;obtain⟨v0,x0,X0⟩:=h.dp D 71;exact bslice_V1 rfl x0 X0),fun hne=>absurd rfl hne,fun _=>ks,trivial⟩ ?r21 ?_ (by kernel_rfl) (Nat.le_of_ble_eq_true rfl) (hm0:=(by show 8*c≠0;omega))
      case s0=>
       refine k_run0 SbB.out (by kernel_rfl) fun listed A Y h D hnl=>⟨trivial,?_⟩
       obtain⟨v0,x0,X0⟩:=h.out0 hnl (5,VEq (.slice (some ⟨g,0,none⟩) (us).length c)) (.tail _ (.tail _ (.head _))) 22 (by kernel_rfl) (.inr (by kernel_rfl))
       exact⟨_,run_move rfl,by rw [x0];exact X0⟩
      case r21=>intro o ho;obtain rfl:=Option.some.inj ho.symm;exact k_appM (k:=8) (E:=EV 7) (us:=us) (zs:=[pgE l j]) rfl ⟨[],by simp⟩ rfl (.inl ⟨by kernel_rfl,rfl,rfl⟩) (.inl ⟨by kernel_rfl,rfl,rfl⟩) (fun _ _ _ _ h=>VOs_sc h) rfl hrm h2c hgn (by kernel_rfl) (by kernel_rfl) (fun x BT=>Stab_Vv _ _ _) (by simp) trivial
      clear hrow
      intro a9 w9 st9 hrow
      clear st8
      replace st9:St w.heap.size w 91 [⟨4,none,none,35,8,Vv 3 ((byQ l).1) ((byQ l).2),VT⟩] [(0,VI l),(3,VSl 67 2 E2 wys),(6,Vi (((j:Nat):Int))),(40,Vb (true)),(7,Vi (atv l (((j:Nat):Int)) 6)),(51,Vb (true)),(5,VEq (.slice (some ⟨g,0,none⟩) ((us).length+([pgE l j]).length) c))] a9 w9:=st9
      obtain⟨vR,heR,hvR⟩:=st9.sl (5,VEq (.slice (some ⟨g,0,none⟩) ((us).length+([pgE l j]).length) c)) (lS_mem rfl)
      replace st9:=st9.reT 5 (VRg 35 8 (EV 7) none g c (us++ [pgE l j])) heR (by obtain rfl:vR=_:=hvR;exact VRg_in (by rw [List.length_append];exact hrm) h0 hcmR hrow)
      replace st9:St w.heap.size w 91 [⟨4,none,none,35,8,Vv 3 ((byQ l).1) ((byQ l).2),VT⟩] [(0,VI l),(3,VSl 67 2 E2 wys),(6,Vi (((j:Nat):Int))),(40,Vb (true)),(7,Vi (atv l (((j:Nat):Int)) 6)),(51,Vb (true)),(5,VRg 35 8 (EV 7) none g c (us++ [pgE l j]))] a9 w9:=st9.cut
      clear heR hvR hrow hcmR h0
      repeat first|apply Wq|apply Wb|apply Wk|apply Wx
      refine rH [] [Vi (((j:Nat):Int)),Vi (((j+1:Nat):Int)),Vi (((j+1:Nat):Int))] [⟨4,none,none,35,8,Vv 3 ((byQ l).1) ((byQ l).2),VT⟩] [(0,VI l),(3,VSl 67 2 E2 wys),(40,Vb (true)),(7,Vi (atv l (((j:Nat):Int)) 6)),(51,Vb (true)),(5,VRg 35 8 (EV 7) none g c (us++ [pgE l j])),(6,Vi (((j+1:Nat):Int)))] st9 ⟨?s0,(by refine kr fun _ A Y h D=>?_;obtain⟨v0,x0,X0⟩:=h.dp D 41;exact⟨_,run_addi rfl (x0.trans (show v0= .int .i64 ((j:Nat):Int)from X0)) rfl (wrap_id (by omega) (by omega)),congrArg (Value.int .i64) (by omega)⟩),ks,trivial⟩ ?_
      case s0=>
       refine k_run0 SbB.out (by kernel_rfl) fun listed A Y h D hnl=>⟨trivial,?_⟩
       obtain⟨v0,x0,X0⟩:=h.out0 hnl (6,Vi (((j:Nat):Int))) (.tail _ (.tail _ (.head _))) 2 (by kernel_rfl) (.inr (by kernel_rfl))
       exact⟨_,run_move rfl,by rw [x0];exact X0⟩
      intro a10 w10 st10
      clear st9
      replace st10:St w.heap.size w 91 [⟨4,none,none,35,8,Vv 3 ((byQ l).1) ((byQ l).2),VT⟩] [(0,VI l),(3,VSl 67 2 E2 wys),(40,Vb (true)),(7,Vi (atv l (((j:Nat):Int)) 6)),(51,Vb (true)),(5,VRg 35 8 (EV 7) none g c (us++ [pgE l j])),(6,Vi (((j+1:Nat):Int)))] a10 w10:=st10
      exact⟨m - 1,by omega,j+1,g,c,us++ [pgE l j],by omega,by rw [pgL,if_pos (by rw [<-hus];omega),<-hus],by rw [List.length_append,List.length_singleton];omega,.inr ⟨by omega,by rw [List.length_append,List.length_singleton];omega⟩,st10.cut⟩
     ·
      repeat first|apply Wq|apply Wb|apply Wk|apply Wx
      refine rH [] [VRg 35 8 (EV 7) none g c (us),Vv 3 ((byQ l).1) ((byQ l).2),VSl 67 2 E2 wys,Vi (((j:Nat):Int)),VEp 67 2 (E2 (wyc j)),VPc ((wyc j).1),Vi ((wyc j).1),Vi (atv l (((j:Nat):Int)) 6),Vi (((wyc j).1)*(atv l (((j:Nat):Int)) 6)),Vq 3 (Rat.divInt (((wyc j).1)*(atv l (((j:Nat):Int)) 6)) 2),VSl 67 2 E2 wys,Vi (((j:Nat):Int)),VEp 67 2 (E2 (wyc j)),VPc ((wyc j).2),Vi ((wyc j).2),Vi (atv l (((j:Nat):Int)) 6),Vi (((wyc j).2)*(atv l (((j:Nat):Int)) 6)),Vq 3 (Rat.divInt (((wyc j).2)*(atv l (((j:Nat):Int)) 6)) 2),Vv 3 (Rat.divInt (((wyc j).1)*(atv l (((j:Nat):Int)) 6)) 2) (Rat.divInt (((wyc j).2)*(atv l (((j:Nat):Int)) 6)) 2),Vv 7 (((byQ l).1)+(Rat.divInt (((wyc j).1)*(atv l (((j:Nat):Int)) 6)) 2)) (((byQ l).2)+(Rat.divInt (((wyc j).2)*(atv l (((j:Nat):Int)) 6)) 2)),VOs 35 8 (EV 7) ([pgE l j]),VRx 35 8 (EV 7) w.heap.size (us++ [pgE l j]),VRx 35 8 (EV 7) w.heap.size (us++ [pgE l j])] [⟨4,none,none,35,8,Vv 3 ((byQ l).1) ((byQ l).2),VT⟩] [(0,VI l),(3,VSl 67 2 E2 wys),(6,Vi (((j:Nat):Int))),(40,Vb (true)),(7,Vi (atv l (((j:Nat):Int)) 6)),(51,Vb (true)),(5,VRx 35 8 (EV 7) w.heap.size (us++ [pgE l j]))] st8 ⟨?s0,ks,ks,ks,(kr2 54 55 fun _ _ _ _ _ x0 X0 _ x1 X1=>index_A16 rfl x0 X0 x1 X1 hlt),(kr1 56 fun _ _ _ _ _ x0 X0=>index_E2 (k:=0) rfl (fun _=>rfl) x0 X0 (by omega)),(kr1 57 fun _ _ _ _ _ x0 X0=>load_Pc rfl x0 X0),ks,(by refine kr fun _ A Y h D=>?_;obtain⟨v0,x0,X0⟩:=h.dp D 58;have hV0':v0= .int .i64 ((wyc j).1):=X0;obtain⟨v1,x1,X1⟩:=h.dp D 59;have hV1':v1= .int .i64 (atv l (((j:Nat):Int)) 6):=X1;exact⟨_,run_muli rfl (x0.trans hV0') (x1.trans hV1') (wrap_id (by omega) (by omega)),rfl⟩),(by refine kc fun _ A Y h D=>?_;obtain⟨v0,x0,X0⟩:=h.dp D 60;exact⟨#[v0,.int .i64 (2)],by simp [x0,eval_const],cR4Of X0 (show Vi 2 (.int .i64 2) Y from rfl) (by omega) (by omega) (by omega) (by omega)⟩),ks,ks,(kr2 62 63 fun _ _ _ _ _ x0 X0 _ x1 X1=>index_A16 rfl x0 X0 x1 X1 hlt),(kr1 64 fun _ _ _ _ _ x0 X0=>index_E2 (k:=1) rfl (fun _=>rfl) x0 X0 (by omega)),(kr1 65 fun _ _ _ _ _ x0 X0=>load_Pc rfl x0 X0),ks,(by refine kr fun _ A Y h D=>?_;obtain⟨v0,x0,X0⟩:=h.dp D 66;have hV0':v0= .int .i64 ((wyc j).2):=X0;obtain⟨v1,x1,X1⟩:=h.dp D 67;have hV1':v1= .int .i64 (atv l (((j:Nat):Int)) 6):=X1;exact⟨_,run_muli rfl (x0.trans hV0') (x1.trans hV1') (wrap_id (by omega) (by omega)),rfl⟩),(by refine kc fun _ A Y h D=>?_;obtain⟨v0,x0,X0⟩:=h.dp D 68;exact⟨#[v0,.int .i64 (2)],by simp [x0,eval_const],cR4Of X0 (show Vi 2 (.int .i64 2) Y from rfl) (by omega) (by omega) (by omega) (by omega)⟩),(kr2 61 69 fun _ _ _ _ _ x0 X0 _ x1 X1=>build_Vec rfl x0 x1 (AggV_Vq _ _) (AggV_Vq _ _) X0 X1),(kd2 fun _ _ _ _ _ X0 _ X1=>cR5Add (N:=3) X0 X1 (by omega) (by omega)),(by refine km fun _ A Y h D=>?_;obtain⟨v0,x0,X0⟩:=h.dp D 71;exact bslice_V1 rfl x0 X0),(by refine km fun _ A Y h D=>?_;obtain⟨v0,x0,X0⟩:=h.dp D 52;obtain⟨v1,x1,X1⟩:=h.dp D 72;exact app_growM rfl x0 X0 x1 (VOs_sc X1) (fun x=>Stab_Vv _ _ _) (by omega) h.n (by simp only [List.length_cons,List.length_nil];omega)),ks,trivial⟩ ?_
      case s0=>
       refine k_run0 SbB.out (by kernel_rfl) fun listed A Y h D hnl=>⟨trivial,?_⟩
       obtain⟨v0,x0,X0⟩:=h.out0 hnl (5,VRg 35 8 (EV 7) none g c (us)) (.tail _ (.tail _ (.head _))) 22 (by kernel_rfl) (.inr (by kernel_rfl))
       exact⟨_,run_move rfl,by rw [x0];exact X0⟩
      intro a9 w9 st9
      clear st8
      replace st9:St w.heap.size w 91 [⟨4,none,none,35,8,Vv 3 ((byQ l).1) ((byQ l).2),VT⟩] [(0,VI l),(3,VSl 67 2 E2 wys),(6,Vi (((j:Nat):Int))),(40,Vb (true)),(7,Vi (atv l (((j:Nat):Int)) 6)),(51,Vb (true)),(5,VRx 35 8 (EV 7) w.heap.size (us++ [pgE l j]))] a9 w9:=st9
      obtain⟨g2,c2,hg2,hc2,st9⟩:=st9.nameR 5 rfl
      replace st9:St w.heap.size w 91 [⟨4,none,none,35,8,Vv 3 ((byQ l).1) ((byQ l).2),VT⟩] [(0,VI l),(3,VSl 67 2 E2 wys),(6,Vi (((j:Nat):Int))),(40,Vb (true)),(7,Vi (atv l (((j:Nat):Int)) 6)),(51,Vb (true)),(5,VRg 35 8 (EV 7) none g2 c2 (us++ [pgE l j]))] a9 w9:=st9.cut
      repeat first|apply Wq|apply Wb|apply Wk|apply Wx
      refine rH [] [Vi (((j:Nat):Int)),Vi (((j+1:Nat):Int)),Vi (((j+1:Nat):Int))] [⟨4,none,none,35,8,Vv 3 ((byQ l).1) ((byQ l).2),VT⟩] [(0,VI l),(3,VSl 67 2 E2 wys),(40,Vb (true)),(7,Vi (atv l (((j:Nat):Int)) 6)),(51,Vb (true)),(5,VRg 35 8 (EV 7) none g2 c2 (us++ [pgE l j])),(6,Vi (((j+1:Nat):Int)))] st9 ⟨?s0,(by refine kr fun _ A Y h D=>?_;obtain⟨v0,x0,X0⟩:=h.dp D 41;exact⟨_,run_addi rfl (x0.trans (show v0= .int .i64 ((j:Nat):Int)from X0)) rfl (wrap_id (by omega) (by omega)),congrArg (Value.int .i64) (by omega)⟩),ks,trivial⟩ ?_
      case s0=>
       refine k_run0 SbB.out (by kernel_rfl) fun listed A Y h D hnl=>⟨trivial,?_⟩
       obtain⟨v0,x0,X0⟩:=h.out0 hnl (6,Vi (((j:Nat):Int))) (.tail _ (.tail _ (.head _))) 2 (by kernel_rfl) (.inr (by kernel_rfl))
       exact⟨_,run_move rfl,by rw [x0];exact X0⟩
      intro a10 w10 st10
      clear st9
      replace st10:St w.heap.size w 91 [⟨4,none,none,35,8,Vv 3 ((byQ l).1) ((byQ l).2),VT⟩] [(0,VI l),(3,VSl 67 2 E2 wys),(40,Vb (true)),(7,Vi (atv l (((j:Nat):Int)) 6)),(51,Vb (true)),(5,VRg 35 8 (EV 7) none g2 c2 (us++ [pgE l j])),(6,Vi (((j+1:Nat):Int)))] a10 w10:=st10
      exact⟨m - 1,by omega,j+1,g2,c2,us++ [pgE l j],by omega,by rw [pgL,if_pos (by rw [<-hus];omega),<-hus],by rw [List.length_append,List.length_singleton];omega,.inr ⟨by omega,by rw [List.length_append,List.length_singleton];omega⟩,st10.cut⟩
    ·
     repeat first|apply Wq|apply Wb|apply Wk|apply Wx
     refine rH [] [Vi (atv l (((j:Nat):Int)) 6),Vb (true),Vb (true),Vi (atv l (((j:Nat):Int)) 6),Vb (false),Vb (false)] [⟨4,none,none,35,8,Vv 3 ((byQ l).1) ((byQ l).2),VT⟩] [(0,VI l),(3,VSl 67 2 E2 wys),(5,VRg 35 8 (EV 7) none g c (us)),(6,Vi (((j:Nat):Int))),(40,Vb (true)),(7,Vi (atv l (((j:Nat):Int)) 6)),(51,Vb (false))] st7 ⟨ks,(by refine kr fun _ A Y h D=>?_;obtain⟨v0,x0,X0⟩:=h.dp D 46;have hV0':v0= .int .i64 (atv l (((j:Nat):Int)) 6):=X0;exact⟨_,run_gtri rfl (x0.trans hV0') rfl,congrArg Value.bool (dT hp0)⟩),ks,ks,(by refine kr fun _ A Y h D=>?_;obtain⟨v0,x0,X0⟩:=h.dp D 49;have hV0':v0= .int .i64 (atv l (((j:Nat):Int)) 6):=X0;exact⟨_,run_lssi rfl (x0.trans hV0') rfl,congrArg Value.bool (dF hp4)⟩),ks,trivial⟩ ?_
     intro a8 w8 st8
     clear st7
     repeat first|apply Wq|apply Wb|apply Wk|apply Wx
     refine cF st8 ?_
     repeat first|apply Wq|apply Wb|apply Wk|apply Wx
     refine rH [] [Vi (((j:Nat):Int)),Vi (((j+1:Nat):Int)),Vi (((j+1:Nat):Int))] [⟨4,none,none,35,8,Vv 3 ((byQ l).1) ((byQ l).2),VT⟩] [(0,VI l),(3,VSl 67 2 E2 wys),(5,VRg 35 8 (EV 7) none g c (us)),(40,Vb (true)),(7,Vi (atv l (((j:Nat):Int)) 6)),(51,Vb (false)),(6,Vi (((j+1:Nat):Int)))] st8 ⟨?s0,(by refine kr fun _ A Y h D=>?_;obtain⟨v0,x0,X0⟩:=h.dp D 41;exact⟨_,run_addi rfl (x0.trans (show v0= .int .i64 ((j:Nat):Int)from X0)) rfl (wrap_id (by omega) (by omega)),congrArg (Value.int .i64) (by omega)⟩),ks,trivial⟩ ?_
     case s0=>
      refine k_run0 SbB.out (by kernel_rfl) fun listed A Y h D hnl=>⟨trivial,?_⟩
      obtain⟨v0,x0,X0⟩:=h.out0 hnl (6,Vi (((j:Nat):Int))) (.tail _ (.tail _ (.tail _ (.head _)))) 2 (by kernel_rfl) (.inr (by kernel_rfl))
      exact⟨_,run_move rfl,by rw [x0];exact X0⟩
     intro a9 w9 st9
     clear st8
     replace st9:St w.heap.size w 91 [⟨4,none,none,35,8,Vv 3 ((byQ l).1) ((byQ l).2),VT⟩] [(0,VI l),(3,VSl 67 2 E2 wys),(5,VRg 35 8 (EV 7) none g c (us)),(40,Vb (true)),(7,Vi (atv l (((j:Nat):Int)) 6)),(51,Vb (false)),(6,Vi (((j+1:Nat):Int)))] a9 w9:=st9
     exact⟨m - 1,by omega,j+1,g,c,us,by omega,by rw [pgL,if_neg (by rw [<-hus];omega)];exact hus,hul,hxc,st9.cut⟩
   ·
    repeat first|apply Wq|apply Wb|apply Wk|apply Wx
    refine rH [] [Vi (atv l (((j:Nat):Int)) 6),Vb (false),Vb (false),VT,VT,Vb (false)] [⟨4,none,none,35,8,Vv 3 ((byQ l).1) ((byQ l).2),VT⟩] [(0,VI l),(3,VSl 67 2 E2 wys),(5,VRg 35 8 (EV 7) none g c (us)),(6,Vi (((j:Nat):Int))),(40,Vb (true)),(7,Vi (atv l (((j:Nat):Int)) 6)),(51,Vb (false))] st7 ⟨ks,(by refine kr fun _ A Y h D=>?_;obtain⟨v0,x0,X0⟩:=h.dp D 46;have hV0':v0= .int .i64 (atv l (((j:Nat):Int)) 6):=X0;exact⟨_,run_gtri rfl (x0.trans hV0') rfl,congrArg Value.bool (dF hp0)⟩),ks,ks,ks,ks,trivial⟩ ?_
    intro a8 w8 st8
    clear st7
    repeat first|apply Wq|apply Wb|apply Wk|apply Wx
    refine cF st8 ?_
    repeat first|apply Wq|apply Wb|apply Wk|apply Wx
    refine rH [] [Vi (((j:Nat):Int)),Vi (((j+1:Nat):Int)),Vi (((j+1:Nat):Int))] [⟨4,none,none,35,8,Vv 3 ((byQ l).1) ((byQ l).2),VT⟩] [(0,VI l),(3,VSl 67 2 E2 wys),(5,VRg 35 8 (EV 7) none g c (us)),(40,Vb (true)),(7,Vi (atv l (((j:Nat):Int)) 6)),(51,Vb (false)),(6,Vi (((j+1:Nat):Int)))] st8 ⟨?s0,(by refine kr fun _ A Y h D=>?_;obtain⟨v0,x0,X0⟩:=h.dp D 41;exact⟨_,run_addi rfl (x0.trans (show v0= .int .i64 ((j:Nat):Int)from X0)) rfl (wrap_id (by omega) (by omega)),congrArg (Value.int .i64) (by omega)⟩),ks,trivial⟩ ?_
    case s0=>
     refine k_run0 SbB.out (by kernel_rfl) fun listed A Y h D hnl=>⟨trivial,?_⟩
     obtain⟨v0,x0,X0⟩:=h.out0 hnl (6,Vi (((j:Nat):Int))) (.tail _ (.tail _ (.tail _ (.head _)))) 2 (by kernel_rfl) (.inr (by kernel_rfl))
     exact⟨_,run_move rfl,by rw [x0];exact X0⟩
    intro a9 w9 st9
    clear st8
    replace st9:St w.heap.size w 91 [⟨4,none,none,35,8,Vv 3 ((byQ l).1) ((byQ l).2),VT⟩] [(0,VI l),(3,VSl 67 2 E2 wys),(5,VRg 35 8 (EV 7) none g c (us)),(40,Vb (true)),(7,Vi (atv l (((j:Nat):Int)) 6)),(51,Vb (false)),(6,Vi (((j+1:Nat):Int)))] a9 w9:=st9
    exact⟨m - 1,by omega,j+1,g,c,us,by omega,by rw [pgL,if_neg (by rw [<-hus];omega)];exact hus,hul,hxc,st9.cut⟩
  ·
   repeat first|apply Wq|apply Wb|apply Wk|apply Wx
   refine rH [] [Vi (((j:Nat):Int)),VSl 67 2 E2 wys,Vi (16),Vb (true),Vb (true),VRg 35 8 (EV 7) none g c (us),Vi ((us.length:Int)),Vb (false),Vb (false)] [⟨4,none,none,35,8,Vv 3 ((byQ l).1) ((byQ l).2),VT⟩] [(0,VI l),(3,VSl 67 2 E2 wys),(5,VRg 35 8 (EV 7) none g c (us)),(6,Vi (((j:Nat):Int))),(40,Vb (false))] st5 ⟨ks,ks,(kr1 33 fun _ _ _ _ _ x0 X0=>len_A16 rfl rfl x0 X0),(by refine kr fun _ A Y h D=>?_;obtain⟨v0,x0,X0⟩:=h.dp D 32;have hV0':v0= .int .i64 (((j:Nat):Int)):=X0;obtain⟨v1,x1,X1⟩:=h.dp D 34;have hV1':v1= .int .i64 (16):=X1;exact⟨_,run_lssi rfl (x0.trans hV0') (x1.trans hV1'),congrArg Value.bool (dT (by omega))⟩),ks,ks,(kr1 37 fun _ _ _ _ _ x0 X0=>len_Rg rfl rfl x0 X0),(by refine kr fun _ A Y h D=>?_;obtain⟨v0,x0,X0⟩:=h.dp D 38;have hV0':v0= .int .i64 ((us.length:Int)):=X0;exact⟨_,run_lssi rfl (x0.trans hV0') rfl,congrArg Value.bool (dF (by omega))⟩),ks,trivial⟩ ?_
   intro a6 w6 st6
   clear st5
   repeat first|apply Wq|apply Wb|apply Wk|apply Wx
   refine cF st6 ?_
   have hus16:us=pgL l 16:=by rw [hus,show 16=j+(16 - j) by omega,pgL_stay (by rw [<-hus];omega)]
   have hus0:us= []->c=0:=fun e=>by rcases hxc with h|⟨-,h⟩;exact h;rw [e] at h;simp at h
   by_cases hcc:validR us=true
   ·
    repeat first|apply Wq|apply Wb|apply Wk|apply Wx
    refine rH [] [VRg 35 8 (EV 7) none g c (us),Vb (true)] [⟨4,none,none,35,8,Vv 3 ((byQ l).1) ((byQ l).2),VT⟩] [(0,VI l),(3,VSl 67 2 E2 wys),(5,VRg 35 8 (EV 7) none g c (us)),(6,Vi (((j:Nat):Int))),(40,Vb (false)),(75,Vb (true))] st6 ⟨ks,(kd1 fun _ _ _ _ _ X0=>cR6ValidV (N:=7) (show VEq _ _ _ from rfl) (VRg_sv X0 hus0) (by omega) (by omega) hcc),trivial⟩ ?_
    intro a7 w7 st7
    clear st6
    repeat first|apply Wq|apply Wb|apply Wk|apply Wx
    refine cT st7 ?_
    repeat first|apply Wq|apply Wb|apply Wk|apply Wx
    refine rH [] [VRg 35 8 (EV 7) none g c (us),VRg 35 8 (EV 7) none g c (us)] [⟨4,none,none,35,8,Vv 3 ((byQ l).1) ((byQ l).2),VT⟩] [(0,VI l),(3,VSl 67 2 E2 wys),(5,VRg 35 8 (EV 7) none g c (us)),(6,Vi (((j:Nat):Int))),(40,Vb (false)),(75,Vb (true)),(2,VRg 35 8 (EV 7) none g c (us))] st7 ⟨ks,ks,trivial⟩ ?_
    intro a8 w8 st8
    clear st7
    repeat first|apply Wq|apply Wb|apply Wk|apply Wx
    exact wp_ret (rS 2 (VRg 35 8 (EV 7) none g c (us)) st8 fun vr r4=>(by rw [show polyR l=pgL l 16 from if_pos (by rw [<-hus16];exact hcc),<-hus16];exact VRg_sv r4 hus0))
   ·
    repeat first|apply Wq|apply Wb|apply Wk|apply Wx
    refine rH [] [VRg 35 8 (EV 7) none g c (us),Vb (false)] [⟨4,none,none,35,8,Vv 3 ((byQ l).1) ((byQ l).2),VT⟩] [(0,VI l),(3,VSl 67 2 E2 wys),(5,VRg 35 8 (EV 7) none g c (us)),(6,Vi (((j:Nat):Int))),(40,Vb (false)),(75,Vb (false))] st6 ⟨ks,(kd1 fun _ _ _ _ _ X0=>cR6ValidV (N:=7) (show VEq _ _ _ from rfl) (VRg_sv X0 hus0) (by omega) (by omega) (Bool.eq_false_iff.2 hcc)),trivial⟩ ?_
    intro a7 w7 st7
    clear st6
    repeat first|apply Wq|apply Wb|apply Wk|apply Wx
    refine cF st7 ?_
    have ha0:=atv_lo l 0 2 (by omega)
    have ha1:=atv_hi l 0 2 (by omega)
    repeat first|apply Wq|apply Wb|apply Wk|apply Wx
    refine rH [] [Vv 3 ((byQ l).1) ((byQ l).2),Vv 3 ((byQ l).1) ((byQ l).2),Vv 3 (Rat.divInt (4) 1) (Rat.divInt (0) 1),Vv 7 (((byQ l).1)+(Rat.divInt (4) 1)) (((byQ l).2)+(Rat.divInt (0) 1)),Vv 3 ((byQ l).1) ((byQ l).2),VI l,Vi (atv l (0) 2),Vi ((1)+(atv l (0) 2)),Vv 3 (Rat.divInt ((1)+(atv l (0) 2)) 1) (Rat.divInt (3) 1),Vv 7 (((byQ l).1)+(Rat.divInt ((1)+(atv l (0) 2)) 1)) (((byQ l).2)+(Rat.divInt (3) 1)),Vv 3 ((byQ l).1) ((byQ l).2),Vv 3 (Rat.divInt (1) 1) (Rat.divInt (1) 1),Vv 7 (((byQ l).1)+(Rat.divInt (1) 1)) (((byQ l).2)+(Rat.divInt (1) 1)),VSv 7 (pgF l),VSv 7 (pgF l)] [⟨4,none,none,35,8,Vv 3 ((byQ l).1) ((byQ l).2),VT⟩] [(0,VI l),(3,VSl 67 2 E2 wys),(5,VRg 35 8 (EV 7) none g c (us)),(6,Vi (((j:Nat):Int))),(40,Vb (false)),(75,Vb (false)),(2,VSv 7 (pgF l))] st7 ⟨ks,ks,(by refine kc fun _ A Y h D=>?_;exact⟨#[.int .i64 (4),.int .i64 (0)],by simp [eval_const],cR5Of (show Vi 4 (.int .i64 (4)) Y from rfl) (show Vi 0 (.int .i64 (0)) Y from rfl) (by omega) (by omega) (by omega) (by omega)⟩),(kd2 fun _ _ _ _ _ X0 _ X1=>cR5Add (N:=3) X0 X1 (by omega) (by omega)),ks,ks,(by refine kc fun _ A Y h D=>?_;obtain⟨v0,x0,X0⟩:=h.dp D 82;exact⟨#[v0,.int .i64 (0),.int .i64 (2)],by simp [x0,eval_const],cAt X0 (show Vi (0) (.int .i64 (0)) Y from rfl) (by omega) (by omega) (by omega) (by omega)⟩),(by refine kr fun _ A Y h D=>?_;obtain⟨v1,x1,X1⟩:=h.dp D 83;have hV1':v1= .int .i64 (atv l (0) 2):=X1;exact⟨_,run_addi rfl rfl (x1.trans hV1') (wrap_id (by omega) (by omega)),rfl⟩),(by refine kc fun _ A Y h D=>?_;obtain⟨v0,x0,X0⟩:=h.dp D 84;exact⟨#[v0,.int .i64 (3)],by simp [x0,eval_const],cR5Of X0 (show Vi 3 (.int .i64 (3)) Y from rfl) (by omega) (by omega) (by omega) (by omega)⟩),(kd2 fun _ _ _ _ _ X0 _ X1=>cR5Add (N:=3) X0 X1 (by omega) (by omega)),ks,(by refine kc fun _ A Y h D=>?_;exact⟨#[.int .i64 (1),.int .i64 (1)],by simp [eval_const],cR5Of (show Vi 1 (.int .i64 (1)) Y from rfl) (show Vi 1 (.int .i64 (1)) Y from rfl) (by omega) (by omega) (by omega) (by omega)⟩),(kd2 fun _ _ _ _ _ X0 _ X1=>cR5Add (N:=3) X0 X1 (by omega) (by omega)),(by refine km fun _ A Y h D=>?_;obtain⟨v0,x0,X0⟩:=h.dp D 77;obtain⟨v1,x1,X1⟩:=h.dp D 80;obtain⟨v2,x2,X2⟩:=h.dp D 86;obtain⟨v3,x3,X3⟩:=h.dp D 89;exact bslice_V4 (M:=7) (d0:=byQ l) (d1:=((byQ l).1+Rat.divInt 4 1,(byQ l).2+Rat.divInt 0 1)) (d2:=((byQ l).1+Rat.divInt (1+atv l 0 2) 1,(byQ l).2+Rat.divInt 3 1)) (d3:=((byQ l).1+Rat.divInt 1 1,(byQ l).2+Rat.divInt 1 1)) rfl x0 x1 x2 x3 (Vv_le X0 (by omega)) X1 X2 X3),ks,trivial⟩ ?_
    intro a8 w8 st8
    clear st7
    repeat first|apply Wq|apply Wb|apply Wk|apply Wx
    exact wp_ret (rS 2 (VSv 7 (pgF l)) st8 fun vr r4=>(by rw [show polyR l=pgF l from if_neg (by rw [<-hus16];exact hcc)];exact r4))
 ·
  repeat first|apply Wq|apply Wb|apply Wk|apply Wx
  refine rH [] [Vi (((j:Nat):Int)),VSl 67 2 E2 wys,Vi (16),Vb (false),Vb (false),VT,VT,VT,Vb (false)] [⟨4,none,none,35,8,Vv 3 ((byQ l).1) ((byQ l).2),VT⟩] [(0,VI l),(3,VSl 67 2 E2 wys),(5,VRg 35 8 (EV 7) none g c (us)),(6,Vi (((j:Nat):Int))),(40,Vb (false))] st5 ⟨ks,ks,(kr1 33 fun _ _ _ _ _ x0 X0=>len_A16 rfl rfl x0 X0),(by refine kr fun _ A Y h D=>?_;obtain⟨v0,x0,X0⟩:=h.dp D 32;have hV0':v0= .int .i64 (((j:Nat):Int)):=X0;obtain⟨v1,x1,X1⟩:=h.dp D 34;have hV1':v1= .int .i64 (16):=X1;exact⟨_,run_lssi rfl (x0.trans hV0') (x1.trans hV1'),congrArg Value.bool (dF (by omega))⟩),ks,ks,?s6,ks,ks,trivial⟩ ?_
  case s6=>
   refine k_skip SbB.out (by kernel_rfl) fun listed A Y h D=>⟨?_,trivial⟩
   obtain⟨u,hu,hy,hU⟩:=h.dep D 4 36 (by kernel_rfl) (by kernel_rfl)
   obtain rfl:u= .bool false:=hU
   exact⟨4,true,false,rfl,hy,by decide⟩
  intro a6 w6 st6
  clear st5
  repeat first|apply Wq|apply Wb|apply Wk|apply Wx
  refine cF st6 ?_
  have hus16:us=pgL l 16:=by rw [hus,show j=16 by omega]
  have hus0:us= []->c=0:=fun e=>by rcases hxc with h|⟨-,h⟩;exact h;rw [e] at h;simp at h
  by_cases hcc:validR us=true
  ·
   repeat first|apply Wq|apply Wb|apply Wk|apply Wx
   refine rH [] [VRg 35 8 (EV 7) none g c (us),Vb (true)] [⟨4,none,none,35,8,Vv 3 ((byQ l).1) ((byQ l).2),VT⟩] [(0,VI l),(3,VSl 67 2 E2 wys),(5,VRg 35 8 (EV 7) none g c (us)),(6,Vi (((j:Nat):Int))),(40,Vb (false)),(75,Vb (true))] st6 ⟨ks,(kd1 fun _ _ _ _ _ X0=>cR6ValidV (N:=7) (show VEq _ _ _ from rfl) (VRg_sv X0 hus0) (by omega) (by omega) hcc),trivial⟩ ?_
   intro a7 w7 st7
   clear st6
   repeat first|apply Wq|apply Wb|apply Wk|apply Wx
   refine cT st7 ?_
   repeat first|apply Wq|apply Wb|apply Wk|apply Wx
   refine rH [] [VRg 35 8 (EV 7) none g c (us),VRg 35 8 (EV 7) none g c (us)] [⟨4,none,none,35,8,Vv 3 ((byQ l).1) ((byQ l).2),VT⟩] [(0,VI l),(3,VSl 67 2 E2 wys),(5,VRg 35 8 (EV 7) none g c (us)),(6,Vi (((j:Nat):Int))),(40,Vb (false)),(75,Vb (true)),(2,VRg 35 8 (EV 7) none g c (us))] st7 ⟨ks,ks,trivial⟩ ?_
   intro a8 w8 st8
   clear st7
   repeat first|apply Wq|apply Wb|apply Wk|apply Wx
   exact wp_ret (rS 2 (VRg 35 8 (EV 7) none g c (us)) st8 fun vr r4=>(by rw [show polyR l=pgL l 16 from if_pos (by rw [<-hus16];exact hcc),<-hus16];exact VRg_sv r4 hus0))
  ·
   repeat first|apply Wq|apply Wb|apply Wk|apply Wx
   refine rH [] [VRg 35 8 (EV 7) none g c (us),Vb (false)] [⟨4,none,none,35,8,Vv 3 ((byQ l).1) ((byQ l).2),VT⟩] [(0,VI l),(3,VSl 67 2 E2 wys),(5,VRg 35 8 (EV 7) none g c (us)),(6,Vi (((j:Nat):Int))),(40,Vb (false)),(75,Vb (false))] st6 ⟨ks,(kd1 fun _ _ _ _ _ X0=>cR6ValidV (N:=7) (show VEq _ _ _ from rfl) (VRg_sv X0 hus0) (by omega) (by omega) (Bool.eq_false_iff.2 hcc)),trivial⟩ ?_
   intro a7 w7 st7
   clear st6
   repeat first|apply Wq|apply Wb|apply Wk|apply Wx
   refine cF st7 ?_
   have ha0:=atv_lo l 0 2 (by omega)
   have ha1:=atv_hi l 0 2 (by omega)
   repeat first|apply Wq|apply Wb|apply Wk|apply Wx
   refine rH [] [Vv 3 ((byQ l).1) ((byQ l).2),Vv 3 ((byQ l).1) ((byQ l).2),Vv 3 (Rat.divInt (4) 1) (Rat.divInt (0) 1),Vv 7 (((byQ l).1)+(Rat.divInt (4) 1)) (((byQ l).2)+(Rat.divInt (0) 1)),Vv 3 ((byQ l).1) ((byQ l).2),VI l,Vi (atv l (0) 2),Vi ((1)+(atv l (0) 2)),Vv 3 (Rat.divInt ((1)+(atv l (0) 2)) 1) (Rat.divInt (3) 1),Vv 7 (((byQ l).1)+(Rat.divInt ((1)+(atv l (0) 2)) 1)) (((byQ l).2)+(Rat.divInt (3) 1)),Vv 3 ((byQ l).1) ((byQ l).2),Vv 3 (Rat.divInt (1) 1) (Rat.divInt (1) 1),Vv 7 (((byQ l).1)+(Rat.divInt (1) 1)) (((byQ l).2)+(Rat.divInt (1) 1)),VSv 7 (pgF l),VSv 7 (pgF l)] [⟨4,none,none,35,8,Vv 3 ((byQ l).1) ((byQ l).2),VT⟩] [(0,VI l),(3,VSl 67 2 E2 wys),(5,VRg 35 8 (EV 7) none g c (us)),(6,Vi (((j:Nat):Int))),(40,Vb (false)),(75,Vb (false)),(2,VSv 7 (pgF l))] st7 ⟨ks,ks,(by refine kc fun _ A Y h D=>?_;exact⟨#[.int .i64 (4),.int .i64 (0)],by simp [eval_const],cR5Of (show Vi 4 (.int .i64 (4)) Y from rfl) (show Vi 0 (.int .i64 (0)) Y from rfl) (by omega) (by omega) (by omega) (by omega)⟩),(kd2 fun _ _ _ _ _ X0 _ X1=>cR5Add (N:=3) X0 X1 (by omega) (by omega)),ks,ks,(by refine kc fun _ A Y h D=>?_;obtain⟨v0,x0,X0⟩:=h.dp D 82;exact⟨#[v0,.int .i64 (0),.int .i64 (2)],by simp [x0,eval_const],cAt X0 (show Vi (0) (.int .i64 (0)) Y from rfl) (by omega) (by omega) (by omega) (by omega)⟩),(by refine kr fun _ A Y h D=>?_;obtain⟨v1,x1,X1⟩:=h.dp D 83;have hV1':v1= .int .i64 (atv l (0) 2):=X1;exact⟨_,run_addi rfl rfl (x1.trans hV1') (wrap_id (by omega) (by omega)),rfl⟩),(by refine kc fun _ A Y h D=>?_;obtain⟨v0,x0,X0⟩:=h.dp D 84;exact⟨#[v0,.int .i64 (3)],by simp [x0,eval_const],cR5Of X0 (show Vi 3 (.int .i64 (3)) Y from rfl) (by omega) (by omega) (by omega) (by omega)⟩),(kd2 fun _ _ _ _ _ X0 _ X1=>cR5Add (N:=3) X0 X1 (by omega) (by omega)),ks,(by refine kc fun _ A Y h D=>?_;exact⟨#[.int .i64 (1),.int .i64 (1)],by simp [eval_const],cR5Of (show Vi 1 (.int .i64 (1)) Y from rfl) (show Vi 1 (.int .i64 (1)) Y from rfl) (by omega) (by omega) (by omega) (by omega)⟩),(kd2 fun _ _ _ _ _ X0 _ X1=>cR5Add (N:=3) X0 X1 (by omega) (by omega)),(by refine km fun _ A Y h D=>?_;obtain⟨v0,x0,X0⟩:=h.dp D 77;obtain⟨v1,x1,X1⟩:=h.dp D 80;obtain⟨v2,x2,X2⟩:=h.dp D 86;obtain⟨v3,x3,X3⟩:=h.dp D 89;exact bslice_V4 (M:=7) (d0:=byQ l) (d1:=((byQ l).1+Rat.divInt 4 1,(byQ l).2+Rat.divInt 0 1)) (d2:=((byQ l).1+Rat.divInt (1+atv l 0 2) 1,(byQ l).2+Rat.divInt 3 1)) (d3:=((byQ l).1+Rat.divInt 1 1,(byQ l).2+Rat.divInt 1 1)) rfl x0 x1 x2 x3 (Vv_le X0 (by omega)) X1 X2 X3),ks,trivial⟩ ?_
   intro a8 w8 st8
   clear st7
   repeat first|apply Wq|apply Wb|apply Wk|apply Wx
   exact wp_ret (rS 2 (VSv 7 (pgF l)) st8 fun vr r4=>(by rw [show polyR l=pgF l from if_neg (by rw [<-hus16];exact hcc)];exact r4))
end Go.Proofs.YtjdkdjobaabdiaaGreat
