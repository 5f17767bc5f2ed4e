/- Contracts of the packages integer, rat, plane, polygon and their references. -/
import Derived.Test.YteacdbgalloaiaaGreatB21
set_option linter.unusedVariables false
set_option maxRecDepth 100000
set_option maxHeartbeats 6400000
namespace Go.Proofs.YteacdbgalloaiaaGreat
open Go.RowKit
open Go
theorem mul_bd4 {a k:Int}(h1: -4<=a)(h2:a<=4)(h3:0<=k)(h4:k<6): -24<=a*k/\a*k<=24:=by
 have h5:k=0∨k=1∨k=2∨k=3∨k=4∨k=5:=by omega
 rcases h5 with h|h|h|h|h|h<;>subst h<;>omega
theorem Stab_VSvN {N:Nat}{vs:List P2}:Stab [] (VSv N vs):=fun _ _ _ h hr=>h.imp id fun ⟨hh,o,c,cs,e1,e2,e3,e4,e5,e6⟩=>⟨hh,o,c,cs,e1,e2,e3,(hr.row _ _ _ e4 (.inl (by simp))).trans e4,e5,fun i x hx=>Stab_Vv _ _ _ _ _ _ (e6 i x hx) hr⟩
theorem cR6Polygon {w:World}{l:List Int}{v0:Value}(h0:VI l v0 w):Calls Tryz.prog 8 #[v0] w (RV (VSv 7 (polyR l)) w):=by
 go_enter Tryz.func8,Tryz.ntmps8
 refine Sg 91 [(0,VI l)] (Lq.2 ⟨⟨_,rfl,h0⟩,L0⟩) fun a0 st0=>Wn ?_
 refine rH [(32,8,0)] [VEq (.slice none 0 0)] [] [(0,VI l),(2,VEq (.slice none 0 0))] st0 ⟨ks,trivial⟩ fun a1 w1 st1=>Wn ?_
 have:Sb [(32,8,0)] (VSl 63 2 E2 wys):=⟨Stab_VSl2 (by simp)⟩;refine rH [(32,8,0)] [E2 (4,0),E2 (4,2),E2 (3,3),E2 (2,4),E2 (0,4),E2 (-2,4),E2 (-3,3),E2 (-4,2),E2 (-4,0),E2 (-4,-2),E2 (-3,-3),E2 (-2,-4),E2 (0,-4),E2 (2,-4),E2 (3,-3),E2 (4,-2),VSl 63 2 E2 wys,VSl 63 2 E2 wys] [] [(0,VI l),(2,VEq (.slice none 0 0)),(3,VSl 63 2 E2 wys)] st1 ⟨(kr fun _ A Y h D=>run_build2 (a:=4) (b:=0) rfl (fun _=>rfl)),(kr fun _ A Y h D=>run_build2 (a:=4) (b:=2) rfl (fun _=>rfl)),(kr fun _ A Y h D=>run_build2 (a:=3) (b:=3) rfl (fun _=>rfl)),(kr fun _ A Y h D=>run_build2 (a:=2) (b:=4) rfl (fun _=>rfl)),(kr fun _ A Y h D=>run_build2 (a:=0) (b:=4) rfl (fun _=>rfl)),(kr fun _ A Y h D=>run_build2 (a:= -2) (b:=4) rfl (fun _=>rfl)),(kr fun _ A Y h D=>run_build2 (a:= -3) (b:=3) rfl (fun _=>rfl)),(kr fun _ A Y h D=>run_build2 (a:= -4) (b:=2) rfl (fun _=>rfl)),(kr fun _ A Y h D=>run_build2 (a:= -4) (b:=0) rfl (fun _=>rfl)),(kr fun _ A Y h D=>run_build2 (a:= -4) (b:= -2) rfl (fun _=>rfl)),(kr fun _ A Y h D=>run_build2 (a:= -3) (b:= -3) rfl (fun _=>rfl)),(kr fun _ A Y h D=>run_build2 (a:= -2) (b:= -4) rfl (fun _=>rfl)),(kr fun _ A Y h D=>run_build2 (a:=0) (b:= -4) rfl (fun _=>rfl)),(kr fun _ A Y h D=>run_build2 (a:=2) (b:= -4) rfl (fun _=>rfl)),(kr fun _ A Y h D=>run_build2 (a:=3) (b:= -3) rfl (fun _=>rfl)),(kr fun _ A Y h D=>run_build2 (a:=4) (b:= -2) rfl (fun _=>rfl)),(by refine km fun _ A Y h D=>?_;obtain⟨v0,x0,X0⟩:=h.dp D 8;obtain⟨v1,x1,X1⟩:=h.dp D 9;obtain⟨v2,x2,X2⟩:=h.dp D 10;obtain⟨v3,x3,X3⟩:=h.dp D 11;obtain⟨v4,x4,X4⟩:=h.dp D 12;obtain⟨v5,x5,X5⟩:=h.dp D 13;obtain⟨v6,x6,X6⟩:=h.dp D 14;obtain⟨v7,x7,X7⟩:=h.dp D 15;obtain⟨v8,x8,X8⟩:=h.dp D 16;obtain⟨v9,x9,X9⟩:=h.dp D 17;obtain⟨v10,hv10,hV10⟩:=h.dp D 18;obtain⟨v11,hv11,hV11⟩:=h.dp D 19;obtain⟨v12,hv12,hV12⟩:=h.dp D 20;obtain⟨v13,hv13,hV13⟩:=h.dp D 21;obtain⟨v14,hv14,hV14⟩:=h.dp D 22;obtain⟨v15,hv15,hV15⟩:=h.dp D 23;exact bslice_A16 rfl x0 x1 x2 x3 x4 x5 x6 x7 x8 x9 hv10 hv11 hv12 hv13 hv14 hv15 X0 X1 X2 X3 X4 X5 X6 X7 X8 X9 hV10 hV11 hV12 hV13 hV14 hV15),ks,trivial⟩ ?_;intro a2 w2 st2;have ha0:=atv_lo l 16 9 (by omega);have ha1:=atv_hi l 16 9 (by omega);have ha2:=atv_lo l 17 9 (by omega);have ha3:=atv_hi l 17 9 (by omega);refine Wn ?_
 have:Sb [(32,8,0)] (VSl 63 2 E2 wys):=⟨Stab_VSl2 (by simp)⟩;refine rH [(32,8,0)] [VI l,Vi (atv l 16 9),Vi ((atv l 16 9) - 4),VI l,Vi (atv l 17 9),Vi ((atv l 17 9) - 4),Vv 3 (Rat.divInt ((atv l 16 9) - 4) 1) (Rat.divInt ((atv l 17 9) - 4) 1),VT,VT] [⟨4,some 7,some 8,32,8,Vv 3 (Rat.divInt ((atv l 16 9) - 4) 1) (Rat.divInt ((atv l 17 9) - 4) 1),VT⟩] [(0,VI l),(2,VEq (.slice none 0 0)),(3,VSl 63 2 E2 wys)] st2 ⟨ks,(by refine kc fun _ A Y h D=>?_;obtain⟨v0,x0,X0⟩:=h.dp D 25;exact⟨#[v0,.int .i64 16,.int .i64 9],by simp [x0,eval_const],cAt X0 (show Vi 16 (.int .i64 16) Y from rfl)⟩),(kr1 26 fun _ _ _ _ _ x0 X0=>⟨_,run_subi rfl (x0.trans X0) rfl wO,rfl⟩),ks,(by refine kc fun _ A Y h D=>?_;obtain⟨v0,x0,X0⟩:=h.dp D 28;exact⟨#[v0,.int .i64 17,.int .i64 9],by simp [x0,eval_const],cAt X0 (show Vi 17 (.int .i64 17) Y from rfl)⟩),(kr1 29 fun _ _ _ _ _ x0 X0=>⟨_,run_subi rfl (x0.trans X0) rfl wO,rfl⟩),(kd2 fun _ _ _ _ _ X0 _ X1=>cR5Of X0 X1),ks,ks,trivial⟩ ?_;intro a3 w3 st3;replace st3:St w.heap.size w 91 [.k 4 32 8 (Vv 3 (Rat.divInt ((atv l 16 9) - 4) 1) (Rat.divInt ((atv l 17 9) - 4) 1))] [(0,VI l),(2,VEq (.slice none 0 0)),(3,VSl 63 2 E2 wys)] a3 w3:=st3;replace st3:St w.heap.size w 91 [.k 4 32 8 (Vv 3 ((byQ l).1) ((byQ l).2))] [(0,VI l),(2,VEq (.slice none 0 0)),(3,VSl 63 2 E2 wys)] a3 w3:=st3;clear ha0 ha1 ha2 ha3;refine Wn ?_
 have:Sb [(32,8,0)] (VSl 63 2 E2 wys):=⟨Stab_VSl2 (by simp)⟩;refine rH [(32,8,0)] [VEq (.slice none 0 0)] [.k 4 32 8 (Vv 3 ((byQ l).1) ((byQ l).2))] [(0,VI l),(2,VEq (.slice none 0 0)),(3,VSl 63 2 E2 wys),(5,VEq (.slice none 0 0))] st3 ⟨ks,trivial⟩ fun a4 w4 st4=>Wn ?_
 have:Sb [(32,8,0)] (VSl 63 2 E2 wys):=⟨Stab_VSl2 (by simp)⟩;refine rH [(32,8,0)] [Vi 0] [.k 4 32 8 (Vv 3 ((byQ l).1) ((byQ l).2))] [(0,VI l),(2,VEq (.slice none 0 0)),(3,VSl 63 2 E2 wys),(5,VEq (.slice none 0 0)),(6,Vi 0)] st4 ⟨ks,trivial⟩ ?_;intro a5 w5 st5;replace st5:St w.heap.size w 91 [.k 4 32 8 (Vv 3 ((byQ l).1) ((byQ l).2))] [(0,VI l),(2,VEq (.slice none 0 0)),(3,VSl 63 2 E2 wys),(5,VEq (.slice none 0 0)),(6,Vi 0)] a5 w5:=st5;obtain⟨vR,heR,hvR⟩:=st5.sl (5,VEq (.slice none 0 0)) (lS_mem rfl);replace st5:=st5.reT 5 (VRg 32 8 (EV 7) none 0 0 ([])) heR ⟨by simp,by omega,.inl ⟨rfl,hvR⟩⟩;replace st5:St w.heap.size w 91 [.k 4 32 8 (Vv 3 ((byQ l).1) ((byQ l).2))] [(0,VI l),(3,VSl 63 2 E2 wys),(5,VRg 32 8 (EV 7) none 0 0 ([])),(6,Vi ((0:Nat):Int))] a5 w5:=st5.cut;clear heR hvR;refine Wn ?_
 refine wp_loop_ghost (fun m aX wX=>∃(j g c:Nat) (us:List P2),j+m=16/\us=pgL l j/\us.length<=12/\(c=0∨w.heap.size<=g/\0<us.length)/\St w.heap.size w 91 [.k 4 32 8 (Vv 3 ((byQ l).1) ((byQ l).2))] [(0,VI l),(3,VSl 63 2 E2 wys),(5,VRg 32 8 (EV 7) none g c us),(6,Vi j)] aX wX) 16 ⟨0,0,0,[],by omega,rfl,by simp,.inl rfl,st5⟩ ?_;intro m aL wL ⟨j,g,c,us,hj,hus,hul,hxc,st5⟩;by_cases hlt:j<16
 ·
  by_cases h12:us.length<12
  ·
   refine Wn ?_
   refine rH [] [Vi j,VSl 63 2 E2 wys,Vi 16,Vb true,Vb true,VRg 32 8 (EV 7) none g c us,Vi (us.length:Int),Vb true,Vb true] [.k 4 32 8 (Vv 3 ((byQ l).1) ((byQ l).2))] [(0,VI l),(3,VSl 63 2 E2 wys),(5,VRg 32 8 (EV 7) none g c us),(6,Vi j),(40,Vb true)] st5 ⟨ks,ks,(kr1 33 fun _ _ _ _ _ x0 X0=>len_A16 rfl rfl x0 X0),(kr2 32 34 fun _ _ _ _ _ x0 X0 _ x1 X1=>⟨_,run_lssi rfl (x0.trans X0) (x1.trans X1),congrArg Value.bool (dT (by omega))⟩),ks,ks,(kr1 37 fun _ _ _ _ _ x0 X0=>len_Rg rfl rfl x0 X0),(kr1 38 fun _ _ _ _ _ x0 X0=>⟨_,run_lssi rfl (x0.trans X0) rfl,congrArg Value.bool (dT (by omega))⟩),ks,trivial⟩ fun a6 w6 st6=>Wn ?_
   refine cT st6 ?_;have hk0:=atv_lo l (j:Int) 6 (by omega);have hk5:=atv_hi l (j:Int) 6 (by omega);refine Wn ?_
   refine rH [] [VI l,Vi j,Vi (atv l ((j:Nat):Int) 6),Vi (atv l ((j:Nat):Int) 6)] [.k 4 32 8 (Vv 3 ((byQ l).1) ((byQ l).2))] [(0,VI l),(3,VSl 63 2 E2 wys),(5,VRg 32 8 (EV 7) none g c us),(6,Vi j),(40,Vb true),(7,Vi (atv l ((j:Nat):Int) 6))] st6 ⟨ks,ks,(by refine kc fun _ A Y h D=>?_;obtain⟨v0,x0,X0⟩:=h.dp D 43;obtain⟨v1,x1,X1⟩:=h.dp D 44;exact⟨#[v0,v1,.int .i64 6],by simp [x0,x1,eval_const],cAt X0 X1⟩),ks,trivial⟩ ?_;intro a7 w7 st7;by_cases hp0:0<atv l (j:Int) 6
   ·
    by_cases hp4:atv l (j:Int) 6<4
    ·
     refine Wn ?_
     refine rH [] [Vi (atv l ((j:Nat):Int) 6),Vb true,Vb true,Vi (atv l ((j:Nat):Int) 6),Vb true,Vb true] [.k 4 32 8 (Vv 3 ((byQ l).1) ((byQ l).2))] [(0,VI l),(3,VSl 63 2 E2 wys),(5,VRg 32 8 (EV 7) none g c us),(6,Vi j),(40,Vb true),(7,Vi (atv l ((j:Nat):Int) 6)),(51,Vb true)] st7 ⟨ks,(kr1 46 fun _ _ _ _ _ x0 X0=>⟨_,run_gtri rfl (x0.trans X0) rfl,congrArg Value.bool (dT hp0)⟩),ks,ks,(kr1 49 fun _ _ _ _ _ x0 X0=>⟨_,run_lssi rfl (x0.trans X0) rfl,congrArg Value.bool (dT hp4)⟩),ks,trivial⟩ fun a8 w8 st8=>Wn ?_
     refine cT st8 ?_;have hw:=wys_bd j hlt;have hm1: -24<=(wyc j).1*atv l (j:Int) 6/\(wyc j).1*atv l (j:Int) 6<=24:=mul_bd4 hw.1 hw.2.1 hk0 hk5;have hm2: -24<=(wyc j).2*atv l (j:Int) 6/\(wyc j).2*atv l (j:Int) 6<=24:=mul_bd4 hw.2.2.1 hw.2.2.2 hk0 hk5;by_cases hrm:(us).length+([pgE l j]).length<=c
     ·
      replace st8:St w.heap.size w 91 [.k 4 32 8 (Vv 3 ((byQ l).1) ((byQ l).2))] [(0,VI l),(3,VSl 63 2 E2 wys),(5,VRg 32 8 (EV 7) none g c us),(6,Vi j),(40,Vb true),(7,Vi (atv l ((j:Nat):Int) 6)),(51,Vb true)] a8 w8:=st8;obtain⟨vR,heR,hlR,hcmR,(⟨h0,-⟩|⟨h0,hvR,hrow⟩)⟩:=st8.sl (5,VRg 32 8 (EV 7) none g c us) (lS_mem rfl)
      ·simp only [List.length_cons,List.length_nil] at hrm;omega
      have h2c:2<=c:=by simp only [List.length_cons,List.length_nil] at hrm;omega
      have hgn:w.heap.size<=g:=by omega
      replace st8:=st8.reT 5 (VEq (.slice (some ⟨g,0,none⟩) us.length c)) heR hvR;replace st8:St w.heap.size w 91 [.k 4 32 8 (Vv 3 ((byQ l).1) ((byQ l).2))] [(0,VI l),(3,VSl 63 2 E2 wys),(5,VEq (.slice (some ⟨g,0,none⟩) us.length c)),(6,Vi j),(40,Vb true),(7,Vi (atv l ((j:Nat):Int) 6)),(51,Vb true)] a8 w8:=st8.cut;clear heR hvR hlR;refine Wn ?_
      have:Sb ((32,8*c,0):: []) (VSl 63 2 E2 wys):=⟨Stab_VSl2 (by simp)⟩;have:Sb ((32,8*c,0):: []) (VEp 63 2 (E2 (wyc j))):=⟨Stab_VEp2 (by simp)⟩;have:Sb ((32,8*c,0):: []) (VOs 32 8 (EV 7) ([pgE l j])):=⟨Stab_VOs (fun x=>Stab_Vv _ _ _) (by first|(simp;done)|(simp;omega))⟩;refine rgR (BT:=[]) (Vl:=[VEq (.slice (some ⟨g,0,none⟩) us.length c),Vv 3 ((byQ l).1) ((byQ l).2),VSl 63 2 E2 wys,Vi j,VEp 63 2 (E2 (wyc j)),VPc ((wyc j).1),Vi ((wyc j).1),Vi (atv l ((j:Nat):Int) 6),Vi (((wyc j).1)*(atv l ((j:Nat):Int) 6)),Vq 3 (Rat.divInt (((wyc j).1)*(atv l ((j:Nat):Int) 6)) 2),VSl 63 2 E2 wys,Vi j,VEp 63 2 (E2 (wyc j)),VPc ((wyc j).2),Vi ((wyc j).2),Vi (atv l ((j:Nat):Int) 6),Vi (((wyc j).2)*(atv l ((j:Nat):Int) 6)),Vq 3 (Rat.divInt (((wyc j).2)*(atv l ((j:Nat):Int) 6)) 2),Vv 3 (Rat.divInt (((wyc j).1)*(atv l ((j:Nat):Int) 6)) 2) (Rat.divInt (((wyc j).2)*(atv l ((j:Nat):Int) 6)) 2),Vv 7 (((byQ l).1)+(Rat.divInt (((wyc j).1)*(atv l ((j:Nat):Int) 6)) 2)) (((byQ l).2)+(Rat.divInt (((wyc j).2)*(atv l ((j:Nat):Int) 6)) 2)),VOs 32 8 (EV 7) ([pgE l j]),VEq (.slice (some ⟨g,0,none⟩) (us.length+([pgE l j]).length) c),VEq (.slice (some ⟨g,0,none⟩) (us.length+([pgE l j]).length) c)]) (B:=[.k 4 32 8 (Vv 3 ((byQ l).1) ((byQ l).2))]) (SL':=[(0,VI l),(3,VSl 63 2 E2 wys),(6,Vi j),(40,Vb true),(7,Vi (atv l ((j:Nat):Int) 6)),(51,Vb true),(5,VEq (.slice (some ⟨g,0,none⟩) (us.length+([pgE l j]).length) c))]) ⟨g,21,32,8*c,VEl 8 (EV 7) (us++ [pgE l j]),VEl 8 (EV 7) us⟩ st8 hrow ⟨fun _=>?s0,fun _=>ks,fun _=>ks,fun _=>ks,fun _=>(kr2 54 55 fun _ _ _ _ _ x0 X0 _ x1 X1=>index_A16 rfl x0 X0 x1 X1 hlt),fun _=>(kr1 56 fun _ _ _ _ _ x0 X0=>index_E2 (k:=0) rfl (fun _=>rfl) x0 X0 (by omega)),fun _=>(kr1 57 fun _ _ _ _ _ x0 X0=>load_Pc rfl x0 X0),fun _=>ks,fun _=>(kr2 58 59 fun _ _ _ _ _ x0 X0 _ x1 X1=>⟨_,run_muli rfl (x0.trans X0) (x1.trans X1) wO,rfl⟩),fun _=>(by refine kc fun _ A Y h D=>?_;obtain⟨v0,x0,X0⟩:=h.dp D 60;exact⟨#[v0,.int .i64 2],by simp [x0,eval_const],cR4Of X0 (show Vi 2 (.int .i64 2) Y from rfl)⟩),fun _=>ks,fun _=>ks,fun _=>(kr2 62 63 fun _ _ _ _ _ x0 X0 _ x1 X1=>index_A16 rfl x0 X0 x1 X1 hlt),fun _=>(kr1 64 fun _ _ _ _ _ x0 X0=>index_E2 (k:=1) rfl (fun _=>rfl) x0 X0 (by omega)),fun _=>(kr1 65 fun _ _ _ _ _ x0 X0=>load_Pc rfl x0 X0),fun _=>ks,fun _=>(kr2 66 67 fun _ _ _ _ _ x0 X0 _ x1 X1=>⟨_,run_muli rfl (x0.trans X0) (x1.trans X1) wO,rfl⟩),fun _=>(by refine kc fun _ A Y h D=>?_;obtain⟨v0,x0,X0⟩:=h.dp D 68;exact⟨#[v0,.int .i64 2],by simp [x0,eval_const],cR4Of X0 (show Vi 2 (.int .i64 2) Y from rfl)⟩),fun _=>(kr2 61 69 fun _ _ _ _ _ x0 X0 _ x1 X1=>build_Vec rfl x0 x1 (AggV_Vq _ _) (AggV_Vq _ _) X0 X1),fun _=>(kd2 fun _ _ _ _ _ X0 _ X1=>cR5Add (N:=3) X0 X1),fun _=>(by refine km fun _ A Y h D=>?_;obtain⟨v0,x0,X0⟩:=h.dp D 71;exact bslice_V1 rfl x0 X0),fun hne=>absurd rfl hne,fun _=>ks,trivial⟩ ?r21 ?_ (by kernel_rfl) (Nat.le_of_ble_eq_true rfl) (hm0:=(by show 8*c≠0;omega))
      case s0=>
       refine k_run0 SbB.out (by kernel_rfl) fun listed A Y h D hnl=>⟨trivial,?_⟩
       obtain⟨v0,x0,X0⟩:=h.out0 hnl (5,VEq (.slice (some ⟨g,0,none⟩) us.length c)) (.tail _ (.tail _ (.head _))) 22 (by kernel_rfl) (.inr (by kernel_rfl));exact⟨_,run_move rfl,by rw [x0];exact X0⟩
      case r21=>intro o ho;obtain rfl:=Option.some.inj ho.symm;exact k_appM (k:=8) (E:=EV 7) (us:=us) (zs:=[pgE l j]) rfl ⟨[],by simp⟩ rfl (.inl ⟨by kernel_rfl,rfl,rfl⟩) (.inl ⟨by kernel_rfl,rfl,rfl⟩) (fun _ _ _ _ h=>VOs_sc h) rfl hrm h2c hgn (by kernel_rfl) (by kernel_rfl) (fun x BT=>Stab_Vv _ _ _) (by simp) trivial
      clear hrow;intro a9 w9 st9 hrow;replace st9:St w.heap.size w 91 [.k 4 32 8 (Vv 3 ((byQ l).1) ((byQ l).2))] [(0,VI l),(3,VSl 63 2 E2 wys),(6,Vi j),(40,Vb true),(7,Vi (atv l ((j:Nat):Int) 6)),(51,Vb true),(5,VEq (.slice (some ⟨g,0,none⟩) (us.length+([pgE l j]).length) c))] a9 w9:=st9;obtain⟨vR,heR,hvR⟩:=st9.sl (5,VEq (.slice (some ⟨g,0,none⟩) (us.length+([pgE l j]).length) c)) (lS_mem rfl);replace st9:=st9.reT 5 (VRg 32 8 (EV 7) none g c (us++ [pgE l j])) heR (by obtain rfl:vR=_:=hvR;exact VRg_in (by rw [List.length_append];exact hrm) h0 hcmR hrow);replace st9:St w.heap.size w 91 [.k 4 32 8 (Vv 3 ((byQ l).1) ((byQ l).2))] [(0,VI l),(3,VSl 63 2 E2 wys),(6,Vi j),(40,Vb true),(7,Vi (atv l ((j:Nat):Int) 6)),(51,Vb true),(5,VRg 32 8 (EV 7) none g c (us++ [pgE l j]))] a9 w9:=st9.cut;clear heR hvR hrow hcmR h0;refine Wn ?_
      refine rH [] [Vi j,Vi ((j+1:Nat):Int),Vi ((j+1:Nat):Int)] [.k 4 32 8 (Vv 3 ((byQ l).1) ((byQ l).2))] [(0,VI l),(3,VSl 63 2 E2 wys),(40,Vb true),(7,Vi (atv l ((j:Nat):Int) 6)),(51,Vb true),(5,VRg 32 8 (EV 7) none g c (us++ [pgE l j])),(6,Vi ((j+1:Nat):Int))] st9 ⟨?s0,(kr1 41 fun _ _ _ _ v0 x0 X0=>⟨_,run_addi rfl (x0.trans (show v0= .int .i64 j from X0)) rfl wO,congrArg (Value.int .i64) (by omega)⟩),ks,trivial⟩ ?_
      case s0=>
       refine k_run0 SbB.out (by kernel_rfl) fun listed A Y h D hnl=>⟨trivial,?_⟩
       obtain⟨v0,x0,X0⟩:=h.out0 hnl (6,Vi j) (.tail _ (.tail _ (.head _))) 2 (by kernel_rfl) (.inr (by kernel_rfl));exact⟨_,run_move rfl,by rw [x0];exact X0⟩
      intro a10 w10 st10;replace st10:St w.heap.size w 91 [.k 4 32 8 (Vv 3 ((byQ l).1) ((byQ l).2))] [(0,VI l),(3,VSl 63 2 E2 wys),(40,Vb true),(7,Vi (atv l ((j:Nat):Int) 6)),(51,Vb true),(5,VRg 32 8 (EV 7) none g c (us++ [pgE l j])),(6,Vi ((j+1:Nat):Int))] a10 w10:=st10;exact⟨m - 1,by omega,j+1,g,c,us++ [pgE l j],by omega,by rw [pgL,if_pos (by rw [<-hus];omega),<-hus],by rw [List.length_append,List.length_singleton];omega,.inr ⟨by omega,by rw [List.length_append,List.length_singleton];omega⟩,st10.cut⟩
     ·
      refine Wn ?_
      refine rH [] [VRg 32 8 (EV 7) none g c us,Vv 3 ((byQ l).1) ((byQ l).2),VSl 63 2 E2 wys,Vi j,VEp 63 2 (E2 (wyc j)),VPc ((wyc j).1),Vi ((wyc j).1),Vi (atv l ((j:Nat):Int) 6),Vi (((wyc j).1)*(atv l ((j:Nat):Int) 6)),Vq 3 (Rat.divInt (((wyc j).1)*(atv l ((j:Nat):Int) 6)) 2),VSl 63 2 E2 wys,Vi j,VEp 63 2 (E2 (wyc j)),VPc ((wyc j).2),Vi ((wyc j).2),Vi (atv l ((j:Nat):Int) 6),Vi (((wyc j).2)*(atv l ((j:Nat):Int) 6)),Vq 3 (Rat.divInt (((wyc j).2)*(atv l ((j:Nat):Int) 6)) 2),Vv 3 (Rat.divInt (((wyc j).1)*(atv l ((j:Nat):Int) 6)) 2) (Rat.divInt (((wyc j).2)*(atv l ((j:Nat):Int) 6)) 2),Vv 7 (((byQ l).1)+(Rat.divInt (((wyc j).1)*(atv l ((j:Nat):Int) 6)) 2)) (((byQ l).2)+(Rat.divInt (((wyc j).2)*(atv l ((j:Nat):Int) 6)) 2)),VOs 32 8 (EV 7) ([pgE l j]),VRx 32 8 (EV 7) w.heap.size (us++ [pgE l j]),VRx 32 8 (EV 7) w.heap.size (us++ [pgE l j])] [.k 4 32 8 (Vv 3 ((byQ l).1) ((byQ l).2))] [(0,VI l),(3,VSl 63 2 E2 wys),(6,Vi j),(40,Vb true),(7,Vi (atv l ((j:Nat):Int) 6)),(51,Vb true),(5,VRx 32 8 (EV 7) w.heap.size (us++ [pgE l j]))] st8 ⟨?s0,ks,ks,ks,(kr2 54 55 fun _ _ _ _ _ x0 X0 _ x1 X1=>index_A16 rfl x0 X0 x1 X1 hlt),(kr1 56 fun _ _ _ _ _ x0 X0=>index_E2 (k:=0) rfl (fun _=>rfl) x0 X0 (by omega)),(kr1 57 fun _ _ _ _ _ x0 X0=>load_Pc rfl x0 X0),ks,(kr2 58 59 fun _ _ _ _ _ x0 X0 _ x1 X1=>⟨_,run_muli rfl (x0.trans X0) (x1.trans X1) wO,rfl⟩),(by refine kc fun _ A Y h D=>?_;obtain⟨v0,x0,X0⟩:=h.dp D 60;exact⟨#[v0,.int .i64 2],by simp [x0,eval_const],cR4Of X0 (show Vi 2 (.int .i64 2) Y from rfl)⟩),ks,ks,(kr2 62 63 fun _ _ _ _ _ x0 X0 _ x1 X1=>index_A16 rfl x0 X0 x1 X1 hlt),(kr1 64 fun _ _ _ _ _ x0 X0=>index_E2 (k:=1) rfl (fun _=>rfl) x0 X0 (by omega)),(kr1 65 fun _ _ _ _ _ x0 X0=>load_Pc rfl x0 X0),ks,(kr2 66 67 fun _ _ _ _ _ x0 X0 _ x1 X1=>⟨_,run_muli rfl (x0.trans X0) (x1.trans X1) wO,rfl⟩),(by refine kc fun _ A Y h D=>?_;obtain⟨v0,x0,X0⟩:=h.dp D 68;exact⟨#[v0,.int .i64 2],by simp [x0,eval_const],cR4Of X0 (show Vi 2 (.int .i64 2) Y from rfl)⟩),(kr2 61 69 fun _ _ _ _ _ x0 X0 _ x1 X1=>build_Vec rfl x0 x1 (AggV_Vq _ _) (AggV_Vq _ _) X0 X1),(kd2 fun _ _ _ _ _ X0 _ X1=>cR5Add (N:=3) X0 X1),(by refine km fun _ A Y h D=>?_;obtain⟨v0,x0,X0⟩:=h.dp D 71;exact bslice_V1 rfl x0 X0),(by refine km fun _ A Y h D=>?_;obtain⟨v0,x0,X0⟩:=h.dp D 52;obtain⟨v1,x1,X1⟩:=h.dp D 72;exact app_growM rfl x0 X0 x1 (VOs_sc X1) (fun x=>Stab_Vv _ _ _) (by omega) h.n (by simp only [List.length_cons,List.length_nil];omega)),ks,trivial⟩ ?_
      case s0=>
       refine k_run0 SbB.out (by kernel_rfl) fun listed A Y h D hnl=>⟨trivial,?_⟩
       obtain⟨v0,x0,X0⟩:=h.out0 hnl (5,VRg 32 8 (EV 7) none g c (us)) (.tail _ (.tail _ (.head _))) 22 (by kernel_rfl) (.inr (by kernel_rfl));exact⟨_,run_move rfl,by rw [x0];exact X0⟩
      intro a9 w9 st9;replace st9:St w.heap.size w 91 [.k 4 32 8 (Vv 3 ((byQ l).1) ((byQ l).2))] [(0,VI l),(3,VSl 63 2 E2 wys),(6,Vi j),(40,Vb true),(7,Vi (atv l ((j:Nat):Int) 6)),(51,Vb true),(5,VRx 32 8 (EV 7) w.heap.size (us++ [pgE l j]))] a9 w9:=st9;obtain⟨g2,c2,hg2,hc2,st9⟩:=st9.nameR 5 rfl;replace st9:St w.heap.size w 91 [.k 4 32 8 (Vv 3 ((byQ l).1) ((byQ l).2))] [(0,VI l),(3,VSl 63 2 E2 wys),(6,Vi j),(40,Vb true),(7,Vi (atv l ((j:Nat):Int) 6)),(51,Vb true),(5,VRg 32 8 (EV 7) none g2 c2 (us++ [pgE l j]))] a9 w9:=st9.cut;refine Wn ?_
      refine rH [] [Vi j,Vi ((j+1:Nat):Int),Vi ((j+1:Nat):Int)] [.k 4 32 8 (Vv 3 ((byQ l).1) ((byQ l).2))] [(0,VI l),(3,VSl 63 2 E2 wys),(40,Vb true),(7,Vi (atv l ((j:Nat):Int) 6)),(51,Vb true),(5,VRg 32 8 (EV 7) none g2 c2 (us++ [pgE l j])),(6,Vi ((j+1:Nat):Int))] st9 ⟨?s0,(kr1 41 fun _ _ _ _ v0 x0 X0=>⟨_,run_addi rfl (x0.trans (show v0= .int .i64 j from X0)) rfl wO,congrArg (Value.int .i64) (by omega)⟩),ks,trivial⟩ ?_
      case s0=>
       refine k_run0 SbB.out (by kernel_rfl) fun listed A Y h D hnl=>⟨trivial,?_⟩
       obtain⟨v0,x0,X0⟩:=h.out0 hnl (6,Vi j) (.tail _ (.tail _ (.head _))) 2 (by kernel_rfl) (.inr (by kernel_rfl));exact⟨_,run_move rfl,by rw [x0];exact X0⟩
      intro a10 w10 st10;replace st10:St w.heap.size w 91 [.k 4 32 8 (Vv 3 ((byQ l).1) ((byQ l).2))] [(0,VI l),(3,VSl 63 2 E2 wys),(40,Vb true),(7,Vi (atv l ((j:Nat):Int) 6)),(51,Vb true),(5,VRg 32 8 (EV 7) none g2 c2 (us++ [pgE l j])),(6,Vi ((j+1:Nat):Int))] a10 w10:=st10;exact⟨m - 1,by omega,j+1,g2,c2,us++ [pgE l j],by omega,by rw [pgL,if_pos (by rw [<-hus];omega),<-hus],by rw [List.length_append,List.length_singleton];omega,.inr ⟨by omega,by rw [List.length_append,List.length_singleton];omega⟩,st10.cut⟩
    ·
     refine Wn ?_
     refine rH [] [Vi (atv l ((j:Nat):Int) 6),Vb true,Vb true,Vi (atv l ((j:Nat):Int) 6),Vb false,Vb false] [.k 4 32 8 (Vv 3 ((byQ l).1) ((byQ l).2))] [(0,VI l),(3,VSl 63 2 E2 wys),(5,VRg 32 8 (EV 7) none g c us),(6,Vi j),(40,Vb true),(7,Vi (atv l ((j:Nat):Int) 6)),(51,Vb false)] st7 ⟨ks,(kr1 46 fun _ _ _ _ _ x0 X0=>⟨_,run_gtri rfl (x0.trans X0) rfl,congrArg Value.bool (dT hp0)⟩),ks,ks,(kr1 49 fun _ _ _ _ _ x0 X0=>⟨_,run_lssi rfl (x0.trans X0) rfl,congrArg Value.bool (dF hp4)⟩),ks,trivial⟩ fun a8 w8 st8=>Wn ?_
     refine cF st8 ?_;refine Wn ?_
     refine rH [] [Vi j,Vi ((j+1:Nat):Int),Vi ((j+1:Nat):Int)] [.k 4 32 8 (Vv 3 ((byQ l).1) ((byQ l).2))] [(0,VI l),(3,VSl 63 2 E2 wys),(5,VRg 32 8 (EV 7) none g c us),(40,Vb true),(7,Vi (atv l ((j:Nat):Int) 6)),(51,Vb false),(6,Vi ((j+1:Nat):Int))] st8 ⟨?s0,(kr1 41 fun _ _ _ _ v0 x0 X0=>⟨_,run_addi rfl (x0.trans (show v0= .int .i64 j from X0)) rfl wO,congrArg (Value.int .i64) (by omega)⟩),ks,trivial⟩ ?_
     case s0=>
      refine k_run0 SbB.out (by kernel_rfl) fun listed A Y h D hnl=>⟨trivial,?_⟩
      obtain⟨v0,x0,X0⟩:=h.out0 hnl (6,Vi j) (.tail _ (.tail _ (.tail _ (.head _)))) 2 (by kernel_rfl) (.inr (by kernel_rfl));exact⟨_,run_move rfl,by rw [x0];exact X0⟩
     intro a9 w9 st9;replace st9:St w.heap.size w 91 [.k 4 32 8 (Vv 3 ((byQ l).1) ((byQ l).2))] [(0,VI l),(3,VSl 63 2 E2 wys),(5,VRg 32 8 (EV 7) none g c us),(40,Vb true),(7,Vi (atv l ((j:Nat):Int) 6)),(51,Vb false),(6,Vi ((j+1:Nat):Int))] a9 w9:=st9;exact⟨m - 1,by omega,j+1,g,c,us,by omega,by rw [pgL,if_neg (by rw [<-hus];omega)];exact hus,hul,hxc,st9.cut⟩
   ·
    refine Wn ?_
    refine rH [] [Vi (atv l ((j:Nat):Int) 6),Vb false,Vb false,VT,VT,Vb false] [.k 4 32 8 (Vv 3 ((byQ l).1) ((byQ l).2))] [(0,VI l),(3,VSl 63 2 E2 wys),(5,VRg 32 8 (EV 7) none g c us),(6,Vi j),(40,Vb true),(7,Vi (atv l ((j:Nat):Int) 6)),(51,Vb false)] st7 ⟨ks,(kr1 46 fun _ _ _ _ _ x0 X0=>⟨_,run_gtri rfl (x0.trans X0) rfl,congrArg Value.bool (dF hp0)⟩),ks,ks,ks,ks,trivial⟩ fun a8 w8 st8=>Wn ?_
    refine cF st8 ?_;refine Wn ?_
    refine rH [] [Vi j,Vi ((j+1:Nat):Int),Vi ((j+1:Nat):Int)] [.k 4 32 8 (Vv 3 ((byQ l).1) ((byQ l).2))] [(0,VI l),(3,VSl 63 2 E2 wys),(5,VRg 32 8 (EV 7) none g c us),(40,Vb true),(7,Vi (atv l ((j:Nat):Int) 6)),(51,Vb false),(6,Vi ((j+1:Nat):Int))] st8 ⟨?s0,(kr1 41 fun _ _ _ _ v0 x0 X0=>⟨_,run_addi rfl (x0.trans (show v0= .int .i64 j from X0)) rfl wO,congrArg (Value.int .i64) (by omega)⟩),ks,trivial⟩ ?_
    case s0=>
     refine k_run0 SbB.out (by kernel_rfl) fun listed A Y h D hnl=>⟨trivial,?_⟩
     obtain⟨v0,x0,X0⟩:=h.out0 hnl (6,Vi j) (.tail _ (.tail _ (.tail _ (.head _)))) 2 (by kernel_rfl) (.inr (by kernel_rfl));exact⟨_,run_move rfl,by rw [x0];exact X0⟩
    intro a9 w9 st9;replace st9:St w.heap.size w 91 [.k 4 32 8 (Vv 3 ((byQ l).1) ((byQ l).2))] [(0,VI l),(3,VSl 63 2 E2 wys),(5,VRg 32 8 (EV 7) none g c us),(40,Vb true),(7,Vi (atv l ((j:Nat):Int) 6)),(51,Vb false),(6,Vi ((j+1:Nat):Int))] a9 w9:=st9;exact⟨m - 1,by omega,j+1,g,c,us,by omega,by rw [pgL,if_neg (by rw [<-hus];omega)];exact hus,hul,hxc,st9.cut⟩
  ·
   refine Wn ?_
   refine rH [] [Vi j,VSl 63 2 E2 wys,Vi 16,Vb true,Vb true,VRg 32 8 (EV 7) none g c us,Vi (us.length:Int),Vb false,Vb false] [.k 4 32 8 (Vv 3 ((byQ l).1) ((byQ l).2))] [(0,VI l),(3,VSl 63 2 E2 wys),(5,VRg 32 8 (EV 7) none g c us),(6,Vi j),(40,Vb false)] st5 ⟨ks,ks,(kr1 33 fun _ _ _ _ _ x0 X0=>len_A16 rfl rfl x0 X0),(kr2 32 34 fun _ _ _ _ _ x0 X0 _ x1 X1=>⟨_,run_lssi rfl (x0.trans X0) (x1.trans X1),congrArg Value.bool (dT (by omega))⟩),ks,ks,(kr1 37 fun _ _ _ _ _ x0 X0=>len_Rg rfl rfl x0 X0),(kr1 38 fun _ _ _ _ _ x0 X0=>⟨_,run_lssi rfl (x0.trans X0) rfl,congrArg Value.bool (dF (by omega))⟩),ks,trivial⟩ fun a6 w6 st6=>Wn ?_
   refine cF st6 ?_;have hus16:us=pgL l 16:=by rw [hus,show 16=j+(16 - j) by omega,pgL_stay (by rw [<-hus];omega)]
   have hus0:us= []->c=0:=fun e=>by rcases hxc with h|⟨-,h⟩;exact h;rw [e] at h;simp at h
   by_cases hcc:validR us=true
   ·
    refine Wn ?_
    refine rH [] [VRg 32 8 (EV 7) none g c us,Vb true] [.k 4 32 8 (Vv 3 ((byQ l).1) ((byQ l).2))] [(0,VI l),(3,VSl 63 2 E2 wys),(5,VRg 32 8 (EV 7) none g c us),(6,Vi j),(40,Vb false),(75,Vb true)] st6 ⟨ks,(kd1 fun _ _ _ _ _ X0=>cR6ValidV (N:=7) (show VEq _ _ _ from rfl) (VRg_sv X0 hus0) (by omega) (by omega) hcc),trivial⟩ fun a7 w7 st7=>Wn ?_
    refine cT st7 ?_;refine Wn ?_
    refine rH [] [VRg 32 8 (EV 7) none g c us,VRg 32 8 (EV 7) none g c us] [.k 4 32 8 (Vv 3 ((byQ l).1) ((byQ l).2))] [(0,VI l),(3,VSl 63 2 E2 wys),(5,VRg 32 8 (EV 7) none g c us),(6,Vi j),(40,Vb false),(75,Vb true),(2,VRg 32 8 (EV 7) none g c us)] st7 ⟨ks,ks,trivial⟩ fun a8 w8 st8=>Wn ?_
    exact wp_ret (rS 2 (VRg 32 8 (EV 7) none g c (us)) st8 fun vr r4=>(by rw [show polyR l=pgL l 16 from if_pos (by rw [<-hus16];exact hcc),<-hus16];exact VRg_sv r4 hus0))
   ·
    refine Wn ?_
    refine rH [] [VRg 32 8 (EV 7) none g c us,Vb false] [.k 4 32 8 (Vv 3 ((byQ l).1) ((byQ l).2))] [(0,VI l),(3,VSl 63 2 E2 wys),(5,VRg 32 8 (EV 7) none g c us),(6,Vi j),(40,Vb false),(75,Vb false)] st6 ⟨ks,(kd1 fun _ _ _ _ _ X0=>cR6ValidV (N:=7) (show VEq _ _ _ from rfl) (VRg_sv X0 hus0) (by omega) (by omega) (Bool.eq_false_iff.2 hcc)),trivial⟩ fun a7 w7 st7=>Wn ?_
    refine cF st7 ?_;have ha0:=atv_lo l 0 2 (by omega);have ha1:=atv_hi l 0 2 (by omega);refine Wn ?_
    refine rH [] [Vv 3 ((byQ l).1) ((byQ l).2),Vv 3 ((byQ l).1) ((byQ l).2),Vv 3 (Rat.divInt 4 1) (Rat.divInt 0 1),Vv 7 (((byQ l).1)+(Rat.divInt 4 1)) (((byQ l).2)+(Rat.divInt 0 1)),Vv 3 ((byQ l).1) ((byQ l).2),VI l,Vi (atv l 0 2),Vi ((1)+(atv l 0 2)),Vv 3 (Rat.divInt ((1)+(atv l 0 2)) 1) (Rat.divInt 3 1),Vv 7 (((byQ l).1)+(Rat.divInt ((1)+(atv l 0 2)) 1)) (((byQ l).2)+(Rat.divInt 3 1)),Vv 3 ((byQ l).1) ((byQ l).2),Vv 3 (Rat.divInt 1 1) (Rat.divInt 1 1),Vv 7 (((byQ l).1)+(Rat.divInt 1 1)) (((byQ l).2)+(Rat.divInt 1 1)),VSv 7 (pgF l),VSv 7 (pgF l)] [.k 4 32 8 (Vv 3 ((byQ l).1) ((byQ l).2))] [(0,VI l),(3,VSl 63 2 E2 wys),(5,VRg 32 8 (EV 7) none g c us),(6,Vi j),(40,Vb false),(75,Vb false),(2,VSv 7 (pgF l))] st7 ⟨ks,ks,(by refine kc fun _ A Y h D=>?_;exact⟨#[.int .i64 4,.int .i64 0],by simp [eval_const],cR5Of (show Vi 4 (.int .i64 4) Y from rfl) (show Vi 0 (.int .i64 0) Y from rfl)⟩),(kd2 fun _ _ _ _ _ X0 _ X1=>cR5Add (N:=3) X0 X1),ks,ks,(by refine kc fun _ A Y h D=>?_;obtain⟨v0,x0,X0⟩:=h.dp D 82;exact⟨#[v0,.int .i64 0,.int .i64 2],by simp [x0,eval_const],cAt X0 (show Vi 0 (.int .i64 0) Y from rfl)⟩),(by refine kr fun _ A Y h D=>?_;obtain⟨v1,x1,X1⟩:=h.dp D 83;have hV1':v1= .int .i64 (atv l 0 2):=X1;exact⟨_,run_addi rfl rfl (x1.trans hV1') wO,rfl⟩),(by refine kc fun _ A Y h D=>?_;obtain⟨v0,x0,X0⟩:=h.dp D 84;exact⟨#[v0,.int .i64 3],by simp [x0,eval_const],cR5Of X0 (show Vi 3 (.int .i64 3) Y from rfl)⟩),(kd2 fun _ _ _ _ _ X0 _ X1=>cR5Add (N:=3) X0 X1),ks,(by refine kc fun _ A Y h D=>?_;exact⟨#[.int .i64 1,.int .i64 1],by simp [eval_const],cR5Of (show Vi 1 (.int .i64 1) Y from rfl) (show Vi 1 (.int .i64 1) Y from rfl)⟩),(kd2 fun _ _ _ _ _ X0 _ X1=>cR5Add (N:=3) X0 X1),(by refine km fun _ A Y h D=>?_;obtain⟨v0,x0,X0⟩:=h.dp D 77;obtain⟨v1,x1,X1⟩:=h.dp D 80;obtain⟨v2,x2,X2⟩:=h.dp D 86;obtain⟨v3,x3,X3⟩:=h.dp D 89;exact bslice_V4 (M:=7) (d0:=byQ l) (d1:=((byQ l).1+Rat.divInt 4 1,(byQ l).2+Rat.divInt 0 1)) (d2:=((byQ l).1+Rat.divInt (1+atv l 0 2) 1,(byQ l).2+Rat.divInt 3 1)) (d3:=((byQ l).1+Rat.divInt 1 1,(byQ l).2+Rat.divInt 1 1)) rfl x0 x1 x2 x3 (Vv_le X0 (by omega)) X1 X2 X3),ks,trivial⟩ ?_;intro a8 w8 st8;refine Wn ?_
    exact wp_ret (rS 2 (VSv 7 (pgF l)) st8 fun vr r4=>(by rw [show polyR l=pgF l from if_neg (by rw [<-hus16];exact hcc)];exact r4))
 ·
  refine Wn ?_
  refine rH [] [Vi j,VSl 63 2 E2 wys,Vi 16,Vb false,Vb false,VT,VT,VT,Vb false] [.k 4 32 8 (Vv 3 ((byQ l).1) ((byQ l).2))] [(0,VI l),(3,VSl 63 2 E2 wys),(5,VRg 32 8 (EV 7) none g c us),(6,Vi j),(40,Vb false)] st5 ⟨ks,ks,(kr1 33 fun _ _ _ _ _ x0 X0=>len_A16 rfl rfl x0 X0),(kr2 32 34 fun _ _ _ _ _ x0 X0 _ x1 X1=>⟨_,run_lssi rfl (x0.trans X0) (x1.trans X1),congrArg Value.bool (dF (by omega))⟩),ks,ks,?s6,ks,ks,trivial⟩ ?_
  case s6=>
   refine k_skip SbB.out (by kernel_rfl) fun listed A Y h D=>⟨?_,trivial⟩
   obtain⟨u,hu,hy,hU⟩:=h.dep D 4 36 (by kernel_rfl) (by kernel_rfl);obtain rfl:u= .bool false:=hU;exact⟨4,true,false,rfl,hy,by decide⟩
  intro a6 w6 st6;refine Wn ?_
  refine cF st6 ?_;have hus16:us=pgL l 16:=by rw [hus,show j=16 by omega]
  have hus0:us= []->c=0:=fun e=>by rcases hxc with h|⟨-,h⟩;exact h;rw [e] at h;simp at h
  by_cases hcc:validR us=true
  ·
   refine Wn ?_
   refine rH [] [VRg 32 8 (EV 7) none g c us,Vb true] [.k 4 32 8 (Vv 3 ((byQ l).1) ((byQ l).2))] [(0,VI l),(3,VSl 63 2 E2 wys),(5,VRg 32 8 (EV 7) none g c us),(6,Vi j),(40,Vb false),(75,Vb true)] st6 ⟨ks,(kd1 fun _ _ _ _ _ X0=>cR6ValidV (N:=7) (show VEq _ _ _ from rfl) (VRg_sv X0 hus0) (by omega) (by omega) hcc),trivial⟩ fun a7 w7 st7=>Wn ?_
   refine cT st7 ?_;refine Wn ?_
   refine rH [] [VRg 32 8 (EV 7) none g c us,VRg 32 8 (EV 7) none g c us] [.k 4 32 8 (Vv 3 ((byQ l).1) ((byQ l).2))] [(0,VI l),(3,VSl 63 2 E2 wys),(5,VRg 32 8 (EV 7) none g c us),(6,Vi j),(40,Vb false),(75,Vb true),(2,VRg 32 8 (EV 7) none g c us)] st7 ⟨ks,ks,trivial⟩ fun a8 w8 st8=>Wn ?_
   exact wp_ret (rS 2 (VRg 32 8 (EV 7) none g c (us)) st8 fun vr r4=>(by rw [show polyR l=pgL l 16 from if_pos (by rw [<-hus16];exact hcc),<-hus16];exact VRg_sv r4 hus0))
  ·
   refine Wn ?_
   refine rH [] [VRg 32 8 (EV 7) none g c us,Vb false] [.k 4 32 8 (Vv 3 ((byQ l).1) ((byQ l).2))] [(0,VI l),(3,VSl 63 2 E2 wys),(5,VRg 32 8 (EV 7) none g c us),(6,Vi j),(40,Vb false),(75,Vb false)] st6 ⟨ks,(kd1 fun _ _ _ _ _ X0=>cR6ValidV (N:=7) (show VEq _ _ _ from rfl) (VRg_sv X0 hus0) (by omega) (by omega) (Bool.eq_false_iff.2 hcc)),trivial⟩ fun a7 w7 st7=>Wn ?_
   refine cF st7 ?_;have ha0:=atv_lo l 0 2 (by omega);have ha1:=atv_hi l 0 2 (by omega);refine Wn ?_
   refine rH [] [Vv 3 ((byQ l).1) ((byQ l).2),Vv 3 ((byQ l).1) ((byQ l).2),Vv 3 (Rat.divInt 4 1) (Rat.divInt 0 1),Vv 7 (((byQ l).1)+(Rat.divInt 4 1)) (((byQ l).2)+(Rat.divInt 0 1)),Vv 3 ((byQ l).1) ((byQ l).2),VI l,Vi (atv l 0 2),Vi ((1)+(atv l 0 2)),Vv 3 (Rat.divInt ((1)+(atv l 0 2)) 1) (Rat.divInt 3 1),Vv 7 (((byQ l).1)+(Rat.divInt ((1)+(atv l 0 2)) 1)) (((byQ l).2)+(Rat.divInt 3 1)),Vv 3 ((byQ l).1) ((byQ l).2),Vv 3 (Rat.divInt 1 1) (Rat.divInt 1 1),Vv 7 (((byQ l).1)+(Rat.divInt 1 1)) (((byQ l).2)+(Rat.divInt 1 1)),VSv 7 (pgF l),VSv 7 (pgF l)] [.k 4 32 8 (Vv 3 ((byQ l).1) ((byQ l).2))] [(0,VI l),(3,VSl 63 2 E2 wys),(5,VRg 32 8 (EV 7) none g c us),(6,Vi j),(40,Vb false),(75,Vb false),(2,VSv 7 (pgF l))] st7 ⟨ks,ks,(by refine kc fun _ A Y h D=>?_;exact⟨#[.int .i64 4,.int .i64 0],by simp [eval_const],cR5Of (show Vi 4 (.int .i64 4) Y from rfl) (show Vi 0 (.int .i64 0) Y from rfl)⟩),(kd2 fun _ _ _ _ _ X0 _ X1=>cR5Add (N:=3) X0 X1),ks,ks,(by refine kc fun _ A Y h D=>?_;obtain⟨v0,x0,X0⟩:=h.dp D 82;exact⟨#[v0,.int .i64 0,.int .i64 2],by simp [x0,eval_const],cAt X0 (show Vi 0 (.int .i64 0) Y from rfl)⟩),(by refine kr fun _ A Y h D=>?_;obtain⟨v1,x1,X1⟩:=h.dp D 83;have hV1':v1= .int .i64 (atv l 0 2):=X1;exact⟨_,run_addi rfl rfl (x1.trans hV1') wO,rfl⟩),(by refine kc fun _ A Y h D=>?_;obtain⟨v0,x0,X0⟩:=h.dp D 84;exact⟨#[v0,.int .i64 3],by simp [x0,eval_const],cR5Of X0 (show Vi 3 (.int .i64 3) Y from rfl)⟩),(kd2 fun _ _ _ _ _ X0 _ X1=>cR5Add (N:=3) X0 X1),ks,(by refine kc fun _ A Y h D=>?_;exact⟨#[.int .i64 1,.int .i64 1],by simp [eval_const],cR5Of (show Vi 1 (.int .i64 1) Y from rfl) (show Vi 1 (.int .i64 1) Y from rfl)⟩),(kd2 fun _ _ _ _ _ X0 _ X1=>cR5Add (N:=3) X0 X1),(by refine km fun _ A Y h D=>?_;obtain⟨v0,x0,X0⟩:=h.dp D 77;obtain⟨v1,x1,X1⟩:=h.dp D 80;obtain⟨v2,x2,X2⟩:=h.dp D 86;obtain⟨v3,x3,X3⟩:=h.dp D 89;exact bslice_V4 (M:=7) (d0:=byQ l) (d1:=((byQ l).1+Rat.divInt 4 1,(byQ l).2+Rat.divInt 0 1)) (d2:=((byQ l).1+Rat.divInt (1+atv l 0 2) 1,(byQ l).2+Rat.divInt 3 1)) (d3:=((byQ l).1+Rat.divInt 1 1,(byQ l).2+Rat.divInt 1 1)) rfl x0 x1 x2 x3 (Vv_le X0 (by omega)) X1 X2 X3),ks,trivial⟩ ?_;intro a8 w8 st8;refine Wn ?_
   exact wp_ret (rS 2 (VSv 7 (pgF l)) st8 fun vr r4=>(by rw [show polyR l=pgF l from if_neg (by rw [<-hus16];exact hcc)];exact r4))
section
variable {ρ:Operand->Value}{o:Oper}{w W:World}{x y:Operand}{va vb:Value}{N:Nat}{vs:List P2}
theorem bslice_I8 (ho:o.op= .buildSlice 22 8 #[(0,.const (.int .i64 0)),(1,.const (.int .i64 0)),(2,.const (.int .i64 4)),(3,.const (.int .i64 0)),(4,.const (.int .i64 4)),(5,.const (.int .i64 4)),(6,.const (.int .i64 0)),(7,.const (.int .i64 4))])(hc:∀v,ρ (.const v)=v):∃v w',(execOp ρ o).run Tryz.prog W= .ok (.value v) w'/\Below W.heap.size W w'/\VI [0,0,4,0,4,4,0,4] v w':=by
 have hb:=below_new W (.cells #[.int .i64 0,.int .i64 0,.int .i64 4,.int .i64 0,.int .i64 4,.int .i64 4,.int .i64 0,.int .i64 4] 3);have e:=heap_alloc_new W (.cells #[.int .i64 0,.int .i64 0,.int .i64 4,.int .i64 0,.int .i64 4,.int .i64 4,.int .i64 0,.int .i64 4] 3);refine⟨.slice (some ⟨W.heap.size,0,none⟩) 8 8,_,?_,hb,⟨_,8,8,rfl,.inr ⟨_,0,rfl,fun i hi=>?_⟩,rfl,fun i hi=>?_⟩⟩
 ·clear hb e;obtain⟨dd,op,ty,ps,af,gd⟩:=o;subst ho
  go_simp
 ·simp only [World.cell?,e]
  match i,hi with
  |0,_=>rfl
  |1,_=>rfl
  |2,_=>rfl
  |3,_=>rfl
  |4,_=>rfl
  |5,_=>rfl
  |6,_=>rfl
  |7,_=>rfl
  |i+8,hi=>exact absurd hi (by simp)
 ·match i,hi with
  |0,_=>exact⟨by decide,by decide⟩
  |1,_=>exact⟨by decide,by decide⟩
  |2,_=>exact⟨by decide,by decide⟩
  |3,_=>exact⟨by decide,by decide⟩
  |4,_=>exact⟨by decide,by decide⟩
  |5,_=>exact⟨by decide,by decide⟩
  |6,_=>exact⟨by decide,by decide⟩
  |7,_=>exact⟨by decide,by decide⟩
  |i+8,hi=>exact absurd hi (by simp)
theorem bslice_I12 (ho:o.op= .buildSlice 22 12 #[(0,.const (.int .i64 0)),(1,.const (.int .i64 0)),(2,.const (.int .i64 4)),(3,.const (.int .i64 0)),(4,.const (.int .i64 4)),(5,.const (.int .i64 2)),(6,.const (.int .i64 2)),(7,.const (.int .i64 2)),(8,.const (.int .i64 2)),(9,.const (.int .i64 4)),(10,.const (.int .i64 0)),(11,.const (.int .i64 4))])(hc:∀v,ρ (.const v)=v):∃v w',(execOp ρ o).run Tryz.prog W= .ok (.value v) w'/\Below W.heap.size W w'/\VI [0,0,4,0,4,2,2,2,2,4,0,4] v w':=by
 have hb:=below_new W (.cells #[.int .i64 0,.int .i64 0,.int .i64 4,.int .i64 0,.int .i64 4,.int .i64 2,.int .i64 2,.int .i64 2,.int .i64 2,.int .i64 4,.int .i64 0,.int .i64 4] 3);have e:=heap_alloc_new W (.cells #[.int .i64 0,.int .i64 0,.int .i64 4,.int .i64 0,.int .i64 4,.int .i64 2,.int .i64 2,.int .i64 2,.int .i64 2,.int .i64 4,.int .i64 0,.int .i64 4] 3);refine⟨.slice (some ⟨W.heap.size,0,none⟩) 12 12,_,?_,hb,⟨_,12,12,rfl,.inr ⟨_,0,rfl,fun i hi=>?_⟩,rfl,fun i hi=>?_⟩⟩
 ·clear hb e;obtain⟨dd,op,ty,ps,af,gd⟩:=o;subst ho
  go_simp
 ·simp only [World.cell?,e]
  match i,hi with
  |0,_=>rfl
  |1,_=>rfl
  |2,_=>rfl
  |3,_=>rfl
  |4,_=>rfl
  |5,_=>rfl
  |6,_=>rfl
  |7,_=>rfl
  |8,_=>rfl
  |9,_=>rfl
  |10,_=>rfl
  |11,_=>rfl
  |i+12,hi=>exact absurd hi (by simp)
 ·match i,hi with
  |0,_=>exact⟨by decide,by decide⟩
  |1,_=>exact⟨by decide,by decide⟩
  |2,_=>exact⟨by decide,by decide⟩
  |3,_=>exact⟨by decide,by decide⟩
  |4,_=>exact⟨by decide,by decide⟩
  |5,_=>exact⟨by decide,by decide⟩
  |6,_=>exact⟨by decide,by decide⟩
  |7,_=>exact⟨by decide,by decide⟩
  |8,_=>exact⟨by decide,by decide⟩
  |9,_=>exact⟨by decide,by decide⟩
  |10,_=>exact⟨by decide,by decide⟩
  |11,_=>exact⟨by decide,by decide⟩
  |i+12,hi=>exact absurd hi (by simp)
theorem drop_Sv {n:Nat}(ho:o.op= .slice 23 x (some y) none none)(hx:ρ x=va)(h:VAt w (VSv N vs) va W)(hy:ρ y=vb)(hn:Vi (n:Int) vb W)(hlt:n<vs.length):∃v,(execOp ρ o).run Tryz.prog W= .ok (.value v) W/\VAt w (VSv N (vs.drop n)) v W:=by
 obtain rfl:vb=_:=hn;rcases h with⟨-,rfl⟩|⟨hh,oo,c,cs,rfl,e2,e3,e4,e5,e6⟩
 ·simp at hlt
 have hl:(vs.drop n).length=vs.length - n:=List.length_drop;refine⟨.slice (some ⟨hh,oo+8*n,none⟩) (vs.drop n).length (c - n),?_,.inr ⟨hh,oo+8*n,c - n,cs,rfl,by omega,by omega,e4,by omega,fun i z hz=>?_⟩⟩
 ·rw [hl];have q1:(n:Int)<=(vs.length:Int):=by omega
  have q2:(n:Int)<=(c:Int):=by omega
  have q3:(vs.length:Int)<=(c:Int):=by omega
  have q4:¬c=n:=by omega
  have q5:n*8=8*n:=Nat.mul_comm _ _;clear hl e6 e5 e4 e2 e3 hlt;generalize vs.length=m at*
  obtain⟨dd,op,ty,ps,af,gd⟩:=o;subst ho
  go_simp
 ·rw [List.getElem?_drop] at hz;have:=e6 _ _ hz;rw [Nat.mul_add,<-Nat.add_assoc] at this;exact this
theorem take_Sv {n:Nat}(ho:o.op= .slice 23 x none (some y) none)(hx:ρ x=va)(h:VAt w (VSv N vs) va W)(hy:ρ y=vb)(hn:Vi (n:Int) vb W)(hle:n<=vs.length)(h0:0<vs.length):∃v,(execOp ρ o).run Tryz.prog W= .ok (.value v) W/\VAt w (VSv N (vs.take n)) v W:=by
 obtain rfl:vb=_:=hn;rcases h with⟨-,rfl⟩|⟨hh,oo,c,cs,rfl,e2,e3,e4,e5,e6⟩
 ·simp at h0
 have hl:(vs.take n).length=n:=by rw [List.length_take];omega
 refine⟨.slice (some ⟨hh,oo,none⟩) (vs.take n).length c,?_,.inr ⟨hh,oo,c,cs,rfl,by omega,by omega,e4,by omega,fun i z hz=>?_⟩⟩
 ·rw [hl];have q1:(n:Int)<=(vs.length:Int):=by omega
  have q2:(n:Int)<=(c:Int):=by omega
  have q3:(vs.length:Int)<=(c:Int):=by omega
  have q4:¬c=0:=by omega
  clear hl e6 e5 e4 e2 e3 hle h0;generalize vs.length=m at*
  obtain⟨dd,op,ty,ps,af,gd⟩:=o;subst ho
  go_simp
 ·rw [List.getElem?_take] at hz;split at hz
  ·exact e6 _ _ hz
  ·cases hz
theorem len_SvA (ho:o.op= .call {callee:= .builtin .len,args:=#[x],argTypes:=#[23]})(hty:o.type=3)(hx:ρ x=va)(h:VAt w (VSv N vs) va W):∃v,(execOp ρ o).run Tryz.prog W= .ok (.value v) W/\Vi (vs.length:Int) v W:=len_Sv ho hty hx (show VEq va va W from rfl) h
end
theorem polyR_len (l:List Int):3<=(polyR l).length/\(polyR l).length<=12:=by
 unfold polyR;split
 ·rename_i h;exact validR_len h
 ·exact⟨by show 3<=4;omega,by show 4<=12;omega⟩
def mid2 (a b:P2):P2:=(midQ a.1 b.1,midQ a.2 b.2)
theorem cv_gets {vs:List P2}{k:Nat}(h:k<vs.length):vs[k]? =some (cv vs k):=by
 have:=cv_get (vs:=vs) k (by omega);rwa [Nat.mod_eq_of_lt h] at this
section
variable {ρ:Operand->Value}{o:Oper}{w W:World}{x y:Operand}{va vb:Value}{N:Nat}{vs:List P2}
theorem index_SvA {a:P2}{j:Nat}(ho:o.op= .indexAddr 23 x y)(hx:ρ x=va)(h:VAt w (VSv N vs) va W)(hy:ρ y=vb)(hb:Vi (j:Int) vb W)(hz:vs[j]? =some a):∃v,(execOp ρ o).run Tryz.prog W= .ok (.value v) W/\VAt w (VEp 32 8 (Vv N a.1 a.2)) v W:=index_Sv ho hx (show VEq va va W from rfl) h hy hb hz
end
def sqV:List P2:=[(0,0),(4,0),(4,4),(0,4)]
def anV:List P2:=[(0,0),(4,0),(4,2),(2,2),(2,4),(0,4)]
theorem sq_ofL:ofL [0,0,4,0,4,4,0,4] 4=sqV:=by decide+kernel
theorem an_ofL:ofL [0,0,4,0,4,2,2,2,2,4,0,4] 6=anV:=by decide+kernel
theorem sq_convex:convexP sqV=true:=by decide+kernel
theorem an_valid:validP anV=true:=by decide+kernel
theorem an_convex:convexP anV=false:=by decide+kernel
theorem sq_two:validP (sqV.take 2)=false:=by decide+kernel
theorem sq_area:areaQ sqV=Rat.divInt 16 1:=by decide+kernel
theorem an_area:areaQ anV=Rat.divInt 12 1:=by decide+kernel
theorem sq_ctr:ctr sqV=(Rat.divInt 2 1,Rat.divInt 2 1):=by decide+kernel
theorem an_ctr:ctr anV=(Rat.divInt 5 3,Rat.divInt 5 3):=by decide+kernel
theorem an_boxL:bxL anV=(0,0):=by decide+kernel
theorem an_boxH:bxH anV=(Rat.divInt 4 1,Rat.divInt 4 1):=by decide+kernel
theorem sq_mts:mts (0,0) (4,4) (4,0) (0,4)=true:=by decide+kernel
theorem sq_mts2:mts (0,0) (4,0) (4,4) (0,4)=false:=by decide+kernel
theorem sq_has1:hasI sqV (Rat.divInt 2 1,Rat.divInt 2 1)=1:=by decide+kernel
theorem sq_has0:hasI sqV (Rat.divInt 4 1,Rat.divInt 1 1)=0:=by decide+kernel
theorem sq_hasN:hasI sqV (Rat.divInt 5 1,Rat.divInt 1 1)= -1:=by decide+kernel
theorem an_hasN:hasI anV (Rat.divInt 3 1,Rat.divInt 3 1)= -1:=by decide+kernel
structure En where
 t:Nat
 i:Option Nat
 j:Option Nat
 P:VP
def XE (es:List En)(listed:Array Bool)(a:Act)(w:World):Prop:=∀e∈es,(∀i,e.i=some i->listed.getD i false=true)->(∀j,e.j=some j->listed.getD j false=false)->∃v,a.tmps[e.t]? =some v/\e.P v w
section
variable {P:Program}{md:Region.Mode}{ops:Array Oper}{Q:Exit->Act->World->Prop}{a0:Act}{V:Nat->VP}{n0:Nat}{w0:World}{SL:List (Nat×VP)}{es:List En}{T:TypeId}
def RT (T:TypeId)(w w':World):Prop:=∃m,m≠0/\RI [(T,m,0)] w w'
theorem XE.keep {listed:Array Bool}{a:Act}{w w':World}{i:Nat}{d:Option Tmp}{v:Value}(h:XE es listed a w)(hr:RI [] w w')(hP:∀e∈es,Stab [] e.P)(hi:es.all (fun e=>e.i !=some i && d !=some e.t)=true)(hil:i<listed.size):XE es (listed.setIfInBounds i true) (a.put d v) w':=by
 intro e he h1 h2;rw [List.all_eq_true] at hi;have q:=hi e he;simp only [Bool.and_eq_true,bne_iff_ne,ne_eq] at q
 obtain⟨u,e1,e2⟩:=h e he (fun i' hi'=>by
  have:=h1 i' hi';rw [getD_set _ _ _ hil,if_neg (fun e2=>q.1 (by rw [hi',e2]))] at this
  exact this) fun j hj=>by
  have:=h2 j hj;rw [getD_set _ _ _ hil] at this;split at this
  ·cases this
  ·exact this
 exact⟨u,by rw [put_get_ne q.2];exact e1,hP e he _ _ _ e2 hr⟩
def KStepX (P:Program)(md:Region.Mode)(ops:Array Oper)(Q:Exit->Act->World->Prop)(a0:Act)(V:Nat->VP)(n0:Nat)(w0:World)(SL:List (Nat×VP))(T:TypeId)(es:List En)(i:Nat)(o:Oper):Prop:=
 ∀listed a w,KI md ops a0 V n0 w0 [] SL listed a w->XE es listed a w->(∀e∈o.after,Region.binds md e=true->listed.getD e.on false=true)->o.dst.all (fun d=>decide (d<a0.tmps.size))=true->i<listed.size->listed.getD i false=false->
  ∀K:Act->World->Prop,(∀v w',KS n0 w0 [] (listed.setIfInBounds i true) (a.put o.dst v) w'->RT T w w'->XE es (listed.setIfInBounds i true) (a.put o.dst v) w'->V i v w'->K (a.put o.dst v) w')->(if Region.wanted o (yielded ops a.tmps)then o.wp P a w K Q else K (a.put o.dst undef) w)
theorem RT.of {w w':World}(h:RI [] w w'):RT T w w':=⟨1,by omega,h.mono L0 fun e he h0=>by
 have:=List.mem_singleton.1 he;subst this
 cases h0⟩
theorem KStep.x {i:Nat}{o:Oper}(h:KStep [] P md ops Q a0 V n0 w0 [] SL i o)(hP:∀e∈es,Stab [] e.P)(hi:es.all (fun e=>e.i !=some i && o.dst !=some e.t)=true):KStepX P md ops Q a0 V n0 w0 SL T es i o:=
 fun listed a w hk hx D hin hil hnl K hK=>h listed a w hk D hin hil hnl K fun v w' h1 h2 h3=>hK v w' h1 (.of h2) (hx.keep h2 hP hi hil) h3
theorem wpAny_x (hfore:kFore md ops=true)(hown:flowOwn ops=true)(hin:∀(i:Nat) (o:Oper) (d:Tmp),ops[i]? =some o->o.dst=some d->d<a0.tmps.size)(hV:∀m i,Stab [(T,m,0)] (V i))(hSL:∀m,∀p∈SL,Stab [(T,m,0)] p.2)
 (hstep:∀(i:Nat) (o:Oper),ops[i]? =some o->KStepX P md ops Q a0 V n0 w0 SL T es i o)
 (hdone:∀(listed:Array Bool) (a:Act) (w:World),(∀i,i<ops.size->listed.getD i false=true)->KI md ops a0 V n0 w0 [] SL listed a w->XE es listed a w->Q .normal a w):
 ∀(fuel:Nat) (listed:Array Bool) (a:Act) (w:World),KI md ops a0 V n0 w0 [] SL listed a w->XE es listed a w->listed.toList.count false<=fuel->wpAny P md ops Q fuel listed a w:=by
 intro fuel
 induction fuel with
 |zero=>
  intro listed a w h hr hc;have hall:∀i,i<ops.size->listed.getD i false=true:=fun i hi=>count_zero listed (by omega) i (by rw [h.len];exact hi)
  refine⟨?_,hdone _ _ _ hall h hr⟩;cases hr':Region.ready md ops listed with
  |nil=>rfl
  |cons i l=>
   have hi:i∈Region.ready md ops listed:=by rw [hr'];exact List.mem_cons_self
   obtain⟨h1,o,ho,_⟩:=mem_ready.1 hi
   have hlt:i<ops.size:=by
    rcases Nat.lt_or_ge i ops.size with h'|h'
    ·exact h'
    ·rw [Array.getElem?_eq_none h'] at ho;cases ho
   have h2:=hall i hlt;have h3:i<listed.size:=by rw [h.len];exact hlt
   simp [Array.getD,h3] at h1 h2;rw [h2] at h1;cases h1
 |succ fuel ih=>
  intro listed a w h hr hc;refine⟨fun hr'=>hdone _ _ _ (kready_none hfore h.len hr') h hr,fun i hi=>?_⟩;obtain⟨h1,o,ho,hdep⟩:=mem_ready.1 hi
  have hlt:i<listed.size:=by
   rw [h.len];rcases Nat.lt_or_ge i ops.size with h'|h'
   ·exact h'
   ·rw [Array.getElem?_eq_none h'] at ho;cases ho
  have hcnt:=count_set listed i hlt h1;have hnl:listed.getD i false=false:=by have h5:=h1;simp only [Array.getD,hlt,dif_pos] at h5 ⊢;exact h5
  have key:if Region.wanted o (yielded ops a.tmps)then o.wp P a w (wpAny P md ops Q fuel (listed.setIfInBounds i true)) Q else wpAny P md ops Q fuel (listed.setIfInBounds i true) (a.put o.dst undef) w:=
   hstep i o ho listed a w h hr hdep (dst_ok hin ho) hlt hnl _ fun v w' hS ⟨m,_,hR⟩ hx hv=>ih _ _ _ (h.step hown hin (hV m) (hSL m) ho hdep hS hR hv) hx (by omega)
  unfold wpOp;rw [ho];by_cases hw:Region.wanted o (yielded ops a.tmps)=true
  ·simp only [hw,if_true] at key ⊢;exact .inl key
  ·simp only [hw] at key ⊢;exact key
theorem wpList_x (hfore:kFore md ops=true)(hown:flowOwn ops=true)(hin:∀(i:Nat) (o:Oper) (d:Tmp),ops[i]? =some o->o.dst=some d->d<a0.tmps.size)(hV:∀m i,Stab [(T,m,0)] (V i))(hSL:∀m,∀p∈SL,Stab [(T,m,0)] p.2)
 (hstep:∀(i:Nat) (o:Oper),ops[i]? =some o->KStepX P md ops Q a0 V n0 w0 SL T es i o)
 (hdone:∀(listed:Array Bool) (a:Act) (w:World),(∀i,i<ops.size->listed.getD i false=true)->KI md ops a0 V n0 w0 [] SL listed a w->XE es listed a w->Q .normal a w):
 ∀(rest:List Oper) (k:Nat) (listed:Array Bool) (a:Act) (w:World),ops.toList.drop k=rest->(∀i,i<k->i<ops.size->listed.getD i false=true)->(∀i,k<=i->listed.getD i false=false)->KI md ops a0 V n0 w0 [] SL listed a w->XE es listed a w->wpList P ops Q rest a w:=by
 intro rest
 induction rest with
 |nil=>
  intro k listed a w hk hl _ h hr
  have:ops.size<=k:=by
   have:=List.drop_eq_nil_iff.1 hk
   simpa using this
  exact hdone listed a w (fun i hi=>hl i (by omega) hi) h hr
 |cons o rest ih=>
  intro k listed a w hk hl hnl h hr
  have hlt:k<ops.toList.length:=by
   rcases Nat.lt_or_ge k ops.toList.length with h'|h'
   ·exact h'
   ·rw [List.drop_eq_nil_iff.2 h'] at hk;cases hk
  rw [List.drop_eq_getElem_cons hlt] at hk;have ho':ops.toList[k]=o:=(List.cons.inj hk).1
  have ho:ops[k]? =some o:=by
   have h1:k<ops.size:=by simpa using hlt
   rw [Array.getElem?_eq_getElem h1]
   simpa using ho'
  have hlk:k<listed.size:=by rw [h.len];simpa using hlt
  have hdep:∀e∈o.after,Region.binds md e=true->listed.getD e.on false=true:=fun e he hb=>by
   have h1:=kFore_spec hfore ho e he hb
   exact hl e.on h1 (by
    have:k<ops.size:=by simpa using hlt
    omega)
  have key:if Region.wanted o (yielded ops a.tmps)then o.wp P a w (wpList P ops Q rest) Q else wpList P ops Q rest (a.put o.dst undef) w:=
   hstep k o ho listed a w h hr hdep (dst_ok hin ho) hlk (hnl _ (Nat.le_refl _)) _ fun v w' hS ⟨m,_,hR⟩ hx hv=>ih (k+1) _ _ _ (List.cons.inj hk).2 (fun i hi hi'=>by
    rw [getD_set _ _ _ hlk];split
    ·rfl
    ·exact hl i (by omega) hi') (fun i hi=>by
    rw [getD_set _ _ _ hlk,if_neg (by omega)]
    exact hnl i (by omega)) (h.step hown hin (hV m) (hSL m) ho hdep hS hR hv) hx
  unfold wpList;by_cases hw:Region.wanted o (yielded ops a.tmps)=true
  ·simp only [hw,if_true] at key ⊢;exact .inl key
  ·simp only [hw] at key ⊢;exact key
def AllX (P:Program)(md:Region.Mode)(ops:Array Oper)(Q:Exit->Act->World->Prop)(a0:Act)(V:Nat->VP)(n0:Nat)(w0:World)(SL:List (Nat×VP))(T:TypeId)(es:List En):Nat->List Oper->Prop
 |_,[]=>True
 |i,o::l=>KStepX P md ops Q a0 V n0 w0 SL T es i o/\AllX P md ops Q a0 V n0 w0 SL T es (i+1) l
theorem AllX.get:∀(l:List Oper) (i:Nat),AllX P md ops Q a0 V n0 w0 SL T es i l->∀(j:Nat) (o:Oper),l[j]? =some o->KStepX P md ops Q a0 V n0 w0 SL T es (i+j) o
 | [],_,_,j,o,ho=>by simp at ho
 |x::l,i,h,0,o,ho=>by
  have:x=o:=by simpa using ho
  subst this;exact h.1
 |x::l,i,h,j+1,o,ho=>by
  have:=AllX.get l (i+1) h.2 j o (by simpa using ho);rw [show i+(j+1)=i+1+j by omega];exact this
end
section
variable {Q:Exit->Act->World->Prop}{Vl:List VP}{n0:Nat}{w0:World}{T:TypeId}{es:List En}
theorem rgX {id N:Nat}{l:List Oper}{ord:Bool}{L:List Bd}{SL SL':List (Nat×VP)}{a:Act}{w:World}(T:TypeId)(es:List En)(st:St n0 w0 N L SL a w)(hstep:AllX Tryz.prog .any l.toArray Q a (GV Vl) n0 w0 SL T es 0 l)
 (hdone:∀a' w',St n0 w0 N [] SL' a' w'->(∀e∈es,e.j=none->∃v,a'.tmps[e.t]? =some v/\e.P v w')->Q .normal a' w')
 [hS:∀m,SbS [(T,m,0)] SL] [hL:∀m,SbL [(T,m,0)] Vl] (hP:∀e∈es,Stab [] e.P) (hini:∀e∈es,e.i=none->∃v,a.tmps[e.t]? =some v/\e.P v w) (he:es.all (fun e=>match e.i with|some i=>decide (i<l.length)|none=>true)=true)
 (hg:GetsF l.toArray (GV Vl) SL SL':=by repeat (first|exact trivial|refine⟨.inl ⟨rfl,rfl⟩,?_⟩|refine⟨.inr ⟨rfl,by kernel_rfl⟩,?_⟩))
 (hm:Tryz.prog.follows .mixedOrders=true:=by kernel_rfl) (hfore:kFore .any l.toArray=true:=by kernel_rfl) (hown:flowOwn l.toArray=true:=by kernel_rfl) (hin:l.all (fun o=>match o.dst with|some d=>decide (d<N)|none=>true)=true:=by kernel_rfl):(Code.region id l.toArray ord).wp Tryz.prog Q a w:=by
 have hin':∀(i:Nat) (o:Oper) (d:Tmp),l.toArray[i]? =some o->o.dst=some d->d<a.tmps.size:=fun i o d ho D=>by
  rw [st.size];rw [List.all_eq_true] at hin;have ho':l[i]? =some o:=by simpa using ho
  have:=hin o (List.mem_of_getElem? ho');rw [D] at this;exact of_decide_eq_true this
 have hs':∀(i:Nat) (o:Oper),l.toArray[i]? =some o->KStepX Tryz.prog .any l.toArray Q a (GV Vl) n0 w0 SL T es i o:=fun i o ho=>by
  have:=AllX.get l 0 hstep i o (by simpa using ho);rw [Nat.zero_add] at this;exact this
 have hno:∀i,(Array.replicate l.length false).getD i false=true->False:=fun i hl=>by
  simp only [Array.getD_eq_getD_getElem?,Array.getElem?_replicate] at hl;split at hl<;>simp at hl
 have hno':∀i,(Array.replicate l.length false).getD i false=false:=fun i=>by
  cases h:(Array.replicate l.length false).getD i false with
  |false=>rfl
  |true=>exact(hno i h).elim
 have hks:KS n0 w0 [] (Array.replicate l.length false) a w:=⟨st.k.below,fun b hb=>absurd hb (by simp),fun b hb=>absurd hb (by simp),fun b hb=>absurd hb (by simp)⟩
 have hx0:∀w',RI [] w w'->XE es (Array.replicate l.length false) a w':=fun w' hr e he2 h1 _=>by
  cases hi:e.i with
  |some i=>exact(hno _ (h1 i hi)).elim
  |none=>
   obtain⟨v,e1,e2⟩:=hini e he2 hi;exact⟨v,e1,hP e he2 _ _ _ e2 hr⟩
 have fin:∀(listed:Array Bool) (a':Act) (w':World),(∀i,i<l.toArray.size->listed.getD i false=true)->KI .any l.toArray a (GV Vl) n0 w0 [] SL listed a' w'->XE es listed a' w'->Q .normal a' w':=fun listed a' w' hall kd hr=>by
  refine hdone a' w' (kd.st hall st.size st.defers rfl SL' hg.to) fun e he2 hj=>hr e he2 (fun i hi=>hall _ ?_) fun j hj2=>by rw [hj] at hj2;cases hj2
  rw [List.all_eq_true] at he;have:=he e he2;rw [hi] at this
  simpa using this
 cases ord with
 |true=>
  refine wp_region_any hm (wpAny_x hfore hown hin' (fun m=>stab_of (hL m).out) (fun m=>(hS m).out) hs' fin _ _ _ _ ⟨?_,st.n,by simp,rfl,rfl,fun _ _=>rfl,fun i o d ho hl _=>(hno i (by simpa using hl)).elim,fun p hp=>?_,fun k o _ hl=>(hno k (by simpa using hl)).elim⟩ (by simpa using hx0 _ (RI.drew w)) ?_)
  ·have:=hks.drew (BT:=[]) (fun b hb=>absurd hb (by simp))
   simpa using this
  ·obtain⟨v,h1,h2⟩:=st.sl p hp;exact⟨v,h1,(hS 0).out p hp _ _ _ h2 (RI.drew w)⟩
  ·simp
 |false=>
  exact wp_region_lit (wpList_x hfore hown hin' (fun m=>stab_of (hL m).out) (fun m=>(hS m).out) hs' fin l 0 (Array.replicate l.length false) a w (by simp) (fun i hi=>by omega) (fun i _=>hno' i) ⟨hks,st.n,by simp,rfl,rfl,fun _ _=>rfl,fun i o d ho hl _=>(hno i hl).elim,st.sl,fun k o _ hl=>(hno k hl).elim⟩ (hx0 _ (RI.refl w)))
end
end Go.Proofs.YteacdbgalloaiaaGreat
