/- Contracts of the packages integer, rat, plane, polygon and their references. -/
import Derived.Test.YtjdkdjobaabdiaaGreatZ43
import Derived.Test.YtjdkdjobaabdiaaGreatZ8
set_option linter.unusedVariables false
set_option maxRecDepth 100000
set_option maxHeartbeats 6400000
namespace Go.Proofs.YtjdkdjobaabdiaaGreat
open Go.RowKit
open Go
def wlM (m:List Int)(j:Nat):List P2:=(List.range j).map fun i=>spt m ((3*i:Nat):Int)
theorem wlM_succ (m:List Int)(j:Nat):wlM m (j+1)=wlM m j++ [spt m ((3*j:Nat):Int)]:=by unfold wlM;rw [List.range_succ,List.map_append];rfl
theorem walkMeasures {w:World}{l m:List Int}{how z:Int}{v0 v1 v2 v3:Value}(h0:VI l v0 w)(h1:VI m v1 w)(h2:Vi (how) v2 w)(h3:Vi (z) v3 w)(hw0: -9223372036854775808<=how)(hw1:how<=9223372036854775807)(hz0: -9223372036854775808<=z)(hz1:z<=9223372036854775807):Calls Tryz.prog 4 #[v0,v1,v2,v3] w (RV (Vb true) w):=by
 go_enter Tryz.func4,Tryz.ntmps4
 generalize hA:(⟨_,_⟩:Act)=a0;have st0:St w.heap.size w 115 [] [(0,VI l),(1,VI m),(2,Vi (how)),(3,Vi (z))] a0 w:=by subst hA;exact St.begin rfl rfl (Lq.2 ⟨⟨_,rfl,h0⟩,(Lq.2 ⟨⟨_,rfl,h1⟩,(Lq.2 ⟨⟨_,rfl,h2⟩,(Lq.2 ⟨⟨_,rfl,h3⟩,(fun _ h=>absurd h (by simp))⟩)⟩)⟩)⟩)
 clear hA;repeat first|apply Wq|apply Wb|apply Wk|apply Wx
 refine rH [(35,8,0)] [Vb (false)] [] [(0,VI l),(1,VI m),(2,Vi (how)),(3,Vi (z)),(8,Vb (false))] st0 ⟨ks,trivial⟩ ?_;intro a1 w1 st1;clear st0;repeat first|apply Wq|apply Wb|apply Wk|apply Wx
 refine rH [] [VI l,VSv 7 (polyR l),VSv 7 (polyR l)] [] [(0,VI l),(1,VI m),(2,Vi (how)),(3,Vi (z)),(8,Vb (false)),(9,VSv 7 (polyR l))] st1 ⟨ks,(kd1 fun _ _ _ _ _ X0=>cR6Polygon X0),ks,trivial⟩ ?_;intro a2 w2 st2;clear st1;replace st2:St w.heap.size w 115 [] [(0,VI l),(1,VI m),(2,Vi (how)),(3,Vi (z)),(8,Vb (false)),(9,VSv 7 (polyR l))] a2 w2:=st2;obtain⟨u1,p1,s1⟩:=st2.sl (1,VI m) (lS_mem rfl);obtain⟨u2,p2,s2⟩:=st2.sl (2,Vi (how)) (lS_mem rfl);obtain⟨u3,p3,s3⟩:=st2.sl (3,Vi (z)) (lS_mem rfl);obtain⟨u9,p9,s9⟩:=st2.sl (9,VSv 7 (polyR l)) (lS_mem rfl);repeat first|apply Wq|apply Wb|apply Wk|apply Wx
 obtain⟨hbN,stB⟩:=st2.base [(1,VI m),(2,Vi (how)),(3,Vi (z)),(9,VAt w2 (VSv 3 (polyR l)))] (Lq.2 ⟨⟨_,p1,s1⟩,(Lq.2 ⟨⟨_,p2,s2⟩,(Lq.2 ⟨⟨_,p3,s3⟩,(Lq.2 ⟨⟨_,p9,VSv_three s9 (polyR_Q l) (by omega) (by omega) (by omega)⟩,(fun _ h=>absurd h (by simp))⟩)⟩)⟩)⟩);clear st2;obtain⟨wO,hren⟩:∃z,z=w:=⟨_,rfl⟩;subst hren;have hbO:=hbN;clear hbN;obtain⟨w,hren⟩:∃z,z=w2:=⟨_,rfl⟩;subst hren;have st2:St w.heap.size w 115 [] [(1,VI m),(2,Vi (how)),(3,Vi (z)),(9,VAt w (VSv 3 (polyR l)))] a2 w:=stB;clear stB;clear p1 s1 p2 s2 p3 s3 p9 s9;obtain⟨hP3,hP12⟩:=polyR_len l;have hPQ:=polyR_Q l;generalize polyR l=P at st2 hP3 hP12 hPQ;repeat first|apply Wq|apply Wb|apply Wk|apply Wx
 refine rH [] [VEq (.slice none 0 0)] [] [(1,VI m),(2,Vi (how)),(3,Vi (z)),(9,VAt w (VSv 3 (P))),(10,VEq (.slice none 0 0))] st2 ⟨ks,trivial⟩ ?_;intro a3 w3 st3;clear st2;repeat first|apply Wq|apply Wb|apply Wk|apply Wx
 refine rH [] [Vi (0)] [] [(1,VI m),(2,Vi (how)),(3,Vi (z)),(9,VAt w (VSv 3 (P))),(10,VEq (.slice none 0 0)),(11,Vi (0))] st3 ⟨ks,trivial⟩ ?_;intro a4 w4 st4;clear st3;replace st4:St w.heap.size w 115 [] [(1,VI m),(2,Vi (how)),(3,Vi (z)),(9,VAt w (VSv 3 (P))),(10,VEq (.slice none 0 0)),(11,Vi (0))] a4 w4:=st4;obtain⟨vR,heR,hvR⟩:=st4.sl (10,VEq (.slice none 0 0)) (lS_mem rfl);replace st4:=st4.reT 10 (VRg 35 8 (EV 3) none 0 0 ([])) heR ⟨by simp,by omega,.inl ⟨rfl,hvR⟩⟩;replace st4:St w.heap.size w 115 [] [(1,VI m),(2,Vi (how)),(3,Vi (z)),(9,VAt w (VSv 3 (P))),(10,VRg 35 8 (EV 3) none 0 0 ([])),(11,Vi (((3*0:Nat):Int)))] a4 w4:=st4.cut;clear heR hvR;repeat first|apply Wq|apply Wb|apply Wk|apply Wx
 refine wp_loop_ghost (fun m1 aX wX=>∃(j g c:Nat) (us:List P2),j+m1=8/\us=wlM m j/\us.length=j/\(c=0∨w.heap.size<=g/\0<us.length)/\St w.heap.size w 115 [] [(1,VI m),(2,Vi (how)),(3,Vi (z)),(9,VAt w (VSv 3 (P))),(10,VRg 35 8 (EV 3) none g c (us)),(11,Vi (((3*j:Nat):Int)))] aX wX) 8 ⟨0,0,0,[],by omega,rfl,rfl,.inl rfl,st4⟩ ?_;clear st4;intro m1 aL wL ⟨j,g,c,us,hj,hus,hul,hxc,st4⟩;obtain⟨n,hn⟩:∃n,n=m.length:=⟨_,rfl⟩;by_cases hin:3*j<m.length/\3*j<24
 ·
  obtain⟨hlt,h24⟩:=hin;repeat first|apply Wq|apply Wb|apply Wk|apply Wx
  refine rH [] [Vi (((3*j:Nat):Int)),VI m,Vi ((m.length:Int)),Vb (true),Vb (true),Vi (((3*j:Nat):Int)),Vb (true),Vb (true)] [] [(1,VI m),(2,Vi (how)),(3,Vi (z)),(9,VAt w (VSv 3 (P))),(10,VRg 35 8 (EV 3) none g c (us)),(11,Vi (((3*j:Nat):Int))),(28,Vb (true))] st4 ⟨ks,ks,(kr1 22 fun _ _ _ _ _ x0 X0=>len_VI rfl rfl x0 X0),(kr2 21 23 fun _ _ _ _ _ x0 X0 _ x1 X1=>⟨_,run_lssi rfl (x0.trans X0) (x1.trans X1),congrArg Value.bool (dT (by omega))⟩),ks,ks,(kr1 26 fun _ _ _ _ _ x0 X0=>⟨_,run_lssi rfl (x0.trans X0) rfl,congrArg Value.bool (dT (by omega))⟩),ks,trivial⟩ ?_;intro a5 w5 st5;clear st4;repeat first|apply Wq|apply Wb|apply Wk|apply Wx
  refine cT st5 ?_;by_cases hrm:(us).length+([spt m ((3*j:Nat):Int)]).length<=c
  ·
   replace st5:St w.heap.size w 115 [] [(1,VI m),(2,Vi (how)),(3,Vi (z)),(9,VAt w (VSv 3 (P))),(10,VRg 35 8 (EV 3) none g c (us)),(11,Vi (((3*j:Nat):Int))),(28,Vb (true))] a5 w5:=st5;obtain⟨vR,heR,hlR,hcmR,(⟨h0,-⟩|⟨h0,hvR,hrow⟩)⟩:=st5.sl (10,VRg 35 8 (EV 3) none g c (us)) (lS_mem rfl)
   ·simp only [List.length_cons,List.length_nil] at hrm;omega
   have h2c:2<=c:=by simp only [List.length_cons,List.length_nil] at hrm;omega
   have hgn:w.heap.size<=g:=by omega
   replace st5:=st5.reT 10 (VEq (.slice (some ⟨g,0,none⟩) (us).length c)) heR hvR;replace st5:St w.heap.size w 115 [] [(1,VI m),(2,Vi (how)),(3,Vi (z)),(9,VAt w (VSv 3 (P))),(10,VEq (.slice (some ⟨g,0,none⟩) (us).length c)),(11,Vi (((3*j:Nat):Int))),(28,Vb (true))] a5 w5:=st5.cut;clear heR hvR hlR;repeat first|apply Wq|apply Wb|apply Wk|apply Wx
   have:Sb ((35,8*c,0):: []) (VOs 35 8 (EV 3) ([spt m ((3*j:Nat):Int)])):=⟨Stab_VOs (fun x=>Stab_Vv _ _ _) (by first|(simp;done)|(simp;omega))⟩;refine rgR (BT:=[]) (Vl:=[VEq (.slice (some ⟨g,0,none⟩) (us).length c),VI m,Vi (((3*j:Nat):Int)),Vv 3 ((spt m ((3*j:Nat):Int)).1) ((spt m ((3*j:Nat):Int)).2),VOs 35 8 (EV 3) ([spt m ((3*j:Nat):Int)]),VEq (.slice (some ⟨g,0,none⟩) ((us).length+([spt m ((3*j:Nat):Int)]).length) c),VEq (.slice (some ⟨g,0,none⟩) ((us).length+([spt m ((3*j:Nat):Int)]).length) c)]) (B:=[]) (SL':=[(1,VI m),(2,Vi (how)),(3,Vi (z)),(9,VAt w (VSv 3 (P))),(11,Vi (((3*j:Nat):Int))),(28,Vb (true)),(10,VEq (.slice (some ⟨g,0,none⟩) ((us).length+([spt m ((3*j:Nat):Int)]).length) c))]) ⟨g,5,35,8*c,VEl 8 (EV 3) (us++ [spt m ((3*j:Nat):Int)]),VEl 8 (EV 3) (us)⟩ st5 hrow ⟨fun _=>?s0,fun _=>ks,fun _=>ks,fun _=>(kd2 fun _ _ _ _ _ X0 _ X1=>cR6Spot X0 X1),fun _=>(by refine km fun _ A Y h D=>?_;obtain⟨v0,x0,X0⟩:=h.dp D 34;exact bslice_V1 rfl x0 X0),fun hne=>absurd rfl hne,fun _=>ks,trivial⟩ ?r5 ?_ (by kernel_rfl) (Nat.le_of_ble_eq_true rfl) (hm0:=(by show 8*c≠0;omega))
   case s0=>
    refine k_run0 SbB.out (by kernel_rfl) fun listed A Y h D hnl=>⟨trivial,?_⟩
    obtain⟨v0,x0,X0⟩:=h.out0 hnl (10,VEq (.slice (some ⟨g,0,none⟩) (us).length c)) (.tail _ (.tail _ (.tail _ (.tail _ (.head _))))) 6 (by kernel_rfl) (.inr (by kernel_rfl));exact⟨_,run_move rfl,by rw [x0];exact X0⟩
   case r5=>intro o ho;obtain rfl:=Option.some.inj ho.symm;exact k_appM (k:=8) (E:=EV 3) (us:=us) (zs:=[spt m ((3*j:Nat):Int)]) rfl ⟨[],by simp⟩ rfl (.inl ⟨by kernel_rfl,rfl,rfl⟩) (.inl ⟨by kernel_rfl,rfl,rfl⟩) (fun _ _ _ _ h=>VOs_sc h) rfl hrm h2c hgn (by kernel_rfl) (by kernel_rfl) (fun x BT=>Stab_Vv _ _ _) (by simp) trivial
   clear hrow;intro a6 w6 st6 hrow;clear st5;replace st6:St w.heap.size w 115 [] [(1,VI m),(2,Vi (how)),(3,Vi (z)),(9,VAt w (VSv 3 (P))),(11,Vi (((3*j:Nat):Int))),(28,Vb (true)),(10,VEq (.slice (some ⟨g,0,none⟩) ((us).length+([spt m ((3*j:Nat):Int)]).length) c))] a6 w6:=st6;obtain⟨vR,heR,hvR⟩:=st6.sl (10,VEq (.slice (some ⟨g,0,none⟩) ((us).length+([spt m ((3*j:Nat):Int)]).length) c)) (lS_mem rfl);replace st6:=st6.reT 10 (VRg 35 8 (EV 3) none g c (us++ [spt m ((3*j:Nat):Int)])) heR (by obtain rfl:vR=_:=hvR;exact VRg_in (by rw [List.length_append];exact hrm) h0 hcmR hrow);replace st6:St w.heap.size w 115 [] [(1,VI m),(2,Vi (how)),(3,Vi (z)),(9,VAt w (VSv 3 (P))),(11,Vi (((3*j:Nat):Int))),(28,Vb (true)),(10,VRg 35 8 (EV 3) none g c (us++ [spt m ((3*j:Nat):Int)]))] a6 w6:=st6.cut;clear heR hvR hrow hcmR h0;repeat first|apply Wq|apply Wb|apply Wk|apply Wx
   refine rH [] [Vi (((3*j:Nat):Int)),Vi (((3*(j+1):Nat):Int)),Vi (((3*(j+1):Nat):Int))] [] [(1,VI m),(2,Vi (how)),(3,Vi (z)),(9,VAt w (VSv 3 (P))),(28,Vb (true)),(10,VRg 35 8 (EV 3) none g c (us++ [spt m ((3*j:Nat):Int)])),(11,Vi (((3*(j+1):Nat):Int)))] st6 ⟨?s0,(kr1 29 fun _ _ _ _ v0 x0 X0=>⟨_,run_addi rfl (x0.trans (show v0= .int .i64 ((3*j:Nat):Int)from X0)) rfl (wrap_id (by omega) (by omega)),congrArg (Value.int .i64) (by omega)⟩),ks,trivial⟩ ?_
   case s0=>
    refine k_run0 SbB.out (by kernel_rfl) fun listed A Y h D hnl=>⟨trivial,?_⟩
    obtain⟨v0,x0,X0⟩:=h.out0 hnl (11,Vi (((3*j:Nat):Int))) (.tail _ (.tail _ (.tail _ (.tail _ (.head _))))) 2 (by kernel_rfl) (.inr (by kernel_rfl));exact⟨_,run_move rfl,by rw [x0];exact X0⟩
   intro a7 w7 st7;clear st6;replace st7:St w.heap.size w 115 [] [(1,VI m),(2,Vi (how)),(3,Vi (z)),(9,VAt w (VSv 3 (P))),(28,Vb (true)),(10,VRg 35 8 (EV 3) none g c (us++ [spt m ((3*j:Nat):Int)])),(11,Vi (((3*(j+1):Nat):Int)))] a7 w7:=st7;exact⟨m1 - 1,by omega,j+1,g,c,us++ [spt m ((3*j:Nat):Int)],by omega,by rw [wlM_succ,hus],by rw [List.length_append,hul];rfl,.inr ⟨by omega,by rw [List.length_append,List.length_singleton];omega⟩,st7.cut⟩
  ·
   repeat first|apply Wq|apply Wb|apply Wk|apply Wx
   refine rH [] [VRg 35 8 (EV 3) none g c (us),VI m,Vi (((3*j:Nat):Int)),Vv 3 ((spt m ((3*j:Nat):Int)).1) ((spt m ((3*j:Nat):Int)).2),VOs 35 8 (EV 3) ([spt m ((3*j:Nat):Int)]),VRx 35 8 (EV 3) w.heap.size (us++ [spt m ((3*j:Nat):Int)]),VRx 35 8 (EV 3) w.heap.size (us++ [spt m ((3*j:Nat):Int)])] [] [(1,VI m),(2,Vi (how)),(3,Vi (z)),(9,VAt w (VSv 3 (P))),(11,Vi (((3*j:Nat):Int))),(28,Vb (true)),(10,VRx 35 8 (EV 3) w.heap.size (us++ [spt m ((3*j:Nat):Int)]))] st5 ⟨?s0,ks,ks,(kd2 fun _ _ _ _ _ X0 _ X1=>cR6Spot X0 X1),(by refine km fun _ A Y h D=>?_;obtain⟨v0,x0,X0⟩:=h.dp D 34;exact bslice_V1 rfl x0 X0),(by refine km fun _ A Y h D=>?_;obtain⟨v0,x0,X0⟩:=h.dp D 31;obtain⟨v1,x1,X1⟩:=h.dp D 35;exact app_growM rfl x0 X0 x1 (VOs_sc X1) (fun x=>Stab_Vv _ _ _) (by omega) h.n (by simp only [List.length_cons,List.length_nil];omega)),ks,trivial⟩ ?_
   case s0=>
    refine k_run0 SbB.out (by kernel_rfl) fun listed A Y h D hnl=>⟨trivial,?_⟩
    obtain⟨v0,x0,X0⟩:=h.out0 hnl (10,VRg 35 8 (EV 3) none g c (us)) (.tail _ (.tail _ (.tail _ (.tail _ (.head _))))) 6 (by kernel_rfl) (.inr (by kernel_rfl));exact⟨_,run_move rfl,by rw [x0];exact X0⟩
   intro a6 w6 st6;clear st5;replace st6:St w.heap.size w 115 [] [(1,VI m),(2,Vi (how)),(3,Vi (z)),(9,VAt w (VSv 3 (P))),(11,Vi (((3*j:Nat):Int))),(28,Vb (true)),(10,VRx 35 8 (EV 3) w.heap.size (us++ [spt m ((3*j:Nat):Int)]))] a6 w6:=st6;obtain⟨g2,c2,hg2,hc2,st6⟩:=st6.nameR 10 rfl;replace st6:St w.heap.size w 115 [] [(1,VI m),(2,Vi (how)),(3,Vi (z)),(9,VAt w (VSv 3 (P))),(11,Vi (((3*j:Nat):Int))),(28,Vb (true)),(10,VRg 35 8 (EV 3) none g2 c2 (us++ [spt m ((3*j:Nat):Int)]))] a6 w6:=st6.cut;repeat first|apply Wq|apply Wb|apply Wk|apply Wx
   refine rH [] [Vi (((3*j:Nat):Int)),Vi (((3*(j+1):Nat):Int)),Vi (((3*(j+1):Nat):Int))] [] [(1,VI m),(2,Vi (how)),(3,Vi (z)),(9,VAt w (VSv 3 (P))),(28,Vb (true)),(10,VRg 35 8 (EV 3) none g2 c2 (us++ [spt m ((3*j:Nat):Int)])),(11,Vi (((3*(j+1):Nat):Int)))] st6 ⟨?s0,(kr1 29 fun _ _ _ _ v0 x0 X0=>⟨_,run_addi rfl (x0.trans (show v0= .int .i64 ((3*j:Nat):Int)from X0)) rfl (wrap_id (by omega) (by omega)),congrArg (Value.int .i64) (by omega)⟩),ks,trivial⟩ ?_
   case s0=>
    refine k_run0 SbB.out (by kernel_rfl) fun listed A Y h D hnl=>⟨trivial,?_⟩
    obtain⟨v0,x0,X0⟩:=h.out0 hnl (11,Vi (((3*j:Nat):Int))) (.tail _ (.tail _ (.tail _ (.tail _ (.head _))))) 2 (by kernel_rfl) (.inr (by kernel_rfl));exact⟨_,run_move rfl,by rw [x0];exact X0⟩
   intro a7 w7 st7;clear st6;replace st7:St w.heap.size w 115 [] [(1,VI m),(2,Vi (how)),(3,Vi (z)),(9,VAt w (VSv 3 (P))),(28,Vb (true)),(10,VRg 35 8 (EV 3) none g2 c2 (us++ [spt m ((3*j:Nat):Int)])),(11,Vi (((3*(j+1):Nat):Int)))] a7 w7:=st7;exact⟨m1 - 1,by omega,j+1,g2,c2,us++ [spt m ((3*j:Nat):Int)],by omega,by rw [wlM_succ,hus],by rw [List.length_append,hul];rfl,.inr ⟨by omega,by rw [List.length_append,List.length_singleton];omega⟩,st7.cut⟩
 ·
  repeat first|apply Wq|apply Wb|apply Wk|apply Wx
  refine wp_mono' (Q:=fun e aX wX=>e= .normal/\St w.heap.size w 115 [] [(1,VI m),(2,Vi (how)),(3,Vi (z)),(9,VAt w (VSv 3 (P))),(10,VRg 35 8 (EV 3) none g c (us)),(11,Vi (((3*j:Nat):Int))),(28,Vb (false))] aX wX) ?r4 ?_
  case r4=>
   by_cases hlt:3*j<m.length
   ·
    repeat first|apply Wq|apply Wb|apply Wk|apply Wx
    refine rH [] [Vi (((3*j:Nat):Int)),VI m,Vi ((m.length:Int)),Vb (true),Vb (true),Vi (((3*j:Nat):Int)),Vb (false),Vb (false)] [] [(1,VI m),(2,Vi (how)),(3,Vi (z)),(9,VAt w (VSv 3 (P))),(10,VRg 35 8 (EV 3) none g c (us)),(11,Vi (((3*j:Nat):Int))),(28,Vb (false))] st4 ⟨ks,ks,(kr1 22 fun _ _ _ _ _ x0 X0=>len_VI rfl rfl x0 X0),(kr2 21 23 fun _ _ _ _ _ x0 X0 _ x1 X1=>⟨_,run_lssi rfl (x0.trans X0) (x1.trans X1),congrArg Value.bool (dT (by omega))⟩),ks,ks,(kr1 26 fun _ _ _ _ _ x0 X0=>⟨_,run_lssi rfl (x0.trans X0) rfl,congrArg Value.bool (dF (by omega))⟩),ks,trivial⟩ ?_;intro a5 w5 st5;clear st4;exact⟨rfl,st5.cut⟩
   ·
    repeat first|apply Wq|apply Wb|apply Wk|apply Wx
    refine rH [] [Vi (((3*j:Nat):Int)),VI m,Vi ((m.length:Int)),Vb (false),Vb (false),VT,VT,Vb (false)] [] [(1,VI m),(2,Vi (how)),(3,Vi (z)),(9,VAt w (VSv 3 (P))),(10,VRg 35 8 (EV 3) none g c (us)),(11,Vi (((3*j:Nat):Int))),(28,Vb (false))] st4 ⟨ks,ks,(kr1 22 fun _ _ _ _ _ x0 X0=>len_VI rfl rfl x0 X0),(kr2 21 23 fun _ _ _ _ _ x0 X0 _ x1 X1=>⟨_,run_lssi rfl (x0.trans X0) (x1.trans X1),congrArg Value.bool (dF (by omega))⟩),ks,ks,ks,ks,trivial⟩ ?_;intro a5 w5 st5;clear st4;exact⟨rfl,st5.cut⟩
  rintro _ a5x w5x ⟨rfl,st5⟩
  clear st4;repeat first|apply Wq|apply Wb|apply Wk|apply Wx
  refine cF st5 ?_;have hu8:us.length<=8:=by omega
  replace st5:St w.heap.size w 115 [] [(1,VI m),(2,Vi (how)),(3,Vi (z)),(9,VAt w (VSv 3 (P))),(10,VRg 35 8 (EV 3) none g c (us)),(11,Vi (((3*j:Nat):Int))),(28,Vb (false))] a5x w5x:=st5;obtain⟨u2,p2,s2⟩:=st5.sl (2,Vi (how)) (lS_mem rfl);obtain⟨u3,p3,s3⟩:=st5.sl (3,Vi (z)) (lS_mem rfl);obtain⟨u9,p9,s9⟩:=st5.sl (9,VAt w (VSv 3 (P))) (lS_mem rfl);obtain⟨u10,p10,s10⟩:=st5.sl (10,VRg 35 8 (EV 3) none g c (us)) (lS_mem rfl);replace s10:=VRg_sv s10 (by intro e;rcases hxc with h|⟨-,h⟩;exact h;rw [e] at h;simp at h);repeat first|apply Wq|apply Wb|apply Wk|apply Wx
  obtain⟨hbN,stB⟩:=st5.base [(2,Vi (how)),(3,Vi (z)),(9,VAt w5x (VSv 3 (P))),(10,VAt w5x (VSv 3 (us)))] (Lq.2 ⟨⟨_,p2,s2⟩,(Lq.2 ⟨⟨_,p3,s3⟩,(Lq.2 ⟨⟨_,p9,VSv_later s9 st5.k.below⟩,(Lq.2 ⟨⟨_,p10,s10⟩,(fun _ h=>absurd h (by simp))⟩)⟩)⟩)⟩);clear st5;have hbX:=below_tr hbO hbN;clear hbN;clear hbO;have hbO:=hbX;clear hbX;obtain⟨wP,hren⟩:∃z,z=w:=⟨_,rfl⟩;subst hren;obtain⟨w,hren⟩:∃z,z=w5x:=⟨_,rfl⟩;subst hren;have st5:St w.heap.size w 115 [] [(2,Vi (how)),(3,Vi (z)),(9,VAt w (VSv 3 (P))),(10,VAt w (VSv 3 (us)))] a5x w:=stB;clear stB;clear p2 s2 p3 s3 p9 s9 p10 s10;repeat first|apply Wq|apply Wb|apply Wk|apply Wx
  refine wp_mono' (Q:=fun e aX wX=>e= .normal/\∃(bq:Bool) (q:List P2),q.length<=13/\St w.heap.size w 115 [] [(9,VAt w (VSv 3 (P))),(10,VAt w (VSv 3 (us))),(12,VQ5 bq q)] aX wX) ?r7 ?_
  case r7=>
   by_cases h5:arn how 7=5
   ·
    repeat first|apply Wq|apply Wb|apply Wk|apply Wx
    have:Sb [] (VSb 14 (badL P (spK P z))):=⟨(fun _ _ _ ⟨hh,o,c,cs,e1,e2,e3,e4,e5,e6⟩ hr=>⟨hh,o,c,cs,e1,e2,e3,(hr.row _ _ _ e4 (.inl (by simp))).trans e4,e5,fun i x hx=>Stab_EVb _ _ _ _ _ (e6 i x hx) hr⟩)⟩;refine rH [] [VAt w (VSv 3 (P)),Vi (how),Vi (z),VSb 14 (badL P (spK P z)),VSb 14 (badL P (spK P z))] [] [(2,Vi (how)),(3,Vi (z)),(9,VAt w (VSv 3 (P))),(10,VAt w (VSv 3 (us))),(12,VSb 14 (badL P (spK P z)))] st5 ⟨ks,ks,ks,(by refine kc fun _ A Y h D=>?_;obtain⟨v0,x0,X0⟩:=h.dp D 37;obtain⟨v1,x1,X1⟩:=h.dp D 38;obtain⟨v2,x2,X2⟩:=h.dp D 39;exact⟨#[v0,v1,v2],by simp [x0,x1,x2],cR6Spoilt5 (N:=3) (show VAt Y (VSv 3 P) v0 Y from VSv_later X0 h.k.below) X1 X2 (by omega) (by omega) (by omega) (by omega) hw0 hw1 hz0 hz1 h5⟩),ks,trivial⟩ ?_;intro a6 w6 st6;clear st5;replace st6:St w.heap.size w 115 [] [(2,Vi (how)),(3,Vi (z)),(9,VAt w (VSv 3 (P))),(10,VAt w (VSv 3 (us))),(12,VSb 14 (badL P (spK P z)))] a6 w6:=st6;obtain⟨u12,p12,s12⟩:=st6.sl (12,VSb 14 (badL P (spK P z))) (lS_mem rfl);have hk:spK P z<P.length:=by have h1:=arn_lo z (P.length:Int) (by omega);have h2:=arn_hi z (P.length:Int) (by omega);unfold spK;omega
    exact⟨rfl,false,P,by omega,(st6.reT 12 (VQ5 false P) p12 (.inr ⟨rfl,_,by unfold badL;rw [List.length_set,List.length_map],s12,spK P z,(cv P (spK P z),true),by unfold badL;rw [List.getElem?_set_self (by rw [List.length_map];exact hk)],rfl⟩)).cut⟩
   ·
    repeat first|apply Wq|apply Wb|apply Wk|apply Wx
    refine rH [] [VAt w (VSv 3 (P)),Vi (how),Vi (z),VSv 14 (spoil P how z),VSv 14 (spoil P how z)] [] [(2,Vi (how)),(3,Vi (z)),(9,VAt w (VSv 3 (P))),(10,VAt w (VSv 3 (us))),(12,VSv 14 (spoil P how z))] st5 ⟨ks,ks,ks,(by refine kc fun _ A Y h D=>?_;obtain⟨v0,x0,X0⟩:=h.dp D 37;obtain⟨v1,x1,X1⟩:=h.dp D 38;obtain⟨v2,x2,X2⟩:=h.dp D 39;exact⟨#[v0,v1,v2],by simp [x0,x1,x2],cR6Spoilt (N:=3) (show VAt Y (VSv 3 P) v0 Y from VSv_later X0 h.k.below) X1 X2 (by omega) (by omega) (by omega) (by omega) hw0 hw1 hz0 hz1 h5⟩),ks,trivial⟩ ?_;intro a6 w6 st6;clear st5;replace st6:St w.heap.size w 115 [] [(2,Vi (how)),(3,Vi (z)),(9,VAt w (VSv 3 (P))),(10,VAt w (VSv 3 (us))),(12,VSv 14 (spoil P how z))] a6 w6:=st6;obtain⟨u12,p12,s12⟩:=st6.sl (12,VSv 14 (spoil P how z)) (lS_mem rfl);exact⟨rfl,true,spoil P how z,by have:=(spoil_len (vs:=P) (how:=how) (z:=z) (by omega)).2;omega,(st6.reT 12 (VQ5 true (spoil P how z)) p12 (.inl ⟨rfl,VSv_three s12 (spoil_Q (B:=32) (by omega) hPQ (by omega) how z) (by omega) (by omega) (by omega)⟩)).cut⟩
  rintro _ a6x w6x ⟨rfl,bq,q,hq13,st6⟩
  clear st5;repeat first|apply Wq|apply Wb|apply Wk|apply Wx
  refine rH [] [VAt w (VSv 3 (P)),VAt w (VSv 3 (us)),VAt w (VSv 3 (P)),VAt w (VSv 3 (P.take 1)),VAt w (VSv 3 (P)),VAt w (VSv 3 (P.take 2)),VOs 23 1 ES [P,us,[],P.take 1,P.take 2],VOs 23 1 ES [P,us,[],P.take 1,P.take 2]] [] [(9,VAt w (VSv 3 (P))),(10,VAt w (VSv 3 (us))),(12,VQ5 bq q),(13,VOs 23 1 ES [P,us,[],P.take 1,P.take 2])] st6 ⟨ks,ks,ks,(kr1 43 fun _ _ _ _ _ x0 X0=>take_Sv (n:=1) rfl x0 X0 rfl rfl (by omega) (by omega)),ks,(kr1 45 fun _ _ _ _ _ x0 X0=>take_Sv (n:=2) rfl x0 X0 rfl rfl (by omega) (by omega)),(by refine km fun _ A Y h D=>?_;obtain⟨v0,x0,X0⟩:=h.dp D 41;obtain⟨v1,x1,X1⟩:=h.dp D 42;obtain⟨v2,x2,X2⟩:=h.dp D 44;obtain⟨v3,x3,X3⟩:=h.dp D 46;exact bslice_L5 rfl (fun _=>rfl) x0 x1 x2 x3 (VSv_later X0 h.k.below) (VSv_later X1 h.k.below) (VSv_later X2 h.k.below) (VSv_later X3 h.k.below)),ks,trivial⟩ ?_;intro a7 w7 st7;clear st6;repeat first|apply Wq|apply Wb|apply Wk|apply Wx
  refine rH [] [VQ5 bq q,Vb (bq)] [] [(9,VAt w (VSv 3 (P))),(10,VAt w (VSv 3 (us))),(12,VQ5 bq q),(13,VOs 23 1 ES [P,us,[],P.take 1,P.take 2]),(49,Vb (bq))] st7 ⟨ks,(kd1 fun _ _ Y _ v0 X0=>cNumbersQ (show VQ5 bq q v0 Y from X0)),trivial⟩ ?_;intro a8 w8 st8;clear st7;replace st8:St w.heap.size w 115 [] [(12,VQ5 bq q),(13,VOs 23 1 ES [P,us,[],P.take 1,P.take 2]),(49,Vb (bq))] a8 w8:=st8.cut;repeat first|refine Wq ?_|refine Wk ?_
  refine wp_mono' (Q:=fun e aX wX=>e= .normal/\∃L:List (List P2),L.length<=6/\(∀vs∈L,vs.length<=13)/\St w.heap.size w 115 [] [(13,VLs L)] aX wX) ?r9 ?_
  case r9=>
   have hL5:∀vs∈([P,us,[],P.take 1,P.take 2]:List (List P2)),vs.length<=13:=by
    intro vs hvs;simp only [List.mem_cons,List.not_mem_nil,or_false] at hvs;rcases hvs with rfl|rfl|rfl|rfl|rfl
    ·omega
    ·omega
    ·simp
    ·rw [List.length_take];omega
    ·rw [List.length_take];omega
   cases bq with
   |true=>
    repeat first|apply Wq|apply Wb|apply Wk|apply Wx
    refine cT st8 ?_;repeat first|apply Wq|apply Wb|apply Wk|apply Wx
    have:Sb [] (VRx 23 1 ES w.heap.size ([P,us,[],P.take 1,P.take 2]++ [q])):=⟨Stab_VRx Stab_ES (by decide) (by simp)⟩;refine rH [] [VOs 23 1 ES [P,us,[],P.take 1,P.take 2],VQ5 true q,VOs 23 1 ES [q],VRx 23 1 ES w.heap.size ([P,us,[],P.take 1,P.take 2]++ [q]),VRx 23 1 ES w.heap.size ([P,us,[],P.take 1,P.take 2]++ [q])] [] [(12,VQ5 true q),(49,Vb (true)),(13,VRx 23 1 ES w.heap.size ([P,us,[],P.take 1,P.take 2]++ [q]))] st8 ⟨?s0,ks,(by refine km fun _ A Y h D=>?_;obtain⟨v0,x0,X0⟩:=h.dp D 51;exact bslice_L1 rfl x0 (VQ5_good X0)),?s3,ks,trivial⟩ ?_
    case s0=>
     refine k_run0 SbB.out (by kernel_rfl) fun listed A Y h D hnl=>⟨trivial,?_⟩
     obtain⟨v0,x0,X0⟩:=h.out0 hnl (13,VOs 23 1 ES [P,us,[],P.take 1,P.take 2]) (.tail _ (.head _)) 4 (by kernel_rfl) (.inr (by kernel_rfl));exact⟨_,run_move rfl,by rw [x0];exact X0⟩
    case s3=>
     refine km fun _ A Y h D=>?_
     obtain⟨v0,x0,X0⟩:=h.dp D 50;obtain⟨v1,x1,X1⟩:=h.dp D 52;obtain⟨g5,h5⟩:=VOs_rg X0 (by simp) (by simp);exact app_growM rfl x0 h5 x1 (VOs_sc X1) Stab_ES (by simp) h.n (by simp)
    intro a9 w9 st9;clear st8;replace st9:St w.heap.size w 115 [] [(12,VQ5 true q),(49,Vb (true)),(13,VRx 23 1 ES w.heap.size ([P,us,[],P.take 1,P.take 2]++ [q]))] a9 w9:=st9;obtain⟨u13,p13,g5,c5,-,-,s13⟩:=st9.sl (13,VRx 23 1 ES w.heap.size ([P,us,[],P.take 1,P.take 2]++ [q])) (lS_mem rfl);exact⟨rfl,[P,us,[],P.take 1,P.take 2]++ [q],by simp,fun vs hvs=>by rcases List.mem_append.1 hvs with h|h;exact hL5 vs h;rw [List.mem_singleton.1 h];exact hq13,(st9.reT 13 (VLs ([P,us,[],P.take 1,P.take 2]++ [q])) p13 (VRg_sl (by simp) s13)).cut⟩
   |false=>
    repeat first|apply Wq|apply Wb|apply Wk|apply Wx
    refine cF st8 ?_;repeat first|apply Wq|apply Wb|apply Wk|apply Wx
    replace st8:St w.heap.size w 115 [] [(12,VQ5 false q),(13,VOs 23 1 ES [P,us,[],P.take 1,P.take 2]),(49,Vb (false))] a8 w8:=st8;obtain⟨u13,p13,s13⟩:=st8.sl (13,VOs 23 1 ES [P,us,[],P.take 1,P.take 2]) (lS_mem rfl);exact⟨rfl,[P,us,[],P.take 1,P.take 2],by simp,hL5,(st8.reT 13 (VLs [P,us,[],P.take 1,P.take 2]) p13 (VLs_mono s13 (by simp))).cut⟩
  rintro _ a9x w9x ⟨rfl,L,hL6,hL13,st9⟩
  clear st8;obtain⟨u13,p13,s13⟩:=st9.sl (13,VLs L) (lS_mem rfl);repeat first|apply Wq|apply Wb|apply Wk|apply Wx
  obtain⟨hbN,stB⟩:=st9.base [(13,VAt w9x (VLs L))] (Lq.2 ⟨⟨_,p13,s13⟩,(fun _ h=>absurd h (by simp))⟩);clear st9;have hbX:=below_tr hbO hbN;clear hbN;clear hbO;have hbO:=hbX;clear hbX;obtain⟨wP,hren⟩:∃z,z=w:=⟨_,rfl⟩;subst hren;obtain⟨w,hren⟩:∃z,z=w9x:=⟨_,rfl⟩;subst hren;have st9:St w.heap.size w 115 [] [(13,VAt w (VLs L))] a9x w:=stB;clear stB;clear p13 s13;repeat first|apply Wq|apply Wb|apply Wk|apply Wx
  refine rH [(35,8,0)] [Vi (0)] [] [(13,VAt w (VLs L)),(14,Vi (0))] st9 ⟨ks,trivial⟩ ?_;intro a10 w10 st10;clear st9;replace st10:St w.heap.size w 115 [] [(13,VAt w (VLs L)),(14,Vi (((0:Nat):Int)))] a10 w10:=st10.cut;repeat first|apply Wq|apply Wb|apply Wk|apply Wx
  refine wp_loop_ghost (fun m aX wX=>∃t:Nat,t+m=L.length/\St w.heap.size w 115 [] [(13,VAt w (VLs L)),(14,Vi (((t:Nat):Int)))] aX wX) L.length ⟨0,by omega,st10⟩ ?_;clear st10;intro m2 aM wM ⟨t,ht,st10⟩;by_cases hlt2:t<L.length
  ·
   repeat first|apply Wq|apply Wb|apply Wk|apply Wx
   refine rH [(35,8,0)] [Vi (((t:Nat):Int)),VAt w (VLs L),Vi ((L.length:Int)),Vb (true)] [] [(13,VAt w (VLs L)),(14,Vi (((t:Nat):Int))),(57,Vb (true))] st10 ⟨ks,ks,(kr1 55 fun _ _ _ _ _ x0 X0=>len_Ls rfl rfl x0 X0),(kr2 54 56 fun _ _ _ _ _ x0 X0 _ x1 X1=>⟨_,run_lssi rfl (x0.trans X0) (x1.trans X1),congrArg Value.bool (dT (by omega))⟩),trivial⟩ ?_;intro a11 w11 st11;clear st10;repeat first|apply Wq|apply Wb|apply Wk|apply Wx
   refine cT st11 ?_;obtain⟨vs,hvs⟩:∃vs,L[t]? =some vs:=⟨_,List.getElem?_eq_getElem hlt2⟩;have hl13:=hL13 vs (List.mem_of_getElem? hvs);repeat first|apply Wq|apply Wb|apply Wk|apply Wx
   refine rH [(35,8,0)] [VAt w (VLs L),Vi (((t:Nat):Int)),VAt w (VEp 23 1 (ES vs)),VAt w (VSv 3 (vs)),VTup (Vv 3 ((bxL vs).1) ((bxL vs).2)) (Vv 3 ((bxH vs).1) ((bxH vs).2)),VTup (Vv 3 ((bxL vs).1) ((bxL vs).2)) (Vv 3 ((bxH vs).1) ((bxH vs).2)),Vv 3 ((bxL vs).1) ((bxL vs).2),Vv 3 ((bxH vs).1) ((bxH vs).2),VT,VT,VT,VT] [⟨15,some 8,some 10,35,8,Vv 3 ((bxL vs).1) ((bxL vs).2),VT⟩,⟨16,some 9,some 11,35,8,Vv 3 ((bxH vs).1) ((bxH vs).2),VT⟩] [(13,VAt w (VLs L)),(14,Vi (((t:Nat):Int))),(57,Vb (true))] st11 ⟨ks,ks,(kr2 61 62 fun _ _ _ _ _ x0 X0 _ x1 X1=>index_Ls rfl x0 X0 x1 X1 hvs),(kr1 63 fun _ _ _ h _ x0 X0=>load_Ls rfl x0 X0 h.k.below),(kd1 fun _ _ Y h v0 X0=>gBox (VSv_later (show VSv 3 (vs) _ w from(show VAt w (VSv 3 (vs)) v0 Y from X0)) h.k.below)),ks,ks,ks,ks,ks,ks,ks,trivial⟩ ?_;intro a12 w12 st12;clear st11;repeat first|apply Wq|apply Wb|apply Wk|apply Wx
   refine rH [(35,8,0)] [VAt w (VLs L),Vi (((t:Nat):Int)),VAt w (VEp 23 1 (ES vs)),VAt w (VSv 3 (vs)),VTup (Vv 3 ((bxL vs).1) ((bxL vs).2)) (Vv 3 ((bxH vs).1) ((bxH vs).2)),VTup (Vv 3 ((bxL vs).1) ((bxL vs).2)) (Vv 3 ((bxH vs).1) ((bxH vs).2)),Vv 3 ((bxL vs).1) ((bxL vs).2),Vv 3 ((bxH vs).1) ((bxH vs).2),VT,VT,VT,VT] [⟨15,none,none,35,8,Vv 3 ((bxL vs).1) ((bxL vs).2),VT⟩,⟨16,none,none,35,8,Vv 3 ((bxH vs).1) ((bxH vs).2),VT⟩,⟨17,some 8,some 10,35,8,Vv 3 ((bxL vs).1) ((bxL vs).2),VT⟩,⟨18,some 9,some 11,35,8,Vv 3 ((bxH vs).1) ((bxH vs).2),VT⟩] [(13,VAt w (VLs L)),(14,Vi (((t:Nat):Int))),(57,Vb (true))] st12 ⟨ks,ks,(kr2 69 70 fun _ _ _ _ _ x0 X0 _ x1 X1=>index_Ls rfl x0 X0 x1 X1 hvs),(kr1 71 fun _ _ _ h _ x0 X0=>load_Ls rfl x0 X0 h.k.below),(kd1 fun _ _ Y h v0 X0=>gBoxR (VSv_later (show VSv 3 (vs) _ w from(show VAt w (VSv 3 (vs)) v0 Y from X0)) h.k.below)),ks,ks,ks,ks,ks,ks,ks,trivial⟩ ?_;intro a13 w13 st13;clear st12;repeat first|apply Wq|apply Wb|apply Wk|apply Wx
   refine rH [(35,8,0)] [VAt w (VLs L),Vi (((t:Nat):Int)),VAt w (VEp 23 1 (ES vs)),VAt w (VSv 3 (vs)),Vq 900 (areaQ vs),VAt w (VLs L),Vi (((t:Nat):Int)),VAt w (VEp 23 1 (ES vs)),VAt w (VSv 3 (vs)),Vq 900 (areaQ vs),Vb (true),Vb (false),Vb (false),VAt w (VLs L),Vi (((t:Nat):Int)),VAt w (VEp 23 1 (ES vs)),VAt w (VSv 3 (vs)),Vv 3000 ((ctr vs).1) ((ctr vs).2),VAt w (VLs L),Vi (((t:Nat):Int)),VAt w (VEp 23 1 (ES vs)),VAt w (VSv 3 (vs)),Vv 3000 ((ctr vs).1) ((ctr vs).2),Vb (true),Vb (false),Vb (false),Vb (false),Vv 3 ((bxL vs).1) ((bxL vs).2),Vv 3 ((bxL vs).1) ((bxL vs).2),Vb (true),Vb (false),Vb (false),Vb (false),Vv 3 ((bxH vs).1) ((bxH vs).2),Vv 3 ((bxH vs).1) ((bxH vs).2),Vb (true),Vb (false),Vb (false)] [⟨15,none,none,35,8,Vv 3 ((bxL vs).1) ((bxL vs).2),VT⟩,⟨16,none,none,35,8,Vv 3 ((bxH vs).1) ((bxH vs).2),VT⟩,⟨17,none,none,35,8,Vv 3 ((bxL vs).1) ((bxL vs).2),VT⟩,⟨18,none,none,35,8,Vv 3 ((bxH vs).1) ((bxH vs).2),VT⟩] [(13,VAt w (VLs L)),(14,Vi (((t:Nat):Int))),(57,Vb (true)),(113,Vb (false))] st13 ⟨ks,ks,(kr2 76 77 fun _ _ _ _ _ x0 X0 _ x1 X1=>index_Ls rfl x0 X0 x1 X1 hvs),(kr1 78 fun _ _ _ h _ x0 X0=>load_Ls rfl x0 X0 h.k.below),(kd1 fun _ _ Y h v0 X0=>gArea (VSv_later (show VSv 3 (vs) _ w from(show VAt w (VSv 3 (vs)) v0 Y from X0)) h.k.below)),ks,ks,(kr2 81 82 fun _ _ _ _ _ x0 X0 _ x1 X1=>index_Ls rfl x0 X0 x1 X1 hvs),(kr1 83 fun _ _ _ h _ x0 X0=>load_Ls rfl x0 X0 h.k.below),(kd1 fun _ _ Y h v0 X0=>gAreaR (VSv_later (show VSv 3 (vs) _ w from(show VAt w (VSv 3 (vs)) v0 Y from X0)) h.k.below)),(kd2 fun _ _ _ _ _ X0 _ X1=>same4T X0 X1 (by omega) (by omega) rfl),ks,ks,ks,ks,(kr2 89 90 fun _ _ _ _ _ x0 X0 _ x1 X1=>index_Ls rfl x0 X0 x1 X1 hvs),(kr1 91 fun _ _ _ h _ x0 X0=>load_Ls rfl x0 X0 h.k.below),(kd1 fun _ _ Y h v0 X0=>gCtr (VSv_later (show VSv 3 (vs) _ w from(show VAt w (VSv 3 (vs)) v0 Y from X0)) h.k.below)),ks,ks,(kr2 94 95 fun _ _ _ _ _ x0 X0 _ x1 X1=>index_Ls rfl x0 X0 x1 X1 hvs),(kr1 96 fun _ _ _ h _ x0 X0=>load_Ls rfl x0 X0 h.k.below),(kd1 fun _ _ Y h v0 X0=>gCtrR (VSv_later (show VSv 3 (vs) _ w from(show VAt w (VSv 3 (vs)) v0 Y from X0)) h.k.below)),(kd2 fun _ _ _ _ _ X0 _ X1=>same5T X0 X1 (by omega) (by omega) ⟨rfl,rfl⟩),ks,ks,ks,ks,ks,(kd2 fun _ _ _ _ _ X0 _ X1=>same5T X0 X1 (by omega) (by omega) ⟨rfl,rfl⟩),ks,ks,ks,ks,ks,(kd2 fun _ _ _ _ _ X0 _ X1=>same5T X0 X1 (by omega) (by omega) ⟨rfl,rfl⟩),ks,ks,trivial⟩ ?_;intro a14 w14 st14;clear st13;repeat first|apply Wq|apply Wb|apply Wk|apply Wx
   refine cF st14 ?_;repeat first|apply Wq|apply Wb|apply Wk|apply Wx
   refine rH [(35,8,0)] [Vi (((t:Nat):Int)),Vi (((t+1:Nat):Int)),Vi (((t+1:Nat):Int))] [⟨15,none,none,35,8,Vv 3 ((bxL vs).1) ((bxL vs).2),VT⟩,⟨16,none,none,35,8,Vv 3 ((bxH vs).1) ((bxH vs).2),VT⟩,⟨17,none,none,35,8,Vv 3 ((bxL vs).1) ((bxL vs).2),VT⟩,⟨18,none,none,35,8,Vv 3 ((bxH vs).1) ((bxH vs).2),VT⟩] [(13,VAt w (VLs L)),(57,Vb (true)),(113,Vb (false)),(14,Vi (((t+1:Nat):Int)))] st14 ⟨?s0,(kr1 58 fun _ _ _ _ v0 x0 X0=>⟨_,run_addi rfl (x0.trans (show v0= .int .i64 ((t:Nat):Int)from X0)) rfl (wrap_id (by omega) (by omega)),congrArg (Value.int .i64) (by omega)⟩),ks,trivial⟩ ?_
   case s0=>
    refine k_run0 SbB.out (by kernel_rfl) fun listed A Y h D hnl=>⟨trivial,?_⟩
    obtain⟨v0,x0,X0⟩:=h.out0 hnl (14,Vi (((t:Nat):Int))) (.tail _ (.head _)) 2 (by kernel_rfl) (.inr (by kernel_rfl));exact⟨_,run_move rfl,by rw [x0];exact X0⟩
   intro a15 w15 st15;clear st14;replace st15:St w.heap.size w 115 [⟨15,none,none,35,8,Vv 3 ((bxL vs).1) ((bxL vs).2),VT⟩,⟨16,none,none,35,8,Vv 3 ((bxH vs).1) ((bxH vs).2),VT⟩,⟨17,none,none,35,8,Vv 3 ((bxL vs).1) ((bxL vs).2),VT⟩,⟨18,none,none,35,8,Vv 3 ((bxH vs).1) ((bxH vs).2),VT⟩] [(13,VAt w (VLs L)),(57,Vb (true)),(113,Vb (false)),(14,Vi (((t+1:Nat):Int)))] a15 w15:=st15;exact⟨m2 - 1,by omega,t+1,by omega,st15.cut⟩
  ·
   repeat first|apply Wq|apply Wb|apply Wk|apply Wx
   refine rH [(35,8,0)] [Vi (((t:Nat):Int)),VAt w (VLs L),Vi ((L.length:Int)),Vb (false)] [] [(13,VAt w (VLs L)),(14,Vi (((t:Nat):Int))),(57,Vb (false))] st10 ⟨ks,ks,(kr1 55 fun _ _ _ _ _ x0 X0=>len_Ls rfl rfl x0 X0),(kr2 54 56 fun _ _ _ _ _ x0 X0 _ x1 X1=>⟨_,run_lssi rfl (x0.trans X0) (x1.trans X1),congrArg Value.bool (dF (by omega))⟩),trivial⟩ ?_;intro a11 w11 st11;clear st10;repeat first|apply Wq|apply Wb|apply Wk|apply Wx
   refine cF st11 ?_;repeat first|apply Wq|apply Wb|apply Wk|apply Wx
   refine rH [(35,8,0)] [Vb (true),Vb (true)] [] [(13,VAt w (VLs L)),(14,Vi (((t:Nat):Int))),(57,Vb (false)),(8,Vb (true))] st11 ⟨(by refine kc fun _ A Y h D=>?_;exact⟨#[],by simp [],cL6Lives⟩),ks,trivial⟩ ?_;intro a12 w12 st12;clear st11;repeat first|apply Wq|apply Wb|apply Wk|apply Wx
   obtain⟨vr,r1,r4⟩:=st12.slot (8,Vb (true)) (.tail _ (.tail _ (.tail _ (.head _))));exact wp_ret (bodyPost_ret (results_tmp rfl _ _ _) st12.defers ⟨_,congrArg Ending.returned (show _=vr from r1),r4,below_tr hbO st12.k.below⟩)
theorem wf_i64' {n:Int}(h:(Lit.int .i64 n).wf=true): -9223372036854775808<=n/\n<=9223372036854775807:=by
 simp [Lit.wf,IntKind.min,IntKind.max,IntKind.signed,IntKind.bits] at h;omega
theorem add_plain' (b o i:Nat):(⟨b,o,none⟩:Addr).add i=⟨b,o+i,none⟩:=by unfold Addr.add;split<;>simp_all
theorem addr_plain' {w:World}{x:Addr}{u:Value}(h:w.cell? (x.add 0)=some u):x=⟨x.block,x.off,none⟩:=by
 have h0:x.add 0=x:=by simp [Addr.add]
 rw [h0] at h;cases x with
 |mk b o s=>
  cases s with
  |none=>rfl
  |some s=>
   unfold World.cell? at h;split at h
   ·simp at h
   ·cases h
theorem row_Rdi {w:World}{a:Option Addr}{len cap:Nat}{zs:List Int}
 (h:(a=none/\len=0/\cap=0/\zs= [])∨∃x,a=some x/\len<=cap/\cap<=maxLen/\zs.length=cap/\(∀i,i<zs.length->w.cell? (x.add i)=some (.int .i64 (zs.getD i 0)))/\∀n∈zs,(Lit.int .i64 n).wf=true):
 ∃l:List Int,Rdi w a l/\i64s l/\len=l.length/\len<=cap/\cap<=9223372036854775807:=by
 rcases h with⟨rfl,rfl,rfl,rfl⟩|⟨x,rfl,hl,hm,hz,hc,hw⟩
 ·exact⟨[],.inl rfl,fun i hi=>by simp at hi,rfl,Nat.le_refl _,by omega⟩
 ·refine⟨zs.take len,?_,?_,by simp;omega,hl,by unfold maxLen at hm;omega⟩
  ·rcases Nat.eq_zero_or_pos len with h0|h0
   ·subst h0;exact .inl (by simp)
   ·have hx:=addr_plain' (hc 0 (by omega));refine .inr ⟨x.block,x.off,by rw [<-hx],fun i hi=>?_⟩;have hi':i<len:=by simp at hi;omega
    have hi2:i<zs.length:=by omega
    have hadd:x.add i=⟨x.block,x.off+i,none⟩:=(congrArg (fun y:Addr=>y.add i) hx).trans (add_plain' _ _ _);rw [<-hadd,hc i hi2];simp [iat,List.getD_eq_getElem?_getD,hi']
  ·intro i hi;have hi':i<len:=by simp at hi;omega
   have hi2:i<zs.length:=by omega
   have hb:=wf_i64' (hw (zs[i]) (List.getElem_mem hi2));have e:iat (zs.take len) i=zs[i]:=by simp [iat,List.getD_eq_getElem?_getD,hi',hi2]
   rw [e];omega
end Go.Proofs.YtjdkdjobaabdiaaGreat
