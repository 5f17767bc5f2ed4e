/- Contracts of the packages integer, rat, plane, polygon and their references. -/
import Derived.Test.YtjdkdjobaabdiaaGreatP44
import Derived.Test.YtjdkdjobaabdiaaGreatP8
set_option linter.unusedVariables false
set_option maxRecDepth 100000
set_option maxHeartbeats 6400000
namespace Go.Proofs.YtjdkdjobaabdiaaGreat
open Go.RowKit
open Go
theorem cmpI_zeroQ (q:Rat):cmpI q.num 0=0↔q=0:=by
 rcases sign_cases q with⟨h,e⟩|⟨h,e⟩|⟨h,e⟩<;>rw [e]<;>constructor<;>intro k
 ·cases k
 ·rw [k] at h;exact absurd h (by decide)
 ·exact h
 ·rfl
 ·cases k
 ·rw [k] at h;exact absurd h (by decide)
theorem walkParts {w:World}{l:List Int}{i0 k0 how z:Int}{v0 v1 v2 v3 v4:Value}(h0:VI l v0 w)(h1:Vi (i0) v1 w)(h2:Vi (k0) v2 w)(h3:Vi (how) v3 w)(h4:Vi (z) v4 w)(hi0: -9223372036854775808<=i0)(hi1:i0<=9223372036854775807)(hk0: -9223372036854775808<=k0)(hk1:k0<=9223372036854775807)(hw0: -9223372036854775808<=how)(hw1:how<=9223372036854775807)(hz0: -9223372036854775808<=z)(hz1:z<=9223372036854775807):Calls Tryz.prog 8 #[v0,v1,v2,v3,v4] w (RV (Vb true) w):=by
 go_enter Tryz.func8,Tryz.ntmps8
 generalize hA:(⟨_,_⟩:Act)=a0
 have st0:St w.heap.size w 112 [] [(0,VI l),(1,Vi (i0)),(2,Vi (k0)),(3,Vi (how)),(4,Vi (z))] a0 w:=by subst hA;exact St.begin rfl rfl (Lq.2 ⟨⟨_,rfl,h0⟩,(Lq.2 ⟨⟨_,rfl,h1⟩,(Lq.2 ⟨⟨_,rfl,h2⟩,(Lq.2 ⟨⟨_,rfl,h3⟩,(Lq.2 ⟨⟨_,rfl,h4⟩,(fun _ h=>absurd h (by simp))⟩)⟩)⟩)⟩)⟩)
 clear hA
 repeat first|apply Wq|apply Wb|apply Wk|apply Wx
 refine rH [(33,4,0),(35,8,0)] [Vb (false)] [] [(0,VI l),(1,Vi (i0)),(2,Vi (k0)),(3,Vi (how)),(4,Vi (z)),(10,Vb (false))] st0 ⟨ks,trivial⟩ ?_
 intro a1 w1 st1
 clear st0
 repeat first|apply Wq|apply Wb|apply Wk|apply Wx
 refine rH [] [VI l,VSv 7 (polyR l),VSv 7 (polyR l)] [] [(1,Vi (i0)),(2,Vi (k0)),(3,Vi (how)),(4,Vi (z)),(10,Vb (false)),(11,VSv 7 (polyR l))] st1 ⟨ks,(kd1 fun _ _ _ _ _ X0=>cR6Polygon X0),ks,trivial⟩ ?_
 intro a2 w2 st2
 clear st1
 replace st2:St w.heap.size w 112 [] [(1,Vi (i0)),(2,Vi (k0)),(3,Vi (how)),(4,Vi (z)),(10,Vb (false)),(11,VSv 7 (polyR l))] a2 w2:=st2
 obtain⟨u1,p1,s1⟩:=st2.sl (1,Vi (i0)) (lS_mem rfl)
 obtain⟨u2,p2,s2⟩:=st2.sl (2,Vi (k0)) (lS_mem rfl)
 obtain⟨u3,p3,s3⟩:=st2.sl (3,Vi (how)) (lS_mem rfl)
 obtain⟨u4,p4,s4⟩:=st2.sl (4,Vi (z)) (lS_mem rfl)
 obtain⟨u11,p11,s11⟩:=st2.sl (11,VSv 7 (polyR l)) (lS_mem rfl)
 repeat first|apply Wq|apply Wb|apply Wk|apply Wx
 obtain⟨hbN,stB⟩:=st2.base [(1,Vi (i0)),(2,Vi (k0)),(3,Vi (how)),(4,Vi (z)),(11,VAt w2 (VSv 3 (polyR l)))] (Lq.2 ⟨⟨_,p1,s1⟩,(Lq.2 ⟨⟨_,p2,s2⟩,(Lq.2 ⟨⟨_,p3,s3⟩,(Lq.2 ⟨⟨_,p4,s4⟩,(Lq.2 ⟨⟨_,p11,VSv_three s11 (polyR_Q l) (by omega) (by omega) (by omega)⟩,(fun _ h=>absurd h (by simp))⟩)⟩)⟩)⟩)⟩)
 clear st2
 obtain⟨wO,hren⟩:∃z,z=w:=⟨_,rfl⟩
 subst hren
 have hbO:=hbN
 clear hbN
 obtain⟨w,hren⟩:∃z,z=w2:=⟨_,rfl⟩
 subst hren
 have st2:St w.heap.size w 112 [] [(1,Vi (i0)),(2,Vi (k0)),(3,Vi (how)),(4,Vi (z)),(11,VAt w (VSv 3 (polyR l)))] a2 w:=stB
 clear stB
 clear p1 s1 p2 s2 p3 s3 p4 s4 p11 s11
 obtain⟨hP3,hP12⟩:=polyR_len l
 have hPQ:=polyR_Q l
 generalize polyR l=P at st2 hP3 hP12 hPQ
 repeat first|apply Wq|apply Wb|apply Wk|apply Wx
 refine wp_mono' (Q:=fun e aX wX=>e= .normal/\∃(bq:Bool) (q:List P2),q.length<=13/\St w.heap.size w 112 [] [(1,Vi (i0)),(2,Vi (k0)),(11,VAt w (VSv 3 (P))),(12,VQ5 bq q)] aX wX) ?r7 ?_
 case r7=>
  by_cases h5:arn how 7=5
  ·
   repeat first|apply Wq|apply Wb|apply Wk|apply Wx
   have:Sb [] (VSb 14 (badL P (spK P z))):=⟨(fun _ _ _ ⟨hh,o,c,cs,e1,e2,e3,e4,e5,e6⟩ hr=>⟨hh,o,c,cs,e1,e2,e3,(hr.row _ _ _ e4 (.inl (by simp))).trans e4,e5,fun i x hx=>Stab_EVb _ _ _ _ _ (e6 i x hx) hr⟩)⟩
   refine rH [] [VAt w (VSv 3 (P)),Vi (how),Vi (z),VSb 14 (badL P (spK P z)),VSb 14 (badL P (spK P z))] [] [(1,Vi (i0)),(2,Vi (k0)),(3,Vi (how)),(4,Vi (z)),(11,VAt w (VSv 3 (P))),(12,VSb 14 (badL P (spK P z)))] st2 ⟨ks,ks,ks,(by refine kc fun _ A Wd h D=>?_;obtain⟨v0,x0,X0⟩:=h.dp D 23;obtain⟨v1,x1,X1⟩:=h.dp D 24;obtain⟨v2,x2,X2⟩:=h.dp D 25;exact⟨#[v0,v1,v2],by simp [x0,x1,x2],cR6Spoilt5 (N:=3) (show VAt Wd (VSv 3 P) v0 Wd from VSv_later X0 h.k.below) X1 X2 (by omega) (by omega) (by omega) (by omega) hw0 hw1 hz0 hz1 h5⟩),ks,trivial⟩ ?_
   intro a3 w3 st3
   clear st2
   replace st3:St w.heap.size w 112 [] [(1,Vi (i0)),(2,Vi (k0)),(3,Vi (how)),(4,Vi (z)),(11,VAt w (VSv 3 (P))),(12,VSb 14 (badL P (spK P z)))] a3 w3:=st3
   obtain⟨u12,p12,s12⟩:=st3.sl (12,VSb 14 (badL P (spK P z))) (lS_mem rfl)
   have hk:spK P z<P.length:=by have h1:=arn_lo z (P.length:Int) (by omega);have h2:=arn_hi z (P.length:Int) (by omega);unfold spK;omega
   exact⟨rfl,false,P,by omega,(st3.reT 12 (VQ5 false P) p12 (.inr ⟨rfl,_,by unfold badL;rw [List.length_set,List.length_map],s12,spK P z,(cv P (spK P z),true),by unfold badL;rw [List.getElem?_set_self (by rw [List.length_map];exact hk)],rfl⟩)).cut⟩
  ·
   repeat first|apply Wq|apply Wb|apply Wk|apply Wx
   refine rH [] [VAt w (VSv 3 (P)),Vi (how),Vi (z),VSv 14 (spoil P how z),VSv 14 (spoil P how z)] [] [(1,Vi (i0)),(2,Vi (k0)),(3,Vi (how)),(4,Vi (z)),(11,VAt w (VSv 3 (P))),(12,VSv 14 (spoil P how z))] st2 ⟨ks,ks,ks,(by refine kc fun _ A Wd h D=>?_;obtain⟨v0,x0,X0⟩:=h.dp D 23;obtain⟨v1,x1,X1⟩:=h.dp D 24;obtain⟨v2,x2,X2⟩:=h.dp D 25;exact⟨#[v0,v1,v2],by simp [x0,x1,x2],cR6Spoilt (N:=3) (show VAt Wd (VSv 3 P) v0 Wd from VSv_later X0 h.k.below) X1 X2 (by omega) (by omega) (by omega) (by omega) hw0 hw1 hz0 hz1 h5⟩),ks,trivial⟩ ?_
   intro a3 w3 st3
   clear st2
   replace st3:St w.heap.size w 112 [] [(1,Vi (i0)),(2,Vi (k0)),(3,Vi (how)),(4,Vi (z)),(11,VAt w (VSv 3 (P))),(12,VSv 14 (spoil P how z))] a3 w3:=st3
   obtain⟨u12,p12,s12⟩:=st3.sl (12,VSv 14 (spoil P how z)) (lS_mem rfl)
   exact⟨rfl,true,spoil P how z,by have:=(spoil_len (vs:=P) (how:=how) (z:=z) (by omega)).2;omega,(st3.reT 12 (VQ5 true (spoil P how z)) p12 (.inl ⟨rfl,VSv_three s12 (spoil_Q (B:=32) (by omega) hPQ (by omega) how z) (by omega) (by omega) (by omega)⟩)).cut⟩
 rintro _ a3x w3x ⟨rfl,bq,q,hq13,st3⟩
 clear st2
 repeat first|refine Wq ?_|refine Wk ?_
 refine wp_mono' (Q:=fun e aX wX=>e= .normal/\∃x33:Bool,(x33=true->3<=q.length/\bq=true)/\St w.heap.size w 112 [] [(1,Vi (i0)),(2,Vi (k0)),(11,VAt w (VSv 3 (P))),(12,VQ5 bq q),(33,Vb (x33))] aX wX) ?r3 ?_
 case r3=>
  by_cases hq3:3<=q.length
  ·
   cases bq with
   |true=>
    repeat first|apply Wq|apply Wb|apply Wk|apply Wx
    refine rH [] [VQ5 true q,Vi ((q.length:Int)),Vb (true),Vb (true),VQ5 true q,Vb (true),Vb (true)] [] [(1,Vi (i0)),(2,Vi (k0)),(11,VAt w (VSv 3 (P))),(12,VQ5 true q),(33,Vb (true))] st3 ⟨ks,(kr1 27 fun _ _ _ _ _ x0 X0=>len_VQ5 rfl rfl x0 X0),(by refine kr fun _ A Wd h D=>?_;obtain⟨v0,x0,X0⟩:=h.dp D 28;have hV0':v0= .int .i64 ((q.length:Int)):=X0;exact⟨_,run_geqi rfl (x0.trans hV0') rfl,congrArg Value.bool (dT (by omega))⟩),ks,ks,(kd1 fun _ _ Wd _ v0 X0=>cNumbersQ (show VQ5 true q v0 Wd from X0)),ks,trivial⟩ ?_
    intro a4 w4 st4
    clear st3
    exact⟨rfl,true,(fun _=>⟨hq3,rfl⟩),st4.cut⟩
   |false=>
    repeat first|apply Wq|apply Wb|apply Wk|apply Wx
    refine rH [] [VQ5 false q,Vi ((q.length:Int)),Vb (true),Vb (true),VQ5 false q,Vb (false),Vb (false)] [] [(1,Vi (i0)),(2,Vi (k0)),(11,VAt w (VSv 3 (P))),(12,VQ5 false q),(33,Vb (false))] st3 ⟨ks,(kr1 27 fun _ _ _ _ _ x0 X0=>len_VQ5 rfl rfl x0 X0),(by refine kr fun _ A Wd h D=>?_;obtain⟨v0,x0,X0⟩:=h.dp D 28;have hV0':v0= .int .i64 ((q.length:Int)):=X0;exact⟨_,run_geqi rfl (x0.trans hV0') rfl,congrArg Value.bool (dT (by omega))⟩),ks,ks,(kd1 fun _ _ Wd _ v0 X0=>cNumbersQ (show VQ5 false q v0 Wd from X0)),ks,trivial⟩ ?_
    intro a4 w4 st4
    clear st3
    exact⟨rfl,false,(fun h=>by cases h),st4.cut⟩
  ·
   repeat first|apply Wq|apply Wb|apply Wk|apply Wx
   refine rH [] [VQ5 bq q,Vi ((q.length:Int)),Vb (false),Vb (false),VT,VT,Vb (false)] [] [(1,Vi (i0)),(2,Vi (k0)),(11,VAt w (VSv 3 (P))),(12,VQ5 bq q),(33,Vb (false))] st3 ⟨ks,(kr1 27 fun _ _ _ _ _ x0 X0=>len_VQ5 rfl rfl x0 X0),(by refine kr fun _ A Wd h D=>?_;obtain⟨v0,x0,X0⟩:=h.dp D 28;have hV0':v0= .int .i64 ((q.length:Int)):=X0;exact⟨_,run_geqi rfl (x0.trans hV0') rfl,congrArg Value.bool (dF (by omega))⟩),ks,ks,ks,ks,trivial⟩ ?_
   intro a4 w4 st4
   clear st3
   exact⟨rfl,false,(fun h=>by cases h),st4.cut⟩
 rintro _ a4x w4x ⟨rfl,x33,hx33,st4⟩
 clear st3
 repeat first|refine Wq ?_|refine Wk ?_
 refine wp_mono' (Q:=fun e aX wX=>e= .normal/\∃R:List P2,3<=R.length/\R.length<=13/\St w.heap.size w 112 [] [(1,Vi (i0)),(2,Vi (k0)),(11,VSv 3 R)] aX wX) ?r4 ?_
 case r4=>
  cases x33 with
  |true=>
   obtain⟨hq3,rfl⟩:=hx33 rfl
   repeat first|apply Wq|apply Wb|apply Wk|apply Wx
   refine cT st4 ?_
   repeat first|apply Wq|apply Wb|apply Wk|apply Wx
   refine rH [] [VQ5 true q,VQ5 true q] [] [(1,Vi (i0)),(2,Vi (k0)),(12,VQ5 true q),(33,Vb (true)),(11,VQ5 true q)] st4 ⟨ks,ks,trivial⟩ ?_
   intro a5 w5 st5
   clear st4
   replace st5:St w.heap.size w 112 [] [(1,Vi (i0)),(2,Vi (k0)),(12,VQ5 true q),(33,Vb (true)),(11,VQ5 true q)] a5 w5:=st5
   obtain⟨u11,p11,s11⟩:=st5.sl (11,VQ5 true q) (lS_mem rfl)
   exact⟨rfl,q,hq3,by omega,(st5.reT 11 (VSv 3 q) p11 (VQ5_good s11)).cut⟩
  |false=>
   repeat first|apply Wq|apply Wb|apply Wk|apply Wx
   refine cF st4 ?_
   repeat first|apply Wq|apply Wb|apply Wk|apply Wx
   replace st4:St w.heap.size w 112 [] [(1,Vi (i0)),(2,Vi (k0)),(11,VAt w (VSv 3 (P))),(12,VQ5 bq q),(33,Vb (false))] a4x w4x:=st4
   obtain⟨u11,p11,s11⟩:=st4.sl (11,VAt w (VSv 3 (P))) (lS_mem rfl)
   exact⟨rfl,P,by omega,by omega,(st4.reT 11 (VSv 3 P) p11 (VSv_later s11 st4.k.below)).cut⟩
 rintro _ a5x w5x ⟨rfl,R,hR3,hR13,st5⟩
 clear st4
 obtain⟨u1,p1,s1⟩:=st5.sl (1,Vi (i0)) (lS_mem rfl)
 obtain⟨u2,p2,s2⟩:=st5.sl (2,Vi (k0)) (lS_mem rfl)
 obtain⟨u11,p11,s11⟩:=st5.sl (11,VSv 3 R) (lS_mem rfl)
 repeat first|apply Wq|apply Wb|apply Wk|apply Wx
 obtain⟨hbN,stB⟩:=st5.base [(1,Vi (i0)),(2,Vi (k0)),(11,VAt w5x (VSv 3 (R)))] (Lq.2 ⟨⟨_,p1,s1⟩,(Lq.2 ⟨⟨_,p2,s2⟩,(Lq.2 ⟨⟨_,p11,s11⟩,(fun _ h=>absurd h (by simp))⟩)⟩)⟩)
 clear st5
 have hbX:=below_tr hbO hbN
 clear hbN
 clear hbO
 have hbO:=hbX
 clear hbX
 obtain⟨wP,hren⟩:∃z,z=w:=⟨_,rfl⟩
 subst hren
 obtain⟨w,hren⟩:∃z,z=w5x:=⟨_,rfl⟩
 subst hren
 have st5:St w.heap.size w 112 [] [(1,Vi (i0)),(2,Vi (k0)),(11,VAt w (VSv 3 (R)))] a5x w:=stB
 clear stB
 clear p1 s1 p2 s2 p11 s11
 repeat first|apply Wq|apply Wb|apply Wk|apply Wx
 refine rH [] [Vi (i0),VAt w (VSv 3 (R)),Vi ((R.length:Int)),Vi (arn i0 (R.length:Int)),Vi (arn i0 (R.length:Int))] [] [(1,Vi (i0)),(2,Vi (k0)),(11,VAt w (VSv 3 (R))),(13,Vi (arn i0 (R.length:Int)))] st5 ⟨ks,ks,(kr1 36 fun _ _ _ _ _ x0 X0=>len_SvA rfl rfl x0 X0),(by refine kc fun _ A Wd h D=>?_;obtain⟨v0,x0,X0⟩:=h.dp D 35;obtain⟨v1,x1,X1⟩:=h.dp D 37;obtain rfl:v1=Value.int .i64 (R.length:Int):=X1;exact⟨#[v0,.int .i64 (R.length:Int)],by simp [x0,x1],cAround X0 (by omega) (by omega) (by omega) (by omega)⟩),ks,trivial⟩ ?_
 intro a6 w6 st6
 clear st5
 repeat first|apply Wq|apply Wb|apply Wk|apply Wx
 refine rH [] [Vi (k0),VAt w (VSv 3 (R)),Vi ((R.length:Int)),Vi (arn k0 (R.length:Int)),Vi (arn k0 (R.length:Int))] [] [(1,Vi (i0)),(2,Vi (k0)),(11,VAt w (VSv 3 (R))),(13,Vi (arn i0 (R.length:Int))),(14,Vi (arn k0 (R.length:Int)))] st6 ⟨ks,ks,(kr1 40 fun _ _ _ _ _ x0 X0=>len_SvA rfl rfl x0 X0),(by refine kc fun _ A Wd h D=>?_;obtain⟨v0,x0,X0⟩:=h.dp D 39;obtain⟨v1,x1,X1⟩:=h.dp D 41;obtain rfl:v1=Value.int .i64 (R.length:Int):=X1;exact⟨#[v0,.int .i64 (R.length:Int)],by simp [x0,x1],cAround X0 (by omega) (by omega) (by omega) (by omega)⟩),ks,trivial⟩ ?_
 intro a7 w7 st7
 clear st6
 have a0:=arn_lo i0 (R.length:Int) (by omega)
 have a1:=arn_hi i0 (R.length:Int) (by omega)
 have b0:=arn_lo k0 (R.length:Int) (by omega)
 have b1:=arn_hi k0 (R.length:Int) (by omega)
 obtain⟨a,ha⟩:∃a:Nat,(a:Int)=arn i0 (R.length:Int):=⟨_,Int.toNat_of_nonneg a0⟩
 obtain⟨c,hc⟩:∃c:Nat,(c:Int)=arn k0 (R.length:Int):=⟨_,Int.toNat_of_nonneg b0⟩
 replace st7:St w.heap.size w 112 [] [(1,Vi (i0)),(2,Vi (k0)),(11,VAt w (VSv 3 (R))),(13,Vi (arn i0 (R.length:Int))),(14,Vi (arn k0 (R.length:Int)))] a7 w7:=st7
 replace st7:St w.heap.size w 112 [] [(1,Vi (i0)),(11,VAt w (VSv 3 (R))),(13,Vi (((a:Nat):Int))),(14,Vi (((c:Nat):Int)))] a7 w7:=by rw [ha,hc];exact st7.cut
 repeat first|refine Wq ?_|refine Wk ?_
 refine wp_mono' (Q:=fun e aX wX=>e= .normal/\St w.heap.size w 112 [] [(1,Vi (i0)),(11,VAt w (VSv 3 (R))),(13,Vi (((a:Nat):Int))),(14,Vi (((c:Nat):Int))),(45,Vb (decide (c<a)))] aX wX) ?r7 ?_
 case r7=>
  repeat first|apply Wq|apply Wb|apply Wk|apply Wx
  refine rH [] [Vi (((a:Nat):Int)),Vi (((c:Nat):Int)),Vb (decide (c<a))] [] [(1,Vi (i0)),(11,VAt w (VSv 3 (R))),(13,Vi (((a:Nat):Int))),(14,Vi (((c:Nat):Int))),(45,Vb (decide (c<a)))] st7 ⟨ks,ks,(by refine kr fun _ A Wd h D=>?_;obtain⟨v0,x0,X0⟩:=h.dp D 43;have hV0':v0= .int .i64 (((a:Nat):Int)):=X0;obtain⟨v1,x1,X1⟩:=h.dp D 44;have hV1':v1= .int .i64 (((c:Nat):Int)):=X1;exact⟨_,run_gtri rfl (x0.trans hV0') (x1.trans hV1'),congrArg Value.bool (decide_eq_decide.2 (by omega))⟩),trivial⟩ ?_
  intro a8 w8 st8
  clear st7
  exact⟨rfl,st8.cut⟩
 rintro _ a8x w8x ⟨rfl,st8⟩
 clear st7
 repeat first|refine Wq ?_|refine Wk ?_
 refine wp_mono' (Q:=fun e aX wX=>e= .normal/\∃d e:Nat,d<=e/\e<R.length/\St w.heap.size w 112 [] [(11,VAt w (VSv 3 (R))),(13,Vi (((d:Nat):Int))),(14,Vi (((e:Nat):Int)))] aX wX) ?r8 ?_
 case r8=>
  by_cases hca:c<a
  ·
   rw [dT hca] at st8
   repeat first|apply Wq|apply Wb|apply Wk|apply Wx
   refine cT st8 ?_
   repeat first|apply Wq|apply Wb|apply Wk|apply Wx
   refine rH [] [Vi (((c:Nat):Int)),Vi (((c:Nat):Int))] [] [(1,Vi (i0)),(11,VAt w (VSv 3 (R))),(14,Vi (((c:Nat):Int))),(45,Vb (true)),(13,Vi (((c:Nat):Int)))] st8 ⟨ks,ks,trivial⟩ ?_
   intro a9 w9 st9
   clear st8
   repeat first|apply Wq|apply Wb|apply Wk|apply Wx
   refine rH [] [Vi (i0),VAt w (VSv 3 (R)),Vi ((R.length:Int)),Vi (arn i0 (R.length:Int)),Vi (arn i0 (R.length:Int))] [] [(1,Vi (i0)),(11,VAt w (VSv 3 (R))),(45,Vb (true)),(13,Vi (((c:Nat):Int))),(14,Vi (arn i0 (R.length:Int)))] st9 ⟨ks,ks,(kr1 48 fun _ _ _ _ _ x0 X0=>len_SvA rfl rfl x0 X0),(by refine kc fun _ A Wd h D=>?_;obtain⟨v0,x0,X0⟩:=h.dp D 47;obtain⟨v1,x1,X1⟩:=h.dp D 49;obtain rfl:v1=Value.int .i64 (R.length:Int):=X1;exact⟨#[v0,.int .i64 (R.length:Int)],by simp [x0,x1],cAround X0 (by omega) (by omega) (by omega) (by omega)⟩),ks,trivial⟩ ?_
   intro a10 w10 st10
   clear st9
   replace st10:St w.heap.size w 112 [] [(1,Vi (i0)),(11,VAt w (VSv 3 (R))),(45,Vb (true)),(13,Vi (((c:Nat):Int))),(14,Vi (arn i0 (R.length:Int)))] a10 w10:=st10
   rw [<-ha] at st10
   exact⟨rfl,c,a,by omega,by omega,st10.cut⟩
  ·
   rw [dF hca] at st8
   repeat first|apply Wq|apply Wb|apply Wk|apply Wx
   refine cF st8 ?_
   repeat first|apply Wq|apply Wb|apply Wk|apply Wx
   exact⟨rfl,a,c,by omega,by omega,st8.cut⟩
 rintro _ a9x w9x ⟨rfl,d,e,hde,heR,st9⟩
 clear st8
 obtain⟨X,hX⟩:∃X,X=(R.take (e+1)).drop d:=⟨_,rfl⟩
 obtain⟨Y,hY⟩:∃Y,Y=R.drop e++R.take (d+1):=⟨_,rfl⟩
 have lX:X.length=e+1 - d:=by rw [hX,List.length_drop,List.length_take];omega
 have lY:Y.length=R.length - e+(d+1):=by rw [hY,List.length_append,List.length_drop,List.length_take];omega
 have hPx:∀en∈([⟨57,some 6,none,VRy 35 8 (EV 3) w.heap.size (X)⟩,⟨15,some 7,none,VRy 35 8 (EV 3) w.heap.size (X)⟩]:List En),Stab [] en.P:=(Lq.2 ⟨(Stab_VRy (fun x=>Stab_Vv _ _ _) (by decide)),(Lq.2 ⟨(Stab_VRy (fun x=>Stab_Vv _ _ _) (by decide)),(fun _ h=>absurd h (by simp))⟩)⟩)
 repeat first|apply Wq|apply Wb|apply Wk|apply Wx
 refine rgX (Vl:=[VE0,VAt w (VSv 3 R),Vi ((d:Nat):Int),Vi ((e:Nat):Int),Vi ((e+1:Nat):Int),VAt w (VSv 3 X),VT,VT]) (SL':=[(11,VAt w (VSv 3 (R))),(13,Vi (((d:Nat):Int))),(14,Vi (((e:Nat):Int)))]) 35 [⟨57,some 6,none,VRy 35 8 (EV 3) w.heap.size (X)⟩,⟨15,some 7,none,VRy 35 8 (EV 3) w.heap.size (X)⟩] st9 ⟨(KStep.x (km fun _ A Wd h D=>bslice_0 rfl) hPx (by kernel_rfl)),(KStep.x ks hPx (by kernel_rfl)),(KStep.x ks hPx (by kernel_rfl)),(KStep.x ks hPx (by kernel_rfl)),(KStep.x (kr1 54 fun _ _ _ _ v0 x0 X0=>⟨_,run_addi rfl (x0.trans (show v0= .int .i64 ((e:Nat):Int)from X0)) rfl (wrap_id (by omega) (by omega)),congrArg (Value.int .i64) (by omega)⟩) hPx (by kernel_rfl)),(KStep.x (by refine kr fun _ A Wd h D=>?_;obtain⟨v0,x0,X0⟩:=h.dp D 52;obtain⟨v1,x1,X1⟩:=h.dp D 53;obtain⟨v2,x2,X2⟩:=h.dp D 55;rw [hX];exact mid_Sv rfl x0 X0 x1 X1 x2 X2 (by omega) (by omega)) hPx (by kernel_rfl)),(kx_app (k:=8) (E:=EV 3) (xs:=[]) (zs:=X) (X:=VAt w (VSv 3 X)) rfl (.inr ⟨rfl,.inl ⟨by kernel_rfl,rfl,rfl⟩⟩) (.inr (.inl ⟨by kernel_rfl,rfl,rfl⟩)) (VSv_lesc (Nat.le_refl _)) (Lq.2 ⟨(fun h=>⟨rfl,rfl⟩),(Lq.2 ⟨(fun h=>absurd h (by simp)),(fun _ h=>absurd h (by simp))⟩)⟩) (by kernel_rfl) rfl (fun x BT=>Stab_Vv _ _ _) (by simp;omega) trivial),(kx_asg rfl ⟨_,.head _,rfl,rfl,by kernel_rfl⟩ (Lq.2 ⟨(fun h=>absurd h (by simp)),(Lq.2 ⟨(fun h=>⟨rfl,rfl⟩),(fun _ h=>absurd h (by simp))⟩)⟩) (by kernel_rfl) rfl trivial),trivial⟩ ?_ hPx (Lq.2 ⟨(fun h=>absurd h (by simp)),(Lq.2 ⟨(fun h=>absurd h (by simp)),(fun _ h=>absurd h (by simp))⟩)⟩) (by kernel_rfl)
 clear hPx
 intro a10 w10 st10 hx10
 clear st9
 obtain⟨v7,e7,h7⟩:=hx10 _ (.tail _ (.head _)) rfl
 clear hx10
 obtain⟨g2,c2,hg2,rfl,hrow⟩:=VRy_row (by intro e0;rw [e0] at lX;simp at lX;omega) h7
 replace st10:St w.heap.size w 112 [] [(11,VAt w (VSv 3 (R))),(13,Vi (((d:Nat):Int))),(14,Vi (((e:Nat):Int)))] a10 w10:=st10
 obtain⟨u11,p11,s11⟩:=st10.sl (11,VAt w (VSv 3 (R))) (lS_mem rfl)
 obtain⟨u13,p13,s13⟩:=st10.sl (13,Vi (((d:Nat):Int))) (lS_mem rfl)
 obtain⟨u14,p14,s14⟩:=st10.sl (14,Vi (((e:Nat):Int))) (lS_mem rfl)
 repeat first|apply Wq|apply Wb|apply Wk|apply Wx
 obtain⟨hbN,stB⟩:=st10.base [(11,VAt w10 (VSv 3 (R))),(13,Vi (((d:Nat):Int))),(14,Vi (((e:Nat):Int))),(15,VAt w10 (VSv 3 (X)))] (Lq.2 ⟨⟨_,p11,VSv_later s11 st10.k.below⟩,(Lq.2 ⟨⟨_,p13,s13⟩,(Lq.2 ⟨⟨_,p14,s14⟩,(Lq.2 ⟨⟨_,e7,hrow.sv⟩,(fun _ h=>absurd h (by simp))⟩)⟩)⟩)⟩)
 clear st10
 have hbX:=below_tr hbO hbN
 clear hbN
 clear hbO
 have hbO:=hbX
 clear hbX
 obtain⟨wP,hren⟩:∃z,z=w:=⟨_,rfl⟩
 subst hren
 obtain⟨w,hren⟩:∃z,z=w10:=⟨_,rfl⟩
 subst hren
 have st10:St w.heap.size w 112 [] [(11,VAt w (VSv 3 (R))),(13,Vi (((d:Nat):Int))),(14,Vi (((e:Nat):Int))),(15,VAt w (VSv 3 (X)))] a10 w:=stB
 clear stB
 clear e7 h7 hrow p11 s11 p13 s13 p14 s14
 have hPx:∀en∈([⟨62,some 4,some 9,VRy 35 8 (EV 3) w.heap.size (R.drop e)⟩,⟨67,some 9,none,VRy 35 8 (EV 3) w.heap.size (R.drop e++R.take (d+1))⟩,⟨16,some 10,none,VRy 35 8 (EV 3) w.heap.size (R.drop e++R.take (d+1))⟩]:List En),Stab [] en.P:=(Lq.2 ⟨(Stab_VRy (fun x=>Stab_Vv _ _ _) (by decide)),(Lq.2 ⟨(Stab_VRy (fun x=>Stab_Vv _ _ _) (by decide)),(Lq.2 ⟨(Stab_VRy (fun x=>Stab_Vv _ _ _) (by decide)),(fun _ h=>absurd h (by simp))⟩)⟩)⟩)
 repeat first|apply Wq|apply Wb|apply Wk|apply Wx
 refine rgX (Vl:=[VE0,VAt w (VSv 3 R),Vi ((e:Nat):Int),VAt w (VSv 3 (R.drop e)),VT,VAt w (VSv 3 R),Vi ((d:Nat):Int),Vi ((d+1:Nat):Int),VAt w (VSv 3 (R.take (d+1))),VT,VT]) (SL':=[(11,VAt w (VSv 3 (R))),(15,VAt w (VSv 3 (X)))]) 35 [⟨62,some 4,some 9,VRy 35 8 (EV 3) w.heap.size (R.drop e)⟩,⟨67,some 9,none,VRy 35 8 (EV 3) w.heap.size (R.drop e++R.take (d+1))⟩,⟨16,some 10,none,VRy 35 8 (EV 3) w.heap.size (R.drop e++R.take (d+1))⟩] st10 ⟨(KStep.x (km fun _ A Wd h D=>bslice_0 rfl) hPx (by kernel_rfl)),(KStep.x ks hPx (by kernel_rfl)),(KStep.x ks hPx (by kernel_rfl)),(KStep.x (kr2 59 60 fun _ _ _ _ _ x0 X0 _ x1 X1=>drop_Sv rfl x0 X0 x1 X1 heR) hPx (by kernel_rfl)),(kx_app (k:=8) (E:=EV 3) (xs:=[]) (zs:=R.drop e) (X:=VAt w (VSv 3 (R.drop e))) rfl (.inr ⟨rfl,.inl ⟨by kernel_rfl,rfl,rfl⟩⟩) (.inr (.inl ⟨by kernel_rfl,rfl,rfl⟩)) (VSv_lesc (Nat.le_refl _)) (Lq.2 ⟨(fun h=>⟨rfl,rfl⟩),(Lq.2 ⟨(fun h=>absurd h (by simp)),(Lq.2 ⟨(fun h=>absurd h (by simp)),(fun _ h=>absurd h (by simp))⟩)⟩)⟩) (by kernel_rfl) rfl (fun x BT=>Stab_Vv _ _ _) (by simp;omega) trivial),(KStep.x ks hPx (by kernel_rfl)),(KStep.x ks hPx (by kernel_rfl)),(KStep.x (kr1 64 fun _ _ _ _ v0 x0 X0=>⟨_,run_addi rfl (x0.trans (show v0= .int .i64 ((d:Nat):Int)from X0)) rfl (wrap_id (by omega) (by omega)),congrArg (Value.int .i64) (by omega)⟩) hPx (by kernel_rfl)),(KStep.x (kr2 63 65 fun _ _ _ _ _ x0 X0 _ x1 X1=>take_Sv rfl x0 X0 x1 X1 (by omega) (by omega)) hPx (by kernel_rfl)),(kx_app (k:=8) (E:=EV 3) (xs:=R.drop e) (zs:=R.take (d+1)) (X:=VAt w (VSv 3 (R.take (d+1)))) rfl (.inl ⟨_,.head _,rfl,rfl,by kernel_rfl⟩) (.inr (.inl ⟨by kernel_rfl,rfl,rfl⟩)) (VSv_lesc (Nat.le_refl _)) (Lq.2 ⟨(fun h=>absurd h (by simp)),(Lq.2 ⟨(fun h=>⟨rfl,rfl⟩),(Lq.2 ⟨(fun h=>absurd h (by simp)),(fun _ h=>absurd h (by simp))⟩)⟩)⟩) (by kernel_rfl) rfl (fun x BT=>Stab_Vv _ _ _) (by simp;omega) trivial),(kx_asg rfl ⟨_,.tail _ (.head _),rfl,rfl,by kernel_rfl⟩ (Lq.2 ⟨(fun h=>absurd h (by simp)),(Lq.2 ⟨(fun h=>absurd h (by simp)),(Lq.2 ⟨(fun h=>⟨rfl,rfl⟩),(fun _ h=>absurd h (by simp))⟩)⟩)⟩) (by kernel_rfl) rfl trivial),trivial⟩ ?_ hPx (Lq.2 ⟨(fun h=>absurd h (by simp)),(Lq.2 ⟨(fun h=>absurd h (by simp)),(Lq.2 ⟨(fun h=>absurd h (by simp)),(fun _ h=>absurd h (by simp))⟩)⟩)⟩) (by kernel_rfl)
 clear hPx
 intro a11 w11 st11 hx11
 clear st10
 rw [<-hY] at hx11
 obtain⟨v7,e7,h7⟩:=hx11 _ (.tail _ (.tail _ (.head _))) rfl
 clear hx11
 obtain⟨g2,c2,hg2,rfl,hrow⟩:=VRy_row (by intro e0;rw [e0] at lY;simp at lY) h7
 replace st11:St w.heap.size w 112 [] [(11,VAt w (VSv 3 (R))),(15,VAt w (VSv 3 (X)))] a11 w11:=st11
 obtain⟨u11,p11,s11⟩:=st11.sl (11,VAt w (VSv 3 (R))) (lS_mem rfl)
 obtain⟨u15,p15,s15⟩:=st11.sl (15,VAt w (VSv 3 (X))) (lS_mem rfl)
 repeat first|apply Wq|apply Wb|apply Wk|apply Wx
 obtain⟨hbN,stB⟩:=st11.base [(11,VAt w11 (VSv 3 (R))),(15,VAt w11 (VSv 3 (X))),(16,VAt w11 (VSv 3 (Y)))] (Lq.2 ⟨⟨_,p11,VSv_later s11 st11.k.below⟩,(Lq.2 ⟨⟨_,p15,VSv_later s15 st11.k.below⟩,(Lq.2 ⟨⟨_,e7,hrow.sv⟩,(fun _ h=>absurd h (by simp))⟩)⟩)⟩)
 clear st11
 have hbX:=below_tr hbO hbN
 clear hbN
 clear hbO
 have hbO:=hbX
 clear hbX
 obtain⟨wP,hren⟩:∃z,z=w:=⟨_,rfl⟩
 subst hren
 obtain⟨w,hren⟩:∃z,z=w11:=⟨_,rfl⟩
 subst hren
 have st11:St w.heap.size w 112 [] [(11,VAt w (VSv 3 (R))),(15,VAt w (VSv 3 (X))),(16,VAt w (VSv 3 (Y)))] a11 w:=stB
 clear stB
 clear e7 h7 hrow p11 s11 p15 s15
 repeat first|apply Wq|apply Wb|apply Wk|apply Wx
 refine rH [(33,4,0),(35,8,0)] [VAt w (VSv 3 (R)),Vq 900 (areaQ R),VT,VT] [⟨17,some 2,some 3,33,4,Vq 900 (areaQ R),VT⟩] [(11,VAt w (VSv 3 (R))),(15,VAt w (VSv 3 (X))),(16,VAt w (VSv 3 (Y)))] st11 ⟨ks,(kd1 fun _ _ Wd h v0 X0=>gArea (VSv_later (show VSv 3 (R) _ w from(show VAt w (VSv 3 (R)) v0 Wd from X0)) h.k.below) (by omega)),ks,ks,trivial⟩ ?_
 intro a12 w12 st12
 clear st11
 repeat first|apply Wq|apply Wb|apply Wk|apply Wx
 refine rH [(33,4,0),(35,8,0)] [VAt w (VSv 3 (X)),Vq 900 (areaQ X),VT,VT] [⟨17,none,none,33,4,Vq 900 (areaQ R),VT⟩,⟨18,some 2,some 3,33,4,Vq 900 (areaQ X),VT⟩] [(11,VAt w (VSv 3 (R))),(15,VAt w (VSv 3 (X))),(16,VAt w (VSv 3 (Y)))] st12 ⟨ks,(kd1 fun _ _ Wd h v0 X0=>gArea (VSv_later (show VSv 3 (X) _ w from(show VAt w (VSv 3 (X)) v0 Wd from X0)) h.k.below) (by omega)),ks,ks,trivial⟩ ?_
 intro a13 w13 st13
 clear st12
 repeat first|apply Wq|apply Wb|apply Wk|apply Wx
 refine rH [(33,4,0),(35,8,0)] [VAt w (VSv 3 (Y)),Vq 900 (areaQ Y),VT,VT] [⟨17,none,none,33,4,Vq 900 (areaQ R),VT⟩,⟨18,none,none,33,4,Vq 900 (areaQ X),VT⟩,⟨19,some 2,some 3,33,4,Vq 900 (areaQ Y),VT⟩] [(11,VAt w (VSv 3 (R))),(15,VAt w (VSv 3 (X))),(16,VAt w (VSv 3 (Y)))] st13 ⟨ks,(kd1 fun _ _ Wd h v0 X0=>gArea (VSv_later (show VSv 3 (Y) _ w from(show VAt w (VSv 3 (Y)) v0 Wd from X0)) h.k.below) (by omega)),ks,ks,trivial⟩ ?_
 intro a14 w14 st14
 clear st13
 replace st14:St w.heap.size w 112 [⟨17,none,none,33,4,Vq 900 (areaQ R),VT⟩,⟨18,none,none,33,4,Vq 900 (areaQ X),VT⟩,⟨19,none,none,33,4,Vq 900 (areaQ Y),VT⟩] [(11,VAt w (VSv 3 (R))),(15,VAt w (VSv 3 (X))),(16,VAt w (VSv 3 (Y)))] a14 w14:=st14
 repeat first|apply Wq|apply Wb|apply Wk|apply Wx
 refine rH [(33,4,0),(35,8,0)] [Vq 900 (areaQ X),Vq 900 (areaQ Y),Vq (900+900+1) ((areaQ X)+(areaQ Y)),Vq 900 (areaQ R),Vb (true),Vb (false)] [⟨17,none,none,33,4,Vq 900 (areaQ R),VT⟩,⟨18,none,none,33,4,Vq 900 (areaQ X),VT⟩,⟨19,none,none,33,4,Vq 900 (areaQ Y),VT⟩] [(11,VAt w (VSv 3 (R))),(15,VAt w (VSv 3 (X))),(16,VAt w (VSv 3 (Y))),(79,Vb (false))] st14 ⟨ks,ks,(kd2 fun _ _ _ _ _ X0 _ X1=>cQAdd X0 X1 (by omega) (by omega) (by omega) (by omega)),ks,(kd2 fun _ _ _ _ _ X0 _ X1=>same4T X0 X1 (by omega) (by omega) (parts_area hde heR hX hY)),ks,trivial⟩ ?_
 intro a15 w15 st15
 clear st14
 repeat first|apply Wq|apply Wb|apply Wk|apply Wx
 refine cF st15 ?_
 by_cases z1:areaQ X=0
 ·
  repeat first|apply Wq|apply Wb|apply Wk|apply Wx
  refine rH [(33,4,0),(35,8,0)] [Vq 900 (areaQ X),Vi (cmpI (areaQ X).num 0),Vb (true),Vb (true),VT,VT,VT,Vb (true),Vb (true),VT,VT,VT,Vb (true)] [⟨17,none,none,33,4,Vq 900 (areaQ R),VT⟩,⟨18,none,none,33,4,Vq 900 (areaQ X),VT⟩,⟨19,none,none,33,4,Vq 900 (areaQ Y),VT⟩] [(11,VAt w (VSv 3 (R))),(15,VAt w (VSv 3 (X))),(16,VAt w (VSv 3 (Y))),(79,Vb (false)),(92,Vb (true))] st15 ⟨ks,(kd1 fun _ _ _ _ _ X0=>cQSign X0 (by omega)),(by refine kr fun _ A Wd h D=>?_;obtain⟨v0,x0,X0⟩:=h.dp D 81;have hV0':v0= .int .i64 (cmpI (areaQ X).num 0):=X0;exact⟨_,run_eqi rfl (x0.trans hV0') rfl,congrArg Value.bool (beq_iff_eq.2 ((cmpI_zeroQ _).2 z1))⟩),ks,ks,ks,ks,ks,ks,ks,ks,ks,ks,trivial⟩ ?_
  intro a16 w16 st16
  clear st15
  repeat first|apply Wq|apply Wb|apply Wk|apply Wx
  refine cT st16 ?_
  repeat first|apply Wq|apply Wb|apply Wk|apply Wx
  refine rH [(33,4,0),(35,8,0)] [Vb (true),Vb (true)] [⟨17,none,none,33,4,Vq 900 (areaQ R),VT⟩,⟨18,none,none,33,4,Vq 900 (areaQ X),VT⟩,⟨19,none,none,33,4,Vq 900 (areaQ Y),VT⟩] [(11,VAt w (VSv 3 (R))),(15,VAt w (VSv 3 (X))),(16,VAt w (VSv 3 (Y))),(79,Vb (false)),(92,Vb (true)),(10,Vb (true))] st16 ⟨(by refine kc fun _ A Wd h D=>?_;exact⟨#[],by simp [],cL6Lives⟩),ks,trivial⟩ ?_
  intro a17 w17 st17
  clear st16
  repeat first|apply Wq|apply Wb|apply Wk|apply Wx
  obtain⟨vr,r1,r4⟩:=st17.slot (10,Vb (true)) (.tail _ (.tail _ (.tail _ (.tail _ (.tail _ (.head _))))))
  exact wp_ret (bodyPost_ret (results_tmp rfl _ _ _) st17.defers ⟨_,congrArg Ending.returned (show _=vr from r1),r4,below_tr hbO st17.k.below⟩)
 ·
  by_cases z2:areaQ Y=0
  ·
   repeat first|apply Wq|apply Wb|apply Wk|apply Wx
   refine rH [(33,4,0),(35,8,0)] [Vq 900 (areaQ X),Vi (cmpI (areaQ X).num 0),Vb (false),Vb (false),Vq 900 (areaQ Y),Vi (cmpI (areaQ Y).num 0),Vb (true),Vb (true),Vb (true),VT,VT,VT,Vb (true)] [⟨17,none,none,33,4,Vq 900 (areaQ R),VT⟩,⟨18,none,none,33,4,Vq 900 (areaQ X),VT⟩,⟨19,none,none,33,4,Vq 900 (areaQ Y),VT⟩] [(11,VAt w (VSv 3 (R))),(15,VAt w (VSv 3 (X))),(16,VAt w (VSv 3 (Y))),(79,Vb (false)),(92,Vb (true))] st15 ⟨ks,(kd1 fun _ _ _ _ _ X0=>cQSign X0 (by omega)),(by refine kr fun _ A Wd h D=>?_;obtain⟨v0,x0,X0⟩:=h.dp D 81;have hV0':v0= .int .i64 (cmpI (areaQ X).num 0):=X0;exact⟨_,run_eqi rfl (x0.trans hV0') rfl,congrArg Value.bool (beq_eq_false_iff_ne.2 fun h=>z1 ((cmpI_zeroQ _).1 h))⟩),ks,ks,(kd1 fun _ _ _ _ _ X0=>cQSign X0 (by omega)),(by refine kr fun _ A Wd h D=>?_;obtain⟨v0,x0,X0⟩:=h.dp D 85;have hV0':v0= .int .i64 (cmpI (areaQ Y).num 0):=X0;exact⟨_,run_eqi rfl (x0.trans hV0') rfl,congrArg Value.bool (beq_iff_eq.2 ((cmpI_zeroQ _).2 z2))⟩),ks,ks,ks,ks,ks,ks,trivial⟩ ?_
   intro a16 w16 st16
   clear st15
   repeat first|apply Wq|apply Wb|apply Wk|apply Wx
   refine cT st16 ?_
   repeat first|apply Wq|apply Wb|apply Wk|apply Wx
   refine rH [(33,4,0),(35,8,0)] [Vb (true),Vb (true)] [⟨17,none,none,33,4,Vq 900 (areaQ R),VT⟩,⟨18,none,none,33,4,Vq 900 (areaQ X),VT⟩,⟨19,none,none,33,4,Vq 900 (areaQ Y),VT⟩] [(11,VAt w (VSv 3 (R))),(15,VAt w (VSv 3 (X))),(16,VAt w (VSv 3 (Y))),(79,Vb (false)),(92,Vb (true)),(10,Vb (true))] st16 ⟨(by refine kc fun _ A Wd h D=>?_;exact⟨#[],by simp [],cL6Lives⟩),ks,trivial⟩ ?_
   intro a17 w17 st17
   clear st16
   repeat first|apply Wq|apply Wb|apply Wk|apply Wx
   obtain⟨vr,r1,r4⟩:=st17.slot (10,Vb (true)) (.tail _ (.tail _ (.tail _ (.tail _ (.tail _ (.head _))))))
   exact wp_ret (bodyPost_ret (results_tmp rfl _ _ _) st17.defers ⟨_,congrArg Ending.returned (show _=vr from r1),r4,below_tr hbO st17.k.below⟩)
  ·
   by_cases z3:areaQ R=0
   ·
    repeat first|apply Wq|apply Wb|apply Wk|apply Wx
    refine rH [(33,4,0),(35,8,0)] [Vq 900 (areaQ X),Vi (cmpI (areaQ X).num 0),Vb (false),Vb (false),Vq 900 (areaQ Y),Vi (cmpI (areaQ Y).num 0),Vb (false),Vb (false),Vb (false),Vq 900 (areaQ R),Vi (cmpI (areaQ R).num 0),Vb (true),Vb (true)] [⟨17,none,none,33,4,Vq 900 (areaQ R),VT⟩,⟨18,none,none,33,4,Vq 900 (areaQ X),VT⟩,⟨19,none,none,33,4,Vq 900 (areaQ Y),VT⟩] [(11,VAt w (VSv 3 (R))),(15,VAt w (VSv 3 (X))),(16,VAt w (VSv 3 (Y))),(79,Vb (false)),(92,Vb (true))] st15 ⟨ks,(kd1 fun _ _ _ _ _ X0=>cQSign X0 (by omega)),(by refine kr fun _ A Wd h D=>?_;obtain⟨v0,x0,X0⟩:=h.dp D 81;have hV0':v0= .int .i64 (cmpI (areaQ X).num 0):=X0;exact⟨_,run_eqi rfl (x0.trans hV0') rfl,congrArg Value.bool (beq_eq_false_iff_ne.2 fun h=>z1 ((cmpI_zeroQ _).1 h))⟩),ks,ks,(kd1 fun _ _ _ _ _ X0=>cQSign X0 (by omega)),(by refine kr fun _ A Wd h D=>?_;obtain⟨v0,x0,X0⟩:=h.dp D 85;have hV0':v0= .int .i64 (cmpI (areaQ Y).num 0):=X0;exact⟨_,run_eqi rfl (x0.trans hV0') rfl,congrArg Value.bool (beq_eq_false_iff_ne.2 fun h=>z2 ((cmpI_zeroQ _).1 h))⟩),ks,ks,ks,(kd1 fun _ _ _ _ _ X0=>cQSign X0 (by omega)),(by refine kr fun _ A Wd h D=>?_;obtain⟨v0,x0,X0⟩:=h.dp D 90;have hV0':v0= .int .i64 (cmpI (areaQ R).num 0):=X0;exact⟨_,run_eqi rfl (x0.trans hV0') rfl,congrArg Value.bool (beq_iff_eq.2 ((cmpI_zeroQ _).2 z3))⟩),ks,trivial⟩ ?_
    intro a16 w16 st16
    clear st15
    repeat first|apply Wq|apply Wb|apply Wk|apply Wx
    refine cT st16 ?_
    repeat first|apply Wq|apply Wb|apply Wk|apply Wx
    refine rH [(33,4,0),(35,8,0)] [Vb (true),Vb (true)] [⟨17,none,none,33,4,Vq 900 (areaQ R),VT⟩,⟨18,none,none,33,4,Vq 900 (areaQ X),VT⟩,⟨19,none,none,33,4,Vq 900 (areaQ Y),VT⟩] [(11,VAt w (VSv 3 (R))),(15,VAt w (VSv 3 (X))),(16,VAt w (VSv 3 (Y))),(79,Vb (false)),(92,Vb (true)),(10,Vb (true))] st16 ⟨(by refine kc fun _ A Wd h D=>?_;exact⟨#[],by simp [],cL6Lives⟩),ks,trivial⟩ ?_
    intro a17 w17 st17
    clear st16
    repeat first|apply Wq|apply Wb|apply Wk|apply Wx
    obtain⟨vr,r1,r4⟩:=st17.slot (10,Vb (true)) (.tail _ (.tail _ (.tail _ (.tail _ (.tail _ (.head _))))))
    exact wp_ret (bodyPost_ret (results_tmp rfl _ _ _) st17.defers ⟨_,congrArg Ending.returned (show _=vr from r1),r4,below_tr hbO st17.k.below⟩)
   ·
    repeat first|apply Wq|apply Wb|apply Wk|apply Wx
    refine rH [(33,4,0),(35,8,0)] [Vq 900 (areaQ X),Vi (cmpI (areaQ X).num 0),Vb (false),Vb (false),Vq 900 (areaQ Y),Vi (cmpI (areaQ Y).num 0),Vb (false),Vb (false),Vb (false),Vq 900 (areaQ R),Vi (cmpI (areaQ R).num 0),Vb (false),Vb (false)] [⟨17,none,none,33,4,Vq 900 (areaQ R),VT⟩,⟨18,none,none,33,4,Vq 900 (areaQ X),VT⟩,⟨19,none,none,33,4,Vq 900 (areaQ Y),VT⟩] [(11,VAt w (VSv 3 (R))),(15,VAt w (VSv 3 (X))),(16,VAt w (VSv 3 (Y))),(79,Vb (false)),(92,Vb (false))] st15 ⟨ks,(kd1 fun _ _ _ _ _ X0=>cQSign X0 (by omega)),(by refine kr fun _ A Wd h D=>?_;obtain⟨v0,x0,X0⟩:=h.dp D 81;have hV0':v0= .int .i64 (cmpI (areaQ X).num 0):=X0;exact⟨_,run_eqi rfl (x0.trans hV0') rfl,congrArg Value.bool (beq_eq_false_iff_ne.2 fun h=>z1 ((cmpI_zeroQ _).1 h))⟩),ks,ks,(kd1 fun _ _ _ _ _ X0=>cQSign X0 (by omega)),(by refine kr fun _ A Wd h D=>?_;obtain⟨v0,x0,X0⟩:=h.dp D 85;have hV0':v0= .int .i64 (cmpI (areaQ Y).num 0):=X0;exact⟨_,run_eqi rfl (x0.trans hV0') rfl,congrArg Value.bool (beq_eq_false_iff_ne.2 fun h=>z2 ((cmpI_zeroQ _).1 h))⟩),ks,ks,ks,(kd1 fun _ _ _ _ _ X0=>cQSign X0 (by omega)),(by refine kr fun _ A Wd h D=>?_;obtain⟨v0,x0,X0⟩:=h.dp D 90;have hV0':v0= .int .i64 (cmpI (areaQ R).num 0):=X0;exact⟨_,run_eqi rfl (x0.trans hV0') rfl,congrArg Value.bool (beq_eq_false_iff_ne.2 fun h=>z3 ((cmpI_zeroQ _).1 h))⟩),ks,trivial⟩ ?_
    intro a16 w16 st16
    clear st15
    repeat first|apply Wq|apply Wb|apply Wk|apply Wx
    refine cF st16 ?_
    repeat first|apply Wq|apply Wb|apply Wk|apply Wx
    refine rH [(33,4,0),(35,8,0)] [VAt w (VSv 3 (X)),Vv 3000 ((ctr X).1) ((ctr X).2),Vq 900 (areaQ X),Vv (3000+900) (((ctr X).1)*(areaQ X)) (((ctr X).2)*(areaQ X)),VAt w (VSv 3 (Y)),Vv 3000 ((ctr Y).1) ((ctr Y).2),Vq 900 (areaQ Y),Vv (3000+900) (((ctr Y).1)*(areaQ Y)) (((ctr Y).2)*(areaQ Y)),Vv ((3000+900)+(3000+900)+1) ((((ctr X).1)*(areaQ X))+(((ctr Y).1)*(areaQ Y))) ((((ctr X).2)*(areaQ X))+(((ctr Y).2)*(areaQ Y))),VT,VT] [⟨17,none,none,33,4,Vq 900 (areaQ R),VT⟩,⟨18,none,none,33,4,Vq 900 (areaQ X),VT⟩,⟨19,none,none,33,4,Vq 900 (areaQ Y),VT⟩,⟨20,some 9,some 10,35,8,Vv ((3000+900)+(3000+900)+1) ((((ctr X).1)*(areaQ X))+(((ctr Y).1)*(areaQ Y))) ((((ctr X).2)*(areaQ X))+(((ctr Y).2)*(areaQ Y))),VT⟩] [(11,VAt w (VSv 3 (R))),(15,VAt w (VSv 3 (X))),(16,VAt w (VSv 3 (Y))),(79,Vb (false)),(92,Vb (false))] st16 ⟨ks,(kd1 fun _ _ Wd h v0 X0=>gCtr (VSv_later (show VSv 3 (X) _ w from(show VAt w (VSv 3 (X)) v0 Wd from X0)) h.k.below) (by omega)),ks,(kd2 fun _ _ _ _ _ X0 _ X1=>cVScaleN (N:=3000) (M:=900) X0 X1 (by omega) (by omega) (by omega) (by omega)),ks,(kd1 fun _ _ Wd h v0 X0=>gCtr (VSv_later (show VSv 3 (Y) _ w from(show VAt w (VSv 3 (Y)) v0 Wd from X0)) h.k.below) (by omega)),ks,(kd2 fun _ _ _ _ _ X0 _ X1=>cVScaleN (N:=3000) (M:=900) X0 X1 (by omega) (by omega) (by omega) (by omega)),(kd2 fun _ _ _ _ _ X0 _ X1=>cVAddN (N:=(3000+900)) (M:=(3000+900)) X0 X1 (by omega) (by omega) (by omega) (by omega)),ks,ks,trivial⟩ ?_
    intro a17 w17 st17
    clear st16
    repeat first|apply Wq|apply Wb|apply Wk|apply Wx
    refine rH [(33,4,0),(35,8,0)] [Vv ((3000+900)+(3000+900)+1) ((((ctr X).1)*(areaQ X))+(((ctr Y).1)*(areaQ Y))) ((((ctr X).2)*(areaQ X))+(((ctr Y).2)*(areaQ Y))),VAt w (VSv 3 (R)),Vv 3000 ((ctr R).1) ((ctr R).2),Vq 900 (areaQ R),Vv (3000+900) (((ctr R).1)*(areaQ R)) (((ctr R).2)*(areaQ R)),Vb (true),Vb (true),Vb (true),Vb (true),Vb (true)] [⟨17,none,none,33,4,Vq 900 (areaQ R),VT⟩,⟨18,none,none,33,4,Vq 900 (areaQ X),VT⟩,⟨19,none,none,33,4,Vq 900 (areaQ Y),VT⟩,⟨20,none,none,35,8,Vv ((3000+900)+(3000+900)+1) ((((ctr X).1)*(areaQ X))+(((ctr Y).1)*(areaQ Y))) ((((ctr X).2)*(areaQ X))+(((ctr Y).2)*(areaQ Y))),VT⟩] [(11,VAt w (VSv 3 (R))),(15,VAt w (VSv 3 (X))),(16,VAt w (VSv 3 (Y))),(79,Vb (false)),(92,Vb (false)),(10,Vb (true))] st17 ⟨ks,ks,(kd1 fun _ _ Wd h v0 X0=>gCtr (VSv_later (show VSv 3 (R) _ w from(show VAt w (VSv 3 (R)) v0 Wd from X0)) h.k.below) (by omega)),ks,(kd2 fun _ _ _ _ _ X0 _ X1=>cVScaleN (N:=3000) (M:=900) X0 X1 (by omega) (by omega) (by omega) (by omega)),(kd2 fun _ _ _ _ _ X0 _ X1=>same5T X0 X1 (by omega) (by omega) (parts_ctr hde heR hX hY z1 z2 z3)),ks,(by refine kc fun _ A Wd h D=>?_;exact⟨#[],by simp [],cL6Lives⟩),ks,ks,trivial⟩ ?_
    intro a18 w18 st18
    clear st17
    repeat first|apply Wq|apply Wb|apply Wk|apply Wx
    obtain⟨vr,r1,r4⟩:=st18.slot (10,Vb (true)) (.tail _ (.tail _ (.tail _ (.tail _ (.tail _ (.head _))))))
    exact wp_ret (bodyPost_ret (results_tmp rfl _ _ _) st18.defers ⟨_,congrArg Ending.returned (show _=vr from r1),r4,below_tr hbO st18.k.below⟩)
theorem wf_i64' {n:Int}(h:(Lit.int .i64 n).wf=true): -9223372036854775808<=n/\n<=9223372036854775807:=by
 simp [Lit.wf,IntKind.min,IntKind.max,IntKind.signed,IntKind.bits] at h
 omega
theorem add_plain' (b o i:Nat):(⟨b,o,none⟩:Addr).add i=⟨b,o+i,none⟩:=by unfold Addr.add;split<;>simp_all
theorem addr_plain' {w:World}{x:Addr}{u:Value}(h:w.cell? (x.add 0)=some u):x=⟨x.block,x.off,none⟩:=by
 have h0:x.add 0=x:=by simp [Addr.add]
 rw [h0] at h
 cases x with
 |mk b o s=>
  cases s with
  |none=>rfl
  |some s=>
   unfold World.cell? at h
   split at h
   ·simp at h
   ·cases h
theorem row_Rdi {w:World}{a:Option Addr}{len cap:Nat}{zs:List Int}
 (h:(a=none/\len=0/\cap=0/\zs= [])∨∃x,a=some x/\len<=cap/\cap<=maxLen/\zs.length=cap/\(∀i,i<zs.length->w.cell? (x.add i)=some (.int .i64 (zs.getD i 0)))/\∀n∈zs,(Lit.int .i64 n).wf=true):
 ∃l:List Int,Rdi w a l/\i64s l/\len=l.length/\len<=cap/\cap<=9223372036854775807:=by
 rcases h with⟨rfl,rfl,rfl,rfl⟩|⟨x,rfl,hl,hm,hz,hc,hw⟩
 ·exact⟨[],.inl rfl,fun i hi=>by simp at hi,rfl,Nat.le_refl _,by omega⟩
 ·refine⟨zs.take len,?_,?_,by simp;omega,hl,by unfold maxLen at hm;omega⟩
  ·rcases Nat.eq_zero_or_pos len with h0|h0
   ·subst h0;exact .inl (by simp)
   ·have hx:=addr_plain' (hc 0 (by omega))
    refine .inr ⟨x.block,x.off,by rw [<-hx],fun i hi=>?_⟩
    have hi':i<len:=by simp at hi;omega
    have hi2:i<zs.length:=by omega
    have hadd:x.add i=⟨x.block,x.off+i,none⟩:=(congrArg (fun y:Addr=>y.add i) hx).trans (add_plain' _ _ _)
    rw [<-hadd,hc i hi2]
    simp [iat,List.getD_eq_getElem?_getD,hi']
  ·intro i hi
   have hi':i<len:=by simp at hi;omega
   have hi2:i<zs.length:=by omega
   have hb:=wf_i64' (hw (zs[i]) (List.getElem_mem hi2))
   have e:iat (zs.take len) i=zs[i]:=by simp [iat,List.getD_eq_getElem?_getD,hi',hi2]
   rw [e]
   omega
end Go.Proofs.YtjdkdjobaabdiaaGreat
