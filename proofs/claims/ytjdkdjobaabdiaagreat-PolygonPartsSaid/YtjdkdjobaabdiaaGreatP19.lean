/- Contracts of the packages integer, rat, plane, polygon and their references. -/
import Derived.Test.YtjdkdjobaabdiaaGreatP14
import Derived.Test.YtjdkdjobaabdiaaGreatP18
import Derived.Test.YtjdkdjobaabdiaaGreatP6
import Derived.Test.YtjdkdjobaabdiaaGreatP12
set_option linter.unusedVariables false
set_option maxRecDepth 100000
set_option maxHeartbeats 6400000
namespace Go.Proofs.YtjdkdjobaabdiaaGreat
open Go.RowKit
theorem cRDivided {W:World}{Na Nb:Nat}{x y:Int}{v1 v2:Value}(h1:VD Na x v1 W)(h2:VD Nb y v2 W)(hy:y≠0)(hNa:Na<=1000000)(hNb:Nb<=1000000):
 Calls Tryz.prog 157 #[v1,v2] W (RV (VTup (VO Na ((x.natAbs / y.natAbs:Nat):Int)) (VD Nb ((x.natAbs % y.natAbs:Nat):Int))) W):=by
 obtain⟨p,n,c,rfl,hn,hR,hnc,hc,hnN⟩:=h1
 obtain⟨p2,n2,c2,rfl,hn2,hR2,hnc2,hc2,hnN2⟩:=h2
 refine(rdivided_any p p2 n c n2 c2 x.natAbs y.natAbs W hR hR2 hn hn2 hnc hc hnc2 hc2 (by omega) (by omega) (by omega)).mono fun e w' h=>?_
 obtain⟨q1,m1,k1,O,q2,m2,k2,r,he,hO,hm1,hmk,hk1,hdO,hv,hr,hr2,hm2,hmk2,hk2,hml,hb,-⟩:=h
 have hv':val O=((x.natAbs / y.natAbs:Nat):Int)/\r=x.natAbs % y.natAbs:=by
  have h0:=hdO.lo
  obtain⟨V,hV⟩:∃V:Nat,val O=V:=⟨(val O).toNat,by omega⟩
  rw [hV] at hv ⊢
  have e1:x.natAbs=V*y.natAbs+r:=by
   have:((V*y.natAbs+r:Nat):Int)=(x.natAbs:Int):=by rw [Int.natCast_add,Int.natCast_mul];exact hv
   omega
  have e2:x.natAbs / y.natAbs=V:=by rw [e1,Nat.mul_comm,Nat.mul_add_div (by omega),Nat.div_eq_of_lt hr];omega
  have e3:x.natAbs % y.natAbs=r:=by rw [e1,Nat.mul_comm,Nat.mul_add_mod,Nat.mod_eq_of_lt hr]
  exact⟨by rw [e2],e3.symm⟩
 refine⟨_,he,⟨_,_,rfl,⟨q1,m1,k1,O,rfl,hm1,hO,hmk,hk1,hdO,hv'.1,by omega⟩,⟨q2,m2,k2,rfl,?_,?_,hmk2,hk2,?_⟩⟩,hb⟩
 ·rw [Int.natAbs_natCast,<-hv'.2];exact hm2
 ·rw [Int.natAbs_natCast,<-hv'.2];exact hr2
 ·have:=digs_len_mono (a:=r) (b:=y.natAbs) (by omega)
  omega
theorem len_sgval {l:List Int}{N:Nat}(D:Dg l)(h:l.length<=N)(b:Bool):(digs (sg b (val l)).natAbs).length<=N:=by
 have h1:=rt_len' D
 have:(sg b (val l)).natAbs=(val l).natAbs:=by cases b<;>simp [sg]
 rw [this];omega
theorem cRNormalO {W:World}{N:Nat}{e:Int}{b:Bool}{v:Value}(h:VO N e v W):Calls Tryz.prog 140 #[.bool b,v] W (RV (Vz N (sg b e)) W):=by
 obtain⟨p,n,c,l,rfl,hn,hR,hnc,hc,D,rfl,hN⟩:=h
 exact(normal_any b p n c l W hR hn hnc hc D).mono fun e w' ⟨nb,q,m,k,he,hI,hb,_⟩=>⟨_,he,⟨nb,q,m,k,rfl,hI,by rw [hI.2.1];exact len_sgval D (by omega) b⟩,hb⟩
theorem VD_O {N:Nat}{e:Int}{v:Value}{w:World}(h:VD N e v w):VO N (e.natAbs:Int) v w:=by
 obtain⟨p,n,c,h1,h2,h3,h4,h5,h6⟩:=h
 exact⟨p,n,c,_,h1,h2,h3,h4,h5,Dg_digs _,val_digs _,h6⟩
theorem cRNormalV {W:World}{N:Nat}{e:Int}{b:Bool}{vb v:Value}(hb:Vb b vb W)(h:VO N e v W):Calls Tryz.prog 140 #[vb,v] W (RV (Vz N (sg b e)) W):=by
 obtain rfl:=hb;exact cRNormalO h
theorem cRMinus {W:World}{Na Nb:Nat}{x y:Int}{v1 v2:Value}(h1:VD Na x v1 W)(h2:VD Nb y v2 W)(hxy:y.natAbs<=x.natAbs)(hNa:Na<=1000000):
 Calls Tryz.prog 148 #[v1,v2] W (RV (VO Na ((x.natAbs:Int) - (y.natAbs:Int))) W):=by
 obtain⟨p,n,c,rfl,hn,hR,hnc,hc,hnN⟩:=h1
 obtain⟨p2,n2,c2,rfl,hn2,hR2,hnc2,hc2,hnN2⟩:=h2
 have hl:=digs_len_mono hxy
 refine(minus_any p p2 n c n2 c2 _ _ W hR hR2 hn hn2 (Dg_digs _) (Dg_digs _) (by omega) (by omega) (by rw [val_digs,val_digs];omega)).mono fun e w' h=>?_
 obtain⟨q,m,k,z,he,hRz,hl,hmk,hk,-,hb,D,hv,hlen⟩:=h
 exact⟨_,he,⟨q,m,k,z,rfl,hl.symm,hRz,hmk,hk,D,by rw [hv,val_digs,val_digs],by omega⟩,hb⟩
theorem VD_On {N n:Nat}{v:Value}{w:World}(h:VD N (n:Int) v w):VO N (n:Int) v w:=by
 have:=VD_O h
 rwa [Int.natAbs_natCast] at this
theorem cRMinusN {W:World}{Na Nb n:Nat}{x:Int}{v1 v2:Value}(h1:VD Na x v1 W)(h2:VD Nb (n:Int) v2 W)(hxy:n<=x.natAbs)(hNa:Na<=1000000):
 Calls Tryz.prog 148 #[v1,v2] W (RV (VO Na ((x.natAbs:Int) - (n:Int))) W):=by
 have:=cRMinus h1 h2 (by rw [Int.natAbs_natCast];exact hxy) hNa
 rwa [Int.natAbs_natCast] at this
theorem sg_add (b:Bool)(p q:Int):sg b p+sg b q=sg b (p+q):=by cases b<;>simp [sg]<;>omega
theorem mod_le {x y:Int}(hy:y≠0):x.natAbs % y.natAbs<=y.natAbs:=Nat.le_of_lt (Nat.mod_lt _ (by omega))
theorem rdiv_m {x y:Int}(hy:y≠0):
 (x<0->0<((x.natAbs % y.natAbs:Nat):Int)->dq x y=sg (decide (x<0) !=decide (y<0)) (((x.natAbs / y.natAbs:Nat):Int)+1)/\dr x y=(y.natAbs:Int) - ((x.natAbs % y.natAbs:Nat):Int))/\
 (¬(x<0/\0<((x.natAbs % y.natAbs:Nat):Int))->dq x y=sg (decide (x<0) !=decide (y<0)) ((x.natAbs / y.natAbs:Nat):Int)/\dr x y=((x.natAbs % y.natAbs:Nat):Int)):=by
 refine div_math hy ?_ (Int.natCast_nonneg _) ?_
 ·rw [<-Int.natCast_mul,<-Int.natCast_add,Nat.div_add_mod]
 ·exact Int.ofNat_lt.2 (Nat.mod_lt _ (by omega))
theorem len_gt0 (n:Int)(hn:0<=n):decide (0<((digs n.natAbs).length:Int))=decide (0<n):=by
 by_cases h:n=0
 ·subst h;rw [show(0:Int).natAbs=0 by rfl,digs_zero];rfl
 ·have:(digs n.natAbs).length≠0:=fun e=>h (by have:=digs_nil.1 (List.eq_nil_of_length_eq_zero e);omega)
  rw [dT (by omega),dT (by omega)]
theorem cRDiv {w:World}{Na Nb:Nat}{x y:Int}{v0 v1:Value}(h0:Vz Na (x) v0 w)(h1:Vz Nb (y) v1 w)(h1a:1<=Na)(h1b:1<=Nb)(hNa:Na<=1000000)(hNb:Nb<=1000000):Calls Tryz.prog 138 #[v0,v1] w (RV (VTup (Vz (Na+1) (dq x y)) (Vz Nb (dr x y))) w):=by
 go_enter Tryz.func138,Tryz.ntmps138
 generalize hA:(⟨_,_⟩:Act)=a0
 have st0:St w.heap.size w 58 [] [(0,Vz Na (x)),(1,Vz Nb (y))] a0 w:=by subst hA;exact St.begin rfl rfl (Lq.2 ⟨⟨_,rfl,h0⟩,(Lq.2 ⟨⟨_,rfl,h1⟩,(fun _ h=>absurd h (by simp))⟩)⟩)
 clear hA
 repeat first|apply Wq|apply Wb|apply Wk|apply Wx
 refine rH [(31,2,0)] [VT,VT,VT,VT] [⟨2,some 0,some 0,31,2,Vz Na (x),VT⟩,⟨3,some 1,some 1,31,2,Vz Nb (y),VT⟩,⟨4,some 2,none,31,2,VT,VT⟩,⟨5,some 3,none,31,2,VT,VT⟩] [] st0 ⟨ks,ks,ks,ks,trivial⟩ ?_
 intro a1 w1 st1
 clear st0
 by_cases hy:y=0
 ·
  repeat first|apply Wq|apply Wb|apply Wk|apply Wx
  refine rH [(31,2,0)] [Vpt a1 3 1,VD Nb (y),Vi (((digs (y).natAbs).length:Int)),Vb (true)] [⟨2,none,none,31,2,Vz Na (x),VT⟩,⟨3,none,none,31,2,Vz Nb (y),VT⟩,⟨4,none,none,31,2,VT,VT⟩,⟨5,none,none,31,2,VT,VT⟩] [(13,Vb (true))] st1 ⟨ks,ks,(by refine kr fun _ A Y h D=>?_;obtain⟨v0,x0,X0⟩:=h.dp D 11;obtain⟨pp,nn,cc,rfl,hnn,-⟩:=X0;exact⟨_,run_len rfl rfl x0,by rw [hnn];rfl⟩),(by refine kr fun _ A Y h D=>?_;obtain⟨v0,x0,X0⟩:=h.dp D 12;have hV0':v0= .int .i64 (((digs (y).natAbs).length:Int)):=X0;exact⟨_,run_eqi rfl (x0.trans hV0') rfl,congrArg Value.bool (by rw [len_eq0];exact dT hy)⟩),trivial⟩ ?_
  intro a2 w2 st2
  clear st1
  repeat first|apply Wq|apply Wb|apply Wk|apply Wx
  refine cT st2 ?_
  repeat first|apply Wq|apply Wb|apply Wk|apply Wx
  refine rH [(31,2,0)] [Vz 1 (0),Vz 1 (0),VT,VT] [⟨2,none,none,31,2,Vz Na (x),VT⟩,⟨3,none,none,31,2,Vz Nb (y),VT⟩,⟨4,none,some 2,31,2,Vz 1 (0),VT⟩,⟨5,none,some 3,31,2,Vz 1 (0),VT⟩] [(13,Vb (true))] st2 ⟨(kr fun _ A Y h D=>build_Int0 rfl),(kr fun _ A Y h D=>build_Int0 rfl),ks,ks,trivial⟩ ?_
  intro a3 w3 st3
  clear st2
  repeat first|apply Wq|apply Wb|apply Wk|apply Wx
  obtain⟨g,cs,r1,r2,r3,r4,r5⟩:=st3.res ⟨4,none,none,31,2,Vz 1 (0),VT⟩ (.tail _ (.tail _ (.head _))) rfl rfl
  obtain⟨g2,cs2,p1,p2,p3,p4,p5⟩:=st3.res ⟨5,none,none,31,2,Vz 1 (0),VT⟩ (.tail _ (.tail _ (.tail _ (.head _)))) rfl rfl
  exact wp_ret (bodyPost_ret (results_cell2 rfl _ _ g g2 31 cs cs2 (0,0) (0,0) _ r1 p1 r2 p2 Tryz.underlying31 rfl (by rw [r3];exact size_Int) (by rw [p3];exact size_Int)) st3.defers ⟨_,rfl,⟨_,_,rfl,⟨Vz_le (by rw [show dq x y=0 from if_pos hy];exact r4) (by omega),Vz_le (by rw [show dr x y=0 from if_pos hy];exact p4) (by omega)⟩⟩,r5⟩)
 ·
  repeat first|apply Wq|apply Wb|apply Wk|apply Wx
  refine rH [(31,2,0)] [Vpt a1 3 1,VD Nb (y),Vi (((digs (y).natAbs).length:Int)),Vb (false)] [⟨2,none,none,31,2,Vz Na (x),VT⟩,⟨3,none,none,31,2,Vz Nb (y),VT⟩,⟨4,none,none,31,2,VT,VT⟩,⟨5,none,none,31,2,VT,VT⟩] [(13,Vb (false))] st1 ⟨ks,ks,(by refine kr fun _ A Y h D=>?_;obtain⟨v0,x0,X0⟩:=h.dp D 11;obtain⟨pp,nn,cc,rfl,hnn,-⟩:=X0;exact⟨_,run_len rfl rfl x0,by rw [hnn];rfl⟩),(by refine kr fun _ A Y h D=>?_;obtain⟨v0,x0,X0⟩:=h.dp D 12;have hV0':v0= .int .i64 (((digs (y).natAbs).length:Int)):=X0;exact⟨_,run_eqi rfl (x0.trans hV0') rfl,congrArg Value.bool (by rw [len_eq0];exact dF hy)⟩),trivial⟩ ?_
  intro a2 w2 st2
  clear st1
  repeat first|apply Wq|apply Wb|apply Wk|apply Wx
  refine cF st2 ?_
  repeat first|apply Wq|apply Wb|apply Wk|apply Wx
  refine rH [(31,2,0)] [Vpt a2 2 1,VD Na (x),Vpt a2 3 1,VD Nb (y),VTup (VO Na (((x.natAbs / y.natAbs:Nat):Int))) (VD Nb (((x.natAbs % y.natAbs:Nat):Int))),VTup (VO Na (((x.natAbs / y.natAbs:Nat):Int))) (VD Nb (((x.natAbs % y.natAbs:Nat):Int))),VO Na (((x.natAbs / y.natAbs:Nat):Int)),VD Nb (((x.natAbs % y.natAbs:Nat):Int)),VO Na (((x.natAbs / y.natAbs:Nat):Int)),VD Nb (((x.natAbs % y.natAbs:Nat):Int))] [⟨2,none,none,31,2,Vz Na (x),VT⟩,⟨3,none,none,31,2,Vz Nb (y),VT⟩,⟨4,none,none,31,2,VT,VT⟩,⟨5,none,none,31,2,VT,VT⟩] [(13,Vb (false)),(6,VO Na (((x.natAbs / y.natAbs:Nat):Int))),(7,VD Nb (((x.natAbs % y.natAbs:Nat):Int)))] st2 ⟨ks,ks,ks,ks,(kd2 fun _ _ Y _ v0 X0 v1 X1=>(cRDivided (show VD Na (x) v0 Y from X0) (show VD Nb (y) v1 Y from X1) hy (by omega) (by omega))),ks,ks,ks,ks,ks,trivial⟩ ?_
  intro a3 w3 st3
  clear st2
  repeat first|apply Wq|apply Wb|apply Wk|apply Wx
  refine rH [(31,2,0)] [Vpt a3 2 0,Vb (decide ((x)<0)),Vpt a3 3 0,Vb (decide ((y)<0)),Vb ((decide ((x)<0)) !=(decide ((y)<0))),VO Na (((x.natAbs / y.natAbs:Nat):Int)),Vz Na (sg ((decide ((x)<0)) !=(decide ((y)<0))) (((x.natAbs / y.natAbs:Nat):Int))),VT,VT] [⟨2,none,none,31,2,Vz Na (x),VT⟩,⟨3,none,none,31,2,Vz Nb (y),VT⟩,⟨4,none,none,31,2,VT,VT⟩,⟨5,none,none,31,2,VT,VT⟩,⟨8,some 7,some 8,31,2,Vz Na (sg ((decide ((x)<0)) !=(decide ((y)<0))) (((x.natAbs / y.natAbs:Nat):Int))),VT⟩] [(13,Vb (false)),(7,VD Nb (((x.natAbs % y.natAbs:Nat):Int)))] st3 ⟨ks,(k_cell (j:=0) (off:=0) SbB.out (by kernel_rfl) (.head _) rfl rfl rfl (by kernel_rfl) (by kernel_rfl) rfl (by kernel_rfl) (fun cs w h=>vz_N h) Tryz.underlying4 rfl fun listed A Y h D=>⟨trivial,trivial⟩),ks,(k_cell (j:=2) (off:=0) SbB.out (by kernel_rfl) (.tail _ (.head _)) rfl rfl rfl (by kernel_rfl) (by kernel_rfl) rfl (by kernel_rfl) (fun cs w h=>vz_N h) Tryz.underlying4 rfl fun listed A Y h D=>⟨trivial,trivial⟩),(kr2 25 27 fun _ _ _ _ _ x0 X0 _ x1 X1=>⟨_,run_neqb rfl (x0.trans X0) (x1.trans X1),rfl⟩),ks,(kd2 fun _ _ Y _ v0 X0 v1 X1=>cRNormalV X0 (show VO Na (((x.natAbs / y.natAbs:Nat):Int)) v1 Y from X1)),ks,ks,trivial⟩ ?_
  intro a4 w4 st4
  clear st3
  repeat first|apply Wq|apply Wb|apply Wk|apply Wx
  refine rH [(31,2,0)] [VD Nb (((x.natAbs % y.natAbs:Nat):Int)),Vz Nb (((x.natAbs % y.natAbs:Nat):Int)),VT,VT] [⟨2,none,none,31,2,Vz Na (x),VT⟩,⟨3,none,none,31,2,Vz Nb (y),VT⟩,⟨4,none,none,31,2,VT,VT⟩,⟨5,none,none,31,2,VT,VT⟩,⟨8,none,none,31,2,Vz Na (sg ((decide ((x)<0)) !=(decide ((y)<0))) (((x.natAbs / y.natAbs:Nat):Int))),VT⟩,⟨9,some 2,some 3,31,2,Vz Nb (((x.natAbs % y.natAbs:Nat):Int)),VT⟩] [(13,Vb (false))] st4 ⟨ks,(by refine kc fun _ A Y h D=>?_;obtain⟨v1,x1,X1⟩:=h.dp D 31;exact⟨#[.bool false,v1],by simp [x1,eval_const],cRNormalO (b:=false) (VD_On (show VD Nb (((x.natAbs % y.natAbs:Nat):Int)) v1 Y from X1))⟩),ks,ks,trivial⟩ ?_
  intro a5 w5 st5
  clear st4
  by_cases hx:x<0
  ·
   by_cases hr:0<((x.natAbs % y.natAbs:Nat):Int)
   ·
    repeat first|apply Wq|apply Wb|apply Wk|apply Wx
    refine rH [(31,2,0)] [Vpt a5 2 0,Vb (true),Vb (true),Vpt a5 9 1,VD Nb (((x.natAbs % y.natAbs:Nat):Int)),Vi (((digs (((x.natAbs % y.natAbs:Nat):Int)).natAbs).length:Int)),Vb (true),Vb (true)] [⟨2,none,none,31,2,Vz Na (x),VT⟩,⟨3,none,none,31,2,Vz Nb (y),VT⟩,⟨4,none,none,31,2,VT,VT⟩,⟨5,none,none,31,2,VT,VT⟩,⟨8,none,none,31,2,Vz Na (sg ((decide ((x)<0)) !=(decide ((y)<0))) (((x.natAbs / y.natAbs:Nat):Int))),VT⟩,⟨9,none,none,31,2,Vz Nb (((x.natAbs % y.natAbs:Nat):Int)),VT⟩] [(13,Vb (false)),(40,Vb (true))] st5 ⟨ks,(k_cell (j:=0) (off:=0) SbB.out (by kernel_rfl) (.head _) rfl rfl rfl (by kernel_rfl) (by kernel_rfl) rfl (by kernel_rfl) (fun cs w h=>vz_NT h (hx)) Tryz.underlying4 rfl fun listed A Y h D=>⟨trivial,trivial⟩),ks,ks,ks,(by refine kr fun _ A Y h D=>?_;obtain⟨v0,x0,X0⟩:=h.dp D 37;obtain⟨pp,nn,cc,rfl,hnn,-⟩:=X0;exact⟨_,run_len rfl rfl x0,by rw [hnn];rfl⟩),(by refine kr fun _ A Y h D=>?_;obtain⟨v0,x0,X0⟩:=h.dp D 38;have hV0':v0= .int .i64 (((digs (((x.natAbs % y.natAbs:Nat):Int)).natAbs).length:Int)):=X0;exact⟨_,run_gtri rfl (x0.trans hV0') rfl,congrArg Value.bool (by rw [len_gt0 _ (Int.natCast_nonneg _)];exact dT hr)⟩),ks,trivial⟩ ?_
    intro a6 w6 st6
    clear st5
    repeat first|apply Wq|apply Wb|apply Wk|apply Wx
    refine cT st6 ?_
    repeat first|apply Wq|apply Wb|apply Wk|apply Wx
    refine rH [(31,2,0)] [Vz Na (sg ((decide ((x)<0)) !=(decide ((y)<0))) (((x.natAbs / y.natAbs:Nat):Int))),Vpt a6 2 0,Vb (decide ((x)<0)),Vpt a6 3 0,Vb (decide ((y)<0)),Vb ((decide ((x)<0)) !=(decide ((y)<0))),VO 1 (1),Vz 1 (sg ((decide ((x)<0)) !=(decide ((y)<0))) (1)),Vz (max Na 1+1) ((sg ((decide ((x)<0)) !=(decide ((y)<0))) (((x.natAbs / y.natAbs:Nat):Int)))+(sg ((decide ((x)<0)) !=(decide ((y)<0))) (1))),VT] [⟨2,none,none,31,2,Vz Na (x),VT⟩,⟨3,none,none,31,2,Vz Nb (y),VT⟩,⟨4,none,none,31,2,VT,VT⟩,⟨5,none,none,31,2,VT,VT⟩,⟨8,none,some 9,31,2,Vz (max Na 1+1) ((sg ((decide ((x)<0)) !=(decide ((y)<0))) (((x.natAbs / y.natAbs:Nat):Int)))+(sg ((decide ((x)<0)) !=(decide ((y)<0))) (1))),Vz Na (sg ((decide ((x)<0)) !=(decide ((y)<0))) (((x.natAbs / y.natAbs:Nat):Int)))⟩,⟨9,none,none,31,2,Vz Nb (((x.natAbs % y.natAbs:Nat):Int)),VT⟩] [(13,Vb (false)),(40,Vb (true))] st6 ⟨ks,ks,(k_cell (j:=1) (off:=0) SbB.out (by kernel_rfl) (.head _) rfl rfl rfl (by kernel_rfl) (by kernel_rfl) rfl (by kernel_rfl) (fun cs w h=>vz_N h) Tryz.underlying4 rfl fun listed A Y h D=>⟨trivial,trivial⟩),ks,(k_cell (j:=3) (off:=0) SbB.out (by kernel_rfl) (.tail _ (.head _)) rfl rfl rfl (by kernel_rfl) (by kernel_rfl) rfl (by kernel_rfl) (fun cs w h=>vz_N h) Tryz.underlying4 rfl fun listed A Y h D=>⟨trivial,trivial⟩),(kr2 43 45 fun _ _ _ _ _ x0 X0 _ x1 X1=>⟨_,run_neqb rfl (x0.trans X0) (x1.trans X1),rfl⟩),(km fun _ A Y h D=>bslice_one rfl rfl (by omega) (by omega)),(kd2 fun _ _ Y _ v0 X0 v1 X1=>cRNormalV X0 (show VO 1 (1) v1 Y from X1)),(kd2 fun _ _ _ _ _ X0 _ X1=>(cRAdd X0 X1 (by omega) (by omega))),ks,trivial⟩ ?_
    intro a7 w7 st7
    clear st6
    repeat first|apply Wq|apply Wb|apply Wk|apply Wx
    refine rH [(31,2,0)] [Vpt a7 3 1,VD Nb (y),Vpt a7 9 1,VD Nb (((x.natAbs % y.natAbs:Nat):Int)),VO Nb ((((y).natAbs:Nat):Int) - (((x.natAbs % y.natAbs:Nat):Int))),Vz Nb ((((y).natAbs:Nat):Int) - (((x.natAbs % y.natAbs:Nat):Int))),VT] [⟨2,none,none,31,2,Vz Na (x),VT⟩,⟨3,none,none,31,2,Vz Nb (y),VT⟩,⟨4,none,none,31,2,VT,VT⟩,⟨5,none,none,31,2,VT,VT⟩,⟨8,none,none,31,2,Vz (max Na 1+1) ((sg ((decide ((x)<0)) !=(decide ((y)<0))) (((x.natAbs / y.natAbs:Nat):Int)))+(sg ((decide ((x)<0)) !=(decide ((y)<0))) (1))),VT⟩,⟨9,none,some 6,31,2,Vz Nb ((((y).natAbs:Nat):Int) - (((x.natAbs % y.natAbs:Nat):Int))),Vz Nb (((x.natAbs % y.natAbs:Nat):Int))⟩] [(13,Vb (false)),(40,Vb (true))] st7 ⟨ks,ks,ks,(k_cell0 (j:=2) (off:=1) SbB.out (by kernel_rfl) (.tail _ (.tail _ (.tail _ (.tail _ (.tail _ (.head _)))))) rfl rfl rfl (by kernel_rfl) (by kernel_rfl) (by kernel_rfl) rfl (by kernel_rfl) (fun cs w h=>vz_D h) Tryz.underlying22 rfl fun listed A Y h D=>⟨trivial,trivial⟩),(kd2 fun _ _ Y _ v0 X0 v1 X1=>cRMinusN (show VD Nb (y) v0 Y from X0) (show VD Nb (((x.natAbs % y.natAbs:Nat):Int)) v1 Y from X1) (mod_le hy) (by omega)),(by refine kc fun _ A Y h D=>?_;obtain⟨v1,x1,X1⟩:=h.dp D 54;exact⟨#[.bool false,v1],by simp [x1,eval_const],cRNormalO (b:=false) (show VO Nb ((((y).natAbs:Nat):Int) - (((x.natAbs % y.natAbs:Nat):Int))) v1 Y from X1)⟩),ks,trivial⟩ ?_
    intro a8 w8 st8
    clear st7
    repeat first|apply Wq|apply Wb|apply Wk|apply Wx
    refine rH [(31,2,0)] [Vz (max Na 1+1) ((sg ((decide ((x)<0)) !=(decide ((y)<0))) (((x.natAbs / y.natAbs:Nat):Int)))+(sg ((decide ((x)<0)) !=(decide ((y)<0))) (1))),Vz Nb ((((y).natAbs:Nat):Int) - (((x.natAbs % y.natAbs:Nat):Int))),VT,VT] [⟨2,none,none,31,2,Vz Na (x),VT⟩,⟨3,none,none,31,2,Vz Nb (y),VT⟩,⟨4,none,some 2,31,2,Vz (max Na 1+1) ((sg ((decide ((x)<0)) !=(decide ((y)<0))) (((x.natAbs / y.natAbs:Nat):Int)))+(sg ((decide ((x)<0)) !=(decide ((y)<0))) (1))),VT⟩,⟨5,none,some 3,31,2,Vz Nb ((((y).natAbs:Nat):Int) - (((x.natAbs % y.natAbs:Nat):Int))),VT⟩,⟨8,none,none,31,2,Vz (max Na 1+1) ((sg ((decide ((x)<0)) !=(decide ((y)<0))) (((x.natAbs / y.natAbs:Nat):Int)))+(sg ((decide ((x)<0)) !=(decide ((y)<0))) (1))),VT⟩,⟨9,none,none,31,2,Vz Nb ((((y).natAbs:Nat):Int) - (((x.natAbs % y.natAbs:Nat):Int))),VT⟩] [(13,Vb (false)),(40,Vb (true))] st8 ⟨ks,ks,ks,ks,trivial⟩ ?_
    intro a9 w9 st9
    clear st8
    repeat first|apply Wq|apply Wb|apply Wk|apply Wx
    obtain⟨g,cs,r1,r2,r3,r4,r5⟩:=st9.res ⟨4,none,none,31,2,Vz (max Na 1+1) ((sg ((decide ((x)<0)) !=(decide ((y)<0))) (((x.natAbs / y.natAbs:Nat):Int)))+(sg ((decide ((x)<0)) !=(decide ((y)<0))) (1))),VT⟩ (.tail _ (.tail _ (.head _))) rfl rfl
    obtain⟨g2,cs2,p1,p2,p3,p4,p5⟩:=st9.res ⟨5,none,none,31,2,Vz Nb ((((y).natAbs:Nat):Int) - (((x.natAbs % y.natAbs:Nat):Int))),VT⟩ (.tail _ (.tail _ (.tail _ (.head _)))) rfl rfl
    exact wp_ret (bodyPost_ret (results_cell2 rfl _ _ g g2 31 cs cs2 (0,0) (0,0) _ r1 p1 r2 p2 Tryz.underlying31 rfl (by rw [r3];exact size_Int) (by rw [p3];exact size_Int)) st9.defers ⟨_,rfl,⟨_,_,rfl,⟨Vz_le (by rw [((rdiv_m hy).1 hx hr).1,<-sg_add];exact r4) (by omega),by rw [((rdiv_m hy).1 hx hr).2];exact p4⟩⟩,r5⟩)
   ·
    repeat first|apply Wq|apply Wb|apply Wk|apply Wx
    refine rH [(31,2,0)] [Vpt a5 2 0,Vb (true),Vb (true),Vpt a5 9 1,VD Nb (((x.natAbs % y.natAbs:Nat):Int)),Vi (((digs (((x.natAbs % y.natAbs:Nat):Int)).natAbs).length:Int)),Vb (false),Vb (false)] [⟨2,none,none,31,2,Vz Na (x),VT⟩,⟨3,none,none,31,2,Vz Nb (y),VT⟩,⟨4,none,none,31,2,VT,VT⟩,⟨5,none,none,31,2,VT,VT⟩,⟨8,none,none,31,2,Vz Na (sg ((decide ((x)<0)) !=(decide ((y)<0))) (((x.natAbs / y.natAbs:Nat):Int))),VT⟩,⟨9,none,none,31,2,Vz Nb (((x.natAbs % y.natAbs:Nat):Int)),VT⟩] [(13,Vb (false)),(40,Vb (false))] st5 ⟨ks,(k_cell (j:=0) (off:=0) SbB.out (by kernel_rfl) (.head _) rfl rfl rfl (by kernel_rfl) (by kernel_rfl) rfl (by kernel_rfl) (fun cs w h=>vz_NT h (hx)) Tryz.underlying4 rfl fun listed A Y h D=>⟨trivial,trivial⟩),ks,ks,ks,(by refine kr fun _ A Y h D=>?_;obtain⟨v0,x0,X0⟩:=h.dp D 37;obtain⟨pp,nn,cc,rfl,hnn,-⟩:=X0;exact⟨_,run_len rfl rfl x0,by rw [hnn];rfl⟩),(by refine kr fun _ A Y h D=>?_;obtain⟨v0,x0,X0⟩:=h.dp D 38;have hV0':v0= .int .i64 (((digs (((x.natAbs % y.natAbs:Nat):Int)).natAbs).length:Int)):=X0;exact⟨_,run_gtri rfl (x0.trans hV0') rfl,congrArg Value.bool (by rw [len_gt0 _ (Int.natCast_nonneg _)];exact dF hr)⟩),ks,trivial⟩ ?_
    intro a6 w6 st6
    clear st5
    repeat first|apply Wq|apply Wb|apply Wk|apply Wx
    refine cF st6 ?_
    repeat first|apply Wq|apply Wb|apply Wk|apply Wx
    refine rH [(31,2,0)] [Vz Na (sg ((decide ((x)<0)) !=(decide ((y)<0))) (((x.natAbs / y.natAbs:Nat):Int))),Vz Nb (((x.natAbs % y.natAbs:Nat):Int)),VT,VT] [⟨2,none,none,31,2,Vz Na (x),VT⟩,⟨3,none,none,31,2,Vz Nb (y),VT⟩,⟨4,none,some 2,31,2,Vz Na (sg ((decide ((x)<0)) !=(decide ((y)<0))) (((x.natAbs / y.natAbs:Nat):Int))),VT⟩,⟨5,none,some 3,31,2,Vz Nb (((x.natAbs % y.natAbs:Nat):Int)),VT⟩,⟨8,none,none,31,2,Vz Na (sg ((decide ((x)<0)) !=(decide ((y)<0))) (((x.natAbs / y.natAbs:Nat):Int))),VT⟩,⟨9,none,none,31,2,Vz Nb (((x.natAbs % y.natAbs:Nat):Int)),VT⟩] [(13,Vb (false)),(40,Vb (false))] st6 ⟨ks,ks,ks,ks,trivial⟩ ?_
    intro a7 w7 st7
    clear st6
    repeat first|apply Wq|apply Wb|apply Wk|apply Wx
    obtain⟨g,cs,r1,r2,r3,r4,r5⟩:=st7.res ⟨4,none,none,31,2,Vz Na (sg ((decide ((x)<0)) !=(decide ((y)<0))) (((x.natAbs / y.natAbs:Nat):Int))),VT⟩ (.tail _ (.tail _ (.head _))) rfl rfl
    obtain⟨g2,cs2,p1,p2,p3,p4,p5⟩:=st7.res ⟨5,none,none,31,2,Vz Nb (((x.natAbs % y.natAbs:Nat):Int)),VT⟩ (.tail _ (.tail _ (.tail _ (.head _)))) rfl rfl
    exact wp_ret (bodyPost_ret (results_cell2 rfl _ _ g g2 31 cs cs2 (0,0) (0,0) _ r1 p1 r2 p2 Tryz.underlying31 rfl (by rw [r3];exact size_Int) (by rw [p3];exact size_Int)) st7.defers ⟨_,rfl,⟨_,_,rfl,⟨Vz_le (by rw [((rdiv_m hy).2 (by exact fun h=>hr h.2)).1];exact r4) (by omega),by rw [((rdiv_m hy).2 (by exact fun h=>hr h.2)).2];exact p4⟩⟩,r5⟩)
  ·
   repeat first|apply Wq|apply Wb|apply Wk|apply Wx
   refine rH [(31,2,0)] [Vpt a5 2 0,Vb (false),Vb (false),VT,VT,VT,VT,Vb (false)] [⟨2,none,none,31,2,Vz Na (x),VT⟩,⟨3,none,none,31,2,Vz Nb (y),VT⟩,⟨4,none,none,31,2,VT,VT⟩,⟨5,none,none,31,2,VT,VT⟩,⟨8,none,none,31,2,Vz Na (sg ((decide ((x)<0)) !=(decide ((y)<0))) (((x.natAbs / y.natAbs:Nat):Int))),VT⟩,⟨9,none,none,31,2,Vz Nb (((x.natAbs % y.natAbs:Nat):Int)),VT⟩] [(13,Vb (false)),(40,Vb (false))] st5 ⟨ks,(k_cell (j:=0) (off:=0) SbB.out (by kernel_rfl) (.head _) rfl rfl rfl (by kernel_rfl) (by kernel_rfl) rfl (by kernel_rfl) (fun cs w h=>vz_NF h (hx)) Tryz.underlying4 rfl fun listed A Y h D=>⟨trivial,trivial⟩),ks,ks,ks,ks,ks,ks,trivial⟩ ?_
   intro a6 w6 st6
   clear st5
   repeat first|apply Wq|apply Wb|apply Wk|apply Wx
   refine cF st6 ?_
   repeat first|apply Wq|apply Wb|apply Wk|apply Wx
   refine rH [(31,2,0)] [Vz Na (sg ((decide ((x)<0)) !=(decide ((y)<0))) (((x.natAbs / y.natAbs:Nat):Int))),Vz Nb (((x.natAbs % y.natAbs:Nat):Int)),VT,VT] [⟨2,none,none,31,2,Vz Na (x),VT⟩,⟨3,none,none,31,2,Vz Nb (y),VT⟩,⟨4,none,some 2,31,2,Vz Na (sg ((decide ((x)<0)) !=(decide ((y)<0))) (((x.natAbs / y.natAbs:Nat):Int))),VT⟩,⟨5,none,some 3,31,2,Vz Nb (((x.natAbs % y.natAbs:Nat):Int)),VT⟩,⟨8,none,none,31,2,Vz Na (sg ((decide ((x)<0)) !=(decide ((y)<0))) (((x.natAbs / y.natAbs:Nat):Int))),VT⟩,⟨9,none,none,31,2,Vz Nb (((x.natAbs % y.natAbs:Nat):Int)),VT⟩] [(13,Vb (false)),(40,Vb (false))] st6 ⟨ks,ks,ks,ks,trivial⟩ ?_
   intro a7 w7 st7
   clear st6
   repeat first|apply Wq|apply Wb|apply Wk|apply Wx
   obtain⟨g,cs,r1,r2,r3,r4,r5⟩:=st7.res ⟨4,none,none,31,2,Vz Na (sg ((decide ((x)<0)) !=(decide ((y)<0))) (((x.natAbs / y.natAbs:Nat):Int))),VT⟩ (.tail _ (.tail _ (.head _))) rfl rfl
   obtain⟨g2,cs2,p1,p2,p3,p4,p5⟩:=st7.res ⟨5,none,none,31,2,Vz Nb (((x.natAbs % y.natAbs:Nat):Int)),VT⟩ (.tail _ (.tail _ (.tail _ (.head _)))) rfl rfl
   exact wp_ret (bodyPost_ret (results_cell2 rfl _ _ g g2 31 cs cs2 (0,0) (0,0) _ r1 p1 r2 p2 Tryz.underlying31 rfl (by rw [r3];exact size_Int) (by rw [p3];exact size_Int)) st7.defers ⟨_,rfl,⟨_,_,rfl,⟨Vz_le (by rw [((rdiv_m hy).2 (by exact fun h=>hx h.1)).1];exact r4) (by omega),by rw [((rdiv_m hy).2 (by exact fun h=>hx h.1)).2];exact p4⟩⟩,r5⟩)
end Go.Proofs.YtjdkdjobaabdiaaGreat
