/- Contracts of the packages integer, rat, plane, polygon and their references. -/
import Derived.Test.YteacdbgalloaiaaGreatB9
import Derived.Test.YteacdbgalloaiaaGreatB10
import Derived.Test.YteacdbgalloaiaaGreatB5
import Derived.Test.YteacdbgalloaiaaGreatB4
import Derived.Test.YteacdbgalloaiaaGreatB8
import Derived.Deep.LoopGhost
set_option linter.unusedVariables false
set_option maxRecDepth 100000
set_option maxHeartbeats 6400000
namespace Go.Proofs.YteacdbgalloaiaaGreat
open Go.RowKit
theorem rNeg_any (nx:Bool)(px:Option Addr)(lx cx:Nat)(x:Int)(w:World)(hx0:IntZ w nx px lx cx x):
 Calls Tryz.prog 120 #[.agg #[.bool nx,.slice px lx cx]] w fun e w'=>∃nb p n c,e= .returned (.agg #[.bool nb,.slice p n c])/\IntAt w' nb p n c (-x)/\Below w.heap.size w w':=by
 have hsg:sg (!nx) (val (digs x.natAbs))= -x:=by
  rw [val_digs];have h1:=wk_neg hx0.1;cases nx<;>simp [sg] at*<;>omega
 have hn:Hid (∀W,Ar1 w nx px lx cx W->Calls Tryz.prog 122 #[.bool (!nx),.slice px lx cx] W (RetF (fun q=>px=some q) W (-x))):=hIq fun W h=>by
  rw [<-hsg];exact normal_any (!nx) px lx cx (digs x.natAbs) W (Rdi_below h.2.2 hx0.2.2.1) hx0.2.1 hx0.2.2.2.1 hx0.2.2.2.2 (Dg_digs _)
 have hps:Hid (∀q,px=some q->∀(l:List Int),Rdi w px l->l≠ []->q.block<w.heap.size):=hIq fun q hq l hR hl=>by
  rcases hR with h|⟨b,o,h,hc⟩
  ·exact absurd h hl
  ·rw [hq] at h;have h0:=hc 0 (by cases l with|nil=>exact absurd rfl hl|cons _ _=>simp);obtain rfl:=Option.some.inj h;rcases Nat.lt_or_ge b w.heap.size with h1|h1
   ·exact h1
   ·simp [World.cell?,Array.getElem?_eq_none h1] at h0
 have hS0:=hIq (@Ar1.start nx px lx cx w);have hx:=hIq hx0;clear hx0 hsg
 go_enter Tryz.func120,Tryz.ntmps120
 go_upto_region 1 with fail
 generalize(w.alloc (.cells #[.bool nx,.slice px lx cx] 28)).alloc (.cells #[.bool false,.slice none 0 0] 28)=W0 at hS0 ⊢;have hS1:=hS0.out;have hf:=hS1.facts;go_wp2_with fail
 refine(hn.out _ hS1).mono ?_
 rintro e w2 ⟨nb,p,n2,c2,rfl,hI0,hb2,hp0⟩
 have hS2:=hS1.later hb2;have hf2:=hS2.facts;have hI:=hIq hI0
 have hfin:Hid (IntAt ((w2.setCell ⟨w.heap.size+1,0,none⟩ (.bool nb)).setCell ⟨w.heap.size+1,1,none⟩ (.slice p n2 c2)) nb p n2 c2 (-x)/\Below w.heap.size w ((w2.setCell ⟨w.heap.size+1,0,none⟩ (.bool nb)).setCell ⟨w.heap.size+1,1,none⟩ (.slice p n2 c2))):=hIq ⟨by
  by_cases hz:digs (-x).natAbs= []
  ·exact⟨hI0.1,hI0.2.1,by rw [hz];exact .inl rfl,hI0.2.2.2⟩
  ·have hne:∀q,p=some q->q.block≠w.heap.size+1:=fun q hq=>by
    have h1:=hp0 q hq;have h2:digs x.natAbs≠ []:=by rw [Int.natAbs_neg] at hz;exact hz
    have:=hps.out q h1 _ hx.out.2.2.1 h2;omega
   exact(hI0.store hne).store hne,(hS2.store _ _).2.2⟩
 clear hI0 hp0 hb2 hf;go_wp2_with fail
 exact bodyPost_ret (v:= .agg #[.bool nb,.slice p n2 c2]) (results_cell_row rfl _ _ (w.heap.size+1) 28 _ (0,0) _ rfl (hS2.res _ _) Tryz.underlying28 rfl size_Int) rfl ⟨_,_,_,_,rfl,hfin.out.1,hfin.out.2⟩
theorem rCompare_any (nx ny:Bool)(px py:Option Addr)(lx cx ly cy:Nat)(x y:Int)(w:World)(hx0:IntAt w nx px lx cx x)(hy0:IntAt w ny py ly cy y)(hlx:lx<=549755813887)(hly:ly<=549755813887):
 Calls Tryz.prog 94 #[.agg #[.bool nx,.slice px lx cx],.agg #[.bool ny,.slice py ly cy]] w fun e w'=>e= .returned (.int .i64 (cmpI x y))/\Below w.heap.size w w':=by
 have hb:Below w.heap.size w ((w.alloc (.cells #[.bool nx,.slice px lx cx] 28)).alloc (.cells #[.bool ny,.slice py ly cy] 28)):=((Below.refl _ _).alloc (Nat.le_refl _) _).alloc (by simp) _;have hb':=hIq hb
 have h1:Hid (∀W,Below w.heap.size w W->Calls Tryz.prog 128 #[.slice px lx cx,.slice py ly cy] W fun e w'=>e= .returned (.int .i64 (cmpI x.natAbs y.natAbs))/\Below W.heap.size W w'):=
  hIq fun W h=>compared_any _ _ _ _ _ _ _ _ W (Rdi_below h hx0.2.2.1) (Rdi_below h hy0.2.2.1) hx0.2.1 hy0.2.1 (by omega) (by omega)
 have h2:Hid (∀W,Below w.heap.size w W->Calls Tryz.prog 128 #[.slice py ly cy,.slice px lx cx] W fun e w'=>e= .returned (.int .i64 (cmpI y.natAbs x.natAbs))/\Below W.heap.size W w'):=
  hIq fun W h=>compared_any _ _ _ _ _ _ _ _ W (Rdi_below h hy0.2.2.1) (Rdi_below h hx0.2.2.1) hy0.2.1 hx0.2.1 (by omega) (by omega)
 have hnx:=hx0.1;have hny:=hy0.1;obtain⟨r,hr⟩:∃r,cmpI x y=r:=⟨_,rfl⟩;rw [hr];clear hx0 hy0 hb;cases nx<;>cases ny
 ·have e1:¬x<0:=by simpa using hnx.symm
  have e2:¬y<0:=by simpa using hny.symm
  rw [cmp_abs_pos e1 e2,hr] at h1;clear hnx hny hr h2
  go_enter Tryz.func94,Tryz.ntmps94
  go_wp2_with (go_at_call 128;refine(h1.out _ hb'.out).mono ?_;rintro e w1 ⟨rfl,hb1⟩;have hB:=hIq (below_tr hb'.out hb1);clear hb1)
  go_ret
  exact⟨rfl,hB.out⟩
 ·have e1:¬x<0:=by simpa using hnx.symm
  have e2:y<0:=by simpa using hny.symm
  rw [cmp_gt (show y<x by omega)] at hr;subst hr;clear hnx hny h1 h2 e1 e2
  go_enter Tryz.func94,Tryz.ntmps94
  go_wp2_with fail
  go_ret
  exact⟨rfl,hb'.out⟩
 ·have e1:x<0:=by simpa using hnx.symm
  have e2:¬y<0:=by simpa using hny.symm
  rw [cmp_lt (show x<y by omega)] at hr;subst hr;clear hnx hny h1 h2 e1 e2
  go_enter Tryz.func94,Tryz.ntmps94
  go_wp2_with fail
  go_ret
  exact⟨rfl,hb'.out⟩
 ·have e1:x<0:=by simpa using hnx.symm
  have e2:y<0:=by simpa using hny.symm
  rw [cmp_abs_neg e1 e2,hr] at h2;clear hnx hny hr h1
  go_enter Tryz.func94,Tryz.ntmps94
  go_wp2_with (go_at_call 128;refine(h2.out _ hb'.out).mono ?_;rintro e w1 ⟨rfl,hb1⟩;have hB:=hIq (below_tr hb'.out hb1);clear hb1)
  go_ret
  exact⟨rfl,hB.out⟩
theorem rSign_any (nx:Bool)(px:Option Addr)(lx cx:Nat)(x:Int)(w:World)(hx0:IntAt w nx px lx cx x)(hlx:lx<=549755813887):
 Calls Tryz.prog 116 #[.agg #[.bool nx,.slice px lx cx]] w fun e w'=>e= .returned (.int .i64 (cmpI x 0))/\Below w.heap.size w w':=by
 have hc:Hid (∀W,Below w.heap.size w W->Calls Tryz.prog 94 #[.agg #[.bool nx,.slice px lx cx],.agg #[.bool false,.slice none 0 0]] W fun e w'=>e= .returned (.int .i64 (cmpI x 0))/\Below W.heap.size W w'):=
  hIq fun W h=>rCompare_any _ _ _ _ _ _ _ _ x 0 W (hx0.later h) (IntAt_zero _ _ _ (by omega)) hlx (by omega)
 obtain⟨r,hr⟩:∃r,cmpI x 0=r:=⟨_,rfl⟩;rw [hr] at hc ⊢;clear hx0 hr
 go_enter Tryz.func116,Tryz.ntmps116
 go_wp2_with (go_at_call 94;refine(hc.out _ (below_new _ _)).mono ?_;rintro e w1 ⟨rfl,hb1⟩;have hB:=hIq (below_tr (below_new _ _) hb1);clear hb1)
 go_ret
 exact⟨rfl,hB.out⟩
section
variable {W:World}{Na Nb:Nat}{a b:Int}{v1 v2:Value}
theorem cRAdd (h1:Vz Na a v1 W)(h2:Vz Nb b v2 W)(hN1:Na<=1000000:=by omega)(hN2:Nb<=1000000:=by omega):Calls Tryz.prog 117 #[v1,v2] W (RV (Vz (max Na Nb+1) (a+b)) W):=by
 obtain⟨nb,p,n,c,rfl,hI,hn⟩:=h1;obtain⟨nb2,p2,n2,c2,rfl,hI2,hn2⟩:=h2;exact(rAdd_any _ _ _ _ _ _ _ _ a b W hI.z hI2.z (by omega) (by omega)).mono fun e w' h=>retI_vz h (dl_add a b Na Nb (by rw [<-hI.2.1];exact hn) (by rw [<-hI2.2.1];exact hn2))
theorem cRMul (h1:Vz Na a v1 W)(h2:Vz Nb b v2 W)(hN1:Na<=1000000:=by omega)(hN2:Nb<=1000000:=by omega):Calls Tryz.prog 95 #[v1,v2] W (RV (Vz (Na+Nb) (a*b)) W):=by
 obtain⟨nb,p,n,c,rfl,hI,hn⟩:=h1;obtain⟨nb2,p2,n2,c2,rfl,hI2,hn2⟩:=h2;exact(rMul_any _ _ _ _ _ _ _ _ a b W hI.z hI2.z (by omega) (by omega)).mono fun e w' h=>retI_vz h (dl_mul a b Na Nb (by rw [<-hI.2.1];exact hn) (by rw [<-hI2.2.1];exact hn2))
theorem cRNeg (h1:Vz Na a v1 W):Calls Tryz.prog 120 #[v1] W (RV (Vz Na (-a)) W):=by
 obtain⟨nb,p,n,c,rfl,hI,hn⟩:=h1;exact(rNeg_any _ _ _ _ a W hI.z).mono fun e w' ⟨nb2,p2,n2,c2,he,h2,hb⟩=>⟨_,he,⟨_,_,_,_,rfl,h2,by rw [h2.2.1,Int.natAbs_neg,<-hI.2.1];exact hn⟩,hb⟩
theorem cRCompare (h1:Vz Na a v1 W)(h2:Vz Nb b v2 W)(hN1:Na<=1000000:=by omega)(hN2:Nb<=1000000:=by omega):Calls Tryz.prog 94 #[v1,v2] W (RV (Vi (cmpI a b)) W):=by
 obtain⟨nb,p,n,c,rfl,hI,hn⟩:=h1;obtain⟨nb2,p2,n2,c2,rfl,hI2,hn2⟩:=h2;exact(rCompare_any _ _ _ _ _ _ _ _ a b W hI hI2 (by omega) (by omega)).mono fun e w' h=>⟨_,h.1,rfl,h.2⟩
theorem cRSign (h1:Vz Na a v1 W)(hN1:Na<=1000000:=by omega):Calls Tryz.prog 116 #[v1] W (RV (Vi (cmpI a 0)) W):=by
 obtain⟨nb,p,n,c,rfl,hI,hn⟩:=h1;exact(rSign_any _ _ _ _ a W hI (by omega)).mono fun e w' h=>⟨_,h.1,rfl,h.2⟩
end
theorem cRDivided {W:World}{Na Nb:Nat}{x y:Int}{v1 v2:Value}(h1:VD Na x v1 W)(h2:VD Nb y v2 W)(hy:y≠0:=by omega)(hNa:Na<=1000000:=by omega)(hNb:Nb<=1000000:=by omega):
 Calls Tryz.prog 142 #[v1,v2] W (RV (VTup (VO Na ((x.natAbs / y.natAbs:Nat):Int)) (VD Nb ((x.natAbs % y.natAbs:Nat):Int))) W):=by
 obtain⟨p,n,c,rfl,hn,hR,hnc,hc,hnN⟩:=h1;obtain⟨p2,n2,c2,rfl,hn2,hR2,hnc2,hc2,hnN2⟩:=h2;refine(rdivided_any p p2 n c n2 c2 x.natAbs y.natAbs W hR hR2 hn hn2 hnc hc hnc2 hc2 (by omega) (by omega) (by omega)).mono fun e w' h=>?_
 obtain⟨q1,m1,k1,O,q2,m2,k2,r,he,hO,hm1,hmk,hk1,hdO,hv,hr,hr2,hm2,hmk2,hk2,hml,hb,-⟩:=h
 have hv':val O=((x.natAbs / y.natAbs:Nat):Int)/\r=x.natAbs % y.natAbs:=by
  have h0:=hdO.lo;obtain⟨V,hV⟩:∃V:Nat,val O=V:=⟨(val O).toNat,by omega⟩;rw [hV] at hv ⊢
  have e1:x.natAbs=V*y.natAbs+r:=by
   have:((V*y.natAbs+r:Nat):Int)=(x.natAbs:Int):=by rw [Int.natCast_add,Int.natCast_mul];exact hv
   omega
  have e2:x.natAbs / y.natAbs=V:=by rw [e1,Nat.mul_comm,Nat.mul_add_div (by omega),Nat.div_eq_of_lt hr];omega
  have e3:x.natAbs % y.natAbs=r:=by rw [e1,Nat.mul_comm,Nat.mul_add_mod,Nat.mod_eq_of_lt hr]
  exact⟨by rw [e2],e3.symm⟩
 refine⟨_,he,⟨_,_,rfl,⟨q1,m1,k1,O,rfl,hm1,hO,hmk,hk1,hdO,hv'.1,by omega⟩,⟨q2,m2,k2,rfl,?_,?_,hmk2,hk2,?_⟩⟩,hb⟩
 ·rw [Int.natAbs_natCast,<-hv'.2];exact hm2
 ·rw [Int.natAbs_natCast,<-hv'.2];exact hr2
 ·have:=digs_len_mono (a:=r) (b:=y.natAbs) (by omega);omega
theorem len_sgval {l:List Int}{N:Nat}(D:Dg l)(h:l.length<=N)(b:Bool):(digs (sg b (val l)).natAbs).length<=N:=by
 have h1:=rt_len' D;have:(sg b (val l)).natAbs=(val l).natAbs:=by cases b<;>simp [sg]
 rw [this];omega
theorem cRNormalO {W:World}{N:Nat}{e:Int}{b:Bool}{v:Value}(h:VO N e v W):Calls Tryz.prog 122 #[.bool b,v] W (RV (Vz N (sg b e)) W):=by
 obtain⟨p,n,c,l,rfl,hn,hR,hnc,hc,D,rfl,hN⟩:=h;exact(normal_any b p n c l W hR hn hnc hc D).mono fun e w' ⟨nb,q,m,k,he,hI,hb,_⟩=>⟨_,he,⟨nb,q,m,k,rfl,hI,by rw [hI.2.1];exact len_sgval D (by omega) b⟩,hb⟩
theorem VD_O {N:Nat}{e:Int}{v:Value}{w:World}(h:VD N e v w):VO N (e.natAbs:Int) v w:=by
 obtain⟨p,n,c,h1,h2,h3,h4,h5,h6⟩:=h;exact⟨p,n,c,_,h1,h2,h3,h4,h5,Dg_digs _,val_digs _,h6⟩
theorem cRNormalV {W:World}{N:Nat}{e:Int}{b:Bool}{vb v:Value}(hb:Vb b vb W)(h:VO N e v W):Calls Tryz.prog 122 #[vb,v] W (RV (Vz N (sg b e)) W):=by
 obtain rfl:=hb;exact cRNormalO h
theorem cRMinus {W:World}{Na Nb:Nat}{x y:Int}{v1 v2:Value}(h1:VD Na x v1 W)(h2:VD Nb y v2 W)(hxy:y.natAbs<=x.natAbs:=by omega)(hNa:Na<=1000000:=by omega):
 Calls Tryz.prog 140 #[v1,v2] W (RV (VO Na ((x.natAbs:Int) - (y.natAbs:Int))) W):=by
 obtain⟨p,n,c,rfl,hn,hR,hnc,hc,hnN⟩:=h1;obtain⟨p2,n2,c2,rfl,hn2,hR2,hnc2,hc2,hnN2⟩:=h2;have hl:=digs_len_mono hxy;refine(minus_any p p2 n c n2 c2 _ _ W hR hR2 hn hn2 (Dg_digs _) (Dg_digs _) (by omega) (by omega) (by rw [val_digs,val_digs];omega)).mono fun e w' h=>?_
 obtain⟨q,m,k,z,he,hRz,hl,hmk,hk,-,hb,D,hv,hlen⟩:=h;exact⟨_,he,⟨q,m,k,z,rfl,hl.symm,hRz,hmk,hk,D,by rw [hv,val_digs,val_digs],by omega⟩,hb⟩
theorem VD_On {N n:Nat}{v:Value}{w:World}(h:VD N (n:Int) v w):VO N (n:Int) v w:=by
 have:=VD_O h;rwa [Int.natAbs_natCast] at this
theorem cRMinusN {W:World}{Na Nb n:Nat}{x:Int}{v1 v2:Value}(h1:VD Na x v1 W)(h2:VD Nb (n:Int) v2 W)(hxy:n<=x.natAbs:=by omega)(hNa:Na<=1000000:=by omega):
 Calls Tryz.prog 140 #[v1,v2] W (RV (VO Na ((x.natAbs:Int) - (n:Int))) W):=by
 have:=cRMinus h1 h2 (by rw [Int.natAbs_natCast];exact hxy) hNa;rwa [Int.natAbs_natCast] at this
theorem sg_add (b:Bool)(p q:Int):sg b p+sg b q=sg b (p+q):=by cases b<;>simp [sg]<;>omega
theorem mod_le {x y:Int}(hy:y≠0):x.natAbs % y.natAbs<=y.natAbs:=Nat.le_of_lt (Nat.mod_lt _ (by omega))
theorem rdiv_m {x y:Int}(hy:y≠0):
 (x<0->0<((x.natAbs % y.natAbs:Nat):Int)->dq x y=sg (decide (x<0) !=decide (y<0)) (((x.natAbs / y.natAbs:Nat):Int)+1)/\dr x y=(y.natAbs:Int) - ((x.natAbs % y.natAbs:Nat):Int))/\
 (¬(x<0/\0<((x.natAbs % y.natAbs:Nat):Int))->dq x y=sg (decide (x<0) !=decide (y<0)) ((x.natAbs / y.natAbs:Nat):Int)/\dr x y=((x.natAbs % y.natAbs:Nat):Int)):=by
 refine div_math hy ?_ (Int.natCast_nonneg _) ?_
 ·rw [<-Int.natCast_mul,<-Int.natCast_add,Nat.div_add_mod]
 ·exact Int.ofNat_lt.2 (Nat.mod_lt _ (by omega))
theorem len_gt0 (n:Int)(hn:0<=n):decide (0<((digs n.natAbs).length:Int))=decide (0<n):=by
 by_cases h:n=0
 ·subst h;rw [show(0:Int).natAbs=0 by rfl,digs_zero];rfl
 ·have:(digs n.natAbs).length≠0:=fun e=>h (by have:=digs_nil.1 (List.eq_nil_of_length_eq_zero e);omega)
  rw [dT (by omega),dT (by omega)]
theorem cRDiv {w:World}{Na Nb:Nat}{x y:Int}{v0 v1:Value}(h0:Vz Na x v0 w)(h1:Vz Nb y v1 w)(h1a:1<=Na:=by omega)(h1b:1<=Nb:=by omega)(hNa:Na<=1000000:=by omega)(hNb:Nb<=1000000:=by omega):Calls Tryz.prog 119 #[v0,v1] w (RV (VTup (Vz (Na+1) (dq x y)) (Vz Nb (dr x y))) w):=by
 go_enter Tryz.func119,Tryz.ntmps119
 refine Sg 58 [(0,Vz Na x),(1,Vz Nb y)] (Lq.2 ⟨⟨_,rfl,h0⟩,(Lq.2 ⟨⟨_,rfl,h1⟩,L0⟩)⟩) fun a0 st0=>Wn ?_
 refine rH [(28,2,0)] [VT,VT,VT,VT] [⟨2,some 0,some 0,28,2,Vz Na x,VT⟩,⟨3,some 1,some 1,28,2,Vz Nb y,VT⟩,⟨4,some 2,none,28,2,VT,VT⟩,⟨5,some 3,none,28,2,VT,VT⟩] [] st0 ⟨ks,ks,ks,ks,trivial⟩ ?_;intro a1 w1 st1;by_cases hy:y=0
 ·
  refine Wn ?_
  refine rH [(28,2,0)] [Vpt a1 3 1,VD Nb y,Vi ((digs y.natAbs).length:Int),Vb true] [.k 2 28 2 (Vz Na x),.k 3 28 2 (Vz Nb y),.k 4 28 2 VT,.k 5 28 2 VT] [(13,Vb true)] st1 ⟨ks,ks,(by refine kr fun _ A Y h D=>?_;obtain⟨v0,x0,X0⟩:=h.dp D 11;obtain⟨pp,nn,cc,rfl,hnn,-⟩:=X0;exact⟨_,run_len rfl rfl x0,by rw [hnn];rfl⟩),(by refine kr fun _ A Y h D=>?_;obtain⟨v0,x0,X0⟩:=h.dp D 12;have hV0':v0= .int .i64 ((digs y.natAbs).length:Int):=X0;exact⟨_,run_eqi rfl (x0.trans hV0') rfl,congrArg Value.bool (by rw [len_eq0];exact dT hy)⟩),trivial⟩ ?_;intro a2 w2 st2;refine Wn ?_
  refine cT st2 ?_;refine Wn ?_
  refine rH [(28,2,0)] [Vz 1 0,Vz 1 0,VT,VT] [.k 2 28 2 (Vz Na x),.k 3 28 2 (Vz Nb y),⟨4,none,some 2,28,2,Vz 1 0,VT⟩,⟨5,none,some 3,28,2,Vz 1 0,VT⟩] [(13,Vb true)] st2 ⟨(kr fun _ A Y h D=>build_Int0 rfl),(kr fun _ A Y h D=>build_Int0 rfl),ks,ks,trivial⟩ fun a3 w3 st3=>Wn ?_
  obtain⟨g,cs,r1,r2,r3,r4,r5⟩:=st3.res (.k 4 28 2 (Vz 1 0)) (.tail _ (.tail _ (.head _))) rfl rfl;obtain⟨g2,cs2,p1,p2,p3,p4,p5⟩:=st3.res (.k 5 28 2 (Vz 1 0)) (.tail _ (.tail _ (.tail _ (.head _)))) rfl rfl;exact wp_ret (bodyPost_ret (results_cell2 rfl _ _ g g2 28 cs cs2 (0,0) (0,0) _ r1 p1 r2 p2 Tryz.underlying28 rfl (by rw [r3];exact size_Int) (by rw [p3];exact size_Int)) st3.defers ⟨_,rfl,⟨_,_,rfl,⟨Vz_le (by rw [show dq x y=0 from if_pos hy];exact r4) (by omega),Vz_le (by rw [show dr x y=0 from if_pos hy];exact p4) (by omega)⟩⟩,r5⟩)
 ·
  refine Wn ?_
  refine rH [(28,2,0)] [Vpt a1 3 1,VD Nb y,Vi ((digs y.natAbs).length:Int),Vb false] [.k 2 28 2 (Vz Na x),.k 3 28 2 (Vz Nb y),.k 4 28 2 VT,.k 5 28 2 VT] [(13,Vb false)] st1 ⟨ks,ks,(by refine kr fun _ A Y h D=>?_;obtain⟨v0,x0,X0⟩:=h.dp D 11;obtain⟨pp,nn,cc,rfl,hnn,-⟩:=X0;exact⟨_,run_len rfl rfl x0,by rw [hnn];rfl⟩),(by refine kr fun _ A Y h D=>?_;obtain⟨v0,x0,X0⟩:=h.dp D 12;have hV0':v0= .int .i64 ((digs y.natAbs).length:Int):=X0;exact⟨_,run_eqi rfl (x0.trans hV0') rfl,congrArg Value.bool (by rw [len_eq0];exact dF hy)⟩),trivial⟩ ?_;intro a2 w2 st2;refine Wn ?_
  refine cF st2 ?_;refine Wn ?_
  refine rH [(28,2,0)] [Vpt a2 2 1,VD Na x,Vpt a2 3 1,VD Nb y,VTup (VO Na ((x.natAbs / y.natAbs:Nat):Int)) (VD Nb ((x.natAbs % y.natAbs:Nat):Int)),VTup (VO Na ((x.natAbs / y.natAbs:Nat):Int)) (VD Nb ((x.natAbs % y.natAbs:Nat):Int)),VO Na ((x.natAbs / y.natAbs:Nat):Int),VD Nb ((x.natAbs % y.natAbs:Nat):Int),VO Na ((x.natAbs / y.natAbs:Nat):Int),VD Nb ((x.natAbs % y.natAbs:Nat):Int)] [.k 2 28 2 (Vz Na x),.k 3 28 2 (Vz Nb y),.k 4 28 2 VT,.k 5 28 2 VT] [(13,Vb false),(6,VO Na ((x.natAbs / y.natAbs:Nat):Int)),(7,VD Nb ((x.natAbs % y.natAbs:Nat):Int))] st2 ⟨ks,ks,ks,ks,(kd2 fun _ _ Y _ v0 X0 v1 X1=>(cRDivided (show VD Na x v0 Y from X0) (show VD Nb y v1 Y from X1) hy)),ks,ks,ks,ks,ks,trivial⟩ fun a3 w3 st3=>Wn ?_
  refine rH [(28,2,0)] [Vpt a3 2 0,Vb (decide ((x)<0)),Vpt a3 3 0,Vb (decide ((y)<0)),Vb ((decide ((x)<0)) !=(decide ((y)<0))),VO Na ((x.natAbs / y.natAbs:Nat):Int),Vz Na (sg ((decide ((x)<0)) !=(decide ((y)<0))) ((x.natAbs / y.natAbs:Nat):Int)),VT,VT] [.k 2 28 2 (Vz Na x),.k 3 28 2 (Vz Nb y),.k 4 28 2 VT,.k 5 28 2 VT,⟨8,some 7,some 8,28,2,Vz Na (sg ((decide ((x)<0)) !=(decide ((y)<0))) ((x.natAbs / y.natAbs:Nat):Int)),VT⟩] [(13,Vb false),(7,VD Nb ((x.natAbs % y.natAbs:Nat):Int))] st3 ⟨ks,(k_cell (j:=0) (off:=0) SbB.out (by kernel_rfl) (.head _) rfl rfl rfl (by kernel_rfl) (by kernel_rfl) rfl (by kernel_rfl) (fun cs w h=>vz_N h) Tryz.underlying4 rfl fun listed A Y h D=>⟨trivial,trivial⟩),ks,(k_cell (j:=2) (off:=0) SbB.out (by kernel_rfl) (.tail _ (.head _)) rfl rfl rfl (by kernel_rfl) (by kernel_rfl) rfl (by kernel_rfl) (fun cs w h=>vz_N h) Tryz.underlying4 rfl fun listed A Y h D=>⟨trivial,trivial⟩),(kr2 25 27 fun _ _ _ _ _ x0 X0 _ x1 X1=>⟨_,run_neqb rfl (x0.trans X0) (x1.trans X1),rfl⟩),ks,(kd2 fun _ _ Y _ v0 X0 v1 X1=>cRNormalV X0 (show VO Na ((x.natAbs / y.natAbs:Nat):Int) v1 Y from X1)),ks,ks,trivial⟩ fun a4 w4 st4=>Wn ?_
  refine rH [(28,2,0)] [VD Nb ((x.natAbs % y.natAbs:Nat):Int),Vz Nb ((x.natAbs % y.natAbs:Nat):Int),VT,VT] [.k 2 28 2 (Vz Na x),.k 3 28 2 (Vz Nb y),.k 4 28 2 VT,.k 5 28 2 VT,.k 8 28 2 (Vz Na (sg ((decide ((x)<0)) !=(decide ((y)<0))) ((x.natAbs / y.natAbs:Nat):Int))),⟨9,some 2,some 3,28,2,Vz Nb ((x.natAbs % y.natAbs:Nat):Int),VT⟩] [(13,Vb false)] st4 ⟨ks,(by refine kc fun _ A Y h D=>?_;obtain⟨v1,x1,X1⟩:=h.dp D 31;exact⟨#[.bool false,v1],by simp [x1,eval_const],cRNormalO (b:=false) (VD_On (show VD Nb ((x.natAbs % y.natAbs:Nat):Int) v1 Y from X1))⟩),ks,ks,trivial⟩ ?_;intro a5 w5 st5;by_cases hx:x<0
  ·
   by_cases hr:0<((x.natAbs % y.natAbs:Nat):Int)
   ·
    refine Wn ?_
    refine rH [(28,2,0)] [Vpt a5 2 0,Vb true,Vb true,Vpt a5 9 1,VD Nb ((x.natAbs % y.natAbs:Nat):Int),Vi ((digs ((x.natAbs % y.natAbs:Nat):Int).natAbs).length:Int),Vb true,Vb true] [.k 2 28 2 (Vz Na x),.k 3 28 2 (Vz Nb y),.k 4 28 2 VT,.k 5 28 2 VT,.k 8 28 2 (Vz Na (sg ((decide ((x)<0)) !=(decide ((y)<0))) ((x.natAbs / y.natAbs:Nat):Int))),.k 9 28 2 (Vz Nb ((x.natAbs % y.natAbs:Nat):Int))] [(13,Vb false),(40,Vb true)] st5 ⟨ks,(k_cell (j:=0) (off:=0) SbB.out (by kernel_rfl) (.head _) rfl rfl rfl (by kernel_rfl) (by kernel_rfl) rfl (by kernel_rfl) (fun cs w h=>vz_NT h hx) Tryz.underlying4 rfl fun listed A Y h D=>⟨trivial,trivial⟩),ks,ks,ks,(by refine kr fun _ A Y h D=>?_;obtain⟨v0,x0,X0⟩:=h.dp D 37;obtain⟨pp,nn,cc,rfl,hnn,-⟩:=X0;exact⟨_,run_len rfl rfl x0,by rw [hnn];rfl⟩),(by refine kr fun _ A Y h D=>?_;obtain⟨v0,x0,X0⟩:=h.dp D 38;have hV0':v0= .int .i64 ((digs ((x.natAbs % y.natAbs:Nat):Int).natAbs).length:Int):=X0;exact⟨_,run_gtri rfl (x0.trans hV0') rfl,congrArg Value.bool (by rw [len_gt0 _ (Int.natCast_nonneg _)];exact dT hr)⟩),ks,trivial⟩ ?_;intro a6 w6 st6;refine Wn ?_
    refine cT st6 ?_;refine Wn ?_
    refine rH [(28,2,0)] [Vz Na (sg ((decide ((x)<0)) !=(decide ((y)<0))) ((x.natAbs / y.natAbs:Nat):Int)),Vpt a6 2 0,Vb (decide ((x)<0)),Vpt a6 3 0,Vb (decide ((y)<0)),Vb ((decide ((x)<0)) !=(decide ((y)<0))),VO 1 1,Vz 1 (sg ((decide ((x)<0)) !=(decide ((y)<0))) 1),Vz (max Na 1+1) ((sg ((decide ((x)<0)) !=(decide ((y)<0))) ((x.natAbs / y.natAbs:Nat):Int))+(sg ((decide ((x)<0)) !=(decide ((y)<0))) 1)),VT] [.k 2 28 2 (Vz Na x),.k 3 28 2 (Vz Nb y),.k 4 28 2 VT,.k 5 28 2 VT,⟨8,none,some 9,28,2,Vz (max Na 1+1) ((sg ((decide ((x)<0)) !=(decide ((y)<0))) ((x.natAbs / y.natAbs:Nat):Int))+(sg ((decide ((x)<0)) !=(decide ((y)<0))) 1)),Vz Na (sg ((decide ((x)<0)) !=(decide ((y)<0))) ((x.natAbs / y.natAbs:Nat):Int))⟩,.k 9 28 2 (Vz Nb ((x.natAbs % y.natAbs:Nat):Int))] [(13,Vb false),(40,Vb true)] st6 ⟨ks,ks,(k_cell (j:=1) (off:=0) SbB.out (by kernel_rfl) (.head _) rfl rfl rfl (by kernel_rfl) (by kernel_rfl) rfl (by kernel_rfl) (fun cs w h=>vz_N h) Tryz.underlying4 rfl fun listed A Y h D=>⟨trivial,trivial⟩),ks,(k_cell (j:=3) (off:=0) SbB.out (by kernel_rfl) (.tail _ (.head _)) rfl rfl rfl (by kernel_rfl) (by kernel_rfl) rfl (by kernel_rfl) (fun cs w h=>vz_N h) Tryz.underlying4 rfl fun listed A Y h D=>⟨trivial,trivial⟩),(kr2 43 45 fun _ _ _ _ _ x0 X0 _ x1 X1=>⟨_,run_neqb rfl (x0.trans X0) (x1.trans X1),rfl⟩),(km fun _ A Y h D=>bslice_one rfl rfl (by omega) (by omega)),(kd2 fun _ _ Y _ v0 X0 v1 X1=>cRNormalV X0 (show VO 1 1 v1 Y from X1)),(kd2 fun _ _ _ _ _ X0 _ X1=>(cRAdd X0 X1)),ks,trivial⟩ fun a7 w7 st7=>Wn ?_
    refine rH [(28,2,0)] [Vpt a7 3 1,VD Nb y,Vpt a7 9 1,VD Nb ((x.natAbs % y.natAbs:Nat):Int),VO Nb (((y.natAbs:Nat):Int) - ((x.natAbs % y.natAbs:Nat):Int)),Vz Nb (((y.natAbs:Nat):Int) - ((x.natAbs % y.natAbs:Nat):Int)),VT] [.k 2 28 2 (Vz Na x),.k 3 28 2 (Vz Nb y),.k 4 28 2 VT,.k 5 28 2 VT,.k 8 28 2 (Vz (max Na 1+1) ((sg ((decide ((x)<0)) !=(decide ((y)<0))) ((x.natAbs / y.natAbs:Nat):Int))+(sg ((decide ((x)<0)) !=(decide ((y)<0))) 1))),⟨9,none,some 6,28,2,Vz Nb (((y.natAbs:Nat):Int) - ((x.natAbs % y.natAbs:Nat):Int)),Vz Nb ((x.natAbs % y.natAbs:Nat):Int)⟩] [(13,Vb false),(40,Vb true)] st7 ⟨ks,ks,ks,(k_cell0 (j:=2) (off:=1) SbB.out (by kernel_rfl) (.tail _ (.tail _ (.tail _ (.tail _ (.tail _ (.head _)))))) rfl rfl rfl (by kernel_rfl) (by kernel_rfl) (by kernel_rfl) rfl (by kernel_rfl) (fun cs w h=>vz_D h) Tryz.underlying22 rfl fun listed A Y h D=>⟨trivial,trivial⟩),(kd2 fun _ _ Y _ v0 X0 v1 X1=>cRMinusN (show VD Nb y v0 Y from X0) (show VD Nb ((x.natAbs % y.natAbs:Nat):Int) v1 Y from X1) (mod_le hy)),(by refine kc fun _ A Y h D=>?_;obtain⟨v1,x1,X1⟩:=h.dp D 54;exact⟨#[.bool false,v1],by simp [x1,eval_const],cRNormalO (b:=false) (show VO Nb (((y.natAbs:Nat):Int) - ((x.natAbs % y.natAbs:Nat):Int)) v1 Y from X1)⟩),ks,trivial⟩ ?_;intro a8 w8 st8;refine Wn ?_
    refine rH [(28,2,0)] [Vz (max Na 1+1) ((sg ((decide ((x)<0)) !=(decide ((y)<0))) ((x.natAbs / y.natAbs:Nat):Int))+(sg ((decide ((x)<0)) !=(decide ((y)<0))) 1)),Vz Nb (((y.natAbs:Nat):Int) - ((x.natAbs % y.natAbs:Nat):Int)),VT,VT] [.k 2 28 2 (Vz Na x),.k 3 28 2 (Vz Nb y),⟨4,none,some 2,28,2,Vz (max Na 1+1) ((sg ((decide ((x)<0)) !=(decide ((y)<0))) ((x.natAbs / y.natAbs:Nat):Int))+(sg ((decide ((x)<0)) !=(decide ((y)<0))) 1)),VT⟩,⟨5,none,some 3,28,2,Vz Nb (((y.natAbs:Nat):Int) - ((x.natAbs % y.natAbs:Nat):Int)),VT⟩,.k 8 28 2 (Vz (max Na 1+1) ((sg ((decide ((x)<0)) !=(decide ((y)<0))) ((x.natAbs / y.natAbs:Nat):Int))+(sg ((decide ((x)<0)) !=(decide ((y)<0))) 1))),.k 9 28 2 (Vz Nb (((y.natAbs:Nat):Int) - ((x.natAbs % y.natAbs:Nat):Int)))] [(13,Vb false),(40,Vb true)] st8 ⟨ks,ks,ks,ks,trivial⟩ fun a9 w9 st9=>Wn ?_
    obtain⟨g,cs,r1,r2,r3,r4,r5⟩:=st9.res (.k 4 28 2 (Vz (max Na 1+1) ((sg ((decide ((x)<0)) !=(decide ((y)<0))) ((x.natAbs / y.natAbs:Nat):Int))+(sg ((decide ((x)<0)) !=(decide ((y)<0))) 1)))) (.tail _ (.tail _ (.head _))) rfl rfl;obtain⟨g2,cs2,p1,p2,p3,p4,p5⟩:=st9.res (.k 5 28 2 (Vz Nb (((y.natAbs:Nat):Int) - ((x.natAbs % y.natAbs:Nat):Int)))) (.tail _ (.tail _ (.tail _ (.head _)))) rfl rfl;exact wp_ret (bodyPost_ret (results_cell2 rfl _ _ g g2 28 cs cs2 (0,0) (0,0) _ r1 p1 r2 p2 Tryz.underlying28 rfl (by rw [r3];exact size_Int) (by rw [p3];exact size_Int)) st9.defers ⟨_,rfl,⟨_,_,rfl,⟨Vz_le (by rw [((rdiv_m hy).1 hx hr).1,<-sg_add];exact r4) (by omega),by rw [((rdiv_m hy).1 hx hr).2];exact p4⟩⟩,r5⟩)
   ·
    refine Wn ?_
    refine rH [(28,2,0)] [Vpt a5 2 0,Vb true,Vb true,Vpt a5 9 1,VD Nb ((x.natAbs % y.natAbs:Nat):Int),Vi ((digs ((x.natAbs % y.natAbs:Nat):Int).natAbs).length:Int),Vb false,Vb false] [.k 2 28 2 (Vz Na x),.k 3 28 2 (Vz Nb y),.k 4 28 2 VT,.k 5 28 2 VT,.k 8 28 2 (Vz Na (sg ((decide ((x)<0)) !=(decide ((y)<0))) ((x.natAbs / y.natAbs:Nat):Int))),.k 9 28 2 (Vz Nb ((x.natAbs % y.natAbs:Nat):Int))] [(13,Vb false),(40,Vb false)] st5 ⟨ks,(k_cell (j:=0) (off:=0) SbB.out (by kernel_rfl) (.head _) rfl rfl rfl (by kernel_rfl) (by kernel_rfl) rfl (by kernel_rfl) (fun cs w h=>vz_NT h hx) Tryz.underlying4 rfl fun listed A Y h D=>⟨trivial,trivial⟩),ks,ks,ks,(by refine kr fun _ A Y h D=>?_;obtain⟨v0,x0,X0⟩:=h.dp D 37;obtain⟨pp,nn,cc,rfl,hnn,-⟩:=X0;exact⟨_,run_len rfl rfl x0,by rw [hnn];rfl⟩),(by refine kr fun _ A Y h D=>?_;obtain⟨v0,x0,X0⟩:=h.dp D 38;have hV0':v0= .int .i64 ((digs ((x.natAbs % y.natAbs:Nat):Int).natAbs).length:Int):=X0;exact⟨_,run_gtri rfl (x0.trans hV0') rfl,congrArg Value.bool (by rw [len_gt0 _ (Int.natCast_nonneg _)];exact dF hr)⟩),ks,trivial⟩ ?_;intro a6 w6 st6;refine Wn ?_
    refine cF st6 ?_;refine Wn ?_
    refine rH [(28,2,0)] [Vz Na (sg ((decide ((x)<0)) !=(decide ((y)<0))) ((x.natAbs / y.natAbs:Nat):Int)),Vz Nb ((x.natAbs % y.natAbs:Nat):Int),VT,VT] [.k 2 28 2 (Vz Na x),.k 3 28 2 (Vz Nb y),⟨4,none,some 2,28,2,Vz Na (sg ((decide ((x)<0)) !=(decide ((y)<0))) ((x.natAbs / y.natAbs:Nat):Int)),VT⟩,⟨5,none,some 3,28,2,Vz Nb ((x.natAbs % y.natAbs:Nat):Int),VT⟩,.k 8 28 2 (Vz Na (sg ((decide ((x)<0)) !=(decide ((y)<0))) ((x.natAbs / y.natAbs:Nat):Int))),.k 9 28 2 (Vz Nb ((x.natAbs % y.natAbs:Nat):Int))] [(13,Vb false),(40,Vb false)] st6 ⟨ks,ks,ks,ks,trivial⟩ fun a7 w7 st7=>Wn ?_
    obtain⟨g,cs,r1,r2,r3,r4,r5⟩:=st7.res (.k 4 28 2 (Vz Na (sg ((decide ((x)<0)) !=(decide ((y)<0))) ((x.natAbs / y.natAbs:Nat):Int)))) (.tail _ (.tail _ (.head _))) rfl rfl;obtain⟨g2,cs2,p1,p2,p3,p4,p5⟩:=st7.res (.k 5 28 2 (Vz Nb ((x.natAbs % y.natAbs:Nat):Int))) (.tail _ (.tail _ (.tail _ (.head _)))) rfl rfl;exact wp_ret (bodyPost_ret (results_cell2 rfl _ _ g g2 28 cs cs2 (0,0) (0,0) _ r1 p1 r2 p2 Tryz.underlying28 rfl (by rw [r3];exact size_Int) (by rw [p3];exact size_Int)) st7.defers ⟨_,rfl,⟨_,_,rfl,⟨Vz_le (by rw [((rdiv_m hy).2 (by exact fun h=>hr h.2)).1];exact r4) (by omega),by rw [((rdiv_m hy).2 (by exact fun h=>hr h.2)).2];exact p4⟩⟩,r5⟩)
  ·
   refine Wn ?_
   refine rH [(28,2,0)] [Vpt a5 2 0,Vb false,Vb false,VT,VT,VT,VT,Vb false] [.k 2 28 2 (Vz Na x),.k 3 28 2 (Vz Nb y),.k 4 28 2 VT,.k 5 28 2 VT,.k 8 28 2 (Vz Na (sg ((decide ((x)<0)) !=(decide ((y)<0))) ((x.natAbs / y.natAbs:Nat):Int))),.k 9 28 2 (Vz Nb ((x.natAbs % y.natAbs:Nat):Int))] [(13,Vb false),(40,Vb false)] st5 ⟨ks,(k_cell (j:=0) (off:=0) SbB.out (by kernel_rfl) (.head _) rfl rfl rfl (by kernel_rfl) (by kernel_rfl) rfl (by kernel_rfl) (fun cs w h=>vz_NF h hx) Tryz.underlying4 rfl fun listed A Y h D=>⟨trivial,trivial⟩),ks,ks,ks,ks,ks,ks,trivial⟩ fun a6 w6 st6=>Wn ?_
   refine cF st6 ?_;refine Wn ?_
   refine rH [(28,2,0)] [Vz Na (sg ((decide ((x)<0)) !=(decide ((y)<0))) ((x.natAbs / y.natAbs:Nat):Int)),Vz Nb ((x.natAbs % y.natAbs:Nat):Int),VT,VT] [.k 2 28 2 (Vz Na x),.k 3 28 2 (Vz Nb y),⟨4,none,some 2,28,2,Vz Na (sg ((decide ((x)<0)) !=(decide ((y)<0))) ((x.natAbs / y.natAbs:Nat):Int)),VT⟩,⟨5,none,some 3,28,2,Vz Nb ((x.natAbs % y.natAbs:Nat):Int),VT⟩,.k 8 28 2 (Vz Na (sg ((decide ((x)<0)) !=(decide ((y)<0))) ((x.natAbs / y.natAbs:Nat):Int))),.k 9 28 2 (Vz Nb ((x.natAbs % y.natAbs:Nat):Int))] [(13,Vb false),(40,Vb false)] st6 ⟨ks,ks,ks,ks,trivial⟩ fun a7 w7 st7=>Wn ?_
   obtain⟨g,cs,r1,r2,r3,r4,r5⟩:=st7.res (.k 4 28 2 (Vz Na (sg ((decide ((x)<0)) !=(decide ((y)<0))) ((x.natAbs / y.natAbs:Nat):Int)))) (.tail _ (.tail _ (.head _))) rfl rfl;obtain⟨g2,cs2,p1,p2,p3,p4,p5⟩:=st7.res (.k 5 28 2 (Vz Nb ((x.natAbs % y.natAbs:Nat):Int))) (.tail _ (.tail _ (.tail _ (.head _)))) rfl rfl;exact wp_ret (bodyPost_ret (results_cell2 rfl _ _ g g2 28 cs cs2 (0,0) (0,0) _ r1 p1 r2 p2 Tryz.underlying28 rfl (by rw [r3];exact size_Int) (by rw [p3];exact size_Int)) st7.defers ⟨_,rfl,⟨_,_,rfl,⟨Vz_le (by rw [((rdiv_m hy).2 (by exact fun h=>hx h.1)).1];exact r4) (by omega),by rw [((rdiv_m hy).2 (by exact fun h=>hx h.1)).2];exact p4⟩⟩,r5⟩)
theorem tiny_lt {n:Nat}(h:((digs ((n:Nat):Int).natAbs).length:Int)<=2):n<1000000000000000000:=by
 rw [Int.natAbs_natCast] at h;rcases Nat.lt_or_ge n 1000000000000000000 with h1|h1
 ·exact h1
 ·rw [digs_pos (n:=n) (by omega),digs_pos (n:=n / 1000000000) (by omega),digs_pos (n:=n / 1000000000 / 1000000000) (by omega)] at h;simp only [List.length_cons] at h;omega
theorem cRTinyN {W:World}{N n:Nat}{v:Value}(h:VD N (n:Int) v W)(h2:((digs ((n:Nat):Int).natAbs).length:Int)<=2):Calls Tryz.prog 141 #[v] W (RV (Vi (n:Int)) W):=by
 obtain⟨p,k,c,rfl,hn,hR,hnc,hc,hnN⟩:=h;exact(tiny_any p k c _ W hR hn (Dg_digs _) (by omega)).mono fun e w' ⟨h1,h2⟩=>⟨_,h1,by rw [val_digs,Int.natAbs_natCast];rfl,by rw [h2];exact Below.refl _ _⟩
theorem cROfV {W:World}{n:Int}{v:Value}(h:Vi n v W)(h1: -9223372036854775808<=n:=by omega)(h2:n<=9223372036854775807:=by omega):Calls Tryz.prog 82 #[v] W (RV (Vz 3 n) W):=by
 obtain rfl:=h;exact cROf n h1 h2
theorem run_remN {ρ:Operand->Value}{o:Oper}{W:World}{x y:Operand}{a b:Nat}(ho:o.op= .binOp .rem 3 x y 3)(hx:ρ x= .int .i64 (a:Int))(hy:ρ y= .int .i64 (b:Int))(ha:a<1000000000000000000)(hb:b<1000000000000000000)(h0:0<b):(execOp ρ o).run Tryz.prog W= .ok (.value (.int .i64 ((a % b:Nat):Int))) W:=by
 have e1:Int.tmod (a:Int) (b:Int)=((a % b:Nat):Int):=rfl;have hlt:a % b<b:=Nat.mod_lt _ h0;have hb0:¬b=0:=by omega
 obtain⟨d,op,ty,ps,af,gd⟩:=o;subst ho
 go_simp
theorem cRGcd {w:World}{N:Nat}{x y:Int}{v0 v1:Value}(h0:Vz N x v0 w)(h1:Vz N y v1 w)(h3:3<=N:=by omega)(hN:N<=1000000:=by omega):Calls Tryz.prog 118 #[v0,v1] w (RV (Vz N (Int.gcd x y:Int)) w):=by
 go_enter Tryz.func118,Tryz.ntmps118
 refine Sg 56 [(0,Vz N x),(1,Vz N y)] (Lq.2 ⟨⟨_,rfl,h0⟩,(Lq.2 ⟨⟨_,rfl,h1⟩,L0⟩)⟩) fun a0 st0=>Wn ?_
 refine rH [(28,2,0)] [VT,VT,VT] [⟨2,some 0,some 0,28,2,Vz N x,VT⟩,⟨3,some 1,some 1,28,2,Vz N y,VT⟩,⟨4,some 2,none,28,2,VT,VT⟩] [] st0 ⟨ks,ks,ks,trivial⟩ fun a1 w1 st1=>Wn ?_
 refine rH [(28,2,0)] [Vpt a1 2 1,VD N x,Vz N ((x.natAbs:Nat):Int),VT,VT] [.k 2 28 2 (Vz N x),.k 3 28 2 (Vz N y),.k 4 28 2 VT,⟨5,some 3,some 4,28,2,Vz N ((x.natAbs:Nat):Int),VT⟩] [] st1 ⟨ks,ks,(by refine kc fun _ A Y h D=>?_;obtain⟨v1,x1,X1⟩:=h.dp D 13;exact⟨#[.bool false,v1],by simp [x1,eval_const],cRNormalO (b:=false) (VD_O (show VD N x v1 Y from X1))⟩),ks,ks,trivial⟩ ?_;intro a2 w2 st2;refine Wn ?_
 refine rH [(28,2,0)] [Vpt a2 3 1,VD N y,Vz N ((y.natAbs:Nat):Int),VT,VT] [.k 2 28 2 (Vz N x),.k 3 28 2 (Vz N y),.k 4 28 2 VT,.k 5 28 2 (Vz N ((x.natAbs:Nat):Int)),⟨6,some 3,some 4,28,2,Vz N ((y.natAbs:Nat):Int),VT⟩] [] st2 ⟨ks,ks,(by refine kc fun _ A Y h D=>?_;obtain⟨v1,x1,X1⟩:=h.dp D 16;exact⟨#[.bool false,v1],by simp [x1,eval_const],cRNormalO (b:=false) (VD_O (show VD N y v1 Y from X1))⟩),ks,ks,trivial⟩ ?_;intro a3 w3 st3;refine Wn ?_
 refine wp_loop_ghost (fun pb aX wX=>∃pa:Nat,Nat.gcd pa pb=Nat.gcd x.natAbs y.natAbs/\St w.heap.size w 56 [.k 4 28 2 VT,.k 5 28 2 (Vz N ((pa:Nat):Int)),.k 6 28 2 (Vz N ((pb:Nat):Int))] [] aX wX) y.natAbs ⟨x.natAbs,rfl,st3.cut⟩ ?_;intro pb aL wL ⟨pa,hg,st3⟩;by_cases hn:0<((pb:Nat):Int)
 ·
  refine Wn ?_
  refine rH [(28,2,0)] [Vpt aL 6 1,VD N ((pb:Nat):Int),Vi ((digs ((pb:Nat):Int).natAbs).length:Int),Vb true] [.k 4 28 2 VT,.k 5 28 2 (Vz N ((pa:Nat):Int)),.k 6 28 2 (Vz N ((pb:Nat):Int))] [(21,Vb true)] st3 ⟨ks,ks,(by refine kr fun _ A Y h D=>?_;obtain⟨v0,x0,X0⟩:=h.dp D 19;obtain⟨pp,nn,cc,rfl,hnn,-⟩:=X0;exact⟨_,run_len rfl rfl x0,by rw [hnn];rfl⟩),(by refine kr fun _ A Y h D=>?_;obtain⟨v0,x0,X0⟩:=h.dp D 20;have hV0':v0= .int .i64 ((digs ((pb:Nat):Int).natAbs).length:Int):=X0;exact⟨_,run_gtri rfl (x0.trans hV0') rfl,congrArg Value.bool (by rw [len_gt0 _ (Int.natCast_nonneg _)];exact dT hn)⟩),trivial⟩ ?_;intro a4 w4 st4;refine Wn ?_
  refine cT st4 ?_;by_cases qa:((digs (((pa:Nat):Int)).natAbs).length:Int)<=2
  ·
   by_cases qb:((digs (((pb:Nat):Int)).natAbs).length:Int)<=2
   ·
    refine Wn ?_
    refine rH [(28,2,0)] [Vpt a4 5 1,VD N ((pa:Nat):Int),Vi ((digs ((pa:Nat):Int).natAbs).length:Int),Vb true,Vb true,Vpt a4 6 1,VD N ((pb:Nat):Int),Vi ((digs ((pb:Nat):Int).natAbs).length:Int),Vb true,Vb true] [.k 4 28 2 VT,.k 5 28 2 (Vz N ((pa:Nat):Int)),.k 6 28 2 (Vz N ((pb:Nat):Int))] [(21,Vb true),(31,Vb true)] st4 ⟨ks,ks,(by refine kr fun _ A Y h D=>?_;obtain⟨v0,x0,X0⟩:=h.dp D 23;obtain⟨pp,nn,cc,rfl,hnn,-⟩:=X0;exact⟨_,run_len rfl rfl x0,by rw [hnn];rfl⟩),(kr1 24 fun _ _ _ _ _ x0 X0=>⟨_,run_leqi rfl (x0.trans X0) rfl,congrArg Value.bool (dT qa)⟩),ks,ks,ks,(by refine kr fun _ A Y h D=>?_;obtain⟨v0,x0,X0⟩:=h.dp D 28;obtain⟨pp,nn,cc,rfl,hnn,-⟩:=X0;exact⟨_,run_len rfl rfl x0,by rw [hnn];rfl⟩),(kr1 29 fun _ _ _ _ _ x0 X0=>⟨_,run_leqi rfl (x0.trans X0) rfl,congrArg Value.bool (dT qb)⟩),ks,trivial⟩ ?_;intro a5 w5 st5;refine Wn ?_
    refine cT st5 ?_;refine Wn ?_
    refine rH [(28,2,0)] [Vpt a5 5 1,VD N ((pa:Nat):Int),Vi pa,Vi pa] [.k 4 28 2 VT,.k 5 28 2 (Vz N ((pa:Nat):Int)),.k 6 28 2 (Vz N ((pb:Nat):Int))] [(21,Vb true),(31,Vb true),(7,Vi pa)] st5 ⟨ks,ks,(kd1 fun _ _ Y _ v0 X0=>(cRTinyN (show VD N ((pa:Nat):Int) v0 Y from X0) qa)),ks,trivial⟩ fun a6 w6 st6=>Wn ?_
    refine rH [(28,2,0)] [Vpt a6 6 1,VD N ((pb:Nat):Int),Vi pb,Vi pb] [.k 4 28 2 VT,.k 5 28 2 (Vz N ((pa:Nat):Int)),.k 6 28 2 (Vz N ((pb:Nat):Int))] [(21,Vb true),(31,Vb true),(7,Vi pa),(8,Vi pb)] st6 ⟨ks,ks,(kd1 fun _ _ Y _ v0 X0=>(cRTinyN (show VD N ((pb:Nat):Int) v0 Y from X0) qb)),ks,trivial⟩ fun a7 w7 st7=>Wn ?_
    refine wp_loop_ghost (fun m aX wX=>∃u:Nat,Nat.gcd u m=Nat.gcd x.natAbs y.natAbs/\u<1000000000000000000/\m<1000000000000000000/\St w.heap.size w 56 [.k 4 28 2 VT] [(7,Vi u),(8,Vi m)] aX wX) pb ⟨pa,hg,tiny_lt qa,tiny_lt qb,st7.cut⟩ ?_;intro m aM wM ⟨u,hu,hu1,hm1,st7⟩;by_cases hm:0<((m:Nat):Int)
    ·
     refine Wn ?_
     refine rH [(28,2,0)] [Vi m,Vb true] [.k 4 28 2 VT] [(7,Vi u),(8,Vi m),(39,Vb true)] st7 ⟨ks,(kr1 38 fun _ _ _ _ _ x0 X0=>⟨_,run_gtri rfl (x0.trans X0) rfl,congrArg Value.bool (dT hm)⟩),trivial⟩ fun a8 w8 st8=>Wn ?_
     refine cT st8 ?_;refine Wn ?_
     refine rH [(28,2,0)] [Vi u,Vi m,Vi ((u % m:Nat):Int),Vi ((u % m:Nat):Int)] [.k 4 28 2 VT] [(7,Vi u),(8,Vi m),(39,Vb true),(9,Vi ((u % m:Nat):Int))] st8 ⟨ks,ks,(kr2 40 41 fun _ _ _ _ v0 x0 X0 v1 x1 X1=>⟨_,run_remN rfl (x0.trans (show v0= .int .i64 u from X0)) (x1.trans (show v1= .int .i64 m from X1)) (by omega) (by omega) (by omega),rfl⟩),ks,trivial⟩ fun a9 w9 st9=>Wn ?_
     refine rH [(28,2,0)] [Vi m,Vi m] [.k 4 28 2 VT] [(8,Vi m),(39,Vb true),(9,Vi ((u % m:Nat):Int)),(7,Vi m)] st9 ⟨ks,ks,trivial⟩ fun a10 w10 st10=>Wn ?_
     refine rH [(28,2,0)] [Vi ((u % m:Nat):Int),Vi ((u % m:Nat):Int)] [.k 4 28 2 VT] [(39,Vb true),(7,Vi m),(8,Vi ((u % m:Nat):Int))] st10 ⟨ks,ks,trivial⟩ ?_;intro a11 w11 st11;exact⟨u % m,Nat.mod_lt _ (by omega),m,by rw [Nat.gcd_comm,<-Nat.gcd_rec,Nat.gcd_comm];exact hu,hm1,Nat.lt_trans (Nat.mod_lt _ (by omega)) hm1,st11.cut⟩
    ·
     refine Wn ?_
     refine rH [(28,2,0)] [Vi m,Vb false] [.k 4 28 2 VT] [(7,Vi u),(8,Vi m),(39,Vb false)] st7 ⟨ks,(kr1 38 fun _ _ _ _ _ x0 X0=>⟨_,run_gtri rfl (x0.trans X0) rfl,congrArg Value.bool (dF hm)⟩),trivial⟩ fun a8 w8 st8=>Wn ?_
     refine cF st8 ?_;refine Wn ?_
     refine rH [(28,2,0)] [Vi u,Vz 3 ((u:Nat):Int),VT] [⟨4,none,some 2,28,2,Vz 3 ((u:Nat):Int),VT⟩] [(7,Vi u),(8,Vi m),(39,Vb false)] st8 ⟨ks,(kd1 fun _ _ _ _ _ X0=>(cROfV X0)),ks,trivial⟩ fun a9 w9 st9=>Wn ?_
     exact wp_ret (rC 4 28 (Vz 3 ((u:Nat):Int)) st9 fun cs r4=>(Vz_le (by rw [show(Int.gcd x y:Int)=((u:Nat):Int) by rw [show m=0 by omega,Nat.gcd_zero_right] at hu;rw [hu];rfl];exact r4) h3))
   ·
    refine Wn ?_
    refine rH [(28,2,0)] [Vpt a4 5 1,VD N ((pa:Nat):Int),Vi ((digs ((pa:Nat):Int).natAbs).length:Int),Vb true,Vb true,Vpt a4 6 1,VD N ((pb:Nat):Int),Vi ((digs ((pb:Nat):Int).natAbs).length:Int),Vb false,Vb false] [.k 4 28 2 VT,.k 5 28 2 (Vz N ((pa:Nat):Int)),.k 6 28 2 (Vz N ((pb:Nat):Int))] [(21,Vb true),(31,Vb false)] st4 ⟨ks,ks,(by refine kr fun _ A Y h D=>?_;obtain⟨v0,x0,X0⟩:=h.dp D 23;obtain⟨pp,nn,cc,rfl,hnn,-⟩:=X0;exact⟨_,run_len rfl rfl x0,by rw [hnn];rfl⟩),(kr1 24 fun _ _ _ _ _ x0 X0=>⟨_,run_leqi rfl (x0.trans X0) rfl,congrArg Value.bool (dT qa)⟩),ks,ks,ks,(by refine kr fun _ A Y h D=>?_;obtain⟨v0,x0,X0⟩:=h.dp D 28;obtain⟨pp,nn,cc,rfl,hnn,-⟩:=X0;exact⟨_,run_len rfl rfl x0,by rw [hnn];rfl⟩),(kr1 29 fun _ _ _ _ _ x0 X0=>⟨_,run_leqi rfl (x0.trans X0) rfl,congrArg Value.bool (dF qb)⟩),ks,trivial⟩ ?_;intro a5 w5 st5;refine Wn ?_
    refine cF st5 ?_;refine Wn ?_
    refine rH [(28,2,0)] [Vz N ((pa:Nat):Int),Vz N ((pb:Nat):Int),VTup (Vz (N+1) (dq ((pa:Nat):Int) ((pb:Nat):Int))) (Vz N (dr ((pa:Nat):Int) ((pb:Nat):Int))),VTup (Vz (N+1) (dq ((pa:Nat):Int) ((pb:Nat):Int))) (Vz N (dr ((pa:Nat):Int) ((pb:Nat):Int))),Vz (N+1) (dq ((pa:Nat):Int) ((pb:Nat):Int)),Vz N (dr ((pa:Nat):Int) ((pb:Nat):Int)),VT,VT,VT,VT] [.k 4 28 2 VT,.k 5 28 2 (Vz N ((pa:Nat):Int)),.k 6 28 2 (Vz N ((pb:Nat):Int)),⟨10,some 6,some 8,28,2,Vz (N+1) (dq ((pa:Nat):Int) ((pb:Nat):Int)),VT⟩,⟨11,some 7,some 9,28,2,Vz N (dr ((pa:Nat):Int) ((pb:Nat):Int)),VT⟩] [(21,Vb true),(31,Vb false)] st5 ⟨ks,ks,(kd2 fun _ _ _ _ _ X0 _ X1=>(cRDiv X0 X1)),ks,ks,ks,ks,ks,ks,ks,trivial⟩ fun a6 w6 st6=>Wn ?_
    refine rH [(28,2,0)] [Vz N ((pb:Nat):Int),VT] [.k 4 28 2 VT,⟨5,none,some 1,28,2,Vz N ((pb:Nat):Int),Vz N ((pa:Nat):Int)⟩,.k 6 28 2 (Vz N ((pb:Nat):Int)),.k 10 28 2 (Vz (N+1) (dq ((pa:Nat):Int) ((pb:Nat):Int))),.k 11 28 2 (Vz N (dr ((pa:Nat):Int) ((pb:Nat):Int)))] [(21,Vb true),(31,Vb false)] st6 ⟨ks,ks,trivial⟩ fun a7 w7 st7=>Wn ?_
    refine rH [(28,2,0)] [Vz N (dr ((pa:Nat):Int) ((pb:Nat):Int)),VT] [.k 4 28 2 VT,.k 5 28 2 (Vz N ((pb:Nat):Int)),⟨6,none,some 1,28,2,Vz N (dr ((pa:Nat):Int) ((pb:Nat):Int)),Vz N ((pb:Nat):Int)⟩,.k 10 28 2 (Vz (N+1) (dq ((pa:Nat):Int) ((pb:Nat):Int))),.k 11 28 2 (Vz N (dr ((pa:Nat):Int) ((pb:Nat):Int)))] [(21,Vb true),(31,Vb false)] st7 ⟨ks,ks,trivial⟩ ?_;intro a8 w8 st8;have e6:dr ((pa:Nat):Int) ((pb:Nat):Int)=((pa % pb:Nat):Int):=by unfold dr;rw [if_neg (by omega)];rfl
    refine⟨pa % pb,Nat.mod_lt _ (by omega),pb,by rw [Nat.gcd_comm,<-Nat.gcd_rec,Nat.gcd_comm];exact hg,?_⟩;rw [e6] at st8;exact st8.cut
  ·
   refine Wn ?_
   refine rH [(28,2,0)] [Vpt a4 5 1,VD N ((pa:Nat):Int),Vi ((digs ((pa:Nat):Int).natAbs).length:Int),Vb false,Vb false,VT,VT,VT,VT,Vb false] [.k 4 28 2 VT,.k 5 28 2 (Vz N ((pa:Nat):Int)),.k 6 28 2 (Vz N ((pb:Nat):Int))] [(21,Vb true),(31,Vb false)] st4 ⟨ks,ks,(by refine kr fun _ A Y h D=>?_;obtain⟨v0,x0,X0⟩:=h.dp D 23;obtain⟨pp,nn,cc,rfl,hnn,-⟩:=X0;exact⟨_,run_len rfl rfl x0,by rw [hnn];rfl⟩),(kr1 24 fun _ _ _ _ _ x0 X0=>⟨_,run_leqi rfl (x0.trans X0) rfl,congrArg Value.bool (dF qa)⟩),ks,ks,ks,ks,ks,ks,trivial⟩ ?_;intro a5 w5 st5;refine Wn ?_
   refine cF st5 ?_;refine Wn ?_
   refine rH [(28,2,0)] [Vz N ((pa:Nat):Int),Vz N ((pb:Nat):Int),VTup (Vz (N+1) (dq ((pa:Nat):Int) ((pb:Nat):Int))) (Vz N (dr ((pa:Nat):Int) ((pb:Nat):Int))),VTup (Vz (N+1) (dq ((pa:Nat):Int) ((pb:Nat):Int))) (Vz N (dr ((pa:Nat):Int) ((pb:Nat):Int))),Vz (N+1) (dq ((pa:Nat):Int) ((pb:Nat):Int)),Vz N (dr ((pa:Nat):Int) ((pb:Nat):Int)),VT,VT,VT,VT] [.k 4 28 2 VT,.k 5 28 2 (Vz N ((pa:Nat):Int)),.k 6 28 2 (Vz N ((pb:Nat):Int)),⟨10,some 6,some 8,28,2,Vz (N+1) (dq ((pa:Nat):Int) ((pb:Nat):Int)),VT⟩,⟨11,some 7,some 9,28,2,Vz N (dr ((pa:Nat):Int) ((pb:Nat):Int)),VT⟩] [(21,Vb true),(31,Vb false)] st5 ⟨ks,ks,(kd2 fun _ _ _ _ _ X0 _ X1=>(cRDiv X0 X1)),ks,ks,ks,ks,ks,ks,ks,trivial⟩ fun a6 w6 st6=>Wn ?_
   refine rH [(28,2,0)] [Vz N ((pb:Nat):Int),VT] [.k 4 28 2 VT,⟨5,none,some 1,28,2,Vz N ((pb:Nat):Int),Vz N ((pa:Nat):Int)⟩,.k 6 28 2 (Vz N ((pb:Nat):Int)),.k 10 28 2 (Vz (N+1) (dq ((pa:Nat):Int) ((pb:Nat):Int))),.k 11 28 2 (Vz N (dr ((pa:Nat):Int) ((pb:Nat):Int)))] [(21,Vb true),(31,Vb false)] st6 ⟨ks,ks,trivial⟩ fun a7 w7 st7=>Wn ?_
   refine rH [(28,2,0)] [Vz N (dr ((pa:Nat):Int) ((pb:Nat):Int)),VT] [.k 4 28 2 VT,.k 5 28 2 (Vz N ((pb:Nat):Int)),⟨6,none,some 1,28,2,Vz N (dr ((pa:Nat):Int) ((pb:Nat):Int)),Vz N ((pb:Nat):Int)⟩,.k 10 28 2 (Vz (N+1) (dq ((pa:Nat):Int) ((pb:Nat):Int))),.k 11 28 2 (Vz N (dr ((pa:Nat):Int) ((pb:Nat):Int)))] [(21,Vb true),(31,Vb false)] st7 ⟨ks,ks,trivial⟩ ?_;intro a8 w8 st8;have e6:dr ((pa:Nat):Int) ((pb:Nat):Int)=((pa % pb:Nat):Int):=by unfold dr;rw [if_neg (by omega)];rfl
   refine⟨pa % pb,Nat.mod_lt _ (by omega),pb,by rw [Nat.gcd_comm,<-Nat.gcd_rec,Nat.gcd_comm];exact hg,?_⟩;rw [e6] at st8;exact st8.cut
 ·
  refine Wn ?_
  refine rH [(28,2,0)] [Vpt aL 6 1,VD N ((pb:Nat):Int),Vi ((digs ((pb:Nat):Int).natAbs).length:Int),Vb false] [.k 4 28 2 VT,.k 5 28 2 (Vz N ((pa:Nat):Int)),.k 6 28 2 (Vz N ((pb:Nat):Int))] [(21,Vb false)] st3 ⟨ks,ks,(by refine kr fun _ A Y h D=>?_;obtain⟨v0,x0,X0⟩:=h.dp D 19;obtain⟨pp,nn,cc,rfl,hnn,-⟩:=X0;exact⟨_,run_len rfl rfl x0,by rw [hnn];rfl⟩),(by refine kr fun _ A Y h D=>?_;obtain⟨v0,x0,X0⟩:=h.dp D 20;have hV0':v0= .int .i64 ((digs ((pb:Nat):Int).natAbs).length:Int):=X0;exact⟨_,run_gtri rfl (x0.trans hV0') rfl,congrArg Value.bool (by rw [len_gt0 _ (Int.natCast_nonneg _)];exact dF hn)⟩),trivial⟩ ?_;intro a4 w4 st4;refine Wn ?_
  refine cF st4 ?_;refine Wn ?_
  refine rH [(28,2,0)] [Vz N ((pa:Nat):Int),VT] [⟨4,none,some 1,28,2,Vz N ((pa:Nat):Int),VT⟩,.k 5 28 2 (Vz N ((pa:Nat):Int)),.k 6 28 2 (Vz N ((pb:Nat):Int))] [(21,Vb false)] st4 ⟨ks,ks,trivial⟩ fun a5 w5 st5=>Wn ?_
  exact wp_ret (rC 4 28 (Vz N ((pa:Nat):Int)) st5 fun cs r4=>(by rw [show(Int.gcd x y:Int)=((pa:Nat):Int) by rw [show pb=0 by omega,Nat.gcd_zero_right] at hg;rw [hg];rfl];exact r4))
theorem rone_any (nb:Bool)(p:Option Addr)(n c:Nat)(z:Int)(w:World)(hI:IntAt w nb p n c z):
 Calls Tryz.prog 121 #[.agg #[.bool nb,.slice p n c]] w fun e w'=>e= .returned (.bool (decide (z=1)))/\Below w.heap.size w w':=by
 obtain⟨h1,h2,h3,-⟩:=hI;cases nb with
 |true=>
  have hfin:Hid (false=decide (z=1)):=hIq (dF (by have:=of_decide_eq_true h1.symm;omega)).symm;clear h1 h2 h3
  go_enter Tryz.func121,Tryz.ntmps121
  go_wp2_with fail
  go_ret
  exact⟨by rw [<-hfin.out];rfl,below_new _ _⟩
 |false=>
  have hz:0<=z:=by have:=of_decide_eq_false h1.symm;omega
  by_cases hn:n=1
  ·obtain⟨b,off,rfl,hc⟩:=Rdi_at h3 0 (by omega);obtain⟨d,D⟩:∃d,iat (digs z.natAbs) 0=d:=⟨_,rfl⟩;rw [D] at hc
   have hv:(z.natAbs:Int)=d:=by
    have h4:=val_digs z.natAbs
    match hh:digs z.natAbs,D,h2 with
    | [],D,h2=>simp at h2;omega
    | [x],D,h2=>rw [hh] at h4;simp [val] at h4;simp [iat] at D;omega
    |x::y::t,D,h2=>simp at h2;omega
   subst hn;have hc':w.cell? ⟨b,off,none⟩=some (.int .i64 d):=hc;clear hc h3 D;have hb:b<w.heap.size:=World.block_lt_of_cell? w _ hc'
   have hfin:Hid ((d==1)=decide (z=1)):=hIq (by
    by_cases h:z=1
    ·rw [dT h];simp;omega
    ·rw [dF h];simp;omega)
   clear h1 h2 hv hz
   go_enter Tryz.func121,Tryz.ntmps121
   go_wp2_with fail
   go_ret
   exact⟨by rw [<-hfin.out];rfl,below_new _ _⟩
  ·have hfin:Hid (false=decide (z=1)):=hIq (dF (fun e=>hn (by rw [h2,e];show(digs 1).length=1;rw [digs1];rfl))).symm;have hnb:((n:Int) !=1)=true:=by simp;omega
   clear h1 h2 h3 hn hz
   go_enter Tryz.func121,Tryz.ntmps121
   go_wp2_with fail
   go_ret
   exact⟨by rw [<-hfin.out];rfl,below_new _ _⟩
theorem cR4One {W:World}{N:Nat}{z:Int}{v:Value}(h:Vz N z v W):Calls Tryz.prog 121 #[v] W (RV (Vb (decide (z=1))) W):=by
 obtain⟨nb,p,n,c,rfl,hI,hn⟩:=h;exact(rone_any nb p n c z W hI).mono fun e w' h=>⟨_,h.1,rfl,h.2⟩
end Go.Proofs.YteacdbgalloaiaaGreat
