/- Contracts of the packages integer, rat, plane, polygon and their references. -/
import Derived.Test.YteacdbgalloaiaaGreatB6
import Derived.Test.YteacdbgalloaiaaGreatB3
import Derived.Test.YteacdbgalloaiaaGreatB5
import Derived.Test.YteacdbgalloaiaaGreatB4
set_option linter.unusedVariables false
set_option maxRecDepth 100000
set_option maxHeartbeats 6400000
namespace Go.Proofs.YteacdbgalloaiaaGreat
open Go.RowKit
theorem Gcd_less (nx ny:Bool)(px py:Option Addr)(lx cx ly cy:Nat)(x y:Int)(w:World)(hx0:IntAt w nx px lx cx x)(hy0:IntAt w ny py ly cy y)(hlx:lx<=549755813887)(hly:ly<=549755813887)(hxy:x.natAbs<y.natAbs):
 Calls Tryz.prog 131 #[.agg #[.bool nx,.slice px lx cx],.agg #[.bool ny,.slice py ly cy]] w (RetI w (Int.gcd x y)):=by
 have hcm:Hid (∀W,Below w.heap.size w W->Calls Tryz.prog 112 #[.slice px lx cx,.slice py ly cy] W fun e w'=>e= .returned (.int .i64 (-1))/\Below W.heap.size W w'):=hIq fun W hb=>by
  have:=compare_any px py lx cx ly cy x.natAbs y.natAbs W (Rdi_below hb hx0.2.2.1) (Rdi_below hb hy0.2.2.1) hx0.2.1 hy0.2.1 (by omega) (by omega);rw [cmp_lt (by omega)] at this;exact this
 have hgc:Hid (∀W,Below w.heap.size w W->Calls Tryz.prog 143 #[.slice py ly cy,.slice px lx cx] W (GcP W (Nat.gcd y.natAbs x.natAbs))):=hIq fun W hb=>gcd_any _ _ _ _ _ _ _ _ W (Rdi_below hb hy0.2.2.1) (Rdi_below hb hx0.2.2.1) hy0.2.1 hx0.2.1 hly (by omega)
 have hg:Hid (Nat.gcd y.natAbs x.natAbs=Int.gcd x y):=hIq (Nat.gcd_comm _ _);have hS0:=hIq (@Ar2.start nx px lx cx ny py ly cy w);obtain⟨g,hgg⟩:∃g,Nat.gcd y.natAbs x.natAbs=g:=⟨_,rfl⟩;rw [hgg] at hgc hg;rw [<-hg.out];clear hx0 hy0 hgg hg
 go_enter Tryz.func131,Tryz.ntmps131
 go_upto_region 1 with fail
 generalize((w.alloc (.cells #[.bool nx,.slice px lx cx] 28)).alloc (.cells #[.bool ny,.slice py ly cy] 28)).alloc (.cells #[.bool false,.slice none 0 0] 28)=W0 at hS0 ⊢;have hS1:=hS0.out;have hf:=hS1.facts;clear hS0
 go_region
 have hS2:=hS1.drew;clear hf;have hf:=hS2.facts;clear hf;have hbw:Below w.heap.size w W0.drew:=hS2.2.2.2
 go_wp2_with (first
  |(go_at_call 112;(with_reducible refine(hcm.out _ hbw).mono ?_);rintro e w1 ⟨rfl,hb1⟩;have hS3:=hS2.later hb1;have hbw3:Below w.heap.size w w1:=hS3.2.2.2)
  |(go_at_call 143;(with_reducible refine(hgc.out _ hbw3).mono ?_);rintro e w2 ⟨p,n,c,l,rfl,hR,hn,hnc,hc,D,hv,hb2,hp⟩;have hS4:=hS3.later hb2;have hmd:=hIq (made_any false p n c l w2 hR hn hnc hc D);have hp':=hIq hp;have hv':=hIq hv;clear hR hn hnc hc D hv hp)
  |(go_at_call 105;(with_reducible refine hmd.out.mono ?_);rintro e w3 ⟨nb,p3,n3,c3,rfl,hI,hb3,hp3⟩;have hS5:=hS4.later hb3;have hI':=hIq hI;have hp3':=hIq hp3;clear hI hp3;have hf:=hS5.facts))
 have hfin:=hIq (hS5.ret (z':=(g:Int)) hI'.out (fun q hq=>by
  have h1:=hp'.out q (hp3'.out q hq);have h2:=hS3.top
  omega) (by rw [hv'.out];rfl))
 exact bodyPost_ret (v:= .agg #[.bool nb,.slice p3 n3 c3]) (results_cell_row rfl _ _ (w.heap.size+1+1) 28 _ (0,0) _ rfl (hS5.res _ _) Tryz.underlying28 rfl size_Int) rfl hfin.out
theorem Gcd_not (nx ny:Bool)(px py:Option Addr)(lx cx ly cy:Nat)(x y:Int)(w:World)(hx0:IntAt w nx px lx cx x)(hy0:IntAt w ny py ly cy y)(hlx:lx<=549755813887)(hly:ly<=549755813887)(hxy:y.natAbs<=x.natAbs):
 Calls Tryz.prog 131 #[.agg #[.bool nx,.slice px lx cx],.agg #[.bool ny,.slice py ly cy]] w (RetI w (Int.gcd x y)):=by
 have hcm:Hid (∀W,Below w.heap.size w W->Calls Tryz.prog 112 #[.slice px lx cx,.slice py ly cy] W fun e w'=>e= .returned (.int .i64 (cmpI (x.natAbs:Int) (y.natAbs:Int)))/\Below W.heap.size W w'):=hIq fun W hb=>compare_any px py lx cx ly cy x.natAbs y.natAbs W (Rdi_below hb hx0.2.2.1) (Rdi_below hb hy0.2.2.1) hx0.2.1 hy0.2.1 (by omega) (by omega)
 have hc0:0<=cmpI (x.natAbs:Int) (y.natAbs:Int):=by
  unfold cmpI;rw [if_neg (by omega)];split<;>omega
 generalize cmpI (x.natAbs:Int) (y.natAbs:Int)=C at hcm hc0;have hgc:Hid (∀W,Below w.heap.size w W->Calls Tryz.prog 143 #[.slice px lx cx,.slice py ly cy] W (GcP W (Nat.gcd x.natAbs y.natAbs))):=hIq fun W hb=>gcd_any _ _ _ _ _ _ _ _ W (Rdi_below hb hx0.2.2.1) (Rdi_below hb hy0.2.2.1) hx0.2.1 hy0.2.1 hlx (by omega)
 have hg:Hid (Nat.gcd x.natAbs y.natAbs=Int.gcd x y):=hIq rfl;have hS0:=hIq (@Ar2.start nx px lx cx ny py ly cy w);obtain⟨g,hgg⟩:∃g,Nat.gcd x.natAbs y.natAbs=g:=⟨_,rfl⟩;rw [hgg] at hgc hg;rw [<-hg.out];clear hx0 hy0 hgg hg
 go_enter Tryz.func131,Tryz.ntmps131
 go_upto_region 1 with fail
 generalize((w.alloc (.cells #[.bool nx,.slice px lx cx] 28)).alloc (.cells #[.bool ny,.slice py ly cy] 28)).alloc (.cells #[.bool false,.slice none 0 0] 28)=W0 at hS0 ⊢;have hS1:=hS0.out;have hf:=hS1.facts;clear hS0
 go_region
 have hc1:¬C<0:=by omega
 have hS2:=hS1.drew;clear hf;have hf:=hS2.facts;clear hf;have hbw:Below w.heap.size w W0.drew:=hS2.2.2.2
 go_wp2_with (first
  |(go_at_call 112;(with_reducible refine(hcm.out _ hbw).mono ?_);rintro e w1 ⟨rfl,hb1⟩;have hS3:=hS2.later hb1;have hbw3:Below w.heap.size w w1:=hS3.2.2.2)
  |(go_at_call 143;(with_reducible refine(hgc.out _ hbw3).mono ?_);rintro e w2 ⟨p,n,c,l,rfl,hR,hn,hnc,hc,D,hv,hb2,hp⟩;have hS4:=hS3.later hb2;have hmd:=hIq (made_any false p n c l w2 hR hn hnc hc D);have hp':=hIq hp;have hv':=hIq hv;clear hR hn hnc hc D hv hp)
  |(go_at_call 105;(with_reducible refine hmd.out.mono ?_);rintro e w3 ⟨nb,p3,n3,c3,rfl,hI,hb3,hp3⟩;have hS5:=hS4.later hb3;have hI':=hIq hI;have hp3':=hIq hp3;clear hI hp3;have hf:=hS5.facts))
 have hfin:=hIq (hS5.ret (z':=(g:Int)) hI'.out (fun q hq=>by
  have h1:=hp'.out q (hp3'.out q hq);have h2:=hS3.top
  omega) (by rw [hv'.out];rfl))
 exact bodyPost_ret (v:= .agg #[.bool nb,.slice p3 n3 c3]) (results_cell_row rfl _ _ (w.heap.size+1+1) 28 _ (0,0) _ rfl (hS5.res _ _) Tryz.underlying28 rfl size_Int) rfl hfin.out
theorem Gcd_any (nx ny:Bool)(px py:Option Addr)(lx cx ly cy:Nat)(x y:Int)(w:World)(hx0:IntAt w nx px lx cx x)(hy0:IntAt w ny py ly cy y)(hlx:lx<=549755813887)(hly:ly<=549755813887):
 Calls Tryz.prog 131 #[.agg #[.bool nx,.slice px lx cx],.agg #[.bool ny,.slice py ly cy]] w (RetI w (Int.gcd x y)):=by
 rcases Nat.lt_or_ge x.natAbs y.natAbs with h|h
 ·exact Gcd_less nx ny px py lx cx ly cy x y w hx0 hy0 hlx hly h
 ·exact Gcd_not nx ny px py lx cx ly cy x y w hx0 hy0 hlx hly h
theorem rat_uniq {r:Rat}{n d:Int}(D:0<d)(hc:Int.gcd n d=1)(h:n*(r.den:Int)=r.num*d):r.num=n/\(r.den:Int)=d:=by
 have hc':n.natAbs.Coprime d.toNat:=by
  have:d.natAbs=d.toNat:=by omega
  rw [<-this];exact hc
 have e:(⟨n,d.toNat,by omega,hc'⟩:Rat)=r:=by
  rw [Rat.eq_iff_mul_eq_mul];show n*(r.den:Int)=r.num*(d.toNat:Int);rw [h,Int.toNat_of_nonneg (by omega)]
 exact⟨(congrArg Rat.num e).symm,by rw [<-congrArg Rat.den e];show((d.toNat:Nat):Int)=d;omega⟩
theorem den_pos' (r:Rat):0<(r.den:Int):=by have:=r.den_pos;omega
theorem rat_cop (r:Rat):Int.gcd r.num (r.den:Int)=1:=r.reduced
theorem divInt_low {p q:Int}(hq:q≠0):(Rat.divInt p q).num*q=p*((Rat.divInt p q).den:Int):=by
 have h:=Rat.num_divInt_den (Rat.divInt p q);have h2:=(Rat.divInt_eq_divInt_iff (by have:=den_pos' (Rat.divInt p q);omega) hq).1 h;exact h2
theorem divInt_of {p q n d:Int}(hq:q≠0)(hd:0<d)(hc:Int.gcd n d=1)(h:n*q=p*d):(Rat.divInt p q).num=n/\((Rat.divInt p q).den:Int)=d:=by
 apply rat_uniq hd hc;have h1:=divInt_low (p:=p) hq;generalize(Rat.divInt p q).num=N at*
 generalize((Rat.divInt p q).den:Int)=D at*
 -- n D q=p d D=N q d
 have:(n*D)*q=(N*d)*q:=by grind
 exact Int.eq_of_mul_eq_mul_right hq this
theorem make_low {p q:Int}(hq:0<q):(Rat.divInt p q).num=p / (Int.gcd p q:Int)/\((Rat.divInt p q).den:Int)=q / (Int.gcd p q:Int):=by
 have hg:(0:Int)<Int.gcd p q:=by have:=Int.gcd_pos_of_ne_zero_right p (b:=q) (by omega);omega
 have d1:(Int.gcd p q:Int)∣p:=Int.gcd_dvd_left ..;have d2:(Int.gcd p q:Int)∣q:=Int.gcd_dvd_right ..;refine divInt_of (by omega) ?_ (Int.gcd_ediv_gcd_ediv_gcd (Int.gcd_pos_of_ne_zero_right p (by omega))) ?_
 ·exact Int.ediv_pos_of_pos_of_dvd hq (by omega) d2
 ·generalize(Int.gcd p q:Int)=g at*
  obtain⟨a,rfl⟩:=d1;obtain⟨b,rfl⟩:=d2;rw [Int.mul_ediv_cancel_left _ (by omega),Int.mul_ediv_cancel_left _ (by omega)]
  grind
theorem add_low (a b:Rat)(l r p m:Int)(hl:l=(a.den:Int) / (Int.gcd a.den b.den:Int))(hr:r=(b.den:Int) / (Int.gcd a.den b.den:Int))(hp:p=a.num*r+b.num*l)(hm:m=(Int.gcd p (Int.gcd a.den b.den:Int):Int)):
 (a+b).num=p / m/\((a+b).den:Int)=l*((b.den:Int) / m):=by
 have ha:=den_pos' a;have hb:=den_pos' b;have hg:(0:Int)<Int.gcd a.den b.den:=by have:=Int.gcd_pos_of_ne_zero_right (a.den:Int) (b:=b.den) (by omega);omega
 have d1:(Int.gcd a.den b.den:Int)∣(a.den:Int):=Int.gcd_dvd_left ..;have d2:(Int.gcd a.den b.den:Int)∣(b.den:Int):=Int.gcd_dvd_right ..;have hlr:Int.gcd l r=1:=by rw [hl,hr];exact Int.gcd_ediv_gcd_ediv_gcd (by omega)
 have hac:=rat_cop a;have hbc:=rat_cop b;have hA:=Rat.num_divInt_den a
 have hab:∀n d:Int,0<d->Int.gcd n d=1->n*((a.den:Int)*b.den)=(a.num*b.den+b.num*a.den)*d->(a+b).num=n/\((a+b).den:Int)=d:=by
  intro n d D hc h
  have e:a+b=Rat.divInt (a.num*b.den+b.num*a.den) ((a.den:Int)*b.den):=by
   conv=>lhs;rw [<-Rat.num_divInt_den a,<-Rat.num_divInt_den b]
   exact Rat.divInt_add_divInt _ _ (by omega) (by omega)
  rw [e];exact divInt_of (Int.ne_of_gt (Int.mul_pos ha hb)) D hc h
 generalize(Int.gcd a.den b.den:Int)=g at*
 obtain⟨x,hx⟩:=d1;obtain⟨y,hy⟩:=d2;rw [hx] at hl hac ha;rw [hy] at hr hbc hb;rw [Int.mul_ediv_cancel_left _ (by omega)] at hl hr;subst hl hr
 have hxp:0<l:=by
  rcases Int.lt_or_le 0 l with h|h
  ·exact h
  ·have:=Int.mul_nonpos_of_nonneg_of_nonpos (show 0<=g by omega) h;omega
 have hyp:0<r:=by
  rcases Int.lt_or_le 0 r with h|h
  ·exact h
  ·have:=Int.mul_nonpos_of_nonneg_of_nonpos (show 0<=g by omega) h;omega
 have hm0:0<m:=by rw [hm];have:=Int.gcd_pos_of_ne_zero_right p (b:=g) (by omega);omega
 have hmg:m∣g:=by rw [hm];exact Int.gcd_dvd_right ..
 have hmp:m∣p:=by rw [hm];exact Int.gcd_dvd_left ..
 have hcop:Int.gcd (p / m) (g / m)=1:=by rw [hm];exact Int.gcd_ediv_gcd_ediv_gcd (by rw [hm] at hm0;omega)
 have hcl:Int.gcd p l=1:=by
  rw [hp,Int.gcd_add_mul_right_left];rw [Int.gcd_mul_left_left_of_gcd_eq_one (by rw [Int.gcd_comm];exact hlr)];rw [Int.gcd_comm] at hac ⊢;exact Nat.Coprime.coprime_dvd_left (by rw [Int.natAbs_mul];exact Nat.dvd_mul_left ..) hac
 have hcr:Int.gcd p r=1:=by
  rw [hp,Int.add_comm,Int.gcd_add_mul_right_left];rw [Int.gcd_mul_left_left_of_gcd_eq_one hlr];rw [Int.gcd_comm] at hbc ⊢;exact Nat.Coprime.coprime_dvd_left (by rw [Int.natAbs_mul];exact Nat.dvd_mul_left ..) hbc
 obtain⟨k,hk⟩:=hmg;obtain⟨t,ht⟩:=hmp;rw [hy];have e1:p / m=t:=by rw [ht];exact Int.mul_ediv_cancel_left _ (by omega)
 have e2:g*r / m=k*r:=by rw [hk,Int.mul_assoc];exact Int.mul_ediv_cancel_left _ (by omega)
 have e3:g / m=k:=by rw [hk];exact Int.mul_ediv_cancel_left _ (by omega)
 rw [e1,e2];rw [e1,e3] at hcop
 have hkp:0<k:=by
  rcases Int.lt_or_le 0 k with h|h
  ·exact h
  ·have:=Int.mul_nonpos_of_nonneg_of_nonpos (show 0<=m by omega) h;omega
 have htp:t.natAbs∣p.natAbs:=by rw [ht,Int.natAbs_mul];exact Nat.dvd_mul_left ..
 refine hab _ _ (Int.mul_pos hxp (Int.mul_pos hkp hyp)) ?_ ?_
 ·have c1:Nat.Coprime t.natAbs l.natAbs:=Nat.Coprime.coprime_dvd_left htp hcl;have c2:Nat.Coprime t.natAbs r.natAbs:=Nat.Coprime.coprime_dvd_left htp hcr;have c3:Nat.Coprime t.natAbs k.natAbs:=hcop;show Nat.gcd t.natAbs (l*(k*r)).natAbs=1;rw [Int.natAbs_mul,Int.natAbs_mul];exact Nat.Coprime.mul_right c1 (Nat.Coprime.mul_right c3 c2)
 ·rw [hx,hy];have:p=m*t:=ht;have:g=m*k:=hk
  grind
theorem mul_low (a b:Rat)(f s:Int)(hf:f=(Int.gcd a.num b.den:Int))(hs:s=(Int.gcd b.num a.den:Int)):
 (a*b).num=(a.num / f)*(b.num / s)/\((a*b).den:Int)=((a.den:Int) / s)*((b.den:Int) / f):=by
 have ha:=den_pos' a;have hb:=den_pos' b;have hac:=rat_cop a;have hbc:=rat_cop b
 have hab:∀n d:Int,0<d->Int.gcd n d=1->n*((a.den:Int)*b.den)=(a.num*b.num)*d->(a*b).num=n/\((a*b).den:Int)=d:=by
  intro n d D hc h
  have e:a*b=Rat.divInt (a.num*b.num) ((a.den:Int)*b.den):=by
   conv=>lhs;rw [<-Rat.num_divInt_den a,<-Rat.num_divInt_den b]
   exact Rat.divInt_mul_divInt _ _
  rw [e];exact divInt_of (Int.ne_of_gt (Int.mul_pos ha hb)) D hc h
 have hf0:0<f:=by rw [hf];have:=Int.gcd_pos_of_ne_zero_right a.num (b:=b.den) (by omega);omega
 have hs0:0<s:=by rw [hs];have:=Int.gcd_pos_of_ne_zero_right b.num (b:=a.den) (by omega);omega
 have f1:f∣a.num:=by rw [hf];exact Int.gcd_dvd_left ..
 have f2:f∣(b.den:Int):=by rw [hf];exact Int.gcd_dvd_right ..
 have s1:s∣b.num:=by rw [hs];exact Int.gcd_dvd_left ..
 have s2:s∣(a.den:Int):=by rw [hs];exact Int.gcd_dvd_right ..
 have c1:Int.gcd (a.num / f) (b.den / f)=1:=by rw [hf];exact Int.gcd_ediv_gcd_ediv_gcd (by rw [hf] at hf0;omega)
 have c2:Int.gcd (b.num / s) (a.den / s)=1:=by rw [hs];exact Int.gcd_ediv_gcd_ediv_gcd (by rw [hs] at hs0;omega)
 obtain⟨u,hu⟩:=f1;obtain⟨v,hv⟩:=f2;obtain⟨x,hx⟩:=s1;obtain⟨y,hy⟩:=s2;have e1:a.num / f=u:=by rw [hu];exact Int.mul_ediv_cancel_left _ (by omega)
 have e2:(b.den:Int) / f=v:=by rw [hv];exact Int.mul_ediv_cancel_left _ (by omega)
 have e3:b.num / s=x:=by rw [hx];exact Int.mul_ediv_cancel_left _ (by omega)
 have e4:(a.den:Int) / s=y:=by rw [hy];exact Int.mul_ediv_cancel_left _ (by omega)
 rw [e1,e2] at c1;rw [e3,e4] at c2;rw [e1,e2,e3,e4]
 have hvp:0<v:=by
  rcases Int.lt_or_le 0 v with h|h
  ·exact h
  ·have:=Int.mul_nonpos_of_nonneg_of_nonpos (show 0<=f by omega) h;omega
 have hyp:0<y:=by
  rcases Int.lt_or_le 0 y with h|h
  ·exact h
  ·have:=Int.mul_nonpos_of_nonneg_of_nonpos (show 0<=s by omega) h;omega
 refine hab _ _ (Int.mul_pos hyp hvp) ?_ (by rw [hu,hv,hx,hy];grind);have hacN:Nat.Coprime a.num.natAbs (a.den:Int).natAbs:=hac;have hbcN:Nat.Coprime b.num.natAbs (b.den:Int).natAbs:=hbc;rw [hu,hy,Int.natAbs_mul,Int.natAbs_mul] at hacN;rw [hx,hv,Int.natAbs_mul,Int.natAbs_mul] at hbcN;show Nat.gcd (u*x).natAbs (y*v).natAbs=1;rw [Int.natAbs_mul,Int.natAbs_mul];refine Nat.Coprime.mul_left (Nat.Coprime.mul_right ?_ c1) (Nat.Coprime.mul_right c2 ?_)
 ·exact hacN.coprime_mul_left.coprime_mul_left_right
 ·exact hbcN.coprime_mul_left.coprime_mul_left_right
theorem inv_low {q:Rat}(h:0<q.num):(q⁻¹).num=(q.den:Int)/\((q⁻¹).den:Int)=q.num:=by
 have hs:q.num.sign=1:=Int.sign_eq_one_of_pos h;rw [Rat.num_inv,Rat.den_inv,if_neg (by omega),hs];omega
theorem gcd_den_ne (x:Int)(q:Rat):(Int.gcd x (q.den:Int):Int)≠0:=by
 have:=Int.gcd_pos_of_ne_zero_right x (b:=(q.den:Int)) (by have:=q.den_pos;omega);omega
theorem gcd_den_ne' (q:Rat)(x:Int):(Int.gcd (q.den:Int) x:Int)≠0:=by
 rw [Int.gcd_comm];exact gcd_den_ne x q
theorem gcd_gcd_ne (x:Int)(q:Rat)(y:Int):(Int.gcd x (Int.gcd (q.den:Int) y:Int):Int)≠0:=by
 have:=Int.gcd_pos_of_ne_zero_right x (b:=(Int.gcd (q.den:Int) y:Int)) (gcd_den_ne' q y);omega
theorem gcd_ne_r {x y:Int}(h:y≠0):(Int.gcd x y:Int)≠0:=by
 have:=Int.gcd_pos_of_ne_zero_right x h;omega
theorem div_neg_neg (a b:Rat):a / b= -a*(-b)⁻¹:=by
 by_cases hb:b=0
 ·subst hb;rw [Rat.div_def,Rat.neg_zero,Rat.inv_zero,Rat.mul_zero,Rat.mul_zero]
 ·have:(-b)⁻¹= -b⁻¹:=by
   apply Rat.inv_eq_of_mul_eq_one;rw [Rat.neg_mul,Rat.mul_neg,Rat.neg_neg,Rat.mul_inv_cancel b hb]
  rw [this,Rat.neg_mul,Rat.mul_neg,Rat.neg_neg,Rat.div_def]
section
variable {BT:List (TypeId×Nat×Nat)}
def qd (q:Rat):Int:=if q.den=1 then 0 else(q.den:Int)
def Vq (N:Nat)(q:Rat):VP:=VP2 2 2 (Vz N q.num) (Vz N (qd q))
theorem Stab_Vq (N:Nat)(q:Rat):Stab BT (Vq N q):=Stab_VP2 (Stab_Vz _ _) (Stab_Vz _ _)
theorem AggV_Vq (N:Nat)(q:Rat):AggV 4 (Vq N q):=AggV_VP2 (AggV_Vz _ _) (AggV_Vz _ _)
theorem Vz_le {N M:Nat}{z:Int}{v:Value}{w:World}(h:Vz N z v w)(hM:N<=M):Vz M z v w:=by
 obtain⟨nb,p,n,c,h1,h2,h3⟩:=h;exact⟨nb,p,n,c,h1,h2,by omega⟩
theorem Vq_le {N M:Nat}{q:Rat}{v:Value}{w:World}(h:Vq N q v w)(hM:N<=M):Vq M q v w:=by
 obtain⟨x,y,h1,h2,h3,h4,h5⟩:=h;exact⟨x,y,h1,h2,h3,Vz_le h4 hM,Vz_le h5 hM⟩
theorem size_Rat:(Tryz.prog.info? 30).map (·.size)=some 4:=by kernel_rfl
theorem RV.le {V U:VP}{W:World}{e:Ending}{w':World}(h:RV V W e w')(hVU:∀v w,V v w->U v w):RV U W e w':=by
 obtain⟨v,h1,h2,h3⟩:=h;exact⟨v,h1,hVU _ _ h2,h3⟩
theorem digs1:digs 1= [1]:=by rw [digs_pos (by omega),show 1 / 1000000000=0 by rfl,digs_zero];rfl
theorem gcd_len (x y:Int):(digs (Int.gcd x y:Int).natAbs).length<=max (digs x.natAbs).length (digs y.natAbs).length:=by
 rw [Int.natAbs_natCast];by_cases hx:x=0
 ·subst hx;rw [Int.gcd_zero_left];omega
 ·have h1:Int.gcd x y<=x.natAbs:=Int.gcd_le_natAbs_left y hx;have:=digs_len_mono h1;omega
section
variable {W:World}{Na Nb:Nat}{a b:Int}{v1 v2:Value}
theorem cGcd (h1:Vz Na a v1 W)(h2:Vz Nb b v2 W)(hN1:Na<=1000000:=by omega)(hN2:Nb<=1000000:=by omega):Calls Tryz.prog 131 #[v1,v2] W (RV (Vz (max Na Nb) (Int.gcd a b:Int)) W):=by
 obtain⟨nb,p,n,c,rfl,hI,hn⟩:=h1;obtain⟨nb2,p2,n2,c2,rfl,hI2,hn2⟩:=h2;exact(Gcd_any _ _ _ _ _ _ _ _ a b W hI hI2 (by omega) (by omega)).mono fun e w' h=>retI_vz h (by have:=gcd_len a b;have:=hI.2.1;have:=hI2.2.1;omega)
theorem cOf1:Calls Tryz.prog 104 #[.int .i64 1] W (RV (Vz 1 1) W):=
 (Of_any 1 (by omega) (by omega) W).mono fun e w' h=>retI_vz h (by show(digs 1).length<=1;rw [digs1];exact Nat.le_refl _)
end
theorem one_any (nb:Bool)(p:Option Addr)(n c:Nat)(z:Int)(w:World)(hI:IntAt w nb p n c z):
 Calls Tryz.prog 130 #[.agg #[.bool nb,.slice p n c]] w fun e w'=>e= .returned (.bool (decide (z=1)))/\Below w.heap.size w w':=by
 obtain⟨h1,h2,h3,-⟩:=hI;by_cases hn:n=1
 ·obtain⟨b,off,rfl,hc⟩:=Rdi_at h3 0 (by omega);obtain⟨d,D⟩:∃d,iat (digs z.natAbs) 0=d:=⟨_,rfl⟩;rw [D] at hc;have hl:=digs_val (Dg_digs z.natAbs) (tlen_digs _)
  have hv:(z.natAbs:Int)=d:=by
   have h4:=val_digs z.natAbs
   match hh:digs z.natAbs,D,h2 with
   | [],D,h2=>simp at h2;omega
   | [x],D,h2=>rw [hh] at h4;simp [val] at h4;simp [iat] at D;omega
   |x::y::t,D,h2=>simp at h2;omega
  subst hn;have hc':w.cell? ⟨b,off,none⟩=some (.int .i64 d):=hc;clear hc h3 hl D;have hb:b<w.heap.size:=World.block_lt_of_cell? w _ hc';by_cases hd1:d=1
  ·have hfin:Hid ((!nb)=decide (z=1)):=hIq (by
    rw [h1];rcases Int.lt_or_le z 0 with h|h
    ·rw [dT h,dF (by omega)];rfl
    ·rw [dF (by omega),dT (by omega)];rfl)
   subst hd1;clear h1 h2 hv
   go_enter Tryz.func130,Tryz.ntmps130
   go_wp2_with fail
   go_ret
   exact⟨by rw [<-hfin.out];rfl,below_new _ _⟩
  ·have hfin:Hid (false=decide (z=1)):=hIq (dF (by omega)).symm;have hdb:(d==1)=false:=by simpa using hd1
   clear h1 h2 hv hd1
   go_enter Tryz.func130,Tryz.ntmps130
   go_wp2_with fail
   go_ret
   exact⟨by rw [<-hfin.out];rfl,below_new _ _⟩
 ·have hfin:Hid (false=decide (z=1)):=hIq (dF (fun e=>hn (by rw [h2,e];show(digs 1).length=1;rw [digs1];rfl))).symm;have hnb:((n:Int)==1)=false:=by simp;omega
  clear h1 h2 h3 hn
  go_enter Tryz.func130,Tryz.ntmps130
  go_wp2_with fail
  go_ret
  exact⟨by rw [<-hfin.out];rfl,below_new _ _⟩
theorem cOne {W:World}{N:Nat}{z:Int}{v:Value}(h:Vz N z v W):Calls Tryz.prog 130 #[v] W (RV (Vb (decide (z=1))) W):=by
 obtain⟨nb,p,n,c,rfl,hI,hn⟩:=h;exact(one_any nb p n c z W hI).mono fun e w' h=>⟨_,h.1,rfl,h.2⟩
end
def vld (nb:Bool)(l:List Int):Bool:=l.all (fun d=>decide (0<=d) && decide (d<1000000000)) && (if l= [] then !nb else iat l (l.length - 1) !=0)
theorem iat_mem {l:List Int}{k:Nat}(h:k<l.length):iat l k=l[k]:=by simp [iat,List.getD_eq_getElem?_getD,h]
theorem vld_no {nb:Bool}{l:List Int}(k:Nat)(hk:k<l.length)(h:iat l k<0∨1000000000<=iat l k):vld nb l=false:=by
 unfold vld
 have:l.all (fun d=>decide (0<=d) && decide (d<1000000000))=false:=by
  rw [List.all_eq_false];refine⟨l[k],List.getElem_mem hk,?_⟩;rw [iat_mem hk] at h;intro hh;simp only [Bool.and_eq_true,decide_eq_true_eq] at hh;omega
 rw [this];rfl
theorem vld_yes {nb:Bool}{l:List Int}(h:∀k,k<l.length->0<=iat l k/\iat l k<1000000000):vld nb l=if l= [] then !nb else iat l (l.length - 1) !=0:=by
 unfold vld
 have:l.all (fun d=>decide (0<=d) && decide (d<1000000000))=true:=by
  rw [List.all_eq_true];intro x hx;obtain⟨k,hk,rfl⟩:=List.getElem_of_mem hx;have:=h k hk;rw [iat_mem hk] at this;simp only [Bool.and_eq_true,decide_eq_true_eq];exact this
 rw [this];rfl
theorem Valid_any (nb:Bool)(p:Option Addr)(n c:Nat)(l:List Int)(w:World)(hR0:Rdi w p l)(hn0:n=l.length)(hmax:n<=4611686018427387904):
 Calls Tryz.prog 129 #[.agg #[.bool nb,.slice p n c]] w fun e w'=>e= .returned (.bool (vld nb l))/\Below w.heap.size w w':=by
 have hS0:=hIq (@Bx.start nb p n c w);have hR:=hIq hR0;have hn:=hIq hn0;clear hR0 hn0
 go_enter Tryz.func129,Tryz.ntmps129
 go_upto_region 1 with fail
 generalize w.alloc (.cells #[.bool nb,.slice p n c] 28)=W0 at hS0 ⊢;have hf:=hS0.out.facts;have hf1:=hf.1;have hf2:=hf.2;go_wp2_with fail
 go_loop [9] (fun i=>∃k:Nat,k<=n/\i= .int .i64 k/\Hid (∀j,j<k->0<=iat l j/\iat l j<1000000000)) (fun i=>n - (intOf i).toNat)
 case atStart=>exact⟨0,Nat.zero_le _,rfl,hIq (fun j hj=>by omega)⟩
 case round=>
  obtain⟨k,hk,rfl,hall⟩:=hrel;by_cases hlt:k<n
  ·have hkl:Hid (k<l.length):=hIq (by rw [<-hn.out];exact hlt);obtain⟨b,o,rfl,hc0⟩:=Rdi_at (Rdi_below hS0.out.2 hR.out) k hkl.out;obtain⟨d,D⟩:∃d,iat l k=d:=⟨_,rfl⟩;rw [D] at hc0;have hd':=hIq D;clear D;by_cases h1:d<0
   ·have hr:Hid (vld nb l=false):=hIq (vld_no k hkl.out (by rw [hd'.out];exact .inl h1));go_wp2_with fail
    go_ret
    exact⟨by rw [hr.out];rfl,hS0.out.2⟩
   ·by_cases h2:d<1000000000
    ·have hall2:Hid (∀j,j<k+1->0<=iat l j/\iat l j<1000000000):=hIq (fun j h3=>by
      rcases Nat.lt_or_ge j k with h4|h4
      ·exact hall.out j h4
      ·obtain rfl:j=k:=by omega
       rw [hd'.out];omega)
     have h3:¬1000000000<=d:=by omega
     go_wp2_with fail
     exact⟨⟨k+1,by omega,by simp,hall2⟩,by simp [intOf];omega⟩
    ·have hr:Hid (vld nb l=false):=hIq (vld_no k hkl.out (by rw [hd'.out];omega));have h3:1000000000<=d:=by omega
     go_wp2_with fail
     go_ret
     exact⟨by rw [hr.out];rfl,hS0.out.2⟩
  ·have hk':k=n:=by omega
   subst hk';have hr:Hid (vld nb l=if l= [] then !nb else iat l (l.length - 1) !=0):=hIq (vld_yes fun j hj=>hall.out j (by rw [hn.out];exact hj));by_cases hz:k=0
   ·subst hz;have hl:Hid (vld nb l= !nb):=hIq (by rw [hr.out,if_pos (List.eq_nil_of_length_eq_zero hn.out.symm)]);go_wp2_with fail
    go_ret
    exact⟨by rw [hl.out];rfl,hS0.out.2⟩
   ·obtain⟨b,o,rfl,hc0⟩:=Rdi_at (Rdi_below hS0.out.2 hR.out) (k - 1) (by have:=hn.out;omega);obtain⟨m,rfl⟩:∃m,k=m+1:=⟨k - 1,by omega⟩;rw [Nat.add_sub_cancel] at hc0;have hl:Hid (vld nb l=(iat l m !=0)):=hIq (by rw [hr.out,if_neg (fun h=>by have:=hn.out;rw [h] at this;simp at this),<-hn.out,Nat.add_sub_cancel]);obtain⟨d,D⟩:∃d,iat l m=d:=⟨_,rfl⟩;rw [D] at hc0 hl;have e1:((m+1:Nat):Int) - 1=(m:Int):=by omega
    clear D hall hr;go_wp2_with fail
    go_ret
    exact⟨by rw [hl.out];rfl,hS0.out.2⟩
theorem rValid_any (nb:Bool)(p:Option Addr)(n c:Nat)(l:List Int)(w:World)(hR0:Rdi w p l)(hn0:n=l.length)(hmax:n<=4611686018427387904):
 Calls Tryz.prog 138 #[.agg #[.bool nb,.slice p n c]] w fun e w'=>e= .returned (.bool (vld nb l))/\Below w.heap.size w w':=by
 have hS0:=hIq (@Bx.start nb p n c w);have hR:=hIq hR0;have hn:=hIq hn0;clear hR0 hn0
 go_enter Tryz.func138,Tryz.ntmps138
 go_upto_region 1 with fail
 generalize w.alloc (.cells #[.bool nb,.slice p n c] 28)=W0 at hS0 ⊢;have hf:=hS0.out.facts;have hf1:=hf.1;have hf2:=hf.2;go_wp2_with fail
 go_loop [3] (fun i=>∃k:Nat,k<=n/\i= .int .i64 k/\Hid (∀j,j<k->0<=iat l j/\iat l j<1000000000)) (fun i=>n - (intOf i).toNat)
 case atStart=>exact⟨0,Nat.zero_le _,rfl,hIq (fun j hj=>by omega)⟩
 case round=>
  obtain⟨k,hk,rfl,hall⟩:=hrel;by_cases hlt:k<n
  ·have hkl:Hid (k<l.length):=hIq (by rw [<-hn.out];exact hlt);obtain⟨b,o,rfl,hc0⟩:=Rdi_at (Rdi_below hS0.out.2 hR.out) k hkl.out;obtain⟨d,D⟩:∃d,iat l k=d:=⟨_,rfl⟩;rw [D] at hc0;have hd':=hIq D;clear D;by_cases h1:d<0
   ·have hr:Hid (vld nb l=false):=hIq (vld_no k hkl.out (by rw [hd'.out];exact .inl h1));go_wp2_with fail
    go_ret
    exact⟨by rw [hr.out];rfl,hS0.out.2⟩
   ·by_cases h2:d<1000000000
    ·have hall2:Hid (∀j,j<k+1->0<=iat l j/\iat l j<1000000000):=hIq (fun j h3=>by
      rcases Nat.lt_or_ge j k with h4|h4
      ·exact hall.out j h4
      ·obtain rfl:j=k:=by omega
       rw [hd'.out];omega)
     have h3:¬1000000000<=d:=by omega
     go_wp2_with fail
     exact⟨⟨k+1,by omega,by simp,hall2⟩,by simp [intOf];omega⟩
    ·have hr:Hid (vld nb l=false):=hIq (vld_no k hkl.out (by rw [hd'.out];omega));have h3:1000000000<=d:=by omega
     go_wp2_with fail
     go_ret
     exact⟨by rw [hr.out];rfl,hS0.out.2⟩
  ·have hk':k=n:=by omega
   subst hk';have hr:Hid (vld nb l=if l= [] then !nb else iat l (l.length - 1) !=0):=hIq (vld_yes fun j hj=>hall.out j (by rw [hn.out];exact hj));by_cases hz:k=0
   ·subst hz;have hl:Hid (vld nb l= !nb):=hIq (by rw [hr.out,if_pos (List.eq_nil_of_length_eq_zero hn.out.symm)]);go_wp2_with fail
    go_ret
    exact⟨by rw [hl.out];rfl,hS0.out.2⟩
   ·obtain⟨b,o,rfl,hc0⟩:=Rdi_at (Rdi_below hS0.out.2 hR.out) (k - 1) (by have:=hn.out;omega);obtain⟨m,rfl⟩:∃m,k=m+1:=⟨k - 1,by omega⟩;rw [Nat.add_sub_cancel] at hc0;have hl:Hid (vld nb l=(iat l m !=0)):=hIq (by rw [hr.out,if_neg (fun h=>by have:=hn.out;rw [h] at this;simp at this),<-hn.out,Nat.add_sub_cancel]);obtain⟨d,D⟩:∃d,iat l m=d:=⟨_,rfl⟩;rw [D] at hc0 hl;have e1:((m+1:Nat):Int) - 1=(m:Int):=by omega
    clear D hall hr;go_wp2_with fail
    go_ret
    exact⟨by rw [hl.out];rfl,hS0.out.2⟩
section
variable {BT:List (TypeId×Nat×Nat)}
theorem eval_const (a:Act)(v:Value):a.eval (.const v)=v:=rfl
def VTup (A B:VP):VP:=fun v w=>∃x y,v= .tuple #[x,y]/\A x w/\B y w
theorem Stab_VTup {A B:VP}(hA:Stab BT A)(hB:Stab BT B):Stab BT (VTup A B):=fun _ _ _ ⟨x,y,h1,h2,h3⟩ hr=>⟨x,y,h1,hA _ _ _ h2 hr,hB _ _ _ h3 hr⟩
theorem RV2.tup {A B:VP}{W:World}{e:Ending}{w':World}(h:RV2 A B W e w'):RV (VTup A B) W e w':=by
 obtain⟨x,y,h1,h2,h3,h4⟩:=h;exact⟨_,h1,⟨x,y,rfl,h2,h3⟩,h4⟩
theorem agg_box {m:Nat}{V:VP}(hV:AggV m V){ρ v:Value}{w:World}(h1:ρ=v)(h2:V v w):∃z,ρ= .agg z/\z.size=m/\NoInt z/\V (.agg z) w:=by
 obtain⟨cs,rfl,e1,e2,-⟩:=hV _ _ h2;exact⟨cs,h1,e1,e2,h2⟩
theorem agg_store {m:Nat}{V:VP}(hV:AggV m V){ρ v:Value}{w:World}(h1:ρ=v)(h2:V v w):∃z,ρ= .agg z/\z.size=m/\NoInt z/\z.all (·.oneCell')=true/\V (.agg z) w:=by
 obtain⟨cs,rfl,e1,e2,e3⟩:=hV _ _ h2;exact⟨cs,h1,e1,e2,e3,h2⟩
theorem listed_dep {md:Region.Mode}{listed:Array Bool}{after:Array Edge}(D:∀e∈after,Region.binds md e=true->listed.getD e.on false=true)(j:Nat)(hj:after.any (fun e=>e.on==j && Region.binds md e)=true):onb listed (some j)=true:=by
 obtain⟨e,he,hb⟩:∃e,e∈after/\(e.on==j && Region.binds md e)=true:=by
  rw [Array.any_eq_true] at hj;obtain⟨i,hi,h1⟩:=hj;exact⟨after[i],Array.getElem_mem hi,h1⟩
 simp only [Bool.and_eq_true,beq_iff_eq] at hb;obtain⟨rfl,hb⟩:=hb;exact D e he hb
theorem run_extract0 {P:Program}{ρ:Operand->Value}{o:Oper}{W:World}{x:Operand}{a b:Value}(ho:o.op= .extract x 0)(hx:ρ x= .tuple #[a,b]):(execOp ρ o).run P W= .ok (.value a) W:=by
 obtain⟨d,op,ty,ps,af,gd⟩:=o;subst ho
 go_simp
theorem run_extract1 {P:Program}{ρ:Operand->Value}{o:Oper}{W:World}{x:Operand}{a b:Value}(ho:o.op= .extract x 1)(hx:ρ x= .tuple #[a,b]):(execOp ρ o).run P W= .ok (.value b) W:=by
 obtain⟨d,op,ty,ps,af,gd⟩:=o;subst ho
 go_simp
theorem run_neqi {ρ:Operand->Value}{o:Oper}{W:World}{x y:Operand}{a b:Int}(ho:o.op= .binOp .neq 3 x y 3)(hx:ρ x= .int .i64 a)(hy:ρ y= .int .i64 b):(execOp ρ o).run Tryz.prog W= .ok (.value (.bool (a !=b))) W:=by
 obtain⟨d,op,ty,ps,af,gd⟩:=o;subst ho
 go_simp
theorem run_lssi {ρ:Operand->Value}{o:Oper}{W:World}{x y:Operand}{a b:Int}(ho:o.op= .binOp .lss 3 x y 3)(hx:ρ x= .int .i64 a)(hy:ρ y= .int .i64 b):(execOp ρ o).run Tryz.prog W= .ok (.value (.bool (decide (a<b)))) W:=by
 obtain⟨d,op,ty,ps,af,gd⟩:=o;subst ho
 go_simp
theorem run_gtri {ρ:Operand->Value}{o:Oper}{W:World}{x y:Operand}{a b:Int}(ho:o.op= .binOp .gtr 3 x y 3)(hx:ρ x= .int .i64 a)(hy:ρ y= .int .i64 b):(execOp ρ o).run Tryz.prog W= .ok (.value (.bool (decide (b<a)))) W:=by
 obtain⟨d,op,ty,ps,af,gd⟩:=o;subst ho
 go_simp
theorem run_geqi {ρ:Operand->Value}{o:Oper}{W:World}{x y:Operand}{a b:Int}(ho:o.op= .binOp .geq 3 x y 3)(hx:ρ x= .int .i64 a)(hy:ρ y= .int .i64 b):(execOp ρ o).run Tryz.prog W= .ok (.value (.bool (decide (b<=a)))) W:=by
 obtain⟨d,op,ty,ps,af,gd⟩:=o;subst ho
 go_simp
theorem run_leqi {ρ:Operand->Value}{o:Oper}{W:World}{x y:Operand}{a b:Int}(ho:o.op= .binOp .leq 3 x y 3)(hx:ρ x= .int .i64 a)(hy:ρ y= .int .i64 b):(execOp ρ o).run Tryz.prog W= .ok (.value (.bool (decide (a<=b)))) W:=by
 obtain⟨d,op,ty,ps,af,gd⟩:=o;subst ho
 go_simp
theorem run_addi {ρ:Operand->Value}{o:Oper}{W:World}{x y:Operand}{a b c:Int}(ho:o.op= .binOp .add 3 x y 3)(hx:ρ x= .int .i64 a)(hy:ρ y= .int .i64 b)(hc:IntKind.i64.wrap (a+b)=c):(execOp ρ o).run Tryz.prog W= .ok (.value (.int .i64 c)) W:=by
 obtain⟨d,op,ty,ps,af,gd⟩:=o;subst ho
 go_simp
theorem field_Rat0 (g off:Nat)(W:World):(Instr.fieldAt 30 (.pointer (some ⟨g,off,none⟩)) 0).run Tryz.prog W= .ok (.pointer (some ⟨g,off+0,none⟩)) W:=by go_simp
theorem field_Rat1 (g off:Nat)(W:World):(Instr.fieldAt 30 (.pointer (some ⟨g,off,none⟩)) 1).run Tryz.prog W= .ok (.pointer (some ⟨g,off+2,none⟩)) W:=by go_simp
theorem alloc_Int (W:World):(Instr.alloc 28 true (.tuple #[])).run Tryz.prog W= .ok (.pointer (some ⟨W.heap.size,0,none⟩)) (W.alloc (.cells #[.bool false,.slice none 0 0] 28)):=by go_simp
theorem alloc_Rat (W:World):(Instr.alloc 30 true (.tuple #[])).run Tryz.prog W= .ok (.pointer (some ⟨W.heap.size,0,none⟩)) (W.alloc (.cells #[.bool false,.slice none 0 0,.bool false,.slice none 0 0] 30)):=by go_simp
theorem noint_of {cs:Array Value}(h:cs.all (fun v=>match v with| .int .i64 _=>false|_=>true)=true):NoInt cs:=fun i x hx=>by
 rw [Array.all_eq_true] at h
 have hi:i<cs.size:=by
  rcases Nat.lt_or_ge i cs.size with h'|h'
  ·exact h'
  ·rw [Array.getElem?_eq_none h'] at hx;cases hx
 have h1:=h i hi;rw [Array.getElem?_eq_getElem hi] at hx;have h2:cs[i]=Value.int .i64 x:=by simpa using hx
 rw [h2] at h1;cases h1
theorem noint_Int:NoInt #[Value.bool false,.slice none 0 0]:=noint_of (by simp)
theorem noint_Rat:NoInt #[Value.bool false,.slice none 0 0,.bool false,.slice none 0 0]:=noint_of (by simp)
theorem arr2 {x:Array Value}(h:x.size=2):∃a b,x=#[a,b]:=by
 match x,h with
 |⟨[a,b]⟩,_=>exact⟨a,b,rfl⟩
theorem arr4 {x:Array Value}(h:x.size=4):∃a b c d,x=#[a,b,c,d]:=by
 match x,h with
 |⟨[a,b,c,d]⟩,_=>exact⟨a,b,c,d,rfl⟩
theorem build_Rat {ρ:Operand->Value}{o:Oper}{W:World}{x y:Operand}{va vb:Value}{A B:VP}(ho:o.op= .build 30 #[(0,x),(1,y)])(hx:ρ x=va)(hy:ρ y=vb)(hA:AggV 2 A)(hB:AggV 2 B)(h1:A va W)(h2:B vb W):∃v,(execOp ρ o).run Tryz.prog W= .ok (.value v) W/\VP2 2 2 A B v W:=by
 obtain⟨cx,rfl,e1,-⟩:=hA _ _ h1;obtain⟨cy,rfl,e2,-⟩:=hB _ _ h2;obtain⟨a,b,rfl⟩:=arr2 e1;obtain⟨c,d,rfl⟩:=arr2 e2;refine⟨.agg (#[a,b]++ #[c,d]),?_,⟨_,_,rfl,rfl,rfl,h1,h2⟩⟩;obtain⟨dd,op,ty,ps,af,gd⟩:=o;subst ho
 go_simp
theorem build_Rat1 {ρ:Operand->Value}{o:Oper}{W:World}{x:Operand}{va:Value}{A:VP}(N:Nat)(ho:o.op= .build 30 #[(0,x)])(hx:ρ x=va)(hA:AggV 2 A)(h1:A va W):∃v,(execOp ρ o).run Tryz.prog W= .ok (.value v) W/\VP2 2 2 A (Vz N 0) v W:=by
 obtain⟨cx,rfl,e1,-⟩:=hA _ _ h1;obtain⟨a,b,rfl⟩:=arr2 e1;refine⟨.agg (#[a,b]++ #[.bool false,.slice none 0 0]),?_,⟨_,_,rfl,rfl,rfl,h1,⟨_,_,_,_,rfl,IntAt_zero _ _ _ (by omega),by omega⟩⟩⟩;obtain⟨dd,op,ty,ps,af,gd⟩:=o;subst ho
 go_simp
theorem build_Rat0 {ρ:Operand->Value}{o:Oper}{W:World}(ho:o.op= .build 30 #[]):∃v,(execOp ρ o).run Tryz.prog W= .ok (.value v) W/\Vq 1 0 v W:=by
 refine⟨.agg (#[.bool false,.slice none 0 0]++ #[.bool false,.slice none 0 0]),?_,⟨_,_,rfl,rfl,rfl,⟨_,_,_,_,rfl,IntAt_zero _ _ _ (by omega),by omega⟩,⟨_,_,_,_,rfl,IntAt_zero _ _ _ (by omega),by omega⟩⟩⟩;obtain⟨dd,op,ty,ps,af,gd⟩:=o;subst ho
 go_simp
def VD (N:Nat)(e:Int):VP:=fun v w=>∃p n c,v= .slice p n c/\n=(digs e.natAbs).length/\Rdi w p (digs e.natAbs)/\n<=c/\c<=9223372036854775807/\n<=N
theorem Stab_VD (N:Nat)(e:Int):Stab BT (VD N e):=fun _ _ _ ⟨p,n,c,h1,h2,h3,h4⟩ hr=>⟨p,n,c,h1,h2,Rdi_RI hr h3,h4⟩
def VO (N:Nat)(e:Int):VP:=fun v w=>∃p n c l,v= .slice p n c/\n=l.length/\Rdi w p l/\n<=c/\c<=9223372036854775807/\Dg l/\val l=e/\n<=N
theorem Stab_VO (N:Nat)(e:Int):Stab BT (VO N e):=fun _ _ _ ⟨p,n,c,l,h1,h2,h3,h4⟩ hr=>⟨p,n,c,l,h1,h2,Rdi_RI hr h3,h4⟩
theorem field_Int0 (g off:Nat)(W:World):(Instr.fieldAt 28 (.pointer (some ⟨g,off,none⟩)) 0).run Tryz.prog W= .ok (.pointer (some ⟨g,off+0,none⟩)) W:=by go_simp
theorem vz_N {N:Nat}{z:Int}{cs:Array Value}{w:World}(h:Vz N z (.agg cs) w):∃v,cs[0]? =some v/\Vb (decide (z<0)) v w:=by
 obtain⟨nb,p,n,c,h1,h2,-⟩:=h;cases h1;exact⟨_,rfl,congrArg Value.bool h2.1⟩
theorem vz_NT {N:Nat}{z:Int}{cs:Array Value}{w:World}(h:Vz N z (.agg cs) w)(hz:z<0):∃v,cs[0]? =some v/\Vb true v w:=by
 obtain⟨v,h1,h2⟩:=vz_N h;rw [dT hz] at h2;exact⟨v,h1,h2⟩
theorem vz_NF {N:Nat}{z:Int}{cs:Array Value}{w:World}(h:Vz N z (.agg cs) w)(hz:¬z<0):∃v,cs[0]? =some v/\Vb false v w:=by
 obtain⟨v,h1,h2⟩:=vz_N h;rw [dF hz] at h2;exact⟨v,h1,h2⟩
theorem run_neqb {ρ:Operand->Value}{o:Oper}{W:World}{x y:Operand}{a b:Bool}(ho:o.op= .binOp .neq 4 x y 4)(hx:ρ x= .bool a)(hy:ρ y= .bool b):(execOp ρ o).run Tryz.prog W= .ok (.value (.bool (a !=b))) W:=by
 obtain⟨d,op,ty,ps,af,gd⟩:=o;subst ho;cases a<;>cases b<;>go_simp
theorem build_Int0 {ρ:Operand->Value}{o:Oper}{W:World}(ho:o.op= .build 28 #[]):∃v,(execOp ρ o).run Tryz.prog W= .ok (.value v) W/\Vz 1 0 v W:=by
 refine⟨.agg #[.bool false,.slice none 0 0],?_,⟨_,_,_,_,rfl,IntAt_zero _ _ _ (by omega),by omega⟩⟩;obtain⟨dd,op,ty,ps,af,gd⟩:=o;subst ho
 go_simp
theorem bslice_one {ρ:Operand->Value}{o:Oper}{W:World}{d:Int}(ho:o.op= .buildSlice 22 1 #[(0,.const (.int .i64 d))])(hρ:ρ (.const (.int .i64 d))= .int .i64 d)(h0:0<=d)(h1:d<1000000000):∃v w',(execOp ρ o).run Tryz.prog W= .ok (.value v) w'/\Below W.heap.size W w'/\VO 1 d v w':=by
 refine⟨.slice (some ⟨W.heap.size,0,none⟩) 1 1,W.alloc (.cells #[.int .i64 d] 3),?_,below_new _ _,⟨_,_,_,[d],rfl,rfl,(Blk_new W [d]).rdi,Nat.le_refl _,by omega,Dg_cons h0 h1 Dg_nil,by simp [val],Nat.le_refl _⟩⟩;obtain⟨dd,op,ty,ps,af,gd⟩:=o;subst ho
 go_simp
theorem field_Int1 (g off:Nat)(W:World):(Instr.fieldAt 28 (.pointer (some ⟨g,off,none⟩)) 1).run Tryz.prog W= .ok (.pointer (some ⟨g,off+1,none⟩)) W:=by go_simp
theorem vz_D {N:Nat}{z:Int}{cs:Array Value}{w:World}(h:Vz N z (.agg cs) w):∃v,cs[1]? =some v/\VD N z v w:=by
 obtain⟨nb,p,n,c,h1,h2,h3⟩:=h;cases h1;exact⟨_,rfl,p,n,c,rfl,h2.2.1,h2.2.2.1,h2.2.2.2.1,h2.2.2.2.2,h3⟩
theorem vq_D3 {N:Nat}{q:Rat}{cs:Array Value}{w:World}(h:Vq N q (.agg cs) w):∃v,cs[3]? =some v/\VD N (qd q) v w:=by
 obtain⟨x,y,h1,h2,h3,h4,h5⟩:=h;obtain⟨nb,p,n,c,e1,e2,-⟩:=h4;obtain⟨nb2,p2,n2,c2,f1,f2,f3⟩:=h5;cases h3;cases e1;cases f1;exact⟨_,rfl,p2,n2,c2,rfl,f2.2.1,f2.2.2.1,f2.2.2.2.1,f2.2.2.2.2,f3⟩
theorem run_len {ρ:Operand->Value}{o:Oper}{W:World}{x:Operand}{p:Option Addr}{n c:Nat}(ho:o.op= .call {callee:= .builtin .len,args:=#[x],argTypes:=#[22]})(hty:o.type=3)(hx:ρ x= .slice p n c):(execOp ρ o).run Tryz.prog W= .ok (.value (.int .i64 (n:Int))) W:=by
 obtain⟨dd,op,ty,ps,af,gd⟩:=o;subst ho;simp only at hty;subst hty
 go_simp
theorem len_eq0 (z:Int):(((digs z.natAbs).length:Int)==0)=decide (z=0):=by
 by_cases h:z=0
 ·subst h;rw [dT rfl];rw [show(0:Int).natAbs=0 by rfl,digs_zero];rfl
 ·rw [dF h];have:(digs z.natAbs).length≠0:=fun e=>h (by have:=digs_nil.1 (List.eq_nil_of_length_eq_zero e);omega)
  simp;exact fun e=>this (by rw [e];rfl)
theorem cmp0 (a b:Int):(cmpI a b==0)=decide (a=b):=by
 rcases Int.lt_trichotomy a b with h|h|h
 ·rw [cmp_lt h,dF (by omega)];rfl
 ·rw [h,cmp_eq,dT rfl];rfl
 ·rw [cmp_gt h,dF (by omega)];rfl
theorem qd0 (q:Rat):qd q=0↔q.den=1:=by
 unfold qd;have:=q.den_pos;split
 ·simp_all
 ·constructor
  ·intro h;omega
  ·intro h;exact absurd h (by assumption)
theorem qd_inj {a b:Rat}(h1:a.num=b.num):qd a=qd b↔a=b:=by
 constructor
 ·intro h;have ha:=a.den_pos;have hb:=b.den_pos;unfold qd at h;refine Rat.ext h1 ?_;split at h<;>split at h<;>omega
 ·rintro rfl;rfl
theorem cCmp {W:World}{a b:Int}{v1 v2:Value}(h1:Vi a v1 W)(h2:Vi b v2 W):Calls Tryz.prog 71 #[v1,v2] W (RV (Vi (cmpI a b)) W):=by
 obtain rfl:=h1;obtain rfl:=h2;exact(cmp_any a b W).mono fun e w' ⟨he,hw⟩=>⟨_,he,rfl,hw ▸ Below.refl _ _⟩
theorem cOfV {W:World}{n:Int}{v:Value}(h:Vi n v W)(h1: -9223372036854775808<=n:=by omega)(h2:n<=9223372036854775807:=by omega):Calls Tryz.prog 104 #[v] W (RV (Vz 3 n) W):=by
 obtain rfl:=h;exact cOf n h1 h2
def cmpQ (a b:Rat):Int:=cmpI (a.num*(b.den:Int)) (b.num*(a.den:Int))
theorem cmpQ_lt {a b:Rat}:cmpQ a b= -1↔a<b:=by
 rw [Rat.lt_iff];unfold cmpQ;rcases Int.lt_trichotomy (a.num*(b.den:Int)) (b.num*(a.den:Int))with h|h|h
 ·rw [cmp_lt h];simp [h]
 ·rw [h,cmp_eq];simp
 ·rw [cmp_gt h];simp;omega
theorem cmpQ_gt {a b:Rat}:cmpQ a b=1↔b<a:=by
 rw [Rat.lt_iff];unfold cmpQ;rcases Int.lt_trichotomy (a.num*(b.den:Int)) (b.num*(a.den:Int))with h|h|h
 ·rw [cmp_lt h];simp;omega
 ·rw [h,cmp_eq];simp
 ·rw [cmp_gt h];simp [h]
theorem cmpQ_eq {a b:Rat}:cmpQ a b=0↔a=b:=by
 rw [Rat.eq_iff_mul_eq_mul];unfold cmpQ;rcases Int.lt_trichotomy (a.num*(b.den:Int)) (b.num*(a.den:Int))with h|h|h
 ·rw [cmp_lt h];simp;omega
 ·rw [h,cmp_eq];simp
 ·rw [cmp_gt h];simp;omega
theorem cmpQ_sign {a b:Rat}(h:¬cmpI a.num 0=cmpI b.num 0):cmpI (cmpI a.num 0) (cmpI b.num 0)=cmpQ a b:=by
 have ha:=a.den_pos;have hb:=b.den_pos;unfold cmpQ;have p1:0<a.num->0<a.num*(b.den:Int):=fun h=>Int.mul_pos h (by omega)
 have p2:a.num<0->a.num*(b.den:Int)<0:=fun h=>Int.mul_neg_of_neg_of_pos h (by omega)
 have p3:0<b.num->0<b.num*(a.den:Int):=fun h=>Int.mul_pos h (by omega)
 have p4:b.num<0->b.num*(a.den:Int)<0:=fun h=>Int.mul_neg_of_neg_of_pos h (by omega)
 have z1:a.num=0->a.num*(b.den:Int)=0:=fun h=>by rw [h,Int.zero_mul]
 have z2:b.num=0->b.num*(a.den:Int)=0:=fun h=>by rw [h,Int.zero_mul]
 generalize a.num*(b.den:Int)=X at*
 generalize b.num*(a.den:Int)=Y at*
 generalize a.num=x at*
 generalize b.num=y at*
 rcases Int.lt_trichotomy x 0 with h1|h1|h1<;>rcases Int.lt_trichotomy y 0 with h2|h2|h2
 ·exact absurd (by rw [cmp_lt h1,cmp_lt h2]) h
 ·rw [cmp_lt h1,h2,cmp_eq,cmp_lt (by omega),cmp_lt (by have:=p2 h1;have:=z2 h2;omega)]
 ·rw [cmp_lt h1,cmp_gt h2,cmp_lt (by omega),cmp_lt (by have:=p2 h1;have:=p3 h2;omega)]
 ·rw [h1,cmp_eq,cmp_lt h2,cmp_gt (by omega),cmp_gt (by have:=z1 h1;have:=p4 h2;omega)]
 ·exact absurd (by rw [h1,h2]) h
 ·rw [h1,cmp_eq,cmp_gt h2,cmp_lt (by omega),cmp_lt (by have:=z1 h1;have:=p3 h2;omega)]
 ·rw [cmp_gt h1,cmp_lt h2,cmp_gt (by omega),cmp_gt (by have:=p1 h1;have:=p4 h2;omega)]
 ·rw [cmp_gt h1,h2,cmp_eq,cmp_gt (by omega),cmp_gt (by have:=p1 h1;have:=z2 h2;omega)]
 ·exact absurd (by rw [cmp_gt h1,cmp_gt h2]) h
theorem qd_of {q:Rat}(h:¬q.den=1):qd q=(q.den:Int):=if_neg h
theorem vld_int {nb:Bool}{z:Int}(h:nb=decide (z<0)):vld nb (digs z.natAbs)=true:=by
 unfold vld;rw [Bool.and_eq_true];refine⟨?_,?_⟩
 ·rw [List.all_eq_true];intro d D;obtain⟨k,hk,rfl⟩:=List.getElem_of_mem D;have:=Dg_digs z.natAbs k hk;rw [iat_mem hk] at this;simp [this]
 ·by_cases hz:z.natAbs=0
  ·rw [hz,digs_zero,if_pos rfl,h,dF (by omega)];rfl
  ·rw [if_neg (fun e=>hz (digs_nil.1 e))]
   simpa using digs_top hz
theorem cZValid {W:World}{N:Nat}{z:Int}{v:Value}(h:Vz N z v W)(hN:N<=1000000:=by omega):Calls Tryz.prog 129 #[v] W (RV (Vb true) W):=by
 obtain⟨nb,p,n,c,rfl,hI,hn⟩:=h;have:=Valid_any nb p n c (digs z.natAbs) W hI.2.2.1 hI.2.1 (by omega);rw [vld_int hI.1] at this;exact this.mono fun e w' h=>⟨_,h.1,rfl,h.2⟩
end
end Go.Proofs.YteacdbgalloaiaaGreat
