/- Contracts of the packages integer, rat, plane, polygon and their references. -/
import Derived.Test.YteacdbgalloaiaaGreatX24
set_option linter.unusedVariables false
set_option maxRecDepth 100000
set_option maxHeartbeats 6400000
namespace Go.Proofs.YteacdbgalloaiaaGreat
open Go Go.RowKit
def rel (o v:P2):P2:=(v.1 - o.1,v.2 - o.2)
structure Star (vs:List P2)(o:P2)(th:Nat->Nat):Prop where
 up:∀k,th k<th (k+1)
 per:∀k,th (k+vs.length)=th k+16
 pos:∀i j,th i<th j->th j<th i+8->0<crs (rel o (cv vs i)) (rel o (cv vs j))
 zer:∀i j,th j=th i+8->crs (rel o (cv vs i)) (rel o (cv vs j))=0
theorem sdD_crs (o a b p:P2):sdD a b p=crs (rel o a) (rel o b)+crs (rel o b) (rel o p)+crs (rel o p) (rel o a):=by
 unfold sdD crs rel
 grind
section
variable {vs:List P2}{o:P2}{th:Nat->Nat}
def lft (vs:List P2)(k:Nat)(p:P2):Rat:=sdD (cv vs k) (cv vs (k+1)) p
theorem Star.le (S:Star vs o th){i j:Nat}(h:i<=j):th i<=th j:=by
 induction j with
 |zero=>rw [show i=0 by omega];exact Nat.le_refl _
 |succ j ih=>
  rcases Nat.lt_or_ge i (j+1)with h'|h'
  ·exact Nat.le_trans (ih (by omega)) (Nat.le_of_lt (S.up j))
  ·rw [show i=j+1 by omega];exact Nat.le_refl _
theorem Star.lt (S:Star vs o th){i j:Nat}(h:i<j):th i<th j:=Nat.lt_of_lt_of_le (S.up i) (S.le h)
theorem Star.nn (S:Star vs o th){i j:Nat}(h:th i<th j)(h8:th j<=th i+8):0<=crs (rel o (cv vs i)) (rel o (cv vs j)):=by
 rcases Nat.lt_or_ge (th j) (th i+8)with h'|h'
 ·exact Rat.le_of_lt (S.pos i j h h')
 ·rw [S.zer i j (by omega)];exact Rat.le_refl
def wdt (vs:List P2)(o:P2)(k:Nat):Rat:=crs (rel o (cv vs k)) (rel o (cv vs (k+1)))
theorem id_fwd (q0 q1 q2 v:P2):(crs q0 q1+crs q1 v+crs v q0)*crs q1 q2=(crs q1 q2+crs q2 v+crs v q1)*crs q0 q1+(crs q0 q1+crs q1 q2+crs q2 q0)*crs q1 v:=by
 unfold crs
 grind
theorem id_bwd (p0 p1 p2 v:P2):(crs p1 p2+crs p2 v+crs v p1)*crs p0 p1=(crs p0 p1+crs p1 v+crs v p0)*crs p1 p2+(crs p0 p1+crs p1 p2+crs p2 p0)*crs v p1:=by
 unfold crs
 grind
theorem id_big (k0 k1 j0 j1:P2):crs j0 j1*(crs k0 k1+crs k1 j0+crs j0 k0)=crs j0 k0*(crs j0 j1+crs j1 k1+crs k1 j0)+crs k1 j0*(crs j0 j1+crs j1 k0+crs k0 j0):=by
 unfold crs
 grind
theorem pos_of_mul {x w:Rat}(hw:0<w)(h:0<x*w):0<x:=by
 refine Classical.byContradiction fun h'=>?_
 have h2:x<=0:=Rat.not_lt.1 h';have:=Rat.mul_nonneg (a:= -x) (b:=w) (by grind) (Rat.le_of_lt hw)
 grind
theorem Star.fwd (S:Star vs o th)(hl:∀k,0<lft vs k (cv vs (k+2))):∀t k,th (k+2+t)<=th (k+1)+8->0<wdt vs o k->0<lft vs k (cv vs (k+2+t))
 |0,k,_,_=>hl k
 |t+1,k,h,hw=>by
  have a1:th (k+1)<th (k+2):=S.up (k+1);have a2:th (k+2)<th (k+2+(t+1)):=S.lt (by omega);have hw1:0<wdt vs o (k+1):=S.pos (k+1) (k+2) a1 (by omega);have ih:=S.fwd hl t (k+1) (by rw [show k+1+2+t=k+2+(t+1) by omega];show _<=th (k+2)+8;omega) hw1;rw [show k+1+2+t=k+2+(t+1) by omega] at ih;have hn:=S.nn (i:=k+1) (j:=k+2+(t+1)) (by omega) h;have h2:=hl k;have e:=id_fwd (rel o (cv vs k)) (rel o (cv vs (k+1))) (rel o (cv vs (k+2))) (rel o (cv vs (k+2+(t+1))));unfold lft at ih h2 ⊢;rw [sdD_crs o] at ih h2 ⊢;unfold wdt at hw hw1;refine pos_of_mul hw1 ?_;show 0<_*crs (rel o (cv vs (k+1))) (rel o (cv vs (k+2)));rw [e];have p1:=Rat.mul_pos ih hw;have p2:=Rat.mul_nonneg (Rat.le_of_lt h2) hn
  grind
theorem Star.bwd (S:Star vs o th)(hl:∀k,0<lft vs k (cv vs (k+2))):∀t i,th (i+1+t)<=th i+8->0<wdt vs o (i+1+t)->0<lft vs (i+1+t) (cv vs i)
 |0,i,_,_=>by
  have h:=hl i;unfold lft at h ⊢;rw [sdD_crs o] at h ⊢;show 0<crs (rel o (cv vs (i+1))) (rel o (cv vs (i+2)))+crs (rel o (cv vs (i+2))) (rel o (cv vs i))+crs (rel o (cv vs i)) (rel o (cv vs (i+1)))
  grind
 |t+1,i,h,hw=>by
  have a1:th (i+1+t)<th (i+1+(t+1)):=S.up (i+1+t);have a2:th i<th (i+1+t):=S.lt (by omega);have hw1:0<wdt vs o (i+1+t):=S.pos _ _ a1 (by show th (i+1+(t+1))<_;omega);have ih:=S.bwd hl t i (by omega) hw1;have hn:=S.nn (i:=i) (j:=i+1+(t+1)) (by omega) h;have h2:=hl (i+1+t);have e:=id_bwd (rel o (cv vs (i+1+t))) (rel o (cv vs (i+1+t+1))) (rel o (cv vs (i+1+t+2))) (rel o (cv vs i));unfold lft at ih h2 ⊢;rw [sdD_crs o] at ih h2 ⊢;unfold wdt at hw hw1;refine pos_of_mul hw1 ?_;show 0<(crs (rel o (cv vs (i+1+t+1))) (rel o (cv vs (i+1+t+2)))+crs (rel o (cv vs (i+1+t+2))) (rel o (cv vs i))+crs (rel o (cv vs i)) (rel o (cv vs (i+1+t+1))))*_;rw [e];have p1:=Rat.mul_pos ih hw;have p2:=Rat.mul_nonneg (Rat.le_of_lt h2) hn;show 0<_*crs (rel o (cv vs (i+1+t+1))) (rel o (cv vs (i+1+t+2)))+_;have p1':0<(crs (rel o (cv vs (i+1+t))) (rel o (cv vs (i+1+t+1)))+crs (rel o (cv vs (i+1+t+1))) (rel o (cv vs i))+crs (rel o (cv vs i)) (rel o (cv vs (i+1+t))))*crs (rel o (cv vs (i+1+t+1))) (rel o (cv vs (i+1+t+2))):=p1
  grind
theorem lft_per (k:Nat)(p:P2):lft vs (k+vs.length) p=lft vs k p:=by
 unfold lft;rw [cv_per,show k+vs.length+1=k+1+vs.length by omega,cv_per]
theorem wdt_per (k:Nat):wdt vs o (k+vs.length)=wdt vs o k:=by
 unfold wdt;rw [cv_per,show k+vs.length+1=k+1+vs.length by omega,cv_per]
theorem Star.some (S:Star vs o th)(hl:∀k,0<lft vs k (cv vs (k+2))){k j:Nat}(hw:0<wdt vs o k)(h1:k+2<=j)(h2:j<k+vs.length):0<lft vs k (cv vs j):=by
 rcases Nat.lt_or_ge (th (k+1)+8) (th j)with h|h
 ·have h3:=S.per k;have h4:=S.up k;have:=S.bwd hl (k+vs.length - j - 1) j (by rw [show j+1+(k+vs.length - j - 1)=k+vs.length by omega];omega) (by rw [show j+1+(k+vs.length - j - 1)=k+vs.length by omega,wdt_per];exact hw);rw [show j+1+(k+vs.length - j - 1)=k+vs.length by omega,lft_per] at this;exact this
 ·have:=S.fwd hl (j - (k+2)) k (by rw [show k+2+(j - (k+2))=j by omega];exact h) hw;rw [show k+2+(j - (k+2))=j by omega] at this;exact this
theorem Star.all (S:Star vs o th)(hl:∀k,0<lft vs k (cv vs (k+2))){k j:Nat}(h1:k+2<=j)(h2:j<k+vs.length):0<lft vs k (cv vs j):=by
 rcases Nat.lt_or_ge (th (k+1)) (th k+8)with h|h
 ·exact S.some hl (S.pos _ _ (S.up k) h) h1 h2
 ·have a1:=S.per k;have a2:th j<th (k+vs.length):=S.lt h2;have a3:th (k+1)<th j:=S.lt (by omega);have a4:th (j+1)<=th (k+vs.length):=S.le (by omega);have hwj:0<wdt vs o j:=S.pos _ _ (S.up j) (by omega)
  have f1:0<lft vs j (cv vs (k+1)):=by
   have:=S.some hl hwj (j:=k+1+vs.length) (by omega) (by omega);rwa [cv_per] at this
  have f2:0<=lft vs j (cv vs k):=by
   rcases Nat.lt_or_ge (j+1) (k+vs.length)with h'|h'
   ·have:=S.some hl hwj (j:=k+vs.length) (by omega) (by omega);rw [cv_per] at this;exact Rat.le_of_lt this
   ·have e:cv vs (j+1)=cv vs k:=by rw [show j+1=k+vs.length by omega,cv_per]
    unfold lft sdD;rw [e]
    grind
  have c1:0<crs (rel o (cv vs j)) (rel o (cv vs k)):=by
   have:=S.pos j (k+vs.length) a2 (by omega);rwa [cv_per] at this
  have c2:0<crs (rel o (cv vs (k+1))) (rel o (cv vs j)):=S.pos _ _ a3 (by omega);have e:=id_big (rel o (cv vs k)) (rel o (cv vs (k+1))) (rel o (cv vs j)) (rel o (cv vs (j+1)));unfold lft at f1 f2 ⊢;rw [sdD_crs o] at f1 f2 ⊢;unfold wdt at hwj;refine pos_of_mul hwj ?_;rw [Rat.mul_comm,e];have p1:=Rat.mul_pos c1 f1;have p2:=Rat.mul_nonneg (Rat.le_of_lt c2) f2
  grind
end
def Cvx (vs:List P2):Prop:=3<=vs.length/\∀k j,k+2<=j->j<k+vs.length->0<lft vs k (cv vs j)
section
variable {vs:List P2}
theorem cv_any (h:0<vs.length){v:P2}(hv:v∈vs):∀k,∃t,t<vs.length/\cv vs (k+t)=v
 |0=>by
  obtain⟨i,hi,e⟩:=List.mem_iff_getElem.1 hv;exact⟨i,hi,by rw [Nat.zero_add];exact cv_of (by rw [List.getElem?_eq_getElem hi,e])⟩
 |k+1=>by
  obtain⟨t,ht,e⟩:=cv_any h hv k
  match t,ht,e with
  |0,_,e=>exact⟨vs.length - 1,by omega,by rw [show k+1+(vs.length - 1)=k+0+vs.length by omega,cv_per];exact e⟩
  |t+1,ht,e=>exact⟨t,by omega,by rw [show k+1+t=k+(t+1) by omega];exact e⟩
theorem lft_a (k:Nat):lft vs k (cv vs k)=0:=by unfold lft sdD;grind
theorem lft_b (k:Nat):lft vs k (cv vs (k+1))=0:=by unfold lft sdD;grind
theorem lft_pt (k:Nat)(p q:P2)(s:Rat):lft vs k (ptS p q s)=lft vs k p+s*(lft vs k q - lft vs k p):=by unfold lft sdD ptS;grind
theorem lft_mod (k:Nat)(p:P2):lft vs (k % vs.length) p=lft vs k p:=by
 unfold lft;rw [cv_mod,show cv vs (k % vs.length+1)=cv vs (k+1) by unfold cv;rw [Nat.mod_add_mod]]
theorem Cvx.pos (C:Cvx vs):0<vs.length:=Nat.lt_of_lt_of_le (by decide) C.1
theorem Cvx.nn (C:Cvx vs)(k:Nat){v:P2}(hv:v∈vs):0<=lft vs k v:=by
 obtain⟨t,ht,e⟩:=cv_any C.pos hv k;rw [<-e]
 match t,ht with
 |0,_=>rw [Nat.add_zero,lft_a];exact Rat.le_refl
 |1,_=>rw [lft_b];exact Rat.le_refl
 |t+2,ht=>exact Rat.le_of_lt (C.2 k (k+(t+2)) (by omega) (by omega))
theorem sq_nn (x:Rat):0<=x*x:=by
 have:x<0∨x=0∨0<x:=by grind
 rcases this with h|h|h
 ·have:=Rat.mul_pos (a:= -x) (b:= -x) (by grind) (by grind)
  grind
 ·rw [h,Rat.zero_mul];exact Rat.le_refl
 ·exact Rat.le_of_lt (Rat.mul_pos h h)
theorem sq_ps {x:Rat}(h:x≠0):0<x*x:=by
 have:x<0∨x=0∨0<x:=by grind
 rcases this with h1|h1|h1
 ·have:=Rat.mul_pos (a:= -x) (b:= -x) (by grind) (by grind)
  grind
 ·exact absurd h1 h
 ·exact Rat.mul_pos h1 h1
theorem Cvx.in1 (C:Cvx vs){p:P2}(h:hasI vs p=1)(k:Nat):0<lft vs k p:=by
 have h2:=C.2 k (k+2) (Nat.le_refl _) (by have:=C.1;omega)
 have hm:0<((cv vs (k+1)).2 - (cv vs k).2)*((cv vs (k+1)).2 - (cv vs k).2)+ -((cv vs (k+1)).1 - (cv vs k).1)* -((cv vs (k+1)).1 - (cv vs k).1):=by
  by_cases e:(cv vs (k+1)).2 - (cv vs k).2=0
  ·have e2: -((cv vs (k+1)).1 - (cv vs k).1)≠0:=by
    intro e2;unfold lft sdD at h2;rw [e,show(cv vs (k+1)).1 - (cv vs k).1=0 by grind] at h2;rw [Rat.zero_mul,Rat.zero_mul] at h2
    grind
   have:=sq_ps e2;rw [e,Rat.zero_mul,Rat.zero_add];exact this
  ·have a1:=sq_ps e;have a2:=sq_nn (-((cv vs (k+1)).1 - (cv vs k).1))
   grind
 obtain⟨u,hu,v,hv,-,h3⟩:=in_dir h ((cv vs (k+1)).2 - (cv vs k).2,-((cv vs (k+1)).1 - (cv vs k).1)) hm;have h4:=C.nn k hv;unfold ln at h3;unfold lft sdD at h4 ⊢
 grind
theorem hasI_three (p:P2):hasI vs p=0∨hasI vs p=1∨hasI vs p= -1:=by
 unfold hasI;split
 ·exact .inl rfl
 ·exact .inr (whr_one _ _ _)
theorem hasI_side {p:P2}(h:hasI vs p=0):∃j t:_,j<vs.length/\0<=t/\t<=1/\p=ptS (cv vs j) (cv vs (j+1)) t:=by
 unfold hasI at h;split at h
 ·rename_i hh
  obtain⟨j,hj,h2⟩:=hh;obtain⟨t,h3,h4,h5⟩:=hasS_iff.1 h2;exact⟨j,t,List.mem_range.1 hj,h3,h4,h5⟩
 ·rcases whr_one vs p (List.range vs.length)with q|q<;>rw [q] at h<;>cases h
theorem Cvx.in0 (C:Cvx vs){p:P2}(h:hasI vs p=0)(k:Nat):0<=lft vs k p:=by
 obtain⟨j,t,-,h1,h2,rfl⟩:=hasI_side h;rw [lft_pt];have a1:=C.nn k (cv_mem C.pos j);have a2:=C.nn k (cv_mem C.pos (j+1));have b1:=Rat.mul_nonneg h1 a2;have b2:=Rat.mul_nonneg (a:=1 - t) (by grind) a1
 grind
theorem Cvx.ge (C:Cvx vs){p:P2}(h:0<=hasI vs p)(k:Nat):0<=lft vs k p:=by
 rcases hasI_three (vs:=vs) p with q|q|q
 ·exact C.in0 q k
 ·exact Rat.le_of_lt (C.in1 q k)
 ·omega
theorem not_on {p:P2}(h:∀k,0<lft vs k p):∀k,k<vs.length->¬hasS (cv vs k) (cv vs (k+1)) p=true:=fun k _ h2=>by
 obtain⟨t,-,-,h5⟩:=hasS_iff.1 h2;have:=h k;rw [h5,lft_pt,lft_a,lft_b] at this;rw [show(0:Rat)+t*(0 - 0)=0 by grind] at this;exact absurd this (by decide)
theorem least_of (F:Nat->Rat):∀N,(∀j,j<N->0<F j)->∃m:Rat,0<m/\∀j,j<N->m<=F j
 |0,_=>⟨1,by decide,fun j h=>by omega⟩
 |N+1,h=>by
  obtain⟨m,h1,h2⟩:=least_of F N fun j hj=>h j (by omega)
  by_cases hc:F N<m
  ·exact⟨F N,h N (by omega),fun j hj=>by
    rcases Nat.lt_or_ge j N with q|q
    ·exact Rat.le_trans (Rat.le_of_lt hc) (h2 j q)
    ·rw [show j=N by omega];exact Rat.le_refl⟩
  ·exact⟨m,h1,fun j hj=>by
    rcases Nat.lt_or_ge j N with q|q
    ·exact h2 j q
    ·rw [show j=N by omega];exact Rat.not_lt.1 hc⟩
theorem pzT_none {f:Nat->Bool}:∀n,(∀k,k<n->f k=false)->pzT f n=1
 |0,_=>rfl
 |n+1,h=>by
  show pzT f n*sgb (f n)=1;rw [pzT_none n fun k hk=>h k (by omega),h n (by omega)];rfl
theorem Cvx.some (C:Cvx vs):∃r,hasI vs r=1/\∀k,0<lft vs k r:=by
 have n3:=C.1;obtain⟨m,hm⟩:∃m,vs.length=m+3:=⟨vs.length - 3,by omega⟩;have c0:cv vs (m+3)=cv vs 0:=by have:=cv_per vs 0;rwa [Nat.zero_add,hm] at this
 have c1:cv vs (m+4)=cv vs 1:=by have:=cv_per vs 1;rwa [hm,show 1+(m+3)=m+4 by omega] at this
 obtain⟨g,hg⟩:∃g:P2->Rat,g=fun v=>lft vs 0 v+lft vs (m+2) v:=⟨_,rfl⟩
 have g0:g (cv vs 0)=0:=by
  have:=lft_b (vs:=vs) (m+2);rw [show m+2+1=m+3 from rfl,c0] at this;rw [hg];show lft vs 0 (cv vs 0)+_=0;rw [lft_a,this]
  grind
 have gp:∀j,j<m+2->0<g (cv vs (j+1)):=fun j hj=>by
  rw [hg];show 0<lft vs 0 _+lft vs (m+2) _;have q1:0<=lft vs 0 (cv vs (j+1)):=C.nn 0 (cv_mem C.pos _);have q2:0<=lft vs (m+2) (cv vs (j+1)):=C.nn _ (cv_mem C.pos _);by_cases h0:j=0
  ·subst h0;have:=C.2 (m+2) (m+4) (by omega) (by omega);rw [c1] at this;show 0<_+lft vs (m+2) (cv vs 1)
   grind
  ·have:=C.2 0 (j+1) (by omega) (by omega)
   grind
 obtain⟨mu,hmu,hle⟩:=least_of (fun j=>g (cv vs (j+1))) (m+2) gp;obtain⟨M,hM⟩:∃M,M=ptS (cv vs 1) (cv vs (m+2)) (1 / 2):=⟨_,rfl⟩;have lM:∀k,lft vs k M=(lft vs k (cv vs 1)+lft vs k (cv vs (m+2))) / 2:=fun k=>by rw [hM,lft_pt];grind
 have nM:∀k,0<=lft vs k M:=fun k=>by
  rw [lM];have q1:0<=lft vs k (cv vs 1):=C.nn _ (cv_mem C.pos _);have q2:0<=lft vs k (cv vs (m+2)):=C.nn _ (cv_mem C.pos _)
  grind
 have p0:0<lft vs 0 M:=by
  rw [lM];have q1:=lft_b (vs:=vs) 0;have q2:=C.2 0 (m+2) (by omega) (by omega);rw [show(0:Nat)+1=1 from rfl] at q1;rw [q1]
  grind
 have pm:0<lft vs (m+2) M:=by
  rw [lM];have q1:=lft_a (vs:=vs) (m+2);have q2:=C.2 (m+2) (m+4) (by omega) (by omega);rw [c1] at q2;rw [q1]
  grind
 have gM:0<g M:=by
  rw [hg];show 0<lft vs 0 M+lft vs (m+2) M
  grind
 obtain⟨ep,hep⟩:∃ep,ep=mu / (2*(g M+mu)):=⟨_,rfl⟩;have D:ep*(2*(g M+mu))=mu:=by rw [hep];exact Rat.div_mul_cancel (by grind)
 have ep0:0<ep:=pos_of_mul (w:=2*(g M+mu)) (by grind) (by rw [D];exact hmu);have em:=Rat.mul_pos ep0 hmu;have eg:=Rat.mul_pos ep0 gM;have egm:ep*g M<mu:=by grind
 have ep1:ep<1:=by
  refine Classical.byContradiction fun h=>?_
  have:=Rat.mul_nonneg (a:=ep - 1) (b:=2*(g M+mu)) (by have:=Rat.not_lt.1 h;grind) (by grind)
  grind
 obtain⟨r,hr⟩:∃r,r=ptS (cv vs 0) M ep:=⟨_,rfl⟩;have lr:∀k,lft vs k r=lft vs k (cv vs 0)+ep*(lft vs k M - lft vs k (cv vs 0)):=fun k=>by rw [hr,lft_pt]
 have lp:∀k,k<m+3->0<lft vs k r:=fun k hk=>by
  rw [lr];have q0:0<=lft vs k (cv vs 0):=C.nn _ (cv_mem C.pos _);by_cases h0:k=0
  ·subst h0;rw [lft_a];have:=Rat.mul_pos ep0 p0
   grind
  ·by_cases h1:k=m+2
   ·subst h1;have q:=lft_b (vs:=vs) (m+2);rw [show m+2+1=m+3 from rfl,c0] at q;rw [q];have:=Rat.mul_pos ep0 pm
    grind
   ·have q:=C.2 k (m+3) (by omega) (by omega);rw [c0] at q;have a1:=Rat.mul_pos (a:=1 - ep) (by grind) q;have a2:=Rat.mul_nonneg (Rat.le_of_lt ep0) (nM k)
    grind
 have la:∀k,0<lft vs k r:=fun k=>by rw [<-lft_mod];exact lp _ (by rw [<-hm];exact Nat.mod_lt _ C.pos)
 refine⟨r,?_,la⟩
 have gr:g r=ep*g M:=by
  have:g r=g (cv vs 0)+ep*(g M - g (cv vs 0)):=by
   rw [hg];show lft vs 0 r+lft vs (m+2) r=lft vs 0 _+lft vs (m+2) _+ep*(lft vs 0 M+lft vs (m+2) M - (lft vs 0 _+lft vs (m+2) _));rw [lr,lr]
   grind
  rw [this,g0]
  grind
 obtain⟨d,hdm⟩:∃d:P2,d=(-(((cv vs 1).2 - (cv vs 0).2)+((cv vs (m+3)).2 - (cv vs (m+2)).2)),((cv vs 1).1 - (cv vs 0).1)+((cv vs (m+3)).1 - (cv vs (m+2)).1)):=⟨_,rfl⟩
 have lnd:∀v,ln d r v=g v - g r:=fun v=>by
  rw [hdm,hg];show -(((cv vs 1).2 - (cv vs 0).2)+((cv vs (m+3)).2 - (cv vs (m+2)).2))*(v.1 - r.1)+(((cv vs 1).1 - (cv vs 0).1)+((cv vs (m+3)).1 - (cv vs (m+2)).1))*(v.2 - r.2)=sdD (cv vs 0) (cv vs 1) v+sdD (cv vs (m+2)) (cv vs (m+3)) v - (sdD (cv vs 0) (cv vs 1) r+sdD (cv vs (m+2)) (cv vs (m+3)) r);unfold sdD
  grind
 have d0:¬(d.1=0/\d.2=0):=fun ⟨e1,e2⟩=>by
  have q1:=lnd (cv vs 1);have q2:=lnd (cv vs 0);have q3:=gp 0 (by omega);rw [show(0:Nat)+1=1 from rfl] at q3;unfold ln at q1 q2;rw [e1,e2] at q1 q2;rw [g0] at q2
  grind
 have sp:∀j,j<m+2->0<ln d r (cv vs (j+1)):=fun j hj=>by
  rw [lnd,gr];have:=hle j hj
  grind
 have s0:¬0<ln d r (cv vs 0):=by
  rw [lnd,gr,g0]
  grind
 rw [hasI_par (not_on la),par_any (not_on la) d0,hm,show m+3=m+2+1 from rfl,pzT_front];have f0:rgN d (cv vs 0) (cv vs (0+1)) r=true:=dT (.inl ⟨s0,sp 0 (by omega),la 0⟩);rw [f0,pzT_none]
 ·rfl
 ·intro k hk;refine dF fun h=>?_
  rcases h with⟨h,-,-⟩|⟨-,-,h⟩
  ·exact h (sp k hk)
  ·have:=la (k+1);unfold lft at this;exact absurd h (by grind)
theorem Cvx.conv (C:Cvx vs){p:P2}(h:∀k,0<lft vs k p):hasI vs p=1:=by
 rcases hasI_three (vs:=vs) p with q|q|q
 ·obtain⟨j,t,hj,h1,h2,e⟩:=hasI_side q;have:=h j;rw [e,lft_pt,lft_a,lft_b] at this;rw [show(0:Rat)+t*(0 - 0)=0 by grind] at this;exact absurd this (by decide)
 ·exact q
 ·obtain⟨r,hr,hl⟩:=C.some;obtain⟨k,hk,hmt⟩:=seg_meets (vs:=vs) (x:=p) (y:=r) (by rw [q,hr];decide);obtain⟨s,t,s0,s1,-,-,e⟩:=mts_iff.1 hmt;have e1:lft vs k (ptS p r s)=0:=by rw [e,lft_pt,lft_a,lft_b];grind
  rw [lft_pt] at e1;have a1:=h k;have a2:=hl k;have b1:=Rat.mul_nonneg s0 (Rat.le_of_lt a2);have b2:=Rat.mul_nonneg (a:=1 - s) (by grind) (Rat.le_of_lt a1);by_cases hs:s=0
  ·rw [hs] at e1;grind
  ·have b3:=Rat.mul_pos (a:=s) (by grind) a2
   grind
theorem Cvx.conv0 (C:Cvx vs){p:P2}(h:∀k,0<=lft vs k p):0<=hasI vs p:=by
 have n3:=C.1;by_cases hz:∃k,k<vs.length/\lft vs k p=0
 ·obtain⟨k,hk,h0⟩:=hz;have hD:=C.2 (k+vs.length - 1) (k+vs.length+1) (by omega) (by omega);have hp:=h (k+vs.length - 1);have hn:=h (k+1);have hE:=C.2 (k+1) (k+vs.length) (by omega) (by omega);have e2:cv vs (k+vs.length+1)=cv vs (k+1):=by rw [show k+vs.length+1=k+1+vs.length by omega,cv_per]
  have e3:cv vs (k+vs.length - 1+1)=cv vs k:=by rw [show k+vs.length - 1+1=k+vs.length by omega,cv_per]
  rw [cv_per] at hE;rw [e2] at hD;obtain⟨t,ht⟩:∃t,t=lft vs (k+vs.length - 1) p / lft vs (k+vs.length - 1) (cv vs (k+1)):=⟨_,rfl⟩;have htD:t*lft vs (k+vs.length - 1) (cv vs (k+1))=lft vs (k+vs.length - 1) p:=by rw [ht];exact Rat.div_mul_cancel (by grind)
  have t0:0<=t:=by
   refine Classical.byContradiction fun hc=>?_
   have:=Rat.mul_pos (a:= -t) (by have:=Rat.not_le.1 hc;grind) hD
   grind
  have ep:p=ptS (cv vs k) (cv vs (k+1)) t:=by
   unfold lft at htD h0 hD;rw [e3] at htD hD;generalize cv vs (k+vs.length - 1)=c at*
   generalize cv vs k=a at*
   generalize cv vs (k+1)=b at*
   have x1:(p.1 - a.1)*sdD c a b=t*(b.1 - a.1)*sdD c a b:=by
    have:t*(b.1 - a.1)*sdD c a b=(b.1 - a.1)*(t*sdD c a b):=by grind
    rw [this,htD];unfold sdD at h0 ⊢
    grind
   have x2:(p.2 - a.2)*sdD c a b=t*(b.2 - a.2)*sdD c a b:=by
    have:t*(b.2 - a.2)*sdD c a b=(b.2 - a.2)*(t*sdD c a b):=by grind
    rw [this,htD];unfold sdD at h0 ⊢
    grind
   have hne:sdD c a b≠0:=by grind
   have y1:p.1 - a.1=t*(b.1 - a.1):=by
    have:(p.1 - a.1 - t*(b.1 - a.1))*sdD c a b=0:=by grind
    rcases Rat.mul_eq_zero.1 this with q|q
    ·grind
    ·exact absurd q hne
   have y2:p.2 - a.2=t*(b.2 - a.2):=by
    have:(p.2 - a.2 - t*(b.2 - a.2))*sdD c a b=0:=by grind
    rcases Rat.mul_eq_zero.1 this with q|q
    ·grind
    ·exact absurd q hne
   exact Prod.ext (by show p.1=a.1+t*(b.1 - a.1);grind) (by show p.2=a.2+t*(b.2 - a.2);grind)
  have t1:t<=1:=by
   rw [ep,lft_pt,lft_a] at hn;refine Classical.byContradiction fun hc=>?_
   have:=Rat.mul_pos (a:=t - 1) (by have:=Rat.not_le.1 hc;grind) hE
   grind
  have:hasI vs p=0:=if_pos ⟨k,List.mem_range.2 hk,hasS_iff.2 ⟨t,t0,t1,ep⟩⟩;omega
 ·have:=C.conv (p:=p) fun k=>by
   rw [<-lft_mod];have q:=h (k % vs.length);have q2:¬lft vs (k % vs.length) p=0:=fun e=>hz ⟨_,Nat.mod_lt _ C.pos,e⟩
   grind
  omega
theorem Cvx.mid (C:Cvx vs){p q:P2}(hp:0<=hasI vs p)(hq:0<=hasI vs q):0<=hasI vs (mid2 p q):=C.conv0 fun k=>by
 have a1:=C.ge hp k;have a2:=C.ge hq k
 have e:lft vs k (mid2 p q)=(lft vs k p+lft vs k q) / 2:=by
  unfold lft sdD mid2 midQ;rw [half_two]
  grind
 rw [e]
 grind
theorem Cvx.off (C:Cvx vs){k x:Nat}(hk:k<vs.length)(hx:x<vs.length)(h1:x≠k)(h2:x≠k+1)(h3:k+1=vs.length->x≠0):0<lft vs k (cv vs x):=by
 rcases Nat.lt_or_ge x k with q|q
 ·have:=C.2 k (x+vs.length) (by omega) (by omega);rwa [cv_per] at this
 ·exact C.2 k x (by omega) (by omega)
theorem sumT_pos {F:Nat->Rat}:∀j,(∀i,i<j->0<F i)->0<j->0<sumT F j
 |0,_,h=>by omega
 |1,h,_=>by
  rw [sumT_succ];have:=h 0 (by omega);show 0<0+F 0
  grind
 |j+2,h,_=>by
  rw [sumT_succ];have q1:=sumT_pos (j+1) (fun i hi=>h i (by omega)) (by omega);have q2:=h (j+1) (by omega)
  grind
theorem six_th:(Rat.divInt 1 6:Rat)=1 / 6:=by decide+kernel
theorem fan_area (vs:List P2):∀j,sumT (prR vs) j*6=sumT (crK vs) (j+1) - crs (cv vs 0) (cv vs (j+1))
 |0=>by
  show(0:Rat)*6=0+crK vs 0 - _;unfold crK
  grind
 |j+1=>by
  have ih:=fan_area vs j;rw [sumT_succ,sumT_succ (crK vs),Rat.add_mul,ih];unfold prR crK crs sbP;rw [six_th];generalize cv vs 0=p0;generalize cv vs (j+1)=p1;generalize cv vs (j+1+1)=p2;show _ - _+_=_+_ - _
  grind
theorem fan_area_all (hn:2<=vs.length):areaQ vs=3*sumT (prR vs) (vs.length - 2):=by
 obtain⟨m,hm⟩:∃m,vs.length=m+2:=⟨vs.length - 2,by omega⟩
 have e:cv vs (m+1+1)=cv vs 0:=by
  have:=cv_len vs;rwa [hm] at this
 have h:=fan_area vs m;unfold areaQ twQ;rw [sumQ_range,two_one,hm,show m+2 - 2=m by omega,show m+2=m+1+1 from rfl,sumT_succ (crK vs) (m+1)]
 have e2:crK vs (m+1)= -crs (cv vs 0) (cv vs (m+1)):=by
  unfold crK crs;rw [e]
  grind
 rw [e2]
 grind
theorem lft_sum (k:Nat):∀j,((cv vs (k+1)).1 - (cv vs k).1)*(sumT (ceY vs) j - 3*(cv vs k).2*sumT (prR vs) j) - ((cv vs (k+1)).2 - (cv vs k).2)*(sumT (ceX vs) j - 3*(cv vs k).1*sumT (prR vs) j)=sumT (fun i=>prR vs i*(lft vs k (cv vs 0)+lft vs k (cv vs (i+1))+lft vs k (cv vs (i+2)))) j
 |0=>by
  show _*((0:Rat) - _*0) - _*(0 - _*0)=0
  grind
 |j+1=>by
  have ih:=lft_sum k j;rw [sumT_succ,sumT_succ,sumT_succ,sumT_succ,<-ih];have e:ceX vs j=((cv vs 0).1+(cv vs (j+1)).1+(cv vs (j+2)).1)*prR vs j:=rfl;have e2:ceY vs j=((cv vs 0).2+(cv vs (j+1)).2+(cv vs (j+2)).2)*prR vs j:=rfl;rw [e,e2];unfold lft sdD
  grind
theorem Cvx.ctr (C:Cvx vs):hasI vs (ctr vs)=1:=by
 have n3:=C.1
 have hw:∀i,i<vs.length - 2->0<prR vs i:=fun i hi=>by
  have h:=C.2 (i+1) vs.length (by omega) (by omega);rw [cv_len] at h;unfold lft sdD at h;rw [show i+1+1=i+2 from rfl] at h;unfold prR sbP;rw [six_th];show 0<(((cv vs (i+1)).1 - (cv vs 0).1)*((cv vs (i+2)).2 - (cv vs 0).2) - ((cv vs (i+1)).2 - (cv vs 0).2)*((cv vs (i+2)).1 - (cv vs 0).1))*(1 / 6);have:((cv vs (i+1)).1 - (cv vs 0).1)*((cv vs (i+2)).2 - (cv vs 0).2) - ((cv vs (i+1)).2 - (cv vs 0).2)*((cv vs (i+2)).1 - (cv vs 0).1)=((cv vs (i+2)).1 - (cv vs (i+1)).1)*((cv vs 0).2 - (cv vs (i+1)).2) - ((cv vs (i+2)).2 - (cv vs (i+1)).2)*((cv vs 0).1 - (cv vs (i+1)).1):=by grind
  rw [this];exact Rat.mul_pos h (by decide+kernel)
 have hW:=sumT_pos (vs.length - 2) hw (by omega);have hA:areaR vs=3*sumT (prR vs) (vs.length - 2):=by rw [areaR_eq];exact fan_area_all (by omega)
 have hA0:0<areaR vs:=by rw [hA];grind
 refine C.conv fun k=>?_
 rw [<-lft_mod];have hk:=Nat.mod_lt k C.pos;generalize k % vs.length=k at hk ⊢;rw [<-ctrR_eq,ctrR_ne (fun e=>by rw [Rat.num_eq_zero.1 e] at hA0;exact absurd hA0 (by decide)),show(Rat.divInt 1 1:Rat)=1 by decide+kernel];refine pos_of_mul hA0 ?_;have hs:=lft_sum (vs:=vs) k (vs.length - 2)
 have hp:0<sumT (fun i=>prR vs i*(lft vs k (cv vs 0)+lft vs k (cv vs (i+1))+lft vs k (cv vs (i+2)))) (vs.length - 2):=sumT_pos _ (fun i hi=>by
  refine Rat.mul_pos (hw i hi) ?_;have q0:0<=lft vs k (cv vs 0):=C.nn _ (cv_mem C.pos _);have q1:0<=lft vs k (cv vs (i+1)):=C.nn _ (cv_mem C.pos _);have q2:0<=lft vs k (cv vs (i+2)):=C.nn _ (cv_mem C.pos _);by_cases a0:k=0
  ·have:=C.off (k:=k) (x:=i+2) hk (by omega) (by omega) (by omega) (by omega)
   grind
  ·by_cases a1:k+1=vs.length
   ·have:=C.off (k:=k) (x:=i+1) hk (by omega) (by omega) (by omega) (by omega)
    grind
   ·have:=C.off (k:=k) (x:=0) hk (by omega) (by omega) (by omega) (by omega)
    grind) (by omega)
 have hi:areaR vs*(1 / areaR vs)=1:=by rw [Rat.mul_comm];exact Rat.div_mul_cancel (by grind)
 have e:lft vs k (sumT (ceX vs) (vs.length - 2)*(1 / areaR vs),sumT (ceY vs) (vs.length - 2)*(1 / areaR vs))*areaR vs=((cv vs (k+1)).1 - (cv vs k).1)*(sumT (ceY vs) (vs.length - 2) - (cv vs k).2*areaR vs) - ((cv vs (k+1)).2 - (cv vs k).2)*(sumT (ceX vs) (vs.length - 2) - (cv vs k).1*areaR vs):=by
  unfold lft sdD;show(((cv vs (k+1)).1 - (cv vs k).1)*(sumT (ceY vs) (vs.length - 2)*(1 / areaR vs) - (cv vs k).2) - ((cv vs (k+1)).2 - (cv vs k).2)*(sumT (ceX vs) (vs.length - 2)*(1 / areaR vs) - (cv vs k).1))*areaR vs=_;generalize sumT (ceX vs) (vs.length - 2)=X at*
  generalize sumT (ceY vs) (vs.length - 2)=Y at*
  generalize areaR vs=A at*
  generalize 1 / A=I at*
  grind
 rw [e,hA];rw [<-hs] at hp;generalize sumT (ceX vs) (vs.length - 2)=X at*
 generalize sumT (ceY vs) (vs.length - 2)=Y at*
 generalize sumT (prR vs) (vs.length - 2)=W at*
 grind
end
theorem pgL_dirs (l:List Int):∀i,∃ds:List Nat,pgL l i=ds.map (pgE l)/\ds.Pairwise (· <·)/\∀d∈ds,d<i/\0<atv l (d:Int) 6
 |0=>⟨[],rfl,.nil,fun d h=>by simp at h⟩
 |i+1=>by
  obtain⟨ds,h1,h2,h3⟩:=pgL_dirs l i;by_cases hc:(pgL l i).length<12/\0<atv l (i:Int) 6/\atv l (i:Int) 6<4
  ·refine⟨ds++ [i],?_,?_,?_⟩
   ·show(if _ then _ else _)=_;rw [if_pos hc,h1,List.map_append];rfl
   ·rw [List.pairwise_append];exact⟨h2,List.pairwise_singleton _ _,fun a ha b hb=>by rw [List.mem_singleton.1 hb];exact(h3 a ha).1⟩
   ·intro d D;rcases List.mem_append.1 D with h|h
    ·exact⟨Nat.lt_succ_of_lt (h3 d h).1,(h3 d h).2⟩
    ·rw [List.mem_singleton.1 h];exact⟨Nat.lt_succ_self _,hc.2.1⟩
  ·refine⟨ds,?_,h2,fun d D=>⟨Nat.lt_succ_of_lt (h3 d D).1,(h3 d D).2⟩⟩;show(if _ then _ else _)=_;rw [if_neg hc,h1]
theorem wy_tab:∀a<16,∀b<16,((0<(b+16 - a) % 16/\(b+16 - a) % 16<8)->0<(wyc a).1*(wyc b).2 - (wyc a).2*(wyc b).1)/\((b+16 - a) % 16=8->(wyc a).1*(wyc b).2 - (wyc a).2*(wyc b).1=0):=by decide+kernel
theorem crs_pg (l:List Int)(a b:Nat):crs (rel (byQ l) (pgE l a)) (rel (byQ l) (pgE l b))=(atv l (a:Int) 6:Rat)*(atv l (b:Int) 6:Rat)*(((wyc a).1*(wyc b).2 - (wyc a).2*(wyc b).1:Int):Rat) / 4:=by
 unfold crs rel pgE;simp only [Rat.divInt_eq_div,Rat.intCast_mul,Rat.intCast_sub,show((2:Int):Rat)=2 from rfl]
 grind
def thD (ds:List Nat)(k:Nat):Nat:=ds.getD (k % ds.length) 0+16*(k / ds.length)
theorem cast_pos {x:Int}(h:0<x):0<(x:Rat):=by
 have:=Rat.intCast_lt_intCast (a:=0) (b:=x);exact this.2 h
theorem pgL_star (l:List Int)(h3:3<=(pgL l 16).length):∃th,Star (pgL l 16) (byQ l) th:=by
 obtain⟨ds,e,hp,D⟩:=pgL_dirs l 16;rw [e] at h3 ⊢;have hn:(ds.map (pgE l)).length=ds.length:=List.length_map _;rw [hn] at h3;have n0:0<ds.length:=by omega
 have hget:∀k,k<ds.length->ds.getD k 0=ds[k]! /\ds.getD k 0∈ds:=fun k hk=>by
  rw [List.getD_eq_getElem?_getD,List.getElem?_eq_getElem hk];exact⟨(getElem!_pos ds k hk).symm,List.getElem_mem hk⟩
 have hlt:∀k,ds.getD (k % ds.length) 0<16:=fun k=>(D _ (hget _ (Nat.mod_lt k n0)).2).1
 have hat:∀k,0<atv l (ds.getD (k % ds.length) 0:Int) 6:=fun k=>(D _ (hget _ (Nat.mod_lt k n0)).2).2
 have hcv:∀k,cv (ds.map (pgE l)) k=pgE l (ds.getD (k % ds.length) 0):=fun k=>by
  have hk:=Nat.mod_lt k n0;unfold cv;rw [hn,List.getD_eq_getElem?_getD,List.getElem?_map,List.getElem?_eq_getElem hk,List.getD_eq_getElem?_getD,List.getElem?_eq_getElem hk];rfl
 have hup:∀r,r+1<ds.length->ds.getD r 0<ds.getD (r+1) 0:=fun r hr=>by
  rw [List.getD_eq_getElem?_getD,List.getElem?_eq_getElem (by omega),List.getD_eq_getElem?_getD,List.getElem?_eq_getElem hr];exact List.pairwise_iff_getElem.1 hp r (r+1) (by omega) hr (by omega)
 refine⟨thD ds,⟨fun k=>?_,fun k=>?_,fun i j h1 h2=>?_,fun i j h1=>?_⟩⟩
 ·have hk:=Nat.mod_lt k n0;have hdm:=Nat.div_add_mod k ds.length;have h16:=hlt k;unfold thD;generalize hq:k / ds.length=q at*
  generalize hr:k % ds.length=r at*
  rw [<-hdm];rcases Nat.lt_or_ge (r+1) ds.length with h|h
  ·rw [Nat.add_assoc,Nat.mul_add_mod,Nat.mod_eq_of_lt h,Nat.mul_add_div n0,Nat.div_eq_of_lt h];have:=hup r h;omega
  ·rw [show ds.length*q+r+1=ds.length*(q+1) by rw [Nat.mul_succ];omega,Nat.mul_mod_right,Nat.mul_div_cancel_left _ n0];omega
 ·rw [hn];unfold thD;rw [Nat.add_mod_right,Nat.add_div_right _ n0];omega
 ·rw [hcv,hcv,crs_pg];have t:=(wy_tab _ (hlt i) _ (hlt j)).1 (by have:=hlt i;have:=hlt j;unfold thD at h1 h2;omega);have a1:=Rat.mul_pos (Rat.mul_pos (cast_pos (hat i)) (cast_pos (hat j))) (cast_pos t)
  grind
 ·rw [hcv,hcv,crs_pg,(wy_tab _ (hlt i) _ (hlt j)).2 (by have:=hlt i;have:=hlt j;unfold thD at h1;omega)];rw [show((0:Int):Rat)=0 from rfl]
  grind
theorem qdB_convex:convexP (qdB 0)=false/\convexP (qdB 1)=false:=by decide+kernel
theorem polyR_cvx {l:List Int}(h:convexP (polyR l)=true):Cvx (polyR l):=by
 unfold polyR at h ⊢;split at h
 ·rename_i hv
  rw [if_pos hv];have h3:=(validR_len hv).1;obtain⟨th,S⟩:=pgL_star l h3;unfold convexP validP bentP at h;simp only [Bool.and_eq_true,decide_eq_true_eq] at h
  have hl:∀k,k<(pgL l 16).length->0<lft (pgL l 16) k (cv (pgL l 16) (k+2)):=fun k hk=>by
   have q1:=h.1.2.2.1 k (List.mem_range.2 hk);have q2:=h.2 k (List.mem_range.2 hk);unfold tn at q1 q2;rw [sdI_sdD] at q1 q2;rcases sign_cases (sdD (cv (pgL l 16) k) (cv (pgL l 16) (k+1)) (cv (pgL l 16) (k+2)))with⟨-,e⟩|⟨-,e⟩|⟨q,-⟩
   ·rw [e] at q2;omega
   ·exact absurd e q1
   ·exact q
  refine⟨h3,fun k j h1 h2=>S.all (fun k=>?_) h1 h2⟩;have hk:=Nat.mod_lt k (show 0<(pgL l 16).length by omega);have:=hl _ hk;rw [lft_mod,show cv (pgL l 16) (k % (pgL l 16).length+2)=cv (pgL l 16) (k+2) by unfold cv;rw [Nat.mod_add_mod]] at this;exact this
 ·exfalso;have h1:=atv_lo l 0 2 (by omega);have h2:=atv_hi l 0 2 (by omega);have h3:atv l 0 2=0∨atv l 0 2=1:=by omega
  rcases h3 with e|e
  ·rw [pgF_put l e,convexP_put (by decide+kernel) (by decide)] at h;exact absurd (qdB_convex.1.symm.trans h) (by decide)
  ·rw [pgF_put l e,convexP_put (by decide+kernel) (by decide)] at h;exact absurd (qdB_convex.2.symm.trans h) (by decide)
end Go.Proofs.YteacdbgalloaiaaGreat
