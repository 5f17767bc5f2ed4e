/- Contracts of the packages integer, rat, plane, polygon and their references. -/
import Derived.Test.YteacdbgalloaiaaGreatO27
import Derived.Test.YteacdbgalloaiaaGreatO22
import Derived.Test.YteacdbgalloaiaaGreatO25
import Derived.Test.YteacdbgalloaiaaGreatO26
import Derived.Test.YteacdbgalloaiaaGreatO5
set_option linter.unusedVariables false
set_option maxRecDepth 100000
set_option maxHeartbeats 6400000
namespace Go.Proofs.YteacdbgalloaiaaGreat
open Go Go.RowKit
def ln (m p v:P2):Rat:=m.1*(v.1 - p.1)+m.2*(v.2 - p.2)
def rgN (m a b p:P2):Bool:=decide ((¬0<ln m p a/\0<ln m p b/\0<sdD a b p)∨(0<ln m p a/\¬0<ln m p b/\sdD a b p<0))
def upN (m a b p:P2):Bool:=decide ((¬0<ln m p a/\0<ln m p b/\sdD a b p<0)∨(0<ln m p a/\¬0<ln m p b/\0<sdD a b p))
theorem seg_of {m a b p:P2}(hD:sdD a b p=0)(h:(¬0<ln m p a/\0<ln m p b)∨(0<ln m p a/\¬0<ln m p b)):hasS a b p=true:=by
 have hab:a≠b:=by
  intro e;subst e;rcases h with⟨h1,h2⟩|⟨h1,h2⟩
  ·exact h1 h2
  ·exact h2 h1
 obtain⟨g,rfl⟩:=on_line hab hD;have e1:ln m (ptS a b g) a= -(g*(m.1*(b.1 - a.1)+m.2*(b.2 - a.2))):=by unfold ln ptS;grind
 have e2:ln m (ptS a b g) b=(1 - g)*(m.1*(b.1 - a.1)+m.2*(b.2 - a.2)):=by unfold ln ptS;grind
 rw [e1,e2] at h;generalize m.1*(b.1 - a.1)+m.2*(b.2 - a.2)=M at h;refine hasS_iff.2 ⟨g,?_,?_,rfl⟩
 ·refine Rat.not_lt.1 fun hg=>?_
  rcases h with⟨h1,h2⟩|⟨h1,h2⟩
  ·have hM:0<M:=by grind
   have:=Rat.mul_pos (show 0< -g by grind) hM
   grind
  ·have hM:0< -M:=by grind
   have:=Rat.mul_pos (show 0< -g by grind) hM
   grind
 ·refine Rat.not_lt.1 fun hg=>?_
  rcases h with⟨h1,h2⟩|⟨h1,h2⟩
  ·have hM:0<M:=by grind
   have:=Rat.mul_pos (show 0<g - 1 by grind) hM
   grind
  ·have hM:0< -M:=by grind
   have:=Rat.mul_pos (show 0<g - 1 by grind) hM
   grind
theorem sgn_det {d E D:Rat}(hd:0<d)(h:E=d*D):(0<E↔0<D)/\(E<0↔D<0):=by
 subst h;have p:0<D->0<d*D:=Rat.mul_pos hd;have q:D<0->0<d* -D:=fun h=>Rat.mul_pos hd (by grind)
 have tri:D=0∨(D<0∨0<D):=by grind
 constructor<;>constructor<;>intro k
 ·rcases tri with h|h|h
  ·rw [h] at k;grind
  ·have:=q h;grind
  ·exact h
 ·exact p k
 ·rcases tri with h|h|h
  ·rw [h] at k;grind
  ·exact h
  ·have:=p h;grind
 ·have:=q k;grind
theorem side_parN {m n a b p:P2}(D:0<m.1*n.2 - m.2*n.1)(h:¬hasS a b p=true):sgb (rgN n a b p)*sgb (upN m a b p)=sgb (decide (0<ln m p a) && decide (0<ln n p a))*sgb (decide (0<ln m p b) && decide (0<ln n p b)):=by
 have tri:sdD a b p=0∨(sdD a b p<0∨0<sdD a b p):=by
  rcases sign_cases (sdD a b p)with⟨q,-⟩|⟨q,-⟩|⟨q,-⟩
  ·exact .inr (.inl q)
  ·exact .inl q
  ·exact .inr (.inr q)
 obtain⟨k1,k2⟩:=sgn_det D (show ln m p a*ln n p b - ln n p a*ln m p b=(m.1*n.2 - m.2*n.1)*sdD a b p by unfold ln sdD;grind);refine par_bool (Xa:=0<ln m p a) (Xb:=0<ln m p b) (Ya:=0<ln n p a) (Yb:=0<ln n p b) (DN:=sdD a b p<0) (DP:=0<sdD a b p) decide_eq_true_iff decide_eq_true_iff (by rw [Bool.and_eq_true,decide_eq_true_eq,decide_eq_true_eq]) (by rw [Bool.and_eq_true,decide_eq_true_eq,decide_eq_true_eq]) (fun q=>by grind) ?_ ?_ ?_ ?_ ?_ ?_ ?_ ?_ ?_ ?_
 ·intro h1 h2 h3 h4;rw [<-k1];have:=sd_low (x:=ln m p a) (y:=ln n p a) (u:=ln m p b) (v:=ln n p b) (by grind) (by grind) (by grind) (by grind)
  grind
 ·intro h1 h2 h3 h4;rw [<-k2];have:=sd_low (x:=ln m p b) (y:=ln n p b) (u:=ln m p a) (v:=ln n p a) (by grind) (by grind) (by grind) (by grind)
  grind
 ·intro h1 h2 h3 h4;rw [<-k1];exact sd_high (x:=ln m p a) (y:=ln n p a) (u:=ln m p b) (v:=ln n p b) h1 h2 (by grind) h4
 ·intro h1 h2 h3 h4;rw [<-k2];have:=sd_high (x:=ln m p b) (y:=ln n p b) (u:=ln m p a) (v:=ln n p a) h2 h1 (by grind) h3
  grind
 ·intro h1 h2 h3 h4;rw [<-k2];have:=sd_low (x:=ln n p a) (y:=ln m p a) (u:=ln n p b) (v:=ln m p b) (by grind) (by grind) (by grind) (by grind)
  grind
 ·intro h1 h2 h3 h4;rw [<-k1];have:=sd_low (x:=ln n p b) (y:=ln m p b) (u:=ln n p a) (v:=ln m p a) (by grind) (by grind) (by grind) (by grind)
  grind
 ·intro h1 h2 h3 h4;rw [<-k2];have:=sd_high (x:=ln n p a) (y:=ln m p a) (u:=ln n p b) (v:=ln m p b) h1 h2 (by grind) h4
  grind
 ·intro h1 h2 h3 h4;rw [<-k1];have:=sd_high (x:=ln n p b) (y:=ln m p b) (u:=ln n p a) (v:=ln m p a) h2 h1 (by grind) h3
  grind
 ·intro h1 h2 h3 h4;exact tri.resolve_left fun h0=>h (seg_of (m:=m) h0 (.inl ⟨h1,h3⟩))
 ·intro h1 h2 h3 h4;exact tri.resolve_left fun h0=>h (seg_of (m:=m) h0 (.inr ⟨h1,h3⟩))
theorem side_parU {m a b p:P2}(h:¬hasS a b p=true):sgb (upN m a b p)*sgb (rgN m a b p)=sgb (decide (0<ln m p a))*sgb (decide (0<ln m p b)):=by
 have tri:sdD a b p=0∨(sdD a b p<0∨0<sdD a b p):=by
  rcases sign_cases (sdD a b p)with⟨q,-⟩|⟨q,-⟩|⟨q,-⟩
  ·exact .inr (.inl q)
  ·exact .inl q
  ·exact .inr (.inr q)
 have hs:=fun h0=>mt (seg_of (m:=m) (a:=a) (b:=b) (p:=p) h0) h
 unfold upN rgN;rcases tri with e|e|e
 ·have:=hs e;have n1:¬sdD a b p<0:=by grind
  have n2:¬0<sdD a b p:=by grind
  by_cases h1:0<ln m p a<;>by_cases h2:0<ln m p b<;>simp [h1,h2,n1,n2,sgb] at this ⊢
 ·have n2:¬0<sdD a b p:=by grind
  by_cases h1:0<ln m p a<;>by_cases h2:0<ln m p b<;>simp [h1,h2,e,n2,sgb]
 ·have n1:¬sdD a b p<0:=by grind
  by_cases h1:0<ln m p a<;>by_cases h2:0<ln m p b<;>simp [h1,h2,e,n1,sgb]
section
variable {vs:List P2}{p:P2}(hon:∀k,k<vs.length->¬hasS (cv vs k) (cv vs (k+1)) p=true)
include hon
theorem par_dir {m n:P2}(D:0<m.1*n.2 - m.2*n.1):pzT (fun k=>rgN n (cv vs k) (cv vs (k+1)) p) vs.length=pzT (fun k=>rgN m (cv vs k) (cv vs (k+1)) p) vs.length:=by
 have h1:=pz_eq (n:=vs.length) (f:=fun k=>rgN n (cv vs k) (cv vs (k+1)) p) (g:=fun k=>upN m (cv vs k) (cv vs (k+1)) p) (A:=fun k=>decide (0<ln m p (cv vs k)) && decide (0<ln n p (cv vs k))) (fun k hk=>side_parN D (hon k hk)) (by show _=_;rw [cv_len]);have h2:=pz_eq (n:=vs.length) (f:=fun k=>upN m (cv vs k) (cv vs (k+1)) p) (g:=fun k=>rgN m (cv vs k) (cv vs (k+1)) p) (A:=fun k=>decide (0<ln m p (cv vs k))) (fun k hk=>side_parU (hon k hk)) (by show _=_;rw [cv_len]);exact h1.trans h2
theorem par_turn {c s:Rat}(h1:c*c+s*s=1):pzT (fun k=>rgN (s,c) (cv vs k) (cv vs (k+1)) p) vs.length=pzT (fun k=>rgN (0,1) (cv vs k) (cv vs (k+1)) p) vs.length:=by
 have tri:s=0∨(s<0∨0<s):=by grind
 rcases tri with h|h|h
 ·subst h;have h2:(c - 1)*(c+1)=0:=by grind
  have h3:c=1∨c= -1:=by
   rcases Rat.mul_eq_zero.1 h2 with h|h
   ·exact .inl (by grind)
   ·exact .inr (by grind)
  rcases h3 with rfl|rfl
  ·rfl
  ·have q1:=par_dir hon (m:=(1,0)) (n:=(0,1)) (by show(0:Rat)<1*1 - 0*0;grind);have q2:=par_dir hon (m:=(0,-1)) (n:=(1,0)) (by show(0:Rat)<0*0 - -1*1;grind);exact(q1.trans q2).symm
 ·exact par_dir hon (m:=(0,1)) (n:=(s,c)) (by show 0<(0:Rat)*c - 1*s;grind)
 ·exact(par_dir hon (m:=(s,c)) (n:=(0,1)) (by show 0<s*1 - c*(0:Rat);grind)).symm
end
theorem rgt_N {c s x y:Rat}(h1:c*c+s*s=1)(a b p:P2):rgt (putP c s x y a) (putP c s x y b) (putP c s x y p)=rgN (s,c) a b p:=by
 refine Bool.eq_iff_iff.2 ((rgt_form _ _ _).trans ?_)
 have e:∀v:P2,(putP c s x y p).2<(putP c s x y v).2↔0<ln (s,c) p v:=fun v=>by
  have:ln (s,c) p v=(putP c s x y v).2 - (putP c s x y p).2:=by unfold ln putP;grind
  rw [this];constructor<;>intro h<;>grind
 unfold rgN;rw [decide_eq_true_eq,sdD_put h1,e,e]
theorem rgt_0 (a b p:P2):rgt a b p=rgN (0,1) a b p:=by
 refine Bool.eq_iff_iff.2 ((rgt_form _ _ _).trans ?_)
 have e:∀v:P2,p.2<v.2↔0<ln (0,1) p v:=fun v=>by
  have:ln (0,1) p v=v.2 - p.2:=by unfold ln;grind
  rw [this];constructor<;>intro h<;>grind
 unfold rgN;rw [decide_eq_true_eq,e,e]
theorem hasI_put {c s x y:Rat}{vs:List P2}(h1:c*c+s*s=1)(h0:0<vs.length)(p:P2):hasI (vs.map (putP c s x y)) (putP c s x y p)=hasI vs p:=by
 unfold hasI;rw [List.length_map];simp only [cv_map _ h0,hasS_put h1];split
 ·rfl
 ·rename_i h
  rw [whr_pz,whr_pz];simp only [cv_map _ h0,rgt_N h1,rgt_0];rw [par_turn (fun k hk h2=>h ⟨k,List.mem_range.2 hk,h2⟩) h1]
theorem sumT_lin (u v t:Rat)(f g h:Nat->Rat):∀n,sumT (fun k=>u*f k+v*g k+t*h k) n=u*sumT f n+v*sumT g n+t*sumT h n
 |0=>by show(0:Rat)=u*0+v*0+t*0;grind
 |n+1=>by rw [sumT_succ,sumT_succ,sumT_succ,sumT_succ,sumT_lin u v t f g h n];grind
def tl1 (c s x y:Rat)(p:P2):Rat:=y*((c*p.1+ -s*p.2)*(c*p.1+ -s*p.2)) - x*((c*p.1+ -s*p.2)*(s*p.1+c*p.2))+2*x*((c*p.1+ -s*p.2)*y - (s*p.1+c*p.2)*x)
def tl2 (c s x y:Rat)(p:P2):Rat:=y*((c*p.1+ -s*p.2)*(s*p.1+c*p.2)) - x*((s*p.1+c*p.2)*(s*p.1+c*p.2))+2*y*((c*p.1+ -s*p.2)*y - (s*p.1+c*p.2)*x)
theorem tel_1 (c s x y:Rat)(p q:P2):((putP c s x y p).1+(putP c s x y q).1)*crs (putP c s x y p) (putP c s x y q)=(c*c+s*s)*(c*((p.1+q.1)*crs p q)+ -s*((p.2+q.2)*crs p q)+3*x*crs p q)+(tl1 c s x y p - tl1 c s x y q):=by
 unfold putP crs tl1
 grind
theorem tel_2 (c s x y:Rat)(p q:P2):((putP c s x y p).2+(putP c s x y q).2)*crs (putP c s x y p) (putP c s x y q)=(c*c+s*s)*(s*((p.1+q.1)*crs p q)+c*((p.2+q.2)*crs p q)+3*y*crs p q)+(tl2 c s x y p - tl2 c s x y q):=by
 unfold putP crs tl2
 grind
theorem ctr_put {c s x y:Rat}{vs:List P2}(h1:c*c+s*s=1)(h0:0<vs.length)(hA:areaQ vs≠0):ctr (vs.map (putP c s x y))=putP c s x y (ctr vs):=by
 have hA2:areaQ (vs.map (putP c s x y))≠0:=by rw [areaQ_put h1 h0];exact hA
 have a1:=ctr_part1 hA;have a2:=ctr_part2 hA;have b1:=ctr_part1 hA2;have b2:=ctr_part2 hA2;have e0:=two_part vs;rw [areaQ_put h1 h0,List.length_map] at b1 b2
 have t1:=sumT_tel (fun k=>c*Fk (fun p q=>(p.1+q.1)*crs p q) vs k+ -s*Fk (fun p q=>(p.2+q.2)*crs p q) vs k+3*x*Fk crs vs k) (Fk (fun p q=>(p.1+q.1)*crs p q) (vs.map (putP c s x y))) (fun k=>tl1 c s x y (cv vs k)) (fun k=>by
  unfold Fk;rw [cv_map _ h0,cv_map _ h0];refine(tel_1 c s x y _ _).trans ?_
  rw [h1,Rat.one_mul]) vs.length
 have t2:=sumT_tel (fun k=>s*Fk (fun p q=>(p.1+q.1)*crs p q) vs k+c*Fk (fun p q=>(p.2+q.2)*crs p q) vs k+3*y*Fk crs vs k) (Fk (fun p q=>(p.2+q.2)*crs p q) (vs.map (putP c s x y))) (fun k=>tl2 c s x y (cv vs k)) (fun k=>by
  unfold Fk;rw [cv_map _ h0,cv_map _ h0];refine(tel_2 c s x y _ _).trans ?_
  rw [h1,Rat.one_mul]) vs.length
 rw [sumT_lin,cv_len] at t1 t2;rw [t1] at b1;rw [t2] at b2;generalize sumT (Fk (fun p q=>(p.1+q.1)*crs p q) vs) vs.length=S1 at*
 generalize sumT (Fk (fun p q=>(p.2+q.2)*crs p q) vs) vs.length=S2 at*
 generalize sumT (Fk crs vs) vs.length=S0 at*
 generalize areaQ vs=A at*
 generalize ctr (vs.map (putP c s x y))=m at*
 generalize ctr vs=r at*
 clear t1 t2;have q1:(m.1 - (c*r.1+ -s*r.2+x))*A=0:=by grind
 have q2:(m.2 - (s*r.1+c*r.2+y))*A=0:=by grind
 have z1:=(Rat.mul_eq_zero.1 q1).resolve_right hA;have z2:=(Rat.mul_eq_zero.1 q2).resolve_right hA;exact Prod.ext (by show _=c*r.1+ -s*r.2+x;grind) (by show _=s*r.1+c*r.2+y;grind)

theorem spins_unit:∀j<8,Rat.divInt (spins.getD j (0,0,0)).1 (spins.getD j (0,0,0)).2.2*Rat.divInt (spins.getD j (0,0,0)).1 (spins.getD j (0,0,0)).2.2+Rat.divInt (spins.getD j (0,0,0)).2.1 (spins.getD j (0,0,0)).2.2*Rat.divInt (spins.getD j (0,0,0)).2.1 (spins.getD j (0,0,0)).2.2=1:=by decide+kernel
theorem spin_unit (n:Int):spC n*spC n+spS n*spS n=1:=by
 have h1:=arn_lo n 8 (by omega);have h2:=arn_hi n 8 (by omega);exact spins_unit (arn n 8).toNat (by omega)

theorem Qd_up {K B:Int}{x:Rat}(k:Int)(hk:0<=k)(h:Qd K B x):Qd (k*K) (k*B) x:=by
 obtain⟨a,h1,h2,h3⟩:=h;refine⟨k*a,by rw [Rat.intCast_mul,Rat.intCast_mul,<-h1];grind,?_,Int.mul_le_mul_of_nonneg_left h3 hk⟩;have:=Int.mul_le_mul_of_nonneg_left h2 hk;rw [Int.mul_neg] at this;exact this
theorem spins_Q:∀j<8,(Rat.divInt (spins.getD j (0,0,0)).1 (spins.getD j (0,0,0)).2.2*((65:Int):Rat)=((65*(spins.getD j (0,0,0)).1 / (spins.getD j (0,0,0)).2.2:Int):Rat)/\ -65<=65*(spins.getD j (0,0,0)).1 / (spins.getD j (0,0,0)).2.2/\65*(spins.getD j (0,0,0)).1 / (spins.getD j (0,0,0)).2.2<=65)/\(Rat.divInt (spins.getD j (0,0,0)).2.1 (spins.getD j (0,0,0)).2.2*((65:Int):Rat)=((65*(spins.getD j (0,0,0)).2.1 / (spins.getD j (0,0,0)).2.2:Int):Rat)/\ -65<=65*(spins.getD j (0,0,0)).2.1 / (spins.getD j (0,0,0)).2.2/\65*(spins.getD j (0,0,0)).2.1 / (spins.getD j (0,0,0)).2.2<=65):=by decide+kernel
theorem spin_Q (n:Int):Qd 65 65 (spC n)/\Qd 65 65 (spS n):=by
 have h0:=arn_lo n 8 (by omega);have h1:=arn_hi n 8 (by omega);have h:=spins_Q (arn n 8).toNat (by omega);exact⟨⟨_,h.1⟩,⟨_,h.2⟩⟩
theorem putP_Q {n ix:Int}{m:List Int}(p:P2)(hp:Q2 4 64 p):Q2 260 12480 (putP (spC n) (spS n) (spt m ix).1 (spt m ix).2 p):=by
 obtain⟨hc,hs⟩:=spin_Q n;have ht:=spt_Q m ix;exact⟨Qd_le (Qd_add (Qd_add (Qd_mul hc hp.1) (Qd_mul (Qd_neg hs) hp.2)) (Qd_up 130 (by omega) ht.1)) (by omega),Qd_le (Qd_add (Qd_add (Qd_mul hs hp.1) (Qd_mul hc hp.2)) (Qd_up 130 (by omega) ht.2)) (by omega)⟩
theorem crs_Q4 {p q:P2}(h:Q2 4 64 p)(k:Q2 4 64 q):Qd 16 8192 (crs p q):=Qd_add (Qd_mul h.1 k.2) (Qd_mul (Qd_neg h.2) k.1)
theorem quo_Q4 {s t:Int}{S T:Rat}(hs:S*64=s)(ht:T*16=t)(hb: -100000000<=s/\s<=100000000)(h0:t≠0):Qd (12*(t.natAbs:Int)) 100000000 (S*(Rat.divInt 1 3 / T)):=by
 have hT:T≠0:=by
  intro e;rw [e,Rat.zero_mul] at ht;exact h0 (Rat.intCast_inj.1 (ht.symm.trans Rat.intCast_zero.symm))
 have e1:Rat.divInt 1 3 / T*T=1 / 3:=by rw [third_one];exact Rat.div_mul_cancel hT
 have e2:S*(Rat.divInt 1 3 / T)*((12*t:Int):Rat)=(s:Rat):=by
  rw [Rat.intCast_mul,<-ht,<-hs];have:((12:Int):Rat)=12:=rfl
  grind
 rcases Int.lt_or_lt_of_ne h0 with h|h
 ·refine⟨-s,?_,by omega,by omega⟩;rw [show 12*(t.natAbs:Int)= -(12*t) by omega,Rat.intCast_neg,Rat.intCast_neg,<-e2]
  grind
 ·refine⟨s,?_,by omega,by omega⟩;rw [show 12*(t.natAbs:Int)=12*t by omega];exact e2
theorem ctr_Q4 {vs:List P2}(h:∀p∈vs,Q2 4 64 p)(h0:0<vs.length)(h13:vs.length<=13):∃K:Int,0<K/\K<=100000000/\Q2 K 100000000 (ctr vs):=by
 rw [ctr_form];have hc:∀k,Qd 16 8192 (Fk crs vs k):=fun k=>crs_Q4 (cv_Q2 h h0) (cv_Q2 h h0)
 have h1:∀k,Qd 64 1048576 (Fk (fun p q=>(p.1+q.1)*crs p q) vs k):=fun k=>Qd_mul (Qd_add (cv_Q2 h h0).1 (cv_Q2 h h0).1) (hc k)
 have h2:∀k,Qd 64 1048576 (Fk (fun p q=>(p.2+q.2)*crs p q) vs k):=fun k=>Qd_mul (Qd_add (cv_Q2 h h0).2 (cv_Q2 h h0).2) (hc k)
 obtain⟨t,ht,ht1,ht2⟩:=Qd_sum hc vs.length;obtain⟨a,ha,ha1,ha2⟩:=Qd_sum h1 vs.length;obtain⟨b,hb,hb1,hb2⟩:=Qd_sum h2 vs.length;generalize sumT (Fk crs vs) vs.length=T at*
 generalize sumT (Fk (fun p q=>(p.1+q.1)*crs p q) vs) vs.length=X at*
 generalize sumT (Fk (fun p q=>(p.2+q.2)*crs p q) vs) vs.length=Y at*
 by_cases hz:t=0
 ·have e:T=0:=by
   have h4:((16:Int):Rat)=16:=rfl;have h5:((t:Int):Rat)=0:=by rw [hz];rfl
   rw [h4,h5] at ht
   grind
  have e2:∀z:Rat,z*(Rat.divInt 1 3 / T)=0:=fun z=>by rw [e,Rat.div_def,Rat.inv_zero,Rat.mul_zero,Rat.mul_zero]
  have q:Qd 1 100000000 0:=⟨0,by rw [Rat.zero_mul];rfl,by omega,by omega⟩;refine⟨1,by omega,by omega,?_,?_⟩
  ·show Qd _ _ (X*_);rw [e2];exact q
  ·show Qd _ _ (Y*_);rw [e2];exact q
 ·exact⟨12*(t.natAbs:Int),by omega,by omega,quo_Q4 ha ht ⟨by omega,by omega⟩ hz,quo_Q4 hb ht ⟨by omega,by omega⟩ hz⟩
theorem Stab_VEpG {T:TypeId}{k:Nat}{A:VP}(hA:Stab [] A):Stab [] (VEp T k A):=fun _ _ _ ⟨h,o,cs,e1,e2,e3,e4⟩ hr=>⟨h,o,cs,e1,(hr.row h cs _ e2 (.inl (by simp))).trans e2,e3,hA _ _ _ e4 hr⟩
section
variable {w:World}{c s x y:Rat}{vs:List P2}{v0 v1 lv:Value}
theorem cMvQ (h0:Vp 3 c s x y v0 w)(hS:VSv 3 vs lv w)(hn:vs.length<=13)(hQ:∀p∈vs,Q2 4 64 p)(hpt:∀p,Q2 4 64 p->Q2 260 12480 (putP c s x y p)):Calls Tryz.prog 24 #[v0,lv] w (RV (VSv 3 (vs.map (putP c s x y))) w):=
 (cMove h0 hS (by omega) (by omega) hn).mono fun _ _ h=>h.le fun _ _ h=>VSv_three h (fun p hp=>by
  obtain⟨q,hq,rfl⟩:=List.mem_map.1 hp
  exact hpt q (hQ q hq)) (by omega) (by omega) (by omega)
theorem cCtrQ4 (h0:VSv 3 vs v0 w)(hQ:∀p∈vs,Q2 4 64 p)(h3:0<vs.length:=by omega)(h13:vs.length<=13:=by omega):Calls Tryz.prog 22 #[v0] w (RV (Vv 3 (ctr vs).1 (ctr vs).2) w):=
 (gCtr h0).mono fun _ _ h=>h.le fun v w h=>by
  obtain⟨K,k1,k2,k3⟩:=ctr_Q4 hQ h3 h13;exact Vv_three (p:=ctr vs) h k3 k1 k2 (by omega)
theorem sameLT {N:Nat}(hS:VSv N vs v0 w)(hT:VSv N vs v1 w)(hN3:3<=N)(hN:N<=900):Calls Tryz.prog 25 #[v0,v1] w (RV (Vb true) w):=
 (cR6Same (show VEq v0 v0 w from rfl) (show VEq v1 v1 w from rfl) hS hT hN3 hN).mono fun _ _ h=>h.le fun _ _ hv=>hv.trans (congrArg Value.bool (dT rfl))
theorem put_back (h1:c*c+s*s=1)(vs:List P2):(vs.map (putP c s x y)).map (putP c (-s) (c*(x*Rat.divInt (-1) 1)+ - -s*(y*Rat.divInt (-1) 1)) (-s*(x*Rat.divInt (-1) 1)+c*(y*Rat.divInt (-1) 1)))=vs:=by
 rw [List.map_map]
 have:(putP c (-s) (c*(x*Rat.divInt (-1) 1)+ - -s*(y*Rat.divInt (-1) 1)) (-s*(x*Rat.divInt (-1) 1)+c*(y*Rat.divInt (-1) 1))) ∘ putP c s x y=id:=by
  funext p
  have e:Rat.divInt (-1) 1= -1:=rfl;show putP _ _ _ _ (putP c s x y p)=p;unfold putP;rw [e];exact Prod.ext (by show c*(c*p.1+ -s*p.2+x)+ - -s*(s*p.1+c*p.2+y)+(c*(x* -1)+ - -s*(y* -1))=p.1;grind) (by show -s*(c*p.1+ -s*p.2+x)+c*(s*p.1+c*p.2+y)+(-s*(x* -1)+c*(y* -1))=p.2;grind)
 rw [this,List.map_id]
end
section
variable {ρ:Operand->Value}{o:Oper}{W:World}{x y:Operand}
theorem bslice_L2 {v0 v1:Value}{d0 d1:List P2}(ho:o.op= .buildSlice 51 2 #[(0,x),(1,y)])(e0:ρ x=v0)(e1:ρ y=v1)(h0:VSv 3 d0 v0 W)(h1:VSv 3 d1 v1 W):∃v w',(execOp ρ o).run Tryz.prog W= .ok (.value v) w'/\Below W.heap.size W w'/\VOs 23 1 ES [d0,d1] v w':=by
 obtain⟨p0,c0,rfl⟩:=VSv_slice h0;obtain⟨p1,c1,rfl⟩:=VSv_slice h1;have hb:=below_new W (.cells #[.slice p0 d0.length c0,.slice p1 d1.length c1] 23);refine⟨.slice (some ⟨W.heap.size,0,none⟩) 2 2,_,?_,hb,_,_,rfl,heap_alloc_new _ _,rfl,_,rfl,fun i z hz=>?_⟩
 ·clear h0 h1 hb;generalize d0.length=n0 at*
  generalize d1.length=n1 at*
  obtain⟨dd,op,ty,ps,af,gd⟩:=o;subst ho
  go_simp
 ·match i,hz with
  |0,hz=>cases hz;exact⟨_,rfl,VSv_later h0 hb⟩
  |1,hz=>cases hz;exact⟨_,rfl,VSv_later h1 hb⟩
  |i+2,hz=>simp at hz
end
theorem walkMoved {w:World}{l m:List Int}{how z:Int}{v0 v1 v2 v3:Value}(h0:VI l v0 w)(h1:VI m v1 w)(h2:Vi how v2 w)(h3:Vi z v3 w)(hw0: -9223372036854775808<=how)(hw1:how<=9223372036854775807)(hz0: -9223372036854775808<=z)(hz1:z<=9223372036854775807):Calls Tryz.prog 5 #[v0,v1,v2,v3] w (RV (Vb true) w):=by
 go_enter Tryz.func5,Tryz.ntmps5
 refine Sg 139 [(0,VI l),(1,VI m),(2,Vi how),(3,Vi z)] (Lq.2 ⟨⟨_,rfl,h0⟩,(Lq.2 ⟨⟨_,rfl,h1⟩,(Lq.2 ⟨⟨_,rfl,h2⟩,(Lq.2 ⟨⟨_,rfl,h3⟩,L0⟩)⟩)⟩)⟩) fun a0 st0=>Wn ?_
 refine rH [(49,16,0)] [Vb false] [] [(0,VI l),(1,VI m),(2,Vi how),(3,Vi z),(8,Vb false)] st0 ⟨ks,trivial⟩ fun a1 w1 st1=>Wn ?_
 refine rH [] [VI l,VSv 7 (polyR l),VSv 7 (polyR l)] [] [(1,VI m),(2,Vi how),(3,Vi z),(8,Vb false),(9,VSv 7 (polyR l))] st1 ⟨ks,(kd1 fun _ _ _ _ _ X0=>cR6Polygon X0),ks,trivial⟩ ?_;intro a2 w2 st2;replace st2:St w.heap.size w 139 [] [(1,VI m),(2,Vi how),(3,Vi z),(8,Vb false),(9,VSv 7 (polyR l))] a2 w2:=st2;obtain⟨u1,p1,s1⟩:=st2.sl (1,VI m) (lS_mem rfl);obtain⟨u2,p2,s2⟩:=st2.sl (2,Vi how) (lS_mem rfl);obtain⟨u3,p3,s3⟩:=st2.sl (3,Vi z) (lS_mem rfl);obtain⟨u9,p9,s9⟩:=st2.sl (9,VSv 7 (polyR l)) (lS_mem rfl);refine Wn ?_
 obtain⟨hbN,stB⟩:=st2.base [(1,VI m),(2,Vi how),(3,Vi z),(9,VAt w2 (VSv 3 (polyR l)))] (Lq.2 ⟨⟨_,p1,s1⟩,(Lq.2 ⟨⟨_,p2,s2⟩,(Lq.2 ⟨⟨_,p3,s3⟩,(Lq.2 ⟨⟨_,p9,VSv_three s9 (polyR_Q l) (by omega) (by omega) (by omega)⟩,L0⟩)⟩)⟩)⟩);obtain⟨wU,hren⟩:∃z,z=w:=⟨_,rfl⟩;subst hren;have hbO:=hbN;clear hbN;obtain⟨w,hren⟩:∃z,z=w2:=⟨_,rfl⟩;subst hren;have st2:St w.heap.size w 139 [] [(1,VI m),(2,Vi how),(3,Vi z),(9,VAt w (VSv 3 (polyR l)))] a2 w:=stB;clear stB;clear p1 s1 p2 s2 p3 s3 p9 s9;obtain⟨hP3,hP12⟩:=polyR_len l;have hPQ:=polyR_Q l;generalize polyR l=P at st2 hP3 hP12 hPQ;refine Wn ?_
 refine rH [(49,16,0)] [VI m,Vp 3 (spC (atv m 6 64)) (spS (atv m 6 64)) ((spt m (6+1)).1) ((spt m (6+1)).2),VT,VT] [⟨10,some 2,some 3,49,16,Vp 3 (spC (atv m 6 64)) (spS (atv m 6 64)) ((spt m (6+1)).1) ((spt m (6+1)).2),VT⟩] [(1,VI m),(2,Vi how),(3,Vi z),(9,VAt w (VSv 3 P))] st2 ⟨ks,(by refine kc fun _ ac Y h D=>?_;obtain⟨v0,x0,X0⟩:=h.dp D 20;exact⟨#[v0,.int .i64 6],by simp [x0,eval_const],cR6Place X0 (show Vi 6 (.int .i64 6) Y from rfl)⟩),ks,ks,trivial⟩ ?_;intro a3 w3 st3;have b0:=arn_lo how 4 (by omega);have b1:=arn_hi how 4 (by omega);have hPQ4:∀p∈P,Q2 4 64 p:=fun p hp=>Q2_twice (hPQ p hp)
 have h57:¬arn (2*arn how 4) 7=5:=by rcases (show arn how 4=0∨arn how 4=1∨arn how 4=2∨arn how 4=3 by omega)with h|h|h|h<;>rw [h]<;>decide
 refine Wn ?_
 refine rH [] [VAt w (VSv 3 P),VAt w (VSv 3 P),Vi how,Vi (arn how 4),Vi ((2)*(arn how 4)),Vi z,VSv 3 (spoil P (2*arn how 4) z),VOs 23 1 ES [P,(spoil P (2*arn how 4) z)],VOs 23 1 ES [P,(spoil P (2*arn how 4) z)]] [.k 10 49 16 (Vp 3 (spC (atv m 6 64)) (spS (atv m 6 64)) ((spt m (6+1)).1) ((spt m (6+1)).2))] [(1,VI m),(2,Vi how),(3,Vi z),(9,VAt w (VSv 3 P)),(11,VOs 23 1 ES [P,(spoil P (2*arn how 4) z)])] st3 ⟨ks,ks,ks,(by refine kc fun _ ac Y h D=>?_;obtain⟨v0,x0,X0⟩:=h.dp D 24;exact⟨#[v0,.int .i64 4],by simp [x0,eval_const],cAround X0⟩),(by refine kr fun _ ac Y h D=>?_;obtain⟨v1,x1,X1⟩:=h.dp D 25;have hV1':v1= .int .i64 (arn how 4):=X1;exact⟨_,run_muli rfl rfl (x1.trans hV1') wO,rfl⟩),ks,(by refine kc fun _ ac Y h D=>?_;obtain⟨v0,x0,X0⟩:=h.dp D 23;obtain⟨v1,x1,X1⟩:=h.dp D 26;obtain⟨v2,x2,X2⟩:=h.dp D 27;exact⟨#[v0,v1,v2],by simp [x0,x1,x2],(cR6Spoilt (N:=3) (how:=2*arn how 4) (show VAt Y (VSv 3 P) v0 Y from(VSv_later X0 h.k.below)) X1 X2 (by omega) (by omega) (by omega) (by omega) (by omega) (by omega) hz0 hz1 h57).mono fun _ _ h=>h.le fun _ _ h=>VSv_three h (spoil_Q (B:=32) (by omega) hPQ (by omega) _ z) (by omega) (by omega) (by omega)⟩),(by refine km fun _ ac Y h D=>?_;obtain⟨v0,x0,X0⟩:=h.dp D 22;obtain⟨v1,x1,X1⟩:=h.dp D 28;exact bslice_L2 rfl x0 x1 (VSv_later X0 h.k.below) X1),ks,trivial⟩ ?_;intro a4 w4 st4;replace st4:St w.heap.size w 139 [.k 10 49 16 (Vp 3 (spC (atv m 6 64)) (spS (atv m 6 64)) ((spt m (6+1)).1) ((spt m (6+1)).2))] [(1,VI m),(2,Vi how),(3,Vi z),(9,VAt w (VSv 3 P)),(11,VOs 23 1 ES [P,(spoil P (2*arn how 4) z)])] a4 w4:=st4;obtain⟨g10,e10,-,-,cs10,b2,b3,-,b4⟩:=st4.boxAt (b:=(.k 10 49 16 (Vp 3 (spC (atv m 6 64)) (spS (atv m 6 64)) ((spt m (6+1)).1) ((spt m (6+1)).2)))) (.head _) rfl rfl;obtain⟨u1,p1,s1⟩:=st4.sl (1,VI m) (lS_mem rfl);obtain⟨u9,p9,s9⟩:=st4.sl (9,VAt w (VSv 3 P)) (lS_mem rfl);obtain⟨u11,p11,s11⟩:=st4.sl (11,VOs 23 1 ES [P,(spoil P (2*arn how 4) z)]) (lS_mem rfl);replace s11:=VLs_mono s11 (by simp);have hSl:=spoil_len (vs:=P) (how:=2*arn how 4) (z:=z) (by omega);have hSQ:=spoil_Q (B:=32) (by omega) hPQ (by omega) (2*arn how 4) z;generalize spoil P (2*arn how 4) z=S at s11 hSl hSQ
 have hLL:∀vs∈ [P,S],0<vs.length/\vs.length<=13/\∀p∈vs,Q2 4 64 p:=by
  intro vs hvs;simp only [List.mem_cons,List.not_mem_nil,or_false] at hvs;rcases hvs with rfl|rfl
  ·exact⟨by omega,by omega,hPQ4⟩
  ·exact⟨by omega,by omega,hSQ⟩
 have hLn: [P,S].length=2:=rfl;clear hSl hSQ;generalize [P,S]=LL at s11 hLL hLn;have h1:=spin_unit (atv m 6 64);have hpt:=fun p hp=>putP_Q (n:=atv m 6 64) (ix:=6+1) (m:=m) p hp
 generalize spC (atv m 6 64)=co at b4 h1 hpt;generalize spS (atv m 6 64)=si at b4 h1 hpt;generalize(spt m (6+1)).1=tx at b4 hpt;generalize(spt m (6+1)).2=ty at b4 hpt;refine Wn ?_
 obtain⟨hbN,stB⟩:=st4.base [(1,VI m),(9,VAt w4 (VSv 3 P)),(10,VAt w4 (VEp 49 16 (Vp 3 co si tx ty))),(11,VAt w4 (VLs LL))] (Lq.2 ⟨⟨_,p1,s1⟩,(Lq.2 ⟨⟨_,p9,VSv_later s9 st4.k.below⟩,(Lq.2 ⟨⟨_,e10,_,0,_,rfl,b2,Nat.le_of_eq ((Nat.zero_add _).trans b3.symm),by rw [Nat.zero_add,show(16:Nat)=cs10.size from b3.symm,Array.extract_size];exact b4⟩,(Lq.2 ⟨⟨_,p11,s11⟩,L0⟩)⟩)⟩)⟩);have hbX:=below_tr hbO hbN;clear hbN;clear hbO;have hbO:=hbX;clear hbX;obtain⟨wP,hren⟩:∃z,z=w:=⟨_,rfl⟩;subst hren;obtain⟨w,hren⟩:∃z,z=w4:=⟨_,rfl⟩;subst hren;have st4:St w.heap.size w 139 [] [(1,VI m),(9,VAt w (VSv 3 P)),(10,VAt w (VEp 49 16 (Vp 3 co si tx ty))),(11,VAt w (VLs LL))] a4 w:=stB;clear stB;clear p1 s1 p9 s9 p11 s11 e10 b2 b3 b4 b0 b1 h57;refine Wn ?_
 refine rH [(49,16,0)] [Vi 0] [] [(1,VI m),(9,VAt w (VSv 3 P)),(10,VAt w (VEp 49 16 (Vp 3 co si tx ty))),(11,VAt w (VLs LL)),(12,Vi 0)] st4 ⟨ks,trivial⟩ ?_;intro a5 w5 st5;replace st5:St w.heap.size w 139 [] [(1,VI m),(9,VAt w (VSv 3 P)),(10,VAt w (VEp 49 16 (Vp 3 co si tx ty))),(11,VAt w (VLs LL)),(12,Vi ((0:Nat):Int))] a5 w5:=st5.cut;refine Wn ?_
 refine wp_loop_ghost (fun m2 aX wX=>∃t:Nat,t+m2=2/\St w.heap.size w 139 [] [(1,VI m),(9,VAt w (VSv 3 P)),(10,VAt w (VEp 49 16 (Vp 3 co si tx ty))),(11,VAt w (VLs LL)),(12,Vi t)] aX wX) 2 ⟨0,by omega,st5⟩ ?_;intro m2 aLt wLt ⟨t,ht,st5⟩;by_cases hlt2:t<2
 ·
  refine Wn ?_
  refine rH [(49,16,0)] [Vi t,VAt w (VLs LL),Vi 2,Vb true] [] [(1,VI m),(9,VAt w (VSv 3 P)),(10,VAt w (VEp 49 16 (Vp 3 co si tx ty))),(11,VAt w (VLs LL)),(12,Vi t),(33,Vb true)] st5 ⟨ks,ks,(by refine kr fun _ ac Y h D=>?_;obtain⟨v0,x0,X0⟩:=h.dp D 31;rw [<-show((LL.length:Nat):Int)=2 by rw [hLn];rfl];exact len_Ls rfl rfl x0 X0),(kr2 30 32 fun _ _ _ _ _ x0 X0 _ x1 X1=>⟨_,run_lssi rfl (x0.trans X0) (x1.trans X1),congrArg Value.bool (dT (by omega))⟩),trivial⟩ ?_;intro a6 w6 st6;refine Wn ?_
  refine cT st6 ?_;obtain⟨vs,hvs⟩:∃vs,LL[t]? =some vs:=⟨_,List.getElem?_eq_getElem (by omega)⟩;obtain⟨x0,hv13,hvQ⟩:=hLL vs (List.mem_of_getElem? hvs);refine Wn ?_
  refine rH [] [Vp 3 co si tx ty,VAt w (VLs LL),Vi t,VAt w (VEp 23 1 (ES vs)),VAt w (VSv 3 vs),VSv 3 (vs.map (putP co si tx ty)),VSv 3 (vs.map (putP co si tx ty))] [] [(1,VI m),(9,VAt w (VSv 3 P)),(10,VAt w (VEp 49 16 (Vp 3 co si tx ty))),(11,VAt w (VLs LL)),(12,Vi t),(33,Vb true),(13,VSv 3 (vs.map (putP co si tx ty)))] st6 ⟨(by refine kr fun _ ac Y h D=>?_;obtain⟨v0,x0,X0⟩:=h.ot 10;exact load_EpC (w:=w) (k:=16) (A:=Vp 3 co si tx ty) (Stab_Vp _ _ _ _ _) rfl x0 X0 h.k.below Tryz.underlying49 rfl size_Place),ks,ks,(kr2 37 38 fun _ _ _ _ _ x0 X0 _ x1 X1=>index_Ls rfl x0 X0 x1 X1 hvs),(kr1 39 fun _ _ _ h _ x0 X0=>load_Ls rfl x0 X0 h.k.below),(kd2 fun _ _ _ h _ X0 _ X1=>cMvQ X0 (VSv_later X1 h.k.below) hv13 hvQ hpt),ks,trivial⟩ ?_;intro a7 w7 st7;have hMl:(vs.map (putP co si tx ty)).length=vs.length:=List.length_map _;have hMa:areaQ (vs.map (putP co si tx ty))=areaQ vs:=areaQ_put h1 x0;have hMv:validP (vs.map (putP co si tx ty))=validP vs:=validP_put h1 x0;have hMc:convexP (vs.map (putP co si tx ty))=convexP vs:=convexP_put h1 x0;have hMm:areaQ vs≠0->ctr (vs.map (putP co si tx ty))=putP co si tx ty (ctr vs):=fun h=>ctr_put h1 x0 h
  obtain⟨MV,hMd⟩:∃MV,vs.map (putP co si tx ty)=MV:=⟨_,rfl⟩;rw [hMd] at st7 hMl hMa hMv hMc hMm;refine Wn ?_
  refine rH [] [VSv 3 MV,Vp 3 co si tx ty,VAt w (VLs LL),Vi t,VAt w (VEp 23 1 (ES vs)),VAt w (VSv 3 vs),VSv 17 MV,Vb true,Vb false,Vb false,VSv 3 MV,Vq 900 (areaQ MV),VAt w (VLs LL),Vi t,VAt w (VEp 23 1 (ES vs)),VAt w (VSv 3 vs),Vq 900 (areaQ vs),Vb true,Vb false,Vb false,Vb false,VSv 3 MV,Vb (validP vs),VAt w (VLs LL),Vi t,VAt w (VEp 23 1 (ES vs)),VAt w (VSv 3 vs),Vb (validP vs),Vb false,Vb false,Vb false,VSv 3 MV,Vb (convexP vs),VAt w (VLs LL),Vi t,VAt w (VEp 23 1 (ES vs)),VAt w (VSv 3 vs),Vb (convexP vs),Vb false,Vb false] [] [(1,VI m),(9,VAt w (VSv 3 P)),(10,VAt w (VEp 49 16 (Vp 3 co si tx ty))),(11,VAt w (VLs LL)),(12,Vi t),(33,Vb true),(13,VSv 3 MV),(81,Vb false)] st7 ⟨ks,(by refine kr fun _ ac Y h D=>?_;obtain⟨v0,x0,X0⟩:=h.ot 10;exact load_EpC (w:=w) (k:=16) (A:=Vp 3 co si tx ty) (Stab_Vp _ _ _ _ _) rfl x0 X0 h.k.below Tryz.underlying49 rfl size_Place),ks,ks,(kr2 44 45 fun _ _ _ _ _ x0 X0 _ x1 X1=>index_Ls rfl x0 X0 x1 X1 hvs),(kr1 46 fun _ _ _ h _ x0 X0=>load_Ls rfl x0 X0 h.k.below),(kd2 fun _ _ Y h v0 X0 v1 X1=>hMd ▸ cR6Move X0 (show VAt Y (VSv 3 vs) v1 Y from(VSv_later X1 h.k.below))),(kd2 fun _ _ _ _ _ X0 _ X1=>sameLT (N:=17) (vs:=MV) (VSv_le X0 (by omega)) X1 (by omega) (by omega)),ks,ks,ks,(kd1 fun _ _ _ _ _ X0=>gArea X0),ks,ks,(kr2 54 55 fun _ _ _ _ _ x0 X0 _ x1 X1=>index_Ls rfl x0 X0 x1 X1 hvs),(kr1 56 fun _ _ _ h _ x0 X0=>load_Ls rfl x0 X0 h.k.below),(kd1 fun _ _ Y h v0 X0=>gArea (VSv_later (show VSv 3 vs _ w from(show VAt w (VSv 3 vs) v0 Y from X0)) h.k.below)),(kd2 fun _ _ _ _ _ X0 _ X1=>same4T X0 X1 (by omega) (by omega) hMa),ks,ks,ks,ks,(kd1 fun _ _ _ _ _ X0=>lvValid X0 hMv),ks,ks,(kr2 65 66 fun _ _ _ _ _ x0 X0 _ x1 X1=>index_Ls rfl x0 X0 x1 X1 hvs),(kr1 67 fun _ _ _ h _ x0 X0=>load_Ls rfl x0 X0 h.k.below),(kd1 fun _ _ Y h v0 X0=>lvValid (VSv_later (show VSv 3 vs _ w from(show VAt w (VSv 3 vs) v0 Y from X0)) h.k.below) rfl),(kr2 64 69 fun _ _ _ _ _ x0 X0 _ x1 X1=>⟨_,run_neqb rfl (x0.trans X0) (x1.trans X1),congrArg Value.bool (bne_self_eq_false _)⟩),ks,ks,ks,(kd1 fun _ _ _ _ _ X0=>lvConvex X0 hMc),ks,ks,(kr2 75 76 fun _ _ _ _ _ x0 X0 _ x1 X1=>index_Ls rfl x0 X0 x1 X1 hvs),(kr1 77 fun _ _ _ h _ x0 X0=>load_Ls rfl x0 X0 h.k.below),(kd1 fun _ _ Y h v0 X0=>lvConvex (VSv_later (show VSv 3 vs _ w from(show VAt w (VSv 3 vs) v0 Y from X0)) h.k.below) rfl),(kr2 74 79 fun _ _ _ _ _ x0 X0 _ x1 X1=>⟨_,run_neqb rfl (x0.trans X0) (x1.trans X1),congrArg Value.bool (bne_self_eq_false _)⟩),ks,trivial⟩ ?_;intro a8 w8 st8;refine Wn ?_
  refine cF st8 ?_;have hvn:=x0;by_cases hz:areaQ vs=0
  ·
   refine Wn ?_
   refine rH [] [VAt w (VLs LL),Vi t,VAt w (VEp 23 1 (ES vs)),VAt w (VSv 3 vs),Vq 900 (areaQ vs),Vi (cmpI (areaQ vs).num 0),Vb false,Vb false,VT,VT,VT,VT,VT,VT,VT,VT,VT,VT,VT,Vb false] [] [(1,VI m),(9,VAt w (VSv 3 P)),(10,VAt w (VEp 49 16 (Vp 3 co si tx ty))),(11,VAt w (VLs LL)),(12,Vi t),(33,Vb true),(13,VSv 3 MV),(81,Vb false),(101,Vb false)] st8 ⟨ks,ks,(kr2 82 83 fun _ _ _ _ _ x0 X0 _ x1 X1=>index_Ls rfl x0 X0 x1 X1 hvs),(kr1 84 fun _ _ _ h _ x0 X0=>load_Ls rfl x0 X0 h.k.below),(kd1 fun _ _ Y h v0 X0=>gArea (VSv_later (show VSv 3 vs _ w from(show VAt w (VSv 3 vs) v0 Y from X0)) h.k.below)),(kd1 fun _ _ _ _ _ X0=>cQSign X0),(kr1 87 fun _ _ _ _ _ x0 X0=>⟨_,run_neqi rfl (x0.trans X0) rfl,congrArg Value.bool (bne_eq_false_iff_eq.2 ((cmpI_zeroQ _).2 hz))⟩),ks,ks,ks,ks,ks,ks,ks,ks,ks,ks,ks,ks,ks,trivial⟩ fun a9 w9 st9=>Wn ?_
   refine cF st9 ?_;refine Wn ?_
   refine rH [] [Vi t,Vi ((t+1:Nat):Int),Vi ((t+1:Nat):Int)] [] [(1,VI m),(9,VAt w (VSv 3 P)),(10,VAt w (VEp 49 16 (Vp 3 co si tx ty))),(11,VAt w (VLs LL)),(33,Vb true),(13,VSv 3 MV),(81,Vb false),(101,Vb false),(12,Vi ((t+1:Nat):Int))] st9 ⟨?s0,(kr1 34 fun _ _ _ _ v0 x0 X0=>⟨_,run_addi rfl (x0.trans (show v0= .int .i64 t from X0)) rfl wO,congrArg (Value.int .i64) (by omega)⟩),ks,trivial⟩ ?_
   case s0=>
    refine k_run0 SbB.out (by kernel_rfl) fun listed ac Y h D hnl=>⟨trivial,?_⟩
    obtain⟨v0,x0,X0⟩:=h.out0 hnl (12,Vi t) (.tail _ (.tail _ (.tail _ (.tail _ (.head _))))) 2 (by kernel_rfl) (.inr (by kernel_rfl));exact⟨_,run_move rfl,by rw [x0];exact X0⟩
   intro a10 w10 st10;replace st10:St w.heap.size w 139 [] [(1,VI m),(9,VAt w (VSv 3 P)),(10,VAt w (VEp 49 16 (Vp 3 co si tx ty))),(11,VAt w (VLs LL)),(33,Vb true),(13,VSv 3 MV),(81,Vb false),(101,Vb false),(12,Vi ((t+1:Nat):Int))] a10 w10:=st10;exact⟨m2 - 1,by omega,t+1,by omega,st10.cut⟩
  ·
   refine Wn ?_
   refine rH [] [VAt w (VLs LL),Vi t,VAt w (VEp 23 1 (ES vs)),VAt w (VSv 3 vs),Vq 900 (areaQ vs),Vi (cmpI (areaQ vs).num 0),Vb true,Vb true,VSv 3 MV,Vv 3000 ((ctr MV).1) ((ctr MV).2),Vp 3 co si tx ty,VAt w (VLs LL),Vi t,VAt w (VEp 23 1 (ES vs)),VAt w (VSv 3 vs),Vv 3 ((ctr vs).1) ((ctr vs).2),Vv (8*3+3) ((co)*((ctr vs).1)+ -(si)*((ctr vs).2)+(tx)) ((si)*((ctr vs).1)+(co)*((ctr vs).2)+(ty)),Vb true,Vb false,Vb false] [] [(1,VI m),(9,VAt w (VSv 3 P)),(10,VAt w (VEp 49 16 (Vp 3 co si tx ty))),(11,VAt w (VLs LL)),(12,Vi t),(33,Vb true),(13,VSv 3 MV),(81,Vb false),(101,Vb false)] st8 ⟨ks,ks,(kr2 82 83 fun _ _ _ _ _ x0 X0 _ x1 X1=>index_Ls rfl x0 X0 x1 X1 hvs),(kr1 84 fun _ _ _ h _ x0 X0=>load_Ls rfl x0 X0 h.k.below),(kd1 fun _ _ Y h v0 X0=>gArea (VSv_later (show VSv 3 vs _ w from(show VAt w (VSv 3 vs) v0 Y from X0)) h.k.below)),(kd1 fun _ _ _ _ _ X0=>cQSign X0),(kr1 87 fun _ _ _ h _ x0 X0=>⟨_,run_neqi rfl (x0.trans X0) rfl,congrArg Value.bool (bne_iff_ne.2 fun h=>hz ((cmpI_zeroQ _).1 h))⟩),ks,ks,(kd1 fun _ _ _ _ _ X0=>gCtr X0),(by refine kr fun _ ac Y h D=>?_;obtain⟨v0,x0,X0⟩:=h.ot 10;exact load_EpC (w:=w) (k:=16) (A:=Vp 3 co si tx ty) (Stab_Vp _ _ _ _ _) rfl x0 X0 h.k.below Tryz.underlying49 rfl size_Place),ks,ks,(kr2 93 94 fun _ _ _ _ _ x0 X0 _ x1 X1=>index_Ls rfl x0 X0 x1 X1 hvs),(kr1 95 fun _ _ _ h _ x0 X0=>load_Ls rfl x0 X0 h.k.below),(kd1 fun _ _ _ h _ X0=>cCtrQ4 (VSv_later X0 h.k.below) hvQ hvn hv13),(kd2 fun _ _ _ _ _ X0 _ X1=>cPut X0 X1),(by exact kd2 fun _ _ _ _ _ X0 _ X1=>same5T X0 X1 (by omega) (by omega) ⟨by rw [hMm hz];rfl,by rw [hMm hz];rfl⟩),ks,ks,trivial⟩ ?_;intro a9 w9 st9;refine Wn ?_
   refine cF st9 ?_;refine Wn ?_
   refine rH [] [Vi t,Vi ((t+1:Nat):Int),Vi ((t+1:Nat):Int)] [] [(1,VI m),(9,VAt w (VSv 3 P)),(10,VAt w (VEp 49 16 (Vp 3 co si tx ty))),(11,VAt w (VLs LL)),(33,Vb true),(13,VSv 3 MV),(81,Vb false),(101,Vb false),(12,Vi ((t+1:Nat):Int))] st9 ⟨?s0,(kr1 34 fun _ _ _ _ v0 x0 X0=>⟨_,run_addi rfl (x0.trans (show v0= .int .i64 t from X0)) rfl wO,congrArg (Value.int .i64) (by omega)⟩),ks,trivial⟩ ?_
   case s0=>
    refine k_run0 SbB.out (by kernel_rfl) fun listed ac Y h D hnl=>⟨trivial,?_⟩
    obtain⟨v0,x0,X0⟩:=h.out0 hnl (12,Vi t) (.tail _ (.tail _ (.tail _ (.tail _ (.head _))))) 2 (by kernel_rfl) (.inr (by kernel_rfl));exact⟨_,run_move rfl,by rw [x0];exact X0⟩
   intro a10 w10 st10;replace st10:St w.heap.size w 139 [] [(1,VI m),(9,VAt w (VSv 3 P)),(10,VAt w (VEp 49 16 (Vp 3 co si tx ty))),(11,VAt w (VLs LL)),(33,Vb true),(13,VSv 3 MV),(81,Vb false),(101,Vb false),(12,Vi ((t+1:Nat):Int))] a10 w10:=st10;exact⟨m2 - 1,by omega,t+1,by omega,st10.cut⟩
 ·
  refine Wn ?_
  refine rH [(49,16,0)] [Vi t,VAt w (VLs LL),Vi 2,Vb false] [] [(1,VI m),(9,VAt w (VSv 3 P)),(10,VAt w (VEp 49 16 (Vp 3 co si tx ty))),(11,VAt w (VLs LL)),(12,Vi t),(33,Vb false)] st5 ⟨ks,ks,(by refine kr fun _ ac Y h D=>?_;obtain⟨v0,x0,X0⟩:=h.dp D 31;rw [<-show((LL.length:Nat):Int)=2 by rw [hLn];rfl];exact len_Ls rfl rfl x0 X0),(kr2 30 32 fun _ _ _ _ _ x0 X0 _ x1 X1=>⟨_,run_lssi rfl (x0.trans X0) (x1.trans X1),congrArg Value.bool (dF (by omega))⟩),trivial⟩ ?_;intro a6 w6 st6;refine Wn ?_
  refine cF st6 ?_;have hMl:(P.map (putP co si tx ty)).length=P.length:=List.length_map _;have hMh:∀p,hasI (P.map (putP co si tx ty)) (putP co si tx ty p)=hasI P p:=fun p=>hasI_put h1 (by omega) p
  have hMb:=put_back (x:=tx) (y:=ty) h1 P;refine Wn ?_
  refine rH [] [Vp 3 co si tx ty,VAt w (VSv 3 P),VSv 3 (P.map (putP co si tx ty)),VSv 3 (P.map (putP co si tx ty))] [] [(1,VI m),(9,VAt w (VSv 3 P)),(10,VAt w (VEp 49 16 (Vp 3 co si tx ty))),(11,VAt w (VLs LL)),(12,Vi t),(33,Vb false),(14,VSv 3 (P.map (putP co si tx ty)))] st6 ⟨(by refine kr fun _ ac Y h D=>?_;obtain⟨v0,x0,X0⟩:=h.ot 10;exact load_EpC (w:=w) (k:=16) (A:=Vp 3 co si tx ty) (Stab_Vp _ _ _ _ _) rfl x0 X0 h.k.below Tryz.underlying49 rfl size_Place),ks,(kd2 fun _ _ _ h _ X0 _ X1=>cMvQ X0 (VSv_later X1 h.k.below) (by omega) hPQ4 hpt),ks,trivial⟩ ?_;intro a7 w7 st7;refine Wn ?_
  refine rH [] [VAt w (VSv 3 P),VI m,VSv 3 (spL m P P.length),VSv 3 (spL m P P.length)] [] [(1,VI m),(9,VAt w (VSv 3 P)),(10,VAt w (VEp 49 16 (Vp 3 co si tx ty))),(11,VAt w (VLs LL)),(12,Vi t),(33,Vb false),(14,VSv 3 (P.map (putP co si tx ty))),(15,VSv 3 (spL m P P.length))] st7 ⟨ks,ks,(kd2 fun _ _ Y h v0 X0 v1 X1=>cSpots (show VAt Y (VSv 3 P) v0 Y from VSv_later X0 h.k.below) X1 hP3 hP12 hPQ),ks,trivial⟩ ?_;intro a8 w8 st8;replace st8:St w.heap.size w 139 [] [(1,VI m),(9,VAt w (VSv 3 P)),(10,VAt w (VEp 49 16 (Vp 3 co si tx ty))),(11,VAt w (VLs LL)),(12,Vi t),(33,Vb false),(14,VSv 3 (P.map (putP co si tx ty))),(15,VSv 3 (spL m P P.length))] a8 w8:=st8;obtain⟨u9,p9,s9⟩:=st8.sl (9,VAt w (VSv 3 P)) (lS_mem rfl);obtain⟨u10,p10,s10⟩:=st8.sl (10,VAt w (VEp 49 16 (Vp 3 co si tx ty))) (lS_mem rfl);obtain⟨u14,p14,s14⟩:=st8.sl (14,VSv 3 (P.map (putP co si tx ty))) (lS_mem rfl);obtain⟨u15,p15,s15⟩:=st8.sl (15,VSv 3 (spL m P P.length)) (lS_mem rfl);have hL:=spL_len m P P.length;generalize spL m P P.length=L at s15 hL;generalize P.map (putP co si tx ty)=MP at s14 hMl hMh hMb;refine Wn ?_
  obtain⟨hbN,stB⟩:=st8.base [(9,VAt w8 (VSv 3 P)),(10,VAt w8 (VEp 49 16 (Vp 3 co si tx ty))),(14,VAt w8 (VSv 3 MP)),(15,VAt w8 (VSv 3 L))] (Lq.2 ⟨⟨_,p9,VSv_later s9 st8.k.below⟩,(Lq.2 ⟨⟨_,p10,VAt_cur (Stab_VEpG (Stab_Vp _ _ _ _ _)) (show VAt w (VEp 49 16 (Vp 3 co si tx ty)) u10 w from s10) st8.k.below⟩,(Lq.2 ⟨⟨_,p14,s14⟩,(Lq.2 ⟨⟨_,p15,s15⟩,L0⟩)⟩)⟩)⟩);have hbX:=below_tr hbO hbN;clear hbN;clear hbO;have hbO:=hbX;clear hbX;obtain⟨wP,hren⟩:∃z,z=w:=⟨_,rfl⟩;subst hren;obtain⟨w,hren⟩:∃z,z=w8:=⟨_,rfl⟩;subst hren;have st8:St w.heap.size w 139 [] [(9,VAt w (VSv 3 P)),(10,VAt w (VEp 49 16 (Vp 3 co si tx ty))),(14,VAt w (VSv 3 MP)),(15,VAt w (VSv 3 L))] a8 w:=stB;clear stB;clear p9 s9 p10 s10 p14 s14 p15 s15;refine Wn ?_
  refine rH [(49,16,0)] [Vi 0] [] [(9,VAt w (VSv 3 P)),(10,VAt w (VEp 49 16 (Vp 3 co si tx ty))),(14,VAt w (VSv 3 MP)),(15,VAt w (VSv 3 L)),(16,Vi 0)] st8 ⟨ks,trivial⟩ ?_;intro a9 w9 st9;replace st9:St w.heap.size w 139 [] [(9,VAt w (VSv 3 P)),(10,VAt w (VEp 49 16 (Vp 3 co si tx ty))),(14,VAt w (VSv 3 MP)),(15,VAt w (VSv 3 L)),(16,Vi ((0:Nat):Int))] a9 w9:=st9.cut;refine Wn ?_
  refine wp_loop_ghost (fun m1 aX wX=>∃j:Nat,j+m1=L.length/\St w.heap.size w 139 [] [(9,VAt w (VSv 3 P)),(10,VAt w (VEp 49 16 (Vp 3 co si tx ty))),(14,VAt w (VSv 3 MP)),(15,VAt w (VSv 3 L)),(16,Vi j)] aX wX) L.length ⟨0,by omega,st9⟩ ?_;intro m1 aLj wLj ⟨j,hj,st9⟩;by_cases hlt:j<L.length
  ·
   refine Wn ?_
   refine rH [(49,16,0)] [Vi j,VAt w (VSv 3 L),Vi (L.length:Int),Vb true] [] [(9,VAt w (VSv 3 P)),(10,VAt w (VEp 49 16 (Vp 3 co si tx ty))),(14,VAt w (VSv 3 MP)),(15,VAt w (VSv 3 L)),(16,Vi j),(111,Vb true)] st9 ⟨ks,ks,(kr1 109 fun _ _ _ _ _ x0 X0=>len_SvA rfl rfl x0 X0),(kr2 108 110 fun _ _ _ _ _ x0 X0 _ x1 X1=>⟨_,run_lssi rfl (x0.trans X0) (x1.trans X1),congrArg Value.bool (dT (by omega))⟩),trivial⟩ fun a10 w10 st10=>Wn ?_
   refine cT st10 ?_;have hgj:L[j]? =some (cv L j):=cv_gets hlt;refine Wn ?_
   refine rH [(49,16,0)] [VAt w (VSv 3 MP),Vp 3 co si tx ty,VAt w (VSv 3 L),Vi j,VAt w (VEp 32 8 (Vv 3 (cv L j).1 (cv L j).2)),Vv 3 ((cv L j).1) ((cv L j).2),Vv (8*3+3) ((co)*((cv L j).1)+ -(si)*((cv L j).2)+(tx)) ((si)*((cv L j).1)+(co)*((cv L j).2)+(ty)),Vi (hasI P (cv L j)),VAt w (VSv 3 P),VAt w (VSv 3 L),Vi j,VAt w (VEp 32 8 (Vv 3 (cv L j).1 (cv L j).2)),Vv 3 ((cv L j).1) ((cv L j).2),Vi (hasI P (cv L j)),Vb false] [] [(9,VAt w (VSv 3 P)),(10,VAt w (VEp 49 16 (Vp 3 co si tx ty))),(14,VAt w (VSv 3 MP)),(15,VAt w (VSv 3 L)),(16,Vi j),(111,Vb true),(128,Vb false)] st10 ⟨ks,(by refine kr fun _ ac Y h D=>?_;obtain⟨v0,x0,X0⟩:=h.ot 10;exact load_EpC (w:=w) (k:=16) (A:=Vp 3 co si tx ty) (Stab_Vp _ _ _ _ _) rfl x0 X0 h.k.below Tryz.underlying49 rfl size_Place),ks,ks,(kr2 116 117 fun _ _ _ _ _ x0 X0 _ x1 X1=>index_SvA (a:=(cv L j)) rfl x0 X0 x1 X1 hgj),(kr1 118 fun _ _ _ h _ x0 X0=>load_EpC (w:=w) (k:=8) (A:=Vv 3 (cv L j).1 (cv L j).2) (Stab_Vv _ _ _) rfl x0 X0 h.k.below Tryz.underlying32 rfl size_Vec),(kd2 fun _ _ _ _ _ X0 _ X1=>cPut X0 X1),(kd2 fun _ _ _ h _ X0 _ X1=>hMh (cv L j) ▸ cHas (N:=8*3+3) (p:=putP co si tx ty (cv L j)) X1 (VSv_le (VSv_later X0 h.k.below) (by omega))),ks,ks,ks,(kr2 123 124 fun _ _ _ _ _ x0 X0 _ x1 X1=>index_SvA (a:=(cv L j)) rfl x0 X0 x1 X1 hgj),(kr1 125 fun _ _ _ h _ x0 X0=>load_EpC (w:=w) (k:=8) (A:=Vv 3 (cv L j).1 (cv L j).2) (Stab_Vv _ _ _) rfl x0 X0 h.k.below Tryz.underlying32 rfl size_Vec),(kd2 fun _ _ _ h _ X0 _ X1=>cHas (p:=cv L j) X1 (VSv_later X0 h.k.below)),(kr2 121 127 fun _ _ _ _ _ x0 X0 _ x1 X1=>⟨_,run_neqi rfl (x0.trans X0) (x1.trans X1),congrArg Value.bool (bne_self_eq_false _)⟩),trivial⟩ ?_;intro a11 w11 st11;refine Wn ?_
   refine cF st11 ?_;refine Wn ?_
   refine rH [(49,16,0)] [Vi j,Vi ((j+1:Nat):Int),Vi ((j+1:Nat):Int)] [] [(9,VAt w (VSv 3 P)),(10,VAt w (VEp 49 16 (Vp 3 co si tx ty))),(14,VAt w (VSv 3 MP)),(15,VAt w (VSv 3 L)),(111,Vb true),(128,Vb false),(16,Vi ((j+1:Nat):Int))] st11 ⟨?s0,(kr1 112 fun _ _ _ _ v0 x0 X0=>⟨_,run_addi rfl (x0.trans (show v0= .int .i64 j from X0)) rfl wO,congrArg (Value.int .i64) (by omega)⟩),ks,trivial⟩ ?_
   case s0=>
    refine k_run0 SbB.out (by kernel_rfl) fun listed ac Y h D hnl=>⟨trivial,?_⟩
    obtain⟨v0,x0,X0⟩:=h.out0 hnl (16,Vi j) (.tail _ (.tail _ (.tail _ (.tail _ (.head _))))) 2 (by kernel_rfl) (.inr (by kernel_rfl));exact⟨_,run_move rfl,by rw [x0];exact X0⟩
   intro a12 w12 st12;replace st12:St w.heap.size w 139 [] [(9,VAt w (VSv 3 P)),(10,VAt w (VEp 49 16 (Vp 3 co si tx ty))),(14,VAt w (VSv 3 MP)),(15,VAt w (VSv 3 L)),(111,Vb true),(128,Vb false),(16,Vi ((j+1:Nat):Int))] a12 w12:=st12;exact⟨m1 - 1,by omega,j+1,by omega,st12.cut⟩
  ·
   refine Wn ?_
   refine rH [(49,16,0)] [Vi j,VAt w (VSv 3 L),Vi (L.length:Int),Vb false] [] [(9,VAt w (VSv 3 P)),(10,VAt w (VEp 49 16 (Vp 3 co si tx ty))),(14,VAt w (VSv 3 MP)),(15,VAt w (VSv 3 L)),(16,Vi j),(111,Vb false)] st9 ⟨ks,ks,(kr1 109 fun _ _ _ _ _ x0 X0=>len_SvA rfl rfl x0 X0),(kr2 108 110 fun _ _ _ _ _ x0 X0 _ x1 X1=>⟨_,run_lssi rfl (x0.trans X0) (x1.trans X1),congrArg Value.bool (dF (by omega))⟩),trivial⟩ fun a10 w10 st10=>Wn ?_
   refine cF st10 ?_;refine Wn ?_
   refine rH [] [Vp 3 co si tx ty,Vp (8*3+30) co (-(si)) ((co)*((tx)*Rat.divInt (-1) 1)+ - -(si)*((ty)*Rat.divInt (-1) 1)) (-(si)*((tx)*Rat.divInt (-1) 1)+(co)*((ty)*Rat.divInt (-1) 1)),VAt w (VSv 3 MP),VSv 435 P,VSv 435 P] [] [(9,VAt w (VSv 3 P)),(10,VAt w (VEp 49 16 (Vp 3 co si tx ty))),(14,VAt w (VSv 3 MP)),(15,VAt w (VSv 3 L)),(16,Vi j),(111,Vb false),(17,VSv 435 P)] st10 ⟨(by refine kr fun _ ac Y h D=>?_;obtain⟨v0,x0,X0⟩:=h.ot 10;exact load_EpC (w:=w) (k:=16) (A:=Vp 3 co si tx ty) (Stab_Vp _ _ _ _ _) rfl x0 X0 h.k.below Tryz.underlying49 rfl size_Place),(kd1 fun _ _ _ _ _ X0=>cInverse X0),ks,(kd2 fun _ _ _ h _ X0 _ X1=>hMb ▸ cMove (N:=8*3+30) X0 (VSv_le (VSv_later X1 h.k.below) (by omega))),ks,trivial⟩ ?_;intro a11 w11 st11;refine Wn ?_
   refine rH [] [VSv 435 P,VAt w (VSv 3 P),Vb true,Vb true,Vb true,Vb true,Vb true] [] [(9,VAt w (VSv 3 P)),(10,VAt w (VEp 49 16 (Vp 3 co si tx ty))),(14,VAt w (VSv 3 MP)),(15,VAt w (VSv 3 L)),(16,Vi j),(111,Vb false),(8,Vb true)] st11 ⟨ks,ks,(kd2 fun _ _ _ h _ X0 _ X1=>sameLT (N:=435) (vs:=P) X0 (VSv_le (VSv_later X1 h.k.below) (by omega)) (by omega) (by omega)),ks,(by refine kc fun _ ac Y h D=>?_;exact⟨#[],by simp [],cL6Lives⟩),ks,ks,trivial⟩ ?_;intro a12 w12 st12;refine Wn ?_
   obtain⟨vr,r1,r4⟩:=st12.slot (8,Vb true) (.tail _ (.tail _ (.tail _ (.tail _ (.tail _ (.tail _ (.head _)))))));exact wp_ret (bodyPost_ret (results_tmp rfl _ _ _) st12.defers ⟨_,congrArg Ending.returned (show _=vr from r1),r4,below_tr hbO st12.k.below⟩)
theorem wf_i64' {n:Int}(h:(Lit.int .i64 n).wf=true): -9223372036854775808<=n/\n<=9223372036854775807:=by
 simp [Lit.wf,IntKind.min,IntKind.max,IntKind.signed,IntKind.bits] at h;omega
theorem add_plain' (b o i:Nat):(⟨b,o,none⟩:Addr).add i=⟨b,o+i,none⟩:=by unfold Addr.add;split<;>simp_all
theorem addr_plain' {w:World}{x:Addr}{u:Value}(h:w.cell? (x.add 0)=some u):x=⟨x.block,x.off,none⟩:=by
 have h0:x.add 0=x:=by simp [Addr.add]
 rw [h0] at h;cases x with
 |mk b o s=>
  cases s with
  |none=>rfl
  |some s=>
   unfold World.cell? at h;split at h
   ·simp at h
   ·cases h
theorem row_Rdi {w:World}{a:Option Addr}{len cap:Nat}{zs:List Int}
 (h:(a=none/\len=0/\cap=0/\zs= [])∨∃x,a=some x/\len<=cap/\cap<=maxLen/\zs.length=cap/\(∀i,i<zs.length->w.cell? (x.add i)=some (.int .i64 (zs.getD i 0)))/\∀n∈zs,(Lit.int .i64 n).wf=true):
 ∃l:List Int,Rdi w a l/\i64s l/\len=l.length/\len<=cap/\cap<=9223372036854775807:=by
 rcases h with⟨rfl,rfl,rfl,rfl⟩|⟨x,rfl,hl,hm,hz,hc,hw⟩
 ·exact⟨[],.inl rfl,fun i hi=>by simp at hi,rfl,Nat.le_refl _,by omega⟩
 ·refine⟨zs.take len,?_,?_,by simp;omega,hl,by unfold maxLen at hm;omega⟩
  ·rcases Nat.eq_zero_or_pos len with h0|h0
   ·subst h0;exact .inl (by simp)
   ·have hx:=addr_plain' (hc 0 (by omega));refine .inr ⟨x.block,x.off,by rw [<-hx],fun i hi=>?_⟩;have hi':i<len:=by simp at hi;omega
    have hi2:i<zs.length:=by omega
    have hadd:x.add i=⟨x.block,x.off+i,none⟩:=(congrArg (fun y:Addr=>y.add i) hx).trans (add_plain' _ _ _);rw [<-hadd,hc i hi2];simp [iat,List.getD_eq_getElem?_getD,hi']
  ·intro i hi;have hi':i<len:=by simp at hi;omega
   have hi2:i<zs.length:=by omega
   have hb:=wf_i64' (hw (zs[i]) (List.getElem_mem hi2));have e:iat (zs.take len) i=zs[i]:=by simp [iat,List.getD_eq_getElem?_getD,hi',hi2]
   rw [e];omega
end Go.Proofs.YteacdbgalloaiaaGreat
