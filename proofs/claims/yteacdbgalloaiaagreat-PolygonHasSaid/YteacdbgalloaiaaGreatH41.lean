/- Contracts of the packages integer, rat, plane, polygon and their references. -/
import Derived.Test.YteacdbgalloaiaaGreatH40
set_option linter.unusedVariables false
set_option maxRecDepth 100000
set_option maxHeartbeats 6400000
namespace Go.Proofs.YteacdbgalloaiaaGreat
open Go Go.RowKit
theorem pt0 (a b:P2):ptS a b 0=a:=by unfold ptS;exact Prod.ext (by show a.1+0*_=a.1;grind) (by show a.2+0*_=a.2;grind)
theorem pt1 (a b:P2):ptS a b 1=b:=by unfold ptS;exact Prod.ext (by show a.1+1*(b.1 - a.1)=b.1;grind) (by show a.2+1*(b.2 - a.2)=b.2;grind)
theorem on_line {a b c:P2}(hab:a≠b)(h:sdD a b c=0):∃g:Rat,c=ptS a b g:=by
 unfold sdD at h;by_cases h1:b.1 - a.1=0
 ·have h2:b.2 - a.2≠0:=fun h2=>hab (Prod.ext (by grind) (by grind))
  have e:=div_mul' (x:=c.2 - a.2) h2
  have e2:c.1 - a.1=0:=by
   have:(b.2 - a.2)*(c.1 - a.1)=0:=by rw [h1] at h;grind
   exact(Rat.mul_eq_zero.1 this).resolve_left h2
  exact⟨(c.2 - a.2) / (b.2 - a.2),by unfold ptS;exact Prod.ext (by show c.1=a.1+_*(b.1 - a.1);rw [h1];grind) (by show c.2=a.2+_;rw [e];grind)⟩
 ·have e:=div_mul' (x:=c.1 - a.1) h1;refine⟨(c.1 - a.1) / (b.1 - a.1),?_⟩;unfold ptS;refine Prod.ext (by show c.1=a.1+_;rw [e];grind) ?_;show c.2=a.2+_*(b.2 - a.2);generalize(c.1 - a.1) / (b.1 - a.1)=g at e ⊢
  have:(b.1 - a.1)*(c.2 - a.2 - g*(b.2 - a.2))=0:=by
   rw [<-e] at h
   grind
  have:=(Rat.mul_eq_zero.1 this).resolve_left h1
  grind
theorem line_case (a b:P2)(g k:Rat):common a b (ptS a b g) (ptS a b k)∨(g<0/\k<0)∨(1<g/\1<k):=by
 by_cases h1:0<=g/\g<=1
 ·exact .inl ⟨g,0,h1.1,h1.2,by decide,by decide,(pt0 _ _).symm⟩
 by_cases h2:0<=k/\k<=1
 ·exact .inl ⟨k,1,h2.1,h2.2,by decide,by decide,(pt1 _ _).symm⟩
 by_cases h3:g<0/\k<0
 ·exact .inr (.inl h3)
 by_cases h4:1<g/\1<k
 ·exact .inr (.inr h4)
 left
 have hne:g - k≠0:=by
  intro e;have e2:g=k:=by grind
  subst e2
  grind
 have ht:=div_mul' (x:=g) hne;obtain⟨t,et⟩:∃t,g / (g - k)=t:=⟨_,rfl⟩;rw [et] at ht;have rt:=frac_range ht hne (by grind) h3;refine⟨0,t,by decide,by decide,rt.1,rt.2,?_⟩;rw [pt0];unfold ptS;exact Prod.ext (by show a.1=a.1+g*(b.1 - a.1)+t*(a.1+k*(b.1 - a.1) - (a.1+g*(b.1 - a.1)));grind) (by show a.2=a.2+g*(b.2 - a.2)+t*(a.2+k*(b.2 - a.2) - (a.2+g*(b.2 - a.2)));grind)
theorem sq_pos {a b:P2}(hab:a≠b):0<dtP (sbP b a) b - dtP (sbP b a) a:=by
 have e:dtP (sbP b a) b - dtP (sbP b a) a=(b.1 - a.1)*(b.1 - a.1)+(b.2 - a.2)*(b.2 - a.2):=by unfold dtP sbP;grind
 rw [e]
 have sq:∀x:Rat,0<=x*x/\(x≠0->0<x*x):=fun x=>by
  have h0:0<=x*x:=by
   rcases Rat.le_total (a:=0) (b:=x)with h|h
   ·exact Rat.mul_nonneg h h
   ·have:=Rat.mul_nonneg (show 0<= -x by grind) (show 0<= -x by grind)
    grind
  exact⟨h0,fun hx=>Rat.lt_of_le_of_ne h0 fun e=>(Rat.mul_eq_zero.1 e.symm).elim hx hx⟩
 have s1:=sq (b.1 - a.1);have s2:=sq (b.2 - a.2);by_cases h1:b.1 - a.1=0
 ·have h2:b.2 - a.2≠0:=fun h2=>hab (Prod.ext (by grind) (by grind))
  have:=s2.2 h2
  grind
 ·have:=s1.2 h1
  grind
theorem line_sep {a b:P2}(hab:a≠b){g k:Rat}(h:(g<0/\k<0)∨(1<g/\1<k)):btwB (sbP b a) a b (ptS a b g) (ptS a b k)=true:=by
 rw [btwB_iff,dt_pt,dt_pt];have hL:=sq_pos hab;generalize hA:dtP (sbP b a) a=A at*
 generalize hB:dtP (sbP b a) b=B at*
 rcases h with⟨h1,h2⟩|⟨h1,h2⟩
 ·have m1:=Rat.mul_pos (show 0< -g by grind) hL;have m2:=Rat.mul_pos (show 0< -k by grind) hL;right;refine⟨?_,?_,?_,?_⟩<;>grind
 ·have m1:=Rat.mul_pos (show 0<g - 1 by grind) hL;have m2:=Rat.mul_pos (show 0<k - 1 by grind) hL;left;refine⟨?_,?_,?_,?_⟩<;>grind
theorem lex_pt {a b:P2}{x y:Rat}(h:lexlt a b)(hxy:x<y):lexlt (ptS a b x) (ptS a b y):=by
 unfold ptS lexlt at*
 rcases h with h|⟨h,h'⟩
 ·have:=Rat.mul_pos (show 0<y - x by grind) (show 0<b.1 - a.1 by grind);exact .inl (by show a.1+x*(b.1 - a.1)<a.1+y*(b.1 - a.1);grind)
 ·have:=Rat.mul_pos (show 0<y - x by grind) (show 0<b.2 - a.2 by grind);exact .inr ⟨by show a.1+x*(b.1 - a.1)=a.1+y*(b.1 - a.1);rw [h];grind,by show a.2+x*(b.2 - a.2)<a.2+y*(b.2 - a.2);grind⟩
theorem lex_pt' {a b:P2}{x y:Rat}(h:lexlt b a)(hxy:x<y):lexlt (ptS a b y) (ptS a b x):=by
 unfold ptS lexlt at*
 rcases h with h|⟨h,h'⟩
 ·have:=Rat.mul_pos (show 0<y - x by grind) (show 0<a.1 - b.1 by grind);exact .inl (by show a.1+y*(b.1 - a.1)<a.1+x*(b.1 - a.1);grind)
 ·have:=Rat.mul_pos (show 0<y - x by grind) (show 0<a.2 - b.2 by grind);exact .inr ⟨by show a.1+y*(b.1 - a.1)=a.1+x*(b.1 - a.1);rw [h];grind,by show a.2+y*(b.2 - a.2)<a.2+x*(b.2 - a.2);grind⟩
theorem line_ovl {a b:P2}(hab:a≠b){g k:Rat}(h:(g<0/\k<0)∨(1<g/\1<k)):ovl a b (ptS a b g) (ptS a b k)=false:=by
 rw [<-Bool.not_eq_true,ovl_iff]
 rintro⟨n1,n2⟩
 have q0:=pt0 a b;have q1:=pt1 a b;have up:lexlt a b->∀x y:Rat,x<y->lexlt (ptS a b x) (ptS a b y):=fun l x y=>lex_pt l
 have dn:lexlt b a->∀x y:Rat,x<y->lexlt (ptS a b y) (ptS a b x):=fun l x y=>lex_pt' l
 rcases lex_tri a b with l|l|l
 ·rcases h with⟨h1,h2⟩|⟨h1,h2⟩
  ·have w1:=up l g 0 h1;have w2:=up l g 1 (by grind);have w3:=up l k 0 h2;have w4:=up l k 1 (by grind);rw [q0] at w1 w3;rw [q1] at w2 w4;exact n1 ⟨w1,w2,w3,w4⟩
  ·have w1:=up l 0 g (by grind);have w2:=up l 0 k (by grind);have w3:=up l 1 g h1;have w4:=up l 1 k h2;rw [q0] at w1 w2;rw [q1] at w3 w4;exact n2 ⟨w1,w2,w3,w4⟩
 ·exact hab l
 ·rcases h with⟨h1,h2⟩|⟨h1,h2⟩
  ·have w1:=dn l g 0 h1;have w2:=dn l k 0 h2;have w3:=dn l g 1 (by grind);have w4:=dn l k 1 (by grind);rw [q0] at w1 w2;rw [q1] at w3 w4;exact n2 ⟨w1,w2,w3,w4⟩
  ·have w1:=dn l 0 g (by grind);have w2:=dn l 1 g h1;have w3:=dn l 0 k (by grind);have w4:=dn l 1 k h2;rw [q0] at w1 w3;rw [q1] at w2 w4;exact n1 ⟨w1,w2,w3,w4⟩
theorem btw_symm {n a b c d:P2}(h:btwB n a b c d=true):btwB n c d a b=true:=by
 rw [btwB_iff] at*
 rcases h with⟨h1,h2,h3,h4⟩|⟨h1,h2,h3,h4⟩
 ·exact .inr ⟨h1,h3,h2,h4⟩
 ·exact .inl ⟨h1,h3,h2,h4⟩
theorem ovl_symm (a b c d:P2):ovl a b c d=ovl c d a b:=by unfold ovl;rw [Bool.and_comm]
theorem meetsR_false {a b c d n:P2}{i:Nat}(hi:i<5)(hn:(dirs a b c d).getD i (0,0)=n)(h:btwB n a b c d=true):meetsR a b c d=false:=dF fun k=>by
 have:=k i (List.mem_range.2 hi);rw [hn,h] at this;cases this
theorem both {a b c d:P2}(h1:prt a b c d=true)(h2:prt c d a b=true):common a b c d∨(ovl a b c d=false/\meetsR a b c d=false):=by
 by_cases hK:sdD a b c - sdD a b d=0
 ·have p1:=prt_true.1 h1;have p2:=prt_true.1 h2;by_cases hab:a=b
  ·by_cases hcd:c=d
   ·subst hab hcd;by_cases hac:a=c
    ·subst hac;exact .inl ⟨0,0,by decide,by decide,by decide,by decide,rfl⟩
    ·refine .inr ⟨?_,meetsR_false (n:=sbP c a) (i:=4) (by decide) rfl ?_⟩
     ·rw [<-Bool.not_eq_true,ovl_iff]
      rintro⟨n1,n2⟩
      rcases lex_tri a c with l|l|l
      ·exact n2 ⟨l,l,l,l⟩
      ·exact hac l
      ·exact n1 ⟨l,l,l,l⟩
     ·have:=sq_pos hac;rw [btwB_iff];left;refine⟨?_,?_,?_,?_⟩<;>grind
   ·subst hab;have e0:sdD c d a=0:=by grind
    obtain⟨g,hg⟩:=on_line hcd e0;rcases line_case c d g g with h|h
    ·left;rw [<-hg] at h;exact common_symm h
    ·right;have s1:=line_ovl hcd h;have s2:=line_sep hcd h;rw [<-hg] at s1 s2;exact⟨by rw [ovl_symm];exact s1,meetsR_false (i:=3) (by decide) rfl (btw_symm s2)⟩
  ·have e1:sdD a b c=0:=by grind
   have e2:sdD a b d=0:=by grind
   obtain⟨g,rfl⟩:=on_line hab e1;obtain⟨k,rfl⟩:=on_line hab e2;rcases line_case a b g k with h|h
   ·exact .inl h
   ·exact .inr ⟨line_ovl hab h,meetsR_false (i:=2) (by decide) rfl (line_sep hab h)⟩
 ·exact .inl (cross_common h1 h2 hK)
theorem meetEq:MeetEq:=fun a b c d=>by
 unfold mts;by_cases h1:prt a b c d=true
 ·by_cases h2:prt c d a b=true
  ·rw [h1,h2];rcases both h1 h2 with h|⟨h3,h4⟩
   ·rw [common_meetsR h,common_ovl h];rfl
   ·rw [h3,h4];rfl
  ·rw [Bool.not_eq_true] at h2;rw [h1,h2,meetsR_false (i:=1) (by decide) rfl (btw_symm (prt_sep h2))];simp
 ·rw [Bool.not_eq_true] at h1;rw [h1,meetsR_false (i:=0) (by decide) rfl (prt_sep h1)];simp
theorem sumT_front (f:Nat->Rat):∀n,sumT f (n+1)=f 0+sumT (fun k=>f (k+1)) n
 |0=>by
  rw [sumT_succ];show(0:Rat)+f 0=f 0+0
  grind
 |n+1=>by
  rw [sumT_succ,sumT_front f n,sumT_succ]
  grind
theorem ctr_form (vs:List P2):ctr vs=(sumT (Fk (fun p q=>(p.1+q.1)*crs p q) vs) vs.length*(Rat.divInt 1 3 / sumT (Fk crs vs) vs.length),sumT (Fk (fun p q=>(p.2+q.2)*crs p q) vs) vs.length*(Rat.divInt 1 3 / sumT (Fk crs vs) vs.length)):=rfl
def sgb (b:Bool):Int:=if b=true then -1 else 1
def pzT (f:Nat->Bool):Nat->Int
 |0=>1
 |n+1=>pzT f n*sgb (f n)
theorem sgb_sq (b:Bool):sgb b*sgb b=1:=by cases b<;>rfl
theorem pzT_front (f:Nat->Bool):∀n,pzT f (n+1)=sgb (f 0)*pzT (fun k=>f (k+1)) n
 |0=>by show 1*sgb (f 0)=sgb (f 0)*1;omega
 |n+1=>by
  show pzT f (n+1)*sgb (f (n+1))=sgb (f 0)*(pzT (fun k=>f (k+1)) n*sgb (f (n+1)));rw [pzT_front f n,Int.mul_assoc]
theorem whr_pz (vs:List P2)(p:P2):∀n,whr vs p (List.range n)= -pzT (fun k=>rgt (cv vs k) (cv vs (k+1)) p) n
 |0=>rfl
 |n+1=>by
  rw [List.range_succ,whr_snoc,whr_pz vs p n];show _= -(pzT (fun k=>rgt (cv vs k) (cv vs (k+1)) p) n*sgb (rgt (cv vs n) (cv vs (n+1)) p));unfold sgb;split<;>omega
theorem cq_le {a b:Rat}:cmpQ a b<=0↔a<=b:=by
 rcases (show cmpQ a b= -1∨cmpQ a b=0∨cmpQ a b=1 from cmpI_abs _ _)with h|h|h
 ·exact⟨fun _=>Rat.le_of_lt (cmpQ_lt.1 h),fun _=>by omega⟩
 ·exact⟨fun _=>by rw [cmpQ_eq.1 h];exact Rat.le_refl,fun _=>by omega⟩
 ·exact⟨fun _=>by omega,fun q=>absurd (cmpQ_gt.1 h) (Rat.not_lt.2 q)⟩
theorem bd_mul {a c B C:Int}(h1: -B<=a)(h2:a<=B)(h3: -C<=c)(h4:c<=C): -(B*C)<=a*c/\a*c<=B*C:=by
 have p1:=Int.mul_nonneg (show 0<=B - a by omega) (show 0<=C+c by omega);have p2:=Int.mul_nonneg (show 0<=B+a by omega) (show 0<=C - c by omega);have p3:=Int.mul_nonneg (show 0<=B - a by omega) (show 0<=C - c by omega);have p4:=Int.mul_nonneg (show 0<=B+a by omega) (show 0<=C+c by omega);constructor<;>grind
theorem Qd_mul {K L B C:Int}{x y:Rat}(h:Qd K B x)(k:Qd L C y):Qd (K*L) (B*C) (x*y):=by
 obtain⟨a,h1,h2,h3⟩:=h;obtain⟨c,k1,k2,k3⟩:=k;have:=bd_mul h2 h3 k2 k3;refine⟨a*c,?_,this.1,this.2⟩;rw [Rat.intCast_mul,Rat.intCast_mul,<-h1,<-k1]
 grind
theorem Qd_neg {K B:Int}{x:Rat}(h:Qd K B x):Qd K B (-x):=by
 obtain⟨a,h1,h2,h3⟩:=h;refine⟨-a,?_,by omega,by omega⟩;rw [Rat.intCast_neg,<-h1]
 grind
theorem Qd_sum {K B:Int}{f:Nat->Rat}(h:∀k,Qd K B (f k)):∀n:Nat,Qd K (n*B) (sumT f n)
 |0=>⟨0,by show(0:Rat)*_=_;rw [Rat.zero_mul];rfl,by omega,by omega⟩
 |n+1=>by
  rw [sumT_succ];have:=Qd_add (Qd_sum h n) (h n);have e:((n+1:Nat):Int)*B=n*B+B:=by rw [Int.natCast_add,Int.add_mul];omega
  rw [e];exact this
theorem crs_Q {p q:P2}(h:Q2 2 32 p)(k:Q2 2 32 q):Qd 4 2048 (crs p q):=Qd_add (Qd_mul h.1 k.2) (Qd_mul (Qd_neg h.2) k.1)
theorem quo_Q {s t:Int}{S T:Rat}(hs:S*8=s)(ht:T*4=t)(hb: -100000000<=s/\s<=100000000)(h0:t≠0):Qd (6*(t.natAbs:Int)) 100000000 (S*(Rat.divInt 1 3 / T)):=by
 have hT:T≠0:=by
  intro e;rw [e,Rat.zero_mul] at ht;exact h0 (Rat.intCast_inj.1 (ht.symm.trans Rat.intCast_zero.symm))
 have e1:Rat.divInt 1 3 / T*T=1 / 3:=by rw [third_one];exact Rat.div_mul_cancel hT
 have e2:S*(Rat.divInt 1 3 / T)*((6*t:Int):Rat)=(s:Rat):=by
  rw [Rat.intCast_mul,<-ht,<-hs];have:((6:Int):Rat)=6:=rfl
  grind
 rcases Int.lt_or_lt_of_ne h0 with h|h
 ·refine⟨-s,?_,by omega,by omega⟩;rw [show 6*(t.natAbs:Int)= -(6*t) by omega,Rat.intCast_neg,Rat.intCast_neg,<-e2]
  grind
 ·refine⟨s,?_,by omega,by omega⟩;rw [show 6*(t.natAbs:Int)=6*t by omega];exact e2
theorem ctr_Q {vs:List P2}(h:∀p∈vs,Q2 2 32 p)(h0:0<vs.length)(h12:vs.length<=12):∃K:Int,0<K/\K<=100000000/\Q2 K 100000000 (ctr vs):=by
 rw [ctr_form];have hc:∀k,Qd 4 2048 (Fk crs vs k):=fun k=>crs_Q (cv_Q h h0 k) (cv_Q h h0 (k+1))
 have h1:∀k,Qd 8 131072 (Fk (fun p q=>(p.1+q.1)*crs p q) vs k):=fun k=>Qd_mul (Qd_add (cv_Q h h0 k).1 (cv_Q h h0 (k+1)).1) (hc k)
 have h2:∀k,Qd 8 131072 (Fk (fun p q=>(p.2+q.2)*crs p q) vs k):=fun k=>Qd_mul (Qd_add (cv_Q h h0 k).2 (cv_Q h h0 (k+1)).2) (hc k)
 obtain⟨t,ht,ht1,ht2⟩:=Qd_sum hc vs.length;obtain⟨a,ha,ha1,ha2⟩:=Qd_sum h1 vs.length;obtain⟨b,hb,hb1,hb2⟩:=Qd_sum h2 vs.length;generalize sumT (Fk crs vs) vs.length=T at*
 generalize sumT (Fk (fun p q=>(p.1+q.1)*crs p q) vs) vs.length=X at*
 generalize sumT (Fk (fun p q=>(p.2+q.2)*crs p q) vs) vs.length=Y at*
 by_cases hz:t=0
 ·have e:T=0:=by
   have h4:((4:Int):Rat)=4:=rfl;have h5:((t:Int):Rat)=0:=by rw [hz];rfl
   rw [h4,h5] at ht
   grind
  have e2:∀z:Rat,z*(Rat.divInt 1 3 / T)=0:=fun z=>by rw [e,Rat.div_def,Rat.inv_zero,Rat.mul_zero,Rat.mul_zero]
  have q:Qd 1 100000000 0:=⟨0,by rw [Rat.zero_mul];rfl,by omega,by omega⟩;refine⟨1,by omega,by omega,?_,?_⟩
  ·show Qd _ _ (X*_);rw [e2];exact q
  ·show Qd _ _ (Y*_);rw [e2];exact q
 ·exact⟨6*(t.natAbs:Int),by omega,by omega,quo_Q ha ht ⟨by omega,by omega⟩ hz,quo_Q hb ht ⟨by omega,by omega⟩ hz⟩
end Go.Proofs.YteacdbgalloaiaaGreat
