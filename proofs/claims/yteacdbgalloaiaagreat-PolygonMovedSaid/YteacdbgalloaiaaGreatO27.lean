/- Contracts of the packages integer, rat, plane, polygon and their references. -/
import Derived.Test.YteacdbgalloaiaaGreatO26
import Derived.Test.YteacdbgalloaiaaGreatO25
import Derived.Test.YteacdbgalloaiaaGreatO21
import Derived.Test.YteacdbgalloaiaaGreatO19
set_option linter.unusedVariables false
set_option maxRecDepth 100000
set_option maxHeartbeats 6400000
namespace Go.Proofs.YteacdbgalloaiaaGreat
open Go Go.RowKit
theorem pt0 (a b:P2):ptS a b 0=a:=by unfold ptS;exact Prod.ext (by show a.1+0*_=a.1;grind) (by show a.2+0*_=a.2;grind)
theorem pt1 (a b:P2):ptS a b 1=b:=by unfold ptS;exact Prod.ext (by show a.1+1*(b.1 - a.1)=b.1;grind) (by show a.2+1*(b.2 - a.2)=b.2;grind)
theorem on_line {a b c:P2}(hab:a≠b)(h:sdD a b c=0):∃g:Rat,c=ptS a b g:=by
 unfold sdD at h;by_cases h1:b.1 - a.1=0
 ·have h2:b.2 - a.2≠0:=fun h2=>hab (Prod.ext (by grind) (by grind))
  have e:=div_mul' (x:=c.2 - a.2) h2
  have e2:c.1 - a.1=0:=by
   have:(b.2 - a.2)*(c.1 - a.1)=0:=by rw [h1] at h;grind
   exact(Rat.mul_eq_zero.1 this).resolve_left h2
  exact⟨(c.2 - a.2) / (b.2 - a.2),by unfold ptS;exact Prod.ext (by show c.1=a.1+_*(b.1 - a.1);rw [h1];grind) (by show c.2=a.2+_;rw [e];grind)⟩
 ·have e:=div_mul' (x:=c.1 - a.1) h1;refine⟨(c.1 - a.1) / (b.1 - a.1),?_⟩;unfold ptS;refine Prod.ext (by show c.1=a.1+_;rw [e];grind) ?_;show c.2=a.2+_*(b.2 - a.2);generalize(c.1 - a.1) / (b.1 - a.1)=g at e ⊢
  have:(b.1 - a.1)*(c.2 - a.2 - g*(b.2 - a.2))=0:=by
   rw [<-e] at h
   grind
  have:=(Rat.mul_eq_zero.1 this).resolve_left h1
  grind
theorem line_case (a b:P2)(g k:Rat):common a b (ptS a b g) (ptS a b k)∨(g<0/\k<0)∨(1<g/\1<k):=by
 by_cases h1:0<=g/\g<=1
 ·exact .inl ⟨g,0,h1.1,h1.2,by decide,by decide,(pt0 _ _).symm⟩
 by_cases h2:0<=k/\k<=1
 ·exact .inl ⟨k,1,h2.1,h2.2,by decide,by decide,(pt1 _ _).symm⟩
 by_cases h3:g<0/\k<0
 ·exact .inr (.inl h3)
 by_cases h4:1<g/\1<k
 ·exact .inr (.inr h4)
 left
 have hne:g - k≠0:=by
  intro e;have e2:g=k:=by grind
  subst e2
  grind
 have ht:=div_mul' (x:=g) hne;obtain⟨t,et⟩:∃t,g / (g - k)=t:=⟨_,rfl⟩;rw [et] at ht;have rt:=frac_range ht hne (by grind) h3;refine⟨0,t,by decide,by decide,rt.1,rt.2,?_⟩;rw [pt0];unfold ptS;exact Prod.ext (by show a.1=a.1+g*(b.1 - a.1)+t*(a.1+k*(b.1 - a.1) - (a.1+g*(b.1 - a.1)));grind) (by show a.2=a.2+g*(b.2 - a.2)+t*(a.2+k*(b.2 - a.2) - (a.2+g*(b.2 - a.2)));grind)
theorem sq_pos {a b:P2}(hab:a≠b):0<dtP (sbP b a) b - dtP (sbP b a) a:=by
 have e:dtP (sbP b a) b - dtP (sbP b a) a=(b.1 - a.1)*(b.1 - a.1)+(b.2 - a.2)*(b.2 - a.2):=by unfold dtP sbP;grind
 rw [e]
 have sq:∀x:Rat,0<=x*x/\(x≠0->0<x*x):=fun x=>by
  have h0:0<=x*x:=by
   rcases Rat.le_total (a:=0) (b:=x)with h|h
   ·exact Rat.mul_nonneg h h
   ·have:=Rat.mul_nonneg (show 0<= -x by grind) (show 0<= -x by grind)
    grind
  exact⟨h0,fun hx=>Rat.lt_of_le_of_ne h0 fun e=>(Rat.mul_eq_zero.1 e.symm).elim hx hx⟩
 have s1:=sq (b.1 - a.1);have s2:=sq (b.2 - a.2);by_cases h1:b.1 - a.1=0
 ·have h2:b.2 - a.2≠0:=fun h2=>hab (Prod.ext (by grind) (by grind))
  have:=s2.2 h2
  grind
 ·have:=s1.2 h1
  grind
theorem line_sep {a b:P2}(hab:a≠b){g k:Rat}(h:(g<0/\k<0)∨(1<g/\1<k)):btwB (sbP b a) a b (ptS a b g) (ptS a b k)=true:=by
 rw [btwB_iff,dt_pt,dt_pt];have hL:=sq_pos hab;generalize hA:dtP (sbP b a) a=A at*
 generalize hB:dtP (sbP b a) b=B at*
 rcases h with⟨h1,h2⟩|⟨h1,h2⟩
 ·have m1:=Rat.mul_pos (show 0< -g by grind) hL;have m2:=Rat.mul_pos (show 0< -k by grind) hL;right;refine⟨?_,?_,?_,?_⟩<;>grind
 ·have m1:=Rat.mul_pos (show 0<g - 1 by grind) hL;have m2:=Rat.mul_pos (show 0<k - 1 by grind) hL;left;refine⟨?_,?_,?_,?_⟩<;>grind
theorem lex_pt {a b:P2}{x y:Rat}(h:lexlt a b)(hxy:x<y):lexlt (ptS a b x) (ptS a b y):=by
 unfold ptS lexlt at*
 rcases h with h|⟨h,h'⟩
 ·have:=Rat.mul_pos (show 0<y - x by grind) (show 0<b.1 - a.1 by grind);exact .inl (by show a.1+x*(b.1 - a.1)<a.1+y*(b.1 - a.1);grind)
 ·have:=Rat.mul_pos (show 0<y - x by grind) (show 0<b.2 - a.2 by grind);exact .inr ⟨by show a.1+x*(b.1 - a.1)=a.1+y*(b.1 - a.1);rw [h];grind,by show a.2+x*(b.2 - a.2)<a.2+y*(b.2 - a.2);grind⟩
theorem lex_pt' {a b:P2}{x y:Rat}(h:lexlt b a)(hxy:x<y):lexlt (ptS a b y) (ptS a b x):=by
 unfold ptS lexlt at*
 rcases h with h|⟨h,h'⟩
 ·have:=Rat.mul_pos (show 0<y - x by grind) (show 0<a.1 - b.1 by grind);exact .inl (by show a.1+y*(b.1 - a.1)<a.1+x*(b.1 - a.1);grind)
 ·have:=Rat.mul_pos (show 0<y - x by grind) (show 0<a.2 - b.2 by grind);exact .inr ⟨by show a.1+y*(b.1 - a.1)=a.1+x*(b.1 - a.1);rw [h];grind,by show a.2+y*(b.2 - a.2)<a.2+x*(b.2 - a.2);grind⟩
theorem line_ovl {a b:P2}(hab:a≠b){g k:Rat}(h:(g<0/\k<0)∨(1<g/\1<k)):ovl a b (ptS a b g) (ptS a b k)=false:=by
 rw [<-Bool.not_eq_true,ovl_iff]
 rintro⟨n1,n2⟩
 have q0:=pt0 a b;have q1:=pt1 a b;have up:lexlt a b->∀x y:Rat,x<y->lexlt (ptS a b x) (ptS a b y):=fun l x y=>lex_pt l
 have dn:lexlt b a->∀x y:Rat,x<y->lexlt (ptS a b y) (ptS a b x):=fun l x y=>lex_pt' l
 rcases lex_tri a b with l|l|l
 ·rcases h with⟨h1,h2⟩|⟨h1,h2⟩
  ·have w1:=up l g 0 h1;have w2:=up l g 1 (by grind);have w3:=up l k 0 h2;have w4:=up l k 1 (by grind);rw [q0] at w1 w3;rw [q1] at w2 w4;exact n1 ⟨w1,w2,w3,w4⟩
  ·have w1:=up l 0 g (by grind);have w2:=up l 0 k (by grind);have w3:=up l 1 g h1;have w4:=up l 1 k h2;rw [q0] at w1 w2;rw [q1] at w3 w4;exact n2 ⟨w1,w2,w3,w4⟩
 ·exact hab l
 ·rcases h with⟨h1,h2⟩|⟨h1,h2⟩
  ·have w1:=dn l g 0 h1;have w2:=dn l k 0 h2;have w3:=dn l g 1 (by grind);have w4:=dn l k 1 (by grind);rw [q0] at w1 w2;rw [q1] at w3 w4;exact n2 ⟨w1,w2,w3,w4⟩
  ·have w1:=dn l 0 g (by grind);have w2:=dn l 1 g h1;have w3:=dn l 0 k (by grind);have w4:=dn l 1 k h2;rw [q0] at w1 w3;rw [q1] at w2 w4;exact n1 ⟨w1,w2,w3,w4⟩
theorem btw_symm {n a b c d:P2}(h:btwB n a b c d=true):btwB n c d a b=true:=by
 rw [btwB_iff] at*
 rcases h with⟨h1,h2,h3,h4⟩|⟨h1,h2,h3,h4⟩
 ·exact .inr ⟨h1,h3,h2,h4⟩
 ·exact .inl ⟨h1,h3,h2,h4⟩
theorem ovl_symm (a b c d:P2):ovl a b c d=ovl c d a b:=by unfold ovl;rw [Bool.and_comm]
theorem meetsR_false {a b c d n:P2}{i:Nat}(hi:i<5)(hn:(dirs a b c d).getD i (0,0)=n)(h:btwB n a b c d=true):meetsR a b c d=false:=dF fun k=>by
 have:=k i (List.mem_range.2 hi);rw [hn,h] at this;cases this
theorem both {a b c d:P2}(h1:prt a b c d=true)(h2:prt c d a b=true):common a b c d∨(ovl a b c d=false/\meetsR a b c d=false):=by
 by_cases hK:sdD a b c - sdD a b d=0
 ·have p1:=prt_true.1 h1;have p2:=prt_true.1 h2;by_cases hab:a=b
  ·by_cases hcd:c=d
   ·subst hab hcd;by_cases hac:a=c
    ·subst hac;exact .inl ⟨0,0,by decide,by decide,by decide,by decide,rfl⟩
    ·refine .inr ⟨?_,meetsR_false (n:=sbP c a) (i:=4) (by decide) rfl ?_⟩
     ·rw [<-Bool.not_eq_true,ovl_iff]
      rintro⟨n1,n2⟩
      rcases lex_tri a c with l|l|l
      ·exact n2 ⟨l,l,l,l⟩
      ·exact hac l
      ·exact n1 ⟨l,l,l,l⟩
     ·have:=sq_pos hac;rw [btwB_iff];left;refine⟨?_,?_,?_,?_⟩<;>grind
   ·subst hab;have e0:sdD c d a=0:=by grind
    obtain⟨g,hg⟩:=on_line hcd e0;rcases line_case c d g g with h|h
    ·left;rw [<-hg] at h;exact common_symm h
    ·right;have s1:=line_ovl hcd h;have s2:=line_sep hcd h;rw [<-hg] at s1 s2;exact⟨by rw [ovl_symm];exact s1,meetsR_false (i:=3) (by decide) rfl (btw_symm s2)⟩
  ·have e1:sdD a b c=0:=by grind
   have e2:sdD a b d=0:=by grind
   obtain⟨g,rfl⟩:=on_line hab e1;obtain⟨k,rfl⟩:=on_line hab e2;rcases line_case a b g k with h|h
   ·exact .inl h
   ·exact .inr ⟨line_ovl hab h,meetsR_false (i:=2) (by decide) rfl (line_sep hab h)⟩
 ·exact .inl (cross_common h1 h2 hK)
theorem meetEq:MeetEq:=fun a b c d=>by
 unfold mts;by_cases h1:prt a b c d=true
 ·by_cases h2:prt c d a b=true
  ·rw [h1,h2];rcases both h1 h2 with h|⟨h3,h4⟩
   ·rw [common_meetsR h,common_ovl h];rfl
   ·rw [h3,h4];rfl
  ·rw [Bool.not_eq_true] at h2;rw [h1,h2,meetsR_false (i:=1) (by decide) rfl (btw_symm (prt_sep h2))];simp
 ·rw [Bool.not_eq_true] at h1;rw [h1,meetsR_false (i:=0) (by decide) rfl (prt_sep h1)];simp
theorem validR_valid (vs:List P2):validR vs=validP vs:=validR_eq meetEq vs
theorem cv_mod (vs:List P2)(k:Nat):cv vs (k % vs.length)=cv vs k:=by
 unfold cv;rw [Nat.mod_mod]
theorem sumT_front (f:Nat->Rat):∀n,sumT f (n+1)=f 0+sumT (fun k=>f (k+1)) n
 |0=>by
  rw [sumT_succ];show(0:Rat)+f 0=f 0+0
  grind
 |n+1=>by
  rw [sumT_succ,sumT_front f n,sumT_succ]
  grind
theorem ctr_form (vs:List P2):ctr vs=(sumT (Fk (fun p q=>(p.1+q.1)*crs p q) vs) vs.length*(Rat.divInt 1 3 / sumT (Fk crs vs) vs.length),sumT (Fk (fun p q=>(p.2+q.2)*crs p q) vs) vs.length*(Rat.divInt 1 3 / sumT (Fk crs vs) vs.length)):=rfl
def sgb (b:Bool):Int:=if b=true then -1 else 1
def pzT (f:Nat->Bool):Nat->Int
 |0=>1
 |n+1=>pzT f n*sgb (f n)
theorem sgb_sq (b:Bool):sgb b*sgb b=1:=by cases b<;>rfl
theorem pzT_front (f:Nat->Bool):∀n,pzT f (n+1)=sgb (f 0)*pzT (fun k=>f (k+1)) n
 |0=>by show 1*sgb (f 0)=sgb (f 0)*1;omega
 |n+1=>by
  show pzT f (n+1)*sgb (f (n+1))=sgb (f 0)*(pzT (fun k=>f (k+1)) n*sgb (f (n+1)));rw [pzT_front f n,Int.mul_assoc]
theorem whr_pz (vs:List P2)(p:P2):∀n,whr vs p (List.range n)= -pzT (fun k=>rgt (cv vs k) (cv vs (k+1)) p) n
 |0=>rfl
 |n+1=>by
  rw [List.range_succ,whr_snoc,whr_pz vs p n];show _= -(pzT (fun k=>rgt (cv vs k) (cv vs (k+1)) p) n*sgb (rgt (cv vs n) (cv vs (n+1)) p));unfold sgb;split<;>omega
theorem bd_mul {a c B C:Int}(h1: -B<=a)(h2:a<=B)(h3: -C<=c)(h4:c<=C): -(B*C)<=a*c/\a*c<=B*C:=by
 have p1:=Int.mul_nonneg (show 0<=B - a by omega) (show 0<=C+c by omega);have p2:=Int.mul_nonneg (show 0<=B+a by omega) (show 0<=C - c by omega);have p3:=Int.mul_nonneg (show 0<=B - a by omega) (show 0<=C - c by omega);have p4:=Int.mul_nonneg (show 0<=B+a by omega) (show 0<=C+c by omega);constructor<;>grind
theorem Qd_mul {K L B C:Int}{x y:Rat}(h:Qd K B x)(k:Qd L C y):Qd (K*L) (B*C) (x*y):=by
 obtain⟨a,h1,h2,h3⟩:=h;obtain⟨c,k1,k2,k3⟩:=k;have:=bd_mul h2 h3 k2 k3;refine⟨a*c,?_,this.1,this.2⟩;rw [Rat.intCast_mul,Rat.intCast_mul,<-h1,<-k1]
 grind
theorem Qd_neg {K B:Int}{x:Rat}(h:Qd K B x):Qd K B (-x):=by
 obtain⟨a,h1,h2,h3⟩:=h;refine⟨-a,?_,by omega,by omega⟩;rw [Rat.intCast_neg,<-h1]
 grind
theorem Qd_sum {K B:Int}{f:Nat->Rat}(h:∀k,Qd K B (f k)):∀n:Nat,Qd K (n*B) (sumT f n)
 |0=>⟨0,by show(0:Rat)*_=_;rw [Rat.zero_mul];rfl,by omega,by omega⟩
 |n+1=>by
  rw [sumT_succ];have:=Qd_add (Qd_sum h n) (h n);have e:((n+1:Nat):Int)*B=n*B+B:=by rw [Int.natCast_add,Int.add_mul];omega
  rw [e];exact this
theorem crs_Q {p q:P2}(h:Q2 2 32 p)(k:Q2 2 32 q):Qd 4 2048 (crs p q):=Qd_add (Qd_mul h.1 k.2) (Qd_mul (Qd_neg h.2) k.1)
theorem quo_Q {s t:Int}{S T:Rat}(hs:S*8=s)(ht:T*4=t)(hb: -100000000<=s/\s<=100000000)(h0:t≠0):Qd (6*(t.natAbs:Int)) 100000000 (S*(Rat.divInt 1 3 / T)):=by
 have hT:T≠0:=by
  intro e;rw [e,Rat.zero_mul] at ht;exact h0 (Rat.intCast_inj.1 (ht.symm.trans Rat.intCast_zero.symm))
 have e1:Rat.divInt 1 3 / T*T=1 / 3:=by rw [third_one];exact Rat.div_mul_cancel hT
 have e2:S*(Rat.divInt 1 3 / T)*((6*t:Int):Rat)=(s:Rat):=by
  rw [Rat.intCast_mul,<-ht,<-hs];have:((6:Int):Rat)=6:=rfl
  grind
 rcases Int.lt_or_lt_of_ne h0 with h|h
 ·refine⟨-s,?_,by omega,by omega⟩;rw [show 6*(t.natAbs:Int)= -(6*t) by omega,Rat.intCast_neg,Rat.intCast_neg,<-e2]
  grind
 ·refine⟨s,?_,by omega,by omega⟩;rw [show 6*(t.natAbs:Int)=6*t by omega];exact e2
theorem ctr_Q {vs:List P2}(h:∀p∈vs,Q2 2 32 p)(h0:0<vs.length)(h12:vs.length<=12):∃K:Int,0<K/\K<=100000000/\Q2 K 100000000 (ctr vs):=by
 rw [ctr_form];have hc:∀k,Qd 4 2048 (Fk crs vs k):=fun k=>crs_Q (cv_Q h h0 k) (cv_Q h h0 (k+1))
 have h1:∀k,Qd 8 131072 (Fk (fun p q=>(p.1+q.1)*crs p q) vs k):=fun k=>Qd_mul (Qd_add (cv_Q h h0 k).1 (cv_Q h h0 (k+1)).1) (hc k)
 have h2:∀k,Qd 8 131072 (Fk (fun p q=>(p.2+q.2)*crs p q) vs k):=fun k=>Qd_mul (Qd_add (cv_Q h h0 k).2 (cv_Q h h0 (k+1)).2) (hc k)
 obtain⟨t,ht,ht1,ht2⟩:=Qd_sum hc vs.length;obtain⟨a,ha,ha1,ha2⟩:=Qd_sum h1 vs.length;obtain⟨b,hb,hb1,hb2⟩:=Qd_sum h2 vs.length;generalize sumT (Fk crs vs) vs.length=T at*
 generalize sumT (Fk (fun p q=>(p.1+q.1)*crs p q) vs) vs.length=X at*
 generalize sumT (Fk (fun p q=>(p.2+q.2)*crs p q) vs) vs.length=Y at*
 by_cases hz:t=0
 ·have e:T=0:=by
   have h4:((4:Int):Rat)=4:=rfl;have h5:((t:Int):Rat)=0:=by rw [hz];rfl
   rw [h4,h5] at ht
   grind
  have e2:∀z:Rat,z*(Rat.divInt 1 3 / T)=0:=fun z=>by rw [e,Rat.div_def,Rat.inv_zero,Rat.mul_zero,Rat.mul_zero]
  have q:Qd 1 100000000 0:=⟨0,by rw [Rat.zero_mul];rfl,by omega,by omega⟩;refine⟨1,by omega,by omega,?_,?_⟩
  ·show Qd _ _ (X*_);rw [e2];exact q
  ·show Qd _ _ (Y*_);rw [e2];exact q
 ·exact⟨6*(t.natAbs:Int),by omega,by omega,quo_Q ha ht ⟨by omega,by omega⟩ hz,quo_Q hb ht ⟨by omega,by omega⟩ hz⟩
def sp5 (m:List Int)(P:List P2)(i:Nat):List P2:=[cv P i,mid2 (cv P i) (cv P (i+1)),mid2 (mid2 (cv P i) (cv P (i+1))) (spt m 0),((spt m 3).1,(cv P i).2),((cv P i).1,(spt m 3).2)]
def spL (m:List Int)(P:List P2):Nat->List P2
 |0=>[spt m 0,spt m 3,ctr P]
 |j+1=>spL m P j++sp5 m P j
theorem spL_len (m:List Int)(P:List P2):∀j,(spL m P j).length=3+5*j
 |0=>rfl
 |j+1=>by unfold spL;rw [List.length_append,spL_len m P j];show 3+5*j+5=_;omega
theorem spL_0 (m:List Int)(P:List P2):∀j,(spL m P j)[0]? =some (spt m 0)
 |0=>rfl
 |j+1=>by unfold spL;rw [List.getElem?_append_left (by rw [spL_len];omega)];exact spL_0 m P j
theorem spL_1 (m:List Int)(P:List P2):∀j,(spL m P j)[1]? =some (spt m 3)
 |0=>rfl
 |j+1=>by unfold spL;rw [List.getElem?_append_left (by rw [spL_len];omega)];exact spL_1 m P j
theorem spt_Q (m:List Int)(ix:Int):Q2 2 32 (spt m ix):=by
 have key:∀i:Int,Qd 2 32 (Rat.divInt (atv m i (16*spq m ix+1) - 8*spq m ix) (spq m ix)):=fun i=>by
  have hq:=spq_or m ix;have h1:=atv_lo m i (16*spq m ix+1) (by omega);have h2:=atv_hi m i (16*spq m ix+1) (by omega);rcases hq with h|h
  ·rw [h] at h1 h2 ⊢;exact Qd_int 2 (by omega) (by omega)
  ·rw [h] at h1 h2 ⊢;refine⟨atv m i (16*2+1) - 8*2,?_,by omega,by omega⟩;rw [Rat.divInt_eq_div]
   grind
 exact⟨key _,key _⟩
theorem cv_Q2 {K B:Int}{P:List P2}(h:∀p∈P,Q2 K B p){k:Nat}(h0:0<P.length):Q2 K B (cv P k):=by
 have:=cv_get (vs:=P) k h0;exact h _ (List.mem_of_getElem? this)
theorem Vv_three {N:Nat}{K B:Int}{p:P2}{v:Value}{w:World}(h:Vv N p.1 p.2 v w)(hq:Q2 K B p)(hK:0<K)(hK2:K<=100000000)(hB:B<=100000000):Vv 3 p.1 p.2 v w:=Vv_le (Vv_one h hq hK hK2 hB) (by omega)
theorem cMidQ {w:World}{K B:Int}{a b:P2}{v0 v1:Value}(h0:Vv 3 a.1 a.2 v0 w)(h1:Vv 3 b.1 b.2 v1 w)(ha:Q2 K B a)(hb:Q2 K B b)(hK:0<K:=by omega)(hK2:K<=1000:=by omega)(hB:B<=1000:=by omega):Calls Tryz.prog 30 #[v0,v1] w (RV (Vv 3 (mid2 a b).1 (mid2 a b).2) w):=
 (cR6Middle h0 h1).mono fun _ _ h=>h.le fun v w h=>Vv_three (p:=mid2 a b) h (Q2_mid ha hb) (by omega) (by omega) (by omega)
theorem cCtrQ {w:World}{P:List P2}{v0:Value}(h0:VSv 3 P v0 w)(hPQ:∀p∈P,Q2 2 32 p)(h3:0<P.length:=by omega)(h12:P.length<=12:=by omega):Calls Tryz.prog 42 #[v0] w (RV (Vv 3 (ctr P).1 (ctr P).2) w):=
 (gCtrR h0).mono fun _ _ h=>h.le fun v w h=>by
  obtain⟨K,k1,k2,k3⟩:=ctr_Q hPQ h3 h12;exact Vv_three (p:=ctr P) h k3 k1 k2 (by omega)
theorem Q2_up {K B:Int}{p:P2}(h:Q2 K B p):Q2 (2*K) (2*B) p:=Q2_twice h
section
variable {n0 n1 N:Nat}{w0 w1 w:World}{L:List Bd}{SL SL':List (Nat×VP)}{a:Act}
theorem St.off (h:St n1 w1 N L SL a w)(hb:Below n0 w0 w1)(hn:n0<=n1)(hs:∀p∈SL',∃v,a.tmps[p.1]? =some v/\p.2 v w):St n0 w0 N [] SL' a w:=
 ⟨⟨hb.trans (h.k.below.mono hn),fun b hb=>absurd hb (by simp),fun b hb=>absurd hb (by simp),fun b hb=>absurd hb (by simp)⟩,Nat.le_trans hn h.n,h.size,h.defers,hs⟩
end
def VBk (g:Nat)(A:VP):VP:=fun _ w=>∃cs,w.heap[g]? =some (.cells cs 32 (0,0))/\cs.size=8/\A (.agg cs) w
theorem Stab_VBk {g:Nat}{A:VP}(hA:Stab [] A):Stab [] (VBk g A):=fun _ _ _ ⟨cs,e1,e2,e3⟩ hr=>⟨cs,(hr.row g cs _ e1 (.inl (by simp))).trans e1,e2,hA _ _ _ e3 hr⟩
section
variable {ρ:Operand->Value}{o:Oper}{W:World}{x y:Operand}{va vb:Value}{g c N k:Nat}{us:List P2}{a:P2}{u:Value}
theorem load_Bk {A:VP}(ho:o.op= .load 32 x)(hx:ρ x=va)(h1:VEq (.pointer (some ⟨g,0,none⟩)) va W)(h:VBk g A u W):∃v,(execOp ρ o).run Tryz.prog W= .ok (.value v) W/\A v W:=by
 obtain rfl:va=_:=h1;obtain⟨cs,q1,q2,q3⟩:=h;refine⟨_,?_,q3⟩;have e:cs.extract 0 (0+8)=cs:=by rw [Nat.zero_add,<-q2,Array.extract_size]
 unfold execOp;simp only [ho,hx,Instr.loadAt,Instr.sureAddr,Sem.run_bind,Sem.run_pure,Result.andThen_ok,run_loadVar_part W g 0 8 32 32 cs (0,0) _ q1 (by omega) Tryz.underlying32 rfl size_Vec,e]
theorem field_Eq0 {off:Nat}(ho:o.op= .fieldAddr 32 x 0)(hx:ρ x=va)(h:VEq (.pointer (some ⟨g,off,none⟩)) va W):∃v,(execOp ρ o).run Tryz.prog W= .ok (.value v) W/\VEq (.pointer (some ⟨g,off,none⟩)) v W:=by
 obtain rfl:va=_:=h;refine⟨_,?_,rfl⟩;unfold execOp;simp only [ho,hx,Sem.run_bind,field_Vec0,Sem.run_pure,Result.andThen_ok];rfl
theorem field_Eq1 {off:Nat}(ho:o.op= .fieldAddr 32 x 1)(hx:ρ x=va)(h:VEq (.pointer (some ⟨g,off,none⟩)) va W):∃v,(execOp ρ o).run Tryz.prog W= .ok (.value v) W/\VEq (.pointer (some ⟨g,off+4,none⟩)) v W:=by
 obtain rfl:va=_:=h;refine⟨_,?_,rfl⟩;unfold execOp;simp only [ho,hx,Sem.run_bind,field_Vec1,Sem.run_pure,Result.andThen_ok]
theorem ldq_step (f:Nat){q:Rat}(hf:f=0/\q=a.1∨f=4/\q=a.2)(ho:o.op= .load 30 x)(hx:ρ x=va)(h1:VEq (.pointer (some ⟨g,8*k+f,none⟩)) va W)(hR:VRg 32 8 (EV N) none g c us u W)(hk:us[k]? =some a):∃v,(execOp ρ o).run Tryz.prog W= .ok (.value v) W/\Vq N q v W:=by
 obtain rfl:va=_:=h1
 have hkl:k<us.length:=by
  rcases Nat.lt_or_ge k us.length with h'|h'
  ·exact h'
  ·rw [List.getElem?_eq_none h'] at hk;cases hk
 obtain⟨hu,hc,hl,-,cs,q1,q2,q3,_,q4,q5⟩:=VRg_row (by intro e;rw [e] at hkl;simp at hkl) hR;cases q4;have q6:=q5 k a hk
 have hr:∀f',f'+4<=8->(cs.extract (8*k) (8*k+8)).extract f' (f'+4)=cs.extract (8*k+f') (8*k+f'+4):=fun f' h=>by
  rw [Array.extract_extract,show min (8*k+(f'+4)) (8*k+8)=8*k+f'+4 by omega]
 refine⟨.agg (cs.extract (8*k+f) (8*k+f+4)),?_,?_⟩
 ·unfold execOp;simp only [ho,hx,Instr.loadAt,Instr.sureAddr,Sem.run_bind,Sem.run_pure,Result.andThen_ok,run_loadVar_part W g (8*k+f) 4 32 30 cs (0,0) _ q1 (by rcases hf with h|h<;>omega) Tryz.underlying30 rfl size_Rat]
 ·rcases hf with⟨rfl,rfl⟩|⟨rfl,rfl⟩
  ·have:=VP2_fst (show VP2 4 4 (Vq N a.1) (Vq N a.2) _ W from q6);rw [show(4:Nat)=0+4 from rfl,hr 0 (by omega)] at this;exact this
  ·have:=VP2_snd (show VP2 4 4 (Vq N a.1) (Vq N a.2) _ W from q6);rw [show cs.extract (8*k+4) (8*k+4+4)=_ from(hr 4 (by omega)).symm];exact this
end
section
variable {md:Region.Mode}{ops:Array Oper}{Q:Exit->Act->World->Prop}{a0:Act}{Vl:List VP}{n0:Nat}{w0:World}{SL:List (Nat×VP)}{es:List En}{T:TypeId}
def waitsF (md:Region.Mode)(ops:Array Oper)(k:Nat):Nat->Oper->Bool
 |0,_=>false
 |n+1,p=>p.after.any fun a=>Region.binds md a && (a.on==k||match ops[a.on]? with|some r=>waitsF md ops k n r|none=>false)
theorem waitsF_not {listed:Array Bool}{a:Act}{w:World}{k:Nat}(hk:KI md ops a0 (GV Vl) n0 w0 [] SL listed a w):∀(n:Nat) {e:Nat} {p:Oper},ops[e]? =some p->waitsF md ops k n p=true->listed.getD e false=true->listed.getD k false=true
 |0,_,_,_,h,_=>by cases h
 |n+1,e,p,ho,hw,he=>by
  unfold waitsF at hw;simp only [Array.any_eq_true'] at hw;obtain⟨a',ha,hb⟩:=hw;rw [Bool.and_eq_true,Bool.or_eq_true] at hb;have h5:=hk.closed e p ho he a' ha hb.1;rcases hb.2 with hb|hb
  ·rw [beq_iff_eq] at hb;rw [<-hb];exact h5
  ·cases hr:ops[a'.on]? with
   |none=>rw [hr] at hb;cases hb
   |some r=>
    rw [hr] at hb;exact waitsF_not hk n hr hb h5
def liveF (md:Region.Mode)(ops:Array Oper)(i:Nat)(o:Oper)(e:En):Bool:=(match e.i with|some i'=>o.after.any (fun a=>a.on==i' && Region.binds md a)|none=>true) && (match e.j with|some j=>j==i||(match ops[j]? with|some p=>waitsF md ops i 7 p|none=>false)|none=>true)
theorem XE.getF {listed:Array Bool}{a:Act}{w:World}{i:Nat}{o:Oper}{e:En}(hx:XE es listed a w)(hk:KI md ops a0 (GV Vl) n0 w0 [] SL listed a w)(D:∀e∈o.after,Region.binds md e=true->listed.getD e.on false=true)(hnl:listed.getD i false=false)(he:e∈es)(hl:liveF md ops i o e=true):∃v,a.tmps[e.t]? =some v/\a.eval (.tmp e.t)=v/\e.P v w:=by
 unfold liveF at hl;rw [Bool.and_eq_true] at hl
 obtain⟨v,q1,q2⟩:=hx e he (fun i' hi=>by
  rw [hi] at hl
  exact listed_dep D _ hl.1) fun j hj=>by
  rw [hj] at hl;simp only [Bool.or_eq_true,beq_iff_eq] at hl;rcases hl.2 with q|q
  ·rw [q];exact hnl
  ·cases ho:ops[j]? with
   |none=>rw [ho] at q;cases q
   |some p=>
    rw [ho] at q;cases hh:listed.getD j false with
    |false=>rfl
    |true=>
     have:=waitsF_not hk 7 ho q hh;rw [hnl] at this;cases this
 exact⟨v,q1,by simp [Act.eval,Array.getD_eq_getD_getElem?,q1],q2⟩
theorem kx_ldF {i:Nat}{o:Oper}{X:VP}(hx:∃e∈es,e.P=X/\liveF md ops i o e=true)(H:∀(listed:Array Bool) a w u,KI md ops a0 (GV Vl) n0 w0 [] SL listed a w->(∀e∈o.after,Region.binds md e=true->listed.getD e.on false=true)->X u w->∃v,(execOp a.eval o).run Tryz.prog w= .ok (.value v) w/\GV Vl i v w)(hP:∀e∈es,Stab [] e.P)(hi:es.all (fun e=>e.i !=some i && o.dst !=some e.t)=true)(hg:GOk md ops Vl o):KStepX Tryz.prog md ops Q a0 (GV Vl) n0 w0 SL T es i o:=by
 intro listed a w h hxe D hin hil hnl K hK;rw [if_pos (wanted_of (hg.get h D))];obtain⟨e,he,rfl,e4⟩:=hx;obtain⟨u,-,q1,q2⟩:=hxe.getF h D hnl he e4;obtain⟨v,r1,r2⟩:=H listed a w u h D q2;unfold Oper.wp;rw [r1];exact hK v w (h.k.nil (Below.refl _ _)) (.of (RI.refl w)) (hxe.keep (RI.refl w) hP hi hil) r2
theorem kx_mvV {i s:Nat}{o:Oper}{X:VP}(ho:o.op= .move (.tmp s))(hx:∃e∈es,e.t=s/\e.P=X/\liveF md ops i o e=true)(H:∀v w,X v w->GV Vl i v w)(hP:∀e∈es,Stab [] e.P)(hi:es.all (fun e=>e.i !=some i && o.dst !=some e.t)=true)(hg:GOk md ops Vl o):KStepX Tryz.prog md ops Q a0 (GV Vl) n0 w0 SL T es i o:=by
 intro listed a w h hxe D hin hil hnl K hK;rw [if_pos (wanted_of (hg.get h D))];obtain⟨e,he,rfl,rfl,e4⟩:=hx;obtain⟨v,q0,q1,q2⟩:=hxe.getF h D hnl he e4;unfold Oper.wp;rw [run_move ho,q1];exact hK v w (h.k.nil (Below.refl _ _)) (.of (RI.refl w)) (hxe.keep (RI.refl w) hP hi hil) (H _ _ q2)
theorem kx_mvE {i s:Nat}{o:Oper}{X Y:VP}(ho:o.op= .move (.tmp s))(hx:∃e∈es,e.t=s/\e.P=X/\liveF md ops i o e=true)(H:∀v w,X v w->Y v w)(hn:∀e∈es,e.i=some i->e.P=Y/\o.dst=some e.t)(hd2:es.all (fun e=>e.i==some i||o.dst !=some e.t)=true)(hV:GV Vl i=VT)(hg:GOk md ops Vl o):KStepX Tryz.prog md ops Q a0 (GV Vl) n0 w0 SL T es i o:=by
 intro listed a w h hxe D hin hil hnl K hK;rw [if_pos (wanted_of (hg.get h D))];obtain⟨e,he,rfl,rfl,e4⟩:=hx;obtain⟨v,q0,q1,q2⟩:=hxe.getF h D hnl he e4;unfold Oper.wp;rw [run_move ho,q1];refine hK v w (h.k.nil (Below.refl _ _)) (.of (RI.refl w)) ?_ (by rw [hV];trivial);intro e' he' h1 h2;rw [List.all_eq_true] at hd2;by_cases hi:e'.i=some i
 ·exact⟨v,put_new h hin (hn e' he' hi).2,by rw [(hn e' he' hi).1];exact H _ _ q2⟩
 ·have q:=hd2 e' he';simp only [Bool.or_eq_true,beq_iff_eq,bne_iff_ne,ne_eq,hi,false_or] at q
  obtain⟨u,p1,p2⟩:=hxe e' he' (fun i' hi'=>by
   have:=h1 i' hi';rw [getD_set _ _ _ hil,if_neg (fun e2=>hi (by rw [hi',e2]))] at this
   exact this) fun j hj=>by
   have:=h2 j hj;rw [getD_set _ _ _ hil] at this;split at this
   ·cases this
   ·exact this
  exact⟨u,by rw [put_get_ne q];exact p1,p2⟩
theorem kx_asgD {i s:Nat}{o:Oper}{X:VP}(ho:o.op= .assign (.tmp s))(hx:∃e∈es,e.t=s/\e.P=X/\liveF md ops i o e=true)(hn:∀e∈es,e.i=some i->e.P=X/\o.dst=some e.t)(hde:es.all (deadE md ops i o)=true)(hV:GV Vl i=VT)(hg:GOk md ops Vl o):KStepX Tryz.prog md ops Q a0 (GV Vl) n0 w0 SL T es i o:=by
 intro listed a w h hxe D hin hil hnl K hK;rw [if_pos (wanted_of (hg.get h D))];obtain⟨e,he,rfl,rfl,e4⟩:=hx;obtain⟨v,q0,q1,q2⟩:=hxe.getF h D hnl he e4;unfold Oper.wp;rw [run_assign ho,q1];exact hK v w (h.k.nil (Below.refl _ _)) (.of (RI.refl w)) (XE.step h D hil hnl hde fun e' he' hi=>⟨v,put_new h hin (hn e' he' hi).2,by rw [(hn e' he' hi).1];exact q2⟩) (by rw [hV];trivial)
end
theorem bslice_X3 {ρ:Operand->Value}{o:Oper}{W:World}{M lo:Nat}{x0 x1 x2:Operand}{v0 v1 v2:Value}{d0 d1 d2:P2}(ho:o.op= .buildSlice 23 3 #[(0,x0),(1,x1),(2,x2)])(e0:ρ x0=v0)(e1:ρ x1=v1)(e2:ρ x2=v2)(h0:Vv M d0.1 d0.2 v0 W)(h1:Vv M d1.1 d1.2 v1 W)(h2:Vv M d2.1 d2.2 v2 W)(hlo:lo<=W.heap.size):
 ∃v w',(execOp ρ o).run Tryz.prog W= .ok (.value v) w'/\Below W.heap.size W w'/\VRx 32 8 (EV M) lo [d0,d1,d2] v w':=by
 obtain⟨c0,rfl,s0,m0,-⟩:=AggV_Vv _ _ _ _ _ h0;obtain⟨c1,rfl,s1,m1,-⟩:=AggV_Vv _ _ _ _ _ h1;obtain⟨c2,rfl,s2,m2,-⟩:=AggV_Vv _ _ _ _ _ h2;obtain⟨p0_0,p0_1,p0_2,p0_3,p0_4,p0_5,p0_6,p0_7,rfl⟩:=arr8 s0;obtain⟨p1_0,p1_1,p1_2,p1_3,p1_4,p1_5,p1_6,p1_7,rfl⟩:=arr8 s1;obtain⟨p2_0,p2_1,p2_2,p2_3,p2_4,p2_5,p2_6,p2_7,rfl⟩:=arr8 s2;have hb:=below_new W (.cells #[p0_0,p0_1,p0_2,p0_3,p0_4,p0_5,p0_6,p0_7,p1_0,p1_1,p1_2,p1_3,p1_4,p1_5,p1_6,p1_7,p2_0,p2_1,p2_2,p2_3,p2_4,p2_5,p2_6,p2_7] 32)
 have hel:VEl 8 (EV M) [d0,d1,d2] (.agg #[p0_0,p0_1,p0_2,p0_3,p0_4,p0_5,p0_6,p0_7,p1_0,p1_1,p1_2,p1_3,p1_4,p1_5,p1_6,p1_7,p2_0,p2_1,p2_2,p2_3,p2_4,p2_5,p2_6,p2_7]) (W.alloc (.cells #[p0_0,p0_1,p0_2,p0_3,p0_4,p0_5,p0_6,p0_7,p1_0,p1_1,p1_2,p1_3,p1_4,p1_5,p1_6,p1_7,p2_0,p2_1,p2_2,p2_3,p2_4,p2_5,p2_6,p2_7] 32)):=⟨_,rfl,fun i z hz=>by
  match i,hz with
  |0,hz=>cases hz;exact Stab_Vv (BT:=[]) _ _ _ _ _ _ h0 (RI.of_below hb)
  |1,hz=>cases hz;exact Stab_Vv (BT:=[]) _ _ _ _ _ _ h1 (RI.of_below hb)
  |2,hz=>cases hz;exact Stab_Vv (BT:=[]) _ _ _ _ _ _ h2 (RI.of_below hb)
  |i+3,hz=>simp at hz⟩
 refine⟨.slice (some ⟨W.heap.size,0,none⟩) 3 3,_,?_,hb,W.heap.size,3,hlo,by omega,Nat.le_refl _,by omega,.inr ⟨by omega,rfl,_,heap_alloc_new _ _,rfl,(VEl_flat (by decide) hel rfl).1,hel⟩⟩;clear h0 h1 h2 hb hel hlo m0 m1 m2;obtain⟨dd,op,ty,ps,af,gd⟩:=o;subst ho
 go_simp
theorem bslice_O5 {ρ:Operand->Value}{o:Oper}{W:World}{M lo:Nat}{x0 x1 x2 x3 x4:Operand}{v0 v1 v2 v3 v4:Value}{d0 d1 d2 d3 d4:P2}(ho:o.op= .buildSlice 23 5 #[(0,x0),(1,x1),(2,x2),(3,x3),(4,x4)])(e0:ρ x0=v0)(e1:ρ x1=v1)(e2:ρ x2=v2)(e3:ρ x3=v3)(e4:ρ x4=v4)(h0:Vv M d0.1 d0.2 v0 W)(h1:Vv M d1.1 d1.2 v1 W)(h2:Vv M d2.1 d2.2 v2 W)(h3:Vv M d3.1 d3.2 v3 W)(h4:Vv M d4.1 d4.2 v4 W)(_hlo:lo<=W.heap.size):
 ∃v w',(execOp ρ o).run Tryz.prog W= .ok (.value v) w'/\Below W.heap.size W w'/\VOs 32 8 (EV M) [d0,d1,d2,d3,d4] v w':=by
 obtain⟨c0,rfl,s0,m0,-⟩:=AggV_Vv _ _ _ _ _ h0;obtain⟨c1,rfl,s1,m1,-⟩:=AggV_Vv _ _ _ _ _ h1;obtain⟨c2,rfl,s2,m2,-⟩:=AggV_Vv _ _ _ _ _ h2;obtain⟨c3,rfl,s3,m3,-⟩:=AggV_Vv _ _ _ _ _ h3;obtain⟨c4,rfl,s4,m4,-⟩:=AggV_Vv _ _ _ _ _ h4;obtain⟨p0_0,p0_1,p0_2,p0_3,p0_4,p0_5,p0_6,p0_7,rfl⟩:=arr8 s0;obtain⟨p1_0,p1_1,p1_2,p1_3,p1_4,p1_5,p1_6,p1_7,rfl⟩:=arr8 s1;obtain⟨p2_0,p2_1,p2_2,p2_3,p2_4,p2_5,p2_6,p2_7,rfl⟩:=arr8 s2;obtain⟨p3_0,p3_1,p3_2,p3_3,p3_4,p3_5,p3_6,p3_7,rfl⟩:=arr8 s3;obtain⟨p4_0,p4_1,p4_2,p4_3,p4_4,p4_5,p4_6,p4_7,rfl⟩:=arr8 s4;have hb:=below_new W (.cells #[p0_0,p0_1,p0_2,p0_3,p0_4,p0_5,p0_6,p0_7,p1_0,p1_1,p1_2,p1_3,p1_4,p1_5,p1_6,p1_7,p2_0,p2_1,p2_2,p2_3,p2_4,p2_5,p2_6,p2_7,p3_0,p3_1,p3_2,p3_3,p3_4,p3_5,p3_6,p3_7,p4_0,p4_1,p4_2,p4_3,p4_4,p4_5,p4_6,p4_7] 32)
 have hel:VEl 8 (EV M) [d0,d1,d2,d3,d4] (.agg #[p0_0,p0_1,p0_2,p0_3,p0_4,p0_5,p0_6,p0_7,p1_0,p1_1,p1_2,p1_3,p1_4,p1_5,p1_6,p1_7,p2_0,p2_1,p2_2,p2_3,p2_4,p2_5,p2_6,p2_7,p3_0,p3_1,p3_2,p3_3,p3_4,p3_5,p3_6,p3_7,p4_0,p4_1,p4_2,p4_3,p4_4,p4_5,p4_6,p4_7]) (W.alloc (.cells #[p0_0,p0_1,p0_2,p0_3,p0_4,p0_5,p0_6,p0_7,p1_0,p1_1,p1_2,p1_3,p1_4,p1_5,p1_6,p1_7,p2_0,p2_1,p2_2,p2_3,p2_4,p2_5,p2_6,p2_7,p3_0,p3_1,p3_2,p3_3,p3_4,p3_5,p3_6,p3_7,p4_0,p4_1,p4_2,p4_3,p4_4,p4_5,p4_6,p4_7] 32)):=⟨_,rfl,fun i z hz=>by
  match i,hz with
  |0,hz=>cases hz;exact Stab_Vv (BT:=[]) _ _ _ _ _ _ h0 (RI.of_below hb)
  |1,hz=>cases hz;exact Stab_Vv (BT:=[]) _ _ _ _ _ _ h1 (RI.of_below hb)
  |2,hz=>cases hz;exact Stab_Vv (BT:=[]) _ _ _ _ _ _ h2 (RI.of_below hb)
  |3,hz=>cases hz;exact Stab_Vv (BT:=[]) _ _ _ _ _ _ h3 (RI.of_below hb)
  |4,hz=>cases hz;exact Stab_Vv (BT:=[]) _ _ _ _ _ _ h4 (RI.of_below hb)
  |i+5,hz=>simp at hz⟩
 refine⟨.slice (some ⟨W.heap.size,0,none⟩) 5 5,_,?_,hb,W.heap.size,_,rfl,heap_alloc_new _ _,rfl,hel⟩;clear h0 h1 h2 h3 h4 hb hel _hlo m0 m1 m2 m3 m4;obtain⟨dd,op,ty,ps,af,gd⟩:=o;subst ho
 go_simp
theorem cSpots {w:World}{m:List Int}{P:List P2}{v0 v1:Value}(h0:VAt w (VSv 3 P) v0 w)(h1:VI m v1 w)(hP3:3<=P.length)(hP12:P.length<=12)(hPQ:∀p∈P,Q2 2 32 p):Calls Tryz.prog 9 #[v0,v1] w (RV (VSv 3 (spL m P P.length)) w):=by
 go_enter Tryz.func9,Tryz.ntmps9
 refine Sg 63 [(0,VAt w (VSv 3 P)),(1,VI m)] (Lq.2 ⟨⟨_,rfl,h0⟩,(Lq.2 ⟨⟨_,rfl,h1⟩,L0⟩)⟩) fun a0 st0=>Wn ?_
 refine rH [(32,8,0)] [VEq (.slice none 0 0)] [] [(0,VAt w (VSv 3 P)),(1,VI m),(4,VEq (.slice none 0 0))] st0 ⟨ks,trivial⟩ fun a1 w1 st1=>Wn ?_
 refine rH [] [VI m,Vv 3 ((spt m 0).1) ((spt m 0).2),VI m,Vv 3 ((spt m 3).1) ((spt m 3).2),VAt w (VSv 3 P),Vv 3 ((ctr P).1) ((ctr P).2),VRx 32 8 (EV 3) w.heap.size ([spt m 0,spt m 3,ctr P]),VRx 32 8 (EV 3) w.heap.size ([spt m 0,spt m 3,ctr P])] [] [(0,VAt w (VSv 3 P)),(4,VEq (.slice none 0 0)),(5,VRx 32 8 (EV 3) w.heap.size ([spt m 0,spt m 3,ctr P]))] st1 ⟨ks,(by refine kc fun _ ac Y h D=>?_;obtain⟨v0,x0,X0⟩:=h.dp D 8;exact⟨#[v0,.int .i64 0],by simp [x0,eval_const],cR6Spot X0 (show Vi 0 (.int .i64 0) Y from rfl)⟩),ks,(by refine kc fun _ ac Y h D=>?_;obtain⟨v0,x0,X0⟩:=h.dp D 10;exact⟨#[v0,.int .i64 3],by simp [x0,eval_const],cR6Spot X0 (show Vi 3 (.int .i64 3) Y from rfl)⟩),ks,(kd1 fun _ _ _ h _ X0=>cCtrQ (VSv_later X0 h.k.below) hPQ (by omega) hP12),(by refine km fun _ ac Y h D=>?_;obtain⟨v0,x0,X0⟩:=h.dp D 9;obtain⟨v1,x1,X1⟩:=h.dp D 11;obtain⟨v2,x2,X2⟩:=h.dp D 13;exact bslice_X3 rfl x0 x1 x2 X0 X1 X2 h.n),ks,trivial⟩ ?_;intro a2 w2 st2;refine Wn ?_
 refine rH [] [Vi 0] [] [(0,VAt w (VSv 3 P)),(4,VEq (.slice none 0 0)),(5,VRx 32 8 (EV 3) w.heap.size ([spt m 0,spt m 3,ctr P])),(6,Vi 0)] st2 ⟨ks,trivial⟩ ?_;intro a3 w3 st3;replace st3:St w.heap.size w 63 [] [(0,VAt w (VSv 3 P)),(4,VEq (.slice none 0 0)),(5,VRx 32 8 (EV 3) w.heap.size ([spt m 0,spt m 3,ctr P])),(6,Vi 0)] a3 w3:=st3;obtain⟨g,c,hg,hc,st3⟩:=st3.nameR 5 rfl;replace st3:St w.heap.size w 63 [] [(0,VAt w (VSv 3 P)),(5,VRg 32 8 (EV 3) none g c (spL m P 0)),(6,Vi ((0:Nat):Int))] a3 w3:=st3.cut;refine Wn ?_
 refine wp_loop_ghost (fun m1 aX wX=>∃(j g c:Nat) (us:List P2),j+m1=P.length/\us=spL m P j/\w.heap.size<=g/\0<c/\St w.heap.size w 63 [] [(0,VAt w (VSv 3 P)),(5,VRg 32 8 (EV 3) none g c us),(6,Vi j)] aX wX) P.length ⟨0,g,c,_,by omega,rfl,hg,hc,st3⟩ ?_;clear st3 hg hc;clear g c;intro m1 aL wL ⟨j,g,c,us,hj,hus,hg,hc,st3⟩;have hul:us.length=3+5*j:=by rw [hus];exact spL_len m P j
 by_cases hlt:j<P.length
 ·
  refine Wn ?_
  refine rH [] [Vi j,VAt w (VSv 3 P),Vi (P.length:Int),Vb true] [] [(0,VAt w (VSv 3 P)),(5,VRg 32 8 (EV 3) none g c us),(6,Vi j),(18,Vb true)] st3 ⟨ks,ks,(kr1 16 fun _ _ _ _ _ x0 X0=>len_SvA rfl rfl x0 X0),(kr2 15 17 fun _ _ _ _ _ x0 X0 _ x1 X1=>⟨_,run_lssi rfl (x0.trans X0) (x1.trans X1),congrArg Value.bool (dT (by omega))⟩),trivial⟩ fun a4 w4 st4=>Wn ?_
  refine cT st4 ?_;replace st4:St w.heap.size w 63 [] [(0,VAt w (VSv 3 P)),(5,VRg 32 8 (EV 3) none g c us),(6,Vi j),(18,Vb true)] a4 w4:=st4;have hgj:P[j]? =some (cv P j):=cv_gets hlt;have hu0:us[0]? =some (spt m 0):=by rw [hus];exact spL_0 m P j
  have hu1:us[1]? =some (spt m 3):=by rw [hus];exact spL_1 m P j
  have qj:=cv_Q2 hPQ (k:=j) (by omega);have qn:=cv_Q2 hPQ (k:=j+1) (by omega);obtain⟨u0,p0,s0⟩:=st4.sl (0,VAt w (VSv 3 P)) (lS_mem rfl);obtain⟨u5,p5,s5⟩:=st4.sl (5,VRg 32 8 (EV 3) none g c us) (lS_mem rfl);obtain⟨u6,p6,s6⟩:=st4.sl (6,Vi j) (lS_mem rfl);obtain⟨hbN,stB⟩:=st4.base [(0,VAt w (VSv 3 P)),(5,VAt w4 (VRg 32 8 (EV 3) none g c us)),(6,Vi j)] (Lq.2 ⟨⟨_,p0,s0⟩,(Lq.2 ⟨⟨_,p5,s5⟩,(Lq.2 ⟨⟨_,p6,s6⟩,L0⟩)⟩)⟩);have hnW:=st4.n;clear st4 p0 s0 p5 s5 p6 s6;have st4:=stB;clear stB;refine Wn ?_
  refine rH [(32,8,0)] [VAt w (VSv 3 P),Vi j,VAt w (VEp 32 8 (Vv 3 (cv P j).1 (cv P j).2)),Vv 3 ((cv P j).1) ((cv P j).2),VAt w (VSv 3 P),Vi j,Vv 3 ((cv P (j+1)).1) ((cv P (j+1)).2),Vv 3 ((mid2 (cv P j) (cv P (j+1))).1) ((mid2 (cv P j) (cv P (j+1))).2),VT,VT] [⟨7,some 8,some 9,32,8,Vv 3 ((mid2 (cv P j) (cv P (j+1))).1) ((mid2 (cv P j) (cv P (j+1))).2),VT⟩] [(0,VAt w (VSv 3 P)),(5,VAt w4 (VRg 32 8 (EV 3) none g c us)),(6,Vi j)] st4 ⟨ks,ks,(kr2 21 22 fun _ _ _ _ _ x0 X0 _ x1 X1=>index_SvA (a:=(cv P j)) rfl x0 X0 x1 X1 hgj),(kr1 23 fun _ _ _ h _ x0 X0=>load_EpC (w:=w) (k:=8) (A:=Vv 3 (cv P j).1 (cv P j).2) (Stab_Vv _ _ _) rfl x0 X0 (below_tr hbN h.k.below) Tryz.underlying32 rfl size_Vec),ks,ks,(kd2 fun _ _ Y h v0 X0 v1 X1=>cR6Next (show VEq v0 v0 Y from rfl) X1 (VSv_later X0 (below_tr hbN h.k.below)) hlt),(kd2 fun _ _ _ _ _ X0 _ X1=>cMidQ X0 X1 qj qn),ks,ks,trivial⟩ ?_;intro a5 w5 st5;obtain⟨gh,e7,-,-,cs7,b1,b2,-,b4⟩:=st5.boxAt (b:=(.k 7 32 8 (Vv 3 ((mid2 (cv P j) (cv P (j+1))).1) ((mid2 (cv P j) (cv P (j+1))).2)))) (.head _) rfl rfl;obtain⟨u0,p0,s0⟩:=st5.sl (0,VAt w (VSv 3 P)) (lS_mem rfl);obtain⟨u5,p5,s5⟩:=st5.sl (5,VAt w4 (VRg 32 8 (EV 3) none g c us)) (lS_mem rfl);obtain⟨u6,p6,s6⟩:=st5.sl (6,Vi j) (lS_mem rfl);replace s5:VRg 32 8 (EV 3) none g c us u5 w5:=Stab_VRg (BT:=[]) (fun x=>Stab_Vv _ _ _) (by decide) (.inl (by simp)) _ _ _ s5 (RI.of_below st5.k.below);replace st5:St w.heap.size w 63 [] [(0,VAt w (VSv 3 P)),(6,Vi j),(7,VEq (.pointer (some ⟨gh,0,none⟩)))] a5 w5:=st5.off hbN hnW (Lq.2 ⟨⟨_,p0,s0⟩,(Lq.2 ⟨⟨_,p6,s6⟩,(Lq.2 ⟨⟨_,e7,rfl⟩,L0⟩)⟩)⟩);have hbx:VBk gh (Vv 3 (mid2 (cv P j) (cv P (j+1))).1 (mid2 (cv P j) (cv P (j+1))).2) u5 w5:=⟨cs7,b1,b2,b4⟩;clear b1 b2 b4 p0 s0 p6 s6 hnW hbN;obtain⟨hh,hhd⟩:∃hh,hh=(mid2 (cv P j) (cv P (j+1))):=⟨_,rfl⟩;rw [<-hhd] at hbx;have qh:=Q2_mid qj qn;rw [<-hhd] at qh;have hPx:∀en∈([⟨5,none,some 32,VRg 32 8 (EV 3) none g c us⟩,⟨7,none,some 32,VBk gh (Vv 3 hh.1 hh.2)⟩,⟨29,some 0,some 32,VRy 32 8 (EV 3) w.heap.size us⟩,⟨60,some 31,some 32,VOs 32 8 (EV 3) [cv P j,hh,(mid2 hh (spt m 0)),((spt m 3).1,(cv P j).2),((cv P j).1,(spt m 3).2)]⟩,⟨61,some 32,some 33,VRy 32 8 (EV 3) w.heap.size (us++ [cv P j,hh,(mid2 hh (spt m 0)),((spt m 3).1,(cv P j).2),((cv P j).1,(spt m 3).2)])⟩,⟨5,some 33,none,VRy 32 8 (EV 3) w.heap.size (us++ [cv P j,hh,(mid2 hh (spt m 0)),((spt m 3).1,(cv P j).2),((cv P j).1,(spt m 3).2)])⟩]:List En),Stab [] en.P:=(Lq.2 ⟨(Stab_VRg (fun x=>Stab_Vv _ _ _) (by decide) (.inl (by simp))),(Lq.2 ⟨(Stab_VBk (Stab_Vv _ _ _)),(Lq.2 ⟨(Stab_VRy (fun x=>Stab_Vv _ _ _) (by decide)),(Lq.2 ⟨(Stab_VOs0 (fun x=>Stab_Vv _ _ _)),(Lq.2 ⟨(Stab_VRy (fun x=>Stab_Vv _ _ _) (by decide)),(Lq.2 ⟨(Stab_VRy (fun x=>Stab_Vv _ _ _) (by decide)),L0⟩)⟩)⟩)⟩)⟩)⟩);refine Wn ?_
  refine rgX (Vl:=[VT,VAt w (VSv 3 P),Vi j,VAt w (VEp 32 8 (Vv 3 (cv P j).1 (cv P j).2)),Vv 3 (cv P j).1 (cv P j).2,Vv 3 hh.1 hh.2,Vv 3 hh.1 hh.2,VEq (.slice (some ⟨g,0,none⟩) us.length c),VEq (.pointer (some ⟨g,8*0,none⟩)),Vv 3 (spt m 0).1 (spt m 0).2,Vv 3 (mid2 hh (spt m 0)).1 (mid2 hh (spt m 0)).2,VEq (.slice (some ⟨g,0,none⟩) us.length c),VEq (.pointer (some ⟨g,8*1,none⟩)),VEq (.pointer (some ⟨g,8*1,none⟩)),Vq 3 (spt m 3).1,VAt w (VSv 3 P),Vi j,VAt w (VEp 32 8 (Vv 3 (cv P j).1 (cv P j).2)),VAt w (VEp 32 4 (Vq 3 (cv P j).2)),Vq 3 (cv P j).2,Vv 3 (spt m 3).1 (cv P j).2,VAt w (VSv 3 P),Vi j,VAt w (VEp 32 8 (Vv 3 (cv P j).1 (cv P j).2)),VAt w (VEp 32 4 (Vq 3 (cv P j).1)),Vq 3 (cv P j).1,VEq (.slice (some ⟨g,0,none⟩) us.length c),VEq (.pointer (some ⟨g,8*1,none⟩)),VEq (.pointer (some ⟨g,8*1+4,none⟩)),Vq 3 (spt m 3).2,Vv 3 (cv P j).1 (spt m 3).2,VT,VT,VT]) (SL':=[(0,VAt w (VSv 3 P)),(6,Vi j)]) 32 [⟨5,none,some 32,VRg 32 8 (EV 3) none g c us⟩,⟨7,none,some 32,VBk gh (Vv 3 hh.1 hh.2)⟩,⟨29,some 0,some 32,VRy 32 8 (EV 3) w.heap.size us⟩,⟨60,some 31,some 32,VOs 32 8 (EV 3) [cv P j,hh,(mid2 hh (spt m 0)),((spt m 3).1,(cv P j).2),((cv P j).1,(spt m 3).2)]⟩,⟨61,some 32,some 33,VRy 32 8 (EV 3) w.heap.size (us++ [cv P j,hh,(mid2 hh (spt m 0)),((spt m 3).1,(cv P j).2),((cv P j).1,(spt m 3).2)])⟩,⟨5,some 33,none,VRy 32 8 (EV 3) w.heap.size (us++ [cv P j,hh,(mid2 hh (spt m 0)),((spt m 3).1,(cv P j).2),((cv P j).1,(spt m 3).2)])⟩] st5 ⟨(kx_mvE rfl ⟨_,(.head _),rfl,rfl,by kernel_rfl⟩ (fun _ _ h=> .inr ⟨g,c,hg,hc,h⟩) (Lq.2 ⟨(fun h=>absurd h (by simp)),(Lq.2 ⟨(fun h=>absurd h (by simp)),(Lq.2 ⟨(fun h=>⟨rfl,rfl⟩),(Lq.2 ⟨(fun h=>absurd h (by simp)),(Lq.2 ⟨(fun h=>absurd h (by simp)),(Lq.2 ⟨(fun h=>absurd h (by simp)),L0⟩)⟩)⟩)⟩)⟩)⟩) (by kernel_rfl) rfl trivial),(KStep.x ks hPx (by kernel_rfl)),(KStep.x ks hPx (by kernel_rfl)),(KStep.x (kr2 30 31 fun _ _ _ _ _ x0 X0 _ x1 X1=>index_SvA (a:=cv P j) rfl x0 X0 x1 X1 hgj) hPx (by kernel_rfl)),(KStep.x (kr1 32 fun _ _ _ h _ x0 X0=>load_EpC (w:=w) (k:=8) (A:=Vv 3 (cv P j).1 (cv P j).2) (Stab_Vv _ _ _) rfl x0 X0 h.k.below Tryz.underlying32 rfl size_Vec) hPx (by kernel_rfl)),(kx_ldF ⟨_,(.tail _ (.head _)),rfl,by kernel_rfl⟩ (fun _ ac Y u h D hu=>by obtain⟨v0,x0,X0⟩:=h.ot 7;exact load_Bk (u:=u) (A:=Vv 3 hh.1 hh.2) rfl x0 X0 hu) hPx (by kernel_rfl) trivial),(kx_ldF ⟨_,(.tail _ (.head _)),rfl,by kernel_rfl⟩ (fun _ ac Y u h D hu=>by obtain⟨v0,x0,X0⟩:=h.ot 7;exact load_Bk (u:=u) (A:=Vv 3 hh.1 hh.2) rfl x0 X0 hu) hPx (by kernel_rfl) trivial),(kx_mvV rfl ⟨_,(.head _),rfl,rfl,by kernel_rfl⟩ (fun _ _ h=>(VRg_row (by intro e;rw [e] at hul;simp at hul;omega) h).1) hPx (by kernel_rfl) trivial),(KStep.x (kr1 36 fun _ _ _ _ _ x0 X0=>index_EqS (j:=0) rfl x0 X0 rfl rfl (by omega)) hPx (by kernel_rfl)),(kx_ldF ⟨_,(.head _),rfl,by kernel_rfl⟩ (fun _ ac Y u h D hu=>by obtain⟨v0,x0,X0⟩:=h.dp D 37;exact ld_step (k:=0) rfl x0 X0 hu hu0) hPx (by kernel_rfl) trivial),(KStep.x (kd2 fun _ _ _ _ _ X0 _ X1=>cMidQ X0 X1 qh (Q2_le (Q2_up (spt_Q m 0)) (by omega))) hPx (by kernel_rfl)),(kx_mvV rfl ⟨_,(.head _),rfl,rfl,by kernel_rfl⟩ (fun _ _ h=>(VRg_row (by intro e;rw [e] at hul;simp at hul;omega) h).1) hPx (by kernel_rfl) trivial),(KStep.x (kr1 40 fun _ _ _ _ _ x0 X0=>index_EqS (j:=1) rfl x0 X0 rfl rfl (by omega)) hPx (by kernel_rfl)),(KStep.x (kr1 41 fun _ _ _ _ _ x0 X0=>field_Eq0 rfl x0 X0) hPx (by kernel_rfl)),(kx_ldF ⟨_,(.head _),rfl,by kernel_rfl⟩ (fun _ ac Y u h D hu=>by obtain⟨v0,x0,X0⟩:=h.dp D 42;exact ldq_step (k:=1) 0 (.inl ⟨rfl,rfl⟩) rfl x0 X0 hu hu1) hPx (by kernel_rfl) trivial),(KStep.x ks hPx (by kernel_rfl)),(KStep.x ks hPx (by kernel_rfl)),(KStep.x (kr2 44 45 fun _ _ _ _ _ x0 X0 _ x1 X1=>index_SvA (a:=cv P j) rfl x0 X0 x1 X1 hgj) hPx (by kernel_rfl)),(KStep.x (kr1 46 fun _ _ _ _ _ x0 X0=>field_Ep1 rfl x0 X0) hPx (by kernel_rfl)),(KStep.x (kr1 47 fun _ _ _ h _ x0 X0=>load_EpF rfl x0 X0 h.k.below) hPx (by kernel_rfl)),(KStep.x (kr2 43 48 fun _ _ _ _ _ x0 X0 _ x1 X1=>build_Vec rfl x0 x1 (AggV_Vq _ _) (AggV_Vq _ _) X0 X1) hPx (by kernel_rfl)),(KStep.x ks hPx (by kernel_rfl)),(KStep.x ks hPx (by kernel_rfl)),(KStep.x (kr2 50 51 fun _ _ _ _ _ x0 X0 _ x1 X1=>index_SvA (a:=cv P j) rfl x0 X0 x1 X1 hgj) hPx (by kernel_rfl)),(KStep.x (kr1 52 fun _ _ _ _ _ x0 X0=>field_Ep0 rfl x0 X0) hPx (by kernel_rfl)),(KStep.x (kr1 53 fun _ _ _ h _ x0 X0=>load_EpF rfl x0 X0 h.k.below) hPx (by kernel_rfl)),(kx_mvV rfl ⟨_,(.head _),rfl,rfl,by kernel_rfl⟩ (fun _ _ h=>(VRg_row (by intro e;rw [e] at hul;simp at hul;omega) h).1) hPx (by kernel_rfl) trivial),(KStep.x (kr1 55 fun _ _ _ _ _ x0 X0=>index_EqS (j:=1) rfl x0 X0 rfl rfl (by omega)) hPx (by kernel_rfl)),(KStep.x (kr1 56 fun _ _ _ _ _ x0 X0=>field_Eq1 rfl x0 X0) hPx (by kernel_rfl)),(kx_ldF ⟨_,(.head _),rfl,by kernel_rfl⟩ (fun _ ac Y u h D hu=>by obtain⟨v0,x0,X0⟩:=h.dp D 57;exact ldq_step (k:=1) 4 (.inr ⟨rfl,rfl⟩) rfl x0 X0 hu hu1) hPx (by kernel_rfl) trivial),(KStep.x (kr2 54 58 fun _ _ _ _ _ x0 X0 _ x1 X1=>build_Vec rfl x0 x1 (AggV_Vq _ _) (AggV_Vq _ _) X0 X1) hPx (by kernel_rfl)),(kx_mem (fun _ ac Y h D=>by obtain⟨v0,x0,X0⟩:=h.dp D 33;obtain⟨v1,x1,X1⟩:=h.dp D 34;obtain⟨v2,x2,X2⟩:=h.dp D 39;obtain⟨v3,x3,X3⟩:=h.dp D 49;obtain⟨v4,x4,X4⟩:=h.dp D 59;exact bslice_O5 (lo:=0) rfl x0 x1 x2 x3 x4 X0 X1 X2 X3 X4 (Nat.zero_le _)) hPx (by kernel_rfl) (Lq.2 ⟨(fun h=>absurd h (by simp)),(Lq.2 ⟨(fun h=>absurd h (by simp)),(Lq.2 ⟨(fun h=>absurd h (by simp)),(Lq.2 ⟨(fun h=>⟨rfl,rfl⟩),(Lq.2 ⟨(fun h=>absurd h (by simp)),(Lq.2 ⟨(fun h=>absurd h (by simp)),L0⟩)⟩)⟩)⟩)⟩)⟩) rfl trivial),(kx_app (k:=8) (E:=EV 3) (xs:=us) (zs:=[cv P j,hh,(mid2 hh (spt m 0)),((spt m 3).1,(cv P j).2),((cv P j).1,(spt m 3).2)]) (X:=VOs 32 8 (EV 3) [cv P j,hh,(mid2 hh (spt m 0)),((spt m 3).1,(cv P j).2),((cv P j).1,(spt m 3).2)]) rfl (.inl ⟨_,(.tail _ (.tail _ (.head _))),rfl,rfl,by kernel_rfl⟩) (.inl ⟨_,(.tail _ (.tail _ (.tail _ (.head _)))),rfl,rfl,by kernel_rfl⟩) (fun _ _ _ h=>VOs_sc h) (Lq.2 ⟨(fun h=>absurd h (by simp)),(Lq.2 ⟨(fun h=>absurd h (by simp)),(Lq.2 ⟨(fun h=>absurd h (by simp)),(Lq.2 ⟨(fun h=>absurd h (by simp)),(Lq.2 ⟨(fun h=>⟨rfl,rfl⟩),(Lq.2 ⟨(fun h=>absurd h (by simp)),L0⟩)⟩)⟩)⟩)⟩)⟩) (by kernel_rfl) rfl (fun x BT=>Stab_Vv _ _ _) (by rw [hul];simp;omega) trivial),(kx_asgD rfl ⟨_,(.tail _ (.tail _ (.tail _ (.tail _ (.head _))))),rfl,rfl,by kernel_rfl⟩ (Lq.2 ⟨(fun h=>absurd h (by simp)),(Lq.2 ⟨(fun h=>absurd h (by simp)),(Lq.2 ⟨(fun h=>absurd h (by simp)),(Lq.2 ⟨(fun h=>absurd h (by simp)),(Lq.2 ⟨(fun h=>absurd h (by simp)),(Lq.2 ⟨(fun h=>⟨rfl,rfl⟩),L0⟩)⟩)⟩)⟩)⟩)⟩) (by kernel_rfl) rfl trivial),trivial⟩ ?_ hPx (Lq.2 ⟨(fun _=>⟨_,p5,s5⟩),(Lq.2 ⟨(fun _=>⟨_,e7,hbx⟩),(Lq.2 ⟨(fun h=>absurd h (by simp)),(Lq.2 ⟨(fun h=>absurd h (by simp)),(Lq.2 ⟨(fun h=>absurd h (by simp)),(Lq.2 ⟨(fun h=>absurd h (by simp)),L0⟩)⟩)⟩)⟩)⟩)⟩) (by kernel_rfl);clear hPx;intro a6 w6 st6 hx6;obtain⟨v5,e5,h5⟩:=hx6 _ (.tail _ (.tail _ (.tail _ (.tail _ (.tail _ (.head _)))))) rfl;clear hx6 e7 hbx p5 s5 hg hc;obtain⟨g2,c2,hg2,rfl,hrow⟩:=VRy_row (by simp) h5;have hc2:0<c2:=by have:=hrow.1;rw [List.length_append] at this;simp at this;omega
  replace st6:=st6.reT 5 (VRg 32 8 (EV 3) none g2 c2 (us++ [cv P j,hh,(mid2 hh (spt m 0)),((spt m 3).1,(cv P j).2),((cv P j).1,(spt m 3).2)])) e5 (hrow.rg hc2 rfl);clear e5 h5 hrow;replace st6:St w.heap.size w 63 [] [(5,VRg 32 8 (EV 3) none g2 c2 (us++ [cv P j,hh,(mid2 hh (spt m 0)),((spt m 3).1,(cv P j).2),((cv P j).1,(spt m 3).2)])),(0,VAt w (VSv 3 P)),(6,Vi j)] a6 w6:=st6.cut;refine Wn ?_
  refine rH [] [Vi j,Vi ((j+1:Nat):Int),Vi ((j+1:Nat):Int)] [] [(5,VRg 32 8 (EV 3) none g2 c2 (us++ [cv P j,hh,(mid2 hh (spt m 0)),((spt m 3).1,(cv P j).2),((cv P j).1,(spt m 3).2)])),(0,VAt w (VSv 3 P)),(6,Vi ((j+1:Nat):Int))] st6 ⟨?s0,(kr1 19 fun _ _ _ _ v0 x0 X0=>⟨_,run_addi rfl (x0.trans (show v0= .int .i64 j from X0)) rfl wO,congrArg (Value.int .i64) (by omega)⟩),ks,trivial⟩ ?_
  case s0=>
   refine k_run0 SbB.out (by kernel_rfl) fun listed ac Y h D hnl=>⟨trivial,?_⟩
   obtain⟨v0,x0,X0⟩:=h.out0 hnl (6,Vi j) (.tail _ (.tail _ (.head _))) 2 (by kernel_rfl) (.inr (by kernel_rfl));exact⟨_,run_move rfl,by rw [x0];exact X0⟩
  intro a7 w7 st7;replace st7:St w.heap.size w 63 [] [(5,VRg 32 8 (EV 3) none g2 c2 (us++ [cv P j,hh,(mid2 hh (spt m 0)),((spt m 3).1,(cv P j).2),((cv P j).1,(spt m 3).2)])),(0,VAt w (VSv 3 P)),(6,Vi ((j+1:Nat):Int))] a7 w7:=st7;exact⟨m1 - 1,by omega,j+1,g2,c2,us++ [cv P j,hh,(mid2 hh (spt m 0)),((spt m 3).1,(cv P j).2),((cv P j).1,(spt m 3).2)],by omega,by rw [hhd,hus];rfl,hg2,hc2,st7.cut⟩
 ·
  refine Wn ?_
  refine rH [] [Vi j,VAt w (VSv 3 P),Vi (P.length:Int),Vb false] [] [(0,VAt w (VSv 3 P)),(5,VRg 32 8 (EV 3) none g c us),(6,Vi j),(18,Vb false)] st3 ⟨ks,ks,(kr1 16 fun _ _ _ _ _ x0 X0=>len_SvA rfl rfl x0 X0),(kr2 15 17 fun _ _ _ _ _ x0 X0 _ x1 X1=>⟨_,run_lssi rfl (x0.trans X0) (x1.trans X1),congrArg Value.bool (dF (by omega))⟩),trivial⟩ fun a4 w4 st4=>Wn ?_
  refine cF st4 ?_;have hjn:j=P.length:=by omega
  refine Wn ?_
  refine rH [] [VRg 32 8 (EV 3) none g c us,VRg 32 8 (EV 3) none g c us] [] [(0,VAt w (VSv 3 P)),(5,VRg 32 8 (EV 3) none g c us),(6,Vi j),(18,Vb false),(4,VRg 32 8 (EV 3) none g c us)] st4 ⟨ks,ks,trivial⟩ fun a5 w5 st5=>Wn ?_
  exact wp_ret (rS 4 (VRg 32 8 (EV 3) none g c (us)) st5 fun vr r4=>(by rw [<-hjn,<-hus];exact VRg_sv r4 (by intro e;rw [e] at hul;simp at hul;omega)))
theorem sd_low {x y u v:Rat}(hx:x<=0)(hu:u<=0)(hy:y<=0)(hv:0<=v):x*v - y*u<=0:=by
 have h1:=Rat.mul_nonneg (show 0<= -x by grind) hv;have h2:=Rat.mul_nonneg (show 0<= -y by grind) (show 0<= -u by grind)
 grind
theorem sd_high {x y u v:Rat}(hx:0<x)(hu:0<u)(hy:y<=0)(hv:0<v):0<x*v - y*u:=by
 have h1:=Rat.mul_pos hx hv;have h2:=Rat.mul_nonneg (show 0<= -y by grind) (Rat.le_of_lt hu)
 grind
theorem sdI_pos {a b p:P2}:0<sdI a b p↔0<sdD a b p:=by
 rw [sdI_sdD];rcases sign_cases (sdD a b p)with⟨h,e⟩|⟨h,e⟩|⟨h,e⟩<;>rw [e]<;>constructor<;>intro k<;>first|omega|exact h|(exfalso;grind)
theorem sdI_neg {a b p:P2}:sdI a b p<0↔sdD a b p<0:=by
 rw [sdI_sdD];rcases sign_cases (sdD a b p)with⟨h,e⟩|⟨h,e⟩|⟨h,e⟩<;>rw [e]<;>constructor<;>intro k<;>first|omega|exact h|(exfalso;grind)
theorem sdI_zero {a b p:P2}:sdI a b p=0↔sdD a b p=0:=by
 rw [sdI_sdD];rcases sign_cases (sdD a b p)with⟨h,e⟩|⟨h,e⟩|⟨h,e⟩<;>rw [e]<;>constructor<;>intro k<;>first|omega|exact h|(exfalso;grind)
theorem cmpQ_gt0 {x y:Rat}:0<cmpQ x y↔y<x:=by
 rw [<-cmpQ_gt];rcases cmpQ_cases x y with h|h|h<;>rw [h]<;>decide
theorem rgt_form (a b p:P2):rgt a b p=true↔(¬p.2<a.2/\p.2<b.2/\0<sdD a b p)∨(p.2<a.2/\¬p.2<b.2/\sdD a b p<0):=by
 unfold rgt abv;by_cases ha:p.2<a.2<;>by_cases hb:p.2<b.2<;>simp [cmpQ_gt0,ha,hb,sdI_pos,sdI_neg]
theorem par_bool {Xa Xb Ya Yb DN DP:Prop}{r u A B:Bool}(hr:r=true↔(¬Ya/\Yb/\DP)∨(Ya/\¬Yb/\DN))(hu:u=true↔(¬Xa/\Xb/\DN)∨(Xa/\¬Xb/\DP))(hA:A=true↔Xa/\Ya)(hB:B=true↔Xb/\Yb)(hD:¬(DN/\DP))
 (f1:¬Xa->¬Xb->¬Ya->Yb->¬DP) (f2:¬Xa->¬Xb->Ya->¬Yb->¬DN) (f3:Xa->Xb->¬Ya->Yb->DP) (f4:Xa->Xb->Ya->¬Yb->DN)
 (g1:¬Ya->¬Yb->¬Xa->Xb->¬DN) (g2:¬Ya->¬Yb->Xa->¬Xb->¬DP) (g3:Ya->Yb->¬Xa->Xb->DN) (g4:Ya->Yb->Xa->¬Xb->DP)
 (z1:¬Xa->¬Ya->Xb->Yb->DN∨DP) (z2:Xa->Ya->¬Xb->¬Yb->DN∨DP):sgb r*sgb u=sgb A*sgb B:=by
 by_cases h1:Xa<;>by_cases h2:Xb<;>by_cases h3:Ya<;>by_cases h4:Yb<;>by_cases h5:DN<;>by_cases h6:DP<;>simp only [h1,h2,h3,h4,h5,h6,not_true,not_false_iff,and_true,and_false,or_true,or_false,imp_false,iff_true,iff_false,Bool.not_eq_true,implies_true] at*<;>first|(subst hr hu hA hB;rfl)|(exfalso;assumption)|skip
theorem pz_par {f g A:Nat->Bool}:∀n,(∀k,k<n->sgb (f k)*sgb (g k)=sgb (A k)*sgb (A (k+1)))->pzT f n*pzT g n=pzT A n*pzT (fun k=>A (k+1)) n
 |0,_=>rfl
 |n+1,h=>by
  show pzT f n*sgb (f n)*(pzT g n*sgb (g n))=pzT A n*sgb (A n)*(pzT (fun k=>A (k+1)) n*sgb (A (n+1)));have h1:=pz_par n fun k hk=>h k (by omega)
  have h2:=h n (by omega);have e1:pzT f n*sgb (f n)*(pzT g n*sgb (g n))=pzT f n*pzT g n*(sgb (f n)*sgb (g n)):=by grind
  rw [e1,h1,h2]
  grind
theorem pzT_sq (f:Nat->Bool):∀n,pzT f n*pzT f n=1
 |0=>rfl
 |n+1=>by
  show pzT f n*sgb (f n)*(pzT f n*sgb (f n))=1;have h1:=pzT_sq f n;have h2:=sgb_sq (f n);have:pzT f n*sgb (f n)*(pzT f n*sgb (f n))=pzT f n*pzT f n*(sgb (f n)*sgb (f n)):=by grind
  rw [this,h1,h2];rfl
theorem pz_eq {f g A:Nat->Bool}{n:Nat}(h:∀k,k<n->sgb (f k)*sgb (g k)=sgb (A k)*sgb (A (k+1)))(hA:A n=A 0):pzT f n=pzT g n:=by
 have h1:=pz_par n h;have h2:=pzT_front A n;have h3:pzT A (n+1)=pzT A n*sgb (A n):=rfl;rw [h3,hA,Int.mul_comm] at h2
 have h4:pzT A n=pzT (fun k=>A (k+1)) n:=by
  have h5:=congrArg (fun z=>sgb (A 0)*z) h2;simp only [<-Int.mul_assoc,sgb_sq,Int.one_mul] at h5;exact h5
 rw [<-h4,pzT_sq] at h1;have h6:=congrArg (fun z=>z*pzT g n) h1;simp only [Int.mul_assoc,pzT_sq,Int.mul_one,Int.one_mul] at h6;exact h6
theorem onR_has (vs:List P2)(p:P2)(k:Nat):onR vs p k=hasS (cv vs k) (cv vs (k+1)) p:=by
 unfold onR;rw [meetEq];unfold mts hasS;generalize cv vs k=c;generalize cv vs (k+1)=d;have e1:ovl p p c d=ovl c d p p:=by unfold ovl;exact Bool.and_comm _ _
 have e2:prt p p c d=true:=by
  unfold prt;have:sdI p p c=0:=sdI_zero.2 (by unfold sdD;grind);rw [this];simp
 have e3:prt c d p p=(sdI c d p==0):=by
  unfold prt;rcases (show sdI c d p= -1∨sdI c d p=0∨sdI c d p=1 from cmpI_abs _ _)with h|h|h<;>rw [h]<;>rfl
 rw [e1,e2,e3,Bool.true_and]


theorem mts_iff {a b c d:P2}:mts a b c d=true↔common a b c d:=by
 constructor
 ·intro h;have h0:=h;unfold mts at h;rw [Bool.and_eq_true,Bool.and_eq_true] at h;rcases both h.2.1 h.2.2 with h1|⟨h1,-⟩
  ·exact h1
  ·rw [h1] at h;exact absurd h.1 (by decide)
 ·intro h;rw [<-meetEq];exact common_meetsR h
theorem hasS_mts (c d p:P2):hasS c d p=mts p p c d:=by
 rw [<-meetEq];exact(onR_has [c,d] p 0).symm
theorem ptS_self (p:P2)(s:Rat):ptS p p s=p:=by
 unfold ptS;exact Prod.ext (by show _=p.1;grind) (by show _=p.2;grind)
theorem hasS_iff {a b p:P2}:hasS a b p=true↔∃t:Rat,0<=t/\t<=1/\p=ptS a b t:=by
 rw [hasS_mts,mts_iff];constructor
 ·rintro⟨s,t,-,-,h3,h4,h5⟩
  rw [ptS_self] at h5;exact⟨t,h3,h4,h5⟩
 ·rintro⟨t,h3,h4,h5⟩
  exact⟨0,t,Rat.le_refl,by decide,h3,h4,by rw [ptS_self];exact h5⟩
section
variable {c s x y:Rat}
theorem ptS_put (a b:P2)(t:Rat):ptS (putP c s x y a) (putP c s x y b) t=putP c s x y (ptS a b t):=by
 unfold ptS putP;exact Prod.ext (by grind) (by grind)
theorem put_inj (h1:c*c+s*s=1){u v:P2}(h:putP c s x y u=putP c s x y v):u=v:=by
 have e1:=congrArg Prod.fst h;have e2:=congrArg Prod.snd h;unfold putP at e1 e2;simp only at e1 e2;have q1:c*(u.1 - v.1) - s*(u.2 - v.2)=0:=by grind
 have q2:s*(u.1 - v.1)+c*(u.2 - v.2)=0:=by grind
 have p1:(c*c+s*s)*(u.1 - v.1)=0:=by grind
 have p2:(c*c+s*s)*(u.2 - v.2)=0:=by grind
 rw [h1] at p1 p2;exact Prod.ext (by grind) (by grind)
theorem common_put (h1:c*c+s*s=1){a b d e:P2}:common (putP c s x y a) (putP c s x y b) (putP c s x y d) (putP c s x y e)↔common a b d e:=by
 unfold common;simp only [ptS_put];constructor
 ·rintro⟨g,k,q1,q2,q3,q4,q5⟩
  exact⟨g,k,q1,q2,q3,q4,put_inj h1 q5⟩
 ·rintro⟨g,k,q1,q2,q3,q4,q5⟩
  exact⟨g,k,q1,q2,q3,q4,congrArg _ q5⟩
theorem mts_put (h1:c*c+s*s=1)(a b d e:P2):mts (putP c s x y a) (putP c s x y b) (putP c s x y d) (putP c s x y e)=mts a b d e:=Bool.eq_iff_iff.2 (mts_iff.trans ((common_put h1).trans mts_iff.symm))
theorem hasS_put (h1:c*c+s*s=1)(a b p:P2):hasS (putP c s x y a) (putP c s x y b) (putP c s x y p)=hasS a b p:=by
 rw [hasS_mts,hasS_mts,mts_put h1]
theorem sdD_put (h1:c*c+s*s=1)(a b p:P2):sdD (putP c s x y a) (putP c s x y b) (putP c s x y p)=sdD a b p:=by
 have:sdD (putP c s x y a) (putP c s x y b) (putP c s x y p)=(c*c+s*s)*sdD a b p:=by
  unfold sdD putP
  grind
 rw [this,h1,Rat.one_mul]
theorem sdI_put (h1:c*c+s*s=1)(a b p:P2):sdI (putP c s x y a) (putP c s x y b) (putP c s x y p)=sdI a b p:=by rw [sdI_sdD,sdI_sdD,sdD_put h1]
end
theorem cv_map {vs:List P2}(f:P2->P2)(h:0<vs.length)(k:Nat):cv (vs.map f) k=f (cv vs k):=by
 rw [<-cv_mod,List.length_map];have:=Nat.mod_lt k h;refine cv_of ?_;rw [List.getElem?_map,cv_get k h];rfl
section
variable {c s x y:Rat}{vs:List P2}
theorem okR_put (h1:c*c+s*s=1)(h0:0<vs.length)(i:Nat):okR (vs.map (putP c s x y)) i↔okR vs i:=by
 have e:∀i k,badR (vs.map (putP c s x y)) i k=badR vs i k:=fun i k=>by
  have:gp (vs.map (putP c s x y)) i k=gp vs i k:=by unfold gp;rw [List.length_map]
  unfold badR;rw [this,List.length_map,meetEq,meetEq,cv_map _ h0,cv_map _ h0,cv_map _ h0,cv_map _ h0,mts_put h1]
 unfold okR tnR;rw [List.length_map,cv_map _ h0,cv_map _ h0,cv_map _ h0,sdR_eq,sdR_eq,sdI_put h1];simp only [e]
theorem areaQ_put (h1:c*c+s*s=1)(h0:0<vs.length):areaQ (vs.map (putP c s x y))=areaQ vs:=by
 rw [two_part,two_part,List.length_map]
 congr 1
 have:=sumT_tel (Fk crs vs) (Fk crs (vs.map (putP c s x y))) (fun k=>crs (c*(cv vs k).1+ -s*(cv vs k).2,s*(cv vs k).1+c*(cv vs k).2) (x,y)) (fun k=>by
  unfold Fk;rw [cv_map _ h0,cv_map _ h0]
  have:crs (putP c s x y (cv vs k)) (putP c s x y (cv vs (k+1)))=(c*c+s*s)*crs (cv vs k) (cv vs (k+1))+(crs (c*(cv vs k).1+ -s*(cv vs k).2,s*(cv vs k).1+c*(cv vs k).2) (x,y) - crs (c*(cv vs (k+1)).1+ -s*(cv vs (k+1)).2,s*(cv vs (k+1)).1+c*(cv vs (k+1)).2) (x,y)):=by
   unfold crs putP
   grind
  rw [this,h1,Rat.one_mul]) vs.length
 rw [this,cv_len]
 grind
theorem validP_put (h1:c*c+s*s=1)(h0:0<vs.length):validP (vs.map (putP c s x y))=validP vs:=by
 rw [<-validR_valid,<-validR_valid];unfold validR;simp only [okR_put h1 h0];rw [List.length_map,areaR_eq,areaR_eq,areaQ_put h1 h0]
theorem convexP_put (h1:c*c+s*s=1)(h0:0<vs.length):convexP (vs.map (putP c s x y))=convexP vs:=by
 unfold convexP;rw [validP_put h1 h0,List.length_map]
 have:∀k,tn (vs.map (putP c s x y)) k=tn vs k:=fun k=>by
  unfold tn;rw [cv_map _ h0,cv_map _ h0,cv_map _ h0,sdI_put h1]
 simp only [this]
end

end Go.Proofs.YteacdbgalloaiaaGreat
