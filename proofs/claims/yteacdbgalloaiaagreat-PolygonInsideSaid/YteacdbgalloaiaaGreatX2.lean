/- Contracts of the packages integer, rat, plane, polygon and their references. -/
import Derived.Test.YteacdbgalloaiaaGreatX1
import Derived.Deep.LoopGhost
import Derived.WalkMore
set_option linter.unusedVariables false
set_option maxRecDepth 100000
set_option maxHeartbeats 6400000
namespace Go.Proofs.YteacdbgalloaiaaGreat
theorem take_set1 (A:List Int)(k:Nat)(v:Int)(h:k<A.length):(A.set k v).take (k+1)=A.take k++ [v]:=by
 rw [List.take_succ_eq_append_getElem (by rw [List.length_set];exact h),List.take_set_of_le (Nat.le_refl _)];simp
theorem val_snoc (l:List Int)(v:Int):val (l++ [v])=val l+pw l.length*v:=by
 rw [val_append];show _+_*(v+1000000000*0)=_;simp
theorem val_zero_of {l:List Int}(h:∀j,iat l j=0):val l=0:=by
 induction l with
 |nil=>rfl
 |cons d t ih=>
  have h0:=h 0;rw [iat_cons_zero] at h0;show d+1000000000*val t=0;rw [ih (fun j=>by have:=h (j+1);rwa [iat_cons_succ] at this),h0];rfl
theorem val_drop_zero {l:List Int}{k:Nat}(h:∀j,k<=j->iat l j=0):val (l.drop k)=0:=
 val_zero_of fun j=>by rw [iat_drop];exact h _ (by omega)
theorem top_le {a b:List Int}{k:Nat}{Q:Int}(ha:Dg a)(hb:Dg b)(hka:k<=a.length)(hkb:k<=b.length)(hQ:0<=Q)(h:Q*val b<=val a):Q*val (b.drop k)<=val (a.drop k):=by
 have e1:=val_split a k hka;have e2:=val_split b k hkb;have h1:=(ha.take k).hi;rw [List.length_take,Nat.min_eq_left hka] at h1;have h2:=(hb.take k).lo;have hp:=pw_pos k;generalize val (a.take k)=a0 at*
 generalize val (b.take k)=b0 at*
 generalize val (a.drop k)=a1 at*
 generalize val (b.drop k)=b1 at*
 rw [e1,e2] at h;have h3:0<=Q*b0:=Int.mul_nonneg hQ h2
 have h4:pw k*(Q*b1)<pw k*(a1+1):=by
  have e3:Q*(b0+pw k*b1)=Q*b0+pw k*(Q*b1):=by grind
  have e4:pw k*(a1+1)=pw k*a1+pw k:=by grind
  omega
 have:=Int.lt_of_mul_lt_mul_left h4 (by omega);omega
structure SubA (x y:List Int)(n:Int)(k:Nat)(over:Int)(z:List Int):Prop where
 len:z.length=y.length+1
 dg:Dg (z.take k)
 sum:val (z.take k) - pw k*over=val (x.take k) - n*val (y.take k)
 lo:0<=over
 hi:over<=1000000000
theorem SubA.start (x y:List Int)(n:Int)(z:List Int)(h:z.length=y.length+1):SubA x y n 0 0 z:=
 ⟨h,by rw [List.take_zero];exact Dg_nil,by simp [val],by omega,by omega⟩
theorem sub_digit {n d x over:Int}(hn0:0<=n)(hn1:n<1000000000)(hd0:0<=d)(hd1:d<1000000000)(hx0:0<=x)(hx1:x<1000000000)(h0:0<=over)(h1:over<=1000000000):
 0<=n*d/\n*d<=999999998000000001/\0<=1000000000000000000+x - n*d - over/\1000000000000000000+x - n*d - over<1000000001000000000:=by
 have e1:0<=n*d:=Int.mul_nonneg hn0 hd0;have e2:n*d<=999999999*d:=Int.mul_le_mul_of_nonneg_right (by omega) hd0;omega
theorem SubA.next {x y z:List Int}{n over:Int}{k:Nat}(h:SubA x y n k over z)(hx:Dg x)(hy:Dg y)(hk:k<y.length)(hkx:k<x.length)(hn0:0<=n)(hn1:n<1000000000):
 SubA x y n (k+1) (1000000000 - (1000000000000000000+iat x k - n*iat y k - over) / 1000000000) (z.set k ((1000000000000000000+iat x k - n*iat y k - over) % 1000000000)):=by
 have hz:k<z.length:=by rw [h.len];omega
 have b1:=hx.all k;have b2:=hy.all k;have ht:=sub_digit hn0 hn1 b2.1 b2.2 b1.1 b1.2 h.lo h.hi;have hs:=h.sum;have hl:(z.take k).length=k:=by rw [List.length_take];omega
 generalize ht':1000000000000000000+iat x k - n*iat y k - over=t at*
 refine⟨by rw [List.length_set];exact h.len,?_,?_,by omega,by omega⟩
 ·rw [take_set1 _ _ _ hz];exact Dg_append h.dg (Dg_cons (by omega) (by omega) Dg_nil)
 ·rw [take_set1 _ _ _ hz,val_snoc,hl,val_take x k hkx,val_take y k hk];show _ - 1000000000*pw k*_=_;have e:=Int.mul_ediv_add_emod t 1000000000
  grind
theorem SubA.done {x y z:List Int}{n over:Int}(h:SubA x y n y.length over z)(hx:x.length=y.length+1):
 val (z.set y.length (iat x y.length - over))=val x - n*val y/\(iat x y.length - over<0->val x - n*val y<0)/\(0<=iat x y.length - over->iat x y.length<1000000000->Dg (z.set y.length (iat x y.length - over))):=by
 have hz:y.length<z.length:=by rw [h.len];omega
 have hl:(z.take y.length).length=y.length:=by rw [List.length_take];omega
 have hs:=h.sum;rw [List.take_length] at hs
 have e1:z.set y.length (iat x y.length - over)=z.take y.length++ [iat x y.length - over]:=by
  rw [<-take_set1 _ _ _ hz,List.take_of_length_le (by rw [List.length_set,h.len];omega)]
 have e2:val x=val (x.take y.length)+pw y.length*iat x y.length:=by
  rw [<-val_take x _ (by omega),<-hx,List.take_length]
 have hv:val (z.set y.length (iat x y.length - over))=val x - n*val y:=by
  rw [e1,val_snoc,hl,e2];grind
 refine⟨hv,fun hneg=>?_,fun h0 h1=>?_⟩
 ·rw [<-hv,e1,val_snoc,hl];have h3:=h.dg.hi;rw [hl] at h3;have hp:=pw_pos y.length;have:pw y.length*(iat x y.length - over)<=pw y.length*(-1):=Int.mul_le_mul_of_nonneg_left (by omega) (by omega);omega
 ·rw [e1];exact Dg_append h.dg (Dg_cons h0 (by have:=h.lo;omega) Dg_nil)
theorem quot_le {x y:List Int}{m:Nat}{Q:Int}(hx:Dg x)(hy:Dg y)(hm:y.length=m+2)(hxl:x.length=m+3)(hQ0:0<=Q)(h:Q*val y<=val x):
 Q*iat y (m+1)<=iat x (m+2)*1000000000+iat x (m+1)/\Q*(iat y m+1000000000*iat y (m+1))<=iat x m+1000000000*(iat x (m+2)*1000000000+iat x (m+1)):=by
 have h1:=top_le (k:=m+1) hx hy (by omega) (by omega) hQ0 h;have h2:=top_le (k:=m) hx hy (by omega) (by omega) hQ0 h;have d3:val (x.drop (m+3))=0:=by rw [<-hxl,List.drop_length];rfl
 have d2:val (y.drop (m+2))=0:=by rw [<-hm,List.drop_length];rfl
 rw [val_drop x m (by omega),val_drop x (m+1) (by omega),val_drop x (m+2) (by omega),d3,val_drop y m (by omega),val_drop y (m+1) (by omega),d2] at h2;rw [val_drop x (m+1) (by omega),val_drop x (m+2) (by omega),d3,val_drop y (m+1) (by omega),d2] at h1;refine⟨?_,?_⟩
 ·simp only [Int.mul_zero,Int.add_zero] at h1;omega
 ·simp only [Int.mul_zero,Int.add_zero] at h2;have:iat x m+1000000000*(iat x (m+2)*1000000000+iat x (m+1))=iat x m+1000000000*(iat x (m+1)+1000000000*iat x (m+2)):=by omega
  omega
theorem mul_lt_of {a b c:Int}(hc:0<=c)(h:a*c<b*c):a<b:=by
 rcases Int.lt_or_le a b with h1|h1
 ·exact h1
 ·have:=Int.mul_le_mul_of_nonneg_right h1 hc;omega
theorem quot_lt {x y:Int}{Q:Int}(hy:0<y)(h:Q*y<=x)(hx:x<1000000000*y):Q<1000000000:=mul_lt_of (Int.le_of_lt hy) (Int.lt_of_le_of_lt h hx)
theorem guess_less {g Q y0 y1 x0 H:Int}(hy:0<=y0+1000000000*y1)(hq:Q*(y0+1000000000*y1)<=x0+1000000000*H)(h:(H - g*y1)*1000000000+x0<g*y0):Q<g:=by
 apply mul_lt_of hy;have e:g*(y0+1000000000*y1)=g*y0+1000000000*(g*y1):=by grind
 rw [e];have e2:(H - g*y1)*1000000000=1000000000*H - 1000000000*(g*y1):=by grind
 omega
theorem quot_div {Q y H:Int}(hy:0<y)(h:Q*y<=H):Q<=H / y:=(Int.le_ediv_iff_mul_le hy).2 h
structure LongA (X y:List Int)(n at_:Nat)(R q:List Int):Prop where
 lenR:R.length=X.length
 dgR:Dg R
 lenq:q.length+n=X.length
 dgq:Dg q
 same:∀j,j<at_->iat R j=iat X j
 zero:∀j,at_+n<=j->iat R j=0
 sum:val (X.drop at_)=val y*val (q.drop at_)+val (R.drop at_)
 lt:val (R.drop at_)<val y
theorem LongA.start {X y:List Int}{n L:Nat}(hX:Dg X)(hl:L+n=X.length)(hlt:val (X.drop L)<val y):LongA X y n L X (List.replicate L 0):=
 ⟨rfl,hX,by rw [List.length_replicate];exact hl,Dg_zeros _,fun _ _=>rfl,fun j hj=>iat_ge (by omega),by rw [List.drop_of_length_le (l:=List.replicate L 0) (by simp)];show _=val y*0+_;simp,hlt⟩
theorem LongA.part {X y R q:List Int}{n k:Nat}(h:LongA X y n (k+1) R q)(hk:k<q.length):
 (R.drop k).take (n+1)=(R.drop k).take (n+1)/\((R.drop k).take (n+1)).length=n+1/\Dg ((R.drop k).take (n+1))/\val ((R.drop k).take (n+1))=val (R.drop k)/\val (R.drop k)=iat R k+1000000000*val (R.drop (k+1))/\val (R.drop k)<1000000000*val y:=by
 have hR:k<R.length:=by rw [h.lenR,<-h.lenq];omega
 have D:=val_drop R k hR;have hl:((R.drop k).take (n+1)).length=n+1:=by rw [List.length_take,List.length_drop,h.lenR,<-h.lenq];omega
 refine⟨rfl,hl,(h.dgR.drop k).take _,?_,D,?_⟩
 ·have:=val_split (R.drop k) (n+1) (by rw [List.length_drop,h.lenR,<-h.lenq];omega);rw [val_drop_zero (l:=R.drop k) (k:=n+1) (fun j hj=>by rw [iat_drop];exact h.zero _ (by omega))] at this;omega
 ·rw [D];have:=h.lt;have:=(h.dgR.all k).2;omega
theorem LongA.none {X y R q:List Int}{n k:Nat}(h:LongA X y n (k+1) R q)(hk:k<q.length)(hq:iat q k=0)(hyl:y.length=n)(hy:Dg y)(hlt:val ((R.drop k).take (n+1))<val y):LongA X y n k R q:=by
 have hp:=h.part hk;have hX:k<X.length:=by rw [<-h.lenq];omega
 rw [hp.2.2.2.1] at hlt;refine⟨h.lenR,h.dgR,h.lenq,h.dgq,fun j hj=>h.same j (by omega),fun j hj=>?_,?_,hlt⟩
 ·rcases Nat.lt_or_ge (k+n) j with hj2|hj2
  ·exact h.zero j (by omega)
  ·obtain rfl:j=k+n:=by omega
   have hyp:=hy.hi;rw [hyl] at hyp;have hs:=val_split (R.drop k) n (by rw [List.length_drop,h.lenR,<-h.lenq];omega);have h1:=((h.dgR.drop k).take n).lo;have h2:=((h.dgR.drop k).drop n).lo;have h3:=val_drop (R.drop k) n (by rw [List.length_drop,h.lenR,<-h.lenq];omega);have h4:=((h.dgR.drop k).drop (n+1)).lo;have h5:=((h.dgR.drop k).all n);rw [iat_drop] at h3 h5;have hpn:=pw_pos n
   have h6:val ((R.drop k).drop n)<1:=by
    rcases Int.lt_or_le (val ((R.drop k).drop n)) 1 with h7|h7
    ·exact h7
    ·have:pw n*1<=pw n*val ((R.drop k).drop n):=Int.mul_le_mul_of_nonneg_left h7 (by omega);omega
   omega
 ·rw [val_drop X k hX,val_drop q k hk,hq,hp.2.2.2.2.1,h.same k (by omega),h.sum]
  grind
theorem LongA.digit {X y R q left:List Int}{n k:Nat}{Q:Int}(h:LongA X y n (k+1) R q)(hk:k<q.length)(hyl:y.length=n)(hy:Dg y)(hl:left.length=n+1)(D:Dg left)
 (hv:val left=val ((R.drop k).take (n+1)) - Q*val y) (hlt:val left<val y) (hQ0:0<=Q) (hQ1:Q<1000000000):LongA X y n k (R.take k++left++R.drop (k+(n+1))) (q.set k Q):=by
 have hp:=h.part hk;have hX:k<X.length:=by rw [<-h.lenq];omega
 rw [hp.2.2.2.1] at hv;have hRl:R.length=q.length+n:=by rw [h.lenR,h.lenq]
 have htl:(R.take k).length=k:=by rw [List.length_take];omega
 have hdrop:(R.take k++left++R.drop (k+(n+1))).drop k=left++R.drop (k+(n+1)):=by
  rw [List.append_assoc,List.drop_append_of_le_length (by omega),List.drop_of_length_le (by omega),List.nil_append]
 have hz0:val (R.drop (k+(n+1)))=0:=val_drop_zero fun j hj=>h.zero j (by omega)
 have hvd:val ((R.take k++left++R.drop (k+(n+1))).drop k)=val left:=by
  rw [hdrop,val_append,hz0];simp
 refine⟨by rw [List.length_append,List.length_append,htl,hl,List.length_drop,hRl,<-h.lenq];omega,Dg_append (Dg_append (h.dgR.take _) D) (h.dgR.drop _),by rw [List.length_set];exact h.lenq,h.dgq.set _ _ hk hQ0 hQ1,fun j hj=>?_,fun j hj=>?_,?_,by rw [hvd];exact hlt⟩
 ·rw [List.append_assoc,iat_append,if_pos (by omega),iat_take,if_pos hj];exact h.same j (by omega)
 ·rw [List.append_assoc,iat_append,if_neg (by omega),htl,iat_append];split
  ·obtain hj2:j - k=n:=by omega
   rw [hj2];have hyp:=hy.hi;rw [hyl] at hyp;have hs:=val_take left n (by omega);rw [<-hl,List.take_length] at hs;have h1:=(D.take n).lo;have h2:=D.all n;have hpn:=pw_pos n;rcases Int.lt_or_le (iat left n) 1 with h7|h7
   ·omega
   ·have:pw n*1<=pw n*iat left n:=Int.mul_le_mul_of_nonneg_left h7 (by omega);omega
  ·rw [iat_drop];exact h.zero _ (by omega)
 ·rw [hvd,val_drop X k hX,val_drop (q.set k Q) k (by rw [List.length_set];exact hk),drop_set _ _ _ _ (by omega),iat_set _ _ _ _ hk,if_pos rfl,hv,hp.2.2.2.2.1,h.sum,h.same k (by omega)]
  grind
def DivQ (x y q r:List Int):Prop:=Dg q/\Dg r/\val x=val y*val q+val r/\val r<val y
theorem LongA.done {x y X Y R q rr:List Int}{n:Nat}{f rm:Int}(h:LongA X Y n 0 R q)(hf:0<f)(hX:val X=val x*f)(hY:val Y=val y*f)(hrr:Dg rr)(hs:val (R.take n)=f*val rr+rm)(h0:0<=rm)(h1:rm<f):DivQ x y q rr:=by
 have hsum:=h.sum;have hlt:=h.lt;rw [List.drop_zero,List.drop_zero,List.drop_zero] at hsum;rw [List.drop_zero] at hlt
 have hR:val R=val (R.take n):=by
  have:=val_split R n (by rw [h.lenR,<-h.lenq];omega);rw [val_drop_zero (l:=R) (k:=n) (fun j hj=>h.zero j (by omega))] at this;omega
 rw [hR,hs] at hsum hlt;rw [hX,hY] at hsum;rw [hY] at hlt;have e:f*(val x - val y*val q - val rr)=rm:=by grind
 have hz:val x - val y*val q - val rr=0:=by
  generalize val x - val y*val q - val rr=d at e;rcases Int.lt_trichotomy d 0 with D|D|D
  ·have:f*d<=f*(-1):=Int.mul_le_mul_of_nonneg_left (by omega) (by omega);omega
  ·exact D
  ·have:f*1<=f*d:=Int.mul_le_mul_of_nonneg_left (by omega) (by omega);omega
 refine⟨h.dgq,hrr,by omega,?_⟩;have:f*val rr<f*val y:=by rw [Int.mul_comm f (val y)];omega
 exact Int.lt_of_mul_lt_mul_left this (by omega)
theorem factor_bd {t:Int}(h1:1<=t)(h2:t<1000000000):1<=1000000000 / (t+1)/\1000000000 / (t+1)<=500000000/\(t+1)*(1000000000 / (t+1))<=1000000000:=by
 have h3:(t+1)*(1000000000 / (t+1))<=1000000000:=Int.mul_ediv_self_le (by omega);refine⟨(Int.le_ediv_iff_mul_le (by omega)).2 (by omega),?_,h3⟩
 have:1000000000 / (t+1)<=1000000000 / 2:=by
  apply (Int.le_ediv_iff_mul_le (by omega)).2;have h5:0<=1000000000 / (t+1):=Int.ediv_nonneg (by omega) (by omega);have h6:2*(1000000000 / (t+1))<=(t+1)*(1000000000 / (t+1)):=Int.mul_le_mul_of_nonneg_right (by omega) h5;omega
 omega
theorem top_val {y:List Int}{n:Nat}(hy:Dg y)(hl:y.length=n+1):val y=val (y.take n)+pw n*iat y n/\0<=val (y.take n)/\val (y.take n)<pw n:=by
 have h:=val_take y n (by omega);rw [<-hl,List.take_length] at h;have h2:=(hy.take n).hi;rw [List.length_take,Nat.min_eq_left (by omega)] at h2;exact⟨h,(hy.take n).lo,h2⟩
theorem factor_len {y:List Int}{n:Nat}{f:Int}(hy:Dg y)(hl:y.length=n+1)(h1:1<=iat y n)(hf:1<=f)(hf2:(iat y n+1)*f<=1000000000):(digs (val y*f).toNat).length=n+1/\pw n<=val y:=by
 obtain⟨e,h2,h3⟩:=top_val hy hl;have hp:=pw_pos n
 have hlo:pw n<=val y:=by
  have:pw n*1<=pw n*iat y n:=Int.mul_le_mul_of_nonneg_left h1 (by omega);omega
 have hup:val y*f<pw (n+1):=by
  have h4:val y<=pw n*(iat y n+1) - 1:=by
   have:pw n*(iat y n+1)=pw n*iat y n+pw n:=by grind
   omega
  have h5:val y*f<=(pw n*(iat y n+1) - 1)*f:=Int.mul_le_mul_of_nonneg_right h4 (by omega);have h6:pw n*((iat y n+1)*f)<=pw n*1000000000:=Int.mul_le_mul_of_nonneg_left hf2 (by omega);have e2:(pw n*(iat y n+1) - 1)*f=pw n*((iat y n+1)*f) - f:=by grind
  show _<1000000000*pw n;omega
 have hge:val y<=val y*f:=by
  have:val y*1<=val y*f:=Int.mul_le_mul_of_nonneg_left hf (by omega);omega
 refine⟨Nat.le_antisymm (digs_len_le (by omega)) ?_,hlo⟩;rcases Nat.lt_or_ge (digs (val y*f).toNat).length (n+1)with h7|h7
 ·have h8:=lt_pw (val y*f).toNat;have h9:=pw_mono (show(digs (val y*f).toNat).length<=n by omega);omega
 ·exact h7
theorem long_top {x y X:List Int}{n L:Nat}{f:Int}(hx:Dg x)(hX:Dg X)(hXl:L+(n+1)=X.length)(hxl:x.length=L+n)(hv:val X=val x*f)(hf:1<=f)(hy:pw n<=val y):val (X.drop L)<val y*f:=by
 have hs:=val_split X L (by omega);have h1:=(hX.take L).lo;have h2:=hx.hi;rw [hxl,pw_add] at h2;have hp:=pw_pos L
 have h3:pw L*val (X.drop L)<pw L*(val y*f):=by
  have h4:val x*f<pw L*pw n*f:=Int.mul_lt_mul_of_pos_right h2 (by omega);have h5:pw L*(pw n*f)<=pw L*(val y*f):=Int.mul_le_mul_of_nonneg_left (Int.mul_le_mul_of_nonneg_right hy (by omega)) (by omega);have e:pw L*pw n*f=pw L*(pw n*f):=Int.mul_assoc _ _ _;omega
 exact Int.lt_of_mul_lt_mul_left h3 (by omega)
open Go.RowKit
def AtMostP (w:World)(x y:List Int)(e:Ending)(w':World):Prop:=
 ∃g:Nat,e= .returned (.int .i64 (g:Int))/\g<1000000000/\(∀Q:Int,0<=Q->Q*val y<=val x->Q<=g)/\Below w.heap.size w w'
theorem head_bd {x y:List Int}{m:Nat}(hx:Dg x)(hy:Dg y)(hm:y.length=m+2)(hxl:x.length=m+3)(hlt:val x<1000000000*val y):
 iat x (m+2)*1000000000+iat x (m+1)<1000000000*(iat y (m+1)+1):=by
 have h1:=val_split x (m+1) (by omega);have h2:=(hx.take (m+1)).lo;have d3:val (x.drop (m+3))=0:=by rw [<-hxl,List.drop_length];rfl
 rw [val_drop x (m+1) (by omega),val_drop x (m+2) (by omega),d3] at h1;obtain⟨h3,h4,h5⟩:=top_val (n:=m+1) hy hm;have hp:=pw_pos (m+1)
 have h6:pw (m+1)*(iat x (m+2)*1000000000+iat x (m+1))<pw (m+1)*(1000000000*(iat y (m+1)+1)):=by
  have e1:pw (m+1)*(iat x (m+1)+1000000000*(iat x (m+2)+1000000000*0))=pw (m+1)*(iat x (m+2)*1000000000+iat x (m+1)):=by grind
  have e2:pw (m+1)*(1000000000*(iat y (m+1)+1))=1000000000*(pw (m+1)*iat y (m+1))+1000000000*pw (m+1):=by grind
  omega
 exact Int.lt_of_mul_lt_mul_left h6 (by omega)
def Gss (x y:List Int)(H y1:Int)(g:Nat):Prop:=g<1000000000/\(∀Q:Int,0<=Q->Q*val y<=val x->Q<=g)/\0<=H - g*y1/\H - g*y1<2000000000
theorem gss_start {x y:List Int}{H y1:Int}(hH:0<=H)(h1:1<=y1)(h2:y1<1000000000)(hb:H<1000000000*(y1+1))(hql:∀Q:Int,0<=Q->Q*val y<=val x->Q*y1<=H)(hqB:∀Q:Int,0<=Q->Q*val y<=val x->Q<1000000000):
 0<=H / y1/\(H / y1<=999999999->Gss x y H y1 (H / y1).toNat)/\(999999999<H / y1->Gss x y H y1 999999999):=by
 have hdv:0<=H / y1:=Int.ediv_nonneg hH (by omega);have hmd:=Int.mul_ediv_add_emod H y1;have hmr:=Int.emod_lt_of_pos H (show 0<y1 by omega);have hmr0:=Int.emod_nonneg H (show y1≠0 by omega);refine⟨hdv,fun h3=>⟨by omega,fun Q h4 h5=>?_,?_,?_⟩,fun h3=>⟨by omega,fun Q h4 h5=>?_,?_,?_⟩⟩
 ·have:=quot_div (show 0<y1 by omega) (hql Q h4 h5);omega
 ·rw [Int.toNat_of_nonneg hdv,Int.mul_comm (H / y1)];omega
 ·rw [Int.toNat_of_nonneg hdv,Int.mul_comm (H / y1)];omega
 ·have:=hqB Q h4 h5;omega
 ·have h6:1000000000*y1<=H:=(Int.le_ediv_iff_mul_le (by omega)).1 (by omega);show 0<=_ - 999999999*y1;omega
 ·show _ - 999999999*y1<_;omega
theorem Gss.less {x y:List Int}{H y1 y0 x0:Int}{g:Nat}(h:Gss x y H y1 (g+1))(h1:1<=y1)(h2:y1<1000000000)(hy0:0<=y0)(hy1:y0<1000000000)(hx0:0<=x0)(hql:∀Q:Int,0<=Q->Q*val y<=val x->Q*(y0+1000000000*y1)<=x0+1000000000*H)
 (hlt:(H - ((g:Int)+1)*y1)*1000000000+x0<((g:Int)+1)*y0):Gss x y H y1 g:=by
 obtain⟨h3,h4,h5,h6⟩:=h;have e:((g+1:Nat):Int)=(g:Int)+1:=by omega
 rw [e] at h5 h6;have h7:((g:Int)+1)*y0<=1000000000*y0:=Int.mul_le_mul_of_nonneg_right (by omega) hy0;have h8:((g:Int)+1)*y1=(g:Int)*y1+y1:=by grind
 refine⟨by omega,fun Q h9 h10=>?_,by omega,by omega⟩;have:=guess_less (by omega) (hql Q h9 h10) hlt;omega
theorem Gss.zero {x y:List Int}{H y1 y0 x0:Int}(h:Gss x y H y1 0)(hx0:0<=x0):¬(H - ((0:Nat):Int)*y1)*1000000000+x0<((0:Nat):Int)*y0:=by
 obtain⟨h3,h4,h5,h6⟩:=h;simp at h5 ⊢;omega
theorem Gss.bd {x y:List Int}{H y1 y0:Int}{g:Nat}(h:Gss x y H y1 g)(h1:1<=y1)(h2:y1<1000000000)(hy0:0<=y0)(hy1:y0<1000000000):
 0<=(g:Int)*y1/\(g:Int)*y1<=1000000000000000000/\0<=(g:Int)*y0/\(g:Int)*y0<=1000000000000000000:=by
 have h3:=h.1;have e1:(g:Int)*y1<=1000000000*y1:=Int.mul_le_mul_of_nonneg_right (by omega) (by omega);have e2:(g:Int)*y0<=1000000000*y0:=Int.mul_le_mul_of_nonneg_right (by omega) (by omega);have e3:0<=(g:Int)*y1:=Int.mul_nonneg (by omega) (by omega);have e4:0<=(g:Int)*y0:=Int.mul_nonneg (by omega) (by omega);omega
theorem atMost_any (a1 a2:Option Addr)(c1 c2 m:Nat)(x y:List Int)(w:World)(hR1:Rdi w a1 x)(hR2:Rdi w a2 y)(hn2:y.length=m+2)(hn1:x.length=m+3)(hd1:Dg x)(hd2:Dg y)(hm:m<=1099511627776)(htop:1<=iat y (m+1))(hlt0:val x<1000000000*val y):
 Calls Tryz.prog 158 #[.slice a1 (m+3) c1,.slice a2 (m+2) c2] w (AtMostP w x y):=by
 obtain⟨b1,o1,rfl,hx2⟩:=Rdi_at hR1 (m+2) (by omega);obtain⟨b1',o1',h1',hx1⟩:=Rdi_at hR1 (m+1) (by omega);obtain⟨b1'',o1'',h1'',hx0⟩:=Rdi_at hR1 m (by omega);cases h1';cases h1'';obtain⟨b2,o2,rfl,hy1⟩:=Rdi_at hR2 (m+1) (by omega);obtain⟨b2',o2',h2',hy0⟩:=Rdi_at hR2 m (by omega);cases h2';have hhb:=head_bd hd1 hd2 hn2 hn1 hlt0;have hql:Hid (∀Q:Int,0<=Q->Q*val y<=val x->Q*iat y (m+1)<=iat x (m+2)*1000000000+iat x (m+1)/\Q*(iat y m+1000000000*iat y (m+1))<=iat x m+1000000000*(iat x (m+2)*1000000000+iat x (m+1))):=hIq fun Q h0 h1=>quot_le hd1 hd2 hn2 hn1 h0 h1
 have hqB:∀Q:Int,0<=Q->Q*val y<=val x->Q<1000000000:=fun Q h0 h1=>quot_lt (by
  obtain⟨h3,h4,h5⟩:=top_val (n:=m+1) hd2 hn2;have hp:=pw_pos (m+1);have:pw (m+1)*1<=pw (m+1)*iat y (m+1):=Int.mul_le_mul_of_nonneg_left htop (by omega)
  omega) h1 hlt0
 have bx2:=hd1.all (m+2);have bx1:=hd1.all (m+1);have bx0:=hd1.all m;have by1:=hd2.all (m+1);have by0:=hd2.all m;have hgs:=gss_start (x:=x) (y:=y) (H:=iat x (m+2)*1000000000+iat x (m+1)) (by omega) htop by1.2 hhb (fun Q h3 h4=>(hql.out Q h3 h4).1) hqB;clear hR1 hR2 hn1 hn2 hd1 hd2 hlt0 hqB;generalize iat x (m+2)=X2 at*
 generalize iat x (m+1)=X1 at*
 generalize iat x m=X0 at*
 generalize iat y (m+1)=Y1 at*
 generalize iat y m=Y0 at*
 obtain⟨bx20,bx21⟩:=bx2;obtain⟨bx10,bx11⟩:=bx1;obtain⟨bx00,bx01⟩:=bx0;obtain⟨by10,by11⟩:=by1;obtain⟨by00,by01⟩:=by0;have e0:((m+2:Nat):Int)=(m:Int)+2:=by omega
 have e3:((m+3:Nat):Int)=(m:Int)+3:=by omega
 have em:0<=(m:Int):=by omega
 have em2:(m:Int)<=1099511627776:=by omega
 have y1z:(Y1==0)=false:=by simp;omega
 have w1:IntKind.i64.wrap (X2*1000000000)=X2*1000000000:=IntWalk.i64_in _ (by omega);have w2:IntKind.i64.wrap (X2*1000000000+X1)=X2*1000000000+X1:=IntWalk.i64_in _ (by omega);have w3:IntKind.i64.wrap ((m:Int)+2 - 1)=(m:Int)+2 - 1:=IntWalk.i64_in _ (by omega);have w4:IntKind.i64.wrap ((m:Int)+2 - 2)=(m:Int)+2 - 2:=IntWalk.i64_in _ (by omega);obtain⟨hg0,hg1,hg2⟩:=hgs;by_cases hq:(X2*1000000000+X1) / Y1<=999999999
 case pos|neg=>
  first
  |(have hg3:Hid (∃g:Nat,(X2*1000000000+X1) / Y1=(g:Int)/\Gss x y (X2*1000000000+X1) Y1 g):=hIq ⟨_,(Int.toNat_of_nonneg hg0).symm,hg1 hq⟩)
  |(have hg3:Hid (∃g:Nat,(999999999:Int)=(g:Int)/\Gss x y (X2*1000000000+X1) Y1 g):=hIq ⟨999999999,rfl,hg2 (by omega)⟩)
  clear hg1 hg2
  go_enter Tryz.func158,Tryz.ntmps158
  go_wp2_with fail
  go_quiet (fail)
  go_wp2_with fail
  obtain⟨g0,hge,hgg0⟩:=hg3.out;have hgg:=hIq hgg0;clear hg3 hgg0;rw [hge];clear hge hq hg0;have hB0:=hIq (below_drewN (Below.refl w.heap.size w) nq);have c2:=hx2;have c1:=hx1;have c0:=hx0;have d1:=hy1;have d0:=hy0;obtain⟨H,hH⟩:∃H,X2*1000000000+X1=H:=⟨_,rfl⟩;have hH0:0<=H/\H<1000000000000000000:=by omega
  rw [hH] at hgg hql ⊢;clear w1 w2 hH hhb
  go_loopw [7] (fun v wr=>∃g:Nat,v= .int .i64 (g:Int)/\Hid (Gss x y H Y1 g)/\Below w.heap.size w wr) (fun v _=>(intOf v).toNat)
  case atStart=>exact⟨_,rfl,hgg,hB0.out⟩
  case round=>
   obtain⟨g,rfl,hg,hB⟩:=hrel;have k2:=Below.cell_of' hB hx2;have k1:=Below.cell_of' hB hx1;have k0:=Below.cell_of' hB hx0;have l1:=Below.cell_of' hB hy1;have l0:=Below.cell_of' hB hy0;have hB':=hIq hB;have hbd:=hg.out.bd htop by11 by00 by01;have hgb:=hg.out.1;have h5:=hg.out.2.2.1;have h6:=hg.out.2.2.2;clear hB c2 c1 c0 d1 d0 hgg hB0;by_cases ht:(H - (g:Int)*Y1)*1000000000+X0<(g:Int)*Y0
   ·have hgs2:Hid (∃k:Nat,g=k+1/\Gss x y H Y1 k):=hIq (by
     cases g with
     |zero=>exact absurd ht (hg.out.zero bx00)
     |succ k=>exact⟨k,rfl,hg.out.less htop by11 by00 by01 bx00 (fun Q h3 h4=>(hql.out Q h3 h4).2) (by simpa using ht)⟩)
    have w1:IntKind.i64.wrap ((g:Int)*Y0)=(g:Int)*Y0:=IntWalk.i64_in _ (by omega);have w2:IntKind.i64.wrap ((g:Int)*Y1)=(g:Int)*Y1:=IntWalk.i64_in _ (by omega);have w5:IntKind.i64.wrap (H - (g:Int)*Y1)=H - (g:Int)*Y1:=IntWalk.i64_in _ (by omega);have w6:IntKind.i64.wrap ((H - (g:Int)*Y1)*1000000000)=(H - (g:Int)*Y1)*1000000000:=IntWalk.i64_in _ (by omega);have w7:IntKind.i64.wrap ((H - (g:Int)*Y1)*1000000000+X0)=(H - (g:Int)*Y1)*1000000000+X0:=IntWalk.i64_in _ (by omega);have hg1:1<=(g:Int):=by obtain⟨k,hk,_⟩:=hgs2.out;omega
    go_wp2_with fail
    go_quiet (fail)
    go_wp2_with fail
    obtain⟨k,hk,hkk⟩:=hgs2.out;subst hk;exact⟨⟨k,by simp,hIq hkk,below_drewN hB'.out _⟩,by simp [intOf]⟩
   ·have w1:IntKind.i64.wrap ((g:Int)*Y0)=(g:Int)*Y0:=IntWalk.i64_in _ (by omega);have w2:IntKind.i64.wrap ((g:Int)*Y1)=(g:Int)*Y1:=IntWalk.i64_in _ (by omega);have w5:IntKind.i64.wrap (H - (g:Int)*Y1)=H - (g:Int)*Y1:=IntWalk.i64_in _ (by omega);have w6:IntKind.i64.wrap ((H - (g:Int)*Y1)*1000000000)=(H - (g:Int)*Y1)*1000000000:=IntWalk.i64_in _ (by omega);have w7:IntKind.i64.wrap ((H - (g:Int)*Y1)*1000000000+X0)=(H - (g:Int)*Y1)*1000000000+X0:=IntWalk.i64_in _ (by omega);go_wp2_with fail
    go_quiet (fail)
    go_wp2_with fail
    go_ret
    exact⟨g,rfl,hg.out.1,hg.out.2.1,below_drewN hB'.out _⟩
structure Only (g:Nat)(w w':World):Prop where
 os:w'.os=w.os
 tape:w'.tape=w.tape
 output:w'.output=w.output
 size:w.heap.size<=w'.heap.size
 block:∀k,k<w.heap.size->k≠g->w'.heap[k]? =w.heap[k]?
section
variable {g:Nat}{w w' w2:World}
theorem Only.refl (g:Nat)(w:World):Only g w w:=⟨rfl,rfl,rfl,Nat.le_refl _,fun _ _ _=>rfl⟩
theorem Only.setCell (h:Only g w w')(i:Nat)(v:Value):Only g w (w'.setCell ⟨g,i,none⟩ v):=
 ⟨h.os,h.tape,h.output,Nat.le_trans h.size (Below.setCell (Below.refl 0 w') (Nat.zero_le _) v (p:=⟨g,i,none⟩)).size,fun k hk hg=>(Below.heap_setCell _ _ _ _ hg).trans (h.block k hk hg)⟩
theorem Only.below {B:Nat}{w0:World}(h:Only g w w')(hb:Below B w0 w)(hB:B<=g)(hs:B<=w.heap.size):Below B w0 w':=
 ⟨h.os.trans hb.os,h.tape.trans hb.tape,h.output.trans hb.output,Nat.le_trans hb.size h.size,fun k hk=>(h.block k (by omega) (by omega)).trans (hb.block k hk)⟩
theorem Only.blk {k:Nat}{l:List Int}(h:Only g w w')(hk:k≠g)(hB:Blk w k l):Blk w' k l:=(h.block k hB.lt hk).trans hB
theorem Only.cell (h:Only g w w'){p:Addr}{v:Value}(hp:p.block≠g)(hc:w.cell? p=some v):w'.cell? p=some v:=
 (World.cell?_of_block (w:=w) (h.block p.block (World.block_lt_of_cell? w p hc) hp)).trans hc
end
def RdN (g:Nat)(w:World)(a:Option Addr)(l:List Int):Prop:=Rdi w a l/\∀q,a=some q->q.block≠g
theorem RdN_at {g:Nat}{w wr:World}{a:Option Addr}{l:List Int}(h:RdN g w a l)(ho:Only g w wr)(k:Nat)(hk:k<l.length):∃b off,a=some ⟨b,off,none⟩/\wr.cell? ⟨b,off+k,none⟩=some (.int .i64 (iat l k)):=by
 obtain⟨b,off,rfl,hc⟩:=Rdi_at h.1 k hk;have hb:=h.2 ⟨b,off,none⟩ rfl;exact⟨b,off,rfl,ho.cell (p:=⟨b,off+k,none⟩) hb hc⟩
def SubP (w:World)(g:Nat)(x y:List Int)(n:Int)(e:Ending)(w':World):Prop:=
 ∃Z b,e= .returned (.bool b)/\Blk w' g Z/\Z.length=y.length+1/\Only g w w'/\(b=true->0<=val x - n*val y/\Dg Z/\val Z=val x - n*val y)/\(b=false->val x - n*val y<0)
def SubL (w:World)(g:Nat)(x y:List Int)(n:Int)(k:Nat)(over:Int)(wr:World):Prop:=∃z,SubA x y n k over z/\Blk wr g z/\Only g w wr
theorem subtract_any (g:Nat)(Z:List Int)(a1 a2:Option Addr)(c0 c1 c2 m:Nat)(x y:List Int)(n:Int)(w:World)(hZ:Blk w g Z)(hZl:Z.length=m+1)(hR1:RdN g w a1 x)(hR2:RdN g w a2 y)(hn2:y.length=m)(hn1:x.length=m+1)(hd1:Dg x)(hd2:Dg y)(hm:m<=1099511627776)(hn0:0<=n)(hnB:n<1000000000):
 Calls Tryz.prog 159 #[.slice (some ⟨g,0,none⟩) (m+1) c0,.slice a1 (m+1) c1,.slice a2 m c2,.int .i64 n] w (SubP w g x y n):=by
 have H1:=hIq hR1;have H2:=hIq hR2;have N1:=hIq hn1;have N2:=hIq hn2;have D1:=hIq hd1;have D2:=hIq hd2;have hI:Hid (SubL w g x y n 0 0 w):=hIq ⟨Z,SubA.start x y n Z (by rw [hZl,hn2]),hZ,Only.refl _ _⟩;clear hR1 hR2 hn1 hn2 hd1 hd2 hZ hZl
 go_enter Tryz.func159,Tryz.ntmps159
 go_wp2_with fail
 go_loopw [9,15] (fun ov i wr=>∃(k:Nat) (over:Int),k<=m/\i= .int .i64 (k:Int)/\ov= .int .i64 over/\SubL w g x y n k over wr) (fun _ i _=>m - (intOf i).toNat)
 case atStart=>exact⟨0,0,Nat.zero_le _,rfl,rfl,hI.out⟩
 case round=>
  obtain⟨k,over,hk,rfl,rfl,hL⟩:=hrel;clear hI;by_cases hlt:k<m
  ·obtain⟨z,hA,hz,hO⟩:=hL;obtain⟨b1,o1,hp1,cx⟩:=RdN_at H1.out hO k (by rw [N1.out];omega);obtain⟨b2,o2,hp2,cy⟩:=RdN_at H2.out hO k (by rw [N2.out];exact hlt);subst hp1 hp2;have hkz:k<z.length:=by rw [hA.len,N2.out];omega
   have cz:=hz.cell hkz;have cf:=hz.free k
   have hst:Hid (SubL w g x y n (k+1) (1000000000 - (1000000000000000000+iat x k - n*iat y k - over) / 1000000000) (wr.setCell ⟨g,k,none⟩ (.int .i64 ((1000000000000000000+iat x k - n*iat y k - over) % 1000000000)))):=
    hIq ⟨_,hA.next D1.out D2.out (by rw [N2.out];exact hlt) (by rw [N1.out];omega) hn0 hnB,hz.set _ _,hO.setCell _ _⟩
   have bx:=D1.out.all k;have by_:=D2.out.all k;have ho0:=hA.lo;have ho1:=hA.hi;have hdg:=sub_digit hn0 hnB by_.1 by_.2 bx.1 bx.2 ho0 ho1;generalize iat x k=X at cx hst bx hdg;generalize iat y k=Y at cy hst by_ hdg;generalize iat z k=V at cz;obtain⟨bx0,bx1⟩:=bx;obtain⟨hd0,hd1,hd2,hd3⟩:=hdg;have k0:0<=(k:Int):=by omega
   have k1:(k:Int)<(m:Int):=by omega
   have k2:(k:Int)<(m:Int)+1:=by omega
   have q0:0<=(1000000000000000000+X - n*Y - over) / 1000000000:=Int.ediv_nonneg hd2 (by omega);have q1:(1000000000000000000+X - n*Y - over) / 1000000000<=1000000001:=by omega
   have q2:0<=(1000000000000000000+X - n*Y - over) % 1000000000:=by omega
   have q3:(1000000000000000000+X - n*Y - over) % 1000000000<1000000000:=by omega
   clear hA hz hO by_ hkz hlt;go_wp2_with fail
   exact⟨⟨k+1,_,by omega,by simp,rfl,hst.out⟩,by simp [intOf];omega⟩
  ·have hk':k=m:=by omega
   subst hk';obtain⟨z,hA,hz,hO⟩:=hL;obtain⟨b1,o1,hp1,cx⟩:=RdN_at H1.out hO k (by rw [N1.out];omega);subst hp1;have hkz:k<z.length:=by rw [hA.len,N2.out];omega
   have cz:=hz.cell hkz;have cf:=hz.free k;have hz2:=hz.set k (iat x k - over);have cz2:=hz2.cell (i:=k) (by rw [List.length_set];exact hkz);rw [iat_set _ _ _ _ hkz,if_pos rfl] at cz2;have ho0:=hA.lo;have ho1:=hA.hi;have bx:=D1.out.all k;have hdn:=hA;rw [show k=y.length from N2.out.symm] at hdn;have hdone:=hdn.done (by rw [N1.out,N2.out]);rw [N2.out] at hdone;have hZl:Hid ((z.set k (iat x k - over)).length=y.length+1):=hIq (by rw [List.length_set];exact hA.len);have hO2:=hIq (hO.setCell k (.int .i64 (iat x k - over)));have hz2':=hIq hz2;have hdone':=hIq hdone;clear hA hz hO hdn hdone hz2 hkz hlt;generalize z.set k (iat x k - over)=Z2 at hdone' hz2' hZl;generalize iat x k=X at*
   generalize iat z k=V at cz;obtain⟨bx0,bx1⟩:=bx;have k0:0<=(k:Int):=by omega
   have k2:(k:Int)<(k:Int)+1:=by omega
   go_wp2_with fail
   go_ret
   refine⟨Z2,decide (over<=X),rfl,hz2'.out,hZl.out,hO2.out,fun h=>?_,fun h=>?_⟩
   ·have hs:=of_decide_eq_true h;have h3:=hdone'.out.2.2 (by omega) bx1;have h4:=h3.lo;rw [hdone'.out.1] at h4;exact⟨h4,h3,hdone'.out.1⟩
   ·have hs:=of_decide_eq_false h;exact hdone'.out.2.1 (by omega)
theorem copy_run (g off dLen dCap sLen sCap b so:Nat)(l ls:List Int)(w:World)(hg:Blk w g l)(hn:ls.length=Nat.min sLen dLen)
 (hsrc:∀i,i<ls.length->w.cell? ⟨b,so+i,none⟩=some (.int .i64 (iat ls i))) (hfit:off+ls.length<=l.length):
 ∃w',(Builtin.copy_ #[22,22] 3 #[.slice (some ⟨g,off,none⟩) dLen dCap,.slice (some ⟨b,so,none⟩) sLen sCap]).run Tryz.prog w= .ok (.int .i64 (ls.length:Int)) w'/\Blk w' g (l.take off++ls++l.drop (off+ls.length))/\Only g w w':=by
 have h:=run_copy_row (P:=Tryz.prog) w 22 22 3 3 g off dLen dCap ⟨b,so,none⟩ sLen sCap (zvs l).toArray 3 (zvs ls) Tryz.underlying22 size_i64 hg (by rw [zvs_length];exact hn) (Rdi_news hsrc) (by simp [zvs_length];exact hfit) (zvs_one _);rw [zvs_length] at h;refine⟨_,h,?_,rfl,rfl,rfl,by simp,fun k _ hk=>setRow_other w g k _ hk⟩;have h1:=setRow_heap w g (zvs l).toArray ((zvs l).toArray.toList.take off++zvs ls++(zvs l).toArray.toList.drop (off+ls.length)).toArray 3 (0,0) hg;unfold Blk;rw [h1];simp [zvs,List.map_append,List.map_take,List.map_drop]
structure LDs (w:World)(gr gq gl gy:Nat):Prop where
 r:w.heap.size<=gr
 q:w.heap.size<=gq
 l:w.heap.size<=gl
 y:w.heap.size<=gy
 rq:gr≠gq
 rl:gr≠gl
 ry:gr≠gy
 ql:gq≠gl
 qy:gq≠gy
 ly:gl≠gy
def LongV (w:World)(gr gq gl gy n:Nat)(Y R q:List Int)(wr:World):Prop:=
 ∃left yl,Blk wr gr R/\Blk wr gq q/\Blk wr gl left/\left.length=n+1/\Blk wr gy yl/\yl.take n=Y/\Below w.heap.size w wr
def LongW (w:World)(gr gq gl gy n:Nat)(X Y:List Int)(k:Nat)(wr:World):Prop:=
 ∃R q,LongA X Y n k R q/\(∀j,j<k->iat q j=0)/\LongV w gr gq gl gy n Y R q wr
section
variable {w wr w':World}{gr gq gl gy n:Nat}{X Y R q:List Int}
theorem Blk_slice {g:Nat}{l:List Int}(h:Blk w g l)(k n:Nat)(hl:k+n<=l.length):Rdi w (some ⟨g,k,none⟩) ((l.drop k).take n):=by
 refine .inr ⟨g,k,rfl,fun i hi=>?_⟩;rw [List.length_take,List.length_drop] at hi;rw [iat_take,if_pos (by omega),iat_drop];exact h.cell (by omega)
theorem Rdi_blk_take {g:Nat}{l:List Int}(h:Blk w g l)(n:Nat):Rdi w (some ⟨g,0,none⟩) (l.take n):=Rdi_take h.rdi n
theorem LongV.y (h:LongV w gr gq gl gy n Y R q wr)(D:LDs w gr gq gl gy):RdN gl wr (some ⟨gy,0,none⟩) Y:=by
 obtain⟨left,yl,h1,h2,h3,h4,h5,h6,h7⟩:=h;refine⟨?_,fun p hp=>by cases hp;exact fun e=>D.ly e.symm⟩;rw [<-h6];exact Rdi_blk_take h5 n
theorem LongV.x (h:LongV w gr gq gl gy n Y R q wr)(D:LDs w gr gq gl gy)(k:Nat)(hk:k+(n+1)<=R.length):RdN gl wr (some ⟨gr,k,none⟩) ((R.drop k).take (n+1)):=by
 obtain⟨left,yl,h1,h2,h3,h4,h5,h6,h7⟩:=h;exact⟨Blk_slice h1 k (n+1) hk,fun p hp=>by cases hp;exact D.rl⟩
theorem LongV.later (h:LongV w gr gq gl gy n Y R q wr)(hb:Below wr.heap.size wr w'):LongV w gr gq gl gy n Y R q w':=by
 obtain⟨left,yl,h1,h2,h3,h4,h5,h6,h7⟩:=h;exact⟨left,yl,h1.later hb,h2.later hb,h3.later hb,h4,h5.later hb,h6,below_tr h7 hb⟩
theorem LongV.left (h:LongV w gr gq gl gy n Y R q wr)(D:LDs w gr gq gl gy)(ho:Only gl wr w'){Z:List Int}(hZ:Blk w' gl Z)(hl:Z.length=n+1):LongV w gr gq gl gy n Y R q w':=by
 obtain⟨left,yl,h1,h2,h3,h4,h5,h6,h7⟩:=h;exact⟨Z,yl,ho.blk D.rl h1,ho.blk D.ql h2,hZ,hl,ho.blk (fun e=>D.ly e.symm) h5,h6,ho.below h7 D.l h7.size⟩
theorem LongV.row (h:LongV w gr gq gl gy n Y R q wr)(D:LDs w gr gq gl gy)(ho:Only gr wr w'){R':List Int}(hR:Blk w' gr R'):LongV w gr gq gl gy n Y R' q w':=by
 obtain⟨left,yl,h1,h2,h3,h4,h5,h6,h7⟩:=h;exact⟨left,yl,hR,ho.blk (fun e=>D.rq e.symm) h2,ho.blk (fun e=>D.rl e.symm) h3,h4,ho.blk (fun e=>D.ry e.symm) h5,h6,ho.below h7 D.r h7.size⟩
theorem LongV.quot (h:LongV w gr gq gl gy n Y R q wr)(D:LDs w gr gq gl gy)(k:Nat)(v:Int):LongV w gr gq gl gy n Y R (q.set k v) (wr.setCell ⟨gq,k,none⟩ (.int .i64 v)):=by
 obtain⟨left,yl,h1,h2,h3,h4,h5,h6,h7⟩:=h;exact⟨left,yl,h1.other D.rq,h2.set k v,h3.other (fun e=>D.ql e.symm),h4,h5.other (fun e=>D.qy e.symm),h6,h7.setCell D.q _⟩
end
def LongP (w:World)(x y:List Int)(e:Ending)(w':World):Prop:=
 ∃g h n m q r,e= .returned (.tuple #[.slice (some ⟨g,0,none⟩) n n,.slice (some ⟨h,0,none⟩) m m])/\w.heap.size<=g/\w.heap.size<=h/\g≠h/\Blk w' g q/\Blk w' h r/\Below w.heap.size w w'/\q.length=n/\r.length=m/\n<=x.length/\m<=x.length/\m=y.length/\DivQ x y q r
def LongC (w:World)(L m:Nat)(s9 s10:Value)(wx:World):Prop:=
 ∃gq gl,s9= .slice (some ⟨gq,0,none⟩) L L/\s10= .slice (some ⟨gl,0,none⟩) (m+3) (m+3)/\w.heap.size<=gq/\w.heap.size<=gl/\gq≠gl/\Blk wx gq (List.replicate L 0)/\Blk wx gl (List.replicate (m+3) 0)/\Below w.heap.size w wx
theorem longC1 (w:World)(L m:Nat):LongC w L m (.slice (some ⟨w.heap.size,0,none⟩) L L) (.slice (some ⟨w.heap.size+1,0,none⟩) (m+3) (m+3)) ((w.alloc (.cells (zvs (List.replicate L 0)).toArray 3)).alloc (.cells (zvs (List.replicate (m+3) 0)).toArray 3)).drew:=
 ⟨_,_,rfl,rfl,Nat.le_refl _,by omega,by omega,((Blk_new w _).later (below_new _ _)).drewN 1,heap_alloc2_new _ _ _,below_drewN (below_tr (below_new _ _) (below_new _ _)) 1⟩
theorem longC2 (w:World)(L m:Nat):LongC w L m (.slice (some ⟨w.heap.size+1,0,none⟩) L L) (.slice (some ⟨w.heap.size,0,none⟩) (m+3) (m+3)) ((w.alloc (.cells (zvs (List.replicate (m+3) 0)).toArray 3)).alloc (.cells (zvs (List.replicate L 0)).toArray 3)).drew:=
 ⟨_,_,rfl,rfl,by omega,Nat.le_refl _,by omega,heap_alloc2_new _ _ _,((Blk_new w _).later (below_new _ _)).drewN 1,below_drewN (below_tr (below_new _ _) (below_new _ _)) 1⟩
theorem longDivided_any (a1 a2:Option Addr)(c1 c2 m L:Nat)(x y:List Int)(w:World)(hR1:Rdi w a1 x)(hR2:Rdi w a2 y)(hn2:y.length=m+2)(hn1:x.length=L+(m+1))(hL:0<L)(hd1:Dg x)(hd2:Dg y)(hm:L+(m+1)<=549755813887)(htop:1<=iat y (m+1)):
 Calls Tryz.prog 157 #[.slice a1 (L+(m+1)) c1,.slice a2 (m+2) c2] w (LongP w x y):=by
 obtain⟨b2,o2,rfl,hy1⟩:=Rdi_at hR2 (m+1) (by omega);have by1:=hd2.all (m+1);obtain⟨T,hT⟩:∃T,iat y (m+1)=T:=⟨_,rfl⟩;rw [hT] at hy1 by1 htop;have hfb:=factor_bd htop by1.2;obtain⟨F,hF⟩:∃F,1000000000 / (T+1)=F:=⟨_,rfl⟩;rw [hF] at hfb;have hfl:=factor_len (n:=m+1) hd2 hn2 (by rw [hT];exact htop) hfb.1 (by rw [hT];exact hfb.2.2);have H1:=hIq hR1;have H2:=hIq hR2;have N1:=hIq hn1;have N2:=hIq hn2;have D1:=hIq hd1;have D2:=hIq hd2;have hFL:=hIq hfl;have hFB:=hIq hfb;have hTT:=hIq hT;have hF':=hIq hF;have hd1F:Hid (Dg [F]/\val [F]=F):=hIq ⟨Dg_cons (by omega) (by omega) Dg_nil,by simp [val]⟩;obtain⟨by10,by11⟩:=by1;obtain⟨hf0,hf1,-⟩:=hfb;clear hR1 hR2 hn1 hn2 hd1 hd2 hfl hT;have e0:((m+2:Nat):Int)=(m:Int)+2:=by omega
 have em:0<=(m:Int):=by omega
 have eL:0<=(L:Int):=by omega
 have em2:(m:Int)+(L:Int)<=1099511627776:=by omega
 have tz:((T+1)==0)=false:=by simp;omega
 have w3:IntKind.i64.wrap ((m:Int)+2 - 1)=(m:Int)+2 - 1:=IntWalk.i64_in _ (by omega);have w4:IntKind.i64.wrap (T+1)=T+1:=IntWalk.i64_in _ (by omega);have w5:IntKind.i64.wrap (Int.tdiv 1000000000 (T+1))=F:=by rw [IntWalk.i64_quo _ _ (by omega)];exact hF
 clear hF
 go_enter Tryz.func157,Tryz.ntmps157
 go_wp2_with fail
 go_step3
 go_wp2_with fail
 go_quiet (fail)
 go_wp2_with fail
 have hb1:Below w.heap.size w ((w.drewN nq).alloc (.cells #[.int .i64 F] 3)):=(below_drewN (Below.refl _ _) nq).alloc (Nat.le_refl _) _;have hBF:Blk ((w.drewN nq).alloc (.cells #[.int .i64 F] 3)) w.heap.size [F]:=Blk_new (w.drewN nq) [F];generalize(w.drewN nq).alloc (.cells #[.int .i64 F] 3)=W1 at hb1 hBF ⊢;refine(product_any _ _ _ _ 1 _ y [F] W1 (Rdi_below hb1 H2.out) hBF.rdi N2.out.symm rfl D2.out hd1F.out.1 (by omega) (by omega)).mono ?_
 rintro e w1 ⟨gy,ny,yl,rfl,hgy,hyB,hb2,hyl,hyP⟩
 obtain rfl:ny=m+3:=by rw [<-hyl,hyP.2.2,N2.out];rfl
 have hYv:val yl=val y*F:=by rw [hyP.2.1,hd1F.out.2]
 have htl:tlen yl=m+2:=by rw [<-tlen_len hyP.1,hYv];exact hFL.out.1
 have htr:=trimmed_any (some ⟨gy,0,none⟩) (m+3) (m+3) yl w1 hyB.rdi hyl.symm (Nat.le_refl _) (by omega);rw [htl] at htr;have htr':=hIq htr;have hB1:Below w.heap.size w w1:=hb1.trans (hb2.mono hb1.size);have hgy':w.heap.size<=gy:=Nat.le_trans hb1.size hgy;have HY:Hid (Dg yl/\yl.length=m+3/\tlen yl=m+2/\val yl=val y*F/\Blk w1 gy yl):=hIq ⟨hyP.1,hyl,htl,hYv,hyB⟩;have HB1:=hIq hB1;clear htr htl hyl hyP hYv hyB hb2 hB1 hb1 hBF;go_wp2_with (go_at_call 137;refine htr'.out.mono ?_;rintro e w' ⟨rfl,rfl⟩)
 have hBF:Blk (w1.alloc (.cells #[.int .i64 F] 3)) w1.heap.size [F]:=Blk_new w1 [F];have hb3:Below w1.heap.size w1 (w1.alloc (.cells #[.int .i64 F] 3)):=below_new _ _;generalize hW2:w1.alloc (.cells #[.int .i64 F] 3)=W2 at hBF hb3 ⊢;refine(product_any _ _ _ _ 1 _ x [F] W2 (Rdi_below (below_tr HB1.out hb3) H1.out) hBF.rdi N1.out.symm rfl D1.out hd1F.out.1 (by omega) (by omega)).mono ?_
 rintro e w3 ⟨gr,nr,X,rfl,hgr,hXB,hb4,hXl,hXP⟩
 obtain rfl:nr=L+(m+1)+1:=by rw [<-hXl,hXP.2.2,N1.out];rfl
 have hXv:val X=val x*F:=by rw [hXP.2.1,hd1F.out.2]
 have hb5:=below_tr hb3 hb4;have HX:Hid (Dg X/\X.length=L+(m+1)+1/\val X=val x*F/\Blk w3 gr X):=hIq ⟨hXP.1,hXl,hXv,hXB⟩;have HY3:Hid (Blk w3 gy yl):=hIq (HY.out.2.2.2.2.later hb5);have HB3:Hid (Below w.heap.size w w3):=hIq (below_tr HB1.out hb5)
 have hgry:gy<gr:=by
  have h1:=HY.out.2.2.2.2.lt;have h2:=hb3.size;omega
 have hgr3:gr<w3.heap.size:=hXB.lt;clear hXl hXP hXv hXB hb4 hb5 hBF hb3 hW2 hgr;go_wp2_with fail
 have q1:(L:Int)+((m:Int)+1) - ((m:Int)+2)+1=(L:Int):=by omega
 have q2:IntKind.i64.wrap ((L:Int)+((m:Int)+1) - ((m:Int)+2))=(L:Int) - 1:=by rw [IntWalk.i64_in _ (by omega)];omega
 have q3:IntKind.i64.wrap ((L:Int) - 1+1)=(L:Int):=by rw [IntWalk.i64_in _ (by omega)];omega
 have q4:IntKind.i64.wrap ((m:Int)+2+1)=(m:Int)+3:=by rw [IntWalk.i64_in _ (by omega)];omega
 have q5:IntKind.i64.wrap (L:Int)=(L:Int):=IntWalk.i64_in _ (by omega);have hmL:=run_make_row' (P:=Tryz.prog) 22 3 (.int .i64 0) 8 Tryz.underlying22 info_i64 rfl .i64 .i64 L (by omega) (by omega);have hmM:=run_make_row' (P:=Tryz.prog) 22 3 (.int .i64 0) 8 Tryz.underlying22 info_i64 rfl .i64 .i64 (m+3) (by omega) (by omega);rw [zvs_zeros] at hmL hmM;rw [show((m+3:Nat):Int)=(m:Int)+3 by omega] at hmM;obtain⟨ZL,hZL⟩:∃Z,zvs (List.replicate L 0)=Z:=⟨_,rfl⟩;obtain⟨ZM,hZM⟩:∃Z,zvs (List.replicate (m+3) 0)=Z:=⟨_,rfl⟩;rw [hZL] at hmL;rw [hZM] at hmM;have hZL':=hIq hZL;have hZM':=hIq hZM;clear hZL hZM
 go_cut [9,10] (fun s9 s10 wx=>LongC w3 L m s9 s10 wx)
 case first=>
  go_region_with (fail)
  all_goals (go_wp2_with fail;go_meet;rw [<-hZL'.out,<-hZM'.out];first|exact longC1 _ _ _|exact longC2 _ _ _)
 case rest=>
  clear q2 q3 q4 q5 hmL hmM hZL' hZM' w4 w5 tz hy1 htr';obtain⟨gq,gl,rfl,rfl,hgq,hgl,hql,hqB,hlB,hb6⟩:=hcut;have hD:LDs w gr gq gl gy:=⟨by omega,Nat.le_trans HB3.out.size hgq,Nat.le_trans HB3.out.size hgl,hgy',by omega,by omega,by omega,hql,by omega,by omega⟩;have hYt:=take_tlen HY.out.1;rw [HY.out.2.2.1] at hYt;obtain⟨Y,hYY⟩:∃Y,yl.take (m+2)=Y:=⟨_,rfl⟩;rw [hYY] at hYt;have hYl:Y.length=m+2:=by rw [hYt,HY.out.2.2.2.1];exact hFL.out.1
  have hYd:Dg Y:=by rw [hYt];exact Dg_digs _
  have hyv:0<=val yl:=HY.out.1.lo;have hYv:val Y=val y*F:=by rw [hYt,val_digs,Int.toNat_of_nonneg hyv];exact HY.out.2.2.2.1
  have hYpos:(val yl).toNat≠0:=by
   intro h0;rw [h0,digs_zero] at hYt;rw [hYt] at hYl;simp at hYl
  have hYtop:1<=iat Y (m+1):=by
   have h1:=digs_top hYpos;rw [<-hYt,hYl] at h1;have h2:=(hYd.all (m+1)).1;have h3:m+2 - 1=m+1:=by omega
   rw [h3] at h1;omega
  have hst:LongA X Y (m+2) L X (List.replicate L 0):=LongA.start HX.out.1 (by rw [HX.out.2.1];omega) (by
   rw [hYv]
   exact long_top (n:=m+1) D1.out HX.out.1 (by rw [HX.out.2.1];omega) (by rw [N1.out]) HX.out.2.2.1 hf0 hFL.out.2)
  have hW0:Hid (LongW w gr gq gl gy (m+2) X Y L wc):=hIq ⟨_,_,hst,fun j _=>iat_zeros _ _,_,yl,HX.out.2.2.2.later hb6,hqB,hlB,by simp,HY3.out.later hb6,hYY,below_tr HB3.out hb6⟩;have HYY:Hid (Dg Y/\Y.length=m+2/\val Y=val y*F/\1<=iat Y (m+1)):=hIq ⟨hYd,hYl,hYv,hYtop⟩;have HD:=hIq hD;clear hst hYpos hYtop hYv hyv hYd hYl hYt hYY hqB hlB hb6 HY HY3 hgq hgl hql hgr3 hgry hD;go_wp2_with fail
  go_step3
  go_wp2_with fail
  go_loopg [45] L (fun k i wr=>∃j:Nat,k+j=L/\i= .int .i64 (j:Int)/\LongW w gr gq gl gy (m+2) X Y k wr)
  case atStart=>exact⟨0,rfl,rfl,hW0.out⟩
  case round=>
   obtain⟨j,hj,rfl,hLW⟩:=hrel;by_cases hlt:j<L
   ·obtain⟨k,rfl⟩:∃k,gk=k+1:=⟨gk - 1,by omega⟩;subst hj;have e0:(((k+1+j:Nat):Int))=(k:Int)+1+(j:Int):=by omega
    have e1:(k:Int)+1+(j:Int) - 1 - (j:Int)=(k:Int):=by omega
    have e2:(j:Int)<(k:Int)+1+(j:Int):=by omega
    have e4:0<=(k:Int):=by omega
    have e5:((k:Int)).toNat=k:=by omega
    obtain⟨R,q,hA,hq0,hV⟩:=hLW;have hqk:q.length=k+1+j:=by have:=hA.lenq;rw [HX.out.2.1] at this;omega
    have hkq:k<q.length:=by omega
    have hRl:R.length=k+1+j+(m+1)+1:=by rw [hA.lenR,HX.out.2.1]
    have hp:=hA.part hkq;obtain⟨P,hP⟩:∃P,(R.drop k).take (m+2+1)=P:=⟨_,rfl⟩;have hPx:=hV.x HD.out k (by omega);rw [hP] at hp hPx
    have hat:Hid (Calls Tryz.prog 158 #[.slice (some ⟨gr,k,none⟩) (m+3) (k+1+j+(m+1)+1 - k),.slice (some ⟨gy,0,none⟩) (m+2) (m+3)] wr (AtMostP wr P Y)):=
     hIq (atMost_any _ _ _ _ m P Y wr hPx.1 (hV.y HD.out).1 HYY.out.2.1 (by rw [hp.2.1]) hp.2.2.1 HYY.out.1 (by omega) HYY.out.2.2.2 (by rw [hp.2.2.2.1];exact hp.2.2.2.2.2))
    have hPP:=hIq hp;have hP':=hIq hP;have hA':=hIq hA;have hV':=hIq hV;have hq0':=hIq hq0;have hRl':=hIq hRl;have hqk':=hIq hqk;clear hPx hp hP hA hV hq0 hRl hqk hW0;go_wp2_with fail
    have hln:k+(m+2)+1 - k=m+3:=by omega
    rw [hln];clear hln;obtain⟨C,hC⟩:∃C,k+1+j+(m+1)+1 - k=C:=⟨_,rfl⟩;rw [hC] at hat ⊢;have hC':=hIq hC;clear hC;refine hat.out.mono ?_
    rintro e w4 ⟨g,rfl,hgB,hgQ,hb7⟩
    have X4:=hIq (hV'.out.later hb7)
    have hg4:Hid (g<1000000000/\val P<((g:Int)+1)*val Y):=hIq ⟨hgB,by
     rcases Int.lt_or_le (val P) (((g:Int)+1)*val Y)with h1|h1
     ·exact h1
     ·have:=hgQ ((g:Int)+1) (by omega) h1
      omega⟩
    clear hgB hgQ hb7 hV' hat;go_wp2_with fail
    go_loopg [14] g (fun i v wr2=>v= .int .i64 (i:Int)/\Hid (i<1000000000/\val P<((i:Int)+1)*val Y)/\LongV w gr gq gl gy (m+2) Y R q wr2)
    case atStart=>exact⟨rfl,hg4,X4.out⟩
    case round=>
     obtain⟨hv14,hi,X5⟩:=hrel;subst hv14;clear hg4 X4;by_cases h0:gk=0
     ·subst h0;have hfin:Hid (LongW w gr gq gl gy (m+2) X Y k wr):=hIq ⟨R,q,hA'.out.none hkq (hq0'.out k (by omega)) HYY.out.2.1 HYY.out.1 (by rw [hP'.out];have:=hi.out.2;simpa using this),fun i hi=>hq0'.out i (by omega),X5⟩;clear X5;rw [show((0:Nat):Int)=0 from rfl];go_wp2_with fail
      go_roundg k
      case measure=>omega
      case rel=>exact⟨j+1,by omega,by simp,hfin.out⟩
     ·obtain⟨i,rfl⟩:∃i,gk=i+1:=⟨gk - 1,by omega⟩;have hV5':=hIq X5;have hi1:(i:Int)+1<1000000000:=by have:=hi.out.1;omega
      have ei:((i+1:Nat):Int)=(i:Int)+1:=by omega
      have ei0:0<=(i:Int):=by omega
      have hsub:Hid (Calls Tryz.prog 159 #[.slice (some ⟨gl,0,none⟩) (m+3) (m+3),.slice (some ⟨gr,k,none⟩) (m+3) C,.slice (some ⟨gy,0,none⟩) (m+2) (m+3),.int .i64 ((i:Int)+1)] wr (SubP wr gl P Y ((i:Int)+1))):=hIq (by
       have hx:=X5.x HD.out k (by rw [hRl'.out];omega);rw [hP'.out] at hx;have hy:=X5.y HD.out;obtain⟨left,yl2,-,-,hl3,hl4,-,-,-⟩:=X5
       exact subtract_any gl left _ _ _ _ _ (m+2) P Y _ wr hl3 hl4 hx hy HYY.out.2.1 hPP.out.2.1 hPP.out.2.2.1 HYY.out.1 (by omega) (by omega) hi1)
      clear X5 h0;rw [ei];clear ei;go_wp2_with (go_at_call 159;refine hsub.out.mono ?_;rintro e w5 ⟨Z,b,rfl,hZ,hZl,hO,ht,hf⟩;have X6:=hIq (hV5'.out.left HD.out hO hZ (by rw [hZl,HYY.out.2.1]));have hZ':=hIq hZ;have hZl':=hIq hZl;have ht':=hIq ht;have hf':=hIq hf;clear hZ hZl hO ht hf;cases b)
      ·go_wp2_with fail
       go_roundg i
       case measure=>omega
       case rel=>exact⟨rfl,hIq ⟨by have:=hi.out.1;omega,by have:=hf'.out (by first|trivial|rfl);omega⟩,X6.out⟩
      ·have hcp:Hid (∀q',LongV w gr gq gl gy (m+2) Y (R.take k++Z++R.drop (k+(m+2+1))) q' w5->True):=hIq fun _ _=>trivial
       have hZl3:Hid (Z.length=m+3):=hIq (by rw [hZl'.out,HYY.out.2.1])
       have hA2:Hid (LongA X Y (m+2) k (R.take k++Z++R.drop (k+(m+2+1))) (q.set k ((i:Int)+1))):=hIq (hA'.out.digit hkq HYY.out.2.1 HYY.out.1 hZl3.out (ht'.out (by first|trivial|rfl)).2.1 (by rw [hP'.out];exact(ht'.out (by first|trivial|rfl)).2.2) (by
        have h1:=(ht'.out (by first|trivial|rfl)).2.2;have h2:=hi.out.2
        have e:(((i+1:Nat):Int)+1)*val Y=((i:Int)+1)*val Y+val Y:=by
         rw [show((i+1:Nat):Int)=(i:Int)+1 by omega];grind
        omega) (by omega) hi1)
       have hBR:Hid (Blk w5 gr R):=hIq (by obtain⟨left,yl2,h1,-⟩:=X6.out;exact h1);obtain⟨w6,hrun,hw6,hO6⟩:=copy_run gr k (m+3) C (m+3) (m+3) gl 0 R Z w5 hBR.out (by rw [hZl3.out];exact(Nat.min_self _).symm) (fun i hi=>by rw [Nat.zero_add];exact hZ'.out.cell hi) (by rw [hZl3.out,hRl'.out];omega);have X7:=X6.out.row HD.out hO6 hw6;rw [hZl3.out] at X7;have hV7':=hIq X7;clear hcp hw6 hO6 X7;go_wp2_with fail
       rw [hrun];simp only [Result.andThen];rw [Oper.upon_value];clear hrun;obtain⟨left,yl2,-,hq7,-⟩:=hV7'.out;have cq:=hq7.cell hkq;have cf:=hq7.free k;have hk0:(k:Int)<(k:Int)+1+(j:Int):=by omega
       generalize iat q k=vq at cq;have X8:=hIq (hV7'.out.quot HD.out k ((i:Int)+1));clear hq7;go_wp2_with fail
       go_roundg k
       case measure=>omega
       case rel=>exact⟨j+1,by omega,by simp,_,_,hA2.out,fun i hi=>by rw [iat_set _ _ _ _ hkq,if_neg (by omega)];exact hq0'.out i (by omega),X8.out⟩
   ·obtain rfl:gk=0:=by omega
    obtain rfl:j=L:=by omega
    obtain⟨R,q,hA,hq0,hV⟩:=hLW;obtain⟨left,yl2,hRB,hqB,-,-,-,-,hBB⟩:=hV;have hqk:q.length=j:=by have:=hA.lenq;rw [HX.out.2.1] at this;omega
    have hRl:R.length=j+(m+1)+1:=by rw [hA.lenR,HX.out.2.1]
    have hRt:Hid ((R.take (m+2)).length=m+2):=hIq (by rw [List.length_take];omega)
    have hsd:Hid (Calls Tryz.prog 156 #[.slice (some ⟨gr,0,none⟩) (m+2) (j+(m+1)+1),.int .i64 F] wr (DivS wr (R.take (m+2)) F)):=
     hIq (shortDivided_any _ _ _ _ F wr (Rdi_blk_take hRB _) hRt.out.symm (hA.dgR.take _) (by omega) (by omega) (by omega))
    have hA':=hIq hA;have hqB':=hIq hqB;have hBB':=hIq hBB;have hqk':=hIq hqk;clear hW0 hA hq0 hRB hqB hBB hqk hRl hj;have t1:(m:Int)+2<=(j:Int)+((m:Int)+1)+1:=by omega
    go_wp2_with (go_at_call 156;refine hsd.out.mono ?_;rintro e w5 ⟨g5,g6,n5,q5,r5,rfl,hg5,hg6,hq5,hr5,hb5,hn5,hdv⟩;have hn5':=hIq hn5;have hq5':=hIq hq5;have hdv':=hIq hdv;have hb5':=hIq hb5;clear hn5 hq5 hr5 hdv hb5)
    try rw [Exit.noGoto_ret]
    go_ret2
    exact⟨gq,g5,j,n5,q,q5,rfl,HD.out.q,Nat.le_trans hBB'.out.size hg5,fun e=>by have:=hqB'.out.lt;omega,hqB'.out.later hb5'.out,hq5'.out,below_tr hBB'.out hb5'.out,hqk'.out,by rw [hdv'.out.len];exact hn5'.out.symm,by rw [N1.out];omega,by rw [hn5'.out,hRt.out,N1.out];omega,by rw [hn5'.out,hRt.out,N2.out],
     hA'.out.done hf0 HX.out.2.2.1 HYY.out.2.2.1 hdv'.out.dg hdv'.out.done hdv'.out.lo hdv'.out.hi⟩
def DivdP (w:World)(x y:List Int)(e:Ending)(w':World):Prop:=
 ∃p1 n1 q h m r,e= .returned (.tuple #[.slice p1 n1 n1,.slice (some ⟨h,0,none⟩) m m])/\Rdi w' p1 q/\q.length=n1/\(∀b,p1=some b->w.heap.size<=b.block)/\w.heap.size<=h/\Blk w' h r/\r.length=m/\Below w.heap.size w w'/\n1<=x.length/\m<=x.length/\(m<=y.length/\(y.length<=x.length->m=y.length))/\DivQ x y q r
theorem divq_less {x y:List Int}(hx:Dg x)(hy:Dg y)(hlt:x.length<y.length)(htop:1<=iat y (y.length - 1)):DivQ x y [] x:=by
 refine⟨Dg_nil,hx,by simp [val],?_⟩;have h1:=hx.hi;obtain⟨h2,h3,h4⟩:=top_val (n:=y.length - 1) hy (by omega);have h5:=pw_mono (show x.length<=y.length - 1 by omega);have hp:=pw_pos (y.length - 1);have:pw (y.length - 1)*1<=pw (y.length - 1)*iat y (y.length - 1):=Int.mul_le_mul_of_nonneg_left htop (by omega);omega
theorem divq_short {x:List Int}{d r:Int}{q:List Int}(h:DivA x d 0 r q)(D:d<=1000000000):DivQ x [d] q [r]:=
 ⟨h.dg,Dg_cons h.lo (by have:=h.hi;omega) Dg_nil,by have:=h.done;simp [val];exact this,by have:=h.hi;simp [val];exact this⟩
theorem divided_any (a1 a2:Option Addr)(n1 n2 c1 c2:Nat)(x y:List Int)(w:World)(hR1:Rdi w a1 x)(hR2:Rdi w a2 y)(hn1:n1=x.length)(hn2:n2=y.length)(hd1:Dg x)(hd2:Dg y)(hm1:n1<=549755813887)(hm2:n2<=549755813887)(hpos:0<n2)(htop:1<=iat y (n2 - 1)):
 Calls Tryz.prog 154 #[.slice a1 n1 c1,.slice a2 n2 c2] w (DivdP w x y):=by
 by_cases h1:n1<n2
 ·have hfin:Hid (DivQ x y [] x):=hIq (divq_less hd1 hd2 (by omega) (by rw [<-hn2];exact htop));have hc:Hid (Calls Tryz.prog 106 #[.slice a1 n1 c1,.int .i64 (n1:Int)] w (NewN w n1 fun z=>z=cpy x n1)):=hIq (copied_any a1 n1 c1 x n1 w hR1 hn1 (by omega));have N1:=hIq hn1;have N2:=hIq hn2;have t1:decide (n1<n2)=true:=dT h1;clear hR1 hR2 hn1 hn2 hd1 hd2 htop
  go_enter Tryz.func154,Tryz.ntmps154
  go_wp2_with (go_at_call 106;refine hc.out.mono ?_;rintro e w1 ⟨g,z,rfl,hg,hz0,hb1,hl0,hzz⟩;have hz:=hIq hz0;have hb:=hIq hb1;have hl:=hIq hl0;have hzz':=hIq hzz;clear hz0 hb1 hl0 hzz)
  go_ret2
  exact⟨none,0,[],g,n1,x,rfl,.inl rfl,rfl,(fun b hb=>by cases hb),hg,by have:=hz.out;rw [hzz'.out,N1.out,cpy_self] at this;exact this,N1.out.symm,hb.out,Nat.zero_le _,Nat.le_of_eq N1.out,⟨by rw [<-N2.out];omega,fun h=>by have:=N1.out;have:=N2.out;omega⟩,hfin.out⟩
 ·have t1:decide (n1<n2)=false:=dF h1;by_cases h2:n2=1
  ·subst h2
   obtain⟨d,rfl⟩:∃d,y= [d]:=by
    cases y with
    |nil=>simp at hn2
    |cons d t=>
     have ht:t= []:=List.eq_nil_of_length_eq_zero (by simpa using hn2.symm);exact⟨d,by rw [ht]⟩
   obtain⟨b,o,rfl,hc⟩:=Rdi_at hR2 0 (by simp);have D:=hd2.head;have hdt:1<=d:=htop;have hsd:Hid (Calls Tryz.prog 156 #[.slice a1 n1 c1,.int .i64 d] w (DivS w x d)):=hIq (shortDivided_any a1 n1 c1 x d w hR1 hn1 hd1 (by omega) (by omega) (by omega));have hc':w.cell? ⟨b,o,none⟩=some (.int .i64 d):=hc;have N1:=hIq hn1;have t2:(((1:Nat):Int)==1)=true:=rfl;have t3:¬(n1:Int)<1:=by omega
   obtain⟨hd00,hd01⟩:=D;clear hR1 hR2 hn1 hn2 hd1 hd2 htop hc
   go_enter Tryz.func154,Tryz.ntmps154
   go_wp2_with (go_at_call 156;refine hsd.out.mono ?_;rintro e w5 ⟨g5,g6,n5,q5,r5,rfl,hg5,hg6,hq5,hr5,hb5,hn5,hdv⟩;have hn5':=hIq hn5;have hq5':=hIq hq5;have hr5':=hIq hr5;have hdv':=hIq hdv;have hb5':=hIq hb5;clear hn5 hq5 hr5 hdv hb5)
   go_ret2
   exact⟨_,n5,q5,g6,1,[r5],rfl,hq5'.out.rdi,by rw [hdv'.out.len];exact hn5'.out.symm,(fun b hb=>by cases hb;exact hg5),hg6,hr5'.out,rfl,hb5'.out,by rw [hn5'.out];exact Nat.le_refl _,by rw [<-N1.out];omega,⟨by simp,fun _=>rfl⟩,divq_short hdv'.out (by omega)⟩
  ·obtain⟨m,rfl⟩:∃m,n2=m+2:=⟨n2 - 2,by omega⟩;obtain⟨L,rfl⟩:∃L,n1=L+(m+1):=⟨n1 - (m+1),by omega⟩;have hld:Hid (Calls Tryz.prog 157 #[.slice a1 (L+(m+1)) c1,.slice a2 (m+2) c2] w (LongP w x y)):=hIq (longDivided_any a1 a2 c1 c2 m L x y w hR1 hR2 hn2.symm hn1.symm (by omega) hd1 hd2 (by omega) htop);have N1:=hIq hn1;have N2:=hIq hn2;have t2:(((m:Int)+2)==1)=false:=by simp;omega
   have t3:¬(L:Int)+((m:Int)+1)<(m:Int)+2:=by omega
   clear hR1 hR2 hn1 hn2 hd1 hd2 htop
   go_enter Tryz.func154,Tryz.ntmps154
   go_wp2_with (go_at_call 157;refine hld.out.mono ?_;rintro e w5 ⟨g5,g6,n5,m5,q5,r5,rfl,hg5,hg6,hne,hq5,hr5,hb5,hn5,hm5,hl5,hl6,hl7,hdv⟩;have hl7':=hIq hl7;have hq5':=hIq hq5;have hr5':=hIq hr5;have hdv':=hIq hdv;have hb5':=hIq hb5;have hn5':=hIq hn5;have hm5':=hIq hm5;have hl5':=hIq hl5;have hl6':=hIq hl6;clear hq5 hr5 hdv hb5 hn5 hm5 hl5 hl6 hl7)
   go_ret2
   exact⟨_,n5,q5,g6,m5,r5,rfl,hq5'.out.rdi,hn5'.out,(fun b hb=>by cases hb;exact hg5),hg6,hr5'.out,hm5'.out,hb5'.out,hl5'.out,hl6'.out,⟨Nat.le_of_eq hl7'.out,fun _=>hl7'.out⟩,hdv'.out⟩
end Go.Proofs.YteacdbgalloaiaaGreat
