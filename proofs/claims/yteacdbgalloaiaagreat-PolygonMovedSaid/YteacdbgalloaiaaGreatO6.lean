/- Contracts of the packages integer, rat, plane, polygon and their references. -/
import Derived.Test.YteacdbgalloaiaaGreatO2
import Derived.Test.YteacdbgalloaiaaGreatO4
import Derived.Test.YteacdbgalloaiaaGreatO3
import Derived.Test.YteacdbgalloaiaaGreatO1
set_option linter.unusedVariables false
set_option maxRecDepth 100000
set_option maxHeartbeats 6400000
namespace Go.Proofs.YteacdbgalloaiaaGreat
section
structure Lh (P X Y a0 b0 xl yl s U0 U1 L0 L1 a b:Int)(found:Bool):Prop where
 P0:0<P
 hX:X=a0*P+xl
 hY:Y=b0*P+yl
 xl0:0<=xl
 xl1:xl<=P
 yl0:0<=yl
 yl1:yl<=P
 s1:s=1∨s= -1
 U00:0<=U0
 U10:0<=U1
 L00:0<=L0
 L10:0<=L1
 ea:a=s*U0*a0 - s*U1*b0
 eb:b=s*L1*b0 - s*L0*a0
 key:a*L1+b*U1=a0
 bl0:0<=b - s*L0
 bl1:0<=b+s*L1
 au0:0<=a+s*U0
 au1:0<=a - s*U1
 L01:L0<=L1
 L1p:1<=L1
 U01:(U0<=U1/\1<=U1/\found=true)∨(U0=1/\U1=0/\L0=0/\L1=1/\s=1/\b<=a)
 L1b:L1<1000000000
 U0b:U0<1000000000
 U1b:U1<1000000000
 ord:s*L1*Y - s*L0*X<=s*U0*X - s*U1*Y
 top:s*U0*X - s*U1*Y<=X
 gcd:Int.gcd (s*U0*X - s*U1*Y) (s*L1*Y - s*L0*X)=Int.gcd X Y
 dec:found=true->(s*U0*X - s*U1*Y)+(s*L1*Y - s*L0*X)<X+Y
 sum:(s*U0*X - s*U1*Y)+(s*L1*Y - s*L0*X)<=X+Y
theorem Lh.init {P X Y a0 b0 xl yl:Int}(P0:0<P)(hX:X=a0*P+xl)(hY:Y=b0*P+yl)(xl0:0<=xl)(xl1:xl<=P)(yl0:0<=yl)(yl1:yl<=P)(ha:0<=a0)(hb:0<=b0)(hab:b0<=a0)(hXY:Y<=X):Lh P X Y a0 b0 xl yl 1 1 0 0 1 a0 b0 false where
 P0:=P0
 hX:=hX
 hY:=hY
 xl0:=xl0
 xl1:=xl1
 yl0:=yl0
 yl1:=yl1
 s1:= .inl rfl
 U00:=by omega
 U10:=by omega
 L00:=by omega
 L10:=by omega
 ea:=by omega
 eb:=by omega
 key:=by omega
 bl0:=by omega
 bl1:=by omega
 au0:=by omega
 au1:=by omega
 L01:=by omega
 L1p:=by omega
 U01:= .inr ⟨rfl,rfl,rfl,rfl,rfl,hab⟩
 L1b:=by omega
 U0b:=by omega
 U1b:=by omega
 ord:=by omega
 top:=by omega
 gcd:=by simp
 dec:=by intro h;cases h
 sum:=by omega
variable {P X Y a0 b0 xl yl s U0 U1 L0 L1 a b:Int}{found:Bool}
theorem Lh.X' (h:Lh P X Y a0 b0 xl yl s U0 U1 L0 L1 a b found):s*U0*X - s*U1*Y=a*P+s*U0*xl - s*U1*yl:=by
 rw [h.ea,h.hX,h.hY];grind
theorem Lh.Y' (h:Lh P X Y a0 b0 xl yl s U0 U1 L0 L1 a b found):s*L1*Y - s*L0*X=b*P+s*L1*yl - s*L0*xl:=by
 rw [h.eb,h.hX,h.hY];grind
theorem mix_lo {c P p q x y m:Int}(hx0:0<=x)(hx1:x<=P)(hy0:0<=y)(hp:0<=p)(hq:0<=q)(h:m<=c - p):m*P<=c*P - p*x+q*y:=by
 have h1:p*x<=p*P:=Int.mul_le_mul_of_nonneg_left hx1 hp;have h2:0<=q*y:=Int.mul_nonneg hq hy0;have h3:m*P<=(c - p)*P:=Int.mul_le_mul_of_nonneg_right h (by omega);have h4:(c - p)*P=c*P - p*P:=by grind
 omega
theorem Lh.lowNonneg (h:Lh P X Y a0 b0 xl yl s U0 U1 L0 L1 a b found):0<=s*L1*Y - s*L0*X:=by
 rw [h.Y'];rcases h.s1 with hs|hs
 ·subst hs;have:=mix_lo (c:=b) (P:=P) (p:=L0) (q:=L1) (x:=xl) (y:=yl) (m:=0) h.xl0 h.xl1 h.yl0 h.L00 h.L10 (by have:=h.bl0;omega);have e1:(1:Int)*L1*yl=L1*yl:=by grind
  have e2:(1:Int)*L0*xl=L0*xl:=by grind
  omega
 ·subst hs;have:=mix_lo (c:=b) (P:=P) (p:=L1) (q:=L0) (x:=yl) (y:=xl) (m:=0) h.yl0 h.yl1 h.xl0 h.L10 h.L00 (by have:=h.bl1;omega);have e1:(-1:Int)*L1*yl= -(L1*yl):=by grind
  have e2:(-1:Int)*L0*xl= -(L0*xl):=by grind
  omega
theorem Lh.bpos (h:Lh P X Y a0 b0 xl yl s U0 U1 L0 L1 a b found):0<=b:=by
 have:=h.bl0;have:=h.bl1;have:=h.L00;have:=h.L10;rcases h.s1 with hs|hs<;>subst hs<;>omega
theorem Lh.apos (h:Lh P X Y a0 b0 xl yl s U0 U1 L0 L1 a b found):0<=a:=by
 have:=h.au0;have:=h.au1;have:=h.U00;have:=h.U10;rcases h.s1 with hs|hs<;>subst hs<;>omega
theorem Lh.step (h:Lh P X Y a0 b0 xl yl s U0 U1 L0 L1 a b found)(q:Int)(hq0:0<=q)
 (h00:0<=(a+s*U0) - q*(b - s*L0)) (h01:(a+s*U0) - q*(b - s*L0)<b - s*L0) (h10:0<=(a - s*U1) - q*(b+s*L1)) (h11:(a - s*U1) - q*(b+s*L1)<b+s*L1) (hb:U1+q*L1<1000000000):
 Lh P X Y a0 b0 xl yl (-s) L0 L1 (U0+q*L0) (U1+q*L1) b (a - q*b) true:=by
 have hqL0:0<=q*L0:=Int.mul_nonneg hq0 h.L00;have hqL1:0<=q*L1:=Int.mul_nonneg hq0 h.L10;have hq01:q*L0<=q*L1:=Int.mul_le_mul_of_nonneg_left h.L01 hq0;have hbp:=h.bpos;have hY0:=h.lowNonneg;have hX':=h.X';have hY':=h.Y'
 have q1:U0+q*L0<=U1+q*L1:=by
  rcases h.U01 with h1|⟨rfl,rfl,rfl,rfl,rfl,hba⟩
  ·omega
  ·have:q≠0:=by
    rintro rfl
    omega
   omega
 have hU1':1<=U1+q*L1:=by
  rcases h.U01 with h1|⟨rfl,rfl,rfl,rfl,rfl,hba⟩
  ·omega
  ·have:q≠0:=by
    rintro rfl
    omega
   omega
 have hs2: -s=1∨ -s= -1:=by rcases h.s1 with hs|hs<;>subst hs<;>simp
 have hU00:=h.U00;have hU10:=h.U10;have hL1b:=h.L1b
 -- the numbers of the new row
 have eX: -s*L0*X - -s*L1*Y=s*L1*Y - s*L0*X:=by grind
 have eY: -s*(U1+q*L1)*Y - -s*(U0+q*L0)*X=(s*U0*X - s*U1*Y) - q*(s*L1*Y - s*L0*X):=by grind
 have hY2:(s*U0*X - s*U1*Y) - q*(s*L1*Y - s*L0*X)=(a - q*b)*P+s*(U0+q*L0)*xl - s*(U1+q*L1)*yl:=by rw [hX',hY'];grind
 have hlt:(s*U0*X - s*U1*Y) - q*(s*L1*Y - s*L0*X)<s*L1*Y - s*L0*X:=by
  rw [hY2,hY'];have hP:=h.P0;have e:(b*P+s*L1*yl - s*L0*xl) - ((a - q*b)*P+s*(U0+q*L0)*xl - s*(U1+q*L1)*yl)=(b - (a - q*b))*P - s*(L0+(U0+q*L0))*xl+s*(L1+(U1+q*L1))*yl:=by grind
  have hge:1*P<=(b - (a - q*b))*P - s*(L0+(U0+q*L0))*xl+s*(L1+(U1+q*L1))*yl:=by
   rcases h.s1 with hs|hs
   ·subst hs
    have:=mix_lo (c:=b - (a - q*b)) (P:=P) (p:=L0+(U0+q*L0)) (q:=L1+(U1+q*L1)) (x:=xl) (y:=yl) (m:=1) h.xl0 h.xl1 h.yl0 (by have:=h.L00;omega) (by have:=h.L10;omega) (by
     have e1:q*(b - 1*L0)=q*b - q*L0:=by grind
     omega)
    simp only [Int.one_mul] at this ⊢;exact this
   ·subst hs
    have:=mix_lo (c:=b - (a - q*b)) (P:=P) (p:=L1+(U1+q*L1)) (q:=L0+(U0+q*L0)) (x:=yl) (y:=xl) (m:=1) h.yl0 h.yl1 h.xl0 (by have:=h.L10;omega) (by have:=h.L00;omega) (by
     have e1:q*(b+ -1*L1)=q*b - q*L1:=by grind
     omega)
    have e2:(b - (a - q*b))*P - -1*(L0+(U0+q*L0))*xl+ -1*(L1+(U1+q*L1))*yl=(b - (a - q*b))*P - (L1+(U1+q*L1))*yl+(L0+(U0+q*L0))*xl:=by grind
    rw [e2];exact this
  omega
 have hY'pos:0<s*L1*Y - s*L0*X:=by
  -- the rest is not negative
  rcases Int.lt_or_le 0 (s*L1*Y - s*L0*X)with h1|h1
  ·exact h1
  ·exfalso;have h2:s*L1*Y - s*L0*X=0:=by omega
   rw [h2] at hlt;have h3:=h.ord;rw [h2] at h3;omega
 have hqY:0<=q*(s*L1*Y - s*L0*X):=Int.mul_nonneg hq0 (by omega)
 exact{
  P0:=h.P0
  hX:=h.hX
  hY:=h.hY
  xl0:=h.xl0
  xl1:=h.xl1
  yl0:=h.yl0
  yl1:=h.yl1
  s1:=hs2
  U00:=h.L00
  U10:=h.L10
  L00:=by omega
  L10:=by omega
  ea:=by rw [h.eb];grind
  eb:=by rw [h.ea,h.eb];grind
  key:=by rw [<-h.key];grind
  bl0:=by
   have e1:(a+s*U0) - q*(b - s*L0)=a - q*b - -s*(U0+q*L0):=by grind
   omega
  bl1:=by
   have e1:(a - s*U1) - q*(b+s*L1)=a - q*b+ -s*(U1+q*L1):=by grind
   omega
  au0:=by
   have:=h.bl0;have e: -s*L0= -(s*L0):=by grind
   omega
  au1:=by
   have:=h.bl1;have e: -s*L1= -(s*L1):=by grind
   omega
  L01:=q1
  L1p:=hU1'
  U01:= .inl ⟨h.L01,h.L1p,rfl⟩
  L1b:=hb
  U0b:=by have:=h.L01;omega
  U1b:=hL1b
  ord:=by rw [eX,eY];omega
  top:=by rw [eX];have:=h.ord;have:=h.top;omega
  gcd:=by
   rw [eX,eY,<-h.gcd];generalize s*U0*X - s*U1*Y=x;generalize s*L1*Y - s*L0*X=y;rw [Int.gcd_comm y,Int.gcd_comm x y];have:x - q*y=x+y* -q:=by grind
   rw [this,Int.gcd_add_mul_left_left,Int.gcd_comm]
  dec:=by
   intro _;rw [eX,eY];have h1:=h.sum;by_cases e:q=0
   ·-- then a row has been made before
    subst e;rcases h.U01 with h2|⟨rfl,rfl,rfl,rfl,rfl,hba⟩
    ·have h3:=h.dec h2.2.2;omega
    ·exfalso;omega
   ·have:1*(s*L1*Y - s*L0*X)<=q*(s*L1*Y - s*L0*X):=Int.mul_le_mul_of_nonneg_right (by omega) (by omega);omega
  sum:=by
   rw [eX,eY];have h1:=h.sum
   omega}
end
open Go.RowKit
theorem carried_any (t:Int)(h0: -2000000000000000000<=t)(h1:t<=2000000000000000000)(w:World):
 Calls Tryz.prog 155 #[.int .i64 t] w fun e w'=>e= .returned (.tuple #[.int .i64 (t / 1000000000),.int .i64 (t % 1000000000)])/\w=w':=by
 obtain⟨u,hu⟩:∃u,2000000000000000000+t=u:=⟨_,rfl⟩;have e1:t / 1000000000=u / 1000000000 - 2000000000:=by omega
 have e2:t % 1000000000=u % 1000000000:=by omega
 have u0:0<=u:=by omega
 have u1:u<=4000000000000000000:=by omega
 have w1:IntKind.i64.wrap (2000000000000000000+t)=u:=by rw [IntWalk.i64_in _ (by omega)];exact hu
 have q0:0<=u / 1000000000:=by omega
 have q1:u / 1000000000<=4000000000:=by omega
 have q2:0<=u % 1000000000:=by omega
 have q3:u % 1000000000<1000000000:=by omega
 rw [e1,e2];clear e1 e2 h0 h1 hu
 go_enter Tryz.func155,Tryz.ntmps155
 go_wp2_with fail
 go_ret2
 exact⟨rfl,rfl⟩
structure ApA (B X Y:List Int)(r0 r1:Int)(k:Nat)(over:Int)(z:List Int):Prop where
 len:z.length=B.length
 dg:Dg (z.take k)
 rest:∀j,k<=j->iat z j=iat B j
 sum:val (z.take k)+pw k*over=r0*val (X.take k)+r1*val (Y.take k)
 lo: -2000000000<=over
 hi:over<=2000000000
theorem ApA.start (B X Y:List Int)(r0 r1:Int):ApA B X Y r0 r1 0 0 B:=
 ⟨rfl,by rw [List.take_zero];exact Dg_nil,fun _ _=>rfl,by simp [val],by omega,by omega⟩
theorem ap_digit {a b r0 r1:Int}(ha0:0<=a)(ha1:a<1000000000)(hb0:0<=b)(hb1:b<1000000000)(h00: -1000000000<r0)(h01:r0<1000000000)(h10: -1000000000<r1)(h11:r1<1000000000):
 -999999998000000001<=a*r0/\a*r0<=999999998000000001/\ -999999998000000001<=b*r1/\b*r1<=999999998000000001:=by
 have e1:a*r0<=a*999999999:=Int.mul_le_mul_of_nonneg_left (by omega) ha0;have e2:a*(-999999999)<=a*r0:=Int.mul_le_mul_of_nonneg_left (by omega) ha0;have e3:b*r1<=b*999999999:=Int.mul_le_mul_of_nonneg_left (by omega) hb0;have e4:b*(-999999999)<=b*r1:=Int.mul_le_mul_of_nonneg_left (by omega) hb0;omega
theorem ApA.next {B X Y z:List Int}{r0 r1 over:Int}{k:Nat}(h:ApA B X Y r0 r1 k over z)(hx:Dg X)(hy:Dg Y)(hk:k<B.length)(hkx:k<X.length)(hky:k<Y.length)(h00: -1000000000<r0)(h01:r0<1000000000)(h10: -1000000000<r1)(h11:r1<1000000000):
 ApA B X Y r0 r1 (k+1) ((iat X k*r0+iat Y k*r1+over) / 1000000000) (z.set k ((iat X k*r0+iat Y k*r1+over) % 1000000000)):=by
 have hz:k<z.length:=by rw [h.len];omega
 have b1:=hx.all k;have b2:=hy.all k;have hb:=ap_digit b1.1 b1.2 b2.1 b2.2 h00 h01 h10 h11;have hl:=h.lo;have hh:=h.hi;have hs:=h.sum;have vx:=val_take X k hkx;have vy:=val_take Y k hky;obtain⟨t,ht⟩:∃t,iat X k*r0+iat Y k*r1+over=t:=⟨_,rfl⟩;rw [ht];refine⟨by rw [List.length_set];exact h.len,?_,fun j hj=>?_,?_,by omega,by omega⟩
 ·rw [take_set1 _ _ _ hz];exact Dg_append h.dg (Dg_cons (by omega) (by omega) Dg_nil)
 ·rw [iat_set _ _ _ _ hz,if_neg (by omega)];exact h.rest j (by omega)
 ·rw [take_set1 _ _ _ hz,val_snoc,List.length_take,Nat.min_eq_left (by omega),vx,vy]
  have e:pw (k+1)*(t / 1000000000)+pw k*(t % 1000000000)=pw k*t:=by
   show 1000000000*pw k*(t / 1000000000)+pw k*(t % 1000000000)=pw k*t;have:t=1000000000*(t / 1000000000)+t % 1000000000:=by omega
   generalize t / 1000000000=q at*
   generalize t % 1000000000=r at*
   rw [this];grind
  have e2:pw k*t=pw k*(iat X k*r0+iat Y k*r1)+pw k*over:=by rw [<-ht];grind
  have e3:r0*(val (X.take k)+pw k*iat X k)+r1*(val (Y.take k)+pw k*iat Y k)=(r0*val (X.take k)+r1*val (Y.take k))+pw k*(iat X k*r0+iat Y k*r1):=by grind
  rw [e3,<-hs];generalize pw (k+1)*(t / 1000000000)=u1 at*
  generalize pw k*(t % 1000000000)=u2 at*
  omega
theorem ApA.done {B X Y z:List Int}{r0 r1 over:Int}{n:Nat}(h:ApA B X Y r0 r1 n over z)(hn:n<=B.length)(h0:0<=r0*val (X.take n)+r1*val (Y.take n))(h1:r0*val (X.take n)+r1*val (Y.take n)<pw n):val (z.take n)=r0*val (X.take n)+r1*val (Y.take n):=by
 have hs:=h.sum;have hlo:=h.dg.lo;have hhi:=h.dg.hi;rw [List.length_take,h.len,Nat.min_eq_left hn] at hhi;have hp:=pw_pos n;generalize r0*val (X.take n)+r1*val (Y.take n)=R at*
 have ho:over=0:=by
  rcases Int.lt_trichotomy over 0 with h2|h2|h2
  ·have:pw n*over<=pw n*(-1):=Int.mul_le_mul_of_nonneg_left (by omega) (by omega);omega
  ·exact h2
  ·have:pw n*1<=pw n*over:=Int.mul_le_mul_of_nonneg_left (by omega) (by omega);omega
 subst ho;omega
structure Only2 (g h:Nat)(w w':World):Prop where
 os:w'.os=w.os
 tape:w'.tape=w.tape
 output:w'.output=w.output
 size:w.heap.size<=w'.heap.size
 block:∀k,k<w.heap.size->k≠g->k≠h->w'.heap[k]? =w.heap[k]?
section
variable {g h:Nat}{w w' w2:World}
theorem Only2.setL (ho:Only2 g h w w')(i:Nat)(v:Value):Only2 g h w (w'.setCell ⟨g,i,none⟩ v):=
 ⟨ho.os,ho.tape,ho.output,Nat.le_trans ho.size (Below.setCell (Below.refl 0 w') (Nat.zero_le _) v (p:=⟨g,i,none⟩)).size,fun k hk hg hh=>(Below.heap_setCell _ _ _ _ hg).trans (ho.block k hk hg hh)⟩
theorem Only2.setR (ho:Only2 g h w w')(i:Nat)(v:Value):Only2 g h w (w'.setCell ⟨h,i,none⟩ v):=
 ⟨ho.os,ho.tape,ho.output,Nat.le_trans ho.size (Below.setCell (Below.refl 0 w') (Nat.zero_le _) v (p:=⟨h,i,none⟩)).size,fun k hk hg hh=>(Below.heap_setCell _ _ _ _ hh).trans (ho.block k hk hg hh)⟩
theorem Only2.drewN (ho:Only2 g h w w')(q:Nat):Only2 g h w (w'.drewN q):=⟨ho.os,ho.tape,ho.output,ho.size,ho.block⟩
theorem Only2.of_below (hb:Below w.heap.size w w'):Only2 g h w w':=⟨hb.os,hb.tape,hb.output,hb.size,fun k hk _ _=>hb.block k hk⟩
theorem Only2.below {B:Nat}{w0:World}(ho:Only2 g h w w')(hb:Below B w0 w)(hg:B<=g)(hh:B<=h)(hs:B<=w.heap.size):Below B w0 w':=
 ⟨ho.os.trans hb.os,ho.tape.trans hb.tape,ho.output.trans hb.output,Nat.le_trans hb.size ho.size,fun k hk=>(ho.block k (by omega) (by omega) (by omega)).trans (hb.block k hk)⟩
end
def ApI (w:World)(gx gy:Nat)(X Y:List Int)(r00 r01 r10 r11:Int)(k:Nat)(ov un:Int)(wr:World):Prop:=
 ∃zx zy,ApA X X Y r00 r01 k ov zx/\ApA Y X Y r10 r11 k un zy/\Blk wr gx zx/\Blk wr gy zy/\wr.heap[w.heap.size]? =some (.cells #[.int .i64 r00,.int .i64 r01,.int .i64 r10,.int .i64 r11] 127 (0,0))/\Only2 gx gy w wr
def ApP (w:World)(gx gy:Nat)(X Y:List Int)(r00 r01 r10 r11:Int)(n:Nat)(e:Ending)(w':World):Prop:=
 ∃ov un zx zy,e= .returned (.tuple #[])/\ApA X X Y r00 r01 n ov zx/\ApA Y X Y r10 r11 n un zy/\Blk w' gx zx/\Blk w' gy zy/\Only2 gx gy w w'
theorem apply_any (gx gy n m cx cy:Nat)(X Y:List Int)(r00 r01 r10 r11:Int)(w:World)(hX0:Blk w gx X)(hY0:Blk w gy Y)(hne:gx≠gy)(hnX:n<=X.length)(hnY:n<=Y.length)(hnm:n<=m)(hn:n<=1099511627776)(hdx:Dg X)(hdy:Dg Y)
 (h00: -1000000000<r00) (h00':r00<1000000000) (h01: -1000000000<r01) (h01':r01<1000000000) (h10: -1000000000<r10) (h10':r10<1000000000) (h11: -1000000000<r11) (h11':r11<1000000000):
 Calls Tryz.prog 151 #[.agg #[.int .i64 r00,.int .i64 r01,.int .i64 r10,.int .i64 r11],.slice (some ⟨gx,0,none⟩) n cx,.slice (some ⟨gy,0,none⟩) m cy] w (ApP w gx gy X Y r00 r01 r10 r11 n):=by
 have hgx:=hX0.lt;have hgy:=hY0.lt;have hI:Hid (ApI w gx gy X Y r00 r01 r10 r11 0 0 0 (w.alloc (.cells #[.int .i64 r00,.int .i64 r01,.int .i64 r10,.int .i64 r11] 127 (0,0)))):=hIq ⟨X,Y,ApA.start _ _ _ _ _,ApA.start _ _ _ _ _,hX0.later (below_new _ _),hY0.later (below_new _ _),heap_alloc_new _ _,Only2.of_below (below_new _ _)⟩;have NX:=hIq hnX;have NY:=hIq hnY;have DX:=hIq hdx;have DY:=hIq hdy;clear hX0 hY0 hnX hnY hdx hdy
 go_enter Tryz.func151,Tryz.ntmps151
 go_upto_region 3 with fail
 go_loopw [6,7,13] (fun ov un i wr=>∃(k:Nat) (over under:Int),k<=n/\i= .int .i64 (k:Int)/\ov= .int .i64 over/\un= .int .i64 under/\ApI w gx gy X Y r00 r01 r10 r11 k over under wr) (fun _ _ i _=>n - (intOf i).toNat)
 case atStart=>exact⟨0,0,0,Nat.zero_le _,rfl,rfl,rfl,hI.out⟩
 case round=>
  obtain⟨k,over,under,hk,rfl,rfl,rfl,hL⟩:=hrel;clear hI;by_cases hlt:k<n
  ·obtain⟨zx,zy,hA,hB,hx,hy,hr,hO⟩:=hL;have kX:k<X.length:=by have:=NX.out;omega
   have kY:k<Y.length:=by have:=NY.out;omega
   have kzx:k<zx.length:=by rw [hA.len];exact kX
   have kzy:k<zy.length:=by rw [hB.len];exact kY
   have cx:=hx.cell kzx;have cy:=hy.cell kzy;rw [hA.rest k (Nat.le_refl _)] at cx;rw [hB.rest k (Nat.le_refl _)] at cy;have fx:=hx.free k;have fy:=hy.free k;have c0:wr.cell? ⟨w.heap.size,0,none⟩=some (.int .i64 r00):=by simp [World.cell?,hr]
   have c1:wr.cell? ⟨w.heap.size,1,none⟩=some (.int .i64 r01):=by simp [World.cell?,hr]
   have c2:wr.cell? ⟨w.heap.size,2,none⟩=some (.int .i64 r10):=by simp [World.cell?,hr]
   have c3:wr.cell? ⟨w.heap.size,3,none⟩=some (.int .i64 r11):=by simp [World.cell?,hr]
   have nx:¬w.heap.size=gx:=by omega
   have ny:¬w.heap.size=gy:=by omega
   have hst:Hid (ApI w gx gy X Y r00 r01 r10 r11 (k+1) ((iat X k*r00+iat Y k*r01+over) / 1000000000) ((iat X k*r10+iat Y k*r11+under) / 1000000000) (((wr.drewN 1).setCell ⟨gx,k,none⟩ (.int .i64 ((iat X k*r00+iat Y k*r01+over) % 1000000000))).setCell ⟨gy,k,none⟩ (.int .i64 ((iat X k*r10+iat Y k*r11+under) % 1000000000)))):=
    hIq ⟨_,_,hA.next DX.out DY.out kX kX kY h00 h00' h01 h01',hB.next DX.out DY.out kY kX kY h10 h10' h11 h11',((hx.drewN 1).set _ _).other hne,((hy.drewN 1).other (fun e=>hne e.symm)).set _ _,by
     rw [heap_setCell_other _ _ _ _ ny,heap_setCell_other _ _ _ _ nx];exact hr,((hO.drewN 1).setL _ _).setR _ _⟩
   have bx:=DX.out.all k;have by_:=DY.out.all k;have hdg:=ap_digit bx.1 bx.2 by_.1 by_.2 h00 h00' h01 h01';have hdh:=ap_digit bx.1 bx.2 by_.1 by_.2 h10 h10' h11 h11';have ol:=hA.lo;have oh:=hA.hi;have ul:=hB.lo;have uh:=hB.hi;generalize iat X k=U at*
   generalize iat Y k=V at*
   obtain⟨bx0,bx1⟩:=bx;obtain⟨by0,by1⟩:=by_;obtain⟨d0,d1,d2,d3⟩:=hdg;obtain⟨d4,d5,d6,d7⟩:=hdh;have hc1:Hid (∀W,Calls Tryz.prog 155 #[.int .i64 (U*r00+V*r01+over)] W fun e w'=>e= .returned (.tuple #[.int .i64 ((U*r00+V*r01+over) / 1000000000),.int .i64 ((U*r00+V*r01+over) % 1000000000)])/\W=w'):=hIq fun W=>carried_any _ (by omega) (by omega) W
   have hc2:Hid (∀W,Calls Tryz.prog 155 #[.int .i64 (U*r10+V*r11+under)] W fun e w'=>e= .returned (.tuple #[.int .i64 ((U*r10+V*r11+under) / 1000000000),.int .i64 ((U*r10+V*r11+under) % 1000000000)])/\W=w'):=hIq fun W=>carried_any _ (by omega) (by omega) W
   have k0:0<=(k:Int):=by omega
   have k1:(k:Int)<(n:Int):=by omega
   have k2:(k:Int)<(m:Int):=by omega
   have hne':¬gy=gx:=fun e=>hne e.symm
   clear hA hB hx hy hO hr hlt kX kY kzx kzy;go_wp2_with fail
   go_region
   go_wp2_with (first
    |(go_at_call 155;(with_reducible refine(hc1.out _).mono ?_);rintro e w' ⟨rfl,rfl⟩)
    |(go_at_call 155;(with_reducible refine(hc2.out _).mono ?_);rintro e w' ⟨rfl,rfl⟩))
   exact⟨⟨k+1,_,_,by omega,by simp,rfl,rfl,hst.out⟩,by simp [intOf];omega⟩
  ·have hk':k=n:=by omega
   subst hk';have hL':=hIq hL;have k1:¬(k:Int)<(k:Int):=by omega
   clear hL hlt;go_wp2_with fail
   refine bodyPost_end (results_none rfl _ _ _) rfl ?_;obtain⟨zx,zy,hA,hB,hx,hy,hr,hO⟩:=hL'.out;exact⟨_,_,zx,zy,rfl,hA,hB,hx,hy,hO⟩
theorem size_rows:(Tryz.prog.info? 127).map (·.size)=some 4:=by kernel_rfl
def LhR (P X Y a0 b0 xl yl u0 u1 l0 l1 a b:Int)(found:Bool):Prop:=
 ∃s U0 U1 L0 L1,u0=s*U0/\u1= -(s*U1)/\l0= -(s*L0)/\l1=s*L1/\Lh P X Y a0 b0 xl yl s U0 U1 L0 L1 a b found
theorem sgn_bd {s U:Int}(hs:s=1∨s= -1)(h0:0<=U)(h1:U<1000000000): -1000000000<s*U/\s*U<1000000000:=by
 rcases hs with hs|hs<;>subst hs<;>omega
section
variable {P X Y a0 b0 xl yl u0 u1 l0 l1 a b:Int}{found:Bool}
theorem LhR.bd (h:LhR P X Y a0 b0 xl yl u0 u1 l0 l1 a b found)(ha:a0<1000000000000000000):0<=a/\a<1000000000000000000/\0<=b/\b<1000000000000000000/\ -1000000000<u0/\u0<1000000000/\ -1000000000<u1/\u1<1000000000/\ -1000000000<l0/\l0<1000000000/\ -1000000000<l1/\l1<1000000000/\0<=a+u0/\0<=a+u1/\0<=b+l0/\0<=b+l1:=by
 obtain⟨s,U0,U1,L0,L1,rfl,rfl,rfl,rfl,h⟩:=h;have h1:=sgn_bd h.s1 h.U00 h.U0b;have h2:=sgn_bd h.s1 h.U10 h.U1b;have h3:=sgn_bd h.s1 h.L00 (by have:=h.L01;have:=h.L1b;omega);have h4:=sgn_bd h.s1 h.L10 h.L1b;have ap:=h.apos;have bp:=h.bpos
 have aa:a<=a0:=by
  have e1:a*1<=a*L1:=Int.mul_le_mul_of_nonneg_left h.L1p ap;have e2:0<=b*U1:=Int.mul_nonneg bp h.U10;have:=h.key;omega
 have bb:b<=a0:=by
  rcases h.U01 with h5|h5
  ·have e1:b*1<=b*U1:=Int.mul_le_mul_of_nonneg_left h5.2.1 bp;have e2:0<=a*L1:=Int.mul_nonneg ap h.L10;have:=h.key;omega
  ·have:=h5.2.2.2.2.2;omega
 have:=h.au0;have:=h.au1;have:=h.bl0;have:=h.bl1;omega
theorem LhR.q (h:LhR P X Y a0 b0 xl yl u0 u1 l0 l1 a b found)(ha:a0<1000000000000000000)(hb0:0<b+l0):
 0<=(a+u0) / (b+l0)/\(a+u0) / (b+l0)<1000000001000000000/\ -2000000000000000000<=(a+u0) / (b+l0)*l0/\(a+u0) / (b+l0)*l0<=2000000000000000000/\ -2000000000000000000<=(a+u0) / (b+l0)*l1/\(a+u0) / (b+l0)*l1<=2000000000000000000/\ -3100000000000000000<=(a+u0) / (b+l0)*b/\(a+u0) / (b+l0)*b<=3100000000000000000:=by
 have hbd:=h.bd ha;obtain⟨q,hq⟩:∃q,(a+u0) / (b+l0)=q:=⟨_,rfl⟩;have q0:0<=q:=by rw [<-hq];exact Int.ediv_nonneg (by omega) (by omega)
 have q1:q*(b+l0)<=a+u0:=by rw [<-hq];exact Int.ediv_mul_le _ (by omega)
 have q2:q<=a+u0:=by
  have:q*1<=q*(b+l0):=Int.mul_le_mul_of_nonneg_left (by omega) q0;omega
 rw [hq];obtain⟨s,U0,U1,L0,L1,e1,e2,e3,e4,h⟩:=h
 have hL1:q*L1<=2000000000000000000:=by
  have f1:q*L1<=(a+u0)*L1:=Int.mul_le_mul_of_nonneg_right q2 h.L10;have f2:(a+u0)*L1=a*L1+u0*L1:=by grind
  have f3:0<=b*U1:=Int.mul_nonneg hbd.2.2.1 h.U10;have f4:=h.key;have f5:u0*L1<=999999999*L1:=Int.mul_le_mul_of_nonneg_right (by omega) h.L10;have f6:=h.L1b;omega
 have hL10:0<=q*L1:=Int.mul_nonneg q0 h.L10;have hL00:0<=q*L0:=Int.mul_nonneg q0 h.L00;have hL0:q*L0<=q*L1:=Int.mul_le_mul_of_nonneg_left h.L01 q0
 have g1: -2000000000000000000<=q*l0/\q*l0<=2000000000000000000:=by
  rw [e3];rcases h.s1 with hs|hs
  ·subst hs;have:q* -(1*L0)= -(q*L0):=by grind
   omega
  ·subst hs;have:q* -(-1*L0)=q*L0:=by grind
   omega
 have g2: -2000000000000000000<=q*l1/\q*l1<=2000000000000000000:=by
  rw [e4];rcases h.s1 with hs|hs
  ·subst hs;have:q*(1*L1)=q*L1:=by grind
   omega
  ·subst hs;have:q*(-1*L1)= -(q*L1):=by grind
   omega
 have g3:q*(b+l0)=q*b+q*l0:=by grind
 have g4:0<=q*(b+l0):=Int.mul_nonneg q0 (by omega);omega
theorem LhR.step (h:LhR P X Y a0 b0 xl yl u0 u1 l0 l1 a b found)(ha:a0<1000000000000000000)(q:Int)(hb0:0<b+l0)(hb1:0<b+l1)(hq:(a+u0) / (b+l0)=q)(hq1:(a+u1) / (b+l1)=q)(hM0:u1 - q*l1<1000000000)(hM1: -(u1 - q*l1)<1000000000):
 LhR P X Y a0 b0 xl yl l0 l1 (u0 - q*l0) (u1 - q*l1) b (a - q*b) true:=by
 have hbd:=h.bd ha;have q0:0<=q:=by rw [<-hq];exact Int.ediv_nonneg (by omega) (by omega)
 have m0:=Int.emod_add_mul_ediv (a+u0) (b+l0);have m0a:=Int.emod_nonneg (a+u0) (b:=b+l0) (by omega);have m0b:=Int.emod_lt_of_pos (a+u0) hb0;have m1:=Int.emod_add_mul_ediv (a+u1) (b+l1);have m1a:=Int.emod_nonneg (a+u1) (b:=b+l1) (by omega);have m1b:=Int.emod_lt_of_pos (a+u1) hb1;rw [hq,Int.mul_comm] at m0;rw [hq1,Int.mul_comm] at m1;obtain⟨s,U0,U1,L0,L1,rfl,rfl,rfl,rfl,h⟩:=h;refine⟨-s,L0,L1,U0+q*L0,U1+q*L1,by grind,by grind,by grind,by grind,?_⟩;have e1:b+ -(s*L0)=b - s*L0:=by omega
 have e2:a+ -(s*U1)=a - s*U1:=by omega
 rw [e1] at m0 m0a m0b;rw [e2] at m1 m1a m1b;refine h.step q q0 (by omega) (by omega) (by omega) (by omega) ?_;rcases h.s1 with hs|hs
 ·subst hs;have:q*(1*L1)=q*L1:=by grind
  omega
 ·subst hs;have:q*(-1*L1)= -(q*L1):=by grind
  omega
theorem LhR.less (h:LhR P X Y a0 b0 xl yl u0 u1 l0 l1 a b found)(q:Int)(hb0:0<b+l0)(hb1:0<b+l1)(hq:(a+u0) / (b+l0)=q)(hq1:(a+u1) / (b+l1)=q)(q0:0<=q):a - q*b<b:=by
 have m0:=Int.emod_add_mul_ediv (a+u0) (b+l0);have m0b:=Int.emod_lt_of_pos (a+u0) hb0;have m1:=Int.emod_add_mul_ediv (a+u1) (b+l1);have m1b:=Int.emod_lt_of_pos (a+u1) hb1;rw [hq,Int.mul_comm] at m0;rw [hq1,Int.mul_comm] at m1;have g0:q*(b+l0)=q*b+q*l0:=by grind
 have g1:q*(b+l1)=q*b+q*l1:=by grind
 obtain⟨s,U0,U1,L0,L1,e1,e2,e3,e4,h⟩:=h;have hL10:0<=q*L1:=Int.mul_nonneg q0 h.L10;have hL00:0<=q*L0:=Int.mul_nonneg q0 h.L00;have:=h.U00;have:=h.U10;have:=h.L00;have:=h.L10;rcases h.s1 with hs|hs
 ·subst hs;have f:q*l0= -(q*L0):=by rw [e3];grind
  omega
 ·subst hs;have f:q*l1= -(q*L1):=by rw [e4];grind
  omega
end
def StI (w:World)(u0 u1 l0 l1:Int)(wr:World):Prop:=
 (∃r0 r1 r2 r3,wr.heap[w.heap.size]? =some (.cells #[r0,r1,r2,r3] 127 (0,0)))/\wr.heap[w.heap.size+1]? =some (.cells #[.int .i64 u0,.int .i64 u1] 126 (0,0))/\wr.heap[w.heap.size+1+1]? =some (.cells #[.int .i64 l0,.int .i64 l1] 126 (0,0))/\Below w.heap.size w wr
section
variable {w W W':World}{u0 u1 l0 l1:Int}
theorem StI.later (h:StI w u0 u1 l0 l1 W)(hb:Below W.heap.size W W'):StI w u0 u1 l0 l1 W':=by
 obtain⟨⟨r0,r1,r2,r3,hr⟩,hu,hl,hB⟩:=h;exact⟨⟨r0,r1,r2,r3,(hb.block _ (lt_blk hr)).trans hr⟩,(hb.block _ (lt_blk hu)).trans hu,(hb.block _ (lt_blk hl)).trans hl,below_tr hB hb⟩
theorem StI.facts (h:StI w u0 u1 l0 l1 W):∃r0 r1 r2 r3,W.cell? ⟨w.heap.size,0,none⟩=some r0/\W.cell? ⟨w.heap.size,1,none⟩=some r1/\W.cell? ⟨w.heap.size,2,none⟩=some r2/\W.cell? ⟨w.heap.size,3,none⟩=some r3/\
 W.frozen? ⟨w.heap.size,0,none⟩=false/\W.frozen? ⟨w.heap.size,1,none⟩=false/\W.frozen? ⟨w.heap.size,2,none⟩=false/\W.frozen? ⟨w.heap.size,3,none⟩=false/\
 W.cell? ⟨w.heap.size+1,0,none⟩=some (.int .i64 u0)/\W.cell? ⟨w.heap.size+1,1,none⟩=some (.int .i64 u1)/\W.cell? ⟨w.heap.size+1+1,0,none⟩=some (.int .i64 l0)/\W.cell? ⟨w.heap.size+1+1,1,none⟩=some (.int .i64 l1)/\
 W.frozen? ⟨w.heap.size+1,0,none⟩=false/\W.frozen? ⟨w.heap.size+1,1,none⟩=false/\W.frozen? ⟨w.heap.size+1+1,0,none⟩=false/\W.frozen? ⟨w.heap.size+1+1,1,none⟩=false/\w.heap.size+1+1<W.heap.size:=by
 obtain⟨⟨r0,r1,r2,r3,hr⟩,hu,hl,hB⟩:=h;exact⟨r0,r1,r2,r3,by simp [World.cell?,hr],by simp [World.cell?,hr],by simp [World.cell?,hr],by simp [World.cell?,hr],by simp [World.frozen?,hr],by simp [World.frozen?,hr],by simp [World.frozen?,hr],by simp [World.frozen?,hr],by simp [World.cell?,hu],by simp [World.cell?,hu],by simp [World.cell?,hl],by simp [World.cell?,hl],by simp [World.frozen?,hu],by simp [World.frozen?,hu],by simp [World.frozen?,hl],by simp [World.frozen?,hl],lt_blk hl⟩
theorem StI.res (h:StI w u0 u1 l0 l1 W)(a b c d:Value):
 ((((W.setCell ⟨w.heap.size,0,none⟩ a).setCell ⟨w.heap.size,1,none⟩ b).setCell ⟨w.heap.size,2,none⟩ c).setCell ⟨w.heap.size,3,none⟩ d).heap[w.heap.size]? =some (.cells #[a,b,c,d] 127 (0,0))/\
 Below w.heap.size w ((((W.setCell ⟨w.heap.size,0,none⟩ a).setCell ⟨w.heap.size,1,none⟩ b).setCell ⟨w.heap.size,2,none⟩ c).setCell ⟨w.heap.size,3,none⟩ d):=by
 obtain⟨⟨r0,r1,r2,r3,hr⟩,hu,hl,hB⟩:=h;refine⟨?_,(((hB.setCell (by simp) _).setCell (by simp) _).setCell (by simp) _).setCell (by simp) _⟩;rw [heap_setCell_self _ _ _ _ _ _ (heap_setCell_self _ _ _ _ _ _ (heap_setCell_self _ _ _ _ _ _ (heap_setCell_self _ _ _ _ _ _ hr)))];rfl
theorem StI.step (h:StI w u0 u1 l0 l1 W)(n0 n1:Int):StI w l0 l1 n0 n1 ((((W.setCell ⟨w.heap.size+1,0,none⟩ (.int .i64 l0)).setCell ⟨w.heap.size+1,1,none⟩ (.int .i64 l1)).setCell ⟨w.heap.size+1+1,0,none⟩ (.int .i64 n0)).setCell ⟨w.heap.size+1+1,1,none⟩ (.int .i64 n1)):=by
 obtain⟨⟨r0,r1,r2,r3,hr⟩,hu,hl,hB⟩:=h;refine⟨⟨r0,r1,r2,r3,?_⟩,?_,?_,(((hB.setCell (by simp) _).setCell (by simp) _).setCell (by simp;omega) _).setCell (by simp;omega) _⟩
 ·rw [heap_setCell_other _ _ _ _ (by simp;omega),heap_setCell_other _ _ _ _ (by simp;omega),heap_setCell_other _ _ _ _ (by simp),heap_setCell_other _ _ _ _ (by simp)];exact hr
 ·rw [heap_setCell_other _ _ _ _ (by simp),heap_setCell_other _ _ _ _ (by simp),heap_setCell_self _ _ _ _ _ _ (heap_setCell_self _ _ _ _ _ _ hu)];rfl
 ·rw [heap_setCell_self _ _ _ _ _ _ (heap_setCell_self _ _ _ _ _ _ (show(((W.setCell ⟨w.heap.size+1,0,none⟩ (.int .i64 l0)).setCell ⟨w.heap.size+1,1,none⟩ (.int .i64 l1))).heap[w.heap.size+1+1]? =some (.cells #[.int .i64 l0,.int .i64 l1] 126 (0,0)) by
   rw [heap_setCell_other _ _ _ _ (by simp),heap_setCell_other _ _ _ _ (by simp)];exact hl))];rfl
end
def StP (w:World)(P X Y a0 b0 xl yl:Int)(e:Ending)(w':World):Prop:=
 ∃u0 u1 l0 l1 a b found,e= .returned (.tuple #[.agg #[.int .i64 u0,.int .i64 u1,.int .i64 l0,.int .i64 l1],.bool found])/\LhR P X Y a0 b0 xl yl u0 u1 l0 l1 a b found/\Below w.heap.size w w'
theorem steps_any (p1 p2:Option Addr)(c1 c2 k m:Nat)(X Y:List Int)(w:World)(hR1:Rdi w p1 X)(hR2:Rdi w p2 Y)(hn1:X.length=k+2)(hn2:Y.length=m)(hm:k+2<=m)(hk:k<=1099511627776)(hd1:Dg X)(hd2:Dg Y)(P xl yl a0 b0:Int)
 (ea:iat X (k+1)*1000000000+iat X k=a0) (eb:iat Y (k+1)*1000000000+iat Y k=b0) (hL0:LhR P (val X) (val Y) a0 b0 xl yl 1 0 0 1 a0 b0 false):
 Calls Tryz.prog 150 #[.slice p1 (k+2) c1,.slice p2 m c2] w (StP w P (val X) (val Y) a0 b0 xl yl):=by
 obtain⟨g1,o1,rfl,x1⟩:=Rdi_at hR1 (k+1) (by omega);obtain⟨_,_,h1,x0⟩:=Rdi_at hR1 k (by omega);cases h1;obtain⟨g2,o2,rfl,y1⟩:=Rdi_at hR2 (k+1) (by omega);obtain⟨_,_,h1,y0⟩:=Rdi_at hR2 k (by omega);cases h1;have b1:=hd1.all (k+1);have b2:=hd1.all k;have b3:=hd2.all (k+1);have b4:=hd2.all k;generalize iat X (k+1)=X1 at*
 generalize iat X k=X0 at*
 generalize iat Y (k+1)=Y1 at*
 generalize iat Y k=Y0 at*
 generalize val X=VX at*
 generalize val Y=VY at*
 obtain⟨b10,b11⟩:=b1;obtain⟨b20,b21⟩:=b2;obtain⟨b30,b31⟩:=b3;obtain⟨b40,b41⟩:=b4;have ha0:a0<1000000000000000000:=by omega
 have hb0:b0<1000000000000000000:=by omega
 have hL:=hIq hL0;have e1:((k+2:Nat):Int) - 1=(k:Int)+1:=by omega
 have e2:((k+2:Nat):Int) - 2=(k:Int):=by omega
 have e3:((k+2:Nat):Int)=(k:Int)+2:=by omega
 have e4:(k:Int)+2 - 1=(k:Int)+1:=by omega
 have e5:(k:Int)+2 - 2=(k:Int):=by omega
 have k0:0<=(k:Int):=by omega
 have k1:(k:Int)+2<=(m:Int):=by omega
 have hg1:g1<w.heap.size:=World.block_lt_of_cell? w _ x1;have hg2:g2<w.heap.size:=World.block_lt_of_cell? w _ y1;clear hR1 hR2 hd1 hd2 hn1 hn2 hL0
 go_enter Tryz.func150,Tryz.ntmps150
 go_wp2_with fail
 go_quiet (fail)
 go_upto_region 4 with fail
 have hst:Hid (StI w 1 0 0 1 ((((w.alloc (.cells #[.int .i64 0,.int .i64 0,.int .i64 0,.int .i64 0] 127)).drewN nq).alloc (.cells #[.int .i64 1,.int .i64 0] 126)).alloc (.cells #[.int .i64 0,.int .i64 1] 126))):=hIq (by
  refine⟨⟨.int .i64 0,.int .i64 0,.int .i64 0,.int .i64 0,?_⟩,?_,?_,?_⟩
  ·rw [Below.heap_alloc _ _ _ (by simp [World.drewN];omega),Below.heap_alloc _ _ _ (by simp [World.drewN])];exact heap_alloc_new w _
  ·rw [Below.heap_alloc _ _ _ (by simp [World.drewN])];have:=heap_alloc_new ((w.alloc (.cells #[.int .i64 0,.int .i64 0,.int .i64 0,.int .i64 0] 127)).drewN nq) (.cells #[.int .i64 1,.int .i64 0] 126)
   simpa [World.drewN] using this
  ·have:=heap_alloc_new (((w.alloc (.cells #[.int .i64 0,.int .i64 0,.int .i64 0,.int .i64 0] 127)).drewN nq).alloc (.cells #[.int .i64 1,.int .i64 0] 126)) (.cells #[.int .i64 0,.int .i64 1] 126)
   simpa [World.drewN] using this
  ·exact((below_drewN (below_new _ _) nq).alloc (by simp [World.drewN]) _).alloc (by simp [World.drewN];omega) _)
 generalize(((w.alloc (.cells #[.int .i64 0,.int .i64 0,.int .i64 0,.int .i64 0] 127)).drewN nq).alloc (.cells #[.int .i64 1,.int .i64 0] 126)).alloc (.cells #[.int .i64 0,.int .i64 1] 126)=W0 at hst ⊢;clear x1 x0 y1 y0 ea eb e1 e2 e3 e4 e5
 go_loopw [7,8,11] (fun a b f wr=>∃(A B u0 u1 l0 l1:Int) (fd:Bool),a= .int .i64 A/\b= .int .i64 B/\f= .bool fd/\LhR P VX VY a0 b0 xl yl u0 u1 l0 l1 A B fd/\StI w u0 u1 l0 l1 wr) (fun _ b _ _=>(intOf b).toNat)
 case atStart=>exact⟨_,_,_,_,_,_,_,rfl,rfl,rfl,hL.out,hst.out⟩
 case round=>
  clear hst hL;obtain⟨A,B,u0,u1,l0,l1,fd,rfl,rfl,rfl,hR,hS⟩:=hrel;have hbd:=hR.bd ha0;have hR':=hIq hR;have hS':=hIq hS;clear hR hS;obtain⟨d0,d1,d2,d3,d4,d5,d6,d7,d8,d9,d10,d11,d12,d13,d14,d15⟩:=hbd;by_cases hc:0<B+l0/\0<B+l1
  ·obtain⟨hc0,hc1⟩:=hc;have hq:=hR'.out.q ha0 hc0;have hst:=fun (h:(A+u1) / (B+l1)=(A+u0) / (B+l0)) h1 h2=>hR'.out.step ha0 _ hc0 hc1 rfl h h1 h2
   have hls:=fun (h:(A+u1) / (B+l1)=(A+u0) / (B+l0))=>hR'.out.less _ hc0 hc1 rfl h hq.1
   obtain⟨q,hqq⟩:∃q,(A+u0) / (B+l0)=q:=⟨_,rfl⟩;have wq:IntKind.i64.wrap (Int.tdiv (A+u0) (B+l0))=q:=by rw [Int.tdiv_eq_ediv_of_nonneg (by omega),hqq,IntWalk.i64_in _ (by rw [hqq] at hq;omega)]
   obtain⟨q2,hq2⟩:∃q2,(A+u1) / (B+l1)=q2:=⟨_,rfl⟩
   have q2b:0<=q2/\q2<=A+u1:=by
    have f0:0<=q2:=by rw [<-hq2];exact Int.ediv_nonneg (by omega) (by omega)
    have f1:q2*(B+l1)<=A+u1:=by rw [<-hq2];exact Int.ediv_mul_le _ (by omega)
    have f2:q2*1<=q2*(B+l1):=Int.mul_le_mul_of_nonneg_left (by omega) f0;omega
   have wq2:IntKind.i64.wrap (Int.tdiv (A+u1) (B+l1))=q2:=by rw [Int.tdiv_eq_ediv_of_nonneg (by omega),hq2,IntWalk.i64_in _ (by omega)]
   have z0:((B+l0)==0)=false:=by simp;omega
   have z1:((B+l1)==0)=false:=by simp;omega
   rw [hqq] at hq;rw [hqq,hq2] at hst hls;have hst':=hIq hst;have hls':=hIq hls;clear hqq hq2 hst hls;obtain⟨m0,m1,m2,m3,m4,m5,m6,m7⟩:=hq;obtain⟨q20,q21⟩:=q2b;obtain⟨n0,hn0⟩:∃n0,u0 - q*l0=n0:=⟨_,rfl⟩;obtain⟨n1,hn1⟩:∃n1,u1 - q*l1=n1:=⟨_,rfl⟩;have n0b: -2000000001000000000<=n0/\n0<=2000000001000000000:=by omega
   have n1b: -2000000001000000000<=n1/\n1<=2000000001000000000:=by omega
   have wn0:IntKind.i64.wrap (u0 - q*l0)=n0:=by rw [IntWalk.i64_in _ (by omega)];exact hn0
   have wn1:IntKind.i64.wrap (u1 - q*l1)=n1:=by rw [IntWalk.i64_in _ (by omega)];exact hn1
   have hnn:=hIq (show u0 - q*l0=n0/\u1 - q*l1=n1 from⟨hn0,hn1⟩);clear hn0 hn1;obtain⟨n00,n01⟩:=n0b;obtain⟨n10,n11⟩:=n1b;have hf:=hS'.out.facts;obtain⟨r0,r1,r2,r3,-,-,-,-,-,-,-,-,cu0,cu1,cl0,cl1,-,-,-,-,hsz⟩:=hf
   go_upto_region 7 with fail
   have hS1:=hIq (hS'.out.later (below_new wr (.cells #[.int .i64 n0,.int .i64 n1] 126)));have hbx:(wr.alloc (.cells #[.int .i64 n0,.int .i64 n1] 126)).heap[wr.heap.size]? =some (.cells #[.int .i64 n0,.int .i64 n1] 126 (0,0)):=heap_alloc_new wr _;generalize wr.alloc (.cells #[.int .i64 n0,.int .i64 n1] 126)=W1 at hS1 hbx ⊢;generalize wr.heap.size=g at hbx hsz ⊢;have cn0:W1.cell? ⟨g,0,none⟩=some (.int .i64 n0):=by simp [World.cell?,hbx]
   have cn1:W1.cell? ⟨g,1,none⟩=some (.int .i64 n1):=by simp [World.cell?,hbx]
   have hf:=hS1.out.facts;clear cu0 cu1 cl0 cl1 hbx r0 r1 r2 r3;obtain⟨r0,r1,r2,r3,f1,f2,f3,f4,f5,f6,f7,f8,cu0,cu1,cl0,cl1,fu0,fu1,fl0,fl1,hsz1⟩:=hf;have hfin:Hid (StP w P VX VY a0 b0 xl yl (.returned (.tuple #[.agg #[.int .i64 u0,.int .i64 u1,.int .i64 l0,.int .i64 l1],.bool fd])) ((((W1.setCell ⟨w.heap.size,0,none⟩ (.int .i64 u0)).setCell ⟨w.heap.size,1,none⟩ (.int .i64 u1)).setCell ⟨w.heap.size,2,none⟩ (.int .i64 l0)).setCell ⟨w.heap.size,3,none⟩ (.int .i64 l1))):=hIq ⟨_,_,_,_,_,_,_,rfl,hR'.out,(hS1.out.res _ _ _ _).2⟩;by_cases hqe:q=q2
   ·obtain⟨M,hM⟩:∃M,max n1 (-n1)=M:=⟨_,rfl⟩;have hMb:n1<=M/\ -n1<=M/\ -2000000001000000000<=M/\M<=2000000001000000000:=by omega
    obtain⟨hM0,hM1,hM2,hM3⟩:=hMb;subst hqe;by_cases hMM:1000000000<=M
    ·clear hst' hls';go_wp2_with fail
     exact bodyPost_ret (v:= .tuple #[.agg #[.int .i64 u0,.int .i64 u1,.int .i64 l0,.int .i64 l1],.bool fd]) (results_cell1 rfl _ _ w.heap.size 127 _ (0,0) _ _ rfl rfl (hS1.out.res _ _ _ _).1 Tryz.underlying127 rfl size_rows) rfl hfin.out
    ·have hnext:=hIq (hst'.out rfl (by rw [hnn.out.2];omega) (by rw [hnn.out.2];omega));rw [hnn.out.1,hnn.out.2] at hnext;have hless:Hid (A - q*B<B):=hIq (hls'.out rfl);obtain⟨C,hC⟩:∃C,A - q*B=C:=⟨_,rfl⟩;have wC:IntKind.i64.wrap (A - q*B)=C:=by rw [IntWalk.i64_in _ (by omega)];exact hC
     rw [hC] at hnext hless;have hC0:Hid (0<=C):=hIq (hnext.out.bd ha0).2.2.1;have hSn:=hIq (hS1.out.step n0 n1);clear hst' hls' hfin hC;go_wp2_with fail
     go_region
     go_wp2_with fail
     exact⟨⟨B,C,l0,l1,n0,n1,true,rfl,rfl,rfl,hnext.out,hSn.out.later (below_drewN (Below.refl _ _) 1)⟩,by have h1:=hless.out;have h2:=hC0.out;simp only [intOf];omega⟩
   ·have hqb:(q==q2)=false:=by simpa using hqe
    clear hst' hls';go_wp2_with fail
    exact bodyPost_ret (v:= .tuple #[.agg #[.int .i64 u0,.int .i64 u1,.int .i64 l0,.int .i64 l1],.bool fd]) (results_cell1 rfl _ _ w.heap.size 127 _ (0,0) _ _ rfl rfl (hS1.out.res _ _ _ _).1 Tryz.underlying127 rfl size_rows) rfl hfin.out
  ·have hf:=hS'.out.facts;obtain⟨r0,r1,r2,r3,f1,f2,f3,f4,f5,f6,f7,f8,cu0,cu1,cl0,cl1,-,-,-,-,hsz⟩:=hf;have hfin:Hid (StP w P VX VY a0 b0 xl yl (.returned (.tuple #[.agg #[.int .i64 u0,.int .i64 u1,.int .i64 l0,.int .i64 l1],.bool fd])) ((((wr.setCell ⟨w.heap.size,0,none⟩ (.int .i64 u0)).setCell ⟨w.heap.size,1,none⟩ (.int .i64 u1)).setCell ⟨w.heap.size,2,none⟩ (.int .i64 l0)).setCell ⟨w.heap.size,3,none⟩ (.int .i64 l1))):=hIq ⟨_,_,_,_,_,_,_,rfl,hR'.out,(hS'.out.res _ _ _ _).2⟩;by_cases hc0:0<B+l0
   ·have hc1:¬0<B+l1:=fun h=>hc ⟨hc0,h⟩
    clear hc;go_wp2_with fail
    exact bodyPost_ret (v:= .tuple #[.agg #[.int .i64 u0,.int .i64 u1,.int .i64 l0,.int .i64 l1],.bool fd]) (results_cell1 rfl _ _ w.heap.size 127 _ (0,0) _ _ rfl rfl (hS'.out.res _ _ _ _).1 Tryz.underlying127 rfl size_rows) rfl hfin.out
   ·clear hc;go_wp2_with fail
    exact bodyPost_ret (v:= .tuple #[.agg #[.int .i64 u0,.int .i64 u1,.int .i64 l0,.int .i64 l1],.bool fd]) (results_cell1 rfl _ _ w.heap.size 127 _ (0,0) _ _ rfl rfl (hS'.out.res _ _ _ _).1 Tryz.underlying127 rfl size_rows) rfl hfin.out
def StepP (w:World)(gy ny cy:Nat)(x y:List Int)(e:Ending)(w':World):Prop:=
 ∃h m q r,e= .returned (.tuple #[.slice (some ⟨gy,0,none⟩) ny cy,.slice (some ⟨h,0,none⟩) m m])/\w.heap.size<=h/\Blk w' h r/\r.length=m/\(m<=y.length/\(y.length<=x.length->m=y.length))/\m<=x.length/\Below w.heap.size w w'/\DivQ x y q r
theorem step_any (a1:Option Addr)(gy n1 n2 c1 c2:Nat)(x y:List Int)(w:World)(hR1:Rdi w a1 x)(hR2:Rdi w (some ⟨gy,0,none⟩) y)(hn1:n1=x.length)(hn2:n2=y.length)(hd1:Dg x)(hd2:Dg y)(hm1:n1<=549755813887)(hm2:n2<=549755813887)(hpos:0<n2)(htop:1<=iat y (n2 - 1)):
 Calls Tryz.prog 152 #[.slice a1 n1 c1,.slice (some ⟨gy,0,none⟩) n2 c2] w (StepP w gy n2 c2 x y):=by
 have D:=hIq (divided_any a1 (some ⟨gy,0,none⟩) n1 n2 c1 c2 x y w hR1 hR2 hn1 hn2 hd1 hd2 hm1 hm2 hpos htop);clear hR1 hR2 hn1 hn2 hd1 hd2 htop
 go_enter Tryz.func152,Tryz.ntmps152
 go_wp2_with (go_at_call 154;(with_reducible refine D.out.mono ?_);rintro e w5 ⟨p1,m1,q,h,m,r,rfl,h1,h2,h3,h4,h5,h6,h7,h8,h9,h10,h11⟩;have hfin:=hIq (show StepP w gy n2 c2 x y (.returned (.tuple #[.slice (some ⟨gy,0,none⟩) n2 c2,.slice (some ⟨h,0,none⟩) m m])) w5 from⟨h,m,q,r,rfl,h4,h5,h6,h10,h9,h7,h11⟩);clear h1 h2 h3 h4 h5 h6 h7 h8 h9 h10 h11)
 go_ret2
 exact hfin.out
structure GcI (w:World)(g:Nat)(gx gy nx cx my cy:Nat)(X Y:List Int)(wr:World):Prop where
 bx:Blk wr gx X
 by_:Blk wr gy Y
 ne:gx≠gy
 ox:w.heap.size<=gx
 oy:w.heap.size<=gy
 lx:nx<=X.length
 cx':nx<=cx
 ly:my=Y.length
 cy':my<=cy
 bcx:cx<=549755813887
 bcy:cy<=549755813887
 dx:Dg X
 dy:Dg Y
 nm:nx<=my
 top:tlen (X.take nx)=nx
 le:val Y<=val (X.take nx)
 gcd:Int.gcd (val (X.take nx)) (val Y)=g
 below:Below w.heap.size w wr
theorem take2 {X:List Int}{k:Nat}(h:k+2<=X.length):val (X.take (k+2))=val (X.take k)+pw k*(iat X (k+1)*1000000000+iat X k):=by
 rw [show k+2=(k+1)+1 by omega,val_take X (k+1) (by omega),val_take X k (by omega)];show _+_+1000000000*pw k*_=_
 grind
section
variable {w wr:World}{g gx gy nx cx my cy k:Nat}{X Y:List Int}
theorem GcI.high (h:GcI w g gx gy nx cx my cy X Y wr):val Y=val (Y.take nx)/\val (Y.drop nx)=0:=by
 have hl:=h.ly;have hn:=h.nm;have hx:=(h.dx.take nx).hi;rw [List.length_take,Nat.min_eq_left h.lx] at hx;have hs:=val_split Y nx (by omega);have h1:=(h.dy.take nx).lo;have h2:=(h.dy.drop nx).lo;have hp:=pw_pos nx;have hle:=h.le
 have h3:val (Y.drop nx)=0:=by
  rcases Int.lt_or_le 0 (val (Y.drop nx))with h4|h4
  ·have:pw nx*1<=pw nx*val (Y.drop nx):=Int.mul_le_mul_of_nonneg_left (by omega) (by omega);omega
  ·omega
 rw [h3] at hs;exact⟨by omega,h3⟩
theorem GcI.rows (h:GcI w g gx gy nx cx my cy X Y wr)(hk:nx=k+2):LhR (pw k) (val (X.take nx)) (val Y) (iat X (k+1)*1000000000+iat X k) (iat Y (k+1)*1000000000+iat Y k) (val (X.take k)) (val (Y.take k)) 1 0 0 1 (iat X (k+1)*1000000000+iat X k) (iat Y (k+1)*1000000000+iat Y k) false:=by
 have hlx:=h.lx;have hnm:=h.nm;have hly:=h.ly;have hh:=h.high;subst hk;have ex:=take2 hlx;have ey:=take2 (X:=Y) (k:=k) (by omega);have x1:=(h.dx.take k).lo;have x2:=(h.dx.take k).hi;have y1:=(h.dy.take k).lo;have y2:=(h.dy.take k).hi;rw [List.length_take,Nat.min_eq_left (by omega)] at x2 y2;have hle:=h.le;have d1:=h.dx.all k;have d2:=h.dx.all (k+1);have d3:=h.dy.all k;have d4:=h.dy.all (k+1);have hp:=pw_pos k;rw [<-hh.1] at ey;refine⟨1,1,0,0,1,rfl,rfl,rfl,rfl,?_⟩;refine Lh.init hp (by rw [ex];grind) (by rw [ey];grind) x1 (by omega) y1 (by omega) (by omega) (by omega) ?_ hle;rw [ex,ey] at hle;generalize iat X (k+1)*1000000000+iat X k=a at*
 generalize iat Y (k+1)*1000000000+iat Y k=b at*
 rcases Int.lt_or_le a b with h1|h1
 ·exfalso;have:pw k*(a+1)<=pw k*b:=Int.mul_le_mul_of_nonneg_left (by omega) (by omega);have e:pw k*(a+1)=pw k*a+pw k:=by grind
  omega
 ·exact h1
theorem drop_eq_of {a b:List Int}{n:Nat}(hl:a.length=b.length)(h:∀j,n<=j->iat a j=iat b j):a.drop n=b.drop n:=by
 apply List.ext_getElem?;intro i;rw [List.getElem?_drop,List.getElem?_drop];have hi:=h (n+i) (by omega);rcases Nat.lt_or_ge (n+i) a.length with h1|h1
 ·have h2:n+i<b.length:=by omega
  simp [iat,List.getD_eq_getElem?_getD,h1,h2] at hi;simp [h1,h2,hi]
 ·rw [List.getElem?_eq_none h1,List.getElem?_eq_none (by omega)]
theorem dg_of_rest {a b:List Int}{n:Nat}(h:Dg (a.take n))(hb:Dg b)(hr:∀j,n<=j->iat a j=iat b j):Dg a:=fun i hi=>by
 rcases Nat.lt_or_ge i n with h1|h1
 ·have:=h.all i;rw [iat_take,if_pos h1] at this;exact this
 ·rw [hr i h1];exact hb.all i
theorem take_tlen_take {l:List Int}(n:Nat):(l.take n).take (tlen (l.take n))=l.take (tlen (l.take n)):=by
 rw [List.take_take,Nat.min_eq_left];have:=tlen_le (l.take n);rw [List.length_take] at this;omega
theorem trim_take {l:List Int}(h:Dg l):val (l.take (tlen l))=val l/\tlen (l.take (tlen l))=tlen l:=by
 have e:=take_tlen h;have hv:=h.lo;refine⟨by rw [e,val_digs];omega,?_⟩;rw [e,tlen_digs,<-e,List.length_take,Nat.min_eq_left (tlen_le l)]
theorem GcI.many (h:GcI w g gx gy nx cx my cy X Y wr){P a0 b0 xl yl u0 u1 l0 l1 a b:Int}{ov un:Int}{zx zy:List Int}{w':World}
 (hR:LhR P (val (X.take nx)) (val Y) a0 b0 xl yl u0 u1 l0 l1 a b true) (hA:ApA X X Y u0 u1 nx ov zx) (hB:ApA Y X Y l0 l1 nx un zy) (hx:Blk w' gx zx) (hy:Blk w' gy zy) (hb:Below w.heap.size w w'):
 GcI w g gx gy (tlen (zx.take nx)) cx my cy zx zy w'/\(val (zx.take (tlen (zx.take nx)))+val zy).toNat<(val (X.take nx)+val Y).toNat:=by
 have hh:=h.high;have hlx:=h.lx;have hX:=(h.dx.take nx).hi;rw [List.length_take,Nat.min_eq_left hlx] at hX;have hX0:=(h.dx.take nx).lo;have hY0:=h.dy.lo;obtain⟨s,U0,U1,L0,L1,rfl,rfl,rfl,rfl,hL⟩:=hR;have hlow:=hL.lowNonneg;have hord:=hL.ord;have htop:=hL.top;have hdec:=hL.dec rfl;have hgcd:=hL.gcd;have e1:s*U0*val (X.take nx)+ -(s*U1)*val (Y.take nx)=s*U0*val (X.take nx) - s*U1*val Y:=by rw [<-hh.1];grind
 have e2: -(s*L0)*val (X.take nx)+s*L1*val (Y.take nx)=s*L1*val Y - s*L0*val (X.take nx):=by rw [<-hh.1];grind
 have v1:=hA.done hlx (by rw [e1];omega) (by rw [e1];omega);have v2:=hB.done (by rw [<-h.ly];exact h.nm) (by rw [e2];omega) (by rw [e2];omega);rw [e1] at v1;rw [e2] at v2;have hdzx:=dg_of_rest hA.dg h.dx hA.rest;have hdzy:=dg_of_rest hB.dg h.dy hB.rest
 have v3:val zy=val (zy.take nx):=by
  have:=val_split zy nx (by rw [hB.len,<-h.ly];exact h.nm);rw [drop_eq_of hB.len hB.rest,hh.2] at this;omega
 have ht:=trim_take (hdzx.take nx);rw [take_tlen_take] at ht;have hle:=tlen_le (zx.take nx);rw [List.length_take] at hle;refine⟨?_,by rw [ht.1,v1,v3,v2];omega⟩;refine{bx:=hx,by_:=hy,ne:=h.ne,ox:=h.ox,oy:=h.oy,lx:=by omega,cx':=by have:=h.cx';omega,ly:=by rw [hB.len];exact h.ly,cy':=h.cy',bcx:=h.bcx,bcy:=h.bcy,dx:=hdzx,dy:=hdzy,nm:=by have:=h.nm;omega,top:=ht.2,le:=by rw [ht.1,v1,v3,v2];exact hord,gcd:=by rw [ht.1,v1,v3,v2,hgcd];exact h.gcd,below:=hb}
theorem GcI.one (h:GcI w g gx gy nx cx my cy X Y wr){h' m:Nat}{q r:List Int}{w':World}(hq:DivQ (X.take nx) (Y.take (tlen Y)) q r)(hr:Blk w' h' r)(hrl:r.length=m)(hml:m<=tlen Y/\(tlen Y<=nx->m=tlen Y))(hh:wr.heap.size<=h')(hb:Below wr.heap.size wr w'):
 GcI w g gy h' (tlen Y) cy m m Y r w'/\(val (Y.take (tlen Y))+val r).toNat<(val (X.take nx)+val Y).toNat:=by
 have ht:=trim_take h.dy;have hlen:=tlen_le Y;have hly:=h.ly;have hX0:=(h.dx.take nx).lo;have hY0:=h.dy.lo;obtain⟨hq1,hq2,hq3,hq4⟩:=hq;rw [ht.1] at hq3 hq4;have hr0:=hq2.lo;have hle:=h.le;have hQ0:=hq1.lo
 -- the divisor has no more digits than the dividend
 have hlt:tlen Y<=nx:=by
  have e1:=digs_val (h.dx.take nx) (by rw [h.top,List.length_take,Nat.min_eq_left h.lx]);have e2:=take_tlen h.dy;have h1:=digs_len_mono (a:=(val Y).toNat) (b:=(val (X.take nx)).toNat) (by omega);rw [e1,<-e2,List.length_take,List.length_take,Nat.min_eq_left hlen,Nat.min_eq_left h.lx] at h1;exact h1
 have hm:=hml.2 hlt;have hsz:=h.by_.lt;refine⟨?_,?_⟩
 ·refine{bx:=h.by_.later hb,by_:=hr,ne:=by omega,ox:=h.oy,oy:=by have:=h.below.size;omega,lx:=hlen,cx':=by have:=h.cy';omega,ly:=hrl.symm,cy':=Nat.le_refl _,bcx:=h.bcy,bcy:=by have:=h.cy';have:=h.bcy;omega,dx:=h.dy,dy:=hq2,nm:=by omega,top:=ht.2,le:=by rw [ht.1];omega,gcd:=?_,below:=below_tr h.below hb};rw [ht.1,<-h.gcd];generalize val (X.take nx)=x at*
  generalize val Y=y at*
  generalize val q=Q at*
  generalize val r=R at*
  have:x=y*Q+R:=by grind
  rw [this,Int.gcd_comm,Int.gcd_comm (y*Q+R),Int.gcd_mul_left_add_right,Int.gcd_comm]
 ·rw [ht.1];have hYp:0<val Y:=by omega
  have:val r<val Y:=hq4;generalize val (X.take nx)=x at*
  generalize val Y=y at*
  generalize val q=Q at*
  generalize val r=R at*
  omega
end
def GcP (w:World)(g:Nat)(e:Ending)(w':World):Prop:=
 ∃p n c l,e= .returned (.slice p n c)/\Rdi w' p l/\n=l.length/\n<=c/\c<=9223372036854775807/\Dg l/\val l=g/\Below w.heap.size w w'/\∀q,p=some q->w.heap.size<=q.block
theorem GcI.stop {w wr:World}{g gx gy nx cx my cy:Nat}{X Y:List Int}(h:GcI w g gx gy nx cx my cy X Y wr)(hz:val Y=0):GcP w g (.returned (.slice (some ⟨gx,0,none⟩) nx cx)) wr:=by
 have hX0:=(h.dx.take nx).lo;refine⟨_,_,_,X.take nx,rfl,Rdi_blk_take h.bx nx,by rw [List.length_take,Nat.min_eq_left h.lx],h.cx',by have:=h.bcx;omega,h.dx.take nx,?_,h.below,fun q hq=>by cases hq;exact h.ox⟩;have:=h.gcd;rw [hz,Int.gcd_zero] at this;omega
def GcX (w:World)(g k:Nat)(s0 s1:Value)(wr:World):Prop:=
 ∃gx gy nx cx my cy X Y,s0= .slice (some ⟨gx,0,none⟩) nx cx/\s1= .slice (some ⟨gy,0,none⟩) my cy/\GcI w g gx gy nx cx my cy X Y wr/\k=(val (X.take nx)+val Y).toNat
theorem gc_start {w w1 w2:World}{x y gx gy n1:Nat}{z1 z2:List Int}(hxy:y<=x)(h1:w.heap.size<=gx)(hB1:Blk w1 gx z1)(hb1:Below w.heap.size w w1)(hz1:z1=cpy (digs x) n1)(hn:n1=(digs x).length)(hm:n1<=549755813887)
 (h2:w1.heap.size<=gy) (hB2:Blk w2 gy z2) (hb2:Below w1.heap.size w1 w2) (hz2:z2=cpy (digs y) n1):
 GcX w (Nat.gcd x y) (x+y) (.slice (some ⟨gx,0,none⟩) n1 n1) (.slice (some ⟨gy,0,none⟩) n1 n1) w2:=by
 have hl:=digs_len_mono hxy;have e1:z1=digs x:=by rw [hz1,hn,cpy_self]
 have hlt:=hB1.lt;have x2:val z2=y:=by rw [hz2,val_cpy _ _ (by omega),val_digs]
 have ht:z1.take n1=digs x:=by rw [e1,hn,List.take_length]
 refine⟨gx,gy,n1,n1,n1,n1,z1,z2,rfl,rfl,?_,by rw [ht,val_digs,x2];omega⟩;refine{bx:=hB1.later hb2,by_:=hB2,ne:=by omega,ox:=h1,oy:=by have:=hb1.size;omega,lx:=by rw [e1,<-hn];exact Nat.le_refl _,cx':=Nat.le_refl _,ly:=by rw [hz2,cpy_length],cy':=Nat.le_refl _,bcx:=hm,bcy:=hm,dx:=by rw [e1];exact Dg_digs _,dy:=?_,nm:=Nat.le_refl _,top:=by rw [ht,tlen_digs,<-hn],le:=by rw [ht,val_digs,x2];omega,gcd:=by rw [ht,val_digs,x2];exact Int.gcd_natCast_natCast x y,below:=below_tr hb1 hb2};rw [hz2];exact Dg_append ((Dg_digs _).take _) (Dg_zeros _)
def GcU (w:World)(g:Nat)(s7 s8:Value)(wr:World):Prop:=
 ∃A B:Nat,s7= .int .u64 (A:Int)/\s8= .int .u64 (B:Int)/\A<18446744073709551616/\B<18446744073709551616/\Nat.gcd A B=g/\Below w.heap.size w wr
theorem GcI.small {w wr:World}{g gx gy nx cx my cy:Nat}{X Y:List Int}(h:GcI w g gx gy nx cx my cy X Y wr)(h2:nx<=2):GcU w g (.int .u64 (NumI (X.take nx) 0)) (.int .u64 (NumI Y 0)) wr:=by
 have hX0:=(h.dx.take nx).lo;have hX:=(h.dx.take nx).hi;rw [List.length_take,Nat.min_eq_left h.lx] at hX;have hp:=pw_mono h2;have h2':pw 2=1000000000000000000:=by decide
 have hY0:=h.dy.lo;have hle:=h.le;have hg:=h.gcd;have e1:NumI (X.take nx) 0=val (X.take nx):=by unfold NumI;rw [List.drop_zero];omega
 have e2:NumI Y 0=val Y:=by unfold NumI;rw [List.drop_zero];omega
 rw [e1,e2];generalize val (X.take nx)=x at*
 generalize val Y=y at*
 obtain⟨A,rfl⟩:∃A:Nat,x=A:=⟨x.toNat,by omega⟩;obtain⟨B,rfl⟩:∃B:Nat,y=B:=⟨y.toNat,by omega⟩;exact⟨A,B,rfl,rfl,by omega,by omega,by rw [<-hg];exact(Int.gcd_natCast_natCast A B).symm,h.below⟩
theorem GcI.later {w wr w':World}{g gx gy nx cx my cy:Nat}{X Y:List Int}(h:GcI w g gx gy nx cx my cy X Y wr)(hb:Below wr.heap.size wr w'):GcI w g gx gy nx cx my cy X Y w':=
 {bx:=h.bx.later hb,by_:=h.by_.later hb,ne:=h.ne,ox:=h.ox,oy:=h.oy,lx:=h.lx,cx':=h.cx',ly:=h.ly,cy':=h.cy',bcx:=h.bcx,bcy:=h.bcy,dx:=h.dx,dy:=h.dy,nm:=h.nm,top:=h.top,le:=h.le,gcd:=h.gcd,below:=below_tr h.below hb}
theorem GcI.topY {w wr:World}{g gx gy nx cx my cy:Nat}{X Y:List Int}(h:GcI w g gx gy nx cx my cy X Y wr)(hz:tlen Y≠0):1<=iat (Y.take (tlen Y)) (tlen Y - 1):=by
 have e:=take_tlen h.dy;have hv:=h.dy.lo
 have hn:(val Y).toNat≠0:=fun h0=>by
  rw [h0,digs_zero] at e;have:=congrArg List.length e;rw [List.length_take,List.length_nil] at this;have:=tlen_le Y;omega
 have h1:=digs_top hn;rw [<-e,List.length_take,Nat.min_eq_left (tlen_le Y)] at h1;have h2:=((h.dy.take (tlen Y)).all (tlen Y - 1)).1;omega
theorem gcd_any (a1 a2:Option Addr)(n1 n2 c1 c2:Nat)(x y:Nat)(w:World)(hR1:Rdi w a1 (digs x))(hR2:Rdi w a2 (digs y))(hn1:n1=(digs x).length)(hn2:n2=(digs y).length)(hm:n1<=549755813887)(hxy:y<=x):
 Calls Tryz.prog 143 #[.slice a1 n1 c1,.slice a2 n2 c2] w (GcP w (Nat.gcd x y)):=by
 have hc1:Hid (Calls Tryz.prog 106 #[.slice a1 n1 c1,.int .i64 (n1:Int)] w (NewN w n1 fun z=>z=cpy (digs x) n1)):=hIq (copied_any a1 n1 c1 (digs x) n1 w hR1 hn1 (by omega));have hc2:Hid (∀W,Below w.heap.size w W->Calls Tryz.prog 106 #[.slice a2 n2 c2,.int .i64 (n1:Int)] W (NewN W n1 fun z=>z=cpy (digs y) n1)):=hIq fun W hb=>copied_any a2 n2 c2 (digs y) n1 W (Rdi_below hb hR2) hn2 (by omega)
 have hst:=hIq (fun w1 w2 gx gy z1 z2=>@gc_start w w1 w2 x y gx gy n1 z1 z2 hxy);have hn1':=hIq hn1;obtain⟨g,hg0⟩:∃g,Nat.gcd x y=g:=⟨_,rfl⟩;rw [hg0] at hst ⊢;clear hR1 hR2 hn1 hn2 hg0
 go_enter Tryz.func143,Tryz.ntmps143
 go_upto_region 2 with(first
  |(go_at_call 106;(with_reducible refine hc1.out.mono ?_);rintro e w1 ⟨gx,z1,rfl,hg1,hB1,hb1,hl1,hz1⟩;have hgx:=hIq hg1;have hBx:=hIq hB1;have hbx:=hIq hb1;have hzx:=hIq hz1;clear hB1 hb1 hl1 hz1)
  |(go_at_call 106;(with_reducible refine(hc2.out _ hbx.out).mono ?_);rintro e w2 ⟨gy,z2,rfl,hg2,hB2,hb2,hl2,hz2⟩;have hgy:=hIq hg2;have hBy:=hIq hB2;have hby:=hIq hb2;have hzy:=hIq hz2;clear hB2 hb2 hl2 hz2))
 have hI:Hid (GcX w g (x+y) (.slice (some ⟨gx,0,none⟩) n1 n1) (.slice (some ⟨gy,0,none⟩) n1 n1) w2):=hIq (hst.out _ _ _ _ _ _ hgx.out hBx.out hbx.out hzx.out hn1'.out hm hgy.out hBy.out hby.out hzy.out);clear hst hc1 hc2 hgx hBx hbx hzx hgy hBy hby hzy hg1 hg2 hn1'
 go_loopg [0,1] (x+y) (fun k s0 s1 wr=>GcX w g k s0 s1 wr)
 case atStart=>exact hI.out
 case round=>
  clear hI;obtain⟨gx,gy,nx,cx,my,cy,X,Y,rfl,rfl,hG0,rfl⟩:=hrel;have hG:=hIq hG0;have hnx:=hG0.lx;have hcx:=hG0.cx';have hnm:=hG0.nm;have hcy:=hG0.cy';have hbcx:=hG0.bcx;have hbcy:=hG0.bcy;clear hG0;by_cases h2:2<nx
  ·obtain⟨k,rfl⟩:∃k,nx=k+2:=⟨nx - 2,by omega⟩
   have hsp:Hid (Calls Tryz.prog 150 #[.slice (some ⟨gx,0,none⟩) (k+2) cx,.slice (some ⟨gy,0,none⟩) my cy] wr (StP wr (pw k) (val (X.take (k+2))) (val Y) (iat X (k+1)*1000000000+iat X k) (iat Y (k+1)*1000000000+iat Y k) (val (X.take k)) (val (Y.take k)))):=hIq (by
    refine steps_any _ _ _ _ _ _ (X.take (k+2)) Y wr (Rdi_blk_take hG.out.bx _) hG.out.by_.rdi (by rw [List.length_take];omega) hG.out.ly.symm hnm (by omega) (hG.out.dx.take _) hG.out.dy _ _ _ _ _ ?_ rfl (hG.out.rows rfl)
    rw [iat_take,iat_take,if_pos (by omega),if_pos (by omega)])
   have hA0:Hid (iat X (k+1)*1000000000+iat X k<1000000000000000000):=hIq (by have h3:=hG.out.dx.all (k+1);have h4:=hG.out.dx.all k;omega);generalize iat X (k+1)*1000000000+iat X k=a0 at hsp hA0;generalize iat Y (k+1)*1000000000+iat Y k=b0 at hsp;generalize pw k=P at hsp;generalize val (X.take k)=xl at hsp;generalize val (Y.take k)=yl at hsp;have hk0:(0:Int)<(k:Int):=by omega
   go_upto_region 5 with(go_at_call 150;(with_reducible refine hsp.out.mono ?_);rintro e w1 ⟨u0,u1,l0,l1,a,b,fd,rfl,hR,hb1⟩;have hR':=hIq hR;have hb1':=hIq hb1;clear hR hb1)
   have hG1:=hIq ((hG.out.later hb1'.out).later (below_new w1 (.cells #[.int .i64 u0,.int .i64 u1,.int .i64 l0,.int .i64 l1] 127)));have hbx:(w1.alloc (.cells #[.int .i64 u0,.int .i64 u1,.int .i64 l0,.int .i64 l1] 127)).heap[w1.heap.size]? =some (.cells #[.int .i64 u0,.int .i64 u1,.int .i64 l0,.int .i64 l1] 127 (0,0)):=heap_alloc_new w1 _;generalize w1.alloc (.cells #[.int .i64 u0,.int .i64 u1,.int .i64 l0,.int .i64 l1] 127)=W1 at hG1 hbx ⊢;generalize w1.heap.size=gb at hbx ⊢;have c0:W1.cell? ⟨gb,0,none⟩=some (.int .i64 u0):=by simp [World.cell?,hbx]
   have c1:W1.cell? ⟨gb,1,none⟩=some (.int .i64 u1):=by simp [World.cell?,hbx]
   have c2:W1.cell? ⟨gb,2,none⟩=some (.int .i64 l0):=by simp [World.cell?,hbx]
   have c3:W1.cell? ⟨gb,3,none⟩=some (.int .i64 l1):=by simp [World.cell?,hbx]
   clear hsp hG hb1' hbx;cases fd with
   |true=>
    have hap:Hid (Calls Tryz.prog 151 #[.agg #[.int .i64 u0,.int .i64 u1,.int .i64 l0,.int .i64 l1],.slice (some ⟨gx,0,none⟩) (k+2) cx,.slice (some ⟨gy,0,none⟩) my cy] W1 (ApP W1 gx gy X Y u0 u1 l0 l1 (k+2))):=hIq (by
     obtain⟨-,-,-,-,d4,d5,d6,d7,d8,d9,d10,d11,-⟩:=hR'.out.bd hA0.out
     exact apply_any gx gy (k+2) my cx cy X Y u0 u1 l0 l1 W1 hG1.out.bx hG1.out.by_ hG1.out.ne hG1.out.lx (by rw [<-hG1.out.ly];exact hnm) hnm (by omega) hG1.out.dx hG1.out.dy d4 d5 d6 d7 d8 d9 d10 d11)
    go_wp2_with (first
     |(go_at_call 151;(with_reducible refine hap.out.mono ?_);rintro e w3 ⟨ov,un,zx,zy,rfl,hA,hB,hx,hy,hO⟩;have hmany:=hIq (hG1.out.many hR'.out hA hB hx hy (hO.below hG1.out.below hG1.out.ox hG1.out.oy hG1.out.below.size));have htr:=hIq (trimmed_any (some ⟨gx,0,none⟩) (k+2) cx (zx.take (k+2)) w3 (Rdi_blk_take hx _) (by rw [List.length_take,hA.len];omega) hcx (by omega));clear hA hB hx hy hO)
     |(go_at_call 137;(with_reducible refine htr.out.mono ?_);rintro e w4 ⟨rfl,rfl⟩))
    go_roundg ((val (zx.take (tlen (zx.take (k+2))))+val zy).toNat)
    case measure=>exact hmany.out.2
    case rel=>exact⟨_,_,_,_,_,_,zx,zy,rfl,rfl,hmany.out.1,rfl⟩
   |false=>
    have htr:=hIq (trimmed_any (some ⟨gy,0,none⟩) my cy Y W1 hG1.out.by_.rdi hG1.out.ly hcy (by omega));have hstop:=hIq (fun h=>hG1.out.stop h);have x0:=hIq (trim_take hG1.out.dy);by_cases hz:tlen Y=0
    ·have hfin:Hid (GcP w g (.returned (.slice (some ⟨gx,0,none⟩) (k+2) cx)) W1):=hIq (hstop.out (by have h1:=x0.out.1;rw [hz,List.take_zero] at h1;exact h1.symm));rw [hz] at htr;clear x0 hstop hz;go_wp2_with (go_at_call 137;(with_reducible refine htr.out.mono ?_);rintro e w4 ⟨rfl,rfl⟩)
     go_ret
     exact hfin.out
    ·have hstp:Hid (Calls Tryz.prog 152 #[.slice (some ⟨gx,0,none⟩) (k+2) cx,.slice (some ⟨gy,0,none⟩) (tlen Y) cy] W1 (StepP W1 gy (tlen Y) cy (X.take (k+2)) (Y.take (tlen Y)))):=hIq (by
      have h1:=tlen_le Y;have h2:=hG1.out.ly
      exact step_any _ _ _ _ _ _ _ _ _ (Rdi_blk_take hG1.out.bx _) (Rdi_blk_take hG1.out.by_ _) (by rw [List.length_take];omega) (by rw [List.length_take];omega) (hG1.out.dx.take _) (hG1.out.dy.take _) (by omega) (by omega) (by omega) (hG1.out.topY hz))
     have hone:=hIq (fun h' m q r w' h1 h2 h3 h4 h5 h6=>@GcI.one w W1 g gx gy (k+2) cx my cy X Y hG1.out h' m q r w' h1 h2 h3 h4 h5 h6);have htl:Hid ((Y.take (tlen Y)).length=tlen Y/\(X.take (k+2)).length=k+2):=hIq ⟨by rw [List.length_take];have:=tlen_le Y;omega,by rw [List.length_take];omega⟩;have htt:Hid (tlen (Y.take (tlen Y))=tlen Y):=hIq x0.out.2;have hDY:=hIq hG1.out.dy;have htc:Hid (tlen Y<=cy):=hIq (by have h1:=tlen_le Y;have h2:=hG1.out.ly;omega);obtain⟨t,ht⟩:∃t,tlen Y=t:=⟨_,rfl⟩;rw [ht] at htr hstp hone htl htt x0 htc hz;have ht':=hIq ht;have t0:((t:Int)==0)=false:=by simp;omega
     clear hstop ht
     go_wp2_with (first
      |(go_at_call 152;(with_reducible refine hstp.out.mono ?_);rintro e w3 ⟨h',m,q,r,rfl,hh,hr,hrl,hml,hmx,hb,hq⟩;have hnew:=hIq (hone.out h' m q r w3 hq hr hrl (by rw [<-ht'.out] at hml ⊢;have e1:=htl.out.1;have e2:=htl.out.2;rw [<-ht'.out] at e1;rw [e1,e2] at hml;exact hml) hh hb);have htr2:=hIq (trimmed_any (some ⟨gy,0,none⟩) t cy (Y.take t) w3 (Rdi_blk_take (hG1.out.by_.later hb) _) htl.out.1.symm htc.out (by have:=htc.out;omega));rw [htt.out] at htr2;clear hh hr hrl hml hmx hb hq)
      |(go_at_call 137;(with_reducible refine htr2.out.mono ?_);rintro e w4 ⟨rfl,rfl⟩)
      |(go_at_call 137;(with_reducible refine htr.out.mono ?_);rintro e w4 ⟨rfl,rfl⟩))
     go_roundg ((val (Y.take t)+val r).toNat)
     case measure=>exact hnew.out.2
     case rel=>exact⟨_,_,_,_,_,_,Y,r,rfl,rfl,hnew.out.1,rfl⟩
  ·have hnum1:Hid (∀W,wr=W->Calls Tryz.prog 153 #[.slice (some ⟨gx,0,none⟩) nx cx] W fun e w'=>e= .returned (.int .u64 (NumI (X.take nx) 0))/\W=w'):=hIq (by rintro W rfl;exact number_any _ _ _ _ wr (Rdi_blk_take hG.out.bx _) (by rw [List.length_take];omega) (hG.out.dx.take _) (by omega));have hnum2:Hid (∀W,wr=W->Calls Tryz.prog 153 #[.slice (some ⟨gy,0,none⟩) my cy] W fun e w'=>e= .returned (.int .u64 (NumI Y 0))/\W=w'):=hIq (by rintro W rfl;exact number_any _ _ _ _ wr hG.out.by_.rdi hG.out.ly hG.out.dy (by omega));have hU:=hIq (hG.out.small (by omega));have hn2:¬(2:Int)<(nx:Int):=by omega
   generalize NumI (X.take nx) 0=A0 at hnum1 hU;generalize NumI Y 0=B0 at hnum2 hU;clear hG h2
   go_upto_region 11 with(first
    |(go_at_call 153;(with_reducible refine(hnum1.out _ rfl).mono ?_);rintro e w4 ⟨rfl,rfl⟩)
    |(go_at_call 153;(with_reducible refine(hnum2.out _ rfl).mono ?_);rintro e w4 ⟨rfl,rfl⟩))
   clear hnum1 hnum2
   obtain⟨A,B,rfl,rfl,hA,hB,hg,hb⟩:∃A B:Nat,A0=(A:Int)/\B0=(B:Int)/\A<18446744073709551616/\B<18446744073709551616/\Nat.gcd A B=g/\Below w.heap.size w wr:=by
    obtain⟨A,B,h1,h2,h3⟩:=hU.out;cases h1;cases h2;exact⟨A,B,rfl,rfl,h3⟩
   have hI:Hid (GcU w g (.int .u64 (A:Int)) (.int .u64 (B:Int)) wr):=hIq ⟨A,B,rfl,rfl,hA,hB,hg,hb⟩;clear hU hA hB hg hb
   go_loopw [7,8] (fun s7 s8 wr=>GcU w g s7 s8 wr) (fun _ s8 _=>(intOf s8).toNat)
   case atStart=>exact hI.out
   case round=>
    clear hI;obtain⟨A,B,rfl,rfl,hA,hB,hg,hb⟩:=hrel;by_cases hB0:B=0
    ·subst hB0;have hAg:A=g:=by rw [<-hg,Nat.gcd_zero_right]
     subst hAg;have hdo:=hIq (fun W=>digitsOf_any A hA W);have hb':=hIq hb;clear hg hb;rw [show((0:Nat):Int)=0 from rfl]
     go_wp2_with (go_at_call 136;(with_reducible refine(hdo.out _).mono ?_);rintro e w5 ⟨g5,n5,l5,rfl,hg5,hb5,hB5,hl5,x5⟩;have hfin:Hid (GcP w A (.returned (.slice (some ⟨g5,0,none⟩) n5 n5)) w5):=hIq (by
      have h3:(digs A).length<=3:=digs_len_le (by rw [show pw 3=1000000000000000000000000000 by decide];omega)
      exact⟨_,_,_,l5,rfl,hb5.rdi,hl5.symm,Nat.le_refl _,by rw [<-hl5,x5];omega,by rw [x5];exact Dg_digs _,by rw [x5];exact val_digs _,below_tr hb'.out hB5,fun q hq=>by cases hq;exact Nat.le_trans hb'.out.size hg5⟩);clear hb5 hB5 hl5 x5)
     go_ret
     exact hfin.out
    ·obtain⟨C,hC⟩:∃C,A % B=C:=⟨_,rfl⟩;have hCB:C<B:=by rw [<-hC];exact Nat.mod_lt _ (by omega)
     have e1:((A:Int)).tmod (B:Int)=(C:Int):=by rw [Int.tmod_eq_emod_of_nonneg (by omega),<-hC];exact(Int.natCast_emod A B).symm
     have hnew:Hid (GcU w g (.int .u64 (B:Int)) (.int .u64 (C:Int)) wr):=hIq ⟨B,C,rfl,rfl,hB,by omega,by rw [<-hg,<-hC,Nat.gcd_comm B,<-Nat.gcd_rec,Nat.gcd_comm],hb⟩;have b0:(0:Int)<(B:Int):=by omega
     have b1:¬(B:Int)=0:=by omega
     have bz:((B:Int)==0)=false:=by simp;omega
     have hms:=hIq hCB;clear hC hCB hg hb hB0 hA hB;go_wp2_with fail
     go_region
     go_wp2_with fail
     obtain⟨A',B',h1,h2,h3,h4,h5,h6⟩:=hnew.out;exact⟨⟨A',B',h1,h2,h3,h4,h5,below_drewN h6 1⟩,by simp only [intOf];have:=hms.out;omega⟩
end Go.Proofs.YteacdbgalloaiaaGreat
