/- Contracts of the packages integer, rat, plane, polygon and their references. -/
import Derived.Test.YteacdbgalloaiaaGreatH9
import Derived.Test.YteacdbgalloaiaaGreatH4
import Derived.Test.YteacdbgalloaiaaGreatH8
import Derived.Test.YteacdbgalloaiaaGreatH6
set_option linter.unusedVariables false
set_option maxRecDepth 100000
set_option maxHeartbeats 6400000
namespace Go.Proofs.YteacdbgalloaiaaGreat
open Go.RowKit
def GcX (w:World)(g k:Nat)(s0 s1:Value)(wr:World):Prop:=
 ∃gx gy nx cx my cy X Y,s0= .slice (some ⟨gx,0,none⟩) nx cx/\s1= .slice (some ⟨gy,0,none⟩) my cy/\GcI w g gx gy nx cx my cy X Y wr/\k=(val (X.take nx)+val Y).toNat
theorem gc_start {w w1 w2:World}{x y gx gy n1:Nat}{z1 z2:List Int}(hxy:y<=x)(h1:w.heap.size<=gx)(hB1:Blk w1 gx z1)(hb1:Below w.heap.size w w1)(hz1:z1=cpy (digs x) n1)(hn:n1=(digs x).length)(hm:n1<=549755813887)
 (h2:w1.heap.size<=gy) (hB2:Blk w2 gy z2) (hb2:Below w1.heap.size w1 w2) (hz2:z2=cpy (digs y) n1):
 GcX w (Nat.gcd x y) (x+y) (.slice (some ⟨gx,0,none⟩) n1 n1) (.slice (some ⟨gy,0,none⟩) n1 n1) w2:=by
 have hl:=digs_len_mono hxy;have e1:z1=digs x:=by rw [hz1,hn,cpy_self]
 have hlt:=hB1.lt;have x2:val z2=y:=by rw [hz2,val_cpy _ _ (by omega),val_digs]
 have ht:z1.take n1=digs x:=by rw [e1,hn,List.take_length]
 refine⟨gx,gy,n1,n1,n1,n1,z1,z2,rfl,rfl,?_,by rw [ht,val_digs,x2];omega⟩;refine{bx:=hB1.later hb2,by_:=hB2,ne:=by omega,ox:=h1,oy:=by have:=hb1.size;omega,lx:=by rw [e1,<-hn];exact Nat.le_refl _,cx':=Nat.le_refl _,ly:=by rw [hz2,cpy_length],cy':=Nat.le_refl _,bcx:=hm,bcy:=hm,dx:=by rw [e1];exact Dg_digs _,dy:=?_,nm:=Nat.le_refl _,top:=by rw [ht,tlen_digs,<-hn],le:=by rw [ht,val_digs,x2];omega,gcd:=by rw [ht,val_digs,x2];exact Int.gcd_natCast_natCast x y,below:=below_tr hb1 hb2};rw [hz2];exact Dg_append ((Dg_digs _).take _) (Dg_zeros _)
def GcU (w:World)(g:Nat)(s7 s8:Value)(wr:World):Prop:=
 ∃A B:Nat,s7= .int .u64 (A:Int)/\s8= .int .u64 (B:Int)/\A<18446744073709551616/\B<18446744073709551616/\Nat.gcd A B=g/\Below w.heap.size w wr
theorem GcI.small {w wr:World}{g gx gy nx cx my cy:Nat}{X Y:List Int}(h:GcI w g gx gy nx cx my cy X Y wr)(h2:nx<=2):GcU w g (.int .u64 (NumI (X.take nx) 0)) (.int .u64 (NumI Y 0)) wr:=by
 have hX0:=(h.dx.take nx).lo;have hX:=(h.dx.take nx).hi;rw [List.length_take,Nat.min_eq_left h.lx] at hX;have hp:=pw_mono h2;have h2':pw 2=1000000000000000000:=by decide
 have hY0:=h.dy.lo;have hle:=h.le;have hg:=h.gcd;have e1:NumI (X.take nx) 0=val (X.take nx):=by unfold NumI;rw [List.drop_zero];omega
 have e2:NumI Y 0=val Y:=by unfold NumI;rw [List.drop_zero];omega
 rw [e1,e2];generalize val (X.take nx)=x at*
 generalize val Y=y at*
 obtain⟨A,rfl⟩:∃A:Nat,x=A:=⟨x.toNat,by omega⟩;obtain⟨B,rfl⟩:∃B:Nat,y=B:=⟨y.toNat,by omega⟩;exact⟨A,B,rfl,rfl,by omega,by omega,by rw [<-hg];exact(Int.gcd_natCast_natCast A B).symm,h.below⟩
theorem GcI.later {w wr w':World}{g gx gy nx cx my cy:Nat}{X Y:List Int}(h:GcI w g gx gy nx cx my cy X Y wr)(hb:Below wr.heap.size wr w'):GcI w g gx gy nx cx my cy X Y w':=
 {bx:=h.bx.later hb,by_:=h.by_.later hb,ne:=h.ne,ox:=h.ox,oy:=h.oy,lx:=h.lx,cx':=h.cx',ly:=h.ly,cy':=h.cy',bcx:=h.bcx,bcy:=h.bcy,dx:=h.dx,dy:=h.dy,nm:=h.nm,top:=h.top,le:=h.le,gcd:=h.gcd,below:=below_tr h.below hb}
theorem GcI.topY {w wr:World}{g gx gy nx cx my cy:Nat}{X Y:List Int}(h:GcI w g gx gy nx cx my cy X Y wr)(hz:tlen Y≠0):1<=iat (Y.take (tlen Y)) (tlen Y - 1):=by
 have e:=take_tlen h.dy;have hv:=h.dy.lo
 have hn:(val Y).toNat≠0:=fun h0=>by
  rw [h0,digs_zero] at e;have:=congrArg List.length e;rw [List.length_take,List.length_nil] at this;have:=tlen_le Y;omega
 have h1:=digs_top hn;rw [<-e,List.length_take,Nat.min_eq_left (tlen_le Y)] at h1;have h2:=((h.dy.take (tlen Y)).all (tlen Y - 1)).1;omega
theorem gcd_any (a1 a2:Option Addr)(n1 n2 c1 c2:Nat)(x y:Nat)(w:World)(hR1:Rdi w a1 (digs x))(hR2:Rdi w a2 (digs y))(hn1:n1=(digs x).length)(hn2:n2=(digs y).length)(hm:n1<=549755813887)(hxy:y<=x):
 Calls Tryz.prog 143 #[.slice a1 n1 c1,.slice a2 n2 c2] w (GcP w (Nat.gcd x y)):=by
 have hc1:Hid (Calls Tryz.prog 106 #[.slice a1 n1 c1,.int .i64 (n1:Int)] w (NewN w n1 fun z=>z=cpy (digs x) n1)):=hIq (copied_any a1 n1 c1 (digs x) n1 w hR1 hn1 (by omega));have hc2:Hid (∀W,Below w.heap.size w W->Calls Tryz.prog 106 #[.slice a2 n2 c2,.int .i64 (n1:Int)] W (NewN W n1 fun z=>z=cpy (digs y) n1)):=hIq fun W hb=>copied_any a2 n2 c2 (digs y) n1 W (Rdi_below hb hR2) hn2 (by omega)
 have hst:=hIq (fun w1 w2 gx gy z1 z2=>@gc_start w w1 w2 x y gx gy n1 z1 z2 hxy);have hn1':=hIq hn1;obtain⟨g,hg0⟩:∃g,Nat.gcd x y=g:=⟨_,rfl⟩;rw [hg0] at hst ⊢;clear hR1 hR2 hn1 hn2 hg0
 go_enter Tryz.func143,Tryz.ntmps143
 go_upto_region 2 with(first
  |(go_at_call 106;(with_reducible refine hc1.out.mono ?_);rintro e w1 ⟨gx,z1,rfl,hg1,hB1,hb1,hl1,hz1⟩;have hgx:=hIq hg1;have hBx:=hIq hB1;have hbx:=hIq hb1;have hzx:=hIq hz1;clear hB1 hb1 hl1 hz1)
  |(go_at_call 106;(with_reducible refine(hc2.out _ hbx.out).mono ?_);rintro e w2 ⟨gy,z2,rfl,hg2,hB2,hb2,hl2,hz2⟩;have hgy:=hIq hg2;have hBy:=hIq hB2;have hby:=hIq hb2;have hzy:=hIq hz2;clear hB2 hb2 hl2 hz2))
 have hI:Hid (GcX w g (x+y) (.slice (some ⟨gx,0,none⟩) n1 n1) (.slice (some ⟨gy,0,none⟩) n1 n1) w2):=hIq (hst.out _ _ _ _ _ _ hgx.out hBx.out hbx.out hzx.out hn1'.out hm hgy.out hBy.out hby.out hzy.out);clear hst hc1 hc2 hgx hBx hbx hzx hgy hBy hby hzy hg1 hg2 hn1'
 go_loopg [0,1] (x+y) (fun k s0 s1 wr=>GcX w g k s0 s1 wr)
 case atStart=>exact hI.out
 case round=>
  clear hI;obtain⟨gx,gy,nx,cx,my,cy,X,Y,rfl,rfl,hG0,rfl⟩:=hrel;have hG:=hIq hG0;have hnx:=hG0.lx;have hcx:=hG0.cx';have hnm:=hG0.nm;have hcy:=hG0.cy';have hbcx:=hG0.bcx;have hbcy:=hG0.bcy;clear hG0;by_cases h2:2<nx
  ·obtain⟨k,rfl⟩:∃k,nx=k+2:=⟨nx - 2,by omega⟩
   have hsp:Hid (Calls Tryz.prog 150 #[.slice (some ⟨gx,0,none⟩) (k+2) cx,.slice (some ⟨gy,0,none⟩) my cy] wr (StP wr (pw k) (val (X.take (k+2))) (val Y) (iat X (k+1)*1000000000+iat X k) (iat Y (k+1)*1000000000+iat Y k) (val (X.take k)) (val (Y.take k)))):=hIq (by
    refine steps_any _ _ _ _ _ _ (X.take (k+2)) Y wr (Rdi_blk_take hG.out.bx _) hG.out.by_.rdi (by rw [List.length_take];omega) hG.out.ly.symm hnm (by omega) (hG.out.dx.take _) hG.out.dy _ _ _ _ _ ?_ rfl (hG.out.rows rfl)
    rw [iat_take,iat_take,if_pos (by omega),if_pos (by omega)])
   have hA0:Hid (iat X (k+1)*1000000000+iat X k<1000000000000000000):=hIq (by have h3:=hG.out.dx.all (k+1);have h4:=hG.out.dx.all k;omega);generalize iat X (k+1)*1000000000+iat X k=a0 at hsp hA0;generalize iat Y (k+1)*1000000000+iat Y k=b0 at hsp;generalize pw k=P at hsp;generalize val (X.take k)=xl at hsp;generalize val (Y.take k)=yl at hsp;have hk0:(0:Int)<(k:Int):=by omega
   go_upto_region 5 with(go_at_call 150;(with_reducible refine hsp.out.mono ?_);rintro e w1 ⟨u0,u1,l0,l1,a,b,fd,rfl,hR,hb1⟩;have hR':=hIq hR;have hb1':=hIq hb1;clear hR hb1)
   have hG1:=hIq ((hG.out.later hb1'.out).later (below_new w1 (.cells #[.int .i64 u0,.int .i64 u1,.int .i64 l0,.int .i64 l1] 127)));have hbx:(w1.alloc (.cells #[.int .i64 u0,.int .i64 u1,.int .i64 l0,.int .i64 l1] 127)).heap[w1.heap.size]? =some (.cells #[.int .i64 u0,.int .i64 u1,.int .i64 l0,.int .i64 l1] 127 (0,0)):=heap_alloc_new w1 _;generalize w1.alloc (.cells #[.int .i64 u0,.int .i64 u1,.int .i64 l0,.int .i64 l1] 127)=W1 at hG1 hbx ⊢;generalize w1.heap.size=gb at hbx ⊢;have c0:W1.cell? ⟨gb,0,none⟩=some (.int .i64 u0):=by simp [World.cell?,hbx]
   have c1:W1.cell? ⟨gb,1,none⟩=some (.int .i64 u1):=by simp [World.cell?,hbx]
   have c2:W1.cell? ⟨gb,2,none⟩=some (.int .i64 l0):=by simp [World.cell?,hbx]
   have c3:W1.cell? ⟨gb,3,none⟩=some (.int .i64 l1):=by simp [World.cell?,hbx]
   clear hsp hG hb1' hbx;cases fd with
   |true=>
    have hap:Hid (Calls Tryz.prog 151 #[.agg #[.int .i64 u0,.int .i64 u1,.int .i64 l0,.int .i64 l1],.slice (some ⟨gx,0,none⟩) (k+2) cx,.slice (some ⟨gy,0,none⟩) my cy] W1 (ApP W1 gx gy X Y u0 u1 l0 l1 (k+2))):=hIq (by
     obtain⟨-,-,-,-,d4,d5,d6,d7,d8,d9,d10,d11,-⟩:=hR'.out.bd hA0.out
     exact apply_any gx gy (k+2) my cx cy X Y u0 u1 l0 l1 W1 hG1.out.bx hG1.out.by_ hG1.out.ne hG1.out.lx (by rw [<-hG1.out.ly];exact hnm) hnm (by omega) hG1.out.dx hG1.out.dy d4 d5 d6 d7 d8 d9 d10 d11)
    go_wp2_with (first
     |(go_at_call 151;(with_reducible refine hap.out.mono ?_);rintro e w3 ⟨ov,un,zx,zy,rfl,hA,hB,hx,hy,hO⟩;have hmany:=hIq (hG1.out.many hR'.out hA hB hx hy (hO.below hG1.out.below hG1.out.ox hG1.out.oy hG1.out.below.size));have htr:=hIq (trimmed_any (some ⟨gx,0,none⟩) (k+2) cx (zx.take (k+2)) w3 (Rdi_blk_take hx _) (by rw [List.length_take,hA.len];omega) hcx (by omega));clear hA hB hx hy hO)
     |(go_at_call 137;(with_reducible refine htr.out.mono ?_);rintro e w4 ⟨rfl,rfl⟩))
    go_roundg ((val (zx.take (tlen (zx.take (k+2))))+val zy).toNat)
    case measure=>exact hmany.out.2
    case rel=>exact⟨_,_,_,_,_,_,zx,zy,rfl,rfl,hmany.out.1,rfl⟩
   |false=>
    have htr:=hIq (trimmed_any (some ⟨gy,0,none⟩) my cy Y W1 hG1.out.by_.rdi hG1.out.ly hcy (by omega));have hstop:=hIq (fun h=>hG1.out.stop h);have x0:=hIq (trim_take hG1.out.dy);by_cases hz:tlen Y=0
    ·have hfin:Hid (GcP w g (.returned (.slice (some ⟨gx,0,none⟩) (k+2) cx)) W1):=hIq (hstop.out (by have h1:=x0.out.1;rw [hz,List.take_zero] at h1;exact h1.symm));rw [hz] at htr;clear x0 hstop hz;go_wp2_with (go_at_call 137;(with_reducible refine htr.out.mono ?_);rintro e w4 ⟨rfl,rfl⟩)
     go_ret
     exact hfin.out
    ·have hstp:Hid (Calls Tryz.prog 152 #[.slice (some ⟨gx,0,none⟩) (k+2) cx,.slice (some ⟨gy,0,none⟩) (tlen Y) cy] W1 (StepP W1 gy (tlen Y) cy (X.take (k+2)) (Y.take (tlen Y)))):=hIq (by
      have h1:=tlen_le Y;have h2:=hG1.out.ly
      exact step_any _ _ _ _ _ _ _ _ _ (Rdi_blk_take hG1.out.bx _) (Rdi_blk_take hG1.out.by_ _) (by rw [List.length_take];omega) (by rw [List.length_take];omega) (hG1.out.dx.take _) (hG1.out.dy.take _) (by omega) (by omega) (by omega) (hG1.out.topY hz))
     have hone:=hIq (fun h' m q r w' h1 h2 h3 h4 h5 h6=>@GcI.one w W1 g gx gy (k+2) cx my cy X Y hG1.out h' m q r w' h1 h2 h3 h4 h5 h6);have htl:Hid ((Y.take (tlen Y)).length=tlen Y/\(X.take (k+2)).length=k+2):=hIq ⟨by rw [List.length_take];have:=tlen_le Y;omega,by rw [List.length_take];omega⟩;have htt:Hid (tlen (Y.take (tlen Y))=tlen Y):=hIq x0.out.2;have hDY:=hIq hG1.out.dy;have htc:Hid (tlen Y<=cy):=hIq (by have h1:=tlen_le Y;have h2:=hG1.out.ly;omega);obtain⟨t,ht⟩:∃t,tlen Y=t:=⟨_,rfl⟩;rw [ht] at htr hstp hone htl htt x0 htc hz;have ht':=hIq ht;have t0:((t:Int)==0)=false:=by simp;omega
     clear hstop ht
     go_wp2_with (first
      |(go_at_call 152;(with_reducible refine hstp.out.mono ?_);rintro e w3 ⟨h',m,q,r,rfl,hh,hr,hrl,hml,hmx,hb,hq⟩;have hnew:=hIq (hone.out h' m q r w3 hq hr hrl (by rw [<-ht'.out] at hml ⊢;have e1:=htl.out.1;have e2:=htl.out.2;rw [<-ht'.out] at e1;rw [e1,e2] at hml;exact hml) hh hb);have htr2:=hIq (trimmed_any (some ⟨gy,0,none⟩) t cy (Y.take t) w3 (Rdi_blk_take (hG1.out.by_.later hb) _) htl.out.1.symm htc.out (by have:=htc.out;omega));rw [htt.out] at htr2;clear hh hr hrl hml hmx hb hq)
      |(go_at_call 137;(with_reducible refine htr2.out.mono ?_);rintro e w4 ⟨rfl,rfl⟩)
      |(go_at_call 137;(with_reducible refine htr.out.mono ?_);rintro e w4 ⟨rfl,rfl⟩))
     go_roundg ((val (Y.take t)+val r).toNat)
     case measure=>exact hnew.out.2
     case rel=>exact⟨_,_,_,_,_,_,Y,r,rfl,rfl,hnew.out.1,rfl⟩
  ·have hnum1:Hid (∀W,wr=W->Calls Tryz.prog 153 #[.slice (some ⟨gx,0,none⟩) nx cx] W fun e w'=>e= .returned (.int .u64 (NumI (X.take nx) 0))/\W=w'):=hIq (by rintro W rfl;exact number_any _ _ _ _ wr (Rdi_blk_take hG.out.bx _) (by rw [List.length_take];omega) (hG.out.dx.take _) (by omega));have hnum2:Hid (∀W,wr=W->Calls Tryz.prog 153 #[.slice (some ⟨gy,0,none⟩) my cy] W fun e w'=>e= .returned (.int .u64 (NumI Y 0))/\W=w'):=hIq (by rintro W rfl;exact number_any _ _ _ _ wr hG.out.by_.rdi hG.out.ly hG.out.dy (by omega));have hU:=hIq (hG.out.small (by omega));have hn2:¬(2:Int)<(nx:Int):=by omega
   generalize NumI (X.take nx) 0=A0 at hnum1 hU;generalize NumI Y 0=B0 at hnum2 hU;clear hG h2
   go_upto_region 11 with(first
    |(go_at_call 153;(with_reducible refine(hnum1.out _ rfl).mono ?_);rintro e w4 ⟨rfl,rfl⟩)
    |(go_at_call 153;(with_reducible refine(hnum2.out _ rfl).mono ?_);rintro e w4 ⟨rfl,rfl⟩))
   clear hnum1 hnum2
   obtain⟨A,B,rfl,rfl,hA,hB,hg,hb⟩:∃A B:Nat,A0=(A:Int)/\B0=(B:Int)/\A<18446744073709551616/\B<18446744073709551616/\Nat.gcd A B=g/\Below w.heap.size w wr:=by
    obtain⟨A,B,h1,h2,h3⟩:=hU.out;cases h1;cases h2;exact⟨A,B,rfl,rfl,h3⟩
   have hI:Hid (GcU w g (.int .u64 (A:Int)) (.int .u64 (B:Int)) wr):=hIq ⟨A,B,rfl,rfl,hA,hB,hg,hb⟩;clear hU hA hB hg hb
   go_loopw [7,8] (fun s7 s8 wr=>GcU w g s7 s8 wr) (fun _ s8 _=>(intOf s8).toNat)
   case atStart=>exact hI.out
   case round=>
    clear hI;obtain⟨A,B,rfl,rfl,hA,hB,hg,hb⟩:=hrel;by_cases hB0:B=0
    ·subst hB0;have hAg:A=g:=by rw [<-hg,Nat.gcd_zero_right]
     subst hAg;have hdo:=hIq (fun W=>digitsOf_any A hA W);have hb':=hIq hb;clear hg hb;rw [show((0:Nat):Int)=0 from rfl]
     go_wp2_with (go_at_call 136;(with_reducible refine(hdo.out _).mono ?_);rintro e w5 ⟨g5,n5,l5,rfl,hg5,hb5,hB5,hl5,x5⟩;have hfin:Hid (GcP w A (.returned (.slice (some ⟨g5,0,none⟩) n5 n5)) w5):=hIq (by
      have h3:(digs A).length<=3:=digs_len_le (by rw [show pw 3=1000000000000000000000000000 by decide];omega)
      exact⟨_,_,_,l5,rfl,hb5.rdi,hl5.symm,Nat.le_refl _,by rw [<-hl5,x5];omega,by rw [x5];exact Dg_digs _,by rw [x5];exact val_digs _,below_tr hb'.out hB5,fun q hq=>by cases hq;exact Nat.le_trans hb'.out.size hg5⟩);clear hb5 hB5 hl5 x5)
     go_ret
     exact hfin.out
    ·obtain⟨C,hC⟩:∃C,A % B=C:=⟨_,rfl⟩;have hCB:C<B:=by rw [<-hC];exact Nat.mod_lt _ (by omega)
     have e1:((A:Int)).tmod (B:Int)=(C:Int):=by rw [Int.tmod_eq_emod_of_nonneg (by omega),<-hC];exact(Int.natCast_emod A B).symm
     have hnew:Hid (GcU w g (.int .u64 (B:Int)) (.int .u64 (C:Int)) wr):=hIq ⟨B,C,rfl,rfl,hB,by omega,by rw [<-hg,<-hC,Nat.gcd_comm B,<-Nat.gcd_rec,Nat.gcd_comm],hb⟩;have b0:(0:Int)<(B:Int):=by omega
     have b1:¬(B:Int)=0:=by omega
     have bz:((B:Int)==0)=false:=by simp;omega
     have hms:=hIq hCB;clear hC hCB hg hb hB0 hA hB;go_wp2_with fail
     go_region
     go_wp2_with fail
     obtain⟨A',B',h1,h2,h3,h4,h5,h6⟩:=hnew.out;exact⟨⟨A',B',h1,h2,h3,h4,h5,below_drewN h6 1⟩,by simp only [intOf];have:=hms.out;omega⟩
theorem Gcd_less (nx ny:Bool)(px py:Option Addr)(lx cx ly cy:Nat)(x y:Int)(w:World)(hx0:IntAt w nx px lx cx x)(hy0:IntAt w ny py ly cy y)(hlx:lx<=549755813887)(hly:ly<=549755813887)(hxy:x.natAbs<y.natAbs):
 Calls Tryz.prog 131 #[.agg #[.bool nx,.slice px lx cx],.agg #[.bool ny,.slice py ly cy]] w (RetI w (Int.gcd x y)):=by
 have hcm:Hid (∀W,Below w.heap.size w W->Calls Tryz.prog 112 #[.slice px lx cx,.slice py ly cy] W fun e w'=>e= .returned (.int .i64 (-1))/\Below W.heap.size W w'):=hIq fun W hb=>by
  have:=compare_any px py lx cx ly cy x.natAbs y.natAbs W (Rdi_below hb hx0.2.2.1) (Rdi_below hb hy0.2.2.1) hx0.2.1 hy0.2.1 (by omega) (by omega);rw [cmp_lt (by omega)] at this;exact this
 have hgc:Hid (∀W,Below w.heap.size w W->Calls Tryz.prog 143 #[.slice py ly cy,.slice px lx cx] W (GcP W (Nat.gcd y.natAbs x.natAbs))):=hIq fun W hb=>gcd_any _ _ _ _ _ _ _ _ W (Rdi_below hb hy0.2.2.1) (Rdi_below hb hx0.2.2.1) hy0.2.1 hx0.2.1 hly (by omega)
 have hg:Hid (Nat.gcd y.natAbs x.natAbs=Int.gcd x y):=hIq (Nat.gcd_comm _ _);have hS0:=hIq (@Ar2.start nx px lx cx ny py ly cy w);obtain⟨g,hgg⟩:∃g,Nat.gcd y.natAbs x.natAbs=g:=⟨_,rfl⟩;rw [hgg] at hgc hg;rw [<-hg.out];clear hx0 hy0 hgg hg
 go_enter Tryz.func131,Tryz.ntmps131
 go_upto_region 1 with fail
 generalize((w.alloc (.cells #[.bool nx,.slice px lx cx] 28)).alloc (.cells #[.bool ny,.slice py ly cy] 28)).alloc (.cells #[.bool false,.slice none 0 0] 28)=W0 at hS0 ⊢;have hS1:=hS0.out;have hf:=hS1.facts;clear hS0
 go_region
 have hS2:=hS1.drew;clear hf;have hf:=hS2.facts;clear hf;have hbw:Below w.heap.size w W0.drew:=hS2.2.2.2
 go_wp2_with (first
  |(go_at_call 112;(with_reducible refine(hcm.out _ hbw).mono ?_);rintro e w1 ⟨rfl,hb1⟩;have hS3:=hS2.later hb1;have hbw3:Below w.heap.size w w1:=hS3.2.2.2)
  |(go_at_call 143;(with_reducible refine(hgc.out _ hbw3).mono ?_);rintro e w2 ⟨p,n,c,l,rfl,hR,hn,hnc,hc,D,hv,hb2,hp⟩;have hS4:=hS3.later hb2;have hmd:=hIq (made_any false p n c l w2 hR hn hnc hc D);have hp':=hIq hp;have hv':=hIq hv;clear hR hn hnc hc D hv hp)
  |(go_at_call 105;(with_reducible refine hmd.out.mono ?_);rintro e w3 ⟨nb,p3,n3,c3,rfl,hI,hb3,hp3⟩;have hS5:=hS4.later hb3;have hI':=hIq hI;have hp3':=hIq hp3;clear hI hp3;have hf:=hS5.facts))
 have hfin:=hIq (hS5.ret (z':=(g:Int)) hI'.out (fun q hq=>by
  have h1:=hp'.out q (hp3'.out q hq);have h2:=hS3.top
  omega) (by rw [hv'.out];rfl))
 exact bodyPost_ret (v:= .agg #[.bool nb,.slice p3 n3 c3]) (results_cell_row rfl _ _ (w.heap.size+1+1) 28 _ (0,0) _ rfl (hS5.res _ _) Tryz.underlying28 rfl size_Int) rfl hfin.out
theorem Gcd_not (nx ny:Bool)(px py:Option Addr)(lx cx ly cy:Nat)(x y:Int)(w:World)(hx0:IntAt w nx px lx cx x)(hy0:IntAt w ny py ly cy y)(hlx:lx<=549755813887)(hly:ly<=549755813887)(hxy:y.natAbs<=x.natAbs):
 Calls Tryz.prog 131 #[.agg #[.bool nx,.slice px lx cx],.agg #[.bool ny,.slice py ly cy]] w (RetI w (Int.gcd x y)):=by
 have hcm:Hid (∀W,Below w.heap.size w W->Calls Tryz.prog 112 #[.slice px lx cx,.slice py ly cy] W fun e w'=>e= .returned (.int .i64 (cmpI (x.natAbs:Int) (y.natAbs:Int)))/\Below W.heap.size W w'):=hIq fun W hb=>compare_any px py lx cx ly cy x.natAbs y.natAbs W (Rdi_below hb hx0.2.2.1) (Rdi_below hb hy0.2.2.1) hx0.2.1 hy0.2.1 (by omega) (by omega)
 have hc0:0<=cmpI (x.natAbs:Int) (y.natAbs:Int):=by
  unfold cmpI;rw [if_neg (by omega)];split<;>omega
 generalize cmpI (x.natAbs:Int) (y.natAbs:Int)=C at hcm hc0;have hgc:Hid (∀W,Below w.heap.size w W->Calls Tryz.prog 143 #[.slice px lx cx,.slice py ly cy] W (GcP W (Nat.gcd x.natAbs y.natAbs))):=hIq fun W hb=>gcd_any _ _ _ _ _ _ _ _ W (Rdi_below hb hx0.2.2.1) (Rdi_below hb hy0.2.2.1) hx0.2.1 hy0.2.1 hlx (by omega)
 have hg:Hid (Nat.gcd x.natAbs y.natAbs=Int.gcd x y):=hIq rfl;have hS0:=hIq (@Ar2.start nx px lx cx ny py ly cy w);obtain⟨g,hgg⟩:∃g,Nat.gcd x.natAbs y.natAbs=g:=⟨_,rfl⟩;rw [hgg] at hgc hg;rw [<-hg.out];clear hx0 hy0 hgg hg
 go_enter Tryz.func131,Tryz.ntmps131
 go_upto_region 1 with fail
 generalize((w.alloc (.cells #[.bool nx,.slice px lx cx] 28)).alloc (.cells #[.bool ny,.slice py ly cy] 28)).alloc (.cells #[.bool false,.slice none 0 0] 28)=W0 at hS0 ⊢;have hS1:=hS0.out;have hf:=hS1.facts;clear hS0
 go_region
 have hc1:¬C<0:=by omega
 have hS2:=hS1.drew;clear hf;have hf:=hS2.facts;clear hf;have hbw:Below w.heap.size w W0.drew:=hS2.2.2.2
 go_wp2_with (first
  |(go_at_call 112;(with_reducible refine(hcm.out _ hbw).mono ?_);rintro e w1 ⟨rfl,hb1⟩;have hS3:=hS2.later hb1;have hbw3:Below w.heap.size w w1:=hS3.2.2.2)
  |(go_at_call 143;(with_reducible refine(hgc.out _ hbw3).mono ?_);rintro e w2 ⟨p,n,c,l,rfl,hR,hn,hnc,hc,D,hv,hb2,hp⟩;have hS4:=hS3.later hb2;have hmd:=hIq (made_any false p n c l w2 hR hn hnc hc D);have hp':=hIq hp;have hv':=hIq hv;clear hR hn hnc hc D hv hp)
  |(go_at_call 105;(with_reducible refine hmd.out.mono ?_);rintro e w3 ⟨nb,p3,n3,c3,rfl,hI,hb3,hp3⟩;have hS5:=hS4.later hb3;have hI':=hIq hI;have hp3':=hIq hp3;clear hI hp3;have hf:=hS5.facts))
 have hfin:=hIq (hS5.ret (z':=(g:Int)) hI'.out (fun q hq=>by
  have h1:=hp'.out q (hp3'.out q hq);have h2:=hS3.top
  omega) (by rw [hv'.out];rfl))
 exact bodyPost_ret (v:= .agg #[.bool nb,.slice p3 n3 c3]) (results_cell_row rfl _ _ (w.heap.size+1+1) 28 _ (0,0) _ rfl (hS5.res _ _) Tryz.underlying28 rfl size_Int) rfl hfin.out
theorem Gcd_any (nx ny:Bool)(px py:Option Addr)(lx cx ly cy:Nat)(x y:Int)(w:World)(hx0:IntAt w nx px lx cx x)(hy0:IntAt w ny py ly cy y)(hlx:lx<=549755813887)(hly:ly<=549755813887):
 Calls Tryz.prog 131 #[.agg #[.bool nx,.slice px lx cx],.agg #[.bool ny,.slice py ly cy]] w (RetI w (Int.gcd x y)):=by
 rcases Nat.lt_or_ge x.natAbs y.natAbs with h|h
 ·exact Gcd_less nx ny px py lx cx ly cy x y w hx0 hy0 hlx hly h
 ·exact Gcd_not nx ny px py lx cx ly cy x y w hx0 hy0 hlx hly h
theorem rat_uniq {r:Rat}{n d:Int}(D:0<d)(hc:Int.gcd n d=1)(h:n*(r.den:Int)=r.num*d):r.num=n/\(r.den:Int)=d:=by
 have hc':n.natAbs.Coprime d.toNat:=by
  have:d.natAbs=d.toNat:=by omega
  rw [<-this];exact hc
 have e:(⟨n,d.toNat,by omega,hc'⟩:Rat)=r:=by
  rw [Rat.eq_iff_mul_eq_mul];show n*(r.den:Int)=r.num*(d.toNat:Int);rw [h,Int.toNat_of_nonneg (by omega)]
 exact⟨(congrArg Rat.num e).symm,by rw [<-congrArg Rat.den e];show((d.toNat:Nat):Int)=d;omega⟩
theorem den_pos' (r:Rat):0<(r.den:Int):=by have:=r.den_pos;omega
theorem rat_cop (r:Rat):Int.gcd r.num (r.den:Int)=1:=r.reduced
theorem divInt_low {p q:Int}(hq:q≠0):(Rat.divInt p q).num*q=p*((Rat.divInt p q).den:Int):=by
 have h:=Rat.num_divInt_den (Rat.divInt p q);have h2:=(Rat.divInt_eq_divInt_iff (by have:=den_pos' (Rat.divInt p q);omega) hq).1 h;exact h2
theorem divInt_of {p q n d:Int}(hq:q≠0)(hd:0<d)(hc:Int.gcd n d=1)(h:n*q=p*d):(Rat.divInt p q).num=n/\((Rat.divInt p q).den:Int)=d:=by
 apply rat_uniq hd hc;have h1:=divInt_low (p:=p) hq;generalize(Rat.divInt p q).num=N at*
 generalize((Rat.divInt p q).den:Int)=D at*
 -- n D q=p d D=N q d
 have:(n*D)*q=(N*d)*q:=by grind
 exact Int.eq_of_mul_eq_mul_right hq this
theorem make_low {p q:Int}(hq:0<q):(Rat.divInt p q).num=p / (Int.gcd p q:Int)/\((Rat.divInt p q).den:Int)=q / (Int.gcd p q:Int):=by
 have hg:(0:Int)<Int.gcd p q:=by have:=Int.gcd_pos_of_ne_zero_right p (b:=q) (by omega);omega
 have d1:(Int.gcd p q:Int)∣p:=Int.gcd_dvd_left ..;have d2:(Int.gcd p q:Int)∣q:=Int.gcd_dvd_right ..;refine divInt_of (by omega) ?_ (Int.gcd_ediv_gcd_ediv_gcd (Int.gcd_pos_of_ne_zero_right p (by omega))) ?_
 ·exact Int.ediv_pos_of_pos_of_dvd hq (by omega) d2
 ·generalize(Int.gcd p q:Int)=g at*
  obtain⟨a,rfl⟩:=d1;obtain⟨b,rfl⟩:=d2;rw [Int.mul_ediv_cancel_left _ (by omega),Int.mul_ediv_cancel_left _ (by omega)]
  grind
theorem add_low (a b:Rat)(l r p m:Int)(hl:l=(a.den:Int) / (Int.gcd a.den b.den:Int))(hr:r=(b.den:Int) / (Int.gcd a.den b.den:Int))(hp:p=a.num*r+b.num*l)(hm:m=(Int.gcd p (Int.gcd a.den b.den:Int):Int)):
 (a+b).num=p / m/\((a+b).den:Int)=l*((b.den:Int) / m):=by
 have ha:=den_pos' a;have hb:=den_pos' b;have hg:(0:Int)<Int.gcd a.den b.den:=by have:=Int.gcd_pos_of_ne_zero_right (a.den:Int) (b:=b.den) (by omega);omega
 have d1:(Int.gcd a.den b.den:Int)∣(a.den:Int):=Int.gcd_dvd_left ..;have d2:(Int.gcd a.den b.den:Int)∣(b.den:Int):=Int.gcd_dvd_right ..;have hlr:Int.gcd l r=1:=by rw [hl,hr];exact Int.gcd_ediv_gcd_ediv_gcd (by omega)
 have hac:=rat_cop a;have hbc:=rat_cop b;have hA:=Rat.num_divInt_den a
 have hab:∀n d:Int,0<d->Int.gcd n d=1->n*((a.den:Int)*b.den)=(a.num*b.den+b.num*a.den)*d->(a+b).num=n/\((a+b).den:Int)=d:=by
  intro n d D hc h
  have e:a+b=Rat.divInt (a.num*b.den+b.num*a.den) ((a.den:Int)*b.den):=by
   conv=>lhs;rw [<-Rat.num_divInt_den a,<-Rat.num_divInt_den b]
   exact Rat.divInt_add_divInt _ _ (by omega) (by omega)
  rw [e];exact divInt_of (Int.ne_of_gt (Int.mul_pos ha hb)) D hc h
 generalize(Int.gcd a.den b.den:Int)=g at*
 obtain⟨x,hx⟩:=d1;obtain⟨y,hy⟩:=d2;rw [hx] at hl hac ha;rw [hy] at hr hbc hb;rw [Int.mul_ediv_cancel_left _ (by omega)] at hl hr;subst hl hr
 have hxp:0<l:=by
  rcases Int.lt_or_le 0 l with h|h
  ·exact h
  ·have:=Int.mul_nonpos_of_nonneg_of_nonpos (show 0<=g by omega) h;omega
 have hyp:0<r:=by
  rcases Int.lt_or_le 0 r with h|h
  ·exact h
  ·have:=Int.mul_nonpos_of_nonneg_of_nonpos (show 0<=g by omega) h;omega
 have hm0:0<m:=by rw [hm];have:=Int.gcd_pos_of_ne_zero_right p (b:=g) (by omega);omega
 have hmg:m∣g:=by rw [hm];exact Int.gcd_dvd_right ..
 have hmp:m∣p:=by rw [hm];exact Int.gcd_dvd_left ..
 have hcop:Int.gcd (p / m) (g / m)=1:=by rw [hm];exact Int.gcd_ediv_gcd_ediv_gcd (by rw [hm] at hm0;omega)
 have hcl:Int.gcd p l=1:=by
  rw [hp,Int.gcd_add_mul_right_left];rw [Int.gcd_mul_left_left_of_gcd_eq_one (by rw [Int.gcd_comm];exact hlr)];rw [Int.gcd_comm] at hac ⊢;exact Nat.Coprime.coprime_dvd_left (by rw [Int.natAbs_mul];exact Nat.dvd_mul_left ..) hac
 have hcr:Int.gcd p r=1:=by
  rw [hp,Int.add_comm,Int.gcd_add_mul_right_left];rw [Int.gcd_mul_left_left_of_gcd_eq_one hlr];rw [Int.gcd_comm] at hbc ⊢;exact Nat.Coprime.coprime_dvd_left (by rw [Int.natAbs_mul];exact Nat.dvd_mul_left ..) hbc
 obtain⟨k,hk⟩:=hmg;obtain⟨t,ht⟩:=hmp;rw [hy];have e1:p / m=t:=by rw [ht];exact Int.mul_ediv_cancel_left _ (by omega)
 have e2:g*r / m=k*r:=by rw [hk,Int.mul_assoc];exact Int.mul_ediv_cancel_left _ (by omega)
 have e3:g / m=k:=by rw [hk];exact Int.mul_ediv_cancel_left _ (by omega)
 rw [e1,e2];rw [e1,e3] at hcop
 have hkp:0<k:=by
  rcases Int.lt_or_le 0 k with h|h
  ·exact h
  ·have:=Int.mul_nonpos_of_nonneg_of_nonpos (show 0<=m by omega) h;omega
 have htp:t.natAbs∣p.natAbs:=by rw [ht,Int.natAbs_mul];exact Nat.dvd_mul_left ..
 refine hab _ _ (Int.mul_pos hxp (Int.mul_pos hkp hyp)) ?_ ?_
 ·have c1:Nat.Coprime t.natAbs l.natAbs:=Nat.Coprime.coprime_dvd_left htp hcl;have c2:Nat.Coprime t.natAbs r.natAbs:=Nat.Coprime.coprime_dvd_left htp hcr;have c3:Nat.Coprime t.natAbs k.natAbs:=hcop;show Nat.gcd t.natAbs (l*(k*r)).natAbs=1;rw [Int.natAbs_mul,Int.natAbs_mul];exact Nat.Coprime.mul_right c1 (Nat.Coprime.mul_right c3 c2)
 ·rw [hx,hy];have:p=m*t:=ht;have:g=m*k:=hk
  grind
theorem mul_low (a b:Rat)(f s:Int)(hf:f=(Int.gcd a.num b.den:Int))(hs:s=(Int.gcd b.num a.den:Int)):
 (a*b).num=(a.num / f)*(b.num / s)/\((a*b).den:Int)=((a.den:Int) / s)*((b.den:Int) / f):=by
 have ha:=den_pos' a;have hb:=den_pos' b;have hac:=rat_cop a;have hbc:=rat_cop b
 have hab:∀n d:Int,0<d->Int.gcd n d=1->n*((a.den:Int)*b.den)=(a.num*b.num)*d->(a*b).num=n/\((a*b).den:Int)=d:=by
  intro n d D hc h
  have e:a*b=Rat.divInt (a.num*b.num) ((a.den:Int)*b.den):=by
   conv=>lhs;rw [<-Rat.num_divInt_den a,<-Rat.num_divInt_den b]
   exact Rat.divInt_mul_divInt _ _
  rw [e];exact divInt_of (Int.ne_of_gt (Int.mul_pos ha hb)) D hc h
 have hf0:0<f:=by rw [hf];have:=Int.gcd_pos_of_ne_zero_right a.num (b:=b.den) (by omega);omega
 have hs0:0<s:=by rw [hs];have:=Int.gcd_pos_of_ne_zero_right b.num (b:=a.den) (by omega);omega
 have f1:f∣a.num:=by rw [hf];exact Int.gcd_dvd_left ..
 have f2:f∣(b.den:Int):=by rw [hf];exact Int.gcd_dvd_right ..
 have s1:s∣b.num:=by rw [hs];exact Int.gcd_dvd_left ..
 have s2:s∣(a.den:Int):=by rw [hs];exact Int.gcd_dvd_right ..
 have c1:Int.gcd (a.num / f) (b.den / f)=1:=by rw [hf];exact Int.gcd_ediv_gcd_ediv_gcd (by rw [hf] at hf0;omega)
 have c2:Int.gcd (b.num / s) (a.den / s)=1:=by rw [hs];exact Int.gcd_ediv_gcd_ediv_gcd (by rw [hs] at hs0;omega)
 obtain⟨u,hu⟩:=f1;obtain⟨v,hv⟩:=f2;obtain⟨x,hx⟩:=s1;obtain⟨y,hy⟩:=s2;have e1:a.num / f=u:=by rw [hu];exact Int.mul_ediv_cancel_left _ (by omega)
 have e2:(b.den:Int) / f=v:=by rw [hv];exact Int.mul_ediv_cancel_left _ (by omega)
 have e3:b.num / s=x:=by rw [hx];exact Int.mul_ediv_cancel_left _ (by omega)
 have e4:(a.den:Int) / s=y:=by rw [hy];exact Int.mul_ediv_cancel_left _ (by omega)
 rw [e1,e2] at c1;rw [e3,e4] at c2;rw [e1,e2,e3,e4]
 have hvp:0<v:=by
  rcases Int.lt_or_le 0 v with h|h
  ·exact h
  ·have:=Int.mul_nonpos_of_nonneg_of_nonpos (show 0<=f by omega) h;omega
 have hyp:0<y:=by
  rcases Int.lt_or_le 0 y with h|h
  ·exact h
  ·have:=Int.mul_nonpos_of_nonneg_of_nonpos (show 0<=s by omega) h;omega
 refine hab _ _ (Int.mul_pos hyp hvp) ?_ (by rw [hu,hv,hx,hy];grind);have hacN:Nat.Coprime a.num.natAbs (a.den:Int).natAbs:=hac;have hbcN:Nat.Coprime b.num.natAbs (b.den:Int).natAbs:=hbc;rw [hu,hy,Int.natAbs_mul,Int.natAbs_mul] at hacN;rw [hx,hv,Int.natAbs_mul,Int.natAbs_mul] at hbcN;show Nat.gcd (u*x).natAbs (y*v).natAbs=1;rw [Int.natAbs_mul,Int.natAbs_mul];refine Nat.Coprime.mul_left (Nat.Coprime.mul_right ?_ c1) (Nat.Coprime.mul_right c2 ?_)
 ·exact hacN.coprime_mul_left.coprime_mul_left_right
 ·exact hbcN.coprime_mul_left.coprime_mul_left_right
theorem inv_low {q:Rat}(h:0<q.num):(q⁻¹).num=(q.den:Int)/\((q⁻¹).den:Int)=q.num:=by
 have hs:q.num.sign=1:=Int.sign_eq_one_of_pos h;rw [Rat.num_inv,Rat.den_inv,if_neg (by omega),hs];omega
theorem gcd_den_ne (x:Int)(q:Rat):(Int.gcd x (q.den:Int):Int)≠0:=by
 have:=Int.gcd_pos_of_ne_zero_right x (b:=(q.den:Int)) (by have:=q.den_pos;omega);omega
theorem gcd_den_ne' (q:Rat)(x:Int):(Int.gcd (q.den:Int) x:Int)≠0:=by
 rw [Int.gcd_comm];exact gcd_den_ne x q
theorem gcd_gcd_ne (x:Int)(q:Rat)(y:Int):(Int.gcd x (Int.gcd (q.den:Int) y:Int):Int)≠0:=by
 have:=Int.gcd_pos_of_ne_zero_right x (b:=(Int.gcd (q.den:Int) y:Int)) (gcd_den_ne' q y);omega
theorem gcd_ne_r {x y:Int}(h:y≠0):(Int.gcd x y:Int)≠0:=by
 have:=Int.gcd_pos_of_ne_zero_right x h;omega
theorem div_neg_neg (a b:Rat):a / b= -a*(-b)⁻¹:=by
 by_cases hb:b=0
 ·subst hb;rw [Rat.div_def,Rat.neg_zero,Rat.inv_zero,Rat.mul_zero,Rat.mul_zero]
 ·have:(-b)⁻¹= -b⁻¹:=by
   apply Rat.inv_eq_of_mul_eq_one;rw [Rat.neg_mul,Rat.mul_neg,Rat.neg_neg,Rat.mul_inv_cancel b hb]
  rw [this,Rat.neg_mul,Rat.mul_neg,Rat.neg_neg,Rat.div_def]
section
variable {BT:List (TypeId×Nat×Nat)}
def qd (q:Rat):Int:=if q.den=1 then 0 else(q.den:Int)
def Vq (N:Nat)(q:Rat):VP:=VP2 2 2 (Vz N q.num) (Vz N (qd q))
theorem Stab_Vq (N:Nat)(q:Rat):Stab BT (Vq N q):=Stab_VP2 (Stab_Vz _ _) (Stab_Vz _ _)
theorem AggV_Vq (N:Nat)(q:Rat):AggV 4 (Vq N q):=AggV_VP2 (AggV_Vz _ _) (AggV_Vz _ _)
theorem Vz_le {N M:Nat}{z:Int}{v:Value}{w:World}(h:Vz N z v w)(hM:N<=M):Vz M z v w:=by
 obtain⟨nb,p,n,c,h1,h2,h3⟩:=h;exact⟨nb,p,n,c,h1,h2,by omega⟩
theorem Vq_le {N M:Nat}{q:Rat}{v:Value}{w:World}(h:Vq N q v w)(hM:N<=M):Vq M q v w:=by
 obtain⟨x,y,h1,h2,h3,h4,h5⟩:=h;exact⟨x,y,h1,h2,h3,Vz_le h4 hM,Vz_le h5 hM⟩
theorem size_Rat:(Tryz.prog.info? 30).map (·.size)=some 4:=by kernel_rfl
theorem RV.le {V U:VP}{W:World}{e:Ending}{w':World}(h:RV V W e w')(hVU:∀v w,V v w->U v w):RV U W e w':=by
 obtain⟨v,h1,h2,h3⟩:=h;exact⟨v,h1,hVU _ _ h2,h3⟩
theorem digs1:digs 1= [1]:=by rw [digs_pos (by omega),show 1 / 1000000000=0 by rfl,digs_zero];rfl
theorem gcd_len (x y:Int):(digs (Int.gcd x y:Int).natAbs).length<=max (digs x.natAbs).length (digs y.natAbs).length:=by
 rw [Int.natAbs_natCast];by_cases hx:x=0
 ·subst hx;rw [Int.gcd_zero_left];omega
 ·have h1:Int.gcd x y<=x.natAbs:=Int.gcd_le_natAbs_left y hx;have:=digs_len_mono h1;omega
section
variable {W:World}{Na Nb:Nat}{a b:Int}{v1 v2:Value}
theorem cGcd (h1:Vz Na a v1 W)(h2:Vz Nb b v2 W)(hN1:Na<=1000000:=by omega)(hN2:Nb<=1000000:=by omega):Calls Tryz.prog 131 #[v1,v2] W (RV (Vz (max Na Nb) (Int.gcd a b:Int)) W):=by
 obtain⟨nb,p,n,c,rfl,hI,hn⟩:=h1;obtain⟨nb2,p2,n2,c2,rfl,hI2,hn2⟩:=h2;exact(Gcd_any _ _ _ _ _ _ _ _ a b W hI hI2 (by omega) (by omega)).mono fun e w' h=>retI_vz h (by have:=gcd_len a b;have:=hI.2.1;have:=hI2.2.1;omega)
theorem cOf1:Calls Tryz.prog 104 #[.int .i64 1] W (RV (Vz 1 1) W):=
 (Of_any 1 (by omega) (by omega) W).mono fun e w' h=>retI_vz h (by show(digs 1).length<=1;rw [digs1];exact Nat.le_refl _)
end
theorem one_any (nb:Bool)(p:Option Addr)(n c:Nat)(z:Int)(w:World)(hI:IntAt w nb p n c z):
 Calls Tryz.prog 130 #[.agg #[.bool nb,.slice p n c]] w fun e w'=>e= .returned (.bool (decide (z=1)))/\Below w.heap.size w w':=by
 obtain⟨h1,h2,h3,-⟩:=hI;by_cases hn:n=1
 ·obtain⟨b,off,rfl,hc⟩:=Rdi_at h3 0 (by omega);obtain⟨d,D⟩:∃d,iat (digs z.natAbs) 0=d:=⟨_,rfl⟩;rw [D] at hc;have hl:=digs_val (Dg_digs z.natAbs) (tlen_digs _)
  have hv:(z.natAbs:Int)=d:=by
   have h4:=val_digs z.natAbs
   match hh:digs z.natAbs,D,h2 with
   | [],D,h2=>simp at h2;omega
   | [x],D,h2=>rw [hh] at h4;simp [val] at h4;simp [iat] at D;omega
   |x::y::t,D,h2=>simp at h2;omega
  subst hn;have hc':w.cell? ⟨b,off,none⟩=some (.int .i64 d):=hc;clear hc h3 hl D;have hb:b<w.heap.size:=World.block_lt_of_cell? w _ hc';by_cases hd1:d=1
  ·have hfin:Hid ((!nb)=decide (z=1)):=hIq (by
    rw [h1];rcases Int.lt_or_le z 0 with h|h
    ·rw [dT h,dF (by omega)];rfl
    ·rw [dF (by omega),dT (by omega)];rfl)
   subst hd1;clear h1 h2 hv
   go_enter Tryz.func130,Tryz.ntmps130
   go_wp2_with fail
   go_ret
   exact⟨by rw [<-hfin.out];rfl,below_new _ _⟩
  ·have hfin:Hid (false=decide (z=1)):=hIq (dF (by omega)).symm;have hdb:(d==1)=false:=by simpa using hd1
   clear h1 h2 hv hd1
   go_enter Tryz.func130,Tryz.ntmps130
   go_wp2_with fail
   go_ret
   exact⟨by rw [<-hfin.out];rfl,below_new _ _⟩
 ·have hfin:Hid (false=decide (z=1)):=hIq (dF (fun e=>hn (by rw [h2,e];show(digs 1).length=1;rw [digs1];rfl))).symm;have hnb:((n:Int)==1)=false:=by simp;omega
  clear h1 h2 h3 hn
  go_enter Tryz.func130,Tryz.ntmps130
  go_wp2_with fail
  go_ret
  exact⟨by rw [<-hfin.out];rfl,below_new _ _⟩
theorem cOne {W:World}{N:Nat}{z:Int}{v:Value}(h:Vz N z v W):Calls Tryz.prog 130 #[v] W (RV (Vb (decide (z=1))) W):=by
 obtain⟨nb,p,n,c,rfl,hI,hn⟩:=h;exact(one_any nb p n c z W hI).mono fun e w' h=>⟨_,h.1,rfl,h.2⟩
end
def vld (nb:Bool)(l:List Int):Bool:=l.all (fun d=>decide (0<=d) && decide (d<1000000000)) && (if l= [] then !nb else iat l (l.length - 1) !=0)
theorem iat_mem {l:List Int}{k:Nat}(h:k<l.length):iat l k=l[k]:=by simp [iat,List.getD_eq_getElem?_getD,h]
theorem vld_no {nb:Bool}{l:List Int}(k:Nat)(hk:k<l.length)(h:iat l k<0∨1000000000<=iat l k):vld nb l=false:=by
 unfold vld
 have:l.all (fun d=>decide (0<=d) && decide (d<1000000000))=false:=by
  rw [List.all_eq_false];refine⟨l[k],List.getElem_mem hk,?_⟩;rw [iat_mem hk] at h;intro hh;simp only [Bool.and_eq_true,decide_eq_true_eq] at hh;omega
 rw [this];rfl
theorem vld_yes {nb:Bool}{l:List Int}(h:∀k,k<l.length->0<=iat l k/\iat l k<1000000000):vld nb l=if l= [] then !nb else iat l (l.length - 1) !=0:=by
 unfold vld
 have:l.all (fun d=>decide (0<=d) && decide (d<1000000000))=true:=by
  rw [List.all_eq_true];intro x hx;obtain⟨k,hk,rfl⟩:=List.getElem_of_mem hx;have:=h k hk;rw [iat_mem hk] at this;simp only [Bool.and_eq_true,decide_eq_true_eq];exact this
 rw [this];rfl
theorem Valid_any (nb:Bool)(p:Option Addr)(n c:Nat)(l:List Int)(w:World)(hR0:Rdi w p l)(hn0:n=l.length)(hmax:n<=4611686018427387904):
 Calls Tryz.prog 129 #[.agg #[.bool nb,.slice p n c]] w fun e w'=>e= .returned (.bool (vld nb l))/\Below w.heap.size w w':=by
 have hS0:=hIq (@Bx.start nb p n c w);have hR:=hIq hR0;have hn:=hIq hn0;clear hR0 hn0
 go_enter Tryz.func129,Tryz.ntmps129
 go_upto_region 1 with fail
 generalize w.alloc (.cells #[.bool nb,.slice p n c] 28)=W0 at hS0 ⊢;have hf:=hS0.out.facts;have hf1:=hf.1;have hf2:=hf.2;go_wp2_with fail
 go_loop [9] (fun i=>∃k:Nat,k<=n/\i= .int .i64 k/\Hid (∀j,j<k->0<=iat l j/\iat l j<1000000000)) (fun i=>n - (intOf i).toNat)
 case atStart=>exact⟨0,Nat.zero_le _,rfl,hIq (fun j hj=>by omega)⟩
 case round=>
  obtain⟨k,hk,rfl,hall⟩:=hrel;by_cases hlt:k<n
  ·have hkl:Hid (k<l.length):=hIq (by rw [<-hn.out];exact hlt);obtain⟨b,o,rfl,hc0⟩:=Rdi_at (Rdi_below hS0.out.2 hR.out) k hkl.out;obtain⟨d,D⟩:∃d,iat l k=d:=⟨_,rfl⟩;rw [D] at hc0;have hd':=hIq D;clear D;by_cases h1:d<0
   ·have hr:Hid (vld nb l=false):=hIq (vld_no k hkl.out (by rw [hd'.out];exact .inl h1));go_wp2_with fail
    go_ret
    exact⟨by rw [hr.out];rfl,hS0.out.2⟩
   ·by_cases h2:d<1000000000
    ·have hall2:Hid (∀j,j<k+1->0<=iat l j/\iat l j<1000000000):=hIq (fun j h3=>by
      rcases Nat.lt_or_ge j k with h4|h4
      ·exact hall.out j h4
      ·obtain rfl:j=k:=by omega
       rw [hd'.out];omega)
     have h3:¬1000000000<=d:=by omega
     go_wp2_with fail
     exact⟨⟨k+1,by omega,by simp,hall2⟩,by simp [intOf];omega⟩
    ·have hr:Hid (vld nb l=false):=hIq (vld_no k hkl.out (by rw [hd'.out];omega));have h3:1000000000<=d:=by omega
     go_wp2_with fail
     go_ret
     exact⟨by rw [hr.out];rfl,hS0.out.2⟩
  ·have hk':k=n:=by omega
   subst hk';have hr:Hid (vld nb l=if l= [] then !nb else iat l (l.length - 1) !=0):=hIq (vld_yes fun j hj=>hall.out j (by rw [hn.out];exact hj));by_cases hz:k=0
   ·subst hz;have hl:Hid (vld nb l= !nb):=hIq (by rw [hr.out,if_pos (List.eq_nil_of_length_eq_zero hn.out.symm)]);go_wp2_with fail
    go_ret
    exact⟨by rw [hl.out];rfl,hS0.out.2⟩
   ·obtain⟨b,o,rfl,hc0⟩:=Rdi_at (Rdi_below hS0.out.2 hR.out) (k - 1) (by have:=hn.out;omega);obtain⟨m,rfl⟩:∃m,k=m+1:=⟨k - 1,by omega⟩;rw [Nat.add_sub_cancel] at hc0;have hl:Hid (vld nb l=(iat l m !=0)):=hIq (by rw [hr.out,if_neg (fun h=>by have:=hn.out;rw [h] at this;simp at this),<-hn.out,Nat.add_sub_cancel]);obtain⟨d,D⟩:∃d,iat l m=d:=⟨_,rfl⟩;rw [D] at hc0 hl;have e1:((m+1:Nat):Int) - 1=(m:Int):=by omega
    clear D hall hr;go_wp2_with fail
    go_ret
    exact⟨by rw [hl.out];rfl,hS0.out.2⟩
theorem rValid_any (nb:Bool)(p:Option Addr)(n c:Nat)(l:List Int)(w:World)(hR0:Rdi w p l)(hn0:n=l.length)(hmax:n<=4611686018427387904):
 Calls Tryz.prog 138 #[.agg #[.bool nb,.slice p n c]] w fun e w'=>e= .returned (.bool (vld nb l))/\Below w.heap.size w w':=by
 have hS0:=hIq (@Bx.start nb p n c w);have hR:=hIq hR0;have hn:=hIq hn0;clear hR0 hn0
 go_enter Tryz.func138,Tryz.ntmps138
 go_upto_region 1 with fail
 generalize w.alloc (.cells #[.bool nb,.slice p n c] 28)=W0 at hS0 ⊢;have hf:=hS0.out.facts;have hf1:=hf.1;have hf2:=hf.2;go_wp2_with fail
 go_loop [3] (fun i=>∃k:Nat,k<=n/\i= .int .i64 k/\Hid (∀j,j<k->0<=iat l j/\iat l j<1000000000)) (fun i=>n - (intOf i).toNat)
 case atStart=>exact⟨0,Nat.zero_le _,rfl,hIq (fun j hj=>by omega)⟩
 case round=>
  obtain⟨k,hk,rfl,hall⟩:=hrel;by_cases hlt:k<n
  ·have hkl:Hid (k<l.length):=hIq (by rw [<-hn.out];exact hlt);obtain⟨b,o,rfl,hc0⟩:=Rdi_at (Rdi_below hS0.out.2 hR.out) k hkl.out;obtain⟨d,D⟩:∃d,iat l k=d:=⟨_,rfl⟩;rw [D] at hc0;have hd':=hIq D;clear D;by_cases h1:d<0
   ·have hr:Hid (vld nb l=false):=hIq (vld_no k hkl.out (by rw [hd'.out];exact .inl h1));go_wp2_with fail
    go_ret
    exact⟨by rw [hr.out];rfl,hS0.out.2⟩
   ·by_cases h2:d<1000000000
    ·have hall2:Hid (∀j,j<k+1->0<=iat l j/\iat l j<1000000000):=hIq (fun j h3=>by
      rcases Nat.lt_or_ge j k with h4|h4
      ·exact hall.out j h4
      ·obtain rfl:j=k:=by omega
       rw [hd'.out];omega)
     have h3:¬1000000000<=d:=by omega
     go_wp2_with fail
     exact⟨⟨k+1,by omega,by simp,hall2⟩,by simp [intOf];omega⟩
    ·have hr:Hid (vld nb l=false):=hIq (vld_no k hkl.out (by rw [hd'.out];omega));have h3:1000000000<=d:=by omega
     go_wp2_with fail
     go_ret
     exact⟨by rw [hr.out];rfl,hS0.out.2⟩
  ·have hk':k=n:=by omega
   subst hk';have hr:Hid (vld nb l=if l= [] then !nb else iat l (l.length - 1) !=0):=hIq (vld_yes fun j hj=>hall.out j (by rw [hn.out];exact hj));by_cases hz:k=0
   ·subst hz;have hl:Hid (vld nb l= !nb):=hIq (by rw [hr.out,if_pos (List.eq_nil_of_length_eq_zero hn.out.symm)]);go_wp2_with fail
    go_ret
    exact⟨by rw [hl.out];rfl,hS0.out.2⟩
   ·obtain⟨b,o,rfl,hc0⟩:=Rdi_at (Rdi_below hS0.out.2 hR.out) (k - 1) (by have:=hn.out;omega);obtain⟨m,rfl⟩:∃m,k=m+1:=⟨k - 1,by omega⟩;rw [Nat.add_sub_cancel] at hc0;have hl:Hid (vld nb l=(iat l m !=0)):=hIq (by rw [hr.out,if_neg (fun h=>by have:=hn.out;rw [h] at this;simp at this),<-hn.out,Nat.add_sub_cancel]);obtain⟨d,D⟩:∃d,iat l m=d:=⟨_,rfl⟩;rw [D] at hc0 hl;have e1:((m+1:Nat):Int) - 1=(m:Int):=by omega
    clear D hall hr;go_wp2_with fail
    go_ret
    exact⟨by rw [hl.out];rfl,hS0.out.2⟩
end Go.Proofs.YteacdbgalloaiaaGreat
