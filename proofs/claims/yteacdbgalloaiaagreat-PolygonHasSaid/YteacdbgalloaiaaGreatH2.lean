/- Contracts of the packages integer, rat, plane, polygon and their references. -/
import Derived.Test.YteacdbgalloaiaaGreatH1
set_option linter.unusedVariables false
set_option maxRecDepth 100000
set_option maxHeartbeats 6400000
namespace Go.Proofs.YteacdbgalloaiaaGreat
open Go.RowKit
theorem tlen_zero {l:List Int}(h:Dg l)(h0:tlen l=0):val l=0:=by
 have h1:=take_tlen h;rw [h0,List.take_zero] at h1;have h2:=digs_nil.1 h1.symm;have h3:=h.lo;omega
theorem tlen_len {l:List Int}(h:Dg l):(digs (val l).toNat).length=tlen l:=by
 rw [<-take_tlen h,List.length_take];have:=tlen_le l;omega
theorem tlen_pos {l:List Int}(h:Dg l)(h0:tlen l≠0):0<val l:=by
 have h1:=tlen_len h;have h2:=h.lo;rcases Int.lt_or_le 0 (val l)with h3|h3
 ·exact h3
 ·rw [show val l=0 by omega] at h1;have h4:digs (0:Int).toNat= []:=digs_zero;rw [h4] at h1;simp at h1;omega
theorem sg_abs (neg:Bool)(n:Int)(h:0<=n):(sg neg n).natAbs=n.toNat:=by unfold sg;cases neg<;>simp<;>omega
theorem sg_neg (neg:Bool)(n:Int)(h:0<n):decide (sg neg n<0)=neg:=by unfold sg;cases neg<;>simp<;>omega
theorem made_is {w:World}{neg:Bool}{a:Option Addr}{c:Nat}{l:List Int}(hR:Rdi w a l)(D:Dg l)(h0:tlen l≠0)(hc:l.length<=c)(hm:c<=9223372036854775807):IntAt w neg a (tlen l) c (sg neg (val l)):=by
 have hp:=tlen_pos D h0;have ht:=tlen_le l;refine⟨(sg_neg _ _ hp).symm,?_,?_,by omega,hm⟩
 ·rw [sg_abs _ _ (by omega),tlen_len D]
 ·rw [sg_abs _ _ (by omega),<-take_tlen D];exact Rdi_take hR _
theorem made_any (neg:Bool)(a:Option Addr)(m c:Nat)(l:List Int)(w:World)(hR0:Rdi w a l)(hm0:m=l.length)(hmc:m<=c)(hm:c<=9223372036854775807)(hd0:Dg l):
 Calls Tryz.prog 105 #[.bool neg,.slice a m c] w (RetF (fun q=>a=some q) w (sg neg (val l))):=by
 have hR:=hIq hR0;have hml:=hIq hm0;have D:=hIq hd0;clear hR0 hm0 hd0
 have htr:Hid (∀W,Below w.heap.size w W->Calls Tryz.prog 137 #[.slice a m c] W fun e w'=>e= .returned (.slice a (tlen l) c)/\W=w'):=
  hIq (fun W hb=>trimmed_any a m c l W (Rdi_below hb hR.out) hml.out hmc (by omega))
 obtain⟨t,ht⟩:∃t,tlen l=t:=⟨_,rfl⟩;rw [ht] at htr;have ht':=hIq ht;clear ht;by_cases h0:t=0
 ·subst h0;have hv:Hid (sg neg (val l)=0):=hIq (by rw [tlen_zero D.out ht'.out];unfold sg;cases neg<;>rfl);rw [hv.out]
  go_enter Tryz.func105,Tryz.ntmps105
  go_wp2_with (go_at_call 137;refine(htr.out _ (below_new w _)).mono ?_;rintro e w' ⟨rfl,rfl⟩)
  exact bodyPost_ret (v:= .agg #[.bool false,.slice none 0 0]) (by simp [results,Tryz.results105,go_sem]) rfl ⟨_,_,_,_,rfl,IntAt_zero _ _ _ (by omega),below_new _ _,fun q hq=>by cases hq⟩
 ·have h0b:((t:Int)==0)=false:=by simpa using h0
  have hI:Hid (∀W,Below w.heap.size w W->IntAt W neg a t c (sg neg (val l))):=hIq (fun W hb=>by rw [<-ht'.out];exact made_is (Rdi_below hb hR.out) D.out (by rw [ht'.out];exact h0) (by rw [<-hml.out];exact hmc) hm);clear h0
  go_enter Tryz.func105,Tryz.ntmps105
  go_wp2_with (go_at_call 137;refine(htr.out _ (below_new w _)).mono ?_;rintro e w' ⟨rfl,rfl⟩)
  exact bodyPost_ret (v:= .agg #[.bool neg,.slice a t c]) (by simp [results,Tryz.results105,go_sem]) rfl ⟨_,_,_,_,rfl,hI.out _ (below_new _ _),below_new _ _,fun q hq=>hq⟩
theorem cmp_lt {a b:Int}(h:a<b):cmpI a b= -1:=by unfold cmpI;rw [if_pos h]
theorem cmp_gt {a b:Int}(h:b<a):cmpI a b=1:=by unfold cmpI;rw [if_neg (by omega),if_pos h]
theorem cmp_eq (a:Int):cmpI a a=0:=by unfold cmpI;simp
theorem cmp_len {a b:Nat}(h:(digs a).length≠(digs b).length):cmpI ((digs a).length:Int) ((digs b).length:Int)=cmpI a b:=by
 rcases Nat.lt_or_gt_of_ne h with h1|h1
 ·have:=digs_len_lt h1;rw [cmp_lt (by omega),cmp_lt (by omega)]
 ·have:=digs_len_lt h1;rw [cmp_gt (by omega),cmp_gt (by omega)]
theorem cmp_top {a b:Nat}(hl:(digs a).length=(digs b).length)(k:Nat)(hk:k<(digs a).length)(D:(digs a).drop (k+1)=(digs b).drop (k+1))(hne:iat (digs a) k≠iat (digs b) k):cmpI (iat (digs a) k) (iat (digs b) k)=cmpI a b:=by
 rcases Int.lt_or_gt_of_ne hne with h1|h1
 ·have:=val_top (Dg_digs a) (Dg_digs b) hl k hk (by rw [D]) h1;rw [val_digs,val_digs] at this;rw [cmp_lt h1,cmp_lt this]
 ·have:=val_top (Dg_digs b) (Dg_digs a) hl.symm k (by omega) (by rw [D]) h1;rw [val_digs,val_digs] at this;rw [cmp_gt h1,cmp_gt this]
theorem drop_same {x y:List Int}(hl:x.length=y.length)(k:Nat)(hk:k<x.length)(D:x.drop (k+1)=y.drop (k+1))(he:iat x k=iat y k):x.drop k=y.drop k:=by
 rw [List.drop_eq_getElem_cons hk,List.drop_eq_getElem_cons (l:=y) (by omega),D]
 congr 1
 simpa [iat,hk,show k<y.length by omega] using he
theorem q_left {P:Program}{f:FuncId}{args:Array Value}{w:World}{a:Nat}{v:Value}(h:Calls P f args (w.drewN a) fun e w'=>e= .returned v/\w.drewN a=w'):
 Calls P f args (w.drewN a) fun e w''=>e= .returned v/\∃m,w''=w.drewN m:=h.mono fun _ _ x=>⟨x.1,a,x.2.symm⟩
theorem compare_any (a1 a2:Option Addr)(n1 c1 n2 c2:Nat)(x y:Nat)(w:World)(hR1:Rdi w a1 (digs x))(hR2:Rdi w a2 (digs y))(hn1:n1=(digs x).length)(hn2:n2=(digs y).length)(hm1:n1<=9223372036854775807)(hm2:n2<=9223372036854775807):
 Calls Tryz.prog 112 #[.slice a1 n1 c1,.slice a2 n2 c2] w fun e w'=>e= .returned (.int .i64 (cmpI x y))/\Below w.heap.size w w':=by
 have H1:=hIq hR1;have H2:=hIq hR2;have N1:=hIq hn1;have N2:=hIq hn2;clear hR1 hR2 hn1 hn2;by_cases hne:n1=n2
 ·subst hne;have htst:((n1:Int) !=(n1:Int))=false:=by simp
  have HL:Hid ((digs x).length=(digs y).length):=hIq (by rw [<-N1.out,<-N2.out])
  go_enter Tryz.func112,Tryz.ntmps112
  go_wp2_with fail
  go_loopw [19] (fun i wr=>∃k:Nat,k<=n1/\i= .int .i64 (k:Int)/\Hid ((digs x).drop (n1 - k)=(digs y).drop (n1 - k))/\Below w.heap.size w wr) (fun i _=>n1 - (intOf i).toNat)
  case atStart=>exact⟨0,Nat.zero_le _,rfl,hIq (by rw [Nat.sub_zero,List.drop_of_length_le (by rw [<-N1.out];exact Nat.le_refl _),List.drop_of_length_le (by rw [<-N2.out];exact Nat.le_refl _)]),Below.refl _ _⟩
  case round=>
   obtain⟨k,hk,rfl,D,hB⟩:=hrel;by_cases hlt:k<n1
   ·obtain⟨j,rfl⟩:∃j,n1=j+1+k:=⟨n1 - 1 - k,by omega⟩;obtain⟨b1,o1,rfl,hc1⟩:=Rdi_at H1.out j (by rw [<-N1.out];omega);obtain⟨b2,o2,rfl,hc2⟩:=Rdi_at H2.out j (by rw [<-N2.out];omega);have C1:=Below.cell_of' hB hc1;have C2:=Below.cell_of' hB hc2;have hB':=hIq hB;have hd':Hid ((digs x).drop (j+1)=(digs y).drop (j+1)):=hIq (by have:=D.out;rw [show j+1+k - k=j+1 by omega] at this;exact this);obtain⟨X,hX⟩:∃X,iat (digs x) j=X:=⟨_,rfl⟩;obtain⟨Y,hY⟩:∃Y,iat (digs y) j=Y:=⟨_,rfl⟩;rw [hX] at C1;rw [hY] at C2;have hX':=hIq hX;have hY':=hIq hY;have hj1:j<(digs x).length:=by rw [<-N1.out];omega
    have e0:(((j+1+k:Nat):Int))=(j:Int)+1+(k:Int):=by omega
    have e1:(j:Int)+1+(k:Int) - 1 - (k:Int)=(j:Int):=by omega
    have e2:(k:Int)<(j:Int)+1+(k:Int):=by omega
    have e3:(j:Int)<(j:Int)+1+(k:Int):=by omega
    have e4:0<=(j:Int):=by omega
    have e5:((j:Int)).toNat=j:=by omega
    clear hB hc1 hc2 D hX hY;rw [e0];by_cases hXY:X=Y
    ·subst hXY;have hn:(X !=X)=false:=by simp
     have hs:Hid ((digs x).drop j=(digs y).drop j):=hIq (drop_same HL.out j hj1 hd'.out (by rw [hX'.out,hY'.out]));clear e0;go_wp2_with fail
     go_quiet (fail)
     go_wp2_with fail
     refine⟨⟨k+1,by omega,by simp,?_,below_drewN hB'.out _⟩,by simp [intOf];omega⟩;exact hIq (by rw [show j+1+k - (k+1)=j by omega];exact hs.out)
    ·have hn:(X !=Y)=true:=by simpa using hXY
     have hr:Hid (cmpI X Y=cmpI x y):=hIq (by rw [<-hX'.out,<-hY'.out];exact cmp_top HL.out j hj1 hd'.out (by rw [hX'.out,hY'.out];exact hXY));clear hXY e0;go_wp2_with fail
     go_quiet (fail)
     go_wp2_with fail
     have hBq:=hIq (below_drewN hB'.out nq);have C1q:(wr.drewN nq).cell? ⟨b1,o1+j,none⟩=some (.int .i64 X):=C1;have C2q:(wr.drewN nq).cell? ⟨b2,o2+j,none⟩=some (.int .i64 Y):=C2;generalize wr.drewN nq=wq at hBq C1q C2q ⊢;clear C1 C2
     go_quiet ((go_at_call 71;exact q_left (cmp_any _ _ _)))
     go_wp2_with fail
     go_ret
     exact⟨by rw [<-hr.out];rfl,below_drewN hBq.out _⟩
   ·have hk':k=n1:=by omega
    subst hk'
    have hr:Hid (cmpI x y=0):=hIq (by
     have:=D.out;rw [Nat.sub_self,List.drop_zero,List.drop_zero] at this
     rw [digs_inj this];exact cmp_eq _)
    have hB':=hIq hB;clear hB;go_wp2_with fail
    go_ret
    exact⟨by rw [hr.out];rfl,hB'.out⟩
 ·have htst:((n1:Int) !=(n2:Int))=true:=by simp;omega
  have hr:Hid (cmpI (n1:Int) (n2:Int)=cmpI x y):=hIq (by rw [N1.out,N2.out];exact cmp_len (by rw [<-N1.out,<-N2.out];exact hne))
  go_enter Tryz.func112,Tryz.ntmps112
  go_wp2_with (go_at_call 71;refine(cmp_any _ _ _).mono ?_;rintro e w' ⟨rfl,rfl⟩)
  go_ret
  exact⟨by rw [<-hr.out];rfl,Below.refl _ _⟩
def MulL (w:World)(g:Nat)(l m:List Int)(i:Nat)(wr:World):Prop:=∃z,MulA l m i z/\Blk wr g z/\Below w.heap.size w wr
def MulM (w:World)(g:Nat)(l m:List Int)(i j:Nat)(over:Int)(wr:World):Prop:=∃z,MulB l m i j over z/\Blk wr g z/\Below w.heap.size w wr
def MulP (l m:List Int)(z:List Int):Prop:=Dg z/\val z=val l*val m/\z.length=l.length+m.length
theorem product_any (a1 a2:Option Addr)(n1 c1 n2 c2:Nat)(l m:List Int)(w:World)(hR1:Rdi w a1 l)(hR2:Rdi w a2 m)(hn1:n1=l.length)(hn2:n2=m.length)(hd1:Dg l)(hd2:Dg m)(hm1:n1<=1099511627775)(hm2:n2<=1099511627775):
 Calls Tryz.prog 113 #[.slice a1 n1 c1,.slice a2 n2 c2] w (NewI w (MulP l m)):=by
 have H1:=hIq hR1;have H2:=hIq hR2;have N1:=hIq hn1;have N2:=hIq hn2;have D1:=hIq hd1;have D2:=hIq hd2;clear hR1 hR2 hn1 hn2 hd1 hd2;have hmk:=run_make_row' (P:=Tryz.prog) 22 3 (.int .i64 0) 8 Tryz.underlying22 info_i64 rfl .i64 .i64 (n1+n2) (by omega) (by omega);rw [zvs_zeros,show((n1+n2:Nat):Int)=(n1:Int)+(n2:Int) by omega] at hmk;have hI:Hid (MulL w w.heap.size l m 0 (w.alloc (.cells (zvs (List.replicate (n1+n2) 0)).toArray 3))):=hIq ⟨_,MulA.start l m,by rw [<-N1.out,<-N2.out];exact Blk_new _ _,below_new _ _⟩;generalize zvs (List.replicate (n1+n2) 0)=Z at hmk hI
 go_enter Tryz.func113,Tryz.ntmps113
 go_wp2_with fail
 generalize w.alloc (.cells Z.toArray 3)=w1 at hI ⊢;obtain⟨g,hg⟩:∃g,w.heap.size=g:=⟨_,rfl⟩;rw [hg] at hI ⊢;have hgg:Hid (w.heap.size<=g):=hIq (Nat.le_of_eq hg);clear hg hmk
 go_loopw [21] (fun i wr=>∃k:Nat,k<=n1/\i= .int .i64 (k:Int)/\MulL w g l m k wr) (fun i _=>n1 - (intOf i).toNat)
 case atStart=>exact⟨0,Nat.zero_le _,rfl,hI.out⟩
 case round=>
  obtain⟨i,hi,rfl,hL⟩:=hrel;clear hI;by_cases hlt:i<n1
  ·obtain⟨b,o,hoX,hcx0⟩:=Rdi_at H1.out i (by rw [<-N1.out];exact hlt);subst hoX
   have hcx:wr.cell? ⟨b,o+i,none⟩=some (.int .i64 (iat l i)):=by
    obtain⟨z,hA,hz,hB⟩:=hL;exact Below.cell_of' hB hcx0
   have hM:Hid (MulM w g l m i 0 0 wr):=hIq (by
    obtain⟨z,hA,hz,hB⟩:=hL
    exact⟨z,hA.row,hz,hB⟩)
   have hx1:=D1.out.all i;obtain⟨x,hxx⟩:∃x,iat l i=x:=⟨_,rfl⟩;rw [hxx] at hcx hx1;have hxx':=hIq hxx;obtain⟨hx3,hx4⟩:=hx1;have i0:0<=(i:Int):=by omega
   have i1:(i:Int)<(n1:Int):=by omega
   have i2:(i:Int)<=(n1:Int)+(n2:Int):=by omega
   have i3:¬(n1:Int)+(n2:Int)<(i:Int):=by omega
   have i4:((n1+n2:Nat):Int)=(n1:Int)+(n2:Int):=by omega
   clear hL hcx0 hxx;go_wp2_with fail
   obtain⟨r,hr⟩:∃r,n1+n2 - i=r:=⟨_,rfl⟩;rw [hr];have r1:(n2:Int)<(r:Int):=by omega
   have hr':=hIq hr;clear hr i1 i2 i3 i4 hlt;obtain⟨wo,rfl⟩:∃wo:World,wo=wr:=⟨_,rfl⟩
   go_loopw [9,31] (fun ov jv wr2=>∃(j:Nat) (over:Int),j<=n2/\jv= .int .i64 (j:Int)/\ov= .int .i64 over/\MulM w g l m i j over wr2) (fun _ jv _=>n2 - (intOf jv).toNat)
   case atStart=>exact⟨0,0,Nat.zero_le _,rfl,rfl,hM.out⟩
   case round=>
    obtain⟨j,over,hj,rfl,rfl,hL⟩:=hrel;clear hM hcx;by_cases hlt:j<n2
    ·obtain⟨z,hB,hz,hW⟩:=hL;obtain⟨b2,o2,hoY,hcy0⟩:=Rdi_at H2.out j (by rw [<-N2.out];exact hlt);subst hoY;have cy:=Below.cell_of' hW hcy0;have hkz:i+j<z.length:=by rw [hB.len,<-N1.out,<-N2.out];have:=hr'.out;omega
     have cz:=hz.cell hkz;have cf:=hz.free (i+j);have hil:i<l.length:=by rw [<-N1.out];have:=hr'.out;omega
     have hnx:=hB.next hil (by rw [<-N2.out];exact hlt) (by rw [hxx'.out];exact hx3) (by rw [hxx'.out];exact hx4) D2.out;have hst:Hid (MulM w g l m i (j+1) ((iat l i*iat m j+iat z (i+j)+over) / 1000000000) (wr.setCell ⟨g,i+j,none⟩ (.int .i64 ((iat l i*iat m j+iat z (i+j)+over) % 1000000000)))):=hIq ⟨_,hnx,hz.set _ _,hW.setCell hgg.out _⟩;have hy1:=D2.out.all j;have hz1:=hB.dg.all (i+j);have ho1:=hB.lo;have ho2:=hB.hi;have hmd:=mul_digit hx3 hx4 hy1.1 hy1.2 hz1.1 hz1.2 ho1 ho2;rw [hxx'.out] at hst;obtain⟨y,hyy⟩:∃y,iat m j=y:=⟨_,rfl⟩;obtain⟨v,hvv⟩:∃v,iat z (i+j)=v:=⟨_,rfl⟩;rw [hyy] at cy hst hy1 hmd;rw [hvv] at cz hst hz1 hmd;obtain⟨q1,q2,q3,q4⟩:=hmd;obtain⟨hy3,hy4⟩:=hy1;obtain⟨hz3,hz4⟩:=hz1;have j0:0<=(j:Int):=by omega
     have j1:(j:Int)<(n2:Int):=by omega
     have j2:(j:Int)<(r:Int):=by omega
     clear hB hz hW hcy0 hkz hil hnx hyy hvv;go_wp2_with fail
     exact⟨⟨j+1,_,by omega,by simp,rfl,hst.out⟩,by simp [intOf];omega⟩
    ·have hj':j=n2:=by omega
     subst hj';obtain⟨z,hB,hz,hW⟩:=hL;have hil:i<l.length:=by rw [<-N1.out];have:=hr'.out;omega
     have hkz:i+j<z.length:=by rw [hB.len,<-N1.out,<-N2.out];have:=hr'.out;omega
     have cz:=hz.cell hkz;have cf:=hz.free (i+j);rw [N2.out] at hB;have hdn:=hB.done hil;rw [<-N2.out] at hdn;have hst:Hid (MulL w g l m (i+1) (wr.setCell ⟨g,i+j,none⟩ (.int .i64 over))):=hIq ⟨_,hdn,hz.set _ _,hW.setCell hgg.out _⟩;have hii:Hid (i+1<=n1):=hIq (by rw [N1.out];exact hil);have hii2:Hid (n1 - (i+1)<n1 - i):=hIq (by have:=hii.out;omega);have j0:0<=(j:Int):=by omega
     generalize iat z (i+j)=v at cz;clear hB hz hW hil hkz hdn hlt;go_wp2_with fail
     exact⟨⟨i+1,hii.out,by simp,hst.out⟩,by simp [intOf];exact hii2.out⟩
  ·have hk':i=n1:=by omega
   subst hk';obtain⟨z,hA,hz,hB⟩:=hL;have hz':=hIq hz;have hB':=hIq hB;have hA':=hIq hA;clear hz hB hA;go_wp2_with fail
   go_ret
   exact⟨g,_,z,rfl,hgg.out,hz'.out,hB'.out,by rw [hA'.out.len,N1.out,N2.out],hA'.out.dg,by rw [hA'.out.sum,N1.out,List.take_length],hA'.out.len⟩
def DivL (w:World)(g:Nat)(l:List Int)(y:Int)(k:Nat)(r:Int)(wr:World):Prop:=∃q,DivA l y k r q/\Blk wr g q/\Below w.heap.size w wr
def DivS (w:World)(l:List Int)(y:Int)(e:Ending)(w':World):Prop:=
 ∃g h n q r,e= .returned (.tuple #[.slice (some ⟨g,0,none⟩) n n,.slice (some ⟨h,0,none⟩) 1 1])/\w.heap.size<=g/\w.heap.size<=h/\Blk w' g q/\Blk w' h [r]/\Below w.heap.size w w'/\n=l.length/\DivA l y 0 r q
theorem shortDivided_any (a:Option Addr)(n c:Nat)(l:List Int)(y:Int)(w:World)(hR0:Rdi w a l)(hn0:n=l.length)(hd0:Dg l)(hy0:0<y)(hy1:y<=1000000000)(hm:n<=1099511627776):
 Calls Tryz.prog 156 #[.slice a n c,.int .i64 y] w (DivS w l y):=by
 have H:=hIq hR0;have N:=hIq hn0;have D:=hIq hd0;clear hR0 hn0 hd0;have hmk:=run_make_row' (P:=Tryz.prog) 22 3 (.int .i64 0) 8 Tryz.underlying22 info_i64 rfl .i64 .i64 n (by omega) (by omega);rw [zvs_zeros] at hmk;have hI:Hid (DivL w w.heap.size l y n 0 (w.alloc (.cells (zvs (List.replicate n 0)).toArray 3))):=hIq ⟨_,by rw [N.out];exact DivA.start l y hy0,by rw [<-N.out];exact Blk_new _ _,below_new _ _⟩;generalize zvs (List.replicate n 0)=Z at hmk hI;have y0:(y==0)=false:=by simp;omega
 go_enter Tryz.func156,Tryz.ntmps156
 go_wp2_with fail
 generalize w.alloc (.cells Z.toArray 3)=w1 at hI ⊢;obtain⟨g,hg⟩:∃g,w.heap.size=g:=⟨_,rfl⟩;rw [hg] at hI ⊢;have hgg:Hid (w.heap.size<=g):=hIq (Nat.le_of_eq hg);clear hg hmk
 go_loopw [7,16] (fun rv i wr=>∃(k j:Nat) (r:Int),j+k=n/\i= .int .i64 (k:Int)/\rv= .int .u64 r/\DivL w g l y j r wr) (fun _ i _=>n - (intOf i).toNat)
 case atStart=>exact⟨0,n,0,rfl,rfl,rfl,hI.out⟩
 case round=>
  obtain⟨k,j0,r,hjk,rfl,rfl,hL⟩:=hrel;clear hI;by_cases hlt:k<n
  ·obtain⟨j,rfl⟩:∃j,j0=j+1:=⟨j0 - 1,by omega⟩;subst hjk;obtain⟨q,hA,hq,hB⟩:=hL;have hjl:j<l.length:=by rw [<-N.out];omega
   obtain⟨b,o,rfl,hcx⟩:=Rdi_at H.out j hjl;have cx:=Below.cell_of' hB hcx;have hjq:j<q.length:=by rw [hA.len];exact hjl
   have cq:=hq.cell hjq;have cf:=hq.free j;have hst:Hid (DivL w g l y j ((r*1000000000+iat l j) % y) (wr.setCell ⟨g,j,none⟩ (.int .i64 ((r*1000000000+iat l j) / y)))):=hIq ⟨_,hA.next hjl D.out hy1,hq.set _ _,hB.setCell hgg.out _⟩;have hr1:=hA.lo;have hr2:=hA.hi;have hx:=D.out.all j;have hq1:0<=(r*1000000000+iat l j) / y:=Int.ediv_nonneg (by omega) (by omega);have hq2:(r*1000000000+iat l j) / y<1000000000:=Int.ediv_lt_of_lt_mul (by omega) (by omega);have hq3:0<=(r*1000000000+iat l j) % y:=Int.emod_nonneg _ (by omega);have hq4:(r*1000000000+iat l j) % y<y:=Int.emod_lt_of_pos _ hy0;obtain⟨x,hxx⟩:∃x,iat l j=x:=⟨_,rfl⟩;obtain⟨v,hvv⟩:∃v,iat q j=v:=⟨_,rfl⟩;rw [hxx] at cx hst hx hq1 hq2 hq3 hq4;rw [hvv] at cq;obtain⟨hx3,hx4⟩:=hx;have e0:(((j+1+k:Nat):Int))=(j:Int)+1+(k:Int):=by omega
   have e1:(j:Int)+1+(k:Int) - 1 - (k:Int)=(j:Int):=by omega
   have e2:(k:Int)<(j:Int)+1+(k:Int):=by omega
   have e3:(j:Int)<(j:Int)+1+(k:Int):=by omega
   have e4:0<=(j:Int):=by omega
   have e5:((j:Int)).toNat=j:=by omega
   clear hA hq hB hcx hjl hjq hxx hvv hlt;go_wp2_with fail
   exact⟨⟨k+1,j,_,by omega,by simp,rfl,hst.out⟩,by simp [intOf];omega⟩
  ·have hk':k=n:=by omega
   obtain rfl:j0=0:=by omega
   subst hk';obtain⟨q,hA,hq,hB⟩:=hL;have hA':=hIq hA;have hq':=hIq hq;have hB':=hIq hB;have hr1:=hA.lo;have hr2:=hA.hi;clear hA hq hB hjk;go_wp2_with fail
   go_ret2
   exact⟨g,wr.heap.size,_,q,r,rfl,hgg.out,hB'.out.size,hq'.out.later (below_new _ _),Blk_new wr [r],below_tr hB'.out (below_new _ _),N.out,hA'.out⟩
def NumI (l:List Int)(k:Nat):Int:=val (l.drop k) % 18446744073709551616
theorem NumI_next {l:List Int}{k:Nat}(hk:k<l.length):(NumI l (k+1)*1000000000+iat l k) % 18446744073709551616=NumI l k:=by
 unfold NumI;rw [val_drop l k hk];omega
theorem u64_two (a x:Int):IntKind.u64.wrap (IntKind.u64.wrap a+x)=(a+x) % 18446744073709551616:=by
 simp [IntKind.wrap,IntKind.bits,IntKind.signed]
theorem NumI_lo (l:List Int)(k:Nat):0<=NumI l k/\NumI l k<18446744073709551616:=by unfold NumI;omega
theorem number_any (a:Option Addr)(n c:Nat)(l:List Int)(w:World)(hR0:Rdi w a l)(hn0:n=l.length)(hd0:Dg l)(hm:n<=1099511627776):
 Calls Tryz.prog 153 #[.slice a n c] w fun e w'=>e= .returned (.int .u64 (NumI l 0))/\w=w':=by
 have H:=hIq hR0;have N:=hIq hn0;have D:=hIq hd0;clear hR0 hn0 hd0
 go_enter Tryz.func153,Tryz.ntmps153
 go_wp2_with fail
 go_loop [3,7] (fun mv i=>∃(k j:Nat),j+k=n/\i= .int .i64 (k:Int)/\mv= .int .u64 (NumI l j)) (fun _ i=>n - (intOf i).toNat)
 case atStart=>exact⟨0,n,rfl,rfl,by unfold NumI;rw [N.out,List.drop_length];rfl⟩
 case round=>
  obtain⟨k,j0,hjk,rfl,rfl⟩:=hrel;by_cases hlt:k<n
  ·obtain⟨j,rfl⟩:∃j,j0=j+1:=⟨j0 - 1,by omega⟩;subst hjk;have hjl:j<l.length:=by rw [<-N.out];omega
   obtain⟨b,o,rfl,cx⟩:=Rdi_at H.out j hjl;have hst:=hIq (NumI_next hjl);have hr:=NumI_lo l (j+1);have hx:=D.out.all j;obtain⟨x,hxx⟩:∃x,iat l j=x:=⟨_,rfl⟩;obtain⟨M,hM⟩:∃M,NumI l (j+1)=M:=⟨_,rfl⟩;rw [hxx] at cx hst hx;rw [hM] at hst hr ⊢;obtain⟨hx3,hx4⟩:=hx;obtain⟨hr3,hr4⟩:=hr;have e0:(((j+1+k:Nat):Int))=(j:Int)+1+(k:Int):=by omega
   have e1:(j:Int)+1+(k:Int) - 1 - (k:Int)=(j:Int):=by omega
   have e2:(k:Int)<(j:Int)+1+(k:Int):=by omega
   have e3:(j:Int)<(j:Int)+1+(k:Int):=by omega
   have e4:0<=(j:Int):=by omega
   have e5:((j:Int)).toNat=j:=by omega
   clear hjl hxx hM hlt;go_wp2_with fail
   exact⟨⟨k+1,j,by omega,by simp,by rw [u64_two,hst.out]⟩,by simp [intOf];omega⟩
  ·have hk':k=n:=by omega
   obtain rfl:j0=0:=by omega
   subst hk';go_wp2_with fail
   go_ret
   exact⟨rfl,rfl⟩
theorem take_set1 (A:List Int)(k:Nat)(v:Int)(h:k<A.length):(A.set k v).take (k+1)=A.take k++ [v]:=by
 rw [List.take_succ_eq_append_getElem (by rw [List.length_set];exact h),List.take_set_of_le (Nat.le_refl _)];simp
theorem val_snoc (l:List Int)(v:Int):val (l++ [v])=val l+pw l.length*v:=by
 rw [val_append];show _+_*(v+1000000000*0)=_;simp
theorem val_zero_of {l:List Int}(h:∀j,iat l j=0):val l=0:=by
 induction l with
 |nil=>rfl
 |cons d t ih=>
  have h0:=h 0;rw [iat_cons_zero] at h0;show d+1000000000*val t=0;rw [ih (fun j=>by have:=h (j+1);rwa [iat_cons_succ] at this),h0];rfl
theorem val_drop_zero {l:List Int}{k:Nat}(h:∀j,k<=j->iat l j=0):val (l.drop k)=0:=
 val_zero_of fun j=>by rw [iat_drop];exact h _ (by omega)
theorem top_le {a b:List Int}{k:Nat}{Q:Int}(ha:Dg a)(hb:Dg b)(hka:k<=a.length)(hkb:k<=b.length)(hQ:0<=Q)(h:Q*val b<=val a):Q*val (b.drop k)<=val (a.drop k):=by
 have e1:=val_split a k hka;have e2:=val_split b k hkb;have h1:=(ha.take k).hi;rw [List.length_take,Nat.min_eq_left hka] at h1;have h2:=(hb.take k).lo;have hp:=pw_pos k;generalize val (a.take k)=a0 at*
 generalize val (b.take k)=b0 at*
 generalize val (a.drop k)=a1 at*
 generalize val (b.drop k)=b1 at*
 rw [e1,e2] at h;have h3:0<=Q*b0:=Int.mul_nonneg hQ h2
 have h4:pw k*(Q*b1)<pw k*(a1+1):=by
  have e3:Q*(b0+pw k*b1)=Q*b0+pw k*(Q*b1):=by grind
  have e4:pw k*(a1+1)=pw k*a1+pw k:=by grind
  omega
 have:=Int.lt_of_mul_lt_mul_left h4 (by omega);omega
structure SubA (x y:List Int)(n:Int)(k:Nat)(over:Int)(z:List Int):Prop where
 len:z.length=y.length+1
 dg:Dg (z.take k)
 sum:val (z.take k) - pw k*over=val (x.take k) - n*val (y.take k)
 lo:0<=over
 hi:over<=1000000000
theorem SubA.start (x y:List Int)(n:Int)(z:List Int)(h:z.length=y.length+1):SubA x y n 0 0 z:=
 ⟨h,by rw [List.take_zero];exact Dg_nil,by simp [val],by omega,by omega⟩
theorem sub_digit {n d x over:Int}(hn0:0<=n)(hn1:n<1000000000)(hd0:0<=d)(hd1:d<1000000000)(hx0:0<=x)(hx1:x<1000000000)(h0:0<=over)(h1:over<=1000000000):
 0<=n*d/\n*d<=999999998000000001/\0<=1000000000000000000+x - n*d - over/\1000000000000000000+x - n*d - over<1000000001000000000:=by
 have e1:0<=n*d:=Int.mul_nonneg hn0 hd0;have e2:n*d<=999999999*d:=Int.mul_le_mul_of_nonneg_right (by omega) hd0;omega
theorem SubA.next {x y z:List Int}{n over:Int}{k:Nat}(h:SubA x y n k over z)(hx:Dg x)(hy:Dg y)(hk:k<y.length)(hkx:k<x.length)(hn0:0<=n)(hn1:n<1000000000):
 SubA x y n (k+1) (1000000000 - (1000000000000000000+iat x k - n*iat y k - over) / 1000000000) (z.set k ((1000000000000000000+iat x k - n*iat y k - over) % 1000000000)):=by
 have hz:k<z.length:=by rw [h.len];omega
 have b1:=hx.all k;have b2:=hy.all k;have ht:=sub_digit hn0 hn1 b2.1 b2.2 b1.1 b1.2 h.lo h.hi;have hs:=h.sum;have hl:(z.take k).length=k:=by rw [List.length_take];omega
 generalize ht':1000000000000000000+iat x k - n*iat y k - over=t at*
 refine⟨by rw [List.length_set];exact h.len,?_,?_,by omega,by omega⟩
 ·rw [take_set1 _ _ _ hz];exact Dg_append h.dg (Dg_cons (by omega) (by omega) Dg_nil)
 ·rw [take_set1 _ _ _ hz,val_snoc,hl,val_take x k hkx,val_take y k hk];show _ - 1000000000*pw k*_=_;have e:=Int.mul_ediv_add_emod t 1000000000
  grind
theorem SubA.done {x y z:List Int}{n over:Int}(h:SubA x y n y.length over z)(hx:x.length=y.length+1):
 val (z.set y.length (iat x y.length - over))=val x - n*val y/\(iat x y.length - over<0->val x - n*val y<0)/\(0<=iat x y.length - over->iat x y.length<1000000000->Dg (z.set y.length (iat x y.length - over))):=by
 have hz:y.length<z.length:=by rw [h.len];omega
 have hl:(z.take y.length).length=y.length:=by rw [List.length_take];omega
 have hs:=h.sum;rw [List.take_length] at hs
 have e1:z.set y.length (iat x y.length - over)=z.take y.length++ [iat x y.length - over]:=by
  rw [<-take_set1 _ _ _ hz,List.take_of_length_le (by rw [List.length_set,h.len];omega)]
 have e2:val x=val (x.take y.length)+pw y.length*iat x y.length:=by
  rw [<-val_take x _ (by omega),<-hx,List.take_length]
 have hv:val (z.set y.length (iat x y.length - over))=val x - n*val y:=by
  rw [e1,val_snoc,hl,e2];grind
 refine⟨hv,fun hneg=>?_,fun h0 h1=>?_⟩
 ·rw [<-hv,e1,val_snoc,hl];have h3:=h.dg.hi;rw [hl] at h3;have hp:=pw_pos y.length;have:pw y.length*(iat x y.length - over)<=pw y.length*(-1):=Int.mul_le_mul_of_nonneg_left (by omega) (by omega);omega
 ·rw [e1];exact Dg_append h.dg (Dg_cons h0 (by have:=h.lo;omega) Dg_nil)
theorem quot_le {x y:List Int}{m:Nat}{Q:Int}(hx:Dg x)(hy:Dg y)(hm:y.length=m+2)(hxl:x.length=m+3)(hQ0:0<=Q)(h:Q*val y<=val x):
 Q*iat y (m+1)<=iat x (m+2)*1000000000+iat x (m+1)/\Q*(iat y m+1000000000*iat y (m+1))<=iat x m+1000000000*(iat x (m+2)*1000000000+iat x (m+1)):=by
 have h1:=top_le (k:=m+1) hx hy (by omega) (by omega) hQ0 h;have h2:=top_le (k:=m) hx hy (by omega) (by omega) hQ0 h;have d3:val (x.drop (m+3))=0:=by rw [<-hxl,List.drop_length];rfl
 have d2:val (y.drop (m+2))=0:=by rw [<-hm,List.drop_length];rfl
 rw [val_drop x m (by omega),val_drop x (m+1) (by omega),val_drop x (m+2) (by omega),d3,val_drop y m (by omega),val_drop y (m+1) (by omega),d2] at h2;rw [val_drop x (m+1) (by omega),val_drop x (m+2) (by omega),d3,val_drop y (m+1) (by omega),d2] at h1;refine⟨?_,?_⟩
 ·simp only [Int.mul_zero,Int.add_zero] at h1;omega
 ·simp only [Int.mul_zero,Int.add_zero] at h2;have:iat x m+1000000000*(iat x (m+2)*1000000000+iat x (m+1))=iat x m+1000000000*(iat x (m+1)+1000000000*iat x (m+2)):=by omega
  omega
theorem mul_lt_of {a b c:Int}(hc:0<=c)(h:a*c<b*c):a<b:=by
 rcases Int.lt_or_le a b with h1|h1
 ·exact h1
 ·have:=Int.mul_le_mul_of_nonneg_right h1 hc;omega
theorem quot_lt {x y:Int}{Q:Int}(hy:0<y)(h:Q*y<=x)(hx:x<1000000000*y):Q<1000000000:=mul_lt_of (Int.le_of_lt hy) (Int.lt_of_le_of_lt h hx)
theorem guess_less {g Q y0 y1 x0 H:Int}(hy:0<=y0+1000000000*y1)(hq:Q*(y0+1000000000*y1)<=x0+1000000000*H)(h:(H - g*y1)*1000000000+x0<g*y0):Q<g:=by
 apply mul_lt_of hy;have e:g*(y0+1000000000*y1)=g*y0+1000000000*(g*y1):=by grind
 rw [e];have e2:(H - g*y1)*1000000000=1000000000*H - 1000000000*(g*y1):=by grind
 omega
theorem quot_div {Q y H:Int}(hy:0<y)(h:Q*y<=H):Q<=H / y:=(Int.le_ediv_iff_mul_le hy).2 h
structure LongA (X y:List Int)(n at_:Nat)(R q:List Int):Prop where
 lenR:R.length=X.length
 dgR:Dg R
 lenq:q.length+n=X.length
 dgq:Dg q
 same:∀j,j<at_->iat R j=iat X j
 zero:∀j,at_+n<=j->iat R j=0
 sum:val (X.drop at_)=val y*val (q.drop at_)+val (R.drop at_)
 lt:val (R.drop at_)<val y
theorem LongA.start {X y:List Int}{n L:Nat}(hX:Dg X)(hl:L+n=X.length)(hlt:val (X.drop L)<val y):LongA X y n L X (List.replicate L 0):=
 ⟨rfl,hX,by rw [List.length_replicate];exact hl,Dg_zeros _,fun _ _=>rfl,fun j hj=>iat_ge (by omega),by rw [List.drop_of_length_le (l:=List.replicate L 0) (by simp)];show _=val y*0+_;simp,hlt⟩
theorem LongA.part {X y R q:List Int}{n k:Nat}(h:LongA X y n (k+1) R q)(hk:k<q.length):
 (R.drop k).take (n+1)=(R.drop k).take (n+1)/\((R.drop k).take (n+1)).length=n+1/\Dg ((R.drop k).take (n+1))/\val ((R.drop k).take (n+1))=val (R.drop k)/\val (R.drop k)=iat R k+1000000000*val (R.drop (k+1))/\val (R.drop k)<1000000000*val y:=by
 have hR:k<R.length:=by rw [h.lenR,<-h.lenq];omega
 have D:=val_drop R k hR;have hl:((R.drop k).take (n+1)).length=n+1:=by rw [List.length_take,List.length_drop,h.lenR,<-h.lenq];omega
 refine⟨rfl,hl,(h.dgR.drop k).take _,?_,D,?_⟩
 ·have:=val_split (R.drop k) (n+1) (by rw [List.length_drop,h.lenR,<-h.lenq];omega);rw [val_drop_zero (l:=R.drop k) (k:=n+1) (fun j hj=>by rw [iat_drop];exact h.zero _ (by omega))] at this;omega
 ·rw [D];have:=h.lt;have:=(h.dgR.all k).2;omega
theorem LongA.none {X y R q:List Int}{n k:Nat}(h:LongA X y n (k+1) R q)(hk:k<q.length)(hq:iat q k=0)(hyl:y.length=n)(hy:Dg y)(hlt:val ((R.drop k).take (n+1))<val y):LongA X y n k R q:=by
 have hp:=h.part hk;have hX:k<X.length:=by rw [<-h.lenq];omega
 rw [hp.2.2.2.1] at hlt;refine⟨h.lenR,h.dgR,h.lenq,h.dgq,fun j hj=>h.same j (by omega),fun j hj=>?_,?_,hlt⟩
 ·rcases Nat.lt_or_ge (k+n) j with hj2|hj2
  ·exact h.zero j (by omega)
  ·obtain rfl:j=k+n:=by omega
   have hyp:=hy.hi;rw [hyl] at hyp;have hs:=val_split (R.drop k) n (by rw [List.length_drop,h.lenR,<-h.lenq];omega);have h1:=((h.dgR.drop k).take n).lo;have h2:=((h.dgR.drop k).drop n).lo;have h3:=val_drop (R.drop k) n (by rw [List.length_drop,h.lenR,<-h.lenq];omega);have h4:=((h.dgR.drop k).drop (n+1)).lo;have h5:=((h.dgR.drop k).all n);rw [iat_drop] at h3 h5;have hpn:=pw_pos n
   have h6:val ((R.drop k).drop n)<1:=by
    rcases Int.lt_or_le (val ((R.drop k).drop n)) 1 with h7|h7
    ·exact h7
    ·have:pw n*1<=pw n*val ((R.drop k).drop n):=Int.mul_le_mul_of_nonneg_left h7 (by omega);omega
   omega
 ·rw [val_drop X k hX,val_drop q k hk,hq,hp.2.2.2.2.1,h.same k (by omega),h.sum]
  grind
theorem LongA.digit {X y R q left:List Int}{n k:Nat}{Q:Int}(h:LongA X y n (k+1) R q)(hk:k<q.length)(hyl:y.length=n)(hy:Dg y)(hl:left.length=n+1)(D:Dg left)
 (hv:val left=val ((R.drop k).take (n+1)) - Q*val y) (hlt:val left<val y) (hQ0:0<=Q) (hQ1:Q<1000000000):LongA X y n k (R.take k++left++R.drop (k+(n+1))) (q.set k Q):=by
 have hp:=h.part hk;have hX:k<X.length:=by rw [<-h.lenq];omega
 rw [hp.2.2.2.1] at hv;have hRl:R.length=q.length+n:=by rw [h.lenR,h.lenq]
 have htl:(R.take k).length=k:=by rw [List.length_take];omega
 have hdrop:(R.take k++left++R.drop (k+(n+1))).drop k=left++R.drop (k+(n+1)):=by
  rw [List.append_assoc,List.drop_append_of_le_length (by omega),List.drop_of_length_le (by omega),List.nil_append]
 have hz0:val (R.drop (k+(n+1)))=0:=val_drop_zero fun j hj=>h.zero j (by omega)
 have hvd:val ((R.take k++left++R.drop (k+(n+1))).drop k)=val left:=by
  rw [hdrop,val_append,hz0];simp
 refine⟨by rw [List.length_append,List.length_append,htl,hl,List.length_drop,hRl,<-h.lenq];omega,Dg_append (Dg_append (h.dgR.take _) D) (h.dgR.drop _),by rw [List.length_set];exact h.lenq,h.dgq.set _ _ hk hQ0 hQ1,fun j hj=>?_,fun j hj=>?_,?_,by rw [hvd];exact hlt⟩
 ·rw [List.append_assoc,iat_append,if_pos (by omega),iat_take,if_pos hj];exact h.same j (by omega)
 ·rw [List.append_assoc,iat_append,if_neg (by omega),htl,iat_append];split
  ·obtain hj2:j - k=n:=by omega
   rw [hj2];have hyp:=hy.hi;rw [hyl] at hyp;have hs:=val_take left n (by omega);rw [<-hl,List.take_length] at hs;have h1:=(D.take n).lo;have h2:=D.all n;have hpn:=pw_pos n;rcases Int.lt_or_le (iat left n) 1 with h7|h7
   ·omega
   ·have:pw n*1<=pw n*iat left n:=Int.mul_le_mul_of_nonneg_left h7 (by omega);omega
  ·rw [iat_drop];exact h.zero _ (by omega)
 ·rw [hvd,val_drop X k hX,val_drop (q.set k Q) k (by rw [List.length_set];exact hk),drop_set _ _ _ _ (by omega),iat_set _ _ _ _ hk,if_pos rfl,hv,hp.2.2.2.2.1,h.sum,h.same k (by omega)]
  grind
def DivQ (x y q r:List Int):Prop:=Dg q/\Dg r/\val x=val y*val q+val r/\val r<val y
theorem LongA.done {x y X Y R q rr:List Int}{n:Nat}{f rm:Int}(h:LongA X Y n 0 R q)(hf:0<f)(hX:val X=val x*f)(hY:val Y=val y*f)(hrr:Dg rr)(hs:val (R.take n)=f*val rr+rm)(h0:0<=rm)(h1:rm<f):DivQ x y q rr:=by
 have hsum:=h.sum;have hlt:=h.lt;rw [List.drop_zero,List.drop_zero,List.drop_zero] at hsum;rw [List.drop_zero] at hlt
 have hR:val R=val (R.take n):=by
  have:=val_split R n (by rw [h.lenR,<-h.lenq];omega);rw [val_drop_zero (l:=R) (k:=n) (fun j hj=>h.zero j (by omega))] at this;omega
 rw [hR,hs] at hsum hlt;rw [hX,hY] at hsum;rw [hY] at hlt;have e:f*(val x - val y*val q - val rr)=rm:=by grind
 have hz:val x - val y*val q - val rr=0:=by
  generalize val x - val y*val q - val rr=d at e;rcases Int.lt_trichotomy d 0 with D|D|D
  ·have:f*d<=f*(-1):=Int.mul_le_mul_of_nonneg_left (by omega) (by omega);omega
  ·exact D
  ·have:f*1<=f*d:=Int.mul_le_mul_of_nonneg_left (by omega) (by omega);omega
 refine⟨h.dgq,hrr,by omega,?_⟩;have:f*val rr<f*val y:=by rw [Int.mul_comm f (val y)];omega
 exact Int.lt_of_mul_lt_mul_left this (by omega)
theorem factor_bd {t:Int}(h1:1<=t)(h2:t<1000000000):1<=1000000000 / (t+1)/\1000000000 / (t+1)<=500000000/\(t+1)*(1000000000 / (t+1))<=1000000000:=by
 have h3:(t+1)*(1000000000 / (t+1))<=1000000000:=Int.mul_ediv_self_le (by omega);refine⟨(Int.le_ediv_iff_mul_le (by omega)).2 (by omega),?_,h3⟩
 have:1000000000 / (t+1)<=1000000000 / 2:=by
  apply (Int.le_ediv_iff_mul_le (by omega)).2;have h5:0<=1000000000 / (t+1):=Int.ediv_nonneg (by omega) (by omega);have h6:2*(1000000000 / (t+1))<=(t+1)*(1000000000 / (t+1)):=Int.mul_le_mul_of_nonneg_right (by omega) h5;omega
 omega
theorem top_val {y:List Int}{n:Nat}(hy:Dg y)(hl:y.length=n+1):val y=val (y.take n)+pw n*iat y n/\0<=val (y.take n)/\val (y.take n)<pw n:=by
 have h:=val_take y n (by omega);rw [<-hl,List.take_length] at h;have h2:=(hy.take n).hi;rw [List.length_take,Nat.min_eq_left (by omega)] at h2;exact⟨h,(hy.take n).lo,h2⟩
theorem factor_len {y:List Int}{n:Nat}{f:Int}(hy:Dg y)(hl:y.length=n+1)(h1:1<=iat y n)(hf:1<=f)(hf2:(iat y n+1)*f<=1000000000):(digs (val y*f).toNat).length=n+1/\pw n<=val y:=by
 obtain⟨e,h2,h3⟩:=top_val hy hl;have hp:=pw_pos n
 have hlo:pw n<=val y:=by
  have:pw n*1<=pw n*iat y n:=Int.mul_le_mul_of_nonneg_left h1 (by omega);omega
 have hup:val y*f<pw (n+1):=by
  have h4:val y<=pw n*(iat y n+1) - 1:=by
   have:pw n*(iat y n+1)=pw n*iat y n+pw n:=by grind
   omega
  have h5:val y*f<=(pw n*(iat y n+1) - 1)*f:=Int.mul_le_mul_of_nonneg_right h4 (by omega);have h6:pw n*((iat y n+1)*f)<=pw n*1000000000:=Int.mul_le_mul_of_nonneg_left hf2 (by omega);have e2:(pw n*(iat y n+1) - 1)*f=pw n*((iat y n+1)*f) - f:=by grind
  show _<1000000000*pw n;omega
 have hge:val y<=val y*f:=by
  have:val y*1<=val y*f:=Int.mul_le_mul_of_nonneg_left hf (by omega);omega
 refine⟨Nat.le_antisymm (digs_len_le (by omega)) ?_,hlo⟩;rcases Nat.lt_or_ge (digs (val y*f).toNat).length (n+1)with h7|h7
 ·have h8:=lt_pw (val y*f).toNat;have h9:=pw_mono (show(digs (val y*f).toNat).length<=n by omega);omega
 ·exact h7
theorem long_top {x y X:List Int}{n L:Nat}{f:Int}(hx:Dg x)(hX:Dg X)(hXl:L+(n+1)=X.length)(hxl:x.length=L+n)(hv:val X=val x*f)(hf:1<=f)(hy:pw n<=val y):val (X.drop L)<val y*f:=by
 have hs:=val_split X L (by omega);have h1:=(hX.take L).lo;have h2:=hx.hi;rw [hxl,pw_add] at h2;have hp:=pw_pos L
 have h3:pw L*val (X.drop L)<pw L*(val y*f):=by
  have h4:val x*f<pw L*pw n*f:=Int.mul_lt_mul_of_pos_right h2 (by omega);have h5:pw L*(pw n*f)<=pw L*(val y*f):=Int.mul_le_mul_of_nonneg_left (Int.mul_le_mul_of_nonneg_right hy (by omega)) (by omega);have e:pw L*pw n*f=pw L*(pw n*f):=Int.mul_assoc _ _ _;omega
 exact Int.lt_of_mul_lt_mul_left h3 (by omega)
end Go.Proofs.YteacdbgalloaiaaGreat
