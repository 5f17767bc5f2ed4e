/- Contracts of the packages integer, rat, plane, polygon and their references. -/
import Derived.Test.YteacdbgalloaiaaGreatH2
import Derived.Deep.RegionHeld3
set_option linter.unusedVariables false
set_option maxRecDepth 100000
set_option maxHeartbeats 6400000
namespace Go.Proofs.YteacdbgalloaiaaGreat
open Go.RowKit
def SumL (w:World)(g:Nat)(l m:List Int)(k:Nat)(wr:World):Prop:=∃z,SumA l m k z/\Blk wr g z/\Below w.heap.size w wr
def SumM (w:World)(g n:Nat)(s:Int)(k:Nat)(wr:World):Prop:=∃z,SumB n s k z/\Blk wr g z/\Below w.heap.size w wr
def SumP (l m:List Int)(z:List Int):Prop:=Dg z/\val z=val l+val m/\z.length<=max l.length m.length+1
theorem sum_any (a1 a2:Option Addr)(n1 c1 n2 c2:Nat)(l m:List Int)(w:World)(hR1:Rdi w a1 l)(hR2:Rdi w a2 m)(hn1:n1=l.length)(hn2:n2=m.length)(hd1:Dg l)(hd2:Dg m)(hm1:n1<=1099511627775)(hm2:n2<=1099511627775):
 Calls Tryz.prog 146 #[.slice a1 n1 c1,.slice a2 n2 c2] w (NewI w (SumP l m)):=by
 have H1:=hIq hR1;have H2:=hIq hR2;have N1:=hIq hn1;have N2:=hIq hn2;have D1:=hIq hd1;have D2:=hIq hd2;clear hR1 hR2 hn1 hn2 hd1 hd2;by_cases hlt0:n1<n2
 ·have t0:(n1:Int)<(n2:Int):=by omega
  have hmax:=hlt0;clear hlt0
  go_enter Tryz.func146,Tryz.ntmps146
  go_wp2_with (go_at_call 106;refine(copied_at _ _ _ m _ (n2+1) _ (by omega) H2.out N2.out (by omega)).mono ?_;rintro e w1 ⟨g,z0,rfl,hg,hz0,hb0,hl0,rfl⟩;have hI:Hid (SumL w g m l 0 w1):=hIq ⟨_,by rw [N2.out];exact SumA.start m l,hz0,hb0⟩;clear hz0 hb0 hl0)
  go_loopw [23] (fun i wr=>∃k:Nat,k<=n1/\i= .int .i64 (k:Int)/\SumL w g m l k wr) (fun i _=>n1 - (intOf i).toNat)
  case atStart=>exact⟨0,Nat.zero_le _,rfl,hI.out⟩
  case round=>
   obtain⟨k,hk,rfl,hL⟩:=hrel;clear hI;by_cases hlt:k<n1
   ·obtain⟨z,hA,hz,hB⟩:=hL;obtain⟨b,o,hoY,hcy⟩:=Rdi_at H1.out k (by rw [<-N1.out];exact hlt);subst hoY;have cy:=Below.cell_of' hB hcy;have hkz:k<z.length:=by rw [hA.len,<-N2.out];omega
    have cx:=hz.cell hkz;have cf:=hz.free k;have hst:Hid (SumL w g m l (k+1) (wr.setCell ⟨g,k,none⟩ (.int .i64 (iat z k+iat l k)))):=hIq ⟨_,hA.next (by rw [<-N1.out];exact hlt) (by rw [<-N1.out,<-N2.out];omega),hz.set _ _,hB.setCell hg _⟩;have hx:=hA.at_ k;rw [if_neg (by omega)] at hx;have hx1:=D2.out.all k;have hy1:=D1.out.all k;obtain⟨x,hxx⟩:∃x,iat z k=x:=⟨_,rfl⟩;obtain⟨y,hyy⟩:∃y,iat l k=y:=⟨_,rfl⟩;rw [hxx] at cx hst hx;rw [hyy] at cy hst hy1;have hx2:0<=x/\x<1000000000:=by omega
    obtain⟨hx3,hx4⟩:=hx2;obtain⟨hy3,hy4⟩:=hy1;have k0:0<=(k:Int):=by omega
    have k1:(k:Int)<(n1:Int):=by omega
    have k2:(k:Int)<(n2:Int)+1:=by omega
    clear hA hz hB hcy hx hx1 hxx hyy hkz;go_wp2_with fail
    exact⟨⟨k+1,by omega,by simp,hst.out⟩,by simp [intOf];omega⟩
   ·have hk':k=n1:=by omega
    have hM:Hid (SumM w g n2 (val m+val l) 0 wr):=hIq (by
     obtain⟨z,hA,hz,hB⟩:=hL;rw [hk',N1.out] at hA;have:=hA.done D2.out D1.out (by rw [<-N2.out,<-N1.out];omega);rw [<-N2.out] at this
     exact⟨z,this,hz,hB⟩)
    have k1:¬(k:Int)<(n1:Int):=by omega
    clear hL;go_wp2_with fail
    go_loopw [38] (fun i wr=>∃k:Nat,k<=n2/\i= .int .i64 (k:Int)/\SumM w g n2 (val m+val l) k wr) (fun i _=>n2 - (intOf i).toNat)
    case atStart=>exact⟨0,Nat.zero_le _,rfl,hM.out⟩
    case round=>
     obtain⟨k,hk,rfl,hL⟩:=hrel;clear hM;by_cases hlt:k<n2
     ·obtain⟨z,hA,hz,hB⟩:=hL;have hkz:k<z.length:=by rw [hA.len];omega
      have hkz1:k+1<z.length:=by rw [hA.len];omega
      have cx:=hz.cell hkz;have cf:=hz.free k;have hx2:=hA.top k;have hy2:=hA.top (k+1);have k0:0<=(k:Int):=by omega
      have k1:(k:Int)<(n2:Int):=by omega
      have k2:(k:Int)<(n2:Int)+1:=by omega
      by_cases hge:1000000000<=iat z k
      ·have h1:=hz.set k (iat z k - 1000000000);have hkz2:k+1<(z.set k (iat z k - 1000000000)).length:=by rw [List.length_set];exact hkz1
       have cy:=h1.cell hkz2;have cg:=h1.free (k+1);have ey:iat (z.set k (iat z k - 1000000000)) (k+1)=iat z (k+1):=by rw [iat_set _ _ _ _ hkz,if_neg (by omega)]
       rw [ey] at cy;have hst:Hid (SumM w g n2 (val m+val l) (k+1) ((wr.setCell ⟨g,k,none⟩ (.int .i64 (iat z k - 1000000000))).setCell ⟨g,k+1,none⟩ (.int .i64 (iat z (k+1)+1)))):=hIq ⟨_,hA.carry hlt hge,h1.set _ _,(hB.setCell hg _).setCell hg _⟩;generalize iat z k=x at*
       generalize iat z (k+1)=y at*
       obtain⟨hx3,hx4⟩:=hx2;obtain⟨hy3,hy4⟩:=hy2;clear hA hz hB h1 hkz hkz1 hkz2 ey;go_wp2_with fail
       exact⟨⟨k+1,by omega,by simp,hst.out⟩,by simp [intOf];omega⟩
      ·have hst:Hid (SumM w g n2 (val m+val l) (k+1) wr):=hIq ⟨z,hA.keep (by omega),hz,hB⟩;generalize iat z k=x at*
       clear hA hz hB hkz hkz1 hy2;go_wp2_with fail
       exact⟨⟨k+1,by omega,by simp,hst.out⟩,by simp [intOf];omega⟩
     ·have hk':k=n2:=by omega
      subst hk';obtain⟨z,hA,hz,hB⟩:=hL;have hz':=hIq hz;have hB':=hIq hB;have hA':=hIq hA;clear hz hB hA;go_wp2_with fail
      go_ret
      exact⟨g,_,z,rfl,hg,hz'.out,hB'.out,hA'.out.len,hA'.out.done,by rw [hA'.out.sum];omega,by rw [hA'.out.len,N2.out];omega⟩
 ·have t0:¬(n1:Int)<(n2:Int):=by omega
  have hmax:=hlt0;clear hlt0
  go_enter Tryz.func146,Tryz.ntmps146
  go_wp2_with (go_at_call 106;refine(copied_at _ _ _ l _ (n1+1) _ (by omega) H1.out N1.out (by omega)).mono ?_;rintro e w1 ⟨g,z0,rfl,hg,hz0,hb0,hl0,rfl⟩;have hI:Hid (SumL w g l m 0 w1):=hIq ⟨_,by rw [N1.out];exact SumA.start l m,hz0,hb0⟩;clear hz0 hb0 hl0)
  go_loopw [23] (fun i wr=>∃k:Nat,k<=n2/\i= .int .i64 (k:Int)/\SumL w g l m k wr) (fun i _=>n2 - (intOf i).toNat)
  case atStart=>exact⟨0,Nat.zero_le _,rfl,hI.out⟩
  case round=>
   obtain⟨k,hk,rfl,hL⟩:=hrel;clear hI;by_cases hlt:k<n2
   ·obtain⟨z,hA,hz,hB⟩:=hL;obtain⟨b,o,hoY,hcy⟩:=Rdi_at H2.out k (by rw [<-N2.out];exact hlt);subst hoY;have cy:=Below.cell_of' hB hcy;have hkz:k<z.length:=by rw [hA.len,<-N1.out];omega
    have cx:=hz.cell hkz;have cf:=hz.free k;have hst:Hid (SumL w g l m (k+1) (wr.setCell ⟨g,k,none⟩ (.int .i64 (iat z k+iat m k)))):=hIq ⟨_,hA.next (by rw [<-N2.out];exact hlt) (by rw [<-N2.out,<-N1.out];omega),hz.set _ _,hB.setCell hg _⟩;have hx:=hA.at_ k;rw [if_neg (by omega)] at hx;have hx1:=D1.out.all k;have hy1:=D2.out.all k;obtain⟨x,hxx⟩:∃x,iat z k=x:=⟨_,rfl⟩;obtain⟨y,hyy⟩:∃y,iat m k=y:=⟨_,rfl⟩;rw [hxx] at cx hst hx;rw [hyy] at cy hst hy1;have hx2:0<=x/\x<1000000000:=by omega
    obtain⟨hx3,hx4⟩:=hx2;obtain⟨hy3,hy4⟩:=hy1;have k0:0<=(k:Int):=by omega
    have k1:(k:Int)<(n2:Int):=by omega
    have k2:(k:Int)<(n1:Int)+1:=by omega
    clear hA hz hB hcy hx hx1 hxx hyy hkz;go_wp2_with fail
    exact⟨⟨k+1,by omega,by simp,hst.out⟩,by simp [intOf];omega⟩
   ·have hk':k=n2:=by omega
    have hM:Hid (SumM w g n1 (val l+val m) 0 wr):=hIq (by
     obtain⟨z,hA,hz,hB⟩:=hL;rw [hk',N2.out] at hA;have:=hA.done D1.out D2.out (by rw [<-N1.out,<-N2.out];omega);rw [<-N1.out] at this
     exact⟨z,this,hz,hB⟩)
    have k1:¬(k:Int)<(n2:Int):=by omega
    clear hL;go_wp2_with fail
    go_loopw [38] (fun i wr=>∃k:Nat,k<=n1/\i= .int .i64 (k:Int)/\SumM w g n1 (val l+val m) k wr) (fun i _=>n1 - (intOf i).toNat)
    case atStart=>exact⟨0,Nat.zero_le _,rfl,hM.out⟩
    case round=>
     obtain⟨k,hk,rfl,hL⟩:=hrel;clear hM;by_cases hlt:k<n1
     ·obtain⟨z,hA,hz,hB⟩:=hL;have hkz:k<z.length:=by rw [hA.len];omega
      have hkz1:k+1<z.length:=by rw [hA.len];omega
      have cx:=hz.cell hkz;have cf:=hz.free k;have hx2:=hA.top k;have hy2:=hA.top (k+1);have k0:0<=(k:Int):=by omega
      have k1:(k:Int)<(n1:Int):=by omega
      have k2:(k:Int)<(n1:Int)+1:=by omega
      by_cases hge:1000000000<=iat z k
      ·have h1:=hz.set k (iat z k - 1000000000);have hkz2:k+1<(z.set k (iat z k - 1000000000)).length:=by rw [List.length_set];exact hkz1
       have cy:=h1.cell hkz2;have cg:=h1.free (k+1);have ey:iat (z.set k (iat z k - 1000000000)) (k+1)=iat z (k+1):=by rw [iat_set _ _ _ _ hkz,if_neg (by omega)]
       rw [ey] at cy;have hst:Hid (SumM w g n1 (val l+val m) (k+1) ((wr.setCell ⟨g,k,none⟩ (.int .i64 (iat z k - 1000000000))).setCell ⟨g,k+1,none⟩ (.int .i64 (iat z (k+1)+1)))):=hIq ⟨_,hA.carry hlt hge,h1.set _ _,(hB.setCell hg _).setCell hg _⟩;generalize iat z k=x at*
       generalize iat z (k+1)=y at*
       obtain⟨hx3,hx4⟩:=hx2;obtain⟨hy3,hy4⟩:=hy2;clear hA hz hB h1 hkz hkz1 hkz2 ey;go_wp2_with fail
       exact⟨⟨k+1,by omega,by simp,hst.out⟩,by simp [intOf];omega⟩
      ·have hst:Hid (SumM w g n1 (val l+val m) (k+1) wr):=hIq ⟨z,hA.keep (by omega),hz,hB⟩;generalize iat z k=x at*
       clear hA hz hB hkz hkz1 hy2;go_wp2_with fail
       exact⟨⟨k+1,by omega,by simp,hst.out⟩,by simp [intOf];omega⟩
     ·have hk':k=n1:=by omega
      subst hk';obtain⟨z,hA,hz,hB⟩:=hL;have hz':=hIq hz;have hB':=hIq hB;have hA':=hIq hA;clear hz hB hA;go_wp2_with fail
      go_ret
      exact⟨g,_,z,rfl,hg,hz'.out,hB'.out,hA'.out.len,hA'.out.done,by rw [hA'.out.sum],by rw [hA'.out.len,N1.out];omega⟩
def DifL (w:World)(g:Nat)(l m:List Int)(k:Nat)(wr:World):Prop:=∃z,DifA l m k z/\Blk wr g z/\Below w.heap.size w wr
def DifM (w:World)(g n:Nat)(s:Int)(k:Nat)(wr:World):Prop:=∃z,DifB n s k z/\Blk wr g z/\Below w.heap.size w wr
def DifP (l m:List Int)(z:List Int):Prop:=Dg z/\val z=val l - val m/\z.length=l.length
theorem difference_any (a1 a2:Option Addr)(n1 c1 n2 c2:Nat)(l m:List Int)(w:World)(hR1:Rdi w a1 l)(hR2:Rdi w a2 m)(hn1:n1=l.length)(hn2:n2=m.length)(hd1:Dg l)(hd2:Dg m)(hm1:n1<=1099511627775)(hle:n2<=n1)(x0:val m<=val l):
 Calls Tryz.prog 147 #[.slice a1 n1 c1,.slice a2 n2 c2] w (NewI w (DifP l m)):=by
 have H1:=hIq hR1;have H2:=hIq hR2;have N1:=hIq hn1;have N2:=hIq hn2;have D1:=hIq hd1;have D2:=hIq hd2;have hv:=hIq x0;clear hR1 hR2 hn1 hn2 hd1 hd2 x0
 go_enter Tryz.func147,Tryz.ntmps147
 go_wp2_with (go_at_call 106;refine(copied_at _ _ _ l _ n1 _ rfl H1.out N1.out (by omega)).mono ?_;rintro e w1 ⟨g,z0,rfl,hg,hz0,hb0,hl0,rfl⟩;have hI:Hid (DifL w g l m 0 w1):=hIq ⟨_,DifA.start l m,by rw [N1.out,cpy_self] at hz0;exact hz0,hb0⟩;clear hz0 hb0 hl0)
 go_loopw [15] (fun i wr=>∃k:Nat,k<=n2/\i= .int .i64 (k:Int)/\DifL w g l m k wr) (fun i _=>n2 - (intOf i).toNat)
 case atStart=>exact⟨0,Nat.zero_le _,rfl,hI.out⟩
 case round=>
  obtain⟨k,hk,rfl,hL⟩:=hrel;clear hI;by_cases hlt:k<n2
  ·obtain⟨z,hA,hz,hB⟩:=hL;obtain⟨b,o,hoY,hcy⟩:=Rdi_at H2.out k (by rw [<-N2.out];exact hlt);subst hoY;have cy:=Below.cell_of' hB hcy;have hkz:k<z.length:=by rw [hA.len,<-N1.out];omega
   have cx:=hz.cell hkz;have cf:=hz.free k;have hst:Hid (DifL w g l m (k+1) (wr.setCell ⟨g,k,none⟩ (.int .i64 (iat z k - iat m k)))):=hIq ⟨_,hA.next (by rw [<-N2.out];exact hlt) (by rw [<-N2.out,<-N1.out];omega),hz.set _ _,hB.setCell hg _⟩;have hx:=hA.at_ k;rw [if_neg (by omega)] at hx;have hx1:=D1.out.all k;have hy1:=D2.out.all k;obtain⟨x,hxx⟩:∃x,iat z k=x:=⟨_,rfl⟩;obtain⟨y,hyy⟩:∃y,iat m k=y:=⟨_,rfl⟩;rw [hxx] at cx hst hx;rw [hyy] at cy hst hy1;have hx2:0<=x/\x<1000000000:=by omega
   obtain⟨hx3,hx4⟩:=hx2;obtain⟨hy3,hy4⟩:=hy1;have k0:0<=(k:Int):=by omega
   have k1:(k:Int)<(n2:Int):=by omega
   have k2:(k:Int)<(n1:Int):=by omega
   clear hA hz hB hcy hx hx1 hxx hyy hkz;go_wp2_with fail
   exact⟨⟨k+1,by omega,by simp,hst.out⟩,by simp [intOf];omega⟩
  ·have hk':k=n2:=by omega
   have hM:Hid (DifM w g n1 (val l - val m) 0 wr):=hIq (by
    obtain⟨z,hA,hz,hB⟩:=hL;rw [hk',N2.out] at hA;have:=hA.done D1.out D2.out;rw [<-N1.out] at this
    exact⟨z,this,hz,hB⟩)
   have k1:¬(k:Int)<(n2:Int):=by omega
   clear hL;go_wp2_with fail
   go_loopw [30] (fun i wr=>∃k:Nat,k<=n1/\i= .int .i64 (k:Int)/\DifM w g n1 (val l - val m) k wr) (fun i _=>n1 - (intOf i).toNat)
   case atStart=>exact⟨0,Nat.zero_le _,rfl,hM.out⟩
   case round=>
    obtain⟨k,hk,rfl,hL⟩:=hrel;clear hM;by_cases hlt:k<n1
    ·obtain⟨z,hA,hz,hB⟩:=hL;have hkz:k<z.length:=by rw [hA.len];omega
     have cx:=hz.cell hkz;have cf:=hz.free k;have hx2:=hA.top k;have hy2:=hA.top (k+1);have k0:0<=(k:Int):=by omega
     have k1:(k:Int)<(n1:Int):=by omega
     by_cases hge:iat z k<0
     ·have hk2:=hA.last (by have:=hv.out;omega) hlt hge;have hkz1:k+1<z.length:=by rw [hA.len];omega
      have h1:=hz.set k (iat z k+1000000000);have hkz2:k+1<(z.set k (iat z k+1000000000)).length:=by rw [List.length_set];exact hkz1
      have cy:=h1.cell hkz2;have cg:=h1.free (k+1);have ey:iat (z.set k (iat z k+1000000000)) (k+1)=iat z (k+1):=by rw [iat_set _ _ _ _ hkz,if_neg (by omega)]
      rw [ey] at cy;have k2:(k:Int)+1<(n1:Int):=by omega
      have hst:Hid (DifM w g n1 (val l - val m) (k+1) ((wr.setCell ⟨g,k,none⟩ (.int .i64 (iat z k+1000000000))).setCell ⟨g,k+1,none⟩ (.int .i64 (iat z (k+1) - 1)))):=hIq ⟨_,hA.carry hk2 hge,h1.set _ _,(hB.setCell hg _).setCell hg _⟩;generalize iat z k=x at*
      generalize iat z (k+1)=y at*
      obtain⟨hx3,hx4⟩:=hx2;obtain⟨hy3,hy4⟩:=hy2;clear hA hz hB h1 hkz hkz1 hkz2 ey;go_wp2_with fail
      exact⟨⟨k+1,by omega,by simp,hst.out⟩,by simp [intOf];omega⟩
     ·have hst:Hid (DifM w g n1 (val l - val m) (k+1) wr):=hIq ⟨z,hA.keep (by omega),hz,hB⟩;generalize iat z k=x at*
      clear hA hz hB hkz hy2;go_wp2_with fail
      exact⟨⟨k+1,by omega,by simp,hst.out⟩,by simp [intOf];omega⟩
    ·have hk':k=n1:=by omega
     subst hk';obtain⟨z,hA,hz,hB⟩:=hL;have hz':=hIq hz;have hB':=hIq hB;have hA':=hIq hA;clear hz hB hA;go_wp2_with fail
     go_ret
     exact⟨g,_,z,rfl,hg,hz'.out,hB'.out,hA'.out.len,hA'.out.done,hA'.out.sum,by rw [hA'.out.len,N1.out]⟩
theorem size_Int:(Tryz.prog.info? 28).map (·.size)=some 2:=by kernel_rfl
def Ar2 (w:World)(nx:Bool)(px:Option Addr)(lx cx:Nat)(ny:Bool)(py:Option Addr)(ly cy:Nat)(W:World):Prop:=
 W.heap[w.heap.size]? =some (.cells #[.bool nx,.slice px lx cx] 28 (0,0))/\W.heap[w.heap.size+1]? =some (.cells #[.bool ny,.slice py ly cy] 28 (0,0))/\
 (∃u v,W.heap[w.heap.size+1+1]? =some (.cells #[u,v] 28 (0,0)))/\Below w.heap.size w W
def oldv (W:World)(b o:Nat):Value:=(W.cell? ⟨b,o,none⟩).getD undef
theorem lt_blk {W:World}{k:Nat}{o:Obj}(e:W.heap[k]? =some o):k<W.heap.size:=by
 rcases Nat.lt_or_ge k W.heap.size with h|h
 ·exact h
 ·rw [Array.getElem?_eq_none h] at e;cases e
section
variable {w W w':World}{nx:Bool}{px:Option Addr}{lx cx:Nat}{ny:Bool}{py:Option Addr}{ly cy:Nat}
theorem Ar2.facts (h:Ar2 w nx px lx cx ny py ly cy W):W.cell? ⟨w.heap.size,0,none⟩=some (.bool nx)/\W.cell? ⟨w.heap.size,1,none⟩=some (.slice px lx cx)/\W.cell? ⟨w.heap.size+1,0,none⟩=some (.bool ny)/\W.cell? ⟨w.heap.size+1,1,none⟩=some (.slice py ly cy)/\
 W.cell? ⟨w.heap.size+1+1,0,none⟩=some (oldv W (w.heap.size+1+1) 0)/\W.cell? ⟨w.heap.size+1+1,1,none⟩=some (oldv W (w.heap.size+1+1) 1)/\W.frozen? ⟨w.heap.size+1+1,0,none⟩=false/\W.frozen? ⟨w.heap.size+1+1,1,none⟩=false:=by
 obtain⟨h1,h2,⟨u,v,h3⟩,_⟩:=h;refine⟨by simp [World.cell?,h1],by simp [World.cell?,h1],by simp [World.cell?,h2],by simp [World.cell?,h2],by simp [oldv,World.cell?,h3],by simp [oldv,World.cell?,h3],by simp [World.frozen?,h3],by simp [World.frozen?,h3]⟩
theorem Ar2.later (h:Ar2 w nx px lx cx ny py ly cy W)(hb:Below W.heap.size W w'):Ar2 w nx px lx cx ny py ly cy w':=by
 obtain⟨h1,h2,⟨u,v,h3⟩,h6⟩:=h;exact⟨(hb.block _ (lt_blk h1)).trans h1,(hb.block _ (lt_blk h2)).trans h2,⟨u,v,(hb.block _ (lt_blk h3)).trans h3⟩,below_tr h6 hb⟩
theorem Ar2.drew (h:Ar2 w nx px lx cx ny py ly cy W):Ar2 w nx px lx cx ny py ly cy W.drew:=h.later ((Below.refl _ W).drew)
theorem Ar2.start (w:World):Ar2 w nx px lx cx ny py ly cy (((w.alloc (.cells #[.bool nx,.slice px lx cx] 28)).alloc (.cells #[.bool ny,.slice py ly cy] 28)).alloc (.cells #[.bool false,.slice none 0 0] 28)):=by
 have hb:Below w.heap.size w (((w.alloc (.cells #[.bool nx,.slice px lx cx] 28)).alloc (.cells #[.bool ny,.slice py ly cy] 28)).alloc (.cells #[.bool false,.slice none 0 0] 28)):=(((Below.refl _ _).alloc (Nat.le_refl _) _).alloc (by simp) _).alloc (by simp;omega) _
 have h3:(((w.alloc (.cells #[.bool nx,.slice px lx cx] 28)).alloc (.cells #[.bool ny,.slice py ly cy] 28)).alloc (.cells #[.bool false,.slice none 0 0] 28)).heap[w.heap.size+1+1]? =some (.cells #[.bool false,.slice none 0 0] 28 (0,0)):=by
  have:=heap_alloc_new ((w.alloc (.cells #[.bool nx,.slice px lx cx] 28)).alloc (.cells #[.bool ny,.slice py ly cy] 28)) (.cells #[.bool false,.slice none 0 0] 28)
  simpa using this
 refine⟨?_,?_,⟨_,_,h3⟩,hb⟩
 ·rw [Below.heap_alloc _ _ _ (by simp;omega),Below.heap_alloc _ _ _ (by simp)];exact heap_alloc_new _ _
 ·rw [Below.heap_alloc _ _ _ (by simp)];exact heap_alloc2_new _ _ _
theorem Ar2.res (h:Ar2 w nx px lx cx ny py ly cy W)(p q:Value):((W.setCell ⟨w.heap.size+1+1,0,none⟩ p).setCell ⟨w.heap.size+1+1,1,none⟩ q).heap[w.heap.size+1+1]? =some (.cells #[p,q] 28 (0,0)):=by
 obtain⟨h1,h2,⟨u,v,h3⟩,h6⟩:=h;rw [heap_setCell_self _ _ _ _ _ _ (heap_setCell_self _ _ _ _ _ _ h3)];rfl
theorem Ar2.store (h:Ar2 w nx px lx cx ny py ly cy W)(p q:Value):Ar2 w nx px lx cx ny py ly cy ((W.setCell ⟨w.heap.size+1+1,0,none⟩ p).setCell ⟨w.heap.size+1+1,1,none⟩ q):=by
 refine⟨?_,?_,⟨p,q,h.res p q⟩,(h.2.2.2.setCell (by simp;omega) _).setCell (by simp;omega) _⟩
 ·rw [heap_setCell_other _ _ _ _ (by simp;omega),heap_setCell_other _ _ _ _ (by simp;omega)];exact h.1
 ·rw [heap_setCell_other _ _ _ _ (by simp),heap_setCell_other _ _ _ _ (by simp)];exact h.2.1
theorem Ar2.top (h:Ar2 w nx px lx cx ny py ly cy W):w.heap.size+1+1<W.heap.size:=by
 obtain⟨u,v,h3⟩:=h.2.2.1;exact lt_blk h3
theorem Ar2.ret {nb:Bool}{p:Option Addr}{n c:Nat}{z z':Int}(h:Ar2 w nx px lx cx ny py ly cy W)(hI:IntAt W nb p n c z)(hp:∀q,p=some q->w.heap.size+1+1<q.block)(hz:z=z'):
 RetI w z' (.returned (.agg #[.bool nb,.slice p n c])) ((W.setCell ⟨w.heap.size+1+1,0,none⟩ (.bool nb)).setCell ⟨w.heap.size+1+1,1,none⟩ (.slice p n c)):=by
 subst hz;have hne:∀q,p=some q->q.block≠w.heap.size+1+1:=fun q hq=>by have:=hp q hq;omega
 exact⟨_,_,_,_,rfl,(hI.store hne).store hne,(h.store _ _).2.2.2,fun q hq=>by have:=hp q hq;omega⟩
theorem new_top {g:Nat}{p:Option Addr}(hp:∀q,p=some q->some (⟨g,0,none⟩:Addr)=some q){B:Nat}(hg:B<g):∀q,p=some q->B<q.block:=fun q hq=>by
 have:=hp q hq;cases this;exact hg
end
theorem mul_sg (x y:Int):sg (decide (x<0) !=decide (y<0)) ((x.natAbs:Int)*(y.natAbs:Int))=x*y:=by
 rcases Int.lt_or_le x 0 with h1|h1<;>rcases Int.lt_or_le y 0 with h2|h2
 ·rw [show(x.natAbs:Int)= -x by omega,show(y.natAbs:Int)= -y by omega,dT h1,dT h2];show -x* -y=x*y
  grind
 ·rw [show(x.natAbs:Int)= -x by omega,show(y.natAbs:Int)=y by omega,dT h1,dF (show ¬y<0 by omega)];show -(-x*y)=x*y
  grind
 ·rw [show(x.natAbs:Int)=x by omega,show(y.natAbs:Int)= -y by omega,dF (show ¬x<0 by omega),dT h2];show -(x* -y)=x*y
  grind
 ·rw [show(x.natAbs:Int)=x by omega,show(y.natAbs:Int)=y by omega,dF (show ¬x<0 by omega),dF (show ¬y<0 by omega)];rfl
theorem Mul_any (nx ny:Bool)(px py:Option Addr)(lx cx ly cy:Nat)(x y:Int)(w:World)(hx0:IntAt w nx px lx cx x)(hy0:IntAt w ny py ly cy y)(hlx:lx<=549755813887)(hly:ly<=549755813887):
 Calls Tryz.prog 73 #[.agg #[.bool nx,.slice px lx cx],.agg #[.bool ny,.slice py ly cy]] w (RetI w (x*y)):=by
 have hx:=hIq hx0;have hy:=hIq hy0
 have hpr:Hid (∀W,Ar2 w nx px lx cx ny py ly cy W->Calls Tryz.prog 113 #[.slice px lx cx,.slice py ly cy] W (NewI W (MulP (digs x.natAbs) (digs y.natAbs)))):=
  hIq fun W h=>product_any _ _ _ _ _ _ _ _ W (Rdi_below h.2.2.2 hx0.2.2.1) (Rdi_below h.2.2.2 hy0.2.2.1) hx0.2.1 hy0.2.1 (Dg_digs _) (Dg_digs _) (by omega) (by omega)
 have hf:=fun W (h:Ar2 w nx px lx cx ny py ly cy W)=>h.facts
 have hS0:=hIq (@Ar2.start nx px lx cx ny py ly cy w);have hsg:Hid (sg (nx !=ny) (val (digs x.natAbs)*val (digs y.natAbs))=x*y):=hIq (by rw [val_digs,val_digs,hx0.1,hy0.1];exact mul_sg x y);have hle:Hid ((digs x.natAbs).length=lx/\(digs y.natAbs).length=ly):=hIq ⟨hx0.2.1.symm,hy0.2.1.symm⟩;clear hx0 hy0
 go_enter Tryz.func73,Tryz.ntmps73
 go_wp2_with fail
 generalize((w.alloc (.cells #[.bool nx,.slice px lx cx] 28)).alloc (.cells #[.bool ny,.slice py ly cy] 28)).alloc (.cells #[.bool false,.slice none 0 0] 28)=W0 at hS0 ⊢;have hS1:=hS0.out;clear hS0
 go_region_held3 (fun W=>Ar2 w nx px lx cx ny py ly cy W) (first|exact Ar2.drew (by assumption)|exact Ar2.later (by assumption) (by assumption)|exact Ar2.store (by assumption) _ _) (first|(go_at_call 113;refine(hpr.out _ (by assumption)).mono ?_;rintro e w1 ⟨g,n,z,rfl,hg,hz0,hb1,hn0,hP0⟩;have hz:=hIq hz0;have hn:=hIq hn0;have hP:=hIq hP0;have hnl:n<=1099511627774:=(by have:=hP0.2.2;have:=hle.out;omega);clear hz0 hn0 hP0)|(go_at_call 105;refine(made_any _ _ _ _ z _ hz.out.rdi hn.out.symm (Nat.le_refl _) (by omega) hP.out.1).mono ?_;rintro e w2 ⟨nb,p,n2,c2,rfl,hI0,hb2,hp0⟩;have hI:=hIq hI0;have hp:=hIq hp0;clear hI0 hp0))
 have hS2:=(hS1.drew.later hb1).later hb2;have hgt:w.heap.size+1+1<g:=Nat.lt_of_lt_of_le hS1.drew.top hg;have hfin:=hIq (hS2.ret hI.out (new_top hp.out hgt) (by rw [hP.out.2.1,<-hsg.out];cases nx<;>cases ny<;>rfl:sg (!nx==ny) (val z)=x*y));go_wp2_with fail
 exact bodyPost_ret (v:= .agg #[.bool nb,.slice p n2 c2]) (results_cell_row rfl _ _ (w.heap.size+1+1) 28 _ (0,0) _ rfl (hS2.res _ _) Tryz.underlying28 rfl size_Int) rfl hfin.out
theorem wk_neg {nx:Bool}{x:Int}(hx:x≠0->nx=decide (x<0)):if nx then x<=0 else 0<=x:=by
 by_cases h:x=0
 ·subst h;cases nx<;>simp
 ·rw [hx h];by_cases h2:x<0
  ·simp [h2];omega
  ·simp [h2];omega
theorem same_neg {nx ny:Bool}{x y:Int}(hx:x≠0->nx=decide (x<0))(hy:y≠0->ny=decide (y<0))(h:nx=ny):sg nx ((x.natAbs:Int)+(y.natAbs:Int))=x+y:=by
 have h1:=wk_neg hx;have h2:=wk_neg hy;subst h;cases nx<;>simp [sg] at*<;>omega
theorem diff_neg {nx ny:Bool}{x y:Int}(hx:x≠0->nx=decide (x<0))(hy:y≠0->ny=decide (y<0))(h:nx≠ny):sg nx ((x.natAbs:Int) - (y.natAbs:Int))=x+y:=by
 have h1:=wk_neg hx;have h2:=wk_neg hy;obtain rfl:ny= !nx:=by cases nx<;>cases ny<;>first|rfl|exact absurd rfl h
 cases nx<;>simp [sg] at*<;>omega
theorem Add_same (nx:Bool)(px py:Option Addr)(lx cx ly cy:Nat)(x y:Int)(w:World)(hx0:IntZ w nx px lx cx x)(hy0:IntZ w nx py ly cy y)(hlx:lx<=549755813887)(hly:ly<=549755813887):
 Calls Tryz.prog 135 #[.agg #[.bool nx,.slice px lx cx],.agg #[.bool nx,.slice py ly cy]] w (RetI w (x+y)):=by
 have hx:=hIq hx0;have hy:=hIq hy0
 have hca:Hid (∀W,Ar2 w nx px lx cx nx py ly cy W->Calls Tryz.prog 146 #[.slice px lx cx,.slice py ly cy] W (NewI W (SumP (digs x.natAbs) (digs y.natAbs)))):=
  hIq fun W h=>sum_any _ _ _ _ _ _ _ _ W (Rdi_below h.2.2.2 hx0.2.2.1) (Rdi_below h.2.2.2 hy0.2.2.1) hx0.2.1 hy0.2.1 (Dg_digs _) (Dg_digs _) (by omega) (by omega)
 have hf:=fun W (h:Ar2 w nx px lx cx nx py ly cy W)=>h.facts
 have hS0:=hIq (@Ar2.start nx px lx cx nx py ly cy w);have hsg:Hid (sg nx (val (digs x.natAbs)+val (digs y.natAbs))=x+y):=hIq (by rw [val_digs,val_digs];exact same_neg hx0.1 hy0.1 rfl);have hle:Hid ((digs x.natAbs).length=lx/\(digs y.natAbs).length=ly):=hIq ⟨hx0.2.1.symm,hy0.2.1.symm⟩;have hnn:(nx== !nx)=false:=by cases nx<;>rfl
 clear hx0 hy0
 go_enter Tryz.func135,Tryz.ntmps135
 go_wp2_with fail
 generalize((w.alloc (.cells #[.bool nx,.slice px lx cx] 28)).alloc (.cells #[.bool nx,.slice py ly cy] 28)).alloc (.cells #[.bool false,.slice none 0 0] 28)=W0 at hS0 ⊢;have hS1:=hS0.out;clear hS0
 go_region_held3 (fun W=>Ar2 w nx px lx cx nx py ly cy W) (first|exact Ar2.drew (by assumption)|exact Ar2.later (by assumption) (by assumption)|exact Ar2.store (by assumption) _ _) (first|(go_at_call 146;refine(hca.out _ (by assumption)).mono ?_;rintro e w1 ⟨g,n,z,rfl,hg,hz0,hb1,hn0,hP0⟩;have hz:=hIq hz0;have hn:=hIq hn0;have hP:=hIq hP0;have hnl:n<=1099511627774:=(by have:=hP0.2.2;have:=hle.out;omega);clear hz0 hn0 hP0)|(go_at_call 105;refine(made_any _ _ _ _ z _ hz.out.rdi hn.out.symm (Nat.le_refl _) (by omega) hP.out.1).mono ?_;rintro e w2 ⟨nb,p,n2,c2,rfl,hI0,hb2,hp0⟩;have hI:=hIq hI0;have hp:=hIq hp0;clear hI0 hp0))
 have hS2:=(hS1.drew.later hb1).later hb2;have hgt:w.heap.size+1+1<g:=Nat.lt_of_lt_of_le hS1.drew.top hg;have hfin:=hIq (hS2.ret hI.out (new_top hp.out hgt) (by rw [hP.out.2.1,<-hsg.out]:sg nx (val z)=x+y));go_wp2_with fail
 exact bodyPost_ret (v:= .agg #[.bool nb,.slice p n2 c2]) (results_cell_row rfl _ _ (w.heap.size+1+1) 28 _ (0,0) _ rfl (hS2.res _ _) Tryz.underlying28 rfl size_Int) rfl hfin.out
theorem Add_lt (nx:Bool)(px py:Option Addr)(lx cx ly cy:Nat)(x y:Int)(w:World)(hx0:IntZ w nx px lx cx x)(hy0:IntZ w (!nx) py ly cy y)(hlx:lx<=549755813887)(hly:ly<=549755813887)(hlt:x.natAbs<y.natAbs):
 Calls Tryz.prog 135 #[.agg #[.bool nx,.slice px lx cx],.agg #[.bool (!nx),.slice py ly cy]] w (RetI w (x+y)):=by
 have hx:=hIq hx0;have hy:=hIq hy0
 have hca:Hid (∀W,Ar2 w nx px lx cx (!nx) py ly cy W->Calls Tryz.prog 147 #[.slice py ly cy,.slice px lx cx] W (NewI W (DifP (digs y.natAbs) (digs x.natAbs)))):=
  hIq fun W h=>difference_any _ _ _ _ _ _ _ _ W (Rdi_below h.2.2.2 hy0.2.2.1) (Rdi_below h.2.2.2 hx0.2.2.1) hy0.2.1 hx0.2.1 (Dg_digs _) (Dg_digs _) (by omega) (by rw [hx0.2.1,hy0.2.1];exact digs_len_mono (by omega)) (by rw [val_digs,val_digs];omega)
 have hcm:Hid (∀W,Below w.heap.size w W->Calls Tryz.prog 112 #[.slice px lx cx,.slice py ly cy] W fun e w'=>e= .returned (.int .i64 (-1))/\Below W.heap.size W w'):=
  hIq fun W h=>by rw [show(-1:Int)=cmpI x.natAbs y.natAbs from(cmp_lt (by omega)).symm];exact compare_any _ _ _ _ _ _ _ _ W (Rdi_below h hx0.2.2.1) (Rdi_below h hy0.2.2.1) hx0.2.1 hy0.2.1 (by omega) (by omega)
 have hf:=fun W (h:Ar2 w nx px lx cx (!nx) py ly cy W)=>h.facts
 have hS0:=hIq (@Ar2.start nx px lx cx (!nx) py ly cy w);have hsg:Hid (sg (!nx) (val (digs y.natAbs) - val (digs x.natAbs))=x+y):=hIq (by rw [val_digs,val_digs,Int.add_comm];exact diff_neg hy0.1 hx0.1 (by cases nx<;>decide));have hle:Hid ((digs x.natAbs).length=lx/\(digs y.natAbs).length=ly):=hIq ⟨hx0.2.1.symm,hy0.2.1.symm⟩;have hnn:(nx== !nx)=false:=by cases nx<;>rfl
 clear hx0 hy0
 go_enter Tryz.func135,Tryz.ntmps135
 go_wp2_with fail
 generalize((w.alloc (.cells #[.bool nx,.slice px lx cx] 28)).alloc (.cells #[.bool (!nx),.slice py ly cy] 28)).alloc (.cells #[.bool false,.slice none 0 0] 28)=W9 at hS0 ⊢;have hS9:=hS0.out;clear hS0;have hf9:=hf _ hS9;go_wp2_with (go_at_call 112;refine(hcm.out _ hS9.2.2.2).mono ?_;rintro e W0 ⟨rfl,hb9⟩;have hS1:=hS9.later hb9;clear hb9 hf9)
 go_region_held3 (fun W=>Ar2 w nx px lx cx (!nx) py ly cy W) (first|exact Ar2.drew (by assumption)|exact Ar2.later (by assumption) (by assumption)|exact Ar2.store (by assumption) _ _) (first|(go_at_call 147;refine(hca.out _ (by assumption)).mono ?_;rintro e w1 ⟨g,n,z,rfl,hg,hz0,hb1,hn0,hP0⟩;have hz:=hIq hz0;have hn:=hIq hn0;have hP:=hIq hP0;have hnl:n<=1099511627774:=(by have:=hP0.2.2;have:=hle.out;omega);clear hz0 hn0 hP0)|(go_at_call 105;refine(made_any _ _ _ _ z _ hz.out.rdi hn.out.symm (Nat.le_refl _) (by omega) hP.out.1).mono ?_;rintro e w2 ⟨nb,p,n2,c2,rfl,hI0,hb2,hp0⟩;have hI:=hIq hI0;have hp:=hIq hp0;clear hI0 hp0))
 have hS2:=(hS1.drew.later hb1).later hb2;have hgt:w.heap.size+1+1<g:=Nat.lt_of_lt_of_le hS1.drew.top hg;have hfin:=hIq (hS2.ret hI.out (new_top hp.out hgt) (by rw [hP.out.2.1,<-hsg.out]:sg (!nx) (val z)=x+y));go_wp2_with fail
 exact bodyPost_ret (v:= .agg #[.bool nb,.slice p n2 c2]) (results_cell_row rfl _ _ (w.heap.size+1+1) 28 _ (0,0) _ rfl (hS2.res _ _) Tryz.underlying28 rfl size_Int) rfl hfin.out
theorem Add_ge (nx:Bool)(px py:Option Addr)(lx cx ly cy:Nat)(x y:Int)(w:World)(hx0:IntZ w nx px lx cx x)(hy0:IntZ w (!nx) py ly cy y)(hlx:lx<=549755813887)(hly:ly<=549755813887)(hge:y.natAbs<=x.natAbs)(r:Int)(hr:0<=r)(hr1:r<=1)(hrr:Hid (r=cmpI x.natAbs y.natAbs)):
 Calls Tryz.prog 135 #[.agg #[.bool nx,.slice px lx cx],.agg #[.bool (!nx),.slice py ly cy]] w (RetI w (x+y)):=by
 have hx:=hIq hx0;have hy:=hIq hy0
 have hca:Hid (∀W,Ar2 w nx px lx cx (!nx) py ly cy W->Calls Tryz.prog 147 #[.slice px lx cx,.slice py ly cy] W (NewI W (DifP (digs x.natAbs) (digs y.natAbs)))):=
  hIq fun W h=>difference_any _ _ _ _ _ _ _ _ W (Rdi_below h.2.2.2 hx0.2.2.1) (Rdi_below h.2.2.2 hy0.2.2.1) hx0.2.1 hy0.2.1 (Dg_digs _) (Dg_digs _) (by omega) (by rw [hx0.2.1,hy0.2.1];exact digs_len_mono (by omega)) (by rw [val_digs,val_digs];omega)
 have hcm:Hid (∀W,Below w.heap.size w W->Calls Tryz.prog 112 #[.slice px lx cx,.slice py ly cy] W fun e w'=>e= .returned (.int .i64 (r))/\Below W.heap.size W w'):=
  hIq fun W h=>by rw [show(r:Int)=cmpI x.natAbs y.natAbs from hrr.out];exact compare_any _ _ _ _ _ _ _ _ W (Rdi_below h hx0.2.2.1) (Rdi_below h hy0.2.2.1) hx0.2.1 hy0.2.1 (by omega) (by omega)
 have hf:=fun W (h:Ar2 w nx px lx cx (!nx) py ly cy W)=>h.facts
 have hS0:=hIq (@Ar2.start nx px lx cx (!nx) py ly cy w);have hsg:Hid (sg nx (val (digs x.natAbs) - val (digs y.natAbs))=x+y):=hIq (by rw [val_digs,val_digs];exact diff_neg hx0.1 hy0.1 (by cases nx<;>decide));have hle:Hid ((digs x.natAbs).length=lx/\(digs y.natAbs).length=ly):=hIq ⟨hx0.2.1.symm,hy0.2.1.symm⟩;have hnn:(nx== !nx)=false:=by cases nx<;>rfl
 clear hx0 hy0
 go_enter Tryz.func135,Tryz.ntmps135
 go_wp2_with fail
 generalize((w.alloc (.cells #[.bool nx,.slice px lx cx] 28)).alloc (.cells #[.bool (!nx),.slice py ly cy] 28)).alloc (.cells #[.bool false,.slice none 0 0] 28)=W9 at hS0 ⊢;have hS9:=hS0.out;clear hS0;have hf9:=hf _ hS9;go_wp2_with (go_at_call 112;refine(hcm.out _ hS9.2.2.2).mono ?_;rintro e W0 ⟨rfl,hb9⟩;have hS1:=hS9.later hb9;clear hb9 hf9)
 go_region_held3 (fun W=>Ar2 w nx px lx cx (!nx) py ly cy W) (first|exact Ar2.drew (by assumption)|exact Ar2.later (by assumption) (by assumption)|exact Ar2.store (by assumption) _ _) (first|(go_at_call 147;refine(hca.out _ (by assumption)).mono ?_;rintro e w1 ⟨g,n,z,rfl,hg,hz0,hb1,hn0,hP0⟩;have hz:=hIq hz0;have hn:=hIq hn0;have hP:=hIq hP0;have hnl:n<=1099511627774:=(by have:=hP0.2.2;have:=hle.out;omega);clear hz0 hn0 hP0)|(go_at_call 105;refine(made_any _ _ _ _ z _ hz.out.rdi hn.out.symm (Nat.le_refl _) (by omega) hP.out.1).mono ?_;rintro e w2 ⟨nb,p,n2,c2,rfl,hI0,hb2,hp0⟩;have hI:=hIq hI0;have hp:=hIq hp0;clear hI0 hp0))
 have hS2:=(hS1.drew.later hb1).later hb2;have hgt:w.heap.size+1+1<g:=Nat.lt_of_lt_of_le hS1.drew.top hg;have hfin:=hIq (hS2.ret hI.out (new_top hp.out hgt) (by rw [hP.out.2.1,<-hsg.out]:sg nx (val z)=x+y));go_wp2_with fail
 exact bodyPost_ret (v:= .agg #[.bool nb,.slice p n2 c2]) (results_cell_row rfl _ _ (w.heap.size+1+1) 28 _ (0,0) _ rfl (hS2.res _ _) Tryz.underlying28 rfl size_Int) rfl hfin.out
theorem Add_any (nx ny:Bool)(px py:Option Addr)(lx cx ly cy:Nat)(x y:Int)(w:World)(hx0:IntZ w nx px lx cx x)(hy0:IntZ w ny py ly cy y)(hlx:lx<=549755813887)(hly:ly<=549755813887):
 Calls Tryz.prog 135 #[.agg #[.bool nx,.slice px lx cx],.agg #[.bool ny,.slice py ly cy]] w (RetI w (x+y)):=by
 by_cases h:nx=ny
 ·subst h;exact Add_same nx px py lx cx ly cy x y w hx0 hy0 hlx hly
 ·obtain rfl:ny= !nx:=by cases nx<;>cases ny<;>first|rfl|exact absurd rfl h
  by_cases hlt:x.natAbs<y.natAbs
  ·exact Add_lt nx px py lx cx ly cy x y w hx0 hy0 hlx hly hlt
  ·refine Add_ge nx px py lx cx ly cy x y w hx0 hy0 hlx hly (by omega) (cmpI x.natAbs y.natAbs) ?_ ?_ (hIq rfl)
   ·unfold cmpI;rw [if_neg (by omega)];split<;>omega
   ·unfold cmpI;rw [if_neg (by omega)];split<;>omega
def Ar1 (w:World)(nx:Bool)(px:Option Addr)(lx cx:Nat)(W:World):Prop:=
 W.heap[w.heap.size]? =some (.cells #[.bool nx,.slice px lx cx] 28 (0,0))/\(∃u v,W.heap[w.heap.size+1]? =some (.cells #[u,v] 28 (0,0)))/\Below w.heap.size w W
section
variable {w W w':World}{nx:Bool}{px:Option Addr}{lx cx:Nat}
theorem Ar1.facts (h:Ar1 w nx px lx cx W):W.cell? ⟨w.heap.size,0,none⟩=some (.bool nx)/\W.cell? ⟨w.heap.size,1,none⟩=some (.slice px lx cx)/\
 W.cell? ⟨w.heap.size+1,0,none⟩=some (oldv W (w.heap.size+1) 0)/\W.cell? ⟨w.heap.size+1,1,none⟩=some (oldv W (w.heap.size+1) 1)/\W.frozen? ⟨w.heap.size+1,0,none⟩=false/\W.frozen? ⟨w.heap.size+1,1,none⟩=false:=by
 obtain⟨h1,⟨u,v,h3⟩,_⟩:=h;refine⟨by simp [World.cell?,h1],by simp [World.cell?,h1],by simp [oldv,World.cell?,h3],by simp [oldv,World.cell?,h3],by simp [World.frozen?,h3],by simp [World.frozen?,h3]⟩
theorem Ar1.later (h:Ar1 w nx px lx cx W)(hb:Below W.heap.size W w'):Ar1 w nx px lx cx w':=by
 obtain⟨h1,⟨u,v,h3⟩,h6⟩:=h;exact⟨(hb.block _ (lt_blk h1)).trans h1,⟨u,v,(hb.block _ (lt_blk h3)).trans h3⟩,below_tr h6 hb⟩
theorem Ar1.drew (h:Ar1 w nx px lx cx W):Ar1 w nx px lx cx W.drew:=h.later ((Below.refl _ W).drew)
theorem Ar1.start (w:World):Ar1 w nx px lx cx ((w.alloc (.cells #[.bool nx,.slice px lx cx] 28)).alloc (.cells #[.bool false,.slice none 0 0] 28)):=by
 have hb:Below w.heap.size w ((w.alloc (.cells #[.bool nx,.slice px lx cx] 28)).alloc (.cells #[.bool false,.slice none 0 0] 28)):=((Below.refl _ _).alloc (Nat.le_refl _) _).alloc (by simp) _;refine⟨?_,⟨_,_,heap_alloc2_new _ _ _⟩,hb⟩;rw [Below.heap_alloc _ _ _ (by simp)];exact heap_alloc_new _ _
theorem Ar1.res (h:Ar1 w nx px lx cx W)(p q:Value):((W.setCell ⟨w.heap.size+1,0,none⟩ p).setCell ⟨w.heap.size+1,1,none⟩ q).heap[w.heap.size+1]? =some (.cells #[p,q] 28 (0,0)):=by
 obtain⟨h1,⟨u,v,h3⟩,h6⟩:=h;rw [heap_setCell_self _ _ _ _ _ _ (heap_setCell_self _ _ _ _ _ _ h3)];rfl
theorem Ar1.store (h:Ar1 w nx px lx cx W)(p q:Value):Ar1 w nx px lx cx ((W.setCell ⟨w.heap.size+1,0,none⟩ p).setCell ⟨w.heap.size+1,1,none⟩ q):=by
 refine⟨?_,⟨p,q,h.res p q⟩,(h.2.2.setCell (by simp) _).setCell (by simp) _⟩;rw [heap_setCell_other _ _ _ _ (by simp),heap_setCell_other _ _ _ _ (by simp)];exact h.1
theorem Ar1.top (h:Ar1 w nx px lx cx W):w.heap.size+1<W.heap.size:=by
 obtain⟨u,v,h3⟩:=h.2.1;exact lt_blk h3
theorem Ar1.ret {nb:Bool}{p:Option Addr}{n c:Nat}{z z':Int}(h:Ar1 w nx px lx cx W)(hI:IntAt W nb p n c z)(hp:∀q,p=some q->w.heap.size+1<q.block)(hz:z=z'):
 RetI w z' (.returned (.agg #[.bool nb,.slice p n c])) ((W.setCell ⟨w.heap.size+1,0,none⟩ (.bool nb)).setCell ⟨w.heap.size+1,1,none⟩ (.slice p n c)):=by
 subst hz;have hne:∀q,p=some q->q.block≠w.heap.size+1:=fun q hq=>by have:=hp q hq;omega
 exact⟨_,_,_,_,rfl,(hI.store hne).store hne,(h.store _ _).2.2,fun q hq=>by have:=hp q hq;omega⟩
end
theorem Neg_any (nx:Bool)(px:Option Addr)(lx cx:Nat)(x:Int)(w:World)(hx0:IntZ w nx px lx cx x)(hlx:lx<=549755813887):
 Calls Tryz.prog 60 #[.agg #[.bool nx,.slice px lx cx]] w (RetI w (-x)):=by
 have hca:Hid (∀W,Ar1 w nx px lx cx W->Calls Tryz.prog 106 #[.slice px lx cx,.int .i64 (lx:Int)] W (NewN W lx fun z=>z=cpy (digs x.natAbs) lx)):=
  hIq fun W h=>copied_at _ _ _ _ _ lx W rfl (Rdi_below h.2.2 hx0.2.2.1) hx0.2.1 (by omega)
 have hf:=fun W (h:Ar1 w nx px lx cx W)=>h.facts
 have hS0:=hIq (@Ar1.start nx px lx cx w)
 have hsg:Hid (Dg (cpy (digs x.natAbs) lx)/\sg (!nx) (val (cpy (digs x.natAbs) lx))= -x):=hIq (by
  rw [hx0.2.1,cpy_self,val_digs];refine⟨Dg_digs _,?_⟩;have h1:=wk_neg hx0.1
  cases nx<;>simp [sg] at*<;>omega)
 obtain⟨Z,hZ⟩:∃Z,cpy (digs x.natAbs) lx=Z:=⟨_,rfl⟩;rw [hZ] at hca hsg;clear hx0 hZ
 go_enter Tryz.func60,Tryz.ntmps60
 go_wp2_with fail
 generalize(w.alloc (.cells #[.bool nx,.slice px lx cx] 28)).alloc (.cells #[.bool false,.slice none 0 0] 28)=W0 at hS0 ⊢;have hS1:=hS0.out;clear hS0
 go_region_held3 (fun W=>Ar1 w nx px lx cx W) (first|exact Ar1.drew (by assumption)|exact Ar1.later (by assumption) (by assumption)|exact Ar1.store (by assumption) _ _) (first|(go_at_call 106;refine(hca.out _ (by assumption)).mono ?_;rintro e w1 ⟨g,z,rfl,hg,hz0,hb1,hn0,rfl⟩;have hz:=hIq hz0;have hn:=hIq hn0;clear hz0 hn0)|(go_at_call 105;refine(made_any _ _ _ _ z _ hz.out.rdi hn.out.symm (Nat.le_refl _) (by omega) hsg.out.1).mono ?_;rintro e w2 ⟨nb,p,n2,c2,rfl,hI0,hb2,hp0⟩;have hI:=hIq hI0;have hp:=hIq hp0;clear hI0 hp0))
 have hS2:=(hS1.drew.later hb1).later hb2;have hgt:w.heap.size+1<g:=Nat.lt_of_lt_of_le hS1.drew.top hg;have hfin:=hIq (hS2.ret hI.out (new_top hp.out hgt) hsg.out.2);go_wp2_with fail
 exact bodyPost_ret (v:= .agg #[.bool nb,.slice p n2 c2]) (results_cell_row rfl _ _ (w.heap.size+1) 28 _ (0,0) _ rfl (hS2.res _ _) Tryz.underlying28 rfl size_Int) rfl hfin.out
end Go.Proofs.YteacdbgalloaiaaGreat
