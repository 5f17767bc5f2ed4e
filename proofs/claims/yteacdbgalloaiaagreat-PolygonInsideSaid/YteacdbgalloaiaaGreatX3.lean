/- Contracts of the packages integer, rat, plane, polygon and their references. -/
import Derived.Test.YteacdbgalloaiaaGreatX1
import Derived.Deep.RegionHeld3
import Derived.Shelf.Small.Wraps
import Derived.Shelf.Strconv.Itoa3
import Derived.Shelf.Strconv.AppendIntPublic10
import Derived.Shelf.LaysM
import Derived.Shelf.LaysC
import Derived.Test.YteacdbgalloaiaaGreatProg
import Derived.Test.YteacdbgalloaiaaGreatX2
import Derived.Deep.LoopGhost
import Derived.Laws.BitsAllLaws
import Derived.WalkMore
import Derived.Laws.BytesArg
import Derived.Lib.AppendStr
set_option linter.unusedVariables false
set_option maxRecDepth 100000
set_option maxHeartbeats 6400000
namespace Go.Proofs.YteacdbgalloaiaaGreat
open Go.RowKit
def SumL (w:World)(g:Nat)(l m:List Int)(k:Nat)(wr:World):Prop:=∃z,SumA l m k z/\Blk wr g z/\Below w.heap.size w wr
def SumM (w:World)(g n:Nat)(s:Int)(k:Nat)(wr:World):Prop:=∃z,SumB n s k z/\Blk wr g z/\Below w.heap.size w wr
def SumP (l m:List Int)(z:List Int):Prop:=Dg z/\val z=val l+val m/\z.length<=max l.length m.length+1
theorem sum_any (a1 a2:Option Addr)(n1 c1 n2 c2:Nat)(l m:List Int)(w:World)(hR1:Rdi w a1 l)(hR2:Rdi w a2 m)(hn1:n1=l.length)(hn2:n2=m.length)(hd1:Dg l)(hd2:Dg m)(hm1:n1<=1099511627775)(hm2:n2<=1099511627775):
 Calls Tryz.prog 146 #[.slice a1 n1 c1,.slice a2 n2 c2] w (NewI w (SumP l m)):=by
 have H1:=hIq hR1;have H2:=hIq hR2;have N1:=hIq hn1;have N2:=hIq hn2;have D1:=hIq hd1;have D2:=hIq hd2;clear hR1 hR2 hn1 hn2 hd1 hd2;by_cases hlt0:n1<n2
 ·have t0:(n1:Int)<(n2:Int):=by omega
  have hmax:=hlt0;clear hlt0
  go_enter Tryz.func146,Tryz.ntmps146
  go_wp2_with (go_at_call 106;refine(copied_at _ _ _ m _ (n2+1) _ (by omega) H2.out N2.out (by omega)).mono ?_;rintro e w1 ⟨g,z0,rfl,hg,hz0,hb0,hl0,rfl⟩;have hI:Hid (SumL w g m l 0 w1):=hIq ⟨_,by rw [N2.out];exact SumA.start m l,hz0,hb0⟩;clear hz0 hb0 hl0)
  go_loopw [23] (fun i wr=>∃k:Nat,k<=n1/\i= .int .i64 (k:Int)/\SumL w g m l k wr) (fun i _=>n1 - (intOf i).toNat)
  case atStart=>exact⟨0,Nat.zero_le _,rfl,hI.out⟩
  case round=>
   obtain⟨k,hk,rfl,hL⟩:=hrel;clear hI;by_cases hlt:k<n1
   ·obtain⟨z,hA,hz,hB⟩:=hL;obtain⟨b,o,hoY,hcy⟩:=Rdi_at H1.out k (by rw [<-N1.out];exact hlt);subst hoY;have cy:=Below.cell_of' hB hcy;have hkz:k<z.length:=by rw [hA.len,<-N2.out];omega
    have cx:=hz.cell hkz;have cf:=hz.free k;have hst:Hid (SumL w g m l (k+1) (wr.setCell ⟨g,k,none⟩ (.int .i64 (iat z k+iat l k)))):=hIq ⟨_,hA.next (by rw [<-N1.out];exact hlt) (by rw [<-N1.out,<-N2.out];omega),hz.set _ _,hB.setCell hg _⟩;have hx:=hA.at_ k;rw [if_neg (by omega)] at hx;have hx1:=D2.out.all k;have hy1:=D1.out.all k;obtain⟨x,hxx⟩:∃x,iat z k=x:=⟨_,rfl⟩;obtain⟨y,hyy⟩:∃y,iat l k=y:=⟨_,rfl⟩;rw [hxx] at cx hst hx;rw [hyy] at cy hst hy1;have hx2:0<=x/\x<1000000000:=by omega
    obtain⟨hx3,hx4⟩:=hx2;obtain⟨hy3,hy4⟩:=hy1;have k0:0<=(k:Int):=by omega
    have k1:(k:Int)<(n1:Int):=by omega
    have k2:(k:Int)<(n2:Int)+1:=by omega
    clear hA hz hB hcy hx hx1 hxx hyy hkz;go_wp2_with fail
    exact⟨⟨k+1,by omega,by simp,hst.out⟩,by simp [intOf];omega⟩
   ·have hk':k=n1:=by omega
    have hM:Hid (SumM w g n2 (val m+val l) 0 wr):=hIq (by
     obtain⟨z,hA,hz,hB⟩:=hL;rw [hk',N1.out] at hA;have:=hA.done D2.out D1.out (by rw [<-N2.out,<-N1.out];omega);rw [<-N2.out] at this
     exact⟨z,this,hz,hB⟩)
    have k1:¬(k:Int)<(n1:Int):=by omega
    clear hL;go_wp2_with fail
    go_loopw [38] (fun i wr=>∃k:Nat,k<=n2/\i= .int .i64 (k:Int)/\SumM w g n2 (val m+val l) k wr) (fun i _=>n2 - (intOf i).toNat)
    case atStart=>exact⟨0,Nat.zero_le _,rfl,hM.out⟩
    case round=>
     obtain⟨k,hk,rfl,hL⟩:=hrel;clear hM;by_cases hlt:k<n2
     ·obtain⟨z,hA,hz,hB⟩:=hL;have hkz:k<z.length:=by rw [hA.len];omega
      have hkz1:k+1<z.length:=by rw [hA.len];omega
      have cx:=hz.cell hkz;have cf:=hz.free k;have hx2:=hA.top k;have hy2:=hA.top (k+1);have k0:0<=(k:Int):=by omega
      have k1:(k:Int)<(n2:Int):=by omega
      have k2:(k:Int)<(n2:Int)+1:=by omega
      by_cases hge:1000000000<=iat z k
      ·have h1:=hz.set k (iat z k - 1000000000);have hkz2:k+1<(z.set k (iat z k - 1000000000)).length:=by rw [List.length_set];exact hkz1
       have cy:=h1.cell hkz2;have cg:=h1.free (k+1);have ey:iat (z.set k (iat z k - 1000000000)) (k+1)=iat z (k+1):=by rw [iat_set _ _ _ _ hkz,if_neg (by omega)]
       rw [ey] at cy;have hst:Hid (SumM w g n2 (val m+val l) (k+1) ((wr.setCell ⟨g,k,none⟩ (.int .i64 (iat z k - 1000000000))).setCell ⟨g,k+1,none⟩ (.int .i64 (iat z (k+1)+1)))):=hIq ⟨_,hA.carry hlt hge,h1.set _ _,(hB.setCell hg _).setCell hg _⟩;generalize iat z k=x at*
       generalize iat z (k+1)=y at*
       obtain⟨hx3,hx4⟩:=hx2;obtain⟨hy3,hy4⟩:=hy2;clear hA hz hB h1 hkz hkz1 hkz2 ey;go_wp2_with fail
       exact⟨⟨k+1,by omega,by simp,hst.out⟩,by simp [intOf];omega⟩
      ·have hst:Hid (SumM w g n2 (val m+val l) (k+1) wr):=hIq ⟨z,hA.keep (by omega),hz,hB⟩;generalize iat z k=x at*
       clear hA hz hB hkz hkz1 hy2;go_wp2_with fail
       exact⟨⟨k+1,by omega,by simp,hst.out⟩,by simp [intOf];omega⟩
     ·have hk':k=n2:=by omega
      subst hk';obtain⟨z,hA,hz,hB⟩:=hL;have hz':=hIq hz;have hB':=hIq hB;have hA':=hIq hA;clear hz hB hA;go_wp2_with fail
      go_ret
      exact⟨g,_,z,rfl,hg,hz'.out,hB'.out,hA'.out.len,hA'.out.done,by rw [hA'.out.sum];omega,by rw [hA'.out.len,N2.out];omega⟩
 ·have t0:¬(n1:Int)<(n2:Int):=by omega
  have hmax:=hlt0;clear hlt0
  go_enter Tryz.func146,Tryz.ntmps146
  go_wp2_with (go_at_call 106;refine(copied_at _ _ _ l _ (n1+1) _ (by omega) H1.out N1.out (by omega)).mono ?_;rintro e w1 ⟨g,z0,rfl,hg,hz0,hb0,hl0,rfl⟩;have hI:Hid (SumL w g l m 0 w1):=hIq ⟨_,by rw [N1.out];exact SumA.start l m,hz0,hb0⟩;clear hz0 hb0 hl0)
  go_loopw [23] (fun i wr=>∃k:Nat,k<=n2/\i= .int .i64 (k:Int)/\SumL w g l m k wr) (fun i _=>n2 - (intOf i).toNat)
  case atStart=>exact⟨0,Nat.zero_le _,rfl,hI.out⟩
  case round=>
   obtain⟨k,hk,rfl,hL⟩:=hrel;clear hI;by_cases hlt:k<n2
   ·obtain⟨z,hA,hz,hB⟩:=hL;obtain⟨b,o,hoY,hcy⟩:=Rdi_at H2.out k (by rw [<-N2.out];exact hlt);subst hoY;have cy:=Below.cell_of' hB hcy;have hkz:k<z.length:=by rw [hA.len,<-N1.out];omega
    have cx:=hz.cell hkz;have cf:=hz.free k;have hst:Hid (SumL w g l m (k+1) (wr.setCell ⟨g,k,none⟩ (.int .i64 (iat z k+iat m k)))):=hIq ⟨_,hA.next (by rw [<-N2.out];exact hlt) (by rw [<-N2.out,<-N1.out];omega),hz.set _ _,hB.setCell hg _⟩;have hx:=hA.at_ k;rw [if_neg (by omega)] at hx;have hx1:=D1.out.all k;have hy1:=D2.out.all k;obtain⟨x,hxx⟩:∃x,iat z k=x:=⟨_,rfl⟩;obtain⟨y,hyy⟩:∃y,iat m k=y:=⟨_,rfl⟩;rw [hxx] at cx hst hx;rw [hyy] at cy hst hy1;have hx2:0<=x/\x<1000000000:=by omega
    obtain⟨hx3,hx4⟩:=hx2;obtain⟨hy3,hy4⟩:=hy1;have k0:0<=(k:Int):=by omega
    have k1:(k:Int)<(n2:Int):=by omega
    have k2:(k:Int)<(n1:Int)+1:=by omega
    clear hA hz hB hcy hx hx1 hxx hyy hkz;go_wp2_with fail
    exact⟨⟨k+1,by omega,by simp,hst.out⟩,by simp [intOf];omega⟩
   ·have hk':k=n2:=by omega
    have hM:Hid (SumM w g n1 (val l+val m) 0 wr):=hIq (by
     obtain⟨z,hA,hz,hB⟩:=hL;rw [hk',N2.out] at hA;have:=hA.done D1.out D2.out (by rw [<-N1.out,<-N2.out];omega);rw [<-N1.out] at this
     exact⟨z,this,hz,hB⟩)
    have k1:¬(k:Int)<(n2:Int):=by omega
    clear hL;go_wp2_with fail
    go_loopw [38] (fun i wr=>∃k:Nat,k<=n1/\i= .int .i64 (k:Int)/\SumM w g n1 (val l+val m) k wr) (fun i _=>n1 - (intOf i).toNat)
    case atStart=>exact⟨0,Nat.zero_le _,rfl,hM.out⟩
    case round=>
     obtain⟨k,hk,rfl,hL⟩:=hrel;clear hM;by_cases hlt:k<n1
     ·obtain⟨z,hA,hz,hB⟩:=hL;have hkz:k<z.length:=by rw [hA.len];omega
      have hkz1:k+1<z.length:=by rw [hA.len];omega
      have cx:=hz.cell hkz;have cf:=hz.free k;have hx2:=hA.top k;have hy2:=hA.top (k+1);have k0:0<=(k:Int):=by omega
      have k1:(k:Int)<(n1:Int):=by omega
      have k2:(k:Int)<(n1:Int)+1:=by omega
      by_cases hge:1000000000<=iat z k
      ·have h1:=hz.set k (iat z k - 1000000000);have hkz2:k+1<(z.set k (iat z k - 1000000000)).length:=by rw [List.length_set];exact hkz1
       have cy:=h1.cell hkz2;have cg:=h1.free (k+1);have ey:iat (z.set k (iat z k - 1000000000)) (k+1)=iat z (k+1):=by rw [iat_set _ _ _ _ hkz,if_neg (by omega)]
       rw [ey] at cy;have hst:Hid (SumM w g n1 (val l+val m) (k+1) ((wr.setCell ⟨g,k,none⟩ (.int .i64 (iat z k - 1000000000))).setCell ⟨g,k+1,none⟩ (.int .i64 (iat z (k+1)+1)))):=hIq ⟨_,hA.carry hlt hge,h1.set _ _,(hB.setCell hg _).setCell hg _⟩;generalize iat z k=x at*
       generalize iat z (k+1)=y at*
       obtain⟨hx3,hx4⟩:=hx2;obtain⟨hy3,hy4⟩:=hy2;clear hA hz hB h1 hkz hkz1 hkz2 ey;go_wp2_with fail
       exact⟨⟨k+1,by omega,by simp,hst.out⟩,by simp [intOf];omega⟩
      ·have hst:Hid (SumM w g n1 (val l+val m) (k+1) wr):=hIq ⟨z,hA.keep (by omega),hz,hB⟩;generalize iat z k=x at*
       clear hA hz hB hkz hkz1 hy2;go_wp2_with fail
       exact⟨⟨k+1,by omega,by simp,hst.out⟩,by simp [intOf];omega⟩
     ·have hk':k=n1:=by omega
      subst hk';obtain⟨z,hA,hz,hB⟩:=hL;have hz':=hIq hz;have hB':=hIq hB;have hA':=hIq hA;clear hz hB hA;go_wp2_with fail
      go_ret
      exact⟨g,_,z,rfl,hg,hz'.out,hB'.out,hA'.out.len,hA'.out.done,by rw [hA'.out.sum],by rw [hA'.out.len,N1.out];omega⟩
def DifL (w:World)(g:Nat)(l m:List Int)(k:Nat)(wr:World):Prop:=∃z,DifA l m k z/\Blk wr g z/\Below w.heap.size w wr
def DifM (w:World)(g n:Nat)(s:Int)(k:Nat)(wr:World):Prop:=∃z,DifB n s k z/\Blk wr g z/\Below w.heap.size w wr
def DifP (l m:List Int)(z:List Int):Prop:=Dg z/\val z=val l - val m/\z.length=l.length
theorem difference_any (a1 a2:Option Addr)(n1 c1 n2 c2:Nat)(l m:List Int)(w:World)(hR1:Rdi w a1 l)(hR2:Rdi w a2 m)(hn1:n1=l.length)(hn2:n2=m.length)(hd1:Dg l)(hd2:Dg m)(hm1:n1<=1099511627775)(hle:n2<=n1)(x0:val m<=val l):
 Calls Tryz.prog 147 #[.slice a1 n1 c1,.slice a2 n2 c2] w (NewI w (DifP l m)):=by
 have H1:=hIq hR1;have H2:=hIq hR2;have N1:=hIq hn1;have N2:=hIq hn2;have D1:=hIq hd1;have D2:=hIq hd2;have hv:=hIq x0;clear hR1 hR2 hn1 hn2 hd1 hd2 x0
 go_enter Tryz.func147,Tryz.ntmps147
 go_wp2_with (go_at_call 106;refine(copied_at _ _ _ l _ n1 _ rfl H1.out N1.out (by omega)).mono ?_;rintro e w1 ⟨g,z0,rfl,hg,hz0,hb0,hl0,rfl⟩;have hI:Hid (DifL w g l m 0 w1):=hIq ⟨_,DifA.start l m,by rw [N1.out,cpy_self] at hz0;exact hz0,hb0⟩;clear hz0 hb0 hl0)
 go_loopw [15] (fun i wr=>∃k:Nat,k<=n2/\i= .int .i64 (k:Int)/\DifL w g l m k wr) (fun i _=>n2 - (intOf i).toNat)
 case atStart=>exact⟨0,Nat.zero_le _,rfl,hI.out⟩
 case round=>
  obtain⟨k,hk,rfl,hL⟩:=hrel;clear hI;by_cases hlt:k<n2
  ·obtain⟨z,hA,hz,hB⟩:=hL;obtain⟨b,o,hoY,hcy⟩:=Rdi_at H2.out k (by rw [<-N2.out];exact hlt);subst hoY;have cy:=Below.cell_of' hB hcy;have hkz:k<z.length:=by rw [hA.len,<-N1.out];omega
   have cx:=hz.cell hkz;have cf:=hz.free k;have hst:Hid (DifL w g l m (k+1) (wr.setCell ⟨g,k,none⟩ (.int .i64 (iat z k - iat m k)))):=hIq ⟨_,hA.next (by rw [<-N2.out];exact hlt) (by rw [<-N2.out,<-N1.out];omega),hz.set _ _,hB.setCell hg _⟩;have hx:=hA.at_ k;rw [if_neg (by omega)] at hx;have hx1:=D1.out.all k;have hy1:=D2.out.all k;obtain⟨x,hxx⟩:∃x,iat z k=x:=⟨_,rfl⟩;obtain⟨y,hyy⟩:∃y,iat m k=y:=⟨_,rfl⟩;rw [hxx] at cx hst hx;rw [hyy] at cy hst hy1;have hx2:0<=x/\x<1000000000:=by omega
   obtain⟨hx3,hx4⟩:=hx2;obtain⟨hy3,hy4⟩:=hy1;have k0:0<=(k:Int):=by omega
   have k1:(k:Int)<(n2:Int):=by omega
   have k2:(k:Int)<(n1:Int):=by omega
   clear hA hz hB hcy hx hx1 hxx hyy hkz;go_wp2_with fail
   exact⟨⟨k+1,by omega,by simp,hst.out⟩,by simp [intOf];omega⟩
  ·have hk':k=n2:=by omega
   have hM:Hid (DifM w g n1 (val l - val m) 0 wr):=hIq (by
    obtain⟨z,hA,hz,hB⟩:=hL;rw [hk',N2.out] at hA;have:=hA.done D1.out D2.out;rw [<-N1.out] at this
    exact⟨z,this,hz,hB⟩)
   have k1:¬(k:Int)<(n2:Int):=by omega
   clear hL;go_wp2_with fail
   go_loopw [30] (fun i wr=>∃k:Nat,k<=n1/\i= .int .i64 (k:Int)/\DifM w g n1 (val l - val m) k wr) (fun i _=>n1 - (intOf i).toNat)
   case atStart=>exact⟨0,Nat.zero_le _,rfl,hM.out⟩
   case round=>
    obtain⟨k,hk,rfl,hL⟩:=hrel;clear hM;by_cases hlt:k<n1
    ·obtain⟨z,hA,hz,hB⟩:=hL;have hkz:k<z.length:=by rw [hA.len];omega
     have cx:=hz.cell hkz;have cf:=hz.free k;have hx2:=hA.top k;have hy2:=hA.top (k+1);have k0:0<=(k:Int):=by omega
     have k1:(k:Int)<(n1:Int):=by omega
     by_cases hge:iat z k<0
     ·have hk2:=hA.last (by have:=hv.out;omega) hlt hge;have hkz1:k+1<z.length:=by rw [hA.len];omega
      have h1:=hz.set k (iat z k+1000000000);have hkz2:k+1<(z.set k (iat z k+1000000000)).length:=by rw [List.length_set];exact hkz1
      have cy:=h1.cell hkz2;have cg:=h1.free (k+1);have ey:iat (z.set k (iat z k+1000000000)) (k+1)=iat z (k+1):=by rw [iat_set _ _ _ _ hkz,if_neg (by omega)]
      rw [ey] at cy;have k2:(k:Int)+1<(n1:Int):=by omega
      have hst:Hid (DifM w g n1 (val l - val m) (k+1) ((wr.setCell ⟨g,k,none⟩ (.int .i64 (iat z k+1000000000))).setCell ⟨g,k+1,none⟩ (.int .i64 (iat z (k+1) - 1)))):=hIq ⟨_,hA.carry hk2 hge,h1.set _ _,(hB.setCell hg _).setCell hg _⟩;generalize iat z k=x at*
      generalize iat z (k+1)=y at*
      obtain⟨hx3,hx4⟩:=hx2;obtain⟨hy3,hy4⟩:=hy2;clear hA hz hB h1 hkz hkz1 hkz2 ey;go_wp2_with fail
      exact⟨⟨k+1,by omega,by simp,hst.out⟩,by simp [intOf];omega⟩
     ·have hst:Hid (DifM w g n1 (val l - val m) (k+1) wr):=hIq ⟨z,hA.keep (by omega),hz,hB⟩;generalize iat z k=x at*
      clear hA hz hB hkz hy2;go_wp2_with fail
      exact⟨⟨k+1,by omega,by simp,hst.out⟩,by simp [intOf];omega⟩
    ·have hk':k=n1:=by omega
     subst hk';obtain⟨z,hA,hz,hB⟩:=hL;have hz':=hIq hz;have hB':=hIq hB;have hA':=hIq hA;clear hz hB hA;go_wp2_with fail
     go_ret
     exact⟨g,_,z,rfl,hg,hz'.out,hB'.out,hA'.out.len,hA'.out.done,hA'.out.sum,by rw [hA'.out.len,N1.out]⟩
theorem size_Int:(Tryz.prog.info? 28).map (·.size)=some 2:=by kernel_rfl
def Ar2 (w:World)(nx:Bool)(px:Option Addr)(lx cx:Nat)(ny:Bool)(py:Option Addr)(ly cy:Nat)(W:World):Prop:=
 W.heap[w.heap.size]? =some (.cells #[.bool nx,.slice px lx cx] 28 (0,0))/\W.heap[w.heap.size+1]? =some (.cells #[.bool ny,.slice py ly cy] 28 (0,0))/\
 (∃u v,W.heap[w.heap.size+1+1]? =some (.cells #[u,v] 28 (0,0)))/\Below w.heap.size w W
def oldv (W:World)(b o:Nat):Value:=(W.cell? ⟨b,o,none⟩).getD undef
theorem lt_blk {W:World}{k:Nat}{o:Obj}(e:W.heap[k]? =some o):k<W.heap.size:=by
 rcases Nat.lt_or_ge k W.heap.size with h|h
 ·exact h
 ·rw [Array.getElem?_eq_none h] at e;cases e
section
variable {w W w':World}{nx:Bool}{px:Option Addr}{lx cx:Nat}{ny:Bool}{py:Option Addr}{ly cy:Nat}
theorem Ar2.facts (h:Ar2 w nx px lx cx ny py ly cy W):W.cell? ⟨w.heap.size,0,none⟩=some (.bool nx)/\W.cell? ⟨w.heap.size,1,none⟩=some (.slice px lx cx)/\W.cell? ⟨w.heap.size+1,0,none⟩=some (.bool ny)/\W.cell? ⟨w.heap.size+1,1,none⟩=some (.slice py ly cy)/\
 W.cell? ⟨w.heap.size+1+1,0,none⟩=some (oldv W (w.heap.size+1+1) 0)/\W.cell? ⟨w.heap.size+1+1,1,none⟩=some (oldv W (w.heap.size+1+1) 1)/\W.frozen? ⟨w.heap.size+1+1,0,none⟩=false/\W.frozen? ⟨w.heap.size+1+1,1,none⟩=false:=by
 obtain⟨h1,h2,⟨u,v,h3⟩,_⟩:=h;refine⟨by simp [World.cell?,h1],by simp [World.cell?,h1],by simp [World.cell?,h2],by simp [World.cell?,h2],by simp [oldv,World.cell?,h3],by simp [oldv,World.cell?,h3],by simp [World.frozen?,h3],by simp [World.frozen?,h3]⟩
theorem Ar2.later (h:Ar2 w nx px lx cx ny py ly cy W)(hb:Below W.heap.size W w'):Ar2 w nx px lx cx ny py ly cy w':=by
 obtain⟨h1,h2,⟨u,v,h3⟩,h6⟩:=h;exact⟨(hb.block _ (lt_blk h1)).trans h1,(hb.block _ (lt_blk h2)).trans h2,⟨u,v,(hb.block _ (lt_blk h3)).trans h3⟩,below_tr h6 hb⟩
theorem Ar2.drew (h:Ar2 w nx px lx cx ny py ly cy W):Ar2 w nx px lx cx ny py ly cy W.drew:=h.later ((Below.refl _ W).drew)
theorem Ar2.start (w:World):Ar2 w nx px lx cx ny py ly cy (((w.alloc (.cells #[.bool nx,.slice px lx cx] 28)).alloc (.cells #[.bool ny,.slice py ly cy] 28)).alloc (.cells #[.bool false,.slice none 0 0] 28)):=by
 have hb:Below w.heap.size w (((w.alloc (.cells #[.bool nx,.slice px lx cx] 28)).alloc (.cells #[.bool ny,.slice py ly cy] 28)).alloc (.cells #[.bool false,.slice none 0 0] 28)):=(((Below.refl _ _).alloc (Nat.le_refl _) _).alloc (by simp) _).alloc (by simp;omega) _
 have h3:(((w.alloc (.cells #[.bool nx,.slice px lx cx] 28)).alloc (.cells #[.bool ny,.slice py ly cy] 28)).alloc (.cells #[.bool false,.slice none 0 0] 28)).heap[w.heap.size+1+1]? =some (.cells #[.bool false,.slice none 0 0] 28 (0,0)):=by
  have:=heap_alloc_new ((w.alloc (.cells #[.bool nx,.slice px lx cx] 28)).alloc (.cells #[.bool ny,.slice py ly cy] 28)) (.cells #[.bool false,.slice none 0 0] 28)
  simpa using this
 refine⟨?_,?_,⟨_,_,h3⟩,hb⟩
 ·rw [Below.heap_alloc _ _ _ (by simp;omega),Below.heap_alloc _ _ _ (by simp)];exact heap_alloc_new _ _
 ·rw [Below.heap_alloc _ _ _ (by simp)];exact heap_alloc2_new _ _ _
theorem Ar2.res (h:Ar2 w nx px lx cx ny py ly cy W)(p q:Value):((W.setCell ⟨w.heap.size+1+1,0,none⟩ p).setCell ⟨w.heap.size+1+1,1,none⟩ q).heap[w.heap.size+1+1]? =some (.cells #[p,q] 28 (0,0)):=by
 obtain⟨h1,h2,⟨u,v,h3⟩,h6⟩:=h;rw [heap_setCell_self _ _ _ _ _ _ (heap_setCell_self _ _ _ _ _ _ h3)];rfl
theorem Ar2.store (h:Ar2 w nx px lx cx ny py ly cy W)(p q:Value):Ar2 w nx px lx cx ny py ly cy ((W.setCell ⟨w.heap.size+1+1,0,none⟩ p).setCell ⟨w.heap.size+1+1,1,none⟩ q):=by
 refine⟨?_,?_,⟨p,q,h.res p q⟩,(h.2.2.2.setCell (by simp;omega) _).setCell (by simp;omega) _⟩
 ·rw [heap_setCell_other _ _ _ _ (by simp;omega),heap_setCell_other _ _ _ _ (by simp;omega)];exact h.1
 ·rw [heap_setCell_other _ _ _ _ (by simp),heap_setCell_other _ _ _ _ (by simp)];exact h.2.1
theorem Ar2.top (h:Ar2 w nx px lx cx ny py ly cy W):w.heap.size+1+1<W.heap.size:=by
 obtain⟨u,v,h3⟩:=h.2.2.1;exact lt_blk h3
theorem Ar2.ret {nb:Bool}{p:Option Addr}{n c:Nat}{z z':Int}(h:Ar2 w nx px lx cx ny py ly cy W)(hI:IntAt W nb p n c z)(hp:∀q,p=some q->w.heap.size+1+1<q.block)(hz:z=z'):
 RetI w z' (.returned (.agg #[.bool nb,.slice p n c])) ((W.setCell ⟨w.heap.size+1+1,0,none⟩ (.bool nb)).setCell ⟨w.heap.size+1+1,1,none⟩ (.slice p n c)):=by
 subst hz;have hne:∀q,p=some q->q.block≠w.heap.size+1+1:=fun q hq=>by have:=hp q hq;omega
 exact⟨_,_,_,_,rfl,(hI.store hne).store hne,(h.store _ _).2.2.2,fun q hq=>by have:=hp q hq;omega⟩
theorem new_top {g:Nat}{p:Option Addr}(hp:∀q,p=some q->some (⟨g,0,none⟩:Addr)=some q){B:Nat}(hg:B<g):∀q,p=some q->B<q.block:=fun q hq=>by
 have:=hp q hq;cases this;exact hg
end
theorem mul_sg (x y:Int):sg (decide (x<0) !=decide (y<0)) ((x.natAbs:Int)*(y.natAbs:Int))=x*y:=by
 rcases Int.lt_or_le x 0 with h1|h1<;>rcases Int.lt_or_le y 0 with h2|h2
 ·rw [show(x.natAbs:Int)= -x by omega,show(y.natAbs:Int)= -y by omega,dT h1,dT h2];show -x* -y=x*y
  grind
 ·rw [show(x.natAbs:Int)= -x by omega,show(y.natAbs:Int)=y by omega,dT h1,dF (show ¬y<0 by omega)];show -(-x*y)=x*y
  grind
 ·rw [show(x.natAbs:Int)=x by omega,show(y.natAbs:Int)= -y by omega,dF (show ¬x<0 by omega),dT h2];show -(x* -y)=x*y
  grind
 ·rw [show(x.natAbs:Int)=x by omega,show(y.natAbs:Int)=y by omega,dF (show ¬x<0 by omega),dF (show ¬y<0 by omega)];rfl
theorem Mul_any (nx ny:Bool)(px py:Option Addr)(lx cx ly cy:Nat)(x y:Int)(w:World)(hx0:IntAt w nx px lx cx x)(hy0:IntAt w ny py ly cy y)(hlx:lx<=549755813887)(hly:ly<=549755813887):
 Calls Tryz.prog 73 #[.agg #[.bool nx,.slice px lx cx],.agg #[.bool ny,.slice py ly cy]] w (RetI w (x*y)):=by
 have hx:=hIq hx0;have hy:=hIq hy0
 have hpr:Hid (∀W,Ar2 w nx px lx cx ny py ly cy W->Calls Tryz.prog 113 #[.slice px lx cx,.slice py ly cy] W (NewI W (MulP (digs x.natAbs) (digs y.natAbs)))):=
  hIq fun W h=>product_any _ _ _ _ _ _ _ _ W (Rdi_below h.2.2.2 hx0.2.2.1) (Rdi_below h.2.2.2 hy0.2.2.1) hx0.2.1 hy0.2.1 (Dg_digs _) (Dg_digs _) (by omega) (by omega)
 have hf:=fun W (h:Ar2 w nx px lx cx ny py ly cy W)=>h.facts
 have hS0:=hIq (@Ar2.start nx px lx cx ny py ly cy w);have hsg:Hid (sg (nx !=ny) (val (digs x.natAbs)*val (digs y.natAbs))=x*y):=hIq (by rw [val_digs,val_digs,hx0.1,hy0.1];exact mul_sg x y);have hle:Hid ((digs x.natAbs).length=lx/\(digs y.natAbs).length=ly):=hIq ⟨hx0.2.1.symm,hy0.2.1.symm⟩;clear hx0 hy0
 go_enter Tryz.func73,Tryz.ntmps73
 go_wp2_with fail
 generalize((w.alloc (.cells #[.bool nx,.slice px lx cx] 28)).alloc (.cells #[.bool ny,.slice py ly cy] 28)).alloc (.cells #[.bool false,.slice none 0 0] 28)=W0 at hS0 ⊢;have hS1:=hS0.out;clear hS0
 go_region_held3 (fun W=>Ar2 w nx px lx cx ny py ly cy W) (first|exact Ar2.drew (by assumption)|exact Ar2.later (by assumption) (by assumption)|exact Ar2.store (by assumption) _ _) (first|(go_at_call 113;refine(hpr.out _ (by assumption)).mono ?_;rintro e w1 ⟨g,n,z,rfl,hg,hz0,hb1,hn0,hP0⟩;have hz:=hIq hz0;have hn:=hIq hn0;have hP:=hIq hP0;have hnl:n<=1099511627774:=(by have:=hP0.2.2;have:=hle.out;omega);clear hz0 hn0 hP0)|(go_at_call 105;refine(made_any _ _ _ _ z _ hz.out.rdi hn.out.symm (Nat.le_refl _) (by omega) hP.out.1).mono ?_;rintro e w2 ⟨nb,p,n2,c2,rfl,hI0,hb2,hp0⟩;have hI:=hIq hI0;have hp:=hIq hp0;clear hI0 hp0))
 have hS2:=(hS1.drew.later hb1).later hb2;have hgt:w.heap.size+1+1<g:=Nat.lt_of_lt_of_le hS1.drew.top hg;have hfin:=hIq (hS2.ret hI.out (new_top hp.out hgt) (by rw [hP.out.2.1,<-hsg.out];cases nx<;>cases ny<;>rfl:sg (!nx==ny) (val z)=x*y));go_wp2_with fail
 exact bodyPost_ret (v:= .agg #[.bool nb,.slice p n2 c2]) (results_cell_row rfl _ _ (w.heap.size+1+1) 28 _ (0,0) _ rfl (hS2.res _ _) Tryz.underlying28 rfl size_Int) rfl hfin.out
theorem wk_neg {nx:Bool}{x:Int}(hx:x≠0->nx=decide (x<0)):if nx then x<=0 else 0<=x:=by
 by_cases h:x=0
 ·subst h;cases nx<;>simp
 ·rw [hx h];by_cases h2:x<0
  ·simp [h2];omega
  ·simp [h2];omega
theorem same_neg {nx ny:Bool}{x y:Int}(hx:x≠0->nx=decide (x<0))(hy:y≠0->ny=decide (y<0))(h:nx=ny):sg nx ((x.natAbs:Int)+(y.natAbs:Int))=x+y:=by
 have h1:=wk_neg hx;have h2:=wk_neg hy;subst h;cases nx<;>simp [sg] at*<;>omega
theorem diff_neg {nx ny:Bool}{x y:Int}(hx:x≠0->nx=decide (x<0))(hy:y≠0->ny=decide (y<0))(h:nx≠ny):sg nx ((x.natAbs:Int) - (y.natAbs:Int))=x+y:=by
 have h1:=wk_neg hx;have h2:=wk_neg hy;obtain rfl:ny= !nx:=by cases nx<;>cases ny<;>first|rfl|exact absurd rfl h
 cases nx<;>simp [sg] at*<;>omega
theorem Add_same (nx:Bool)(px py:Option Addr)(lx cx ly cy:Nat)(x y:Int)(w:World)(hx0:IntZ w nx px lx cx x)(hy0:IntZ w nx py ly cy y)(hlx:lx<=549755813887)(hly:ly<=549755813887):
 Calls Tryz.prog 135 #[.agg #[.bool nx,.slice px lx cx],.agg #[.bool nx,.slice py ly cy]] w (RetI w (x+y)):=by
 have hx:=hIq hx0;have hy:=hIq hy0
 have hca:Hid (∀W,Ar2 w nx px lx cx nx py ly cy W->Calls Tryz.prog 146 #[.slice px lx cx,.slice py ly cy] W (NewI W (SumP (digs x.natAbs) (digs y.natAbs)))):=
  hIq fun W h=>sum_any _ _ _ _ _ _ _ _ W (Rdi_below h.2.2.2 hx0.2.2.1) (Rdi_below h.2.2.2 hy0.2.2.1) hx0.2.1 hy0.2.1 (Dg_digs _) (Dg_digs _) (by omega) (by omega)
 have hf:=fun W (h:Ar2 w nx px lx cx nx py ly cy W)=>h.facts
 have hS0:=hIq (@Ar2.start nx px lx cx nx py ly cy w);have hsg:Hid (sg nx (val (digs x.natAbs)+val (digs y.natAbs))=x+y):=hIq (by rw [val_digs,val_digs];exact same_neg hx0.1 hy0.1 rfl);have hle:Hid ((digs x.natAbs).length=lx/\(digs y.natAbs).length=ly):=hIq ⟨hx0.2.1.symm,hy0.2.1.symm⟩;have hnn:(nx== !nx)=false:=by cases nx<;>rfl
 clear hx0 hy0
 go_enter Tryz.func135,Tryz.ntmps135
 go_wp2_with fail
 generalize((w.alloc (.cells #[.bool nx,.slice px lx cx] 28)).alloc (.cells #[.bool nx,.slice py ly cy] 28)).alloc (.cells #[.bool false,.slice none 0 0] 28)=W0 at hS0 ⊢;have hS1:=hS0.out;clear hS0
 go_region_held3 (fun W=>Ar2 w nx px lx cx nx py ly cy W) (first|exact Ar2.drew (by assumption)|exact Ar2.later (by assumption) (by assumption)|exact Ar2.store (by assumption) _ _) (first|(go_at_call 146;refine(hca.out _ (by assumption)).mono ?_;rintro e w1 ⟨g,n,z,rfl,hg,hz0,hb1,hn0,hP0⟩;have hz:=hIq hz0;have hn:=hIq hn0;have hP:=hIq hP0;have hnl:n<=1099511627774:=(by have:=hP0.2.2;have:=hle.out;omega);clear hz0 hn0 hP0)|(go_at_call 105;refine(made_any _ _ _ _ z _ hz.out.rdi hn.out.symm (Nat.le_refl _) (by omega) hP.out.1).mono ?_;rintro e w2 ⟨nb,p,n2,c2,rfl,hI0,hb2,hp0⟩;have hI:=hIq hI0;have hp:=hIq hp0;clear hI0 hp0))
 have hS2:=(hS1.drew.later hb1).later hb2;have hgt:w.heap.size+1+1<g:=Nat.lt_of_lt_of_le hS1.drew.top hg;have hfin:=hIq (hS2.ret hI.out (new_top hp.out hgt) (by rw [hP.out.2.1,<-hsg.out]:sg nx (val z)=x+y));go_wp2_with fail
 exact bodyPost_ret (v:= .agg #[.bool nb,.slice p n2 c2]) (results_cell_row rfl _ _ (w.heap.size+1+1) 28 _ (0,0) _ rfl (hS2.res _ _) Tryz.underlying28 rfl size_Int) rfl hfin.out
theorem Add_lt (nx:Bool)(px py:Option Addr)(lx cx ly cy:Nat)(x y:Int)(w:World)(hx0:IntZ w nx px lx cx x)(hy0:IntZ w (!nx) py ly cy y)(hlx:lx<=549755813887)(hly:ly<=549755813887)(hlt:x.natAbs<y.natAbs):
 Calls Tryz.prog 135 #[.agg #[.bool nx,.slice px lx cx],.agg #[.bool (!nx),.slice py ly cy]] w (RetI w (x+y)):=by
 have hx:=hIq hx0;have hy:=hIq hy0
 have hca:Hid (∀W,Ar2 w nx px lx cx (!nx) py ly cy W->Calls Tryz.prog 147 #[.slice py ly cy,.slice px lx cx] W (NewI W (DifP (digs y.natAbs) (digs x.natAbs)))):=
  hIq fun W h=>difference_any _ _ _ _ _ _ _ _ W (Rdi_below h.2.2.2 hy0.2.2.1) (Rdi_below h.2.2.2 hx0.2.2.1) hy0.2.1 hx0.2.1 (Dg_digs _) (Dg_digs _) (by omega) (by rw [hx0.2.1,hy0.2.1];exact digs_len_mono (by omega)) (by rw [val_digs,val_digs];omega)
 have hcm:Hid (∀W,Below w.heap.size w W->Calls Tryz.prog 112 #[.slice px lx cx,.slice py ly cy] W fun e w'=>e= .returned (.int .i64 (-1))/\Below W.heap.size W w'):=
  hIq fun W h=>by rw [show(-1:Int)=cmpI x.natAbs y.natAbs from(cmp_lt (by omega)).symm];exact compare_any _ _ _ _ _ _ _ _ W (Rdi_below h hx0.2.2.1) (Rdi_below h hy0.2.2.1) hx0.2.1 hy0.2.1 (by omega) (by omega)
 have hf:=fun W (h:Ar2 w nx px lx cx (!nx) py ly cy W)=>h.facts
 have hS0:=hIq (@Ar2.start nx px lx cx (!nx) py ly cy w);have hsg:Hid (sg (!nx) (val (digs y.natAbs) - val (digs x.natAbs))=x+y):=hIq (by rw [val_digs,val_digs,Int.add_comm];exact diff_neg hy0.1 hx0.1 (by cases nx<;>decide));have hle:Hid ((digs x.natAbs).length=lx/\(digs y.natAbs).length=ly):=hIq ⟨hx0.2.1.symm,hy0.2.1.symm⟩;have hnn:(nx== !nx)=false:=by cases nx<;>rfl
 clear hx0 hy0
 go_enter Tryz.func135,Tryz.ntmps135
 go_wp2_with fail
 generalize((w.alloc (.cells #[.bool nx,.slice px lx cx] 28)).alloc (.cells #[.bool (!nx),.slice py ly cy] 28)).alloc (.cells #[.bool false,.slice none 0 0] 28)=W9 at hS0 ⊢;have hS9:=hS0.out;clear hS0;have hf9:=hf _ hS9;go_wp2_with (go_at_call 112;refine(hcm.out _ hS9.2.2.2).mono ?_;rintro e W0 ⟨rfl,hb9⟩;have hS1:=hS9.later hb9;clear hb9 hf9)
 go_region_held3 (fun W=>Ar2 w nx px lx cx (!nx) py ly cy W) (first|exact Ar2.drew (by assumption)|exact Ar2.later (by assumption) (by assumption)|exact Ar2.store (by assumption) _ _) (first|(go_at_call 147;refine(hca.out _ (by assumption)).mono ?_;rintro e w1 ⟨g,n,z,rfl,hg,hz0,hb1,hn0,hP0⟩;have hz:=hIq hz0;have hn:=hIq hn0;have hP:=hIq hP0;have hnl:n<=1099511627774:=(by have:=hP0.2.2;have:=hle.out;omega);clear hz0 hn0 hP0)|(go_at_call 105;refine(made_any _ _ _ _ z _ hz.out.rdi hn.out.symm (Nat.le_refl _) (by omega) hP.out.1).mono ?_;rintro e w2 ⟨nb,p,n2,c2,rfl,hI0,hb2,hp0⟩;have hI:=hIq hI0;have hp:=hIq hp0;clear hI0 hp0))
 have hS2:=(hS1.drew.later hb1).later hb2;have hgt:w.heap.size+1+1<g:=Nat.lt_of_lt_of_le hS1.drew.top hg;have hfin:=hIq (hS2.ret hI.out (new_top hp.out hgt) (by rw [hP.out.2.1,<-hsg.out]:sg (!nx) (val z)=x+y));go_wp2_with fail
 exact bodyPost_ret (v:= .agg #[.bool nb,.slice p n2 c2]) (results_cell_row rfl _ _ (w.heap.size+1+1) 28 _ (0,0) _ rfl (hS2.res _ _) Tryz.underlying28 rfl size_Int) rfl hfin.out
theorem Add_ge (nx:Bool)(px py:Option Addr)(lx cx ly cy:Nat)(x y:Int)(w:World)(hx0:IntZ w nx px lx cx x)(hy0:IntZ w (!nx) py ly cy y)(hlx:lx<=549755813887)(hly:ly<=549755813887)(hge:y.natAbs<=x.natAbs)(r:Int)(hr:0<=r)(hr1:r<=1)(hrr:Hid (r=cmpI x.natAbs y.natAbs)):
 Calls Tryz.prog 135 #[.agg #[.bool nx,.slice px lx cx],.agg #[.bool (!nx),.slice py ly cy]] w (RetI w (x+y)):=by
 have hx:=hIq hx0;have hy:=hIq hy0
 have hca:Hid (∀W,Ar2 w nx px lx cx (!nx) py ly cy W->Calls Tryz.prog 147 #[.slice px lx cx,.slice py ly cy] W (NewI W (DifP (digs x.natAbs) (digs y.natAbs)))):=
  hIq fun W h=>difference_any _ _ _ _ _ _ _ _ W (Rdi_below h.2.2.2 hx0.2.2.1) (Rdi_below h.2.2.2 hy0.2.2.1) hx0.2.1 hy0.2.1 (Dg_digs _) (Dg_digs _) (by omega) (by rw [hx0.2.1,hy0.2.1];exact digs_len_mono (by omega)) (by rw [val_digs,val_digs];omega)
 have hcm:Hid (∀W,Below w.heap.size w W->Calls Tryz.prog 112 #[.slice px lx cx,.slice py ly cy] W fun e w'=>e= .returned (.int .i64 (r))/\Below W.heap.size W w'):=
  hIq fun W h=>by rw [show(r:Int)=cmpI x.natAbs y.natAbs from hrr.out];exact compare_any _ _ _ _ _ _ _ _ W (Rdi_below h hx0.2.2.1) (Rdi_below h hy0.2.2.1) hx0.2.1 hy0.2.1 (by omega) (by omega)
 have hf:=fun W (h:Ar2 w nx px lx cx (!nx) py ly cy W)=>h.facts
 have hS0:=hIq (@Ar2.start nx px lx cx (!nx) py ly cy w);have hsg:Hid (sg nx (val (digs x.natAbs) - val (digs y.natAbs))=x+y):=hIq (by rw [val_digs,val_digs];exact diff_neg hx0.1 hy0.1 (by cases nx<;>decide));have hle:Hid ((digs x.natAbs).length=lx/\(digs y.natAbs).length=ly):=hIq ⟨hx0.2.1.symm,hy0.2.1.symm⟩;have hnn:(nx== !nx)=false:=by cases nx<;>rfl
 clear hx0 hy0
 go_enter Tryz.func135,Tryz.ntmps135
 go_wp2_with fail
 generalize((w.alloc (.cells #[.bool nx,.slice px lx cx] 28)).alloc (.cells #[.bool (!nx),.slice py ly cy] 28)).alloc (.cells #[.bool false,.slice none 0 0] 28)=W9 at hS0 ⊢;have hS9:=hS0.out;clear hS0;have hf9:=hf _ hS9;go_wp2_with (go_at_call 112;refine(hcm.out _ hS9.2.2.2).mono ?_;rintro e W0 ⟨rfl,hb9⟩;have hS1:=hS9.later hb9;clear hb9 hf9)
 go_region_held3 (fun W=>Ar2 w nx px lx cx (!nx) py ly cy W) (first|exact Ar2.drew (by assumption)|exact Ar2.later (by assumption) (by assumption)|exact Ar2.store (by assumption) _ _) (first|(go_at_call 147;refine(hca.out _ (by assumption)).mono ?_;rintro e w1 ⟨g,n,z,rfl,hg,hz0,hb1,hn0,hP0⟩;have hz:=hIq hz0;have hn:=hIq hn0;have hP:=hIq hP0;have hnl:n<=1099511627774:=(by have:=hP0.2.2;have:=hle.out;omega);clear hz0 hn0 hP0)|(go_at_call 105;refine(made_any _ _ _ _ z _ hz.out.rdi hn.out.symm (Nat.le_refl _) (by omega) hP.out.1).mono ?_;rintro e w2 ⟨nb,p,n2,c2,rfl,hI0,hb2,hp0⟩;have hI:=hIq hI0;have hp:=hIq hp0;clear hI0 hp0))
 have hS2:=(hS1.drew.later hb1).later hb2;have hgt:w.heap.size+1+1<g:=Nat.lt_of_lt_of_le hS1.drew.top hg;have hfin:=hIq (hS2.ret hI.out (new_top hp.out hgt) (by rw [hP.out.2.1,<-hsg.out]:sg nx (val z)=x+y));go_wp2_with fail
 exact bodyPost_ret (v:= .agg #[.bool nb,.slice p n2 c2]) (results_cell_row rfl _ _ (w.heap.size+1+1) 28 _ (0,0) _ rfl (hS2.res _ _) Tryz.underlying28 rfl size_Int) rfl hfin.out
theorem Add_any (nx ny:Bool)(px py:Option Addr)(lx cx ly cy:Nat)(x y:Int)(w:World)(hx0:IntZ w nx px lx cx x)(hy0:IntZ w ny py ly cy y)(hlx:lx<=549755813887)(hly:ly<=549755813887):
 Calls Tryz.prog 135 #[.agg #[.bool nx,.slice px lx cx],.agg #[.bool ny,.slice py ly cy]] w (RetI w (x+y)):=by
 by_cases h:nx=ny
 ·subst h;exact Add_same nx px py lx cx ly cy x y w hx0 hy0 hlx hly
 ·obtain rfl:ny= !nx:=by cases nx<;>cases ny<;>first|rfl|exact absurd rfl h
  by_cases hlt:x.natAbs<y.natAbs
  ·exact Add_lt nx px py lx cx ly cy x y w hx0 hy0 hlx hly hlt
  ·refine Add_ge nx px py lx cx ly cy x y w hx0 hy0 hlx hly (by omega) (cmpI x.natAbs y.natAbs) ?_ ?_ (hIq rfl)
   ·unfold cmpI;rw [if_neg (by omega)];split<;>omega
   ·unfold cmpI;rw [if_neg (by omega)];split<;>omega
def Ar1 (w:World)(nx:Bool)(px:Option Addr)(lx cx:Nat)(W:World):Prop:=
 W.heap[w.heap.size]? =some (.cells #[.bool nx,.slice px lx cx] 28 (0,0))/\(∃u v,W.heap[w.heap.size+1]? =some (.cells #[u,v] 28 (0,0)))/\Below w.heap.size w W
section
variable {w W w':World}{nx:Bool}{px:Option Addr}{lx cx:Nat}
theorem Ar1.facts (h:Ar1 w nx px lx cx W):W.cell? ⟨w.heap.size,0,none⟩=some (.bool nx)/\W.cell? ⟨w.heap.size,1,none⟩=some (.slice px lx cx)/\
 W.cell? ⟨w.heap.size+1,0,none⟩=some (oldv W (w.heap.size+1) 0)/\W.cell? ⟨w.heap.size+1,1,none⟩=some (oldv W (w.heap.size+1) 1)/\W.frozen? ⟨w.heap.size+1,0,none⟩=false/\W.frozen? ⟨w.heap.size+1,1,none⟩=false:=by
 obtain⟨h1,⟨u,v,h3⟩,_⟩:=h;refine⟨by simp [World.cell?,h1],by simp [World.cell?,h1],by simp [oldv,World.cell?,h3],by simp [oldv,World.cell?,h3],by simp [World.frozen?,h3],by simp [World.frozen?,h3]⟩
theorem Ar1.later (h:Ar1 w nx px lx cx W)(hb:Below W.heap.size W w'):Ar1 w nx px lx cx w':=by
 obtain⟨h1,⟨u,v,h3⟩,h6⟩:=h;exact⟨(hb.block _ (lt_blk h1)).trans h1,⟨u,v,(hb.block _ (lt_blk h3)).trans h3⟩,below_tr h6 hb⟩
theorem Ar1.drew (h:Ar1 w nx px lx cx W):Ar1 w nx px lx cx W.drew:=h.later ((Below.refl _ W).drew)
theorem Ar1.start (w:World):Ar1 w nx px lx cx ((w.alloc (.cells #[.bool nx,.slice px lx cx] 28)).alloc (.cells #[.bool false,.slice none 0 0] 28)):=by
 have hb:Below w.heap.size w ((w.alloc (.cells #[.bool nx,.slice px lx cx] 28)).alloc (.cells #[.bool false,.slice none 0 0] 28)):=((Below.refl _ _).alloc (Nat.le_refl _) _).alloc (by simp) _;refine⟨?_,⟨_,_,heap_alloc2_new _ _ _⟩,hb⟩;rw [Below.heap_alloc _ _ _ (by simp)];exact heap_alloc_new _ _
theorem Ar1.res (h:Ar1 w nx px lx cx W)(p q:Value):((W.setCell ⟨w.heap.size+1,0,none⟩ p).setCell ⟨w.heap.size+1,1,none⟩ q).heap[w.heap.size+1]? =some (.cells #[p,q] 28 (0,0)):=by
 obtain⟨h1,⟨u,v,h3⟩,h6⟩:=h;rw [heap_setCell_self _ _ _ _ _ _ (heap_setCell_self _ _ _ _ _ _ h3)];rfl
theorem Ar1.store (h:Ar1 w nx px lx cx W)(p q:Value):Ar1 w nx px lx cx ((W.setCell ⟨w.heap.size+1,0,none⟩ p).setCell ⟨w.heap.size+1,1,none⟩ q):=by
 refine⟨?_,⟨p,q,h.res p q⟩,(h.2.2.setCell (by simp) _).setCell (by simp) _⟩;rw [heap_setCell_other _ _ _ _ (by simp),heap_setCell_other _ _ _ _ (by simp)];exact h.1
theorem Ar1.top (h:Ar1 w nx px lx cx W):w.heap.size+1<W.heap.size:=by
 obtain⟨u,v,h3⟩:=h.2.1;exact lt_blk h3
theorem Ar1.ret {nb:Bool}{p:Option Addr}{n c:Nat}{z z':Int}(h:Ar1 w nx px lx cx W)(hI:IntAt W nb p n c z)(hp:∀q,p=some q->w.heap.size+1<q.block)(hz:z=z'):
 RetI w z' (.returned (.agg #[.bool nb,.slice p n c])) ((W.setCell ⟨w.heap.size+1,0,none⟩ (.bool nb)).setCell ⟨w.heap.size+1,1,none⟩ (.slice p n c)):=by
 subst hz;have hne:∀q,p=some q->q.block≠w.heap.size+1:=fun q hq=>by have:=hp q hq;omega
 exact⟨_,_,_,_,rfl,(hI.store hne).store hne,(h.store _ _).2.2,fun q hq=>by have:=hp q hq;omega⟩
end
theorem Neg_any (nx:Bool)(px:Option Addr)(lx cx:Nat)(x:Int)(w:World)(hx0:IntZ w nx px lx cx x)(hlx:lx<=549755813887):
 Calls Tryz.prog 60 #[.agg #[.bool nx,.slice px lx cx]] w (RetI w (-x)):=by
 have hca:Hid (∀W,Ar1 w nx px lx cx W->Calls Tryz.prog 106 #[.slice px lx cx,.int .i64 (lx:Int)] W (NewN W lx fun z=>z=cpy (digs x.natAbs) lx)):=
  hIq fun W h=>copied_at _ _ _ _ _ lx W rfl (Rdi_below h.2.2 hx0.2.2.1) hx0.2.1 (by omega)
 have hf:=fun W (h:Ar1 w nx px lx cx W)=>h.facts
 have hS0:=hIq (@Ar1.start nx px lx cx w)
 have hsg:Hid (Dg (cpy (digs x.natAbs) lx)/\sg (!nx) (val (cpy (digs x.natAbs) lx))= -x):=hIq (by
  rw [hx0.2.1,cpy_self,val_digs];refine⟨Dg_digs _,?_⟩;have h1:=wk_neg hx0.1
  cases nx<;>simp [sg] at*<;>omega)
 obtain⟨Z,hZ⟩:∃Z,cpy (digs x.natAbs) lx=Z:=⟨_,rfl⟩;rw [hZ] at hca hsg;clear hx0 hZ
 go_enter Tryz.func60,Tryz.ntmps60
 go_wp2_with fail
 generalize(w.alloc (.cells #[.bool nx,.slice px lx cx] 28)).alloc (.cells #[.bool false,.slice none 0 0] 28)=W0 at hS0 ⊢;have hS1:=hS0.out;clear hS0
 go_region_held3 (fun W=>Ar1 w nx px lx cx W) (first|exact Ar1.drew (by assumption)|exact Ar1.later (by assumption) (by assumption)|exact Ar1.store (by assumption) _ _) (first|(go_at_call 106;refine(hca.out _ (by assumption)).mono ?_;rintro e w1 ⟨g,z,rfl,hg,hz0,hb1,hn0,rfl⟩;have hz:=hIq hz0;have hn:=hIq hn0;clear hz0 hn0)|(go_at_call 105;refine(made_any _ _ _ _ z _ hz.out.rdi hn.out.symm (Nat.le_refl _) (by omega) hsg.out.1).mono ?_;rintro e w2 ⟨nb,p,n2,c2,rfl,hI0,hb2,hp0⟩;have hI:=hIq hI0;have hp:=hIq hp0;clear hI0 hp0))
 have hS2:=(hS1.drew.later hb1).later hb2;have hgt:w.heap.size+1<g:=Nat.lt_of_lt_of_le hS1.drew.top hg;have hfin:=hIq (hS2.ret hI.out (new_top hp.out hgt) hsg.out.2);go_wp2_with fail
 exact bodyPost_ret (v:= .agg #[.bool nb,.slice p n2 c2]) (results_cell_row rfl _ _ (w.heap.size+1) 28 _ (0,0) _ rfl (hS2.res _ _) Tryz.underlying28 rfl size_Int) rfl hfin.out
def BlkT (t:TypeId)(w:World)(g:Nat)(l:List Int):Prop:=w.heap[g]? =some (.cells (zvs l).toArray t (0,0))
section
variable {t:TypeId}{w:World}{g i:Nat}{l:List Int}
theorem BlkT.cell (h:BlkT t w g l)(hi:i<l.length):w.cell? ⟨g,i,none⟩=some (.int .i64 (iat l i)):=by
 unfold BlkT at h;simp [World.cell?,h,<-zvs_get hi]
theorem BlkT.free (h:BlkT t w g l)(i:Nat):w.frozen? ⟨g,i,none⟩=false:=by
 unfold BlkT at h;simp [World.frozen?,h]
theorem BlkT.set (h:BlkT t w g l)(i:Nat)(v:Int):BlkT t (w.setCell ⟨g,i,none⟩ (.int .i64 v)) g (l.set i v):=by
 unfold BlkT at*
 rw [heap_setCell_self _ _ _ _ _ _ h,zvs_set]
theorem BlkT.rdi (h:BlkT t w g l):Rdi w (some ⟨g,0,none⟩) l:=
 .inr ⟨g,0,rfl,fun i hi=>by rw [Nat.zero_add];exact h.cell hi⟩
end
def U64 (M:Nat):Prop:=M<18446744073709551616
def DofL (w:World)(g m:Nat)(k M:Nat)(wr:World):Prop:=∃A:List Int,A.length=3/\A.take k++digs M=digs m/\BlkT 106 wr g A/\Below w.heap.size w wr
theorem take_set (A:List Int)(k:Nat)(v:Int)(h:k<A.length):(A.set k v).take (k+1)=A.take k++ [v]:=by
 rw [List.take_succ_eq_append_getElem (by rw [List.length_set];exact h),List.take_set_of_le (Nat.le_refl _)];simp
theorem digitsOf_any (m:Nat)(hm:m<18446744073709551616)(w:World):
 Calls Tryz.prog 136 #[.int .u64 (m:Int)] w (NewI w fun z=>z=digs m):=by
 have h3:Hid ((digs m).length<=3):=hIq (digs_len_le (by
  have:pw 3=1000000000000000000000000000:=by decide
  omega))
 have hI:Hid (DofL w w.heap.size m 0 m (w.alloc (.cells #[.int .i64 0,.int .i64 0,.int .i64 0] 106))):=hIq ⟨[0,0,0],rfl,rfl,heap_alloc_new _ _,below_new _ _⟩;have hm':Hid (U64 m):=hIq hm;clear hm
 go_enter Tryz.func136,Tryz.ntmps136
 go_wp2_with fail
 generalize w.alloc (.cells #[.int .i64 0,.int .i64 0,.int .i64 0] 106)=w1 at hI ⊢;obtain⟨g,hg⟩:∃g,w.heap.size=g:=⟨_,rfl⟩;rw [hg] at hI ⊢;have hgg:Hid (w.heap.size<=g):=hIq (Nat.le_of_eq hg);clear hg
 go_loopw [0,4] (fun mv kv wr=>∃k M:Nat,kv= .int .i64 (k:Int)/\mv= .int .u64 (M:Int)/\U64 M/\Hid (k+(digs M).length=(digs m).length)/\DofL w g m k M wr) (fun mv _ _=>(intOf mv).toNat)
 case atStart=>exact⟨0,m,rfl,rfl,hm'.out,hIq (Nat.zero_add _),hI.out⟩
 case round=>
  obtain⟨k,M,rfl,rfl,hM,hkl,hL⟩:=hrel;clear hI;by_cases h0:M=0
  ·subst h0;obtain⟨A,hA,D,hB,hW⟩:=hL;rw [digs_zero,List.append_nil] at D;have hk3:k<=3:=by have h1:=hkl.out;have h2:=h3.out;omega
   have hc:Hid (Calls Tryz.prog 106 #[.slice (some ⟨g,0,none⟩) 3 3,.int .i64 (k:Int)] wr (NewN wr k fun z=>z=cpy A k)):=hIq (copied_at _ 3 3 A _ k wr rfl hB.rdi hA.symm (by omega));have hW':=hIq hW;have hfin:Hid (cpy A k=digs m):=hIq (by unfold cpy;rw [D,show k - A.length=0 by omega];simp);rw [show((0:Nat):Int)=0 from rfl];clear hB hW D hA hkl h3 hM;go_wp2_with (go_at_call 106;refine hc.out.mono ?_;rintro e w2 ⟨g2,z,rfl,hg2,hz0,hb2,hn0,rfl⟩;have hz:=hIq hz0;have hb:=hIq hb2;have hn:=hIq hn0;clear hz0 hb2 hn0)
   go_ret
   exact⟨g2,k,_,rfl,Nat.le_trans hW'.out.size hg2,hz.out,below_tr hW'.out hb.out,hn.out,hfin.out⟩
  ·obtain⟨A,hA,D,hB,hW⟩:=hL;have hdp:=digs_pos h0;have hk3:k<3:=by have h1:=hkl.out;have h2:=h3.out;rw [hdp,List.length_cons] at h1;omega
   have cx:=hB.cell (i:=k) (by omega);have cf:=hB.free k;have hst:Hid (DofL w g m (k+1) (M / 1000000000) (wr.setCell ⟨g,k,none⟩ (.int .i64 ((M % 1000000000:Nat):Int)))):=hIq ⟨_,by rw [List.length_set];exact hA,by rw [take_set _ _ _ (by omega),List.append_assoc,<-D,hdp];rfl,hB.set _ _,hW.setCell hgg.out _⟩;have hkl2:Hid (k+1+(digs (M / 1000000000)).length=(digs m).length):=hIq (by have:=hkl.out;rw [hdp,List.length_cons] at this;omega);have e1:((M % 1000000000:Nat):Int)=(M:Int) % 1000000000:=by omega
   have e2:((M / 1000000000:Nat):Int)=(M:Int) / 1000000000:=by omega
   rw [e1] at hst;have e2':=hIq e2;have m0:(0:Int)<(M:Int):=by omega
   have hM2:Hid (U64 (M / 1000000000)):=hIq (by unfold U64 at*;omega);have hw:IntKind.u64.wrap ((M:Int) / 1000000000)=(M:Int) / 1000000000:=by unfold U64 at hM;simp [IntKind.wrap,IntKind.bits,IntKind.signed];omega
   have k0:0<=(k:Int):=by omega
   have k1:(k:Int)<3:=by omega
   have hlt:=hIq (show M / 1000000000<M from Nat.div_lt_self (by omega) (by omega));generalize iat A k=v at cx;clear hA D hB hW hdp e1 e2 h0 hM;go_wp2_with fail
   exact⟨⟨k+1,M / 1000000000,by simp,by rw [e2'.out],hM2.out,hkl2.out,hst.out⟩,by have:=hlt.out;simp only [intOf];omega⟩
def Ar0 (w:World)(W:World):Prop:=(∃u v,W.heap[w.heap.size]? =some (.cells #[u,v] 28 (0,0)))/\Below w.heap.size w W
section
variable {w W w':World}
theorem Ar0.facts (h:Ar0 w W):W.cell? ⟨w.heap.size,0,none⟩=some (oldv W w.heap.size 0)/\W.cell? ⟨w.heap.size,1,none⟩=some (oldv W w.heap.size 1)/\W.frozen? ⟨w.heap.size,0,none⟩=false/\W.frozen? ⟨w.heap.size,1,none⟩=false:=by
 obtain⟨⟨u,v,h3⟩,_⟩:=h;refine⟨by simp [oldv,World.cell?,h3],by simp [oldv,World.cell?,h3],by simp [World.frozen?,h3],by simp [World.frozen?,h3]⟩
theorem Ar0.later (h:Ar0 w W)(hb:Below W.heap.size W w'):Ar0 w w':=by
 obtain⟨⟨u,v,h3⟩,h6⟩:=h;exact⟨⟨u,v,(hb.block _ (lt_blk h3)).trans h3⟩,below_tr h6 hb⟩
theorem Ar0.start (w:World):Ar0 w (w.alloc (.cells #[.bool false,.slice none 0 0] 28)):=⟨⟨_,_,heap_alloc_new _ _⟩,below_new _ _⟩
theorem Ar0.res (h:Ar0 w W)(p q:Value):((W.setCell ⟨w.heap.size,0,none⟩ p).setCell ⟨w.heap.size,1,none⟩ q).heap[w.heap.size]? =some (.cells #[p,q] 28 (0,0)):=by
 obtain⟨⟨u,v,h3⟩,h6⟩:=h;rw [heap_setCell_self _ _ _ _ _ _ (heap_setCell_self _ _ _ _ _ _ h3)];rfl
theorem Ar0.store (h:Ar0 w W)(p q:Value):Ar0 w ((W.setCell ⟨w.heap.size,0,none⟩ p).setCell ⟨w.heap.size,1,none⟩ q):=
 ⟨⟨p,q,h.res p q⟩,(h.2.setCell (Nat.le_refl _) _).setCell (Nat.le_refl _) _⟩
theorem Ar0.top (h:Ar0 w W):w.heap.size<W.heap.size:=by
 obtain⟨u,v,h3⟩:=h.1;exact lt_blk h3
theorem Ar0.ret {fr:Addr->Prop}{nb:Bool}{p:Option Addr}{n c:Nat}{z z':Int}(h:Ar0 w W)(hI:IntAt W nb p n c z)(hp:∀q,p=some q->q.block≠w.heap.size/\fr q)(hz:z=z'):
 RetF fr w z' (.returned (.agg #[.bool nb,.slice p n c])) ((W.setCell ⟨w.heap.size,0,none⟩ (.bool nb)).setCell ⟨w.heap.size,1,none⟩ (.slice p n c)):=by
 subst hz;have hne:∀q,p=some q->q.block≠w.heap.size:=fun q hq=>(hp q hq).1
 exact⟨_,_,_,_,rfl,(hI.store hne).store hne,(h.store _ _).2,fun q hq=>(hp q hq).2⟩
end
theorem digitsOf_at (v:Int)(m:Nat)(hv:v=(m:Int))(hm:m<18446744073709551616)(w:World):
 Calls Tryz.prog 136 #[.int .u64 v] w (NewI w fun z=>z=digs m):=by subst hv;exact digitsOf_any m hm w
theorem Of_any (n:Int)(h1: -9223372036854775808<=n)(h2:n<=9223372036854775807)(w:World):
 Calls Tryz.prog 104 #[.int .i64 n] w (RetI w n):=by
 have hu:Hid (∀v W,v=(n.natAbs:Int)->Calls Tryz.prog 136 #[.int .u64 v] W (NewI W fun z=>z=digs n.natAbs)):=hIq fun v W hv=>digitsOf_at v _ hv (by omega) W
 have hS0:=hIq (Ar0.start w)
 have hsg:Hid (Dg (digs n.natAbs)/\sg (decide (n<0)) (val (digs n.natAbs))=n):=hIq ⟨Dg_digs _,by
  rw [val_digs];by_cases h:n<0
  ·rw [dT h];show -(n.natAbs:Int)=n;omega
  ·rw [dF h];show(n.natAbs:Int)=n;omega⟩
 have hlen:Hid ((digs n.natAbs).length<=3):=hIq (digs_len_le (by
  have:pw 3=1000000000000000000000000000:=by decide
  omega))
 obtain⟨D,hD⟩:∃D,digs n.natAbs=D:=⟨_,rfl⟩;rw [hD] at hu hsg hlen;clear hD;by_cases h0:n<0
 ·have e1:IntKind.u64.wrap n=n+18446744073709551616:=by simp [IntKind.wrap,IntKind.bits,IntKind.signed];omega
  have hd:decide (n<0)=true:=dT h0
  go_enter Tryz.func104,Tryz.ntmps104
  go_wp2_with fail
  generalize w.alloc (.cells #[.bool false,.slice none 0 0] 28)=W0 at hS0 ⊢;have hS1:=hS0.out;clear hS0;refine(hu.out _ _ (by simp [IntKind.wrap,IntKind.bits,IntKind.signed];omega)).mono ?_
  rintro e w1 ⟨g,n1,z,rfl,hg,hz0,hb1,hn0,rfl⟩
  have hz:=hIq hz0;have hn:=hIq hn0;have hS2:=hS1.later hb1;have hgt:w.heap.size<g:=Nat.lt_of_lt_of_le hS1.top hg;have hnl:n1<=3:=by have:=hlen.out;omega
  clear hz0 hn0 hb1;go_wp2_with fail
  refine(made_any true _ n1 n1 z _ hz.out.rdi hn.out.symm (Nat.le_refl _) (by omega) hsg.out.1).mono ?_
  rintro e w2 ⟨nb,p,n2,c2,rfl,hI0,hb2,hp0⟩
  have hI:=hIq hI0;have hS3:=hS2.later hb2;have hf3:=hS3.facts
  have hfin:Hid (RetI w n (.returned (.agg #[.bool nb,.slice p n2 c2])) ((w2.setCell ⟨w.heap.size,0,none⟩ (.bool nb)).setCell ⟨w.heap.size,1,none⟩ (.slice p n2 c2))):=hIq (hS3.ret hI.out (fun q hq=>by
   have:=hp0 q hq;cases this
   exact⟨by simp;omega,by simp;omega⟩) (by have:=hsg.out.2;rw [hd] at this;exact this))
  clear hI0 hb2 hp0;go_wp2_with fail
  exact bodyPost_ret (v:= .agg #[.bool nb,.slice p n2 c2]) (results_cell_row rfl _ _ w.heap.size 28 _ (0,0) _ rfl (hS3.res _ _) Tryz.underlying28 rfl size_Int) rfl hfin.out
 ·have hd:decide (n<0)=false:=dF h0
  go_enter Tryz.func104,Tryz.ntmps104
  go_wp2_with fail
  generalize w.alloc (.cells #[.bool false,.slice none 0 0] 28)=W0 at hS0 ⊢;have hS1:=hS0.out;clear hS0;refine(hu.out _ _ (by omega)).mono ?_
  rintro e w1 ⟨g,n1,z,rfl,hg,hz0,hb1,hn0,rfl⟩
  have hz:=hIq hz0;have hn:=hIq hn0;have hS2:=hS1.later hb1;have hgt:w.heap.size<g:=Nat.lt_of_lt_of_le hS1.top hg;have hnl:n1<=3:=by have:=hlen.out;omega
  clear hz0 hn0 hb1;go_wp2_with fail
  refine(made_any false _ n1 n1 z _ hz.out.rdi hn.out.symm (Nat.le_refl _) (by omega) hsg.out.1).mono ?_
  rintro e w2 ⟨nb,p,n2,c2,rfl,hI0,hb2,hp0⟩
  have hI:=hIq hI0;have hS3:=hS2.later hb2;have hf3:=hS3.facts
  have hfin:Hid (RetI w n (.returned (.agg #[.bool nb,.slice p n2 c2])) ((w2.setCell ⟨w.heap.size,0,none⟩ (.bool nb)).setCell ⟨w.heap.size,1,none⟩ (.slice p n2 c2))):=hIq (hS3.ret hI.out (fun q hq=>by
   have:=hp0 q hq;cases this
   exact⟨by simp;omega,by simp;omega⟩) (by have:=hsg.out.2;rw [hd] at this;exact this))
  clear hI0 hb2 hp0;go_wp2_with fail
  exact bodyPost_ret (v:= .agg #[.bool nb,.slice p n2 c2]) (results_cell_row rfl _ _ w.heap.size 28 _ (0,0) _ rfl (hS3.res _ _) Tryz.underlying28 rfl size_Int) rfl hfin.out
end Go.Proofs.YteacdbgalloaiaaGreat
namespace Go.Proofs
end Go.Proofs
namespace Go.Proofs.YteacdbgalloaiaaGreat
open Go.RowKit

def lows:Nat->Nat->List UInt8
 |0,_=>[]
 |j+1,m=>lows j (m / 256)++ [UInt8.ofNat (m % 256)]
def nd (m:Nat):Nat:=
 if m<1 then 0 else if m<256 then 1 else if m<65536 then 2 else if m<16777216 then 3 else if m<4294967296 then 4
 else if m<1099511627776 then 5 else if m<281474976710656 then 6 else if m<72057594037927936 then 7 else 8
def fx (g:Bool)(d:UInt8):UInt8:=if g then 255 - d else d
def neg (n:Int):Bool:=decide (n<0)
def mgn (n:Int):Nat:=if n<0 then(-1 - n).toNat else n.toNat
def D (g:Bool)(k:Nat):UInt8:=UInt8.ofNat (if g then 127 - k else 128+k)
def enc (n:Int):List UInt8:=D (neg n) (nd (mgn n))::(lows (nd (mgn n)) (mgn n)).map (fx (neg n))

theorem digit_any (a:Option Addr)(n c:Nat)(l:List Int)(i:Nat)(w:World)(hR0:Rdi w a l)(hn0:n=l.length):
 Calls Tryz.prog 148 #[.slice a n c,.int .i64 (i:Int)] w fun e w'=>e= .returned (.int .i64 (iat l i))/\w=w':=by
 have hn:=hIq hn0;by_cases h:i<n
 ·obtain⟨b,o,rfl,hc⟩:=Rdi_at hR0 i (by omega);have h1:(i:Int)<(n:Int):=by omega
  have h2:0<=(i:Int):=by omega
  generalize iat l i=x at hc ⊢;clear hR0 hn0
  go_enter Tryz.func148,Tryz.ntmps148
  go_wp2_with fail
  go_ret
  exact⟨rfl,rfl⟩
 ·have h1:¬(i:Int)<(n:Int):=by omega
  have h2:Hid (iat l i=0):=hIq (iat_ge (by omega));clear hR0 hn0
  go_enter Tryz.func148,Tryz.ntmps148
  go_wp2_with fail
  go_ret
  exact⟨by rw [h2.out];rfl,rfl⟩
theorem normal_any (neg:Bool)(a:Option Addr)(m c:Nat)(l:List Int)(w:World)(hR0:Rdi w a l)(hm0:m=l.length)(hmc:m<=c)(hm:c<=9223372036854775807)(hd0:Dg l):
 Calls Tryz.prog 122 #[.bool neg,.slice a m c] w (RetF (fun q=>a=some q) w (sg neg (val l))):=by
 have hR:=hIq hR0;have hml:=hIq hm0;have D:=hIq hd0;have hb0:=hIq (below_new w (.cells #[.bool false,.slice none 0 0] 28));clear hR0 hm0 hd0
 go_enter Tryz.func122,Tryz.ntmps122
 go_wp2_with fail
 go_loopw [5] (fun n wr=>∃k:Nat,k<=m/\n= .int .i64 (k:Int)/\Hid (∀i,k<=i->i<l.length->iat l i=0)/\wr=w.alloc (.cells #[.bool false,.slice none 0 0] 28)) (fun n _=>(intOf n).toNat)
 case atStart=>exact⟨m,Nat.le_refl _,rfl,hIq (fun i h1 h2=>by have:=hml.out;omega),rfl⟩
 case round=>
  obtain⟨k,hk,rfl,hz,rfl⟩:=hrel;by_cases h0:k=0
  ·subst h0;have ht:Hid (tlen l=0):=hIq (tlen_of l 0 (Nat.zero_le _) hz.out (.inl rfl));have hv:Hid (sg neg (val l)=0):=hIq (by rw [tlen_zero D.out ht.out];unfold sg;cases neg<;>rfl);rw [show((0:Nat):Int)=0 from rfl];go_wp2_with fail
   exact bodyPost_ret (v:= .agg #[.bool false,.slice none 0 0]) (by simp [results,Tryz.results122,go_sem]) rfl ⟨_,_,_,_,rfl,by rw [hv.out];exact IntAt_zero _ _ _ (by omega),below_new _ _,fun q hq=>by cases hq⟩
  ·obtain⟨q,rfl⟩:∃q,k=q+1:=⟨k - 1,by omega⟩;obtain⟨b,off,rfl,hc0⟩:=Rdi_at hR.out q (by rw [<-hml.out];omega);have hc:=Below.cell_of' hb0.out hc0;obtain⟨x,hx⟩:∃x,iat l q=x:=⟨_,rfl⟩;rw [hx] at hc;have hx':=hIq hx;clear hx h0 hc0;have e1:(((q+1:Nat):Int))=(q:Int)+1:=by omega
   have e2:(q:Int)+1 - 1=(q:Int):=by omega
   have h1:(0:Int)<(q:Int)+1:=by omega
   have e3:0<=(q:Int):=by omega
   rw [e1];by_cases hx0:x=0
   ·subst hx0
    have hz2:Hid (∀i,q<=i->i<l.length->iat l i=0):=hIq (fun i h1 h2=>by
     rcases Nat.lt_or_ge q i with h|h
     ·exact hz.out i (by omega) h2
     ·rw [show i=q by omega];exact hx'.out)
    go_wp2_with fail
    refine⟨⟨q,by omega,rfl,hz2,trivial⟩,by simp [intOf]⟩
   ·have hxb:(x==0)=false:=by simpa using hx0
    have ht:Hid (tlen l=q+1):=hIq (tlen_of l (q+1) (by rw [<-hml.out];exact hk) hz.out (.inr (by rw [Nat.add_sub_cancel,hx'.out];exact hx0)));have hI:Hid (∀W,Below w.heap.size w W->IntAt W neg (some ⟨b,off,none⟩) (q+1) c (sg neg (val l))):=hIq (fun W hb=>by rw [<-ht.out];exact made_is (Rdi_below hb hR.out) D.out (by rw [ht.out];omega) (by rw [<-hml.out];exact hmc) hm);have hqb:(((q:Int)+1)==0)=false:=by simp;omega
    clear hx0;go_wp2_with fail
    exact bodyPost_ret (v:= .agg #[.bool neg,.slice (some ⟨b,off,none⟩) (q+1) c]) (by simp [results,Tryz.results122,go_sem]) rfl ⟨_,_,_,_,rfl,hI.out _ (below_new _ _),below_new _ _,fun q hq=>hq⟩
def arn (n most:Int):Int:=(if n<0 then -(n+1)else n) % most
theorem arn_lo (n most:Int)(h:0<most):0<=arn n most:=Int.emod_nonneg _ (by omega)
theorem arn_hi (n most:Int)(h:0<most):arn n most<most:=Int.emod_lt_of_pos _ h
theorem around_any (n most:Int)(h1: -9223372036854775808<=n)(h2:n<=9223372036854775807)(h3:0<most)(h4:most<=9223372036854775807)(w:World):
 Calls Tryz.prog 13 #[.int .i64 n,.int .i64 most] w fun e w'=>e= .returned (.int .i64 (arn n most))/\w=w':=by
 have m0:(most==0)=false:=by simp;omega
 by_cases h:n<0
 ·have hr:Hid (arn n most=(-(n+1)) % most):=hIq (by unfold arn;rw [if_pos h]);have e1:0<= -(n+1):=by omega
  have e2: -(n+1)<=9223372036854775807:=by omega
  have hlo:=arn_lo n most h3;have hhi:=arn_hi n most h3;rw [hr.out] at hlo hhi ⊢
  go_enter Tryz.func13,Tryz.ntmps13
  have e3:=hIq (show -(n+1).tmod most= -(n+1) % most by rw [<-Int.neg_tmod,Int.tmod_eq_emod_of_nonneg e1]);go_wp2_with fail
  go_ret
  exact⟨by rw [<-e3.out];rfl,rfl⟩
 ·have hr:Hid (arn n most=n % most):=hIq (by unfold arn;rw [if_neg h]);have e1:0<=n:=by omega
  have hlo:=arn_lo n most h3;have hhi:=arn_hi n most h3;rw [hr.out] at hlo hhi ⊢
  go_enter Tryz.func13,Tryz.ntmps13
  go_wp2_with fail
  go_ret
  exact⟨rfl,rfl⟩
def i64s (l:List Int):Prop:=∀i,i<l.length-> -9223372036854775808<=iat l i/\iat l i<=9223372036854775807
def atv (l:List Int)(i:Int)(most:Int):Int:=if i<0∨(l.length:Int)<=i then 0 else arn (iat l i.toNat) most
theorem atv_lo (l:List Int)(i most:Int)(h:0<most):0<=atv l i most:=by unfold atv;split;omega;exact arn_lo _ _ h
theorem atv_hi (l:List Int)(i most:Int)(h:0<most):atv l i most<most:=by unfold atv;split;omega;exact arn_hi _ _ h
theorem at_any (a:Option Addr)(n c:Nat)(l:List Int)(i:Nat)(most:Int)(w:World)(hR0:Rdi w a l)(hn0:n=l.length)(hi64:i64s l)(hi:i<=9223372036854775807)(h3:0<most)(h4:most<=9223372036854775807):
 Calls Tryz.prog 38 #[.slice a n c,.int .i64 (i:Int),.int .i64 most] w fun e w'=>e= .returned (.int .i64 (atv l i most))/\w=w':=by
 by_cases h:i<n
 ·have hr:Hid (atv l i most=arn (iat l i) most):=hIq (by unfold atv;rw [if_neg (by omega)];rfl);obtain⟨b,o,rfl,hc⟩:=Rdi_at hR0 i (by omega);have hb:=hi64 i (by omega);have har:Hid (Calls Tryz.prog 13 #[.int .i64 (iat l i),.int .i64 most] w fun e w'=>e= .returned (.int .i64 (arn (iat l i) most))/\w=w'):=hIq (around_any _ _ hb.1 hb.2 h3 h4 w);rw [hr.out];have t1:¬(i:Int)<0:=by omega
  have t2:(i:Int)<(n:Int):=by omega
  generalize arn (iat l i) most=r at har ⊢;generalize iat l i=x at hc har;clear hR0 hn0 hi64 hb
  go_enter Tryz.func38,Tryz.ntmps38
  go_wp2_with (go_at_call 13;refine har.out.mono ?_;rintro e w' ⟨rfl,rfl⟩)
  go_ret
  exact⟨rfl,rfl⟩
 ·have hr:Hid (atv l i most=0):=hIq (by unfold atv;rw [if_pos (by omega)]);rw [hr.out];have t1:¬(i:Int)<0:=by omega
  have t2:(n:Int)<=(i:Int):=by omega
  clear hR0 hn0 hi64
  go_enter Tryz.func38,Tryz.ntmps38
  go_wp2_with fail
  go_ret
  exact⟨rfl,rfl⟩
theorem same_dec {x y:Int}:(decide (x<0)=decide (y<0)/\digs x.natAbs=digs y.natAbs)↔x=y:=by
 constructor
 ·rintro⟨h1,h2⟩
  have h3:=digs_inj h2;rw [decide_eq_decide] at h1;omega
 ·rintro rfl;exact⟨rfl,rfl⟩
theorem list_ext {l m:List Int}(h:l.length=m.length)(h2:∀i,i<l.length->iat l i=iat m i):l=m:=by
 apply List.ext_getElem h;intro i h3 h4;have:=h2 i h3
 simpa [iat,h3,h4] using this
def SamL (w:World)(px:Option Addr)(cx:Nat)(py:Option Addr)(cy n:Nat)(wr:World):Prop:=
 wr.cell? ⟨w.heap.size,1,none⟩=some (.slice px n cx)/\wr.cell? ⟨w.heap.size+1,1,none⟩=some (.slice py n cy)/\Below w.heap.size w wr
theorem SamL.drewN {w:World}{px:Option Addr}{cx:Nat}{py:Option Addr}{cy n:Nat}{wr:World}(h:SamL w px cx py cy n wr)(q:Nat):SamL w px cx py cy n (wr.drewN q):=⟨h.1,h.2.1,below_drewN h.2.2 q⟩
theorem Same_any (nx ny:Bool)(px py:Option Addr)(lx cx ly cy:Nat)(x y:Int)(w:World)(hx0:IntAt w nx px lx cx x)(hy0:IntAt w ny py ly cy y)(hlx:lx<=549755813887)(hly:ly<=549755813887):
 Calls Tryz.prog 56 #[.agg #[.bool nx,.slice px lx cx],.agg #[.bool ny,.slice py ly cy]] w fun e w'=>e= .returned (.bool (decide (x=y)))/\Below w.heap.size w w':=by
 have hb:Below w.heap.size w ((w.alloc (.cells #[.bool nx,.slice px lx cx] 28)).alloc (.cells #[.bool ny,.slice py ly cy] 28)):=((Below.refl _ _).alloc (Nat.le_refl _) _).alloc (by simp) _;have hb':=hIq hb;have hdec:=@same_dec x y;obtain⟨hnx,N1,H1,_⟩:=hx0;obtain⟨hny,N2,H2,_⟩:=hy0;rw [<-hnx,<-hny] at hdec;obtain⟨r,hr⟩:∃r,decide (x=y)=r:=⟨_,rfl⟩;have hT:Hid (nx=ny->digs x.natAbs=digs y.natAbs->r=true):=hIq fun h1 h2=>by rw [<-hr];exact dT (hdec.1 ⟨h1,h2⟩)
 have hF:Hid (¬(nx=ny/\digs x.natAbs=digs y.natAbs)->r=false):=hIq fun h=>by rw [<-hr];exact dF fun h2=>h (hdec.2 h2)
 rw [hr];generalize digs x.natAbs=l at N1 H1 hT hF;generalize digs y.natAbs=m at N2 H2 hT hF;clear hr hdec hnx hny hb;have N1':=hIq N1;have N2':=hIq N2;have H1':=hIq H1;have H2':=hIq H2;clear N1 N2 H1 H2;by_cases hn:nx=ny
 ·subst hn;have t1:(nx !=nx)=false:=by simp
  by_cases hl:lx=ly
  ·subst hl;have t2:((lx:Int) !=(lx:Int))=false:=by simp
   have hS0:Hid ((((w.alloc (.cells #[.bool nx,.slice px lx cx] 28)).alloc (.cells #[.bool nx,.slice py lx cy] 28)).cell? ⟨w.heap.size,1,none⟩=some (.slice px lx cx))/\(((w.alloc (.cells #[.bool nx,.slice px lx cx] 28)).alloc (.cells #[.bool nx,.slice py lx cy] 28)).cell? ⟨w.heap.size+1,1,none⟩=some (.slice py lx cy))):=hIq (by
    constructor
    ·simp [World.cell?,show((w.alloc (.cells #[.bool nx,.slice px lx cx] 28)).alloc (.cells #[.bool nx,.slice py lx cy] 28)).heap[w.heap.size]? =some (.cells #[.bool nx,.slice px lx cx] 28 (0,0)) by rw [Below.heap_alloc _ _ _ (by simp)];exact heap_alloc_new _ _]
    ·have h:=heap_alloc2_new w (.cells #[.bool nx,.slice px lx cx] 28) (.cells #[.bool nx,.slice py lx cy] 28);unfold World.cell?;rw [h]
     rfl)
   go_enter Tryz.func56,Tryz.ntmps56
   go_wp2_with fail
   generalize(w.alloc (.cells #[.bool nx,.slice px lx cx] 28)).alloc (.cells #[.bool nx,.slice py lx cy] 28)=W1 at hS0 hb' ⊢
   go_loopw [5] (fun i wr=>∃(k:Nat),k<=lx/\i= .int .i64 (k:Int)/\Hid (∀j,j<k->iat l j=iat m j)/\SamL w px cx py cy lx wr) (fun i _=>lx - (intOf i).toNat)
   case atStart=>exact⟨0,Nat.zero_le _,rfl,hIq (fun j hj=>by omega),hS0.out.1,hS0.out.2,hb'.out⟩
   case round=>
    obtain⟨k,hk,rfl,hall,hw⟩:=hrel;have s1:=hw.1;have s2:=hw.2.1;have hB:=hIq hw.2.2;have hw':=hIq hw;clear hw;by_cases hlt:k<lx
    ·obtain⟨b1,o1,hpx,hc1⟩:=Rdi_at H1'.out k (by rw [<-N1'.out];exact hlt);obtain⟨b2,o2,hpy,hc2⟩:=Rdi_at H2'.out k (by rw [<-N2'.out];exact hlt);have C1:=Below.cell_of' hB.out hc1;have C2:=Below.cell_of' hB.out hc2;obtain⟨X,hX⟩:∃X,iat l k=X:=⟨_,rfl⟩;obtain⟨Y,hY⟩:∃Y,iat m k=Y:=⟨_,rfl⟩;rw [hX] at C1;rw [hY] at C2;have hX':=hIq hX;have hY':=hIq hY;have k0:0<=(k:Int):=by omega
     have k1:(k:Int)<(lx:Int):=by omega
     have k2:((k:Int)).toNat=k:=by omega
     clear hc1 hc2 hX hY;subst hpx hpy;by_cases hXY:X=Y
     ·subst hXY;have hne:(X !=X)=false:=by simp
      have hall2:Hid (∀j,j<k+1->iat l j=iat m j):=hIq fun j hj=>by
       rcases Nat.lt_or_ge j k with h|h
       ·exact hall.out j h
       ·rw [show j=k by omega,hX'.out,hY'.out]
      go_wp2_with fail
      go_quiet (fail)
      go_wp2_with fail
      exact⟨⟨k+1,by omega,by simp,hall2,hw'.out.drewN nq⟩,by simp [intOf];omega⟩
     ·have hne:(X !=Y)=true:=by simpa using hXY
      have hr0:Hid (r=false):=hIq (hF.out (fun h=>hXY (by rw [<-hX'.out,<-hY'.out,h.2])));clear hXY;go_wp2_with fail
      go_quiet (fail)
      go_wp2_with fail
      go_ret
      exact⟨by rw [hr0.out];rfl,below_drewN hB.out _⟩
    ·have hk':k=lx:=by omega
     subst hk';have hr1:Hid (r=true):=hIq (hT.out (by first|trivial|rfl) (list_ext (by rw [<-N1'.out,<-N2'.out]) (fun i hi=>hall.out i (by rw [N1'.out];exact hi))));go_wp2_with fail
     go_ret
     exact⟨by rw [hr1.out];rfl,hB.out⟩
  ·have t2:((lx:Int) !=(ly:Int))=true:=by simp;omega
   have hr0:Hid (r=false):=hIq (hF.out (fun h=>hl (by rw [N1'.out,N2'.out,h.2])))
   go_enter Tryz.func56,Tryz.ntmps56
   go_wp2_with fail
   go_ret
   exact⟨by rw [hr0.out];rfl,hb'.out⟩
 ·have hr0:Hid (r=false):=hIq (hF.out (fun h=>hn h.1));obtain rfl:ny= !nx:=by cases nx<;>cases ny<;>first|rfl|exact absurd rfl hn
  have hnn:(nx== !nx)=false:=by cases nx<;>rfl
  clear hn
  go_enter Tryz.func56,Tryz.ntmps56
  go_wp2_with fail
  go_ret
  exact⟨by rw [hr0.out];rfl,hb'.out⟩


end Go.Proofs.YteacdbgalloaiaaGreat
