/- Contracts of the packages integer, rat, plane, polygon and their references. -/
import Derived.Test.YteacdbgalloaiaaGreatH4
import Derived.Shelf.Small.Wraps
import Derived.Shelf.Strconv.Itoa3
import Derived.Shelf.Strconv.AppendIntPublic10
import Derived.Shelf.LaysM
import Derived.Shelf.LaysC
import Derived.Test.YteacdbgalloaiaaGreatProg
import Derived.Test.YteacdbgalloaiaaGreatH3
import Derived.Deep.LoopGhost
import Derived.Test.YteacdbgalloaiaaGreatH1
import Derived.Laws.BitsAllLaws
import Derived.WalkMore
import Derived.Laws.BytesArg
import Derived.Lib.AppendStr
import Derived.Laws.ResultCell
set_option linter.unusedVariables false
set_option maxRecDepth 100000
set_option maxHeartbeats 6400000
namespace Go.Proofs.YteacdbgalloaiaaGreat
open Go.RowKit
def BlkT (t:TypeId)(w:World)(g:Nat)(l:List Int):Prop:=w.heap[g]? =some (.cells (zvs l).toArray t (0,0))
section
variable {t:TypeId}{w:World}{g i:Nat}{l:List Int}
theorem BlkT.cell (h:BlkT t w g l)(hi:i<l.length):w.cell? ⟨g,i,none⟩=some (.int .i64 (iat l i)):=by
 unfold BlkT at h;simp [World.cell?,h,<-zvs_get hi]
theorem BlkT.free (h:BlkT t w g l)(i:Nat):w.frozen? ⟨g,i,none⟩=false:=by
 unfold BlkT at h;simp [World.frozen?,h]
theorem BlkT.set (h:BlkT t w g l)(i:Nat)(v:Int):BlkT t (w.setCell ⟨g,i,none⟩ (.int .i64 v)) g (l.set i v):=by
 unfold BlkT at*
 rw [heap_setCell_self _ _ _ _ _ _ h,zvs_set]
theorem BlkT.rdi (h:BlkT t w g l):Rdi w (some ⟨g,0,none⟩) l:=
 .inr ⟨g,0,rfl,fun i hi=>by rw [Nat.zero_add];exact h.cell hi⟩
end
def U64 (M:Nat):Prop:=M<18446744073709551616
def DofL (w:World)(g m:Nat)(k M:Nat)(wr:World):Prop:=∃A:List Int,A.length=3/\A.take k++digs M=digs m/\BlkT 106 wr g A/\Below w.heap.size w wr
theorem take_set (A:List Int)(k:Nat)(v:Int)(h:k<A.length):(A.set k v).take (k+1)=A.take k++ [v]:=by
 rw [List.take_succ_eq_append_getElem (by rw [List.length_set];exact h),List.take_set_of_le (Nat.le_refl _)];simp
theorem digitsOf_any (m:Nat)(hm:m<18446744073709551616)(w:World):
 Calls Tryz.prog 136 #[.int .u64 (m:Int)] w (NewI w fun z=>z=digs m):=by
 have h3:Hid ((digs m).length<=3):=hIq (digs_len_le (by
  have:pw 3=1000000000000000000000000000:=by decide
  omega))
 have hI:Hid (DofL w w.heap.size m 0 m (w.alloc (.cells #[.int .i64 0,.int .i64 0,.int .i64 0] 106))):=hIq ⟨[0,0,0],rfl,rfl,heap_alloc_new _ _,below_new _ _⟩;have hm':Hid (U64 m):=hIq hm;clear hm
 go_enter Tryz.func136,Tryz.ntmps136
 go_wp2_with fail
 generalize w.alloc (.cells #[.int .i64 0,.int .i64 0,.int .i64 0] 106)=w1 at hI ⊢;obtain⟨g,hg⟩:∃g,w.heap.size=g:=⟨_,rfl⟩;rw [hg] at hI ⊢;have hgg:Hid (w.heap.size<=g):=hIq (Nat.le_of_eq hg);clear hg
 go_loopw [0,4] (fun mv kv wr=>∃k M:Nat,kv= .int .i64 (k:Int)/\mv= .int .u64 (M:Int)/\U64 M/\Hid (k+(digs M).length=(digs m).length)/\DofL w g m k M wr) (fun mv _ _=>(intOf mv).toNat)
 case atStart=>exact⟨0,m,rfl,rfl,hm'.out,hIq (Nat.zero_add _),hI.out⟩
 case round=>
  obtain⟨k,M,rfl,rfl,hM,hkl,hL⟩:=hrel;clear hI;by_cases h0:M=0
  ·subst h0;obtain⟨A,hA,D,hB,hW⟩:=hL;rw [digs_zero,List.append_nil] at D;have hk3:k<=3:=by have h1:=hkl.out;have h2:=h3.out;omega
   have hc:Hid (Calls Tryz.prog 106 #[.slice (some ⟨g,0,none⟩) 3 3,.int .i64 (k:Int)] wr (NewN wr k fun z=>z=cpy A k)):=hIq (copied_at _ 3 3 A _ k wr rfl hB.rdi hA.symm (by omega));have hW':=hIq hW;have hfin:Hid (cpy A k=digs m):=hIq (by unfold cpy;rw [D,show k - A.length=0 by omega];simp);rw [show((0:Nat):Int)=0 from rfl];clear hB hW D hA hkl h3 hM;go_wp2_with (go_at_call 106;refine hc.out.mono ?_;rintro e w2 ⟨g2,z,rfl,hg2,hz0,hb2,hn0,rfl⟩;have hz:=hIq hz0;have hb:=hIq hb2;have hn:=hIq hn0;clear hz0 hb2 hn0)
   go_ret
   exact⟨g2,k,_,rfl,Nat.le_trans hW'.out.size hg2,hz.out,below_tr hW'.out hb.out,hn.out,hfin.out⟩
  ·obtain⟨A,hA,D,hB,hW⟩:=hL;have hdp:=digs_pos h0;have hk3:k<3:=by have h1:=hkl.out;have h2:=h3.out;rw [hdp,List.length_cons] at h1;omega
   have cx:=hB.cell (i:=k) (by omega);have cf:=hB.free k;have hst:Hid (DofL w g m (k+1) (M / 1000000000) (wr.setCell ⟨g,k,none⟩ (.int .i64 ((M % 1000000000:Nat):Int)))):=hIq ⟨_,by rw [List.length_set];exact hA,by rw [take_set _ _ _ (by omega),List.append_assoc,<-D,hdp];rfl,hB.set _ _,hW.setCell hgg.out _⟩;have hkl2:Hid (k+1+(digs (M / 1000000000)).length=(digs m).length):=hIq (by have:=hkl.out;rw [hdp,List.length_cons] at this;omega);have e1:((M % 1000000000:Nat):Int)=(M:Int) % 1000000000:=by omega
   have e2:((M / 1000000000:Nat):Int)=(M:Int) / 1000000000:=by omega
   rw [e1] at hst;have e2':=hIq e2;have m0:(0:Int)<(M:Int):=by omega
   have hM2:Hid (U64 (M / 1000000000)):=hIq (by unfold U64 at*;omega);have hw:IntKind.u64.wrap ((M:Int) / 1000000000)=(M:Int) / 1000000000:=by unfold U64 at hM;simp [IntKind.wrap,IntKind.bits,IntKind.signed];omega
   have k0:0<=(k:Int):=by omega
   have k1:(k:Int)<3:=by omega
   have hlt:=hIq (show M / 1000000000<M from Nat.div_lt_self (by omega) (by omega));generalize iat A k=v at cx;clear hA D hB hW hdp e1 e2 h0 hM;go_wp2_with fail
   exact⟨⟨k+1,M / 1000000000,by simp,by rw [e2'.out],hM2.out,hkl2.out,hst.out⟩,by have:=hlt.out;simp only [intOf];omega⟩
def Ar0 (w:World)(W:World):Prop:=(∃u v,W.heap[w.heap.size]? =some (.cells #[u,v] 28 (0,0)))/\Below w.heap.size w W
section
variable {w W w':World}
theorem Ar0.facts (h:Ar0 w W):W.cell? ⟨w.heap.size,0,none⟩=some (oldv W w.heap.size 0)/\W.cell? ⟨w.heap.size,1,none⟩=some (oldv W w.heap.size 1)/\W.frozen? ⟨w.heap.size,0,none⟩=false/\W.frozen? ⟨w.heap.size,1,none⟩=false:=by
 obtain⟨⟨u,v,h3⟩,_⟩:=h;refine⟨by simp [oldv,World.cell?,h3],by simp [oldv,World.cell?,h3],by simp [World.frozen?,h3],by simp [World.frozen?,h3]⟩
theorem Ar0.later (h:Ar0 w W)(hb:Below W.heap.size W w'):Ar0 w w':=by
 obtain⟨⟨u,v,h3⟩,h6⟩:=h;exact⟨⟨u,v,(hb.block _ (lt_blk h3)).trans h3⟩,below_tr h6 hb⟩
theorem Ar0.start (w:World):Ar0 w (w.alloc (.cells #[.bool false,.slice none 0 0] 28)):=⟨⟨_,_,heap_alloc_new _ _⟩,below_new _ _⟩
theorem Ar0.res (h:Ar0 w W)(p q:Value):((W.setCell ⟨w.heap.size,0,none⟩ p).setCell ⟨w.heap.size,1,none⟩ q).heap[w.heap.size]? =some (.cells #[p,q] 28 (0,0)):=by
 obtain⟨⟨u,v,h3⟩,h6⟩:=h;rw [heap_setCell_self _ _ _ _ _ _ (heap_setCell_self _ _ _ _ _ _ h3)];rfl
theorem Ar0.store (h:Ar0 w W)(p q:Value):Ar0 w ((W.setCell ⟨w.heap.size,0,none⟩ p).setCell ⟨w.heap.size,1,none⟩ q):=
 ⟨⟨p,q,h.res p q⟩,(h.2.setCell (Nat.le_refl _) _).setCell (Nat.le_refl _) _⟩
theorem Ar0.top (h:Ar0 w W):w.heap.size<W.heap.size:=by
 obtain⟨u,v,h3⟩:=h.1;exact lt_blk h3
theorem Ar0.ret {fr:Addr->Prop}{nb:Bool}{p:Option Addr}{n c:Nat}{z z':Int}(h:Ar0 w W)(hI:IntAt W nb p n c z)(hp:∀q,p=some q->q.block≠w.heap.size/\fr q)(hz:z=z'):
 RetF fr w z' (.returned (.agg #[.bool nb,.slice p n c])) ((W.setCell ⟨w.heap.size,0,none⟩ (.bool nb)).setCell ⟨w.heap.size,1,none⟩ (.slice p n c)):=by
 subst hz;have hne:∀q,p=some q->q.block≠w.heap.size:=fun q hq=>(hp q hq).1
 exact⟨_,_,_,_,rfl,(hI.store hne).store hne,(h.store _ _).2,fun q hq=>(hp q hq).2⟩
end
theorem digitsOf_at (v:Int)(m:Nat)(hv:v=(m:Int))(hm:m<18446744073709551616)(w:World):
 Calls Tryz.prog 136 #[.int .u64 v] w (NewI w fun z=>z=digs m):=by subst hv;exact digitsOf_any m hm w
theorem Of_any (n:Int)(h1: -9223372036854775808<=n)(h2:n<=9223372036854775807)(w:World):
 Calls Tryz.prog 104 #[.int .i64 n] w (RetI w n):=by
 have hu:Hid (∀v W,v=(n.natAbs:Int)->Calls Tryz.prog 136 #[.int .u64 v] W (NewI W fun z=>z=digs n.natAbs)):=hIq fun v W hv=>digitsOf_at v _ hv (by omega) W
 have hS0:=hIq (Ar0.start w)
 have hsg:Hid (Dg (digs n.natAbs)/\sg (decide (n<0)) (val (digs n.natAbs))=n):=hIq ⟨Dg_digs _,by
  rw [val_digs];by_cases h:n<0
  ·rw [dT h];show -(n.natAbs:Int)=n;omega
  ·rw [dF h];show(n.natAbs:Int)=n;omega⟩
 have hlen:Hid ((digs n.natAbs).length<=3):=hIq (digs_len_le (by
  have:pw 3=1000000000000000000000000000:=by decide
  omega))
 obtain⟨D,hD⟩:∃D,digs n.natAbs=D:=⟨_,rfl⟩;rw [hD] at hu hsg hlen;clear hD;by_cases h0:n<0
 ·have e1:IntKind.u64.wrap n=n+18446744073709551616:=by simp [IntKind.wrap,IntKind.bits,IntKind.signed];omega
  have hd:decide (n<0)=true:=dT h0
  go_enter Tryz.func104,Tryz.ntmps104
  go_wp2_with fail
  generalize w.alloc (.cells #[.bool false,.slice none 0 0] 28)=W0 at hS0 ⊢;have hS1:=hS0.out;clear hS0;refine(hu.out _ _ (by simp [IntKind.wrap,IntKind.bits,IntKind.signed];omega)).mono ?_
  rintro e w1 ⟨g,n1,z,rfl,hg,hz0,hb1,hn0,rfl⟩
  have hz:=hIq hz0;have hn:=hIq hn0;have hS2:=hS1.later hb1;have hgt:w.heap.size<g:=Nat.lt_of_lt_of_le hS1.top hg;have hnl:n1<=3:=by have:=hlen.out;omega
  clear hz0 hn0 hb1;go_wp2_with fail
  refine(made_any true _ n1 n1 z _ hz.out.rdi hn.out.symm (Nat.le_refl _) (by omega) hsg.out.1).mono ?_
  rintro e w2 ⟨nb,p,n2,c2,rfl,hI0,hb2,hp0⟩
  have hI:=hIq hI0;have hS3:=hS2.later hb2;have hf3:=hS3.facts
  have hfin:Hid (RetI w n (.returned (.agg #[.bool nb,.slice p n2 c2])) ((w2.setCell ⟨w.heap.size,0,none⟩ (.bool nb)).setCell ⟨w.heap.size,1,none⟩ (.slice p n2 c2))):=hIq (hS3.ret hI.out (fun q hq=>by
   have:=hp0 q hq;cases this
   exact⟨by simp;omega,by simp;omega⟩) (by have:=hsg.out.2;rw [hd] at this;exact this))
  clear hI0 hb2 hp0;go_wp2_with fail
  exact bodyPost_ret (v:= .agg #[.bool nb,.slice p n2 c2]) (results_cell_row rfl _ _ w.heap.size 28 _ (0,0) _ rfl (hS3.res _ _) Tryz.underlying28 rfl size_Int) rfl hfin.out
 ·have hd:decide (n<0)=false:=dF h0
  go_enter Tryz.func104,Tryz.ntmps104
  go_wp2_with fail
  generalize w.alloc (.cells #[.bool false,.slice none 0 0] 28)=W0 at hS0 ⊢;have hS1:=hS0.out;clear hS0;refine(hu.out _ _ (by omega)).mono ?_
  rintro e w1 ⟨g,n1,z,rfl,hg,hz0,hb1,hn0,rfl⟩
  have hz:=hIq hz0;have hn:=hIq hn0;have hS2:=hS1.later hb1;have hgt:w.heap.size<g:=Nat.lt_of_lt_of_le hS1.top hg;have hnl:n1<=3:=by have:=hlen.out;omega
  clear hz0 hn0 hb1;go_wp2_with fail
  refine(made_any false _ n1 n1 z _ hz.out.rdi hn.out.symm (Nat.le_refl _) (by omega) hsg.out.1).mono ?_
  rintro e w2 ⟨nb,p,n2,c2,rfl,hI0,hb2,hp0⟩
  have hI:=hIq hI0;have hS3:=hS2.later hb2;have hf3:=hS3.facts
  have hfin:Hid (RetI w n (.returned (.agg #[.bool nb,.slice p n2 c2])) ((w2.setCell ⟨w.heap.size,0,none⟩ (.bool nb)).setCell ⟨w.heap.size,1,none⟩ (.slice p n2 c2))):=hIq (hS3.ret hI.out (fun q hq=>by
   have:=hp0 q hq;cases this
   exact⟨by simp;omega,by simp;omega⟩) (by have:=hsg.out.2;rw [hd] at this;exact this))
  clear hI0 hb2 hp0;go_wp2_with fail
  exact bodyPost_ret (v:= .agg #[.bool nb,.slice p n2 c2]) (results_cell_row rfl _ _ w.heap.size 28 _ (0,0) _ rfl (hS3.res _ _) Tryz.underlying28 rfl size_Int) rfl hfin.out
end Go.Proofs.YteacdbgalloaiaaGreat
namespace Go.Proofs
end Go.Proofs
namespace Go.Proofs.YteacdbgalloaiaaGreat
open Go.RowKit

def lows:Nat->Nat->List UInt8
 |0,_=>[]
 |j+1,m=>lows j (m / 256)++ [UInt8.ofNat (m % 256)]
def nd (m:Nat):Nat:=
 if m<1 then 0 else if m<256 then 1 else if m<65536 then 2 else if m<16777216 then 3 else if m<4294967296 then 4
 else if m<1099511627776 then 5 else if m<281474976710656 then 6 else if m<72057594037927936 then 7 else 8
def fx (g:Bool)(d:UInt8):UInt8:=if g then 255 - d else d
def neg (n:Int):Bool:=decide (n<0)
def mgn (n:Int):Nat:=if n<0 then(-1 - n).toNat else n.toNat
def D (g:Bool)(k:Nat):UInt8:=UInt8.ofNat (if g then 127 - k else 128+k)
def enc (n:Int):List UInt8:=D (neg n) (nd (mgn n))::(lows (nd (mgn n)) (mgn n)).map (fx (neg n))

theorem digit_any (a:Option Addr)(n c:Nat)(l:List Int)(i:Nat)(w:World)(hR0:Rdi w a l)(hn0:n=l.length):
 Calls Tryz.prog 148 #[.slice a n c,.int .i64 (i:Int)] w fun e w'=>e= .returned (.int .i64 (iat l i))/\w=w':=by
 have hn:=hIq hn0;by_cases h:i<n
 ·obtain⟨b,o,rfl,hc⟩:=Rdi_at hR0 i (by omega);have h1:(i:Int)<(n:Int):=by omega
  have h2:0<=(i:Int):=by omega
  generalize iat l i=x at hc ⊢;clear hR0 hn0
  go_enter Tryz.func148,Tryz.ntmps148
  go_wp2_with fail
  go_ret
  exact⟨rfl,rfl⟩
 ·have h1:¬(i:Int)<(n:Int):=by omega
  have h2:Hid (iat l i=0):=hIq (iat_ge (by omega));clear hR0 hn0
  go_enter Tryz.func148,Tryz.ntmps148
  go_wp2_with fail
  go_ret
  exact⟨by rw [h2.out];rfl,rfl⟩
theorem normal_any (neg:Bool)(a:Option Addr)(m c:Nat)(l:List Int)(w:World)(hR0:Rdi w a l)(hm0:m=l.length)(hmc:m<=c)(hm:c<=9223372036854775807)(hd0:Dg l):
 Calls Tryz.prog 122 #[.bool neg,.slice a m c] w (RetF (fun q=>a=some q) w (sg neg (val l))):=by
 have hR:=hIq hR0;have hml:=hIq hm0;have D:=hIq hd0;have hb0:=hIq (below_new w (.cells #[.bool false,.slice none 0 0] 28));clear hR0 hm0 hd0
 go_enter Tryz.func122,Tryz.ntmps122
 go_wp2_with fail
 go_loopw [5] (fun n wr=>∃k:Nat,k<=m/\n= .int .i64 (k:Int)/\Hid (∀i,k<=i->i<l.length->iat l i=0)/\wr=w.alloc (.cells #[.bool false,.slice none 0 0] 28)) (fun n _=>(intOf n).toNat)
 case atStart=>exact⟨m,Nat.le_refl _,rfl,hIq (fun i h1 h2=>by have:=hml.out;omega),rfl⟩
 case round=>
  obtain⟨k,hk,rfl,hz,rfl⟩:=hrel;by_cases h0:k=0
  ·subst h0;have ht:Hid (tlen l=0):=hIq (tlen_of l 0 (Nat.zero_le _) hz.out (.inl rfl));have hv:Hid (sg neg (val l)=0):=hIq (by rw [tlen_zero D.out ht.out];unfold sg;cases neg<;>rfl);rw [show((0:Nat):Int)=0 from rfl];go_wp2_with fail
   exact bodyPost_ret (v:= .agg #[.bool false,.slice none 0 0]) (by simp [results,Tryz.results122,go_sem]) rfl ⟨_,_,_,_,rfl,by rw [hv.out];exact IntAt_zero _ _ _ (by omega),below_new _ _,fun q hq=>by cases hq⟩
  ·obtain⟨q,rfl⟩:∃q,k=q+1:=⟨k - 1,by omega⟩;obtain⟨b,off,rfl,hc0⟩:=Rdi_at hR.out q (by rw [<-hml.out];omega);have hc:=Below.cell_of' hb0.out hc0;obtain⟨x,hx⟩:∃x,iat l q=x:=⟨_,rfl⟩;rw [hx] at hc;have hx':=hIq hx;clear hx h0 hc0;have e1:(((q+1:Nat):Int))=(q:Int)+1:=by omega
   have e2:(q:Int)+1 - 1=(q:Int):=by omega
   have h1:(0:Int)<(q:Int)+1:=by omega
   have e3:0<=(q:Int):=by omega
   rw [e1];by_cases hx0:x=0
   ·subst hx0
    have hz2:Hid (∀i,q<=i->i<l.length->iat l i=0):=hIq (fun i h1 h2=>by
     rcases Nat.lt_or_ge q i with h|h
     ·exact hz.out i (by omega) h2
     ·rw [show i=q by omega];exact hx'.out)
    go_wp2_with fail
    refine⟨⟨q,by omega,rfl,hz2,trivial⟩,by simp [intOf]⟩
   ·have hxb:(x==0)=false:=by simpa using hx0
    have ht:Hid (tlen l=q+1):=hIq (tlen_of l (q+1) (by rw [<-hml.out];exact hk) hz.out (.inr (by rw [Nat.add_sub_cancel,hx'.out];exact hx0)));have hI:Hid (∀W,Below w.heap.size w W->IntAt W neg (some ⟨b,off,none⟩) (q+1) c (sg neg (val l))):=hIq (fun W hb=>by rw [<-ht.out];exact made_is (Rdi_below hb hR.out) D.out (by rw [ht.out];omega) (by rw [<-hml.out];exact hmc) hm);have hqb:(((q:Int)+1)==0)=false:=by simp;omega
    clear hx0;go_wp2_with fail
    exact bodyPost_ret (v:= .agg #[.bool neg,.slice (some ⟨b,off,none⟩) (q+1) c]) (by simp [results,Tryz.results122,go_sem]) rfl ⟨_,_,_,_,rfl,hI.out _ (below_new _ _),below_new _ _,fun q hq=>hq⟩
def arn (n most:Int):Int:=(if n<0 then -(n+1)else n) % most
theorem arn_lo (n most:Int)(h:0<most):0<=arn n most:=Int.emod_nonneg _ (by omega)
theorem arn_hi (n most:Int)(h:0<most):arn n most<most:=Int.emod_lt_of_pos _ h
theorem around_any (n most:Int)(h1: -9223372036854775808<=n)(h2:n<=9223372036854775807)(h3:0<most)(h4:most<=9223372036854775807)(w:World):
 Calls Tryz.prog 13 #[.int .i64 n,.int .i64 most] w fun e w'=>e= .returned (.int .i64 (arn n most))/\w=w':=by
 have m0:(most==0)=false:=by simp;omega
 by_cases h:n<0
 ·have hr:Hid (arn n most=(-(n+1)) % most):=hIq (by unfold arn;rw [if_pos h]);have e1:0<= -(n+1):=by omega
  have e2: -(n+1)<=9223372036854775807:=by omega
  have hlo:=arn_lo n most h3;have hhi:=arn_hi n most h3;rw [hr.out] at hlo hhi ⊢
  go_enter Tryz.func13,Tryz.ntmps13
  have e3:=hIq (show -(n+1).tmod most= -(n+1) % most by rw [<-Int.neg_tmod,Int.tmod_eq_emod_of_nonneg e1]);go_wp2_with fail
  go_ret
  exact⟨by rw [<-e3.out];rfl,rfl⟩
 ·have hr:Hid (arn n most=n % most):=hIq (by unfold arn;rw [if_neg h]);have e1:0<=n:=by omega
  have hlo:=arn_lo n most h3;have hhi:=arn_hi n most h3;rw [hr.out] at hlo hhi ⊢
  go_enter Tryz.func13,Tryz.ntmps13
  go_wp2_with fail
  go_ret
  exact⟨rfl,rfl⟩
def i64s (l:List Int):Prop:=∀i,i<l.length-> -9223372036854775808<=iat l i/\iat l i<=9223372036854775807
def atv (l:List Int)(i:Int)(most:Int):Int:=if i<0∨(l.length:Int)<=i then 0 else arn (iat l i.toNat) most
theorem atv_lo (l:List Int)(i most:Int)(h:0<most):0<=atv l i most:=by unfold atv;split;omega;exact arn_lo _ _ h
theorem atv_hi (l:List Int)(i most:Int)(h:0<most):atv l i most<most:=by unfold atv;split;omega;exact arn_hi _ _ h
theorem at_any (a:Option Addr)(n c:Nat)(l:List Int)(i:Nat)(most:Int)(w:World)(hR0:Rdi w a l)(hn0:n=l.length)(hi64:i64s l)(hi:i<=9223372036854775807)(h3:0<most)(h4:most<=9223372036854775807):
 Calls Tryz.prog 38 #[.slice a n c,.int .i64 (i:Int),.int .i64 most] w fun e w'=>e= .returned (.int .i64 (atv l i most))/\w=w':=by
 by_cases h:i<n
 ·have hr:Hid (atv l i most=arn (iat l i) most):=hIq (by unfold atv;rw [if_neg (by omega)];rfl);obtain⟨b,o,rfl,hc⟩:=Rdi_at hR0 i (by omega);have hb:=hi64 i (by omega);have har:Hid (Calls Tryz.prog 13 #[.int .i64 (iat l i),.int .i64 most] w fun e w'=>e= .returned (.int .i64 (arn (iat l i) most))/\w=w'):=hIq (around_any _ _ hb.1 hb.2 h3 h4 w);rw [hr.out];have t1:¬(i:Int)<0:=by omega
  have t2:(i:Int)<(n:Int):=by omega
  generalize arn (iat l i) most=r at har ⊢;generalize iat l i=x at hc har;clear hR0 hn0 hi64 hb
  go_enter Tryz.func38,Tryz.ntmps38
  go_wp2_with (go_at_call 13;refine har.out.mono ?_;rintro e w' ⟨rfl,rfl⟩)
  go_ret
  exact⟨rfl,rfl⟩
 ·have hr:Hid (atv l i most=0):=hIq (by unfold atv;rw [if_pos (by omega)]);rw [hr.out];have t1:¬(i:Int)<0:=by omega
  have t2:(n:Int)<=(i:Int):=by omega
  clear hR0 hn0 hi64
  go_enter Tryz.func38,Tryz.ntmps38
  go_wp2_with fail
  go_ret
  exact⟨rfl,rfl⟩
theorem same_dec {x y:Int}:(decide (x<0)=decide (y<0)/\digs x.natAbs=digs y.natAbs)↔x=y:=by
 constructor
 ·rintro⟨h1,h2⟩
  have h3:=digs_inj h2;rw [decide_eq_decide] at h1;omega
 ·rintro rfl;exact⟨rfl,rfl⟩
theorem list_ext {l m:List Int}(h:l.length=m.length)(h2:∀i,i<l.length->iat l i=iat m i):l=m:=by
 apply List.ext_getElem h;intro i h3 h4;have:=h2 i h3
 simpa [iat,h3,h4] using this
def SamL (w:World)(px:Option Addr)(cx:Nat)(py:Option Addr)(cy n:Nat)(wr:World):Prop:=
 wr.cell? ⟨w.heap.size,1,none⟩=some (.slice px n cx)/\wr.cell? ⟨w.heap.size+1,1,none⟩=some (.slice py n cy)/\Below w.heap.size w wr
theorem SamL.drewN {w:World}{px:Option Addr}{cx:Nat}{py:Option Addr}{cy n:Nat}{wr:World}(h:SamL w px cx py cy n wr)(q:Nat):SamL w px cx py cy n (wr.drewN q):=⟨h.1,h.2.1,below_drewN h.2.2 q⟩
theorem Same_any (nx ny:Bool)(px py:Option Addr)(lx cx ly cy:Nat)(x y:Int)(w:World)(hx0:IntAt w nx px lx cx x)(hy0:IntAt w ny py ly cy y)(hlx:lx<=549755813887)(hly:ly<=549755813887):
 Calls Tryz.prog 56 #[.agg #[.bool nx,.slice px lx cx],.agg #[.bool ny,.slice py ly cy]] w fun e w'=>e= .returned (.bool (decide (x=y)))/\Below w.heap.size w w':=by
 have hb:Below w.heap.size w ((w.alloc (.cells #[.bool nx,.slice px lx cx] 28)).alloc (.cells #[.bool ny,.slice py ly cy] 28)):=((Below.refl _ _).alloc (Nat.le_refl _) _).alloc (by simp) _;have hb':=hIq hb;have hdec:=@same_dec x y;obtain⟨hnx,N1,H1,_⟩:=hx0;obtain⟨hny,N2,H2,_⟩:=hy0;rw [<-hnx,<-hny] at hdec;obtain⟨r,hr⟩:∃r,decide (x=y)=r:=⟨_,rfl⟩;have hT:Hid (nx=ny->digs x.natAbs=digs y.natAbs->r=true):=hIq fun h1 h2=>by rw [<-hr];exact dT (hdec.1 ⟨h1,h2⟩)
 have hF:Hid (¬(nx=ny/\digs x.natAbs=digs y.natAbs)->r=false):=hIq fun h=>by rw [<-hr];exact dF fun h2=>h (hdec.2 h2)
 rw [hr];generalize digs x.natAbs=l at N1 H1 hT hF;generalize digs y.natAbs=m at N2 H2 hT hF;clear hr hdec hnx hny hb;have N1':=hIq N1;have N2':=hIq N2;have H1':=hIq H1;have H2':=hIq H2;clear N1 N2 H1 H2;by_cases hn:nx=ny
 ·subst hn;have t1:(nx !=nx)=false:=by simp
  by_cases hl:lx=ly
  ·subst hl;have t2:((lx:Int) !=(lx:Int))=false:=by simp
   have hS0:Hid ((((w.alloc (.cells #[.bool nx,.slice px lx cx] 28)).alloc (.cells #[.bool nx,.slice py lx cy] 28)).cell? ⟨w.heap.size,1,none⟩=some (.slice px lx cx))/\(((w.alloc (.cells #[.bool nx,.slice px lx cx] 28)).alloc (.cells #[.bool nx,.slice py lx cy] 28)).cell? ⟨w.heap.size+1,1,none⟩=some (.slice py lx cy))):=hIq (by
    constructor
    ·simp [World.cell?,show((w.alloc (.cells #[.bool nx,.slice px lx cx] 28)).alloc (.cells #[.bool nx,.slice py lx cy] 28)).heap[w.heap.size]? =some (.cells #[.bool nx,.slice px lx cx] 28 (0,0)) by rw [Below.heap_alloc _ _ _ (by simp)];exact heap_alloc_new _ _]
    ·have h:=heap_alloc2_new w (.cells #[.bool nx,.slice px lx cx] 28) (.cells #[.bool nx,.slice py lx cy] 28);unfold World.cell?;rw [h]
     rfl)
   go_enter Tryz.func56,Tryz.ntmps56
   go_wp2_with fail
   generalize(w.alloc (.cells #[.bool nx,.slice px lx cx] 28)).alloc (.cells #[.bool nx,.slice py lx cy] 28)=W1 at hS0 hb' ⊢
   go_loopw [5] (fun i wr=>∃(k:Nat),k<=lx/\i= .int .i64 (k:Int)/\Hid (∀j,j<k->iat l j=iat m j)/\SamL w px cx py cy lx wr) (fun i _=>lx - (intOf i).toNat)
   case atStart=>exact⟨0,Nat.zero_le _,rfl,hIq (fun j hj=>by omega),hS0.out.1,hS0.out.2,hb'.out⟩
   case round=>
    obtain⟨k,hk,rfl,hall,hw⟩:=hrel;have s1:=hw.1;have s2:=hw.2.1;have hB:=hIq hw.2.2;have hw':=hIq hw;clear hw;by_cases hlt:k<lx
    ·obtain⟨b1,o1,hpx,hc1⟩:=Rdi_at H1'.out k (by rw [<-N1'.out];exact hlt);obtain⟨b2,o2,hpy,hc2⟩:=Rdi_at H2'.out k (by rw [<-N2'.out];exact hlt);have C1:=Below.cell_of' hB.out hc1;have C2:=Below.cell_of' hB.out hc2;obtain⟨X,hX⟩:∃X,iat l k=X:=⟨_,rfl⟩;obtain⟨Y,hY⟩:∃Y,iat m k=Y:=⟨_,rfl⟩;rw [hX] at C1;rw [hY] at C2;have hX':=hIq hX;have hY':=hIq hY;have k0:0<=(k:Int):=by omega
     have k1:(k:Int)<(lx:Int):=by omega
     have k2:((k:Int)).toNat=k:=by omega
     clear hc1 hc2 hX hY;subst hpx hpy;by_cases hXY:X=Y
     ·subst hXY;have hne:(X !=X)=false:=by simp
      have hall2:Hid (∀j,j<k+1->iat l j=iat m j):=hIq fun j hj=>by
       rcases Nat.lt_or_ge j k with h|h
       ·exact hall.out j h
       ·rw [show j=k by omega,hX'.out,hY'.out]
      go_wp2_with fail
      go_quiet (fail)
      go_wp2_with fail
      exact⟨⟨k+1,by omega,by simp,hall2,hw'.out.drewN nq⟩,by simp [intOf];omega⟩
     ·have hne:(X !=Y)=true:=by simpa using hXY
      have hr0:Hid (r=false):=hIq (hF.out (fun h=>hXY (by rw [<-hX'.out,<-hY'.out,h.2])));clear hXY;go_wp2_with fail
      go_quiet (fail)
      go_wp2_with fail
      go_ret
      exact⟨by rw [hr0.out];rfl,below_drewN hB.out _⟩
    ·have hk':k=lx:=by omega
     subst hk';have hr1:Hid (r=true):=hIq (hT.out (by first|trivial|rfl) (list_ext (by rw [<-N1'.out,<-N2'.out]) (fun i hi=>hall.out i (by rw [N1'.out];exact hi))));go_wp2_with fail
     go_ret
     exact⟨by rw [hr1.out];rfl,hB.out⟩
  ·have t2:((lx:Int) !=(ly:Int))=true:=by simp;omega
   have hr0:Hid (r=false):=hIq (hF.out (fun h=>hl (by rw [N1'.out,N2'.out,h.2])))
   go_enter Tryz.func56,Tryz.ntmps56
   go_wp2_with fail
   go_ret
   exact⟨by rw [hr0.out];rfl,hb'.out⟩
 ·have hr0:Hid (r=false):=hIq (hF.out (fun h=>hn h.1));obtain rfl:ny= !nx:=by cases nx<;>cases ny<;>first|rfl|exact absurd rfl hn
  have hnn:(nx== !nx)=false:=by cases nx<;>rfl
  clear hn
  go_enter Tryz.func56,Tryz.ntmps56
  go_wp2_with fail
  go_ret
  exact⟨by rw [hr0.out];rfl,hb'.out⟩


theorem results_cell1 {P:Program}{fn:Func}{p q:Tmp}{ty:TypeId}(h:fn.results=#[.cell p ty,.tmp q])(tmps:Array Value)(w:World)(g:Nat)(t:TypeId)(cs:Array Value)(fr:Nat×Nat)(d:TypeDesc)(v:Value)
 (hp:tmps.getD p undef= .pointer (some ⟨g,0,none⟩)) (hv:tmps.getD q undef=v) (hg:w.heap[g]? =some (.cells cs t fr))
 (hu:P.underlying ty=some d) (D:(match d with| .struct _| .array _ _=>true|_=>false)=true) (hi:(P.info? ty).map (·.size)=some cs.size):
 (results fn tmps).run P w= .ok (.tuple #[.agg cs,v]) w:=by
 rw [results_cell_tmp h,hp,hv];simp [asAddr,run_loadVar_row w g t ty cs fr d hg hu D hi,Result.andThen]
theorem wpList_append_run {P:Program}{w:World}{ops:Array Oper}{rest:List Oper}{o:Oper}{a:Act}{Q:Exit->Act->World->Prop}(hgd:o.guard=none)(s x:Operand)(t u:TypeId)
 (ho:o.op= .call {callee:= .builtin .append,args:=#[s,x],argTypes:=#[t,u]}) (vs vx:Value) (hs:a.eval s=vs) (hx:a.eval x=vx) (v':Value) (w':World) (hrun:(Builtin.append_ #[t,u] o.type #[vs,vx]).run P w= .ok v' w') (h:wpList P ops Q rest (a.put o.dst v') w'):wpList P ops Q (o::rest) a w:=by
 refine wpList_plain hgd fun K hK=>?_
 unfold Oper.wp execOp;simp only [ho,resolve,invoke,builtin,Sem.run_bind,Sem.run_pure,Result.andThen_ok,List.map_toArray,List.map_cons,List.map_nil,hs,hx,hrun];exact hK _ _ h

theorem cmp_abs_neg {x y:Int}(hx:x<0)(hy:y<0):cmpI y.natAbs x.natAbs=cmpI x y:=by
 unfold cmpI;rw [show(y.natAbs:Int)= -y by omega,show(x.natAbs:Int)= -x by omega];repeat (first|split|omega)
theorem cmp_abs_pos {x y:Int}(hx:¬x<0)(hy:¬y<0):cmpI x.natAbs y.natAbs=cmpI x y:=by
 rw [show(x.natAbs:Int)=x by omega,show(y.natAbs:Int)=y by omega]
theorem Compare_any (nx ny:Bool)(px py:Option Addr)(lx cx ly cy:Nat)(x y:Int)(w:World)(hx0:IntAt w nx px lx cx x)(hy0:IntAt w ny py ly cy y)(hlx:lx<=549755813887)(hly:ly<=549755813887):
 Calls Tryz.prog 72 #[.agg #[.bool nx,.slice px lx cx],.agg #[.bool ny,.slice py ly cy]] w fun e w'=>e= .returned (.int .i64 (cmpI x y))/\Below w.heap.size w w':=by
 have hb:Below w.heap.size w ((w.alloc (.cells #[.bool nx,.slice px lx cx] 28)).alloc (.cells #[.bool ny,.slice py ly cy] 28)):=((Below.refl _ _).alloc (Nat.le_refl _) _).alloc (by simp) _;have hb':=hIq hb
 have h1:Hid (∀W,Below w.heap.size w W->Calls Tryz.prog 112 #[.slice px lx cx,.slice py ly cy] W fun e w'=>e= .returned (.int .i64 (cmpI x.natAbs y.natAbs))/\Below W.heap.size W w'):=
  hIq fun W h=>compare_any _ _ _ _ _ _ _ _ W (Rdi_below h hx0.2.2.1) (Rdi_below h hy0.2.2.1) hx0.2.1 hy0.2.1 (by omega) (by omega)
 have h2:Hid (∀W,Below w.heap.size w W->Calls Tryz.prog 112 #[.slice py ly cy,.slice px lx cx] W fun e w'=>e= .returned (.int .i64 (cmpI y.natAbs x.natAbs))/\Below W.heap.size W w'):=
  hIq fun W h=>compare_any _ _ _ _ _ _ _ _ W (Rdi_below h hy0.2.2.1) (Rdi_below h hx0.2.2.1) hy0.2.1 hx0.2.1 (by omega) (by omega)
 have hnx:=hx0.1;have hny:=hy0.1;obtain⟨r,hr⟩:∃r,cmpI x y=r:=⟨_,rfl⟩;rw [hr];clear hx0 hy0 hb;cases nx<;>cases ny
 ·have e1:¬x<0:=by simpa using hnx.symm
  have e2:¬y<0:=by simpa using hny.symm
  rw [cmp_abs_pos e1 e2,hr] at h1;clear hnx hny hr h2
  go_enter Tryz.func72,Tryz.ntmps72
  go_wp2_with (go_at_call 112;refine(h1.out _ hb'.out).mono ?_;rintro e w1 ⟨rfl,hb1⟩;have hB:=hIq (below_tr hb'.out hb1);clear hb1)
  go_ret
  exact⟨rfl,hB.out⟩
 ·have e1:¬x<0:=by simpa using hnx.symm
  have e2:y<0:=by simpa using hny.symm
  rw [cmp_gt (show y<x by omega)] at hr;subst hr;clear hnx hny h1 h2 e1 e2
  go_enter Tryz.func72,Tryz.ntmps72
  go_wp2_with fail
  go_ret
  exact⟨rfl,hb'.out⟩
 ·have e1:x<0:=by simpa using hnx.symm
  have e2:¬y<0:=by simpa using hny.symm
  rw [cmp_lt (show x<y by omega)] at hr;subst hr;clear hnx hny h1 h2 e1 e2
  go_enter Tryz.func72,Tryz.ntmps72
  go_wp2_with fail
  go_ret
  exact⟨rfl,hb'.out⟩
 ·have e1:x<0:=by simpa using hnx.symm
  have e2:y<0:=by simpa using hny.symm
  rw [cmp_abs_neg e1 e2,hr] at h2;clear hnx hny hr h1
  go_enter Tryz.func72,Tryz.ntmps72
  go_wp2_with (go_at_call 112;refine(h2.out _ hb'.out).mono ?_;rintro e w1 ⟨rfl,hb1⟩;have hB:=hIq (below_tr hb'.out hb1);clear hb1)
  go_ret
  exact⟨rfl,hB.out⟩
theorem Sign_any (nx:Bool)(px:Option Addr)(lx cx:Nat)(x:Int)(w:World)(hx0:IntAt w nx px lx cx x)(hlx:lx<=549755813887):
 Calls Tryz.prog 66 #[.agg #[.bool nx,.slice px lx cx]] w fun e w'=>e= .returned (.int .i64 (cmpI x 0))/\Below w.heap.size w w':=by
 have hc:Hid (∀W,Below w.heap.size w W->Calls Tryz.prog 72 #[.agg #[.bool nx,.slice px lx cx],.agg #[.bool false,.slice none 0 0]] W fun e w'=>e= .returned (.int .i64 (cmpI x 0))/\Below W.heap.size W w'):=
  hIq fun W h=>Compare_any _ _ _ _ _ _ _ _ x 0 W (hx0.later h) (IntAt_zero _ _ _ (by omega)) hlx (by omega)
 obtain⟨r,hr⟩:∃r,cmpI x 0=r:=⟨_,rfl⟩;rw [hr] at hc ⊢;clear hx0 hr
 go_enter Tryz.func66,Tryz.ntmps66
 go_wp2_with (go_at_call 72;refine(hc.out _ (below_new _ _)).mono ?_;rintro e w1 ⟨rfl,hb1⟩;have hB:=hIq (below_tr (below_new _ _) hb1);clear hb1)
 go_ret
 exact⟨rfl,hB.out⟩
theorem rt_len' {r:List Int}(D:Dg r):(digs (val r).natAbs).length<=r.length:=by
 have h:=tlen_len D;have h1:=D.lo;rw [show(val r).natAbs=(val r).toNat by omega,h];exact tlen_le r
def GrowI (w:World)(v:Value)(l:List Int)(wr:World):Prop:=wr.ownsRow w.heap.size 3 1 v l.length (zvs l)/\Below w.heap.size w wr
theorem GrowI.push {w wr w':World}{v v':Value}{l:List Int}{x:Int}{o:Obj}(h:GrowI w v l wr)(ho:w'.ownsRow w.heap.size 3 1 v' (l.length+1) (zvs l++ [.int .i64 x]))(hg:(wr.alloc o).grownBy w' v.ownBlock):GrowI w v' (l++ [x]) w':=by
 refine⟨?_,((h.2.alloc h.2.size _).grown hg (Nat.le_trans h.2.size (by simp)) fun k hk=>(h.1.lt k hk).1)⟩;rw [List.length_append];have:zvs (l++ [x])=zvs l++ [.int .i64 x]:=by simp [zvs]
 rw [this];exact ho
theorem GrowI.start (w:World):GrowI w (.slice none 0 0) [] w:=⟨World.ownsRow_nil _ _ _ _,Below.refl _ _⟩
theorem GrowI.drewN {w wr:World}{v:Value}{l:List Int}(h:GrowI w v l wr)(q:Nat):GrowI w v l (wr.drewN q):=⟨h.1,below_drewN h.2 q⟩
def NewS (w:World)(P:List Int->Prop)(e:Ending)(w':World):Prop:=
 ∃p n c z,e= .returned (.slice p n c)/\Rdi w' p z/\z.length=n/\n<=c/\c<=9223372036854775807/\(∀q,p=some q->w.heap.size<=q.block)/\Below w.heap.size w w'/\P z
theorem own_cellsI {w:World}{base:Nat}{v:Value}{n:Nat}{xs:List Value}(h:w.ownsRow base 3 1 v n xs):xs= []/\v= .slice none 0 0/\n=0∨∃g c,v= .slice (some ⟨g,0,none⟩) n c/\n<=c/\c<=maxLen/\base<=g/\∀i u,xs[i]? =some u->w.cell? ⟨g,i,none⟩=some u:=by
 rcases h.2 with⟨rfl,rfl⟩|⟨g,cap,cur,rfl,hg,hh,hc,hm,hs,ht⟩
 ·left;exact⟨List.eq_nil_of_length_eq_zero (by rw [h.1]),rfl,rfl⟩
 ·right;refine⟨g,cap,rfl,hc,hm,hg,fun i u hu=>?_⟩;have:=h.cells (g:=g) rfl i u hu;have ha:(⟨g,0,none⟩:Addr).add i=⟨g,i,none⟩:=by unfold Addr.add;split<;>simp_all
  rwa [ha] at this
theorem GrowI.done {w wr:World}{v:Value}{l:List Int}{P:List Int->Prop}(h:GrowI w v l wr)(hP:P l):NewS w P (.returned v) wr:=by
 rcases own_cellsI h.1 with⟨h1,rfl,h3⟩|⟨g,c,rfl,hc,hm,hg,hcell⟩
 ·have:l= []:=List.eq_nil_of_length_eq_zero h3;subst this;exact⟨none,0,0,[],rfl,.inl rfl,rfl,Nat.le_refl _,by omega,(fun q hq=>by cases hq),h.2,hP⟩
 ·refine⟨_,_,c,l,rfl,.inr ⟨g,0,rfl,fun i hi=>?_⟩,rfl,hc,by unfold maxLen at hm;omega,(fun q hq=>by cases hq;exact hg),h.2,hP⟩;rw [Nat.zero_add];apply hcell;simp [zvs,iat,hi]
theorem val_take' (l:List Int)(k:Nat):val (l.take (k+1))=val (l.take k)+pw k*iat l k:=by
 rcases Nat.lt_or_ge k l.length with h|h
 ·exact val_take l k h
 ·rw [List.take_of_length_le (by omega),List.take_of_length_le h,iat_ge h];simp
structure PlusI (l m:List Int)(k:Nat)(carry:Int)(z:List Int):Prop where
 len:z.length=k
 dg:Dg z
 sum:val z+pw k*carry=val (l.take k)+val (m.take k)
 lo:0<=carry
 hi:carry<=1
 top:k<=max l.length m.length+1
 end_:k=max l.length m.length+1->carry=0
theorem PlusI.start (l m:List Int):PlusI l m 0 0 []:=⟨rfl,Dg_nil,by simp [val],by omega,by omega,by omega,fun _=>rfl⟩
theorem PlusI.next {l m z:List Int}{k:Nat}{c:Int}(h:PlusI l m k c z)(hl:Dg l)(hm:Dg m)(hk:k<l.length∨k<m.length∨0<c):PlusI l m (k+1) ((iat l k+iat m k+c) / 1000000000) (z++ [(iat l k+iat m k+c) % 1000000000]):=by
 have h1:=hl.all k;have h2:=hm.all k;have h3:=h.lo;have h4:=h.hi;have hs:=h.sum;have hlen:=h.len;refine⟨by rw [List.length_append,hlen];rfl,Dg_append h.dg (Dg_cons (by omega) (by omega) Dg_nil),?_,by omega,by omega,?_,fun he=>?_⟩
 ·rw [val_append,hlen,val_take',val_take'];show val z+pw k*((iat l k+iat m k+c) % 1000000000+1000000000*0)+1000000000*pw k*((iat l k+iat m k+c) / 1000000000)=_;have e:=Int.mul_ediv_add_emod (iat l k+iat m k+c) 1000000000
  grind
 ·rcases hk with h5|h5|h5
  ·omega
  ·omega
  ·have:=h.top;rcases Nat.lt_or_ge k (max l.length m.length+1)with h6|h6
   ·omega
   ·have:=h.end_ (by omega);omega
 ·have e1:iat l k=0:=iat_ge (by omega);have e2:iat m k=0:=iat_ge (by omega);rw [e1,e2];omega
theorem PlusI.done {l m z:List Int}{k:Nat}(h:PlusI l m k 0 z)(h1:l.length<=k)(h2:m.length<=k):SumP l m z:=by
 have hs:=h.sum;rw [List.take_of_length_le h1,List.take_of_length_le h2] at hs;exact⟨h.dg,by simpa using hs,by rw [h.len];exact h.top⟩
def PlusL (w:World)(l m:List Int)(k:Nat)(c:Int)(v:Value)(wr:World):Prop:=∃z,PlusI l m k c z/\GrowI w v z wr
theorem plus_any (a1 a2:Option Addr)(n1 c1 n2 c2:Nat)(l m:List Int)(w:World)(hR1:Rdi w a1 l)(hR2:Rdi w a2 m)(hn1:n1=l.length)(hn2:n2=m.length)(hd1:Dg l)(hd2:Dg m)(hm1:n1<=1099511627775)(hm2:n2<=1099511627775):
 Calls Tryz.prog 139 #[.slice a1 n1 c1,.slice a2 n2 c2] w (NewS w (SumP l m)):=by
 obtain⟨i0,hi,hz0,hz1,hz2⟩:=info_parts info_i64;have H1:=hIq hR1;have H2:=hIq hR2;have N1:=hIq hn1;have N2:=hIq hn2;have D1:=hIq hd1;have D2:=hIq hd2;have hI:Hid (PlusL w l m 0 0 (.slice none 0 0) w):=hIq ⟨[],PlusI.start l m,GrowI.start w⟩;clear hR1 hR2 hn1 hn2 hd1 hd2
 go_enter Tryz.func139,Tryz.ntmps139
 go_wp2_with fail
 go_loopw [5,6,7] (fun v cv iv wr=>∃(k:Nat) (c:Int),k<=max n1 n2+1/\iv= .int .i64 (k:Int)/\cv= .int .i64 c/\PlusL w l m k c v wr) (fun _ _ iv _=>max n1 n2+2 - (intOf iv).toNat)
 case atStart=>exact⟨0,0,by omega,rfl,rfl,hI.out⟩
 case round=>
  obtain⟨k,c,hk,rfl,rfl,z,hP,hG⟩:=hrel;clear hI;have hB:=hG.2;have g1:Hid (Calls Tryz.prog 148 #[.slice a1 n1 c1,.int .i64 (k:Int)] wr fun e w'=>e= .returned (.int .i64 (iat l k))/\wr=w'):=hIq (digit_any _ _ _ _ _ wr (Rdi_below hB H1.out) N1.out);have g2:Hid (Calls Tryz.prog 148 #[.slice a2 n2 c2,.int .i64 (k:Int)] wr fun e w'=>e= .returned (.int .i64 (iat m k))/\wr=w'):=hIq (digit_any _ _ _ _ _ wr (Rdi_below hB H2.out) N2.out);have hx:=D1.out.all k;have hy:=D2.out.all k;have hc0:=hP.lo;have hc1:=hP.hi;have hzl:Hid (z.length=k):=hIq hP.len;have hnx:=hIq (fun h=>hP.next D1.out D2.out h);have hfin:Hid (n1<=k->n2<=k->c=0->SumP l m z):=hIq fun h1 h2 h3=>by subst h3;exact hP.done (by rw [<-N1.out];exact h1) (by rw [<-N2.out];exact h2)
  obtain⟨x,hxx⟩:∃x,iat l k=x:=⟨_,rfl⟩;obtain⟨y,hyy⟩:∃y,iat m k=y:=⟨_,rfl⟩;rw [hxx] at g1 hx hnx;rw [hyy] at g2 hy hnx;have hG':=hIq hG
  have hnext:Hid ((k<n1∨k<n2∨0<c)->k+1<=max n1 n2+1/\∀v w',GrowI w v (z++ [(x+y+c) % 1000000000]) w'->PlusL w l m (k+1) ((x+y+c) / 1000000000) v w'):=hIq fun h=>by
   have h':=hnx.out (by rw [<-N1.out,<-N2.out];exact h);exact⟨by have:=h'.top;rw [N1.out,N2.out];exact this,fun v w' h2=>⟨_,h',h2⟩⟩
  obtain⟨hx1,hx2⟩:=hx;obtain⟨hy1,hy2⟩:=hy;have hs0:0<=x+y:=by omega
  have hs1:0<=x+y+c:=by omega
  have hs2:x+y+c<2000000000:=by omega
  have hsz:=hB.size;have k0:0<=(k:Int):=by omega
  clear hP hG hB hnx hxx hyy;by_cases hgo:k<n1∨k<n2∨0<c
  ·obtain⟨hn1',hn2'⟩:=hnext.out hgo;have hn2'':=hIq hn2';have hn1'':=hIq hn1';clear hn1' hn2' hnext hfin;have hcond:k<n1∨(¬k<n1/\k<n2)∨(¬k<n1/\¬k<n2/\0<c):=by omega
   rcases hcond with h|⟨h,h'⟩|⟨h,h',h''⟩
   ·have t1:(k:Int)<(n1:Int):=by omega
    clear hgo h;go_wp2_with (first|(go_at_call 148;((with_reducible refine g1.out.mono ?_);rintro e w' ⟨rfl,rfl⟩))|(go_at_call 148;((with_reducible refine g2.out.mono ?_);rintro e w' ⟨rfl,rfl⟩))|(at_builtin;refine wpList_append_own _ rfl _ _ 22 rfl w.heap.size 3 i0 (.int .i64 0) 1 8 Tryz.underlying22 hi hz0 hz1 hz2 rfl (by decide) _ _ _ rfl (hG'.out.1.alloc _) ⟨wr.heap.size,0,none⟩ 1 1 [.int .i64 ((x+y+c) % 1000000000)] rfl rfl (cell_one_new _ _ _) (by intro u hu;simp at hu;subst hu;rfl) (by rw [hzl.out];unfold maxLen;omega) (by rw [hzl.out];omega) (by simp;omega) ?_;intro v2 w2 ho2 hg2 _;have hG2:=hIq (hG'.out.push ho2 hg2);clear ho2 hg2))
    exact⟨⟨k+1,_,hn1''.out,by simp,rfl,hn2''.out _ _ hG2.out⟩,by have:=hn1''.out;simp only [intOf];omega⟩
   ·have t1:¬(k:Int)<(n1:Int):=by omega
    have t2:(k:Int)<(n2:Int):=by omega
    clear hgo h h';go_wp2_with (first|(go_at_call 148;((with_reducible refine g1.out.mono ?_);rintro e w' ⟨rfl,rfl⟩))|(go_at_call 148;((with_reducible refine g2.out.mono ?_);rintro e w' ⟨rfl,rfl⟩))|(at_builtin;refine wpList_append_own _ rfl _ _ 22 rfl w.heap.size 3 i0 (.int .i64 0) 1 8 Tryz.underlying22 hi hz0 hz1 hz2 rfl (by decide) _ _ _ rfl (hG'.out.1.alloc _) ⟨wr.heap.size,0,none⟩ 1 1 [.int .i64 ((x+y+c) % 1000000000)] rfl rfl (cell_one_new _ _ _) (by intro u hu;simp at hu;subst hu;rfl) (by rw [hzl.out];unfold maxLen;omega) (by rw [hzl.out];omega) (by simp;omega) ?_;intro v2 w2 ho2 hg2 _;have hG2:=hIq (hG'.out.push ho2 hg2);clear ho2 hg2))
    exact⟨⟨k+1,_,hn1''.out,by simp,rfl,hn2''.out _ _ hG2.out⟩,by have:=hn1''.out;simp only [intOf];omega⟩
   ·have t1:¬(k:Int)<(n1:Int):=by omega
    have t2:¬(k:Int)<(n2:Int):=by omega
    clear hgo h h';go_wp2_with (first|(go_at_call 148;((with_reducible refine g1.out.mono ?_);rintro e w' ⟨rfl,rfl⟩))|(go_at_call 148;((with_reducible refine g2.out.mono ?_);rintro e w' ⟨rfl,rfl⟩))|(at_builtin;refine wpList_append_own _ rfl _ _ 22 rfl w.heap.size 3 i0 (.int .i64 0) 1 8 Tryz.underlying22 hi hz0 hz1 hz2 rfl (by decide) _ _ _ rfl (hG'.out.1.alloc _) ⟨wr.heap.size,0,none⟩ 1 1 [.int .i64 ((x+y+c) % 1000000000)] rfl rfl (cell_one_new _ _ _) (by intro u hu;simp at hu;subst hu;rfl) (by rw [hzl.out];unfold maxLen;omega) (by rw [hzl.out];omega) (by simp;omega) ?_;intro v2 w2 ho2 hg2 _;have hG2:=hIq (hG'.out.push ho2 hg2);clear ho2 hg2))
    exact⟨⟨k+1,_,hn1''.out,by simp,rfl,hn2''.out _ _ hG2.out⟩,by have:=hn1''.out;simp only [intOf];omega⟩
  ·have t1:¬(k:Int)<(n1:Int):=by omega
   have t2:¬(k:Int)<(n2:Int):=by omega
   obtain rfl:c=0:=by omega
   have hf:=hIq (hG'.out.done (hfin.out (by omega) (by omega) rfl));clear hnext hfin hgo;go_wp2_with fail
   go_ret
   exact hf.out
end Go.Proofs.YteacdbgalloaiaaGreat
