/- Contracts of the packages integer, rat, plane, polygon and their references. -/
import Derived.Test.YteacdbgalloaiaaGreatB13
import Derived.Deep.LoopGhost
import Derived.Test.YteacdbgalloaiaaGreatB8
import Derived.Test.YteacdbgalloaiaaGreatB9
import Derived.Great.BuildSlice
set_option linter.unusedVariables false
set_option maxRecDepth 100000
set_option maxHeartbeats 6400000
namespace Go.Proofs.YteacdbgalloaiaaGreat
open Go Go.RowKit
section
variable {P:Program}{md:Region.Mode}{ops:Array Oper}{Q:Exit->Act->World->Prop}{a0:Act}{n0 n:Nat}{w0:World}{B:List Bd}{SL:List (Nat×VP)}{BT:List (TypeId×Nat×Nat)}{ro:Option Nat}
def waits (md:Region.Mode)(ops:Array Oper)(k:Nat)(o1:Oper):Bool:=(List.range k).all fun j=>o1.after.any (fun e=>e.on==j && Region.binds md e)||(List.range k).any (fun i=>Nat.blt j i && (match ops[i]? with|some o=>o.after.any (fun e=>e.on==j && Region.binds md e)|none=>false))
theorem after_any {md:Region.Mode}{after:Array Edge}{j:Nat}(h:after.any (fun e=>e.on==j && Region.binds md e)=true):∃e∈after,Region.binds md e=true/\e.on=j:=by
 rw [Array.any_eq_true] at h;obtain⟨i,hi,h1⟩:=h;simp only [Bool.and_eq_true,beq_iff_eq] at h1;exact⟨_,Array.getElem_mem hi,h1.2,h1.1⟩
theorem waits_all {V:Nat->VP}{k:Nat}{o1:Oper}{listed:Array Bool}{a:Act}{w:World}(hw:waits md ops k o1=true)(h:KI md ops a0 V n0 w0 B SL listed a w)(hdep:∀e∈o1.after,Region.binds md e=true->listed.getD e.on false=true):∀(m j:Nat),j<k->k - j<=m->listed.getD j false=true:=by
 intro m
 induction m with
 |zero=>intro j h1 h2;omega
 |succ m ih=>
  intro j h1 h2;unfold waits at hw;rw [List.all_eq_true] at hw;have:=hw j (by simpa using h1);rw [Bool.or_eq_true] at this;rcases this with h3|h3
  ·obtain⟨e,he,hb,hon⟩:=after_any h3;rw [<-hon];exact hdep e he hb
  ·rw [List.any_eq_true] at h3;obtain⟨i,hi,h4⟩:=h3;rw [Bool.and_eq_true] at h4;have hi':i<k:=by simpa using hi
   have hji:j<i:=by simpa [Nat.blt_eq] using h4.1
   have hil:=ih i hi' (by omega);cases ho:ops[i]? with
   |none=>rw [ho] at h4;cases h4.2
   |some o=>
    rw [ho] at h4;obtain⟨e,he,hb,hon⟩:=after_any h4.2;rw [<-hon];exact h.closed i o ho hil e he hb
theorem wpAnyIn_last {k:Nat}{o2:Oper}(hfore:kFore md ops=true)(hk:ops[k]? =some o2)(hsz:ops.size=k+1)(hg2:o2.guard=none)(hnd:∀c,o2.op≠ .defer c):
 ∀(fuel:Nat) (listed:Array Bool) (a:Act) (w:World),listed.size=ops.size->(∀j,j<k->listed.getD j false=true)->listed.getD k true=false->listed.toList.count false<=fuel->(∃v2,(execOp a.eval o2).run P w= .ok (.value v2) w/\Q .normal (a.put o2.dst v2) w)->wpAnyIn (fW ro) n P md ops Q fuel listed a w:=by
 intro fuel listed a w hlen hall hn hf ⟨v2,hrun,hQ⟩;have hkl:k<listed.size:=by omega
 have hcnt:=count_set listed k hkl hn;cases fuel with
 |zero=>omega
 |succ fuel=>
  refine⟨fun hr=>?_,fun i hi=>?_⟩
  ·exfalso;have:=kready_none hfore hlen hr k (by omega);simp only [Array.getD,hkl,dif_pos] at this hn;rw [this] at hn;cases hn
  obtain⟨h1,o,ho,hdep⟩:=mem_ready.1 hi
  have hlt:i<ops.size:=by
   rcases Nat.lt_or_ge i ops.size with h'|h'
   ·exact h'
   ·rw [Array.getElem?_eq_none h'] at ho;cases ho
  have hil:i<listed.size:=by omega
  have hik:i=k:=by
   rcases Nat.lt_or_ge i k with h'|h'
   ·have:=hall i h';simp only [Array.getD,hil,dif_pos] at this h1;rw [this] at h1;cases h1
   ·omega
  subst hik;rw [hk] at ho;cases ho
  have hall2:∀j,j<ops.size->(listed.setIfInBounds i true).getD j false=true:=fun j hj=>by
   rw [getD_set _ _ _ hkl];split
   ·rfl
   ·exact hall j (by omega)
  have hdone:∀f,wpAnyIn (fW ro) n P md ops Q f (listed.setIfInBounds i true) (a.put o2.dst v2) w:=by
   have hno:∀j,j∈Region.ready md ops (listed.setIfInBounds i true)->False:=fun j hj=>by
    obtain⟨h1,o,ho,-⟩:=mem_ready.1 hj
    have hj':j<ops.size:=by
     rcases Nat.lt_or_ge j ops.size with h'|h'
     ·exact h'
     ·rw [Array.getElem?_eq_none h'] at ho;cases ho
    have:=hall2 j hj';have hj2:j<(listed.setIfInBounds i true).size:=by simp;omega
    simp only [Array.getD,hj2,dif_pos] at this h1;rw [this] at h1;cases h1
   intro f;cases f with
   |zero=>exact⟨List.eq_nil_iff_forall_not_mem.2 (fun j hj=>hno j hj),hQ⟩
   |succ f=>exact⟨fun _=>hQ,fun j hj=>(hno j hj).elim⟩
  have hw:Region.wanted o2 (yielded ops a.tmps)=true:=wanted_of (by unfold Guards;rw [hg2];trivial);unfold wpOpIn;rw [hk];simp only [hw,if_true];refine wp_in hnd ?_;unfold Oper.wp;rw [hrun];exact hdone _
theorem wpAny_y {V:Nat->VP}{k:Nat}{o1 o2:Oper}(hfore:kFore md ops=true)(hown:flowOwn ops=true)(hin:∀(i:Nat) (o:Oper) (d:Tmp),ops[i]? =some o->o.dst=some d->d<a0.tmps.size)(hV:∀i,Stab BT (V i))(hSL:∀p∈SL,Stab BT p.2)
 (hk1:ops[k]? =some o1) (hk2:ops[k+1]? =some o2) (hsz:ops.size=k+2) (hg1:o1.guard=none) (hg2:o2.guard=none) (hnd2:∀c,o2.op≠ .defer c)
 (hdep1:waits md ops k o1=true) (hdep2:∃e∈o2.after,Region.binds md e=true/\e.on=k)
 (hstep:∀(i:Nat) (o:Oper),i<k->ops[i]? =some o->KStepI BT ro n P md ops Q a0 V n0 w0 B SL i o)
 (htail:∀(listed:Array Bool) (a:Act) (w:World),KI md ops a0 V n0 w0 B SL listed a w->(∀e∈o1.after,Region.binds md e=true->listed.getD e.on false=true)->o1.wpIn (fW ro) n P a w (fun a2 w2=>∃v2,(execOp a2.eval o2).run P w2= .ok (.value v2) w2/\Q .normal (a2.put o2.dst v2) w2) Q):
 ∀(fuel:Nat) (listed:Array Bool) (a:Act) (w:World),KI md ops a0 V n0 w0 B SL listed a w->listed.getD k true=false->listed.getD (k+1) true=false->listed.toList.count false<=fuel->wpAnyIn (fW ro) n P md ops Q fuel listed a w:=by
 intro fuel
 induction fuel with
 |zero=>
  intro listed a w h hn1 hn2 hc;exfalso;have:=count_zero listed (by omega) k (by rw [h.len];omega);have hkl:k<listed.size:=by rw [h.len];omega
  simp only [Array.getD,hkl,dif_pos] at this hn1;rw [this] at hn1;cases hn1
 |succ fuel ih=>
  intro listed a w h hn1 hn2 hc;have hkl:k<listed.size:=by rw [h.len];omega
  have hkl2:k+1<listed.size:=by rw [h.len];omega
  refine⟨fun hr=>?_,fun i hi=>?_⟩
  ·exfalso;have:=kready_none hfore h.len hr k (by omega);simp only [Array.getD,hkl,dif_pos] at this hn1;rw [this] at hn1;cases hn1
  obtain⟨h1,o,ho,hdep⟩:=mem_ready.1 hi
  have hlt:i<listed.size:=by
   rw [h.len];rcases Nat.lt_or_ge i ops.size with h'|h'
   ·exact h'
   ·rw [Array.getElem?_eq_none h'] at ho;cases ho
  have hcnt:=count_set listed i hlt h1;rcases Nat.lt_trichotomy i k with hik|rfl|hik
  ·have:=hstep i o hik ho listed a w h hdep (dst_ok hin ho) hlt (by have h5:=h1;simp only [Array.getD,hlt,dif_pos] at h5 ⊢;exact h5) (wpAnyIn (fW ro) n P md ops Q fuel (listed.setIfInBounds i true)) fun v w' hS hR hv=>ih _ _ _ (h.step hown hin hV hSL ho hdep hS hR hv) (by
    have:(listed.setIfInBounds i true).getD k true=listed.getD k true:=by simp only [Array.getD_eq_getD_getElem?,Array.getElem?_setIfInBounds_ne (show i≠k by omega)]
    rw [this];exact hn1) (by
    have:(listed.setIfInBounds i true).getD (k+1) true=listed.getD (k+1) true:=by simp only [Array.getD_eq_getD_getElem?,Array.getElem?_setIfInBounds_ne (show i≠k+1 by omega)]
    rw [this];exact hn2) (by omega)
   unfold wpOpIn;rw [ho];by_cases hw:Region.wanted o (yielded ops a.tmps)=true
   ·simp only [hw,if_true] at this ⊢;exact this
   ·simp only [hw] at this ⊢;exact⟨fun _ _=>trivial,this⟩
  ·rw [hk1] at ho;cases ho;have ht:=htail listed a w h hdep;have hw:Region.wanted o1 (yielded ops a.tmps)=true:=wanted_of (by unfold Guards;rw [hg1];trivial);unfold wpOpIn;rw [hk1];simp only [hw,if_true];refine Oper.wpIn_mono (fun a2 w2 hx=>?_) ht;refine wpAnyIn_last (k:=i+1) hfore hk2 (by omega) hg2 hnd2 fuel _ _ _ (by simpa using h.len) (fun j hj=>?_) ?_ (by omega) hx
   ·rw [getD_set _ _ _ hkl];split
    ·rfl
    ·exact waits_all hdep1 h hdep i j (by omega) (by omega)
   ·have:(listed.setIfInBounds i true).getD (i+1) true=listed.getD (i+1) true:=by simp only [Array.getD_eq_getD_getElem?,Array.getElem?_setIfInBounds_ne (show i≠i+1 by omega)]
    rw [this];exact hn2
  ·exfalso;have hik2:i=k+1:=by have:=h.len;omega
   subst hik2;rw [hk2] at ho;cases ho;obtain⟨e,he,hb,hon⟩:=hdep2;have:=hdep e he hb;rw [hon] at this;simp only [Array.getD,hkl,dif_pos] at this hn1;rw [this] at hn1;cases hn1
end
section
variable {ro:Option Nat}{n:Nat}{Q:Exit->Act->World->Prop}{Vl:List VP}{n0:Nat}{w0:World}{B:List Bd}{SL:List (Nat×VP)}{BT:List (TypeId×Nat×Nat)}
theorem rgY {id N k:Nat}{l:List Oper}{a:Act}{w:World}{o1 o2:Oper}(st:St n0 w0 N B SL a w)
 (hstep:AllK BT Tryz.prog .any l.toArray Q a (GV Vl) n0 w0 B SL 0 (l.take k))
 (hk1:l[k]? =some o1) (hk2:l[k+1]? =some o2) (hsz:l.length=k+2) (hg1:o1.guard=none) (hg2:o2.guard=none) (hnd2:∀c,o2.op≠ .defer c) (hdep1:waits .any l.toArray k o1=true) (hdep2:o2.after.any (fun e=>e.on==k && Region.binds .any e)=true)
 (htail:∀(listed:Array Bool) (a':Act) (w':World),KI .any l.toArray a (GV Vl) n0 w0 B SL listed a' w'->(∀e∈o1.after,Region.binds .any e=true->listed.getD e.on false=true)->o1.wpIn (fW ro) n Tryz.prog a' w' (fun a2 w2=>∃v2,(execOp a2.eval o2).run Tryz.prog w2= .ok (.value v2) w2/\Q .normal (a2.put o2.dst v2) w2) Q)
 (hB0:B.all (fun b=>b.ia==none && b.ik==none)=true) [hB:SbB BT B] [hS:SbS BT SL] [hL:SbL BT Vl] (hnd:noDefer l=true)
 (hm:Tryz.prog.follows .mixedOrders=true:=by kernel_rfl) (hfore:kFore .any l.toArray=true:=by kernel_rfl) (hown:flowOwn l.toArray=true:=by kernel_rfl) (hin:l.all (fun o=>match o.dst with|some d=>decide (d<N)|none=>true)=true:=by kernel_rfl):(Code.region id l.toArray true).wpIn (fW ro) n Tryz.prog Q a w:=by
 have hin':∀(i:Nat) (o:Oper) (d:Tmp),l.toArray[i]? =some o->o.dst=some d->d<a.tmps.size:=fun i o d ho D=>by
  rw [st.size];rw [List.all_eq_true] at hin;have ho':l[i]? =some o:=by simpa using ho
  have:=hin o (List.mem_of_getElem? ho');rw [D] at this;exact of_decide_eq_true this
 have hB0':∀b∈B,b.ia=none/\b.ik=none:=fun b hb=>by
  rw [List.all_eq_true] at hB0;have:=hB0 b hb;simp only [Bool.and_eq_true,beq_iff_eq] at this;exact this
 have hs':∀(i:Nat) (o:Oper),i<k->l.toArray[i]? =some o->KStepI BT ro n Tryz.prog .any l.toArray Q a (GV Vl) n0 w0 B SL i o:=fun i o hi ho=>by
  have:=AllK.get (l.take k) 0 hstep i o (by rw [List.getElem?_take,if_pos hi];simpa using ho);rw [Nat.zero_add] at this;refine this.toI fun c e=>?_
  have ho':l[i]? =some o:=by simpa using ho
  unfold noDefer at hnd;rw [List.all_eq_true] at hnd;have:=hnd o (List.mem_of_getElem? ho');rw [e] at this;cases this
 have hno:∀i,(Array.replicate l.length false).getD i false=true->False:=fun i hl=>by
  simp only [Array.getD_eq_getD_getElem?,Array.getElem?_replicate] at hl;split at hl<;>simp at hl
 have hst:KS n0 w0 B (Array.replicate l.length false) a w:=⟨st.k.below,fun b hb _=>by
  obtain⟨g,cs,e1,e2,e3,e4,e5,e6,e7⟩:=st.k.ok b hb (by rw [(hB0' b hb).1];rfl)
  exact⟨g,cs,e1,e2,e3,e4,e5,fun _=>e6 (by rw [(hB0' b hb).2];rfl),fun _ hk=>by rw [(hB0' b hb).2] at hk;cases hk⟩,fun b hb c hc hne _ _=>st.k.ne b hb c hc hne (by rw [(hB0' b hb).1];rfl) (by rw [(hB0' c hc).1];rfl),fun b hb h1 _=>absurd (hB0' b hb).2 h1⟩
 have hks:l.toArray.size=k+2:=by simpa using hsz
 refine wpIn_region_any hm (wpAny_y hfore hown hin' (stab_of hL.out) hS.out (by simpa using hk1) (by simpa using hk2) hks hg1 hg2 hnd2 hdep1 ?_ hs' htail _ _ _ _ ⟨?_,st.n,by simp,rfl,rfl,fun _ _=>rfl,fun i o d ho hl _=>(hno i (by simpa using hl)).elim,fun p hp=>?_,fun k o _ hl=>(hno k (by simpa using hl)).elim⟩ ?_ ?_ ?_)
 ·exact after_any hdep2
 ·have:=hst.drew hB.out
  simpa using this
 ·obtain⟨v,h1,h2⟩:=st.sl p hp;exact⟨v,h1,hS.out p hp _ _ _ h2 (RI.drew w)⟩
 ·simp [Array.getD,hsz]
 ·simp [Array.getD,hsz]
 ·simp
end
theorem wpIn_loop_ghost {F:Fence}{n:Nat}{P:Program}{Q:Exit->Act->World->Prop}{a:Act}{w:World}{c:Code}(I:Nat->Act->World->Prop)(n₀:Nat)(h₀:I n₀ a w)
 (round:∀m a w,I m a w->c.wpIn F n P (Exit.then (fun a' w'=>∃m',m'<m/\I m' a' w') Q) a w):(Code.loop c).wpIn F n P Q a w:=by
 refine wpIn_loop (fun a w=>∃n,I n a w) (fun a w=>leastOf (fun n=>I n a w)) ⟨n₀,h₀⟩ ?_;intro a w hI;refine wpIn_mono (round _ a w (leastOf_spec hI).1) ?_;intro e a' w' hq;cases e with
 |normal=>
  obtain⟨n',hlt,hI'⟩:=hq;exact show(∃n,I n a' w')/\leastOf (fun n=>I n a' w')<leastOf (fun n=>I n a w)from⟨⟨n',hI'⟩,Nat.lt_of_le_of_lt ((leastOf_spec ⟨n',hI'⟩).2 n' hI') hlt⟩
 |exit id=>exact hq
 |goto l=>exact hq
 |ret=>exact hq
 |panic ch=>exact hq
 |outgrown=>exact hq
theorem RoundIn.any {ro ro':Option Nat}{n m:Nat}{P:Program}{l:Nat}{f:FuncId}{tmps:Array Value}{assign body:Code}{w:World}{R:Ending->World->Prop}(h:RoundIn (fW ro) n P l f tmps assign body w R):RoundIn (fW ro') m P l f tmps assign body w R:=
 ⟨trivial,fun c cs _=>h.2 c cs (fun d D=>by cases D)⟩
def NoCl (o:Obj):Prop:=∀cs T f,o≠Obj.cells cs T f
theorem noCl_of {o:Obj}(h:o.isCells=false):NoCl o:=by
 rintro cs T f rfl
 cases h
section
variable {BT BT2:List (TypeId×Nat×Nat)}{W w w':World}
theorem cell_noCl {p:Addr}{o:Obj}{x:Int}(h:w.heap[p.block]? =some o)(ho:NoCl o):w.cell? p≠some (.int .i64 x):=by
 intro hc;unfold World.cell? at hc;rw [h] at hc;cases o with
 |cells cs T f=>exact ho _ _ _ rfl
 |_=>simp at hc
theorem RI_grown {row:Option Nat}(hmk:∃e∈BT,e.1=1000000)(hg:w.grownBy w' row)(hr:∀r,row=some r->∃o:Obj,w.heap[r]? =some o/\o.isCells=false):RI BT w w':=
 ⟨hg.size,fun p x hc=>by
  by_cases e:some p.block=row
  ·obtain⟨o,h1,h2⟩:=hr p.block e.symm;exact absurd hc (cell_noCl h1 (noCl_of h2))
  ·by_cases hlt:p.block<w.heap.size
   ·exact(World.cell?_of_block (hg.block _ hlt e)).trans hc
   ·exfalso;unfold World.cell? at hc;rw [Array.getElem?_eq_none (by omega)] at hc
    simp at hc,fun h cs T hk _=>hg.block h (lt_blk hk) (fun e=>by
  obtain⟨o,h1,h2⟩:=hr h e.symm;rw [hk] at h1;cases h1
  cases h2),fun hb=>by obtain⟨e,he,h1⟩:=hmk;exact absurd h1 (hb e he)⟩
end
abbrev MK:List (TypeId×Nat×Nat):=[(1000000,1,0)]
section
variable {n0 N:Nat}{w0:World}{L:List Bd}{SL:List (Nat×VP)}{a:Act}{w:World}
theorem St.grown {w':World}{row:Option Nat}(h:St n0 w0 N L SL a w)(hg:w.grownBy w' row)(hr:∀r,row=some r->n0<=r/\∃o:Obj,w.heap[r]? =some o/\o.isCells=false)[hB:SbB MK L][hS:SbS MK SL]:St n0 w0 N L SL a w':=by
 have hRI:RI MK w w':=RI_grown ⟨_,List.mem_cons_self,rfl⟩ hg fun r e=>(hr r e).2
 refine⟨⟨h.k.below.grown hg h.n fun r e=>(hr r e).1,fun b hb hon=>?_,h.k.ne,h.k.fa⟩,Nat.le_trans h.n hg.size,h.size,h.defers,fun p hp=>?_⟩
 ·obtain⟨g,cs,e1,e2,e3,e4,e5,e6,e7⟩:=h.k.ok b hb hon;refine⟨g,cs,e1,e2,(hg.block g (lt_blk e3) fun e=>?_).trans e3,e4,e5,fun hk=>(hB.out b hb).1 _ _ _ (e6 hk) hRI,fun h0 hk=>(hB.out b hb).2 _ _ _ (e7 h0 hk) hRI⟩;obtain⟨o,h1,h2⟩:=(hr g e.symm).2;rw [e3] at h1;cases h1;cases h2
 ·obtain⟨v,h1,h2⟩:=h.sl p hp;exact⟨v,h1,hS.out p hp _ _ _ h2 hRI⟩
theorem St.put1 (h:St n0 w0 N L SL a w)(p:Nat)(v:Value)(V:VP)(hV:V v w)(hp:p<N)(hL:L.all (fun b=>b.t !=p)=true:=by kernel_rfl)(hS:SL.all (fun x=>x.1 !=p)=true:=by kernel_rfl):St n0 w0 N L ((p,V)::SL) (a.put (some p) v) w:=by
 have hne:∀t,t≠p->(a.put (some p) v).tmps[t]? =a.tmps[t]? :=fun t ht=>put_get_ne (by simpa using fun e=>ht e.symm)
 have hL':∀b∈L,b.t≠p:=fun b hb=>by rw [List.all_eq_true] at hL;simpa using hL b hb
 refine⟨⟨h.k.below,fun b hb hon=>?_,fun b hb c hc=>?_,h.k.fa⟩,h.n,by rw [put_size];exact h.size,by rw [put_defers'];exact h.defers,Lq.2 ⟨⟨v,put_get_self (by rw [h.size];exact hp),hV⟩,fun x hx=>?_⟩⟩
 ·obtain⟨g,cs,e1,e⟩:=h.k.ok b hb hon;exact⟨g,cs,by rw [hne _ (hL' b hb)];exact e1,e⟩
 ·rw [hne _ (hL' b hb),hne _ (hL' c hc)];exact h.k.ne b hb c hc
 ·obtain⟨u,h1,h2⟩:=h.sl x hx;rw [List.all_eq_true] at hS;exact⟨u,by rw [hne _ (by simpa using hS x hx)];exact h1,h2⟩
end
theorem St.weak {n0 N:Nat}{w0:World}{L:List Bd}{SL:List (Nat×VP)}{a:Act}{w:World}(h:St n0 w0 N L SL a w)(L':List Bd)(hm:∀c∈L',∃b,b∈L/\b.t=c.t/\b.T=c.T/\b.m=c.m/\b.ia=none/\c.ia=none/\b.ik=none/\c.ik=none/\∀v w,b.P v w->c.P v w):St n0 w0 N L' SL a w:=by
 refine⟨⟨h.k.below,fun c hc hon=>?_,fun c hc d D hne h1 h2=>?_,fun c hc hn hk=>?_⟩,h.n,h.size,h.defers,h.sl⟩
 ·obtain⟨b,hb,e1,e2,e3,e4,e5,e6,e7,e8⟩:=hm c hc;obtain⟨g,cs,f1,f2,f3,f4,f5,f6,-⟩:=h.k.ok b hb (by rw [e4];rfl);exact⟨g,cs,by rw [<-e1];exact f1,f2,by rw [<-e2];exact f3,by rw [<-e3];exact f4,f5,fun _=>e8 _ _ (f6 (by rw [e6];rfl)),fun _ hk=>by rw [e7] at hk;cases hk⟩
 ·obtain⟨b,hb,e1,-,-,e4,-⟩:=hm c hc;obtain⟨b2,hb2,q1,-,-,q4,-⟩:=hm d D;rw [<-e1,<-q1];exact h.k.ne b hb b2 hb2 (by rw [e1,q1];exact hne) (by rw [e4];rfl) (by rw [q4];rfl)
 ·obtain⟨b,hb,-,-,-,-,-,-,e7,-⟩:=hm c hc;exact absurd e7 hn
def VEq (x:Value):VP:=fun v _=>v=x
section
variable {md:Region.Mode}{ops:Array Oper}{Q:Exit->Act->World->Prop}{a0:Act}{Vl:List VP}{n0:Nat}{w0:World}{B:List Bd}{SL:List (Nat×VP)}{BT BT2:List (TypeId×Nat×Nat)}{r:Rw}
instance (x:Value):Sb BT (VEq x):=⟨fun _ _ _ h _=>h⟩
end
theorem St.reT {n0 N:Nat}{w0:World}{L:List Bd}{SL:List (Nat×VP)}{a:Act}{w:World}(h:St n0 w0 N L SL a w)(t:Nat)(V':VP){v:Value}(he:a.tmps[t]? =some v)(hv:V' v w):St n0 w0 N L ((t,V')::SL) a w:=
 ⟨h.k,h.n,h.size,h.defers,Lq.2 ⟨⟨v,he,hv⟩,h.sl⟩⟩
def VC1 (A:VP):VP:=fun v w=>∃x,v= .agg #[x]/\A x w
class O1 (A:VP):Prop where
 out:∀v w,A v w->v.oneCell'=true/\(∀x,v≠ .int .i64 x)/\v.cells=#[v]
section
variable {md:Region.Mode}{ops:Array Oper}{Q:Exit->Act->World->Prop}{a0:Act}{Vl:List VP}{n0:Nat}{w0:World}{B:List Bd}{SL:List (Nat×VP)}{BT:List (TypeId×Nat×Nat)}{A:VP}
instance [hA:Sb BT A]:Sb BT (VC1 A):=⟨fun _ _ _ ⟨x,h1,h2⟩ hr=>⟨x,h1,hA.out _ _ _ h2 hr⟩⟩
theorem noInt1 {v:Value}(h:∀x,v≠ .int .i64 x):NoInt #[v]:=fun i x hi=>by
 match i with
 |0=>simp at hi;exact h x hi
 |i+1=>simp at hi
theorem k_box1_ {i t s:Nat}{o:Oper}{T:TypeId}{b:Bd}[hB:SbB BT B](ho:o.op= .box T (.tmp s))(hds:o.dst=some t)(hb:gB B (iB B t)=some b)(hbt:b.t=t)(hT:b.T=T)(hia:b.ia=some i)(hm:b.m=1)(hP:b.P=VC1 A)[h1:O1 A](hV:GV Vl i=VT)
 (hq:quietB (B.take (iB B t)++B.drop (iB B t+1)) i (some t)=true) (hx:KnS md ops Vl SL o s A) (hg:GOk md ops Vl o):KStep BT Tryz.prog md ops Q a0 (GV Vl) n0 w0 B SL i o:=by
 subst hbt hT;intro listed a w h D hin hil hnl K hK;rw [if_pos (wanted_of (hg.get h D))];obtain⟨v,hv,hVv⟩:=hx.get h D;obtain⟨o1,o2,o3⟩:=h1.out _ _ hVv
 have ht:b.t<a.tmps.size:=by
  rw [hds] at hin;rw [h.size]
  simpa using hin
 have hks:=h.k.alloc (gB_split hb) hq hia hil ht hB.out h.n #[v] (by rw [hm];rfl) (noInt1 o2) (fun _=>by rw [hP];exact⟨v,rfl,hVv⟩);unfold Oper.wp execOp;simp only [ho,hv,Sem.run_bind,Instr.box,newVar,newRow,run_newObj_alloc,Sem.run_pure,Result.andThen_ok,o3];rw [<-hds] at hks;exact hK _ _ hks (RI.of_below (below_new _ _)) (by rw [hV];trivial)
theorem k_store1_ {i t s:Nat}{o:Oper}{T:TypeId}{b:Bd}[hB:SbB BT B](ho:o.op= .store T (.tmp t) (.tmp s))(hds:o.dst=none)(hb:gB B (iB B t)=some b)(hbt:b.t=t)(hT:b.T=T)(hik:b.ik=some i)(hm:b.m=1)(hP:b.P=VC1 A)[h1:O1 A](hsz:(Tryz.prog.info? T).map (·.size)=some 1)(hV:GV Vl i=VT)
 (hq:quietB (B.take (iB B t)++B.drop (iB B t+1)) i none=true) (hts:(B.take (iB B t)++B.drop (iB B t+1)).all (fun c=>c.t !=t)=true) (hia:(b.ia !=some i)=true) (hBT:BT.any (fun e=>e.1==T && e.2.1==b.m && e.2.2==0)=true) (hNP:BT.all (fun e=>e.1 !=T||e.2.1 !=0)=true) (hon:b.ia=none∨∃j,b.ia=some j/\o.after.any (fun e=>e.on==j && Region.binds md e)=true) (hx:KnS md ops Vl SL o s A) (hg:GOk md ops Vl o):KStep BT Tryz.prog md ops Q a0 (GV Vl) n0 w0 B SL i o:=by
 subst hbt hT;intro listed a w h D _ hil _ K hK;rw [if_pos (wanted_of (hg.get h D))];obtain⟨v,hv,hVv⟩:=hx.get h D;obtain⟨o1,o2,o3⟩:=h1.out _ _ hVv
 have hon':onb listed b.ia=true:=by
  rcases hon with h1|⟨j,h1,h2⟩
  ·rw [h1];rfl
  ·rw [h1];exact listed_dep D j h2
 obtain⟨g,old,e1,e2,e3,hr,hks⟩:=h.k.store (v:=undef) (gB_split hb) hq hon' (by simpa using hia) hik hil (fun g' _=>Mw_of hBT hNP) hB.out #[v] (by rw [hm];rfl) (noInt1 o2) (by rw [hP];exact⟨v,rfl,hVv⟩) (fun c hc=>by
  rw [List.all_eq_true] at hts
  simpa using hts c hc)
 obtain⟨u,rfl⟩:∃u,old=#[u]:=by
  obtain⟨l⟩:=old
  match l,e3 with
  | [u],_=>exact⟨u,rfl⟩
 have hvp:a.eval (.tmp b.t)= .pointer (some ⟨g,0,none⟩):=by simp [Act.eval,Array.getD_eq_getD_getElem?,e1]
 unfold Oper.wp execOp;simp only [ho,hvp,hv,Instr.storeAt,Instr.sureAddr,Sem.run_bind,Sem.run_pure,Result.andThen_ok,run_storeVar_one w g b.T b.T u _ e2 hsz o1];rw [hds] at hK;show K (a.put o.dst undef) _;rw [hds];exact hK _ _ hks hr (by rw [hV];trivial)
theorem k_load1_ {i t:Nat}{o:Oper}{T:TypeId}{b:Bd}[hB:SbB BT B](ho:o.op= .load T (.tmp t))(hb:gB B (iB B t)=some b)(hbt:b.t=t)(hT:b.T=T)(hia:b.ia=none)(hik:b.ik=none)(hP:b.P=VC1 A)[hc:CeT T](hV:GV Vl i=A)(hq:quietB B i o.dst=true)(hg:GOk md ops Vl o):KStep BT Tryz.prog md ops Q a0 (GV Vl) n0 w0 B SL i o:=by
 obtain⟨d,hu,hdd⟩:=hc.und;subst hbt hT;refine k_run hB.out hq fun listed a w h D=>⟨hg.get h D,?_⟩
 obtain⟨g,cs,e1,e2,e3,e4,e5,e6,-⟩:=h.k.ok b (gB_mem hb) (by rw [hia];rfl);have hp:=e6 (by rw [hik];rfl);rw [hP] at hp;obtain⟨x,hx,hA⟩:=hp;cases hx;refine⟨x,?_,by rw [hV];exact hA⟩;have hvp:a.eval (.tmp b.t)= .pointer (some ⟨g,0,none⟩):=by simp [Act.eval,Array.getD_eq_getD_getElem?,e1]
 have hcell:w.cell? ⟨g,0,none⟩=some x:=by simp [World.cell?,e3]
 have hagg:(isAgg b.T).run Tryz.prog w= .ok false w:=by
  unfold isAgg;rw [Sem.run_bind,run_underlying hu w];cases d<;>simp_all [aggT]
 unfold execOp;simp only [ho,hvp,Instr.loadAt,Instr.sureAddr,Sem.run_bind,Sem.run_pure,Result.andThen_ok,loadVar,hagg];simp only [Bool.false_eq_true,if_false,run_load,hcell,Result.andThen_ok]
theorem St.ptrB {N:Nat}{L:List Bd}{a:Act}{w:World}(h:St n0 w0 N L SL a w)(t:Nat){b:Bd}(hb:gB L (iB L t)=some b)(hbt:b.t=t)(hia:b.ia=none):∃g,n0<=g/\St n0 w0 N L ((t,VEq (.pointer (some ⟨g,0,none⟩)))::SL) a w:=by
 subst hbt;obtain⟨g,cs,f1,f2,f3,-⟩:=h.k.ok b (gB_mem hb) (by rw [hia];rfl);exact⟨g,f2,h.k,h.n,h.size,h.defers,Lq.2 ⟨⟨_,f1,rfl⟩,h.sl⟩⟩
end
section
variable {n0 N:Nat}{w0:World}{L:List Bd}{SL:List (Nat×VP)}{a:Act}{w:World}
theorem St.base (h:St n0 w0 N L SL a w)(SL':List (Nat×VP))(hs:∀p∈SL',∃v,a.tmps[p.1]? =some v/\p.2 v w):Below n0 w0 w/\St w.heap.size w N [] SL' a w:=
 ⟨h.k.below,⟨⟨Below.refl _ _,fun b hb=>absurd hb (by simp),fun b hb=>absurd hb (by simp),fun b hb=>absurd hb (by simp)⟩,Nat.le_refl _,h.size,h.defers,hs⟩⟩
theorem St.boxAt (h:St n0 w0 N L SL a w){b:Bd}(hb:b∈L)(hia:b.ia=none)(hik:b.ik=none):∃g,a.tmps[b.t]? =some (.pointer (some ⟨g,0,none⟩))/\n0<=g/\g<w.heap.size/\∃cs,w.heap[g]? =some (.cells cs b.T (0,0))/\cs.size=b.m/\NoInt cs/\b.P (.agg cs) w:=by
 obtain⟨g,cs,e1,e2,e3,e4,e5,e6,-⟩:=h.k.ok b hb (by rw [hia];rfl);exact⟨g,e1,e2,lt_blk e3,cs,e3,e4,e5,e6 (by rw [hik];rfl)⟩
end
instance (p:Option Addr)(n c:Nat):O1 (VEq (.slice p n c)):=⟨fun v w h=>by obtain rfl:v=_:=h;exact⟨rfl,(fun _ e=>by cases e),rfl⟩⟩
def VCo (lv:Value):VP:=fun v w=>∃b,v= .func (.func 123) #[] #[.pointer (some ⟨b,0,none⟩)]/\w.heap[b]? =some (.cells #[lv] 23 (0,0))
def VSd (lv:Value):VP:=fun v w=>∃b1 b3 c,v= .func (.func 88) #[] #[.pointer (some ⟨b1,0,none⟩),.pointer (some ⟨b3,0,none⟩)]/\w.heap[b1]? =some (.cells #[lv] 23 (0,0))/\w.heap[b3]? =some (.cells #[c] 97 (0,0))/\VCo lv c w
def VTn (lv:Value):VP:=fun v w=>∃b1 b3 c,v= .func (.func 98) #[] #[.pointer (some ⟨b1,0,none⟩),.pointer (some ⟨b3,0,none⟩)]/\w.heap[b1]? =some (.cells #[lv] 23 (0,0))/\w.heap[b3]? =some (.cells #[c] 97 (0,0))/\VCo lv c w
section
variable {BT:List (TypeId×Nat×Nat)}{lv:Value}
theorem Stab_VCo (h1:∀e∈BT,e.1≠23):Stab BT (VCo lv):=fun _ _ _ ⟨b,e1,e2⟩ hr=>⟨b,e1,(hr.row b _ _ e2 (.inl fun e he q=>absurd q (h1 e he))).trans e2⟩
theorem Stab_VSd (h1:∀e∈BT,e.1≠23)(h2:∀e∈BT,e.1≠97):Stab BT (VSd lv):=fun _ _ _ ⟨b1,b3,c,e1,e2,e3,e4⟩ hr=>⟨b1,b3,c,e1,(hr.row b1 _ _ e2 (.inl fun e he q=>absurd q (h1 e he))).trans e2,(hr.row b3 _ _ e3 (.inl fun e he q=>absurd q (h2 e he))).trans e3,Stab_VCo h1 _ _ _ e4 hr⟩
theorem Stab_VTn (h1:∀e∈BT,e.1≠23)(h2:∀e∈BT,e.1≠97):Stab BT (VTn lv):=fun _ _ _ ⟨b1,b3,c,e1,e2,e3,e4⟩ hr=>⟨b1,b3,c,e1,(hr.row b1 _ _ e2 (.inl fun e he q=>absurd q (h1 e he))).trans e2,(hr.row b3 _ _ e3 (.inl fun e he q=>absurd q (h2 e he))).trans e3,Stab_VCo h1 _ _ _ e4 hr⟩
end
instance (lv:Value):O1 (VCo lv):=⟨fun v w ⟨b,h,_⟩=>by subst h;exact⟨rfl,(fun _ e=>by cases e),rfl⟩⟩
theorem alloc_fnV (W:World):(Instr.alloc 97 true (.tuple #[])).run Tryz.prog W= .ok (.pointer (some ⟨W.heap.size,0,none⟩)) (W.alloc (.cells #[.nilFunc] 97)):=by go_simp
instance iAlfnV:AlT 97 1:=⟨_,alloc_fnV,rfl,noint_of (by simp)⟩
instance iCeVecs:CeT 23:=⟨_,Tryz.underlying23,rfl⟩
theorem run_mkfn2 {ρ:Operand->Value}{o:Oper}{W:World}{x y:Operand}{va vb:Value}{f:FuncId}(ho:o.op= .makeFunc (.func f) #[] #[x,y])(hx:ρ x=va)(hy:ρ y=vb):(execOp ρ o).run Tryz.prog W= .ok (.value (.func (.func f) #[] #[va,vb])) W:=by
 obtain⟨dd,op,ty,ps,af,gd⟩:=o;subst ho;unfold execOp;simp only [Sem.run_bind];rw [show(Instr.makeFunc (.func f) (#[].map ρ) (#[x,y].map ρ)).run Tryz.prog W= .ok (.func (.func f) (#[].map ρ) (#[x,y].map ρ)) W from rfl];simp [Result.andThen,hx,hy]
theorem cAround6 {w:World}{p:Option Addr}{n c:Nat}:Calls Tryz.prog 87 #[.slice p n c] w (RV (VCo (.slice p n c)) w):=by
 go_enter Tryz.func87,Tryz.ntmps87
 go_wp2
 refine bodyPost_ret (results_tmp rfl _ _ _) rfl ⟨_,rfl,⟨_,rfl,heap_alloc_new _ _⟩,below_new _ _⟩
theorem cSides {w:World}{p:Option Addr}{n c:Nat}:Calls Tryz.prog 43 #[.slice p n c] w (RV (VSd (.slice p n c)) w):=by
 go_enter Tryz.func43,Tryz.ntmps43
 refine Sg 7 [(0,VEq (.slice p n c))] (Lq.2 ⟨⟨_,rfl,rfl⟩,L0⟩) fun a0 st0=>Wn ?_
 refine rH [] [VT,VT] [⟨1,some 0,some 0,23,1,VC1 (VEq (.slice p n c)),VT⟩] [] st0 ⟨k_box1_ (A:=VEq (.slice p n c)) rfl rfl rfl rfl rfl rfl rfl rfl rfl (by kernel_rfl) (.inr ⟨rfl,by kernel_rfl⟩) trivial,k_mvc (.inr rfl) (fun _=>trivial) (by kernel_rfl) trivial,trivial⟩ fun a1 w1 st1=>Wn ?_
 have:Sb [(97,1,0)] (VCo (.slice p n c)):=⟨Stab_VCo (by simp)⟩;refine rH [(97,1,0)] [VEq (.slice p n c),VCo (.slice p n c),VT,VT] [.k 1 23 1 (VC1 (VEq (.slice p n c))),⟨3,some 2,some 3,97,1,VC1 (VCo (.slice p n c)),VT⟩] [] st1 ⟨k_load1_ (A:=VEq (.slice p n c)) rfl rfl rfl rfl rfl rfl rfl rfl (by kernel_rfl) trivial,(by refine kc fun _ ac Y h D=>?_;obtain⟨v0,hv0,X0⟩:=h.dp D 4;obtain rfl:v0=_:=X0;exact⟨#[(.slice p n c)],by simp [hv0],cAround6⟩),ks,k_store1_ (A:=VCo (.slice p n c)) rfl rfl rfl rfl rfl rfl rfl rfl (by kernel_rfl) rfl (by kernel_rfl) (by kernel_rfl) rfl (by kernel_rfl) (by kernel_rfl) (.inr ⟨_,rfl,by kernel_rfl⟩) (.inl ⟨by kernel_rfl,rfl,rfl⟩) trivial,trivial⟩ ?_;intro a2 w2 st2;replace st2:St w.heap.size w 7 [.k 1 23 1 (VC1 (VEq (.slice p n c))),.k 3 97 1 (VC1 (VCo (.slice p n c)))] [] a2 w2:=st2;obtain⟨g1,hg1,st2⟩:=st2.ptrB 1 rfl rfl rfl;obtain⟨g3,hg3,st2⟩:=st2.ptrB 3 rfl rfl rfl;refine Wn ?_
 have:Sb [] (VCo (.slice p n c)):=⟨Stab_VCo (by simp)⟩;refine rH [] [VEq (.func (.func 88) #[] #[.pointer (some ⟨g1,0,none⟩),.pointer (some ⟨g3,0,none⟩)]),VEq (.func (.func 88) #[] #[.pointer (some ⟨g1,0,none⟩),.pointer (some ⟨g3,0,none⟩)])] [.k 1 23 1 (VC1 (VEq (.slice p n c))),.k 3 97 1 (VC1 (VCo (.slice p n c)))] [(1,VEq (.pointer (some ⟨g1,0,none⟩))),(3,VEq (.pointer (some ⟨g3,0,none⟩))),(2,VEq (.func (.func 88) #[] #[.pointer (some ⟨g1,0,none⟩),.pointer (some ⟨g3,0,none⟩)]))] st2 ⟨(by refine kr fun _ ac Y h D=>?_;obtain⟨v0,hv0,X0⟩:=h.ot 1;obtain⟨v1,hv1,X1⟩:=h.ot 3;obtain rfl:v0=_:=X0;obtain rfl:v1=_:=X1;exact⟨_,run_mkfn2 rfl hv0 hv1,rfl⟩),ks,trivial⟩ ?_;intro a3 w3 st3;replace st3:St w.heap.size w 7 [.k 1 23 1 (VC1 (VEq (.slice p n c))),.k 3 97 1 (VC1 (VCo (.slice p n c)))] [(1,VEq (.pointer (some ⟨g1,0,none⟩))),(3,VEq (.pointer (some ⟨g3,0,none⟩))),(2,VEq (.func (.func 88) #[] #[.pointer (some ⟨g1,0,none⟩),.pointer (some ⟨g3,0,none⟩)]))] a3 w3:=st3;obtain⟨x1,e1,-,-,cs1,p1,-,-,u1,hc1,hu1⟩:=st3.boxAt (b:=(.k 1 23 1 (VC1 (VEq (.slice p n c))))) (.head _) rfl rfl;obtain⟨x3,e3,-,-,cs3,p3,-,-,u3,hc3,hu3⟩:=st3.boxAt (b:=(.k 3 97 1 (VC1 (VCo (.slice p n c))))) (.tail _ (.head _)) rfl rfl;cases hc1;cases hc3;obtain rfl:u1=_:=hu1;obtain⟨z1,q1,rfl⟩:=st3.sl (1,VEq (.pointer (some ⟨g1,0,none⟩))) (lS_mem rfl);obtain⟨z3,q3,rfl⟩:=st3.sl (3,VEq (.pointer (some ⟨g3,0,none⟩))) (lS_mem rfl);obtain rfl:x1=g1:=by have:=e1.symm.trans q1;simpa using this
 obtain rfl:x3=g3:=by have:=e3.symm.trans q3;simpa using this
 refine Wn ?_
 obtain⟨vr,r1,r4⟩:=st3.slot (2,VEq (.func (.func 88) #[] #[.pointer (some ⟨x1,0,none⟩),.pointer (some ⟨x3,0,none⟩)])) (lS_mem rfl);exact wp_ret (bodyPost_ret (results_tmp rfl _ _ _) st3.defers ⟨_,congrArg Ending.returned (show _=vr from r1),⟨x1,x3,u3,r4,p1,p3,hu3⟩,st3.k.below⟩)
theorem cTurns {w:World}{p:Option Addr}{n c:Nat}:Calls Tryz.prog 55 #[.slice p n c] w (RV (VTn (.slice p n c)) w):=by
 go_enter Tryz.func55,Tryz.ntmps55
 refine Sg 7 [(0,VEq (.slice p n c))] (Lq.2 ⟨⟨_,rfl,rfl⟩,L0⟩) fun a0 st0=>Wn ?_
 refine rH [] [VT,VT] [⟨1,some 0,some 0,23,1,VC1 (VEq (.slice p n c)),VT⟩] [] st0 ⟨k_box1_ (A:=VEq (.slice p n c)) rfl rfl rfl rfl rfl rfl rfl rfl rfl (by kernel_rfl) (.inr ⟨rfl,by kernel_rfl⟩) trivial,k_mvc (.inr rfl) (fun _=>trivial) (by kernel_rfl) trivial,trivial⟩ fun a1 w1 st1=>Wn ?_
 have:Sb [(97,1,0)] (VCo (.slice p n c)):=⟨Stab_VCo (by simp)⟩;refine rH [(97,1,0)] [VEq (.slice p n c),VCo (.slice p n c),VT,VT] [.k 1 23 1 (VC1 (VEq (.slice p n c))),⟨3,some 2,some 3,97,1,VC1 (VCo (.slice p n c)),VT⟩] [] st1 ⟨k_load1_ (A:=VEq (.slice p n c)) rfl rfl rfl rfl rfl rfl rfl rfl (by kernel_rfl) trivial,(by refine kc fun _ ac Y h D=>?_;obtain⟨v0,hv0,X0⟩:=h.dp D 4;obtain rfl:v0=_:=X0;exact⟨#[(.slice p n c)],by simp [hv0],cAround6⟩),ks,k_store1_ (A:=VCo (.slice p n c)) rfl rfl rfl rfl rfl rfl rfl rfl (by kernel_rfl) rfl (by kernel_rfl) (by kernel_rfl) rfl (by kernel_rfl) (by kernel_rfl) (.inr ⟨_,rfl,by kernel_rfl⟩) (.inl ⟨by kernel_rfl,rfl,rfl⟩) trivial,trivial⟩ ?_;intro a2 w2 st2;replace st2:St w.heap.size w 7 [.k 1 23 1 (VC1 (VEq (.slice p n c))),.k 3 97 1 (VC1 (VCo (.slice p n c)))] [] a2 w2:=st2;obtain⟨g1,hg1,st2⟩:=st2.ptrB 1 rfl rfl rfl;obtain⟨g3,hg3,st2⟩:=st2.ptrB 3 rfl rfl rfl;refine Wn ?_
 have:Sb [] (VCo (.slice p n c)):=⟨Stab_VCo (by simp)⟩;refine rH [] [VEq (.func (.func 98) #[] #[.pointer (some ⟨g1,0,none⟩),.pointer (some ⟨g3,0,none⟩)]),VEq (.func (.func 98) #[] #[.pointer (some ⟨g1,0,none⟩),.pointer (some ⟨g3,0,none⟩)])] [.k 1 23 1 (VC1 (VEq (.slice p n c))),.k 3 97 1 (VC1 (VCo (.slice p n c)))] [(1,VEq (.pointer (some ⟨g1,0,none⟩))),(3,VEq (.pointer (some ⟨g3,0,none⟩))),(2,VEq (.func (.func 98) #[] #[.pointer (some ⟨g1,0,none⟩),.pointer (some ⟨g3,0,none⟩)]))] st2 ⟨(by refine kr fun _ ac Y h D=>?_;obtain⟨v0,hv0,X0⟩:=h.ot 1;obtain⟨v1,hv1,X1⟩:=h.ot 3;obtain rfl:v0=_:=X0;obtain rfl:v1=_:=X1;exact⟨_,run_mkfn2 rfl hv0 hv1,rfl⟩),ks,trivial⟩ ?_;intro a3 w3 st3;replace st3:St w.heap.size w 7 [.k 1 23 1 (VC1 (VEq (.slice p n c))),.k 3 97 1 (VC1 (VCo (.slice p n c)))] [(1,VEq (.pointer (some ⟨g1,0,none⟩))),(3,VEq (.pointer (some ⟨g3,0,none⟩))),(2,VEq (.func (.func 98) #[] #[.pointer (some ⟨g1,0,none⟩),.pointer (some ⟨g3,0,none⟩)]))] a3 w3:=st3;obtain⟨x1,e1,-,-,cs1,p1,-,-,u1,hc1,hu1⟩:=st3.boxAt (b:=(.k 1 23 1 (VC1 (VEq (.slice p n c))))) (.head _) rfl rfl;obtain⟨x3,e3,-,-,cs3,p3,-,-,u3,hc3,hu3⟩:=st3.boxAt (b:=(.k 3 97 1 (VC1 (VCo (.slice p n c))))) (.tail _ (.head _)) rfl rfl;cases hc1;cases hc3;obtain rfl:u1=_:=hu1;obtain⟨z1,q1,rfl⟩:=st3.sl (1,VEq (.pointer (some ⟨g1,0,none⟩))) (lS_mem rfl);obtain⟨z3,q3,rfl⟩:=st3.sl (3,VEq (.pointer (some ⟨g3,0,none⟩))) (lS_mem rfl);obtain rfl:x1=g1:=by have:=e1.symm.trans q1;simpa using this
 obtain rfl:x3=g3:=by have:=e3.symm.trans q3;simpa using this
 refine Wn ?_
 obtain⟨vr,r1,r4⟩:=st3.slot (2,VEq (.func (.func 98) #[] #[.pointer (some ⟨x1,0,none⟩),.pointer (some ⟨x3,0,none⟩)])) (lS_mem rfl);exact wp_ret (bodyPost_ret (results_tmp rfl _ _ _) st3.defers ⟨_,congrArg Ending.returned (show _=vr from r1),⟨x1,x3,u3,r4,p1,p3,hu3⟩,st3.k.below⟩)
def VSl {α:Type}(T:TypeId)(k:Nat)(E:α->VP)(xs:List α):VP:=fun v w=>∃h o c cs,v= .slice (some ⟨h,o,none⟩) xs.length c/\xs.length<=c/\c<=9223372036854775807/\w.heap[h]? =some (.cells cs T (0,0))/\o+k*xs.length<=cs.size/\∀i x,xs[i]? =some x->E x (.agg (cs.extract (o+k*i) (o+k*i+k))) w
def VEp (T:TypeId)(k:Nat)(A:VP):VP:=fun v w=>∃h off cs,v= .pointer (some ⟨h,off,none⟩)/\w.heap[h]? =some (.cells cs T (0,0))/\off+k<=cs.size/\A (.agg (cs.extract off (off+k))) w
section
variable {BT:List (TypeId×Nat×Nat)}{α:Type}{T:TypeId}{k:Nat}{E:α->VP}{xs:List α}{w W:World}{v:Value}{A:VP}
theorem VSl_later (hE:∀x,Stab [] (E x))(h:VSl T k E xs v w)(hb:Below w.heap.size w W):VSl T k E xs v W:=by
 obtain⟨hh,o,c,cs,e1,e2,e3,e4,e5,e6⟩:=h;exact⟨hh,o,c,cs,e1,e2,e3,(hb.block _ (lt_blk e4)).trans e4,e5,fun i x hx=>hE x _ _ _ (e6 i x hx) (RI.of_below hb)⟩
theorem VSl_el (h:VSl T k E xs v w){i:Nat}{x:α}(hx:xs[i]? =some x):∃b o c,v= .slice (some ⟨b,o,none⟩) xs.length c/\VEp T k (E x) (.pointer (some ⟨b,o+k*i,none⟩)) w:=by
 obtain⟨hh,o,c,cs,e1,e2,e3,e4,e5,e6⟩:=h
 have hi:i<xs.length:=by
  rcases Nat.lt_or_ge i xs.length with h'|h'
  ·exact h'
  ·rw [List.getElem?_eq_none h'] at hx;cases hx
 have hle:k*i+k<=k*xs.length:=by rw [<-Nat.mul_succ];exact Nat.mul_le_mul_left k hi
 exact⟨hh,o,c,e1,hh,_,cs,rfl,e4,by omega,e6 i x hx⟩
theorem load_EpV {ρ:Operand->Value}{o:Oper}{x:Operand}{va:Value}{d:TypeDesc}(ho:o.op= .load T x)(hx:ρ x=va)(h:VAt w (VEp T k A) va W)(hb:Below w.heap.size w W)(hu:Tryz.prog.underlying T=some d)(D:aggT d=true)(hi:(Tryz.prog.info? T).map (·.size)=some k):∃v,(execOp ρ o).run Tryz.prog W= .ok (.value v) W/\VAt w A v W:=by
 obtain⟨g,off,cs,rfl,e2,e3,e4⟩:=h;refine⟨_,?_,e4⟩;have e5:=(hb.block _ (lt_blk e2)).trans e2;unfold execOp;simp only [ho,hx,Instr.loadAt,Instr.sureAddr,Sem.run_bind,Sem.run_pure,Result.andThen_ok,run_loadVar_part W g off k T T cs (0,0) d e5 e3 hu D hi]
end
def EV (N:Nat)(a:P2):VP:=Vv N a.1 a.2
def VSv (N:Nat)(vs:List P2):VP:=fun v w=>(v= .slice none 0 0/\vs= [])∨VSl 32 8 (EV N) vs v w
theorem VSv_later {N:Nat}{vs:List P2}{v:Value}{w W:World}(h:VSv N vs v w)(hb:Below w.heap.size w W):VSv N vs v W:=
 h.imp id fun h=>VSl_later (fun _=>Stab_Vv _ _ _) h hb
theorem VSv_slice {N:Nat}{vs:List P2}{v:Value}{w:World}(h:VSv N vs v w):∃p c,v= .slice p vs.length c:=by
 rcases h with⟨rfl,rfl⟩|⟨hh,o,c,cs,rfl,-⟩
 ·exact⟨_,_,rfl⟩
 ·exact⟨_,_,rfl⟩
theorem VSv_max {N:Nat}{vs:List P2}{v:Value}{w:World}(h:VSv N vs v w):vs.length<=9223372036854775807:=by
 rcases h with⟨rfl,rfl⟩|⟨hh,o,c,cs,rfl,h1,h2,-⟩
 ·simp
 ·omega
def VPb (T:TypeId)(u:Value):VP:=fun v w=>∃b,v= .pointer (some ⟨b,0,none⟩)/\w.heap[b]? =some (.cells #[u] T (0,0))
theorem Stab_VPb {BT:List (TypeId×Nat×Nat)}{T:TypeId}{u:Value}(h1:∀e∈BT,e.1≠T):Stab BT (VPb T u):=fun _ _ _ ⟨b,e1,e2⟩ hr=>⟨b,e1,(hr.row b _ _ e2 (.inl fun e he q=>absurd q (h1 e he))).trans e2⟩
section
variable {ρ:Operand->Value}{o:Oper}{w W:World}{x y:Operand}{va vb lv:Value}{N:Nat}{vs:List P2}
theorem load_Pb {T:TypeId}{u:Value}(ho:o.op= .load T x)(hx:ρ x=va)(h:VPb T u va W)[hc:CeT T]:∃v,(execOp ρ o).run Tryz.prog W= .ok (.value v) W/\VEq u v W:=by
 obtain⟨b,rfl,hb⟩:=h;obtain⟨d,hu,hdd⟩:=hc.und;have hcell:W.cell? ⟨b,0,none⟩=some u:=by simp [World.cell?,hb]
 have hagg:(isAgg T).run Tryz.prog W= .ok false W:=by
  unfold isAgg;rw [Sem.run_bind,run_underlying hu W];cases d<;>simp_all [aggT]
 refine⟨u,?_,rfl⟩;unfold execOp;simp only [ho,hx,Instr.loadAt,Instr.sureAddr,Sem.run_bind,Sem.run_pure,Result.andThen_ok,loadVar,hagg];simp only [Bool.false_eq_true,if_false,run_load,hcell,Result.andThen_ok]
theorem len_Sv (ho:o.op= .call {callee:= .builtin .len,args:=#[x],argTypes:=#[23]})(_hty:o.type=3)(hx:ρ x=va)(h:VEq lv va W)(hS:VSv N vs lv w):∃v,(execOp ρ o).run Tryz.prog W= .ok (.value v) W/\Vi (vs.length:Int) v W:=by
 obtain rfl:va=lv:=h;obtain⟨p,c,rfl⟩:=VSv_slice hS;refine⟨.int .i64 (vs.length:Int),?_,rfl⟩;obtain⟨dd,op,ty,ps,af,gd⟩:=o;subst ho;simp only at _hty;subst _hty;clear hS;generalize vs.length=n at*
 go_simp
theorem index_Sv {a:P2}{j:Nat}(ho:o.op= .indexAddr 23 x y)(hx:ρ x=va)(h:VEq lv va W)(hS:VSv N vs lv w)(hy:ρ y=vb)(hb:Vi (j:Int) vb W)(hz:vs[j]? =some a):∃v,(execOp ρ o).run Tryz.prog W= .ok (.value v) W/\VAt w (VEp 32 8 (Vv N a.1 a.2)) v W:=by
 obtain rfl:va=lv:=h;rcases hS with⟨rfl,rfl⟩|hS
 ·cases hz
 obtain⟨b,off,c,rfl,h2⟩:=VSl_el hS hz;obtain rfl:vb=_:=hb;refine⟨.pointer (some ⟨b,off+8*j,none⟩),?_,h2⟩
 have hj:j<vs.length:=by
  rcases Nat.lt_or_ge j vs.length with h'|h'
  ·exact h'
  ·rw [List.getElem?_eq_none h'] at hz;cases hz
 have hj2:(j:Int)<(vs.length:Int):=by omega
 have hm:j*8=8*j:=Nat.mul_comm _ _;clear hS h2 hz;generalize vs.length=n at*
 obtain⟨dd,op,ty,ps,af,gd⟩:=o;subst ho
 go_simp
theorem rem_n {j n:Nat}(ho:o.op= .binOp .rem 3 x y 3)(hx:ρ x=va)(hy:ρ y=vb)(h1:Vi (j:Int) va W)(h2:Vi (n:Int) vb W)(hn:0<n):∃v,(execOp ρ o).run Tryz.prog W= .ok (.value v) W/\Vi ((j % n:Nat):Int) v W:=by
 obtain rfl:va=_:=h1;obtain rfl:vb=_:=h2;exact⟨_,run_remi ho hx hy (by omega) (by omega),by show Value.int .i64 _=_;rw [<-Int.natCast_emod]⟩
end
instance (w:World)(V:VP)(m:Nat)[h:Ag V m]:Ag (VAt w V) m:=⟨fun v _ hv=>h.out v w hv⟩
theorem cCorner {w:World}{wb:World}{N k:Nat}{vs:List P2}{lv:Value}{a:P2}{v0 v1:Value}(h0:Vi (k:Int) v0 w)(h1:VPb 23 lv v1 w)(hB:Below wb.heap.size wb w)(hS:VSv N vs lv wb)(hn:0<vs.length)(ha:vs[k % vs.length]? =some a):Calls Tryz.prog 123 #[v0,v1] w (RV (VAt wb (Vv N a.1 a.2)) w):=by
 go_enter Tryz.func123,Tryz.ntmps123
 refine Sg 11 [(0,Vi (k:Int)),(1,VPb 23 lv)] (Lq.2 ⟨⟨_,rfl,h0⟩,(Lq.2 ⟨⟨_,rfl,h1⟩,L0⟩)⟩) fun a0 st0=>Wn ?_
 have:Sb [(32,8,0)] (VPb 23 lv):=⟨(Stab_VPb (by simp))⟩;refine rH [(32,8,0)] [VT] [⟨3,some 0,none,32,8,VT,VT⟩] [(0,Vi (k:Int)),(1,VPb 23 lv)] st0 ⟨ks,trivial⟩ fun a1 w1 st1=>Wn ?_
 have:Sb [(32,8,0)] (VPb 23 lv):=⟨(Stab_VPb (by simp))⟩;refine rH [(32,8,0)] [VEq lv,Vi (k:Int),VEq lv,Vi (vs.length:Int),Vi ((k % vs.length:Nat):Int),VAt wb (VEp 32 8 (Vv N a.1 a.2)),VAt wb (Vv N a.1 a.2),VT] [⟨3,none,some 7,32,8,VAt wb (Vv N a.1 a.2),VT⟩] [(0,Vi (k:Int)),(1,VPb 23 lv)] st1 ⟨(by refine kr fun _ ac Y h D=>?_;obtain⟨v0,x0,X0⟩:=h.ot 1;exact load_Pb rfl x0 X0),ks,(by refine kr fun _ ac Y h D=>?_;obtain⟨v0,x0,X0⟩:=h.ot 1;exact load_Pb rfl x0 X0),(kr1 6 fun _ _ _ _ _ x0 X0=>len_Sv rfl rfl x0 X0 hS),(kr2 5 7 fun _ _ _ _ _ x0 X0 _ x1 X1=>rem_n rfl x0 x1 X0 X1 hn),(kr2 4 8 fun _ _ _ _ _ x0 X0 _ x1 X1=>index_Sv rfl x0 X0 hS x1 X1 ha),(kr1 9 fun _ _ _ h _ x0 X0=>load_EpV (w:=wb) (k:=8) (A:=Vv N a.1 a.2) rfl x0 X0 (hB.trans (h.k.below.mono hB.size)) Tryz.underlying32 rfl size_Vec),ks,trivial⟩ ?_;intro a2 w2 st2;refine Wn ?_
 exact wp_ret (rC 3 32 (VAt wb (Vv N a.1 a.2)) st2 fun cs r4=>r4)
instance iCeFnV:CeT 97:=⟨_,Tryz.underlying97,rfl⟩
def cv (vs:List P2)(k:Nat):P2:=vs.getD (k % vs.length) (0,0)
theorem cv_get {vs:List P2}(k:Nat)(h:0<vs.length):vs[k % vs.length]? =some (cv vs k):=by
 have:=Nat.mod_lt k h;rw [List.getElem?_eq_getElem this];simp [cv,List.getD_eq_getElem?_getD,this]
def VSg (N:Nat)(vs:List P2)(k:Nat):VP:=Vp N (cv vs k).1 (cv vs k).2 (cv vs (k+1)).1 (cv vs (k+1)).2
abbrev SdE (N:Nat)(vs:List P2)(wb:World):={x:Nat×Value // x.1<vs.length/\VSg N vs x.1 x.2 wb}
def encS {N:Nat}{vs:List P2}{wb:World}(x:SdE N vs wb):Array Value:=#[.int .i64 (x.1.1:Int),x.1.2]
structure RowK (BT:List (TypeId×Nat×Nat))(A B:World):Prop where
 size:A.heap.size<=B.heap.size
 row:∀(h:Nat) (cs:Array Value) (T:TypeId),A.heap[h]? =some (Obj.cells cs T (0,0))->(∀e∈BT,e.1≠T)->B.heap[h]? =A.heap[h]?
theorem RowK.refl (BT:List (TypeId×Nat×Nat))(A:World):RowK BT A A:=⟨Nat.le_refl _,fun _ _ _ _ _=>rfl⟩
theorem RowK.trans {BT:List (TypeId×Nat×Nat)}{A B C:World}(h:RowK BT A B)(k:RowK BT B C):RowK BT A C:=⟨Nat.le_trans h.size k.size,fun j cs T hj hn=>by
 have h1:=h.row j cs T hj hn
 exact(k.row j cs T (h1.trans hj) hn).trans h1⟩
theorem RI.rowK {BT BT2:List (TypeId×Nat×Nat)}{A B:World}(h:RI BT A B)(h1:∀e∈BT,∃e'∈BT2,e'.1=e.1):RowK BT2 A B:=⟨h.size,fun j cs T hj hn=>h.row j cs T hj (.inl fun e he q=>by
 obtain⟨e',h2,h3⟩:=h1 e he
 exact absurd (h3.trans q) (hn e' h2))⟩
theorem RowK.setRow {BT:List (TypeId×Nat×Nat)}{A:World}{g:Nat}{old cs:Array Value}{T:TypeId}(hg:A.heap[g]? =some (.cells old T (0,0)))(hT:∃e∈BT,e.1=T):RowK BT A (A.setRow g cs):=⟨by simp [World.setRow],fun h cs' T' hk hn=>setRow_other A g h cs (by
 rintro rfl
 rw [hg] at hk;cases hk;obtain⟨e,h1,h2⟩:=hT
 exact hn e h1 h2)⟩
def Kp (wb:World)(BT:List (TypeId×Nat×Nat))(A B:World):Prop:=(Below wb.heap.size wb A->Below wb.heap.size wb B)/\RowK BT A B
theorem Kp.trans {wb:World}{BT:List (TypeId×Nat×Nat)}{A B C:World}(h:Kp wb BT A B)(k:Kp wb BT B C):Kp wb BT A C:=⟨fun x=>k.1 (h.1 x),h.2.trans k.2⟩
theorem Kp.put {wb:World}{BT:List (TypeId×Nat×Nat)}{n0:Nat}(hn:wb.heap.size<=n0)(W:World)(l:Nat)(o o':Obj)(hl:n0<=l)(h:W.heap[l]? =some o)(ho:o.isCells=false)(_:o.isWalk=false):Kp wb BT W (W.putObj l o'):=
 ⟨fun x=>x.grown (grownBy_putObj' W l o') x.size fun k e=>by cases e;omega,by simp,fun j cs T hj _=>(grownBy_putObj' W l o').block j (lt_blk hj) fun e=>by
  cases e;rw [h] at hj;cases hj
  cases ho⟩
theorem grown_of {w w':World}(h:Below w.heap.size w w'):w.grownBy w' none:=⟨h.os,h.tape,h.output,h.size,fun k hk _=>h.block k hk⟩
section
variable {ρ:Operand->Value}{o:Oper}{W:World}{x y z:Operand}{va vb vc:Value}
theorem run_enterV {f:FuncId}{u:Value}{ats:Array TypeId}(ho:o.op= .call {callee:= .value x,args:=#[y],argTypes:=ats})(hx:ρ x= .func (.func f) #[] #[u])(hy:ρ y=vb)(hcall:∀args w,(callFunc f args).run Tryz.prog w= .ok (.enter f args) w):(execOp ρ o).run Tryz.prog W= .ok (.enter f #[vb,u]) W:=by
 unfold execOp;simp only [ho,resolve,invoke,Deferred.ofValue,Sem.run_bind,Sem.run_pure,Result.andThen_ok,List.map_toArray,List.map_cons,List.map_nil,hx,hy];exact hcall #[vb,u] W
theorem run_yieldV2 {l:Nat}{ats:Array TypeId}{r:Result Next}(ho:o.op= .call {callee:= .value x,args:=#[y,z],argTypes:=ats})(hx:ρ x= .func (.yield l) #[] #[])(hy:ρ y=vb)(hz:ρ z=vc)(h:(Instr.yield l #[vb,vc]).run Tryz.prog W=r):(execOp ρ o).run Tryz.prog W=r:=by
 unfold execOp;simp only [ho,resolve,invoke,Deferred.ofValue,Sem.run_bind,Sem.run_pure,Result.andThen_ok,List.map_toArray,List.map_cons,List.map_nil,hx,hy,hz];exact h
theorem KI.oth {md:Region.Mode}{ops:Array Oper}{a0:Act}{V:Nat->VP}{n0:Nat}{w0:World}{B:List Bd}{SL:List (Nat×VP)}{listed:Array Bool}{a:Act}{w:World}(h:KI md ops a0 V n0 w0 B SL listed a w)(t:Nat)(ht:ops.all (fun o=>o.dst !=some t)=true):a.tmps[t]? =a0.tmps[t]? :=
 h.other t fun i o ho=>by
  rw [Array.all_eq_true'] at ht;have:=ht o (Array.mem_of_getElem? ho)
  simpa using this
theorem put2_get {a:Act}{p q t:Nat}{u v:Value}(hp:t≠p)(hq:t≠q):((a.put (some p) u).put (some q) v).tmps[t]? =a.tmps[t]? :=by
 rw [put_get_ne (by simpa using fun e=>hq e.symm),put_get_ne (by simpa using fun e=>hp e.symm)]
theorem put_eval {a:Act}{p:Nat}{u:Value}(hp:p<a.tmps.size):(a.put (some p) u).eval (.tmp p)=u:=by
 have:=put_get_self (a:=a) (v:=u) (d:=p) hp;simp [Act.eval,Array.getD_eq_getD_getElem?,this]
theorem map_snoc {α:Type}{f:α->Nat}{pre:List α}{x:α}{j:Nat}(h:pre.map f=List.range j)(hx:f x=j):(pre++ [x]).map f=List.range (j+1):=by
 rw [List.map_append,h,List.range_succ,List.map_singleton,hx]
end
theorem sides_stops {n:Nat}{wb wL:World}{N:Nat}{vs:List P2}{lv c:Value}{b1 b3:Nat}{BT:List (TypeId×Nat×Nat)}(hbt1:∀e∈BT,e.1≠23)(hbt2:∀e∈BT,e.1≠97)(hB:Below wb.heap.size wb wL)(hS:VSv N vs lv wb)(p1:wL.heap[b1]? =some (.cells #[lv] 23 (0,0)))(p3:wL.heap[b3]? =some (.cells #[c] 97 (0,0)))(hc:VCo lv c wL):
 SeqStopsK (fW none) n Tryz.prog 88 #[.pointer (some ⟨b1,0,none⟩),.pointer (some ⟨b3,0,none⟩)] (encS (N:=N) (vs:=vs) (wb:=wb)) (Kp wb BT) (fun xs=>xs.map (·.1.1)=List.range vs.length) (fun pre=>pre.map (·.1.1)=List.range pre.length/\pre.length<=vs.length) vs.length wL:=by
 intro l J Jx W hW hJ hJx hY h0;have hBW:Below wb.heap.size wb W:=hB.trans (hW.mono hB.size);replace p1:=(hW.block _ (lt_blk p1)).trans p1;replace p3:=(hW.block _ (lt_blk p3)).trans p3;obtain⟨b5,rfl,p5⟩:=hc;replace p5:=(hW.block _ (lt_blk p5)).trans p5;have hmax:=VSv_max hS;refine callsIn_of_wp Tryz.func88 rfl trivial ?_ rfl;simp only [Tryz.ntmps88,List.size_toArray,List.length_cons,List.length_nil,Nat.reduceAdd,Nat.reduceSub,Array.replicate_succ,Array.replicate_zero,List.push_toArray,List.append_toArray,List.nil_append,List.cons_append];have st0:St W.heap.size W 23 [] [(0,VEq (.func (.yield l) #[] #[])),(1,VPb 23 lv),(2,VPb 97 (.func (.func 123) #[] #[.pointer (some ⟨b5,0,none⟩)]))] _ W:=St.begin (a:=⟨#[.func (.yield l) #[] #[],.pointer (some ⟨b1,0,none⟩),.pointer (some ⟨b3,0,none⟩),undef,undef,undef,undef,undef,undef,undef,undef,undef,undef,undef,undef,undef,undef,undef,undef,undef,undef,undef,undef],[]⟩) rfl rfl (Lq.2 ⟨⟨_,rfl,rfl⟩,Lq.2 ⟨⟨_,rfl,_,rfl,p1⟩,Lq.2 ⟨⟨_,rfl,_,rfl,p3⟩,L0⟩⟩⟩);generalize(⟨#[.func (.yield l) #[] #[],.pointer (some ⟨b1,0,none⟩),.pointer (some ⟨b3,0,none⟩),undef,undef,undef,undef,undef,undef,undef,undef,undef,undef,undef,undef,undef,undef,undef,undef,undef,undef,undef,undef],[]⟩:Act)=a0 at st0 ⊢;refine Wm ?_
 have:Sb [] (VPb 23 lv):=⟨Stab_VPb (by simp)⟩;have:Sb [] (VPb 97 (.func (.func 123) #[] #[.pointer (some ⟨b5,0,none⟩)])):=⟨Stab_VPb (by simp)⟩;refine rJ [] [VEq lv,Vi (vs.length:Int),Vi 0] [] [(0,VEq (.func (.yield l) #[] #[])),(2,VPb 97 (.func (.func 123) #[] #[.pointer (some ⟨b5,0,none⟩)])),(6,Vi (vs.length:Int)),(7,Vi 0)] st0 ⟨(by refine kr fun _ ac Y h D=>?_;obtain⟨v0,hv0,X0⟩:=h.ot 1;exact load_Pb rfl hv0 X0),(kr1 5 fun _ _ _ _ _ hv0 X0=>len_Sv rfl rfl hv0 X0 hS),ks,trivial⟩ ?_;intro a1 w1 st1;clear st0 p1 p3;refine Wm ?_
 have hgr:=grown_of st1.k.below;refine wpIn_loop_ghost (fun m aX wX=>∃(j:Nat) (pre:List (SdE N vs wb)),j+m=vs.length/\pre.map (·.1.1)=List.range j/\J pre wX/\Below wb.heap.size wb wX/\wX.heap[b5]? =some (.cells #[lv] 23 (0,0))/\St wX.heap.size wX 23 [] [(0,VEq (.func (.yield l) #[] #[])),(2,VPb 97 (.func (.func 123) #[] #[.pointer (some ⟨b5,0,none⟩)])),(6,Vi (vs.length:Int)),(7,Vi j)] aX wX) vs.length ⟨0,[],by omega,rfl,hJ [] _ _ none h0 hgr (fun r e=>by cases e),hBW.trans (st1.k.below.mono hBW.size),(st1.k.below.block _ (lt_blk p5)).trans p5,⟨⟨Below.refl _ _,fun b hb=>absurd hb (by simp),fun b hb=>absurd hb (by simp),fun b hb=>absurd hb (by simp)⟩,Nat.le_refl _,st1.size,st1.defers,st1.sl⟩⟩ ?_;clear st1 hgr p5 h0;intro m aL W1 ⟨j,pre,hj,hpre,hJ1,hB1,p5,st⟩;have hlen:pre.length=j:=by have:=congrArg List.length hpre;simpa using this
 by_cases hlt:j<vs.length
 ·refine Wm ?_
  have:Sb [] (VPb 97 (.func (.func 123) #[] #[.pointer (some ⟨b5,0,none⟩)])):=⟨Stab_VPb (by simp)⟩;refine rJ [] [Vb true] [] [(0,VEq (.func (.yield l) #[] #[])),(2,VPb 97 (.func (.func 123) #[] #[.pointer (some ⟨b5,0,none⟩)])),(6,Vi (vs.length:Int)),(7,Vi j),(8,Vb true)] st ⟨(by refine kr fun _ ac Y h D=>?_;obtain⟨v0,hv0,X0⟩:=h.ot 7;have hV0':v0= .int .i64 j:=X0;obtain⟨v1,hv1,X1⟩:=h.ot 6;have hV1':v1= .int .i64 (vs.length:Int):=X1;exact⟨_,run_lssi rfl (hv0.trans hV0') (hv1.trans hV1'),congrArg Value.bool (dT (by omega))⟩),trivial⟩ ?_;intro a2 w2 st2;clear st;refine Wm ?_
  refine cTI st2 ?_;refine Wm ?_
  refine rJ [] [Vi j,Vi j] [] [(0,VEq (.func (.yield l) #[] #[])),(2,VPb 97 (.func (.func 123) #[] #[.pointer (some ⟨b5,0,none⟩)])),(6,Vi (vs.length:Int)),(7,Vi j),(4,Vi j)] st2 ⟨ks,ks,trivial⟩ ?_;intro a3 w3 st3;have hJ3:=hJ _ _ _ none hJ1 (grown_of st3.k.below) (fun r e=>by cases e);have hB3:Below wb.heap.size wb w3:=hB1.trans (st3.k.below.mono hB1.size);replace p5:=(st3.k.below.block _ (lt_blk p5)).trans p5;replace st3:St w3.heap.size w3 23 [] [(0,VEq (.func (.yield l) #[] #[])),(2,VPb 97 (.func (.func 123) #[] #[.pointer (some ⟨b5,0,none⟩)])),(6,Vi (vs.length:Int)),(7,Vi j),(4,Vi j)] a3 w3:=⟨⟨Below.refl _ _,fun b hb=>absurd hb (by simp),fun b hb=>absurd hb (by simp),fun b hb=>absurd hb (by simp)⟩,Nat.le_refl _,st3.size,st3.defers,st3.sl⟩;clear hJ1 hB1;refine Wm ?_
  refine rgY (BT:=[]) (k:=10) (Vl:=[VEq (.func (.yield l) #[] #[]),Vi j,VEq (.func (.func 123) #[] #[.pointer (some ⟨b5,0,none⟩)]),Vi j,VAt wb (Vv N (cv vs j).1 (cv vs j).2),VEq (.func (.func 123) #[] #[.pointer (some ⟨b5,0,none⟩)]),Vi j,Vi ((j+1:Nat):Int),VAt wb (Vv N (cv vs (j+1)).1 (cv vs (j+1)).2),VAt wb (VSg N vs j)]) st3 ⟨ks,ks,?s2,ks,?s4,?s5,ks,?s7,?s8,?s9,trivial⟩ rfl rfl rfl rfl rfl (fun _ e=>by cases e) (by kernel_rfl) (by kernel_rfl) ?tail rfl (by kernel_rfl);case s2=>refine kr fun _ ac Y h D=>?_;obtain⟨v0,hv0,X0⟩:=h.ot 2;exact load_Pb rfl hv0 X0
  case s5=>refine kr fun _ ac Y h D=>?_;obtain⟨v0,hv0,X0⟩:=h.ot 2;exact load_Pb rfl hv0 X0
  case s4=>refine ke fun _ ac Y h D=>?_;obtain⟨v0,hv0,X0⟩:=h.dp D 12;obtain⟨v1,hv1,X1⟩:=h.dp D 13;exact⟨_,_,run_enterV rfl (hv0.trans X0) hv1 (fun _ _=>rfl),cCorner (wb:=wb) (k:=j) (lv:=lv) X1 ⟨b5,rfl,(h.k.below.block _ (lt_blk p5)).trans p5⟩ (hB3.trans (h.k.below.mono hB3.size)) hS (by omega) (cv_get j (by omega))⟩
  case s7=>exact kr1 16 fun _ _ _ _ v0 hv0 X0=>⟨_,run_addi rfl (hv0.trans (show v0= .int .i64 ((j:Nat):Int)from X0)) rfl wO,congrArg (Value.int .i64) (by omega)⟩
  case s8=>refine ke fun _ ac Y h D=>?_;obtain⟨v0,hv0,X0⟩:=h.dp D 15;obtain⟨v1,hv1,X1⟩:=h.dp D 17;exact⟨_,_,run_enterV rfl (hv0.trans X0) hv1 (fun _ _=>rfl),cCorner (wb:=wb) (k:=j+1) (lv:=lv) X1 ⟨b5,rfl,(h.k.below.block _ (lt_blk p5)).trans p5⟩ (hB3.trans (h.k.below.mono hB3.size)) hS (by omega) (cv_get (j+1) (by omega))⟩
  case s9=>exact kr2 14 18 fun _ _ _ h _ hv0 X0 _ hv1 X1=>build_segment (A:=VAt wb (Vv N (cv vs j).1 (cv vs j).2)) (B:=VAt wb (Vv N (cv vs (j+1)).1 (cv vs (j+1)).2)) rfl hv0 hv1 (fun v _ h=>AggV_Vv _ _ _ v wb h) (fun v _ h=>AggV_Vv _ _ _ v wb h) X0 X1
  case tail=>
   intro listed ac Y h D;obtain⟨v0,hv0,X0⟩:=h.dp D 10;obtain⟨v1,hv1,X1⟩:=h.dp D 11;obtain⟨v2,hv2,X2⟩:=h.dp D 19;have hV0':v0= .func (.yield l) #[] #[]:=X0;have hV1':v1= .int .i64 ((j:Nat):Int):=X1;obtain⟨fn,tmps,assign,body,hy,hR⟩:=hY pre ⟨(j,v2),hlt,X2⟩ Y (hJ _ _ _ none hJ3 (grown_of h.k.below) (fun r e=>by cases e)) (by omega);have hBd:Below wb.heap.size wb Y:=hB3.trans (h.k.below.mono hB3.size);have q5:=(h.k.below.block _ (lt_blk p5)).trans p5;refine⟨fun _ _=>trivial,?_⟩;rw [Oper.semAt_eq _ _ _ (fun _ e=>by cases e),run_yieldV2 (x:= .tmp 10) (y:= .tmp 11) (z:= .tmp 19) (vb:= .int .i64 ((j:Nat):Int)) (vc:=v2) rfl (hv0.trans hV0') (hv1.trans hV1') hv2 hy];refine⟨(by intro e;cases e),hR.mono ?_⟩;have hsz:ac.tmps.size=23:=by rw [h.size,st3.size]
   have hdf:ac.defers= []:=by rw [h.defers,st3.defers]
   have o2:ac.tmps[2]? =a3.tmps[2]? :=h.oth 2 (by kernel_rfl);have o0:ac.tmps[0]? =a3.tmps[0]? :=h.oth 0 (by kernel_rfl);have o6:ac.tmps[6]? =a3.tmps[6]? :=h.oth 6 (by kernel_rfl);have o7:ac.tmps[7]? =a3.tmps[7]? :=h.oth 7 (by kernel_rfl);obtain⟨x0,x1,x2⟩:=st3.sl (0,VEq (.func (.yield l) #[] #[])) (lS_mem rfl);obtain⟨z0,z1,z2,z3,z4⟩:=st3.sl (2,VPb 97 (.func (.func 123) #[] #[.pointer (some ⟨b5,0,none⟩)])) (lS_mem rfl);obtain⟨y0,y1,y2⟩:=st3.sl (6,Vi (vs.length:Int)) (lS_mem rfl);obtain⟨u0,u1,u2⟩:=st3.sl (7,Vi j) (lS_mem rfl);have z5:=(h.k.below.block _ (lt_blk z4)).trans z4
   rintro e W2 (⟨rfl,hJ2,hK⟩|⟨rfl,hJ2⟩)
   ·refine⟨_,run_not (x:= .tmp 20) rfl (put_eval (by omega)),?_⟩;have q5':W2.heap[b5]? =some (.cells #[lv] 23 (0,0)):=(hK.2.row _ _ _ q5 hbt1).trans q5;have z6:=(hK.2.row _ _ _ z5 hbt2).trans z5;have st4:St W2.heap.size W2 23 [] [(0,VEq (.func (.yield l) #[] #[])),(2,VPb 97 (.func (.func 123) #[] #[.pointer (some ⟨b5,0,none⟩)])),(6,Vi (vs.length:Int)),(7,Vi j),(21,Vb false)] ((ac.put (some 20) (.bool true)).put (some 21) (.bool (!true))) W2:=⟨⟨Below.refl _ _,fun b hb=>absurd hb (by simp),fun b hb=>absurd hb (by simp),fun b hb=>absurd hb (by simp)⟩,Nat.le_refl _,by rw [put_size,put_size,hsz],by rw [put_defers',put_defers',hdf],Lq.2 ⟨⟨_,(put2_get (t:=0) (by decide) (by decide)).trans (o0.trans x1),x2⟩,Lq.2 ⟨⟨_,(put2_get (t:=2) (by decide) (by decide)).trans (o2.trans z1),z2,z3,z6⟩,Lq.2 ⟨⟨_,(put2_get (t:=6) (by decide) (by decide)).trans (o6.trans y1),y2⟩,Lq.2 ⟨⟨_,(put2_get (t:=7) (by decide) (by decide)).trans (o7.trans u1),u2⟩,Lq.2 ⟨⟨_,put_get_self (by rw [put_size,hsz];decide),rfl⟩,L0⟩⟩⟩⟩⟩⟩;generalize(ac.put (some 20) (.bool true)).put (some 21) (.bool (!true))=a4 at st4 ⊢;have hB2:=hK.1 hBd;refine Wm ?_
    refine cFI st4 ?_;refine Wm ?_
    refine rJ [] [Vi ((j+1:Nat):Int),Vi ((j+1:Nat):Int)] [] [(0,VEq (.func (.yield l) #[] #[])),(2,VPb 97 (.func (.func 123) #[] #[.pointer (some ⟨b5,0,none⟩)])),(6,Vi (vs.length:Int)),(7,Vi ((j+1:Nat):Int))] st4 ⟨?s0,ks,trivial⟩ ?_
    case s0=>
     refine k_run0 SbB.out (by kernel_rfl) fun listed ac Y h D hnl=>⟨trivial,?_⟩
     obtain⟨v0,hv0,X0⟩:=h.out0 hnl (7,Vi j) (lS_mem rfl) 1 (by kernel_rfl) (.inr (by kernel_rfl));exact⟨_,run_addi rfl (hv0.trans (show v0= .int .i64 j from X0)) rfl wO,congrArg (Value.int .i64) (by omega)⟩
    intro a5 w5 st5;exact⟨m - 1,by omega,j+1,pre++ [⟨(j,v2),hlt,X2⟩],by omega,map_snoc hpre rfl,hJ _ _ _ none hJ2 (grown_of st5.k.below) (fun r e=>by cases e),hB2.trans (st5.k.below.mono hB2.size),(st5.k.below.block _ (lt_blk q5')).trans q5',⟨⟨Below.refl _ _,fun b hb=>absurd hb (by simp),fun b hb=>absurd hb (by simp),fun b hb=>absurd hb (by simp)⟩,Nat.le_refl _,st5.size,st5.defers,st5.sl⟩⟩
   ·refine⟨_,run_not (x:= .tmp 20) rfl (put_eval (by omega)),?_⟩;refine Wm ?_
    refine wpIn_cond_true (put_eval (by rw [put_size];omega)) ?_;refine wpIn_ret ?_;simp only [Exit.inBlock,Exit.then];refine bodyPost_ret (results_none rfl _ _ _) (by rw [put_defers',put_defers',hdf]) ⟨⟨_,rfl⟩,.inr ⟨_,⟨?_,?_⟩,hJ2⟩⟩
    ·rw [List.length_append,List.length_singleton,hlen];exact map_snoc hpre rfl
    ·rw [List.length_append,List.length_singleton,hlen];omega
 ·refine Wm ?_
  have:Sb [] (VPb 97 (.func (.func 123) #[] #[.pointer (some ⟨b5,0,none⟩)])):=⟨Stab_VPb (by simp)⟩;refine rJ [] [Vb false] [] [(0,VEq (.func (.yield l) #[] #[])),(2,VPb 97 (.func (.func 123) #[] #[.pointer (some ⟨b5,0,none⟩)])),(6,Vi (vs.length:Int)),(7,Vi j),(8,Vb false)] st ⟨(by refine kr fun _ ac Y h D=>?_;obtain⟨v0,hv0,X0⟩:=h.ot 7;have hV0':v0= .int .i64 j:=X0;obtain⟨v1,hv1,X1⟩:=h.ot 6;have hV1':v1= .int .i64 (vs.length:Int):=X1;exact⟨_,run_lssi rfl (hv0.trans hV0') (hv1.trans hV1'),congrArg Value.bool (dF (by omega))⟩),trivial⟩ ?_;intro a2 w2 st2;refine Wm ?_
  obtain⟨vc,hc1,hc2⟩:=st2.slot (8,Vb false) (lS_mem rfl);refine wpIn_cond_false (hc1.trans hc2) (Ix ?_);simp only [Exit.inBlock,Exit.then,if_true];exact bodyPost_end (results_none rfl _ _ _) st2.defers ⟨⟨_,rfl⟩,.inl ⟨pre,by rw [hpre];congr 1;omega,hJ _ _ _ none hJ1 (grown_of st2.k.below) (fun r e=>by cases e)⟩⟩
end Go.Proofs.YteacdbgalloaiaaGreat
