/- Contracts of the packages integer, rat, plane, polygon and their references. -/
import Derived.Deep.MidRow
import Derived.Test.YteacdbgalloaiaaGreatO8
import Derived.Test.YteacdbgalloaiaaGreatO13
import Derived.Deep.LoopGhost
import Derived.Test.YteacdbgalloaiaaGreatO9
import Derived.Great.BuildSlice
set_option linter.unusedVariables false
set_option maxRecDepth 100000
set_option maxHeartbeats 6400000
namespace Go.Proofs.YteacdbgalloaiaaGreat
open Go Go.RowKit
theorem World_heap_eq {w:World}{h:Array Obj}(e:h=w.heap):{w with heap:=h}=w:=by subst e;rfl
theorem setRow_same {w:World}{g:Nat}{cs:Array Value}{T:TypeId}{fr:Nat×Nat}(hg:w.heap[g]? =some (.cells cs T fr)):w.setRow g cs=w:=by
 unfold World.setRow;refine World_heap_eq (Array.ext_getElem? fun j=>?_);rw [Array.getElem?_modify];by_cases e:g=j
 ·subst e;rw [if_pos rfl,hg];rfl
 ·rw [if_neg e]
theorem setRow_two (w:World)(g:Nat)(x y:Array Value):(w.setRow g x).setRow g y=w.setRow g y:=by
 unfold World.setRow
 congr 1
 apply Array.ext_getElem?;intro j;simp only [Array.getElem?_modify];by_cases e:g=j
 ·subst e;simp only [if_true];cases w.heap[g]? with
  |none=>rfl
  |some o=>cases o<;>rfl
 ·simp [e]
def updR (cs:Array Value):Nat->List Value->Array Value
 |_,[]=>cs
 |o,v::r=>updR (cs.setIfInBounds o v) (o+1) r
theorem updR_size:∀(l:List Value) (o:Nat) (cs:Array Value),(updR cs o l).size=cs.size
 | [],_,_=>rfl
 |_::r,o,cs=>by unfold updR;rw [updR_size r];simp
theorem updR_get:∀(l:List Value) (o:Nat) (cs:Array Value) (j:Nat),o+l.length<=cs.size->(updR cs o l)[j]? =if o<=j/\j<o+l.length then l[j - o]? else cs[j]?
 | [],o,cs,j,_=>by
  unfold updR;rw [if_neg (by simp)]
 |v::r,o,cs,j,h=>by
  unfold updR;have h':o+1+r.length<=cs.size:=by simp at h;omega
  rw [updR_get r (o+1) _ j (by simpa using h')];by_cases h1:o+1<=j/\j<o+1+r.length
  ·rw [if_pos h1,if_pos (by simp;omega),show j - o=j - (o+1)+1 by omega,List.getElem?_cons_succ]
  ·rw [if_neg h1];by_cases h2:j=o
   ·subst h2;rw [if_pos (by simp),Nat.sub_self,List.getElem?_cons_zero,Array.getElem?_setIfInBounds_self_of_lt (by omega)]
   ·rw [if_neg (by simp;omega),Array.getElem?_setIfInBounds_ne (fun e=>h2 e.symm)]
theorem setCells_upd {g:Nat}{T:TypeId}{fr:Nat×Nat}:∀(l:List Value) (o:Nat) (w:World) (cs:Array Value),w.heap[g]? =some (.cells cs T fr)->w.setCells g o l=w.setRow g (updR cs o l)
 | [],_,w,cs,hg=>(setRow_same hg).symm
 |v::r,o,w,cs,hg=>by
  have e1:w.setCell ⟨g,o,none⟩ v=w.setRow g (cs.setIfInBounds o v):=by
   unfold World.setCell World.setRow
   congr 1
   apply Array.ext_getElem?;intro j;simp only [Array.getElem?_modify];by_cases e:g=j
   ·subst e;simp [hg]
   ·simp [e]
  unfold World.setCells updR;rw [e1,setCells_upd r (o+1) _ _ (setRow_heap w g cs _ T fr hg),setRow_two]
structure Rw where
 g:Nat
 k:Nat
 T:TypeId
 m:Nat
 P:VP
 P0:VP
def RowI (r:Rw)(listed:Array Bool)(w:World):Prop:=∃cs,w.heap[r.g]? =some (.cells cs r.T (0,0))/\cs.size=r.m/\NoInt cs/\(listed.getD r.k false=true->r.P (.agg cs) w)/\(listed.getD r.k false=false->r.P0 (.agg cs) w)
section
variable {P:Program}{md:Region.Mode}{ops:Array Oper}{Q:Exit->Act->World->Prop}{a0:Act}{V:Nat->VP}{n0:Nat}{w0:World}{B:List Bd}{SL:List (Nat×VP)}{BT BT2:List (TypeId×Nat×Nat)}{r:Rw}
theorem RI.mono {w w':World}(h:RI BT w w')(hs:∀e∈BT,e∈BT2)(hs2:∀e∈BT2,e.2.1=0->e∈BT):RI BT2 w w':=⟨h.size,h.int,fun k cs T hk hn=>h.row k cs T hk (hn.imp (fun hn e he=>hn e (hs e he)) fun ⟨h0,e,he,e1,e2,e3⟩=>⟨h0,e,hs2 e he e2,e1,e2,e3⟩),fun hb=>h.oth fun e he=>hb e (hs e he)⟩
theorem RowI.keep {listed:Array Bool}{w w':World}{i:Nat}(h:RowI r listed w)(hr:RI BT w w')(hn:BT.any (fun e=>e.1==r.T && e.2.1==r.m)=false)(hP:Stab BT r.P)(hP0:Stab BT r.P0)(hi:i≠r.k):RowI r (listed.setIfInBounds i true) w':=by
 obtain⟨cs,h1,h2,h3,h4,h5⟩:=h
 have e:(listed.setIfInBounds i true).getD r.k false=listed.getD r.k false:=by
  simp only [Array.getD_eq_getD_getElem?,Array.getElem?_setIfInBounds_ne hi]
 exact⟨cs,(hr.row _ _ _ h1 (BT_not hn h2)).trans h1,h2,h3,fun hl=>hP _ _ _ (h4 (by rw [<-e];exact hl)) hr,fun hl=>hP0 _ _ _ (h5 (by rw [<-e];exact hl)) hr⟩
def KStepR (BT2:List (TypeId×Nat×Nat))(P:Program)(md:Region.Mode)(ops:Array Oper)(Q:Exit->Act->World->Prop)(a0:Act)(V:Nat->VP)(n0:Nat)(w0:World)(B:List Bd)(SL:List (Nat×VP))(r:Rw)(o:Oper):Prop:=
 ∀listed a w,KI md ops a0 V n0 w0 B SL listed a w->RowI r listed w->(∀e∈o.after,Region.binds md e=true->listed.getD e.on false=true)->o.dst.all (fun d=>decide (d<a0.tmps.size))=true->r.k<listed.size->listed.getD r.k false=false->
  ∀K:Act->World->Prop,(∀v w',KS n0 w0 B (listed.setIfInBounds r.k true) (a.put o.dst v) w'->RI BT2 w w'->RowI r (listed.setIfInBounds r.k true) w'->V r.k v w'->K (a.put o.dst v) w')->(if Region.wanted o (yielded ops a.tmps)then o.wp P a w K Q else K (a.put o.dst undef) w)
theorem wpAny_r (hfore:kFore md ops=true)(hown:flowOwn ops=true)(hin:∀(i:Nat) (o:Oper) (d:Tmp),ops[i]? =some o->o.dst=some d->d<a0.tmps.size)(hV:∀i,Stab BT2 (V i))(hSL:∀p∈SL,Stab BT2 p.2)(hsub:∀e∈BT,e∈BT2)(hsub2:∀e∈BT2,e.2.1=0->e∈BT)
 (hn:BT.any (fun e=>e.1==r.T && e.2.1==r.m)=false) (hP:Stab BT r.P) (hP0:Stab BT r.P0)
 (hstep:∀(i:Nat) (o:Oper),ops[i]? =some o->i≠r.k->KStep BT P md ops Q a0 V n0 w0 B SL i o) (hstepR:∀o,ops[r.k]? =some o->KStepR BT2 P md ops Q a0 V n0 w0 B SL r o)
 (hdone:∀(listed:Array Bool) (a:Act) (w:World),(∀i,i<ops.size->listed.getD i false=true)->KI md ops a0 V n0 w0 B SL listed a w->RowI r listed w->Q .normal a w):
 ∀(fuel:Nat) (listed:Array Bool) (a:Act) (w:World),KI md ops a0 V n0 w0 B SL listed a w->RowI r listed w->listed.toList.count false<=fuel->wpAny P md ops Q fuel listed a w:=by
 intro fuel
 induction fuel with
 |zero=>
  intro listed a w h hr hc;have hall:∀i,i<ops.size->listed.getD i false=true:=fun i hi=>count_zero listed (by omega) i (by rw [h.len];exact hi)
  refine⟨?_,hdone _ _ _ hall h hr⟩;cases hr':Region.ready md ops listed with
  |nil=>rfl
  |cons i l=>
   have hi:i∈Region.ready md ops listed:=by rw [hr'];exact List.mem_cons_self
   obtain⟨h1,o,ho,_⟩:=mem_ready.1 hi
   have hlt:i<ops.size:=by
    rcases Nat.lt_or_ge i ops.size with h'|h'
    ·exact h'
    ·rw [Array.getElem?_eq_none h'] at ho;cases ho
   have h2:=hall i hlt;have h3:i<listed.size:=by rw [h.len];exact hlt
   simp [Array.getD,h3] at h1 h2;rw [h2] at h1;cases h1
 |succ fuel ih=>
  intro listed a w h hr hc;refine⟨fun hr'=>hdone _ _ _ (kready_none hfore h.len hr') h hr,fun i hi=>?_⟩;obtain⟨h1,o,ho,hdep⟩:=mem_ready.1 hi
  have hlt:i<listed.size:=by
   rw [h.len];rcases Nat.lt_or_ge i ops.size with h'|h'
   ·exact h'
   ·rw [Array.getElem?_eq_none h'] at ho;cases ho
  have hcnt:=count_set listed i hlt h1;have hnl:listed.getD i false=false:=by have h5:=h1;simp only [Array.getD,hlt,dif_pos] at h5 ⊢;exact h5
  have key:if Region.wanted o (yielded ops a.tmps)then o.wp P a w (wpAny P md ops Q fuel (listed.setIfInBounds i true)) Q else wpAny P md ops Q fuel (listed.setIfInBounds i true) (a.put o.dst undef) w:=by
   by_cases hik:i=r.k
   ·subst hik;exact hstepR o ho listed a w h hr hdep (dst_ok hin ho) hlt hnl _ fun v w' hS hR hrow hv=>ih _ _ _ (h.step hown hin hV hSL ho hdep hS hR hv) hrow (by omega)
   ·exact hstep i o ho hik listed a w h hdep (dst_ok hin ho) hlt hnl _ fun v w' hS hR hv=>ih _ _ _ (h.step hown hin hV hSL ho hdep hS (hR.mono hsub hsub2) hv) (hr.keep hR hn hP hP0 hik) (by omega)
  unfold wpOp;rw [ho];by_cases hw:Region.wanted o (yielded ops a.tmps)=true
  ·simp only [hw,if_true] at key ⊢;exact .inl key
  ·simp only [hw] at key ⊢;exact key
theorem wpList_r (hfore:kFore md ops=true)(hown:flowOwn ops=true)(hin:∀(i:Nat) (o:Oper) (d:Tmp),ops[i]? =some o->o.dst=some d->d<a0.tmps.size)(hV:∀i,Stab BT2 (V i))(hSL:∀p∈SL,Stab BT2 p.2)(hsub:∀e∈BT,e∈BT2)(hsub2:∀e∈BT2,e.2.1=0->e∈BT)
 (hn:BT.any (fun e=>e.1==r.T && e.2.1==r.m)=false) (hP:Stab BT r.P) (hP0:Stab BT r.P0)
 (hstep:∀(i:Nat) (o:Oper),ops[i]? =some o->i≠r.k->KStep BT P md ops Q a0 V n0 w0 B SL i o) (hstepR:∀o,ops[r.k]? =some o->KStepR BT2 P md ops Q a0 V n0 w0 B SL r o)
 (hdone:∀(listed:Array Bool) (a:Act) (w:World),(∀i,i<ops.size->listed.getD i false=true)->KI md ops a0 V n0 w0 B SL listed a w->RowI r listed w->Q .normal a w):
 ∀(rest:List Oper) (k:Nat) (listed:Array Bool) (a:Act) (w:World),ops.toList.drop k=rest->(∀i,i<k->i<ops.size->listed.getD i false=true)->(∀i,k<=i->listed.getD i false=false)->KI md ops a0 V n0 w0 B SL listed a w->RowI r listed w->wpList P ops Q rest a w:=by
 intro rest
 induction rest with
 |nil=>
  intro k listed a w hk hl _ h hr
  have:ops.size<=k:=by
   have:=List.drop_eq_nil_iff.1 hk
   simpa using this
  exact hdone listed a w (fun i hi=>hl i (by omega) hi) h hr
 |cons o rest ih=>
  intro k listed a w hk hl hnl h hr
  have hlt:k<ops.toList.length:=by
   rcases Nat.lt_or_ge k ops.toList.length with h'|h'
   ·exact h'
   ·rw [List.drop_eq_nil_iff.2 h'] at hk;cases hk
  rw [List.drop_eq_getElem_cons hlt] at hk;have ho':ops.toList[k]=o:=(List.cons.inj hk).1
  have ho:ops[k]? =some o:=by
   have h1:k<ops.size:=by simpa using hlt
   rw [Array.getElem?_eq_getElem h1]
   simpa using ho'
  have hlk:k<listed.size:=by rw [h.len];simpa using hlt
  have hdep:∀e∈o.after,Region.binds md e=true->listed.getD e.on false=true:=fun e he hb=>by
   have h1:=kFore_spec hfore ho e he hb
   exact hl e.on h1 (by
    have:k<ops.size:=by simpa using hlt
    omega)
  have next:∀(v:Value) (w':World),KI md ops a0 V n0 w0 B SL (listed.setIfInBounds k true) (a.put o.dst v) w'->RowI r (listed.setIfInBounds k true) w'->wpList P ops Q rest (a.put o.dst v) w':=fun v w' hK hrow=>ih (k+1) _ _ _ (List.cons.inj hk).2 (fun i hi hi'=>by
   rw [getD_set _ _ _ hlk];split
   ·rfl
   ·exact hl i (by omega) hi') (fun i hi=>by
   rw [getD_set _ _ _ hlk,if_neg (by omega)]
   exact hnl i (by omega)) hK hrow
  have key:if Region.wanted o (yielded ops a.tmps)then o.wp P a w (wpList P ops Q rest) Q else wpList P ops Q rest (a.put o.dst undef) w:=by
   by_cases hik:k=r.k
   ·subst hik;exact hstepR o ho listed a w h hr hdep (dst_ok hin ho) hlk (hnl _ (Nat.le_refl _)) _ fun v w' hS hR hrow hv=>next v w' (h.step hown hin hV hSL ho hdep hS hR hv) hrow
   ·exact hstep k o ho hik listed a w h hdep (dst_ok hin ho) hlk (hnl _ (Nat.le_refl _)) _ fun v w' hS hR hv=>next v w' (h.step hown hin hV hSL ho hdep hS (hR.mono hsub hsub2) hv) (hr.keep hR hn hP hP0 hik)
  unfold wpList;by_cases hw:Region.wanted o (yielded ops a.tmps)=true
  ·simp only [hw,if_true] at key ⊢;exact .inl key
  ·simp only [hw] at key ⊢;exact key
def AllR (k:Nat)(BT:List (TypeId×Nat×Nat))(P:Program)(md:Region.Mode)(ops:Array Oper)(Q:Exit->Act->World->Prop)(a0:Act)(V:Nat->VP)(n0:Nat)(w0:World)(B:List Bd)(SL:List (Nat×VP)):Nat->List Oper->Prop
 |_,[]=>True
 |i,o::l=>(i≠k->KStep BT P md ops Q a0 V n0 w0 B SL i o)/\AllR k BT P md ops Q a0 V n0 w0 B SL (i+1) l
theorem AllR.get {k:Nat}:∀(l:List Oper) (i:Nat),AllR k BT P md ops Q a0 V n0 w0 B SL i l->∀(j:Nat) (o:Oper),l[j]? =some o->i+j≠k->KStep BT P md ops Q a0 V n0 w0 B SL (i+j) o
 | [],_,_,j,o,ho,_=>by simp at ho
 |x::l,i,h,0,o,ho,hne=>by
  have:x=o:=by simpa using ho
  subst this;exact h.1 hne
 |x::l,i,h,j+1,o,ho,hne=>by
  have:=AllR.get l (i+1) h.2 j o (by simpa using ho) (by omega);rw [show i+(j+1)=i+1+j by omega];exact this
def RowAt (g:Nat)(T:TypeId)(m:Nat)(A:VP)(w:World):Prop:=∃cs,w.heap[g]? =some (.cells cs T (0,0))/\cs.size=m/\NoInt cs/\A (.agg cs) w
end
section
variable {Q:Exit->Act->World->Prop}{Vl:List VP}{n0:Nat}{w0:World}{B:List Bd}{SL:List (Nat×VP)}{BT:List (TypeId×Nat×Nat)}
theorem rgR {id N:Nat}{l:List Oper}{ord:Bool}{L:List Bd}{SL':List (Nat×VP)}{a:Act}{w:World}(r:Rw)(st:St n0 w0 N L SL a w)(hrow:RowAt r.g r.T r.m r.P0 w)(hstep:AllR r.k BT Tryz.prog .any l.toArray Q a (GV Vl) n0 w0 B SL 0 l)
 (hstepR:∀o,l.toArray[r.k]? =some o->KStepR ((r.T,r.m,0)::BT) Tryz.prog .any l.toArray Q a (GV Vl) n0 w0 B SL r o) (hdone:∀a' w',St n0 w0 N (B.map Bd.fin) SL' a' w'->RowAt r.g r.T r.m r.P w'->Q .normal a' w')
 [hB:SbB ((r.T,r.m,0)::BT) B] [hS:SbS ((r.T,r.m,0)::BT) SL] [hL:SbL ((r.T,r.m,0)::BT) Vl] [hP:Sb BT r.P] [hP0:Sb BT r.P0]
 (hn:BT.any (fun e=>e.1==r.T && e.2.1==r.m)=false) (hk:r.k<l.length)
 (hst:StartsF L B:=by repeat (first|exact trivial|refine⟨.inl ⟨_,rfl⟩,?_⟩|refine⟨.inr ⟨_,rfl,rfl,rfl,rfl,rfl,rfl,.inr ⟨rfl,rfl,rfl⟩⟩,?_⟩|refine⟨.inr ⟨_,rfl,rfl,rfl,rfl,rfl,rfl,.inl ⟨_,rfl,rfl,rfl⟩⟩,?_⟩))
 (hg:GetsF l.toArray (GV Vl) SL SL':=by repeat (first|exact trivial|refine⟨.inl ⟨rfl,rfl⟩,?_⟩|refine⟨.inr ⟨rfl,by kernel_rfl⟩,?_⟩))
 (hm:Tryz.prog.follows .mixedOrders=true:=by kernel_rfl) (hfore:kFore .any l.toArray=true:=by kernel_rfl) (hown:flowOwn l.toArray=true:=by kernel_rfl) (hin:l.all (fun o=>match o.dst with|some d=>decide (d<N)|none=>true)=true:=by kernel_rfl)
 (hlt:B.all (fun b=>(match b.ia with|some i=>decide (i<l.toArray.size)|none=>true) && (match b.ik with|some i=>decide (i<l.toArray.size)|none=>true))=true:=by kernel_rfl) (hm0:r.m≠0:=by decide):(Code.region id l.toArray ord).wp Tryz.prog Q a w:=by
 have hin':∀(i:Nat) (o:Oper) (d:Tmp),l.toArray[i]? =some o->o.dst=some d->d<a.tmps.size:=fun i o d ho D=>by
  rw [st.size];rw [List.all_eq_true] at hin;have ho':l[i]? =some o:=by simpa using ho
  have:=hin o (List.mem_of_getElem? ho');rw [D] at this;exact of_decide_eq_true this
 have hs':∀(i:Nat) (o:Oper),l.toArray[i]? =some o->i≠r.k->KStep BT Tryz.prog .any l.toArray Q a (GV Vl) n0 w0 B SL i o:=fun i o ho hne=>by
  have:=AllR.get l 0 hstep i o (by simpa using ho) (by omega);rw [Nat.zero_add] at this;exact this
 have hsub:∀e∈BT,e∈(r.T,r.m,0)::BT:=fun e he=>List.mem_cons_of_mem _ he
 have hsub2:∀e∈(r.T,r.m,0)::BT,e.2.1=0->e∈BT:=fun e he h0=>(List.mem_cons.1 he).resolve_left fun e1=>hm0 (by rw [e1] at h0;exact h0)
 have hno:∀i,(Array.replicate l.length false).getD i false=true->False:=fun i hl=>by
  simp only [Array.getD_eq_getD_getElem?,Array.getElem?_replicate] at hl;split at hl<;>simp at hl
 have hno':∀i,(Array.replicate l.length false).getD i false=false:=fun i=>by
  cases h:(Array.replicate l.length false).getD i false with
  |false=>rfl
  |true=>exact(hno i h).elim
 obtain⟨cs,c1,c2,c3,c4⟩:=hrow;have hst':=st.start hst.to l.length
 have fin:∀(listed:Array Bool) (a':Act) (w':World),(∀i,i<l.toArray.size->listed.getD i false=true)->KI .any l.toArray a (GV Vl) n0 w0 B SL listed a' w'->RowI r listed w'->Q .normal a' w':=fun listed a' w' hall kd hr=>by
  obtain⟨cs,d1,d2,d3,d4,-⟩:=hr;exact hdone a' w' (kd.st hall st.size st.defers hlt SL' hg.to) ⟨cs,d1,d2,d3,d4 (hall _ (by simpa using hk))⟩
 cases ord with
 |true=>
  refine wp_region_any hm (wpAny_r hfore hown hin' (stab_of hL.out) hS.out hsub hsub2 hn hP.out hP0.out hs' hstepR fin _ _ _ _ ⟨?_,st.n,by simp,rfl,rfl,fun _ _=>rfl,fun i o d ho hl _=>(hno i (by simpa using hl)).elim,fun p hp=>?_,fun k o _ hl=>(hno k (by simpa using hl)).elim⟩ ⟨cs,c1,c2,c3,fun hl=>(hno _ (by simpa using hl)).elim,fun _=>hP0.out _ _ _ c4 (RI.drew w)⟩ ?_)
  ·have:=hst'.drew hB.out
   simpa using this
  ·obtain⟨v,h1,h2⟩:=st.sl p hp;exact⟨v,h1,hS.out p hp _ _ _ h2 (RI.drew w)⟩
  ·simp
 |false=>
  exact wp_region_lit (wpList_r hfore hown hin' (stab_of hL.out) hS.out hsub hsub2 hn hP.out hP0.out hs' hstepR fin l 0 (Array.replicate l.length false) a w (by simp) (fun i hi=>by omega) (fun i _=>hno' i) ⟨hst',st.n,by simp,rfl,rfl,fun _ _=>rfl,fun i o d ho hl _=>(hno i hl).elim,st.sl,fun k o _ hl=>(hno k hl).elim⟩ ⟨cs,c1,c2,c3,fun hl=>(hno _ hl).elim,fun _=>c4⟩)
end
section
variable {P:Program}{md:Region.Mode}{ops:Array Oper}{Q:Exit->Act->World->Prop}{a0:Act}{n0 n:Nat}{w0:World}{B:List Bd}{SL:List (Nat×VP)}{BT:List (TypeId×Nat×Nat)}{ro:Option Nat}
def waits (md:Region.Mode)(ops:Array Oper)(k:Nat)(o1:Oper):Bool:=(List.range k).all fun j=>o1.after.any (fun e=>e.on==j && Region.binds md e)||(List.range k).any (fun i=>Nat.blt j i && (match ops[i]? with|some o=>o.after.any (fun e=>e.on==j && Region.binds md e)|none=>false))
theorem after_any {md:Region.Mode}{after:Array Edge}{j:Nat}(h:after.any (fun e=>e.on==j && Region.binds md e)=true):∃e∈after,Region.binds md e=true/\e.on=j:=by
 rw [Array.any_eq_true] at h;obtain⟨i,hi,h1⟩:=h;simp only [Bool.and_eq_true,beq_iff_eq] at h1;exact⟨_,Array.getElem_mem hi,h1.2,h1.1⟩
theorem waits_all {V:Nat->VP}{k:Nat}{o1:Oper}{listed:Array Bool}{a:Act}{w:World}(hw:waits md ops k o1=true)(h:KI md ops a0 V n0 w0 B SL listed a w)(hdep:∀e∈o1.after,Region.binds md e=true->listed.getD e.on false=true):∀(m j:Nat),j<k->k - j<=m->listed.getD j false=true:=by
 intro m
 induction m with
 |zero=>intro j h1 h2;omega
 |succ m ih=>
  intro j h1 h2;unfold waits at hw;rw [List.all_eq_true] at hw;have:=hw j (by simpa using h1);rw [Bool.or_eq_true] at this;rcases this with h3|h3
  ·obtain⟨e,he,hb,hon⟩:=after_any h3;rw [<-hon];exact hdep e he hb
  ·rw [List.any_eq_true] at h3;obtain⟨i,hi,h4⟩:=h3;rw [Bool.and_eq_true] at h4;have hi':i<k:=by simpa using hi
   have hji:j<i:=by simpa [Nat.blt_eq] using h4.1
   have hil:=ih i hi' (by omega);cases ho:ops[i]? with
   |none=>rw [ho] at h4;cases h4.2
   |some o=>
    rw [ho] at h4;obtain⟨e,he,hb,hon⟩:=after_any h4.2;rw [<-hon];exact h.closed i o ho hil e he hb
theorem wpAnyIn_last {k:Nat}{o2:Oper}(hfore:kFore md ops=true)(hk:ops[k]? =some o2)(hsz:ops.size=k+1)(hg2:o2.guard=none)(hnd:∀c,o2.op≠ .defer c):
 ∀(fuel:Nat) (listed:Array Bool) (a:Act) (w:World),listed.size=ops.size->(∀j,j<k->listed.getD j false=true)->listed.getD k true=false->listed.toList.count false<=fuel->(∃v2,(execOp a.eval o2).run P w= .ok (.value v2) w/\Q .normal (a.put o2.dst v2) w)->wpAnyIn (fW ro) n P md ops Q fuel listed a w:=by
 intro fuel listed a w hlen hall hn hf ⟨v2,hrun,hQ⟩;have hkl:k<listed.size:=by omega
 have hcnt:=count_set listed k hkl hn;cases fuel with
 |zero=>omega
 |succ fuel=>
  refine⟨fun hr=>?_,fun i hi=>?_⟩
  ·exfalso;have:=kready_none hfore hlen hr k (by omega);simp only [Array.getD,hkl,dif_pos] at this hn;rw [this] at hn;cases hn
  obtain⟨h1,o,ho,hdep⟩:=mem_ready.1 hi
  have hlt:i<ops.size:=by
   rcases Nat.lt_or_ge i ops.size with h'|h'
   ·exact h'
   ·rw [Array.getElem?_eq_none h'] at ho;cases ho
  have hil:i<listed.size:=by omega
  have hik:i=k:=by
   rcases Nat.lt_or_ge i k with h'|h'
   ·have:=hall i h';simp only [Array.getD,hil,dif_pos] at this h1;rw [this] at h1;cases h1
   ·omega
  subst hik;rw [hk] at ho;cases ho
  have hall2:∀j,j<ops.size->(listed.setIfInBounds i true).getD j false=true:=fun j hj=>by
   rw [getD_set _ _ _ hkl];split
   ·rfl
   ·exact hall j (by omega)
  have hdone:∀f,wpAnyIn (fW ro) n P md ops Q f (listed.setIfInBounds i true) (a.put o2.dst v2) w:=by
   have hno:∀j,j∈Region.ready md ops (listed.setIfInBounds i true)->False:=fun j hj=>by
    obtain⟨h1,o,ho,-⟩:=mem_ready.1 hj
    have hj':j<ops.size:=by
     rcases Nat.lt_or_ge j ops.size with h'|h'
     ·exact h'
     ·rw [Array.getElem?_eq_none h'] at ho;cases ho
    have:=hall2 j hj';have hj2:j<(listed.setIfInBounds i true).size:=by simp;omega
    simp only [Array.getD,hj2,dif_pos] at this h1;rw [this] at h1;cases h1
   intro f;cases f with
   |zero=>exact⟨List.eq_nil_iff_forall_not_mem.2 (fun j hj=>hno j hj),hQ⟩
   |succ f=>exact⟨fun _=>hQ,fun j hj=>(hno j hj).elim⟩
  have hw:Region.wanted o2 (yielded ops a.tmps)=true:=wanted_of (by unfold Guards;rw [hg2];trivial);unfold wpOpIn;rw [hk];simp only [hw,if_true];refine wp_in hnd ?_;unfold Oper.wp;rw [hrun];exact hdone _
theorem wpAny_y {V:Nat->VP}{k:Nat}{o1 o2:Oper}(hfore:kFore md ops=true)(hown:flowOwn ops=true)(hin:∀(i:Nat) (o:Oper) (d:Tmp),ops[i]? =some o->o.dst=some d->d<a0.tmps.size)(hV:∀i,Stab BT (V i))(hSL:∀p∈SL,Stab BT p.2)
 (hk1:ops[k]? =some o1) (hk2:ops[k+1]? =some o2) (hsz:ops.size=k+2) (hg1:o1.guard=none) (hg2:o2.guard=none) (hnd2:∀c,o2.op≠ .defer c)
 (hdep1:waits md ops k o1=true) (hdep2:∃e∈o2.after,Region.binds md e=true/\e.on=k)
 (hstep:∀(i:Nat) (o:Oper),i<k->ops[i]? =some o->KStepI BT ro n P md ops Q a0 V n0 w0 B SL i o)
 (htail:∀(listed:Array Bool) (a:Act) (w:World),KI md ops a0 V n0 w0 B SL listed a w->(∀e∈o1.after,Region.binds md e=true->listed.getD e.on false=true)->o1.wpIn (fW ro) n P a w (fun a2 w2=>∃v2,(execOp a2.eval o2).run P w2= .ok (.value v2) w2/\Q .normal (a2.put o2.dst v2) w2) Q):
 ∀(fuel:Nat) (listed:Array Bool) (a:Act) (w:World),KI md ops a0 V n0 w0 B SL listed a w->listed.getD k true=false->listed.getD (k+1) true=false->listed.toList.count false<=fuel->wpAnyIn (fW ro) n P md ops Q fuel listed a w:=by
 intro fuel
 induction fuel with
 |zero=>
  intro listed a w h hn1 hn2 hc;exfalso;have:=count_zero listed (by omega) k (by rw [h.len];omega);have hkl:k<listed.size:=by rw [h.len];omega
  simp only [Array.getD,hkl,dif_pos] at this hn1;rw [this] at hn1;cases hn1
 |succ fuel ih=>
  intro listed a w h hn1 hn2 hc;have hkl:k<listed.size:=by rw [h.len];omega
  have hkl2:k+1<listed.size:=by rw [h.len];omega
  refine⟨fun hr=>?_,fun i hi=>?_⟩
  ·exfalso;have:=kready_none hfore h.len hr k (by omega);simp only [Array.getD,hkl,dif_pos] at this hn1;rw [this] at hn1;cases hn1
  obtain⟨h1,o,ho,hdep⟩:=mem_ready.1 hi
  have hlt:i<listed.size:=by
   rw [h.len];rcases Nat.lt_or_ge i ops.size with h'|h'
   ·exact h'
   ·rw [Array.getElem?_eq_none h'] at ho;cases ho
  have hcnt:=count_set listed i hlt h1;rcases Nat.lt_trichotomy i k with hik|rfl|hik
  ·have:=hstep i o hik ho listed a w h hdep (dst_ok hin ho) hlt (by have h5:=h1;simp only [Array.getD,hlt,dif_pos] at h5 ⊢;exact h5) (wpAnyIn (fW ro) n P md ops Q fuel (listed.setIfInBounds i true)) fun v w' hS hR hv=>ih _ _ _ (h.step hown hin hV hSL ho hdep hS hR hv) (by
    have:(listed.setIfInBounds i true).getD k true=listed.getD k true:=by simp only [Array.getD_eq_getD_getElem?,Array.getElem?_setIfInBounds_ne (show i≠k by omega)]
    rw [this];exact hn1) (by
    have:(listed.setIfInBounds i true).getD (k+1) true=listed.getD (k+1) true:=by simp only [Array.getD_eq_getD_getElem?,Array.getElem?_setIfInBounds_ne (show i≠k+1 by omega)]
    rw [this];exact hn2) (by omega)
   unfold wpOpIn;rw [ho];by_cases hw:Region.wanted o (yielded ops a.tmps)=true
   ·simp only [hw,if_true] at this ⊢;exact this
   ·simp only [hw] at this ⊢;exact⟨fun _ _=>trivial,this⟩
  ·rw [hk1] at ho;cases ho;have ht:=htail listed a w h hdep;have hw:Region.wanted o1 (yielded ops a.tmps)=true:=wanted_of (by unfold Guards;rw [hg1];trivial);unfold wpOpIn;rw [hk1];simp only [hw,if_true];refine Oper.wpIn_mono (fun a2 w2 hx=>?_) ht;refine wpAnyIn_last (k:=i+1) hfore hk2 (by omega) hg2 hnd2 fuel _ _ _ (by simpa using h.len) (fun j hj=>?_) ?_ (by omega) hx
   ·rw [getD_set _ _ _ hkl];split
    ·rfl
    ·exact waits_all hdep1 h hdep i j (by omega) (by omega)
   ·have:(listed.setIfInBounds i true).getD (i+1) true=listed.getD (i+1) true:=by simp only [Array.getD_eq_getD_getElem?,Array.getElem?_setIfInBounds_ne (show i≠i+1 by omega)]
    rw [this];exact hn2
  ·exfalso;have hik2:i=k+1:=by have:=h.len;omega
   subst hik2;rw [hk2] at ho;cases ho;obtain⟨e,he,hb,hon⟩:=hdep2;have:=hdep e he hb;rw [hon] at this;simp only [Array.getD,hkl,dif_pos] at this hn1;rw [this] at hn1;cases hn1
end
section
variable {ro:Option Nat}{n:Nat}{Q:Exit->Act->World->Prop}{Vl:List VP}{n0:Nat}{w0:World}{B:List Bd}{SL:List (Nat×VP)}{BT:List (TypeId×Nat×Nat)}
theorem rgY {id N k:Nat}{l:List Oper}{a:Act}{w:World}{o1 o2:Oper}(st:St n0 w0 N B SL a w)
 (hstep:AllK BT Tryz.prog .any l.toArray Q a (GV Vl) n0 w0 B SL 0 (l.take k))
 (hk1:l[k]? =some o1) (hk2:l[k+1]? =some o2) (hsz:l.length=k+2) (hg1:o1.guard=none) (hg2:o2.guard=none) (hnd2:∀c,o2.op≠ .defer c) (hdep1:waits .any l.toArray k o1=true) (hdep2:o2.after.any (fun e=>e.on==k && Region.binds .any e)=true)
 (htail:∀(listed:Array Bool) (a':Act) (w':World),KI .any l.toArray a (GV Vl) n0 w0 B SL listed a' w'->(∀e∈o1.after,Region.binds .any e=true->listed.getD e.on false=true)->o1.wpIn (fW ro) n Tryz.prog a' w' (fun a2 w2=>∃v2,(execOp a2.eval o2).run Tryz.prog w2= .ok (.value v2) w2/\Q .normal (a2.put o2.dst v2) w2) Q)
 (hB0:B.all (fun b=>b.ia==none && b.ik==none)=true) [hB:SbB BT B] [hS:SbS BT SL] [hL:SbL BT Vl] (hnd:noDefer l=true)
 (hm:Tryz.prog.follows .mixedOrders=true:=by kernel_rfl) (hfore:kFore .any l.toArray=true:=by kernel_rfl) (hown:flowOwn l.toArray=true:=by kernel_rfl) (hin:l.all (fun o=>match o.dst with|some d=>decide (d<N)|none=>true)=true:=by kernel_rfl):(Code.region id l.toArray true).wpIn (fW ro) n Tryz.prog Q a w:=by
 have hin':∀(i:Nat) (o:Oper) (d:Tmp),l.toArray[i]? =some o->o.dst=some d->d<a.tmps.size:=fun i o d ho D=>by
  rw [st.size];rw [List.all_eq_true] at hin;have ho':l[i]? =some o:=by simpa using ho
  have:=hin o (List.mem_of_getElem? ho');rw [D] at this;exact of_decide_eq_true this
 have hB0':∀b∈B,b.ia=none/\b.ik=none:=fun b hb=>by
  rw [List.all_eq_true] at hB0;have:=hB0 b hb;simp only [Bool.and_eq_true,beq_iff_eq] at this;exact this
 have hs':∀(i:Nat) (o:Oper),i<k->l.toArray[i]? =some o->KStepI BT ro n Tryz.prog .any l.toArray Q a (GV Vl) n0 w0 B SL i o:=fun i o hi ho=>by
  have:=AllK.get (l.take k) 0 hstep i o (by rw [List.getElem?_take,if_pos hi];simpa using ho);rw [Nat.zero_add] at this;refine this.toI fun c e=>?_
  have ho':l[i]? =some o:=by simpa using ho
  unfold noDefer at hnd;rw [List.all_eq_true] at hnd;have:=hnd o (List.mem_of_getElem? ho');rw [e] at this;cases this
 have hno:∀i,(Array.replicate l.length false).getD i false=true->False:=fun i hl=>by
  simp only [Array.getD_eq_getD_getElem?,Array.getElem?_replicate] at hl;split at hl<;>simp at hl
 have hst:KS n0 w0 B (Array.replicate l.length false) a w:=⟨st.k.below,fun b hb _=>by
  obtain⟨g,cs,e1,e2,e3,e4,e5,e6,e7⟩:=st.k.ok b hb (by rw [(hB0' b hb).1];rfl)
  exact⟨g,cs,e1,e2,e3,e4,e5,fun _=>e6 (by rw [(hB0' b hb).2];rfl),fun _ hk=>by rw [(hB0' b hb).2] at hk;cases hk⟩,fun b hb c hc hne _ _=>st.k.ne b hb c hc hne (by rw [(hB0' b hb).1];rfl) (by rw [(hB0' c hc).1];rfl),fun b hb h1 _=>absurd (hB0' b hb).2 h1⟩
 have hks:l.toArray.size=k+2:=by simpa using hsz
 refine wpIn_region_any hm (wpAny_y hfore hown hin' (stab_of hL.out) hS.out (by simpa using hk1) (by simpa using hk2) hks hg1 hg2 hnd2 hdep1 ?_ hs' htail _ _ _ _ ⟨?_,st.n,by simp,rfl,rfl,fun _ _=>rfl,fun i o d ho hl _=>(hno i (by simpa using hl)).elim,fun p hp=>?_,fun k o _ hl=>(hno k (by simpa using hl)).elim⟩ ?_ ?_ ?_)
 ·exact after_any hdep2
 ·have:=hst.drew hB.out
  simpa using this
 ·obtain⟨v,h1,h2⟩:=st.sl p hp;exact⟨v,h1,hS.out p hp _ _ _ h2 (RI.drew w)⟩
 ·simp [Array.getD,hsz]
 ·simp [Array.getD,hsz]
 ·simp
end
theorem wpIn_loop_ghost {F:Fence}{n:Nat}{P:Program}{Q:Exit->Act->World->Prop}{a:Act}{w:World}{c:Code}(I:Nat->Act->World->Prop)(n₀:Nat)(h₀:I n₀ a w)
 (round:∀m a w,I m a w->c.wpIn F n P (Exit.then (fun a' w'=>∃m',m'<m/\I m' a' w') Q) a w):(Code.loop c).wpIn F n P Q a w:=by
 refine wpIn_loop (fun a w=>∃n,I n a w) (fun a w=>leastOf (fun n=>I n a w)) ⟨n₀,h₀⟩ ?_;intro a w hI;refine wpIn_mono (round _ a w (leastOf_spec hI).1) ?_;intro e a' w' hq;cases e with
 |normal=>
  obtain⟨n',hlt,hI'⟩:=hq;exact show(∃n,I n a' w')/\leastOf (fun n=>I n a' w')<leastOf (fun n=>I n a w)from⟨⟨n',hI'⟩,Nat.lt_of_le_of_lt ((leastOf_spec ⟨n',hI'⟩).2 n' hI') hlt⟩
 |exit id=>exact hq
 |goto l=>exact hq
 |ret=>exact hq
 |panic ch=>exact hq
 |outgrown=>exact hq
theorem RoundIn.any {ro ro':Option Nat}{n m:Nat}{P:Program}{l:Nat}{f:FuncId}{tmps:Array Value}{assign body:Code}{w:World}{R:Ending->World->Prop}(h:RoundIn (fW ro) n P l f tmps assign body w R):RoundIn (fW ro') m P l f tmps assign body w R:=
 ⟨trivial,fun c cs _=>h.2 c cs (fun d D=>by cases D)⟩
def NoCl (o:Obj):Prop:=∀cs T f,o≠Obj.cells cs T f
theorem noCl_of {o:Obj}(h:o.isCells=false):NoCl o:=by
 rintro cs T f rfl
 cases h
section
variable {BT BT2:List (TypeId×Nat×Nat)}{W w w':World}
theorem cell_noCl {p:Addr}{o:Obj}{x:Int}(h:w.heap[p.block]? =some o)(ho:NoCl o):w.cell? p≠some (.int .i64 x):=by
 intro hc;unfold World.cell? at hc;rw [h] at hc;cases o with
 |cells cs T f=>exact ho _ _ _ rfl
 |_=>simp at hc
theorem RI_grown {row:Option Nat}(hmk:∃e∈BT,e.1=1000000)(hg:w.grownBy w' row)(hr:∀r,row=some r->∃o:Obj,w.heap[r]? =some o/\o.isCells=false):RI BT w w':=
 ⟨hg.size,fun p x hc=>by
  by_cases e:some p.block=row
  ·obtain⟨o,h1,h2⟩:=hr p.block e.symm;exact absurd hc (cell_noCl h1 (noCl_of h2))
  ·by_cases hlt:p.block<w.heap.size
   ·exact(World.cell?_of_block (hg.block _ hlt e)).trans hc
   ·exfalso;unfold World.cell? at hc;rw [Array.getElem?_eq_none (by omega)] at hc
    simp at hc,fun h cs T hk _=>hg.block h (lt_blk hk) (fun e=>by
  obtain⟨o,h1,h2⟩:=hr h e.symm;rw [hk] at h1;cases h1
  cases h2),fun hb=>by obtain⟨e,he,h1⟩:=hmk;exact absurd h1 (hb e he)⟩
end
abbrev MK:List (TypeId×Nat×Nat):=[(1000000,1,0)]
section
variable {n0 N:Nat}{w0:World}{L:List Bd}{SL:List (Nat×VP)}{a:Act}{w:World}
theorem St.grown {w':World}{row:Option Nat}(h:St n0 w0 N L SL a w)(hg:w.grownBy w' row)(hr:∀r,row=some r->n0<=r/\∃o:Obj,w.heap[r]? =some o/\o.isCells=false)[hB:SbB MK L][hS:SbS MK SL]:St n0 w0 N L SL a w':=by
 have hRI:RI MK w w':=RI_grown ⟨_,List.mem_cons_self,rfl⟩ hg fun r e=>(hr r e).2
 refine⟨⟨h.k.below.grown hg h.n fun r e=>(hr r e).1,fun b hb hon=>?_,h.k.ne,h.k.fa⟩,Nat.le_trans h.n hg.size,h.size,h.defers,fun p hp=>?_⟩
 ·obtain⟨g,cs,e1,e2,e3,e4,e5,e6,e7⟩:=h.k.ok b hb hon;refine⟨g,cs,e1,e2,(hg.block g (lt_blk e3) fun e=>?_).trans e3,e4,e5,fun hk=>(hB.out b hb).1 _ _ _ (e6 hk) hRI,fun h0 hk=>(hB.out b hb).2 _ _ _ (e7 h0 hk) hRI⟩;obtain⟨o,h1,h2⟩:=(hr g e.symm).2;rw [e3] at h1;cases h1;cases h2
 ·obtain⟨v,h1,h2⟩:=h.sl p hp;exact⟨v,h1,hS.out p hp _ _ _ h2 hRI⟩
theorem St.put1 (h:St n0 w0 N L SL a w)(p:Nat)(v:Value)(V:VP)(hV:V v w)(hp:p<N)(hL:L.all (fun b=>b.t !=p)=true:=by kernel_rfl)(hS:SL.all (fun x=>x.1 !=p)=true:=by kernel_rfl):St n0 w0 N L ((p,V)::SL) (a.put (some p) v) w:=by
 have hne:∀t,t≠p->(a.put (some p) v).tmps[t]? =a.tmps[t]? :=fun t ht=>put_get_ne (by simpa using fun e=>ht e.symm)
 have hL':∀b∈L,b.t≠p:=fun b hb=>by rw [List.all_eq_true] at hL;simpa using hL b hb
 refine⟨⟨h.k.below,fun b hb hon=>?_,fun b hb c hc=>?_,h.k.fa⟩,h.n,by rw [put_size];exact h.size,by rw [put_defers'];exact h.defers,Lq.2 ⟨⟨v,put_get_self (by rw [h.size];exact hp),hV⟩,fun x hx=>?_⟩⟩
 ·obtain⟨g,cs,e1,e⟩:=h.k.ok b hb hon;exact⟨g,cs,by rw [hne _ (hL' b hb)];exact e1,e⟩
 ·rw [hne _ (hL' b hb),hne _ (hL' c hc)];exact h.k.ne b hb c hc
 ·obtain⟨u,h1,h2⟩:=h.sl x hx;rw [List.all_eq_true] at hS;exact⟨u,by rw [hne _ (by simpa using hS x hx)];exact h1,h2⟩
end
theorem St.weak {n0 N:Nat}{w0:World}{L:List Bd}{SL:List (Nat×VP)}{a:Act}{w:World}(h:St n0 w0 N L SL a w)(L':List Bd)(hm:∀c∈L',∃b,b∈L/\b.t=c.t/\b.T=c.T/\b.m=c.m/\b.ia=none/\c.ia=none/\b.ik=none/\c.ik=none/\∀v w,b.P v w->c.P v w):St n0 w0 N L' SL a w:=by
 refine⟨⟨h.k.below,fun c hc hon=>?_,fun c hc d D hne h1 h2=>?_,fun c hc hn hk=>?_⟩,h.n,h.size,h.defers,h.sl⟩
 ·obtain⟨b,hb,e1,e2,e3,e4,e5,e6,e7,e8⟩:=hm c hc;obtain⟨g,cs,f1,f2,f3,f4,f5,f6,-⟩:=h.k.ok b hb (by rw [e4];rfl);exact⟨g,cs,by rw [<-e1];exact f1,f2,by rw [<-e2];exact f3,by rw [<-e3];exact f4,f5,fun _=>e8 _ _ (f6 (by rw [e6];rfl)),fun _ hk=>by rw [e7] at hk;cases hk⟩
 ·obtain⟨b,hb,e1,-,-,e4,-⟩:=hm c hc;obtain⟨b2,hb2,q1,-,-,q4,-⟩:=hm d D;rw [<-e1,<-q1];exact h.k.ne b hb b2 hb2 (by rw [e1,q1];exact hne) (by rw [e4];rfl) (by rw [q4];rfl)
 ·obtain⟨b,hb,-,-,-,-,-,-,e7,-⟩:=hm c hc;exact absurd e7 hn
def VEq (x:Value):VP:=fun v _=>v=x
section
variable {md:Region.Mode}{ops:Array Oper}{Q:Exit->Act->World->Prop}{a0:Act}{Vl:List VP}{n0:Nat}{w0:World}{B:List Bd}{SL:List (Nat×VP)}{BT BT2:List (TypeId×Nat×Nat)}{r:Rw}
instance (x:Value):Sb BT (VEq x):=⟨fun _ _ _ h _=>h⟩
end
theorem St.reT {n0 N:Nat}{w0:World}{L:List Bd}{SL:List (Nat×VP)}{a:Act}{w:World}(h:St n0 w0 N L SL a w)(t:Nat)(V':VP){v:Value}(he:a.tmps[t]? =some v)(hv:V' v w):St n0 w0 N L ((t,V')::SL) a w:=
 ⟨h.k,h.n,h.size,h.defers,Lq.2 ⟨⟨v,he,hv⟩,h.sl⟩⟩
def VC1 (A:VP):VP:=fun v w=>∃x,v= .agg #[x]/\A x w
class O1 (A:VP):Prop where
 out:∀v w,A v w->v.oneCell'=true/\(∀x,v≠ .int .i64 x)/\v.cells=#[v]
section
variable {md:Region.Mode}{ops:Array Oper}{Q:Exit->Act->World->Prop}{a0:Act}{Vl:List VP}{n0:Nat}{w0:World}{B:List Bd}{SL:List (Nat×VP)}{BT:List (TypeId×Nat×Nat)}{A:VP}
instance [hA:Sb BT A]:Sb BT (VC1 A):=⟨fun _ _ _ ⟨x,h1,h2⟩ hr=>⟨x,h1,hA.out _ _ _ h2 hr⟩⟩
theorem noInt1 {v:Value}(h:∀x,v≠ .int .i64 x):NoInt #[v]:=fun i x hi=>by
 match i with
 |0=>simp at hi;exact h x hi
 |i+1=>simp at hi
theorem k_box1_ {i t s:Nat}{o:Oper}{T:TypeId}{b:Bd}[hB:SbB BT B](ho:o.op= .box T (.tmp s))(hds:o.dst=some t)(hb:gB B (iB B t)=some b)(hbt:b.t=t)(hT:b.T=T)(hia:b.ia=some i)(hm:b.m=1)(hP:b.P=VC1 A)[h1:O1 A](hV:GV Vl i=VT)
 (hq:quietB (B.take (iB B t)++B.drop (iB B t+1)) i (some t)=true) (hx:KnS md ops Vl SL o s A) (hg:GOk md ops Vl o):KStep BT Tryz.prog md ops Q a0 (GV Vl) n0 w0 B SL i o:=by
 subst hbt hT;intro listed a w h D hin hil hnl K hK;rw [if_pos (wanted_of (hg.get h D))];obtain⟨v,hv,hVv⟩:=hx.get h D;obtain⟨o1,o2,o3⟩:=h1.out _ _ hVv
 have ht:b.t<a.tmps.size:=by
  rw [hds] at hin;rw [h.size]
  simpa using hin
 have hks:=h.k.alloc (gB_split hb) hq hia hil ht hB.out h.n #[v] (by rw [hm];rfl) (noInt1 o2) (fun _=>by rw [hP];exact⟨v,rfl,hVv⟩);unfold Oper.wp execOp;simp only [ho,hv,Sem.run_bind,Instr.box,newVar,newRow,run_newObj_alloc,Sem.run_pure,Result.andThen_ok,o3];rw [<-hds] at hks;exact hK _ _ hks (RI.of_below (below_new _ _)) (by rw [hV];trivial)
theorem k_store1_ {i t s:Nat}{o:Oper}{T:TypeId}{b:Bd}[hB:SbB BT B](ho:o.op= .store T (.tmp t) (.tmp s))(hds:o.dst=none)(hb:gB B (iB B t)=some b)(hbt:b.t=t)(hT:b.T=T)(hik:b.ik=some i)(hm:b.m=1)(hP:b.P=VC1 A)[h1:O1 A](hsz:(Tryz.prog.info? T).map (·.size)=some 1)(hV:GV Vl i=VT)
 (hq:quietB (B.take (iB B t)++B.drop (iB B t+1)) i none=true) (hts:(B.take (iB B t)++B.drop (iB B t+1)).all (fun c=>c.t !=t)=true) (hia:(b.ia !=some i)=true) (hBT:BT.any (fun e=>e.1==T && e.2.1==b.m && e.2.2==0)=true) (hNP:BT.all (fun e=>e.1 !=T||e.2.1 !=0)=true) (hon:b.ia=none∨∃j,b.ia=some j/\o.after.any (fun e=>e.on==j && Region.binds md e)=true) (hx:KnS md ops Vl SL o s A) (hg:GOk md ops Vl o):KStep BT Tryz.prog md ops Q a0 (GV Vl) n0 w0 B SL i o:=by
 subst hbt hT;intro listed a w h D _ hil _ K hK;rw [if_pos (wanted_of (hg.get h D))];obtain⟨v,hv,hVv⟩:=hx.get h D;obtain⟨o1,o2,o3⟩:=h1.out _ _ hVv
 have hon':onb listed b.ia=true:=by
  rcases hon with h1|⟨j,h1,h2⟩
  ·rw [h1];rfl
  ·rw [h1];exact listed_dep D j h2
 obtain⟨g,old,e1,e2,e3,hr,hks⟩:=h.k.store (v:=undef) (gB_split hb) hq hon' (by simpa using hia) hik hil (fun g' _=>Mw_of hBT hNP) hB.out #[v] (by rw [hm];rfl) (noInt1 o2) (by rw [hP];exact⟨v,rfl,hVv⟩) (fun c hc=>by
  rw [List.all_eq_true] at hts
  simpa using hts c hc)
 obtain⟨u,rfl⟩:∃u,old=#[u]:=by
  obtain⟨l⟩:=old
  match l,e3 with
  | [u],_=>exact⟨u,rfl⟩
 have hvp:a.eval (.tmp b.t)= .pointer (some ⟨g,0,none⟩):=by simp [Act.eval,Array.getD_eq_getD_getElem?,e1]
 unfold Oper.wp execOp;simp only [ho,hvp,hv,Instr.storeAt,Instr.sureAddr,Sem.run_bind,Sem.run_pure,Result.andThen_ok,run_storeVar_one w g b.T b.T u _ e2 hsz o1];rw [hds] at hK;show K (a.put o.dst undef) _;rw [hds];exact hK _ _ hks hr (by rw [hV];trivial)
theorem k_load1_ {i t:Nat}{o:Oper}{T:TypeId}{b:Bd}[hB:SbB BT B](ho:o.op= .load T (.tmp t))(hb:gB B (iB B t)=some b)(hbt:b.t=t)(hT:b.T=T)(hia:b.ia=none)(hik:b.ik=none)(hP:b.P=VC1 A)[hc:CeT T](hV:GV Vl i=A)(hq:quietB B i o.dst=true)(hg:GOk md ops Vl o):KStep BT Tryz.prog md ops Q a0 (GV Vl) n0 w0 B SL i o:=by
 obtain⟨d,hu,hdd⟩:=hc.und;subst hbt hT;refine k_run hB.out hq fun listed a w h D=>⟨hg.get h D,?_⟩
 obtain⟨g,cs,e1,e2,e3,e4,e5,e6,-⟩:=h.k.ok b (gB_mem hb) (by rw [hia];rfl);have hp:=e6 (by rw [hik];rfl);rw [hP] at hp;obtain⟨x,hx,hA⟩:=hp;cases hx;refine⟨x,?_,by rw [hV];exact hA⟩;have hvp:a.eval (.tmp b.t)= .pointer (some ⟨g,0,none⟩):=by simp [Act.eval,Array.getD_eq_getD_getElem?,e1]
 have hcell:w.cell? ⟨g,0,none⟩=some x:=by simp [World.cell?,e3]
 have hagg:(isAgg b.T).run Tryz.prog w= .ok false w:=by
  unfold isAgg;rw [Sem.run_bind,run_underlying hu w];cases d<;>simp_all [aggT]
 unfold execOp;simp only [ho,hvp,Instr.loadAt,Instr.sureAddr,Sem.run_bind,Sem.run_pure,Result.andThen_ok,loadVar,hagg];simp only [Bool.false_eq_true,if_false,run_load,hcell,Result.andThen_ok]
theorem St.ptrB {N:Nat}{L:List Bd}{a:Act}{w:World}(h:St n0 w0 N L SL a w)(t:Nat){b:Bd}(hb:gB L (iB L t)=some b)(hbt:b.t=t)(hia:b.ia=none):∃g,n0<=g/\St n0 w0 N L ((t,VEq (.pointer (some ⟨g,0,none⟩)))::SL) a w:=by
 subst hbt;obtain⟨g,cs,f1,f2,f3,-⟩:=h.k.ok b (gB_mem hb) (by rw [hia];rfl);exact⟨g,f2,h.k,h.n,h.size,h.defers,Lq.2 ⟨⟨_,f1,rfl⟩,h.sl⟩⟩
end
section
variable {n0 N:Nat}{w0:World}{L:List Bd}{SL:List (Nat×VP)}{a:Act}{w:World}
theorem St.base (h:St n0 w0 N L SL a w)(SL':List (Nat×VP))(hs:∀p∈SL',∃v,a.tmps[p.1]? =some v/\p.2 v w):Below n0 w0 w/\St w.heap.size w N [] SL' a w:=
 ⟨h.k.below,⟨⟨Below.refl _ _,fun b hb=>absurd hb (by simp),fun b hb=>absurd hb (by simp),fun b hb=>absurd hb (by simp)⟩,Nat.le_refl _,h.size,h.defers,hs⟩⟩
theorem St.boxAt (h:St n0 w0 N L SL a w){b:Bd}(hb:b∈L)(hia:b.ia=none)(hik:b.ik=none):∃g,a.tmps[b.t]? =some (.pointer (some ⟨g,0,none⟩))/\n0<=g/\g<w.heap.size/\∃cs,w.heap[g]? =some (.cells cs b.T (0,0))/\cs.size=b.m/\NoInt cs/\b.P (.agg cs) w:=by
 obtain⟨g,cs,e1,e2,e3,e4,e5,e6,-⟩:=h.k.ok b hb (by rw [hia];rfl);exact⟨g,e1,e2,lt_blk e3,cs,e3,e4,e5,e6 (by rw [hik];rfl)⟩
end
instance (p:Option Addr)(n c:Nat):O1 (VEq (.slice p n c)):=⟨fun v w h=>by obtain rfl:v=_:=h;exact⟨rfl,(fun _ e=>by cases e),rfl⟩⟩
def VCo (lv:Value):VP:=fun v w=>∃b,v= .func (.func 123) #[] #[.pointer (some ⟨b,0,none⟩)]/\w.heap[b]? =some (.cells #[lv] 23 (0,0))
def VSd (lv:Value):VP:=fun v w=>∃b1 b3 c,v= .func (.func 88) #[] #[.pointer (some ⟨b1,0,none⟩),.pointer (some ⟨b3,0,none⟩)]/\w.heap[b1]? =some (.cells #[lv] 23 (0,0))/\w.heap[b3]? =some (.cells #[c] 97 (0,0))/\VCo lv c w
def VTn (lv:Value):VP:=fun v w=>∃b1 b3 c,v= .func (.func 98) #[] #[.pointer (some ⟨b1,0,none⟩),.pointer (some ⟨b3,0,none⟩)]/\w.heap[b1]? =some (.cells #[lv] 23 (0,0))/\w.heap[b3]? =some (.cells #[c] 97 (0,0))/\VCo lv c w
section
variable {BT:List (TypeId×Nat×Nat)}{lv:Value}
theorem Stab_VCo (h1:∀e∈BT,e.1≠23):Stab BT (VCo lv):=fun _ _ _ ⟨b,e1,e2⟩ hr=>⟨b,e1,(hr.row b _ _ e2 (.inl fun e he q=>absurd q (h1 e he))).trans e2⟩
theorem Stab_VSd (h1:∀e∈BT,e.1≠23)(h2:∀e∈BT,e.1≠97):Stab BT (VSd lv):=fun _ _ _ ⟨b1,b3,c,e1,e2,e3,e4⟩ hr=>⟨b1,b3,c,e1,(hr.row b1 _ _ e2 (.inl fun e he q=>absurd q (h1 e he))).trans e2,(hr.row b3 _ _ e3 (.inl fun e he q=>absurd q (h2 e he))).trans e3,Stab_VCo h1 _ _ _ e4 hr⟩
theorem Stab_VTn (h1:∀e∈BT,e.1≠23)(h2:∀e∈BT,e.1≠97):Stab BT (VTn lv):=fun _ _ _ ⟨b1,b3,c,e1,e2,e3,e4⟩ hr=>⟨b1,b3,c,e1,(hr.row b1 _ _ e2 (.inl fun e he q=>absurd q (h1 e he))).trans e2,(hr.row b3 _ _ e3 (.inl fun e he q=>absurd q (h2 e he))).trans e3,Stab_VCo h1 _ _ _ e4 hr⟩
end
instance (lv:Value):O1 (VCo lv):=⟨fun v w ⟨b,h,_⟩=>by subst h;exact⟨rfl,(fun _ e=>by cases e),rfl⟩⟩
theorem alloc_fnV (W:World):(Instr.alloc 97 true (.tuple #[])).run Tryz.prog W= .ok (.pointer (some ⟨W.heap.size,0,none⟩)) (W.alloc (.cells #[.nilFunc] 97)):=by go_simp
instance iAlfnV:AlT 97 1:=⟨_,alloc_fnV,rfl,noint_of (by simp)⟩
instance iCeVecs:CeT 23:=⟨_,Tryz.underlying23,rfl⟩
theorem run_mkfn2 {ρ:Operand->Value}{o:Oper}{W:World}{x y:Operand}{va vb:Value}{f:FuncId}(ho:o.op= .makeFunc (.func f) #[] #[x,y])(hx:ρ x=va)(hy:ρ y=vb):(execOp ρ o).run Tryz.prog W= .ok (.value (.func (.func f) #[] #[va,vb])) W:=by
 obtain⟨dd,op,ty,ps,af,gd⟩:=o;subst ho;unfold execOp;simp only [Sem.run_bind];rw [show(Instr.makeFunc (.func f) (#[].map ρ) (#[x,y].map ρ)).run Tryz.prog W= .ok (.func (.func f) (#[].map ρ) (#[x,y].map ρ)) W from rfl];simp [Result.andThen,hx,hy]
theorem cAround6 {w:World}{p:Option Addr}{n c:Nat}:Calls Tryz.prog 87 #[.slice p n c] w (RV (VCo (.slice p n c)) w):=by
 go_enter Tryz.func87,Tryz.ntmps87
 go_wp2
 refine bodyPost_ret (results_tmp rfl _ _ _) rfl ⟨_,rfl,⟨_,rfl,heap_alloc_new _ _⟩,below_new _ _⟩
theorem cSides {w:World}{p:Option Addr}{n c:Nat}:Calls Tryz.prog 43 #[.slice p n c] w (RV (VSd (.slice p n c)) w):=by
 go_enter Tryz.func43,Tryz.ntmps43
 refine Sg 7 [(0,VEq (.slice p n c))] (Lq.2 ⟨⟨_,rfl,rfl⟩,L0⟩) fun a0 st0=>Wn ?_
 refine rH [] [VT,VT] [⟨1,some 0,some 0,23,1,VC1 (VEq (.slice p n c)),VT⟩] [] st0 ⟨k_box1_ (A:=VEq (.slice p n c)) rfl rfl rfl rfl rfl rfl rfl rfl rfl (by kernel_rfl) (.inr ⟨rfl,by kernel_rfl⟩) trivial,k_mvc (.inr rfl) (fun _=>trivial) (by kernel_rfl) trivial,trivial⟩ fun a1 w1 st1=>Wn ?_
 have:Sb [(97,1,0)] (VCo (.slice p n c)):=⟨Stab_VCo (by simp)⟩;refine rH [(97,1,0)] [VEq (.slice p n c),VCo (.slice p n c),VT,VT] [.k 1 23 1 (VC1 (VEq (.slice p n c))),⟨3,some 2,some 3,97,1,VC1 (VCo (.slice p n c)),VT⟩] [] st1 ⟨k_load1_ (A:=VEq (.slice p n c)) rfl rfl rfl rfl rfl rfl rfl rfl (by kernel_rfl) trivial,(by refine kc fun _ ac Y h D=>?_;obtain⟨v0,hv0,X0⟩:=h.dp D 4;obtain rfl:v0=_:=X0;exact⟨#[(.slice p n c)],by simp [hv0],cAround6⟩),ks,k_store1_ (A:=VCo (.slice p n c)) rfl rfl rfl rfl rfl rfl rfl rfl (by kernel_rfl) rfl (by kernel_rfl) (by kernel_rfl) rfl (by kernel_rfl) (by kernel_rfl) (.inr ⟨_,rfl,by kernel_rfl⟩) (.inl ⟨by kernel_rfl,rfl,rfl⟩) trivial,trivial⟩ ?_;intro a2 w2 st2;replace st2:St w.heap.size w 7 [.k 1 23 1 (VC1 (VEq (.slice p n c))),.k 3 97 1 (VC1 (VCo (.slice p n c)))] [] a2 w2:=st2;obtain⟨g1,hg1,st2⟩:=st2.ptrB 1 rfl rfl rfl;obtain⟨g3,hg3,st2⟩:=st2.ptrB 3 rfl rfl rfl;refine Wn ?_
 have:Sb [] (VCo (.slice p n c)):=⟨Stab_VCo (by simp)⟩;refine rH [] [VEq (.func (.func 88) #[] #[.pointer (some ⟨g1,0,none⟩),.pointer (some ⟨g3,0,none⟩)]),VEq (.func (.func 88) #[] #[.pointer (some ⟨g1,0,none⟩),.pointer (some ⟨g3,0,none⟩)])] [.k 1 23 1 (VC1 (VEq (.slice p n c))),.k 3 97 1 (VC1 (VCo (.slice p n c)))] [(1,VEq (.pointer (some ⟨g1,0,none⟩))),(3,VEq (.pointer (some ⟨g3,0,none⟩))),(2,VEq (.func (.func 88) #[] #[.pointer (some ⟨g1,0,none⟩),.pointer (some ⟨g3,0,none⟩)]))] st2 ⟨(by refine kr fun _ ac Y h D=>?_;obtain⟨v0,hv0,X0⟩:=h.ot 1;obtain⟨v1,hv1,X1⟩:=h.ot 3;obtain rfl:v0=_:=X0;obtain rfl:v1=_:=X1;exact⟨_,run_mkfn2 rfl hv0 hv1,rfl⟩),ks,trivial⟩ ?_;intro a3 w3 st3;replace st3:St w.heap.size w 7 [.k 1 23 1 (VC1 (VEq (.slice p n c))),.k 3 97 1 (VC1 (VCo (.slice p n c)))] [(1,VEq (.pointer (some ⟨g1,0,none⟩))),(3,VEq (.pointer (some ⟨g3,0,none⟩))),(2,VEq (.func (.func 88) #[] #[.pointer (some ⟨g1,0,none⟩),.pointer (some ⟨g3,0,none⟩)]))] a3 w3:=st3;obtain⟨x1,e1,-,-,cs1,p1,-,-,u1,hc1,hu1⟩:=st3.boxAt (b:=(.k 1 23 1 (VC1 (VEq (.slice p n c))))) (.head _) rfl rfl;obtain⟨x3,e3,-,-,cs3,p3,-,-,u3,hc3,hu3⟩:=st3.boxAt (b:=(.k 3 97 1 (VC1 (VCo (.slice p n c))))) (.tail _ (.head _)) rfl rfl;cases hc1;cases hc3;obtain rfl:u1=_:=hu1;obtain⟨z1,q1,rfl⟩:=st3.sl (1,VEq (.pointer (some ⟨g1,0,none⟩))) (lS_mem rfl);obtain⟨z3,q3,rfl⟩:=st3.sl (3,VEq (.pointer (some ⟨g3,0,none⟩))) (lS_mem rfl);obtain rfl:x1=g1:=by have:=e1.symm.trans q1;simpa using this
 obtain rfl:x3=g3:=by have:=e3.symm.trans q3;simpa using this
 refine Wn ?_
 obtain⟨vr,r1,r4⟩:=st3.slot (2,VEq (.func (.func 88) #[] #[.pointer (some ⟨x1,0,none⟩),.pointer (some ⟨x3,0,none⟩)])) (lS_mem rfl);exact wp_ret (bodyPost_ret (results_tmp rfl _ _ _) st3.defers ⟨_,congrArg Ending.returned (show _=vr from r1),⟨x1,x3,u3,r4,p1,p3,hu3⟩,st3.k.below⟩)
theorem cTurns {w:World}{p:Option Addr}{n c:Nat}:Calls Tryz.prog 55 #[.slice p n c] w (RV (VTn (.slice p n c)) w):=by
 go_enter Tryz.func55,Tryz.ntmps55
 refine Sg 7 [(0,VEq (.slice p n c))] (Lq.2 ⟨⟨_,rfl,rfl⟩,L0⟩) fun a0 st0=>Wn ?_
 refine rH [] [VT,VT] [⟨1,some 0,some 0,23,1,VC1 (VEq (.slice p n c)),VT⟩] [] st0 ⟨k_box1_ (A:=VEq (.slice p n c)) rfl rfl rfl rfl rfl rfl rfl rfl rfl (by kernel_rfl) (.inr ⟨rfl,by kernel_rfl⟩) trivial,k_mvc (.inr rfl) (fun _=>trivial) (by kernel_rfl) trivial,trivial⟩ fun a1 w1 st1=>Wn ?_
 have:Sb [(97,1,0)] (VCo (.slice p n c)):=⟨Stab_VCo (by simp)⟩;refine rH [(97,1,0)] [VEq (.slice p n c),VCo (.slice p n c),VT,VT] [.k 1 23 1 (VC1 (VEq (.slice p n c))),⟨3,some 2,some 3,97,1,VC1 (VCo (.slice p n c)),VT⟩] [] st1 ⟨k_load1_ (A:=VEq (.slice p n c)) rfl rfl rfl rfl rfl rfl rfl rfl (by kernel_rfl) trivial,(by refine kc fun _ ac Y h D=>?_;obtain⟨v0,hv0,X0⟩:=h.dp D 4;obtain rfl:v0=_:=X0;exact⟨#[(.slice p n c)],by simp [hv0],cAround6⟩),ks,k_store1_ (A:=VCo (.slice p n c)) rfl rfl rfl rfl rfl rfl rfl rfl (by kernel_rfl) rfl (by kernel_rfl) (by kernel_rfl) rfl (by kernel_rfl) (by kernel_rfl) (.inr ⟨_,rfl,by kernel_rfl⟩) (.inl ⟨by kernel_rfl,rfl,rfl⟩) trivial,trivial⟩ ?_;intro a2 w2 st2;replace st2:St w.heap.size w 7 [.k 1 23 1 (VC1 (VEq (.slice p n c))),.k 3 97 1 (VC1 (VCo (.slice p n c)))] [] a2 w2:=st2;obtain⟨g1,hg1,st2⟩:=st2.ptrB 1 rfl rfl rfl;obtain⟨g3,hg3,st2⟩:=st2.ptrB 3 rfl rfl rfl;refine Wn ?_
 have:Sb [] (VCo (.slice p n c)):=⟨Stab_VCo (by simp)⟩;refine rH [] [VEq (.func (.func 98) #[] #[.pointer (some ⟨g1,0,none⟩),.pointer (some ⟨g3,0,none⟩)]),VEq (.func (.func 98) #[] #[.pointer (some ⟨g1,0,none⟩),.pointer (some ⟨g3,0,none⟩)])] [.k 1 23 1 (VC1 (VEq (.slice p n c))),.k 3 97 1 (VC1 (VCo (.slice p n c)))] [(1,VEq (.pointer (some ⟨g1,0,none⟩))),(3,VEq (.pointer (some ⟨g3,0,none⟩))),(2,VEq (.func (.func 98) #[] #[.pointer (some ⟨g1,0,none⟩),.pointer (some ⟨g3,0,none⟩)]))] st2 ⟨(by refine kr fun _ ac Y h D=>?_;obtain⟨v0,hv0,X0⟩:=h.ot 1;obtain⟨v1,hv1,X1⟩:=h.ot 3;obtain rfl:v0=_:=X0;obtain rfl:v1=_:=X1;exact⟨_,run_mkfn2 rfl hv0 hv1,rfl⟩),ks,trivial⟩ ?_;intro a3 w3 st3;replace st3:St w.heap.size w 7 [.k 1 23 1 (VC1 (VEq (.slice p n c))),.k 3 97 1 (VC1 (VCo (.slice p n c)))] [(1,VEq (.pointer (some ⟨g1,0,none⟩))),(3,VEq (.pointer (some ⟨g3,0,none⟩))),(2,VEq (.func (.func 98) #[] #[.pointer (some ⟨g1,0,none⟩),.pointer (some ⟨g3,0,none⟩)]))] a3 w3:=st3;obtain⟨x1,e1,-,-,cs1,p1,-,-,u1,hc1,hu1⟩:=st3.boxAt (b:=(.k 1 23 1 (VC1 (VEq (.slice p n c))))) (.head _) rfl rfl;obtain⟨x3,e3,-,-,cs3,p3,-,-,u3,hc3,hu3⟩:=st3.boxAt (b:=(.k 3 97 1 (VC1 (VCo (.slice p n c))))) (.tail _ (.head _)) rfl rfl;cases hc1;cases hc3;obtain rfl:u1=_:=hu1;obtain⟨z1,q1,rfl⟩:=st3.sl (1,VEq (.pointer (some ⟨g1,0,none⟩))) (lS_mem rfl);obtain⟨z3,q3,rfl⟩:=st3.sl (3,VEq (.pointer (some ⟨g3,0,none⟩))) (lS_mem rfl);obtain rfl:x1=g1:=by have:=e1.symm.trans q1;simpa using this
 obtain rfl:x3=g3:=by have:=e3.symm.trans q3;simpa using this
 refine Wn ?_
 obtain⟨vr,r1,r4⟩:=st3.slot (2,VEq (.func (.func 98) #[] #[.pointer (some ⟨x1,0,none⟩),.pointer (some ⟨x3,0,none⟩)])) (lS_mem rfl);exact wp_ret (bodyPost_ret (results_tmp rfl _ _ _) st3.defers ⟨_,congrArg Ending.returned (show _=vr from r1),⟨x1,x3,u3,r4,p1,p3,hu3⟩,st3.k.below⟩)
def VSl {α:Type}(T:TypeId)(k:Nat)(E:α->VP)(xs:List α):VP:=fun v w=>∃h o c cs,v= .slice (some ⟨h,o,none⟩) xs.length c/\xs.length<=c/\c<=9223372036854775807/\w.heap[h]? =some (.cells cs T (0,0))/\o+k*xs.length<=cs.size/\∀i x,xs[i]? =some x->E x (.agg (cs.extract (o+k*i) (o+k*i+k))) w
def VEp (T:TypeId)(k:Nat)(A:VP):VP:=fun v w=>∃h off cs,v= .pointer (some ⟨h,off,none⟩)/\w.heap[h]? =some (.cells cs T (0,0))/\off+k<=cs.size/\A (.agg (cs.extract off (off+k))) w
section
variable {BT:List (TypeId×Nat×Nat)}{α:Type}{T:TypeId}{k:Nat}{E:α->VP}{xs:List α}{w W:World}{v:Value}{A:VP}
theorem VSl_later (hE:∀x,Stab [] (E x))(h:VSl T k E xs v w)(hb:Below w.heap.size w W):VSl T k E xs v W:=by
 obtain⟨hh,o,c,cs,e1,e2,e3,e4,e5,e6⟩:=h;exact⟨hh,o,c,cs,e1,e2,e3,(hb.block _ (lt_blk e4)).trans e4,e5,fun i x hx=>hE x _ _ _ (e6 i x hx) (RI.of_below hb)⟩
theorem VSl_el (h:VSl T k E xs v w){i:Nat}{x:α}(hx:xs[i]? =some x):∃b o c,v= .slice (some ⟨b,o,none⟩) xs.length c/\VEp T k (E x) (.pointer (some ⟨b,o+k*i,none⟩)) w:=by
 obtain⟨hh,o,c,cs,e1,e2,e3,e4,e5,e6⟩:=h
 have hi:i<xs.length:=by
  rcases Nat.lt_or_ge i xs.length with h'|h'
  ·exact h'
  ·rw [List.getElem?_eq_none h'] at hx;cases hx
 have hle:k*i+k<=k*xs.length:=by rw [<-Nat.mul_succ];exact Nat.mul_le_mul_left k hi
 exact⟨hh,o,c,e1,hh,_,cs,rfl,e4,by omega,e6 i x hx⟩
theorem load_EpV {ρ:Operand->Value}{o:Oper}{x:Operand}{va:Value}{d:TypeDesc}(ho:o.op= .load T x)(hx:ρ x=va)(h:VAt w (VEp T k A) va W)(hb:Below w.heap.size w W)(hu:Tryz.prog.underlying T=some d)(D:aggT d=true)(hi:(Tryz.prog.info? T).map (·.size)=some k):∃v,(execOp ρ o).run Tryz.prog W= .ok (.value v) W/\VAt w A v W:=by
 obtain⟨g,off,cs,rfl,e2,e3,e4⟩:=h;refine⟨_,?_,e4⟩;have e5:=(hb.block _ (lt_blk e2)).trans e2;unfold execOp;simp only [ho,hx,Instr.loadAt,Instr.sureAddr,Sem.run_bind,Sem.run_pure,Result.andThen_ok,run_loadVar_part W g off k T T cs (0,0) d e5 e3 hu D hi]
end
def EV (N:Nat)(a:P2):VP:=Vv N a.1 a.2
def VSv (N:Nat)(vs:List P2):VP:=fun v w=>(v= .slice none 0 0/\vs= [])∨VSl 32 8 (EV N) vs v w
theorem VSv_later {N:Nat}{vs:List P2}{v:Value}{w W:World}(h:VSv N vs v w)(hb:Below w.heap.size w W):VSv N vs v W:=
 h.imp id fun h=>VSl_later (fun _=>Stab_Vv _ _ _) h hb
theorem VSv_slice {N:Nat}{vs:List P2}{v:Value}{w:World}(h:VSv N vs v w):∃p c,v= .slice p vs.length c:=by
 rcases h with⟨rfl,rfl⟩|⟨hh,o,c,cs,rfl,-⟩
 ·exact⟨_,_,rfl⟩
 ·exact⟨_,_,rfl⟩
theorem VSv_max {N:Nat}{vs:List P2}{v:Value}{w:World}(h:VSv N vs v w):vs.length<=9223372036854775807:=by
 rcases h with⟨rfl,rfl⟩|⟨hh,o,c,cs,rfl,h1,h2,-⟩
 ·simp
 ·omega
def VPb (T:TypeId)(u:Value):VP:=fun v w=>∃b,v= .pointer (some ⟨b,0,none⟩)/\w.heap[b]? =some (.cells #[u] T (0,0))
theorem Stab_VPb {BT:List (TypeId×Nat×Nat)}{T:TypeId}{u:Value}(h1:∀e∈BT,e.1≠T):Stab BT (VPb T u):=fun _ _ _ ⟨b,e1,e2⟩ hr=>⟨b,e1,(hr.row b _ _ e2 (.inl fun e he q=>absurd q (h1 e he))).trans e2⟩
section
variable {ρ:Operand->Value}{o:Oper}{w W:World}{x y:Operand}{va vb lv:Value}{N:Nat}{vs:List P2}
theorem load_Pb {T:TypeId}{u:Value}(ho:o.op= .load T x)(hx:ρ x=va)(h:VPb T u va W)[hc:CeT T]:∃v,(execOp ρ o).run Tryz.prog W= .ok (.value v) W/\VEq u v W:=by
 obtain⟨b,rfl,hb⟩:=h;obtain⟨d,hu,hdd⟩:=hc.und;have hcell:W.cell? ⟨b,0,none⟩=some u:=by simp [World.cell?,hb]
 have hagg:(isAgg T).run Tryz.prog W= .ok false W:=by
  unfold isAgg;rw [Sem.run_bind,run_underlying hu W];cases d<;>simp_all [aggT]
 refine⟨u,?_,rfl⟩;unfold execOp;simp only [ho,hx,Instr.loadAt,Instr.sureAddr,Sem.run_bind,Sem.run_pure,Result.andThen_ok,loadVar,hagg];simp only [Bool.false_eq_true,if_false,run_load,hcell,Result.andThen_ok]
theorem len_Sv (ho:o.op= .call {callee:= .builtin .len,args:=#[x],argTypes:=#[23]})(_hty:o.type=3)(hx:ρ x=va)(h:VEq lv va W)(hS:VSv N vs lv w):∃v,(execOp ρ o).run Tryz.prog W= .ok (.value v) W/\Vi (vs.length:Int) v W:=by
 obtain rfl:va=lv:=h;obtain⟨p,c,rfl⟩:=VSv_slice hS;refine⟨.int .i64 (vs.length:Int),?_,rfl⟩;obtain⟨dd,op,ty,ps,af,gd⟩:=o;subst ho;simp only at _hty;subst _hty;clear hS;generalize vs.length=n at*
 go_simp
theorem index_Sv {a:P2}{j:Nat}(ho:o.op= .indexAddr 23 x y)(hx:ρ x=va)(h:VEq lv va W)(hS:VSv N vs lv w)(hy:ρ y=vb)(hb:Vi (j:Int) vb W)(hz:vs[j]? =some a):∃v,(execOp ρ o).run Tryz.prog W= .ok (.value v) W/\VAt w (VEp 32 8 (Vv N a.1 a.2)) v W:=by
 obtain rfl:va=lv:=h;rcases hS with⟨rfl,rfl⟩|hS
 ·cases hz
 obtain⟨b,off,c,rfl,h2⟩:=VSl_el hS hz;obtain rfl:vb=_:=hb;refine⟨.pointer (some ⟨b,off+8*j,none⟩),?_,h2⟩
 have hj:j<vs.length:=by
  rcases Nat.lt_or_ge j vs.length with h'|h'
  ·exact h'
  ·rw [List.getElem?_eq_none h'] at hz;cases hz
 have hj2:(j:Int)<(vs.length:Int):=by omega
 have hm:j*8=8*j:=Nat.mul_comm _ _;clear hS h2 hz;generalize vs.length=n at*
 obtain⟨dd,op,ty,ps,af,gd⟩:=o;subst ho
 go_simp
theorem rem_n {j n:Nat}(ho:o.op= .binOp .rem 3 x y 3)(hx:ρ x=va)(hy:ρ y=vb)(h1:Vi (j:Int) va W)(h2:Vi (n:Int) vb W)(hn:0<n):∃v,(execOp ρ o).run Tryz.prog W= .ok (.value v) W/\Vi ((j % n:Nat):Int) v W:=by
 obtain rfl:va=_:=h1;obtain rfl:vb=_:=h2;exact⟨_,run_remi ho hx hy (by omega) (by omega),by show Value.int .i64 _=_;rw [<-Int.natCast_emod]⟩
end
instance (w:World)(V:VP)(m:Nat)[h:Ag V m]:Ag (VAt w V) m:=⟨fun v _ hv=>h.out v w hv⟩
theorem cCorner {w:World}{wb:World}{N k:Nat}{vs:List P2}{lv:Value}{a:P2}{v0 v1:Value}(h0:Vi (k:Int) v0 w)(h1:VPb 23 lv v1 w)(hB:Below wb.heap.size wb w)(hS:VSv N vs lv wb)(hn:0<vs.length)(ha:vs[k % vs.length]? =some a):Calls Tryz.prog 123 #[v0,v1] w (RV (VAt wb (Vv N a.1 a.2)) w):=by
 go_enter Tryz.func123,Tryz.ntmps123
 refine Sg 11 [(0,Vi (k:Int)),(1,VPb 23 lv)] (Lq.2 ⟨⟨_,rfl,h0⟩,(Lq.2 ⟨⟨_,rfl,h1⟩,L0⟩)⟩) fun a0 st0=>Wn ?_
 have:Sb [(32,8,0)] (VPb 23 lv):=⟨(Stab_VPb (by simp))⟩;refine rH [(32,8,0)] [VT] [⟨3,some 0,none,32,8,VT,VT⟩] [(0,Vi (k:Int)),(1,VPb 23 lv)] st0 ⟨ks,trivial⟩ fun a1 w1 st1=>Wn ?_
 have:Sb [(32,8,0)] (VPb 23 lv):=⟨(Stab_VPb (by simp))⟩;refine rH [(32,8,0)] [VEq lv,Vi (k:Int),VEq lv,Vi (vs.length:Int),Vi ((k % vs.length:Nat):Int),VAt wb (VEp 32 8 (Vv N a.1 a.2)),VAt wb (Vv N a.1 a.2),VT] [⟨3,none,some 7,32,8,VAt wb (Vv N a.1 a.2),VT⟩] [(0,Vi (k:Int)),(1,VPb 23 lv)] st1 ⟨(by refine kr fun _ ac Y h D=>?_;obtain⟨v0,x0,X0⟩:=h.ot 1;exact load_Pb rfl x0 X0),ks,(by refine kr fun _ ac Y h D=>?_;obtain⟨v0,x0,X0⟩:=h.ot 1;exact load_Pb rfl x0 X0),(kr1 6 fun _ _ _ _ _ x0 X0=>len_Sv rfl rfl x0 X0 hS),(kr2 5 7 fun _ _ _ _ _ x0 X0 _ x1 X1=>rem_n rfl x0 x1 X0 X1 hn),(kr2 4 8 fun _ _ _ _ _ x0 X0 _ x1 X1=>index_Sv rfl x0 X0 hS x1 X1 ha),(kr1 9 fun _ _ _ h _ x0 X0=>load_EpV (w:=wb) (k:=8) (A:=Vv N a.1 a.2) rfl x0 X0 (hB.trans (h.k.below.mono hB.size)) Tryz.underlying32 rfl size_Vec),ks,trivial⟩ ?_;intro a2 w2 st2;refine Wn ?_
 exact wp_ret (rC 3 32 (VAt wb (Vv N a.1 a.2)) st2 fun cs r4=>r4)
end Go.Proofs.YteacdbgalloaiaaGreat
