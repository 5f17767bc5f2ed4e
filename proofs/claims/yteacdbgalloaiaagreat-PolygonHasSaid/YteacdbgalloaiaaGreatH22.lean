/- Contracts of the packages integer, rat, plane, polygon and their references. -/
import Derived.Test.YteacdbgalloaiaaGreatH12
import Derived.OrdersIn
import Derived.TacticsIn
import Derived.RangeFuncNested
import Derived.RangeFuncCalls
import Derived.RangeFuncLeaves
import Derived.Deep.MidRow
set_option linter.unusedVariables false
set_option maxRecDepth 100000
set_option maxHeartbeats 6400000
namespace Go.Proofs.YteacdbgalloaiaaGreat
open Go Go.RowKit
abbrev fW (ro:Option Nat):Fence:={fn:=fun _=>True,depth:=none,alive:=false,round:=ro}
section
variable {ro:Option Nat}{n:Nat}{P:Program}{ops:Array Oper}{md:Region.Mode}{Q:Exit->Act->World->Prop}{a a0:Act}{w:World}
theorem Calls.inW {f:FuncId}{args:Array Value}{R:Ending->World->Prop}(h:Calls P f args w R):CallsIn (fW ro) n P f args w R:=(callsIn_wide (n:=n)).2 h
theorem wp_in {o:Oper}{K:Act->World->Prop}(D:∀c,o.op≠ .defer c)(h:o.wp P a w K Q):o.wpIn (fW ro) n P a w K Q:=by
 refine⟨fun _ _=>trivial,?_⟩;rw [show(fW ro).round=ro from rfl,Oper.semAt_eq ro a.eval o D];unfold Oper.wp at h;generalize(execOp a.eval o).run P w=r at h ⊢;have nod:(fW ro).depth.isSome=true->1<=n:=fun e=>absurd e (by simp)
 cases r with
 |ok x w'=>
  cases x;case enter f args=>exact⟨nod,Calls.inW h⟩
  case row r args=>
   refine⟨nod,fun c cs _=>?_⟩;obtain⟨v,w'',hR,hs⟩:=h c cs;exact⟨v,w'',hR,stepsIn_wide.2 hs⟩
  case round=>exact h.elim
  all_goals exact h
 |halt x w'=>cases x<;>exact h
def noDefer (l:List Oper):Bool:=l.all fun o=>match o.op with| .defer _=>false|_=>true
def KStepI (BT:List (TypeId×Nat×Nat))(ro:Option Nat)(n:Nat)(P:Program)(md:Region.Mode)(ops:Array Oper)(Q:Exit->Act->World->Prop)(a0:Act)(V:Nat->VP)(n0:Nat)(w0:World)(B:List Bd)(SL:List (Nat×VP))(i:Nat)(o:Oper):Prop:=
 ∀listed a w,KI md ops a0 V n0 w0 B SL listed a w->(∀e∈o.after,Region.binds md e=true->listed.getD e.on false=true)->o.dst.all (fun d=>decide (d<a0.tmps.size))=true->i<listed.size->listed.getD i false=false->
  ∀K:Act->World->Prop,(∀v w',KS n0 w0 B (listed.setIfInBounds i true) (a.put o.dst v) w'->RI BT w w'->V i v w'->K (a.put o.dst v) w')->(if Region.wanted o (yielded ops a.tmps)then o.wpIn (fW ro) n P a w K Q else K (a.put o.dst undef) w)
variable {BT:List (TypeId×Nat×Nat)}{V:Nat->VP}{n0:Nat}{w0:World}{B:List Bd}{SL:List (Nat×VP)}
theorem KStep.toI {i:Nat}{o:Oper}(D:∀c,o.op≠ .defer c)(h:KStep BT P md ops Q a0 V n0 w0 B SL i o):KStepI BT ro n P md ops Q a0 V n0 w0 B SL i o:=fun listed a w h1 h2 h3 h4 h5 K hK=>by
 have:=h listed a w h1 h2 h3 h4 h5 K hK;by_cases hw:Region.wanted o (yielded ops a.tmps)=true
 ·simp only [hw,if_true] at this ⊢;exact wp_in D this
 ·simp only [hw] at this ⊢;exact this
theorem wpAny_kI (hfore:kFore md ops=true)(hown:flowOwn ops=true)(hin:∀(i:Nat) (o:Oper) (d:Tmp),ops[i]? =some o->o.dst=some d->d<a0.tmps.size)(hV:∀i,Stab BT (V i))(hSL:∀p∈SL,Stab BT p.2)
 (hstep:∀(i:Nat) (o:Oper),ops[i]? =some o->KStepI BT ro n P md ops Q a0 V n0 w0 B SL i o)
 (hdone:∀(listed:Array Bool) (a:Act) (w:World),(∀i,i<ops.size->listed.getD i false=true)->KI md ops a0 V n0 w0 B SL listed a w->Q .normal a w):
 ∀(fuel:Nat) (listed:Array Bool) (a:Act) (w:World),KI md ops a0 V n0 w0 B SL listed a w->listed.toList.count false<=fuel->wpAnyIn (fW ro) n P md ops Q fuel listed a w:=by
 intro fuel
 induction fuel with
 |zero=>
  intro listed a w h hc;have hall:∀i,i<ops.size->listed.getD i false=true:=fun i hi=>count_zero listed (by omega) i (by rw [h.len];exact hi)
  refine⟨?_,hdone _ _ _ hall h⟩;cases hr:Region.ready md ops listed with
  |nil=>rfl
  |cons i l=>
   have hi:i∈Region.ready md ops listed:=by rw [hr];exact List.mem_cons_self
   obtain⟨h1,o,ho,_⟩:=mem_ready.1 hi
   have hlt:i<ops.size:=by
    rcases Nat.lt_or_ge i ops.size with h'|h'
    ·exact h'
    ·rw [Array.getElem?_eq_none h'] at ho;cases ho
   have h2:=hall i hlt;have h3:i<listed.size:=by rw [h.len];exact hlt
   simp [Array.getD,h3] at h1 h2;rw [h2] at h1;cases h1
 |succ fuel ih=>
  intro listed a w h hc;refine⟨fun hr=>hdone _ _ _ (kready_none hfore h.len hr) h,fun i hi=>?_⟩;obtain⟨h1,o,ho,hdep⟩:=mem_ready.1 hi
  have hlt:i<listed.size:=by
   rw [h.len];rcases Nat.lt_or_ge i ops.size with h'|h'
   ·exact h'
   ·rw [Array.getElem?_eq_none h'] at ho;cases ho
  have hcnt:=count_set listed i hlt h1;have:=hstep i o ho listed a w h hdep (dst_ok hin ho) hlt (by have h5:=h1;simp only [Array.getD,hlt,dif_pos] at h5 ⊢;exact h5) (wpAnyIn (fW ro) n P md ops Q fuel (listed.setIfInBounds i true)) fun v w' hS hR hv=>ih _ _ _ (h.step hown hin hV hSL ho hdep hS hR hv) (by omega)
  unfold wpOpIn;rw [ho];by_cases hw:Region.wanted o (yielded ops a.tmps)=true
  ·simp only [hw,if_true] at this ⊢;exact this
  ·simp only [hw] at this ⊢;exact⟨fun _ _=>trivial,this⟩
theorem wpList_kI (hfore:kFore md ops=true)(hown:flowOwn ops=true)(hin:∀(i:Nat) (o:Oper) (d:Tmp),ops[i]? =some o->o.dst=some d->d<a0.tmps.size)(hV:∀i,Stab BT (V i))(hSL:∀p∈SL,Stab BT p.2)
 (hstep:∀(i:Nat) (o:Oper),ops[i]? =some o->KStepI BT ro n P md ops Q a0 V n0 w0 B SL i o)
 (hdone:∀(listed:Array Bool) (a:Act) (w:World),(∀i,i<ops.size->listed.getD i false=true)->KI md ops a0 V n0 w0 B SL listed a w->Q .normal a w):
 ∀(rest:List Oper) (k:Nat) (listed:Array Bool) (a:Act) (w:World),ops.toList.drop k=rest->(∀i,i<k->i<ops.size->listed.getD i false=true)->(∀i,k<=i->listed.getD i false=false)->KI md ops a0 V n0 w0 B SL listed a w->wpListIn (fW ro) n P ops Q rest a w:=by
 intro rest
 induction rest with
 |nil=>
  intro k listed a w hk hl _ h
  have:ops.size<=k:=by
   have:=List.drop_eq_nil_iff.1 hk
   simpa using this
  exact hdone listed a w (fun i hi=>hl i (by omega) hi) h
 |cons o rest ih=>
  intro k listed a w hk hl hnl h
  have hlt:k<ops.toList.length:=by
   rcases Nat.lt_or_ge k ops.toList.length with h'|h'
   ·exact h'
   ·rw [List.drop_eq_nil_iff.2 h'] at hk;cases hk
  rw [List.drop_eq_getElem_cons hlt] at hk;have ho':ops.toList[k]=o:=(List.cons.inj hk).1
  have ho:ops[k]? =some o:=by
   have h1:k<ops.size:=by simpa using hlt
   rw [Array.getElem?_eq_getElem h1]
   simpa using ho'
  have hlk:k<listed.size:=by rw [h.len];simpa using hlt
  have hdep:∀e∈o.after,Region.binds md e=true->listed.getD e.on false=true:=fun e he hb=>by
   have h1:=kFore_spec hfore ho e he hb
   exact hl e.on h1 (by
    have:k<ops.size:=by simpa using hlt
    omega)
  have:=hstep k o ho listed a w h hdep (dst_ok hin ho) hlk (hnl k (Nat.le_refl _)) (wpListIn (fW ro) n P ops Q rest) fun v w' hS hR hv=>ih (k+1) _ _ _ (List.cons.inj hk).2 (fun i hi hi'=>by
   rw [getD_set _ _ _ hlk];split
   ·rfl
   ·exact hl i (by omega) hi') (fun i hi=>by
   rw [getD_set _ _ _ hlk,if_neg (by omega)]
   exact hnl i (by omega)) (h.step hown hin hV hSL ho hdep hS hR hv)
  unfold wpListIn;by_cases hw:Region.wanted o (yielded ops a.tmps)=true
  ·simp only [hw,if_true] at this ⊢;exact this
  ·simp only [hw] at this ⊢;exact⟨fun _ _=>trivial,this⟩
def AllKI (BT:List (TypeId×Nat×Nat))(ro:Option Nat)(n:Nat)(P:Program)(md:Region.Mode)(ops:Array Oper)(Q:Exit->Act->World->Prop)(a0:Act)(V:Nat->VP)(n0:Nat)(w0:World)(B:List Bd)(SL:List (Nat×VP)):Nat->List Oper->Prop
 |_,[]=>True
 |i,o::l=>KStepI BT ro n P md ops Q a0 V n0 w0 B SL i o/\AllKI BT ro n P md ops Q a0 V n0 w0 B SL (i+1) l
theorem AllKI.get:∀(l:List Oper) (i:Nat),AllKI BT ro n P md ops Q a0 V n0 w0 B SL i l->∀(j:Nat) (o:Oper),l[j]? =some o->KStepI BT ro n P md ops Q a0 V n0 w0 B SL (i+j) o
 | [],_,_,j,o,ho=>by simp at ho
 |x::l,i,h,0,o,ho=>by
  have:x=o:=by simpa using ho
  subst this;exact h.1
 |x::l,i,h,j+1,o,ho=>by
  have:=AllKI.get l (i+1) h.2 j o (by simpa using ho);rw [show i+(j+1)=i+1+j by omega];exact this
theorem AllK.toI:∀(l:List Oper) (i:Nat),noDefer l=true->AllK BT P md ops Q a0 V n0 w0 B SL i l->AllKI BT ro n P md ops Q a0 V n0 w0 B SL i l
 | [],_,_,_=>trivial
 |o::l,i,D,h=>by
  simp only [noDefer,List.all_cons,Bool.and_eq_true] at D;refine⟨h.1.toI fun c e=>?_,AllK.toI l (i+1) D.2 h.2⟩;have:=D.1;rw [e] at this;cases this
theorem region_kI {id:Nat}{l:List Oper}{ord:Bool}{w:World}(hm:P.follows .mixedOrders=true)(hfore:kFore .any l.toArray=true)(hown:flowOwn l.toArray=true)(hin:l.all (fun o=>match o.dst with|some d=>decide (d<a0.tmps.size)|none=>true)=true)
 (hBP:∀b∈B,b.stab BT) (hSL:∀p∈SL,Stab BT p.2) (hV:∀i,Stab BT (V i))
 (hst:KS n0 w0 B (Array.replicate l.length false) a0 w) (hn:n0<=w.heap.size) (hsl:∀p∈SL,∃v,a0.tmps[p.1]? =some v/\p.2 v w)
 (hstep:AllKI BT ro n P .any l.toArray Q a0 V n0 w0 B SL 0 l)
 (hdone:∀(listed:Array Bool) (a:Act) (w:World),(∀i,i<l.toArray.size->listed.getD i false=true)->KI .any l.toArray a0 V n0 w0 B SL listed a w->Q .normal a w):(Code.region id l.toArray ord).wpIn (fW ro) n P Q a0 w:=by
 have hin':∀(i:Nat) (o:Oper) (d:Tmp),l.toArray[i]? =some o->o.dst=some d->d<a0.tmps.size:=fun i o d ho D=>by
  rw [List.all_eq_true] at hin;have ho':l[i]? =some o:=by simpa using ho
  have:=hin o (List.mem_of_getElem? ho');rw [D] at this;exact of_decide_eq_true this
 have hs':∀(i:Nat) (o:Oper),l.toArray[i]? =some o->KStepI BT ro n P .any l.toArray Q a0 V n0 w0 B SL i o:=fun i o ho=>by
  have:=AllKI.get l 0 hstep i o (by simpa using ho);rw [Nat.zero_add] at this;exact this
 have hno:∀i,(Array.replicate l.length false).getD i false=true->False:=fun i hl=>by
  simp only [Array.getD_eq_getD_getElem?,Array.getElem?_replicate] at hl;split at hl<;>simp at hl
 cases ord with
 |true=>
  refine wpIn_region_any hm (wpAny_kI hfore hown hin' hV hSL hs' hdone _ _ _ _ ⟨?_,hn,by simp,rfl,rfl,fun _ _=>rfl,fun i o d ho hl _=>(hno i hl).elim,fun p hp=>?_,fun k o _ hl=>(hno k hl).elim⟩ ?_)
  ·have:=hst.drew hBP
   simpa using this
  ·obtain⟨v,h1,h2⟩:=hsl p hp;exact⟨v,h1,hSL p hp _ _ _ h2 (RI.drew w)⟩
  ·simp
 |false=>
  refine wpIn_region_lit (wpList_kI hfore hown hin' hV hSL hs' hdone l 0 (Array.replicate l.length false) a0 w (by simp) (fun i hi=>by omega) (fun i _=>by
   cases hl:(Array.replicate l.length false).getD i false with
   |false=>rfl
   |true=>exact(hno i hl).elim) ⟨hst,hn,by simp,rfl,rfl,fun _ _=>rfl,fun i o d ho hl _=>(hno i hl).elim,hsl,fun k o _ hl=>(hno k hl).elim⟩)
end
section
variable {ro:Option Nat}{n:Nat}{Q:Exit->Act->World->Prop}{Vl:List VP}{n0:Nat}{w0:World}{B:List Bd}{SL:List (Nat×VP)}{BT:List (TypeId×Nat×Nat)}
theorem rgI {id N:Nat}{l:List Oper}{ord:Bool}{L:List Bd}{SL':List (Nat×VP)}{a:Act}{w:World}(st:St n0 w0 N L SL a w)(hstep:AllK BT Tryz.prog .any l.toArray Q a (GV Vl) n0 w0 B SL 0 l)(hdone:∀a' w',St n0 w0 N (B.map Bd.fin) SL' a' w'->Q .normal a' w')[hB:SbB BT B][hS:SbS BT SL][hL:SbL BT Vl]
 (hst:StartsF L B:=by repeat (first|exact trivial|refine⟨.inl ⟨_,rfl⟩,?_⟩|refine⟨.inr ⟨_,rfl,rfl,rfl,rfl,rfl,rfl,.inr ⟨rfl,rfl,rfl⟩⟩,?_⟩|refine⟨.inr ⟨_,rfl,rfl,rfl,rfl,rfl,rfl,.inl ⟨_,rfl,rfl,rfl⟩⟩,?_⟩))
 (hg:GetsF l.toArray (GV Vl) SL SL':=by repeat (first|exact trivial|refine⟨.inl ⟨rfl,rfl⟩,?_⟩|refine⟨.inr ⟨rfl,by kernel_rfl⟩,?_⟩))
 (hm:Tryz.prog.follows .mixedOrders=true:=by kernel_rfl) (hfore:kFore .any l.toArray=true:=by kernel_rfl) (hown:flowOwn l.toArray=true:=by kernel_rfl) (hin:l.all (fun o=>match o.dst with|some d=>decide (d<N)|none=>true)=true:=by kernel_rfl)
 (hlt:B.all (fun b=>(match b.ia with|some i=>decide (i<l.toArray.size)|none=>true) && (match b.ik with|some i=>decide (i<l.toArray.size)|none=>true))=true:=by kernel_rfl) (hnd:noDefer l=true:=by kernel_rfl):(Code.region id l.toArray ord).wpIn (fW ro) n Tryz.prog Q a w:=
 region_kI hm hfore hown (by rw [st.size];exact hin) hB.out hS.out (stab_of hL.out) (st.start hst.to _) st.n st.sl (hstep.toI l 0 hnd) fun listed a' w' hall kd=>hdone a' w' (kd.st hall st.size st.defers hlt SL' hg.to)
theorem cTI {ro:Option Nat}{n n0 N t:Nat}{w0:World}{Q:Exit->Act->World->Prop}{L:List Bd}{SL:List (Nat×VP)}{a:Act}{w:World}{x y:Code}{P:Program}(st:St n0 w0 N L SL a w)(k:x.wpIn (fW ro) n P Q a w)(hm:lS SL t=some (Vb true):=by rfl):(Code.cond (.tmp t) x y).wpIn (fW ro) n P Q a w:=by
 obtain⟨v,h1,h2⟩:=st.slot (t,Vb true) (lS_mem hm);exact wpIn_cond_true (h1.trans h2) k
theorem cFI {ro:Option Nat}{n n0 N t:Nat}{w0:World}{Q:Exit->Act->World->Prop}{L:List Bd}{SL:List (Nat×VP)}{a:Act}{w:World}{x y:Code}{P:Program}(st:St n0 w0 N L SL a w)(k:y.wpIn (fW ro) n P Q a w)(hm:lS SL t=some (Vb false):=by rfl):(Code.cond (.tmp t) x y).wpIn (fW ro) n P Q a w:=by
 obtain⟨v,h1,h2⟩:=st.slot (t,Vb false) (lS_mem hm);exact wpIn_cond_false (h1.trans h2) k
theorem rJ {id N:Nat}{l:List Oper}{ord:Bool}{L:List Bd}{a:Act}{w:World}(BT:List (TypeId×Nat×Nat))(Vl:List VP)(B:List Bd)(SL':List (Nat×VP))(st:St n0 w0 N L SL a w)(hstep:AllK BT Tryz.prog .any l.toArray Q a (GV Vl) n0 w0 B SL 0 l)(hdone:∀a' w',St n0 w0 N (B.map Bd.fin) SL' a' w'->Q .normal a' w')[hB:SbB BT B][hS:SbS BT SL][hL:SbL BT Vl]
 (hst:StartsF L B:=by repeat (first|exact trivial|refine⟨.inl ⟨_,rfl⟩,?_⟩|refine⟨.inr ⟨_,rfl,rfl,rfl,rfl,rfl,rfl,.inr ⟨rfl,rfl,rfl⟩⟩,?_⟩|refine⟨.inr ⟨_,rfl,rfl,rfl,rfl,rfl,rfl,.inl ⟨_,rfl,rfl,rfl⟩⟩,?_⟩))
 (hg:GetsF l.toArray (GV Vl) SL SL':=by repeat (first|exact trivial|refine⟨.inl ⟨rfl,rfl⟩,?_⟩|refine⟨.inr ⟨rfl,by kernel_rfl⟩,?_⟩))
 (hm:Tryz.prog.follows .mixedOrders=true:=by kernel_rfl) (hfore:kFore .any l.toArray=true:=by kernel_rfl) (hown:flowOwn l.toArray=true:=by kernel_rfl) (hin:l.all (fun o=>match o.dst with|some d=>decide (d<N)|none=>true)=true:=by kernel_rfl)
 (hlt:B.all (fun b=>(match b.ia with|some i=>decide (i<l.toArray.size)|none=>true) && (match b.ik with|some i=>decide (i<l.toArray.size)|none=>true))=true:=by kernel_rfl) (hnd:noDefer l=true:=by kernel_rfl):(Code.region id l.toArray ord).wpIn (fW ro) n Tryz.prog Q a w:=rgI st hstep hdone hst hg hm hfore hown hin hlt hnd
end
structure Rw where
 g:Nat
 k:Nat
 T:TypeId
 m:Nat
 P:VP
 P0:VP
def RowI (r:Rw)(listed:Array Bool)(w:World):Prop:=∃cs,w.heap[r.g]? =some (.cells cs r.T (0,0))/\cs.size=r.m/\NoInt cs/\(listed.getD r.k false=true->r.P (.agg cs) w)/\(listed.getD r.k false=false->r.P0 (.agg cs) w)
section
variable {P:Program}{md:Region.Mode}{ops:Array Oper}{Q:Exit->Act->World->Prop}{a0:Act}{V:Nat->VP}{n0:Nat}{w0:World}{B:List Bd}{SL:List (Nat×VP)}{BT BT2:List (TypeId×Nat×Nat)}{r:Rw}
theorem RI.mono {w w':World}(h:RI BT w w')(hs:∀e∈BT,e∈BT2)(hs2:∀e∈BT2,e.2.1=0->e∈BT):RI BT2 w w':=⟨h.size,h.int,fun k cs T hk hn=>h.row k cs T hk (hn.imp (fun hn e he=>hn e (hs e he)) fun ⟨h0,e,he,e1,e2,e3⟩=>⟨h0,e,hs2 e he e2,e1,e2,e3⟩),fun hb=>h.oth fun e he=>hb e (hs e he)⟩
theorem RowI.keep {listed:Array Bool}{w w':World}{i:Nat}(h:RowI r listed w)(hr:RI BT w w')(hn:BT.any (fun e=>e.1==r.T && e.2.1==r.m)=false)(hP:Stab BT r.P)(hP0:Stab BT r.P0)(hi:i≠r.k):RowI r (listed.setIfInBounds i true) w':=by
 obtain⟨cs,h1,h2,h3,h4,h5⟩:=h
 have e:(listed.setIfInBounds i true).getD r.k false=listed.getD r.k false:=by
  simp only [Array.getD_eq_getD_getElem?,Array.getElem?_setIfInBounds_ne hi]
 exact⟨cs,(hr.row _ _ _ h1 (BT_not hn h2)).trans h1,h2,h3,fun hl=>hP _ _ _ (h4 (by rw [<-e];exact hl)) hr,fun hl=>hP0 _ _ _ (h5 (by rw [<-e];exact hl)) hr⟩
def KStepR (BT2:List (TypeId×Nat×Nat))(P:Program)(md:Region.Mode)(ops:Array Oper)(Q:Exit->Act->World->Prop)(a0:Act)(V:Nat->VP)(n0:Nat)(w0:World)(B:List Bd)(SL:List (Nat×VP))(r:Rw)(o:Oper):Prop:=
 ∀listed a w,KI md ops a0 V n0 w0 B SL listed a w->RowI r listed w->(∀e∈o.after,Region.binds md e=true->listed.getD e.on false=true)->o.dst.all (fun d=>decide (d<a0.tmps.size))=true->r.k<listed.size->listed.getD r.k false=false->
  ∀K:Act->World->Prop,(∀v w',KS n0 w0 B (listed.setIfInBounds r.k true) (a.put o.dst v) w'->RI BT2 w w'->RowI r (listed.setIfInBounds r.k true) w'->V r.k v w'->K (a.put o.dst v) w')->(if Region.wanted o (yielded ops a.tmps)then o.wp P a w K Q else K (a.put o.dst undef) w)
theorem wpAny_r (hfore:kFore md ops=true)(hown:flowOwn ops=true)(hin:∀(i:Nat) (o:Oper) (d:Tmp),ops[i]? =some o->o.dst=some d->d<a0.tmps.size)(hV:∀i,Stab BT2 (V i))(hSL:∀p∈SL,Stab BT2 p.2)(hsub:∀e∈BT,e∈BT2)(hsub2:∀e∈BT2,e.2.1=0->e∈BT)
 (hn:BT.any (fun e=>e.1==r.T && e.2.1==r.m)=false) (hP:Stab BT r.P) (hP0:Stab BT r.P0)
 (hstep:∀(i:Nat) (o:Oper),ops[i]? =some o->i≠r.k->KStep BT P md ops Q a0 V n0 w0 B SL i o) (hstepR:∀o,ops[r.k]? =some o->KStepR BT2 P md ops Q a0 V n0 w0 B SL r o)
 (hdone:∀(listed:Array Bool) (a:Act) (w:World),(∀i,i<ops.size->listed.getD i false=true)->KI md ops a0 V n0 w0 B SL listed a w->RowI r listed w->Q .normal a w):
 ∀(fuel:Nat) (listed:Array Bool) (a:Act) (w:World),KI md ops a0 V n0 w0 B SL listed a w->RowI r listed w->listed.toList.count false<=fuel->wpAny P md ops Q fuel listed a w:=by
 intro fuel
 induction fuel with
 |zero=>
  intro listed a w h hr hc;have hall:∀i,i<ops.size->listed.getD i false=true:=fun i hi=>count_zero listed (by omega) i (by rw [h.len];exact hi)
  refine⟨?_,hdone _ _ _ hall h hr⟩;cases hr':Region.ready md ops listed with
  |nil=>rfl
  |cons i l=>
   have hi:i∈Region.ready md ops listed:=by rw [hr'];exact List.mem_cons_self
   obtain⟨h1,o,ho,_⟩:=mem_ready.1 hi
   have hlt:i<ops.size:=by
    rcases Nat.lt_or_ge i ops.size with h'|h'
    ·exact h'
    ·rw [Array.getElem?_eq_none h'] at ho;cases ho
   have h2:=hall i hlt;have h3:i<listed.size:=by rw [h.len];exact hlt
   simp [Array.getD,h3] at h1 h2;rw [h2] at h1;cases h1
 |succ fuel ih=>
  intro listed a w h hr hc;refine⟨fun hr'=>hdone _ _ _ (kready_none hfore h.len hr') h hr,fun i hi=>?_⟩;obtain⟨h1,o,ho,hdep⟩:=mem_ready.1 hi
  have hlt:i<listed.size:=by
   rw [h.len];rcases Nat.lt_or_ge i ops.size with h'|h'
   ·exact h'
   ·rw [Array.getElem?_eq_none h'] at ho;cases ho
  have hcnt:=count_set listed i hlt h1;have hnl:listed.getD i false=false:=by have h5:=h1;simp only [Array.getD,hlt,dif_pos] at h5 ⊢;exact h5
  have key:if Region.wanted o (yielded ops a.tmps)then o.wp P a w (wpAny P md ops Q fuel (listed.setIfInBounds i true)) Q else wpAny P md ops Q fuel (listed.setIfInBounds i true) (a.put o.dst undef) w:=by
   by_cases hik:i=r.k
   ·subst hik;exact hstepR o ho listed a w h hr hdep (dst_ok hin ho) hlt hnl _ fun v w' hS hR hrow hv=>ih _ _ _ (h.step hown hin hV hSL ho hdep hS hR hv) hrow (by omega)
   ·exact hstep i o ho hik listed a w h hdep (dst_ok hin ho) hlt hnl _ fun v w' hS hR hv=>ih _ _ _ (h.step hown hin hV hSL ho hdep hS (hR.mono hsub hsub2) hv) (hr.keep hR hn hP hP0 hik) (by omega)
  unfold wpOp;rw [ho];by_cases hw:Region.wanted o (yielded ops a.tmps)=true
  ·simp only [hw,if_true] at key ⊢;exact .inl key
  ·simp only [hw] at key ⊢;exact key
theorem wpList_r (hfore:kFore md ops=true)(hown:flowOwn ops=true)(hin:∀(i:Nat) (o:Oper) (d:Tmp),ops[i]? =some o->o.dst=some d->d<a0.tmps.size)(hV:∀i,Stab BT2 (V i))(hSL:∀p∈SL,Stab BT2 p.2)(hsub:∀e∈BT,e∈BT2)(hsub2:∀e∈BT2,e.2.1=0->e∈BT)
 (hn:BT.any (fun e=>e.1==r.T && e.2.1==r.m)=false) (hP:Stab BT r.P) (hP0:Stab BT r.P0)
 (hstep:∀(i:Nat) (o:Oper),ops[i]? =some o->i≠r.k->KStep BT P md ops Q a0 V n0 w0 B SL i o) (hstepR:∀o,ops[r.k]? =some o->KStepR BT2 P md ops Q a0 V n0 w0 B SL r o)
 (hdone:∀(listed:Array Bool) (a:Act) (w:World),(∀i,i<ops.size->listed.getD i false=true)->KI md ops a0 V n0 w0 B SL listed a w->RowI r listed w->Q .normal a w):
 ∀(rest:List Oper) (k:Nat) (listed:Array Bool) (a:Act) (w:World),ops.toList.drop k=rest->(∀i,i<k->i<ops.size->listed.getD i false=true)->(∀i,k<=i->listed.getD i false=false)->KI md ops a0 V n0 w0 B SL listed a w->RowI r listed w->wpList P ops Q rest a w:=by
 intro rest
 induction rest with
 |nil=>
  intro k listed a w hk hl _ h hr
  have:ops.size<=k:=by
   have:=List.drop_eq_nil_iff.1 hk
   simpa using this
  exact hdone listed a w (fun i hi=>hl i (by omega) hi) h hr
 |cons o rest ih=>
  intro k listed a w hk hl hnl h hr
  have hlt:k<ops.toList.length:=by
   rcases Nat.lt_or_ge k ops.toList.length with h'|h'
   ·exact h'
   ·rw [List.drop_eq_nil_iff.2 h'] at hk;cases hk
  rw [List.drop_eq_getElem_cons hlt] at hk;have ho':ops.toList[k]=o:=(List.cons.inj hk).1
  have ho:ops[k]? =some o:=by
   have h1:k<ops.size:=by simpa using hlt
   rw [Array.getElem?_eq_getElem h1]
   simpa using ho'
  have hlk:k<listed.size:=by rw [h.len];simpa using hlt
  have hdep:∀e∈o.after,Region.binds md e=true->listed.getD e.on false=true:=fun e he hb=>by
   have h1:=kFore_spec hfore ho e he hb
   exact hl e.on h1 (by
    have:k<ops.size:=by simpa using hlt
    omega)
  have next:∀(v:Value) (w':World),KI md ops a0 V n0 w0 B SL (listed.setIfInBounds k true) (a.put o.dst v) w'->RowI r (listed.setIfInBounds k true) w'->wpList P ops Q rest (a.put o.dst v) w':=fun v w' hK hrow=>ih (k+1) _ _ _ (List.cons.inj hk).2 (fun i hi hi'=>by
   rw [getD_set _ _ _ hlk];split
   ·rfl
   ·exact hl i (by omega) hi') (fun i hi=>by
   rw [getD_set _ _ _ hlk,if_neg (by omega)]
   exact hnl i (by omega)) hK hrow
  have key:if Region.wanted o (yielded ops a.tmps)then o.wp P a w (wpList P ops Q rest) Q else wpList P ops Q rest (a.put o.dst undef) w:=by
   by_cases hik:k=r.k
   ·subst hik;exact hstepR o ho listed a w h hr hdep (dst_ok hin ho) hlk (hnl _ (Nat.le_refl _)) _ fun v w' hS hR hrow hv=>next v w' (h.step hown hin hV hSL ho hdep hS hR hv) hrow
   ·exact hstep k o ho hik listed a w h hdep (dst_ok hin ho) hlk (hnl _ (Nat.le_refl _)) _ fun v w' hS hR hv=>next v w' (h.step hown hin hV hSL ho hdep hS (hR.mono hsub hsub2) hv) (hr.keep hR hn hP hP0 hik)
  unfold wpList;by_cases hw:Region.wanted o (yielded ops a.tmps)=true
  ·simp only [hw,if_true] at key ⊢;exact .inl key
  ·simp only [hw] at key ⊢;exact key
def AllR (k:Nat)(BT:List (TypeId×Nat×Nat))(P:Program)(md:Region.Mode)(ops:Array Oper)(Q:Exit->Act->World->Prop)(a0:Act)(V:Nat->VP)(n0:Nat)(w0:World)(B:List Bd)(SL:List (Nat×VP)):Nat->List Oper->Prop
 |_,[]=>True
 |i,o::l=>(i≠k->KStep BT P md ops Q a0 V n0 w0 B SL i o)/\AllR k BT P md ops Q a0 V n0 w0 B SL (i+1) l
theorem AllR.get {k:Nat}:∀(l:List Oper) (i:Nat),AllR k BT P md ops Q a0 V n0 w0 B SL i l->∀(j:Nat) (o:Oper),l[j]? =some o->i+j≠k->KStep BT P md ops Q a0 V n0 w0 B SL (i+j) o
 | [],_,_,j,o,ho,_=>by simp at ho
 |x::l,i,h,0,o,ho,hne=>by
  have:x=o:=by simpa using ho
  subst this;exact h.1 hne
 |x::l,i,h,j+1,o,ho,hne=>by
  have:=AllR.get l (i+1) h.2 j o (by simpa using ho) (by omega);rw [show i+(j+1)=i+1+j by omega];exact this
def RowAt (g:Nat)(T:TypeId)(m:Nat)(A:VP)(w:World):Prop:=∃cs,w.heap[g]? =some (.cells cs T (0,0))/\cs.size=m/\NoInt cs/\A (.agg cs) w
end
section
variable {Q:Exit->Act->World->Prop}{Vl:List VP}{n0:Nat}{w0:World}{B:List Bd}{SL:List (Nat×VP)}{BT:List (TypeId×Nat×Nat)}
theorem rgR {id N:Nat}{l:List Oper}{ord:Bool}{L:List Bd}{SL':List (Nat×VP)}{a:Act}{w:World}(r:Rw)(st:St n0 w0 N L SL a w)(hrow:RowAt r.g r.T r.m r.P0 w)(hstep:AllR r.k BT Tryz.prog .any l.toArray Q a (GV Vl) n0 w0 B SL 0 l)
 (hstepR:∀o,l.toArray[r.k]? =some o->KStepR ((r.T,r.m,0)::BT) Tryz.prog .any l.toArray Q a (GV Vl) n0 w0 B SL r o) (hdone:∀a' w',St n0 w0 N (B.map Bd.fin) SL' a' w'->RowAt r.g r.T r.m r.P w'->Q .normal a' w')
 [hB:SbB ((r.T,r.m,0)::BT) B] [hS:SbS ((r.T,r.m,0)::BT) SL] [hL:SbL ((r.T,r.m,0)::BT) Vl] [hP:Sb BT r.P] [hP0:Sb BT r.P0]
 (hn:BT.any (fun e=>e.1==r.T && e.2.1==r.m)=false) (hk:r.k<l.length)
 (hst:StartsF L B:=by repeat (first|exact trivial|refine⟨.inl ⟨_,rfl⟩,?_⟩|refine⟨.inr ⟨_,rfl,rfl,rfl,rfl,rfl,rfl,.inr ⟨rfl,rfl,rfl⟩⟩,?_⟩|refine⟨.inr ⟨_,rfl,rfl,rfl,rfl,rfl,rfl,.inl ⟨_,rfl,rfl,rfl⟩⟩,?_⟩))
 (hg:GetsF l.toArray (GV Vl) SL SL':=by repeat (first|exact trivial|refine⟨.inl ⟨rfl,rfl⟩,?_⟩|refine⟨.inr ⟨rfl,by kernel_rfl⟩,?_⟩))
 (hm:Tryz.prog.follows .mixedOrders=true:=by kernel_rfl) (hfore:kFore .any l.toArray=true:=by kernel_rfl) (hown:flowOwn l.toArray=true:=by kernel_rfl) (hin:l.all (fun o=>match o.dst with|some d=>decide (d<N)|none=>true)=true:=by kernel_rfl)
 (hlt:B.all (fun b=>(match b.ia with|some i=>decide (i<l.toArray.size)|none=>true) && (match b.ik with|some i=>decide (i<l.toArray.size)|none=>true))=true:=by kernel_rfl) (hm0:r.m≠0:=by decide):(Code.region id l.toArray ord).wp Tryz.prog Q a w:=by
 have hin':∀(i:Nat) (o:Oper) (d:Tmp),l.toArray[i]? =some o->o.dst=some d->d<a.tmps.size:=fun i o d ho D=>by
  rw [st.size];rw [List.all_eq_true] at hin;have ho':l[i]? =some o:=by simpa using ho
  have:=hin o (List.mem_of_getElem? ho');rw [D] at this;exact of_decide_eq_true this
 have hs':∀(i:Nat) (o:Oper),l.toArray[i]? =some o->i≠r.k->KStep BT Tryz.prog .any l.toArray Q a (GV Vl) n0 w0 B SL i o:=fun i o ho hne=>by
  have:=AllR.get l 0 hstep i o (by simpa using ho) (by omega);rw [Nat.zero_add] at this;exact this
 have hsub:∀e∈BT,e∈(r.T,r.m,0)::BT:=fun e he=>List.mem_cons_of_mem _ he
 have hsub2:∀e∈(r.T,r.m,0)::BT,e.2.1=0->e∈BT:=fun e he h0=>(List.mem_cons.1 he).resolve_left fun e1=>hm0 (by rw [e1] at h0;exact h0)
 have hno:∀i,(Array.replicate l.length false).getD i false=true->False:=fun i hl=>by
  simp only [Array.getD_eq_getD_getElem?,Array.getElem?_replicate] at hl;split at hl<;>simp at hl
 have hno':∀i,(Array.replicate l.length false).getD i false=false:=fun i=>by
  cases h:(Array.replicate l.length false).getD i false with
  |false=>rfl
  |true=>exact(hno i h).elim
 obtain⟨cs,c1,c2,c3,c4⟩:=hrow;have hst':=st.start hst.to l.length
 have fin:∀(listed:Array Bool) (a':Act) (w':World),(∀i,i<l.toArray.size->listed.getD i false=true)->KI .any l.toArray a (GV Vl) n0 w0 B SL listed a' w'->RowI r listed w'->Q .normal a' w':=fun listed a' w' hall kd hr=>by
  obtain⟨cs,d1,d2,d3,d4,-⟩:=hr;exact hdone a' w' (kd.st hall st.size st.defers hlt SL' hg.to) ⟨cs,d1,d2,d3,d4 (hall _ (by simpa using hk))⟩
 cases ord with
 |true=>
  refine wp_region_any hm (wpAny_r hfore hown hin' (stab_of hL.out) hS.out hsub hsub2 hn hP.out hP0.out hs' hstepR fin _ _ _ _ ⟨?_,st.n,by simp,rfl,rfl,fun _ _=>rfl,fun i o d ho hl _=>(hno i (by simpa using hl)).elim,fun p hp=>?_,fun k o _ hl=>(hno k (by simpa using hl)).elim⟩ ⟨cs,c1,c2,c3,fun hl=>(hno _ (by simpa using hl)).elim,fun _=>hP0.out _ _ _ c4 (RI.drew w)⟩ ?_)
  ·have:=hst'.drew hB.out
   simpa using this
  ·obtain⟨v,h1,h2⟩:=st.sl p hp;exact⟨v,h1,hS.out p hp _ _ _ h2 (RI.drew w)⟩
  ·simp
 |false=>
  exact wp_region_lit (wpList_r hfore hown hin' (stab_of hL.out) hS.out hsub hsub2 hn hP.out hP0.out hs' hstepR fin l 0 (Array.replicate l.length false) a w (by simp) (fun i hi=>by omega) (fun i _=>hno' i) ⟨hst',st.n,by simp,rfl,rfl,fun _ _=>rfl,fun i o d ho hl _=>(hno i hl).elim,st.sl,fun k o _ hl=>(hno k hl).elim⟩ ⟨cs,c1,c2,c3,fun hl=>(hno _ hl).elim,fun _=>c4⟩)
end
end Go.Proofs.YteacdbgalloaiaaGreat
