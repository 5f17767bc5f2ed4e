/- Contracts of the packages integer, rat, plane, polygon and their references. -/
import Derived.Test.YteacdbgalloaiaaGreatB16
set_option linter.unusedVariables false
set_option maxRecDepth 100000
set_option maxHeartbeats 6400000
namespace Go.Proofs.YteacdbgalloaiaaGreat
open Go.RowKit
open Go
section
variable {P:Program}{md:Region.Mode}{ops:Array Oper}{Q:Exit->Act->World->Prop}{a0:Act}{n0 n:Nat}{w0:World}{B:List Bd}{SL:List (Nat×VP)}{BT:List (TypeId×Nat×Nat)}{ro:Option Nat}
theorem wpAny_s {V:Nat->VP}{k:Nat}{o1:Oper}(hfore:kFore md ops=true)(hown:flowOwn ops=true)(hin:∀(i:Nat) (o:Oper) (d:Tmp),ops[i]? =some o->o.dst=some d->d<a0.tmps.size)(hV:∀i,Stab BT (V i))(hSL:∀p∈SL,Stab BT p.2)
 (hk1:ops[k]? =some o1) (hsz:ops.size=k+1) (hg1:o1.guard=none) (hnd1:∀c,o1.op≠ .defer c) (hdep1:waits md ops k o1=true)
 (hstep:∀(i:Nat) (o:Oper),i<k->ops[i]? =some o->KStepI BT ro n P md ops Q a0 V n0 w0 B SL i o)
 (hlast:∀(listed:Array Bool) (a:Act) (w:World),KI md ops a0 V n0 w0 B SL listed a w->(∀j,j<k->listed.getD j false=true)->∃w2,(execOp a.eval o1).run P w= .ok .skip w2/\Q .normal (a.put o1.dst undef) w2):
 ∀(fuel:Nat) (listed:Array Bool) (a:Act) (w:World),KI md ops a0 V n0 w0 B SL listed a w->listed.getD k true=false->listed.toList.count false<=fuel->wpAnyIn (fW ro) n P md ops Q fuel listed a w:=by
 intro fuel
 induction fuel with
 |zero=>
  intro listed a w h hn1 hc;exfalso;have:=count_zero listed (by omega) k (by rw [h.len];omega);have hkl:k<listed.size:=by rw [h.len];omega
  simp only [Array.getD,hkl,dif_pos] at this hn1;rw [this] at hn1;cases hn1
 |succ fuel ih=>
  intro listed a w h hn1 hc;have hkl:k<listed.size:=by rw [h.len];omega
  refine⟨fun hr=>?_,fun i hi=>?_⟩
  ·exfalso;have:=kready_none hfore h.len hr k (by omega);simp only [Array.getD,hkl,dif_pos] at this hn1;rw [this] at hn1;cases hn1
  obtain⟨h1,o,ho,hdep⟩:=mem_ready.1 hi
  have hlt:i<listed.size:=by
   rw [h.len];rcases Nat.lt_or_ge i ops.size with h'|h'
   ·exact h'
   ·rw [Array.getElem?_eq_none h'] at ho;cases ho
  have hcnt:=count_set listed i hlt h1;rcases Nat.lt_trichotomy i k with hik|rfl|hik
  ·have:=hstep i o hik ho listed a w h hdep (dst_ok hin ho) hlt (by have h5:=h1;simp only [Array.getD,hlt,dif_pos] at h5 ⊢;exact h5) (wpAnyIn (fW ro) n P md ops Q fuel (listed.setIfInBounds i true)) fun v w' hS hR hv=>ih _ _ _ (h.step hown hin hV hSL ho hdep hS hR hv) (by
    have:(listed.setIfInBounds i true).getD k true=listed.getD k true:=by simp only [Array.getD_eq_getD_getElem?,Array.getElem?_setIfInBounds_ne (show i≠k by omega)]
    rw [this];exact hn1) (by omega)
   unfold wpOpIn;rw [ho];by_cases hw:Region.wanted o (yielded ops a.tmps)=true
   ·simp only [hw,if_true] at this ⊢;exact this
   ·simp only [hw] at this ⊢;exact⟨fun _ _=>trivial,this⟩
  ·rw [hk1] at ho;cases ho;have hall:∀j,j<i->listed.getD j false=true:=fun j hj=>waits_all hdep1 h hdep i j hj (by omega)
   obtain⟨w2,hrun,hQ⟩:=hlast listed a w h hall
   have hall2:∀j,j<ops.size->(listed.setIfInBounds i true).getD j false=true:=fun j hj=>by
    rw [getD_set _ _ _ hkl];split
    ·rfl
    ·exact hall j (by omega)
   have hno:∀j,j∈Region.ready md ops (listed.setIfInBounds i true)->False:=fun j hj=>by
    obtain⟨h1,o,ho,-⟩:=mem_ready.1 hj
    have hj':j<ops.size:=by
     rcases Nat.lt_or_ge j ops.size with h'|h'
     ·exact h'
     ·rw [Array.getElem?_eq_none h'] at ho;cases ho
    have:=hall2 j hj';have hj2:j<(listed.setIfInBounds i true).size:=by simp;omega
    simp only [Array.getD,hj2,dif_pos] at this h1;rw [this] at h1;cases h1
   have hdone:∀f,wpAnyIn (fW ro) n P md ops Q f (listed.setIfInBounds i true) (a.put o1.dst undef) w2:=by
    intro f;cases f with
    |zero=>exact⟨List.eq_nil_iff_forall_not_mem.2 (fun j hj=>hno j hj),hQ⟩
    |succ f=>exact⟨fun _=>hQ,fun j hj=>(hno j hj).elim⟩
   have hw:Region.wanted o1 (yielded ops a.tmps)=true:=wanted_of (by unfold Guards;rw [hg1];trivial);unfold wpOpIn;rw [hk1];simp only [hw,if_true];refine wp_in hnd1 ?_;unfold Oper.wp;rw [hrun];exact hdone _
  ·exfalso;have:=h.len;omega
theorem wpList_s {V:Nat->VP}{k:Nat}{o1:Oper}(hfore:kFore md ops=true)(hown:flowOwn ops=true)(hin:∀(i:Nat) (o:Oper) (d:Tmp),ops[i]? =some o->o.dst=some d->d<a0.tmps.size)(hV:∀i,Stab BT (V i))(hSL:∀p∈SL,Stab BT p.2)
 (hk1:ops[k]? =some o1) (hsz:ops.size=k+1) (hg1:o1.guard=none) (hnd1:∀c,o1.op≠ .defer c)
 (hstep:∀(i:Nat) (o:Oper),i<k->ops[i]? =some o->KStepI BT ro n P md ops Q a0 V n0 w0 B SL i o)
 (hlast:∀(listed:Array Bool) (a:Act) (w:World),KI md ops a0 V n0 w0 B SL listed a w->(∀j,j<k->listed.getD j false=true)->∃w2,(execOp a.eval o1).run P w= .ok .skip w2/\Q .normal (a.put o1.dst undef) w2):
 ∀(rest:List Oper) (j:Nat) (listed:Array Bool) (a:Act) (w:World),j<=k->ops.toList.drop j=rest->(∀i,i<j->i<ops.size->listed.getD i false=true)->(∀i,j<=i->listed.getD i false=false)->KI md ops a0 V n0 w0 B SL listed a w->wpListIn (fW ro) n P ops Q rest a w:=by
 intro rest
 induction rest with
 |nil=>
  intro j listed a w hjk hk hl _ h
  have:ops.size<=j:=by
   have:=List.drop_eq_nil_iff.1 hk
   simpa using this
  omega
 |cons o rest ih=>
  intro j listed a w hjk hk hl hnl h
  have hlt:j<ops.toList.length:=by
   have:ops.toList.length=ops.size:=by simp
   omega
  rw [List.drop_eq_getElem_cons hlt] at hk;have ho':ops.toList[j]=o:=(List.cons.inj hk).1
  have ho:ops[j]? =some o:=by
   have h1:j<ops.size:=by simpa using hlt
   rw [Array.getElem?_eq_getElem h1]
   simpa using ho'
  have hlk:j<listed.size:=by rw [h.len];simpa using hlt
  have hdep:∀e∈o.after,Region.binds md e=true->listed.getD e.on false=true:=fun e he hb=>by
   have h1:=kFore_spec hfore ho e he hb
   exact hl e.on h1 (by
    have:j<ops.size:=by simpa using hlt
    omega)
  rcases Nat.lt_or_ge j k with hj|hj
  ·have:=hstep j o hj ho listed a w h hdep (dst_ok hin ho) hlk (hnl j (Nat.le_refl _)) (wpListIn (fW ro) n P ops Q rest) fun v w' hS hR hv=>ih (j+1) _ _ _ hj (List.cons.inj hk).2 (fun i hi hi'=>by
    rw [getD_set _ _ _ hlk];split
    ·rfl
    ·exact hl i (by omega) hi') (fun i hi=>by
    rw [getD_set _ _ _ hlk,if_neg (by omega)]
    exact hnl i (by omega)) (h.step hown hin hV hSL ho hdep hS hR hv)
   unfold wpListIn;by_cases hw:Region.wanted o (yielded ops a.tmps)=true
   ·simp only [hw,if_true] at this ⊢;exact this
   ·simp only [hw] at this ⊢;exact⟨fun _ _=>trivial,this⟩
  ·obtain rfl:j=k:=by omega
   rw [hk1] at ho;cases ho;obtain⟨w2,hrun,hQ⟩:=hlast listed a w h (fun i hi=>hl i hi (by omega));have hw:Region.wanted o1 (yielded ops a.tmps)=true:=wanted_of (by unfold Guards;rw [hg1];trivial)
   have hr:rest= []:=by
    rw [<-(List.cons.inj hk).2];apply List.drop_eq_nil_iff.2;have:ops.toList.length=ops.size:=by simp
    omega
   subst hr;unfold wpListIn;simp only [hw,if_true];refine wp_in hnd1 ?_;unfold Oper.wp;rw [hrun];exact hQ
end
section
variable {ro:Option Nat}{n:Nat}{Q:Exit->Act->World->Prop}{Vl:List VP}{n0:Nat}{w0:World}{B:List Bd}{SL:List (Nat×VP)}{BT:List (TypeId×Nat×Nat)}
theorem rgS {id N k:Nat}{l:List Oper}{ord:Bool}{a:Act}{w:World}{o1:Oper}{SL':List (Nat×VP)}{ds:List Deferred}(hds:a.defers=ds)(st:St n0 w0 N B SL ⟨a.tmps,[]⟩ w)
 (hstep:AllK BT Tryz.prog .any l.toArray Q a (GV Vl) n0 w0 B SL 0 (l.take k))
 (hk1:l[k]? =some o1) (hsz:l.length=k+1) (hg1:o1.guard=none) (hd1:o1.dst=none) (hnd1:∀c,o1.op≠ .defer c) (hdep1:waits .any l.toArray k o1=true) (hVk:GV Vl k=VT)
 (hdone:∀a' w',a'.defers=ds->St n0 w0 N (B.map Bd.fin) SL' ⟨a'.tmps,[]⟩ w'->∃w2,(execOp a'.eval o1).run Tryz.prog w'= .ok .skip w2/\Q .normal a' w2)
 (hB0:B.all (fun b=>b.ia==none && b.ik==none)=true) [hB:SbB BT B] [hS:SbS BT SL] [hL:SbL BT Vl] (hnd:noDefer l=true)
 (hg:GetsF l.toArray (GV Vl) SL SL':=by repeat (first|exact trivial|refine⟨.inl ⟨rfl,rfl⟩,?_⟩|refine⟨.inr ⟨rfl,by kernel_rfl⟩,?_⟩))
 (hm:Tryz.prog.follows .mixedOrders=true:=by kernel_rfl) (hfore:kFore .any l.toArray=true:=by kernel_rfl) (hown:flowOwn l.toArray=true:=by kernel_rfl) (hin:l.all (fun o=>match o.dst with|some d=>decide (d<N)|none=>true)=true:=by kernel_rfl):(Code.region id l.toArray ord).wpIn (fW ro) n Tryz.prog Q a w:=by
 have hin':∀(i:Nat) (o:Oper) (d:Tmp),l.toArray[i]? =some o->o.dst=some d->d<a.tmps.size:=fun i o d ho D=>by
  rw [show a.tmps.size=N from st.size];rw [List.all_eq_true] at hin;have ho':l[i]? =some o:=by simpa using ho
  have:=hin o (List.mem_of_getElem? ho');rw [D] at this;exact of_decide_eq_true this
 have hB0':∀b∈B,b.ia=none/\b.ik=none:=fun b hb=>by
  rw [List.all_eq_true] at hB0;have:=hB0 b hb;simp only [Bool.and_eq_true,beq_iff_eq] at this;exact this
 have hs':∀(i:Nat) (o:Oper),i<k->l.toArray[i]? =some o->KStepI BT ro n Tryz.prog .any l.toArray Q a (GV Vl) n0 w0 B SL i o:=fun i o hi ho=>by
  have:=AllK.get (l.take k) 0 hstep i o (by rw [List.getElem?_take,if_pos hi];simpa using ho);rw [Nat.zero_add] at this;refine this.toI fun c e=>?_
  have ho':l[i]? =some o:=by simpa using ho
  unfold noDefer at hnd;rw [List.all_eq_true] at hnd;have:=hnd o (List.mem_of_getElem? ho');rw [e] at this;cases this
 have hno:∀i,(Array.replicate l.length false).getD i false=true->False:=fun i hl=>by
  simp only [Array.getD_eq_getD_getElem?,Array.getElem?_replicate] at hl;split at hl<;>simp at hl
 have mk:∀{listed:Array Bool} {a':Act} {w':World} (listed':Array Bool),KS n0 w0 B listed a' w'->KS n0 w0 B listed' a' w':=fun listed' h=>⟨h.below,fun b hb _=>by
  obtain⟨g,cs,e1,e2,e3,e4,e5,e6,e7⟩:=h.ok b hb (by rw [(hB0' b hb).1];rfl)
  exact⟨g,cs,e1,e2,e3,e4,e5,fun _=>e6 (by rw [(hB0' b hb).2];rfl),fun _ hk=>by rw [(hB0' b hb).2] at hk;cases hk⟩,fun b hb c hc hne _ _=>h.ne b hb c hc hne (by rw [(hB0' b hb).1];rfl) (by rw [(hB0' c hc).1];rfl),fun b hb h1 _=>absurd (hB0' b hb).2 h1⟩
 have hst:KS n0 w0 B (Array.replicate l.length false) a w:=(mk _ st.k).congr rfl;have hks:l.toArray.size=k+1:=by simpa using hsz
 have hkk:l.toArray[k]? =some o1:=by simpa using hk1
 have hlt:B.all (fun b=>(match b.ia with|some i=>decide (i<l.toArray.size)|none=>true) && (match b.ik with|some i=>decide (i<l.toArray.size)|none=>true))=true:=by
  rw [List.all_eq_true];intro b hb;rw [(hB0' b hb).1,(hB0' b hb).2];rfl
 have hlast:∀(listed:Array Bool) (a':Act) (w':World),KI .any l.toArray a (GV Vl) n0 w0 B SL listed a' w'->(∀j,j<k->listed.getD j false=true)->∃w2,(execOp a'.eval o1).run Tryz.prog w'= .ok .skip w2/\Q .normal (a'.put o1.dst undef) w2:=fun listed a' w' h hall=>by
  have hkl:k<listed.size:=by rw [h.len,hks];omega
  have h2:=h.step (v:=undef) (w':=w') hown hin' (stab_of hL.out) hS.out hkk (fun e he hb=>hall _ (kFore_spec hfore hkk e he hb)) (by rw [hd1];exact mk _ h.k) (RI.of_below (Below.refl _ _)) (show GV Vl k undef w' by rw [hVk];trivial);rw [hd1] at h2 ⊢
  have hall2:∀j,j<l.toArray.size->(listed.setIfInBounds k true).getD j false=true:=fun j hj=>by
   rw [getD_set _ _ _ hkl];split
   ·rfl
   ·exact hall j (by omega)
  exact hdone _ _ (h2.defers.trans hds) ((h2.congr (a0':=⟨a.tmps,[]⟩) (a':=⟨a'.tmps,[]⟩) rfl rfl rfl).st hall2 st.size rfl hlt SL' hg.to)
 have hn0:∀i,(Array.replicate l.length false).getD i false=false:=fun i=>by
  cases hl:(Array.replicate l.length false).getD i false with
  |false=>rfl
  |true=>exact(hno i hl).elim
 cases ord with
 |true=>
  refine wpIn_region_any hm (wpAny_s hfore hown hin' (stab_of hL.out) hS.out hkk hks hg1 hnd1 hdep1 hs' hlast _ _ _ _ ⟨?_,st.n,by simp,rfl,rfl,fun _ _=>rfl,fun i o d ho hl _=>(hno i (by simpa using hl)).elim,fun p hp=>?_,fun k o _ hl=>(hno k (by simpa using hl)).elim⟩ ?_ ?_)
  ·have:=hst.drew hB.out
   simpa using this
  ·obtain⟨v,h1,h2⟩:=st.sl p hp;exact⟨v,h1,hS.out p hp _ _ _ h2 (RI.drew w)⟩
  ·simp [Array.getD,hsz]
  ·simp
 |false=>
  exact wpIn_region_lit (wpList_s hfore hown hin' (stab_of hL.out) hS.out hkk hks hg1 hnd1 hs' hlast l 0 (Array.replicate l.length false) a w (Nat.zero_le _) (by simp) (fun i hi=>by omega) (fun i _=>hn0 i) ⟨hst,st.n,by simp,rfl,rfl,fun _ _=>rfl,fun i o d ho hl _=>(hno i hl).elim,st.sl,fun k o _ hl=>(hno k hl).elim⟩)
end
section
variable {n0 N:Nat}{w0:World}{L:List Bd}{SL:List (Nat×VP)}{a:Act}{w:World}
theorem below_setRow {g:Nat}{cs:Array Value}{n0:Nat}{w0 w:World}(h:Below n0 w0 w)(hn:n0<=g):Below n0 w0 (w.setRow g cs):=
 h.trans ⟨rfl,rfl,rfl,by simp [World.setRow],fun k hk=>setRow_other w g k cs (by omega)⟩
def VRow (g:Nat)(cs:Array Value)(T:TypeId):VP:=fun v w=>v= .pointer (some ⟨g,0,none⟩)/\w.heap[g]? =some (.cells cs T (0,0))
theorem Stab_VRow {BT:List (TypeId×Nat×Nat)}{g:Nat}{cs:Array Value}{T:TypeId}(h1:∀e∈BT,e.1≠T):Stab BT (VRow g cs T):=fun _ _ _ ⟨e1,e2⟩ hr=>⟨e1,(hr.row g _ _ e2 (.inl fun e he q=>absurd q (h1 e he))).trans e2⟩
theorem VRow_set {g k:Nat}{cs ds:Array Value}{T:TypeId}{v:Value}(h:VRow g cs T v w)(hk:g≠k):VRow g cs T v (w.setRow k ds):=⟨h.1,(setRow_other w k g ds hk).trans h.2⟩
theorem VKR_setRow {B:Nat}{BT:List (TypeId×Nat×Nat)}{W:World}{g:Nat}{old cs:Array Value}{T:TypeId}{v:Value}(h:VKR B BT W v w)(hg:w.heap[g]? =some (.cells old T (0,0)))(hT:∃e∈BT,e.1=T):VKR B BT W v (w.setRow g cs):=
 ⟨⟨Nat.le_trans h.1.1 (by simp [World.setRow]),fun k o hB hk ho=>by
  have:=h.1.2 k o hB hk ho;refine(setRow_other w g k cs ?_).trans this
  rintro rfl
  rw [hg] at this;cases this
  exact ho _ _ _ rfl⟩,h.2.trans (RowK.setRow hg hT)⟩
theorem St.setRow {g:Nat}{cs:Array Value}{SL':List (Nat×VP)}(h:St n0 w0 N L SL a w)(hn:n0<=g)(hs:∀p∈SL',∃v,a.tmps[p.1]? =some v/\p.2 v (w.setRow g cs)):St n0 w0 N [] SL' a (w.setRow g cs):=
 ⟨⟨below_setRow h.k.below hn,fun b hb=>absurd hb (by simp),fun b hb=>absurd hb (by simp),fun b hb=>absurd hb (by simp)⟩,by simpa [World.setRow] using h.n,h.size,h.defers,hs⟩
theorem St.slots {SL':List (Nat×VP)}(h:St n0 w0 N L SL a w)(hs:∀p∈SL',∃v,a.tmps[p.1]? =some v/\p.2 v w):St n0 w0 N L SL' a w:=⟨h.k,h.n,h.size,h.defers,hs⟩
end
section
variable {ρ:Operand->Value}{o:Oper}{W:World}{x y:Operand}{va vb:Value}
theorem load_Row1 {g:Nat}{u:Value}{T:TypeId}(ho:o.op= .load T x)(hx:ρ x=va)(h:VRow g #[u] T va W)[hc:CeT T]:∃v,(execOp ρ o).run Tryz.prog W= .ok (.value v) W/\VEq u v W:=load_Pb ho hx ⟨g,h.1,h.2⟩
theorem load_Row {g:Nat}{cs:Array Value}{T:TypeId}{d:TypeDesc}{A:VP}(ho:o.op= .load T x)(hx:ρ x=va)(h:VRow g cs T va W)(hu:Tryz.prog.underlying T=some d)(D:aggT d=true)(hi:(Tryz.prog.info? T).map (·.size)=some cs.size)(hA:A (.agg cs) W):∃v,(execOp ρ o).run Tryz.prog W= .ok (.value v) W/\A v W:=by
 obtain⟨rfl,e2⟩:=h;refine⟨.agg cs,?_,hA⟩;unfold execOp;simp only [ho,hx,Instr.loadAt,Instr.sureAddr,Sem.run_bind,Sem.run_pure,Result.andThen_ok,run_loadVar_row W g T T cs (0,0) d e2 hu (by cases d<;>simp_all [aggT]) hi]
theorem run_store1 {g:Nat}{u old:Value}{T:TypeId}(ho:o.op= .store T x y)(hx:ρ x= .pointer (some ⟨g,0,none⟩))(hy:ρ y=u)(hg:W.heap[g]? =some (.cells #[old] T (0,0)))(hsz:(Tryz.prog.info? T).map (·.size)=some 1)(o1:u.oneCell'=true):(execOp ρ o).run Tryz.prog W= .ok .skip (W.setRow g #[u]):=by
 unfold execOp;simp only [ho,hx,hy,Instr.storeAt,Instr.sureAddr,Sem.run_bind,Sem.run_pure,Result.andThen_ok,run_storeVar_one W g T T old _ hg hsz o1]
end
instance iCeint:CeT 3:=⟨_,Tryz.underlying3,rfl⟩
theorem size_int:(Tryz.prog.info? 3).map (·.size)=some 1:=by kernel_rfl
def VNw (n:Nat)(cs:Array Value)(T:TypeId):VP:=fun v w=>∃g,n<=g/\VRow g cs T v w
theorem Stab_VNw {BT:List (TypeId×Nat×Nat)}{n:Nat}{cs:Array Value}{T:TypeId}(h1:∀e∈BT,e.1≠T):Stab BT (VNw n cs T):=fun _ _ _ ⟨g,e1,e2⟩ hr=>⟨g,e1,Stab_VRow h1 _ _ _ e2 hr⟩
theorem alloc_int (W:World):(Instr.alloc 3 true (.tuple #[])).run Tryz.prog W= .ok (.pointer (some ⟨W.heap.size,0,none⟩)) (W.alloc (.cells #[.int .i64 0] 3)):=by go_simp
theorem alloc_intN {ρ:Operand->Value}{o:Oper}{W:World}{n:Nat}(ho:o.op= .alloc 3)(hn:n<=W.heap.size):∃v w',(execOp ρ o).run Tryz.prog W= .ok (.value v) w'/\Below W.heap.size W w'/\VNw n #[.int .i64 0] 3 v w':=by
 refine⟨_,W.alloc (.cells #[.int .i64 0] 3),?_,below_new _ _,W.heap.size,hn,rfl,World.alloc_heap_new _ _⟩;unfold execOp;simp only [ho,Sem.run_bind,alloc_int,Sem.run_pure,Result.andThen_ok]
def whr (vs:List P2)(p:P2)(ks:List Nat):Int:=ks.foldl (fun s k=>if rgt (cv vs k) (cv vs (k+1)) p=true then -s else s) (-1)
theorem whr_snoc (vs:List P2)(p:P2)(ks:List Nat)(k:Nat):whr vs p (ks++ [k])=if rgt (cv vs k) (cv vs (k+1)) p=true then -whr vs p ks else whr vs p ks:=by simp [whr,List.foldl_append]
theorem whr_one (vs:List P2)(p:P2)(ks:List Nat):whr vs p ks=1∨whr vs p ks= -1:=by
 unfold whr
 suffices h:∀s:Int,s=1∨s= -1->ks.foldl (fun s k=>if rgt (cv vs k) (cv vs (k+1)) p=true then -s else s) s=1∨ks.foldl (fun s k=>if rgt (cv vs k) (cv vs (k+1)) p=true then -s else s) s= -1 from h _ (.inr rfl)
 induction ks with
 |nil=>exact fun s h=>h
 |cons k ks ih=>
  intro s h;rw [List.foldl_cons];refine ih _ ?_;split<;>omega
def hasI (vs:List P2)(p:P2):Int:=if ∃k∈List.range vs.length,hasS (cv vs k) (cv vs (k+1)) p=true then 0 else whr vs p (List.range vs.length)
theorem St.redo {n0 N:Nat}{w0:World}{L:List Bd}{SL:List (Nat×VP)}{a:Act}{w:World}(D:a.defers= [])(h:St n0 w0 N L SL ⟨a.tmps,[]⟩ w):St n0 w0 N L SL a w:=by
 cases a with
 |mk t d=>
  simp only at D;subst D;exact h
theorem ev_tmp {a:Act}{t:Nat}{v:Value}(h:a.tmps[t]? =some v):a.eval (.tmp t)=v:=by simp [Act.eval,Array.getD_eq_getD_getElem?,h]
theorem own_row {n g:Nat}{A B:World}{row:Option Nat}{cs:Array Value}{T:TypeId}{f:Nat×Nat}(h:A.heap[g]? =some (.cells cs T f))(hg:A.grownBy B row)(hr:∀r,row=some r->n<=r/\∃o:Obj,A.heap[r]? =some o/\o.isCells=false):B.heap[g]? =some (.cells cs T f):=
 (hg.block _ (lt_blk h) fun e=>by
  obtain⟨o,h1,h2⟩:=(hr _ e.symm).2;rw [h] at h1;cases h1
  cases h2).trans h
instance {g:Nat}{cs:Array Value}{T:TypeId}:Sb [] (VRow g cs T):=⟨Stab_VRow (by simp)⟩
instance {n:Nat}{cs:Array Value}{T:TypeId}:Sb [] (VNw n cs T):=⟨Stab_VNw (by simp)⟩
theorem cHas {w:World}{N:Nat}{vs:List P2}{p:P2}{lv v1:Value}(h1:Vv N p.1 p.2 v1 w)(hS:VSv N vs lv w)(hN1:1<=N:=by omega)(hN:N<=900:=by omega):Calls Tryz.prog 10 #[lv,v1] w (RV (Vi (hasI vs p)) w):=by
 have hmax:=VSv_max hS;obtain⟨pp,c,hlv⟩:=VSv_slice hS;subst hlv;refine calls_of_marks Tryz.func10 rfl ?_;simp only [Tryz.ntmps10,List.size_toArray,List.length_cons,List.length_nil,Nat.reduceAdd,Nat.reduceSub,Array.replicate_succ,Array.replicate_zero,List.push_toArray,List.append_toArray,List.nil_append,List.cons_append];generalize hA:(⟨_,_⟩:Act)=a0;have st0:St w.heap.size w 23 [] [(0,VEq (.slice pp vs.length c)),(1,VAt w (Vv N p.1 p.2))] a0 w:=by subst hA;exact St.begin rfl rfl (Lq.2 ⟨⟨_,rfl,rfl⟩,(Lq.2 ⟨⟨_,rfl,h1⟩,L0⟩)⟩)
 clear hA;refine Wm ?_
 refine rJ [] [VT,VNw w.heap.size #[.int .i64 0] 3] [⟨3,some 0,some 0,32,8,VAt w (Vv N p.1 p.2),VT⟩] [(0,VEq (.slice pp vs.length c)),(4,VNw w.heap.size #[.int .i64 0] 3)] st0 ⟨ks,(by refine k_mem SbB.out (by kernel_rfl) fun _ ac Y h hd=>⟨trivial,?_⟩;exact alloc_intN rfl h.n),trivial⟩ ?_;intro a1 w1 st1;obtain⟨x3,e3,hx3,-,cs3,y3,z3,t3,u3⟩:=st1.boxAt (b:=(.k 3 32 8 (VAt w (Vv N p.1 p.2)))) (.head _) rfl rfl;obtain⟨_,e4,g4,hg4,rfl,y4⟩:=st1.sl (4,VNw w.heap.size #[.int .i64 0] 3) (lS_mem rfl);have z3':cs3.size=8:=z3;have e0:=st1.val (t:=0) (u:=(.slice pp vs.length c)) (by simp);have hb1:=st1.k.below;have stA:St w1.heap.size w1 23 [] [(0,VEq (.slice pp vs.length c)),(3,VRow x3 cs3 32),(4,VRow g4 #[.int .i64 0] 3)] a1 w1:=⟨⟨Below.refl _ _,L0,L0,L0⟩,Nat.le_refl _,st1.size,st1.defers,(Lq.2 ⟨⟨_,e0,rfl⟩,(Lq.2 ⟨⟨_,e3,rfl,y3⟩,(Lq.2 ⟨⟨_,e4,rfl,y4⟩,L0⟩)⟩)⟩)⟩;refine Wm ?_
 refine rgS (BT:=[]) (k:=1) (Vl:=[VNw w1.heap.size #[.int .i64 0] 3]) (B:=[]) (SL':=[(0,VEq (.slice pp vs.length c)),(3,VRow x3 cs3 32),(4,VRow g4 #[.int .i64 0] 3),(5,VNw w1.heap.size #[.int .i64 0] 3)]) stA.defers stA.undef ⟨?s0,trivial⟩ rfl rfl rfl rfl (fun _ e=>by cases e) (by kernel_rfl) rfl ?tail rfl (by kernel_rfl);case s0=>refine k_mem SbB.out (by kernel_rfl) fun _ ac Y h hd=>⟨trivial,?_⟩;exact alloc_intN rfl h.n
 case tail=>
 intro a2 w2 hd2 st2;obtain⟨_,e5,g5,hg5,rfl,y5⟩:=st2.sl (5,VNw w1.heap.size #[.int .i64 0] 3) (lS_mem rfl);obtain⟨_,f0,rfl⟩:=st2.sl (0,VEq (.slice pp vs.length c)) (lS_mem rfl);obtain⟨_,f3,rfl,qf3⟩:=st2.sl (3,VRow x3 cs3 32) (lS_mem rfl);obtain⟨_,f4,rfl,qf4⟩:=st2.sl (4,VRow g4 #[.int .i64 0] 3) (lS_mem rfl);have hlt4:=lt_blk y4;have hlt3:=lt_blk y3;refine⟨_,run_store1 (u:= .int .i64 (-1)) (old:= .int .i64 0) rfl (ev_tmp e5) rfl y5 size_int rfl,?_⟩;have st3:=(St.redo hd2 (st2.setRow (cs:=#[.int .i64 (-1)]) (SL':=[(0,VEq (.slice pp vs.length c)),(3,VRow x3 cs3 32),(4,VRow g4 #[.int .i64 0] 3),(5,VRow g5 #[.int .i64 (-1)] 3)]) hg5 (Lq.2 ⟨⟨_,f0,rfl⟩,(Lq.2 ⟨⟨_,f3,VRow_set ⟨rfl,qf3⟩ (by omega)⟩,(Lq.2 ⟨⟨_,f4,VRow_set ⟨rfl,qf4⟩ (by omega)⟩,(Lq.2 ⟨⟨_,e5,rfl,setRow_heap _ _ _ _ _ _ y5⟩,L0⟩)⟩)⟩)⟩))).lowB hb1 hb1.size;have hn45:g4≠g5:=by omega
 have hn35:x3≠g5:=by omega
 have hn34:x3≠g4:=by rintro rfl;rw [y3] at y4;cases y4
 have hg5w:w.heap.size<=g5:=Nat.le_trans hb1.size hg5;clear st2 stA st1 y5 qf3 qf4 f0 f3 f4 e5 e0 e3 e4 hg5 hlt4 hlt3 y3 y4;generalize w2.setRow g5 #[.int .i64 (-1)]=W3 at st3 ⊢;refine Wm ?_
 have:Sb [] (VSd (.slice pp vs.length c)):=⟨Stab_VSd (by simp) (by simp)⟩;refine rJ [] [VEq (.slice pp vs.length c),VSd (.slice pp vs.length c)] [] [(0,VEq (.slice pp vs.length c)),(3,VRow x3 cs3 32),(4,VRow g4 #[.int .i64 0] 3),(5,VRow g5 #[.int .i64 (-1)] 3),(9,VSd (.slice pp vs.length c))] st3 ⟨ks,(by refine kc fun _ ac Y h hd=>?_;obtain⟨v0,hv0,X0⟩:=h.dp hd 8;obtain rfl:v0=_:=X0;exact⟨#[(.slice pp vs.length c)],by simp [hv0],cSides⟩),trivial⟩ ?_;intro a5 w5 st5;have hsd:=st5.sl (9,VSd (.slice pp vs.length c)) (lS_mem rfl);obtain⟨_,f0,rfl⟩:=st5.sl (0,VEq (.slice pp vs.length c)) (lS_mem rfl);obtain⟨_,f3,rfl,qf3⟩:=st5.sl (3,VRow x3 cs3 32) (lS_mem rfl);obtain⟨_,f4,rfl,qf4⟩:=st5.sl (4,VRow g4 #[.int .i64 0] 3) (lS_mem rfl);obtain⟨_,f5,rfl,qf5⟩:=st5.sl (5,VRow g5 #[.int .i64 (-1)] 3) (lS_mem rfl);have stB:St w.heap.size w 23 [] [(0,VEq (.slice pp vs.length c)),(3,VEq (.pointer (some ⟨x3,0,none⟩))),(4,VEq (.pointer (some ⟨g4,0,none⟩))),(5,VEq (.pointer (some ⟨g5,0,none⟩)))] a5 w5:=st5.slots (Lq.2 ⟨⟨_,f0,rfl⟩,(Lq.2 ⟨⟨_,f3,rfl⟩,(Lq.2 ⟨⟨_,f4,rfl⟩,(Lq.2 ⟨⟨_,f5,rfl⟩,L0⟩)⟩)⟩)⟩);have hnb:=st5.n;refine Wm ?_
 refine range_sides (n:=5) (Nf:=23) (t:=7) (N:=N) (vs:=vs) (lv:=(.slice pp vs.length c)) (BT:=[(73,16,0),(3,1,0)]) (fun _=>[]) (fun _=>[]) (fun (ks:List Nat) (W:World)=>W.heap[x3]? =some (.cells cs3 32 (0,0))/\W.heap[g4]? =some (.cells #[.int .i64 0] 3 (0,0))/\W.heap[g5]? =some (.cells #[.int .i64 (whr vs p ks)] 3 (0,0))/\∀k∈ks,¬hasS (cv vs k) (cv vs (k+1)) p=true) (fun (ks:List Nat) (W:World)=>W.heap[g4]? =some (.cells #[.int .i64 0] 3 (0,0))/\∃k∈ks,hasS (cv vs k) (cv vs (k+1)) p=true) [(0,VEq (.slice pp vs.length c)),(3,VEq (.pointer (some ⟨x3,0,none⟩))),(4,VEq (.pointer (some ⟨g4,0,none⟩))),(5,VEq (.pointer (some ⟨g5,0,none⟩)))] stB ⟨qf3,qf4,qf5,by simp⟩ (fun _=>[]) (fun ks s A B row hs hg hr=>⟨own_row hs.1 hg hr,own_row hs.2.1 hg hr,own_row hs.2.2.1 hg hr,hs.2.2.2⟩) (fun ks s A B row hs hg hr=>⟨own_row hs.1 hg hr,hs.2⟩) hsd hS (fun _=>L0) (fun _=>L0) (Lq.2 ⟨⟨_,rfl⟩,(Lq.2 ⟨⟨_,rfl⟩,(Lq.2 ⟨⟨_,rfl⟩,(Lq.2 ⟨⟨_,rfl⟩,L0⟩)⟩)⟩)⟩) (by decide) (by decide) (by decide) (Lq.2 ⟨⟨by simp,by simp⟩,(Lq.2 ⟨⟨by simp,by simp⟩,(Lq.2 ⟨⟨by simp,by simp⟩,(Lq.2 ⟨⟨by simp,by simp⟩,L0⟩)⟩)⟩)⟩) (by decide) (by simp) (by simp) ?assign ?body (fun _ _=>L0) (fun _=>L0) ?done ?stop
 case assign=>
  intro l k a1 W K hnW hbW st1 hK;refine Wm ?_
  refine rJ [(73,16,0)] [VT,VT] [⟨7,some 0,some 1,73,16,VAt w (VSg N vs k),VT⟩] [(11,VAt w (VSg N vs k)),(10,Vi (k:Int)),(0,VEq (.slice pp vs.length c)),(3,VEq (.pointer (some ⟨x3,0,none⟩))),(4,VEq (.pointer (some ⟨g4,0,none⟩))),(5,VEq (.pointer (some ⟨g5,0,none⟩)))] st1 ⟨ks,ks,trivial⟩ ?_;intro a2 w2 st2;exact hK _ _ st2.cut
 case body=>
  intro l k xs a1 W hk hlen st1 hE1;obtain⟨r3,r4,r5,rn⟩:=hE1;obtain⟨_,d0,rfl⟩:=st1.sl (0,VEq (.slice pp vs.length c)) (lS_mem rfl);obtain⟨_,d3,rfl⟩:=st1.sl (3,VEq (.pointer (some ⟨x3,0,none⟩))) (lS_mem rfl);obtain⟨_,d4,rfl⟩:=st1.sl (4,VEq (.pointer (some ⟨g4,0,none⟩))) (lS_mem rfl);obtain⟨_,d5,rfl⟩:=st1.sl (5,VEq (.pointer (some ⟨g5,0,none⟩))) (lS_mem rfl);obtain⟨vk,d10,hvk⟩:=st1.sl (10,VKR w5.heap.size [(73,16,0),(3,1,0)] W) (lS_mem rfl);have stC:St w.heap.size w 23 [.k 7 73 16 (VAt w (VSg N vs k))] [(10,VKR w5.heap.size [(73,16,0),(3,1,0)] W),(0,VEq (.slice pp vs.length c)),(3,VRow x3 cs3 32),(4,VRow g4 #[.int .i64 0] 3),(5,VRow g5 #[.int .i64 (whr vs p xs)] 3)] a1 W:=st1.slots (Lq.2 ⟨⟨vk,d10,hvk⟩,(Lq.2 ⟨⟨_,d0,rfl⟩,(Lq.2 ⟨⟨_,d3,rfl,r3⟩,(Lq.2 ⟨⟨_,d4,rfl,r4⟩,(Lq.2 ⟨⟨_,d5,rfl,r5⟩,L0⟩)⟩)⟩)⟩)⟩);have:Sb [] (VKR w5.heap.size [(73,16,0),(3,1,0)] W):=⟨Stab_VKR (by simp) (by simp)⟩;have h1x:=whr_one vs p xs;have hws:=whr_snoc vs p xs k;by_cases hc:hasS (cv vs k) (cv vs (k+1)) p=true
  ·refine Wm ?_
   refine rJ [] [VAt w (VSg N vs k),VAt w (Vv N p.1 p.2),Vb true,Vb true] [.k 7 73 16 (VAt w (VSg N vs k))] [(10,VKR w5.heap.size [(73,16,0),(3,1,0)] W),(0,VEq (.slice pp vs.length c)),(3,VRow x3 cs3 32),(4,VRow g4 #[.int .i64 0] 3),(5,VRow g5 #[.int .i64 (whr vs p xs)] 3),(12,Vb true)] stC ⟨ks,(by refine kr fun _ ac Y h hd=>?_;obtain⟨v0,hv0,X0⟩:=h.ot 3;exact load_Row rfl hv0 X0 Tryz.underlying32 rfl (by rw [z3'];exact size_Vec) u3),(by exact kd2 fun _ _ Y h v0 X0 v1 X1=>by have:=cSgHas (VSg_now (show VAt w (VSg N vs k) v0 Y from X0) h.k.below) (VAt_cur (Stab_Vv _ _ _) (show VAt w (Vv N p.1 p.2) v1 Y from X1) h.k.below) hN1;rw [hc] at this;exact this),ks,trivial⟩ ?_;intro a2 w2 st2;refine Wm ?_
   refine cTI st2 ?_;refine Wm ?_
   refine rgS (BT:=[]) (k:=0) (Vl:=[]) (B:=[]) (SL':=[(10,VKR w5.heap.size [(73,16,0),(3,1,0)] W),(0,VEq (.slice pp vs.length c)),(3,VRow x3 cs3 32),(4,VRow g4 #[.int .i64 0] 3),(5,VRow g5 #[.int .i64 (whr vs p xs)] 3)]) st2.defers (St.cut (L':=[]) (SL':=[(10,VKR w5.heap.size [(73,16,0),(3,1,0)] W),(0,VEq (.slice pp vs.length c)),(3,VRow x3 cs3 32),(4,VRow g4 #[.int .i64 0] 3),(5,VRow g5 #[.int .i64 (whr vs p xs)] 3)]) st2.undef) trivial rfl rfl rfl rfl (fun _ e=>by cases e) (by kernel_rfl) rfl ?_ rfl (by kernel_rfl);intro a3 w3 hd3 st3;obtain⟨_,f4,rfl,qf4⟩:=st3.sl (4,VRow g4 #[.int .i64 0] 3) (lS_mem rfl);obtain⟨_,f0,rfl⟩:=st3.sl (0,VEq (.slice pp vs.length c)) (lS_mem rfl);obtain⟨_,f3,rfl,qf3⟩:=st3.sl (3,VRow x3 cs3 32) (lS_mem rfl);obtain⟨_,f5,rfl,qf5⟩:=st3.sl (5,VRow g5 #[.int .i64 (whr vs p xs)] 3) (lS_mem rfl);obtain⟨vk2,f10,hk2⟩:=st3.sl (10,VKR w5.heap.size [(73,16,0),(3,1,0)] W) (lS_mem rfl);refine⟨_,run_store1 (u:= .int .i64 0) rfl (ev_tmp f4) rfl qf4 size_int rfl,?_⟩;have st4:=St.redo hd3 (st3.setRow (cs:=#[.int .i64 0]) (SL':=[(10,VKR w5.heap.size [(73,16,0),(3,1,0)] W),(0,VEq (.slice pp vs.length c)),(3,VEq (.pointer (some ⟨x3,0,none⟩))),(4,VEq (.pointer (some ⟨g4,0,none⟩))),(5,VEq (.pointer (some ⟨g5,0,none⟩)))]) hg4 (Lq.2 ⟨⟨vk2,f10,VKR_setRow (v:=vk2) hk2 qf4 ⟨_,.tail _ (.head _),rfl⟩⟩,(Lq.2 ⟨⟨_,f0,rfl⟩,(Lq.2 ⟨⟨_,f3,rfl⟩,(Lq.2 ⟨⟨_,f4,rfl⟩,(Lq.2 ⟨⟨_,f5,rfl⟩,L0⟩)⟩)⟩)⟩)⟩));refine Wm ?_
   exact wpIn_ret ⟨st4,setRow_heap _ _ _ _ _ _ qf4,k,by simp,hc⟩
  ·refine Wm ?_
   refine rJ [] [VAt w (VSg N vs k),VAt w (Vv N p.1 p.2),Vb false,Vb false] [.k 7 73 16 (VAt w (VSg N vs k))] [(10,VKR w5.heap.size [(73,16,0),(3,1,0)] W),(0,VEq (.slice pp vs.length c)),(3,VRow x3 cs3 32),(4,VRow g4 #[.int .i64 0] 3),(5,VRow g5 #[.int .i64 (whr vs p xs)] 3),(12,Vb false)] stC ⟨ks,(by refine kr fun _ ac Y h hd=>?_;obtain⟨v0,hv0,X0⟩:=h.ot 3;exact load_Row rfl hv0 X0 Tryz.underlying32 rfl (by rw [z3'];exact size_Vec) u3),(by exact kd2 fun _ _ Y h v0 X0 v1 X1=>by have:=cSgHas (VSg_now (show VAt w (VSg N vs k) v0 Y from X0) h.k.below) (VAt_cur (Stab_Vv _ _ _) (show VAt w (Vv N p.1 p.2) v1 Y from X1) h.k.below) hN1;rw [Bool.eq_false_iff.2 hc] at this;exact this),ks,trivial⟩ ?_;intro a2 w2 st2;refine Wm ?_
   refine cFI st2 ?_;refine Wm ?_
   by_cases hr:rgt (cv vs k) (cv vs (k+1)) p=true
   ·rw [if_pos hr] at hws;refine rJ [] [VAt w (VSg N vs k),VAt w (Vv N p.1 p.2),Vb true,Vb true] [.k 7 73 16 (VAt w (VSg N vs k))] [(10,VKR w5.heap.size [(73,16,0),(3,1,0)] W),(0,VEq (.slice pp vs.length c)),(3,VRow x3 cs3 32),(4,VRow g4 #[.int .i64 0] 3),(5,VRow g5 #[.int .i64 (whr vs p xs)] 3),(16,Vb true)] st2 ⟨ks,(by refine kr fun _ ac Y h hd=>?_;obtain⟨v0,hv0,X0⟩:=h.ot 3;exact load_Row rfl hv0 X0 Tryz.underlying32 rfl (by rw [z3'];exact size_Vec) u3),(by exact kd2 fun _ _ Y h v0 X0 v1 X1=>by have:=cSgRight (VSg_now (show VAt w (VSg N vs k) v0 Y from X0) h.k.below) (VAt_cur (Stab_Vv _ _ _) (show VAt w (Vv N p.1 p.2) v1 Y from X1) h.k.below) hN1;rw [hr] at this;exact this),ks,trivial⟩ ?_;intro a3 w3 st3;refine Wm ?_
    refine cTI st3 ?_;refine Wm ?_
    refine rgS (BT:=[]) (k:=2) (Vl:=[VEq (.int .i64 (whr vs p xs)),VEq (.int .i64 (-whr vs p xs))]) (B:=[]) (SL':=[(10,VKR w5.heap.size [(73,16,0),(3,1,0)] W),(0,VEq (.slice pp vs.length c)),(3,VRow x3 cs3 32),(4,VRow g4 #[.int .i64 0] 3),(5,VRow g5 #[.int .i64 (whr vs p xs)] 3),(21,VEq (.int .i64 (-whr vs p xs)))]) st3.defers (St.cut (L':=[]) (SL':=[(10,VKR w5.heap.size [(73,16,0),(3,1,0)] W),(0,VEq (.slice pp vs.length c)),(3,VRow x3 cs3 32),(4,VRow g4 #[.int .i64 0] 3),(5,VRow g5 #[.int .i64 (whr vs p xs)] 3)]) st3.undef) ⟨?s0,?s1,trivial⟩ rfl rfl rfl rfl (fun _ e=>by cases e) (by kernel_rfl) rfl ?_ rfl (by kernel_rfl);case s0=>refine kr fun _ ac Y h hd=>?_;obtain⟨v0,hv0,X0⟩:=h.ot 5;exact load_Row1 rfl hv0 X0
    case s1=>exact kr1 20 fun _ _ _ _ _ hv0 X0=>⟨_,run_negi rfl (hv0.trans X0) wO,rfl⟩
    intro a4 w4 hd4 st4;obtain⟨_,f4,rfl,qf4⟩:=st4.sl (4,VRow g4 #[.int .i64 0] 3) (lS_mem rfl);obtain⟨_,f0,rfl⟩:=st4.sl (0,VEq (.slice pp vs.length c)) (lS_mem rfl);obtain⟨_,f21,rfl⟩:=st4.sl (21,VEq (.int .i64 (-whr vs p xs))) (lS_mem rfl);obtain⟨_,f3,rfl,qf3⟩:=st4.sl (3,VRow x3 cs3 32) (lS_mem rfl);obtain⟨_,f5,rfl,qf5⟩:=st4.sl (5,VRow g5 #[.int .i64 (whr vs p xs)] 3) (lS_mem rfl);obtain⟨vk2,f10,hk2⟩:=st4.sl (10,VKR w5.heap.size [(73,16,0),(3,1,0)] W) (lS_mem rfl);refine⟨_,run_store1 rfl (ev_tmp f5) (ev_tmp f21) qf5 size_int rfl,?_⟩;have st5:=St.redo hd4 (st4.setRow (cs:=#[.int .i64 (-whr vs p xs)]) (SL':=[(10,VKR w5.heap.size [(73,16,0),(3,1,0)] W),(0,VEq (.slice pp vs.length c)),(3,VEq (.pointer (some ⟨x3,0,none⟩))),(4,VEq (.pointer (some ⟨g4,0,none⟩))),(5,VEq (.pointer (some ⟨g5,0,none⟩)))]) hg5w (Lq.2 ⟨⟨vk2,f10,VKR_setRow (v:=vk2) hk2 qf5 ⟨_,.tail _ (.head _),rfl⟩⟩,(Lq.2 ⟨⟨_,f0,rfl⟩,(Lq.2 ⟨⟨_,f3,rfl⟩,(Lq.2 ⟨⟨_,f4,rfl⟩,(Lq.2 ⟨⟨_,f5,rfl⟩,L0⟩)⟩)⟩)⟩)⟩));refine Wm ?_
    refine⟨st5,(setRow_other _ _ _ _ hn35).trans qf3,(setRow_other _ _ _ _ hn45).trans qf4,?_,fun j hj=>?_⟩
    ·rw [hws];exact setRow_heap _ _ _ _ _ _ qf5
    ·rcases List.mem_append.1 hj with hj|hj
     ·exact rn j hj
     ·rw [List.mem_singleton.1 hj];exact hc
   ·rw [if_neg hr] at hws;refine rJ [] [VAt w (VSg N vs k),VAt w (Vv N p.1 p.2),Vb false,Vb false] [.k 7 73 16 (VAt w (VSg N vs k))] [(10,VKR w5.heap.size [(73,16,0),(3,1,0)] W),(0,VEq (.slice pp vs.length c)),(3,VRow x3 cs3 32),(4,VRow g4 #[.int .i64 0] 3),(5,VRow g5 #[.int .i64 (whr vs p xs)] 3),(16,Vb false)] st2 ⟨ks,(by refine kr fun _ ac Y h hd=>?_;obtain⟨v0,hv0,X0⟩:=h.ot 3;exact load_Row rfl hv0 X0 Tryz.underlying32 rfl (by rw [z3'];exact size_Vec) u3),(by exact kd2 fun _ _ Y h v0 X0 v1 X1=>by have:=cSgRight (VSg_now (show VAt w (VSg N vs k) v0 Y from X0) h.k.below) (VAt_cur (Stab_Vv _ _ _) (show VAt w (Vv N p.1 p.2) v1 Y from X1) h.k.below) hN1;rw [Bool.eq_false_iff.2 hr] at this;exact this),ks,trivial⟩ ?_;intro a3 w3 st3;refine Wm ?_
    refine cFI st3 ?_;refine Wm ?_
    obtain⟨_,f4,rfl,qf4⟩:=st3.sl (4,VRow g4 #[.int .i64 0] 3) (lS_mem rfl);obtain⟨_,f0,rfl⟩:=st3.sl (0,VEq (.slice pp vs.length c)) (lS_mem rfl);obtain⟨_,f3,rfl,qf3⟩:=st3.sl (3,VRow x3 cs3 32) (lS_mem rfl);obtain⟨_,f5,rfl,qf5⟩:=st3.sl (5,VRow g5 #[.int .i64 (whr vs p xs)] 3) (lS_mem rfl);obtain⟨vk2,f10,hk2⟩:=st3.sl (10,VKR w5.heap.size [(73,16,0),(3,1,0)] W) (lS_mem rfl);have st5:St w.heap.size w 23 [] [(10,VKR w5.heap.size [(73,16,0),(3,1,0)] W),(0,VEq (.slice pp vs.length c)),(3,VEq (.pointer (some ⟨x3,0,none⟩))),(4,VEq (.pointer (some ⟨g4,0,none⟩))),(5,VEq (.pointer (some ⟨g5,0,none⟩)))] a3 w3:=St.slots (L:=[]) (St.cut (L':=[]) (SL':=[]) st3) (Lq.2 ⟨⟨vk2,f10,hk2⟩,(Lq.2 ⟨⟨_,f0,rfl⟩,(Lq.2 ⟨⟨_,f3,rfl⟩,(Lq.2 ⟨⟨_,f4,rfl⟩,(Lq.2 ⟨⟨_,f5,rfl⟩,L0⟩)⟩)⟩)⟩)⟩);refine⟨st5,qf3,qf4,?_,fun j hj=>?_⟩
    ·rw [hws];exact qf5
    ·rcases List.mem_append.1 hj with hj|hj
     ·exact rn j hj
     ·rw [List.mem_singleton.1 hj];exact hc
 case stop=>
  intro D j W hD hj st1 hE1 hK;obtain⟨_,f4,rfl⟩:=st1.sl (4,VEq (.pointer (some ⟨g4,0,none⟩))) (lS_mem rfl);have hne:g4≠D:=by rintro rfl;have:=hE1.1;rw [hK] at this;cases this
  refine wpIn_ret (ret_mark rfl hK (results_cell_one rfl _ _ g4 3 (.int .i64 0) (by simp [Array.getD_eq_getD_getElem?,f4]) ((World.putObj_heap_other hne).trans hE1.1)) ⟨_,rfl,?_,st1.k.below.grown (grownBy_putObj' _ _ _) st1.k.below.size fun k e=>by cases e;omega⟩);obtain⟨k,hk,hk2⟩:=hE1.2;exact congrArg (Value.int .i64) (if_pos ⟨k,List.mem_range.2 (Nat.lt_of_lt_of_le (List.mem_range.1 hk) hj),hk2⟩).symm
 case done=>
  intro D W hD st1 hE1 hK;obtain⟨r3,r4,r5,rn⟩:=hE1;obtain⟨_,d4,rfl⟩:=st1.sl (4,VEq (.pointer (some ⟨g4,0,none⟩))) (lS_mem rfl);obtain⟨_,d5,rfl⟩:=st1.sl (5,VEq (.pointer (some ⟨g5,0,none⟩))) (lS_mem rfl);have hds:({a5 with defers:=[{target:= .collected D,args:=#[]}]}:Act).defers= [{target:= .collected D,args:=#[]}]:=rfl;have d9:a5.tmps[9]? =some (a5.tmps[9]'(by rw [st1.size];decide)):=Array.getElem?_eq_getElem _;have stD:St w.heap.size w 23 [] [(9,VOb D),(4,VRow g4 #[.int .i64 0] 3),(5,VRow g5 #[.int .i64 (whr vs p (List.range vs.length))] 3)] ⟨({a5 with defers:=[{target:= .collected D,args:=#[]}]}:Act).tmps,[]⟩ W:=(st1.undef).slots (Lq.2 ⟨⟨_,d9,hK⟩,(Lq.2 ⟨⟨_,d4,rfl,r4⟩,(Lq.2 ⟨⟨_,d5,rfl,r5⟩,L0⟩)⟩)⟩);generalize({a5 with defers:=[{target:= .collected D,args:=#[]}]}:Act)=aD at stD hds ⊢;have:Sb [] (VOb D):=⟨Stab_VOb (by simp)⟩;refine Wm ?_
  refine rgS (BT:=[]) (k:=1) (Vl:=[VEq (.int .i64 (whr vs p (List.range vs.length)))]) (B:=[]) (SL':=[(9,VOb D),(4,VRow g4 #[.int .i64 0] 3),(22,VEq (.int .i64 (whr vs p (List.range vs.length))))]) hds stD ⟨?s0,trivial⟩ rfl rfl rfl rfl (fun _ e=>by cases e) (by kernel_rfl) rfl ?_ rfl (by kernel_rfl);case s0=>refine kr fun _ ac Y h hd=>?_;obtain⟨v0,hv0,X0⟩:=h.ot 5;exact load_Row1 rfl hv0 X0
  intro a6 w6 hd6 st6;obtain⟨_,f4,rfl,qf4⟩:=st6.sl (4,VRow g4 #[.int .i64 0] 3) (lS_mem rfl);obtain⟨_,f22,rfl⟩:=st6.sl (22,VEq (.int .i64 (whr vs p (List.range vs.length)))) (lS_mem rfl);obtain⟨_,f9,hK6⟩:=st6.sl (9,VOb D) (lS_mem rfl);have hK6:w6.heap[D]? =some (.deferred (some [])):=hK6;have hne:g4≠D:=by rintro rfl;rw [hK6] at qf4;cases qf4
  refine⟨_,run_store1 rfl (ev_tmp f4) (ev_tmp f22) qf4 size_int rfl,?_⟩;refine Wm ?_
  have hbF:=below_setRow (cs:=#[.int .i64 (whr vs p (List.range vs.length))]) st6.k.below hg4;refine wpIn_ret (ret_mark hd6 ((setRow_other _ _ _ _ (Ne.symm hne)).trans hK6) (results_cell_one rfl _ _ g4 3 (.int .i64 (whr vs p (List.range vs.length))) (by have f4':a6.tmps[4]? =some (.pointer (some ⟨g4,0,none⟩)):=f4;simp [Array.getD_eq_getD_getElem?,f4']) ((World.putObj_heap_other hne).trans (setRow_heap _ _ _ _ _ _ qf4))) ⟨_,rfl,?_,hbF.grown (grownBy_putObj' _ _ _) hbF.size fun k e=>by cases e;omega⟩);exact congrArg (Value.int .i64) (if_neg (by rintro⟨k,hk,hk2⟩;exact rn k hk hk2)).symm
theorem own_vkr {B B2:Nat}{BT:List (TypeId×Nat×Nat)}{W X Y:World}{row:Option Nat}{v:Value}(h:VKR B BT W v X)(hB:W.heap.size<=B2)(hg:X.grownBy Y row)(hr:∀r,row=some r->B2<=r/\∃o:Obj,X.heap[r]? =some o/\o.isCells=false):VKR B BT W v Y:=
 ⟨⟨Nat.le_trans h.1.1 hg.size,fun k o hk h1 h2=>by
  have:=h.1.2 k o hk h1 h2;refine(hg.block k (lt_blk this) fun e=>?_).trans this;have h3:=(hr k e.symm).1;have h4:=lt_blk h1
  omega⟩,⟨Nat.le_trans h.1.1 hg.size,fun k cs T h1 h2=>by
  have:=h.2.row k cs T h1 h2;refine(hg.block k (lt_blk (this.trans h1)) fun e=>?_).trans this;have h3:=(hr k e.symm).1;have h4:=lt_blk h1
  omega⟩⟩
theorem range_sidesR {n Nf tk p q t:Nat}{wb w:World}{N:Nat}{vs:List P2}{lv:Value}{a:Act}{assign body:Code}{Q:Exit->Act->World->Prop}{BT:List (TypeId×Nat×Nat)}
 (L Lx:List Nat->List Bd) (E Ex:List Nat->World->Prop) (SL:List (Nat×VP)) (st:St wb.heap.size wb Nf (L []) SL a w) (hE0:E [] w) (SA:Nat->List (Nat×VP)) (hE:∀ks,OwnFrom w.heap.size (fun (_:Unit) W=>E ks W)) (hEx:∀ks,OwnFrom w.heap.size (fun (_:Unit) W=>Ex ks W)) (hk:∃v,a.tmps[tk]? =some v/\VSd lv v w) (hS:VSv N vs lv wb)
 (hf:∀ks,Fixed SL (L ks)) (hfx:∀ks,Fixed SL (Lx ks)) (he:AllEq SL) (hp:p<Nf) (hq:q<Nf) (hpq:q≠p) (hp2:∀x∈SL,x.1≠p/\x.1≠q) (n1:1<=n)
 (hbt1:∀e∈BT,e.1≠23) (hbt2:∀e∈BT,e.1≠97)
 [hL0:∀ks,SbB [] (L ks)] [hMA:∀k,SbS MK (SA k)] [hM:∀ks,SbB MK (L ks)] [hMx:∀ks,SbB MK (Lx ks)] [hMS:SbS MK SL]
 (hassign:∀(l k:Nat) (a1:Act) (W:World) (K:Act->World->Prop),wb.heap.size<=W.heap.size->Below wb.heap.size wb W->St W.heap.size W Nf [] ((q,VAt wb (VSg N vs k))::(p,Vi (k:Int))::SL) a1 W->(∀a' W',St W.heap.size W Nf [⟨t,none,none,73,16,VAt wb (VSg N vs k),VT⟩] (SA k++SL) a' W'->K a' W')->assign.wpIn (fW (some l)) (n - 1 - 1) Tryz.prog (Exit.then K (fun _ _ _=>False)) a1 W)
 (hbody:∀(l k:Nat) (ks:List Nat) (a1:Act) (W:World),k<vs.length->ks.length<vs.length->w.heap.size<=l->(∃r,W.heap[l]? =some (.loop r))->St wb.heap.size wb Nf (L ks++ [⟨t,none,none,73,16,VAt wb (VSg N vs k),VT⟩]) ((p,VKR w.heap.size BT W)::(SA k++SL)) a1 W->E ks W->body.wpIn (fW (some l)) (n - 1 - 1) Tryz.prog (RdPost wb.heap.size wb Nf L Lx E Ex SL p (VKR w.heap.size BT W) (ks++ [k])) a1 W)
 (hLt:∀ks ks',∀c∈L ks',∃c',c'∈L ks/\c'.t=c.t) (htL:∀ks,∀b∈L ks,b.t≠t)
 (hdone:∀(D:Nat) (W:World),w.heap.size<=D->St wb.heap.size wb Nf (L (List.range vs.length)) SL a W->E (List.range vs.length) W->W.heap[D]? =some (.deferred (some []))->Q .normal {a with defers:=[{target:= .collected D,args:=#[]}]} W)
 (hstop:∀(D:Nat) (j:Nat) (W:World),w.heap.size<=D->j<=vs.length->St wb.heap.size wb Nf (Lx (List.range j)) SL a W->Ex (List.range j) W->W.heap[D]? =some (.deferred (some []))->Code.ret.wpIn (fW none) n Tryz.prog Q {a with defers:=[{target:= .collected D,args:=#[]}]} W):
 (Code.rangeFunc (.tmp tk) #[p,q] assign body).wpIn (fW none) n Tryz.prog Q a w:=by
 obtain⟨v,hv,b1,b3,c,rfl,p1,p3,hc⟩:=hk;have hn:wb.heap.size<=w.heap.size:=st.n;have keep:∀{W W':World} {v:Value},VKR w.heap.size BT W v W'->Below wb.heap.size wb W'->KeepsFrom w.heap.size W W'/\Kp wb BT W W':=fun h hb=>⟨⟨h.1.1,fun k o hB hk ho=>h.1.2 k o hB hk (noCl_of ho)⟩,fun _=>hb,h.2⟩
 have hApp:∀k,SbS MK (SA k++SL):=fun k=>⟨fun x hx=>(List.mem_append.1 hx).elim (fun h=>(hMA k).out x h) (fun h=>hMS.out x h)⟩
 have hBx:∀k,SbB MK [⟨t,none,none,73,16,VAt wb (VSg N vs k),VT⟩]:=fun k=>inferInstance
 refine wpIn_rangeFunc_ownH (F:=fW none) (α:=SdE N vs wb) rfl n1 (gf:=88) (lb:=#[.pointer (some ⟨b1,0,none⟩),.pointer (some ⟨b3,0,none⟩)]) (by simp [Act.eval,Array.getD_eq_getD_getElem?,hv]) trivial (fun _ _=>rfl)
  (sides_stops (N:=N) (vs:=vs) (lv:=lv) hbt1 hbt2 st.k.below hS p1 p3 hc) (fun h k=>Kp.trans h k) (fun W l o o' hl h h1 h2=>Kp.put hn W l o o' hl h h1 h2) (Below.refl _ _) (fun _=>rfl)
  (fun pre W=>St wb.heap.size wb Nf (L (ixs pre)) SL a W/\E (ixs pre) W) (fun c pre W=>c= .ret/\St wb.heap.size wb Nf (Lx (ixs pre)) SL a W/\Ex (ixs pre) W)
  (fun s A B row hs hg hr=>⟨hs.1.grown hg fun r e=>⟨Nat.le_trans hn (hr r e).1,(hr r e).2⟩,hE _ () _ _ _ hs.2 hg hr⟩) (fun c s A B row hs hg hr=>⟨hs.1,hs.2.1.grown hg fun r e=>⟨Nat.le_trans hn (hr r e).1,(hr r e).2⟩,hEx _ () _ _ _ hs.2.2 hg hr⟩) ⟨st,hE0⟩
  (fun x a' W=>St wb.heap.size wb Nf [⟨t,none,none,73,16,VAt wb (VSg N vs x.1.1),VT⟩] (SA x.1.1++SL) a' W/\∀ks,∀c∈L ks,a'.tmps[t]? ≠a'.tmps[c.t]?)
  (fun x a' s A B row hs hg hr=>⟨(have:=hApp x.1.1;hs.1.grown hg fun r e=>⟨Nat.le_trans hn (hr r e).1,(hr r e).2⟩),hs.2⟩) ?assign ?body ?done ?stop
 case assign=>
  intro l pre x W K ⟨hI,hEi⟩ hK
  have hLp:∀r,r=p∨r=q->(L (ixs pre)).all (fun b=>b.t !=r)=true:=fun r hr=>by
   rw [List.all_eq_true];intro b hb;obtain⟨-,-,u,hu⟩:=hf _ b hb;have h1:b.t≠p/\b.t≠q:=hp2 _ hu;rcases hr with rfl|rfl<;>simp [h1.1,h1.2]
  have hSp:∀r,r=p∨r=q->SL.all (fun x=>x.1 !=r)=true:=fun r hr=>by
   rw [List.all_eq_true];intro b hb;have h1:=hp2 _ hb;rcases hr with rfl|rfl<;>simp [h1.1,h1.2]
  have hW:St W.heap.size W Nf [] SL a W:=⟨⟨Below.refl _ _,fun b hb=>absurd hb (by simp),fun b hb=>absurd hb (by simp),fun b hb=>absurd hb (by simp)⟩,Nat.le_refl _,hI.size,hI.defers,hI.sl⟩
  have h2:=(hW.put1 p (.int .i64 (x.1.1:Int)) (Vi (x.1.1:Int)) rfl hp rfl (hSp p (.inl rfl))).put1 q x.1.2 (VAt wb (VSg N vs x.1.1)) x.2.2 hq rfl (by
   rw [List.all_cons,hSp q (.inr rfl)]
   simp [hpq.symm])
  unfold encS;rw [zip2 a st.defers];refine hassign l x.1.1 _ W K hI.n hI.k.below h2 fun a' W' st'=>?_
  have hbl:=st'.k.below;have sI:=hI.over st' (hf _) (fun b hb=>List.mem_append_right _ hb) rfl rfl;have k:=keep (v:=undef) (VKR_below (B:=w.heap.size) (BT:=BT) hbl undef) sI.k.below;have sJ:=sI.sub (L':=L (ixs pre)) (SL':=SL) (fun b hb=>List.mem_append_left _ hb) (fun b hb=>List.mem_append_right _ hb);refine hK a' W' k.1 k.2 ⟨sJ.act st (hf _) he,hE _ () _ _ none hEi (grown_of hbl) (fun r e=>by cases e)⟩ ⟨sI.sub (fun b hb=>List.mem_append_right _ hb) (fun b hb=>hb),fun ks c hc=>?_⟩;obtain⟨c',h3,h4⟩:=hLt (ixs pre) ks c hc;have:=sI.k.ne ⟨t,none,none,73,16,VAt wb (VSg N vs x.1.1),VT⟩ (List.mem_append_right _ List.mem_cons_self) c' (List.mem_append_left _ h3) (fun e=>htL _ c' h3 e.symm) rfl (by rw [(hf _ c' h3).1];rfl);rw [<-h4];exact this
 case body=>
  rintro l pre x a' W hl hrec ⟨hI,hEi⟩ ⟨hA,hne⟩ hlen
  have hA0:=hA.sub (L':=[]) (SL':=SL) (fun b hb=>absurd hb (by simp)) (fun b hb=>List.mem_append_right _ hb);have st2:=((hI.act hA0 (hf _) he).joinB hA rfl (fun c hc=>⟨(hf _ c hc).1,(hf _ c hc).2.1⟩) rfl (hne _)).addS (t:=p) (V:=VKR w.heap.size BT W) hp fun v=>VKR_refl v
  have hix:ixs (pre++ [x])=ixs pre++ [x.1.1]:=by simp [ixs]
  refine wpIn_mono (hbody l x.1.1 (ixs pre) a' W x.2.1 (by simpa [ixs] using hlen) hl hrec st2 hEi) ?_;intro e a2 W2 hpost;cases e with
  |normal=>
   obtain⟨hpost,hEp⟩:St wb.heap.size wb Nf (L (ixs pre++ [x.1.1])) ((p,VKR w.heap.size BT W)::SL) a2 W2/\E (ixs pre++ [x.1.1]) W2:=hpost;obtain⟨u,-,hu⟩:=hpost.sl (p,VKR w.heap.size BT W) List.mem_cons_self;have k:=keep (v:=u) hu hpost.k.below;refine⟨k.1,k.2,?_⟩;show St wb.heap.size wb Nf (L (ixs (pre++ [x]))) SL a W2/\E (ixs (pre++ [x])) W2;rw [hix];exact⟨(hpost.sub (fun b hb=>hb) (fun b hb=>List.mem_cons_of_mem _ hb)).act st (hf _) he,hEp⟩
  |ret=>
   obtain⟨hpost,hEp⟩:St wb.heap.size wb Nf (Lx (ixs pre++ [x.1.1])) ((p,VKR w.heap.size BT W)::SL) a2 W2/\Ex (ixs pre++ [x.1.1]) W2:=hpost;obtain⟨u,-,hu⟩:=hpost.sl (p,VKR w.heap.size BT W) List.mem_cons_self;have k:=keep (v:=u) hu hpost.k.below;refine⟨k.1,rfl,?_⟩;show St wb.heap.size wb Nf (Lx (ixs (pre++ [x]))) SL a W2/\Ex (ixs (pre++ [x])) W2;rw [hix];exact⟨(hpost.sub (fun b hb=>hb) (fun b hb=>List.mem_cons_of_mem _ hb)).act st (hfx _) he,hEp⟩
  |exit _=>exact hpost.elim
  |goto _=>exact hpost.elim
  |panic _=>exact hpost.elim
  |outgrown=>exact hpost.elim
 case done=>
  intro D xs W hD hxs hI hK;have hI:St wb.heap.size wb Nf (L (ixs xs)) SL a W/\E (ixs xs) W:=hI;rw [show ixs xs=List.range vs.length from hxs] at hI;have:=hdone D W hD hI.1 hI.2 hK;rw [st.defers];exact this
 case stop=>
  rintro D c pre W hD ⟨h1,h2⟩ ⟨rfl,h3⟩ hK
  rw [show ixs pre=List.range pre.length from h1] at h3;have:=hstop D pre.length W hD h2 h3.1 h3.2 hK;rw [st.defers];exact this
theorem range_sidesN {n Nf tk p q t:Nat}{wb w:World}{N:Nat}{vs:List P2}{lv:Value}{a:Act}{assign body:Code}{l0:Nat}{r0:Loop}{Q:Exit->Act->World->Prop}{BT:List (TypeId×Nat×Nat)}
 (L Lx:List Nat->List Bd) (E Ex:List Nat->World->Prop) (SL:List (Nat×VP)) (hl0:w.heap[l0]? =some (.loop r0)) (st:St wb.heap.size wb Nf (L []) SL a w) (hE0:E [] w) (SA:Nat->List (Nat×VP)) (hE:∀ks,OwnFrom w.heap.size (fun (_:Unit) W=>E ks W)) (hEx:∀ks,OwnFrom w.heap.size (fun (_:Unit) W=>Ex ks W)) (hk:∃v,a.tmps[tk]? =some v/\VSd lv v w) (hS:VSv N vs lv wb)
 (hf:∀ks,Fixed SL (L ks)) (hfx:∀ks,Fixed SL (Lx ks)) (he:AllEq SL) (hp:p<Nf) (hq:q<Nf) (hpq:q≠p) (hp2:∀x∈SL,x.1≠p/\x.1≠q) (n1:1<=n)
 (hbt1:∀e∈BT,e.1≠23) (hbt2:∀e∈BT,e.1≠97)
 [hL0:∀ks,SbB [] (L ks)] [hMA:∀k,SbS MK (SA k)] [hM:∀ks,SbB MK (L ks)] [hMx:∀ks,SbB MK (Lx ks)] [hMS:SbS MK SL]
 (hassign:∀(l k:Nat) (a1:Act) (W:World) (K:Act->World->Prop),wb.heap.size<=W.heap.size->Below wb.heap.size wb W->St W.heap.size W Nf [] ((q,VAt wb (VSg N vs k))::(p,Vi (k:Int))::SL) a1 W->(∀a' W',St W.heap.size W Nf [⟨t,none,none,73,16,VAt wb (VSg N vs k),VT⟩] (SA k++SL) a' W'->K a' W')->assign.wpIn (fW (some l)) (n - 1 - 1) Tryz.prog (Exit.then K (fun _ _ _=>False)) a1 W)
 (hbody:∀(l k:Nat) (ks:List Nat) (a1:Act) (W:World),k<vs.length->ks.length<vs.length->St wb.heap.size wb Nf (L ks++ [⟨t,none,none,73,16,VAt wb (VSg N vs k),VT⟩]) ((p,VKR w.heap.size BT W)::(SA k++SL)) a1 W->E ks W->body.wpIn (fW (some l)) (n - 1 - 1) Tryz.prog (RdPost wb.heap.size wb Nf L Lx E Ex SL p (VKR w.heap.size BT W) (ks++ [k])) a1 W)
 (hLt:∀ks ks',∀c∈L ks',∃c',c'∈L ks/\c'.t=c.t) (htL:∀ks,∀b∈L ks,b.t≠t)
 (hdone:∀(W:World),St wb.heap.size wb Nf (L (List.range vs.length)) SL a W->E (List.range vs.length) W->Q .normal a W)
 (hstop:∀(j:Nat) (W:World),j<=vs.length->St wb.heap.size wb Nf (Lx (List.range j)) SL a W->Ex (List.range j) W->Code.ret.wpIn (fW (some l0)) n Tryz.prog Q a W):
 (Code.rangeFunc (.tmp tk) #[p,q] assign body).wpIn (fW (some l0)) n Tryz.prog Q a w:=by
 obtain⟨v,hv,b1,b3,c,rfl,p1,p3,hc⟩:=hk;have hn:wb.heap.size<=w.heap.size:=st.n;have keep:∀{W W':World} {v:Value},VKR w.heap.size BT W v W'->Below wb.heap.size wb W'->KeepsFrom w.heap.size W W'/\Kp wb BT W W':=fun h hb=>⟨⟨h.1.1,fun k o hB hk ho=>h.1.2 k o hB hk (noCl_of ho)⟩,fun _=>hb,h.2⟩
 have hApp:∀k,SbS MK (SA k++SL):=fun k=>⟨fun x hx=>(List.mem_append.1 hx).elim (fun h=>(hMA k).out x h) (fun h=>hMS.out x h)⟩
 have hBx:∀k,SbB MK [⟨t,none,none,73,16,VAt wb (VSg N vs k),VT⟩]:=fun k=>inferInstance
 refine wpIn_rangeFunc_ownN (F:=fW (some l0)) (α:=SdE N vs wb) rfl hl0 n1 (gf:=88) (lb:=#[.pointer (some ⟨b1,0,none⟩),.pointer (some ⟨b3,0,none⟩)]) (by simp [Act.eval,Array.getD_eq_getD_getElem?,hv]) trivial (fun _ _=>rfl)
  (SeqStopsK.inRound l0 (sides_stops (N:=N) (vs:=vs) (lv:=lv) hbt1 hbt2 st.k.below hS p1 p3 hc)) (fun h k=>Kp.trans h k) (fun W l o o' hl h h1 h2=>Kp.put hn W l o o' hl h h1 h2) (Below.refl _ _) (fun _=>rfl)
  (fun pre W=>St wb.heap.size wb Nf (L (ixs pre)) SL a W/\E (ixs pre) W) (fun c pre W=>c= .ret/\St wb.heap.size wb Nf (Lx (ixs pre)) SL a W/\Ex (ixs pre) W)
  (fun s A B row hs hg hr=>⟨hs.1.grown hg fun r e=>⟨Nat.le_trans hn (hr r e).1,(hr r e).2⟩,hE _ () _ _ _ hs.2 hg hr⟩) (fun c s A B row hs hg hr=>⟨hs.1,hs.2.1.grown hg fun r e=>⟨Nat.le_trans hn (hr r e).1,(hr r e).2⟩,hEx _ () _ _ _ hs.2.2 hg hr⟩) ⟨st,hE0⟩
  (fun x a' W=>St wb.heap.size wb Nf [⟨t,none,none,73,16,VAt wb (VSg N vs x.1.1),VT⟩] (SA x.1.1++SL) a' W/\∀ks,∀c∈L ks,a'.tmps[t]? ≠a'.tmps[c.t]?)
  (fun x a' s A B row hs hg hr=>⟨(have:=hApp x.1.1;hs.1.grown hg fun r e=>⟨Nat.le_trans hn (hr r e).1,(hr r e).2⟩),hs.2⟩) ?assign ?body ?done ?stop
 case assign=>
  intro l pre x W K ⟨hI,hEi⟩ hK
  have hLp:∀r,r=p∨r=q->(L (ixs pre)).all (fun b=>b.t !=r)=true:=fun r hr=>by
   rw [List.all_eq_true];intro b hb;obtain⟨-,-,u,hu⟩:=hf _ b hb;have h1:b.t≠p/\b.t≠q:=hp2 _ hu;rcases hr with rfl|rfl<;>simp [h1.1,h1.2]
  have hSp:∀r,r=p∨r=q->SL.all (fun x=>x.1 !=r)=true:=fun r hr=>by
   rw [List.all_eq_true];intro b hb;have h1:=hp2 _ hb;rcases hr with rfl|rfl<;>simp [h1.1,h1.2]
  have hW:St W.heap.size W Nf [] SL a W:=⟨⟨Below.refl _ _,fun b hb=>absurd hb (by simp),fun b hb=>absurd hb (by simp),fun b hb=>absurd hb (by simp)⟩,Nat.le_refl _,hI.size,hI.defers,hI.sl⟩
  have h2:=(hW.put1 p (.int .i64 (x.1.1:Int)) (Vi (x.1.1:Int)) rfl hp rfl (hSp p (.inl rfl))).put1 q x.1.2 (VAt wb (VSg N vs x.1.1)) x.2.2 hq rfl (by
   rw [List.all_cons,hSp q (.inr rfl)]
   simp [hpq.symm])
  unfold encS;rw [zip2 a st.defers];refine hassign l x.1.1 _ W K hI.n hI.k.below h2 fun a' W' st'=>?_
  have hbl:=st'.k.below;have sI:=hI.over st' (hf _) (fun b hb=>List.mem_append_right _ hb) rfl rfl;have k:=keep (v:=undef) (VKR_below (B:=w.heap.size) (BT:=BT) hbl undef) sI.k.below;have sJ:=sI.sub (L':=L (ixs pre)) (SL':=SL) (fun b hb=>List.mem_append_left _ hb) (fun b hb=>List.mem_append_right _ hb);refine hK a' W' k.1 k.2 ⟨sJ.act st (hf _) he,hE _ () _ _ none hEi (grown_of hbl) (fun r e=>by cases e)⟩ ⟨sI.sub (fun b hb=>List.mem_append_right _ hb) (fun b hb=>hb),fun ks c hc=>?_⟩;obtain⟨c',h3,h4⟩:=hLt (ixs pre) ks c hc;have:=sI.k.ne ⟨t,none,none,73,16,VAt wb (VSg N vs x.1.1),VT⟩ (List.mem_append_right _ List.mem_cons_self) c' (List.mem_append_left _ h3) (fun e=>htL _ c' h3 e.symm) rfl (by rw [(hf _ c' h3).1];rfl);rw [<-h4];exact this
 case body=>
  rintro l pre x a' W hl hrec ⟨hI,hEi⟩ ⟨hA,hne⟩ hlen
  have hA0:=hA.sub (L':=[]) (SL':=SL) (fun b hb=>absurd hb (by simp)) (fun b hb=>List.mem_append_right _ hb);have st2:=((hI.act hA0 (hf _) he).joinB hA rfl (fun c hc=>⟨(hf _ c hc).1,(hf _ c hc).2.1⟩) rfl (hne _)).addS (t:=p) (V:=VKR w.heap.size BT W) hp fun v=>VKR_refl v
  have hix:ixs (pre++ [x])=ixs pre++ [x.1.1]:=by simp [ixs]
  refine wpIn_mono (hbody l x.1.1 (ixs pre) a' W x.2.1 (by simpa [ixs] using hlen) st2 hEi) ?_;intro e a2 W2 hpost;cases e with
  |normal=>
   obtain⟨hpost,hEp⟩:St wb.heap.size wb Nf (L (ixs pre++ [x.1.1])) ((p,VKR w.heap.size BT W)::SL) a2 W2/\E (ixs pre++ [x.1.1]) W2:=hpost;obtain⟨u,-,hu⟩:=hpost.sl (p,VKR w.heap.size BT W) List.mem_cons_self;have k:=keep (v:=u) hu hpost.k.below;refine⟨k.1,k.2,?_⟩;show St wb.heap.size wb Nf (L (ixs (pre++ [x]))) SL a W2/\E (ixs (pre++ [x])) W2;rw [hix];exact⟨(hpost.sub (fun b hb=>hb) (fun b hb=>List.mem_cons_of_mem _ hb)).act st (hf _) he,hEp⟩
  |ret=>
   obtain⟨hpost,hEp⟩:St wb.heap.size wb Nf (Lx (ixs pre++ [x.1.1])) ((p,VKR w.heap.size BT W)::SL) a2 W2/\Ex (ixs pre++ [x.1.1]) W2:=hpost;obtain⟨u,-,hu⟩:=hpost.sl (p,VKR w.heap.size BT W) List.mem_cons_self;have k:=keep (v:=u) hu hpost.k.below;refine⟨k.1,rfl,?_⟩;show St wb.heap.size wb Nf (Lx (ixs (pre++ [x]))) SL a W2/\Ex (ixs (pre++ [x])) W2;rw [hix];exact⟨(hpost.sub (fun b hb=>hb) (fun b hb=>List.mem_cons_of_mem _ hb)).act st (hfx _) he,hEp⟩
  |exit _=>exact hpost.elim
  |goto _=>exact hpost.elim
  |panic _=>exact hpost.elim
  |outgrown=>exact hpost.elim
 case done=>
  intro xs W hxs hI;have hI:St wb.heap.size wb Nf (L (ixs xs)) SL a W/\E (ixs xs) W:=hI;rw [show ixs xs=List.range vs.length from hxs] at hI;exact hdone W hI.1 hI.2
 case stop=>
  rintro c pre W ⟨h1,h2⟩ ⟨rfl,h3⟩
  rw [show ixs pre=List.range pre.length from h1] at h3;exact hstop pre.length W h2 h3.1 h3.2
end Go.Proofs.YteacdbgalloaiaaGreat
