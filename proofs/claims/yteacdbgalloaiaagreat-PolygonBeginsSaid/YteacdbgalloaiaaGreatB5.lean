/- Contracts of the packages integer, rat, plane, polygon and their references. -/
import Derived.Orders
import Derived.Laws.Tables
import Derived.Great.Ranges
import Derived.Test.YteacdbgalloaiaaGreatB1
import Derived.Test.YteacdbgalloaiaaGreatB4
import Derived.Test.YteacdbgalloaiaaGreatB3
import Derived.ChangeKeysEq
import Derived.Lib.AppendIntMem
import Derived.Lib.ItoaLen
import Derived.OwnWalk
import Derived.BigCall
set_option linter.unusedVariables false
set_option maxRecDepth 100000
set_option maxHeartbeats 6400000
namespace Go.Proofs.YteacdbgalloaiaaGreat
open Go Go.RowKit
section
structure RI (BT:List (TypeId×Nat×Nat))(w w':World):Prop where
 size:w.heap.size<=w'.heap.size
 int:∀p x,w.cell? p=some (.int .i64 x)->w'.cell? p=some (.int .i64 x)
 row:∀(h:Nat) (cs:Array Value) (T:TypeId),w.heap[h]? =some (Obj.cells cs T (0,0))->(∀e∈BT,e.1=T->e.2.1=cs.size->e.2.2≠0/\e.2.2<=h)∨(0<cs.size/\∃e∈BT,e.1=T/\e.2.1=0/\e.2.2=h)->w'.heap[h]? =w.heap[h]?
 oth:(∀e∈BT,e.1≠1000000)->∀(k:Nat) (o:Obj),w.heap[k]? =some o->(∀cs T f,o≠Obj.cells cs T f)->w'.heap[k]? =some o
variable {BT:List (TypeId×Nat×Nat)}
theorem RI.refl (w:World):RI BT w w:=⟨Nat.le_refl _,fun _ _ h=>h,fun _ _ _ _ _=>rfl,fun _ _ _ h _=>h⟩
theorem RI.of_below {w w':World}(h:Below w.heap.size w w'):RI BT w w':=⟨h.size,fun _ _ hc=>Below.cell_of' h hc,fun k _ _ hk _=>h.block k (lt_blk hk),fun _ k _ hk _=>(h.block k (lt_blk hk)).trans hk⟩
theorem BT_not {T:TypeId}{m n:Nat}(hn:BT.any (fun e=>e.1==T && e.2.1==m)=false)(hm:n=m){h:Nat}:(∀e∈BT,e.1=T->e.2.1=n->e.2.2≠0/\e.2.2<=h)∨(0<n/\∃e∈BT,e.1=T/\e.2.1=0/\e.2.2=h):= .inl fun e he e1 e2=>by
 rw [List.any_eq_false] at hn;exact absurd (by rw [e1,e2,hm];simp) (hn e he)
def Stab (BT:List (TypeId×Nat×Nat))(V:VP):Prop:=∀v w w',V v w->RI BT w w'->V v w'
theorem Stab_VT:Stab BT VT:=fun _ _ _ _ _=>trivial
theorem Stab_Vb (b:Bool):Stab BT (Vb b):=fun _ _ _ h _=>h
theorem Stab_Vi (i:Int):Stab BT (Vi i):=fun _ _ _ h _=>h
theorem Rdi_RI {w w':World}{a:Option Addr}{l:List Int}(h:RI BT w w')(hR:Rdi w a l):Rdi w' a l:=by
 rcases hR with rfl|⟨b,off,rfl,hc⟩
 ·exact .inl rfl
 ·exact .inr ⟨b,off,rfl,fun i hi=>h.int _ _ (hc i hi)⟩
theorem Stab_Vz (N:Nat)(z:Int):Stab BT (Vz N z):=fun _ _ _ ⟨nb,p,n,c,h1,h2,h3⟩ hr=>⟨nb,p,n,c,h1,⟨h2.1,h2.2.1,Rdi_RI hr h2.2.2.1,h2.2.2.2⟩,h3⟩
def NoInt (cs:Array Value):Prop:=∀(i:Nat) (x:Int),cs[i]? ≠some (Value.int .i64 x)
def AggV (m:Nat)(V:VP):Prop:=∀v w,V v w->∃cs,v= .agg cs/\cs.size=m/\NoInt cs/\cs.all (·.oneCell')=true
theorem AggV_Vz (N:Nat)(z:Int):AggV 2 (Vz N z):=by
 rintro v w ⟨nb,p,n,c,rfl,-,-⟩
 refine⟨_,rfl,rfl,fun i x h=>?_,by simp [Value.oneCell']⟩
 match i with
 |0=>simp at h
 |1=>simp at h
 |i+2=>simp at h
def VP2 (k1 k2:Nat)(A B:VP):VP:=fun v w=>∃x y,x.size=k1/\y.size=k2/\v= .agg (x++y)/\A (.agg x) w/\B (.agg y) w
theorem Stab_VP2 {k1 k2:Nat}{A B:VP}(hA:Stab BT A)(hB:Stab BT B):Stab BT (VP2 k1 k2 A B):=fun _ _ _ ⟨x,y,h1,h2,h3,h4,h5⟩ hr=>⟨x,y,h1,h2,h3,hA _ _ _ h4 hr,hB _ _ _ h5 hr⟩
theorem AggV_VP2 {k1 k2:Nat}{A B:VP}(hA:AggV k1 A)(hB:AggV k2 B):AggV (k1+k2) (VP2 k1 k2 A B):=by
 rintro v w ⟨x,y,h1,h2,rfl,h4,h5⟩
 obtain⟨_,e1,-,n1,o1⟩:=hA _ _ h4;obtain⟨_,e2,-,n2,o2⟩:=hB _ _ h5;cases e1;cases e2;refine⟨_,rfl,by simp [h1,h2],fun i z h=>?_,?_⟩
 ·rw [Array.getElem?_append] at h;split at h
  ·exact n1 _ _ h
  ·exact n2 _ _ h
 ·rw [Array.all_append,o1,o2];rfl
theorem VP2_fst {k1 k2:Nat}{A B:VP}{cs:Array Value}{w:World}(h:VP2 k1 k2 A B (.agg cs) w):A (.agg (cs.extract 0 (0+k1))) w:=by
 obtain⟨x,y,h1,h2,h3,h4,h5⟩:=h;cases h3;rw [Nat.zero_add,<-h1,Array.extract_append_left];simpa using h4
theorem VP2_snd {k1 k2:Nat}{A B:VP}{cs:Array Value}{w:World}(h:VP2 k1 k2 A B (.agg cs) w):B (.agg (cs.extract k1 (k1+k2))) w:=by
 obtain⟨x,y,h1,h2,h3,h4,h5⟩:=h;cases h3
 have:(x++y).extract k1 (k1+k2)=y:=by
  subst h1 h2;apply Array.ext_getElem?;intro i;simp
 rw [this];exact h5
structure Bd where
 t:Nat
 ia:Option Nat
 ik:Option Nat
 T:TypeId
 m:Nat
 P:VP
 P0:VP
abbrev Bd.k (t T m:Nat)(X:VP):Bd:=⟨t,none,none,T,m,X,VT⟩
def Bd.stab (BT:List (TypeId×Nat×Nat))(b:Bd):Prop:=Stab BT b.P/\Stab BT b.P0
def onb (listed:Array Bool):Option Nat->Bool
 |none=>true
 |some i=>listed.getD i false
def Bd.ok (n0:Nat)(listed:Array Bool)(a:Act)(w:World)(b:Bd):Prop:=
 onb listed b.ia=true->∃g cs,a.tmps[b.t]? =some (.pointer (some ⟨g,0,none⟩))/\n0<=g/\w.heap[g]? =some (.cells cs b.T (0,0))/\cs.size=b.m/\NoInt cs/\(onb listed b.ik=true->b.P (.agg cs) w)/\(b.ia=none->onb listed b.ik=false->b.P0 (.agg cs) w)
structure KS (n0:Nat)(w0:World)(B:List Bd)(listed:Array Bool)(a:Act)(w:World):Prop where
 below:Below n0 w0 w
 ok:∀b∈B,b.ok n0 listed a w
 ne:∀b∈B,∀c∈B,b.t≠c.t->onb listed b.ia=true->onb listed c.ia=true->a.tmps[b.t]? ≠a.tmps[c.t]?
 fa:∀b∈B,b.ik≠none->onb listed b.ik=true->onb listed b.ia=true
theorem onb_set {listed:Array Bool}{i:Nat}{x:Option Nat}(h:x≠some i):onb (listed.setIfInBounds i true) x=onb listed x:=by
 cases x with
 |none=>rfl
 |some j=>
  have hij:i≠j:=fun e=>h (by rw [e])
  simp only [onb,Array.getD_eq_getD_getElem?,Array.getElem?_setIfInBounds_ne hij]
def quietB (B:List Bd)(i:Nat)(dst:Option Nat):Bool:=B.all fun b=>b.ia !=some i && b.ik !=some i && dst !=some b.t
theorem quietB_get {B:List Bd}{i:Nat}{dst:Option Nat}(h:quietB B i dst=true){b:Bd}(hb:b∈B):b.ia≠some i/\b.ik≠some i/\dst≠some b.t:=by
 unfold quietB at h;rw [List.all_eq_true] at h;have:=h b hb;simp only [Bool.and_eq_true,bne_iff_ne,ne_eq] at this;exact⟨this.1.1,this.1.2,this.2⟩
section
variable {n0:Nat}{w0:World}{B:List Bd}{listed:Array Bool}{a:Act}{w w':World}{i:Nat}{dst:Option Nat}{v:Value}
theorem KS.quiet (h:KS n0 w0 B listed a w)(hq:quietB B i dst=true)(hP:∀b∈B,b.stab BT)(hn:n0<=w.heap.size)(hb:Below w.heap.size w w'):KS n0 w0 B (listed.setIfInBounds i true) (a.put dst v) w':=by
 refine⟨h.below.trans (hb.mono hn),fun b hB hon=>?_,fun b hB c hC hne h1 h2=>?_,fun b hB hn1 hk=>by
  obtain⟨q1,q2,-⟩:=quietB_get hq hB;rw [onb_set q2] at hk;rw [onb_set q1]
  exact h.fa b hB hn1 hk⟩
 ·obtain⟨q1,q2,q3⟩:=quietB_get hq hB;rw [onb_set q1] at hon;obtain⟨g,cs,e1,e2,e3,e4,e5,e6,e7⟩:=h.ok b hB hon;refine⟨g,cs,by rw [put_get_ne q3];exact e1,e2,(hb.block _ (lt_blk e3)).trans e3,e4,e5,fun hk=>?_,fun h0 hk=>?_⟩
  ·rw [onb_set q2] at hk;exact(hP b hB).1 _ _ _ (e6 hk) (RI.of_below hb)
  ·rw [onb_set q2] at hk;exact(hP b hB).2 _ _ _ (e7 h0 hk) (RI.of_below hb)
 ·obtain⟨q1,q2,q3⟩:=quietB_get hq hB;obtain⟨r1,r2,r3⟩:=quietB_get hq hC;rw [onb_set q1] at h1;rw [onb_set r1] at h2;rw [put_get_ne q3,put_get_ne r3];exact h.ne b hB c hC hne h1 h2
theorem KS.alloc {B1 B2:List Bd}{b:Bd}(h:KS n0 w0 B listed a w)(hB:B=B1++b::B2)(hq:quietB (B1++B2) i (some b.t)=true)(hia:b.ia=some i)(hi:i<listed.size)(ht:b.t<a.tmps.size)(hP:∀c∈B,c.stab BT)(hn:n0<=w.heap.size)(z:Array Value)(hz:z.size=b.m)(hni:NoInt z)
 (hc:onb (listed.setIfInBounds i true) b.ik=true->b.P (.agg z) w):KS n0 w0 B (listed.setIfInBounds i true) (a.put (some b.t) (.pointer (some ⟨w.heap.size,0,none⟩))) (w.alloc (.cells z b.T)):=by
 have hb:Below w.heap.size w (w.alloc (.cells z b.T)):=below_new _ _
 have hmem:∀c∈B,c=b∨c∈B1++B2:=by
  intro c hc;rw [hB] at hc;simp only [List.mem_append,List.mem_cons] at hc ⊢;rcases hc with h1|h1|h1
  ·exact .inr (.inl h1)
  ·exact .inl h1
  ·exact .inr (.inr h1)
 have hlt:∀c∈B,onb listed c.ia=true->∃g,a.tmps[c.t]? =some (.pointer (some ⟨g,0,none⟩))/\g<w.heap.size:=fun c hcB hon=>by
  obtain⟨g,cs,e1,e2,e3,-⟩:=h.ok c hcB hon;exact⟨g,e1,lt_blk e3⟩
 refine⟨h.below.trans (hb.mono hn),fun c hC hon=>?_,fun c hC d hD hne h1 h2=>?_,fun c hC hn1 hk=>by
  rcases hmem c hC with rfl|hc'
  ·rw [hia];simp only [onb,getD_set _ _ _ hi,if_true]
  ·obtain⟨q1,q2,-⟩:=quietB_get hq hc';rw [onb_set q2] at hk;rw [onb_set q1]
   exact h.fa c hC hn1 hk⟩
 ·rcases hmem c hC with rfl|hc'
  ·refine⟨w.heap.size,z,put_get_self ht,hn,heap_alloc_new _ _,hz,hni,fun hk=>?_,fun h0=>?_⟩
   ·exact(hP c hC).1 _ _ _ (hc hk) (RI.of_below hb)
   ·rw [hia] at h0;cases h0
  ·obtain⟨q1,q2,q3⟩:=quietB_get hq hc';rw [onb_set q1] at hon;obtain⟨g,cs,e1,e2,e3,e4,e5,e6,e7⟩:=h.ok c hC hon;refine⟨g,cs,by rw [put_get_ne q3];exact e1,e2,(hb.block _ (lt_blk e3)).trans e3,e4,e5,fun hk=>?_,fun h0 hk=>?_⟩
   ·rw [onb_set q2] at hk;exact(hP c hC).1 _ _ _ (e6 hk) (RI.of_below hb)
   ·rw [onb_set q2] at hk;exact(hP c hC).2 _ _ _ (e7 h0 hk) (RI.of_below hb)
 ·rcases hmem c hC with rfl|hc'
  ·rcases hmem d hD with rfl|hd'
   ·exact absurd rfl hne
   ·obtain⟨r1,r2,r3⟩:=quietB_get hq hd';rw [onb_set r1] at h2;obtain⟨g,e1,e2⟩:=hlt d hD h2;rw [put_get_self ht,put_get_ne r3,e1];intro e;simp at e
    try omega
  ·obtain⟨q1,q2,q3⟩:=quietB_get hq hc';rw [onb_set q1] at h1;rcases hmem d hD with rfl|hd'
   ·obtain⟨g,e1,e2⟩:=hlt c hC h1;rw [put_get_self ht,put_get_ne q3,e1];intro e;simp at e
    try omega
   ·obtain⟨r1,r2,r3⟩:=quietB_get hq hd';rw [onb_set r1] at h2;rw [put_get_ne q3,put_get_ne r3];exact h.ne c hC d hD hne h1 h2
def Mw (BT:List (TypeId×Nat×Nat))(T:TypeId)(m g:Nat):Prop:=(∃e∈BT,e.1=T/\e.2.1=m/\(e.2.2=0∨g<e.2.2))/\∀e∈BT,e.1=T->e.2.1=0->e.2.2≠g
theorem Mw_of {BT:List (TypeId×Nat×Nat)}{T:TypeId}{m g:Nat}(h1:BT.any (fun e=>e.1==T && e.2.1==m && e.2.2==0)=true)(h2:BT.all (fun e=>e.1 !=T||e.2.1 !=0)=true):Mw BT T m g:=by
 refine⟨?_,fun e he e1 e2=>?_⟩
 ·rw [List.any_eq_true] at h1;obtain⟨e,he,h1⟩:=h1;simp only [Bool.and_eq_true,beq_iff_eq] at h1;exact⟨e,he,h1.1.1,h1.1.2,.inl h1.2⟩
 ·rw [List.all_eq_true] at h2;have:=h2 e he;simp [e1,e2] at this
theorem RI_setRow {g:Nat}{old cs:Array Value}{T:TypeId}(hg:w.heap[g]? =some (.cells old T (0,0)))(hni:NoInt old)(hBT:Mw BT T old.size g):RI BT w (w.setRow g cs):=by
 refine⟨by simp [World.setRow],fun p x hc=>?_,fun h cs' T' hk hn=>setRow_other w g h cs (by
  rintro rfl
  rw [hg] at hk;cases hk;obtain⟨⟨e,he,e1,e2,e3⟩,hpr⟩:=hBT;rcases hn with hn|⟨-,e',he',q1,q2,q3⟩
  ·have:=hn e he e1 e2;omega
  ·exact hpr e' he' q1 q2 q3),fun _ k o hk ho=>(setRow_other w g k cs (by
  rintro rfl
  rw [hg] at hk;cases hk
  exact ho _ _ _ rfl)).trans hk⟩
 by_cases e:p.block=g
 ·exfalso;obtain⟨b,o,q⟩:=p;simp only at e;subst e;cases q with
  |none=>
   rw [World.cell?] at hc;simp [hg] at hc;exact hni _ _ hc
  |some q=>
   rw [World.cell?] at hc;simp [hg] at hc
 ·exact(World.cell?_of_block (setRow_other w g p.block cs e)).trans hc
theorem KS.store {B1 B2:List Bd}{b:Bd}(h:KS n0 w0 B listed a w)(hB:B=B1++b::B2)(hq:quietB (B1++B2) i none=true)(hon:onb listed b.ia=true)(hia:b.ia≠some i)(hik:b.ik=some i)(hi:i<listed.size)(hBT:∀g,a.tmps[b.t]? =some (.pointer (some ⟨g,0,none⟩))->Mw BT b.T b.m g)(hP:∀c∈B,c.stab BT)(cs:Array Value)(hz:cs.size=b.m)(hni:NoInt cs)(hc:b.P (.agg cs) w)
 (hts:∀c∈B1++B2,c.t≠b.t):
 ∃g old,a.tmps[b.t]? =some (.pointer (some ⟨g,0,none⟩))/\w.heap[g]? =some (.cells old b.T (0,0))/\old.size=cs.size/\RI BT w (w.setRow g cs)/\KS n0 w0 B (listed.setIfInBounds i true) (a.put none v) (w.setRow g cs):=by
 have hbm:b∈B:=by rw [hB];simp
 obtain⟨g,old,e1,e2,e3,e4,e5,-⟩:=h.ok b hbm hon;have hr:=RI_setRow (BT:=BT) (cs:=cs) e3 e5 (by rw [e4];exact hBT g e1)
 have hmem:∀c∈B,c=b∨c∈B1++B2:=by
  intro c hc;rw [hB] at hc;simp only [List.mem_append,List.mem_cons] at hc ⊢;rcases hc with h1|h1|h1
  ·exact .inr (.inl h1)
  ·exact .inl h1
  ·exact .inr (.inr h1)
 refine⟨g,old,e1,e3,by omega,hr,⟨?_,fun c hC hon'=>?_,fun c hC d hD hne h1 h2=>?_,fun c hC hn1 hk=>by
  rcases hmem c hC with rfl|hc'
  ·rw [onb_set hia];exact hon
  ·obtain⟨q1,q2,-⟩:=quietB_get hq hc';rw [onb_set q2] at hk;rw [onb_set q1]
   exact h.fa c hC hn1 hk⟩⟩
 ·exact⟨h.below.os,h.below.tape,h.below.output,Nat.le_trans h.below.size hr.size,fun k hk=>(setRow_other w g k cs (by omega)).trans (h.below.block k hk)⟩
 ·rcases hmem c hC with rfl|hc'
  ·exact⟨g,cs,e1,e2,setRow_heap w g old cs _ _ e3,hz,hni,fun _=>(hP c hC).1 _ _ _ hc hr,fun _ hk=>by
    rw [hik] at hk;simp only [onb,getD_set _ _ _ hi,if_true] at hk;cases hk⟩
  ·obtain⟨q1,q2,q3⟩:=quietB_get hq hc';rw [onb_set q1] at hon';obtain⟨g',cs',f1,f2,f3,f4,f5,f6,f7⟩:=h.ok c hC hon'
   have hgg:g'≠g:=by
    intro e;subst e;exact h.ne c hC b hbm (hts c hc') hon' hon (by rw [f1,e1])
   refine⟨g',cs',f1,f2,(setRow_other w g g' cs hgg).trans f3,f4,f5,fun hk=>?_,fun h0 hk=>?_⟩
   ·rw [onb_set q2] at hk;exact(hP c hC).1 _ _ _ (f6 hk) hr
   ·rw [onb_set q2] at hk;exact(hP c hC).2 _ _ _ (f7 h0 hk) hr
 ·have hx:∀x∈B,onb (listed.setIfInBounds i true) x.ia=onb listed x.ia:=fun x hX=>by
   rcases hmem x hX with rfl|hx'
   ·exact onb_set hia
   ·exact onb_set (quietB_get hq hx').1
  rw [hx c hC] at h1;rw [hx d hD] at h2;exact h.ne c hC d hD hne h1 h2
end
end
section
variable {P:Program}{md:Region.Mode}{ops:Array Oper}{Q:Exit->Act->World->Prop}{a0:Act}{V:Nat->VP}{n0:Nat}{w0:World}{B:List Bd}{SL:List (Nat×VP)}{BT:List (TypeId×Nat×Nat)}
structure KI (md:Region.Mode)(ops:Array Oper)(a0:Act)(V:Nat->VP)(n0:Nat)(w0:World)(B:List Bd)(SL:List (Nat×VP))(listed:Array Bool)(a:Act)(w:World):Prop where
 k:KS n0 w0 B listed a w
 n:n0<=w.heap.size
 len:listed.size=ops.size
 defers:a.defers=a0.defers
 size:a.tmps.size=a0.tmps.size
 same:∀t,(∀(i:Nat) (o:Oper),ops[i]? =some o->o.dst=some t->listed.getD i false=false)->a.tmps[t]? =a0.tmps[t]?
 own:∀(i:Nat) (o:Oper) (d:Tmp),ops[i]? =some o->listed.getD i false=true->o.dst=some d->∃v,a.tmps[d]? =some v/\V i v w
 sl:∀p∈SL,∃v,a0.tmps[p.1]? =some v/\p.2 v w
 closed:∀(k:Nat) (o:Oper),ops[k]? =some o->listed.getD k false=true->∀e∈o.after,Region.binds md e=true->listed.getD e.on false=true
theorem KI.other {listed:Array Bool}{a:Act}{w:World}(h:KI md ops a0 V n0 w0 B SL listed a w)(t:Nat)(ht:∀(i:Nat) (o:Oper),ops[i]? =some o->o.dst≠some t):a.tmps[t]? =a0.tmps[t]? :=h.same t fun i o ho D=>absurd D (ht i o ho)
def kFore (md:Region.Mode)(ops:Array Oper):Bool:=(List.range ops.size).all fun i=>((ops[i]?).map fun o=>o.after.all fun e=> !Region.binds md e||decide (e.on<i)).getD true
theorem kFore_spec (h:kFore md ops=true){i:Nat}{o:Oper}(ho:ops[i]? =some o):∀e∈o.after,Region.binds md e=true->e.on<i:=by
 intro e he hb
 have hi:i<ops.size:=by
  rcases Nat.lt_or_ge i ops.size with h'|h'
  ·exact h'
  ·rw [Array.getElem?_eq_none h'] at ho;cases ho
 unfold kFore at h;rw [List.all_eq_true] at h;have h1:=h i (by simpa using hi);rw [ho] at h1;simp only [Option.map_some,Option.getD_some,Array.all_eq_true'] at h1;have h2:=h1 e he;rw [hb] at h2;exact of_decide_eq_true (by simpa using h2)
theorem kready_none (hfore:kFore md ops=true){listed:Array Bool}(hl:listed.size=ops.size)(h:Region.ready md ops listed= []):∀i,i<ops.size->listed.getD i false=true:=by
 intro i
 induction i using Nat.strongRecOn with
 |_ i ih=>
  intro hi;cases hlt:listed.getD i false with
  |true=>rfl
  |false=>
   exfalso;obtain⟨o,ho⟩:∃o,ops[i]? =some o:=⟨ops[i],by simp [hi]⟩
   have hm:i∈Region.ready md ops listed:=mem_ready.2 ⟨by
    have h':i<listed.size:=by omega
    simpa [Array.getD,h'] using hlt,o,ho,fun e he hb=>ih e.on (kFore_spec hfore ho e he hb) (by have:=kFore_spec hfore ho e he hb;omega)⟩
   rw [h] at hm;cases hm
def KStep (BT:List (TypeId×Nat×Nat))(P:Program)(md:Region.Mode)(ops:Array Oper)(Q:Exit->Act->World->Prop)(a0:Act)(V:Nat->VP)(n0:Nat)(w0:World)(B:List Bd)(SL:List (Nat×VP))(i:Nat)(o:Oper):Prop:=
 ∀listed a w,KI md ops a0 V n0 w0 B SL listed a w->(∀e∈o.after,Region.binds md e=true->listed.getD e.on false=true)->o.dst.all (fun d=>decide (d<a0.tmps.size))=true->i<listed.size->listed.getD i false=false->
  ∀K:Act->World->Prop,(∀v w',KS n0 w0 B (listed.setIfInBounds i true) (a.put o.dst v) w'->RI BT w w'->V i v w'->K (a.put o.dst v) w')->(if Region.wanted o (yielded ops a.tmps)then o.wp P a w K Q else K (a.put o.dst undef) w)
theorem KI.step {listed:Array Bool}{a:Act}{w w':World}{i:Nat}{o:Oper}{v:Value}(hown:flowOwn ops=true)(hin:∀(i:Nat) (o:Oper) (d:Tmp),ops[i]? =some o->o.dst=some d->d<a0.tmps.size)
 (hV:∀i,Stab BT (V i)) (hSL:∀p∈SL,Stab BT p.2) (h:KI md ops a0 V n0 w0 B SL listed a w) (ho:ops[i]? =some o) (D:∀e∈o.after,Region.binds md e=true->listed.getD e.on false=true) (hk:KS n0 w0 B (listed.setIfInBounds i true) (a.put o.dst v) w') (hR:RI BT w w') (hv:V i v w'):KI md ops a0 V n0 w0 B SL (listed.setIfInBounds i true) (a.put o.dst v) w':=by
 have hi:i<listed.size:=by
  rw [h.len];rcases Nat.lt_or_ge i ops.size with h'|h'
  ·exact h'
  ·rw [Array.getElem?_eq_none h'] at ho;cases ho
 refine⟨hk,Nat.le_trans h.n hR.size,by simpa using h.len,by rw [put_defers',h.defers],by rw [put_size,h.size],fun t ht=>by
  have hne:o.dst≠some t:=fun e=>by
   have:=ht i o ho e;rw [getD_set _ _ _ hi,if_pos rfl] at this;cases this
  rw [put_get_ne hne];refine h.same t fun j u hu hd'=>?_
  have h2:=ht j u hu hd';rw [getD_set _ _ _ hi] at h2;split at h2
  ·cases h2
  ·exact h2,fun j u d hu hl D=>?_,fun p hp=>?_,fun k u hu hl e he hb=>?_⟩
 ·by_cases hij:j=i
  ·subst hij;rw [ho] at hu;cases hu;rw [D];exact⟨v,put_get_self (by rw [h.size];exact hin _ _ _ ho D),hv⟩
  ·rw [getD_set _ _ _ hi,if_neg (fun e=>hij e.symm)] at hl;obtain⟨x,hx,hVj⟩:=h.own j u d hu hl D;exact⟨x,by rw [put_get_ne (flowOwn_ne hown hu ho D (fun e=>hij e.symm))];exact hx,hV _ _ _ _ hVj hR⟩
 ·obtain⟨x,hx,hp2⟩:=h.sl p hp;exact⟨x,hx,hSL p hp _ _ _ hp2 hR⟩
 ·rw [getD_set _ _ _ hi];split
  ·rfl
  ·by_cases hij:k=i
   ·subst hij;rw [ho] at hu;cases hu;exact D e he hb
   ·rw [getD_set _ _ _ hi,if_neg (fun e=>hij e.symm)] at hl;exact h.closed k u hu hl e he hb
theorem dst_ok (hin:∀(i:Nat) (o:Oper) (d:Tmp),ops[i]? =some o->o.dst=some d->d<a0.tmps.size){i:Nat}{o:Oper}(ho:ops[i]? =some o):o.dst.all (fun d=>decide (d<a0.tmps.size))=true:=by
 cases D:o.dst with
 |none=>rfl
 |some d=>simpa using hin i o d ho D
theorem wpAny_k (hfore:kFore md ops=true)(hown:flowOwn ops=true)(hin:∀(i:Nat) (o:Oper) (d:Tmp),ops[i]? =some o->o.dst=some d->d<a0.tmps.size)(hV:∀i,Stab BT (V i))(hSL:∀p∈SL,Stab BT p.2)
 (hstep:∀(i:Nat) (o:Oper),ops[i]? =some o->KStep BT P md ops Q a0 V n0 w0 B SL i o)
 (hdone:∀(listed:Array Bool) (a:Act) (w:World),(∀i,i<ops.size->listed.getD i false=true)->KI md ops a0 V n0 w0 B SL listed a w->Q .normal a w):
 ∀(fuel:Nat) (listed:Array Bool) (a:Act) (w:World),KI md ops a0 V n0 w0 B SL listed a w->listed.toList.count false<=fuel->wpAny P md ops Q fuel listed a w:=by
 intro fuel
 induction fuel with
 |zero=>
  intro listed a w h hc;have hall:∀i,i<ops.size->listed.getD i false=true:=fun i hi=>count_zero listed (by omega) i (by rw [h.len];exact hi)
  refine⟨?_,hdone _ _ _ hall h⟩;cases hr:Region.ready md ops listed with
  |nil=>rfl
  |cons i l=>
   have hi:i∈Region.ready md ops listed:=by rw [hr];exact List.mem_cons_self
   obtain⟨h1,o,ho,_⟩:=mem_ready.1 hi
   have hlt:i<ops.size:=by
    rcases Nat.lt_or_ge i ops.size with h'|h'
    ·exact h'
    ·rw [Array.getElem?_eq_none h'] at ho;cases ho
   have h2:=hall i hlt;have h3:i<listed.size:=by rw [h.len];exact hlt
   simp [Array.getD,h3] at h1 h2;rw [h2] at h1;cases h1
 |succ fuel ih=>
  intro listed a w h hc;refine⟨fun hr=>hdone _ _ _ (kready_none hfore h.len hr) h,fun i hi=>?_⟩;obtain⟨h1,o,ho,hdep⟩:=mem_ready.1 hi
  have hlt:i<listed.size:=by
   rw [h.len];rcases Nat.lt_or_ge i ops.size with h'|h'
   ·exact h'
   ·rw [Array.getElem?_eq_none h'] at ho;cases ho
  have hcnt:=count_set listed i hlt h1;have:=hstep i o ho listed a w h hdep (dst_ok hin ho) hlt (by have h5:=h1;simp only [Array.getD,hlt,dif_pos] at h5 ⊢;exact h5) (wpAny P md ops Q fuel (listed.setIfInBounds i true)) fun v w' hS hR hv=>ih _ _ _ (h.step hown hin hV hSL ho hdep hS hR hv) (by omega)
  unfold wpOp;rw [ho];by_cases hw:Region.wanted o (yielded ops a.tmps)=true
  ·simp only [hw,if_true] at this ⊢;exact .inl this
  ·simp only [hw] at this ⊢;exact this
theorem wpList_k (hfore:kFore md ops=true)(hown:flowOwn ops=true)(hin:∀(i:Nat) (o:Oper) (d:Tmp),ops[i]? =some o->o.dst=some d->d<a0.tmps.size)(hV:∀i,Stab BT (V i))(hSL:∀p∈SL,Stab BT p.2)
 (hstep:∀(i:Nat) (o:Oper),ops[i]? =some o->KStep BT P md ops Q a0 V n0 w0 B SL i o)
 (hdone:∀(listed:Array Bool) (a:Act) (w:World),(∀i,i<ops.size->listed.getD i false=true)->KI md ops a0 V n0 w0 B SL listed a w->Q .normal a w):
 ∀(rest:List Oper) (k:Nat) (listed:Array Bool) (a:Act) (w:World),ops.toList.drop k=rest->(∀i,i<k->i<ops.size->listed.getD i false=true)->(∀i,k<=i->listed.getD i false=false)->KI md ops a0 V n0 w0 B SL listed a w->wpList P ops Q rest a w:=by
 intro rest
 induction rest with
 |nil=>
  intro k listed a w hk hl _ h
  have:ops.size<=k:=by
   have:=List.drop_eq_nil_iff.1 hk
   simpa using this
  exact hdone listed a w (fun i hi=>hl i (by omega) hi) h
 |cons o rest ih=>
  intro k listed a w hk hl hnl h
  have hlt:k<ops.toList.length:=by
   rcases Nat.lt_or_ge k ops.toList.length with h'|h'
   ·exact h'
   ·rw [List.drop_eq_nil_iff.2 h'] at hk;cases hk
  rw [List.drop_eq_getElem_cons hlt] at hk;have ho':ops.toList[k]=o:=(List.cons.inj hk).1
  have ho:ops[k]? =some o:=by
   have h1:k<ops.size:=by simpa using hlt
   rw [Array.getElem?_eq_getElem h1]
   simpa using ho'
  have hlk:k<listed.size:=by rw [h.len];simpa using hlt
  have hdep:∀e∈o.after,Region.binds md e=true->listed.getD e.on false=true:=fun e he hb=>by
   have h1:=kFore_spec hfore ho e he hb
   exact hl e.on h1 (by
    have:k<ops.size:=by simpa using hlt
    omega)
  have:=hstep k o ho listed a w h hdep (dst_ok hin ho) hlk (hnl k (Nat.le_refl _)) (wpList P ops Q rest) fun v w' hS hR hv=>ih (k+1) _ _ _ (List.cons.inj hk).2 (fun i hi hi'=>by
   rw [getD_set _ _ _ hlk];split
   ·rfl
   ·exact hl i (by omega) hi') (fun i hi=>by
   rw [getD_set _ _ _ hlk,if_neg (by omega)]
   exact hnl i (by omega)) (h.step hown hin hV hSL ho hdep hS hR hv)
  unfold wpList;by_cases hw:Region.wanted o (yielded ops a.tmps)=true
  ·simp only [hw,if_true] at this ⊢;exact .inl this
  ·simp only [hw] at this ⊢;exact this
theorem RI.drew (w:World):RI BT w {w with drawn:=w.drawn+1}:=⟨Nat.le_refl _,fun _ _ h=>h,fun _ _ _ _ _=>rfl,fun _ _ _ h _=>h⟩
theorem KS.drew {listed:Array Bool}{a:Act}{w:World}(h:KS n0 w0 B listed a w)(hP:∀b∈B,b.stab BT):KS n0 w0 B listed a {w with drawn:=w.drawn+1}:=
 ⟨⟨h.below.os,h.below.tape,h.below.output,h.below.size,h.below.block⟩,fun b hb hon=>by
  obtain⟨g,cs,e1,e2,e3,e4,e5,e6,e7⟩:=h.ok b hb hon
  exact⟨g,cs,e1,e2,e3,e4,e5,fun hk=>(hP b hb).1 _ _ _ (e6 hk) (RI.drew w),fun h0 hk=>(hP b hb).2 _ _ _ (e7 h0 hk) (RI.drew w)⟩,h.ne,h.fa⟩
def AllK (BT:List (TypeId×Nat×Nat))(P:Program)(md:Region.Mode)(ops:Array Oper)(Q:Exit->Act->World->Prop)(a0:Act)(V:Nat->VP)(n0:Nat)(w0:World)(B:List Bd)(SL:List (Nat×VP)):Nat->List Oper->Prop
 |_,[]=>True
 |i,o::l=>KStep BT P md ops Q a0 V n0 w0 B SL i o/\AllK BT P md ops Q a0 V n0 w0 B SL (i+1) l
theorem AllK.get:∀(l:List Oper) (i:Nat),AllK BT P md ops Q a0 V n0 w0 B SL i l->∀(j:Nat) (o:Oper),l[j]? =some o->KStep BT P md ops Q a0 V n0 w0 B SL (i+j) o
 | [],_,_,j,o,ho=>by simp at ho
 |x::l,i,h,0,o,ho=>by
  have:x=o:=by simpa using ho
  subst this;exact h.1
 |x::l,i,h,j+1,o,ho=>by
  have:=AllK.get l (i+1) h.2 j o (by simpa using ho);rw [show i+(j+1)=i+1+j by omega];exact this
theorem region_k {id:Nat}{l:List Oper}{ord:Bool}{w:World}(hm:P.follows .mixedOrders=true)(hfore:kFore .any l.toArray=true)(hown:flowOwn l.toArray=true)(hin:l.all (fun o=>match o.dst with|some d=>decide (d<a0.tmps.size)|none=>true)=true)
 (hBP:∀b∈B,b.stab BT) (hSL:∀p∈SL,Stab BT p.2) (hV:∀i,Stab BT (V i))
 (hst:KS n0 w0 B (Array.replicate l.length false) a0 w) (hn:n0<=w.heap.size) (hsl:∀p∈SL,∃v,a0.tmps[p.1]? =some v/\p.2 v w)
 (hstep:AllK BT P .any l.toArray Q a0 V n0 w0 B SL 0 l)
 (hdone:∀(listed:Array Bool) (a:Act) (w:World),(∀i,i<l.toArray.size->listed.getD i false=true)->KI .any l.toArray a0 V n0 w0 B SL listed a w->Q .normal a w):(Code.region id l.toArray ord).wp P Q a0 w:=by
 have hin':∀(i:Nat) (o:Oper) (d:Tmp),l.toArray[i]? =some o->o.dst=some d->d<a0.tmps.size:=fun i o d ho D=>by
  rw [List.all_eq_true] at hin;have ho':l[i]? =some o:=by simpa using ho
  have:=hin o (List.mem_of_getElem? ho');rw [D] at this;exact of_decide_eq_true this
 have hs':∀(i:Nat) (o:Oper),l.toArray[i]? =some o->KStep BT P .any l.toArray Q a0 V n0 w0 B SL i o:=fun i o ho=>by
  have:=AllK.get l 0 hstep i o (by simpa using ho);rw [Nat.zero_add] at this;exact this
 have hno:∀i,(Array.replicate l.length false).getD i false=true->False:=fun i hl=>by
  simp only [Array.getD_eq_getD_getElem?,Array.getElem?_replicate] at hl;split at hl<;>simp at hl
 cases ord with
 |true=>
  refine wp_region_any hm (wpAny_k hfore hown hin' hV hSL hs' hdone _ _ _ _ ⟨?_,hn,by simp,rfl,rfl,fun _ _=>rfl,fun i o d ho hl _=>(hno i hl).elim,fun p hp=>?_,fun k o _ hl=>(hno k hl).elim⟩ ?_)
  ·have:=hst.drew hBP
   simpa using this
  ·obtain⟨v,h1,h2⟩:=hsl p hp;exact⟨v,h1,hSL p hp _ _ _ h2 (RI.drew w)⟩
  ·simp
 |false=>
  refine wp_region_lit (wpList_k hfore hown hin' hV hSL hs' hdone l 0 (Array.replicate l.length false) a0 w (by simp) (fun i hi=>by omega) (fun i _=>by
   cases hl:(Array.replicate l.length false).getD i false with
   |false=>rfl
   |true=>exact(hno i hl).elim) ⟨hst,hn,by simp,rfl,rfl,fun _ _=>rfl,fun i o d ho hl _=>(hno i hl).elim,hsl,fun k o _ hl=>(hno k hl).elim⟩)
theorem KI.dep {listed:Array Bool}{a:Act}{w:World}{after:Array Edge}(h:KI md ops a0 V n0 w0 B SL listed a w)(D:∀e∈after,Region.binds md e=true->listed.getD e.on false=true)(j d:Nat)
 (hj:after.any (fun e=>e.on==j && Region.binds md e)=true) (hdst:(ops[j]?).bind (·.dst)=some d):∃v,a.eval (.tmp d)=v/\yielded ops a.tmps j=(match v with| .bool b=>some b|_=>none)/\V j v w:=by
 obtain⟨e,he,hb⟩:∃e,e∈after/\(e.on==j && Region.binds md e)=true:=by
  rw [Array.any_eq_true] at hj;obtain⟨i,hi,h1⟩:=hj;exact⟨after[i],Array.getElem_mem hi,h1⟩
 simp only [Bool.and_eq_true,beq_iff_eq] at hb;obtain⟨rfl,hb⟩:=hb;have hl:=D e he hb;cases ho:ops[e.on]? with
 |none=>rw [ho] at hdst;cases hdst
 |some o=>
  rw [ho] at hdst;have hdst':o.dst=some d:=hdst;obtain⟨v,hv,hV⟩:=h.own _ o d ho hl hdst';refine⟨v,by simp [Act.eval,hv,Array.getD_eq_getD_getElem?],?_,hV⟩;unfold yielded;rw [ho];simp only [Option.bind_some,hdst',hv];cases v<;>rfl
theorem KI.out {listed:Array Bool}{a:Act}{w:World}(h:KI md ops a0 V n0 w0 B SL listed a w)(p:Nat×VP)(hp:p∈SL)(ht:ops.all (fun o=>o.dst !=some p.1)=true):∃v,a.eval (.tmp p.1)=v/\p.2 v w:=by
 have:=h.other p.1 fun i o ho=>by
  rw [Array.all_eq_true'] at ht;have:=ht o (Array.mem_of_getElem? ho)
  simpa using this
 obtain⟨v,h1,h2⟩:=h.sl p hp;exact⟨v,by simp [Act.eval,Array.getD_eq_getD_getElem?,this,h1],h2⟩
end
section
variable {P:Program}{md:Region.Mode}{ops:Array Oper}{Q:Exit->Act->World->Prop}{a0:Act}{V:Nat->VP}{n0:Nat}{w0:World}{B:List Bd}{SL:List (Nat×VP)}{BT:List (TypeId×Nat×Nat)}
def aggT (d:TypeDesc):Bool:=match d with| .struct _| .array _ _=>true|_=>false
def Guards (ops:Array Oper)(guard:Option (Nat×Bool))(a:Act):Prop:=match guard with|none=>True|some (j,b)=>yielded ops a.tmps j=some b
theorem wanted_of {o:Oper}{a:Act}(h:Guards ops o.guard a):Region.wanted o (yielded ops a.tmps)=true:=by
 unfold Region.wanted;unfold Guards at h;cases hg:o.guard with
 |none=>rfl
 |some g=>obtain⟨j,b⟩:=g;rw [hg] at h;simp only [] at h ⊢;rw [h];simp
def Ask (md:Region.Mode)(ops:Array Oper)(a0:Act)(V:Nat->VP)(n0:Nat)(w0:World)(B:List Bd)(SL:List (Nat×VP))(o:Oper)(X:Array Bool->Act->World->Prop):Prop:=
 ∀listed a w,KI md ops a0 V n0 w0 B SL listed a w->(∀e∈o.after,Region.binds md e=true->listed.getD e.on false=true)->Guards ops o.guard a/\X listed a w
theorem k_call {i:Nat}{dst:Option Tmp}{f:FuncId}{xs:Array Operand}{ats:Array TypeId}{ty:TypeId}{pos:String}{after:Array Edge}{guard:Option (Nat×Bool)}(hBP:∀b∈B,b.stab BT)(hq:quietB B i dst=true)(hcall:∀args w,(callFunc f args).run P w= .ok (.enter f args) w)
 (H:Ask md ops a0 V n0 w0 B SL {dst,op:= .call {callee:= .value (.func f),args:=xs,argTypes:=ats},type:=ty,pos,after,guard} fun _ a w=>∃args,#[]++xs.map a.eval++ #[]=args/\Calls P f args w (RV (V i) w)):
 KStep BT P md ops Q a0 V n0 w0 B SL i {dst,op:= .call {callee:= .value (.func f),args:=xs,argTypes:=ats},type:=ty,pos,after,guard}:=by
 intro listed a w h D _ _ _ K hK;obtain⟨hg,args,hargs,hc⟩:=H listed a w h D;rw [if_pos (wanted_of hg)];unfold Oper.wp;have he:execOp a.eval {dst,op:= .call {callee:= .value (.func f),args:=xs,argTypes:=ats},type:=ty,pos,after,guard}=callFunc f (#[]++xs.map a.eval++ #[]):=rfl;rw [he,hargs,hcall];refine Calls.mono hc fun e w' hp=>?_
 obtain⟨v,rfl,h1,h2⟩:=hp;exact hK v w' (h.k.quiet hq hBP h.n h2) (RI.of_below h2) h1
theorem k_run {i:Nat}{o:Oper}(hBP:∀b∈B,b.stab BT)(hq:quietB B i o.dst=true)(H:Ask md ops a0 V n0 w0 B SL o fun _ a w=>∃v,(execOp a.eval o).run P w= .ok (.value v) w/\V i v w):KStep BT P md ops Q a0 V n0 w0 B SL i o:=by
 intro listed a w h D _ _ _ K hK;obtain⟨hg,v,hr,h1⟩:=H listed a w h D;rw [if_pos (wanted_of hg)];unfold Oper.wp;rw [hr];exact hK v w (h.k.quiet hq hBP h.n (Below.refl _ _)) (RI.refl w) h1
theorem k_enter {i:Nat}{o:Oper}(hBP:∀b∈B,b.stab BT)(hq:quietB B i o.dst=true)(H:Ask md ops a0 V n0 w0 B SL o fun _ a w=>∃f args,(execOp a.eval o).run P w= .ok (.enter f args) w/\Calls P f args w (RV (V i) w)):KStep BT P md ops Q a0 V n0 w0 B SL i o:=by
 intro listed a w h D _ _ _ K hK;obtain⟨hg,f,args,hr,hc⟩:=H listed a w h D;rw [if_pos (wanted_of hg)];unfold Oper.wp;rw [hr];refine Calls.mono hc fun e w' hp=>?_
 obtain⟨v,rfl,h1,h2⟩:=hp;exact hK v w' (h.k.quiet hq hBP h.n h2) (RI.of_below h2) h1
theorem k_mem {i:Nat}{o:Oper}(hBP:∀b∈B,b.stab BT)(hq:quietB B i o.dst=true)(H:Ask md ops a0 V n0 w0 B SL o fun _ a w=>∃v w',(execOp a.eval o).run P w= .ok (.value v) w'/\Below w.heap.size w w'/\V i v w'):KStep BT P md ops Q a0 V n0 w0 B SL i o:=by
 intro listed a w h D _ _ _ K hK;obtain⟨hg,v,w',hr,hb,h1⟩:=H listed a w h D;rw [if_pos (wanted_of hg)];unfold Oper.wp;rw [hr];exact hK v w' (h.k.quiet hq hBP h.n hb) (RI.of_below hb) h1
theorem k_load {i:Nat}{o:Oper}{b:Bd}{d:TypeDesc}(hBP:∀b∈B,b.stab BT)(hq:quietB B i o.dst=true)(hb:b∈B)(ho:o.op= .load b.T (.tmp b.t))(hon:b.ia=none)(hok:b.ik=none)(hV:V i=b.P)
 (hu:P.underlying b.T=some d) (hdd:aggT d=true) (hi:(P.info? b.T).map (·.size)=some b.m) (H:Ask md ops a0 V n0 w0 B SL o fun _ _ _=>True):KStep BT P md ops Q a0 V n0 w0 B SL i o:=by
 intro listed a w h D _ _ _ K hK;obtain⟨hg,-⟩:=H listed a w h D;rw [if_pos (wanted_of hg)];obtain⟨g,cs,e1,e2,e3,e4,e5,e6,-⟩:=h.k.ok b hb (by rw [hon];rfl);have hP:=e6 (by rw [hok];rfl);refine wp_load_row b.T (.tmp b.t) ho g (by simp [Act.eval,Array.getD_eq_getD_getElem?,e1]) b.T cs (0,0) d e3 hu (by revert hdd;cases d<;>intro hdd<;>first|rfl|cases hdd) (by rw [hi,e4]) ?_;exact hK _ w (h.k.quiet hq hBP h.n (Below.refl _ _)) (RI.refl w) (by rw [hV];exact hP)
theorem KI.not_yet {listed:Array Bool}{a:Act}{w:World}{i k:Nat}(h:KI md ops a0 V n0 w0 B SL listed a w)(hnl:listed.getD i false=false)(hk:(match ops[k]? with|some o=>o.after.any (fun e=>e.on==i && Region.binds md e)|none=>false)=true):listed.getD k false=false:=by
 cases hl:listed.getD k false with
 |false=>rfl
 |true=>
  cases ho:ops[k]? with
  |none=>rw [ho] at hk;cases hk
  |some o=>
   rw [ho] at hk
   obtain⟨e,he,hb⟩:∃e,e∈o.after/\(e.on==i && Region.binds md e)=true:=by
    simp only at hk;rw [Array.any_eq_true] at hk;obtain⟨j,hj,h1⟩:=hk;exact⟨o.after[j],Array.getElem_mem hj,h1⟩
   simp only [Bool.and_eq_true,beq_iff_eq] at hb;obtain⟨hb1,hb2⟩:=hb;have:=h.closed k o ho hl e he hb2;rw [hb1,hnl] at this;cases this
theorem KI.out0 {listed:Array Bool}{a:Act}{w:World}{i:Nat}(h:KI md ops a0 V n0 w0 B SL listed a w)(hnl:listed.getD i false=false)(p:Nat×VP)(hp:p∈SL)(k:Nat)(ht:(List.range ops.size).all (fun j=>j==k||(match ops[j]? with|some o=>o.dst !=some p.1|none=>true))=true)
 (hk:k=i∨(match ops[k]? with|some o=>o.after.any (fun e=>e.on==i && Region.binds md e)|none=>false)=true):∃v,a.eval (.tmp p.1)=v/\p.2 v w:=by
 have hkl:listed.getD k false=false:=by
  rcases hk with rfl|hk
  ·exact hnl
  ·exact h.not_yet hnl hk
 have:=h.same p.1 fun j o ho D=>by
  rw [List.all_eq_true] at ht
  have hj:j<ops.size:=by
   rcases Nat.lt_or_ge j ops.size with h'|h'
   ·exact h'
   ·rw [Array.getElem?_eq_none h'] at ho;cases ho
  have h1:=ht j (by simpa using hj);rw [ho] at h1;simp only [Bool.or_eq_true,beq_iff_eq,bne_iff_ne,ne_eq] at h1;rcases h1 with rfl|h1
  ·exact hkl
  ·exact absurd D h1
 obtain⟨v,h1,h2⟩:=h.sl p hp;exact⟨v,by simp [Act.eval,Array.getD_eq_getD_getElem?,this,h1],h2⟩
theorem k_run0 {i:Nat}{o:Oper}(hBP:∀b∈B,b.stab BT)(hq:quietB B i o.dst=true)(H:∀listed a w,KI md ops a0 V n0 w0 B SL listed a w->(∀e∈o.after,Region.binds md e=true->listed.getD e.on false=true)->listed.getD i false=false->Guards ops o.guard a/\∃v,(execOp a.eval o).run P w= .ok (.value v) w/\V i v w):KStep BT P md ops Q a0 V n0 w0 B SL i o:=by
 intro listed a w h D _ _ hnl K hK;obtain⟨hg,v,hr,h1⟩:=H listed a w h D hnl;rw [if_pos (wanted_of hg)];unfold Oper.wp;rw [hr];exact hK v w (h.k.quiet hq hBP h.n (Below.refl _ _)) (RI.refl w) h1
theorem k_load0 {i k:Nat}{o:Oper}{b:Bd}{d:TypeDesc}(hBP:∀b∈B,b.stab BT)(hq:quietB B i o.dst=true)(hb:b∈B)(ho:o.op= .load b.T (.tmp b.t))(hon:b.ia=none)(hok:b.ik=some k)(hV:V i=b.P0)
 (hk:(match ops[k]? with|some o=>o.after.any (fun e=>e.on==i && Region.binds md e)|none=>false)=true)
 (hu:P.underlying b.T=some d) (hdd:aggT d=true) (hi:(P.info? b.T).map (·.size)=some b.m) (H:Ask md ops a0 V n0 w0 B SL o fun _ _ _=>True):KStep BT P md ops Q a0 V n0 w0 B SL i o:=by
 intro listed a w h D _ _ hnl K hK;obtain⟨hg,-⟩:=H listed a w h D;rw [if_pos (wanted_of hg)];obtain⟨g,cs,e1,e2,e3,e4,e5,-,e7⟩:=h.k.ok b hb (by rw [hon];rfl);have hP:=e7 hon (by rw [hok];exact h.not_yet hnl hk);refine wp_load_row b.T (.tmp b.t) ho g (by simp [Act.eval,Array.getD_eq_getD_getElem?,e1]) b.T cs (0,0) d e3 hu (by revert hdd;cases d<;>intro hdd<;>first|rfl|cases hdd) (by rw [hi,e4]) ?_;exact hK _ w (h.k.quiet hq hBP h.n (Below.refl _ _)) (RI.refl w) (by rw [hV];exact hP)
def Vpt (a0:Act)(t off:Nat):VP:=fun v _=>∃g,a0.tmps[t]? =some (.pointer (some ⟨g,0,none⟩))/\v= .pointer (some ⟨g,off,none⟩)
theorem Stab_Vpt (a0:Act)(t off:Nat):Stab BT (Vpt a0 t off):=fun _ _ _ h _=>h
theorem run_loadCells_at (w:World)(g off:Nat)(T:TypeId)(cs:Array Value)(fr:Nat×Nat)(hg:w.heap[g]? =some (.cells cs T fr))(k:Nat):∀j v,(cs.extract off (off+k)).toList[j]? =some v->w.cell? ((⟨g,off,none⟩:Addr).add j)=some v:=by
 intro j v hj;have hj':(cs.extract off (off+k))[j]? =some v:=by rw [<-hj,Array.getElem?_toList]
 rw [Array.getElem?_extract] at hj';split at hj'
 ·have:(⟨g,off,none⟩:Addr).add j=⟨g,off+j,none⟩:=by unfold Addr.add;split<;>simp_all
  rw [this];simp [World.cell?,hg,hj']
 ·cases hj'
theorem run_loadVar_part (w:World)(g off k:Nat)(t ty:TypeId)(cs:Array Value)(fr:Nat×Nat)(d:TypeDesc)(hg:w.heap[g]? =some (.cells cs t fr))(hk:off+k<=cs.size)
 (hu:P.underlying ty=some d) (D:aggT d=true) (hi:(P.info? ty).map (·.size)=some k):
 (loadVar ty ⟨g,off,none⟩).run P w= .ok (.agg (cs.extract off (off+k))) w:=by
 have hl:(loadCells ⟨g,off,none⟩ k).run P w= .ok (cs.extract off (off+k)) w:=by
  have:=run_loadCells_list (P:=P) w ⟨g,off,none⟩ (cs.extract off (off+k)).toList (run_loadCells_at w g off t cs fr hg k);have e:(cs.extract off (off+k)).toList.length=k:=by simp;omega
  rw [e,Array.toArray_toList] at this;exact this
 cases hq:P.info? ty with
 |none=>simp [hq] at hi
 |some i=>
  have hs:i.size=k:=by simpa [hq] using hi
  have hagg:(isAgg ty).run P w= .ok true w:=by
   unfold isAgg;rw [Sem.run_bind,run_underlying hu w];cases d<;>simp_all [aggT]
  simp [loadVar,Sem.run_bind,hagg,sizeOf,typeInfo,hq,hs,hl]
theorem k_part {i:Nat}{o:Oper}{b:Bd}{d:TypeDesc}{T:TypeId}{s j off k:Nat}(hBP:∀b∈B,b.stab BT)(hq:quietB B i o.dst=true)(hb:b∈B)(ho:o.op= .load T (.tmp s))(hon:b.ia=none)(hok:b.ik=none)(hj:o.after.any (fun e=>e.on==j && Region.binds md e)=true)(hdst:(ops[j]?).bind (·.dst)=some s)(hVj:V j=Vpt a0 b.t off)
 (hbt:ops.all (fun o=>o.dst !=some b.t)=true) (hk:off+k<=b.m) (hV:∀cs w,b.P (.agg cs) w->V i (.agg (cs.extract off (off+k))) w)
 (hu:P.underlying T=some d) (hdd:aggT d=true) (hi:(P.info? T).map (·.size)=some k) (H:Ask md ops a0 V n0 w0 B SL o fun _ _ _=>True):KStep BT P md ops Q a0 V n0 w0 B SL i o:=by
 intro listed a w h D _ _ _ K hK;obtain⟨hg,-⟩:=H listed a w h D;rw [if_pos (wanted_of hg)];obtain⟨g,cs,e1,e2,e3,e4,e5,e6,-⟩:=h.k.ok b hb (by rw [hon];rfl);have hP:=e6 (by rw [hok];rfl);obtain⟨v,hv,-,hVv⟩:=h.dep D j s hj hdst;rw [hVj] at hVv;obtain⟨g',f1,rfl⟩:=hVv
 have ho1:=h.other b.t fun i o ho=>by
  rw [Array.all_eq_true'] at hbt;have:=hbt o (Array.mem_of_getElem? ho)
  simpa using this
 rw [e1,f1] at ho1;simp at ho1;subst ho1;unfold Oper.wp execOp;simp only [ho,hv,Instr.loadAt,Instr.sureAddr,Sem.run_bind,Sem.run_pure,Result.andThen_ok,run_loadVar_part w g off k b.T T cs (0,0) d e3 (by omega) hu hdd hi];exact hK _ w (h.k.quiet hq hBP h.n (Below.refl _ _)) (RI.refl w) (hV _ _ hP)
theorem k_cell {i:Nat}{o:Oper}{b:Bd}{d:TypeDesc}{T:TypeId}{s j off:Nat}(hBP:∀b∈B,b.stab BT)(hq:quietB B i o.dst=true)(hb:b∈B)(ho:o.op= .load T (.tmp s))(hon:b.ia=none)(hok:b.ik=none)(hj:o.after.any (fun e=>e.on==j && Region.binds md e)=true)(hdst:(ops[j]?).bind (·.dst)=some s)(hVj:V j=Vpt a0 b.t off)
 (hbt:ops.all (fun o=>o.dst !=some b.t)=true) (hV:∀cs w,b.P (.agg cs) w->∃v,cs[off]? =some v/\V i v w)
 (hu:P.underlying T=some d) (hdd:aggT d=false) (H:Ask md ops a0 V n0 w0 B SL o fun _ _ _=>True):KStep BT P md ops Q a0 V n0 w0 B SL i o:=by
 intro listed a w h D _ _ _ K hK;obtain⟨hg,-⟩:=H listed a w h D;rw [if_pos (wanted_of hg)];obtain⟨g,cs,e1,e2,e3,e4,e5,e6,-⟩:=h.k.ok b hb (by rw [hon];rfl);have hP:=e6 (by rw [hok];rfl);obtain⟨v,hv,-,hVv⟩:=h.dep D j s hj hdst;rw [hVj] at hVv;obtain⟨g',f1,rfl⟩:=hVv
 have ho1:=h.other b.t fun i o ho=>by
  rw [Array.all_eq_true'] at hbt;have:=hbt o (Array.mem_of_getElem? ho)
  simpa using this
 rw [e1,f1] at ho1;simp at ho1;subst ho1;obtain⟨x,hx,hVx⟩:=hV _ _ hP;have hc:w.cell? ⟨g,off,none⟩=some x:=by simp [World.cell?,e3,hx]
 have hagg:(isAgg T).run P w= .ok false w:=by
  unfold isAgg;rw [Sem.run_bind,run_underlying hu w];cases d<;>simp_all [aggT]
 unfold Oper.wp execOp;simp only [ho,hv,Instr.loadAt,Instr.sureAddr,Sem.run_bind,Sem.run_pure,Result.andThen_ok,loadVar,hagg];simp only [Bool.false_eq_true,if_false,run_load,hc,Result.andThen_ok];exact hK _ w (h.k.quiet hq hBP h.n (Below.refl _ _)) (RI.refl w) hVx
theorem k_cell0 {i:Nat}{o:Oper}{b:Bd}{d:TypeDesc}{T:TypeId}{s j off kk:Nat}(hBP:∀b∈B,b.stab BT)(hq:quietB B i o.dst=true)(hb:b∈B)(ho:o.op= .load T (.tmp s))(hon:b.ia=none)(hok:b.ik=some kk)(hkk:(match ops[kk]? with|some o=>o.after.any (fun e=>e.on==i && Region.binds md e)|none=>false)=true)(hj:o.after.any (fun e=>e.on==j && Region.binds md e)=true)(hdst:(ops[j]?).bind (·.dst)=some s)(hVj:V j=Vpt a0 b.t off)
 (hbt:ops.all (fun o=>o.dst !=some b.t)=true) (hV:∀cs w,b.P0 (.agg cs) w->∃v,cs[off]? =some v/\V i v w)
 (hu:P.underlying T=some d) (hdd:aggT d=false) (H:Ask md ops a0 V n0 w0 B SL o fun _ _ _=>True):KStep BT P md ops Q a0 V n0 w0 B SL i o:=by
 intro listed a w h D _ _ hnl K hK;obtain⟨hg,-⟩:=H listed a w h D;rw [if_pos (wanted_of hg)];obtain⟨g,cs,e1,e2,e3,e4,e5,-,e7⟩:=h.k.ok b hb (by rw [hon];rfl);have hP:=e7 hon (by rw [hok];exact h.not_yet hnl hkk);obtain⟨v,hv,-,hVv⟩:=h.dep D j s hj hdst;rw [hVj] at hVv;obtain⟨g',f1,rfl⟩:=hVv
 have ho1:=h.other b.t fun i o ho=>by
  rw [Array.all_eq_true'] at hbt;have:=hbt o (Array.mem_of_getElem? ho)
  simpa using this
 rw [e1,f1] at ho1;simp at ho1;subst ho1;obtain⟨x,hx,hVx⟩:=hV _ _ hP;have hc:w.cell? ⟨g,off,none⟩=some x:=by simp [World.cell?,e3,hx]
 have hagg:(isAgg T).run P w= .ok false w:=by
  unfold isAgg;rw [Sem.run_bind,run_underlying hu w];cases d<;>simp_all [aggT]
 unfold Oper.wp execOp;simp only [ho,hv,Instr.loadAt,Instr.sureAddr,Sem.run_bind,Sem.run_pure,Result.andThen_ok,loadVar,hagg];simp only [Bool.false_eq_true,if_false,run_load,hc,Result.andThen_ok];exact hK _ w (h.k.quiet hq hBP h.n (Below.refl _ _)) (RI.refl w) hVx
theorem k_field {i:Nat}{o:Oper}{b:Bd}{T:TypeId}{f off:Nat}(hBP:∀b∈B,b.stab BT)(hq:quietB B i o.dst=true)(hb:b∈B)(ho:o.op= .fieldAddr T (.tmp b.t) f)(hon:b.ia=none)(hbt:ops.all (fun o=>o.dst !=some b.t)=true)(hV:V i=Vpt a0 b.t off)
 (hrun:∀g W,(Instr.fieldAt T (.pointer (some ⟨g,0,none⟩)) f).run P W= .ok (.pointer (some ⟨g,off,none⟩)) W) (H:Ask md ops a0 V n0 w0 B SL o fun _ _ _=>True):KStep BT P md ops Q a0 V n0 w0 B SL i o:=by
 refine k_run hBP hq fun listed a w h D=>⟨(H listed a w h D).1,?_⟩
 obtain⟨g,cs,e1,-⟩:=h.k.ok b hb (by rw [hon];rfl)
 have ho1:=h.other b.t fun i o ho=>by
  rw [Array.all_eq_true'] at hbt;have:=hbt o (Array.mem_of_getElem? ho)
  simpa using this
 refine⟨.pointer (some ⟨g,off,none⟩),?_,by rw [hV];exact⟨g,by rw [<-ho1,e1],rfl⟩⟩;unfold execOp;have hx:a.eval (.tmp b.t)= .pointer (some ⟨g,0,none⟩):=by simp [Act.eval,Array.getD_eq_getD_getElem?,e1]
 simp only [ho,hx,Sem.run_bind,hrun,Sem.run_pure,Result.andThen_ok]
theorem k_field2 {i:Nat}{o:Oper}{t j s:Nat}{T:TypeId}{f off off':Nat}(hBP:∀b∈B,b.stab BT)(hq:quietB B i o.dst=true)(ho:o.op= .fieldAddr T (.tmp s) f)(hj:o.after.any (fun e=>e.on==j && Region.binds md e)=true)(hdst:(ops[j]?).bind (·.dst)=some s)(hVj:V j=Vpt a0 t off)(hV:V i=Vpt a0 t off')
 (hrun:∀g W,(Instr.fieldAt T (.pointer (some ⟨g,off,none⟩)) f).run P W= .ok (.pointer (some ⟨g,off',none⟩)) W) (H:Ask md ops a0 V n0 w0 B SL o fun _ _ _=>True):KStep BT P md ops Q a0 V n0 w0 B SL i o:=by
 refine k_run hBP hq fun listed a w h D=>⟨(H listed a w h D).1,?_⟩
 obtain⟨v,hv,-,hVv⟩:=h.dep D j s hj hdst;rw [hVj] at hVv;obtain⟨g,f1,rfl⟩:=hVv;refine⟨.pointer (some ⟨g,off',none⟩),?_,by rw [hV];exact⟨g,f1,rfl⟩⟩;unfold execOp;simp only [ho,hv,Sem.run_bind,hrun,Sem.run_pure,Result.andThen_ok]
theorem k_alloc {i:Nat}{o:Oper}{B1 B2:List Bd}{b:Bd}{z:Array Value}(hBP:∀b∈B,b.stab BT)(hB:B=B1++b::B2)(hq:quietB (B1++B2) i (some b.t)=true)(ho:o.op= .alloc b.T)(hds:o.dst=some b.t)(hia:b.ia=some i)(hz:∀W,(Instr.alloc b.T true (.tuple #[])).run P W= .ok (.pointer (some ⟨W.heap.size,0,none⟩)) (W.alloc (.cells z b.T)))(hzs:z.size=b.m)(hni:NoInt z)
 (hik:(b.ik=none/\∀v w,b.P v w)∨∃k,b.ik=some k/\k≠i) (hV:V i=VT) (H:Ask md ops a0 V n0 w0 B SL o fun _ _ _=>True):KStep BT P md ops Q a0 V n0 w0 B SL i o:=by
 intro listed a w h D hin hil hnl K hK;obtain⟨hg,-⟩:=H listed a w h D;rw [if_pos (wanted_of hg)]
 have ht:b.t<a.tmps.size:=by
  rw [hds] at hin;rw [h.size]
  simpa using hin
 have hks:=h.k.alloc hB hq hia hil ht hBP h.n z hzs hni (fun hk=>by
  rcases hik with⟨-,h1⟩|⟨k,h1,h2⟩
  ·exact h1 _ _
  ·exfalso;rw [onb_set (x:=b.ik) (by intro e;rw [h1] at e;cases e;exact h2 rfl)] at hk;have h3:=h.k.fa b (by rw [hB];simp) (by rw [h1];intro e;cases e) hk;rw [hia] at h3;simp only [onb] at h3
   rw [hnl] at h3;cases h3)
 unfold Oper.wp execOp;simp only [ho,Sem.run_bind,hz,Sem.run_pure,Result.andThen_ok];rw [<-hds] at hks;exact hK _ _ hks (RI.of_below (below_new _ _)) (by rw [hV];trivial)
theorem k_box {i:Nat}{o:Oper}{B1 B2:List Bd}{b:Bd}{x:Operand}(hBP:∀b∈B,b.stab BT)(hB:B=B1++b::B2)(hq:quietB (B1++B2) i (some b.t)=true)(ho:o.op= .box b.T x)(hds:o.dst=some b.t)(hia:b.ia=some i)(hV:V i=VT)
 (H:Ask md ops a0 V n0 w0 B SL o fun _ a w=>∃z,a.eval x= .agg z/\z.size=b.m/\NoInt z/\b.P (.agg z) w):KStep BT P md ops Q a0 V n0 w0 B SL i o:=by
 intro listed a w h D hin hil hnl K hK;obtain⟨hg,z,hx,hzs,hni,hP⟩:=H listed a w h D;rw [if_pos (wanted_of hg)]
 have ht:b.t<a.tmps.size:=by
  rw [hds] at hin;rw [h.size]
  simpa using hin
 have hks:=h.k.alloc hB hq hia hil ht hBP h.n z hzs hni (fun _=>hP);unfold Oper.wp execOp;simp only [ho,hx,Sem.run_bind,Instr.box,newVar,newRow,run_newObj_alloc,Sem.run_pure,Result.andThen_ok,Value.cells];rw [<-hds] at hks;exact hK _ _ hks (RI.of_below (below_new _ _)) (by rw [hV];trivial)
theorem k_store {i:Nat}{o:Oper}{B1 B2:List Bd}{b:Bd}{y:Operand}(hBP:∀b∈B,b.stab BT)(hB:B=B1++b::B2)(hq:quietB (B1++B2) i none=true)(hts:(B1++B2).all (fun c=>c.t !=b.t)=true)(ho:o.op= .store b.T (.tmp b.t) y)(hds:o.dst=none)(hia:(b.ia !=some i)=true)(hik:b.ik=some i)(hBT:BT.any (fun e=>e.1==b.T && e.2.1==b.m && e.2.2==0)=true)(hNP:BT.all (fun e=>e.1 !=b.T||e.2.1 !=0)=true)(hV:V i=VT)(hi:(P.info? b.T).map (·.size)=some b.m)
 (H:Ask md ops a0 V n0 w0 B SL o fun listed a w=>onb listed b.ia=true/\∃z,a.eval y= .agg z/\z.size=b.m/\NoInt z/\z.all (·.oneCell')=true/\b.P (.agg z) w):KStep BT P md ops Q a0 V n0 w0 B SL i o:=by
 intro listed a w h D _ hil _ K hK;obtain⟨hg,hon,z,hy,hzs,hni,h1,hP⟩:=H listed a w h D;rw [if_pos (wanted_of hg)]
 obtain⟨g,old,e1,e2,e3,hr,hks⟩:=h.k.store (v:=undef) hB hq hon (by simpa using hia) hik hil (fun g _=>Mw_of hBT hNP) hBP z hzs hni hP (fun c hc=>by
  rw [List.all_eq_true] at hts
  simpa using hts c hc)
 refine wp_store_row b.T (.tmp b.t) y ho g z (by simp [Act.eval,Array.getD_eq_getD_getElem?,e1]) hy b.T old e2 (by rw [hi,hzs]) e3 h1 ?_;rw [hds] at hK ⊢;exact hK _ _ hks hr (by rw [hV];trivial)
theorem k_skip {i:Nat}{o:Oper}(hBP:∀b∈B,b.stab BT)(hq:quietB B i o.dst=true)(H:∀listed a w,KI md ops a0 V n0 w0 B SL listed a w->(∀e∈o.after,Region.binds md e=true->listed.getD e.on false=true)->(∃j b c,o.guard=some (j,b)/\yielded ops a.tmps j=some c/\c≠b)/\V i undef w):KStep BT P md ops Q a0 V n0 w0 B SL i o:=by
 intro listed a w h D _ _ _ K hK;obtain⟨⟨j,b,c,hg,hy,hne⟩,h3⟩:=H listed a w h D
 have hw:Region.wanted o (yielded ops a.tmps)=false:=by
  unfold Region.wanted;rw [hg];simp only [];rw [hy];simpa using hne
 rw [hw];exact hK undef w (h.k.quiet hq hBP h.n (Below.refl _ _)) (RI.refl w) h3
def StabL (BT:List (TypeId×Nat×Nat)):List VP->Prop
 | []=>True
 |V::l=>Stab BT V/\StabL BT l
theorem StabL.get:∀{l:List VP},StabL BT l->∀j,Stab BT (l.getD j VT)
 | [],_,j=>by simpa using Stab_VT
 |V::l,h,0=>h.1
 |V::l,h,j+1=>by have:=StabL.get h.2 j;simpa using this
theorem stab_of {l:List VP}(h:StabL BT l):∀j,Stab BT ((fun i=>l.getD i VT) j):=fun j=>h.get j
structure St (n0:Nat)(w0:World)(N:Nat)(L:List Bd)(SL:List (Nat×VP))(a:Act)(w:World):Prop where
 k:KS n0 w0 L #[] a w
 n:n0<=w.heap.size
 size:a.tmps.size=N
 defers:a.defers= []
 sl:∀p∈SL,∃v,a.tmps[p.1]? =some v/\p.2 v w
def StartsFrom (L:List Bd):List Bd->Prop
 | []=>True
 |b::l=>((∃i,b.ia=some i)∨∃c,c∈L/\c.t=b.t/\c.T=b.T/\c.m=b.m/\b.ia=none/\c.ia=none/\((∃k,b.ik=some k/\c.ik=none/\c.P=b.P0)∨(c.ik=none/\c.P=b.P/\b.ik=none)))/\StartsFrom L l
theorem StartsFrom.get {L:List Bd}:∀{l:List Bd},StartsFrom L l->∀b∈l,(∃i,b.ia=some i)∨∃c,c∈L/\c.t=b.t/\c.T=b.T/\c.m=b.m/\b.ia=none/\c.ia=none/\((∃k,b.ik=some k/\c.ik=none/\c.P=b.P0)∨(c.ik=none/\c.P=b.P/\b.ik=none))
 |_::_,h,_,.head _=>h.1
 |_::_,h,b,.tail _ hb=>StartsFrom.get h.2 b hb
theorem onb_start {k i:Nat}:onb (Array.replicate k false) (some i)=false:=by
 simp only [onb,Array.getD_eq_getD_getElem?,Array.getElem?_replicate];split<;>rfl
theorem St.start {N:Nat}{L:List Bd}{a:Act}{w:World}(h:St n0 w0 N L SL a w)(hB:StartsFrom L B)(k:Nat):KS n0 w0 B (Array.replicate k false) a w:=by
 refine⟨h.k.below,fun b hb hon=>?_,fun b hb c hc hne h1 h2=>?_,fun b hb hn1 hk=>by
  cases hik:b.ik with
  |none=>exact absurd hik hn1
  |some i=>rw [hik,onb_start] at hk;cases hk⟩
 ·rcases hB.get b hb with⟨i,hi⟩|⟨c,hc,e1,e2,e3,e4,e5,e6⟩
  ·rw [hi,onb_start] at hon;cases hon
  ·obtain⟨g,cs,f1,f2,f3,f4,f5,f6,-⟩:=h.k.ok c hc (by rw [e5];rfl);refine⟨g,cs,by rw [<-e1];exact f1,f2,by rw [<-e2];exact f3,by rw [<-e3];exact f4,f5,fun hk=>?_,fun _ hk=>?_⟩
   ·rcases e6 with⟨k',hk',-⟩|⟨e6,e7,-⟩
    ·rw [hk',onb_start] at hk;cases hk
    ·rw [<-e7];exact f6 (by rw [e6];rfl)
   ·rcases e6 with⟨k',hk',e8,e9⟩|⟨e6,e7,e8⟩
    ·rw [<-e9];exact f6 (by rw [e8];rfl)
    ·rw [e8] at hk;cases hk
 ·rcases hB.get b hb with⟨i,hi⟩|⟨b',hb',e1,-,-,-,e5,-⟩
  ·rw [hi,onb_start] at h1;cases h1
  ·rcases hB.get c hc with⟨i,hi⟩|⟨c',hc',f1,-,-,-,f5,-⟩
   ·rw [hi,onb_start] at h2;cases h2
   ·rw [<-e1,<-f1];exact h.k.ne b' hb' c' hc' (by rw [e1,f1];exact hne) (by rw [e5];rfl) (by rw [f5];rfl)
def Bd.fin (b:Bd):Bd:={b with ia:=none,ik:=none,P0:=VT}
def Gets (ops:Array Oper)(V:Nat->VP)(SL:List (Nat×VP)):List (Nat×VP)->Prop
 | []=>True
 |p::l=>((p∈SL/\ops.all (fun o=>o.dst !=some p.1)=true)∨∃i,(ops[i]?).bind (·.dst)=some p.1/\V i=p.2)/\Gets ops V SL l
theorem Gets.get:∀{l:List (Nat×VP)},Gets ops V SL l->∀p∈l,(p∈SL/\ops.all (fun o=>o.dst !=some p.1)=true)∨∃i,(ops[i]?).bind (·.dst)=some p.1/\V i=p.2
 |_::_,h,_,.head _=>h.1
 |_::_,h,p,.tail _ hp=>Gets.get h.2 p hp
theorem KI.st {N:Nat}{listed:Array Bool}{a:Act}{w:World}(h:KI md ops a0 V n0 w0 B SL listed a w)(hall:∀i,i<ops.size->listed.getD i false=true)(hN:a0.tmps.size=N)(hd0:a0.defers= [])(hlt:B.all (fun b=>(match b.ia with|some i=>decide (i<ops.size)|none=>true) && (match b.ik with|some i=>decide (i<ops.size)|none=>true))=true)(SL':List (Nat×VP))(hg:Gets ops V SL SL'):
 St n0 w0 N (B.map Bd.fin) SL' a w:=by
 have hon:∀b∈B,onb listed b.ia=true/\onb listed b.ik=true:=fun b hb=>by
  rw [List.all_eq_true] at hlt;have:=hlt b hb;rw [Bool.and_eq_true] at this;refine⟨?_,?_⟩
  ·cases hi:b.ia with
   |none=>rfl
   |some i=>rw [hi] at this;exact hall i (of_decide_eq_true this.1)
  ·cases hi:b.ik with
   |none=>rfl
   |some i=>rw [hi] at this;exact hall i (of_decide_eq_true this.2)
 refine⟨⟨h.k.below,fun b hb _=>?_,fun b hb c hc hne _ _=>?_,fun b hb hn1 _=>by
  obtain⟨c,hc,rfl⟩:=List.mem_map.1 hb
  exact absurd rfl hn1⟩,h.n,by rw [h.size,hN],by rw [h.defers,hd0],fun p hp=>?_⟩
 ·obtain⟨c,hc,rfl⟩:=List.mem_map.1 hb;obtain⟨g,cs,f1,f2,f3,f4,f5,f6,-⟩:=h.k.ok c hc (hon c hc).1;exact⟨g,cs,f1,f2,f3,f4,f5,fun _=>f6 (hon c hc).2,fun _ hk=>by cases hk⟩
 ·obtain⟨b',hb',rfl⟩:=List.mem_map.1 hb;obtain⟨c',hc',rfl⟩:=List.mem_map.1 hc;exact h.k.ne b' hb' c' hc' hne (hon b' hb').1 (hon c' hc').1
 ·rcases hg.get p hp with⟨h1,h2⟩|⟨i,hi,hv⟩
  ·have:=h.other p.1 fun i o ho=>by
    rw [Array.all_eq_true'] at h2;have:=h2 o (Array.mem_of_getElem? ho)
    simpa using this
   obtain⟨v,e1,e2⟩:=h.sl p h1;exact⟨v,by rw [this];exact e1,e2⟩
  ·cases ho:ops[i]? with
   |none=>rw [ho] at hi;cases hi
   |some o=>
    rw [ho] at hi
    have hlt':i<ops.size:=by
     rcases Nat.lt_or_ge i ops.size with h'|h'
     ·exact h'
     ·rw [Array.getElem?_eq_none h'] at ho;cases ho
    obtain⟨v,e1,e2⟩:=h.own i o p.1 ho (hall i hlt') hi;exact⟨v,e1,by rw [<-hv];exact e2⟩
theorem St.begin {N:Nat}{a:Act}{w:World}(hN:a.tmps.size=N)(D:a.defers= [])(hsl:∀p∈SL,∃v,a.tmps[p.1]? =some v/\p.2 v w):St w.heap.size w N [] SL a w:=
 ⟨{below:=Below.refl _ _,ok:=fun _ h=>absurd h (by simp),ne:=fun _ h=>absurd h (by simp),fa:=fun _ h=>absurd h (by simp)},Nat.le_refl _,hN,D,hsl⟩
theorem Sg {a:Act}{w:World}{c:Code}{P:Program}{Q:Exit->Act->World->Prop}(N:Nat)(SL:List (Nat×VP))(h:∀p∈SL,∃v,a.tmps[p.1]? =some v/\p.2 v w)(k:∀a0,St w.heap.size w N [] SL a0 w->c.wp P Q a0 w)(hN:a.tmps.size=N:=by rfl)(D:a.defers= []:=by rfl):c.wp P Q a w:=k a (St.begin hN D h)
theorem St.slot {N:Nat}{L:List Bd}{a:Act}{w:World}(h:St n0 w0 N L SL a w)(p:Nat×VP)(hp:p∈SL):∃v,a.eval (.tmp p.1)=v/\p.2 v w:=by
 obtain⟨v,e1,e2⟩:=h.sl p hp;exact⟨v,by simp [Act.eval,Array.getD_eq_getD_getElem?,e1],e2⟩
theorem St.res {N:Nat}{L:List Bd}{a:Act}{w:World}(h:St n0 w0 N L SL a w)(b:Bd)(hb:b∈L)(hia:b.ia=none)(hik:b.ik=none):∃g cs,a.tmps.getD b.t undef= .pointer (some ⟨g,0,none⟩)/\w.heap[g]? =some (.cells cs b.T (0,0))/\cs.size=b.m/\b.P (.agg cs) w/\Below n0 w0 w:=by
 obtain⟨g,cs,f1,f2,f3,f4,f5,f6,-⟩:=h.k.ok b hb (by rw [hia];rfl);exact⟨g,cs,by simp [Array.getD_eq_getD_getElem?,f1],f3,f4,f6 (by rw [hik];rfl),h.k.below⟩
theorem St.sub {N:Nat}{L L':List Bd}{SL':List (Nat×VP)}{a:Act}{w:World}(h:St n0 w0 N L SL a w)(hL:∀b∈L',b∈L)(hS:∀p∈SL',p∈SL):St n0 w0 N L' SL' a w:=
 ⟨⟨h.k.below,fun b hb=>h.k.ok b (hL b hb),fun b hb c hc=>h.k.ne b (hL b hb) c (hL c hc),fun b hb=>h.k.fa b (hL b hb)⟩,h.n,h.size,h.defers,fun p hp=>h.sl p (hS p hp)⟩
end



theorem zvs_append (a b:List Int):zvs (a++b)=zvs a++zvs b:=by simp [zvs]
theorem append_one (g:Nat)(s:Int)(p:Option Addr)(n c:Nat)(D:List Int)(W:World)(hB:Blk W g [s])(hR:Rdi W p D)(hn:n=D.length)(hlim:n<=1099511627776):
 ∃pp cc W',(Builtin.append_ #[22,22] 22 #[.slice (some ⟨g,0,none⟩) 1 1,.slice p n c]).run Tryz.prog W= .ok (.slice pp (n+1) cc) W'/\Rdi W' pp (s::D)/\n+1<=cc/\cc<=9223372036854775807/\Below W.heap.size W W':=by
 obtain⟨i0,hi,hz0,hz1,hz2⟩:=info_parts info_i64;by_cases h0:D= []
 ·subst h0;obtain rfl:n=0:=hn;cases p with
  |none=>
   refine⟨some ⟨g,0,none⟩,1,W,?_,hB.rdi,Nat.le_refl _,by omega,Below.refl _ _⟩;simp [Builtin.append_,run_underlying Tryz.underlying22,sizeOf,typeInfo,hi,Builtin.lenOf,Builtin.firstCells,loadCells,storeCells]
  |some a=>
   have hr:=run_append_room (P:=Tryz.prog) W 22 22 3 i0 Tryz.underlying22 hi g 1 1 (zvs [s]).toArray hB a 0 c [] (by simp) (by simp) (by simp) (by omega) (by simp [hz1,zvs]);refine⟨some ⟨g,0,none⟩,1,_,hr,?_,Nat.le_refl _,by omega,?_⟩
   ·have:W.setRow g ((zvs [s]).toArray.toList.take (1*i0.size)++ []++(zvs [s]).toArray.toList.drop (1*i0.size+0)).toArray=W:=by
     have h:=setRow_self W g (zvs [s]).toArray 3 (0,0) hB
     simpa [zvs,hz1] using h
    rw [show([]:List Value).length=0 from rfl,this];exact hB.rdi
   ·have:W.setRow g ((zvs [s]).toArray.toList.take (1*i0.size)++ []++(zvs [s]).toArray.toList.drop (1*i0.size+0)).toArray=W:=by
     have h:=setRow_self W g (zvs [s]).toArray 3 (0,0) hB
     simpa [zvs,hz1] using h
    rw [show([]:List Value).length=0 from rfl,this];exact Below.refl _ _
 ·rcases hR with h|⟨b,off,rfl,hc⟩
  ·exact absurd h h0
  ·have hpos:0<n:=by
    rcases Nat.eq_zero_or_pos n with h|h
    ·rw [h] at hn;exact absurd (List.eq_nil_of_length_eq_zero hn.symm) h0
    ·exact h
   have hown:∀j u,(zvs [s])[j]? =some u->W.cell? ((⟨g,0,none⟩:Addr).add j)=some u:=Rdi_news (fun i hi=>by
    obtain rfl:i=0:=by simpa using hi
    exact hB.cell (by simp))
   have hr:=run_append_grow (P:=Tryz.prog) W 22 22 3 i0 (.int .i64 0) Tryz.underlying22 hi hz0 ⟨g,0,none⟩ 1 1 (zvs [s]) (by simp [zvs,hz1]) hown ⟨b,off,none⟩ n c (zvs D) (by rw [zvs_length,hz1,hn];omega) (Rdi_news hc) (by omega) (by omega) (growslice_fits (by omega) (by rw [hz2];omega));have hge:=grownCap_ge W (1+n) 1 3;have hcm:grownCap W (1+n) 1 3<=maxLen:=grownCap_le_maxLen W (1+n) 1 3 (by unfold maxLen;omega);unfold maxLen at hcm;rw [show 1+n=n+1 by omega] at hr hge hcm;refine⟨_,_,_,hr,?_,hge,hcm,?_⟩
   ·refine .inr ⟨W.heap.size,0,rfl,fun j hj=>?_⟩;have hn1:=heap_alloc_new W.drew (.cells ((zvs [s]).toArray++(zvs D).toArray++Builtin.zeroCells (Value.int .i64 0).cells (grownCap W (n+1) 1 3 - (n+1))) 3);have hl:j<(zvs (s::D)).length:=by rw [zvs_length];exact hj
    have e1:((zvs [s]).toArray++(zvs D).toArray)=(zvs (s::D)).toArray:=by
     rw [show s::D= [s]++D from rfl,zvs_append];simp
    rw [e1] at hn1 ⊢;show(W.drew.alloc _).cell? ⟨W.heap.size,0+j,none⟩=_;unfold World.cell?;rw [show(⟨W.heap.size,0+j,none⟩:Addr).block=W.drew.heap.size from rfl,hn1];rw [Nat.zero_add];show((zvs (s::D)).toArray++_)[j]? =_;rw [Array.getElem?_append_left (by simpa using hl)];exact zvs_get hj
   ·exact(below_drewN (Below.refl _ W) 1).alloc (Nat.le_refl _) _
def Bx (w:World)(nx:Bool)(px:Option Addr)(n c:Nat)(W:World):Prop:=W.heap[w.heap.size]? =some (.cells #[.bool nx,.slice px n c] 28 (0,0))/\Below w.heap.size w W
section
variable {w W w':World}{nx:Bool}{px:Option Addr}{n c:Nat}
theorem Bx.facts (h:Bx w nx px n c W):W.cell? ⟨w.heap.size,0,none⟩=some (.bool nx)/\W.cell? ⟨w.heap.size,1,none⟩=some (.slice px n c):=by
 obtain⟨h1,_⟩:=h;exact⟨by simp [World.cell?,h1],by simp [World.cell?,h1]⟩
theorem Bx.start (w:World):Bx w nx px n c (w.alloc (.cells #[.bool nx,.slice px n c] 28)):=⟨heap_alloc_new _ _,below_new _ _⟩
end


def RV2 (V1 V2:VP)(W:World)(e:Ending)(w':World):Prop:=∃v1 v2,e= .returned (.tuple #[v1,v2])/\V1 v1 w'/\V2 v2 w'/\Below W.heap.size W w'
theorem dl_dq (a b:Int):(digs (dq a b).natAbs).length<=(digs a.natAbs).length:=by
 apply digs_len_mono;unfold dq;split
 ·simp
 ·exact Int.natAbs_ediv_le_natAbs a b
theorem dl_dr (a b:Int):(digs (dr a b).natAbs).length<=(digs b.natAbs).length:=by
 apply digs_len_mono;unfold dr;split
 ·simp
 ·have h1:=Int.emod_nonneg a (b:=b) (by assumption);have h2:=Int.emod_lt a (b:=b) (by assumption);omega
section
variable {W:World}{Na Nb:Nat}{a b:Int}{v1 v2:Value}
theorem cDiv (h1:Vz Na a v1 W)(h2:Vz Nb b v2 W)(hN1:Na<=1000000:=by omega)(hN2:Nb<=1000000:=by omega):Calls Tryz.prog 145 #[v1,v2] W (RV2 (Vz Na (dq a b)) (Vz Nb (dr a b)) W):=by
 obtain⟨nb,p,n,c,rfl,hI,hn⟩:=h1;obtain⟨nb2,p2,n2,c2,rfl,hI2,hn2⟩:=h2
 exact(Div_any _ _ _ _ _ _ _ _ a b W hI hI2 (by omega) (by omega)).mono fun e w' ⟨nb3,p3,n3,c3,nb4,p4,n4,c4,he,h3,h4,hb,_⟩=>by
  refine⟨_,_,he,⟨_,_,_,_,rfl,h3,?_⟩,⟨_,_,_,_,rfl,h4,?_⟩,hb⟩
  ·have:=dl_dq a b;rw [h3.2.1];have:=hI.2.1;omega
  ·have:=dl_dr a b;rw [h4.2.1];have:=hI2.2.1;omega
end
end Go.Proofs.YteacdbgalloaiaaGreat
