/- Contracts of the packages integer, rat, plane, polygon and their references. -/
import Derived.Test.YteacdbgalloaiaaGreatH7
import Derived.Test.YteacdbgalloaiaaGreatH5
import Derived.ChangeKeysEq
import Derived.Test.YteacdbgalloaiaaGreatH4
import Derived.Lib.AppendIntMem
import Derived.Lib.ItoaLen
import Derived.OwnWalk
import Derived.BigCall
import Derived.Test.YteacdbgalloaiaaGreatH1
import Derived.Test.YteacdbgalloaiaaGreatH6
set_option linter.unusedVariables false
set_option maxRecDepth 100000
set_option maxHeartbeats 6400000
namespace Go.Proofs.YteacdbgalloaiaaGreat
open Go Go.RowKit
section
variable {P:Program}{md:Region.Mode}{ops:Array Oper}{Q:Exit->Act->World->Prop}{a0:Act}{V:Nat->VP}{n0:Nat}{w0:World}{B:List Bd}{SL:List (Nat×VP)}{BT:List (TypeId×Nat×Nat)}
def aggT (d:TypeDesc):Bool:=match d with| .struct _| .array _ _=>true|_=>false
def Guards (ops:Array Oper)(guard:Option (Nat×Bool))(a:Act):Prop:=match guard with|none=>True|some (j,b)=>yielded ops a.tmps j=some b
theorem wanted_of {o:Oper}{a:Act}(h:Guards ops o.guard a):Region.wanted o (yielded ops a.tmps)=true:=by
 unfold Region.wanted;unfold Guards at h;cases hg:o.guard with
 |none=>rfl
 |some g=>obtain⟨j,b⟩:=g;rw [hg] at h;simp only [] at h ⊢;rw [h];simp
def Ask (md:Region.Mode)(ops:Array Oper)(a0:Act)(V:Nat->VP)(n0:Nat)(w0:World)(B:List Bd)(SL:List (Nat×VP))(o:Oper)(X:Array Bool->Act->World->Prop):Prop:=
 ∀listed a w,KI md ops a0 V n0 w0 B SL listed a w->(∀e∈o.after,Region.binds md e=true->listed.getD e.on false=true)->Guards ops o.guard a/\X listed a w
theorem k_call {i:Nat}{dst:Option Tmp}{f:FuncId}{xs:Array Operand}{ats:Array TypeId}{ty:TypeId}{pos:String}{after:Array Edge}{guard:Option (Nat×Bool)}(hBP:∀b∈B,b.stab BT)(hq:quietB B i dst=true)(hcall:∀args w,(callFunc f args).run P w= .ok (.enter f args) w)
 (H:Ask md ops a0 V n0 w0 B SL {dst,op:= .call {callee:= .value (.func f),args:=xs,argTypes:=ats},type:=ty,pos,after,guard} fun _ a w=>∃args,#[]++xs.map a.eval++ #[]=args/\Calls P f args w (RV (V i) w)):
 KStep BT P md ops Q a0 V n0 w0 B SL i {dst,op:= .call {callee:= .value (.func f),args:=xs,argTypes:=ats},type:=ty,pos,after,guard}:=by
 intro listed a w h D _ _ _ K hK;obtain⟨hg,args,hargs,hc⟩:=H listed a w h D;rw [if_pos (wanted_of hg)];unfold Oper.wp;have he:execOp a.eval {dst,op:= .call {callee:= .value (.func f),args:=xs,argTypes:=ats},type:=ty,pos,after,guard}=callFunc f (#[]++xs.map a.eval++ #[]):=rfl;rw [he,hargs,hcall];refine Calls.mono hc fun e w' hp=>?_
 obtain⟨v,rfl,h1,h2⟩:=hp;exact hK v w' (h.k.quiet hq hBP h.n h2) (RI.of_below h2) h1
theorem k_run {i:Nat}{o:Oper}(hBP:∀b∈B,b.stab BT)(hq:quietB B i o.dst=true)(H:Ask md ops a0 V n0 w0 B SL o fun _ a w=>∃v,(execOp a.eval o).run P w= .ok (.value v) w/\V i v w):KStep BT P md ops Q a0 V n0 w0 B SL i o:=by
 intro listed a w h D _ _ _ K hK;obtain⟨hg,v,hr,h1⟩:=H listed a w h D;rw [if_pos (wanted_of hg)];unfold Oper.wp;rw [hr];exact hK v w (h.k.quiet hq hBP h.n (Below.refl _ _)) (RI.refl w) h1
theorem k_enter {i:Nat}{o:Oper}(hBP:∀b∈B,b.stab BT)(hq:quietB B i o.dst=true)(H:Ask md ops a0 V n0 w0 B SL o fun _ a w=>∃f args,(execOp a.eval o).run P w= .ok (.enter f args) w/\Calls P f args w (RV (V i) w)):KStep BT P md ops Q a0 V n0 w0 B SL i o:=by
 intro listed a w h D _ _ _ K hK;obtain⟨hg,f,args,hr,hc⟩:=H listed a w h D;rw [if_pos (wanted_of hg)];unfold Oper.wp;rw [hr];refine Calls.mono hc fun e w' hp=>?_
 obtain⟨v,rfl,h1,h2⟩:=hp;exact hK v w' (h.k.quiet hq hBP h.n h2) (RI.of_below h2) h1
theorem k_mem {i:Nat}{o:Oper}(hBP:∀b∈B,b.stab BT)(hq:quietB B i o.dst=true)(H:Ask md ops a0 V n0 w0 B SL o fun _ a w=>∃v w',(execOp a.eval o).run P w= .ok (.value v) w'/\Below w.heap.size w w'/\V i v w'):KStep BT P md ops Q a0 V n0 w0 B SL i o:=by
 intro listed a w h D _ _ _ K hK;obtain⟨hg,v,w',hr,hb,h1⟩:=H listed a w h D;rw [if_pos (wanted_of hg)];unfold Oper.wp;rw [hr];exact hK v w' (h.k.quiet hq hBP h.n hb) (RI.of_below hb) h1
theorem k_load {i:Nat}{o:Oper}{b:Bd}{d:TypeDesc}(hBP:∀b∈B,b.stab BT)(hq:quietB B i o.dst=true)(hb:b∈B)(ho:o.op= .load b.T (.tmp b.t))(hon:b.ia=none)(hok:b.ik=none)(hV:V i=b.P)
 (hu:P.underlying b.T=some d) (hdd:aggT d=true) (hi:(P.info? b.T).map (·.size)=some b.m) (H:Ask md ops a0 V n0 w0 B SL o fun _ _ _=>True):KStep BT P md ops Q a0 V n0 w0 B SL i o:=by
 intro listed a w h D _ _ _ K hK;obtain⟨hg,-⟩:=H listed a w h D;rw [if_pos (wanted_of hg)];obtain⟨g,cs,e1,e2,e3,e4,e5,e6,-⟩:=h.k.ok b hb (by rw [hon];rfl);have hP:=e6 (by rw [hok];rfl);refine wp_load_row b.T (.tmp b.t) ho g (by simp [Act.eval,Array.getD_eq_getD_getElem?,e1]) b.T cs (0,0) d e3 hu (by revert hdd;cases d<;>intro hdd<;>first|rfl|cases hdd) (by rw [hi,e4]) ?_;exact hK _ w (h.k.quiet hq hBP h.n (Below.refl _ _)) (RI.refl w) (by rw [hV];exact hP)
theorem KI.not_yet {listed:Array Bool}{a:Act}{w:World}{i k:Nat}(h:KI md ops a0 V n0 w0 B SL listed a w)(hnl:listed.getD i false=false)(hk:(match ops[k]? with|some o=>o.after.any (fun e=>e.on==i && Region.binds md e)|none=>false)=true):listed.getD k false=false:=by
 cases hl:listed.getD k false with
 |false=>rfl
 |true=>
  cases ho:ops[k]? with
  |none=>rw [ho] at hk;cases hk
  |some o=>
   rw [ho] at hk
   obtain⟨e,he,hb⟩:∃e,e∈o.after/\(e.on==i && Region.binds md e)=true:=by
    simp only at hk;rw [Array.any_eq_true] at hk;obtain⟨j,hj,h1⟩:=hk;exact⟨o.after[j],Array.getElem_mem hj,h1⟩
   simp only [Bool.and_eq_true,beq_iff_eq] at hb;obtain⟨hb1,hb2⟩:=hb;have:=h.closed k o ho hl e he hb2;rw [hb1,hnl] at this;cases this
theorem KI.out0 {listed:Array Bool}{a:Act}{w:World}{i:Nat}(h:KI md ops a0 V n0 w0 B SL listed a w)(hnl:listed.getD i false=false)(p:Nat×VP)(hp:p∈SL)(k:Nat)(ht:(List.range ops.size).all (fun j=>j==k||(match ops[j]? with|some o=>o.dst !=some p.1|none=>true))=true)
 (hk:k=i∨(match ops[k]? with|some o=>o.after.any (fun e=>e.on==i && Region.binds md e)|none=>false)=true):∃v,a.eval (.tmp p.1)=v/\p.2 v w:=by
 have hkl:listed.getD k false=false:=by
  rcases hk with rfl|hk
  ·exact hnl
  ·exact h.not_yet hnl hk
 have:=h.same p.1 fun j o ho D=>by
  rw [List.all_eq_true] at ht
  have hj:j<ops.size:=by
   rcases Nat.lt_or_ge j ops.size with h'|h'
   ·exact h'
   ·rw [Array.getElem?_eq_none h'] at ho;cases ho
  have h1:=ht j (by simpa using hj);rw [ho] at h1;simp only [Bool.or_eq_true,beq_iff_eq,bne_iff_ne,ne_eq] at h1;rcases h1 with rfl|h1
  ·exact hkl
  ·exact absurd D h1
 obtain⟨v,h1,h2⟩:=h.sl p hp;exact⟨v,by simp [Act.eval,Array.getD_eq_getD_getElem?,this,h1],h2⟩
theorem k_run0 {i:Nat}{o:Oper}(hBP:∀b∈B,b.stab BT)(hq:quietB B i o.dst=true)(H:∀listed a w,KI md ops a0 V n0 w0 B SL listed a w->(∀e∈o.after,Region.binds md e=true->listed.getD e.on false=true)->listed.getD i false=false->Guards ops o.guard a/\∃v,(execOp a.eval o).run P w= .ok (.value v) w/\V i v w):KStep BT P md ops Q a0 V n0 w0 B SL i o:=by
 intro listed a w h D _ _ hnl K hK;obtain⟨hg,v,hr,h1⟩:=H listed a w h D hnl;rw [if_pos (wanted_of hg)];unfold Oper.wp;rw [hr];exact hK v w (h.k.quiet hq hBP h.n (Below.refl _ _)) (RI.refl w) h1
theorem k_load0 {i k:Nat}{o:Oper}{b:Bd}{d:TypeDesc}(hBP:∀b∈B,b.stab BT)(hq:quietB B i o.dst=true)(hb:b∈B)(ho:o.op= .load b.T (.tmp b.t))(hon:b.ia=none)(hok:b.ik=some k)(hV:V i=b.P0)
 (hk:(match ops[k]? with|some o=>o.after.any (fun e=>e.on==i && Region.binds md e)|none=>false)=true)
 (hu:P.underlying b.T=some d) (hdd:aggT d=true) (hi:(P.info? b.T).map (·.size)=some b.m) (H:Ask md ops a0 V n0 w0 B SL o fun _ _ _=>True):KStep BT P md ops Q a0 V n0 w0 B SL i o:=by
 intro listed a w h D _ _ hnl K hK;obtain⟨hg,-⟩:=H listed a w h D;rw [if_pos (wanted_of hg)];obtain⟨g,cs,e1,e2,e3,e4,e5,-,e7⟩:=h.k.ok b hb (by rw [hon];rfl);have hP:=e7 hon (by rw [hok];exact h.not_yet hnl hk);refine wp_load_row b.T (.tmp b.t) ho g (by simp [Act.eval,Array.getD_eq_getD_getElem?,e1]) b.T cs (0,0) d e3 hu (by revert hdd;cases d<;>intro hdd<;>first|rfl|cases hdd) (by rw [hi,e4]) ?_;exact hK _ w (h.k.quiet hq hBP h.n (Below.refl _ _)) (RI.refl w) (by rw [hV];exact hP)
def Vpt (a0:Act)(t off:Nat):VP:=fun v _=>∃g,a0.tmps[t]? =some (.pointer (some ⟨g,0,none⟩))/\v= .pointer (some ⟨g,off,none⟩)
theorem Stab_Vpt (a0:Act)(t off:Nat):Stab BT (Vpt a0 t off):=fun _ _ _ h _=>h
theorem run_loadCells_at (w:World)(g off:Nat)(T:TypeId)(cs:Array Value)(fr:Nat×Nat)(hg:w.heap[g]? =some (.cells cs T fr))(k:Nat):∀j v,(cs.extract off (off+k)).toList[j]? =some v->w.cell? ((⟨g,off,none⟩:Addr).add j)=some v:=by
 intro j v hj;have hj':(cs.extract off (off+k))[j]? =some v:=by rw [<-hj,Array.getElem?_toList]
 rw [Array.getElem?_extract] at hj';split at hj'
 ·have:(⟨g,off,none⟩:Addr).add j=⟨g,off+j,none⟩:=by unfold Addr.add;split<;>simp_all
  rw [this];simp [World.cell?,hg,hj']
 ·cases hj'
theorem run_loadVar_part (w:World)(g off k:Nat)(t ty:TypeId)(cs:Array Value)(fr:Nat×Nat)(d:TypeDesc)(hg:w.heap[g]? =some (.cells cs t fr))(hk:off+k<=cs.size)
 (hu:P.underlying ty=some d) (D:aggT d=true) (hi:(P.info? ty).map (·.size)=some k):
 (loadVar ty ⟨g,off,none⟩).run P w= .ok (.agg (cs.extract off (off+k))) w:=by
 have hl:(loadCells ⟨g,off,none⟩ k).run P w= .ok (cs.extract off (off+k)) w:=by
  have:=run_loadCells_list (P:=P) w ⟨g,off,none⟩ (cs.extract off (off+k)).toList (run_loadCells_at w g off t cs fr hg k);have e:(cs.extract off (off+k)).toList.length=k:=by simp;omega
  rw [e,Array.toArray_toList] at this;exact this
 cases hq:P.info? ty with
 |none=>simp [hq] at hi
 |some i=>
  have hs:i.size=k:=by simpa [hq] using hi
  have hagg:(isAgg ty).run P w= .ok true w:=by
   unfold isAgg;rw [Sem.run_bind,run_underlying hu w];cases d<;>simp_all [aggT]
  simp [loadVar,Sem.run_bind,hagg,sizeOf,typeInfo,hq,hs,hl]
theorem k_part {i:Nat}{o:Oper}{b:Bd}{d:TypeDesc}{T:TypeId}{s j off k:Nat}(hBP:∀b∈B,b.stab BT)(hq:quietB B i o.dst=true)(hb:b∈B)(ho:o.op= .load T (.tmp s))(hon:b.ia=none)(hok:b.ik=none)(hj:o.after.any (fun e=>e.on==j && Region.binds md e)=true)(hdst:(ops[j]?).bind (·.dst)=some s)(hVj:V j=Vpt a0 b.t off)
 (hbt:ops.all (fun o=>o.dst !=some b.t)=true) (hk:off+k<=b.m) (hV:∀cs w,b.P (.agg cs) w->V i (.agg (cs.extract off (off+k))) w)
 (hu:P.underlying T=some d) (hdd:aggT d=true) (hi:(P.info? T).map (·.size)=some k) (H:Ask md ops a0 V n0 w0 B SL o fun _ _ _=>True):KStep BT P md ops Q a0 V n0 w0 B SL i o:=by
 intro listed a w h D _ _ _ K hK;obtain⟨hg,-⟩:=H listed a w h D;rw [if_pos (wanted_of hg)];obtain⟨g,cs,e1,e2,e3,e4,e5,e6,-⟩:=h.k.ok b hb (by rw [hon];rfl);have hP:=e6 (by rw [hok];rfl);obtain⟨v,hv,-,hVv⟩:=h.dep D j s hj hdst;rw [hVj] at hVv;obtain⟨g',f1,rfl⟩:=hVv
 have ho1:=h.other b.t fun i o ho=>by
  rw [Array.all_eq_true'] at hbt;have:=hbt o (Array.mem_of_getElem? ho)
  simpa using this
 rw [e1,f1] at ho1;simp at ho1;subst ho1;unfold Oper.wp execOp;simp only [ho,hv,Instr.loadAt,Instr.sureAddr,Sem.run_bind,Sem.run_pure,Result.andThen_ok,run_loadVar_part w g off k b.T T cs (0,0) d e3 (by omega) hu hdd hi];exact hK _ w (h.k.quiet hq hBP h.n (Below.refl _ _)) (RI.refl w) (hV _ _ hP)
theorem k_cell {i:Nat}{o:Oper}{b:Bd}{d:TypeDesc}{T:TypeId}{s j off:Nat}(hBP:∀b∈B,b.stab BT)(hq:quietB B i o.dst=true)(hb:b∈B)(ho:o.op= .load T (.tmp s))(hon:b.ia=none)(hok:b.ik=none)(hj:o.after.any (fun e=>e.on==j && Region.binds md e)=true)(hdst:(ops[j]?).bind (·.dst)=some s)(hVj:V j=Vpt a0 b.t off)
 (hbt:ops.all (fun o=>o.dst !=some b.t)=true) (hV:∀cs w,b.P (.agg cs) w->∃v,cs[off]? =some v/\V i v w)
 (hu:P.underlying T=some d) (hdd:aggT d=false) (H:Ask md ops a0 V n0 w0 B SL o fun _ _ _=>True):KStep BT P md ops Q a0 V n0 w0 B SL i o:=by
 intro listed a w h D _ _ _ K hK;obtain⟨hg,-⟩:=H listed a w h D;rw [if_pos (wanted_of hg)];obtain⟨g,cs,e1,e2,e3,e4,e5,e6,-⟩:=h.k.ok b hb (by rw [hon];rfl);have hP:=e6 (by rw [hok];rfl);obtain⟨v,hv,-,hVv⟩:=h.dep D j s hj hdst;rw [hVj] at hVv;obtain⟨g',f1,rfl⟩:=hVv
 have ho1:=h.other b.t fun i o ho=>by
  rw [Array.all_eq_true'] at hbt;have:=hbt o (Array.mem_of_getElem? ho)
  simpa using this
 rw [e1,f1] at ho1;simp at ho1;subst ho1;obtain⟨x,hx,hVx⟩:=hV _ _ hP;have hc:w.cell? ⟨g,off,none⟩=some x:=by simp [World.cell?,e3,hx]
 have hagg:(isAgg T).run P w= .ok false w:=by
  unfold isAgg;rw [Sem.run_bind,run_underlying hu w];cases d<;>simp_all [aggT]
 unfold Oper.wp execOp;simp only [ho,hv,Instr.loadAt,Instr.sureAddr,Sem.run_bind,Sem.run_pure,Result.andThen_ok,loadVar,hagg];simp only [Bool.false_eq_true,if_false,run_load,hc,Result.andThen_ok];exact hK _ w (h.k.quiet hq hBP h.n (Below.refl _ _)) (RI.refl w) hVx
theorem k_cell0 {i:Nat}{o:Oper}{b:Bd}{d:TypeDesc}{T:TypeId}{s j off kk:Nat}(hBP:∀b∈B,b.stab BT)(hq:quietB B i o.dst=true)(hb:b∈B)(ho:o.op= .load T (.tmp s))(hon:b.ia=none)(hok:b.ik=some kk)(hkk:(match ops[kk]? with|some o=>o.after.any (fun e=>e.on==i && Region.binds md e)|none=>false)=true)(hj:o.after.any (fun e=>e.on==j && Region.binds md e)=true)(hdst:(ops[j]?).bind (·.dst)=some s)(hVj:V j=Vpt a0 b.t off)
 (hbt:ops.all (fun o=>o.dst !=some b.t)=true) (hV:∀cs w,b.P0 (.agg cs) w->∃v,cs[off]? =some v/\V i v w)
 (hu:P.underlying T=some d) (hdd:aggT d=false) (H:Ask md ops a0 V n0 w0 B SL o fun _ _ _=>True):KStep BT P md ops Q a0 V n0 w0 B SL i o:=by
 intro listed a w h D _ _ hnl K hK;obtain⟨hg,-⟩:=H listed a w h D;rw [if_pos (wanted_of hg)];obtain⟨g,cs,e1,e2,e3,e4,e5,-,e7⟩:=h.k.ok b hb (by rw [hon];rfl);have hP:=e7 hon (by rw [hok];exact h.not_yet hnl hkk);obtain⟨v,hv,-,hVv⟩:=h.dep D j s hj hdst;rw [hVj] at hVv;obtain⟨g',f1,rfl⟩:=hVv
 have ho1:=h.other b.t fun i o ho=>by
  rw [Array.all_eq_true'] at hbt;have:=hbt o (Array.mem_of_getElem? ho)
  simpa using this
 rw [e1,f1] at ho1;simp at ho1;subst ho1;obtain⟨x,hx,hVx⟩:=hV _ _ hP;have hc:w.cell? ⟨g,off,none⟩=some x:=by simp [World.cell?,e3,hx]
 have hagg:(isAgg T).run P w= .ok false w:=by
  unfold isAgg;rw [Sem.run_bind,run_underlying hu w];cases d<;>simp_all [aggT]
 unfold Oper.wp execOp;simp only [ho,hv,Instr.loadAt,Instr.sureAddr,Sem.run_bind,Sem.run_pure,Result.andThen_ok,loadVar,hagg];simp only [Bool.false_eq_true,if_false,run_load,hc,Result.andThen_ok];exact hK _ w (h.k.quiet hq hBP h.n (Below.refl _ _)) (RI.refl w) hVx
theorem k_field {i:Nat}{o:Oper}{b:Bd}{T:TypeId}{f off:Nat}(hBP:∀b∈B,b.stab BT)(hq:quietB B i o.dst=true)(hb:b∈B)(ho:o.op= .fieldAddr T (.tmp b.t) f)(hon:b.ia=none)(hbt:ops.all (fun o=>o.dst !=some b.t)=true)(hV:V i=Vpt a0 b.t off)
 (hrun:∀g W,(Instr.fieldAt T (.pointer (some ⟨g,0,none⟩)) f).run P W= .ok (.pointer (some ⟨g,off,none⟩)) W) (H:Ask md ops a0 V n0 w0 B SL o fun _ _ _=>True):KStep BT P md ops Q a0 V n0 w0 B SL i o:=by
 refine k_run hBP hq fun listed a w h D=>⟨(H listed a w h D).1,?_⟩
 obtain⟨g,cs,e1,-⟩:=h.k.ok b hb (by rw [hon];rfl)
 have ho1:=h.other b.t fun i o ho=>by
  rw [Array.all_eq_true'] at hbt;have:=hbt o (Array.mem_of_getElem? ho)
  simpa using this
 refine⟨.pointer (some ⟨g,off,none⟩),?_,by rw [hV];exact⟨g,by rw [<-ho1,e1],rfl⟩⟩;unfold execOp;have hx:a.eval (.tmp b.t)= .pointer (some ⟨g,0,none⟩):=by simp [Act.eval,Array.getD_eq_getD_getElem?,e1]
 simp only [ho,hx,Sem.run_bind,hrun,Sem.run_pure,Result.andThen_ok]
theorem k_field2 {i:Nat}{o:Oper}{t j s:Nat}{T:TypeId}{f off off':Nat}(hBP:∀b∈B,b.stab BT)(hq:quietB B i o.dst=true)(ho:o.op= .fieldAddr T (.tmp s) f)(hj:o.after.any (fun e=>e.on==j && Region.binds md e)=true)(hdst:(ops[j]?).bind (·.dst)=some s)(hVj:V j=Vpt a0 t off)(hV:V i=Vpt a0 t off')
 (hrun:∀g W,(Instr.fieldAt T (.pointer (some ⟨g,off,none⟩)) f).run P W= .ok (.pointer (some ⟨g,off',none⟩)) W) (H:Ask md ops a0 V n0 w0 B SL o fun _ _ _=>True):KStep BT P md ops Q a0 V n0 w0 B SL i o:=by
 refine k_run hBP hq fun listed a w h D=>⟨(H listed a w h D).1,?_⟩
 obtain⟨v,hv,-,hVv⟩:=h.dep D j s hj hdst;rw [hVj] at hVv;obtain⟨g,f1,rfl⟩:=hVv;refine⟨.pointer (some ⟨g,off',none⟩),?_,by rw [hV];exact⟨g,f1,rfl⟩⟩;unfold execOp;simp only [ho,hv,Sem.run_bind,hrun,Sem.run_pure,Result.andThen_ok]
theorem k_alloc {i:Nat}{o:Oper}{B1 B2:List Bd}{b:Bd}{z:Array Value}(hBP:∀b∈B,b.stab BT)(hB:B=B1++b::B2)(hq:quietB (B1++B2) i (some b.t)=true)(ho:o.op= .alloc b.T)(hds:o.dst=some b.t)(hia:b.ia=some i)(hz:∀W,(Instr.alloc b.T true (.tuple #[])).run P W= .ok (.pointer (some ⟨W.heap.size,0,none⟩)) (W.alloc (.cells z b.T)))(hzs:z.size=b.m)(hni:NoInt z)
 (hik:(b.ik=none/\∀v w,b.P v w)∨∃k,b.ik=some k/\k≠i) (hV:V i=VT) (H:Ask md ops a0 V n0 w0 B SL o fun _ _ _=>True):KStep BT P md ops Q a0 V n0 w0 B SL i o:=by
 intro listed a w h D hin hil hnl K hK;obtain⟨hg,-⟩:=H listed a w h D;rw [if_pos (wanted_of hg)]
 have ht:b.t<a.tmps.size:=by
  rw [hds] at hin;rw [h.size]
  simpa using hin
 have hks:=h.k.alloc hB hq hia hil ht hBP h.n z hzs hni (fun hk=>by
  rcases hik with⟨-,h1⟩|⟨k,h1,h2⟩
  ·exact h1 _ _
  ·exfalso;rw [onb_set (x:=b.ik) (by intro e;rw [h1] at e;cases e;exact h2 rfl)] at hk;have h3:=h.k.fa b (by rw [hB];simp) (by rw [h1];intro e;cases e) hk;rw [hia] at h3;simp only [onb] at h3
   rw [hnl] at h3;cases h3)
 unfold Oper.wp execOp;simp only [ho,Sem.run_bind,hz,Sem.run_pure,Result.andThen_ok];rw [<-hds] at hks;exact hK _ _ hks (RI.of_below (below_new _ _)) (by rw [hV];trivial)
theorem k_box {i:Nat}{o:Oper}{B1 B2:List Bd}{b:Bd}{x:Operand}(hBP:∀b∈B,b.stab BT)(hB:B=B1++b::B2)(hq:quietB (B1++B2) i (some b.t)=true)(ho:o.op= .box b.T x)(hds:o.dst=some b.t)(hia:b.ia=some i)(hV:V i=VT)
 (H:Ask md ops a0 V n0 w0 B SL o fun _ a w=>∃z,a.eval x= .agg z/\z.size=b.m/\NoInt z/\b.P (.agg z) w):KStep BT P md ops Q a0 V n0 w0 B SL i o:=by
 intro listed a w h D hin hil hnl K hK;obtain⟨hg,z,hx,hzs,hni,hP⟩:=H listed a w h D;rw [if_pos (wanted_of hg)]
 have ht:b.t<a.tmps.size:=by
  rw [hds] at hin;rw [h.size]
  simpa using hin
 have hks:=h.k.alloc hB hq hia hil ht hBP h.n z hzs hni (fun _=>hP);unfold Oper.wp execOp;simp only [ho,hx,Sem.run_bind,Instr.box,newVar,newRow,run_newObj_alloc,Sem.run_pure,Result.andThen_ok,Value.cells];rw [<-hds] at hks;exact hK _ _ hks (RI.of_below (below_new _ _)) (by rw [hV];trivial)
theorem k_store {i:Nat}{o:Oper}{B1 B2:List Bd}{b:Bd}{y:Operand}(hBP:∀b∈B,b.stab BT)(hB:B=B1++b::B2)(hq:quietB (B1++B2) i none=true)(hts:(B1++B2).all (fun c=>c.t !=b.t)=true)(ho:o.op= .store b.T (.tmp b.t) y)(hds:o.dst=none)(hia:(b.ia !=some i)=true)(hik:b.ik=some i)(hBT:BT.any (fun e=>e.1==b.T && e.2.1==b.m && e.2.2==0)=true)(hNP:BT.all (fun e=>e.1 !=b.T||e.2.1 !=0)=true)(hV:V i=VT)(hi:(P.info? b.T).map (·.size)=some b.m)
 (H:Ask md ops a0 V n0 w0 B SL o fun listed a w=>onb listed b.ia=true/\∃z,a.eval y= .agg z/\z.size=b.m/\NoInt z/\z.all (·.oneCell')=true/\b.P (.agg z) w):KStep BT P md ops Q a0 V n0 w0 B SL i o:=by
 intro listed a w h D _ hil _ K hK;obtain⟨hg,hon,z,hy,hzs,hni,h1,hP⟩:=H listed a w h D;rw [if_pos (wanted_of hg)]
 obtain⟨g,old,e1,e2,e3,hr,hks⟩:=h.k.store (v:=undef) hB hq hon (by simpa using hia) hik hil (fun g _=>Mw_of hBT hNP) hBP z hzs hni hP (fun c hc=>by
  rw [List.all_eq_true] at hts
  simpa using hts c hc)
 refine wp_store_row b.T (.tmp b.t) y ho g z (by simp [Act.eval,Array.getD_eq_getD_getElem?,e1]) hy b.T old e2 (by rw [hi,hzs]) e3 h1 ?_;rw [hds] at hK ⊢;exact hK _ _ hks hr (by rw [hV];trivial)
theorem k_skip {i:Nat}{o:Oper}(hBP:∀b∈B,b.stab BT)(hq:quietB B i o.dst=true)(H:∀listed a w,KI md ops a0 V n0 w0 B SL listed a w->(∀e∈o.after,Region.binds md e=true->listed.getD e.on false=true)->(∃j b c,o.guard=some (j,b)/\yielded ops a.tmps j=some c/\c≠b)/\V i undef w):KStep BT P md ops Q a0 V n0 w0 B SL i o:=by
 intro listed a w h D _ _ _ K hK;obtain⟨⟨j,b,c,hg,hy,hne⟩,h3⟩:=H listed a w h D
 have hw:Region.wanted o (yielded ops a.tmps)=false:=by
  unfold Region.wanted;rw [hg];simp only [];rw [hy];simpa using hne
 rw [hw];exact hK undef w (h.k.quiet hq hBP h.n (Below.refl _ _)) (RI.refl w) h3
def StabL (BT:List (TypeId×Nat×Nat)):List VP->Prop
 | []=>True
 |V::l=>Stab BT V/\StabL BT l
theorem StabL.get:∀{l:List VP},StabL BT l->∀j,Stab BT (l.getD j VT)
 | [],_,j=>by simpa using Stab_VT
 |V::l,h,0=>h.1
 |V::l,h,j+1=>by have:=StabL.get h.2 j;simpa using this
theorem stab_of {l:List VP}(h:StabL BT l):∀j,Stab BT ((fun i=>l.getD i VT) j):=fun j=>h.get j
structure St (n0:Nat)(w0:World)(N:Nat)(L:List Bd)(SL:List (Nat×VP))(a:Act)(w:World):Prop where
 k:KS n0 w0 L #[] a w
 n:n0<=w.heap.size
 size:a.tmps.size=N
 defers:a.defers= []
 sl:∀p∈SL,∃v,a.tmps[p.1]? =some v/\p.2 v w
def StartsFrom (L:List Bd):List Bd->Prop
 | []=>True
 |b::l=>((∃i,b.ia=some i)∨∃c,c∈L/\c.t=b.t/\c.T=b.T/\c.m=b.m/\b.ia=none/\c.ia=none/\((∃k,b.ik=some k/\c.ik=none/\c.P=b.P0)∨(c.ik=none/\c.P=b.P/\b.ik=none)))/\StartsFrom L l
theorem StartsFrom.get {L:List Bd}:∀{l:List Bd},StartsFrom L l->∀b∈l,(∃i,b.ia=some i)∨∃c,c∈L/\c.t=b.t/\c.T=b.T/\c.m=b.m/\b.ia=none/\c.ia=none/\((∃k,b.ik=some k/\c.ik=none/\c.P=b.P0)∨(c.ik=none/\c.P=b.P/\b.ik=none))
 |_::_,h,_,.head _=>h.1
 |_::_,h,b,.tail _ hb=>StartsFrom.get h.2 b hb
theorem onb_start {k i:Nat}:onb (Array.replicate k false) (some i)=false:=by
 simp only [onb,Array.getD_eq_getD_getElem?,Array.getElem?_replicate];split<;>rfl
theorem St.start {N:Nat}{L:List Bd}{a:Act}{w:World}(h:St n0 w0 N L SL a w)(hB:StartsFrom L B)(k:Nat):KS n0 w0 B (Array.replicate k false) a w:=by
 refine⟨h.k.below,fun b hb hon=>?_,fun b hb c hc hne h1 h2=>?_,fun b hb hn1 hk=>by
  cases hik:b.ik with
  |none=>exact absurd hik hn1
  |some i=>rw [hik,onb_start] at hk;cases hk⟩
 ·rcases hB.get b hb with⟨i,hi⟩|⟨c,hc,e1,e2,e3,e4,e5,e6⟩
  ·rw [hi,onb_start] at hon;cases hon
  ·obtain⟨g,cs,f1,f2,f3,f4,f5,f6,-⟩:=h.k.ok c hc (by rw [e5];rfl);refine⟨g,cs,by rw [<-e1];exact f1,f2,by rw [<-e2];exact f3,by rw [<-e3];exact f4,f5,fun hk=>?_,fun _ hk=>?_⟩
   ·rcases e6 with⟨k',hk',-⟩|⟨e6,e7,-⟩
    ·rw [hk',onb_start] at hk;cases hk
    ·rw [<-e7];exact f6 (by rw [e6];rfl)
   ·rcases e6 with⟨k',hk',e8,e9⟩|⟨e6,e7,e8⟩
    ·rw [<-e9];exact f6 (by rw [e8];rfl)
    ·rw [e8] at hk;cases hk
 ·rcases hB.get b hb with⟨i,hi⟩|⟨b',hb',e1,-,-,-,e5,-⟩
  ·rw [hi,onb_start] at h1;cases h1
  ·rcases hB.get c hc with⟨i,hi⟩|⟨c',hc',f1,-,-,-,f5,-⟩
   ·rw [hi,onb_start] at h2;cases h2
   ·rw [<-e1,<-f1];exact h.k.ne b' hb' c' hc' (by rw [e1,f1];exact hne) (by rw [e5];rfl) (by rw [f5];rfl)
def Bd.fin (b:Bd):Bd:={b with ia:=none,ik:=none,P0:=VT}
def Gets (ops:Array Oper)(V:Nat->VP)(SL:List (Nat×VP)):List (Nat×VP)->Prop
 | []=>True
 |p::l=>((p∈SL/\ops.all (fun o=>o.dst !=some p.1)=true)∨∃i,(ops[i]?).bind (·.dst)=some p.1/\V i=p.2)/\Gets ops V SL l
theorem Gets.get:∀{l:List (Nat×VP)},Gets ops V SL l->∀p∈l,(p∈SL/\ops.all (fun o=>o.dst !=some p.1)=true)∨∃i,(ops[i]?).bind (·.dst)=some p.1/\V i=p.2
 |_::_,h,_,.head _=>h.1
 |_::_,h,p,.tail _ hp=>Gets.get h.2 p hp
theorem KI.st {N:Nat}{listed:Array Bool}{a:Act}{w:World}(h:KI md ops a0 V n0 w0 B SL listed a w)(hall:∀i,i<ops.size->listed.getD i false=true)(hN:a0.tmps.size=N)(hd0:a0.defers= [])(hlt:B.all (fun b=>(match b.ia with|some i=>decide (i<ops.size)|none=>true) && (match b.ik with|some i=>decide (i<ops.size)|none=>true))=true)(SL':List (Nat×VP))(hg:Gets ops V SL SL'):
 St n0 w0 N (B.map Bd.fin) SL' a w:=by
 have hon:∀b∈B,onb listed b.ia=true/\onb listed b.ik=true:=fun b hb=>by
  rw [List.all_eq_true] at hlt;have:=hlt b hb;rw [Bool.and_eq_true] at this;refine⟨?_,?_⟩
  ·cases hi:b.ia with
   |none=>rfl
   |some i=>rw [hi] at this;exact hall i (of_decide_eq_true this.1)
  ·cases hi:b.ik with
   |none=>rfl
   |some i=>rw [hi] at this;exact hall i (of_decide_eq_true this.2)
 refine⟨⟨h.k.below,fun b hb _=>?_,fun b hb c hc hne _ _=>?_,fun b hb hn1 _=>by
  obtain⟨c,hc,rfl⟩:=List.mem_map.1 hb
  exact absurd rfl hn1⟩,h.n,by rw [h.size,hN],by rw [h.defers,hd0],fun p hp=>?_⟩
 ·obtain⟨c,hc,rfl⟩:=List.mem_map.1 hb;obtain⟨g,cs,f1,f2,f3,f4,f5,f6,-⟩:=h.k.ok c hc (hon c hc).1;exact⟨g,cs,f1,f2,f3,f4,f5,fun _=>f6 (hon c hc).2,fun _ hk=>by cases hk⟩
 ·obtain⟨b',hb',rfl⟩:=List.mem_map.1 hb;obtain⟨c',hc',rfl⟩:=List.mem_map.1 hc;exact h.k.ne b' hb' c' hc' hne (hon b' hb').1 (hon c' hc').1
 ·rcases hg.get p hp with⟨h1,h2⟩|⟨i,hi,hv⟩
  ·have:=h.other p.1 fun i o ho=>by
    rw [Array.all_eq_true'] at h2;have:=h2 o (Array.mem_of_getElem? ho)
    simpa using this
   obtain⟨v,e1,e2⟩:=h.sl p h1;exact⟨v,by rw [this];exact e1,e2⟩
  ·cases ho:ops[i]? with
   |none=>rw [ho] at hi;cases hi
   |some o=>
    rw [ho] at hi
    have hlt':i<ops.size:=by
     rcases Nat.lt_or_ge i ops.size with h'|h'
     ·exact h'
     ·rw [Array.getElem?_eq_none h'] at ho;cases ho
    obtain⟨v,e1,e2⟩:=h.own i o p.1 ho (hall i hlt') hi;exact⟨v,e1,by rw [<-hv];exact e2⟩
theorem St.begin {N:Nat}{a:Act}{w:World}(hN:a.tmps.size=N)(D:a.defers= [])(hsl:∀p∈SL,∃v,a.tmps[p.1]? =some v/\p.2 v w):St w.heap.size w N [] SL a w:=
 ⟨{below:=Below.refl _ _,ok:=fun _ h=>absurd h (by simp),ne:=fun _ h=>absurd h (by simp),fa:=fun _ h=>absurd h (by simp)},Nat.le_refl _,hN,D,hsl⟩
theorem St.slot {N:Nat}{L:List Bd}{a:Act}{w:World}(h:St n0 w0 N L SL a w)(p:Nat×VP)(hp:p∈SL):∃v,a.eval (.tmp p.1)=v/\p.2 v w:=by
 obtain⟨v,e1,e2⟩:=h.sl p hp;exact⟨v,by simp [Act.eval,Array.getD_eq_getD_getElem?,e1],e2⟩
theorem St.res {N:Nat}{L:List Bd}{a:Act}{w:World}(h:St n0 w0 N L SL a w)(b:Bd)(hb:b∈L)(hia:b.ia=none)(hik:b.ik=none):∃g cs,a.tmps.getD b.t undef= .pointer (some ⟨g,0,none⟩)/\w.heap[g]? =some (.cells cs b.T (0,0))/\cs.size=b.m/\b.P (.agg cs) w/\Below n0 w0 w:=by
 obtain⟨g,cs,f1,f2,f3,f4,f5,f6,-⟩:=h.k.ok b hb (by rw [hia];rfl);exact⟨g,cs,by simp [Array.getD_eq_getD_getElem?,f1],f3,f4,f6 (by rw [hik];rfl),h.k.below⟩
theorem St.sub {N:Nat}{L L':List Bd}{SL':List (Nat×VP)}{a:Act}{w:World}(h:St n0 w0 N L SL a w)(hL:∀b∈L',b∈L)(hS:∀p∈SL',p∈SL):St n0 w0 N L' SL' a w:=
 ⟨⟨h.k.below,fun b hb=>h.k.ok b (hL b hb),fun b hb c hc=>h.k.ne b (hL b hb) c (hL c hc),fun b hb=>h.k.fa b (hL b hb)⟩,h.n,h.size,h.defers,fun p hp=>h.sl p (hS p hp)⟩
end



theorem zvs_append (a b:List Int):zvs (a++b)=zvs a++zvs b:=by simp [zvs]
theorem append_one (g:Nat)(s:Int)(p:Option Addr)(n c:Nat)(D:List Int)(W:World)(hB:Blk W g [s])(hR:Rdi W p D)(hn:n=D.length)(hlim:n<=1099511627776):
 ∃pp cc W',(Builtin.append_ #[22,22] 22 #[.slice (some ⟨g,0,none⟩) 1 1,.slice p n c]).run Tryz.prog W= .ok (.slice pp (n+1) cc) W'/\Rdi W' pp (s::D)/\n+1<=cc/\cc<=9223372036854775807/\Below W.heap.size W W':=by
 obtain⟨i0,hi,hz0,hz1,hz2⟩:=info_parts info_i64;by_cases h0:D= []
 ·subst h0;obtain rfl:n=0:=hn;cases p with
  |none=>
   refine⟨some ⟨g,0,none⟩,1,W,?_,hB.rdi,Nat.le_refl _,by omega,Below.refl _ _⟩;simp [Builtin.append_,run_underlying Tryz.underlying22,sizeOf,typeInfo,hi,Builtin.lenOf,Builtin.firstCells,loadCells,storeCells]
  |some a=>
   have hr:=run_append_room (P:=Tryz.prog) W 22 22 3 i0 Tryz.underlying22 hi g 1 1 (zvs [s]).toArray hB a 0 c [] (by simp) (by simp) (by simp) (by omega) (by simp [hz1,zvs]);refine⟨some ⟨g,0,none⟩,1,_,hr,?_,Nat.le_refl _,by omega,?_⟩
   ·have:W.setRow g ((zvs [s]).toArray.toList.take (1*i0.size)++ []++(zvs [s]).toArray.toList.drop (1*i0.size+0)).toArray=W:=by
     have h:=setRow_self W g (zvs [s]).toArray 3 (0,0) hB
     simpa [zvs,hz1] using h
    rw [show([]:List Value).length=0 from rfl,this];exact hB.rdi
   ·have:W.setRow g ((zvs [s]).toArray.toList.take (1*i0.size)++ []++(zvs [s]).toArray.toList.drop (1*i0.size+0)).toArray=W:=by
     have h:=setRow_self W g (zvs [s]).toArray 3 (0,0) hB
     simpa [zvs,hz1] using h
    rw [show([]:List Value).length=0 from rfl,this];exact Below.refl _ _
 ·rcases hR with h|⟨b,off,rfl,hc⟩
  ·exact absurd h h0
  ·have hpos:0<n:=by
    rcases Nat.eq_zero_or_pos n with h|h
    ·rw [h] at hn;exact absurd (List.eq_nil_of_length_eq_zero hn.symm) h0
    ·exact h
   have hown:∀j u,(zvs [s])[j]? =some u->W.cell? ((⟨g,0,none⟩:Addr).add j)=some u:=Rdi_news (fun i hi=>by
    obtain rfl:i=0:=by simpa using hi
    exact hB.cell (by simp))
   have hr:=run_append_grow (P:=Tryz.prog) W 22 22 3 i0 (.int .i64 0) Tryz.underlying22 hi hz0 ⟨g,0,none⟩ 1 1 (zvs [s]) (by simp [zvs,hz1]) hown ⟨b,off,none⟩ n c (zvs D) (by rw [zvs_length,hz1,hn];omega) (Rdi_news hc) (by omega) (by omega) (growslice_fits (by omega) (by rw [hz2];omega));have hge:=grownCap_ge W (1+n) 1 3;have hcm:grownCap W (1+n) 1 3<=maxLen:=grownCap_le_maxLen W (1+n) 1 3 (by unfold maxLen;omega);unfold maxLen at hcm;rw [show 1+n=n+1 by omega] at hr hge hcm;refine⟨_,_,_,hr,?_,hge,hcm,?_⟩
   ·refine .inr ⟨W.heap.size,0,rfl,fun j hj=>?_⟩;have hn1:=heap_alloc_new W.drew (.cells ((zvs [s]).toArray++(zvs D).toArray++Builtin.zeroCells (Value.int .i64 0).cells (grownCap W (n+1) 1 3 - (n+1))) 3);have hl:j<(zvs (s::D)).length:=by rw [zvs_length];exact hj
    have e1:((zvs [s]).toArray++(zvs D).toArray)=(zvs (s::D)).toArray:=by
     rw [show s::D= [s]++D from rfl,zvs_append];simp
    rw [e1] at hn1 ⊢;show(W.drew.alloc _).cell? ⟨W.heap.size,0+j,none⟩=_;unfold World.cell?;rw [show(⟨W.heap.size,0+j,none⟩:Addr).block=W.drew.heap.size from rfl,hn1];rw [Nat.zero_add];show((zvs (s::D)).toArray++_)[j]? =_;rw [Array.getElem?_append_left (by simpa using hl)];exact zvs_get hj
   ·exact(below_drewN (Below.refl _ W) 1).alloc (Nat.le_refl _) _
def Bx (w:World)(nx:Bool)(px:Option Addr)(n c:Nat)(W:World):Prop:=W.heap[w.heap.size]? =some (.cells #[.bool nx,.slice px n c] 28 (0,0))/\Below w.heap.size w W
section
variable {w W w':World}{nx:Bool}{px:Option Addr}{n c:Nat}
theorem Bx.facts (h:Bx w nx px n c W):W.cell? ⟨w.heap.size,0,none⟩=some (.bool nx)/\W.cell? ⟨w.heap.size,1,none⟩=some (.slice px n c):=by
 obtain⟨h1,_⟩:=h;exact⟨by simp [World.cell?,h1],by simp [World.cell?,h1]⟩
theorem Bx.start (w:World):Bx w nx px n c (w.alloc (.cells #[.bool nx,.slice px n c] 28)):=⟨heap_alloc_new _ _,below_new _ _⟩
end


def RV2 (V1 V2:VP)(W:World)(e:Ending)(w':World):Prop:=∃v1 v2,e= .returned (.tuple #[v1,v2])/\V1 v1 w'/\V2 v2 w'/\Below W.heap.size W w'
theorem dl_dq (a b:Int):(digs (dq a b).natAbs).length<=(digs a.natAbs).length:=by
 apply digs_len_mono;unfold dq;split
 ·simp
 ·exact Int.natAbs_ediv_le_natAbs a b
theorem dl_dr (a b:Int):(digs (dr a b).natAbs).length<=(digs b.natAbs).length:=by
 apply digs_len_mono;unfold dr;split
 ·simp
 ·have h1:=Int.emod_nonneg a (b:=b) (by assumption);have h2:=Int.emod_lt a (b:=b) (by assumption);omega
section
variable {W:World}{Na Nb:Nat}{a b:Int}{v1 v2:Value}
theorem cDiv (h1:Vz Na a v1 W)(h2:Vz Nb b v2 W)(hN1:Na<=1000000:=by omega)(hN2:Nb<=1000000:=by omega):Calls Tryz.prog 145 #[v1,v2] W (RV2 (Vz Na (dq a b)) (Vz Nb (dr a b)) W):=by
 obtain⟨nb,p,n,c,rfl,hI,hn⟩:=h1;obtain⟨nb2,p2,n2,c2,rfl,hI2,hn2⟩:=h2
 exact(Div_any _ _ _ _ _ _ _ _ a b W hI hI2 (by omega) (by omega)).mono fun e w' ⟨nb3,p3,n3,c3,nb4,p4,n4,c4,he,h3,h4,hb,_⟩=>by
  refine⟨_,_,he,⟨_,_,_,_,rfl,h3,?_⟩,⟨_,_,_,_,rfl,h4,?_⟩,hb⟩
  ·have:=dl_dq a b;rw [h3.2.1];have:=hI.2.1;omega
  ·have:=dl_dr a b;rw [h4.2.1];have:=hI2.2.1;omega
end
section
structure Lh (P X Y a0 b0 xl yl s U0 U1 L0 L1 a b:Int)(found:Bool):Prop where
 P0:0<P
 hX:X=a0*P+xl
 hY:Y=b0*P+yl
 xl0:0<=xl
 xl1:xl<=P
 yl0:0<=yl
 yl1:yl<=P
 s1:s=1∨s= -1
 U00:0<=U0
 U10:0<=U1
 L00:0<=L0
 L10:0<=L1
 ea:a=s*U0*a0 - s*U1*b0
 eb:b=s*L1*b0 - s*L0*a0
 key:a*L1+b*U1=a0
 bl0:0<=b - s*L0
 bl1:0<=b+s*L1
 au0:0<=a+s*U0
 au1:0<=a - s*U1
 L01:L0<=L1
 L1p:1<=L1
 U01:(U0<=U1/\1<=U1/\found=true)∨(U0=1/\U1=0/\L0=0/\L1=1/\s=1/\b<=a)
 L1b:L1<1000000000
 U0b:U0<1000000000
 U1b:U1<1000000000
 ord:s*L1*Y - s*L0*X<=s*U0*X - s*U1*Y
 top:s*U0*X - s*U1*Y<=X
 gcd:Int.gcd (s*U0*X - s*U1*Y) (s*L1*Y - s*L0*X)=Int.gcd X Y
 dec:found=true->(s*U0*X - s*U1*Y)+(s*L1*Y - s*L0*X)<X+Y
 sum:(s*U0*X - s*U1*Y)+(s*L1*Y - s*L0*X)<=X+Y
theorem Lh.init {P X Y a0 b0 xl yl:Int}(P0:0<P)(hX:X=a0*P+xl)(hY:Y=b0*P+yl)(xl0:0<=xl)(xl1:xl<=P)(yl0:0<=yl)(yl1:yl<=P)(ha:0<=a0)(hb:0<=b0)(hab:b0<=a0)(hXY:Y<=X):Lh P X Y a0 b0 xl yl 1 1 0 0 1 a0 b0 false where
 P0:=P0
 hX:=hX
 hY:=hY
 xl0:=xl0
 xl1:=xl1
 yl0:=yl0
 yl1:=yl1
 s1:= .inl rfl
 U00:=by omega
 U10:=by omega
 L00:=by omega
 L10:=by omega
 ea:=by omega
 eb:=by omega
 key:=by omega
 bl0:=by omega
 bl1:=by omega
 au0:=by omega
 au1:=by omega
 L01:=by omega
 L1p:=by omega
 U01:= .inr ⟨rfl,rfl,rfl,rfl,rfl,hab⟩
 L1b:=by omega
 U0b:=by omega
 U1b:=by omega
 ord:=by omega
 top:=by omega
 gcd:=by simp
 dec:=by intro h;cases h
 sum:=by omega
variable {P X Y a0 b0 xl yl s U0 U1 L0 L1 a b:Int}{found:Bool}
theorem Lh.X' (h:Lh P X Y a0 b0 xl yl s U0 U1 L0 L1 a b found):s*U0*X - s*U1*Y=a*P+s*U0*xl - s*U1*yl:=by
 rw [h.ea,h.hX,h.hY];grind
theorem Lh.Y' (h:Lh P X Y a0 b0 xl yl s U0 U1 L0 L1 a b found):s*L1*Y - s*L0*X=b*P+s*L1*yl - s*L0*xl:=by
 rw [h.eb,h.hX,h.hY];grind
theorem mix_lo {c P p q x y m:Int}(hx0:0<=x)(hx1:x<=P)(hy0:0<=y)(hp:0<=p)(hq:0<=q)(h:m<=c - p):m*P<=c*P - p*x+q*y:=by
 have h1:p*x<=p*P:=Int.mul_le_mul_of_nonneg_left hx1 hp;have h2:0<=q*y:=Int.mul_nonneg hq hy0;have h3:m*P<=(c - p)*P:=Int.mul_le_mul_of_nonneg_right h (by omega);have h4:(c - p)*P=c*P - p*P:=by grind
 omega
theorem Lh.lowNonneg (h:Lh P X Y a0 b0 xl yl s U0 U1 L0 L1 a b found):0<=s*L1*Y - s*L0*X:=by
 rw [h.Y'];rcases h.s1 with hs|hs
 ·subst hs;have:=mix_lo (c:=b) (P:=P) (p:=L0) (q:=L1) (x:=xl) (y:=yl) (m:=0) h.xl0 h.xl1 h.yl0 h.L00 h.L10 (by have:=h.bl0;omega);have e1:(1:Int)*L1*yl=L1*yl:=by grind
  have e2:(1:Int)*L0*xl=L0*xl:=by grind
  omega
 ·subst hs;have:=mix_lo (c:=b) (P:=P) (p:=L1) (q:=L0) (x:=yl) (y:=xl) (m:=0) h.yl0 h.yl1 h.xl0 h.L10 h.L00 (by have:=h.bl1;omega);have e1:(-1:Int)*L1*yl= -(L1*yl):=by grind
  have e2:(-1:Int)*L0*xl= -(L0*xl):=by grind
  omega
theorem Lh.bpos (h:Lh P X Y a0 b0 xl yl s U0 U1 L0 L1 a b found):0<=b:=by
 have:=h.bl0;have:=h.bl1;have:=h.L00;have:=h.L10;rcases h.s1 with hs|hs<;>subst hs<;>omega
theorem Lh.apos (h:Lh P X Y a0 b0 xl yl s U0 U1 L0 L1 a b found):0<=a:=by
 have:=h.au0;have:=h.au1;have:=h.U00;have:=h.U10;rcases h.s1 with hs|hs<;>subst hs<;>omega
theorem Lh.step (h:Lh P X Y a0 b0 xl yl s U0 U1 L0 L1 a b found)(q:Int)(hq0:0<=q)
 (h00:0<=(a+s*U0) - q*(b - s*L0)) (h01:(a+s*U0) - q*(b - s*L0)<b - s*L0) (h10:0<=(a - s*U1) - q*(b+s*L1)) (h11:(a - s*U1) - q*(b+s*L1)<b+s*L1) (hb:U1+q*L1<1000000000):
 Lh P X Y a0 b0 xl yl (-s) L0 L1 (U0+q*L0) (U1+q*L1) b (a - q*b) true:=by
 have hqL0:0<=q*L0:=Int.mul_nonneg hq0 h.L00;have hqL1:0<=q*L1:=Int.mul_nonneg hq0 h.L10;have hq01:q*L0<=q*L1:=Int.mul_le_mul_of_nonneg_left h.L01 hq0;have hbp:=h.bpos;have hY0:=h.lowNonneg;have hX':=h.X';have hY':=h.Y'
 have q1:U0+q*L0<=U1+q*L1:=by
  rcases h.U01 with h1|⟨rfl,rfl,rfl,rfl,rfl,hba⟩
  ·omega
  ·have:q≠0:=by
    rintro rfl
    omega
   omega
 have hU1':1<=U1+q*L1:=by
  rcases h.U01 with h1|⟨rfl,rfl,rfl,rfl,rfl,hba⟩
  ·omega
  ·have:q≠0:=by
    rintro rfl
    omega
   omega
 have hs2: -s=1∨ -s= -1:=by rcases h.s1 with hs|hs<;>subst hs<;>simp
 have hU00:=h.U00;have hU10:=h.U10;have hL1b:=h.L1b
 -- the numbers of the new row
 have eX: -s*L0*X - -s*L1*Y=s*L1*Y - s*L0*X:=by grind
 have eY: -s*(U1+q*L1)*Y - -s*(U0+q*L0)*X=(s*U0*X - s*U1*Y) - q*(s*L1*Y - s*L0*X):=by grind
 have hY2:(s*U0*X - s*U1*Y) - q*(s*L1*Y - s*L0*X)=(a - q*b)*P+s*(U0+q*L0)*xl - s*(U1+q*L1)*yl:=by rw [hX',hY'];grind
 have hlt:(s*U0*X - s*U1*Y) - q*(s*L1*Y - s*L0*X)<s*L1*Y - s*L0*X:=by
  rw [hY2,hY'];have hP:=h.P0;have e:(b*P+s*L1*yl - s*L0*xl) - ((a - q*b)*P+s*(U0+q*L0)*xl - s*(U1+q*L1)*yl)=(b - (a - q*b))*P - s*(L0+(U0+q*L0))*xl+s*(L1+(U1+q*L1))*yl:=by grind
  have hge:1*P<=(b - (a - q*b))*P - s*(L0+(U0+q*L0))*xl+s*(L1+(U1+q*L1))*yl:=by
   rcases h.s1 with hs|hs
   ·subst hs
    have:=mix_lo (c:=b - (a - q*b)) (P:=P) (p:=L0+(U0+q*L0)) (q:=L1+(U1+q*L1)) (x:=xl) (y:=yl) (m:=1) h.xl0 h.xl1 h.yl0 (by have:=h.L00;omega) (by have:=h.L10;omega) (by
     have e1:q*(b - 1*L0)=q*b - q*L0:=by grind
     omega)
    simp only [Int.one_mul] at this ⊢;exact this
   ·subst hs
    have:=mix_lo (c:=b - (a - q*b)) (P:=P) (p:=L1+(U1+q*L1)) (q:=L0+(U0+q*L0)) (x:=yl) (y:=xl) (m:=1) h.yl0 h.yl1 h.xl0 (by have:=h.L10;omega) (by have:=h.L00;omega) (by
     have e1:q*(b+ -1*L1)=q*b - q*L1:=by grind
     omega)
    have e2:(b - (a - q*b))*P - -1*(L0+(U0+q*L0))*xl+ -1*(L1+(U1+q*L1))*yl=(b - (a - q*b))*P - (L1+(U1+q*L1))*yl+(L0+(U0+q*L0))*xl:=by grind
    rw [e2];exact this
  omega
 have hY'pos:0<s*L1*Y - s*L0*X:=by
  -- the rest is not negative
  rcases Int.lt_or_le 0 (s*L1*Y - s*L0*X)with h1|h1
  ·exact h1
  ·exfalso;have h2:s*L1*Y - s*L0*X=0:=by omega
   rw [h2] at hlt;have h3:=h.ord;rw [h2] at h3;omega
 have hqY:0<=q*(s*L1*Y - s*L0*X):=Int.mul_nonneg hq0 (by omega)
 exact{
  P0:=h.P0
  hX:=h.hX
  hY:=h.hY
  xl0:=h.xl0
  xl1:=h.xl1
  yl0:=h.yl0
  yl1:=h.yl1
  s1:=hs2
  U00:=h.L00
  U10:=h.L10
  L00:=by omega
  L10:=by omega
  ea:=by rw [h.eb];grind
  eb:=by rw [h.ea,h.eb];grind
  key:=by rw [<-h.key];grind
  bl0:=by
   have e1:(a+s*U0) - q*(b - s*L0)=a - q*b - -s*(U0+q*L0):=by grind
   omega
  bl1:=by
   have e1:(a - s*U1) - q*(b+s*L1)=a - q*b+ -s*(U1+q*L1):=by grind
   omega
  au0:=by
   have:=h.bl0;have e: -s*L0= -(s*L0):=by grind
   omega
  au1:=by
   have:=h.bl1;have e: -s*L1= -(s*L1):=by grind
   omega
  L01:=q1
  L1p:=hU1'
  U01:= .inl ⟨h.L01,h.L1p,rfl⟩
  L1b:=hb
  U0b:=by have:=h.L01;omega
  U1b:=hL1b
  ord:=by rw [eX,eY];omega
  top:=by rw [eX];have:=h.ord;have:=h.top;omega
  gcd:=by
   rw [eX,eY,<-h.gcd];generalize s*U0*X - s*U1*Y=x;generalize s*L1*Y - s*L0*X=y;rw [Int.gcd_comm y,Int.gcd_comm x y];have:x - q*y=x+y* -q:=by grind
   rw [this,Int.gcd_add_mul_left_left,Int.gcd_comm]
  dec:=by
   intro _;rw [eX,eY];have h1:=h.sum;by_cases e:q=0
   ·-- then a row has been made before
    subst e;rcases h.U01 with h2|⟨rfl,rfl,rfl,rfl,rfl,hba⟩
    ·have h3:=h.dec h2.2.2;omega
    ·exfalso;omega
   ·have:1*(s*L1*Y - s*L0*X)<=q*(s*L1*Y - s*L0*X):=Int.mul_le_mul_of_nonneg_right (by omega) (by omega);omega
  sum:=by
   rw [eX,eY];have h1:=h.sum
   omega}
end
end Go.Proofs.YteacdbgalloaiaaGreat
