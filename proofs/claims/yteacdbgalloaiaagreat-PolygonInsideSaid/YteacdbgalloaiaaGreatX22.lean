/- Contracts of the packages integer, rat, plane, polygon and their references. -/
import Derived.Test.YteacdbgalloaiaaGreatX21
set_option linter.unusedVariables false
set_option maxRecDepth 100000
set_option maxHeartbeats 6400000
namespace Go.Proofs.YteacdbgalloaiaaGreat
open Go.RowKit
open Go
section
variable {ρ:Operand->Value}{o:Oper}{w W:World}{x y:Operand}{va vb:Value}{N:Nat}{vs:List P2}
theorem bslice_I8 (ho:o.op= .buildSlice 22 8 #[(0,.const (.int .i64 0)),(1,.const (.int .i64 0)),(2,.const (.int .i64 4)),(3,.const (.int .i64 0)),(4,.const (.int .i64 4)),(5,.const (.int .i64 4)),(6,.const (.int .i64 0)),(7,.const (.int .i64 4))])(hc:∀v,ρ (.const v)=v):∃v w',(execOp ρ o).run Tryz.prog W= .ok (.value v) w'/\Below W.heap.size W w'/\VI [0,0,4,0,4,4,0,4] v w':=by
 have hb:=below_new W (.cells #[.int .i64 0,.int .i64 0,.int .i64 4,.int .i64 0,.int .i64 4,.int .i64 4,.int .i64 0,.int .i64 4] 3);have e:=heap_alloc_new W (.cells #[.int .i64 0,.int .i64 0,.int .i64 4,.int .i64 0,.int .i64 4,.int .i64 4,.int .i64 0,.int .i64 4] 3);refine⟨.slice (some ⟨W.heap.size,0,none⟩) 8 8,_,?_,hb,⟨_,8,8,rfl,.inr ⟨_,0,rfl,fun i hi=>?_⟩,rfl,fun i hi=>?_⟩⟩
 ·clear hb e;obtain⟨dd,op,ty,ps,af,gd⟩:=o;subst ho
  go_simp
 ·simp only [World.cell?,e]
  match i,hi with
  |0,_=>rfl
  |1,_=>rfl
  |2,_=>rfl
  |3,_=>rfl
  |4,_=>rfl
  |5,_=>rfl
  |6,_=>rfl
  |7,_=>rfl
  |i+8,hi=>exact absurd hi (by simp)
 ·match i,hi with
  |0,_=>exact⟨by decide,by decide⟩
  |1,_=>exact⟨by decide,by decide⟩
  |2,_=>exact⟨by decide,by decide⟩
  |3,_=>exact⟨by decide,by decide⟩
  |4,_=>exact⟨by decide,by decide⟩
  |5,_=>exact⟨by decide,by decide⟩
  |6,_=>exact⟨by decide,by decide⟩
  |7,_=>exact⟨by decide,by decide⟩
  |i+8,hi=>exact absurd hi (by simp)
theorem bslice_I12 (ho:o.op= .buildSlice 22 12 #[(0,.const (.int .i64 0)),(1,.const (.int .i64 0)),(2,.const (.int .i64 4)),(3,.const (.int .i64 0)),(4,.const (.int .i64 4)),(5,.const (.int .i64 2)),(6,.const (.int .i64 2)),(7,.const (.int .i64 2)),(8,.const (.int .i64 2)),(9,.const (.int .i64 4)),(10,.const (.int .i64 0)),(11,.const (.int .i64 4))])(hc:∀v,ρ (.const v)=v):∃v w',(execOp ρ o).run Tryz.prog W= .ok (.value v) w'/\Below W.heap.size W w'/\VI [0,0,4,0,4,2,2,2,2,4,0,4] v w':=by
 have hb:=below_new W (.cells #[.int .i64 0,.int .i64 0,.int .i64 4,.int .i64 0,.int .i64 4,.int .i64 2,.int .i64 2,.int .i64 2,.int .i64 2,.int .i64 4,.int .i64 0,.int .i64 4] 3);have e:=heap_alloc_new W (.cells #[.int .i64 0,.int .i64 0,.int .i64 4,.int .i64 0,.int .i64 4,.int .i64 2,.int .i64 2,.int .i64 2,.int .i64 2,.int .i64 4,.int .i64 0,.int .i64 4] 3);refine⟨.slice (some ⟨W.heap.size,0,none⟩) 12 12,_,?_,hb,⟨_,12,12,rfl,.inr ⟨_,0,rfl,fun i hi=>?_⟩,rfl,fun i hi=>?_⟩⟩
 ·clear hb e;obtain⟨dd,op,ty,ps,af,gd⟩:=o;subst ho
  go_simp
 ·simp only [World.cell?,e]
  match i,hi with
  |0,_=>rfl
  |1,_=>rfl
  |2,_=>rfl
  |3,_=>rfl
  |4,_=>rfl
  |5,_=>rfl
  |6,_=>rfl
  |7,_=>rfl
  |8,_=>rfl
  |9,_=>rfl
  |10,_=>rfl
  |11,_=>rfl
  |i+12,hi=>exact absurd hi (by simp)
 ·match i,hi with
  |0,_=>exact⟨by decide,by decide⟩
  |1,_=>exact⟨by decide,by decide⟩
  |2,_=>exact⟨by decide,by decide⟩
  |3,_=>exact⟨by decide,by decide⟩
  |4,_=>exact⟨by decide,by decide⟩
  |5,_=>exact⟨by decide,by decide⟩
  |6,_=>exact⟨by decide,by decide⟩
  |7,_=>exact⟨by decide,by decide⟩
  |8,_=>exact⟨by decide,by decide⟩
  |9,_=>exact⟨by decide,by decide⟩
  |10,_=>exact⟨by decide,by decide⟩
  |11,_=>exact⟨by decide,by decide⟩
  |i+12,hi=>exact absurd hi (by simp)
theorem drop_Sv {n:Nat}(ho:o.op= .slice 23 x (some y) none none)(hx:ρ x=va)(h:VAt w (VSv N vs) va W)(hy:ρ y=vb)(hn:Vi (n:Int) vb W)(hlt:n<vs.length):∃v,(execOp ρ o).run Tryz.prog W= .ok (.value v) W/\VAt w (VSv N (vs.drop n)) v W:=by
 obtain rfl:vb=_:=hn;rcases h with⟨-,rfl⟩|⟨hh,oo,c,cs,rfl,e2,e3,e4,e5,e6⟩
 ·simp at hlt
 have hl:(vs.drop n).length=vs.length - n:=List.length_drop;refine⟨.slice (some ⟨hh,oo+8*n,none⟩) (vs.drop n).length (c - n),?_,.inr ⟨hh,oo+8*n,c - n,cs,rfl,by omega,by omega,e4,by omega,fun i z hz=>?_⟩⟩
 ·rw [hl];have q1:(n:Int)<=(vs.length:Int):=by omega
  have q2:(n:Int)<=(c:Int):=by omega
  have q3:(vs.length:Int)<=(c:Int):=by omega
  have q4:¬c=n:=by omega
  have q5:n*8=8*n:=Nat.mul_comm _ _;clear hl e6 e5 e4 e2 e3 hlt;generalize vs.length=m at*
  obtain⟨dd,op,ty,ps,af,gd⟩:=o;subst ho
  go_simp
 ·rw [List.getElem?_drop] at hz;have:=e6 _ _ hz;rw [Nat.mul_add,<-Nat.add_assoc] at this;exact this
theorem take_Sv {n:Nat}(ho:o.op= .slice 23 x none (some y) none)(hx:ρ x=va)(h:VAt w (VSv N vs) va W)(hy:ρ y=vb)(hn:Vi (n:Int) vb W)(hle:n<=vs.length)(h0:0<vs.length):∃v,(execOp ρ o).run Tryz.prog W= .ok (.value v) W/\VAt w (VSv N (vs.take n)) v W:=by
 obtain rfl:vb=_:=hn;rcases h with⟨-,rfl⟩|⟨hh,oo,c,cs,rfl,e2,e3,e4,e5,e6⟩
 ·simp at h0
 have hl:(vs.take n).length=n:=by rw [List.length_take];omega
 refine⟨.slice (some ⟨hh,oo,none⟩) (vs.take n).length c,?_,.inr ⟨hh,oo,c,cs,rfl,by omega,by omega,e4,by omega,fun i z hz=>?_⟩⟩
 ·rw [hl];have q1:(n:Int)<=(vs.length:Int):=by omega
  have q2:(n:Int)<=(c:Int):=by omega
  have q3:(vs.length:Int)<=(c:Int):=by omega
  have q4:¬c=0:=by omega
  clear hl e6 e5 e4 e2 e3 hle h0;generalize vs.length=m at*
  obtain⟨dd,op,ty,ps,af,gd⟩:=o;subst ho
  go_simp
 ·rw [List.getElem?_take] at hz;split at hz
  ·exact e6 _ _ hz
  ·cases hz
theorem len_SvA (ho:o.op= .call {callee:= .builtin .len,args:=#[x],argTypes:=#[23]})(hty:o.type=3)(hx:ρ x=va)(h:VAt w (VSv N vs) va W):∃v,(execOp ρ o).run Tryz.prog W= .ok (.value v) W/\Vi (vs.length:Int) v W:=len_Sv ho hty hx (show VEq va va W from rfl) h
end
theorem polyR_len (l:List Int):3<=(polyR l).length/\(polyR l).length<=12:=by
 unfold polyR;split
 ·rename_i h;exact validR_len h
 ·exact⟨by show 3<=4;omega,by show 4<=12;omega⟩
def mid2 (a b:P2):P2:=(midQ a.1 b.1,midQ a.2 b.2)
theorem cv_gets {vs:List P2}{k:Nat}(h:k<vs.length):vs[k]? =some (cv vs k):=by
 have:=cv_get (vs:=vs) k (by omega);rwa [Nat.mod_eq_of_lt h] at this
section
variable {ρ:Operand->Value}{o:Oper}{w W:World}{x y:Operand}{va vb:Value}{N:Nat}{vs:List P2}
theorem index_SvA {a:P2}{j:Nat}(ho:o.op= .indexAddr 23 x y)(hx:ρ x=va)(h:VAt w (VSv N vs) va W)(hy:ρ y=vb)(hb:Vi (j:Int) vb W)(hz:vs[j]? =some a):∃v,(execOp ρ o).run Tryz.prog W= .ok (.value v) W/\VAt w (VEp 32 8 (Vv N a.1 a.2)) v W:=index_Sv ho hx (show VEq va va W from rfl) h hy hb hz
end
def sqV:List P2:=[(0,0),(4,0),(4,4),(0,4)]
def anV:List P2:=[(0,0),(4,0),(4,2),(2,2),(2,4),(0,4)]
theorem sq_ofL:ofL [0,0,4,0,4,4,0,4] 4=sqV:=by decide+kernel
theorem an_ofL:ofL [0,0,4,0,4,2,2,2,2,4,0,4] 6=anV:=by decide+kernel
theorem sq_convex:convexP sqV=true:=by decide+kernel
theorem an_valid:validP anV=true:=by decide+kernel
theorem an_convex:convexP anV=false:=by decide+kernel
theorem sq_two:validP (sqV.take 2)=false:=by decide+kernel
theorem sq_area:areaQ sqV=Rat.divInt 16 1:=by decide+kernel
theorem an_area:areaQ anV=Rat.divInt 12 1:=by decide+kernel
theorem sq_ctr:ctr sqV=(Rat.divInt 2 1,Rat.divInt 2 1):=by decide+kernel
theorem an_ctr:ctr anV=(Rat.divInt 5 3,Rat.divInt 5 3):=by decide+kernel
theorem an_boxL:bxL anV=(0,0):=by decide+kernel
theorem an_boxH:bxH anV=(Rat.divInt 4 1,Rat.divInt 4 1):=by decide+kernel
theorem sq_mts:mts (0,0) (4,4) (4,0) (0,4)=true:=by decide+kernel
theorem sq_mts2:mts (0,0) (4,0) (4,4) (0,4)=false:=by decide+kernel
theorem sq_has1:hasI sqV (Rat.divInt 2 1,Rat.divInt 2 1)=1:=by decide+kernel
theorem sq_has0:hasI sqV (Rat.divInt 4 1,Rat.divInt 1 1)=0:=by decide+kernel
theorem sq_hasN:hasI sqV (Rat.divInt 5 1,Rat.divInt 1 1)= -1:=by decide+kernel
theorem an_hasN:hasI anV (Rat.divInt 3 1,Rat.divInt 3 1)= -1:=by decide+kernel
structure En where
 t:Nat
 i:Option Nat
 j:Option Nat
 P:VP
def XE (es:List En)(listed:Array Bool)(a:Act)(w:World):Prop:=∀e∈es,(∀i,e.i=some i->listed.getD i false=true)->(∀j,e.j=some j->listed.getD j false=false)->∃v,a.tmps[e.t]? =some v/\e.P v w
section
variable {P:Program}{md:Region.Mode}{ops:Array Oper}{Q:Exit->Act->World->Prop}{a0:Act}{V:Nat->VP}{n0:Nat}{w0:World}{SL:List (Nat×VP)}{es:List En}{T:TypeId}
def RT (T:TypeId)(w w':World):Prop:=∃m,m≠0/\RI [(T,m,0)] w w'
theorem XE.keep {listed:Array Bool}{a:Act}{w w':World}{i:Nat}{d:Option Tmp}{v:Value}(h:XE es listed a w)(hr:RI [] w w')(hP:∀e∈es,Stab [] e.P)(hi:es.all (fun e=>e.i !=some i && d !=some e.t)=true)(hil:i<listed.size):XE es (listed.setIfInBounds i true) (a.put d v) w':=by
 intro e he h1 h2;rw [List.all_eq_true] at hi;have q:=hi e he;simp only [Bool.and_eq_true,bne_iff_ne,ne_eq] at q
 obtain⟨u,e1,e2⟩:=h e he (fun i' hi'=>by
  have:=h1 i' hi';rw [getD_set _ _ _ hil,if_neg (fun e2=>q.1 (by rw [hi',e2]))] at this
  exact this) fun j hj=>by
  have:=h2 j hj;rw [getD_set _ _ _ hil] at this;split at this
  ·cases this
  ·exact this
 exact⟨u,by rw [put_get_ne q.2];exact e1,hP e he _ _ _ e2 hr⟩
def KStepX (P:Program)(md:Region.Mode)(ops:Array Oper)(Q:Exit->Act->World->Prop)(a0:Act)(V:Nat->VP)(n0:Nat)(w0:World)(SL:List (Nat×VP))(T:TypeId)(es:List En)(i:Nat)(o:Oper):Prop:=
 ∀listed a w,KI md ops a0 V n0 w0 [] SL listed a w->XE es listed a w->(∀e∈o.after,Region.binds md e=true->listed.getD e.on false=true)->o.dst.all (fun d=>decide (d<a0.tmps.size))=true->i<listed.size->listed.getD i false=false->
  ∀K:Act->World->Prop,(∀v w',KS n0 w0 [] (listed.setIfInBounds i true) (a.put o.dst v) w'->RT T w w'->XE es (listed.setIfInBounds i true) (a.put o.dst v) w'->V i v w'->K (a.put o.dst v) w')->(if Region.wanted o (yielded ops a.tmps)then o.wp P a w K Q else K (a.put o.dst undef) w)
theorem RT.of {w w':World}(h:RI [] w w'):RT T w w':=⟨1,by omega,h.mono L0 fun e he h0=>by
 have:=List.mem_singleton.1 he;subst this
 cases h0⟩
theorem KStep.x {i:Nat}{o:Oper}(h:KStep [] P md ops Q a0 V n0 w0 [] SL i o)(hP:∀e∈es,Stab [] e.P)(hi:es.all (fun e=>e.i !=some i && o.dst !=some e.t)=true):KStepX P md ops Q a0 V n0 w0 SL T es i o:=
 fun listed a w hk hx D hin hil hnl K hK=>h listed a w hk D hin hil hnl K fun v w' h1 h2 h3=>hK v w' h1 (.of h2) (hx.keep h2 hP hi hil) h3
theorem wpAny_x (hfore:kFore md ops=true)(hown:flowOwn ops=true)(hin:∀(i:Nat) (o:Oper) (d:Tmp),ops[i]? =some o->o.dst=some d->d<a0.tmps.size)(hV:∀m i,Stab [(T,m,0)] (V i))(hSL:∀m,∀p∈SL,Stab [(T,m,0)] p.2)
 (hstep:∀(i:Nat) (o:Oper),ops[i]? =some o->KStepX P md ops Q a0 V n0 w0 SL T es i o)
 (hdone:∀(listed:Array Bool) (a:Act) (w:World),(∀i,i<ops.size->listed.getD i false=true)->KI md ops a0 V n0 w0 [] SL listed a w->XE es listed a w->Q .normal a w):
 ∀(fuel:Nat) (listed:Array Bool) (a:Act) (w:World),KI md ops a0 V n0 w0 [] SL listed a w->XE es listed a w->listed.toList.count false<=fuel->wpAny P md ops Q fuel listed a w:=by
 intro fuel
 induction fuel with
 |zero=>
  intro listed a w h hr hc;have hall:∀i,i<ops.size->listed.getD i false=true:=fun i hi=>count_zero listed (by omega) i (by rw [h.len];exact hi)
  refine⟨?_,hdone _ _ _ hall h hr⟩;cases hr':Region.ready md ops listed with
  |nil=>rfl
  |cons i l=>
   have hi:i∈Region.ready md ops listed:=by rw [hr'];exact List.mem_cons_self
   obtain⟨h1,o,ho,_⟩:=mem_ready.1 hi
   have hlt:i<ops.size:=by
    rcases Nat.lt_or_ge i ops.size with h'|h'
    ·exact h'
    ·rw [Array.getElem?_eq_none h'] at ho;cases ho
   have h2:=hall i hlt;have h3:i<listed.size:=by rw [h.len];exact hlt
   simp [Array.getD,h3] at h1 h2;rw [h2] at h1;cases h1
 |succ fuel ih=>
  intro listed a w h hr hc;refine⟨fun hr'=>hdone _ _ _ (kready_none hfore h.len hr') h hr,fun i hi=>?_⟩;obtain⟨h1,o,ho,hdep⟩:=mem_ready.1 hi
  have hlt:i<listed.size:=by
   rw [h.len];rcases Nat.lt_or_ge i ops.size with h'|h'
   ·exact h'
   ·rw [Array.getElem?_eq_none h'] at ho;cases ho
  have hcnt:=count_set listed i hlt h1;have hnl:listed.getD i false=false:=by have h5:=h1;simp only [Array.getD,hlt,dif_pos] at h5 ⊢;exact h5
  have key:if Region.wanted o (yielded ops a.tmps)then o.wp P a w (wpAny P md ops Q fuel (listed.setIfInBounds i true)) Q else wpAny P md ops Q fuel (listed.setIfInBounds i true) (a.put o.dst undef) w:=
   hstep i o ho listed a w h hr hdep (dst_ok hin ho) hlt hnl _ fun v w' hS ⟨m,_,hR⟩ hx hv=>ih _ _ _ (h.step hown hin (hV m) (hSL m) ho hdep hS hR hv) hx (by omega)
  unfold wpOp;rw [ho];by_cases hw:Region.wanted o (yielded ops a.tmps)=true
  ·simp only [hw,if_true] at key ⊢;exact .inl key
  ·simp only [hw] at key ⊢;exact key
theorem wpList_x (hfore:kFore md ops=true)(hown:flowOwn ops=true)(hin:∀(i:Nat) (o:Oper) (d:Tmp),ops[i]? =some o->o.dst=some d->d<a0.tmps.size)(hV:∀m i,Stab [(T,m,0)] (V i))(hSL:∀m,∀p∈SL,Stab [(T,m,0)] p.2)
 (hstep:∀(i:Nat) (o:Oper),ops[i]? =some o->KStepX P md ops Q a0 V n0 w0 SL T es i o)
 (hdone:∀(listed:Array Bool) (a:Act) (w:World),(∀i,i<ops.size->listed.getD i false=true)->KI md ops a0 V n0 w0 [] SL listed a w->XE es listed a w->Q .normal a w):
 ∀(rest:List Oper) (k:Nat) (listed:Array Bool) (a:Act) (w:World),ops.toList.drop k=rest->(∀i,i<k->i<ops.size->listed.getD i false=true)->(∀i,k<=i->listed.getD i false=false)->KI md ops a0 V n0 w0 [] SL listed a w->XE es listed a w->wpList P ops Q rest a w:=by
 intro rest
 induction rest with
 |nil=>
  intro k listed a w hk hl _ h hr
  have:ops.size<=k:=by
   have:=List.drop_eq_nil_iff.1 hk
   simpa using this
  exact hdone listed a w (fun i hi=>hl i (by omega) hi) h hr
 |cons o rest ih=>
  intro k listed a w hk hl hnl h hr
  have hlt:k<ops.toList.length:=by
   rcases Nat.lt_or_ge k ops.toList.length with h'|h'
   ·exact h'
   ·rw [List.drop_eq_nil_iff.2 h'] at hk;cases hk
  rw [List.drop_eq_getElem_cons hlt] at hk;have ho':ops.toList[k]=o:=(List.cons.inj hk).1
  have ho:ops[k]? =some o:=by
   have h1:k<ops.size:=by simpa using hlt
   rw [Array.getElem?_eq_getElem h1]
   simpa using ho'
  have hlk:k<listed.size:=by rw [h.len];simpa using hlt
  have hdep:∀e∈o.after,Region.binds md e=true->listed.getD e.on false=true:=fun e he hb=>by
   have h1:=kFore_spec hfore ho e he hb
   exact hl e.on h1 (by
    have:k<ops.size:=by simpa using hlt
    omega)
  have key:if Region.wanted o (yielded ops a.tmps)then o.wp P a w (wpList P ops Q rest) Q else wpList P ops Q rest (a.put o.dst undef) w:=
   hstep k o ho listed a w h hr hdep (dst_ok hin ho) hlk (hnl _ (Nat.le_refl _)) _ fun v w' hS ⟨m,_,hR⟩ hx hv=>ih (k+1) _ _ _ (List.cons.inj hk).2 (fun i hi hi'=>by
    rw [getD_set _ _ _ hlk];split
    ·rfl
    ·exact hl i (by omega) hi') (fun i hi=>by
    rw [getD_set _ _ _ hlk,if_neg (by omega)]
    exact hnl i (by omega)) (h.step hown hin (hV m) (hSL m) ho hdep hS hR hv) hx
  unfold wpList;by_cases hw:Region.wanted o (yielded ops a.tmps)=true
  ·simp only [hw,if_true] at key ⊢;exact .inl key
  ·simp only [hw] at key ⊢;exact key
def AllX (P:Program)(md:Region.Mode)(ops:Array Oper)(Q:Exit->Act->World->Prop)(a0:Act)(V:Nat->VP)(n0:Nat)(w0:World)(SL:List (Nat×VP))(T:TypeId)(es:List En):Nat->List Oper->Prop
 |_,[]=>True
 |i,o::l=>KStepX P md ops Q a0 V n0 w0 SL T es i o/\AllX P md ops Q a0 V n0 w0 SL T es (i+1) l
theorem AllX.get:∀(l:List Oper) (i:Nat),AllX P md ops Q a0 V n0 w0 SL T es i l->∀(j:Nat) (o:Oper),l[j]? =some o->KStepX P md ops Q a0 V n0 w0 SL T es (i+j) o
 | [],_,_,j,o,ho=>by simp at ho
 |x::l,i,h,0,o,ho=>by
  have:x=o:=by simpa using ho
  subst this;exact h.1
 |x::l,i,h,j+1,o,ho=>by
  have:=AllX.get l (i+1) h.2 j o (by simpa using ho);rw [show i+(j+1)=i+1+j by omega];exact this
end
section
variable {Q:Exit->Act->World->Prop}{Vl:List VP}{n0:Nat}{w0:World}{T:TypeId}{es:List En}
theorem rgX {id N:Nat}{l:List Oper}{ord:Bool}{L:List Bd}{SL SL':List (Nat×VP)}{a:Act}{w:World}(T:TypeId)(es:List En)(st:St n0 w0 N L SL a w)(hstep:AllX Tryz.prog .any l.toArray Q a (GV Vl) n0 w0 SL T es 0 l)
 (hdone:∀a' w',St n0 w0 N [] SL' a' w'->(∀e∈es,e.j=none->∃v,a'.tmps[e.t]? =some v/\e.P v w')->Q .normal a' w')
 [hS:∀m,SbS [(T,m,0)] SL] [hL:∀m,SbL [(T,m,0)] Vl] (hP:∀e∈es,Stab [] e.P) (hini:∀e∈es,e.i=none->∃v,a.tmps[e.t]? =some v/\e.P v w) (he:es.all (fun e=>match e.i with|some i=>decide (i<l.length)|none=>true)=true)
 (hg:GetsF l.toArray (GV Vl) SL SL':=by repeat (first|exact trivial|refine⟨.inl ⟨rfl,rfl⟩,?_⟩|refine⟨.inr ⟨rfl,by kernel_rfl⟩,?_⟩))
 (hm:Tryz.prog.follows .mixedOrders=true:=by kernel_rfl) (hfore:kFore .any l.toArray=true:=by kernel_rfl) (hown:flowOwn l.toArray=true:=by kernel_rfl) (hin:l.all (fun o=>match o.dst with|some d=>decide (d<N)|none=>true)=true:=by kernel_rfl):(Code.region id l.toArray ord).wp Tryz.prog Q a w:=by
 have hin':∀(i:Nat) (o:Oper) (d:Tmp),l.toArray[i]? =some o->o.dst=some d->d<a.tmps.size:=fun i o d ho D=>by
  rw [st.size];rw [List.all_eq_true] at hin;have ho':l[i]? =some o:=by simpa using ho
  have:=hin o (List.mem_of_getElem? ho');rw [D] at this;exact of_decide_eq_true this
 have hs':∀(i:Nat) (o:Oper),l.toArray[i]? =some o->KStepX Tryz.prog .any l.toArray Q a (GV Vl) n0 w0 SL T es i o:=fun i o ho=>by
  have:=AllX.get l 0 hstep i o (by simpa using ho);rw [Nat.zero_add] at this;exact this
 have hno:∀i,(Array.replicate l.length false).getD i false=true->False:=fun i hl=>by
  simp only [Array.getD_eq_getD_getElem?,Array.getElem?_replicate] at hl;split at hl<;>simp at hl
 have hno':∀i,(Array.replicate l.length false).getD i false=false:=fun i=>by
  cases h:(Array.replicate l.length false).getD i false with
  |false=>rfl
  |true=>exact(hno i h).elim
 have hks:KS n0 w0 [] (Array.replicate l.length false) a w:=⟨st.k.below,fun b hb=>absurd hb (by simp),fun b hb=>absurd hb (by simp),fun b hb=>absurd hb (by simp)⟩
 have hx0:∀w',RI [] w w'->XE es (Array.replicate l.length false) a w':=fun w' hr e he2 h1 _=>by
  cases hi:e.i with
  |some i=>exact(hno _ (h1 i hi)).elim
  |none=>
   obtain⟨v,e1,e2⟩:=hini e he2 hi;exact⟨v,e1,hP e he2 _ _ _ e2 hr⟩
 have fin:∀(listed:Array Bool) (a':Act) (w':World),(∀i,i<l.toArray.size->listed.getD i false=true)->KI .any l.toArray a (GV Vl) n0 w0 [] SL listed a' w'->XE es listed a' w'->Q .normal a' w':=fun listed a' w' hall kd hr=>by
  refine hdone a' w' (kd.st hall st.size st.defers rfl SL' hg.to) fun e he2 hj=>hr e he2 (fun i hi=>hall _ ?_) fun j hj2=>by rw [hj] at hj2;cases hj2
  rw [List.all_eq_true] at he;have:=he e he2;rw [hi] at this
  simpa using this
 cases ord with
 |true=>
  refine wp_region_any hm (wpAny_x hfore hown hin' (fun m=>stab_of (hL m).out) (fun m=>(hS m).out) hs' fin _ _ _ _ ⟨?_,st.n,by simp,rfl,rfl,fun _ _=>rfl,fun i o d ho hl _=>(hno i (by simpa using hl)).elim,fun p hp=>?_,fun k o _ hl=>(hno k (by simpa using hl)).elim⟩ (by simpa using hx0 _ (RI.drew w)) ?_)
  ·have:=hks.drew (BT:=[]) (fun b hb=>absurd hb (by simp))
   simpa using this
  ·obtain⟨v,h1,h2⟩:=st.sl p hp;exact⟨v,h1,(hS 0).out p hp _ _ _ h2 (RI.drew w)⟩
  ·simp
 |false=>
  exact wp_region_lit (wpList_x hfore hown hin' (fun m=>stab_of (hL m).out) (fun m=>(hS m).out) hs' fin l 0 (Array.replicate l.length false) a w (by simp) (fun i hi=>by omega) (fun i _=>hno' i) ⟨hks,st.n,by simp,rfl,rfl,fun _ _=>rfl,fun i o d ho hl _=>(hno i hl).elim,st.sl,fun k o _ hl=>(hno k hl).elim⟩ (hx0 _ (RI.refl w)))
end
section
variable {α:Type}{T ST:TypeId}{k g c lo:Nat}{b:Option Addr}{E:α->VP}{xs zs:List α}
def VRy {α:Type}(T:TypeId)(k:Nat)(E:α->VP)(lo:Nat)(xs:List α):VP:=fun v w=>(xs= []/\∃h,v= .slice (some ⟨h,0,none⟩) 0 0)∨∃g c,lo<=g/\0<c/\VRg T k E none g c xs v w
def VE0:VP:=fun v _=>∃h,v= .slice (some ⟨h,0,none⟩) 0 0
theorem Stab_VRy (hE:∀x,Stab [] (E x))(hk:0<k):Stab [] (VRy T k E lo xs):=fun _ _ _ h hr=>h.imp id fun ⟨g,c,h1,h2,h3⟩=>⟨g,c,h1,h2,Stab_VRg hE hk (.inl (by simp)) _ _ _ h3 hr⟩
theorem Stab_VOs0 (hE:∀x,Stab [] (E x)):Stab [] (VOs T k E xs):=Stab_VOs hE (by simp)
section
variable {ρ:Operand->Value}{o:Oper}{W:World}{x y:Operand}{va vb:Value}
theorem setCells_nil2 (W:World)(g o:Nat):W.setCells g o []=W:=by
 unfold World.setCells;rfl
theorem app_both [hs:SlT ST T k][hA:∀x,Ag (E x) k](ho:o.op= .call {callee:= .builtin .append,args:=#[x,y],argTypes:=#[ST,ST]})(hx:ρ x=va)(h:VRy T k E lo xs va W)(hy:ρ y=vb)(h1:VSc T k E zs vb W)(hE:∀x BT,Stab BT (E x))(hlo:lo<=W.heap.size)(hb:xs.length+zs.length<=1000000):
 ∃v w',(execOp ρ o).run Tryz.prog W= .ok (.value v) w'/\Below lo W w'/\RT T W w'/\VRy T k E lo (xs++zs) v w':=by
 have hRT:∀w',Below W.heap.size W w'->RT T W w':=fun w' hb=> .of (RI.of_below hb)
 have grow:∀b g c,VRg T k E b g c xs va W->c<xs.length+zs.length->∃v w',(execOp ρ o).run Tryz.prog W= .ok (.value v) w'/\Below lo W w'/\RT T W w'/\VRy T k E lo (xs++zs) v w':=fun b g c h hc=>by
  obtain⟨v,w',r1,r2,r3⟩:=app_growM ho hx h hy h1 (fun x=>hE x []) hc hlo hb;exact⟨v,w',r1,r2.mono hlo,hRT _ r2,.inr r3⟩
 rcases h with⟨rfl,h0,rfl⟩|⟨g,c,hg,hc,h⟩
 ·cases zs with
  |nil=>
   obtain⟨i,zv,hi,hz,hsz,hby,hzc,hzn⟩:=hs.info;obtain⟨ch,hsrc,e2,-,-⟩:=VSc_src (ST:=ST) (i:=i) hsz h1;have hc0:ch.toList= []:=List.eq_nil_of_length_eq_zero (by simpa using e2);rw [hc0] at hsrc;have hr:=run_append_room_src W ST ST o.type T i hs.und hi h0 0 0 0 vb 0 [] hsrc (Nat.le_refl _) (fun j hj=>absurd hj (by simp)) (fun j hj=>absurd hj (by simp));rw [setCells_nil2] at hr;refine⟨_,W,?_,Below.refl _ _,hRT _ (Below.refl _ _),.inl ⟨rfl,h0,rfl⟩⟩;unfold execOp;simp only [ho,resolve,invoke,builtin,Sem.run_bind,Sem.run_pure,Result.andThen_ok,List.map_toArray,List.map_cons,List.map_nil,hx,hy,hr]
  |cons z zs=>exact grow (some ⟨h0,0,none⟩) 0 0 ⟨by simp,by omega,.inl ⟨rfl,rfl⟩⟩ (by simp)
 ·by_cases hroom:xs.length+zs.length<=c
  ·obtain⟨hl,hcm,(⟨h0,-⟩|⟨-,rfl,old,e1,e2,e3,hP0⟩)⟩:=h
   ·omega
   obtain⟨i,zv,hi,hz,hsz,hby,hzc,hzn⟩:=hs.info;have hk:=hs.pos;obtain⟨ch,hsrc,q2,q3,q5⟩:=VSc_src (ST:=ST) (i:=i) hsz h1;have hcl:ch.toList.length=k*zs.length:=q2;have hle:k*xs.length+k*zs.length<=k*c:=by rw [<-Nat.mul_add];exact Nat.mul_le_mul_left k hroom
   have hrun:=run_append_row (P:=Tryz.prog) W ST o.type T i hs.und hi g xs.length c old e1 vb zs.length ch.toList hsrc hroom (by rw [hcl,hsz,Nat.mul_comm xs.length,e2];exact hle);obtain⟨cs',hcs'⟩:∃cs':Array Value,(old.toList.take (xs.length*i.size)++ch.toList++old.toList.drop (xs.length*i.size+ch.toList.length)).toArray=cs':=⟨_,rfl⟩;have hol:old.toList.length=k*c:=e2;have htl:(old.toList.take (xs.length*i.size)).length=k*xs.length:=by rw [List.length_take,hsz,Nat.mul_comm,hol];omega
   have hsize:cs'.size=k*c:=by
    rw [<-hcs',List.size_toArray,List.length_append,List.length_append,htl,hcl,List.length_drop,hol,hsz,Nat.mul_comm xs.length k];omega
   have hget:∀j,j<k*xs.length+k*zs.length->cs'[j]? =if j<k*xs.length then old[j]? else ch[j - k*xs.length]? :=fun j hj=>by
    rw [<-hcs',List.getElem?_toArray,List.getElem?_append_left (by rw [List.length_append,htl,hcl];exact hj),List.getElem?_append,htl];split
    ·rw [List.getElem?_take,if_pos (by rw [hsz,Nat.mul_comm];assumption),Array.getElem?_toList]
    ·rw [Array.getElem?_toList]
   have hni:NoInt cs':=fun i' x hx'=>by
    rw [<-hcs',List.getElem?_toArray,List.getElem?_append,List.getElem?_append] at hx';split at hx'
    ·split at hx'
     ·rw [List.getElem?_take] at hx';split at hx'
      ·rw [Array.getElem?_toList] at hx';exact e3 _ _ hx'
      ·cases hx'
     ·rw [Array.getElem?_toList] at hx';exact q3 _ _ hx'
    ·rw [List.getElem?_drop,Array.getElem?_toList] at hx';exact e3 _ _ hx'
   rw [hcs'] at hrun;have hkc:0<k*c:=Nat.mul_pos hk hc
   have hRI:RI [(T,k*c,0)] W (W.setRow g cs'):=RI_setRow e1 e3 ⟨⟨_,List.mem_cons_self,rfl,e2.symm,.inl rfl⟩,fun e he q1 q2=>by
    have:=List.mem_singleton.1 he;subst this;simp only at q2
    omega⟩
   refine⟨_,W.setRow g cs',?_,below_setRow (Below.refl _ _) hg,⟨k*c,by omega,hRI⟩,.inr ⟨g,c,hg,hc,by simpa using hroom,hcm,.inr ⟨hc,by rw [List.length_append],_,setRow_heap W g old cs' _ _ e1,hsize,hni,VEl_more (Stab_VEl (fun x=>hE x _) _ _ _ hP0 hRI) (Stab_VEl (fun x=>hE x _) _ _ _ q5 hRI) (by rw [hsize];exact hle) q2 hget (by rw [e2];omega)⟩⟩⟩;unfold execOp;simp only [ho,resolve,invoke,builtin,Sem.run_bind,Sem.run_pure,Result.andThen_ok,List.map_toArray,List.map_cons,List.map_nil,hx,hy,hrun]
  ·exact grow none g c h (by omega)
end
section
variable {md:Region.Mode}{ops:Array Oper}{Q:Exit->Act->World->Prop}{a0:Act}{Vl:List VP}{n0:Nat}{w0:World}{SL:List (Nat×VP)}{es:List En}
def waitsE (md:Region.Mode)(ops:Array Oper)(p:Oper)(k:Nat):Bool:=p.after.any (fun a=>Region.binds md a && (a.on==k||(match ops[a.on]? with|some r=>r.after.any (fun b=>Region.binds md b && (b.on==k||(match ops[b.on]? with|some r=>r.after.any (fun b=>b.on==k && Region.binds md b)|none=>false)))|none=>false)))
theorem waitsE_not {listed:Array Bool}{a:Act}{w:World}{e k:Nat}{p:Oper}(hk:KI md ops a0 (GV Vl) n0 w0 [] SL listed a w)(ho:ops[e]? =some p)(hw:waitsE md ops p k=true)(he:listed.getD e false=true):listed.getD k false=true:=by
 unfold waitsE at hw;simp only [Array.any_eq_true'] at hw;obtain⟨a',ha,hb⟩:=hw;rw [Bool.and_eq_true,Bool.or_eq_true] at hb;have h5:=hk.closed e p ho he a' ha hb.1;rcases hb.2 with hb|hb
 ·rw [beq_iff_eq] at hb;rw [<-hb];exact h5
 ·cases hr:ops[a'.on]? with
  |none=>rw [hr] at hb;cases hb
  |some r=>
   rw [hr] at hb;simp only [Array.any_eq_true'] at hb;obtain⟨b',hb1,hb2⟩:=hb;rw [Bool.and_eq_true,Bool.or_eq_true] at hb2;have h6:=hk.closed a'.on r hr h5 b' hb1 hb2.1;rcases hb2.2 with hb3|hb3
   ·rw [beq_iff_eq] at hb3;rw [<-hb3];exact h6
   ·cases hr2:ops[b'.on]? with
    |none=>rw [hr2] at hb3;cases hb3
    |some r2=>
     rw [hr2] at hb3;simp only [Array.any_eq_true'] at hb3;obtain⟨c',hc1,hc2⟩:=hb3;rw [Bool.and_eq_true,beq_iff_eq] at hc2;have h7:=hk.closed b'.on r2 hr2 h6 c' hc1 hc2.2;rw [<-hc2.1];exact h7
def deadE (md:Region.Mode)(ops:Array Oper)(k:Nat)(o:Oper)(e:En):Bool:=e.i==some k||e.j==some k||(match e.j with|some j=>o.after.any (fun a=>a.on==j && Region.binds md a)|none=>false)||
 (match e.i with|some i=>(match ops[i]? with|some p=>waitsE md ops p k|none=>false)|none=>false)
theorem XE.step {listed:Array Bool}{a a':Act}{w w':World}{i:Nat}{o:Oper}(hk:KI md ops a0 (GV Vl) n0 w0 [] SL listed a w)(D:∀e∈o.after,Region.binds md e=true->listed.getD e.on false=true)(hil:i<listed.size)(hnl:listed.getD i false=false)(hde:es.all (deadE md ops i o)=true)
 (hnew:∀e∈es,e.i=some i->∃v,a'.tmps[e.t]? =some v/\e.P v w'):XE es (listed.setIfInBounds i true) a' w':=by
 intro e he h1 h2;rw [List.all_eq_true] at hde;by_cases hi:e.i=some i
 ·exact hnew e he hi
 ·exfalso;have q:=hde e he;unfold deadE at q;simp only [Bool.or_eq_true,beq_iff_eq] at q;rcases q with((q|q)|q)|q
  ·exact hi q
  ·have:=h2 i q;rw [getD_set _ _ _ hil,if_pos rfl] at this;cases this
  ·cases hj:e.j with
   |none=>rw [hj] at q;cases q
   |some j=>
    rw [hj] at q;have h3:listed.getD j false=true:=listed_dep D j q;have h4:=h2 j hj;rw [getD_set _ _ _ hil] at h4;split at h4
    ·cases h4
    ·rw [h3] at h4;cases h4
  ·cases hei:e.i with
   |none=>rw [hei] at q;cases q
   |some i'=>
    rw [hei] at q;simp only at q;have h3:=h1 i' hei;rw [getD_set _ _ _ hil,if_neg (fun e2=>hi (by rw [hei,e2]))] at h3;cases ho:ops[i']? with
    |none=>rw [ho] at q;cases q
    |some p=>
     rw [ho] at q;have:=waitsE_not hk ho q h3;rw [hnl] at this;cases this
theorem put_new {o:Oper}{a:Act}{listed:Array Bool}{w:World}{v:Value}{t:Nat}(hk:KI md ops a0 (GV Vl) n0 w0 [] SL listed a w)(hin:o.dst.all (fun d=>decide (d<a0.tmps.size))=true)(ht:o.dst=some t):(a.put o.dst v).tmps[t]? =some v:=by
 have hlt:t<a.tmps.size:=by
  rw [ht] at hin;rw [hk.size]
  simpa using hin
 rw [ht];simp [Act.put,hlt]
theorem KS.nil {listed listed':Array Bool}{a a':Act}{w w':World}(h:KS n0 w0 [] listed a w)(hb:Below n0 w w'):KS n0 w0 [] listed' a' w':=⟨h.below.trans hb,fun b hb=>absurd hb (by simp),fun b hb=>absurd hb (by simp),fun b hb=>absurd hb (by simp)⟩
def liveE (md:Region.Mode)(ops:Array Oper)(i:Nat)(o:Oper)(e:En):Bool:=(match e.i with|some i'=>o.after.any (fun a=>a.on==i' && Region.binds md a)|none=>true) && (match e.j with|some j=>j==i||(match ops[j]? with|some p=>waitsE md ops p i|none=>false)|none=>true)
theorem XE.get {listed:Array Bool}{a:Act}{w:World}{i:Nat}{o:Oper}{e:En}(hx:XE es listed a w)(hk:KI md ops a0 (GV Vl) n0 w0 [] SL listed a w)(D:∀e∈o.after,Region.binds md e=true->listed.getD e.on false=true)(hnl:listed.getD i false=false)(he:e∈es)(hl:liveE md ops i o e=true):∃v,a.tmps[e.t]? =some v/\a.eval (.tmp e.t)=v/\e.P v w:=by
 unfold liveE at hl;rw [Bool.and_eq_true] at hl
 obtain⟨v,q1,q2⟩:=hx e he (fun i' hi=>by
  rw [hi] at hl
  exact listed_dep D _ hl.1) fun j hj=>by
  rw [hj] at hl;simp only [Bool.or_eq_true,beq_iff_eq] at hl;rcases hl.2 with q|q
  ·rw [q];exact hnl
  ·cases ho:ops[j]? with
   |none=>rw [ho] at q;cases q
   |some p=>
    rw [ho] at q;cases hh:listed.getD j false with
    |false=>rfl
    |true=>
     have:=waitsE_not hk ho q hh;rw [hnl] at this;cases this
 exact⟨v,q1,by simp [Act.eval,Array.getD_eq_getD_getElem?,q1],q2⟩
theorem kx_app {i s u:Nat}{o:Oper}{X:VP}[hs:SlT ST T k][hA:∀x,Ag (E x) k](ho:o.op= .call {callee:= .builtin .append,args:=#[.tmp s,.tmp u],argTypes:=#[ST,ST]})
 (hx:(∃e∈es,e.t=s/\e.P=VRy T k E n0 xs/\liveE md ops i o e=true)∨(xs= []/\KnS md ops Vl SL o s VE0))
 (hy:(∃e∈es,e.t=u/\e.P=X/\liveE md ops i o e=true)∨KnS md ops Vl SL o u X) (hX:∀v w,Below n0 w0 w->X v w->VSc T k E zs v w)
 (hn:∀e∈es,e.i=some i->e.P=VRy T k E n0 (xs++zs)/\o.dst=some e.t) (hde:es.all (deadE md ops i o)=true) (hV:GV Vl i=VT) (hE:∀x BT,Stab BT (E x)) (hb:xs.length+zs.length<=1000000) (hg:GOk md ops Vl o):KStepX Tryz.prog md ops Q a0 (GV Vl) n0 w0 SL T es i o:=by
 intro listed a w h hxe D hin hil hnl K hK;rw [if_pos (wanted_of (hg.get h D))]
 obtain⟨va,hva,hVa⟩:∃v,a.eval (.tmp s)=v/\VRy T k E n0 xs v w:=by
  rcases hx with⟨e,he,rfl,e3,e4⟩|⟨rfl,hx⟩
  ·obtain⟨v,-,q1,q2⟩:=hxe.get h D hnl he e4;exact⟨v,q1,e3 ▸ q2⟩
  ·obtain⟨v,q1,q2⟩:=hx.get h D;exact⟨v,q1,.inl ⟨rfl,q2⟩⟩
 obtain⟨vb,hvb,hVb⟩:∃v,a.eval (.tmp u)=v/\X v w:=by
  rcases hy with⟨e,he,rfl,e3,e4⟩|hy
  ·obtain⟨v,-,q1,q2⟩:=hxe.get h D hnl he e4;exact⟨v,q1,e3 ▸ q2⟩
  ·exact hy.get h D
 obtain⟨v,w',r1,r2,r3,r4⟩:=app_both ho hva hVa hvb (hX _ _ h.k.below hVb) hE h.n hb;unfold Oper.wp;rw [r1];exact hK v w' (h.k.nil r2) r3 (XE.step h D hil hnl hde fun e he hi=>⟨v,put_new h hin (hn e he hi).2,by rw [(hn e he hi).1];exact r4⟩) (by rw [hV];trivial)
theorem kx_asg {i s:Nat}{o:Oper}{X:VP}(ho:o.op= .assign (.tmp s))(hx:∃e∈es,e.t=s/\e.P=X/\liveE md ops i o e=true)(hn:∀e∈es,e.i=some i->e.P=X/\o.dst=some e.t)(hd2:es.all (fun e=>e.i==some i||o.dst !=some e.t)=true)(hV:GV Vl i=VT)(hg:GOk md ops Vl o):KStepX Tryz.prog md ops Q a0 (GV Vl) n0 w0 SL T es i o:=by
 intro listed a w h hxe D hin hil hnl K hK;rw [if_pos (wanted_of (hg.get h D))];obtain⟨e,he,rfl,rfl,e4⟩:=hx;obtain⟨v,q0,q1,q2⟩:=hxe.get h D hnl he e4;unfold Oper.wp;rw [run_assign ho,q1];refine hK v w (h.k.nil (Below.refl _ _)) (.of (RI.refl w)) ?_ (by rw [hV];trivial);intro e' he' h1 h2;rw [List.all_eq_true] at hd2;by_cases hi:e'.i=some i
 ·exact⟨v,put_new h hin (hn e' he' hi).2,by rw [(hn e' he' hi).1];exact q2⟩
 ·have q:=hd2 e' he';simp only [Bool.or_eq_true,beq_iff_eq,bne_iff_ne,ne_eq,hi,false_or] at q
  obtain⟨u,p1,p2⟩:=hxe e' he' (fun i' hi'=>by
   have:=h1 i' hi';rw [getD_set _ _ _ hil,if_neg (fun e2=>hi (by rw [hi',e2]))] at this
   exact this) fun j hj=>by
   have:=h2 j hj;rw [getD_set _ _ _ hil] at this;split at this
   ·cases this
   ·exact this
  exact⟨u,by rw [put_get_ne q];exact p1,p2⟩
theorem kx_mem {i:Nat}{o:Oper}{X:VP}(H:∀(listed:Array Bool) a w,KI md ops a0 (GV Vl) n0 w0 [] SL listed a w->(∀e∈o.after,Region.binds md e=true->listed.getD e.on false=true)->∃v w',(execOp a.eval o).run Tryz.prog w= .ok (.value v) w'/\Below w.heap.size w w'/\X v w')(hP:∀e∈es,Stab [] e.P)(hd2:es.all (fun e=>e.i==some i||o.dst !=some e.t)=true)(hn:∀e∈es,e.i=some i->e.P=X/\o.dst=some e.t)(hV:GV Vl i=VT)(hg:GOk md ops Vl o):KStepX Tryz.prog md ops Q a0 (GV Vl) n0 w0 SL T es i o:=by
 intro listed a w h hxe D hin hil hnl K hK;rw [if_pos (wanted_of (hg.get h D))];obtain⟨v,w',r1,r2,r3⟩:=H listed a w h D;unfold Oper.wp;rw [r1];refine hK v w' (h.k.nil (r2.mono h.n)) (.of (RI.of_below r2)) ?_ (by rw [hV];trivial);intro e' he' h1 h2;rw [List.all_eq_true] at hd2;by_cases hi:e'.i=some i
 ·exact⟨v,put_new h hin (hn e' he' hi).2,by rw [(hn e' he' hi).1];exact r3⟩
 ·have q:=hd2 e' he';simp only [Bool.or_eq_true,beq_iff_eq,bne_iff_ne,ne_eq,hi,false_or] at q
  obtain⟨u,p1,p2⟩:=hxe e' he' (fun i' hi'=>by
   have:=h1 i' hi';rw [getD_set _ _ _ hil,if_neg (fun e2=>hi (by rw [hi',e2]))] at this
   exact this) fun j hj=>by
   have:=h2 j hj;rw [getD_set _ _ _ hil] at this;split at this
   ·cases this
   ·exact this
  exact⟨u,by rw [put_get_ne q];exact p1,hP e' he' _ _ _ p2 (RI.of_below r2)⟩
end
end
def ROWV (g c N:Nat)(us:List P2)(w:World):Prop:=us.length<=c/\c<=9223372036854775807/\RowAt g 32 (8*c) (VEl 8 (EV N) us) w
section
variable {ρ:Operand->Value}{o:Oper}{w W:World}{x y:Operand}{va vb:Value}{g n c j N:Nat}{vs us:List P2}
theorem VSv_le {M:Nat}{v:Value}(h:VSv N vs v w)(hM:N<=M):VSv M vs v w:=h.imp id fun ⟨hh,o,c,cs,e1,e2,e3,e4,e5,e6⟩=>⟨hh,o,c,cs,e1,e2,e3,e4,e5,fun i x hx=>Vv_le (e6 i x hx) hM⟩
theorem index_EqS (ho:o.op= .indexAddr 23 x y)(hx:ρ x=va)(h:VEq (.slice (some ⟨g,0,none⟩) n c) va W)(hy:ρ y=vb)(hb:Vi (j:Int) vb W)(hj:j<n):∃v,(execOp ρ o).run Tryz.prog W= .ok (.value v) W/\VEq (.pointer (some ⟨g,8*j,none⟩)) v W:=by
 obtain rfl:va=_:=h;obtain rfl:vb=_:=hb;refine⟨.pointer (some ⟨g,8*j,none⟩),?_,rfl⟩;have hj2:(j:Int)<(n:Int):=by omega
 have hm:j*8=8*j:=Nat.mul_comm _ _;obtain⟨dd,op,ty,ps,af,gd⟩:=o;subst ho
 go_simp
theorem VRy_row {v:Value}{lo:Nat}(hx:us≠ [])(h:VRy 32 8 (EV N) lo us v w):∃g c,lo<=g/\v= .slice (some ⟨g,0,none⟩) us.length c/\ROWV g c N us w:=by
 rcases h with⟨rfl,-⟩|⟨g,c,h1,h2,h3,h4,(⟨h5,-⟩|⟨-,rfl,h6⟩)⟩
 ·exact absurd rfl hx
 ·omega
 ·exact⟨g,c,h1,rfl,h3,h4,h6⟩
end
section
variable {ρ:Operand->Value}{o:Oper}{w W:World}{x y:Operand}{va vb:Value}{g n c j N:Nat}{vs us:List P2}
theorem VRg_row {v:Value}(hx:us≠ [])(h:VRg 32 8 (EV N) none g c us v w):v= .slice (some ⟨g,0,none⟩) us.length c/\0<c/\ROWV g c N us w:=by
 obtain⟨h3,h4,(⟨h5,-⟩|⟨h0,rfl,h6⟩)⟩:=h
 ·exact absurd (List.eq_nil_of_length_eq_zero (by omega)) hx
 ·exact⟨rfl,h0,h3,h4,h6⟩
theorem ROWV.rg (h:ROWV g c N us w)(h0:0<c){v:Value}(hv:v= .slice (some ⟨g,0,none⟩) us.length c):VRg 32 8 (EV N) none g c us v w:=⟨h.1,h.2.1,.inr ⟨h0,hv,h.2.2⟩⟩
theorem ld_step {k:Nat}{a:P2}{u:Value}(ho:o.op= .load 32 x)(hx:ρ x=va)(h1:VEq (.pointer (some ⟨g,8*k,none⟩)) va W)(hR:VRg 32 8 (EV N) none g c us u W)(hk:us[k]? =some a):∃v,(execOp ρ o).run Tryz.prog W= .ok (.value v) W/\Vv N a.1 a.2 v W:=by
 obtain rfl:va=_:=h1
 have hkl:k<us.length:=by
  rcases Nat.lt_or_ge k us.length with h'|h'
  ·exact h'
  ·rw [List.getElem?_eq_none h'] at hk;cases hk
 obtain⟨hu,hc,hl,-,cs,q1,q2,q3,_,q4,q5⟩:=VRg_row (by intro e;rw [e] at hkl;simp at hkl) hR;cases q4;refine⟨_,?_,q5 k a hk⟩;unfold execOp;simp only [ho,hx,Instr.loadAt,Instr.sureAddr,Sem.run_bind,Sem.run_pure,Result.andThen_ok,run_loadVar_part W g (8*k) 8 32 32 cs (0,0) _ q1 (by omega) Tryz.underlying32 rfl size_Vec]
end
def Qd (K B:Int)(x:Rat):Prop:=∃a:Int,x*(K:Rat)=(a:Rat)/\ -B<=a/\a<=B
def Q2 (K B:Int)(p:P2):Prop:=Qd K B p.1/\Qd K B p.2
theorem Qd.parts {K B:Int}{x:Rat}(h:Qd K B x)(hK:0<K):x.num.natAbs<=B.toNat/\(x.den:Int)<=K:=by
 obtain⟨a,h1,h2,h3⟩:=h
 have hx:x=Rat.divInt a K:=by
  rw [Rat.divInt_eq_div]
  have:(K:Rat)≠0:=by
   intro e;have:=Rat.intCast_inj.1 (e.trans Rat.intCast_zero.symm);omega
  rw [<-h1];exact(Rat.mul_div_cancel this).symm
 obtain⟨q1,q2⟩:=make_low (p:=a) hK;rw [<-hx] at q1 q2
 have hg:0<(Int.gcd a K:Int):=by
  have:0<Int.gcd a K:=Int.gcd_pos_of_ne_zero_right _ (by omega);omega
 constructor
 ·rw [q1]
  have:(a / (Int.gcd a K:Int)).natAbs<=a.natAbs:=by
   obtain⟨c,hc⟩:=Int.gcd_dvd_left a K
   have e:a / (Int.gcd a K:Int)=c:=by
    conv=>lhs;lhs;rw [hc]
    exact Int.mul_ediv_cancel_left _ (by omega)
   rw [e]
   conv=>rhs;rw [hc,Int.natAbs_mul]
   exact Nat.le_mul_of_pos_left _ (by omega)
  omega
 ·rw [q2];exact Int.ediv_le_self _ (by omega)
theorem digs_one {n:Nat}(h:n<1000000000):(digs n).length<=1:=by
 by_cases h0:n=0
 ·rw [h0,digs_zero];simp
 ·rw [digs_pos h0,show n / 1000000000=0 by omega,digs_zero];simp
theorem Vz_one {N:Nat}{z:Int}{v:Value}{w:World}(h:Vz N z v w)(hz:z.natAbs<1000000000):Vz 1 z v w:=by
 obtain⟨nb,p,n,c,h1,h2,h3⟩:=h;exact⟨nb,p,n,c,h1,h2,by rw [h2.2.1];exact digs_one hz⟩
theorem Vq_one {N:Nat}{K B:Int}{x:Rat}{v:Value}{w:World}(h:Vq N x v w)(hq:Qd K B x)(hK:0<K)(hK2:K<=100000000)(hB:B<=100000000):Vq 1 x v w:=by
 obtain⟨h1,h2⟩:=hq.parts hK;obtain⟨p,q,r1,r2,r3,r4,r5⟩:=h;refine⟨p,q,r1,r2,r3,Vz_one r4 (by omega),Vz_one r5 ?_⟩;unfold qd;split<;>omega
theorem Vv_one {N:Nat}{K B:Int}{p:P2}{v:Value}{w:World}(h:Vv N p.1 p.2 v w)(hq:Q2 K B p)(hK:0<K)(hK2:K<=100000000)(hB:B<=100000000):Vv 1 p.1 p.2 v w:=by
 obtain⟨x,y,r1,r2,r3,r4,r5⟩:=h;exact⟨x,y,r1,r2,r3,Vq_one r4 hq.1 hK hK2 hB,Vq_one r5 hq.2 hK hK2 hB⟩
theorem VSv_three {N:Nat}{K B:Int}{vs:List P2}{v:Value}{w:World}(h:VSv N vs v w)(hq:∀p∈vs,Q2 K B p)(hK:0<K)(hK2:K<=100000000)(hB:B<=100000000):VSv 3 vs v w:=h.imp id fun ⟨hh,o,c,cs,e1,e2,e3,e4,e5,e6⟩=>⟨hh,o,c,cs,e1,e2,e3,e4,e5,fun i x hx=>Vv_le (Vv_one (e6 i x hx) (hq x (List.mem_of_getElem? hx)) hK hK2 hB) (by omega)⟩
theorem Qd_int {a B:Int}(K:Int)(h1: -B<=a*K)(h2:a*K<=B):Qd K B (Rat.divInt a 1):=by
 refine⟨a*K,?_,h1,h2⟩;rw [Rat.divInt_eq_div,Rat.intCast_mul,show((1:Int):Rat)=1 from rfl]
 grind
theorem Qd_half {a B:Int}(h1: -B<=a)(h2:a<=B):Qd 2 B (Rat.divInt a 2):=by
 refine⟨a,?_,h1,h2⟩;rw [Rat.divInt_eq_div];exact Rat.div_mul_cancel (by decide)
theorem Qd_add {K B C:Int}{x y:Rat}(h:Qd K B x)(k:Qd K C y):Qd K (B+C) (x+y):=by
 obtain⟨a,h1,h2,h3⟩:=h;obtain⟨c,k1,k2,k3⟩:=k;exact⟨a+c,by rw [Rat.add_mul,h1,k1,Rat.intCast_add],by omega,by omega⟩
theorem Qd_twice {K B:Int}{x:Rat}(h:Qd K B x):Qd (2*K) (2*B) x:=by
 obtain⟨a,h1,h2,h3⟩:=h;refine⟨2*a,?_,by omega,by omega⟩;rw [Rat.intCast_mul,Rat.intCast_mul,<-h1]
 grind
theorem half_two':(Rat.divInt 1 2:Rat)=1 / 2:=by decide+kernel
theorem Qd_mid {K B:Int}{x y:Rat}(h:Qd K B x)(k:Qd K B y):Qd (2*K) (2*B) (midQ x y):=by
 obtain⟨a,h1,h2,h3⟩:=h;obtain⟨c,k1,k2,k3⟩:=k;refine⟨a+c,?_,by omega,by omega⟩;unfold midQ;rw [half_two',Rat.intCast_mul,Rat.intCast_add,<-h1,<-k1];have:((2:Int):Rat)=2:=rfl
 grind
theorem Q2_mid {K B:Int}{p q:P2}(h:Q2 K B p)(k:Q2 K B q):Q2 (2*K) (2*B) (mid2 p q):=⟨Qd_mid h.1 k.1,Qd_mid h.2 k.2⟩
theorem Q2_twice {K B:Int}{p:P2}(h:Q2 K B p):Q2 (2*K) (2*B) p:=⟨Qd_twice h.1,Qd_twice h.2⟩
theorem byQ_Q (l:List Int):Q2 2 8 (byQ l):=by
 have h1:=atv_lo l 16 9 (by omega);have h2:=atv_hi l 16 9 (by omega);have h3:=atv_lo l 17 9 (by omega);have h4:=atv_hi l 17 9 (by omega);exact⟨Qd_int 2 (by omega) (by omega),Qd_int 2 (by omega) (by omega)⟩
theorem pgE_Q (l:List Int){i:Nat}(hi:i<16):Q2 2 32 (pgE l i):=by
 have hw:=wys_bd i hi;have h0:=atv_lo l (i:Int) 6 (by omega);have h5:=atv_hi l (i:Int) 6 (by omega);have m1:=mul_bd4 hw.1 hw.2.1 h0 h5;have m2:=mul_bd4 hw.2.2.1 hw.2.2.2 h0 h5;exact⟨Qd_add (byQ_Q l).1 (Qd_half m1.1 m1.2),Qd_add (byQ_Q l).2 (Qd_half m2.1 m2.2)⟩
theorem pgL_Q (l:List Int):∀i,i<=16->∀p∈pgL l i,Q2 2 32 p
 |0,_,p,h=>by cases h
 |i+1,hi,p,h=>by
  rw [pgL] at h;split at h
  ·rcases List.mem_append.1 h with h|h
   ·exact pgL_Q l i (by omega) p h
   ·rw [List.mem_singleton.1 h];exact pgE_Q l (by omega)
  ·exact pgL_Q l i (by omega) p h
theorem Qd_le {K B C:Int}{x:Rat}(h:Qd K B x)(hB:B<=C):Qd K C x:=by
 obtain⟨a,h1,h2,h3⟩:=h;exact⟨a,h1,by omega,by omega⟩
theorem Q2_le {K B C:Int}{p:P2}(h:Q2 K B p)(hB:B<=C):Q2 K C p:=⟨Qd_le h.1 hB,Qd_le h.2 hB⟩
theorem by_Q (l:List Int){a c:Int}(h1: -4<=a)(h2:a<=4)(h3: -4<=c)(h4:c<=4):Q2 2 32 ((byQ l).1+Rat.divInt a 1,(byQ l).2+Rat.divInt c 1):=
 ⟨Qd_le (Qd_add (byQ_Q l).1 (Qd_int (B:=8) 2 (by omega) (by omega))) (by omega),Qd_le (Qd_add (byQ_Q l).2 (Qd_int (B:=8) 2 (by omega) (by omega))) (by omega)⟩
theorem polyR_Q (l:List Int):∀p∈polyR l,Q2 2 32 p:=by
 intro p hp;unfold polyR at hp;split at hp
 ·exact pgL_Q l 16 (Nat.le_refl _) p hp
 ·have h0:=atv_lo l 0 2 (by omega);have h1:=atv_hi l 0 2 (by omega);simp only [pgF,List.mem_cons,List.not_mem_nil,or_false] at hp;rcases hp with rfl|rfl|rfl|rfl
  ·exact Q2_le (byQ_Q l) (by omega)
  ·exact by_Q l (by omega) (by omega) (by omega) (by omega)
  ·exact by_Q l (by omega) (by omega) (by omega) (by omega)
  ·exact by_Q l (by omega) (by omega) (by omega) (by omega)
theorem cv_Q {K B:Int}{vs:List P2}(h:∀p∈vs,Q2 K B p)(h0:0<vs.length)(k:Nat):Q2 K B (cv vs k):=h _ (List.mem_of_getElem? (cv_get k h0))
def VqB (N:Nat)(a:Rat)(bad:Bool):VP:=VP2 2 2 (Vz N a.num) (Vz N (if bad then 1 else qd a))
def EVb (N:Nat)(x:P2×Bool):VP:=VP2 4 4 (VqB N x.1.1 x.2) (Vq N x.1.2)
instance {BT:List (TypeId×Nat×Nat)}(N:Nat)(a:Rat)(b:Bool):Sb BT (VqB N a b):=⟨Stab_VP2 (Stab_Vz _ _) (Stab_Vz _ _)⟩
theorem cR4ValidB {W:World}{N:Nat}{a:Rat}{b:Bool}{v:Value}(h:VqB N a b v W)(h3:3<=N:=by omega)(hN:N<=100000:=by omega):Calls Tryz.prog 115 #[v] W (RV (Vb (!b)) W):=by
 have:=cR4ValidZ h h3 hN;cases b with
 |true=>rw [dF (by simp)] at this;exact this
 |false=>
  rw [show(if false=true then(1:Int)else qd a)=qd a from rfl,dT q_low] at this;exact this
def VSb (N:Nat)(bl:List (P2×Bool)):VP:=VSl 32 8 (EVb N) bl
section
variable {ρ:Operand->Value}{o:Oper}{w W:World}{x y:Operand}{va vb:Value}{g n c j N:Nat}{vs us:List P2}{bl:List (P2×Bool)}{A B:VP}
theorem index_Sb {e:P2×Bool}(ho:o.op= .indexAddr 23 x y)(hx:ρ x=va)(h:VAt w (VSb N bl) va W)(hy:ρ y=vb)(hb:Vi (j:Int) vb W)(hz:bl[j]? =some e):∃v,(execOp ρ o).run Tryz.prog W= .ok (.value v) W/\VAt w (VEp 32 8 (EVb N e)) v W:=by
 obtain⟨b,off,c,rfl,h2⟩:=VSl_el h hz;obtain rfl:vb=_:=hb;refine⟨.pointer (some ⟨b,off+8*j,none⟩),?_,h2⟩
 have hj:j<bl.length:=by
  rcases Nat.lt_or_ge j bl.length with h'|h'
  ·exact h'
  ·rw [List.getElem?_eq_none h'] at hz;cases hz
 have hj2:(j:Int)<(bl.length:Int):=by omega
 have hm:j*8=8*j:=Nat.mul_comm _ _;clear h h2 hz;generalize bl.length=n at*
 obtain⟨dd,op,ty,ps,af,gd⟩:=o;subst ho
 go_simp
theorem len_Sb (ho:o.op= .call {callee:= .builtin .len,args:=#[x],argTypes:=#[23]})(hty:o.type=3)(hx:ρ x=va)(h:VAt w (VSb N bl) va W):∃v,(execOp ρ o).run Tryz.prog W= .ok (.value v) W/\Vi (bl.length:Int) v W:=by
 obtain⟨hh,oo,c,cs,rfl,-⟩:=h;refine⟨.int .i64 (bl.length:Int),?_,rfl⟩;generalize bl.length=n at*
 obtain⟨dd,op,ty,ps,af,gd⟩:=o;subst ho;simp only at hty;subst hty
 go_simp
theorem field_EpG0 (ho:o.op= .fieldAddr 32 x 0)(hx:ρ x=va)(h:VAt w (VEp 32 8 (VP2 4 4 A B)) va W):∃v,(execOp ρ o).run Tryz.prog W= .ok (.value v) W/\VAt w (VEp 32 4 A) v W:=by
 obtain⟨g,off,cs,rfl,e2,e3,e4⟩:=h;refine⟨_,?_,g,off+0,cs,rfl,e2,by omega,?_⟩
 ·unfold execOp;simp only [ho,hx,Sem.run_bind,field_Vec0,Sem.run_pure,Result.andThen_ok]
 ·have:=VP2_fst e4;rw [show(4:Nat)=0+4 from rfl,ext_ext (by omega)] at this;exact this
theorem field_EpG1 (ho:o.op= .fieldAddr 32 x 1)(hx:ρ x=va)(h:VAt w (VEp 32 8 (VP2 4 4 A B)) va W):∃v,(execOp ρ o).run Tryz.prog W= .ok (.value v) W/\VAt w (VEp 32 4 B) v W:=by
 obtain⟨g,off,cs,rfl,e2,e3,e4⟩:=h;refine⟨_,?_,g,off+4,cs,rfl,e2,by omega,?_⟩
 ·unfold execOp;simp only [ho,hx,Sem.run_bind,field_Vec1,Sem.run_pure,Result.andThen_ok]
 ·have:=VP2_snd e4;rw [ext_ext (by omega)] at this;exact this
theorem load_EpG (hA:Stab [] A)(ho:o.op= .load 30 x)(hx:ρ x=va)(h:VAt w (VEp 32 4 A) va W)(hb:Below w.heap.size w W):∃v,(execOp ρ o).run Tryz.prog W= .ok (.value v) W/\A v W:=by
 obtain⟨g,off,cs,rfl,e2,e3,e4⟩:=h;refine⟨_,?_,VAt_cur hA (show VAt w A _ W from e4) hb⟩;have e5:=(hb.block _ (lt_blk e2)).trans e2;unfold execOp;simp only [ho,hx,Instr.loadAt,Instr.sureAddr,Sem.run_bind,Sem.run_pure,Result.andThen_ok,run_loadVar_part W g off 4 32 30 cs (0,0) _ e5 e3 Tryz.underlying30 rfl size_Rat]
end
theorem cR6NumbersB {w:World}{N:Nat}{bl:List (P2×Bool)}{v0:Value}(h0:VAt w (VSb N bl) v0 w)(hbad:∃(i:Nat) (x:P2×Bool),bl[i]? =some x/\x.2=true)(hN3:3<=N:=by omega)(hN:N<=900:=by omega):Calls Tryz.prog 76 #[v0] w (RV (Vb false) w):=by
 go_enter Tryz.func76,Tryz.ntmps76
 generalize hA:(⟨_,_⟩:Act)=a0;have st0:St w.heap.size w 26 [] [(0,VAt w (VSb N bl))] a0 w:=by subst hA;exact St.begin rfl rfl (Lq.2 ⟨⟨_,rfl,h0⟩,L0⟩)
 clear hA;have hmax:bl.length<=9223372036854775807:=by obtain⟨hh,o,c,cs,-,h1,h2,-⟩:=id h0;omega
 refine Wn ?_
 refine rH [] [Vb false] [] [(0,VAt w (VSb N bl)),(2,Vb false)] st0 ⟨ks,trivial⟩ fun a1 w1 st1=>Wn ?_
 refine rH [] [Vi 0] [] [(0,VAt w (VSb N bl)),(2,Vb false),(3,Vi 0)] st1 ⟨ks,trivial⟩ ?_;intro a2 w2 st2;replace st2:St w.heap.size w 26 [] [(0,VAt w (VSb N bl)),(3,Vi ((0:Nat):Int))] a2 w2:=st2.cut;refine Wn ?_
 refine wp_loop_ghost (fun m aX wX=>∃j:Nat,j+m=bl.length/\(∀(i:Nat) (x:P2×Bool),i<j->bl[i]? =some x->x.2=false)/\St w.heap.size w 26 [] [(0,VAt w (VSb N bl)),(3,Vi j)] aX wX) bl.length ⟨0,by omega,fun i x hi=>absurd hi (by omega),st2⟩ ?_;intro m aL wL ⟨j,hj,hgood,st2⟩;by_cases hlt:j<bl.length
 ·
  refine Wn ?_
  refine rH [] [Vi j,VAt w (VSb N bl),Vi (bl.length:Int),Vb true] [] [(0,VAt w (VSb N bl)),(3,Vi j),(7,Vb true)] st2 ⟨ks,ks,(kr1 5 fun _ _ _ _ _ x0 X0=>len_Sb rfl rfl x0 X0),(kr2 4 6 fun _ _ _ _ _ x0 X0 _ x1 X1=>⟨_,run_lssi rfl (x0.trans X0) (x1.trans X1),congrArg Value.bool (dT (by omega))⟩),trivial⟩ fun a3 w3 st3=>Wn ?_
  refine cT st3 ?_;obtain⟨⟨a,b⟩,hx⟩:∃x,bl[j]? =some x:=⟨_,List.getElem?_eq_getElem hlt⟩;cases b with
  |true=>
   refine Wn ?_
   refine rH [] [VAt w (VSb N bl),Vi j,VAt w (VEp 32 8 (EVb N (a,true))),VAt w (VEp 32 4 (VqB N a.1 true)),VqB N a.1 true,Vb false,Vb true,Vb true,VT,VT,VT,VT,VT,VT,VT,Vb true] [] [(0,VAt w (VSb N bl)),(3,Vi j),(7,Vb true),(25,Vb true)] st3 ⟨ks,ks,(kr2 10 11 fun _ _ _ _ _ x0 X0 _ x1 X1=>index_Sb rfl x0 X0 x1 X1 hx),(kr1 12 fun _ _ _ _ _ x0 X0=>field_EpG0 rfl x0 X0),(kr1 13 fun _ _ _ h _ x0 X0=>load_EpG (A:=VqB N a.1 true) Sb.out rfl x0 X0 h.k.below),(kd1 fun _ _ _ _ _ X0=>cR4ValidB (b:=true) (a:=a.1) X0),ks,ks,ks,ks,ks,ks,ks,ks,ks,ks,trivial⟩ fun a4 w4 st4=>Wn ?_
   refine cT st4 ?_;refine Wn ?_
   refine rH [] [Vb false] [] [(0,VAt w (VSb N bl)),(3,Vi j),(7,Vb true),(25,Vb true),(2,Vb false)] st4 ⟨ks,trivial⟩ fun a5 w5 st5=>Wn ?_
   exact wp_ret (rS 2 (Vb false) st5 fun vr r4=>r4)
  |false=>
   refine Wn ?_
   refine rH [] [VAt w (VSb N bl),Vi j,VAt w (VEp 32 8 (EVb N (a,false))),VAt w (VEp 32 4 (VqB N a.1 false)),VqB N a.1 false,Vb true,Vb false,Vb false,VAt w (VSb N bl),Vi j,VAt w (VEp 32 8 (EVb N (a,false))),VAt w (VEp 32 4 (Vq N a.2)),Vq N a.2,Vb true,Vb false,Vb false] [] [(0,VAt w (VSb N bl)),(3,Vi j),(7,Vb true),(25,Vb false)] st3 ⟨ks,ks,(kr2 10 11 fun _ _ _ _ _ x0 X0 _ x1 X1=>index_Sb rfl x0 X0 x1 X1 hx),(kr1 12 fun _ _ _ _ _ x0 X0=>field_EpG0 rfl x0 X0),(kr1 13 fun _ _ _ h _ x0 X0=>load_EpG (A:=VqB N a.1 false) Sb.out rfl x0 X0 h.k.below),(kd1 fun _ _ _ _ _ X0=>cR4ValidB (b:=false) (a:=a.1) X0),ks,ks,ks,ks,(kr2 18 19 fun _ _ _ _ _ x0 X0 _ x1 X1=>index_Sb rfl x0 X0 x1 X1 hx),(kr1 20 fun _ _ _ _ _ x0 X0=>field_EpG1 rfl x0 X0),(kr1 21 fun _ _ _ h _ x0 X0=>load_EpG (Stab_Vq _ _) rfl x0 X0 h.k.below),(kd1 fun _ _ _ _ _ X0=>cR4Valid X0),ks,ks,trivial⟩ fun a4 w4 st4=>Wn ?_
   refine cF st4 ?_;refine Wn ?_
   refine rH [] [Vi j,Vi ((j+1:Nat):Int),Vi ((j+1:Nat):Int)] [] [(0,VAt w (VSb N bl)),(7,Vb true),(25,Vb false),(3,Vi ((j+1:Nat):Int))] st4 ⟨?s0,(kr1 8 fun _ _ _ _ v0 x0 X0=>⟨_,run_addi rfl (x0.trans (show v0= .int .i64 j from X0)) rfl wO,congrArg (Value.int .i64) (by omega)⟩),ks,trivial⟩ ?_
   case s0=>
    refine k_run0 SbB.out (by kernel_rfl) fun listed ac Y h D hnl=>⟨trivial,?_⟩
    obtain⟨v0,x0,X0⟩:=h.out0 hnl (3,Vi j) (.tail _ (.head _)) 2 (by kernel_rfl) (.inr (by kernel_rfl));exact⟨_,run_move rfl,by rw [x0];exact X0⟩
   intro a5 w5 st5;replace st5:St w.heap.size w 26 [] [(0,VAt w (VSb N bl)),(7,Vb true),(25,Vb false),(3,Vi ((j+1:Nat):Int))] a5 w5:=st5
   have hgood2:∀(i:Nat) (x:P2×Bool),i<j+1->bl[i]? =some x->x.2=false:=fun i x hi hix=>by
    rcases Nat.lt_or_ge i j with h|h
    ·exact hgood i x h hix
    ·obtain rfl:i=j:=by omega
     rw [hx] at hix;cases hix;rfl
   exact⟨m - 1,by omega,j+1,by omega,hgood2,st5.cut⟩
 ·
  exfalso;obtain⟨i,x,hi,hx⟩:=hbad
  have hil:i<bl.length:=by
   rcases Nat.lt_or_ge i bl.length with h|h
   ·exact h
   ·rw [List.getElem?_eq_none h] at hi;cases hi
  have:=hgood i x (by omega) hi;rw [hx] at this;cases this

end Go.Proofs.YteacdbgalloaiaaGreat
