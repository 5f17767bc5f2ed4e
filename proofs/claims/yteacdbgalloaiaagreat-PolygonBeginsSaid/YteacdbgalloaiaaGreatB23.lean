/- Contracts of the packages integer, rat, plane, polygon and their references. -/
import Derived.Test.YteacdbgalloaiaaGreatB22
set_option linter.unusedVariables false
set_option maxRecDepth 100000
set_option maxHeartbeats 6400000
namespace Go.Proofs.YteacdbgalloaiaaGreat
open Go Go.RowKit
section
variable {α:Type}{T ST:TypeId}{k g c lo:Nat}{b:Option Addr}{E:α->VP}{xs zs:List α}
def VRy {α:Type}(T:TypeId)(k:Nat)(E:α->VP)(lo:Nat)(xs:List α):VP:=fun v w=>(xs= []/\∃h,v= .slice (some ⟨h,0,none⟩) 0 0)∨∃g c,lo<=g/\0<c/\VRg T k E none g c xs v w
def VE0:VP:=fun v _=>∃h,v= .slice (some ⟨h,0,none⟩) 0 0
instance {BT:List (TypeId×Nat×Nat)}:Sb BT VE0:=⟨fun _ _ _ h _=>h⟩
theorem Stab_VRy (hE:∀x,Stab [] (E x))(hk:0<k):Stab [] (VRy T k E lo xs):=fun _ _ _ h hr=>h.imp id fun ⟨g,c,h1,h2,h3⟩=>⟨g,c,h1,h2,Stab_VRg hE hk (.inl (by simp)) _ _ _ h3 hr⟩
theorem Stab_VOs0 (hE:∀x,Stab [] (E x)):Stab [] (VOs T k E xs):=Stab_VOs hE (by simp)
section
variable {ρ:Operand->Value}{o:Oper}{W:World}{x y:Operand}{va vb:Value}
theorem setCells_nil2 (W:World)(g o:Nat):W.setCells g o []=W:=by
 unfold World.setCells;rfl
theorem app_both [hs:SlT ST T k][hA:∀x,Ag (E x) k](ho:o.op= .call {callee:= .builtin .append,args:=#[x,y],argTypes:=#[ST,ST]})(hx:ρ x=va)(h:VRy T k E lo xs va W)(hy:ρ y=vb)(h1:VSc T k E zs vb W)(hE:∀x BT,Stab BT (E x))(hlo:lo<=W.heap.size)(hb:xs.length+zs.length<=1000000):
 ∃v w',(execOp ρ o).run Tryz.prog W= .ok (.value v) w'/\Below lo W w'/\RT T W w'/\VRy T k E lo (xs++zs) v w':=by
 have hRT:∀w',Below W.heap.size W w'->RT T W w':=fun w' hb=> .of (RI.of_below hb)
 have grow:∀b g c,VRg T k E b g c xs va W->c<xs.length+zs.length->∃v w',(execOp ρ o).run Tryz.prog W= .ok (.value v) w'/\Below lo W w'/\RT T W w'/\VRy T k E lo (xs++zs) v w':=fun b g c h hc=>by
  obtain⟨v,w',r1,r2,r3⟩:=app_growM ho hx h hy h1 (fun x=>hE x []) hc hlo hb;exact⟨v,w',r1,r2.mono hlo,hRT _ r2,.inr r3⟩
 rcases h with⟨rfl,h0,rfl⟩|⟨g,c,hg,hc,h⟩
 ·cases zs with
  |nil=>
   obtain⟨i,zv,hi,hz,hsz,hby,hzc,hzn⟩:=hs.info;obtain⟨ch,hsrc,e2,-,-⟩:=VSc_src (ST:=ST) (i:=i) hsz h1;have hc0:ch.toList= []:=List.eq_nil_of_length_eq_zero (by simpa using e2);rw [hc0] at hsrc;have hr:=run_append_room_src W ST ST o.type T i hs.und hi h0 0 0 0 vb 0 [] hsrc (Nat.le_refl _) (fun j hj=>absurd hj (by simp)) (fun j hj=>absurd hj (by simp));rw [setCells_nil2] at hr;refine⟨_,W,?_,Below.refl _ _,hRT _ (Below.refl _ _),.inl ⟨rfl,h0,rfl⟩⟩;unfold execOp;simp only [ho,resolve,invoke,builtin,Sem.run_bind,Sem.run_pure,Result.andThen_ok,List.map_toArray,List.map_cons,List.map_nil,hx,hy,hr]
  |cons z zs=>exact grow (some ⟨h0,0,none⟩) 0 0 ⟨by simp,by omega,.inl ⟨rfl,rfl⟩⟩ (by simp)
 ·by_cases hroom:xs.length+zs.length<=c
  ·obtain⟨hl,hcm,(⟨h0,-⟩|⟨-,rfl,old,e1,e2,e3,hP0⟩)⟩:=h
   ·omega
   obtain⟨i,zv,hi,hz,hsz,hby,hzc,hzn⟩:=hs.info;have hk:=hs.pos;obtain⟨ch,hsrc,q2,q3,q5⟩:=VSc_src (ST:=ST) (i:=i) hsz h1;have hcl:ch.toList.length=k*zs.length:=q2;have hle:k*xs.length+k*zs.length<=k*c:=by rw [<-Nat.mul_add];exact Nat.mul_le_mul_left k hroom
   have hrun:=run_append_row (P:=Tryz.prog) W ST o.type T i hs.und hi g xs.length c old e1 vb zs.length ch.toList hsrc hroom (by rw [hcl,hsz,Nat.mul_comm xs.length,e2];exact hle);obtain⟨cs',hcs'⟩:∃cs':Array Value,(old.toList.take (xs.length*i.size)++ch.toList++old.toList.drop (xs.length*i.size+ch.toList.length)).toArray=cs':=⟨_,rfl⟩;have hol:old.toList.length=k*c:=e2;have htl:(old.toList.take (xs.length*i.size)).length=k*xs.length:=by rw [List.length_take,hsz,Nat.mul_comm,hol];omega
   have hsize:cs'.size=k*c:=by
    rw [<-hcs',List.size_toArray,List.length_append,List.length_append,htl,hcl,List.length_drop,hol,hsz,Nat.mul_comm xs.length k];omega
   have hget:∀j,j<k*xs.length+k*zs.length->cs'[j]? =if j<k*xs.length then old[j]? else ch[j - k*xs.length]? :=fun j hj=>by
    rw [<-hcs',List.getElem?_toArray,List.getElem?_append_left (by rw [List.length_append,htl,hcl];exact hj),List.getElem?_append,htl];split
    ·rw [List.getElem?_take,if_pos (by rw [hsz,Nat.mul_comm];assumption),Array.getElem?_toList]
    ·rw [Array.getElem?_toList]
   have hni:NoInt cs':=fun i' x hx'=>by
    rw [<-hcs',List.getElem?_toArray,List.getElem?_append,List.getElem?_append] at hx';split at hx'
    ·split at hx'
     ·rw [List.getElem?_take] at hx';split at hx'
      ·rw [Array.getElem?_toList] at hx';exact e3 _ _ hx'
      ·cases hx'
     ·rw [Array.getElem?_toList] at hx';exact q3 _ _ hx'
    ·rw [List.getElem?_drop,Array.getElem?_toList] at hx';exact e3 _ _ hx'
   rw [hcs'] at hrun;have hkc:0<k*c:=Nat.mul_pos hk hc
   have hRI:RI [(T,k*c,0)] W (W.setRow g cs'):=RI_setRow e1 e3 ⟨⟨_,List.mem_cons_self,rfl,e2.symm,.inl rfl⟩,fun e he q1 q2=>by
    have:=List.mem_singleton.1 he;subst this;simp only at q2
    omega⟩
   refine⟨_,W.setRow g cs',?_,below_setRow (Below.refl _ _) hg,⟨k*c,by omega,hRI⟩,.inr ⟨g,c,hg,hc,by simpa using hroom,hcm,.inr ⟨hc,by rw [List.length_append],_,setRow_heap W g old cs' _ _ e1,hsize,hni,VEl_more (Stab_VEl (fun x=>hE x _) _ _ _ hP0 hRI) (Stab_VEl (fun x=>hE x _) _ _ _ q5 hRI) (by rw [hsize];exact hle) q2 hget (by rw [e2];omega)⟩⟩⟩;unfold execOp;simp only [ho,resolve,invoke,builtin,Sem.run_bind,Sem.run_pure,Result.andThen_ok,List.map_toArray,List.map_cons,List.map_nil,hx,hy,hrun]
  ·exact grow none g c h (by omega)
end
section
variable {md:Region.Mode}{ops:Array Oper}{Q:Exit->Act->World->Prop}{a0:Act}{Vl:List VP}{n0:Nat}{w0:World}{SL:List (Nat×VP)}{es:List En}
def waitsE (md:Region.Mode)(ops:Array Oper)(p:Oper)(k:Nat):Bool:=p.after.any (fun a=>Region.binds md a && (a.on==k||(match ops[a.on]? with|some r=>r.after.any (fun b=>Region.binds md b && (b.on==k||(match ops[b.on]? with|some r=>r.after.any (fun b=>b.on==k && Region.binds md b)|none=>false)))|none=>false)))
theorem waitsE_not {listed:Array Bool}{a:Act}{w:World}{e k:Nat}{p:Oper}(hk:KI md ops a0 (GV Vl) n0 w0 [] SL listed a w)(ho:ops[e]? =some p)(hw:waitsE md ops p k=true)(he:listed.getD e false=true):listed.getD k false=true:=by
 unfold waitsE at hw;simp only [Array.any_eq_true'] at hw;obtain⟨a',ha,hb⟩:=hw;rw [Bool.and_eq_true,Bool.or_eq_true] at hb;have h5:=hk.closed e p ho he a' ha hb.1;rcases hb.2 with hb|hb
 ·rw [beq_iff_eq] at hb;rw [<-hb];exact h5
 ·cases hr:ops[a'.on]? with
  |none=>rw [hr] at hb;cases hb
  |some r=>
   rw [hr] at hb;simp only [Array.any_eq_true'] at hb;obtain⟨b',hb1,hb2⟩:=hb;rw [Bool.and_eq_true,Bool.or_eq_true] at hb2;have h6:=hk.closed a'.on r hr h5 b' hb1 hb2.1;rcases hb2.2 with hb3|hb3
   ·rw [beq_iff_eq] at hb3;rw [<-hb3];exact h6
   ·cases hr2:ops[b'.on]? with
    |none=>rw [hr2] at hb3;cases hb3
    |some r2=>
     rw [hr2] at hb3;simp only [Array.any_eq_true'] at hb3;obtain⟨c',hc1,hc2⟩:=hb3;rw [Bool.and_eq_true,beq_iff_eq] at hc2;have h7:=hk.closed b'.on r2 hr2 h6 c' hc1 hc2.2;rw [<-hc2.1];exact h7
def deadE (md:Region.Mode)(ops:Array Oper)(k:Nat)(o:Oper)(e:En):Bool:=e.i==some k||e.j==some k||(match e.j with|some j=>o.after.any (fun a=>a.on==j && Region.binds md a)|none=>false)||
 (match e.i with|some i=>(match ops[i]? with|some p=>waitsE md ops p k|none=>false)|none=>false)
theorem XE.step {listed:Array Bool}{a a':Act}{w w':World}{i:Nat}{o:Oper}(hk:KI md ops a0 (GV Vl) n0 w0 [] SL listed a w)(D:∀e∈o.after,Region.binds md e=true->listed.getD e.on false=true)(hil:i<listed.size)(hnl:listed.getD i false=false)(hde:es.all (deadE md ops i o)=true)
 (hnew:∀e∈es,e.i=some i->∃v,a'.tmps[e.t]? =some v/\e.P v w'):XE es (listed.setIfInBounds i true) a' w':=by
 intro e he h1 h2;rw [List.all_eq_true] at hde;by_cases hi:e.i=some i
 ·exact hnew e he hi
 ·exfalso;have q:=hde e he;unfold deadE at q;simp only [Bool.or_eq_true,beq_iff_eq] at q;rcases q with((q|q)|q)|q
  ·exact hi q
  ·have:=h2 i q;rw [getD_set _ _ _ hil,if_pos rfl] at this;cases this
  ·cases hj:e.j with
   |none=>rw [hj] at q;cases q
   |some j=>
    rw [hj] at q;have h3:listed.getD j false=true:=listed_dep D j q;have h4:=h2 j hj;rw [getD_set _ _ _ hil] at h4;split at h4
    ·cases h4
    ·rw [h3] at h4;cases h4
  ·cases hei:e.i with
   |none=>rw [hei] at q;cases q
   |some i'=>
    rw [hei] at q;simp only at q;have h3:=h1 i' hei;rw [getD_set _ _ _ hil,if_neg (fun e2=>hi (by rw [hei,e2]))] at h3;cases ho:ops[i']? with
    |none=>rw [ho] at q;cases q
    |some p=>
     rw [ho] at q;have:=waitsE_not hk ho q h3;rw [hnl] at this;cases this
theorem put_new {o:Oper}{a:Act}{listed:Array Bool}{w:World}{v:Value}{t:Nat}(hk:KI md ops a0 (GV Vl) n0 w0 [] SL listed a w)(hin:o.dst.all (fun d=>decide (d<a0.tmps.size))=true)(ht:o.dst=some t):(a.put o.dst v).tmps[t]? =some v:=by
 have hlt:t<a.tmps.size:=by
  rw [ht] at hin;rw [hk.size]
  simpa using hin
 rw [ht];simp [Act.put,hlt]
theorem KS.nil {listed listed':Array Bool}{a a':Act}{w w':World}(h:KS n0 w0 [] listed a w)(hb:Below n0 w w'):KS n0 w0 [] listed' a' w':=⟨h.below.trans hb,fun b hb=>absurd hb (by simp),fun b hb=>absurd hb (by simp),fun b hb=>absurd hb (by simp)⟩
def liveE (md:Region.Mode)(ops:Array Oper)(i:Nat)(o:Oper)(e:En):Bool:=(match e.i with|some i'=>o.after.any (fun a=>a.on==i' && Region.binds md a)|none=>true) && (match e.j with|some j=>j==i||(match ops[j]? with|some p=>waitsE md ops p i|none=>false)|none=>true)
theorem XE.get {listed:Array Bool}{a:Act}{w:World}{i:Nat}{o:Oper}{e:En}(hx:XE es listed a w)(hk:KI md ops a0 (GV Vl) n0 w0 [] SL listed a w)(D:∀e∈o.after,Region.binds md e=true->listed.getD e.on false=true)(hnl:listed.getD i false=false)(he:e∈es)(hl:liveE md ops i o e=true):∃v,a.tmps[e.t]? =some v/\a.eval (.tmp e.t)=v/\e.P v w:=by
 unfold liveE at hl;rw [Bool.and_eq_true] at hl
 obtain⟨v,q1,q2⟩:=hx e he (fun i' hi=>by
  rw [hi] at hl
  exact listed_dep D _ hl.1) fun j hj=>by
  rw [hj] at hl;simp only [Bool.or_eq_true,beq_iff_eq] at hl;rcases hl.2 with q|q
  ·rw [q];exact hnl
  ·cases ho:ops[j]? with
   |none=>rw [ho] at q;cases q
   |some p=>
    rw [ho] at q;cases hh:listed.getD j false with
    |false=>rfl
    |true=>
     have:=waitsE_not hk ho q hh;rw [hnl] at this;cases this
 exact⟨v,q1,by simp [Act.eval,Array.getD_eq_getD_getElem?,q1],q2⟩
theorem kx_app {i s u:Nat}{o:Oper}{X:VP}[hs:SlT ST T k][hA:∀x,Ag (E x) k](ho:o.op= .call {callee:= .builtin .append,args:=#[.tmp s,.tmp u],argTypes:=#[ST,ST]})
 (hx:(∃e∈es,e.t=s/\e.P=VRy T k E n0 xs/\liveE md ops i o e=true)∨(xs= []/\KnS md ops Vl SL o s VE0))
 (hy:(∃e∈es,e.t=u/\e.P=X/\liveE md ops i o e=true)∨KnS md ops Vl SL o u X) (hX:∀v w,Below n0 w0 w->X v w->VSc T k E zs v w)
 (hn:∀e∈es,e.i=some i->e.P=VRy T k E n0 (xs++zs)/\o.dst=some e.t) (hde:es.all (deadE md ops i o)=true) (hV:GV Vl i=VT) (hE:∀x BT,Stab BT (E x)) (hb:xs.length+zs.length<=1000000) (hg:GOk md ops Vl o):KStepX Tryz.prog md ops Q a0 (GV Vl) n0 w0 SL T es i o:=by
 intro listed a w h hxe D hin hil hnl K hK;rw [if_pos (wanted_of (hg.get h D))]
 obtain⟨va,hva,hVa⟩:∃v,a.eval (.tmp s)=v/\VRy T k E n0 xs v w:=by
  rcases hx with⟨e,he,rfl,e3,e4⟩|⟨rfl,hx⟩
  ·obtain⟨v,-,q1,q2⟩:=hxe.get h D hnl he e4;exact⟨v,q1,e3 ▸ q2⟩
  ·obtain⟨v,q1,q2⟩:=hx.get h D;exact⟨v,q1,.inl ⟨rfl,q2⟩⟩
 obtain⟨vb,hvb,hVb⟩:∃v,a.eval (.tmp u)=v/\X v w:=by
  rcases hy with⟨e,he,rfl,e3,e4⟩|hy
  ·obtain⟨v,-,q1,q2⟩:=hxe.get h D hnl he e4;exact⟨v,q1,e3 ▸ q2⟩
  ·exact hy.get h D
 obtain⟨v,w',r1,r2,r3,r4⟩:=app_both ho hva hVa hvb (hX _ _ h.k.below hVb) hE h.n hb;unfold Oper.wp;rw [r1];exact hK v w' (h.k.nil r2) r3 (XE.step h D hil hnl hde fun e he hi=>⟨v,put_new h hin (hn e he hi).2,by rw [(hn e he hi).1];exact r4⟩) (by rw [hV];trivial)
theorem kx_asg {i s:Nat}{o:Oper}{X:VP}(ho:o.op= .assign (.tmp s))(hx:∃e∈es,e.t=s/\e.P=X/\liveE md ops i o e=true)(hn:∀e∈es,e.i=some i->e.P=X/\o.dst=some e.t)(hd2:es.all (fun e=>e.i==some i||o.dst !=some e.t)=true)(hV:GV Vl i=VT)(hg:GOk md ops Vl o):KStepX Tryz.prog md ops Q a0 (GV Vl) n0 w0 SL T es i o:=by
 intro listed a w h hxe D hin hil hnl K hK;rw [if_pos (wanted_of (hg.get h D))];obtain⟨e,he,rfl,rfl,e4⟩:=hx;obtain⟨v,q0,q1,q2⟩:=hxe.get h D hnl he e4;unfold Oper.wp;rw [run_assign ho,q1];refine hK v w (h.k.nil (Below.refl _ _)) (.of (RI.refl w)) ?_ (by rw [hV];trivial);intro e' he' h1 h2;rw [List.all_eq_true] at hd2;by_cases hi:e'.i=some i
 ·exact⟨v,put_new h hin (hn e' he' hi).2,by rw [(hn e' he' hi).1];exact q2⟩
 ·have q:=hd2 e' he';simp only [Bool.or_eq_true,beq_iff_eq,bne_iff_ne,ne_eq,hi,false_or] at q
  obtain⟨u,p1,p2⟩:=hxe e' he' (fun i' hi'=>by
   have:=h1 i' hi';rw [getD_set _ _ _ hil,if_neg (fun e2=>hi (by rw [hi',e2]))] at this
   exact this) fun j hj=>by
   have:=h2 j hj;rw [getD_set _ _ _ hil] at this;split at this
   ·cases this
   ·exact this
  exact⟨u,by rw [put_get_ne q];exact p1,p2⟩
theorem kx_mem {i:Nat}{o:Oper}{X:VP}(H:∀(listed:Array Bool) a w,KI md ops a0 (GV Vl) n0 w0 [] SL listed a w->(∀e∈o.after,Region.binds md e=true->listed.getD e.on false=true)->∃v w',(execOp a.eval o).run Tryz.prog w= .ok (.value v) w'/\Below w.heap.size w w'/\X v w')(hP:∀e∈es,Stab [] e.P)(hd2:es.all (fun e=>e.i==some i||o.dst !=some e.t)=true)(hn:∀e∈es,e.i=some i->e.P=X/\o.dst=some e.t)(hV:GV Vl i=VT)(hg:GOk md ops Vl o):KStepX Tryz.prog md ops Q a0 (GV Vl) n0 w0 SL T es i o:=by
 intro listed a w h hxe D hin hil hnl K hK;rw [if_pos (wanted_of (hg.get h D))];obtain⟨v,w',r1,r2,r3⟩:=H listed a w h D;unfold Oper.wp;rw [r1];refine hK v w' (h.k.nil (r2.mono h.n)) (.of (RI.of_below r2)) ?_ (by rw [hV];trivial);intro e' he' h1 h2;rw [List.all_eq_true] at hd2;by_cases hi:e'.i=some i
 ·exact⟨v,put_new h hin (hn e' he' hi).2,by rw [(hn e' he' hi).1];exact r3⟩
 ·have q:=hd2 e' he';simp only [Bool.or_eq_true,beq_iff_eq,bne_iff_ne,ne_eq,hi,false_or] at q
  obtain⟨u,p1,p2⟩:=hxe e' he' (fun i' hi'=>by
   have:=h1 i' hi';rw [getD_set _ _ _ hil,if_neg (fun e2=>hi (by rw [hi',e2]))] at this
   exact this) fun j hj=>by
   have:=h2 j hj;rw [getD_set _ _ _ hil] at this;split at this
   ·cases this
   ·exact this
  exact⟨u,by rw [put_get_ne q];exact p1,hP e' he' _ _ _ p2 (RI.of_below r2)⟩
theorem kx_ld {i:Nat}{o:Oper}{X:VP}(hx:∃e∈es,e.P=X/\liveE md ops i o e=true)(H:∀(listed:Array Bool) a w u,KI md ops a0 (GV Vl) n0 w0 [] SL listed a w->(∀e∈o.after,Region.binds md e=true->listed.getD e.on false=true)->X u w->∃v,(execOp a.eval o).run Tryz.prog w= .ok (.value v) w/\GV Vl i v w)(hP:∀e∈es,Stab [] e.P)(hi:es.all (fun e=>e.i !=some i && o.dst !=some e.t)=true)(hg:GOk md ops Vl o):KStepX Tryz.prog md ops Q a0 (GV Vl) n0 w0 SL T es i o:=by
 intro listed a w h hxe D hin hil hnl K hK;rw [if_pos (wanted_of (hg.get h D))];obtain⟨e,he,rfl,e4⟩:=hx;obtain⟨u,-,q1,q2⟩:=hxe.get h D hnl he e4;obtain⟨v,r1,r2⟩:=H listed a w u h D q2;unfold Oper.wp;rw [r1];exact hK v w (h.k.nil (Below.refl _ _)) (.of (RI.refl w)) (hxe.keep (RI.refl w) hP hi hil) r2
theorem kx_set {i t:Nat}{o:Oper}{X Y:VP}(hds:o.dst=none)(hx:∃e∈es,e.t=t/\e.P=X/\liveE md ops i o e=true)(H:∀(listed:Array Bool) a w u,KI md ops a0 (GV Vl) n0 w0 [] SL listed a w->(∀e∈o.after,Region.binds md e=true->listed.getD e.on false=true)->X u w->∃w',(execOp a.eval o).run Tryz.prog w= .ok .skip w'/\Below n0 w w'/\RT T w w'/\Y u w')(hn:∀e∈es,e.i=some i->e.P=Y/\e.t=t)(hde:es.all (deadE md ops i o)=true)(hV:GV Vl i=VT)(hg:GOk md ops Vl o):KStepX Tryz.prog md ops Q a0 (GV Vl) n0 w0 SL T es i o:=by
 intro listed a w h hxe D hin hil hnl K hK;rw [if_pos (wanted_of (hg.get h D))];obtain⟨e,he,rfl,rfl,e4⟩:=hx;obtain⟨u,q0,q1,q2⟩:=hxe.get h D hnl he e4;obtain⟨w',r1,r2,r3,r4⟩:=H listed a w u h D q2;unfold Oper.wp;rw [r1];exact hK undef w' (h.k.nil r2) r3 (XE.step h D hil hnl hde fun e' he' hi=>⟨u,by rw [hds,(hn e' he' hi).2];exact q0,by rw [(hn e' he' hi).1];exact r4⟩) (by rw [hV];trivial)
end
end
def spK (vs:List P2)(z:Int):Nat:=(arn z (vs.length:Int)).toNat
def spoil (vs:List P2)(how z:Int):List P2:=
 let k:=spK vs z
 let h:=arn how 7
 if h=0 then vs.take k++vs.drop (k+1)
 else if h=1 then vs.set k (Rat.divInt (arn z 17 - 8) 1,Rat.divInt (arn (Int.tdiv z 17) 17 - 8) 1)
 else if h=2 then vs.set k (cv vs (spK vs (Int.tdiv z 16)))
 else if h=3 then vs.set k (mid2 (cv vs k) (cv vs (k+1)))
 else if h=4 then vs.reverse
 else vs.take k++ [mid2 (cv vs k) (cv vs (k+1))]++vs.drop k
def ROWV (g c N:Nat)(us:List P2)(w:World):Prop:=us.length<=c/\c<=9223372036854775807/\RowAt g 32 (8*c) (VEl 8 (EV N) us) w
section
variable {ρ:Operand->Value}{o:Oper}{w W:World}{x y:Operand}{va vb:Value}{g n c j N:Nat}{vs us:List P2}
theorem VSv_le {M:Nat}{v:Value}(h:VSv N vs v w)(hM:N<=M):VSv M vs v w:=h.imp id fun ⟨hh,o,c,cs,e1,e2,e3,e4,e5,e6⟩=>⟨hh,o,c,cs,e1,e2,e3,e4,e5,fun i x hx=>Vv_le (e6 i x hx) hM⟩
theorem ROWV.sv (h:ROWV g c N us w):VSv N us (.slice (some ⟨g,0,none⟩) us.length c) w:=by
 obtain⟨h1,h2,cs,q1,q2,q3,_,q4,q5⟩:=h;cases q4;exact .inr ⟨g,0,c,cs,rfl,h1,h2,q1,by rw [q2];omega,fun i x hx=>by rw [Nat.zero_add];exact q5 i x hx⟩
theorem ROWV.set (h:ROWV g c N us w){k:Nat}{a:P2}{z:Array Value}(hk:k<us.length)(hz:EV N a (.agg z) w):∃cs,w.heap[g]? =some (.cells cs 32 (0,0))/\8*k+8<=cs.size/\ROWV g c N (us.set k a) (w.setRow g (updR cs (8*k) z.toList)):=by
 obtain⟨h1,h2,cs,q1,q2,q3,_,q4,q5⟩:=h;cases q4;obtain⟨z',e,hzs,hzn,hz1⟩:=AggV_Vv _ _ _ _ _ hz;cases e;have hle:8*k+z.size<=cs.size:=by omega
 have hri:RI [(32,cs.size,0)] w (w.setRow g (updR cs (8*k) z.toList)):=RI_setRow q1 q3 ⟨⟨_,List.mem_cons_self,rfl,rfl,.inl rfl⟩,fun e he e1 e2=>by
  rcases List.mem_cons.1 he with rfl|he
  ·have e2:cs.size=0:=e2;omega
  ·cases he⟩
 refine⟨cs,q1,by omega,by rw [List.length_set];exact h1,h2,_,setRow_heap _ _ _ _ _ _ q1,by rw [updR_size];exact q2,noInt_updR hle q3 hzn,_,rfl,fun i x hx=>?_⟩;by_cases hik:i=k
 ·subst hik;rw [List.getElem?_set_self hk] at hx;cases hx;have:=updR_here hle;rw [hzs] at this;rw [this];exact Stab_Vv _ _ _ _ _ _ hz hri
 ·rw [List.getElem?_set_ne (fun e=>hik e.symm)] at hx;rw [updR_there (by simpa using hle) (by simp;omega)];exact Stab_Vv _ _ _ _ _ _ (q5 i x hx) hri
theorem len_EqS {p:Option Addr}(ho:o.op= .call {callee:= .builtin .len,args:=#[x],argTypes:=#[23]})(hty:o.type=3)(hx:ρ x=va)(h:VEq (.slice p n c) va W):∃v,(execOp ρ o).run Tryz.prog W= .ok (.value v) W/\Vi (n:Int) v W:=by
 obtain rfl:va=_:=h;refine⟨.int .i64 (n:Int),?_,rfl⟩;obtain⟨dd,op,ty,ps,af,gd⟩:=o;subst ho;simp only at hty;subst hty
 go_simp
theorem index_EqS (ho:o.op= .indexAddr 23 x y)(hx:ρ x=va)(h:VEq (.slice (some ⟨g,0,none⟩) n c) va W)(hy:ρ y=vb)(hb:Vi (j:Int) vb W)(hj:j<n):∃v,(execOp ρ o).run Tryz.prog W= .ok (.value v) W/\VEq (.pointer (some ⟨g,8*j,none⟩)) v W:=by
 obtain rfl:va=_:=h;obtain rfl:vb=_:=hb;refine⟨.pointer (some ⟨g,8*j,none⟩),?_,rfl⟩;have hj2:(j:Int)<(n:Int):=by omega
 have hm:j*8=8*j:=Nat.mul_comm _ _;obtain⟨dd,op,ty,ps,af,gd⟩:=o;subst ho
 go_simp
theorem take_EqS (ho:o.op= .slice 23 x none (some y) none)(hx:ρ x=va)(h:VEq (.slice (some ⟨g,0,none⟩) n c) va W)(hy:ρ y=vb)(hb:Vi (j:Int) vb W)(hj:j<=n)(hn:n<=c)(hc:0<c):∃v,(execOp ρ o).run Tryz.prog W= .ok (.value v) W/\VEq (.slice (some ⟨g,0,none⟩) j c) v W:=by
 obtain rfl:va=_:=h;obtain rfl:vb=_:=hb;refine⟨_,?_,rfl⟩;have q1:(j:Int)<=(n:Int):=by omega
 have q2:(j:Int)<=(c:Int):=by omega
 have q3:(n:Int)<=(c:Int):=by omega
 have q4:¬c=0:=by omega
 obtain⟨dd,op,ty,ps,af,gd⟩:=o;subst ho
 go_simp
def drS (g n c j:Nat):Value:=if j<c then .slice (some ⟨g,8*j,none⟩) (n - j) (c - j)else .slice (some ⟨g,0,none⟩) 0 0
theorem drop_EqS (ho:o.op= .slice 23 x (some y) none none)(hx:ρ x=va)(h:VEq (.slice (some ⟨g,0,none⟩) n c) va W)(hy:ρ y=vb)(hb:Vi (j:Int) vb W)(hj:j<=n)(hn:n<=c):∃v,(execOp ρ o).run Tryz.prog W= .ok (.value v) W/\VEq (drS g n c j) v W:=by
 obtain rfl:va=_:=h;obtain rfl:vb=_:=hb;refine⟨_,?_,rfl⟩;unfold drS;have q1:(j:Int)<=(n:Int):=by omega
 have q2:(j:Int)<=(c:Int):=by omega
 have q3:(n:Int)<=(c:Int):=by omega
 have q5:j*8=8*j:=Nat.mul_comm _ _;by_cases hc:j<c
 ·rw [if_pos hc];have q4:¬c=j:=by omega
  obtain⟨dd,op,ty,ps,af,gd⟩:=o;subst ho
  go_simp
 ·rw [if_neg hc];obtain rfl:j=c:=by omega
  obtain rfl:n=j:=by omega
  obtain⟨dd,op,ty,ps,af,gd⟩:=o;subst ho
  go_simp
theorem drS_sc {v:Value}(h:RowAt g 32 (8*c) (VEl 8 (EV N) us) w)(hv:VEq (drS g us.length c j) v w)(hj:j<=us.length)(hn:us.length<=c):VSc 32 8 (EV N) (us.drop j) v w:=by
 obtain⟨cs,q1,q2,q3,_,q4,q5⟩:=h;cases q4;obtain rfl:v=_:=hv;unfold drS;have hl:(us.drop j).length=us.length - j:=List.length_drop;by_cases hc:j<c
 ·rw [if_pos hc,<-hl];refine .inr ⟨g,8*j,c - j,cs,rfl,q1,by rw [hl,q2];omega,_,rfl,fun i x hx=>?_⟩;rw [List.getElem?_drop] at hx
  have hi:j+i<us.length:=by
   rcases Nat.lt_or_ge (j+i) us.length with h'|h'
   ·exact h'
   ·rw [List.getElem?_eq_none h'] at hx;cases hx
  rw [Array.extract_extract,show min (8*j+(8*i+8)) (8*j+8*(us.drop j).length)=8*(j+i)+8 by rw [hl];omega,show 8*j+8*i=8*(j+i) by omega];exact q5 _ _ hx
 ·rw [if_neg hc];have h0:us.drop j= []:=List.eq_nil_of_length_eq_zero (by omega);rw [h0];exact .inr ⟨g,0,0,cs,rfl,q1,by simp,_,rfl,fun i x hx=>by simp at hx⟩
theorem bslice_0 (ho:o.op= .buildSlice 23 0 #[]):∃v w',(execOp ρ o).run Tryz.prog W= .ok (.value v) w'/\Below W.heap.size W w'/\VE0 v w':=by
 refine⟨.slice (some ⟨W.heap.size,0,none⟩) 0 0,_,?_,below_new W (.cells #[] 32),_,rfl⟩;obtain⟨dd,op,ty,ps,af,gd⟩:=o;subst ho
 go_simp
theorem VRy_row {v:Value}{lo:Nat}(hx:us≠ [])(h:VRy 32 8 (EV N) lo us v w):∃g c,lo<=g/\v= .slice (some ⟨g,0,none⟩) us.length c/\ROWV g c N us w:=by
 rcases h with⟨rfl,-⟩|⟨g,c,h1,h2,h3,h4,(⟨h5,-⟩|⟨-,rfl,h6⟩)⟩
 ·exact absurd rfl hx
 ·omega
 ·exact⟨g,c,h1,rfl,h3,h4,h6⟩
theorem VSv_lesc {M:Nat}{w0:World}(hM:N<=M)(v:Value)(w:World)(hb:Below w0.heap.size w0 w)(h:VAt w0 (VSv N vs) v w):VSc 32 8 (EV M) vs v w:=VSv_sc (VSv_le (VSv_later h hb) hM)
end
instance {BT:List (TypeId×Nat×Nat)}(g n c j:Nat):Sb BT (VEq (drS g n c j)):=⟨fun _ _ _ h _=>h⟩
end Go.Proofs.YteacdbgalloaiaaGreat
