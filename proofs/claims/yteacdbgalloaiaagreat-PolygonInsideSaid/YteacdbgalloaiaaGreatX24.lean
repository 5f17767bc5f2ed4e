/- Contracts of the packages integer, rat, plane, polygon and their references. -/
import Derived.Test.YteacdbgalloaiaaGreatX23
import Derived.Test.YteacdbgalloaiaaGreatX22
import Derived.Test.YteacdbgalloaiaaGreatX19
import Derived.Test.YteacdbgalloaiaaGreatX18
import Derived.Test.YteacdbgalloaiaaGreatX20
set_option linter.unusedVariables false
set_option maxRecDepth 100000
set_option maxHeartbeats 6400000
namespace Go.Proofs.YteacdbgalloaiaaGreat
open Go.RowKit
open Go
def sp5 (m:List Int)(P:List P2)(i:Nat):List P2:=[cv P i,mid2 (cv P i) (cv P (i+1)),mid2 (mid2 (cv P i) (cv P (i+1))) (spt m 0),((spt m 3).1,(cv P i).2),((cv P i).1,(spt m 3).2)]
def spL (m:List Int)(P:List P2):Nat->List P2
 |0=>[spt m 0,spt m 3,ctr P]
 |j+1=>spL m P j++sp5 m P j
theorem spL_len (m:List Int)(P:List P2):∀j,(spL m P j).length=3+5*j
 |0=>rfl
 |j+1=>by unfold spL;rw [List.length_append,spL_len m P j];show 3+5*j+5=_;omega
theorem spL_0 (m:List Int)(P:List P2):∀j,(spL m P j)[0]? =some (spt m 0)
 |0=>rfl
 |j+1=>by unfold spL;rw [List.getElem?_append_left (by rw [spL_len];omega)];exact spL_0 m P j
theorem spL_1 (m:List Int)(P:List P2):∀j,(spL m P j)[1]? =some (spt m 3)
 |0=>rfl
 |j+1=>by unfold spL;rw [List.getElem?_append_left (by rw [spL_len];omega)];exact spL_1 m P j
theorem spt_Q (m:List Int)(ix:Int):Q2 2 32 (spt m ix):=by
 have key:∀i:Int,Qd 2 32 (Rat.divInt (atv m i (16*spq m ix+1) - 8*spq m ix) (spq m ix)):=fun i=>by
  have hq:=spq_or m ix;have h1:=atv_lo m i (16*spq m ix+1) (by omega);have h2:=atv_hi m i (16*spq m ix+1) (by omega);rcases hq with h|h
  ·rw [h] at h1 h2 ⊢;exact Qd_int 2 (by omega) (by omega)
  ·rw [h] at h1 h2 ⊢;refine⟨atv m i (16*2+1) - 8*2,?_,by omega,by omega⟩;rw [Rat.divInt_eq_div]
   grind
 exact⟨key _,key _⟩
theorem cv_Q2 {K B:Int}{P:List P2}(h:∀p∈P,Q2 K B p){k:Nat}(h0:0<P.length):Q2 K B (cv P k):=by
 have:=cv_get (vs:=P) k h0;exact h _ (List.mem_of_getElem? this)
theorem Vv_three {N:Nat}{K B:Int}{p:P2}{v:Value}{w:World}(h:Vv N p.1 p.2 v w)(hq:Q2 K B p)(hK:0<K)(hK2:K<=100000000)(hB:B<=100000000):Vv 3 p.1 p.2 v w:=Vv_le (Vv_one h hq hK hK2 hB) (by omega)
theorem cMidQ {w:World}{K B:Int}{a b:P2}{v0 v1:Value}(h0:Vv 3 a.1 a.2 v0 w)(h1:Vv 3 b.1 b.2 v1 w)(ha:Q2 K B a)(hb:Q2 K B b)(hK:0<K:=by omega)(hK2:K<=1000:=by omega)(hB:B<=1000:=by omega):Calls Tryz.prog 30 #[v0,v1] w (RV (Vv 3 (mid2 a b).1 (mid2 a b).2) w):=
 (cR6Middle h0 h1).mono fun _ _ h=>h.le fun v w h=>Vv_three (p:=mid2 a b) h (Q2_mid ha hb) (by omega) (by omega) (by omega)
theorem cCtrQ {w:World}{P:List P2}{v0:Value}(h0:VSv 3 P v0 w)(hPQ:∀p∈P,Q2 2 32 p)(h3:0<P.length:=by omega)(h12:P.length<=12:=by omega):Calls Tryz.prog 42 #[v0] w (RV (Vv 3 (ctr P).1 (ctr P).2) w):=
 (gCtrR h0).mono fun _ _ h=>h.le fun v w h=>by
  obtain⟨K,k1,k2,k3⟩:=ctr_Q hPQ h3 h12;exact Vv_three (p:=ctr P) h k3 k1 k2 (by omega)
theorem Q2_up {K B:Int}{p:P2}(h:Q2 K B p):Q2 (2*K) (2*B) p:=Q2_twice h
section
variable {n0 n1 N:Nat}{w0 w1 w:World}{L:List Bd}{SL SL':List (Nat×VP)}{a:Act}
theorem St.off (h:St n1 w1 N L SL a w)(hb:Below n0 w0 w1)(hn:n0<=n1)(hs:∀p∈SL',∃v,a.tmps[p.1]? =some v/\p.2 v w):St n0 w0 N [] SL' a w:=
 ⟨⟨hb.trans (h.k.below.mono hn),fun b hb=>absurd hb (by simp),fun b hb=>absurd hb (by simp),fun b hb=>absurd hb (by simp)⟩,Nat.le_trans hn h.n,h.size,h.defers,hs⟩
end
def VBk (g:Nat)(A:VP):VP:=fun _ w=>∃cs,w.heap[g]? =some (.cells cs 32 (0,0))/\cs.size=8/\A (.agg cs) w
theorem Stab_VBk {g:Nat}{A:VP}(hA:Stab [] A):Stab [] (VBk g A):=fun _ _ _ ⟨cs,e1,e2,e3⟩ hr=>⟨cs,(hr.row g cs _ e1 (.inl (by simp))).trans e1,e2,hA _ _ _ e3 hr⟩
section
variable {ρ:Operand->Value}{o:Oper}{W:World}{x y:Operand}{va vb:Value}{g c N k:Nat}{us:List P2}{a:P2}{u:Value}
theorem load_Bk {A:VP}(ho:o.op= .load 32 x)(hx:ρ x=va)(h1:VEq (.pointer (some ⟨g,0,none⟩)) va W)(h:VBk g A u W):∃v,(execOp ρ o).run Tryz.prog W= .ok (.value v) W/\A v W:=by
 obtain rfl:va=_:=h1;obtain⟨cs,q1,q2,q3⟩:=h;refine⟨_,?_,q3⟩;have e:cs.extract 0 (0+8)=cs:=by rw [Nat.zero_add,<-q2,Array.extract_size]
 unfold execOp;simp only [ho,hx,Instr.loadAt,Instr.sureAddr,Sem.run_bind,Sem.run_pure,Result.andThen_ok,run_loadVar_part W g 0 8 32 32 cs (0,0) _ q1 (by omega) Tryz.underlying32 rfl size_Vec,e]
theorem field_Eq0 {off:Nat}(ho:o.op= .fieldAddr 32 x 0)(hx:ρ x=va)(h:VEq (.pointer (some ⟨g,off,none⟩)) va W):∃v,(execOp ρ o).run Tryz.prog W= .ok (.value v) W/\VEq (.pointer (some ⟨g,off,none⟩)) v W:=by
 obtain rfl:va=_:=h;refine⟨_,?_,rfl⟩;unfold execOp;simp only [ho,hx,Sem.run_bind,field_Vec0,Sem.run_pure,Result.andThen_ok];rfl
theorem field_Eq1 {off:Nat}(ho:o.op= .fieldAddr 32 x 1)(hx:ρ x=va)(h:VEq (.pointer (some ⟨g,off,none⟩)) va W):∃v,(execOp ρ o).run Tryz.prog W= .ok (.value v) W/\VEq (.pointer (some ⟨g,off+4,none⟩)) v W:=by
 obtain rfl:va=_:=h;refine⟨_,?_,rfl⟩;unfold execOp;simp only [ho,hx,Sem.run_bind,field_Vec1,Sem.run_pure,Result.andThen_ok]
theorem ldq_step (f:Nat){q:Rat}(hf:f=0/\q=a.1∨f=4/\q=a.2)(ho:o.op= .load 30 x)(hx:ρ x=va)(h1:VEq (.pointer (some ⟨g,8*k+f,none⟩)) va W)(hR:VRg 32 8 (EV N) none g c us u W)(hk:us[k]? =some a):∃v,(execOp ρ o).run Tryz.prog W= .ok (.value v) W/\Vq N q v W:=by
 obtain rfl:va=_:=h1
 have hkl:k<us.length:=by
  rcases Nat.lt_or_ge k us.length with h'|h'
  ·exact h'
  ·rw [List.getElem?_eq_none h'] at hk;cases hk
 obtain⟨hu,hc,hl,-,cs,q1,q2,q3,_,q4,q5⟩:=VRg_row (by intro e;rw [e] at hkl;simp at hkl) hR;cases q4;have q6:=q5 k a hk
 have hr:∀f',f'+4<=8->(cs.extract (8*k) (8*k+8)).extract f' (f'+4)=cs.extract (8*k+f') (8*k+f'+4):=fun f' h=>by
  rw [Array.extract_extract,show min (8*k+(f'+4)) (8*k+8)=8*k+f'+4 by omega]
 refine⟨.agg (cs.extract (8*k+f) (8*k+f+4)),?_,?_⟩
 ·unfold execOp;simp only [ho,hx,Instr.loadAt,Instr.sureAddr,Sem.run_bind,Sem.run_pure,Result.andThen_ok,run_loadVar_part W g (8*k+f) 4 32 30 cs (0,0) _ q1 (by rcases hf with h|h<;>omega) Tryz.underlying30 rfl size_Rat]
 ·rcases hf with⟨rfl,rfl⟩|⟨rfl,rfl⟩
  ·have:=VP2_fst (show VP2 4 4 (Vq N a.1) (Vq N a.2) _ W from q6);rw [show(4:Nat)=0+4 from rfl,hr 0 (by omega)] at this;exact this
  ·have:=VP2_snd (show VP2 4 4 (Vq N a.1) (Vq N a.2) _ W from q6);rw [show cs.extract (8*k+4) (8*k+4+4)=_ from(hr 4 (by omega)).symm];exact this
end
section
variable {md:Region.Mode}{ops:Array Oper}{Q:Exit->Act->World->Prop}{a0:Act}{Vl:List VP}{n0:Nat}{w0:World}{SL:List (Nat×VP)}{es:List En}{T:TypeId}
def waitsF (md:Region.Mode)(ops:Array Oper)(k:Nat):Nat->Oper->Bool
 |0,_=>false
 |n+1,p=>p.after.any fun a=>Region.binds md a && (a.on==k||match ops[a.on]? with|some r=>waitsF md ops k n r|none=>false)
theorem waitsF_not {listed:Array Bool}{a:Act}{w:World}{k:Nat}(hk:KI md ops a0 (GV Vl) n0 w0 [] SL listed a w):∀(n:Nat) {e:Nat} {p:Oper},ops[e]? =some p->waitsF md ops k n p=true->listed.getD e false=true->listed.getD k false=true
 |0,_,_,_,h,_=>by cases h
 |n+1,e,p,ho,hw,he=>by
  unfold waitsF at hw;simp only [Array.any_eq_true'] at hw;obtain⟨a',ha,hb⟩:=hw;rw [Bool.and_eq_true,Bool.or_eq_true] at hb;have h5:=hk.closed e p ho he a' ha hb.1;rcases hb.2 with hb|hb
  ·rw [beq_iff_eq] at hb;rw [<-hb];exact h5
  ·cases hr:ops[a'.on]? with
   |none=>rw [hr] at hb;cases hb
   |some r=>
    rw [hr] at hb;exact waitsF_not hk n hr hb h5
def liveF (md:Region.Mode)(ops:Array Oper)(i:Nat)(o:Oper)(e:En):Bool:=(match e.i with|some i'=>o.after.any (fun a=>a.on==i' && Region.binds md a)|none=>true) && (match e.j with|some j=>j==i||(match ops[j]? with|some p=>waitsF md ops i 7 p|none=>false)|none=>true)
theorem XE.getF {listed:Array Bool}{a:Act}{w:World}{i:Nat}{o:Oper}{e:En}(hx:XE es listed a w)(hk:KI md ops a0 (GV Vl) n0 w0 [] SL listed a w)(D:∀e∈o.after,Region.binds md e=true->listed.getD e.on false=true)(hnl:listed.getD i false=false)(he:e∈es)(hl:liveF md ops i o e=true):∃v,a.tmps[e.t]? =some v/\a.eval (.tmp e.t)=v/\e.P v w:=by
 unfold liveF at hl;rw [Bool.and_eq_true] at hl
 obtain⟨v,q1,q2⟩:=hx e he (fun i' hi=>by
  rw [hi] at hl
  exact listed_dep D _ hl.1) fun j hj=>by
  rw [hj] at hl;simp only [Bool.or_eq_true,beq_iff_eq] at hl;rcases hl.2 with q|q
  ·rw [q];exact hnl
  ·cases ho:ops[j]? with
   |none=>rw [ho] at q;cases q
   |some p=>
    rw [ho] at q;cases hh:listed.getD j false with
    |false=>rfl
    |true=>
     have:=waitsF_not hk 7 ho q hh;rw [hnl] at this;cases this
 exact⟨v,q1,by simp [Act.eval,Array.getD_eq_getD_getElem?,q1],q2⟩
theorem kx_ldF {i:Nat}{o:Oper}{X:VP}(hx:∃e∈es,e.P=X/\liveF md ops i o e=true)(H:∀(listed:Array Bool) a w u,KI md ops a0 (GV Vl) n0 w0 [] SL listed a w->(∀e∈o.after,Region.binds md e=true->listed.getD e.on false=true)->X u w->∃v,(execOp a.eval o).run Tryz.prog w= .ok (.value v) w/\GV Vl i v w)(hP:∀e∈es,Stab [] e.P)(hi:es.all (fun e=>e.i !=some i && o.dst !=some e.t)=true)(hg:GOk md ops Vl o):KStepX Tryz.prog md ops Q a0 (GV Vl) n0 w0 SL T es i o:=by
 intro listed a w h hxe D hin hil hnl K hK;rw [if_pos (wanted_of (hg.get h D))];obtain⟨e,he,rfl,e4⟩:=hx;obtain⟨u,-,q1,q2⟩:=hxe.getF h D hnl he e4;obtain⟨v,r1,r2⟩:=H listed a w u h D q2;unfold Oper.wp;rw [r1];exact hK v w (h.k.nil (Below.refl _ _)) (.of (RI.refl w)) (hxe.keep (RI.refl w) hP hi hil) r2
theorem kx_mvV {i s:Nat}{o:Oper}{X:VP}(ho:o.op= .move (.tmp s))(hx:∃e∈es,e.t=s/\e.P=X/\liveF md ops i o e=true)(H:∀v w,X v w->GV Vl i v w)(hP:∀e∈es,Stab [] e.P)(hi:es.all (fun e=>e.i !=some i && o.dst !=some e.t)=true)(hg:GOk md ops Vl o):KStepX Tryz.prog md ops Q a0 (GV Vl) n0 w0 SL T es i o:=by
 intro listed a w h hxe D hin hil hnl K hK;rw [if_pos (wanted_of (hg.get h D))];obtain⟨e,he,rfl,rfl,e4⟩:=hx;obtain⟨v,q0,q1,q2⟩:=hxe.getF h D hnl he e4;unfold Oper.wp;rw [run_move ho,q1];exact hK v w (h.k.nil (Below.refl _ _)) (.of (RI.refl w)) (hxe.keep (RI.refl w) hP hi hil) (H _ _ q2)
theorem kx_mvE {i s:Nat}{o:Oper}{X Y:VP}(ho:o.op= .move (.tmp s))(hx:∃e∈es,e.t=s/\e.P=X/\liveF md ops i o e=true)(H:∀v w,X v w->Y v w)(hn:∀e∈es,e.i=some i->e.P=Y/\o.dst=some e.t)(hd2:es.all (fun e=>e.i==some i||o.dst !=some e.t)=true)(hV:GV Vl i=VT)(hg:GOk md ops Vl o):KStepX Tryz.prog md ops Q a0 (GV Vl) n0 w0 SL T es i o:=by
 intro listed a w h hxe D hin hil hnl K hK;rw [if_pos (wanted_of (hg.get h D))];obtain⟨e,he,rfl,rfl,e4⟩:=hx;obtain⟨v,q0,q1,q2⟩:=hxe.getF h D hnl he e4;unfold Oper.wp;rw [run_move ho,q1];refine hK v w (h.k.nil (Below.refl _ _)) (.of (RI.refl w)) ?_ (by rw [hV];trivial);intro e' he' h1 h2;rw [List.all_eq_true] at hd2;by_cases hi:e'.i=some i
 ·exact⟨v,put_new h hin (hn e' he' hi).2,by rw [(hn e' he' hi).1];exact H _ _ q2⟩
 ·have q:=hd2 e' he';simp only [Bool.or_eq_true,beq_iff_eq,bne_iff_ne,ne_eq,hi,false_or] at q
  obtain⟨u,p1,p2⟩:=hxe e' he' (fun i' hi'=>by
   have:=h1 i' hi';rw [getD_set _ _ _ hil,if_neg (fun e2=>hi (by rw [hi',e2]))] at this
   exact this) fun j hj=>by
   have:=h2 j hj;rw [getD_set _ _ _ hil] at this;split at this
   ·cases this
   ·exact this
  exact⟨u,by rw [put_get_ne q];exact p1,p2⟩
theorem kx_asgD {i s:Nat}{o:Oper}{X:VP}(ho:o.op= .assign (.tmp s))(hx:∃e∈es,e.t=s/\e.P=X/\liveF md ops i o e=true)(hn:∀e∈es,e.i=some i->e.P=X/\o.dst=some e.t)(hde:es.all (deadE md ops i o)=true)(hV:GV Vl i=VT)(hg:GOk md ops Vl o):KStepX Tryz.prog md ops Q a0 (GV Vl) n0 w0 SL T es i o:=by
 intro listed a w h hxe D hin hil hnl K hK;rw [if_pos (wanted_of (hg.get h D))];obtain⟨e,he,rfl,rfl,e4⟩:=hx;obtain⟨v,q0,q1,q2⟩:=hxe.getF h D hnl he e4;unfold Oper.wp;rw [run_assign ho,q1];exact hK v w (h.k.nil (Below.refl _ _)) (.of (RI.refl w)) (XE.step h D hil hnl hde fun e' he' hi=>⟨v,put_new h hin (hn e' he' hi).2,by rw [(hn e' he' hi).1];exact q2⟩) (by rw [hV];trivial)
end
theorem bslice_X3 {ρ:Operand->Value}{o:Oper}{W:World}{M lo:Nat}{x0 x1 x2:Operand}{v0 v1 v2:Value}{d0 d1 d2:P2}(ho:o.op= .buildSlice 23 3 #[(0,x0),(1,x1),(2,x2)])(e0:ρ x0=v0)(e1:ρ x1=v1)(e2:ρ x2=v2)(h0:Vv M d0.1 d0.2 v0 W)(h1:Vv M d1.1 d1.2 v1 W)(h2:Vv M d2.1 d2.2 v2 W)(hlo:lo<=W.heap.size):
 ∃v w',(execOp ρ o).run Tryz.prog W= .ok (.value v) w'/\Below W.heap.size W w'/\VRx 32 8 (EV M) lo [d0,d1,d2] v w':=by
 obtain⟨c0,rfl,s0,m0,-⟩:=AggV_Vv _ _ _ _ _ h0;obtain⟨c1,rfl,s1,m1,-⟩:=AggV_Vv _ _ _ _ _ h1;obtain⟨c2,rfl,s2,m2,-⟩:=AggV_Vv _ _ _ _ _ h2;obtain⟨p0_0,p0_1,p0_2,p0_3,p0_4,p0_5,p0_6,p0_7,rfl⟩:=arr8 s0;obtain⟨p1_0,p1_1,p1_2,p1_3,p1_4,p1_5,p1_6,p1_7,rfl⟩:=arr8 s1;obtain⟨p2_0,p2_1,p2_2,p2_3,p2_4,p2_5,p2_6,p2_7,rfl⟩:=arr8 s2;have hb:=below_new W (.cells #[p0_0,p0_1,p0_2,p0_3,p0_4,p0_5,p0_6,p0_7,p1_0,p1_1,p1_2,p1_3,p1_4,p1_5,p1_6,p1_7,p2_0,p2_1,p2_2,p2_3,p2_4,p2_5,p2_6,p2_7] 32)
 have hel:VEl 8 (EV M) [d0,d1,d2] (.agg #[p0_0,p0_1,p0_2,p0_3,p0_4,p0_5,p0_6,p0_7,p1_0,p1_1,p1_2,p1_3,p1_4,p1_5,p1_6,p1_7,p2_0,p2_1,p2_2,p2_3,p2_4,p2_5,p2_6,p2_7]) (W.alloc (.cells #[p0_0,p0_1,p0_2,p0_3,p0_4,p0_5,p0_6,p0_7,p1_0,p1_1,p1_2,p1_3,p1_4,p1_5,p1_6,p1_7,p2_0,p2_1,p2_2,p2_3,p2_4,p2_5,p2_6,p2_7] 32)):=⟨_,rfl,fun i z hz=>by
  match i,hz with
  |0,hz=>cases hz;exact Stab_Vv (BT:=[]) _ _ _ _ _ _ h0 (RI.of_below hb)
  |1,hz=>cases hz;exact Stab_Vv (BT:=[]) _ _ _ _ _ _ h1 (RI.of_below hb)
  |2,hz=>cases hz;exact Stab_Vv (BT:=[]) _ _ _ _ _ _ h2 (RI.of_below hb)
  |i+3,hz=>simp at hz⟩
 refine⟨.slice (some ⟨W.heap.size,0,none⟩) 3 3,_,?_,hb,W.heap.size,3,hlo,by omega,Nat.le_refl _,by omega,.inr ⟨by omega,rfl,_,heap_alloc_new _ _,rfl,(VEl_flat (by decide) hel rfl).1,hel⟩⟩;clear h0 h1 h2 hb hel hlo m0 m1 m2;obtain⟨dd,op,ty,ps,af,gd⟩:=o;subst ho
 go_simp
theorem bslice_O5 {ρ:Operand->Value}{o:Oper}{W:World}{M lo:Nat}{x0 x1 x2 x3 x4:Operand}{v0 v1 v2 v3 v4:Value}{d0 d1 d2 d3 d4:P2}(ho:o.op= .buildSlice 23 5 #[(0,x0),(1,x1),(2,x2),(3,x3),(4,x4)])(e0:ρ x0=v0)(e1:ρ x1=v1)(e2:ρ x2=v2)(e3:ρ x3=v3)(e4:ρ x4=v4)(h0:Vv M d0.1 d0.2 v0 W)(h1:Vv M d1.1 d1.2 v1 W)(h2:Vv M d2.1 d2.2 v2 W)(h3:Vv M d3.1 d3.2 v3 W)(h4:Vv M d4.1 d4.2 v4 W)(_hlo:lo<=W.heap.size):
 ∃v w',(execOp ρ o).run Tryz.prog W= .ok (.value v) w'/\Below W.heap.size W w'/\VOs 32 8 (EV M) [d0,d1,d2,d3,d4] v w':=by
 obtain⟨c0,rfl,s0,m0,-⟩:=AggV_Vv _ _ _ _ _ h0;obtain⟨c1,rfl,s1,m1,-⟩:=AggV_Vv _ _ _ _ _ h1;obtain⟨c2,rfl,s2,m2,-⟩:=AggV_Vv _ _ _ _ _ h2;obtain⟨c3,rfl,s3,m3,-⟩:=AggV_Vv _ _ _ _ _ h3;obtain⟨c4,rfl,s4,m4,-⟩:=AggV_Vv _ _ _ _ _ h4;obtain⟨p0_0,p0_1,p0_2,p0_3,p0_4,p0_5,p0_6,p0_7,rfl⟩:=arr8 s0;obtain⟨p1_0,p1_1,p1_2,p1_3,p1_4,p1_5,p1_6,p1_7,rfl⟩:=arr8 s1;obtain⟨p2_0,p2_1,p2_2,p2_3,p2_4,p2_5,p2_6,p2_7,rfl⟩:=arr8 s2;obtain⟨p3_0,p3_1,p3_2,p3_3,p3_4,p3_5,p3_6,p3_7,rfl⟩:=arr8 s3;obtain⟨p4_0,p4_1,p4_2,p4_3,p4_4,p4_5,p4_6,p4_7,rfl⟩:=arr8 s4;have hb:=below_new W (.cells #[p0_0,p0_1,p0_2,p0_3,p0_4,p0_5,p0_6,p0_7,p1_0,p1_1,p1_2,p1_3,p1_4,p1_5,p1_6,p1_7,p2_0,p2_1,p2_2,p2_3,p2_4,p2_5,p2_6,p2_7,p3_0,p3_1,p3_2,p3_3,p3_4,p3_5,p3_6,p3_7,p4_0,p4_1,p4_2,p4_3,p4_4,p4_5,p4_6,p4_7] 32)
 have hel:VEl 8 (EV M) [d0,d1,d2,d3,d4] (.agg #[p0_0,p0_1,p0_2,p0_3,p0_4,p0_5,p0_6,p0_7,p1_0,p1_1,p1_2,p1_3,p1_4,p1_5,p1_6,p1_7,p2_0,p2_1,p2_2,p2_3,p2_4,p2_5,p2_6,p2_7,p3_0,p3_1,p3_2,p3_3,p3_4,p3_5,p3_6,p3_7,p4_0,p4_1,p4_2,p4_3,p4_4,p4_5,p4_6,p4_7]) (W.alloc (.cells #[p0_0,p0_1,p0_2,p0_3,p0_4,p0_5,p0_6,p0_7,p1_0,p1_1,p1_2,p1_3,p1_4,p1_5,p1_6,p1_7,p2_0,p2_1,p2_2,p2_3,p2_4,p2_5,p2_6,p2_7,p3_0,p3_1,p3_2,p3_3,p3_4,p3_5,p3_6,p3_7,p4_0,p4_1,p4_2,p4_3,p4_4,p4_5,p4_6,p4_7] 32)):=⟨_,rfl,fun i z hz=>by
  match i,hz with
  |0,hz=>cases hz;exact Stab_Vv (BT:=[]) _ _ _ _ _ _ h0 (RI.of_below hb)
  |1,hz=>cases hz;exact Stab_Vv (BT:=[]) _ _ _ _ _ _ h1 (RI.of_below hb)
  |2,hz=>cases hz;exact Stab_Vv (BT:=[]) _ _ _ _ _ _ h2 (RI.of_below hb)
  |3,hz=>cases hz;exact Stab_Vv (BT:=[]) _ _ _ _ _ _ h3 (RI.of_below hb)
  |4,hz=>cases hz;exact Stab_Vv (BT:=[]) _ _ _ _ _ _ h4 (RI.of_below hb)
  |i+5,hz=>simp at hz⟩
 refine⟨.slice (some ⟨W.heap.size,0,none⟩) 5 5,_,?_,hb,W.heap.size,_,rfl,heap_alloc_new _ _,rfl,hel⟩;clear h0 h1 h2 h3 h4 hb hel _hlo m0 m1 m2 m3 m4;obtain⟨dd,op,ty,ps,af,gd⟩:=o;subst ho
 go_simp
theorem cSpots {w:World}{m:List Int}{P:List P2}{v0 v1:Value}(h0:VAt w (VSv 3 P) v0 w)(h1:VI m v1 w)(hP3:3<=P.length)(hP12:P.length<=12)(hPQ:∀p∈P,Q2 2 32 p):Calls Tryz.prog 9 #[v0,v1] w (RV (VSv 3 (spL m P P.length)) w):=by
 go_enter Tryz.func9,Tryz.ntmps9
 refine Sg 63 [(0,VAt w (VSv 3 P)),(1,VI m)] (Lq.2 ⟨⟨_,rfl,h0⟩,(Lq.2 ⟨⟨_,rfl,h1⟩,L0⟩)⟩) fun a0 st0=>Wn ?_
 refine rH [(32,8,0)] [VEq (.slice none 0 0)] [] [(0,VAt w (VSv 3 P)),(1,VI m),(4,VEq (.slice none 0 0))] st0 ⟨ks,trivial⟩ fun a1 w1 st1=>Wn ?_
 refine rH [] [VI m,Vv 3 ((spt m 0).1) ((spt m 0).2),VI m,Vv 3 ((spt m 3).1) ((spt m 3).2),VAt w (VSv 3 P),Vv 3 ((ctr P).1) ((ctr P).2),VRx 32 8 (EV 3) w.heap.size ([spt m 0,spt m 3,ctr P]),VRx 32 8 (EV 3) w.heap.size ([spt m 0,spt m 3,ctr P])] [] [(0,VAt w (VSv 3 P)),(4,VEq (.slice none 0 0)),(5,VRx 32 8 (EV 3) w.heap.size ([spt m 0,spt m 3,ctr P]))] st1 ⟨ks,(by refine kc fun _ ac Y h D=>?_;obtain⟨v0,x0,X0⟩:=h.dp D 8;exact⟨#[v0,.int .i64 0],by simp [x0,eval_const],cR6Spot X0 (show Vi 0 (.int .i64 0) Y from rfl)⟩),ks,(by refine kc fun _ ac Y h D=>?_;obtain⟨v0,x0,X0⟩:=h.dp D 10;exact⟨#[v0,.int .i64 3],by simp [x0,eval_const],cR6Spot X0 (show Vi 3 (.int .i64 3) Y from rfl)⟩),ks,(kd1 fun _ _ _ h _ X0=>cCtrQ (VSv_later X0 h.k.below) hPQ (by omega) hP12),(by refine km fun _ ac Y h D=>?_;obtain⟨v0,x0,X0⟩:=h.dp D 9;obtain⟨v1,x1,X1⟩:=h.dp D 11;obtain⟨v2,x2,X2⟩:=h.dp D 13;exact bslice_X3 rfl x0 x1 x2 X0 X1 X2 h.n),ks,trivial⟩ ?_;intro a2 w2 st2;refine Wn ?_
 refine rH [] [Vi 0] [] [(0,VAt w (VSv 3 P)),(4,VEq (.slice none 0 0)),(5,VRx 32 8 (EV 3) w.heap.size ([spt m 0,spt m 3,ctr P])),(6,Vi 0)] st2 ⟨ks,trivial⟩ ?_;intro a3 w3 st3;replace st3:St w.heap.size w 63 [] [(0,VAt w (VSv 3 P)),(4,VEq (.slice none 0 0)),(5,VRx 32 8 (EV 3) w.heap.size ([spt m 0,spt m 3,ctr P])),(6,Vi 0)] a3 w3:=st3;obtain⟨g,c,hg,hc,st3⟩:=st3.nameR 5 rfl;replace st3:St w.heap.size w 63 [] [(0,VAt w (VSv 3 P)),(5,VRg 32 8 (EV 3) none g c (spL m P 0)),(6,Vi ((0:Nat):Int))] a3 w3:=st3.cut;refine Wn ?_
 refine wp_loop_ghost (fun m1 aX wX=>∃(j g c:Nat) (us:List P2),j+m1=P.length/\us=spL m P j/\w.heap.size<=g/\0<c/\St w.heap.size w 63 [] [(0,VAt w (VSv 3 P)),(5,VRg 32 8 (EV 3) none g c us),(6,Vi j)] aX wX) P.length ⟨0,g,c,_,by omega,rfl,hg,hc,st3⟩ ?_;clear st3 hg hc;clear g c;intro m1 aL wL ⟨j,g,c,us,hj,hus,hg,hc,st3⟩;have hul:us.length=3+5*j:=by rw [hus];exact spL_len m P j
 by_cases hlt:j<P.length
 ·
  refine Wn ?_
  refine rH [] [Vi j,VAt w (VSv 3 P),Vi (P.length:Int),Vb true] [] [(0,VAt w (VSv 3 P)),(5,VRg 32 8 (EV 3) none g c us),(6,Vi j),(18,Vb true)] st3 ⟨ks,ks,(kr1 16 fun _ _ _ _ _ x0 X0=>len_SvA rfl rfl x0 X0),(kr2 15 17 fun _ _ _ _ _ x0 X0 _ x1 X1=>⟨_,run_lssi rfl (x0.trans X0) (x1.trans X1),congrArg Value.bool (dT (by omega))⟩),trivial⟩ fun a4 w4 st4=>Wn ?_
  refine cT st4 ?_;replace st4:St w.heap.size w 63 [] [(0,VAt w (VSv 3 P)),(5,VRg 32 8 (EV 3) none g c us),(6,Vi j),(18,Vb true)] a4 w4:=st4;have hgj:P[j]? =some (cv P j):=cv_gets hlt;have hu0:us[0]? =some (spt m 0):=by rw [hus];exact spL_0 m P j
  have hu1:us[1]? =some (spt m 3):=by rw [hus];exact spL_1 m P j
  have qj:=cv_Q2 hPQ (k:=j) (by omega);have qn:=cv_Q2 hPQ (k:=j+1) (by omega);obtain⟨u0,p0,s0⟩:=st4.sl (0,VAt w (VSv 3 P)) (lS_mem rfl);obtain⟨u5,p5,s5⟩:=st4.sl (5,VRg 32 8 (EV 3) none g c us) (lS_mem rfl);obtain⟨u6,p6,s6⟩:=st4.sl (6,Vi j) (lS_mem rfl);obtain⟨hbN,stB⟩:=st4.base [(0,VAt w (VSv 3 P)),(5,VAt w4 (VRg 32 8 (EV 3) none g c us)),(6,Vi j)] (Lq.2 ⟨⟨_,p0,s0⟩,(Lq.2 ⟨⟨_,p5,s5⟩,(Lq.2 ⟨⟨_,p6,s6⟩,L0⟩)⟩)⟩);have hnW:=st4.n;clear st4 p0 s0 p5 s5 p6 s6;have st4:=stB;clear stB;refine Wn ?_
  refine rH [(32,8,0)] [VAt w (VSv 3 P),Vi j,VAt w (VEp 32 8 (Vv 3 (cv P j).1 (cv P j).2)),Vv 3 ((cv P j).1) ((cv P j).2),VAt w (VSv 3 P),Vi j,Vv 3 ((cv P (j+1)).1) ((cv P (j+1)).2),Vv 3 ((mid2 (cv P j) (cv P (j+1))).1) ((mid2 (cv P j) (cv P (j+1))).2),VT,VT] [⟨7,some 8,some 9,32,8,Vv 3 ((mid2 (cv P j) (cv P (j+1))).1) ((mid2 (cv P j) (cv P (j+1))).2),VT⟩] [(0,VAt w (VSv 3 P)),(5,VAt w4 (VRg 32 8 (EV 3) none g c us)),(6,Vi j)] st4 ⟨ks,ks,(kr2 21 22 fun _ _ _ _ _ x0 X0 _ x1 X1=>index_SvA (a:=(cv P j)) rfl x0 X0 x1 X1 hgj),(kr1 23 fun _ _ _ h _ x0 X0=>load_EpC (w:=w) (k:=8) (A:=Vv 3 (cv P j).1 (cv P j).2) (Stab_Vv _ _ _) rfl x0 X0 (below_tr hbN h.k.below) Tryz.underlying32 rfl size_Vec),ks,ks,(kd2 fun _ _ Y h v0 X0 v1 X1=>cR6Next (show VEq v0 v0 Y from rfl) X1 (VSv_later X0 (below_tr hbN h.k.below)) hlt),(kd2 fun _ _ _ _ _ X0 _ X1=>cMidQ X0 X1 qj qn),ks,ks,trivial⟩ ?_;intro a5 w5 st5;obtain⟨gh,e7,-,-,cs7,b1,b2,-,b4⟩:=st5.boxAt (b:=(.k 7 32 8 (Vv 3 ((mid2 (cv P j) (cv P (j+1))).1) ((mid2 (cv P j) (cv P (j+1))).2)))) (.head _) rfl rfl;obtain⟨u0,p0,s0⟩:=st5.sl (0,VAt w (VSv 3 P)) (lS_mem rfl);obtain⟨u5,p5,s5⟩:=st5.sl (5,VAt w4 (VRg 32 8 (EV 3) none g c us)) (lS_mem rfl);obtain⟨u6,p6,s6⟩:=st5.sl (6,Vi j) (lS_mem rfl);replace s5:VRg 32 8 (EV 3) none g c us u5 w5:=Stab_VRg (BT:=[]) (fun x=>Stab_Vv _ _ _) (by decide) (.inl (by simp)) _ _ _ s5 (RI.of_below st5.k.below);replace st5:St w.heap.size w 63 [] [(0,VAt w (VSv 3 P)),(6,Vi j),(7,VEq (.pointer (some ⟨gh,0,none⟩)))] a5 w5:=st5.off hbN hnW (Lq.2 ⟨⟨_,p0,s0⟩,(Lq.2 ⟨⟨_,p6,s6⟩,(Lq.2 ⟨⟨_,e7,rfl⟩,L0⟩)⟩)⟩);have hbx:VBk gh (Vv 3 (mid2 (cv P j) (cv P (j+1))).1 (mid2 (cv P j) (cv P (j+1))).2) u5 w5:=⟨cs7,b1,b2,b4⟩;clear b1 b2 b4 p0 s0 p6 s6 hnW hbN;obtain⟨hh,hhd⟩:∃hh,hh=(mid2 (cv P j) (cv P (j+1))):=⟨_,rfl⟩;rw [<-hhd] at hbx;have qh:=Q2_mid qj qn;rw [<-hhd] at qh;have hPx:∀en∈([⟨5,none,some 32,VRg 32 8 (EV 3) none g c us⟩,⟨7,none,some 32,VBk gh (Vv 3 hh.1 hh.2)⟩,⟨29,some 0,some 32,VRy 32 8 (EV 3) w.heap.size us⟩,⟨60,some 31,some 32,VOs 32 8 (EV 3) [cv P j,hh,(mid2 hh (spt m 0)),((spt m 3).1,(cv P j).2),((cv P j).1,(spt m 3).2)]⟩,⟨61,some 32,some 33,VRy 32 8 (EV 3) w.heap.size (us++ [cv P j,hh,(mid2 hh (spt m 0)),((spt m 3).1,(cv P j).2),((cv P j).1,(spt m 3).2)])⟩,⟨5,some 33,none,VRy 32 8 (EV 3) w.heap.size (us++ [cv P j,hh,(mid2 hh (spt m 0)),((spt m 3).1,(cv P j).2),((cv P j).1,(spt m 3).2)])⟩]:List En),Stab [] en.P:=(Lq.2 ⟨(Stab_VRg (fun x=>Stab_Vv _ _ _) (by decide) (.inl (by simp))),(Lq.2 ⟨(Stab_VBk (Stab_Vv _ _ _)),(Lq.2 ⟨(Stab_VRy (fun x=>Stab_Vv _ _ _) (by decide)),(Lq.2 ⟨(Stab_VOs0 (fun x=>Stab_Vv _ _ _)),(Lq.2 ⟨(Stab_VRy (fun x=>Stab_Vv _ _ _) (by decide)),(Lq.2 ⟨(Stab_VRy (fun x=>Stab_Vv _ _ _) (by decide)),L0⟩)⟩)⟩)⟩)⟩)⟩);refine Wn ?_
  refine rgX (Vl:=[VT,VAt w (VSv 3 P),Vi j,VAt w (VEp 32 8 (Vv 3 (cv P j).1 (cv P j).2)),Vv 3 (cv P j).1 (cv P j).2,Vv 3 hh.1 hh.2,Vv 3 hh.1 hh.2,VEq (.slice (some ⟨g,0,none⟩) us.length c),VEq (.pointer (some ⟨g,8*0,none⟩)),Vv 3 (spt m 0).1 (spt m 0).2,Vv 3 (mid2 hh (spt m 0)).1 (mid2 hh (spt m 0)).2,VEq (.slice (some ⟨g,0,none⟩) us.length c),VEq (.pointer (some ⟨g,8*1,none⟩)),VEq (.pointer (some ⟨g,8*1,none⟩)),Vq 3 (spt m 3).1,VAt w (VSv 3 P),Vi j,VAt w (VEp 32 8 (Vv 3 (cv P j).1 (cv P j).2)),VAt w (VEp 32 4 (Vq 3 (cv P j).2)),Vq 3 (cv P j).2,Vv 3 (spt m 3).1 (cv P j).2,VAt w (VSv 3 P),Vi j,VAt w (VEp 32 8 (Vv 3 (cv P j).1 (cv P j).2)),VAt w (VEp 32 4 (Vq 3 (cv P j).1)),Vq 3 (cv P j).1,VEq (.slice (some ⟨g,0,none⟩) us.length c),VEq (.pointer (some ⟨g,8*1,none⟩)),VEq (.pointer (some ⟨g,8*1+4,none⟩)),Vq 3 (spt m 3).2,Vv 3 (cv P j).1 (spt m 3).2,VT,VT,VT]) (SL':=[(0,VAt w (VSv 3 P)),(6,Vi j)]) 32 [⟨5,none,some 32,VRg 32 8 (EV 3) none g c us⟩,⟨7,none,some 32,VBk gh (Vv 3 hh.1 hh.2)⟩,⟨29,some 0,some 32,VRy 32 8 (EV 3) w.heap.size us⟩,⟨60,some 31,some 32,VOs 32 8 (EV 3) [cv P j,hh,(mid2 hh (spt m 0)),((spt m 3).1,(cv P j).2),((cv P j).1,(spt m 3).2)]⟩,⟨61,some 32,some 33,VRy 32 8 (EV 3) w.heap.size (us++ [cv P j,hh,(mid2 hh (spt m 0)),((spt m 3).1,(cv P j).2),((cv P j).1,(spt m 3).2)])⟩,⟨5,some 33,none,VRy 32 8 (EV 3) w.heap.size (us++ [cv P j,hh,(mid2 hh (spt m 0)),((spt m 3).1,(cv P j).2),((cv P j).1,(spt m 3).2)])⟩] st5 ⟨(kx_mvE rfl ⟨_,(.head _),rfl,rfl,by kernel_rfl⟩ (fun _ _ h=> .inr ⟨g,c,hg,hc,h⟩) (Lq.2 ⟨(fun h=>absurd h (by simp)),(Lq.2 ⟨(fun h=>absurd h (by simp)),(Lq.2 ⟨(fun h=>⟨rfl,rfl⟩),(Lq.2 ⟨(fun h=>absurd h (by simp)),(Lq.2 ⟨(fun h=>absurd h (by simp)),(Lq.2 ⟨(fun h=>absurd h (by simp)),L0⟩)⟩)⟩)⟩)⟩)⟩) (by kernel_rfl) rfl trivial),(KStep.x ks hPx (by kernel_rfl)),(KStep.x ks hPx (by kernel_rfl)),(KStep.x (kr2 30 31 fun _ _ _ _ _ x0 X0 _ x1 X1=>index_SvA (a:=cv P j) rfl x0 X0 x1 X1 hgj) hPx (by kernel_rfl)),(KStep.x (kr1 32 fun _ _ _ h _ x0 X0=>load_EpC (w:=w) (k:=8) (A:=Vv 3 (cv P j).1 (cv P j).2) (Stab_Vv _ _ _) rfl x0 X0 h.k.below Tryz.underlying32 rfl size_Vec) hPx (by kernel_rfl)),(kx_ldF ⟨_,(.tail _ (.head _)),rfl,by kernel_rfl⟩ (fun _ ac Y u h D hu=>by obtain⟨v0,x0,X0⟩:=h.ot 7;exact load_Bk (u:=u) (A:=Vv 3 hh.1 hh.2) rfl x0 X0 hu) hPx (by kernel_rfl) trivial),(kx_ldF ⟨_,(.tail _ (.head _)),rfl,by kernel_rfl⟩ (fun _ ac Y u h D hu=>by obtain⟨v0,x0,X0⟩:=h.ot 7;exact load_Bk (u:=u) (A:=Vv 3 hh.1 hh.2) rfl x0 X0 hu) hPx (by kernel_rfl) trivial),(kx_mvV rfl ⟨_,(.head _),rfl,rfl,by kernel_rfl⟩ (fun _ _ h=>(VRg_row (by intro e;rw [e] at hul;simp at hul;omega) h).1) hPx (by kernel_rfl) trivial),(KStep.x (kr1 36 fun _ _ _ _ _ x0 X0=>index_EqS (j:=0) rfl x0 X0 rfl rfl (by omega)) hPx (by kernel_rfl)),(kx_ldF ⟨_,(.head _),rfl,by kernel_rfl⟩ (fun _ ac Y u h D hu=>by obtain⟨v0,x0,X0⟩:=h.dp D 37;exact ld_step (k:=0) rfl x0 X0 hu hu0) hPx (by kernel_rfl) trivial),(KStep.x (kd2 fun _ _ _ _ _ X0 _ X1=>cMidQ X0 X1 qh (Q2_le (Q2_up (spt_Q m 0)) (by omega))) hPx (by kernel_rfl)),(kx_mvV rfl ⟨_,(.head _),rfl,rfl,by kernel_rfl⟩ (fun _ _ h=>(VRg_row (by intro e;rw [e] at hul;simp at hul;omega) h).1) hPx (by kernel_rfl) trivial),(KStep.x (kr1 40 fun _ _ _ _ _ x0 X0=>index_EqS (j:=1) rfl x0 X0 rfl rfl (by omega)) hPx (by kernel_rfl)),(KStep.x (kr1 41 fun _ _ _ _ _ x0 X0=>field_Eq0 rfl x0 X0) hPx (by kernel_rfl)),(kx_ldF ⟨_,(.head _),rfl,by kernel_rfl⟩ (fun _ ac Y u h D hu=>by obtain⟨v0,x0,X0⟩:=h.dp D 42;exact ldq_step (k:=1) 0 (.inl ⟨rfl,rfl⟩) rfl x0 X0 hu hu1) hPx (by kernel_rfl) trivial),(KStep.x ks hPx (by kernel_rfl)),(KStep.x ks hPx (by kernel_rfl)),(KStep.x (kr2 44 45 fun _ _ _ _ _ x0 X0 _ x1 X1=>index_SvA (a:=cv P j) rfl x0 X0 x1 X1 hgj) hPx (by kernel_rfl)),(KStep.x (kr1 46 fun _ _ _ _ _ x0 X0=>field_Ep1 rfl x0 X0) hPx (by kernel_rfl)),(KStep.x (kr1 47 fun _ _ _ h _ x0 X0=>load_EpF rfl x0 X0 h.k.below) hPx (by kernel_rfl)),(KStep.x (kr2 43 48 fun _ _ _ _ _ x0 X0 _ x1 X1=>build_Vec rfl x0 x1 (AggV_Vq _ _) (AggV_Vq _ _) X0 X1) hPx (by kernel_rfl)),(KStep.x ks hPx (by kernel_rfl)),(KStep.x ks hPx (by kernel_rfl)),(KStep.x (kr2 50 51 fun _ _ _ _ _ x0 X0 _ x1 X1=>index_SvA (a:=cv P j) rfl x0 X0 x1 X1 hgj) hPx (by kernel_rfl)),(KStep.x (kr1 52 fun _ _ _ _ _ x0 X0=>field_Ep0 rfl x0 X0) hPx (by kernel_rfl)),(KStep.x (kr1 53 fun _ _ _ h _ x0 X0=>load_EpF rfl x0 X0 h.k.below) hPx (by kernel_rfl)),(kx_mvV rfl ⟨_,(.head _),rfl,rfl,by kernel_rfl⟩ (fun _ _ h=>(VRg_row (by intro e;rw [e] at hul;simp at hul;omega) h).1) hPx (by kernel_rfl) trivial),(KStep.x (kr1 55 fun _ _ _ _ _ x0 X0=>index_EqS (j:=1) rfl x0 X0 rfl rfl (by omega)) hPx (by kernel_rfl)),(KStep.x (kr1 56 fun _ _ _ _ _ x0 X0=>field_Eq1 rfl x0 X0) hPx (by kernel_rfl)),(kx_ldF ⟨_,(.head _),rfl,by kernel_rfl⟩ (fun _ ac Y u h D hu=>by obtain⟨v0,x0,X0⟩:=h.dp D 57;exact ldq_step (k:=1) 4 (.inr ⟨rfl,rfl⟩) rfl x0 X0 hu hu1) hPx (by kernel_rfl) trivial),(KStep.x (kr2 54 58 fun _ _ _ _ _ x0 X0 _ x1 X1=>build_Vec rfl x0 x1 (AggV_Vq _ _) (AggV_Vq _ _) X0 X1) hPx (by kernel_rfl)),(kx_mem (fun _ ac Y h D=>by obtain⟨v0,x0,X0⟩:=h.dp D 33;obtain⟨v1,x1,X1⟩:=h.dp D 34;obtain⟨v2,x2,X2⟩:=h.dp D 39;obtain⟨v3,x3,X3⟩:=h.dp D 49;obtain⟨v4,x4,X4⟩:=h.dp D 59;exact bslice_O5 (lo:=0) rfl x0 x1 x2 x3 x4 X0 X1 X2 X3 X4 (Nat.zero_le _)) hPx (by kernel_rfl) (Lq.2 ⟨(fun h=>absurd h (by simp)),(Lq.2 ⟨(fun h=>absurd h (by simp)),(Lq.2 ⟨(fun h=>absurd h (by simp)),(Lq.2 ⟨(fun h=>⟨rfl,rfl⟩),(Lq.2 ⟨(fun h=>absurd h (by simp)),(Lq.2 ⟨(fun h=>absurd h (by simp)),L0⟩)⟩)⟩)⟩)⟩)⟩) rfl trivial),(kx_app (k:=8) (E:=EV 3) (xs:=us) (zs:=[cv P j,hh,(mid2 hh (spt m 0)),((spt m 3).1,(cv P j).2),((cv P j).1,(spt m 3).2)]) (X:=VOs 32 8 (EV 3) [cv P j,hh,(mid2 hh (spt m 0)),((spt m 3).1,(cv P j).2),((cv P j).1,(spt m 3).2)]) rfl (.inl ⟨_,(.tail _ (.tail _ (.head _))),rfl,rfl,by kernel_rfl⟩) (.inl ⟨_,(.tail _ (.tail _ (.tail _ (.head _)))),rfl,rfl,by kernel_rfl⟩) (fun _ _ _ h=>VOs_sc h) (Lq.2 ⟨(fun h=>absurd h (by simp)),(Lq.2 ⟨(fun h=>absurd h (by simp)),(Lq.2 ⟨(fun h=>absurd h (by simp)),(Lq.2 ⟨(fun h=>absurd h (by simp)),(Lq.2 ⟨(fun h=>⟨rfl,rfl⟩),(Lq.2 ⟨(fun h=>absurd h (by simp)),L0⟩)⟩)⟩)⟩)⟩)⟩) (by kernel_rfl) rfl (fun x BT=>Stab_Vv _ _ _) (by rw [hul];simp;omega) trivial),(kx_asgD rfl ⟨_,(.tail _ (.tail _ (.tail _ (.tail _ (.head _))))),rfl,rfl,by kernel_rfl⟩ (Lq.2 ⟨(fun h=>absurd h (by simp)),(Lq.2 ⟨(fun h=>absurd h (by simp)),(Lq.2 ⟨(fun h=>absurd h (by simp)),(Lq.2 ⟨(fun h=>absurd h (by simp)),(Lq.2 ⟨(fun h=>absurd h (by simp)),(Lq.2 ⟨(fun h=>⟨rfl,rfl⟩),L0⟩)⟩)⟩)⟩)⟩)⟩) (by kernel_rfl) rfl trivial),trivial⟩ ?_ hPx (Lq.2 ⟨(fun _=>⟨_,p5,s5⟩),(Lq.2 ⟨(fun _=>⟨_,e7,hbx⟩),(Lq.2 ⟨(fun h=>absurd h (by simp)),(Lq.2 ⟨(fun h=>absurd h (by simp)),(Lq.2 ⟨(fun h=>absurd h (by simp)),(Lq.2 ⟨(fun h=>absurd h (by simp)),L0⟩)⟩)⟩)⟩)⟩)⟩) (by kernel_rfl);clear hPx;intro a6 w6 st6 hx6;obtain⟨v5,e5,h5⟩:=hx6 _ (.tail _ (.tail _ (.tail _ (.tail _ (.tail _ (.head _)))))) rfl;clear hx6 e7 hbx p5 s5 hg hc;obtain⟨g2,c2,hg2,rfl,hrow⟩:=VRy_row (by simp) h5;have hc2:0<c2:=by have:=hrow.1;rw [List.length_append] at this;simp at this;omega
  replace st6:=st6.reT 5 (VRg 32 8 (EV 3) none g2 c2 (us++ [cv P j,hh,(mid2 hh (spt m 0)),((spt m 3).1,(cv P j).2),((cv P j).1,(spt m 3).2)])) e5 (hrow.rg hc2 rfl);clear e5 h5 hrow;replace st6:St w.heap.size w 63 [] [(5,VRg 32 8 (EV 3) none g2 c2 (us++ [cv P j,hh,(mid2 hh (spt m 0)),((spt m 3).1,(cv P j).2),((cv P j).1,(spt m 3).2)])),(0,VAt w (VSv 3 P)),(6,Vi j)] a6 w6:=st6.cut;refine Wn ?_
  refine rH [] [Vi j,Vi ((j+1:Nat):Int),Vi ((j+1:Nat):Int)] [] [(5,VRg 32 8 (EV 3) none g2 c2 (us++ [cv P j,hh,(mid2 hh (spt m 0)),((spt m 3).1,(cv P j).2),((cv P j).1,(spt m 3).2)])),(0,VAt w (VSv 3 P)),(6,Vi ((j+1:Nat):Int))] st6 ⟨?s0,(kr1 19 fun _ _ _ _ v0 x0 X0=>⟨_,run_addi rfl (x0.trans (show v0= .int .i64 j from X0)) rfl wO,congrArg (Value.int .i64) (by omega)⟩),ks,trivial⟩ ?_
  case s0=>
   refine k_run0 SbB.out (by kernel_rfl) fun listed ac Y h D hnl=>⟨trivial,?_⟩
   obtain⟨v0,x0,X0⟩:=h.out0 hnl (6,Vi j) (.tail _ (.tail _ (.head _))) 2 (by kernel_rfl) (.inr (by kernel_rfl));exact⟨_,run_move rfl,by rw [x0];exact X0⟩
  intro a7 w7 st7;replace st7:St w.heap.size w 63 [] [(5,VRg 32 8 (EV 3) none g2 c2 (us++ [cv P j,hh,(mid2 hh (spt m 0)),((spt m 3).1,(cv P j).2),((cv P j).1,(spt m 3).2)])),(0,VAt w (VSv 3 P)),(6,Vi ((j+1:Nat):Int))] a7 w7:=st7;exact⟨m1 - 1,by omega,j+1,g2,c2,us++ [cv P j,hh,(mid2 hh (spt m 0)),((spt m 3).1,(cv P j).2),((cv P j).1,(spt m 3).2)],by omega,by rw [hhd,hus];rfl,hg2,hc2,st7.cut⟩
 ·
  refine Wn ?_
  refine rH [] [Vi j,VAt w (VSv 3 P),Vi (P.length:Int),Vb false] [] [(0,VAt w (VSv 3 P)),(5,VRg 32 8 (EV 3) none g c us),(6,Vi j),(18,Vb false)] st3 ⟨ks,ks,(kr1 16 fun _ _ _ _ _ x0 X0=>len_SvA rfl rfl x0 X0),(kr2 15 17 fun _ _ _ _ _ x0 X0 _ x1 X1=>⟨_,run_lssi rfl (x0.trans X0) (x1.trans X1),congrArg Value.bool (dF (by omega))⟩),trivial⟩ fun a4 w4 st4=>Wn ?_
  refine cF st4 ?_;have hjn:j=P.length:=by omega
  refine Wn ?_
  refine rH [] [VRg 32 8 (EV 3) none g c us,VRg 32 8 (EV 3) none g c us] [] [(0,VAt w (VSv 3 P)),(5,VRg 32 8 (EV 3) none g c us),(6,Vi j),(18,Vb false),(4,VRg 32 8 (EV 3) none g c us)] st4 ⟨ks,ks,trivial⟩ fun a5 w5 st5=>Wn ?_
  exact wp_ret (rS 4 (VRg 32 8 (EV 3) none g c (us)) st5 fun vr r4=>(by rw [<-hjn,<-hus];exact VRg_sv r4 (by intro e;rw [e] at hul;simp at hul;omega)))
theorem sd_low {x y u v:Rat}(hx:x<=0)(hu:u<=0)(hy:y<=0)(hv:0<=v):x*v - y*u<=0:=by
 have h1:=Rat.mul_nonneg (show 0<= -x by grind) hv;have h2:=Rat.mul_nonneg (show 0<= -y by grind) (show 0<= -u by grind)
 grind
theorem sd_high {x y u v:Rat}(hx:0<x)(hu:0<u)(hy:y<=0)(hv:0<v):0<x*v - y*u:=by
 have h1:=Rat.mul_pos hx hv;have h2:=Rat.mul_nonneg (show 0<= -y by grind) (Rat.le_of_lt hu)
 grind
theorem sdI_pos {a b p:P2}:0<sdI a b p↔0<sdD a b p:=by
 rw [sdI_sdD];rcases sign_cases (sdD a b p)with⟨h,e⟩|⟨h,e⟩|⟨h,e⟩<;>rw [e]<;>constructor<;>intro k<;>first|omega|exact h|(exfalso;grind)
theorem sdI_neg {a b p:P2}:sdI a b p<0↔sdD a b p<0:=by
 rw [sdI_sdD];rcases sign_cases (sdD a b p)with⟨h,e⟩|⟨h,e⟩|⟨h,e⟩<;>rw [e]<;>constructor<;>intro k<;>first|omega|exact h|(exfalso;grind)
theorem sdI_zero {a b p:P2}:sdI a b p=0↔sdD a b p=0:=by
 rw [sdI_sdD];rcases sign_cases (sdD a b p)with⟨h,e⟩|⟨h,e⟩|⟨h,e⟩<;>rw [e]<;>constructor<;>intro k<;>first|omega|exact h|(exfalso;grind)
theorem cmpQ_gt0 {x y:Rat}:0<cmpQ x y↔y<x:=by
 rw [<-cmpQ_gt];rcases cmpQ_cases x y with h|h|h<;>rw [h]<;>decide
theorem rgt_form (a b p:P2):rgt a b p=true↔(¬p.2<a.2/\p.2<b.2/\0<sdD a b p)∨(p.2<a.2/\¬p.2<b.2/\sdD a b p<0):=by
 unfold rgt abv;by_cases ha:p.2<a.2<;>by_cases hb:p.2<b.2<;>simp [cmpQ_gt0,ha,hb,sdI_pos,sdI_neg]
theorem par_bool {Xa Xb Ya Yb DN DP:Prop}{r u A B:Bool}(hr:r=true↔(¬Ya/\Yb/\DP)∨(Ya/\¬Yb/\DN))(hu:u=true↔(¬Xa/\Xb/\DN)∨(Xa/\¬Xb/\DP))(hA:A=true↔Xa/\Ya)(hB:B=true↔Xb/\Yb)(hD:¬(DN/\DP))
 (f1:¬Xa->¬Xb->¬Ya->Yb->¬DP) (f2:¬Xa->¬Xb->Ya->¬Yb->¬DN) (f3:Xa->Xb->¬Ya->Yb->DP) (f4:Xa->Xb->Ya->¬Yb->DN)
 (g1:¬Ya->¬Yb->¬Xa->Xb->¬DN) (g2:¬Ya->¬Yb->Xa->¬Xb->¬DP) (g3:Ya->Yb->¬Xa->Xb->DN) (g4:Ya->Yb->Xa->¬Xb->DP)
 (z1:¬Xa->¬Ya->Xb->Yb->DN∨DP) (z2:Xa->Ya->¬Xb->¬Yb->DN∨DP):sgb r*sgb u=sgb A*sgb B:=by
 by_cases h1:Xa<;>by_cases h2:Xb<;>by_cases h3:Ya<;>by_cases h4:Yb<;>by_cases h5:DN<;>by_cases h6:DP<;>simp only [h1,h2,h3,h4,h5,h6,not_true,not_false_iff,and_true,and_false,or_true,or_false,imp_false,iff_true,iff_false,Bool.not_eq_true,implies_true] at*<;>first|(subst hr hu hA hB;rfl)|(exfalso;assumption)|skip
theorem pz_par {f g A:Nat->Bool}:∀n,(∀k,k<n->sgb (f k)*sgb (g k)=sgb (A k)*sgb (A (k+1)))->pzT f n*pzT g n=pzT A n*pzT (fun k=>A (k+1)) n
 |0,_=>rfl
 |n+1,h=>by
  show pzT f n*sgb (f n)*(pzT g n*sgb (g n))=pzT A n*sgb (A n)*(pzT (fun k=>A (k+1)) n*sgb (A (n+1)));have h1:=pz_par n fun k hk=>h k (by omega)
  have h2:=h n (by omega);have e1:pzT f n*sgb (f n)*(pzT g n*sgb (g n))=pzT f n*pzT g n*(sgb (f n)*sgb (g n)):=by grind
  rw [e1,h1,h2]
  grind
theorem pzT_sq (f:Nat->Bool):∀n,pzT f n*pzT f n=1
 |0=>rfl
 |n+1=>by
  show pzT f n*sgb (f n)*(pzT f n*sgb (f n))=1;have h1:=pzT_sq f n;have h2:=sgb_sq (f n);have:pzT f n*sgb (f n)*(pzT f n*sgb (f n))=pzT f n*pzT f n*(sgb (f n)*sgb (f n)):=by grind
  rw [this,h1,h2];rfl
theorem pz_eq {f g A:Nat->Bool}{n:Nat}(h:∀k,k<n->sgb (f k)*sgb (g k)=sgb (A k)*sgb (A (k+1)))(hA:A n=A 0):pzT f n=pzT g n:=by
 have h1:=pz_par n h;have h2:=pzT_front A n;have h3:pzT A (n+1)=pzT A n*sgb (A n):=rfl;rw [h3,hA,Int.mul_comm] at h2
 have h4:pzT A n=pzT (fun k=>A (k+1)) n:=by
  have h5:=congrArg (fun z=>sgb (A 0)*z) h2;simp only [<-Int.mul_assoc,sgb_sq,Int.one_mul] at h5;exact h5
 rw [<-h4,pzT_sq] at h1;have h6:=congrArg (fun z=>z*pzT g n) h1;simp only [Int.mul_assoc,pzT_sq,Int.mul_one,Int.one_mul] at h6;exact h6
theorem onR_has (vs:List P2)(p:P2)(k:Nat):onR vs p k=hasS (cv vs k) (cv vs (k+1)) p:=by
 unfold onR;rw [meetEq];unfold mts hasS;generalize cv vs k=c;generalize cv vs (k+1)=d;have e1:ovl p p c d=ovl c d p p:=by unfold ovl;exact Bool.and_comm _ _
 have e2:prt p p c d=true:=by
  unfold prt;have:sdI p p c=0:=sdI_zero.2 (by unfold sdD;grind);rw [this];simp
 have e3:prt c d p p=(sdI c d p==0):=by
  unfold prt;rcases (show sdI c d p= -1∨sdI c d p=0∨sdI c d p=1 from cmpI_abs _ _)with h|h|h<;>rw [h]<;>rfl
 rw [e1,e2,e3,Bool.true_and]


theorem mts_iff {a b c d:P2}:mts a b c d=true↔common a b c d:=by
 constructor
 ·intro h;have h0:=h;unfold mts at h;rw [Bool.and_eq_true,Bool.and_eq_true] at h;rcases both h.2.1 h.2.2 with h1|⟨h1,-⟩
  ·exact h1
  ·rw [h1] at h;exact absurd h.1 (by decide)
 ·intro h;rw [<-meetEq];exact common_meetsR h
theorem hasS_mts (c d p:P2):hasS c d p=mts p p c d:=by
 rw [<-meetEq];exact(onR_has [c,d] p 0).symm
theorem ptS_self (p:P2)(s:Rat):ptS p p s=p:=by
 unfold ptS;exact Prod.ext (by show _=p.1;grind) (by show _=p.2;grind)
theorem hasS_iff {a b p:P2}:hasS a b p=true↔∃t:Rat,0<=t/\t<=1/\p=ptS a b t:=by
 rw [hasS_mts,mts_iff];constructor
 ·rintro⟨s,t,-,-,h3,h4,h5⟩
  rw [ptS_self] at h5;exact⟨t,h3,h4,h5⟩
 ·rintro⟨t,h3,h4,h5⟩
  exact⟨0,t,Rat.le_refl,by decide,h3,h4,by rw [ptS_self];exact h5⟩
section
variable {c s x y:Rat}
theorem ptS_put (a b:P2)(t:Rat):ptS (putP c s x y a) (putP c s x y b) t=putP c s x y (ptS a b t):=by
 unfold ptS putP;exact Prod.ext (by grind) (by grind)
theorem put_inj (h1:c*c+s*s=1){u v:P2}(h:putP c s x y u=putP c s x y v):u=v:=by
 have e1:=congrArg Prod.fst h;have e2:=congrArg Prod.snd h;unfold putP at e1 e2;simp only at e1 e2;have q1:c*(u.1 - v.1) - s*(u.2 - v.2)=0:=by grind
 have q2:s*(u.1 - v.1)+c*(u.2 - v.2)=0:=by grind
 have p1:(c*c+s*s)*(u.1 - v.1)=0:=by grind
 have p2:(c*c+s*s)*(u.2 - v.2)=0:=by grind
 rw [h1] at p1 p2;exact Prod.ext (by grind) (by grind)
theorem common_put (h1:c*c+s*s=1){a b d e:P2}:common (putP c s x y a) (putP c s x y b) (putP c s x y d) (putP c s x y e)↔common a b d e:=by
 unfold common;simp only [ptS_put];constructor
 ·rintro⟨g,k,q1,q2,q3,q4,q5⟩
  exact⟨g,k,q1,q2,q3,q4,put_inj h1 q5⟩
 ·rintro⟨g,k,q1,q2,q3,q4,q5⟩
  exact⟨g,k,q1,q2,q3,q4,congrArg _ q5⟩
theorem mts_put (h1:c*c+s*s=1)(a b d e:P2):mts (putP c s x y a) (putP c s x y b) (putP c s x y d) (putP c s x y e)=mts a b d e:=Bool.eq_iff_iff.2 (mts_iff.trans ((common_put h1).trans mts_iff.symm))
theorem sdD_put (h1:c*c+s*s=1)(a b p:P2):sdD (putP c s x y a) (putP c s x y b) (putP c s x y p)=sdD a b p:=by
 have:sdD (putP c s x y a) (putP c s x y b) (putP c s x y p)=(c*c+s*s)*sdD a b p:=by
  unfold sdD putP
  grind
 rw [this,h1,Rat.one_mul]
theorem sdI_put (h1:c*c+s*s=1)(a b p:P2):sdI (putP c s x y a) (putP c s x y b) (putP c s x y p)=sdI a b p:=by rw [sdI_sdD,sdI_sdD,sdD_put h1]
end
theorem cv_map {vs:List P2}(f:P2->P2)(h:0<vs.length)(k:Nat):cv (vs.map f) k=f (cv vs k):=by
 rw [<-cv_mod,List.length_map];have:=Nat.mod_lt k h;refine cv_of ?_;rw [List.getElem?_map,cv_get k h];rfl
section
variable {c s x y:Rat}{vs:List P2}
theorem okR_put (h1:c*c+s*s=1)(h0:0<vs.length)(i:Nat):okR (vs.map (putP c s x y)) i↔okR vs i:=by
 have e:∀i k,badR (vs.map (putP c s x y)) i k=badR vs i k:=fun i k=>by
  have:gp (vs.map (putP c s x y)) i k=gp vs i k:=by unfold gp;rw [List.length_map]
  unfold badR;rw [this,List.length_map,meetEq,meetEq,cv_map _ h0,cv_map _ h0,cv_map _ h0,cv_map _ h0,mts_put h1]
 unfold okR tnR;rw [List.length_map,cv_map _ h0,cv_map _ h0,cv_map _ h0,sdR_eq,sdR_eq,sdI_put h1];simp only [e]
theorem areaQ_put (h1:c*c+s*s=1)(h0:0<vs.length):areaQ (vs.map (putP c s x y))=areaQ vs:=by
 rw [two_part,two_part,List.length_map]
 congr 1
 have:=sumT_tel (Fk crs vs) (Fk crs (vs.map (putP c s x y))) (fun k=>crs (c*(cv vs k).1+ -s*(cv vs k).2,s*(cv vs k).1+c*(cv vs k).2) (x,y)) (fun k=>by
  unfold Fk;rw [cv_map _ h0,cv_map _ h0]
  have:crs (putP c s x y (cv vs k)) (putP c s x y (cv vs (k+1)))=(c*c+s*s)*crs (cv vs k) (cv vs (k+1))+(crs (c*(cv vs k).1+ -s*(cv vs k).2,s*(cv vs k).1+c*(cv vs k).2) (x,y) - crs (c*(cv vs (k+1)).1+ -s*(cv vs (k+1)).2,s*(cv vs (k+1)).1+c*(cv vs (k+1)).2) (x,y)):=by
   unfold crs putP
   grind
  rw [this,h1,Rat.one_mul]) vs.length
 rw [this,cv_len]
 grind
theorem validP_put (h1:c*c+s*s=1)(h0:0<vs.length):validP (vs.map (putP c s x y))=validP vs:=by
 rw [<-validR_valid,<-validR_valid];unfold validR;simp only [okR_put h1 h0];rw [List.length_map,areaR_eq,areaR_eq,areaQ_put h1 h0]
theorem convexP_put (h1:c*c+s*s=1)(h0:0<vs.length):convexP (vs.map (putP c s x y))=convexP vs:=by
 unfold convexP;rw [validP_put h1 h0,List.length_map]
 have:∀k,tn (vs.map (putP c s x y)) k=tn vs k:=fun k=>by
  unfold tn;rw [cv_map _ h0,cv_map _ h0,cv_map _ h0,sdI_put h1]
 simp only [this]
end
def qdB (t:Rat):List P2:=[(0,0),(4,0),(1+t,3),(1,1)]
theorem pgF_put (l:List Int){t:Int}(h:atv l 0 2=t):pgF l=(qdB (t:Rat)).map (putP 1 0 (byQ l).1 (byQ l).2):=by
 unfold pgF qdB;rw [h];simp only [List.map_cons,List.map_nil,List.cons.injEq,and_true];refine⟨?_,?_,?_,?_⟩<;>refine Prod.ext ?_ ?_<;>simp only [putP,Rat.divInt_eq_div]<;>grind
def ln (m p v:P2):Rat:=m.1*(v.1 - p.1)+m.2*(v.2 - p.2)
def rgN (m a b p:P2):Bool:=decide ((¬0<ln m p a/\0<ln m p b/\0<sdD a b p)∨(0<ln m p a/\¬0<ln m p b/\sdD a b p<0))
def upN (m a b p:P2):Bool:=decide ((¬0<ln m p a/\0<ln m p b/\sdD a b p<0)∨(0<ln m p a/\¬0<ln m p b/\0<sdD a b p))
theorem seg_of {m a b p:P2}(hD:sdD a b p=0)(h:(¬0<ln m p a/\0<ln m p b)∨(0<ln m p a/\¬0<ln m p b)):hasS a b p=true:=by
 have hab:a≠b:=by
  intro e;subst e;rcases h with⟨h1,h2⟩|⟨h1,h2⟩
  ·exact h1 h2
  ·exact h2 h1
 obtain⟨g,rfl⟩:=on_line hab hD;have e1:ln m (ptS a b g) a= -(g*(m.1*(b.1 - a.1)+m.2*(b.2 - a.2))):=by unfold ln ptS;grind
 have e2:ln m (ptS a b g) b=(1 - g)*(m.1*(b.1 - a.1)+m.2*(b.2 - a.2)):=by unfold ln ptS;grind
 rw [e1,e2] at h;generalize m.1*(b.1 - a.1)+m.2*(b.2 - a.2)=M at h;refine hasS_iff.2 ⟨g,?_,?_,rfl⟩
 ·refine Rat.not_lt.1 fun hg=>?_
  rcases h with⟨h1,h2⟩|⟨h1,h2⟩
  ·have hM:0<M:=by grind
   have:=Rat.mul_pos (show 0< -g by grind) hM
   grind
  ·have hM:0< -M:=by grind
   have:=Rat.mul_pos (show 0< -g by grind) hM
   grind
 ·refine Rat.not_lt.1 fun hg=>?_
  rcases h with⟨h1,h2⟩|⟨h1,h2⟩
  ·have hM:0<M:=by grind
   have:=Rat.mul_pos (show 0<g - 1 by grind) hM
   grind
  ·have hM:0< -M:=by grind
   have:=Rat.mul_pos (show 0<g - 1 by grind) hM
   grind
theorem sgn_det {d E D:Rat}(hd:0<d)(h:E=d*D):(0<E↔0<D)/\(E<0↔D<0):=by
 subst h;have p:0<D->0<d*D:=Rat.mul_pos hd;have q:D<0->0<d* -D:=fun h=>Rat.mul_pos hd (by grind)
 have tri:D=0∨(D<0∨0<D):=by grind
 constructor<;>constructor<;>intro k
 ·rcases tri with h|h|h
  ·rw [h] at k;grind
  ·have:=q h;grind
  ·exact h
 ·exact p k
 ·rcases tri with h|h|h
  ·rw [h] at k;grind
  ·exact h
  ·have:=p h;grind
 ·have:=q k;grind
theorem side_parN {m n a b p:P2}(D:0<m.1*n.2 - m.2*n.1)(h:¬hasS a b p=true):sgb (rgN n a b p)*sgb (upN m a b p)=sgb (decide (0<ln m p a) && decide (0<ln n p a))*sgb (decide (0<ln m p b) && decide (0<ln n p b)):=by
 have tri:sdD a b p=0∨(sdD a b p<0∨0<sdD a b p):=by
  rcases sign_cases (sdD a b p)with⟨q,-⟩|⟨q,-⟩|⟨q,-⟩
  ·exact .inr (.inl q)
  ·exact .inl q
  ·exact .inr (.inr q)
 obtain⟨k1,k2⟩:=sgn_det D (show ln m p a*ln n p b - ln n p a*ln m p b=(m.1*n.2 - m.2*n.1)*sdD a b p by unfold ln sdD;grind);refine par_bool (Xa:=0<ln m p a) (Xb:=0<ln m p b) (Ya:=0<ln n p a) (Yb:=0<ln n p b) (DN:=sdD a b p<0) (DP:=0<sdD a b p) decide_eq_true_iff decide_eq_true_iff (by rw [Bool.and_eq_true,decide_eq_true_eq,decide_eq_true_eq]) (by rw [Bool.and_eq_true,decide_eq_true_eq,decide_eq_true_eq]) (fun q=>by grind) ?_ ?_ ?_ ?_ ?_ ?_ ?_ ?_ ?_ ?_
 ·intro h1 h2 h3 h4;rw [<-k1];have:=sd_low (x:=ln m p a) (y:=ln n p a) (u:=ln m p b) (v:=ln n p b) (by grind) (by grind) (by grind) (by grind)
  grind
 ·intro h1 h2 h3 h4;rw [<-k2];have:=sd_low (x:=ln m p b) (y:=ln n p b) (u:=ln m p a) (v:=ln n p a) (by grind) (by grind) (by grind) (by grind)
  grind
 ·intro h1 h2 h3 h4;rw [<-k1];exact sd_high (x:=ln m p a) (y:=ln n p a) (u:=ln m p b) (v:=ln n p b) h1 h2 (by grind) h4
 ·intro h1 h2 h3 h4;rw [<-k2];have:=sd_high (x:=ln m p b) (y:=ln n p b) (u:=ln m p a) (v:=ln n p a) h2 h1 (by grind) h3
  grind
 ·intro h1 h2 h3 h4;rw [<-k2];have:=sd_low (x:=ln n p a) (y:=ln m p a) (u:=ln n p b) (v:=ln m p b) (by grind) (by grind) (by grind) (by grind)
  grind
 ·intro h1 h2 h3 h4;rw [<-k1];have:=sd_low (x:=ln n p b) (y:=ln m p b) (u:=ln n p a) (v:=ln m p a) (by grind) (by grind) (by grind) (by grind)
  grind
 ·intro h1 h2 h3 h4;rw [<-k2];have:=sd_high (x:=ln n p a) (y:=ln m p a) (u:=ln n p b) (v:=ln m p b) h1 h2 (by grind) h4
  grind
 ·intro h1 h2 h3 h4;rw [<-k1];have:=sd_high (x:=ln n p b) (y:=ln m p b) (u:=ln n p a) (v:=ln m p a) h2 h1 (by grind) h3
  grind
 ·intro h1 h2 h3 h4;exact tri.resolve_left fun h0=>h (seg_of (m:=m) h0 (.inl ⟨h1,h3⟩))
 ·intro h1 h2 h3 h4;exact tri.resolve_left fun h0=>h (seg_of (m:=m) h0 (.inr ⟨h1,h3⟩))
theorem side_parU {m a b p:P2}(h:¬hasS a b p=true):sgb (upN m a b p)*sgb (rgN m a b p)=sgb (decide (0<ln m p a))*sgb (decide (0<ln m p b)):=by
 have tri:sdD a b p=0∨(sdD a b p<0∨0<sdD a b p):=by
  rcases sign_cases (sdD a b p)with⟨q,-⟩|⟨q,-⟩|⟨q,-⟩
  ·exact .inr (.inl q)
  ·exact .inl q
  ·exact .inr (.inr q)
 have hs:=fun h0=>mt (seg_of (m:=m) (a:=a) (b:=b) (p:=p) h0) h
 unfold upN rgN;rcases tri with e|e|e
 ·have:=hs e;have n1:¬sdD a b p<0:=by grind
  have n2:¬0<sdD a b p:=by grind
  by_cases h1:0<ln m p a<;>by_cases h2:0<ln m p b<;>simp [h1,h2,n1,n2,sgb] at this ⊢
 ·have n2:¬0<sdD a b p:=by grind
  by_cases h1:0<ln m p a<;>by_cases h2:0<ln m p b<;>simp [h1,h2,e,n2,sgb]
 ·have n1:¬sdD a b p<0:=by grind
  by_cases h1:0<ln m p a<;>by_cases h2:0<ln m p b<;>simp [h1,h2,e,n1,sgb]
section
variable {vs:List P2}{p:P2}(hon:∀k,k<vs.length->¬hasS (cv vs k) (cv vs (k+1)) p=true)
include hon
theorem par_dir {m n:P2}(D:0<m.1*n.2 - m.2*n.1):pzT (fun k=>rgN n (cv vs k) (cv vs (k+1)) p) vs.length=pzT (fun k=>rgN m (cv vs k) (cv vs (k+1)) p) vs.length:=by
 have h1:=pz_eq (n:=vs.length) (f:=fun k=>rgN n (cv vs k) (cv vs (k+1)) p) (g:=fun k=>upN m (cv vs k) (cv vs (k+1)) p) (A:=fun k=>decide (0<ln m p (cv vs k)) && decide (0<ln n p (cv vs k))) (fun k hk=>side_parN D (hon k hk)) (by show _=_;rw [cv_len]);have h2:=pz_eq (n:=vs.length) (f:=fun k=>upN m (cv vs k) (cv vs (k+1)) p) (g:=fun k=>rgN m (cv vs k) (cv vs (k+1)) p) (A:=fun k=>decide (0<ln m p (cv vs k))) (fun k hk=>side_parU (hon k hk)) (by show _=_;rw [cv_len]);exact h1.trans h2
end
theorem rgt_0 (a b p:P2):rgt a b p=rgN (0,1) a b p:=by
 refine Bool.eq_iff_iff.2 ((rgt_form _ _ _).trans ?_)
 have e:∀v:P2,p.2<v.2↔0<ln (0,1) p v:=fun v=>by
  have:ln (0,1) p v=v.2 - p.2:=by unfold ln;grind
  rw [this];constructor<;>intro h<;>grind
 unfold rgN;rw [decide_eq_true_eq,e,e]
theorem pz_ex {f:Nat->Bool}:∀n,pzT f n= -1->∃k,k<n/\f k=true
 |0,h=>by cases h
 |n+1,h=>by
  cases hf:f n with
  |true=>exact⟨n,by omega,hf⟩
  |false=>
   have h2:pzT f n*sgb (f n)= -1:=h;rw [hf] at h2;obtain⟨k,h3,h4⟩:=pz_ex n (by rw [show sgb false=1 from rfl,Int.mul_one] at h2;exact h2);exact⟨k,by omega,h4⟩
theorem pzT_one (f:Nat->Bool)(n:Nat):pzT f n=1∨pzT f n= -1:=by
 induction n with
 |zero=>exact .inl rfl
 |succ n ih=>
  show pzT f n*sgb (f n)=1∨pzT f n*sgb (f n)= -1;rcases ih with h|h<;>rw [h]<;>cases f n<;>decide
theorem cv_mem {vs:List P2}(h:0<vs.length)(k:Nat):cv vs k∈vs:=List.mem_of_getElem? (cv_get k h)
theorem in_dir {vs:List P2}{p:P2}(h:hasI vs p=1)(m:P2)(hm:0<m.1*m.1+m.2*m.2):∃u∈vs,∃v∈vs,¬0<ln m p u/\0<ln m p v:=by
 unfold hasI at h;split at h
 ·cases h
 ·rename_i hn
  have hon:∀k,k<vs.length->¬hasS (cv vs k) (cv vs (k+1)) p=true:=fun k hk h2=>hn ⟨k,List.mem_range.2 hk,h2⟩
  rw [whr_pz] at h;simp only [rgt_0] at h;have q:pzT (fun k=>rgN (0,1) (cv vs k) (cv vs (k+1)) p) vs.length= -1:=by omega
  have q2:pzT (fun k=>rgN m (cv vs k) (cv vs (k+1)) p) vs.length= -1:=by
   have tri:m.1=0∨(m.1<0∨0<m.1):=by grind
   rcases tri with h0|h0|h0
   ·have h2:m.2<0∨0<m.2:=by
     have:m.2=0∨(m.2<0∨0<m.2):=by grind
     refine this.resolve_left fun e=>?_
     rw [h0,e] at hm
     grind
    have a1:=par_dir hon (m:=(1,0)) (n:=(0,1)) (by show(0:Rat)<1*1 - 0*0;grind);rcases h2 with h2|h2
    ·have a2:=par_dir hon (m:=m) (n:=(1,0)) (by show 0<m.1*0 - m.2*1;grind);rw [<-a2,<-a1];exact q
    ·have a2:=par_dir hon (m:=(1,0)) (n:=m) (by show 0<1*m.2 - 0*m.1;grind);rw [a2,<-a1];exact q
   ·have a2:=par_dir hon (m:=(0,1)) (n:=m) (by show 0<0*m.2 - 1*m.1;grind);rw [a2];exact q
   ·have a2:=par_dir hon (m:=m) (n:=(0,1)) (by show 0<m.1*1 - m.2*0;grind);rw [<-a2];exact q
  obtain⟨k,hk,h4⟩:=pz_ex _ q2;have h0:0<vs.length:=by omega
  rcases of_decide_eq_true h4 with⟨h5,h6,-⟩|⟨h5,h6,-⟩
  ·exact⟨_,cv_mem h0 k,_,cv_mem h0 (k+1),h5,h6⟩
  ·exact⟨_,cv_mem h0 (k+1),_,cv_mem h0 k,h6,h5⟩
theorem box_bd {vs:List P2}{u:P2}(h:u∈vs):(bxL vs).1<=u.1/\(bxL vs).2<=u.2/\u.1<=(bxH vs).1/\u.2<=(bxH vs).2:=by
 cases vs with
 |nil=>cases h
 |cons a xs=>
  obtain⟨⟨-,h1⟩,-,h2⟩:=fold_ls xs a;obtain⟨⟨-,h3⟩,-,h4⟩:=fold_gr xs a;exact⟨h1 u h,h2 u h,h3 u h,h4 u h⟩
theorem pt_btw {x y g lo hi:Rat}(h0:0<=g)(h1:g<=1)(hx:lo<=x/\x<=hi)(hy:lo<=y/\y<=hi):lo<=x+g*(y - x)/\x+g*(y - x)<=hi:=by
 have a1:=Rat.mul_nonneg h0 (show 0<=y - lo by grind);have a2:=Rat.mul_nonneg (show 0<=1 - g by grind) (show 0<=x - lo by grind);have a3:=Rat.mul_nonneg h0 (show 0<=hi - y by grind);have a4:=Rat.mul_nonneg (show 0<=1 - g by grind) (show 0<=hi - x by grind);constructor<;>grind
theorem has_box {vs:List P2}{p:P2}(h:0<=hasI vs p):(bxL vs).1<=p.1/\(bxL vs).2<=p.2/\p.1<=(bxH vs).1/\p.2<=(bxH vs).2:=by
 by_cases hs:∃k∈List.range vs.length,hasS (cv vs k) (cv vs (k+1)) p=true
 ·obtain⟨k,hk,h1⟩:=hs;have h0:0<vs.length:=by have:=List.mem_range.1 hk;omega
  obtain⟨t,t0,t1,rfl⟩:=hasS_iff.1 h1;obtain⟨a1,a2,a3,a4⟩:=box_bd (cv_mem h0 k);obtain⟨b1,b2,b3,b4⟩:=box_bd (cv_mem h0 (k+1));have q1:=pt_btw t0 t1 ⟨a1,a3⟩ ⟨b1,b3⟩;have q2:=pt_btw t0 t1 ⟨a2,a4⟩ ⟨b2,b4⟩;exact⟨q1.1,q2.1,q1.2,q2.2⟩
 ·have h1:hasI vs p=1:=by
   unfold hasI at h ⊢;rw [if_neg hs] at h ⊢;rcases whr_one vs p (List.range vs.length)with e|e
   ·exact e
   ·rw [e] at h;exact absurd h (by decide)
  obtain⟨u,hu,v,hv,e1,e2⟩:=in_dir h1 (1,0) (by show(0:Rat)<1*1+0*0;grind);obtain⟨u',hu',v',hv',e1',e2'⟩:=in_dir h1 (0,1) (by show(0:Rat)<0*0+1*1;grind);obtain⟨a1,-,-,-⟩:=box_bd hu;obtain⟨-,-,b3,-⟩:=box_bd hv;obtain⟨-,c2,-,-⟩:=box_bd hu';obtain⟨-,-,-,d4⟩:=box_bd hv';unfold ln at e1 e2 e1' e2';simp only at e1 e2 e1' e2';exact⟨by grind,by grind,by grind,by grind⟩
section
variable {vs:List P2}{p:P2}(hon:∀k,k<vs.length->¬hasS (cv vs k) (cv vs (k+1)) p=true)
include hon
theorem par_any {m:P2}(hm:¬(m.1=0/\m.2=0)):pzT (fun k=>rgN (0,1) (cv vs k) (cv vs (k+1)) p) vs.length=pzT (fun k=>rgN m (cv vs k) (cv vs (k+1)) p) vs.length:=by
 have tri:m.1=0∨(m.1<0∨0<m.1):=by grind
 rcases tri with h0|h0|h0
 ·have h2:m.2<0∨0<m.2:=by
   have:m.2=0∨(m.2<0∨0<m.2):=by grind
   exact this.resolve_left fun e=>hm ⟨h0,e⟩
  have a1:=par_dir hon (m:=(1,0)) (n:=(0,1)) (by show(0:Rat)<1*1 - 0*0;grind);rcases h2 with h2|h2
  ·have a2:=par_dir hon (m:=m) (n:=(1,0)) (by show 0<m.1*0 - m.2*1;grind);exact a1.trans a2
  ·have a2:=par_dir hon (m:=(1,0)) (n:=m) (by show 0<1*m.2 - 0*m.1;grind);exact a1.trans a2.symm
 ·exact(par_dir hon (m:=(0,1)) (n:=m) (by show 0<0*m.2 - 1*m.1;grind)).symm
 ·exact par_dir hon (m:=m) (n:=(0,1)) (by show 0<m.1*1 - m.2*0;grind)
theorem hasI_par:hasI vs p= -pzT (fun k=>rgN (0,1) (cv vs k) (cv vs (k+1)) p) vs.length:=by
 unfold hasI;rw [if_neg (fun ⟨k,hk,h⟩=>hon k (List.mem_range.1 hk) h),whr_pz];simp only [rgt_0]
end
theorem sdI_opp {a b x y:P2}(h:(sdD a b x<0/\0<sdD a b y)∨(0<sdD a b x/\sdD a b y<0)):prt a b x y=true:=by
 unfold prt;refine dT ?_;rcases h with⟨h1,h2⟩|⟨h1,h2⟩
 ·have e1:=sdI_neg.2 h1;have e2:=sdI_pos.2 h2;rcases (show sdI a b x= -1∨sdI a b x=0∨sdI a b x=1 from cmpI_abs _ _)with e|e|e<;>rcases (show sdI a b y= -1∨sdI a b y=0∨sdI a b y=1 from cmpI_abs _ _)with f|f|f<;>rw [e,f]<;>first|decide|omega
 ·have e1:=sdI_pos.2 h1;have e2:=sdI_neg.2 h2;rcases (show sdI a b x= -1∨sdI a b x=0∨sdI a b x=1 from cmpI_abs _ _)with e|e|e<;>rcases (show sdI a b y= -1∨sdI a b y=0∨sdI a b y=1 from cmpI_abs _ _)with f|f|f<;>rw [e,f]<;>first|decide|omega
theorem sdI_weak {a b x y:P2}(h:(¬0<sdD a b x/\0<sdD a b y)∨(0<sdD a b x/\¬0<sdD a b y)):prt a b x y=true:=by
 unfold prt;refine dT ?_;rw [<-sdI_pos,<-sdI_pos] at h;rcases (show sdI a b x= -1∨sdI a b x=0∨sdI a b x=1 from cmpI_abs _ _)with e|e|e<;>rcases (show sdI a b y= -1∨sdI a b y=0∨sdI a b y=1 from cmpI_abs _ _)with f|f|f<;>rw [e,f] at h ⊢<;>first|decide|omega
theorem side_same {a b x y:P2}(hx:¬hasS a b x=true)(hy:¬hasS a b y=true)(hm:¬mts x y a b=true):rgN (-(y.2 - x.2),y.1 - x.1) a b x=rgN (-(y.2 - x.2),y.1 - x.1) a b y:=by
 have lx:∀v:P2,ln (-(y.2 - x.2),y.1 - x.1) x v=sdD x y v:=fun v=>by unfold ln sdD;grind
 have ly:∀v:P2,ln (-(y.2 - x.2),y.1 - x.1) y v=sdD x y v:=fun v=>by unfold ln sdD;grind
 have sx:=fun h0=>mt (seg_of (m:=(-(y.2 - x.2),y.1 - x.1)) (a:=a) (b:=b) (p:=x) h0) hx
 have sy:=fun h0=>mt (seg_of (m:=(-(y.2 - x.2),y.1 - x.1)) (a:=a) (b:=b) (p:=y) h0) hy
 simp only [lx] at sx;simp only [ly] at sy;unfold rgN;simp only [lx,ly];have trx:sdD a b x=0∨(sdD a b x<0∨0<sdD a b x):=by grind
 have try_:sdD a b y=0∨(sdD a b y<0∨0<sdD a b y):=by grind
 by_cases hw:(¬0<sdD x y a/\0<sdD x y b)∨(0<sdD x y a/\¬0<sdD x y b)
 ·have tx:=trx.resolve_left fun h0=>sx h0 hw
  have ty:=try_.resolve_left fun h0=>sy h0 hw
  have no:¬((sdD a b x<0/\0<sdD a b y)∨(0<sdD a b x/\sdD a b y<0)):=fun ho=>
   hm (mts_iff.2 (common_symm (cross_common (sdI_opp ho) (sdI_weak hw) (by rcases ho with⟨h1,h2⟩|⟨h1,h2⟩<;>grind))))
  refine decide_eq_decide.2 ?_
  have e1:0<sdD a b x↔0<sdD a b y:=by
   constructor<;>intro h
   ·exact ty.resolve_left fun h2=>no (.inr ⟨h,h2⟩)
   ·exact tx.resolve_left fun h2=>no (.inl ⟨h2,h⟩)
  have e2:sdD a b x<0↔sdD a b y<0:=by
   constructor<;>intro h
   ·exact ty.resolve_right fun h2=>no (.inl ⟨h,h2⟩)
   ·exact tx.resolve_right fun h2=>no (.inr ⟨h2,h⟩)
  rw [e1,e2]
 ·refine decide_eq_decide.2 ?_;constructor<;>intro h<;>exact absurd (by rcases h with⟨h1,h2,-⟩|⟨h1,h2,-⟩;exact .inl ⟨h1,h2⟩;exact .inr ⟨h1,h2⟩) hw
theorem seg_meets {vs:List P2}{x y:P2}(h:hasI vs x*hasI vs y<0):∃k,k<vs.length/\mts x y (cv vs k) (cv vs (k+1))=true:=by
 refine Classical.byContradiction fun hn=>?_
 have hm:∀k,k<vs.length->¬mts x y (cv vs k) (cv vs (k+1))=true:=fun k hk h2=>hn ⟨k,hk,h2⟩
 have hx:∀k,k<vs.length->¬hasS (cv vs k) (cv vs (k+1)) x=true:=fun k hk h2=>by
  have:hasI vs x=0:=if_pos ⟨k,List.mem_range.2 hk,h2⟩;rw [this,Int.zero_mul] at h;omega
 have hy:∀k,k<vs.length->¬hasS (cv vs k) (cv vs (k+1)) y=true:=fun k hk h2=>by
  have:hasI vs y=0:=if_pos ⟨k,List.mem_range.2 hk,h2⟩;rw [this,Int.mul_zero] at h;omega
 by_cases e:x=y
 ·subst e;rcases Int.le_total 0 (hasI vs x)with q|q
  ·have:=Int.mul_nonneg q q;omega
  ·have:=Int.mul_nonneg (show 0<= -hasI vs x by omega) (show 0<= -hasI vs x by omega);rw [Int.neg_mul_neg] at this;omega
 have D:¬((-(y.2 - x.2),y.1 - x.1):P2).1=0∨¬((-(y.2 - x.2),y.1 - x.1):P2).2=0:=by
  refine Classical.byContradiction fun h2=>?_
  rw [not_or,Classical.not_not,Classical.not_not] at h2;obtain⟨h3,h4⟩:=h2;simp only at h3 h4;exact e (Prod.ext (by grind) (by grind))
 have hd2:¬(((-(y.2 - x.2),y.1 - x.1):P2).1=0/\((-(y.2 - x.2),y.1 - x.1):P2).2=0):=fun ⟨q1,q2⟩=>D.elim (fun q=>q q1) fun q=>q q2
 have pe:∀n,n<=vs.length->pzT (fun k=>rgN (-(y.2 - x.2),y.1 - x.1) (cv vs k) (cv vs (k+1)) x) n=pzT (fun k=>rgN (-(y.2 - x.2),y.1 - x.1) (cv vs k) (cv vs (k+1)) y) n:=by
  intro n
  induction n with
  |zero=>intro _;rfl
  |succ n ih=>
   intro hn;show pzT _ n*sgb (rgN _ _ _ x)=pzT _ n*sgb (rgN _ _ _ y);rw [ih (by omega),side_same (hx n (by omega)) (hy n (by omega)) (hm n (by omega))]
 rw [hasI_par hx,hasI_par hy,par_any hx hd2,par_any hy hd2,pe _ (Nat.le_refl _)] at h;rcases pzT_one (fun k=>rgN (-(y.2 - x.2),y.1 - x.1) (cv vs k) (cv vs (k+1)) y) vs.length with q|q<;>rw [q] at h<;>omega
theorem has_corner {vs:List P2}{k:Nat}(hk:k<vs.length):hasI vs (cv vs k)=0:=
 if_pos ⟨k,List.mem_range.2 hk,hasS_iff.2 ⟨0,Rat.le_refl,by decide,Prod.ext (by show _=_+0*_;grind) (by show _=_+0*_;grind)⟩⟩
theorem has_mid {vs:List P2}{k:Nat}(hk:k<vs.length):hasI vs (mid2 (cv vs k) (cv vs (k+1)))=0:=by
 refine if_pos ⟨k,List.mem_range.2 hk,hasS_iff.2 ⟨1 / 2,by decide+kernel,by decide+kernel,Prod.ext ?_ ?_⟩⟩
 ·show midQ _ _=_+1 / 2*_;unfold midQ;rw [half_two']
  grind
 ·show midQ _ _=_+1 / 2*_;unfold midQ;rw [half_two']
  grind
end Go.Proofs.YteacdbgalloaiaaGreat
