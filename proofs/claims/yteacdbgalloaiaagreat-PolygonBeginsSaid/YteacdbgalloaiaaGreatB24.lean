/- Contracts of the packages integer, rat, plane, polygon and their references. -/
import Derived.Test.YteacdbgalloaiaaGreatB23
set_option linter.unusedVariables false
set_option maxRecDepth 100000
set_option maxHeartbeats 6400000
namespace Go.Proofs.YteacdbgalloaiaaGreat
open Go.RowKit
open Go
theorem quot_bd {a b:Int}(hb:1<b)(ha: -9223372036854775808<=a)(ha2:a<=9223372036854775807): -9223372036854775808<=Int.tdiv a b/\Int.tdiv a b<=9223372036854775807:=by
 have h1:(Int.tdiv a b).natAbs<=a.natAbs / 2:=by
  rw [Int.natAbs_tdiv];exact Nat.div_le_div_left (by omega) (by omega)
 omega
section
variable {ρ:Operand->Value}{o:Oper}{w W:World}{x y:Operand}{va vb:Value}{g n c j N:Nat}{vs us:List P2}
theorem run_quot {a b:Int}(ho:o.op= .binOp .quo 3 x y 3)(hx:ρ x= .int .i64 a)(hy:ρ y= .int .i64 b)(hb:1<b)(hb2:b<1000)(ha: -9223372036854775808<=a)(ha2:a<=9223372036854775807):(execOp ρ o).run Tryz.prog W= .ok (.value (.int .i64 (Int.tdiv a b))) W:=by
 have hqb:=quot_bd hb ha ha2;have hb0:¬b=0:=by omega
 have hb1:¬b= -1:=by omega
 generalize hq:Int.tdiv a b=q at hqb ⊢;have hw:=wrap_id hqb.1 hqb.2;clear hb hb2 hqb ha ha2;obtain⟨d,op,ty,ps,af,gd⟩:=o;subst ho
 go_simp
theorem VRg_row {v:Value}(hx:us≠ [])(h:VRg 32 8 (EV N) none g c us v w):v= .slice (some ⟨g,0,none⟩) us.length c/\0<c/\ROWV g c N us w:=by
 obtain⟨h3,h4,(⟨h5,-⟩|⟨h0,rfl,h6⟩)⟩:=h
 ·exact absurd (List.eq_nil_of_length_eq_zero (by omega)) hx
 ·exact⟨rfl,h0,h3,h4,h6⟩
theorem ROWV.rg (h:ROWV g c N us w)(h0:0<c){v:Value}(hv:v= .slice (some ⟨g,0,none⟩) us.length c):VRg 32 8 (EV N) none g c us v w:=⟨h.1,h.2.1,.inr ⟨h0,hv,h.2.2⟩⟩
theorem set_step {n0 k:Nat}{a:P2}{u:Value}(ho:o.op= .store 32 x y)(hx:ρ x=va)(h1:VEq (.pointer (some ⟨g,8*k,none⟩)) va W)(hy:ρ y=vb)(h2:Vv N a.1 a.2 vb W)(hR:VRg 32 8 (EV N) none g c us u W)(hk:k<us.length)(hn:n0<=g):∃w',(execOp ρ o).run Tryz.prog W= .ok .skip w'/\Below n0 W w'/\RT 32 W w'/\VRg 32 8 (EV N) none g c (us.set k a) u w':=by
 obtain⟨hu,hc,hrow⟩:=VRg_row (by intro e;rw [e] at hk;simp at hk) hR;obtain⟨z,rfl,hzs,hzn,hz1⟩:=AggV_Vv _ _ _ _ _ h2;obtain rfl:va=_:=h1;obtain⟨cs,q1,q2,q3⟩:=hrow.set hk h2;obtain⟨cs2,r1,r2,r3,-⟩:=hrow.2.2;rw [q1] at r1;cases r1
 refine⟨_,run_storeV ho hx hy q1 (by omega) (by rw [hzs];exact size_Vec) hz1,below_setRow (Below.refl _ _) hn,⟨8*c,by omega,RI_setRow q1 r3 ⟨⟨_,List.mem_cons_self,rfl,r2.symm,.inl rfl⟩,fun e he q1 q2=>by
  have:=List.mem_singleton.1 he;subst this;simp only at q2
  omega⟩⟩,q3.rg hc (by rw [List.length_set];exact hu)⟩
theorem ld_step {k:Nat}{a:P2}{u:Value}(ho:o.op= .load 32 x)(hx:ρ x=va)(h1:VEq (.pointer (some ⟨g,8*k,none⟩)) va W)(hR:VRg 32 8 (EV N) none g c us u W)(hk:us[k]? =some a):∃v,(execOp ρ o).run Tryz.prog W= .ok (.value v) W/\Vv N a.1 a.2 v W:=by
 obtain rfl:va=_:=h1
 have hkl:k<us.length:=by
  rcases Nat.lt_or_ge k us.length with h'|h'
  ·exact h'
  ·rw [List.getElem?_eq_none h'] at hk;cases hk
 obtain⟨hu,hc,hl,-,cs,q1,q2,q3,_,q4,q5⟩:=VRg_row (by intro e;rw [e] at hkl;simp at hkl) hR;cases q4;refine⟨_,?_,q5 k a hk⟩;unfold execOp;simp only [ho,hx,Instr.loadAt,Instr.sureAddr,Sem.run_bind,Sem.run_pure,Result.andThen_ok,run_loadVar_part W g (8*k) 8 32 32 cs (0,0) _ q1 (by omega) Tryz.underlying32 rfl size_Vec]
end
theorem spoil_0 {vs:List P2}{how z:Int}(h:arn how 7=0):spoil vs how z=vs.take (spK vs z)++vs.drop (spK vs z+1):=if_pos h
theorem spoil_1 {vs:List P2}{how z:Int}(h:arn how 7=1):spoil vs how z=vs.set (spK vs z) (Rat.divInt (arn z 17 - 8) 1,Rat.divInt (arn (Int.tdiv z 17) 17 - 8) 1):=(if_neg (by omega)).trans (if_pos h)
theorem spoil_2 {vs:List P2}{how z:Int}(h:arn how 7=2):spoil vs how z=vs.set (spK vs z) (cv vs (spK vs (Int.tdiv z 16))):=(if_neg (by omega)).trans ((if_neg (by omega)).trans (if_pos h))
theorem spoil_3 {vs:List P2}{how z:Int}(h:arn how 7=3):spoil vs how z=vs.set (spK vs z) (mid2 (cv vs (spK vs z)) (cv vs (spK vs z+1))):=(if_neg (by omega)).trans ((if_neg (by omega)).trans ((if_neg (by omega)).trans (if_pos h)))
theorem spoil_4 {vs:List P2}{how z:Int}(h:arn how 7=4):spoil vs how z=vs.reverse:=(if_neg (by omega)).trans ((if_neg (by omega)).trans ((if_neg (by omega)).trans ((if_neg (by omega)).trans (if_pos h))))
theorem spoil_6 {vs:List P2}{how z:Int}(h0:¬arn how 7=0)(h1:¬arn how 7=1)(h2:¬arn how 7=2)(h3:¬arn how 7=3)(h4:¬arn how 7=4):spoil vs how z=vs.take (spK vs z)++ [mid2 (cv vs (spK vs z)) (cv vs (spK vs z+1))]++vs.drop (spK vs z):=(if_neg h0).trans ((if_neg h1).trans ((if_neg h2).trans ((if_neg h3).trans (if_neg h4))))
def rvs (vs:List P2)(j:Nat):List P2:=vs.reverse.take j++vs.drop j
theorem rvs_len (vs:List P2)(j:Nat):(rvs vs j).length=vs.length:=by
 unfold rvs;rw [List.length_append,List.length_take,List.length_drop,List.length_reverse];omega
theorem rvs_succ (vs:List P2){j:Nat}(hj:j<vs.length):(rvs vs j).set j (cv vs (vs.length - 1 - j))=rvs vs (j+1):=by
 have hl:(vs.reverse.take j).length=j:=by rw [List.length_take,List.length_reverse];omega
 have h1:vs.reverse[j]? =some (cv vs (vs.length - 1 - j)):=by
  rw [List.getElem?_reverse hj];exact cv_gets (by omega)
 have h2:vs.drop j=cv vs j::vs.drop (j+1):=by
  rw [List.drop_eq_getElem_cons hj]
  congr 1
  have:=cv_gets hj;rw [List.getElem?_eq_getElem hj] at this;exact Option.some.inj this
 unfold rvs;rw [List.set_append,if_neg (by omega),hl,Nat.sub_self,h2,List.set_cons_zero,List.take_add_one,h1];simp
theorem rvs_all (vs:List P2):rvs vs vs.length=vs.reverse:=by
 unfold rvs;rw [List.drop_length,List.append_nil,List.take_of_length_le (by simp)]
theorem cR6Spoilt {w:World}{N:Nat}{vs:List P2}{how z:Int}{v0 v1 v2:Value}(h0:VAt w (VSv N vs) v0 w)(h1:Vi how v1 w)(h2:Vi z v2 w)(hlen:2<=vs.length)(hlen2:vs.length<=1000)(hN3:3<=N)(hN:N<=900)(hw0: -9223372036854775808<=how)(hw1:how<=9223372036854775807)(hz0: -9223372036854775808<=z)(hz1:z<=9223372036854775807)(h5:¬arn how 7=5):Calls Tryz.prog 14 #[v0,v1,v2] w (RV (VSv (4*N+2) (spoil vs how z)) w):=by
 go_enter Tryz.func14,Tryz.ntmps14
 refine Sg 131 [(0,VAt w (VSv N vs)),(1,Vi how),(2,Vi z)] (Lq.2 ⟨⟨_,rfl,h0⟩,(Lq.2 ⟨⟨_,rfl,h1⟩,(Lq.2 ⟨⟨_,rfl,h2⟩,L0⟩)⟩)⟩) fun a0 st0=>Wn ?_
 refine rH [(32,8,0),(30,4,0)] [VEq (.slice none 0 0)] [] [(0,VAt w (VSv N vs)),(1,Vi how),(2,Vi z),(6,VEq (.slice none 0 0))] st0 ⟨ks,trivial⟩ ?_;intro a1 w1 st1;replace st1:St w.heap.size w 131 [] [(0,VAt w (VSv N vs)),(1,Vi how),(2,Vi z)] a1 w1:=st1.cut;have hne:vs≠ []:=by intro e;rw [e] at hlen;simp at hlen
 have hPx:∀e∈([⟨12,some 2,none,VRy 32 8 (EV (4*N+2)) w.heap.size (vs)⟩,⟨7,some 3,none,VRy 32 8 (EV (4*N+2)) w.heap.size (vs)⟩]:List En),Stab [] e.P:=(Lq.2 ⟨(Stab_VRy (fun x=>Stab_Vv _ _ _) (by decide)),(Lq.2 ⟨(Stab_VRy (fun x=>Stab_Vv _ _ _) (by decide)),L0⟩)⟩);refine Wn ?_
 refine rgX (Vl:=[VE0,VAt w (VSv N vs),VT,VT]) (SL':=[(0,VAt w (VSv N vs)),(1,Vi how),(2,Vi z)]) 32 [⟨12,some 2,none,VRy 32 8 (EV (4*N+2)) w.heap.size vs⟩,⟨7,some 3,none,VRy 32 8 (EV (4*N+2)) w.heap.size vs⟩] st1 ⟨(KStep.x (km fun _ ac Y h D=>bslice_0 rfl) hPx (by kernel_rfl)),(KStep.x ks hPx (by kernel_rfl)),(kx_app (k:=8) (E:=EV (4*N+2)) (xs:=[]) (zs:=vs) (X:=VAt w (VSv N vs)) rfl (.inr ⟨rfl,.inl ⟨by kernel_rfl,rfl,rfl⟩⟩) (.inr (.inl ⟨by kernel_rfl,rfl,rfl⟩)) (VSv_lesc (by omega)) (Lq.2 ⟨(fun h=>⟨rfl,rfl⟩),(Lq.2 ⟨(fun h=>absurd h (by simp)),L0⟩)⟩) (by kernel_rfl) rfl (fun x BT=>Stab_Vv _ _ _) (by simp;omega) trivial),(kx_asg rfl ⟨_,.head _,rfl,rfl,by kernel_rfl⟩ (Lq.2 ⟨(fun h=>absurd h (by simp)),(Lq.2 ⟨(fun h=>⟨rfl,rfl⟩),L0⟩)⟩) (by kernel_rfl) rfl trivial),trivial⟩ ?_ hPx (Lq.2 ⟨(fun h=>absurd h (by simp)),(Lq.2 ⟨(fun h=>absurd h (by simp)),L0⟩)⟩) (by kernel_rfl);clear hPx;intro a2 w2 st2 hx2;obtain⟨v7,e7,h7⟩:=hx2 _ (.tail _ (.head _)) rfl;clear hx2;obtain⟨g,c,hg,rfl,hrow⟩:=VRy_row hne h7;have hc0:0<c:=by have:=hrow.1;omega
 have hlc:vs.length<=c:=hrow.1;replace st2:=st2.reT 7 (VRg 32 8 (EV (4*N+2)) none g c vs) e7 (hrow.rg hc0 rfl);clear e7 h7 hrow;replace st2:St w.heap.size w 131 [] [(0,VAt w (VSv N vs)),(1,Vi how),(2,Vi z),(7,VRg 32 8 (EV (4*N+2)) none g c vs)] a2 w2:=st2.cut;refine Wn ?_
 refine rH [] [VRg 32 8 (EV (4*N+2)) none g c vs,Vi (vs.length:Int),Vb false] [] [(0,VAt w (VSv N vs)),(1,Vi how),(2,Vi z),(7,VRg 32 8 (EV (4*N+2)) none g c vs),(15,Vb false)] st2 ⟨ks,(kr1 13 fun _ _ _ _ _ x0 X0=>len_Rg rfl rfl x0 X0),(kr1 14 fun _ _ _ _ _ x0 X0=>⟨_,run_eqi rfl (x0.trans X0) rfl,congrArg Value.bool (beq_eq_false_iff_ne.2 (by omega))⟩),trivial⟩ fun a3 w3 st3=>Wn ?_
 refine cF st3 ?_;refine Wn ?_
 refine rH [] [Vi z,VRg 32 8 (EV (4*N+2)) none g c vs,Vi (vs.length:Int),Vi (arn z (vs.length:Int)),Vi (arn z (vs.length:Int))] [] [(0,VAt w (VSv N vs)),(1,Vi how),(2,Vi z),(7,VRg 32 8 (EV (4*N+2)) none g c vs),(15,Vb false),(8,Vi (arn z (vs.length:Int)))] st3 ⟨ks,ks,(kr1 23 fun _ _ _ _ _ x0 X0=>len_Rg rfl rfl x0 X0),(by refine kc fun _ ac Y h D=>?_;obtain⟨v0,x0,X0⟩:=h.dp D 22;obtain⟨v1,x1,X1⟩:=h.dp D 24;obtain rfl:v1=Value.int .i64 (vs.length:Int):=X1;exact⟨#[v0,.int .i64 (vs.length:Int)],by simp [x0,x1],cAround X0⟩),ks,trivial⟩ ?_;intro a4 w4 st4;have hk0:((spK vs z:Nat):Int)=arn z (vs.length:Int):=Int.toNat_of_nonneg (arn_lo _ _ (by omega));have hk1:=arn_hi z (vs.length:Int) (by omega);obtain⟨k,hkd⟩:∃k,k=spK vs z:=⟨_,rfl⟩;rw [<-hkd] at hk0;have hkl:k<vs.length:=by omega
 replace st4:St w.heap.size w 131 [] [(0,VAt w (VSv N vs)),(1,Vi how),(2,Vi z),(7,VRg 32 8 (EV (4*N+2)) none g c vs),(15,Vb false),(8,Vi (arn z (vs.length:Int)))] a4 w4:=st4;replace st4:St w.heap.size w 131 [] [(0,VAt w (VSv N vs)),(1,Vi how),(2,Vi z),(7,VRg 32 8 (EV (4*N+2)) none g c vs),(15,Vb false),(8,Vi k)] a4 w4:=by rw [hk0];exact st4
 clear hk0 hk1;refine Wn ?_
 refine rH [] [Vi how,Vi (arn how 7)] [] [(0,VAt w (VSv N vs)),(1,Vi how),(2,Vi z),(7,VRg 32 8 (EV (4*N+2)) none g c vs),(15,Vb false),(8,Vi k),(27,Vi (arn how 7))] st4 ⟨ks,(by refine kc fun _ ac Y h D=>?_;obtain⟨v0,x0,X0⟩:=h.dp D 26;exact⟨#[v0,.int .i64 7],by simp [x0,eval_const],cAround X0⟩),trivial⟩ ?_;intro a5 w5 st5;have ha0:=arn_lo how 7 (by omega);have ha1:=arn_hi how 7 (by omega);by_cases h0:arn how 7=0
 ·
  refine Wn ?_
  refine rH [] [Vb true,Vb true] [] [(0,VAt w (VSv N vs)),(1,Vi how),(2,Vi z),(7,VRg 32 8 (EV (4*N+2)) none g c vs),(15,Vb false),(8,Vi k),(27,Vi (arn how 7)),(47,Vb true)] st5 ⟨(by refine kr fun _ ac Y h D=>?_;obtain⟨v0,x0,X0⟩:=h.ot 27;have hV0':v0= .int .i64 (arn how 7):=X0;exact⟨_,run_eqi rfl (x0.trans hV0') rfl,congrArg Value.bool (beq_iff_eq.2 h0)⟩),ks,trivial⟩ ?_;intro a6 w6 st6;refine Wn ?_
  refine cT st6 ?_;replace st6:St w.heap.size w 131 [] [(0,VAt w (VSv N vs)),(1,Vi how),(2,Vi z),(7,VRg 32 8 (EV (4*N+2)) none g c vs),(15,Vb false),(8,Vi k),(27,Vi (arn how 7)),(47,Vb true)] a6 w6:=st6;obtain⟨vR,heR,hlR,hcmR,(⟨h00,-⟩|⟨h00,hvR,hrow⟩)⟩:=st6.sl (7,VRg 32 8 (EV (4*N+2)) none g c vs) (lS_mem rfl)
  ·omega
  replace st6:=st6.reT 7 (VEq (.slice (some ⟨g,0,none⟩) vs.length c)) heR hvR;replace st6:St w.heap.size w 131 [] [(0,VAt w (VSv N vs)),(1,Vi how),(2,Vi z),(7,VEq (.slice (some ⟨g,0,none⟩) vs.length c)),(15,Vb false),(8,Vi k),(27,Vi (arn how 7)),(47,Vb true)] a6 w6:=st6.cut;clear heR hvR hlR;refine Wn ?_
  refine rgR (BT:=[]) (Vl:=[VEq (.slice (some ⟨g,0,none⟩) vs.length c),Vi k,VEq (.slice (some ⟨g,0,none⟩) (vs.take k).length c),VEq (.slice (some ⟨g,0,none⟩) vs.length c),Vi k,Vi ((k+1:Nat):Int),VEq (drS g vs.length c (k+1)),VEq (.slice (some ⟨g,0,none⟩) ((vs.take k).length+(vs.drop (k+1)).length) c),VEq (.slice (some ⟨g,0,none⟩) ((vs.take k).length+(vs.drop (k+1)).length) c)]) (B:=[]) (SL':=[(0,VAt w (VSv N vs)),(1,Vi how),(2,Vi z),(7,VEq (.slice (some ⟨g,0,none⟩) vs.length c)),(15,Vb false),(8,Vi k),(27,Vi (arn how 7)),(47,Vb true),(6,VEq (.slice (some ⟨g,0,none⟩) ((vs.take k).length+(vs.drop (k+1)).length) c))]) ⟨g,7,32,8*c,VEl 8 (EV (4*N+2)) (vs.take k++vs.drop (k+1)),VEl 8 (EV (4*N+2)) vs⟩ st6 hrow ⟨fun _=>ks,fun _=>ks,fun _=>?s2,fun _=>ks,fun _=>ks,fun _=>(kr1 53 fun _ _ _ _ v0 x0 X0=>⟨_,run_addi rfl (x0.trans (show v0= .int .i64 k from X0)) rfl wO,congrArg (Value.int .i64) (by omega)⟩),fun _=>(kr2 52 54 fun _ _ _ _ _ x0 X0 _ x1 X1=>drop_EqS rfl x0 X0 x1 X1 (by omega) hlc),fun hne=>absurd rfl hne,fun _=>ks,trivial⟩ ?r7 ?_ (by kernel_rfl) (Nat.le_of_ble_eq_true rfl) (hm0:=(by show 8*c≠0;omega))
  case s2=>
   refine kr fun _ ac Y h D=>?_
   obtain⟨v0,x0,X0⟩:=h.dp D 49;obtain⟨v1,x1,X1⟩:=h.dp D 50;rw [show(vs.take k).length=k by rw [List.length_take];omega];exact take_EqS rfl x0 X0 x1 X1 (by omega) hlc hc0
  case r7=>intro o ho;obtain rfl:=Option.some.inj ho.symm;exact k_appM (k:=8) (E:=EV (4*N+2)) (us:=vs) (xs:=vs.take k) (zs:=vs.drop (k+1)) rfl ⟨_,(List.take_append_drop k vs).symm⟩ rfl (.inl ⟨by kernel_rfl,rfl,rfl⟩) (.inl ⟨by kernel_rfl,rfl,rfl⟩) (fun _ _ _ h1 h2=>drS_sc h1 h2 (by omega) hlc) rfl (by rw [List.length_take,List.length_drop];omega) (by omega) hg (by kernel_rfl) (by kernel_rfl) (fun x BT=>Stab_Vv _ _ _) (by simp) trivial
  clear hrow;intro a7 w7 st7 hrow;refine Wn ?_
  exact wp_ret (rS 6 (VEq (.slice (some ⟨g,0,none⟩) ((vs.take k).length+(vs.drop (k+1)).length) c)) st7 fun vr r4=>(by rw [spoil_0 h0,<-hkd];obtain rfl:vr=_:=r4;rw [<-List.length_append];exact ROWV.sv ⟨by rw [List.length_append,List.length_take,List.length_drop];omega,hcmR,hrow⟩))
 ·
  refine Wn ?_
  refine rH [] [Vb false,Vb false] [] [(0,VAt w (VSv N vs)),(1,Vi how),(2,Vi z),(7,VRg 32 8 (EV (4*N+2)) none g c vs),(15,Vb false),(8,Vi k),(27,Vi (arn how 7)),(47,Vb false)] st5 ⟨(by refine kr fun _ ac Y h D=>?_;obtain⟨v0,x0,X0⟩:=h.ot 27;have hV0':v0= .int .i64 (arn how 7):=X0;exact⟨_,run_eqi rfl (x0.trans hV0') rfl,congrArg Value.bool (beq_eq_false_iff_ne.2 h0)⟩),ks,trivial⟩ ?_;intro a6 w6 st6;refine Wn ?_
  refine cF st6 ?_;by_cases h1:arn how 7=1
  ·
   refine Wn ?_
   refine rH [] [Vb true,Vb true] [] [(0,VAt w (VSv N vs)),(1,Vi how),(2,Vi z),(7,VRg 32 8 (EV (4*N+2)) none g c vs),(15,Vb false),(8,Vi k),(27,Vi (arn how 7)),(47,Vb false),(57,Vb true)] st6 ⟨(by refine kr fun _ ac Y h D=>?_;obtain⟨v0,x0,X0⟩:=h.ot 27;have hV0':v0= .int .i64 (arn how 7):=X0;exact⟨_,run_eqi rfl (x0.trans hV0') rfl,congrArg Value.bool (beq_iff_eq.2 h1)⟩),ks,trivial⟩ ?_;intro a7 w7 st7;refine Wn ?_
   refine cT st7 ?_;have hq:=quot_bd (a:=z) (b:=17) (by omega) hz0 hz1;have b0:=arn_lo z 17 (by omega);have b1:=arn_hi z 17 (by omega);have b2:=arn_lo (Int.tdiv z 17) 17 (by omega);have b3:=arn_hi (Int.tdiv z 17) 17 (by omega);replace st7:St w.heap.size w 131 [] [(0,VAt w (VSv N vs)),(1,Vi how),(2,Vi z),(7,VRg 32 8 (EV (4*N+2)) none g c vs),(15,Vb false),(8,Vi k),(27,Vi (arn how 7)),(47,Vb false),(57,Vb true)] a7 w7:=st7;obtain⟨vR,heR,hvR⟩:=st7.sl (7,VRg 32 8 (EV (4*N+2)) none g c vs) (lS_mem rfl);obtain⟨rfl,-,hrow⟩:=VRg_row hne hvR;replace st7:=st7.reT 7 (VEq (.slice (some ⟨g,0,none⟩) vs.length c)) heR rfl;replace st7:St w.heap.size w 131 [] [(0,VAt w (VSv N vs)),(1,Vi how),(2,Vi z),(7,VEq (.slice (some ⟨g,0,none⟩) vs.length c)),(15,Vb false),(8,Vi k),(27,Vi (arn how 7)),(47,Vb false),(57,Vb true)] a7 w7:=st7.cut;have hPx:∀e∈([⟨7,none,some 11,VRg 32 8 (EV (4*N+2)) none g c vs⟩,⟨7,some 11,none,VRg 32 8 (EV (4*N+2)) none g c (vs.set k (Rat.divInt (arn z 17 - 8) 1,Rat.divInt (arn (Int.tdiv z 17) 17 - 8) 1))⟩]:List En),Stab [] e.P:=(Lq.2 ⟨(Stab_VRg (fun x=>Stab_Vv _ _ _) (by decide) (.inl (by simp))),(Lq.2 ⟨(Stab_VRg (fun x=>Stab_Vv _ _ _) (by decide) (.inl (by simp))),L0⟩)⟩);refine Wn ?_
   refine rgX (Vl:=[VEq (.slice (some ⟨g,0,none⟩) vs.length c),Vi k,Vi z,Vi (arn z 17),Vi (arn z 17 - 8),Vi z,Vi (Int.tdiv z 17),Vi (arn (Int.tdiv z 17) 17),Vi (arn (Int.tdiv z 17) 17 - 8),Vv 3 (Rat.divInt (arn z 17 - 8) 1) (Rat.divInt (arn (Int.tdiv z 17) 17 - 8) 1),VEq (.pointer (some ⟨g,8*k,none⟩)),VT]) (SL':=[(0,VAt w (VSv N vs))]) 32 [⟨7,none,some 11,VRg 32 8 (EV (4*N+2)) none g c vs⟩,⟨7,some 11,none,VRg 32 8 (EV (4*N+2)) none g c (vs.set k (Rat.divInt (arn z 17 - 8) 1,Rat.divInt (arn (Int.tdiv z 17) 17 - 8) 1))⟩] st7 ⟨(KStep.x ks hPx (by kernel_rfl)),(KStep.x ks hPx (by kernel_rfl)),(KStep.x ks hPx (by kernel_rfl)),(KStep.x (by refine kc fun _ ac Y h D=>?_;obtain⟨v0,x0,X0⟩:=h.dp D 61;exact⟨#[v0,.int .i64 17],by simp [x0,eval_const],cAround X0⟩) hPx (by kernel_rfl)),(KStep.x (kr1 62 fun _ _ _ _ v0 x0 X0=>⟨_,run_subi rfl (x0.trans (show v0= .int .i64 (arn z 17)from X0)) rfl wO,rfl⟩) hPx (by kernel_rfl)),(KStep.x ks hPx (by kernel_rfl)),(KStep.x (kr1 64 fun _ _ _ _ v0 x0 X0=>⟨_,run_quot rfl (x0.trans (show v0= .int .i64 z from X0)) rfl (by omega) (by omega) hz0 hz1,rfl⟩) hPx (by kernel_rfl)),(KStep.x (by refine kc fun _ ac Y h D=>?_;obtain⟨v0,x0,X0⟩:=h.dp D 65;exact⟨#[v0,.int .i64 17],by simp [x0,eval_const],cAround X0⟩) hPx (by kernel_rfl)),(KStep.x (kr1 66 fun _ _ _ _ v0 x0 X0=>⟨_,run_subi rfl (x0.trans (show v0= .int .i64 (arn (Int.tdiv z 17) 17)from X0)) rfl wO,rfl⟩) hPx (by kernel_rfl)),(KStep.x (kd2 fun _ _ _ _ _ X0 _ X1=>cR5Of X0 X1) hPx (by kernel_rfl)),(KStep.x (kr2 59 60 fun _ _ _ _ _ x0 X0 _ x1 X1=>index_EqS rfl x0 X0 x1 X1 (by omega)) hPx (by kernel_rfl)),(kx_set rfl ⟨_,.head _,rfl,rfl,by kernel_rfl⟩ (fun _ ac Y u h D hu=>by obtain⟨v0,x0,X0⟩:=h.dp D 69;obtain⟨v1,x1,X1⟩:=h.dp D 68;exact set_step (k:=k) (a:=(Rat.divInt (arn z 17 - 8) 1,Rat.divInt (arn (Int.tdiv z 17) 17 - 8) 1)) rfl x0 X0 x1 (Vv_le X1 (by omega)) hu hkl hg) (Lq.2 ⟨(fun h=>absurd h (by simp)),(Lq.2 ⟨(fun h=>⟨rfl,rfl⟩),L0⟩)⟩) (by kernel_rfl) rfl trivial),trivial⟩ ?_ hPx (Lq.2 ⟨(fun _=>⟨_,heR,hvR⟩),(Lq.2 ⟨(fun h=>absurd h (by simp)),L0⟩)⟩) (by kernel_rfl);clear hPx;intro a8 w8 st8 hx8;obtain⟨v7,e7,h7⟩:=hx8 _ (.tail _ (.head _)) rfl;clear hx8 heR hvR hrow;replace st8:=st8.reT 7 (VRg 32 8 (EV (4*N+2)) none g c (vs.set k (Rat.divInt (arn z 17 - 8) 1,Rat.divInt (arn (Int.tdiv z 17) 17 - 8) 1))) e7 h7;clear e7 h7;replace st8:St w.heap.size w 131 [] [(7,VRg 32 8 (EV (4*N+2)) none g c (vs.set k (Rat.divInt (arn z 17 - 8) 1,Rat.divInt (arn (Int.tdiv z 17) 17 - 8) 1))),(0,VAt w (VSv N vs))] a8 w8:=st8.cut;refine Wn ?_
   refine rH [] [VRg 32 8 (EV (4*N+2)) none g c (vs.set k (Rat.divInt (arn z 17 - 8) 1,Rat.divInt (arn (Int.tdiv z 17) 17 - 8) 1)),VRg 32 8 (EV (4*N+2)) none g c (vs.set k (Rat.divInt (arn z 17 - 8) 1,Rat.divInt (arn (Int.tdiv z 17) 17 - 8) 1))] [] [(7,VRg 32 8 (EV (4*N+2)) none g c (vs.set k (Rat.divInt (arn z 17 - 8) 1,Rat.divInt (arn (Int.tdiv z 17) 17 - 8) 1))),(0,VAt w (VSv N vs)),(6,VRg 32 8 (EV (4*N+2)) none g c (vs.set k (Rat.divInt (arn z 17 - 8) 1,Rat.divInt (arn (Int.tdiv z 17) 17 - 8) 1)))] st8 ⟨ks,ks,trivial⟩ fun a9 w9 st9=>Wn ?_
   exact wp_ret (rS 6 (VRg 32 8 (EV (4*N+2)) none g c (vs.set k (Rat.divInt (arn z 17 - 8) 1,Rat.divInt (arn (Int.tdiv z 17) 17 - 8) 1))) st9 fun vr r4=>(by rw [spoil_1 h1,<-hkd];exact VRg_sv r4 (fun e=>absurd e (by simp [List.set_eq_nil_iff,hne]))))
  ·
   refine Wn ?_
   refine rH [] [Vb false,Vb false] [] [(0,VAt w (VSv N vs)),(1,Vi how),(2,Vi z),(7,VRg 32 8 (EV (4*N+2)) none g c vs),(15,Vb false),(8,Vi k),(27,Vi (arn how 7)),(47,Vb false),(57,Vb false)] st6 ⟨(by refine kr fun _ ac Y h D=>?_;obtain⟨v0,x0,X0⟩:=h.ot 27;have hV0':v0= .int .i64 (arn how 7):=X0;exact⟨_,run_eqi rfl (x0.trans hV0') rfl,congrArg Value.bool (beq_eq_false_iff_ne.2 h1)⟩),ks,trivial⟩ ?_;intro a7 w7 st7;refine Wn ?_
   refine cF st7 ?_;by_cases h2:arn how 7=2
   ·
    refine Wn ?_
    refine rH [] [Vb true,Vb true] [] [(0,VAt w (VSv N vs)),(1,Vi how),(2,Vi z),(7,VRg 32 8 (EV (4*N+2)) none g c vs),(15,Vb false),(8,Vi k),(27,Vi (arn how 7)),(47,Vb false),(57,Vb false),(70,Vb true)] st7 ⟨(by refine kr fun _ ac Y h D=>?_;obtain⟨v0,x0,X0⟩:=h.ot 27;have hV0':v0= .int .i64 (arn how 7):=X0;exact⟨_,run_eqi rfl (x0.trans hV0') rfl,congrArg Value.bool (beq_iff_eq.2 h2)⟩),ks,trivial⟩ ?_;intro a8 w8 st8;refine Wn ?_
    refine cT st8 ?_;have hq:=quot_bd (a:=z) (b:=16) (by omega) hz0 hz1;have hj0:((spK vs (Int.tdiv z 16):Nat):Int)=arn (Int.tdiv z 16) (vs.length:Int):=Int.toNat_of_nonneg (arn_lo _ _ (by omega));have hj1:=arn_hi (Int.tdiv z 16) (vs.length:Int) (by omega);obtain⟨j,hjd⟩:∃j,j=spK vs (Int.tdiv z 16):=⟨_,rfl⟩;rw [<-hjd] at hj0;have hjl:j<vs.length:=by omega
    replace st8:St w.heap.size w 131 [] [(0,VAt w (VSv N vs)),(1,Vi how),(2,Vi z),(7,VRg 32 8 (EV (4*N+2)) none g c vs),(15,Vb false),(8,Vi k),(27,Vi (arn how 7)),(47,Vb false),(57,Vb false),(70,Vb true)] a8 w8:=st8;obtain⟨vR,heR,hvR⟩:=st8.sl (7,VRg 32 8 (EV (4*N+2)) none g c vs) (lS_mem rfl);obtain⟨rfl,-,hrow⟩:=VRg_row hne hvR;replace st8:=st8.reT 7 (VEq (.slice (some ⟨g,0,none⟩) vs.length c)) heR rfl;replace st8:St w.heap.size w 131 [] [(0,VAt w (VSv N vs)),(1,Vi how),(2,Vi z),(7,VEq (.slice (some ⟨g,0,none⟩) vs.length c)),(15,Vb false),(8,Vi k),(27,Vi (arn how 7)),(47,Vb false),(57,Vb false),(70,Vb true)] a8 w8:=st8.cut;have hPx:∀e∈([⟨7,none,some 11,VRg 32 8 (EV (4*N+2)) none g c vs⟩,⟨7,some 11,none,VRg 32 8 (EV (4*N+2)) none g c (vs.set k (cv vs j))⟩]:List En),Stab [] e.P:=(Lq.2 ⟨(Stab_VRg (fun x=>Stab_Vv _ _ _) (by decide) (.inl (by simp))),(Lq.2 ⟨(Stab_VRg (fun x=>Stab_Vv _ _ _) (by decide) (.inl (by simp))),L0⟩)⟩);refine Wn ?_
    refine rgX (Vl:=[VEq (.slice (some ⟨g,0,none⟩) vs.length c),Vi k,VEq (.slice (some ⟨g,0,none⟩) vs.length c),Vi z,Vi (Int.tdiv z 16),VEq (.slice (some ⟨g,0,none⟩) vs.length c),Vi (vs.length:Int),Vi j,VEq (.pointer (some ⟨g,8*j,none⟩)),Vv (4*N+2) (cv vs j).1 (cv vs j).2,VEq (.pointer (some ⟨g,8*k,none⟩)),VT]) (SL':=[(0,VAt w (VSv N vs))]) 32 [⟨7,none,some 11,VRg 32 8 (EV (4*N+2)) none g c vs⟩,⟨7,some 11,none,VRg 32 8 (EV (4*N+2)) none g c (vs.set k (cv vs j))⟩] st8 ⟨(KStep.x ks hPx (by kernel_rfl)),(KStep.x ks hPx (by kernel_rfl)),(KStep.x ks hPx (by kernel_rfl)),(KStep.x ks hPx (by kernel_rfl)),(KStep.x (kr1 75 fun _ _ _ _ v0 x0 X0=>⟨_,run_quot rfl (x0.trans (show v0= .int .i64 z from X0)) rfl (by omega) (by omega) hz0 hz1,rfl⟩) hPx (by kernel_rfl)),(KStep.x ks hPx (by kernel_rfl)),(KStep.x (kr1 77 fun _ _ _ _ _ x0 X0=>len_EqS rfl rfl x0 X0) hPx (by kernel_rfl)),(KStep.x (by refine kc fun _ ac Y h D=>?_;obtain⟨v0,x0,X0⟩:=h.dp D 76;obtain⟨v1,x1,X1⟩:=h.dp D 78;obtain rfl:v1=Value.int .i64 (vs.length:Int):=X1;rw [hj0];exact⟨#[v0,.int .i64 (vs.length:Int)],by simp [x0,x1],cAround X0⟩) hPx (by kernel_rfl)),(KStep.x (kr2 74 79 fun _ _ _ _ _ x0 X0 _ x1 X1=>index_EqS rfl x0 X0 x1 X1 (by omega)) hPx (by kernel_rfl)),(kx_ld ⟨_,.head _,rfl,by kernel_rfl⟩ (fun _ ac Y u h D hu=>by obtain⟨v0,x0,X0⟩:=h.dp D 80;exact ld_step rfl x0 X0 hu (cv_gets hjl)) hPx (by kernel_rfl) trivial),(KStep.x (kr2 72 73 fun _ _ _ _ _ x0 X0 _ x1 X1=>index_EqS rfl x0 X0 x1 X1 (by omega)) hPx (by kernel_rfl)),(kx_set rfl ⟨_,.head _,rfl,rfl,by kernel_rfl⟩ (fun _ ac Y u h D hu=>by obtain⟨v0,x0,X0⟩:=h.dp D 82;obtain⟨v1,x1,X1⟩:=h.dp D 81;exact set_step (k:=k) (a:=cv vs j) rfl x0 X0 x1 X1 hu hkl hg) (Lq.2 ⟨(fun h=>absurd h (by simp)),(Lq.2 ⟨(fun h=>⟨rfl,rfl⟩),L0⟩)⟩) (by kernel_rfl) rfl trivial),trivial⟩ ?_ hPx (Lq.2 ⟨(fun _=>⟨_,heR,hvR⟩),(Lq.2 ⟨(fun h=>absurd h (by simp)),L0⟩)⟩) (by kernel_rfl);clear hPx;intro a9 w9 st9 hx9;obtain⟨v7,e7,h7⟩:=hx9 _ (.tail _ (.head _)) rfl;clear hx9 heR hvR hrow;replace st9:=st9.reT 7 (VRg 32 8 (EV (4*N+2)) none g c (vs.set k (cv vs j))) e7 h7;clear e7 h7;replace st9:St w.heap.size w 131 [] [(7,VRg 32 8 (EV (4*N+2)) none g c (vs.set k (cv vs j))),(0,VAt w (VSv N vs))] a9 w9:=st9.cut;refine Wn ?_
    refine rH [] [VRg 32 8 (EV (4*N+2)) none g c (vs.set k (cv vs j)),VRg 32 8 (EV (4*N+2)) none g c (vs.set k (cv vs j))] [] [(7,VRg 32 8 (EV (4*N+2)) none g c (vs.set k (cv vs j))),(0,VAt w (VSv N vs)),(6,VRg 32 8 (EV (4*N+2)) none g c (vs.set k (cv vs j)))] st9 ⟨ks,ks,trivial⟩ fun a10 w10 st10=>Wn ?_
    exact wp_ret (rS 6 (VRg 32 8 (EV (4*N+2)) none g c (vs.set k (cv vs j))) st10 fun vr r4=>(by rw [spoil_2 h2,<-hkd,<-hjd];exact VRg_sv r4 (fun e=>absurd e (by simp [List.set_eq_nil_iff,hne]))))
   ·
    refine Wn ?_
    refine rH [] [Vb false,Vb false] [] [(0,VAt w (VSv N vs)),(1,Vi how),(2,Vi z),(7,VRg 32 8 (EV (4*N+2)) none g c vs),(15,Vb false),(8,Vi k),(27,Vi (arn how 7)),(47,Vb false),(57,Vb false),(70,Vb false)] st7 ⟨(by refine kr fun _ ac Y h D=>?_;obtain⟨v0,x0,X0⟩:=h.ot 27;have hV0':v0= .int .i64 (arn how 7):=X0;exact⟨_,run_eqi rfl (x0.trans hV0') rfl,congrArg Value.bool (beq_eq_false_iff_ne.2 h2)⟩),ks,trivial⟩ ?_;intro a8 w8 st8;refine Wn ?_
    refine cF st8 ?_;by_cases h3:arn how 7=3
    ·
     refine Wn ?_
     refine rH [] [Vb true,Vb true] [] [(0,VAt w (VSv N vs)),(1,Vi how),(2,Vi z),(7,VRg 32 8 (EV (4*N+2)) none g c vs),(15,Vb false),(8,Vi k),(27,Vi (arn how 7)),(47,Vb false),(57,Vb false),(70,Vb false),(83,Vb true)] st8 ⟨(by refine kr fun _ ac Y h D=>?_;obtain⟨v0,x0,X0⟩:=h.ot 27;have hV0':v0= .int .i64 (arn how 7):=X0;exact⟨_,run_eqi rfl (x0.trans hV0') rfl,congrArg Value.bool (beq_iff_eq.2 h3)⟩),ks,trivial⟩ ?_;intro a9 w9 st9;refine Wn ?_
     refine cT st9 ?_;replace st9:St w.heap.size w 131 [] [(0,VAt w (VSv N vs)),(1,Vi how),(2,Vi z),(7,VRg 32 8 (EV (4*N+2)) none g c vs),(15,Vb false),(8,Vi k),(27,Vi (arn how 7)),(47,Vb false),(57,Vb false),(70,Vb false),(83,Vb true)] a9 w9:=st9;obtain⟨vR,heR,hvR⟩:=st9.sl (7,VRg 32 8 (EV (4*N+2)) none g c vs) (lS_mem rfl);obtain⟨rfl,-,hrow⟩:=VRg_row hne hvR;replace st9:=st9.reT 7 (VEq (.slice (some ⟨g,0,none⟩) vs.length c)) heR rfl;replace st9:St w.heap.size w 131 [] [(0,VAt w (VSv N vs)),(1,Vi how),(2,Vi z),(7,VEq (.slice (some ⟨g,0,none⟩) vs.length c)),(15,Vb false),(8,Vi k),(27,Vi (arn how 7)),(47,Vb false),(57,Vb false),(70,Vb false),(83,Vb true)] a9 w9:=st9.cut;have hPx:∀e∈([⟨7,none,some 11,VRg 32 8 (EV (4*N+2)) none g c vs⟩,⟨7,some 11,none,VRg 32 8 (EV (4*N+2)) none g c (vs.set k (mid2 (cv vs k) (cv vs (k+1))))⟩]:List En),Stab [] e.P:=(Lq.2 ⟨(Stab_VRg (fun x=>Stab_Vv _ _ _) (by decide) (.inl (by simp))),(Lq.2 ⟨(Stab_VRg (fun x=>Stab_Vv _ _ _) (by decide) (.inl (by simp))),L0⟩)⟩);refine Wn ?_
     refine rgX (Vl:=[VEq (.slice (some ⟨g,0,none⟩) vs.length c),Vi k,VAt w (VSv N vs),Vi k,VAt w (VEp 32 8 (Vv N (cv vs k).1 (cv vs k).2)),Vv N (cv vs k).1 (cv vs k).2,VAt w (VSv N vs),Vi k,Vv N (cv vs (k+1)).1 (cv vs (k+1)).2,Vv (4*N+2) (midQ (cv vs k).1 (cv vs (k+1)).1) (midQ (cv vs k).2 (cv vs (k+1)).2),VEq (.pointer (some ⟨g,8*k,none⟩)),VT]) (SL':=[(0,VAt w (VSv N vs))]) 32 [⟨7,none,some 11,VRg 32 8 (EV (4*N+2)) none g c vs⟩,⟨7,some 11,none,VRg 32 8 (EV (4*N+2)) none g c (vs.set k (mid2 (cv vs k) (cv vs (k+1))))⟩] st9 ⟨(KStep.x ks hPx (by kernel_rfl)),(KStep.x ks hPx (by kernel_rfl)),(KStep.x ks hPx (by kernel_rfl)),(KStep.x ks hPx (by kernel_rfl)),(KStep.x (kr2 87 88 fun _ _ _ _ _ x0 X0 _ x1 X1=>index_SvA rfl x0 X0 x1 X1 (cv_gets hkl)) hPx (by kernel_rfl)),(KStep.x (kr1 89 fun _ _ _ h _ x0 X0=>load_EpC (w:=w) (k:=8) (A:=Vv N (cv vs k).1 (cv vs k).2) (Stab_Vv _ _ _) rfl x0 X0 h.k.below Tryz.underlying32 rfl size_Vec) hPx (by kernel_rfl)),(KStep.x ks hPx (by kernel_rfl)),(KStep.x ks hPx (by kernel_rfl)),(KStep.x (kd2 fun _ _ Y h v0 X0 v1 X1=>cR6Next (N:=N) (lv:=v0) (show VEq v0 v0 Y from rfl) X1 (VSv_later X0 h.k.below) hkl) hPx (by kernel_rfl)),(KStep.x (kd2 fun _ _ _ _ _ X0 _ X1=>cR6Middle (N:=N) X0 X1) hPx (by kernel_rfl)),(KStep.x (kr2 85 86 fun _ _ _ _ _ x0 X0 _ x1 X1=>index_EqS rfl x0 X0 x1 X1 (by omega)) hPx (by kernel_rfl)),(kx_set rfl ⟨_,.head _,rfl,rfl,by kernel_rfl⟩ (fun _ ac Y u h D hu=>by obtain⟨v0,x0,X0⟩:=h.dp D 95;obtain⟨v1,x1,X1⟩:=h.dp D 94;exact set_step (k:=k) (a:=mid2 (cv vs k) (cv vs (k+1))) rfl x0 X0 x1 X1 hu hkl hg) (Lq.2 ⟨(fun h=>absurd h (by simp)),(Lq.2 ⟨(fun h=>⟨rfl,rfl⟩),L0⟩)⟩) (by kernel_rfl) rfl trivial),trivial⟩ ?_ hPx (Lq.2 ⟨(fun _=>⟨_,heR,hvR⟩),(Lq.2 ⟨(fun h=>absurd h (by simp)),L0⟩)⟩) (by kernel_rfl);clear hPx;intro a10 w10 st10 hx10;obtain⟨v7,e7,h7⟩:=hx10 _ (.tail _ (.head _)) rfl;clear hx10 heR hvR hrow;replace st10:=st10.reT 7 (VRg 32 8 (EV (4*N+2)) none g c (vs.set k (mid2 (cv vs k) (cv vs (k+1))))) e7 h7;clear e7 h7;replace st10:St w.heap.size w 131 [] [(7,VRg 32 8 (EV (4*N+2)) none g c (vs.set k (mid2 (cv vs k) (cv vs (k+1))))),(0,VAt w (VSv N vs))] a10 w10:=st10.cut;refine Wn ?_
     refine rH [] [VRg 32 8 (EV (4*N+2)) none g c (vs.set k (mid2 (cv vs k) (cv vs (k+1)))),VRg 32 8 (EV (4*N+2)) none g c (vs.set k (mid2 (cv vs k) (cv vs (k+1))))] [] [(7,VRg 32 8 (EV (4*N+2)) none g c (vs.set k (mid2 (cv vs k) (cv vs (k+1))))),(0,VAt w (VSv N vs)),(6,VRg 32 8 (EV (4*N+2)) none g c (vs.set k (mid2 (cv vs k) (cv vs (k+1)))))] st10 ⟨ks,ks,trivial⟩ fun a11 w11 st11=>Wn ?_
     exact wp_ret (rS 6 (VRg 32 8 (EV (4*N+2)) none g c (vs.set k (mid2 (cv vs k) (cv vs (k+1))))) st11 fun vr r4=>(by rw [spoil_3 h3,<-hkd];exact VRg_sv r4 (fun e=>absurd e (by simp [List.set_eq_nil_iff,hne]))))
    ·
     refine Wn ?_
     refine rH [] [Vb false,Vb false] [] [(0,VAt w (VSv N vs)),(1,Vi how),(2,Vi z),(7,VRg 32 8 (EV (4*N+2)) none g c vs),(15,Vb false),(8,Vi k),(27,Vi (arn how 7)),(47,Vb false),(57,Vb false),(70,Vb false),(83,Vb false)] st8 ⟨(by refine kr fun _ ac Y h D=>?_;obtain⟨v0,x0,X0⟩:=h.ot 27;have hV0':v0= .int .i64 (arn how 7):=X0;exact⟨_,run_eqi rfl (x0.trans hV0') rfl,congrArg Value.bool (beq_eq_false_iff_ne.2 h3)⟩),ks,trivial⟩ ?_;intro a9 w9 st9;refine Wn ?_
     refine cF st9 ?_;by_cases h4:arn how 7=4
     ·
      refine Wn ?_
      refine rH [] [Vb true,Vb true] [] [(0,VAt w (VSv N vs)),(1,Vi how),(2,Vi z),(7,VRg 32 8 (EV (4*N+2)) none g c vs),(15,Vb false),(8,Vi k),(27,Vi (arn how 7)),(47,Vb false),(57,Vb false),(70,Vb false),(83,Vb false),(96,Vb true)] st9 ⟨(by refine kr fun _ ac Y h D=>?_;obtain⟨v0,x0,X0⟩:=h.ot 27;have hV0':v0= .int .i64 (arn how 7):=X0;exact⟨_,run_eqi rfl (x0.trans hV0') rfl,congrArg Value.bool (beq_iff_eq.2 h4)⟩),ks,trivial⟩ ?_;intro a10 w10 st10;refine Wn ?_
      refine cT st10 ?_;refine Wn ?_
      refine rH [] [Vi 0] [] [(0,VAt w (VSv N vs)),(1,Vi how),(2,Vi z),(7,VRg 32 8 (EV (4*N+2)) none g c vs),(15,Vb false),(8,Vi k),(27,Vi (arn how 7)),(47,Vb false),(57,Vb false),(70,Vb false),(83,Vb false),(96,Vb true),(9,Vi 0)] st10 ⟨ks,trivial⟩ ?_;intro a11 w11 st11;replace st11:St w.heap.size w 131 [] [(0,VAt w (VSv N vs)),(1,Vi how),(2,Vi z),(7,VRg 32 8 (EV (4*N+2)) none g c vs),(15,Vb false),(8,Vi k),(27,Vi (arn how 7)),(47,Vb false),(57,Vb false),(70,Vb false),(83,Vb false),(96,Vb true),(9,Vi 0)] a11 w11:=st11;have hr0:rvs vs 0=vs:=by unfold rvs;rw [List.take_zero,List.drop_zero];rfl
      replace st11:St w.heap.size w 131 [] [(0,VAt w (VSv N vs)),(7,VRg 32 8 (EV (4*N+2)) none g c (rvs vs 0)),(9,Vi ((0:Nat):Int))] a11 w11:=by rw [hr0];exact st11.cut
      refine Wn ?_
      refine wp_loop_ghost (fun m aX wX=>∃j:Nat,j+m=vs.length/\St w.heap.size w 131 [] [(0,VAt w (VSv N vs)),(7,VRg 32 8 (EV (4*N+2)) none g c (rvs vs j)),(9,Vi j)] aX wX) vs.length ⟨0,by omega,st11⟩ ?_;clear st11 hr0;intro m aL wL ⟨j,hj,st11⟩;have hrl:=rvs_len vs j;by_cases hlt:j<vs.length
      ·
       refine Wn ?_
       refine rH [] [Vi j,VAt w (VSv N vs),Vi (vs.length:Int),Vb true] [] [(0,VAt w (VSv N vs)),(7,VRg 32 8 (EV (4*N+2)) none g c (rvs vs j)),(9,Vi j),(101,Vb true)] st11 ⟨ks,ks,(kr1 99 fun _ _ _ _ _ x0 X0=>len_SvA rfl rfl x0 X0),(kr2 98 100 fun _ _ _ _ _ x0 X0 _ x1 X1=>⟨_,run_lssi rfl (x0.trans X0) (x1.trans X1),congrArg Value.bool (dT (by omega))⟩),trivial⟩ fun a12 w12 st12=>Wn ?_
       refine cT st12 ?_;obtain⟨p,hp⟩:∃p,p=vs.length - 1 - j:=⟨_,rfl⟩;have hpl:p<vs.length:=by omega
       replace st12:St w.heap.size w 131 [] [(0,VAt w (VSv N vs)),(7,VRg 32 8 (EV (4*N+2)) none g c (rvs vs j)),(9,Vi j),(101,Vb true)] a12 w12:=st12;obtain⟨vR,heR,hvR⟩:=st12.sl (7,VRg 32 8 (EV (4*N+2)) none g c (rvs vs j)) (lS_mem rfl);obtain⟨rfl,-,hrow⟩:=VRg_row (by intro e;rw [e] at hrl;simp at hrl;omega) hvR;replace st12:=st12.reT 7 (VEq (.slice (some ⟨g,0,none⟩) (rvs vs j).length c)) heR rfl;replace st12:St w.heap.size w 131 [] [(0,VAt w (VSv N vs)),(7,VEq (.slice (some ⟨g,0,none⟩) (rvs vs j).length c)),(9,Vi j),(101,Vb true)] a12 w12:=st12.cut;have hPx:∀e∈([⟨7,none,some 11,VRg 32 8 (EV (4*N+2)) none g c (rvs vs j)⟩,⟨7,some 11,none,VRg 32 8 (EV (4*N+2)) none g c ((rvs vs j).set j (cv vs p))⟩]:List En),Stab [] e.P:=(Lq.2 ⟨(Stab_VRg (fun x=>Stab_Vv _ _ _) (by decide) (.inl (by simp))),(Lq.2 ⟨(Stab_VRg (fun x=>Stab_Vv _ _ _) (by decide) (.inl (by simp))),L0⟩)⟩);refine Wn ?_
       refine rgX (Vl:=[VEq (.slice (some ⟨g,0,none⟩) (rvs vs j).length c),Vi j,VAt w (VSv N vs),VAt w (VSv N vs),Vi (vs.length:Int),Vi ((vs.length:Int) - 1),Vi j,Vi p,VAt w (VEp 32 8 (Vv N (cv vs p).1 (cv vs p).2)),Vv N (cv vs p).1 (cv vs p).2,VEq (.pointer (some ⟨g,8*j,none⟩)),VT]) (SL':=[(0,VAt w (VSv N vs)),(9,Vi j)]) 32 [⟨7,none,some 11,VRg 32 8 (EV (4*N+2)) none g c (rvs vs j)⟩,⟨7,some 11,none,VRg 32 8 (EV (4*N+2)) none g c ((rvs vs j).set j (cv vs p))⟩] st12 ⟨(KStep.x ks hPx (by kernel_rfl)),(KStep.x ks hPx (by kernel_rfl)),(KStep.x ks hPx (by kernel_rfl)),(KStep.x ks hPx (by kernel_rfl)),(KStep.x (kr1 107 fun _ _ _ _ _ x0 X0=>len_SvA rfl rfl x0 X0) hPx (by kernel_rfl)),(KStep.x (kr1 108 fun _ _ _ _ v0 x0 X0=>⟨_,run_subi rfl (x0.trans (show v0= .int .i64 (vs.length:Int)from X0)) rfl wO,rfl⟩) hPx (by kernel_rfl)),(KStep.x ks hPx (by kernel_rfl)),(KStep.x (kr2 109 110 fun _ _ _ _ v0 x0 X0 v1 x1 X1=>⟨_,run_subi rfl (x0.trans (show v0= .int .i64 ((vs.length:Int) - 1)from X0)) (x1.trans (show v1= .int .i64 j from X1)) wO,congrArg (Value.int .i64) (by omega)⟩) hPx (by kernel_rfl)),(KStep.x (kr2 106 111 fun _ _ _ _ _ x0 X0 _ x1 X1=>index_SvA rfl x0 X0 x1 X1 (cv_gets hpl)) hPx (by kernel_rfl)),(KStep.x (kr1 112 fun _ _ _ h _ x0 X0=>load_EpC (w:=w) (k:=8) (A:=Vv N (cv vs p).1 (cv vs p).2) (Stab_Vv _ _ _) rfl x0 X0 h.k.below Tryz.underlying32 rfl size_Vec) hPx (by kernel_rfl)),(KStep.x (kr2 104 105 fun _ _ _ _ _ x0 X0 _ x1 X1=>index_EqS rfl x0 X0 x1 X1 (by omega)) hPx (by kernel_rfl)),(kx_set rfl ⟨_,.head _,rfl,rfl,by kernel_rfl⟩ (fun _ ac Y u h D hu=>by obtain⟨v0,x0,X0⟩:=h.dp D 114;obtain⟨v1,x1,X1⟩:=h.dp D 113;exact set_step (k:=j) (a:=cv vs p) rfl x0 X0 x1 (Vv_le X1 (by omega)) hu (by omega) hg) (Lq.2 ⟨(fun h=>absurd h (by simp)),(Lq.2 ⟨(fun h=>⟨rfl,rfl⟩),L0⟩)⟩) (by kernel_rfl) rfl trivial),trivial⟩ ?_ hPx (Lq.2 ⟨(fun _=>⟨_,heR,hvR⟩),(Lq.2 ⟨(fun h=>absurd h (by simp)),L0⟩)⟩) (by kernel_rfl);clear hPx;intro a13 w13 st13 hx13;obtain⟨v7,e7,h7⟩:=hx13 _ (.tail _ (.head _)) rfl;clear hx13 heR hvR hrow;replace st13:=st13.reT 7 (VRg 32 8 (EV (4*N+2)) none g c ((rvs vs j).set j (cv vs p))) e7 h7;clear e7 h7;replace st13:St w.heap.size w 131 [] [(7,VRg 32 8 (EV (4*N+2)) none g c ((rvs vs j).set j (cv vs p))),(0,VAt w (VSv N vs)),(9,Vi j)] a13 w13:=st13.cut;rw [hp,rvs_succ vs hlt] at st13;refine Wn ?_
       refine rH [] [Vi j,Vi ((j+1:Nat):Int),Vi ((j+1:Nat):Int)] [] [(7,VRg 32 8 (EV (4*N+2)) none g c (rvs vs (j+1))),(0,VAt w (VSv N vs)),(9,Vi ((j+1:Nat):Int))] st13 ⟨?s0,(kr1 102 fun _ _ _ _ v0 x0 X0=>⟨_,run_addi rfl (x0.trans (show v0= .int .i64 j from X0)) rfl wO,congrArg (Value.int .i64) (by omega)⟩),ks,trivial⟩ ?_
       case s0=>
        refine k_run0 SbB.out (by kernel_rfl) fun listed ac Y h D hnl=>⟨trivial,?_⟩
        obtain⟨v0,x0,X0⟩:=h.out0 hnl (9,Vi j) (.tail _ (.tail _ (.head _))) 2 (by kernel_rfl) (.inr (by kernel_rfl));exact⟨_,run_move rfl,by rw [x0];exact X0⟩
       intro a14 w14 st14;replace st14:St w.heap.size w 131 [] [(7,VRg 32 8 (EV (4*N+2)) none g c (rvs vs (j+1))),(0,VAt w (VSv N vs)),(9,Vi ((j+1:Nat):Int))] a14 w14:=st14;exact⟨m - 1,by omega,j+1,by omega,st14.cut⟩
      ·
       refine Wn ?_
       refine rH [] [Vi j,VAt w (VSv N vs),Vi (vs.length:Int),Vb false] [] [(0,VAt w (VSv N vs)),(7,VRg 32 8 (EV (4*N+2)) none g c (rvs vs j)),(9,Vi j),(101,Vb false)] st11 ⟨ks,ks,(kr1 99 fun _ _ _ _ _ x0 X0=>len_SvA rfl rfl x0 X0),(kr2 98 100 fun _ _ _ _ _ x0 X0 _ x1 X1=>⟨_,run_lssi rfl (x0.trans X0) (x1.trans X1),congrArg Value.bool (dF (by omega))⟩),trivial⟩ fun a12 w12 st12=>Wn ?_
       refine cF st12 ?_;have ej:j=vs.length:=by omega
       refine Wn ?_
       refine rH [] [VRg 32 8 (EV (4*N+2)) none g c (rvs vs j),VRg 32 8 (EV (4*N+2)) none g c (rvs vs j)] [] [(0,VAt w (VSv N vs)),(7,VRg 32 8 (EV (4*N+2)) none g c (rvs vs j)),(9,Vi j),(101,Vb false),(6,VRg 32 8 (EV (4*N+2)) none g c (rvs vs j))] st12 ⟨ks,ks,trivial⟩ fun a13 w13 st13=>Wn ?_
       exact wp_ret (rS 6 (VRg 32 8 (EV (4*N+2)) none g c (rvs vs j)) st13 fun vr r4=>(by rw [spoil_4 h4,<-rvs_all,<-ej];exact VRg_sv r4 (fun e=>absurd e (by intro e;rw [e] at hrl;simp at hrl;omega))))
     ·
      refine Wn ?_
      refine rH [] [Vb false,Vb false] [] [(0,VAt w (VSv N vs)),(1,Vi how),(2,Vi z),(7,VRg 32 8 (EV (4*N+2)) none g c vs),(15,Vb false),(8,Vi k),(27,Vi (arn how 7)),(47,Vb false),(57,Vb false),(70,Vb false),(83,Vb false),(96,Vb false)] st9 ⟨(by refine kr fun _ ac Y h D=>?_;obtain⟨v0,x0,X0⟩:=h.ot 27;have hV0':v0= .int .i64 (arn how 7):=X0;exact⟨_,run_eqi rfl (x0.trans hV0') rfl,congrArg Value.bool (beq_eq_false_iff_ne.2 h4)⟩),ks,trivial⟩ ?_;intro a10 w10 st10;refine Wn ?_
      refine cF st10 ?_;refine Wn ?_
      refine rH [] [Vb false,Vb false] [] [(0,VAt w (VSv N vs)),(1,Vi how),(2,Vi z),(7,VRg 32 8 (EV (4*N+2)) none g c vs),(15,Vb false),(8,Vi k),(27,Vi (arn how 7)),(47,Vb false),(57,Vb false),(70,Vb false),(83,Vb false),(96,Vb false),(115,Vb false)] st10 ⟨(by refine kr fun _ ac Y h D=>?_;obtain⟨v0,x0,X0⟩:=h.ot 27;have hV0':v0= .int .i64 (arn how 7):=X0;exact⟨_,run_eqi rfl (x0.trans hV0') rfl,congrArg Value.bool (beq_eq_false_iff_ne.2 h5)⟩),ks,trivial⟩ ?_;intro a11 w11 st11;refine Wn ?_
      refine cF st11 ?_;replace st11:St w.heap.size w 131 [] [(0,VAt w (VSv N vs)),(8,Vi k)] a11 w11:=st11.cut;have hPx:∀e∈([⟨32,some 4,some 14,VRy 32 8 (EV (4*N+2)) w.heap.size (vs.take k)⟩,⟨41,some 13,some 14,VOs 32 8 (EV (4*N+2)) [mid2 (cv vs k) (cv vs (k+1))]⟩,⟨42,some 14,some 18,VRy 32 8 (EV (4*N+2)) w.heap.size (vs.take k++ [mid2 (cv vs k) (cv vs (k+1))])⟩,⟨46,some 18,none,VRy 32 8 (EV (4*N+2)) w.heap.size (vs.take k++ [mid2 (cv vs k) (cv vs (k+1))]++vs.drop k)⟩,⟨7,some 19,none,VRy 32 8 (EV (4*N+2)) w.heap.size (vs.take k++ [mid2 (cv vs k) (cv vs (k+1))]++vs.drop k)⟩]:List En),Stab [] e.P:=(Lq.2 ⟨(Stab_VRy (fun x=>Stab_Vv _ _ _) (by decide)),(Lq.2 ⟨(Stab_VOs0 (fun x=>Stab_Vv _ _ _)),(Lq.2 ⟨(Stab_VRy (fun x=>Stab_Vv _ _ _) (by decide)),(Lq.2 ⟨(Stab_VRy (fun x=>Stab_Vv _ _ _) (by decide)),(Lq.2 ⟨(Stab_VRy (fun x=>Stab_Vv _ _ _) (by decide)),L0⟩)⟩)⟩)⟩)⟩);refine Wn ?_
      refine rgX (Vl:=[VE0,VAt w (VSv N vs),Vi k,VAt w (VSv N (vs.take k)),VT,VAt w (VSv N vs),Vi k,VAt w (VEp 32 8 (Vv N (cv vs k).1 (cv vs k).2)),Vv N (cv vs k).1 (cv vs k).2,VAt w (VSv N vs),Vi k,Vv N (cv vs (k+1)).1 (cv vs (k+1)).2,Vv (4*N+2) (midQ (cv vs k).1 (cv vs (k+1)).1) (midQ (cv vs k).2 (cv vs (k+1)).2),VT,VT,VAt w (VSv N vs),Vi k,VAt w (VSv N (vs.drop k)),VT,VT]) (SL':=[(0,VAt w (VSv N vs))]) 32 [⟨32,some 4,some 14,VRy 32 8 (EV (4*N+2)) w.heap.size (vs.take k)⟩,⟨41,some 13,some 14,VOs 32 8 (EV (4*N+2)) [mid2 (cv vs k) (cv vs (k+1))]⟩,⟨42,some 14,some 18,VRy 32 8 (EV (4*N+2)) w.heap.size (vs.take k++ [mid2 (cv vs k) (cv vs (k+1))])⟩,⟨46,some 18,none,VRy 32 8 (EV (4*N+2)) w.heap.size (vs.take k++ [mid2 (cv vs k) (cv vs (k+1))]++vs.drop k)⟩,⟨7,some 19,none,VRy 32 8 (EV (4*N+2)) w.heap.size (vs.take k++ [mid2 (cv vs k) (cv vs (k+1))]++vs.drop k)⟩] st11 ⟨(KStep.x (km fun _ ac Y h D=>bslice_0 rfl) hPx (by kernel_rfl)),(KStep.x ks hPx (by kernel_rfl)),(KStep.x ks hPx (by kernel_rfl)),(KStep.x (kr2 29 30 fun _ _ _ _ _ x0 X0 _ x1 X1=>take_Sv rfl x0 X0 x1 X1 (by omega) (by omega)) hPx (by kernel_rfl)),(kx_app (k:=8) (E:=EV (4*N+2)) (xs:=[]) (zs:=vs.take k) (X:=VAt w (VSv N (vs.take k))) rfl (.inr ⟨rfl,.inl ⟨by kernel_rfl,rfl,rfl⟩⟩) (.inr (.inl ⟨by kernel_rfl,rfl,rfl⟩)) (VSv_lesc (by omega)) (Lq.2 ⟨(fun h=>⟨rfl,rfl⟩),(Lq.2 ⟨(fun h=>absurd h (by simp)),(Lq.2 ⟨(fun h=>absurd h (by simp)),(Lq.2 ⟨(fun h=>absurd h (by simp)),(Lq.2 ⟨(fun h=>absurd h (by simp)),L0⟩)⟩)⟩)⟩)⟩) (by kernel_rfl) rfl (fun x BT=>Stab_Vv _ _ _) (by simp;omega) trivial),(KStep.x ks hPx (by kernel_rfl)),(KStep.x ks hPx (by kernel_rfl)),(KStep.x (kr2 33 34 fun _ _ _ _ _ x0 X0 _ x1 X1=>index_SvA rfl x0 X0 x1 X1 (cv_gets hkl)) hPx (by kernel_rfl)),(KStep.x (kr1 35 fun _ _ _ h _ x0 X0=>load_EpC (w:=w) (k:=8) (A:=Vv N (cv vs k).1 (cv vs k).2) (Stab_Vv _ _ _) rfl x0 X0 h.k.below Tryz.underlying32 rfl size_Vec) hPx (by kernel_rfl)),(KStep.x ks hPx (by kernel_rfl)),(KStep.x ks hPx (by kernel_rfl)),(KStep.x (kd2 fun _ _ Y h v0 X0 v1 X1=>cR6Next (N:=N) (lv:=v0) (show VEq v0 v0 Y from rfl) X1 (VSv_later X0 h.k.below) hkl) hPx (by kernel_rfl)),(KStep.x (kd2 fun _ _ _ _ _ X0 _ X1=>cR6Middle (N:=N) X0 X1) hPx (by kernel_rfl)),(kx_mem (X:=VOs 32 8 (EV (4*N+2)) [mid2 (cv vs k) (cv vs (k+1))]) (fun _ ac Y h D=>by obtain⟨v0,x0,X0⟩:=h.dp D 40;exact bslice_V1 rfl x0 X0) hPx (by kernel_rfl) (Lq.2 ⟨(fun h=>absurd h (by simp)),(Lq.2 ⟨(fun h=>⟨rfl,rfl⟩),(Lq.2 ⟨(fun h=>absurd h (by simp)),(Lq.2 ⟨(fun h=>absurd h (by simp)),(Lq.2 ⟨(fun h=>absurd h (by simp)),L0⟩)⟩)⟩)⟩)⟩) rfl trivial),(kx_app (k:=8) (E:=EV (4*N+2)) (xs:=vs.take k) (zs:=[mid2 (cv vs k) (cv vs (k+1))]) (X:=VOs 32 8 (EV (4*N+2)) [mid2 (cv vs k) (cv vs (k+1))]) rfl (.inl ⟨_,.head _,rfl,rfl,by kernel_rfl⟩) (.inl ⟨_,.tail _ (.head _),rfl,rfl,by kernel_rfl⟩) (fun _ _ _ h=>VOs_sc h) (Lq.2 ⟨(fun h=>absurd h (by simp)),(Lq.2 ⟨(fun h=>absurd h (by simp)),(Lq.2 ⟨(fun h=>⟨rfl,rfl⟩),(Lq.2 ⟨(fun h=>absurd h (by simp)),(Lq.2 ⟨(fun h=>absurd h (by simp)),L0⟩)⟩)⟩)⟩)⟩) (by kernel_rfl) rfl (fun x BT=>Stab_Vv _ _ _) (by simp;omega) trivial),(KStep.x ks hPx (by kernel_rfl)),(KStep.x ks hPx (by kernel_rfl)),(KStep.x (kr2 43 44 fun _ _ _ _ _ x0 X0 _ x1 X1=>drop_Sv rfl x0 X0 x1 X1 hkl) hPx (by kernel_rfl)),(kx_app (k:=8) (E:=EV (4*N+2)) (xs:=vs.take k++ [mid2 (cv vs k) (cv vs (k+1))]) (zs:=vs.drop k) (X:=VAt w (VSv N (vs.drop k))) rfl (.inl ⟨_,.tail _ (.tail _ (.head _)),rfl,rfl,by kernel_rfl⟩) (.inr (.inl ⟨by kernel_rfl,rfl,rfl⟩)) (VSv_lesc (by omega)) (Lq.2 ⟨(fun h=>absurd h (by simp)),(Lq.2 ⟨(fun h=>absurd h (by simp)),(Lq.2 ⟨(fun h=>absurd h (by simp)),(Lq.2 ⟨(fun h=>⟨rfl,rfl⟩),(Lq.2 ⟨(fun h=>absurd h (by simp)),L0⟩)⟩)⟩)⟩)⟩) (by kernel_rfl) rfl (fun x BT=>Stab_Vv _ _ _) (by simp;omega) trivial),(kx_asg rfl ⟨_,.tail _ (.tail _ (.tail _ (.head _))),rfl,rfl,by kernel_rfl⟩ (Lq.2 ⟨(fun h=>absurd h (by simp)),(Lq.2 ⟨(fun h=>absurd h (by simp)),(Lq.2 ⟨(fun h=>absurd h (by simp)),(Lq.2 ⟨(fun h=>absurd h (by simp)),(Lq.2 ⟨(fun h=>⟨rfl,rfl⟩),L0⟩)⟩)⟩)⟩)⟩) (by kernel_rfl) rfl trivial),trivial⟩ ?_ hPx (Lq.2 ⟨(fun h=>absurd h (by simp)),(Lq.2 ⟨(fun h=>absurd h (by simp)),(Lq.2 ⟨(fun h=>absurd h (by simp)),(Lq.2 ⟨(fun h=>absurd h (by simp)),(Lq.2 ⟨(fun h=>absurd h (by simp)),L0⟩)⟩)⟩)⟩)⟩) (by kernel_rfl);clear hPx;intro a12 w12 st12 hx12;obtain⟨v7,e7,h7⟩:=hx12 _ (.tail _ (.tail _ (.tail _ (.tail _ (.head _))))) rfl;clear hx12;obtain⟨g2,c2,hg2,rfl,hrow⟩:=VRy_row (by simp) h7;have hc2:0<c2:=by have:=hrow.1;simp at this;omega
      replace st12:=st12.reT 7 (VRg 32 8 (EV (4*N+2)) none g2 c2 (vs.take k++ [mid2 (cv vs k) (cv vs (k+1))]++vs.drop k)) e7 (hrow.rg hc2 rfl);clear e7 h7 hrow;replace st12:St w.heap.size w 131 [] [(7,VRg 32 8 (EV (4*N+2)) none g2 c2 (vs.take k++ [mid2 (cv vs k) (cv vs (k+1))]++vs.drop k))] a12 w12:=st12.cut;refine Wn ?_
      refine rH [] [VRg 32 8 (EV (4*N+2)) none g2 c2 (vs.take k++ [mid2 (cv vs k) (cv vs (k+1))]++vs.drop k),VRg 32 8 (EV (4*N+2)) none g2 c2 (vs.take k++ [mid2 (cv vs k) (cv vs (k+1))]++vs.drop k)] [] [(7,VRg 32 8 (EV (4*N+2)) none g2 c2 (vs.take k++ [mid2 (cv vs k) (cv vs (k+1))]++vs.drop k)),(6,VRg 32 8 (EV (4*N+2)) none g2 c2 (vs.take k++ [mid2 (cv vs k) (cv vs (k+1))]++vs.drop k))] st12 ⟨ks,ks,trivial⟩ fun a13 w13 st13=>Wn ?_
      exact wp_ret (rS 6 (VRg 32 8 (EV (4*N+2)) none g2 c2 (vs.take k++ [mid2 (cv vs k) (cv vs (k+1))]++vs.drop k)) st13 fun vr r4=>(by rw [spoil_6 h0 h1 h2 h3 h4,<-hkd];exact VRg_sv r4 (fun e=>absurd e (by simp))))
def Qd (K B:Int)(x:Rat):Prop:=∃a:Int,x*(K:Rat)=(a:Rat)/\ -B<=a/\a<=B
def Q2 (K B:Int)(p:P2):Prop:=Qd K B p.1/\Qd K B p.2
theorem Qd.parts {K B:Int}{x:Rat}(h:Qd K B x)(hK:0<K):x.num.natAbs<=B.toNat/\(x.den:Int)<=K:=by
 obtain⟨a,h1,h2,h3⟩:=h
 have hx:x=Rat.divInt a K:=by
  rw [Rat.divInt_eq_div]
  have:(K:Rat)≠0:=by
   intro e;have:=Rat.intCast_inj.1 (e.trans Rat.intCast_zero.symm);omega
  rw [<-h1];exact(Rat.mul_div_cancel this).symm
 obtain⟨q1,q2⟩:=make_low (p:=a) hK;rw [<-hx] at q1 q2
 have hg:0<(Int.gcd a K:Int):=by
  have:0<Int.gcd a K:=Int.gcd_pos_of_ne_zero_right _ (by omega);omega
 constructor
 ·rw [q1]
  have:(a / (Int.gcd a K:Int)).natAbs<=a.natAbs:=by
   obtain⟨c,hc⟩:=Int.gcd_dvd_left a K
   have e:a / (Int.gcd a K:Int)=c:=by
    conv=>lhs;lhs;rw [hc]
    exact Int.mul_ediv_cancel_left _ (by omega)
   rw [e]
   conv=>rhs;rw [hc,Int.natAbs_mul]
   exact Nat.le_mul_of_pos_left _ (by omega)
  omega
 ·rw [q2];exact Int.ediv_le_self _ (by omega)
theorem digs_one {n:Nat}(h:n<1000000000):(digs n).length<=1:=by
 by_cases h0:n=0
 ·rw [h0,digs_zero];simp
 ·rw [digs_pos h0,show n / 1000000000=0 by omega,digs_zero];simp
theorem Vz_one {N:Nat}{z:Int}{v:Value}{w:World}(h:Vz N z v w)(hz:z.natAbs<1000000000):Vz 1 z v w:=by
 obtain⟨nb,p,n,c,h1,h2,h3⟩:=h;exact⟨nb,p,n,c,h1,h2,by rw [h2.2.1];exact digs_one hz⟩
theorem Vq_one {N:Nat}{K B:Int}{x:Rat}{v:Value}{w:World}(h:Vq N x v w)(hq:Qd K B x)(hK:0<K)(hK2:K<=100000000)(hB:B<=100000000):Vq 1 x v w:=by
 obtain⟨h1,h2⟩:=hq.parts hK;obtain⟨p,q,r1,r2,r3,r4,r5⟩:=h;refine⟨p,q,r1,r2,r3,Vz_one r4 (by omega),Vz_one r5 ?_⟩;unfold qd;split<;>omega
theorem Vv_one {N:Nat}{K B:Int}{p:P2}{v:Value}{w:World}(h:Vv N p.1 p.2 v w)(hq:Q2 K B p)(hK:0<K)(hK2:K<=100000000)(hB:B<=100000000):Vv 1 p.1 p.2 v w:=by
 obtain⟨x,y,r1,r2,r3,r4,r5⟩:=h;exact⟨x,y,r1,r2,r3,Vq_one r4 hq.1 hK hK2 hB,Vq_one r5 hq.2 hK hK2 hB⟩
theorem VSv_three {N:Nat}{K B:Int}{vs:List P2}{v:Value}{w:World}(h:VSv N vs v w)(hq:∀p∈vs,Q2 K B p)(hK:0<K)(hK2:K<=100000000)(hB:B<=100000000):VSv 3 vs v w:=h.imp id fun ⟨hh,o,c,cs,e1,e2,e3,e4,e5,e6⟩=>⟨hh,o,c,cs,e1,e2,e3,e4,e5,fun i x hx=>Vv_le (Vv_one (e6 i x hx) (hq x (List.mem_of_getElem? hx)) hK hK2 hB) (by omega)⟩
theorem Qd_int {a B:Int}(K:Int)(h1: -B<=a*K)(h2:a*K<=B):Qd K B (Rat.divInt a 1):=by
 refine⟨a*K,?_,h1,h2⟩;rw [Rat.divInt_eq_div,Rat.intCast_mul,show((1:Int):Rat)=1 from rfl]
 grind
theorem Qd_half {a B:Int}(h1: -B<=a)(h2:a<=B):Qd 2 B (Rat.divInt a 2):=by
 refine⟨a,?_,h1,h2⟩;rw [Rat.divInt_eq_div];exact Rat.div_mul_cancel (by decide)
theorem Qd_add {K B C:Int}{x y:Rat}(h:Qd K B x)(k:Qd K C y):Qd K (B+C) (x+y):=by
 obtain⟨a,h1,h2,h3⟩:=h;obtain⟨c,k1,k2,k3⟩:=k;exact⟨a+c,by rw [Rat.add_mul,h1,k1,Rat.intCast_add],by omega,by omega⟩
theorem Qd_twice {K B:Int}{x:Rat}(h:Qd K B x):Qd (2*K) (2*B) x:=by
 obtain⟨a,h1,h2,h3⟩:=h;refine⟨2*a,?_,by omega,by omega⟩;rw [Rat.intCast_mul,Rat.intCast_mul,<-h1]
 grind
theorem half_two':(Rat.divInt 1 2:Rat)=1 / 2:=by decide+kernel
theorem Qd_mid {K B:Int}{x y:Rat}(h:Qd K B x)(k:Qd K B y):Qd (2*K) (2*B) (midQ x y):=by
 obtain⟨a,h1,h2,h3⟩:=h;obtain⟨c,k1,k2,k3⟩:=k;refine⟨a+c,?_,by omega,by omega⟩;unfold midQ;rw [half_two',Rat.intCast_mul,Rat.intCast_add,<-h1,<-k1];have:((2:Int):Rat)=2:=rfl
 grind
theorem Q2_mid {K B:Int}{p q:P2}(h:Q2 K B p)(k:Q2 K B q):Q2 (2*K) (2*B) (mid2 p q):=⟨Qd_mid h.1 k.1,Qd_mid h.2 k.2⟩
theorem Q2_twice {K B:Int}{p:P2}(h:Q2 K B p):Q2 (2*K) (2*B) p:=⟨Qd_twice h.1,Qd_twice h.2⟩
theorem byQ_Q (l:List Int):Q2 2 8 (byQ l):=by
 have h1:=atv_lo l 16 9 (by omega);have h2:=atv_hi l 16 9 (by omega);have h3:=atv_lo l 17 9 (by omega);have h4:=atv_hi l 17 9 (by omega);exact⟨Qd_int 2 (by omega) (by omega),Qd_int 2 (by omega) (by omega)⟩
theorem pgE_Q (l:List Int){i:Nat}(hi:i<16):Q2 2 32 (pgE l i):=by
 have hw:=wys_bd i hi;have h0:=atv_lo l (i:Int) 6 (by omega);have h5:=atv_hi l (i:Int) 6 (by omega);have m1:=mul_bd4 hw.1 hw.2.1 h0 h5;have m2:=mul_bd4 hw.2.2.1 hw.2.2.2 h0 h5;exact⟨Qd_add (byQ_Q l).1 (Qd_half m1.1 m1.2),Qd_add (byQ_Q l).2 (Qd_half m2.1 m2.2)⟩
theorem pgL_Q (l:List Int):∀i,i<=16->∀p∈pgL l i,Q2 2 32 p
 |0,_,p,h=>by cases h
 |i+1,hi,p,h=>by
  rw [pgL] at h;split at h
  ·rcases List.mem_append.1 h with h|h
   ·exact pgL_Q l i (by omega) p h
   ·rw [List.mem_singleton.1 h];exact pgE_Q l (by omega)
  ·exact pgL_Q l i (by omega) p h
theorem Qd_le {K B C:Int}{x:Rat}(h:Qd K B x)(hB:B<=C):Qd K C x:=by
 obtain⟨a,h1,h2,h3⟩:=h;exact⟨a,h1,by omega,by omega⟩
theorem Q2_le {K B C:Int}{p:P2}(h:Q2 K B p)(hB:B<=C):Q2 K C p:=⟨Qd_le h.1 hB,Qd_le h.2 hB⟩
theorem by_Q (l:List Int){a c:Int}(h1: -4<=a)(h2:a<=4)(h3: -4<=c)(h4:c<=4):Q2 2 32 ((byQ l).1+Rat.divInt a 1,(byQ l).2+Rat.divInt c 1):=
 ⟨Qd_le (Qd_add (byQ_Q l).1 (Qd_int (B:=8) 2 (by omega) (by omega))) (by omega),Qd_le (Qd_add (byQ_Q l).2 (Qd_int (B:=8) 2 (by omega) (by omega))) (by omega)⟩
theorem polyR_Q (l:List Int):∀p∈polyR l,Q2 2 32 p:=by
 intro p hp;unfold polyR at hp;split at hp
 ·exact pgL_Q l 16 (Nat.le_refl _) p hp
 ·have h0:=atv_lo l 0 2 (by omega);have h1:=atv_hi l 0 2 (by omega);simp only [pgF,List.mem_cons,List.not_mem_nil,or_false] at hp;rcases hp with rfl|rfl|rfl|rfl
  ·exact Q2_le (byQ_Q l) (by omega)
  ·exact by_Q l (by omega) (by omega) (by omega) (by omega)
  ·exact by_Q l (by omega) (by omega) (by omega) (by omega)
  ·exact by_Q l (by omega) (by omega) (by omega) (by omega)
theorem cv_Q {K B:Int}{vs:List P2}(h:∀p∈vs,Q2 K B p)(h0:0<vs.length)(k:Nat):Q2 K B (cv vs k):=h _ (List.mem_of_getElem? (cv_get k h0))
theorem spoil_Q {B:Int}{vs:List P2}(hB:16<=B)(h:∀p∈vs,Q2 2 B p)(h0:0<vs.length)(how z:Int):∀p∈spoil vs how z,Q2 4 (2*B) p:=by
 have ht:∀p∈vs,Q2 4 (2*B) p:=fun p hp=>Q2_twice (h p hp)
 have hm:∀j k,Q2 4 (2*B) (mid2 (cv vs j) (cv vs k)):=fun j k=>Q2_mid (cv_Q h h0 j) (cv_Q h h0 k)
 intro p hp;unfold spoil at hp;simp only at hp;split at hp
 ·rcases List.mem_append.1 hp with hp|hp
  ·exact ht p (List.mem_of_mem_take hp)
  ·exact ht p (List.mem_of_mem_drop hp)
 split at hp
 ·rcases List.mem_or_eq_of_mem_set hp with hp|rfl
  ·exact ht p hp
  ·have a0:=arn_lo z 17 (by omega);have a1:=arn_hi z 17 (by omega);have a2:=arn_lo (Int.tdiv z 17) 17 (by omega);have a3:=arn_hi (Int.tdiv z 17) 17 (by omega);exact⟨Qd_int 4 (by omega) (by omega),Qd_int 4 (by omega) (by omega)⟩
 split at hp
 ·rcases List.mem_or_eq_of_mem_set hp with hp|rfl
  ·exact ht p hp
  ·exact Q2_twice (cv_Q h h0 _)
 split at hp
 ·rcases List.mem_or_eq_of_mem_set hp with hp|rfl
  ·exact ht p hp
  ·exact hm _ _
 split at hp
 ·exact ht p (List.mem_reverse.1 hp)
 ·rcases List.mem_append.1 hp with hp|hp
  ·rcases List.mem_append.1 hp with hp|hp
   ·exact ht p (List.mem_of_mem_take hp)
   ·rw [List.mem_singleton.1 hp];exact hm _ _
  ·exact ht p (List.mem_of_mem_drop hp)
def VqB (N:Nat)(a:Rat)(bad:Bool):VP:=VP2 2 2 (Vz N a.num) (Vz N (if bad then 1 else qd a))
def EVb (N:Nat)(x:P2×Bool):VP:=VP2 4 4 (VqB N x.1.1 x.2) (Vq N x.1.2)
instance {BT:List (TypeId×Nat×Nat)}(N:Nat)(a:Rat)(b:Bool):Sb BT (VqB N a b):=⟨Stab_VP2 (Stab_Vz _ _) (Stab_Vz _ _)⟩
theorem cR4ValidB {W:World}{N:Nat}{a:Rat}{b:Bool}{v:Value}(h:VqB N a b v W)(h3:3<=N:=by omega)(hN:N<=100000:=by omega):Calls Tryz.prog 115 #[v] W (RV (Vb (!b)) W):=by
 have:=cR4ValidZ h h3 hN;cases b with
 |true=>rw [dF (by simp)] at this;exact this
 |false=>
  rw [show(if false=true then(1:Int)else qd a)=qd a from rfl,dT q_low] at this;exact this
def VSb (N:Nat)(bl:List (P2×Bool)):VP:=VSl 32 8 (EVb N) bl
section
variable {ρ:Operand->Value}{o:Oper}{w W:World}{x y:Operand}{va vb:Value}{g n c j N:Nat}{vs us:List P2}{bl:List (P2×Bool)}{A B:VP}
theorem index_Sb {e:P2×Bool}(ho:o.op= .indexAddr 23 x y)(hx:ρ x=va)(h:VAt w (VSb N bl) va W)(hy:ρ y=vb)(hb:Vi (j:Int) vb W)(hz:bl[j]? =some e):∃v,(execOp ρ o).run Tryz.prog W= .ok (.value v) W/\VAt w (VEp 32 8 (EVb N e)) v W:=by
 obtain⟨b,off,c,rfl,h2⟩:=VSl_el h hz;obtain rfl:vb=_:=hb;refine⟨.pointer (some ⟨b,off+8*j,none⟩),?_,h2⟩
 have hj:j<bl.length:=by
  rcases Nat.lt_or_ge j bl.length with h'|h'
  ·exact h'
  ·rw [List.getElem?_eq_none h'] at hz;cases hz
 have hj2:(j:Int)<(bl.length:Int):=by omega
 have hm:j*8=8*j:=Nat.mul_comm _ _;clear h h2 hz;generalize bl.length=n at*
 obtain⟨dd,op,ty,ps,af,gd⟩:=o;subst ho
 go_simp
theorem len_Sb (ho:o.op= .call {callee:= .builtin .len,args:=#[x],argTypes:=#[23]})(hty:o.type=3)(hx:ρ x=va)(h:VAt w (VSb N bl) va W):∃v,(execOp ρ o).run Tryz.prog W= .ok (.value v) W/\Vi (bl.length:Int) v W:=by
 obtain⟨hh,oo,c,cs,rfl,-⟩:=h;refine⟨.int .i64 (bl.length:Int),?_,rfl⟩;generalize bl.length=n at*
 obtain⟨dd,op,ty,ps,af,gd⟩:=o;subst ho;simp only at hty;subst hty
 go_simp
theorem field_EpG0 (ho:o.op= .fieldAddr 32 x 0)(hx:ρ x=va)(h:VAt w (VEp 32 8 (VP2 4 4 A B)) va W):∃v,(execOp ρ o).run Tryz.prog W= .ok (.value v) W/\VAt w (VEp 32 4 A) v W:=by
 obtain⟨g,off,cs,rfl,e2,e3,e4⟩:=h;refine⟨_,?_,g,off+0,cs,rfl,e2,by omega,?_⟩
 ·unfold execOp;simp only [ho,hx,Sem.run_bind,field_Vec0,Sem.run_pure,Result.andThen_ok]
 ·have:=VP2_fst e4;rw [show(4:Nat)=0+4 from rfl,ext_ext (by omega)] at this;exact this
theorem field_EpG1 (ho:o.op= .fieldAddr 32 x 1)(hx:ρ x=va)(h:VAt w (VEp 32 8 (VP2 4 4 A B)) va W):∃v,(execOp ρ o).run Tryz.prog W= .ok (.value v) W/\VAt w (VEp 32 4 B) v W:=by
 obtain⟨g,off,cs,rfl,e2,e3,e4⟩:=h;refine⟨_,?_,g,off+4,cs,rfl,e2,by omega,?_⟩
 ·unfold execOp;simp only [ho,hx,Sem.run_bind,field_Vec1,Sem.run_pure,Result.andThen_ok]
 ·have:=VP2_snd e4;rw [ext_ext (by omega)] at this;exact this
theorem load_EpG (hA:Stab [] A)(ho:o.op= .load 30 x)(hx:ρ x=va)(h:VAt w (VEp 32 4 A) va W)(hb:Below w.heap.size w W):∃v,(execOp ρ o).run Tryz.prog W= .ok (.value v) W/\A v W:=by
 obtain⟨g,off,cs,rfl,e2,e3,e4⟩:=h;refine⟨_,?_,VAt_cur hA (show VAt w A _ W from e4) hb⟩;have e5:=(hb.block _ (lt_blk e2)).trans e2;unfold execOp;simp only [ho,hx,Instr.loadAt,Instr.sureAddr,Sem.run_bind,Sem.run_pure,Result.andThen_ok,run_loadVar_part W g off 4 32 30 cs (0,0) _ e5 e3 Tryz.underlying30 rfl size_Rat]
end
theorem cR6NumbersB {w:World}{N:Nat}{bl:List (P2×Bool)}{v0:Value}(h0:VAt w (VSb N bl) v0 w)(hbad:∃(i:Nat) (x:P2×Bool),bl[i]? =some x/\x.2=true)(hN3:3<=N:=by omega)(hN:N<=900:=by omega):Calls Tryz.prog 76 #[v0] w (RV (Vb false) w):=by
 go_enter Tryz.func76,Tryz.ntmps76
 generalize hA:(⟨_,_⟩:Act)=a0;have st0:St w.heap.size w 26 [] [(0,VAt w (VSb N bl))] a0 w:=by subst hA;exact St.begin rfl rfl (Lq.2 ⟨⟨_,rfl,h0⟩,L0⟩)
 clear hA;have hmax:bl.length<=9223372036854775807:=by obtain⟨hh,o,c,cs,-,h1,h2,-⟩:=id h0;omega
 refine Wn ?_
 refine rH [] [Vb false] [] [(0,VAt w (VSb N bl)),(2,Vb false)] st0 ⟨ks,trivial⟩ fun a1 w1 st1=>Wn ?_
 refine rH [] [Vi 0] [] [(0,VAt w (VSb N bl)),(2,Vb false),(3,Vi 0)] st1 ⟨ks,trivial⟩ ?_;intro a2 w2 st2;replace st2:St w.heap.size w 26 [] [(0,VAt w (VSb N bl)),(3,Vi ((0:Nat):Int))] a2 w2:=st2.cut;refine Wn ?_
 refine wp_loop_ghost (fun m aX wX=>∃j:Nat,j+m=bl.length/\(∀(i:Nat) (x:P2×Bool),i<j->bl[i]? =some x->x.2=false)/\St w.heap.size w 26 [] [(0,VAt w (VSb N bl)),(3,Vi j)] aX wX) bl.length ⟨0,by omega,fun i x hi=>absurd hi (by omega),st2⟩ ?_;intro m aL wL ⟨j,hj,hgood,st2⟩;by_cases hlt:j<bl.length
 ·
  refine Wn ?_
  refine rH [] [Vi j,VAt w (VSb N bl),Vi (bl.length:Int),Vb true] [] [(0,VAt w (VSb N bl)),(3,Vi j),(7,Vb true)] st2 ⟨ks,ks,(kr1 5 fun _ _ _ _ _ x0 X0=>len_Sb rfl rfl x0 X0),(kr2 4 6 fun _ _ _ _ _ x0 X0 _ x1 X1=>⟨_,run_lssi rfl (x0.trans X0) (x1.trans X1),congrArg Value.bool (dT (by omega))⟩),trivial⟩ fun a3 w3 st3=>Wn ?_
  refine cT st3 ?_;obtain⟨⟨a,b⟩,hx⟩:∃x,bl[j]? =some x:=⟨_,List.getElem?_eq_getElem hlt⟩;cases b with
  |true=>
   refine Wn ?_
   refine rH [] [VAt w (VSb N bl),Vi j,VAt w (VEp 32 8 (EVb N (a,true))),VAt w (VEp 32 4 (VqB N a.1 true)),VqB N a.1 true,Vb false,Vb true,Vb true,VT,VT,VT,VT,VT,VT,VT,Vb true] [] [(0,VAt w (VSb N bl)),(3,Vi j),(7,Vb true),(25,Vb true)] st3 ⟨ks,ks,(kr2 10 11 fun _ _ _ _ _ x0 X0 _ x1 X1=>index_Sb rfl x0 X0 x1 X1 hx),(kr1 12 fun _ _ _ _ _ x0 X0=>field_EpG0 rfl x0 X0),(kr1 13 fun _ _ _ h _ x0 X0=>load_EpG (A:=VqB N a.1 true) Sb.out rfl x0 X0 h.k.below),(kd1 fun _ _ _ _ _ X0=>cR4ValidB (b:=true) (a:=a.1) X0),ks,ks,ks,ks,ks,ks,ks,ks,ks,ks,trivial⟩ fun a4 w4 st4=>Wn ?_
   refine cT st4 ?_;refine Wn ?_
   refine rH [] [Vb false] [] [(0,VAt w (VSb N bl)),(3,Vi j),(7,Vb true),(25,Vb true),(2,Vb false)] st4 ⟨ks,trivial⟩ fun a5 w5 st5=>Wn ?_
   exact wp_ret (rS 2 (Vb false) st5 fun vr r4=>r4)
  |false=>
   refine Wn ?_
   refine rH [] [VAt w (VSb N bl),Vi j,VAt w (VEp 32 8 (EVb N (a,false))),VAt w (VEp 32 4 (VqB N a.1 false)),VqB N a.1 false,Vb true,Vb false,Vb false,VAt w (VSb N bl),Vi j,VAt w (VEp 32 8 (EVb N (a,false))),VAt w (VEp 32 4 (Vq N a.2)),Vq N a.2,Vb true,Vb false,Vb false] [] [(0,VAt w (VSb N bl)),(3,Vi j),(7,Vb true),(25,Vb false)] st3 ⟨ks,ks,(kr2 10 11 fun _ _ _ _ _ x0 X0 _ x1 X1=>index_Sb rfl x0 X0 x1 X1 hx),(kr1 12 fun _ _ _ _ _ x0 X0=>field_EpG0 rfl x0 X0),(kr1 13 fun _ _ _ h _ x0 X0=>load_EpG (A:=VqB N a.1 false) Sb.out rfl x0 X0 h.k.below),(kd1 fun _ _ _ _ _ X0=>cR4ValidB (b:=false) (a:=a.1) X0),ks,ks,ks,ks,(kr2 18 19 fun _ _ _ _ _ x0 X0 _ x1 X1=>index_Sb rfl x0 X0 x1 X1 hx),(kr1 20 fun _ _ _ _ _ x0 X0=>field_EpG1 rfl x0 X0),(kr1 21 fun _ _ _ h _ x0 X0=>load_EpG (Stab_Vq _ _) rfl x0 X0 h.k.below),(kd1 fun _ _ _ _ _ X0=>cR4Valid X0),ks,ks,trivial⟩ fun a4 w4 st4=>Wn ?_
   refine cF st4 ?_;refine Wn ?_
   refine rH [] [Vi j,Vi ((j+1:Nat):Int),Vi ((j+1:Nat):Int)] [] [(0,VAt w (VSb N bl)),(7,Vb true),(25,Vb false),(3,Vi ((j+1:Nat):Int))] st4 ⟨?s0,(kr1 8 fun _ _ _ _ v0 x0 X0=>⟨_,run_addi rfl (x0.trans (show v0= .int .i64 j from X0)) rfl wO,congrArg (Value.int .i64) (by omega)⟩),ks,trivial⟩ ?_
   case s0=>
    refine k_run0 SbB.out (by kernel_rfl) fun listed ac Y h D hnl=>⟨trivial,?_⟩
    obtain⟨v0,x0,X0⟩:=h.out0 hnl (3,Vi j) (.tail _ (.head _)) 2 (by kernel_rfl) (.inr (by kernel_rfl));exact⟨_,run_move rfl,by rw [x0];exact X0⟩
   intro a5 w5 st5;replace st5:St w.heap.size w 26 [] [(0,VAt w (VSb N bl)),(7,Vb true),(25,Vb false),(3,Vi ((j+1:Nat):Int))] a5 w5:=st5
   have hgood2:∀(i:Nat) (x:P2×Bool),i<j+1->bl[i]? =some x->x.2=false:=fun i x hi hix=>by
    rcases Nat.lt_or_ge i j with h|h
    ·exact hgood i x h hix
    ·obtain rfl:i=j:=by omega
     rw [hx] at hix;cases hix;rfl
   exact⟨m - 1,by omega,j+1,by omega,hgood2,st5.cut⟩
 ·
  exfalso;obtain⟨i,x,hi,hx⟩:=hbad
  have hil:i<bl.length:=by
   rcases Nat.lt_or_ge i bl.length with h|h
   ·exact h
   ·rw [List.getElem?_eq_none h] at hi;cases hi
  have:=hgood i x (by omega) hi;rw [hx] at this;cases this

end Go.Proofs.YteacdbgalloaiaaGreat
