/- Contracts of the packages integer, rat, plane, polygon and their references. -/
import Derived.Test.YteacdbgalloaiaaGreatH23
set_option linter.unusedVariables false
set_option maxRecDepth 100000
set_option maxHeartbeats 6400000
namespace Go.Proofs.YteacdbgalloaiaaGreat
open Go.RowKit
open Go
instance iCeFnV:CeT 97:=⟨_,Tryz.underlying97,rfl⟩
def cv (vs:List P2)(k:Nat):P2:=vs.getD (k % vs.length) (0,0)
theorem cv_get {vs:List P2}(k:Nat)(h:0<vs.length):vs[k % vs.length]? =some (cv vs k):=by
 have:=Nat.mod_lt k h;rw [List.getElem?_eq_getElem this];simp [cv,List.getD_eq_getElem?_getD,this]
def VSg (N:Nat)(vs:List P2)(k:Nat):VP:=Vp N (cv vs k).1 (cv vs k).2 (cv vs (k+1)).1 (cv vs (k+1)).2
abbrev SdE (N:Nat)(vs:List P2)(wb:World):={x:Nat×Value // x.1<vs.length/\VSg N vs x.1 x.2 wb}
def encS {N:Nat}{vs:List P2}{wb:World}(x:SdE N vs wb):Array Value:=#[.int .i64 (x.1.1:Int),x.1.2]
structure RowK (BT:List (TypeId×Nat×Nat))(A B:World):Prop where
 size:A.heap.size<=B.heap.size
 row:∀(h:Nat) (cs:Array Value) (T:TypeId),A.heap[h]? =some (Obj.cells cs T (0,0))->(∀e∈BT,e.1≠T)->B.heap[h]? =A.heap[h]?
theorem RowK.refl (BT:List (TypeId×Nat×Nat))(A:World):RowK BT A A:=⟨Nat.le_refl _,fun _ _ _ _ _=>rfl⟩
theorem RowK.trans {BT:List (TypeId×Nat×Nat)}{A B C:World}(h:RowK BT A B)(k:RowK BT B C):RowK BT A C:=⟨Nat.le_trans h.size k.size,fun j cs T hj hn=>by
 have h1:=h.row j cs T hj hn
 exact(k.row j cs T (h1.trans hj) hn).trans h1⟩
theorem RI.rowK {BT BT2:List (TypeId×Nat×Nat)}{A B:World}(h:RI BT A B)(h1:∀e∈BT,∃e'∈BT2,e'.1=e.1):RowK BT2 A B:=⟨h.size,fun j cs T hj hn=>h.row j cs T hj (.inl fun e he q=>by
 obtain⟨e',h2,h3⟩:=h1 e he
 exact absurd (h3.trans q) (hn e' h2))⟩
theorem RowK.setRow {BT:List (TypeId×Nat×Nat)}{A:World}{g:Nat}{old cs:Array Value}{T:TypeId}(hg:A.heap[g]? =some (.cells old T (0,0)))(hT:∃e∈BT,e.1=T):RowK BT A (A.setRow g cs):=⟨by simp [World.setRow],fun h cs' T' hk hn=>setRow_other A g h cs (by
 rintro rfl
 rw [hg] at hk;cases hk;obtain⟨e,h1,h2⟩:=hT
 exact hn e h1 h2)⟩
def Kp (wb:World)(BT:List (TypeId×Nat×Nat))(A B:World):Prop:=(Below wb.heap.size wb A->Below wb.heap.size wb B)/\RowK BT A B
theorem Kp.trans {wb:World}{BT:List (TypeId×Nat×Nat)}{A B C:World}(h:Kp wb BT A B)(k:Kp wb BT B C):Kp wb BT A C:=⟨fun x=>k.1 (h.1 x),h.2.trans k.2⟩
theorem Kp.put {wb:World}{BT:List (TypeId×Nat×Nat)}{n0:Nat}(hn:wb.heap.size<=n0)(W:World)(l:Nat)(o o':Obj)(hl:n0<=l)(h:W.heap[l]? =some o)(ho:o.isCells=false)(_:o.isWalk=false):Kp wb BT W (W.putObj l o'):=
 ⟨fun x=>x.grown (grownBy_putObj' W l o') x.size fun k e=>by cases e;omega,by simp,fun j cs T hj _=>(grownBy_putObj' W l o').block j (lt_blk hj) fun e=>by
  cases e;rw [h] at hj;cases hj
  cases ho⟩
theorem grown_of {w w':World}(h:Below w.heap.size w w'):w.grownBy w' none:=⟨h.os,h.tape,h.output,h.size,fun k hk _=>h.block k hk⟩
section
variable {ρ:Operand->Value}{o:Oper}{W:World}{x y z:Operand}{va vb vc:Value}
theorem run_enterV {f:FuncId}{u:Value}{ats:Array TypeId}(ho:o.op= .call {callee:= .value x,args:=#[y],argTypes:=ats})(hx:ρ x= .func (.func f) #[] #[u])(hy:ρ y=vb)(hcall:∀args w,(callFunc f args).run Tryz.prog w= .ok (.enter f args) w):(execOp ρ o).run Tryz.prog W= .ok (.enter f #[vb,u]) W:=by
 unfold execOp;simp only [ho,resolve,invoke,Deferred.ofValue,Sem.run_bind,Sem.run_pure,Result.andThen_ok,List.map_toArray,List.map_cons,List.map_nil,hx,hy];exact hcall #[vb,u] W
theorem run_yieldV2 {l:Nat}{ats:Array TypeId}{r:Result Next}(ho:o.op= .call {callee:= .value x,args:=#[y,z],argTypes:=ats})(hx:ρ x= .func (.yield l) #[] #[])(hy:ρ y=vb)(hz:ρ z=vc)(h:(Instr.yield l #[vb,vc]).run Tryz.prog W=r):(execOp ρ o).run Tryz.prog W=r:=by
 unfold execOp;simp only [ho,resolve,invoke,Deferred.ofValue,Sem.run_bind,Sem.run_pure,Result.andThen_ok,List.map_toArray,List.map_cons,List.map_nil,hx,hy,hz];exact h
theorem KI.oth {md:Region.Mode}{ops:Array Oper}{a0:Act}{V:Nat->VP}{n0:Nat}{w0:World}{B:List Bd}{SL:List (Nat×VP)}{listed:Array Bool}{a:Act}{w:World}(h:KI md ops a0 V n0 w0 B SL listed a w)(t:Nat)(ht:ops.all (fun o=>o.dst !=some t)=true):a.tmps[t]? =a0.tmps[t]? :=
 h.other t fun i o ho=>by
  rw [Array.all_eq_true'] at ht;have:=ht o (Array.mem_of_getElem? ho)
  simpa using this
theorem put2_get {a:Act}{p q t:Nat}{u v:Value}(hp:t≠p)(hq:t≠q):((a.put (some p) u).put (some q) v).tmps[t]? =a.tmps[t]? :=by
 rw [put_get_ne (by simpa using fun e=>hq e.symm),put_get_ne (by simpa using fun e=>hp e.symm)]
theorem put_eval {a:Act}{p:Nat}{u:Value}(hp:p<a.tmps.size):(a.put (some p) u).eval (.tmp p)=u:=by
 have:=put_get_self (a:=a) (v:=u) (d:=p) hp;simp [Act.eval,Array.getD_eq_getD_getElem?,this]
theorem map_snoc {α:Type}{f:α->Nat}{pre:List α}{x:α}{j:Nat}(h:pre.map f=List.range j)(hx:f x=j):(pre++ [x]).map f=List.range (j+1):=by
 rw [List.map_append,h,List.range_succ,List.map_singleton,hx]
end
theorem sides_stops {n:Nat}{wb wL:World}{N:Nat}{vs:List P2}{lv c:Value}{b1 b3:Nat}{BT:List (TypeId×Nat×Nat)}(hbt1:∀e∈BT,e.1≠23)(hbt2:∀e∈BT,e.1≠97)(hB:Below wb.heap.size wb wL)(hS:VSv N vs lv wb)(p1:wL.heap[b1]? =some (.cells #[lv] 23 (0,0)))(p3:wL.heap[b3]? =some (.cells #[c] 97 (0,0)))(hc:VCo lv c wL):
 SeqStopsK (fW none) n Tryz.prog 88 #[.pointer (some ⟨b1,0,none⟩),.pointer (some ⟨b3,0,none⟩)] (encS (N:=N) (vs:=vs) (wb:=wb)) (Kp wb BT) (fun xs=>xs.map (·.1.1)=List.range vs.length) (fun pre=>pre.map (·.1.1)=List.range pre.length/\pre.length<=vs.length) vs.length wL:=by
 intro l J Jx W hW hJ hJx hY h0;have hBW:Below wb.heap.size wb W:=hB.trans (hW.mono hB.size);replace p1:=(hW.block _ (lt_blk p1)).trans p1;replace p3:=(hW.block _ (lt_blk p3)).trans p3;obtain⟨b5,rfl,p5⟩:=hc;replace p5:=(hW.block _ (lt_blk p5)).trans p5;have hmax:=VSv_max hS;refine callsIn_of_wp Tryz.func88 rfl trivial ?_ rfl;simp only [Tryz.ntmps88,List.size_toArray,List.length_cons,List.length_nil,Nat.reduceAdd,Nat.reduceSub,Array.replicate_succ,Array.replicate_zero,List.push_toArray,List.append_toArray,List.nil_append,List.cons_append];have st0:St W.heap.size W 23 [] [(0,VEq (.func (.yield l) #[] #[])),(1,VPb 23 lv),(2,VPb 97 (.func (.func 123) #[] #[.pointer (some ⟨b5,0,none⟩)]))] _ W:=St.begin (a:=⟨#[.func (.yield l) #[] #[],.pointer (some ⟨b1,0,none⟩),.pointer (some ⟨b3,0,none⟩),undef,undef,undef,undef,undef,undef,undef,undef,undef,undef,undef,undef,undef,undef,undef,undef,undef,undef,undef,undef],[]⟩) rfl rfl (Lq.2 ⟨⟨_,rfl,rfl⟩,Lq.2 ⟨⟨_,rfl,_,rfl,p1⟩,Lq.2 ⟨⟨_,rfl,_,rfl,p3⟩,L0⟩⟩⟩);generalize(⟨#[.func (.yield l) #[] #[],.pointer (some ⟨b1,0,none⟩),.pointer (some ⟨b3,0,none⟩),undef,undef,undef,undef,undef,undef,undef,undef,undef,undef,undef,undef,undef,undef,undef,undef,undef,undef,undef,undef],[]⟩:Act)=a0 at st0 ⊢;refine Wm ?_
 have:Sb [] (VPb 23 lv):=⟨Stab_VPb (by simp)⟩;have:Sb [] (VPb 97 (.func (.func 123) #[] #[.pointer (some ⟨b5,0,none⟩)])):=⟨Stab_VPb (by simp)⟩;refine rJ [] [VEq lv,Vi (vs.length:Int),Vi 0] [] [(0,VEq (.func (.yield l) #[] #[])),(2,VPb 97 (.func (.func 123) #[] #[.pointer (some ⟨b5,0,none⟩)])),(6,Vi (vs.length:Int)),(7,Vi 0)] st0 ⟨(by refine kr fun _ ac Y h D=>?_;obtain⟨v0,hv0,X0⟩:=h.ot 1;exact load_Pb rfl hv0 X0),(kr1 5 fun _ _ _ _ _ hv0 X0=>len_Sv rfl rfl hv0 X0 hS),ks,trivial⟩ ?_;intro a1 w1 st1;clear st0 p1 p3;refine Wm ?_
 have hgr:=grown_of st1.k.below;refine wpIn_loop_ghost (fun m aX wX=>∃(j:Nat) (pre:List (SdE N vs wb)),j+m=vs.length/\pre.map (·.1.1)=List.range j/\J pre wX/\Below wb.heap.size wb wX/\wX.heap[b5]? =some (.cells #[lv] 23 (0,0))/\St wX.heap.size wX 23 [] [(0,VEq (.func (.yield l) #[] #[])),(2,VPb 97 (.func (.func 123) #[] #[.pointer (some ⟨b5,0,none⟩)])),(6,Vi (vs.length:Int)),(7,Vi ((j:Nat):Int))] aX wX) vs.length ⟨0,[],by omega,rfl,hJ [] _ _ none h0 hgr (fun r e=>by cases e),hBW.trans (st1.k.below.mono hBW.size),(st1.k.below.block _ (lt_blk p5)).trans p5,⟨⟨Below.refl _ _,fun b hb=>absurd hb (by simp),fun b hb=>absurd hb (by simp),fun b hb=>absurd hb (by simp)⟩,Nat.le_refl _,st1.size,st1.defers,st1.sl⟩⟩ ?_;clear st1 hgr p5 h0;intro m aL W1 ⟨j,pre,hj,hpre,hJ1,hB1,p5,st⟩;have hlen:pre.length=j:=by have:=congrArg List.length hpre;simpa using this
 by_cases hlt:j<vs.length
 ·refine Wm ?_
  have:Sb [] (VPb 97 (.func (.func 123) #[] #[.pointer (some ⟨b5,0,none⟩)])):=⟨Stab_VPb (by simp)⟩;refine rJ [] [Vb true] [] [(0,VEq (.func (.yield l) #[] #[])),(2,VPb 97 (.func (.func 123) #[] #[.pointer (some ⟨b5,0,none⟩)])),(6,Vi (vs.length:Int)),(7,Vi ((j:Nat):Int)),(8,Vb true)] st ⟨(by refine kr fun _ ac Y h D=>?_;obtain⟨v0,hv0,X0⟩:=h.ot 7;have hV0':v0= .int .i64 ((j:Nat):Int):=X0;obtain⟨v1,hv1,X1⟩:=h.ot 6;have hV1':v1= .int .i64 (vs.length:Int):=X1;exact⟨_,run_lssi rfl (hv0.trans hV0') (hv1.trans hV1'),congrArg Value.bool (dT (by omega))⟩),trivial⟩ ?_;intro a2 w2 st2;clear st;refine Wm ?_
  refine cTI st2 ?_;refine Wm ?_
  refine rJ [] [Vi ((j:Nat):Int),Vi ((j:Nat):Int)] [] [(0,VEq (.func (.yield l) #[] #[])),(2,VPb 97 (.func (.func 123) #[] #[.pointer (some ⟨b5,0,none⟩)])),(6,Vi (vs.length:Int)),(7,Vi ((j:Nat):Int)),(4,Vi ((j:Nat):Int))] st2 ⟨ks,ks,trivial⟩ ?_;intro a3 w3 st3;clear st2;have hJ3:=hJ _ _ _ none hJ1 (grown_of st3.k.below) (fun r e=>by cases e);have hB3:Below wb.heap.size wb w3:=hB1.trans (st3.k.below.mono hB1.size);replace p5:=(st3.k.below.block _ (lt_blk p5)).trans p5;replace st3:St w3.heap.size w3 23 [] [(0,VEq (.func (.yield l) #[] #[])),(2,VPb 97 (.func (.func 123) #[] #[.pointer (some ⟨b5,0,none⟩)])),(6,Vi (vs.length:Int)),(7,Vi ((j:Nat):Int)),(4,Vi ((j:Nat):Int))] a3 w3:=⟨⟨Below.refl _ _,fun b hb=>absurd hb (by simp),fun b hb=>absurd hb (by simp),fun b hb=>absurd hb (by simp)⟩,Nat.le_refl _,st3.size,st3.defers,st3.sl⟩;clear hJ1 hB1;refine Wm ?_
  refine rgY (BT:=[]) (k:=10) (Vl:=[VEq (.func (.yield l) #[] #[]),Vi ((j:Nat):Int),VEq (.func (.func 123) #[] #[.pointer (some ⟨b5,0,none⟩)]),Vi ((j:Nat):Int),VAt wb (Vv N (cv vs j).1 (cv vs j).2),VEq (.func (.func 123) #[] #[.pointer (some ⟨b5,0,none⟩)]),Vi ((j:Nat):Int),Vi ((j+1:Nat):Int),VAt wb (Vv N (cv vs (j+1)).1 (cv vs (j+1)).2),VAt wb (VSg N vs j)]) st3 ⟨ks,ks,?s2,ks,?s4,?s5,ks,?s7,?s8,?s9,trivial⟩ rfl rfl rfl rfl rfl (fun _ e=>by cases e) (by kernel_rfl) (by kernel_rfl) ?tail rfl (by kernel_rfl);case s2=>refine kr fun _ ac Y h D=>?_;obtain⟨v0,hv0,X0⟩:=h.ot 2;exact load_Pb rfl hv0 X0
  case s5=>refine kr fun _ ac Y h D=>?_;obtain⟨v0,hv0,X0⟩:=h.ot 2;exact load_Pb rfl hv0 X0
  case s4=>refine ke fun _ ac Y h D=>?_;obtain⟨v0,hv0,X0⟩:=h.dp D 12;obtain⟨v1,hv1,X1⟩:=h.dp D 13;exact⟨_,_,run_enterV rfl (hv0.trans X0) hv1 (fun _ _=>rfl),cCorner (wb:=wb) (k:=j) (lv:=lv) X1 ⟨b5,rfl,(h.k.below.block _ (lt_blk p5)).trans p5⟩ (hB3.trans (h.k.below.mono hB3.size)) hS (by omega) (cv_get j (by omega))⟩
  case s7=>exact kr1 16 fun _ _ _ _ v0 hv0 X0=>⟨_,run_addi rfl (hv0.trans (show v0= .int .i64 ((j:Nat):Int)from X0)) rfl (wrap_id (by omega) (by omega)),congrArg (Value.int .i64) (by omega)⟩
  case s8=>refine ke fun _ ac Y h D=>?_;obtain⟨v0,hv0,X0⟩:=h.dp D 15;obtain⟨v1,hv1,X1⟩:=h.dp D 17;exact⟨_,_,run_enterV rfl (hv0.trans X0) hv1 (fun _ _=>rfl),cCorner (wb:=wb) (k:=j+1) (lv:=lv) X1 ⟨b5,rfl,(h.k.below.block _ (lt_blk p5)).trans p5⟩ (hB3.trans (h.k.below.mono hB3.size)) hS (by omega) (cv_get (j+1) (by omega))⟩
  case s9=>exact kr2 14 18 fun _ _ _ h _ hv0 X0 _ hv1 X1=>build_segment (A:=VAt wb (Vv N (cv vs j).1 (cv vs j).2)) (B:=VAt wb (Vv N (cv vs (j+1)).1 (cv vs (j+1)).2)) rfl hv0 hv1 (fun v _ h=>AggV_Vv _ _ _ v wb h) (fun v _ h=>AggV_Vv _ _ _ v wb h) X0 X1
  case tail=>
   intro listed ac Y h D;obtain⟨v0,hv0,X0⟩:=h.dp D 10;obtain⟨v1,hv1,X1⟩:=h.dp D 11;obtain⟨v2,hv2,X2⟩:=h.dp D 19;have hV0':v0= .func (.yield l) #[] #[]:=X0;have hV1':v1= .int .i64 ((j:Nat):Int):=X1;obtain⟨fn,tmps,assign,body,hy,hR⟩:=hY pre ⟨(j,v2),hlt,X2⟩ Y (hJ _ _ _ none hJ3 (grown_of h.k.below) (fun r e=>by cases e)) (by omega);have hBd:Below wb.heap.size wb Y:=hB3.trans (h.k.below.mono hB3.size);have q5:=(h.k.below.block _ (lt_blk p5)).trans p5;refine⟨fun _ _=>trivial,?_⟩;rw [Oper.semAt_eq _ _ _ (fun _ e=>by cases e),run_yieldV2 (x:= .tmp 10) (y:= .tmp 11) (z:= .tmp 19) (vb:= .int .i64 ((j:Nat):Int)) (vc:=v2) rfl (hv0.trans hV0') (hv1.trans hV1') hv2 hy];refine⟨(by intro e;cases e),hR.mono ?_⟩;have hsz:ac.tmps.size=23:=by rw [h.size,st3.size]
   have hdf:ac.defers= []:=by rw [h.defers,st3.defers]
   have o2:ac.tmps[2]? =a3.tmps[2]? :=h.oth 2 (by kernel_rfl);have o0:ac.tmps[0]? =a3.tmps[0]? :=h.oth 0 (by kernel_rfl);have o6:ac.tmps[6]? =a3.tmps[6]? :=h.oth 6 (by kernel_rfl);have o7:ac.tmps[7]? =a3.tmps[7]? :=h.oth 7 (by kernel_rfl);obtain⟨x0,x1,x2⟩:=st3.sl (0,VEq (.func (.yield l) #[] #[])) (lS_mem rfl);obtain⟨z0,z1,z2,z3,z4⟩:=st3.sl (2,VPb 97 (.func (.func 123) #[] #[.pointer (some ⟨b5,0,none⟩)])) (lS_mem rfl);obtain⟨y0,y1,y2⟩:=st3.sl (6,Vi (vs.length:Int)) (lS_mem rfl);obtain⟨u0,u1,u2⟩:=st3.sl (7,Vi ((j:Nat):Int)) (lS_mem rfl);have z5:=(h.k.below.block _ (lt_blk z4)).trans z4
   rintro e W2 (⟨rfl,hJ2,hK⟩|⟨rfl,hJ2⟩)
   ·refine⟨_,run_not (x:= .tmp 20) rfl (put_eval (by omega)),?_⟩;have q5':W2.heap[b5]? =some (.cells #[lv] 23 (0,0)):=(hK.2.row _ _ _ q5 hbt1).trans q5;have z6:=(hK.2.row _ _ _ z5 hbt2).trans z5;have st4:St W2.heap.size W2 23 [] [(0,VEq (.func (.yield l) #[] #[])),(2,VPb 97 (.func (.func 123) #[] #[.pointer (some ⟨b5,0,none⟩)])),(6,Vi (vs.length:Int)),(7,Vi ((j:Nat):Int)),(21,Vb false)] ((ac.put (some 20) (.bool true)).put (some 21) (.bool (!true))) W2:=⟨⟨Below.refl _ _,fun b hb=>absurd hb (by simp),fun b hb=>absurd hb (by simp),fun b hb=>absurd hb (by simp)⟩,Nat.le_refl _,by rw [put_size,put_size,hsz],by rw [put_defers',put_defers',hdf],Lq.2 ⟨⟨_,(put2_get (t:=0) (by decide) (by decide)).trans (o0.trans x1),x2⟩,Lq.2 ⟨⟨_,(put2_get (t:=2) (by decide) (by decide)).trans (o2.trans z1),z2,z3,z6⟩,Lq.2 ⟨⟨_,(put2_get (t:=6) (by decide) (by decide)).trans (o6.trans y1),y2⟩,Lq.2 ⟨⟨_,(put2_get (t:=7) (by decide) (by decide)).trans (o7.trans u1),u2⟩,Lq.2 ⟨⟨_,put_get_self (by rw [put_size,hsz];decide),rfl⟩,L0⟩⟩⟩⟩⟩⟩;generalize(ac.put (some 20) (.bool true)).put (some 21) (.bool (!true))=a4 at st4 ⊢;have hB2:=hK.1 hBd;refine Wm ?_
    refine cFI st4 ?_;refine Wm ?_
    refine rJ [] [Vi ((j+1:Nat):Int),Vi ((j+1:Nat):Int)] [] [(0,VEq (.func (.yield l) #[] #[])),(2,VPb 97 (.func (.func 123) #[] #[.pointer (some ⟨b5,0,none⟩)])),(6,Vi (vs.length:Int)),(7,Vi ((j+1:Nat):Int))] st4 ⟨?s0,ks,trivial⟩ ?_
    case s0=>
     refine k_run0 SbB.out (by kernel_rfl) fun listed ac Y h D hnl=>⟨trivial,?_⟩
     obtain⟨v0,hv0,X0⟩:=h.out0 hnl (7,Vi ((j:Nat):Int)) (lS_mem rfl) 1 (by kernel_rfl) (.inr (by kernel_rfl));exact⟨_,run_addi rfl (hv0.trans (show v0= .int .i64 ((j:Nat):Int)from X0)) rfl (wrap_id (by omega) (by omega)),congrArg (Value.int .i64) (by omega)⟩
    intro a5 w5 st5;exact⟨m - 1,by omega,j+1,pre++ [⟨(j,v2),hlt,X2⟩],by omega,map_snoc hpre rfl,hJ _ _ _ none hJ2 (grown_of st5.k.below) (fun r e=>by cases e),hB2.trans (st5.k.below.mono hB2.size),(st5.k.below.block _ (lt_blk q5')).trans q5',⟨⟨Below.refl _ _,fun b hb=>absurd hb (by simp),fun b hb=>absurd hb (by simp),fun b hb=>absurd hb (by simp)⟩,Nat.le_refl _,st5.size,st5.defers,st5.sl⟩⟩
   ·refine⟨_,run_not (x:= .tmp 20) rfl (put_eval (by omega)),?_⟩;refine Wm ?_
    refine wpIn_cond_true (put_eval (by rw [put_size];omega)) ?_;refine wpIn_ret ?_;simp only [Exit.inBlock,Exit.then];refine bodyPost_ret (results_none rfl _ _ _) (by rw [put_defers',put_defers',hdf]) ⟨⟨_,rfl⟩,.inr ⟨_,⟨?_,?_⟩,hJ2⟩⟩
    ·rw [List.length_append,List.length_singleton,hlen];exact map_snoc hpre rfl
    ·rw [List.length_append,List.length_singleton,hlen];omega
 ·refine Wm ?_
  have:Sb [] (VPb 97 (.func (.func 123) #[] #[.pointer (some ⟨b5,0,none⟩)])):=⟨Stab_VPb (by simp)⟩;refine rJ [] [Vb false] [] [(0,VEq (.func (.yield l) #[] #[])),(2,VPb 97 (.func (.func 123) #[] #[.pointer (some ⟨b5,0,none⟩)])),(6,Vi (vs.length:Int)),(7,Vi ((j:Nat):Int)),(8,Vb false)] st ⟨(by refine kr fun _ ac Y h D=>?_;obtain⟨v0,hv0,X0⟩:=h.ot 7;have hV0':v0= .int .i64 ((j:Nat):Int):=X0;obtain⟨v1,hv1,X1⟩:=h.ot 6;have hV1':v1= .int .i64 (vs.length:Int):=X1;exact⟨_,run_lssi rfl (hv0.trans hV0') (hv1.trans hV1'),congrArg Value.bool (dF (by omega))⟩),trivial⟩ ?_;intro a2 w2 st2;refine Wm ?_
  obtain⟨vc,hc1,hc2⟩:=st2.slot (8,Vb false) (lS_mem rfl);refine wpIn_cond_false (hc1.trans hc2) (Ix ?_);simp only [Exit.inBlock,Exit.then,if_true];exact bodyPost_end (results_none rfl _ _ _) st2.defers ⟨⟨_,rfl⟩,.inl ⟨pre,by rw [hpre];congr 1;omega,hJ _ _ _ none hJ1 (grown_of st2.k.below) (fun r e=>by cases e)⟩⟩
def VKR (B:Nat)(BT:List (TypeId×Nat×Nat))(W:World):VP:=fun _ w=>(W.heap.size<=w.heap.size/\∀(k:Nat) (o:Obj),B<=k->W.heap[k]? =some o->NoCl o->w.heap[k]? =some o)/\RowK BT W w
theorem Stab_VKR {B:Nat}{BT BT2:List (TypeId×Nat×Nat)}{W:World}(h:∀e∈BT,e.1≠1000000)(h1:∀e∈BT,∃e'∈BT2,e'.1=e.1):Stab BT (VKR B BT2 W):=fun _ _ _ ⟨⟨q0,q1⟩,q2⟩ hr=>⟨⟨Nat.le_trans q0 hr.size,fun k o hB hk ho=>hr.oth h k o (q1 k o hB hk ho) ho⟩,q2.trans (hr.rowK h1)⟩
theorem VKR_refl {B:Nat}{BT:List (TypeId×Nat×Nat)}{W:World}(v:Value):VKR B BT W v W:=⟨⟨Nat.le_refl _,fun _ _ _ h _=>h⟩,RowK.refl _ W⟩
theorem VKR_below {B:Nat}{BT:List (TypeId×Nat×Nat)}{W W':World}(h:Below W.heap.size W W')(v:Value):VKR B BT W v W':=⟨⟨h.size,fun k o _ hk _=>(h.block k (lt_blk hk)).trans hk⟩,⟨h.size,fun k _ _ hk _=>h.block k (lt_blk hk)⟩⟩
section
variable {n0 N:Nat}{w0:World}{L:List Bd}{SL:List (Nat×VP)}{a a':Act}{w W:World}
def AllEq (SL:List (Nat×VP)):Prop:=∀p∈SL,∃u,p.2=VEq u
def Fixed (SL:List (Nat×VP))(L:List Bd):Prop:=∀b∈L,b.ia=none/\b.ik=none/\∃u,(b.t,VEq u)∈SL
theorem St.val (h:St n0 w0 N L SL a w){t:Nat}{u:Value}(ht:(t,VEq u)∈SL):a.tmps[t]? =some u:=by
 obtain⟨v,h1,h2⟩:=h.sl _ ht;obtain rfl:v=u:=h2;exact h1
theorem St.act {L0:List Bd}(h:St n0 w0 N L SL a' w)(h0:St n0 w0 N L0 SL a W)(hf:Fixed SL L)(he:AllEq SL):St n0 w0 N L SL a w:=by
 have e:∀b∈L,a.tmps[b.t]? =a'.tmps[b.t]? :=fun b hb=>by
  obtain⟨-,-,u,hu⟩:=hf b hb;rw [h.val hu,h0.val hu]
 refine⟨⟨h.k.below,fun b hb hon=>?_,fun b hb c hc hne h1 h2=>?_,h.k.fa⟩,h.n,h0.size,h0.defers,fun p hp=>?_⟩
 ·obtain⟨g,cs,e1,e2⟩:=h.k.ok b hb hon;exact⟨g,cs,by rw [e b hb];exact e1,e2⟩
 ·rw [e b hb,e c hc];exact h.k.ne b hb c hc hne h1 h2
 ·obtain⟨u,hu⟩:=he p hp;obtain⟨v,h1,h2⟩:=h0.sl p hp;rw [hu] at h2;obtain rfl:v=u:=h2;exact⟨v,h1,by rw [hu];rfl⟩
theorem St.joinB {b:Bd}{SL2:List (Nat×VP)}(h:St n0 w0 N L SL a w)(h2:St n0 w0 N [b] SL2 a w)(hia:b.ia=none)(hL:∀c∈L,c.ia=none/\c.ik=none)(hik:b.ik=none)(hne:∀c∈L,a.tmps[b.t]? ≠a.tmps[c.t]?):St n0 w0 N (L++ [b]) SL2 a w:=by
 refine⟨⟨h.k.below,fun c hc hon=>?_,fun c hc d D hn h3 h4=>?_,fun c hc hn hk=>?_⟩,h.n,h.size,h.defers,h2.sl⟩
 ·rcases List.mem_append.1 hc with hc|hc
  ·exact h.k.ok c hc hon
  ·exact h2.k.ok c hc hon
 ·rcases List.mem_append.1 hc with hc|hc<;>rcases List.mem_append.1 D with D|D
  ·exact h.k.ne c hc d D hn h3 h4
  ·rw [List.mem_singleton.1 D];exact(hne c hc).symm
  ·rw [List.mem_singleton.1 hc];exact hne d D
  ·rw [List.mem_singleton.1 hc,List.mem_singleton.1 D] at hn;exact absurd rfl hn
 ·rcases List.mem_append.1 hc with hc|hc
  ·exact absurd (hL c hc).2 hn
  ·rw [List.mem_singleton.1 hc] at hn;exact absurd hik hn
theorem St.addS (h:St n0 w0 N L SL a w){t:Nat}{V:VP}(ht:t<N)(hV:∀v,V v w):St n0 w0 N L ((t,V)::SL) a w:=
 ⟨h.k,h.n,h.size,h.defers,Lq.2 ⟨⟨a.tmps[t]'(by rw [h.size];exact ht),by simp,hV _⟩,h.sl⟩⟩
end
theorem St.over {n0 N:Nat}{w0:World}{L:List Bd}{SL SL2:List (Nat×VP)}{b:Bd}{a a':Act}{W W':World}(h:St n0 w0 N L SL a W)(h2:St W.heap.size W N [b] SL2 a' W')(hf:Fixed SL L)(hs:∀p∈SL,p∈SL2)[hL:SbB [] L](hia:b.ia=none)(hik:b.ik=none):St n0 w0 N (L++ [b]) SL2 a' W':=by
 have e:∀c∈L,a'.tmps[c.t]? =a.tmps[c.t]? :=fun c hc=>by
  obtain⟨-,-,u,hu⟩:=hf c hc;rw [h.val hu,h2.val (hs _ hu)]
 have hb:=h2.k.below
 have lo:∀c∈L,∃g,a'.tmps[c.t]? =some (.pointer (some ⟨g,0,none⟩))/\g<W.heap.size:=fun c hc=>by
  obtain⟨g,cs,e1,-,e3,-⟩:=h.k.ok c hc (by rw [(hf c hc).1];rfl);exact⟨g,by rw [e c hc];exact e1,lt_blk e3⟩
 obtain⟨gb,cb,b1,b2,b3⟩:=h2.k.ok b List.mem_cons_self (by rw [hia];rfl)
 have hne:∀c∈L,a'.tmps[b.t]? ≠a'.tmps[c.t]? :=fun c hc=>by
  obtain⟨g,h3,h4⟩:=lo c hc;rw [b1,h3];intro q;cases q;omega
 refine⟨⟨h.k.below.trans (hb.mono h.n),fun c hc hon=>?_,fun c hc d D hn h3 h4=>?_,fun c hc hn hk=>?_⟩,Nat.le_trans h.n hb.size,h2.size,h2.defers,h2.sl⟩
 ·rcases List.mem_append.1 hc with hc|hc
  ·obtain⟨g,cs,e1,e2,e3,e4,e5,e6,e7⟩:=h.k.ok c hc hon;exact⟨g,cs,by rw [e c hc];exact e1,e2,(hb.block _ (lt_blk e3)).trans e3,e4,e5,fun hk=>(hL.out c hc).1 _ _ _ (e6 hk) (RI.of_below hb),fun h0 hk=>(hL.out c hc).2 _ _ _ (e7 h0 hk) (RI.of_below hb)⟩
  ·rw [List.mem_singleton.1 hc];exact⟨gb,cb,b1,Nat.le_trans h.n b2,b3⟩
 ·rcases List.mem_append.1 hc with hc|hc<;>rcases List.mem_append.1 D with D|D
  ·rw [e c hc,e d D];exact h.k.ne c hc d D hn h3 h4
  ·rw [List.mem_singleton.1 D];exact(hne c hc).symm
  ·rw [List.mem_singleton.1 hc];exact hne d D
  ·rw [List.mem_singleton.1 hc,List.mem_singleton.1 D] at hn;exact absurd rfl hn
 ·rcases List.mem_append.1 hc with hc|hc
  ·exact absurd (hf c hc).2.1 hn
  ·rw [List.mem_singleton.1 hc] at hn;exact absurd hik hn
theorem zip2 (a:Act)(D:a.defers= [])(p q:Nat)(u v:Value):({tmps:=(#[p,q].zip #[u,v]).foldl (fun t (p,v)=>t.setIfInBounds p v) a.tmps,defers:=[]}:Act)=(a.put (some p) u).put (some q) v:=by
 cases a with
 |mk tm df=>
  simp only at D;subst D;simp [Act.put]
def ixs {N:Nat}{vs:List P2}{wb:World}(pre:List (SdE N vs wb)):List Nat:=pre.map (·.1.1)
def RdPost (n0:Nat)(wb:World)(Nf:Nat)(L Lx:List Nat->List Bd)(E Ex:List Nat->World->Prop)(SL:List (Nat×VP))(p:Nat)(V:VP)(ks:List Nat):Exit->Act->World->Prop
 | .normal,a,w=>St n0 wb Nf (L ks) ((p,V)::SL) a w/\E ks w
 | .ret,a,w=>St n0 wb Nf (Lx ks) ((p,V)::SL) a w/\Ex ks w
 |_,_,_=>False
theorem range_sides {n Nf tk p q t:Nat}{wb w:World}{N:Nat}{vs:List P2}{lv:Value}{a:Act}{assign body:Code}{Q:Exit->Act->World->Prop}{BT:List (TypeId×Nat×Nat)}
 (L Lx:List Nat->List Bd) (E Ex:List Nat->World->Prop) (SL:List (Nat×VP)) (st:St wb.heap.size wb Nf (L []) SL a w) (hE0:E [] w) (SA:Nat->List (Nat×VP)) (hE:∀ks,OwnFrom w.heap.size (fun (_:Unit) W=>E ks W)) (hEx:∀ks,OwnFrom w.heap.size (fun (_:Unit) W=>Ex ks W)) (hk:∃v,a.tmps[tk]? =some v/\VSd lv v w) (hS:VSv N vs lv wb)
 (hf:∀ks,Fixed SL (L ks)) (hfx:∀ks,Fixed SL (Lx ks)) (he:AllEq SL) (hp:p<Nf) (hq:q<Nf) (hpq:q≠p) (hp2:∀x∈SL,x.1≠p/\x.1≠q) (n1:1<=n)
 (hbt1:∀e∈BT,e.1≠23) (hbt2:∀e∈BT,e.1≠97)
 [hL0:∀ks,SbB [] (L ks)] [hMA:∀k,SbS MK (SA k)] [hM:∀ks,SbB MK (L ks)] [hMx:∀ks,SbB MK (Lx ks)] [hMS:SbS MK SL]
 (hassign:∀(l k:Nat) (a1:Act) (W:World) (K:Act->World->Prop),wb.heap.size<=W.heap.size->Below wb.heap.size wb W->St W.heap.size W Nf [] ((q,VAt wb (VSg N vs k))::(p,Vi (k:Int))::SL) a1 W->(∀a' W',St W.heap.size W Nf [⟨t,none,none,73,16,VAt wb (VSg N vs k),VT⟩] (SA k++SL) a' W'->K a' W')->assign.wpIn (fW (some l)) (n - 1 - 1) Tryz.prog (Exit.then K (fun _ _ _=>False)) a1 W)
 (hbody:∀(l k:Nat) (ks:List Nat) (a1:Act) (W:World),k<vs.length->ks.length<vs.length->St wb.heap.size wb Nf (L ks++ [⟨t,none,none,73,16,VAt wb (VSg N vs k),VT⟩]) ((p,VKR w.heap.size BT W)::(SA k++SL)) a1 W->E ks W->body.wpIn (fW (some l)) (n - 1 - 1) Tryz.prog (RdPost wb.heap.size wb Nf L Lx E Ex SL p (VKR w.heap.size BT W) (ks++ [k])) a1 W)
 (hLt:∀ks ks',∀c∈L ks',∃c',c'∈L ks/\c'.t=c.t) (htL:∀ks,∀b∈L ks,b.t≠t)
 (hdone:∀(D:Nat) (W:World),w.heap.size<=D->St wb.heap.size wb Nf (L (List.range vs.length)) SL a W->E (List.range vs.length) W->W.heap[D]? =some (.deferred (some []))->Q .normal {a with defers:=[{target:= .collected D,args:=#[]}]} W)
 (hstop:∀(D:Nat) (j:Nat) (W:World),w.heap.size<=D->j<=vs.length->St wb.heap.size wb Nf (Lx (List.range j)) SL a W->Ex (List.range j) W->W.heap[D]? =some (.deferred (some []))->Code.ret.wpIn (fW none) n Tryz.prog Q {a with defers:=[{target:= .collected D,args:=#[]}]} W):
 (Code.rangeFunc (.tmp tk) #[p,q] assign body).wpIn (fW none) n Tryz.prog Q a w:=by
 obtain⟨v,hv,b1,b3,c,rfl,p1,p3,hc⟩:=hk;have hn:wb.heap.size<=w.heap.size:=st.n;have keep:∀{W W':World} {v:Value},VKR w.heap.size BT W v W'->Below wb.heap.size wb W'->KeepsFrom w.heap.size W W'/\Kp wb BT W W':=fun h hb=>⟨⟨h.1.1,fun k o hB hk ho=>h.1.2 k o hB hk (noCl_of ho)⟩,fun _=>hb,h.2⟩
 have hApp:∀k,SbS MK (SA k++SL):=fun k=>⟨fun x hx=>(List.mem_append.1 hx).elim (fun h=>(hMA k).out x h) (fun h=>hMS.out x h)⟩
 have hBx:∀k,SbB MK [⟨t,none,none,73,16,VAt wb (VSg N vs k),VT⟩]:=fun k=>inferInstance
 refine wpIn_rangeFunc_ownH (F:=fW none) (α:=SdE N vs wb) rfl n1 (gf:=88) (lb:=#[.pointer (some ⟨b1,0,none⟩),.pointer (some ⟨b3,0,none⟩)]) (by simp [Act.eval,Array.getD_eq_getD_getElem?,hv]) trivial (fun _ _=>rfl)
  (sides_stops (N:=N) (vs:=vs) (lv:=lv) hbt1 hbt2 st.k.below hS p1 p3 hc) (fun h k=>Kp.trans h k) (fun W l o o' hl h h1 h2=>Kp.put hn W l o o' hl h h1 h2) (Below.refl _ _) (fun _=>rfl)
  (fun pre W=>St wb.heap.size wb Nf (L (ixs pre)) SL a W/\E (ixs pre) W) (fun c pre W=>c= .ret/\St wb.heap.size wb Nf (Lx (ixs pre)) SL a W/\Ex (ixs pre) W)
  (fun s A B row hs hg hr=>⟨hs.1.grown hg fun r e=>⟨Nat.le_trans hn (hr r e).1,(hr r e).2⟩,hE _ () _ _ _ hs.2 hg hr⟩) (fun c s A B row hs hg hr=>⟨hs.1,hs.2.1.grown hg fun r e=>⟨Nat.le_trans hn (hr r e).1,(hr r e).2⟩,hEx _ () _ _ _ hs.2.2 hg hr⟩) ⟨st,hE0⟩
  (fun x a' W=>St wb.heap.size wb Nf [⟨t,none,none,73,16,VAt wb (VSg N vs x.1.1),VT⟩] (SA x.1.1++SL) a' W/\∀ks,∀c∈L ks,a'.tmps[t]? ≠a'.tmps[c.t]?)
  (fun x a' s A B row hs hg hr=>⟨(have:=hApp x.1.1;hs.1.grown hg fun r e=>⟨Nat.le_trans hn (hr r e).1,(hr r e).2⟩),hs.2⟩) ?assign ?body ?done ?stop
 case assign=>
  intro l pre x W K ⟨hI,hEi⟩ hK
  have hLp:∀r,r=p∨r=q->(L (ixs pre)).all (fun b=>b.t !=r)=true:=fun r hr=>by
   rw [List.all_eq_true];intro b hb;obtain⟨-,-,u,hu⟩:=hf _ b hb;have h1:b.t≠p/\b.t≠q:=hp2 _ hu;rcases hr with rfl|rfl<;>simp [h1.1,h1.2]
  have hSp:∀r,r=p∨r=q->SL.all (fun x=>x.1 !=r)=true:=fun r hr=>by
   rw [List.all_eq_true];intro b hb;have h1:=hp2 _ hb;rcases hr with rfl|rfl<;>simp [h1.1,h1.2]
  have hW:St W.heap.size W Nf [] SL a W:=⟨⟨Below.refl _ _,fun b hb=>absurd hb (by simp),fun b hb=>absurd hb (by simp),fun b hb=>absurd hb (by simp)⟩,Nat.le_refl _,hI.size,hI.defers,hI.sl⟩
  have h2:=(hW.put1 p (.int .i64 (x.1.1:Int)) (Vi (x.1.1:Int)) rfl hp rfl (hSp p (.inl rfl))).put1 q x.1.2 (VAt wb (VSg N vs x.1.1)) x.2.2 hq rfl (by
   rw [List.all_cons,hSp q (.inr rfl)]
   simp [hpq.symm])
  unfold encS;rw [zip2 a st.defers];refine hassign l x.1.1 _ W K hI.n hI.k.below h2 fun a' W' st'=>?_
  have hbl:=st'.k.below;have sI:=hI.over st' (hf _) (fun b hb=>List.mem_append_right _ hb) rfl rfl;have k:=keep (v:=undef) (VKR_below (B:=w.heap.size) (BT:=BT) hbl undef) sI.k.below;have sJ:=sI.sub (L':=L (ixs pre)) (SL':=SL) (fun b hb=>List.mem_append_left _ hb) (fun b hb=>List.mem_append_right _ hb);refine hK a' W' k.1 k.2 ⟨sJ.act st (hf _) he,hE _ () _ _ none hEi (grown_of hbl) (fun r e=>by cases e)⟩ ⟨sI.sub (fun b hb=>List.mem_append_right _ hb) (fun b hb=>hb),fun ks c hc=>?_⟩;obtain⟨c',h3,h4⟩:=hLt (ixs pre) ks c hc;have:=sI.k.ne ⟨t,none,none,73,16,VAt wb (VSg N vs x.1.1),VT⟩ (List.mem_append_right _ List.mem_cons_self) c' (List.mem_append_left _ h3) (fun e=>htL _ c' h3 e.symm) rfl (by rw [(hf _ c' h3).1];rfl);rw [<-h4];exact this
 case body=>
  rintro l pre x a' W hl hrec ⟨hI,hEi⟩ ⟨hA,hne⟩ hlen
  have hA0:=hA.sub (L':=[]) (SL':=SL) (fun b hb=>absurd hb (by simp)) (fun b hb=>List.mem_append_right _ hb);have st2:=((hI.act hA0 (hf _) he).joinB hA rfl (fun c hc=>⟨(hf _ c hc).1,(hf _ c hc).2.1⟩) rfl (hne _)).addS (t:=p) (V:=VKR w.heap.size BT W) hp fun v=>VKR_refl v
  have hix:ixs (pre++ [x])=ixs pre++ [x.1.1]:=by simp [ixs]
  refine wpIn_mono (hbody l x.1.1 (ixs pre) a' W x.2.1 (by simpa [ixs] using hlen) st2 hEi) ?_;intro e a2 W2 hpost;cases e with
  |normal=>
   obtain⟨hpost,hEp⟩:St wb.heap.size wb Nf (L (ixs pre++ [x.1.1])) ((p,VKR w.heap.size BT W)::SL) a2 W2/\E (ixs pre++ [x.1.1]) W2:=hpost;obtain⟨u,-,hu⟩:=hpost.sl (p,VKR w.heap.size BT W) List.mem_cons_self;have k:=keep (v:=u) hu hpost.k.below;refine⟨k.1,k.2,?_⟩;show St wb.heap.size wb Nf (L (ixs (pre++ [x]))) SL a W2/\E (ixs (pre++ [x])) W2;rw [hix];exact⟨(hpost.sub (fun b hb=>hb) (fun b hb=>List.mem_cons_of_mem _ hb)).act st (hf _) he,hEp⟩
  |ret=>
   obtain⟨hpost,hEp⟩:St wb.heap.size wb Nf (Lx (ixs pre++ [x.1.1])) ((p,VKR w.heap.size BT W)::SL) a2 W2/\Ex (ixs pre++ [x.1.1]) W2:=hpost;obtain⟨u,-,hu⟩:=hpost.sl (p,VKR w.heap.size BT W) List.mem_cons_self;have k:=keep (v:=u) hu hpost.k.below;refine⟨k.1,rfl,?_⟩;show St wb.heap.size wb Nf (Lx (ixs (pre++ [x]))) SL a W2/\Ex (ixs (pre++ [x])) W2;rw [hix];exact⟨(hpost.sub (fun b hb=>hb) (fun b hb=>List.mem_cons_of_mem _ hb)).act st (hfx _) he,hEp⟩
  |exit _=>exact hpost.elim
  |goto _=>exact hpost.elim
  |panic _=>exact hpost.elim
  |outgrown=>exact hpost.elim
 case done=>
  intro D xs W hD hxs hI hK;have hI:St wb.heap.size wb Nf (L (ixs xs)) SL a W/\E (ixs xs) W:=hI;rw [show ixs xs=List.range vs.length from hxs] at hI;have:=hdone D W hD hI.1 hI.2 hK;rw [st.defers];exact this
 case stop=>
  rintro D c pre W hD ⟨h1,h2⟩ ⟨rfl,h3⟩ hK
  rw [show ixs pre=List.range pre.length from h1] at h3;have:=hstop D pre.length W hD h2 h3.1 h3.2 hK;rw [st.defers];exact this
end Go.Proofs.YteacdbgalloaiaaGreat
