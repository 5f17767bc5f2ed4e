/- Contracts of the packages integer, rat, plane, polygon and their references. -/
import Derived.Test.YtjdkdjobaabdiaaGreatM28
set_option linter.unusedVariables false
set_option maxRecDepth 100000
set_option maxHeartbeats 6400000
namespace Go.Proofs.YtjdkdjobaabdiaaGreat
open Go Go.RowKit
theorem own_mono {β:Type}{B B':Nat}{J:β→World→Prop}(h:OwnFrom B J)(hb:B≤B'):OwnFrom B' J:=fun s A A' row hs hg hr=>h s A A' row hs hg fun r e=>⟨Nat.le_trans hb (hr r e).1,(hr r e).2⟩
def SeqT {α:Type}(n g:Nat)(lb:Array Value)(encs:α→Array Value)(Kq:World→World→World→Prop)(S Sp:List α→Prop)(N:Nat)(w:World):Prop:=
 ∀(l:Nat) (J Jx:List α→World→Prop) (W:World),Below w.heap.size w W→OwnFrom W.heap.size J→OwnFrom W.heap.size Jx→
  (∀pre x W1,J pre W1→pre.length<N→YieldAt (fW none) (n - 1) Tryz.prog l (encs x) W1 fun e W'=>
   (e= .returned (.bool true)∧J (pre++ [x]) W'∧Kq W W1 W')∨(e= .returned (.bool false)∧Jx (pre++ [x]) W'∧Kq W W1 W'))→
  J [] W→CallsIn (fW none) n Tryz.prog g (#[.func (.yield l) #[] #[]]++lb) W fun e W'=>(∃v,e= .returned v)∧((∃xs,S xs∧J xs W')∨(∃pre,Sp pre∧Jx pre W'))
def ownPostT {α:Type}(B:Nat)(Kq:World→World→Prop)(I:List α→World→Prop)(Ix:Code→List α→World→Prop)(xs:List α)(W:World):Exit→Act→World→Prop
 | .normal,_,W'=>KeepsFrom B W W'∧Kq W W'∧I xs W'
 | .ret,_,W'=>KeepsFrom B W W'∧Kq W W'∧Ix .ret xs W'
 |_,_,_=>False
section
theorem own_put {β:Type}{B:Nat}{I:β→World→Prop}(h:OwnFrom B I){s:β}{W:World}{l:Nat}{o o':Obj}(hs:I s W)(hl:B≤l)(ho:W.heap[l]? =some o)(hc:o.isCells=false):I s (W.putObj l o'):=h.putObj _ hs hl ho hc
end
theorem range_own {α:Type}{n tk:Nat}{ps:Array Tmp}{assign body:Code}{Q:Exit→Act→World→Prop}{a:Act}{w:World}{gf:Nat}{lb:Array Value}{encs:α→Array Value}{Kq:World→World→World→Prop}{S Sp:List α→Prop}{N:Nat}
 (n1:1≤n) (hg:a.eval (.tmp tk)= .func (.func gf) #[] lb) (eg:∀args w,(callFunc gf args).run Tryz.prog w= .ok (.enter gf args) w) (hseq:SeqT (n - 1) gf lb encs Kq S Sp N w)
 (hKt:∀{W A B C:World},Kq W A B→Kq W B C→Kq W A C) (hKb:∀(W A:World) (l:Nat) (o o':Obj),w.heap.size≤l→l<W.heap.size→A.heap[l]? =some o→o.isCells=false→Kq W A (A.putObj l o')) (hps:∀x,(encs x).size=ps.size)
 (I:List α→World→Prop) (Ix:Code→List α→World→Prop) (hI:OwnFrom w.heap.size I) (hIx:∀c,OwnFrom w.heap.size (Ix c)) (h0:I [] w) (Ax:α→Act→World→Prop) (hAx:∀x a',OwnFrom w.heap.size (fun (_:Unit) W=>Ax x a' W))
 (hassign:∀(l:Nat) (pre:List α) (x:α) (W0 W:World) (K:Act→World→Prop),w.heap.size≤W0.heap.size→I pre W→(∀a' W',KeepsFrom w.heap.size W W'→Kq W0 W W'→I pre W'→Ax x a' W'→K a' W')→assign.wpIn (fW (some l)) (n - 1 - 1) Tryz.prog (Exit.then K (fun _ _ _=>False)) {tmps:=(ps.zip (encs x)).foldl (fun t (p,v)=>t.setIfInBounds p v) a.tmps,defers:=[]} W)
 (hbody:∀(l:Nat) (pre:List α) (x:α) (a':Act) (W0 W:World),w.heap.size≤W0.heap.size→I pre W→Ax x a' W→pre.length<N→body.wpIn (fW (some l)) (n - 1 - 1) Tryz.prog (ownPostT w.heap.size (Kq W0) I Ix (pre++ [x]) W) a' W)
 (hdone:∀(D:Nat) (xs:List α) (W:World),w.heap.size≤D→S xs→I xs W→W.heap[D]? =some (.deferred (some []))→Q .normal {a with defers:={target:= .collected D,args:=#[]}::a.defers} W)
 (hstop:∀(D:Nat) (c:Code) (pre:List α) (W:World),w.heap.size≤D→Sp pre→Ix c pre W→W.heap[D]? =some (.deferred (some []))→c.wpIn (fW none) n Tryz.prog Q {a with defers:={target:= .collected D,args:=#[]}::a.defers} W):
 (Code.rangeFunc (.tmp tk) ps assign body).wpIn (fW none) n Tryz.prog Q a w:=by
 refine wpIn_rangeFunc ?_
 intro fn hfn
 obtain⟨R,hR⟩:∃R:LoopState→Option Code→Loop,∀s p,R s p={state:=s,pending:=p,fn,tmps:=a.tmps,params:=ps,assign,body,defers:=w.heap.size}:=⟨_,fun _ _=>rfl⟩
 obtain⟨U,hU⟩:∃U,(w.alloc (.deferred (some []))).alloc (.loop (R .ready none))=U:=⟨_,rfl⟩
 have uS:U.heap.size=w.heap.size+2:=by rw [←hU];simp
 have uL:U.heap[w.heap.size+1]? =some (.loop (R .ready none)):=by
  rw [←hU];have:=World.alloc_heap_new (w.alloc (.deferred (some []))) (.loop (R .ready none));rwa [World.size_alloc] at this
 have uD:U.heap[w.heap.size]? =some (.deferred (some [])):=by
  rw [←hU];exact(Below.heap_alloc _ _ _ (by simp)).trans (World.alloc_heap_new w _)
 have uI:I [] U:=by rw [←hU];exact hI.alloc _ (hI.alloc _ h0)
 have uB:Below w.heap.size w U:=by rw [←hU];exact((Below.refl _ w).alloc (Nat.le_refl _) _).alloc (by simp) _
 refine⟨w.heap.size+1,[{target:= .collected w.heap.size,args:=#[]}],U,{target:= .fn (.func gf) lb,args:=#[.func (.yield (w.heap.size+1)) #[] #[]]},U,gf,#[.func (.yield (w.heap.size+1)) #[] #[]]++lb,U,?_,?_,fun _ _=>trivial,?_,fun e=>(by cases e),?_⟩
 ·rw [←hU,hR];exact run_enterLoop_outer _ _ _ _ _
 ·simp only [resolve,hg]
  simp [go_sem]
 ·simp [invoke,go_sem,eg]
 -- what abides:our own,the record,the block for deferred calls
 have abide:∀{T:List α→World→Prop},OwnFrom w.heap.size T→∀(o:Obj),OwnFrom U.heap.size (fun pre W=>T pre W∧W.heap[w.heap.size+1]? =some o∧W.heap[w.heap.size]? =some (.deferred (some []))):=fun hT o s A B row hs hgr hr=>by
  refine⟨hT s A B row hs.1 hgr fun r e=>⟨by have:=(hr r e).1;omega,(hr r e).2⟩,?_,?_⟩
  ·exact(hgr.block _ (lt_blk hs.2.1) fun e=>by have:=(hr _ e.symm).1;omega).trans hs.2.1
  ·exact(hgr.block _ (lt_blk hs.2.2) fun e=>by have:=(hr _ e.symm).1;omega).trans hs.2.2
 refine(hseq (w.heap.size+1) (fun pre W=>I pre W∧W.heap[w.heap.size+1]? =some (.loop (R .ready none))∧W.heap[w.heap.size]? =some (.deferred (some [])))
  (fun pre W=>∃c,Ix c pre W∧W.heap[w.heap.size+1]? =some (.loop (R .done (some c)))∧W.heap[w.heap.size]? =some (.deferred (some [])))
  U uB (abide hI _) (fun s A B row hs hgr hr=>by obtain⟨c,hc⟩:=hs;exact⟨c,abide (hIx c) _ s A B row hc hgr hr⟩) ?_ ⟨uI,uL,uD⟩).mono ?_
 ·rintro pre x W ⟨hi,hl,hk⟩ hlen
  have hy:=run_yield (P:=Tryz.prog) (args:=encs x) hl (by rw [hR];exact hps x)
  rw [hR] at hy
  refine⟨fn,_,assign,body,hy,roundIn_of_wpIn hfn (hassign _ pre x U W _ (by omega) hi fun a' V hkv hqv hiv hax=>?_)⟩
  have vl:=hkv.same _ _ (by omega) hl rfl
  have vk:=hkv.same _ _ (Nat.le_refl _) hk rfl
  obtain⟨Z,hZ⟩:∃Z,V.putObj (w.heap.size+1) (.loop {R .ready none with state:= .busy})=Z:=⟨_,rfl⟩
  refine⟨Z,by rw [←hZ];exact run_beginRound vl (by rw [hR]),?_⟩
  have zl:Z.heap[w.heap.size+1]? =some (.loop {R .ready none with state:= .busy}):=by rw [←hZ];exact World.putObj_heap_same (lt_blk vl)
  have zk:Z.heap[w.heap.size]? =some (.deferred (some [])):=by rw [←hZ];exact(World.putObj_heap_other (by omega)).trans vk
  have zi:I pre Z:=by rw [←hZ];exact own_put hI hiv (by omega) vl rfl
  have za:Ax x a' Z:=by rw [←hZ];exact own_put (s:=()) (hAx x a') hax (by omega) vl rfl
  have zq:Kq U V Z:=by rw [←hZ];exact hKb _ _ _ _ _ (by omega) (by omega) vl rfl
  refine wpIn_mono (hbody _ pre x a' U Z (by omega) zi za hlen) ?_
  have fin:∀(jump:Option Code) (Y:World),KeepsFrom w.heap.size Z Y→∃X,(Instr.endRound (w.heap.size+1) jump).run Tryz.prog Y= .ok (.bool jump.isNone) X∧X=Y.putObj (w.heap.size+1) (.loop (R (if jump.isNone then .ready else .done) jump))∧Y.heap[w.heap.size+1]? =some (.loop {R .ready none with state:= .busy})∧X.heap[w.heap.size+1]? =some (.loop (R (if jump.isNone then .ready else .done) jump))∧X.heap[w.heap.size]? =some (.deferred (some [])):=fun jump Y hky=>by
   have yl:=hky.same _ _ (by omega) zl rfl
   have yk:=hky.same _ _ (Nat.le_refl _) zk rfl
   have hr:=run_endRound (P:=Tryz.prog) jump yl
   refine⟨_,?_,rfl,yl,World.putObj_heap_same (lt_blk yl),(World.putObj_heap_other (by omega)).trans yk⟩
   rw [hR] at hr ⊢
   exact hr
  intro e a3 Y hp
  cases e with
  |normal=>
   obtain⟨h1,h2,h3⟩:=hp
   obtain⟨X,hx,rfl,yl,xl,xk⟩:=fin none Y h1
   exact⟨_,_,hx,.inl ⟨rfl,⟨own_put hI h3 (by omega) yl rfl,xl,xk⟩,hKt hqv (hKt (hKt zq h2) (hKb _ _ _ _ _ (by omega) (by omega) yl rfl))⟩⟩
  |ret=>
   obtain⟨h1,h2,h3⟩:=hp
   obtain⟨X,hx,rfl,yl,xl,xk⟩:=fin (some .ret) Y h1
   exact⟨_,_,hx,.inr ⟨rfl,⟨.ret,own_put (hIx _) h3 (by omega) yl rfl,xl,xk⟩,hKt hqv (hKt (hKt zq h2) (hKb _ _ _ _ _ (by omega) (by omega) yl rfl))⟩⟩
  |exit id=>exact hp.elim
  |goto t=>exact hp.elim
  |panic ch=>exact hp.elim
  |outgrown=>exact hp.elim
 ·rintro e X ⟨⟨v,rfl⟩,(⟨xs,hS,hi,hl,hk⟩|⟨pre,hSp,c,hi,hl,hk⟩)⟩
  ·have:=run_endLoop (P:=Tryz.prog) hl (by rw [hR];simp)
   rw [hR] at this
   exact⟨none,_,this,hdone _ xs _ (Nat.le_refl _) hS (own_put hI hi (by omega) hl rfl) ((World.putObj_heap_other (by omega)).trans hk)⟩
  ·have:=run_endLoop (P:=Tryz.prog) hl (by rw [hR];simp)
   rw [hR] at this
   exact⟨some c,_,this,hstop _ c pre _ (Nat.le_refl _) hSp (own_put (hIx c) hi (by omega) hl rfl) ((World.putObj_heap_other (by omega)).trans hk)⟩
instance iCeYT:CeT 102:=⟨_,Tryz.underlying102,rfl⟩
def KpT (wb:World)(BT:List (TypeId×Nat×Nat))(W A B:World):Prop:=Kp wb BT A B∧∀(k:Nat) (o:Obj),W.heap.size≤k→A.heap[k]? =some o→NoCl o→B.heap[k]? =some o
theorem KpT.trans {wb:World}{BT:List (TypeId×Nat×Nat)}{W A B C:World}(h:KpT wb BT W A B)(k:KpT wb BT W B C):KpT wb BT W A C:=⟨h.1.trans k.1,fun i o h1 h2 h3=>k.2 i o h1 (h.2 i o h1 h2 h3) h3⟩
def tn (vs:List P2)(k:Nat):Int:=sdI (cv vs k) (cv vs (k+1)) (cv vs (k+2))
instance (l:Nat):O1 (VEq (.func (.yield l) #[] #[])):=⟨fun v w h=>by obtain rfl:v=_:=h;exact⟨rfl,(fun _ e=>by cases e),rfl⟩⟩
theorem St.lowB {n0 N:Nat}{w0:World}{L:List Bd}{SL:List (Nat×VP)}{a:Act}{W w:World}(h:St W.heap.size W N L SL a w)(hB:Below n0 w0 W)(hn:n0≤W.heap.size):St n0 w0 N L SL a w:=
 ⟨⟨hB.trans (h.k.below.mono hn),fun b hb hon=>by
  obtain⟨g,cs,e1,e2,e3⟩:=h.k.ok b hb hon
  exact⟨g,cs,e1,Nat.le_trans hn e2,e3⟩,h.k.ne,h.k.fa⟩,Nat.le_trans hn h.n,h.size,h.defers,h.sl⟩
section
variable {ρ:Operand→Value}{o:Oper}{W:World}{x y:Operand}{vb:Value}
theorem run_yieldV1 {l:Nat}{ats:Array TypeId}{r:Result Next}(ho:o.op= .call {callee:= .value x,args:=#[y],argTypes:=ats})(hx:ρ x= .func (.yield l) #[] #[])(hy:ρ y=vb)(h:(Instr.yield l #[vb]).run Tryz.prog W=r):(execOp ρ o).run Tryz.prog W=r:=by
 unfold execOp
 simp only [ho,resolve,invoke,Deferred.ofValue,Sem.run_bind,Sem.run_pure,Result.andThen_ok,List.map_toArray,List.map_cons,List.map_nil,hx,hy]
 exact h
theorem run_fieldSg {g f off:Nat}(hf:(f=0∧off=0)∨(f=1∧off=8))(ho:o.op= .fieldAddr 82 x f)(hx:ρ x= .pointer (some ⟨g,0,none⟩)):(execOp ρ o).run Tryz.prog W= .ok (.value (.pointer (some ⟨g,off,none⟩))) W:=by
 unfold execOp
 rcases hf with⟨rfl,rfl⟩|⟨rfl,rfl⟩
 ·simp only [ho,hx,Sem.run_bind,field_segment0,Sem.run_pure,Result.andThen_ok]
 ·simp only [ho,hx,Sem.run_bind,field_segment1,Sem.run_pure,Result.andThen_ok]
theorem run_loadSg {g off:Nat}{cs:Array Value}(ho:o.op= .load 35 x)(hx:ρ x= .pointer (some ⟨g,off,none⟩))(hg:W.heap[g]? =some (.cells cs 82 (0,0)))(hk:off+8≤cs.size):(execOp ρ o).run Tryz.prog W= .ok (.value (.agg (cs.extract off (off+8)))) W:=by
 unfold execOp
 simp only [ho,hx,Instr.loadAt,Instr.sureAddr,Sem.run_bind,Sem.run_pure,Result.andThen_ok,run_loadVar_part W g off 8 82 35 cs (0,0) _ hg hk Tryz.underlying35 rfl size_Vec]
end
theorem end_mark {n:Nat}{P:Program}{fn:Func}{R:Ending→World→Prop}{a:Act}{w:World}{D:Nat}{v:Value}(hd:a.defers= [{target:= .collected D,args:=#[]}])(hK:w.heap[D]? =some (.deferred (some [])))(hr:(results fn a.tmps).run P (w.putObj D (.deferred none))= .ok v (w.putObj D (.deferred none)))(hR:R (.returned v) (w.putObj D (.deferred none))):bodyPostM (fW none) n P fn R .normal a w:=by
 show LeavesInM (fW none) n P fn a.tmps R a.defers .returning w
 rw [hd]
 exact⟨by simp,.inl ⟨_,_,rfl,run_takeDeferred hK,v,hr,hR⟩⟩
theorem turns_it {n:Nat}{wb wL:World}{N:Nat}{vs:List P2}{lv c:Value}{b1 b3:Nat}{BT:List (TypeId×Nat×Nat)}(n1:1≤n)(hN1:1≤N)(hN2:N≤900)(hvs:vs.length≤1000000)(hbt1:∀e∈BT,e.1≠23)(hbt2:∀e∈BT,e.1≠100)(hbt3:∀e∈BT,e.1≠102)(hB:Below wb.heap.size wb wL)(hS:VSv N vs lv wb)(p1:wL.heap[b1]? =some (.cells #[lv] 23 (0,0)))(p3:wL.heap[b3]? =some (.cells #[c] 100 (0,0)))(hc:VCo lv c wL):
 SeqT n 106 #[.pointer (some ⟨b1,0,none⟩),.pointer (some ⟨b3,0,none⟩)] (fun k:Nat=>#[.int .i64 (tn vs k)]) (KpT wb BT) (fun xs=>xs=List.range vs.length) (fun pre=>∃j,j≤vs.length∧pre=List.range j) vs.length wL:=by
 intro l J Jx W hW hJ hJx hY h0
 have hBW:Below wb.heap.size wb W:=hB.trans (hW.mono hB.size)
 replace p1:=(hW.block _ (lt_blk p1)).trans p1
 replace p3:=(hW.block _ (lt_blk p3)).trans p3
 obtain⟨b5,rfl,p5⟩:=hc
 replace p5:=(hW.block _ (lt_blk p5)).trans p5
 obtain⟨pp,cc,hlv⟩:=VSv_slice hS
 subst hlv
 refine callsIn_of_wp_marks Tryz.func106 rfl trivial ?_ rfl
 simp only [Tryz.ntmps106,List.size_toArray,List.length_cons,List.length_nil,Nat.reduceAdd,Nat.reduceSub,Array.replicate_succ,Array.replicate_zero,List.push_toArray,List.append_toArray,List.nil_append,List.cons_append]
 have st0:St W.heap.size W 22 [] [(0,VEq (.func (.yield l) #[] #[])),(1,VPb 23 (.slice pp vs.length cc)),(2,VEq (.pointer (some ⟨b3,0,none⟩)))] _ W:=St.begin (a:=⟨#[.func (.yield l) #[] #[],.pointer (some ⟨b1,0,none⟩),.pointer (some ⟨b3,0,none⟩),undef,undef,undef,undef,undef,undef,undef,undef,undef,undef,undef,undef,undef,undef,undef,undef,undef,undef,undef],[]⟩) rfl rfl (Lq.2 ⟨⟨_,rfl,rfl⟩,Lq.2 ⟨⟨_,rfl,_,rfl,p1⟩,Lq.2 ⟨⟨_,rfl,rfl⟩,(fun _ h=>absurd h (by simp))⟩⟩⟩)
 generalize(⟨#[.func (.yield l) #[] #[],.pointer (some ⟨b1,0,none⟩),.pointer (some ⟨b3,0,none⟩),undef,undef,undef,undef,undef,undef,undef,undef,undef,undef,undef,undef,undef,undef,undef,undef,undef,undef,undef],[]⟩:Act)=a0 at st0 ⊢
 repeat first|refine Iq ?_|refine Ib ?_|refine Ik ?_|refine Ix ?_
 have:Sb [] (VPb 23 (.slice pp vs.length cc)):=⟨Stab_VPb (by simp)⟩
 refine rgI (BT:=[]) (Vl:=[VT]) (B:=[⟨3,some 0,some 0,102,1,VC1 (VEq (.func (.yield l) #[] #[])),VT⟩]) (SL':=[(1,VPb 23 (.slice pp vs.length cc)),(2,VEq (.pointer (some ⟨b3,0,none⟩)))]) st0 ⟨k_box1_ (A:=VEq (.func (.yield l) #[] #[])) rfl rfl rfl rfl rfl rfl rfl rfl rfl (by kernel_rfl) (.inr ⟨rfl,by kernel_rfl⟩) trivial,trivial⟩ ?_
 intro a1 w1 st1
 clear st0
 repeat first|refine Iq ?_|refine Ib ?_|refine Ik ?_|refine Ix ?_
 have:Sb [] (VSd (.slice pp vs.length cc)):=⟨Stab_VSd (by simp) (by simp)⟩
 refine rgI (BT:=[]) (Vl:=[VEq (.slice pp vs.length cc),VSd (.slice pp vs.length cc)]) (B:=[⟨3,none,none,102,1,VC1 (VEq (.func (.yield l) #[] #[])),VT⟩]) (SL':=[(2,VEq (.pointer (some ⟨b3,0,none⟩))),(7,VSd (.slice pp vs.length cc))]) st1 ⟨?s0,?s1,trivial⟩ ?_
 case s0=>refine kr fun _ ac Y h hd=>?_;obtain⟨v0,hv0,X0⟩:=h.ot 1;exact load_Pb rfl hv0 X0
 case s1=>refine kc fun _ ac Y h hd=>?_;obtain⟨v0,hv0,X0⟩:=h.dp hd 6;obtain rfl:v0=_:=X0;exact⟨#[.slice pp vs.length cc],by simp [hv0],cSides⟩
 intro a2 w2 st2
 clear st1
 replace st2:St W.heap.size W 22 [⟨3,none,none,102,1,VC1 (VEq (.func (.yield l) #[] #[])),VT⟩] [(2,VEq (.pointer (some ⟨b3,0,none⟩))),(7,VSd (.slice pp vs.length cc))] a2 w2:=st2
 have hsd:=st2.sl (7,VSd (.slice pp vs.length cc)) (lS_mem rfl)
 obtain⟨g3,hg3,st2⟩:=st2.ptrB 3 rfl rfl rfl
 replace st2:St W.heap.size W 22 [⟨3,none,none,102,1,VC1 (VEq (.func (.yield l) #[] #[])),VT⟩] [(2,VEq (.pointer (some ⟨b3,0,none⟩))),(3,VEq (.pointer (some ⟨g3,0,none⟩)))] a2 w2:=st2.cut
 have hbl:=st2.k.below
 have hnW:=st2.n
 have j0:=hJ _ _ _ none h0 (grown_of hbl) (fun r e=>by cases e)
 have q3:=(hbl.block _ (lt_blk p3)).trans p3
 have q5:=(hbl.block _ (lt_blk p5)).trans p5
 have st3:=st2.lowB hBW hBW.size
 clear st2
 repeat first|refine Iq ?_|refine Ib ?_|refine Ik ?_|refine Ix ?_
 refine range_sides (n:=n) (Nf:=22) (t:=5) (N:=N) (vs:=vs) (lv:= .slice pp vs.length cc) (BT:=BT) (fun _=>[⟨3,none,none,102,1,VC1 (VEq (.func (.yield l) #[] #[])),VT⟩]) (fun _=>[]) (fun ks A=>J ks A∧A.heap[b3]? =some (.cells #[.func (.func 142) #[] #[.pointer (some ⟨b5,0,none⟩)]] 100 (0,0))∧A.heap[b5]? =some (.cells #[.slice pp vs.length cc] 23 (0,0))) (fun ks A=>Jx ks A) [(2,VEq (.pointer (some ⟨b3,0,none⟩))),(3,VEq (.pointer (some ⟨g3,0,none⟩)))] st3 ⟨j0,q3,q5⟩ (fun k=>[(4,Vi (k:Int))])
  (fun ks s A B row hs hg hr=>⟨own_mono hJ hnW ks _ _ row hs.1 hg hr,(hg.block _ (lt_blk hs.2.1) fun e=>by obtain⟨o,h1,h2⟩:=(hr _ e.symm).2;rw [hs.2.1] at h1;cases h1;cases h2).trans hs.2.1,(hg.block _ (lt_blk hs.2.2) fun e=>by obtain⟨o,h1,h2⟩:=(hr _ e.symm).2;rw [hs.2.2] at h1;cases h1;cases h2).trans hs.2.2⟩)
  (fun ks s A B row hs hg hr=>own_mono hJx hnW ks _ _ row hs hg hr)
  hsd hS (fun _=>(Lq.2 ⟨⟨rfl,rfl,_,(.tail _ (.head _))⟩,(fun _ h=>absurd h (by simp))⟩)) (fun _=>(fun _ h=>absurd h (by simp))) (Lq.2 ⟨⟨_,rfl⟩,(Lq.2 ⟨⟨_,rfl⟩,(fun _ h=>absurd h (by simp))⟩)⟩) (by decide) (by decide) (by decide) (Lq.2 ⟨⟨by simp,by simp⟩,(Lq.2 ⟨⟨by simp,by simp⟩,(fun _ h=>absurd h (by simp))⟩)⟩) n1 hbt1 hbt2 ?assign ?body (fun _ _=>(Lq.2 ⟨⟨_,(.head _),rfl⟩,(fun _ h=>absurd h (by simp))⟩)) (fun _=>(Lq.2 ⟨(by simp),(fun _ h=>absurd h (by simp))⟩)) ?done ?stop
 case assign=>
  intro l2 k a1 W1 K hn1 hb1 st1 hK
  repeat first|refine Iq ?_|refine Ib ?_|refine Ik ?_|refine Ix ?_
  refine rgI (BT:=[]) (Vl:=[Vi (k:Int)]) (B:=[]) (SL':=[(9,VAt wb (VSg N vs k)),(4,Vi (k:Int)),(2,VEq (.pointer (some ⟨b3,0,none⟩))),(3,VEq (.pointer (some ⟨g3,0,none⟩)))]) st1 ⟨ks,trivial⟩ ?_
  intro a4 w4 st4
  clear st1
  repeat first|refine Iq ?_|refine Ib ?_|refine Ik ?_|refine Ix ?_
  refine rgI (BT:=[(82,16,0)]) (Vl:=[VT,VT]) (B:=[⟨5,some 0,some 1,82,16,VAt wb (VSg N vs k),VT⟩]) (SL':=[(4,Vi (k:Int)),(2,VEq (.pointer (some ⟨b3,0,none⟩))),(3,VEq (.pointer (some ⟨g3,0,none⟩)))]) st4 ⟨ks,ks,trivial⟩ ?_
  intro a5 w5 st5
  exact hK _ _ st5
 case stop=>
  intro D j A hD hj st1 hEx hK
  refine wpIn_ret (ret_mark rfl hK (results_none rfl _ _ _) ⟨⟨_,rfl⟩,.inr ⟨_,⟨j,hj,rfl⟩,own_put hJx hEx (Nat.le_trans hnW hD) hK rfl⟩⟩)
 case done=>
  intro D A hD st1 hE hK
  exact end_mark rfl hK (results_none rfl _ _ _) ⟨⟨_,rfl⟩,.inl ⟨_,rfl,own_put hJ hE.1 (Nat.le_trans hnW hD) hK rfl⟩⟩
 case body=>
  intro l2 k xs a1 W1 hk hlen st1 hE
  obtain⟨hJ1,r3,r5⟩:=hE
  have hb1:=st1.k.below
  obtain⟨x3,e3,hx3,-,cs3,y3,z3,t3,u3,hc3,hu3⟩:=st1.boxAt (b:=⟨3,none,none,102,1,VC1 (VEq (.func (.yield l) #[] #[])),VT⟩) (.head _) rfl rfl
  cases hc3
  obtain rfl:u3=_:=hu3
  obtain⟨x5,e5,-,-,cs5,y5,z5,t5,P5⟩:=st1.boxAt (b:=⟨5,none,none,82,16,VAt wb (VSg N vs k),VT⟩) (.tail _ (.head _)) rfl rfl
  have e3':=st1.val (t:=3) (u:= .pointer (some ⟨g3,0,none⟩)) (by simp)
  obtain rfl:x3=g3:=by have:=e3.symm.trans e3';simpa using this
  have e2:=st1.val (t:=2) (u:= .pointer (some ⟨b3,0,none⟩)) (by simp)
  obtain⟨v4,e4,h4⟩:=st1.sl (4,Vi (k:Int)) (by simp)
  have stW:St W1.heap.size W1 22 [] [(3,VEq (.pointer (some ⟨x3,0,none⟩))),(2,VEq (.pointer (some ⟨b3,0,none⟩))),(5,VEq (.pointer (some ⟨x5,0,none⟩))),(4,Vi (k:Int))] a1 W1:=⟨⟨Below.refl _ _,fun b hb=>absurd hb (by simp),fun b hb=>absurd hb (by simp),fun b hb=>absurd hb (by simp)⟩,Nat.le_refl _,st1.size,st1.defers,(Lq.2 ⟨⟨_,e3,rfl⟩,(Lq.2 ⟨⟨_,e2,rfl⟩,(Lq.2 ⟨⟨_,e5,rfl⟩,(Lq.2 ⟨⟨_,e4,h4⟩,(fun _ h=>absurd h (by simp))⟩)⟩)⟩)⟩)⟩
  have s5:cs5.size=16:=z5
  repeat first|refine Iq ?_|refine Ib ?_|refine Ik ?_|refine Ix ?_
  refine rgY (BT:=[]) (k:=10) (Vl:=[VEq (.func (.yield l) #[] #[]),VEq (.pointer (some ⟨x5,0,none⟩)),VAt wb (Vv N (cv vs k).1 (cv vs k).2),VEq (.pointer (some ⟨x5,8,none⟩)),VAt wb (Vv N (cv vs (k+1)).1 (cv vs (k+1)).2),VEq (.func (.func 142) #[] #[.pointer (some ⟨b5,0,none⟩)]),Vi (k:Int),Vi ((k+2:Nat):Int),VAt wb (Vv N (cv vs (k+2)).1 (cv vs (k+2)).2),Vi (tn vs k)]) stW ⟨?s0,?s1,?s2,?s3,?s4,?s5,ks,?s7,?s8,?s9,trivial⟩ rfl rfl rfl rfl rfl (fun _ e=>by cases e) (by kernel_rfl) (by kernel_rfl) ?tail rfl (by kernel_rfl)
  case s0=>refine kr fun _ ac Y h hd=>?_;obtain⟨v0,hv0,X0⟩:=h.ot 3;obtain rfl:v0=_:=X0;exact load_Pb rfl hv0 ⟨x3,rfl,(h.k.below.block _ (lt_blk y3)).trans y3⟩
  case s1=>refine kr fun _ ac Y h hd=>?_;obtain⟨v0,hv0,X0⟩:=h.ot 5;obtain rfl:v0=_:=X0;exact⟨_,run_fieldSg (.inl ⟨rfl,rfl⟩) rfl hv0,rfl⟩
  case s2=>refine kr fun _ ac Y h hd=>?_;obtain⟨v0,hv0,X0⟩:=h.dp hd 11;obtain rfl:v0=_:=X0;exact⟨_,run_loadSg rfl hv0 ((h.k.below.block _ (lt_blk y5)).trans y5) (by omega),(inferInstance:PtC (VAt wb (VSg N vs k)) 0 8 (VAt wb (Vv N (cv vs k).1 (cv vs k).2))).out _ W1 P5⟩
  case s3=>refine kr fun _ ac Y h hd=>?_;obtain⟨v0,hv0,X0⟩:=h.ot 5;obtain rfl:v0=_:=X0;exact⟨_,run_fieldSg (.inr ⟨rfl,rfl⟩) rfl hv0,rfl⟩
  case s4=>refine kr fun _ ac Y h hd=>?_;obtain⟨v0,hv0,X0⟩:=h.dp hd 13;obtain rfl:v0=_:=X0;exact⟨_,run_loadSg rfl hv0 ((h.k.below.block _ (lt_blk y5)).trans y5) (by omega),(inferInstance:PtC (VAt wb (VSg N vs k)) 8 8 (VAt wb (Vv N (cv vs (k+1)).1 (cv vs (k+1)).2))).out _ W1 P5⟩
  case s5=>refine kr fun _ ac Y h hd=>?_;obtain⟨v0,hv0,X0⟩:=h.ot 2;obtain rfl:v0=_:=X0;exact load_Pb rfl hv0 ⟨b3,rfl,(h.k.below.block _ (lt_blk r3)).trans r3⟩
  case s7=>refine kr fun _ ac Y h hd=>?_;obtain⟨v0,hv0,X0⟩:=h.dp hd 16;exact⟨_,run_addi rfl (hv0.trans (show v0= .int .i64 (k:Int)from X0)) rfl (wrap_id (by omega) (by omega)),congrArg (Value.int .i64) (by omega)⟩
  case s8=>
   refine ke fun _ ac Y h hd=>?_
   obtain⟨v0,hv0,X0⟩:=h.dp hd 15
   obtain⟨v1,hv1,X1⟩:=h.dp hd 17
   exact⟨_,_,run_enterV rfl (hv0.trans X0) hv1 (fun _ _=>rfl),cCorner (wb:=wb) (k:=k+2) (lv:= .slice pp vs.length cc) X1 ⟨b5,rfl,(h.k.below.block _ (lt_blk r5)).trans r5⟩ (hb1.trans (h.k.below.mono hb1.size)) hS (by omega) (cv_get (k+2) (by omega))⟩
  case s9=>
   refine kc fun _ ac Y h hd=>?_
   have hbd:=hb1.trans (h.k.below.mono hb1.size)
   obtain⟨v0,hv0,X0⟩:=h.dp hd 12
   obtain⟨v1,hv1,X1⟩:=h.dp hd 14
   obtain⟨v2,hv2,X2⟩:=h.dp hd 18
   exact⟨#[v0,v1,v2],by simp [hv0,hv1,hv2],cSide (VAt_cur (Stab_Vv _ _ _) (show VAt wb (Vv N (cv vs k).1 (cv vs k).2) v0 Y from X0) hbd) (VAt_cur (Stab_Vv _ _ _) (show VAt wb (Vv N (cv vs (k+1)).1 (cv vs (k+1)).2) v1 Y from X1) hbd) (VAt_cur (Stab_Vv _ _ _) (show VAt wb (Vv N (cv vs (k+2)).1 (cv vs (k+2)).2) v2 Y from X2) hbd) hN1 (by omega)⟩
  case tail=>
   intro listed ac Y h hd
   obtain⟨v0,hv0,X0⟩:=h.dp hd 10
   obtain⟨v1,hv1,X1⟩:=h.dp hd 19
   have hV0':v0= .func (.yield l) #[] #[]:=X0
   have hV1':v1= .int .i64 (tn vs k):=X1
   have hbd:=h.k.below
   obtain⟨fn,tmps,assign,body,hy,hR⟩:=hY xs k Y (hJ _ _ _ none hJ1 (grown_of hbd) (fun r e=>by cases e)) hlen
   have hBd:Below wb.heap.size wb Y:=hb1.trans (hbd.mono hb1.size)
   refine⟨fun _ _=>trivial,?_⟩
   rw [Oper.semAt_eq _ _ _ (fun _ e=>by cases e),run_yieldV1 (x:= .tmp 10) (y:= .tmp 19) (vb:= .int .i64 (tn vs k)) rfl (hv0.trans hV0') (hv1.trans hV1') hy]
   refine⟨(by intro e;cases e),(RoundIn.any hR).mono ?_⟩
   have hsz:ac.tmps.size=22:=by rw [h.size,stW.size]
   have hdf:ac.defers= []:=by rw [h.defers,stW.defers]
   have o2:ac.tmps[2]? =a1.tmps[2]? :=h.oth 2 (by kernel_rfl)
   have o3:ac.tmps[3]? =a1.tmps[3]? :=h.oth 3 (by kernel_rfl)
   have key:∀(bb:Bool) (W2:World),KpT wb BT W Y W2→St wb.heap.size wb 22 [⟨3,none,none,102,1,VC1 (VEq (.func (.yield l) #[] #[])),VT⟩] ((8,VKR w2.heap.size BT W1):: [(2,VEq (.pointer (some ⟨b3,0,none⟩))),(3,VEq (.pointer (some ⟨x3,0,none⟩)))]) ((ac.put (some 20) (.bool bb)).put (some 21) (.bool (!bb))) W2:=fun bb W2 hK=>by
    have y3d:=(hbd.block _ (lt_blk y3)).trans y3
    have y32:=(hK.1.2.row _ _ _ y3d hbt3).trans y3d
    have g3':((ac.put (some 20) (.bool bb)).put (some 21) (.bool (!bb))).tmps[3]? =some (.pointer (some ⟨x3,0,none⟩)):=(put2_get (t:=3) (by decide) (by decide)).trans (o3.trans e3')
    have g2':((ac.put (some 20) (.bool bb)).put (some 21) (.bool (!bb))).tmps[2]? =some (.pointer (some ⟨b3,0,none⟩)):=(put2_get (t:=2) (by decide) (by decide)).trans (o2.trans e2)
    have hz:((ac.put (some 20) (.bool bb)).put (some 21) (.bool (!bb))).tmps.size=22:=by rw [put_size,put_size,hsz]
    have vk:VKR w2.heap.size BT W1 undef W2:=⟨⟨Nat.le_trans hbd.size hK.1.2.size,fun i o h1 h2 h3=>hK.2 i o (Nat.le_trans hnW h1) ((hbd.block i (lt_blk h2)).trans h2) h3⟩,⟨Nat.le_trans hbd.size hK.1.2.size,fun i cs T h1 h2=>by
     have h3:=hbd.block i (lt_blk h1)
     exact(hK.1.2.row _ _ _ (h3.trans h1) h2).trans h3⟩⟩
    refine⟨⟨hK.1.1 hBd,?_,?_,?_⟩,(hK.1.1 hBd).size,hz,by rw [put_defers',put_defers',hdf],Lq.2 ⟨⟨_,by rw [Array.getElem?_eq_getElem (by rw [hz];exact(by decide:8<22))],vk⟩,(Lq.2 ⟨⟨_,g2',rfl⟩,(Lq.2 ⟨⟨_,g3',rfl⟩,(fun _ h=>absurd h (by simp))⟩)⟩)⟩⟩
    ·intro b hb _
     obtain rfl:=List.mem_singleton.1 hb
     exact⟨x3,_,g3',hx3,y32,rfl,t3,fun _=>⟨_,rfl,rfl⟩,fun _ _=>trivial⟩
    ·intro b hb d hd' hn
     obtain rfl:=List.mem_singleton.1 hb
     obtain rfl:=List.mem_singleton.1 hd'
     exact absurd rfl hn
    ·intro b hb hn
     obtain rfl:=List.mem_singleton.1 hb
     exact absurd rfl hn
   rintro e W2 (⟨rfl,hJ2,hK⟩|⟨rfl,hJ2,hK⟩)
   ·refine⟨_,run_not (x:= .tmp 20) rfl (put_eval (by omega)),?_⟩
    have st4:=key true W2 hK
    have r3d:=(hbd.block _ (lt_blk r3)).trans r3
    have r5d:=(hbd.block _ (lt_blk r5)).trans r5
    repeat first|refine Iq ?_|refine Ib ?_|refine Ik ?_|refine Ix ?_
    refine wpIn_cond_false (put_eval (by rw [put_size];omega)) (Ik ?_)
    exact⟨st4,hJ2,(hK.1.2.row _ _ _ r3d hbt2).trans r3d,(hK.1.2.row _ _ _ r5d hbt1).trans r5d⟩
   ·refine⟨_,run_not (x:= .tmp 20) rfl (put_eval (by omega)),?_⟩
    have st4:=key false W2 hK
    repeat first|refine Iq ?_|refine Ib ?_|refine Ik ?_|refine Ix ?_
    refine wpIn_cond_true (put_eval (by rw [put_size];omega)) (wpIn_ret ?_)
    exact⟨st4.cut,hJ2⟩
end Go.Proofs.YtjdkdjobaabdiaaGreat
