/- Contracts of the packages integer, rat, plane, polygon and their references. -/
import Derived.Test.YtjdkdjobaabdiaaGreatM29
set_option linter.unusedVariables false
set_option maxRecDepth 100000
set_option maxHeartbeats 6400000
namespace Go.Proofs.YtjdkdjobaabdiaaGreat
open Go.RowKit
open Go
theorem zip1 (a:Act)(D:a.defers= [])(p:Nat)(u:Value):({tmps:=(#[p].zip #[u]).foldl (fun t (p,v)=>t.setIfInBounds p v) a.tmps,defers:=[]}:Act)=a.put (some p) u:=by
 cases a with
 |mk tm df=>
  simp only at D
  subst D
  simp [Act.put]
theorem KpT.put {wb:World}{BT:List (TypeId×Nat×Nat)}{n0:Nat}(hn:wb.heap.size≤n0)(W A:World)(l:Nat)(o o':Obj)(hl:n0≤l)(hl2:l<W.heap.size)(h:A.heap[l]? =some o)(ho:o.isCells=false):KpT wb BT W A (A.putObj l o'):=
 ⟨⟨fun x=>x.grown (grownBy_putObj' A l o') x.size fun k e=>by cases e;omega,by simp,fun j cs T hj _=>(grownBy_putObj' A l o').block j (lt_blk hj) fun e=>by
  cases e
  rw [h] at hj
  cases hj
  cases ho⟩,fun k o1 hk h1 _=>(World.putObj_heap_other (by omega)).trans h1⟩
def TnPost (n0:Nat)(wb:World)(Nf:Nat)(L Lx:List Bd)(SL:List (Nat×VP))(p:Nat)(V:VP)(E Ex:Prop):Exit→Act→World→Prop
 | .normal,a,w=>St n0 wb Nf L ((p,V)::SL) a w∧E
 | .ret,a,w=>St n0 wb Nf Lx ((p,V)::SL) a w∧Ex
 |_,_,_=>False
theorem range_turns {n Nf tk p t:Nat}{wb w:World}{N:Nat}{vs:List P2}{lv:Value}{a:Act}{assign body:Code}{Q:Exit→Act→World→Prop}{BT:List (TypeId×Nat×Nat)}(L Lx:List Bd)(F Fx:List Nat→Prop)(SL:List (Nat×VP))
 (st:St wb.heap.size wb Nf L SL a w) (h0:F []) (hk:∃v,a.tmps[tk]? =some v∧VTn lv v w) (hS:VSv N vs lv wb) (hf:Fixed SL L) (hfx:Fixed SL Lx) (he:AllEq SL) (hp:p<Nf) (hp2:∀x∈SL,x.1≠p∧x.1≠t) (n1:2≤n) (hN1:1≤N) (hN2:N≤900) (hvs:vs.length≤1000000)
 (hbt1:∀e∈BT,e.1≠23) (hbt2:∀e∈BT,e.1≠100) (hbt3:∀e∈BT,e.1≠102) [hM:SbB MK L] [hMx:SbB MK Lx] [hMS:SbS MK SL]
 (hassign:∀(l k:Nat) (a1:Act) (W:World) (K:Act→World→Prop),St W.heap.size W Nf [] ((p,Vi (tn vs k))::SL) a1 W→(∀a' W',St W.heap.size W Nf [] ((t,Vi (tn vs k))::SL) a' W'→K a' W')→assign.wpIn (fW (some l)) (n - 1 - 1) Tryz.prog (Exit.then K (fun _ _ _=>False)) a1 W)
 (hbody:∀(l k:Nat) (ks:List Nat) (a1:Act) (W:World),St wb.heap.size wb Nf L ((t,Vi (tn vs k))::(p,VKR w.heap.size BT W)::SL) a1 W→F ks→body.wpIn (fW (some l)) (n - 1 - 1) Tryz.prog (TnPost wb.heap.size wb Nf L Lx SL p (VKR w.heap.size BT W) (F (ks++ [k])) (Fx (ks++ [k]))) a1 W)
 (hdone:∀(D:Nat) (W:World),w.heap.size≤D→St wb.heap.size wb Nf L SL a W→F (List.range vs.length)→W.heap[D]? =some (.deferred (some []))→Q .normal {a with defers:=[{target:= .collected D,args:=#[]}]} W)
 (hstop:∀(D:Nat) (j:Nat) (W:World),w.heap.size≤D→j≤vs.length→St wb.heap.size wb Nf Lx SL a W→Fx (List.range j)→W.heap[D]? =some (.deferred (some []))→Code.ret.wpIn (fW none) n Tryz.prog Q {a with defers:=[{target:= .collected D,args:=#[]}]} W):
 (Code.rangeFunc (.tmp tk) #[p] assign body).wpIn (fW none) n Tryz.prog Q a w:=by
 obtain⟨v,hv,b1,b3,c,rfl,p1,p3,hc⟩:=hk
 have hn:wb.heap.size≤w.heap.size:=st.n
 have hst:SbS MK ((t,Vi (0:Int))::SL):=⟨Lq.2 ⟨Stab_Vi _,hMS.out⟩⟩
 have keep:∀{W0 W W':World} {v:Value},w.heap.size≤W0.heap.size→VKR w.heap.size BT W v W'→Below wb.heap.size wb W'→KeepsFrom w.heap.size W W'∧KpT wb BT W0 W W':=fun h0 h hb=>⟨⟨h.1.1,fun k o hB hk ho=>h.1.2 k o hB hk (noCl_of ho)⟩,⟨⟨fun _=>hb,h.2⟩,fun k o hk h1 h2=>h.1.2 k o (Nat.le_trans h0 hk) h1 h2⟩⟩
 refine range_own (α:=Nat) (n:=n) (Kq:=KpT wb BT) (by omega) (gf:=106) (lb:=#[.pointer (some ⟨b1,0,none⟩),.pointer (some ⟨b3,0,none⟩)]) (by simp [Act.eval,Array.getD_eq_getD_getElem?,hv]) (fun _ _=>rfl)
  (turns_it (n:=n - 1) (N:=N) (vs:=vs) (lv:=lv) (by omega) hN1 hN2 hvs hbt1 hbt2 hbt3 st.k.below hS p1 p3 hc) (fun h k=>KpT.trans h k) (fun W A l o o' hl hl2 h h1=>KpT.put hn W A l o o' hl hl2 h h1) (fun _=>rfl)
  (fun pre W=>St wb.heap.size wb Nf L SL a W∧F pre) (fun c pre W=>c= .ret∧St wb.heap.size wb Nf Lx SL a W∧Fx pre)
  (fun s A B row hs hg hr=>⟨hs.1.grown hg fun r e=>⟨Nat.le_trans hn (hr r e).1,(hr r e).2⟩,hs.2⟩) (fun c s A B row hs hg hr=>⟨hs.1,hs.2.1.grown hg fun r e=>⟨Nat.le_trans hn (hr r e).1,(hr r e).2⟩,hs.2.2⟩) ⟨st,h0⟩
  (fun k a' W=>St wb.heap.size wb Nf [] ((t,Vi (tn vs k))::SL) a' W)
  (fun k a' s A B row hs hg hr=>(have:SbS MK ((t,Vi (tn vs k))::SL):=⟨Lq.2 ⟨Stab_Vi _,hMS.out⟩⟩;hs.grown hg fun r e=>⟨Nat.le_trans hn (hr r e).1,(hr r e).2⟩)) ?assign ?body ?done ?stop
 case assign=>
  intro l pre k W0 W K hW0 ⟨hI,hF⟩ hK
  have hSp:SL.all (fun x=>x.1 !=p)=true:=by
   rw [List.all_eq_true]
   intro b hb
   simp [(hp2 _ hb).1]
  have hW:St W.heap.size W Nf [] SL a W:=⟨⟨Below.refl _ _,fun b hb=>absurd hb (by simp),fun b hb=>absurd hb (by simp),fun b hb=>absurd hb (by simp)⟩,Nat.le_refl _,hI.size,hI.defers,hI.sl⟩
  have h2:=hW.put1 p (.int .i64 (tn vs k)) (Vi (tn vs k)) rfl hp rfl hSp
  rw [zip1 a st.defers]
  refine hassign l k _ W K h2 fun a' W' st'=>?_
  have hbl:=st'.k.below
  have hbW:=hI.k.below.trans (hbl.mono hI.n)
  have k1:=keep (v:=undef) hW0 (VKR_below (B:=w.heap.size) (BT:=BT) hbl undef) hbW
  refine hK a' W' k1.1 k1.2 ⟨hI.grown (grown_of hbl) (fun r e=>by cases e),hF⟩ ⟨⟨hbW,fun b hb=>absurd hb (by simp),fun b hb=>absurd hb (by simp),fun b hb=>absurd hb (by simp)⟩,Nat.le_trans hI.n hbl.size,st'.size,st'.defers,st'.sl⟩
 case body=>
  rintro l pre k a' W0 W hW0 ⟨hI,hF⟩ hA hlen
  have hA0:=hA.sub (L':=[]) (SL':=SL) (fun b hb=>hb) (fun b hb=>List.mem_cons_of_mem _ hb)
  have st2:=(hI.act hA0 hf he).addS (t:=p) (V:=VKR w.heap.size BT W) hp fun v=>VKR_refl v
  refine wpIn_mono (hbody l k pre a' W ⟨st2.k,st2.n,st2.size,st2.defers,Lq.2 ⟨hA.sl _ List.mem_cons_self,st2.sl⟩⟩ hF) ?_
  intro e a2 W2 hpost
  cases e with
  |normal=>
   obtain⟨hpost,hEp⟩:St wb.heap.size wb Nf L ((p,VKR w.heap.size BT W)::SL) a2 W2∧F (pre++ [k]):=hpost
   obtain⟨u,-,hu⟩:=hpost.sl (p,VKR w.heap.size BT W) List.mem_cons_self
   have k1:=keep (v:=u) hW0 hu hpost.k.below
   exact⟨k1.1,k1.2,(hpost.sub (fun b hb=>hb) (fun b hb=>List.mem_cons_of_mem _ hb)).act st hf he,hEp⟩
  |ret=>
   obtain⟨hpost,hEp⟩:St wb.heap.size wb Nf Lx ((p,VKR w.heap.size BT W)::SL) a2 W2∧Fx (pre++ [k]):=hpost
   obtain⟨u,-,hu⟩:=hpost.sl (p,VKR w.heap.size BT W) List.mem_cons_self
   have k1:=keep (v:=u) hW0 hu hpost.k.below
   exact⟨k1.1,k1.2,rfl,(hpost.sub (fun b hb=>hb) (fun b hb=>List.mem_cons_of_mem _ hb)).act st hfx he,hEp⟩
  |exit _=>exact hpost.elim
  |goto _=>exact hpost.elim
  |panic _=>exact hpost.elim
  |outgrown=>exact hpost.elim
 case done=>
  intro D xs W hD hxs hI hK
  have hxs:xs=List.range vs.length:=hxs
  subst hxs
  have:=hdone D W hD hI.1 hI.2 hK
  rw [st.defers]
  exact this
 case stop=>
  rintro D c pre W hD ⟨j,hj,rfl⟩ ⟨rfl,h3⟩ hK
  have:=hstop D j W hD hj h3.1 h3.2 hK
  rw [st.defers]
  exact this
theorem alloc_bool (W:World):(Instr.alloc 4 true (.tuple #[])).run Tryz.prog W= .ok (.pointer (some ⟨W.heap.size,0,none⟩)) (W.alloc (.cells #[.bool false] 4)):=by go_simp
instance iAlbool:AlT 4 1:=⟨_,alloc_bool,rfl,noint_of (by simp)⟩
theorem run_loadVar_one {T t:TypeId}{w:World}{g:Nat}{x:Value}[hc:CeT T](hg:w.heap[g]? =some (.cells #[x] t (0,0))):(loadVar T ⟨g,0,none⟩).run Tryz.prog w= .ok x w:=by
 obtain⟨d,hu,hdd⟩:=hc.und
 have hcell:w.cell? ⟨g,0,none⟩=some x:=by simp [World.cell?,hg]
 have hagg:(isAgg T).run Tryz.prog w= .ok false w:=by
  unfold isAgg
  rw [Sem.run_bind,run_underlying hu w]
  cases d<;>simp_all [aggT]
 simp only [loadVar,Sem.run_bind,hagg,Result.andThen_ok,Bool.false_eq_true,if_false,run_load,hcell]
theorem results_cell_one {fn:Func}{p:Tmp}{T:TypeId}(h:fn.results=#[.cell p T])(tmps:Array Value)(w:World)(g:Nat)(t:TypeId)(x:Value)[CeT T](hp:tmps.getD p undef= .pointer (some ⟨g,0,none⟩))(hg:w.heap[g]? =some (.cells #[x] t (0,0))):(results fn tmps).run Tryz.prog w= .ok x w:=by
 have hp':tmps[p]?.getD undef= .pointer (some ⟨g,0,none⟩):=by simpa using hp
 simp [results,h,hp',asAddr,run_loadVar_one hg]
section
variable {md:Region.Mode}{ops:Array Oper}{Q:Exit→Act→World→Prop}{a0:Act}{Vl:List VP}{n0:Nat}{w0:World}{B:List Bd}{SL:List (Nat×VP)}{BT:List (TypeId×Nat×Nat)}{A:VP}
theorem k_storec_ {i t:Nat}{u:Value}{o:Oper}{T:TypeId}{b:Bd}[hB:SbB BT B](ho:o.op= .store T (.tmp t) (.const u))(hds:o.dst=none)(hb:gB B (iB B t)=some b)(hbt:b.t=t)(hT:b.T=T)(hik:b.ik=some i)(hm:b.m=1)(hP:b.P=VC1 A)(o1:u.oneCell'=true)(o2:∀x,u≠ .int .i64 x)(hu:∀w,A u w)(hsz:(Tryz.prog.info? T).map (·.size)=some 1)(hV:GV Vl i=VT)
 (hq:quietB (B.take (iB B t)++B.drop (iB B t+1)) i none=true) (hts:(B.take (iB B t)++B.drop (iB B t+1)).all (fun c=>c.t !=t)=true) (hia:(b.ia !=some i)=true) (hBT:BT.any (fun e=>e.1==T && e.2.1==b.m && e.2.2==0)=true) (hNP:BT.all (fun e=>e.1 !=T||e.2.1 !=0)=true) (hon:b.ia=none∨∃j,b.ia=some j∧o.after.any (fun e=>e.on==j && Region.binds md e)=true) (hg:GOk md ops Vl o):KStep BT Tryz.prog md ops Q a0 (GV Vl) n0 w0 B SL i o:=by
 subst hbt hT
 intro listed a w h D _ hil _ K hK
 rw [if_pos (wanted_of (hg.get h D))]
 have hon':onb listed b.ia=true:=by
  rcases hon with h1|⟨j,h1,h2⟩
  ·rw [h1];rfl
  ·rw [h1];exact listed_dep D j h2
 obtain⟨g,old,e1,e2,e3,hr,hks⟩:=h.k.store (v:=undef) (gB_split hb) hq hon' (by simpa using hia) hik hil (fun g' _=>Mw_of hBT hNP) hB.out #[u] (by rw [hm];rfl) (noInt1 o2) (by rw [hP];exact⟨u,rfl,hu _⟩) (fun c hc=>by
  rw [List.all_eq_true] at hts
  simpa using hts c hc)
 obtain⟨x,rfl⟩:∃x,old=#[x]:=by
  obtain⟨l⟩:=old
  match l,e3 with
  | [x],_=>exact⟨x,rfl⟩
 have hvp:a.eval (.tmp b.t)= .pointer (some ⟨g,0,none⟩):=by simp [Act.eval,Array.getD_eq_getD_getElem?,e1]
 have hv:a.eval (.const u)=u:=rfl
 unfold Oper.wp execOp
 simp only [ho,hvp,hv,Instr.storeAt,Instr.sureAddr,Sem.run_bind,Sem.run_pure,Result.andThen_ok,run_storeVar_one w g b.T b.T x _ e2 hsz o1]
 rw [hds] at hK
 show K (a.put o.dst undef) _
 rw [hds]
 exact hK _ _ hks hr (by rw [hV];trivial)
end
theorem size_bool:(Tryz.prog.info? 4).map (·.size)=some 1:=by kernel_rfl
def bentP (vs:List P2):Bool:=decide (∀k∈List.range vs.length,¬tn vs k=0)
theorem bent_f {vs:List P2}{j:Nat}(hj:j≤vs.length)(h:∃k∈List.range j,tn vs k=0):bentP vs=false:=dF fun h2=>by
 obtain⟨k,h3,h4⟩:=h
 exact h2 k (List.mem_range.2 (Nat.lt_of_lt_of_le (List.mem_range.1 h3) hj)) h4
theorem cBent {w:World}{N:Nat}{vs:List P2}{lv:Value}(hS:VSv N vs lv w)(hN1:1≤N)(hN2:N≤900)(hvs:vs.length≤1000000):Calls Tryz.prog 54 #[lv] w (RV (Vb (bentP vs)) w):=by
 have hmax:=VSv_max hS
 obtain⟨p,c,hlv⟩:=VSv_slice hS
 subst hlv
 refine calls_of_marks Tryz.func54 rfl ?_
 simp only [Tryz.ntmps54,List.size_toArray,List.length_cons,List.length_nil,Nat.reduceAdd,Nat.reduceSub,Array.replicate_succ,Array.replicate_zero,List.push_toArray,List.append_toArray,List.nil_append,List.cons_append]
 have st0:St w.heap.size w 9 [] [(0,VEq (.slice p vs.length c))] _ w:=St.begin (a:=⟨#[(.slice p vs.length c),undef,undef,undef,undef,undef,undef,undef,undef],[]⟩) rfl rfl (Lq.2 ⟨⟨_,rfl,rfl⟩,(fun _ h=>absurd h (by simp))⟩)
 generalize(⟨_,_⟩:Act)=a0 at st0 ⊢
 repeat first|refine Iq ?_|refine Ib ?_|refine Ik ?_|refine Ix ?_
 refine rgI (BT:=[(4,1,0)]) (Vl:=[VT]) (B:=[⟨2,some 0,none,4,1,VT,VT⟩]) (SL':=[(0,VEq (.slice p vs.length c))]) st0 ⟨ks,trivial⟩ ?_
 intro a1 w1 st1
 clear st0
 repeat first|refine Iq ?_|refine Ib ?_|refine Ik ?_|refine Ix ?_
 have:Sb [(4,1,0)] (VTn (.slice p vs.length c)):=⟨(Stab_VTn (by simp) (by simp))⟩
 refine rgI (BT:=[(4,1,0)]) (Vl:=[VEq (.slice p vs.length c),VTn (.slice p vs.length c)]) (B:=[⟨2,none,none,4,1,VT,VT⟩]) (SL':=[(0,VEq (.slice p vs.length c)),(5,VTn (.slice p vs.length c))]) st1 ⟨ks,?s1,trivial⟩ ?_
 case s1=>exact kd1 fun _ _ _ _ v0 X0=>(by obtain rfl:v0=_:=X0;exact cTurns)
 intro a2 w2 st2
 clear st1
 replace st2:St w.heap.size w 9 [⟨2,none,none,4,1,VT,VT⟩] [(0,VEq (.slice p vs.length c)),(5,VTn (.slice p vs.length c))] a2 w2:=st2
 have hsd:=st2.sl (5,VTn (.slice p vs.length c)) (.tail _ (.head _))
 obtain⟨g2,hg2,st2⟩:=st2.ptrB 2 rfl rfl rfl
 replace st2:St w.heap.size w 9 [⟨2,none,none,4,1,VT,VT⟩] [(0,VEq (.slice p vs.length c)),(2,VEq (.pointer (some ⟨g2,0,none⟩)))] a2 w2:=st2.cut
 repeat first|refine Iq ?_|refine Ib ?_|refine Ik ?_|refine Ix ?_
 have hn0:=st2.n
 refine range_turns (n:=5) (Nf:=9) (t:=3) (N:=N) (vs:=vs) (lv:= .slice p vs.length c) (BT:=[(4,1,0)]) [⟨2,none,none,4,1,VT,VT⟩] [⟨2,none,none,4,1,VC1 (Vb false),VT⟩] (fun ks=>∀k∈ks,¬tn vs k=0) (fun ks=>∃k∈ks,tn vs k=0) [(0,VEq (.slice p vs.length c)),(2,VEq (.pointer (some ⟨g2,0,none⟩)))] st2 (fun _ h=>absurd h (by simp)) hsd hS (Lq.2 ⟨⟨rfl,rfl,_,(.tail _ (.head _))⟩,(fun _ h=>absurd h (by simp))⟩) (Lq.2 ⟨⟨rfl,rfl,_,(.tail _ (.head _))⟩,(fun _ h=>absurd h (by simp))⟩) (Lq.2 ⟨⟨_,rfl⟩,(Lq.2 ⟨⟨_,rfl⟩,(fun _ h=>absurd h (by simp))⟩)⟩) (by decide) (Lq.2 ⟨⟨by simp,by simp⟩,(Lq.2 ⟨⟨by simp,by simp⟩,(fun _ h=>absurd h (by simp))⟩)⟩) (by decide) hN1 hN2 hvs (by simp) (by simp) (by simp) ?assign ?body ?done ?stop
 case assign=>
  intro l k a1 W K st1 hK
  repeat first|refine Iq ?_|refine Ib ?_|refine Ik ?_|refine Ix ?_
  refine rgI (BT:=[(4,1,0)]) (Vl:=[Vi (tn vs k)]) (B:=[]) (SL':=[(0,VEq (.slice p vs.length c)),(2,VEq (.pointer (some ⟨g2,0,none⟩))),(3,Vi (tn vs k))]) st1 ⟨ks,trivial⟩ ?_
  intro a2 w2 st2
  clear st1
  exact hK _ _ st2.cut
 case body=>
  intro l k xs a1 W st11 hF
  replace st11:St w.heap.size w 9 [⟨2,none,none,4,1,VT,VT⟩] [(3,Vi (tn vs k)),(6,VKR w2.heap.size [(4,1,0)] W),(0,VEq (.slice p vs.length c)),(2,VEq (.pointer (some ⟨g2,0,none⟩)))] a1 W:=st11
  by_cases hcc:tn vs k=0
  ·
   repeat first|refine Iq ?_|refine Ib ?_|refine Ik ?_|refine Ix ?_
   have:Sb [(4,1,0)] (VKR w2.heap.size [(4,1,0)] W):=⟨(Stab_VKR (by simp) (by simp))⟩
   refine rgI (BT:=[(4,1,0)]) (Vl:=[Vi (tn vs k),Vb (true)]) (B:=[⟨2,none,none,4,1,VT,VT⟩]) (SL':=[(3,Vi (tn vs k)),(6,VKR w2.heap.size [(4,1,0)] W),(0,VEq (.slice p vs.length c)),(2,VEq (.pointer (some ⟨g2,0,none⟩))),(8,Vb (true))]) st11 ⟨ks,?s1,trivial⟩ ?_
   case s1=>refine kr fun _ ac Y h hd=>?_;obtain⟨v0,x0,X0⟩:=h.dp hd 7;have hV0':v0= .int .i64 (tn vs k):=X0;exact⟨_,run_eqi rfl (x0.trans hV0') rfl,congrArg Value.bool (dT hcc)⟩
   intro a12 w12 st12
   clear st11
   repeat first|refine Iq ?_|refine Ib ?_|refine Ik ?_|refine Ix ?_
   obtain⟨vc,hc1,hc2⟩:=st12.slot (8,Vb (true)) (.tail _ (.tail _ (.tail _ (.tail _ (.head _)))))
   refine wpIn_cond_true (hc1.trans hc2) ?_
   clear hc1 hc2
   repeat first|refine Iq ?_|refine Ib ?_|refine Ik ?_|refine Ix ?_
   have:Sb [(4,1,0)] (VKR w2.heap.size [(4,1,0)] W):=⟨(Stab_VKR (by simp) (by simp))⟩
   refine rgI (BT:=[(4,1,0)]) (Vl:=[VT]) (B:=[⟨2,none,some 0,4,1,VC1 (Vb false),VT⟩]) (SL':=[(3,Vi (tn vs k)),(6,VKR w2.heap.size [(4,1,0)] W),(0,VEq (.slice p vs.length c)),(2,VEq (.pointer (some ⟨g2,0,none⟩))),(8,Vb (true))]) st12 ⟨?s0,trivial⟩ ?_
   case s0=>
    refine k_storec_ (A:=Vb false) rfl rfl rfl rfl rfl rfl rfl rfl rfl (fun _ h=>by cases h) (fun _=>rfl) size_bool rfl (by kernel_rfl) (by kernel_rfl) (by kernel_rfl) (by kernel_rfl) (by kernel_rfl) (.inl rfl) trivial
   intro a13 w13 st13
   clear st12
   repeat first|refine Iq ?_|refine Ib ?_|refine Ik ?_|refine Ix ?_
   have fin:St w.heap.size w 9 [⟨2,none,none,4,1,VC1 (Vb false),VT⟩] [(6,VKR w2.heap.size [(4,1,0)] W),(0,VEq (.slice p vs.length c)),(2,VEq (.pointer (some ⟨g2,0,none⟩)))] a13 w13:=st13.cut
   exact wpIn_ret ⟨fin.cut,⟨k,by simp,hcc⟩⟩
  ·
   repeat first|refine Iq ?_|refine Ib ?_|refine Ik ?_|refine Ix ?_
   have:Sb [(4,1,0)] (VKR w2.heap.size [(4,1,0)] W):=⟨(Stab_VKR (by simp) (by simp))⟩
   refine rgI (BT:=[(4,1,0)]) (Vl:=[Vi (tn vs k),Vb (false)]) (B:=[⟨2,none,none,4,1,VT,VT⟩]) (SL':=[(3,Vi (tn vs k)),(6,VKR w2.heap.size [(4,1,0)] W),(0,VEq (.slice p vs.length c)),(2,VEq (.pointer (some ⟨g2,0,none⟩))),(8,Vb (false))]) st11 ⟨ks,?s1,trivial⟩ ?_
   case s1=>refine kr fun _ ac Y h hd=>?_;obtain⟨v0,x0,X0⟩:=h.dp hd 7;have hV0':v0= .int .i64 (tn vs k):=X0;exact⟨_,run_eqi rfl (x0.trans hV0') rfl,congrArg Value.bool (dF hcc)⟩
   intro a12 w12 st12
   clear st11
   repeat first|refine Iq ?_|refine Ib ?_|refine Ik ?_|refine Ix ?_
   obtain⟨vc,hc1,hc2⟩:=st12.slot (8,Vb (false)) (.tail _ (.tail _ (.tail _ (.tail _ (.head _)))))
   refine wpIn_cond_false (hc1.trans hc2) ?_
   clear hc1 hc2
   repeat first|refine Iq ?_|refine Ib ?_|refine Ik ?_|refine Ix ?_
   have fin:St w.heap.size w 9 [⟨2,none,none,4,1,VT,VT⟩] [(6,VKR w2.heap.size [(4,1,0)] W),(0,VEq (.slice p vs.length c)),(2,VEq (.pointer (some ⟨g2,0,none⟩)))] a12 w12:=st12.cut
   refine⟨fin.cut,fun j hj=>?_⟩
   rcases List.mem_append.1 hj with hj|hj
   ·exact hF j hj
   ·rw [List.mem_singleton.1 hj];exact hcc
 case stop=>
  intro D j W hD hj st1 hF hK
  have hds:({a2 with defers:=[{target:= .collected D,args:=#[]}]}:Act).defers= [{target:= .collected D,args:=#[]}]:=rfl
  replace st1:=(st1.addS (t:=5) (V:=VOb D) (by decide) (fun _=>hK)).undef
  generalize hDa:({a2 with defers:=[{target:= .collected D,args:=#[]}]}:Act)=aD at hds ⊢
  replace st1:St w.heap.size w 9 [⟨2,none,none,4,1,VC1 (Vb false),VT⟩] [(5,VOb D),(0,VEq (.slice p vs.length c)),(2,VEq (.pointer (some ⟨g2,0,none⟩)))] ⟨aD.tmps,[]⟩ W:=by rw [←hDa];exact st1
  clear hDa
  repeat first|refine Iq ?_|refine Ib ?_|refine Ik ?_|refine Ix ?_
  obtain⟨vo,ho1,ho2⟩:=st1.sl (5,VOb D) (lS_mem rfl)
  have stX:=St.grown (st1.cut (L':=[⟨2,none,none,4,1,VC1 (Vb false),VT⟩]) (SL':=[])) (grownBy_putObj' W D (.deferred none)) (fun r e=>by cases e;exact⟨Nat.le_trans hn0 hD,_,ho2,rfl⟩)
  obtain⟨g,cs,r1,r2,r3,r4,r5⟩:=stX.res ⟨2,none,none,4,1,VC1 (Vb false),VT⟩ (.head _) rfl rfl
  obtain⟨x,hx,r4⟩:=r4
  cases hx
  exact wpIn_ret (ret_mark hds ho2 (results_cell_one rfl _ _ g 4 _ r1 r2) ⟨_,rfl,(by rw [bent_f hj hF];exact r4),r5⟩)
 case done=>
  intro D W hD st1 hF hK
  have hds:({a2 with defers:=[{target:= .collected D,args:=#[]}]}:Act).defers= [{target:= .collected D,args:=#[]}]:=rfl
  replace st1:=(st1.addS (t:=5) (V:=VOb D) (by decide) (fun _=>hK)).undef
  generalize hDa:({a2 with defers:=[{target:= .collected D,args:=#[]}]}:Act)=aD at hds ⊢
  replace st1:St w.heap.size w 9 [⟨2,none,none,4,1,VT,VT⟩] [(5,VOb D),(0,VEq (.slice p vs.length c)),(2,VEq (.pointer (some ⟨g2,0,none⟩)))] ⟨aD.tmps,[]⟩ W:=by rw [←hDa];exact st1
  clear hDa
  repeat first|refine Iq ?_|refine Ib ?_|refine Ik ?_|refine Ix ?_
  have:Sb [(4,1,0)] (VOb D):=⟨(Stab_VOb (by simp))⟩
  refine rgD (BT:=[(4,1,0)]) (Vl:=[VT]) (B:=[⟨2,none,some 0,4,1,VC1 (Vb true),VT⟩]) (SL':=[(5,VOb D),(0,VEq (.slice p vs.length c)),(2,VEq (.pointer (some ⟨g2,0,none⟩)))]) hds st1 ⟨?s0,trivial⟩ ?_
  case s0=>
   refine k_storec_ (A:=Vb true) rfl rfl rfl rfl rfl rfl rfl rfl rfl (fun _ h=>by cases h) (fun _=>rfl) size_bool rfl (by kernel_rfl) (by kernel_rfl) (by kernel_rfl) (by kernel_rfl) (by kernel_rfl) (.inl rfl) trivial
  intro a2 w2 hds st2
  clear st1
  repeat first|refine Iq ?_|refine Ib ?_|refine Ik ?_|refine Ix ?_
  obtain⟨vo,ho1,ho2⟩:=st2.sl (5,VOb D) (lS_mem rfl)
  have stX:=St.grown (st2.cut (L':=[⟨2,none,none,4,1,VC1 (Vb true),VT⟩]) (SL':=[])) (grownBy_putObj' w2 D (.deferred none)) (fun r e=>by cases e;exact⟨Nat.le_trans hn0 hD,_,ho2,rfl⟩)
  obtain⟨g,cs,r1,r2,r3,r4,r5⟩:=stX.res ⟨2,none,none,4,1,VC1 (Vb true),VT⟩ (.head _) rfl rfl
  obtain⟨x,hx,r4⟩:=r4
  cases hx
  exact wpIn_ret (ret_mark hds ho2 (results_cell_one rfl _ _ g 4 _ r1 r2) ⟨_,rfl,(by rw [show bentP vs=true from dT hF];exact r4),r5⟩)
theorem cNumeric {w:World}{N:Nat}{vs:List P2}{lv:Value}{v0:Value}(h0:VEq (lv) v0 w)(hS:VSv N vs lv w)(hN3:3≤N)(hN:N≤900):Calls Tryz.prog 53 #[v0] w (RV (Vb true) w):=by
 go_enter Tryz.func53,Tryz.ntmps53
 have st0:St w.heap.size w 22 [] [(0,VEq (lv))] _ w:=St.begin (a:=⟨#[v0,undef,undef,undef,undef,undef,undef,undef,undef,undef,undef,undef,undef,undef,undef,undef,undef,undef,undef,undef,undef,undef],[]⟩) rfl rfl (Lq.2 ⟨⟨_,rfl,h0⟩,(fun _ h=>absurd h (by simp))⟩)
 generalize(⟨_,_⟩:Act)=a0 at st0 ⊢
 have hmax:=VSv_max hS
 repeat first|refine Wq ?_|refine Wb ?_|refine Wk ?_|refine Wx ?_
 refine rg (BT:=[(35,8,0)]) (Vl:=[Vb (false)]) (B:=[]) (SL':=[(0,VEq (lv))]) st0 ⟨ks,trivial⟩ ?_
 intro a1 w1 st1
 clear st0
 repeat first|refine Wq ?_|refine Wb ?_|refine Wk ?_|refine Wx ?_
 refine rg (BT:=[(35,8,0)]) (Vl:=[VEq (lv),Vi ((vs.length:Int)),Vi (0)]) (B:=[]) (SL':=[(0,VEq (lv)),(5,VEq (lv)),(6,Vi ((vs.length:Int))),(7,Vi (0))]) st1 ⟨ks,?s1,ks,trivial⟩ ?_
 case s1=>refine kr fun _ ac Y h D=>?_;obtain⟨v0,x0,X0⟩:=h.dp D 5;exact len_Sv rfl rfl x0 X0 hS
 intro a2 w2 st2
 clear st1
 replace st2:St w.heap.size w 22 [] [(5,VEq (lv)),(6,Vi ((vs.length:Int))),(7,Vi (((0:Nat):Int)))] a2 w2:=st2.cut
 repeat first|refine Wq ?_|refine Wb ?_|refine Wk ?_|refine Wx ?_
 refine wp_loop_ghost (fun m aX wX=>∃j:Nat,j+m=vs.length∧St w.heap.size w 22 [] [(5,VEq (lv)),(6,Vi ((vs.length:Int))),(7,Vi (((j:Nat):Int)))] aX wX) vs.length ⟨0,by omega,st2⟩ ?_
 clear st2
 intro m aL wL ⟨j,hj,st2⟩
 by_cases hlt:j<vs.length
 ·
  repeat first|refine Wq ?_|refine Wb ?_|refine Wk ?_|refine Wx ?_
  refine rg (BT:=[(35,8,0)]) (Vl:=[Vb (true)]) (B:=[]) (SL':=[(5,VEq (lv)),(6,Vi ((vs.length:Int))),(7,Vi (((j:Nat):Int))),(8,Vb (true))]) st2 ⟨?s0,trivial⟩ ?_
  case s0=>
   refine kr fun _ ac Y h D=>?_
   obtain⟨v0,x0,X0⟩:=h.ot 7
   have hV0':v0= .int .i64 (((j:Nat):Int)):=X0
   obtain⟨v1,x1,X1⟩:=h.ot 6
   have hV1':v1= .int .i64 ((vs.length:Int)):=X1
   exact⟨_,run_lssi rfl (x0.trans hV0') (x1.trans hV1'),congrArg Value.bool (dT (by omega))⟩
  intro a3 w3 st3
  clear st2
  repeat first|refine Wq ?_|refine Wb ?_|refine Wk ?_|refine Wx ?_
  obtain⟨vc,hc1,hc2⟩:=st3.slot (8,Vb (true)) (.tail _ (.tail _ (.tail _ (.head _))))
  refine wp_cond_true (hc1.trans hc2) ?_
  clear hc1 hc2
  have hgd:vs[j]? =some (vs.getD j (0,0)):=by rw [List.getD_eq_getElem?_getD,List.getElem?_eq_getElem (by omega)];rfl
  repeat first|refine Wq ?_|refine Wb ?_|refine Wk ?_|refine Wx ?_
  refine rg (BT:=[(35,8,0)]) (Vl:=[VAt w (VEp 35 8 (Vv N (vs.getD j (0,0)).1 (vs.getD j (0,0)).2)),VAt w (Vv N (vs.getD j (0,0)).1 (vs.getD j (0,0)).2),VT,VT]) (B:=[⟨4,some 2,some 3,35,8,VAt w (Vv N (vs.getD j (0,0)).1 (vs.getD j (0,0)).2),VT⟩]) (SL':=[(5,VEq (lv)),(6,Vi ((vs.length:Int))),(7,Vi (((j:Nat):Int))),(8,Vb (true))]) st3 ⟨?s0,?s1,ks,ks,trivial⟩ ?_
  case s0=>refine kr fun _ ac Y h D=>?_;obtain⟨v0,x0,X0⟩:=h.ot 5;obtain⟨v1,x1,X1⟩:=h.ot 7;exact index_Sv rfl x0 X0 hS x1 X1 hgd
  case s1=>
   refine kr fun _ ac Y h D=>?_
   obtain⟨v0,x0,X0⟩:=h.dp D 9
   exact load_EpV (w:=w) (k:=8) (A:=Vv N (vs.getD j (0,0)).1 (vs.getD j (0,0)).2) rfl x0 X0 h.k.below Tryz.underlying35 rfl size_Vec
  intro a4 w4 st4
  clear st3
  repeat first|refine Wq ?_|refine Wb ?_|refine Wk ?_|refine Wx ?_
  refine rg (BT:=[(35,8,0)]) (Vl:=[Vpt a4 4 0,VAt w (Vq N ((vs.getD j (0,0)).1)),Vb (true),Vb (false),Vb (false),Vpt a4 4 4,VAt w (Vq N ((vs.getD j (0,0)).2)),Vb (true),Vb (false),Vb (false)]) (B:=[⟨4,none,none,35,8,VAt w (Vv N (vs.getD j (0,0)).1 (vs.getD j (0,0)).2),VT⟩]) (SL':=[(5,VEq (lv)),(6,Vi ((vs.length:Int))),(7,Vi (((j:Nat):Int))),(8,Vb (true)),(20,Vb (false))]) st4 ⟨ks,ks,?s2,ks,ks,ks,ks,?s7,ks,ks,trivial⟩ ?_
  case s2=>exact kd1 fun _ _ Y h v0 X0=>(cQValid (VAt_cur (Stab_Vq _ _) (show VAt w (Vq N ((vs.getD j (0,0)).1)) _ Y from(show VAt w (Vq N ((vs.getD j (0,0)).1)) v0 Y from X0)) h.k.below) (by omega))
  case s7=>exact kd1 fun _ _ Y h v0 X0=>(cQValid (VAt_cur (Stab_Vq _ _) (show VAt w (Vq N ((vs.getD j (0,0)).2)) _ Y from(show VAt w (Vq N ((vs.getD j (0,0)).2)) v0 Y from X0)) h.k.below) (by omega))
  intro a5 w5 st5
  clear st4
  repeat first|refine Wq ?_|refine Wb ?_|refine Wk ?_|refine Wx ?_
  obtain⟨vc,hc1,hc2⟩:=st5.slot (20,Vb (false)) (.tail _ (.tail _ (.tail _ (.tail _ (.head _)))))
  refine wp_cond_false (hc1.trans hc2) ?_
  clear hc1 hc2
  repeat first|refine Wq ?_|refine Wb ?_|refine Wk ?_|refine Wx ?_
  refine rg (BT:=[(35,8,0)]) (Vl:=[Vi (((j+1:Nat):Int)),Vi (((j+1:Nat):Int))]) (B:=[⟨4,none,none,35,8,VAt w (Vv N (vs.getD j (0,0)).1 (vs.getD j (0,0)).2),VT⟩]) (SL':=[(5,VEq (lv)),(6,Vi ((vs.length:Int))),(8,Vb (true)),(20,Vb (false)),(7,Vi (((j+1:Nat):Int)))]) st5 ⟨?s0,ks,trivial⟩ ?_
  case s0=>
   refine k_run0 SbB.out (by kernel_rfl) fun listed ac Y h D hnl=>⟨trivial,?_⟩
   obtain⟨v0,x0,X0⟩:=h.out0 hnl (7,Vi ((j:Nat):Int)) (.tail _ (.tail _ (.head _))) 1 (by kernel_rfl) (.inr (by kernel_rfl))
   exact⟨_,run_addi rfl (x0.trans (show v0= .int .i64 ((j:Nat):Int)from X0)) rfl (wrap_id (by omega) (by omega)),congrArg (Value.int .i64) (by omega)⟩
  intro a6 w6 st6
  clear st5
  replace st6:St w.heap.size w 22 [⟨4,none,none,35,8,VAt w (Vv N (vs.getD j (0,0)).1 (vs.getD j (0,0)).2),VT⟩] [(5,VEq (lv)),(6,Vi ((vs.length:Int))),(8,Vb (true)),(20,Vb (false)),(7,Vi (((j+1:Nat):Int)))] a6 w6:=st6
  exact⟨m - 1,by omega,j+1,by omega,st6.cut⟩
 ·
  repeat first|refine Wq ?_|refine Wb ?_|refine Wk ?_|refine Wx ?_
  refine rg (BT:=[(35,8,0)]) (Vl:=[Vb (false)]) (B:=[]) (SL':=[(5,VEq (lv)),(6,Vi ((vs.length:Int))),(7,Vi (((j:Nat):Int))),(8,Vb (false))]) st2 ⟨?s0,trivial⟩ ?_
  case s0=>
   refine kr fun _ ac Y h D=>?_
   obtain⟨v0,x0,X0⟩:=h.ot 7
   have hV0':v0= .int .i64 (((j:Nat):Int)):=X0
   obtain⟨v1,x1,X1⟩:=h.ot 6
   have hV1':v1= .int .i64 ((vs.length:Int)):=X1
   exact⟨_,run_lssi rfl (x0.trans hV0') (x1.trans hV1'),congrArg Value.bool (dF (by omega))⟩
  intro a3 w3 st3
  clear st2
  repeat first|refine Wq ?_|refine Wb ?_|refine Wk ?_|refine Wx ?_
  obtain⟨vc,hc1,hc2⟩:=st3.slot (8,Vb (false)) (.tail _ (.tail _ (.tail _ (.head _))))
  refine wp_cond_false (hc1.trans hc2) ?_
  clear hc1 hc2
  repeat first|refine Wq ?_|refine Wb ?_|refine Wk ?_|refine Wx ?_
  refine rg (BT:=[(35,8,0)]) (Vl:=[Vb (true)]) (B:=[]) (SL':=[(5,VEq (lv)),(6,Vi ((vs.length:Int))),(7,Vi (((j:Nat):Int))),(8,Vb (false)),(2,Vb (true))]) st3 ⟨ks,trivial⟩ ?_
  intro a4 w4 st4
  clear st3
  repeat first|refine Wq ?_|refine Wb ?_|refine Wk ?_|refine Wx ?_
  obtain⟨vr,r1,r4⟩:=st4.slot (2,Vb (true)) (.tail _ (.tail _ (.tail _ (.tail _ (.head _)))))
  exact wp_ret (bodyPost_ret (results_tmp rfl _ _ _) st4.defers ⟨_,congrArg Ending.returned (show _=vr from r1),r4,st4.k.below⟩)
end Go.Proofs.YtjdkdjobaabdiaaGreat
