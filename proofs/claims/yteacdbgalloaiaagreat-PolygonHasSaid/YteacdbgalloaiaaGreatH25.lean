/- Contracts of the packages integer, rat, plane, polygon and their references. -/
import Derived.Test.YteacdbgalloaiaaGreatH24
set_option linter.unusedVariables false
set_option maxRecDepth 100000
set_option maxHeartbeats 6400000
namespace Go.Proofs.YteacdbgalloaiaaGreat
open Go.RowKit
open Go
section
variable {md:Region.Mode}{ops:Array Oper}{n0 N:Nat}{w0:World}{B L:List Bd}{SL:List (Nat×VP)}{listed:Array Bool}{a a' a0 a0':Act}{w:World}{V:Nat->VP}
theorem KS.congr (h:KS n0 w0 B listed a w)(e:a'.tmps=a.tmps):KS n0 w0 B listed a' w:=⟨h.below,fun b hb hon=>by
 rw [e];exact h.ok b hb hon,fun b hb c hc=>by rw [e];exact h.ne b hb c hc,h.fa⟩
theorem KI.congr (h:KI md ops a0 V n0 w0 B SL listed a w)(e0:a0'.tmps=a0.tmps)(e:a'.tmps=a.tmps)(D:a'.defers=a0'.defers):KI md ops a0' V n0 w0 B SL listed a' w:=
 ⟨h.k.congr e,h.n,h.len,D,by rw [e,e0];exact h.size,fun t ht=>by rw [e,e0];exact h.same t ht,fun i o d h1 h2 h3=>by rw [e];exact h.own i o d h1 h2 h3,fun p hp=>by rw [e0];exact h.sl p hp,h.closed⟩
theorem St.undef (h:St n0 w0 N L SL a w):St n0 w0 N L SL ⟨a.tmps,[]⟩ w:=⟨h.k.congr rfl,h.n,h.size,rfl,h.sl⟩
end
section
variable {ro:Option Nat}{n:Nat}{Q:Exit->Act->World->Prop}{Vl:List VP}{n0:Nat}{w0:World}{B:List Bd}{SL:List (Nat×VP)}{BT:List (TypeId×Nat×Nat)}
theorem rgD {id N:Nat}{l:List Oper}{ord:Bool}{L:List Bd}{SL':List (Nat×VP)}{a:Act}{w:World}{ds:List Deferred}(hds:a.defers=ds)(st:St n0 w0 N L SL ⟨a.tmps,[]⟩ w)(hstep:AllK BT Tryz.prog .any l.toArray Q a (GV Vl) n0 w0 B SL 0 l)(hdone:∀a' w',a'.defers=ds->St n0 w0 N (B.map Bd.fin) SL' ⟨a'.tmps,[]⟩ w'->Q .normal a' w')[hB:SbB BT B][hS:SbS BT SL][hL:SbL BT Vl]
 (hst:StartsF L B:=by repeat (first|exact trivial|refine⟨.inl ⟨_,rfl⟩,?_⟩|refine⟨.inr ⟨_,rfl,rfl,rfl,rfl,rfl,rfl,.inr ⟨rfl,rfl,rfl⟩⟩,?_⟩|refine⟨.inr ⟨_,rfl,rfl,rfl,rfl,rfl,rfl,.inl ⟨_,rfl,rfl,rfl⟩⟩,?_⟩))
 (hg:GetsF l.toArray (GV Vl) SL SL':=by repeat (first|exact trivial|refine⟨.inl ⟨rfl,rfl⟩,?_⟩|refine⟨.inr ⟨rfl,by kernel_rfl⟩,?_⟩))
 (hm:Tryz.prog.follows .mixedOrders=true:=by kernel_rfl) (hfore:kFore .any l.toArray=true:=by kernel_rfl) (hown:flowOwn l.toArray=true:=by kernel_rfl) (hin:l.all (fun o=>match o.dst with|some d=>decide (d<N)|none=>true)=true:=by kernel_rfl)
 (hlt:B.all (fun b=>(match b.ia with|some i=>decide (i<l.toArray.size)|none=>true) && (match b.ik with|some i=>decide (i<l.toArray.size)|none=>true))=true:=by kernel_rfl) (hnd:noDefer l=true:=by kernel_rfl):(Code.region id l.toArray ord).wpIn (fW ro) n Tryz.prog Q a w:=
 region_kI hm hfore hown (by rw [show a.tmps.size=N from st.size];exact hin) hB.out hS.out (stab_of hL.out) ((st.start hst.to _).congr rfl) st.n st.sl (hstep.toI l 0 hnd) fun listed a' w' hall kd=>hdone a' w' (kd.defers.trans hds) ((kd.congr (a0':=⟨a.tmps,[]⟩) (a':=⟨a'.tmps,[]⟩) rfl rfl rfl).st hall st.size rfl hlt SL' hg.to)
end
def VOb (D:Nat):VP:=fun _ w=>w.heap[D]? =some (.deferred (some []))
theorem Stab_VOb {BT:List (TypeId×Nat×Nat)}{D:Nat}(h:∀e∈BT,e.1≠1000000):Stab BT (VOb D):=fun _ _ _ h1 hr=>hr.oth h D _ h1 (fun _ _ _ e=>by cases e)
theorem ret_mark {n:Nat}{P:Program}{fn:Func}{R:Ending->World->Prop}{a:Act}{w:World}{D:Nat}{v:Value}(hd:a.defers= [{target:= .collected D,args:=#[]}])(hK:w.heap[D]? =some (.deferred (some [])))(hr:(results fn a.tmps).run P (w.putObj D (.deferred none))= .ok v (w.putObj D (.deferred none)))(hR:R (.returned v) (w.putObj D (.deferred none))):bodyPostM (fW none) n P fn R .ret a w:=by
 show LeavesInM (fW none) n P fn a.tmps R a.defers .returning w;rw [hd];exact⟨by simp,.inl ⟨_,_,rfl,run_takeDeferred hK,v,hr,hR⟩⟩
theorem calls_of_marks {P:Program}{f:FuncId}{fn:Func}{c:Code}{args:Array Value}{w:World}{R:Ending->World->Prop}(hf:P.funcs[f]? =some fn)(hb:fn.body=some c)
 (h:c.wpIn (fW none) 5 P (bodyPostM (fW none) 5 P fn R) {tmps:=args++Array.replicate (fn.ntmps - args.size) undef,defers:=[]} w):Calls P f args w R:=
 (callsIn_wide (n:=5)).1 (callsIn_of_wp_marks (F:=fW none) (n:=5) hf hb trivial h rfl)
instance (N:Nat)(vs:List P2)(k:Nat):Ag (VSg N vs k) 16:=⟨AggV_Vp _ _ _ _ _⟩
theorem VSg_now {N:Nat}{vs:List P2}{k:Nat}{v:Value}{wb W W':World}(h:VAt wb (VSg N vs k) v W)(hb:Below wb.heap.size wb W'):VSg N vs k v W':=Stab_Vp (BT:=[]) _ _ _ _ _ _ _ _ (show VSg N vs k v wb from h) (RI.of_below hb)
def VF:VP:=fun _ _=>False
instance {BT:List (TypeId×Nat×Nat)}:Sb BT VF:=⟨fun _ _ _ h _=>h⟩
def sumQ (f:Nat->Rat)(ks:List Nat):Rat:=ks.foldl (fun s k=>s+f k) 0
theorem sumQ_snoc (f:Nat->Rat)(ks:List Nat)(k:Nat):sumQ f (ks++ [k])=sumQ f ks+f k:=by simp [sumQ,List.foldl_append]
def crK (vs:List P2)(k:Nat):Rat:=crs (cv vs k) (cv vs (k+1))
def twQ (vs:List P2):Rat:=sumQ (crK vs) (List.range vs.length)
theorem cTwice {w:World}{N:Nat}{vs:List P2}{lv:Value}(hS:VSv N vs lv w)(hN1:1<=N:=by omega)(hbd:1+vs.length*(4*N+2)<=900:=by omega):Calls Tryz.prog 58 #[lv] w (RV (Vq (1+vs.length*(4*N+2)) (twQ vs)) w):=by
 have hmax:=VSv_max hS;obtain⟨p,c,hlv⟩:=VSv_slice hS;subst hlv;refine calls_of_marks Tryz.func58 rfl ?_;simp only [Tryz.ntmps58,List.size_toArray,List.length_cons,List.length_nil,Nat.reduceAdd,Nat.reduceSub,Array.replicate_succ,Array.replicate_zero,List.push_toArray,List.append_toArray,List.nil_append,List.cons_append];generalize hA:(⟨_,_⟩:Act)=a0;have st0:St w.heap.size w 16 [] [(0,VEq (.slice p vs.length c))] a0 w:=by subst hA;exact St.begin rfl rfl (Lq.2 ⟨⟨_,rfl,rfl⟩,L0⟩)
 clear hA;refine Wm ?_
 refine rJ [(30,4,0),(73,16,0)] [VT] [⟨2,some 0,none,30,4,VT,VT⟩] [(0,VEq (.slice p vs.length c))] st0 ⟨ks,trivial⟩ fun a1 w1 st1=>Wm ?_;clear st0
 refine rJ [(30,4,0),(73,16,0)] [Vq 1 (0),VT,VT] [⟨2,none,none,30,4,VT,VT⟩,⟨3,some 1,some 2,30,4,Vq 1 (0),VT⟩] [(0,VEq (.slice p vs.length c))] st1 ⟨(kr fun _ A Y h hd=>build_Rat0 rfl),ks,ks,trivial⟩ fun a2 w2 st2=>Wm ?_;clear st1
 have:Sb [(30,4,0),(73,16,0)] (VSd (.slice p vs.length c)):=⟨(Stab_VSd (by simp) (by simp))⟩;refine rJ [(30,4,0),(73,16,0)] [VEq (.slice p vs.length c),VSd (.slice p vs.length c)] [⟨2,none,none,30,4,VT,VT⟩,⟨3,none,none,30,4,Vq 1 (0),VT⟩] [(0,VEq (.slice p vs.length c)),(8,VSd (.slice p vs.length c))] st2 ⟨ks,(by exact kd1 fun _ _ _ _ v0 X0=>(by obtain rfl:v0=_:=X0;exact cSides)),trivial⟩ ?_;intro a3 w3 st3;clear st2;replace st3:St w.heap.size w 16 [⟨2,none,none,30,4,VT,VT⟩,⟨3,none,none,30,4,Vq 1 (0),VT⟩] [(0,VEq (.slice p vs.length c)),(8,VSd (.slice p vs.length c))] a3 w3:=st3;have hsd:=st3.sl (8,VSd (.slice p vs.length c)) (lS_mem rfl);obtain⟨g2,hg2,st3⟩:=st3.ptrB 2 rfl rfl rfl;obtain⟨g3,hg3,st3⟩:=st3.ptrB 3 rfl rfl rfl;replace st3:St w.heap.size w 16 [⟨2,none,none,30,4,VT,VT⟩,⟨3,none,none,30,4,Vq 1 (0),VT⟩] [(0,VEq (.slice p vs.length c)),(2,VEq (.pointer (some ⟨g2,0,none⟩))),(3,VEq (.pointer (some ⟨g3,0,none⟩)))] a3 w3:=st3.cut;refine Wm ?_
 have hn0:=st3.n;refine range_sides (n:=5) (Nf:=16) (t:=5) (N:=N) (vs:=vs) (lv:= .slice p vs.length c) (BT:=[(30,4,0),(73,16,0)]) (fun xs=>[⟨2,none,none,30,4,VT,VT⟩,⟨3,none,none,30,4,Vq (1+xs.length*(4*N+2)) (sumQ (crK vs) xs),VT⟩]) (fun _=>[⟨0,none,none,30,4,VF,VT⟩]) (fun _ _=>True) (fun _ _=>True) [(0,VEq (.slice p vs.length c)),(2,VEq (.pointer (some ⟨g2,0,none⟩))),(3,VEq (.pointer (some ⟨g3,0,none⟩)))] (by show St _ _ _ [_,⟨3,none,none,_,4,Vq (1+0*(4*N+2)) (0:Rat),VT⟩] _ _ _;rw [show 1+0*(4*N+2)=1 by omega];exact st3) trivial (fun _=>[]) (fun _=>ownFrom_pure _ _) (fun _=>ownFrom_pure _ _) hsd hS (fun xs=>(Lq.2 ⟨⟨rfl,rfl,_,(.tail _ (.head _))⟩,(Lq.2 ⟨⟨rfl,rfl,_,(.tail _ (.tail _ (.head _)))⟩,L0⟩)⟩)) (fun _=>(Lq.2 ⟨⟨rfl,rfl,_,(.head _)⟩,L0⟩)) (Lq.2 ⟨⟨_,rfl⟩,(Lq.2 ⟨⟨_,rfl⟩,(Lq.2 ⟨⟨_,rfl⟩,L0⟩)⟩)⟩) (by decide) (by decide) (by decide) (Lq.2 ⟨⟨by simp,by simp⟩,(Lq.2 ⟨⟨by simp,by simp⟩,(Lq.2 ⟨⟨by simp,by simp⟩,L0⟩)⟩)⟩) (by decide) (by simp) (by simp) ?assign ?body (fun _ _=>(Lq.2 ⟨⟨_,(.head _),rfl⟩,(Lq.2 ⟨⟨_,(.tail _ (.head _)),rfl⟩,L0⟩)⟩)) (fun _=>(Lq.2 ⟨(by simp),(Lq.2 ⟨(by simp),L0⟩)⟩)) ?done ?stop
 case assign=>
  intro l k a1 W K hnW hbW st1 hK;refine Wm ?_
  refine rJ [(30,4,0),(73,16,0)] [VT,VT] [⟨5,some 0,some 1,73,16,VAt w (VSg N vs k),VT⟩] [(10,VAt w (VSg N vs k)),(9,Vi ((k:Int))),(0,VEq (.slice p vs.length c)),(2,VEq (.pointer (some ⟨g2,0,none⟩))),(3,VEq (.pointer (some ⟨g3,0,none⟩)))] st1 ⟨ks,ks,trivial⟩ ?_;intro a2 w2 st2;clear st1;exact hK _ _ st2.cut
 case body=>
  intro l k xs a1 W hk hlen st1 hEw;replace st1:St w.heap.size w 16 [⟨2,none,none,30,4,VT,VT⟩,⟨3,none,none,30,4,Vq (1+xs.length*(4*N+2)) (sumQ (crK vs) xs),VT⟩,⟨5,none,none,73,16,VAt w (VSg N vs k),VT⟩] [(9,VKR w3.heap.size [(30,4,0),(73,16,0)] W),(0,VEq (.slice p vs.length c)),(2,VEq (.pointer (some ⟨g2,0,none⟩))),(3,VEq (.pointer (some ⟨g3,0,none⟩)))] a1 W:=st1;have hmul:=Nat.mul_le_mul_right (4*N+2) (Nat.le_of_lt hlen);have hN9:N<=500:=by rcases Nat.eq_zero_or_pos vs.length with h0|h0;(omega);(have:=Nat.le_mul_of_pos_left (4*N+2) h0;omega)
  refine Wm ?_
  have:Sb [(30,4,0)] (VKR w3.heap.size [(30,4,0),(73,16,0)] W):=⟨(Stab_VKR (by simp) (by simp))⟩;refine rJ [(30,4,0)] [Vq (1+xs.length*(4*N+2)) (sumQ (crK vs) xs),VAt w (VSg N vs k),Vq (4*N+1) (crK vs k),Vq ((1+xs.length*(4*N+2))+(4*N+1)+1) ((sumQ (crK vs) xs)+(crK vs k)),VT] [⟨2,none,none,30,4,VT,VT⟩,⟨3,none,some 4,30,4,Vq ((1+xs.length*(4*N+2))+(4*N+1)+1) ((sumQ (crK vs) xs)+(crK vs k)),Vq (1+xs.length*(4*N+2)) (sumQ (crK vs) xs)⟩,⟨5,none,none,73,16,VAt w (VSg N vs k),VT⟩] [(9,VKR w3.heap.size [(30,4,0),(73,16,0)] W),(0,VEq (.slice p vs.length c)),(2,VEq (.pointer (some ⟨g2,0,none⟩))),(3,VEq (.pointer (some ⟨g3,0,none⟩)))] st1 ⟨ks,ks,(kd1 fun _ _ Y h v0 X0=>(cSgCross (VSg_now (show VAt w (VSg N vs k) v0 Y from X0) h.k.below))),(kd2 fun _ _ _ _ _ X0 _ X1=>cQAdd X0 X1),ks,trivial⟩ ?_;intro a2 w2 st2;clear st1;have eM:1+(xs++ [k]).length*(4*N+2)=(1+xs.length*(4*N+2))+(4*N+1)+1:=by rw [List.length_append,List.length_singleton,Nat.succ_mul];omega
  have eS:=sumQ_snoc (crK vs) xs k;have fin:St w.heap.size w 16 [⟨2,none,none,30,4,VT,VT⟩,⟨3,none,none,30,4,Vq (1+(xs++ [k]).length*(4*N+2)) (sumQ (crK vs) (xs++ [k])),VT⟩] [(9,VKR w3.heap.size [(30,4,0),(73,16,0)] W),(0,VEq (.slice p vs.length c)),(2,VEq (.pointer (some ⟨g2,0,none⟩))),(3,VEq (.pointer (some ⟨g3,0,none⟩)))] a2 w2:=by rw [eM,eS];exact st2.cut
  exact⟨fin.cut,trivial⟩
 case stop=>
  intro D j W hD hj st1 hEw hK;obtain⟨_,_,_,_,_,_,_,_,hF⟩:=st1.boxAt (b:=⟨0,none,none,30,4,VF,VT⟩) (.head _) rfl rfl;exact hF.elim
 case done=>
  intro D W hD st1 hEw hK;have hds:({a3 with defers:=[{target:= .collected D,args:=#[]}]}:Act).defers= [{target:= .collected D,args:=#[]}]:=rfl;replace st1:=(st1.addS (t:=8) (V:=VOb D) (by decide) (fun _=>hK)).undef;generalize hDa:({a3 with defers:=[{target:= .collected D,args:=#[]}]}:Act)=aD at hds ⊢;replace st1:St w.heap.size w 16 [⟨2,none,none,30,4,VT,VT⟩,⟨3,none,none,30,4,Vq (1+(List.range vs.length).length*(4*N+2)) (sumQ (crK vs) (List.range vs.length)),VT⟩] [(8,VOb D),(0,VEq (.slice p vs.length c)),(2,VEq (.pointer (some ⟨g2,0,none⟩))),(3,VEq (.pointer (some ⟨g3,0,none⟩)))] ⟨aD.tmps,[]⟩ W:=by rw [<-hDa];exact st1
  clear hDa;refine Wm ?_
  have:Sb [(30,4,0)] (VOb D):=⟨(Stab_VOb (by simp))⟩;refine rgD (BT:=[(30,4,0)]) (Vl:=[Vq (1+(List.range vs.length).length*(4*N+2)) (sumQ (crK vs) (List.range vs.length)),VT]) (B:=[⟨2,none,some 1,30,4,Vq (1+(List.range vs.length).length*(4*N+2)) (sumQ (crK vs) (List.range vs.length)),VT⟩,⟨3,none,none,30,4,Vq (1+(List.range vs.length).length*(4*N+2)) (sumQ (crK vs) (List.range vs.length)),VT⟩]) (SL':=[(8,VOb D),(0,VEq (.slice p vs.length c)),(2,VEq (.pointer (some ⟨g2,0,none⟩))),(3,VEq (.pointer (some ⟨g3,0,none⟩)))]) hds st1 ⟨ks,ks,trivial⟩ ?_;intro a2 w2 hds st2;clear st1;refine Wm ?_
  obtain⟨vo,ho1,ho2⟩:=st2.sl (8,VOb D) (lS_mem rfl);have stX:=St.grown (st2.cut (L':=[⟨2,none,none,30,4,Vq (1+(List.range vs.length).length*(4*N+2)) (sumQ (crK vs) (List.range vs.length)),VT⟩,⟨3,none,none,30,4,Vq (1+(List.range vs.length).length*(4*N+2)) (sumQ (crK vs) (List.range vs.length)),VT⟩]) (SL':=[])) (grownBy_putObj' w2 D (.deferred none)) (fun r e=>by cases e;exact⟨Nat.le_trans hn0 hD,_,ho2,rfl⟩);obtain⟨g,cs,r1,r2,r3,r4,r5⟩:=stX.res ⟨2,none,none,30,4,Vq (1+(List.range vs.length).length*(4*N+2)) (sumQ (crK vs) (List.range vs.length)),VT⟩ (.head _) rfl rfl;exact wpIn_ret (ret_mark hds ho2 (results_cell_row rfl _ _ g 30 cs (0,0) _ r1 r2 Tryz.underlying30 rfl (by rw [r3];exact size_Rat)) ⟨_,rfl,(by rw [List.length_range] at r4;exact r4),r5⟩)
def areaQ (vs:List P2):Rat:=twQ vs / Rat.divInt 2 1
theorem cArea {w:World}{N:Nat}{vs:List P2}{lv:Value}{v0:Value}(h0:VEq (lv) v0 w)(hS:VSv N vs lv w)(hN1:1<=N:=by omega)(hbd:1+vs.length*(4*N+2)<=900:=by omega):Calls Tryz.prog 20 #[v0] w (RV (Vq (1+vs.length*(4*N+2)+3) (areaQ vs)) w):=by
 go_enter Tryz.func20,Tryz.ntmps20
 generalize hA:(⟨_,_⟩:Act)=a0;have st0:St w.heap.size w 7 [] [(0,VEq (lv))] a0 w:=by subst hA;exact St.begin rfl rfl (Lq.2 ⟨⟨_,rfl,h0⟩,L0⟩)
 clear hA;refine Wn ?_
 refine rH [(30,4,0)] [VT] [⟨2,some 0,none,30,4,VT,VT⟩] [(0,VEq (lv))] st0 ⟨ks,trivial⟩ fun a1 w1 st1=>Wn ?_;clear st0
 refine rH [(30,4,0)] [VEq (lv),Vq (1+vs.length*(4*N+2)) (twQ vs),Vq 3 (Rat.divInt (2) (1)),Vq ((1+vs.length*(4*N+2))+3) ((twQ vs) / (Rat.divInt (2) (1))),VT] [⟨2,none,some 4,30,4,Vq ((1+vs.length*(4*N+2))+3) ((twQ vs) / (Rat.divInt (2) (1))),VT⟩] [] st1 ⟨ks,(by exact kd1 fun _ _ _ h v0 X0=>(by obtain rfl:v0=_:=X0;exact cTwice (VSv_later hS h.k.below) hN1 hbd)),(by refine kc fun _ A Y h D=>?_;exact⟨#[.int .i64 (2),.int .i64 (1)],by simp [eval_const],cQOf (show Vi (2) (.int .i64 (2)) Y from rfl) (show Vi (1) (.int .i64 (1)) Y from rfl)⟩),(kd2 fun _ _ _ _ _ X0 _ X1=>cQDiv X0 X1),ks,trivial⟩ ?_;intro a2 w2 st2;clear st1;refine Wn ?_
 exact wp_ret (rC 2 30 (Vq ((1+vs.length*(4*N+2))+3) ((twQ vs) / (Rat.divInt (2) (1)))) st2 fun cs r4=>r4)
theorem VAt_cur {V:VP}(hV:Stab [] V){v:Value}{wb W W':World}(h:VAt wb V v W)(hb:Below wb.heap.size wb W'):V v W':=hV _ _ _ h (RI.of_below hb)
instance (w:World)(V A:VP)(o k:Nat)[h:PtC V o k A]:PtC (VAt w V) o k (VAt w A):=⟨fun cs _ hv=>h.out cs w hv⟩
instance (N:Nat)(vs:List P2)(k:Nat):PtC (VSg N vs k) 0 8 (Vv N (cv vs k).1 (cv vs k).2):=⟨fun _ _ h=>VP2_fst h⟩
instance (N:Nat)(vs:List P2)(k:Nat):PtC (VSg N vs k) 8 8 (Vv N (cv vs (k+1)).1 (cv vs (k+1)).2):=⟨fun _ _ h=>VP2_snd h⟩
def cwX (vs:List P2)(k:Nat):Rat:=((cv vs k).1+(cv vs (k+1)).1)*crK vs k
def cwY (vs:List P2)(k:Nat):Rat:=((cv vs k).2+(cv vs (k+1)).2)*crK vs k
def ctr (vs:List P2):P2:=(sumQ (cwX vs) (List.range vs.length)*(Rat.divInt 1 3 / twQ vs),sumQ (cwY vs) (List.range vs.length)*(Rat.divInt 1 3 / twQ vs))
theorem cVAddN {w:World}{N M:Nat}{a b c d:Rat}{v0 v1:Value}(h0:Vv N (a) (b) v0 w)(h1:Vv M (c) (d) v1 w)(k1:1<=N:=by omega)(k2:N<=100000:=by omega)(k3:1<=M:=by omega)(k4:M<=100000:=by omega):Calls Tryz.prog 61 #[v0,v1] w (RV (Vv (N+M+1) (a+c) (b+d)) w):=by
 go_enter Tryz.func61,Tryz.ntmps61
 generalize hA:(⟨_,_⟩:Act)=a0;have st0:St w.heap.size w 16 [] [(0,Vv N (a) (b)),(1,Vv M (c) (d))] a0 w:=by subst hA;exact St.begin rfl rfl (Lq.2 ⟨⟨_,rfl,h0⟩,(Lq.2 ⟨⟨_,rfl,h1⟩,L0⟩)⟩)
 clear hA;refine Wn ?_
 refine rH [(32,8,0)] [VT,VT,VT] [⟨2,some 0,some 0,32,8,Vv N (a) (b),VT⟩,⟨3,some 1,some 1,32,8,Vv M (c) (d),VT⟩,⟨4,some 2,none,32,8,VT,VT⟩] [] st0 ⟨ks,ks,ks,trivial⟩ fun a1 w1 st1=>Wn ?_;clear st0
 refine rH [(32,8,0)] [Vpt a1 2 0,Vq N (a),Vpt a1 3 0,Vq M (c),Vq (N+M+1) ((a)+(c)),Vpt a1 2 4,Vq N (b),Vpt a1 3 4,Vq M (d),Vq (N+M+1) ((b)+(d)),Vv (N+M+1) ((a)+(c)) ((b)+(d)),VT] [⟨2,none,none,32,8,Vv N (a) (b),VT⟩,⟨3,none,none,32,8,Vv M (c) (d),VT⟩,⟨4,none,some 11,32,8,Vv (N+M+1) ((a)+(c)) ((b)+(d)),VT⟩] [] st1 ⟨ks,ks,ks,ks,(kd2 fun _ _ _ _ _ X0 _ X1=>cQAdd X0 X1),ks,ks,ks,ks,(kd2 fun _ _ _ _ _ X0 _ X1=>cQAdd X0 X1),(kr2 9 14 fun _ _ _ _ _ x0 X0 _ x1 X1=>build_Vec rfl x0 x1 (AggV_Vq _ _) (AggV_Vq _ _) X0 X1),ks,trivial⟩ fun a2 w2 st2=>Wn ?_;clear st1
 exact wp_ret (rC 4 32 (Vv (N+M+1) ((a)+(c)) ((b)+(d))) st2 fun cs r4=>r4)
theorem cVScaleN {w:World}{N M:Nat}{a b c:Rat}{v0 v1:Value}(h0:Vv N (a) (b) v0 w)(h1:Vq M (c) v1 w)(k1:1<=N:=by omega)(k2:N<=100000:=by omega)(k3:1<=M:=by omega)(k4:M<=100000:=by omega):Calls Tryz.prog 62 #[v0,v1] w (RV (Vv (N+M) (a*c) (b*c)) w):=by
 go_enter Tryz.func62,Tryz.ntmps62
 generalize hA:(⟨_,_⟩:Act)=a0;have st0:St w.heap.size w 14 [] [(0,Vv N (a) (b)),(1,Vq M (c))] a0 w:=by subst hA;exact St.begin rfl rfl (Lq.2 ⟨⟨_,rfl,h0⟩,(Lq.2 ⟨⟨_,rfl,h1⟩,L0⟩)⟩)
 clear hA;refine Wn ?_
 refine rH [(32,8,0)] [VT,VT,VT] [⟨2,some 0,some 0,32,8,Vv N (a) (b),VT⟩,⟨3,some 1,some 1,30,4,Vq M (c),VT⟩,⟨4,some 2,none,32,8,VT,VT⟩] [] st0 ⟨ks,ks,ks,trivial⟩ fun a1 w1 st1=>Wn ?_;clear st0
 refine rH [(32,8,0)] [Vpt a1 2 0,Vq N (a),Vq M (c),Vq (N+M) ((a)*(c)),Vpt a1 2 4,Vq N (b),Vq M (c),Vq (N+M) ((b)*(c)),Vv (N+M) ((a)*(c)) ((b)*(c)),VT] [⟨2,none,none,32,8,Vv N (a) (b),VT⟩,⟨3,none,none,30,4,Vq M (c),VT⟩,⟨4,none,some 9,32,8,Vv (N+M) ((a)*(c)) ((b)*(c)),VT⟩] [] st1 ⟨ks,ks,ks,(kd2 fun _ _ _ _ _ X0 _ X1=>cQMul X0 X1),ks,ks,ks,(kd2 fun _ _ _ _ _ X0 _ X1=>cQMul X0 X1),(kr2 8 12 fun _ _ _ _ _ x0 X0 _ x1 X1=>build_Vec rfl x0 x1 (AggV_Vq _ _) (AggV_Vq _ _) X0 X1),ks,trivial⟩ fun a2 w2 st2=>Wn ?_;clear st1
 exact wp_ret (rC 4 32 (Vv (N+M) ((a)*(c)) ((b)*(c))) st2 fun cs r4=>r4)
theorem cCenter {w:World}{N:Nat}{vs:List P2}{lv:Value}(hS:VSv N vs lv w)(hN1:1<=N:=by omega)(hbd2:1+vs.length*(6*N+3)<=900:=by omega):Calls Tryz.prog 22 #[lv] w (RV (Vv ((1+vs.length*(6*N+3))+(3+(1+vs.length*(4*N+2)))) (ctr vs).1 (ctr vs).2) w):=by
 have hmax:=VSv_max hS;obtain⟨p,c,hlv⟩:=VSv_slice hS;subst hlv;refine calls_of_marks Tryz.func22 rfl ?_;simp only [Tryz.ntmps22,List.size_toArray,List.length_cons,List.length_nil,Nat.reduceAdd,Nat.reduceSub,Array.replicate_succ,Array.replicate_zero,List.push_toArray,List.append_toArray,List.nil_append,List.cons_append];generalize hA:(⟨_,_⟩:Act)=a0;have st0:St w.heap.size w 27 [] [(0,VEq (.slice p vs.length c))] a0 w:=by subst hA;exact St.begin rfl rfl (Lq.2 ⟨⟨_,rfl,rfl⟩,L0⟩)
 clear hA;have hmm:=Nat.mul_le_mul_left vs.length (show 4*N+2<=6*N+3 by omega);have hbd:1+vs.length*(4*N+2)<=900:=by omega
 refine Wm ?_
 refine rJ [(32,8,0),(73,16,0)] [VT] [⟨2,some 0,none,32,8,VT,VT⟩] [(0,VEq (.slice p vs.length c))] st0 ⟨ks,trivial⟩ fun a1 w1 st1=>Wm ?_;clear st0
 refine rJ [(32,8,0),(73,16,0)] [Vv 1 (0) (0),VT,VT] [⟨2,none,none,32,8,VT,VT⟩,⟨3,some 1,some 2,32,8,Vv 1 (0) (0),VT⟩] [(0,VEq (.slice p vs.length c))] st1 ⟨(kr fun _ A Y h hd=>build_Vec0 rfl),ks,ks,trivial⟩ fun a2 w2 st2=>Wm ?_;clear st1
 have:Sb [(32,8,0),(73,16,0)] (VSd (.slice p vs.length c)):=⟨(Stab_VSd (by simp) (by simp))⟩;refine rJ [(32,8,0),(73,16,0)] [VEq (.slice p vs.length c),VSd (.slice p vs.length c)] [⟨2,none,none,32,8,VT,VT⟩,⟨3,none,none,32,8,Vv 1 (0) (0),VT⟩] [(0,VEq (.slice p vs.length c)),(8,VSd (.slice p vs.length c))] st2 ⟨ks,(by exact kd1 fun _ _ _ _ v0 X0=>(by obtain rfl:v0=_:=X0;exact cSides)),trivial⟩ ?_;intro a3 w3 st3;clear st2;replace st3:St w.heap.size w 27 [⟨2,none,none,32,8,VT,VT⟩,⟨3,none,none,32,8,Vv 1 (0) (0),VT⟩] [(0,VEq (.slice p vs.length c)),(8,VSd (.slice p vs.length c))] a3 w3:=st3;have hsd:=st3.sl (8,VSd (.slice p vs.length c)) (lS_mem rfl);obtain⟨g2,hg2,st3⟩:=st3.ptrB 2 rfl rfl rfl;obtain⟨g3,hg3,st3⟩:=st3.ptrB 3 rfl rfl rfl;replace st3:St w.heap.size w 27 [⟨2,none,none,32,8,VT,VT⟩,⟨3,none,none,32,8,Vv 1 (0) (0),VT⟩] [(0,VEq (.slice p vs.length c)),(2,VEq (.pointer (some ⟨g2,0,none⟩))),(3,VEq (.pointer (some ⟨g3,0,none⟩)))] a3 w3:=st3.cut;refine Wm ?_
 have hn0:=st3.n;refine range_sides (n:=5) (Nf:=27) (t:=5) (N:=N) (vs:=vs) (lv:= .slice p vs.length c) (BT:=[(32,8,0),(73,16,0)]) (fun xs=>[⟨2,none,none,32,8,VT,VT⟩,⟨3,none,none,32,8,Vv (1+xs.length*(6*N+3)) (sumQ (cwX vs) xs) (sumQ (cwY vs) xs),VT⟩]) (fun _=>[⟨0,none,none,30,4,VF,VT⟩]) (fun _ _=>True) (fun _ _=>True) [(0,VEq (.slice p vs.length c)),(2,VEq (.pointer (some ⟨g2,0,none⟩))),(3,VEq (.pointer (some ⟨g3,0,none⟩)))] (by show St _ _ _ [_,⟨3,none,none,_,8,Vv (1+0*(6*N+3)) (0:Rat) (0:Rat),VT⟩] _ _ _;rw [show 1+0*(6*N+3)=1 by omega];exact st3) trivial (fun _=>[]) (fun _=>ownFrom_pure _ _) (fun _=>ownFrom_pure _ _) hsd hS (fun xs=>(Lq.2 ⟨⟨rfl,rfl,_,(.tail _ (.head _))⟩,(Lq.2 ⟨⟨rfl,rfl,_,(.tail _ (.tail _ (.head _)))⟩,L0⟩)⟩)) (fun _=>(Lq.2 ⟨⟨rfl,rfl,_,(.head _)⟩,L0⟩)) (Lq.2 ⟨⟨_,rfl⟩,(Lq.2 ⟨⟨_,rfl⟩,(Lq.2 ⟨⟨_,rfl⟩,L0⟩)⟩)⟩) (by decide) (by decide) (by decide) (Lq.2 ⟨⟨by simp,by simp⟩,(Lq.2 ⟨⟨by simp,by simp⟩,(Lq.2 ⟨⟨by simp,by simp⟩,L0⟩)⟩)⟩) (by decide) (by simp) (by simp) ?assign ?body (fun _ _=>(Lq.2 ⟨⟨_,(.head _),rfl⟩,(Lq.2 ⟨⟨_,(.tail _ (.head _)),rfl⟩,L0⟩)⟩)) (fun _=>(Lq.2 ⟨(by simp),(Lq.2 ⟨(by simp),L0⟩)⟩)) ?done ?stop
 case assign=>
  intro l k a1 W K hnW hbW st1 hK;refine Wm ?_
  refine rJ [(32,8,0),(73,16,0)] [VT,VT] [⟨5,some 0,some 1,73,16,VAt w (VSg N vs k),VT⟩] [(10,VAt w (VSg N vs k)),(9,Vi ((k:Int))),(0,VEq (.slice p vs.length c)),(2,VEq (.pointer (some ⟨g2,0,none⟩))),(3,VEq (.pointer (some ⟨g3,0,none⟩)))] st1 ⟨ks,ks,trivial⟩ ?_;intro a2 w2 st2;clear st1;exact hK _ _ st2.cut
 case body=>
  intro l k xs a1 W hk hlen st1 hEw;replace st1:St w.heap.size w 27 [⟨2,none,none,32,8,VT,VT⟩,⟨3,none,none,32,8,Vv (1+xs.length*(6*N+3)) (sumQ (cwX vs) xs) (sumQ (cwY vs) xs),VT⟩,⟨5,none,none,73,16,VAt w (VSg N vs k),VT⟩] [(9,VKR w3.heap.size [(32,8,0),(73,16,0)] W),(0,VEq (.slice p vs.length c)),(2,VEq (.pointer (some ⟨g2,0,none⟩))),(3,VEq (.pointer (some ⟨g3,0,none⟩)))] a1 W:=st1;have hmul:=Nat.mul_le_mul_right (6*N+3) (Nat.le_of_lt hlen);have hN9:N<=500:=by rcases Nat.eq_zero_or_pos vs.length with h0|h0;(omega);(have:=Nat.le_mul_of_pos_left (6*N+3) h0;omega)
  refine Wm ?_
  have:Sb [(32,8,0)] (VKR w3.heap.size [(32,8,0),(73,16,0)] W):=⟨(Stab_VKR (by simp) (by simp))⟩;refine rJ [(32,8,0)] [Vv (1+xs.length*(6*N+3)) (sumQ (cwX vs) xs) (sumQ (cwY vs) xs),Vpt a1 5 0,VAt w (Vv N ((cv vs k).1) ((cv vs k).2)),Vpt a1 5 8,VAt w (Vv N ((cv vs (k+1)).1) ((cv vs (k+1)).2)),Vv (N+N+1) (((cv vs k).1)+((cv vs (k+1)).1)) (((cv vs k).2)+((cv vs (k+1)).2)),VAt w (VSg N vs k),Vq (4*N+1) (crK vs k),Vv ((N+N+1)+(4*N+1)) ((((cv vs k).1)+((cv vs (k+1)).1))*(crK vs k)) ((((cv vs k).2)+((cv vs (k+1)).2))*(crK vs k)),Vv ((1+xs.length*(6*N+3))+((N+N+1)+(4*N+1))+1) ((sumQ (cwX vs) xs)+((((cv vs k).1)+((cv vs (k+1)).1))*(crK vs k))) ((sumQ (cwY vs) xs)+((((cv vs k).2)+((cv vs (k+1)).2))*(crK vs k))),VT] [⟨2,none,none,32,8,VT,VT⟩,⟨3,none,some 10,32,8,Vv ((1+xs.length*(6*N+3))+((N+N+1)+(4*N+1))+1) ((sumQ (cwX vs) xs)+((((cv vs k).1)+((cv vs (k+1)).1))*(crK vs k))) ((sumQ (cwY vs) xs)+((((cv vs k).2)+((cv vs (k+1)).2))*(crK vs k))),Vv (1+xs.length*(6*N+3)) (sumQ (cwX vs) xs) (sumQ (cwY vs) xs)⟩,⟨5,none,none,73,16,VAt w (VSg N vs k),VT⟩] [(9,VKR w3.heap.size [(32,8,0),(73,16,0)] W),(0,VEq (.slice p vs.length c)),(2,VEq (.pointer (some ⟨g2,0,none⟩))),(3,VEq (.pointer (some ⟨g3,0,none⟩)))] st1 ⟨ks,ks,ks,ks,ks,(kd2 fun _ _ Y h v0 X0 v1 X1=>cVAddN (VAt_cur (Stab_Vv _ _ _) (show VAt w (Vv N ((cv vs k).1) ((cv vs k).2)) v0 Y from X0) h.k.below) (VAt_cur (Stab_Vv _ _ _) (show VAt w (Vv N ((cv vs (k+1)).1) ((cv vs (k+1)).2)) v1 Y from X1) h.k.below)),ks,(kd1 fun _ _ Y h v0 X0=>(cSgCross (VSg_now (show VAt w (VSg N vs k) v0 Y from X0) h.k.below))),(kd2 fun _ _ _ _ _ X0 _ X1=>cVScaleN X0 X1),(kd2 fun _ _ _ _ _ X0 _ X1=>cVAddN X0 X1),ks,trivial⟩ ?_;intro a2 w2 st2;clear st1;have eM:1+(xs++ [k]).length*(6*N+3)=(1+xs.length*(6*N+3))+((N+N+1)+(4*N+1))+1:=by rw [List.length_append,List.length_singleton,Nat.succ_mul];omega
  have eS:=sumQ_snoc (cwX vs) xs k;have eT:=sumQ_snoc (cwY vs) xs k;have fin:St w.heap.size w 27 [⟨2,none,none,32,8,VT,VT⟩,⟨3,none,none,32,8,Vv (1+(xs++ [k]).length*(6*N+3)) (sumQ (cwX vs) (xs++ [k])) (sumQ (cwY vs) (xs++ [k])),VT⟩] [(9,VKR w3.heap.size [(32,8,0),(73,16,0)] W),(0,VEq (.slice p vs.length c)),(2,VEq (.pointer (some ⟨g2,0,none⟩))),(3,VEq (.pointer (some ⟨g3,0,none⟩)))] a2 w2:=by rw [eM,eS,eT];exact st2.cut
  exact⟨fin.cut,trivial⟩
 case stop=>
  intro D j W hD hj st1 hEw hK;obtain⟨_,_,_,_,_,_,_,_,hF⟩:=st1.boxAt (b:=⟨0,none,none,30,4,VF,VT⟩) (.head _) rfl rfl;exact hF.elim
 case done=>
  intro D W hD st1 hEw hK;have hds:({a3 with defers:=[{target:= .collected D,args:=#[]}]}:Act).defers= [{target:= .collected D,args:=#[]}]:=rfl;replace st1:=(st1.addS (t:=8) (V:=VOb D) (by decide) (fun _=>hK)).undef;generalize hDa:({a3 with defers:=[{target:= .collected D,args:=#[]}]}:Act)=aD at hds ⊢;replace st1:St w.heap.size w 27 [⟨2,none,none,32,8,VT,VT⟩,⟨3,none,none,32,8,Vv (1+(List.range vs.length).length*(6*N+3)) (sumQ (cwX vs) (List.range vs.length)) (sumQ (cwY vs) (List.range vs.length)),VT⟩] [(8,VOb D),(0,VEq (.slice p vs.length c)),(2,VEq (.pointer (some ⟨g2,0,none⟩))),(3,VEq (.pointer (some ⟨g3,0,none⟩)))] ⟨aD.tmps,[]⟩ W:=by rw [<-hDa];exact st1
  clear hDa;rw [List.length_range] at st1;refine Wm ?_
  have:Sb [(32,8,0)] (VOb D):=⟨(Stab_VOb (by simp))⟩;refine rgD (BT:=[(32,8,0)]) (Vl:=[Vv (1+vs.length*(6*N+3)) (sumQ (cwX vs) (List.range vs.length)) (sumQ (cwY vs) (List.range vs.length)),Vq 3 (Rat.divInt (1) (3)),VEq (.slice p vs.length c),Vq (1+vs.length*(4*N+2)) (twQ vs),Vq (3+(1+vs.length*(4*N+2))) ((Rat.divInt (1) (3)) / (twQ vs)),Vv ((1+vs.length*(6*N+3))+(3+(1+vs.length*(4*N+2)))) ((sumQ (cwX vs) (List.range vs.length))*((Rat.divInt (1) (3)) / (twQ vs))) ((sumQ (cwY vs) (List.range vs.length))*((Rat.divInt (1) (3)) / (twQ vs))),VT]) (B:=[⟨2,none,some 6,32,8,Vv ((1+vs.length*(6*N+3))+(3+(1+vs.length*(4*N+2)))) ((sumQ (cwX vs) (List.range vs.length))*((Rat.divInt (1) (3)) / (twQ vs))) ((sumQ (cwY vs) (List.range vs.length))*((Rat.divInt (1) (3)) / (twQ vs))),VT⟩,⟨3,none,none,32,8,Vv (1+vs.length*(6*N+3)) (sumQ (cwX vs) (List.range vs.length)) (sumQ (cwY vs) (List.range vs.length)),VT⟩]) (SL':=[(8,VOb D),(0,VEq (.slice p vs.length c)),(2,VEq (.pointer (some ⟨g2,0,none⟩))),(3,VEq (.pointer (some ⟨g3,0,none⟩)))]) hds st1 ⟨ks,?s1,ks,?s3,?s4,?s5,ks,trivial⟩ ?_;case s1=>refine kc fun _ A Y h hd=>?_;exact⟨#[.int .i64 (1),.int .i64 (3)],by simp [eval_const],cQOf (show Vi (1) (.int .i64 (1)) Y from rfl) (show Vi (3) (.int .i64 (3)) Y from rfl)⟩
  case s3=>exact kd1 fun _ _ _ h v0 X0=>(by obtain rfl:v0=_:=X0;exact cTwice (VSv_later hS h.k.below) hN1 hbd)
  case s4=>exact kd2 fun _ _ _ _ _ X0 _ X1=>cQDiv X0 X1
  case s5=>exact kd2 fun _ _ _ _ _ X0 _ X1=>cVScaleN X0 X1
  intro a2 w2 hds st2;clear st1;refine Wm ?_
  obtain⟨vo,ho1,ho2⟩:=st2.sl (8,VOb D) (lS_mem rfl);have stX:=St.grown (st2.cut (L':=[⟨2,none,none,32,8,Vv ((1+vs.length*(6*N+3))+(3+(1+vs.length*(4*N+2)))) ((sumQ (cwX vs) (List.range vs.length))*((Rat.divInt (1) (3)) / (twQ vs))) ((sumQ (cwY vs) (List.range vs.length))*((Rat.divInt (1) (3)) / (twQ vs))),VT⟩,⟨3,none,none,32,8,Vv (1+vs.length*(6*N+3)) (sumQ (cwX vs) (List.range vs.length)) (sumQ (cwY vs) (List.range vs.length)),VT⟩]) (SL':=[])) (grownBy_putObj' w2 D (.deferred none)) (fun r e=>by cases e;exact⟨Nat.le_trans hn0 hD,_,ho2,rfl⟩);obtain⟨g,cs,r1,r2,r3,r4,r5⟩:=stX.res ⟨2,none,none,32,8,Vv ((1+vs.length*(6*N+3))+(3+(1+vs.length*(4*N+2)))) ((sumQ (cwX vs) (List.range vs.length))*((Rat.divInt (1) (3)) / (twQ vs))) ((sumQ (cwY vs) (List.range vs.length))*((Rat.divInt (1) (3)) / (twQ vs))),VT⟩ (.head _) rfl rfl;exact wpIn_ret (ret_mark hds ho2 (results_cell_row rfl _ _ g 32 cs (0,0) _ r1 r2 Tryz.underlying32 rfl (by rw [r3];exact size_Vec)) ⟨_,rfl,r4,r5⟩)
theorem own_mono {β:Type}{B B':Nat}{J:β->World->Prop}(h:OwnFrom B J)(hb:B<=B'):OwnFrom B' J:=fun s A A' row hs hg hr=>h s A A' row hs hg fun r e=>⟨Nat.le_trans hb (hr r e).1,(hr r e).2⟩
def SeqT {α:Type}(n g:Nat)(lb:Array Value)(encs:α->Array Value)(Kq:World->World->World->Prop)(S Sp:List α->Prop)(N:Nat)(w:World):Prop:=
 ∀(l:Nat) (J Jx:List α->World->Prop) (W:World),Below w.heap.size w W->OwnFrom W.heap.size J->OwnFrom W.heap.size Jx->
  (∀pre x W1,J pre W1->pre.length<N->YieldAt (fW none) (n - 1) Tryz.prog l (encs x) W1 fun e W'=>
   (e= .returned (.bool true)/\J (pre++ [x]) W'/\Kq W W1 W')∨(e= .returned (.bool false)/\Jx (pre++ [x]) W'/\Kq W W1 W'))->
  J [] W->CallsIn (fW none) n Tryz.prog g (#[.func (.yield l) #[] #[]]++lb) W fun e W'=>(∃v,e= .returned v)/\((∃xs,S xs/\J xs W')∨(∃pre,Sp pre/\Jx pre W'))
def ownPostT {α:Type}(B:Nat)(Kq:World->World->Prop)(I:List α->World->Prop)(Ix:Code->List α->World->Prop)(xs:List α)(W:World):Exit->Act->World->Prop
 | .normal,_,W'=>KeepsFrom B W W'/\Kq W W'/\I xs W'
 | .ret,_,W'=>KeepsFrom B W W'/\Kq W W'/\Ix .ret xs W'
 |_,_,_=>False
section
theorem own_put {β:Type}{B:Nat}{I:β->World->Prop}(h:OwnFrom B I){s:β}{W:World}{l:Nat}{o o':Obj}(hs:I s W)(hl:B<=l)(ho:W.heap[l]? =some o)(hc:o.isCells=false):I s (W.putObj l o'):=h.putObj _ hs hl ho hc
end
theorem range_own {α:Type}{n tk:Nat}{ps:Array Tmp}{assign body:Code}{Q:Exit->Act->World->Prop}{a:Act}{w:World}{gf:Nat}{lb:Array Value}{encs:α->Array Value}{Kq:World->World->World->Prop}{S Sp:List α->Prop}{N:Nat}
 (n1:1<=n) (hg:a.eval (.tmp tk)= .func (.func gf) #[] lb) (eg:∀args w,(callFunc gf args).run Tryz.prog w= .ok (.enter gf args) w) (hseq:SeqT (n - 1) gf lb encs Kq S Sp N w)
 (hKt:∀{W A B C:World},Kq W A B->Kq W B C->Kq W A C) (hKb:∀(W A:World) (l:Nat) (o o':Obj),w.heap.size<=l->l<W.heap.size->A.heap[l]? =some o->o.isCells=false->Kq W A (A.putObj l o')) (hps:∀x,(encs x).size=ps.size)
 (I:List α->World->Prop) (Ix:Code->List α->World->Prop) (hI:OwnFrom w.heap.size I) (hIx:∀c,OwnFrom w.heap.size (Ix c)) (h0:I [] w) (Ax:α->Act->World->Prop) (hAx:∀x a',OwnFrom w.heap.size (fun (_:Unit) W=>Ax x a' W))
 (hassign:∀(l:Nat) (pre:List α) (x:α) (W0 W:World) (K:Act->World->Prop),w.heap.size<=W0.heap.size->I pre W->(∀a' W',KeepsFrom w.heap.size W W'->Kq W0 W W'->I pre W'->Ax x a' W'->K a' W')->assign.wpIn (fW (some l)) (n - 1 - 1) Tryz.prog (Exit.then K (fun _ _ _=>False)) {tmps:=(ps.zip (encs x)).foldl (fun t (p,v)=>t.setIfInBounds p v) a.tmps,defers:=[]} W)
 (hbody:∀(l:Nat) (pre:List α) (x:α) (a':Act) (W0 W:World),w.heap.size<=W0.heap.size->I pre W->Ax x a' W->pre.length<N->body.wpIn (fW (some l)) (n - 1 - 1) Tryz.prog (ownPostT w.heap.size (Kq W0) I Ix (pre++ [x]) W) a' W)
 (hdone:∀(D:Nat) (xs:List α) (W:World),w.heap.size<=D->S xs->I xs W->W.heap[D]? =some (.deferred (some []))->Q .normal {a with defers:={target:= .collected D,args:=#[]}::a.defers} W)
 (hstop:∀(D:Nat) (c:Code) (pre:List α) (W:World),w.heap.size<=D->Sp pre->Ix c pre W->W.heap[D]? =some (.deferred (some []))->c.wpIn (fW none) n Tryz.prog Q {a with defers:={target:= .collected D,args:=#[]}::a.defers} W):
 (Code.rangeFunc (.tmp tk) ps assign body).wpIn (fW none) n Tryz.prog Q a w:=by
 refine wpIn_rangeFunc ?_;intro fn hfn;obtain⟨R,hR⟩:∃R:LoopState->Option Code->Loop,∀s p,R s p={state:=s,pending:=p,fn,tmps:=a.tmps,params:=ps,assign,body,defers:=w.heap.size}:=⟨_,fun _ _=>rfl⟩;obtain⟨U,hU⟩:∃U,(w.alloc (.deferred (some []))).alloc (.loop (R .ready none))=U:=⟨_,rfl⟩;have uS:U.heap.size=w.heap.size+2:=by rw [<-hU];simp
 have uL:U.heap[w.heap.size+1]? =some (.loop (R .ready none)):=by
  rw [<-hU];have:=World.alloc_heap_new (w.alloc (.deferred (some []))) (.loop (R .ready none));rwa [World.size_alloc] at this
 have uD:U.heap[w.heap.size]? =some (.deferred (some [])):=by
  rw [<-hU];exact(Below.heap_alloc _ _ _ (by simp)).trans (World.alloc_heap_new w _)
 have uI:I [] U:=by rw [<-hU];exact hI.alloc _ (hI.alloc _ h0)
 have uB:Below w.heap.size w U:=by rw [<-hU];exact((Below.refl _ w).alloc (Nat.le_refl _) _).alloc (by simp) _
 refine⟨w.heap.size+1,[{target:= .collected w.heap.size,args:=#[]}],U,{target:= .fn (.func gf) lb,args:=#[.func (.yield (w.heap.size+1)) #[] #[]]},U,gf,#[.func (.yield (w.heap.size+1)) #[] #[]]++lb,U,?_,?_,fun _ _=>trivial,?_,fun e=>(by cases e),?_⟩
 ·rw [<-hU,hR];exact run_enterLoop_outer _ _ _ _ _
 ·simp only [resolve,hg];simp [go_sem]
 ·simp [invoke,go_sem,eg]
 -- what abides:our own,the record,the block for deferred calls
 have abide:∀{T:List α->World->Prop},OwnFrom w.heap.size T->∀(o:Obj),OwnFrom U.heap.size (fun pre W=>T pre W/\W.heap[w.heap.size+1]? =some o/\W.heap[w.heap.size]? =some (.deferred (some []))):=fun hT o s A B row hs hgr hr=>by
  refine⟨hT s A B row hs.1 hgr fun r e=>⟨by have:=(hr r e).1;omega,(hr r e).2⟩,?_,?_⟩
  ·exact(hgr.block _ (lt_blk hs.2.1) fun e=>by have:=(hr _ e.symm).1;omega).trans hs.2.1
  ·exact(hgr.block _ (lt_blk hs.2.2) fun e=>by have:=(hr _ e.symm).1;omega).trans hs.2.2
 refine(hseq (w.heap.size+1) (fun pre W=>I pre W/\W.heap[w.heap.size+1]? =some (.loop (R .ready none))/\W.heap[w.heap.size]? =some (.deferred (some [])))
  (fun pre W=>∃c,Ix c pre W/\W.heap[w.heap.size+1]? =some (.loop (R .done (some c)))/\W.heap[w.heap.size]? =some (.deferred (some [])))
  U uB (abide hI _) (fun s A B row hs hgr hr=>by obtain⟨c,hc⟩:=hs;exact⟨c,abide (hIx c) _ s A B row hc hgr hr⟩) ?_ ⟨uI,uL,uD⟩).mono ?_
 ·rintro pre x W ⟨hi,hl,hk⟩ hlen
  have hy:=run_yield (P:=Tryz.prog) (args:=encs x) hl (by rw [hR];exact hps x);rw [hR] at hy;refine⟨fn,_,assign,body,hy,roundIn_of_wpIn hfn (hassign _ pre x U W _ (by omega) hi fun a' V hkv hqv hiv hax=>?_)⟩;have vl:=hkv.same _ _ (by omega) hl rfl;have vk:=hkv.same _ _ (Nat.le_refl _) hk rfl;obtain⟨Z,hZ⟩:∃Z,V.putObj (w.heap.size+1) (.loop {R .ready none with state:= .busy})=Z:=⟨_,rfl⟩;refine⟨Z,by rw [<-hZ];exact run_beginRound vl (by rw [hR]),?_⟩;have zl:Z.heap[w.heap.size+1]? =some (.loop {R .ready none with state:= .busy}):=by rw [<-hZ];exact World.putObj_heap_same (lt_blk vl)
  have zk:Z.heap[w.heap.size]? =some (.deferred (some [])):=by rw [<-hZ];exact(World.putObj_heap_other (by omega)).trans vk
  have zi:I pre Z:=by rw [<-hZ];exact own_put hI hiv (by omega) vl rfl
  have za:Ax x a' Z:=by rw [<-hZ];exact own_put (s:=()) (hAx x a') hax (by omega) vl rfl
  have zq:Kq U V Z:=by rw [<-hZ];exact hKb _ _ _ _ _ (by omega) (by omega) vl rfl
  refine wpIn_mono (hbody _ pre x a' U Z (by omega) zi za hlen) ?_
  have fin:∀(jump:Option Code) (Y:World),KeepsFrom w.heap.size Z Y->∃X,(Instr.endRound (w.heap.size+1) jump).run Tryz.prog Y= .ok (.bool jump.isNone) X/\X=Y.putObj (w.heap.size+1) (.loop (R (if jump.isNone then .ready else .done) jump))/\Y.heap[w.heap.size+1]? =some (.loop {R .ready none with state:= .busy})/\X.heap[w.heap.size+1]? =some (.loop (R (if jump.isNone then .ready else .done) jump))/\X.heap[w.heap.size]? =some (.deferred (some [])):=fun jump Y hky=>by
   have yl:=hky.same _ _ (by omega) zl rfl;have yk:=hky.same _ _ (Nat.le_refl _) zk rfl;have hr:=run_endRound (P:=Tryz.prog) jump yl;refine⟨_,?_,rfl,yl,World.putObj_heap_same (lt_blk yl),(World.putObj_heap_other (by omega)).trans yk⟩;rw [hR] at hr ⊢;exact hr
  intro e a3 Y hp;cases e with
  |normal=>
   obtain⟨h1,h2,h3⟩:=hp;obtain⟨X,hx,rfl,yl,xl,xk⟩:=fin none Y h1;exact⟨_,_,hx,.inl ⟨rfl,⟨own_put hI h3 (by omega) yl rfl,xl,xk⟩,hKt hqv (hKt (hKt zq h2) (hKb _ _ _ _ _ (by omega) (by omega) yl rfl))⟩⟩
  |ret=>
   obtain⟨h1,h2,h3⟩:=hp;obtain⟨X,hx,rfl,yl,xl,xk⟩:=fin (some .ret) Y h1;exact⟨_,_,hx,.inr ⟨rfl,⟨.ret,own_put (hIx _) h3 (by omega) yl rfl,xl,xk⟩,hKt hqv (hKt (hKt zq h2) (hKb _ _ _ _ _ (by omega) (by omega) yl rfl))⟩⟩
  |exit id=>exact hp.elim
  |goto t=>exact hp.elim
  |panic ch=>exact hp.elim
  |outgrown=>exact hp.elim
 ·rintro e X ⟨⟨v,rfl⟩,(⟨xs,hS,hi,hl,hk⟩|⟨pre,hSp,c,hi,hl,hk⟩)⟩
  ·have:=run_endLoop (P:=Tryz.prog) hl (by rw [hR];simp);rw [hR] at this;exact⟨none,_,this,hdone _ xs _ (Nat.le_refl _) hS (own_put hI hi (by omega) hl rfl) ((World.putObj_heap_other (by omega)).trans hk)⟩
  ·have:=run_endLoop (P:=Tryz.prog) hl (by rw [hR];simp);rw [hR] at this;exact⟨some c,_,this,hstop _ c pre _ (Nat.le_refl _) hSp (own_put (hIx c) hi (by omega) hl rfl) ((World.putObj_heap_other (by omega)).trans hk)⟩
end Go.Proofs.YteacdbgalloaiaaGreat
