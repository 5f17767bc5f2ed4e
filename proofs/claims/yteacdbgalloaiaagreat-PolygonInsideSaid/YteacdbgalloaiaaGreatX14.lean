/- Contracts of the packages integer, rat, plane, polygon and their references. -/
import Derived.Test.YteacdbgalloaiaaGreatX13
set_option linter.unusedVariables false
set_option maxRecDepth 100000
set_option maxHeartbeats 6400000
namespace Go.Proofs.YteacdbgalloaiaaGreat
open Go.RowKit
open Go
def VSl {α:Type}(T:TypeId)(k:Nat)(E:α->VP)(xs:List α):VP:=fun v w=>∃h o c cs,v= .slice (some ⟨h,o,none⟩) xs.length c/\xs.length<=c/\c<=9223372036854775807/\w.heap[h]? =some (.cells cs T (0,0))/\o+k*xs.length<=cs.size/\∀i x,xs[i]? =some x->E x (.agg (cs.extract (o+k*i) (o+k*i+k))) w
def VEp (T:TypeId)(k:Nat)(A:VP):VP:=fun v w=>∃h off cs,v= .pointer (some ⟨h,off,none⟩)/\w.heap[h]? =some (.cells cs T (0,0))/\off+k<=cs.size/\A (.agg (cs.extract off (off+k))) w
section
variable {BT:List (TypeId×Nat×Nat)}{α:Type}{T:TypeId}{k:Nat}{E:α->VP}{xs:List α}{w W:World}{v:Value}{A:VP}
theorem VSl_later (hE:∀x,Stab [] (E x))(h:VSl T k E xs v w)(hb:Below w.heap.size w W):VSl T k E xs v W:=by
 obtain⟨hh,o,c,cs,e1,e2,e3,e4,e5,e6⟩:=h;exact⟨hh,o,c,cs,e1,e2,e3,(hb.block _ (lt_blk e4)).trans e4,e5,fun i x hx=>hE x _ _ _ (e6 i x hx) (RI.of_below hb)⟩
theorem VSl_el (h:VSl T k E xs v w){i:Nat}{x:α}(hx:xs[i]? =some x):∃b o c,v= .slice (some ⟨b,o,none⟩) xs.length c/\VEp T k (E x) (.pointer (some ⟨b,o+k*i,none⟩)) w:=by
 obtain⟨hh,o,c,cs,e1,e2,e3,e4,e5,e6⟩:=h
 have hi:i<xs.length:=by
  rcases Nat.lt_or_ge i xs.length with h'|h'
  ·exact h'
  ·rw [List.getElem?_eq_none h'] at hx;cases hx
 have hle:k*i+k<=k*xs.length:=by rw [<-Nat.mul_succ];exact Nat.mul_le_mul_left k hi
 exact⟨hh,o,c,e1,hh,_,cs,rfl,e4,by omega,e6 i x hx⟩
theorem load_EpV {ρ:Operand->Value}{o:Oper}{x:Operand}{va:Value}{d:TypeDesc}(ho:o.op= .load T x)(hx:ρ x=va)(h:VAt w (VEp T k A) va W)(hb:Below w.heap.size w W)(hu:Tryz.prog.underlying T=some d)(D:aggT d=true)(hi:(Tryz.prog.info? T).map (·.size)=some k):∃v,(execOp ρ o).run Tryz.prog W= .ok (.value v) W/\VAt w A v W:=by
 obtain⟨g,off,cs,rfl,e2,e3,e4⟩:=h;refine⟨_,?_,e4⟩;have e5:=(hb.block _ (lt_blk e2)).trans e2;unfold execOp;simp only [ho,hx,Instr.loadAt,Instr.sureAddr,Sem.run_bind,Sem.run_pure,Result.andThen_ok,run_loadVar_part W g off k T T cs (0,0) d e5 e3 hu D hi]
end
def EV (N:Nat)(a:P2):VP:=Vv N a.1 a.2
def VSv (N:Nat)(vs:List P2):VP:=fun v w=>(v= .slice none 0 0/\vs= [])∨VSl 32 8 (EV N) vs v w
theorem VSv_later {N:Nat}{vs:List P2}{v:Value}{w W:World}(h:VSv N vs v w)(hb:Below w.heap.size w W):VSv N vs v W:=
 h.imp id fun h=>VSl_later (fun _=>Stab_Vv _ _ _) h hb
theorem VSv_slice {N:Nat}{vs:List P2}{v:Value}{w:World}(h:VSv N vs v w):∃p c,v= .slice p vs.length c:=by
 rcases h with⟨rfl,rfl⟩|⟨hh,o,c,cs,rfl,-⟩
 ·exact⟨_,_,rfl⟩
 ·exact⟨_,_,rfl⟩
theorem VSv_max {N:Nat}{vs:List P2}{v:Value}{w:World}(h:VSv N vs v w):vs.length<=9223372036854775807:=by
 rcases h with⟨rfl,rfl⟩|⟨hh,o,c,cs,rfl,h1,h2,-⟩
 ·simp
 ·omega
def VPb (T:TypeId)(u:Value):VP:=fun v w=>∃b,v= .pointer (some ⟨b,0,none⟩)/\w.heap[b]? =some (.cells #[u] T (0,0))
theorem Stab_VPb {BT:List (TypeId×Nat×Nat)}{T:TypeId}{u:Value}(h1:∀e∈BT,e.1≠T):Stab BT (VPb T u):=fun _ _ _ ⟨b,e1,e2⟩ hr=>⟨b,e1,(hr.row b _ _ e2 (.inl fun e he q=>absurd q (h1 e he))).trans e2⟩
section
variable {ρ:Operand->Value}{o:Oper}{w W:World}{x y:Operand}{va vb lv:Value}{N:Nat}{vs:List P2}
theorem load_Pb {T:TypeId}{u:Value}(ho:o.op= .load T x)(hx:ρ x=va)(h:VPb T u va W)[hc:CeT T]:∃v,(execOp ρ o).run Tryz.prog W= .ok (.value v) W/\VEq u v W:=by
 obtain⟨b,rfl,hb⟩:=h;obtain⟨d,hu,hdd⟩:=hc.und;have hcell:W.cell? ⟨b,0,none⟩=some u:=by simp [World.cell?,hb]
 have hagg:(isAgg T).run Tryz.prog W= .ok false W:=by
  unfold isAgg;rw [Sem.run_bind,run_underlying hu W];cases d<;>simp_all [aggT]
 refine⟨u,?_,rfl⟩;unfold execOp;simp only [ho,hx,Instr.loadAt,Instr.sureAddr,Sem.run_bind,Sem.run_pure,Result.andThen_ok,loadVar,hagg];simp only [Bool.false_eq_true,if_false,run_load,hcell,Result.andThen_ok]
theorem len_Sv (ho:o.op= .call {callee:= .builtin .len,args:=#[x],argTypes:=#[23]})(_hty:o.type=3)(hx:ρ x=va)(h:VEq lv va W)(hS:VSv N vs lv w):∃v,(execOp ρ o).run Tryz.prog W= .ok (.value v) W/\Vi (vs.length:Int) v W:=by
 obtain rfl:va=lv:=h;obtain⟨p,c,rfl⟩:=VSv_slice hS;refine⟨.int .i64 (vs.length:Int),?_,rfl⟩;obtain⟨dd,op,ty,ps,af,gd⟩:=o;subst ho;simp only at _hty;subst _hty;clear hS;generalize vs.length=n at*
 go_simp
theorem index_Sv {a:P2}{j:Nat}(ho:o.op= .indexAddr 23 x y)(hx:ρ x=va)(h:VEq lv va W)(hS:VSv N vs lv w)(hy:ρ y=vb)(hb:Vi (j:Int) vb W)(hz:vs[j]? =some a):∃v,(execOp ρ o).run Tryz.prog W= .ok (.value v) W/\VAt w (VEp 32 8 (Vv N a.1 a.2)) v W:=by
 obtain rfl:va=lv:=h;rcases hS with⟨rfl,rfl⟩|hS
 ·cases hz
 obtain⟨b,off,c,rfl,h2⟩:=VSl_el hS hz;obtain rfl:vb=_:=hb;refine⟨.pointer (some ⟨b,off+8*j,none⟩),?_,h2⟩
 have hj:j<vs.length:=by
  rcases Nat.lt_or_ge j vs.length with h'|h'
  ·exact h'
  ·rw [List.getElem?_eq_none h'] at hz;cases hz
 have hj2:(j:Int)<(vs.length:Int):=by omega
 have hm:j*8=8*j:=Nat.mul_comm _ _;clear hS h2 hz;generalize vs.length=n at*
 obtain⟨dd,op,ty,ps,af,gd⟩:=o;subst ho
 go_simp
theorem rem_n {j n:Nat}(ho:o.op= .binOp .rem 3 x y 3)(hx:ρ x=va)(hy:ρ y=vb)(h1:Vi (j:Int) va W)(h2:Vi (n:Int) vb W)(hn:0<n):∃v,(execOp ρ o).run Tryz.prog W= .ok (.value v) W/\Vi ((j % n:Nat):Int) v W:=by
 obtain rfl:va=_:=h1;obtain rfl:vb=_:=h2;exact⟨_,run_remi ho hx hy (by omega) (by omega),by show Value.int .i64 _=_;rw [<-Int.natCast_emod]⟩
end
instance (w:World)(V:VP)(m:Nat)[h:Ag V m]:Ag (VAt w V) m:=⟨fun v _ hv=>h.out v w hv⟩
theorem cCorner {w:World}{wb:World}{N k:Nat}{vs:List P2}{lv:Value}{a:P2}{v0 v1:Value}(h0:Vi (k:Int) v0 w)(h1:VPb 23 lv v1 w)(hB:Below wb.heap.size wb w)(hS:VSv N vs lv wb)(hn:0<vs.length)(ha:vs[k % vs.length]? =some a):Calls Tryz.prog 123 #[v0,v1] w (RV (VAt wb (Vv N a.1 a.2)) w):=by
 go_enter Tryz.func123,Tryz.ntmps123
 refine Sg 11 [(0,Vi (k:Int)),(1,VPb 23 lv)] (Lq.2 ⟨⟨_,rfl,h0⟩,(Lq.2 ⟨⟨_,rfl,h1⟩,L0⟩)⟩) fun a0 st0=>Wn ?_
 have:Sb [(32,8,0)] (VPb 23 lv):=⟨(Stab_VPb (by simp))⟩;refine rH [(32,8,0)] [VT] [⟨3,some 0,none,32,8,VT,VT⟩] [(0,Vi (k:Int)),(1,VPb 23 lv)] st0 ⟨ks,trivial⟩ fun a1 w1 st1=>Wn ?_
 have:Sb [(32,8,0)] (VPb 23 lv):=⟨(Stab_VPb (by simp))⟩;refine rH [(32,8,0)] [VEq lv,Vi (k:Int),VEq lv,Vi (vs.length:Int),Vi ((k % vs.length:Nat):Int),VAt wb (VEp 32 8 (Vv N a.1 a.2)),VAt wb (Vv N a.1 a.2),VT] [⟨3,none,some 7,32,8,VAt wb (Vv N a.1 a.2),VT⟩] [(0,Vi (k:Int)),(1,VPb 23 lv)] st1 ⟨(by refine kr fun _ ac Y h D=>?_;obtain⟨v0,x0,X0⟩:=h.ot 1;exact load_Pb rfl x0 X0),ks,(by refine kr fun _ ac Y h D=>?_;obtain⟨v0,x0,X0⟩:=h.ot 1;exact load_Pb rfl x0 X0),(kr1 6 fun _ _ _ _ _ x0 X0=>len_Sv rfl rfl x0 X0 hS),(kr2 5 7 fun _ _ _ _ _ x0 X0 _ x1 X1=>rem_n rfl x0 x1 X0 X1 hn),(kr2 4 8 fun _ _ _ _ _ x0 X0 _ x1 X1=>index_Sv rfl x0 X0 hS x1 X1 ha),(kr1 9 fun _ _ _ h _ x0 X0=>load_EpV (w:=wb) (k:=8) (A:=Vv N a.1 a.2) rfl x0 X0 (hB.trans (h.k.below.mono hB.size)) Tryz.underlying32 rfl size_Vec),ks,trivial⟩ ?_;intro a2 w2 st2;refine Wn ?_
 exact wp_ret (rC 3 32 (VAt wb (Vv N a.1 a.2)) st2 fun cs r4=>r4)
instance iCeFnV:CeT 97:=⟨_,Tryz.underlying97,rfl⟩
def cv (vs:List P2)(k:Nat):P2:=vs.getD (k % vs.length) (0,0)
theorem cv_get {vs:List P2}(k:Nat)(h:0<vs.length):vs[k % vs.length]? =some (cv vs k):=by
 have:=Nat.mod_lt k h;rw [List.getElem?_eq_getElem this];simp [cv,List.getD_eq_getElem?_getD,this]
def VSg (N:Nat)(vs:List P2)(k:Nat):VP:=Vp N (cv vs k).1 (cv vs k).2 (cv vs (k+1)).1 (cv vs (k+1)).2
abbrev SdE (N:Nat)(vs:List P2)(wb:World):={x:Nat×Value // x.1<vs.length/\VSg N vs x.1 x.2 wb}
def encS {N:Nat}{vs:List P2}{wb:World}(x:SdE N vs wb):Array Value:=#[.int .i64 (x.1.1:Int),x.1.2]
structure RowK (BT:List (TypeId×Nat×Nat))(A B:World):Prop where
 size:A.heap.size<=B.heap.size
 row:∀(h:Nat) (cs:Array Value) (T:TypeId),A.heap[h]? =some (Obj.cells cs T (0,0))->(∀e∈BT,e.1≠T)->B.heap[h]? =A.heap[h]?
theorem RowK.refl (BT:List (TypeId×Nat×Nat))(A:World):RowK BT A A:=⟨Nat.le_refl _,fun _ _ _ _ _=>rfl⟩
theorem RowK.trans {BT:List (TypeId×Nat×Nat)}{A B C:World}(h:RowK BT A B)(k:RowK BT B C):RowK BT A C:=⟨Nat.le_trans h.size k.size,fun j cs T hj hn=>by
 have h1:=h.row j cs T hj hn
 exact(k.row j cs T (h1.trans hj) hn).trans h1⟩
theorem RI.rowK {BT BT2:List (TypeId×Nat×Nat)}{A B:World}(h:RI BT A B)(h1:∀e∈BT,∃e'∈BT2,e'.1=e.1):RowK BT2 A B:=⟨h.size,fun j cs T hj hn=>h.row j cs T hj (.inl fun e he q=>by
 obtain⟨e',h2,h3⟩:=h1 e he
 exact absurd (h3.trans q) (hn e' h2))⟩
theorem RowK.setRow {BT:List (TypeId×Nat×Nat)}{A:World}{g:Nat}{old cs:Array Value}{T:TypeId}(hg:A.heap[g]? =some (.cells old T (0,0)))(hT:∃e∈BT,e.1=T):RowK BT A (A.setRow g cs):=⟨by simp [World.setRow],fun h cs' T' hk hn=>setRow_other A g h cs (by
 rintro rfl
 rw [hg] at hk;cases hk;obtain⟨e,h1,h2⟩:=hT
 exact hn e h1 h2)⟩
def Kp (wb:World)(BT:List (TypeId×Nat×Nat))(A B:World):Prop:=(Below wb.heap.size wb A->Below wb.heap.size wb B)/\RowK BT A B
theorem Kp.trans {wb:World}{BT:List (TypeId×Nat×Nat)}{A B C:World}(h:Kp wb BT A B)(k:Kp wb BT B C):Kp wb BT A C:=⟨fun x=>k.1 (h.1 x),h.2.trans k.2⟩
theorem Kp.put {wb:World}{BT:List (TypeId×Nat×Nat)}{n0:Nat}(hn:wb.heap.size<=n0)(W:World)(l:Nat)(o o':Obj)(hl:n0<=l)(h:W.heap[l]? =some o)(ho:o.isCells=false)(_:o.isWalk=false):Kp wb BT W (W.putObj l o'):=
 ⟨fun x=>x.grown (grownBy_putObj' W l o') x.size fun k e=>by cases e;omega,by simp,fun j cs T hj _=>(grownBy_putObj' W l o').block j (lt_blk hj) fun e=>by
  cases e;rw [h] at hj;cases hj
  cases ho⟩
theorem grown_of {w w':World}(h:Below w.heap.size w w'):w.grownBy w' none:=⟨h.os,h.tape,h.output,h.size,fun k hk _=>h.block k hk⟩
section
variable {ρ:Operand->Value}{o:Oper}{W:World}{x y z:Operand}{va vb vc:Value}
theorem run_enterV {f:FuncId}{u:Value}{ats:Array TypeId}(ho:o.op= .call {callee:= .value x,args:=#[y],argTypes:=ats})(hx:ρ x= .func (.func f) #[] #[u])(hy:ρ y=vb)(hcall:∀args w,(callFunc f args).run Tryz.prog w= .ok (.enter f args) w):(execOp ρ o).run Tryz.prog W= .ok (.enter f #[vb,u]) W:=by
 unfold execOp;simp only [ho,resolve,invoke,Deferred.ofValue,Sem.run_bind,Sem.run_pure,Result.andThen_ok,List.map_toArray,List.map_cons,List.map_nil,hx,hy];exact hcall #[vb,u] W
theorem run_yieldV2 {l:Nat}{ats:Array TypeId}{r:Result Next}(ho:o.op= .call {callee:= .value x,args:=#[y,z],argTypes:=ats})(hx:ρ x= .func (.yield l) #[] #[])(hy:ρ y=vb)(hz:ρ z=vc)(h:(Instr.yield l #[vb,vc]).run Tryz.prog W=r):(execOp ρ o).run Tryz.prog W=r:=by
 unfold execOp;simp only [ho,resolve,invoke,Deferred.ofValue,Sem.run_bind,Sem.run_pure,Result.andThen_ok,List.map_toArray,List.map_cons,List.map_nil,hx,hy,hz];exact h
theorem KI.oth {md:Region.Mode}{ops:Array Oper}{a0:Act}{V:Nat->VP}{n0:Nat}{w0:World}{B:List Bd}{SL:List (Nat×VP)}{listed:Array Bool}{a:Act}{w:World}(h:KI md ops a0 V n0 w0 B SL listed a w)(t:Nat)(ht:ops.all (fun o=>o.dst !=some t)=true):a.tmps[t]? =a0.tmps[t]? :=
 h.other t fun i o ho=>by
  rw [Array.all_eq_true'] at ht;have:=ht o (Array.mem_of_getElem? ho)
  simpa using this
theorem put2_get {a:Act}{p q t:Nat}{u v:Value}(hp:t≠p)(hq:t≠q):((a.put (some p) u).put (some q) v).tmps[t]? =a.tmps[t]? :=by
 rw [put_get_ne (by simpa using fun e=>hq e.symm),put_get_ne (by simpa using fun e=>hp e.symm)]
theorem put_eval {a:Act}{p:Nat}{u:Value}(hp:p<a.tmps.size):(a.put (some p) u).eval (.tmp p)=u:=by
 have:=put_get_self (a:=a) (v:=u) (d:=p) hp;simp [Act.eval,Array.getD_eq_getD_getElem?,this]
theorem map_snoc {α:Type}{f:α->Nat}{pre:List α}{x:α}{j:Nat}(h:pre.map f=List.range j)(hx:f x=j):(pre++ [x]).map f=List.range (j+1):=by
 rw [List.map_append,h,List.range_succ,List.map_singleton,hx]
end
theorem sides_stops {n:Nat}{wb wL:World}{N:Nat}{vs:List P2}{lv c:Value}{b1 b3:Nat}{BT:List (TypeId×Nat×Nat)}(hbt1:∀e∈BT,e.1≠23)(hbt2:∀e∈BT,e.1≠97)(hB:Below wb.heap.size wb wL)(hS:VSv N vs lv wb)(p1:wL.heap[b1]? =some (.cells #[lv] 23 (0,0)))(p3:wL.heap[b3]? =some (.cells #[c] 97 (0,0)))(hc:VCo lv c wL):
 SeqStopsK (fW none) n Tryz.prog 88 #[.pointer (some ⟨b1,0,none⟩),.pointer (some ⟨b3,0,none⟩)] (encS (N:=N) (vs:=vs) (wb:=wb)) (Kp wb BT) (fun xs=>xs.map (·.1.1)=List.range vs.length) (fun pre=>pre.map (·.1.1)=List.range pre.length/\pre.length<=vs.length) vs.length wL:=by
 intro l J Jx W hW hJ hJx hY h0;have hBW:Below wb.heap.size wb W:=hB.trans (hW.mono hB.size);replace p1:=(hW.block _ (lt_blk p1)).trans p1;replace p3:=(hW.block _ (lt_blk p3)).trans p3;obtain⟨b5,rfl,p5⟩:=hc;replace p5:=(hW.block _ (lt_blk p5)).trans p5;have hmax:=VSv_max hS;refine callsIn_of_wp Tryz.func88 rfl trivial ?_ rfl;simp only [Tryz.ntmps88,List.size_toArray,List.length_cons,List.length_nil,Nat.reduceAdd,Nat.reduceSub,Array.replicate_succ,Array.replicate_zero,List.push_toArray,List.append_toArray,List.nil_append,List.cons_append];have st0:St W.heap.size W 23 [] [(0,VEq (.func (.yield l) #[] #[])),(1,VPb 23 lv),(2,VPb 97 (.func (.func 123) #[] #[.pointer (some ⟨b5,0,none⟩)]))] _ W:=St.begin (a:=⟨#[.func (.yield l) #[] #[],.pointer (some ⟨b1,0,none⟩),.pointer (some ⟨b3,0,none⟩),undef,undef,undef,undef,undef,undef,undef,undef,undef,undef,undef,undef,undef,undef,undef,undef,undef,undef,undef,undef],[]⟩) rfl rfl (Lq.2 ⟨⟨_,rfl,rfl⟩,Lq.2 ⟨⟨_,rfl,_,rfl,p1⟩,Lq.2 ⟨⟨_,rfl,_,rfl,p3⟩,L0⟩⟩⟩);generalize(⟨#[.func (.yield l) #[] #[],.pointer (some ⟨b1,0,none⟩),.pointer (some ⟨b3,0,none⟩),undef,undef,undef,undef,undef,undef,undef,undef,undef,undef,undef,undef,undef,undef,undef,undef,undef,undef,undef,undef],[]⟩:Act)=a0 at st0 ⊢;refine Wm ?_
 have:Sb [] (VPb 23 lv):=⟨Stab_VPb (by simp)⟩;have:Sb [] (VPb 97 (.func (.func 123) #[] #[.pointer (some ⟨b5,0,none⟩)])):=⟨Stab_VPb (by simp)⟩;refine rJ [] [VEq lv,Vi (vs.length:Int),Vi 0] [] [(0,VEq (.func (.yield l) #[] #[])),(2,VPb 97 (.func (.func 123) #[] #[.pointer (some ⟨b5,0,none⟩)])),(6,Vi (vs.length:Int)),(7,Vi 0)] st0 ⟨(by refine kr fun _ ac Y h D=>?_;obtain⟨v0,hv0,X0⟩:=h.ot 1;exact load_Pb rfl hv0 X0),(kr1 5 fun _ _ _ _ _ hv0 X0=>len_Sv rfl rfl hv0 X0 hS),ks,trivial⟩ ?_;intro a1 w1 st1;clear st0 p1 p3;refine Wm ?_
 have hgr:=grown_of st1.k.below;refine wpIn_loop_ghost (fun m aX wX=>∃(j:Nat) (pre:List (SdE N vs wb)),j+m=vs.length/\pre.map (·.1.1)=List.range j/\J pre wX/\Below wb.heap.size wb wX/\wX.heap[b5]? =some (.cells #[lv] 23 (0,0))/\St wX.heap.size wX 23 [] [(0,VEq (.func (.yield l) #[] #[])),(2,VPb 97 (.func (.func 123) #[] #[.pointer (some ⟨b5,0,none⟩)])),(6,Vi (vs.length:Int)),(7,Vi j)] aX wX) vs.length ⟨0,[],by omega,rfl,hJ [] _ _ none h0 hgr (fun r e=>by cases e),hBW.trans (st1.k.below.mono hBW.size),(st1.k.below.block _ (lt_blk p5)).trans p5,⟨⟨Below.refl _ _,fun b hb=>absurd hb (by simp),fun b hb=>absurd hb (by simp),fun b hb=>absurd hb (by simp)⟩,Nat.le_refl _,st1.size,st1.defers,st1.sl⟩⟩ ?_;clear st1 hgr p5 h0;intro m aL W1 ⟨j,pre,hj,hpre,hJ1,hB1,p5,st⟩;have hlen:pre.length=j:=by have:=congrArg List.length hpre;simpa using this
 by_cases hlt:j<vs.length
 ·refine Wm ?_
  have:Sb [] (VPb 97 (.func (.func 123) #[] #[.pointer (some ⟨b5,0,none⟩)])):=⟨Stab_VPb (by simp)⟩;refine rJ [] [Vb true] [] [(0,VEq (.func (.yield l) #[] #[])),(2,VPb 97 (.func (.func 123) #[] #[.pointer (some ⟨b5,0,none⟩)])),(6,Vi (vs.length:Int)),(7,Vi j),(8,Vb true)] st ⟨(by refine kr fun _ ac Y h D=>?_;obtain⟨v0,hv0,X0⟩:=h.ot 7;have hV0':v0= .int .i64 j:=X0;obtain⟨v1,hv1,X1⟩:=h.ot 6;have hV1':v1= .int .i64 (vs.length:Int):=X1;exact⟨_,run_lssi rfl (hv0.trans hV0') (hv1.trans hV1'),congrArg Value.bool (dT (by omega))⟩),trivial⟩ ?_;intro a2 w2 st2;clear st;refine Wm ?_
  refine cTI st2 ?_;refine Wm ?_
  refine rJ [] [Vi j,Vi j] [] [(0,VEq (.func (.yield l) #[] #[])),(2,VPb 97 (.func (.func 123) #[] #[.pointer (some ⟨b5,0,none⟩)])),(6,Vi (vs.length:Int)),(7,Vi j),(4,Vi j)] st2 ⟨ks,ks,trivial⟩ ?_;intro a3 w3 st3;have hJ3:=hJ _ _ _ none hJ1 (grown_of st3.k.below) (fun r e=>by cases e);have hB3:Below wb.heap.size wb w3:=hB1.trans (st3.k.below.mono hB1.size);replace p5:=(st3.k.below.block _ (lt_blk p5)).trans p5;replace st3:St w3.heap.size w3 23 [] [(0,VEq (.func (.yield l) #[] #[])),(2,VPb 97 (.func (.func 123) #[] #[.pointer (some ⟨b5,0,none⟩)])),(6,Vi (vs.length:Int)),(7,Vi j),(4,Vi j)] a3 w3:=⟨⟨Below.refl _ _,fun b hb=>absurd hb (by simp),fun b hb=>absurd hb (by simp),fun b hb=>absurd hb (by simp)⟩,Nat.le_refl _,st3.size,st3.defers,st3.sl⟩;clear hJ1 hB1;refine Wm ?_
  refine rgY (BT:=[]) (k:=10) (Vl:=[VEq (.func (.yield l) #[] #[]),Vi j,VEq (.func (.func 123) #[] #[.pointer (some ⟨b5,0,none⟩)]),Vi j,VAt wb (Vv N (cv vs j).1 (cv vs j).2),VEq (.func (.func 123) #[] #[.pointer (some ⟨b5,0,none⟩)]),Vi j,Vi ((j+1:Nat):Int),VAt wb (Vv N (cv vs (j+1)).1 (cv vs (j+1)).2),VAt wb (VSg N vs j)]) st3 ⟨ks,ks,?s2,ks,?s4,?s5,ks,?s7,?s8,?s9,trivial⟩ rfl rfl rfl rfl rfl (fun _ e=>by cases e) (by kernel_rfl) (by kernel_rfl) ?tail rfl (by kernel_rfl);case s2=>refine kr fun _ ac Y h D=>?_;obtain⟨v0,hv0,X0⟩:=h.ot 2;exact load_Pb rfl hv0 X0
  case s5=>refine kr fun _ ac Y h D=>?_;obtain⟨v0,hv0,X0⟩:=h.ot 2;exact load_Pb rfl hv0 X0
  case s4=>refine ke fun _ ac Y h D=>?_;obtain⟨v0,hv0,X0⟩:=h.dp D 12;obtain⟨v1,hv1,X1⟩:=h.dp D 13;exact⟨_,_,run_enterV rfl (hv0.trans X0) hv1 (fun _ _=>rfl),cCorner (wb:=wb) (k:=j) (lv:=lv) X1 ⟨b5,rfl,(h.k.below.block _ (lt_blk p5)).trans p5⟩ (hB3.trans (h.k.below.mono hB3.size)) hS (by omega) (cv_get j (by omega))⟩
  case s7=>exact kr1 16 fun _ _ _ _ v0 hv0 X0=>⟨_,run_addi rfl (hv0.trans (show v0= .int .i64 ((j:Nat):Int)from X0)) rfl wO,congrArg (Value.int .i64) (by omega)⟩
  case s8=>refine ke fun _ ac Y h D=>?_;obtain⟨v0,hv0,X0⟩:=h.dp D 15;obtain⟨v1,hv1,X1⟩:=h.dp D 17;exact⟨_,_,run_enterV rfl (hv0.trans X0) hv1 (fun _ _=>rfl),cCorner (wb:=wb) (k:=j+1) (lv:=lv) X1 ⟨b5,rfl,(h.k.below.block _ (lt_blk p5)).trans p5⟩ (hB3.trans (h.k.below.mono hB3.size)) hS (by omega) (cv_get (j+1) (by omega))⟩
  case s9=>exact kr2 14 18 fun _ _ _ h _ hv0 X0 _ hv1 X1=>build_segment (A:=VAt wb (Vv N (cv vs j).1 (cv vs j).2)) (B:=VAt wb (Vv N (cv vs (j+1)).1 (cv vs (j+1)).2)) rfl hv0 hv1 (fun v _ h=>AggV_Vv _ _ _ v wb h) (fun v _ h=>AggV_Vv _ _ _ v wb h) X0 X1
  case tail=>
   intro listed ac Y h D;obtain⟨v0,hv0,X0⟩:=h.dp D 10;obtain⟨v1,hv1,X1⟩:=h.dp D 11;obtain⟨v2,hv2,X2⟩:=h.dp D 19;have hV0':v0= .func (.yield l) #[] #[]:=X0;have hV1':v1= .int .i64 ((j:Nat):Int):=X1;obtain⟨fn,tmps,assign,body,hy,hR⟩:=hY pre ⟨(j,v2),hlt,X2⟩ Y (hJ _ _ _ none hJ3 (grown_of h.k.below) (fun r e=>by cases e)) (by omega);have hBd:Below wb.heap.size wb Y:=hB3.trans (h.k.below.mono hB3.size);have q5:=(h.k.below.block _ (lt_blk p5)).trans p5;refine⟨fun _ _=>trivial,?_⟩;rw [Oper.semAt_eq _ _ _ (fun _ e=>by cases e),run_yieldV2 (x:= .tmp 10) (y:= .tmp 11) (z:= .tmp 19) (vb:= .int .i64 ((j:Nat):Int)) (vc:=v2) rfl (hv0.trans hV0') (hv1.trans hV1') hv2 hy];refine⟨(by intro e;cases e),hR.mono ?_⟩;have hsz:ac.tmps.size=23:=by rw [h.size,st3.size]
   have hdf:ac.defers= []:=by rw [h.defers,st3.defers]
   have o2:ac.tmps[2]? =a3.tmps[2]? :=h.oth 2 (by kernel_rfl);have o0:ac.tmps[0]? =a3.tmps[0]? :=h.oth 0 (by kernel_rfl);have o6:ac.tmps[6]? =a3.tmps[6]? :=h.oth 6 (by kernel_rfl);have o7:ac.tmps[7]? =a3.tmps[7]? :=h.oth 7 (by kernel_rfl);obtain⟨x0,x1,x2⟩:=st3.sl (0,VEq (.func (.yield l) #[] #[])) (lS_mem rfl);obtain⟨z0,z1,z2,z3,z4⟩:=st3.sl (2,VPb 97 (.func (.func 123) #[] #[.pointer (some ⟨b5,0,none⟩)])) (lS_mem rfl);obtain⟨y0,y1,y2⟩:=st3.sl (6,Vi (vs.length:Int)) (lS_mem rfl);obtain⟨u0,u1,u2⟩:=st3.sl (7,Vi j) (lS_mem rfl);have z5:=(h.k.below.block _ (lt_blk z4)).trans z4
   rintro e W2 (⟨rfl,hJ2,hK⟩|⟨rfl,hJ2⟩)
   ·refine⟨_,run_not (x:= .tmp 20) rfl (put_eval (by omega)),?_⟩;have q5':W2.heap[b5]? =some (.cells #[lv] 23 (0,0)):=(hK.2.row _ _ _ q5 hbt1).trans q5;have z6:=(hK.2.row _ _ _ z5 hbt2).trans z5;have st4:St W2.heap.size W2 23 [] [(0,VEq (.func (.yield l) #[] #[])),(2,VPb 97 (.func (.func 123) #[] #[.pointer (some ⟨b5,0,none⟩)])),(6,Vi (vs.length:Int)),(7,Vi j),(21,Vb false)] ((ac.put (some 20) (.bool true)).put (some 21) (.bool (!true))) W2:=⟨⟨Below.refl _ _,fun b hb=>absurd hb (by simp),fun b hb=>absurd hb (by simp),fun b hb=>absurd hb (by simp)⟩,Nat.le_refl _,by rw [put_size,put_size,hsz],by rw [put_defers',put_defers',hdf],Lq.2 ⟨⟨_,(put2_get (t:=0) (by decide) (by decide)).trans (o0.trans x1),x2⟩,Lq.2 ⟨⟨_,(put2_get (t:=2) (by decide) (by decide)).trans (o2.trans z1),z2,z3,z6⟩,Lq.2 ⟨⟨_,(put2_get (t:=6) (by decide) (by decide)).trans (o6.trans y1),y2⟩,Lq.2 ⟨⟨_,(put2_get (t:=7) (by decide) (by decide)).trans (o7.trans u1),u2⟩,Lq.2 ⟨⟨_,put_get_self (by rw [put_size,hsz];decide),rfl⟩,L0⟩⟩⟩⟩⟩⟩;generalize(ac.put (some 20) (.bool true)).put (some 21) (.bool (!true))=a4 at st4 ⊢;have hB2:=hK.1 hBd;refine Wm ?_
    refine cFI st4 ?_;refine Wm ?_
    refine rJ [] [Vi ((j+1:Nat):Int),Vi ((j+1:Nat):Int)] [] [(0,VEq (.func (.yield l) #[] #[])),(2,VPb 97 (.func (.func 123) #[] #[.pointer (some ⟨b5,0,none⟩)])),(6,Vi (vs.length:Int)),(7,Vi ((j+1:Nat):Int))] st4 ⟨?s0,ks,trivial⟩ ?_
    case s0=>
     refine k_run0 SbB.out (by kernel_rfl) fun listed ac Y h D hnl=>⟨trivial,?_⟩
     obtain⟨v0,hv0,X0⟩:=h.out0 hnl (7,Vi j) (lS_mem rfl) 1 (by kernel_rfl) (.inr (by kernel_rfl));exact⟨_,run_addi rfl (hv0.trans (show v0= .int .i64 j from X0)) rfl wO,congrArg (Value.int .i64) (by omega)⟩
    intro a5 w5 st5;exact⟨m - 1,by omega,j+1,pre++ [⟨(j,v2),hlt,X2⟩],by omega,map_snoc hpre rfl,hJ _ _ _ none hJ2 (grown_of st5.k.below) (fun r e=>by cases e),hB2.trans (st5.k.below.mono hB2.size),(st5.k.below.block _ (lt_blk q5')).trans q5',⟨⟨Below.refl _ _,fun b hb=>absurd hb (by simp),fun b hb=>absurd hb (by simp),fun b hb=>absurd hb (by simp)⟩,Nat.le_refl _,st5.size,st5.defers,st5.sl⟩⟩
   ·refine⟨_,run_not (x:= .tmp 20) rfl (put_eval (by omega)),?_⟩;refine Wm ?_
    refine wpIn_cond_true (put_eval (by rw [put_size];omega)) ?_;refine wpIn_ret ?_;simp only [Exit.inBlock,Exit.then];refine bodyPost_ret (results_none rfl _ _ _) (by rw [put_defers',put_defers',hdf]) ⟨⟨_,rfl⟩,.inr ⟨_,⟨?_,?_⟩,hJ2⟩⟩
    ·rw [List.length_append,List.length_singleton,hlen];exact map_snoc hpre rfl
    ·rw [List.length_append,List.length_singleton,hlen];omega
 ·refine Wm ?_
  have:Sb [] (VPb 97 (.func (.func 123) #[] #[.pointer (some ⟨b5,0,none⟩)])):=⟨Stab_VPb (by simp)⟩;refine rJ [] [Vb false] [] [(0,VEq (.func (.yield l) #[] #[])),(2,VPb 97 (.func (.func 123) #[] #[.pointer (some ⟨b5,0,none⟩)])),(6,Vi (vs.length:Int)),(7,Vi j),(8,Vb false)] st ⟨(by refine kr fun _ ac Y h D=>?_;obtain⟨v0,hv0,X0⟩:=h.ot 7;have hV0':v0= .int .i64 j:=X0;obtain⟨v1,hv1,X1⟩:=h.ot 6;have hV1':v1= .int .i64 (vs.length:Int):=X1;exact⟨_,run_lssi rfl (hv0.trans hV0') (hv1.trans hV1'),congrArg Value.bool (dF (by omega))⟩),trivial⟩ ?_;intro a2 w2 st2;refine Wm ?_
  obtain⟨vc,hc1,hc2⟩:=st2.slot (8,Vb false) (lS_mem rfl);refine wpIn_cond_false (hc1.trans hc2) (Ix ?_);simp only [Exit.inBlock,Exit.then,if_true];exact bodyPost_end (results_none rfl _ _ _) st2.defers ⟨⟨_,rfl⟩,.inl ⟨pre,by rw [hpre];congr 1;omega,hJ _ _ _ none hJ1 (grown_of st2.k.below) (fun r e=>by cases e)⟩⟩
def VKR (B:Nat)(BT:List (TypeId×Nat×Nat))(W:World):VP:=fun _ w=>(W.heap.size<=w.heap.size/\∀(k:Nat) (o:Obj),B<=k->W.heap[k]? =some o->NoCl o->w.heap[k]? =some o)/\RowK BT W w
theorem Stab_VKR {B:Nat}{BT BT2:List (TypeId×Nat×Nat)}{W:World}(h:∀e∈BT,e.1≠1000000)(h1:∀e∈BT,∃e'∈BT2,e'.1=e.1):Stab BT (VKR B BT2 W):=fun _ _ _ ⟨⟨q0,q1⟩,q2⟩ hr=>⟨⟨Nat.le_trans q0 hr.size,fun k o hB hk ho=>hr.oth h k o (q1 k o hB hk ho) ho⟩,q2.trans (hr.rowK h1)⟩
theorem VKR_refl {B:Nat}{BT:List (TypeId×Nat×Nat)}{W:World}(v:Value):VKR B BT W v W:=⟨⟨Nat.le_refl _,fun _ _ _ h _=>h⟩,RowK.refl _ W⟩
theorem VKR_below {B:Nat}{BT:List (TypeId×Nat×Nat)}{W W':World}(h:Below W.heap.size W W')(v:Value):VKR B BT W v W':=⟨⟨h.size,fun k o _ hk _=>(h.block k (lt_blk hk)).trans hk⟩,⟨h.size,fun k _ _ hk _=>h.block k (lt_blk hk)⟩⟩
section
variable {n0 N:Nat}{w0:World}{L:List Bd}{SL:List (Nat×VP)}{a a':Act}{w W:World}
def AllEq (SL:List (Nat×VP)):Prop:=∀p∈SL,∃u,p.2=VEq u
def Fixed (SL:List (Nat×VP))(L:List Bd):Prop:=∀b∈L,b.ia=none/\b.ik=none/\∃u,(b.t,VEq u)∈SL
theorem St.val (h:St n0 w0 N L SL a w){t:Nat}{u:Value}(ht:(t,VEq u)∈SL):a.tmps[t]? =some u:=by
 obtain⟨v,h1,h2⟩:=h.sl _ ht;obtain rfl:v=u:=h2;exact h1
theorem St.act {L0:List Bd}(h:St n0 w0 N L SL a' w)(h0:St n0 w0 N L0 SL a W)(hf:Fixed SL L)(he:AllEq SL):St n0 w0 N L SL a w:=by
 have e:∀b∈L,a.tmps[b.t]? =a'.tmps[b.t]? :=fun b hb=>by
  obtain⟨-,-,u,hu⟩:=hf b hb;rw [h.val hu,h0.val hu]
 refine⟨⟨h.k.below,fun b hb hon=>?_,fun b hb c hc hne h1 h2=>?_,h.k.fa⟩,h.n,h0.size,h0.defers,fun p hp=>?_⟩
 ·obtain⟨g,cs,e1,e2⟩:=h.k.ok b hb hon;exact⟨g,cs,by rw [e b hb];exact e1,e2⟩
 ·rw [e b hb,e c hc];exact h.k.ne b hb c hc hne h1 h2
 ·obtain⟨u,hu⟩:=he p hp;obtain⟨v,h1,h2⟩:=h0.sl p hp;rw [hu] at h2;obtain rfl:v=u:=h2;exact⟨v,h1,by rw [hu];rfl⟩
theorem St.joinB {b:Bd}{SL2:List (Nat×VP)}(h:St n0 w0 N L SL a w)(h2:St n0 w0 N [b] SL2 a w)(hia:b.ia=none)(hL:∀c∈L,c.ia=none/\c.ik=none)(hik:b.ik=none)(hne:∀c∈L,a.tmps[b.t]? ≠a.tmps[c.t]?):St n0 w0 N (L++ [b]) SL2 a w:=by
 refine⟨⟨h.k.below,fun c hc hon=>?_,fun c hc d D hn h3 h4=>?_,fun c hc hn hk=>?_⟩,h.n,h.size,h.defers,h2.sl⟩
 ·rcases List.mem_append.1 hc with hc|hc
  ·exact h.k.ok c hc hon
  ·exact h2.k.ok c hc hon
 ·rcases List.mem_append.1 hc with hc|hc<;>rcases List.mem_append.1 D with D|D
  ·exact h.k.ne c hc d D hn h3 h4
  ·rw [List.mem_singleton.1 D];exact(hne c hc).symm
  ·rw [List.mem_singleton.1 hc];exact hne d D
  ·rw [List.mem_singleton.1 hc,List.mem_singleton.1 D] at hn;exact absurd rfl hn
 ·rcases List.mem_append.1 hc with hc|hc
  ·exact absurd (hL c hc).2 hn
  ·rw [List.mem_singleton.1 hc] at hn;exact absurd hik hn
theorem St.addS (h:St n0 w0 N L SL a w){t:Nat}{V:VP}(ht:t<N)(hV:∀v,V v w):St n0 w0 N L ((t,V)::SL) a w:=
 ⟨h.k,h.n,h.size,h.defers,Lq.2 ⟨⟨a.tmps[t]'(by rw [h.size];exact ht),by simp,hV _⟩,h.sl⟩⟩
end
theorem St.over {n0 N:Nat}{w0:World}{L:List Bd}{SL SL2:List (Nat×VP)}{b:Bd}{a a':Act}{W W':World}(h:St n0 w0 N L SL a W)(h2:St W.heap.size W N [b] SL2 a' W')(hf:Fixed SL L)(hs:∀p∈SL,p∈SL2)[hL:SbB [] L](hia:b.ia=none)(hik:b.ik=none):St n0 w0 N (L++ [b]) SL2 a' W':=by
 have e:∀c∈L,a'.tmps[c.t]? =a.tmps[c.t]? :=fun c hc=>by
  obtain⟨-,-,u,hu⟩:=hf c hc;rw [h.val hu,h2.val (hs _ hu)]
 have hb:=h2.k.below
 have lo:∀c∈L,∃g,a'.tmps[c.t]? =some (.pointer (some ⟨g,0,none⟩))/\g<W.heap.size:=fun c hc=>by
  obtain⟨g,cs,e1,-,e3,-⟩:=h.k.ok c hc (by rw [(hf c hc).1];rfl);exact⟨g,by rw [e c hc];exact e1,lt_blk e3⟩
 obtain⟨gb,cb,b1,b2,b3⟩:=h2.k.ok b List.mem_cons_self (by rw [hia];rfl)
 have hne:∀c∈L,a'.tmps[b.t]? ≠a'.tmps[c.t]? :=fun c hc=>by
  obtain⟨g,h3,h4⟩:=lo c hc;rw [b1,h3];intro q;cases q;omega
 refine⟨⟨h.k.below.trans (hb.mono h.n),fun c hc hon=>?_,fun c hc d D hn h3 h4=>?_,fun c hc hn hk=>?_⟩,Nat.le_trans h.n hb.size,h2.size,h2.defers,h2.sl⟩
 ·rcases List.mem_append.1 hc with hc|hc
  ·obtain⟨g,cs,e1,e2,e3,e4,e5,e6,e7⟩:=h.k.ok c hc hon;exact⟨g,cs,by rw [e c hc];exact e1,e2,(hb.block _ (lt_blk e3)).trans e3,e4,e5,fun hk=>(hL.out c hc).1 _ _ _ (e6 hk) (RI.of_below hb),fun h0 hk=>(hL.out c hc).2 _ _ _ (e7 h0 hk) (RI.of_below hb)⟩
  ·rw [List.mem_singleton.1 hc];exact⟨gb,cb,b1,Nat.le_trans h.n b2,b3⟩
 ·rcases List.mem_append.1 hc with hc|hc<;>rcases List.mem_append.1 D with D|D
  ·rw [e c hc,e d D];exact h.k.ne c hc d D hn h3 h4
  ·rw [List.mem_singleton.1 D];exact(hne c hc).symm
  ·rw [List.mem_singleton.1 hc];exact hne d D
  ·rw [List.mem_singleton.1 hc,List.mem_singleton.1 D] at hn;exact absurd rfl hn
 ·rcases List.mem_append.1 hc with hc|hc
  ·exact absurd (hf c hc).2.1 hn
  ·rw [List.mem_singleton.1 hc] at hn;exact absurd hik hn
theorem zip2 (a:Act)(D:a.defers= [])(p q:Nat)(u v:Value):({tmps:=(#[p,q].zip #[u,v]).foldl (fun t (p,v)=>t.setIfInBounds p v) a.tmps,defers:=[]}:Act)=(a.put (some p) u).put (some q) v:=by
 cases a with
 |mk tm df=>
  simp only at D;subst D;simp [Act.put]
def ixs {N:Nat}{vs:List P2}{wb:World}(pre:List (SdE N vs wb)):List Nat:=pre.map (·.1.1)
def RdPost (n0:Nat)(wb:World)(Nf:Nat)(L Lx:List Nat->List Bd)(E Ex:List Nat->World->Prop)(SL:List (Nat×VP))(p:Nat)(V:VP)(ks:List Nat):Exit->Act->World->Prop
 | .normal,a,w=>St n0 wb Nf (L ks) ((p,V)::SL) a w/\E ks w
 | .ret,a,w=>St n0 wb Nf (Lx ks) ((p,V)::SL) a w/\Ex ks w
 |_,_,_=>False
theorem range_sides {n Nf tk p q t:Nat}{wb w:World}{N:Nat}{vs:List P2}{lv:Value}{a:Act}{assign body:Code}{Q:Exit->Act->World->Prop}{BT:List (TypeId×Nat×Nat)}
 (L Lx:List Nat->List Bd) (E Ex:List Nat->World->Prop) (SL:List (Nat×VP)) (st:St wb.heap.size wb Nf (L []) SL a w) (hE0:E [] w) (SA:Nat->List (Nat×VP)) (hE:∀ks,OwnFrom w.heap.size (fun (_:Unit) W=>E ks W)) (hEx:∀ks,OwnFrom w.heap.size (fun (_:Unit) W=>Ex ks W)) (hk:∃v,a.tmps[tk]? =some v/\VSd lv v w) (hS:VSv N vs lv wb)
 (hf:∀ks,Fixed SL (L ks)) (hfx:∀ks,Fixed SL (Lx ks)) (he:AllEq SL) (hp:p<Nf) (hq:q<Nf) (hpq:q≠p) (hp2:∀x∈SL,x.1≠p/\x.1≠q) (n1:1<=n)
 (hbt1:∀e∈BT,e.1≠23) (hbt2:∀e∈BT,e.1≠97)
 [hL0:∀ks,SbB [] (L ks)] [hMA:∀k,SbS MK (SA k)] [hM:∀ks,SbB MK (L ks)] [hMx:∀ks,SbB MK (Lx ks)] [hMS:SbS MK SL]
 (hassign:∀(l k:Nat) (a1:Act) (W:World) (K:Act->World->Prop),wb.heap.size<=W.heap.size->Below wb.heap.size wb W->St W.heap.size W Nf [] ((q,VAt wb (VSg N vs k))::(p,Vi (k:Int))::SL) a1 W->(∀a' W',St W.heap.size W Nf [⟨t,none,none,73,16,VAt wb (VSg N vs k),VT⟩] (SA k++SL) a' W'->K a' W')->assign.wpIn (fW (some l)) (n - 1 - 1) Tryz.prog (Exit.then K (fun _ _ _=>False)) a1 W)
 (hbody:∀(l k:Nat) (ks:List Nat) (a1:Act) (W:World),k<vs.length->ks.length<vs.length->St wb.heap.size wb Nf (L ks++ [⟨t,none,none,73,16,VAt wb (VSg N vs k),VT⟩]) ((p,VKR w.heap.size BT W)::(SA k++SL)) a1 W->E ks W->body.wpIn (fW (some l)) (n - 1 - 1) Tryz.prog (RdPost wb.heap.size wb Nf L Lx E Ex SL p (VKR w.heap.size BT W) (ks++ [k])) a1 W)
 (hLt:∀ks ks',∀c∈L ks',∃c',c'∈L ks/\c'.t=c.t) (htL:∀ks,∀b∈L ks,b.t≠t)
 (hdone:∀(D:Nat) (W:World),w.heap.size<=D->St wb.heap.size wb Nf (L (List.range vs.length)) SL a W->E (List.range vs.length) W->W.heap[D]? =some (.deferred (some []))->Q .normal {a with defers:=[{target:= .collected D,args:=#[]}]} W)
 (hstop:∀(D:Nat) (j:Nat) (W:World),w.heap.size<=D->j<=vs.length->St wb.heap.size wb Nf (Lx (List.range j)) SL a W->Ex (List.range j) W->W.heap[D]? =some (.deferred (some []))->Code.ret.wpIn (fW none) n Tryz.prog Q {a with defers:=[{target:= .collected D,args:=#[]}]} W):
 (Code.rangeFunc (.tmp tk) #[p,q] assign body).wpIn (fW none) n Tryz.prog Q a w:=by
 obtain⟨v,hv,b1,b3,c,rfl,p1,p3,hc⟩:=hk;have hn:wb.heap.size<=w.heap.size:=st.n;have keep:∀{W W':World} {v:Value},VKR w.heap.size BT W v W'->Below wb.heap.size wb W'->KeepsFrom w.heap.size W W'/\Kp wb BT W W':=fun h hb=>⟨⟨h.1.1,fun k o hB hk ho=>h.1.2 k o hB hk (noCl_of ho)⟩,fun _=>hb,h.2⟩
 have hApp:∀k,SbS MK (SA k++SL):=fun k=>⟨fun x hx=>(List.mem_append.1 hx).elim (fun h=>(hMA k).out x h) (fun h=>hMS.out x h)⟩
 have hBx:∀k,SbB MK [⟨t,none,none,73,16,VAt wb (VSg N vs k),VT⟩]:=fun k=>inferInstance
 refine wpIn_rangeFunc_ownH (F:=fW none) (α:=SdE N vs wb) rfl n1 (gf:=88) (lb:=#[.pointer (some ⟨b1,0,none⟩),.pointer (some ⟨b3,0,none⟩)]) (by simp [Act.eval,Array.getD_eq_getD_getElem?,hv]) trivial (fun _ _=>rfl)
  (sides_stops (N:=N) (vs:=vs) (lv:=lv) hbt1 hbt2 st.k.below hS p1 p3 hc) (fun h k=>Kp.trans h k) (fun W l o o' hl h h1 h2=>Kp.put hn W l o o' hl h h1 h2) (Below.refl _ _) (fun _=>rfl)
  (fun pre W=>St wb.heap.size wb Nf (L (ixs pre)) SL a W/\E (ixs pre) W) (fun c pre W=>c= .ret/\St wb.heap.size wb Nf (Lx (ixs pre)) SL a W/\Ex (ixs pre) W)
  (fun s A B row hs hg hr=>⟨hs.1.grown hg fun r e=>⟨Nat.le_trans hn (hr r e).1,(hr r e).2⟩,hE _ () _ _ _ hs.2 hg hr⟩) (fun c s A B row hs hg hr=>⟨hs.1,hs.2.1.grown hg fun r e=>⟨Nat.le_trans hn (hr r e).1,(hr r e).2⟩,hEx _ () _ _ _ hs.2.2 hg hr⟩) ⟨st,hE0⟩
  (fun x a' W=>St wb.heap.size wb Nf [⟨t,none,none,73,16,VAt wb (VSg N vs x.1.1),VT⟩] (SA x.1.1++SL) a' W/\∀ks,∀c∈L ks,a'.tmps[t]? ≠a'.tmps[c.t]?)
  (fun x a' s A B row hs hg hr=>⟨(have:=hApp x.1.1;hs.1.grown hg fun r e=>⟨Nat.le_trans hn (hr r e).1,(hr r e).2⟩),hs.2⟩) ?assign ?body ?done ?stop
 case assign=>
  intro l pre x W K ⟨hI,hEi⟩ hK
  have hLp:∀r,r=p∨r=q->(L (ixs pre)).all (fun b=>b.t !=r)=true:=fun r hr=>by
   rw [List.all_eq_true];intro b hb;obtain⟨-,-,u,hu⟩:=hf _ b hb;have h1:b.t≠p/\b.t≠q:=hp2 _ hu;rcases hr with rfl|rfl<;>simp [h1.1,h1.2]
  have hSp:∀r,r=p∨r=q->SL.all (fun x=>x.1 !=r)=true:=fun r hr=>by
   rw [List.all_eq_true];intro b hb;have h1:=hp2 _ hb;rcases hr with rfl|rfl<;>simp [h1.1,h1.2]
  have hW:St W.heap.size W Nf [] SL a W:=⟨⟨Below.refl _ _,fun b hb=>absurd hb (by simp),fun b hb=>absurd hb (by simp),fun b hb=>absurd hb (by simp)⟩,Nat.le_refl _,hI.size,hI.defers,hI.sl⟩
  have h2:=(hW.put1 p (.int .i64 (x.1.1:Int)) (Vi (x.1.1:Int)) rfl hp rfl (hSp p (.inl rfl))).put1 q x.1.2 (VAt wb (VSg N vs x.1.1)) x.2.2 hq rfl (by
   rw [List.all_cons,hSp q (.inr rfl)]
   simp [hpq.symm])
  unfold encS;rw [zip2 a st.defers];refine hassign l x.1.1 _ W K hI.n hI.k.below h2 fun a' W' st'=>?_
  have hbl:=st'.k.below;have sI:=hI.over st' (hf _) (fun b hb=>List.mem_append_right _ hb) rfl rfl;have k:=keep (v:=undef) (VKR_below (B:=w.heap.size) (BT:=BT) hbl undef) sI.k.below;have sJ:=sI.sub (L':=L (ixs pre)) (SL':=SL) (fun b hb=>List.mem_append_left _ hb) (fun b hb=>List.mem_append_right _ hb);refine hK a' W' k.1 k.2 ⟨sJ.act st (hf _) he,hE _ () _ _ none hEi (grown_of hbl) (fun r e=>by cases e)⟩ ⟨sI.sub (fun b hb=>List.mem_append_right _ hb) (fun b hb=>hb),fun ks c hc=>?_⟩;obtain⟨c',h3,h4⟩:=hLt (ixs pre) ks c hc;have:=sI.k.ne ⟨t,none,none,73,16,VAt wb (VSg N vs x.1.1),VT⟩ (List.mem_append_right _ List.mem_cons_self) c' (List.mem_append_left _ h3) (fun e=>htL _ c' h3 e.symm) rfl (by rw [(hf _ c' h3).1];rfl);rw [<-h4];exact this
 case body=>
  rintro l pre x a' W hl hrec ⟨hI,hEi⟩ ⟨hA,hne⟩ hlen
  have hA0:=hA.sub (L':=[]) (SL':=SL) (fun b hb=>absurd hb (by simp)) (fun b hb=>List.mem_append_right _ hb);have st2:=((hI.act hA0 (hf _) he).joinB hA rfl (fun c hc=>⟨(hf _ c hc).1,(hf _ c hc).2.1⟩) rfl (hne _)).addS (t:=p) (V:=VKR w.heap.size BT W) hp fun v=>VKR_refl v
  have hix:ixs (pre++ [x])=ixs pre++ [x.1.1]:=by simp [ixs]
  refine wpIn_mono (hbody l x.1.1 (ixs pre) a' W x.2.1 (by simpa [ixs] using hlen) st2 hEi) ?_;intro e a2 W2 hpost;cases e with
  |normal=>
   obtain⟨hpost,hEp⟩:St wb.heap.size wb Nf (L (ixs pre++ [x.1.1])) ((p,VKR w.heap.size BT W)::SL) a2 W2/\E (ixs pre++ [x.1.1]) W2:=hpost;obtain⟨u,-,hu⟩:=hpost.sl (p,VKR w.heap.size BT W) List.mem_cons_self;have k:=keep (v:=u) hu hpost.k.below;refine⟨k.1,k.2,?_⟩;show St wb.heap.size wb Nf (L (ixs (pre++ [x]))) SL a W2/\E (ixs (pre++ [x])) W2;rw [hix];exact⟨(hpost.sub (fun b hb=>hb) (fun b hb=>List.mem_cons_of_mem _ hb)).act st (hf _) he,hEp⟩
  |ret=>
   obtain⟨hpost,hEp⟩:St wb.heap.size wb Nf (Lx (ixs pre++ [x.1.1])) ((p,VKR w.heap.size BT W)::SL) a2 W2/\Ex (ixs pre++ [x.1.1]) W2:=hpost;obtain⟨u,-,hu⟩:=hpost.sl (p,VKR w.heap.size BT W) List.mem_cons_self;have k:=keep (v:=u) hu hpost.k.below;refine⟨k.1,rfl,?_⟩;show St wb.heap.size wb Nf (Lx (ixs (pre++ [x]))) SL a W2/\Ex (ixs (pre++ [x])) W2;rw [hix];exact⟨(hpost.sub (fun b hb=>hb) (fun b hb=>List.mem_cons_of_mem _ hb)).act st (hfx _) he,hEp⟩
  |exit _=>exact hpost.elim
  |goto _=>exact hpost.elim
  |panic _=>exact hpost.elim
  |outgrown=>exact hpost.elim
 case done=>
  intro D xs W hD hxs hI hK;have hI:St wb.heap.size wb Nf (L (ixs xs)) SL a W/\E (ixs xs) W:=hI;rw [show ixs xs=List.range vs.length from hxs] at hI;have:=hdone D W hD hI.1 hI.2 hK;rw [st.defers];exact this
 case stop=>
  rintro D c pre W hD ⟨h1,h2⟩ ⟨rfl,h3⟩ hK
  rw [show ixs pre=List.range pre.length from h1] at h3;have:=hstop D pre.length W hD h2 h3.1 h3.2 hK;rw [st.defers];exact this
section
variable {md:Region.Mode}{ops:Array Oper}{n0 N:Nat}{w0:World}{B L:List Bd}{SL:List (Nat×VP)}{listed:Array Bool}{a a' a0 a0':Act}{w:World}{V:Nat->VP}
theorem KS.congr (h:KS n0 w0 B listed a w)(e:a'.tmps=a.tmps):KS n0 w0 B listed a' w:=⟨h.below,fun b hb hon=>by
 rw [e];exact h.ok b hb hon,fun b hb c hc=>by rw [e];exact h.ne b hb c hc,h.fa⟩
theorem KI.congr (h:KI md ops a0 V n0 w0 B SL listed a w)(e0:a0'.tmps=a0.tmps)(e:a'.tmps=a.tmps)(D:a'.defers=a0'.defers):KI md ops a0' V n0 w0 B SL listed a' w:=
 ⟨h.k.congr e,h.n,h.len,D,by rw [e,e0];exact h.size,fun t ht=>by rw [e,e0];exact h.same t ht,fun i o d h1 h2 h3=>by rw [e];exact h.own i o d h1 h2 h3,fun p hp=>by rw [e0];exact h.sl p hp,h.closed⟩
theorem St.undef (h:St n0 w0 N L SL a w):St n0 w0 N L SL ⟨a.tmps,[]⟩ w:=⟨h.k.congr rfl,h.n,h.size,rfl,h.sl⟩
end
section
variable {ro:Option Nat}{n:Nat}{Q:Exit->Act->World->Prop}{Vl:List VP}{n0:Nat}{w0:World}{B:List Bd}{SL:List (Nat×VP)}{BT:List (TypeId×Nat×Nat)}
theorem rgD {id N:Nat}{l:List Oper}{ord:Bool}{L:List Bd}{SL':List (Nat×VP)}{a:Act}{w:World}{ds:List Deferred}(hds:a.defers=ds)(st:St n0 w0 N L SL ⟨a.tmps,[]⟩ w)(hstep:AllK BT Tryz.prog .any l.toArray Q a (GV Vl) n0 w0 B SL 0 l)(hdone:∀a' w',a'.defers=ds->St n0 w0 N (B.map Bd.fin) SL' ⟨a'.tmps,[]⟩ w'->Q .normal a' w')[hB:SbB BT B][hS:SbS BT SL][hL:SbL BT Vl]
 (hst:StartsF L B:=by repeat (first|exact trivial|refine⟨.inl ⟨_,rfl⟩,?_⟩|refine⟨.inr ⟨_,rfl,rfl,rfl,rfl,rfl,rfl,.inr ⟨rfl,rfl,rfl⟩⟩,?_⟩|refine⟨.inr ⟨_,rfl,rfl,rfl,rfl,rfl,rfl,.inl ⟨_,rfl,rfl,rfl⟩⟩,?_⟩))
 (hg:GetsF l.toArray (GV Vl) SL SL':=by repeat (first|exact trivial|refine⟨.inl ⟨rfl,rfl⟩,?_⟩|refine⟨.inr ⟨rfl,by kernel_rfl⟩,?_⟩))
 (hm:Tryz.prog.follows .mixedOrders=true:=by kernel_rfl) (hfore:kFore .any l.toArray=true:=by kernel_rfl) (hown:flowOwn l.toArray=true:=by kernel_rfl) (hin:l.all (fun o=>match o.dst with|some d=>decide (d<N)|none=>true)=true:=by kernel_rfl)
 (hlt:B.all (fun b=>(match b.ia with|some i=>decide (i<l.toArray.size)|none=>true) && (match b.ik with|some i=>decide (i<l.toArray.size)|none=>true))=true:=by kernel_rfl) (hnd:noDefer l=true:=by kernel_rfl):(Code.region id l.toArray ord).wpIn (fW ro) n Tryz.prog Q a w:=
 region_kI hm hfore hown (by rw [show a.tmps.size=N from st.size];exact hin) hB.out hS.out (stab_of hL.out) ((st.start hst.to _).congr rfl) st.n st.sl (hstep.toI l 0 hnd) fun listed a' w' hall kd=>hdone a' w' (kd.defers.trans hds) ((kd.congr (a0':=⟨a.tmps,[]⟩) (a':=⟨a'.tmps,[]⟩) rfl rfl rfl).st hall st.size rfl hlt SL' hg.to)
end
def VOb (D:Nat):VP:=fun _ w=>w.heap[D]? =some (.deferred (some []))
theorem Stab_VOb {BT:List (TypeId×Nat×Nat)}{D:Nat}(h:∀e∈BT,e.1≠1000000):Stab BT (VOb D):=fun _ _ _ h1 hr=>hr.oth h D _ h1 (fun _ _ _ e=>by cases e)
theorem ret_mark {n:Nat}{P:Program}{fn:Func}{R:Ending->World->Prop}{a:Act}{w:World}{D:Nat}{v:Value}(hd:a.defers= [{target:= .collected D,args:=#[]}])(hK:w.heap[D]? =some (.deferred (some [])))(hr:(results fn a.tmps).run P (w.putObj D (.deferred none))= .ok v (w.putObj D (.deferred none)))(hR:R (.returned v) (w.putObj D (.deferred none))):bodyPostM (fW none) n P fn R .ret a w:=by
 show LeavesInM (fW none) n P fn a.tmps R a.defers .returning w;rw [hd];exact⟨by simp,.inl ⟨_,_,rfl,run_takeDeferred hK,v,hr,hR⟩⟩
theorem calls_of_marks {P:Program}{f:FuncId}{fn:Func}{c:Code}{args:Array Value}{w:World}{R:Ending->World->Prop}(hf:P.funcs[f]? =some fn)(hb:fn.body=some c)
 (h:c.wpIn (fW none) 5 P (bodyPostM (fW none) 5 P fn R) {tmps:=args++Array.replicate (fn.ntmps - args.size) undef,defers:=[]} w):Calls P f args w R:=
 (callsIn_wide (n:=5)).1 (callsIn_of_wp_marks (F:=fW none) (n:=5) hf hb trivial h rfl)
instance (N:Nat)(vs:List P2)(k:Nat):Ag (VSg N vs k) 16:=⟨AggV_Vp _ _ _ _ _⟩
theorem VSg_now {N:Nat}{vs:List P2}{k:Nat}{v:Value}{wb W W':World}(h:VAt wb (VSg N vs k) v W)(hb:Below wb.heap.size wb W'):VSg N vs k v W':=Stab_Vp (BT:=[]) _ _ _ _ _ _ _ _ (show VSg N vs k v wb from h) (RI.of_below hb)
def VF:VP:=fun _ _=>False
instance {BT:List (TypeId×Nat×Nat)}:Sb BT VF:=⟨fun _ _ _ h _=>h⟩
def sumQ (f:Nat->Rat)(ks:List Nat):Rat:=ks.foldl (fun s k=>s+f k) 0
theorem sumQ_snoc (f:Nat->Rat)(ks:List Nat)(k:Nat):sumQ f (ks++ [k])=sumQ f ks+f k:=by simp [sumQ,List.foldl_append]
def crK (vs:List P2)(k:Nat):Rat:=crs (cv vs k) (cv vs (k+1))
def twQ (vs:List P2):Rat:=sumQ (crK vs) (List.range vs.length)
theorem cTwice {w:World}{N:Nat}{vs:List P2}{lv:Value}(hS:VSv N vs lv w)(hN1:1<=N:=by omega)(hbd:1+vs.length*(4*N+2)<=900:=by omega):Calls Tryz.prog 58 #[lv] w (RV (Vq (1+vs.length*(4*N+2)) (twQ vs)) w):=by
 have hmax:=VSv_max hS;obtain⟨p,c,hlv⟩:=VSv_slice hS;subst hlv;refine calls_of_marks Tryz.func58 rfl ?_;simp only [Tryz.ntmps58,List.size_toArray,List.length_cons,List.length_nil,Nat.reduceAdd,Nat.reduceSub,Array.replicate_succ,Array.replicate_zero,List.push_toArray,List.append_toArray,List.nil_append,List.cons_append];generalize hA:(⟨_,_⟩:Act)=a0;have st0:St w.heap.size w 16 [] [(0,VEq (.slice p vs.length c))] a0 w:=by subst hA;exact St.begin rfl rfl (Lq.2 ⟨⟨_,rfl,rfl⟩,L0⟩)
 clear hA;refine Wm ?_
 refine rJ [(30,4,0),(73,16,0)] [VT] [⟨2,some 0,none,30,4,VT,VT⟩] [(0,VEq (.slice p vs.length c))] st0 ⟨ks,trivial⟩ fun a1 w1 st1=>Wm ?_
 refine rJ [(30,4,0),(73,16,0)] [Vq 1 0,VT,VT] [.k 2 30 4 VT,⟨3,some 1,some 2,30,4,Vq 1 0,VT⟩] [(0,VEq (.slice p vs.length c))] st1 ⟨(kr fun _ A Y h hd=>build_Rat0 rfl),ks,ks,trivial⟩ fun a2 w2 st2=>Wm ?_
 have:Sb [(30,4,0),(73,16,0)] (VSd (.slice p vs.length c)):=⟨(Stab_VSd (by simp) (by simp))⟩;refine rJ [(30,4,0),(73,16,0)] [VEq (.slice p vs.length c),VSd (.slice p vs.length c)] [.k 2 30 4 VT,.k 3 30 4 (Vq 1 0)] [(0,VEq (.slice p vs.length c)),(8,VSd (.slice p vs.length c))] st2 ⟨ks,(by exact kd1 fun _ _ _ _ v0 X0=>(by obtain rfl:v0=_:=X0;exact cSides)),trivial⟩ ?_;intro a3 w3 st3;replace st3:St w.heap.size w 16 [.k 2 30 4 VT,.k 3 30 4 (Vq 1 0)] [(0,VEq (.slice p vs.length c)),(8,VSd (.slice p vs.length c))] a3 w3:=st3;have hsd:=st3.sl (8,VSd (.slice p vs.length c)) (lS_mem rfl);obtain⟨g2,hg2,st3⟩:=st3.ptrB 2 rfl rfl rfl;obtain⟨g3,hg3,st3⟩:=st3.ptrB 3 rfl rfl rfl;replace st3:St w.heap.size w 16 [.k 2 30 4 VT,.k 3 30 4 (Vq 1 0)] [(0,VEq (.slice p vs.length c)),(2,VEq (.pointer (some ⟨g2,0,none⟩))),(3,VEq (.pointer (some ⟨g3,0,none⟩)))] a3 w3:=st3.cut;refine Wm ?_
 have hn0:=st3.n;refine range_sides (n:=5) (Nf:=16) (t:=5) (N:=N) (vs:=vs) (lv:= .slice p vs.length c) (BT:=[(30,4,0),(73,16,0)]) (fun xs=>[.k 2 30 4 VT,.k 3 30 4 (Vq (1+xs.length*(4*N+2)) (sumQ (crK vs) xs))]) (fun _=>[.k 0 30 4 VF]) (fun _ _=>True) (fun _ _=>True) [(0,VEq (.slice p vs.length c)),(2,VEq (.pointer (some ⟨g2,0,none⟩))),(3,VEq (.pointer (some ⟨g3,0,none⟩)))] (by show St _ _ _ [_,⟨3,none,none,_,4,Vq (1+0*(4*N+2)) (0:Rat),VT⟩] _ _ _;rw [show 1+0*(4*N+2)=1 by omega];exact st3) trivial (fun _=>[]) (fun _=>ownFrom_pure _ _) (fun _=>ownFrom_pure _ _) hsd hS (fun xs=>(Lq.2 ⟨⟨rfl,rfl,_,(.tail _ (.head _))⟩,(Lq.2 ⟨⟨rfl,rfl,_,(.tail _ (.tail _ (.head _)))⟩,L0⟩)⟩)) (fun _=>(Lq.2 ⟨⟨rfl,rfl,_,(.head _)⟩,L0⟩)) (Lq.2 ⟨⟨_,rfl⟩,(Lq.2 ⟨⟨_,rfl⟩,(Lq.2 ⟨⟨_,rfl⟩,L0⟩)⟩)⟩) (by decide) (by decide) (by decide) (Lq.2 ⟨⟨by simp,by simp⟩,(Lq.2 ⟨⟨by simp,by simp⟩,(Lq.2 ⟨⟨by simp,by simp⟩,L0⟩)⟩)⟩) (by decide) (by simp) (by simp) ?assign ?body (fun _ _=>(Lq.2 ⟨⟨_,(.head _),rfl⟩,(Lq.2 ⟨⟨_,(.tail _ (.head _)),rfl⟩,L0⟩)⟩)) (fun _=>(Lq.2 ⟨(by simp),(Lq.2 ⟨(by simp),L0⟩)⟩)) ?done ?stop
 case assign=>
  intro l k a1 W K hnW hbW st1 hK;refine Wm ?_
  refine rJ [(30,4,0),(73,16,0)] [VT,VT] [⟨5,some 0,some 1,73,16,VAt w (VSg N vs k),VT⟩] [(10,VAt w (VSg N vs k)),(9,Vi (k:Int)),(0,VEq (.slice p vs.length c)),(2,VEq (.pointer (some ⟨g2,0,none⟩))),(3,VEq (.pointer (some ⟨g3,0,none⟩)))] st1 ⟨ks,ks,trivial⟩ ?_;intro a2 w2 st2;exact hK _ _ st2.cut
 case body=>
  intro l k xs a1 W hk hlen st1 hEw;replace st1:St w.heap.size w 16 [.k 2 30 4 VT,.k 3 30 4 (Vq (1+xs.length*(4*N+2)) (sumQ (crK vs) xs)),.k 5 73 16 (VAt w (VSg N vs k))] [(9,VKR w3.heap.size [(30,4,0),(73,16,0)] W),(0,VEq (.slice p vs.length c)),(2,VEq (.pointer (some ⟨g2,0,none⟩))),(3,VEq (.pointer (some ⟨g3,0,none⟩)))] a1 W:=st1;have hmul:=Nat.mul_le_mul_right (4*N+2) (Nat.le_of_lt hlen);have hN9:N<=500:=by rcases Nat.eq_zero_or_pos vs.length with h0|h0;(omega);(have:=Nat.le_mul_of_pos_left (4*N+2) h0;omega)
  refine Wm ?_
  have:Sb [(30,4,0)] (VKR w3.heap.size [(30,4,0),(73,16,0)] W):=⟨(Stab_VKR (by simp) (by simp))⟩;refine rJ [(30,4,0)] [Vq (1+xs.length*(4*N+2)) (sumQ (crK vs) xs),VAt w (VSg N vs k),Vq (4*N+1) (crK vs k),Vq ((1+xs.length*(4*N+2))+(4*N+1)+1) ((sumQ (crK vs) xs)+(crK vs k)),VT] [.k 2 30 4 VT,⟨3,none,some 4,30,4,Vq ((1+xs.length*(4*N+2))+(4*N+1)+1) ((sumQ (crK vs) xs)+(crK vs k)),Vq (1+xs.length*(4*N+2)) (sumQ (crK vs) xs)⟩,.k 5 73 16 (VAt w (VSg N vs k))] [(9,VKR w3.heap.size [(30,4,0),(73,16,0)] W),(0,VEq (.slice p vs.length c)),(2,VEq (.pointer (some ⟨g2,0,none⟩))),(3,VEq (.pointer (some ⟨g3,0,none⟩)))] st1 ⟨ks,ks,(kd1 fun _ _ Y h v0 X0=>(cSgCross (VSg_now (show VAt w (VSg N vs k) v0 Y from X0) h.k.below))),(kd2 fun _ _ _ _ _ X0 _ X1=>cQAdd X0 X1),ks,trivial⟩ ?_;intro a2 w2 st2;have eM:1+(xs++ [k]).length*(4*N+2)=(1+xs.length*(4*N+2))+(4*N+1)+1:=by rw [List.length_append,List.length_singleton,Nat.succ_mul];omega
  have eS:=sumQ_snoc (crK vs) xs k;have fin:St w.heap.size w 16 [.k 2 30 4 VT,.k 3 30 4 (Vq (1+(xs++ [k]).length*(4*N+2)) (sumQ (crK vs) (xs++ [k])))] [(9,VKR w3.heap.size [(30,4,0),(73,16,0)] W),(0,VEq (.slice p vs.length c)),(2,VEq (.pointer (some ⟨g2,0,none⟩))),(3,VEq (.pointer (some ⟨g3,0,none⟩)))] a2 w2:=by rw [eM,eS];exact st2.cut
  exact⟨fin.cut,trivial⟩
 case stop=>
  intro D j W hD hj st1 hEw hK;obtain⟨_,_,_,_,_,_,_,_,hF⟩:=st1.boxAt (b:=⟨0,none,none,30,4,VF,VT⟩) (.head _) rfl rfl;exact hF.elim
 case done=>
  intro D W hD st1 hEw hK;have hds:({a3 with defers:=[{target:= .collected D,args:=#[]}]}:Act).defers= [{target:= .collected D,args:=#[]}]:=rfl;replace st1:=(st1.addS (t:=8) (V:=VOb D) (by decide) (fun _=>hK)).undef;generalize hDa:({a3 with defers:=[{target:= .collected D,args:=#[]}]}:Act)=aD at hds ⊢;replace st1:St w.heap.size w 16 [.k 2 30 4 VT,.k 3 30 4 (Vq (1+(List.range vs.length).length*(4*N+2)) (sumQ (crK vs) (List.range vs.length)))] [(8,VOb D),(0,VEq (.slice p vs.length c)),(2,VEq (.pointer (some ⟨g2,0,none⟩))),(3,VEq (.pointer (some ⟨g3,0,none⟩)))] ⟨aD.tmps,[]⟩ W:=by rw [<-hDa];exact st1
  clear hDa;refine Wm ?_
  have:Sb [(30,4,0)] (VOb D):=⟨(Stab_VOb (by simp))⟩;refine rgD (BT:=[(30,4,0)]) (Vl:=[Vq (1+(List.range vs.length).length*(4*N+2)) (sumQ (crK vs) (List.range vs.length)),VT]) (B:=[⟨2,none,some 1,30,4,Vq (1+(List.range vs.length).length*(4*N+2)) (sumQ (crK vs) (List.range vs.length)),VT⟩,.k 3 30 4 (Vq (1+(List.range vs.length).length*(4*N+2)) (sumQ (crK vs) (List.range vs.length)))]) (SL':=[(8,VOb D),(0,VEq (.slice p vs.length c)),(2,VEq (.pointer (some ⟨g2,0,none⟩))),(3,VEq (.pointer (some ⟨g3,0,none⟩)))]) hds st1 ⟨ks,ks,trivial⟩ ?_;intro a2 w2 hds st2;refine Wm ?_
  obtain⟨vo,ho1,ho2⟩:=st2.sl (8,VOb D) (lS_mem rfl);have stX:=St.grown (st2.cut (L':=[.k 2 30 4 (Vq (1+(List.range vs.length).length*(4*N+2)) (sumQ (crK vs) (List.range vs.length))),.k 3 30 4 (Vq (1+(List.range vs.length).length*(4*N+2)) (sumQ (crK vs) (List.range vs.length)))]) (SL':=[])) (grownBy_putObj' w2 D (.deferred none)) (fun r e=>by cases e;exact⟨Nat.le_trans hn0 hD,_,ho2,rfl⟩);obtain⟨g,cs,r1,r2,r3,r4,r5⟩:=stX.res (.k 2 30 4 (Vq (1+(List.range vs.length).length*(4*N+2)) (sumQ (crK vs) (List.range vs.length)))) (.head _) rfl rfl;exact wpIn_ret (ret_mark hds ho2 (results_cell_row rfl _ _ g 30 cs (0,0) _ r1 r2 Tryz.underlying30 rfl (by rw [r3];exact size_Rat)) ⟨_,rfl,(by rw [List.length_range] at r4;exact r4),r5⟩)
def areaQ (vs:List P2):Rat:=twQ vs / Rat.divInt 2 1
theorem cArea {w:World}{N:Nat}{vs:List P2}{lv:Value}{v0:Value}(h0:VEq lv v0 w)(hS:VSv N vs lv w)(hN1:1<=N:=by omega)(hbd:1+vs.length*(4*N+2)<=900:=by omega):Calls Tryz.prog 20 #[v0] w (RV (Vq (1+vs.length*(4*N+2)+3) (areaQ vs)) w):=by
 go_enter Tryz.func20,Tryz.ntmps20
 refine Sg 7 [(0,VEq lv)] (Lq.2 ⟨⟨_,rfl,h0⟩,L0⟩) fun a0 st0=>Wn ?_
 refine rH [(30,4,0)] [VT] [⟨2,some 0,none,30,4,VT,VT⟩] [(0,VEq lv)] st0 ⟨ks,trivial⟩ fun a1 w1 st1=>Wn ?_
 refine rH [(30,4,0)] [VEq lv,Vq (1+vs.length*(4*N+2)) (twQ vs),Vq 3 (Rat.divInt 2 1),Vq ((1+vs.length*(4*N+2))+3) ((twQ vs) / (Rat.divInt 2 1)),VT] [⟨2,none,some 4,30,4,Vq ((1+vs.length*(4*N+2))+3) ((twQ vs) / (Rat.divInt 2 1)),VT⟩] [] st1 ⟨ks,(by exact kd1 fun _ _ _ h v0 X0=>(by obtain rfl:v0=_:=X0;exact cTwice (VSv_later hS h.k.below) hN1 hbd)),(by refine kc fun _ A Y h D=>?_;exact⟨#[.int .i64 2,.int .i64 1],by simp [eval_const],cQOf (show Vi 2 (.int .i64 2) Y from rfl) (show Vi 1 (.int .i64 1) Y from rfl)⟩),(kd2 fun _ _ _ _ _ X0 _ X1=>cQDiv X0 X1),ks,trivial⟩ ?_;intro a2 w2 st2;refine Wn ?_
 exact wp_ret (rC 2 30 (Vq ((1+vs.length*(4*N+2))+3) ((twQ vs) / (Rat.divInt 2 1))) st2 fun cs r4=>r4)
end Go.Proofs.YteacdbgalloaiaaGreat
