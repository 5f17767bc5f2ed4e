/- Contracts of the packages integer, rat, plane, polygon and their references. -/
import Derived.Test.YtjdkdjobaabdiaaGreatM16
import Derived.Test.YtjdkdjobaabdiaaGreatM22
import Derived.Test.YtjdkdjobaabdiaaGreatM15
set_option linter.unusedVariables false
set_option maxRecDepth 100000
set_option maxHeartbeats 6400000
namespace Go.Proofs.YtjdkdjobaabdiaaGreat
open Go.RowKit
section
variable {BT:List (TypeId×Nat×Nat)}
section
variable {P:Program}{md:Region.Mode}{ops:Array Oper}{Q:Exit→Act→World→Prop}{a0:Act}{V:Nat→VP}{n0:Nat}{w0:World}{B:List Bd}{SL:List (Nat×VP)}
theorem k_part0 {i:Nat}{o:Oper}{b:Bd}{d:TypeDesc}{T:TypeId}{s j off k kk:Nat}(hBP:∀b∈B,b.stab BT)(hq:quietB B i o.dst=true)(hb:b∈B)(ho:o.op= .load T (.tmp s))(hon:b.ia=none)(hok:b.ik=some kk)(hkk:(match ops[kk]? with|some o=>o.after.any (fun e=>e.on==i && Region.binds md e)|none=>false)=true)(hj:o.after.any (fun e=>e.on==j && Region.binds md e)=true)(hdst:(ops[j]?).bind (·.dst)=some s)(hVj:V j=Vpt a0 b.t off)
 (hbt:ops.all (fun o=>o.dst !=some b.t)=true) (hk:off+k≤b.m) (hV:∀cs w,b.P0 (.agg cs) w→V i (.agg (cs.extract off (off+k))) w)
 (hu:P.underlying T=some d) (hdd:aggT d=true) (hi:(P.info? T).map (·.size)=some k) (H:Ask md ops a0 V n0 w0 B SL o fun _ _ _=>True):KStep BT P md ops Q a0 V n0 w0 B SL i o:=by
 intro listed a w h D _ _ hnl K hK
 obtain⟨hg,-⟩:=H listed a w h D
 rw [if_pos (wanted_of hg)]
 obtain⟨g,cs,e1,e2,e3,e4,e5,-,e7⟩:=h.k.ok b hb (by rw [hon];rfl)
 have hP:=e7 hon (by rw [hok];exact h.not_yet hnl hkk)
 obtain⟨v,hv,-,hVv⟩:=h.dep D j s hj hdst
 rw [hVj] at hVv
 obtain⟨g',f1,rfl⟩:=hVv
 have ho1:=h.other b.t fun i o ho=>by
  rw [Array.all_eq_true'] at hbt
  have:=hbt o (Array.mem_of_getElem? ho)
  simpa using this
 rw [e1,f1] at ho1
 simp at ho1
 subst ho1
 unfold Oper.wp execOp
 simp only [ho,hv,Instr.loadAt,Instr.sureAddr,Sem.run_bind,Sem.run_pure,Result.andThen_ok,run_loadVar_part w g off k b.T T cs (0,0) d e3 (by omega) hu hdd hi]
 exact hK _ w (h.k.quiet hq hBP h.n (Below.refl _ _)) (RI.refl w) (hV _ _ hP)
end
section
variable {ρ:Operand→Value}{o:Oper}{W:World}{x y:Operand}{va vb:Value}{A B:VP}{a b:Int}
theorem run_eqb {c d:Bool}(ho:o.op= .binOp .eql 4 x y 4)(hx:ρ x= .bool c)(hy:ρ y= .bool d):(execOp ρ o).run Tryz.prog W= .ok (.value (.bool (c==d))) W:=by
 obtain⟨dd,op,ty,ps,af,gd⟩:=o
 subst ho
 cases c<;>cases d<;>go_simp
theorem build_Vec0 (ho:o.op= .build 35 #[]):∃v,(execOp ρ o).run Tryz.prog W= .ok (.value v) W∧Vv 1 0 0 v W:=by
 have hz:Vq 1 0 (.agg (#[.bool false,.slice none 0 0]++ #[.bool false,.slice none 0 0])) W:=⟨_,_,rfl,rfl,rfl,⟨_,_,_,_,rfl,IntAt_zero _ _ _ (by omega),by omega⟩,⟨_,_,_,_,rfl,IntAt_zero _ _ _ (by omega),by omega⟩⟩
 refine⟨.agg ((#[.bool false,.slice none 0 0]++ #[.bool false,.slice none 0 0])++(#[.bool false,.slice none 0 0]++ #[.bool false,.slice none 0 0])),?_,⟨_,_,rfl,rfl,rfl,hz,hz⟩⟩
 obtain⟨dd,op,ty,ps,af,gd⟩:=o
 subst ho
 go_simp
end
theorem vzz_D3 {N:Nat}{a b:Int}{cs:Array Value}{w:World}(h:VP2 2 2 (Vz N a) (Vz N b) (.agg cs) w):∃v,cs[3]? =some v∧VD N b v w:=by
 obtain⟨x,y,h1,h2,h3,h4,h5⟩:=h
 obtain⟨nb,p,n,c,e1,e2,-⟩:=h4
 obtain⟨nb2,p2,n2,c2,f1,f2,f3⟩:=h5
 cases h3
 cases e1
 cases f1
 exact⟨_,rfl,p2,n2,c2,rfl,f2.2.1,f2.2.2.1,f2.2.2.2.1,f2.2.2.2.2,f3⟩
instance (N:Nat)(a b:Int):CeC (VP2 2 2 (Vz N a) (Vz N b)) 3 (VD N b):=⟨fun _ _ h=>vzz_D3 h⟩
theorem vzz_N2 {N:Nat}{a b:Int}{cs:Array Value}{w:World}(h:VP2 2 2 (Vz N a) (Vz N b) (.agg cs) w):∃v,cs[2]? =some v∧Vb (decide (b<0)) v w:=by
 obtain⟨x,y,h1,h2,h3,h4,h5⟩:=h
 obtain⟨nb,p,n,c,e1,e2,-⟩:=h4
 obtain⟨nb2,p2,n2,c2,f1,f2,f3⟩:=h5
 cases h3
 cases e1
 cases f1
 exact⟨_,rfl,congrArg Value.bool f2.1⟩
theorem vzz_N2T {N:Nat}{a b:Int}{cs:Array Value}{w:World}(h:VP2 2 2 (Vz N a) (Vz N b) (.agg cs) w)(hz:b<0):∃v,cs[2]? =some v∧Vb true v w:=by
 obtain⟨v,h1,h2⟩:=vzz_N2 h
 rw [dT hz] at h2
 exact⟨v,h1,h2⟩
theorem vzz_N2F {N:Nat}{a b:Int}{cs:Array Value}{w:World}(h:VP2 2 2 (Vz N a) (Vz N b) (.agg cs) w)(hz:¬b<0):∃v,cs[2]? =some v∧Vb false v w:=by
 obtain⟨v,h1,h2⟩:=vzz_N2 h
 rw [dF hz] at h2
 exact⟨v,h1,h2⟩
theorem cR3Valid {W:World}{N:Nat}{z:Int}{v:Value}(h:Vz N z v W)(hN:N≤1000000):Calls Tryz.prog 108 #[v] W (RV (Vb true) W):=by
 obtain⟨nb,p,n,c,rfl,hI,hn⟩:=h
 have:=rValid_any nb p n c (digs z.natAbs) W hI.2.2.1 hI.2.1 (by omega)
 rw [vld_int hI.1] at this
 exact this.mono fun e w' h=>⟨_,h.1,rfl,h.2⟩
end
end Go.Proofs.YtjdkdjobaabdiaaGreat
