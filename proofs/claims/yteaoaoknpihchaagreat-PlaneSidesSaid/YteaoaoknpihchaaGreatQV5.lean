/- PlaneSides: the walk. -/
import Derived.Deep.MidRow
import Derived.Deep.Cut
import Derived.Test.YteaoaoknpihchaaGreatM35
set_option linter.unusedVariables false
namespace Go.Proofs.YteaoaoknpihchaaGreat
open Go.RowKit

variable {BT : List (TypeId × Nat × Nat)}
theorem World_heap {w : World} {h : Array Obj} (e : h = w.heap) : { w with heap := h } = w := by subst e; rfl
theorem setRow_self {w : World} {g : Nat} {cs : Array Value} {T : TypeId} {fr : Nat × Nat} (hg : w.heap[g]? = some (.cells cs T fr)) : w.setRow g cs = w := by
  unfold World.setRow
  refine World_heap (Array.ext_getElem? fun j => ?_)
  rw [Array.getElem?_modify]
  by_cases e : g = j
  · subst e
    rw [if_pos rfl, hg]; rfl
  · rw [if_neg e]
theorem setRow_twice (w : World) (g : Nat) (x y : Array Value) : (w.setRow g x).setRow g y = w.setRow g y := by
  unfold World.setRow
  congr 1
  apply Array.ext_getElem?
  intro j
  simp only [Array.getElem?_modify]
  by_cases e : g = j
  · subst e
    simp only [if_true]
    cases w.heap[g]? with
    | none => rfl
    | some o => cases o <;> rfl
  · simp [e]
def updA (cs : Array Value) : Nat → List Value → Array Value
  | _, [] => cs
  | o, v :: r => updA (cs.setIfInBounds o v) (o + 1) r
theorem updA_size : ∀ (l : List Value) (o : Nat) (cs : Array Value), (updA cs o l).size = cs.size
  | [], _, _ => rfl
  | _ :: r, o, cs => by unfold updA; rw [updA_size r]; simp
theorem setCells_row {g : Nat} {T : TypeId} {fr : Nat × Nat} : ∀ (l : List Value) (o : Nat) (w : World) (cs : Array Value), w.heap[g]? = some (.cells cs T fr) → w.setCells g o l = w.setRow g (updA cs o l)
  | [], _, w, cs, hg => (setRow_self hg).symm
  | v :: r, o, w, cs, hg => by
    have e1 : w.setCell ⟨g, o, none⟩ v = w.setRow g (cs.setIfInBounds o v) := by
      unfold World.setCell World.setRow
      congr 1
      apply Array.ext_getElem?
      intro j
      simp only [Array.getElem?_modify]
      by_cases e : g = j
      · subst e
        simp [hg]
      · simp [e]
    unfold World.setCells updA
    rw [e1, setCells_row r (o + 1) _ _ (setRow_heap w g cs _ T fr hg), setRow_twice]
section
variable {md : Region.Mode} {ops : Array Oper} {Q : Exit → Act → World → Prop} {a0 : Act} {Vl : List VP} {n0 : Nat} {w0 : World} {B : List Bd} {SL : List (Nat × VP)} {BT : List (TypeId × Nat × Nat)}
/-- a part of a variable gets a value -/
theorem k_storeP {i t s u k off : Nat} {o : Oper} {T : TypeId} {b : Bd} {A : VP} [hB : SbB BT B] (ho : o.op = .store T (.tmp s) (.tmp u)) (hds : o.dst = none) (hVj : gV Vl (jL ops.toList s) = some (Vpt a0 t off)) (hb : gB B (iB B t) = some b) (hbt : b.t = t) (hik : b.ik = some i) (hia : b.ia = none) [ha : Ag A k] [hs : SzT T k] (hV : GV Vl i = VT)
    (hq : quietB (B.take (iB B t) ++ B.drop (iB B t + 1)) i none = true) (hts : (B.take (iB B t) ++ B.drop (iB B t + 1)).all (fun c => c.t != t) = true) (hBT : BT.any (fun e => e.1 == b.T && e.2.1 == b.m && e.2.2 == 0) = true)
    (hj : o.after.any (fun e => e.on == jL ops.toList s && Region.binds md e) = true) (hdst : (ops[jL ops.toList s]?).bind (·.dst) = some s) (hbx : ops.all (fun o => o.dst != some b.t) = true) (hx : KnS md ops Vl SL o u A) (hk : (off + k).ble b.m = true)
    (hupd : ∀ cs z w, cs.size = b.m → z.size = k → NoInt cs → NoInt z → b.P0 (.agg cs) w → A (.agg z) w → b.P (.agg (updA cs off z.toList)) w ∧ NoInt (updA cs off z.toList)) (hg : GOk md ops Vl o) : KStep BT Tryz.prog md ops Q a0 (GV Vl) n0 w0 B SL i o := by
  subst hbt
  intro listed a w h hd _ hil hnl K hK
  rw [if_pos (wanted_of (hg.get h hd))]
  obtain ⟨g, old, e1, e2, e3, e4, e5, -, e7⟩ := h.k.ok b (gB_mem hb) (by rw [hia]; rfl)
  have hP0 := e7 hia (by rw [hik]; exact hnl)
  obtain ⟨v, hv, hVv⟩ := hx.get h hd
  obtain ⟨z, hz, hzs, hzn, hz1, hzV⟩ := agg_store ha.out hv hVv
  obtain ⟨vp, hvp, -, hVp⟩ := h.dep hd _ s hj hdst
  rw [show GV Vl (jL ops.toList s) = _ from gV_get hVj] at hVp
  obtain ⟨g', f1, rfl⟩ := hVp
  have ho1 := h.other b.t fun i o ho => by
    rw [Array.all_eq_true'] at hbx
    have := hbx o (Array.mem_of_getElem? ho)
    simpa using this
  rw [e1, f1] at ho1
  simp at ho1
  subst ho1
  obtain ⟨hPn, hni⟩ := hupd old z w e4 hzs e5 hzn hP0 hzV
  obtain ⟨g2, old2, q1, q2, q3, hr, hks⟩ := h.k.store (BT := BT) (v := undef) (gB_split hb) hq (by rw [hia]; rfl) (by rw [hia]; intro e; cases e) hik hil (fun g _ => by
    rw [List.any_eq_true] at hBT
    obtain ⟨e, he, h1⟩ := hBT
    simp only [Bool.and_eq_true, beq_iff_eq] at h1
    exact ⟨e, he, h1.1.1, h1.1.2, .inl h1.2⟩) hB.out (updA old off z.toList) (by rw [updA_size]; exact e4) hni hPn (fun c hc => by
    rw [List.all_eq_true] at hts
    simpa using hts c hc)
  have hgg : g2 = g := by rw [e1] at q1; cases q1; rfl
  subst hgg
  have hle := Nat.le_of_ble_eq_true hk
  refine wp_store_mid T (.tmp s) (.tmp u) ho g2 off z hvp hz (fun j hj => ⟨?_, ?_⟩) (by rw [hs.size, hzs]) hz1 ?_
  · have : off + j < old.size := by omega
    simp [World.cell?, e3, this]
  · simp [World.frozen?, e3]
  · rw [setCells_row _ _ _ _ e3]
    rw [hds] at hK ⊢
    exact hK _ _ hks hr (by rw [hV]; trivial)
end
theorem upd_X {N : Nat} {x y x' : Rat} {cs z : Array Value} {w : World} (h1 : cs.size = 8) (h2 : z.size = 4) (h3 : NoInt cs) (h4 : NoInt z) (h5 : Vv N x y (.agg cs) w) (h6 : Vq N x' (.agg z) w) : Vv N x' y (.agg (updA cs 0 z.toList)) w ∧ NoInt (updA cs 0 z.toList) := by
  obtain ⟨cx, cy, e1, e2, e3, hx, hy⟩ := h5
  obtain ⟨a, b, c, d, rfl⟩ := arr4 e1
  obtain ⟨a', b', c', d', rfl⟩ := arr4 e2
  cases e3
  obtain ⟨p, q, r, s, rfl⟩ := arr4 h2
  have e : updA (#[a, b, c, d] ++ #[a', b', c', d']) 0 [p, q, r, s] = #[p, q, r, s] ++ #[a', b', c', d'] := rfl
  show Vv N x' y (.agg (updA _ 0 [p, q, r, s])) w ∧ _
  rw [e]
  refine ⟨⟨_, _, rfl, rfl, rfl, h6, hy⟩, fun i x hi => ?_⟩
  obtain ⟨c1, u1, -, n1, -⟩ := AggV_Vq _ _ _ _ hy
  cases u1
  rw [Array.getElem?_append] at hi
  split at hi
  · exact h4 _ _ hi
  · exact n1 _ _ hi
/-- less is known of boxes -/
theorem St.wk {n0 N : Nat} {w0 : World} {L : List Bd} {SL : List (Nat × VP)} {a : Act} {w : World} (h : St n0 w0 N L SL a w) (L' : List Bd) (hm : ∀ c ∈ L', ∃ b, b ∈ L ∧ b.t = c.t ∧ b.T = c.T ∧ b.m = c.m ∧ b.ia = none ∧ c.ia = none ∧ b.ik = none ∧ c.ik = none ∧ ∀ v w, b.P v w → c.P v w) : St n0 w0 N L' SL a w := by
  refine ⟨⟨h.k.below, fun c hc hon => ?_, fun c hc d hd hne h1 h2 => ?_, fun c hc hn hk => ?_⟩, h.n, h.size, h.defers, h.sl⟩
  · obtain ⟨b, hb, e1, e2, e3, e4, e5, e6, e7, e8⟩ := hm c hc
    obtain ⟨g, cs, f1, f2, f3, f4, f5, f6, -⟩ := h.k.ok b hb (by rw [e4]; rfl)
    exact ⟨g, cs, by rw [← e1]; exact f1, f2, by rw [← e2]; exact f3, by rw [← e3]; exact f4, f5, fun _ => e8 _ _ (f6 (by rw [e6]; rfl)), fun _ hk => by rw [e7] at hk; cases hk⟩
  · obtain ⟨b, hb, e1, -, -, e4, -⟩ := hm c hc
    obtain ⟨b2, hb2, q1, -, -, q4, -⟩ := hm d hd
    rw [← e1, ← q1]
    exact h.k.ne b hb b2 hb2 (by rw [e1, q1]; exact hne) (by rw [e4]; rfl) (by rw [q4]; rfl)
  · obtain ⟨b, hb, -, -, -, -, -, -, e7, -⟩ := hm c hc
    exact absurd e7 hn
/-- the sign of the opposite -/
theorem sgq_neg (q : Rat) : cmpI (-q).num 0 = -cmpI q.num 0 := by
  rw [Rat.neg_num]
  rcases Int.lt_trichotomy q.num 0 with h | h | h
  · rw [cmp_gt (by omega), cmp_lt h]; rfl
  · rw [h]; rfl
  · rw [cmp_lt (by omega), cmp_gt h]
theorem sg_flip {p q : Rat} (h : p = -q) : cmpI p.num 0 = -cmpI q.num 0 := by rw [h, sgq_neg]
theorem cmpI_r (a b : Int) : -1 ≤ cmpI a b ∧ cmpI a b ≤ 1 := by
  rcases Int.lt_trichotomy a b with h | h | h
  · rw [cmp_lt h]; omega
  · rw [h, cmp_eq]; omega
  · rw [cmp_gt h]; omega
theorem cmpI_neg (a b : Int) : cmpI b a = -cmpI a b := by
  rcases Int.lt_trichotomy a b with h | h | h
  · rw [cmp_lt h, cmp_gt h]; rfl
  · rw [h, cmp_eq]; rfl
  · rw [cmp_gt h, cmp_lt h]
theorem cmpQ_neg (a b : Rat) : cmpQ b a = -cmpQ a b := cmpI_neg _ _
theorem cmpQ_r (a b : Rat) : cmpQ a b = -1 ∨ cmpQ a b = 0 ∨ cmpQ a b = 1 := by
  unfold cmpQ
  rcases Int.lt_trichotomy (a.num * (b.den : Int)) (b.num * (a.den : Int)) with h | h | h
  · rw [cmp_lt h]; exact .inl rfl
  · rw [h, cmp_eq]; exact .inr (.inl rfl)
  · rw [cmp_gt h]; exact .inr (.inr rfl)
/-- the order of vectors -/
def vC (a b c d : Rat) : Int := if cmpQ a c = 0 then cmpQ b d else cmpQ a c
theorem vC_neg (a b c d : Rat) : vC c d a b = -vC a b c d := by
  unfold vC
  rw [cmpQ_neg a c, cmpQ_neg b d]
  split <;> split <;> omega
theorem vC_r (a b c d : Rat) : -1 ≤ vC a b c d ∧ vC a b c d ≤ 1 := by
  unfold vC
  have h1 := cmpQ_r a c
  have h2 := cmpQ_r b d
  split <;> omega
theorem vC_0 (a b c d : Rat) : (vC a b c d = 0) ↔ (a = c ∧ b = d) := by
  unfold vC
  rw [← cmpQ_eq (a := a) (b := c), ← cmpQ_eq (a := b) (b := d)]
  split
  · simp [*]
  · constructor
    · intro h; exact absurd h (by assumption)
    · intro h; exact absurd h.1 (by assumption)
theorem vC_le (a b c d : Rat) : (vC a b c d ≤ 0) ↔ (a < c ∨ (a = c ∧ b ≤ d)) := by
  unfold vC
  have h1 := cmpQ_r a c
  have h2 := cmpQ_r b d
  have l1 := cmpQ_lt (a := a) (b := c)
  have l2 := cmpQ_lt (a := b) (b := d)
  have q1 := cmpQ_eq (a := a) (b := c)
  have q2 := cmpQ_eq (a := b) (b := d)
  have g1 := cmpQ_gt (a := a) (b := c)
  have g2 := cmpQ_gt (a := b) (b := d)
  split
  · rename_i h
    rw [h] at q1
    have hac := q1.1 rfl
    constructor
    · intro h3
      refine .inr ⟨hac, ?_⟩
      rcases h2 with h4 | h4 | h4
      · exact Rat.le_of_lt (l2.1 h4)
      · rw [q2.1 h4]; exact Rat.le_refl
      · omega
    · intro h3
      rcases h3 with h3 | ⟨-, h3⟩
      · subst hac; exact absurd h3 Rat.lt_irrefl
      · rcases h2 with h4 | h4 | h4
        · omega
        · omega
        · exact absurd (g2.1 h4) (Rat.not_lt.2 h3)
  · rename_i h
    constructor
    · intro h3
      exact .inl (l1.1 (by omega))
    · intro h3
      rcases h3 with h3 | ⟨h3, -⟩
      · have := l1.2 h3; omega
      · exact absurd (q1.2 h3) h
theorem vC_trans {a b c d e f : Rat} (h1 : vC a b c d ≤ 0) (h2 : vC c d e f ≤ 0) : vC a b e f ≤ 0 := by
  rw [vC_le] at *
  rcases h1 with h1 | ⟨h1, h3⟩ <;> rcases h2 with h2 | ⟨h2, h4⟩
  · exact .inl (by grind)
  · exact .inl (h2 ▸ h1)
  · exact .inl (h1 ▸ h2)
  · exact .inr ⟨h1.trans h2, Rat.le_trans h3 h4⟩

set_option maxRecDepth 100000 in
set_option maxHeartbeats 1600000 in
theorem walkSides0 {w : World} {l : List Int} {e : Int} {v0 v1 : Value} (h0 : VI l v0 w) (h1 : Vi (e) v1 w) (he0 : -9223372036854775808 ≤ e) (he1 : e ≤ 9223372036854775807) : Calls Tryz.prog 4 #[v0, v1] w (RV (Vb true) w) := by
  go_enter Tryz.func4, Tryz.ntmps4
  have st0 : St w.heap.size w 138 [] [(0, VI l), (1, Vi (e))] _ w := St.begin (a := ⟨#[v0, v1, undef, undef, undef, undef, undef, undef, undef, undef, undef, undef, undef, undef, undef, undef, undef, undef, undef, undef, undef, undef, undef, undef, undef, undef, undef, undef, undef, undef, undef, undef, undef, undef, undef, undef, undef, undef, undef, undef, undef, undef, undef, undef, undef, undef, undef, undef, undef, undef, undef, undef, undef, undef, undef, undef, undef, undef, undef, undef, undef, undef, undef, undef, undef, undef, undef, undef, undef, undef, undef, undef, undef, undef, undef, undef, undef, undef, undef, undef, undef, undef, undef, undef, undef, undef, undef, undef, undef, undef, undef, undef, undef, undef, undef, undef, undef, undef, undef, undef, undef, undef, undef, undef, undef, undef, undef, undef, undef, undef, undef, undef, undef, undef, undef, undef, undef, undef, undef, undef, undef, undef, undef, undef, undef, undef, undef, undef, undef, undef, undef, undef, undef, undef, undef, undef, undef, undef], []⟩) rfl rfl (List.forall_mem_cons.2 ⟨⟨_, rfl, h0⟩, (List.forall_mem_cons.2 ⟨⟨_, rfl, h1⟩, (fun _ h => absurd h (by simp))⟩)⟩)
  generalize (⟨#[v0, v1, undef, undef, undef, undef, undef, undef, undef, undef, undef, undef, undef, undef, undef, undef, undef, undef, undef, undef, undef, undef, undef, undef, undef, undef, undef, undef, undef, undef, undef, undef, undef, undef, undef, undef, undef, undef, undef, undef, undef, undef, undef, undef, undef, undef, undef, undef, undef, undef, undef, undef, undef, undef, undef, undef, undef, undef, undef, undef, undef, undef, undef, undef, undef, undef, undef, undef, undef, undef, undef, undef, undef, undef, undef, undef, undef, undef, undef, undef, undef, undef, undef, undef, undef, undef, undef, undef, undef, undef, undef, undef, undef, undef, undef, undef, undef, undef, undef, undef, undef, undef, undef, undef, undef, undef, undef, undef, undef, undef, undef, undef, undef, undef, undef, undef, undef, undef, undef, undef, undef, undef, undef, undef, undef, undef, undef, undef, undef, undef, undef, undef, undef, undef, undef, undef, undef, undef], []⟩ : Act) = a0 at st0 ⊢
  have one1 : Rat.divInt 1 1 = 1 := by decide +kernel
  have onem : Rat.divInt (-1) 1 = -1 := by decide +kernel
  repeat first | refine wp_seq ?_ | refine wp_block ?_ | refine wp_skip ?_ | refine wp_exit ?_
  refine rg (BT := [(28, 8, 0), (26, 4, 0)]) (Vl := [Vb (false)]) (B := []) (SL' := [(0, VI l), (1, Vi (e)), (4, Vb (false))]) st0 ⟨ks, trivial⟩ ?_
  intro a1 w1 st1
  clear st0
  repeat first | refine wp_seq ?_ | refine wp_block ?_ | refine wp_skip ?_ | refine wp_exit ?_
  refine rg (BT := [(28, 8, 0), (26, 4, 0)]) (Vl := [VI l, Vv 3 (numQ (atv l (0) 100)) (numQ (atv l (0 + 1) 100)), VT, VT]) (B := [⟨5, some 2, some 3, 28, 8, Vv 3 (numQ (atv l (0) 100)) (numQ (atv l (0 + 1) 100)), VT⟩]) (SL' := [(0, VI l), (1, Vi (e)), (4, Vb (false))]) st1 ⟨ks, ?s1, ks, ks, trivial⟩ ?_
  case s1 =>
    refine kc fun _ ac Wd h hd => ?_
    obtain ⟨v0, hv0, hV0⟩ := h.dp hd 11
    exact ⟨#[v0, .int .i64 (0)], by simp [hv0, eval_const], cVecL (show VI l v0 Wd from hV0) (show Vi (0) (.int .i64 (0)) Wd from rfl) (by omega) (by omega)⟩
  intro a2 w2 st2
  clear st1
  generalize numQ (atv l (0) 100) = xa at st2 
  generalize numQ (atv l (0 + 1) 100) = ya at st2 
  repeat first | refine wp_seq ?_ | refine wp_block ?_ | refine wp_skip ?_ | refine wp_exit ?_
  refine rg (BT := [(28, 8, 0), (26, 4, 0)]) (Vl := [VI l, Vv 3 (numQ (atv l (2) 100)) (numQ (atv l (2 + 1) 100)), VT, VT]) (B := [⟨5, none, none, 28, 8, Vv 3 (xa) (ya), VT⟩, ⟨6, some 2, some 3, 28, 8, Vv 3 (numQ (atv l (2) 100)) (numQ (atv l (2 + 1) 100)), VT⟩]) (SL' := [(0, VI l), (1, Vi (e)), (4, Vb (false))]) st2 ⟨ks, ?s1, ks, ks, trivial⟩ ?_
  case s1 =>
    refine kc fun _ ac Wd h hd => ?_
    obtain ⟨v0, hv0, hV0⟩ := h.dp hd 13
    exact ⟨#[v0, .int .i64 (2)], by simp [hv0, eval_const], cVecL (show VI l v0 Wd from hV0) (show Vi (2) (.int .i64 (2)) Wd from rfl) (by omega) (by omega)⟩
  intro a3 w3 st3
  clear st2
  generalize numQ (atv l (2) 100) = xb at st3 
  generalize numQ (atv l (2 + 1) 100) = yb at st3 
  repeat first | refine wp_seq ?_ | refine wp_block ?_ | refine wp_skip ?_ | refine wp_exit ?_
  refine rg (BT := [(28, 8, 0), (26, 4, 0)]) (Vl := [VI l, Vv 3 (numQ (atv l (4) 100)) (numQ (atv l (4 + 1) 100)), VT, VT]) (B := [⟨5, none, none, 28, 8, Vv 3 (xa) (ya), VT⟩, ⟨6, none, none, 28, 8, Vv 3 (xb) (yb), VT⟩, ⟨7, some 2, some 3, 28, 8, Vv 3 (numQ (atv l (4) 100)) (numQ (atv l (4 + 1) 100)), VT⟩]) (SL' := [(0, VI l), (1, Vi (e)), (4, Vb (false))]) st3 ⟨ks, ?s1, ks, ks, trivial⟩ ?_
  case s1 =>
    refine kc fun _ ac Wd h hd => ?_
    obtain ⟨v0, hv0, hV0⟩ := h.dp hd 15
    exact ⟨#[v0, .int .i64 (4)], by simp [hv0, eval_const], cVecL (show VI l v0 Wd from hV0) (show Vi (4) (.int .i64 (4)) Wd from rfl) (by omega) (by omega)⟩
  intro a4 w4 st4
  clear st3
  generalize numQ (atv l (4) 100) = xd at st4 
  generalize numQ (atv l (4 + 1) 100) = yd at st4 
  repeat first | refine wp_seq ?_ | refine wp_block ?_ | refine wp_skip ?_ | refine wp_exit ?_
  refine rg (BT := [(28, 8, 0), (26, 4, 0)]) (Vl := [Vi (e), Vi (arn (e) 6)]) (B := [⟨5, none, none, 28, 8, Vv 3 (xa) (ya), VT⟩, ⟨6, none, none, 28, 8, Vv 3 (xb) (yb), VT⟩, ⟨7, none, none, 28, 8, Vv 3 (xd) (yd), VT⟩]) (SL' := [(0, VI l), (1, Vi (e)), (4, Vb (false)), (18, Vi (arn (e) 6))]) st4 ⟨ks, ?s1, trivial⟩ ?_
  case s1 =>
    refine kc fun _ ac Wd h hd => ?_
    obtain ⟨v0, hv0, hV0⟩ := h.dp hd 17
    exact ⟨#[v0, .int .i64 (6)], by simp [hv0, eval_const], cAround (show Vi (e) v0 Wd from hV0) (by omega) (by omega) (by omega) (by omega)⟩
  intro a5 w5 st5
  clear st4
  repeat first | refine wp_seq ?_ | refine wp_skip ?_
  refine wp_cut (fun aX wX => ∃ xa ya xb yb xd yd : Rat, St w.heap.size w 138 [⟨5, none, none, 28, 8, Vv 100 (xa) (ya), VT⟩, ⟨6, none, none, 28, 8, Vv 100 (xb) (yb), VT⟩, ⟨7, none, none, 28, 8, Vv 100 (xd) (yd), VT⟩] [(4, Vb (false))] aX wX) ?_ (fun J K hJ hK => ?_)
  ·
    clear st5
    rintro aT wT ⟨xa, ya, xb, yb, xd, yd, st5⟩
    repeat first | refine wp_seq ?_ | refine wp_block ?_ | refine wp_skip ?_ | refine wp_exit ?_
    refine rg (BT := [(28, 8, 0), (26, 4, 0)]) (Vl := [Vv 100 (xa) (ya), Vv 100 (xb) (yb), Vv 100 (xd) (yd), Vi (cmpI (((xb) - (xa)) * ((yd) - (ya)) + -((yb) - (ya)) * ((xd) - (xa))).num 0), Vi (cmpI (((xb) - (xa)) * ((yd) - (ya)) + -((yb) - (ya)) * ((xd) - (xa))).num 0)]) (B := [⟨5, none, none, 28, 8, Vv 100 (xa) (ya), VT⟩, ⟨6, none, none, 28, 8, Vv 100 (xb) (yb), VT⟩, ⟨7, none, none, 28, 8, Vv 100 (xd) (yd), VT⟩]) (SL' := [(4, Vb (false)), (8, Vi (cmpI (((xb) - (xa)) * ((yd) - (ya)) + -((yb) - (ya)) * ((xd) - (xa))).num 0))]) st5 ⟨ks, ks, ks, ?s3, ks, trivial⟩ ?_
    case s3 =>
      refine kc fun _ ac Wd h hd => ?_
      obtain ⟨v0, hv0, hV0⟩ := h.dp hd 37
      obtain ⟨v1, hv1, hV1⟩ := h.dp hd 38
      obtain ⟨v2, hv2, hV2⟩ := h.dp hd 39
      exact ⟨#[v0, v1, v2], by simp [hv0, hv1, hv2], cSide (show Vv 100 (xa) (ya) v0 Wd from hV0) (show Vv 100 (xb) (yb) v1 Wd from hV1) (show Vv 100 (xd) (yd) v2 Wd from hV2) (by omega) (by omega)⟩
    intro a6 w6 st6
    clear st5
    repeat first | refine wp_seq ?_ | refine wp_block ?_ | refine wp_skip ?_ | refine wp_exit ?_
    refine rg (BT := [(28, 8, 0), (26, 4, 0)]) (Vl := [Vi (cmpI (((xb) - (xa)) * ((yd) - (ya)) + -((yb) - (ya)) * ((xd) - (xa))).num 0), Vv 100 (xa) (ya), Vv 100 (xb) (yb), Vv 100 (xd) (yd), Vi (cmpI (((xb) - (xa)) * ((yd) - (ya)) - ((yb) - (ya)) * ((xd) - (xa))).num 0), Vb (false), Vb (false), Vi (cmpI (((xb) - (xa)) * ((yd) - (ya)) + -((yb) - (ya)) * ((xd) - (xa))).num 0), Vv 100 (xb) (yb), Vv 100 (xd) (yd), Vv 100 (xa) (ya), Vi (cmpI (((xd) - (xb)) * ((ya) - (yb)) + -((yd) - (yb)) * ((xa) - (xb))).num 0), Vb (false), Vb (false), Vb (false), Vi (cmpI (((xb) - (xa)) * ((yd) - (ya)) + -((yb) - (ya)) * ((xd) - (xa))).num 0), Vv 100 (xb) (yb), Vv 100 (xa) (ya), Vv 100 (xd) (yd), Vi (cmpI (((xa) - (xb)) * ((yd) - (yb)) + -((ya) - (yb)) * ((xd) - (xb))).num 0), Vi (-(cmpI (((xa) - (xb)) * ((yd) - (yb)) + -((ya) - (yb)) * ((xd) - (xb))).num 0)), Vb (false), Vb (false), Vb (false), Vi (cmpI (((xb) - (xa)) * ((yd) - (ya)) + -((yb) - (ya)) * ((xd) - (xa))).num 0), Vv 100 (xa) (ya), Vv 100 (xd) (yd), Vv 100 (xb) (yb), Vi (cmpI (((xd) - (xa)) * ((yb) - (ya)) + -((yd) - (ya)) * ((xb) - (xa))).num 0), Vi (-(cmpI (((xd) - (xa)) * ((yb) - (ya)) + -((yd) - (ya)) * ((xb) - (xa))).num 0)), Vb (false), Vb (false)]) (B := [⟨5, none, none, 28, 8, Vv 100 (xa) (ya), VT⟩, ⟨6, none, none, 28, 8, Vv 100 (xb) (yb), VT⟩, ⟨7, none, none, 28, 8, Vv 100 (xd) (yd), VT⟩]) (SL' := [(4, Vb (false)), (72, Vb (false))]) st6 ⟨ks, ks, ks, ks, ?s4, ?s5, ks, ks, ks, ks, ks, ?s11, ?s12, ks, ks, ks, ks, ks, ks, ?s19, ?s20, ?s21, ks, ks, ks, ks, ks, ks, ?s28, ?s29, ?s30, ks, trivial⟩ ?_
    case s4 =>
      refine kc fun _ ac Wd h hd => ?_
      obtain ⟨v0, hv0, hV0⟩ := h.dp hd 42
      obtain ⟨v1, hv1, hV1⟩ := h.dp hd 43
      obtain ⟨v2, hv2, hV2⟩ := h.dp hd 44
      exact ⟨#[v0, v1, v2], by simp [hv0, hv1, hv2], cR5Side (show Vv 100 (xa) (ya) v0 Wd from hV0) (show Vv 100 (xb) (yb) v1 Wd from hV1) (show Vv 100 (xd) (yd) v2 Wd from hV2) (by omega) (by omega)⟩
    case s5 =>
      refine kr fun _ ac Wd h hd => ?_
      obtain ⟨v0, hv0, hV0⟩ := h.dp hd 41
      have hV0' : v0 = .int .i64 (cmpI (((xb) - (xa)) * ((yd) - (ya)) + -((yb) - (ya)) * ((xd) - (xa))).num 0) := hV0
      obtain ⟨v1, hv1, hV1⟩ := h.dp hd 45
      have hV1' : v1 = .int .i64 (cmpI (((xb) - (xa)) * ((yd) - (ya)) - ((yb) - (ya)) * ((xd) - (xa))).num 0) := hV1
      exact ⟨_, run_neqi rfl (hv0.trans hV0') (hv1.trans hV1'), congrArg Value.bool (bne_eq_false_iff_eq.2 (congrArg (fun q : Rat => cmpI q.num 0) (by grind)))⟩
    case s11 =>
      refine kc fun _ ac Wd h hd => ?_
      obtain ⟨v0, hv0, hV0⟩ := h.dp hd 49
      obtain ⟨v1, hv1, hV1⟩ := h.dp hd 50
      obtain ⟨v2, hv2, hV2⟩ := h.dp hd 51
      exact ⟨#[v0, v1, v2], by simp [hv0, hv1, hv2], cSide (show Vv 100 (xb) (yb) v0 Wd from hV0) (show Vv 100 (xd) (yd) v1 Wd from hV1) (show Vv 100 (xa) (ya) v2 Wd from hV2) (by omega) (by omega)⟩
    case s12 =>
      refine kr fun _ ac Wd h hd => ?_
      obtain ⟨v0, hv0, hV0⟩ := h.dp hd 48
      have hV0' : v0 = .int .i64 (cmpI (((xb) - (xa)) * ((yd) - (ya)) + -((yb) - (ya)) * ((xd) - (xa))).num 0) := hV0
      obtain ⟨v1, hv1, hV1⟩ := h.dp hd 52
      have hV1' : v1 = .int .i64 (cmpI (((xd) - (xb)) * ((ya) - (yb)) + -((yd) - (yb)) * ((xa) - (xb))).num 0) := hV1
      exact ⟨_, run_neqi rfl (hv0.trans hV0') (hv1.trans hV1'), congrArg Value.bool (bne_eq_false_iff_eq.2 (congrArg (fun q : Rat => cmpI q.num 0) (by grind)))⟩
    case s19 =>
      refine kc fun _ ac Wd h hd => ?_
      obtain ⟨v0, hv0, hV0⟩ := h.dp hd 57
      obtain ⟨v1, hv1, hV1⟩ := h.dp hd 58
      obtain ⟨v2, hv2, hV2⟩ := h.dp hd 59
      exact ⟨#[v0, v1, v2], by simp [hv0, hv1, hv2], cSide (show Vv 100 (xb) (yb) v0 Wd from hV0) (show Vv 100 (xa) (ya) v1 Wd from hV1) (show Vv 100 (xd) (yd) v2 Wd from hV2) (by omega) (by omega)⟩
    case s20 =>
      refine kr fun _ ac Wd h hd => ?_
      obtain ⟨v0, hv0, hV0⟩ := h.dp hd 60
      exact ⟨_, run_negi rfl (hv0.trans (show v0 = .int .i64 (cmpI (((xa) - (xb)) * ((yd) - (yb)) + -((ya) - (yb)) * ((xd) - (xb))).num 0) from hV0)) (wrap_id (by have := cmpI_r (((xa) - (xb)) * ((yd) - (yb)) + -((ya) - (yb)) * ((xd) - (xb))).num 0; omega) (by have := cmpI_r (((xa) - (xb)) * ((yd) - (yb)) + -((ya) - (yb)) * ((xd) - (xb))).num 0; omega)), rfl⟩
    case s21 =>
      refine kr fun _ ac Wd h hd => ?_
      obtain ⟨v0, hv0, hV0⟩ := h.dp hd 56
      have hV0' : v0 = .int .i64 (cmpI (((xb) - (xa)) * ((yd) - (ya)) + -((yb) - (ya)) * ((xd) - (xa))).num 0) := hV0
      obtain ⟨v1, hv1, hV1⟩ := h.dp hd 61
      have hV1' : v1 = .int .i64 (-(cmpI (((xa) - (xb)) * ((yd) - (yb)) + -((ya) - (yb)) * ((xd) - (xb))).num 0)) := hV1
      exact ⟨_, run_neqi rfl (hv0.trans hV0') (hv1.trans hV1'), congrArg Value.bool (bne_eq_false_iff_eq.2 (sg_flip (by grind)))⟩
    case s28 =>
      refine kc fun _ ac Wd h hd => ?_
      obtain ⟨v0, hv0, hV0⟩ := h.dp hd 66
      obtain ⟨v1, hv1, hV1⟩ := h.dp hd 67
      obtain ⟨v2, hv2, hV2⟩ := h.dp hd 68
      exact ⟨#[v0, v1, v2], by simp [hv0, hv1, hv2], cSide (show Vv 100 (xa) (ya) v0 Wd from hV0) (show Vv 100 (xd) (yd) v1 Wd from hV1) (show Vv 100 (xb) (yb) v2 Wd from hV2) (by omega) (by omega)⟩
    case s29 =>
      refine kr fun _ ac Wd h hd => ?_
      obtain ⟨v0, hv0, hV0⟩ := h.dp hd 69
      exact ⟨_, run_negi rfl (hv0.trans (show v0 = .int .i64 (cmpI (((xd) - (xa)) * ((yb) - (ya)) + -((yd) - (ya)) * ((xb) - (xa))).num 0) from hV0)) (wrap_id (by have := cmpI_r (((xd) - (xa)) * ((yb) - (ya)) + -((yd) - (ya)) * ((xb) - (xa))).num 0; omega) (by have := cmpI_r (((xd) - (xa)) * ((yb) - (ya)) + -((yd) - (ya)) * ((xb) - (xa))).num 0; omega)), rfl⟩
    case s30 =>
      refine kr fun _ ac Wd h hd => ?_
      obtain ⟨v0, hv0, hV0⟩ := h.dp hd 65
      have hV0' : v0 = .int .i64 (cmpI (((xb) - (xa)) * ((yd) - (ya)) + -((yb) - (ya)) * ((xd) - (xa))).num 0) := hV0
      obtain ⟨v1, hv1, hV1⟩ := h.dp hd 70
      have hV1' : v1 = .int .i64 (-(cmpI (((xd) - (xa)) * ((yb) - (ya)) + -((yd) - (ya)) * ((xb) - (xa))).num 0)) := hV1
      exact ⟨_, run_neqi rfl (hv0.trans hV0') (hv1.trans hV1'), congrArg Value.bool (bne_eq_false_iff_eq.2 (sg_flip (by grind)))⟩
    intro a7 w7 st7
    clear st6
    repeat first | refine wp_seq ?_ | refine wp_block ?_ | refine wp_skip ?_ | refine wp_exit ?_
    obtain ⟨vc, hc1, hc2⟩ := st7.slot (72, Vb (false)) (.tail _ (.head _))
    refine wp_cond_false (hc1.trans hc2) ?_
    clear hc1 hc2
    repeat first | refine wp_seq ?_ | refine wp_block ?_ | refine wp_skip ?_ | refine wp_exit ?_
    refine rg (BT := [(28, 8, 0), (26, 4, 0)]) (Vl := [Vv 100 (xa) (ya), Vv 100 (xb) (yb), Vi (vC (xa) (ya) (xb) (yb)), Vi (vC (xa) (ya) (xb) (yb))]) (B := [⟨5, none, none, 28, 8, Vv 100 (xa) (ya), VT⟩, ⟨6, none, none, 28, 8, Vv 100 (xb) (yb), VT⟩, ⟨7, none, none, 28, 8, Vv 100 (xd) (yd), VT⟩]) (SL' := [(4, Vb (false)), (72, Vb (false)), (9, Vi (vC (xa) (ya) (xb) (yb)))]) st7 ⟨ks, ks, ?s2, ks, trivial⟩ ?_
    case s2 =>
      refine kc fun _ ac Wd h hd => ?_
      obtain ⟨v0, hv0, hV0⟩ := h.dp hd 73
      obtain ⟨v1, hv1, hV1⟩ := h.dp hd 74
      exact ⟨#[v0, v1], by simp [hv0, hv1], cVCompare (show Vv 100 (xa) (ya) v0 Wd from hV0) (show Vv 100 (xb) (yb) v1 Wd from hV1) (by omega) (by omega)⟩
    intro a8 w8 st8
    clear st7
    repeat first | refine wp_seq ?_ | refine wp_block ?_ | refine wp_skip ?_ | refine wp_exit ?_
    refine rg (BT := [(28, 8, 0), (26, 4, 0)]) (Vl := [Vv 100 (xb) (yb), Vv 100 (xd) (yd), Vi (vC (xb) (yb) (xd) (yd)), Vi (vC (xb) (yb) (xd) (yd))]) (B := [⟨5, none, none, 28, 8, Vv 100 (xa) (ya), VT⟩, ⟨6, none, none, 28, 8, Vv 100 (xb) (yb), VT⟩, ⟨7, none, none, 28, 8, Vv 100 (xd) (yd), VT⟩]) (SL' := [(4, Vb (false)), (72, Vb (false)), (9, Vi (vC (xa) (ya) (xb) (yb))), (10, Vi (vC (xb) (yb) (xd) (yd)))]) st8 ⟨ks, ks, ?s2, ks, trivial⟩ ?_
    case s2 =>
      refine kc fun _ ac Wd h hd => ?_
      obtain ⟨v0, hv0, hV0⟩ := h.dp hd 76
      obtain ⟨v1, hv1, hV1⟩ := h.dp hd 77
      exact ⟨#[v0, v1], by simp [hv0, hv1], cVCompare (show Vv 100 (xb) (yb) v0 Wd from hV0) (show Vv 100 (xd) (yd) v1 Wd from hV1) (by omega) (by omega)⟩
    intro a9 w9 st9
    clear st8
    have hab := vC_r (xa) (ya) (xb) (yb)
    have hba := vC_neg (xa) (ya) (xb) (yb)
    have hbd := vC_r (xb) (yb) (xd) (yd)
    have had := vC_r (xa) (ya) (xd) (yd)
    repeat first | refine wp_seq ?_ | refine wp_block ?_ | refine wp_skip ?_ | refine wp_exit ?_
    refine rg (BT := [(28, 8, 0), (26, 4, 0)]) (Vl := [Vi (vC (xa) (ya) (xb) (yb)), Vv 100 (xa) (ya), Vv 100 (xb) (yb), Vi (vC (xa) (ya) (xb) (yb)), Vb (false), Vb (false), Vi (vC (xa) (ya) (xb) (yb)), Vv 100 (xb) (yb), Vv 100 (xa) (ya), Vi (vC (xb) (yb) (xa) (ya)), Vi (-(vC (xb) (yb) (xa) (ya))), Vb (false), Vb (false), Vb (false), Vi (vC (xa) (ya) (xb) (yb)), Vb (decide (vC (xa) (ya) (xb) (yb) = 0)), Vv 100 (xa) (ya), Vv 100 (xb) (yb), Vb (decide ((xa) = (xb) ∧ (ya) = (yb))), Vb (false), Vb (false), Vb (false), Vv 100 (xa) (ya), Vv 100 (xd) (yd), Vb (decide ((xa) = (xd) ∧ (ya) = (yd))), Vv 100 (xa) (ya), Vv 100 (xd) (yd), Vb (decide ((xa) = (xd) ∧ (ya) = (yd))), Vb (false), Vb (false)]) (B := [⟨5, none, none, 28, 8, Vv 100 (xa) (ya), VT⟩, ⟨6, none, none, 28, 8, Vv 100 (xb) (yb), VT⟩, ⟨7, none, none, 28, 8, Vv 100 (xd) (yd), VT⟩]) (SL' := [(4, Vb (false)), (72, Vb (false)), (9, Vi (vC (xa) (ya) (xb) (yb))), (10, Vi (vC (xb) (yb) (xd) (yd))), (108, Vb (false))]) st9 ⟨ks, ks, ks, ?s3, ?s4, ks, ks, ks, ks, ?s9, ?s10, ?s11, ks, ks, ks, ?s15, ks, ks, ?s18, ?s19, ks, ks, ks, ks, ?s24, ks, ks, ?s27, ?s28, ks, trivial⟩ ?_
    case s3 =>
      refine kc fun _ ac Wd h hd => ?_
      obtain ⟨v0, hv0, hV0⟩ := h.dp hd 80
      obtain ⟨v1, hv1, hV1⟩ := h.dp hd 81
      exact ⟨#[v0, v1], by simp [hv0, hv1], cR5Compare (show Vv 100 (xa) (ya) v0 Wd from hV0) (show Vv 100 (xb) (yb) v1 Wd from hV1) (by omega) (by omega)⟩
    case s4 =>
      refine kr fun _ ac Wd h hd => ?_
      obtain ⟨v0, hv0, hV0⟩ := h.dp hd 79
      have hV0' : v0 = .int .i64 (vC (xa) (ya) (xb) (yb)) := hV0
      obtain ⟨v1, hv1, hV1⟩ := h.dp hd 82
      have hV1' : v1 = .int .i64 (vC (xa) (ya) (xb) (yb)) := hV1
      exact ⟨_, run_neqi rfl (hv0.trans hV0') (hv1.trans hV1'), congrArg Value.bool (bne_self_eq_false _)⟩
    case s9 =>
      refine kc fun _ ac Wd h hd => ?_
      obtain ⟨v0, hv0, hV0⟩ := h.dp hd 86
      obtain ⟨v1, hv1, hV1⟩ := h.dp hd 87
      exact ⟨#[v0, v1], by simp [hv0, hv1], cVCompare (show Vv 100 (xb) (yb) v0 Wd from hV0) (show Vv 100 (xa) (ya) v1 Wd from hV1) (by omega) (by omega)⟩
    case s10 => refine kr fun _ ac Wd h hd => ?_; obtain ⟨v0, hv0, hV0⟩ := h.dp hd 88; exact ⟨_, run_negi rfl (hv0.trans (show v0 = .int .i64 (vC (xb) (yb) (xa) (ya)) from hV0)) (wrap_id (by omega) (by omega)), rfl⟩
    case s11 =>
      refine kr fun _ ac Wd h hd => ?_
      obtain ⟨v0, hv0, hV0⟩ := h.dp hd 85
      have hV0' : v0 = .int .i64 (vC (xa) (ya) (xb) (yb)) := hV0
      obtain ⟨v1, hv1, hV1⟩ := h.dp hd 89
      have hV1' : v1 = .int .i64 (-(vC (xb) (yb) (xa) (ya))) := hV1
      exact ⟨_, run_neqi rfl (hv0.trans hV0') (hv1.trans hV1'), congrArg Value.bool (bne_eq_false_iff_eq.2 (by omega))⟩
    case s15 => refine kr fun _ ac Wd h hd => ?_; obtain ⟨v0, hv0, hV0⟩ := h.dp hd 93; have hV0' : v0 = .int .i64 (vC (xa) (ya) (xb) (yb)) := hV0; exact ⟨_, run_eqi rfl (hv0.trans hV0') rfl, congrArg Value.bool (rfl)⟩
    case s18 =>
      refine kc fun _ ac Wd h hd => ?_
      obtain ⟨v0, hv0, hV0⟩ := h.dp hd 95
      obtain ⟨v1, hv1, hV1⟩ := h.dp hd 96
      exact ⟨#[v0, v1], by simp [hv0, hv1], cVSame (show Vv 100 (xa) (ya) v0 Wd from hV0) (show Vv 100 (xb) (yb) v1 Wd from hV1) (by omega) (by omega)⟩
    case s19 =>
      refine kr fun _ ac Wd h hd => ?_
      obtain ⟨v0, hv0, hV0⟩ := h.dp hd 94
      obtain ⟨v1, hv1, hV1⟩ := h.dp hd 97
      exact ⟨_, run_neqb rfl (hv0.trans hV0) (hv1.trans hV1), congrArg Value.bool (bne_eq_false_iff_eq.2 (decide_eq_decide.2 (vC_0 _ _ _ _)))⟩
    case s24 =>
      refine kc fun _ ac Wd h hd => ?_
      obtain ⟨v0, hv0, hV0⟩ := h.dp hd 101
      obtain ⟨v1, hv1, hV1⟩ := h.dp hd 102
      exact ⟨#[v0, v1], by simp [hv0, hv1], cVSame (show Vv 100 (xa) (ya) v0 Wd from hV0) (show Vv 100 (xd) (yd) v1 Wd from hV1) (by omega) (by omega)⟩
    case s27 =>
      refine kc fun _ ac Wd h hd => ?_
      obtain ⟨v0, hv0, hV0⟩ := h.dp hd 104
      obtain ⟨v1, hv1, hV1⟩ := h.dp hd 105
      exact ⟨#[v0, v1], by simp [hv0, hv1], cR5Same (show Vv 100 (xa) (ya) v0 Wd from hV0) (show Vv 100 (xd) (yd) v1 Wd from hV1) (by omega) (by omega)⟩
    case s28 =>
      refine kr fun _ ac Wd h hd => ?_
      obtain ⟨v0, hv0, hV0⟩ := h.dp hd 103
      obtain ⟨v1, hv1, hV1⟩ := h.dp hd 106
      exact ⟨_, run_neqb rfl (hv0.trans hV0) (hv1.trans hV1), congrArg Value.bool (bne_self_eq_false _)⟩
    intro a10 w10 st10
    clear st9
    repeat first | refine wp_seq ?_ | refine wp_block ?_ | refine wp_skip ?_ | refine wp_exit ?_
    obtain ⟨vc, hc1, hc2⟩ := st10.slot (108, Vb (false)) (.tail _ (.tail _ (.tail _ (.tail _ (.head _)))))
    refine wp_cond_false (hc1.trans hc2) ?_
    clear hc1 hc2
    by_cases hg1 : 0 < vC (xa) (ya) (xb) (yb)
    ·
      by_cases hl1 : vC (xa) (ya) (xb) (yb) < 0
      ·
        repeat first | refine wp_seq ?_ | refine wp_block ?_ | refine wp_skip ?_ | refine wp_exit ?_
        refine rg (BT := [(28, 8, 0), (26, 4, 0)]) (Vl := [Vi (vC (xa) (ya) (xb) (yb)), Vb (true), Vb (true), VT, VT, Vb (true), Vb (true), VT, VT, VT, VT, Vb (true), Vb (true), Vi (vC (xa) (ya) (xb) (yb)), Vb (true), Vb (true), VT, VT, Vb (true), Vb (true), VT, VT, VT, VT, Vb (true), Vb (true), Vb (true), Vb (true), Vb (true), Vb (true)]) (B := [⟨5, none, none, 28, 8, Vv 100 (xa) (ya), VT⟩, ⟨6, none, none, 28, 8, Vv 100 (xb) (yb), VT⟩, ⟨7, none, none, 28, 8, Vv 100 (xd) (yd), VT⟩]) (SL' := [(72, Vb (false)), (9, Vi (vC (xa) (ya) (xb) (yb))), (108, Vb (false)), (4, Vb (true))]) st10 ⟨ks, ?s1, ks, ks, ks, ks, ks, ks, ks, ks, ks, ks, ks, ks, ?s14, ks, ks, ks, ks, ks, ks, ks, ks, ks, ks, ks, ks, ?s27, ks, ks, trivial⟩ ?_
        case s1 =>
          refine kr fun _ ac Wd h hd => ?_
          obtain ⟨v0, hv0, hV0⟩ := h.dp hd 109
          have hV0' : v0 = .int .i64 (vC (xa) (ya) (xb) (yb)) := hV0
          exact ⟨_, run_gtri rfl (hv0.trans hV0') rfl, congrArg Value.bool (decide_eq_true hg1)⟩
        case s14 =>
          refine kr fun _ ac Wd h hd => ?_
          obtain ⟨v0, hv0, hV0⟩ := h.dp hd 122
          have hV0' : v0 = .int .i64 (vC (xa) (ya) (xb) (yb)) := hV0
          exact ⟨_, run_lssi rfl (hv0.trans hV0') rfl, congrArg Value.bool (decide_eq_true hl1)⟩
        case s27 => refine kc fun _ ac Wd h hd => ?_; exact ⟨#[], by simp [], cPLives⟩
        intro a11 w11 st11
        clear st10
        repeat first | refine wp_seq ?_ | refine wp_block ?_ | refine wp_skip ?_ | refine wp_exit ?_
        obtain ⟨vr, r1, r4⟩ := st11.slot (4, Vb (true)) (.tail _ (.tail _ (.tail _ (.head _))))
        exact wp_ret (bodyPost_ret (results_tmp rfl _ _ _) st11.defers ⟨_, congrArg Ending.returned (show _ = vr from r1), r4, st11.k.below⟩)
      ·
        by_cases hl2 : vC (xb) (yb) (xd) (yd) < 0
        ·
          repeat first | refine wp_seq ?_ | refine wp_block ?_ | refine wp_skip ?_ | refine wp_exit ?_
          refine rg (BT := [(28, 8, 0), (26, 4, 0)]) (Vl := [Vi (vC (xa) (ya) (xb) (yb)), Vb (true), Vb (true), VT, VT, Vb (true), Vb (true), VT, VT, VT, VT, Vb (true), Vb (true), Vi (vC (xa) (ya) (xb) (yb)), Vb (false), Vb (false), Vi (vC (xb) (yb) (xd) (yd)), Vb (true), Vb (true), Vb (true), VT, VT, VT, VT, Vb (true), Vb (true), Vb (true), Vb (true), Vb (true), Vb (true)]) (B := [⟨5, none, none, 28, 8, Vv 100 (xa) (ya), VT⟩, ⟨6, none, none, 28, 8, Vv 100 (xb) (yb), VT⟩, ⟨7, none, none, 28, 8, Vv 100 (xd) (yd), VT⟩]) (SL' := [(72, Vb (false)), (9, Vi (vC (xa) (ya) (xb) (yb))), (108, Vb (false)), (4, Vb (true))]) st10 ⟨ks, ?s1, ks, ks, ks, ks, ks, ks, ks, ks, ks, ks, ks, ks, ?s14, ks, ks, ?s17, ks, ks, ks, ks, ks, ks, ks, ks, ks, ?s27, ks, ks, trivial⟩ ?_
          case s1 =>
            refine kr fun _ ac Wd h hd => ?_
            obtain ⟨v0, hv0, hV0⟩ := h.dp hd 109
            have hV0' : v0 = .int .i64 (vC (xa) (ya) (xb) (yb)) := hV0
            exact ⟨_, run_gtri rfl (hv0.trans hV0') rfl, congrArg Value.bool (decide_eq_true hg1)⟩
          case s14 =>
            refine kr fun _ ac Wd h hd => ?_
            obtain ⟨v0, hv0, hV0⟩ := h.dp hd 122
            have hV0' : v0 = .int .i64 (vC (xa) (ya) (xb) (yb)) := hV0
            exact ⟨_, run_lssi rfl (hv0.trans hV0') rfl, congrArg Value.bool (decide_eq_false (by omega))⟩
          case s17 =>
            refine kr fun _ ac Wd h hd => ?_
            obtain ⟨v0, hv0, hV0⟩ := h.dp hd 125
            have hV0' : v0 = .int .i64 (vC (xb) (yb) (xd) (yd)) := hV0
            exact ⟨_, run_lssi rfl (hv0.trans hV0') rfl, congrArg Value.bool (decide_eq_true hl2)⟩
          case s27 => refine kc fun _ ac Wd h hd => ?_; exact ⟨#[], by simp [], cPLives⟩
          intro a11 w11 st11
          clear st10
          repeat first | refine wp_seq ?_ | refine wp_block ?_ | refine wp_skip ?_ | refine wp_exit ?_
          obtain ⟨vr, r1, r4⟩ := st11.slot (4, Vb (true)) (.tail _ (.tail _ (.tail _ (.head _))))
          exact wp_ret (bodyPost_ret (results_tmp rfl _ _ _) st11.defers ⟨_, congrArg Ending.returned (show _ = vr from r1), r4, st11.k.below⟩)
        ·
          have hk2 : 0 ≤ vC (xa) (ya) (xd) (yd) := by have h1 := vC_neg (xa) (ya) (xd) (yd); have h2 := vC_neg (xb) (yb) (xd) (yd); have h3 := vC_trans (a := xd) (b := yd) (c := xb) (d := yb) (e := xa) (f := ya) (by omega) (by omega); omega
          repeat first | refine wp_seq ?_ | refine wp_block ?_ | refine wp_skip ?_ | refine wp_exit ?_
          refine rg (BT := [(28, 8, 0), (26, 4, 0)]) (Vl := [Vi (vC (xa) (ya) (xb) (yb)), Vb (true), Vb (true), VT, VT, Vb (true), Vb (true), VT, VT, VT, VT, Vb (true), Vb (true), Vi (vC (xa) (ya) (xb) (yb)), Vb (false), Vb (false), Vi (vC (xb) (yb) (xd) (yd)), Vb (false), Vb (false), Vb (false), Vv 100 (xa) (ya), Vv 100 (xd) (yd), Vi (vC (xa) (ya) (xd) (yd)), Vb (true), Vb (true), Vb (true), Vb (true), Vb (true), Vb (true), Vb (true)]) (B := [⟨5, none, none, 28, 8, Vv 100 (xa) (ya), VT⟩, ⟨6, none, none, 28, 8, Vv 100 (xb) (yb), VT⟩, ⟨7, none, none, 28, 8, Vv 100 (xd) (yd), VT⟩]) (SL' := [(72, Vb (false)), (9, Vi (vC (xa) (ya) (xb) (yb))), (108, Vb (false)), (4, Vb (true))]) st10 ⟨ks, ?s1, ks, ks, ks, ks, ks, ks, ks, ks, ks, ks, ks, ks, ?s14, ks, ks, ?s17, ks, ks, ks, ks, ?s22, ?s23, ks, ks, ks, ?s27, ks, ks, trivial⟩ ?_
          case s1 =>
            refine kr fun _ ac Wd h hd => ?_
            obtain ⟨v0, hv0, hV0⟩ := h.dp hd 109
            have hV0' : v0 = .int .i64 (vC (xa) (ya) (xb) (yb)) := hV0
            exact ⟨_, run_gtri rfl (hv0.trans hV0') rfl, congrArg Value.bool (decide_eq_true hg1)⟩
          case s14 =>
            refine kr fun _ ac Wd h hd => ?_
            obtain ⟨v0, hv0, hV0⟩ := h.dp hd 122
            have hV0' : v0 = .int .i64 (vC (xa) (ya) (xb) (yb)) := hV0
            exact ⟨_, run_lssi rfl (hv0.trans hV0') rfl, congrArg Value.bool (decide_eq_false (by omega))⟩
          case s17 =>
            refine kr fun _ ac Wd h hd => ?_
            obtain ⟨v0, hv0, hV0⟩ := h.dp hd 125
            have hV0' : v0 = .int .i64 (vC (xb) (yb) (xd) (yd)) := hV0
            exact ⟨_, run_lssi rfl (hv0.trans hV0') rfl, congrArg Value.bool (decide_eq_false (by omega))⟩
          case s22 =>
            refine kc fun _ ac Wd h hd => ?_
            obtain ⟨v0, hv0, hV0⟩ := h.dp hd 129
            obtain ⟨v1, hv1, hV1⟩ := h.dp hd 130
            exact ⟨#[v0, v1], by simp [hv0, hv1], cVCompare (show Vv 100 (xa) (ya) v0 Wd from hV0) (show Vv 100 (xd) (yd) v1 Wd from hV1) (by omega) (by omega)⟩
          case s23 =>
            refine kr fun _ ac Wd h hd => ?_
            obtain ⟨v0, hv0, hV0⟩ := h.dp hd 131
            have hV0' : v0 = .int .i64 (vC (xa) (ya) (xd) (yd)) := hV0
            exact ⟨_, run_geqi rfl (hv0.trans hV0') rfl, congrArg Value.bool (decide_eq_true hk2)⟩
          case s27 => refine kc fun _ ac Wd h hd => ?_; exact ⟨#[], by simp [], cPLives⟩
          intro a11 w11 st11
          clear st10
          repeat first | refine wp_seq ?_ | refine wp_block ?_ | refine wp_skip ?_ | refine wp_exit ?_
          obtain ⟨vr, r1, r4⟩ := st11.slot (4, Vb (true)) (.tail _ (.tail _ (.tail _ (.head _))))
          exact wp_ret (bodyPost_ret (results_tmp rfl _ _ _) st11.defers ⟨_, congrArg Ending.returned (show _ = vr from r1), r4, st11.k.below⟩)
    ·
      by_cases hg2 : 0 < vC (xb) (yb) (xd) (yd)
      ·
        by_cases hl1 : vC (xa) (ya) (xb) (yb) < 0
        ·
          repeat first | refine wp_seq ?_ | refine wp_block ?_ | refine wp_skip ?_ | refine wp_exit ?_
          refine rg (BT := [(28, 8, 0), (26, 4, 0)]) (Vl := [Vi (vC (xa) (ya) (xb) (yb)), Vb (false), Vb (false), Vi (vC (xb) (yb) (xd) (yd)), Vb (true), Vb (true), Vb (true), VT, VT, VT, VT, Vb (true), Vb (true), Vi (vC (xa) (ya) (xb) (yb)), Vb (true), Vb (true), VT, VT, Vb (true), Vb (true), VT, VT, VT, VT, Vb (true), Vb (true), Vb (true), Vb (true), Vb (true), Vb (true)]) (B := [⟨5, none, none, 28, 8, Vv 100 (xa) (ya), VT⟩, ⟨6, none, none, 28, 8, Vv 100 (xb) (yb), VT⟩, ⟨7, none, none, 28, 8, Vv 100 (xd) (yd), VT⟩]) (SL' := [(72, Vb (false)), (9, Vi (vC (xa) (ya) (xb) (yb))), (108, Vb (false)), (4, Vb (true))]) st10 ⟨ks, ?s1, ks, ks, ?s4, ks, ks, ks, ks, ks, ks, ks, ks, ks, ?s14, ks, ks, ks, ks, ks, ks, ks, ks, ks, ks, ks, ks, ?s27, ks, ks, trivial⟩ ?_
          case s1 =>
            refine kr fun _ ac Wd h hd => ?_
            obtain ⟨v0, hv0, hV0⟩ := h.dp hd 109
            have hV0' : v0 = .int .i64 (vC (xa) (ya) (xb) (yb)) := hV0
            exact ⟨_, run_gtri rfl (hv0.trans hV0') rfl, congrArg Value.bool (decide_eq_false (by omega))⟩
          case s4 =>
            refine kr fun _ ac Wd h hd => ?_
            obtain ⟨v0, hv0, hV0⟩ := h.dp hd 112
            have hV0' : v0 = .int .i64 (vC (xb) (yb) (xd) (yd)) := hV0
            exact ⟨_, run_gtri rfl (hv0.trans hV0') rfl, congrArg Value.bool (decide_eq_true hg2)⟩
          case s14 =>
            refine kr fun _ ac Wd h hd => ?_
            obtain ⟨v0, hv0, hV0⟩ := h.dp hd 122
            have hV0' : v0 = .int .i64 (vC (xa) (ya) (xb) (yb)) := hV0
            exact ⟨_, run_lssi rfl (hv0.trans hV0') rfl, congrArg Value.bool (decide_eq_true hl1)⟩
          case s27 => refine kc fun _ ac Wd h hd => ?_; exact ⟨#[], by simp [], cPLives⟩
          intro a11 w11 st11
          clear st10
          repeat first | refine wp_seq ?_ | refine wp_block ?_ | refine wp_skip ?_ | refine wp_exit ?_
          obtain ⟨vr, r1, r4⟩ := st11.slot (4, Vb (true)) (.tail _ (.tail _ (.tail _ (.head _))))
          exact wp_ret (bodyPost_ret (results_tmp rfl _ _ _) st11.defers ⟨_, congrArg Ending.returned (show _ = vr from r1), r4, st11.k.below⟩)
        ·
          by_cases hl2 : vC (xb) (yb) (xd) (yd) < 0
          ·
            repeat first | refine wp_seq ?_ | refine wp_block ?_ | refine wp_skip ?_ | refine wp_exit ?_
            refine rg (BT := [(28, 8, 0), (26, 4, 0)]) (Vl := [Vi (vC (xa) (ya) (xb) (yb)), Vb (false), Vb (false), Vi (vC (xb) (yb) (xd) (yd)), Vb (true), Vb (true), Vb (true), VT, VT, VT, VT, Vb (true), Vb (true), Vi (vC (xa) (ya) (xb) (yb)), Vb (false), Vb (false), Vi (vC (xb) (yb) (xd) (yd)), Vb (true), Vb (true), Vb (true), VT, VT, VT, VT, Vb (true), Vb (true), Vb (true), Vb (true), Vb (true), Vb (true)]) (B := [⟨5, none, none, 28, 8, Vv 100 (xa) (ya), VT⟩, ⟨6, none, none, 28, 8, Vv 100 (xb) (yb), VT⟩, ⟨7, none, none, 28, 8, Vv 100 (xd) (yd), VT⟩]) (SL' := [(72, Vb (false)), (9, Vi (vC (xa) (ya) (xb) (yb))), (108, Vb (false)), (4, Vb (true))]) st10 ⟨ks, ?s1, ks, ks, ?s4, ks, ks, ks, ks, ks, ks, ks, ks, ks, ?s14, ks, ks, ?s17, ks, ks, ks, ks, ks, ks, ks, ks, ks, ?s27, ks, ks, trivial⟩ ?_
            case s1 =>
              refine kr fun _ ac Wd h hd => ?_
              obtain ⟨v0, hv0, hV0⟩ := h.dp hd 109
              have hV0' : v0 = .int .i64 (vC (xa) (ya) (xb) (yb)) := hV0
              exact ⟨_, run_gtri rfl (hv0.trans hV0') rfl, congrArg Value.bool (decide_eq_false (by omega))⟩
            case s4 =>
              refine kr fun _ ac Wd h hd => ?_
              obtain ⟨v0, hv0, hV0⟩ := h.dp hd 112
              have hV0' : v0 = .int .i64 (vC (xb) (yb) (xd) (yd)) := hV0
              exact ⟨_, run_gtri rfl (hv0.trans hV0') rfl, congrArg Value.bool (decide_eq_true hg2)⟩
            case s14 =>
              refine kr fun _ ac Wd h hd => ?_
              obtain ⟨v0, hv0, hV0⟩ := h.dp hd 122
              have hV0' : v0 = .int .i64 (vC (xa) (ya) (xb) (yb)) := hV0
              exact ⟨_, run_lssi rfl (hv0.trans hV0') rfl, congrArg Value.bool (decide_eq_false (by omega))⟩
            case s17 =>
              refine kr fun _ ac Wd h hd => ?_
              obtain ⟨v0, hv0, hV0⟩ := h.dp hd 125
              have hV0' : v0 = .int .i64 (vC (xb) (yb) (xd) (yd)) := hV0
              exact ⟨_, run_lssi rfl (hv0.trans hV0') rfl, congrArg Value.bool (decide_eq_true hl2)⟩
            case s27 => refine kc fun _ ac Wd h hd => ?_; exact ⟨#[], by simp [], cPLives⟩
            intro a11 w11 st11
            clear st10
            repeat first | refine wp_seq ?_ | refine wp_block ?_ | refine wp_skip ?_ | refine wp_exit ?_
            obtain ⟨vr, r1, r4⟩ := st11.slot (4, Vb (true)) (.tail _ (.tail _ (.tail _ (.head _))))
            exact wp_ret (bodyPost_ret (results_tmp rfl _ _ _) st11.defers ⟨_, congrArg Ending.returned (show _ = vr from r1), r4, st11.k.below⟩)
          ·
            have hk2 : 0 ≤ vC (xa) (ya) (xd) (yd) := by have h1 := vC_neg (xa) (ya) (xd) (yd); have h2 := vC_neg (xb) (yb) (xd) (yd); have h3 := vC_trans (a := xd) (b := yd) (c := xb) (d := yb) (e := xa) (f := ya) (by omega) (by omega); omega
            repeat first | refine wp_seq ?_ | refine wp_block ?_ | refine wp_skip ?_ | refine wp_exit ?_
            refine rg (BT := [(28, 8, 0), (26, 4, 0)]) (Vl := [Vi (vC (xa) (ya) (xb) (yb)), Vb (false), Vb (false), Vi (vC (xb) (yb) (xd) (yd)), Vb (true), Vb (true), Vb (true), VT, VT, VT, VT, Vb (true), Vb (true), Vi (vC (xa) (ya) (xb) (yb)), Vb (false), Vb (false), Vi (vC (xb) (yb) (xd) (yd)), Vb (false), Vb (false), Vb (false), Vv 100 (xa) (ya), Vv 100 (xd) (yd), Vi (vC (xa) (ya) (xd) (yd)), Vb (true), Vb (true), Vb (true), Vb (true), Vb (true), Vb (true), Vb (true)]) (B := [⟨5, none, none, 28, 8, Vv 100 (xa) (ya), VT⟩, ⟨6, none, none, 28, 8, Vv 100 (xb) (yb), VT⟩, ⟨7, none, none, 28, 8, Vv 100 (xd) (yd), VT⟩]) (SL' := [(72, Vb (false)), (9, Vi (vC (xa) (ya) (xb) (yb))), (108, Vb (false)), (4, Vb (true))]) st10 ⟨ks, ?s1, ks, ks, ?s4, ks, ks, ks, ks, ks, ks, ks, ks, ks, ?s14, ks, ks, ?s17, ks, ks, ks, ks, ?s22, ?s23, ks, ks, ks, ?s27, ks, ks, trivial⟩ ?_
            case s1 =>
              refine kr fun _ ac Wd h hd => ?_
              obtain ⟨v0, hv0, hV0⟩ := h.dp hd 109
              have hV0' : v0 = .int .i64 (vC (xa) (ya) (xb) (yb)) := hV0
              exact ⟨_, run_gtri rfl (hv0.trans hV0') rfl, congrArg Value.bool (decide_eq_false (by omega))⟩
            case s4 =>
              refine kr fun _ ac Wd h hd => ?_
              obtain ⟨v0, hv0, hV0⟩ := h.dp hd 112
              have hV0' : v0 = .int .i64 (vC (xb) (yb) (xd) (yd)) := hV0
              exact ⟨_, run_gtri rfl (hv0.trans hV0') rfl, congrArg Value.bool (decide_eq_true hg2)⟩
            case s14 =>
              refine kr fun _ ac Wd h hd => ?_
              obtain ⟨v0, hv0, hV0⟩ := h.dp hd 122
              have hV0' : v0 = .int .i64 (vC (xa) (ya) (xb) (yb)) := hV0
              exact ⟨_, run_lssi rfl (hv0.trans hV0') rfl, congrArg Value.bool (decide_eq_false (by omega))⟩
            case s17 =>
              refine kr fun _ ac Wd h hd => ?_
              obtain ⟨v0, hv0, hV0⟩ := h.dp hd 125
              have hV0' : v0 = .int .i64 (vC (xb) (yb) (xd) (yd)) := hV0
              exact ⟨_, run_lssi rfl (hv0.trans hV0') rfl, congrArg Value.bool (decide_eq_false (by omega))⟩
            case s22 =>
              refine kc fun _ ac Wd h hd => ?_
              obtain ⟨v0, hv0, hV0⟩ := h.dp hd 129
              obtain ⟨v1, hv1, hV1⟩ := h.dp hd 130
              exact ⟨#[v0, v1], by simp [hv0, hv1], cVCompare (show Vv 100 (xa) (ya) v0 Wd from hV0) (show Vv 100 (xd) (yd) v1 Wd from hV1) (by omega) (by omega)⟩
            case s23 =>
              refine kr fun _ ac Wd h hd => ?_
              obtain ⟨v0, hv0, hV0⟩ := h.dp hd 131
              have hV0' : v0 = .int .i64 (vC (xa) (ya) (xd) (yd)) := hV0
              exact ⟨_, run_geqi rfl (hv0.trans hV0') rfl, congrArg Value.bool (decide_eq_true hk2)⟩
            case s27 => refine kc fun _ ac Wd h hd => ?_; exact ⟨#[], by simp [], cPLives⟩
            intro a11 w11 st11
            clear st10
            repeat first | refine wp_seq ?_ | refine wp_block ?_ | refine wp_skip ?_ | refine wp_exit ?_
            obtain ⟨vr, r1, r4⟩ := st11.slot (4, Vb (true)) (.tail _ (.tail _ (.tail _ (.head _))))
            exact wp_ret (bodyPost_ret (results_tmp rfl _ _ _) st11.defers ⟨_, congrArg Ending.returned (show _ = vr from r1), r4, st11.k.below⟩)
      ·
        have hk1 : vC (xa) (ya) (xd) (yd) ≤ 0 := vC_trans (a := xa) (b := ya) (c := xb) (d := yb) (e := xd) (f := yd) (by omega) (by omega)
        by_cases hl1 : vC (xa) (ya) (xb) (yb) < 0
        ·
          repeat first | refine wp_seq ?_ | refine wp_block ?_ | refine wp_skip ?_ | refine wp_exit ?_
          refine rg (BT := [(28, 8, 0), (26, 4, 0)]) (Vl := [Vi (vC (xa) (ya) (xb) (yb)), Vb (false), Vb (false), Vi (vC (xb) (yb) (xd) (yd)), Vb (false), Vb (false), Vb (false), Vv 100 (xa) (ya), Vv 100 (xd) (yd), Vi (vC (xa) (ya) (xd) (yd)), Vb (true), Vb (true), Vb (true), Vi (vC (xa) (ya) (xb) (yb)), Vb (true), Vb (true), VT, VT, Vb (true), Vb (true), VT, VT, VT, VT, Vb (true), Vb (true), Vb (true), Vb (true), Vb (true), Vb (true)]) (B := [⟨5, none, none, 28, 8, Vv 100 (xa) (ya), VT⟩, ⟨6, none, none, 28, 8, Vv 100 (xb) (yb), VT⟩, ⟨7, none, none, 28, 8, Vv 100 (xd) (yd), VT⟩]) (SL' := [(72, Vb (false)), (9, Vi (vC (xa) (ya) (xb) (yb))), (108, Vb (false)), (4, Vb (true))]) st10 ⟨ks, ?s1, ks, ks, ?s4, ks, ks, ks, ks, ?s9, ?s10, ks, ks, ks, ?s14, ks, ks, ks, ks, ks, ks, ks, ks, ks, ks, ks, ks, ?s27, ks, ks, trivial⟩ ?_
          case s1 =>
            refine kr fun _ ac Wd h hd => ?_
            obtain ⟨v0, hv0, hV0⟩ := h.dp hd 109
            have hV0' : v0 = .int .i64 (vC (xa) (ya) (xb) (yb)) := hV0
            exact ⟨_, run_gtri rfl (hv0.trans hV0') rfl, congrArg Value.bool (decide_eq_false (by omega))⟩
          case s4 =>
            refine kr fun _ ac Wd h hd => ?_
            obtain ⟨v0, hv0, hV0⟩ := h.dp hd 112
            have hV0' : v0 = .int .i64 (vC (xb) (yb) (xd) (yd)) := hV0
            exact ⟨_, run_gtri rfl (hv0.trans hV0') rfl, congrArg Value.bool (decide_eq_false (by omega))⟩
          case s9 =>
            refine kc fun _ ac Wd h hd => ?_
            obtain ⟨v0, hv0, hV0⟩ := h.dp hd 116
            obtain ⟨v1, hv1, hV1⟩ := h.dp hd 117
            exact ⟨#[v0, v1], by simp [hv0, hv1], cVCompare (show Vv 100 (xa) (ya) v0 Wd from hV0) (show Vv 100 (xd) (yd) v1 Wd from hV1) (by omega) (by omega)⟩
          case s10 =>
            refine kr fun _ ac Wd h hd => ?_
            obtain ⟨v0, hv0, hV0⟩ := h.dp hd 118
            have hV0' : v0 = .int .i64 (vC (xa) (ya) (xd) (yd)) := hV0
            exact ⟨_, run_leqi rfl (hv0.trans hV0') rfl, congrArg Value.bool (decide_eq_true hk1)⟩
          case s14 =>
            refine kr fun _ ac Wd h hd => ?_
            obtain ⟨v0, hv0, hV0⟩ := h.dp hd 122
            have hV0' : v0 = .int .i64 (vC (xa) (ya) (xb) (yb)) := hV0
            exact ⟨_, run_lssi rfl (hv0.trans hV0') rfl, congrArg Value.bool (decide_eq_true hl1)⟩
          case s27 => refine kc fun _ ac Wd h hd => ?_; exact ⟨#[], by simp [], cPLives⟩
          intro a11 w11 st11
          clear st10
          repeat first | refine wp_seq ?_ | refine wp_block ?_ | refine wp_skip ?_ | refine wp_exit ?_
          obtain ⟨vr, r1, r4⟩ := st11.slot (4, Vb (true)) (.tail _ (.tail _ (.tail _ (.head _))))
          exact wp_ret (bodyPost_ret (results_tmp rfl _ _ _) st11.defers ⟨_, congrArg Ending.returned (show _ = vr from r1), r4, st11.k.below⟩)
        ·
          by_cases hl2 : vC (xb) (yb) (xd) (yd) < 0
          ·
            repeat first | refine wp_seq ?_ | refine wp_block ?_ | refine wp_skip ?_ | refine wp_exit ?_
            refine rg (BT := [(28, 8, 0), (26, 4, 0)]) (Vl := [Vi (vC (xa) (ya) (xb) (yb)), Vb (false), Vb (false), Vi (vC (xb) (yb) (xd) (yd)), Vb (false), Vb (false), Vb (false), Vv 100 (xa) (ya), Vv 100 (xd) (yd), Vi (vC (xa) (ya) (xd) (yd)), Vb (true), Vb (true), Vb (true), Vi (vC (xa) (ya) (xb) (yb)), Vb (false), Vb (false), Vi (vC (xb) (yb) (xd) (yd)), Vb (true), Vb (true), Vb (true), VT, VT, VT, VT, Vb (true), Vb (true), Vb (true), Vb (true), Vb (true), Vb (true)]) (B := [⟨5, none, none, 28, 8, Vv 100 (xa) (ya), VT⟩, ⟨6, none, none, 28, 8, Vv 100 (xb) (yb), VT⟩, ⟨7, none, none, 28, 8, Vv 100 (xd) (yd), VT⟩]) (SL' := [(72, Vb (false)), (9, Vi (vC (xa) (ya) (xb) (yb))), (108, Vb (false)), (4, Vb (true))]) st10 ⟨ks, ?s1, ks, ks, ?s4, ks, ks, ks, ks, ?s9, ?s10, ks, ks, ks, ?s14, ks, ks, ?s17, ks, ks, ks, ks, ks, ks, ks, ks, ks, ?s27, ks, ks, trivial⟩ ?_
            case s1 =>
              refine kr fun _ ac Wd h hd => ?_
              obtain ⟨v0, hv0, hV0⟩ := h.dp hd 109
              have hV0' : v0 = .int .i64 (vC (xa) (ya) (xb) (yb)) := hV0
              exact ⟨_, run_gtri rfl (hv0.trans hV0') rfl, congrArg Value.bool (decide_eq_false (by omega))⟩
            case s4 =>
              refine kr fun _ ac Wd h hd => ?_
              obtain ⟨v0, hv0, hV0⟩ := h.dp hd 112
              have hV0' : v0 = .int .i64 (vC (xb) (yb) (xd) (yd)) := hV0
              exact ⟨_, run_gtri rfl (hv0.trans hV0') rfl, congrArg Value.bool (decide_eq_false (by omega))⟩
            case s9 =>
              refine kc fun _ ac Wd h hd => ?_
              obtain ⟨v0, hv0, hV0⟩ := h.dp hd 116
              obtain ⟨v1, hv1, hV1⟩ := h.dp hd 117
              exact ⟨#[v0, v1], by simp [hv0, hv1], cVCompare (show Vv 100 (xa) (ya) v0 Wd from hV0) (show Vv 100 (xd) (yd) v1 Wd from hV1) (by omega) (by omega)⟩
            case s10 =>
              refine kr fun _ ac Wd h hd => ?_
              obtain ⟨v0, hv0, hV0⟩ := h.dp hd 118
              have hV0' : v0 = .int .i64 (vC (xa) (ya) (xd) (yd)) := hV0
              exact ⟨_, run_leqi rfl (hv0.trans hV0') rfl, congrArg Value.bool (decide_eq_true hk1)⟩
            case s14 =>
              refine kr fun _ ac Wd h hd => ?_
              obtain ⟨v0, hv0, hV0⟩ := h.dp hd 122
              have hV0' : v0 = .int .i64 (vC (xa) (ya) (xb) (yb)) := hV0
              exact ⟨_, run_lssi rfl (hv0.trans hV0') rfl, congrArg Value.bool (decide_eq_false (by omega))⟩
            case s17 =>
              refine kr fun _ ac Wd h hd => ?_
              obtain ⟨v0, hv0, hV0⟩ := h.dp hd 125
              have hV0' : v0 = .int .i64 (vC (xb) (yb) (xd) (yd)) := hV0
              exact ⟨_, run_lssi rfl (hv0.trans hV0') rfl, congrArg Value.bool (decide_eq_true hl2)⟩
            case s27 => refine kc fun _ ac Wd h hd => ?_; exact ⟨#[], by simp [], cPLives⟩
            intro a11 w11 st11
            clear st10
            repeat first | refine wp_seq ?_ | refine wp_block ?_ | refine wp_skip ?_ | refine wp_exit ?_
            obtain ⟨vr, r1, r4⟩ := st11.slot (4, Vb (true)) (.tail _ (.tail _ (.tail _ (.head _))))
            exact wp_ret (bodyPost_ret (results_tmp rfl _ _ _) st11.defers ⟨_, congrArg Ending.returned (show _ = vr from r1), r4, st11.k.below⟩)
          ·
            have hk2 : 0 ≤ vC (xa) (ya) (xd) (yd) := by have h1 := vC_neg (xa) (ya) (xd) (yd); have h2 := vC_neg (xb) (yb) (xd) (yd); have h3 := vC_trans (a := xd) (b := yd) (c := xb) (d := yb) (e := xa) (f := ya) (by omega) (by omega); omega
            repeat first | refine wp_seq ?_ | refine wp_block ?_ | refine wp_skip ?_ | refine wp_exit ?_
            refine rg (BT := [(28, 8, 0), (26, 4, 0)]) (Vl := [Vi (vC (xa) (ya) (xb) (yb)), Vb (false), Vb (false), Vi (vC (xb) (yb) (xd) (yd)), Vb (false), Vb (false), Vb (false), Vv 100 (xa) (ya), Vv 100 (xd) (yd), Vi (vC (xa) (ya) (xd) (yd)), Vb (true), Vb (true), Vb (true), Vi (vC (xa) (ya) (xb) (yb)), Vb (false), Vb (false), Vi (vC (xb) (yb) (xd) (yd)), Vb (false), Vb (false), Vb (false), Vv 100 (xa) (ya), Vv 100 (xd) (yd), Vi (vC (xa) (ya) (xd) (yd)), Vb (true), Vb (true), Vb (true), Vb (true), Vb (true), Vb (true), Vb (true)]) (B := [⟨5, none, none, 28, 8, Vv 100 (xa) (ya), VT⟩, ⟨6, none, none, 28, 8, Vv 100 (xb) (yb), VT⟩, ⟨7, none, none, 28, 8, Vv 100 (xd) (yd), VT⟩]) (SL' := [(72, Vb (false)), (9, Vi (vC (xa) (ya) (xb) (yb))), (108, Vb (false)), (4, Vb (true))]) st10 ⟨ks, ?s1, ks, ks, ?s4, ks, ks, ks, ks, ?s9, ?s10, ks, ks, ks, ?s14, ks, ks, ?s17, ks, ks, ks, ks, ?s22, ?s23, ks, ks, ks, ?s27, ks, ks, trivial⟩ ?_
            case s1 =>
              refine kr fun _ ac Wd h hd => ?_
              obtain ⟨v0, hv0, hV0⟩ := h.dp hd 109
              have hV0' : v0 = .int .i64 (vC (xa) (ya) (xb) (yb)) := hV0
              exact ⟨_, run_gtri rfl (hv0.trans hV0') rfl, congrArg Value.bool (decide_eq_false (by omega))⟩
            case s4 =>
              refine kr fun _ ac Wd h hd => ?_
              obtain ⟨v0, hv0, hV0⟩ := h.dp hd 112
              have hV0' : v0 = .int .i64 (vC (xb) (yb) (xd) (yd)) := hV0
              exact ⟨_, run_gtri rfl (hv0.trans hV0') rfl, congrArg Value.bool (decide_eq_false (by omega))⟩
            case s9 =>
              refine kc fun _ ac Wd h hd => ?_
              obtain ⟨v0, hv0, hV0⟩ := h.dp hd 116
              obtain ⟨v1, hv1, hV1⟩ := h.dp hd 117
              exact ⟨#[v0, v1], by simp [hv0, hv1], cVCompare (show Vv 100 (xa) (ya) v0 Wd from hV0) (show Vv 100 (xd) (yd) v1 Wd from hV1) (by omega) (by omega)⟩
            case s10 =>
              refine kr fun _ ac Wd h hd => ?_
              obtain ⟨v0, hv0, hV0⟩ := h.dp hd 118
              have hV0' : v0 = .int .i64 (vC (xa) (ya) (xd) (yd)) := hV0
              exact ⟨_, run_leqi rfl (hv0.trans hV0') rfl, congrArg Value.bool (decide_eq_true hk1)⟩
            case s14 =>
              refine kr fun _ ac Wd h hd => ?_
              obtain ⟨v0, hv0, hV0⟩ := h.dp hd 122
              have hV0' : v0 = .int .i64 (vC (xa) (ya) (xb) (yb)) := hV0
              exact ⟨_, run_lssi rfl (hv0.trans hV0') rfl, congrArg Value.bool (decide_eq_false (by omega))⟩
            case s17 =>
              refine kr fun _ ac Wd h hd => ?_
              obtain ⟨v0, hv0, hV0⟩ := h.dp hd 125
              have hV0' : v0 = .int .i64 (vC (xb) (yb) (xd) (yd)) := hV0
              exact ⟨_, run_lssi rfl (hv0.trans hV0') rfl, congrArg Value.bool (decide_eq_false (by omega))⟩
            case s22 =>
              refine kc fun _ ac Wd h hd => ?_
              obtain ⟨v0, hv0, hV0⟩ := h.dp hd 129
              obtain ⟨v1, hv1, hV1⟩ := h.dp hd 130
              exact ⟨#[v0, v1], by simp [hv0, hv1], cVCompare (show Vv 100 (xa) (ya) v0 Wd from hV0) (show Vv 100 (xd) (yd) v1 Wd from hV1) (by omega) (by omega)⟩
            case s23 =>
              refine kr fun _ ac Wd h hd => ?_
              obtain ⟨v0, hv0, hV0⟩ := h.dp hd 131
              have hV0' : v0 = .int .i64 (vC (xa) (ya) (xd) (yd)) := hV0
              exact ⟨_, run_geqi rfl (hv0.trans hV0') rfl, congrArg Value.bool (decide_eq_true hk2)⟩
            case s27 => refine kc fun _ ac Wd h hd => ?_; exact ⟨#[], by simp [], cPLives⟩
            intro a11 w11 st11
            clear st10
            repeat first | refine wp_seq ?_ | refine wp_block ?_ | refine wp_skip ?_ | refine wp_exit ?_
            obtain ⟨vr, r1, r4⟩ := st11.slot (4, Vb (true)) (.tail _ (.tail _ (.tail _ (.head _))))
            exact wp_ret (bodyPost_ret (results_tmp rfl _ _ _) st11.defers ⟨_, congrArg Ending.returned (show _ = vr from r1), r4, st11.k.below⟩)
  ·
    by_cases hc1 : (arn e 6) = 1
    ·
      repeat first | refine wp_seq ?_ | refine wp_block ?_ | refine wp_skip ?_ | refine wp_exit ?_
      refine rg (BT := [(28, 8, 0), (26, 4, 0)]) (Vl := [Vb (true), Vb (true)]) (B := [⟨5, none, none, 28, 8, Vv 3 (xa) (ya), VT⟩, ⟨6, none, none, 28, 8, Vv 3 (xb) (yb), VT⟩, ⟨7, none, none, 28, 8, Vv 3 (xd) (yd), VT⟩]) (SL' := [(0, VI l), (1, Vi (e)), (4, Vb (false)), (18, Vi (arn (e) 6)), (19, Vb (true))]) st5 ⟨?s0, ks, trivial⟩ ?_
      case s0 => refine kr fun _ ac Wd h hd => ?_; obtain ⟨v0, hv0, hV0⟩ := h.ot 18; have hV0' : v0 = .int .i64 (arn (e) 6) := hV0; exact ⟨_, run_eqi rfl (hv0.trans hV0') rfl, congrArg Value.bool (beq_iff_eq.2 hc1)⟩
      intro a6 w6 st6
      clear st5
      repeat first | refine wp_seq ?_ | refine wp_block ?_ | refine wp_skip ?_ | refine wp_exit ?_
      obtain ⟨vc, hc1, hc2⟩ := st6.slot (19, Vb (true)) (.tail _ (.tail _ (.tail _ (.tail _ (.head _)))))
      refine wp_cond_true (hc1.trans hc2) ?_
      clear hc1 hc2
      repeat first | refine wp_seq ?_ | refine wp_block ?_ | refine wp_skip ?_ | refine wp_exit ?_
      refine rg (BT := [(28, 8, 0), (26, 4, 0)]) (Vl := [Vv 3 (xa) (ya), VT]) (B := [⟨5, none, none, 28, 8, Vv 3 (xa) (ya), VT⟩, ⟨6, none, none, 28, 8, Vv 3 (xb) (yb), VT⟩, ⟨7, none, some 1, 28, 8, Vv 3 (xa) (ya), Vv 3 (xd) (yd)⟩]) (SL' := [(0, VI l), (1, Vi (e)), (4, Vb (false)), (18, Vi (arn (e) 6)), (19, Vb (true))]) st6 ⟨ks, ks, trivial⟩ ?_
      intro a7 w7 st7
      clear st6
      repeat first | refine wp_seq ?_ | refine wp_block ?_ | refine wp_skip ?_ | refine wp_exit ?_
      replace st7 : St w.heap.size w 138 [⟨5, none, none, 28, 8, Vv 3 (xa) (ya), VT⟩, ⟨6, none, none, 28, 8, Vv 3 (xb) (yb), VT⟩, ⟨7, none, none, 28, 8, Vv 3 (xa) (ya), VT⟩] [(4, Vb (false))] a7 w7 := st7.cut
      exact hK _ _ (Met.intro (hJ _ _ ⟨xa, ya, xb, yb, xa, ya, st7.wk [⟨5, none, none, 28, 8, Vv 100 (xa) (ya), VT⟩, ⟨6, none, none, 28, 8, Vv 100 (xb) (yb), VT⟩, ⟨7, none, none, 28, 8, Vv 100 (xa) (ya), VT⟩] (List.forall_mem_cons.2 ⟨⟨_, (.head _), rfl, rfl, rfl, rfl, rfl, rfl, rfl, fun _ _ h => Vv_le h (by omega)⟩, (List.forall_mem_cons.2 ⟨⟨_, (.tail _ (.head _)), rfl, rfl, rfl, rfl, rfl, rfl, rfl, fun _ _ h => Vv_le h (by omega)⟩, (List.forall_mem_cons.2 ⟨⟨_, (.tail _ (.tail _ (.head _))), rfl, rfl, rfl, rfl, rfl, rfl, rfl, fun _ _ h => Vv_le h (by omega)⟩, (fun _ h => absurd h (by simp))⟩)⟩)⟩)⟩))
    ·
      repeat first | refine wp_seq ?_ | refine wp_block ?_ | refine wp_skip ?_ | refine wp_exit ?_
      refine rg (BT := [(28, 8, 0), (26, 4, 0)]) (Vl := [Vb (false), Vb (false)]) (B := [⟨5, none, none, 28, 8, Vv 3 (xa) (ya), VT⟩, ⟨6, none, none, 28, 8, Vv 3 (xb) (yb), VT⟩, ⟨7, none, none, 28, 8, Vv 3 (xd) (yd), VT⟩]) (SL' := [(0, VI l), (1, Vi (e)), (4, Vb (false)), (18, Vi (arn (e) 6)), (19, Vb (false))]) st5 ⟨?s0, ks, trivial⟩ ?_
      case s0 => refine kr fun _ ac Wd h hd => ?_; obtain ⟨v0, hv0, hV0⟩ := h.ot 18; have hV0' : v0 = .int .i64 (arn (e) 6) := hV0; exact ⟨_, run_eqi rfl (hv0.trans hV0') rfl, congrArg Value.bool (by simpa using hc1)⟩
      intro a6 w6 st6
      clear st5
      repeat first | refine wp_seq ?_ | refine wp_block ?_ | refine wp_skip ?_ | refine wp_exit ?_
      obtain ⟨vc, hc1, hc2⟩ := st6.slot (19, Vb (false)) (.tail _ (.tail _ (.tail _ (.tail _ (.head _)))))
      refine wp_cond_false (hc1.trans hc2) ?_
      clear hc1 hc2
      by_cases hc2 : (arn e 6) = 2
      ·
        repeat first | refine wp_seq ?_ | refine wp_block ?_ | refine wp_skip ?_ | refine wp_exit ?_
        refine rg (BT := [(28, 8, 0), (26, 4, 0)]) (Vl := [Vb (true), Vb (true)]) (B := [⟨5, none, none, 28, 8, Vv 3 (xa) (ya), VT⟩, ⟨6, none, none, 28, 8, Vv 3 (xb) (yb), VT⟩, ⟨7, none, none, 28, 8, Vv 3 (xd) (yd), VT⟩]) (SL' := [(0, VI l), (1, Vi (e)), (4, Vb (false)), (18, Vi (arn (e) 6)), (19, Vb (false)), (22, Vb (true))]) st6 ⟨?s0, ks, trivial⟩ ?_
        case s0 => refine kr fun _ ac Wd h hd => ?_; obtain ⟨v0, hv0, hV0⟩ := h.ot 18; have hV0' : v0 = .int .i64 (arn (e) 6) := hV0; exact ⟨_, run_eqi rfl (hv0.trans hV0') rfl, congrArg Value.bool (beq_iff_eq.2 hc2)⟩
        intro a7 w7 st7
        clear st6
        repeat first | refine wp_seq ?_ | refine wp_block ?_ | refine wp_skip ?_ | refine wp_exit ?_
        obtain ⟨vc, hc1, hc2⟩ := st7.slot (22, Vb (true)) (.tail _ (.tail _ (.tail _ (.tail _ (.tail _ (.head _))))))
        refine wp_cond_true (hc1.trans hc2) ?_
        clear hc1 hc2
        repeat first | refine wp_seq ?_ | refine wp_block ?_ | refine wp_skip ?_ | refine wp_exit ?_
        refine rg (BT := [(28, 8, 0), (26, 4, 0)]) (Vl := [Vv 3 (xa) (ya), Vv 3 (xb) (yb), Vv 3 (xa) (ya), Vv (3 + 3 + 1) ((xb) - (xa)) ((yb) - (ya)), Vi (e), Vq 3 (numQ (e)), Vv ((max (3 + 3 + 1) 3) + (max (3 + 3 + 1) 3)) (((xb) - (xa)) * (numQ (e))) (((yb) - (ya)) * (numQ (e))), Vv ((max 3 ((max (3 + 3 + 1) 3) + (max (3 + 3 + 1) 3))) + (max 3 ((max (3 + 3 + 1) 3) + (max (3 + 3 + 1) 3))) + 1) ((xa) + (((xb) - (xa)) * (numQ (e)))) ((ya) + (((yb) - (ya)) * (numQ (e)))), VT]) (B := [⟨5, none, none, 28, 8, Vv 3 (xa) (ya), VT⟩, ⟨6, none, none, 28, 8, Vv 3 (xb) (yb), VT⟩, ⟨7, none, some 8, 28, 8, Vv ((max 3 ((max (3 + 3 + 1) 3) + (max (3 + 3 + 1) 3))) + (max 3 ((max (3 + 3 + 1) 3) + (max (3 + 3 + 1) 3))) + 1) ((xa) + (((xb) - (xa)) * (numQ (e)))) ((ya) + (((yb) - (ya)) * (numQ (e)))), Vv 3 (xd) (yd)⟩]) (SL' := [(0, VI l), (1, Vi (e)), (4, Vb (false)), (18, Vi (arn (e) 6)), (19, Vb (false)), (22, Vb (true))]) st7 ⟨ks, ks, ks, ?s3, ks, ?s5, ?s6, ?s7, ks, trivial⟩ ?_
        case s3 =>
          refine kc fun _ ac Wd h hd => ?_
          obtain ⟨v0, hv0, hV0⟩ := h.dp hd 25
          obtain ⟨v1, hv1, hV1⟩ := h.dp hd 26
          exact ⟨#[v0, v1], by simp [hv0, hv1], cR5Sub (show Vv 3 (xb) (yb) v0 Wd from hV0) (show Vv 3 (xa) (ya) v1 Wd from hV1) (by omega) (by omega)⟩
        case s5 => refine kc fun _ ac Wd h hd => ?_; obtain ⟨v0, hv0, hV0⟩ := h.dp hd 28; exact ⟨#[v0], by simp [hv0], cNum (show Vi (e) v0 Wd from hV0) (by omega) (by omega)⟩
        case s6 =>
          refine kc fun _ ac Wd h hd => ?_
          obtain ⟨v0, hv0, hV0⟩ := h.dp hd 27
          obtain ⟨v1, hv1, hV1⟩ := h.dp hd 29
          exact ⟨#[v0, v1], by simp [hv0, hv1], cR5Scale (Vv_le (M := (max (3 + 3 + 1) 3)) (show Vv (3 + 3 + 1) ((xb) - (xa)) ((yb) - (ya)) v0 Wd from hV0) (by omega)) (Vq_le (M := (max (3 + 3 + 1) 3)) (show Vq 3 (numQ (e)) v1 Wd from hV1) (by omega)) (by omega) (by omega)⟩
        case s7 =>
          refine kc fun _ ac Wd h hd => ?_
          obtain ⟨v0, hv0, hV0⟩ := h.dp hd 24
          obtain ⟨v1, hv1, hV1⟩ := h.dp hd 30
          exact ⟨#[v0, v1], by simp [hv0, hv1], cR5Add (Vv_le (M := (max 3 ((max (3 + 3 + 1) 3) + (max (3 + 3 + 1) 3)))) (show Vv 3 (xa) (ya) v0 Wd from hV0) (by omega)) (Vv_le (M := (max 3 ((max (3 + 3 + 1) 3) + (max (3 + 3 + 1) 3)))) (show Vv ((max (3 + 3 + 1) 3) + (max (3 + 3 + 1) 3)) (((xb) - (xa)) * (numQ (e))) (((yb) - (ya)) * (numQ (e))) v1 Wd from hV1) (by omega)) (by omega) (by omega)⟩
        intro a8 w8 st8
        clear st7
        repeat first | refine wp_seq ?_ | refine wp_block ?_ | refine wp_skip ?_ | refine wp_exit ?_
        replace st8 : St w.heap.size w 138 [⟨5, none, none, 28, 8, Vv 3 (xa) (ya), VT⟩, ⟨6, none, none, 28, 8, Vv 3 (xb) (yb), VT⟩, ⟨7, none, none, 28, 8, Vv ((max 3 ((max (3 + 3 + 1) 3) + (max (3 + 3 + 1) 3))) + (max 3 ((max (3 + 3 + 1) 3) + (max (3 + 3 + 1) 3))) + 1) ((xa) + (((xb) - (xa)) * (numQ (e)))) ((ya) + (((yb) - (ya)) * (numQ (e)))), VT⟩] [(4, Vb (false))] a8 w8 := st8.cut
        exact hK _ _ (Met.intro (hJ _ _ ⟨xa, ya, xb, yb, (xa) + (((xb) - (xa)) * (numQ (e))), (ya) + (((yb) - (ya)) * (numQ (e))), st8.wk [⟨5, none, none, 28, 8, Vv 100 (xa) (ya), VT⟩, ⟨6, none, none, 28, 8, Vv 100 (xb) (yb), VT⟩, ⟨7, none, none, 28, 8, Vv 100 ((xa) + (((xb) - (xa)) * (numQ (e)))) ((ya) + (((yb) - (ya)) * (numQ (e)))), VT⟩] (List.forall_mem_cons.2 ⟨⟨_, (.head _), rfl, rfl, rfl, rfl, rfl, rfl, rfl, fun _ _ h => Vv_le h (by omega)⟩, (List.forall_mem_cons.2 ⟨⟨_, (.tail _ (.head _)), rfl, rfl, rfl, rfl, rfl, rfl, rfl, fun _ _ h => Vv_le h (by omega)⟩, (List.forall_mem_cons.2 ⟨⟨_, (.tail _ (.tail _ (.head _))), rfl, rfl, rfl, rfl, rfl, rfl, rfl, fun _ _ h => Vv_le h (by omega)⟩, (fun _ h => absurd h (by simp))⟩)⟩)⟩)⟩))
      ·
        repeat first | refine wp_seq ?_ | refine wp_block ?_ | refine wp_skip ?_ | refine wp_exit ?_
        refine rg (BT := [(28, 8, 0), (26, 4, 0)]) (Vl := [Vb (false), Vb (false)]) (B := [⟨5, none, none, 28, 8, Vv 3 (xa) (ya), VT⟩, ⟨6, none, none, 28, 8, Vv 3 (xb) (yb), VT⟩, ⟨7, none, none, 28, 8, Vv 3 (xd) (yd), VT⟩]) (SL' := [(0, VI l), (1, Vi (e)), (4, Vb (false)), (18, Vi (arn (e) 6)), (19, Vb (false)), (22, Vb (false))]) st6 ⟨?s0, ks, trivial⟩ ?_
        case s0 => refine kr fun _ ac Wd h hd => ?_; obtain ⟨v0, hv0, hV0⟩ := h.ot 18; have hV0' : v0 = .int .i64 (arn (e) 6) := hV0; exact ⟨_, run_eqi rfl (hv0.trans hV0') rfl, congrArg Value.bool (by simpa using hc2)⟩
        intro a7 w7 st7
        clear st6
        repeat first | refine wp_seq ?_ | refine wp_block ?_ | refine wp_skip ?_ | refine wp_exit ?_
        obtain ⟨vc, hc1, hc2⟩ := st7.slot (22, Vb (false)) (.tail _ (.tail _ (.tail _ (.tail _ (.tail _ (.head _))))))
        refine wp_cond_false (hc1.trans hc2) ?_
        clear hc1 hc2
        by_cases hc3 : (arn e 6) = 3
        ·
          repeat first | refine wp_seq ?_ | refine wp_block ?_ | refine wp_skip ?_ | refine wp_exit ?_
          refine rg (BT := [(28, 8, 0), (26, 4, 0)]) (Vl := [Vb (true), Vb (true)]) (B := [⟨5, none, none, 28, 8, Vv 3 (xa) (ya), VT⟩, ⟨6, none, none, 28, 8, Vv 3 (xb) (yb), VT⟩, ⟨7, none, none, 28, 8, Vv 3 (xd) (yd), VT⟩]) (SL' := [(0, VI l), (1, Vi (e)), (4, Vb (false)), (18, Vi (arn (e) 6)), (19, Vb (false)), (22, Vb (false)), (32, Vb (true))]) st7 ⟨?s0, ks, trivial⟩ ?_
          case s0 => refine kr fun _ ac Wd h hd => ?_; obtain ⟨v0, hv0, hV0⟩ := h.ot 18; have hV0' : v0 = .int .i64 (arn (e) 6) := hV0; exact ⟨_, run_eqi rfl (hv0.trans hV0') rfl, congrArg Value.bool (beq_iff_eq.2 hc3)⟩
          intro a8 w8 st8
          clear st7
          repeat first | refine wp_seq ?_ | refine wp_block ?_ | refine wp_skip ?_ | refine wp_exit ?_
          obtain ⟨vc, hc1, hc2⟩ := st8.slot (32, Vb (true)) (.tail _ (.tail _ (.tail _ (.tail _ (.tail _ (.tail _ (.head _)))))))
          refine wp_cond_true (hc1.trans hc2) ?_
          clear hc1 hc2
          repeat first | refine wp_seq ?_ | refine wp_block ?_ | refine wp_skip ?_ | refine wp_exit ?_
          refine rg (BT := [(28, 8, 0), (26, 4, 0)]) (Vl := [Vpt a8 5 0, Vq 3 (xa), Vpt a8 6 0, VT]) (B := [⟨5, none, none, 28, 8, Vv 3 (xa) (ya), VT⟩, ⟨6, none, some 3, 28, 8, Vv 3 (xa) (yb), Vv 3 (xb) (yb)⟩, ⟨7, none, none, 28, 8, Vv 3 (xd) (yd), VT⟩]) (SL' := [(0, VI l), (1, Vi (e)), (4, Vb (false)), (18, Vi (arn (e) 6)), (19, Vb (false)), (22, Vb (false)), (32, Vb (true))]) st8 ⟨ks, ks, ks, ?s3, trivial⟩ ?_
          case s3 =>
            refine k_storeP (A := Vq 3 (xa)) rfl rfl rfl rfl rfl rfl rfl rfl (by kernel_rfl) (by kernel_rfl) (by kernel_rfl) (by kernel_rfl) (by kernel_rfl) (by kernel_rfl) (.inl ⟨by kernel_rfl, rfl, rfl⟩) rfl (fun cs z w h1 h2 h3 h4 h5 h6 => upd_X h1 h2 h3 h4 h5 h6) trivial
          intro a9 w9 st9
          clear st8
          repeat first | refine wp_seq ?_ | refine wp_block ?_ | refine wp_skip ?_ | refine wp_exit ?_
          replace st9 : St w.heap.size w 138 [⟨5, none, none, 28, 8, Vv 3 (xa) (ya), VT⟩, ⟨6, none, none, 28, 8, Vv 3 (xa) (yb), VT⟩, ⟨7, none, none, 28, 8, Vv 3 (xd) (yd), VT⟩] [(4, Vb (false))] a9 w9 := st9.cut
          exact hK _ _ (Met.intro (hJ _ _ ⟨xa, ya, xa, yb, xd, yd, st9.wk [⟨5, none, none, 28, 8, Vv 100 (xa) (ya), VT⟩, ⟨6, none, none, 28, 8, Vv 100 (xa) (yb), VT⟩, ⟨7, none, none, 28, 8, Vv 100 (xd) (yd), VT⟩] (List.forall_mem_cons.2 ⟨⟨_, (.head _), rfl, rfl, rfl, rfl, rfl, rfl, rfl, fun _ _ h => Vv_le h (by omega)⟩, (List.forall_mem_cons.2 ⟨⟨_, (.tail _ (.head _)), rfl, rfl, rfl, rfl, rfl, rfl, rfl, fun _ _ h => Vv_le h (by omega)⟩, (List.forall_mem_cons.2 ⟨⟨_, (.tail _ (.tail _ (.head _))), rfl, rfl, rfl, rfl, rfl, rfl, rfl, fun _ _ h => Vv_le h (by omega)⟩, (fun _ h => absurd h (by simp))⟩)⟩)⟩)⟩))
        ·
          repeat first | refine wp_seq ?_ | refine wp_block ?_ | refine wp_skip ?_ | refine wp_exit ?_
          refine rg (BT := [(28, 8, 0), (26, 4, 0)]) (Vl := [Vb (false), Vb (false)]) (B := [⟨5, none, none, 28, 8, Vv 3 (xa) (ya), VT⟩, ⟨6, none, none, 28, 8, Vv 3 (xb) (yb), VT⟩, ⟨7, none, none, 28, 8, Vv 3 (xd) (yd), VT⟩]) (SL' := [(0, VI l), (1, Vi (e)), (4, Vb (false)), (18, Vi (arn (e) 6)), (19, Vb (false)), (22, Vb (false)), (32, Vb (false))]) st7 ⟨?s0, ks, trivial⟩ ?_
          case s0 => refine kr fun _ ac Wd h hd => ?_; obtain ⟨v0, hv0, hV0⟩ := h.ot 18; have hV0' : v0 = .int .i64 (arn (e) 6) := hV0; exact ⟨_, run_eqi rfl (hv0.trans hV0') rfl, congrArg Value.bool (by simpa using hc3)⟩
          intro a8 w8 st8
          clear st7
          repeat first | refine wp_seq ?_ | refine wp_block ?_ | refine wp_skip ?_ | refine wp_exit ?_
          obtain ⟨vc, hc1, hc2⟩ := st8.slot (32, Vb (false)) (.tail _ (.tail _ (.tail _ (.tail _ (.tail _ (.tail _ (.head _)))))))
          refine wp_cond_false (hc1.trans hc2) ?_
          clear hc1 hc2
          repeat first | refine wp_seq ?_ | refine wp_block ?_ | refine wp_skip ?_ | refine wp_exit ?_
          replace st8 : St w.heap.size w 138 [⟨5, none, none, 28, 8, Vv 3 (xa) (ya), VT⟩, ⟨6, none, none, 28, 8, Vv 3 (xb) (yb), VT⟩, ⟨7, none, none, 28, 8, Vv 3 (xd) (yd), VT⟩] [(4, Vb (false))] a8 w8 := st8.cut
          exact hK _ _ (Met.intro (hJ _ _ ⟨xa, ya, xb, yb, xd, yd, st8.wk [⟨5, none, none, 28, 8, Vv 100 (xa) (ya), VT⟩, ⟨6, none, none, 28, 8, Vv 100 (xb) (yb), VT⟩, ⟨7, none, none, 28, 8, Vv 100 (xd) (yd), VT⟩] (List.forall_mem_cons.2 ⟨⟨_, (.head _), rfl, rfl, rfl, rfl, rfl, rfl, rfl, fun _ _ h => Vv_le h (by omega)⟩, (List.forall_mem_cons.2 ⟨⟨_, (.tail _ (.head _)), rfl, rfl, rfl, rfl, rfl, rfl, rfl, fun _ _ h => Vv_le h (by omega)⟩, (List.forall_mem_cons.2 ⟨⟨_, (.tail _ (.tail _ (.head _))), rfl, rfl, rfl, rfl, rfl, rfl, rfl, fun _ _ h => Vv_le h (by omega)⟩, (fun _ h => absurd h (by simp))⟩)⟩)⟩)⟩))
end Go.Proofs.YteaoaoknpihchaaGreat
