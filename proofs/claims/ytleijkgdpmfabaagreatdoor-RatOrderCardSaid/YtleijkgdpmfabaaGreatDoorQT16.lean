/- RatOrder: the walk. -/
import Derived.Test.YtleijkgdpmfabaaGreatDoorM38
set_option linter.unusedVariables false
namespace Go.Proofs.YtleijkgdpmfabaaGreatDoor
open Go.RowKit

theorem cmpQ_if (a b : Rat) : cmpQ a b = if a < b then -1 else if b < a then 1 else 0 := by
  split
  · exact cmpQ_lt.2 ‹_›
  · split
    · exact cmpQ_gt.2 ‹_›
    · exact cmpQ_eq.2 (by grind)
theorem neg_iff (q : Rat) : q < 0 ↔ q.num < 0 := by rw [Rat.lt_iff]; simp
theorem pos_iff (q : Rat) : 0 < q ↔ 0 < q.num := by rw [Rat.lt_iff]; simp
theorem cmpS_if (q : Rat) : cmpI q.num 0 = if q < 0 then -1 else if 0 < q then 1 else 0 := by
  split
  · exact cmp_lt ((neg_iff q).1 ‹_›)
  · split
    · exact cmp_gt ((pos_iff q).1 ‹_›)
    · rw [show q = 0 by grind]; rfl
theorem whole_num (z : Int) : (Rat.divInt z 1).num = z ∧ ((Rat.divInt z 1).den : Int) = 1 := by
  have := make_low (p := z) (q := 1) (by omega)
  simpa using this
theorem ord1 (a b : Rat) : cmpQ a b = cmpI (a - b).num 0 := by
  rw [cmpQ_if, cmpS_if]
  grind
theorem ord2 (a b c : Rat) : cmpQ a b = cmpQ (a + c) (b + c) := by
  rw [cmpQ_if, cmpQ_if]
  grind
theorem ord3 (a b : Rat) : cmpQ a b = -cmpQ b a := by
  rw [cmpQ_if, cmpQ_if]
  grind
theorem ord4 (a b : Rat) : (cmpQ a b == 0) = decide (a = b) := by
  rw [Bool.eq_iff_iff, beq_iff_eq, decide_eq_true_iff]; exact cmpQ_eq
theorem ord5 (a b c : Rat) (h : 0 < c) : cmpQ a b = cmpQ (a * c) (b * c) := by
  have e1 : a < b ↔ a * c < b * c := (Rat.mul_lt_mul_right h).symm
  have e2 : b < a ↔ b * c < a * c := (Rat.mul_lt_mul_right h).symm
  rw [cmpQ_if, cmpQ_if]
  simp only [e1, e2]
theorem ord6 (a b c : Rat) (h : c < 0) : cmpQ a b = -cmpQ (a * c) (b * c) := by
  have h2 := ord5 b a (-c) (by grind)
  rw [ord3, h2, ord1 (b * -c), ord1 (a * c), show b * -c - a * -c = a * c - b * c by grind]
theorem cmpQ_bd (a b : Rat) : -1 ≤ cmpQ a b ∧ cmpQ a b ≤ 1 := by rw [cmpQ_if]; split; omega; split <;> omega
theorem fl_ce (a : Rat) : ∃ lo hi : Int, dq a.num (a.den : Int) = lo ∧ -(dq (-a).num ((-a).den : Int)) = hi ∧ ((lo = hi ∧ Rat.divInt lo 1 = a) ∨ (hi = lo + 1 ∧ Rat.divInt lo 1 < a ∧ a < Rat.divInt hi 1)) := by
  have hd : (0 : Int) < a.den := by have := a.den_pos; omega
  have e1 : dq a.num (a.den : Int) = a.num / (a.den : Int) := if_neg (by omega)
  have e2 : dq (-a).num ((-a).den : Int) = (-a.num) / (a.den : Int) := by rw [Rat.neg_num, Rat.neg_den]; exact if_neg (by omega)
  refine ⟨_, _, rfl, rfl, ?_⟩
  rw [e1, e2]
  generalize hk : a.num / (a.den : Int) = k
  generalize hj : (-a.num) / (a.den : Int) = j
  have f1 := Int.emod_add_mul_ediv a.num a.den
  have f2 := Int.emod_nonneg a.num (b := (a.den : Int)) (by omega)
  have f3 := Int.emod_lt_of_pos a.num hd
  have g1 := Int.emod_add_mul_ediv (-a.num) a.den
  have g2 := Int.emod_nonneg (-a.num) (b := (a.den : Int)) (by omega)
  have g3 := Int.emod_lt_of_pos (-a.num) hd
  rw [hk] at f1
  rw [hj] at g1
  generalize a.num % (a.den : Int) = r at *
  generalize (-a.num) % (a.den : Int) = s at *
  have lt1 : ∀ z : Int, (Rat.divInt z 1 < a ↔ z * a.den < a.num) := fun z => by rw [Rat.lt_iff, (whole_num z).1, (whole_num z).2, Int.mul_one]
  have lt2 : ∀ z : Int, (a < Rat.divInt z 1 ↔ a.num < z * a.den) := fun z => by rw [Rat.lt_iff, (whole_num z).1, (whole_num z).2, Int.mul_one]
  by_cases hr : r = 0
  · left
    subst hr
    have hs : s = 0 := by
      have : (a.den : Int) * (k + j) + s = 0 := by rw [Int.mul_add]; omega
      rcases Int.lt_trichotomy (k + j) 0 with h | h | h
      · have := Int.mul_le_mul_of_nonneg_left (show k + j ≤ -1 by omega) (Int.le_of_lt hd); omega
      · rw [h] at this; omega
      · have := Int.mul_le_mul_of_nonneg_left (show 1 ≤ k + j by omega) (Int.le_of_lt hd); omega
    subst hs
    have h0 : (a.den : Int) * (k + j) = 0 := by rw [Int.mul_add]; omega
    refine ⟨by rcases Int.mul_eq_zero.1 h0 with h | h <;> omega, ?_⟩
    rw [Rat.eq_iff_mul_eq_mul, (whole_num k).1, (whole_num k).2, Int.mul_one, Int.mul_comm]
    omega
  · right
    have h0 : (a.den : Int) * (k + j + 1) = a.den - r - s := by rw [Int.mul_add, Int.mul_add]; omega
    have hkj : k + j + 1 = 0 := by
      rcases Int.lt_trichotomy (k + j + 1) 0 with h | h | h
      · have := Int.mul_le_mul_of_nonneg_left (show k + j + 1 ≤ -1 by omega) (Int.le_of_lt hd); omega
      · exact h
      · have := Int.mul_le_mul_of_nonneg_left (show 1 ≤ k + j + 1 by omega) (Int.le_of_lt hd); omega
    refine ⟨by omega, (lt1 _).2 (by rw [Int.mul_comm]; omega), (lt2 _).2 ?_⟩
    rw [show -j = k + 1 by omega, Int.add_mul, Int.mul_comm]
    omega
theorem small_of {d x : Int} {W : World} {e : Ending} {w' : World} (hd : d = x) (h0 : 0 ≤ x) (h1 : x ≤ 1) (h : RV2 (Vi (smv d)) (Vb (smb d)) W e w') : RV (VTup (Vi x) (Vb true)) W e w' := by
  subst hd
  have := sm_yes (x := d) (by omega)
  rw [this.1, this.2] at h
  exact h.tup

set_option maxRecDepth 100000 in
set_option maxHeartbeats 1600000 in
theorem walkRatOrder {w : World} {l m n : List Int} {v0 v1 v2 : Value} (h0 : VI l v0 w) (h1 : VI m v1 w) (h2 : VI n v2 w) (hT : Tb w) : Calls Tryz.prog 9 #[v0, v1, v2] w (RV (Vb true) w) := by
  go_enter Tryz.func9, Tryz.ntmps9
  have st0 : St w.heap.size w 140 [] [(0, VI l), (1, VI m), (2, VI n)] _ w := St.begin (a := ⟨#[v0, v1, v2, undef, undef, undef, undef, undef, undef, undef, undef, undef, undef, undef, undef, undef, undef, undef, undef, undef, undef, undef, undef, undef, undef, undef, undef, undef, undef, undef, undef, undef, undef, undef, undef, undef, undef, undef, undef, undef, undef, undef, undef, undef, undef, undef, undef, undef, undef, undef, undef, undef, undef, undef, undef, undef, undef, undef, undef, undef, undef, undef, undef, undef, undef, undef, undef, undef, undef, undef, undef, undef, undef, undef, undef, undef, undef, undef, undef, undef, undef, undef, undef, undef, undef, undef, undef, undef, undef, undef, undef, undef, undef, undef, undef, undef, undef, undef, undef, undef, undef, undef, undef, undef, undef, undef, undef, undef, undef, undef, undef, undef, undef, undef, undef, undef, undef, undef, undef, undef, undef, undef, undef, undef, undef, undef, undef, undef, undef, undef, undef, undef, undef, undef, undef, undef, undef, undef, undef, undef], []⟩) rfl rfl (List.forall_mem_cons.2 ⟨⟨_, rfl, h0⟩, (List.forall_mem_cons.2 ⟨⟨_, rfl, h1⟩, (List.forall_mem_cons.2 ⟨⟨_, rfl, h2⟩, (fun _ h => absurd h (by simp))⟩)⟩)⟩)
  generalize (⟨#[v0, v1, v2, undef, undef, undef, undef, undef, undef, undef, undef, undef, undef, undef, undef, undef, undef, undef, undef, undef, undef, undef, undef, undef, undef, undef, undef, undef, undef, undef, undef, undef, undef, undef, undef, undef, undef, undef, undef, undef, undef, undef, undef, undef, undef, undef, undef, undef, undef, undef, undef, undef, undef, undef, undef, undef, undef, undef, undef, undef, undef, undef, undef, undef, undef, undef, undef, undef, undef, undef, undef, undef, undef, undef, undef, undef, undef, undef, undef, undef, undef, undef, undef, undef, undef, undef, undef, undef, undef, undef, undef, undef, undef, undef, undef, undef, undef, undef, undef, undef, undef, undef, undef, undef, undef, undef, undef, undef, undef, undef, undef, undef, undef, undef, undef, undef, undef, undef, undef, undef, undef, undef, undef, undef, undef, undef, undef, undef, undef, undef, undef, undef, undef, undef, undef, undef, undef, undef, undef, undef], []⟩ : Act) = a0 at st0 ⊢
  repeat first | refine wp_seq ?_ | refine wp_block ?_ | refine wp_skip ?_ | refine wp_exit ?_
  refine rg (BT := [(27, 4, 0), (24, 2, 0)]) (Vl := [Vb (false)]) (B := []) (SL' := [(0, VI l), (1, VI m), (2, VI n), (6, Vb (false))]) st0 ⟨ks, trivial⟩ ?_
  intro a1 w1 st1
  clear st0
  repeat first | refine wp_seq ?_ | refine wp_block ?_ | refine wp_skip ?_ | refine wp_exit ?_
  refine rg (BT := [(27, 4, 0), (24, 2, 0)]) (Vl := [VI l, VexQ (fun x => Vq 6 x), VT, VT]) (B := [⟨7, some 2, some 3, 27, 4, VexQ (fun x => Vq 6 x), VT⟩]) (SL' := [(0, VI l), (1, VI m), (2, VI n), (6, Vb (false))]) st1 ⟨ks, ?s1, ks, ks, trivial⟩ ?_
  case s1 =>
    refine kc fun _ ac Wd h hd => ?_
    obtain ⟨v0, hv0, hV0⟩ := h.dp hd 16
    exact ⟨#[v0, .int .i64 (0)], by simp [hv0, eval_const], cR4Number (show VI l v0 Wd from hV0) (show Vi (0) (.int .i64 (0)) Wd from rfl) (by omega) (by omega)⟩
  intro a2 w2 st2
  clear st1
  replace st2 : St w.heap.size w 140 [⟨7, none, none, 27, 4, VexQ (fun x => Vq 6 x), VT⟩] [(0, VI l), (1, VI m), (2, VI n), (6, Vb (false))] a2 w2 := st2
  obtain ⟨a, st2⟩ := St.exQ (L1 := []) (L2 := []) st2
  replace st2 : St w.heap.size w 140 [⟨7, none, none, 27, 4, Vq 6 (a), VT⟩] [(0, VI l), (1, VI m), (2, VI n), (6, Vb (false))] a2 w2 := st2
  repeat first | refine wp_seq ?_ | refine wp_block ?_ | refine wp_skip ?_ | refine wp_exit ?_
  refine rg (BT := [(27, 4, 0), (24, 2, 0)]) (Vl := [VI m, VexQ (fun x => Vq 6 x), VT, VT]) (B := [⟨7, none, none, 27, 4, Vq 6 (a), VT⟩, ⟨8, some 2, some 3, 27, 4, VexQ (fun x => Vq 6 x), VT⟩]) (SL' := [(0, VI l), (1, VI m), (2, VI n), (6, Vb (false))]) st2 ⟨ks, ?s1, ks, ks, trivial⟩ ?_
  case s1 =>
    refine kc fun _ ac Wd h hd => ?_
    obtain ⟨v0, hv0, hV0⟩ := h.dp hd 18
    exact ⟨#[v0, .int .i64 (0)], by simp [hv0, eval_const], cR4Number (show VI m v0 Wd from hV0) (show Vi (0) (.int .i64 (0)) Wd from rfl) (by omega) (by omega)⟩
  intro a3 w3 st3
  clear st2
  replace st3 : St w.heap.size w 140 [⟨7, none, none, 27, 4, Vq 6 (a), VT⟩, ⟨8, none, none, 27, 4, VexQ (fun x => Vq 6 x), VT⟩] [(0, VI l), (1, VI m), (2, VI n), (6, Vb (false))] a3 w3 := st3
  obtain ⟨b, st3⟩ := St.exQ (L1 := [⟨7, none, none, 27, 4, Vq 6 (a), VT⟩]) (L2 := []) st3
  replace st3 : St w.heap.size w 140 [⟨7, none, none, 27, 4, Vq 6 (a), VT⟩, ⟨8, none, none, 27, 4, Vq 6 (b), VT⟩] [(0, VI l), (1, VI m), (2, VI n), (6, Vb (false))] a3 w3 := st3
  repeat first | refine wp_seq ?_ | refine wp_block ?_ | refine wp_skip ?_ | refine wp_exit ?_
  refine rg (BT := [(27, 4, 0), (24, 2, 0)]) (Vl := [VI n, VexQ (fun x => Vq 6 x), VT, VT]) (B := [⟨7, none, none, 27, 4, Vq 6 (a), VT⟩, ⟨8, none, none, 27, 4, Vq 6 (b), VT⟩, ⟨9, some 2, some 3, 27, 4, VexQ (fun x => Vq 6 x), VT⟩]) (SL' := [(0, VI l), (1, VI m), (2, VI n), (6, Vb (false))]) st3 ⟨ks, ?s1, ks, ks, trivial⟩ ?_
  case s1 =>
    refine kc fun _ ac Wd h hd => ?_
    obtain ⟨v0, hv0, hV0⟩ := h.dp hd 20
    exact ⟨#[v0, .int .i64 (0)], by simp [hv0, eval_const], cR4Number (show VI n v0 Wd from hV0) (show Vi (0) (.int .i64 (0)) Wd from rfl) (by omega) (by omega)⟩
  intro a4 w4 st4
  clear st3
  replace st4 : St w.heap.size w 140 [⟨7, none, none, 27, 4, Vq 6 (a), VT⟩, ⟨8, none, none, 27, 4, Vq 6 (b), VT⟩, ⟨9, none, none, 27, 4, VexQ (fun x => Vq 6 x), VT⟩] [(0, VI l), (1, VI m), (2, VI n), (6, Vb (false))] a4 w4 := st4
  obtain ⟨c, st4⟩ := St.exQ (L1 := [⟨7, none, none, 27, 4, Vq 6 (a), VT⟩, ⟨8, none, none, 27, 4, Vq 6 (b), VT⟩]) (L2 := []) st4
  replace st4 : St w.heap.size w 140 [⟨7, none, none, 27, 4, Vq 6 (a), VT⟩, ⟨8, none, none, 27, 4, Vq 6 (b), VT⟩, ⟨9, none, none, 27, 4, Vq 6 (c), VT⟩] [(0, VI l), (1, VI m), (2, VI n), (6, Vb (false))] a4 w4 := st4
  repeat first | refine wp_seq ?_ | refine wp_block ?_ | refine wp_skip ?_ | refine wp_exit ?_
  refine rg (BT := [(27, 4, 0), (24, 2, 0)]) (Vl := [Vq 6 (a), Vq 6 (b), Vi (cmpQ (a) (b)), Vi (cmpQ (a) (b))]) (B := [⟨7, none, none, 27, 4, Vq 6 (a), VT⟩, ⟨8, none, none, 27, 4, Vq 6 (b), VT⟩, ⟨9, none, none, 27, 4, Vq 6 (c), VT⟩]) (SL' := [(0, VI l), (1, VI m), (2, VI n), (6, Vb (false)), (10, Vi (cmpQ (a) (b)))]) st4 ⟨ks, ks, ?s2, ks, trivial⟩ ?_
  case s2 =>
    refine kc fun _ ac Wd h hd => ?_
    obtain ⟨v0, hv0, hV0⟩ := h.dp hd 22
    obtain ⟨v1, hv1, hV1⟩ := h.dp hd 23
    exact ⟨#[v0, v1], by simp [hv0, hv1], cQCompare (Na := 6) (Nb := 6) (show Vq 6 (a) v0 Wd from hV0) (show Vq 6 (b) v1 Wd from hV1) (by omega) (by omega) (by omega) (by omega)⟩
  intro a5 w5 st5
  clear st4
  have r1 := cmpQ_bd b a
  have r2 := cmpQ_bd (a * c) (b * c)
  have r3 := cmp0_bd c.num
  repeat first | refine wp_seq ?_ | refine wp_block ?_ | refine wp_skip ?_ | refine wp_exit ?_
  refine rg (BT := [(27, 4, 0), (24, 2, 0)]) (Vl := [Vi (cmpQ (a) (b)), Vq 6 (a), Vq 6 (b), Vq (6 + 6 + 1) ((a) - (b)), Vi (cmpI ((a) - (b)).num 0), Vb (false), Vb (false), Vi (cmpQ (a) (b)), Vq 6 (a), Vq 6 (c), Vq (6 + 6 + 1) ((a) + (c)), Vq 6 (b), Vq 6 (c), Vq (6 + 6 + 1) ((b) + (c)), Vi (cmpQ ((a) + (c)) ((b) + (c))), Vb (false), Vb (false), Vb (false), Vi (cmpQ (a) (b)), Vq 6 (b), Vq 6 (a), Vi (cmpQ (b) (a)), Vi (-(cmpQ (b) (a))), Vb (false), Vb (false), Vb (false), Vq 6 (a), Vq 6 (b), Vb (decide ((a) = (b))), Vi (cmpQ (a) (b)), Vb (decide ((a) = (b))), Vb (false), Vb (false)]) (B := [⟨7, none, none, 27, 4, Vq 6 (a), VT⟩, ⟨8, none, none, 27, 4, Vq 6 (b), VT⟩, ⟨9, none, none, 27, 4, Vq 6 (c), VT⟩]) (SL' := [(0, VI l), (1, VI m), (2, VI n), (6, Vb (false)), (10, Vi (cmpQ (a) (b))), (57, Vb (false))]) st5 ⟨ks, ks, ks, ?s3, ?s4, ?s5, ks, ks, ks, ks, ?s10, ks, ks, ?s13, ?s14, ?s15, ks, ks, ks, ks, ks, ?s21, ?s22, ?s23, ks, ks, ks, ks, ?s28, ks, ?s30, ?s31, ks, trivial⟩ ?_
  case s3 =>
    refine kc fun _ ac Wd h hd => ?_
    obtain ⟨v0, hv0, hV0⟩ := h.dp hd 26
    obtain ⟨v1, hv1, hV1⟩ := h.dp hd 27
    exact ⟨#[v0, v1], by simp [hv0, hv1], cQSub (Na := 6) (Nb := 6) (show Vq 6 (a) v0 Wd from hV0) (show Vq 6 (b) v1 Wd from hV1) (by omega) (by omega) (by omega) (by omega)⟩
  case s4 => refine kc fun _ ac Wd h hd => ?_; obtain ⟨v0, hv0, hV0⟩ := h.dp hd 28; exact ⟨#[v0], by simp [hv0], cQSign (show Vq (6 + 6 + 1) ((a) - (b)) v0 Wd from hV0) (by omega)⟩
  case s5 =>
    refine kr fun _ ac Wd h hd => ?_
    obtain ⟨v0, hv0, hV0⟩ := h.dp hd 25
    have hV0' : v0 = .int .i64 (cmpQ (a) (b)) := hV0
    obtain ⟨v1, hv1, hV1⟩ := h.dp hd 29
    have hV1' : v1 = .int .i64 (cmpI ((a) - (b)).num 0) := hV1
    exact ⟨_, run_neqi rfl (hv0.trans hV0') (hv1.trans hV1'), congrArg Value.bool (by rw [← ord1 a b]; exact bne_self_eq_false _)⟩
  case s10 =>
    refine kc fun _ ac Wd h hd => ?_
    obtain ⟨v0, hv0, hV0⟩ := h.dp hd 33
    obtain ⟨v1, hv1, hV1⟩ := h.dp hd 34
    exact ⟨#[v0, v1], by simp [hv0, hv1], cQAdd (Na := 6) (Nb := 6) (show Vq 6 (a) v0 Wd from hV0) (show Vq 6 (c) v1 Wd from hV1) (by omega) (by omega) (by omega) (by omega)⟩
  case s13 =>
    refine kc fun _ ac Wd h hd => ?_
    obtain ⟨v0, hv0, hV0⟩ := h.dp hd 36
    obtain ⟨v1, hv1, hV1⟩ := h.dp hd 37
    exact ⟨#[v0, v1], by simp [hv0, hv1], cQAdd (Na := 6) (Nb := 6) (show Vq 6 (b) v0 Wd from hV0) (show Vq 6 (c) v1 Wd from hV1) (by omega) (by omega) (by omega) (by omega)⟩
  case s14 =>
    refine kc fun _ ac Wd h hd => ?_
    obtain ⟨v0, hv0, hV0⟩ := h.dp hd 35
    obtain ⟨v1, hv1, hV1⟩ := h.dp hd 38
    exact ⟨#[v0, v1], by simp [hv0, hv1], cQCompare (Na := (6 + 6 + 1)) (Nb := (6 + 6 + 1)) (show Vq (6 + 6 + 1) ((a) + (c)) v0 Wd from hV0) (show Vq (6 + 6 + 1) ((b) + (c)) v1 Wd from hV1) (by omega) (by omega) (by omega) (by omega)⟩
  case s15 =>
    refine kr fun _ ac Wd h hd => ?_
    obtain ⟨v0, hv0, hV0⟩ := h.dp hd 32
    have hV0' : v0 = .int .i64 (cmpQ (a) (b)) := hV0
    obtain ⟨v1, hv1, hV1⟩ := h.dp hd 39
    have hV1' : v1 = .int .i64 (cmpQ ((a) + (c)) ((b) + (c))) := hV1
    exact ⟨_, run_neqi rfl (hv0.trans hV0') (hv1.trans hV1'), congrArg Value.bool (by rw [← ord2 a b c]; exact bne_self_eq_false _)⟩
  case s21 =>
    refine kc fun _ ac Wd h hd => ?_
    obtain ⟨v0, hv0, hV0⟩ := h.dp hd 44
    obtain ⟨v1, hv1, hV1⟩ := h.dp hd 45
    exact ⟨#[v0, v1], by simp [hv0, hv1], cQCompare (Na := 6) (Nb := 6) (show Vq 6 (b) v0 Wd from hV0) (show Vq 6 (a) v1 Wd from hV1) (by omega) (by omega) (by omega) (by omega)⟩
  case s22 => refine kr fun _ ac Wd h hd => ?_; obtain ⟨v0, hv0, hV0⟩ := h.dp hd 46; exact ⟨_, run_negi rfl (hv0.trans (show v0 = .int .i64 (cmpQ (b) (a)) from hV0)) (wrap_id (by omega) (by omega)), rfl⟩
  case s23 =>
    refine kr fun _ ac Wd h hd => ?_
    obtain ⟨v0, hv0, hV0⟩ := h.dp hd 43
    have hV0' : v0 = .int .i64 (cmpQ (a) (b)) := hV0
    obtain ⟨v1, hv1, hV1⟩ := h.dp hd 47
    have hV1' : v1 = .int .i64 (-(cmpQ (b) (a))) := hV1
    exact ⟨_, run_neqi rfl (hv0.trans hV0') (hv1.trans hV1'), congrArg Value.bool (by rw [← ord3 a b]; exact bne_self_eq_false _)⟩
  case s28 =>
    refine kc fun _ ac Wd h hd => ?_
    obtain ⟨v0, hv0, hV0⟩ := h.dp hd 51
    obtain ⟨v1, hv1, hV1⟩ := h.dp hd 52
    exact ⟨#[v0, v1], by simp [hv0, hv1], cQSame (show Vq 6 (a) v0 Wd from hV0) (show Vq 6 (b) v1 Wd from hV1) (by omega) (by omega) (by omega) (by omega)⟩
  case s30 => refine kr fun _ ac Wd h hd => ?_; obtain ⟨v0, hv0, hV0⟩ := h.dp hd 54; have hV0' : v0 = .int .i64 (cmpQ (a) (b)) := hV0; exact ⟨_, run_eqi rfl (hv0.trans hV0') rfl, congrArg Value.bool (ord4 a b)⟩
  case s31 =>
    refine kr fun _ ac Wd h hd => ?_
    obtain ⟨v0, hv0, hV0⟩ := h.dp hd 53
    obtain ⟨v1, hv1, hV1⟩ := h.dp hd 55
    exact ⟨_, run_neqb rfl (hv0.trans hV0) (hv1.trans hV1), congrArg Value.bool (bne_self_eq_false _)⟩
  intro a6 w6 st6
  clear st5
  repeat first | refine wp_seq ?_ | refine wp_block ?_ | refine wp_skip ?_ | refine wp_exit ?_
  obtain ⟨vc, hc1, hc2⟩ := st6.slot (57, Vb (false)) (.tail _ (.tail _ (.tail _ (.tail _ (.tail _ (.head _))))))
  refine wp_cond_false (hc1.trans hc2) ?_
  clear hc1 hc2
  by_cases hp : 0 < c
  ·
    have s1 : cmpI c.num 0 = 1 := by rw [cmpS_if, if_neg (by grind), if_pos hp]
    repeat first | refine wp_seq ?_ | refine wp_block ?_ | refine wp_skip ?_ | refine wp_exit ?_
    refine rg (BT := [(27, 4, 0), (24, 2, 0)]) (Vl := [Vq 6 (c), Vi (cmpI (c).num 0), Vb (true), Vb (true), Vi (cmpQ (a) (b)), Vq 6 (a), Vq 6 (c), Vq (6 + 6) ((a) * (c)), Vq 6 (b), Vq 6 (c), Vq (6 + 6) ((b) * (c)), Vi (cmpQ ((a) * (c)) ((b) * (c))), Vb (false), Vb (false), Vb (false), Vq 6 (c), Vi (cmpI (c).num 0), Vb (false), Vb (false), VT, VT, VT, VT, VT, VT, VT, VT, VT, VT, Vb (false), Vb (false)]) (B := [⟨7, none, none, 27, 4, Vq 6 (a), VT⟩, ⟨8, none, none, 27, 4, Vq 6 (b), VT⟩, ⟨9, none, none, 27, 4, Vq 6 (c), VT⟩]) (SL' := [(0, VI l), (1, VI m), (2, VI n), (6, Vb (false)), (10, Vi (cmpQ (a) (b))), (57, Vb (false)), (88, Vb (false))]) st6 ⟨ks, ?s1, ?s2, ks, ks, ks, ks, ?s7, ks, ks, ?s10, ?s11, ?s12, ks, ks, ks, ?s16, ?s17, ks, ks, ks, ks, ks, ks, ks, ks, ks, ks, ks, ks, ks, trivial⟩ ?_
    case s1 => refine kc fun _ ac Wd h hd => ?_; obtain ⟨v0, hv0, hV0⟩ := h.dp hd 58; exact ⟨#[v0], by simp [hv0], cQSign (show Vq 6 (c) v0 Wd from hV0) (by omega)⟩
    case s2 =>
      refine kr fun _ ac Wd h hd => ?_
      obtain ⟨v0, hv0, hV0⟩ := h.dp hd 59
      have hV0' : v0 = .int .i64 (cmpI (c).num 0) := hV0
      exact ⟨_, run_gtri rfl (hv0.trans hV0') rfl, congrArg Value.bool (decide_eq_true (by omega))⟩
    case s7 =>
      refine kc fun _ ac Wd h hd => ?_
      obtain ⟨v0, hv0, hV0⟩ := h.dp hd 63
      obtain ⟨v1, hv1, hV1⟩ := h.dp hd 64
      exact ⟨#[v0, v1], by simp [hv0, hv1], cQMul (Na := 6) (Nb := 6) (show Vq 6 (a) v0 Wd from hV0) (show Vq 6 (c) v1 Wd from hV1) (by omega) (by omega) (by omega) (by omega)⟩
    case s10 =>
      refine kc fun _ ac Wd h hd => ?_
      obtain ⟨v0, hv0, hV0⟩ := h.dp hd 66
      obtain ⟨v1, hv1, hV1⟩ := h.dp hd 67
      exact ⟨#[v0, v1], by simp [hv0, hv1], cQMul (Na := 6) (Nb := 6) (show Vq 6 (b) v0 Wd from hV0) (show Vq 6 (c) v1 Wd from hV1) (by omega) (by omega) (by omega) (by omega)⟩
    case s11 =>
      refine kc fun _ ac Wd h hd => ?_
      obtain ⟨v0, hv0, hV0⟩ := h.dp hd 65
      obtain ⟨v1, hv1, hV1⟩ := h.dp hd 68
      exact ⟨#[v0, v1], by simp [hv0, hv1], cQCompare (Na := (6 + 6)) (Nb := (6 + 6)) (show Vq (6 + 6) ((a) * (c)) v0 Wd from hV0) (show Vq (6 + 6) ((b) * (c)) v1 Wd from hV1) (by omega) (by omega) (by omega) (by omega)⟩
    case s12 =>
      refine kr fun _ ac Wd h hd => ?_
      obtain ⟨v0, hv0, hV0⟩ := h.dp hd 62
      have hV0' : v0 = .int .i64 (cmpQ (a) (b)) := hV0
      obtain ⟨v1, hv1, hV1⟩ := h.dp hd 69
      have hV1' : v1 = .int .i64 (cmpQ ((a) * (c)) ((b) * (c))) := hV1
      exact ⟨_, run_neqi rfl (hv0.trans hV0') (hv1.trans hV1'), congrArg Value.bool (by rw [← ord5 a b c hp]; exact bne_self_eq_false _)⟩
    case s16 => refine kc fun _ ac Wd h hd => ?_; obtain ⟨v0, hv0, hV0⟩ := h.dp hd 73; exact ⟨#[v0], by simp [hv0], cQSign (show Vq 6 (c) v0 Wd from hV0) (by omega)⟩
    case s17 =>
      refine kr fun _ ac Wd h hd => ?_
      obtain ⟨v0, hv0, hV0⟩ := h.dp hd 74
      have hV0' : v0 = .int .i64 (cmpI (c).num 0) := hV0
      exact ⟨_, run_lssi rfl (hv0.trans hV0') rfl, congrArg Value.bool (decide_eq_false (by omega))⟩
    intro a7 w7 st7
    clear st6
    repeat first | refine wp_seq ?_ | refine wp_block ?_ | refine wp_skip ?_ | refine wp_exit ?_
    obtain ⟨vc, hc1, hc2⟩ := st7.slot (88, Vb (false)) (.tail _ (.tail _ (.tail _ (.tail _ (.tail _ (.tail _ (.head _)))))))
    refine wp_cond_false (hc1.trans hc2) ?_
    clear hc1 hc2
    obtain ⟨lo, hi, hlo, hhi, hfc⟩ := fl_ce a
    repeat first | refine wp_seq ?_ | refine wp_block ?_ | refine wp_skip ?_ | refine wp_exit ?_
    refine rg (BT := [(27, 4, 0), (24, 2, 0)]) (Vl := [Vq 6 (a), Vz 6 (lo), VT, VT]) (B := [⟨7, none, none, 27, 4, Vq 6 (a), VT⟩, ⟨8, none, none, 27, 4, Vq 6 (b), VT⟩, ⟨9, none, none, 27, 4, Vq 6 (c), VT⟩, ⟨11, some 2, some 3, 24, 2, Vz 6 (lo), VT⟩]) (SL' := [(0, VI l), (1, VI m), (2, VI n), (6, Vb (false)), (10, Vi (cmpQ (a) (b))), (57, Vb (false)), (88, Vb (false))]) st7 ⟨ks, ?s1, ks, ks, trivial⟩ ?_
    case s1 =>
      refine kc fun _ ac Wd h hd => ?_
      obtain ⟨v0, hv0, hV0⟩ := h.dp hd 89
      exact ⟨#[v0], by simp [hv0], (cQFloor (show Vq 6 (a) v0 Wd from hV0) (by omega) (by omega)).mono fun e w h => h.le fun v w hv => by rw [hlo] at hv; exact hv⟩
    intro a8 w8 st8
    clear st7
    repeat first | refine wp_seq ?_ | refine wp_block ?_ | refine wp_skip ?_ | refine wp_exit ?_
    refine rg (BT := [(27, 4, 0), (24, 2, 0)]) (Vl := [Vq 6 (a), Vz 6 (hi), VT, VT]) (B := [⟨7, none, none, 27, 4, Vq 6 (a), VT⟩, ⟨8, none, none, 27, 4, Vq 6 (b), VT⟩, ⟨9, none, none, 27, 4, Vq 6 (c), VT⟩, ⟨11, none, none, 24, 2, Vz 6 (lo), VT⟩, ⟨12, some 2, some 3, 24, 2, Vz 6 (hi), VT⟩]) (SL' := [(0, VI l), (1, VI m), (2, VI n), (6, Vb (false)), (10, Vi (cmpQ (a) (b))), (57, Vb (false)), (88, Vb (false))]) st8 ⟨ks, ?s1, ks, ks, trivial⟩ ?_
    case s1 =>
      refine kc fun _ ac Wd h hd => ?_
      obtain ⟨v0, hv0, hV0⟩ := h.dp hd 91
      exact ⟨#[v0], by simp [hv0], (cQCeil (show Vq 6 (a) v0 Wd from hV0) (by omega) (by omega)).mono fun e w h => h.le fun v w hv => by rw [hhi] at hv; exact hv⟩
    intro a9 w9 st9
    clear st8
    by_cases hA : lo = hi ∧ Rat.divInt lo 1 = a
    ·
      have hgap : hi - lo = 0 := by omega
      have ha := hA.2
      have c1 : cmpQ (Rat.divInt lo 1) a = 0 := cmpQ_eq.2 ha
      have c2 : cmpQ (Rat.divInt hi 1) a = 0 := by rw [← hA.1]; exact c1
      repeat first | refine wp_seq ?_ | refine wp_block ?_ | refine wp_skip ?_ | refine wp_exit ?_
      refine rg (BT := [(27, 4, 0), (24, 2, 0)]) (Vl := [Vz 6 (hi), Vz 6 (lo), Vz (max 6 6 + 1) ((hi) - (lo)), VTup (Vi (0)) (Vb (true)), VTup (Vi (0)) (Vb (true)), Vi (0), Vb (true), Vi (0), Vb (true)]) (B := [⟨7, none, none, 27, 4, Vq 6 (a), VT⟩, ⟨8, none, none, 27, 4, Vq 6 (b), VT⟩, ⟨9, none, none, 27, 4, Vq 6 (c), VT⟩, ⟨11, none, none, 24, 2, Vz 6 (lo), VT⟩, ⟨12, none, none, 24, 2, Vz 6 (hi), VT⟩]) (SL' := [(0, VI l), (1, VI m), (2, VI n), (6, Vb (false)), (10, Vi (cmpQ (a) (b))), (57, Vb (false)), (88, Vb (false)), (13, Vi (0)), (14, Vb (true))]) st9 ⟨ks, ks, ?s2, ?s3, ks, ks, ks, ks, ks, trivial⟩ ?_
      case s2 =>
        refine kc fun _ ac Wd h hd => ?_
        obtain ⟨v0, hv0, hV0⟩ := h.dp hd 94
        obtain ⟨v1, hv1, hV1⟩ := h.dp hd 95
        exact ⟨#[v0, v1], by simp [hv0, hv1], cSub (Na := 6) (Nb := 6) (show Vz 6 (hi) v0 Wd from hV0) (show Vz 6 (lo) v1 Wd from hV1) (by omega) (by omega)⟩
      case s3 =>
        refine kc fun _ ac Wd h hd => ?_
        obtain ⟨v0, hv0, hV0⟩ := h.dp hd 96
        exact ⟨#[v0], by simp [hv0], (cSmall (show Vz (max 6 6 + 1) ((hi) - (lo)) v0 Wd from hV0) (by omega)).mono fun e w h => small_of hgap (by omega) (by omega) h⟩
      intro a10 w10 st10
      clear st9
      repeat first | refine wp_seq ?_ | refine wp_block ?_ | refine wp_skip ?_ | refine wp_exit ?_
      refine rg (BT := [(27, 4, 0), (24, 2, 0)]) (Vl := [Vz 6 (lo), Vz 1 (1), Vq (max 6 1) (Rat.divInt (lo) (1)), Vq 6 (a), Vi (cmpQ (Rat.divInt (lo) (1)) (a)), Vb (true), Vb (true)]) (B := [⟨7, none, none, 27, 4, Vq 6 (a), VT⟩, ⟨8, none, none, 27, 4, Vq 6 (b), VT⟩, ⟨9, none, none, 27, 4, Vq 6 (c), VT⟩, ⟨11, none, none, 24, 2, Vz 6 (lo), VT⟩, ⟨12, none, none, 24, 2, Vz 6 (hi), VT⟩]) (SL' := [(0, VI l), (1, VI m), (2, VI n), (6, Vb (false)), (10, Vi (cmpQ (a) (b))), (57, Vb (false)), (88, Vb (false)), (13, Vi (0)), (14, Vb (true)), (15, Vb (true))]) st10 ⟨ks, ?s1, ?s2, ks, ?s4, ?s5, ks, trivial⟩ ?_
      case s1 => refine kc fun _ ac Wd h hd => ?_; exact ⟨#[.int .i64 (1)], by simp [eval_const], cOf1⟩
      case s2 =>
        refine kc fun _ ac Wd h hd => ?_
        obtain ⟨v0, hv0, hV0⟩ := h.dp hd 100
        obtain ⟨v1, hv1, hV1⟩ := h.dp hd 101
        exact ⟨#[v0, v1], by simp [hv0, hv1], cQMake (Na := 6) (Nb := 1) (show Vz 6 (lo) v0 Wd from hV0) (show Vz 1 (1) v1 Wd from hV1) (by omega) (by omega) (by omega) (by omega)⟩
      case s4 =>
        refine kc fun _ ac Wd h hd => ?_
        obtain ⟨v0, hv0, hV0⟩ := h.dp hd 102
        obtain ⟨v1, hv1, hV1⟩ := h.dp hd 103
        exact ⟨#[v0, v1], by simp [hv0, hv1], cQCompare (Na := (max 6 1)) (Nb := 6) (show Vq (max 6 1) (Rat.divInt (lo) (1)) v0 Wd from hV0) (show Vq 6 (a) v1 Wd from hV1) (by omega) (by omega) (by omega) (by omega)⟩
      case s5 =>
        refine kr fun _ ac Wd h hd => ?_
        obtain ⟨v0, hv0, hV0⟩ := h.dp hd 104
        have hV0' : v0 = .int .i64 (cmpQ (Rat.divInt (lo) (1)) (a)) := hV0
        exact ⟨_, run_eqi rfl (hv0.trans hV0') rfl, congrArg Value.bool (by rw [c1]; rfl)⟩
      intro a11 w11 st11
      clear st10
      repeat first | refine wp_seq ?_ | refine wp_block ?_ | refine wp_skip ?_ | refine wp_exit ?_
      refine rg (BT := [(27, 4, 0), (24, 2, 0)]) (Vl := [Vb (true), Vb (true), Vi (0), Vb (true), Vb (true), Vb (true), Vb (true), Vb (true), Vi (0), Vb (true), Vb (true), Vb (true), Vi (0), Vb (true), Vb (true), Vb (true), Vz 6 (lo), Vz 1 (1), Vq (max 6 1) (Rat.divInt (lo) (1)), Vq 6 (a), Vi (cmpQ (Rat.divInt (lo) (1)) (a)), Vb (true), Vb (true), Vb (true), Vz 6 (hi), Vz 1 (1), Vq (max 6 1) (Rat.divInt (hi) (1)), Vq 6 (a), Vi (cmpQ (Rat.divInt (hi) (1)) (a)), Vb (true), Vb (true), Vb (true), Vb (true), Vb (true), Vb (true)]) (B := [⟨7, none, none, 27, 4, Vq 6 (a), VT⟩, ⟨8, none, none, 27, 4, Vq 6 (b), VT⟩, ⟨9, none, none, 27, 4, Vq 6 (c), VT⟩, ⟨11, none, none, 24, 2, Vz 6 (lo), VT⟩, ⟨12, none, none, 24, 2, Vz 6 (hi), VT⟩]) (SL' := [(0, VI l), (1, VI m), (2, VI n), (10, Vi (cmpQ (a) (b))), (57, Vb (false)), (88, Vb (false)), (13, Vi (0)), (14, Vb (true)), (15, Vb (true)), (6, Vb (true))]) st11 ⟨ks, ks, ks, ?s3, ks, ?s5, ks, ks, ks, ?s9, ks, ks, ks, ?s13, ks, ks, ks, ?s17, ?s18, ks, ?s20, ?s21, ks, ks, ks, ?s25, ?s26, ks, ?s28, ?s29, ks, ks, ?s32, ks, ks, trivial⟩ ?_
      case s3 => refine kr fun _ ac Wd h hd => ?_; obtain ⟨v0, hv0, hV0⟩ := h.dp hd 108; have hV0' : v0 = .int .i64 (0) := hV0; exact ⟨_, run_eqi rfl (hv0.trans hV0') rfl, congrArg Value.bool (rfl)⟩
      case s5 => refine kr fun _ ac Wd h hd => ?_; obtain ⟨v0, hv0, hV0⟩ := h.dp hd 109; obtain ⟨v1, hv1, hV1⟩ := h.dp hd 110; exact ⟨_, run_eqb rfl (hv0.trans hV0) (hv1.trans hV1), congrArg Value.bool (rfl)⟩
      case s9 => refine kr fun _ ac Wd h hd => ?_; obtain ⟨v0, hv0, hV0⟩ := h.dp hd 114; have hV0' : v0 = .int .i64 (0) := hV0; exact ⟨_, run_geqi rfl (hv0.trans hV0') rfl, congrArg Value.bool (decide_eq_true (by omega))⟩
      case s13 => refine kr fun _ ac Wd h hd => ?_; obtain ⟨v0, hv0, hV0⟩ := h.dp hd 118; have hV0' : v0 = .int .i64 (0) := hV0; exact ⟨_, run_leqi rfl (hv0.trans hV0') rfl, congrArg Value.bool (decide_eq_true (by omega))⟩
      case s17 => refine kc fun _ ac Wd h hd => ?_; exact ⟨#[.int .i64 (1)], by simp [eval_const], cOf1⟩
      case s18 =>
        refine kc fun _ ac Wd h hd => ?_
        obtain ⟨v0, hv0, hV0⟩ := h.dp hd 122
        obtain ⟨v1, hv1, hV1⟩ := h.dp hd 123
        exact ⟨#[v0, v1], by simp [hv0, hv1], cQMake (Na := 6) (Nb := 1) (show Vz 6 (lo) v0 Wd from hV0) (show Vz 1 (1) v1 Wd from hV1) (by omega) (by omega) (by omega) (by omega)⟩
      case s20 =>
        refine kc fun _ ac Wd h hd => ?_
        obtain ⟨v0, hv0, hV0⟩ := h.dp hd 124
        obtain ⟨v1, hv1, hV1⟩ := h.dp hd 125
        exact ⟨#[v0, v1], by simp [hv0, hv1], cQCompare (Na := (max 6 1)) (Nb := 6) (show Vq (max 6 1) (Rat.divInt (lo) (1)) v0 Wd from hV0) (show Vq 6 (a) v1 Wd from hV1) (by omega) (by omega) (by omega) (by omega)⟩
      case s21 =>
        refine kr fun _ ac Wd h hd => ?_
        obtain ⟨v0, hv0, hV0⟩ := h.dp hd 126
        have hV0' : v0 = .int .i64 (cmpQ (Rat.divInt (lo) (1)) (a)) := hV0
        exact ⟨_, run_leqi rfl (hv0.trans hV0') rfl, congrArg Value.bool (decide_eq_true (by omega))⟩
      case s25 => refine kc fun _ ac Wd h hd => ?_; exact ⟨#[.int .i64 (1)], by simp [eval_const], cOf1⟩
      case s26 =>
        refine kc fun _ ac Wd h hd => ?_
        obtain ⟨v0, hv0, hV0⟩ := h.dp hd 130
        obtain ⟨v1, hv1, hV1⟩ := h.dp hd 131
        exact ⟨#[v0, v1], by simp [hv0, hv1], cQMake (Na := 6) (Nb := 1) (show Vz 6 (hi) v0 Wd from hV0) (show Vz 1 (1) v1 Wd from hV1) (by omega) (by omega) (by omega) (by omega)⟩
      case s28 =>
        refine kc fun _ ac Wd h hd => ?_
        obtain ⟨v0, hv0, hV0⟩ := h.dp hd 132
        obtain ⟨v1, hv1, hV1⟩ := h.dp hd 133
        exact ⟨#[v0, v1], by simp [hv0, hv1], cQCompare (Na := (max 6 1)) (Nb := 6) (show Vq (max 6 1) (Rat.divInt (hi) (1)) v0 Wd from hV0) (show Vq 6 (a) v1 Wd from hV1) (by omega) (by omega) (by omega) (by omega)⟩
      case s29 =>
        refine kr fun _ ac Wd h hd => ?_
        obtain ⟨v0, hv0, hV0⟩ := h.dp hd 134
        have hV0' : v0 = .int .i64 (cmpQ (Rat.divInt (hi) (1)) (a)) := hV0
        exact ⟨_, run_geqi rfl (hv0.trans hV0') rfl, congrArg Value.bool (decide_eq_true (by omega))⟩
      case s32 => refine kc fun _ ac Wd h hd => ?_; exact ⟨#[], by simp [], cL4Lives (hT.later h.k.below)⟩
      intro a12 w12 st12
      clear st11
      repeat first | refine wp_seq ?_ | refine wp_block ?_ | refine wp_skip ?_ | refine wp_exit ?_
      obtain ⟨vr, r1, r4⟩ := st12.slot (6, Vb (true)) (.tail _ (.tail _ (.tail _ (.tail _ (.tail _ (.tail _ (.tail _ (.tail _ (.tail _ (.head _))))))))))
      exact wp_ret (bodyPost_ret (results_tmp rfl _ _ _) st12.defers ⟨_, congrArg Ending.returned (show _ = vr from r1), r4, st12.k.below⟩)
    ·
      have hB := hfc.resolve_left hA
      have hgap : hi - lo = 1 := by omega
      have c1 : cmpQ (Rat.divInt lo 1) a = -1 := cmpQ_lt.2 hB.2.1
      have c2 : cmpQ (Rat.divInt hi 1) a = 1 := cmpQ_gt.2 hB.2.2
      repeat first | refine wp_seq ?_ | refine wp_block ?_ | refine wp_skip ?_ | refine wp_exit ?_
      refine rg (BT := [(27, 4, 0), (24, 2, 0)]) (Vl := [Vz 6 (hi), Vz 6 (lo), Vz (max 6 6 + 1) ((hi) - (lo)), VTup (Vi (1)) (Vb (true)), VTup (Vi (1)) (Vb (true)), Vi (1), Vb (true), Vi (1), Vb (true)]) (B := [⟨7, none, none, 27, 4, Vq 6 (a), VT⟩, ⟨8, none, none, 27, 4, Vq 6 (b), VT⟩, ⟨9, none, none, 27, 4, Vq 6 (c), VT⟩, ⟨11, none, none, 24, 2, Vz 6 (lo), VT⟩, ⟨12, none, none, 24, 2, Vz 6 (hi), VT⟩]) (SL' := [(0, VI l), (1, VI m), (2, VI n), (6, Vb (false)), (10, Vi (cmpQ (a) (b))), (57, Vb (false)), (88, Vb (false)), (13, Vi (1)), (14, Vb (true))]) st9 ⟨ks, ks, ?s2, ?s3, ks, ks, ks, ks, ks, trivial⟩ ?_
      case s2 =>
        refine kc fun _ ac Wd h hd => ?_
        obtain ⟨v0, hv0, hV0⟩ := h.dp hd 94
        obtain ⟨v1, hv1, hV1⟩ := h.dp hd 95
        exact ⟨#[v0, v1], by simp [hv0, hv1], cSub (Na := 6) (Nb := 6) (show Vz 6 (hi) v0 Wd from hV0) (show Vz 6 (lo) v1 Wd from hV1) (by omega) (by omega)⟩
      case s3 =>
        refine kc fun _ ac Wd h hd => ?_
        obtain ⟨v0, hv0, hV0⟩ := h.dp hd 96
        exact ⟨#[v0], by simp [hv0], (cSmall (show Vz (max 6 6 + 1) ((hi) - (lo)) v0 Wd from hV0) (by omega)).mono fun e w h => small_of hgap (by omega) (by omega) h⟩
      intro a10 w10 st10
      clear st9
      repeat first | refine wp_seq ?_ | refine wp_block ?_ | refine wp_skip ?_ | refine wp_exit ?_
      refine rg (BT := [(27, 4, 0), (24, 2, 0)]) (Vl := [Vz 6 (lo), Vz 1 (1), Vq (max 6 1) (Rat.divInt (lo) (1)), Vq 6 (a), Vi (cmpQ (Rat.divInt (lo) (1)) (a)), Vb (false), Vb (false)]) (B := [⟨7, none, none, 27, 4, Vq 6 (a), VT⟩, ⟨8, none, none, 27, 4, Vq 6 (b), VT⟩, ⟨9, none, none, 27, 4, Vq 6 (c), VT⟩, ⟨11, none, none, 24, 2, Vz 6 (lo), VT⟩, ⟨12, none, none, 24, 2, Vz 6 (hi), VT⟩]) (SL' := [(0, VI l), (1, VI m), (2, VI n), (6, Vb (false)), (10, Vi (cmpQ (a) (b))), (57, Vb (false)), (88, Vb (false)), (13, Vi (1)), (14, Vb (true)), (15, Vb (false))]) st10 ⟨ks, ?s1, ?s2, ks, ?s4, ?s5, ks, trivial⟩ ?_
      case s1 => refine kc fun _ ac Wd h hd => ?_; exact ⟨#[.int .i64 (1)], by simp [eval_const], cOf1⟩
      case s2 =>
        refine kc fun _ ac Wd h hd => ?_
        obtain ⟨v0, hv0, hV0⟩ := h.dp hd 100
        obtain ⟨v1, hv1, hV1⟩ := h.dp hd 101
        exact ⟨#[v0, v1], by simp [hv0, hv1], cQMake (Na := 6) (Nb := 1) (show Vz 6 (lo) v0 Wd from hV0) (show Vz 1 (1) v1 Wd from hV1) (by omega) (by omega) (by omega) (by omega)⟩
      case s4 =>
        refine kc fun _ ac Wd h hd => ?_
        obtain ⟨v0, hv0, hV0⟩ := h.dp hd 102
        obtain ⟨v1, hv1, hV1⟩ := h.dp hd 103
        exact ⟨#[v0, v1], by simp [hv0, hv1], cQCompare (Na := (max 6 1)) (Nb := 6) (show Vq (max 6 1) (Rat.divInt (lo) (1)) v0 Wd from hV0) (show Vq 6 (a) v1 Wd from hV1) (by omega) (by omega) (by omega) (by omega)⟩
      case s5 =>
        refine kr fun _ ac Wd h hd => ?_
        obtain ⟨v0, hv0, hV0⟩ := h.dp hd 104
        have hV0' : v0 = .int .i64 (cmpQ (Rat.divInt (lo) (1)) (a)) := hV0
        exact ⟨_, run_eqi rfl (hv0.trans hV0') rfl, congrArg Value.bool (by rw [c1]; rfl)⟩
      intro a11 w11 st11
      clear st10
      repeat first | refine wp_seq ?_ | refine wp_block ?_ | refine wp_skip ?_ | refine wp_exit ?_
      refine rg (BT := [(27, 4, 0), (24, 2, 0)]) (Vl := [Vb (true), Vb (true), Vi (1), Vb (false), Vb (false), Vb (true), Vb (true), Vb (true), Vi (1), Vb (true), Vb (true), Vb (true), Vi (1), Vb (true), Vb (true), Vb (true), Vz 6 (lo), Vz 1 (1), Vq (max 6 1) (Rat.divInt (lo) (1)), Vq 6 (a), Vi (cmpQ (Rat.divInt (lo) (1)) (a)), Vb (true), Vb (true), Vb (true), Vz 6 (hi), Vz 1 (1), Vq (max 6 1) (Rat.divInt (hi) (1)), Vq 6 (a), Vi (cmpQ (Rat.divInt (hi) (1)) (a)), Vb (true), Vb (true), Vb (true), Vb (true), Vb (true), Vb (true)]) (B := [⟨7, none, none, 27, 4, Vq 6 (a), VT⟩, ⟨8, none, none, 27, 4, Vq 6 (b), VT⟩, ⟨9, none, none, 27, 4, Vq 6 (c), VT⟩, ⟨11, none, none, 24, 2, Vz 6 (lo), VT⟩, ⟨12, none, none, 24, 2, Vz 6 (hi), VT⟩]) (SL' := [(0, VI l), (1, VI m), (2, VI n), (10, Vi (cmpQ (a) (b))), (57, Vb (false)), (88, Vb (false)), (13, Vi (1)), (14, Vb (true)), (15, Vb (false)), (6, Vb (true))]) st11 ⟨ks, ks, ks, ?s3, ks, ?s5, ks, ks, ks, ?s9, ks, ks, ks, ?s13, ks, ks, ks, ?s17, ?s18, ks, ?s20, ?s21, ks, ks, ks, ?s25, ?s26, ks, ?s28, ?s29, ks, ks, ?s32, ks, ks, trivial⟩ ?_
      case s3 => refine kr fun _ ac Wd h hd => ?_; obtain ⟨v0, hv0, hV0⟩ := h.dp hd 108; have hV0' : v0 = .int .i64 (1) := hV0; exact ⟨_, run_eqi rfl (hv0.trans hV0') rfl, congrArg Value.bool (rfl)⟩
      case s5 => refine kr fun _ ac Wd h hd => ?_; obtain ⟨v0, hv0, hV0⟩ := h.dp hd 109; obtain ⟨v1, hv1, hV1⟩ := h.dp hd 110; exact ⟨_, run_eqb rfl (hv0.trans hV0) (hv1.trans hV1), congrArg Value.bool (rfl)⟩
      case s9 => refine kr fun _ ac Wd h hd => ?_; obtain ⟨v0, hv0, hV0⟩ := h.dp hd 114; have hV0' : v0 = .int .i64 (1) := hV0; exact ⟨_, run_geqi rfl (hv0.trans hV0') rfl, congrArg Value.bool (decide_eq_true (by omega))⟩
      case s13 => refine kr fun _ ac Wd h hd => ?_; obtain ⟨v0, hv0, hV0⟩ := h.dp hd 118; have hV0' : v0 = .int .i64 (1) := hV0; exact ⟨_, run_leqi rfl (hv0.trans hV0') rfl, congrArg Value.bool (decide_eq_true (by omega))⟩
      case s17 => refine kc fun _ ac Wd h hd => ?_; exact ⟨#[.int .i64 (1)], by simp [eval_const], cOf1⟩
      case s18 =>
        refine kc fun _ ac Wd h hd => ?_
        obtain ⟨v0, hv0, hV0⟩ := h.dp hd 122
        obtain ⟨v1, hv1, hV1⟩ := h.dp hd 123
        exact ⟨#[v0, v1], by simp [hv0, hv1], cQMake (Na := 6) (Nb := 1) (show Vz 6 (lo) v0 Wd from hV0) (show Vz 1 (1) v1 Wd from hV1) (by omega) (by omega) (by omega) (by omega)⟩
      case s20 =>
        refine kc fun _ ac Wd h hd => ?_
        obtain ⟨v0, hv0, hV0⟩ := h.dp hd 124
        obtain ⟨v1, hv1, hV1⟩ := h.dp hd 125
        exact ⟨#[v0, v1], by simp [hv0, hv1], cQCompare (Na := (max 6 1)) (Nb := 6) (show Vq (max 6 1) (Rat.divInt (lo) (1)) v0 Wd from hV0) (show Vq 6 (a) v1 Wd from hV1) (by omega) (by omega) (by omega) (by omega)⟩
      case s21 =>
        refine kr fun _ ac Wd h hd => ?_
        obtain ⟨v0, hv0, hV0⟩ := h.dp hd 126
        have hV0' : v0 = .int .i64 (cmpQ (Rat.divInt (lo) (1)) (a)) := hV0
        exact ⟨_, run_leqi rfl (hv0.trans hV0') rfl, congrArg Value.bool (decide_eq_true (by omega))⟩
      case s25 => refine kc fun _ ac Wd h hd => ?_; exact ⟨#[.int .i64 (1)], by simp [eval_const], cOf1⟩
      case s26 =>
        refine kc fun _ ac Wd h hd => ?_
        obtain ⟨v0, hv0, hV0⟩ := h.dp hd 130
        obtain ⟨v1, hv1, hV1⟩ := h.dp hd 131
        exact ⟨#[v0, v1], by simp [hv0, hv1], cQMake (Na := 6) (Nb := 1) (show Vz 6 (hi) v0 Wd from hV0) (show Vz 1 (1) v1 Wd from hV1) (by omega) (by omega) (by omega) (by omega)⟩
      case s28 =>
        refine kc fun _ ac Wd h hd => ?_
        obtain ⟨v0, hv0, hV0⟩ := h.dp hd 132
        obtain ⟨v1, hv1, hV1⟩ := h.dp hd 133
        exact ⟨#[v0, v1], by simp [hv0, hv1], cQCompare (Na := (max 6 1)) (Nb := 6) (show Vq (max 6 1) (Rat.divInt (hi) (1)) v0 Wd from hV0) (show Vq 6 (a) v1 Wd from hV1) (by omega) (by omega) (by omega) (by omega)⟩
      case s29 =>
        refine kr fun _ ac Wd h hd => ?_
        obtain ⟨v0, hv0, hV0⟩ := h.dp hd 134
        have hV0' : v0 = .int .i64 (cmpQ (Rat.divInt (hi) (1)) (a)) := hV0
        exact ⟨_, run_geqi rfl (hv0.trans hV0') rfl, congrArg Value.bool (decide_eq_true (by omega))⟩
      case s32 => refine kc fun _ ac Wd h hd => ?_; exact ⟨#[], by simp [], cL4Lives (hT.later h.k.below)⟩
      intro a12 w12 st12
      clear st11
      repeat first | refine wp_seq ?_ | refine wp_block ?_ | refine wp_skip ?_ | refine wp_exit ?_
      obtain ⟨vr, r1, r4⟩ := st12.slot (6, Vb (true)) (.tail _ (.tail _ (.tail _ (.tail _ (.tail _ (.tail _ (.tail _ (.tail _ (.tail _ (.head _))))))))))
      exact wp_ret (bodyPost_ret (results_tmp rfl _ _ _) st12.defers ⟨_, congrArg Ending.returned (show _ = vr from r1), r4, st12.k.below⟩)
  ·
    by_cases hl : c < 0
    ·
      have s1 : cmpI c.num 0 = -1 := by rw [cmpS_if, if_pos hl]
      repeat first | refine wp_seq ?_ | refine wp_block ?_ | refine wp_skip ?_ | refine wp_exit ?_
      refine rg (BT := [(27, 4, 0), (24, 2, 0)]) (Vl := [Vq 6 (c), Vi (cmpI (c).num 0), Vb (false), Vb (false), VT, VT, VT, VT, VT, VT, VT, VT, VT, Vb (false), Vb (false), Vq 6 (c), Vi (cmpI (c).num 0), Vb (true), Vb (true), Vi (cmpQ (a) (b)), Vq 6 (a), Vq 6 (c), Vq (6 + 6) ((a) * (c)), Vq 6 (b), Vq 6 (c), Vq (6 + 6) ((b) * (c)), Vi (cmpQ ((a) * (c)) ((b) * (c))), Vi (-(cmpQ ((a) * (c)) ((b) * (c)))), Vb (false), Vb (false), Vb (false)]) (B := [⟨7, none, none, 27, 4, Vq 6 (a), VT⟩, ⟨8, none, none, 27, 4, Vq 6 (b), VT⟩, ⟨9, none, none, 27, 4, Vq 6 (c), VT⟩]) (SL' := [(0, VI l), (1, VI m), (2, VI n), (6, Vb (false)), (10, Vi (cmpQ (a) (b))), (57, Vb (false)), (88, Vb (false))]) st6 ⟨ks, ?s1, ?s2, ks, ks, ks, ks, ks, ks, ks, ks, ks, ks, ks, ks, ks, ?s16, ?s17, ks, ks, ks, ks, ?s22, ks, ks, ?s25, ?s26, ?s27, ?s28, ks, ks, trivial⟩ ?_
      case s1 => refine kc fun _ ac Wd h hd => ?_; obtain ⟨v0, hv0, hV0⟩ := h.dp hd 58; exact ⟨#[v0], by simp [hv0], cQSign (show Vq 6 (c) v0 Wd from hV0) (by omega)⟩
      case s2 =>
        refine kr fun _ ac Wd h hd => ?_
        obtain ⟨v0, hv0, hV0⟩ := h.dp hd 59
        have hV0' : v0 = .int .i64 (cmpI (c).num 0) := hV0
        exact ⟨_, run_gtri rfl (hv0.trans hV0') rfl, congrArg Value.bool (decide_eq_false (by omega))⟩
      case s16 => refine kc fun _ ac Wd h hd => ?_; obtain ⟨v0, hv0, hV0⟩ := h.dp hd 73; exact ⟨#[v0], by simp [hv0], cQSign (show Vq 6 (c) v0 Wd from hV0) (by omega)⟩
      case s17 =>
        refine kr fun _ ac Wd h hd => ?_
        obtain ⟨v0, hv0, hV0⟩ := h.dp hd 74
        have hV0' : v0 = .int .i64 (cmpI (c).num 0) := hV0
        exact ⟨_, run_lssi rfl (hv0.trans hV0') rfl, congrArg Value.bool (decide_eq_true (by omega))⟩
      case s22 =>
        refine kc fun _ ac Wd h hd => ?_
        obtain ⟨v0, hv0, hV0⟩ := h.dp hd 78
        obtain ⟨v1, hv1, hV1⟩ := h.dp hd 79
        exact ⟨#[v0, v1], by simp [hv0, hv1], cQMul (Na := 6) (Nb := 6) (show Vq 6 (a) v0 Wd from hV0) (show Vq 6 (c) v1 Wd from hV1) (by omega) (by omega) (by omega) (by omega)⟩
      case s25 =>
        refine kc fun _ ac Wd h hd => ?_
        obtain ⟨v0, hv0, hV0⟩ := h.dp hd 81
        obtain ⟨v1, hv1, hV1⟩ := h.dp hd 82
        exact ⟨#[v0, v1], by simp [hv0, hv1], cQMul (Na := 6) (Nb := 6) (show Vq 6 (b) v0 Wd from hV0) (show Vq 6 (c) v1 Wd from hV1) (by omega) (by omega) (by omega) (by omega)⟩
      case s26 =>
        refine kc fun _ ac Wd h hd => ?_
        obtain ⟨v0, hv0, hV0⟩ := h.dp hd 80
        obtain ⟨v1, hv1, hV1⟩ := h.dp hd 83
        exact ⟨#[v0, v1], by simp [hv0, hv1], cQCompare (Na := (6 + 6)) (Nb := (6 + 6)) (show Vq (6 + 6) ((a) * (c)) v0 Wd from hV0) (show Vq (6 + 6) ((b) * (c)) v1 Wd from hV1) (by omega) (by omega) (by omega) (by omega)⟩
      case s27 =>
        refine kr fun _ ac Wd h hd => ?_
        obtain ⟨v0, hv0, hV0⟩ := h.dp hd 84
        exact ⟨_, run_negi rfl (hv0.trans (show v0 = .int .i64 (cmpQ ((a) * (c)) ((b) * (c))) from hV0)) (wrap_id (by omega) (by omega)), rfl⟩
      case s28 =>
        refine kr fun _ ac Wd h hd => ?_
        obtain ⟨v0, hv0, hV0⟩ := h.dp hd 77
        have hV0' : v0 = .int .i64 (cmpQ (a) (b)) := hV0
        obtain ⟨v1, hv1, hV1⟩ := h.dp hd 85
        have hV1' : v1 = .int .i64 (-(cmpQ ((a) * (c)) ((b) * (c)))) := hV1
        exact ⟨_, run_neqi rfl (hv0.trans hV0') (hv1.trans hV1'), congrArg Value.bool (by rw [← ord6 a b c hl]; exact bne_self_eq_false _)⟩
      intro a7 w7 st7
      clear st6
      repeat first | refine wp_seq ?_ | refine wp_block ?_ | refine wp_skip ?_ | refine wp_exit ?_
      obtain ⟨vc, hc1, hc2⟩ := st7.slot (88, Vb (false)) (.tail _ (.tail _ (.tail _ (.tail _ (.tail _ (.tail _ (.head _)))))))
      refine wp_cond_false (hc1.trans hc2) ?_
      clear hc1 hc2
      obtain ⟨lo, hi, hlo, hhi, hfc⟩ := fl_ce a
      repeat first | refine wp_seq ?_ | refine wp_block ?_ | refine wp_skip ?_ | refine wp_exit ?_
      refine rg (BT := [(27, 4, 0), (24, 2, 0)]) (Vl := [Vq 6 (a), Vz 6 (lo), VT, VT]) (B := [⟨7, none, none, 27, 4, Vq 6 (a), VT⟩, ⟨8, none, none, 27, 4, Vq 6 (b), VT⟩, ⟨9, none, none, 27, 4, Vq 6 (c), VT⟩, ⟨11, some 2, some 3, 24, 2, Vz 6 (lo), VT⟩]) (SL' := [(0, VI l), (1, VI m), (2, VI n), (6, Vb (false)), (10, Vi (cmpQ (a) (b))), (57, Vb (false)), (88, Vb (false))]) st7 ⟨ks, ?s1, ks, ks, trivial⟩ ?_
      case s1 =>
        refine kc fun _ ac Wd h hd => ?_
        obtain ⟨v0, hv0, hV0⟩ := h.dp hd 89
        exact ⟨#[v0], by simp [hv0], (cQFloor (show Vq 6 (a) v0 Wd from hV0) (by omega) (by omega)).mono fun e w h => h.le fun v w hv => by rw [hlo] at hv; exact hv⟩
      intro a8 w8 st8
      clear st7
      repeat first | refine wp_seq ?_ | refine wp_block ?_ | refine wp_skip ?_ | refine wp_exit ?_
      refine rg (BT := [(27, 4, 0), (24, 2, 0)]) (Vl := [Vq 6 (a), Vz 6 (hi), VT, VT]) (B := [⟨7, none, none, 27, 4, Vq 6 (a), VT⟩, ⟨8, none, none, 27, 4, Vq 6 (b), VT⟩, ⟨9, none, none, 27, 4, Vq 6 (c), VT⟩, ⟨11, none, none, 24, 2, Vz 6 (lo), VT⟩, ⟨12, some 2, some 3, 24, 2, Vz 6 (hi), VT⟩]) (SL' := [(0, VI l), (1, VI m), (2, VI n), (6, Vb (false)), (10, Vi (cmpQ (a) (b))), (57, Vb (false)), (88, Vb (false))]) st8 ⟨ks, ?s1, ks, ks, trivial⟩ ?_
      case s1 =>
        refine kc fun _ ac Wd h hd => ?_
        obtain ⟨v0, hv0, hV0⟩ := h.dp hd 91
        exact ⟨#[v0], by simp [hv0], (cQCeil (show Vq 6 (a) v0 Wd from hV0) (by omega) (by omega)).mono fun e w h => h.le fun v w hv => by rw [hhi] at hv; exact hv⟩
      intro a9 w9 st9
      clear st8
      by_cases hA : lo = hi ∧ Rat.divInt lo 1 = a
      ·
        have hgap : hi - lo = 0 := by omega
        have ha := hA.2
        have c1 : cmpQ (Rat.divInt lo 1) a = 0 := cmpQ_eq.2 ha
        have c2 : cmpQ (Rat.divInt hi 1) a = 0 := by rw [← hA.1]; exact c1
        repeat first | refine wp_seq ?_ | refine wp_block ?_ | refine wp_skip ?_ | refine wp_exit ?_
        refine rg (BT := [(27, 4, 0), (24, 2, 0)]) (Vl := [Vz 6 (hi), Vz 6 (lo), Vz (max 6 6 + 1) ((hi) - (lo)), VTup (Vi (0)) (Vb (true)), VTup (Vi (0)) (Vb (true)), Vi (0), Vb (true), Vi (0), Vb (true)]) (B := [⟨7, none, none, 27, 4, Vq 6 (a), VT⟩, ⟨8, none, none, 27, 4, Vq 6 (b), VT⟩, ⟨9, none, none, 27, 4, Vq 6 (c), VT⟩, ⟨11, none, none, 24, 2, Vz 6 (lo), VT⟩, ⟨12, none, none, 24, 2, Vz 6 (hi), VT⟩]) (SL' := [(0, VI l), (1, VI m), (2, VI n), (6, Vb (false)), (10, Vi (cmpQ (a) (b))), (57, Vb (false)), (88, Vb (false)), (13, Vi (0)), (14, Vb (true))]) st9 ⟨ks, ks, ?s2, ?s3, ks, ks, ks, ks, ks, trivial⟩ ?_
        case s2 =>
          refine kc fun _ ac Wd h hd => ?_
          obtain ⟨v0, hv0, hV0⟩ := h.dp hd 94
          obtain ⟨v1, hv1, hV1⟩ := h.dp hd 95
          exact ⟨#[v0, v1], by simp [hv0, hv1], cSub (Na := 6) (Nb := 6) (show Vz 6 (hi) v0 Wd from hV0) (show Vz 6 (lo) v1 Wd from hV1) (by omega) (by omega)⟩
        case s3 =>
          refine kc fun _ ac Wd h hd => ?_
          obtain ⟨v0, hv0, hV0⟩ := h.dp hd 96
          exact ⟨#[v0], by simp [hv0], (cSmall (show Vz (max 6 6 + 1) ((hi) - (lo)) v0 Wd from hV0) (by omega)).mono fun e w h => small_of hgap (by omega) (by omega) h⟩
        intro a10 w10 st10
        clear st9
        repeat first | refine wp_seq ?_ | refine wp_block ?_ | refine wp_skip ?_ | refine wp_exit ?_
        refine rg (BT := [(27, 4, 0), (24, 2, 0)]) (Vl := [Vz 6 (lo), Vz 1 (1), Vq (max 6 1) (Rat.divInt (lo) (1)), Vq 6 (a), Vi (cmpQ (Rat.divInt (lo) (1)) (a)), Vb (true), Vb (true)]) (B := [⟨7, none, none, 27, 4, Vq 6 (a), VT⟩, ⟨8, none, none, 27, 4, Vq 6 (b), VT⟩, ⟨9, none, none, 27, 4, Vq 6 (c), VT⟩, ⟨11, none, none, 24, 2, Vz 6 (lo), VT⟩, ⟨12, none, none, 24, 2, Vz 6 (hi), VT⟩]) (SL' := [(0, VI l), (1, VI m), (2, VI n), (6, Vb (false)), (10, Vi (cmpQ (a) (b))), (57, Vb (false)), (88, Vb (false)), (13, Vi (0)), (14, Vb (true)), (15, Vb (true))]) st10 ⟨ks, ?s1, ?s2, ks, ?s4, ?s5, ks, trivial⟩ ?_
        case s1 => refine kc fun _ ac Wd h hd => ?_; exact ⟨#[.int .i64 (1)], by simp [eval_const], cOf1⟩
        case s2 =>
          refine kc fun _ ac Wd h hd => ?_
          obtain ⟨v0, hv0, hV0⟩ := h.dp hd 100
          obtain ⟨v1, hv1, hV1⟩ := h.dp hd 101
          exact ⟨#[v0, v1], by simp [hv0, hv1], cQMake (Na := 6) (Nb := 1) (show Vz 6 (lo) v0 Wd from hV0) (show Vz 1 (1) v1 Wd from hV1) (by omega) (by omega) (by omega) (by omega)⟩
        case s4 =>
          refine kc fun _ ac Wd h hd => ?_
          obtain ⟨v0, hv0, hV0⟩ := h.dp hd 102
          obtain ⟨v1, hv1, hV1⟩ := h.dp hd 103
          exact ⟨#[v0, v1], by simp [hv0, hv1], cQCompare (Na := (max 6 1)) (Nb := 6) (show Vq (max 6 1) (Rat.divInt (lo) (1)) v0 Wd from hV0) (show Vq 6 (a) v1 Wd from hV1) (by omega) (by omega) (by omega) (by omega)⟩
        case s5 =>
          refine kr fun _ ac Wd h hd => ?_
          obtain ⟨v0, hv0, hV0⟩ := h.dp hd 104
          have hV0' : v0 = .int .i64 (cmpQ (Rat.divInt (lo) (1)) (a)) := hV0
          exact ⟨_, run_eqi rfl (hv0.trans hV0') rfl, congrArg Value.bool (by rw [c1]; rfl)⟩
        intro a11 w11 st11
        clear st10
        repeat first | refine wp_seq ?_ | refine wp_block ?_ | refine wp_skip ?_ | refine wp_exit ?_
        refine rg (BT := [(27, 4, 0), (24, 2, 0)]) (Vl := [Vb (true), Vb (true), Vi (0), Vb (true), Vb (true), Vb (true), Vb (true), Vb (true), Vi (0), Vb (true), Vb (true), Vb (true), Vi (0), Vb (true), Vb (true), Vb (true), Vz 6 (lo), Vz 1 (1), Vq (max 6 1) (Rat.divInt (lo) (1)), Vq 6 (a), Vi (cmpQ (Rat.divInt (lo) (1)) (a)), Vb (true), Vb (true), Vb (true), Vz 6 (hi), Vz 1 (1), Vq (max 6 1) (Rat.divInt (hi) (1)), Vq 6 (a), Vi (cmpQ (Rat.divInt (hi) (1)) (a)), Vb (true), Vb (true), Vb (true), Vb (true), Vb (true), Vb (true)]) (B := [⟨7, none, none, 27, 4, Vq 6 (a), VT⟩, ⟨8, none, none, 27, 4, Vq 6 (b), VT⟩, ⟨9, none, none, 27, 4, Vq 6 (c), VT⟩, ⟨11, none, none, 24, 2, Vz 6 (lo), VT⟩, ⟨12, none, none, 24, 2, Vz 6 (hi), VT⟩]) (SL' := [(0, VI l), (1, VI m), (2, VI n), (10, Vi (cmpQ (a) (b))), (57, Vb (false)), (88, Vb (false)), (13, Vi (0)), (14, Vb (true)), (15, Vb (true)), (6, Vb (true))]) st11 ⟨ks, ks, ks, ?s3, ks, ?s5, ks, ks, ks, ?s9, ks, ks, ks, ?s13, ks, ks, ks, ?s17, ?s18, ks, ?s20, ?s21, ks, ks, ks, ?s25, ?s26, ks, ?s28, ?s29, ks, ks, ?s32, ks, ks, trivial⟩ ?_
        case s3 => refine kr fun _ ac Wd h hd => ?_; obtain ⟨v0, hv0, hV0⟩ := h.dp hd 108; have hV0' : v0 = .int .i64 (0) := hV0; exact ⟨_, run_eqi rfl (hv0.trans hV0') rfl, congrArg Value.bool (rfl)⟩
        case s5 => refine kr fun _ ac Wd h hd => ?_; obtain ⟨v0, hv0, hV0⟩ := h.dp hd 109; obtain ⟨v1, hv1, hV1⟩ := h.dp hd 110; exact ⟨_, run_eqb rfl (hv0.trans hV0) (hv1.trans hV1), congrArg Value.bool (rfl)⟩
        case s9 => refine kr fun _ ac Wd h hd => ?_; obtain ⟨v0, hv0, hV0⟩ := h.dp hd 114; have hV0' : v0 = .int .i64 (0) := hV0; exact ⟨_, run_geqi rfl (hv0.trans hV0') rfl, congrArg Value.bool (decide_eq_true (by omega))⟩
        case s13 => refine kr fun _ ac Wd h hd => ?_; obtain ⟨v0, hv0, hV0⟩ := h.dp hd 118; have hV0' : v0 = .int .i64 (0) := hV0; exact ⟨_, run_leqi rfl (hv0.trans hV0') rfl, congrArg Value.bool (decide_eq_true (by omega))⟩
        case s17 => refine kc fun _ ac Wd h hd => ?_; exact ⟨#[.int .i64 (1)], by simp [eval_const], cOf1⟩
        case s18 =>
          refine kc fun _ ac Wd h hd => ?_
          obtain ⟨v0, hv0, hV0⟩ := h.dp hd 122
          obtain ⟨v1, hv1, hV1⟩ := h.dp hd 123
          exact ⟨#[v0, v1], by simp [hv0, hv1], cQMake (Na := 6) (Nb := 1) (show Vz 6 (lo) v0 Wd from hV0) (show Vz 1 (1) v1 Wd from hV1) (by omega) (by omega) (by omega) (by omega)⟩
        case s20 =>
          refine kc fun _ ac Wd h hd => ?_
          obtain ⟨v0, hv0, hV0⟩ := h.dp hd 124
          obtain ⟨v1, hv1, hV1⟩ := h.dp hd 125
          exact ⟨#[v0, v1], by simp [hv0, hv1], cQCompare (Na := (max 6 1)) (Nb := 6) (show Vq (max 6 1) (Rat.divInt (lo) (1)) v0 Wd from hV0) (show Vq 6 (a) v1 Wd from hV1) (by omega) (by omega) (by omega) (by omega)⟩
        case s21 =>
          refine kr fun _ ac Wd h hd => ?_
          obtain ⟨v0, hv0, hV0⟩ := h.dp hd 126
          have hV0' : v0 = .int .i64 (cmpQ (Rat.divInt (lo) (1)) (a)) := hV0
          exact ⟨_, run_leqi rfl (hv0.trans hV0') rfl, congrArg Value.bool (decide_eq_true (by omega))⟩
        case s25 => refine kc fun _ ac Wd h hd => ?_; exact ⟨#[.int .i64 (1)], by simp [eval_const], cOf1⟩
        case s26 =>
          refine kc fun _ ac Wd h hd => ?_
          obtain ⟨v0, hv0, hV0⟩ := h.dp hd 130
          obtain ⟨v1, hv1, hV1⟩ := h.dp hd 131
          exact ⟨#[v0, v1], by simp [hv0, hv1], cQMake (Na := 6) (Nb := 1) (show Vz 6 (hi) v0 Wd from hV0) (show Vz 1 (1) v1 Wd from hV1) (by omega) (by omega) (by omega) (by omega)⟩
        case s28 =>
          refine kc fun _ ac Wd h hd => ?_
          obtain ⟨v0, hv0, hV0⟩ := h.dp hd 132
          obtain ⟨v1, hv1, hV1⟩ := h.dp hd 133
          exact ⟨#[v0, v1], by simp [hv0, hv1], cQCompare (Na := (max 6 1)) (Nb := 6) (show Vq (max 6 1) (Rat.divInt (hi) (1)) v0 Wd from hV0) (show Vq 6 (a) v1 Wd from hV1) (by omega) (by omega) (by omega) (by omega)⟩
        case s29 =>
          refine kr fun _ ac Wd h hd => ?_
          obtain ⟨v0, hv0, hV0⟩ := h.dp hd 134
          have hV0' : v0 = .int .i64 (cmpQ (Rat.divInt (hi) (1)) (a)) := hV0
          exact ⟨_, run_geqi rfl (hv0.trans hV0') rfl, congrArg Value.bool (decide_eq_true (by omega))⟩
        case s32 => refine kc fun _ ac Wd h hd => ?_; exact ⟨#[], by simp [], cL4Lives (hT.later h.k.below)⟩
        intro a12 w12 st12
        clear st11
        repeat first | refine wp_seq ?_ | refine wp_block ?_ | refine wp_skip ?_ | refine wp_exit ?_
        obtain ⟨vr, r1, r4⟩ := st12.slot (6, Vb (true)) (.tail _ (.tail _ (.tail _ (.tail _ (.tail _ (.tail _ (.tail _ (.tail _ (.tail _ (.head _))))))))))
        exact wp_ret (bodyPost_ret (results_tmp rfl _ _ _) st12.defers ⟨_, congrArg Ending.returned (show _ = vr from r1), r4, st12.k.below⟩)
      ·
        have hB := hfc.resolve_left hA
        have hgap : hi - lo = 1 := by omega
        have c1 : cmpQ (Rat.divInt lo 1) a = -1 := cmpQ_lt.2 hB.2.1
        have c2 : cmpQ (Rat.divInt hi 1) a = 1 := cmpQ_gt.2 hB.2.2
        repeat first | refine wp_seq ?_ | refine wp_block ?_ | refine wp_skip ?_ | refine wp_exit ?_
        refine rg (BT := [(27, 4, 0), (24, 2, 0)]) (Vl := [Vz 6 (hi), Vz 6 (lo), Vz (max 6 6 + 1) ((hi) - (lo)), VTup (Vi (1)) (Vb (true)), VTup (Vi (1)) (Vb (true)), Vi (1), Vb (true), Vi (1), Vb (true)]) (B := [⟨7, none, none, 27, 4, Vq 6 (a), VT⟩, ⟨8, none, none, 27, 4, Vq 6 (b), VT⟩, ⟨9, none, none, 27, 4, Vq 6 (c), VT⟩, ⟨11, none, none, 24, 2, Vz 6 (lo), VT⟩, ⟨12, none, none, 24, 2, Vz 6 (hi), VT⟩]) (SL' := [(0, VI l), (1, VI m), (2, VI n), (6, Vb (false)), (10, Vi (cmpQ (a) (b))), (57, Vb (false)), (88, Vb (false)), (13, Vi (1)), (14, Vb (true))]) st9 ⟨ks, ks, ?s2, ?s3, ks, ks, ks, ks, ks, trivial⟩ ?_
        case s2 =>
          refine kc fun _ ac Wd h hd => ?_
          obtain ⟨v0, hv0, hV0⟩ := h.dp hd 94
          obtain ⟨v1, hv1, hV1⟩ := h.dp hd 95
          exact ⟨#[v0, v1], by simp [hv0, hv1], cSub (Na := 6) (Nb := 6) (show Vz 6 (hi) v0 Wd from hV0) (show Vz 6 (lo) v1 Wd from hV1) (by omega) (by omega)⟩
        case s3 =>
          refine kc fun _ ac Wd h hd => ?_
          obtain ⟨v0, hv0, hV0⟩ := h.dp hd 96
          exact ⟨#[v0], by simp [hv0], (cSmall (show Vz (max 6 6 + 1) ((hi) - (lo)) v0 Wd from hV0) (by omega)).mono fun e w h => small_of hgap (by omega) (by omega) h⟩
        intro a10 w10 st10
        clear st9
        repeat first | refine wp_seq ?_ | refine wp_block ?_ | refine wp_skip ?_ | refine wp_exit ?_
        refine rg (BT := [(27, 4, 0), (24, 2, 0)]) (Vl := [Vz 6 (lo), Vz 1 (1), Vq (max 6 1) (Rat.divInt (lo) (1)), Vq 6 (a), Vi (cmpQ (Rat.divInt (lo) (1)) (a)), Vb (false), Vb (false)]) (B := [⟨7, none, none, 27, 4, Vq 6 (a), VT⟩, ⟨8, none, none, 27, 4, Vq 6 (b), VT⟩, ⟨9, none, none, 27, 4, Vq 6 (c), VT⟩, ⟨11, none, none, 24, 2, Vz 6 (lo), VT⟩, ⟨12, none, none, 24, 2, Vz 6 (hi), VT⟩]) (SL' := [(0, VI l), (1, VI m), (2, VI n), (6, Vb (false)), (10, Vi (cmpQ (a) (b))), (57, Vb (false)), (88, Vb (false)), (13, Vi (1)), (14, Vb (true)), (15, Vb (false))]) st10 ⟨ks, ?s1, ?s2, ks, ?s4, ?s5, ks, trivial⟩ ?_
        case s1 => refine kc fun _ ac Wd h hd => ?_; exact ⟨#[.int .i64 (1)], by simp [eval_const], cOf1⟩
        case s2 =>
          refine kc fun _ ac Wd h hd => ?_
          obtain ⟨v0, hv0, hV0⟩ := h.dp hd 100
          obtain ⟨v1, hv1, hV1⟩ := h.dp hd 101
          exact ⟨#[v0, v1], by simp [hv0, hv1], cQMake (Na := 6) (Nb := 1) (show Vz 6 (lo) v0 Wd from hV0) (show Vz 1 (1) v1 Wd from hV1) (by omega) (by omega) (by omega) (by omega)⟩
        case s4 =>
          refine kc fun _ ac Wd h hd => ?_
          obtain ⟨v0, hv0, hV0⟩ := h.dp hd 102
          obtain ⟨v1, hv1, hV1⟩ := h.dp hd 103
          exact ⟨#[v0, v1], by simp [hv0, hv1], cQCompare (Na := (max 6 1)) (Nb := 6) (show Vq (max 6 1) (Rat.divInt (lo) (1)) v0 Wd from hV0) (show Vq 6 (a) v1 Wd from hV1) (by omega) (by omega) (by omega) (by omega)⟩
        case s5 =>
          refine kr fun _ ac Wd h hd => ?_
          obtain ⟨v0, hv0, hV0⟩ := h.dp hd 104
          have hV0' : v0 = .int .i64 (cmpQ (Rat.divInt (lo) (1)) (a)) := hV0
          exact ⟨_, run_eqi rfl (hv0.trans hV0') rfl, congrArg Value.bool (by rw [c1]; rfl)⟩
        intro a11 w11 st11
        clear st10
        repeat first | refine wp_seq ?_ | refine wp_block ?_ | refine wp_skip ?_ | refine wp_exit ?_
        refine rg (BT := [(27, 4, 0), (24, 2, 0)]) (Vl := [Vb (true), Vb (true), Vi (1), Vb (false), Vb (false), Vb (true), Vb (true), Vb (true), Vi (1), Vb (true), Vb (true), Vb (true), Vi (1), Vb (true), Vb (true), Vb (true), Vz 6 (lo), Vz 1 (1), Vq (max 6 1) (Rat.divInt (lo) (1)), Vq 6 (a), Vi (cmpQ (Rat.divInt (lo) (1)) (a)), Vb (true), Vb (true), Vb (true), Vz 6 (hi), Vz 1 (1), Vq (max 6 1) (Rat.divInt (hi) (1)), Vq 6 (a), Vi (cmpQ (Rat.divInt (hi) (1)) (a)), Vb (true), Vb (true), Vb (true), Vb (true), Vb (true), Vb (true)]) (B := [⟨7, none, none, 27, 4, Vq 6 (a), VT⟩, ⟨8, none, none, 27, 4, Vq 6 (b), VT⟩, ⟨9, none, none, 27, 4, Vq 6 (c), VT⟩, ⟨11, none, none, 24, 2, Vz 6 (lo), VT⟩, ⟨12, none, none, 24, 2, Vz 6 (hi), VT⟩]) (SL' := [(0, VI l), (1, VI m), (2, VI n), (10, Vi (cmpQ (a) (b))), (57, Vb (false)), (88, Vb (false)), (13, Vi (1)), (14, Vb (true)), (15, Vb (false)), (6, Vb (true))]) st11 ⟨ks, ks, ks, ?s3, ks, ?s5, ks, ks, ks, ?s9, ks, ks, ks, ?s13, ks, ks, ks, ?s17, ?s18, ks, ?s20, ?s21, ks, ks, ks, ?s25, ?s26, ks, ?s28, ?s29, ks, ks, ?s32, ks, ks, trivial⟩ ?_
        case s3 => refine kr fun _ ac Wd h hd => ?_; obtain ⟨v0, hv0, hV0⟩ := h.dp hd 108; have hV0' : v0 = .int .i64 (1) := hV0; exact ⟨_, run_eqi rfl (hv0.trans hV0') rfl, congrArg Value.bool (rfl)⟩
        case s5 => refine kr fun _ ac Wd h hd => ?_; obtain ⟨v0, hv0, hV0⟩ := h.dp hd 109; obtain ⟨v1, hv1, hV1⟩ := h.dp hd 110; exact ⟨_, run_eqb rfl (hv0.trans hV0) (hv1.trans hV1), congrArg Value.bool (rfl)⟩
        case s9 => refine kr fun _ ac Wd h hd => ?_; obtain ⟨v0, hv0, hV0⟩ := h.dp hd 114; have hV0' : v0 = .int .i64 (1) := hV0; exact ⟨_, run_geqi rfl (hv0.trans hV0') rfl, congrArg Value.bool (decide_eq_true (by omega))⟩
        case s13 => refine kr fun _ ac Wd h hd => ?_; obtain ⟨v0, hv0, hV0⟩ := h.dp hd 118; have hV0' : v0 = .int .i64 (1) := hV0; exact ⟨_, run_leqi rfl (hv0.trans hV0') rfl, congrArg Value.bool (decide_eq_true (by omega))⟩
        case s17 => refine kc fun _ ac Wd h hd => ?_; exact ⟨#[.int .i64 (1)], by simp [eval_const], cOf1⟩
        case s18 =>
          refine kc fun _ ac Wd h hd => ?_
          obtain ⟨v0, hv0, hV0⟩ := h.dp hd 122
          obtain ⟨v1, hv1, hV1⟩ := h.dp hd 123
          exact ⟨#[v0, v1], by simp [hv0, hv1], cQMake (Na := 6) (Nb := 1) (show Vz 6 (lo) v0 Wd from hV0) (show Vz 1 (1) v1 Wd from hV1) (by omega) (by omega) (by omega) (by omega)⟩
        case s20 =>
          refine kc fun _ ac Wd h hd => ?_
          obtain ⟨v0, hv0, hV0⟩ := h.dp hd 124
          obtain ⟨v1, hv1, hV1⟩ := h.dp hd 125
          exact ⟨#[v0, v1], by simp [hv0, hv1], cQCompare (Na := (max 6 1)) (Nb := 6) (show Vq (max 6 1) (Rat.divInt (lo) (1)) v0 Wd from hV0) (show Vq 6 (a) v1 Wd from hV1) (by omega) (by omega) (by omega) (by omega)⟩
        case s21 =>
          refine kr fun _ ac Wd h hd => ?_
          obtain ⟨v0, hv0, hV0⟩ := h.dp hd 126
          have hV0' : v0 = .int .i64 (cmpQ (Rat.divInt (lo) (1)) (a)) := hV0
          exact ⟨_, run_leqi rfl (hv0.trans hV0') rfl, congrArg Value.bool (decide_eq_true (by omega))⟩
        case s25 => refine kc fun _ ac Wd h hd => ?_; exact ⟨#[.int .i64 (1)], by simp [eval_const], cOf1⟩
        case s26 =>
          refine kc fun _ ac Wd h hd => ?_
          obtain ⟨v0, hv0, hV0⟩ := h.dp hd 130
          obtain ⟨v1, hv1, hV1⟩ := h.dp hd 131
          exact ⟨#[v0, v1], by simp [hv0, hv1], cQMake (Na := 6) (Nb := 1) (show Vz 6 (hi) v0 Wd from hV0) (show Vz 1 (1) v1 Wd from hV1) (by omega) (by omega) (by omega) (by omega)⟩
        case s28 =>
          refine kc fun _ ac Wd h hd => ?_
          obtain ⟨v0, hv0, hV0⟩ := h.dp hd 132
          obtain ⟨v1, hv1, hV1⟩ := h.dp hd 133
          exact ⟨#[v0, v1], by simp [hv0, hv1], cQCompare (Na := (max 6 1)) (Nb := 6) (show Vq (max 6 1) (Rat.divInt (hi) (1)) v0 Wd from hV0) (show Vq 6 (a) v1 Wd from hV1) (by omega) (by omega) (by omega) (by omega)⟩
        case s29 =>
          refine kr fun _ ac Wd h hd => ?_
          obtain ⟨v0, hv0, hV0⟩ := h.dp hd 134
          have hV0' : v0 = .int .i64 (cmpQ (Rat.divInt (hi) (1)) (a)) := hV0
          exact ⟨_, run_geqi rfl (hv0.trans hV0') rfl, congrArg Value.bool (decide_eq_true (by omega))⟩
        case s32 => refine kc fun _ ac Wd h hd => ?_; exact ⟨#[], by simp [], cL4Lives (hT.later h.k.below)⟩
        intro a12 w12 st12
        clear st11
        repeat first | refine wp_seq ?_ | refine wp_block ?_ | refine wp_skip ?_ | refine wp_exit ?_
        obtain ⟨vr, r1, r4⟩ := st12.slot (6, Vb (true)) (.tail _ (.tail _ (.tail _ (.tail _ (.tail _ (.tail _ (.tail _ (.tail _ (.tail _ (.head _))))))))))
        exact wp_ret (bodyPost_ret (results_tmp rfl _ _ _) st12.defers ⟨_, congrArg Ending.returned (show _ = vr from r1), r4, st12.k.below⟩)
    ·
      have s1 : cmpI c.num 0 = 0 := by rw [cmpS_if, if_neg hl, if_neg hp]
      repeat first | refine wp_seq ?_ | refine wp_block ?_ | refine wp_skip ?_ | refine wp_exit ?_
      refine rg (BT := [(27, 4, 0), (24, 2, 0)]) (Vl := [Vq 6 (c), Vi (cmpI (c).num 0), Vb (false), Vb (false), VT, VT, VT, VT, VT, VT, VT, VT, VT, Vb (false), Vb (false), Vq 6 (c), Vi (cmpI (c).num 0), Vb (false), Vb (false), VT, VT, VT, VT, VT, VT, VT, VT, VT, VT, Vb (false), Vb (false)]) (B := [⟨7, none, none, 27, 4, Vq 6 (a), VT⟩, ⟨8, none, none, 27, 4, Vq 6 (b), VT⟩, ⟨9, none, none, 27, 4, Vq 6 (c), VT⟩]) (SL' := [(0, VI l), (1, VI m), (2, VI n), (6, Vb (false)), (10, Vi (cmpQ (a) (b))), (57, Vb (false)), (88, Vb (false))]) st6 ⟨ks, ?s1, ?s2, ks, ks, ks, ks, ks, ks, ks, ks, ks, ks, ks, ks, ks, ?s16, ?s17, ks, ks, ks, ks, ks, ks, ks, ks, ks, ks, ks, ks, ks, trivial⟩ ?_
      case s1 => refine kc fun _ ac Wd h hd => ?_; obtain ⟨v0, hv0, hV0⟩ := h.dp hd 58; exact ⟨#[v0], by simp [hv0], cQSign (show Vq 6 (c) v0 Wd from hV0) (by omega)⟩
      case s2 =>
        refine kr fun _ ac Wd h hd => ?_
        obtain ⟨v0, hv0, hV0⟩ := h.dp hd 59
        have hV0' : v0 = .int .i64 (cmpI (c).num 0) := hV0
        exact ⟨_, run_gtri rfl (hv0.trans hV0') rfl, congrArg Value.bool (decide_eq_false (by omega))⟩
      case s16 => refine kc fun _ ac Wd h hd => ?_; obtain ⟨v0, hv0, hV0⟩ := h.dp hd 73; exact ⟨#[v0], by simp [hv0], cQSign (show Vq 6 (c) v0 Wd from hV0) (by omega)⟩
      case s17 =>
        refine kr fun _ ac Wd h hd => ?_
        obtain ⟨v0, hv0, hV0⟩ := h.dp hd 74
        have hV0' : v0 = .int .i64 (cmpI (c).num 0) := hV0
        exact ⟨_, run_lssi rfl (hv0.trans hV0') rfl, congrArg Value.bool (decide_eq_false (by omega))⟩
      intro a7 w7 st7
      clear st6
      repeat first | refine wp_seq ?_ | refine wp_block ?_ | refine wp_skip ?_ | refine wp_exit ?_
      obtain ⟨vc, hc1, hc2⟩ := st7.slot (88, Vb (false)) (.tail _ (.tail _ (.tail _ (.tail _ (.tail _ (.tail _ (.head _)))))))
      refine wp_cond_false (hc1.trans hc2) ?_
      clear hc1 hc2
      obtain ⟨lo, hi, hlo, hhi, hfc⟩ := fl_ce a
      repeat first | refine wp_seq ?_ | refine wp_block ?_ | refine wp_skip ?_ | refine wp_exit ?_
      refine rg (BT := [(27, 4, 0), (24, 2, 0)]) (Vl := [Vq 6 (a), Vz 6 (lo), VT, VT]) (B := [⟨7, none, none, 27, 4, Vq 6 (a), VT⟩, ⟨8, none, none, 27, 4, Vq 6 (b), VT⟩, ⟨9, none, none, 27, 4, Vq 6 (c), VT⟩, ⟨11, some 2, some 3, 24, 2, Vz 6 (lo), VT⟩]) (SL' := [(0, VI l), (1, VI m), (2, VI n), (6, Vb (false)), (10, Vi (cmpQ (a) (b))), (57, Vb (false)), (88, Vb (false))]) st7 ⟨ks, ?s1, ks, ks, trivial⟩ ?_
      case s1 =>
        refine kc fun _ ac Wd h hd => ?_
        obtain ⟨v0, hv0, hV0⟩ := h.dp hd 89
        exact ⟨#[v0], by simp [hv0], (cQFloor (show Vq 6 (a) v0 Wd from hV0) (by omega) (by omega)).mono fun e w h => h.le fun v w hv => by rw [hlo] at hv; exact hv⟩
      intro a8 w8 st8
      clear st7
      repeat first | refine wp_seq ?_ | refine wp_block ?_ | refine wp_skip ?_ | refine wp_exit ?_
      refine rg (BT := [(27, 4, 0), (24, 2, 0)]) (Vl := [Vq 6 (a), Vz 6 (hi), VT, VT]) (B := [⟨7, none, none, 27, 4, Vq 6 (a), VT⟩, ⟨8, none, none, 27, 4, Vq 6 (b), VT⟩, ⟨9, none, none, 27, 4, Vq 6 (c), VT⟩, ⟨11, none, none, 24, 2, Vz 6 (lo), VT⟩, ⟨12, some 2, some 3, 24, 2, Vz 6 (hi), VT⟩]) (SL' := [(0, VI l), (1, VI m), (2, VI n), (6, Vb (false)), (10, Vi (cmpQ (a) (b))), (57, Vb (false)), (88, Vb (false))]) st8 ⟨ks, ?s1, ks, ks, trivial⟩ ?_
      case s1 =>
        refine kc fun _ ac Wd h hd => ?_
        obtain ⟨v0, hv0, hV0⟩ := h.dp hd 91
        exact ⟨#[v0], by simp [hv0], (cQCeil (show Vq 6 (a) v0 Wd from hV0) (by omega) (by omega)).mono fun e w h => h.le fun v w hv => by rw [hhi] at hv; exact hv⟩
      intro a9 w9 st9
      clear st8
      by_cases hA : lo = hi ∧ Rat.divInt lo 1 = a
      ·
        have hgap : hi - lo = 0 := by omega
        have ha := hA.2
        have c1 : cmpQ (Rat.divInt lo 1) a = 0 := cmpQ_eq.2 ha
        have c2 : cmpQ (Rat.divInt hi 1) a = 0 := by rw [← hA.1]; exact c1
        repeat first | refine wp_seq ?_ | refine wp_block ?_ | refine wp_skip ?_ | refine wp_exit ?_
        refine rg (BT := [(27, 4, 0), (24, 2, 0)]) (Vl := [Vz 6 (hi), Vz 6 (lo), Vz (max 6 6 + 1) ((hi) - (lo)), VTup (Vi (0)) (Vb (true)), VTup (Vi (0)) (Vb (true)), Vi (0), Vb (true), Vi (0), Vb (true)]) (B := [⟨7, none, none, 27, 4, Vq 6 (a), VT⟩, ⟨8, none, none, 27, 4, Vq 6 (b), VT⟩, ⟨9, none, none, 27, 4, Vq 6 (c), VT⟩, ⟨11, none, none, 24, 2, Vz 6 (lo), VT⟩, ⟨12, none, none, 24, 2, Vz 6 (hi), VT⟩]) (SL' := [(0, VI l), (1, VI m), (2, VI n), (6, Vb (false)), (10, Vi (cmpQ (a) (b))), (57, Vb (false)), (88, Vb (false)), (13, Vi (0)), (14, Vb (true))]) st9 ⟨ks, ks, ?s2, ?s3, ks, ks, ks, ks, ks, trivial⟩ ?_
        case s2 =>
          refine kc fun _ ac Wd h hd => ?_
          obtain ⟨v0, hv0, hV0⟩ := h.dp hd 94
          obtain ⟨v1, hv1, hV1⟩ := h.dp hd 95
          exact ⟨#[v0, v1], by simp [hv0, hv1], cSub (Na := 6) (Nb := 6) (show Vz 6 (hi) v0 Wd from hV0) (show Vz 6 (lo) v1 Wd from hV1) (by omega) (by omega)⟩
        case s3 =>
          refine kc fun _ ac Wd h hd => ?_
          obtain ⟨v0, hv0, hV0⟩ := h.dp hd 96
          exact ⟨#[v0], by simp [hv0], (cSmall (show Vz (max 6 6 + 1) ((hi) - (lo)) v0 Wd from hV0) (by omega)).mono fun e w h => small_of hgap (by omega) (by omega) h⟩
        intro a10 w10 st10
        clear st9
        repeat first | refine wp_seq ?_ | refine wp_block ?_ | refine wp_skip ?_ | refine wp_exit ?_
        refine rg (BT := [(27, 4, 0), (24, 2, 0)]) (Vl := [Vz 6 (lo), Vz 1 (1), Vq (max 6 1) (Rat.divInt (lo) (1)), Vq 6 (a), Vi (cmpQ (Rat.divInt (lo) (1)) (a)), Vb (true), Vb (true)]) (B := [⟨7, none, none, 27, 4, Vq 6 (a), VT⟩, ⟨8, none, none, 27, 4, Vq 6 (b), VT⟩, ⟨9, none, none, 27, 4, Vq 6 (c), VT⟩, ⟨11, none, none, 24, 2, Vz 6 (lo), VT⟩, ⟨12, none, none, 24, 2, Vz 6 (hi), VT⟩]) (SL' := [(0, VI l), (1, VI m), (2, VI n), (6, Vb (false)), (10, Vi (cmpQ (a) (b))), (57, Vb (false)), (88, Vb (false)), (13, Vi (0)), (14, Vb (true)), (15, Vb (true))]) st10 ⟨ks, ?s1, ?s2, ks, ?s4, ?s5, ks, trivial⟩ ?_
        case s1 => refine kc fun _ ac Wd h hd => ?_; exact ⟨#[.int .i64 (1)], by simp [eval_const], cOf1⟩
        case s2 =>
          refine kc fun _ ac Wd h hd => ?_
          obtain ⟨v0, hv0, hV0⟩ := h.dp hd 100
          obtain ⟨v1, hv1, hV1⟩ := h.dp hd 101
          exact ⟨#[v0, v1], by simp [hv0, hv1], cQMake (Na := 6) (Nb := 1) (show Vz 6 (lo) v0 Wd from hV0) (show Vz 1 (1) v1 Wd from hV1) (by omega) (by omega) (by omega) (by omega)⟩
        case s4 =>
          refine kc fun _ ac Wd h hd => ?_
          obtain ⟨v0, hv0, hV0⟩ := h.dp hd 102
          obtain ⟨v1, hv1, hV1⟩ := h.dp hd 103
          exact ⟨#[v0, v1], by simp [hv0, hv1], cQCompare (Na := (max 6 1)) (Nb := 6) (show Vq (max 6 1) (Rat.divInt (lo) (1)) v0 Wd from hV0) (show Vq 6 (a) v1 Wd from hV1) (by omega) (by omega) (by omega) (by omega)⟩
        case s5 =>
          refine kr fun _ ac Wd h hd => ?_
          obtain ⟨v0, hv0, hV0⟩ := h.dp hd 104
          have hV0' : v0 = .int .i64 (cmpQ (Rat.divInt (lo) (1)) (a)) := hV0
          exact ⟨_, run_eqi rfl (hv0.trans hV0') rfl, congrArg Value.bool (by rw [c1]; rfl)⟩
        intro a11 w11 st11
        clear st10
        repeat first | refine wp_seq ?_ | refine wp_block ?_ | refine wp_skip ?_ | refine wp_exit ?_
        refine rg (BT := [(27, 4, 0), (24, 2, 0)]) (Vl := [Vb (true), Vb (true), Vi (0), Vb (true), Vb (true), Vb (true), Vb (true), Vb (true), Vi (0), Vb (true), Vb (true), Vb (true), Vi (0), Vb (true), Vb (true), Vb (true), Vz 6 (lo), Vz 1 (1), Vq (max 6 1) (Rat.divInt (lo) (1)), Vq 6 (a), Vi (cmpQ (Rat.divInt (lo) (1)) (a)), Vb (true), Vb (true), Vb (true), Vz 6 (hi), Vz 1 (1), Vq (max 6 1) (Rat.divInt (hi) (1)), Vq 6 (a), Vi (cmpQ (Rat.divInt (hi) (1)) (a)), Vb (true), Vb (true), Vb (true), Vb (true), Vb (true), Vb (true)]) (B := [⟨7, none, none, 27, 4, Vq 6 (a), VT⟩, ⟨8, none, none, 27, 4, Vq 6 (b), VT⟩, ⟨9, none, none, 27, 4, Vq 6 (c), VT⟩, ⟨11, none, none, 24, 2, Vz 6 (lo), VT⟩, ⟨12, none, none, 24, 2, Vz 6 (hi), VT⟩]) (SL' := [(0, VI l), (1, VI m), (2, VI n), (10, Vi (cmpQ (a) (b))), (57, Vb (false)), (88, Vb (false)), (13, Vi (0)), (14, Vb (true)), (15, Vb (true)), (6, Vb (true))]) st11 ⟨ks, ks, ks, ?s3, ks, ?s5, ks, ks, ks, ?s9, ks, ks, ks, ?s13, ks, ks, ks, ?s17, ?s18, ks, ?s20, ?s21, ks, ks, ks, ?s25, ?s26, ks, ?s28, ?s29, ks, ks, ?s32, ks, ks, trivial⟩ ?_
        case s3 => refine kr fun _ ac Wd h hd => ?_; obtain ⟨v0, hv0, hV0⟩ := h.dp hd 108; have hV0' : v0 = .int .i64 (0) := hV0; exact ⟨_, run_eqi rfl (hv0.trans hV0') rfl, congrArg Value.bool (rfl)⟩
        case s5 => refine kr fun _ ac Wd h hd => ?_; obtain ⟨v0, hv0, hV0⟩ := h.dp hd 109; obtain ⟨v1, hv1, hV1⟩ := h.dp hd 110; exact ⟨_, run_eqb rfl (hv0.trans hV0) (hv1.trans hV1), congrArg Value.bool (rfl)⟩
        case s9 => refine kr fun _ ac Wd h hd => ?_; obtain ⟨v0, hv0, hV0⟩ := h.dp hd 114; have hV0' : v0 = .int .i64 (0) := hV0; exact ⟨_, run_geqi rfl (hv0.trans hV0') rfl, congrArg Value.bool (decide_eq_true (by omega))⟩
        case s13 => refine kr fun _ ac Wd h hd => ?_; obtain ⟨v0, hv0, hV0⟩ := h.dp hd 118; have hV0' : v0 = .int .i64 (0) := hV0; exact ⟨_, run_leqi rfl (hv0.trans hV0') rfl, congrArg Value.bool (decide_eq_true (by omega))⟩
        case s17 => refine kc fun _ ac Wd h hd => ?_; exact ⟨#[.int .i64 (1)], by simp [eval_const], cOf1⟩
        case s18 =>
          refine kc fun _ ac Wd h hd => ?_
          obtain ⟨v0, hv0, hV0⟩ := h.dp hd 122
          obtain ⟨v1, hv1, hV1⟩ := h.dp hd 123
          exact ⟨#[v0, v1], by simp [hv0, hv1], cQMake (Na := 6) (Nb := 1) (show Vz 6 (lo) v0 Wd from hV0) (show Vz 1 (1) v1 Wd from hV1) (by omega) (by omega) (by omega) (by omega)⟩
        case s20 =>
          refine kc fun _ ac Wd h hd => ?_
          obtain ⟨v0, hv0, hV0⟩ := h.dp hd 124
          obtain ⟨v1, hv1, hV1⟩ := h.dp hd 125
          exact ⟨#[v0, v1], by simp [hv0, hv1], cQCompare (Na := (max 6 1)) (Nb := 6) (show Vq (max 6 1) (Rat.divInt (lo) (1)) v0 Wd from hV0) (show Vq 6 (a) v1 Wd from hV1) (by omega) (by omega) (by omega) (by omega)⟩
        case s21 =>
          refine kr fun _ ac Wd h hd => ?_
          obtain ⟨v0, hv0, hV0⟩ := h.dp hd 126
          have hV0' : v0 = .int .i64 (cmpQ (Rat.divInt (lo) (1)) (a)) := hV0
          exact ⟨_, run_leqi rfl (hv0.trans hV0') rfl, congrArg Value.bool (decide_eq_true (by omega))⟩
        case s25 => refine kc fun _ ac Wd h hd => ?_; exact ⟨#[.int .i64 (1)], by simp [eval_const], cOf1⟩
        case s26 =>
          refine kc fun _ ac Wd h hd => ?_
          obtain ⟨v0, hv0, hV0⟩ := h.dp hd 130
          obtain ⟨v1, hv1, hV1⟩ := h.dp hd 131
          exact ⟨#[v0, v1], by simp [hv0, hv1], cQMake (Na := 6) (Nb := 1) (show Vz 6 (hi) v0 Wd from hV0) (show Vz 1 (1) v1 Wd from hV1) (by omega) (by omega) (by omega) (by omega)⟩
        case s28 =>
          refine kc fun _ ac Wd h hd => ?_
          obtain ⟨v0, hv0, hV0⟩ := h.dp hd 132
          obtain ⟨v1, hv1, hV1⟩ := h.dp hd 133
          exact ⟨#[v0, v1], by simp [hv0, hv1], cQCompare (Na := (max 6 1)) (Nb := 6) (show Vq (max 6 1) (Rat.divInt (hi) (1)) v0 Wd from hV0) (show Vq 6 (a) v1 Wd from hV1) (by omega) (by omega) (by omega) (by omega)⟩
        case s29 =>
          refine kr fun _ ac Wd h hd => ?_
          obtain ⟨v0, hv0, hV0⟩ := h.dp hd 134
          have hV0' : v0 = .int .i64 (cmpQ (Rat.divInt (hi) (1)) (a)) := hV0
          exact ⟨_, run_geqi rfl (hv0.trans hV0') rfl, congrArg Value.bool (decide_eq_true (by omega))⟩
        case s32 => refine kc fun _ ac Wd h hd => ?_; exact ⟨#[], by simp [], cL4Lives (hT.later h.k.below)⟩
        intro a12 w12 st12
        clear st11
        repeat first | refine wp_seq ?_ | refine wp_block ?_ | refine wp_skip ?_ | refine wp_exit ?_
        obtain ⟨vr, r1, r4⟩ := st12.slot (6, Vb (true)) (.tail _ (.tail _ (.tail _ (.tail _ (.tail _ (.tail _ (.tail _ (.tail _ (.tail _ (.head _))))))))))
        exact wp_ret (bodyPost_ret (results_tmp rfl _ _ _) st12.defers ⟨_, congrArg Ending.returned (show _ = vr from r1), r4, st12.k.below⟩)
      ·
        have hB := hfc.resolve_left hA
        have hgap : hi - lo = 1 := by omega
        have c1 : cmpQ (Rat.divInt lo 1) a = -1 := cmpQ_lt.2 hB.2.1
        have c2 : cmpQ (Rat.divInt hi 1) a = 1 := cmpQ_gt.2 hB.2.2
        repeat first | refine wp_seq ?_ | refine wp_block ?_ | refine wp_skip ?_ | refine wp_exit ?_
        refine rg (BT := [(27, 4, 0), (24, 2, 0)]) (Vl := [Vz 6 (hi), Vz 6 (lo), Vz (max 6 6 + 1) ((hi) - (lo)), VTup (Vi (1)) (Vb (true)), VTup (Vi (1)) (Vb (true)), Vi (1), Vb (true), Vi (1), Vb (true)]) (B := [⟨7, none, none, 27, 4, Vq 6 (a), VT⟩, ⟨8, none, none, 27, 4, Vq 6 (b), VT⟩, ⟨9, none, none, 27, 4, Vq 6 (c), VT⟩, ⟨11, none, none, 24, 2, Vz 6 (lo), VT⟩, ⟨12, none, none, 24, 2, Vz 6 (hi), VT⟩]) (SL' := [(0, VI l), (1, VI m), (2, VI n), (6, Vb (false)), (10, Vi (cmpQ (a) (b))), (57, Vb (false)), (88, Vb (false)), (13, Vi (1)), (14, Vb (true))]) st9 ⟨ks, ks, ?s2, ?s3, ks, ks, ks, ks, ks, trivial⟩ ?_
        case s2 =>
          refine kc fun _ ac Wd h hd => ?_
          obtain ⟨v0, hv0, hV0⟩ := h.dp hd 94
          obtain ⟨v1, hv1, hV1⟩ := h.dp hd 95
          exact ⟨#[v0, v1], by simp [hv0, hv1], cSub (Na := 6) (Nb := 6) (show Vz 6 (hi) v0 Wd from hV0) (show Vz 6 (lo) v1 Wd from hV1) (by omega) (by omega)⟩
        case s3 =>
          refine kc fun _ ac Wd h hd => ?_
          obtain ⟨v0, hv0, hV0⟩ := h.dp hd 96
          exact ⟨#[v0], by simp [hv0], (cSmall (show Vz (max 6 6 + 1) ((hi) - (lo)) v0 Wd from hV0) (by omega)).mono fun e w h => small_of hgap (by omega) (by omega) h⟩
        intro a10 w10 st10
        clear st9
        repeat first | refine wp_seq ?_ | refine wp_block ?_ | refine wp_skip ?_ | refine wp_exit ?_
        refine rg (BT := [(27, 4, 0), (24, 2, 0)]) (Vl := [Vz 6 (lo), Vz 1 (1), Vq (max 6 1) (Rat.divInt (lo) (1)), Vq 6 (a), Vi (cmpQ (Rat.divInt (lo) (1)) (a)), Vb (false), Vb (false)]) (B := [⟨7, none, none, 27, 4, Vq 6 (a), VT⟩, ⟨8, none, none, 27, 4, Vq 6 (b), VT⟩, ⟨9, none, none, 27, 4, Vq 6 (c), VT⟩, ⟨11, none, none, 24, 2, Vz 6 (lo), VT⟩, ⟨12, none, none, 24, 2, Vz 6 (hi), VT⟩]) (SL' := [(0, VI l), (1, VI m), (2, VI n), (6, Vb (false)), (10, Vi (cmpQ (a) (b))), (57, Vb (false)), (88, Vb (false)), (13, Vi (1)), (14, Vb (true)), (15, Vb (false))]) st10 ⟨ks, ?s1, ?s2, ks, ?s4, ?s5, ks, trivial⟩ ?_
        case s1 => refine kc fun _ ac Wd h hd => ?_; exact ⟨#[.int .i64 (1)], by simp [eval_const], cOf1⟩
        case s2 =>
          refine kc fun _ ac Wd h hd => ?_
          obtain ⟨v0, hv0, hV0⟩ := h.dp hd 100
          obtain ⟨v1, hv1, hV1⟩ := h.dp hd 101
          exact ⟨#[v0, v1], by simp [hv0, hv1], cQMake (Na := 6) (Nb := 1) (show Vz 6 (lo) v0 Wd from hV0) (show Vz 1 (1) v1 Wd from hV1) (by omega) (by omega) (by omega) (by omega)⟩
        case s4 =>
          refine kc fun _ ac Wd h hd => ?_
          obtain ⟨v0, hv0, hV0⟩ := h.dp hd 102
          obtain ⟨v1, hv1, hV1⟩ := h.dp hd 103
          exact ⟨#[v0, v1], by simp [hv0, hv1], cQCompare (Na := (max 6 1)) (Nb := 6) (show Vq (max 6 1) (Rat.divInt (lo) (1)) v0 Wd from hV0) (show Vq 6 (a) v1 Wd from hV1) (by omega) (by omega) (by omega) (by omega)⟩
        case s5 =>
          refine kr fun _ ac Wd h hd => ?_
          obtain ⟨v0, hv0, hV0⟩ := h.dp hd 104
          have hV0' : v0 = .int .i64 (cmpQ (Rat.divInt (lo) (1)) (a)) := hV0
          exact ⟨_, run_eqi rfl (hv0.trans hV0') rfl, congrArg Value.bool (by rw [c1]; rfl)⟩
        intro a11 w11 st11
        clear st10
        repeat first | refine wp_seq ?_ | refine wp_block ?_ | refine wp_skip ?_ | refine wp_exit ?_
        refine rg (BT := [(27, 4, 0), (24, 2, 0)]) (Vl := [Vb (true), Vb (true), Vi (1), Vb (false), Vb (false), Vb (true), Vb (true), Vb (true), Vi (1), Vb (true), Vb (true), Vb (true), Vi (1), Vb (true), Vb (true), Vb (true), Vz 6 (lo), Vz 1 (1), Vq (max 6 1) (Rat.divInt (lo) (1)), Vq 6 (a), Vi (cmpQ (Rat.divInt (lo) (1)) (a)), Vb (true), Vb (true), Vb (true), Vz 6 (hi), Vz 1 (1), Vq (max 6 1) (Rat.divInt (hi) (1)), Vq 6 (a), Vi (cmpQ (Rat.divInt (hi) (1)) (a)), Vb (true), Vb (true), Vb (true), Vb (true), Vb (true), Vb (true)]) (B := [⟨7, none, none, 27, 4, Vq 6 (a), VT⟩, ⟨8, none, none, 27, 4, Vq 6 (b), VT⟩, ⟨9, none, none, 27, 4, Vq 6 (c), VT⟩, ⟨11, none, none, 24, 2, Vz 6 (lo), VT⟩, ⟨12, none, none, 24, 2, Vz 6 (hi), VT⟩]) (SL' := [(0, VI l), (1, VI m), (2, VI n), (10, Vi (cmpQ (a) (b))), (57, Vb (false)), (88, Vb (false)), (13, Vi (1)), (14, Vb (true)), (15, Vb (false)), (6, Vb (true))]) st11 ⟨ks, ks, ks, ?s3, ks, ?s5, ks, ks, ks, ?s9, ks, ks, ks, ?s13, ks, ks, ks, ?s17, ?s18, ks, ?s20, ?s21, ks, ks, ks, ?s25, ?s26, ks, ?s28, ?s29, ks, ks, ?s32, ks, ks, trivial⟩ ?_
        case s3 => refine kr fun _ ac Wd h hd => ?_; obtain ⟨v0, hv0, hV0⟩ := h.dp hd 108; have hV0' : v0 = .int .i64 (1) := hV0; exact ⟨_, run_eqi rfl (hv0.trans hV0') rfl, congrArg Value.bool (rfl)⟩
        case s5 => refine kr fun _ ac Wd h hd => ?_; obtain ⟨v0, hv0, hV0⟩ := h.dp hd 109; obtain ⟨v1, hv1, hV1⟩ := h.dp hd 110; exact ⟨_, run_eqb rfl (hv0.trans hV0) (hv1.trans hV1), congrArg Value.bool (rfl)⟩
        case s9 => refine kr fun _ ac Wd h hd => ?_; obtain ⟨v0, hv0, hV0⟩ := h.dp hd 114; have hV0' : v0 = .int .i64 (1) := hV0; exact ⟨_, run_geqi rfl (hv0.trans hV0') rfl, congrArg Value.bool (decide_eq_true (by omega))⟩
        case s13 => refine kr fun _ ac Wd h hd => ?_; obtain ⟨v0, hv0, hV0⟩ := h.dp hd 118; have hV0' : v0 = .int .i64 (1) := hV0; exact ⟨_, run_leqi rfl (hv0.trans hV0') rfl, congrArg Value.bool (decide_eq_true (by omega))⟩
        case s17 => refine kc fun _ ac Wd h hd => ?_; exact ⟨#[.int .i64 (1)], by simp [eval_const], cOf1⟩
        case s18 =>
          refine kc fun _ ac Wd h hd => ?_
          obtain ⟨v0, hv0, hV0⟩ := h.dp hd 122
          obtain ⟨v1, hv1, hV1⟩ := h.dp hd 123
          exact ⟨#[v0, v1], by simp [hv0, hv1], cQMake (Na := 6) (Nb := 1) (show Vz 6 (lo) v0 Wd from hV0) (show Vz 1 (1) v1 Wd from hV1) (by omega) (by omega) (by omega) (by omega)⟩
        case s20 =>
          refine kc fun _ ac Wd h hd => ?_
          obtain ⟨v0, hv0, hV0⟩ := h.dp hd 124
          obtain ⟨v1, hv1, hV1⟩ := h.dp hd 125
          exact ⟨#[v0, v1], by simp [hv0, hv1], cQCompare (Na := (max 6 1)) (Nb := 6) (show Vq (max 6 1) (Rat.divInt (lo) (1)) v0 Wd from hV0) (show Vq 6 (a) v1 Wd from hV1) (by omega) (by omega) (by omega) (by omega)⟩
        case s21 =>
          refine kr fun _ ac Wd h hd => ?_
          obtain ⟨v0, hv0, hV0⟩ := h.dp hd 126
          have hV0' : v0 = .int .i64 (cmpQ (Rat.divInt (lo) (1)) (a)) := hV0
          exact ⟨_, run_leqi rfl (hv0.trans hV0') rfl, congrArg Value.bool (decide_eq_true (by omega))⟩
        case s25 => refine kc fun _ ac Wd h hd => ?_; exact ⟨#[.int .i64 (1)], by simp [eval_const], cOf1⟩
        case s26 =>
          refine kc fun _ ac Wd h hd => ?_
          obtain ⟨v0, hv0, hV0⟩ := h.dp hd 130
          obtain ⟨v1, hv1, hV1⟩ := h.dp hd 131
          exact ⟨#[v0, v1], by simp [hv0, hv1], cQMake (Na := 6) (Nb := 1) (show Vz 6 (hi) v0 Wd from hV0) (show Vz 1 (1) v1 Wd from hV1) (by omega) (by omega) (by omega) (by omega)⟩
        case s28 =>
          refine kc fun _ ac Wd h hd => ?_
          obtain ⟨v0, hv0, hV0⟩ := h.dp hd 132
          obtain ⟨v1, hv1, hV1⟩ := h.dp hd 133
          exact ⟨#[v0, v1], by simp [hv0, hv1], cQCompare (Na := (max 6 1)) (Nb := 6) (show Vq (max 6 1) (Rat.divInt (hi) (1)) v0 Wd from hV0) (show Vq 6 (a) v1 Wd from hV1) (by omega) (by omega) (by omega) (by omega)⟩
        case s29 =>
          refine kr fun _ ac Wd h hd => ?_
          obtain ⟨v0, hv0, hV0⟩ := h.dp hd 134
          have hV0' : v0 = .int .i64 (cmpQ (Rat.divInt (hi) (1)) (a)) := hV0
          exact ⟨_, run_geqi rfl (hv0.trans hV0') rfl, congrArg Value.bool (decide_eq_true (by omega))⟩
        case s32 => refine kc fun _ ac Wd h hd => ?_; exact ⟨#[], by simp [], cL4Lives (hT.later h.k.below)⟩
        intro a12 w12 st12
        clear st11
        repeat first | refine wp_seq ?_ | refine wp_block ?_ | refine wp_skip ?_ | refine wp_exit ?_
        obtain ⟨vr, r1, r4⟩ := st12.slot (6, Vb (true)) (.tail _ (.tail _ (.tail _ (.tail _ (.tail _ (.tail _ (.tail _ (.tail _ (.tail _ (.head _))))))))))
        exact wp_ret (bodyPost_ret (results_tmp rfl _ _ _) st12.defers ⟨_, congrArg Ending.returned (show _ = vr from r1), r4, st12.k.below⟩)
end Go.Proofs.YtleijkgdpmfabaaGreatDoor
