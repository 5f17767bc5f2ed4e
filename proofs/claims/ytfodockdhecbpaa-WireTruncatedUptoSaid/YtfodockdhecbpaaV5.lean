/- WireOrder: the encodings have the order of the integers. -/
import Derived.Test.YtfodockdhecbpaaW23
import Derived.Deep.RegionWith
import Derived.Deep.RegionHeld3
import Derived.Deep.DeepCutAuto
namespace Go.Proofs.Ytfodockdhecbpaa
open Go.RowKit

theorem enc_inj {m n : Int} (h1 : -9223372036854775808 ≤ m) (h2 : m ≤ 9223372036854775807) (h3 : -9223372036854775808 ≤ n) (h4 : n ≤ 9223372036854775807) (h : enc m = enc n) : m = n := by
  have a := gi_enc m [] h1 h2
  have b := gi_enc n [] h3 h4
  rw [h, b] at a
  simp only [Prod.mk.injEq] at a
  exact a.1.symm

theorem enc_prefix {m n : Int} (h1 : -9223372036854775808 ≤ m) (h2 : m ≤ 9223372036854775807) (h3 : -9223372036854775808 ≤ n) (h4 : n ≤ 9223372036854775807) (k : Nat) (hk : k = min (enc m).length (enc n).length) (h : (enc m).take k = (enc n).take k) : m = n := by
  rcases Nat.le_total (enc m).length (enc n).length with hl | hl
  · rw [Nat.min_eq_left hl] at hk
    rw [hk, List.take_of_length_le (Nat.le_refl _)] at h
    have e : enc n = enc m ++ (enc n).drop (enc m).length := by
      conv => lhs; rw [← List.take_append_drop (enc m).length (enc n)]
      rw [← h]
    have a := gi_enc m ((enc n).drop (enc m).length) h1 h2
    have b := gi_enc n [] h3 h4
    rw [← e] at a
    rw [List.append_nil, a] at b
    simp only [Prod.mk.injEq] at b
    exact b.1
  · rw [Nat.min_eq_right hl] at hk
    rw [hk, List.take_of_length_le (Nat.le_refl (enc n).length)] at h
    have e : enc m = enc n ++ (enc m).drop (enc n).length := by
      conv => lhs; rw [← List.take_append_drop (enc n).length (enc m)]
      rw [h]
    have a := gi_enc n ((enc m).drop (enc n).length) h3 h4
    have b := gi_enc m [] h1 h2
    rw [← e] at a
    rw [List.append_nil, a] at b
    simp only [Prod.mk.injEq] at b
    exact b.1.symm

theorem less_snoc : ∀ (x y : List UInt8) (c d : UInt8), x.length = y.length → Op.bytesLess (x ++ [c]) (y ++ [d]) = (Op.bytesLess x y || (x == y && decide (c < d)))
  | [], [], c, d, _ => by simp [Op.bytesLess]
  | a :: x, b :: y, c, d, h => by
    have ih := less_snoc x y c d (by simpa using h)
    simp only [List.cons_append, Op.bytesLess, ih]
    by_cases h1 : a < b
    · simp [h1]
    · by_cases h2 : a = b
      · subst h2; simp [h1]
      · have : (a == b) = false := by simpa using h2
        simp [h1, this]

theorem lows_inj (k a b : Nat) (ha : a < 256 ^ k) (hb : b < 256 ^ k) (h : lows k a = lows k b) : a = b := by
  have h1 := mag_lows false k a
  have h2 := mag_lows false k b
  rw [h, h2, Nat.mod_eq_of_lt ha, Nat.mod_eq_of_lt hb] at h1
  exact h1.symm

theorem fx_inj (g : Bool) {a b : UInt8} (h : fx g a = fx g b) : a = b := by rw [← fx_fx g a, h, fx_fx]
theorem map_fx_inj (g : Bool) {x y : List UInt8} (h : x.map (fx g) = y.map (fx g)) : x = y := by
  have := congrArg (List.map (fx g)) h
  simpa [List.map_map, Function.comp_def, fx_fx] using this

theorem fx_lt (g : Bool) (a b : UInt8) : decide (fx g a < fx g b) = if g then decide (b < a) else decide (a < b) := by
  have ha := a.toNat_lt
  have hb := b.toNat_lt
  cases g
  · rfl
  · rw [if_pos rfl]
    apply decide_eq_decide.2
    rw [UInt8.lt_iff_toNat_lt, UInt8.lt_iff_toNat_lt, fx_nat, fx_nat]
    simp only [if_true]
    omega

theorem less_lows (g : Bool) : ∀ (k a b : Nat), a < 256 ^ k → b < 256 ^ k → Op.bytesLess ((lows k a).map (fx g)) ((lows k b).map (fx g)) = if g then decide (b < a) else decide (a < b)
  | 0, a, b, ha, hb => by
    have h1 : a = 0 := by simpa using ha
    have h2 : b = 0 := by simpa using hb
    subst h1 h2
    cases g <;> rfl
  | k + 1, a, b, ha, hb => by
    have ha' : a / 256 < 256 ^ k := by rw [Nat.pow_succ] at ha; omega
    have hb' : b / 256 < 256 ^ k := by rw [Nat.pow_succ] at hb; omega
    have ih := less_lows g k (a / 256) (b / 256) ha' hb'
    simp only [lows, List.map_append, List.map_cons, List.map_nil]
    rw [less_snoc _ _ _ _ (by simp [lows_length]), ih, fx_lt]
    have e : ((lows k (a / 256)).map (fx g) == (lows k (b / 256)).map (fx g)) = decide (a / 256 = b / 256) := by
      rw [Bool.eq_iff_iff, beq_iff_eq, decide_eq_true_eq]
      exact ⟨fun h => lows_inj k _ _ ha' hb' (map_fx_inj g h), fun h => by rw [h]⟩
    rw [e]
    have hm : ∀ x : Nat, (UInt8.ofNat (x % 256)).toNat = x % 256 := fun x => UInt8.toNat_ofNat_of_lt' (by have := Nat.mod_lt x (show 0 < 256 by omega); simpa using this)
    have h1 : decide (UInt8.ofNat (a % 256) < UInt8.ofNat (b % 256)) = decide (a % 256 < b % 256) := by
      apply decide_eq_decide.2
      rw [UInt8.lt_iff_toNat_lt, hm, hm]
    have h2 : decide (UInt8.ofNat (b % 256) < UInt8.ofNat (a % 256)) = decide (b % 256 < a % 256) := by
      apply decide_eq_decide.2
      rw [UInt8.lt_iff_toNat_lt, hm, hm]
    cases g
    · simp only [Bool.false_eq_true, if_false, h1]
      rw [Bool.eq_iff_iff]
      simp only [Bool.or_eq_true, Bool.and_eq_true, decide_eq_true_eq]
      omega
    · simp only [if_true, h2]
      rw [Bool.eq_iff_iff]
      simp only [Bool.or_eq_true, Bool.and_eq_true, decide_eq_true_eq]
      omega

theorem hd_nat (g : Bool) (k : Nat) (h : k ≤ 8) : (hd g k).toNat = if g then 127 - k else 128 + k := by
  unfold hd
  cases g
  · simp only [Bool.false_eq_true, if_false]
    rw [UInt8.toNat_ofNat_of_lt' (by show _ < 256; omega)]
  · simp only [if_true]
    rw [UInt8.toNat_ofNat_of_lt' (by show _ < 256; omega)]

theorem nd_mono {a b : Nat} (ha : a < 9223372036854775808) (hb : b < 9223372036854775808) (h : nd a < nd b) : a < b := by
  rcases Nat.lt_or_ge a b with h2 | h2
  · exact h2
  · exfalso
    have h3 := nd_lt a ha
    have h4 : b / 256 ^ nd a = 0 := Nat.div_eq_of_lt (by omega)
    have := (nd_zero b (nd a) hb (nd_le a)).1 h4
    omega

theorem less_enc (m n : Int) (h1 : -9223372036854775808 ≤ m) (h2 : m ≤ 9223372036854775807) (h3 : -9223372036854775808 ≤ n) (h4 : n ≤ 9223372036854775807) : Op.bytesLess (enc m) (enc n) = decide (m < n) := by
  have a := mgn_lt m h1 h2
  have b := mgn_lt n h3 h4
  have hm := sgn_mgn m
  have hn := sgn_mgn n
  have km := nd_le (mgn m)
  have kn := nd_le (mgn n)
  have lm := nd_lt _ a
  have ln := nd_lt _ b
  have mo1 := @nd_mono (mgn m) (mgn n) a b
  have mo2 := @nd_mono (mgn n) (mgn m) b a
  unfold enc
  simp only [Op.bytesLess]
  have h8 : ∀ x y : UInt8, decide (x < y) = decide (x.toNat < y.toNat) := fun x y => decide_eq_decide.2 UInt8.lt_iff_toNat_lt
  have h9 : ∀ x y : UInt8, (x == y) = decide (x.toNat = y.toNat) := fun x y => by rw [Bool.eq_iff_iff, beq_iff_eq, decide_eq_true_eq, UInt8.toNat_inj]
  rw [h8, h9, hd_nat _ _ km, hd_nat _ _ kn]
  cases gm : neg m <;> cases gn : neg n <;> rw [gm] at hm <;> rw [gn] at hn <;> simp only [sgn, Bool.false_eq_true, if_false, if_true] at hm hn ⊢
  · by_cases e : nd (mgn m) = nd (mgn n)
    · have := less_lows false (nd (mgn m)) (mgn m) (mgn n) lm (by rw [e]; exact ln)
      rw [← e, this]
      simp
      omega
    · rw [Bool.eq_iff_iff]
      simp only [Bool.or_eq_true, Bool.and_eq_true, decide_eq_true_eq]
      constructor
      · rintro (h | ⟨h, _⟩)
        · have := mo1 (by omega); omega
        · omega
      · intro h
        left
        rcases Nat.lt_or_ge (nd (mgn m)) (nd (mgn n)) with q | q
        · omega
        · have := mo2 (by omega); omega
  · rw [Bool.eq_iff_iff]
    simp only [Bool.or_eq_true, Bool.and_eq_true, decide_eq_true_eq]
    constructor
    · rintro (h | ⟨h, _⟩) <;> omega
    · intro h; omega
  · rw [Bool.eq_iff_iff]
    simp only [Bool.or_eq_true, Bool.and_eq_true, decide_eq_true_eq]
    constructor
    · intro; omega
    · intro h; left; omega
  · by_cases e : nd (mgn m) = nd (mgn n)
    · have := less_lows true (nd (mgn m)) (mgn m) (mgn n) lm (by rw [e]; exact ln)
      rw [← e, this]
      simp
      omega
    · rw [Bool.eq_iff_iff]
      simp only [Bool.or_eq_true, Bool.and_eq_true, decide_eq_true_eq]
      constructor
      · rintro (h | ⟨h, _⟩)
        · have := mo2 (by omega); omega
        · omega
      · intro h
        left
        rcases Nat.lt_or_ge (nd (mgn n)) (nd (mgn m)) with q | q
        · omega
        · have := mo1 (by omega); omega

theorem bs_toList (l : List UInt8) : (bs l).toList = l := by rw [ByteArray.toList_eq]; rfl
theorem bs_size (l : List UInt8) : (bs l).size = l.length := by rw [← sl_length, sl_bs]
theorem bs_extract (l : List UInt8) (k : Nat) : ((bs l).extract 0 k).toList = l.take k := by
  rw [ByteArray.toList_eq]
  show ((bs l).extract 0 k).data.toList = _
  simp [ByteArray.data_extract, bs]

/-- two encodings as strings -/
def OrdCut (w : World) (m n : Int) (s5 s6 : Value) (wx : World) : Prop := s5 = .string (bs (enc m)) ∧ s6 = .string (bs (enc n)) ∧ Below w.heap.size w wx

theorem cv_enc (w : World) (p : Option Addr) (c : Nat) (l : List UInt8) (hR : Rd w p l) : (convert 28 9 (.slice p l.length c)).run Try.prog w = .ok (.string (bs l)) w :=
  run_bytes_string _ 5 _ Try.underlying28 Try.underlying5 Try.underlying9 w p _ c l hR rfl

theorem ordB {w wm wn : World} (h : Below w.drew.heap.size w.drew wm) (k : Below wm.heap.size wm wn) : Below w.heap.size w wn :=
  (⟨h.os, h.tape, h.output, h.size, h.block⟩ : Below w.heap.size w wm).trans (k.mono h.size)

theorem ordC {w wm : World} (h : Below w.drew.heap.size w.drew wm) : Below w.heap.size w wm := ⟨h.os, h.tape, h.output, h.size, h.block⟩

set_option maxRecDepth 100000 in
set_option maxHeartbeats 2000000 in
theorem order_walk (m n : Int) (w : World) (h1 : -9223372036854775808 ≤ m) (h2 : m ≤ 9223372036854775807) (h3 : -9223372036854775808 ≤ n) (h4 : n ≤ 9223372036854775807) (lt eq : Bool)
    (q1 : decide (m < n) = lt) (q2 : (m == n) = eq) (q3 : Hid (Op.bytesLess (enc m) (enc n) = lt)) (q4 : Hid ((enc m == enc n) = eq)) (q5 : Hid (((enc m).take (min (enc m).length (enc n).length) == (enc n).take (min (enc m).length (enc n).length)) = eq)) :
    Calls Try.prog 5 #[.int .i64 m, .int .i64 n] w (TruePost w) := by
  go_enter Try.func5, Try.ntmps5
  go_upto_region 1 with fail
  go_cut [5, 6] (fun s5 s6 wx => OrdCut w m n s5 s6 wx)
  case first =>
    go_region_with (first | (go_at_call_of 14 (Value.int IntKind.i64 m); refine (Int_any m _ h1 h2).mono ?_; intro e wm hpm; obtain ⟨pm, cm, rfl, hRm, -, -, hbm⟩ := enc_Rd hpm; clear hpm; have cvm := cv_enc _ pm cm _ hRm; try (have cvn2 := cv_enc _ pn cn _ (Rd_below hbm hRn))) | (go_at_call_of 14 (Value.int IntKind.i64 n); refine (Int_any n _ h3 h4).mono ?_; intro e wn hpn; obtain ⟨pn, cn, rfl, hRn, -, -, hbn⟩ := enc_Rd hpn; clear hpn; have cvn := cv_enc _ pn cn _ hRn; try (have cvm2 := cv_enc _ pm cm _ (Rd_below hbn hRm))))
    all_goals (go_wp2_with fail; go_meet; first | exact ⟨rfl, rfl, ordB hbm hbn⟩ | exact ⟨rfl, rfl, ordB hbn hbm⟩)
  case rest =>
    obtain ⟨rfl, rfl, hbc⟩ := hcut
    have hbc' := Lib.hid hbc
    clear hbc
    have ha := bs_size (enc m)
    have hb := bs_size (enc n)
    generalize hA : (enc m).length = A at *
    generalize hB : (enc n).length = B at *
    have hA' := Lib.hid hA
    have hB' := Lib.hid hB
    clear hA hB
    have w1 : Op.bytesLess (bs (enc m)).toList (bs (enc n)).toList = lt := by rw [bs_toList, bs_toList]; exact q3.out
    have w2 : ((bs (enc m)).toList == (bs (enc n)).toList) = eq := by rw [bs_toList, bs_toList]; exact q4.out
    rcases Nat.lt_or_ge B A with hAB | hAB
    · have w3 : (((bs (enc m)).extract 0 B).toList == ((bs (enc n)).extract 0 B).toList) = eq := by rw [bs_extract, bs_extract]; have := q5.out; rwa [Nat.min_eq_right (by omega)] at this
      have w5 : (B : Int) < (A : Int) := by omega
      have w8 : (B : Int) ≤ (A : Int) := by omega
      have w7 : (0 : Int) ≤ (B : Int) := by omega
      clear q5
      go_wp2
      go_region_held3 (fun _ => True) (trivial) (first | (go_at_call 12; refine (sanity_any _).mono ?_; rintro e w' ⟨rfl, hb⟩))
      all_goals (go_wp2; go_ret; exact ⟨rfl, hbc'.out.trans ((ordC hb).mono hbc'.out.size)⟩)
    · have w3 : (((bs (enc m)).extract 0 A).toList == ((bs (enc n)).extract 0 A).toList) = eq := by rw [bs_extract, bs_extract]; have := q5.out; rwa [Nat.min_eq_left (by omega)] at this
      have w5 : (A : Int) ≤ (B : Int) := by omega
      have w7 : (0 : Int) ≤ (A : Int) := by omega
      clear q5
      go_wp2
      go_region_held3 (fun _ => True) (trivial) (first | (go_at_call 12; refine (sanity_any _).mono ?_; rintro e w' ⟨rfl, hb⟩))
      all_goals (go_wp2; go_ret; exact ⟨rfl, hbc'.out.trans ((ordC hb).mono hbc'.out.size)⟩)

theorem order_any (m n : Int) (w : World) (h1 : -9223372036854775808 ≤ m) (h2 : m ≤ 9223372036854775807) (h3 : -9223372036854775808 ≤ n) (h4 : n ≤ 9223372036854775807) :
    Calls Try.prog 5 #[.int .i64 m, .int .i64 n] w (TruePost w) := by
  refine order_walk m n w h1 h2 h3 h4 (decide (m < n)) (m == n) rfl rfl (less_enc m n h1 h2 h3 h4) ?_ ?_
  · show (enc m == enc n) = (m == n)
    rw [Bool.eq_iff_iff, beq_iff_eq, beq_iff_eq]
    exact ⟨enc_inj h1 h2 h3 h4, fun h => by rw [h]⟩
  · show (_ == _) = (m == n)
    rw [Bool.eq_iff_iff, beq_iff_eq, beq_iff_eq]
    exact ⟨enc_prefix h1 h2 h3 h4 _ rfl, fun h => by rw [h]⟩

end Go.Proofs.Ytfodockdhecbpaa
