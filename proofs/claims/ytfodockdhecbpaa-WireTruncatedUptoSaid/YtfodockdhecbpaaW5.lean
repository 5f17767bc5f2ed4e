/- wire.getLen and wire.GetBytes. -/
import Derived.Test.YtfodockdhecbpaaW4
import Derived.Laws.BytesArg
namespace Go.Proofs.Ytfodockdhecbpaa
open Go.RowKit

/-- decoding a length that is followed by parts of at least z bytes -/
def gl (z : Nat) (l : List UInt8) : Int × Nat × Int :=
  let r := gi l
  if r.2.2 ≠ 0 then (0, 0, r.2.2) else if r.1 < 0 then (0, 0, 2) else if ((l.length - r.2.1) / z : Nat) < r.1 then (0, 0, 3) else (r.1, r.2.1, 0)

set_option maxRecDepth 100000 in
set_option maxHeartbeats 400000 in
theorem getLen_err (a : Option Addr) (n c z : Nat) (l : List UInt8) (w : World) (hR : Rd w a l) (hn : Hid (n = l.length)) (hnc : n ≤ c) (hmax : c ≤ 9223372036854775807) (x : Int) (u : Nat) (er : Int) (hr : Hid (gi l = (x, u, er))) (he : (er != 0) = true) :
    Calls Try.prog 46 #[.slice a n c, .int .i64 z] w fun e w' => e = .returned (.tuple #[.int .i64 0, .int .i64 0, .int .i64 er]) ∧ w = w' := by
  have hR' := Lib.hid hR
  clear hR
  go_enter Try.func46, Try.ntmps46
  go_wp2_with (go_at_call 24; refine (GetInt_any _ _ _ _ _ hR'.out hn.out hnc hmax _ _ _ hr.out).mono ?_; rintro e w' ⟨rfl, rfl⟩)
  go_ret3
  exact ⟨rfl, rfl⟩

set_option maxRecDepth 100000 in
set_option maxHeartbeats 400000 in
theorem getLen_neg (a : Option Addr) (n c z : Nat) (l : List UInt8) (w : World) (hR : Rd w a l) (hn : Hid (n = l.length)) (hnc : n ≤ c) (hmax : c ≤ 9223372036854775807) (x : Int) (u : Nat) (hr : Hid (gi l = (x, u, 0))) (he : x < 0) :
    Calls Try.prog 46 #[.slice a n c, .int .i64 z] w fun e w' => e = .returned (.tuple #[.int .i64 0, .int .i64 0, .int .i64 2]) ∧ w = w' := by
  have hR' := Lib.hid hR
  clear hR
  go_enter Try.func46, Try.ntmps46
  go_wp2_with (go_at_call 24; refine (GetInt_any _ _ _ _ _ hR'.out hn.out hnc hmax _ _ _ hr.out).mono ?_; rintro e w' ⟨rfl, rfl⟩)
  go_ret3
  exact ⟨rfl, rfl⟩

set_option maxRecDepth 100000 in
set_option maxHeartbeats 400000 in
theorem getLen_more (a : Option Addr) (n c z : Nat) (l : List UInt8) (w : World) (hR : Rd w a l) (hn : Hid (n = l.length)) (hnc : n ≤ c) (hmax : c ≤ 9223372036854775807) (x : Int) (u : Nat) (hr : Hid (gi l = (x, u, 0))) (he : 0 ≤ x) (hu : u ≤ n) (hz : 1 ≤ (z : Int)) (hz2 : (z : Int) ≤ 16) (hm : ((n : Int) - (u : Int)) / (z : Int) < x) :
    Calls Try.prog 46 #[.slice a n c, .int .i64 z] w fun e w' => e = .returned (.tuple #[.int .i64 0, .int .i64 0, .int .i64 3]) ∧ w = w' := by
  have hR' := Lib.hid hR
  clear hR
  have hu1 : (u : Int) ≤ (n : Int) := by omega
  go_enter Try.func46, Try.ntmps46
  go_wp2_with (go_at_call 24; refine (GetInt_any _ _ _ _ _ hR'.out hn.out hnc hmax _ _ _ hr.out).mono ?_; rintro e w' ⟨rfl, rfl⟩)
  go_ret3
  exact ⟨rfl, rfl⟩

set_option maxRecDepth 100000 in
set_option maxHeartbeats 400000 in
theorem getLen_ok (a : Option Addr) (n c z : Nat) (l : List UInt8) (w : World) (hR : Rd w a l) (hn : Hid (n = l.length)) (hnc : n ≤ c) (hmax : c ≤ 9223372036854775807) (x : Int) (u : Nat) (hr : Hid (gi l = (x, u, 0))) (he : 0 ≤ x) (hu : u ≤ n) (hz : 1 ≤ (z : Int)) (hz2 : (z : Int) ≤ 16) (hm : x ≤ ((n : Int) - (u : Int)) / (z : Int)) :
    Calls Try.prog 46 #[.slice a n c, .int .i64 z] w fun e w' => e = .returned (.tuple #[.int .i64 x, .int .i64 u, .int .i64 0]) ∧ w = w' := by
  have hR' := Lib.hid hR
  clear hR
  have hu1 : (u : Int) ≤ (n : Int) := by omega
  go_enter Try.func46, Try.ntmps46
  go_wp2_with (go_at_call 24; refine (GetInt_any _ _ _ _ _ hR'.out hn.out hnc hmax _ _ _ hr.out).mono ?_; rintro e w' ⟨rfl, rfl⟩)
  go_ret3
  exact ⟨rfl, rfl⟩

theorem getLen_any (a : Option Addr) (n c z : Nat) (l : List UInt8) (w : World) (hR : Rd w a l) (hn : n = l.length) (hnc : n ≤ c) (hmax : c ≤ 9223372036854775807) (hz : 1 ≤ z) (hz2 : z ≤ 16) (x : Int) (u : Nat) (er : Int) (hr : gl z l = (x, u, er)) :
    Calls Try.prog 46 #[.slice a n c, .int .i64 z] w fun e w' => e = .returned (.tuple #[.int .i64 x, .int .i64 u, .int .i64 er]) ∧ w = w' := by
  obtain ⟨x0, u0, e0, h0⟩ : ∃ x0 u0 e0, gi l = (x0, u0, e0) := ⟨_, _, _, rfl⟩
  simp only [gl, h0] at hr
  by_cases c1 : e0 ≠ 0
  · rw [if_pos c1] at hr
    simp only [Prod.mk.injEq] at hr
    obtain ⟨rfl, rfl, rfl⟩ := hr
    exact getLen_err a n c z l w hR hn hnc hmax _ _ _ h0 (by simpa using c1)
  rw [if_neg c1] at hr
  have c1' : e0 = 0 := by omega
  subst c1'
  obtain ⟨g1, g2, g3, g4⟩ := gi_range l x0 u0 h0
  by_cases c2 : x0 < 0
  · rw [if_pos c2] at hr
    simp only [Prod.mk.injEq] at hr
    obtain ⟨rfl, rfl, rfl⟩ := hr
    exact getLen_neg a n c z l w hR hn hnc hmax _ _ h0 c2
  rw [if_neg c2] at hr
  have hd : ((n : Int) - (u0 : Int)) / (z : Int) = (((l.length - u0) / z : Nat) : Int) := by
    rw [hn, ← Int.ofNat_sub g3, Int.natCast_ediv]
  by_cases c3 : (((l.length - u0) / z : Nat) : Int) < x0
  · rw [if_pos c3] at hr
    simp only [Prod.mk.injEq] at hr
    obtain ⟨rfl, rfl, rfl⟩ := hr
    exact getLen_more a n c z l w hR hn hnc hmax _ _ h0 (by omega) (by omega) (by omega) (by omega) (by rw [hd]; exact c3)
  · rw [if_neg c3] at hr
    simp only [Prod.mk.injEq] at hr
    obtain ⟨rfl, rfl, rfl⟩ := hr
    exact getLen_ok a n c z l w hR hn hnc hmax _ _ h0 (by omega) (by omega) (by omega) (by omega) (by rw [hd]; omega)

/-- a list of bytes as a string -/
def bs (l : List UInt8) : ByteArray := ⟨l.toArray⟩

theorem strOf_byt (l : List UInt8) : strOfNums (l.map fun b => (b.toNat : Int)) = bs l := by
  unfold strOfNums bs
  congr 1
  simp [List.map_map, Function.comp_def]

theorem byt_map (l : List UInt8) (i : Nat) : (l.map fun b => (b.toNat : Int)).getD i 0 = byt l i := by
  unfold byt
  rcases Nat.lt_or_ge i l.length with h | h
  · simp [List.getD_eq_getElem?_getD, h]
  · simp [List.getD_eq_getElem?_getD, List.getElem?_eq_none h]

theorem run_bytes_string {P : Program} (src e dst : TypeId) (hs : P.underlying src = some (.slice e)) (he : P.underlying e = some (.int .u8)) (hd : P.underlying dst = some .string) (w : World) (a : Option Addr) (n c : Nat) (l : List UInt8) (hR : Rd w a l) (hn : n = l.length) :
    (convert src dst (.slice a n c)).run P w = .ok (.string (bs l)) w := by
  rcases hR with rfl | ⟨b, off, rfl, hc⟩
  · subst hn
    rw [run_convert_bytes_string w src dst e _ _ c hs he hd]
    cases a with
    | none => simp [Conv.bytesToString, bs]; rfl
    | some a =>
      have := run_bytesToString (P := P) w a 0 c [] (by simp [loadCells, loadCellsFrom])
      simp only [List.length_nil]
      rw [this]
      rfl
  · rw [run_convert_bytes_arg w src e hs he b off n c (l.map fun b => (b.toNat : Int)) (by simp [hn]) (fun i hi => by rw [hc i (by omega), byt_map]) dst hd, strOf_byt]

/-- decoding a byte string -/
def gb (l : List UInt8) : List UInt8 × Nat × Int :=
  let r := gl 1 l
  if r.2.2 ≠ 0 then ([], 0, r.2.2) else ((l.drop r.2.1).take r.1.toNat, r.2.1 + r.1.toNat, 0)

/-- a length that was decoded: not negative, and there is as much as it says -/
theorem gl_ok (z : Nat) (hz : 1 ≤ z) (l : List UInt8) (x : Int) (u : Nat) (h : gl z l = (x, u, 0)) : gi l = (x, u, 0) ∧ 0 ≤ x ∧ u ≤ l.length ∧ 1 ≤ u ∧ x * z ≤ (l.length - u : Nat) ∧ x ≤ (l.length - u : Nat) := by
  obtain ⟨x0, u0, e0, h0⟩ : ∃ x0 u0 e0, gi l = (x0, u0, e0) := ⟨_, _, _, rfl⟩
  simp only [gl, h0] at h
  by_cases c1 : e0 ≠ 0
  · rw [if_pos c1] at h
    simp only [Prod.mk.injEq] at h
    omega
  rw [if_neg c1] at h
  by_cases c2 : x0 < 0
  · rw [if_pos c2] at h
    simp only [Prod.mk.injEq] at h
    omega
  rw [if_neg c2] at h
  by_cases c3 : (((l.length - u0) / z : Nat) : Int) < x0
  · rw [if_pos c3] at h
    simp only [Prod.mk.injEq] at h
    omega
  · rw [if_neg c3] at h
    simp only [Prod.mk.injEq] at h
    obtain ⟨rfl, rfl, _⟩ := h
    have c1' : e0 = 0 := by omega
    subst c1'
    obtain ⟨g1, g2, g3, g4, g5⟩ := gi_range l x0 u0 h0
    obtain ⟨k, rfl⟩ := Int.eq_ofNat_of_zero_le (show 0 ≤ x0 by omega)
    have hk : k ≤ (l.length - u0) / z := by omega
    have hm : k * z ≤ l.length - u0 := (Nat.le_div_iff_mul_le (by omega)).1 hk
    have hk1 : k ≤ k * z := Nat.le_mul_of_pos_right k (by omega)
    refine ⟨h0, by omega, g3, by rw [g5, enc_length]; omega, ?_, by omega⟩
    have : ((k * z : Nat) : Int) ≤ ((l.length - u0 : Nat) : Int) := by exact_mod_cast hm
    simpa using this

set_option maxRecDepth 100000 in
set_option maxHeartbeats 400000 in
theorem getBytes_err (a : Option Addr) (n c : Nat) (l : List UInt8) (w : World) (hR : Rd w a l) (hn : Hid (n = l.length)) (hnc : n ≤ c) (hmax : c ≤ 9223372036854775807) (x : Int) (u : Nat) (er : Int) (hr : Hid (gl 1 l = (x, u, er))) (he : (er != 0) = true) :
    Calls Try.prog 26 #[.slice a n c] w fun e w' => e = .returned (.tuple #[.string (bs []), .int .i64 0, .int .i64 er]) ∧ w = w' := by
  have hR' := Lib.hid hR
  clear hR
  go_enter Try.func26, Try.ntmps26
  go_wp2_with (go_at_call 46; refine (getLen_any _ _ _ 1 _ _ hR'.out hn.out hnc hmax (by omega) (by omega) _ _ _ hr.out).mono ?_; rintro e w' ⟨rfl, rfl⟩)
  go_ret3
  exact ⟨rfl, rfl⟩

set_option maxRecDepth 100000 in
set_option maxHeartbeats 400000 in
theorem getBytes_empty (a : Option Addr) (n c : Nat) (l : List UInt8) (w : World) (hR : Rd w a l) (hn : Hid (n = l.length)) (hnc : n ≤ c) (hmax : c ≤ 9223372036854775807) (u : Nat) (hr : Hid (gl 1 l = (0, u, 0))) (hu : u ≤ n) :
    Calls Try.prog 26 #[.slice a n c] w fun e w' => e = .returned (.tuple #[.string (bs []), .int .i64 u, .int .i64 0]) ∧ w = w' := by
  have hcv : ∀ (a : Option Addr) (c : Nat), (convert 28 9 (.slice a 0 c)).run Try.prog w = .ok (.string (bs [])) w := fun a c => run_bytes_string _ 5 _ Try.underlying28 Try.underlying5 Try.underlying9 w a 0 c [] (.inl rfl) rfl
  have hR' := Lib.hid hR
  clear hR
  go_enter Try.func26, Try.ntmps26
  go_wp2_with (go_at_call 46; refine (getLen_any _ _ _ 1 _ _ hR'.out hn.out hnc hmax (by omega) (by omega) _ _ _ hr.out).mono ?_; rintro e w' ⟨rfl, rfl⟩)
  all_goals (go_ret3; exact ⟨rfl, rfl⟩)

set_option maxRecDepth 100000 in
set_option maxHeartbeats 400000 in
theorem getBytes_some (b off n c : Nat) (l : List UInt8) (w : World) (hR : Hid (Rd w (some ⟨b, off, none⟩) l)) (hn : Hid (n = l.length)) (hnc : n ≤ c) (hmax : c ≤ 9223372036854775807) (x u : Nat) (hr : Hid (gl 1 l = ((x : Int), u, 0))) (hx : 0 < x) (hu1 : 0 < u) (hu : u + x ≤ n) (s : List UInt8) (hs : Hid (x = s.length)) (hS : Hid (Rd w (some ⟨b, off + u, none⟩) s)) :
    Calls Try.prog 26 #[.slice (some ⟨b, off, none⟩) n c] w fun e w' => e = .returned (.tuple #[.string (bs s), .int .i64 ((u : Int) + (x : Int)), .int .i64 0]) ∧ w = w' := by
  have hcv : ∀ (c : Nat), (convert 28 9 (.slice (some ⟨b, off + u, none⟩) x c)).run Try.prog w = .ok (.string (bs s)) w := fun c => run_bytes_string _ 5 _ Try.underlying28 Try.underlying5 Try.underlying9 w _ x c s hS.out hs.out
  have h3 : ¬ c = u := by omega
  go_enter Try.func26, Try.ntmps26
  go_wp2_with (go_at_call 46; refine (getLen_any _ _ _ 1 _ _ hR.out hn.out hnc hmax (by omega) (by omega) _ _ _ hr.out).mono ?_; rintro e w' ⟨rfl, rfl⟩)
  go_ret3
  exact ⟨rfl, rfl⟩

theorem byt_sub (l : List UInt8) (u x i : Nat) (hi : i < x) : byt ((l.drop u).take x) i = byt l (u + i) := by
  unfold byt
  simp [List.getD_eq_getElem?_getD, List.getElem?_take, hi]

theorem Rd_sub (w : World) (b off : Nat) (l : List UInt8) (hc : ∀ i, i < l.length → w.cell? ⟨b, off + i, none⟩ = some (.int .u8 (byt l i))) (u x : Nat) :
    Rd w (some ⟨b, off + u, none⟩) ((l.drop u).take x) := by
  refine .inr ⟨b, off + u, rfl, fun i hi => ?_⟩
  simp only [List.length_take, List.length_drop] at hi
  rw [byt_sub _ _ _ _ (by omega), show off + u + i = off + (u + i) from by omega, hc _ (by omega)]

theorem GetBytes_any (a : Option Addr) (n c : Nat) (l : List UInt8) (w : World) (hR : Rd w a l) (hn : n = l.length) (hnc : n ≤ c) (hmax : c ≤ 9223372036854775807) (s : List UInt8) (u : Nat) (er : Int) (hr : gb l = (s, u, er)) :
    Calls Try.prog 26 #[.slice a n c] w fun e w' => e = .returned (.tuple #[.string (bs s), .int .i64 u, .int .i64 er]) ∧ w = w' := by
  obtain ⟨x0, u0, e0, h0⟩ : ∃ x0 u0 e0, gl 1 l = (x0, u0, e0) := ⟨_, _, _, rfl⟩
  simp only [gb, h0] at hr
  by_cases c1 : e0 ≠ 0
  · rw [if_pos c1] at hr
    simp only [Prod.mk.injEq] at hr
    obtain ⟨rfl, rfl, rfl⟩ := hr
    exact getBytes_err a n c l w hR hn hnc hmax _ _ _ h0 (by simpa using c1)
  rw [if_neg c1] at hr
  have c1' : e0 = 0 := by omega
  subst c1'
  obtain ⟨g1, g2, g3, g4, g5, g6⟩ := gl_ok 1 (by omega) l x0 u0 h0
  obtain ⟨x, rfl⟩ := Int.eq_ofNat_of_zero_le g2
  simp only [Prod.mk.injEq, Int.toNat_natCast] at hr
  obtain ⟨rfl, rfl, rfl⟩ := hr
  rcases Nat.eq_zero_or_pos x with rfl | hx
  · exact getBytes_empty a n c l w hR hn hnc hmax u0 h0 (by omega)
  · rcases hR with rfl | ⟨b, off, rfl, hc⟩
    · simp at g3; omega
    · refine (getBytes_some b off n c l w (.inr ⟨b, off, rfl, hc⟩) hn hnc hmax x u0 h0 hx (by omega) (by omega) ((l.drop u0).take x) ?_ (Rd_sub w b off l hc u0 x)).mono ?_
      · show x = ((l.drop u0).take x).length
        simp; omega
      · rintro e w' ⟨rfl, rfl⟩
        refine ⟨?_, rfl⟩
        rw [show ((u0 : Int) + (x : Int)) = ((u0 + x : Nat) : Int) from by omega]

end Go.Proofs.Ytfodockdhecbpaa
