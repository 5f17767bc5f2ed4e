/- sherdref01.count and GetBytes: the reference's lengths and byte strings. -/
import Derived.Test.YtfodockdhecbpaaR2
namespace Go.Proofs.Ytfodockdhecbpaa
open Go.RowKit

set_option maxRecDepth 100000 in
set_option maxHeartbeats 400000 in
theorem refCount1_err (a : Option Addr) (n c : Nat) (l : List UInt8) (w : World) (hR : Rd w a l) (hn : Hid (n = l.length)) (hnc : n ≤ c) (hmax : c ≤ 9223372036854775807 ∧ n ≤ 4398046511104) (x : Int) (u : Nat) (er : Int) (hr : Hid (gi l = (x, u, er))) (he : (er != 0) = true) :
    Calls Try.prog 47 #[.slice a n c, .int .i64 1] w (GPost w 0 0 er) := by
  have hR' := Lib.hid hR
  clear hR
  obtain ⟨hmax, hsm⟩ := hmax
  go_enter Try.func47, Try.ntmps47
  go_wp2_with (go_at_call 25; refine (refGetInt_any _ _ _ _ _ hR'.out hn.out hnc (by omega) _ _ _ hr.out).mono ?_; rintro e w' ⟨rfl, hb⟩; have hb' := Lib.hid hb; clear hb)
  go_ret3
  exact ⟨rfl, hb'.out⟩

set_option maxRecDepth 100000 in
set_option maxHeartbeats 400000 in
theorem refCount1_neg (a : Option Addr) (n c : Nat) (l : List UInt8) (w : World) (hR : Rd w a l) (hn : Hid (n = l.length)) (hnc : n ≤ c) (hmax : c ≤ 9223372036854775807 ∧ n ≤ 4398046511104) (x : Int) (u : Nat) (hr : Hid (gi l = (x, u, 0))) (he : x < 0) :
    Calls Try.prog 47 #[.slice a n c, .int .i64 1] w (GPost w 0 0 2) := by
  have hR' := Lib.hid hR
  clear hR
  obtain ⟨hmax, hsm⟩ := hmax
  go_enter Try.func47, Try.ntmps47
  go_wp2_with (go_at_call 25; refine (refGetInt_any _ _ _ _ _ hR'.out hn.out hnc (by omega) _ _ _ hr.out).mono ?_; rintro e w' ⟨rfl, hb⟩; have hb' := Lib.hid hb; clear hb)
  go_ret3
  exact ⟨rfl, hb'.out⟩

set_option maxRecDepth 100000 in
set_option maxHeartbeats 400000 in
theorem refCount1_more1 (a : Option Addr) (n c : Nat) (l : List UInt8) (w : World) (hR : Rd w a l) (hn : Hid (n = l.length)) (hnc : n ≤ c) (hmax : c ≤ 9223372036854775807 ∧ n ≤ 4398046511104) (x : Int) (u : Nat) (hr : Hid (gi l = (x, u, 0))) (he : 0 ≤ x) (hx : (n : Int) < x) :
    Calls Try.prog 47 #[.slice a n c, .int .i64 1] w (GPost w 0 0 3) := by
  have hR' := Lib.hid hR
  clear hR
  obtain ⟨hmax, hsm⟩ := hmax
  go_enter Try.func47, Try.ntmps47
  go_wp2_with (go_at_call 25; refine (refGetInt_any _ _ _ _ _ hR'.out hn.out hnc (by omega) _ _ _ hr.out).mono ?_; rintro e w' ⟨rfl, hb⟩; have hb' := Lib.hid hb; clear hb)
  go_ret3
  exact ⟨rfl, hb'.out⟩

set_option maxRecDepth 100000 in
set_option maxHeartbeats 400000 in
theorem refCount1_more2 (a : Option Addr) (n c : Nat) (l : List UInt8) (w : World) (hR : Rd w a l) (hn : Hid (n = l.length)) (hnc : n ≤ c) (hmax : c ≤ 9223372036854775807 ∧ n ≤ 4398046511104) (x : Int) (u : Nat) (hr : Hid (gi l = (x, u, 0))) (he : 0 ≤ x) (hu : u ≤ n) (hx : x ≤ (n : Int)) (hm : (n : Int) - (u : Int) < x * 1) :
    Calls Try.prog 47 #[.slice a n c, .int .i64 1] w (GPost w 0 0 3) := by
  have hR' := Lib.hid hR
  clear hR
  obtain ⟨hmax, hsm⟩ := hmax
  have hu1 : (u : Int) ≤ (n : Int) := by omega
  have hs1 : (n : Int) ≤ 4398046511104 := by omega
  have hs2 : x ≤ 4398046511104 := by omega
  simp only [Int.mul_one] at hm
  go_enter Try.func47, Try.ntmps47
  go_wp2_with (go_at_call 25; refine (refGetInt_any _ _ _ _ _ hR'.out hn.out hnc (by omega) _ _ _ hr.out).mono ?_; rintro e w' ⟨rfl, hb⟩; have hb' := Lib.hid hb; clear hb)
  go_ret3
  exact ⟨rfl, hb'.out⟩

set_option maxRecDepth 100000 in
set_option maxHeartbeats 400000 in
theorem refCount1_ok (a : Option Addr) (n c : Nat) (l : List UInt8) (w : World) (hR : Rd w a l) (hn : Hid (n = l.length)) (hnc : n ≤ c) (hmax : c ≤ 9223372036854775807 ∧ n ≤ 4398046511104) (x : Int) (u : Nat) (hr : Hid (gi l = (x, u, 0))) (he : 0 ≤ x) (hu : u ≤ n) (hx : x ≤ (n : Int)) (hm : x * 1 ≤ (n : Int) - (u : Int)) :
    Calls Try.prog 47 #[.slice a n c, .int .i64 1] w (GPost w x u 0) := by
  have hR' := Lib.hid hR
  clear hR
  obtain ⟨hmax, hsm⟩ := hmax
  have hu1 : (u : Int) ≤ (n : Int) := by omega
  have hs1 : (n : Int) ≤ 4398046511104 := by omega
  have hs2 : x ≤ 4398046511104 := by omega
  simp only [Int.mul_one] at hm
  go_enter Try.func47, Try.ntmps47
  go_wp2_with (go_at_call 25; refine (refGetInt_any _ _ _ _ _ hR'.out hn.out hnc (by omega) _ _ _ hr.out).mono ?_; rintro e w' ⟨rfl, hb⟩; have hb' := Lib.hid hb; clear hb)
  go_ret3
  exact ⟨rfl, hb'.out⟩

theorem refCount1_any (a : Option Addr) (n c : Nat) (l : List UInt8) (w : World) (hR : Rd w a l) (hn : n = l.length) (hnc : n ≤ c) (hmax : c ≤ 9223372036854775807 ∧ n ≤ 4398046511104) (x : Int) (u : Nat) (er : Int) (hr : gl 1 l = (x, u, er)) :
    Calls Try.prog 47 #[.slice a n c, .int .i64 1] w (GPost w x u er) := by
  obtain ⟨x0, u0, e0, h0⟩ : ∃ x0 u0 e0, gi l = (x0, u0, e0) := ⟨_, _, _, rfl⟩
  simp only [gl, h0] at hr
  by_cases c1 : e0 ≠ 0
  · rw [if_pos c1] at hr
    simp only [Prod.mk.injEq] at hr
    obtain ⟨rfl, rfl, rfl⟩ := hr
    exact refCount1_err a n c l w hR hn hnc hmax _ _ _ h0 (by simpa using c1)
  rw [if_neg c1] at hr
  have c1' : e0 = 0 := by omega
  subst c1'
  obtain ⟨g1, g2, g3, g4⟩ := gi_range l x0 u0 h0
  by_cases c2 : x0 < 0
  · rw [if_pos c2] at hr
    simp only [Prod.mk.injEq] at hr
    obtain ⟨rfl, rfl, rfl⟩ := hr
    exact refCount1_neg a n c l w hR hn hnc hmax _ _ h0 c2
  rw [if_neg c2] at hr
  by_cases c3 : (((l.length - u0) / 1 : Nat) : Int) < x0
  · rw [if_pos c3] at hr
    simp only [Prod.mk.injEq] at hr
    obtain ⟨rfl, rfl, rfl⟩ := hr
    by_cases c4 : (n : Int) < x0
    · exact refCount1_more1 a n c l w hR hn hnc hmax _ _ h0 (by omega) c4
    · exact refCount1_more2 a n c l w hR hn hnc hmax _ _ h0 (by omega) (by omega) (by omega) (by omega)
  · rw [if_neg c3] at hr
    simp only [Prod.mk.injEq] at hr
    obtain ⟨rfl, rfl, rfl⟩ := hr
    exact refCount1_ok a n c l w hR hn hnc hmax _ _ h0 (by omega) (by omega) (by omega) (by omega)

set_option maxRecDepth 100000 in
set_option maxHeartbeats 400000 in
theorem refCount16_err (a : Option Addr) (n c : Nat) (l : List UInt8) (w : World) (hR : Rd w a l) (hn : Hid (n = l.length)) (hnc : n ≤ c) (hmax : c ≤ 9223372036854775807 ∧ n ≤ 4398046511104) (x : Int) (u : Nat) (er : Int) (hr : Hid (gi l = (x, u, er))) (he : (er != 0) = true) :
    Calls Try.prog 47 #[.slice a n c, .int .i64 16] w (GPost w 0 0 er) := by
  have hR' := Lib.hid hR
  clear hR
  obtain ⟨hmax, hsm⟩ := hmax
  go_enter Try.func47, Try.ntmps47
  go_wp2_with (go_at_call 25; refine (refGetInt_any _ _ _ _ _ hR'.out hn.out hnc (by omega) _ _ _ hr.out).mono ?_; rintro e w' ⟨rfl, hb⟩; have hb' := Lib.hid hb; clear hb)
  go_ret3
  exact ⟨rfl, hb'.out⟩

set_option maxRecDepth 100000 in
set_option maxHeartbeats 400000 in
theorem refCount16_neg (a : Option Addr) (n c : Nat) (l : List UInt8) (w : World) (hR : Rd w a l) (hn : Hid (n = l.length)) (hnc : n ≤ c) (hmax : c ≤ 9223372036854775807 ∧ n ≤ 4398046511104) (x : Int) (u : Nat) (hr : Hid (gi l = (x, u, 0))) (he : x < 0) :
    Calls Try.prog 47 #[.slice a n c, .int .i64 16] w (GPost w 0 0 2) := by
  have hR' := Lib.hid hR
  clear hR
  obtain ⟨hmax, hsm⟩ := hmax
  go_enter Try.func47, Try.ntmps47
  go_wp2_with (go_at_call 25; refine (refGetInt_any _ _ _ _ _ hR'.out hn.out hnc (by omega) _ _ _ hr.out).mono ?_; rintro e w' ⟨rfl, hb⟩; have hb' := Lib.hid hb; clear hb)
  go_ret3
  exact ⟨rfl, hb'.out⟩

set_option maxRecDepth 100000 in
set_option maxHeartbeats 400000 in
theorem refCount16_more1 (a : Option Addr) (n c : Nat) (l : List UInt8) (w : World) (hR : Rd w a l) (hn : Hid (n = l.length)) (hnc : n ≤ c) (hmax : c ≤ 9223372036854775807 ∧ n ≤ 4398046511104) (x : Int) (u : Nat) (hr : Hid (gi l = (x, u, 0))) (he : 0 ≤ x) (hx : (n : Int) < x) :
    Calls Try.prog 47 #[.slice a n c, .int .i64 16] w (GPost w 0 0 3) := by
  have hR' := Lib.hid hR
  clear hR
  obtain ⟨hmax, hsm⟩ := hmax
  go_enter Try.func47, Try.ntmps47
  go_wp2_with (go_at_call 25; refine (refGetInt_any _ _ _ _ _ hR'.out hn.out hnc (by omega) _ _ _ hr.out).mono ?_; rintro e w' ⟨rfl, hb⟩; have hb' := Lib.hid hb; clear hb)
  go_ret3
  exact ⟨rfl, hb'.out⟩

set_option maxRecDepth 100000 in
set_option maxHeartbeats 400000 in
theorem refCount16_more2 (a : Option Addr) (n c : Nat) (l : List UInt8) (w : World) (hR : Rd w a l) (hn : Hid (n = l.length)) (hnc : n ≤ c) (hmax : c ≤ 9223372036854775807 ∧ n ≤ 4398046511104) (x : Int) (u : Nat) (hr : Hid (gi l = (x, u, 0))) (he : 0 ≤ x) (hu : u ≤ n) (hx : x ≤ (n : Int)) (hm : (n : Int) - (u : Int) < x * 16) :
    Calls Try.prog 47 #[.slice a n c, .int .i64 16] w (GPost w 0 0 3) := by
  have hR' := Lib.hid hR
  clear hR
  obtain ⟨hmax, hsm⟩ := hmax
  have hu1 : (u : Int) ≤ (n : Int) := by omega
  have hs1 : (n : Int) ≤ 4398046511104 := by omega
  have hs2 : x ≤ 4398046511104 := by omega
  go_enter Try.func47, Try.ntmps47
  go_wp2_with (go_at_call 25; refine (refGetInt_any _ _ _ _ _ hR'.out hn.out hnc (by omega) _ _ _ hr.out).mono ?_; rintro e w' ⟨rfl, hb⟩; have hb' := Lib.hid hb; clear hb)
  go_ret3
  exact ⟨rfl, hb'.out⟩

set_option maxRecDepth 100000 in
set_option maxHeartbeats 400000 in
theorem refCount16_ok (a : Option Addr) (n c : Nat) (l : List UInt8) (w : World) (hR : Rd w a l) (hn : Hid (n = l.length)) (hnc : n ≤ c) (hmax : c ≤ 9223372036854775807 ∧ n ≤ 4398046511104) (x : Int) (u : Nat) (hr : Hid (gi l = (x, u, 0))) (he : 0 ≤ x) (hu : u ≤ n) (hx : x ≤ (n : Int)) (hm : x * 16 ≤ (n : Int) - (u : Int)) :
    Calls Try.prog 47 #[.slice a n c, .int .i64 16] w (GPost w x u 0) := by
  have hR' := Lib.hid hR
  clear hR
  obtain ⟨hmax, hsm⟩ := hmax
  have hu1 : (u : Int) ≤ (n : Int) := by omega
  have hs1 : (n : Int) ≤ 4398046511104 := by omega
  have hs2 : x ≤ 4398046511104 := by omega
  go_enter Try.func47, Try.ntmps47
  go_wp2_with (go_at_call 25; refine (refGetInt_any _ _ _ _ _ hR'.out hn.out hnc (by omega) _ _ _ hr.out).mono ?_; rintro e w' ⟨rfl, hb⟩; have hb' := Lib.hid hb; clear hb)
  go_ret3
  exact ⟨rfl, hb'.out⟩

theorem refCount16_any (a : Option Addr) (n c : Nat) (l : List UInt8) (w : World) (hR : Rd w a l) (hn : n = l.length) (hnc : n ≤ c) (hmax : c ≤ 9223372036854775807 ∧ n ≤ 4398046511104) (x : Int) (u : Nat) (er : Int) (hr : gl 16 l = (x, u, er)) :
    Calls Try.prog 47 #[.slice a n c, .int .i64 16] w (GPost w x u er) := by
  obtain ⟨x0, u0, e0, h0⟩ : ∃ x0 u0 e0, gi l = (x0, u0, e0) := ⟨_, _, _, rfl⟩
  simp only [gl, h0] at hr
  by_cases c1 : e0 ≠ 0
  · rw [if_pos c1] at hr
    simp only [Prod.mk.injEq] at hr
    obtain ⟨rfl, rfl, rfl⟩ := hr
    exact refCount16_err a n c l w hR hn hnc hmax _ _ _ h0 (by simpa using c1)
  rw [if_neg c1] at hr
  have c1' : e0 = 0 := by omega
  subst c1'
  obtain ⟨g1, g2, g3, g4⟩ := gi_range l x0 u0 h0
  by_cases c2 : x0 < 0
  · rw [if_pos c2] at hr
    simp only [Prod.mk.injEq] at hr
    obtain ⟨rfl, rfl, rfl⟩ := hr
    exact refCount16_neg a n c l w hR hn hnc hmax _ _ h0 c2
  rw [if_neg c2] at hr
  by_cases c3 : (((l.length - u0) / 16 : Nat) : Int) < x0
  · rw [if_pos c3] at hr
    simp only [Prod.mk.injEq] at hr
    obtain ⟨rfl, rfl, rfl⟩ := hr
    by_cases c4 : (n : Int) < x0
    · exact refCount16_more1 a n c l w hR hn hnc hmax _ _ h0 (by omega) c4
    · exact refCount16_more2 a n c l w hR hn hnc hmax _ _ h0 (by omega) (by omega) (by omega) (by omega)
  · rw [if_neg c3] at hr
    simp only [Prod.mk.injEq] at hr
    obtain ⟨rfl, rfl, rfl⟩ := hr
    exact refCount16_ok a n c l w hR hn hnc hmax _ _ h0 (by omega) (by omega) (by omega) (by omega)

set_option maxRecDepth 100000 in
set_option maxHeartbeats 400000 in
theorem refGetBytes_err (a : Option Addr) (n c : Nat) (l : List UInt8) (w : World) (hR : Rd w a l) (hn : Hid (n = l.length)) (hnc : n ≤ c) (hmax : c ≤ 9223372036854775807 ∧ n ≤ 4398046511104) (x : Int) (u : Nat) (er : Int) (hr : Hid (gl 1 l = (x, u, er))) (he : (er != 0) = true) :
    Calls Try.prog 27 #[.slice a n c] w fun e w' => e = .returned (.tuple #[.string (bs []), .int .i64 0, .int .i64 er]) ∧ Below w.heap.size w w' := by
  have hR' := Lib.hid hR
  clear hR
  go_enter Try.func27, Try.ntmps27
  go_wp2_with (go_at_call 47; refine (refCount1_any _ _ _ _ _ hR'.out hn.out hnc hmax _ _ _ hr.out).mono ?_; rintro e w' ⟨rfl, hb⟩; have hb' := Lib.hid hb; clear hb)
  go_ret3
  exact ⟨rfl, hb'.out⟩

set_option maxRecDepth 100000 in
set_option maxHeartbeats 400000 in
theorem refGetBytes_empty (a : Option Addr) (n c : Nat) (l : List UInt8) (w : World) (hR : Rd w a l) (hn : Hid (n = l.length)) (hnc : n ≤ c) (hmax : c ≤ 9223372036854775807 ∧ n ≤ 4398046511104) (u : Nat) (hr : Hid (gl 1 l = (0, u, 0))) (hu : u ≤ n) :
    Calls Try.prog 27 #[.slice a n c] w fun e w' => e = .returned (.tuple #[.string (bs []), .int .i64 u, .int .i64 0]) ∧ Below w.heap.size w w' := by
  have hcv : ∀ (w : World) (a : Option Addr) (c : Nat), (convert 28 9 (.slice a 0 c)).run Try.prog w = .ok (.string (bs [])) w := fun w a c => run_bytes_string _ 5 _ Try.underlying28 Try.underlying5 Try.underlying9 w a 0 c [] (.inl rfl) rfl
  have hR' := Lib.hid hR
  clear hR
  obtain ⟨hmax, hsm⟩ := hmax
  have hm2 : Hid (c ≤ 9223372036854775807 ∧ n ≤ 4398046511104) := Lib.hid ⟨hmax, hsm⟩
  have hu1 : (u : Int) ≤ (n : Int) := by omega
  go_enter Try.func27, Try.ntmps27
  go_wp2_with (go_at_call 47; refine (refCount1_any _ _ _ _ _ hR'.out hn.out hnc hm2.out _ _ _ hr.out).mono ?_; rintro e w' ⟨rfl, hb⟩; have hb' := Lib.hid hb; clear hb)
  all_goals (go_ret3; exact ⟨rfl, hb'.out⟩)

set_option maxRecDepth 100000 in
set_option maxHeartbeats 400000 in
theorem refGetBytes_some (b off n c : Nat) (l : List UInt8) (w : World) (hR : Hid (Rd w (some ⟨b, off, none⟩) l)) (hn : Hid (n = l.length)) (hnc : n ≤ c) (hmax : c ≤ 9223372036854775807 ∧ n ≤ 4398046511104) (x u : Nat) (hr : Hid (gl 1 l = ((x : Int), u, 0))) (hx : 0 < x) (hu1 : 0 < u) (hu : u + x ≤ n) (s : List UInt8) (hs : Hid (x = s.length)) (hS : Hid (Rd w (some ⟨b, off + u, none⟩) s)) :
    Calls Try.prog 27 #[.slice (some ⟨b, off, none⟩) n c] w fun e w' => e = .returned (.tuple #[.string (bs s), .int .i64 ((u : Int) + (x : Int)), .int .i64 0]) ∧ Below w.heap.size w w' := by
  have h3 : ¬ c = u := by omega
  obtain ⟨hmax, hsm⟩ := hmax
  have hm2 : Hid (c ≤ 9223372036854775807 ∧ n ≤ 4398046511104) := Lib.hid ⟨hmax, hsm⟩
  have hu3 : (u : Int) + (x : Int) ≤ (n : Int) := by omega
  go_enter Try.func27, Try.ntmps27
  go_wp2_with (go_at_call 47; refine (refCount1_any _ _ _ _ _ hR.out hn.out hnc hm2.out _ _ _ hr.out).mono ?_; rintro e w' ⟨rfl, hb⟩; have hcv : ∀ (c : Nat), (convert 28 9 (.slice (some ⟨b, off + u, none⟩) x c)).run Try.prog w' = .ok (.string (bs s)) w' := (fun c => run_bytes_string _ 5 _ Try.underlying28 Try.underlying5 Try.underlying9 w' _ x c s (Rd_below hb hS.out) hs.out); have hb' := Lib.hid hb; clear hb)
  go_ret3
  exact ⟨rfl, hb'.out⟩

theorem refGetBytes_any (a : Option Addr) (n c : Nat) (l : List UInt8) (w : World) (hR : Rd w a l) (hn : n = l.length) (hnc : n ≤ c) (hmax : c ≤ 9223372036854775807 ∧ n ≤ 4398046511104) (s : List UInt8) (u : Nat) (er : Int) (hr : gb l = (s, u, er)) :
    Calls Try.prog 27 #[.slice a n c] w fun e w' => e = .returned (.tuple #[.string (bs s), .int .i64 u, .int .i64 er]) ∧ Below w.heap.size w w' := by
  obtain ⟨x0, u0, e0, h0⟩ : ∃ x0 u0 e0, gl 1 l = (x0, u0, e0) := ⟨_, _, _, rfl⟩
  simp only [gb, h0] at hr
  by_cases c1 : e0 ≠ 0
  · rw [if_pos c1] at hr
    simp only [Prod.mk.injEq] at hr
    obtain ⟨rfl, rfl, rfl⟩ := hr
    exact refGetBytes_err a n c l w hR hn hnc hmax _ _ _ h0 (by simpa using c1)
  rw [if_neg c1] at hr
  have c1' : e0 = 0 := by omega
  subst c1'
  obtain ⟨g1, g2, g3, g4, g5, g6⟩ := gl_ok 1 (by omega) l x0 u0 h0
  obtain ⟨x, rfl⟩ := Int.eq_ofNat_of_zero_le g2
  simp only [Prod.mk.injEq, Int.toNat_natCast] at hr
  obtain ⟨rfl, rfl, rfl⟩ := hr
  rcases Nat.eq_zero_or_pos x with rfl | hx
  · exact refGetBytes_empty a n c l w hR hn hnc hmax u0 h0 (by omega)
  · rcases hR with rfl | ⟨b, off, rfl, hc⟩
    · simp at g3; omega
    · refine (refGetBytes_some b off n c l w (.inr ⟨b, off, rfl, hc⟩) hn hnc hmax x u0 h0 hx (by omega) (by omega) ((l.drop u0).take x) ?_ (Rd_sub w b off l hc u0 x)).mono ?_
      · show x = ((l.drop u0).take x).length
        simp; omega
      · rintro e w' ⟨rfl, hb⟩
        refine ⟨?_, hb⟩
        rw [show ((u0 : Int) + (x : Int)) = ((u0 + x : Nat) : Int) from by omega]

end Go.Proofs.Ytfodockdhecbpaa
