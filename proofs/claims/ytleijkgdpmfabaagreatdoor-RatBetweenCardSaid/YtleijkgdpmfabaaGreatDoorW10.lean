/- Contracts of the package integer and its reference: integer.Small. Words for walks of laws over integers: what a slot is known to hold. -/
import Derived.Test.YtleijkgdpmfabaaGreatDoorW3
import Derived.Test.YtleijkgdpmfabaaGreatDoorW6
import Derived.Test.YtleijkgdpmfabaaGreatDoorW8
import Derived.Test.YtleijkgdpmfabaaGreatDoorW7
import Derived.Test.YtleijkgdpmfabaaGreatDoorW9
import Derived.Test.YtleijkgdpmfabaaGreatDoorW1
set_option linter.unusedVariables false
namespace Go.Proofs.YtleijkgdpmfabaaGreatDoor
open Go.RowKit
def smb (x : Int) : Bool := decide (-9223372036854775808 ≤ x ∧ x ≤ 9223372036854775807)
def smv (x : Int) : Int := if -9223372036854775808 ≤ x ∧ x ≤ 9223372036854775807 then x else 0
theorem sm_no {x : Int} (h : ¬ (-9223372036854775808 ≤ x ∧ x ≤ 9223372036854775807)) : smb x = false ∧ smv x = 0 := ⟨decide_eq_false h, if_neg h⟩
theorem sm_yes {x : Int} (h : -9223372036854775808 ≤ x ∧ x ≤ 9223372036854775807) : smb x = true ∧ smv x = x := ⟨decide_eq_true h, if_pos h⟩
theorem len_val {n k : Nat} (h : k < (digs n).length) : pw k ≤ (n : Int) := by
  rcases Int.lt_or_le (n : Int) (pw k) with h1 | h1
  · have := digs_len_le h1; omega
  · exact h1
theorem top_dig {n k : Nat} (h : (digs n).length = k + 1) : pw k * iat (digs n) k ≤ (n : Int) ∧ (n : Int) < pw k * (iat (digs n) k + 1) := by
  have h1 := val_take (digs n) k (by omega)
  rw [← h, List.take_length, val_digs] at h1
  have h2 := ((Dg_digs n).take k).lo
  have h3 := ((Dg_digs n).take k).hi
  rw [List.length_take, Nat.min_eq_left (by omega)] at h3
  have e : pw k * (iat (digs n) k + 1) = pw k * iat (digs n) k + pw k := by grind
  omega
theorem pw2 : pw 2 = 1000000000000000000 := by decide
theorem pw3 : pw 3 = 1000000000000000000000000000 := by decide
theorem num_is {n : Nat} (h : n < 18446744073709551616) : NumI (digs n) 0 = (n : Int) := by
  unfold NumI
  rw [List.drop_zero, val_digs]
  omega
def SmP (w : World) (x : Int) (e : Ending) (w' : World) : Prop := e = .returned (.tuple #[.int .i64 (smv x), .bool (smb x)]) ∧ Below w.heap.size w w'
theorem smP_no {w w' : World} {x : Int} (h : ¬ (-9223372036854775808 ≤ x ∧ x ≤ 9223372036854775807)) (hb : Below w.heap.size w w') : SmP w x (.returned (.tuple #[.int .i64 0, .bool false])) w' := by
  unfold SmP
  rw [(sm_no h).1, (sm_no h).2]
  exact ⟨rfl, hb⟩
theorem smP_yes {w w' : World} {x v : Int} (h : -9223372036854775808 ≤ x ∧ x ≤ 9223372036854775807) (hv : v = x) (hb : Below w.heap.size w w') : SmP w x (.returned (.tuple #[.int .i64 v, .bool true])) w' := by
  unfold SmP
  rw [(sm_yes h).1, (sm_yes h).2, hv]
  exact ⟨rfl, hb⟩
theorem neg_back (m : Int) (h0 : 0 < m) (h1 : m ≤ 9223372036854775808) : IntKind.i64.wrap (IntKind.u64.wrap (-m)) = -m := by
  simp [IntKind.wrap, IntKind.bits, IntKind.signed]; omega
theorem neg_back' (m : Int) (h0 : 0 < m) (h1 : m ≤ 9223372036854775808) : wrap64 (IntKind.u64.wrap (-m)) = -m := by
  have h := neg_back m h0 h1
  rw [IntKind.wrap_i64] at h
  unfold wrap64
  omega
set_option maxRecDepth 100000 in
set_option maxHeartbeats 1600000 in
theorem small_long (nx : Bool) (px : Option Addr) (n cx : Nat) (x : Int) (w : World) (hx0 : IntAt w nx px n cx x) (hn : 3 < n) (hlx : n ≤ 549755813887) :
    Calls Tryz.prog 66 #[.agg #[.bool nx, .slice px n cx]] w (SmP w x) := by
  have hv := len_val (k := 3) (n := x.natAbs) (by rw [← hx0.2.1]; exact hn)
  rw [pw3] at hv
  have hno : Hid (¬ (-9223372036854775808 ≤ x ∧ x ≤ 9223372036854775807)) := Lib.hid (by omega)
  have t1 : (3 : Int) < (n : Int) := by omega
  clear hv hx0
  go_enter Tryz.func66, Tryz.ntmps66
  go_wp2_with fail
  go_ret2
  exact smP_no hno.out (below_new _ _)
set_option maxRecDepth 100000 in
set_option maxHeartbeats 1600000 in
theorem small_top (nx : Bool) (px : Option Addr) (cx : Nat) (x : Int) (w : World) (hx0 : IntAt w nx px 3 cx x) (ht : 9 < iat (digs x.natAbs) 2) :
    Calls Tryz.prog 66 #[.agg #[.bool nx, .slice px 3 cx]] w (SmP w x) := by
  have hl := hx0.2.1
  have hv := top_dig (k := 2) (n := x.natAbs) (by rw [← hl])
  rw [pw2] at hv
  obtain ⟨b, o, rfl, hc⟩ := Rdi_at hx0.2.2.1 2 (by omega)
  obtain ⟨T, hT⟩ : ∃ T, iat (digs x.natAbs) 2 = T := ⟨_, rfl⟩
  rw [hT] at hv ht hc
  have hno : Hid (¬ (-9223372036854775808 ≤ x ∧ x ≤ 9223372036854775807)) := Lib.hid (by omega)
  have hlt : b < w.heap.size := World.block_lt_of_cell? w _ hc
  have hc1 := Below.cell_of' (below_new w (.cells #[.bool nx, .slice (some ⟨b, o, none⟩) 3 cx] 24)) hc
  clear hv hx0 hl hT
  go_enter Tryz.func66, Tryz.ntmps66
  go_wp2_with fail
  go_ret2
  exact smP_no hno.out (below_new _ _)
set_option maxRecDepth 100000 in
set_option maxHeartbeats 1600000 in
theorem small_3ny (px : Option Addr) (cx : Nat) (x : Int) (w : World) (hx0 : IntAt w true px 3 cx x) (ht : iat (digs x.natAbs) 2 ≤ 9) (hrng : (-9223372036854775808 ≤ x ∧ x ≤ 9223372036854775807)) :
    Calls Tryz.prog 66 #[.agg #[.bool true, .slice px 3 cx]] w (SmP w x) := by
  have hneg : x < 0 := by have := hx0.1; simpa using this.symm
  have hl := hx0.2.1
  have hv := top_dig (k := 2) (n := x.natAbs) (by rw [← hl])
  rw [pw2] at hv
  obtain ⟨b, o, rfl, hc⟩ := Rdi_at hx0.2.2.1 2 (by omega)
  have hsz : x.natAbs < 18446744073709551616 := by omega
  have hnum : Hid (Calls Tryz.prog 107 #[.slice (some ⟨b, o, none⟩) 3 cx] (w.alloc (.cells #[.bool true, .slice (some ⟨b, o, none⟩) 3 cx] 24)) fun e w' => e = .returned (.int .u64 (x.natAbs : Int)) ∧ w.alloc (.cells #[.bool true, .slice (some ⟨b, o, none⟩) 3 cx] 24) = w') := Lib.hid (by
    have h := number_any (some ⟨b, o, none⟩) 3 cx (digs x.natAbs) (w.alloc (.cells #[.bool true, .slice (some ⟨b, o, none⟩) 3 cx] 24)) (Rdi_below (below_new _ _) hx0.2.2.1) hl (Dg_digs _) (by omega)
    rw [num_is hsz] at h
    exact h)
  obtain ⟨T, hT⟩ : ∃ T, iat (digs x.natAbs) 2 = T := ⟨_, rfl⟩
  rw [hT] at hc ht
  have hlt : b < w.heap.size := World.block_lt_of_cell? w _ hc
  have hc1 := Below.cell_of' (below_new w (.cells #[.bool true, .slice (some ⟨b, o, none⟩) 3 cx] 24)) hc
  clear hT
  obtain ⟨M, hM⟩ : ∃ M, (x.natAbs : Int) = M := ⟨_, rfl⟩
  rw [hM] at hnum
  have hMx : Hid (x = -M) := Lib.hid (by omega)
  have hM0 : 0 < M := by omega
  have hM1 : M ≤ 9223372036854775808 := by omega
  have hM2 : M < 18446744073709551616 := by omega
  have hrng' := Lib.hid hrng
  have hnb := Lib.hid (neg_back' M hM0 hM1)
  clear hx0 hl hv hsz hM hrng hneg
  go_enter Tryz.func66, Tryz.ntmps66
  go_wp2_with (go_at_call 107; refine hnum.out.mono ?_; rintro e w' ⟨rfl, rfl⟩)
  go_ret2
  exact smP_yes hrng'.out (by rw [hMx.out]; first | exact hnb.out | rfl) (below_new _ _)
set_option maxRecDepth 100000 in
set_option maxHeartbeats 1600000 in
theorem small_nny (px : Option Addr) (n cx : Nat) (x : Int) (w : World) (hx0 : IntAt w true px n cx x) (hn : n < 3) (hrng : (-9223372036854775808 ≤ x ∧ x ≤ 9223372036854775807)) :
    Calls Tryz.prog 66 #[.agg #[.bool true, .slice px n cx]] w (SmP w x) := by
  have hneg : x < 0 := by have := hx0.1; simpa using this.symm
  have hl := hx0.2.1
  have hv : (x.natAbs : Int) < pw 2 := by have h1 := lt_pw x.natAbs; have h2 := pw_mono (show (digs x.natAbs).length ≤ 2 by omega); omega
  rw [pw2] at hv
  have hsz : x.natAbs < 18446744073709551616 := by omega
  have hnum : Hid (Calls Tryz.prog 107 #[.slice px n cx] (w.alloc (.cells #[.bool true, .slice px n cx] 24)) fun e w' => e = .returned (.int .u64 (x.natAbs : Int)) ∧ w.alloc (.cells #[.bool true, .slice px n cx] 24) = w') := Lib.hid (by
    have h := number_any px n cx (digs x.natAbs) (w.alloc (.cells #[.bool true, .slice px n cx] 24)) (Rdi_below (below_new _ _) hx0.2.2.1) hl (Dg_digs _) (by omega)
    rw [num_is hsz] at h
    exact h)
  obtain ⟨M, hM⟩ : ∃ M, (x.natAbs : Int) = M := ⟨_, rfl⟩
  rw [hM] at hnum
  have hMx : Hid (x = -M) := Lib.hid (by omega)
  have hM0 : 0 < M := by omega
  have hM1 : M ≤ 9223372036854775808 := by omega
  have hM2 : M < 18446744073709551616 := by omega
  have hrng' := Lib.hid hrng
  have t1 : ¬ (3 : Int) < (n : Int) := by omega
  have t2 : ((n : Int) == 3) = false := by simp; omega
  have hnb := Lib.hid (neg_back' M hM0 hM1)
  clear hx0 hl hv hsz hM hrng hneg
  go_enter Tryz.func66, Tryz.ntmps66
  go_wp2_with (go_at_call 107; refine hnum.out.mono ?_; rintro e w' ⟨rfl, rfl⟩)
  go_ret2
  exact smP_yes hrng'.out (by rw [hMx.out]; first | exact hnb.out | rfl) (below_new _ _)
set_option maxRecDepth 100000 in
set_option maxHeartbeats 1600000 in
theorem small_3no (px : Option Addr) (cx : Nat) (x : Int) (w : World) (hx0 : IntAt w true px 3 cx x) (ht : iat (digs x.natAbs) 2 ≤ 9) (hrng : ¬ (-9223372036854775808 ≤ x ∧ x ≤ 9223372036854775807)) :
    Calls Tryz.prog 66 #[.agg #[.bool true, .slice px 3 cx]] w (SmP w x) := by
  have hneg : x < 0 := by have := hx0.1; simpa using this.symm
  have hl := hx0.2.1
  have hv := top_dig (k := 2) (n := x.natAbs) (by rw [← hl])
  rw [pw2] at hv
  obtain ⟨b, o, rfl, hc⟩ := Rdi_at hx0.2.2.1 2 (by omega)
  have hsz : x.natAbs < 18446744073709551616 := by omega
  have hnum : Hid (Calls Tryz.prog 107 #[.slice (some ⟨b, o, none⟩) 3 cx] (w.alloc (.cells #[.bool true, .slice (some ⟨b, o, none⟩) 3 cx] 24)) fun e w' => e = .returned (.int .u64 (x.natAbs : Int)) ∧ w.alloc (.cells #[.bool true, .slice (some ⟨b, o, none⟩) 3 cx] 24) = w') := Lib.hid (by
    have h := number_any (some ⟨b, o, none⟩) 3 cx (digs x.natAbs) (w.alloc (.cells #[.bool true, .slice (some ⟨b, o, none⟩) 3 cx] 24)) (Rdi_below (below_new _ _) hx0.2.2.1) hl (Dg_digs _) (by omega)
    rw [num_is hsz] at h
    exact h)
  obtain ⟨T, hT⟩ : ∃ T, iat (digs x.natAbs) 2 = T := ⟨_, rfl⟩
  rw [hT] at hc ht
  have hlt : b < w.heap.size := World.block_lt_of_cell? w _ hc
  have hc1 := Below.cell_of' (below_new w (.cells #[.bool true, .slice (some ⟨b, o, none⟩) 3 cx] 24)) hc
  clear hT
  obtain ⟨M, hM⟩ : ∃ M, (x.natAbs : Int) = M := ⟨_, rfl⟩
  rw [hM] at hnum
  have hMx : Hid (x = -M) := Lib.hid (by omega)
  have hM0 : 0 < M := by omega
  have hM1 : M > 9223372036854775808 := by omega
  have hM2 : M < 18446744073709551616 := by omega
  have hrng' := Lib.hid hrng
  clear hx0 hl hv hsz hM hrng hneg
  go_enter Tryz.func66, Tryz.ntmps66
  go_wp2_with (go_at_call 107; refine hnum.out.mono ?_; rintro e w' ⟨rfl, rfl⟩)
  go_ret2
  exact smP_no hrng'.out (below_new _ _)
set_option maxRecDepth 100000 in
set_option maxHeartbeats 1600000 in
theorem small_nno (px : Option Addr) (n cx : Nat) (x : Int) (w : World) (hx0 : IntAt w true px n cx x) (hn : n < 3) (hrng : ¬ (-9223372036854775808 ≤ x ∧ x ≤ 9223372036854775807)) :
    Calls Tryz.prog 66 #[.agg #[.bool true, .slice px n cx]] w (SmP w x) := by
  have hneg : x < 0 := by have := hx0.1; simpa using this.symm
  have hl := hx0.2.1
  have hv : (x.natAbs : Int) < pw 2 := by have h1 := lt_pw x.natAbs; have h2 := pw_mono (show (digs x.natAbs).length ≤ 2 by omega); omega
  rw [pw2] at hv
  have hsz : x.natAbs < 18446744073709551616 := by omega
  have hnum : Hid (Calls Tryz.prog 107 #[.slice px n cx] (w.alloc (.cells #[.bool true, .slice px n cx] 24)) fun e w' => e = .returned (.int .u64 (x.natAbs : Int)) ∧ w.alloc (.cells #[.bool true, .slice px n cx] 24) = w') := Lib.hid (by
    have h := number_any px n cx (digs x.natAbs) (w.alloc (.cells #[.bool true, .slice px n cx] 24)) (Rdi_below (below_new _ _) hx0.2.2.1) hl (Dg_digs _) (by omega)
    rw [num_is hsz] at h
    exact h)
  obtain ⟨M, hM⟩ : ∃ M, (x.natAbs : Int) = M := ⟨_, rfl⟩
  rw [hM] at hnum
  have hMx : Hid (x = -M) := Lib.hid (by omega)
  have hM0 : 0 < M := by omega
  have hM1 : M > 9223372036854775808 := by omega
  have hM2 : M < 18446744073709551616 := by omega
  have hrng' := Lib.hid hrng
  have t1 : ¬ (3 : Int) < (n : Int) := by omega
  have t2 : ((n : Int) == 3) = false := by simp; omega
  clear hx0 hl hv hsz hM hrng hneg
  go_enter Tryz.func66, Tryz.ntmps66
  go_wp2_with (go_at_call 107; refine hnum.out.mono ?_; rintro e w' ⟨rfl, rfl⟩)
  go_ret2
  exact smP_no hrng'.out (below_new _ _)
set_option maxRecDepth 100000 in
set_option maxHeartbeats 1600000 in
theorem small_3py (px : Option Addr) (cx : Nat) (x : Int) (w : World) (hx0 : IntAt w false px 3 cx x) (ht : iat (digs x.natAbs) 2 ≤ 9) (hrng : (-9223372036854775808 ≤ x ∧ x ≤ 9223372036854775807)) :
    Calls Tryz.prog 66 #[.agg #[.bool false, .slice px 3 cx]] w (SmP w x) := by
  have hneg : ¬ x < 0 := by have := hx0.1; simpa using this.symm
  have hl := hx0.2.1
  have hv := top_dig (k := 2) (n := x.natAbs) (by rw [← hl])
  rw [pw2] at hv
  obtain ⟨b, o, rfl, hc⟩ := Rdi_at hx0.2.2.1 2 (by omega)
  have hsz : x.natAbs < 18446744073709551616 := by omega
  have hnum : Hid (Calls Tryz.prog 107 #[.slice (some ⟨b, o, none⟩) 3 cx] (w.alloc (.cells #[.bool false, .slice (some ⟨b, o, none⟩) 3 cx] 24)) fun e w' => e = .returned (.int .u64 (x.natAbs : Int)) ∧ w.alloc (.cells #[.bool false, .slice (some ⟨b, o, none⟩) 3 cx] 24) = w') := Lib.hid (by
    have h := number_any (some ⟨b, o, none⟩) 3 cx (digs x.natAbs) (w.alloc (.cells #[.bool false, .slice (some ⟨b, o, none⟩) 3 cx] 24)) (Rdi_below (below_new _ _) hx0.2.2.1) hl (Dg_digs _) (by omega)
    rw [num_is hsz] at h
    exact h)
  obtain ⟨T, hT⟩ : ∃ T, iat (digs x.natAbs) 2 = T := ⟨_, rfl⟩
  rw [hT] at hc ht
  have hlt : b < w.heap.size := World.block_lt_of_cell? w _ hc
  have hc1 := Below.cell_of' (below_new w (.cells #[.bool false, .slice (some ⟨b, o, none⟩) 3 cx] 24)) hc
  clear hT
  obtain ⟨M, hM⟩ : ∃ M, (x.natAbs : Int) = M := ⟨_, rfl⟩
  rw [hM] at hnum
  have hMx : Hid (x = M) := Lib.hid (by omega)
  have hM0 : 0 ≤ M := by omega
  have hM1 : M ≤ 9223372036854775807 := by omega
  have hM2 : M < 18446744073709551616 := by omega
  have hrng' := Lib.hid hrng
  clear hx0 hl hv hsz hM hrng hneg
  go_enter Tryz.func66, Tryz.ntmps66
  go_wp2_with (go_at_call 107; refine hnum.out.mono ?_; rintro e w' ⟨rfl, rfl⟩)
  go_ret2
  exact smP_yes hrng'.out (by rw [hMx.out]) (below_new _ _)
set_option maxRecDepth 100000 in
set_option maxHeartbeats 1600000 in
theorem small_npy (px : Option Addr) (n cx : Nat) (x : Int) (w : World) (hx0 : IntAt w false px n cx x) (hn : n < 3) (hrng : (-9223372036854775808 ≤ x ∧ x ≤ 9223372036854775807)) :
    Calls Tryz.prog 66 #[.agg #[.bool false, .slice px n cx]] w (SmP w x) := by
  have hneg : ¬ x < 0 := by have := hx0.1; simpa using this.symm
  have hl := hx0.2.1
  have hv : (x.natAbs : Int) < pw 2 := by have h1 := lt_pw x.natAbs; have h2 := pw_mono (show (digs x.natAbs).length ≤ 2 by omega); omega
  rw [pw2] at hv
  have hsz : x.natAbs < 18446744073709551616 := by omega
  have hnum : Hid (Calls Tryz.prog 107 #[.slice px n cx] (w.alloc (.cells #[.bool false, .slice px n cx] 24)) fun e w' => e = .returned (.int .u64 (x.natAbs : Int)) ∧ w.alloc (.cells #[.bool false, .slice px n cx] 24) = w') := Lib.hid (by
    have h := number_any px n cx (digs x.natAbs) (w.alloc (.cells #[.bool false, .slice px n cx] 24)) (Rdi_below (below_new _ _) hx0.2.2.1) hl (Dg_digs _) (by omega)
    rw [num_is hsz] at h
    exact h)
  obtain ⟨M, hM⟩ : ∃ M, (x.natAbs : Int) = M := ⟨_, rfl⟩
  rw [hM] at hnum
  have hMx : Hid (x = M) := Lib.hid (by omega)
  have hM0 : 0 ≤ M := by omega
  have hM1 : M ≤ 9223372036854775807 := by omega
  have hM2 : M < 18446744073709551616 := by omega
  have hrng' := Lib.hid hrng
  have t1 : ¬ (3 : Int) < (n : Int) := by omega
  have t2 : ((n : Int) == 3) = false := by simp; omega
  clear hx0 hl hv hsz hM hrng hneg
  go_enter Tryz.func66, Tryz.ntmps66
  go_wp2_with (go_at_call 107; refine hnum.out.mono ?_; rintro e w' ⟨rfl, rfl⟩)
  go_ret2
  exact smP_yes hrng'.out (by rw [hMx.out]) (below_new _ _)
set_option maxRecDepth 100000 in
set_option maxHeartbeats 1600000 in
theorem small_3po (px : Option Addr) (cx : Nat) (x : Int) (w : World) (hx0 : IntAt w false px 3 cx x) (ht : iat (digs x.natAbs) 2 ≤ 9) (hrng : ¬ (-9223372036854775808 ≤ x ∧ x ≤ 9223372036854775807)) :
    Calls Tryz.prog 66 #[.agg #[.bool false, .slice px 3 cx]] w (SmP w x) := by
  have hneg : ¬ x < 0 := by have := hx0.1; simpa using this.symm
  have hl := hx0.2.1
  have hv := top_dig (k := 2) (n := x.natAbs) (by rw [← hl])
  rw [pw2] at hv
  obtain ⟨b, o, rfl, hc⟩ := Rdi_at hx0.2.2.1 2 (by omega)
  have hsz : x.natAbs < 18446744073709551616 := by omega
  have hnum : Hid (Calls Tryz.prog 107 #[.slice (some ⟨b, o, none⟩) 3 cx] (w.alloc (.cells #[.bool false, .slice (some ⟨b, o, none⟩) 3 cx] 24)) fun e w' => e = .returned (.int .u64 (x.natAbs : Int)) ∧ w.alloc (.cells #[.bool false, .slice (some ⟨b, o, none⟩) 3 cx] 24) = w') := Lib.hid (by
    have h := number_any (some ⟨b, o, none⟩) 3 cx (digs x.natAbs) (w.alloc (.cells #[.bool false, .slice (some ⟨b, o, none⟩) 3 cx] 24)) (Rdi_below (below_new _ _) hx0.2.2.1) hl (Dg_digs _) (by omega)
    rw [num_is hsz] at h
    exact h)
  obtain ⟨T, hT⟩ : ∃ T, iat (digs x.natAbs) 2 = T := ⟨_, rfl⟩
  rw [hT] at hc ht
  have hlt : b < w.heap.size := World.block_lt_of_cell? w _ hc
  have hc1 := Below.cell_of' (below_new w (.cells #[.bool false, .slice (some ⟨b, o, none⟩) 3 cx] 24)) hc
  clear hT
  obtain ⟨M, hM⟩ : ∃ M, (x.natAbs : Int) = M := ⟨_, rfl⟩
  rw [hM] at hnum
  have hMx : Hid (x = M) := Lib.hid (by omega)
  have hM0 : 0 ≤ M := by omega
  have hM1 : M > 9223372036854775807 := by omega
  have hM2 : M < 18446744073709551616 := by omega
  have hrng' := Lib.hid hrng
  clear hx0 hl hv hsz hM hrng hneg
  go_enter Tryz.func66, Tryz.ntmps66
  go_wp2_with (go_at_call 107; refine hnum.out.mono ?_; rintro e w' ⟨rfl, rfl⟩)
  go_ret2
  exact smP_no hrng'.out (below_new _ _)
set_option maxRecDepth 100000 in
set_option maxHeartbeats 1600000 in
theorem small_npo (px : Option Addr) (n cx : Nat) (x : Int) (w : World) (hx0 : IntAt w false px n cx x) (hn : n < 3) (hrng : ¬ (-9223372036854775808 ≤ x ∧ x ≤ 9223372036854775807)) :
    Calls Tryz.prog 66 #[.agg #[.bool false, .slice px n cx]] w (SmP w x) := by
  have hneg : ¬ x < 0 := by have := hx0.1; simpa using this.symm
  have hl := hx0.2.1
  have hv : (x.natAbs : Int) < pw 2 := by have h1 := lt_pw x.natAbs; have h2 := pw_mono (show (digs x.natAbs).length ≤ 2 by omega); omega
  rw [pw2] at hv
  have hsz : x.natAbs < 18446744073709551616 := by omega
  have hnum : Hid (Calls Tryz.prog 107 #[.slice px n cx] (w.alloc (.cells #[.bool false, .slice px n cx] 24)) fun e w' => e = .returned (.int .u64 (x.natAbs : Int)) ∧ w.alloc (.cells #[.bool false, .slice px n cx] 24) = w') := Lib.hid (by
    have h := number_any px n cx (digs x.natAbs) (w.alloc (.cells #[.bool false, .slice px n cx] 24)) (Rdi_below (below_new _ _) hx0.2.2.1) hl (Dg_digs _) (by omega)
    rw [num_is hsz] at h
    exact h)
  obtain ⟨M, hM⟩ : ∃ M, (x.natAbs : Int) = M := ⟨_, rfl⟩
  rw [hM] at hnum
  have hMx : Hid (x = M) := Lib.hid (by omega)
  have hM0 : 0 ≤ M := by omega
  have hM1 : M > 9223372036854775807 := by omega
  have hM2 : M < 18446744073709551616 := by omega
  have hrng' := Lib.hid hrng
  have t1 : ¬ (3 : Int) < (n : Int) := by omega
  have t2 : ((n : Int) == 3) = false := by simp; omega
  clear hx0 hl hv hsz hM hrng hneg
  go_enter Tryz.func66, Tryz.ntmps66
  go_wp2_with (go_at_call 107; refine hnum.out.mono ?_; rintro e w' ⟨rfl, rfl⟩)
  go_ret2
  exact smP_no hrng'.out (below_new _ _)
theorem Small_any (nx : Bool) (px : Option Addr) (n cx : Nat) (x : Int) (w : World) (hx0 : IntAt w nx px n cx x) (hlx : n ≤ 549755813887) :
    Calls Tryz.prog 66 #[.agg #[.bool nx, .slice px n cx]] w (SmP w x) := by
  rcases Nat.lt_or_ge 3 n with h | h
  · exact small_long nx px n cx x w hx0 h hlx
  · rcases Nat.lt_or_ge n 3 with h3 | h3
    · by_cases hr : -9223372036854775808 ≤ x ∧ x ≤ 9223372036854775807
      · cases nx
        · exact small_npy px n cx x w hx0 h3 hr
        · exact small_nny px n cx x w hx0 h3 hr
      · cases nx
        · exact small_npo px n cx x w hx0 h3 hr
        · exact small_nno px n cx x w hx0 h3 hr
    · obtain rfl : n = 3 := by omega
      by_cases ht : 9 < iat (digs x.natAbs) 2
      · exact small_top nx px cx x w hx0 ht
      · by_cases hr : -9223372036854775808 ≤ x ∧ x ≤ 9223372036854775807
        · cases nx
          · exact small_3py px cx x w hx0 (by omega) hr
          · exact small_3ny px cx x w hx0 (by omega) hr
        · cases nx
          · exact small_3po px cx x w hx0 (by omega) hr
          · exact small_3no px cx x w hx0 (by omega) hr
open Go.RowKit
abbrev VP := Value → World → Prop
def Vz (N : Nat) (z : Int) : VP := fun v W => ∃ nb p n c, v = .agg #[.bool nb, .slice p n c] ∧ IntAt W nb p n c z ∧ n ≤ N
def Vb (b : Bool) : VP := fun v _ => v = .bool b
def Vi (i : Int) : VP := fun v _ => v = .int .i64 i
def VT : VP := fun _ _ => True
def Bz (N : Nat) (g : Nat) (z : Int) (W : World) : Prop := ∃ nb p n c, W.heap[g]? = some (.cells #[.bool nb, .slice p n c] 24 (0, 0)) ∧ IntAt W nb p n c z ∧ n ≤ N
theorem Bz.later {N g : Nat} {z : Int} {W W' : World} (h : Bz N g z W) (hb : Below W.heap.size W W') : Bz N g z W' := by
  obtain ⟨nb, p, n, c, h1, h2, h3⟩ := h
  exact ⟨nb, p, n, c, (hb.block _ (lt_blk h1)).trans h1, h2.later hb, h3⟩
def Mono (V : VP) : Prop := ∀ v W W', V v W → Below W.heap.size W W' → V v W'
theorem Vz_mono (N : Nat) (z : Int) : Mono (Vz N z) := fun _ _ _ ⟨nb, p, n, c, h1, h2, h3⟩ hb => ⟨nb, p, n, c, h1, h2.later hb, h3⟩
theorem Vb_mono (b : Bool) : Mono (Vb b) := fun _ _ _ h _ => h
theorem Vi_mono (i : Int) : Mono (Vi i) := fun _ _ _ h _ => h
theorem VT_mono : Mono VT := fun _ _ _ _ _ => trivial
def MonoL : List VP → Prop
  | [] => True
  | V :: l => Mono V ∧ MonoL l
theorem MonoL.get : ∀ {l : List VP}, MonoL l → ∀ j, Mono (l.getD j VT)
  | [], _, j => by simpa using VT_mono
  | V :: l, h, 0 => h.1
  | V :: l, h, j + 1 => by have := MonoL.get h.2 j; simpa using this
theorem mono_of {l : List VP} (h : MonoL l) : ∀ j u (w w' : World), (fun i => l.getD i VT) j u w → Below w.heap.size w w' → (fun i => l.getD i VT) j u w' := fun j u w w' hV hb => h.get j u w w' hV hb
def RV (V : VP) (W : World) (e : Ending) (w' : World) : Prop := ∃ v, e = .returned v ∧ V v w' ∧ Below W.heap.size W w'
theorem run_pick_t {P : Program} {ρ : Operand → Value} {o : Oper} {W : World} {c x y : Operand} (ho : o.op = .pick c x y) (hc : ρ c = .bool true) : (execOp ρ o).run P W = .ok (.value (ρ x)) W := by
  simp [execOp, ho, hc, asBool]
theorem run_pick_f {P : Program} {ρ : Operand → Value} {o : Oper} {W : World} {c x y : Operand} (ho : o.op = .pick c x y) (hc : ρ c = .bool false) : (execOp ρ o).run P W = .ok (.value (ρ y)) W := by
  simp [execOp, ho, hc, asBool]
theorem run_not {ρ : Operand → Value} {o : Oper} {W : World} {t : TypeId} {x : Operand} {b : Bool} (ho : o.op = .unOp .not t x) (hx : ρ x = .bool b) : (execOp ρ o).run Tryz.prog W = .ok (.value (.bool (!b))) W := by
  obtain ⟨d, op, ty, ps, af, gd⟩ := o
  subst ho
  cases b <;> go_simp
theorem run_move {P : Program} {ρ : Operand → Value} {o : Oper} {W : World} {x : Operand} (ho : o.op = .move x) : (execOp ρ o).run P W = .ok (.value (ρ x)) W := by
  obtain ⟨d, op, ty, ps, af, gd⟩ := o
  subst ho
  rfl
theorem run_assign {P : Program} {ρ : Operand → Value} {o : Oper} {W : World} {x : Operand} (ho : o.op = .assign x) : (execOp ρ o).run P W = .ok (.value (ρ x)) W := by
  obtain ⟨d, op, ty, ps, af, gd⟩ := o
  subst ho
  rfl
theorem run_eqi {ρ : Operand → Value} {o : Oper} {W : World} {x y : Operand} {a b : Int} (ho : o.op = .binOp .eql 3 x y 3) (hx : ρ x = .int .i64 a) (hy : ρ y = .int .i64 b) : (execOp ρ o).run Tryz.prog W = .ok (.value (.bool (a == b))) W := by
  obtain ⟨d, op, ty, ps, af, gd⟩ := o
  subst ho
  go_simp
theorem wp_load_box {o : Oper} {a : Act} {W : World} {K : Act → World → Prop} {Q : Exit → Act → World → Prop} {X : Nat} {g N : Nat} {z : Int} (ho : o.op = .load 24 (.tmp X)) (hx : a.eval (.tmp X) = .pointer (some ⟨g, 0, none⟩)) (hB : Bz N g z W) (hK : ∀ v, Vz N z v W → K (a.put o.dst v) W) : o.wp Tryz.prog a W K Q := by
  obtain ⟨nb, p, n, c, h1, h2, h3⟩ := hB
  exact wp_load_row 24 (.tmp X) ho g hx 24 #[.bool nb, .slice p n c] (0, 0) _ h1 Tryz.underlying24 rfl size_Int (hK _ ⟨nb, p, n, c, rfl, h2, h3⟩)
theorem dl_add (a b : Int) (Na Nb : Nat) (ha : (digs a.natAbs).length ≤ Na) (hb : (digs b.natAbs).length ≤ Nb) : (digs (a + b).natAbs).length ≤ max Na Nb + 1 := by
  apply digs_len_le
  have h1 := lt_pw a.natAbs
  have h2 := lt_pw b.natAbs
  have h3 := pw_mono (show (digs a.natAbs).length ≤ max Na Nb by omega)
  have h4 := pw_mono (show (digs b.natAbs).length ≤ max Na Nb by omega)
  show _ < 1000000000 * pw (max Na Nb)
  omega
theorem dl_mul (a b : Int) (Na Nb : Nat) (ha : (digs a.natAbs).length ≤ Na) (hb : (digs b.natAbs).length ≤ Nb) : (digs (a * b).natAbs).length ≤ Na + Nb := by
  apply digs_len_le
  have h1 := lt_pw a.natAbs
  have h2 := lt_pw b.natAbs
  have h3 := pw_mono ha
  have h4 := pw_mono hb
  have h5 := pw_pos Na
  rw [Int.natAbs_mul, pw_add]
  have h6 : (a.natAbs : Int) * (b.natAbs : Int) ≤ (a.natAbs : Int) * pw Nb := Int.mul_le_mul_of_nonneg_left (by omega) (by omega)
  have h7 : (a.natAbs : Int) * pw Nb < pw Na * pw Nb := Int.mul_lt_mul_of_pos_right (by omega) (by have := pw_pos Nb; omega)
  simp only [Int.natCast_mul]
  omega
theorem retI_vz {w w' : World} {z : Int} {N : Nat} {e : Ending} (h : RetI w z e w') (hN : (digs z.natAbs).length ≤ N) : RV (Vz N z) w e w' := by
  obtain ⟨nb, p, n, c, rfl, hI, hb, _⟩ := h
  exact ⟨_, rfl, ⟨nb, p, n, c, rfl, hI, by rw [hI.2.1]; exact hN⟩, hb⟩
section
variable {W : World} {Na Nb : Nat} {a b : Int} {v1 v2 : Value}
theorem cAdd (h1 : Vz Na a v1 W) (h2 : Vz Nb b v2 W) (hN1 : Na ≤ 1000000) (hN2 : Nb ≤ 1000000) : Calls Tryz.prog 88 #[v1, v2] W (RV (Vz (max Na Nb + 1) (a + b)) W) := by
  obtain ⟨nb, p, n, c, rfl, hI, hn⟩ := h1
  obtain ⟨nb2, p2, n2, c2, rfl, hI2, hn2⟩ := h2
  exact (Add_any _ _ _ _ _ _ _ _ a b W hI.z hI2.z (by omega) (by omega)).mono fun e w' h => retI_vz h (dl_add a b Na Nb (by rw [← hI.2.1]; exact hn) (by rw [← hI2.2.1]; exact hn2))
theorem cSub (h1 : Vz Na a v1 W) (h2 : Vz Nb b v2 W) (hN1 : Na ≤ 1000000) (hN2 : Nb ≤ 1000000) : Calls Tryz.prog 67 #[v1, v2] W (RV (Vz (max Na Nb + 1) (a - b)) W) := by
  obtain ⟨nb, p, n, c, rfl, hI, hn⟩ := h1
  obtain ⟨nb2, p2, n2, c2, rfl, hI2, hn2⟩ := h2
  exact (Sub_any _ _ _ _ _ _ _ _ a b W hI.z hI2.z (by omega) (by omega)).mono fun e w' h => retI_vz h (by rw [Int.sub_eq_add_neg]; exact dl_add a (-b) Na Nb (by rw [← hI.2.1]; exact hn) (by rw [Int.natAbs_neg, ← hI2.2.1]; exact hn2))
theorem cMul (h1 : Vz Na a v1 W) (h2 : Vz Nb b v2 W) (hN1 : Na ≤ 1000000) (hN2 : Nb ≤ 1000000) : Calls Tryz.prog 89 #[v1, v2] W (RV (Vz (Na + Nb) (a * b)) W) := by
  obtain ⟨nb, p, n, c, rfl, hI, hn⟩ := h1
  obtain ⟨nb2, p2, n2, c2, rfl, hI2, hn2⟩ := h2
  exact (Mul_any _ _ _ _ _ _ _ _ a b W hI hI2 (by omega) (by omega)).mono fun e w' h => retI_vz h (dl_mul a b Na Nb (by rw [← hI.2.1]; exact hn) (by rw [← hI2.2.1]; exact hn2))
theorem cNeg (h1 : Vz Na a v1 W) (hN1 : Na ≤ 1000000) : Calls Tryz.prog 82 #[v1] W (RV (Vz Na (-a)) W) := by
  obtain ⟨nb, p, n, c, rfl, hI, hn⟩ := h1
  exact (Neg_any _ _ _ _ a W hI.z (by omega)).mono fun e w' h => retI_vz h (by rw [Int.natAbs_neg, ← hI.2.1]; exact hn)
theorem cCompare (h1 : Vz Na a v1 W) (h2 : Vz Nb b v2 W) (hN1 : Na ≤ 1000000) (hN2 : Nb ≤ 1000000) : Calls Tryz.prog 92 #[v1, v2] W (RV (Vi (cmpI a b)) W) := by
  obtain ⟨nb, p, n, c, rfl, hI, hn⟩ := h1
  obtain ⟨nb2, p2, n2, c2, rfl, hI2, hn2⟩ := h2
  exact (Compare_any _ _ _ _ _ _ _ _ a b W hI hI2 (by omega) (by omega)).mono fun e w' h => ⟨_, h.1, rfl, h.2⟩
theorem cSign (h1 : Vz Na a v1 W) (hN1 : Na ≤ 1000000) : Calls Tryz.prog 78 #[v1] W (RV (Vi (cmpI a 0)) W) := by
  obtain ⟨nb, p, n, c, rfl, hI, hn⟩ := h1
  exact (Sign_any _ _ _ _ a W hI (by omega)).mono fun e w' h => ⟨_, h.1, rfl, h.2⟩
theorem cOf (n : Int) (h1 : -9223372036854775808 ≤ n) (h2 : n ≤ 9223372036854775807) : Calls Tryz.prog 68 #[.int .i64 n] W (RV (Vz 3 n) W) :=
  (Of_any n h1 h2 W).mono fun e w' h => retI_vz h (digs_len_le (by rw [pw3]; omega))
theorem cROf (n : Int) (h1 : -9223372036854775808 ≤ n) (h2 : n ≤ 9223372036854775807) : Calls Tryz.prog 15 #[.int .i64 n] W (RV (Vz 3 n) W) :=
  (rOf_any n h1 h2 W).mono fun e w' h => by
    refine retI_vz ?_ (digs_len_le (by rw [pw3]; omega))
    exact h
end
end Go.Proofs.YtleijkgdpmfabaaGreatDoor
