/- Contracts of the package integer and its reference: integer.Small. -/
import Derived.Test.YteaoaoknpihchaaDoorM3
import Derived.Test.YteaoaoknpihchaaDoorM8
namespace Go.Proofs.YteaoaoknpihchaaDoor
open Go.RowKit

/-- whether an integer is an int, and which -/
def smb (x : Int) : Bool := decide (-9223372036854775808 ≤ x ∧ x ≤ 9223372036854775807)
def smv (x : Int) : Int := if -9223372036854775808 ≤ x ∧ x ≤ 9223372036854775807 then x else 0
theorem sm_no {x : Int} (h : ¬ (-9223372036854775808 ≤ x ∧ x ≤ 9223372036854775807)) : smb x = false ∧ smv x = 0 := ⟨decide_eq_false h, if_neg h⟩
theorem sm_yes {x : Int} (h : -9223372036854775808 ≤ x ∧ x ≤ 9223372036854775807) : smb x = true ∧ smv x = x := ⟨decide_eq_true h, if_pos h⟩
theorem len_val {n k : Nat} (h : k < (digs n).length) : pw k ≤ (n : Int) := by
  rcases Int.lt_or_le (n : Int) (pw k) with h1 | h1
  · have := digs_len_le h1; omega
  · exact h1
theorem top_dig {n k : Nat} (h : (digs n).length = k + 1) : pw k * iat (digs n) k ≤ (n : Int) ∧ (n : Int) < pw k * (iat (digs n) k + 1) := by
  have h1 := val_take (digs n) k (by omega)
  rw [← h, List.take_length, val_digs] at h1
  have h2 := ((Dg_digs n).take k).lo
  have h3 := ((Dg_digs n).take k).hi
  rw [List.length_take, Nat.min_eq_left (by omega)] at h3
  have e : pw k * (iat (digs n) k + 1) = pw k * iat (digs n) k + pw k := by grind
  omega
theorem pw2 : pw 2 = 1000000000000000000 := by decide
theorem pw3 : pw 3 = 1000000000000000000000000000 := by decide
/-- the number of the digits -/
theorem num_is {n : Nat} (h : n < 18446744073709551616) : NumI (digs n) 0 = (n : Int) := by
  unfold NumI
  rw [List.drop_zero, val_digs]
  omega
/-- a number of 64 bits that stands for a digits' number -/
def M64 (m : Int) (n : Nat) : Prop := m = (n : Int)
/-- what Small answers -/
def SmP (w : World) (x : Int) (e : Ending) (w' : World) : Prop := e = .returned (.tuple #[.int .i64 (smv x), .bool (smb x)]) ∧ Below w.heap.size w w'
theorem smP_no {w w' : World} {x : Int} (h : ¬ (-9223372036854775808 ≤ x ∧ x ≤ 9223372036854775807)) (hb : Below w.heap.size w w') : SmP w x (.returned (.tuple #[.int .i64 0, .bool false])) w' := by
  unfold SmP
  rw [(sm_no h).1, (sm_no h).2]
  exact ⟨rfl, hb⟩
theorem smP_yes {w w' : World} {x v : Int} (h : -9223372036854775808 ≤ x ∧ x ≤ 9223372036854775807) (hv : v = x) (hb : Below w.heap.size w w') : SmP w x (.returned (.tuple #[.int .i64 v, .bool true])) w' := by
  unfold SmP
  rw [(sm_yes h).1, (sm_yes h).2, hv]
  exact ⟨rfl, hb⟩
theorem neg_back (m : Int) (h0 : 0 < m) (h1 : m ≤ 9223372036854775808) : IntKind.i64.wrap (IntKind.u64.wrap (-m)) = -m := by
  simp [IntKind.wrap, IntKind.bits, IntKind.signed]; omega
theorem neg_back' (m : Int) (h0 : 0 < m) (h1 : m ≤ 9223372036854775808) : wrap64 (IntKind.u64.wrap (-m)) = -m := by
  have h := neg_back m h0 h1
  rw [IntKind.wrap_i64] at h
  unfold wrap64
  omega

set_option maxRecDepth 100000 in
set_option maxHeartbeats 1600000 in
theorem small_long (nx : Bool) (px : Option Addr) (n cx : Nat) (x : Int) (w : World) (hx0 : IntAt w nx px n cx x) (hn : 3 < n) (hlx : n ≤ 549755813887) :
    Calls Tryd.prog 15 #[.agg #[.bool nx, .slice px n cx]] w (SmP w x) := by
  have hv := len_val (k := 3) (n := x.natAbs) (by rw [← hx0.2.1]; exact hn)
  rw [pw3] at hv
  have hno : Hid (¬ (-9223372036854775808 ≤ x ∧ x ≤ 9223372036854775807)) := Lib.hid (by omega)
  have t1 : (3 : Int) < (n : Int) := by omega
  clear hv hx0
  go_enter Tryd.func15, Tryd.ntmps15
  go_wp2_with fail
  go_ret2
  exact smP_no hno.out (below_new _ _)

set_option maxRecDepth 100000 in
set_option maxHeartbeats 1600000 in
theorem small_top (nx : Bool) (px : Option Addr) (cx : Nat) (x : Int) (w : World) (hx0 : IntAt w nx px 3 cx x) (ht : 9 < iat (digs x.natAbs) 2) :
    Calls Tryd.prog 15 #[.agg #[.bool nx, .slice px 3 cx]] w (SmP w x) := by
  have hl := hx0.2.1
  have hv := top_dig (k := 2) (n := x.natAbs) (by rw [← hl])
  rw [pw2] at hv
  obtain ⟨b, o, rfl, hc⟩ := Rdi_at hx0.2.2.1 2 (by omega)
  obtain ⟨T, hT⟩ : ∃ T, iat (digs x.natAbs) 2 = T := ⟨_, rfl⟩
  rw [hT] at hv ht hc
  have hno : Hid (¬ (-9223372036854775808 ≤ x ∧ x ≤ 9223372036854775807)) := Lib.hid (by omega)
  have hlt : b < w.heap.size := World.block_lt_of_cell? w _ hc
  have hc1 := Below.cell_of' (below_new w (.cells #[.bool nx, .slice (some ⟨b, o, none⟩) 3 cx] 24)) hc
  clear hv hx0 hl hT
  go_enter Tryd.func15, Tryd.ntmps15
  go_wp2_with fail
  go_ret2
  exact smP_no hno.out (below_new _ _)

set_option maxRecDepth 100000 in
set_option maxHeartbeats 1600000 in
theorem small_3ny (px : Option Addr) (cx : Nat) (x : Int) (w : World) (hx0 : IntAt w true px 3 cx x) (ht : iat (digs x.natAbs) 2 ≤ 9) (hrng : (-9223372036854775808 ≤ x ∧ x ≤ 9223372036854775807)) :
    Calls Tryd.prog 15 #[.agg #[.bool true, .slice px 3 cx]] w (SmP w x) := by
  have hneg : x < 0 := by have := hx0.1; simpa using this.symm
  have hl := hx0.2.1
  have hv := top_dig (k := 2) (n := x.natAbs) (by rw [← hl])
  rw [pw2] at hv
  obtain ⟨b, o, rfl, hc⟩ := Rdi_at hx0.2.2.1 2 (by omega)
  have hsz : x.natAbs < 18446744073709551616 := by omega
  have hnum : Hid (Calls Tryd.prog 39 #[.slice (some ⟨b, o, none⟩) 3 cx] (w.alloc (.cells #[.bool true, .slice (some ⟨b, o, none⟩) 3 cx] 24)) fun e w' => e = .returned (.int .u64 (x.natAbs : Int)) ∧ w.alloc (.cells #[.bool true, .slice (some ⟨b, o, none⟩) 3 cx] 24) = w') := Lib.hid (by
    have h := number_any (some ⟨b, o, none⟩) 3 cx (digs x.natAbs) (w.alloc (.cells #[.bool true, .slice (some ⟨b, o, none⟩) 3 cx] 24)) (Rdi_below (below_new _ _) hx0.2.2.1) hl (Dg_digs _) (by omega)
    rw [num_is hsz] at h
    exact h)
  obtain ⟨T, hT⟩ : ∃ T, iat (digs x.natAbs) 2 = T := ⟨_, rfl⟩
  rw [hT] at hc ht
  have hlt : b < w.heap.size := World.block_lt_of_cell? w _ hc
  have hc1 := Below.cell_of' (below_new w (.cells #[.bool true, .slice (some ⟨b, o, none⟩) 3 cx] 24)) hc
  clear hT
  obtain ⟨M, hM⟩ : ∃ M, (x.natAbs : Int) = M := ⟨_, rfl⟩
  rw [hM] at hnum
  have hMx : Hid (x = -M) := Lib.hid (by omega)
  have hM0 : 0 < M := by omega
  have hM1 : M ≤ 9223372036854775808 := by omega
  have hM2 : M < 18446744073709551616 := by omega
  have hrng' := Lib.hid hrng
  have hnb := Lib.hid (neg_back' M hM0 hM1)
  clear hx0 hl hv hsz hM hrng hneg
  go_enter Tryd.func15, Tryd.ntmps15
  go_wp2_with (go_at_call 39; refine hnum.out.mono ?_; rintro e w' ⟨rfl, rfl⟩)
  go_ret2
  exact smP_yes hrng'.out (by rw [hMx.out]; first | exact hnb.out | rfl) (below_new _ _)

set_option maxRecDepth 100000 in
set_option maxHeartbeats 1600000 in
theorem small_nny (px : Option Addr) (n cx : Nat) (x : Int) (w : World) (hx0 : IntAt w true px n cx x) (hn : n < 3) (hrng : (-9223372036854775808 ≤ x ∧ x ≤ 9223372036854775807)) :
    Calls Tryd.prog 15 #[.agg #[.bool true, .slice px n cx]] w (SmP w x) := by
  have hneg : x < 0 := by have := hx0.1; simpa using this.symm
  have hl := hx0.2.1
  have hv : (x.natAbs : Int) < pw 2 := by have h1 := lt_pw x.natAbs; have h2 := pw_mono (show (digs x.natAbs).length ≤ 2 by omega); omega
  rw [pw2] at hv
  have hsz : x.natAbs < 18446744073709551616 := by omega
  have hnum : Hid (Calls Tryd.prog 39 #[.slice px n cx] (w.alloc (.cells #[.bool true, .slice px n cx] 24)) fun e w' => e = .returned (.int .u64 (x.natAbs : Int)) ∧ w.alloc (.cells #[.bool true, .slice px n cx] 24) = w') := Lib.hid (by
    have h := number_any px n cx (digs x.natAbs) (w.alloc (.cells #[.bool true, .slice px n cx] 24)) (Rdi_below (below_new _ _) hx0.2.2.1) hl (Dg_digs _) (by omega)
    rw [num_is hsz] at h
    exact h)
  obtain ⟨M, hM⟩ : ∃ M, (x.natAbs : Int) = M := ⟨_, rfl⟩
  rw [hM] at hnum
  have hMx : Hid (x = -M) := Lib.hid (by omega)
  have hM0 : 0 < M := by omega
  have hM1 : M ≤ 9223372036854775808 := by omega
  have hM2 : M < 18446744073709551616 := by omega
  have hrng' := Lib.hid hrng
  have t1 : ¬ (3 : Int) < (n : Int) := by omega
  have t2 : ((n : Int) == 3) = false := by simp; omega
  have hnb := Lib.hid (neg_back' M hM0 hM1)
  clear hx0 hl hv hsz hM hrng hneg
  go_enter Tryd.func15, Tryd.ntmps15
  go_wp2_with (go_at_call 39; refine hnum.out.mono ?_; rintro e w' ⟨rfl, rfl⟩)
  go_ret2
  exact smP_yes hrng'.out (by rw [hMx.out]; first | exact hnb.out | rfl) (below_new _ _)

set_option maxRecDepth 100000 in
set_option maxHeartbeats 1600000 in
theorem small_3no (px : Option Addr) (cx : Nat) (x : Int) (w : World) (hx0 : IntAt w true px 3 cx x) (ht : iat (digs x.natAbs) 2 ≤ 9) (hrng : ¬ (-9223372036854775808 ≤ x ∧ x ≤ 9223372036854775807)) :
    Calls Tryd.prog 15 #[.agg #[.bool true, .slice px 3 cx]] w (SmP w x) := by
  have hneg : x < 0 := by have := hx0.1; simpa using this.symm
  have hl := hx0.2.1
  have hv := top_dig (k := 2) (n := x.natAbs) (by rw [← hl])
  rw [pw2] at hv
  obtain ⟨b, o, rfl, hc⟩ := Rdi_at hx0.2.2.1 2 (by omega)
  have hsz : x.natAbs < 18446744073709551616 := by omega
  have hnum : Hid (Calls Tryd.prog 39 #[.slice (some ⟨b, o, none⟩) 3 cx] (w.alloc (.cells #[.bool true, .slice (some ⟨b, o, none⟩) 3 cx] 24)) fun e w' => e = .returned (.int .u64 (x.natAbs : Int)) ∧ w.alloc (.cells #[.bool true, .slice (some ⟨b, o, none⟩) 3 cx] 24) = w') := Lib.hid (by
    have h := number_any (some ⟨b, o, none⟩) 3 cx (digs x.natAbs) (w.alloc (.cells #[.bool true, .slice (some ⟨b, o, none⟩) 3 cx] 24)) (Rdi_below (below_new _ _) hx0.2.2.1) hl (Dg_digs _) (by omega)
    rw [num_is hsz] at h
    exact h)
  obtain ⟨T, hT⟩ : ∃ T, iat (digs x.natAbs) 2 = T := ⟨_, rfl⟩
  rw [hT] at hc ht
  have hlt : b < w.heap.size := World.block_lt_of_cell? w _ hc
  have hc1 := Below.cell_of' (below_new w (.cells #[.bool true, .slice (some ⟨b, o, none⟩) 3 cx] 24)) hc
  clear hT
  obtain ⟨M, hM⟩ : ∃ M, (x.natAbs : Int) = M := ⟨_, rfl⟩
  rw [hM] at hnum
  have hMx : Hid (x = -M) := Lib.hid (by omega)
  have hM0 : 0 < M := by omega
  have hM1 : M > 9223372036854775808 := by omega
  have hM2 : M < 18446744073709551616 := by omega
  have hrng' := Lib.hid hrng
  clear hx0 hl hv hsz hM hrng hneg
  go_enter Tryd.func15, Tryd.ntmps15
  go_wp2_with (go_at_call 39; refine hnum.out.mono ?_; rintro e w' ⟨rfl, rfl⟩)
  go_ret2
  exact smP_no hrng'.out (below_new _ _)

set_option maxRecDepth 100000 in
set_option maxHeartbeats 1600000 in
theorem small_nno (px : Option Addr) (n cx : Nat) (x : Int) (w : World) (hx0 : IntAt w true px n cx x) (hn : n < 3) (hrng : ¬ (-9223372036854775808 ≤ x ∧ x ≤ 9223372036854775807)) :
    Calls Tryd.prog 15 #[.agg #[.bool true, .slice px n cx]] w (SmP w x) := by
  have hneg : x < 0 := by have := hx0.1; simpa using this.symm
  have hl := hx0.2.1
  have hv : (x.natAbs : Int) < pw 2 := by have h1 := lt_pw x.natAbs; have h2 := pw_mono (show (digs x.natAbs).length ≤ 2 by omega); omega
  rw [pw2] at hv
  have hsz : x.natAbs < 18446744073709551616 := by omega
  have hnum : Hid (Calls Tryd.prog 39 #[.slice px n cx] (w.alloc (.cells #[.bool true, .slice px n cx] 24)) fun e w' => e = .returned (.int .u64 (x.natAbs : Int)) ∧ w.alloc (.cells #[.bool true, .slice px n cx] 24) = w') := Lib.hid (by
    have h := number_any px n cx (digs x.natAbs) (w.alloc (.cells #[.bool true, .slice px n cx] 24)) (Rdi_below (below_new _ _) hx0.2.2.1) hl (Dg_digs _) (by omega)
    rw [num_is hsz] at h
    exact h)
  obtain ⟨M, hM⟩ : ∃ M, (x.natAbs : Int) = M := ⟨_, rfl⟩
  rw [hM] at hnum
  have hMx : Hid (x = -M) := Lib.hid (by omega)
  have hM0 : 0 < M := by omega
  have hM1 : M > 9223372036854775808 := by omega
  have hM2 : M < 18446744073709551616 := by omega
  have hrng' := Lib.hid hrng
  have t1 : ¬ (3 : Int) < (n : Int) := by omega
  have t2 : ((n : Int) == 3) = false := by simp; omega
  clear hx0 hl hv hsz hM hrng hneg
  go_enter Tryd.func15, Tryd.ntmps15
  go_wp2_with (go_at_call 39; refine hnum.out.mono ?_; rintro e w' ⟨rfl, rfl⟩)
  go_ret2
  exact smP_no hrng'.out (below_new _ _)

set_option maxRecDepth 100000 in
set_option maxHeartbeats 1600000 in
theorem small_3py (px : Option Addr) (cx : Nat) (x : Int) (w : World) (hx0 : IntAt w false px 3 cx x) (ht : iat (digs x.natAbs) 2 ≤ 9) (hrng : (-9223372036854775808 ≤ x ∧ x ≤ 9223372036854775807)) :
    Calls Tryd.prog 15 #[.agg #[.bool false, .slice px 3 cx]] w (SmP w x) := by
  have hneg : ¬ x < 0 := by have := hx0.1; simpa using this.symm
  have hl := hx0.2.1
  have hv := top_dig (k := 2) (n := x.natAbs) (by rw [← hl])
  rw [pw2] at hv
  obtain ⟨b, o, rfl, hc⟩ := Rdi_at hx0.2.2.1 2 (by omega)
  have hsz : x.natAbs < 18446744073709551616 := by omega
  have hnum : Hid (Calls Tryd.prog 39 #[.slice (some ⟨b, o, none⟩) 3 cx] (w.alloc (.cells #[.bool false, .slice (some ⟨b, o, none⟩) 3 cx] 24)) fun e w' => e = .returned (.int .u64 (x.natAbs : Int)) ∧ w.alloc (.cells #[.bool false, .slice (some ⟨b, o, none⟩) 3 cx] 24) = w') := Lib.hid (by
    have h := number_any (some ⟨b, o, none⟩) 3 cx (digs x.natAbs) (w.alloc (.cells #[.bool false, .slice (some ⟨b, o, none⟩) 3 cx] 24)) (Rdi_below (below_new _ _) hx0.2.2.1) hl (Dg_digs _) (by omega)
    rw [num_is hsz] at h
    exact h)
  obtain ⟨T, hT⟩ : ∃ T, iat (digs x.natAbs) 2 = T := ⟨_, rfl⟩
  rw [hT] at hc ht
  have hlt : b < w.heap.size := World.block_lt_of_cell? w _ hc
  have hc1 := Below.cell_of' (below_new w (.cells #[.bool false, .slice (some ⟨b, o, none⟩) 3 cx] 24)) hc
  clear hT
  obtain ⟨M, hM⟩ : ∃ M, (x.natAbs : Int) = M := ⟨_, rfl⟩
  rw [hM] at hnum
  have hMx : Hid (x = M) := Lib.hid (by omega)
  have hM0 : 0 ≤ M := by omega
  have hM1 : M ≤ 9223372036854775807 := by omega
  have hM2 : M < 18446744073709551616 := by omega
  have hrng' := Lib.hid hrng
  clear hx0 hl hv hsz hM hrng hneg
  go_enter Tryd.func15, Tryd.ntmps15
  go_wp2_with (go_at_call 39; refine hnum.out.mono ?_; rintro e w' ⟨rfl, rfl⟩)
  go_ret2
  exact smP_yes hrng'.out (by rw [hMx.out]) (below_new _ _)

set_option maxRecDepth 100000 in
set_option maxHeartbeats 1600000 in
theorem small_npy (px : Option Addr) (n cx : Nat) (x : Int) (w : World) (hx0 : IntAt w false px n cx x) (hn : n < 3) (hrng : (-9223372036854775808 ≤ x ∧ x ≤ 9223372036854775807)) :
    Calls Tryd.prog 15 #[.agg #[.bool false, .slice px n cx]] w (SmP w x) := by
  have hneg : ¬ x < 0 := by have := hx0.1; simpa using this.symm
  have hl := hx0.2.1
  have hv : (x.natAbs : Int) < pw 2 := by have h1 := lt_pw x.natAbs; have h2 := pw_mono (show (digs x.natAbs).length ≤ 2 by omega); omega
  rw [pw2] at hv
  have hsz : x.natAbs < 18446744073709551616 := by omega
  have hnum : Hid (Calls Tryd.prog 39 #[.slice px n cx] (w.alloc (.cells #[.bool false, .slice px n cx] 24)) fun e w' => e = .returned (.int .u64 (x.natAbs : Int)) ∧ w.alloc (.cells #[.bool false, .slice px n cx] 24) = w') := Lib.hid (by
    have h := number_any px n cx (digs x.natAbs) (w.alloc (.cells #[.bool false, .slice px n cx] 24)) (Rdi_below (below_new _ _) hx0.2.2.1) hl (Dg_digs _) (by omega)
    rw [num_is hsz] at h
    exact h)
  obtain ⟨M, hM⟩ : ∃ M, (x.natAbs : Int) = M := ⟨_, rfl⟩
  rw [hM] at hnum
  have hMx : Hid (x = M) := Lib.hid (by omega)
  have hM0 : 0 ≤ M := by omega
  have hM1 : M ≤ 9223372036854775807 := by omega
  have hM2 : M < 18446744073709551616 := by omega
  have hrng' := Lib.hid hrng
  have t1 : ¬ (3 : Int) < (n : Int) := by omega
  have t2 : ((n : Int) == 3) = false := by simp; omega
  clear hx0 hl hv hsz hM hrng hneg
  go_enter Tryd.func15, Tryd.ntmps15
  go_wp2_with (go_at_call 39; refine hnum.out.mono ?_; rintro e w' ⟨rfl, rfl⟩)
  go_ret2
  exact smP_yes hrng'.out (by rw [hMx.out]) (below_new _ _)

set_option maxRecDepth 100000 in
set_option maxHeartbeats 1600000 in
theorem small_3po (px : Option Addr) (cx : Nat) (x : Int) (w : World) (hx0 : IntAt w false px 3 cx x) (ht : iat (digs x.natAbs) 2 ≤ 9) (hrng : ¬ (-9223372036854775808 ≤ x ∧ x ≤ 9223372036854775807)) :
    Calls Tryd.prog 15 #[.agg #[.bool false, .slice px 3 cx]] w (SmP w x) := by
  have hneg : ¬ x < 0 := by have := hx0.1; simpa using this.symm
  have hl := hx0.2.1
  have hv := top_dig (k := 2) (n := x.natAbs) (by rw [← hl])
  rw [pw2] at hv
  obtain ⟨b, o, rfl, hc⟩ := Rdi_at hx0.2.2.1 2 (by omega)
  have hsz : x.natAbs < 18446744073709551616 := by omega
  have hnum : Hid (Calls Tryd.prog 39 #[.slice (some ⟨b, o, none⟩) 3 cx] (w.alloc (.cells #[.bool false, .slice (some ⟨b, o, none⟩) 3 cx] 24)) fun e w' => e = .returned (.int .u64 (x.natAbs : Int)) ∧ w.alloc (.cells #[.bool false, .slice (some ⟨b, o, none⟩) 3 cx] 24) = w') := Lib.hid (by
    have h := number_any (some ⟨b, o, none⟩) 3 cx (digs x.natAbs) (w.alloc (.cells #[.bool false, .slice (some ⟨b, o, none⟩) 3 cx] 24)) (Rdi_below (below_new _ _) hx0.2.2.1) hl (Dg_digs _) (by omega)
    rw [num_is hsz] at h
    exact h)
  obtain ⟨T, hT⟩ : ∃ T, iat (digs x.natAbs) 2 = T := ⟨_, rfl⟩
  rw [hT] at hc ht
  have hlt : b < w.heap.size := World.block_lt_of_cell? w _ hc
  have hc1 := Below.cell_of' (below_new w (.cells #[.bool false, .slice (some ⟨b, o, none⟩) 3 cx] 24)) hc
  clear hT
  obtain ⟨M, hM⟩ : ∃ M, (x.natAbs : Int) = M := ⟨_, rfl⟩
  rw [hM] at hnum
  have hMx : Hid (x = M) := Lib.hid (by omega)
  have hM0 : 0 ≤ M := by omega
  have hM1 : M > 9223372036854775807 := by omega
  have hM2 : M < 18446744073709551616 := by omega
  have hrng' := Lib.hid hrng
  clear hx0 hl hv hsz hM hrng hneg
  go_enter Tryd.func15, Tryd.ntmps15
  go_wp2_with (go_at_call 39; refine hnum.out.mono ?_; rintro e w' ⟨rfl, rfl⟩)
  go_ret2
  exact smP_no hrng'.out (below_new _ _)

set_option maxRecDepth 100000 in
set_option maxHeartbeats 1600000 in
theorem small_npo (px : Option Addr) (n cx : Nat) (x : Int) (w : World) (hx0 : IntAt w false px n cx x) (hn : n < 3) (hrng : ¬ (-9223372036854775808 ≤ x ∧ x ≤ 9223372036854775807)) :
    Calls Tryd.prog 15 #[.agg #[.bool false, .slice px n cx]] w (SmP w x) := by
  have hneg : ¬ x < 0 := by have := hx0.1; simpa using this.symm
  have hl := hx0.2.1
  have hv : (x.natAbs : Int) < pw 2 := by have h1 := lt_pw x.natAbs; have h2 := pw_mono (show (digs x.natAbs).length ≤ 2 by omega); omega
  rw [pw2] at hv
  have hsz : x.natAbs < 18446744073709551616 := by omega
  have hnum : Hid (Calls Tryd.prog 39 #[.slice px n cx] (w.alloc (.cells #[.bool false, .slice px n cx] 24)) fun e w' => e = .returned (.int .u64 (x.natAbs : Int)) ∧ w.alloc (.cells #[.bool false, .slice px n cx] 24) = w') := Lib.hid (by
    have h := number_any px n cx (digs x.natAbs) (w.alloc (.cells #[.bool false, .slice px n cx] 24)) (Rdi_below (below_new _ _) hx0.2.2.1) hl (Dg_digs _) (by omega)
    rw [num_is hsz] at h
    exact h)
  obtain ⟨M, hM⟩ : ∃ M, (x.natAbs : Int) = M := ⟨_, rfl⟩
  rw [hM] at hnum
  have hMx : Hid (x = M) := Lib.hid (by omega)
  have hM0 : 0 ≤ M := by omega
  have hM1 : M > 9223372036854775807 := by omega
  have hM2 : M < 18446744073709551616 := by omega
  have hrng' := Lib.hid hrng
  have t1 : ¬ (3 : Int) < (n : Int) := by omega
  have t2 : ((n : Int) == 3) = false := by simp; omega
  clear hx0 hl hv hsz hM hrng hneg
  go_enter Tryd.func15, Tryd.ntmps15
  go_wp2_with (go_at_call 39; refine hnum.out.mono ?_; rintro e w' ⟨rfl, rfl⟩)
  go_ret2
  exact smP_no hrng'.out (below_new _ _)

theorem Small_any (nx : Bool) (px : Option Addr) (n cx : Nat) (x : Int) (w : World) (hx0 : IntAt w nx px n cx x) (hlx : n ≤ 549755813887) :
    Calls Tryd.prog 15 #[.agg #[.bool nx, .slice px n cx]] w (SmP w x) := by
  rcases Nat.lt_or_ge 3 n with h | h
  · exact small_long nx px n cx x w hx0 h hlx
  · rcases Nat.lt_or_ge n 3 with h3 | h3
    · by_cases hr : -9223372036854775808 ≤ x ∧ x ≤ 9223372036854775807
      · cases nx
        · exact small_npy px n cx x w hx0 h3 hr
        · exact small_nny px n cx x w hx0 h3 hr
      · cases nx
        · exact small_npo px n cx x w hx0 h3 hr
        · exact small_nno px n cx x w hx0 h3 hr
    · obtain rfl : n = 3 := by omega
      by_cases ht : 9 < iat (digs x.natAbs) 2
      · exact small_top nx px cx x w hx0 ht
      · by_cases hr : -9223372036854775808 ≤ x ∧ x ≤ 9223372036854775807
        · cases nx
          · exact small_3py px cx x w hx0 (by omega) hr
          · exact small_3ny px cx x w hx0 (by omega) hr
        · cases nx
          · exact small_3po px cx x w hx0 (by omega) hr
          · exact small_3no px cx x w hx0 (by omega) hr
end Go.Proofs.YteaoaoknpihchaaDoor
