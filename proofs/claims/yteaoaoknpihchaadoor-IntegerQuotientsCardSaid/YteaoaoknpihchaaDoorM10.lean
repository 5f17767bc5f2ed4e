/- Contracts of the package integer and its reference: integer.Small. A region whose order is drawn, by what is known of each operation's slot: linear in its operations. -/
import Derived.Test.YteaoaoknpihchaaDoorM2
import Derived.Test.YteaoaoknpihchaaDoorM5
import Derived.Orders
set_option linter.unusedVariables false
namespace Go.Proofs.YteaoaoknpihchaaDoor
open Go.RowKit

/-- whether an integer is an int, and which -/
def smb (x : Int) : Bool := decide (-9223372036854775808 ≤ x ∧ x ≤ 9223372036854775807)
def smv (x : Int) : Int := if -9223372036854775808 ≤ x ∧ x ≤ 9223372036854775807 then x else 0
theorem sm_no {x : Int} (h : ¬ (-9223372036854775808 ≤ x ∧ x ≤ 9223372036854775807)) : smb x = false ∧ smv x = 0 := ⟨decide_eq_false h, if_neg h⟩
theorem sm_yes {x : Int} (h : -9223372036854775808 ≤ x ∧ x ≤ 9223372036854775807) : smb x = true ∧ smv x = x := ⟨decide_eq_true h, if_pos h⟩
theorem len_val {n k : Nat} (h : k < (digs n).length) : pw k ≤ (n : Int) := by
  rcases Int.lt_or_le (n : Int) (pw k) with h1 | h1
  · have := digs_len_le h1; omega
  · exact h1
theorem top_dig {n k : Nat} (h : (digs n).length = k + 1) : pw k * iat (digs n) k ≤ (n : Int) ∧ (n : Int) < pw k * (iat (digs n) k + 1) := by
  have h1 := val_take (digs n) k (by omega)
  rw [← h, List.take_length, val_digs] at h1
  have h2 := ((Dg_digs n).take k).lo
  have h3 := ((Dg_digs n).take k).hi
  rw [List.length_take, Nat.min_eq_left (by omega)] at h3
  have e : pw k * (iat (digs n) k + 1) = pw k * iat (digs n) k + pw k := by grind
  omega
theorem pw2 : pw 2 = 1000000000000000000 := by decide
theorem pw3 : pw 3 = 1000000000000000000000000000 := by decide
/-- the number of the digits -/
theorem num_is {n : Nat} (h : n < 18446744073709551616) : NumI (digs n) 0 = (n : Int) := by
  unfold NumI
  rw [List.drop_zero, val_digs]
  omega
/-- a number of 64 bits that stands for a digits' number -/
def M64 (m : Int) (n : Nat) : Prop := m = (n : Int)
/-- what Small answers -/
def SmP (w : World) (x : Int) (e : Ending) (w' : World) : Prop := e = .returned (.tuple #[.int .i64 (smv x), .bool (smb x)]) ∧ Below w.heap.size w w'
theorem smP_no {w w' : World} {x : Int} (h : ¬ (-9223372036854775808 ≤ x ∧ x ≤ 9223372036854775807)) (hb : Below w.heap.size w w') : SmP w x (.returned (.tuple #[.int .i64 0, .bool false])) w' := by
  unfold SmP
  rw [(sm_no h).1, (sm_no h).2]
  exact ⟨rfl, hb⟩
theorem smP_yes {w w' : World} {x v : Int} (h : -9223372036854775808 ≤ x ∧ x ≤ 9223372036854775807) (hv : v = x) (hb : Below w.heap.size w w') : SmP w x (.returned (.tuple #[.int .i64 v, .bool true])) w' := by
  unfold SmP
  rw [(sm_yes h).1, (sm_yes h).2, hv]
  exact ⟨rfl, hb⟩
theorem neg_back (m : Int) (h0 : 0 < m) (h1 : m ≤ 9223372036854775808) : IntKind.i64.wrap (IntKind.u64.wrap (-m)) = -m := by
  simp [IntKind.wrap, IntKind.bits, IntKind.signed]; omega
theorem neg_back' (m : Int) (h0 : 0 < m) (h1 : m ≤ 9223372036854775808) : wrap64 (IntKind.u64.wrap (-m)) = -m := by
  have h := neg_back m h0 h1
  rw [IntKind.wrap_i64] at h
  unfold wrap64
  omega

set_option maxRecDepth 100000 in
set_option maxHeartbeats 1600000 in
theorem small_long (nx : Bool) (px : Option Addr) (n cx : Nat) (x : Int) (w : World) (hx0 : IntAt w nx px n cx x) (hn : 3 < n) (hlx : n ≤ 549755813887) :
    Calls Tryd.prog 15 #[.agg #[.bool nx, .slice px n cx]] w (SmP w x) := by
  have hv := len_val (k := 3) (n := x.natAbs) (by rw [← hx0.2.1]; exact hn)
  rw [pw3] at hv
  have hno : Hid (¬ (-9223372036854775808 ≤ x ∧ x ≤ 9223372036854775807)) := Lib.hid (by omega)
  have t1 : (3 : Int) < (n : Int) := by omega
  clear hv hx0
  go_enter Tryd.func15, Tryd.ntmps15
  go_wp2_with fail
  go_ret2
  exact smP_no hno.out (below_new _ _)

set_option maxRecDepth 100000 in
set_option maxHeartbeats 1600000 in
theorem small_top (nx : Bool) (px : Option Addr) (cx : Nat) (x : Int) (w : World) (hx0 : IntAt w nx px 3 cx x) (ht : 9 < iat (digs x.natAbs) 2) :
    Calls Tryd.prog 15 #[.agg #[.bool nx, .slice px 3 cx]] w (SmP w x) := by
  have hl := hx0.2.1
  have hv := top_dig (k := 2) (n := x.natAbs) (by rw [← hl])
  rw [pw2] at hv
  obtain ⟨b, o, rfl, hc⟩ := Rdi_at hx0.2.2.1 2 (by omega)
  obtain ⟨T, hT⟩ : ∃ T, iat (digs x.natAbs) 2 = T := ⟨_, rfl⟩
  rw [hT] at hv ht hc
  have hno : Hid (¬ (-9223372036854775808 ≤ x ∧ x ≤ 9223372036854775807)) := Lib.hid (by omega)
  have hlt : b < w.heap.size := World.block_lt_of_cell? w _ hc
  have hc1 := Below.cell_of' (below_new w (.cells #[.bool nx, .slice (some ⟨b, o, none⟩) 3 cx] 24)) hc
  clear hv hx0 hl hT
  go_enter Tryd.func15, Tryd.ntmps15
  go_wp2_with fail
  go_ret2
  exact smP_no hno.out (below_new _ _)

set_option maxRecDepth 100000 in
set_option maxHeartbeats 1600000 in
theorem small_3ny (px : Option Addr) (cx : Nat) (x : Int) (w : World) (hx0 : IntAt w true px 3 cx x) (ht : iat (digs x.natAbs) 2 ≤ 9) (hrng : (-9223372036854775808 ≤ x ∧ x ≤ 9223372036854775807)) :
    Calls Tryd.prog 15 #[.agg #[.bool true, .slice px 3 cx]] w (SmP w x) := by
  have hneg : x < 0 := by have := hx0.1; simpa using this.symm
  have hl := hx0.2.1
  have hv := top_dig (k := 2) (n := x.natAbs) (by rw [← hl])
  rw [pw2] at hv
  obtain ⟨b, o, rfl, hc⟩ := Rdi_at hx0.2.2.1 2 (by omega)
  have hsz : x.natAbs < 18446744073709551616 := by omega
  have hnum : Hid (Calls Tryd.prog 39 #[.slice (some ⟨b, o, none⟩) 3 cx] (w.alloc (.cells #[.bool true, .slice (some ⟨b, o, none⟩) 3 cx] 24)) fun e w' => e = .returned (.int .u64 (x.natAbs : Int)) ∧ w.alloc (.cells #[.bool true, .slice (some ⟨b, o, none⟩) 3 cx] 24) = w') := Lib.hid (by
    have h := number_any (some ⟨b, o, none⟩) 3 cx (digs x.natAbs) (w.alloc (.cells #[.bool true, .slice (some ⟨b, o, none⟩) 3 cx] 24)) (Rdi_below (below_new _ _) hx0.2.2.1) hl (Dg_digs _) (by omega)
    rw [num_is hsz] at h
    exact h)
  obtain ⟨T, hT⟩ : ∃ T, iat (digs x.natAbs) 2 = T := ⟨_, rfl⟩
  rw [hT] at hc ht
  have hlt : b < w.heap.size := World.block_lt_of_cell? w _ hc
  have hc1 := Below.cell_of' (below_new w (.cells #[.bool true, .slice (some ⟨b, o, none⟩) 3 cx] 24)) hc
  clear hT
  obtain ⟨M, hM⟩ : ∃ M, (x.natAbs : Int) = M := ⟨_, rfl⟩
  rw [hM] at hnum
  have hMx : Hid (x = -M) := Lib.hid (by omega)
  have hM0 : 0 < M := by omega
  have hM1 : M ≤ 9223372036854775808 := by omega
  have hM2 : M < 18446744073709551616 := by omega
  have hrng' := Lib.hid hrng
  have hnb := Lib.hid (neg_back' M hM0 hM1)
  clear hx0 hl hv hsz hM hrng hneg
  go_enter Tryd.func15, Tryd.ntmps15
  go_wp2_with (go_at_call 39; refine hnum.out.mono ?_; rintro e w' ⟨rfl, rfl⟩)
  go_ret2
  exact smP_yes hrng'.out (by rw [hMx.out]; first | exact hnb.out | rfl) (below_new _ _)

set_option maxRecDepth 100000 in
set_option maxHeartbeats 1600000 in
theorem small_nny (px : Option Addr) (n cx : Nat) (x : Int) (w : World) (hx0 : IntAt w true px n cx x) (hn : n < 3) (hrng : (-9223372036854775808 ≤ x ∧ x ≤ 9223372036854775807)) :
    Calls Tryd.prog 15 #[.agg #[.bool true, .slice px n cx]] w (SmP w x) := by
  have hneg : x < 0 := by have := hx0.1; simpa using this.symm
  have hl := hx0.2.1
  have hv : (x.natAbs : Int) < pw 2 := by have h1 := lt_pw x.natAbs; have h2 := pw_mono (show (digs x.natAbs).length ≤ 2 by omega); omega
  rw [pw2] at hv
  have hsz : x.natAbs < 18446744073709551616 := by omega
  have hnum : Hid (Calls Tryd.prog 39 #[.slice px n cx] (w.alloc (.cells #[.bool true, .slice px n cx] 24)) fun e w' => e = .returned (.int .u64 (x.natAbs : Int)) ∧ w.alloc (.cells #[.bool true, .slice px n cx] 24) = w') := Lib.hid (by
    have h := number_any px n cx (digs x.natAbs) (w.alloc (.cells #[.bool true, .slice px n cx] 24)) (Rdi_below (below_new _ _) hx0.2.2.1) hl (Dg_digs _) (by omega)
    rw [num_is hsz] at h
    exact h)
  obtain ⟨M, hM⟩ : ∃ M, (x.natAbs : Int) = M := ⟨_, rfl⟩
  rw [hM] at hnum
  have hMx : Hid (x = -M) := Lib.hid (by omega)
  have hM0 : 0 < M := by omega
  have hM1 : M ≤ 9223372036854775808 := by omega
  have hM2 : M < 18446744073709551616 := by omega
  have hrng' := Lib.hid hrng
  have t1 : ¬ (3 : Int) < (n : Int) := by omega
  have t2 : ((n : Int) == 3) = false := by simp; omega
  have hnb := Lib.hid (neg_back' M hM0 hM1)
  clear hx0 hl hv hsz hM hrng hneg
  go_enter Tryd.func15, Tryd.ntmps15
  go_wp2_with (go_at_call 39; refine hnum.out.mono ?_; rintro e w' ⟨rfl, rfl⟩)
  go_ret2
  exact smP_yes hrng'.out (by rw [hMx.out]; first | exact hnb.out | rfl) (below_new _ _)

set_option maxRecDepth 100000 in
set_option maxHeartbeats 1600000 in
theorem small_3no (px : Option Addr) (cx : Nat) (x : Int) (w : World) (hx0 : IntAt w true px 3 cx x) (ht : iat (digs x.natAbs) 2 ≤ 9) (hrng : ¬ (-9223372036854775808 ≤ x ∧ x ≤ 9223372036854775807)) :
    Calls Tryd.prog 15 #[.agg #[.bool true, .slice px 3 cx]] w (SmP w x) := by
  have hneg : x < 0 := by have := hx0.1; simpa using this.symm
  have hl := hx0.2.1
  have hv := top_dig (k := 2) (n := x.natAbs) (by rw [← hl])
  rw [pw2] at hv
  obtain ⟨b, o, rfl, hc⟩ := Rdi_at hx0.2.2.1 2 (by omega)
  have hsz : x.natAbs < 18446744073709551616 := by omega
  have hnum : Hid (Calls Tryd.prog 39 #[.slice (some ⟨b, o, none⟩) 3 cx] (w.alloc (.cells #[.bool true, .slice (some ⟨b, o, none⟩) 3 cx] 24)) fun e w' => e = .returned (.int .u64 (x.natAbs : Int)) ∧ w.alloc (.cells #[.bool true, .slice (some ⟨b, o, none⟩) 3 cx] 24) = w') := Lib.hid (by
    have h := number_any (some ⟨b, o, none⟩) 3 cx (digs x.natAbs) (w.alloc (.cells #[.bool true, .slice (some ⟨b, o, none⟩) 3 cx] 24)) (Rdi_below (below_new _ _) hx0.2.2.1) hl (Dg_digs _) (by omega)
    rw [num_is hsz] at h
    exact h)
  obtain ⟨T, hT⟩ : ∃ T, iat (digs x.natAbs) 2 = T := ⟨_, rfl⟩
  rw [hT] at hc ht
  have hlt : b < w.heap.size := World.block_lt_of_cell? w _ hc
  have hc1 := Below.cell_of' (below_new w (.cells #[.bool true, .slice (some ⟨b, o, none⟩) 3 cx] 24)) hc
  clear hT
  obtain ⟨M, hM⟩ : ∃ M, (x.natAbs : Int) = M := ⟨_, rfl⟩
  rw [hM] at hnum
  have hMx : Hid (x = -M) := Lib.hid (by omega)
  have hM0 : 0 < M := by omega
  have hM1 : M > 9223372036854775808 := by omega
  have hM2 : M < 18446744073709551616 := by omega
  have hrng' := Lib.hid hrng
  clear hx0 hl hv hsz hM hrng hneg
  go_enter Tryd.func15, Tryd.ntmps15
  go_wp2_with (go_at_call 39; refine hnum.out.mono ?_; rintro e w' ⟨rfl, rfl⟩)
  go_ret2
  exact smP_no hrng'.out (below_new _ _)

set_option maxRecDepth 100000 in
set_option maxHeartbeats 1600000 in
theorem small_nno (px : Option Addr) (n cx : Nat) (x : Int) (w : World) (hx0 : IntAt w true px n cx x) (hn : n < 3) (hrng : ¬ (-9223372036854775808 ≤ x ∧ x ≤ 9223372036854775807)) :
    Calls Tryd.prog 15 #[.agg #[.bool true, .slice px n cx]] w (SmP w x) := by
  have hneg : x < 0 := by have := hx0.1; simpa using this.symm
  have hl := hx0.2.1
  have hv : (x.natAbs : Int) < pw 2 := by have h1 := lt_pw x.natAbs; have h2 := pw_mono (show (digs x.natAbs).length ≤ 2 by omega); omega
  rw [pw2] at hv
  have hsz : x.natAbs < 18446744073709551616 := by omega
  have hnum : Hid (Calls Tryd.prog 39 #[.slice px n cx] (w.alloc (.cells #[.bool true, .slice px n cx] 24)) fun e w' => e = .returned (.int .u64 (x.natAbs : Int)) ∧ w.alloc (.cells #[.bool true, .slice px n cx] 24) = w') := Lib.hid (by
    have h := number_any px n cx (digs x.natAbs) (w.alloc (.cells #[.bool true, .slice px n cx] 24)) (Rdi_below (below_new _ _) hx0.2.2.1) hl (Dg_digs _) (by omega)
    rw [num_is hsz] at h
    exact h)
  obtain ⟨M, hM⟩ : ∃ M, (x.natAbs : Int) = M := ⟨_, rfl⟩
  rw [hM] at hnum
  have hMx : Hid (x = -M) := Lib.hid (by omega)
  have hM0 : 0 < M := by omega
  have hM1 : M > 9223372036854775808 := by omega
  have hM2 : M < 18446744073709551616 := by omega
  have hrng' := Lib.hid hrng
  have t1 : ¬ (3 : Int) < (n : Int) := by omega
  have t2 : ((n : Int) == 3) = false := by simp; omega
  clear hx0 hl hv hsz hM hrng hneg
  go_enter Tryd.func15, Tryd.ntmps15
  go_wp2_with (go_at_call 39; refine hnum.out.mono ?_; rintro e w' ⟨rfl, rfl⟩)
  go_ret2
  exact smP_no hrng'.out (below_new _ _)

set_option maxRecDepth 100000 in
set_option maxHeartbeats 1600000 in
theorem small_3py (px : Option Addr) (cx : Nat) (x : Int) (w : World) (hx0 : IntAt w false px 3 cx x) (ht : iat (digs x.natAbs) 2 ≤ 9) (hrng : (-9223372036854775808 ≤ x ∧ x ≤ 9223372036854775807)) :
    Calls Tryd.prog 15 #[.agg #[.bool false, .slice px 3 cx]] w (SmP w x) := by
  have hneg : ¬ x < 0 := by have := hx0.1; simpa using this.symm
  have hl := hx0.2.1
  have hv := top_dig (k := 2) (n := x.natAbs) (by rw [← hl])
  rw [pw2] at hv
  obtain ⟨b, o, rfl, hc⟩ := Rdi_at hx0.2.2.1 2 (by omega)
  have hsz : x.natAbs < 18446744073709551616 := by omega
  have hnum : Hid (Calls Tryd.prog 39 #[.slice (some ⟨b, o, none⟩) 3 cx] (w.alloc (.cells #[.bool false, .slice (some ⟨b, o, none⟩) 3 cx] 24)) fun e w' => e = .returned (.int .u64 (x.natAbs : Int)) ∧ w.alloc (.cells #[.bool false, .slice (some ⟨b, o, none⟩) 3 cx] 24) = w') := Lib.hid (by
    have h := number_any (some ⟨b, o, none⟩) 3 cx (digs x.natAbs) (w.alloc (.cells #[.bool false, .slice (some ⟨b, o, none⟩) 3 cx] 24)) (Rdi_below (below_new _ _) hx0.2.2.1) hl (Dg_digs _) (by omega)
    rw [num_is hsz] at h
    exact h)
  obtain ⟨T, hT⟩ : ∃ T, iat (digs x.natAbs) 2 = T := ⟨_, rfl⟩
  rw [hT] at hc ht
  have hlt : b < w.heap.size := World.block_lt_of_cell? w _ hc
  have hc1 := Below.cell_of' (below_new w (.cells #[.bool false, .slice (some ⟨b, o, none⟩) 3 cx] 24)) hc
  clear hT
  obtain ⟨M, hM⟩ : ∃ M, (x.natAbs : Int) = M := ⟨_, rfl⟩
  rw [hM] at hnum
  have hMx : Hid (x = M) := Lib.hid (by omega)
  have hM0 : 0 ≤ M := by omega
  have hM1 : M ≤ 9223372036854775807 := by omega
  have hM2 : M < 18446744073709551616 := by omega
  have hrng' := Lib.hid hrng
  clear hx0 hl hv hsz hM hrng hneg
  go_enter Tryd.func15, Tryd.ntmps15
  go_wp2_with (go_at_call 39; refine hnum.out.mono ?_; rintro e w' ⟨rfl, rfl⟩)
  go_ret2
  exact smP_yes hrng'.out (by rw [hMx.out]) (below_new _ _)

set_option maxRecDepth 100000 in
set_option maxHeartbeats 1600000 in
theorem small_npy (px : Option Addr) (n cx : Nat) (x : Int) (w : World) (hx0 : IntAt w false px n cx x) (hn : n < 3) (hrng : (-9223372036854775808 ≤ x ∧ x ≤ 9223372036854775807)) :
    Calls Tryd.prog 15 #[.agg #[.bool false, .slice px n cx]] w (SmP w x) := by
  have hneg : ¬ x < 0 := by have := hx0.1; simpa using this.symm
  have hl := hx0.2.1
  have hv : (x.natAbs : Int) < pw 2 := by have h1 := lt_pw x.natAbs; have h2 := pw_mono (show (digs x.natAbs).length ≤ 2 by omega); omega
  rw [pw2] at hv
  have hsz : x.natAbs < 18446744073709551616 := by omega
  have hnum : Hid (Calls Tryd.prog 39 #[.slice px n cx] (w.alloc (.cells #[.bool false, .slice px n cx] 24)) fun e w' => e = .returned (.int .u64 (x.natAbs : Int)) ∧ w.alloc (.cells #[.bool false, .slice px n cx] 24) = w') := Lib.hid (by
    have h := number_any px n cx (digs x.natAbs) (w.alloc (.cells #[.bool false, .slice px n cx] 24)) (Rdi_below (below_new _ _) hx0.2.2.1) hl (Dg_digs _) (by omega)
    rw [num_is hsz] at h
    exact h)
  obtain ⟨M, hM⟩ : ∃ M, (x.natAbs : Int) = M := ⟨_, rfl⟩
  rw [hM] at hnum
  have hMx : Hid (x = M) := Lib.hid (by omega)
  have hM0 : 0 ≤ M := by omega
  have hM1 : M ≤ 9223372036854775807 := by omega
  have hM2 : M < 18446744073709551616 := by omega
  have hrng' := Lib.hid hrng
  have t1 : ¬ (3 : Int) < (n : Int) := by omega
  have t2 : ((n : Int) == 3) = false := by simp; omega
  clear hx0 hl hv hsz hM hrng hneg
  go_enter Tryd.func15, Tryd.ntmps15
  go_wp2_with (go_at_call 39; refine hnum.out.mono ?_; rintro e w' ⟨rfl, rfl⟩)
  go_ret2
  exact smP_yes hrng'.out (by rw [hMx.out]) (below_new _ _)

set_option maxRecDepth 100000 in
set_option maxHeartbeats 1600000 in
theorem small_3po (px : Option Addr) (cx : Nat) (x : Int) (w : World) (hx0 : IntAt w false px 3 cx x) (ht : iat (digs x.natAbs) 2 ≤ 9) (hrng : ¬ (-9223372036854775808 ≤ x ∧ x ≤ 9223372036854775807)) :
    Calls Tryd.prog 15 #[.agg #[.bool false, .slice px 3 cx]] w (SmP w x) := by
  have hneg : ¬ x < 0 := by have := hx0.1; simpa using this.symm
  have hl := hx0.2.1
  have hv := top_dig (k := 2) (n := x.natAbs) (by rw [← hl])
  rw [pw2] at hv
  obtain ⟨b, o, rfl, hc⟩ := Rdi_at hx0.2.2.1 2 (by omega)
  have hsz : x.natAbs < 18446744073709551616 := by omega
  have hnum : Hid (Calls Tryd.prog 39 #[.slice (some ⟨b, o, none⟩) 3 cx] (w.alloc (.cells #[.bool false, .slice (some ⟨b, o, none⟩) 3 cx] 24)) fun e w' => e = .returned (.int .u64 (x.natAbs : Int)) ∧ w.alloc (.cells #[.bool false, .slice (some ⟨b, o, none⟩) 3 cx] 24) = w') := Lib.hid (by
    have h := number_any (some ⟨b, o, none⟩) 3 cx (digs x.natAbs) (w.alloc (.cells #[.bool false, .slice (some ⟨b, o, none⟩) 3 cx] 24)) (Rdi_below (below_new _ _) hx0.2.2.1) hl (Dg_digs _) (by omega)
    rw [num_is hsz] at h
    exact h)
  obtain ⟨T, hT⟩ : ∃ T, iat (digs x.natAbs) 2 = T := ⟨_, rfl⟩
  rw [hT] at hc ht
  have hlt : b < w.heap.size := World.block_lt_of_cell? w _ hc
  have hc1 := Below.cell_of' (below_new w (.cells #[.bool false, .slice (some ⟨b, o, none⟩) 3 cx] 24)) hc
  clear hT
  obtain ⟨M, hM⟩ : ∃ M, (x.natAbs : Int) = M := ⟨_, rfl⟩
  rw [hM] at hnum
  have hMx : Hid (x = M) := Lib.hid (by omega)
  have hM0 : 0 ≤ M := by omega
  have hM1 : M > 9223372036854775807 := by omega
  have hM2 : M < 18446744073709551616 := by omega
  have hrng' := Lib.hid hrng
  clear hx0 hl hv hsz hM hrng hneg
  go_enter Tryd.func15, Tryd.ntmps15
  go_wp2_with (go_at_call 39; refine hnum.out.mono ?_; rintro e w' ⟨rfl, rfl⟩)
  go_ret2
  exact smP_no hrng'.out (below_new _ _)

set_option maxRecDepth 100000 in
set_option maxHeartbeats 1600000 in
theorem small_npo (px : Option Addr) (n cx : Nat) (x : Int) (w : World) (hx0 : IntAt w false px n cx x) (hn : n < 3) (hrng : ¬ (-9223372036854775808 ≤ x ∧ x ≤ 9223372036854775807)) :
    Calls Tryd.prog 15 #[.agg #[.bool false, .slice px n cx]] w (SmP w x) := by
  have hneg : ¬ x < 0 := by have := hx0.1; simpa using this.symm
  have hl := hx0.2.1
  have hv : (x.natAbs : Int) < pw 2 := by have h1 := lt_pw x.natAbs; have h2 := pw_mono (show (digs x.natAbs).length ≤ 2 by omega); omega
  rw [pw2] at hv
  have hsz : x.natAbs < 18446744073709551616 := by omega
  have hnum : Hid (Calls Tryd.prog 39 #[.slice px n cx] (w.alloc (.cells #[.bool false, .slice px n cx] 24)) fun e w' => e = .returned (.int .u64 (x.natAbs : Int)) ∧ w.alloc (.cells #[.bool false, .slice px n cx] 24) = w') := Lib.hid (by
    have h := number_any px n cx (digs x.natAbs) (w.alloc (.cells #[.bool false, .slice px n cx] 24)) (Rdi_below (below_new _ _) hx0.2.2.1) hl (Dg_digs _) (by omega)
    rw [num_is hsz] at h
    exact h)
  obtain ⟨M, hM⟩ : ∃ M, (x.natAbs : Int) = M := ⟨_, rfl⟩
  rw [hM] at hnum
  have hMx : Hid (x = M) := Lib.hid (by omega)
  have hM0 : 0 ≤ M := by omega
  have hM1 : M > 9223372036854775807 := by omega
  have hM2 : M < 18446744073709551616 := by omega
  have hrng' := Lib.hid hrng
  have t1 : ¬ (3 : Int) < (n : Int) := by omega
  have t2 : ((n : Int) == 3) = false := by simp; omega
  clear hx0 hl hv hsz hM hrng hneg
  go_enter Tryd.func15, Tryd.ntmps15
  go_wp2_with (go_at_call 39; refine hnum.out.mono ?_; rintro e w' ⟨rfl, rfl⟩)
  go_ret2
  exact smP_no hrng'.out (below_new _ _)

theorem Small_any (nx : Bool) (px : Option Addr) (n cx : Nat) (x : Int) (w : World) (hx0 : IntAt w nx px n cx x) (hlx : n ≤ 549755813887) :
    Calls Tryd.prog 15 #[.agg #[.bool nx, .slice px n cx]] w (SmP w x) := by
  rcases Nat.lt_or_ge 3 n with h | h
  · exact small_long nx px n cx x w hx0 h hlx
  · rcases Nat.lt_or_ge n 3 with h3 | h3
    · by_cases hr : -9223372036854775808 ≤ x ∧ x ≤ 9223372036854775807
      · cases nx
        · exact small_npy px n cx x w hx0 h3 hr
        · exact small_nny px n cx x w hx0 h3 hr
      · cases nx
        · exact small_npo px n cx x w hx0 h3 hr
        · exact small_nno px n cx x w hx0 h3 hr
    · obtain rfl : n = 3 := by omega
      by_cases ht : 9 < iat (digs x.natAbs) 2
      · exact small_top nx px cx x w hx0 ht
      · by_cases hr : -9223372036854775808 ≤ x ∧ x ≤ 9223372036854775807
        · cases nx
          · exact small_3py px cx x w hx0 (by omega) hr
          · exact small_3ny px cx x w hx0 (by omega) hr
        · cases nx
          · exact small_3po px cx x w hx0 (by omega) hr
          · exact small_3no px cx x w hx0 (by omega) hr
end Go.Proofs.YteaoaoknpihchaaDoor

namespace Go.Proofs.YteaoaoknpihchaaDoor
open Go
section
variable {P : Program} {md : Region.Mode} {ops : Array Oper} {Q : Exit → Act → World → Prop} {a0 : Act} {V : Nat → Value → World → Prop} {S : World → Prop} {R : World → World → Prop}

/-- what is known while a region runs -/
structure FlowI (ops : Array Oper) (a0 : Act) (V : Nat → Value → World → Prop) (S : World → Prop) (listed : Array Bool) (a : Act) (w : World) : Prop where
  s : S w
  len : listed.size = ops.size
  defers : a.defers = a0.defers
  size : a.tmps.size = a0.tmps.size
  other : ∀ t, (∀ (i : Nat) (o : Oper), ops[i]? = some o → o.dst ≠ some t) → a.tmps[t]? = a0.tmps[t]?
  own : ∀ (i : Nat) (o : Oper) (d : Tmp), ops[i]? = some o → listed.getD i false = true → o.dst = some d → ∃ v, a.tmps[d]? = some v ∧ V i v w

/-- one operation -/
def FlowStep (P : Program) (md : Region.Mode) (ops : Array Oper) (Q : Exit → Act → World → Prop) (a0 : Act) (V : Nat → Value → World → Prop) (S : World → Prop) (R : World → World → Prop) (i : Nat) (o : Oper) : Prop :=
  ∀ listed a w, FlowI ops a0 V S listed a w → (∀ e ∈ o.after, Region.binds md e = true → listed.getD e.on false = true) →
    ∀ K : Act → World → Prop, (∀ v w', S w' → R w w' → V i v w' → K (a.put o.dst v) w') → (if Region.wanted o (yielded ops a.tmps) then o.wp P a w K Q else K (a.put o.dst undef) w)

/-- operations wait for earlier ones alone -/
def flowFore (ops : Array Oper) : Bool := (List.range ops.size).all fun i => ((ops[i]?).map fun o => o.after.all fun e => decide (e.on < i)).getD true
theorem flowFore_spec (h : flowFore ops = true) {i : Nat} {o : Oper} (ho : ops[i]? = some o) : ∀ e ∈ o.after, e.on < i := by
  intro e he
  have hi : i < ops.size := by
    rcases Nat.lt_or_ge i ops.size with h' | h'
    · exact h'
    · rw [Array.getElem?_eq_none h'] at ho; cases ho
  unfold flowFore at h
  rw [List.all_eq_true] at h
  have h1 := h i (by simpa using hi)
  rw [ho] at h1
  simp only [Option.map_some, Option.getD_some, Array.all_eq_true'] at h1
  exact of_decide_eq_true (h1 e he)

/-- no two operations have one slot -/
def flowOwn (ops : Array Oper) : Bool := (List.range ops.size).all fun i => (List.range i).all fun j => match (ops[i]?).bind (·.dst), (ops[j]?).bind (·.dst) with
  | some x, some y => x != y
  | _, _ => true
theorem flowOwn_lt (h : flowOwn ops = true) {i j : Nat} {o u : Oper} {d : Nat} (ho : ops[i]? = some o) (hu : ops[j]? = some u) (hd : o.dst = some d) (hij : j < i) : u.dst ≠ some d := by
  intro hd'
  have hi : i < ops.size := by
    rcases Nat.lt_or_ge i ops.size with h' | h'
    · exact h'
    · rw [Array.getElem?_eq_none h'] at ho; cases ho
  unfold flowOwn at h
  rw [List.all_eq_true] at h
  have h1 := h i (by simpa using hi)
  rw [List.all_eq_true] at h1
  have h2 := h1 j (by simpa using hij)
  rw [ho, hu] at h2
  simp [hd, hd'] at h2
theorem flowOwn_ne (h : flowOwn ops = true) {i j : Nat} {o u : Oper} {d : Nat} (ho : ops[i]? = some o) (hu : ops[j]? = some u) (hd : o.dst = some d) (hij : j ≠ i) : u.dst ≠ some d := by
  rcases Nat.lt_or_gt_of_ne hij with h1 | h1
  · exact flowOwn_lt h ho hu hd h1
  · intro h2; exact flowOwn_lt h hu ho h2 h1 hd

theorem put_get_self {a : Act} {d : Nat} {v : Value} (h : d < a.tmps.size) : (a.put (some d) v).tmps[d]? = some v := by simp [Act.put, h]
theorem put_get_ne {a : Act} {x : Option Nat} {t : Nat} {v : Value} (h : x ≠ some t) : (a.put x v).tmps[t]? = a.tmps[t]? := by
  cases x with
  | none => rfl
  | some d => simp only [Act.put]; rw [Array.getElem?_setIfInBounds_ne (fun e => h (by rw [e]))]
theorem put_size {a : Act} {x : Option Nat} {v : Value} : (a.put x v).tmps.size = a.tmps.size := by cases x <;> simp [Act.put]
theorem put_defers' {a : Act} {x : Option Nat} {v : Value} : (a.put x v).defers = a.defers := by cases x <;> rfl
theorem getD_set (l : Array Bool) (i j : Nat) (hi : i < l.size) : (l.setIfInBounds i true).getD j false = if i = j then true else l.getD j false := by
  simp only [Array.getD_eq_getD_getElem?, Array.getElem?_setIfInBounds]
  by_cases h : i = j
  · subst h; simp [hi]
  · simp [h]

theorem FlowI.step {listed : Array Bool} {a : Act} {w w' : World} {i : Nat} {o : Oper} {v : Value} (hown : flowOwn ops = true) (hin : ∀ (i : Nat) (o : Oper) (d : Tmp), ops[i]? = some o → o.dst = some d → d < a0.tmps.size)
    (hmono : ∀ j u w w', V j u w → R w w' → V j u w') (h : FlowI ops a0 V S listed a w) (ho : ops[i]? = some o) (hS : S w') (hR : R w w') (hv : V i v w') : FlowI ops a0 V S (listed.setIfInBounds i true) (a.put o.dst v) w' := by
  have hi : i < listed.size := by
    rw [h.len]
    rcases Nat.lt_or_ge i ops.size with h' | h'
    · exact h'
    · rw [Array.getElem?_eq_none h'] at ho; cases ho
  refine ⟨hS, by simpa using h.len, by rw [put_defers', h.defers], by rw [put_size, h.size], fun t ht => by rw [put_get_ne (ht i o ho), h.other t ht], fun j u d hu hl hd => ?_⟩
  by_cases hij : j = i
  · subst hij
    rw [ho] at hu
    cases hu
    rw [hd]
    exact ⟨v, put_get_self (by rw [h.size]; exact hin _ _ _ ho hd), hv⟩
  · rw [getD_set _ _ _ hi, if_neg (fun e => hij e.symm)] at hl
    obtain ⟨x, hx, hV⟩ := h.own j u d hu hl hd
    exact ⟨x, by rw [put_get_ne (flowOwn_ne hown hu ho hd (fun e => hij e.symm))]; exact hx, hmono _ _ _ _ hV hR⟩

theorem count_set (l : Array Bool) (i : Nat) (hi : i < l.size) (h : l.getD i true = false) : (l.setIfInBounds i true).toList.count false + 1 = l.toList.count false := by
  have hi' : i < l.toList.length := by simpa using hi
  have h1 : l.toList[i] = false := by simpa [Array.getD, hi] using h
  have h2 : 0 < l.toList.count false := List.count_pos_iff.2 (by rw [← h1]; exact List.getElem_mem hi')
  rw [Array.toList_setIfInBounds, List.count_set hi', h1]
  show (l.toList.count false - 1) + 0 + 1 = _
  omega
theorem count_zero (l : Array Bool) (h : l.toList.count false = 0) (i : Nat) (hi : i < l.size) : l.getD i false = true := by
  have hi' : i < l.toList.length := by simpa using hi
  have h1 := List.count_eq_zero.1 h
  have h2 : l.toList[i] ∈ l.toList := List.getElem_mem hi'
  have h3 : l[i] = true := by
    cases h4 : l[i] with
    | true => rfl
    | false => exact absurd (by simpa [h4] using h2) h1
  simp [Array.getD, hi, h3]
theorem ready_none (hfore : flowFore ops = true) {listed : Array Bool} (hl : listed.size = ops.size) (h : Region.ready md ops listed = []) : ∀ i, i < ops.size → listed.getD i false = true := by
  intro i
  induction i using Nat.strongRecOn with
  | _ i ih =>
    intro hi
    cases hlt : listed.getD i false with
    | true => rfl
    | false =>
      exfalso
      obtain ⟨o, ho⟩ : ∃ o, ops[i]? = some o := ⟨ops[i], by simp [hi]⟩
      have hm : i ∈ Region.ready md ops listed := mem_ready.2 ⟨by
        have h' : i < listed.size := by omega
        simpa [Array.getD, h'] using hlt, o, ho, fun e he _ => ih e.on (flowFore_spec hfore ho e he) (by have := flowFore_spec hfore ho e he; omega)⟩
      rw [h] at hm
      cases hm

theorem wpAny_flow (hfore : flowFore ops = true) (hown : flowOwn ops = true) (hin : ∀ (i : Nat) (o : Oper) (d : Tmp), ops[i]? = some o → o.dst = some d → d < a0.tmps.size) (hmono : ∀ j u w w', V j u w → R w w' → V j u w')
    (hstep : ∀ (i : Nat) (o : Oper), ops[i]? = some o → FlowStep P md ops Q a0 V S R i o)
    (hdone : ∀ (listed : Array Bool) (a : Act) (w : World), (∀ i, i < ops.size → listed.getD i false = true) → FlowI ops a0 V S listed a w → Q .normal a w) :
    ∀ (fuel : Nat) (listed : Array Bool) (a : Act) (w : World), FlowI ops a0 V S listed a w → listed.toList.count false ≤ fuel → wpAny P md ops Q fuel listed a w := by
  intro fuel
  induction fuel with
  | zero =>
    intro listed a w h hc
    have hall : ∀ i, i < ops.size → listed.getD i false = true := fun i hi => count_zero listed (by omega) i (by rw [h.len]; exact hi)
    refine ⟨?_, hdone _ _ _ hall h⟩
    cases hr : Region.ready md ops listed with
    | nil => rfl
    | cons i l =>
      have hi : i ∈ Region.ready md ops listed := by rw [hr]; exact List.mem_cons_self
      obtain ⟨h1, o, ho, _⟩ := mem_ready.1 hi
      have hlt : i < ops.size := by
        rcases Nat.lt_or_ge i ops.size with h' | h'
        · exact h'
        · rw [Array.getElem?_eq_none h'] at ho; cases ho
      have h2 := hall i hlt
      have h3 : i < listed.size := by rw [h.len]; exact hlt
      simp [Array.getD, h3] at h1 h2
      rw [h2] at h1
      cases h1
  | succ fuel ih =>
    intro listed a w h hc
    refine ⟨fun hr => hdone _ _ _ (ready_none hfore h.len hr) h, fun i hi => ?_⟩
    obtain ⟨h1, o, ho, hdep⟩ := mem_ready.1 hi
    have hlt : i < listed.size := by
      rw [h.len]
      rcases Nat.lt_or_ge i ops.size with h' | h'
      · exact h'
      · rw [Array.getElem?_eq_none h'] at ho; cases ho
    have hcnt := count_set listed i hlt h1
    have := hstep i o ho listed a w h hdep (wpAny P md ops Q fuel (listed.setIfInBounds i true)) fun v w' hS hR hV => ih _ _ _ (h.step hown hin hmono ho hS hR hV) (by omega)
    unfold wpOp
    rw [ho]
    by_cases hw : Region.wanted o (yielded ops a.tmps) = true
    · simp only [hw, if_true] at this ⊢; exact .inl this
    · simp only [hw] at this ⊢; exact this

theorem region_flow {id : Nat} {w : World} (hm : P.follows .mixedOrders = true) (hfore : flowFore ops = true) (hown : flowOwn ops = true) (hin : ∀ (i : Nat) (o : Oper) (d : Tmp), ops[i]? = some o → o.dst = some d → d < a0.tmps.size)
    (hmono : ∀ j u w w', V j u w → R w w' → V j u w') (hS : S { w with drawn := w.drawn + 1 })
    (hstep : ∀ (i : Nat) (o : Oper), ops[i]? = some o → FlowStep P .any ops Q a0 V S R i o)
    (hdone : ∀ a w, FlowI ops a0 V S (Array.replicate ops.size true) a w → Q .normal a w) : (Code.region id ops true).wp P Q a0 w := by
  refine wp_region_any hm (wpAny_flow hfore hown hin hmono hstep (fun listed a w' hall h => hdone a w' ⟨h.s, by simp, h.defers, h.size, h.other, fun i o d ho _ hd => ?_⟩) _ _ _ _ ⟨hS, by simp, rfl, rfl, fun _ _ => rfl, fun i o d ho hl _ => ?_⟩ ?_)
  · refine h.own i o d ho (hall i ?_) hd
    rcases Nat.lt_or_ge i ops.size with h' | h'
    · exact h'
    · rw [Array.getElem?_eq_none h'] at ho; cases ho
  · exfalso
    simp only [Array.getD_eq_getD_getElem?, Array.getElem?_replicate] at hl
    split at hl <;> simp at hl
  · simp

theorem FlowI.dep {listed : Array Bool} {a : Act} {w : World} {after : Array Edge} (h : FlowI ops a0 V S listed a w) (hd : ∀ e ∈ after, Region.binds md e = true → listed.getD e.on false = true) (j d : Nat)
    (hj : after.any (fun e => e.on == j && Region.binds md e) = true) (hdst : (ops[j]?).bind (·.dst) = some d) : ∃ v, a.eval (.tmp d) = v ∧ yielded ops a.tmps j = (match v with | .bool b => some b | _ => none) ∧ V j v w := by
  obtain ⟨e, he, hb⟩ : ∃ e, e ∈ after ∧ (e.on == j && Region.binds md e) = true := by
    rw [Array.any_eq_true] at hj
    obtain ⟨i, hi, h1⟩ := hj
    exact ⟨after[i], Array.getElem_mem hi, h1⟩
  simp only [Bool.and_eq_true, beq_iff_eq] at hb
  obtain ⟨rfl, hb⟩ := hb
  have hl := hd e he hb
  cases ho : ops[e.on]? with
  | none => rw [ho] at hdst; cases hdst
  | some o =>
    rw [ho] at hdst
    have hdst' : o.dst = some d := hdst
    obtain ⟨v, hv, hV⟩ := h.own _ o d ho hl hdst'
    refine ⟨v, by simp [Act.eval, hv, Array.getD_eq_getD_getElem?], ?_, hV⟩
    unfold yielded
    rw [ho]
    simp only [Option.bind_some, hdst', hv]
    cases v <;> rfl
theorem FlowI.out {listed : Array Bool} {a : Act} {w : World} (h : FlowI ops a0 V S listed a w) (t : Nat) (ht : ops.all (fun o => o.dst != some t) = true) : a.eval (.tmp t) = a0.eval (.tmp t) := by
  have := h.other t fun i o ho => by
    rw [Array.all_eq_true'] at ht
    have := ht o (Array.mem_of_getElem? ho)
    simpa using this
  simp [Act.eval, Array.getD_eq_getD_getElem?, this]

/-- a call -/
theorem flow_call {i : Nat} {dst : Option Tmp} {f : FuncId} {xs : Array Operand} {ats : Array TypeId} {ty : TypeId} {pos : String} {after : Array Edge} {guard : Option (Nat × Bool)} (hcall : ∀ args w, (callFunc f args).run P w = .ok (.enter f args) w)
    (H : ∀ listed a w, FlowI ops a0 V S listed a w → (∀ e ∈ after, Region.binds md e = true → listed.getD e.on false = true) →
      (match guard with | none => True | some (j, b) => yielded ops a.tmps j = some b) ∧ ∃ args, #[] ++ xs.map a.eval ++ #[] = args ∧ Calls P f args w fun e w' => ∃ v, e = .returned v ∧ S w' ∧ R w w' ∧ V i v w') :
    FlowStep P md ops Q a0 V S R i { dst, op := .call { callee := .value (.func f), args := xs, argTypes := ats }, type := ty, pos, after, guard } := by
  intro listed a w h hd K hK
  obtain ⟨hg, args, hargs, hc⟩ := H listed a w h hd
  have hw : Region.wanted { dst, op := .call { callee := .value (.func f), args := xs, argTypes := ats }, type := ty, pos, after, guard } (yielded ops a.tmps) = true := by
    unfold Region.wanted
    cases guard with
    | none => rfl
    | some g => obtain ⟨j, b⟩ := g; simp only [] at hg ⊢; rw [hg]; simp
  rw [if_pos hw]
  unfold Oper.wp
  have he : execOp a.eval { dst, op := .call { callee := .value (.func f), args := xs, argTypes := ats }, type := ty, pos, after, guard } = callFunc f (#[] ++ xs.map a.eval ++ #[]) := rfl
  rw [he, hargs, hcall]
  refine Calls.mono hc fun e w' hp => ?_
  obtain ⟨v, rfl, h1, h2, h3⟩ := hp
  exact hK v w' h1 h2 h3
/-- an operation of the model's own -/
theorem flow_run {i : Nat} {o : Oper}
    (H : ∀ listed a w, FlowI ops a0 V S listed a w → (∀ e ∈ o.after, Region.binds md e = true → listed.getD e.on false = true) →
      (match o.guard with | none => True | some (j, b) => yielded ops a.tmps j = some b) ∧ ∃ v w', (execOp a.eval o).run P w = .ok (.value v) w' ∧ S w' ∧ R w w' ∧ V i v w') :
    FlowStep P md ops Q a0 V S R i o := by
  intro listed a w h hd K hK
  obtain ⟨hg, v, w', hr, h1, h2, h3⟩ := H listed a w h hd
  have hw : Region.wanted o (yielded ops a.tmps) = true := by
    unfold Region.wanted
    cases hgu : o.guard with
    | none => rfl
    | some g => obtain ⟨j, b⟩ := g; rw [hgu] at hg; simp only [] at hg ⊢; rw [hg]; simp
  rw [if_pos hw]
  unfold Oper.wp
  rw [hr]
  exact hK v w' h1 h2 h3
/-- an operation by any law of its own -/
theorem flow_wp {i : Nat} {o : Oper}
    (H : ∀ listed a w, FlowI ops a0 V S listed a w → (∀ e ∈ o.after, Region.binds md e = true → listed.getD e.on false = true) →
      (match o.guard with | none => True | some (j, b) => yielded ops a.tmps j = some b) ∧ ∀ K : Act → World → Prop, (∀ v w', S w' → R w w' → V i v w' → K (a.put o.dst v) w') → o.wp P a w K Q) :
    FlowStep P md ops Q a0 V S R i o := by
  intro listed a w h hd K hK
  obtain ⟨hg, hc⟩ := H listed a w h hd
  have hw : Region.wanted o (yielded ops a.tmps) = true := by
    unfold Region.wanted
    cases hgu : o.guard with
    | none => rfl
    | some g => obtain ⟨j, b⟩ := g; rw [hgu] at hg; simp only [] at hg ⊢; rw [hg]; simp
  rw [if_pos hw]
  exact hc K hK
/-- an operation that is not wanted -/
theorem flow_skip {i : Nat} {o : Oper}
    (H : ∀ listed a w, FlowI ops a0 V S listed a w → (∀ e ∈ o.after, Region.binds md e = true → listed.getD e.on false = true) →
      (∃ j b c, o.guard = some (j, b) ∧ yielded ops a.tmps j = some c ∧ c ≠ b) ∧ R w w ∧ V i undef w) :
    FlowStep P md ops Q a0 V S R i o := by
  intro listed a w h hd K hK
  obtain ⟨⟨j, b, c, hg, hy, hne⟩, h2, h3⟩ := H listed a w h hd
  have hw : Region.wanted o (yielded ops a.tmps) = false := by
    unfold Region.wanted
    rw [hg]; simp only []
    rw [hy]; simpa using hne
  rw [hw]
  exact hK undef w h.s h2 h3

/-- operation by operation -/
def AllFlow (P : Program) (md : Region.Mode) (ops : Array Oper) (Q : Exit → Act → World → Prop) (a0 : Act) (V : Nat → Value → World → Prop) (S : World → Prop) (R : World → World → Prop) : Nat → List Oper → Prop
  | _, [] => True
  | i, o :: l => FlowStep P md ops Q a0 V S R i o ∧ AllFlow P md ops Q a0 V S R (i + 1) l
theorem AllFlow.get : ∀ (l : List Oper) (i : Nat), AllFlow P md ops Q a0 V S R i l → ∀ (j : Nat) (o : Oper), l[j]? = some o → FlowStep P md ops Q a0 V S R (i + j) o
  | [], _, _, j, o, ho => by simp at ho
  | x :: l, i, h, 0, o, ho => by
    have : x = o := by simpa using ho
    subst this; exact h.1
  | x :: l, i, h, j + 1, o, ho => by
    have := AllFlow.get l (i + 1) h.2 j o (by simpa using ho)
    rw [show i + (j + 1) = i + 1 + j by omega]; exact this

/-- the slots behind it -/
def slots (f : Nat → Value) : List Nat → Act → Act
  | [], a => a
  | d :: l, a => slots f l (a.put (some d) (f d))
theorem slots_all (a : Act) : ∀ (l : List Nat) (b : Act), b.tmps.size = a.tmps.size → b.defers = a.defers → (∀ t, t ∉ l → b.tmps[t]? = a.tmps[t]?) → slots (fun d => a.tmps.getD d undef) l b = a
  | [], b, _, hd, h => by
    cases a; cases b
    simp only [slots, Act.mk.injEq]
    exact ⟨Array.ext_getElem? fun t => h t (by simp), hd⟩
  | d :: l, b, hs, hd, h => by
    refine slots_all a l _ (by rw [put_size, hs]) (by rw [put_defers', hd]) fun t ht => ?_
    by_cases e : d = t
    · subst e
      rcases Nat.lt_or_ge d b.tmps.size with hlt | hge
      · rw [put_get_self hlt]
        have hlt' : d < a.tmps.size := by omega
        simp [Array.getD, hlt']
      · rw [Array.getElem?_eq_none (by rw [put_size]; exact hge), Array.getElem?_eq_none (by omega)]
    · rw [put_get_ne (fun h' => e (by cases h'; rfl))]
      exact h t (by simp only [List.mem_cons, not_or]; exact ⟨fun h' => e h'.symm, ht⟩)
theorem FlowI.whole {a : Act} {w : World} (h : FlowI ops a0 V S (Array.replicate ops.size true) a w) (ds : List Nat) (hds : ops.toList.filterMap (·.dst) = ds) :
    ∃ f : Nat → Value, a = slots f ds a0 ∧ ∀ (i d : Nat), (ops[i]?).bind (·.dst) = some d → V i (f d) w := by
  refine ⟨fun d => a.tmps.getD d undef, (slots_all a ds a0 h.size.symm h.defers.symm fun t ht => (h.other t fun i o ho hd => ht ?_).symm).symm, fun i d hd => ?_⟩
  · rw [← hds, List.mem_filterMap]
    exact ⟨o, Array.mem_def.1 (Array.mem_of_getElem? ho), hd⟩
  · cases ho : ops[i]? with
    | none => rw [ho] at hd; cases hd
    | some o =>
      rw [ho] at hd
      have hi : i < ops.size := by
        rcases Nat.lt_or_ge i ops.size with h' | h'
        · exact h'
        · rw [Array.getElem?_eq_none h'] at ho; cases ho
      obtain ⟨v, hv, hV⟩ := h.own i o d ho (by simp [Array.getD, hi]) hd
      have : a.tmps.getD d undef = v := by simp [Array.getD_eq_getD_getElem?, hv]
      simp only [this]
      exact hV
theorem region_flows {id : Nat} {l : List Oper} {w : World} (hm : P.follows .mixedOrders = true) (hfore : flowFore l.toArray = true) (hown : flowOwn l.toArray = true) (hin : l.all (fun o => match o.dst with | some d => decide (d < a0.tmps.size) | none => true) = true)
    (hmono : ∀ j u w w', V j u w → R w w' → V j u w') (hS : S { w with drawn := w.drawn + 1 })
    (hstep : AllFlow P .any l.toArray Q a0 V S R 0 l)
    (ds : List Nat) (hds : l.filterMap (·.dst) = ds)
    (hdone : ∀ (f : Nat → Value) w, S w → (∀ (i d : Nat), (l[i]?).bind (·.dst) = some d → V i (f d) w) → Q .normal (slots f ds a0) w) : (Code.region id l.toArray true).wp P Q a0 w := by
  refine region_flow hm hfore hown (fun i o d ho hd => ?_) hmono hS (fun i o ho => ?_) fun a w' h => ?_
  · rw [List.all_eq_true] at hin
    have ho' : l[i]? = some o := by simpa using ho
    have := hin o (List.mem_of_getElem? ho')
    rw [hd] at this
    exact of_decide_eq_true this
  · have := AllFlow.get l 0 hstep i o (by simpa using ho)
    rw [Nat.zero_add] at this
    exact this
  · obtain ⟨f, rfl, hf⟩ := h.whole ds (by simpa using hds)
    exact hdone f w' h.s fun i d hd => hf i d (by simpa using hd)

end
end Go.Proofs.YteaoaoknpihchaaDoor
