/- Contracts of the package integer and its reference: integer.product. integer.shortDivided, number. -/
import Derived.Test.YteaoaoknpihchaaDoorM2
namespace Go.Proofs.YteaoaoknpihchaaDoor
open Go.RowKit

/-- rows are added in block g -/
def MulL (w : World) (g : Nat) (l m : List Int) (i : Nat) (wr : World) : Prop := ∃ z, MulA l m i z ∧ Blk wr g z ∧ Below w.heap.size w wr
def MulM (w : World) (g : Nat) (l m : List Int) (i j : Nat) (over : Int) (wr : World) : Prop := ∃ z, MulB l m i j over z ∧ Blk wr g z ∧ Below w.heap.size w wr
def MulP (l m : List Int) (z : List Int) : Prop := Dg z ∧ val z = val l * val m ∧ z.length = l.length + m.length

set_option maxRecDepth 100000 in
set_option maxHeartbeats 1600000 in
theorem product_any (a1 a2 : Option Addr) (n1 c1 n2 c2 : Nat) (l m : List Int) (w : World) (hR1 : Rdi w a1 l) (hR2 : Rdi w a2 m) (hn1 : n1 = l.length) (hn2 : n2 = m.length) (hd1 : Dg l) (hd2 : Dg m) (hm1 : n1 ≤ 1099511627775) (hm2 : n2 ≤ 1099511627775) :
    Calls Tryd.prog 59 #[.slice a1 n1 c1, .slice a2 n2 c2] w (NewI w (MulP l m)) := by
  have H1 := Lib.hid hR1
  have H2 := Lib.hid hR2
  have N1 := Lib.hid hn1
  have N2 := Lib.hid hn2
  have D1 := Lib.hid hd1
  have D2 := Lib.hid hd2
  clear hR1 hR2 hn1 hn2 hd1 hd2
  have hmk := run_make_row' (P := Tryd.prog) 22 3 (.int .i64 0) 8 Tryd.underlying22 info_i64 rfl .i64 .i64 (n1 + n2) (by omega) (by omega)
  rw [zvs_zeros, show ((n1 + n2 : Nat) : Int) = (n1 : Int) + (n2 : Int) by omega] at hmk
  have hI : Hid (MulL w w.heap.size l m 0 (w.alloc (.cells (zvs (List.replicate (n1 + n2) 0)).toArray 3))) := Lib.hid ⟨_, MulA.start l m, by rw [← N1.out, ← N2.out]; exact Blk_new _ _, below_new _ _⟩
  generalize zvs (List.replicate (n1 + n2) 0) = Z at hmk hI
  go_enter Tryd.func59, Tryd.ntmps59
  go_wp2_with fail
  generalize w.alloc (.cells Z.toArray 3) = w1 at hI ⊢
  obtain ⟨g, hg⟩ : ∃ g, w.heap.size = g := ⟨_, rfl⟩
  rw [hg] at hI ⊢
  have hgg : Hid (w.heap.size ≤ g) := Lib.hid (Nat.le_of_eq hg)
  clear hg hmk
  go_loopw [21] (fun i wr => ∃ k : Nat, k ≤ n1 ∧ i = .int .i64 (k : Int) ∧ MulL w g l m k wr) (fun i _ => n1 - (intOf i).toNat)
  case atStart => exact ⟨0, Nat.zero_le _, rfl, hI.out⟩
  case round =>
    obtain ⟨i, hi, rfl, hL⟩ := hrel
    clear hI
    by_cases hlt : i < n1
    · obtain ⟨b, o, hoX, hcx0⟩ := Rdi_at H1.out i (by rw [← N1.out]; exact hlt)
      subst hoX
      have hcx : wr.cell? ⟨b, o + i, none⟩ = some (.int .i64 (iat l i)) := by
        obtain ⟨z, hA, hz, hB⟩ := hL
        exact Below.cell_of' hB hcx0
      have hM : Hid (MulM w g l m i 0 0 wr) := Lib.hid (by
        obtain ⟨z, hA, hz, hB⟩ := hL
        exact ⟨z, hA.row, hz, hB⟩)
      have hx1 := D1.out.all i
      obtain ⟨x, hxx⟩ : ∃ x, iat l i = x := ⟨_, rfl⟩
      rw [hxx] at hcx hx1
      have hxx' := Lib.hid hxx
      obtain ⟨hx3, hx4⟩ := hx1
      have i0 : 0 ≤ (i : Int) := by omega
      have i1 : (i : Int) < (n1 : Int) := by omega
      have i2 : (i : Int) ≤ (n1 : Int) + (n2 : Int) := by omega
      have i3 : ¬ (n1 : Int) + (n2 : Int) < (i : Int) := by omega
      have i4 : ((n1 + n2 : Nat) : Int) = (n1 : Int) + (n2 : Int) := by omega
      clear hL hcx0 hxx
      go_wp2_with fail
      obtain ⟨r, hr⟩ : ∃ r, n1 + n2 - i = r := ⟨_, rfl⟩
      rw [hr]
      have r1 : (n2 : Int) < (r : Int) := by omega
      have hr' := Lib.hid hr
      clear hr i1 i2 i3 i4 hlt
      obtain ⟨wo, rfl⟩ : ∃ wo : World, wo = wr := ⟨_, rfl⟩
      go_loopw [9, 31] (fun ov jv wr2 => ∃ (j : Nat) (over : Int), j ≤ n2 ∧ jv = .int .i64 (j : Int) ∧ ov = .int .i64 over ∧ MulM w g l m i j over wr2) (fun _ jv _ => n2 - (intOf jv).toNat)
      case atStart => exact ⟨0, 0, Nat.zero_le _, rfl, rfl, hM.out⟩
      case round =>
        obtain ⟨j, over, hj, rfl, rfl, hL⟩ := hrel
        clear hM hcx
        by_cases hlt : j < n2
        · obtain ⟨z, hB, hz, hW⟩ := hL
          obtain ⟨b2, o2, hoY, hcy0⟩ := Rdi_at H2.out j (by rw [← N2.out]; exact hlt)
          subst hoY
          have cy := Below.cell_of' hW hcy0
          have hkz : i + j < z.length := by rw [hB.len, ← N1.out, ← N2.out]; have := hr'.out; omega
          have cz := hz.cell hkz
          have cf := hz.free (i + j)
          have hil : i < l.length := by rw [← N1.out]; have := hr'.out; omega
          have hnx := hB.next hil (by rw [← N2.out]; exact hlt) (by rw [hxx'.out]; exact hx3) (by rw [hxx'.out]; exact hx4) D2.out
          have hst : Hid (MulM w g l m i (j + 1) ((iat l i * iat m j + iat z (i + j) + over) / 1000000000) (wr.setCell ⟨g, i + j, none⟩ (.int .i64 ((iat l i * iat m j + iat z (i + j) + over) % 1000000000)))) := Lib.hid ⟨_, hnx, hz.set _ _, hW.setCell hgg.out _⟩
          have hy1 := D2.out.all j
          have hz1 := hB.dg.all (i + j)
          have ho1 := hB.lo
          have ho2 := hB.hi
          have hmd := mul_digit hx3 hx4 hy1.1 hy1.2 hz1.1 hz1.2 ho1 ho2
          rw [hxx'.out] at hst
          obtain ⟨y, hyy⟩ : ∃ y, iat m j = y := ⟨_, rfl⟩
          obtain ⟨v, hvv⟩ : ∃ v, iat z (i + j) = v := ⟨_, rfl⟩
          rw [hyy] at cy hst hy1 hmd
          rw [hvv] at cz hst hz1 hmd
          obtain ⟨q1, q2, q3, q4⟩ := hmd
          obtain ⟨hy3, hy4⟩ := hy1
          obtain ⟨hz3, hz4⟩ := hz1
          have j0 : 0 ≤ (j : Int) := by omega
          have j1 : (j : Int) < (n2 : Int) := by omega
          have j2 : (j : Int) < (r : Int) := by omega
          clear hB hz hW hcy0 hkz hil hnx hyy hvv
          go_wp2_with fail
          exact ⟨⟨j + 1, _, by omega, by simp, rfl, hst.out⟩, by simp [intOf]; omega⟩
        · have hj' : j = n2 := by omega
          subst hj'
          obtain ⟨z, hB, hz, hW⟩ := hL
          have hil : i < l.length := by rw [← N1.out]; have := hr'.out; omega
          have hkz : i + j < z.length := by rw [hB.len, ← N1.out, ← N2.out]; have := hr'.out; omega
          have cz := hz.cell hkz
          have cf := hz.free (i + j)
          rw [N2.out] at hB
          have hdn := hB.done hil
          rw [← N2.out] at hdn
          have hst : Hid (MulL w g l m (i + 1) (wr.setCell ⟨g, i + j, none⟩ (.int .i64 over))) := Lib.hid ⟨_, hdn, hz.set _ _, hW.setCell hgg.out _⟩
          have hii : Hid (i + 1 ≤ n1) := Lib.hid (by rw [N1.out]; exact hil)
          have hii2 : Hid (n1 - (i + 1) < n1 - i) := Lib.hid (by have := hii.out; omega)
          have j0 : 0 ≤ (j : Int) := by omega
          generalize iat z (i + j) = v at cz
          clear hB hz hW hil hkz hdn hlt
          go_wp2_with fail
          exact ⟨⟨i + 1, hii.out, by simp, hst.out⟩, by simp [intOf]; exact hii2.out⟩
    · have hk' : i = n1 := by omega
      subst hk'
      obtain ⟨z, hA, hz, hB⟩ := hL
      have hz' := Lib.hid hz
      have hB' := Lib.hid hB
      have hA' := Lib.hid hA
      clear hz hB hA
      go_wp2_with fail
      go_ret
      exact ⟨g, _, z, rfl, hgg.out, hz'.out, hB'.out, by rw [hA'.out.len, N1.out, N2.out], hA'.out.dg, by rw [hA'.out.sum, N1.out, List.take_length], hA'.out.len⟩
end Go.Proofs.YteaoaoknpihchaaDoor

namespace Go.Proofs.YteaoaoknpihchaaDoor
open Go.RowKit

/-- a quotient by a digit in block g -/
def DivL (w : World) (g : Nat) (l : List Int) (y : Int) (k : Nat) (r : Int) (wr : World) : Prop := ∃ q, DivA l y k r q ∧ Blk wr g q ∧ Below w.heap.size w wr
/-- a quotient and a rest, each in a block of its own -/
def DivS (w : World) (l : List Int) (y : Int) (e : Ending) (w' : World) : Prop :=
  ∃ g h n q r, e = .returned (.tuple #[.slice (some ⟨g, 0, none⟩) n n, .slice (some ⟨h, 0, none⟩) 1 1]) ∧ w.heap.size ≤ g ∧ w.heap.size ≤ h ∧ Blk w' g q ∧ Blk w' h [r] ∧ Below w.heap.size w w' ∧ n = l.length ∧ DivA l y 0 r q

set_option maxRecDepth 100000 in
set_option maxHeartbeats 800000 in
theorem shortDivided_any (a : Option Addr) (n c : Nat) (l : List Int) (y : Int) (w : World) (hR0 : Rdi w a l) (hn0 : n = l.length) (hd0 : Dg l) (hy0 : 0 < y) (hy1 : y ≤ 1000000000) (hm : n ≤ 1099511627776) :
    Calls Tryd.prog 68 #[.slice a n c, .int .i64 y] w (DivS w l y) := by
  have H := Lib.hid hR0
  have N := Lib.hid hn0
  have D := Lib.hid hd0
  clear hR0 hn0 hd0
  have hmk := run_make_row' (P := Tryd.prog) 22 3 (.int .i64 0) 8 Tryd.underlying22 info_i64 rfl .i64 .i64 n (by omega) (by omega)
  rw [zvs_zeros] at hmk
  have hI : Hid (DivL w w.heap.size l y n 0 (w.alloc (.cells (zvs (List.replicate n 0)).toArray 3))) := Lib.hid ⟨_, by rw [N.out]; exact DivA.start l y hy0, by rw [← N.out]; exact Blk_new _ _, below_new _ _⟩
  generalize zvs (List.replicate n 0) = Z at hmk hI
  have y0 : (y == 0) = false := by simp; omega
  go_enter Tryd.func68, Tryd.ntmps68
  go_wp2_with fail
  generalize w.alloc (.cells Z.toArray 3) = w1 at hI ⊢
  obtain ⟨g, hg⟩ : ∃ g, w.heap.size = g := ⟨_, rfl⟩
  rw [hg] at hI ⊢
  have hgg : Hid (w.heap.size ≤ g) := Lib.hid (Nat.le_of_eq hg)
  clear hg hmk
  go_loopw [7, 16] (fun rv i wr => ∃ (k j : Nat) (r : Int), j + k = n ∧ i = .int .i64 (k : Int) ∧ rv = .int .u64 r ∧ DivL w g l y j r wr) (fun _ i _ => n - (intOf i).toNat)
  case atStart => exact ⟨0, n, 0, rfl, rfl, rfl, hI.out⟩
  case round =>
    obtain ⟨k, j0, r, hjk, rfl, rfl, hL⟩ := hrel
    clear hI
    by_cases hlt : k < n
    · obtain ⟨j, rfl⟩ : ∃ j, j0 = j + 1 := ⟨j0 - 1, by omega⟩
      subst hjk
      obtain ⟨q, hA, hq, hB⟩ := hL
      have hjl : j < l.length := by rw [← N.out]; omega
      obtain ⟨b, o, rfl, hcx⟩ := Rdi_at H.out j hjl
      have cx := Below.cell_of' hB hcx
      have hjq : j < q.length := by rw [hA.len]; exact hjl
      have cq := hq.cell hjq
      have cf := hq.free j
      have hst : Hid (DivL w g l y j ((r * 1000000000 + iat l j) % y) (wr.setCell ⟨g, j, none⟩ (.int .i64 ((r * 1000000000 + iat l j) / y)))) := Lib.hid ⟨_, hA.next hjl D.out hy1, hq.set _ _, hB.setCell hgg.out _⟩
      have hr1 := hA.lo
      have hr2 := hA.hi
      have hx := D.out.all j
      have hq1 : 0 ≤ (r * 1000000000 + iat l j) / y := Int.ediv_nonneg (by omega) (by omega)
      have hq2 : (r * 1000000000 + iat l j) / y < 1000000000 := Int.ediv_lt_of_lt_mul (by omega) (by omega)
      have hq3 : 0 ≤ (r * 1000000000 + iat l j) % y := Int.emod_nonneg _ (by omega)
      have hq4 : (r * 1000000000 + iat l j) % y < y := Int.emod_lt_of_pos _ hy0
      obtain ⟨x, hxx⟩ : ∃ x, iat l j = x := ⟨_, rfl⟩
      obtain ⟨v, hvv⟩ : ∃ v, iat q j = v := ⟨_, rfl⟩
      rw [hxx] at cx hst hx hq1 hq2 hq3 hq4
      rw [hvv] at cq
      obtain ⟨hx3, hx4⟩ := hx
      have e0 : (((j + 1 + k : Nat) : Int)) = (j : Int) + 1 + (k : Int) := by omega
      have e1 : (j : Int) + 1 + (k : Int) - 1 - (k : Int) = (j : Int) := by omega
      have e2 : (k : Int) < (j : Int) + 1 + (k : Int) := by omega
      have e3 : (j : Int) < (j : Int) + 1 + (k : Int) := by omega
      have e4 : 0 ≤ (j : Int) := by omega
      have e5 : ((j : Int)).toNat = j := by omega
      clear hA hq hB hcx hjl hjq hxx hvv hlt
      go_wp2_with fail
      exact ⟨⟨k + 1, j, _, by omega, by simp, rfl, hst.out⟩, by simp [intOf]; omega⟩
    · have hk' : k = n := by omega
      obtain rfl : j0 = 0 := by omega
      subst hk'
      obtain ⟨q, hA, hq, hB⟩ := hL
      have hA' := Lib.hid hA
      have hq' := Lib.hid hq
      have hB' := Lib.hid hB
      have hr1 := hA.lo
      have hr2 := hA.hi
      clear hA hq hB hjk
      go_wp2_with fail
      go_ret2
      exact ⟨g, wr.heap.size, _, q, r, rfl, hgg.out, hB'.out.size, hq'.out.later (below_new _ _), Blk_new wr [r], below_tr hB'.out (below_new _ _), N.out, hA'.out⟩

/-- a number of 64 bits, while k digits are left -/
def NumI (l : List Int) (k : Nat) : Int := val (l.drop k) % 18446744073709551616
theorem NumI_next {l : List Int} {k : Nat} (hk : k < l.length) : (NumI l (k + 1) * 1000000000 + iat l k) % 18446744073709551616 = NumI l k := by
  unfold NumI
  rw [val_drop l k hk]
  omega
theorem u64_two (a x : Int) : IntKind.u64.wrap (IntKind.u64.wrap a + x) = (a + x) % 18446744073709551616 := by
  simp [IntKind.wrap, IntKind.bits, IntKind.signed]
theorem NumI_lo (l : List Int) (k : Nat) : 0 ≤ NumI l k ∧ NumI l k < 18446744073709551616 := by unfold NumI; omega

set_option maxRecDepth 100000 in
set_option maxHeartbeats 800000 in
theorem number_any (a : Option Addr) (n c : Nat) (l : List Int) (w : World) (hR0 : Rdi w a l) (hn0 : n = l.length) (hd0 : Dg l) (hm : n ≤ 1099511627776) :
    Calls Tryd.prog 39 #[.slice a n c] w fun e w' => e = .returned (.int .u64 (NumI l 0)) ∧ w = w' := by
  have H := Lib.hid hR0
  have N := Lib.hid hn0
  have D := Lib.hid hd0
  clear hR0 hn0 hd0
  go_enter Tryd.func39, Tryd.ntmps39
  go_wp2_with fail
  go_loop [3, 7] (fun mv i => ∃ (k j : Nat), j + k = n ∧ i = .int .i64 (k : Int) ∧ mv = .int .u64 (NumI l j)) (fun _ i => n - (intOf i).toNat)
  case atStart => exact ⟨0, n, rfl, rfl, by unfold NumI; rw [N.out, List.drop_length]; rfl⟩
  case round =>
    obtain ⟨k, j0, hjk, rfl, rfl⟩ := hrel
    by_cases hlt : k < n
    · obtain ⟨j, rfl⟩ : ∃ j, j0 = j + 1 := ⟨j0 - 1, by omega⟩
      subst hjk
      have hjl : j < l.length := by rw [← N.out]; omega
      obtain ⟨b, o, rfl, cx⟩ := Rdi_at H.out j hjl
      have hst := Lib.hid (NumI_next hjl)
      have hr := NumI_lo l (j + 1)
      have hx := D.out.all j
      obtain ⟨x, hxx⟩ : ∃ x, iat l j = x := ⟨_, rfl⟩
      obtain ⟨M, hM⟩ : ∃ M, NumI l (j + 1) = M := ⟨_, rfl⟩
      rw [hxx] at cx hst hx
      rw [hM] at hst hr ⊢
      obtain ⟨hx3, hx4⟩ := hx
      obtain ⟨hr3, hr4⟩ := hr
      have e0 : (((j + 1 + k : Nat) : Int)) = (j : Int) + 1 + (k : Int) := by omega
      have e1 : (j : Int) + 1 + (k : Int) - 1 - (k : Int) = (j : Int) := by omega
      have e2 : (k : Int) < (j : Int) + 1 + (k : Int) := by omega
      have e3 : (j : Int) < (j : Int) + 1 + (k : Int) := by omega
      have e4 : 0 ≤ (j : Int) := by omega
      have e5 : ((j : Int)).toNat = j := by omega
      clear hjl hxx hM hlt
      go_wp2_with fail
      exact ⟨⟨k + 1, j, by omega, by simp, by rw [u64_two, hst.out]⟩, by simp [intOf]; omega⟩
    · have hk' : k = n := by omega
      obtain rfl : j0 = 0 := by omega
      subst hk'
      go_wp2_with fail
      go_ret
      exact ⟨rfl, rfl⟩
end Go.Proofs.YteaoaoknpihchaaDoor
