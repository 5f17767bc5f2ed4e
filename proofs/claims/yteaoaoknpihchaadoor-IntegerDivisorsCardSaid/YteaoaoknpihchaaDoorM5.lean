/- Contracts of the package integer and its reference: integer.subtract. -/
import Derived.Test.YteaoaoknpihchaaDoorM2
import Derived.Test.YteaoaoknpihchaaDoorM4
namespace Go.Proofs.YteaoaoknpihchaaDoor
open Go.RowKit

/-- of what there was, block g alone is changed -/
structure Only (g : Nat) (w w' : World) : Prop where
  os : w'.os = w.os
  tape : w'.tape = w.tape
  output : w'.output = w.output
  size : w.heap.size ≤ w'.heap.size
  block : ∀ k, k < w.heap.size → k ≠ g → w'.heap[k]? = w.heap[k]?
section
variable {g : Nat} {w w' w2 : World}
theorem Only.refl (g : Nat) (w : World) : Only g w w := ⟨rfl, rfl, rfl, Nat.le_refl _, fun _ _ _ => rfl⟩
theorem Only.trans (h : Only g w w') (h2 : Only g w' w2) : Only g w w2 :=
  ⟨h2.os.trans h.os, h2.tape.trans h.tape, h2.output.trans h.output, Nat.le_trans h.size h2.size, fun k hk hg => (h2.block k (Nat.lt_of_lt_of_le hk h.size) hg).trans (h.block k hk hg)⟩
theorem Only.setCell (h : Only g w w') (i : Nat) (v : Value) : Only g w (w'.setCell ⟨g, i, none⟩ v) :=
  ⟨h.os, h.tape, h.output, Nat.le_trans h.size (Below.setCell (Below.refl 0 w') (Nat.zero_le _) v (p := ⟨g, i, none⟩)).size, fun k hk hg => (Below.heap_setCell _ _ _ _ hg).trans (h.block k hk hg)⟩
theorem Only.drewN (h : Only g w w') (q : Nat) : Only g w (w'.drewN q) := ⟨h.os, h.tape, h.output, h.size, h.block⟩
theorem Only.of_below (h : Below w.heap.size w w') : Only g w w' := ⟨h.os, h.tape, h.output, h.size, fun k hk _ => h.block k hk⟩
theorem Only.below {B : Nat} {w0 : World} (h : Only g w w') (hb : Below B w0 w) (hB : B ≤ g) (hs : B ≤ w.heap.size) : Below B w0 w' :=
  ⟨h.os.trans hb.os, h.tape.trans hb.tape, h.output.trans hb.output, Nat.le_trans hb.size h.size, fun k hk => (h.block k (by omega) (by omega)).trans (hb.block k hk)⟩
theorem Only.blk {k : Nat} {l : List Int} (h : Only g w w') (hk : k ≠ g) (hB : Blk w k l) : Blk w' k l := (h.block k hB.lt hk).trans hB
theorem Only.cell (h : Only g w w') {p : Addr} {v : Value} (hp : p.block ≠ g) (hc : w.cell? p = some v) : w'.cell? p = some v :=
  (World.cell?_of_block (w := w) (h.block p.block (World.block_lt_of_cell? w p hc) hp)).trans hc
end
/-- a slice that reads as l, and not in block g -/
def RdN (g : Nat) (w : World) (a : Option Addr) (l : List Int) : Prop := Rdi w a l ∧ ∀ q, a = some q → q.block ≠ g
theorem RdN_at {g : Nat} {w wr : World} {a : Option Addr} {l : List Int} (h : RdN g w a l) (ho : Only g w wr) (k : Nat) (hk : k < l.length) : ∃ b off, a = some ⟨b, off, none⟩ ∧ wr.cell? ⟨b, off + k, none⟩ = some (.int .i64 (iat l k)) := by
  obtain ⟨b, off, rfl, hc⟩ := Rdi_at h.1 k hk
  have hb := h.2 ⟨b, off, none⟩ rfl
  exact ⟨b, off, rfl, ho.cell (p := ⟨b, off + k, none⟩) hb hc⟩
theorem Only.rdi {g : Nat} {w wr : World} {a : Option Addr} {l : List Int} (ho : Only g w wr) (h : RdN g w a l) : RdN g wr a l := by
  refine ⟨?_, h.2⟩
  rcases h.1 with rfl | ⟨b, off, rfl, hc⟩
  · exact .inl rfl
  · have hb := h.2 ⟨b, off, none⟩ rfl
    exact .inr ⟨b, off, rfl, fun i hi => ho.cell (p := ⟨b, off + i, none⟩) hb (hc i hi)⟩

/-- what is put into block g -/
def SubP (w : World) (g : Nat) (x y : List Int) (n : Int) (e : Ending) (w' : World) : Prop :=
  ∃ Z b, e = .returned (.bool b) ∧ Blk w' g Z ∧ Z.length = y.length + 1 ∧ Only g w w' ∧ (b = true → 0 ≤ val x - n * val y ∧ Dg Z ∧ val Z = val x - n * val y) ∧ (b = false → val x - n * val y < 0)
def SubL (w : World) (g : Nat) (x y : List Int) (n : Int) (k : Nat) (over : Int) (wr : World) : Prop := ∃ z, SubA x y n k over z ∧ Blk wr g z ∧ Only g w wr

set_option maxRecDepth 100000 in
set_option maxHeartbeats 1600000 in
theorem subtract_any (g : Nat) (Z : List Int) (a1 a2 : Option Addr) (c0 c1 c2 m : Nat) (x y : List Int) (n : Int) (w : World) (hZ : Blk w g Z) (hZl : Z.length = m + 1) (hR1 : RdN g w a1 x) (hR2 : RdN g w a2 y) (hn2 : y.length = m) (hn1 : x.length = m + 1) (hd1 : Dg x) (hd2 : Dg y) (hm : m ≤ 1099511627776) (hn0 : 0 ≤ n) (hnB : n < 1000000000) :
    Calls Tryd.prog 84 #[.slice (some ⟨g, 0, none⟩) (m + 1) c0, .slice a1 (m + 1) c1, .slice a2 m c2, .int .i64 n] w (SubP w g x y n) := by
  have H1 := Lib.hid hR1
  have H2 := Lib.hid hR2
  have N1 := Lib.hid hn1
  have N2 := Lib.hid hn2
  have D1 := Lib.hid hd1
  have D2 := Lib.hid hd2
  have hI : Hid (SubL w g x y n 0 0 w) := Lib.hid ⟨Z, SubA.start x y n Z (by rw [hZl, hn2]), hZ, Only.refl _ _⟩
  clear hR1 hR2 hn1 hn2 hd1 hd2 hZ hZl
  go_enter Tryd.func84, Tryd.ntmps84
  go_wp2_with fail
  go_loopw [9, 15] (fun ov i wr => ∃ (k : Nat) (over : Int), k ≤ m ∧ i = .int .i64 (k : Int) ∧ ov = .int .i64 over ∧ SubL w g x y n k over wr) (fun _ i _ => m - (intOf i).toNat)
  case atStart => exact ⟨0, 0, Nat.zero_le _, rfl, rfl, hI.out⟩
  case round =>
    obtain ⟨k, over, hk, rfl, rfl, hL⟩ := hrel
    clear hI
    by_cases hlt : k < m
    · obtain ⟨z, hA, hz, hO⟩ := hL
      obtain ⟨b1, o1, hp1, cx⟩ := RdN_at H1.out hO k (by rw [N1.out]; omega)
      obtain ⟨b2, o2, hp2, cy⟩ := RdN_at H2.out hO k (by rw [N2.out]; exact hlt)
      subst hp1 hp2
      have hkz : k < z.length := by rw [hA.len, N2.out]; omega
      have cz := hz.cell hkz
      have cf := hz.free k
      have hst : Hid (SubL w g x y n (k + 1) (1000000000 - (1000000000000000000 + iat x k - n * iat y k - over) / 1000000000) (wr.setCell ⟨g, k, none⟩ (.int .i64 ((1000000000000000000 + iat x k - n * iat y k - over) % 1000000000)))) :=
        Lib.hid ⟨_, hA.next D1.out D2.out (by rw [N2.out]; exact hlt) (by rw [N1.out]; omega) hn0 hnB, hz.set _ _, hO.setCell _ _⟩
      have bx := D1.out.all k
      have by_ := D2.out.all k
      have ho0 := hA.lo
      have ho1 := hA.hi
      have hdg := sub_digit hn0 hnB by_.1 by_.2 bx.1 bx.2 ho0 ho1
      generalize iat x k = X at cx hst bx hdg
      generalize iat y k = Y at cy hst by_ hdg
      generalize iat z k = V at cz
      obtain ⟨bx0, bx1⟩ := bx
      obtain ⟨hd0, hd1, hd2, hd3⟩ := hdg
      have k0 : 0 ≤ (k : Int) := by omega
      have k1 : (k : Int) < (m : Int) := by omega
      have k2 : (k : Int) < (m : Int) + 1 := by omega
      have q0 : 0 ≤ (1000000000000000000 + X - n * Y - over) / 1000000000 := Int.ediv_nonneg hd2 (by omega)
      have q1 : (1000000000000000000 + X - n * Y - over) / 1000000000 ≤ 1000000001 := by omega
      have q2 : 0 ≤ (1000000000000000000 + X - n * Y - over) % 1000000000 := by omega
      have q3 : (1000000000000000000 + X - n * Y - over) % 1000000000 < 1000000000 := by omega
      clear hA hz hO by_ hkz hlt
      go_wp2_with fail
      exact ⟨⟨k + 1, _, by omega, by simp, rfl, hst.out⟩, by simp [intOf]; omega⟩
    · have hk' : k = m := by omega
      subst hk'
      obtain ⟨z, hA, hz, hO⟩ := hL
      obtain ⟨b1, o1, hp1, cx⟩ := RdN_at H1.out hO k (by rw [N1.out]; omega)
      subst hp1
      have hkz : k < z.length := by rw [hA.len, N2.out]; omega
      have cz := hz.cell hkz
      have cf := hz.free k
      have hz2 := hz.set k (iat x k - over)
      have cz2 := hz2.cell (i := k) (by rw [List.length_set]; exact hkz)
      rw [iat_set _ _ _ _ hkz, if_pos rfl] at cz2
      have ho0 := hA.lo
      have ho1 := hA.hi
      have bx := D1.out.all k
      have hdn := hA
      rw [show k = y.length from N2.out.symm] at hdn
      have hdone := hdn.done (by rw [N1.out, N2.out])
      rw [N2.out] at hdone
      have hZl : Hid ((z.set k (iat x k - over)).length = y.length + 1) := Lib.hid (by rw [List.length_set]; exact hA.len)
      have hO2 := Lib.hid (hO.setCell k (.int .i64 (iat x k - over)))
      have hz2' := Lib.hid hz2
      have hdone' := Lib.hid hdone
      clear hA hz hO hdn hdone hz2 hkz hlt
      generalize z.set k (iat x k - over) = Z2 at hdone' hz2' hZl
      generalize iat x k = X at *
      generalize iat z k = V at cz
      obtain ⟨bx0, bx1⟩ := bx
      have k0 : 0 ≤ (k : Int) := by omega
      have k2 : (k : Int) < (k : Int) + 1 := by omega
      go_wp2_with fail
      go_ret
      refine ⟨Z2, decide (over ≤ X), rfl, hz2'.out, hZl.out, hO2.out, fun h => ?_, fun h => ?_⟩
      · have hs := of_decide_eq_true h
        have h3 := hdone'.out.2.2 (by omega) bx1
        have h4 := h3.lo
        rw [hdone'.out.1] at h4
        exact ⟨h4, h3, hdone'.out.1⟩
      · have hs := of_decide_eq_false h
        exact hdone'.out.2.1 (by omega)
end Go.Proofs.YteaoaoknpihchaaDoor
