/- wire.getLen and wire.GetBytes. -/
import Derived.Test.YtfgkaiaapofepaaDoorW3
import Derived.Laws.BytesArg
namespace Go.Proofs.YtfgkaiaapofepaaDoor
open Go.RowKit

/-- decoding a length that is followed by parts of at least z bytes -/
def gl (z : Nat) (l : List UInt8) : Int × Nat × Int :=
  let r := gi l
  if r.2.2 ≠ 0 then (0, 0, r.2.2) else if r.1 < 0 then (0, 0, 2) else if ((l.length - r.2.1) / z : Nat) < r.1 then (0, 0, 3) else (r.1, r.2.1, 0)

/-- a list of bytes as a string -/
def bs (l : List UInt8) : ByteArray := ⟨l.toArray⟩

theorem strOf_byt (l : List UInt8) : strOfNums (l.map fun b => (b.toNat : Int)) = bs l := by
  unfold strOfNums bs
  congr 1
  simp [List.map_map, Function.comp_def]

theorem byt_map (l : List UInt8) (i : Nat) : (l.map fun b => (b.toNat : Int)).getD i 0 = byt l i := by
  unfold byt
  rcases Nat.lt_or_ge i l.length with h | h
  · simp [List.getD_eq_getElem?_getD, h]
  · simp [List.getD_eq_getElem?_getD, List.getElem?_eq_none h]

theorem run_bytes_string {P : Program} (src e dst : TypeId) (hs : P.underlying src = some (.slice e)) (he : P.underlying e = some (.int .u8)) (hd : P.underlying dst = some .string) (w : World) (a : Option Addr) (n c : Nat) (l : List UInt8) (hR : Rd w a l) (hn : n = l.length) :
    (convert src dst (.slice a n c)).run P w = .ok (.string (bs l)) w := by
  rcases hR with rfl | ⟨b, off, rfl, hc⟩
  · subst hn
    rw [run_convert_bytes_string w src dst e _ _ c hs he hd]
    cases a with
    | none => simp [Conv.bytesToString, bs]; rfl
    | some a =>
      have := run_bytesToString (P := P) w a 0 c [] (by simp [loadCells, loadCellsFrom])
      simp only [List.length_nil]
      rw [this]
      rfl
  · rw [run_convert_bytes_arg w src e hs he b off n c (l.map fun b => (b.toNat : Int)) (by simp [hn]) (fun i hi => by rw [hc i (by omega), byt_map]) dst hd, strOf_byt]

/-- decoding a byte string -/
def gb (l : List UInt8) : List UInt8 × Nat × Int :=
  let r := gl 1 l
  if r.2.2 ≠ 0 then ([], 0, r.2.2) else ((l.drop r.2.1).take r.1.toNat, r.2.1 + r.1.toNat, 0)

/-- a length that was decoded: not negative, and there is as much as it says -/
theorem gl_ok (z : Nat) (hz : 1 ≤ z) (l : List UInt8) (x : Int) (u : Nat) (h : gl z l = (x, u, 0)) : gi l = (x, u, 0) ∧ 0 ≤ x ∧ u ≤ l.length ∧ 1 ≤ u ∧ x * z ≤ (l.length - u : Nat) ∧ x ≤ (l.length - u : Nat) := by
  obtain ⟨x0, u0, e0, h0⟩ : ∃ x0 u0 e0, gi l = (x0, u0, e0) := ⟨_, _, _, rfl⟩
  simp only [gl, h0] at h
  by_cases c1 : e0 ≠ 0
  · rw [if_pos c1] at h
    simp only [Prod.mk.injEq] at h
    omega
  rw [if_neg c1] at h
  by_cases c2 : x0 < 0
  · rw [if_pos c2] at h
    simp only [Prod.mk.injEq] at h
    omega
  rw [if_neg c2] at h
  by_cases c3 : (((l.length - u0) / z : Nat) : Int) < x0
  · rw [if_pos c3] at h
    simp only [Prod.mk.injEq] at h
    omega
  · rw [if_neg c3] at h
    simp only [Prod.mk.injEq] at h
    obtain ⟨rfl, rfl, _⟩ := h
    have c1' : e0 = 0 := by omega
    subst c1'
    obtain ⟨g1, g2, g3, g4, g5⟩ := gi_range l x0 u0 h0
    obtain ⟨k, rfl⟩ := Int.eq_ofNat_of_zero_le (show 0 ≤ x0 by omega)
    have hk : k ≤ (l.length - u0) / z := by omega
    have hm : k * z ≤ l.length - u0 := (Nat.le_div_iff_mul_le (by omega)).1 hk
    have hk1 : k ≤ k * z := Nat.le_mul_of_pos_right k (by omega)
    refine ⟨h0, by omega, g3, by rw [g5, enc_length]; omega, ?_, by omega⟩
    have : ((k * z : Nat) : Int) ≤ ((l.length - u0 : Nat) : Int) := by exact_mod_cast hm
    simpa using this

theorem byt_sub (l : List UInt8) (u x i : Nat) (hi : i < x) : byt ((l.drop u).take x) i = byt l (u + i) := by
  unfold byt
  simp [List.getD_eq_getElem?_getD, List.getElem?_take, hi]

theorem Rd_sub (w : World) (b off : Nat) (l : List UInt8) (hc : ∀ i, i < l.length → w.cell? ⟨b, off + i, none⟩ = some (.int .u8 (byt l i))) (u x : Nat) :
    Rd w (some ⟨b, off + u, none⟩) ((l.drop u).take x) := by
  refine .inr ⟨b, off + u, rfl, fun i hi => ?_⟩
  simp only [List.length_take, List.length_drop] at hi
  rw [byt_sub _ _ _ _ (by omega), show off + u + i = off + (u + i) from by omega, hc _ (by omega)]

end Go.Proofs.YtfgkaiaapofepaaDoor
