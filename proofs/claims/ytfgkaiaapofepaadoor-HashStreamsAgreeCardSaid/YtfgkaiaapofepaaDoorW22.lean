/- The examples that every statement contains. -/
import Derived.Test.YtfgkaiaapofepaaDoorW21
namespace Go.Proofs.YtfgkaiaapofepaaDoor
open Go.RowKit

/-- the call returns true, and changes nothing that was there -/
def TruePost (w : World) (e : Ending) (w' : World) : Prop := e = .returned (.bool true) ∧ Below w.heap.size w w'

theorem quiet_true {w : World} {e : Ending} {w' : World} (h : QPost w (.bool true) e w') : TruePost w e w' := by
  obtain ⟨rfl, q, rfl⟩ := h
  exact ⟨rfl, below_drewN (Below.refl _ _) _⟩

/-- what an encoding's slice reads as -/
theorem enc_Rd {w w' : World} {l : List UInt8} {e : Ending} (h : EncPost w l e w') : ∃ p c, e = .returned (.slice p l.length c) ∧ Rd w' p l ∧ l.length ≤ c ∧ c ≤ 9223372036854775807 ∧ Below w.heap.size w w' := by
  obtain ⟨v, rfl, ho, hb⟩ := h
  obtain ⟨p, c, rfl, hR, hn, hc, hm, _⟩ := own_Rd ho
  exact ⟨p, c, rfl, hR, hc, hm, hb⟩

/-- the digest of the examples -/
def d12 : List UInt8 := [1, 2, 0, 0, 0, 0, 0, 0, 0, 0, 0, 0, 0, 0, 0, 0]

/-- a box that holds a digest -/
def Boxd (w : World) (B : Nat) (d : List UInt8) : Prop := ∀ j u, (bvs d)[j]? = some u → w.cell? ((⟨B, 0, none⟩ : Addr).add j) = some u
theorem Boxd_below {w wr : World} {B : Nat} {d : List UInt8} (h : Below w.heap.size w wr) (hR : Boxd w B d) : Boxd wr B d := fun j u hu => Below.cell_of' h (hR j u hu)

theorem boxd_cell {w : World} {B : Nat} (h : Boxd w B d12) (j : Nat) (hj : j < 16) : w.cell? ⟨B, j, none⟩ = some (.int .u8 (byt d12 j)) := by
  have ha : (⟨B, 0, none⟩ : Addr).add j = ⟨B, j, none⟩ := by unfold Addr.add; split <;> simp_all
  rw [← ha]
  apply h
  have hj' : j < d12.length := hj
  simp [bvs, byt, hj']

theorem i64s_ex : i64s [1, -1] := by
  intro i hi
  match i, hi with
  | 0, _ => exact ⟨by decide, by decide⟩
  | 1, _ => exact ⟨by decide, by decide⟩

end Go.Proofs.YtfgkaiaapofepaaDoor
