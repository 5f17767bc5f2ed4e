/- sherdref01.Same, SameInts, SameTexts, SameDigests: equality of lists. -/
import Derived.Test.YtfgkaiaapofepaaDoorW8
import Derived.ChangeKeysEq
namespace Go.Proofs.YtfgkaiaapofepaaDoor
open Go.RowKit

/-- two lists are equal up to k -/
def eqTo {α : Type} (l r : List α) (k : Nat) : Prop := l.take k = r.take k

theorem eq_of_take {α : Type} {l r : List α} {k : Nat} (h : l.take k = r.take k) (hk : k < l.length) (hk2 : k < r.length) (d : α) (he : l.getD k d = r.getD k d) : l.take (k + 1) = r.take (k + 1) := by
  rw [List.take_succ_eq_append_getElem hk, List.take_succ_eq_append_getElem hk2, h]
  simp [hk, hk2] at he
  rw [he]

theorem byt_inj {l r : List UInt8} {k : Nat} (h : byt l k = byt r k) : l.getD k 0 = r.getD k 0 := by
  unfold byt at h
  exact UInt8.toNat_inj.1 (by omega)

theorem Rd_at {w : World} {a : Option Addr} {l : List UInt8} (h : Rd w a l) (k : Nat) (hk : k < l.length) : ∃ b off, a = some ⟨b, off, none⟩ ∧ w.cell? ⟨b, off + k, none⟩ = some (.int .u8 (byt l k)) := by
  rcases h with rfl | ⟨b, off, rfl, hc⟩
  · simp at hk
  · exact ⟨b, off, rfl, hc k hk⟩

/-- a callee that only reads: its value, and some draws -/
def QPost (w : World) (v : Value) (e : Ending) (w' : World) : Prop := e = .returned v ∧ ∃ q, w' = w.drewN q

theorem drewN_0 (w : World) : w = w.drewN 0 := rfl

/-- the sixteen cells of a digest -/
theorem dig_cells {w : World} {b o : Nat} {d : List UInt8} (h16 : d.length = 16) (hc : ∀ j u, (bvs d)[j]? = some u → w.cell? ((⟨b, o, none⟩ : Addr).add j) = some u) (j : Nat) (hj : j < 16) : w.cell? ⟨b, o + j, none⟩ = some (.int .u8 (byt d j)) := by
  have ha : (⟨b, o, none⟩ : Addr).add j = ⟨b, o + j, none⟩ := by unfold Addr.add; split <;> simp_all
  rw [← ha]
  apply hc
  have hj' : j < d.length := by omega
  simp [bvs, byt, hj']

theorem part_u8 (W : World) (xs : Array Value) (j : Nat) (x : Int) (h : xs[j]? = some (.int .u8 x)) : (part 5 xs (j * 1)).run Tryd.prog W = .ok (.int .u8 x) W := by
  have hs : ∀ W, (sizeOf 5).run Tryd.prog W = .ok 1 W := fun W => by kernel_rfl
  have ha : ∀ W, (isAgg 5).run Tryd.prog W = .ok false W := fun W => by kernel_rfl
  simp [part, Sem.run_bind, hs, ha, h]

theorem items_same (d : Nat) (xs : Array Value) (W : World) : ∀ is : List Nat, (∀ j ∈ is, ∃ x : Int, xs[j]? = some (.int .u8 x)) → (Op.eqItems (d + 1) 5 1 xs xs is).run Tryd.prog W = .ok true W
  | [], _ => by simp [Op.eqItems]
  | j :: is, h => by
    obtain ⟨x, hx⟩ := h j (by simp)
    have hp := part_u8 W xs j x hx
    have he := run_equalIn_int (P := Tryd.prog) W d 5 .u8 .u8 x x Tryd.underlying5
    simp only [Op.eqItems, Sem.run_bind, hp, Result.andThen_ok, he]
    simp [items_same d xs W is (fun j hj => h j (by simp [hj]))]

set_option maxRecDepth 100000 in
theorem eq16 (x0 x1 x2 x3 x4 x5 x6 x7 x8 x9 x10 x11 x12 x13 x14 x15 : Int) (W : World) : (Op.equalIn 10000 44 (.agg #[.int .u8 x0, .int .u8 x1, .int .u8 x2, .int .u8 x3, .int .u8 x4, .int .u8 x5, .int .u8 x6, .int .u8 x7, .int .u8 x8, .int .u8 x9, .int .u8 x10, .int .u8 x11, .int .u8 x12, .int .u8 x13, .int .u8 x14, .int .u8 x15]) (.agg #[.int .u8 x0, .int .u8 x1, .int .u8 x2, .int .u8 x3, .int .u8 x4, .int .u8 x5, .int .u8 x6, .int .u8 x7, .int .u8 x8, .int .u8 x9, .int .u8 x10, .int .u8 x11, .int .u8 x12, .int .u8 x13, .int .u8 x14, .int .u8 x15])).run Tryd.prog W = .ok true W := by
  obtain ⟨i0, hi, _, _, _⟩ := info_parts info_u8
  have hc : Tryd.prog.cellsOf 5 = 1 := by kernel_rfl
  rw [run_equalIn_array W 9999 _ _ Tryd.underlying44 hi, hc]
  refine items_same 9998 _ W _ fun j hj => ?_
  have hj' : j < 16 := by simpa using hj
  have h16 : j = 0 ∨ j = 1 ∨ j = 2 ∨ j = 3 ∨ j = 4 ∨ j = 5 ∨ j = 6 ∨ j = 7 ∨ j = 8 ∨ j = 9 ∨ j = 10 ∨ j = 11 ∨ j = 12 ∨ j = 13 ∨ j = 14 ∨ j = 15 := by omega
  rcases h16 with rfl | rfl | rfl | rfl | rfl | rfl | rfl | rfl | rfl | rfl | rfl | rfl | rfl | rfl | rfl | rfl <;> exact ⟨_, rfl⟩

end Go.Proofs.YtfgkaiaapofepaaDoor
