/- Slices that a call makes read as lists. -/
import Derived.Test.YtfgkaiaapofepaaDoorW20
namespace Go.Proofs.YtfgkaiaapofepaaDoor
open Go.RowKit

theorem cell_new (w : World) (arr : Array Value) (T : TypeId) (i : Nat) : (w.alloc (.cells arr T)).cell? ⟨w.heap.size, i, none⟩ = arr[i]? := by
  simp only [World.cell?, heap_alloc_new]
  simp

theorem Rd_new (w : World) (l : List UInt8) (arr : Array Value) (T : TypeId) (X : Nat) (hX : X = w.heap.size) (h : arr = (bvs l).toArray) : Rd (w.alloc (.cells arr T)) (some ⟨X, 0, none⟩) l := by
  subst hX h
  refine .inr ⟨_, _, rfl, fun i hi => ?_⟩
  rw [Nat.zero_add, cell_new]
  simp [bvs, byt, hi]

theorem Rdi_new (w : World) (l : List Int) (arr : Array Value) (T : TypeId) (X : Nat) (hX : X = w.heap.size) (h : arr = (l.map (Value.int .i64)).toArray) : Rdi (w.alloc (.cells arr T)) (some ⟨X, 0, none⟩) l := by
  subst hX h
  refine .inr ⟨_, _, rfl, fun i hi => ?_⟩
  rw [Nat.zero_add, cell_new]
  simp [iat, hi]

theorem Rds_new (w : World) (l : List ByteArray) (arr : Array Value) (T : TypeId) (X : Nat) (hX : X = w.heap.size) (h : arr = (l.map Value.string).toArray) : Rds (w.alloc (.cells arr T)) (some ⟨X, 0, none⟩) l := by
  subst hX h
  refine .inr ⟨_, _, rfl, fun i hi => ?_⟩
  rw [Nat.zero_add, cell_new]
  simp [sat, hi]

/-- the cells of digests, one after the other -/
theorem dig_index : ∀ (l : List (List UInt8)), (∀ d ∈ l, d.length = 16) → ∀ (i j : Nat) (u : Value), i < l.length → (bvs (dat l i))[j]? = some u → (bvs (l.flatMap id))[i * 16 + j]? = some u
  | [], _, i, j, u, hi, _ => by simp at hi
  | d :: l, h, 0, j, u, _, hu => by
    have hu' : (bvs d)[j]? = some u := hu
    have hj : j < (bvs d).length := by
      rcases Nat.lt_or_ge j (bvs d).length with h1 | h1
      · exact h1
      · rw [List.getElem?_eq_none h1] at hu'; cases hu'
    rw [Nat.zero_mul, Nat.zero_add, List.flatMap_cons, bvs_append, List.getElem?_append_left (by simpa using hj)]
    exact hu'
  | d :: l, h, i + 1, j, u, hi, hu => by
    have hd : (bvs (id d)).length = 16 := by rw [bvs_length]; exact h d (by simp)
    rw [List.flatMap_cons, bvs_append, List.getElem?_append_right (by rw [hd]; omega), hd, show (i + 1) * 16 + j - 16 = i * 16 + j from by omega]
    exact dig_index l (fun d hd => h d (by simp [hd])) i j u (by simpa using hi) hu

theorem dat_mem (l : List (List UInt8)) (i : Nat) (hi : i < l.length) : dat l i ∈ l := by
  unfold dat
  rw [List.getD_eq_getElem?_getD, List.getElem?_eq_getElem hi]
  exact List.getElem_mem hi

theorem Rdd_new (w : World) (l : List (List UInt8)) (hl : ∀ d ∈ l, d.length = 16) (arr : Array Value) (T : TypeId) (X : Nat) (hX : X = w.heap.size) (h : arr = (bvs (l.flatMap id)).toArray) : Rdd (w.alloc (.cells arr T)) (some ⟨X, 0, none⟩) l := by
  subst hX h
  refine ⟨fun i hi => hl _ (dat_mem l i hi), .inr ⟨_, _, rfl, fun i j u hi hu => ?_⟩⟩
  rw [Nat.zero_add, cell_new]
  have := dig_index l hl i j u hi hu
  simpa using this

section
variable {w : World} {base : Nat} {v : Value} {n : Nat}
theorem own_cells {e : TypeId} {size : Nat} {xs : List Value} (h : w.ownsRow base e size v n xs) : xs = [] ∧ v = .slice none 0 0 ∧ n = 0 ∨ ∃ g c, v = .slice (some ⟨g, 0, none⟩) n c ∧ n ≤ c ∧ c ≤ maxLen ∧ base ≤ g ∧ ∀ i u, xs[i]? = some u → w.cell? ⟨g, i, none⟩ = some u := by
  rcases h.2 with ⟨rfl, rfl⟩ | ⟨g, cap, cur, rfl, hg, hh, hc, hm, hs, ht⟩
  · left
    refine ⟨List.eq_nil_of_length_eq_zero (by rw [h.1]; simp), rfl, rfl⟩
  · right
    refine ⟨g, cap, rfl, hc, hm, hg, fun i u hu => ?_⟩
    have := h.cells (g := g) rfl i u hu
    have ha : (⟨g, 0, none⟩ : Addr).add i = ⟨g, i, none⟩ := by unfold Addr.add; split <;> simp_all
    rwa [ha] at this

/-- an owned row of bytes, as a slice that reads as the bytes -/
theorem own_Rd {l : List UInt8} (h : w.ownsRow base 5 1 v n (bvs l)) : ∃ p c, v = .slice p n c ∧ Rd w p l ∧ n = l.length ∧ n ≤ c ∧ c ≤ 9223372036854775807 ∧ ∀ q, p = some q → base ≤ q.block := by
  have hn : n = l.length := by have := h.1; rw [bvs_length] at this; omega
  rcases own_cells h with ⟨h1, rfl, rfl⟩ | ⟨g, c, rfl, hc, hm, hg, hcell⟩
  · exact ⟨none, 0, rfl, .inl (by simpa [bvs] using h1), hn, Nat.le_refl _, by omega, fun q hq => by cases hq⟩
  · refine ⟨_, c, rfl, .inr ⟨g, 0, rfl, fun i hi => ?_⟩, hn, hc, by unfold maxLen at hm; omega, fun q hq => by cases hq; exact hg⟩
    rw [Nat.zero_add]
    apply hcell
    simp [bvs, byt, hi]

theorem own_Rdi {l : List Int} (h : w.ownsRow base 3 1 v n (l.map (Value.int .i64))) : ∃ p c, v = .slice p n c ∧ Rdi w p l ∧ n = l.length ∧ n ≤ c ∧ c ≤ 9223372036854775807 := by
  have hn : n = l.length := by have := h.1; rw [List.length_map] at this; omega
  rcases own_cells h with ⟨h1, rfl, rfl⟩ | ⟨g, c, rfl, hc, hm, hg, hcell⟩
  · exact ⟨none, 0, rfl, .inl (by simpa using h1), hn, Nat.le_refl _, by omega⟩
  · refine ⟨_, c, rfl, .inr ⟨g, 0, rfl, fun i hi => ?_⟩, hn, hc, by unfold maxLen at hm; omega⟩
    rw [Nat.zero_add]
    apply hcell
    simp [iat, hi]

theorem own_Rds {l : List (List UInt8)} (h : w.ownsRow base 9 1 v n (l.map fun s => .string (bs s))) : ∃ p c, v = .slice p n c ∧ Rds w p (l.map bs) ∧ n = l.length ∧ n ≤ c ∧ c ≤ 9223372036854775807 := by
  have hn : n = l.length := by have := h.1; rw [List.length_map] at this; omega
  rcases own_cells h with ⟨h1, rfl, rfl⟩ | ⟨g, c, rfl, hc, hm, hg, hcell⟩
  · exact ⟨none, 0, rfl, .inl (by simpa using h1), hn, Nat.le_refl _, by omega⟩
  · refine ⟨_, c, rfl, .inr ⟨g, 0, rfl, fun i hi => ?_⟩, hn, hc, by unfold maxLen at hm; omega⟩
    rw [Nat.zero_add]
    apply hcell
    have hi' : i < l.length := by simpa using hi
    simp [sat, hi']

theorem own_Rdd {l : List (List UInt8)} (hl : ∀ d ∈ l, d.length = 16) (h : w.ownsRow base 44 16 v n (bvs (l.flatMap id))) (hn : n = l.length) : ∃ p c, v = .slice p n c ∧ Rdd w p l ∧ n ≤ c ∧ c ≤ 9223372036854775807 := by
  rcases own_cells h with ⟨h1, rfl, rfl⟩ | ⟨g, c, rfl, hc, hm, hg, hcell⟩
  · have : l = [] := List.eq_nil_of_length_eq_zero hn.symm
    subst this
    exact ⟨none, 0, rfl, ⟨fun i hi => by simp at hi, .inl rfl⟩, Nat.le_refl _, by omega⟩
  · refine ⟨_, c, rfl, ⟨fun i hi => hl _ (dat_mem l i hi), .inr ⟨g, 0, rfl, fun i j u hi hu => ?_⟩⟩, hc, by unfold maxLen at hm; omega⟩
    rw [Nat.zero_add]
    exact hcell _ _ (dig_index l hl i j u hi hu)
end

theorem Rdi_below {w wr : World} {a : Option Addr} {l : List Int} (h : Below w.heap.size w wr) (hR : Rdi w a l) : Rdi wr a l := by
  rcases hR with rfl | ⟨b, off, rfl, hc⟩
  · exact .inl rfl
  · exact .inr ⟨b, off, rfl, fun i hi => Below.cell_of' h (hc i hi)⟩
theorem Rds_below {w wr : World} {a : Option Addr} {l : List ByteArray} (h : Below w.heap.size w wr) (hR : Rds w a l) : Rds wr a l := by
  rcases hR with rfl | ⟨b, off, rfl, hc⟩
  · exact .inl rfl
  · exact .inr ⟨b, off, rfl, fun i hi => Below.cell_of' h (hc i hi)⟩
theorem Rdd_below {w wr : World} {a : Option Addr} {l : List (List UInt8)} (h : Below w.heap.size w wr) (hR : Rdd w a l) : Rdd wr a l := by
  obtain ⟨h1, rfl | ⟨b, off, rfl, hc⟩⟩ := hR
  · exact ⟨h1, .inl rfl⟩
  · exact ⟨h1, .inr ⟨b, off, rfl, fun i j u hi hu => Below.cell_of' h (hc i j u hi hu)⟩⟩

end Go.Proofs.YtfgkaiaapofepaaDoor
