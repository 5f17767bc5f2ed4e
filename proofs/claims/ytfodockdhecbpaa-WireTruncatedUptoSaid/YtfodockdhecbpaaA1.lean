/- Arguments that the program of the guide does not serve: lists of strings and lists of digests; what the bound of the second form gives. -/
import Derived.Test.YtfodockdhecbpaaRows
import Derived.Test.YtfodockdhecbpaaV1
import Derived.OpenShut
import Derived.SliceStrings
import Derived.Deep.Slices
namespace Go.Proofs.Ytfodockdhecbpaa
open Go.RowKit Go.ChangeShapes  Go.Deep 

section
variable {H : Type} {enc : TypeId × Value → H} {w : World} {base : Nat} {spare : Nat → Bool} {held : Bool}

theorem bulk_pos (d : DataW H) : 1 ≤ Rows.uptoBulk d := by
  cases d with
  | lit l => cases l <;> simp [Rows.uptoBulk]
  | nil => simp [Rows.uptoBulk]
  | ptr d => simp [Rows.uptoBulk]
  | slice elems spare => simp [Rows.uptoBulk]
  | agg parts => simp [Rows.uptoBulk]
  | iface t d => simp [Rows.uptoBulk]
  | map entries => simp [Rows.uptoBulk]
  | held h => simp [Rows.uptoBulk]
theorem bulk_length (l : List (DataW H)) : l.length ≤ Rows.uptoBulkAll l := by
  induction l with
  | nil => simp [Rows.uptoBulkAll]
  | cons x r ih => have := bulk_pos x; simp only [Rows.uptoBulkAll, List.length_cons]; omega
theorem bulk_slice (elems spare : List (DataW H)) : elems.length + spare.length + 1 ≤ Rows.uptoBulk (.slice elems spare) := by
  have h1 := bulk_length elems
  have h2 := bulk_length spare
  simp only [Rows.uptoBulk]
  omega
theorem bulk_strs (l : List ByteArray) : Rows.uptoBulkAll (strs l : List (DataW H)) = sums l + l.length := by
  induction l with
  | nil => simp [strs, Rows.uptoBulkAll, sums]
  | cons s r ih =>
    have e : sums (s :: r) = s.size + sums r := by simp [sums]
    have e2 : (strs (s :: r) : List (DataW H)) = .lit (.string s.data.toList) :: strs r := rfl
    rw [e, e2, Rows.uptoBulkAll, ih]
    simp [Rows.uptoBulk]
    omega

/-- a list of strings that came in -/
theorem arg_Rds {a : Option Addr} {len cap fuel : Nat} {x : DataW H × List MemPlace} (h : DataW.trod enc Try.prog w base spare held fuel 23 (Value.slice a len cap).cells.toList = some x) :
    ∃ l : List ByteArray, Rds w a l ∧ len = l.length ∧ len ≤ cap ∧ cap ≤ 9223372036854775807 ∧ sums l + len ≤ Rows.uptoBulk x.1 := by
  rcases open_strings Try.underlying23 Try.underlying9 (by kernel_rfl) h with ⟨hcs, rfl⟩ | ⟨q, l, c, ss, hcs, _, hl, hm, hz, rfl, hcell, _⟩
  · simp [Value.cells] at hcs
    obtain ⟨rfl, rfl, rfl⟩ := hcs
    exact ⟨[], .inl rfl, rfl, by omega, by omega, by simp [sums]⟩
  · simp [Value.cells] at hcs
    obtain ⟨rfl, rfl, rfl⟩ := hcs
    have hsl : len ≤ ss.length := by rw [hz]; split <;> omega
    refine ⟨ss.take len, ?_, by simp; omega, hl, by unfold maxLen at hm; omega, ?_⟩
    · rcases Nat.eq_zero_or_pos len with h0 | h0
      · subst h0; exact .inl (by simp)
      · have hx := addr_plain (hcell 0 (by omega))
        refine .inr ⟨q.block, q.off, by rw [← hx], fun i hi => ?_⟩
        have hi' : i < len := by simp at hi; omega
        have hadd : q.add i = ⟨q.block, q.off + i, none⟩ := (congrArg (fun y : Addr => y.add i) hx).trans (add_plain _ _ _)
        rw [← hadd, hcell i (by omega)]
        simp [sat, List.getD_eq_getElem?_getD, List.getElem?_take, hi']
    · have h1 := bulk_strs (H := H) (ss.take len)
      show _ ≤ Rows.uptoBulk (DataW.slice (strs (ss.take len)) (strs (ss.drop len)))
      simp only [Rows.uptoBulk]
      have : (ss.take len).length = len := by simp; omega
      omega

/-- one digest's cells -/
theorem arg_dig {fuel : Nat} {q : Addr} {cs : List Value} {x : DataW H × List MemPlace} (hc : w.cells? base q (Try.prog.cellsOf 57) = some cs) (h : DataW.trod enc Try.prog w base spare held fuel 57 cs = some x) :
    ∃ d : List UInt8, d.length = 16 ∧ ∀ j u, (bvs d)[j]? = some u → w.cell? (q.add j) = some u := by
  have h16 : Try.prog.cellsOf 57 = 16 := by kernel_rfl
  have h1 : Try.prog.cellsOf 5 = 1 := by kernel_rfl
  obtain ⟨_, hlen, hcell⟩ := World.cells?_some hc
  obtain ⟨xs, m, rfl, rfl, hl, hxl, hx⟩ := DataW.trod_array Try.underlying57 h
  rw [h16] at hlen hcell
  have each : ∀ i, i < 16 → ∃ n : Int, cs[i]? = some (.int .u8 n) ∧ 0 ≤ n ∧ n < 256 := by
    intro i hi
    have hy : xs[i]? = some (xs[i]'(by omega)) := List.getElem?_eq_getElem (by omega)
    have := hx i hi
    rw [hy, h1, Nat.mul_one] at this
    obtain ⟨n, he, _, hw⟩ := DataW.trod_int Try.underlying5 this
    refine ⟨n, ?_, wf_u8 hw⟩
    have hi2 : i < cs.length := by omega
    rw [List.drop_eq_getElem_cons hi2] at he
    simp only [List.take_succ_cons, List.take_zero, List.cons.injEq, and_true] at he
    rw [List.getElem?_eq_getElem hi2, he]
  refine ⟨cs.map fun v => match v with | .int _ n => UInt8.ofNat n.toNat | _ => 0, by simp [hlen], fun j u hu => ?_⟩
  have hj : j < 16 := by
    rcases Nat.lt_or_ge j 16 with h | h
    · exact h
    · rw [List.getElem?_eq_none (by simp [bvs, hlen]; exact h)] at hu; cases hu
  obtain ⟨n, hn, n0, n1⟩ := each j hj
  rw [hcell j hj, hn, ← hu]
  simp only [bvs, List.getElem?_map, hn, Option.map_some]
  rw [UInt8.toNat_ofNat_of_lt' (by show _ < 256; omega)]
  congr 2
  omega

/-- a list of digests that came in -/
theorem arg_Rdd {a : Option Addr} {len cap fuel : Nat} {x : DataW H × List MemPlace} (h : DataW.trod enc Try.prog w base spare held fuel 24 (Value.slice a len cap).cells.toList = some x) :
    ∃ l : List (List UInt8), Rdd w a l ∧ len = l.length ∧ len ≤ cap ∧ cap ≤ 9223372036854775807 ∧ len ≤ Rows.uptoBulk x.1 ∧ (∀ d ∈ l, d.length = 16) := by
  rcases open_slice Try.underlying24 h with ⟨hcs, rfl⟩ | ⟨q, l, c, m, n, D, Pl, hcs, _, hl, hm, hz, rfl, hx⟩
  · simp [Value.cells] at hcs
    obtain ⟨rfl, rfl, rfl⟩ := hcs
    exact ⟨[], ⟨fun i hi => by simp at hi, .inl rfl⟩, rfl, by omega, by omega, by omega, fun d hd => by cases hd⟩
  · simp [Value.cells] at hcs
    obtain ⟨rfl, rfl, rfl⟩ := hcs
    have hsl : len ≤ m := by rw [hz]; split <;> omega
    have h16 : Try.prog.cellsOf 57 = 16 := by kernel_rfl
    obtain ⟨V, hV⟩ := choose_lt (α := List UInt8) (n := len) (p := fun i d => d.length = 16 ∧ ∀ j u, (bvs d)[j]? = some u → w.cell? ((q.add (i * 16)).add j) = some u) (fun i hi => by
      obtain ⟨cs', e1, e2⟩ := hx i (by omega)
      have := arg_dig e1 e2
      rwa [h16] at this)
    have hdat : ∀ i, i < len → dat ((List.range len).map V) i = V i := fun i hi => by simp [dat, hi]
    have hall : ∀ d ∈ (List.range len).map V, d.length = 16 := fun d hd => by
      obtain ⟨i, hi, rfl⟩ := List.mem_map.1 hd
      exact (hV i (List.mem_range.1 hi)).1
    refine ⟨(List.range len).map V, ⟨fun i hi => ?_, ?_⟩, by simp, hl, by unfold maxLen at hm; omega, ?_, hall⟩
    · have hi' : i < len := by simpa using hi
      rw [hdat i hi']; exact (hV i hi').1
    · rcases Nat.eq_zero_or_pos len with h0 | h0
      · subst h0; exact .inl (by simp)
      · have hq : q = ⟨q.block, q.off, none⟩ := by
          obtain ⟨u0, hu0⟩ : ∃ u, (bvs (V 0))[0]? = some u := ⟨_, List.getElem?_eq_getElem (by rw [bvs_length, (hV 0 h0).1]; omega)⟩
          have h2 := (hV 0 h0).2 0 u0 hu0
          rw [Nat.zero_mul, show q.add 0 = q from by simp [Addr.add]] at h2
          exact addr_plain h2
        refine .inr ⟨q.block, q.off, by rw [← hq], fun i j u hi hu => ?_⟩
        have hi' : i < len := by simpa using hi
        rw [hdat i hi'] at hu
        have h2 := (hV i hi').2 j u hu
        have hadd : (q.add (i * 16)).add j = ⟨q.block, q.off + i * 16 + j, none⟩ := by
          have e1 : q.add (i * 16) = ⟨q.block, q.off + i * 16, none⟩ := (congrArg (fun y : Addr => y.add (i * 16)) hq).trans (add_plain _ _ _)
          rw [e1, add_plain]
        rwa [hadd] at h2
    · have := bulk_slice ((List.range len).map D) ((List.range (m - len)).map fun j => D (len + j))
      simp only [List.length_map, List.length_range] at this
      show len ≤ Rows.uptoBulk (DataW.slice _ _)
      omega

theorem encDs_le (d : List (List UInt8)) (h : ∀ x ∈ d, x.length = 16) : (encDs d).length ≤ 9 + 16 * d.length := by
  have h1 := enc_le (d.length : Int)
  have h2 : (d.flatMap id).length = 16 * d.length := by
    clear h1
    induction d with
    | nil => rfl
    | cons x r ih =>
      have h3 := h x (by simp)
      have h4 := ih (fun y hy => h y (by simp [hy]))
      rw [List.flatMap_cons, List.length_append, List.length_cons, h4, id, h3]
      omega
  unfold encDs
  rw [List.length_append]
  omega
end

end Go.Proofs.Ytfodockdhecbpaa
