/- wire.GetDigests: getDigest, the closure and the loop. -/
import Derived.Test.YtfodockdhecbpaaW8
import Derived.Test.YtfodockdhecbpaaW9
import Derived.Deep.DeepCutAuto
import Derived.Deep.RegionHeld3
import Derived.Deep.RegionWith
namespace Go.Proofs.Ytfodockdhecbpaa
open Go.RowKit

/-- reading a digest -/
def gd (l : List UInt8) : List UInt8 × Nat × Int := (l.take 16, 16, 0)

set_option maxRecDepth 100000 in
set_option maxHeartbeats 400000 in
theorem getDigest_any (b off n c : Nat) (d : List UInt8) (w : World) (hd : Hid (d.length = 16)) (hc : ∀ j u, (bvs d)[j]? = some u → w.cell? ((⟨b, off, none⟩ : Addr).add j) = some u) (hn : 16 ≤ n) (hnc : n ≤ c) (hmax : c ≤ 9223372036854775807 ∧ n ≤ 4611686018427387904) :
    Calls Try.prog 51 #[.slice (some ⟨b, off, none⟩) n c] w fun e w' => e = .returned (.tuple #[.agg (bvs d).toArray, .int .i64 16, .int .i64 0]) ∧ Below w.heap.size w w' := by
  have hst := store_digest w d hd.out
  simp only [zero16] at hst
  have hbl : (bvs d).length = 16 := by rw [bvs_length, hd.out]
  have hsz := Lib.hid (show (Try.prog.info? 57).map (·.size) = some (bvs d).length by rw [hbl]; kernel_rfl)
  have hc' := Lib.hid (show ∀ o j u, (bvs d)[j]? = some u → (w.alloc o).cell? ((⟨b, off, none⟩ : Addr).add j) = some u from fun o j u hu => Below.cell_of' ((Below.refl _ _).alloc (Nat.le_refl _) _) (hc j u hu))
  have hc0 : ¬ c = 0 := by omega
  clear hc
  have hap : ∀ W, (Instr.arrayAt 57 (.slice (some ⟨b, off, none⟩) 16 c)).run Try.prog W = .ok (.pointer (some ⟨b, off, none⟩)) W := fun W => run_arrayAt _ _ 5 16 _ _ _ Try.underlying57 (Nat.le_refl _)
  have hbx := Lib.hid (box_cells w d)
  have hld := Lib.hid (run_loadVar_cells (P := Try.prog) _ ⟨w.heap.size, 0, none⟩ 57 (bvs d) _ hbx.out Try.underlying57 rfl hsz.out)
  go_enter Try.func51, Try.ntmps51
  go_wp2_with (refine wpList_load_cells rfl 57 _ rfl ⟨b, off, none⟩ rfl (bvs d) _ (hc'.out _) Try.underlying57 rfl hsz.out ?_)
  refine bodyPost_ret (v := .tuple #[.agg (bvs d).toArray, .int .i64 16, .int .i64 0]) ?_ rfl ⟨rfl, (Below.refl _ _).alloc (Nat.le_refl _) _⟩
  have h' := hld.out
  simp [results, Try.results51, asAddr, h']

/-- a digest is stored in a box that was made before a call -/
theorem store_later (d : List UInt8) (h : d.length = 16) {W W0 w' : World} (h0 : W0.heap[W.heap.size]? = some (.cells zero16 57 (0, 0))) (hb : Below W0.heap.size W0 w') :
    (storeCells ⟨W.heap.size, 0, none⟩ (bvs d)).run Try.prog w' = .ok () (w'.setRow W.heap.size (bvs d).toArray) := by
  have hl : (bvs d).length = 16 := by rw [bvs_length, h]
  have hg : w'.heap[W.heap.size]? = some (.cells zero16 57 (0, 0)) := (hb.block W.heap.size (lt_of_block h0)).trans h0
  have := run_storeCells_from (P := Try.prog) W.heap.size 57 (bvs d) 0 zero16 w' hg (by rw [hl]; rfl) (bvs_one d)
  simpa [zero16] using this

/-- what the closure's first statement leaves: the digest in a box of its own -/
def CutDig (wr : World) (d : List UInt8) (s5 s6 s7 : Value) (wx : World) : Prop :=
  ∃ g : Nat, s5 = .pointer (some ⟨g, 0, none⟩) ∧ wx.heap[g]? = some (.cells (bvs d).toArray 57 (0, 0)) ∧ s6 = .int .i64 16 ∧ s7 = .int .i64 0 ∧ Below wr.heap.size wr wx

theorem cutA {wr w' : World} {d : List UInt8} (h : Below wr.drew.heap.size wr.drew w') : CutDig wr d (.pointer (some ⟨w'.heap.size, 0, none⟩)) (.int .i64 16) (.int .i64 0) (w'.alloc (.cells (bvs d).toArray 57)) := by
  have hb : Below wr.heap.size wr w' := ⟨h.os, h.tape, h.output, h.size, h.block⟩
  exact ⟨_, rfl, heap_alloc_new _ _, rfl, rfl, hb.alloc hb.size _⟩

theorem setRow_below {B : Nat} {a w : World} (h : Below B a w) {g : Nat} (hg : B ≤ g) (cs : Array Value) : Below B a (w.setRow g cs) :=
  h.trans ⟨rfl, rfl, rfl, by simp, fun k hk => setRow_other w g k cs (by omega)⟩

theorem cutB {wr W0 w' : World} {d : List UInt8} (hd : d.length = 16) (h0 : W0 = (wr.drew.alloc (.cells zero16 57))) (h : Below W0.heap.size W0 w') : CutDig wr d (.pointer (some ⟨wr.heap.size, 0, none⟩)) (.int .i64 16) (.int .i64 0) (w'.setRow wr.heap.size (bvs d).toArray) := by
  subst h0
  have h1 : (wr.drew.alloc (.cells zero16 57)).heap[wr.heap.size]? = some (.cells zero16 57 (0, 0)) := heap_alloc_new wr.drew _
  have hb0 : Below wr.heap.size wr (wr.drew.alloc (.cells zero16 57)) := ((Below.refl _ wr).drew).alloc (Nat.le_refl _) _
  have hb : Below wr.heap.size wr w' := hb0.trans (h.mono hb0.size)
  have hg : w'.heap[wr.heap.size]? = some (.cells zero16 57 (0, 0)) := (h.block _ (lt_of_block h1)).trans h1
  refine ⟨_, rfl, ?_, rfl, rfl, setRow_below hb (Nat.le_refl _) _⟩
  exact setRow_heap w' wr.heap.size _ _ _ _ hg

theorem GInv.later {S L : Nat} {w wr wx : World} {bv fv : Value} {tf tl te : TypeId} {z u m : Nat} {xs : List Value} (h : GInv S L w wr bv fv tf tl te z u m xs) (hb : Below wr.heap.size wr wx) : GInv S L w wx bv fv tf tl te z u m xs := by
  have hs := h.size
  have hL := h.hL
  obtain ⟨v, hv, ho⟩ := h.l
  refine ⟨h.below.trans (hb.mono (by omega)), Nat.lt_of_lt_of_le hs hb.size, hL, ?_, ?_, ?_, v, ?_, ho.kept (below_grown hb none) (by cases v.ownBlock <;> simp)⟩
  · rw [hb.block _ (by omega)]; exact h.b
  · rw [hb.block _ (by omega)]; exact h.f
  · rw [hb.block _ (by omega)]; exact h.u
  · rw [hb.block _ (by omega)]; exact hv

theorem fold_set : ∀ (vs : List Value) (k : Nat) (arr : Array Value), arr.size = k + vs.length →
    (vs.zipIdx k).foldl (fun cs x => cs.setIfInBounds x.snd x.fst) arr = (arr.toList.take k ++ vs).toArray
  | [], k, arr, h => by
    simp only [List.zipIdx_nil, List.foldl_nil, List.append_nil]
    rw [List.take_of_length_le (by simp at h ⊢; omega)]
  | v :: vs, k, arr, h => by
    simp only [List.length_cons] at h
    rw [List.zipIdx_cons, List.foldl_cons, fold_set vs (k + 1) _ (by simp; omega)]
    congr 1
    rw [Array.toList_setIfInBounds, List.take_succ_eq_append_getElem (by simp; omega), List.take_set_of_le (by omega)]
    simp

theorem build_digest (d : List UInt8) (h : d.length = 16) : List.foldl (fun cs x => cs.setIfInBounds x.snd x.fst) (#[.int .u8 0, .int .u8 0, .int .u8 0, .int .u8 0, .int .u8 0, .int .u8 0, .int .u8 0, .int .u8 0, .int .u8 0, .int .u8 0, .int .u8 0, .int .u8 0, .int .u8 0, .int .u8 0, .int .u8 0, .int .u8 0] : Array Value) (bvs d).zipIdx = (bvs d).toArray := by
  have := fold_set (bvs d) 0 zero16 (by rw [bvs_length, h]; rfl)
  simpa [zero16] using this

theorem info_dig : (Try.prog.info? 57).map (fun i => (i.zero, i.size, i.bytes)) = some (some (.agg zero16), 16, 16) := by kernel_rfl

theorem grown_alloc0 {w w1 : World} {o : Obj} {row : Option Nat} (h : (w.alloc o).grownBy w1 row) : w.grownBy w1 row := grown_alloc (n := 0) (w := w) h

end Go.Proofs.Ytfodockdhecbpaa
