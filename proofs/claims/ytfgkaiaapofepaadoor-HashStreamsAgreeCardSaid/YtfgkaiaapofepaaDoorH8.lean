/- hash.Sum, masked. -/
import Derived.Test.YtfgkaiaapofepaaDoorH7
import Derived.Test.YtfgkaiaapofepaaDoorW21
namespace Go.Proofs.YtfgkaiaapofepaaDoor
open Go.RowKit

theorem Rd_later {w wr : World} {a : Option Addr} {l : List UInt8} (hR : Rd w a l) (h : Below w.heap.size w wr) : Rd wr a l := by
  rcases hR with rfl | ⟨b, off, rfl, hc⟩
  · exact .inl rfl
  · exact .inr ⟨b, off, rfl, fun i hi => Below.cell_of' h (hc i hi)⟩
theorem StrS_nil : strC st0 (List.replicate 64 0) 0 = strC (strv []) (strb []) ([] : List UInt8).length := rfl
theorem begin_str (w : World) : Calls Tryd.prog 14 #[] w fun e w' => e = .returned (.agg (StrS [])) ∧ Below w.heap.size w w' := begin_any w

theorem Tab.later {w w' : World} (h : Tab w) (hb : Below w.heap.size w w') : Tab w' := h.below hb h.lt
theorem conv_str {w : World} {a : Option Addr} {n c : Nat} {l : List UInt8} (hR : Rd w a l) (hn : n = l.length) : (convert 22 9 (.slice a n c)).run Tryd.prog w = .ok (.string (bs l)) w :=
  run_bytes_string _ 5 _ Tryd.underlying22 Tryd.underlying5 Tryd.underlying9 w a n c l hR hn
theorem store_cells {P : Program} (g : Nat) (w : World) (old : Array Value) (t : TypeId) (vs : List Value) (hg : w.heap[g]? = some (.cells old t (0, 0))) (hl : old.size = vs.length) (h1 : ∀ v ∈ vs, v.oneCell' = true) :
    (storeCells ⟨g, 0, none⟩ vs).run P w = .ok () (w.setRow g vs.toArray) := by
  have := run_storeCells_at P g 0 t vs 0 old w hg (by omega) h1
  rw [this, show 0 + 0 + vs.length = old.toList.length by have := Array.length_toList (xs := old); omega, List.drop_length]
  simp
theorem store_hash {w w3 : World} (hb : Below w.heap.size w w3) (g : Nat) (hg : w.heap[g]? = some (.cells z32 24 (0, 0))) (l : List UInt8) : (storeCells ⟨g, 0, none⟩ (bvs (sha l))).run Tryd.prog w3 = .ok () (w3.setRow g (bvs (sha l)).toArray) :=
  store_cells g w3 z32 24 _ ((hb.block _ (lt_of_block hg)).trans hg) (by rw [z32_size (sha l) (sha_length l), List.size_toArray]) (bvs_one _)
theorem bs_list (l : List UInt8) : (bs l).data.toList = l := rfl
theorem bs_size (l : List UInt8) : (bs l).size = l.length := by simp [bs, ByteArray.size]

/-- a hash and its bytes -/
structure Dig (d : List UInt8) : Prop where
  len : d.length = 32
theorem Dig.row {d : List UInt8} (h : Dig d) : (Tryd.prog.info? 24).map (·.size) = some (bvs d).toArray.size := size_32b d h.len
theorem Dig.z {d : List UInt8} (h : Dig d) : z32.size = (bvs d).toArray.size := z32_size d h.len
theorem Dig.one {d : List UInt8} (_ : Dig d) : (bvs d).toArray.all (·.oneCell') = true := all_oneCell_toArray (bvs_one d)
theorem Dig.store {d : List UInt8} (h : Dig d) {w w3 : World} (hb : Below w.heap.size w w3) (g : Nat) (hg : w.heap[g]? = some (.cells z32 24 (0, 0))) : (storeCells ⟨g, 0, none⟩ (bvs d)).run Tryd.prog w3 = .ok () (w3.setRow g (bvs d).toArray) :=
  store_cells g w3 z32 24 _ ((hb.block _ (lt_of_block hg)).trans hg) (by rw [h.z, List.size_toArray]) (bvs_one _)
theorem sha_dig (l : List UInt8) : ∃ d, sha l = d ∧ Dig d := ⟨_, rfl, ⟨sha_length l⟩⟩

set_option maxRecDepth 100000 in
set_option maxHeartbeats 1600000 in
theorem hsum_any (a : Option Addr) (n c : Nat) (l : List UInt8) (w : World) (hR : Rd w a l) (hn : n = l.length) (hlen : l.length ≤ 1152921504606846976) (hT0 : Tab w) :
    Calls Tryd.prog 11 #[.slice a n c] w fun e w' => e = .returned (.agg (bvs (sha l)).toArray) ∧ Below w.heap.size w w' := by
  have hb0 : Below w.heap.size w (w.alloc (.cells z32 24)).drew := below_drew ((Below.refl _ w).alloc (Nat.le_refl _) _)
  have hcv := conv_str (c := c) (Rd_later hR hb0) hn
  have hT := Lib.hid (hT0.later hb0)
  have hR' := Lib.hid (Rd_later hR hb0)
  have hn' := Lib.hid hn
  have hs0 : Hid (([] : List UInt8).length + (bs l).size ≤ 4611686018427387904) := Lib.hid (by rw [bs_size]; simp; omega)
  obtain ⟨d, hd0, hD⟩ := sha_dig l
  obtain ⟨X0, hX0⟩ : ∃ X0, StrS [] = X0 := ⟨_, rfl⟩
  obtain ⟨X1, hX1⟩ : ∃ X1, StrS l = X1 := ⟨_, rfl⟩
  have hbg : Hid (∀ W : World, Calls Tryd.prog 14 #[] W fun e w' => e = .returned (.agg X0) ∧ Below W.heap.size W w') := Lib.hid (by rw [← hX0]; exact begin_str)
  have had : Hid (∀ W : World, Tab W → Calls Tryd.prog 15 #[.agg X0, .string (bs l)] W fun e w' => e = .returned (.agg X1) ∧ Below W.heap.size W w') := Lib.hid (by rw [← hX0, ← hX1]; exact fun W h => add_any [] (bs l) hs0.out W h)
  have hsu : Hid (∀ W : World, Tab W → Calls Tryd.prog 17 #[.agg X1] W fun e w' => e = .returned (.agg (bvs d).toArray) ∧ Below W.heap.size W w') := Lib.hid (by rw [← hX1, ← hd0]; exact fun W h => ssum_any l hlen W h)
  have hbl : (bvs d).length = 32 := by rw [bvs_length, hD.len]
  have hD' := Lib.hid hD
  rw [hd0]
  clear hT0 hR hn hlen hX0 hX1 hd0 hD
  go_enter Tryd.func11, Tryd.ntmps11
  go_upto_region 1 with (refine wpList_alloc_as rfl 24 rfl z32 zero_32b ?_)
  go_region_with (first | (go_at_call 14; refine (hbg.out _).mono ?_; rintro e w1 ⟨rfl, hb1⟩; have hcv1 := conv_str (c := c) (Rd_later hR'.out hb1) hn'.out; have hT1 := Lib.hid (hT.out.later hb1); have hb1' := Lib.hid hb1; clear hb1) | (go_at_call 15; refine (had.out _ hT1.out).mono ?_; rintro e w2 ⟨rfl, hb2⟩; have hT2 := Lib.hid (hT1.out.later hb2); have hb2' := Lib.hid (hb1'.out.trans (hb2.mono hb1'.out.size)); clear hb2) | (go_at_call 17; refine (hsu.out _ hT2.out).mono ?_; rintro e w3 ⟨rfl, hb3⟩; have hb3' := Lib.hid (hb2'.out.trans (hb3.mono hb2'.out.size)); have hst := hD'.out.store hb3 w.heap.size ((hb2'.out.block _ (by simp)).trans (heap_alloc_new w _)); clear hb3))
  all_goals
    have hrow := setRow_heap w3 w.heap.size z32 (bvs d).toArray 24 (0, 0) ((hb3'.out.block _ (by simp)).trans (heap_alloc_new w _))
    have hbe := hb0.trans (hb3'.out.mono hb0.size)
    go_wp2_with fail
    exact bodyPost_ret (v := .agg (bvs d).toArray) (results_cell_row rfl _ _ w.heap.size 24 _ (0, 0) _ rfl hrow Tryd.underlying24 rfl hD'.out.row) rfl ⟨rfl, below_setRow hbe (Nat.le_refl _) _⟩
end Go.Proofs.YtfgkaiaapofepaaDoor
