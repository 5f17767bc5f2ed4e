/- The reference: Of. -/
import Derived.Test.YtfgkaiaapofepaaDoorG12
namespace Go.Proofs.YtfgkaiaapofepaaDoor
open Go.RowKit

theorem inpK_few (t : Int) (l : List ByteArray) (h : fewP l) : ∀ k, k ≤ l.length → (inpK t l k).length ≤ 1 + k * 409
  | 0, _ => by simp [inpK]
  | k + 1, hk => by
    rw [inpK_step t l k (by omega), List.length_append]
    have h1 := inpK_few t l h k (by omega)
    have h2 := h.2 k (by omega)
    have h3 : (encS (sat l k)).length ≤ 409 := by
      unfold encS
      rw [List.length_append, sl_length]
      have := enc_le ((sat l k).size : Int)
      omega
    omega

set_option maxRecDepth 100000 in
set_option maxHeartbeats 1600000 in
theorem rof_any (t : Int) (a : Option Addr) (n c : Nat) (l : List ByteArray) (w : World) (hR0 : Rds w a l) (hn0 : n = l.length) (hf : fewP l) (hT0 : Tabc w) :
    Calls Tryd.prog 22 #[.int .i64 t, .slice a n c] w fun e w' => e = .returned (.agg (bvs ((sha (inpK t l n)).take 16)).toArray) ∧ Below w.heap.size w w' := by
  have hb0 : Below w.heap.size w (w.alloc (.cells zero16 44)) := alloc_row
  have hle := inpK_few t l hf n (by omega)
  have h12 := hf.1
  have hin : Hid (Calls Tryd.prog 23 #[.int .i64 t, .slice a n c] (w.alloc (.cells zero16 44)) (EncPost (w.alloc (.cells zero16 44)) (inpK t l n))) := Lib.hid (input_any t a n c l _ (Rds_below hb0 hR0) hn0 (by omega) (by omega))
  obtain ⟨L, hL⟩ : ∃ L, inpK t l n = L := ⟨_, rfl⟩
  rw [hL] at hin hle ⊢
  obtain ⟨D, hD⟩ : ∃ D, (sha L).take 16 = D := ⟨_, rfl⟩
  have hDl : D.length = 16 := by rw [← hD, List.length_take, sha_length]; rfl
  have hsh : Hid (∀ (p : Option Addr) (k : Nat) (W : World), Rd W p L → Tabc W → Calls Tryd.prog 35 #[.slice p L.length k] W fun e w' => e = .returned (.agg (bvs D).toArray) ∧ Below W.heap.size W w') :=
    Lib.hid fun p k W h1 h2 => by rw [← hD]; exact short_any p _ k L W h1 rfl (by omega) h2
  rw [hD]
  have hT := Lib.hid (hT0.later hb0)
  have hz0 := Lib.hid (heap_alloc_new w (.cells zero16 44))
  have hb0' := Lib.hid hb0
  have hzt : Hid ((Tryd.prog.info? 44).map (·.size) = some (bvs D).toArray.size) := Lib.hid (by rw [List.size_toArray, bvs_length, hDl]; kernel_rfl)
  have hze : Hid (zero16.size = (bvs D).toArray.size) := Lib.hid (z16_size _ hDl)
  clear hR0 hT0 hn0 hb0 hf hL hD hDl hle h12
  go_enter Tryd.func22, Tryd.ntmps22
  go_wp2_with (refine wpList_alloc_as rfl 44 rfl zero16 zero_16 ?_)
  refine (hin.out).mono ?_
  rintro e w1 ⟨v1, rfl, ho1, hb1⟩
  obtain ⟨p, c1, rfl, hRd0, _, _, _, _⟩ := own_Rd ho1
  have hRd := Lib.hid hRd0
  have hT1 := Lib.hid (hT.out.later hb1)
  have hB1 := Lib.hid (below_tr hb0'.out hb1)
  have hz1 := Lib.hid ((hb1.block _ (lt_of_block hz0.out)).trans hz0.out)
  clear ho1 hRd0 hb1 hin
  go_wp2_with fail
  refine (hsh.out _ _ _ hRd.out hT1.out).mono ?_
  rintro e w2 ⟨rfl, hb2⟩
  have hz2 := Lib.hid ((hb2.block _ (lt_of_block hz1.out)).trans hz1.out)
  have hB2 := Lib.hid (below_tr hB1.out hb2)
  clear hb2 hsh hz0
  go_wp2_with (refine wpList_store_row rfl 44 _ _ rfl w.heap.size (bvs D).toArray rfl rfl 44 zero16 hz2.out hzt.out hze.out (all_oneCell_toArray (bvs_one _)) ?_)
  exact bodyPost_ret (v := .agg (bvs D).toArray) (results_cell_row rfl _ _ w.heap.size 44 _ (0, 0) _ rfl (setRow_heap _ _ _ _ _ _ hz2.out) Tryd.underlying44 rfl hzt.out) rfl ⟨rfl, below_setRow hB2.out (Nat.le_refl _) _⟩
end Go.Proofs.YtfgkaiaapofepaaDoor
