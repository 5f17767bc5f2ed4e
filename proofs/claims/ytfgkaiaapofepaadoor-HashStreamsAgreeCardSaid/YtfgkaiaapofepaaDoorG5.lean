/- sanity. -/
import Derived.Test.YtfgkaiaapofepaaDoorG4
import Derived.Lib.SlBytesConst
namespace Go.Proofs.YtfgkaiaapofepaaDoor
set_option linter.unusedVariables false
open Go.RowKit

/-- three hashes that lie where they were put -/
def SanI (w : World) (d e : List UInt8) (g1 g2 g3 : Nat) (W : World) : Prop :=
  W.heap[g1]? = some (.cells (bvs d).toArray 24 (0, 0)) ∧ W.heap[g2]? = some (.cells (bvs d).toArray 24 (0, 0)) ∧ W.heap[g3]? = some (.cells (bvs e).toArray 44 (0, 0)) ∧ Tab W ∧ Below w.heap.size w W
theorem SanI.later {w W W1 : World} {d e : List UInt8} {g1 g2 g3 : Nat} (h : SanI w d e g1 g2 g3 W) (hb : Below W.heap.size W W1) : SanI w d e g1 g2 g3 W1 :=
  ⟨(hb.block _ (lt_of_block h.1)).trans h.1, (hb.block _ (lt_of_block h.2.1)).trans h.2.1, (hb.block _ (lt_of_block h.2.2.1)).trans h.2.2.1, h.2.2.2.1.later hb, below_tr h.2.2.2.2 hb⟩
theorem row_later {W W1 : World} {g : Nat} {b : Option Obj} {o : Obj} (h : W.heap[g]? = some o) (hb : Below W.heap.size W W1) : W1.heap[g]? = some o := (hb.block _ (lt_of_block h)).trans h
theorem row_later' {W W1 : World} {g : Nat} {o : Obj} (h : W.heap[g]? = some o) (hb : Below W.heap.size W W1) : W1.heap[g]? = some o := (hb.block _ (lt_of_block h)).trans h
theorem below_q (W : World) (q : Nat) : Below W.heap.size W (W.drewN q) := below_drewN (Below.refl _ _) q

theorem Rd_rowf {w : World} {g : Nat} {l : List UInt8} {t : TypeId} {fr : Nat × Nat} (h : w.heap[g]? = some (.cells (bvs l).toArray t fr)) : Rd w (some ⟨g, 0, none⟩) l :=
  .inr ⟨g, 0, rfl, fun i hi => cell_row h (by rw [Nat.zero_add]; exact bvs_get hi)⟩
theorem lst_A : hexA.toList = [98, 97, 55, 56, 49, 54, 98, 102, 56, 102, 48, 49, 99, 102, 101, 97, 52, 49, 52, 49, 52, 48, 100, 101, 53, 100, 97, 101, 50, 50, 50, 51, 98, 48, 48, 51, 54, 49, 97, 51, 57, 54, 49, 55, 55, 97, 57, 99, 98, 52, 49, 48, 102, 102, 54, 49, 102, 50, 48, 48, 49, 53, 97, 100] := by decide +kernel
theorem lst_M : hexM.toList = [53, 98, 100, 99, 99, 49, 52, 54, 98, 102, 54, 48, 55, 53, 52, 101, 54, 97, 48, 52, 50, 52, 50, 54, 48, 56, 57, 53, 55, 53, 99, 55, 53, 97, 48, 48, 51, 102, 48, 56, 57, 100, 50, 55, 51, 57, 56, 51, 57, 100, 101, 99, 53, 56, 98, 57, 54, 52, 101, 99, 51, 56, 52, 51] := by decide +kernel
theorem lst_D : hexD.toList = [51, 54, 99, 100, 53, 48, 56, 53, 48, 51, 50, 57, 102, 56, 56, 52, 48, 54, 101, 51, 49, 98, 98, 56, 97, 55, 100, 56, 102, 98, 54, 50] := by decide +kernel
section
variable {P : Program} {ops : Array Oper} {rest : List Oper} {o : Oper} {a : Act} {w : World} {Q : Exit → Act → World → Prop}
theorem wpList_want (hw : Region.wanted o (yielded ops a.tmps) = true) (h : ∀ K : Act → World → Prop, (∀ a w, wpList P ops Q rest a w → K a w) → o.wp P a w K Q) : wpList P ops Q (o :: rest) a w :=
  wpList_step fun K hK => by simp only [hw, if_true]; exact h K hK
theorem wpList_load_row_w (hw : Region.wanted o (yielded ops a.tmps) = true) (ty : TypeId) (x : Operand) (ho : o.op = .load ty x)
    (g : Nat) (hx : a.eval x = .pointer (some ⟨g, 0, none⟩)) (t : TypeId) (cs : Array Value) (fr : Nat × Nat) (d : TypeDesc) (hg : w.heap[g]? = some (.cells cs t fr))
    (hu : P.underlying ty = some d) (hd : (match d with | .struct _ | .array _ _ => true | _ => false) = true) (hi : (P.info? ty).map (·.size) = some cs.size)
    (h : wpList P ops Q rest (a.put o.dst (.agg cs)) w) : wpList P ops Q (o :: rest) a w :=
  wpList_want hw fun _ hK => wp_load_row ty x ho g hx t cs fr d hg hu hd hi (hK _ _ h)
end
theorem equal_b (a b : ByteArray) (ha : a.size ≤ 4611686018427387904) (hb : b.size ≤ 4611686018427387904) (r : Bool) (hr : eqB (sl a) (sl b) = r) (w : World) :
    Calls Tryd.prog 24 #[.string a, .string b] w fun e w' => e = .returned (.bool r) ∧ Below w.heap.size w w' := by
  subst hr
  exact (equal_any a b ha hb w).mono fun e w' ⟨he, q, hq⟩ => ⟨he, by rw [hq]; exact below_q w q⟩
set_option maxRecDepth 100000 in
set_option maxHeartbeats 3200000 in
theorem sanity_ok (w : World) (hT0 : Tab w) : Calls Tryd.prog 10 #[] w (TruePost w) := by
  obtain ⟨d, hd0, hD⟩ := sha_dig [97, 98, 99]
  obtain ⟨e16, he0⟩ : ∃ e16, (sha (inpK 8 exL 2)).take 16 = e16 := ⟨_, rfl⟩
  have he16 : e16.length = 16 := by rw [← he0]; rfl
  obtain ⟨M, hM0⟩ : ∃ M, mac (sl exK) (sl exT) = M := ⟨_, rfl⟩
  have hxA : bs (hexs (sl (bs d))) = hexA := by rw [sl_bs, ← hd0]; exact ex_sha'
  have hxM : bs (hexs (sl (bs M))) = hexM := by rw [sl_bs, ← hM0]; exact ex_mac'
  have hxD : bs (hexs (sl (bs e16))) = hexD := by rw [sl_bs, ← he0]; exact ex_of'
  have hML : M.length = 32 := by rw [← hM0]; rfl
  obtain ⟨X0, hX0⟩ : ∃ X0, StrS [] = X0 := ⟨_, rfl⟩
  obtain ⟨X1, hX1⟩ : ∃ X1, StrS [97] = X1 := ⟨_, rfl⟩
  obtain ⟨X2, hX2⟩ : ∃ X2, StrS [97, 98, 99] = X2 := ⟨_, rfl⟩
  have hsum : Hid (∀ (g c : Nat) (W : World), Rd W (some ⟨g, 0, none⟩) [97, 98, 99] → Tab W → Calls Tryd.prog 11 #[.slice (some ⟨g, 0, none⟩) 3 c] W fun e w' => e = .returned (.agg (bvs d).toArray) ∧ Below W.heap.size W w') := Lib.hid (by
    rw [← hd0]; exact fun g c W hR hT => hsum_any _ 3 c _ W hR rfl (by simp) hT)
  have hbg : Hid (∀ W : World, Calls Tryd.prog 14 #[] W fun e w' => e = .returned (.agg X0) ∧ Below W.heap.size W w') := Lib.hid (by rw [← hX0]; exact begin_str)
  have ha1 : Hid (∀ W : World, Tab W → Calls Tryd.prog 15 #[.agg X0, .string ⟨#[97]⟩] W fun e w' => e = .returned (.agg X1) ∧ Below W.heap.size W w') := Lib.hid (by rw [← hX0, ← hX1]; exact fun W h => add_any [] ⟨#[97]⟩ (by decide) W h)
  have ha2 : Hid (∀ W : World, Tab W → Calls Tryd.prog 15 #[.agg X1, .string ⟨#[98, 99]⟩] W fun e w' => e = .returned (.agg X2) ∧ Below W.heap.size W w') := Lib.hid (by rw [← hX1, ← hX2]; exact fun W h => add_any [97] ⟨#[98, 99]⟩ (by decide) W h)
  have hss : Hid (∀ W : World, Tab W → Calls Tryd.prog 17 #[.agg X2] W fun e w' => e = .returned (.agg (bvs d).toArray) ∧ Below W.heap.size W w') := Lib.hid (by rw [← hX2, ← hd0]; exact fun W h => ssum_any [97, 98, 99] (by simp) W h)
  have hof : Hid (∀ (g c : Nat) (W : World), Rds W (some ⟨g, 0, none⟩) exL → Tab W → Calls Tryd.prog 21 #[.int .i64 8, .slice (some ⟨g, 0, none⟩) 2 c] W fun e w' => e = .returned (.agg (bvs e16).toArray) ∧ Below W.heap.size W w') := Lib.hid (by
    rw [← he0]; exact fun g c W hR hT => of_any 8 _ 2 c exL W hR rfl (by omega) (by decide) hT)
  have hmc : Hid (∀ W : World, Tab W → Calls Tryd.prog 18 #[.string exK, .string exT] W fun e w' => e = .returned (.string (bs M)) ∧ Below W.heap.size W w') := Lib.hid (by rw [← hM0]; exact fun W h => mac_any exK exT (by decide) (by decide) W h)
  have hD' := Lib.hid hD
  have hT := Lib.hid hT0
  have hbd : (bvs d).length = 32 := by rw [bvs_length, hD.len]
  have hbe : (bvs e16).length = 16 := by rw [bvs_length, he16]
  have he' := Lib.hid he16
  have hA' := Lib.hid hxA
  have hM' := Lib.hid hxM
  have hx' := Lib.hid hxD
  have hML' := Lib.hid hML
  clear hd0 he0 hM0 hX0 hX1 hX2 hD he16 hT0 hxA hxM hxD hML
  unfold exK exT at hmc
  have kc := fun (w : World) (C : Array Value) (n c : Nat) => Lib.run_convert_bytes_const (P := Tryd.prog) w 22 5 C n c Tryd.underlying22 Tryd.underlying5
  go_enter Tryd.func10, Tryd.ntmps10
  go_wp2_with fail
  refine (hsum.out _ _ _ (Rd_rowf (l := [97, 98, 99]) (heap_alloc_new w _)) (hT.out.later alloc_row)).mono ?_
  rintro e w1 ⟨rfl, hb1⟩
  have hb1' := Lib.hid (below_tr alloc_row hb1)
  clear hb1
  have hst := store_last (w := w1) hD'.out
  go_wp2_with (refine wpList_alloc_as rfl 24 rfl z32 zero_32b ?_)
  have hr1 := Lib.hid (heap_alloc_new w1 (.cells (bvs d).toArray 24))
  have hB1 := Lib.hid (below_al hb1'.out (.cells (bvs d).toArray 24))
  clear hst
  generalize w1.alloc (.cells (bvs d).toArray 24) = W1 at hr1 hB1 ⊢
  generalize w1.heap.size = g1 at hr1 ⊢
  -- the stream
  go_wp2_with fail
  refine (hbg.out _).mono ?_
  rintro e w2 ⟨rfl, hb2⟩
  have hB2 := Lib.hid (below_tr hB1.out hb2)
  have hr1a := Lib.hid (row_later' hr1.out hb2)
  clear hb2 hr1
  go_wp2_with fail
  refine (ha1.out _ (hT.out.later hB2.out)).mono ?_
  rintro e w3 ⟨rfl, hb3⟩
  have hB3 := Lib.hid (below_tr hB2.out hb3)
  have hr1b := Lib.hid (row_later' hr1a.out hb3)
  clear hb3 hr1a
  go_wp2_with fail
  refine (ha2.out _ (hT.out.later hB3.out)).mono ?_
  rintro e w4 ⟨rfl, hb4⟩
  have hB4 := Lib.hid (below_tr hB3.out hb4)
  have hr1c := Lib.hid (row_later' hr1b.out hb4)
  clear hb4 hr1b
  go_wp2_with fail
  refine (hss.out _ (hT.out.later hB4.out)).mono ?_
  rintro e w5 ⟨rfl, hb5⟩
  have hB5 := Lib.hid (below_tr hB4.out hb5)
  have hr1d := Lib.hid (row_later' hr1c.out hb5)
  clear hb5 hr1c
  have hst := store_last (w := w5) hD'.out
  go_wp2_with (refine wpList_alloc_as rfl 24 rfl z32 zero_32b ?_)
  have hr1e := Lib.hid (row_later' hr1d.out (alloc_row (o := .cells (bvs d).toArray 24)))
  have hr2 := Lib.hid (heap_alloc_new w5 (.cells (bvs d).toArray 24))
  have hB6 := Lib.hid (below_al hB5.out (.cells (bvs d).toArray 24))
  have hz6 : (w5.alloc (.cells (bvs d).toArray 24)).heap.size = w5.heap.size + 1 := alloc_size _ _
  clear hst hr1d
  obtain ⟨g5, hg5⟩ : ∃ g5, w5.heap.size + 1 = g5 := ⟨_, rfl⟩
  rw [hg5] at hz6 ⊢
  generalize w5.alloc (.cells (bvs d).toArray 24) = W6 at hr1e hr2 hB6 hz6 ⊢
  generalize w5.heap.size = g2 at hr2 ⊢
  have hRs : Rds (W6.alloc (.cells #[.string ⟨#[97]⟩, .string ⟨#[]⟩] 9)) (some ⟨g5, 0, none⟩) exL := by
    rw [← hz6]; exact Rds_new W6 exL _ 9 _ rfl rfl
  clear hz6 hg5
  refine (hof.out _ _ _ hRs (hT.out.later (below_al hB6.out _))).mono ?_
  rintro e w7 ⟨rfl, hb7⟩
  have hB7 := Lib.hid (below_tr (below_al hB6.out _) hb7)
  have hr1f := Lib.hid (row_later' (row_later' hr1e.out alloc_row) hb7)
  have hr2f := Lib.hid (row_later' (row_later' hr2.out alloc_row) hb7)
  clear hb7 hr1e hr2 hRs
  have hst := store_digest w7 e16 he'.out
  go_wp2_with (refine wpList_alloc_as rfl 44 rfl zero16 zero_16 ?_)
  have hI : SanI w d e16 g1 g2 w7.heap.size (w7.alloc (.cells (bvs e16).toArray 44)) :=
    ⟨row_later' hr1f.out alloc_row, row_later' hr2f.out alloc_row, heap_alloc_new _ _, hT.out.later (below_al hB7.out _), below_al hB7.out _⟩
  have hI8 := Lib.hid hI
  clear hI hst hr1f hr2f hB7 hB6 hB5 hB4 hB3 hB2 hB1 hb1' hsum hbg ha1 ha2 hss hof kc
  generalize w7.alloc (.cells (bvs e16).toArray 44) = W8 at hI8 ⊢
  generalize w7.heap.size = g3 at hI8 ⊢
  refine (hmc.out _ hI8.out.2.2.2.1).mono ?_
  rintro e w9 ⟨rfl, hb9⟩
  have hI9 := Lib.hid (hI8.out.later hb9)
  clear hb9 hI8 hmc
  go_wp2_with fail
  refine (equal_b ⟨#[97, 98]⟩ ⟨#[97, 98]⟩ (by decide) (by decide) true (by decide) _).mono ?_
  rintro e w10 ⟨rfl, hb10⟩
  have hI10 := Lib.hid (hI9.out.later hb10)
  clear hI9 hb10
  go_wp2_with fail
  refine (equal_b ⟨#[97, 98]⟩ ⟨#[97, 99]⟩ (by decide) (by decide) false (by decide) _).mono ?_
  rintro e w11 ⟨rfl, hb11⟩
  have hI11 := Lib.hid (hI10.out.later hb11)
  clear hI10 hb11
  go_wp2_with fail
  refine (equal_b ⟨#[]⟩ ⟨#[97]⟩ (by decide) (by decide) false (by decide) _).mono ?_
  rintro e w12 ⟨rfl, hb12⟩
  have hI12 := Lib.hid (hI11.out.later hb12)
  clear hI11 hb12
  have hsz32 := Lib.hid hD'.out.row
  have hs16 := Lib.hid (show (Tryd.prog.info? 44).map (·.size) = some (bvs e16).toArray.size by rw [List.size_toArray, hbe]; kernel_rfl)
  have hl32 := Lib.hid hD'.out.len
  have heq := fun W => eql_32 d d hl32.out hl32.out W
  rw [eqB_self] at heq
  go_wp2_with (first | (refine wpList_load_row rfl 24 _ rfl g1 rfl 24 (bvs d).toArray (0, 0) _ hI12.out.1 Tryd.underlying24 rfl hsz32.out ?_))
  refine (bytes32_any d hl32.out _).mono ?_
  rintro e w13 ⟨rfl, hb13⟩
  have hI13 := Lib.hid (hI12.out.later hb13)
  clear hI12 hb13
  go_wp2_with fail
  refine (hex_any (bs d) (by rw [bs_size, hl32.out]; omega) _).mono ?_
  rintro e w14 ⟨rfl, hb14⟩
  have hI14 := Lib.hid (hI13.out.later hb14)
  clear hI13 hb14
  rw [hA'.out]
  have hlA := lst_A
  have hlM := lst_M
  have hlD := lst_D
  go_wp2_with (first | (refine wpList_load_row_w (by rfl) 24 _ rfl g1 rfl 24 (bvs d).toArray (0, 0) _ hI14.out.1 Tryd.underlying24 rfl hsz32.out ?_) | (refine wpList_load_row_w (by rfl) 24 _ rfl g2 rfl 24 (bvs d).toArray (0, 0) _ hI14.out.2.1 Tryd.underlying24 rfl hsz32.out ?_))
  refine (hex_any (bs M) (by rw [bs_size, hML'.out]; omega) _).mono ?_
  rintro e w15 ⟨rfl, hb15⟩
  have hI15 := Lib.hid (hI14.out.later hb15)
  clear hI14 hb15
  rw [hM'.out]
  go_wp2_with (refine wpList_load_row_w (by rfl) 44 _ rfl g3 rfl 44 (bvs e16).toArray (0, 0) _ hI15.out.2.2.1 Tryd.underlying44 rfl hs16.out ?_)
  refine (text_any e16 he'.out _).mono ?_
  rintro e w16 ⟨rfl, hb16⟩
  have hI16 := Lib.hid (hI15.out.later hb16)
  clear hI15 hb16
  go_wp2_with fail
  refine (hex_any (bs e16) (by rw [bs_size, he'.out]; omega) _).mono ?_
  rintro e w17 ⟨rfl, hb17⟩
  have hI17 := Lib.hid (hI16.out.later hb17)
  clear hI16 hb17
  rw [hx'.out]
  go_wp2_with fail
  go_ret
  exact ⟨rfl, hI17.out.2.2.2.2⟩
end Go.Proofs.YtfgkaiaapofepaaDoor
