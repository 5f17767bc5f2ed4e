/- Contracts of the package integer and its reference: integer.Text. lives: more words. lives. -/
import Derived.Test.YtmbkpcnpacncjaaDoorM12
import Derived.Test.YtmbkpcnpacncjaaDoorM11
import Derived.Test.YtmbkpcnpacncjaaDoorM8
set_option linter.unusedVariables false
namespace Go.Proofs.YtmbkpcnpacncjaaDoor
open Go.RowKit

set_option maxRecDepth 100000 in
set_option maxHeartbeats 1600000 in
theorem text_zero (nx : Bool) (px : Option Addr) (cx : Nat) (w : World) :
    Calls Tryd.prog 33 #[.agg #[.bool nx, .slice px 0 cx]] w (TxP w 0) := by
  go_enter Tryd.func33, Tryd.ntmps33
  go_wp2_with fail
  go_ret
  exact ⟨rfl, below_new _ _⟩

set_option maxRecDepth 100000 in
set_option maxHeartbeats 1600000 in
theorem text_some (nx : Bool) (px : Option Addr) (n cx : Nat) (x : Int) (w : World) (hx0 : IntAt w nx px n cx x) (hn : 0 < n) (hlx : n ≤ 1099511627776) (hT : Tb w) :
    Calls Tryd.prog 33 #[.agg #[.bool nx, .slice px n cx]] w (TxP w x) := by
  obtain ⟨i0, hi, hz0, hz1, hz2⟩ := info_parts info_u8
  have hS0 := Lib.hid (@Bx.start nx px n cx w)
  have hTT := Lib.hid hT
  have hx := Lib.hid hx0
  have hxn : Hid (x ≠ 0) := Lib.hid (fun e => by have h1 := hx0.2.1; rw [e, show (0 : Int).natAbs = 0 from rfl, digs_zero] at h1; simp at h1; omega)
  have t1 : ((n : Int) == 0) = false := by simp; omega
  obtain ⟨m, rfl⟩ : ∃ m, n = m + 1 := ⟨n - 1, by omega⟩
  clear hx0 hT
  go_enter Tryd.func33, Tryd.ntmps33
  go_upto_if 9 with fail
  generalize w.alloc (.cells #[.bool nx, .slice px (m + 1) cx] 24) = W1 at hS0 ⊢
  have hS1 := hS0.out
  have hf := hS1.facts
  have hT1 := Lib.hid (hTT.out.later hS1.2)
  clear hS0
  go_wp2_with fail
  obtain ⟨w2, hrun, ho, hg⟩ := run_make_own (P := Tryd.prog) W1 W1.heap.size 55 5 i0 (.int .u8 0) 1 Tryd.underlying55 hi hz0 hz1 .i64 .i64 (1 + 9 * (m + 1)) (by rw [hz2]; omega) (by unfold maxLen; omega) (Nat.le_refl _)
  rw [show ((1 + 9 * (m + 1) : Nat) : Int) = 1 + 9 * ((m : Int) + 1) by omega] at hrun
  rw [hrun]
  simp only [Result.andThen]
  rw [Oper.upon_value]
  have hG0 : Grow W1 (.slice (some ⟨W1.heap.size, 0, none⟩) 0 (1 + 9 * (m + 1))) [] w2 := ⟨ho, (Below.refl _ _).grown hg (Nat.le_refl _) (fun k hk => by cases hk)⟩
  have hG2 := Lib.hid hG0
  have hS2 := hS1.later hG0.2
  have hf2 := hS2.facts
  clear hrun ho hg hG0 hf
  generalize Value.slice (some ⟨W1.heap.size, 0, none⟩) 0 (1 + 9 * (m + 1)) = v2 at hG2 ⊢
  go_upto_if 17 with fail
  go_cut [3] (fun s3 wx => ∃ l, l = (if nx then [45] else []) ∧ Grow W1 s3 l wx)
  case first =>
    cases nx
    · go_wp2_with fail
      go_meet
      exact ⟨_, rfl, hG2.out⟩
    · have hpush : Hid (∀ v' w', w'.ownsRow W1.heap.size 5 1 v' (0 + 1) (bvs [] ++ [.int .u8 45]) → (w2.alloc (.cells #[.int .u8 45] 5)).grownBy w' v2.ownBlock → Grow W1 v' [45] w') :=
        Lib.hid fun v' w' h1 h2 => (hG2.out.later (below_new w2 (.cells #[.int .u8 45] 5))).append (r := [45]) h1 h2
      have hsz : Hid (W1.heap.size ≤ w2.heap.size) := Lib.hid hG2.out.2.size
      go_wp2_with (at_builtin; refine wpList_append_own _ rfl _ _ 55 rfl W1.heap.size 5 i0 (.int .u8 0) 1 1 Tryd.underlying55 hi hz0 hz1 hz2 rfl (by decide) _ _ _ rfl (hG2.out.1.alloc _) ⟨w2.heap.size, 0, none⟩ 1 1 [.int .u8 45] rfl rfl (fun j u hj => by match j, hj with | 0, hj => simp at hj; subst hj; simp [Addr.add]) (by intro u hu; simp at hu; subst hu; rfl) (by unfold maxLen; simp) (by simp) (by have := hsz.out; simp; omega) ?_; intro v3 w3 ho3 hg3 _; have hG3 := Lib.hid (hpush.out _ _ ho3 hg3); clear ho3 hg3)
      go_meet
      exact ⟨_, rfl, hG3.out⟩
  case rest =>
    obtain ⟨l, hl, hG0⟩ := hcut
    have hGl := Lib.hid hG0
    have hll : Hid (l.length ≤ 1) := Lib.hid (by rw [hl]; cases nx <;> simp)
    have hl' := Lib.hid hl
    have hS3 := hS1.later hG0.2
    have hf3 := hS3.facts
    have hxl := hx.out.2.1
    obtain ⟨D, hD⟩ : ∃ D, digs x.natAbs = D := ⟨_, rfl⟩
    have hdd := Dg_digs x.natAbs
    have hR := hx.out.2.2.1
    rw [hD] at hxl hdd hR
    obtain ⟨b, o, hpx, hcm⟩ := Rdi_at hR m (by omega)
    subst hpx
    have cm := Below.cell_of' hS3.2 hcm
    have htd := hdd.all m
    have hRR := Lib.hid hR
    have hdd' := Lib.hid hdd
    have hD' := Lib.hid hD
    have hxl' := Lib.hid hxl
    have hfin : Hid (txt x = l ++ Lib.itoa (iat D m) ++ txtK D m m) := Lib.hid (by
      unfold txt txtD
      rw [if_neg hxn.out, hD, ← hxl, Nat.add_sub_cancel, hl, ← hx.out.1])
    have hap : Hid (Calls Tryd.prog 50 #[u3, .int .i64 (iat D m), .int .i64 10] wc fun e w' => ∃ v', e = .returned v' ∧ Grow W1 v' (l ++ Lib.itoa (iat D m)) w') := Lib.hid ((Tryd.strconv_AppendInt_10 W1.heap.size _ (iat D m) (by omega) (by omega) u3 (bvs l) wc hG0.1 hG0.2.size (by have := hll.out; omega) (hT1.out.at_ hG0.2)).mono fun e w' ⟨v', he, ho, hb, _⟩ => ⟨v', he, grow_row hG0 ho hb⟩)
    have hil := itoa_len (iat D m) htd.1 (by omega)
    have hll2 : Hid ((l ++ Lib.itoa (iat D m)).length ≤ 22) := Lib.hid (by rw [List.length_append]; have := hll.out; omega)
    obtain ⟨H, hH⟩ : ∃ H, l ++ Lib.itoa (iat D m) = H := ⟨_, rfl⟩
    rw [hH] at hap hll2 hfin
    obtain ⟨T, hTv⟩ : ∃ T, iat D m = T := ⟨_, rfl⟩
    rw [hTv] at cm hap
    clear hG0 hl hxl hdd hR hD hcm htd hil hH hTv hf2 hS2
    have m0 : 0 ≤ (m : Int) := by omega
    have m1 : (m : Int) < (m : Int) + 1 := by omega
    go_wp2_with (go_at_call 50; refine hap.out.mono ?_; rintro e w4 ⟨v4, rfl, hG4⟩; have hG4' := Lib.hid hG4; clear hG4)
    go_loopw [3, 33] (fun s3 iv wr => ∃ k : Nat, k ≤ m ∧ iv = .int .i64 (k : Int) ∧ Grow W1 s3 (H ++ txtK D m k) wr) (fun _ iv _ => m - (intOf iv).toNat)
    case atStart => exact ⟨0, Nat.zero_le _, rfl, by rw [show txtK D m 0 = [] from rfl, List.append_nil]; exact hG4'.out⟩
    case round =>
      obtain ⟨k, hk, rfl, hG⟩ := hrel
      clear hG4' hap
      by_cases hlt : k < m
      · obtain ⟨j, hj⟩ : ∃ j, m = j + 1 + k := ⟨m - 1 - k, by omega⟩
        have hj' := Lib.hid hj
        have hS5 := hS1.later hG.2
        have hf5 := hS5.facts
        obtain ⟨b', o', hb', hcj⟩ := Rdi_at hRR.out j (by have := hxl'.out; omega)
        cases hb'
        have cj := Below.cell_of' hS5.2 hcj
        have hjd := hdd'.out.all j
        have hG' := Lib.hid hG
        have hlen : Hid ((H ++ txtK D m k).length ≤ 22 + 20 * k) := Lib.hid (by
          rw [List.length_append]
          have := hll2.out
          have := txtK_len D hdd'.out m k
          omega)
        have hnx : Hid (H ++ txtK D m (k + 1) = H ++ txtK D m k ++ (Lib.itoa (1000000000 + iat D j)).drop 1) := Lib.hid (by
          rw [txtK_succ, ← List.append_assoc, show m - 1 - k = j by omega]; rfl)
        obtain ⟨X, hX⟩ : ∃ X, iat D j = X := ⟨_, rfl⟩
        rw [hX] at cj hjd hnx
        have hit : Hid (Calls Tryd.prog 51 #[.int .i64 (1000000000 + X)] wr fun e w' => e = .returned (.string (bs (Lib.itoa (1000000000 + X)))) ∧ Below wr.heap.size wr w') := Lib.hid ((Tryd.strconv_Itoa (1000000000 + X) (by omega) (by omega) wr (hT1.out.is hG.2)).mono fun e w' ⟨he, hw⟩ => ⟨he, below_itoa hw⟩)
        have hil := itoa_len (1000000000 + X) (by omega) (by omega)
        obtain ⟨I, hI⟩ : ∃ I, Lib.itoa (1000000000 + X) = I := ⟨_, rfl⟩
        rw [hI] at hit hnx hil
        obtain ⟨hjd0, hjd1⟩ := hjd
        have e1 : (m : Int) - 1 - (k : Int) = (j : Int) := by omega
        have e2 : (k : Int) < (m : Int) := by omega
        have e3 : (j : Int) < (m : Int) + 1 := by omega
        have e4 : 0 ≤ (j : Int) := by omega
        have e5 : ((j : Int)).toNat = j := by omega
        have e6 : 0 ≤ (k : Int) := by omega
        have e7 : (m : Int) ≤ 1099511627776 := by omega
        have hsz : (bs I).size = I.length := by simp [bs, ByteArray.size]
        have hI1 : Hid (1 ≤ I.length ∧ I.length ≤ 21) := Lib.hid hil
        have hI2 : (1 : Int) ≤ (I.length : Int) := by omega
        have hdr := bs_drop' I
        obtain ⟨s, hs⟩ : ∃ s, bs (I.drop 1) = s := ⟨_, rfl⟩
        rw [hs] at hdr
        have hss : Hid (s.size ≤ 20 ∧ Lib.strCells s = bvs (I.drop 1) ∧ s.size = (I.drop 1).length) := Lib.hid (by
          rw [← hs, bs_size, List.length_drop]
          exact ⟨by omega, strCells_bs _, rfl⟩)
        clear hG hcj hX hI hil hlt hs hj
        go_wp2_with (first
          | (go_at_call 51; refine hit.out.mono ?_; rintro e w6 ⟨rfl, hb6⟩; have hG6 := Lib.hid (hG'.out.later hb6); clear hb6)
          | (at_builtin; refine Lib.wpList_append_own_string _ rfl _ _ 55 9 rfl W1.heap.size 5 i0 Tryd.underlying55 Tryd.underlying9 hi hz0 hz1 hz2 _ _ _ rfl hG6.out.1 s rfl (by unfold maxLen; have := hlen.out; have := hss.out.1; omega) (by have := hlen.out; have := hss.out.1; omega) hG6.out.2.size ?_; intro v7 w7 ho7 hg7 _; have hG7 : Hid (Grow W1 v7 (H ++ txtK D m (k + 1)) w7) := Lib.hid (by rw [hnx.out]; rw [hss.out.2.1, hss.out.2.2] at ho7; exact hG6.out.append ho7 hg7); clear ho7 hg7))
        exact ⟨⟨k + 1, by omega, by simp, hG7.out⟩, by simp [intOf]; omega⟩
      · obtain rfl : k = m := by omega
        obtain ⟨p, c, hv, hRd, hln, hlc, hcm, -⟩ := own_Rd hG.1
        have hcv := run_bytes_string (P := Tryd.prog) 55 5 9 Tryd.underlying55 Tryd.underlying5 Tryd.underlying9 wr p _ c _ hRd hln
        subst hv
        have hB := Lib.hid (below_tr hS1.2 hG.2)
        obtain ⟨N, hN⟩ : ∃ N, (H ++ txtK D k k).length = N := ⟨_, rfl⟩
        rw [hN] at hcv ⊢
        rw [← hfin.out] at hcv
        clear hG hRd hln hlc hN
        go_wp2_with fail
        go_ret
        exact ⟨rfl, hB.out⟩
theorem Text_any (nx : Bool) (px : Option Addr) (n cx : Nat) (x : Int) (w : World) (hx : IntAt w nx px n cx x) (hlx : n ≤ 1099511627776) (hT : Tb w) :
    Calls Tryd.prog 33 #[.agg #[.bool nx, .slice px n cx]] w (TxP w x) := by
  by_cases h : n = 0
  · subst h
    have h0 : x = 0 := by
      have h1 := digs_nil.1 (List.eq_nil_of_length_eq_zero hx.2.1.symm)
      omega
    subst h0
    exact text_zero nx px cx w
  · exact text_some nx px n cx x w hx (by omega) hlx hT
end Go.Proofs.YtmbkpcnpacncjaaDoor

namespace Go.Proofs.YtmbkpcnpacncjaaDoor
open Go.RowKit

/-- two integers that are returned -/
def RV2 (V1 V2 : VP) (W : World) (e : Ending) (w' : World) : Prop := ∃ v1 v2, e = .returned (.tuple #[v1, v2]) ∧ V1 v1 w' ∧ V2 v2 w' ∧ Below W.heap.size W w'
theorem Bz_new {W : World} {N : Nat} {z : Int} {nb : Bool} {p : Option Addr} {n c : Nat} (h : IntAt W nb p n c z) (hn : n ≤ N) : Bz N W.heap.size z (W.alloc (.cells #[.bool nb, .slice p n c] 24 (0, 0))) :=
  ⟨nb, p, n, c, heap_alloc_new _ _, h.later (below_new _ _), hn⟩
theorem Bz_new2 {W : World} {N : Nat} {z : Int} {nb : Bool} {p : Option Addr} {n c : Nat} {o : Obj} (h : IntAt W nb p n c z) (hn : n ≤ N) : Bz N (W.heap.size + 1) z ((W.alloc o).alloc (.cells #[.bool nb, .slice p n c] 24 (0, 0))) := by
  have := Bz_new (W := W.alloc o) (h.later (below_new _ o)) hn
  rw [show (W.alloc o).heap.size = W.heap.size + 1 by simp] at this
  exact this
theorem dl_dq (a b : Int) : (digs (dq a b).natAbs).length ≤ (digs a.natAbs).length := by
  apply digs_len_mono
  unfold dq
  split
  · simp
  · exact Int.natAbs_ediv_le_natAbs a b
theorem dl_dr (a b : Int) : (digs (dr a b).natAbs).length ≤ (digs b.natAbs).length := by
  apply digs_len_mono
  unfold dr
  split
  · simp
  · have h1 := Int.emod_nonneg a (b := b) (by assumption)
    have h2 := Int.emod_lt a (b := b) (by assumption)
    omega
section
variable {W : World} {Na Nb : Nat} {a b : Int} {v1 v2 : Value}
theorem cDiv (h1 : Vz Na a v1 W) (h2 : Vz Nb b v2 W) (hN1 : Na ≤ 1000000) (hN2 : Nb ≤ 1000000) : Calls Tryd.prog 29 #[v1, v2] W (RV2 (Vz Na (dq a b)) (Vz Nb (dr a b)) W) := by
  obtain ⟨nb, p, n, c, rfl, hI, hn⟩ := h1
  obtain ⟨nb2, p2, n2, c2, rfl, hI2, hn2⟩ := h2
  exact (Div_any _ _ _ _ _ _ _ _ a b W hI hI2 (by omega) (by omega)).mono fun e w' ⟨nb3, p3, n3, c3, nb4, p4, n4, c4, he, h3, h4, hb, _⟩ => by
    refine ⟨_, _, he, ⟨_, _, _, _, rfl, h3, ?_⟩, ⟨_, _, _, _, rfl, h4, ?_⟩, hb⟩
    · have := dl_dq a b; rw [h3.2.1]; have := hI.2.1; omega
    · have := dl_dr a b; rw [h4.2.1]; have := hI2.2.1; omega
theorem cSmall (h1 : Vz Na a v1 W) (hN1 : Na ≤ 1000000) : Calls Tryd.prog 12 #[v1] W (RV2 (Vi (smv a)) (Vb (smb a)) W) := by
  obtain ⟨nb, p, n, c, rfl, hI, hn⟩ := h1
  exact (Small_any _ _ _ _ a W hI (by omega)).mono fun e w' h => ⟨_, _, h.1, rfl, rfl, h.2⟩
theorem cText (h1 : Vz Na a v1 W) (hN1 : Na ≤ 1000000) (hT : Tb W) : Calls Tryd.prog 33 #[v1] W (RV (fun v _ => v = .string (bs (txt a))) W) := by
  obtain ⟨nb, p, n, c, rfl, hI, hn⟩ := h1
  exact (Text_any _ _ _ _ a W hI (by omega) hT).mono fun e w' h => ⟨_, h.1, rfl, h.2⟩
end
theorem root10 {W : World} {v : Value} (h1 : Vz 3 10 v W) : Calls Tryd.prog 31 #[v] W (RV2 (Vz 3 3) (Vb false) W) := by
  obtain ⟨nb, p, n, c, rfl, hI, hn⟩ := h1
  exact (Root_any _ _ _ _ 10 W hI (by omega)).mono fun e w' ⟨nb2, p2, n2, c2, r, bl, he, h2, _, h4, hb, _⟩ => by
    obtain ⟨h5, h6, h7, h8⟩ := h4 (by omega)
    have hr : r = 3 := by
      have h9 : r < 4 := by
        rcases Int.lt_or_le r 4 with h | h
        · exact h
        · have := Int.mul_le_mul h h (by omega) (by omega); omega
      have h10 : 2 < r := by
        rcases Int.lt_or_le 2 r with h | h
        · exact h
        · have := Int.mul_le_mul (show r + 1 ≤ 3 by omega) (show r + 1 ≤ 3 by omega) (by omega) (by omega); omega
      omega
    subst hr
    refine ⟨_, _, he, ⟨_, _, _, _, rfl, h2, ?_⟩, by rw [h8]; rfl, hb⟩
    rw [h2.2.1]
    exact digs_len_le (by rw [pw3]; omega)
theorem parse_m0 (W : World) : Calls Tryd.prog 32 #[.string ⟨#[45, 48]⟩] W (ErP W 2) := parse_form _ [48] true W (by decide) (by decide) (by decide) (by decide) (.inr ⟨rfl, rfl⟩)
theorem parse_01 (W : World) : Calls Tryd.prog 32 #[.string ⟨#[48, 49]⟩] W (ErP W 2) := parse_form _ [48, 49] false W (by decide) (by decide) (by decide) (by decide) (.inl (by decide))
theorem digs_big : digs 18446744073709551616 = [709551616, 446744073, 18] := by
  rw [digs_pos (by omega), show 18446744073709551616 % 1000000000 = 709551616 by rfl, show 18446744073709551616 / 1000000000 = 18446744073 by rfl, digs_pos (by omega), show 18446744073 % 1000000000 = 446744073 by rfl, show 18446744073 / 1000000000 = 18 by rfl, digs_pos (by omega), show 18 % 1000000000 = 18 by rfl, show 18 / 1000000000 = 0 by rfl, digs_zero]; rfl
theorem txt_big : txt 18446744073709551616 = [49, 56, 52, 52, 54, 55, 52, 52, 48, 55, 51, 55, 48, 57, 53, 53, 49, 54, 49, 54] := by
  unfold txt
  rw [if_neg (by omega), show (18446744073709551616 : Int).natAbs = 18446744073709551616 by rfl, digs_big]
  decide +kernel
theorem Vz_build {W : World} {g : Nat} (h : Blk W g [709551616, 446744073, 18]) : Vz 3 18446744073709551616 (.agg #[.bool false, .slice (some ⟨g, 0, none⟩) 3 3]) W :=
  ⟨_, _, _, _, rfl, ⟨rfl, by rw [show (18446744073709551616 : Int).natAbs = 18446744073709551616 by rfl, digs_big]; rfl, by rw [show (18446744073709551616 : Int).natAbs = 18446744073709551616 by rfl, digs_big]; exact h.rdi, by omega, by omega⟩, by omega⟩
def Vblk (l : List Int) : VP := fun v W => ∃ g, v = .slice (some ⟨g, 0, none⟩) l.length l.length ∧ Blk W g l
theorem Vblk_mono (l : List Int) : Mono (Vblk l) := fun _ _ _ ⟨g, h1, h2⟩ hb => ⟨g, h1, h2.later hb⟩
theorem run_eqs {ρ : Operand → Value} {o : Oper} {W : World} {x y : Operand} {a b : ByteArray} (ho : o.op = .binOp .eql 9 x y 9) (hx : ρ x = .string a) (hy : ρ y = .string b) : (execOp ρ o).run Tryd.prog W = .ok (.value (.bool (a.toList == b.toList))) W := by
  obtain ⟨d, op, ty, ps, af, gd⟩ := o
  subst ho
  go_simp
theorem codeL5 : codeL (-5) = [-1, 5] := by
  unfold codeL
  rw [show (-5 : Int).natAbs = 5 by rfl, digs_pos (by omega), show 5 % 1000000000 = 5 by rfl, show 5 / 1000000000 = 0 by rfl, digs_zero, cmp_lt (by omega)]
  rfl
theorem encode5 {W : World} {v : Value} (h : Vz 3 (-5) v W) : Calls Tryd.prog 35 #[v] W (BtP W (encIs [-1, 5])) := by
  obtain ⟨nb, p, n, c, rfl, hI, hn⟩ := h
  have := Encode_any _ _ _ _ _ W hI (by omega)
  rw [codeL5] at this
  exact this
theorem enc_len15 : (encIs [-1, 5]).length ≤ 70368744177664 := by
  unfold encIs
  rw [List.length_append]
  have h1 := enc_le (([-1, 5] : List Int).length : Int)
  have h2 := enc_le (-1)
  have h3 := enc_le 5
  simp only [List.flatMap_cons, List.flatMap_nil, List.length_append, List.length_nil]
  omega
theorem ints15 {W : World} {g : Nat} (h : Blk W g [-1, 5]) : Calls Tryd.prog 36 #[.slice (some ⟨g, 0, none⟩) 2 2] W (EncPost W (encIs [-1, 5])) :=
  refInts_any _ 2 2 [-1, 5] W h.rdi (Lib.hid rfl) (by omega) (Lib.hid fun i hi => by
    match i, hi with
    | 0, _ => exact ⟨by decide, by decide⟩
    | 1, _ => exact ⟨by decide, by decide⟩) enc_len15
end Go.Proofs.YtmbkpcnpacncjaaDoor

namespace Go.Proofs.YtmbkpcnpacncjaaDoor
open Go.RowKit

set_option maxRecDepth 100000 in
set_option maxHeartbeats 1600000 in
theorem lives_any (w : World) (hT : Tb w) : Calls Tryd.prog 16 #[] w (RV (Vb true) w) := by
  have hm7 : Hid (∀ W, Calls Tryd.prog 14 #[.int .i64 (-7)] W (RV (Vz 3 (-7)) W)) := Lib.hid fun W => cOf _ (by omega) (by omega)
  have h2 : Hid (∀ W, Calls Tryd.prog 14 #[.int .i64 2] W (RV (Vz 3 2) W)) := Lib.hid fun W => cOf _ (by omega) (by omega)
  have h7 : Hid (∀ W, Calls Tryd.prog 14 #[.int .i64 7] W (RV (Vz 3 7) W)) := Lib.hid fun W => cOf _ (by omega) (by omega)
  have hm2 : Hid (∀ W, Calls Tryd.prog 14 #[.int .i64 (-2)] W (RV (Vz 3 (-2)) W)) := Lib.hid fun W => cOf _ (by omega) (by omega)
  have h32 : Hid (∀ W, Calls Tryd.prog 14 #[.int .i64 4294967296] W (RV (Vz 3 4294967296) W)) := Lib.hid fun W => cOf _ (by omega) (by omega)
  have h32b := h32
  have h10 : Hid (∀ W, Calls Tryd.prog 14 #[.int .i64 10] W (RV (Vz 3 10) W)) := Lib.hid fun W => cOf _ (by omega) (by omega)
  have hT' := Lib.hid hT
  clear hT
  go_enter Tryd.func16, Tryd.ntmps16
  go_upto_region 8 with (first
    | (go_at_call 14; (with_reducible refine (hm7.out _).mono ?_); clear hm7; rintro e w1 ⟨v1, rfl, hV1, hb1⟩; have hV1' := Lib.hid hV1; clear hV1)
    | (go_at_call 14; (with_reducible refine (h2.out _).mono ?_); clear h2; rintro e w2 ⟨v2, rfl, hV2, hb2⟩; have hV2' := Lib.hid hV2; clear hV2)
    | (go_at_call 14; (with_reducible refine (h7.out _).mono ?_); clear h7; rintro e w4 ⟨v4, rfl, hV4, hb4⟩; have hV4' := Lib.hid hV4; clear hV4)
    | (go_at_call 14; (with_reducible refine (hm2.out _).mono ?_); clear hm2; rintro e w5 ⟨v5, rfl, hV5, hb5⟩; have hV5' := Lib.hid hV5; clear hV5)
    | (go_at_call 14; (with_reducible refine (h32.out _).mono ?_); clear h32; rintro e w7 ⟨v7, rfl, hV7, hb7⟩; have hV7' := Lib.hid hV7; clear hV7)
    | (go_at_call 14; (with_reducible refine (h32b.out _).mono ?_); clear h32b; rintro e w8 ⟨v8, rfl, hV8, hb8⟩; have hV8' := Lib.hid hV8; clear hV8)
    | (go_at_call 14; (with_reducible refine (h10.out _).mono ?_); clear h10; rintro e w11 ⟨v11, rfl, hV11, hb11⟩; have hV11' := Lib.hid hV11; clear hV11)
    | (go_at_call 29; refine (cDiv (Vz_mono _ _ _ _ _ hV1'.out hb2) hV2'.out (by omega) (by omega)).mono ?_; clear hV1' hV2'; rintro e w3 ⟨_, _, rfl, ⟨nbA, pA, nA, cA, rfl, hIA, hnA⟩, ⟨nbB, pB, nB, cB, rfl, hIB, hnB⟩, hb3⟩; have hA := Lib.hid (And.intro hIA hnA); have hB := Lib.hid (And.intro hIB hnB); clear hIA hnA hIB hnB)
    | (go_at_call 29; refine (cDiv (Vz_mono _ _ _ _ _ hV4'.out hb5) hV5'.out (by omega) (by omega)).mono ?_; clear hV4' hV5'; rintro e w6 ⟨_, _, rfl, ⟨nbC, pC, nC, cC, rfl, hIC, hnC⟩, ⟨nbD, pD, nD, cD, rfl, hID, hnD⟩, hb6⟩; have hC := Lib.hid (And.intro hIC hnC); have hD := Lib.hid (And.intro hID hnD); clear hIC hnC hID hnD)
    | (go_at_call 30; refine (cMul (Vz_mono _ _ _ _ _ hV7'.out hb8) hV8'.out (by omega) (by omega)).mono ?_; clear hV7' hV8'; rintro e w9 ⟨_, rfl, ⟨nbE, pE, nE, cE, rfl, hIE, hnE⟩, hb9⟩; have hE := Lib.hid (And.intro hIE hnE); clear hIE hnE)
    | (go_at_call 12; refine (cSmall (a := 4294967296 * 4294967296) (Na := 6) ⟨nbE, pE, nE, cE, rfl, hE.out.1.later (below_new _ _), hE.out.2⟩ (by omega)).mono ?_; rintro e wS ⟨_, _, rfl, rfl, rfl, hbS⟩)
    | (go_at_call 31; refine (root10 hV11'.out).mono ?_; clear hV11'; rintro e wR ⟨_, _, rfl, ⟨nbF, pF, nF, cF, rfl, hIF, hnF⟩, rfl, hbR⟩; have hF := Lib.hid (And.intro hIF hnF); clear hIF hnF)
    | (go_at_call 32; (with_reducible refine (parse_m0 _).mono ?_); rintro e wP ⟨rfl, hbP⟩)
    | (go_at_call 32; (with_reducible refine (parse_01 _).mono ?_); rintro e wQ ⟨rfl, hbQ⟩))
  -- behind region 7
  obtain ⟨W1, hW1⟩ : ∃ W1, wQ.alloc (.cells #[.bool false, .slice none 0 0] 24 (0, 0)) = W1 := ⟨_, rfl⟩
  have t1 : Below wP.heap.size wP W1 := below_tr (below_new _ _) (below_tr hbQ (hW1 ▸ below_new _ _))
  have tR := below_tr hbP t1
  have tS := below_tr hb11 (below_tr hbR (below_tr (below_new _ _) tR))
  have tE := below_tr hbS tS
  have tD := below_tr hb7 (below_tr hb8 (below_tr hb9 (below_tr (below_new _ _) tE)))
  have tB := below_tr hb4 (below_tr hb5 (below_tr hb6 (below_tr (below_tr (below_new _ _) (below_new _ _)) tD)))
  have tw := below_tr hb1 (below_tr hb2 (below_tr hb3 (below_tr (below_tr (below_new _ _) (below_new _ _)) tB)))
  have e1 : dq (-7) 2 = -4 := by decide
  have e2 : dr (-7) 2 = 1 := by decide
  have e3 : dq 7 (-2) = -3 := by decide
  have e4 : dr 7 (-2) = 1 := by decide
  rw [e1] at hA; rw [e2] at hB; rw [e3] at hC; rw [e4] at hD
  have hA1 : Bz 3 w3.heap.size (-4) W1 := ((Bz_new hA.out.1 hA.out.2).later (below_new _ _)).later tB
  have hB1 : Bz 3 (w3.heap.size + 1) 1 W1 := (Bz_new2 hB.out.1 hB.out.2).later tB
  have hC1 : Bz 3 w6.heap.size (-3) W1 := ((Bz_new hC.out.1 hC.out.2).later (below_new _ _)).later tD
  have hD1 : Bz 3 (w6.heap.size + 1) 1 W1 := (Bz_new2 hD.out.1 hD.out.2).later tD
  have hE1 : Bz 6 w9.heap.size 18446744073709551616 W1 := (Bz_new hE.out.1 hE.out.2).later tE
  have hF1 : Bz 3 wR.heap.size 3 W1 := (Bz_new hF.out.1 hF.out.2).later tR
  have hT1 : Tb W1 := hT'.out.later tw
  have tw' := Lib.hid tw
  rw [hW1]
  have hsm : smb 18446744073709551616 = false := by decide
  rw [hsm]
  clear hW1 tw t1 tR tS tE tD tB e1 e2 e3 e4 hb1 hb2 hb3 hb4 hb5 hb6 hb7 hb8 hb9 hbS hb11 hbR hbP hbQ hA hB hC hD hE hF hT' hsm
  generalize w3.heap.size + 1 = gB at hB1 ⊢
  generalize w3.heap.size = gA at hA1 ⊢
  generalize w6.heap.size + 1 = gD at hD1 ⊢
  generalize w6.heap.size = gC at hC1 ⊢
  generalize w9.heap.size = gE at hE1 ⊢
  generalize wR.heap.size = gF at hF1 ⊢
  refine region_flows (V := fun i => ([Vz 3 (-4), Vz 3 (-4), Vb true, Vb true, Vz 3 (1), Vz 3 (1), Vb true, Vb true, Vb true, Vz 3 (-3), Vz 3 (-3), Vb true, Vb true, Vb true, Vz 3 (1), Vz 3 (1), Vb true, Vb true, Vb true] : List VP).getD i VT) (S := fun W => Below W1.heap.size W1 W) (R := fun a b => Below a.heap.size a b) (by kernel_rfl) (by kernel_rfl) (by kernel_rfl) (by rfl) (mono_of ⟨Vz_mono _ _, Vz_mono _ _, Vb_mono _, Vb_mono _, Vz_mono _ _, Vz_mono _ _, Vb_mono _, Vb_mono _, Vb_mono _, Vz_mono _ _, Vz_mono _ _, Vb_mono _, Vb_mono _, Vb_mono _, Vz_mono _ _, Vz_mono _ _, Vb_mono _, Vb_mono _, Vb_mono _, trivial⟩) ((Below.refl _ _).drew) ⟨?s0, ?s1, ?s2, ?s3, ?s4, ?s5, ?s6, ?s7, ?s8, ?s9, ?s10, ?s11, ?s12, ?s13, ?s14, ?s15, ?s16, ?s17, ?s18, trivial⟩ [49, 50, 51, 52, 53, 54, 55, 56, 57, 58, 59, 60, 61, 62, 63, 64, 65, 66, 14] rfl ?hdone
  case s0 =>
    refine flow_wp fun listed a W h hd => ⟨trivial, fun K hK => ?_⟩
    exact wp_load_box rfl (h.out 1 (by kernel_rfl)) (hA1.later h.s) fun v hv => hK v W h.s (Below.refl _ _) hv
  case s1 =>
    refine flow_call (fun _ _ => rfl) fun listed a W h hd => ⟨trivial, ?_⟩
    refine ⟨#[.int .i64 (-4)], by simp [Act.eval], (cROf (-4) (by omega) (by omega)).mono fun e w' ⟨v, he, hV, hb⟩ => ⟨v, he, below_tr h.s hb, hb, hV⟩⟩
  case s2 =>
    refine flow_call (fun _ _ => rfl) fun listed a W h hd => ⟨trivial, ?_⟩
    obtain ⟨v0, hv0, -, hV0⟩ := h.dep hd 0 49 (by kernel_rfl) (by kernel_rfl)
    obtain ⟨v1, hv1, -, hV1⟩ := h.dep hd 1 50 (by kernel_rfl) (by kernel_rfl)
    refine ⟨#[v0, v1], by simp [hv0, hv1], (cSame (show Vz 3 (-4) v0 W from hV0) (show Vz 3 (-4) v1 W from hV1) (by omega) (by omega) (by rfl)).mono fun e w' ⟨v, he, hV, hb⟩ => ⟨v, he, below_tr h.s hb, hb, hV⟩⟩
  case s3 =>
    refine flow_run fun listed a W h hd => ⟨trivial, ?_⟩
    obtain ⟨v0, hv0, -, hV0⟩ := h.dep hd 2 51 (by kernel_rfl) (by kernel_rfl)
    exact ⟨_, W, run_move rfl, h.s, Below.refl _ _, by rw [hv0]; exact hV0⟩
  case s4 =>
    refine flow_wp fun listed a W h hd => ⟨(by obtain ⟨u, hu, hy, hU⟩ := h.dep hd 3 52 (by kernel_rfl) (by kernel_rfl); obtain rfl : u = .bool true := hU; exact hy), fun K hK => ?_⟩
    exact wp_load_box rfl (h.out 2 (by kernel_rfl)) (hB1.later h.s) fun v hv => hK v W h.s (Below.refl _ _) hv
  case s5 =>
    refine flow_call (fun _ _ => rfl) fun listed a W h hd => ⟨(by obtain ⟨u, hu, hy, hU⟩ := h.dep hd 3 52 (by kernel_rfl) (by kernel_rfl); obtain rfl : u = .bool true := hU; exact hy), ?_⟩
    refine ⟨#[.int .i64 (1)], by simp [Act.eval], (cROf (1) (by omega) (by omega)).mono fun e w' ⟨v, he, hV, hb⟩ => ⟨v, he, below_tr h.s hb, hb, hV⟩⟩
  case s6 =>
    refine flow_call (fun _ _ => rfl) fun listed a W h hd => ⟨(by obtain ⟨u, hu, hy, hU⟩ := h.dep hd 3 52 (by kernel_rfl) (by kernel_rfl); obtain rfl : u = .bool true := hU; exact hy), ?_⟩
    obtain ⟨v0, hv0, -, hV0⟩ := h.dep hd 4 53 (by kernel_rfl) (by kernel_rfl)
    obtain ⟨v1, hv1, -, hV1⟩ := h.dep hd 5 54 (by kernel_rfl) (by kernel_rfl)
    refine ⟨#[v0, v1], by simp [hv0, hv1], (cSame (show Vz 3 (1) v0 W from hV0) (show Vz 3 (1) v1 W from hV1) (by omega) (by omega) (by rfl)).mono fun e w' ⟨v, he, hV, hb⟩ => ⟨v, he, below_tr h.s hb, hb, hV⟩⟩
  case s7 =>
    refine flow_run fun listed a W h hd => ⟨trivial, ?_⟩
    obtain ⟨v0, hv0, -, hV0⟩ := h.dep hd 3 52 (by kernel_rfl) (by kernel_rfl)
    obtain ⟨v1, hv1, -, hV1⟩ := h.dep hd 6 55 (by kernel_rfl) (by kernel_rfl)
    exact ⟨_, W, run_pick_t rfl (hv0.trans hV0), h.s, Below.refl _ _, by rw [hv1]; exact hV1⟩
  case s8 =>
    refine flow_run fun listed a W h hd => ⟨trivial, ?_⟩
    obtain ⟨v0, hv0, -, hV0⟩ := h.dep hd 7 56 (by kernel_rfl) (by kernel_rfl)
    exact ⟨_, W, run_move rfl, h.s, Below.refl _ _, by rw [hv0]; exact hV0⟩
  case s9 =>
    refine flow_wp fun listed a W h hd => ⟨(by obtain ⟨u, hu, hy, hU⟩ := h.dep hd 8 57 (by kernel_rfl) (by kernel_rfl); obtain rfl : u = .bool true := hU; exact hy), fun K hK => ?_⟩
    exact wp_load_box rfl (h.out 3 (by kernel_rfl)) (hC1.later h.s) fun v hv => hK v W h.s (Below.refl _ _) hv
  case s10 =>
    refine flow_call (fun _ _ => rfl) fun listed a W h hd => ⟨(by obtain ⟨u, hu, hy, hU⟩ := h.dep hd 8 57 (by kernel_rfl) (by kernel_rfl); obtain rfl : u = .bool true := hU; exact hy), ?_⟩
    refine ⟨#[.int .i64 (-3)], by simp [Act.eval], (cROf (-3) (by omega) (by omega)).mono fun e w' ⟨v, he, hV, hb⟩ => ⟨v, he, below_tr h.s hb, hb, hV⟩⟩
  case s11 =>
    refine flow_call (fun _ _ => rfl) fun listed a W h hd => ⟨(by obtain ⟨u, hu, hy, hU⟩ := h.dep hd 8 57 (by kernel_rfl) (by kernel_rfl); obtain rfl : u = .bool true := hU; exact hy), ?_⟩
    obtain ⟨v0, hv0, -, hV0⟩ := h.dep hd 9 58 (by kernel_rfl) (by kernel_rfl)
    obtain ⟨v1, hv1, -, hV1⟩ := h.dep hd 10 59 (by kernel_rfl) (by kernel_rfl)
    refine ⟨#[v0, v1], by simp [hv0, hv1], (cSame (show Vz 3 (-3) v0 W from hV0) (show Vz 3 (-3) v1 W from hV1) (by omega) (by omega) (by rfl)).mono fun e w' ⟨v, he, hV, hb⟩ => ⟨v, he, below_tr h.s hb, hb, hV⟩⟩
  case s12 =>
    refine flow_run fun listed a W h hd => ⟨trivial, ?_⟩
    obtain ⟨v0, hv0, -, hV0⟩ := h.dep hd 8 57 (by kernel_rfl) (by kernel_rfl)
    obtain ⟨v1, hv1, -, hV1⟩ := h.dep hd 11 60 (by kernel_rfl) (by kernel_rfl)
    exact ⟨_, W, run_pick_t rfl (hv0.trans hV0), h.s, Below.refl _ _, by rw [hv1]; exact hV1⟩
  case s13 =>
    refine flow_run fun listed a W h hd => ⟨trivial, ?_⟩
    obtain ⟨v0, hv0, -, hV0⟩ := h.dep hd 12 61 (by kernel_rfl) (by kernel_rfl)
    exact ⟨_, W, run_move rfl, h.s, Below.refl _ _, by rw [hv0]; exact hV0⟩
  case s14 =>
    refine flow_wp fun listed a W h hd => ⟨(by obtain ⟨u, hu, hy, hU⟩ := h.dep hd 13 62 (by kernel_rfl) (by kernel_rfl); obtain rfl : u = .bool true := hU; exact hy), fun K hK => ?_⟩
    exact wp_load_box rfl (h.out 4 (by kernel_rfl)) (hD1.later h.s) fun v hv => hK v W h.s (Below.refl _ _) hv
  case s15 =>
    refine flow_call (fun _ _ => rfl) fun listed a W h hd => ⟨(by obtain ⟨u, hu, hy, hU⟩ := h.dep hd 13 62 (by kernel_rfl) (by kernel_rfl); obtain rfl : u = .bool true := hU; exact hy), ?_⟩
    refine ⟨#[.int .i64 (1)], by simp [Act.eval], (cROf (1) (by omega) (by omega)).mono fun e w' ⟨v, he, hV, hb⟩ => ⟨v, he, below_tr h.s hb, hb, hV⟩⟩
  case s16 =>
    refine flow_call (fun _ _ => rfl) fun listed a W h hd => ⟨(by obtain ⟨u, hu, hy, hU⟩ := h.dep hd 13 62 (by kernel_rfl) (by kernel_rfl); obtain rfl : u = .bool true := hU; exact hy), ?_⟩
    obtain ⟨v0, hv0, -, hV0⟩ := h.dep hd 14 63 (by kernel_rfl) (by kernel_rfl)
    obtain ⟨v1, hv1, -, hV1⟩ := h.dep hd 15 64 (by kernel_rfl) (by kernel_rfl)
    refine ⟨#[v0, v1], by simp [hv0, hv1], (cSame (show Vz 3 (1) v0 W from hV0) (show Vz 3 (1) v1 W from hV1) (by omega) (by omega) (by rfl)).mono fun e w' ⟨v, he, hV, hb⟩ => ⟨v, he, below_tr h.s hb, hb, hV⟩⟩
  case s17 =>
    refine flow_run fun listed a W h hd => ⟨trivial, ?_⟩
    obtain ⟨v0, hv0, -, hV0⟩ := h.dep hd 13 62 (by kernel_rfl) (by kernel_rfl)
    obtain ⟨v1, hv1, -, hV1⟩ := h.dep hd 16 65 (by kernel_rfl) (by kernel_rfl)
    exact ⟨_, W, run_pick_t rfl (hv0.trans hV0), h.s, Below.refl _ _, by rw [hv1]; exact hV1⟩
  case s18 =>
    refine flow_run fun listed a W h hd => ⟨trivial, ?_⟩
    obtain ⟨v0, hv0, -, hV0⟩ := h.dep hd 17 66 (by kernel_rfl) (by kernel_rfl)
    exact ⟨_, W, run_assign rfl, h.s, Below.refl _ _, by rw [hv0]; exact hV0⟩
  case hdone =>
    intro f W hS hf
    have hlast : f 14 = _ := hf 18 14 (by kernel_rfl)
    simp only [slots, Act.put, List.setIfInBounds_toArray, List.set_cons_zero, List.set_cons_succ]
    rw [hlast]
    go_upto_region 9 with fail
    have hT1' := Lib.hid hT1
    have hS8 := hS
    clear hf hS hT1
    refine region_flows (V := fun i => ([Vz 6 (18446744073709551616), Vblk [709551616, 446744073, 18], Vz 3 (18446744073709551616), Vb true, Vb true, Vz 6 (18446744073709551616), (fun v _ => v = .string (bs (txt (18446744073709551616)))), Vb true, Vb true, Vb true, Vb false, Vb true, Vb true, Vb true, Vz 3 (3), Vz 3 (3), Vb true, Vb true, Vb true, Vb false, Vb true, Vb true, Vb true] : List VP).getD i VT) (S := fun W => Below W1.heap.size W1 W) (R := fun a b => Below a.heap.size a b) (by kernel_rfl) (by kernel_rfl) (by kernel_rfl) (by rfl) (mono_of ⟨Vz_mono _ _, Vblk_mono _, Vz_mono _ _, Vb_mono _, Vb_mono _, Vz_mono _ _, (fun _ _ _ h _ => h), Vb_mono _, Vb_mono _, Vb_mono _, Vb_mono _, Vb_mono _, Vb_mono _, Vb_mono _, Vz_mono _ _, Vz_mono _ _, Vb_mono _, Vb_mono _, Vb_mono _, Vb_mono _, Vb_mono _, Vb_mono _, Vb_mono _, trivial⟩) (below_tr hS8 ((Below.refl _ _).drew)) ⟨?s0, ?s1, ?s2, ?s3, ?s4, ?s5, ?s6, ?s7, ?s8, ?s9, ?s10, ?s11, ?s12, ?s13, ?s14, ?s15, ?s16, ?s17, ?s18, ?s19, ?s20, ?s21, ?s22, trivial⟩ [67, 68, 69, 70, 71, 72, 73, 74, 75, 76, 77, 78, 79, 80, 81, 82, 83, 84, 85, 86, 87, 88, 15] rfl ?hdone
    case s0 =>
      refine flow_wp fun listed a W h hd => ⟨trivial, fun K hK => ?_⟩
      exact wp_load_box rfl (h.out 5 (by kernel_rfl)) (hE1.later h.s) fun v hv => hK v W h.s (Below.refl _ _) hv
    case s1 =>
      refine flow_run fun listed a W h hd => ⟨trivial, ?_⟩
      refine ⟨_, _, ?_, below_tr h.s (below_new W (.cells #[.int .i64 709551616, .int .i64 446744073, .int .i64 18] 3)), below_new W (.cells #[.int .i64 709551616, .int .i64 446744073, .int .i64 18] 3), ⟨_, rfl, Blk_new W [709551616, 446744073, 18]⟩⟩
      clear h hd
      go_simp
    case s2 =>
      refine flow_run fun listed a W h hd => ⟨trivial, ?_⟩
      obtain ⟨v0, hv0, -, hV0⟩ := h.dep hd 1 68 (by kernel_rfl) (by kernel_rfl)
      obtain ⟨g, rfl, hB⟩ := hV0
      refine ⟨_, _, ?_, h.s, Below.refl _ _, Vz_build hB⟩
      clear h hd
      generalize a.eval = ρ at hv0 ⊢
      go_simp
    case s3 =>
      refine flow_call (fun _ _ => rfl) fun listed a W h hd => ⟨trivial, ?_⟩
      obtain ⟨v0, hv0, -, hV0⟩ := h.dep hd 0 67 (by kernel_rfl) (by kernel_rfl)
      obtain ⟨v1, hv1, -, hV1⟩ := h.dep hd 2 69 (by kernel_rfl) (by kernel_rfl)
      refine ⟨#[v0, v1], by simp [hv0, hv1], (cSame (show Vz 6 (18446744073709551616) v0 W from hV0) (show Vz 3 (18446744073709551616) v1 W from hV1) (by omega) (by omega) (by rfl)).mono fun e w' ⟨v, he, hV, hb⟩ => ⟨v, he, below_tr h.s hb, hb, hV⟩⟩
    case s4 =>
      refine flow_run fun listed a W h hd => ⟨trivial, ?_⟩
      obtain ⟨v0, hv0, -, hV0⟩ := h.dep hd 3 70 (by kernel_rfl) (by kernel_rfl)
      exact ⟨_, W, run_move rfl, h.s, Below.refl _ _, by rw [hv0]; exact hV0⟩
    case s5 =>
      refine flow_wp fun listed a W h hd => ⟨(by obtain ⟨u, hu, hy, hU⟩ := h.dep hd 4 71 (by kernel_rfl) (by kernel_rfl); obtain rfl : u = .bool true := hU; exact hy), fun K hK => ?_⟩
      exact wp_load_box rfl (h.out 5 (by kernel_rfl)) (hE1.later h.s) fun v hv => hK v W h.s (Below.refl _ _) hv
    case s6 =>
      refine flow_call (fun _ _ => rfl) fun listed a W h hd => ⟨(by obtain ⟨u, hu, hy, hU⟩ := h.dep hd 4 71 (by kernel_rfl) (by kernel_rfl); obtain rfl : u = .bool true := hU; exact hy), ?_⟩
      obtain ⟨v0, hv0, -, hV0⟩ := h.dep hd 5 72 (by kernel_rfl) (by kernel_rfl)
      refine ⟨#[v0], by simp [hv0], (cText (show Vz 6 (18446744073709551616) v0 W from hV0) (by omega) (hT1'.out.later h.s)).mono fun e w' ⟨v, he, hV, hb⟩ => ⟨v, he, below_tr h.s hb, hb, hV⟩⟩
    case s7 =>
      refine flow_run fun listed a W h hd => ⟨(by obtain ⟨u, hu, hy, hU⟩ := h.dep hd 4 71 (by kernel_rfl) (by kernel_rfl); obtain rfl : u = .bool true := hU; exact hy), ?_⟩
      obtain ⟨v0, hv0, -, hV0⟩ := h.dep hd 6 73 (by kernel_rfl) (by kernel_rfl)
      replace hV0 : v0 = .string (bs (txt 18446744073709551616)) := hV0
      rw [txt_big] at hV0
      replace hv0 := hv0.trans hV0
      refine ⟨_, _, run_eqs rfl hv0 rfl, h.s, Below.refl _ _, congrArg Value.bool (beq_self_eq_true _)⟩
    case s8 =>
      refine flow_run fun listed a W h hd => ⟨trivial, ?_⟩
      obtain ⟨v0, hv0, -, hV0⟩ := h.dep hd 4 71 (by kernel_rfl) (by kernel_rfl)
      obtain ⟨v1, hv1, -, hV1⟩ := h.dep hd 7 74 (by kernel_rfl) (by kernel_rfl)
      exact ⟨_, W, run_pick_t rfl (hv0.trans hV0), h.s, Below.refl _ _, by rw [hv1]; exact hV1⟩
    case s9 =>
      refine flow_run fun listed a W h hd => ⟨trivial, ?_⟩
      obtain ⟨v0, hv0, -, hV0⟩ := h.dep hd 8 75 (by kernel_rfl) (by kernel_rfl)
      exact ⟨_, W, run_move rfl, h.s, Below.refl _ _, by rw [hv0]; exact hV0⟩
    case s10 =>
      refine flow_run fun listed a W h hd => ⟨(by obtain ⟨u, hu, hy, hU⟩ := h.dep hd 9 76 (by kernel_rfl) (by kernel_rfl); obtain rfl : u = .bool true := hU; exact hy), ?_⟩
      exact ⟨_, W, run_move rfl, h.s, Below.refl _ _, h.out 7 (by kernel_rfl)⟩
    case s11 =>
      refine flow_run fun listed a W h hd => ⟨(by obtain ⟨u, hu, hy, hU⟩ := h.dep hd 9 76 (by kernel_rfl) (by kernel_rfl); obtain rfl : u = .bool true := hU; exact hy), ?_⟩
      obtain ⟨v0, hv0, -, hV0⟩ := h.dep hd 10 77 (by kernel_rfl) (by kernel_rfl)
      exact ⟨_, W, run_not rfl (hv0.trans hV0), h.s, Below.refl _ _, rfl⟩
    case s12 =>
      refine flow_run fun listed a W h hd => ⟨trivial, ?_⟩
      obtain ⟨v0, hv0, -, hV0⟩ := h.dep hd 9 76 (by kernel_rfl) (by kernel_rfl)
      obtain ⟨v1, hv1, -, hV1⟩ := h.dep hd 11 78 (by kernel_rfl) (by kernel_rfl)
      exact ⟨_, W, run_pick_t rfl (hv0.trans hV0), h.s, Below.refl _ _, by rw [hv1]; exact hV1⟩
    case s13 =>
      refine flow_run fun listed a W h hd => ⟨trivial, ?_⟩
      obtain ⟨v0, hv0, -, hV0⟩ := h.dep hd 12 79 (by kernel_rfl) (by kernel_rfl)
      exact ⟨_, W, run_move rfl, h.s, Below.refl _ _, by rw [hv0]; exact hV0⟩
    case s14 =>
      refine flow_wp fun listed a W h hd => ⟨(by obtain ⟨u, hu, hy, hU⟩ := h.dep hd 13 80 (by kernel_rfl) (by kernel_rfl); obtain rfl : u = .bool true := hU; exact hy), fun K hK => ?_⟩
      exact wp_load_box rfl (h.out 8 (by kernel_rfl)) (hF1.later h.s) fun v hv => hK v W h.s (Below.refl _ _) hv
    case s15 =>
      refine flow_call (fun _ _ => rfl) fun listed a W h hd => ⟨(by obtain ⟨u, hu, hy, hU⟩ := h.dep hd 13 80 (by kernel_rfl) (by kernel_rfl); obtain rfl : u = .bool true := hU; exact hy), ?_⟩
      refine ⟨#[.int .i64 (3)], by simp [Act.eval], (cROf (3) (by omega) (by omega)).mono fun e w' ⟨v, he, hV, hb⟩ => ⟨v, he, below_tr h.s hb, hb, hV⟩⟩
    case s16 =>
      refine flow_call (fun _ _ => rfl) fun listed a W h hd => ⟨(by obtain ⟨u, hu, hy, hU⟩ := h.dep hd 13 80 (by kernel_rfl) (by kernel_rfl); obtain rfl : u = .bool true := hU; exact hy), ?_⟩
      obtain ⟨v0, hv0, -, hV0⟩ := h.dep hd 14 81 (by kernel_rfl) (by kernel_rfl)
      obtain ⟨v1, hv1, -, hV1⟩ := h.dep hd 15 82 (by kernel_rfl) (by kernel_rfl)
      refine ⟨#[v0, v1], by simp [hv0, hv1], (cSame (show Vz 3 (3) v0 W from hV0) (show Vz 3 (3) v1 W from hV1) (by omega) (by omega) (by rfl)).mono fun e w' ⟨v, he, hV, hb⟩ => ⟨v, he, below_tr h.s hb, hb, hV⟩⟩
    case s17 =>
      refine flow_run fun listed a W h hd => ⟨trivial, ?_⟩
      obtain ⟨v0, hv0, -, hV0⟩ := h.dep hd 13 80 (by kernel_rfl) (by kernel_rfl)
      obtain ⟨v1, hv1, -, hV1⟩ := h.dep hd 16 83 (by kernel_rfl) (by kernel_rfl)
      exact ⟨_, W, run_pick_t rfl (hv0.trans hV0), h.s, Below.refl _ _, by rw [hv1]; exact hV1⟩
    case s18 =>
      refine flow_run fun listed a W h hd => ⟨trivial, ?_⟩
      obtain ⟨v0, hv0, -, hV0⟩ := h.dep hd 17 84 (by kernel_rfl) (by kernel_rfl)
      exact ⟨_, W, run_move rfl, h.s, Below.refl _ _, by rw [hv0]; exact hV0⟩
    case s19 =>
      refine flow_run fun listed a W h hd => ⟨(by obtain ⟨u, hu, hy, hU⟩ := h.dep hd 18 85 (by kernel_rfl) (by kernel_rfl); obtain rfl : u = .bool true := hU; exact hy), ?_⟩
      exact ⟨_, W, run_move rfl, h.s, Below.refl _ _, h.out 9 (by kernel_rfl)⟩
    case s20 =>
      refine flow_run fun listed a W h hd => ⟨(by obtain ⟨u, hu, hy, hU⟩ := h.dep hd 18 85 (by kernel_rfl) (by kernel_rfl); obtain rfl : u = .bool true := hU; exact hy), ?_⟩
      obtain ⟨v0, hv0, -, hV0⟩ := h.dep hd 19 86 (by kernel_rfl) (by kernel_rfl)
      exact ⟨_, W, run_not rfl (hv0.trans hV0), h.s, Below.refl _ _, rfl⟩
    case s21 =>
      refine flow_run fun listed a W h hd => ⟨trivial, ?_⟩
      obtain ⟨v0, hv0, -, hV0⟩ := h.dep hd 18 85 (by kernel_rfl) (by kernel_rfl)
      obtain ⟨v1, hv1, -, hV1⟩ := h.dep hd 20 87 (by kernel_rfl) (by kernel_rfl)
      exact ⟨_, W, run_pick_t rfl (hv0.trans hV0), h.s, Below.refl _ _, by rw [hv1]; exact hV1⟩
    case s22 =>
      refine flow_run fun listed a W h hd => ⟨trivial, ?_⟩
      obtain ⟨v0, hv0, -, hV0⟩ := h.dep hd 21 88 (by kernel_rfl) (by kernel_rfl)
      exact ⟨_, W, run_assign rfl, h.s, Below.refl _ _, by rw [hv0]; exact hV0⟩
    case hdone =>
      intro f W hS hf
      have hlast : f 15 = _ := hf 22 15 (by kernel_rfl)
      simp only [slots, Act.put, List.setIfInBounds_toArray, List.set_cons_zero, List.set_cons_succ]
      rw [hlast]
      have hm5 : Hid (∀ W, Calls Tryd.prog 14 #[.int .i64 (-5)] W (RV (Vz 3 (-5)) W)) := Lib.hid fun W => cOf _ (by omega) (by omega)
      have hen : Hid (∀ W v, Vz 3 (-5) v W → Calls Tryd.prog 35 #[v] W (BtP W (encIs [-1, 5]))) := Lib.hid fun W v h => encode5 h
      have hin : Hid (∀ W g, Blk W g [-1, 5] → Calls Tryd.prog 36 #[.slice (some ⟨g, 0, none⟩) 2 2] W (EncPost W (encIs [-1, 5]))) := Lib.hid fun W g h => ints15 h
      have hel := Lib.hid enc_len15
      obtain ⟨E, hE⟩ : ∃ E, encIs [-1, 5] = E := ⟨_, rfl⟩
      rw [hE] at hen hin hel
      have tw2 := Lib.hid (below_tr tw'.out hS)
      clear hE hf hlast hS tw' hS8 hA1 hB1 hC1 hD1 hE1 hF1
      go_wp2_with (first
        | (go_at_call 14; (refine (hm5.out _).mono ?_); rintro e wG ⟨vG, rfl, hG, hbG⟩; have hG' := Lib.hid hG; clear hG)
        | (go_at_call 35; (refine (hen.out _ _ hG'.out).mono ?_); rintro e wH ⟨pH, cH, rfl, hRH, hlH, hcH, hbH⟩; have hRH' := Lib.hid hRH; clear hRH)
        | (go_at_call 36; (refine (hin.out _ _ (Blk_new wH [-1, 5])).mono ?_); rintro e wJ hJ; obtain ⟨pJ, cJ, rfl, hRJ, hlJ, hcJ, hbJ⟩ := enc_Rd hJ; have hRJ' := Lib.hid hRJ; clear hRJ hJ)
        | (go_at_call 34; (refine (SameB_any _ _ _ _ _ _ E E _ (Rd_below (below_tr (below_new _ _) hbJ) hRH'.out) hRJ'.out rfl rfl (by have := hel.out; omega)).mono ?_); rintro e wK ⟨rfl, qK, rfl⟩))
      go_ret
      exact ⟨_, rfl, rfl, below_drewN (below_tr tw2.out (below_tr hbG (below_tr hbH (below_tr (below_new _ _) hbJ)))) _⟩
end Go.Proofs.YtmbkpcnpacncjaaDoor
