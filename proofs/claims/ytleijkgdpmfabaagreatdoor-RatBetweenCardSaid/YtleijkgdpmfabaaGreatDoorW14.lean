/- Contracts of the package integer and its reference: integer.Text. lives: more words. The steps of Euclid that the highest digits decide: plain mathematics. integer.carried, and the mathematics of apply. integer.apply. -/
import Derived.Test.YtleijkgdpmfabaaGreatDoorW13
import Derived.Test.YtleijkgdpmfabaaGreatDoorW10
import Derived.Test.YtleijkgdpmfabaaGreatDoorW8
import Derived.Test.YtleijkgdpmfabaaGreatDoorW12
import Derived.Test.YtleijkgdpmfabaaGreatDoorW4
set_option linter.unusedVariables false
namespace Go.Proofs.YtleijkgdpmfabaaGreatDoor
open Go.RowKit
set_option maxRecDepth 100000 in
set_option maxHeartbeats 1600000 in
theorem text_zero (nx : Bool) (px : Option Addr) (cx : Nat) (w : World) :
    Calls Tryz.prog 85 #[.agg #[.bool nx, .slice px 0 cx]] w (TxP w 0) := by
  go_enter Tryz.func85, Tryz.ntmps85
  go_wp2_with fail
  go_ret
  exact ⟨rfl, below_new _ _⟩
set_option maxRecDepth 100000 in
set_option maxHeartbeats 1600000 in
theorem text_some (nx : Bool) (px : Option Addr) (n cx : Nat) (x : Int) (w : World) (hx0 : IntAt w nx px n cx x) (hn : 0 < n) (hlx : n ≤ 1099511627776) (hT : Tb w) :
    Calls Tryz.prog 85 #[.agg #[.bool nx, .slice px n cx]] w (TxP w x) := by
  obtain ⟨i0, hi, hz0, hz1, hz2⟩ := info_parts info_u8
  have hS0 := Lib.hid (@Bx.start nx px n cx w)
  have hTT := Lib.hid hT
  have hx := Lib.hid hx0
  have hxn : Hid (x ≠ 0) := Lib.hid (fun e => by have h1 := hx0.2.1; rw [e, show (0 : Int).natAbs = 0 from rfl, digs_zero] at h1; simp at h1; omega)
  have t1 : ((n : Int) == 0) = false := by simp; omega
  obtain ⟨m, rfl⟩ : ∃ m, n = m + 1 := ⟨n - 1, by omega⟩
  clear hx0 hT
  go_enter Tryz.func85, Tryz.ntmps85
  go_upto_if 9 with fail
  generalize w.alloc (.cells #[.bool nx, .slice px (m + 1) cx] 24) = W1 at hS0 ⊢
  have hS1 := hS0.out
  have hf := hS1.facts
  have hT1 := Lib.hid (hTT.out.later hS1.2)
  clear hS0
  go_wp2_with fail
  obtain ⟨w2, hrun, ho, hg⟩ := run_make_own (P := Tryz.prog) W1 W1.heap.size 55 5 i0 (.int .u8 0) 1 Tryz.underlying55 hi hz0 hz1 .i64 .i64 (1 + 9 * (m + 1)) (by rw [hz2]; omega) (by unfold maxLen; omega) (Nat.le_refl _)
  rw [show ((1 + 9 * (m + 1) : Nat) : Int) = 1 + 9 * ((m : Int) + 1) by omega] at hrun
  rw [hrun]
  simp only [Result.andThen]
  rw [Oper.upon_value]
  have hG0 : Grow W1 (.slice (some ⟨W1.heap.size, 0, none⟩) 0 (1 + 9 * (m + 1))) [] w2 := ⟨ho, (Below.refl _ _).grown hg (Nat.le_refl _) (fun k hk => by cases hk)⟩
  have hG2 := Lib.hid hG0
  have hS2 := hS1.later hG0.2
  have hf2 := hS2.facts
  clear hrun ho hg hG0 hf
  generalize Value.slice (some ⟨W1.heap.size, 0, none⟩) 0 (1 + 9 * (m + 1)) = v2 at hG2 ⊢
  go_upto_if 17 with fail
  go_cut [3] (fun s3 wx => ∃ l, l = (if nx then [45] else []) ∧ Grow W1 s3 l wx)
  case first =>
    cases nx
    · go_wp2_with fail
      go_meet
      exact ⟨_, rfl, hG2.out⟩
    · have hpush : Hid (∀ v' w', w'.ownsRow W1.heap.size 5 1 v' (0 + 1) (bvs [] ++ [.int .u8 45]) → (w2.alloc (.cells #[.int .u8 45] 5)).grownBy w' v2.ownBlock → Grow W1 v' [45] w') :=
        Lib.hid fun v' w' h1 h2 => (hG2.out.later (below_new w2 (.cells #[.int .u8 45] 5))).append (r := [45]) h1 h2
      have hsz : Hid (W1.heap.size ≤ w2.heap.size) := Lib.hid hG2.out.2.size
      go_wp2_with (at_builtin; refine wpList_append_own _ rfl _ _ 55 rfl W1.heap.size 5 i0 (.int .u8 0) 1 1 Tryz.underlying55 hi hz0 hz1 hz2 rfl (by decide) _ _ _ rfl (hG2.out.1.alloc _) ⟨w2.heap.size, 0, none⟩ 1 1 [.int .u8 45] rfl rfl (fun j u hj => by match j, hj with | 0, hj => simp at hj; subst hj; simp [Addr.add]) (by intro u hu; simp at hu; subst hu; rfl) (by unfold maxLen; simp) (by simp) (by have := hsz.out; simp; omega) ?_; intro v3 w3 ho3 hg3 _; have hG3 := Lib.hid (hpush.out _ _ ho3 hg3); clear ho3 hg3)
      go_meet
      exact ⟨_, rfl, hG3.out⟩
  case rest =>
    obtain ⟨l, hl, hG0⟩ := hcut
    have hGl := Lib.hid hG0
    have hll : Hid (l.length ≤ 1) := Lib.hid (by rw [hl]; cases nx <;> simp)
    have hl' := Lib.hid hl
    have hS3 := hS1.later hG0.2
    have hf3 := hS3.facts
    have hxl := hx.out.2.1
    obtain ⟨D, hD⟩ : ∃ D, digs x.natAbs = D := ⟨_, rfl⟩
    have hdd := Dg_digs x.natAbs
    have hR := hx.out.2.2.1
    rw [hD] at hxl hdd hR
    obtain ⟨b, o, hpx, hcm⟩ := Rdi_at hR m (by omega)
    subst hpx
    have cm := Below.cell_of' hS3.2 hcm
    have htd := hdd.all m
    have hRR := Lib.hid hR
    have hdd' := Lib.hid hdd
    have hD' := Lib.hid hD
    have hxl' := Lib.hid hxl
    have hfin : Hid (txt x = l ++ Lib.itoa (iat D m) ++ txtK D m m) := Lib.hid (by
      unfold txt txtD
      rw [if_neg hxn.out, hD, ← hxl, Nat.add_sub_cancel, hl, ← hx.out.1])
    have hap : Hid (Calls Tryz.prog 117 #[u3, .int .i64 (iat D m), .int .i64 10] wc fun e w' => ∃ v', e = .returned v' ∧ Grow W1 v' (l ++ Lib.itoa (iat D m)) w') := Lib.hid ((Tryz.strconv_AppendInt_10 W1.heap.size _ (iat D m) (by omega) (by omega) u3 (bvs l) wc hG0.1 hG0.2.size (by have := hll.out; omega) (hT1.out.at_ hG0.2)).mono fun e w' ⟨v', he, ho, hb, _⟩ => ⟨v', he, grow_row hG0 ho hb⟩)
    have hil := itoa_len (iat D m) htd.1 (by omega)
    have hll2 : Hid ((l ++ Lib.itoa (iat D m)).length ≤ 22) := Lib.hid (by rw [List.length_append]; have := hll.out; omega)
    obtain ⟨H, hH⟩ : ∃ H, l ++ Lib.itoa (iat D m) = H := ⟨_, rfl⟩
    rw [hH] at hap hll2 hfin
    obtain ⟨T, hTv⟩ : ∃ T, iat D m = T := ⟨_, rfl⟩
    rw [hTv] at cm hap
    clear hG0 hl hxl hdd hR hD hcm htd hil hH hTv hf2 hS2
    have m0 : 0 ≤ (m : Int) := by omega
    have m1 : (m : Int) < (m : Int) + 1 := by omega
    go_wp2_with (go_at_call 117; refine hap.out.mono ?_; rintro e w4 ⟨v4, rfl, hG4⟩; have hG4' := Lib.hid hG4; clear hG4)
    go_loopw [3, 33] (fun s3 iv wr => ∃ k : Nat, k ≤ m ∧ iv = .int .i64 (k : Int) ∧ Grow W1 s3 (H ++ txtK D m k) wr) (fun _ iv _ => m - (intOf iv).toNat)
    case atStart => exact ⟨0, Nat.zero_le _, rfl, by rw [show txtK D m 0 = [] from rfl, List.append_nil]; exact hG4'.out⟩
    case round =>
      obtain ⟨k, hk, rfl, hG⟩ := hrel
      clear hG4' hap
      by_cases hlt : k < m
      · obtain ⟨j, hj⟩ : ∃ j, m = j + 1 + k := ⟨m - 1 - k, by omega⟩
        have hj' := Lib.hid hj
        have hS5 := hS1.later hG.2
        have hf5 := hS5.facts
        obtain ⟨b', o', hb', hcj⟩ := Rdi_at hRR.out j (by have := hxl'.out; omega)
        cases hb'
        have cj := Below.cell_of' hS5.2 hcj
        have hjd := hdd'.out.all j
        have hG' := Lib.hid hG
        have hlen : Hid ((H ++ txtK D m k).length ≤ 22 + 20 * k) := Lib.hid (by
          rw [List.length_append]
          have := hll2.out
          have := txtK_len D hdd'.out m k
          omega)
        have hnx : Hid (H ++ txtK D m (k + 1) = H ++ txtK D m k ++ (Lib.itoa (1000000000 + iat D j)).drop 1) := Lib.hid (by
          rw [txtK_succ, ← List.append_assoc, show m - 1 - k = j by omega]; rfl)
        obtain ⟨X, hX⟩ : ∃ X, iat D j = X := ⟨_, rfl⟩
        rw [hX] at cj hjd hnx
        have hit : Hid (Calls Tryz.prog 118 #[.int .i64 (1000000000 + X)] wr fun e w' => e = .returned (.string (bs (Lib.itoa (1000000000 + X)))) ∧ Below wr.heap.size wr w') := Lib.hid ((Tryz.strconv_Itoa (1000000000 + X) (by omega) (by omega) wr (hT1.out.is hG.2)).mono fun e w' ⟨he, hw⟩ => ⟨he, below_itoa hw⟩)
        have hil := itoa_len (1000000000 + X) (by omega) (by omega)
        obtain ⟨I, hI⟩ : ∃ I, Lib.itoa (1000000000 + X) = I := ⟨_, rfl⟩
        rw [hI] at hit hnx hil
        obtain ⟨hjd0, hjd1⟩ := hjd
        have e1 : (m : Int) - 1 - (k : Int) = (j : Int) := by omega
        have e2 : (k : Int) < (m : Int) := by omega
        have e3 : (j : Int) < (m : Int) + 1 := by omega
        have e4 : 0 ≤ (j : Int) := by omega
        have e5 : ((j : Int)).toNat = j := by omega
        have e6 : 0 ≤ (k : Int) := by omega
        have e7 : (m : Int) ≤ 1099511627776 := by omega
        have hsz : (bs I).size = I.length := by simp [bs, ByteArray.size]
        have hI1 : Hid (1 ≤ I.length ∧ I.length ≤ 21) := Lib.hid hil
        have hI2 : (1 : Int) ≤ (I.length : Int) := by omega
        have hdr := bs_drop' I
        obtain ⟨s, hs⟩ : ∃ s, bs (I.drop 1) = s := ⟨_, rfl⟩
        rw [hs] at hdr
        have hss : Hid (s.size ≤ 20 ∧ Lib.strCells s = bvs (I.drop 1) ∧ s.size = (I.drop 1).length) := Lib.hid (by
          rw [← hs, bs_size, List.length_drop]
          exact ⟨by omega, strCells_bs _, rfl⟩)
        clear hG hcj hX hI hil hlt hs hj
        go_wp2_with (first
          | (go_at_call 118; refine hit.out.mono ?_; rintro e w6 ⟨rfl, hb6⟩; have hG6 := Lib.hid (hG'.out.later hb6); clear hb6)
          | (at_builtin; refine Lib.wpList_append_own_string _ rfl _ _ 55 9 rfl W1.heap.size 5 i0 Tryz.underlying55 Tryz.underlying9 hi hz0 hz1 hz2 _ _ _ rfl hG6.out.1 s rfl (by unfold maxLen; have := hlen.out; have := hss.out.1; omega) (by have := hlen.out; have := hss.out.1; omega) hG6.out.2.size ?_; intro v7 w7 ho7 hg7 _; have hG7 : Hid (Grow W1 v7 (H ++ txtK D m (k + 1)) w7) := Lib.hid (by rw [hnx.out]; rw [hss.out.2.1, hss.out.2.2] at ho7; exact hG6.out.append ho7 hg7); clear ho7 hg7))
        exact ⟨⟨k + 1, by omega, by simp, hG7.out⟩, by simp [intOf]; omega⟩
      · obtain rfl : k = m := by omega
        obtain ⟨p, c, hv, hRd, hln, hlc, hcm, -⟩ := own_Rd hG.1
        have hcv := run_bytes_string (P := Tryz.prog) 55 5 9 Tryz.underlying55 Tryz.underlying5 Tryz.underlying9 wr p _ c _ hRd hln
        subst hv
        have hB := Lib.hid (below_tr hS1.2 hG.2)
        obtain ⟨N, hN⟩ : ∃ N, (H ++ txtK D k k).length = N := ⟨_, rfl⟩
        rw [hN] at hcv ⊢
        rw [← hfin.out] at hcv
        clear hG hRd hln hlc hN
        go_wp2_with fail
        go_ret
        exact ⟨rfl, hB.out⟩
theorem Text_any (nx : Bool) (px : Option Addr) (n cx : Nat) (x : Int) (w : World) (hx : IntAt w nx px n cx x) (hlx : n ≤ 1099511627776) (hT : Tb w) :
    Calls Tryz.prog 85 #[.agg #[.bool nx, .slice px n cx]] w (TxP w x) := by
  by_cases h : n = 0
  · subst h
    have h0 : x = 0 := by
      have h1 := digs_nil.1 (List.eq_nil_of_length_eq_zero hx.2.1.symm)
      omega
    subst h0
    exact text_zero nx px cx w
  · exact text_some nx px n cx x w hx (by omega) hlx hT
open Go.RowKit
def RV2 (V1 V2 : VP) (W : World) (e : Ending) (w' : World) : Prop := ∃ v1 v2, e = .returned (.tuple #[v1, v2]) ∧ V1 v1 w' ∧ V2 v2 w' ∧ Below W.heap.size W w'
theorem dl_dq (a b : Int) : (digs (dq a b).natAbs).length ≤ (digs a.natAbs).length := by
  apply digs_len_mono
  unfold dq
  split
  · simp
  · exact Int.natAbs_ediv_le_natAbs a b
theorem dl_dr (a b : Int) : (digs (dr a b).natAbs).length ≤ (digs b.natAbs).length := by
  apply digs_len_mono
  unfold dr
  split
  · simp
  · have h1 := Int.emod_nonneg a (b := b) (by assumption)
    have h2 := Int.emod_lt a (b := b) (by assumption)
    omega
section
variable {W : World} {Na Nb : Nat} {a b : Int} {v1 v2 : Value}
theorem cDiv (h1 : Vz Na a v1 W) (h2 : Vz Nb b v2 W) (hN1 : Na ≤ 1000000) (hN2 : Nb ≤ 1000000) : Calls Tryz.prog 95 #[v1, v2] W (RV2 (Vz Na (dq a b)) (Vz Nb (dr a b)) W) := by
  obtain ⟨nb, p, n, c, rfl, hI, hn⟩ := h1
  obtain ⟨nb2, p2, n2, c2, rfl, hI2, hn2⟩ := h2
  exact (Div_any _ _ _ _ _ _ _ _ a b W hI hI2 (by omega) (by omega)).mono fun e w' ⟨nb3, p3, n3, c3, nb4, p4, n4, c4, he, h3, h4, hb, _⟩ => by
    refine ⟨_, _, he, ⟨_, _, _, _, rfl, h3, ?_⟩, ⟨_, _, _, _, rfl, h4, ?_⟩, hb⟩
    · have := dl_dq a b; rw [h3.2.1]; have := hI.2.1; omega
    · have := dl_dr a b; rw [h4.2.1]; have := hI2.2.1; omega
theorem cSmall (h1 : Vz Na a v1 W) (hN1 : Na ≤ 1000000) : Calls Tryz.prog 66 #[v1] W (RV2 (Vi (smv a)) (Vb (smb a)) W) := by
  obtain ⟨nb, p, n, c, rfl, hI, hn⟩ := h1
  exact (Small_any _ _ _ _ a W hI (by omega)).mono fun e w' h => ⟨_, _, h.1, rfl, rfl, h.2⟩
theorem cText (h1 : Vz Na a v1 W) (hN1 : Na ≤ 1000000) (hT : Tb W) : Calls Tryz.prog 85 #[v1] W (RV (fun v _ => v = .string (bs (txt a))) W) := by
  obtain ⟨nb, p, n, c, rfl, hI, hn⟩ := h1
  exact (Text_any _ _ _ _ a W hI (by omega) hT).mono fun e w' h => ⟨_, h.1, rfl, h.2⟩
end
def Vblk (l : List Int) : VP := fun v W => ∃ g, v = .slice (some ⟨g, 0, none⟩) l.length l.length ∧ Blk W g l
theorem run_eqs {ρ : Operand → Value} {o : Oper} {W : World} {x y : Operand} {a b : ByteArray} (ho : o.op = .binOp .eql 9 x y 9) (hx : ρ x = .string a) (hy : ρ y = .string b) : (execOp ρ o).run Tryz.prog W = .ok (.value (.bool (a.toList == b.toList))) W := by
  obtain ⟨d, op, ty, ps, af, gd⟩ := o
  subst ho
  go_simp
structure Lh (P X Y a0 b0 xl yl s U0 U1 L0 L1 a b : Int) (found : Bool) : Prop where
  P0 : 0 < P
  hX : X = a0 * P + xl
  hY : Y = b0 * P + yl
  xl0 : 0 ≤ xl
  xl1 : xl ≤ P
  yl0 : 0 ≤ yl
  yl1 : yl ≤ P
  s1 : s = 1 ∨ s = -1
  U00 : 0 ≤ U0
  U10 : 0 ≤ U1
  L00 : 0 ≤ L0
  L10 : 0 ≤ L1
  ea : a = s * U0 * a0 - s * U1 * b0
  eb : b = s * L1 * b0 - s * L0 * a0
  key : a * L1 + b * U1 = a0
  bl0 : 0 ≤ b - s * L0
  bl1 : 0 ≤ b + s * L1
  au0 : 0 ≤ a + s * U0
  au1 : 0 ≤ a - s * U1
  L01 : L0 ≤ L1
  L1p : 1 ≤ L1
  U01 : (U0 ≤ U1 ∧ 1 ≤ U1 ∧ found = true) ∨ (U0 = 1 ∧ U1 = 0 ∧ L0 = 0 ∧ L1 = 1 ∧ s = 1 ∧ b ≤ a)
  L1b : L1 < 1000000000
  U0b : U0 < 1000000000
  U1b : U1 < 1000000000
  ord : s * L1 * Y - s * L0 * X ≤ s * U0 * X - s * U1 * Y
  top : s * U0 * X - s * U1 * Y ≤ X
  gcd : Int.gcd (s * U0 * X - s * U1 * Y) (s * L1 * Y - s * L0 * X) = Int.gcd X Y
  dec : found = true → (s * U0 * X - s * U1 * Y) + (s * L1 * Y - s * L0 * X) < X + Y
  sum : (s * U0 * X - s * U1 * Y) + (s * L1 * Y - s * L0 * X) ≤ X + Y
theorem Lh.init {P X Y a0 b0 xl yl : Int} (P0 : 0 < P) (hX : X = a0 * P + xl) (hY : Y = b0 * P + yl) (xl0 : 0 ≤ xl) (xl1 : xl ≤ P) (yl0 : 0 ≤ yl) (yl1 : yl ≤ P) (ha : 0 ≤ a0) (hb : 0 ≤ b0) (hab : b0 ≤ a0) (hXY : Y ≤ X) : Lh P X Y a0 b0 xl yl 1 1 0 0 1 a0 b0 false where
  P0 := P0
  hX := hX
  hY := hY
  xl0 := xl0
  xl1 := xl1
  yl0 := yl0
  yl1 := yl1
  s1 := .inl rfl
  U00 := by omega
  U10 := by omega
  L00 := by omega
  L10 := by omega
  ea := by omega
  eb := by omega
  key := by omega
  bl0 := by omega
  bl1 := by omega
  au0 := by omega
  au1 := by omega
  L01 := by omega
  L1p := by omega
  U01 := .inr ⟨rfl, rfl, rfl, rfl, rfl, hab⟩
  L1b := by omega
  U0b := by omega
  U1b := by omega
  ord := by omega
  top := by omega
  gcd := by simp
  dec := by intro h; cases h
  sum := by omega
variable {P X Y a0 b0 xl yl s U0 U1 L0 L1 a b : Int} {found : Bool}
theorem Lh.X' (h : Lh P X Y a0 b0 xl yl s U0 U1 L0 L1 a b found) : s * U0 * X - s * U1 * Y = a * P + s * U0 * xl - s * U1 * yl := by
  rw [h.ea, h.hX, h.hY]; grind
theorem Lh.Y' (h : Lh P X Y a0 b0 xl yl s U0 U1 L0 L1 a b found) : s * L1 * Y - s * L0 * X = b * P + s * L1 * yl - s * L0 * xl := by
  rw [h.eb, h.hX, h.hY]; grind
theorem mix_lo {c P p q x y m : Int} (hx0 : 0 ≤ x) (hx1 : x ≤ P) (hy0 : 0 ≤ y) (hp : 0 ≤ p) (hq : 0 ≤ q) (h : m ≤ c - p) : m * P ≤ c * P - p * x + q * y := by
  have h1 : p * x ≤ p * P := Int.mul_le_mul_of_nonneg_left hx1 hp
  have h2 : 0 ≤ q * y := Int.mul_nonneg hq hy0
  have h3 : m * P ≤ (c - p) * P := Int.mul_le_mul_of_nonneg_right h (by omega)
  have h4 : (c - p) * P = c * P - p * P := by grind
  omega
theorem Lh.lowNonneg (h : Lh P X Y a0 b0 xl yl s U0 U1 L0 L1 a b found) : 0 ≤ s * L1 * Y - s * L0 * X := by
  rw [h.Y']
  rcases h.s1 with hs | hs
  · subst hs
    have := mix_lo (c := b) (P := P) (p := L0) (q := L1) (x := xl) (y := yl) (m := 0) h.xl0 h.xl1 h.yl0 h.L00 h.L10 (by have := h.bl0; omega)
    have e1 : (1 : Int) * L1 * yl = L1 * yl := by grind
    have e2 : (1 : Int) * L0 * xl = L0 * xl := by grind
    omega
  · subst hs
    have := mix_lo (c := b) (P := P) (p := L1) (q := L0) (x := yl) (y := xl) (m := 0) h.yl0 h.yl1 h.xl0 h.L10 h.L00 (by have := h.bl1; omega)
    have e1 : (-1 : Int) * L1 * yl = -(L1 * yl) := by grind
    have e2 : (-1 : Int) * L0 * xl = -(L0 * xl) := by grind
    omega
theorem Lh.bpos (h : Lh P X Y a0 b0 xl yl s U0 U1 L0 L1 a b found) : 0 ≤ b := by
  have := h.bl0; have := h.bl1; have := h.L00; have := h.L10
  rcases h.s1 with hs | hs <;> subst hs <;> omega
theorem Lh.apos (h : Lh P X Y a0 b0 xl yl s U0 U1 L0 L1 a b found) : 0 ≤ a := by
  have := h.au0; have := h.au1; have := h.U00; have := h.U10
  rcases h.s1 with hs | hs <;> subst hs <;> omega
theorem Lh.step (h : Lh P X Y a0 b0 xl yl s U0 U1 L0 L1 a b found) (q : Int) (hq0 : 0 ≤ q)
    (h00 : 0 ≤ (a + s * U0) - q * (b - s * L0)) (h01 : (a + s * U0) - q * (b - s * L0) < b - s * L0) (h10 : 0 ≤ (a - s * U1) - q * (b + s * L1)) (h11 : (a - s * U1) - q * (b + s * L1) < b + s * L1) (hb : U1 + q * L1 < 1000000000) :
    Lh P X Y a0 b0 xl yl (-s) L0 L1 (U0 + q * L0) (U1 + q * L1) b (a - q * b) true := by
  have hqL0 : 0 ≤ q * L0 := Int.mul_nonneg hq0 h.L00
  have hqL1 : 0 ≤ q * L1 := Int.mul_nonneg hq0 h.L10
  have hq01 : q * L0 ≤ q * L1 := Int.mul_le_mul_of_nonneg_left h.L01 hq0
  have hbp := h.bpos
  have hY0 := h.lowNonneg
  have hX' := h.X'
  have hY' := h.Y'
  have q1 : U0 + q * L0 ≤ U1 + q * L1 := by
    rcases h.U01 with h1 | ⟨rfl, rfl, rfl, rfl, rfl, hba⟩
    · omega
    · have : q ≠ 0 := by
        rintro rfl
        omega
      omega
  have hU1' : 1 ≤ U1 + q * L1 := by
    rcases h.U01 with h1 | ⟨rfl, rfl, rfl, rfl, rfl, hba⟩
    · omega
    · have : q ≠ 0 := by
        rintro rfl
        omega
      omega
  have hs2 : -s = 1 ∨ -s = -1 := by rcases h.s1 with hs | hs <;> subst hs <;> simp
  have hU00 := h.U00
  have hU10 := h.U10
  have hL1b := h.L1b
  -- the numbers of the new row
  have eX : -s * L0 * X - -s * L1 * Y = s * L1 * Y - s * L0 * X := by grind
  have eY : -s * (U1 + q * L1) * Y - -s * (U0 + q * L0) * X = (s * U0 * X - s * U1 * Y) - q * (s * L1 * Y - s * L0 * X) := by grind
  have hY2 : (s * U0 * X - s * U1 * Y) - q * (s * L1 * Y - s * L0 * X) = (a - q * b) * P + s * (U0 + q * L0) * xl - s * (U1 + q * L1) * yl := by rw [hX', hY']; grind
  have hlt : (s * U0 * X - s * U1 * Y) - q * (s * L1 * Y - s * L0 * X) < s * L1 * Y - s * L0 * X := by
    rw [hY2, hY']
    have hP := h.P0
    have e : (b * P + s * L1 * yl - s * L0 * xl) - ((a - q * b) * P + s * (U0 + q * L0) * xl - s * (U1 + q * L1) * yl) = (b - (a - q * b)) * P - s * (L0 + (U0 + q * L0)) * xl + s * (L1 + (U1 + q * L1)) * yl := by grind
    have hge : 1 * P ≤ (b - (a - q * b)) * P - s * (L0 + (U0 + q * L0)) * xl + s * (L1 + (U1 + q * L1)) * yl := by
      rcases h.s1 with hs | hs
      · subst hs
        have := mix_lo (c := b - (a - q * b)) (P := P) (p := L0 + (U0 + q * L0)) (q := L1 + (U1 + q * L1)) (x := xl) (y := yl) (m := 1) h.xl0 h.xl1 h.yl0 (by have := h.L00; omega) (by have := h.L10; omega) (by
          have e1 : q * (b - 1 * L0) = q * b - q * L0 := by grind
          omega)
        simp only [Int.one_mul] at this ⊢
        exact this
      · subst hs
        have := mix_lo (c := b - (a - q * b)) (P := P) (p := L1 + (U1 + q * L1)) (q := L0 + (U0 + q * L0)) (x := yl) (y := xl) (m := 1) h.yl0 h.yl1 h.xl0 (by have := h.L10; omega) (by have := h.L00; omega) (by
          have e1 : q * (b + -1 * L1) = q * b - q * L1 := by grind
          omega)
        have e2 : (b - (a - q * b)) * P - -1 * (L0 + (U0 + q * L0)) * xl + -1 * (L1 + (U1 + q * L1)) * yl = (b - (a - q * b)) * P - (L1 + (U1 + q * L1)) * yl + (L0 + (U0 + q * L0)) * xl := by grind
        rw [e2]
        exact this
    omega
  have hY'pos : 0 < s * L1 * Y - s * L0 * X := by
    -- the rest is not negative
    rcases Int.lt_or_le 0 (s * L1 * Y - s * L0 * X) with h1 | h1
    · exact h1
    · exfalso
      have h2 : s * L1 * Y - s * L0 * X = 0 := by omega
      rw [h2] at hlt
      have h3 := h.ord
      rw [h2] at h3
      omega
  have hqY : 0 ≤ q * (s * L1 * Y - s * L0 * X) := Int.mul_nonneg hq0 (by omega)
  exact {
    P0 := h.P0
    hX := h.hX
    hY := h.hY
    xl0 := h.xl0
    xl1 := h.xl1
    yl0 := h.yl0
    yl1 := h.yl1
    s1 := hs2
    U00 := h.L00
    U10 := h.L10
    L00 := by omega
    L10 := by omega
    ea := by rw [h.eb]; grind
    eb := by rw [h.ea, h.eb]; grind
    key := by rw [← h.key]; grind
    bl0 := by
      have e1 : (a + s * U0) - q * (b - s * L0) = a - q * b - -s * (U0 + q * L0) := by grind
      omega
    bl1 := by
      have e1 : (a - s * U1) - q * (b + s * L1) = a - q * b + -s * (U1 + q * L1) := by grind
      omega
    au0 := by have := h.bl0; have e : -s * L0 = -(s * L0) := by grind
              omega
    au1 := by have := h.bl1; have e : -s * L1 = -(s * L1) := by grind
              omega
    L01 := q1
    L1p := hU1'
    U01 := .inl ⟨h.L01, h.L1p, rfl⟩
    L1b := hb
    U0b := by have := h.L01; omega
    U1b := hL1b
    ord := by rw [eX, eY]; omega
    top := by rw [eX]; have := h.ord; have := h.top; omega
    gcd := by
      rw [eX, eY, ← h.gcd]
      generalize s * U0 * X - s * U1 * Y = x
      generalize s * L1 * Y - s * L0 * X = y
      rw [Int.gcd_comm y, Int.gcd_comm x y]
      have : x - q * y = x + y * -q := by grind
      rw [this, Int.gcd_add_mul_left_left, Int.gcd_comm]
    dec := by
      intro _
      rw [eX, eY]
      have h1 := h.sum
      by_cases e : q = 0
      · -- then a row has been made before
        subst e
        rcases h.U01 with h2 | ⟨rfl, rfl, rfl, rfl, rfl, hba⟩
        · have h3 := h.dec h2.2.2
          omega
        · exfalso; omega
      · have : 1 * (s * L1 * Y - s * L0 * X) ≤ q * (s * L1 * Y - s * L0 * X) := Int.mul_le_mul_of_nonneg_right (by omega) (by omega)
        omega
    sum := by
      rw [eX, eY]
      have h1 := h.sum
      omega }
end Go.Proofs.YtleijkgdpmfabaaGreatDoor
namespace Go.Proofs.YtleijkgdpmfabaaGreatDoor
open Go.RowKit
set_option maxRecDepth 100000 in
set_option maxHeartbeats 400000 in
theorem carried_any (t : Int) (h0 : -2000000000000000000 ≤ t) (h1 : t ≤ 2000000000000000000) (w : World) :
    Calls Tryz.prog 156 #[.int .i64 t] w fun e w' => e = .returned (.tuple #[.int .i64 (t / 1000000000), .int .i64 (t % 1000000000)]) ∧ w = w' := by
  obtain ⟨u, hu⟩ : ∃ u, 2000000000000000000 + t = u := ⟨_, rfl⟩
  have e1 : t / 1000000000 = u / 1000000000 - 2000000000 := by omega
  have e2 : t % 1000000000 = u % 1000000000 := by omega
  have u0 : 0 ≤ u := by omega
  have u1 : u ≤ 4000000000000000000 := by omega
  have w1 : IntKind.i64.wrap (2000000000000000000 + t) = u := by rw [IntWalk.i64_in _ (by omega)]; exact hu
  have q0 : 0 ≤ u / 1000000000 := by omega
  have q1 : u / 1000000000 ≤ 4000000000 := by omega
  have q2 : 0 ≤ u % 1000000000 := by omega
  have q3 : u % 1000000000 < 1000000000 := by omega
  rw [e1, e2]
  clear e1 e2 h0 h1 hu
  go_enter Tryz.func156, Tryz.ntmps156
  go_wp2_with fail
  go_ret2
  exact ⟨rfl, rfl⟩
structure ApA (B X Y : List Int) (r0 r1 : Int) (k : Nat) (over : Int) (z : List Int) : Prop where
  len : z.length = B.length
  dg : Dg (z.take k)
  rest : ∀ j, k ≤ j → iat z j = iat B j
  sum : val (z.take k) + pw k * over = r0 * val (X.take k) + r1 * val (Y.take k)
  lo : -2000000000 ≤ over
  hi : over ≤ 2000000000
theorem ApA.start (B X Y : List Int) (r0 r1 : Int) : ApA B X Y r0 r1 0 0 B :=
  ⟨rfl, by rw [List.take_zero]; exact Dg_nil, fun _ _ => rfl, by simp [val], by omega, by omega⟩
theorem ap_digit {a b r0 r1 : Int} (ha0 : 0 ≤ a) (ha1 : a < 1000000000) (hb0 : 0 ≤ b) (hb1 : b < 1000000000) (h00 : -1000000000 < r0) (h01 : r0 < 1000000000) (h10 : -1000000000 < r1) (h11 : r1 < 1000000000) :
    -999999998000000001 ≤ a * r0 ∧ a * r0 ≤ 999999998000000001 ∧ -999999998000000001 ≤ b * r1 ∧ b * r1 ≤ 999999998000000001 := by
  have e1 : a * r0 ≤ a * 999999999 := Int.mul_le_mul_of_nonneg_left (by omega) ha0
  have e2 : a * (-999999999) ≤ a * r0 := Int.mul_le_mul_of_nonneg_left (by omega) ha0
  have e3 : b * r1 ≤ b * 999999999 := Int.mul_le_mul_of_nonneg_left (by omega) hb0
  have e4 : b * (-999999999) ≤ b * r1 := Int.mul_le_mul_of_nonneg_left (by omega) hb0
  omega
theorem ApA.next {B X Y z : List Int} {r0 r1 over : Int} {k : Nat} (h : ApA B X Y r0 r1 k over z) (hx : Dg X) (hy : Dg Y) (hk : k < B.length) (hkx : k < X.length) (hky : k < Y.length) (h00 : -1000000000 < r0) (h01 : r0 < 1000000000) (h10 : -1000000000 < r1) (h11 : r1 < 1000000000) :
    ApA B X Y r0 r1 (k + 1) ((iat X k * r0 + iat Y k * r1 + over) / 1000000000) (z.set k ((iat X k * r0 + iat Y k * r1 + over) % 1000000000)) := by
  have hz : k < z.length := by rw [h.len]; omega
  have b1 := hx.all k
  have b2 := hy.all k
  have hb := ap_digit b1.1 b1.2 b2.1 b2.2 h00 h01 h10 h11
  have hl := h.lo
  have hh := h.hi
  have hs := h.sum
  have vx := val_take X k hkx
  have vy := val_take Y k hky
  obtain ⟨t, ht⟩ : ∃ t, iat X k * r0 + iat Y k * r1 + over = t := ⟨_, rfl⟩
  rw [ht]
  refine ⟨by rw [List.length_set]; exact h.len, ?_, fun j hj => ?_, ?_, by omega, by omega⟩
  · rw [take_set1 _ _ _ hz]
    exact Dg_append h.dg (Dg_cons (by omega) (by omega) Dg_nil)
  · rw [iat_set _ _ _ _ hz, if_neg (by omega)]
    exact h.rest j (by omega)
  · rw [take_set1 _ _ _ hz, val_snoc, List.length_take, Nat.min_eq_left (by omega), vx, vy]
    have e : pw (k + 1) * (t / 1000000000) + pw k * (t % 1000000000) = pw k * t := by
      show 1000000000 * pw k * (t / 1000000000) + pw k * (t % 1000000000) = pw k * t
      have : t = 1000000000 * (t / 1000000000) + t % 1000000000 := by omega
      generalize t / 1000000000 = q at *
      generalize t % 1000000000 = r at *
      rw [this]; grind
    have e2 : pw k * t = pw k * (iat X k * r0 + iat Y k * r1) + pw k * over := by rw [← ht]; grind
    have e3 : r0 * (val (X.take k) + pw k * iat X k) + r1 * (val (Y.take k) + pw k * iat Y k) = (r0 * val (X.take k) + r1 * val (Y.take k)) + pw k * (iat X k * r0 + iat Y k * r1) := by grind
    rw [e3, ← hs]
    generalize pw (k + 1) * (t / 1000000000) = u1 at *
    generalize pw k * (t % 1000000000) = u2 at *
    omega
theorem ApA.done {B X Y z : List Int} {r0 r1 over : Int} {n : Nat} (h : ApA B X Y r0 r1 n over z) (hn : n ≤ B.length) (h0 : 0 ≤ r0 * val (X.take n) + r1 * val (Y.take n)) (h1 : r0 * val (X.take n) + r1 * val (Y.take n) < pw n) : val (z.take n) = r0 * val (X.take n) + r1 * val (Y.take n) := by
  have hs := h.sum
  have hlo := h.dg.lo
  have hhi := h.dg.hi
  rw [List.length_take, h.len, Nat.min_eq_left hn] at hhi
  have hp := pw_pos n
  generalize r0 * val (X.take n) + r1 * val (Y.take n) = R at *
  have ho : over = 0 := by
    rcases Int.lt_trichotomy over 0 with h2 | h2 | h2
    · have : pw n * over ≤ pw n * (-1) := Int.mul_le_mul_of_nonneg_left (by omega) (by omega)
      omega
    · exact h2
    · have : pw n * 1 ≤ pw n * over := Int.mul_le_mul_of_nonneg_left (by omega) (by omega)
      omega
  subst ho
  omega
open Go.RowKit
structure Only2 (g h : Nat) (w w' : World) : Prop where
  os : w'.os = w.os
  tape : w'.tape = w.tape
  output : w'.output = w.output
  size : w.heap.size ≤ w'.heap.size
  block : ∀ k, k < w.heap.size → k ≠ g → k ≠ h → w'.heap[k]? = w.heap[k]?
section
variable {g h : Nat} {w w' w2 : World}
theorem Only2.setL (ho : Only2 g h w w') (i : Nat) (v : Value) : Only2 g h w (w'.setCell ⟨g, i, none⟩ v) :=
  ⟨ho.os, ho.tape, ho.output, Nat.le_trans ho.size (Below.setCell (Below.refl 0 w') (Nat.zero_le _) v (p := ⟨g, i, none⟩)).size, fun k hk hg hh => (Below.heap_setCell _ _ _ _ hg).trans (ho.block k hk hg hh)⟩
theorem Only2.setR (ho : Only2 g h w w') (i : Nat) (v : Value) : Only2 g h w (w'.setCell ⟨h, i, none⟩ v) :=
  ⟨ho.os, ho.tape, ho.output, Nat.le_trans ho.size (Below.setCell (Below.refl 0 w') (Nat.zero_le _) v (p := ⟨h, i, none⟩)).size, fun k hk hg hh => (Below.heap_setCell _ _ _ _ hh).trans (ho.block k hk hg hh)⟩
theorem Only2.drewN (ho : Only2 g h w w') (q : Nat) : Only2 g h w (w'.drewN q) := ⟨ho.os, ho.tape, ho.output, ho.size, ho.block⟩
theorem Only2.of_below (hb : Below w.heap.size w w') : Only2 g h w w' := ⟨hb.os, hb.tape, hb.output, hb.size, fun k hk _ _ => hb.block k hk⟩
theorem Only2.below {B : Nat} {w0 : World} (ho : Only2 g h w w') (hb : Below B w0 w) (hg : B ≤ g) (hh : B ≤ h) (hs : B ≤ w.heap.size) : Below B w0 w' :=
  ⟨ho.os.trans hb.os, ho.tape.trans hb.tape, ho.output.trans hb.output, Nat.le_trans hb.size ho.size, fun k hk => (ho.block k (by omega) (by omega) (by omega)).trans (hb.block k hk)⟩
end
def ApI (w : World) (gx gy : Nat) (X Y : List Int) (r00 r01 r10 r11 : Int) (k : Nat) (ov un : Int) (wr : World) : Prop :=
  ∃ zx zy, ApA X X Y r00 r01 k ov zx ∧ ApA Y X Y r10 r11 k un zy ∧ Blk wr gx zx ∧ Blk wr gy zy ∧ wr.heap[w.heap.size]? = some (.cells #[.int .i64 r00, .int .i64 r01, .int .i64 r10, .int .i64 r11] 116 (0, 0)) ∧ Only2 gx gy w wr
def ApP (w : World) (gx gy : Nat) (X Y : List Int) (r00 r01 r10 r11 : Int) (n : Nat) (e : Ending) (w' : World) : Prop :=
  ∃ ov un zx zy, e = .returned (.tuple #[]) ∧ ApA X X Y r00 r01 n ov zx ∧ ApA Y X Y r10 r11 n un zy ∧ Blk w' gx zx ∧ Blk w' gy zy ∧ Only2 gx gy w w'
set_option maxRecDepth 100000 in
set_option maxHeartbeats 1600000 in
theorem apply_any (gx gy n m cx cy : Nat) (X Y : List Int) (r00 r01 r10 r11 : Int) (w : World) (hX0 : Blk w gx X) (hY0 : Blk w gy Y) (hne : gx ≠ gy) (hnX : n ≤ X.length) (hnY : n ≤ Y.length) (hnm : n ≤ m) (hn : n ≤ 1099511627776) (hdx : Dg X) (hdy : Dg Y)
    (h00 : -1000000000 < r00) (h00' : r00 < 1000000000) (h01 : -1000000000 < r01) (h01' : r01 < 1000000000) (h10 : -1000000000 < r10) (h10' : r10 < 1000000000) (h11 : -1000000000 < r11) (h11' : r11 < 1000000000) :
    Calls Tryz.prog 140 #[.agg #[.int .i64 r00, .int .i64 r01, .int .i64 r10, .int .i64 r11], .slice (some ⟨gx, 0, none⟩) n cx, .slice (some ⟨gy, 0, none⟩) m cy] w (ApP w gx gy X Y r00 r01 r10 r11 n) := by
  have hgx := hX0.lt
  have hgy := hY0.lt
  have hI : Hid (ApI w gx gy X Y r00 r01 r10 r11 0 0 0 (w.alloc (.cells #[.int .i64 r00, .int .i64 r01, .int .i64 r10, .int .i64 r11] 116 (0, 0)))) := Lib.hid ⟨X, Y, ApA.start _ _ _ _ _, ApA.start _ _ _ _ _, hX0.later (below_new _ _), hY0.later (below_new _ _), heap_alloc_new _ _, Only2.of_below (below_new _ _)⟩
  have NX := Lib.hid hnX
  have NY := Lib.hid hnY
  have DX := Lib.hid hdx
  have DY := Lib.hid hdy
  clear hX0 hY0 hnX hnY hdx hdy
  go_enter Tryz.func140, Tryz.ntmps140
  go_upto_region 3 with fail
  go_loopw [6, 7, 13] (fun ov un i wr => ∃ (k : Nat) (over under : Int), k ≤ n ∧ i = .int .i64 (k : Int) ∧ ov = .int .i64 over ∧ un = .int .i64 under ∧ ApI w gx gy X Y r00 r01 r10 r11 k over under wr) (fun _ _ i _ => n - (intOf i).toNat)
  case atStart => exact ⟨0, 0, 0, Nat.zero_le _, rfl, rfl, rfl, hI.out⟩
  case round =>
    obtain ⟨k, over, under, hk, rfl, rfl, rfl, hL⟩ := hrel
    clear hI
    by_cases hlt : k < n
    · obtain ⟨zx, zy, hA, hB, hx, hy, hr, hO⟩ := hL
      have kX : k < X.length := by have := NX.out; omega
      have kY : k < Y.length := by have := NY.out; omega
      have kzx : k < zx.length := by rw [hA.len]; exact kX
      have kzy : k < zy.length := by rw [hB.len]; exact kY
      have cx := hx.cell kzx
      have cy := hy.cell kzy
      rw [hA.rest k (Nat.le_refl _)] at cx
      rw [hB.rest k (Nat.le_refl _)] at cy
      have fx := hx.free k
      have fy := hy.free k
      have c0 : wr.cell? ⟨w.heap.size, 0, none⟩ = some (.int .i64 r00) := by simp [World.cell?, hr]
      have c1 : wr.cell? ⟨w.heap.size, 1, none⟩ = some (.int .i64 r01) := by simp [World.cell?, hr]
      have c2 : wr.cell? ⟨w.heap.size, 2, none⟩ = some (.int .i64 r10) := by simp [World.cell?, hr]
      have c3 : wr.cell? ⟨w.heap.size, 3, none⟩ = some (.int .i64 r11) := by simp [World.cell?, hr]
      have nx : ¬ w.heap.size = gx := by omega
      have ny : ¬ w.heap.size = gy := by omega
      have hst : Hid (ApI w gx gy X Y r00 r01 r10 r11 (k + 1) ((iat X k * r00 + iat Y k * r01 + over) / 1000000000) ((iat X k * r10 + iat Y k * r11 + under) / 1000000000) (((wr.drewN 1).setCell ⟨gx, k, none⟩ (.int .i64 ((iat X k * r00 + iat Y k * r01 + over) % 1000000000))).setCell ⟨gy, k, none⟩ (.int .i64 ((iat X k * r10 + iat Y k * r11 + under) % 1000000000)))) :=
        Lib.hid ⟨_, _, hA.next DX.out DY.out kX kX kY h00 h00' h01 h01', hB.next DX.out DY.out kY kX kY h10 h10' h11 h11', ((hx.drewN 1).set _ _).other hne, ((hy.drewN 1).other (fun e => hne e.symm)).set _ _, by
          rw [heap_setCell_other _ _ _ _ ny, heap_setCell_other _ _ _ _ nx]; exact hr, ((hO.drewN 1).setL _ _).setR _ _⟩
      have bx := DX.out.all k
      have by_ := DY.out.all k
      have hdg := ap_digit bx.1 bx.2 by_.1 by_.2 h00 h00' h01 h01'
      have hdh := ap_digit bx.1 bx.2 by_.1 by_.2 h10 h10' h11 h11'
      have ol := hA.lo
      have oh := hA.hi
      have ul := hB.lo
      have uh := hB.hi
      generalize iat X k = U at *
      generalize iat Y k = V at *
      obtain ⟨bx0, bx1⟩ := bx
      obtain ⟨by0, by1⟩ := by_
      obtain ⟨d0, d1, d2, d3⟩ := hdg
      obtain ⟨d4, d5, d6, d7⟩ := hdh
      have hc1 : Hid (∀ W, Calls Tryz.prog 156 #[.int .i64 (U * r00 + V * r01 + over)] W fun e w' => e = .returned (.tuple #[.int .i64 ((U * r00 + V * r01 + over) / 1000000000), .int .i64 ((U * r00 + V * r01 + over) % 1000000000)]) ∧ W = w') := Lib.hid fun W => carried_any _ (by omega) (by omega) W
      have hc2 : Hid (∀ W, Calls Tryz.prog 156 #[.int .i64 (U * r10 + V * r11 + under)] W fun e w' => e = .returned (.tuple #[.int .i64 ((U * r10 + V * r11 + under) / 1000000000), .int .i64 ((U * r10 + V * r11 + under) % 1000000000)]) ∧ W = w') := Lib.hid fun W => carried_any _ (by omega) (by omega) W
      have k0 : 0 ≤ (k : Int) := by omega
      have k1 : (k : Int) < (n : Int) := by omega
      have k2 : (k : Int) < (m : Int) := by omega
      have hne' : ¬ gy = gx := fun e => hne e.symm
      clear hA hB hx hy hO hr hlt kX kY kzx kzy
      go_wp2_with fail
      go_region
      go_wp2_with (first
        | (go_at_call 156; (with_reducible refine (hc1.out _).mono ?_); rintro e w' ⟨rfl, rfl⟩)
        | (go_at_call 156; (with_reducible refine (hc2.out _).mono ?_); rintro e w' ⟨rfl, rfl⟩))
      exact ⟨⟨k + 1, _, _, by omega, by simp, rfl, rfl, hst.out⟩, by simp [intOf]; omega⟩
    · have hk' : k = n := by omega
      subst hk'
      have hL' := Lib.hid hL
      have k1 : ¬ (k : Int) < (k : Int) := by omega
      clear hL hlt
      go_wp2_with fail
      refine bodyPost_end (results_none rfl _ _ _) rfl ?_
      obtain ⟨zx, zy, hA, hB, hx, hy, hr, hO⟩ := hL'.out
      exact ⟨_, _, zx, zy, rfl, hA, hB, hx, hy, hO⟩
end Go.Proofs.YtleijkgdpmfabaaGreatDoor
