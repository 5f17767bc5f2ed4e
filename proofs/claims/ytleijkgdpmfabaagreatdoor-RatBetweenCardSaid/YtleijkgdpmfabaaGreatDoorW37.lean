/- Contracts of the package integer and its reference: The examples of package rat. -/
import Derived.Test.YtleijkgdpmfabaaGreatDoorW36
set_option linter.unusedVariables false
namespace Go.Proofs.YtleijkgdpmfabaaGreatDoor
open Go.RowKit
theorem txt_small {x : Int} (h : 0 < x.natAbs) (h2 : x.natAbs < 1000000000) : txt x = (if x < 0 then [45] else []) ++ Lib.itoa x.natAbs := by
  have hx : x ≠ 0 := by omega
  have e : digs x.natAbs = [(x.natAbs : Int)] := by
    rw [digs_pos (by omega), show x.natAbs / 1000000000 = 0 by omega, digs_zero, show x.natAbs % 1000000000 = x.natAbs by omega]
  unfold txt
  rw [if_neg hx, e]
  unfold txtD
  have : txtK [(x.natAbs : Int)] ([(x.natAbs : Int)].length - 1) ([(x.natAbs : Int)].length - 1) = [] := rfl
  rw [this, List.append_nil]
  congr 1
  by_cases h3 : x < 0 <;> simp [h3]
theorem qtx_of {q : Rat} {p d : Int} (h1 : q.num = p) (h2 : (q.den : Int) = d) (hd : d ≠ 1) : qtx q = txt p ++ [47] ++ txt d := by
  have hq : q.den ≠ 1 := fun e => hd (by rw [← h2, e]; rfl)
  rw [show qtx q = txt q.num ++ [47] ++ txt (qd q) from if_neg hq, h1, show qd q = d from (if_neg hq).trans h2]
theorem qtx1 : qtx (Rat.divInt 6 (-8)) = [45, 51, 47, 52] := by
  rw [qtx_of (p := -3) (d := 4) (by decide +kernel) (by decide +kernel) (by decide), txt_small (by decide) (by decide), txt_small (by decide) (by decide)]
  decide +kernel
theorem qtx2 : qtx (Rat.divInt 1 2 + Rat.divInt 1 3) = [53, 47, 54] := by
  rw [qtx_of (p := 5) (d := 6) (by decide +kernel) (by decide +kernel) (by decide), txt_small (by decide) (by decide), txt_small (by decide) (by decide)]
  decide +kernel
theorem txtm1 : txt (dq (Rat.divInt 6 (-8)).num ((Rat.divInt 6 (-8)).den : Int)) = [45, 49] := by
  rw [show dq (Rat.divInt 6 (-8)).num ((Rat.divInt 6 (-8)).den : Int) = -1 by decide +kernel, txt_small (by decide) (by decide)]
  decide +kernel
def okb : Nat → Int → Int → Int → Int → Bool
  | 0, _, _, _, _ => false
  | m + 1, a, b, c, d => decide (a.natAbs < 1000000000) && decide (b.natAbs < 1000000000) && decide (c.natAbs < 1000000000) && decide (d.natAbs < 1000000000) && (decide (dr a b = 0) || decide (d ≤ c - dq a b * d) || okb m d (c - dq a b * d) b (dr a b))
theorem okq_of {N : Nat} (hN : 1 ≤ N) : ∀ (m : Nat) (a b c d : Int), okb m a b c d = true → okq N m a b c d
  | 0, _, _, _, _, h => by cases h
  | m + 1, a, b, c, d, h => by
    unfold okb at h
    simp only [Bool.and_eq_true, Bool.or_eq_true, decide_eq_true_eq] at h
    obtain ⟨⟨⟨⟨h1, h2⟩, h3⟩, h4⟩, h5⟩ := h
    have key : ∀ z : Int, z.natAbs < 1000000000 → (digs z.natAbs).length ≤ N := fun z hz => Nat.le_trans (digs_one (by omega) (by omega)) hN
    refine ⟨key a h1, key b h2, key c h3, key d h4, ?_⟩
    rcases h5 with (h5 | h5) | h5
    · exact .inl h5
    · exact .inr (.inl h5)
    · exact .inr (.inr (okq_of hN m _ _ _ _ h5))
theorem least_of {a b r : Rat} {RR : List Int} (m : Nat) (hok : okb m a.num (a.den : Int) b.num (b.den : Int) = true) (hm : m ≤ 100) (hRR : qsL m a.num (a.den : Int) b.num (b.den : Int) = RR) (hRn : RR ≠ []) (hRl : RR.length ≤ 10) (hr : r.num = (fld RR 1 0).1 ∧ (r.den : Int) = (fld RR 1 0).2) :
    ∀ (W : World) (v0 v1 : Value), Vq 3 a v0 W → Vq 3 b v1 W → Calls Tryz.prog 97 #[v0, v1] W (RV (Vq 100 r) W) := fun W v0 v1 h0 h1 =>
  cLeast (m := m) (RR := RR) h0 h1 (by omega) (by omega) (okq_of (by omega) _ _ _ _ _ hok) (by omega) hRR hRn (by omega) (by omega) (by omega) hr
theorem betw1 (W : World) : Calls Tryz.prog 86 #[.int .i64 (1), .int .i64 (3), .int .i64 (2), .int .i64 (5)] W (RV (Vq 100 (Rat.divInt 1 3)) W) :=
  cL4Between rfl rfl rfl rfl (by omega) (by omega) (by omega) (by omega) (by omega) (by omega) (by omega) (by omega) fun W v0 v1 h0 h1 => cBetweenP h0 h1 (by omega) (by omega) (by decide +kernel) (by decide +kernel) (by decide +kernel) (least_of (RR := [0, 3]) 4 (by decide +kernel) (by omega) (by decide +kernel) (by decide) (by decide) (by decide +kernel))
theorem betw2 (W : World) : Calls Tryz.prog 86 #[.int .i64 (3), .int .i64 (10), .int .i64 (2), .int .i64 (5)] W (RV (Vq 100 (Rat.divInt 1 3)) W) :=
  cL4Between rfl rfl rfl rfl (by omega) (by omega) (by omega) (by omega) (by omega) (by omega) (by omega) (by omega) fun W v0 v1 h0 h1 => cBetweenP h0 h1 (by omega) (by omega) (by decide +kernel) (by decide +kernel) (by decide +kernel) (least_of (RR := [0, 3]) 4 (by decide +kernel) (by omega) (by decide +kernel) (by decide) (by decide) (by decide +kernel))
theorem betw3 (W : World) : Calls Tryz.prog 86 #[.int .i64 (-5), .int .i64 (2), .int .i64 (-3), .int .i64 (2)] W (RV (Vq 100 (-(Rat.divInt 2 1))) W) :=
  cL4Between rfl rfl rfl rfl (by omega) (by omega) (by omega) (by omega) (by omega) (by omega) (by omega) (by omega) fun W v0 v1 h0 h1 => cBetweenN h0 h1 (by omega) (by omega) (by decide +kernel) (by omega) (by decide +kernel) (by decide +kernel) (by decide +kernel) (least_of (RR := [2]) 4 (by decide +kernel) (by omega) (by decide +kernel) (by decide) (by decide) (by decide +kernel))
theorem betw4 (W : World) : Calls Tryz.prog 86 #[.int .i64 (-1), .int .i64 (2), .int .i64 (3), .int .i64 (1)] W (RV (Vq 100 0) W) :=
  cL4Between rfl rfl rfl rfl (by omega) (by omega) (by omega) (by omega) (by omega) (by omega) (by omega) (by omega) fun W v0 v1 h0 h1 => (cBetweenZ h0 h1 (by omega) (by omega) (by decide +kernel) (by decide +kernel) (by decide +kernel) (by decide +kernel)).mono fun e w h => h.le fun v w ⟨x, y, e1, e2, e3⟩ => ⟨x, y, e1, Vq_le e2 (by omega), e3⟩
theorem Stab_Vblk (l : List Int) : Stab [] (Vblk l) := fun _ _ _ ⟨g, h1, h2⟩ hr => ⟨g, h1, (hr.row g _ _ h2 (.inl (by simp))).trans h2⟩
instance (l : List Int) : Sb [] (Vblk l) := ⟨Stab_Vblk l⟩
theorem bslice_blk2 {ρ : Operand → Value} {o : Oper} {W : World} {a b : Int} (ho : o.op = .buildSlice 22 2 #[(0, .const (.int .i64 a)), (1, .const (.int .i64 b))]) (h1 : ρ (.const (.int .i64 a)) = .int .i64 a) (h2 : ρ (.const (.int .i64 b)) = .int .i64 b) : ∃ v w', (execOp ρ o).run Tryz.prog W = .ok (.value v) w' ∧ Below W.heap.size W w' ∧ Vblk [a, b] v w' := by
  refine ⟨.slice (some ⟨W.heap.size, 0, none⟩) 2 2, W.alloc (.cells #[.int .i64 a, .int .i64 b] 3), ?_, below_new _ _, ⟨_, rfl, Blk_new W [a, b]⟩⟩
  obtain ⟨dd, op, ty, ps, af, gd⟩ := o
  subst ho
  go_simp
theorem cIntsBy {W : World} {a b : Int} {v : Value} {lo : Nat} (h : Vblk [a, b] v W) (ha : -1000 ≤ a ∧ a ≤ 1000) (hb : -1000 ≤ b ∧ b ≤ 1000) (hlo : lo ≤ W.heap.size) : Calls Tryz.prog 87 #[v] W (RV (VBy lo (encIs [a, b])) W) := by
  obtain ⟨g, rfl, hg⟩ := h
  exact (refInts_any _ 2 2 [a, b] W hg.rdi (Lib.hid rfl) (by omega) (Lib.hid fun i hi => by
    match i, hi with
    | 0, _ => show -9223372036854775808 ≤ a ∧ a ≤ _; omega
    | 1, _ => show -9223372036854775808 ≤ b ∧ b ≤ _; omega) (by
    have h1 := enc_le (([a, b] : List Int).length : Int)
    have h2 := enc_le a
    have h3 := enc_le b
    unfold encIs
    simp only [List.flatMap_cons, List.flatMap_nil, List.length_append, List.length_nil]
    omega)).mono fun e w' ⟨v, he, ho, hb⟩ => ⟨v, he, ownsRow_base ho hlo, hb⟩
theorem code2 : encIs (codeL (Rat.divInt 1 2).num) ++ encIs (codeL (qd (Rat.divInt 1 2))) = encIs [1, 1] ++ encIs [1, 2] := by
  rw [show (Rat.divInt 1 2).num = 1 by decide +kernel, show qd (Rat.divInt 1 2) = 2 by decide +kernel]
  have e1 : codeL 1 = [1, 1] := by
    unfold codeL
    rw [show (1 : Int).natAbs = 1 by rfl, digs_pos (by omega), show 1 % 1000000000 = 1 by rfl, show 1 / 1000000000 = 0 by rfl, digs_zero]; rfl
  have e2 : codeL 2 = [1, 2] := by
    unfold codeL
    rw [show (2 : Int).natAbs = 2 by rfl, digs_pos (by omega), show 2 % 1000000000 = 2 by rfl, show 2 / 1000000000 = 0 by rfl, digs_zero]; rfl
  rw [e1, e2]
theorem encs_len (a b c d : Int) : (encIs [a, b] ++ encIs [c, d]).length ≤ 100 := by
  have h1 := enc_le (([a, b] : List Int).length : Int)
  have h2 := enc_le a
  have h3 := enc_le b
  have h4 := enc_le c
  have h5 := enc_le d
  have h6 := enc_le (([c, d] : List Int).length : Int)
  unfold encIs
  simp only [List.flatMap_cons, List.flatMap_nil, List.length_append, List.length_nil]
  omega
theorem cSameBy {W : World} {lo lo' : Nat} {l r : List UInt8} {v1 v2 : Value} (h1 : VBy lo l v1 W) (h2 : VBy lo' r v2 W) (e : l = r) (hl : r.length ≤ 1000000) : Calls Tryz.prog 60 #[v1, v2] W (RV (Vb true) W) := by
  subst e
  exact cSameB (VBy_t h1) (VBy_t h2) (by omega)
theorem pars1 (W : World) : Calls Tryz.prog 55 #[.string (bs [50, 47, 52])] W (RV (VTup (Vq 3 0) (Vi 2)) W) :=
  cQParseBad (S := [50, 47, 52]) (A := [50]) (B := [52]) (x := sg false 2) (y := sg false 4) rfl (by decide) (fun W v h => by
    obtain rfl : v = _ := h
    exact cCutV [50, 47, 52] [50] [52] 1 W (by decide) (by decide) (by decide) rfl rfl) (fun W v h => by
    obtain rfl : v = _ := h
    exact cParseV [50] [50] false 2 W (by decide) (by decide) (by decide) (by decide) (by decide) (by decide) (by decide) (by decide) (by omega) (by omega)) (fun W v h => by
    obtain rfl : v = _ := h
    exact cParseV [52] [52] false 4 W (by decide) (by decide) (by decide) (by decide) (by decide) (by decide) (by decide) (by decide) (by omega) (by omega)) (by rw [show (sg false 4).natAbs = 4 from rfl, digs_pos (by omega)]; simp) (by decide)
theorem pars2 (W : World) : Calls Tryz.prog 55 #[.string (bs [51, 47, 49])] W (RV (VTup (Vq 3 0) (Vi 2)) W) :=
  cQParseBad (S := [51, 47, 49]) (A := [51]) (B := [49]) (x := sg false 3) (y := sg false 1) rfl (by decide) (fun W v h => by
    obtain rfl : v = _ := h
    exact cCutV [51, 47, 49] [51] [49] 1 W (by decide) (by decide) (by decide) rfl rfl) (fun W v h => by
    obtain rfl : v = _ := h
    exact cParseV [51] [51] false 3 W (by decide) (by decide) (by decide) (by decide) (by decide) (by decide) (by decide) (by decide) (by omega) (by omega)) (fun W v h => by
    obtain rfl : v = _ := h
    exact cParseV [49] [49] false 1 W (by decide) (by decide) (by decide) (by decide) (by decide) (by decide) (by decide) (by decide) (by omega) (by omega)) (by rw [show (sg false 1).natAbs = 1 from rfl, digs_pos (by omega)]; simp) (by decide)
theorem pars3 (W : World) : Calls Tryz.prog 55 #[.string (bs [49, 47, 45, 50])] W (RV (VTup (Vq 3 0) (Vi 2)) W) :=
  cQParseBad (S := [49, 47, 45, 50]) (A := [49]) (B := [45, 50]) (x := sg false 1) (y := sg true 2) rfl (by decide) (fun W v h => by
    obtain rfl : v = _ := h
    exact cCutV [49, 47, 45, 50] [49] [45, 50] 1 W (by decide) (by decide) (by decide) rfl rfl) (fun W v h => by
    obtain rfl : v = _ := h
    exact cParseV [49] [49] false 1 W (by decide) (by decide) (by decide) (by decide) (by decide) (by decide) (by decide) (by decide) (by omega) (by omega)) (fun W v h => by
    obtain rfl : v = _ := h
    exact cParseV [45, 50] [50] true 2 W (by decide) (by decide) (by decide) (by decide) (by decide) (by decide) (by decide) (by decide) (by omega) (by omega)) (by rw [show (sg true 2).natAbs = 2 from rfl, digs_pos (by omega)]; simp) (by decide)
set_option maxRecDepth 100000 in
set_option maxHeartbeats 1600000 in
theorem cL4Lives {w : World}    (hT : Tb w) : Calls Tryz.prog 24 #[] w (RV (Vb true) w) := by
  go_enter Tryz.func24, Tryz.ntmps24
  have st0 : St w.heap.size w 103 [] [] _ w := St.begin (a := ⟨#[undef, undef, undef, undef, undef, undef, undef, undef, undef, undef, undef, undef, undef, undef, undef, undef, undef, undef, undef, undef, undef, undef, undef, undef, undef, undef, undef, undef, undef, undef, undef, undef, undef, undef, undef, undef, undef, undef, undef, undef, undef, undef, undef, undef, undef, undef, undef, undef, undef, undef, undef, undef, undef, undef, undef, undef, undef, undef, undef, undef, undef, undef, undef, undef, undef, undef, undef, undef, undef, undef, undef, undef, undef, undef, undef, undef, undef, undef, undef, undef, undef, undef, undef, undef, undef, undef, undef, undef, undef, undef, undef, undef, undef, undef, undef, undef, undef, undef, undef, undef, undef, undef, undef], []⟩) rfl rfl (fun _ h => absurd h (by simp))
  generalize (⟨#[undef, undef, undef, undef, undef, undef, undef, undef, undef, undef, undef, undef, undef, undef, undef, undef, undef, undef, undef, undef, undef, undef, undef, undef, undef, undef, undef, undef, undef, undef, undef, undef, undef, undef, undef, undef, undef, undef, undef, undef, undef, undef, undef, undef, undef, undef, undef, undef, undef, undef, undef, undef, undef, undef, undef, undef, undef, undef, undef, undef, undef, undef, undef, undef, undef, undef, undef, undef, undef, undef, undef, undef, undef, undef, undef, undef, undef, undef, undef, undef, undef, undef, undef, undef, undef, undef, undef, undef, undef, undef, undef, undef, undef, undef, undef, undef, undef, undef, undef, undef, undef, undef, undef], []⟩ : Act) = a0 at st0 ⊢
  repeat first|refine wp_seq ?_|refine wp_block ?_|refine wp_skip ?_|refine wp_exit ?_
  refine rg (BT := [(27, 4, 0)]) (Vl := [Vb (false)]) (B := []) (SL' := [(0, Vb (false))]) st0 ⟨ks, trivial⟩ ?_
  intro a1 w1 st1
  clear st0
  repeat first|refine wp_seq ?_|refine wp_block ?_|refine wp_skip ?_|refine wp_exit ?_
  refine rg (BT := [(27, 4, 0)]) (Vl := [Vq 3 (Rat.divInt (6) (-8)), VT, VT]) (B := [⟨1, some 1, some 2, 27, 4, Vq 3 (Rat.divInt (6) (-8)), VT⟩]) (SL' := [(0, Vb (false))]) st1 ⟨?s0, ks, ks, trivial⟩ ?_
  case s0 =>
    refine kc fun _ ac Wd h hd => ?_
    exact ⟨#[.int .i64 (6), .int .i64 (-8)], by simp [eval_const], cQOf (show Vi (6) (.int .i64 (6)) Wd from rfl) (show Vi (-8) (.int .i64 (-8)) Wd from rfl) (by omega) (by omega) (by omega) (by omega)⟩
  intro a2 w2 st2
  clear st1
  repeat first|refine wp_seq ?_|refine wp_block ?_|refine wp_skip ?_|refine wp_exit ?_
  refine rg (BT := [(27, 4, 0)]) (Vl := [VTup (Vq 3 (0)) (Vi (2)), VTup (Vq 3 (0)) (Vi (2)), Vq 3 (0), Vi (2), VT, VT, Vi (2)]) (B := [⟨1, none, none, 27, 4, Vq 3 (Rat.divInt (6) (-8)), VT⟩, ⟨2, some 4, some 5, 27, 4, Vq 3 (0), VT⟩]) (SL' := [(0, Vb (false)), (3, Vi (2))]) st2 ⟨?s0, ks, ks, ks, ks, ks, ks, trivial⟩ ?_
  case s0 => refine kc fun _ ac Wd h hd => ?_; exact ⟨#[.string (bs [50, 47, 52])], by simp [eval_const, bs], pars1 _⟩
  intro a3 w3 st3
  clear st2
  repeat first|refine wp_seq ?_|refine wp_block ?_|refine wp_skip ?_|refine wp_exit ?_
  refine rg (BT := [(27, 4, 0)]) (Vl := [VTup (Vq 3 (0)) (Vi (2)), VTup (Vq 3 (0)) (Vi (2)), Vq 3 (0), Vi (2), VT, VT, Vi (2)]) (B := [⟨1, none, none, 27, 4, Vq 3 (Rat.divInt (6) (-8)), VT⟩, ⟨2, none, none, 27, 4, Vq 3 (0), VT⟩, ⟨4, some 4, some 5, 27, 4, Vq 3 (0), VT⟩]) (SL' := [(0, Vb (false)), (3, Vi (2)), (5, Vi (2))]) st3 ⟨?s0, ks, ks, ks, ks, ks, ks, trivial⟩ ?_
  case s0 => refine kc fun _ ac Wd h hd => ?_; exact ⟨#[.string (bs [51, 47, 49])], by simp [eval_const, bs], pars2 _⟩
  intro a4 w4 st4
  clear st3
  repeat first|refine wp_seq ?_|refine wp_block ?_|refine wp_skip ?_|refine wp_exit ?_
  refine rg (BT := [(27, 4, 0)]) (Vl := [VTup (Vq 3 (0)) (Vi (2)), VTup (Vq 3 (0)) (Vi (2)), Vq 3 (0), Vi (2), VT, VT, Vi (2)]) (B := [⟨1, none, none, 27, 4, Vq 3 (Rat.divInt (6) (-8)), VT⟩, ⟨2, none, none, 27, 4, Vq 3 (0), VT⟩, ⟨4, none, none, 27, 4, Vq 3 (0), VT⟩, ⟨6, some 4, some 5, 27, 4, Vq 3 (0), VT⟩]) (SL' := [(0, Vb (false)), (3, Vi (2)), (5, Vi (2)), (7, Vi (2))]) st4 ⟨?s0, ks, ks, ks, ks, ks, ks, trivial⟩ ?_
  case s0 => refine kc fun _ ac Wd h hd => ?_; exact ⟨#[.string (bs [49, 47, 45, 50])], by simp [eval_const, bs], pars3 _⟩
  intro a5 w5 st5
  clear st4
  repeat first|refine wp_seq ?_|refine wp_block ?_|refine wp_skip ?_|refine wp_exit ?_
  refine rg (BT := [(27, 4, 0)]) (Vl := [Vq 3 (Rat.divInt (1) (1)), Vq 3 (Rat.divInt (0) (1)), VTup (Vq 3 (0)) (Vi (1)), VTup (Vq 3 (0)) (Vi (1)), Vq 3 (0), Vi (1), VT, VT, Vi (1)]) (B := [⟨1, none, none, 27, 4, Vq 3 (Rat.divInt (6) (-8)), VT⟩, ⟨2, none, none, 27, 4, Vq 3 (0), VT⟩, ⟨4, none, none, 27, 4, Vq 3 (0), VT⟩, ⟨6, none, none, 27, 4, Vq 3 (0), VT⟩, ⟨8, some 6, some 7, 27, 4, Vq 3 (0), VT⟩]) (SL' := [(0, Vb (false)), (3, Vi (2)), (5, Vi (2)), (7, Vi (2)), (9, Vi (1))]) st5 ⟨?s0, ?s1, ?s2, ks, ks, ks, ks, ks, ks, trivial⟩ ?_
  case s0 =>
    refine kc fun _ ac Wd h hd => ?_
    exact ⟨#[.int .i64 (1), .int .i64 (1)], by simp [eval_const], cQOf (show Vi (1) (.int .i64 (1)) Wd from rfl) (show Vi (1) (.int .i64 (1)) Wd from rfl) (by omega) (by omega) (by omega) (by omega)⟩
  case s1 =>
    refine kc fun _ ac Wd h hd => ?_
    exact ⟨#[.int .i64 (0), .int .i64 (1)], by simp [eval_const], cQOf (show Vi (0) (.int .i64 (0)) Wd from rfl) (show Vi (1) (.int .i64 (1)) Wd from rfl) (by omega) (by omega) (by omega) (by omega)⟩
  case s2 =>
    refine kc fun _ ac Wd h hd => ?_
    obtain ⟨v0, hv0, hV0⟩ := h.dp hd 27
    obtain ⟨v1, hv1, hV1⟩ := h.dp hd 28
    exact ⟨#[v0, v1], by simp [hv0, hv1], cBetweenA (show Vq 3 (Rat.divInt (1) (1)) v0 Wd from hV0) (show Vq 3 (Rat.divInt (0) (1)) v1 Wd from hV1) (by omega) (by omega) (by decide +kernel) (by decide +kernel)⟩
  intro a6 w6 st6
  clear st5
  repeat first|refine wp_seq ?_|refine wp_block ?_|refine wp_skip ?_|refine wp_exit ?_
  refine rg (BT := [(27, 4, 0)]) (Vl := [Vq 3 (Rat.divInt (6) (-8)), Vs (qtx (Rat.divInt (6) (-8))), Vb (true), Vb (true), Vq 3 (Rat.divInt (1) (2)), Vq 3 (Rat.divInt (1) (3)), Vq (3 + 3 + 1) ((Rat.divInt (1) (2)) + (Rat.divInt (1) (3))), Vs (qtx ((Rat.divInt (1) (2)) + (Rat.divInt (1) (3)))), Vb (true), Vb (true), Vb (true), Vq 3 (Rat.divInt (6) (-8)), Vz 3 (dq (Rat.divInt (6) (-8)).num ((Rat.divInt (6) (-8)).den : Int)), Vs (txt (dq (Rat.divInt (6) (-8)).num ((Rat.divInt (6) (-8)).den : Int))), Vb (true), Vb (true), Vb (true), Vq 3 (Rat.divInt (6) (-8)), Vz 3 (-(dq (-(Rat.divInt (6) (-8))).num ((-(Rat.divInt (6) (-8))).den : Int))), Vi (cmpI (-(dq (-(Rat.divInt (6) (-8))).num ((-(Rat.divInt (6) (-8))).den : Int))) 0), Vb (true), Vb (true), Vb (true)]) (B := [⟨1, none, none, 27, 4, Vq 3 (Rat.divInt (6) (-8)), VT⟩, ⟨2, none, none, 27, 4, Vq 3 (0), VT⟩, ⟨4, none, none, 27, 4, Vq 3 (0), VT⟩, ⟨6, none, none, 27, 4, Vq 3 (0), VT⟩, ⟨8, none, none, 27, 4, Vq 3 (0), VT⟩]) (SL' := [(0, Vb (false)), (3, Vi (2)), (5, Vi (2)), (7, Vi (2)), (9, Vi (1)), (10, Vb (true))]) st6 ⟨ks, ?s1, ?s2, ks, ?s4, ?s5, ?s6, ?s7, ?s8, ks, ks, ks, ?s12, ?s13, ?s14, ks, ks, ks, ?s18, ?s19, ?s20, ks, ks, trivial⟩ ?_
  case s1 => refine kc fun _ ac Wd h hd => ?_; obtain ⟨v0, hv0, hV0⟩ := h.dp hd 32; exact ⟨#[v0], by simp [hv0], cQText (show Vq 3 (Rat.divInt (6) (-8)) v0 Wd from hV0) (by omega) (by omega) (hT.later h.k.below)⟩
  case s2 =>
    refine kr fun _ ac Wd h hd => ?_
    obtain ⟨v0, hv0, hV0⟩ := h.dp hd 33
    exact ⟨_, run_eqsV rfl (hv0.trans hV0) (show _ = Value.string (bs [45, 51, 47, 52]) from rfl), congrArg Value.bool (by rw [qtx1]; rfl)⟩
  case s4 =>
    refine kc fun _ ac Wd h hd => ?_
    exact ⟨#[.int .i64 (1), .int .i64 (2)], by simp [eval_const], cQOf (show Vi (1) (.int .i64 (1)) Wd from rfl) (show Vi (2) (.int .i64 (2)) Wd from rfl) (by omega) (by omega) (by omega) (by omega)⟩
  case s5 =>
    refine kc fun _ ac Wd h hd => ?_
    exact ⟨#[.int .i64 (1), .int .i64 (3)], by simp [eval_const], cQOf (show Vi (1) (.int .i64 (1)) Wd from rfl) (show Vi (3) (.int .i64 (3)) Wd from rfl) (by omega) (by omega) (by omega) (by omega)⟩
  case s6 =>
    refine kc fun _ ac Wd h hd => ?_
    obtain ⟨v0, hv0, hV0⟩ := h.dp hd 36
    obtain ⟨v1, hv1, hV1⟩ := h.dp hd 37
    exact ⟨#[v0, v1], by simp [hv0, hv1], cQAdd (show Vq 3 (Rat.divInt (1) (2)) v0 Wd from hV0) (show Vq 3 (Rat.divInt (1) (3)) v1 Wd from hV1) (by omega) (by omega) (by omega) (by omega)⟩
  case s7 =>
    refine kc fun _ ac Wd h hd => ?_
    obtain ⟨v0, hv0, hV0⟩ := h.dp hd 38
    exact ⟨#[v0], by simp [hv0], cQText (show Vq (3 + 3 + 1) ((Rat.divInt (1) (2)) + (Rat.divInt (1) (3))) v0 Wd from hV0) (by omega) (by omega) (hT.later h.k.below)⟩
  case s8 => refine kr fun _ ac Wd h hd => ?_; obtain ⟨v0, hv0, hV0⟩ := h.dp hd 39; exact ⟨_, run_eqsV rfl (hv0.trans hV0) (show _ = Value.string (bs [53, 47, 54]) from rfl), congrArg Value.bool (by rw [qtx2]; rfl)⟩
  case s12 => refine kc fun _ ac Wd h hd => ?_; obtain ⟨v0, hv0, hV0⟩ := h.dp hd 43; exact ⟨#[v0], by simp [hv0], cQFloor (show Vq 3 (Rat.divInt (6) (-8)) v0 Wd from hV0) (by omega) (by omega)⟩
  case s13 =>
    refine kc fun _ ac Wd h hd => ?_
    obtain ⟨v0, hv0, hV0⟩ := h.dp hd 44
    exact ⟨#[v0], by simp [hv0], cTextV (show Vz 3 (dq (Rat.divInt (6) (-8)).num ((Rat.divInt (6) (-8)).den : Int)) v0 Wd from hV0) (by omega) (hT.later h.k.below)⟩
  case s14 => refine kr fun _ ac Wd h hd => ?_; obtain ⟨v0, hv0, hV0⟩ := h.dp hd 45; exact ⟨_, run_eqsV rfl (hv0.trans hV0) (show _ = Value.string (bs [45, 49]) from rfl), congrArg Value.bool (by rw [txtm1]; rfl)⟩
  case s18 => refine kc fun _ ac Wd h hd => ?_; obtain ⟨v0, hv0, hV0⟩ := h.dp hd 49; exact ⟨#[v0], by simp [hv0], cQCeil (show Vq 3 (Rat.divInt (6) (-8)) v0 Wd from hV0) (by omega) (by omega)⟩
  case s19 =>
    refine kc fun _ ac Wd h hd => ?_
    obtain ⟨v0, hv0, hV0⟩ := h.dp hd 50
    exact ⟨#[v0], by simp [hv0], cSign (show Vz 3 (-(dq (-(Rat.divInt (6) (-8))).num ((-(Rat.divInt (6) (-8))).den : Int))) v0 Wd from hV0) (by omega)⟩
  case s20 =>
    refine kr fun _ ac Wd h hd => ?_
    obtain ⟨v0, hv0, hV0⟩ := h.dp hd 51
    have hV0' : v0 = .int .i64 (cmpI (-(dq (-(Rat.divInt (6) (-8))).num ((-(Rat.divInt (6) (-8))).den : Int))) 0) := hV0
    exact ⟨_, run_eqi rfl (hv0.trans hV0') rfl, congrArg Value.bool (by decide +kernel)⟩
  intro a7 w7 st7
  clear st6
  repeat first|refine wp_seq ?_|refine wp_block ?_|refine wp_skip ?_|refine wp_exit ?_
  refine rg (BT := [(27, 4, 0)]) (Vl := [Vq 100 (Rat.divInt 1 3), Vq 3 (Rat.divInt (1) (3)), Vb (true), Vb (true), Vq 100 (Rat.divInt 1 3), Vq 3 (Rat.divInt (1) (3)), Vb (true), Vb (true), Vb (true), Vq 100 (-(Rat.divInt 2 1)), Vq 3 (Rat.divInt (-2) (1)), Vb (true), Vb (true), Vb (true), Vq 100 (0), Vq 1 (0), Vb (true), Vb (true), Vb (true)]) (B := [⟨1, none, none, 27, 4, Vq 3 (Rat.divInt (6) (-8)), VT⟩, ⟨2, none, none, 27, 4, Vq 3 (0), VT⟩, ⟨4, none, none, 27, 4, Vq 3 (0), VT⟩, ⟨6, none, none, 27, 4, Vq 3 (0), VT⟩, ⟨8, none, none, 27, 4, Vq 3 (0), VT⟩]) (SL' := [(0, Vb (false)), (3, Vi (2)), (5, Vi (2)), (7, Vi (2)), (9, Vi (1)), (10, Vb (true)), (11, Vb (true))]) st7 ⟨?s0, ?s1, ?s2, ks, ?s4, ?s5, ?s6, ks, ks, ?s9, ?s10, ?s11, ks, ks, ?s14, ?s15, ?s16, ks, ks, trivial⟩ ?_
  case s0 => refine kc fun _ ac Wd h hd => ?_; exact ⟨#[.int .i64 (1), .int .i64 (3), .int .i64 (2), .int .i64 (5)], by simp [eval_const], betw1 _⟩
  case s1 =>
    refine kc fun _ ac Wd h hd => ?_
    exact ⟨#[.int .i64 (1), .int .i64 (3)], by simp [eval_const], cR4Of (show Vi (1) (.int .i64 (1)) Wd from rfl) (show Vi (3) (.int .i64 (3)) Wd from rfl) (by omega) (by omega) (by omega) (by omega)⟩
  case s2 =>
    refine kc fun _ ac Wd h hd => ?_
    obtain ⟨v0, hv0, hV0⟩ := h.dp hd 54
    obtain ⟨v1, hv1, hV1⟩ := h.dp hd 55
    exact ⟨#[v0, v1], by simp [hv0, hv1], (cL4Same (Vq_le (M := (max 100 3)) (show Vq 100 (Rat.divInt 1 3) v0 Wd from hV0) (by omega)) (Vq_le (M := (max 100 3)) (show Vq 3 (Rat.divInt (1) (3)) v1 Wd from hV1) (by omega)) (by omega)).mono fun e w h => h.le fun v w hv => hv.trans (congrArg Value.bool (decide_eq_true (by decide +kernel)))⟩
  case s4 => refine kc fun _ ac Wd h hd => ?_; exact ⟨#[.int .i64 (3), .int .i64 (10), .int .i64 (2), .int .i64 (5)], by simp [eval_const], betw2 _⟩
  case s5 =>
    refine kc fun _ ac Wd h hd => ?_
    exact ⟨#[.int .i64 (1), .int .i64 (3)], by simp [eval_const], cR4Of (show Vi (1) (.int .i64 (1)) Wd from rfl) (show Vi (3) (.int .i64 (3)) Wd from rfl) (by omega) (by omega) (by omega) (by omega)⟩
  case s6 =>
    refine kc fun _ ac Wd h hd => ?_
    obtain ⟨v0, hv0, hV0⟩ := h.dp hd 58
    obtain ⟨v1, hv1, hV1⟩ := h.dp hd 59
    exact ⟨#[v0, v1], by simp [hv0, hv1], (cL4Same (Vq_le (M := (max 100 3)) (show Vq 100 (Rat.divInt 1 3) v0 Wd from hV0) (by omega)) (Vq_le (M := (max 100 3)) (show Vq 3 (Rat.divInt (1) (3)) v1 Wd from hV1) (by omega)) (by omega)).mono fun e w h => h.le fun v w hv => hv.trans (congrArg Value.bool (decide_eq_true (by decide +kernel)))⟩
  case s9 => refine kc fun _ ac Wd h hd => ?_; exact ⟨#[.int .i64 (-5), .int .i64 (2), .int .i64 (-3), .int .i64 (2)], by simp [eval_const], betw3 _⟩
  case s10 =>
    refine kc fun _ ac Wd h hd => ?_
    exact ⟨#[.int .i64 (-2), .int .i64 (1)], by simp [eval_const], cR4Of (show Vi (-2) (.int .i64 (-2)) Wd from rfl) (show Vi (1) (.int .i64 (1)) Wd from rfl) (by omega) (by omega) (by omega) (by omega)⟩
  case s11 =>
    refine kc fun _ ac Wd h hd => ?_
    obtain ⟨v0, hv0, hV0⟩ := h.dp hd 63
    obtain ⟨v1, hv1, hV1⟩ := h.dp hd 64
    exact ⟨#[v0, v1], by simp [hv0, hv1], (cL4Same (Vq_le (M := (max 100 3)) (show Vq 100 (-(Rat.divInt 2 1)) v0 Wd from hV0) (by omega)) (Vq_le (M := (max 100 3)) (show Vq 3 (Rat.divInt (-2) (1)) v1 Wd from hV1) (by omega)) (by omega)).mono fun e w h => h.le fun v w hv => hv.trans (congrArg Value.bool (decide_eq_true (by decide +kernel)))⟩
  case s14 => refine kc fun _ ac Wd h hd => ?_; exact ⟨#[.int .i64 (-1), .int .i64 (2), .int .i64 (3), .int .i64 (1)], by simp [eval_const], betw4 _⟩
  case s15 => exact kr fun _ ac Wd h hd => build_Rat0 rfl
  case s16 =>
    refine kc fun _ ac Wd h hd => ?_
    obtain ⟨v0, hv0, hV0⟩ := h.dp hd 68
    obtain ⟨v1, hv1, hV1⟩ := h.dp hd 69
    exact ⟨#[v0, v1], by simp [hv0, hv1], (cL4Same (Vq_le (M := (max 100 1)) (show Vq 100 (0) v0 Wd from hV0) (by omega)) (Vq_le (M := (max 100 1)) (show Vq 1 (0) v1 Wd from hV1) (by omega)) (by omega)).mono fun e w h => h.le fun v w hv => hv.trans (congrArg Value.bool (decide_eq_true (by decide +kernel)))⟩
  intro a8 w8 st8
  clear st7
  repeat first|refine wp_seq ?_|refine wp_block ?_|refine wp_skip ?_|refine wp_exit ?_
  have : Sb [] (VBy w.heap.size (encIs [1, 1])) := ⟨Stab_VBy (by simp)⟩
  have : Sb [] (VBy w.heap.size (encIs [1, 2])) := ⟨Stab_VBy (by simp)⟩
  replace st8 : St w.heap.size w 103 [⟨1, none, none, 27, 4, Vq 3 (Rat.divInt (6) (-8)), VT⟩, ⟨2, none, none, 27, 4, Vq 3 (0), VT⟩, ⟨4, none, none, 27, 4, Vq 3 (0), VT⟩, ⟨6, none, none, 27, 4, Vq 3 (0), VT⟩, ⟨8, none, none, 27, 4, Vq 3 (0), VT⟩] [(0, Vb (false)), (3, Vi (2)), (5, Vi (2)), (7, Vi (2)), (9, Vi (1)), (10, Vb (true)), (11, Vb (true))] a8 w8 := st8
  refine rgT (Vl := [Vblk [1, 1], VBy w.heap.size (encIs [1, 1]), Vblk [1, 2], VBy w.heap.size (encIs [1, 2])]) (k := 4) (A := VBy w.heap.size (encIs [1, 1] ++ encIs [1, 2])) (SL' := [(0, Vb (false)), (3, Vi (2)), (5, Vi (2)), (7, Vi (2)), (9, Vi (1)), (10, Vb (true)), (11, Vb (true))]) st8 ⟨?s0, ?s1, ?s2, ?s3, trivial⟩ rfl rfl rfl rfl rfl rfl rfl rfl (by kernel_rfl) (by kernel_rfl) ?tail ?_ (by kernel_rfl)
  case s0 => refine km fun _ ac Wd h hd => ?_; exact bslice_blk2 rfl (by simp [eval_const]) (by simp [eval_const])
  case s1 => refine kc fun _ ac Wd h hd => ?_; obtain ⟨v0, hv0, hV0⟩ := h.dp hd 72; exact ⟨#[v0], by simp [hv0], cIntsBy (show Vblk [1, 1] v0 Wd from hV0) (by omega) (by omega) h.n⟩
  case s2 => refine km fun _ ac Wd h hd => ?_; exact bslice_blk2 rfl (by simp [eval_const]) (by simp [eval_const])
  case s3 => refine kc fun _ ac Wd h hd => ?_; obtain ⟨v0, hv0, hV0⟩ := h.dp hd 74; exact ⟨#[v0], by simp [hv0], cIntsBy (show Vblk [1, 2] v0 Wd from hV0) (by omega) (by omega) h.n⟩
  case tail =>
    intro _ ac Wd h hd
    obtain ⟨v0, hv0, hV0⟩ := h.dp hd 73
    obtain ⟨v1, hv1, hV1⟩ := h.dp hd 75
    have l1 := encs_len 1 1 1 2
    rw [List.length_append] at l1
    exact app_By rfl hv0 hV0 hv1 hV1 (by unfold encIs; rw [List.length_append]; have := enc_pos (([1, 2] : List Int).length : Int); omega) (by omega) h.n
  intro a9 w9 st9
  clear st8
  repeat first|refine wp_seq ?_|refine wp_block ?_|refine wp_skip ?_|refine wp_exit ?_
  have : Sb [] (VBy w.heap.size (encIs (codeL (Rat.divInt (1) (2)).num) ++ encIs (codeL (qd (Rat.divInt (1) (2)))))) := ⟨Stab_VBy (by simp)⟩
  have : Sb [] (VBy w.heap.size (encIs [1, 1] ++ encIs [1, 2])) := ⟨Stab_VBy (by simp)⟩
  refine rg (BT := []) (Vl := [Vb (true), Vb (true), Vb (true), Vb (true), Vb (true), Vi (2), Vb (true), Vb (true), Vb (true), Vi (2), Vb (true), Vb (true), Vb (true), Vi (2), Vb (true), Vb (true), Vb (true), Vi (1), Vb (true), Vb (true), Vb (true), Vq 3 (Rat.divInt (1) (2)), VBy w.heap.size (encIs (codeL (Rat.divInt (1) (2)).num) ++ encIs (codeL (qd (Rat.divInt (1) (2))))), VBy w.heap.size (encIs [1, 1] ++ encIs [1, 2]), Vb (true), Vb (true), Vb (true)]) (B := []) (SL' := [(12, VBy w.heap.size (encIs [1, 1] ++ encIs [1, 2])), (3, Vi (2)), (5, Vi (2)), (7, Vi (2)), (9, Vi (1)), (10, Vb (true)), (11, Vb (true)), (0, Vb (true))]) st9 ⟨ks, ks, ks, ks, ks, ks, ?s6, ks, ks, ks, ?s10, ks, ks, ks, ?s14, ks, ks, ks, ?s18, ks, ks, ?s21, ?s22, ks, ?s24, ks, ks, trivial⟩ ?_
  case s6 => refine kr fun _ ac Wd h hd => ?_; obtain ⟨v0, hv0, hV0⟩ := h.dp hd 82; have hV0' : v0 = .int .i64 (2) := hV0; exact ⟨_, run_eqe rfl (hv0.trans hV0') rfl, congrArg Value.bool (rfl)⟩
  case s10 => refine kr fun _ ac Wd h hd => ?_; obtain ⟨v0, hv0, hV0⟩ := h.dp hd 86; have hV0' : v0 = .int .i64 (2) := hV0; exact ⟨_, run_eqe rfl (hv0.trans hV0') rfl, congrArg Value.bool (rfl)⟩
  case s14 => refine kr fun _ ac Wd h hd => ?_; obtain ⟨v0, hv0, hV0⟩ := h.dp hd 90; have hV0' : v0 = .int .i64 (2) := hV0; exact ⟨_, run_eqe rfl (hv0.trans hV0') rfl, congrArg Value.bool (rfl)⟩
  case s18 => refine kr fun _ ac Wd h hd => ?_; obtain ⟨v0, hv0, hV0⟩ := h.dp hd 94; have hV0' : v0 = .int .i64 (1) := hV0; exact ⟨_, run_eqe rfl (hv0.trans hV0') rfl, congrArg Value.bool (rfl)⟩
  case s21 =>
    refine kc fun _ ac Wd h hd => ?_
    exact ⟨#[.int .i64 (1), .int .i64 (2)], by simp [eval_const], cQOf (show Vi (1) (.int .i64 (1)) Wd from rfl) (show Vi (2) (.int .i64 (2)) Wd from rfl) (by omega) (by omega) (by omega) (by omega)⟩
  case s22 =>
    refine kc fun _ ac Wd h hd => ?_
    obtain ⟨v0, hv0, hV0⟩ := h.dp hd 98
    exact ⟨#[v0], by simp [hv0], (cQEncode (show Vq 3 (Rat.divInt (1) (2)) v0 Wd from hV0) (by omega)).mono fun e w h2 => h2.le fun v w hv => VBy_low hv h.n⟩
  case s24 =>
    refine kc fun _ ac Wd h hd => ?_
    obtain ⟨v0, hv0, hV0⟩ := h.dp hd 99
    obtain ⟨v1, hv1, hV1⟩ := h.dp hd 100
    exact ⟨#[v0, v1], by simp [hv0, hv1], cSameBy (show VBy w.heap.size (encIs (codeL (Rat.divInt (1) (2)).num) ++ encIs (codeL (qd (Rat.divInt (1) (2))))) v0 Wd from hV0) (show VBy w.heap.size (encIs [1, 1] ++ encIs [1, 2]) v1 Wd from hV1) code2 (by have := encs_len 1 1 1 2; omega)⟩
  intro a10 w10 st10
  clear st9
  repeat first|refine wp_seq ?_|refine wp_block ?_|refine wp_skip ?_|refine wp_exit ?_
  obtain ⟨vr, r1, r4⟩ := st10.slot (0, Vb (true)) (.tail _ (.tail _ (.tail _ (.tail _ (.tail _ (.tail _ (.tail _ (.head _))))))))
  exact wp_ret (bodyPost_ret (results_tmp rfl _ _ _) st10.defers ⟨_, congrArg Ending.returned (show _ = vr from r1), r4, st10.k.below⟩)
end Go.Proofs.YtleijkgdpmfabaaGreatDoor
