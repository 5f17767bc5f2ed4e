/- Contracts of the package integer and its reference: wire.putInt (as in the texts of stage 1). The reference: digit, normal, compared. The reference: Around, At, Same; the law's same. wire.Ints (as in the texts of stage 1). -/
import Derived.Test.YtmbkpcnpacncjaaDoorM6
import Derived.Test.YtmbkpcnpacncjaaDoorM1
import Derived.Laws.BitsAllLaws
import Derived.WalkMore
import Derived.Test.YtmbkpcnpacncjaaDoorM5
import Derived.Laws.BytesArg
import Derived.Lib.AppendStr
set_option linter.unusedVariables false
namespace Go.Proofs.YtmbkpcnpacncjaaDoor
open Go.RowKit


/-- what the digits are combined with -/
def flp (g : Bool) : Int := if g then 255 else 0
theorem flp_lo (g : Bool) : 0 ≤ flp g := by unfold flp; split <;> omega
theorem flp_hi (g : Bool) : flp g < 256 := by unfold flp; split <;> omega

theorem xor_255 : ∀ x : Fin 256, x.val ^^^ 255 = 255 - x.val := by decide +kernel
theorem xor_flp (g : Bool) (d : UInt8) : bits .xor .u8 (d.toNat : Int) (flp g) = ((fx g d).toNat : Int) := by
  have hd := d.toNat_lt
  rw [u8_xor _ _ (by omega) (by omega) (flp_lo g) (flp_hi g), fx_nat]
  cases g
  · simp [flp]
  · have := xor_255 ⟨d.toNat, hd⟩
    simp only [flp, if_true, Int.toNat_natCast]
    rw [show (255 : Int).toNat = 255 from rfl, this]
theorem below_grown {w w' : World} (h : Below w.heap.size w w') (row : Option Nat) : w.grownBy w' row := ⟨h.os, h.tape, h.output, h.size, fun k hk _ => h.block k hk⟩

/-- the array of digits after j digits of m: block B, made by the call -/
def CodeBlk (B : Nat) (w wr : World) (T : TypeId) (g : Bool) (m j : Nat) : Prop :=
  Below B w wr ∧ wr.heap.size = B + 1 ∧ ∃ c : Array Value, wr.heap[B]? = some (.cells c T (0, 0)) ∧ c.size = 9 ∧ ∀ i, i < j → c[8 - i]? = some (.int .u8 ((fx g (UInt8.ofNat (m / 256 ^ i % 256))).toNat : Int))

theorem CodeBlk.start (w : World) (T : TypeId) (c : Array Value) (h : c.size = 9) (g : Bool) (m : Nat) : CodeBlk w.heap.size w (w.alloc (.cells c T)) T g m 0 :=
  ⟨(Below.refl _ _).alloc (Nat.le_refl _) _, by simp, c, heap_alloc_new w _, h, fun i hi => by omega⟩

theorem CodeBlk.cell {B : Nat} {w wr : World} {T : TypeId} {g : Bool} {m j : Nat} (h : CodeBlk B w wr T g m j) (i : Nat) (hi : i < 9) : ∃ x, wr.cell? ⟨B, i, none⟩ = some x := by
  obtain ⟨_, _, c, hc, hs, _⟩ := h
  exact ⟨c[i], by simp [World.cell?, hc, hs, hi]⟩

theorem CodeBlk.free {B : Nat} {w wr : World} {T : TypeId} {g : Bool} {m j : Nat} (h : CodeBlk B w wr T g m j) (i : Nat) : wr.frozen? ⟨B, i, none⟩ = false := by
  obtain ⟨_, _, c, hc, hs, _⟩ := h
  simp [World.frozen?, hc]

theorem CodeBlk.step {B : Nat} {w wr : World} {T : TypeId} {g : Bool} {m j : Nat} (h : CodeBlk B w wr T g m j) (hj : j < 8) (x : Int) (hx : x = ((fx g (UInt8.ofNat (m / 256 ^ j % 256))).toNat : Int)) :
    CodeBlk B w (wr.setCell ⟨B, 8 - j, none⟩ (.int .u8 x)) T g m (j + 1) := by
  obtain ⟨hb, hz, c, hc, hs, hd⟩ := h
  refine ⟨hb.setCell (Nat.le_refl _) _, by simp [World.setCell, hz], _, heap_setCell_self _ _ _ _ _ _ hc, by simp [hs], fun i hi => ?_⟩
  rw [Array.getElem?_setIfInBounds]
  rcases Nat.lt_or_ge i j with h1 | h1
  · rw [if_neg (by omega)]; exact hd i h1
  · have : i = j := by omega
    subst this
    rw [if_pos rfl, if_pos (by omega), hx]

theorem slice9 (B k : Nat) (hk : k ≤ 8) (W : World) : (Instr.sliceAt 89 (.pointer (some ⟨B, 0, none⟩)) (some (.int .i64 ((8 - k : Nat) : Int))) none none).run Tryd.prog W = .ok (.slice (some ⟨B, 8 - k, none⟩) (k + 1) (k + 1)) W := by
  have hu : Tryd.prog.underlying 89 = some (.array 9 5) := Tryd.underlying89
  have hs : ∀ W, (sizeOf 5).run Tryd.prog W = .ok 1 W := fun W => by kernel_rfl
  have h1 : (((8 - k : Nat) : Int) ≤ 9) := by omega
  have h2 : (9 : Nat) ≠ 8 - k := by omega
  have h3 : 9 - (8 - k) = k + 1 := by omega
  have h4 : 0 + (8 - k) = 8 - k := by omega
  have ha : Tryd.prog.arrayLen 89 = 9 := by kernel_rfl
  have he : Tryd.prog.elem 89 = 5 := by kernel_rfl
  rw [run_sliceAt_array_l (P := Tryd.prog) W 89 ⟨B, 0, none⟩ (by rw [ha, he]; exact hu) .i64 ((8 - k : Nat) : Int) (by omega) (by rw [ha]; exact h1), he, ha, hs]
  simp [slicedAt, h2, h3, Addr.add]
  intro h; omega

theorem xor_low (g : Bool) (q : Nat) : bits .xor .u8 ((q : Int) % 256) (flp g) = ((fx g (UInt8.ofNat (q % 256))).toNat : Int) := by
  rw [← xor_flp, UInt8.toNat_ofNat_of_lt' (by have := Nat.mod_lt q (show 0 < 256 by omega); simpa using this)]
  rfl

theorem xor_ones (x : Nat) (h : x < 18446744073709551616) : 18446744073709551615 ^^^ x = 18446744073709551615 - x := by
  have h1 : (BitVec.allOnes 64 ^^^ BitVec.ofNat 64 x).toNat = 18446744073709551615 - x := by
    rw [BitVec.xor_comm, BitVec.xor_allOnes, BitVec.toNat_not, BitVec.toNat_ofNat, Nat.mod_eq_of_lt h]
  rw [BitVec.toNat_xor, BitVec.toNat_ofNat, Nat.mod_eq_of_lt h] at h1
  exact h1
theorem cpl_neg (m : Nat) (h : m < 9223372036854775808) : bits .xor .u64 IntKind.u64.max (IntKind.u64.wrap (-1 - (m : Int))) = (m : Int) := by
  have e : IntKind.u64.wrap (-1 - (m : Int)) = ((18446744073709551615 - m : Nat) : Int) := by
    simp [IntKind.wrap, IntKind.bits, IntKind.signed]
    omega
  have e2 : IntKind.u64.max = ((18446744073709551615 : Nat) : Int) := by decide
  rw [e, e2, u64_xor_nat _ _ (by omega) (by omega), xor_ones _ (by omega)]
  omega

theorem info_u8 : (Tryd.prog.info? 5).map (fun i => (i.zero, i.size, i.bytes)) = some (some (.int .u8 0), 1, 1) := by kernel_rfl

/-- bytes as values -/
def bvs (l : List UInt8) : List Value := l.map fun b => .int .u8 (b.toNat : Int)
theorem bvs_one (l : List UInt8) : ∀ u ∈ bvs l, u.oneCell' = true := by
  intro u hu
  simp only [bvs, List.mem_map] at hu
  obtain ⟨b, _, rfl⟩ := hu
  rfl
theorem bvs_length (l : List UInt8) : (bvs l).length = l.length := by simp [bvs]
theorem bvs_append (l r : List UInt8) : bvs (l ++ r) = bvs l ++ bvs r := by simp [bvs]

theorem news_length (g : Bool) (m : Nat) : (bvs (hd g (nd m) :: (lows (nd m) m).map (fx g))).length = (nd m + 1) * 1 := by simp [bvs, lows_length]

theorem head_xor (g : Bool) (k : Nat) (h8 : k ≤ 8) : bits BinOp.xor IntKind.u8 (136 - ((8 - k : Nat) : Int)) (flp g) = ((hd g k).toNat : Int) := by
  have h1 : (UInt8.ofNat (128 + k)).toNat = 128 + k := UInt8.toNat_ofNat_of_lt' (by show _ < 256; omega)
  have e : 136 - ((8 - k : Nat) : Int) = ((UInt8.ofNat (128 + k)).toNat : Int) := by rw [h1]; omega
  rw [e, xor_flp, fx_nat, h1]
  unfold hd
  cases g
  · simp only [Bool.false_eq_true, if_false]
    rw [h1]
  · simp only [if_true]
    rw [UInt8.toNat_ofNat_of_lt' (by show _ < 256; omega)]
    omega

theorem CodeBlk.news {B : Nat} {w wr : World} {T : TypeId} {g : Bool} {m : Nat} (h : CodeBlk B w wr T g m (nd m)) (h8 : nd m ≤ 8) (x : Int) (hx : x = ((hd g (nd m)).toNat : Int)) :
    ∀ j u, (bvs (hd g (nd m) :: (lows (nd m) m).map (fx g)))[j]? = some u → (wr.setCell ⟨B, 8 - nd m, none⟩ (.int .u8 x)).cell? ((⟨B, 8 - nd m, none⟩ : Addr).add j) = some u := by
  obtain ⟨_, _, c, hc, hs, hd'⟩ := h
  intro j u hu
  have ha : (⟨B, 8 - nd m, none⟩ : Addr).add j = ⟨B, 8 - nd m + j, none⟩ := by unfold Addr.add; split <;> simp_all
  rw [ha]
  simp only [World.cell?, heap_setCell_self _ _ _ _ _ _ hc]
  simp only [Option.isSome_none, Bool.false_eq_true, if_false, Array.getElem?_setIfInBounds]
  match j, hu with
  | 0, hu =>
    simp only [bvs, List.map_cons, List.getElem?_cons_zero, Option.some.injEq] at hu
    rw [Nat.add_zero, if_pos rfl, if_pos (by omega), hx, hu]
  | i + 1, hu =>
    have hi : i < nd m := by
      rcases Nat.lt_or_ge i (nd m) with h1 | h1
      · exact h1
      · simp only [bvs, List.map_cons, List.getElem?_cons_succ] at hu
        rw [List.getElem?_eq_none (by simp [lows_length]; exact h1)] at hu
        cases hu
    rw [if_neg (by omega), show 8 - nd m + (i + 1) = 8 - (nd m - 1 - i) from by omega, hd' _ (by omega), ← lows_getD _ _ _ hi]
    simp only [bvs, List.map_cons, List.getElem?_cons_succ, List.map_map] at hu
    rw [List.getElem?_map] at hu
    rw [List.getD_eq_getElem?_getD]
    cases hL : (lows (nd m) m)[i]? with
    | none => rw [hL] at hu; simp at hu
    | some d => rw [hL] at hu; simpa using hu

/-- what appending bytes to an owned row comes to -/
def PutPost (w : World) (base : Nat) (n0 : Nat) (xs : List Value) (l : List UInt8) (e : Ending) (w' : World) : Prop :=
  ∃ v', e = .returned v' ∧ w'.ownsRow base 5 1 v' (n0 + l.length) (xs ++ bvs l) ∧ Below base w w'

theorem putPost_of {w w1 w2 : World} {base n0 n : Nat} {v v' : Value} {xs : List Value} {l : List UInt8} (hb : base ≤ w1.heap.size) (h : Below base w w1) (hv : w1.ownsRow base 5 1 v n0 xs) (hl : (bvs l).length = n * 1) (ho : w2.ownsRow base 5 1 v' (n0 + n) (xs ++ bvs l)) (g : w1.grownBy w2 v.ownBlock) :
    PutPost w base n0 xs l (.returned v') w2 := by
  refine ⟨v', rfl, ?_, h.grown g hb fun k hk => (hv.lt k hk).1⟩
  rw [bvs_length, Nat.mul_one] at hl
  rw [hl]
  exact ho

set_option maxRecDepth 100000 in
set_option maxHeartbeats 800000 in
theorem putInt_pos (v : Value) (n0 : Nat) (xs : List Value) (base : Nat) (n : Int) (m : Nat) (w : World) (hown : w.ownsRow base 5 1 v n0 xs) (hb : base ≤ w.heap.size) (hn0 : n0 ≤ 70368744177664)
    (hn : Hid (n = (m : Int))) (hm : m < 9223372036854775808) :
    Calls Tryd.prog 65 #[v, .int .i64 n] w fun e w' => PutPost w base n0 xs (hd false (nd m) :: (lows (nd m) m).map (fx false)) e w' := by
  rw [hn.out]
  clear hn
  have h0 : (0 : Int) ≤ (m : Int) := by omega
  have h0' : (0 : Int) ≤ (m : Int) := by omega
  have h1 : (m : Int) ≤ 9223372036854775807 := by omega
  obtain ⟨i0, hi, hz0, hz1, hz2⟩ := info_parts info_u8
  have hm' := Lib.hid hm
  clear hm
  go_enter Tryd.func65, Tryd.ntmps65
  go_wp2
  go_step3
  go_wp2
  go_step3
  go_wp2
  go_loopw [5, 8] (fun q a wr => ∃ j : Nat, j ≤ nd m ∧ q = .int .u64 (m / 256 ^ j : Nat) ∧ a = .int .i64 (8 - j : Nat) ∧ CodeBlk w.heap.size w wr 89 false m j) (fun _ a _ => (intOf a).toNat)
  case atStart =>
    exact ⟨0, Nat.zero_le _, by simp, rfl, CodeBlk.start w _ _ rfl _ _⟩
  case round =>
    obtain ⟨j, hj, rfl, rfl, hC⟩ := hrel
    have h8 := nd_le m
    by_cases hq : j < nd m
    · have hq1 : 0 < m / 256 ^ j := Nat.pos_of_ne_zero fun e => by have := (nd_zero m j hm'.out (by omega)).1 e; omega
      have hq2 : m / 256 ^ j < 9223372036854775808 := Nat.lt_of_le_of_lt (Nat.div_le_self _ _) hm'.out
      have hst := Lib.hid (hC.step (show j < 8 by omega) _ (xor_flp false (UInt8.ofNat (m / 256 ^ j % 256))))
      obtain ⟨x0, hx0⟩ := hC.cell (8 - j) (by omega)
      have hf0 := hC.free (8 - j)
      have hC' := Lib.hid hC
      have hnx := Lib.hid (show m / 256 ^ (j + 1) = m / 256 ^ j / 256 from by rw [Nat.div_div_eq_div_mul, Nat.pow_succ])
      generalize m / 256 ^ j = q at *
      clear hC
      go_wp2
      refine ⟨⟨j + 1, by omega, by rw [hnx.out]; rfl, by rw [show ((8 - j : Nat) : Int) - 1 = ((8 - (j + 1) : Nat) : Int) from by omega], ?_⟩, by simp [intOf]; omega⟩
      have e := xor_low false q
      simp only [flp] at e
      rw [show (bits BinOp.xor IntKind.u8 ((q : Int) % 256) 0) = _ from e]
      have := hst.out
      rw [xor_flp] at this
      exact this
    · have hj' : j = nd m := by omega
      subst hj'
      have hq0 : m / 256 ^ nd m = 0 := (nd_zero m _ hm'.out h8).2 (Nat.le_refl _)
      rw [hq0]
      obtain ⟨x0, hx0⟩ := hC.cell (8 - nd m) (by omega)
      have hf0 := hC.free (8 - nd m)
      have hC' := Lib.hid hC
      clear hC
      have hnews := Lib.hid (hC'.out.news h8 (bits BinOp.xor IntKind.u8 (136 - ((8 - nd m : Nat) : Int)) 0) (head_xor false _ h8))
      have hbel := Lib.hid (hC'.out.1.setCell (p := ⟨w.heap.size, 8 - nd m, none⟩) (Nat.le_refl _) (.int .u8 (bits BinOp.xor IntKind.u8 (136 - ((8 - nd m : Nat) : Int)) 0)))
      have hown' := Lib.hid (hown.kept (below_grown hbel.out none) (by cases v.ownBlock <;> simp))
      have hsz := hbel.out.size
      have hlen := Lib.hid (news_length false m)
      generalize hk : nd m = k at *
      have hk' := Lib.hid hk
      have hsl := slice9 w.heap.size k h8
      clear hk hown hq0 hq hj hm'
      go_wp2_with (at_builtin; refine wpList_append_own _ rfl _ _ 55 rfl base 5 i0 (.int .u8 0) 1 1 Tryd.underlying55 hi hz0 hz1 hz2 rfl (by decide) _ _ _ rfl hown'.out ⟨w.heap.size, 8 - k, none⟩ (k + 1) (k + 1) (bvs (hd false k :: (lows k m).map (fx false))) rfl hlen.out hnews.out (bvs_one _) (by unfold maxLen; omega) (by omega) (by omega) ?_; intro v' w1 hown1 hgrow1 _; have hres : Hid (PutPost w base n0 xs (hd false k :: (lows k m).map (fx false)) (.returned v') w1) := Lib.hid (putPost_of (by omega) (hbel.out.mono hb) hown'.out hlen.out hown1 hgrow1); clear hown1 hgrow1)
      rw [Exit.noGoto_ret]
      go_ret
      have hres' := hres.out
      rw [← hk'.out] at hres'
      exact hres'

set_option maxRecDepth 100000 in
set_option maxHeartbeats 800000 in
theorem putInt_neg (v : Value) (n0 : Nat) (xs : List Value) (base : Nat) (n : Int) (m : Nat) (w : World) (hown : w.ownsRow base 5 1 v n0 xs) (hb : base ≤ w.heap.size) (hn0 : n0 ≤ 70368744177664)
    (hn : Hid (n = -1 - (m : Int))) (hm : m < 9223372036854775808) :
    Calls Tryd.prog 65 #[v, .int .i64 n] w fun e w' => PutPost w base n0 xs (hd true (nd m) :: (lows (nd m) m).map (fx true)) e w' := by
  rw [hn.out]
  clear hn
  have h0 : (-1 - (m : Int)) < 0 := by omega
  have h0' : (0 : Int) ≤ (m : Int) := by omega
  have h1 : (m : Int) ≤ 9223372036854775807 := by omega
  obtain ⟨i0, hi, hz0, hz1, hz2⟩ := info_parts info_u8
  have hm' := Lib.hid hm
  clear hm
  go_enter Tryd.func65, Tryd.ntmps65
  go_wp2
  go_step3
  go_wp2
  go_step3
  go_wp2
  go_loopw [5, 8] (fun q a wr => ∃ j : Nat, j ≤ nd m ∧ q = .int .u64 (m / 256 ^ j : Nat) ∧ a = .int .i64 (8 - j : Nat) ∧ CodeBlk w.heap.size w wr 89 true m j) (fun _ a _ => (intOf a).toNat)
  case atStart =>
    exact ⟨0, Nat.zero_le _, by rw [cpl_neg m hm'.out, Nat.pow_zero, Nat.div_one], rfl, CodeBlk.start w _ _ rfl _ _⟩
  case round =>
    obtain ⟨j, hj, rfl, rfl, hC⟩ := hrel
    have h8 := nd_le m
    by_cases hq : j < nd m
    · have hq1 : 0 < m / 256 ^ j := Nat.pos_of_ne_zero fun e => by have := (nd_zero m j hm'.out (by omega)).1 e; omega
      have hq2 : m / 256 ^ j < 9223372036854775808 := Nat.lt_of_le_of_lt (Nat.div_le_self _ _) hm'.out
      have hst := Lib.hid (hC.step (show j < 8 by omega) _ (xor_flp true (UInt8.ofNat (m / 256 ^ j % 256))))
      obtain ⟨x0, hx0⟩ := hC.cell (8 - j) (by omega)
      have hf0 := hC.free (8 - j)
      have hC' := Lib.hid hC
      have hnx := Lib.hid (show m / 256 ^ (j + 1) = m / 256 ^ j / 256 from by rw [Nat.div_div_eq_div_mul, Nat.pow_succ])
      generalize m / 256 ^ j = q at *
      clear hC
      go_wp2
      refine ⟨⟨j + 1, by omega, by rw [hnx.out]; rfl, by rw [show ((8 - j : Nat) : Int) - 1 = ((8 - (j + 1) : Nat) : Int) from by omega], ?_⟩, by simp [intOf]; omega⟩
      have e := xor_low true q
      simp only [flp] at e
      rw [show (bits BinOp.xor IntKind.u8 ((q : Int) % 256) 255) = _ from e]
      have := hst.out
      rw [xor_flp] at this
      exact this
    · have hj' : j = nd m := by omega
      subst hj'
      have hq0 : m / 256 ^ nd m = 0 := (nd_zero m _ hm'.out h8).2 (Nat.le_refl _)
      rw [hq0]
      obtain ⟨x0, hx0⟩ := hC.cell (8 - nd m) (by omega)
      have hf0 := hC.free (8 - nd m)
      have hC' := Lib.hid hC
      clear hC
      have hnews := Lib.hid (hC'.out.news h8 (bits BinOp.xor IntKind.u8 (136 - ((8 - nd m : Nat) : Int)) 255) (head_xor true _ h8))
      have hbel := Lib.hid (hC'.out.1.setCell (p := ⟨w.heap.size, 8 - nd m, none⟩) (Nat.le_refl _) (.int .u8 (bits BinOp.xor IntKind.u8 (136 - ((8 - nd m : Nat) : Int)) 255)))
      have hown' := Lib.hid (hown.kept (below_grown hbel.out none) (by cases v.ownBlock <;> simp))
      have hsz := hbel.out.size
      have hlen := Lib.hid (news_length true m)
      generalize hk : nd m = k at *
      have hk' := Lib.hid hk
      have hsl := slice9 w.heap.size k h8
      clear hk hown hq0 hq hj hm'
      go_wp2_with (at_builtin; refine wpList_append_own _ rfl _ _ 55 rfl base 5 i0 (.int .u8 0) 1 1 Tryd.underlying55 hi hz0 hz1 hz2 rfl (by decide) _ _ _ rfl hown'.out ⟨w.heap.size, 8 - k, none⟩ (k + 1) (k + 1) (bvs (hd true k :: (lows k m).map (fx true))) rfl hlen.out hnews.out (bvs_one _) (by unfold maxLen; omega) (by omega) (by omega) ?_; intro v' w1 hown1 hgrow1 _; have hres : Hid (PutPost w base n0 xs (hd true k :: (lows k m).map (fx true)) (.returned v') w1) := Lib.hid (putPost_of (by omega) (hbel.out.mono hb) hown'.out hlen.out hown1 hgrow1); clear hown1 hgrow1)
      rw [Exit.noGoto_ret]
      go_ret
      have hres' := hres.out
      rw [← hk'.out] at hres'
      exact hres'

theorem putInt_any (v : Value) (n0 : Nat) (xs : List Value) (base : Nat) (n : Int) (w : World) (hown : w.ownsRow base 5 1 v n0 xs) (hb : base ≤ w.heap.size) (hn0 : n0 ≤ 70368744177664) (h1 : -9223372036854775808 ≤ n) (h2 : n ≤ 9223372036854775807) :
    Calls Tryd.prog 65 #[v, .int .i64 n] w fun e w' => PutPost w base n0 xs (enc n) e w' := by
  have hm := mgn_lt n h1 h2
  unfold enc
  by_cases c : n < 0
  · have e : neg n = true := by simp [neg, c]
    rw [e]
    exact putInt_neg v n0 xs base n (mgn n) w hown hb hn0 (show n = _ by unfold mgn; rw [if_pos c]; omega) hm
  · have e : neg n = false := by simp [neg, c]
    rw [e]
    exact putInt_pos v n0 xs base n (mgn n) w hown hb hn0 (show n = _ by unfold mgn; rw [if_neg c]; omega) hm


end Go.Proofs.YtmbkpcnpacncjaaDoor

namespace Go.Proofs.YtmbkpcnpacncjaaDoor
open Go.RowKit

set_option maxRecDepth 100000 in
set_option maxHeartbeats 400000 in
theorem digit_any (a : Option Addr) (n c : Nat) (l : List Int) (i : Nat) (w : World) (hR0 : Rdi w a l) (hn0 : n = l.length) :
    Calls Tryd.prog 38 #[.slice a n c, .int .i64 (i : Int)] w fun e w' => e = .returned (.int .i64 (iat l i)) ∧ w = w' := by
  have hn := Lib.hid hn0
  by_cases h : i < n
  · obtain ⟨b, o, rfl, hc⟩ := Rdi_at hR0 i (by omega)
    have h1 : (i : Int) < (n : Int) := by omega
    have h2 : 0 ≤ (i : Int) := by omega
    generalize iat l i = x at hc ⊢
    clear hR0 hn0
    go_enter Tryd.func38, Tryd.ntmps38
    go_wp2_with fail
    go_ret
    exact ⟨rfl, rfl⟩
  · have h1 : ¬ (i : Int) < (n : Int) := by omega
    have h2 : Hid (iat l i = 0) := Lib.hid (iat_ge (by omega))
    clear hR0 hn0
    go_enter Tryd.func38, Tryd.ntmps38
    go_wp2_with fail
    go_ret
    exact ⟨by rw [h2.out]; rfl, rfl⟩

set_option maxRecDepth 100000 in
set_option maxHeartbeats 800000 in
theorem normal_any (neg : Bool) (a : Option Addr) (m c : Nat) (l : List Int) (w : World) (hR0 : Rdi w a l) (hm0 : m = l.length) (hmc : m ≤ c) (hm : c ≤ 9223372036854775807) (hd0 : Dg l) :
    Calls Tryd.prog 19 #[.bool neg, .slice a m c] w (RetF (fun q => a = some q) w (sg neg (val l))) := by
  have hR := Lib.hid hR0
  have hml := Lib.hid hm0
  have hd := Lib.hid hd0
  have hb0 := Lib.hid (below_new w (.cells #[.bool false, .slice none 0 0] 24))
  clear hR0 hm0 hd0
  go_enter Tryd.func19, Tryd.ntmps19
  go_wp2_with fail
  go_loopw [5] (fun n wr => ∃ k : Nat, k ≤ m ∧ n = .int .i64 (k : Int) ∧ Hid (∀ i, k ≤ i → i < l.length → iat l i = 0) ∧ wr = w.alloc (.cells #[.bool false, .slice none 0 0] 24)) (fun n _ => (intOf n).toNat)
  case atStart => exact ⟨m, Nat.le_refl _, rfl, Lib.hid (fun i h1 h2 => by have := hml.out; omega), rfl⟩
  case round =>
    obtain ⟨k, hk, rfl, hz, rfl⟩ := hrel
    by_cases h0 : k = 0
    · subst h0
      have ht : Hid (tlen l = 0) := Lib.hid (tlen_of l 0 (Nat.zero_le _) hz.out (.inl rfl))
      have hv : Hid (sg neg (val l) = 0) := Lib.hid (by rw [tlen_zero hd.out ht.out]; unfold sg; cases neg <;> rfl)
      rw [show ((0 : Nat) : Int) = 0 from rfl]
      go_wp2_with fail
      exact bodyPost_ret (v := .agg #[.bool false, .slice none 0 0]) (by simp [results, Tryd.results19, go_sem]) rfl ⟨_, _, _, _, rfl, by rw [hv.out]; exact IntAt_zero _ _ _ (by omega), below_new _ _, fun q hq => by cases hq⟩
    · obtain ⟨q, rfl⟩ : ∃ q, k = q + 1 := ⟨k - 1, by omega⟩
      obtain ⟨b, off, rfl, hc0⟩ := Rdi_at hR.out q (by rw [← hml.out]; omega)
      have hc := Below.cell_of' hb0.out hc0
      obtain ⟨x, hx⟩ : ∃ x, iat l q = x := ⟨_, rfl⟩
      rw [hx] at hc
      have hx' := Lib.hid hx
      clear hx h0 hc0
      have e1 : (((q + 1 : Nat) : Int)) = (q : Int) + 1 := by omega
      have e2 : (q : Int) + 1 - 1 = (q : Int) := by omega
      have h1 : (0 : Int) < (q : Int) + 1 := by omega
      have e3 : 0 ≤ (q : Int) := by omega
      rw [e1]
      by_cases hx0 : x = 0
      · subst hx0
        have hz2 : Hid (∀ i, q ≤ i → i < l.length → iat l i = 0) := Lib.hid (fun i h1 h2 => by
          rcases Nat.lt_or_ge q i with h | h
          · exact hz.out i (by omega) h2
          · rw [show i = q by omega]; exact hx'.out)
        go_wp2_with fail
        refine ⟨⟨q, by omega, rfl, hz2, trivial⟩, by simp [intOf]⟩
      · have hxb : (x == 0) = false := by simpa using hx0
        have ht : Hid (tlen l = q + 1) := Lib.hid (tlen_of l (q + 1) (by rw [← hml.out]; exact hk) hz.out (.inr (by rw [Nat.add_sub_cancel, hx'.out]; exact hx0)))
        have hI : Hid (∀ W, Below w.heap.size w W → IntAt W neg (some ⟨b, off, none⟩) (q + 1) c (sg neg (val l))) := Lib.hid (fun W hb => by rw [← ht.out]; exact made_is (Rdi_below hb hR.out) hd.out (by rw [ht.out]; omega) (by rw [← hml.out]; exact hmc) hm)
        have hqb : (((q : Int) + 1) == 0) = false := by simp; omega
        clear hx0
        go_wp2_with fail
        exact bodyPost_ret (v := .agg #[.bool neg, .slice (some ⟨b, off, none⟩) (q + 1) c]) (by simp [results, Tryd.results19, go_sem]) rfl ⟨_, _, _, _, rfl, hI.out _ (below_new _ _), below_new _ _, fun q hq => hq⟩
end Go.Proofs.YtmbkpcnpacncjaaDoor

namespace Go.Proofs.YtmbkpcnpacncjaaDoor
open Go.RowKit

/-- a number from 0 on, less than the second one -/
def arn (n most : Int) : Int := (if n < 0 then -(n + 1) else n) % most
theorem arn_lo (n most : Int) (h : 0 < most) : 0 ≤ arn n most := Int.emod_nonneg _ (by omega)
theorem arn_hi (n most : Int) (h : 0 < most) : arn n most < most := Int.emod_lt_of_pos _ h

set_option maxRecDepth 100000 in
set_option maxHeartbeats 400000 in
theorem around_any (n most : Int) (h1 : -9223372036854775808 ≤ n) (h2 : n ≤ 9223372036854775807) (h3 : 0 < most) (h4 : most ≤ 9223372036854775807) (w : World) :
    Calls Tryd.prog 6 #[.int .i64 n, .int .i64 most] w fun e w' => e = .returned (.int .i64 (arn n most)) ∧ w = w' := by
  have m0 : (most == 0) = false := by simp; omega
  by_cases h : n < 0
  · have hr : Hid (arn n most = (-(n + 1)) % most) := Lib.hid (by unfold arn; rw [if_pos h])
    have e1 : 0 ≤ -(n + 1) := by omega
    have e2 : -(n + 1) ≤ 9223372036854775807 := by omega
    have hlo := arn_lo n most h3
    have hhi := arn_hi n most h3
    rw [hr.out] at hlo hhi ⊢
    go_enter Tryd.func6, Tryd.ntmps6
    have e3 := Lib.hid (show -(n + 1).tmod most = -(n + 1) % most by rw [← Int.neg_tmod, Int.tmod_eq_emod_of_nonneg e1])
    go_wp2_with fail
    go_ret
    exact ⟨by rw [← e3.out]; rfl, rfl⟩
  · have hr : Hid (arn n most = n % most) := Lib.hid (by unfold arn; rw [if_neg h])
    have e1 : 0 ≤ n := by omega
    have hlo := arn_lo n most h3
    have hhi := arn_hi n most h3
    rw [hr.out] at hlo hhi ⊢
    go_enter Tryd.func6, Tryd.ntmps6
    go_wp2_with fail
    go_ret
    exact ⟨rfl, rfl⟩

def i64s (l : List Int) : Prop := ∀ i, i < l.length → -9223372036854775808 ≤ iat l i ∧ iat l i ≤ 9223372036854775807
/-- the number that a list gives at an index -/
def atv (l : List Int) (i : Int) (most : Int) : Int := if i < 0 ∨ (l.length : Int) ≤ i then 0 else arn (iat l i.toNat) most
theorem atv_lo (l : List Int) (i most : Int) (h : 0 < most) : 0 ≤ atv l i most := by unfold atv; split; omega; exact arn_lo _ _ h
theorem atv_hi (l : List Int) (i most : Int) (h : 0 < most) : atv l i most < most := by unfold atv; split; omega; exact arn_hi _ _ h

set_option maxRecDepth 100000 in
set_option maxHeartbeats 400000 in
theorem at_any (a : Option Addr) (n c : Nat) (l : List Int) (i : Nat) (most : Int) (w : World) (hR0 : Rdi w a l) (hn0 : n = l.length) (hi64 : i64s l) (hi : i ≤ 9223372036854775807) (h3 : 0 < most) (h4 : most ≤ 9223372036854775807) :
    Calls Tryd.prog 17 #[.slice a n c, .int .i64 (i : Int), .int .i64 most] w fun e w' => e = .returned (.int .i64 (atv l i most)) ∧ w = w' := by
  by_cases h : i < n
  · have hr : Hid (atv l i most = arn (iat l i) most) := Lib.hid (by unfold atv; rw [if_neg (by omega)]; rfl)
    obtain ⟨b, o, rfl, hc⟩ := Rdi_at hR0 i (by omega)
    have hb := hi64 i (by omega)
    have har : Hid (Calls Tryd.prog 6 #[.int .i64 (iat l i), .int .i64 most] w fun e w' => e = .returned (.int .i64 (arn (iat l i) most)) ∧ w = w') := Lib.hid (around_any _ _ hb.1 hb.2 h3 h4 w)
    rw [hr.out]
    have t1 : ¬ (i : Int) < 0 := by omega
    have t2 : (i : Int) < (n : Int) := by omega
    generalize arn (iat l i) most = r at har ⊢
    generalize iat l i = x at hc har
    clear hR0 hn0 hi64 hb
    go_enter Tryd.func17, Tryd.ntmps17
    go_wp2_with (go_at_call 6; refine har.out.mono ?_; rintro e w' ⟨rfl, rfl⟩)
    go_ret
    exact ⟨rfl, rfl⟩
  · have hr : Hid (atv l i most = 0) := Lib.hid (by unfold atv; rw [if_pos (by omega)])
    rw [hr.out]
    have t1 : ¬ (i : Int) < 0 := by omega
    have t2 : (n : Int) ≤ (i : Int) := by omega
    clear hR0 hn0 hi64
    go_enter Tryd.func17, Tryd.ntmps17
    go_wp2_with fail
    go_ret
    exact ⟨rfl, rfl⟩

theorem same_dec {x y : Int} : (decide (x < 0) = decide (y < 0) ∧ digs x.natAbs = digs y.natAbs) ↔ x = y := by
  constructor
  · rintro ⟨h1, h2⟩
    have h3 := digs_inj h2
    rw [decide_eq_decide] at h1
    omega
  · rintro rfl; exact ⟨rfl, rfl⟩
theorem list_ext {l m : List Int} (h : l.length = m.length) (h2 : ∀ i, i < l.length → iat l i = iat m i) : l = m := by
  apply List.ext_getElem h
  intro i h3 h4
  have := h2 i h3
  simpa [iat, h3, h4] using this

/-- what a round of Same needs -/
def SamL (w : World) (px : Option Addr) (cx : Nat) (py : Option Addr) (cy n : Nat) (wr : World) : Prop :=
  wr.cell? ⟨w.heap.size, 1, none⟩ = some (.slice px n cx) ∧ wr.cell? ⟨w.heap.size + 1, 1, none⟩ = some (.slice py n cy) ∧ Below w.heap.size w wr
theorem SamL.drewN {w : World} {px : Option Addr} {cx : Nat} {py : Option Addr} {cy n : Nat} {wr : World} (h : SamL w px cx py cy n wr) (q : Nat) : SamL w px cx py cy n (wr.drewN q) := ⟨h.1, h.2.1, below_drewN h.2.2 q⟩

set_option maxRecDepth 100000 in
set_option maxHeartbeats 1600000 in
theorem Same_any (nx ny : Bool) (px py : Option Addr) (lx cx ly cy : Nat) (x y : Int) (w : World) (hx0 : IntAt w nx px lx cx x) (hy0 : IntAt w ny py ly cy y) (hlx : lx ≤ 549755813887) (hly : ly ≤ 549755813887) :
    Calls Tryd.prog 28 #[.agg #[.bool nx, .slice px lx cx], .agg #[.bool ny, .slice py ly cy]] w fun e w' => e = .returned (.bool (decide (x = y))) ∧ Below w.heap.size w w' := by
  have hb : Below w.heap.size w ((w.alloc (.cells #[.bool nx, .slice px lx cx] 24)).alloc (.cells #[.bool ny, .slice py ly cy] 24)) := ((Below.refl _ _).alloc (Nat.le_refl _) _).alloc (by simp) _
  have hb' := Lib.hid hb
  have hdec := @same_dec x y
  obtain ⟨hnx, N1, H1, _⟩ := hx0
  obtain ⟨hny, N2, H2, _⟩ := hy0
  rw [← hnx, ← hny] at hdec
  obtain ⟨r, hr⟩ : ∃ r, decide (x = y) = r := ⟨_, rfl⟩
  have hT : Hid (nx = ny → digs x.natAbs = digs y.natAbs → r = true) := Lib.hid fun h1 h2 => by rw [← hr]; exact decide_eq_true (hdec.1 ⟨h1, h2⟩)
  have hF : Hid (¬ (nx = ny ∧ digs x.natAbs = digs y.natAbs) → r = false) := Lib.hid fun h => by rw [← hr]; exact decide_eq_false fun h2 => h (hdec.2 h2)
  rw [hr]
  generalize digs x.natAbs = l at N1 H1 hT hF
  generalize digs y.natAbs = m at N2 H2 hT hF
  clear hr hdec hnx hny hb
  have N1' := Lib.hid N1
  have N2' := Lib.hid N2
  have H1' := Lib.hid H1
  have H2' := Lib.hid H2
  clear N1 N2 H1 H2
  by_cases hn : nx = ny
  · subst hn
    have t1 : (nx != nx) = false := by simp
    by_cases hl : lx = ly
    · subst hl
      have t2 : ((lx : Int) != (lx : Int)) = false := by simp
      have hS0 : Hid ((((w.alloc (.cells #[.bool nx, .slice px lx cx] 24)).alloc (.cells #[.bool nx, .slice py lx cy] 24)).cell? ⟨w.heap.size, 1, none⟩ = some (.slice px lx cx)) ∧ (((w.alloc (.cells #[.bool nx, .slice px lx cx] 24)).alloc (.cells #[.bool nx, .slice py lx cy] 24)).cell? ⟨w.heap.size + 1, 1, none⟩ = some (.slice py lx cy))) := Lib.hid (by
        constructor
        · simp [World.cell?, show ((w.alloc (.cells #[.bool nx, .slice px lx cx] 24)).alloc (.cells #[.bool nx, .slice py lx cy] 24)).heap[w.heap.size]? = some (.cells #[.bool nx, .slice px lx cx] 24 (0, 0)) by rw [Below.heap_alloc _ _ _ (by simp)]; exact heap_alloc_new _ _]
        · have h := heap_alloc2_new w (.cells #[.bool nx, .slice px lx cx] 24) (.cells #[.bool nx, .slice py lx cy] 24)
          unfold World.cell?
          rw [h]
          rfl)
      go_enter Tryd.func28, Tryd.ntmps28
      go_wp2_with fail
      generalize (w.alloc (.cells #[.bool nx, .slice px lx cx] 24)).alloc (.cells #[.bool nx, .slice py lx cy] 24) = W1 at hS0 hb' ⊢
      go_loopw [5] (fun i wr => ∃ (k : Nat), k ≤ lx ∧ i = .int .i64 (k : Int) ∧ Hid (∀ j, j < k → iat l j = iat m j) ∧ SamL w px cx py cy lx wr) (fun i _ => lx - (intOf i).toNat)
      case atStart => exact ⟨0, Nat.zero_le _, rfl, Lib.hid (fun j hj => by omega), hS0.out.1, hS0.out.2, hb'.out⟩
      case round =>
        obtain ⟨k, hk, rfl, hall, hw⟩ := hrel
        have s1 := hw.1
        have s2 := hw.2.1
        have hB := Lib.hid hw.2.2
        have hw' := Lib.hid hw
        clear hw
        by_cases hlt : k < lx
        · obtain ⟨b1, o1, hpx, hc1⟩ := Rdi_at H1'.out k (by rw [← N1'.out]; exact hlt)
          obtain ⟨b2, o2, hpy, hc2⟩ := Rdi_at H2'.out k (by rw [← N2'.out]; exact hlt)
          have C1 := Below.cell_of' hB.out hc1
          have C2 := Below.cell_of' hB.out hc2
          obtain ⟨X, hX⟩ : ∃ X, iat l k = X := ⟨_, rfl⟩
          obtain ⟨Y, hY⟩ : ∃ Y, iat m k = Y := ⟨_, rfl⟩
          rw [hX] at C1
          rw [hY] at C2
          have hX' := Lib.hid hX
          have hY' := Lib.hid hY
          have k0 : 0 ≤ (k : Int) := by omega
          have k1 : (k : Int) < (lx : Int) := by omega
          have k2 : ((k : Int)).toNat = k := by omega
          clear hc1 hc2 hX hY
          subst hpx hpy
          by_cases hXY : X = Y
          · subst hXY
            have hne : (X != X) = false := by simp
            have hall2 : Hid (∀ j, j < k + 1 → iat l j = iat m j) := Lib.hid fun j hj => by
              rcases Nat.lt_or_ge j k with h | h
              · exact hall.out j h
              · rw [show j = k by omega, hX'.out, hY'.out]
            go_wp2_with fail
            go_quiet (fail)
            go_wp2_with fail
            exact ⟨⟨k + 1, by omega, by simp, hall2, hw'.out.drewN nq⟩, by simp [intOf]; omega⟩
          · have hne : (X != Y) = true := by simpa using hXY
            have hr0 : Hid (r = false) := Lib.hid (hF.out (fun h => hXY (by rw [← hX'.out, ← hY'.out, h.2])))
            clear hXY
            go_wp2_with fail
            go_quiet (fail)
            go_wp2_with fail
            go_ret
            exact ⟨by rw [hr0.out]; rfl, below_drewN hB.out _⟩
        · have hk' : k = lx := by omega
          subst hk'
          have hr1 : Hid (r = true) := Lib.hid (hT.out (by first | trivial | rfl) (list_ext (by rw [← N1'.out, ← N2'.out]) (fun i hi => hall.out i (by rw [N1'.out]; exact hi))))
          go_wp2_with fail
          go_ret
          exact ⟨by rw [hr1.out]; rfl, hB.out⟩
    · have t2 : ((lx : Int) != (ly : Int)) = true := by simp; omega
      have hr0 : Hid (r = false) := Lib.hid (hF.out (fun h => hl (by rw [N1'.out, N2'.out, h.2])))
      go_enter Tryd.func28, Tryd.ntmps28
      go_wp2_with fail
      go_ret
      exact ⟨by rw [hr0.out]; rfl, hb'.out⟩
  · have hr0 : Hid (r = false) := Lib.hid (hF.out (fun h => hn h.1))
    obtain rfl : ny = !nx := by cases nx <;> cases ny <;> first | rfl | exact absurd rfl hn
    have hnn : (nx == !nx) = false := by cases nx <;> rfl
    clear hn
    go_enter Tryd.func28, Tryd.ntmps28
    go_wp2_with fail
    go_ret
    exact ⟨by rw [hr0.out]; rfl, hb'.out⟩

set_option maxRecDepth 100000 in
set_option maxHeartbeats 400000 in
theorem same_any (nx ny : Bool) (px py : Option Addr) (lx cx ly cy : Nat) (x y : Int) (w : World) (hx0 : IntAt w nx px lx cx x) (hy0 : IntAt w ny py ly cy y) (hlx : lx ≤ 549755813887) (hly : ly ≤ 549755813887) (r : Bool) (hr : decide (x = y) = r) :
    Calls Tryd.prog 15 #[.agg #[.bool nx, .slice px lx cx], .agg #[.bool ny, .slice py ly cy]] w fun e w' => e = .returned (.bool r) ∧ Below w.heap.size w w' := by
  have hb : Below w.heap.size w ((w.alloc (.cells #[.bool nx, .slice px lx cx] 24)).alloc (.cells #[.bool ny, .slice py ly cy] 24)) := ((Below.refl _ _).alloc (Nat.le_refl _) _).alloc (by simp) _
  have hc : Hid (∀ W, Below w.heap.size w W → Calls Tryd.prog 28 #[.agg #[.bool nx, .slice px lx cx], .agg #[.bool ny, .slice py ly cy]] W fun e w' => e = .returned (.bool r) ∧ Below W.heap.size W w') :=
    Lib.hid fun W h => by rw [← hr]; exact Same_any nx ny px py lx cx ly cy x y W (hx0.later h) (hy0.later h) hlx hly
  have hb' := Lib.hid hb
  clear hx0 hy0 hr hb
  go_enter Tryd.func15, Tryd.ntmps15
  go_wp2_with (go_at_call 28; refine (hc.out _ hb'.out).mono ?_; rintro e w1 ⟨rfl, hb1⟩; have hB := Lib.hid (below_tr hb'.out hb1); clear hb1)
  go_ret
  exact ⟨rfl, hB.out⟩
end Go.Proofs.YtmbkpcnpacncjaaDoor

namespace Go.Proofs.YtmbkpcnpacncjaaDoor
open Go.RowKit


/-- decoding a length that is followed by parts of at least z bytes -/
def gl (z : Nat) (l : List UInt8) : Int × Nat × Int :=
  let r := gi l
  if r.2.2 ≠ 0 then (0, 0, r.2.2) else if r.1 < 0 then (0, 0, 2) else if ((l.length - r.2.1) / z : Nat) < r.1 then (0, 0, 3) else (r.1, r.2.1, 0)

/-- a list of bytes as a string -/
def bs (l : List UInt8) : ByteArray := ⟨l.toArray⟩

theorem strOf_byt (l : List UInt8) : strOfNums (l.map fun b => (b.toNat : Int)) = bs l := by
  unfold strOfNums bs
  congr 1
  simp [List.map_map, Function.comp_def]

theorem byt_map (l : List UInt8) (i : Nat) : (l.map fun b => (b.toNat : Int)).getD i 0 = byt l i := by
  unfold byt
  rcases Nat.lt_or_ge i l.length with h | h
  · simp [List.getD_eq_getElem?_getD, h]
  · simp [List.getD_eq_getElem?_getD, List.getElem?_eq_none h]

theorem run_bytes_string {P : Program} (src e dst : TypeId) (hs : P.underlying src = some (.slice e)) (he : P.underlying e = some (.int .u8)) (hd : P.underlying dst = some .string) (w : World) (a : Option Addr) (n c : Nat) (l : List UInt8) (hR : Rd w a l) (hn : n = l.length) :
    (convert src dst (.slice a n c)).run P w = .ok (.string (bs l)) w := by
  rcases hR with rfl | ⟨b, off, rfl, hc⟩
  · subst hn
    rw [run_convert_bytes_string w src dst e _ _ c hs he hd]
    cases a with
    | none => simp [Conv.bytesToString, bs]; rfl
    | some a =>
      have := run_bytesToString (P := P) w a 0 c [] (by simp [loadCells, loadCellsFrom])
      simp only [List.length_nil]
      rw [this]
      rfl
  · rw [run_convert_bytes_arg w src e hs he b off n c (l.map fun b => (b.toNat : Int)) (by simp [hn]) (fun i hi => by rw [hc i (by omega), byt_map]) dst hd, strOf_byt]

/-- an encoding in new memory -/
def EncPost (w : World) (l : List UInt8) (e : Ending) (w' : World) : Prop :=
  ∃ v', e = .returned v' ∧ w'.ownsRow w.heap.size 5 1 v' l.length (bvs l) ∧ Below w.heap.size w w'

theorem encPost_of {w w' : World} {l : List UInt8} {e : Ending} (h : PutPost w w.heap.size 0 [] l e w') : EncPost w l e w' := by
  obtain ⟨v', he, ho, g⟩ := h
  refine ⟨v', he, ?_, g⟩
  rw [Nat.zero_add, List.nil_append] at ho
  exact ho

/-- a string's bytes -/
def sl (s : ByteArray) : List UInt8 := s.data.toList
/-- the encoding of a list of integers -/
def encIs (l : List Int) : List UInt8 := enc (l.length : Int) ++ l.flatMap enc

/-- a row that grows while a list is encoded -/
def RowInv (w : World) (v : Value) (l : List UInt8) (wr : World) : Prop := wr.ownsRow w.heap.size 5 1 v l.length (bvs l) ∧ Below w.heap.size w wr

theorem RowInv.put {w wr w2 : World} {v : Value} {l r : List UInt8} {e : Ending} (h : RowInv w v l wr) (hp : PutPost wr w.heap.size l.length (bvs l) r e w2) : ∃ v2, e = .returned v2 ∧ RowInv w v2 (l ++ r) w2 := by
  obtain ⟨v2, he, ho, hb⟩ := hp
  exact ⟨v2, he, by rw [List.length_append, bvs_append]; exact ho, h.2.trans hb⟩

theorem flat_take {α : Type} (f : α → List UInt8) (l : List α) (k : Nat) (hk : k < l.length) (d : α) : (l.take (k + 1)).flatMap f = (l.take k).flatMap f ++ f (l.getD k d) := by
  rw [List.take_succ_eq_append_getElem hk, List.flatMap_append, List.flatMap_singleton]
  simp [hk]

theorem flat_take_le {α : Type} (f : α → List UInt8) (l : List α) (k : Nat) : ((l.take k).flatMap f).length ≤ (l.flatMap f).length := by
  have h := congrArg (fun l => (l.flatMap f).length) (List.take_append_drop k l)
  simp only [List.flatMap_append, List.length_append] at h
  omega

theorem enc_le (n : Int) : (enc n).length ≤ 9 := by rw [enc_length]; have := nd_le (mgn n); omega

set_option maxRecDepth 100000 in
set_option maxHeartbeats 800000 in
theorem putListInt_any (a : Option Addr) (n c : Nat) (l : List Int) (w : World) (hR : Rdi w a l) (hn : Hid (n = l.length)) (hmax : n ≤ 9223372036854775807) (hw : Hid (i64s l)) (hlen : (encIs l).length ≤ 70368744177664) :
    Calls Tryd.prog 64 #[.slice a n c, .func (.func 65) #[] #[]] w (EncPost w (encIs l)) := by
  have hR' := Lib.hid hR
  have hlen' := Lib.hid hlen
  clear hR hlen
  go_enter Tryd.func64, Tryd.ntmps64
  go_wp2_with (go_at_call 65; refine (putInt_any (.slice none 0 0) 0 [] w.heap.size _ _ (World.ownsRow_nil _ _ _ _) (Nat.le_refl _) (by omega) (by omega) (by omega)).mono ?_; intro e w1 hp; obtain ⟨v0, rfl, h0, h0'⟩ := encPost_of hp; have hI : Hid (RowInv w v0 (enc (n : Int)) w1) := Lib.hid ⟨h0, h0'⟩; clear hp h0 h0')
  go_loopw [5, 13] (fun b i wr => ∃ k : Nat, k ≤ n ∧ i = .int .i64 k ∧ RowInv w b (enc (n : Int) ++ (l.take k).flatMap enc) wr) (fun _ i _ => n - (intOf i).toNat)
  case atStart => exact ⟨0, Nat.zero_le _, rfl, by rw [List.take_zero, List.flatMap_nil, List.append_nil]; exact hI.out⟩
  case round =>
    obtain ⟨k, hk, rfl, hinv⟩ := hrel
    by_cases hlt : k < n
    · have hkl : k < l.length := by rw [← hn.out]; exact hlt
      obtain ⟨b0, off, rfl, hc⟩ := Rdi_at hR'.out k hkl
      have hcell := Below.cell_of' hinv.2 hc
      have hx := hw.out k hkl
      have hx1 := hx.1
      have hx2 := hx.2
      have hz := hinv.2.size
      have hl2 := Lib.hid (flat_take_le enc l k)
      have hl3 := hlen'.out
      have hinv' := Lib.hid hinv
      clear hinv hx hI
      have hll : (enc (n : Int) ++ (l.take k).flatMap enc).length ≤ 70368744177664 := by
        have := hl2.out
        unfold encIs at hl3
        rw [List.length_append] at hl3 ⊢
        rw [hn.out]
        omega
      clear hl3
      go_wp2_with (go_at_call 65; refine (putInt_any _ _ _ w.heap.size _ _ hinv'.out.1 hz hll hx1 hx2).mono ?_; intro e w2 hp; obtain ⟨v2, rfl, hI2⟩ := hinv'.out.put hp; have hJ := Lib.hid hI2; clear hp hI2)
      refine ⟨⟨k + 1, by omega, by simp, ?_⟩, by simp [intOf]; omega⟩
      rw [flat_take enc l k hkl 0, ← List.append_assoc]
      exact hJ.out
    · have hk' : k = n := by omega
      subst hk'
      rw [hn.out, List.take_length] at hinv
      have hJ := Lib.hid hinv
      clear hinv hI
      go_wp2
      go_ret
      exact ⟨_, rfl, hJ.out.1, hJ.out.2⟩

set_option maxRecDepth 100000 in
set_option maxHeartbeats 400000 in
theorem Ints_any (a : Option Addr) (n c : Nat) (l : List Int) (w : World) (hR : Rdi w a l) (hn : n = l.length) (hmax : n ≤ 9223372036854775807) (hw : i64s l) (hlen : (encIs l).length ≤ 70368744177664) :
    Calls Tryd.prog 52 #[.slice a n c] w (EncPost w (encIs l)) := by
  have hR' := Lib.hid hR
  have hn' := Lib.hid hn
  have hw' := Lib.hid hw
  have hl' := Lib.hid hlen
  clear hR hn hw hlen
  go_enter Tryd.func52, Tryd.ntmps52
  go_wp2_with (go_at_call 64; refine (putListInt_any _ _ _ l _ hR'.out hn' hmax hw' hl'.out).mono ?_; intro e w' hp; have hq := Lib.hid hp; obtain ⟨v', rfl, _, _⟩ := hp)
  go_ret
  exact hq.out

end Go.Proofs.YtmbkpcnpacncjaaDoor
