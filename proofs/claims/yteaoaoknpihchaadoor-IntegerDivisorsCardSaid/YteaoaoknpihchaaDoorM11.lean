/- Contracts of the package integer and its reference: wire.putInt (as in the texts of stage 1). The reference: digit, normal, compared. -/
import Derived.Test.YteaoaoknpihchaaDoorM10
import Derived.Test.YteaoaoknpihchaaDoorM2
import Derived.Laws.BitsAllLaws
import Derived.WalkMore
import Derived.Test.YteaoaoknpihchaaDoorM8
namespace Go.Proofs.YteaoaoknpihchaaDoor
open Go.RowKit


/-- what the digits are combined with -/
def flp (g : Bool) : Int := if g then 255 else 0
theorem flp_lo (g : Bool) : 0 ≤ flp g := by unfold flp; split <;> omega
theorem flp_hi (g : Bool) : flp g < 256 := by unfold flp; split <;> omega

theorem xor_255 : ∀ x : Fin 256, x.val ^^^ 255 = 255 - x.val := by decide +kernel
theorem xor_flp (g : Bool) (d : UInt8) : bits .xor .u8 (d.toNat : Int) (flp g) = ((fx g d).toNat : Int) := by
  have hd := d.toNat_lt
  rw [u8_xor _ _ (by omega) (by omega) (flp_lo g) (flp_hi g), fx_nat]
  cases g
  · simp [flp]
  · have := xor_255 ⟨d.toNat, hd⟩
    simp only [flp, if_true, Int.toNat_natCast]
    rw [show (255 : Int).toNat = 255 from rfl, this]
theorem xor_byt (g : Bool) (l : List UInt8) (k : Nat) : bits .xor .u8 (byt l k) (flp g) = ((fx g (l.getD k 0)).toNat : Int) := xor_flp g _

theorem or_digit (z d : Nat) (hz : z < 72057594037927936) (hd : d < 256) : bits .or .u64 (IntKind.u64.wrap ((z : Int) * 256)) (IntKind.u64.wrap (d : Int)) = ((256 * z + d : Nat) : Int) := by
  rw [show IntKind.u64.wrap ((z : Int) * 256) = ((256 * z : Nat) : Int) from by simp [IntKind.wrap, IntKind.bits, IntKind.signed]; omega, show IntKind.u64.wrap (d : Int) = (d : Int) from by simp [IntKind.wrap, IntKind.bits, IntKind.signed]; omega]
  rw [u64_or_nat _ _ (by omega) (by omega)]
  have := Nat.two_pow_add_eq_or_of_lt (i := 8) (b := d) (by omega) z
  simp only [Nat.reducePow] at this
  rw [← this]

theorem mag_step (g : Bool) (l : List UInt8) (k : Nat) (hk : k < l.length) (h8 : l.length ≤ 8) :
    bits .or .u64 (IntKind.u64.wrap ((mag g (l.take k) : Int) * 256)) (IntKind.u64.wrap (bits .xor .u8 (byt l k) (flp g))) = ((mag g (l.take (k + 1)) : Nat) : Int) := by
  have hl : (l.take k).length = k := by simp; omega
  have h1 := mag_lt g (l.take k)
  rw [hl] at h1
  have h2 : 256 ^ k ≤ 256 ^ 7 := Nat.pow_le_pow_right (by omega) (by omega)
  have h3 := (fx g (l.getD k 0)).toNat_lt
  rw [xor_byt, or_digit _ _ (by omega) (by omega), List.take_succ_eq_append_getElem hk, mag_snoc]
  simp [hk]

theorem lead_byt (g : Bool) (l : List UInt8) (h0 : 0 < l.length) : (byt l 0 == flp g) = lead0 g l := by
  cases l with
  | nil => simp at h0
  | cons d t =>
    show (((d.toNat : Int)) == flp g) = (fx g d == 0)
    have := d.toNat_lt
    have e : fx g d = 0 ↔ (d.toNat : Int) = flp g := by
      rw [← UInt8.toNat_inj, fx_nat]
      cases g <;> simp [flp] <;> omega
    rw [Bool.eq_iff_iff, beq_iff_eq, beq_iff_eq, e]




theorem below_grown {w w' : World} (h : Below w.heap.size w w') (row : Option Nat) : w.grownBy w' row := ⟨h.os, h.tape, h.output, h.size, fun k hk _ => h.block k hk⟩

/-- the array of digits after j digits of m: block B, made by the call -/
def CodeBlk (B : Nat) (w wr : World) (T : TypeId) (g : Bool) (m j : Nat) : Prop :=
  Below B w wr ∧ wr.heap.size = B + 1 ∧ ∃ c : Array Value, wr.heap[B]? = some (.cells c T (0, 0)) ∧ c.size = 9 ∧ ∀ i, i < j → c[8 - i]? = some (.int .u8 ((fx g (UInt8.ofNat (m / 256 ^ i % 256))).toNat : Int))

theorem CodeBlk.start (w : World) (T : TypeId) (c : Array Value) (h : c.size = 9) (g : Bool) (m : Nat) : CodeBlk w.heap.size w (w.alloc (.cells c T)) T g m 0 :=
  ⟨(Below.refl _ _).alloc (Nat.le_refl _) _, by simp, c, heap_alloc_new w _, h, fun i hi => by omega⟩

theorem CodeBlk.cell {B : Nat} {w wr : World} {T : TypeId} {g : Bool} {m j : Nat} (h : CodeBlk B w wr T g m j) (i : Nat) (hi : i < 9) : ∃ x, wr.cell? ⟨B, i, none⟩ = some x := by
  obtain ⟨_, _, c, hc, hs, _⟩ := h
  exact ⟨c[i], by simp [World.cell?, hc, hs, hi]⟩

theorem CodeBlk.free {B : Nat} {w wr : World} {T : TypeId} {g : Bool} {m j : Nat} (h : CodeBlk B w wr T g m j) (i : Nat) : wr.frozen? ⟨B, i, none⟩ = false := by
  obtain ⟨_, _, c, hc, hs, _⟩ := h
  simp [World.frozen?, hc]

theorem CodeBlk.step {B : Nat} {w wr : World} {T : TypeId} {g : Bool} {m j : Nat} (h : CodeBlk B w wr T g m j) (hj : j < 8) (x : Int) (hx : x = ((fx g (UInt8.ofNat (m / 256 ^ j % 256))).toNat : Int)) :
    CodeBlk B w (wr.setCell ⟨B, 8 - j, none⟩ (.int .u8 x)) T g m (j + 1) := by
  obtain ⟨hb, hz, c, hc, hs, hd⟩ := h
  refine ⟨hb.setCell (Nat.le_refl _) _, by simp [World.setCell, hz], _, heap_setCell_self _ _ _ _ _ _ hc, by simp [hs], fun i hi => ?_⟩
  rw [Array.getElem?_setIfInBounds]
  rcases Nat.lt_or_ge i j with h1 | h1
  · rw [if_neg (by omega)]; exact hd i h1
  · have : i = j := by omega
    subst this
    rw [if_pos rfl, if_pos (by omega), hx]

theorem slice9 (B k : Nat) (hk : k ≤ 8) (W : World) : (Instr.sliceAt 103 (.pointer (some ⟨B, 0, none⟩)) (some (.int .i64 ((8 - k : Nat) : Int))) none none).run Tryd.prog W = .ok (.slice (some ⟨B, 8 - k, none⟩) (k + 1) (k + 1)) W := by
  have hu : Tryd.prog.underlying 103 = some (.array 9 5) := Tryd.underlying103
  have hs : ∀ W, (sizeOf 5).run Tryd.prog W = .ok 1 W := fun W => by kernel_rfl
  have h1 : (((8 - k : Nat) : Int) ≤ 9) := by omega
  have h2 : (9 : Nat) ≠ 8 - k := by omega
  have h3 : 9 - (8 - k) = k + 1 := by omega
  have h4 : 0 + (8 - k) = 8 - k := by omega
  have ha : Tryd.prog.arrayLen 103 = 9 := by kernel_rfl
  have he : Tryd.prog.elem 103 = 5 := by kernel_rfl
  rw [run_sliceAt_array_l (P := Tryd.prog) W 103 ⟨B, 0, none⟩ (by rw [ha, he]; exact hu) .i64 ((8 - k : Nat) : Int) (by omega) (by rw [ha]; exact h1), he, ha, hs]
  simp [slicedAt, h2, h3, Addr.add]
  intro h; omega

theorem xor_low (g : Bool) (q : Nat) : bits .xor .u8 ((q : Int) % 256) (flp g) = ((fx g (UInt8.ofNat (q % 256))).toNat : Int) := by
  rw [← xor_flp, UInt8.toNat_ofNat_of_lt' (by have := Nat.mod_lt q (show 0 < 256 by omega); simpa using this)]
  rfl

theorem xor_ones (x : Nat) (h : x < 18446744073709551616) : 18446744073709551615 ^^^ x = 18446744073709551615 - x := by
  have h1 : (BitVec.allOnes 64 ^^^ BitVec.ofNat 64 x).toNat = 18446744073709551615 - x := by
    rw [BitVec.xor_comm, BitVec.xor_allOnes, BitVec.toNat_not, BitVec.toNat_ofNat, Nat.mod_eq_of_lt h]
  rw [BitVec.toNat_xor, BitVec.toNat_ofNat, Nat.mod_eq_of_lt h] at h1
  exact h1
theorem cpl_neg (m : Nat) (h : m < 9223372036854775808) : bits .xor .u64 IntKind.u64.max (IntKind.u64.wrap (-1 - (m : Int))) = (m : Int) := by
  have e : IntKind.u64.wrap (-1 - (m : Int)) = ((18446744073709551615 - m : Nat) : Int) := by
    simp [IntKind.wrap, IntKind.bits, IntKind.signed]
    omega
  have e2 : IntKind.u64.max = ((18446744073709551615 : Nat) : Int) := by decide
  rw [e, e2, u64_xor_nat _ _ (by omega) (by omega), xor_ones _ (by omega)]
  omega

theorem info_u8 : (Tryd.prog.info? 5).map (fun i => (i.zero, i.size, i.bytes)) = some (some (.int .u8 0), 1, 1) := by kernel_rfl

/-- bytes as values -/
def bvs (l : List UInt8) : List Value := l.map fun b => .int .u8 (b.toNat : Int)
theorem bvs_one (l : List UInt8) : ∀ u ∈ bvs l, u.oneCell' = true := by
  intro u hu
  simp only [bvs, List.mem_map] at hu
  obtain ⟨b, _, rfl⟩ := hu
  rfl
theorem bvs_length (l : List UInt8) : (bvs l).length = l.length := by simp [bvs]
theorem bvs_append (l r : List UInt8) : bvs (l ++ r) = bvs l ++ bvs r := by simp [bvs]

theorem news_length (g : Bool) (m : Nat) : (bvs (hd g (nd m) :: (lows (nd m) m).map (fx g))).length = (nd m + 1) * 1 := by simp [bvs, lows_length]

theorem head_xor (g : Bool) (k : Nat) (h8 : k ≤ 8) : bits BinOp.xor IntKind.u8 (136 - ((8 - k : Nat) : Int)) (flp g) = ((hd g k).toNat : Int) := by
  have h1 : (UInt8.ofNat (128 + k)).toNat = 128 + k := UInt8.toNat_ofNat_of_lt' (by show _ < 256; omega)
  have e : 136 - ((8 - k : Nat) : Int) = ((UInt8.ofNat (128 + k)).toNat : Int) := by rw [h1]; omega
  rw [e, xor_flp, fx_nat, h1]
  unfold hd
  cases g
  · simp only [Bool.false_eq_true, if_false]
    rw [h1]
  · simp only [if_true]
    rw [UInt8.toNat_ofNat_of_lt' (by show _ < 256; omega)]
    omega

theorem CodeBlk.news {B : Nat} {w wr : World} {T : TypeId} {g : Bool} {m : Nat} (h : CodeBlk B w wr T g m (nd m)) (h8 : nd m ≤ 8) (x : Int) (hx : x = ((hd g (nd m)).toNat : Int)) :
    ∀ j u, (bvs (hd g (nd m) :: (lows (nd m) m).map (fx g)))[j]? = some u → (wr.setCell ⟨B, 8 - nd m, none⟩ (.int .u8 x)).cell? ((⟨B, 8 - nd m, none⟩ : Addr).add j) = some u := by
  obtain ⟨_, _, c, hc, hs, hd'⟩ := h
  intro j u hu
  have ha : (⟨B, 8 - nd m, none⟩ : Addr).add j = ⟨B, 8 - nd m + j, none⟩ := by unfold Addr.add; split <;> simp_all
  rw [ha]
  simp only [World.cell?, heap_setCell_self _ _ _ _ _ _ hc]
  simp only [Option.isSome_none, Bool.false_eq_true, if_false, Array.getElem?_setIfInBounds]
  match j, hu with
  | 0, hu =>
    simp only [bvs, List.map_cons, List.getElem?_cons_zero, Option.some.injEq] at hu
    rw [Nat.add_zero, if_pos rfl, if_pos (by omega), hx, hu]
  | i + 1, hu =>
    have hi : i < nd m := by
      rcases Nat.lt_or_ge i (nd m) with h1 | h1
      · exact h1
      · simp only [bvs, List.map_cons, List.getElem?_cons_succ] at hu
        rw [List.getElem?_eq_none (by simp [lows_length]; exact h1)] at hu
        cases hu
    rw [if_neg (by omega), show 8 - nd m + (i + 1) = 8 - (nd m - 1 - i) from by omega, hd' _ (by omega), ← lows_getD _ _ _ hi]
    simp only [bvs, List.map_cons, List.getElem?_cons_succ, List.map_map] at hu
    rw [List.getElem?_map] at hu
    rw [List.getD_eq_getElem?_getD]
    cases hL : (lows (nd m) m)[i]? with
    | none => rw [hL] at hu; simp at hu
    | some d => rw [hL] at hu; simpa using hu

/-- what appending bytes to an owned row comes to -/
def PutPost (w : World) (base : Nat) (n0 : Nat) (xs : List Value) (l : List UInt8) (e : Ending) (w' : World) : Prop :=
  ∃ v', e = .returned v' ∧ w'.ownsRow base 5 1 v' (n0 + l.length) (xs ++ bvs l) ∧ Below base w w'

theorem putPost_of {w w1 w2 : World} {base n0 n : Nat} {v v' : Value} {xs : List Value} {l : List UInt8} (hb : base ≤ w1.heap.size) (h : Below base w w1) (hv : w1.ownsRow base 5 1 v n0 xs) (hl : (bvs l).length = n * 1) (ho : w2.ownsRow base 5 1 v' (n0 + n) (xs ++ bvs l)) (g : w1.grownBy w2 v.ownBlock) :
    PutPost w base n0 xs l (.returned v') w2 := by
  refine ⟨v', rfl, ?_, h.grown g hb fun k hk => (hv.lt k hk).1⟩
  rw [bvs_length, Nat.mul_one] at hl
  rw [hl]
  exact ho

set_option maxRecDepth 100000 in
set_option maxHeartbeats 800000 in
theorem putInt_pos (v : Value) (n0 : Nat) (xs : List Value) (base : Nat) (n : Int) (m : Nat) (w : World) (hown : w.ownsRow base 5 1 v n0 xs) (hb : base ≤ w.heap.size) (hn0 : n0 ≤ 70368744177664)
    (hn : Hid (n = (m : Int))) (hm : m < 9223372036854775808) :
    Calls Tryd.prog 82 #[v, .int .i64 n] w fun e w' => PutPost w base n0 xs (hd false (nd m) :: (lows (nd m) m).map (fx false)) e w' := by
  rw [hn.out]
  clear hn
  have h0 : (0 : Int) ≤ (m : Int) := by omega
  have h0' : (0 : Int) ≤ (m : Int) := by omega
  have h1 : (m : Int) ≤ 9223372036854775807 := by omega
  obtain ⟨i0, hi, hz0, hz1, hz2⟩ := info_parts info_u8
  have hm' := Lib.hid hm
  clear hm
  go_enter Tryd.func82, Tryd.ntmps82
  go_wp2
  go_step3
  go_wp2
  go_step3
  go_wp2
  go_loopw [5, 8] (fun q a wr => ∃ j : Nat, j ≤ nd m ∧ q = .int .u64 (m / 256 ^ j : Nat) ∧ a = .int .i64 (8 - j : Nat) ∧ CodeBlk w.heap.size w wr 103 false m j) (fun _ a _ => (intOf a).toNat)
  case atStart =>
    exact ⟨0, Nat.zero_le _, by simp, rfl, CodeBlk.start w _ _ rfl _ _⟩
  case round =>
    obtain ⟨j, hj, rfl, rfl, hC⟩ := hrel
    have h8 := nd_le m
    by_cases hq : j < nd m
    · have hq1 : 0 < m / 256 ^ j := Nat.pos_of_ne_zero fun e => by have := (nd_zero m j hm'.out (by omega)).1 e; omega
      have hq2 : m / 256 ^ j < 9223372036854775808 := Nat.lt_of_le_of_lt (Nat.div_le_self _ _) hm'.out
      have hst := Lib.hid (hC.step (show j < 8 by omega) _ (xor_flp false (UInt8.ofNat (m / 256 ^ j % 256))))
      obtain ⟨x0, hx0⟩ := hC.cell (8 - j) (by omega)
      have hf0 := hC.free (8 - j)
      have hC' := Lib.hid hC
      have hnx := Lib.hid (show m / 256 ^ (j + 1) = m / 256 ^ j / 256 from by rw [Nat.div_div_eq_div_mul, Nat.pow_succ])
      generalize m / 256 ^ j = q at *
      clear hC
      go_wp2
      refine ⟨⟨j + 1, by omega, by rw [hnx.out]; rfl, by rw [show ((8 - j : Nat) : Int) - 1 = ((8 - (j + 1) : Nat) : Int) from by omega], ?_⟩, by simp [intOf]; omega⟩
      have e := xor_low false q
      simp only [flp] at e
      rw [show (bits BinOp.xor IntKind.u8 ((q : Int) % 256) 0) = _ from e]
      have := hst.out
      rw [xor_flp] at this
      exact this
    · have hj' : j = nd m := by omega
      subst hj'
      have hq0 : m / 256 ^ nd m = 0 := (nd_zero m _ hm'.out h8).2 (Nat.le_refl _)
      rw [hq0]
      obtain ⟨x0, hx0⟩ := hC.cell (8 - nd m) (by omega)
      have hf0 := hC.free (8 - nd m)
      have hC' := Lib.hid hC
      clear hC
      have hnews := Lib.hid (hC'.out.news h8 (bits BinOp.xor IntKind.u8 (136 - ((8 - nd m : Nat) : Int)) 0) (head_xor false _ h8))
      have hbel := Lib.hid (hC'.out.1.setCell (p := ⟨w.heap.size, 8 - nd m, none⟩) (Nat.le_refl _) (.int .u8 (bits BinOp.xor IntKind.u8 (136 - ((8 - nd m : Nat) : Int)) 0)))
      have hown' := Lib.hid (hown.kept (below_grown hbel.out none) (by cases v.ownBlock <;> simp))
      have hsz := hbel.out.size
      have hlen := Lib.hid (news_length false m)
      generalize hk : nd m = k at *
      have hk' := Lib.hid hk
      have hsl := slice9 w.heap.size k h8
      clear hk hown hq0 hq hj hm'
      go_wp2_with (at_builtin; refine wpList_append_own _ rfl _ _ 60 rfl base 5 i0 (.int .u8 0) 1 1 Tryd.underlying60 hi hz0 hz1 hz2 rfl (by decide) _ _ _ rfl hown'.out ⟨w.heap.size, 8 - k, none⟩ (k + 1) (k + 1) (bvs (hd false k :: (lows k m).map (fx false))) rfl hlen.out hnews.out (bvs_one _) (by unfold maxLen; omega) (by omega) (by omega) ?_; intro v' w1 hown1 hgrow1 _; have hres : Hid (PutPost w base n0 xs (hd false k :: (lows k m).map (fx false)) (.returned v') w1) := Lib.hid (putPost_of (by omega) (hbel.out.mono hb) hown'.out hlen.out hown1 hgrow1); clear hown1 hgrow1)
      rw [Exit.noGoto_ret]
      go_ret
      have hres' := hres.out
      rw [← hk'.out] at hres'
      exact hres'

set_option maxRecDepth 100000 in
set_option maxHeartbeats 800000 in
theorem putInt_neg (v : Value) (n0 : Nat) (xs : List Value) (base : Nat) (n : Int) (m : Nat) (w : World) (hown : w.ownsRow base 5 1 v n0 xs) (hb : base ≤ w.heap.size) (hn0 : n0 ≤ 70368744177664)
    (hn : Hid (n = -1 - (m : Int))) (hm : m < 9223372036854775808) :
    Calls Tryd.prog 82 #[v, .int .i64 n] w fun e w' => PutPost w base n0 xs (hd true (nd m) :: (lows (nd m) m).map (fx true)) e w' := by
  rw [hn.out]
  clear hn
  have h0 : (-1 - (m : Int)) < 0 := by omega
  have h0' : (0 : Int) ≤ (m : Int) := by omega
  have h1 : (m : Int) ≤ 9223372036854775807 := by omega
  obtain ⟨i0, hi, hz0, hz1, hz2⟩ := info_parts info_u8
  have hm' := Lib.hid hm
  clear hm
  go_enter Tryd.func82, Tryd.ntmps82
  go_wp2
  go_step3
  go_wp2
  go_step3
  go_wp2
  go_loopw [5, 8] (fun q a wr => ∃ j : Nat, j ≤ nd m ∧ q = .int .u64 (m / 256 ^ j : Nat) ∧ a = .int .i64 (8 - j : Nat) ∧ CodeBlk w.heap.size w wr 103 true m j) (fun _ a _ => (intOf a).toNat)
  case atStart =>
    exact ⟨0, Nat.zero_le _, by rw [cpl_neg m hm'.out, Nat.pow_zero, Nat.div_one], rfl, CodeBlk.start w _ _ rfl _ _⟩
  case round =>
    obtain ⟨j, hj, rfl, rfl, hC⟩ := hrel
    have h8 := nd_le m
    by_cases hq : j < nd m
    · have hq1 : 0 < m / 256 ^ j := Nat.pos_of_ne_zero fun e => by have := (nd_zero m j hm'.out (by omega)).1 e; omega
      have hq2 : m / 256 ^ j < 9223372036854775808 := Nat.lt_of_le_of_lt (Nat.div_le_self _ _) hm'.out
      have hst := Lib.hid (hC.step (show j < 8 by omega) _ (xor_flp true (UInt8.ofNat (m / 256 ^ j % 256))))
      obtain ⟨x0, hx0⟩ := hC.cell (8 - j) (by omega)
      have hf0 := hC.free (8 - j)
      have hC' := Lib.hid hC
      have hnx := Lib.hid (show m / 256 ^ (j + 1) = m / 256 ^ j / 256 from by rw [Nat.div_div_eq_div_mul, Nat.pow_succ])
      generalize m / 256 ^ j = q at *
      clear hC
      go_wp2
      refine ⟨⟨j + 1, by omega, by rw [hnx.out]; rfl, by rw [show ((8 - j : Nat) : Int) - 1 = ((8 - (j + 1) : Nat) : Int) from by omega], ?_⟩, by simp [intOf]; omega⟩
      have e := xor_low true q
      simp only [flp] at e
      rw [show (bits BinOp.xor IntKind.u8 ((q : Int) % 256) 255) = _ from e]
      have := hst.out
      rw [xor_flp] at this
      exact this
    · have hj' : j = nd m := by omega
      subst hj'
      have hq0 : m / 256 ^ nd m = 0 := (nd_zero m _ hm'.out h8).2 (Nat.le_refl _)
      rw [hq0]
      obtain ⟨x0, hx0⟩ := hC.cell (8 - nd m) (by omega)
      have hf0 := hC.free (8 - nd m)
      have hC' := Lib.hid hC
      clear hC
      have hnews := Lib.hid (hC'.out.news h8 (bits BinOp.xor IntKind.u8 (136 - ((8 - nd m : Nat) : Int)) 255) (head_xor true _ h8))
      have hbel := Lib.hid (hC'.out.1.setCell (p := ⟨w.heap.size, 8 - nd m, none⟩) (Nat.le_refl _) (.int .u8 (bits BinOp.xor IntKind.u8 (136 - ((8 - nd m : Nat) : Int)) 255)))
      have hown' := Lib.hid (hown.kept (below_grown hbel.out none) (by cases v.ownBlock <;> simp))
      have hsz := hbel.out.size
      have hlen := Lib.hid (news_length true m)
      generalize hk : nd m = k at *
      have hk' := Lib.hid hk
      have hsl := slice9 w.heap.size k h8
      clear hk hown hq0 hq hj hm'
      go_wp2_with (at_builtin; refine wpList_append_own _ rfl _ _ 60 rfl base 5 i0 (.int .u8 0) 1 1 Tryd.underlying60 hi hz0 hz1 hz2 rfl (by decide) _ _ _ rfl hown'.out ⟨w.heap.size, 8 - k, none⟩ (k + 1) (k + 1) (bvs (hd true k :: (lows k m).map (fx true))) rfl hlen.out hnews.out (bvs_one _) (by unfold maxLen; omega) (by omega) (by omega) ?_; intro v' w1 hown1 hgrow1 _; have hres : Hid (PutPost w base n0 xs (hd true k :: (lows k m).map (fx true)) (.returned v') w1) := Lib.hid (putPost_of (by omega) (hbel.out.mono hb) hown'.out hlen.out hown1 hgrow1); clear hown1 hgrow1)
      rw [Exit.noGoto_ret]
      go_ret
      have hres' := hres.out
      rw [← hk'.out] at hres'
      exact hres'

theorem putInt_any (v : Value) (n0 : Nat) (xs : List Value) (base : Nat) (n : Int) (w : World) (hown : w.ownsRow base 5 1 v n0 xs) (hb : base ≤ w.heap.size) (hn0 : n0 ≤ 70368744177664) (h1 : -9223372036854775808 ≤ n) (h2 : n ≤ 9223372036854775807) :
    Calls Tryd.prog 82 #[v, .int .i64 n] w fun e w' => PutPost w base n0 xs (enc n) e w' := by
  have hm := mgn_lt n h1 h2
  unfold enc
  by_cases c : n < 0
  · have e : neg n = true := by simp [neg, c]
    rw [e]
    exact putInt_neg v n0 xs base n (mgn n) w hown hb hn0 (show n = _ by unfold mgn; rw [if_pos c]; omega) hm
  · have e : neg n = false := by simp [neg, c]
    rw [e]
    exact putInt_pos v n0 xs base n (mgn n) w hown hb hn0 (show n = _ by unfold mgn; rw [if_neg c]; omega) hm


end Go.Proofs.YteaoaoknpihchaaDoor

namespace Go.Proofs.YteaoaoknpihchaaDoor
open Go.RowKit

set_option maxRecDepth 100000 in
set_option maxHeartbeats 400000 in
theorem digit_any (a : Option Addr) (n c : Nat) (l : List Int) (i : Nat) (w : World) (hR0 : Rdi w a l) (hn0 : n = l.length) :
    Calls Tryd.prog 60 #[.slice a n c, .int .i64 (i : Int)] w fun e w' => e = .returned (.int .i64 (iat l i)) ∧ w = w' := by
  have hn := Lib.hid hn0
  by_cases h : i < n
  · obtain ⟨b, o, rfl, hc⟩ := Rdi_at hR0 i (by omega)
    have h1 : (i : Int) < (n : Int) := by omega
    have h2 : 0 ≤ (i : Int) := by omega
    generalize iat l i = x at hc ⊢
    clear hR0 hn0
    go_enter Tryd.func60, Tryd.ntmps60
    go_wp2_with fail
    go_ret
    exact ⟨rfl, rfl⟩
  · have h1 : ¬ (i : Int) < (n : Int) := by omega
    have h2 : Hid (iat l i = 0) := Lib.hid (iat_ge (by omega))
    clear hR0 hn0
    go_enter Tryd.func60, Tryd.ntmps60
    go_wp2_with fail
    go_ret
    exact ⟨by rw [h2.out]; rfl, rfl⟩

set_option maxRecDepth 100000 in
set_option maxHeartbeats 800000 in
theorem normal_any (neg : Bool) (a : Option Addr) (m c : Nat) (l : List Int) (w : World) (hR0 : Rdi w a l) (hm0 : m = l.length) (hmc : m ≤ c) (hm : c ≤ 9223372036854775807) (hd0 : Dg l) :
    Calls Tryd.prog 34 #[.bool neg, .slice a m c] w (RetF (fun q => a = some q) w (sg neg (val l))) := by
  have hR := Lib.hid hR0
  have hml := Lib.hid hm0
  have hd := Lib.hid hd0
  have hb0 := Lib.hid (below_new w (.cells #[.bool false, .slice none 0 0] 24))
  clear hR0 hm0 hd0
  go_enter Tryd.func34, Tryd.ntmps34
  go_wp2_with fail
  go_loopw [5] (fun n wr => ∃ k : Nat, k ≤ m ∧ n = .int .i64 (k : Int) ∧ Hid (∀ i, k ≤ i → i < l.length → iat l i = 0) ∧ wr = w.alloc (.cells #[.bool false, .slice none 0 0] 24)) (fun n _ => (intOf n).toNat)
  case atStart => exact ⟨m, Nat.le_refl _, rfl, Lib.hid (fun i h1 h2 => by have := hml.out; omega), rfl⟩
  case round =>
    obtain ⟨k, hk, rfl, hz, rfl⟩ := hrel
    by_cases h0 : k = 0
    · subst h0
      have ht : Hid (tlen l = 0) := Lib.hid (tlen_of l 0 (Nat.zero_le _) hz.out (.inl rfl))
      have hv : Hid (sg neg (val l) = 0) := Lib.hid (by rw [tlen_zero hd.out ht.out]; unfold sg; cases neg <;> rfl)
      rw [show ((0 : Nat) : Int) = 0 from rfl]
      go_wp2_with fail
      exact bodyPost_ret (v := .agg #[.bool false, .slice none 0 0]) (by simp [results, Tryd.results34, go_sem]) rfl ⟨_, _, _, _, rfl, by rw [hv.out]; exact IntAt_zero _ _ _ (by omega), below_new _ _, fun q hq => by cases hq⟩
    · obtain ⟨q, rfl⟩ : ∃ q, k = q + 1 := ⟨k - 1, by omega⟩
      obtain ⟨b, off, rfl, hc0⟩ := Rdi_at hR.out q (by rw [← hml.out]; omega)
      have hc := Below.cell_of' hb0.out hc0
      obtain ⟨x, hx⟩ : ∃ x, iat l q = x := ⟨_, rfl⟩
      rw [hx] at hc
      have hx' := Lib.hid hx
      clear hx h0 hc0
      have e1 : (((q + 1 : Nat) : Int)) = (q : Int) + 1 := by omega
      have e2 : (q : Int) + 1 - 1 = (q : Int) := by omega
      have h1 : (0 : Int) < (q : Int) + 1 := by omega
      have e3 : 0 ≤ (q : Int) := by omega
      rw [e1]
      by_cases hx0 : x = 0
      · subst hx0
        have hz2 : Hid (∀ i, q ≤ i → i < l.length → iat l i = 0) := Lib.hid (fun i h1 h2 => by
          rcases Nat.lt_or_ge q i with h | h
          · exact hz.out i (by omega) h2
          · rw [show i = q by omega]; exact hx'.out)
        go_wp2_with fail
        refine ⟨⟨q, by omega, rfl, hz2, trivial⟩, by simp [intOf]⟩
      · have hxb : (x == 0) = false := by simpa using hx0
        have ht : Hid (tlen l = q + 1) := Lib.hid (tlen_of l (q + 1) (by rw [← hml.out]; exact hk) hz.out (.inr (by rw [Nat.add_sub_cancel, hx'.out]; exact hx0)))
        have hI : Hid (∀ W, Below w.heap.size w W → IntAt W neg (some ⟨b, off, none⟩) (q + 1) c (sg neg (val l))) := Lib.hid (fun W hb => by rw [← ht.out]; exact made_is (Rdi_below hb hR.out) hd.out (by rw [ht.out]; omega) (by rw [← hml.out]; exact hmc) hm)
        have hqb : (((q : Int) + 1) == 0) = false := by simp; omega
        clear hx0
        go_wp2_with fail
        exact bodyPost_ret (v := .agg #[.bool neg, .slice (some ⟨b, off, none⟩) (q + 1) c]) (by simp [results, Tryd.results34, go_sem]) rfl ⟨_, _, _, _, rfl, hI.out _ (below_new _ _), below_new _ _, fun q hq => hq⟩
end Go.Proofs.YteaoaoknpihchaaDoor
