/- Contracts of the package integer and its reference: The reference: Around, At, Same; the law's same. wire.Ints (as in the texts of stage 1). integer.decimal. integer.Parse, of what is no text of an integer. integer.root, Root. integer.above, root. integer.Compare, Sign. integer.Root. -/
import Derived.Test.YteaoaoknpihchaaGreatM6
import Derived.Laws.BytesArg
import Derived.Lib.AppendStr
import Derived.Laws.ResultCell
import Derived.Test.YteaoaoknpihchaaGreatM5
set_option linter.unusedVariables false
namespace Go.Proofs.YteaoaoknpihchaaGreat
open Go.RowKit

/-- a number from 0 on, less than the second one -/
def arn (n most : Int) : Int := (if n < 0 then -(n + 1) else n) % most
theorem arn_lo (n most : Int) (h : 0 < most) : 0 ≤ arn n most := Int.emod_nonneg _ (by omega)
theorem arn_hi (n most : Int) (h : 0 < most) : arn n most < most := Int.emod_lt_of_pos _ h

set_option maxRecDepth 100000 in
set_option maxHeartbeats 400000 in
theorem around_any (n most : Int) (h1 : -9223372036854775808 ≤ n) (h2 : n ≤ 9223372036854775807) (h3 : 0 < most) (h4 : most ≤ 9223372036854775807) (w : World) :
    Calls Tryz.prog 28 #[.int .i64 n, .int .i64 most] w fun e w' => e = .returned (.int .i64 (arn n most)) ∧ w = w' := by
  have m0 : (most == 0) = false := by simp; omega
  by_cases h : n < 0
  · have hr : Hid (arn n most = (-(n + 1)) % most) := Lib.hid (by unfold arn; rw [if_pos h])
    have e1 : 0 ≤ -(n + 1) := by omega
    have e2 : -(n + 1) ≤ 9223372036854775807 := by omega
    have hlo := arn_lo n most h3
    have hhi := arn_hi n most h3
    rw [hr.out] at hlo hhi ⊢
    go_enter Tryz.func28, Tryz.ntmps28
    have e3 := Lib.hid (show -(n + 1).tmod most = -(n + 1) % most by rw [← Int.neg_tmod, Int.tmod_eq_emod_of_nonneg e1])
    go_wp2_with fail
    go_ret
    exact ⟨by rw [← e3.out]; rfl, rfl⟩
  · have hr : Hid (arn n most = n % most) := Lib.hid (by unfold arn; rw [if_neg h])
    have e1 : 0 ≤ n := by omega
    have hlo := arn_lo n most h3
    have hhi := arn_hi n most h3
    rw [hr.out] at hlo hhi ⊢
    go_enter Tryz.func28, Tryz.ntmps28
    go_wp2_with fail
    go_ret
    exact ⟨rfl, rfl⟩

def i64s (l : List Int) : Prop := ∀ i, i < l.length → -9223372036854775808 ≤ iat l i ∧ iat l i ≤ 9223372036854775807
/-- the number that a list gives at an index -/
def atv (l : List Int) (i : Int) (most : Int) : Int := if i < 0 ∨ (l.length : Int) ≤ i then 0 else arn (iat l i.toNat) most
theorem atv_lo (l : List Int) (i most : Int) (h : 0 < most) : 0 ≤ atv l i most := by unfold atv; split; omega; exact arn_lo _ _ h
theorem atv_hi (l : List Int) (i most : Int) (h : 0 < most) : atv l i most < most := by unfold atv; split; omega; exact arn_hi _ _ h

set_option maxRecDepth 100000 in
set_option maxHeartbeats 400000 in
theorem at_any (a : Option Addr) (n c : Nat) (l : List Int) (i : Nat) (most : Int) (w : World) (hR0 : Rdi w a l) (hn0 : n = l.length) (hi64 : i64s l) (hi : i ≤ 9223372036854775807) (h3 : 0 < most) (h4 : most ≤ 9223372036854775807) :
    Calls Tryz.prog 56 #[.slice a n c, .int .i64 (i : Int), .int .i64 most] w fun e w' => e = .returned (.int .i64 (atv l i most)) ∧ w = w' := by
  by_cases h : i < n
  · have hr : Hid (atv l i most = arn (iat l i) most) := Lib.hid (by unfold atv; rw [if_neg (by omega)]; rfl)
    obtain ⟨b, o, rfl, hc⟩ := Rdi_at hR0 i (by omega)
    have hb := hi64 i (by omega)
    have har : Hid (Calls Tryz.prog 28 #[.int .i64 (iat l i), .int .i64 most] w fun e w' => e = .returned (.int .i64 (arn (iat l i) most)) ∧ w = w') := Lib.hid (around_any _ _ hb.1 hb.2 h3 h4 w)
    rw [hr.out]
    have t1 : ¬ (i : Int) < 0 := by omega
    have t2 : (i : Int) < (n : Int) := by omega
    generalize arn (iat l i) most = r at har ⊢
    generalize iat l i = x at hc har
    clear hR0 hn0 hi64 hb
    go_enter Tryz.func56, Tryz.ntmps56
    go_wp2_with (go_at_call 28; refine har.out.mono ?_; rintro e w' ⟨rfl, rfl⟩)
    go_ret
    exact ⟨rfl, rfl⟩
  · have hr : Hid (atv l i most = 0) := Lib.hid (by unfold atv; rw [if_pos (by omega)])
    rw [hr.out]
    have t1 : ¬ (i : Int) < 0 := by omega
    have t2 : (n : Int) ≤ (i : Int) := by omega
    clear hR0 hn0 hi64
    go_enter Tryz.func56, Tryz.ntmps56
    go_wp2_with fail
    go_ret
    exact ⟨rfl, rfl⟩

theorem same_dec {x y : Int} : (decide (x < 0) = decide (y < 0) ∧ digs x.natAbs = digs y.natAbs) ↔ x = y := by
  constructor
  · rintro ⟨h1, h2⟩
    have h3 := digs_inj h2
    rw [decide_eq_decide] at h1
    omega
  · rintro rfl; exact ⟨rfl, rfl⟩
theorem list_ext {l m : List Int} (h : l.length = m.length) (h2 : ∀ i, i < l.length → iat l i = iat m i) : l = m := by
  apply List.ext_getElem h
  intro i h3 h4
  have := h2 i h3
  simpa [iat, h3, h4] using this

/-- what a round of Same needs -/
def SamL (w : World) (px : Option Addr) (cx : Nat) (py : Option Addr) (cy n : Nat) (wr : World) : Prop :=
  wr.cell? ⟨w.heap.size, 1, none⟩ = some (.slice px n cx) ∧ wr.cell? ⟨w.heap.size + 1, 1, none⟩ = some (.slice py n cy) ∧ Below w.heap.size w wr
theorem SamL.drewN {w : World} {px : Option Addr} {cx : Nat} {py : Option Addr} {cy n : Nat} {wr : World} (h : SamL w px cx py cy n wr) (q : Nat) : SamL w px cx py cy n (wr.drewN q) := ⟨h.1, h.2.1, below_drewN h.2.2 q⟩

set_option maxRecDepth 100000 in
set_option maxHeartbeats 1600000 in
theorem Same_any (nx ny : Bool) (px py : Option Addr) (lx cx ly cy : Nat) (x y : Int) (w : World) (hx0 : IntAt w nx px lx cx x) (hy0 : IntAt w ny py ly cy y) (hlx : lx ≤ 549755813887) (hly : ly ≤ 549755813887) :
    Calls Tryz.prog 64 #[.agg #[.bool nx, .slice px lx cx], .agg #[.bool ny, .slice py ly cy]] w fun e w' => e = .returned (.bool (decide (x = y))) ∧ Below w.heap.size w w' := by
  have hb : Below w.heap.size w ((w.alloc (.cells #[.bool nx, .slice px lx cx] 24)).alloc (.cells #[.bool ny, .slice py ly cy] 24)) := ((Below.refl _ _).alloc (Nat.le_refl _) _).alloc (by simp) _
  have hb' := Lib.hid hb
  have hdec := @same_dec x y
  obtain ⟨hnx, N1, H1, _⟩ := hx0
  obtain ⟨hny, N2, H2, _⟩ := hy0
  rw [← hnx, ← hny] at hdec
  obtain ⟨r, hr⟩ : ∃ r, decide (x = y) = r := ⟨_, rfl⟩
  have hT : Hid (nx = ny → digs x.natAbs = digs y.natAbs → r = true) := Lib.hid fun h1 h2 => by rw [← hr]; exact decide_eq_true (hdec.1 ⟨h1, h2⟩)
  have hF : Hid (¬ (nx = ny ∧ digs x.natAbs = digs y.natAbs) → r = false) := Lib.hid fun h => by rw [← hr]; exact decide_eq_false fun h2 => h (hdec.2 h2)
  rw [hr]
  generalize digs x.natAbs = l at N1 H1 hT hF
  generalize digs y.natAbs = m at N2 H2 hT hF
  clear hr hdec hnx hny hb
  have N1' := Lib.hid N1
  have N2' := Lib.hid N2
  have H1' := Lib.hid H1
  have H2' := Lib.hid H2
  clear N1 N2 H1 H2
  by_cases hn : nx = ny
  · subst hn
    have t1 : (nx != nx) = false := by simp
    by_cases hl : lx = ly
    · subst hl
      have t2 : ((lx : Int) != (lx : Int)) = false := by simp
      have hS0 : Hid ((((w.alloc (.cells #[.bool nx, .slice px lx cx] 24)).alloc (.cells #[.bool nx, .slice py lx cy] 24)).cell? ⟨w.heap.size, 1, none⟩ = some (.slice px lx cx)) ∧ (((w.alloc (.cells #[.bool nx, .slice px lx cx] 24)).alloc (.cells #[.bool nx, .slice py lx cy] 24)).cell? ⟨w.heap.size + 1, 1, none⟩ = some (.slice py lx cy))) := Lib.hid (by
        constructor
        · simp [World.cell?, show ((w.alloc (.cells #[.bool nx, .slice px lx cx] 24)).alloc (.cells #[.bool nx, .slice py lx cy] 24)).heap[w.heap.size]? = some (.cells #[.bool nx, .slice px lx cx] 24 (0, 0)) by rw [Below.heap_alloc _ _ _ (by simp)]; exact heap_alloc_new _ _]
        · have h := heap_alloc2_new w (.cells #[.bool nx, .slice px lx cx] 24) (.cells #[.bool nx, .slice py lx cy] 24)
          unfold World.cell?
          rw [h]
          rfl)
      go_enter Tryz.func64, Tryz.ntmps64
      go_wp2_with fail
      generalize (w.alloc (.cells #[.bool nx, .slice px lx cx] 24)).alloc (.cells #[.bool nx, .slice py lx cy] 24) = W1 at hS0 hb' ⊢
      go_loopw [5] (fun i wr => ∃ (k : Nat), k ≤ lx ∧ i = .int .i64 (k : Int) ∧ Hid (∀ j, j < k → iat l j = iat m j) ∧ SamL w px cx py cy lx wr) (fun i _ => lx - (intOf i).toNat)
      case atStart => exact ⟨0, Nat.zero_le _, rfl, Lib.hid (fun j hj => by omega), hS0.out.1, hS0.out.2, hb'.out⟩
      case round =>
        obtain ⟨k, hk, rfl, hall, hw⟩ := hrel
        have s1 := hw.1
        have s2 := hw.2.1
        have hB := Lib.hid hw.2.2
        have hw' := Lib.hid hw
        clear hw
        by_cases hlt : k < lx
        · obtain ⟨b1, o1, hpx, hc1⟩ := Rdi_at H1'.out k (by rw [← N1'.out]; exact hlt)
          obtain ⟨b2, o2, hpy, hc2⟩ := Rdi_at H2'.out k (by rw [← N2'.out]; exact hlt)
          have C1 := Below.cell_of' hB.out hc1
          have C2 := Below.cell_of' hB.out hc2
          obtain ⟨X, hX⟩ : ∃ X, iat l k = X := ⟨_, rfl⟩
          obtain ⟨Y, hY⟩ : ∃ Y, iat m k = Y := ⟨_, rfl⟩
          rw [hX] at C1
          rw [hY] at C2
          have hX' := Lib.hid hX
          have hY' := Lib.hid hY
          have k0 : 0 ≤ (k : Int) := by omega
          have k1 : (k : Int) < (lx : Int) := by omega
          have k2 : ((k : Int)).toNat = k := by omega
          clear hc1 hc2 hX hY
          subst hpx hpy
          by_cases hXY : X = Y
          · subst hXY
            have hne : (X != X) = false := by simp
            have hall2 : Hid (∀ j, j < k + 1 → iat l j = iat m j) := Lib.hid fun j hj => by
              rcases Nat.lt_or_ge j k with h | h
              · exact hall.out j h
              · rw [show j = k by omega, hX'.out, hY'.out]
            go_wp2_with fail
            go_quiet (fail)
            go_wp2_with fail
            exact ⟨⟨k + 1, by omega, by simp, hall2, hw'.out.drewN nq⟩, by simp [intOf]; omega⟩
          · have hne : (X != Y) = true := by simpa using hXY
            have hr0 : Hid (r = false) := Lib.hid (hF.out (fun h => hXY (by rw [← hX'.out, ← hY'.out, h.2])))
            clear hXY
            go_wp2_with fail
            go_quiet (fail)
            go_wp2_with fail
            go_ret
            exact ⟨by rw [hr0.out]; rfl, below_drewN hB.out _⟩
        · have hk' : k = lx := by omega
          subst hk'
          have hr1 : Hid (r = true) := Lib.hid (hT.out (by first | trivial | rfl) (list_ext (by rw [← N1'.out, ← N2'.out]) (fun i hi => hall.out i (by rw [N1'.out]; exact hi))))
          go_wp2_with fail
          go_ret
          exact ⟨by rw [hr1.out]; rfl, hB.out⟩
    · have t2 : ((lx : Int) != (ly : Int)) = true := by simp; omega
      have hr0 : Hid (r = false) := Lib.hid (hF.out (fun h => hl (by rw [N1'.out, N2'.out, h.2])))
      go_enter Tryz.func64, Tryz.ntmps64
      go_wp2_with fail
      go_ret
      exact ⟨by rw [hr0.out]; rfl, hb'.out⟩
  · have hr0 : Hid (r = false) := Lib.hid (hF.out (fun h => hn h.1))
    obtain rfl : ny = !nx := by cases nx <;> cases ny <;> first | rfl | exact absurd rfl hn
    have hnn : (nx == !nx) = false := by cases nx <;> rfl
    clear hn
    go_enter Tryz.func64, Tryz.ntmps64
    go_wp2_with fail
    go_ret
    exact ⟨by rw [hr0.out]; rfl, hb'.out⟩

end Go.Proofs.YteaoaoknpihchaaGreat

namespace Go.Proofs.YteaoaoknpihchaaGreat
open Go.RowKit


/-- decoding a length that is followed by parts of at least z bytes -/
def gl (z : Nat) (l : List UInt8) : Int × Nat × Int :=
  let r := gi l
  if r.2.2 ≠ 0 then (0, 0, r.2.2) else if r.1 < 0 then (0, 0, 2) else if ((l.length - r.2.1) / z : Nat) < r.1 then (0, 0, 3) else (r.1, r.2.1, 0)

/-- a list of bytes as a string -/
def bs (l : List UInt8) : ByteArray := ⟨l.toArray⟩

theorem strOf_byt (l : List UInt8) : strOfNums (l.map fun b => (b.toNat : Int)) = bs l := by
  unfold strOfNums bs
  congr 1
  simp [List.map_map, Function.comp_def]

theorem byt_map (l : List UInt8) (i : Nat) : (l.map fun b => (b.toNat : Int)).getD i 0 = byt l i := by
  unfold byt
  rcases Nat.lt_or_ge i l.length with h | h
  · simp [List.getD_eq_getElem?_getD, h]
  · simp [List.getD_eq_getElem?_getD, List.getElem?_eq_none h]

theorem run_bytes_string {P : Program} (src e dst : TypeId) (hs : P.underlying src = some (.slice e)) (he : P.underlying e = some (.int .u8)) (hd : P.underlying dst = some .string) (w : World) (a : Option Addr) (n c : Nat) (l : List UInt8) (hR : Rd w a l) (hn : n = l.length) :
    (convert src dst (.slice a n c)).run P w = .ok (.string (bs l)) w := by
  rcases hR with rfl | ⟨b, off, rfl, hc⟩
  · subst hn
    rw [run_convert_bytes_string w src dst e _ _ c hs he hd]
    cases a with
    | none => simp [Conv.bytesToString, bs]; rfl
    | some a =>
      have := run_bytesToString (P := P) w a 0 c [] (by simp [loadCells, loadCellsFrom])
      simp only [List.length_nil]
      rw [this]
      rfl
  · rw [run_convert_bytes_arg w src e hs he b off n c (l.map fun b => (b.toNat : Int)) (by simp [hn]) (fun i hi => by rw [hc i (by omega), byt_map]) dst hd, strOf_byt]

/-- decoding a byte string -/
def gb (l : List UInt8) : List UInt8 × Nat × Int :=
  let r := gl 1 l
  if r.2.2 ≠ 0 then ([], 0, r.2.2) else ((l.drop r.2.1).take r.1.toNat, r.2.1 + r.1.toNat, 0)

/-- a length that was decoded: not negative, and there is as much as it says -/
theorem gl_ok (z : Nat) (hz : 1 ≤ z) (l : List UInt8) (x : Int) (u : Nat) (h : gl z l = (x, u, 0)) : gi l = (x, u, 0) ∧ 0 ≤ x ∧ u ≤ l.length ∧ 1 ≤ u ∧ x * z ≤ (l.length - u : Nat) ∧ x ≤ (l.length - u : Nat) := by
  obtain ⟨x0, u0, e0, h0⟩ : ∃ x0 u0 e0, gi l = (x0, u0, e0) := ⟨_, _, _, rfl⟩
  simp only [gl, h0] at h
  by_cases c1 : e0 ≠ 0
  · rw [if_pos c1] at h
    simp only [Prod.mk.injEq] at h
    omega
  rw [if_neg c1] at h
  by_cases c2 : x0 < 0
  · rw [if_pos c2] at h
    simp only [Prod.mk.injEq] at h
    omega
  rw [if_neg c2] at h
  by_cases c3 : (((l.length - u0) / z : Nat) : Int) < x0
  · rw [if_pos c3] at h
    simp only [Prod.mk.injEq] at h
    omega
  · rw [if_neg c3] at h
    simp only [Prod.mk.injEq] at h
    obtain ⟨rfl, rfl, _⟩ := h
    have c1' : e0 = 0 := by omega
    subst c1'
    obtain ⟨g1, g2, g3, g4, g5⟩ := gi_range l x0 u0 h0
    obtain ⟨k, rfl⟩ := Int.eq_ofNat_of_zero_le (show 0 ≤ x0 by omega)
    have hk : k ≤ (l.length - u0) / z := by omega
    have hm : k * z ≤ l.length - u0 := (Nat.le_div_iff_mul_le (by omega)).1 hk
    have hk1 : k ≤ k * z := Nat.le_mul_of_pos_right k (by omega)
    refine ⟨h0, by omega, g3, by rw [g5, enc_length]; omega, ?_, by omega⟩
    have : ((k * z : Nat) : Int) ≤ ((l.length - u0 : Nat) : Int) := by exact_mod_cast hm
    simpa using this

theorem byt_sub (l : List UInt8) (u x i : Nat) (hi : i < x) : byt ((l.drop u).take x) i = byt l (u + i) := by
  unfold byt
  simp [List.getD_eq_getElem?_getD, hi]

theorem Rd_sub (w : World) (b off : Nat) (l : List UInt8) (hc : ∀ i, i < l.length → w.cell? ⟨b, off + i, none⟩ = some (.int .u8 (byt l i))) (u x : Nat) :
    Rd w (some ⟨b, off + u, none⟩) ((l.drop u).take x) := by
  refine .inr ⟨b, off + u, rfl, fun i hi => ?_⟩
  simp only [List.length_take, List.length_drop] at hi
  rw [byt_sub _ _ _ _ (by omega), show off + u + i = off + (u + i) from by omega, hc _ (by omega)]




/-- an encoding in new memory -/
def EncPost (w : World) (l : List UInt8) (e : Ending) (w' : World) : Prop :=
  ∃ v', e = .returned v' ∧ w'.ownsRow w.heap.size 5 1 v' l.length (bvs l) ∧ Below w.heap.size w w'

theorem encPost_of {w w' : World} {l : List UInt8} {e : Ending} (h : PutPost w w.heap.size 0 [] l e w') : EncPost w l e w' := by
  obtain ⟨v', he, ho, g⟩ := h
  refine ⟨v', he, ?_, g⟩
  rw [Nat.zero_add, List.nil_append] at ho
  exact ho

/-- a string's bytes -/
def sl (s : ByteArray) : List UInt8 := s.data.toList
theorem sl_length (s : ByteArray) : (sl s).length = s.size := by simp [sl]
theorem bs_sl (s : ByteArray) : bs (sl s) = s := by simp [bs, sl]
theorem sl_bs (l : List UInt8) : sl (bs l) = l := by simp [bs, sl]
theorem strCells_sl (s : ByteArray) : Lib.strCells s = bvs (sl s) := rfl

theorem putPost_more {w w1 w2 : World} {base n0 : Nat} {v1 v2 : Value} {xs : List Value} {l : List UInt8} {s : ByteArray} (hb : base ≤ w1.heap.size) (h : Below base w w1) (ho : w1.ownsRow base 5 1 v1 (n0 + l.length) (xs ++ bvs l))
    (ho2 : w2.ownsRow base 5 1 v2 (n0 + l.length + s.size) (xs ++ bvs l ++ Lib.strCells s)) (g2 : w1.grownBy w2 v1.ownBlock) :
    PutPost w base n0 xs (l ++ sl s) (.returned v2) w2 := by
  refine ⟨v2, rfl, ?_, h.grown g2 hb fun k hk => (ho.lt k hk).1⟩
  rw [List.length_append, bvs_append, ← List.append_assoc, ← Nat.add_assoc, sl_length, ← strCells_sl]
  exact ho2




/-- the encoding of a list of integers -/
def encIs (l : List Int) : List UInt8 := enc (l.length : Int) ++ l.flatMap enc

/-- a row that grows while a list is encoded -/
def RowInv (w : World) (v : Value) (l : List UInt8) (wr : World) : Prop := wr.ownsRow w.heap.size 5 1 v l.length (bvs l) ∧ Below w.heap.size w wr

theorem RowInv.put {w wr w2 : World} {v : Value} {l r : List UInt8} {e : Ending} (h : RowInv w v l wr) (hp : PutPost wr w.heap.size l.length (bvs l) r e w2) : ∃ v2, e = .returned v2 ∧ RowInv w v2 (l ++ r) w2 := by
  obtain ⟨v2, he, ho, hb⟩ := hp
  exact ⟨v2, he, by rw [List.length_append, bvs_append]; exact ho, h.2.trans hb⟩

theorem flat_take {α : Type} (f : α → List UInt8) (l : List α) (k : Nat) (hk : k < l.length) (d : α) : (l.take (k + 1)).flatMap f = (l.take k).flatMap f ++ f (l.getD k d) := by
  rw [List.take_succ_eq_append_getElem hk, List.flatMap_append, List.flatMap_singleton]
  simp [hk]

theorem flat_take_le {α : Type} (f : α → List UInt8) (l : List α) (k : Nat) : ((l.take k).flatMap f).length ≤ (l.flatMap f).length := by
  have h := congrArg (fun l => (l.flatMap f).length) (List.take_append_drop k l)
  simp only [List.flatMap_append, List.length_append] at h
  omega

theorem enc_le (n : Int) : (enc n).length ≤ 9 := by rw [enc_length]; have := nd_le (mgn n); omega

end Go.Proofs.YteaoaoknpihchaaGreat

namespace Go.Proofs.YteaoaoknpihchaaGreat
open Go.RowKit

/-- a decimal digit's sign -/
def dgt (c : UInt8) : Bool := 48 ≤ c && c ≤ 57
/-- whether a text consists of decimal digits, of which the first one is 0 only if it is the only one -/
def decB (l : List UInt8) : Bool := l.all dgt && (l == [48] || (l != [] && l.head? != some 48))
def DcP (s : ByteArray) (w : World) (e : Ending) (w' : World) : Prop := e = .returned (.bool (decB s.data.toList)) ∧ w = w'
theorem dgt_lt {c : UInt8} (h : (c.toNat : Int) < 48) : dgt c = false := by
  unfold dgt
  have : ¬ (48 ≤ c) := by rw [UInt8.le_iff_toNat_le]; show ¬ 48 ≤ c.toNat; omega
  simp [this]
theorem dgt_gt {c : UInt8} (h : 57 < (c.toNat : Int)) : dgt c = false := by
  unfold dgt
  have : ¬ (c ≤ 57) := by rw [UInt8.le_iff_toNat_le]; show ¬ c.toNat ≤ 57; omega
  simp [this]
theorem dgt_in {c : UInt8} (h1 : ¬ (c.toNat : Int) < 48) (h2 : ¬ 57 < (c.toNat : Int)) : dgt c = true := by
  unfold dgt
  have a1 : 48 ≤ c := by rw [UInt8.le_iff_toNat_le]; show 48 ≤ c.toNat; omega
  have a2 : c ≤ 57 := by rw [UInt8.le_iff_toNat_le]; show c.toNat ≤ 57; omega
  simp [a1, a2]
theorem decB_no {l : List UInt8} (k : Nat) (hk : k < l.length) (h : dgt l[k] = false) : decB l = false := by
  unfold decB
  have : l.all dgt = false := by
    rw [List.all_eq_false]
    exact ⟨l[k], List.getElem_mem hk, by rw [h]; simp⟩
  rw [this]; rfl
theorem decB_yes {l : List UInt8} (h : ∀ k (hk : k < l.length), dgt l[k] = true) : decB l = (l == [48] || (l != [] && l.head? != some 48)) := by
  unfold decB
  have : l.all dgt = true := by
    rw [List.all_eq_true]
    intro x hx
    obtain ⟨k, hk, rfl⟩ := List.getElem_of_mem hx
    exact h k hk
  rw [this]; rfl

theorem byteArray_toList (s : ByteArray) : s.toList = s.data.toList := ByteArray.toList_eq s

end Go.Proofs.YteaoaoknpihchaaGreat

namespace Go.Proofs.YteaoaoknpihchaaGreat
open Go.RowKit

/-- an error, and zero -/
def ErP (w : World) (code : Int) (e : Ending) (w' : World) : Prop := e = .returned (.tuple #[.agg #[.bool false, .slice none 0 0], .int .i64 code]) ∧ Below w.heap.size w w'
theorem results_cell1 {P : Program} {fn : Func} {p q : Tmp} {ty : TypeId} (h : fn.results = #[.cell p ty, .tmp q]) (tmps : Array Value) (w : World) (g : Nat) (t : TypeId) (cs : Array Value) (fr : Nat × Nat) (d : TypeDesc) (v : Value)
    (hp : tmps.getD p undef = .pointer (some ⟨g, 0, none⟩)) (hv : tmps.getD q undef = v) (hg : w.heap[g]? = some (.cells cs t fr))
    (hu : P.underlying ty = some d) (hd : (match d with | .struct _ | .array _ _ => true | _ => false) = true) (hi : (P.info? ty).map (·.size) = some cs.size) :
    (results fn tmps).run P w = .ok (.tuple #[.agg cs, v]) w := by
  rw [results_cell_tmp h, hp, hv]
  simp [asAddr, run_loadVar_row w g t ty cs fr d hg hu hd hi, Result.andThen]

end Go.Proofs.YteaoaoknpihchaaGreat

namespace Go.Proofs.YteaoaoknpihchaaGreat
open Go.RowKit

theorem append_full (g : Nat) (l : List Int) (L : Nat) (hL : L = l.length) (p : Option Addr) (n c : Nat) (D : List Int) (W : World) (hB : Blk W g l) (hR : Rdi W p D) (hn : n = D.length) (hpos : 0 < n) (hlim : L + n ≤ 1099511627776) :
    ∃ pp cc W', (Builtin.append_ #[22, 22] 22 #[.slice (some ⟨g, 0, none⟩) L L, .slice p n c]).run Tryz.prog W = .ok (.slice pp (L + n) cc) W' ∧ Rdi W' pp (l ++ D) ∧ L + n ≤ cc ∧ cc ≤ 9223372036854775807 ∧ (∀ q, pp = some q → W.heap.size ≤ q.block) ∧ Below W.heap.size W W' := by
  obtain ⟨i0, hi, hz0, hz1, hz2⟩ := info_parts info_i64
  rcases hR with h | ⟨b, off, rfl, hc⟩
  · rw [h] at hn; simp at hn; omega
  · have hown : ∀ j u, (zvs l)[j]? = some u → W.cell? ((⟨g, 0, none⟩ : Addr).add j) = some u := Rdi_news (fun i hi => by rw [Nat.zero_add]; exact hB.cell hi)
    have hr := run_append_grow (P := Tryz.prog) W 22 22 3 i0 (.int .i64 0) Tryz.underlying22 hi hz0 ⟨g, 0, none⟩ L L (zvs l) (by rw [zvs_length, hz1, hL]; omega) hown ⟨b, off, none⟩ n c (zvs D) (by rw [zvs_length, hz1, hn]; omega) (Rdi_news hc) (by omega) (by omega) (growslice_fits (by omega) (by rw [hz2]; omega))
    have hge := grownCap_ge W (L + n) L 3
    have hcm : grownCap W (L + n) L 3 ≤ maxLen := grownCap_le_maxLen W (L + n) L 3 (by unfold maxLen; omega)
    unfold maxLen at hcm
    refine ⟨_, _, _, hr, ?_, hge, hcm, fun q hq => by cases hq; exact Nat.le_refl _, ?_⟩
    · refine .inr ⟨W.heap.size, 0, rfl, fun j hj => ?_⟩
      have hn1 := heap_alloc_new W.drew (.cells ((zvs l).toArray ++ (zvs D).toArray ++ Builtin.zeroCells (Value.int .i64 0).cells (grownCap W (L + n) L 3 - (L + n))) 3)
      have hl : j < (zvs (l ++ D)).length := by rw [zvs_length]; exact hj
      have e1 : ((zvs l).toArray ++ (zvs D).toArray) = (zvs (l ++ D)).toArray := by simp [zvs]
      rw [e1] at hn1 ⊢
      show (W.drew.alloc _).cell? ⟨W.heap.size, 0 + j, none⟩ = _
      unfold World.cell?
      rw [show (⟨W.heap.size, 0 + j, none⟩ : Addr).block = W.drew.heap.size from rfl, hn1]
      rw [Nat.zero_add]
      show ((zvs (l ++ D)).toArray ++ _)[j]? = _
      rw [Array.getElem?_append_left (by simpa using hl)]
      exact zvs_get hj
    · exact (below_drewN (Below.refl _ W) 1).alloc (Nat.le_refl _) _
theorem wpList_append_run {P : Program} {w : World} {ops : Array Oper} {rest : List Oper} {o : Oper} {a : Act} {Q : Exit → Act → World → Prop} (hgd : o.guard = none) (s x : Operand) (t u : TypeId)
    (ho : o.op = .call { callee := .builtin .append, args := #[s, x], argTypes := #[t, u] }) (vs vx : Value) (hs : a.eval s = vs) (hx : a.eval x = vx) (v' : Value) (w' : World) (hrun : (Builtin.append_ #[t, u] o.type #[vs, vx]).run P w = .ok v' w') (h : wpList P ops Q rest (a.put o.dst v') w') : wpList P ops Q (o :: rest) a w := by
  refine wpList_plain hgd fun K hK => ?_
  unfold Oper.wp execOp
  simp only [ho, resolve, invoke, builtin, Sem.run_bind, Sem.run_pure, Result.andThen_ok, List.map_toArray, List.map_cons, List.map_nil, hs, hx, hrun]
  exact hK _ _ h
theorem tlen_zeros_append (L : Nat) (z : List Int) (ht : tlen z = z.length) (hz : z ≠ []) : tlen (List.replicate L 0 ++ z) = (List.replicate L 0 ++ z).length := by
  have hl : 0 < z.length := List.length_pos_iff.2 hz
  refine tlen_of _ _ (Nat.le_refl _) (fun i h1 h2 => by omega) (.inr ?_)
  rw [iat_append, List.length_append, List.length_replicate, if_neg (by omega), show L + z.length - 1 - L = z.length - 1 by omega]
  intro h0
  have : tlen z ≤ z.length - 1 := by
    have h2 := tlen_of z (z.length - 1)
    by_cases h3 : tlen z = z.length
    · exfalso
      rw [h3] at ht
      -- the last digit is not zero where no digit goes
      have : ∀ (l : List Int), l ≠ [] → iat l (l.length - 1) = 0 → tlen l < l.length := by
        intro l
        induction l with
        | nil => intro h; exact absurd rfl h
        | cons d t ih =>
          intro _ h4
          by_cases ht' : t = []
          · subst ht'
            have : d = 0 := h4
            simp [tlen, this]
          · have h5 : iat (d :: t) ((d :: t).length - 1) = iat t (t.length - 1) := by
              rw [List.length_cons, show t.length + 1 - 1 = (t.length - 1) + 1 by have := List.length_pos_iff.2 ht'; omega, iat_cons_succ]
            rw [h5] at h4
            have := ih ht' h4
            rw [List.length_cons]
            unfold tlen
            split
            · split <;> omega
            · omega
      have := this z hz h0
      omega
    · have := tlen_le z; omega
  omega
theorem low_bd (n : Nat) (h : 3 ≤ n) : 1 ≤ max 1 (n / 4) ∧ 2 * max 1 (n / 4) < n ∧ max 1 (n / 4) ≤ n := by omega
theorem above_val {x : List Int} {L : Nat} {r : Int} (hx : Dg x) (h2 : 2 * L ≤ x.length) (hT : val (x.drop (2 * L)) < (r + 1) * (r + 1)) : val x < (pw L * (r + 1)) * (pw L * (r + 1)) := by
  have h1 := val_split x (2 * L) h2
  have h3 := (hx.take (2 * L)).hi
  rw [List.length_take, Nat.min_eq_left h2] at h3
  have hp : pw (2 * L) = pw L * pw L := by rw [show 2 * L = L + L by omega, pw_add]
  have hp0 := pw_pos (2 * L)
  have e : (pw L * (r + 1)) * (pw L * (r + 1)) = pw (2 * L) * ((r + 1) * (r + 1)) := by rw [hp]; grind
  have h4 : pw (2 * L) * (val (x.drop (2 * L)) + 1) ≤ pw (2 * L) * ((r + 1) * (r + 1)) := Int.mul_le_mul_of_nonneg_left (by omega) (by omega)
  have e2 : pw (2 * L) * (val (x.drop (2 * L)) + 1) = pw (2 * L) * val (x.drop (2 * L)) + pw (2 * L) := by grind
  omega
theorem drop_pos {x : List Int} (hx : Dg x) (ht : tlen x = x.length) (k : Nat) (hk : k < x.length) (hv : 0 < val x) : 0 < val (x.drop k) := by
  have h1 := top_of hx ht hv
  have h2 : iat (x.drop k) (x.length - 1 - k) = iat x (x.length - 1) := by rw [iat_drop]; congr 1; omega
  have h3 := (hx.drop k).lo
  rcases Int.lt_or_le 0 (val (x.drop k)) with h | h
  · exact h
  · exfalso
    have h4 : val (x.drop k) = 0 := by omega
    have h5 : tlen (x.drop k) = 0 := by
      by_cases h6 : tlen (x.drop k) = 0
      · exact h6
      · have := tlen_pos (hx.drop k) h6; omega
    have h6 := take_tlen (hx.drop k)
    have h7 : ∀ (l : List Int), tlen l = 0 → ∀ j, iat l j = 0 := by
      intro l
      induction l with
      | nil => intro _ j; exact iat_nil j
      | cons d t ih =>
        intro h j
        unfold tlen at h
        split at h
        · split at h
          · cases j with
            | zero => assumption
            | succ j => rw [iat_cons_succ]; exact ih (by assumption) j
          · omega
        · omega
    have := h7 _ h5 (x.length - 1 - k)
    rw [h2] at this
    omega
end Go.Proofs.YteaoaoknpihchaaGreat

namespace Go.Proofs.YteaoaoknpihchaaGreat
open Go.RowKit

end Go.Proofs.YteaoaoknpihchaaGreat

namespace Go.Proofs.YteaoaoknpihchaaGreat
open Go.RowKit

theorem cmp_abs_neg {x y : Int} (hx : x < 0) (hy : y < 0) : cmpI y.natAbs x.natAbs = cmpI x y := by
  unfold cmpI
  rw [show (y.natAbs : Int) = -y by omega, show (x.natAbs : Int) = -x by omega]
  repeat (first | split | omega)
theorem cmp_abs_pos {x y : Int} (hx : ¬ x < 0) (hy : ¬ y < 0) : cmpI x.natAbs y.natAbs = cmpI x y := by
  rw [show (x.natAbs : Int) = x by omega, show (y.natAbs : Int) = y by omega]

set_option maxRecDepth 100000 in
set_option maxHeartbeats 1600000 in
theorem Compare_any (nx ny : Bool) (px py : Option Addr) (lx cx ly cy : Nat) (x y : Int) (w : World) (hx0 : IntAt w nx px lx cx x) (hy0 : IntAt w ny py ly cy y) (hlx : lx ≤ 549755813887) (hly : ly ≤ 549755813887) :
    Calls Tryz.prog 67 #[.agg #[.bool nx, .slice px lx cx], .agg #[.bool ny, .slice py ly cy]] w fun e w' => e = .returned (.int .i64 (cmpI x y)) ∧ Below w.heap.size w w' := by
  have hb : Below w.heap.size w ((w.alloc (.cells #[.bool nx, .slice px lx cx] 24)).alloc (.cells #[.bool ny, .slice py ly cy] 24)) := ((Below.refl _ _).alloc (Nat.le_refl _) _).alloc (by simp) _
  have hb' := Lib.hid hb
  have h1 : Hid (∀ W, Below w.heap.size w W → Calls Tryz.prog 96 #[.slice px lx cx, .slice py ly cy] W fun e w' => e = .returned (.int .i64 (cmpI x.natAbs y.natAbs)) ∧ Below W.heap.size W w') :=
    Lib.hid fun W h => compare_any _ _ _ _ _ _ _ _ W (Rdi_below h hx0.2.2.1) (Rdi_below h hy0.2.2.1) hx0.2.1 hy0.2.1 (by omega) (by omega)
  have h2 : Hid (∀ W, Below w.heap.size w W → Calls Tryz.prog 96 #[.slice py ly cy, .slice px lx cx] W fun e w' => e = .returned (.int .i64 (cmpI y.natAbs x.natAbs)) ∧ Below W.heap.size W w') :=
    Lib.hid fun W h => compare_any _ _ _ _ _ _ _ _ W (Rdi_below h hy0.2.2.1) (Rdi_below h hx0.2.2.1) hy0.2.1 hx0.2.1 (by omega) (by omega)
  have hnx := hx0.1
  have hny := hy0.1
  obtain ⟨r, hr⟩ : ∃ r, cmpI x y = r := ⟨_, rfl⟩
  rw [hr]
  clear hx0 hy0 hb
  cases nx <;> cases ny
  · have e1 : ¬ x < 0 := by simpa using hnx.symm
    have e2 : ¬ y < 0 := by simpa using hny.symm
    rw [cmp_abs_pos e1 e2, hr] at h1
    clear hnx hny hr h2
    go_enter Tryz.func67, Tryz.ntmps67
    go_wp2_with (go_at_call 96; refine (h1.out _ hb'.out).mono ?_; rintro e w1 ⟨rfl, hb1⟩; have hB := Lib.hid (below_tr hb'.out hb1); clear hb1)
    go_ret
    exact ⟨rfl, hB.out⟩
  · have e1 : ¬ x < 0 := by simpa using hnx.symm
    have e2 : y < 0 := by simpa using hny.symm
    rw [cmp_gt (show y < x by omega)] at hr
    subst hr
    clear hnx hny h1 h2 e1 e2
    go_enter Tryz.func67, Tryz.ntmps67
    go_wp2_with fail
    go_ret
    exact ⟨rfl, hb'.out⟩
  · have e1 : x < 0 := by simpa using hnx.symm
    have e2 : ¬ y < 0 := by simpa using hny.symm
    rw [cmp_lt (show x < y by omega)] at hr
    subst hr
    clear hnx hny h1 h2 e1 e2
    go_enter Tryz.func67, Tryz.ntmps67
    go_wp2_with fail
    go_ret
    exact ⟨rfl, hb'.out⟩
  · have e1 : x < 0 := by simpa using hnx.symm
    have e2 : y < 0 := by simpa using hny.symm
    rw [cmp_abs_neg e1 e2, hr] at h2
    clear hnx hny hr h1
    go_enter Tryz.func67, Tryz.ntmps67
    go_wp2_with (go_at_call 96; refine (h2.out _ hb'.out).mono ?_; rintro e w1 ⟨rfl, hb1⟩; have hB := Lib.hid (below_tr hb'.out hb1); clear hb1)
    go_ret
    exact ⟨rfl, hB.out⟩

set_option maxRecDepth 100000 in
set_option maxHeartbeats 800000 in
theorem Sign_any (nx : Bool) (px : Option Addr) (lx cx : Nat) (x : Int) (w : World) (hx0 : IntAt w nx px lx cx x) (hlx : lx ≤ 549755813887) :
    Calls Tryz.prog 97 #[.agg #[.bool nx, .slice px lx cx]] w fun e w' => e = .returned (.int .i64 (cmpI x 0)) ∧ Below w.heap.size w w' := by
  have hc : Hid (∀ W, Below w.heap.size w W → Calls Tryz.prog 67 #[.agg #[.bool nx, .slice px lx cx], .agg #[.bool false, .slice none 0 0]] W fun e w' => e = .returned (.int .i64 (cmpI x 0)) ∧ Below W.heap.size W w') :=
    Lib.hid fun W h => Compare_any _ _ _ _ _ _ _ _ x 0 W (hx0.later h) (IntAt_zero _ _ _ (by omega)) hlx (by omega)
  obtain ⟨r, hr⟩ : ∃ r, cmpI x 0 = r := ⟨_, rfl⟩
  rw [hr] at hc ⊢
  clear hx0 hr
  go_enter Tryz.func97, Tryz.ntmps97
  go_wp2_with (go_at_call 67; refine (hc.out _ (below_new _ _)).mono ?_; rintro e w1 ⟨rfl, hb1⟩; have hB := Lib.hid (below_tr (below_new _ _) hb1); clear hb1)
  go_ret
  exact ⟨rfl, hB.out⟩
end Go.Proofs.YteaoaoknpihchaaGreat

namespace Go.Proofs.YteaoaoknpihchaaGreat
open Go.RowKit

/-- what Root answers -/
def RootP (w : World) (x : Int) (e : Ending) (w' : World) : Prop :=
  ∃ nb p n c r bl, e = .returned (.tuple #[.agg #[.bool nb, .slice p n c], .bool bl]) ∧ IntAt w' nb p n c r ∧ (x < 0 → r = 0 ∧ bl = false) ∧ (0 ≤ x → 0 ≤ r ∧ r * r ≤ x ∧ x < (r + 1) * (r + 1) ∧ bl = decide (r * r = x)) ∧ Below w.heap.size w w' ∧ ∀ q, p = some q → w.heap.size ≤ q.block

/-- the boxes of a root -/
def Rt5 (w : World) (nx : Bool) (px : Option Addr) (lx cx : Nat) (g : Nat) (nb : Bool) (p : Option Addr) (n c : Nat) (r : Int) (W : World) : Prop :=
  W.heap[w.heap.size]? = some (.cells #[.bool nx, .slice px lx cx] 24 (0, 0)) ∧ (∃ u v, W.heap[w.heap.size + 1]? = some (.cells #[u, v] 24 (0, 0))) ∧ W.heap[g]? = some (.cells #[.bool nb, .slice p n c] 24 (0, 0)) ∧
  w.heap.size + 1 < g ∧ IntAt W nb p n c r ∧ (∀ q, p = some q → w.heap.size + 1 < q.block) ∧ Below w.heap.size w W
section
variable {w W w' : World} {nx : Bool} {px : Option Addr} {lx cx g : Nat} {nb : Bool} {p : Option Addr} {n c : Nat} {r : Int}
theorem Rt5.facts (h : Rt5 w nx px lx cx g nb p n c r W) : W.cell? ⟨w.heap.size, 0, none⟩ = some (.bool nx) ∧ W.cell? ⟨w.heap.size, 1, none⟩ = some (.slice px lx cx) ∧
    W.cell? ⟨w.heap.size + 1, 0, none⟩ = some (oldv W (w.heap.size + 1) 0) ∧ W.cell? ⟨w.heap.size + 1, 1, none⟩ = some (oldv W (w.heap.size + 1) 1) ∧ W.frozen? ⟨w.heap.size + 1, 0, none⟩ = false ∧ W.frozen? ⟨w.heap.size + 1, 1, none⟩ = false ∧
    W.cell? ⟨g, 0, none⟩ = some (.bool nb) ∧ W.cell? ⟨g, 1, none⟩ = some (.slice p n c) := by
  obtain ⟨h1, ⟨u, v, h3⟩, h4, _⟩ := h
  refine ⟨by simp [World.cell?, h1], by simp [World.cell?, h1], by simp [oldv, World.cell?, h3], by simp [oldv, World.cell?, h3], by simp [World.frozen?, h3], by simp [World.frozen?, h3], by simp [World.cell?, h4], by simp [World.cell?, h4]⟩
theorem Rt5.later (h : Rt5 w nx px lx cx g nb p n c r W) (hb : Below W.heap.size W w') : Rt5 w nx px lx cx g nb p n c r w' := by
  obtain ⟨h1, ⟨u, v, h3⟩, h4, h5, h6, h7, h8⟩ := h
  exact ⟨(hb.block _ (lt_blk h1)).trans h1, ⟨u, v, (hb.block _ (lt_blk h3)).trans h3⟩, (hb.block _ (lt_blk h4)).trans h4, h5, h6.later hb, h7, below_tr h8 hb⟩
theorem Rt5.drew (h : Rt5 w nx px lx cx g nb p n c r W) : Rt5 w nx px lx cx g nb p n c r W.drew := h.later ((Below.refl _ W).drew)
theorem Rt5.res (h : Rt5 w nx px lx cx g nb p n c r W) (a b : Value) : ((W.setCell ⟨w.heap.size + 1, 0, none⟩ a).setCell ⟨w.heap.size + 1, 1, none⟩ b).heap[w.heap.size + 1]? = some (.cells #[a, b] 24 (0, 0)) := by
  obtain ⟨h1, ⟨u, v, h3⟩, _⟩ := h
  rw [heap_setCell_self _ _ _ _ _ _ (heap_setCell_self _ _ _ _ _ _ h3)]; rfl
theorem Rt5.store (h : Rt5 w nx px lx cx g nb p n c r W) (a b : Value) : Rt5 w nx px lx cx g nb p n c r ((W.setCell ⟨w.heap.size + 1, 0, none⟩ a).setCell ⟨w.heap.size + 1, 1, none⟩ b) := by
  have hr := h.res a b
  obtain ⟨h1, ⟨u, v, h3⟩, h4, h5, h6, h7, h8⟩ := h
  have hne : ∀ q, p = some q → q.block ≠ w.heap.size + 1 := fun q hq => by have := h7 q hq; omega
  refine ⟨?_, ⟨a, b, hr⟩, ?_, h5, (h6.store hne).store hne, h7, (h8.setCell (by simp) _).setCell (by simp) _⟩
  · rw [heap_setCell_other _ _ _ _ (by simp), heap_setCell_other _ _ _ _ (by simp)]; exact h1
  · rw [heap_setCell_other _ _ _ _ (by simp; omega), heap_setCell_other _ _ _ _ (by simp; omega)]; exact h4
end

theorem cmp_eq0 (a b : Int) : (cmpI a b == 0) = decide (a = b) := by
  rcases Int.lt_trichotomy a b with h | h | h
  · rw [cmp_lt h, decide_eq_false (by omega)]; rfl
  · rw [h, cmp_eq, decide_eq_true rfl]; rfl
  · rw [cmp_gt h, decide_eq_false (by omega)]; rfl
theorem rt_len' {r : List Int} (hd : Dg r) : (digs (val r).natAbs).length ≤ r.length := by
  have h := tlen_len hd
  have h1 := hd.lo
  rw [show (val r).natAbs = (val r).toNat by omega, h]
  exact tlen_le r
theorem sq_len {r x : Int} (h0 : 0 ≤ r) (h1 : r * r ≤ x) : (digs (r * r).natAbs).length ≤ (digs x.natAbs).length := by
  have := Int.mul_nonneg h0 h0
  exact digs_len_mono (by omega)

end Go.Proofs.YteaoaoknpihchaaGreat
