/- Contracts of the package integer and its reference: The reference: digit, normal, compared. The reference: Around, At, Same; the law's same. wire.Ints (as in the texts of stage 1). integer.decimal. integer.Parse, of what is no text of an integer. integer.root, Root. integer.above, root. integer.Compare, Sign. integer.Root. -/
import Derived.Test.YtleijkgdpmfabaaGreatDoorM6
import Derived.Test.YtleijkgdpmfabaaGreatDoorM7
import Derived.Laws.BytesArg
import Derived.Lib.AppendStr
import Derived.Laws.ResultCell
import Derived.Test.YtleijkgdpmfabaaGreatDoorM5
set_option linter.unusedVariables false
namespace Go.Proofs.YtleijkgdpmfabaaGreatDoor
open Go.RowKit

set_option maxRecDepth 100000 in
set_option maxHeartbeats 400000 in
theorem digit_any (a : Option Addr) (n c : Nat) (l : List Int) (i : Nat) (w : World) (hR0 : Rdi w a l) (hn0 : n = l.length) :
    Calls Tryz.prog 137 #[.slice a n c, .int .i64 (i : Int)] w fun e w' => e = .returned (.int .i64 (iat l i)) ∧ w = w' := by
  have hn := Lib.hid hn0
  by_cases h : i < n
  · obtain ⟨b, o, rfl, hc⟩ := Rdi_at hR0 i (by omega)
    have h1 : (i : Int) < (n : Int) := by omega
    have h2 : 0 ≤ (i : Int) := by omega
    generalize iat l i = x at hc ⊢
    clear hR0 hn0
    go_enter Tryz.func137, Tryz.ntmps137
    go_wp2_with fail
    go_ret
    exact ⟨rfl, rfl⟩
  · have h1 : ¬ (i : Int) < (n : Int) := by omega
    have h2 : Hid (iat l i = 0) := Lib.hid (iat_ge (by omega))
    clear hR0 hn0
    go_enter Tryz.func137, Tryz.ntmps137
    go_wp2_with fail
    go_ret
    exact ⟨by rw [h2.out]; rfl, rfl⟩

set_option maxRecDepth 100000 in
set_option maxHeartbeats 800000 in
theorem normal_any (neg : Bool) (a : Option Addr) (m c : Nat) (l : List Int) (w : World) (hR0 : Rdi w a l) (hm0 : m = l.length) (hmc : m ≤ c) (hm : c ≤ 9223372036854775807) (hd0 : Dg l) :
    Calls Tryz.prog 72 #[.bool neg, .slice a m c] w (RetF (fun q => a = some q) w (sg neg (val l))) := by
  have hR := Lib.hid hR0
  have hml := Lib.hid hm0
  have hd := Lib.hid hd0
  have hb0 := Lib.hid (below_new w (.cells #[.bool false, .slice none 0 0] 24))
  clear hR0 hm0 hd0
  go_enter Tryz.func72, Tryz.ntmps72
  go_wp2_with fail
  go_loopw [5] (fun n wr => ∃ k : Nat, k ≤ m ∧ n = .int .i64 (k : Int) ∧ Hid (∀ i, k ≤ i → i < l.length → iat l i = 0) ∧ wr = w.alloc (.cells #[.bool false, .slice none 0 0] 24)) (fun n _ => (intOf n).toNat)
  case atStart => exact ⟨m, Nat.le_refl _, rfl, Lib.hid (fun i h1 h2 => by have := hml.out; omega), rfl⟩
  case round =>
    obtain ⟨k, hk, rfl, hz, rfl⟩ := hrel
    by_cases h0 : k = 0
    · subst h0
      have ht : Hid (tlen l = 0) := Lib.hid (tlen_of l 0 (Nat.zero_le _) hz.out (.inl rfl))
      have hv : Hid (sg neg (val l) = 0) := Lib.hid (by rw [tlen_zero hd.out ht.out]; unfold sg; cases neg <;> rfl)
      rw [show ((0 : Nat) : Int) = 0 from rfl]
      go_wp2_with fail
      exact bodyPost_ret (v := .agg #[.bool false, .slice none 0 0]) (by simp [results, Tryz.results72, go_sem]) rfl ⟨_, _, _, _, rfl, by rw [hv.out]; exact IntAt_zero _ _ _ (by omega), below_new _ _, fun q hq => by cases hq⟩
    · obtain ⟨q, rfl⟩ : ∃ q, k = q + 1 := ⟨k - 1, by omega⟩
      obtain ⟨b, off, rfl, hc0⟩ := Rdi_at hR.out q (by rw [← hml.out]; omega)
      have hc := Below.cell_of' hb0.out hc0
      obtain ⟨x, hx⟩ : ∃ x, iat l q = x := ⟨_, rfl⟩
      rw [hx] at hc
      have hx' := Lib.hid hx
      clear hx h0 hc0
      have e1 : (((q + 1 : Nat) : Int)) = (q : Int) + 1 := by omega
      have e2 : (q : Int) + 1 - 1 = (q : Int) := by omega
      have h1 : (0 : Int) < (q : Int) + 1 := by omega
      have e3 : 0 ≤ (q : Int) := by omega
      rw [e1]
      by_cases hx0 : x = 0
      · subst hx0
        have hz2 : Hid (∀ i, q ≤ i → i < l.length → iat l i = 0) := Lib.hid (fun i h1 h2 => by
          rcases Nat.lt_or_ge q i with h | h
          · exact hz.out i (by omega) h2
          · rw [show i = q by omega]; exact hx'.out)
        go_wp2_with fail
        refine ⟨⟨q, by omega, rfl, hz2, trivial⟩, by simp [intOf]⟩
      · have hxb : (x == 0) = false := by simpa using hx0
        have ht : Hid (tlen l = q + 1) := Lib.hid (tlen_of l (q + 1) (by rw [← hml.out]; exact hk) hz.out (.inr (by rw [Nat.add_sub_cancel, hx'.out]; exact hx0)))
        have hI : Hid (∀ W, Below w.heap.size w W → IntAt W neg (some ⟨b, off, none⟩) (q + 1) c (sg neg (val l))) := Lib.hid (fun W hb => by rw [← ht.out]; exact made_is (Rdi_below hb hR.out) hd.out (by rw [ht.out]; omega) (by rw [← hml.out]; exact hmc) hm)
        have hqb : (((q : Int) + 1) == 0) = false := by simp; omega
        clear hx0
        go_wp2_with fail
        exact bodyPost_ret (v := .agg #[.bool neg, .slice (some ⟨b, off, none⟩) (q + 1) c]) (by simp [results, Tryz.results72, go_sem]) rfl ⟨_, _, _, _, rfl, hI.out _ (below_new _ _), below_new _ _, fun q hq => hq⟩
end Go.Proofs.YtleijkgdpmfabaaGreatDoor

namespace Go.Proofs.YtleijkgdpmfabaaGreatDoor
open Go.RowKit

/-- a number from 0 on, less than the second one -/
def arn (n most : Int) : Int := (if n < 0 then -(n + 1) else n) % most
theorem arn_lo (n most : Int) (h : 0 < most) : 0 ≤ arn n most := Int.emod_nonneg _ (by omega)
theorem arn_hi (n most : Int) (h : 0 < most) : arn n most < most := Int.emod_lt_of_pos _ h

set_option maxRecDepth 100000 in
set_option maxHeartbeats 400000 in
theorem around_any (n most : Int) (h1 : -9223372036854775808 ≤ n) (h2 : n ≤ 9223372036854775807) (h3 : 0 < most) (h4 : most ≤ 9223372036854775807) (w : World) :
    Calls Tryz.prog 44 #[.int .i64 n, .int .i64 most] w fun e w' => e = .returned (.int .i64 (arn n most)) ∧ w = w' := by
  have m0 : (most == 0) = false := by simp; omega
  by_cases h : n < 0
  · have hr : Hid (arn n most = (-(n + 1)) % most) := Lib.hid (by unfold arn; rw [if_pos h])
    have e1 : 0 ≤ -(n + 1) := by omega
    have e2 : -(n + 1) ≤ 9223372036854775807 := by omega
    have hlo := arn_lo n most h3
    have hhi := arn_hi n most h3
    rw [hr.out] at hlo hhi ⊢
    go_enter Tryz.func44, Tryz.ntmps44
    have e3 := Lib.hid (show -(n + 1).tmod most = -(n + 1) % most by rw [← Int.neg_tmod, Int.tmod_eq_emod_of_nonneg e1])
    go_wp2_with fail
    go_ret
    exact ⟨by rw [← e3.out]; rfl, rfl⟩
  · have hr : Hid (arn n most = n % most) := Lib.hid (by unfold arn; rw [if_neg h])
    have e1 : 0 ≤ n := by omega
    have hlo := arn_lo n most h3
    have hhi := arn_hi n most h3
    rw [hr.out] at hlo hhi ⊢
    go_enter Tryz.func44, Tryz.ntmps44
    go_wp2_with fail
    go_ret
    exact ⟨rfl, rfl⟩

def i64s (l : List Int) : Prop := ∀ i, i < l.length → -9223372036854775808 ≤ iat l i ∧ iat l i ≤ 9223372036854775807
/-- the number that a list gives at an index -/
def atv (l : List Int) (i : Int) (most : Int) : Int := if i < 0 ∨ (l.length : Int) ≤ i then 0 else arn (iat l i.toNat) most
theorem atv_lo (l : List Int) (i most : Int) (h : 0 < most) : 0 ≤ atv l i most := by unfold atv; split; omega; exact arn_lo _ _ h
theorem atv_hi (l : List Int) (i most : Int) (h : 0 < most) : atv l i most < most := by unfold atv; split; omega; exact arn_hi _ _ h

set_option maxRecDepth 100000 in
set_option maxHeartbeats 400000 in
theorem at_any (a : Option Addr) (n c : Nat) (l : List Int) (i : Nat) (most : Int) (w : World) (hR0 : Rdi w a l) (hn0 : n = l.length) (hi64 : i64s l) (hi : i ≤ 9223372036854775807) (h3 : 0 < most) (h4 : most ≤ 9223372036854775807) :
    Calls Tryz.prog 69 #[.slice a n c, .int .i64 (i : Int), .int .i64 most] w fun e w' => e = .returned (.int .i64 (atv l i most)) ∧ w = w' := by
  by_cases h : i < n
  · have hr : Hid (atv l i most = arn (iat l i) most) := Lib.hid (by unfold atv; rw [if_neg (by omega)]; rfl)
    obtain ⟨b, o, rfl, hc⟩ := Rdi_at hR0 i (by omega)
    have hb := hi64 i (by omega)
    have har : Hid (Calls Tryz.prog 44 #[.int .i64 (iat l i), .int .i64 most] w fun e w' => e = .returned (.int .i64 (arn (iat l i) most)) ∧ w = w') := Lib.hid (around_any _ _ hb.1 hb.2 h3 h4 w)
    rw [hr.out]
    have t1 : ¬ (i : Int) < 0 := by omega
    have t2 : (i : Int) < (n : Int) := by omega
    generalize arn (iat l i) most = r at har ⊢
    generalize iat l i = x at hc har
    clear hR0 hn0 hi64 hb
    go_enter Tryz.func69, Tryz.ntmps69
    go_wp2_with (go_at_call 44; refine har.out.mono ?_; rintro e w' ⟨rfl, rfl⟩)
    go_ret
    exact ⟨rfl, rfl⟩
  · have hr : Hid (atv l i most = 0) := Lib.hid (by unfold atv; rw [if_pos (by omega)])
    rw [hr.out]
    have t1 : ¬ (i : Int) < 0 := by omega
    have t2 : (n : Int) ≤ (i : Int) := by omega
    clear hR0 hn0 hi64
    go_enter Tryz.func69, Tryz.ntmps69
    go_wp2_with fail
    go_ret
    exact ⟨rfl, rfl⟩

theorem same_dec {x y : Int} : (decide (x < 0) = decide (y < 0) ∧ digs x.natAbs = digs y.natAbs) ↔ x = y := by
  constructor
  · rintro ⟨h1, h2⟩
    have h3 := digs_inj h2
    rw [decide_eq_decide] at h1
    omega
  · rintro rfl; exact ⟨rfl, rfl⟩
theorem list_ext {l m : List Int} (h : l.length = m.length) (h2 : ∀ i, i < l.length → iat l i = iat m i) : l = m := by
  apply List.ext_getElem h
  intro i h3 h4
  have := h2 i h3
  simpa [iat, h3, h4] using this

/-- what a round of Same needs -/
def SamL (w : World) (px : Option Addr) (cx : Nat) (py : Option Addr) (cy n : Nat) (wr : World) : Prop :=
  wr.cell? ⟨w.heap.size, 1, none⟩ = some (.slice px n cx) ∧ wr.cell? ⟨w.heap.size + 1, 1, none⟩ = some (.slice py n cy) ∧ Below w.heap.size w wr
theorem SamL.drewN {w : World} {px : Option Addr} {cx : Nat} {py : Option Addr} {cy n : Nat} {wr : World} (h : SamL w px cx py cy n wr) (q : Nat) : SamL w px cx py cy n (wr.drewN q) := ⟨h.1, h.2.1, below_drewN h.2.2 q⟩

set_option maxRecDepth 100000 in
set_option maxHeartbeats 1600000 in
theorem Same_any (nx ny : Bool) (px py : Option Addr) (lx cx ly cy : Nat) (x y : Int) (w : World) (hx0 : IntAt w nx px lx cx x) (hy0 : IntAt w ny py ly cy y) (hlx : lx ≤ 549755813887) (hly : ly ≤ 549755813887) :
    Calls Tryz.prog 22 #[.agg #[.bool nx, .slice px lx cx], .agg #[.bool ny, .slice py ly cy]] w fun e w' => e = .returned (.bool (decide (x = y))) ∧ Below w.heap.size w w' := by
  have hb : Below w.heap.size w ((w.alloc (.cells #[.bool nx, .slice px lx cx] 24)).alloc (.cells #[.bool ny, .slice py ly cy] 24)) := ((Below.refl _ _).alloc (Nat.le_refl _) _).alloc (by simp) _
  have hb' := Lib.hid hb
  have hdec := @same_dec x y
  obtain ⟨hnx, N1, H1, _⟩ := hx0
  obtain ⟨hny, N2, H2, _⟩ := hy0
  rw [← hnx, ← hny] at hdec
  obtain ⟨r, hr⟩ : ∃ r, decide (x = y) = r := ⟨_, rfl⟩
  have hT : Hid (nx = ny → digs x.natAbs = digs y.natAbs → r = true) := Lib.hid fun h1 h2 => by rw [← hr]; exact decide_eq_true (hdec.1 ⟨h1, h2⟩)
  have hF : Hid (¬ (nx = ny ∧ digs x.natAbs = digs y.natAbs) → r = false) := Lib.hid fun h => by rw [← hr]; exact decide_eq_false fun h2 => h (hdec.2 h2)
  rw [hr]
  generalize digs x.natAbs = l at N1 H1 hT hF
  generalize digs y.natAbs = m at N2 H2 hT hF
  clear hr hdec hnx hny hb
  have N1' := Lib.hid N1
  have N2' := Lib.hid N2
  have H1' := Lib.hid H1
  have H2' := Lib.hid H2
  clear N1 N2 H1 H2
  by_cases hn : nx = ny
  · subst hn
    have t1 : (nx != nx) = false := by simp
    by_cases hl : lx = ly
    · subst hl
      have t2 : ((lx : Int) != (lx : Int)) = false := by simp
      have hS0 : Hid ((((w.alloc (.cells #[.bool nx, .slice px lx cx] 24)).alloc (.cells #[.bool nx, .slice py lx cy] 24)).cell? ⟨w.heap.size, 1, none⟩ = some (.slice px lx cx)) ∧ (((w.alloc (.cells #[.bool nx, .slice px lx cx] 24)).alloc (.cells #[.bool nx, .slice py lx cy] 24)).cell? ⟨w.heap.size + 1, 1, none⟩ = some (.slice py lx cy))) := Lib.hid (by
        constructor
        · simp [World.cell?, show ((w.alloc (.cells #[.bool nx, .slice px lx cx] 24)).alloc (.cells #[.bool nx, .slice py lx cy] 24)).heap[w.heap.size]? = some (.cells #[.bool nx, .slice px lx cx] 24 (0, 0)) by rw [Below.heap_alloc _ _ _ (by simp)]; exact heap_alloc_new _ _]
        · have h := heap_alloc2_new w (.cells #[.bool nx, .slice px lx cx] 24) (.cells #[.bool nx, .slice py lx cy] 24)
          unfold World.cell?
          rw [h]
          rfl)
      go_enter Tryz.func22, Tryz.ntmps22
      go_wp2_with fail
      generalize (w.alloc (.cells #[.bool nx, .slice px lx cx] 24)).alloc (.cells #[.bool nx, .slice py lx cy] 24) = W1 at hS0 hb' ⊢
      go_loopw [5] (fun i wr => ∃ (k : Nat), k ≤ lx ∧ i = .int .i64 (k : Int) ∧ Hid (∀ j, j < k → iat l j = iat m j) ∧ SamL w px cx py cy lx wr) (fun i _ => lx - (intOf i).toNat)
      case atStart => exact ⟨0, Nat.zero_le _, rfl, Lib.hid (fun j hj => by omega), hS0.out.1, hS0.out.2, hb'.out⟩
      case round =>
        obtain ⟨k, hk, rfl, hall, hw⟩ := hrel
        have s1 := hw.1
        have s2 := hw.2.1
        have hB := Lib.hid hw.2.2
        have hw' := Lib.hid hw
        clear hw
        by_cases hlt : k < lx
        · obtain ⟨b1, o1, hpx, hc1⟩ := Rdi_at H1'.out k (by rw [← N1'.out]; exact hlt)
          obtain ⟨b2, o2, hpy, hc2⟩ := Rdi_at H2'.out k (by rw [← N2'.out]; exact hlt)
          have C1 := Below.cell_of' hB.out hc1
          have C2 := Below.cell_of' hB.out hc2
          obtain ⟨X, hX⟩ : ∃ X, iat l k = X := ⟨_, rfl⟩
          obtain ⟨Y, hY⟩ : ∃ Y, iat m k = Y := ⟨_, rfl⟩
          rw [hX] at C1
          rw [hY] at C2
          have hX' := Lib.hid hX
          have hY' := Lib.hid hY
          have k0 : 0 ≤ (k : Int) := by omega
          have k1 : (k : Int) < (lx : Int) := by omega
          have k2 : ((k : Int)).toNat = k := by omega
          clear hc1 hc2 hX hY
          subst hpx hpy
          by_cases hXY : X = Y
          · subst hXY
            have hne : (X != X) = false := by simp
            have hall2 : Hid (∀ j, j < k + 1 → iat l j = iat m j) := Lib.hid fun j hj => by
              rcases Nat.lt_or_ge j k with h | h
              · exact hall.out j h
              · rw [show j = k by omega, hX'.out, hY'.out]
            go_wp2_with fail
            go_quiet (fail)
            go_wp2_with fail
            exact ⟨⟨k + 1, by omega, by simp, hall2, hw'.out.drewN nq⟩, by simp [intOf]; omega⟩
          · have hne : (X != Y) = true := by simpa using hXY
            have hr0 : Hid (r = false) := Lib.hid (hF.out (fun h => hXY (by rw [← hX'.out, ← hY'.out, h.2])))
            clear hXY
            go_wp2_with fail
            go_quiet (fail)
            go_wp2_with fail
            go_ret
            exact ⟨by rw [hr0.out]; rfl, below_drewN hB.out _⟩
        · have hk' : k = lx := by omega
          subst hk'
          have hr1 : Hid (r = true) := Lib.hid (hT.out (by first | trivial | rfl) (list_ext (by rw [← N1'.out, ← N2'.out]) (fun i hi => hall.out i (by rw [N1'.out]; exact hi))))
          go_wp2_with fail
          go_ret
          exact ⟨by rw [hr1.out]; rfl, hB.out⟩
    · have t2 : ((lx : Int) != (ly : Int)) = true := by simp; omega
      have hr0 : Hid (r = false) := Lib.hid (hF.out (fun h => hl (by rw [N1'.out, N2'.out, h.2])))
      go_enter Tryz.func22, Tryz.ntmps22
      go_wp2_with fail
      go_ret
      exact ⟨by rw [hr0.out]; rfl, hb'.out⟩
  · have hr0 : Hid (r = false) := Lib.hid (hF.out (fun h => hn h.1))
    obtain rfl : ny = !nx := by cases nx <;> cases ny <;> first | rfl | exact absurd rfl hn
    have hnn : (nx == !nx) = false := by cases nx <;> rfl
    clear hn
    go_enter Tryz.func22, Tryz.ntmps22
    go_wp2_with fail
    go_ret
    exact ⟨by rw [hr0.out]; rfl, hb'.out⟩

end Go.Proofs.YtleijkgdpmfabaaGreatDoor

namespace Go.Proofs.YtleijkgdpmfabaaGreatDoor
open Go.RowKit


/-- decoding a length that is followed by parts of at least z bytes -/
def gl (z : Nat) (l : List UInt8) : Int × Nat × Int :=
  let r := gi l
  if r.2.2 ≠ 0 then (0, 0, r.2.2) else if r.1 < 0 then (0, 0, 2) else if ((l.length - r.2.1) / z : Nat) < r.1 then (0, 0, 3) else (r.1, r.2.1, 0)

/-- a list of bytes as a string -/
def bs (l : List UInt8) : ByteArray := ⟨l.toArray⟩

theorem strOf_byt (l : List UInt8) : strOfNums (l.map fun b => (b.toNat : Int)) = bs l := by
  unfold strOfNums bs
  congr 1
  simp [List.map_map, Function.comp_def]

theorem byt_map (l : List UInt8) (i : Nat) : (l.map fun b => (b.toNat : Int)).getD i 0 = byt l i := by
  unfold byt
  rcases Nat.lt_or_ge i l.length with h | h
  · simp [List.getD_eq_getElem?_getD, h]
  · simp [List.getD_eq_getElem?_getD, List.getElem?_eq_none h]

theorem run_bytes_string {P : Program} (src e dst : TypeId) (hs : P.underlying src = some (.slice e)) (he : P.underlying e = some (.int .u8)) (hd : P.underlying dst = some .string) (w : World) (a : Option Addr) (n c : Nat) (l : List UInt8) (hR : Rd w a l) (hn : n = l.length) :
    (convert src dst (.slice a n c)).run P w = .ok (.string (bs l)) w := by
  rcases hR with rfl | ⟨b, off, rfl, hc⟩
  · subst hn
    rw [run_convert_bytes_string w src dst e _ _ c hs he hd]
    cases a with
    | none => simp [Conv.bytesToString, bs]; rfl
    | some a =>
      have := run_bytesToString (P := P) w a 0 c [] (by simp [loadCells, loadCellsFrom])
      simp only [List.length_nil]
      rw [this]
      rfl
  · rw [run_convert_bytes_arg w src e hs he b off n c (l.map fun b => (b.toNat : Int)) (by simp [hn]) (fun i hi => by rw [hc i (by omega), byt_map]) dst hd, strOf_byt]

/-- decoding a byte string -/
def gb (l : List UInt8) : List UInt8 × Nat × Int :=
  let r := gl 1 l
  if r.2.2 ≠ 0 then ([], 0, r.2.2) else ((l.drop r.2.1).take r.1.toNat, r.2.1 + r.1.toNat, 0)

/-- an encoding in new memory -/
def EncPost (w : World) (l : List UInt8) (e : Ending) (w' : World) : Prop :=
  ∃ v', e = .returned v' ∧ w'.ownsRow w.heap.size 5 1 v' l.length (bvs l) ∧ Below w.heap.size w w'

theorem encPost_of {w w' : World} {l : List UInt8} {e : Ending} (h : PutPost w w.heap.size 0 [] l e w') : EncPost w l e w' := by
  obtain ⟨v', he, ho, g⟩ := h
  refine ⟨v', he, ?_, g⟩
  rw [Nat.zero_add, List.nil_append] at ho
  exact ho

/-- a string's bytes -/
def sl (s : ByteArray) : List UInt8 := s.data.toList
/-- the encoding of a list of integers -/
def encIs (l : List Int) : List UInt8 := enc (l.length : Int) ++ l.flatMap enc

/-- a row that grows while a list is encoded -/
def RowInv (w : World) (v : Value) (l : List UInt8) (wr : World) : Prop := wr.ownsRow w.heap.size 5 1 v l.length (bvs l) ∧ Below w.heap.size w wr

theorem RowInv.put {w wr w2 : World} {v : Value} {l r : List UInt8} {e : Ending} (h : RowInv w v l wr) (hp : PutPost wr w.heap.size l.length (bvs l) r e w2) : ∃ v2, e = .returned v2 ∧ RowInv w v2 (l ++ r) w2 := by
  obtain ⟨v2, he, ho, hb⟩ := hp
  exact ⟨v2, he, by rw [List.length_append, bvs_append]; exact ho, h.2.trans hb⟩

theorem flat_take {α : Type} (f : α → List UInt8) (l : List α) (k : Nat) (hk : k < l.length) (d : α) : (l.take (k + 1)).flatMap f = (l.take k).flatMap f ++ f (l.getD k d) := by
  rw [List.take_succ_eq_append_getElem hk, List.flatMap_append, List.flatMap_singleton]
  simp [hk]

theorem flat_take_le {α : Type} (f : α → List UInt8) (l : List α) (k : Nat) : ((l.take k).flatMap f).length ≤ (l.flatMap f).length := by
  have h := congrArg (fun l => (l.flatMap f).length) (List.take_append_drop k l)
  simp only [List.flatMap_append, List.length_append] at h
  omega

theorem enc_le (n : Int) : (enc n).length ≤ 9 := by rw [enc_length]; have := nd_le (mgn n); omega

set_option maxRecDepth 100000 in
set_option maxHeartbeats 800000 in
theorem putListInt_any (a : Option Addr) (n c : Nat) (l : List Int) (w : World) (hR : Rdi w a l) (hn : Hid (n = l.length)) (hmax : n ≤ 9223372036854775807) (hw : Hid (i64s l)) (hlen : (encIs l).length ≤ 70368744177664) :
    Calls Tryz.prog 150 #[.slice a n c, .func (.func 151) #[] #[]] w (EncPost w (encIs l)) := by
  have hR' := Lib.hid hR
  have hlen' := Lib.hid hlen
  clear hR hlen
  go_enter Tryz.func150, Tryz.ntmps150
  go_wp2_with (go_at_call 151; refine (putInt_any (.slice none 0 0) 0 [] w.heap.size _ _ (World.ownsRow_nil _ _ _ _) (Nat.le_refl _) (by omega) (by omega) (by omega)).mono ?_; intro e w1 hp; obtain ⟨v0, rfl, h0, h0'⟩ := encPost_of hp; have hI : Hid (RowInv w v0 (enc (n : Int)) w1) := Lib.hid ⟨h0, h0'⟩; clear hp h0 h0')
  go_loopw [5, 13] (fun b i wr => ∃ k : Nat, k ≤ n ∧ i = .int .i64 k ∧ RowInv w b (enc (n : Int) ++ (l.take k).flatMap enc) wr) (fun _ i _ => n - (intOf i).toNat)
  case atStart => exact ⟨0, Nat.zero_le _, rfl, by rw [List.take_zero, List.flatMap_nil, List.append_nil]; exact hI.out⟩
  case round =>
    obtain ⟨k, hk, rfl, hinv⟩ := hrel
    by_cases hlt : k < n
    · have hkl : k < l.length := by rw [← hn.out]; exact hlt
      obtain ⟨b0, off, rfl, hc⟩ := Rdi_at hR'.out k hkl
      have hcell := Below.cell_of' hinv.2 hc
      have hx := hw.out k hkl
      have hx1 := hx.1
      have hx2 := hx.2
      have hz := hinv.2.size
      have hl2 := Lib.hid (flat_take_le enc l k)
      have hl3 := hlen'.out
      have hinv' := Lib.hid hinv
      clear hinv hx hI
      have hll : (enc (n : Int) ++ (l.take k).flatMap enc).length ≤ 70368744177664 := by
        have := hl2.out
        unfold encIs at hl3
        rw [List.length_append] at hl3 ⊢
        rw [hn.out]
        omega
      clear hl3
      go_wp2_with (go_at_call 151; refine (putInt_any _ _ _ w.heap.size _ _ hinv'.out.1 hz hll hx1 hx2).mono ?_; intro e w2 hp; obtain ⟨v2, rfl, hI2⟩ := hinv'.out.put hp; have hJ := Lib.hid hI2; clear hp hI2)
      refine ⟨⟨k + 1, by omega, by simp, ?_⟩, by simp [intOf]; omega⟩
      rw [flat_take enc l k hkl 0, ← List.append_assoc]
      exact hJ.out
    · have hk' : k = n := by omega
      subst hk'
      rw [hn.out, List.take_length] at hinv
      have hJ := Lib.hid hinv
      clear hinv hI
      go_wp2
      go_ret
      exact ⟨_, rfl, hJ.out.1, hJ.out.2⟩

set_option maxRecDepth 100000 in
set_option maxHeartbeats 400000 in
theorem Ints_any (a : Option Addr) (n c : Nat) (l : List Int) (w : World) (hR : Rdi w a l) (hn : n = l.length) (hmax : n ≤ 9223372036854775807) (hw : i64s l) (hlen : (encIs l).length ≤ 70368744177664) :
    Calls Tryz.prog 133 #[.slice a n c] w (EncPost w (encIs l)) := by
  have hR' := Lib.hid hR
  have hn' := Lib.hid hn
  have hw' := Lib.hid hw
  have hl' := Lib.hid hlen
  clear hR hn hw hlen
  go_enter Tryz.func133, Tryz.ntmps133
  go_wp2_with (go_at_call 150; refine (putListInt_any _ _ _ l _ hR'.out hn' hmax hw' hl'.out).mono ?_; intro e w' hp; have hq := Lib.hid hp; obtain ⟨v', rfl, _, _⟩ := hp)
  go_ret
  exact hq.out

end Go.Proofs.YtleijkgdpmfabaaGreatDoor

namespace Go.Proofs.YtleijkgdpmfabaaGreatDoor
open Go.RowKit

/-- a decimal digit's sign -/
def dgt (c : UInt8) : Bool := 48 ≤ c && c ≤ 57
/-- whether a text consists of decimal digits, of which the first one is 0 only if it is the only one -/
def decB (l : List UInt8) : Bool := l.all dgt && (l == [48] || (l != [] && l.head? != some 48))
def DcP (s : ByteArray) (w : World) (e : Ending) (w' : World) : Prop := e = .returned (.bool (decB s.data.toList)) ∧ w = w'
theorem dgt_lt {c : UInt8} (h : (c.toNat : Int) < 48) : dgt c = false := by
  unfold dgt
  have : ¬ (48 ≤ c) := by rw [UInt8.le_iff_toNat_le]; show ¬ 48 ≤ c.toNat; omega
  simp [this]
theorem dgt_gt {c : UInt8} (h : 57 < (c.toNat : Int)) : dgt c = false := by
  unfold dgt
  have : ¬ (c ≤ 57) := by rw [UInt8.le_iff_toNat_le]; show ¬ c.toNat ≤ 57; omega
  simp [this]
theorem dgt_in {c : UInt8} (h1 : ¬ (c.toNat : Int) < 48) (h2 : ¬ 57 < (c.toNat : Int)) : dgt c = true := by
  unfold dgt
  have a1 : 48 ≤ c := by rw [UInt8.le_iff_toNat_le]; show 48 ≤ c.toNat; omega
  have a2 : c ≤ 57 := by rw [UInt8.le_iff_toNat_le]; show c.toNat ≤ 57; omega
  simp [a1, a2]
theorem decB_no {l : List UInt8} (k : Nat) (hk : k < l.length) (h : dgt l[k] = false) : decB l = false := by
  unfold decB
  have : l.all dgt = false := by
    rw [List.all_eq_false]
    exact ⟨l[k], List.getElem_mem hk, by rw [h]; simp⟩
  rw [this]; rfl
theorem decB_yes {l : List UInt8} (h : ∀ k (hk : k < l.length), dgt l[k] = true) : decB l = (l == [48] || (l != [] && l.head? != some 48)) := by
  unfold decB
  have : l.all dgt = true := by
    rw [List.all_eq_true]
    intro x hx
    obtain ⟨k, hk, rfl⟩ := List.getElem_of_mem hx
    exact h k hk
  rw [this]; rfl

theorem byteArray_toList (s : ByteArray) : s.toList = s.data.toList := ByteArray.toList_eq s

set_option maxRecDepth 100000 in
set_option maxHeartbeats 800000 in
theorem decimal_any (s : ByteArray) (w : World) (hs : s.size ≤ maxLen) :
    Calls Tryz.prog 131 #[.string s] w (DcP s w) := by
  unfold maxLen at hs
  go_enter Tryz.func131, Tryz.ntmps131
  go_wp2
  go_loop [6] (fun i => ∃ k : Nat, k ≤ s.size ∧ i = .int .i64 k ∧ Hid (∀ j (hj : j < s.data.toList.length), j < k → dgt s.data.toList[j] = true)) (fun i => s.size - (intOf i).toNat)
  case atStart => exact ⟨0, Nat.zero_le _, rfl, Lib.hid (fun j _ hj => by omega)⟩
  case round =>
    obtain ⟨k, hk, rfl, hall⟩ := hrel
    by_cases hlt : k < s.size
    · have hkl : Hid (k < s.data.toList.length) := Lib.hid (by simpa using hlt)
      have hx : Hid (s.data.toList[k]'hkl.out = s[k]) := Lib.hid rfl
      by_cases h1 : (s[k].toNat : Int) < 48
      · have hr : Hid (decB s.data.toList = false) := Lib.hid (decB_no k hkl.out (by rw [hx.out]; exact dgt_lt h1))
        go_wp2
        go_ret
        exact ⟨by rw [hr.out]; rfl, rfl⟩
      · by_cases h2 : 57 < (s[k].toNat : Int)
        · have hr : Hid (decB s.data.toList = false) := Lib.hid (decB_no k hkl.out (by rw [hx.out]; exact dgt_gt h2))
          go_wp2
          go_ret
          exact ⟨by rw [hr.out]; rfl, rfl⟩
        · have hall2 : Hid (∀ j (hj : j < s.data.toList.length), j < k + 1 → dgt s.data.toList[j] = true) := Lib.hid (fun j hj h3 => by
            rcases Nat.lt_or_ge j k with h4 | h4
            · exact hall.out j hj h4
            · obtain rfl : j = k := by omega
              rw [hx.out]; exact dgt_in h1 h2)
          go_wp2
          exact ⟨⟨k + 1, by omega, by simp, hall2⟩, by simp [intOf]; omega⟩
    · have hk' : k = s.size := by omega
      have hr : Hid (decB s.data.toList = (s.data.toList == [48] || (s.data.toList != [] && s.data.toList.head? != some 48))) := Lib.hid (decB_yes fun j hj => hall.out j hj (by rw [hk']; simpa using hj))
      have hTL : s.toList = s.data.toList := byteArray_toList s
      rcases hcase : s.data.toList with _ | ⟨c, rest⟩
      · rw [hcase] at hr hTL
        have g1 : (s.toList == [48]) = false := by rw [hTL]; rfl
        have g2 : s.toList.isEmpty = true := by rw [hTL]; rfl
        have hr' : Hid (decB s.data.toList = false) := Lib.hid (by rw [hcase]; have := hr.out; rw [this]; rfl)
        clear hr hTL hcase hall
        go_wp2
        go_ret
        exact ⟨by rw [hr'.out]; rfl, rfl⟩
      · have hsz : 0 < s.size := by have : s.data.toList.length = s.size := by simp
                                    rw [hcase] at this; simp at this; omega
        have hs0 : Hid (s[0] = c) := Lib.hid (by
          have h1 : s.data.toList[0]'(by rw [hcase]; simp) = s[0] := rfl
          rw [← h1]; simp [hcase])
        rw [hcase] at hr hTL
        by_cases hA : c = 48 ∧ rest = []
        · have g1 : (s.toList == [48]) = true := by rw [hTL, hA.1, hA.2]; rfl
          have hr' : Hid (decB s.data.toList = true) := Lib.hid (by rw [hcase]; have := hr.out; rw [this, hA.1, hA.2]; rfl)
          clear hr hTL hcase hall hs0 hA
          go_wp2
          go_ret
          exact ⟨by rw [hr'.out]; rfl, rfl⟩
        · have g1 : (s.toList == [48]) = false := by
            rw [hTL]
            simp only [beq_eq_false_iff_ne, ne_eq, List.cons.injEq]
            exact hA
          have g2 : s.toList.isEmpty = false := by rw [hTL]; rfl
          have hr' : Hid (decB s.data.toList = ((s[0].toNat : Int) != 48)) := Lib.hid (by
            rw [hcase, hr.out, hs0.out]
            have g3 : ((c :: rest) == [48]) = false := by rw [← hTL]; exact g1
            rw [g3]
            by_cases hc : c = 48
            · subst hc; simp
            · have h2 : ¬ c.toNat = 48 := fun e => hc (by rw [← UInt8.toNat_inj]; exact e)
              have h3 : ((c.toNat : Int) != 48) = true := by simp; omega
              rw [h3]; simp [hc])
          clear hr hTL hcase hall hs0 hA
          go_wp2
          go_ret
          exact ⟨by rw [hr'.out]; rfl, rfl⟩
end Go.Proofs.YtleijkgdpmfabaaGreatDoor

namespace Go.Proofs.YtleijkgdpmfabaaGreatDoor
open Go.RowKit

theorem results_cell1 {P : Program} {fn : Func} {p q : Tmp} {ty : TypeId} (h : fn.results = #[.cell p ty, .tmp q]) (tmps : Array Value) (w : World) (g : Nat) (t : TypeId) (cs : Array Value) (fr : Nat × Nat) (d : TypeDesc) (v : Value)
    (hp : tmps.getD p undef = .pointer (some ⟨g, 0, none⟩)) (hv : tmps.getD q undef = v) (hg : w.heap[g]? = some (.cells cs t fr))
    (hu : P.underlying ty = some d) (hd : (match d with | .struct _ | .array _ _ => true | _ => false) = true) (hi : (P.info? ty).map (·.size) = some cs.size) :
    (results fn tmps).run P w = .ok (.tuple #[.agg cs, v]) w := by
  rw [results_cell_tmp h, hp, hv]
  simp [asAddr, run_loadVar_row w g t ty cs fr d hg hu hd hi, Result.andThen]

end Go.Proofs.YtleijkgdpmfabaaGreatDoor

namespace Go.Proofs.YtleijkgdpmfabaaGreatDoor
open Go.RowKit

theorem wpList_append_run {P : Program} {w : World} {ops : Array Oper} {rest : List Oper} {o : Oper} {a : Act} {Q : Exit → Act → World → Prop} (hgd : o.guard = none) (s x : Operand) (t u : TypeId)
    (ho : o.op = .call { callee := .builtin .append, args := #[s, x], argTypes := #[t, u] }) (vs vx : Value) (hs : a.eval s = vs) (hx : a.eval x = vx) (v' : Value) (w' : World) (hrun : (Builtin.append_ #[t, u] o.type #[vs, vx]).run P w = .ok v' w') (h : wpList P ops Q rest (a.put o.dst v') w') : wpList P ops Q (o :: rest) a w := by
  refine wpList_plain hgd fun K hK => ?_
  unfold Oper.wp execOp
  simp only [ho, resolve, invoke, builtin, Sem.run_bind, Sem.run_pure, Result.andThen_ok, List.map_toArray, List.map_cons, List.map_nil, hs, hx, hrun]
  exact hK _ _ h
end Go.Proofs.YtleijkgdpmfabaaGreatDoor

namespace Go.Proofs.YtleijkgdpmfabaaGreatDoor
open Go.RowKit

end Go.Proofs.YtleijkgdpmfabaaGreatDoor

namespace Go.Proofs.YtleijkgdpmfabaaGreatDoor
open Go.RowKit

theorem cmp_abs_neg {x y : Int} (hx : x < 0) (hy : y < 0) : cmpI y.natAbs x.natAbs = cmpI x y := by
  unfold cmpI
  rw [show (y.natAbs : Int) = -y by omega, show (x.natAbs : Int) = -x by omega]
  repeat (first | split | omega)
theorem cmp_abs_pos {x y : Int} (hx : ¬ x < 0) (hy : ¬ y < 0) : cmpI x.natAbs y.natAbs = cmpI x y := by
  rw [show (x.natAbs : Int) = x by omega, show (y.natAbs : Int) = y by omega]

set_option maxRecDepth 100000 in
set_option maxHeartbeats 1600000 in
theorem Compare_any (nx ny : Bool) (px py : Option Addr) (lx cx ly cy : Nat) (x y : Int) (w : World) (hx0 : IntAt w nx px lx cx x) (hy0 : IntAt w ny py ly cy y) (hlx : lx ≤ 549755813887) (hly : ly ≤ 549755813887) :
    Calls Tryz.prog 92 #[.agg #[.bool nx, .slice px lx cx], .agg #[.bool ny, .slice py ly cy]] w fun e w' => e = .returned (.int .i64 (cmpI x y)) ∧ Below w.heap.size w w' := by
  have hb : Below w.heap.size w ((w.alloc (.cells #[.bool nx, .slice px lx cx] 24)).alloc (.cells #[.bool ny, .slice py ly cy] 24)) := ((Below.refl _ _).alloc (Nat.le_refl _) _).alloc (by simp) _
  have hb' := Lib.hid hb
  have h1 : Hid (∀ W, Below w.heap.size w W → Calls Tryz.prog 114 #[.slice px lx cx, .slice py ly cy] W fun e w' => e = .returned (.int .i64 (cmpI x.natAbs y.natAbs)) ∧ Below W.heap.size W w') :=
    Lib.hid fun W h => compare_any _ _ _ _ _ _ _ _ W (Rdi_below h hx0.2.2.1) (Rdi_below h hy0.2.2.1) hx0.2.1 hy0.2.1 (by omega) (by omega)
  have h2 : Hid (∀ W, Below w.heap.size w W → Calls Tryz.prog 114 #[.slice py ly cy, .slice px lx cx] W fun e w' => e = .returned (.int .i64 (cmpI y.natAbs x.natAbs)) ∧ Below W.heap.size W w') :=
    Lib.hid fun W h => compare_any _ _ _ _ _ _ _ _ W (Rdi_below h hy0.2.2.1) (Rdi_below h hx0.2.2.1) hy0.2.1 hx0.2.1 (by omega) (by omega)
  have hnx := hx0.1
  have hny := hy0.1
  obtain ⟨r, hr⟩ : ∃ r, cmpI x y = r := ⟨_, rfl⟩
  rw [hr]
  clear hx0 hy0 hb
  cases nx <;> cases ny
  · have e1 : ¬ x < 0 := by simpa using hnx.symm
    have e2 : ¬ y < 0 := by simpa using hny.symm
    rw [cmp_abs_pos e1 e2, hr] at h1
    clear hnx hny hr h2
    go_enter Tryz.func92, Tryz.ntmps92
    go_wp2_with (go_at_call 114; refine (h1.out _ hb'.out).mono ?_; rintro e w1 ⟨rfl, hb1⟩; have hB := Lib.hid (below_tr hb'.out hb1); clear hb1)
    go_ret
    exact ⟨rfl, hB.out⟩
  · have e1 : ¬ x < 0 := by simpa using hnx.symm
    have e2 : y < 0 := by simpa using hny.symm
    rw [cmp_gt (show y < x by omega)] at hr
    subst hr
    clear hnx hny h1 h2 e1 e2
    go_enter Tryz.func92, Tryz.ntmps92
    go_wp2_with fail
    go_ret
    exact ⟨rfl, hb'.out⟩
  · have e1 : x < 0 := by simpa using hnx.symm
    have e2 : ¬ y < 0 := by simpa using hny.symm
    rw [cmp_lt (show x < y by omega)] at hr
    subst hr
    clear hnx hny h1 h2 e1 e2
    go_enter Tryz.func92, Tryz.ntmps92
    go_wp2_with fail
    go_ret
    exact ⟨rfl, hb'.out⟩
  · have e1 : x < 0 := by simpa using hnx.symm
    have e2 : y < 0 := by simpa using hny.symm
    rw [cmp_abs_neg e1 e2, hr] at h2
    clear hnx hny hr h1
    go_enter Tryz.func92, Tryz.ntmps92
    go_wp2_with (go_at_call 114; refine (h2.out _ hb'.out).mono ?_; rintro e w1 ⟨rfl, hb1⟩; have hB := Lib.hid (below_tr hb'.out hb1); clear hb1)
    go_ret
    exact ⟨rfl, hB.out⟩

set_option maxRecDepth 100000 in
set_option maxHeartbeats 800000 in
theorem Sign_any (nx : Bool) (px : Option Addr) (lx cx : Nat) (x : Int) (w : World) (hx0 : IntAt w nx px lx cx x) (hlx : lx ≤ 549755813887) :
    Calls Tryz.prog 78 #[.agg #[.bool nx, .slice px lx cx]] w fun e w' => e = .returned (.int .i64 (cmpI x 0)) ∧ Below w.heap.size w w' := by
  have hc : Hid (∀ W, Below w.heap.size w W → Calls Tryz.prog 92 #[.agg #[.bool nx, .slice px lx cx], .agg #[.bool false, .slice none 0 0]] W fun e w' => e = .returned (.int .i64 (cmpI x 0)) ∧ Below W.heap.size W w') :=
    Lib.hid fun W h => Compare_any _ _ _ _ _ _ _ _ x 0 W (hx0.later h) (IntAt_zero _ _ _ (by omega)) hlx (by omega)
  obtain ⟨r, hr⟩ : ∃ r, cmpI x 0 = r := ⟨_, rfl⟩
  rw [hr] at hc ⊢
  clear hx0 hr
  go_enter Tryz.func78, Tryz.ntmps78
  go_wp2_with (go_at_call 92; refine (hc.out _ (below_new _ _)).mono ?_; rintro e w1 ⟨rfl, hb1⟩; have hB := Lib.hid (below_tr (below_new _ _) hb1); clear hb1)
  go_ret
  exact ⟨rfl, hB.out⟩
end Go.Proofs.YtleijkgdpmfabaaGreatDoor

namespace Go.Proofs.YtleijkgdpmfabaaGreatDoor
open Go.RowKit

/-- the boxes of a root -/
def Rt5 (w : World) (nx : Bool) (px : Option Addr) (lx cx : Nat) (g : Nat) (nb : Bool) (p : Option Addr) (n c : Nat) (r : Int) (W : World) : Prop :=
  W.heap[w.heap.size]? = some (.cells #[.bool nx, .slice px lx cx] 24 (0, 0)) ∧ (∃ u v, W.heap[w.heap.size + 1]? = some (.cells #[u, v] 24 (0, 0))) ∧ W.heap[g]? = some (.cells #[.bool nb, .slice p n c] 24 (0, 0)) ∧
  w.heap.size + 1 < g ∧ IntAt W nb p n c r ∧ (∀ q, p = some q → w.heap.size + 1 < q.block) ∧ Below w.heap.size w W
section
variable {w W w' : World} {nx : Bool} {px : Option Addr} {lx cx g : Nat} {nb : Bool} {p : Option Addr} {n c : Nat} {r : Int}
theorem Rt5.facts (h : Rt5 w nx px lx cx g nb p n c r W) : W.cell? ⟨w.heap.size, 0, none⟩ = some (.bool nx) ∧ W.cell? ⟨w.heap.size, 1, none⟩ = some (.slice px lx cx) ∧
    W.cell? ⟨w.heap.size + 1, 0, none⟩ = some (oldv W (w.heap.size + 1) 0) ∧ W.cell? ⟨w.heap.size + 1, 1, none⟩ = some (oldv W (w.heap.size + 1) 1) ∧ W.frozen? ⟨w.heap.size + 1, 0, none⟩ = false ∧ W.frozen? ⟨w.heap.size + 1, 1, none⟩ = false ∧
    W.cell? ⟨g, 0, none⟩ = some (.bool nb) ∧ W.cell? ⟨g, 1, none⟩ = some (.slice p n c) := by
  obtain ⟨h1, ⟨u, v, h3⟩, h4, _⟩ := h
  refine ⟨by simp [World.cell?, h1], by simp [World.cell?, h1], by simp [oldv, World.cell?, h3], by simp [oldv, World.cell?, h3], by simp [World.frozen?, h3], by simp [World.frozen?, h3], by simp [World.cell?, h4], by simp [World.cell?, h4]⟩
theorem Rt5.later (h : Rt5 w nx px lx cx g nb p n c r W) (hb : Below W.heap.size W w') : Rt5 w nx px lx cx g nb p n c r w' := by
  obtain ⟨h1, ⟨u, v, h3⟩, h4, h5, h6, h7, h8⟩ := h
  exact ⟨(hb.block _ (lt_blk h1)).trans h1, ⟨u, v, (hb.block _ (lt_blk h3)).trans h3⟩, (hb.block _ (lt_blk h4)).trans h4, h5, h6.later hb, h7, below_tr h8 hb⟩
theorem Rt5.drew (h : Rt5 w nx px lx cx g nb p n c r W) : Rt5 w nx px lx cx g nb p n c r W.drew := h.later ((Below.refl _ W).drew)
theorem Rt5.res (h : Rt5 w nx px lx cx g nb p n c r W) (a b : Value) : ((W.setCell ⟨w.heap.size + 1, 0, none⟩ a).setCell ⟨w.heap.size + 1, 1, none⟩ b).heap[w.heap.size + 1]? = some (.cells #[a, b] 24 (0, 0)) := by
  obtain ⟨h1, ⟨u, v, h3⟩, _⟩ := h
  rw [heap_setCell_self _ _ _ _ _ _ (heap_setCell_self _ _ _ _ _ _ h3)]; rfl
theorem Rt5.store (h : Rt5 w nx px lx cx g nb p n c r W) (a b : Value) : Rt5 w nx px lx cx g nb p n c r ((W.setCell ⟨w.heap.size + 1, 0, none⟩ a).setCell ⟨w.heap.size + 1, 1, none⟩ b) := by
  have hr := h.res a b
  obtain ⟨h1, ⟨u, v, h3⟩, h4, h5, h6, h7, h8⟩ := h
  have hne : ∀ q, p = some q → q.block ≠ w.heap.size + 1 := fun q hq => by have := h7 q hq; omega
  refine ⟨?_, ⟨a, b, hr⟩, ?_, h5, (h6.store hne).store hne, h7, (h8.setCell (by simp) _).setCell (by simp) _⟩
  · rw [heap_setCell_other _ _ _ _ (by simp), heap_setCell_other _ _ _ _ (by simp)]; exact h1
  · rw [heap_setCell_other _ _ _ _ (by simp; omega), heap_setCell_other _ _ _ _ (by simp; omega)]; exact h4
end

theorem rt_len' {r : List Int} (hd : Dg r) : (digs (val r).natAbs).length ≤ r.length := by
  have h := tlen_len hd
  have h1 := hd.lo
  rw [show (val r).natAbs = (val r).toNat by omega, h]
  exact tlen_le r
end Go.Proofs.YtleijkgdpmfabaaGreatDoor
