/- Contracts of the package integer and its reference: Appending a list to a row of one; the bytes of a code. integer.Text. integer.Encode. integer.Text. lives: more words. The steps of Euclid that the highest digits decide: plain mathematics. integer.carried, and the mathematics of apply. integer.apply. -/
import Derived.Test.YteaoaoknpihchaaGreatM11
import Derived.Test.YteaoaoknpihchaaGreatM5
import Derived.Test.YteaoaoknpihchaaGreatM6
import Derived.Lib.AppendIntMem
import Derived.Lib.ItoaLen
import Derived.OwnWalk
import Derived.BigCall
import Derived.Test.YteaoaoknpihchaaGreatM7
import Derived.Test.YteaoaoknpihchaaGreatM1
import Derived.Test.YteaoaoknpihchaaGreatM9
import Derived.Test.YteaoaoknpihchaaGreatM4
set_option linter.unusedVariables false
namespace Go.Proofs.YteaoaoknpihchaaGreat
open Go.RowKit

theorem zvs_append (a b : List Int) : zvs (a ++ b) = zvs a ++ zvs b := by simp [zvs]
theorem append_one (g : Nat) (s : Int) (p : Option Addr) (n c : Nat) (D : List Int) (W : World) (hB : Blk W g [s]) (hR : Rdi W p D) (hn : n = D.length) (hlim : n ≤ 1099511627776) :
    ∃ pp cc W', (Builtin.append_ #[22, 22] 22 #[.slice (some ⟨g, 0, none⟩) 1 1, .slice p n c]).run Tryz.prog W = .ok (.slice pp (n + 1) cc) W' ∧ Rdi W' pp (s :: D) ∧ n + 1 ≤ cc ∧ cc ≤ 9223372036854775807 ∧ Below W.heap.size W W' := by
  obtain ⟨i0, hi, hz0, hz1, hz2⟩ := info_parts info_i64
  by_cases h0 : D = []
  · subst h0
    obtain rfl : n = 0 := hn
    cases p with
    | none =>
      refine ⟨some ⟨g, 0, none⟩, 1, W, ?_, hB.rdi, Nat.le_refl _, by omega, Below.refl _ _⟩
      simp [Builtin.append_, run_underlying Tryz.underlying22, sizeOf, typeInfo, hi, Builtin.lenOf, Builtin.firstCells, loadCells, storeCells]
    | some a =>
      have hr := run_append_room (P := Tryz.prog) W 22 22 3 i0 Tryz.underlying22 hi g 1 1 (zvs [s]).toArray hB a 0 c [] (by simp) (by simp) (by simp) (by omega) (by simp [hz1, zvs])
      refine ⟨some ⟨g, 0, none⟩, 1, _, hr, ?_, Nat.le_refl _, by omega, ?_⟩
      · have : W.setRow g ((zvs [s]).toArray.toList.take (1 * i0.size) ++ [] ++ (zvs [s]).toArray.toList.drop (1 * i0.size + 0)).toArray = W := by
          have h := setRow_self W g (zvs [s]).toArray 3 (0, 0) hB
          simpa [zvs, hz1] using h
        rw [show ([] : List Value).length = 0 from rfl, this]
        exact hB.rdi
      · have : W.setRow g ((zvs [s]).toArray.toList.take (1 * i0.size) ++ [] ++ (zvs [s]).toArray.toList.drop (1 * i0.size + 0)).toArray = W := by
          have h := setRow_self W g (zvs [s]).toArray 3 (0, 0) hB
          simpa [zvs, hz1] using h
        rw [show ([] : List Value).length = 0 from rfl, this]
        exact Below.refl _ _
  · rcases hR with h | ⟨b, off, rfl, hc⟩
    · exact absurd h h0
    · have hpos : 0 < n := by
        rcases Nat.eq_zero_or_pos n with h | h
        · rw [h] at hn; exact absurd (List.eq_nil_of_length_eq_zero hn.symm) h0
        · exact h
      have hown : ∀ j u, (zvs [s])[j]? = some u → W.cell? ((⟨g, 0, none⟩ : Addr).add j) = some u := Rdi_news (fun i hi => by
        obtain rfl : i = 0 := by simpa using hi
        exact hB.cell (by simp))
      have hr := run_append_grow (P := Tryz.prog) W 22 22 3 i0 (.int .i64 0) Tryz.underlying22 hi hz0 ⟨g, 0, none⟩ 1 1 (zvs [s]) (by simp [zvs, hz1]) hown ⟨b, off, none⟩ n c (zvs D) (by rw [zvs_length, hz1, hn]; omega) (Rdi_news hc) (by omega) (by omega) (growslice_fits (by omega) (by rw [hz2]; omega))
      have hge := grownCap_ge W (1 + n) 1 3
      have hcm : grownCap W (1 + n) 1 3 ≤ maxLen := grownCap_le_maxLen W (1 + n) 1 3 (by unfold maxLen; omega)
      unfold maxLen at hcm
      rw [show 1 + n = n + 1 by omega] at hr hge hcm
      refine ⟨_, _, _, hr, ?_, hge, hcm, ?_⟩
      · refine .inr ⟨W.heap.size, 0, rfl, fun j hj => ?_⟩
        have hn1 := heap_alloc_new W.drew (.cells ((zvs [s]).toArray ++ (zvs D).toArray ++ Builtin.zeroCells (Value.int .i64 0).cells (grownCap W (n + 1) 1 3 - (n + 1))) 3)
        have hl : j < (zvs (s :: D)).length := by rw [zvs_length]; exact hj
        have e1 : ((zvs [s]).toArray ++ (zvs D).toArray) = (zvs (s :: D)).toArray := by
          rw [show s :: D = [s] ++ D from rfl, zvs_append]; simp
        rw [e1] at hn1 ⊢
        show (W.drew.alloc _).cell? ⟨W.heap.size, 0 + j, none⟩ = _
        unfold World.cell?
        rw [show (⟨W.heap.size, 0 + j, none⟩ : Addr).block = W.drew.heap.size from rfl, hn1]
        rw [Nat.zero_add]
        show ((zvs (s :: D)).toArray ++ _)[j]? = _
        rw [Array.getElem?_append_left (by simpa using hl)]
        exact zvs_get hj
      · exact (below_drewN (Below.refl _ W) 1).alloc (Nat.le_refl _) _
end Go.Proofs.YteaoaoknpihchaaGreat

namespace Go.Proofs.YteaoaoknpihchaaGreat
open Go.RowKit

/-- the table of the powers of ten -/
def Tb (w : World) : Prop := Lib.TabBelow Tryz.prog w.heap.size w "internal/strconv.uint64pow10" .u64 Lib.pow10Tab
theorem Tb.later {w w' : World} (h : Tb w) (hb : Below w.heap.size w w') : Tb w' := fun w2 h2 => h w2 (below_tr hb h2)
theorem Tb.is {w w' : World} (h : Tb w) (hb : Below w.heap.size w w') : Lib.TabIs Tryz.prog w' "internal/strconv.uint64pow10" .u64 Lib.pow10Tab := h w' hb
theorem Tb.at_ {w w' : World} (h : Tb w) (hb : Below w.heap.size w w') : Lib.TabBelow Tryz.prog w.heap.size w' "internal/strconv.uint64pow10" .u64 Lib.pow10Tab := fun w2 h2 => h w2 (hb.trans h2)

/-- a digit's nine places -/
def plc (d : Int) : List UInt8 := (Lib.itoa (1000000000 + d)).drop 1
/-- the digits below index m, the highest first, of which k are written -/
def txtK (l : List Int) (m k : Nat) : List UInt8 := (List.range k).flatMap fun i => plc (iat l (m - 1 - i))
theorem txtK_succ (l : List Int) (m k : Nat) : txtK l m (k + 1) = txtK l m k ++ plc (iat l (m - 1 - k)) := by
  unfold txtK
  rw [List.range_succ, List.flatMap_append, List.flatMap_singleton]
/-- the text of digits -/
def txtD (neg : Bool) (l : List Int) : List UInt8 := (if neg then [45] else []) ++ Lib.itoa (iat l (l.length - 1)) ++ txtK l (l.length - 1) (l.length - 1)
/-- the text of an integer -/
def txt (x : Int) : List UInt8 := if x = 0 then [48] else txtD (decide (x < 0)) (digs x.natAbs)
theorem itoa_len (n : Int) (h0 : 0 ≤ n) (h1 : n ≤ 9223372036854775807) : 1 ≤ (Lib.itoa n).length ∧ (Lib.itoa n).length ≤ 21 := by
  refine ⟨?_, Lib.itoa_length_le n (by omega) h1⟩
  unfold Lib.itoa
  rw [if_neg (by omega), Lib.decDigits_length]
  exact Lib.nDigits_pos _
theorem plc_len (d : Int) (h0 : 0 ≤ d) (h1 : d < 1000000000) : (plc d).length ≤ 20 := by
  unfold plc
  rw [List.length_drop]
  have := (itoa_len (1000000000 + d) (by omega) (by omega)).2
  omega
theorem txtK_len (l : List Int) (hd : Dg l) (m k : Nat) : (txtK l m k).length ≤ 20 * k := by
  induction k with
  | zero => simp [txtK]
  | succ k ih =>
    rw [txtK_succ, List.length_append]
    have := plc_len (iat l (m - 1 - k)) (hd.all _).1 (hd.all _).2
    omega
/-- a string's rest -/
theorem bs_drop (l : List UInt8) : (bs l).extract 1 (bs l).size = bs (l.drop 1) := by
  apply ByteArray.ext
  simp [bs, ByteArray.size]
  rw [List.take_of_length_le (by simp)]
theorem bs_drop' (l : List UInt8) : (bs l).extract 1 l.length = bs (l.drop 1) := by
  rw [← bs_drop]; simp [bs, ByteArray.size]
theorem bs_size (l : List UInt8) : (bs l).size = l.length := by simp [bs, ByteArray.size]
theorem strCells_bs (l : List UInt8) : Lib.strCells (bs l) = bvs l := by simp [Lib.strCells, bvs, bs]
theorem below_itoa {w w' : World} (h : ∃ k os, w' = Go.Sort.grow (w.drewN k) os) : Below w.heap.size w w' := by
  obtain ⟨k, os, rfl⟩ := h
  refine ⟨rfl, rfl, rfl, ?_, fun i hi => ?_⟩
  · show w.heap.size ≤ (w.heap ++ os).size
    simp
  · show (w.heap ++ os)[i]? = w.heap[i]?
    rw [Array.getElem?_append_left (by exact hi)]

/-- an integer in a box -/
def Bx (w : World) (nx : Bool) (px : Option Addr) (n c : Nat) (W : World) : Prop := W.heap[w.heap.size]? = some (.cells #[.bool nx, .slice px n c] 24 (0, 0)) ∧ Below w.heap.size w W
section
variable {w W w' : World} {nx : Bool} {px : Option Addr} {n c : Nat}
theorem Bx.facts (h : Bx w nx px n c W) : W.cell? ⟨w.heap.size, 0, none⟩ = some (.bool nx) ∧ W.cell? ⟨w.heap.size, 1, none⟩ = some (.slice px n c) := by
  obtain ⟨h1, _⟩ := h
  exact ⟨by simp [World.cell?, h1], by simp [World.cell?, h1]⟩
theorem Bx.later (h : Bx w nx px n c W) (hb : Below W.heap.size W w') : Bx w nx px n c w' := ⟨(hb.block _ (lt_blk h.1)).trans h.1, below_tr h.2 hb⟩
theorem Bx.start (w : World) : Bx w nx px n c (w.alloc (.cells #[.bool nx, .slice px n c] 24)) := ⟨heap_alloc_new _ _, below_new _ _⟩
end
theorem tb_alloc {w : World} (h : Tb w) (o : Obj) : Tb (w.alloc o) := h.later (below_new _ _)
theorem grow_row {w wr w' : World} {v v' : Value} {l r : List UInt8} (h : Grow w v l wr) (ho : w'.ownsRow w.heap.size 5 1 v' (l.length + r.length) (bvs l ++ Lib.byteCells r)) (hb : Below w.heap.size wr w') : Grow w v' (l ++ r) w' :=
  ⟨by rw [List.length_append, bvs_append]; exact ho, h.2.trans hb⟩
/-- what Text answers -/
def TxP (w : World) (x : Int) (e : Ending) (w' : World) : Prop := e = .returned (.string (bs (txt x))) ∧ Below w.heap.size w w'
end Go.Proofs.YteaoaoknpihchaaGreat

namespace Go.Proofs.YteaoaoknpihchaaGreat
open Go.RowKit

theorem Rd_below {w wr : World} {a : Option Addr} {l : List UInt8} (h : Below w.heap.size w wr) (hR : Rd w a l) : Rd wr a l := by
  rcases hR with rfl | ⟨b, off, rfl, hc⟩
  · exact .inl rfl
  · exact .inr ⟨b, off, rfl, fun i hi => Below.cell_of' h (hc i hi)⟩
/-- a code's list -/
def codeL (x : Int) : List Int := cmpI x 0 :: digs x.natAbs
/-- bytes that are returned -/
def BtP (w : World) (l : List UInt8) (e : Ending) (w' : World) : Prop := ∃ p c, e = .returned (.slice p l.length c) ∧ Rd w' p l ∧ l.length ≤ c ∧ c ≤ 9223372036854775807 ∧ Below w.heap.size w w'
theorem cmp0_bd (x : Int) : -1 ≤ cmpI x 0 ∧ cmpI x 0 ≤ 1 := by 
  unfold cmpI; split
  · omega
  · split <;> omega
theorem code_i64 (x : Int) : i64s (codeL x) := fun i hi => by
  cases i with
  | zero => have := cmp0_bd x; show -9223372036854775808 ≤ cmpI x 0 ∧ cmpI x 0 ≤ _; omega
  | succ i => have := (Dg_digs x.natAbs).all i; show -9223372036854775808 ≤ iat (digs x.natAbs) i ∧ iat (digs x.natAbs) i ≤ _; omega
theorem code_len (x : Int) (h : (digs x.natAbs).length ≤ 1000000000000) : (encIs (codeL x)).length ≤ 70368744177664 := by
  unfold encIs
  rw [List.length_append]
  have h1 := enc_le ((codeL x).length : Int)
  have h2 : ((codeL x).flatMap enc).length ≤ 9 * (codeL x).length := by
    generalize codeL x = l
    induction l with
    | nil => simp
    | cons d t ih =>
      rw [List.flatMap_cons, List.length_append, List.length_cons]
      have := enc_le d
      omega
  have h3 : (codeL x).length = (digs x.natAbs).length + 1 := rfl
  omega
/-- what is known of the slots -/
def VEn (B : Nat) (nx : Bool) (px : Option Addr) (n c : Nat) (s : Int) (D : List Int) (E : List UInt8) : Nat → Value → World → Prop
  | 0, v, _ => v = .agg #[.bool nx, .slice px n c]
  | 1, v, _ => v = .int .i64 s
  | 2, v, W => ∃ g, v = .slice (some ⟨g, 0, none⟩) 1 1 ∧ Blk W g [s]
  | 3, v, _ => v = .pointer (some ⟨B, 1, none⟩)
  | 4, v, _ => v = .slice px n c
  | 5, v, W => ∃ p cc, v = .slice p (n + 1) cc ∧ Rdi W p (s :: D)
  | 6, v, W => ∃ p cc, v = .slice p E.length cc ∧ Rd W p E ∧ E.length ≤ cc ∧ cc ≤ 9223372036854775807
  | 7, v, W => ∃ p cc, v = .slice p E.length cc ∧ Rd W p E ∧ E.length ≤ cc ∧ cc ≤ 9223372036854775807
  | _, _, _ => True
theorem VEn.mono {B : Nat} {nx : Bool} {px : Option Addr} {n c : Nat} {s : Int} {D : List Int} {E : List UInt8} : ∀ j u (w w' : World), VEn B nx px n c s D E j u w → Below w.heap.size w w' → VEn B nx px n c s D E j u w' := by
  intro j u w w' h hb
  match j, h with
  | 0, h => exact h
  | 1, h => exact h
  | 2, ⟨g, h1, h2⟩ => exact ⟨g, h1, h2.later hb⟩
  | 3, h => exact h
  | 4, h => exact h
  | 5, ⟨p, cc, h1, h2⟩ => exact ⟨p, cc, h1, Rdi_below hb h2⟩
  | 6, ⟨p, cc, h1, h2, h3⟩ => exact ⟨p, cc, h1, Rd_below hb h2, h3⟩
  | 7, ⟨p, cc, h1, h2, h3⟩ => exact ⟨p, cc, h1, Rd_below hb h2, h3⟩
  | _ + 8, _ => trivial

end Go.Proofs.YteaoaoknpihchaaGreat

namespace Go.Proofs.YteaoaoknpihchaaGreat
open Go.RowKit

end Go.Proofs.YteaoaoknpihchaaGreat

namespace Go.Proofs.YteaoaoknpihchaaGreat
open Go.RowKit

theorem retI_of {w w' : World} {z : Int} {N : Nat} {e : Ending} (h : RV (Vz N z) w e w') : ∃ nb p n c, e = .returned (.agg #[.bool nb, .slice p n c]) ∧ IntAt w' nb p n c z ∧ n ≤ N ∧ Below w.heap.size w w' := by
  obtain ⟨v, rfl, ⟨nb, p, n, c, rfl, hI, hn⟩, hb⟩ := h
  exact ⟨nb, p, n, c, rfl, hI, hn, hb⟩
/-- two integers that are returned -/
def RV2 (V1 V2 : VP) (W : World) (e : Ending) (w' : World) : Prop := ∃ v1 v2, e = .returned (.tuple #[v1, v2]) ∧ V1 v1 w' ∧ V2 v2 w' ∧ Below W.heap.size W w'
theorem Bz_new {W : World} {N : Nat} {z : Int} {nb : Bool} {p : Option Addr} {n c : Nat} (h : IntAt W nb p n c z) (hn : n ≤ N) : Bz N W.heap.size z (W.alloc (.cells #[.bool nb, .slice p n c] 24 (0, 0))) :=
  ⟨nb, p, n, c, heap_alloc_new _ _, h.later (below_new _ _), hn⟩
theorem Bz_new2 {W : World} {N : Nat} {z : Int} {nb : Bool} {p : Option Addr} {n c : Nat} {o : Obj} (h : IntAt W nb p n c z) (hn : n ≤ N) : Bz N (W.heap.size + 1) z ((W.alloc o).alloc (.cells #[.bool nb, .slice p n c] 24 (0, 0))) := by
  have := Bz_new (W := W.alloc o) (h.later (below_new _ o)) hn
  rw [show (W.alloc o).heap.size = W.heap.size + 1 by simp] at this
  exact this
theorem dl_dq (a b : Int) : (digs (dq a b).natAbs).length ≤ (digs a.natAbs).length := by
  apply digs_len_mono
  unfold dq
  split
  · simp
  · exact Int.natAbs_ediv_le_natAbs a b
theorem dl_dr (a b : Int) : (digs (dr a b).natAbs).length ≤ (digs b.natAbs).length := by
  apply digs_len_mono
  unfold dr
  split
  · simp
  · have h1 := Int.emod_nonneg a (b := b) (by assumption)
    have h2 := Int.emod_lt a (b := b) (by assumption)
    omega
section
variable {W : World} {Na Nb : Nat} {a b : Int} {v1 v2 : Value}
theorem cDiv (h1 : Vz Na a v1 W) (h2 : Vz Nb b v2 W) (hN1 : Na ≤ 1000000) (hN2 : Nb ≤ 1000000) : Calls Tryz.prog 114 #[v1, v2] W (RV2 (Vz Na (dq a b)) (Vz Nb (dr a b)) W) := by
  obtain ⟨nb, p, n, c, rfl, hI, hn⟩ := h1
  obtain ⟨nb2, p2, n2, c2, rfl, hI2, hn2⟩ := h2
  exact (Div_any _ _ _ _ _ _ _ _ a b W hI hI2 (by omega) (by omega)).mono fun e w' ⟨nb3, p3, n3, c3, nb4, p4, n4, c4, he, h3, h4, hb, _⟩ => by
    refine ⟨_, _, he, ⟨_, _, _, _, rfl, h3, ?_⟩, ⟨_, _, _, _, rfl, h4, ?_⟩, hb⟩
    · have := dl_dq a b; rw [h3.2.1]; have := hI.2.1; omega
    · have := dl_dr a b; rw [h4.2.1]; have := hI2.2.1; omega
end
theorem digs_big : digs 18446744073709551616 = [709551616, 446744073, 18] := by
  rw [digs_pos (by omega), show 18446744073709551616 % 1000000000 = 709551616 by rfl, show 18446744073709551616 / 1000000000 = 18446744073 by rfl, digs_pos (by omega), show 18446744073 % 1000000000 = 446744073 by rfl, show 18446744073 / 1000000000 = 18 by rfl, digs_pos (by omega), show 18 % 1000000000 = 18 by rfl, show 18 / 1000000000 = 0 by rfl, digs_zero]; rfl
theorem txt_big : txt 18446744073709551616 = [49, 56, 52, 52, 54, 55, 52, 52, 48, 55, 51, 55, 48, 57, 53, 53, 49, 54, 49, 54] := by
  unfold txt
  rw [if_neg (by omega), show (18446744073709551616 : Int).natAbs = 18446744073709551616 by rfl, digs_big]
  decide +kernel
theorem Vz_build {W : World} {g : Nat} (h : Blk W g [709551616, 446744073, 18]) : Vz 3 18446744073709551616 (.agg #[.bool false, .slice (some ⟨g, 0, none⟩) 3 3]) W :=
  ⟨_, _, _, _, rfl, ⟨rfl, by rw [show (18446744073709551616 : Int).natAbs = 18446744073709551616 by rfl, digs_big]; rfl, by rw [show (18446744073709551616 : Int).natAbs = 18446744073709551616 by rfl, digs_big]; exact h.rdi, by omega, by omega⟩, by omega⟩
def Vblk (l : List Int) : VP := fun v W => ∃ g, v = .slice (some ⟨g, 0, none⟩) l.length l.length ∧ Blk W g l
theorem Vblk_mono (l : List Int) : Mono (Vblk l) := fun _ _ _ ⟨g, h1, h2⟩ hb => ⟨g, h1, h2.later hb⟩
theorem run_eqs {ρ : Operand → Value} {o : Oper} {W : World} {x y : Operand} {a b : ByteArray} (ho : o.op = .binOp .eql 9 x y 9) (hx : ρ x = .string a) (hy : ρ y = .string b) : (execOp ρ o).run Tryz.prog W = .ok (.value (.bool (a.toList == b.toList))) W := by
  obtain ⟨d, op, ty, ps, af, gd⟩ := o
  subst ho
  go_simp
theorem codeL5 : codeL (-5) = [-1, 5] := by
  unfold codeL
  rw [show (-5 : Int).natAbs = 5 by rfl, digs_pos (by omega), show 5 % 1000000000 = 5 by rfl, show 5 / 1000000000 = 0 by rfl, digs_zero, cmp_lt (by omega)]
  rfl
theorem enc_len15 : (encIs [-1, 5]).length ≤ 70368744177664 := by
  unfold encIs
  rw [List.length_append]
  have h1 := enc_le (([-1, 5] : List Int).length : Int)
  have h2 := enc_le (-1)
  have h3 := enc_le 5
  simp only [List.flatMap_cons, List.flatMap_nil, List.length_append, List.length_nil]
  omega
end Go.Proofs.YteaoaoknpihchaaGreat

namespace Go.Proofs.YteaoaoknpihchaaGreat
/-- what several steps of Euclid's algorithm on the highest digits make of two numbers -/
structure Lh (P X Y a0 b0 xl yl s U0 U1 L0 L1 a b : Int) (found : Bool) : Prop where
  P0 : 0 < P
  hX : X = a0 * P + xl
  hY : Y = b0 * P + yl
  xl0 : 0 ≤ xl
  xl1 : xl ≤ P
  yl0 : 0 ≤ yl
  yl1 : yl ≤ P
  s1 : s = 1 ∨ s = -1
  U00 : 0 ≤ U0
  U10 : 0 ≤ U1
  L00 : 0 ≤ L0
  L10 : 0 ≤ L1
  ea : a = s * U0 * a0 - s * U1 * b0
  eb : b = s * L1 * b0 - s * L0 * a0
  key : a * L1 + b * U1 = a0
  bl0 : 0 ≤ b - s * L0
  bl1 : 0 ≤ b + s * L1
  au0 : 0 ≤ a + s * U0
  au1 : 0 ≤ a - s * U1
  L01 : L0 ≤ L1
  L1p : 1 ≤ L1
  U01 : (U0 ≤ U1 ∧ 1 ≤ U1 ∧ found = true) ∨ (U0 = 1 ∧ U1 = 0 ∧ L0 = 0 ∧ L1 = 1 ∧ s = 1 ∧ b ≤ a)
  L1b : L1 < 1000000000
  U0b : U0 < 1000000000
  U1b : U1 < 1000000000
  ord : s * L1 * Y - s * L0 * X ≤ s * U0 * X - s * U1 * Y
  top : s * U0 * X - s * U1 * Y ≤ X
  gcd : Int.gcd (s * U0 * X - s * U1 * Y) (s * L1 * Y - s * L0 * X) = Int.gcd X Y
  dec : found = true → (s * U0 * X - s * U1 * Y) + (s * L1 * Y - s * L0 * X) < X + Y
  sum : (s * U0 * X - s * U1 * Y) + (s * L1 * Y - s * L0 * X) ≤ X + Y

theorem Lh.init {P X Y a0 b0 xl yl : Int} (P0 : 0 < P) (hX : X = a0 * P + xl) (hY : Y = b0 * P + yl) (xl0 : 0 ≤ xl) (xl1 : xl ≤ P) (yl0 : 0 ≤ yl) (yl1 : yl ≤ P) (ha : 0 ≤ a0) (hb : 0 ≤ b0) (hab : b0 ≤ a0) (hXY : Y ≤ X) : Lh P X Y a0 b0 xl yl 1 1 0 0 1 a0 b0 false where
  P0 := P0
  hX := hX
  hY := hY
  xl0 := xl0
  xl1 := xl1
  yl0 := yl0
  yl1 := yl1
  s1 := .inl rfl
  U00 := by omega
  U10 := by omega
  L00 := by omega
  L10 := by omega
  ea := by omega
  eb := by omega
  key := by omega
  bl0 := by omega
  bl1 := by omega
  au0 := by omega
  au1 := by omega
  L01 := by omega
  L1p := by omega
  U01 := .inr ⟨rfl, rfl, rfl, rfl, rfl, hab⟩
  L1b := by omega
  U0b := by omega
  U1b := by omega
  ord := by omega
  top := by omega
  gcd := by simp
  dec := by intro h; cases h
  sum := by omega

variable {P X Y a0 b0 xl yl s U0 U1 L0 L1 a b : Int} {found : Bool}
theorem Lh.X' (h : Lh P X Y a0 b0 xl yl s U0 U1 L0 L1 a b found) : s * U0 * X - s * U1 * Y = a * P + s * U0 * xl - s * U1 * yl := by
  rw [h.ea, h.hX, h.hY]; grind
theorem Lh.Y' (h : Lh P X Y a0 b0 xl yl s U0 U1 L0 L1 a b found) : s * L1 * Y - s * L0 * X = b * P + s * L1 * yl - s * L0 * xl := by
  rw [h.eb, h.hX, h.hY]; grind
/-- a sum of which the parts are known by their signs -/
theorem mix_lo {c P p q x y m : Int} (hx0 : 0 ≤ x) (hx1 : x ≤ P) (hy0 : 0 ≤ y) (hp : 0 ≤ p) (hq : 0 ≤ q) (h : m ≤ c - p) : m * P ≤ c * P - p * x + q * y := by
  have h1 : p * x ≤ p * P := Int.mul_le_mul_of_nonneg_left hx1 hp
  have h2 : 0 ≤ q * y := Int.mul_nonneg hq hy0
  have h3 : m * P ≤ (c - p) * P := Int.mul_le_mul_of_nonneg_right h (by omega)
  have h4 : (c - p) * P = c * P - p * P := by grind
  omega
theorem Lh.lowNonneg (h : Lh P X Y a0 b0 xl yl s U0 U1 L0 L1 a b found) : 0 ≤ s * L1 * Y - s * L0 * X := by
  rw [h.Y']
  rcases h.s1 with hs | hs
  · subst hs
    have := mix_lo (c := b) (P := P) (p := L0) (q := L1) (x := xl) (y := yl) (m := 0) h.xl0 h.xl1 h.yl0 h.L00 h.L10 (by have := h.bl0; omega)
    have e1 : (1 : Int) * L1 * yl = L1 * yl := by grind
    have e2 : (1 : Int) * L0 * xl = L0 * xl := by grind
    omega
  · subst hs
    have := mix_lo (c := b) (P := P) (p := L1) (q := L0) (x := yl) (y := xl) (m := 0) h.yl0 h.yl1 h.xl0 h.L10 h.L00 (by have := h.bl1; omega)
    have e1 : (-1 : Int) * L1 * yl = -(L1 * yl) := by grind
    have e2 : (-1 : Int) * L0 * xl = -(L0 * xl) := by grind
    omega
theorem Lh.bpos (h : Lh P X Y a0 b0 xl yl s U0 U1 L0 L1 a b found) : 0 ≤ b := by
  have := h.bl0; have := h.bl1; have := h.L00; have := h.L10
  rcases h.s1 with hs | hs <;> subst hs <;> omega
theorem Lh.apos (h : Lh P X Y a0 b0 xl yl s U0 U1 L0 L1 a b found) : 0 ≤ a := by
  have := h.au0; have := h.au1; have := h.U00; have := h.U10
  rcases h.s1 with hs | hs <;> subst hs <;> omega
/-- one step -/
theorem Lh.step (h : Lh P X Y a0 b0 xl yl s U0 U1 L0 L1 a b found) (q : Int) (hq0 : 0 ≤ q)
    (h00 : 0 ≤ (a + s * U0) - q * (b - s * L0)) (h01 : (a + s * U0) - q * (b - s * L0) < b - s * L0) (h10 : 0 ≤ (a - s * U1) - q * (b + s * L1)) (h11 : (a - s * U1) - q * (b + s * L1) < b + s * L1) (hb : U1 + q * L1 < 1000000000) :
    Lh P X Y a0 b0 xl yl (-s) L0 L1 (U0 + q * L0) (U1 + q * L1) b (a - q * b) true := by
  have hqL0 : 0 ≤ q * L0 := Int.mul_nonneg hq0 h.L00
  have hqL1 : 0 ≤ q * L1 := Int.mul_nonneg hq0 h.L10
  have hq01 : q * L0 ≤ q * L1 := Int.mul_le_mul_of_nonneg_left h.L01 hq0
  have hbp := h.bpos
  have hY0 := h.lowNonneg
  have hX' := h.X'
  have hY' := h.Y'
  have q1 : U0 + q * L0 ≤ U1 + q * L1 := by
    rcases h.U01 with h1 | ⟨rfl, rfl, rfl, rfl, rfl, hba⟩
    · omega
    · have : q ≠ 0 := by
        rintro rfl
        omega
      omega
  have hU1' : 1 ≤ U1 + q * L1 := by
    rcases h.U01 with h1 | ⟨rfl, rfl, rfl, rfl, rfl, hba⟩
    · omega
    · have : q ≠ 0 := by
        rintro rfl
        omega
      omega
  have hs2 : -s = 1 ∨ -s = -1 := by rcases h.s1 with hs | hs <;> subst hs <;> simp
  have hU00 := h.U00
  have hU10 := h.U10
  have hL1b := h.L1b
  -- the numbers of the new row
  have eX : -s * L0 * X - -s * L1 * Y = s * L1 * Y - s * L0 * X := by grind
  have eY : -s * (U1 + q * L1) * Y - -s * (U0 + q * L0) * X = (s * U0 * X - s * U1 * Y) - q * (s * L1 * Y - s * L0 * X) := by grind
  have hY2 : (s * U0 * X - s * U1 * Y) - q * (s * L1 * Y - s * L0 * X) = (a - q * b) * P + s * (U0 + q * L0) * xl - s * (U1 + q * L1) * yl := by rw [hX', hY']; grind
  have hlt : (s * U0 * X - s * U1 * Y) - q * (s * L1 * Y - s * L0 * X) < s * L1 * Y - s * L0 * X := by
    rw [hY2, hY']
    have hP := h.P0
    have e : (b * P + s * L1 * yl - s * L0 * xl) - ((a - q * b) * P + s * (U0 + q * L0) * xl - s * (U1 + q * L1) * yl) = (b - (a - q * b)) * P - s * (L0 + (U0 + q * L0)) * xl + s * (L1 + (U1 + q * L1)) * yl := by grind
    have hge : 1 * P ≤ (b - (a - q * b)) * P - s * (L0 + (U0 + q * L0)) * xl + s * (L1 + (U1 + q * L1)) * yl := by
      rcases h.s1 with hs | hs
      · subst hs
        have := mix_lo (c := b - (a - q * b)) (P := P) (p := L0 + (U0 + q * L0)) (q := L1 + (U1 + q * L1)) (x := xl) (y := yl) (m := 1) h.xl0 h.xl1 h.yl0 (by have := h.L00; omega) (by have := h.L10; omega) (by
          have e1 : q * (b - 1 * L0) = q * b - q * L0 := by grind
          omega)
        simp only [Int.one_mul] at this ⊢
        exact this
      · subst hs
        have := mix_lo (c := b - (a - q * b)) (P := P) (p := L1 + (U1 + q * L1)) (q := L0 + (U0 + q * L0)) (x := yl) (y := xl) (m := 1) h.yl0 h.yl1 h.xl0 (by have := h.L10; omega) (by have := h.L00; omega) (by
          have e1 : q * (b + -1 * L1) = q * b - q * L1 := by grind
          omega)
        have e2 : (b - (a - q * b)) * P - -1 * (L0 + (U0 + q * L0)) * xl + -1 * (L1 + (U1 + q * L1)) * yl = (b - (a - q * b)) * P - (L1 + (U1 + q * L1)) * yl + (L0 + (U0 + q * L0)) * xl := by grind
        rw [e2]
        exact this
    omega
  have hY'pos : 0 < s * L1 * Y - s * L0 * X := by
    -- the rest is not negative
    rcases Int.lt_or_le 0 (s * L1 * Y - s * L0 * X) with h1 | h1
    · exact h1
    · exfalso
      have h2 : s * L1 * Y - s * L0 * X = 0 := by omega
      rw [h2] at hlt
      have h3 := h.ord
      rw [h2] at h3
      omega
  have hqY : 0 ≤ q * (s * L1 * Y - s * L0 * X) := Int.mul_nonneg hq0 (by omega)
  exact {
    P0 := h.P0
    hX := h.hX
    hY := h.hY
    xl0 := h.xl0
    xl1 := h.xl1
    yl0 := h.yl0
    yl1 := h.yl1
    s1 := hs2
    U00 := h.L00
    U10 := h.L10
    L00 := by omega
    L10 := by omega
    ea := by rw [h.eb]; grind
    eb := by rw [h.ea, h.eb]; grind
    key := by rw [← h.key]; grind
    bl0 := by
      have e1 : (a + s * U0) - q * (b - s * L0) = a - q * b - -s * (U0 + q * L0) := by grind
      omega
    bl1 := by
      have e1 : (a - s * U1) - q * (b + s * L1) = a - q * b + -s * (U1 + q * L1) := by grind
      omega
    au0 := by have := h.bl0; have e : -s * L0 = -(s * L0) := by grind
              omega
    au1 := by have := h.bl1; have e : -s * L1 = -(s * L1) := by grind
              omega
    L01 := q1
    L1p := hU1'
    U01 := .inl ⟨h.L01, h.L1p, rfl⟩
    L1b := hb
    U0b := by have := h.L01; omega
    U1b := hL1b
    ord := by rw [eX, eY]; omega
    top := by rw [eX]; have := h.ord; have := h.top; omega
    gcd := by
      rw [eX, eY, ← h.gcd]
      generalize s * U0 * X - s * U1 * Y = x
      generalize s * L1 * Y - s * L0 * X = y
      rw [Int.gcd_comm y, Int.gcd_comm x y]
      have : x - q * y = x + y * -q := by grind
      rw [this, Int.gcd_add_mul_left_left, Int.gcd_comm]
    dec := by
      intro _
      rw [eX, eY]
      have h1 := h.sum
      by_cases e : q = 0
      · -- then a row has been made before
        subst e
        rcases h.U01 with h2 | ⟨rfl, rfl, rfl, rfl, rfl, hba⟩
        · have h3 := h.dec h2.2.2
          omega
        · exfalso; omega
      · have : 1 * (s * L1 * Y - s * L0 * X) ≤ q * (s * L1 * Y - s * L0 * X) := Int.mul_le_mul_of_nonneg_right (by omega) (by omega)
        omega
    sum := by
      rw [eX, eY]
      have h1 := h.sum
      omega }
end Go.Proofs.YteaoaoknpihchaaGreat

namespace Go.Proofs.YteaoaoknpihchaaGreat
open Go.RowKit

set_option maxRecDepth 100000 in
set_option maxHeartbeats 400000 in
theorem carried_any (t : Int) (h0 : -2000000000000000000 ≤ t) (h1 : t ≤ 2000000000000000000) (w : World) :
    Calls Tryz.prog 133 #[.int .i64 t] w fun e w' => e = .returned (.tuple #[.int .i64 (t / 1000000000), .int .i64 (t % 1000000000)]) ∧ w = w' := by
  obtain ⟨u, hu⟩ : ∃ u, 2000000000000000000 + t = u := ⟨_, rfl⟩
  have e1 : t / 1000000000 = u / 1000000000 - 2000000000 := by omega
  have e2 : t % 1000000000 = u % 1000000000 := by omega
  have u0 : 0 ≤ u := by omega
  have u1 : u ≤ 4000000000000000000 := by omega
  have w1 : IntKind.i64.wrap (2000000000000000000 + t) = u := by rw [IntWalk.i64_in _ (by omega)]; exact hu
  have q0 : 0 ≤ u / 1000000000 := by omega
  have q1 : u / 1000000000 ≤ 4000000000 := by omega
  have q2 : 0 ≤ u % 1000000000 := by omega
  have q3 : u % 1000000000 < 1000000000 := by omega
  rw [e1, e2]
  clear e1 e2 h0 h1 hu
  go_enter Tryz.func133, Tryz.ntmps133
  go_wp2_with fail
  go_ret2
  exact ⟨rfl, rfl⟩

/-- a row is put together, digit by digit, in the place of B -/
structure ApA (B X Y : List Int) (r0 r1 : Int) (k : Nat) (over : Int) (z : List Int) : Prop where
  len : z.length = B.length
  dg : Dg (z.take k)
  rest : ∀ j, k ≤ j → iat z j = iat B j
  sum : val (z.take k) + pw k * over = r0 * val (X.take k) + r1 * val (Y.take k)
  lo : -2000000000 ≤ over
  hi : over ≤ 2000000000
theorem ApA.start (B X Y : List Int) (r0 r1 : Int) : ApA B X Y r0 r1 0 0 B :=
  ⟨rfl, by rw [List.take_zero]; exact Dg_nil, fun _ _ => rfl, by simp [val], by omega, by omega⟩
theorem ap_digit {a b r0 r1 : Int} (ha0 : 0 ≤ a) (ha1 : a < 1000000000) (hb0 : 0 ≤ b) (hb1 : b < 1000000000) (h00 : -1000000000 < r0) (h01 : r0 < 1000000000) (h10 : -1000000000 < r1) (h11 : r1 < 1000000000) :
    -999999998000000001 ≤ a * r0 ∧ a * r0 ≤ 999999998000000001 ∧ -999999998000000001 ≤ b * r1 ∧ b * r1 ≤ 999999998000000001 := by
  have e1 : a * r0 ≤ a * 999999999 := Int.mul_le_mul_of_nonneg_left (by omega) ha0
  have e2 : a * (-999999999) ≤ a * r0 := Int.mul_le_mul_of_nonneg_left (by omega) ha0
  have e3 : b * r1 ≤ b * 999999999 := Int.mul_le_mul_of_nonneg_left (by omega) hb0
  have e4 : b * (-999999999) ≤ b * r1 := Int.mul_le_mul_of_nonneg_left (by omega) hb0
  omega
theorem ApA.next {B X Y z : List Int} {r0 r1 over : Int} {k : Nat} (h : ApA B X Y r0 r1 k over z) (hx : Dg X) (hy : Dg Y) (hk : k < B.length) (hkx : k < X.length) (hky : k < Y.length) (h00 : -1000000000 < r0) (h01 : r0 < 1000000000) (h10 : -1000000000 < r1) (h11 : r1 < 1000000000) :
    ApA B X Y r0 r1 (k + 1) ((iat X k * r0 + iat Y k * r1 + over) / 1000000000) (z.set k ((iat X k * r0 + iat Y k * r1 + over) % 1000000000)) := by
  have hz : k < z.length := by rw [h.len]; omega
  have b1 := hx.all k
  have b2 := hy.all k
  have hb := ap_digit b1.1 b1.2 b2.1 b2.2 h00 h01 h10 h11
  have hl := h.lo
  have hh := h.hi
  have hs := h.sum
  have vx := val_take X k hkx
  have vy := val_take Y k hky
  obtain ⟨t, ht⟩ : ∃ t, iat X k * r0 + iat Y k * r1 + over = t := ⟨_, rfl⟩
  rw [ht]
  refine ⟨by rw [List.length_set]; exact h.len, ?_, fun j hj => ?_, ?_, by omega, by omega⟩
  · rw [take_set1 _ _ _ hz]
    exact Dg_append h.dg (Dg_cons (by omega) (by omega) Dg_nil)
  · rw [iat_set _ _ _ _ hz, if_neg (by omega)]
    exact h.rest j (by omega)
  · rw [take_set1 _ _ _ hz, val_snoc, List.length_take, Nat.min_eq_left (by omega), vx, vy]
    have e : pw (k + 1) * (t / 1000000000) + pw k * (t % 1000000000) = pw k * t := by
      show 1000000000 * pw k * (t / 1000000000) + pw k * (t % 1000000000) = pw k * t
      have : t = 1000000000 * (t / 1000000000) + t % 1000000000 := by omega
      generalize t / 1000000000 = q at *
      generalize t % 1000000000 = r at *
      rw [this]; grind
    have e2 : pw k * t = pw k * (iat X k * r0 + iat Y k * r1) + pw k * over := by rw [← ht]; grind
    have e3 : r0 * (val (X.take k) + pw k * iat X k) + r1 * (val (Y.take k) + pw k * iat Y k) = (r0 * val (X.take k) + r1 * val (Y.take k)) + pw k * (iat X k * r0 + iat Y k * r1) := by grind
    rw [e3, ← hs]
    generalize pw (k + 1) * (t / 1000000000) = u1 at *
    generalize pw k * (t % 1000000000) = u2 at *
    omega
/-- at the end nothing is carried, if the result has no more digits -/
theorem ApA.done {B X Y z : List Int} {r0 r1 over : Int} {n : Nat} (h : ApA B X Y r0 r1 n over z) (hn : n ≤ B.length) (h0 : 0 ≤ r0 * val (X.take n) + r1 * val (Y.take n)) (h1 : r0 * val (X.take n) + r1 * val (Y.take n) < pw n) : val (z.take n) = r0 * val (X.take n) + r1 * val (Y.take n) := by
  have hs := h.sum
  have hlo := h.dg.lo
  have hhi := h.dg.hi
  rw [List.length_take, h.len, Nat.min_eq_left hn] at hhi
  have hp := pw_pos n
  generalize r0 * val (X.take n) + r1 * val (Y.take n) = R at *
  have ho : over = 0 := by
    rcases Int.lt_trichotomy over 0 with h2 | h2 | h2
    · have : pw n * over ≤ pw n * (-1) := Int.mul_le_mul_of_nonneg_left (by omega) (by omega)
      omega
    · exact h2
    · have : pw n * 1 ≤ pw n * over := Int.mul_le_mul_of_nonneg_left (by omega) (by omega)
      omega
  subst ho
  omega
end Go.Proofs.YteaoaoknpihchaaGreat

namespace Go.Proofs.YteaoaoknpihchaaGreat
open Go.RowKit

/-- of what there was, blocks g and h alone are changed -/
structure Only2 (g h : Nat) (w w' : World) : Prop where
  os : w'.os = w.os
  tape : w'.tape = w.tape
  output : w'.output = w.output
  size : w.heap.size ≤ w'.heap.size
  block : ∀ k, k < w.heap.size → k ≠ g → k ≠ h → w'.heap[k]? = w.heap[k]?
section
variable {g h : Nat} {w w' w2 : World}
theorem Only2.setL (ho : Only2 g h w w') (i : Nat) (v : Value) : Only2 g h w (w'.setCell ⟨g, i, none⟩ v) :=
  ⟨ho.os, ho.tape, ho.output, Nat.le_trans ho.size (Below.setCell (Below.refl 0 w') (Nat.zero_le _) v (p := ⟨g, i, none⟩)).size, fun k hk hg hh => (Below.heap_setCell _ _ _ _ hg).trans (ho.block k hk hg hh)⟩
theorem Only2.setR (ho : Only2 g h w w') (i : Nat) (v : Value) : Only2 g h w (w'.setCell ⟨h, i, none⟩ v) :=
  ⟨ho.os, ho.tape, ho.output, Nat.le_trans ho.size (Below.setCell (Below.refl 0 w') (Nat.zero_le _) v (p := ⟨h, i, none⟩)).size, fun k hk hg hh => (Below.heap_setCell _ _ _ _ hh).trans (ho.block k hk hg hh)⟩
theorem Only2.drewN (ho : Only2 g h w w') (q : Nat) : Only2 g h w (w'.drewN q) := ⟨ho.os, ho.tape, ho.output, ho.size, ho.block⟩
theorem Only2.of_below (hb : Below w.heap.size w w') : Only2 g h w w' := ⟨hb.os, hb.tape, hb.output, hb.size, fun k hk _ _ => hb.block k hk⟩
theorem Only2.below {B : Nat} {w0 : World} (ho : Only2 g h w w') (hb : Below B w0 w) (hg : B ≤ g) (hh : B ≤ h) (hs : B ≤ w.heap.size) : Below B w0 w' :=
  ⟨ho.os.trans hb.os, ho.tape.trans hb.tape, ho.output.trans hb.output, Nat.le_trans hb.size ho.size, fun k hk => (ho.block k (by omega) (by omega) (by omega)).trans (hb.block k hk)⟩
end
/-- what apply keeps -/
def ApI (w : World) (gx gy : Nat) (X Y : List Int) (r00 r01 r10 r11 : Int) (k : Nat) (ov un : Int) (wr : World) : Prop :=
  ∃ zx zy, ApA X X Y r00 r01 k ov zx ∧ ApA Y X Y r10 r11 k un zy ∧ Blk wr gx zx ∧ Blk wr gy zy ∧ wr.heap[w.heap.size]? = some (.cells #[.int .i64 r00, .int .i64 r01, .int .i64 r10, .int .i64 r11] 107 (0, 0)) ∧ Only2 gx gy w wr
/-- what apply leaves -/
def ApP (w : World) (gx gy : Nat) (X Y : List Int) (r00 r01 r10 r11 : Int) (n : Nat) (e : Ending) (w' : World) : Prop :=
  ∃ ov un zx zy, e = .returned (.tuple #[]) ∧ ApA X X Y r00 r01 n ov zx ∧ ApA Y X Y r10 r11 n un zy ∧ Blk w' gx zx ∧ Blk w' gy zy ∧ Only2 gx gy w w'

set_option maxRecDepth 100000 in
set_option maxHeartbeats 1600000 in
theorem apply_any (gx gy n m cx cy : Nat) (X Y : List Int) (r00 r01 r10 r11 : Int) (w : World) (hX0 : Blk w gx X) (hY0 : Blk w gy Y) (hne : gx ≠ gy) (hnX : n ≤ X.length) (hnY : n ≤ Y.length) (hnm : n ≤ m) (hn : n ≤ 1099511627776) (hdx : Dg X) (hdy : Dg Y)
    (h00 : -1000000000 < r00) (h00' : r00 < 1000000000) (h01 : -1000000000 < r01) (h01' : r01 < 1000000000) (h10 : -1000000000 < r10) (h10' : r10 < 1000000000) (h11 : -1000000000 < r11) (h11' : r11 < 1000000000) :
    Calls Tryz.prog 127 #[.agg #[.int .i64 r00, .int .i64 r01, .int .i64 r10, .int .i64 r11], .slice (some ⟨gx, 0, none⟩) n cx, .slice (some ⟨gy, 0, none⟩) m cy] w (ApP w gx gy X Y r00 r01 r10 r11 n) := by
  have hgx := hX0.lt
  have hgy := hY0.lt
  have hI : Hid (ApI w gx gy X Y r00 r01 r10 r11 0 0 0 (w.alloc (.cells #[.int .i64 r00, .int .i64 r01, .int .i64 r10, .int .i64 r11] 107 (0, 0)))) := Lib.hid ⟨X, Y, ApA.start _ _ _ _ _, ApA.start _ _ _ _ _, hX0.later (below_new _ _), hY0.later (below_new _ _), heap_alloc_new _ _, Only2.of_below (below_new _ _)⟩
  have NX := Lib.hid hnX
  have NY := Lib.hid hnY
  have DX := Lib.hid hdx
  have DY := Lib.hid hdy
  clear hX0 hY0 hnX hnY hdx hdy
  go_enter Tryz.func127, Tryz.ntmps127
  go_upto_region 3 with fail
  go_loopw [6, 7, 13] (fun ov un i wr => ∃ (k : Nat) (over under : Int), k ≤ n ∧ i = .int .i64 (k : Int) ∧ ov = .int .i64 over ∧ un = .int .i64 under ∧ ApI w gx gy X Y r00 r01 r10 r11 k over under wr) (fun _ _ i _ => n - (intOf i).toNat)
  case atStart => exact ⟨0, 0, 0, Nat.zero_le _, rfl, rfl, rfl, hI.out⟩
  case round =>
    obtain ⟨k, over, under, hk, rfl, rfl, rfl, hL⟩ := hrel
    clear hI
    by_cases hlt : k < n
    · obtain ⟨zx, zy, hA, hB, hx, hy, hr, hO⟩ := hL
      have kX : k < X.length := by have := NX.out; omega
      have kY : k < Y.length := by have := NY.out; omega
      have kzx : k < zx.length := by rw [hA.len]; exact kX
      have kzy : k < zy.length := by rw [hB.len]; exact kY
      have cx := hx.cell kzx
      have cy := hy.cell kzy
      rw [hA.rest k (Nat.le_refl _)] at cx
      rw [hB.rest k (Nat.le_refl _)] at cy
      have fx := hx.free k
      have fy := hy.free k
      have c0 : wr.cell? ⟨w.heap.size, 0, none⟩ = some (.int .i64 r00) := by simp [World.cell?, hr]
      have c1 : wr.cell? ⟨w.heap.size, 1, none⟩ = some (.int .i64 r01) := by simp [World.cell?, hr]
      have c2 : wr.cell? ⟨w.heap.size, 2, none⟩ = some (.int .i64 r10) := by simp [World.cell?, hr]
      have c3 : wr.cell? ⟨w.heap.size, 3, none⟩ = some (.int .i64 r11) := by simp [World.cell?, hr]
      have nx : ¬ w.heap.size = gx := by omega
      have ny : ¬ w.heap.size = gy := by omega
      have hst : Hid (ApI w gx gy X Y r00 r01 r10 r11 (k + 1) ((iat X k * r00 + iat Y k * r01 + over) / 1000000000) ((iat X k * r10 + iat Y k * r11 + under) / 1000000000) (((wr.drewN 1).setCell ⟨gx, k, none⟩ (.int .i64 ((iat X k * r00 + iat Y k * r01 + over) % 1000000000))).setCell ⟨gy, k, none⟩ (.int .i64 ((iat X k * r10 + iat Y k * r11 + under) % 1000000000)))) :=
        Lib.hid ⟨_, _, hA.next DX.out DY.out kX kX kY h00 h00' h01 h01', hB.next DX.out DY.out kY kX kY h10 h10' h11 h11', ((hx.drewN 1).set _ _).other hne, ((hy.drewN 1).other (fun e => hne e.symm)).set _ _, by
          rw [heap_setCell_other _ _ _ _ ny, heap_setCell_other _ _ _ _ nx]; exact hr, ((hO.drewN 1).setL _ _).setR _ _⟩
      have bx := DX.out.all k
      have by_ := DY.out.all k
      have hdg := ap_digit bx.1 bx.2 by_.1 by_.2 h00 h00' h01 h01'
      have hdh := ap_digit bx.1 bx.2 by_.1 by_.2 h10 h10' h11 h11'
      have ol := hA.lo
      have oh := hA.hi
      have ul := hB.lo
      have uh := hB.hi
      generalize iat X k = U at *
      generalize iat Y k = V at *
      obtain ⟨bx0, bx1⟩ := bx
      obtain ⟨by0, by1⟩ := by_
      obtain ⟨d0, d1, d2, d3⟩ := hdg
      obtain ⟨d4, d5, d6, d7⟩ := hdh
      have hc1 : Hid (∀ W, Calls Tryz.prog 133 #[.int .i64 (U * r00 + V * r01 + over)] W fun e w' => e = .returned (.tuple #[.int .i64 ((U * r00 + V * r01 + over) / 1000000000), .int .i64 ((U * r00 + V * r01 + over) % 1000000000)]) ∧ W = w') := Lib.hid fun W => carried_any _ (by omega) (by omega) W
      have hc2 : Hid (∀ W, Calls Tryz.prog 133 #[.int .i64 (U * r10 + V * r11 + under)] W fun e w' => e = .returned (.tuple #[.int .i64 ((U * r10 + V * r11 + under) / 1000000000), .int .i64 ((U * r10 + V * r11 + under) % 1000000000)]) ∧ W = w') := Lib.hid fun W => carried_any _ (by omega) (by omega) W
      have k0 : 0 ≤ (k : Int) := by omega
      have k1 : (k : Int) < (n : Int) := by omega
      have k2 : (k : Int) < (m : Int) := by omega
      have hne' : ¬ gy = gx := fun e => hne e.symm
      clear hA hB hx hy hO hr hlt kX kY kzx kzy
      go_wp2_with fail
      go_region
      go_wp2_with (first
        | (go_at_call 133; (with_reducible refine (hc1.out _).mono ?_); rintro e w' ⟨rfl, rfl⟩)
        | (go_at_call 133; (with_reducible refine (hc2.out _).mono ?_); rintro e w' ⟨rfl, rfl⟩))
      exact ⟨⟨k + 1, _, _, by omega, by simp, rfl, rfl, hst.out⟩, by simp [intOf]; omega⟩
    · have hk' : k = n := by omega
      subst hk'
      have hL' := Lib.hid hL
      have k1 : ¬ (k : Int) < (k : Int) := by omega
      clear hL hlt
      go_wp2_with fail
      refine bodyPost_end (results_none rfl _ _ _) rfl ?_
      obtain ⟨zx, zy, hA, hB, hx, hy, hr, hO⟩ := hL'.out
      exact ⟨_, _, zx, zy, rfl, hA, hB, hx, hy, hO⟩
end Go.Proofs.YteaoaoknpihchaaGreat
