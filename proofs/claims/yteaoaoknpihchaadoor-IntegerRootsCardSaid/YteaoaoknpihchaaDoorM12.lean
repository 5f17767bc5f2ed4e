/- Contracts of the package integer and its reference: integer.Text. integer.Encode. integer.Text. lives: more words. -/
import Derived.Test.YteaoaoknpihchaaDoorM11
import Derived.Test.YteaoaoknpihchaaDoorM5
import Derived.Lib.AppendIntMem
import Derived.Lib.ItoaLen
import Derived.OwnWalk
import Derived.BigCall
import Derived.Test.YteaoaoknpihchaaDoorM8
import Derived.Test.YteaoaoknpihchaaDoorM10
import Derived.Test.YteaoaoknpihchaaDoorM7
set_option linter.unusedVariables false
namespace Go.Proofs.YteaoaoknpihchaaDoor
open Go.RowKit

/-- the table of the powers of ten -/
def Tb (w : World) : Prop := Lib.TabBelow Tryd.prog w.heap.size w "internal/strconv.uint64pow10" .u64 Lib.pow10Tab
theorem Tb.later {w w' : World} (h : Tb w) (hb : Below w.heap.size w w') : Tb w' := fun w2 h2 => h w2 (below_tr hb h2)
theorem Tb.is {w w' : World} (h : Tb w) (hb : Below w.heap.size w w') : Lib.TabIs Tryd.prog w' "internal/strconv.uint64pow10" .u64 Lib.pow10Tab := h w' hb
theorem Tb.at_ {w w' : World} (h : Tb w) (hb : Below w.heap.size w w') : Lib.TabBelow Tryd.prog w.heap.size w' "internal/strconv.uint64pow10" .u64 Lib.pow10Tab := fun w2 h2 => h w2 (hb.trans h2)

/-- a digit's nine places -/
def plc (d : Int) : List UInt8 := (Lib.itoa (1000000000 + d)).drop 1
/-- the digits below index m, the highest first, of which k are written -/
def txtK (l : List Int) (m k : Nat) : List UInt8 := (List.range k).flatMap fun i => plc (iat l (m - 1 - i))
theorem txtK_succ (l : List Int) (m k : Nat) : txtK l m (k + 1) = txtK l m k ++ plc (iat l (m - 1 - k)) := by
  unfold txtK
  rw [List.range_succ, List.flatMap_append, List.flatMap_singleton]
/-- the text of digits -/
def txtD (neg : Bool) (l : List Int) : List UInt8 := (if neg then [45] else []) ++ Lib.itoa (iat l (l.length - 1)) ++ txtK l (l.length - 1) (l.length - 1)
/-- the text of an integer -/
def txt (x : Int) : List UInt8 := if x = 0 then [48] else txtD (decide (x < 0)) (digs x.natAbs)
theorem itoa_len (n : Int) (h0 : 0 ≤ n) (h1 : n ≤ 9223372036854775807) : 1 ≤ (Lib.itoa n).length ∧ (Lib.itoa n).length ≤ 21 := by
  refine ⟨?_, Lib.itoa_length_le n (by omega) h1⟩
  unfold Lib.itoa
  rw [if_neg (by omega), Lib.decDigits_length]
  exact Lib.nDigits_pos _
theorem plc_len (d : Int) (h0 : 0 ≤ d) (h1 : d < 1000000000) : (plc d).length ≤ 20 := by
  unfold plc
  rw [List.length_drop]
  have := (itoa_len (1000000000 + d) (by omega) (by omega)).2
  omega
theorem txtK_len (l : List Int) (hd : Dg l) (m k : Nat) : (txtK l m k).length ≤ 20 * k := by
  induction k with
  | zero => simp [txtK]
  | succ k ih =>
    rw [txtK_succ, List.length_append]
    have := plc_len (iat l (m - 1 - k)) (hd.all _).1 (hd.all _).2
    omega
/-- a string's rest -/
theorem bs_drop (l : List UInt8) : (bs l).extract 1 (bs l).size = bs (l.drop 1) := by
  apply ByteArray.ext
  simp [bs, ByteArray.size]
  rw [List.take_of_length_le (by simp)]
theorem bs_drop' (l : List UInt8) : (bs l).extract 1 l.length = bs (l.drop 1) := by
  rw [← bs_drop]; simp [bs, ByteArray.size]
theorem bs_size (l : List UInt8) : (bs l).size = l.length := by simp [bs, ByteArray.size]
theorem strCells_bs (l : List UInt8) : Lib.strCells (bs l) = bvs l := by simp [Lib.strCells, bvs, bs]
theorem below_itoa {w w' : World} (h : ∃ k os, w' = Go.Sort.grow (w.drewN k) os) : Below w.heap.size w w' := by
  obtain ⟨k, os, rfl⟩ := h
  refine ⟨rfl, rfl, rfl, ?_, fun i hi => ?_⟩
  · show w.heap.size ≤ (w.heap ++ os).size
    simp
  · show (w.heap ++ os)[i]? = w.heap[i]?
    rw [Array.getElem?_append_left (by exact hi)]

/-- an integer in a box -/
def Bx (w : World) (nx : Bool) (px : Option Addr) (n c : Nat) (W : World) : Prop := W.heap[w.heap.size]? = some (.cells #[.bool nx, .slice px n c] 24 (0, 0)) ∧ Below w.heap.size w W
section
variable {w W w' : World} {nx : Bool} {px : Option Addr} {n c : Nat}
theorem Bx.facts (h : Bx w nx px n c W) : W.cell? ⟨w.heap.size, 0, none⟩ = some (.bool nx) ∧ W.cell? ⟨w.heap.size, 1, none⟩ = some (.slice px n c) := by
  obtain ⟨h1, _⟩ := h
  exact ⟨by simp [World.cell?, h1], by simp [World.cell?, h1]⟩
theorem Bx.later (h : Bx w nx px n c W) (hb : Below W.heap.size W w') : Bx w nx px n c w' := ⟨(hb.block _ (lt_blk h.1)).trans h.1, below_tr h.2 hb⟩
theorem Bx.start (w : World) : Bx w nx px n c (w.alloc (.cells #[.bool nx, .slice px n c] 24)) := ⟨heap_alloc_new _ _, below_new _ _⟩
end
theorem tb_alloc {w : World} (h : Tb w) (o : Obj) : Tb (w.alloc o) := h.later (below_new _ _)
theorem grow_row {w wr w' : World} {v v' : Value} {l r : List UInt8} (h : Grow w v l wr) (ho : w'.ownsRow w.heap.size 5 1 v' (l.length + r.length) (bvs l ++ Lib.byteCells r)) (hb : Below w.heap.size wr w') : Grow w v' (l ++ r) w' :=
  ⟨by rw [List.length_append, bvs_append]; exact ho, h.2.trans hb⟩
/-- what Text answers -/
def TxP (w : World) (x : Int) (e : Ending) (w' : World) : Prop := e = .returned (.string (bs (txt x))) ∧ Below w.heap.size w w'
end Go.Proofs.YteaoaoknpihchaaDoor

namespace Go.Proofs.YteaoaoknpihchaaDoor
open Go.RowKit

theorem Rd_below {w wr : World} {a : Option Addr} {l : List UInt8} (h : Below w.heap.size w wr) (hR : Rd w a l) : Rd wr a l := by
  rcases hR with rfl | ⟨b, off, rfl, hc⟩
  · exact .inl rfl
  · exact .inr ⟨b, off, rfl, fun i hi => Below.cell_of' h (hc i hi)⟩
/-- a code's list -/
def codeL (x : Int) : List Int := cmpI x 0 :: digs x.natAbs
/-- bytes that are returned -/
def BtP (w : World) (l : List UInt8) (e : Ending) (w' : World) : Prop := ∃ p c, e = .returned (.slice p l.length c) ∧ Rd w' p l ∧ l.length ≤ c ∧ c ≤ 9223372036854775807 ∧ Below w.heap.size w w'
theorem cmp0_bd (x : Int) : -1 ≤ cmpI x 0 ∧ cmpI x 0 ≤ 1 := by 
  unfold cmpI; split
  · omega
  · split <;> omega
theorem code_i64 (x : Int) : i64s (codeL x) := fun i hi => by
  cases i with
  | zero => have := cmp0_bd x; show -9223372036854775808 ≤ cmpI x 0 ∧ cmpI x 0 ≤ _; omega
  | succ i => have := (Dg_digs x.natAbs).all i; show -9223372036854775808 ≤ iat (digs x.natAbs) i ∧ iat (digs x.natAbs) i ≤ _; omega
theorem code_len (x : Int) (h : (digs x.natAbs).length ≤ 1000000000000) : (encIs (codeL x)).length ≤ 70368744177664 := by
  unfold encIs
  rw [List.length_append]
  have h1 := enc_le ((codeL x).length : Int)
  have h2 : ((codeL x).flatMap enc).length ≤ 9 * (codeL x).length := by
    generalize codeL x = l
    induction l with
    | nil => simp
    | cons d t ih =>
      rw [List.flatMap_cons, List.length_append, List.length_cons]
      have := enc_le d
      omega
  have h3 : (codeL x).length = (digs x.natAbs).length + 1 := rfl
  omega
/-- what is known of the slots -/
def VEn (B : Nat) (nx : Bool) (px : Option Addr) (n c : Nat) (s : Int) (D : List Int) (E : List UInt8) : Nat → Value → World → Prop
  | 0, v, _ => v = .agg #[.bool nx, .slice px n c]
  | 1, v, _ => v = .int .i64 s
  | 2, v, W => ∃ g, v = .slice (some ⟨g, 0, none⟩) 1 1 ∧ Blk W g [s]
  | 3, v, _ => v = .pointer (some ⟨B, 1, none⟩)
  | 4, v, _ => v = .slice px n c
  | 5, v, W => ∃ p cc, v = .slice p (n + 1) cc ∧ Rdi W p (s :: D)
  | 6, v, W => ∃ p cc, v = .slice p E.length cc ∧ Rd W p E ∧ E.length ≤ cc ∧ cc ≤ 9223372036854775807
  | 7, v, W => ∃ p cc, v = .slice p E.length cc ∧ Rd W p E ∧ E.length ≤ cc ∧ cc ≤ 9223372036854775807
  | _, _, _ => True
theorem VEn.mono {B : Nat} {nx : Bool} {px : Option Addr} {n c : Nat} {s : Int} {D : List Int} {E : List UInt8} : ∀ j u (w w' : World), VEn B nx px n c s D E j u w → Below w.heap.size w w' → VEn B nx px n c s D E j u w' := by
  intro j u w w' h hb
  match j, h with
  | 0, h => exact h
  | 1, h => exact h
  | 2, ⟨g, h1, h2⟩ => exact ⟨g, h1, h2.later hb⟩
  | 3, h => exact h
  | 4, h => exact h
  | 5, ⟨p, cc, h1, h2⟩ => exact ⟨p, cc, h1, Rdi_below hb h2⟩
  | 6, ⟨p, cc, h1, h2, h3⟩ => exact ⟨p, cc, h1, Rd_below hb h2, h3⟩
  | 7, ⟨p, cc, h1, h2, h3⟩ => exact ⟨p, cc, h1, Rd_below hb h2, h3⟩
  | _ + 8, _ => trivial

set_option maxRecDepth 100000 in
set_option maxHeartbeats 1600000 in
theorem Encode_any (nx : Bool) (px : Option Addr) (n cx : Nat) (x : Int) (w : World) (hx0 : IntAt w nx px n cx x) (hlx : n ≤ 549755813887) :
    Calls Tryd.prog 47 #[.agg #[.bool nx, .slice px n cx]] w (BtP w (encIs (codeL x))) := by
  have hS0 := Lib.hid (@Bx.start nx px n cx w)
  have hx := Lib.hid hx0
  have hcl : Hid ((encIs (codeL x)).length ≤ 70368744177664) := Lib.hid (code_len x (by rw [← hx0.2.1]; omega))
  clear hx0
  go_enter Tryd.func47, Tryd.ntmps47
  go_upto_region 1 with fail
  generalize w.alloc (.cells #[.bool nx, .slice px n cx] 24) = W1 at hS0 ⊢
  have hS1 := hS0.out
  refine region_flows (V := VEn w.heap.size nx px n cx (cmpI x 0) (digs x.natAbs) (encIs (codeL x))) (S := fun W => Bx w nx px n cx W) (R := fun a b => Below a.heap.size a b) (by kernel_rfl) (by kernel_rfl) (by kernel_rfl) (by rfl) VEn.mono (hS1.later ((Below.refl _ _).drew)) ⟨?s0, ?s1, ?s2, ?s3, ?s4, ?s5, ?s6, ?s7, trivial⟩ [3, 4, 5, 6, 7, 8, 9, 2] rfl ?hdone
  case s0 =>
    refine flow_wp fun listed a W h hd => ⟨trivial, fun K hK => ?_⟩
    exact wp_load_row 24 (.tmp 1) rfl w.heap.size (h.out 1 (by kernel_rfl)) 24 #[.bool nx, .slice px n cx] (0, 0) _ h.s.1 Tryd.underlying24 rfl size_Int (hK _ _ h.s (Below.refl _ _) rfl)
  case s1 =>
    refine flow_call (fun _ _ => rfl) fun listed a W h hd => ⟨trivial, ?_⟩
    obtain ⟨v, hv, -, hV⟩ := h.dep hd 0 3 (by kernel_rfl) (by kernel_rfl)
    refine ⟨#[.agg #[.bool nx, .slice px n cx]], by simp [hv, show v = _ from hV], ?_⟩
    exact (Sign_any nx px n cx x W (hx.out.later h.s.2) hlx).mono fun e w' ⟨he, hb⟩ => ⟨_, he, h.s.later hb, hb, rfl⟩
  case s2 =>
    refine flow_run fun listed a W h hd => ⟨trivial, ?_⟩
    obtain ⟨v, hv, -, hV⟩ := h.dep hd 1 4 (by kernel_rfl) (by kernel_rfl)
    obtain rfl : v = .int .i64 (cmpI x 0) := hV
    refine ⟨_, _, ?_, h.s.later (below_new W (.cells #[.int .i64 (cmpI x 0)] 3)), below_new W (.cells #[.int .i64 (cmpI x 0)] 3), ⟨_, rfl, Blk_new W [cmpI x 0]⟩⟩
    clear h hd
    generalize a.eval = ρ at hv ⊢
    go_simp
  case s3 =>
    refine flow_run fun listed a W h hd => ⟨trivial, ?_⟩
    have hv := h.out 1 (by kernel_rfl)
    refine ⟨_, _, ?_, h.s, Below.refl _ _, rfl⟩
    clear h hd
    generalize a.eval = ρ at hv ⊢
    go_simp
  case s4 =>
    refine flow_run fun listed a W h hd => ⟨trivial, ?_⟩
    obtain ⟨v, hv, -, hV⟩ := h.dep hd 3 6 (by kernel_rfl) (by kernel_rfl)
    obtain rfl : v = .pointer (some ⟨w.heap.size, 1, none⟩) := hV
    have hc := h.s.facts.2
    refine ⟨_, _, ?_, h.s, Below.refl _ _, rfl⟩
    clear h hd
    generalize a.eval = ρ at hv ⊢
    go_simp
  case s5 =>
    refine flow_run fun listed a W h hd => ⟨trivial, ?_⟩
    obtain ⟨v, hv, -, hV⟩ := h.dep hd 2 5 (by kernel_rfl) (by kernel_rfl)
    obtain ⟨u, hu, -, hU⟩ := h.dep hd 4 7 (by kernel_rfl) (by kernel_rfl)
    obtain ⟨g, rfl, hB⟩ := hV
    obtain rfl : u = .slice px n cx := hU
    obtain ⟨pp, cc, W', hr, hR, h1, h2, hb⟩ := append_one g (cmpI x 0) px n cx (digs x.natAbs) W hB (Rdi_below h.s.2 hx.out.2.2.1) hx.out.2.1 (by omega)
    refine ⟨_, _, ?_, h.s.later hb, hb, ⟨pp, cc, rfl, hR⟩⟩
    have e : execOp a.eval { dst := some 8, op := Op.call { callee := Callee.builtin Builtin.append, args := #[Operand.tmp 5, Operand.tmp 7], argTypes := #[22, 22] }, type := 22, pos := "text.go:62", after := #[{ on := 2, ground := Ground.data }, { on := 4, ground := Ground.data }, { on := 1, ground := Ground.chain }], guard := none } = (do let r ← Builtin.append_ #[22, 22] 22 #[a.eval (.tmp 5), a.eval (.tmp 7)]; pure (Next.value r)) := by
      simp [execOp, resolve, invoke, builtin]
    rw [e, hv, hu]
    simp [hr, Result.andThen]
  case s6 =>
    refine flow_call (fun _ _ => rfl) fun listed a W h hd => ⟨trivial, ?_⟩
    obtain ⟨v, hv, -, hV⟩ := h.dep hd 5 8 (by kernel_rfl) (by kernel_rfl)
    obtain ⟨p, cc, rfl, hR⟩ := hV
    refine ⟨#[.slice p (n + 1) cc], by simp [hv], ?_⟩
    have hl : n + 1 = (codeL x).length := by have := hx.out.2.1; show n + 1 = (digs x.natAbs).length + 1; omega
    exact (Ints_any p (n + 1) cc (codeL x) W hR hl (by omega) (code_i64 x) hcl.out).mono fun e w' hp => by
      obtain ⟨q, c2, rfl, hR2, h1, h2, hb⟩ := enc_Rd hp
      exact ⟨_, rfl, h.s.later hb, hb, ⟨q, c2, rfl, hR2, h1, h2⟩⟩
  case s7 =>
    refine flow_run fun listed a W h hd => ⟨trivial, ?_⟩
    obtain ⟨v, hv, -, hV⟩ := h.dep hd 6 9 (by kernel_rfl) (by kernel_rfl)
    refine ⟨v, W, ?_, h.s, Below.refl _ _, hV⟩
    clear h hd
    generalize a.eval = ρ at hv ⊢
    go_simp
  case hdone =>
    intro f W hS hf
    obtain ⟨p, cc, hv, hR, h1, h2⟩ := hf 7 2 (by kernel_rfl)
    simp only [slots, Act.put, List.setIfInBounds_toArray, List.set_cons_zero, List.set_cons_succ]
    rw [hv]
    go_wp2_with fail
    go_ret
    exact ⟨p, cc, rfl, hR, h1, h2, hS.2⟩
end Go.Proofs.YteaoaoknpihchaaDoor

namespace Go.Proofs.YteaoaoknpihchaaDoor
open Go.RowKit

set_option maxRecDepth 100000 in
set_option maxHeartbeats 1600000 in
theorem text_zero (nx : Bool) (px : Option Addr) (cx : Nat) (w : World) :
    Calls Tryd.prog 45 #[.agg #[.bool nx, .slice px 0 cx]] w (TxP w 0) := by
  go_enter Tryd.func45, Tryd.ntmps45
  go_wp2_with fail
  go_ret
  exact ⟨rfl, below_new _ _⟩

set_option maxRecDepth 100000 in
set_option maxHeartbeats 1600000 in
theorem text_some (nx : Bool) (px : Option Addr) (n cx : Nat) (x : Int) (w : World) (hx0 : IntAt w nx px n cx x) (hn : 0 < n) (hlx : n ≤ 1099511627776) (hT : Tb w) :
    Calls Tryd.prog 45 #[.agg #[.bool nx, .slice px n cx]] w (TxP w x) := by
  obtain ⟨i0, hi, hz0, hz1, hz2⟩ := info_parts info_u8
  have hS0 := Lib.hid (@Bx.start nx px n cx w)
  have hTT := Lib.hid hT
  have hx := Lib.hid hx0
  have hxn : Hid (x ≠ 0) := Lib.hid (fun e => by have h1 := hx0.2.1; rw [e, show (0 : Int).natAbs = 0 from rfl, digs_zero] at h1; simp at h1; omega)
  have t1 : ((n : Int) == 0) = false := by simp; omega
  obtain ⟨m, rfl⟩ : ∃ m, n = m + 1 := ⟨n - 1, by omega⟩
  clear hx0 hT
  go_enter Tryd.func45, Tryd.ntmps45
  go_upto_if 9 with fail
  generalize w.alloc (.cells #[.bool nx, .slice px (m + 1) cx] 24) = W1 at hS0 ⊢
  have hS1 := hS0.out
  have hf := hS1.facts
  have hT1 := Lib.hid (hTT.out.later hS1.2)
  clear hS0
  go_wp2_with fail
  obtain ⟨w2, hrun, ho, hg⟩ := run_make_own (P := Tryd.prog) W1 W1.heap.size 60 5 i0 (.int .u8 0) 1 Tryd.underlying60 hi hz0 hz1 .i64 .i64 (1 + 9 * (m + 1)) (by rw [hz2]; omega) (by unfold maxLen; omega) (Nat.le_refl _)
  rw [show ((1 + 9 * (m + 1) : Nat) : Int) = 1 + 9 * ((m : Int) + 1) by omega] at hrun
  rw [hrun]
  simp only [Result.andThen]
  rw [Oper.upon_value]
  have hG0 : Grow W1 (.slice (some ⟨W1.heap.size, 0, none⟩) 0 (1 + 9 * (m + 1))) [] w2 := ⟨ho, (Below.refl _ _).grown hg (Nat.le_refl _) (fun k hk => by cases hk)⟩
  have hG2 := Lib.hid hG0
  have hS2 := hS1.later hG0.2
  have hf2 := hS2.facts
  clear hrun ho hg hG0 hf
  generalize Value.slice (some ⟨W1.heap.size, 0, none⟩) 0 (1 + 9 * (m + 1)) = v2 at hG2 ⊢
  go_upto_if 17 with fail
  go_cut [3] (fun s3 wx => ∃ l, l = (if nx then [45] else []) ∧ Grow W1 s3 l wx)
  case first =>
    cases nx
    · go_wp2_with fail
      go_meet
      exact ⟨_, rfl, hG2.out⟩
    · have hpush : Hid (∀ v' w', w'.ownsRow W1.heap.size 5 1 v' (0 + 1) (bvs [] ++ [.int .u8 45]) → (w2.alloc (.cells #[.int .u8 45] 5)).grownBy w' v2.ownBlock → Grow W1 v' [45] w') :=
        Lib.hid fun v' w' h1 h2 => (hG2.out.later (below_new w2 (.cells #[.int .u8 45] 5))).append (r := [45]) h1 h2
      have hsz : Hid (W1.heap.size ≤ w2.heap.size) := Lib.hid hG2.out.2.size
      go_wp2_with (at_builtin; refine wpList_append_own _ rfl _ _ 60 rfl W1.heap.size 5 i0 (.int .u8 0) 1 1 Tryd.underlying60 hi hz0 hz1 hz2 rfl (by decide) _ _ _ rfl (hG2.out.1.alloc _) ⟨w2.heap.size, 0, none⟩ 1 1 [.int .u8 45] rfl rfl (fun j u hj => by match j, hj with | 0, hj => simp at hj; subst hj; simp [Addr.add]) (by intro u hu; simp at hu; subst hu; rfl) (by unfold maxLen; simp) (by simp) (by have := hsz.out; simp; omega) ?_; intro v3 w3 ho3 hg3 _; have hG3 := Lib.hid (hpush.out _ _ ho3 hg3); clear ho3 hg3)
      go_meet
      exact ⟨_, rfl, hG3.out⟩
  case rest =>
    obtain ⟨l, hl, hG0⟩ := hcut
    have hGl := Lib.hid hG0
    have hll : Hid (l.length ≤ 1) := Lib.hid (by rw [hl]; cases nx <;> simp)
    have hl' := Lib.hid hl
    have hS3 := hS1.later hG0.2
    have hf3 := hS3.facts
    have hxl := hx.out.2.1
    obtain ⟨D, hD⟩ : ∃ D, digs x.natAbs = D := ⟨_, rfl⟩
    have hdd := Dg_digs x.natAbs
    have hR := hx.out.2.2.1
    rw [hD] at hxl hdd hR
    obtain ⟨b, o, hpx, hcm⟩ := Rdi_at hR m (by omega)
    subst hpx
    have cm := Below.cell_of' hS3.2 hcm
    have htd := hdd.all m
    have hRR := Lib.hid hR
    have hdd' := Lib.hid hdd
    have hD' := Lib.hid hD
    have hxl' := Lib.hid hxl
    have hfin : Hid (txt x = l ++ Lib.itoa (iat D m) ++ txtK D m m) := Lib.hid (by
      unfold txt txtD
      rw [if_neg hxn.out, hD, ← hxl, Nat.add_sub_cancel, hl, ← hx.out.1])
    have hap : Hid (Calls Tryd.prog 64 #[u3, .int .i64 (iat D m), .int .i64 10] wc fun e w' => ∃ v', e = .returned v' ∧ Grow W1 v' (l ++ Lib.itoa (iat D m)) w') := Lib.hid ((Tryd.strconv_AppendInt_10 W1.heap.size _ (iat D m) (by omega) (by omega) u3 (bvs l) wc hG0.1 hG0.2.size (by have := hll.out; omega) (hT1.out.at_ hG0.2)).mono fun e w' ⟨v', he, ho, hb, _⟩ => ⟨v', he, grow_row hG0 ho hb⟩)
    have hil := itoa_len (iat D m) htd.1 (by omega)
    have hll2 : Hid ((l ++ Lib.itoa (iat D m)).length ≤ 22) := Lib.hid (by rw [List.length_append]; have := hll.out; omega)
    obtain ⟨H, hH⟩ : ∃ H, l ++ Lib.itoa (iat D m) = H := ⟨_, rfl⟩
    rw [hH] at hap hll2 hfin
    obtain ⟨T, hTv⟩ : ∃ T, iat D m = T := ⟨_, rfl⟩
    rw [hTv] at cm hap
    clear hG0 hl hxl hdd hR hD hcm htd hil hH hTv hf2 hS2
    have m0 : 0 ≤ (m : Int) := by omega
    have m1 : (m : Int) < (m : Int) + 1 := by omega
    go_wp2_with (go_at_call 64; refine hap.out.mono ?_; rintro e w4 ⟨v4, rfl, hG4⟩; have hG4' := Lib.hid hG4; clear hG4)
    go_loopw [3, 33] (fun s3 iv wr => ∃ k : Nat, k ≤ m ∧ iv = .int .i64 (k : Int) ∧ Grow W1 s3 (H ++ txtK D m k) wr) (fun _ iv _ => m - (intOf iv).toNat)
    case atStart => exact ⟨0, Nat.zero_le _, rfl, by rw [show txtK D m 0 = [] from rfl, List.append_nil]; exact hG4'.out⟩
    case round =>
      obtain ⟨k, hk, rfl, hG⟩ := hrel
      clear hG4' hap
      by_cases hlt : k < m
      · obtain ⟨j, hj⟩ : ∃ j, m = j + 1 + k := ⟨m - 1 - k, by omega⟩
        have hj' := Lib.hid hj
        have hS5 := hS1.later hG.2
        have hf5 := hS5.facts
        obtain ⟨b', o', hb', hcj⟩ := Rdi_at hRR.out j (by have := hxl'.out; omega)
        cases hb'
        have cj := Below.cell_of' hS5.2 hcj
        have hjd := hdd'.out.all j
        have hG' := Lib.hid hG
        have hlen : Hid ((H ++ txtK D m k).length ≤ 22 + 20 * k) := Lib.hid (by
          rw [List.length_append]
          have := hll2.out
          have := txtK_len D hdd'.out m k
          omega)
        have hnx : Hid (H ++ txtK D m (k + 1) = H ++ txtK D m k ++ (Lib.itoa (1000000000 + iat D j)).drop 1) := Lib.hid (by
          rw [txtK_succ, ← List.append_assoc, show m - 1 - k = j by omega]; rfl)
        obtain ⟨X, hX⟩ : ∃ X, iat D j = X := ⟨_, rfl⟩
        rw [hX] at cj hjd hnx
        have hit : Hid (Calls Tryd.prog 65 #[.int .i64 (1000000000 + X)] wr fun e w' => e = .returned (.string (bs (Lib.itoa (1000000000 + X)))) ∧ Below wr.heap.size wr w') := Lib.hid ((Tryd.strconv_Itoa (1000000000 + X) (by omega) (by omega) wr (hT1.out.is hG.2)).mono fun e w' ⟨he, hw⟩ => ⟨he, below_itoa hw⟩)
        have hil := itoa_len (1000000000 + X) (by omega) (by omega)
        obtain ⟨I, hI⟩ : ∃ I, Lib.itoa (1000000000 + X) = I := ⟨_, rfl⟩
        rw [hI] at hit hnx hil
        obtain ⟨hjd0, hjd1⟩ := hjd
        have e1 : (m : Int) - 1 - (k : Int) = (j : Int) := by omega
        have e2 : (k : Int) < (m : Int) := by omega
        have e3 : (j : Int) < (m : Int) + 1 := by omega
        have e4 : 0 ≤ (j : Int) := by omega
        have e5 : ((j : Int)).toNat = j := by omega
        have e6 : 0 ≤ (k : Int) := by omega
        have e7 : (m : Int) ≤ 1099511627776 := by omega
        have hsz : (bs I).size = I.length := by simp [bs, ByteArray.size]
        have hI1 : Hid (1 ≤ I.length ∧ I.length ≤ 21) := Lib.hid hil
        have hI2 : (1 : Int) ≤ (I.length : Int) := by omega
        have hdr := bs_drop' I
        obtain ⟨s, hs⟩ : ∃ s, bs (I.drop 1) = s := ⟨_, rfl⟩
        rw [hs] at hdr
        have hss : Hid (s.size ≤ 20 ∧ Lib.strCells s = bvs (I.drop 1) ∧ s.size = (I.drop 1).length) := Lib.hid (by
          rw [← hs, bs_size, List.length_drop]
          exact ⟨by omega, strCells_bs _, rfl⟩)
        clear hG hcj hX hI hil hlt hs hj
        go_wp2_with (first
          | (go_at_call 65; refine hit.out.mono ?_; rintro e w6 ⟨rfl, hb6⟩; have hG6 := Lib.hid (hG'.out.later hb6); clear hb6)
          | (at_builtin; refine Lib.wpList_append_own_string _ rfl _ _ 60 9 rfl W1.heap.size 5 i0 Tryd.underlying60 Tryd.underlying9 hi hz0 hz1 hz2 _ _ _ rfl hG6.out.1 s rfl (by unfold maxLen; have := hlen.out; have := hss.out.1; omega) (by have := hlen.out; have := hss.out.1; omega) hG6.out.2.size ?_; intro v7 w7 ho7 hg7 _; have hG7 : Hid (Grow W1 v7 (H ++ txtK D m (k + 1)) w7) := Lib.hid (by rw [hnx.out]; rw [hss.out.2.1, hss.out.2.2] at ho7; exact hG6.out.append ho7 hg7); clear ho7 hg7))
        exact ⟨⟨k + 1, by omega, by simp, hG7.out⟩, by simp [intOf]; omega⟩
      · obtain rfl : k = m := by omega
        obtain ⟨p, c, hv, hRd, hln, hlc, hcm, -⟩ := own_Rd hG.1
        have hcv := run_bytes_string (P := Tryd.prog) 60 5 9 Tryd.underlying60 Tryd.underlying5 Tryd.underlying9 wr p _ c _ hRd hln
        subst hv
        have hB := Lib.hid (below_tr hS1.2 hG.2)
        obtain ⟨N, hN⟩ : ∃ N, (H ++ txtK D k k).length = N := ⟨_, rfl⟩
        rw [hN] at hcv ⊢
        rw [← hfin.out] at hcv
        clear hG hRd hln hlc hN
        go_wp2_with fail
        go_ret
        exact ⟨rfl, hB.out⟩
theorem Text_any (nx : Bool) (px : Option Addr) (n cx : Nat) (x : Int) (w : World) (hx : IntAt w nx px n cx x) (hlx : n ≤ 1099511627776) (hT : Tb w) :
    Calls Tryd.prog 45 #[.agg #[.bool nx, .slice px n cx]] w (TxP w x) := by
  by_cases h : n = 0
  · subst h
    have h0 : x = 0 := by
      have h1 := digs_nil.1 (List.eq_nil_of_length_eq_zero hx.2.1.symm)
      omega
    subst h0
    exact text_zero nx px cx w
  · exact text_some nx px n cx x w hx (by omega) hlx hT
end Go.Proofs.YteaoaoknpihchaaDoor

namespace Go.Proofs.YteaoaoknpihchaaDoor
open Go.RowKit

theorem retI_of {w w' : World} {z : Int} {N : Nat} {e : Ending} (h : RV (Vz N z) w e w') : ∃ nb p n c, e = .returned (.agg #[.bool nb, .slice p n c]) ∧ IntAt w' nb p n c z ∧ n ≤ N ∧ Below w.heap.size w w' := by
  obtain ⟨v, rfl, ⟨nb, p, n, c, rfl, hI, hn⟩, hb⟩ := h
  exact ⟨nb, p, n, c, rfl, hI, hn, hb⟩
/-- two integers that are returned -/
def RV2 (V1 V2 : VP) (W : World) (e : Ending) (w' : World) : Prop := ∃ v1 v2, e = .returned (.tuple #[v1, v2]) ∧ V1 v1 w' ∧ V2 v2 w' ∧ Below W.heap.size W w'
theorem Bz_new {W : World} {N : Nat} {z : Int} {nb : Bool} {p : Option Addr} {n c : Nat} (h : IntAt W nb p n c z) (hn : n ≤ N) : Bz N W.heap.size z (W.alloc (.cells #[.bool nb, .slice p n c] 24 (0, 0))) :=
  ⟨nb, p, n, c, heap_alloc_new _ _, h.later (below_new _ _), hn⟩
theorem Bz_new2 {W : World} {N : Nat} {z : Int} {nb : Bool} {p : Option Addr} {n c : Nat} {o : Obj} (h : IntAt W nb p n c z) (hn : n ≤ N) : Bz N (W.heap.size + 1) z ((W.alloc o).alloc (.cells #[.bool nb, .slice p n c] 24 (0, 0))) := by
  have := Bz_new (W := W.alloc o) (h.later (below_new _ o)) hn
  rw [show (W.alloc o).heap.size = W.heap.size + 1 by simp] at this
  exact this
theorem dl_dq (a b : Int) : (digs (dq a b).natAbs).length ≤ (digs a.natAbs).length := by
  apply digs_len_mono
  unfold dq
  split
  · simp
  · exact Int.natAbs_ediv_le_natAbs a b
theorem dl_dr (a b : Int) : (digs (dr a b).natAbs).length ≤ (digs b.natAbs).length := by
  apply digs_len_mono
  unfold dr
  split
  · simp
  · have h1 := Int.emod_nonneg a (b := b) (by assumption)
    have h2 := Int.emod_lt a (b := b) (by assumption)
    omega
section
variable {W : World} {Na Nb : Nat} {a b : Int} {v1 v2 : Value}
theorem cDiv (h1 : Vz Na a v1 W) (h2 : Vz Nb b v2 W) (hN1 : Na ≤ 1000000) (hN2 : Nb ≤ 1000000) : Calls Tryd.prog 21 #[v1, v2] W (RV2 (Vz Na (dq a b)) (Vz Nb (dr a b)) W) := by
  obtain ⟨nb, p, n, c, rfl, hI, hn⟩ := h1
  obtain ⟨nb2, p2, n2, c2, rfl, hI2, hn2⟩ := h2
  exact (Div_any _ _ _ _ _ _ _ _ a b W hI hI2 (by omega) (by omega)).mono fun e w' ⟨nb3, p3, n3, c3, nb4, p4, n4, c4, he, h3, h4, hb, _⟩ => by
    refine ⟨_, _, he, ⟨_, _, _, _, rfl, h3, ?_⟩, ⟨_, _, _, _, rfl, h4, ?_⟩, hb⟩
    · have := dl_dq a b; rw [h3.2.1]; have := hI.2.1; omega
    · have := dl_dr a b; rw [h4.2.1]; have := hI2.2.1; omega
theorem cSmall (h1 : Vz Na a v1 W) (hN1 : Na ≤ 1000000) : Calls Tryd.prog 15 #[v1] W (RV2 (Vi (smv a)) (Vb (smb a)) W) := by
  obtain ⟨nb, p, n, c, rfl, hI, hn⟩ := h1
  exact (Small_any _ _ _ _ a W hI (by omega)).mono fun e w' h => ⟨_, _, h.1, rfl, rfl, h.2⟩
theorem cText (h1 : Vz Na a v1 W) (hN1 : Na ≤ 1000000) (hT : Tb W) : Calls Tryd.prog 45 #[v1] W (RV (fun v _ => v = .string (bs (txt a))) W) := by
  obtain ⟨nb, p, n, c, rfl, hI, hn⟩ := h1
  exact (Text_any _ _ _ _ a W hI (by omega) hT).mono fun e w' h => ⟨_, h.1, rfl, h.2⟩
end
theorem root10 {W : World} {v : Value} (h1 : Vz 3 10 v W) : Calls Tryd.prog 25 #[v] W (RV2 (Vz 3 3) (Vb false) W) := by
  obtain ⟨nb, p, n, c, rfl, hI, hn⟩ := h1
  exact (Root_any _ _ _ _ 10 W hI (by omega)).mono fun e w' ⟨nb2, p2, n2, c2, r, bl, he, h2, _, h4, hb, _⟩ => by
    obtain ⟨h5, h6, h7, h8⟩ := h4 (by omega)
    have hr : r = 3 := by
      have h9 : r < 4 := by
        rcases Int.lt_or_le r 4 with h | h
        · exact h
        · have := Int.mul_le_mul h h (by omega) (by omega); omega
      have h10 : 2 < r := by
        rcases Int.lt_or_le 2 r with h | h
        · exact h
        · have := Int.mul_le_mul (show r + 1 ≤ 3 by omega) (show r + 1 ≤ 3 by omega) (by omega) (by omega); omega
      omega
    subst hr
    refine ⟨_, _, he, ⟨_, _, _, _, rfl, h2, ?_⟩, by rw [h8]; rfl, hb⟩
    rw [h2.2.1]
    exact digs_len_le (by rw [pw3]; omega)
theorem parse_m0 (W : World) : Calls Tryd.prog 44 #[.string ⟨#[45, 48]⟩] W (ErP W 2) := parse_form _ [48] true W (by decide) (by decide) (by decide) (by decide) (.inr ⟨rfl, rfl⟩)
theorem parse_01 (W : World) : Calls Tryd.prog 44 #[.string ⟨#[48, 49]⟩] W (ErP W 2) := parse_form _ [48, 49] false W (by decide) (by decide) (by decide) (by decide) (.inl (by decide))
theorem digs_big : digs 18446744073709551616 = [709551616, 446744073, 18] := by
  rw [digs_pos (by omega), show 18446744073709551616 % 1000000000 = 709551616 by rfl, show 18446744073709551616 / 1000000000 = 18446744073 by rfl, digs_pos (by omega), show 18446744073 % 1000000000 = 446744073 by rfl, show 18446744073 / 1000000000 = 18 by rfl, digs_pos (by omega), show 18 % 1000000000 = 18 by rfl, show 18 / 1000000000 = 0 by rfl, digs_zero]; rfl
theorem txt_big : txt 18446744073709551616 = [49, 56, 52, 52, 54, 55, 52, 52, 48, 55, 51, 55, 48, 57, 53, 53, 49, 54, 49, 54] := by
  unfold txt
  rw [if_neg (by omega), show (18446744073709551616 : Int).natAbs = 18446744073709551616 by rfl, digs_big]
  decide +kernel
theorem Vz_build {W : World} {g : Nat} (h : Blk W g [709551616, 446744073, 18]) : Vz 3 18446744073709551616 (.agg #[.bool false, .slice (some ⟨g, 0, none⟩) 3 3]) W :=
  ⟨_, _, _, _, rfl, ⟨rfl, by rw [show (18446744073709551616 : Int).natAbs = 18446744073709551616 by rfl, digs_big]; rfl, by rw [show (18446744073709551616 : Int).natAbs = 18446744073709551616 by rfl, digs_big]; exact h.rdi, by omega, by omega⟩, by omega⟩
def Vblk (l : List Int) : VP := fun v W => ∃ g, v = .slice (some ⟨g, 0, none⟩) l.length l.length ∧ Blk W g l
theorem Vblk_mono (l : List Int) : Mono (Vblk l) := fun _ _ _ ⟨g, h1, h2⟩ hb => ⟨g, h1, h2.later hb⟩
theorem run_eqs {ρ : Operand → Value} {o : Oper} {W : World} {x y : Operand} {a b : ByteArray} (ho : o.op = .binOp .eql 9 x y 9) (hx : ρ x = .string a) (hy : ρ y = .string b) : (execOp ρ o).run Tryd.prog W = .ok (.value (.bool (a.toList == b.toList))) W := by
  obtain ⟨d, op, ty, ps, af, gd⟩ := o
  subst ho
  go_simp
theorem codeL5 : codeL (-5) = [-1, 5] := by
  unfold codeL
  rw [show (-5 : Int).natAbs = 5 by rfl, digs_pos (by omega), show 5 % 1000000000 = 5 by rfl, show 5 / 1000000000 = 0 by rfl, digs_zero, cmp_lt (by omega)]
  rfl
theorem encode5 {W : World} {v : Value} (h : Vz 3 (-5) v W) : Calls Tryd.prog 47 #[v] W (BtP W (encIs [-1, 5])) := by
  obtain ⟨nb, p, n, c, rfl, hI, hn⟩ := h
  have := Encode_any _ _ _ _ _ W hI (by omega)
  rw [codeL5] at this
  exact this
theorem enc_len15 : (encIs [-1, 5]).length ≤ 70368744177664 := by
  unfold encIs
  rw [List.length_append]
  have h1 := enc_le (([-1, 5] : List Int).length : Int)
  have h2 := enc_le (-1)
  have h3 := enc_le 5
  simp only [List.flatMap_cons, List.flatMap_nil, List.length_append, List.length_nil]
  omega
theorem ints15 {W : World} {g : Nat} (h : Blk W g [-1, 5]) : Calls Tryd.prog 48 #[.slice (some ⟨g, 0, none⟩) 2 2] W (EncPost W (encIs [-1, 5])) :=
  refInts_any _ 2 2 [-1, 5] W h.rdi (Lib.hid rfl) (by omega) (Lib.hid fun i hi => by
    match i, hi with
    | 0, _ => exact ⟨by decide, by decide⟩
    | 1, _ => exact ⟨by decide, by decide⟩) enc_len15
end Go.Proofs.YteaoaoknpihchaaDoor
