/- The examples that every statement contains. -/
import Derived.Test.YtfgkaiaapofepaaDoorG3
import Derived.Test.YtfgkaiaapofepaaDoorW22
namespace Go.Proofs.YtfgkaiaapofepaaDoor
open Go.RowKit

/-! two arrays of bytes are compared -/
theorem bvs_at (l : List UInt8) (j : Nat) (h : j < l.length) : (bvs l).toArray[j]? = some (.int .u8 (byt l j)) := bvs_get h
theorem items_gen (d : Nat) (a b : List UInt8) (W : World) : ∀ is : List Nat, (∀ j ∈ is, j < a.length ∧ j < b.length) → (Op.eqItems (d + 1) 5 1 (bvs a).toArray (bvs b).toArray is).run Tryd.prog W = .ok (is.all fun j => decide (byt a j = byt b j)) W
  | [], _ => by simp [Op.eqItems]
  | j :: is, h => by
    obtain ⟨h1, h2⟩ := h j (by simp)
    have hp := part_u8 W _ j _ (bvs_at a j h1)
    have hq := part_u8 W _ j _ (bvs_at b j h2)
    have he := run_equalIn_int (P := Tryd.prog) W d 5 .u8 .u8 (byt a j) (byt b j) Tryd.underlying5
    have ih := items_gen d a b W is (fun j hj => h j (by simp [hj]))
    simp only [Op.eqItems, Sem.run_bind, hp, hq, Result.andThen_ok, he]
    by_cases hx : byt a j = byt b j
    · simp [hx, ih]
    · simp [hx]
theorem all_bytes (a b : List UInt8) (n : Nat) (ha : a.length = n) (hb : b.length = n) : ((List.range n).all fun j => decide (byt a j = byt b j)) = eqB a b := by
  rw [Bool.eq_iff_iff]
  unfold eqB
  simp only [List.all_eq_true, List.mem_range, decide_eq_true_eq]
  constructor
  · intro h
    apply List.ext_getElem (by omega)
    intro j h1 h2
    have := byt_inj (h j (by omega))
    simpa [h1, h2] using this
  · rintro rfl j _; rfl
theorem eql_gen (T : TypeId) (n : Nat) (hu : Tryd.prog.underlying T = some (.array n 5)) (a b : List UInt8) (ha : a.length = n) (hb : b.length = n) (W : World) : (binOp .eql T (.agg (bvs a).toArray) (.agg (bvs b).toArray)).run Tryd.prog W = .ok (.bool (eqB a b)) W := by
  obtain ⟨i0, hi, _, _, _⟩ := info_parts info_u8
  have hc : Tryd.prog.cellsOf 5 = 1 := by kernel_rfl
  have h : (Op.equalIn 10000 T (.agg (bvs a).toArray) (.agg (bvs b).toArray)).run Tryd.prog W = .ok (eqB a b) W := by
    rw [run_equalIn_array W 9999 _ _ hu hi, hc, items_gen 9998 a b W _ (fun j hj => by simp at hj; omega), all_bytes a b n ha hb]
  simp [binOp, Op.equal, Op.maxDepth, h]
theorem eql_32 (a b : List UInt8) (ha : a.length = 32) (hb : b.length = 32) (W : World) : (binOp .eql 24 (.agg (bvs a).toArray) (.agg (bvs b).toArray)).run Tryd.prog W = .ok (.bool (eqB a b)) W := eql_gen _ 32 Tryd.underlying24 a b ha hb W
theorem eql_16 (a b : List UInt8) (ha : a.length = 16) (hb : b.length = 16) (W : World) : (binOp .eql 44 (.agg (bvs a).toArray) (.agg (bvs b).toArray)).run Tryd.prog W = .ok (.bool (eqB a b)) W := eql_gen _ 16 Tryd.underlying44 a b ha hb W
theorem eqB_self (a : List UInt8) : eqB a a = true := by simp [eqB]

/-! the examples -/
def hexA : ByteArray := ⟨#[98, 97, 55, 56, 49, 54, 98, 102, 56, 102, 48, 49, 99, 102, 101, 97, 52, 49, 52, 49, 52, 48, 100, 101, 53, 100, 97, 101, 50, 50, 50, 51, 98, 48, 48, 51, 54, 49, 97, 51, 57, 54, 49, 55, 55, 97, 57, 99, 98, 52, 49, 48, 102, 102, 54, 49, 102, 50, 48, 48, 49, 53, 97, 100]⟩
def hexM : ByteArray := ⟨#[53, 98, 100, 99, 99, 49, 52, 54, 98, 102, 54, 48, 55, 53, 52, 101, 54, 97, 48, 52, 50, 52, 50, 54, 48, 56, 57, 53, 55, 53, 99, 55, 53, 97, 48, 48, 51, 102, 48, 56, 57, 100, 50, 55, 51, 57, 56, 51, 57, 100, 101, 99, 53, 56, 98, 57, 54, 52, 101, 99, 51, 56, 52, 51]⟩
def hexD : ByteArray := ⟨#[51, 54, 99, 100, 53, 48, 56, 53, 48, 51, 50, 57, 102, 56, 56, 52, 48, 54, 101, 51, 49, 98, 98, 56, 97, 55, 100, 56, 102, 98, 54, 50]⟩
def exK : ByteArray := ⟨#[74, 101, 102, 101]⟩
def exT : ByteArray := ⟨#[119, 104, 97, 116, 32, 100, 111, 32, 121, 97, 32, 119, 97, 110, 116, 32, 102, 111, 114, 32, 110, 111, 116, 104, 105, 110, 103, 63]⟩
def exL : List ByteArray := [⟨#[97]⟩, ⟨#[]⟩]
theorem ex_sha : hexs (sha [97, 98, 99]) = sl hexA := by decide +kernel
theorem ex_mac : hexs (mac (sl exK) (sl exT)) = sl hexM := by decide +kernel
theorem ex_of : hexs ((sha (inpK 8 exL 2)).take 16) = sl hexD := by decide +kernel
theorem ex_sha' : bs (hexs (sha [97, 98, 99])) = hexA := by rw [ex_sha, bs_sl]
theorem ex_mac' : bs (hexs (mac (sl exK) (sl exT))) = hexM := by rw [ex_mac, bs_sl]
theorem ex_of' : bs (hexs ((sha (inpK 8 exL 2)).take 16)) = hexD := by rw [ex_of, bs_sl]
end Go.Proofs.YtfgkaiaapofepaaDoor
