/- wire.putList of digests, wire.Digests. -/
import Derived.Test.YtfgkaiaapofepaaDoorW7
import Derived.Deep.WholeRow
namespace Go.Proofs.YtfgkaiaapofepaaDoor
open Go.RowKit

section
variable {P : Program}
theorem run_loadVar_cells (w : World) (a : Addr) (ty : TypeId) (cs : List Value) (d : TypeDesc) (hc : ∀ j v, cs[j]? = some v → w.cell? (a.add j) = some v)
    (hu : P.underlying ty = some d) (hd : (match d with | .struct _ | .array _ _ => true | _ => false) = true) (hi : (P.info? ty).map (·.size) = some cs.length) :
    (loadVar ty a).run P w = .ok (.agg cs.toArray) w := by
  have hl : (loadCells a cs.length).run P w = .ok cs.toArray w := run_loadCells_list (P := P) w a cs hc
  cases hq : P.info? ty with
  | none => simp [hq] at hi
  | some i =>
    have hs : i.size = cs.length := by simpa [hq] using hi
    have hagg : (isAgg ty).run P w = .ok true w := by
      unfold isAgg
      rw [Sem.run_bind, run_underlying hu w]
      cases d <;> simp_all
    simp [loadVar, Sem.run_bind, hagg, sizeOf, typeInfo, hq, hs, hl]

theorem wpList_load_cells {ops : Array Oper} {rest : List Oper} {o : Oper} {a : Act} {w : World} {Q : Exit → Act → World → Prop} (hgd : o.guard = none) (ty : TypeId) (x : Operand) (ho : o.op = .load ty x)
    (ad : Addr) (hx : a.eval x = .pointer (some ad)) (cs : List Value) (d : TypeDesc) (hc : ∀ j v, cs[j]? = some v → w.cell? (ad.add j) = some v)
    (hu : P.underlying ty = some d) (hd : (match d with | .struct _ | .array _ _ => true | _ => false) = true) (hi : (P.info? ty).map (·.size) = some cs.length)
    (h : wpList P ops Q rest (a.put o.dst (.agg cs.toArray)) w) : wpList P ops Q (o :: rest) a w :=
  wpList_plain hgd fun K hK => by
    unfold Oper.wp execOp
    simp only [ho, hx, Instr.loadAt, Instr.sureAddr, Sem.run_bind, Sem.run_pure, Result.andThen_ok, run_loadVar_cells w ad ty cs d hc hu hd hi]
    exact hK _ _ h
end

/-- element i of a list of digests -/
def dat (l : List (List UInt8)) (i : Nat) : List UInt8 := l.getD i []
/-- the slice that begins at a reads as the digests l -/
def Rdd (w : World) (a : Option Addr) (l : List (List UInt8)) : Prop :=
  (∀ i, i < l.length → (dat l i).length = 16) ∧ (l = [] ∨ ∃ b off, a = some ⟨b, off, none⟩ ∧ ∀ i j u, i < l.length → (bvs (dat l i))[j]? = some u → w.cell? ⟨b, off + i * 16 + j, none⟩ = some u)
theorem Rdd_at {w : World} {a : Option Addr} {l : List (List UInt8)} (h : Rdd w a l) (k : Nat) (hk : k < l.length) : ∃ b off, a = some ⟨b, off, none⟩ ∧ (dat l k).length = 16 ∧ ∀ j u, (bvs (dat l k))[j]? = some u → w.cell? ((⟨b, off + k * 16, none⟩ : Addr).add j) = some u := by
  obtain ⟨h1, rfl | ⟨b, off, rfl, hc⟩⟩ := h
  · simp at hk
  · refine ⟨b, off, rfl, h1 k hk, fun j u hu => ?_⟩
    have ha : (⟨b, off + k * 16, none⟩ : Addr).add j = ⟨b, off + k * 16 + j, none⟩ := by unfold Addr.add; split <;> simp_all
    rw [ha]
    exact hc k j u hk hu

/-- the zero digest's cells -/
def zero16 : Array Value := #[.int .u8 0, .int .u8 0, .int .u8 0, .int .u8 0, .int .u8 0, .int .u8 0, .int .u8 0, .int .u8 0, .int .u8 0, .int .u8 0, .int .u8 0, .int .u8 0, .int .u8 0, .int .u8 0, .int .u8 0, .int .u8 0]
theorem store_digest (W : World) (d : List UInt8) (h : d.length = 16) : (storeCells ⟨W.heap.size, 0, none⟩ (bvs d)).run Tryd.prog (W.alloc (.cells zero16 44)) = .ok () (W.alloc (.cells (bvs d).toArray 44)) := by
  have hl : (bvs d).length = 16 := by rw [bvs_length, h]
  have := run_storeCells_new (P := Tryd.prog) W 44 zero16 (bvs d).toArray (by rw [List.size_toArray, hl]; kernel_rfl) (by simp [hl, zero16]) (by
    rw [Array.all_eq_true_iff_forall_mem]
    intro v hv
    exact bvs_one d v (by simpa using hv))
  simpa using this
theorem box_cells (W : World) (d : List UInt8) : ∀ j u, (bvs d)[j]? = some u → (W.alloc (.cells (bvs d).toArray 44)).cell? ((⟨W.heap.size, 0, none⟩ : Addr).add j) = some u := by
  intro j u hu
  have ha : (⟨W.heap.size, 0, none⟩ : Addr).add j = ⟨W.heap.size, j, none⟩ := by unfold Addr.add; split <;> simp_all
  rw [ha]
  simp only [World.cell?, heap_alloc_new]
  simpa using hu
theorem RowInv.alloc {w wr : World} {v : Value} {l : List UInt8} (h : RowInv w v l wr) (o : Obj) : RowInv w v l (wr.alloc o) :=
  ⟨h.1.alloc o, h.2.alloc h.2.size o⟩

/-- the encoding of a list of digests -/
def encDs (l : List (List UInt8)) : List UInt8 := enc (l.length : Int) ++ l.flatMap id

end Go.Proofs.YtfgkaiaapofepaaDoor
