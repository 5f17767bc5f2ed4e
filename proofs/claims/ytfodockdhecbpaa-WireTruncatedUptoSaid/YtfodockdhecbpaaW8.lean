/- wire.putList of digests, wire.Digests. -/
import Derived.Test.YtfodockdhecbpaaW7
import Derived.Deep.WholeRow
namespace Go.Proofs.Ytfodockdhecbpaa
open Go.RowKit

section
variable {P : Program}
theorem run_loadVar_cells (w : World) (a : Addr) (ty : TypeId) (cs : List Value) (d : TypeDesc) (hc : ∀ j v, cs[j]? = some v → w.cell? (a.add j) = some v)
    (hu : P.underlying ty = some d) (hd : (match d with | .struct _ | .array _ _ => true | _ => false) = true) (hi : (P.info? ty).map (·.size) = some cs.length) :
    (loadVar ty a).run P w = .ok (.agg cs.toArray) w := by
  have hl : (loadCells a cs.length).run P w = .ok cs.toArray w := run_loadCells_list (P := P) w a cs hc
  cases hq : P.info? ty with
  | none => simp [hq] at hi
  | some i =>
    have hs : i.size = cs.length := by simpa [hq] using hi
    have hagg : (isAgg ty).run P w = .ok true w := by
      unfold isAgg
      rw [Sem.run_bind, run_underlying hu w]
      cases d <;> simp_all
    simp [loadVar, Sem.run_bind, hagg, sizeOf, typeInfo, hq, hs, hl]

theorem wpList_load_cells {ops : Array Oper} {rest : List Oper} {o : Oper} {a : Act} {w : World} {Q : Exit → Act → World → Prop} (hgd : o.guard = none) (ty : TypeId) (x : Operand) (ho : o.op = .load ty x)
    (ad : Addr) (hx : a.eval x = .pointer (some ad)) (cs : List Value) (d : TypeDesc) (hc : ∀ j v, cs[j]? = some v → w.cell? (ad.add j) = some v)
    (hu : P.underlying ty = some d) (hd : (match d with | .struct _ | .array _ _ => true | _ => false) = true) (hi : (P.info? ty).map (·.size) = some cs.length)
    (h : wpList P ops Q rest (a.put o.dst (.agg cs.toArray)) w) : wpList P ops Q (o :: rest) a w :=
  wpList_plain hgd fun K hK => by
    unfold Oper.wp execOp
    simp only [ho, hx, Instr.loadAt, Instr.sureAddr, Sem.run_bind, Sem.run_pure, Result.andThen_ok, run_loadVar_cells w ad ty cs d hc hu hd hi]
    exact hK _ _ h
end

/-- element i of a list of digests -/
def dat (l : List (List UInt8)) (i : Nat) : List UInt8 := l.getD i []
/-- the slice that begins at a reads as the digests l -/
def Rdd (w : World) (a : Option Addr) (l : List (List UInt8)) : Prop :=
  (∀ i, i < l.length → (dat l i).length = 16) ∧ (l = [] ∨ ∃ b off, a = some ⟨b, off, none⟩ ∧ ∀ i j u, i < l.length → (bvs (dat l i))[j]? = some u → w.cell? ⟨b, off + i * 16 + j, none⟩ = some u)
theorem Rdd_at {w : World} {a : Option Addr} {l : List (List UInt8)} (h : Rdd w a l) (k : Nat) (hk : k < l.length) : ∃ b off, a = some ⟨b, off, none⟩ ∧ (dat l k).length = 16 ∧ ∀ j u, (bvs (dat l k))[j]? = some u → w.cell? ((⟨b, off + k * 16, none⟩ : Addr).add j) = some u := by
  obtain ⟨h1, rfl | ⟨b, off, rfl, hc⟩⟩ := h
  · simp at hk
  · refine ⟨b, off, rfl, h1 k hk, fun j u hu => ?_⟩
    have ha : (⟨b, off + k * 16, none⟩ : Addr).add j = ⟨b, off + k * 16 + j, none⟩ := by unfold Addr.add; split <;> simp_all
    rw [ha]
    exact hc k j u hk hu

/-- the zero digest's cells -/
def zero16 : Array Value := #[.int .u8 0, .int .u8 0, .int .u8 0, .int .u8 0, .int .u8 0, .int .u8 0, .int .u8 0, .int .u8 0, .int .u8 0, .int .u8 0, .int .u8 0, .int .u8 0, .int .u8 0, .int .u8 0, .int .u8 0, .int .u8 0]
theorem store_digest (W : World) (d : List UInt8) (h : d.length = 16) : (storeCells ⟨W.heap.size, 0, none⟩ (bvs d)).run Try.prog (W.alloc (.cells zero16 57)) = .ok () (W.alloc (.cells (bvs d).toArray 57)) := by
  have hl : (bvs d).length = 16 := by rw [bvs_length, h]
  have := run_storeCells_new (P := Try.prog) W 57 zero16 (bvs d).toArray (by rw [List.size_toArray, hl]; kernel_rfl) (by simp [hl, zero16]) (by
    rw [Array.all_eq_true_iff_forall_mem]
    intro v hv
    exact bvs_one d v (by simpa using hv))
  simpa using this
theorem box_cells (W : World) (d : List UInt8) : ∀ j u, (bvs d)[j]? = some u → (W.alloc (.cells (bvs d).toArray 57)).cell? ((⟨W.heap.size, 0, none⟩ : Addr).add j) = some u := by
  intro j u hu
  have ha : (⟨W.heap.size, 0, none⟩ : Addr).add j = ⟨W.heap.size, j, none⟩ := by unfold Addr.add; split <;> simp_all
  rw [ha]
  simp only [World.cell?, heap_alloc_new]
  simpa using hu
theorem RowInv.alloc {w wr : World} {v : Value} {l : List UInt8} (h : RowInv w v l wr) (o : Obj) : RowInv w v l (wr.alloc o) :=
  ⟨h.1.alloc o, h.2.alloc h.2.size o⟩

/-- the encoding of a list of digests -/
def encDs (l : List (List UInt8)) : List UInt8 := enc (l.length : Int) ++ l.flatMap id

set_option maxRecDepth 100000 in
set_option maxHeartbeats 800000 in
theorem putListDig_any (a : Option Addr) (n c : Nat) (l : List (List UInt8)) (w : World) (hR : Rdd w a l) (hn : Hid (n = l.length)) (hmax : n ≤ 9223372036854775807) (hlen : (encDs l).length ≤ 70368744177664) :
    Calls Try.prog 42 #[.slice a n c, .func (.func 43) #[] #[]] w (EncPost w (encDs l)) := by
  have hR' := Lib.hid hR
  have hlen' := Lib.hid hlen
  clear hR hlen
  go_enter Try.func42, Try.ntmps42
  go_wp2_with (go_at_call 38; refine (putInt_any (.slice none 0 0) 0 [] w.heap.size _ _ (World.ownsRow_nil _ _ _ _) (Nat.le_refl _) (by omega) (by omega) (by omega)).mono ?_; intro e w1 hp; obtain ⟨v0, rfl, h0, h0'⟩ := encPost_of hp; have hI : Hid (RowInv w v0 (enc (n : Int)) w1) := Lib.hid ⟨h0, h0'⟩; clear hp h0 h0')
  go_loopw [5, 13] (fun b i wr => ∃ k : Nat, k ≤ n ∧ i = .int .i64 k ∧ RowInv w b (enc (n : Int) ++ (l.take k).flatMap id) wr) (fun _ i _ => n - (intOf i).toNat)
  case atStart => exact ⟨0, Nat.zero_le _, rfl, by rw [List.take_zero, List.flatMap_nil, List.append_nil]; exact hI.out⟩
  case round =>
    obtain ⟨k, hk, rfl, hinv⟩ := hrel
    by_cases hlt : k < n
    · have hkl : k < l.length := by rw [← hn.out]; exact hlt
      obtain ⟨b0, off, rfl, h16, hc⟩ := Rdd_at hR'.out k hkl
      have hcs := Lib.hid (fun j u hu => Below.cell_of' hinv.2 (hc j u hu))
      have hz := hinv.2.size
      have hl2 := Lib.hid (flat_take_le id l (k + 1))
      have hl3 := hlen'.out
      have hsz := Lib.hid (show (Try.prog.info? 57).map (·.size) = some (bvs (dat l k)).length by rw [bvs_length, h16]; kernel_rfl)
      have h16' := Lib.hid h16
      have hst := store_digest wr (dat l k) h16
      have hbl : (bvs (dat l k)).length = 16 := by rw [bvs_length, h16]
      have hbx := Lib.hid (box_cells wr (dat l k))
      have hinv' := Lib.hid (hinv.alloc (.cells (bvs (dat l k)).toArray 57))
      simp only [zero16] at hst
      clear hinv hI hc h16
      have hll : (enc (n : Int) ++ (l.take k).flatMap id).length + 16 ≤ 70368744177664 := by
        have := hl2.out
        rw [flat_take id l k hkl [], List.length_append, show id (l.getD k []) = dat l k from rfl, h16'.out] at this
        unfold encDs at hl3
        rw [List.length_append] at hl3 ⊢
        rw [hn.out]
        omega
      clear hl3
      go_wp2_with (first | (refine wpList_load_cells rfl 57 _ rfl ⟨b0, off + k * 16, none⟩ rfl (bvs (dat l k)) _ hcs.out Try.underlying57 rfl hsz.out ?_) | (refine wpList_load_cells rfl 57 _ rfl ⟨wr.heap.size, 0, none⟩ rfl (bvs (dat l k)) _ hbx.out Try.underlying57 rfl hsz.out ?_) | (go_at_call 43; refine (putDigest_any _ _ _ w.heap.size _ h16' _ hinv'.out.1 (by simp; omega) hll).mono ?_; intro e w2 hp; obtain ⟨v2, rfl, hI2⟩ := hinv'.out.put hp; have hJ := Lib.hid hI2; clear hp hI2))
      refine ⟨⟨k + 1, by omega, by simp, ?_⟩, by simp [intOf]; omega⟩
      rw [flat_take id l k hkl [], ← List.append_assoc]
      exact hJ.out
    · have hk' : k = n := by omega
      subst hk'
      rw [hn.out, List.take_length] at hinv
      have hJ := Lib.hid hinv
      clear hinv hI
      go_wp2
      go_ret
      exact ⟨_, rfl, hJ.out.1, hJ.out.2⟩

set_option maxRecDepth 100000 in
set_option maxHeartbeats 400000 in
theorem Digests_any (a : Option Addr) (n c : Nat) (l : List (List UInt8)) (w : World) (hR : Rdd w a l) (hn : n = l.length) (hmax : n ≤ 9223372036854775807) (hlen : (encDs l).length ≤ 70368744177664) :
    Calls Try.prog 22 #[.slice a n c] w (EncPost w (encDs l)) := by
  have hR' := Lib.hid hR
  have hn' := Lib.hid hn
  have hl' := Lib.hid hlen
  clear hR hn hlen
  go_enter Try.func22, Try.ntmps22
  go_wp2_with (go_at_call 42; refine (putListDig_any _ _ _ l _ hR'.out hn' hmax hl'.out).mono ?_; intro e w' hp; have hq := Lib.hid hp; obtain ⟨v', rfl, _, _⟩ := hp)
  go_ret
  exact hq.out

end Go.Proofs.Ytfodockdhecbpaa
