/- What the statements' walks share: slices that came in, and an append to a slice without spare room. -/
import Derived.Test.YtfgkaiaapofepaaDoorW22
import Derived.ArgAppend
namespace Go.Proofs.YtfgkaiaapofepaaDoor
open Go.RowKit

theorem addr_plain {w : World} {x : Addr} {u : Value} (h : w.cell? (x.add 0) = some u) : x = ⟨x.block, x.off, none⟩ := by
  have h0 : x.add 0 = x := by simp [Addr.add]
  rw [h0] at h
  cases x with
  | mk b o s =>
    cases s with
    | none => rfl
    | some s =>
      unfold World.cell? at h
      split at h
      · simp at h
      · cases h

theorem wf_u8 {n : Int} (h : (Lit.int .u8 n).wf = true) : 0 ≤ n ∧ n < 256 := by
  simp [Lit.wf, IntKind.min, IntKind.max, IntKind.signed, IntKind.bits] at h
  omega

theorem wf_i64' {n : Int} (h : (Lit.int .i64 n).wf = true) : -9223372036854775808 ≤ n ∧ n ≤ 9223372036854775807 := by
  simp [Lit.wf, IntKind.min, IntKind.max, IntKind.signed, IntKind.bits] at h
  omega

theorem add_plain (b o i : Nat) : (⟨b, o, none⟩ : Addr).add i = ⟨b, o + i, none⟩ := by unfold Addr.add; split <;> simp_all

/-- bytes that came in -/
theorem row_Rd {w : World} {a : Option Addr} {len cap : Nat} {zs : List Int}
    (h : (a = none ∧ len = 0 ∧ cap = 0 ∧ zs = []) ∨ ∃ x, a = some x ∧ len ≤ cap ∧ cap ≤ maxLen ∧ zs.length = cap ∧ (∀ i, i < zs.length → w.cell? (x.add i) = some (.int .u8 (zs.getD i 0))) ∧ ∀ n ∈ zs, (Lit.int .u8 n).wf = true) :
    ∃ l : List UInt8, Rd w a l ∧ len = l.length ∧ len ≤ cap ∧ cap ≤ 9223372036854775807 := by
  rcases h with ⟨rfl, rfl, rfl, rfl⟩ | ⟨x, rfl, hl, hm, hz, hc, hw⟩
  · exact ⟨[], .inl rfl, rfl, Nat.le_refl _, by omega⟩
  · refine ⟨(zs.take len).map fun n => UInt8.ofNat n.toNat, ?_, by simp; omega, hl, by unfold maxLen at hm; omega⟩
    rcases Nat.eq_zero_or_pos len with h0 | h0
    · subst h0; exact .inl (by simp)
    · have hx := addr_plain (hc 0 (by omega))
      refine .inr ⟨x.block, x.off, by rw [← hx], fun i hi => ?_⟩
      have hi' : i < len := by simp at hi; omega
      have hi2 : i < zs.length := by omega
      have hadd : x.add i = ⟨x.block, x.off + i, none⟩ := (congrArg (fun y : Addr => y.add i) hx).trans (add_plain _ _ _)
      rw [← hadd, hc i hi2]
      have hb := wf_u8 (hw (zs[i]) (List.getElem_mem hi2))
      have : zs.getD i 0 = byt ((zs.take len).map fun n => UInt8.ofNat n.toNat) i := by
        unfold byt
        simp [List.getD_eq_getElem?_getD, hi2, hi', List.getElem?_take]
        omega
      rw [this]

/-- integers that came in -/
theorem row_Rdi {w : World} {a : Option Addr} {len cap : Nat} {zs : List Int}
    (h : (a = none ∧ len = 0 ∧ cap = 0 ∧ zs = []) ∨ ∃ x, a = some x ∧ len ≤ cap ∧ cap ≤ maxLen ∧ zs.length = cap ∧ (∀ i, i < zs.length → w.cell? (x.add i) = some (.int .i64 (zs.getD i 0))) ∧ ∀ n ∈ zs, (Lit.int .i64 n).wf = true) :
    ∃ l : List Int, Rdi w a l ∧ i64s l ∧ len = l.length ∧ len ≤ cap ∧ cap ≤ 9223372036854775807 := by
  rcases h with ⟨rfl, rfl, rfl, rfl⟩ | ⟨x, rfl, hl, hm, hz, hc, hw⟩
  · exact ⟨[], .inl rfl, fun i hi => by simp at hi, rfl, Nat.le_refl _, by omega⟩
  · refine ⟨zs.take len, ?_, ?_, by simp; omega, hl, by unfold maxLen at hm; omega⟩
    · rcases Nat.eq_zero_or_pos len with h0 | h0
      · subst h0; exact .inl (by simp)
      · have hx := addr_plain (hc 0 (by omega))
        refine .inr ⟨x.block, x.off, by rw [← hx], fun i hi => ?_⟩
        have hi' : i < len := by simp at hi; omega
        have hi2 : i < zs.length := by omega
        have hadd : x.add i = ⟨x.block, x.off + i, none⟩ := (congrArg (fun y : Addr => y.add i) hx).trans (add_plain _ _ _)
        rw [← hadd, hc i hi2]
        simp [iat, List.getD_eq_getElem?_getD, List.getElem?_take, hi']
    · intro i hi
      have hi' : i < len := by simp at hi; omega
      have hi2 : i < zs.length := by omega
      have hb := wf_i64' (hw (zs[i]) (List.getElem_mem hi2))
      have e : iat (zs.take len) i = zs[i] := by simp [iat, List.getD_eq_getElem?_getD, List.getElem?_take, hi', hi2]
      rw [e]
      omega

theorem run_append_empty {P : Program} (w : World) (t ty e : TypeId) (i : TypeInfo) (hu : P.underlying t = some (.slice e)) (hi : P.info? e = some i) (p q : Option Addr) (n c c2 : Nat) (hnc : n ≤ c) :
    (Builtin.append_ #[t, t] ty #[.slice p n c, .slice q 0 c2]).run P w = .ok (.slice p n c) w := by
  cases p <;> cases q <;> simp [Builtin.append_, run_underlying hu, sizeOf, typeInfo, hi, Builtin.lenOf, hnc, Builtin.firstCells, loadCells, loadCellsFrom, storeCells]

/-- what 'append' of bytes to a slice that reads as bytes comes to, where there is no spare room -/
def TailPost (w : World) (l : List UInt8) (v' : Value) (w' : World) : Prop :=
  ∃ p c, v' = .slice p l.length c ∧ Rd w' p l ∧ l.length ≤ c ∧ c ≤ 9223372036854775807 ∧ Below w.heap.size w w'

theorem Rd_news {w : World} {b off : Nat} {l : List UInt8} (h : ∀ i, i < l.length → w.cell? ⟨b, off + i, none⟩ = some (.int .u8 (byt l i))) : ∀ j u, (bvs l)[j]? = some u → w.cell? ((⟨b, off, none⟩ : Addr).add j) = some u := by
  intro j u hu
  have ha : (⟨b, off, none⟩ : Addr).add j = ⟨b, off + j, none⟩ := by unfold Addr.add; split <;> simp_all
  have hj : j < l.length := by
    rcases Nat.lt_or_ge j l.length with h1 | h1
    · exact h1
    · rw [List.getElem?_eq_none (by simpa [bvs] using h1)] at hu; cases hu
  rw [ha, h j hj, ← hu]
  simp [bvs, byt, hj]

theorem wpList_append_tail {w : World} {ops : Array Oper} {rest : List Oper} {o : Oper} {a : Act} {Q : Exit → Act → World → Prop} (hg : o.guard = none) (s x : Operand) (hop : o.op = Op.call { callee := Callee.builtin Builtin.append, args := #[s, x], argTypes := #[22, 22] })
    (p q : Option Addr) (n m c2 : Nat) (l t : List UInt8) (hs : a.eval s = .slice p n n) (hx : a.eval x = .slice q m c2) (hRl : Rd w p l) (hRt : Rd w q t) (hn : n = l.length) (hm : m = t.length) (hb : n + m ≤ 70368744177664)
    (hK : ∀ v' w', TailPost w (l ++ t) v' w' → wpList Tryd.prog ops Q rest (a.put o.dst v') w') : wpList Tryd.prog ops Q (o :: rest) a w := by
  obtain ⟨i0, hi, hz0, hz1, hz2⟩ := info_parts info_u8
  rcases Nat.eq_zero_or_pos m with h0 | h0
  · subst h0
    have ht : t = [] := List.eq_nil_of_length_eq_zero hm.symm
    subst ht
    refine wpList_plain hg fun K hK' => ?_
    unfold Oper.wp execOp
    simp only [hop, resolve, invoke, builtin, Sem.run_bind, Sem.run_pure, Result.andThen_ok, List.map_toArray, List.map_cons, List.map_nil, hs, hx, run_append_empty w 22 o.type 5 i0 Tryd.underlying22 hi p q n n c2 (Nat.le_refl _)]
    exact hK' _ _ (hK _ _ ⟨p, n, by rw [List.append_nil, hn], by rw [List.append_nil]; exact hRl, by rw [List.append_nil]; omega, by omega, Below.refl _ _⟩)
  · rcases hRt with rfl | ⟨b, off, rfl, hc⟩
    · simp at hm; omega
    · have hnone : p = none → n = 0 ∧ n = 0 := by
        intro hp
        rcases hRl with rfl | ⟨_, _, h, _⟩
        · simp at hn; omega
        · rw [hp] at h; cases h
      refine wpList_append_grows w hg s x 22 hop 5 i0 (.int .u8 0) 1 1 Tryd.underlying22 hi hz0 hz1 hz2 rfl (by decide) p n n (bvs l) hs hnone (by rw [bvs_length, hn]; omega) ?_ ⟨b, off, none⟩ m c2 (bvs t) hx (by rw [bvs_length, hm]; omega) (Rd_news hc) (bvs_one _) (by omega) (by unfold maxLen; omega) (by omega) ?_
      · intro b' hb' j u hu
        rcases hRl with rfl | ⟨b2, o2, h2, hc2⟩
        · simp [bvs] at hu
        · rw [hb'] at h2
          cases h2
          exact Rd_news hc2 j u hu
      · intro v' w' ho hgr
        rw [← bvs_append] at ho
        obtain ⟨p', c', rfl, hR', hn', hc', hm', _⟩ := own_Rd ho
        exact hK _ _ ⟨p', c', by rw [hn'], hR', by omega, hm', (Below.refl _ _).grown hgr (Nat.le_refl _) (fun k h => by cases h)⟩

end Go.Proofs.YtfgkaiaapofepaaDoor
