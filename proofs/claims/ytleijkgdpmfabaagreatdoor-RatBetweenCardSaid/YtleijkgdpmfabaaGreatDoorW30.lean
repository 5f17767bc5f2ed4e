/- Contracts of the package integer and its reference: Strings among what is known. Rows that a function makes by appending. Rows that a function makes by appending: the rules. -/
import Derived.Test.YtleijkgdpmfabaaGreatDoorW29
import Derived.Deep.AppendSrc
set_option linter.unusedVariables false
namespace Go.Proofs.YtleijkgdpmfabaaGreatDoor
open Go Go.RowKit
def Vs (l : List UInt8) : VP := fun v _ => v = .string (bs l)
theorem Stab_Vs {BT : List (TypeId × Nat × Nat)} (l : List UInt8) : Stab BT (Vs l) := fun _ _ _ h _ => h
instance (BT : List (TypeId × Nat × Nat)) (l : List UInt8) : Sb BT (Vs l) := ⟨Stab_Vs l⟩
def VTup3 (A B C : VP) : VP := fun v w => ∃ x y z, v = .tuple #[x, y, z] ∧ A x w ∧ B y w ∧ C z w
theorem Stab_VTup3 {BT : List (TypeId × Nat × Nat)} {A B C : VP} (hA : Stab BT A) (hB : Stab BT B) (hC : Stab BT C) : Stab BT (VTup3 A B C) := fun _ _ _ ⟨x, y, z, h1, h2, h3, h4⟩ hr => ⟨x, y, z, h1, hA _ _ _ h2 hr, hB _ _ _ h3 hr, hC _ _ _ h4 hr⟩
instance (BT : List (TypeId × Nat × Nat)) (A B C : VP) [hA : Sb BT A] [hB : Sb BT B] [hC : Sb BT C] : Sb BT (VTup3 A B C) := ⟨Stab_VTup3 hA.out hB.out hC.out⟩
section
variable {ρ : Operand → Value} {o : Oper} {W : World} {x y : Operand} {a b : List UInt8} {u v z : Value}
theorem run_x0 (ho : o.op = .extract x 0) (hx : ρ x = .tuple #[u, v, z]) : (execOp ρ o).run Tryz.prog W = .ok (.value u) W := by
  obtain ⟨d, op, ty, ps, af, gd⟩ := o
  subst ho
  go_simp
theorem run_x1 (ho : o.op = .extract x 1) (hx : ρ x = .tuple #[u, v, z]) : (execOp ρ o).run Tryz.prog W = .ok (.value v) W := by
  obtain ⟨d, op, ty, ps, af, gd⟩ := o
  subst ho
  go_simp
theorem run_x2 (ho : o.op = .extract x 2) (hx : ρ x = .tuple #[u, v, z]) : (execOp ρ o).run Tryz.prog W = .ok (.value z) W := by
  obtain ⟨d, op, ty, ps, af, gd⟩ := o
  subst ho
  go_simp
theorem bs_toList (a : List UInt8) : (bs a).toList = a := by rw [ByteArray.toList_eq]; simp [bs]
theorem bs_add (a b : List UInt8) : bs a ++ bs b = bs (a ++ b) := by
  apply ByteArray.ext
  simp [bs]
theorem run_eqsV (ho : o.op = .binOp .eql 9 x y 9) (hx : ρ x = .string (bs a)) (hy : ρ y = .string (bs b)) : (execOp ρ o).run Tryz.prog W = .ok (.value (.bool (a == b))) W := by
  rw [run_eqs ho hx hy, bs_toList, bs_toList]
theorem run_addsV (ho : o.op = .binOp .add 9 x y 9) (hx : ρ x = .string (bs a)) (hy : ρ y = .string (bs b)) (hl : a.length + b.length ≤ 1000000000) : (execOp ρ o).run Tryz.prog W = .ok (.value (.string (bs (a ++ b)))) W := by
  have h1 : ¬ maxLen < (bs a).size + (bs b).size := by rw [bs_size, bs_size]; unfold maxLen; omega
  have h2 : (bs a).size + (bs b).size ≤ 9223372036854775807 := by rw [bs_size, bs_size]; omega
  rw [← bs_add]
  generalize bs a = s at *
  generalize bs b = t at *
  clear hl
  obtain ⟨d, op, ty, ps, af, gd⟩ := o
  subst ho
  go_simp
theorem run_lenV (ho : o.op = .call { callee := .builtin .len, args := #[x], argTypes := #[9] }) (hty : o.type = 3) (hx : ρ x = .string (bs a)) : (execOp ρ o).run Tryz.prog W = .ok (.value (.int .i64 (a.length : Int))) W := by
  rw [← bs_size]
  generalize bs a = s at *
  obtain ⟨d, op, ty, ps, af, gd⟩ := o
  subst ho
  simp only at hty
  subst hty
  go_simp
theorem txt_len (x : Int) : (txt x).length ≤ 22 + 20 * (digs x.natAbs).length := by
  unfold txt
  split
  · simp only [List.length_singleton]; omega
  · rename_i h
    unfold txtD
    have hd := Dg_digs x.natAbs
    have h1 := txtK_len (digs x.natAbs) hd ((digs x.natAbs).length - 1) ((digs x.natAbs).length - 1)
    have h2 := hd.all ((digs x.natAbs).length - 1)
    have h3 := (itoa_len (iat (digs x.natAbs) ((digs x.natAbs).length - 1)) h2.1 (by omega)).2
    simp only [List.length_append]
    have h4 : (if decide (x < 0) = true then [(45 : UInt8)] else []).length ≤ 1 := by split <;> simp
    omega
theorem cTextV {W : World} {N : Nat} {a : Int} {v : Value} (h : Vz N a v W) (hN : N ≤ 1000000) (hT : Tb W) : Calls Tryz.prog 85 #[v] W (RV (Vs (txt a)) W) := cText h hN hT
theorem digs_one {z : Int} (h1 : -1000000000 < z) (h2 : z < 1000000000) : (digs z.natAbs).length ≤ 1 := by
  rcases Nat.eq_zero_or_pos z.natAbs with h | h
  · rw [h, digs_zero]; simp
  · rw [digs_pos (by omega), show z.natAbs / 1000000000 = 0 by omega, digs_zero]; simp
theorem cParseV (S t : List UInt8) (ng : Bool) (m : Int) (W : World) (hlen : S.length ≤ 65536) (ht : Lib.trimPrefix S [45] = t) (hng : Lib.hasPrefix S [45] = ng) (hl1 : 1 ≤ t.length) (hl : t.length ≤ 9) (hdec : decB t = true) (hz : ng = true → (t == [48]) = false) (hat : Lib.atoi t = some m) (hm0 : 0 ≤ m) (hm1 : m < 1000000000) :
    Calls Tryz.prog 101 #[.string (bs S)] W (RV (VTup (Vz 1 (sg ng m)) (Vi 0)) W) := by
  have e : (bs S).data.toList = S := by simp [bs]
  refine (parse_short (bs S) t ng m W (by rw [bs_size]; exact hlen) (by rw [e]; exact ht) (by rw [e]; exact hng) hl1 hl hdec hz hat hm0 hm1).mono fun e w' ⟨nb, p, n, c, he, hI, hb⟩ => ⟨_, he, ⟨_, _, rfl, ⟨nb, p, n, c, rfl, hI, ?_⟩, rfl⟩, hb⟩
  rw [hI.2.1]
  exact digs_one (by unfold sg; split <;> omega) (by unfold sg; split <;> omega)
theorem cCutV (S A B : List UInt8) (i : Nat) (W : World) (hS : S.length ≤ 65536) (h : Lib.indexByte S 47 = (i : Int)) (hi : i + 1 ≤ S.length) (hA : S.take i = A) (hB : S.drop (i + 1) = B) : Calls Tryz.prog 100 #[.string (bs S), .string (bs [47])] W (RV (VTup3 (Vs A) (Vs B) (Vb true)) W) := by
  have e : (bs S).data.toList = S := by simp [bs]
  refine (cut_hit (bs S) 47 i (by rw [bs_size]; exact hS) (by rw [e]; exact h) (by rw [bs_size]; exact hi) W).mono fun e w' ⟨he, hb⟩ => ⟨_, he, ⟨_, _, _, rfl, ?_, ?_, rfl⟩, hb⟩
  · show _ = Value.string (bs A)
    rw [← hA]; congr 1; apply ByteArray.ext; simp [bs]
  · show _ = Value.string (bs B)
    rw [← hB]; congr 1; apply ByteArray.ext; simp [bs, ByteArray.size]
    rw [List.take_of_length_le (by simp)]
end
open Go Go.RowKit
def VEl {α : Type} (k : Nat) (E : α → VP) (xs : List α) : VP := fun v w => ∃ cs, v = .agg cs ∧ ∀ i x, xs[i]? = some x → E x (.agg (cs.extract (k * i) (k * i + k))) w
def VRg {α : Type} (T : TypeId) (k : Nat) (E : α → VP) (g c : Nat) (xs : List α) : VP := fun v w => xs.length ≤ c ∧ c ≤ 9223372036854775807 ∧ g < w.heap.size ∧ ((c = 0 ∧ v = .slice none 0 0) ∨ (0 < c ∧ v = .slice (some ⟨g, 0, none⟩) xs.length c ∧ RowAt g T (k * c) (VEl k E xs) w))
def VRx {α : Type} (T : TypeId) (k : Nat) (E : α → VP) (lo : Nat) (xs : List α) : VP := fun v w => ∃ g c, lo ≤ g ∧ 0 < c ∧ VRg T k E g c xs v w
def VOn (T : TypeId) (k : Nat) (A : VP) : VP := fun v w => ∃ h cs, v = .slice (some ⟨h, 0, none⟩) 1 1 ∧ w.heap[h]? = some (.cells cs T (0, 0)) ∧ cs.size = k ∧ NoInt cs ∧ cs.all (·.oneCell') = true ∧ A (.agg cs) w
def VNe (g : Nat) : VP := fun v _ => v ≠ .pointer (some ⟨g, 0, none⟩)
def VLt (lo : Nat) : VP := fun v w => lo ≤ w.heap.size ∧ ∀ g, v = .pointer (some ⟨g, 0, none⟩) → g < lo
section
variable {BT : List (TypeId × Nat × Nat)} {α : Type} {T ST : TypeId} {k g c lo : Nat} {E : α → VP} {xs : List α} {A : VP}
instance (g : Nat) : Sb BT (VNe g) := ⟨fun _ _ _ h _ => h⟩
theorem Stab_VLt (lo : Nat) : Stab BT (VLt lo) := fun _ _ _ h hr => ⟨Nat.le_trans h.1 hr.size, h.2⟩
instance (lo : Nat) : Sb BT (VLt lo) := ⟨Stab_VLt lo⟩
theorem Stab_VEl (hE : ∀ x, Stab BT (E x)) : Stab BT (VEl k E xs) := fun _ _ _ ⟨cs, h1, h2⟩ hr => ⟨cs, h1, fun i x hx => hE x _ _ _ (h2 i x hx) hr⟩
instance [hE : ∀ x, Sb BT (E x)] : Sb BT (VEl k E xs) := ⟨Stab_VEl fun x => (hE x).out⟩
theorem Stab_VRg (hE : ∀ x, Stab BT (E x)) (hk : 0 < k) (hp : (∀ e ∈ BT, e.1 ≠ T) ∨ (T, 0, g) ∈ BT) : Stab BT (VRg T k E g c xs) := by
  rintro v w w' ⟨h1, h2, h3, h4⟩ hr
  refine ⟨h1, h2, Nat.lt_of_lt_of_le h3 hr.size, h4.imp id ?_⟩
  rintro ⟨h5, h6, cs, e1, e2, e3, e4⟩
  refine ⟨h5, h6, cs, (hr.row g cs T e1 ?_).trans e1, e2, e3, Stab_VEl hE _ _ _ e4 hr⟩
  rcases hp with hp | hp
  · exact .inl fun e he q1 => absurd q1 (hp e he)
  · exact .inr ⟨by rw [e2]; exact Nat.mul_pos hk h5, _, hp, rfl, rfl, rfl⟩
theorem Stab_VRx (hE : ∀ x, Stab BT (E x)) (hk : 0 < k) (hp : ∀ e ∈ BT, e.1 ≠ T) : Stab BT (VRx T k E lo xs) := fun _ _ _ ⟨g, c, h1, h2, h3⟩ hr => ⟨g, c, h1, h2, Stab_VRg hE hk (.inl hp) _ _ _ h3 hr⟩
theorem Stab_VOn (hA : Stab BT A) (hn : ∀ e ∈ BT, e.1 = T → e.2.1 ≠ k) : Stab BT (VOn T k A) := fun _ _ _ ⟨h, cs, e1, e2, e3, e4, e5, e6⟩ hr => ⟨h, cs, e1, (hr.row h cs T e2 (.inl fun e he q1 q2 => absurd (q2.trans e3) (hn e he q1))).trans e2, e3, e4, e5, hA _ _ _ e6 hr⟩
class SlT (ST T : TypeId) (k : outParam Nat) : Prop where
  und : Tryz.prog.underlying ST = some (.slice T)
  info : ∃ i zv, Tryz.prog.info? T = some i ∧ i.zero = some zv ∧ i.size = k ∧ i.bytes ≤ 1000 ∧ zv.cells.size = k ∧ NoInt zv.cells
  pos : 0 < k
theorem NoInt_zero {z : Array Value} {n : Nat} (h : NoInt z) (hz : 0 < z.size) : NoInt (Builtin.zeroCells z n) := by
  intro i x hi
  unfold Builtin.zeroCells at hi
  rw [Array.getElem?_map] at hi
  cases hr : (Array.range (n * z.size))[i]? with
  | none => rw [hr] at hi; cases hi
  | some j =>
    rw [hr] at hi
    simp only [Option.map_some] at hi
    have hlt : j % z.size < z.size := Nat.mod_lt _ hz
    have e : z[j % z.size]? = some (z[j % z.size]!) := by
      rw [getElem!_pos z (j % z.size) hlt, Array.getElem?_eq_getElem hlt]
    exact h _ _ (e.trans hi)
theorem NoInt_app {a b : Array Value} (ha : NoInt a) (hb : NoInt b) : NoInt (a ++ b) := by
  intro i x hi
  rw [Array.getElem?_append] at hi
  split at hi
  · exact ha _ _ hi
  · exact hb _ _ hi
theorem NoInt_take {cs : Array Value} (h : NoInt cs) (n : Nat) : NoInt (cs.toList.take n).toArray := by
  intro i x hi
  rw [List.getElem?_toArray, List.getElem?_take] at hi
  split at hi
  · rw [Array.getElem?_toList] at hi; exact h _ _ hi
  · cases hi
theorem VEl_more {cs cs' z : Array Value} {x : α} {w : World} (h : VEl k E xs (.agg cs) w) (hz : E x (.agg z) w) (hzs : z.size = k) (hlen : k * xs.length + k ≤ cs'.size)
    (hget : ∀ j, j < k * xs.length + k → cs'[j]? = if j < k * xs.length then cs[j]? else z[j - k * xs.length]?) (hcs : k * xs.length ≤ cs.size) : VEl k E (xs ++ [x]) (.agg cs') w := by
  obtain ⟨_, e, h⟩ := h
  cases e
  refine ⟨_, rfl, fun i y hy => ?_⟩
  rw [List.getElem?_append] at hy
  split at hy
  · rename_i hi
    have hle : k * i + k ≤ k * xs.length := by rw [← Nat.mul_succ]; exact Nat.mul_le_mul_left k hi
    have : cs'.extract (k * i) (k * i + k) = cs.extract (k * i) (k * i + k) := by
      apply Array.ext_getElem?
      intro j
      rw [Array.getElem?_extract, Array.getElem?_extract]
      by_cases hj : j < k
      · rw [if_pos (by omega), if_pos (by omega), hget _ (by omega), if_pos (by omega)]
      · rw [if_neg (by omega), if_neg (by omega)]
    rw [this]; exact h i y hy
  · rename_i hi
    have hi' : i - xs.length = 0 := by
      rcases Nat.eq_zero_or_pos (i - xs.length) with h0 | h0
      · exact h0
      · rw [List.getElem?_eq_none (by simp; omega)] at hy; cases hy
    rw [hi'] at hy
    have hyx : y = x := by simpa using hy.symm
    have hii : i = xs.length := by omega
    subst hyx hii
    have : cs'.extract (k * xs.length) (k * xs.length + k) = z := by
      apply Array.ext_getElem?
      intro j
      rw [Array.getElem?_extract]
      by_cases hj : j < k
      · rw [if_pos (by omega), hget _ (by omega), if_neg (by omega), show k * xs.length + j - k * xs.length = j by omega]
      · rw [if_neg (by omega), Array.getElem?_eq_none (by omega)]
    rw [this]; exact hz
section
variable {ρ : Operand → Value} {o : Oper} {W : World} {x y : Operand} {va vb : Value} {z : α}
theorem app_grow [hs : SlT ST T k] (ho : o.op = .call { callee := .builtin .append, args := #[x, y], argTypes := #[ST, ST] }) (hx : ρ x = va) (h : VRg T k E g c xs va W) (hy : ρ y = vb) (h1 : VOn T k (E z) vb W) (hE : ∀ x, Stab [] (E x)) (hc : c < xs.length + 1) (hlo : lo ≤ W.heap.size) (hb : xs.length ≤ 1000000) :
    ∃ v w', (execOp ρ o).run Tryz.prog W = .ok (.value v) w' ∧ Below W.heap.size W w' ∧ VRx T k E lo (xs ++ [z]) v w' := by
  obtain ⟨i, zv, hi, hz, hsz, hby, hzc, hzn⟩ := hs.info
  have hk := hs.pos
  obtain ⟨hl, hcm, hg, h⟩ := h
  obtain ⟨hh, ch, rfl, e1, e2, e3, e4, e5⟩ := h1
  have hcell : ∀ j u, ch.toList[j]? = some u → W.cell? ((⟨hh, 0, none⟩ : Addr).add j) = some u := fun j u hj => by
    have : (⟨hh, 0, none⟩ : Addr).add j = ⟨hh, 0 + j, none⟩ := by unfold Addr.add; split <;> simp_all
    rw [this]
    simp only [World.cell?, e1, Nat.zero_add]
    simpa using hj
  have hsrc : Src Tryz.prog i.size ST (.slice (some ⟨hh, 0, none⟩) 1 1) 1 ch.toList W := Src.ofSlice W hs.und _ 1 1 _ (by simp [e2, hsz]) hcell (fun u hu => by
    rw [Array.all_eq_true'] at e4
    exact e4 u (by simpa using hu))
  have hfit := growslice_fits (need := xs.length + 1) (old := c) (bytes := i.bytes) hc (by
    have := Nat.mul_le_mul (show xs.length + 1 ≤ 1000001 by omega) hby
    omega)
  have hge := grownCap_ge W (xs.length + 1) c T
  have hcap : grownCap W (xs.length + 1) c T ≤ maxLen := grownCap_le_maxLen W (xs.length + 1) c T (by unfold maxLen; omega)
  unfold maxLen at hcap
  obtain ⟨olds, base, hva, hold, hol, hnio, hel⟩ : ∃ (olds : List Value) (base : Option Addr), va = .slice base xs.length c ∧ (Builtin.firstCells i.size xs.length (.slice base xs.length c)).run Tryz.prog W.drew = .ok olds.toArray W.drew ∧ olds.length = k * xs.length ∧ NoInt olds.toArray ∧ VEl k E xs (.agg olds.toArray) W := by
    rcases h with ⟨hc0, rfl⟩ | ⟨hc0, rfl, cs, q1, q2, q3, q4⟩
    · have hx0 : xs = [] := List.eq_nil_of_length_eq_zero (by omega)
      subst hx0 hc0
      exact ⟨[], none, rfl, run_firstCells_none _ _ _ _ _, rfl, fun i x hi => by simp at hi, ⟨_, rfl, fun i x hi => by simp at hi⟩⟩
    · have hle : k * xs.length ≤ cs.size := by rw [q2]; exact Nat.mul_le_mul_left k hl
      refine ⟨cs.toList.take (k * xs.length), some ⟨g, 0, none⟩, rfl, run_firstCells_some W.drew i.size xs.length ⟨g, 0, none⟩ _ _ _ (by rw [List.length_take, hsz, Nat.mul_comm xs.length k]; exact Nat.min_eq_left hle) (fun j v hj => ?_), by rw [List.length_take]; simp; omega, NoInt_take q3 _, ⟨_, rfl, fun i x hi => ?_⟩⟩
      · rw [List.getElem?_take] at hj
        split at hj
        · have : (⟨g, 0, none⟩ : Addr).add j = ⟨g, 0 + j, none⟩ := by unfold Addr.add; split <;> simp_all
          rw [this]
          have q1' : W.drew.heap[g]? = some (.cells cs T (0, 0)) := q1
          simp only [World.cell?, q1', Nat.zero_add]
          simpa using hj
        · cases hj
      · obtain ⟨_, e, q4⟩ := q4
        cases e
        have hil : i < xs.length := by
          rcases Nat.lt_or_ge i xs.length with h' | h'
          · exact h'
          · rw [List.getElem?_eq_none h'] at hi; cases hi
        have hle2 : k * i + k ≤ k * xs.length := by rw [← Nat.mul_succ]; exact Nat.mul_le_mul_left k hil
        have : (cs.toList.take (k * xs.length)).toArray.extract (k * i) (k * i + k) = cs.extract (k * i) (k * i + k) := by
          apply Array.ext_getElem?
          intro j
          rw [Array.getElem?_extract, Array.getElem?_extract]
          have hsz2 : (cs.toList.take (k * xs.length)).toArray.size = k * xs.length := by simp; omega
          rw [hsz2]
          by_cases hj : j < k
          · rw [if_pos (by omega), if_pos (by omega), List.getElem?_toArray, List.getElem?_take, if_pos (by omega), Array.getElem?_toList]
          · rw [if_neg (by omega), if_neg (by omega)]
        rw [this]; exact q4 i x hi
  subst hva
  have hr := run_append_grow_src (P := Tryz.prog) W ST ST o.type T i zv hs.und hi hz base xs.length c olds hold (.slice (some ⟨hh, 0, none⟩) 1 1) 1 ch.toList hsrc hc (by omega) hfit
  have hcl : ch.toList.length = k := e2
  have hb1 : Below W.heap.size W (W.drew.alloc (.cells ((olds ++ ch.toList).toArray ++ Builtin.zeroCells zv.cells (grownCap W (xs.length + 1) c T - (xs.length + 1))) T)) := (below_drewN (Below.refl _ W) 1).alloc (Nat.le_refl _) _
  have hgs : W.heap.size < (W.drew.alloc (.cells ((olds ++ ch.toList).toArray ++ Builtin.zeroCells zv.cells (grownCap W (xs.length + 1) c T - (xs.length + 1))) T)).heap.size := lt_blk (heap_alloc_new W.drew _)
  refine ⟨_, _, ?_, hb1, ⟨W.heap.size, grownCap W (xs.length + 1) c T, hlo, by omega, by simpa using hge, Nat.le_trans hcap (by omega), hgs, .inr ⟨by omega, by rw [List.length_append], _, heap_alloc_new W.drew _, ?_, ?_, ?_⟩⟩⟩
  · unfold execOp
    simp only [ho, resolve, invoke, builtin, Sem.run_bind, Sem.run_pure, Result.andThen_ok, List.map_toArray, List.map_cons, List.map_nil, hx, hy, hr]
    rfl
  · rw [Array.size_append, List.size_toArray, List.length_append, hol, size_zeroCells, hzc, hcl, Nat.sub_mul, Nat.mul_comm (grownCap W (xs.length + 1) c T) k, Nat.add_mul, Nat.mul_comm xs.length k]
    have := Nat.mul_le_mul_left k hge
    rw [Nat.mul_add] at this
    omega
  · refine NoInt_app ?_ (NoInt_zero hzn (by omega))
    rw [← List.append_toArray]
    exact NoInt_app hnio (by simpa using e3)
  · refine VEl_more (cs := olds.toArray) (z := ch) (Stab_VEl hE _ _ _ hel (RI.of_below hb1)) (hE _ _ _ _ e5 (RI.of_below hb1)) e2 ?_ ?_ (by simp [hol])
    · rw [Array.size_append, List.size_toArray, List.length_append, hol, hcl]; omega
    · intro j hj
      rw [Array.getElem?_append_left (by rw [List.size_toArray, List.length_append, hol, hcl]; exact hj), List.getElem?_toArray, List.getElem?_append, hol]
      simp only [List.getElem?_toArray, Array.getElem?_toList]
end
end
open Go Go.RowKit
section
variable {md : Region.Mode} {ops : Array Oper} {Q : Exit → Act → World → Prop} {a0 : Act} {Vl : List VP} {n0 : Nat} {w0 : World} {B : List Bd} {SL : List (Nat × VP)} {BT : List (TypeId × Nat × Nat)} {α : Type} {T ST : TypeId} {k g c lo : Nat} {E : α → VP} {xs : List α}
theorem KS.rowsetD {listed : Array Bool} {a : Act} {w : World} {v : Value} {i g : Nat} {dst : Option Nat} {T : TypeId} {m : Nat} {old cs : Array Value} (h : KS n0 w0 B listed a w) (hr : RI BT w (w.setRow g cs)) (hg : w.heap[g]? = some (.cells old T (0, 0))) (ho : old.size = m) (hn0 : n0 ≤ g) (hne : ∀ b ∈ B, b.T = T → b.m ≠ m) (hq : quietB B i dst = true) (hB : SbB BT B) :
    KS n0 w0 B (listed.setIfInBounds i true) (a.put dst v) (w.setRow g cs) := by
  have hgg : ∀ b ∈ B, ∀ g' cs', w.heap[g']? = some (.cells cs' b.T (0, 0)) → cs'.size = b.m → g' ≠ g := fun b hb g' cs' h1 h2 e => by
    subst e
    rw [hg] at h1
    cases h1
    exact hne b hb rfl (h2.symm.trans ho)
  refine ⟨⟨h.below.os, h.below.tape, h.below.output, Nat.le_trans h.below.size hr.size, fun k hk => (setRow_other w g k cs (by omega)).trans (h.below.block k hk)⟩, fun b hb hon => ?_, fun b hb c hc hne' h1 h2 => ?_, fun b hb hn1 hk => ?_⟩
  · obtain ⟨q1, q2, q3⟩ := quietB_get hq hb
    rw [onb_set q1] at hon
    obtain ⟨g', cs', e1, e2, e3, e4, e5, e6, e7⟩ := h.ok b hb hon
    refine ⟨g', cs', by rw [put_get_ne q3]; exact e1, e2, (setRow_other w g g' cs (hgg b hb g' cs' e3 e4)).trans e3, e4, e5, fun hk => ?_, fun h0 hk => ?_⟩
    · rw [onb_set q2] at hk
      exact (hB.out b hb).1 _ _ _ (e6 hk) hr
    · rw [onb_set q2] at hk
      exact (hB.out b hb).2 _ _ _ (e7 h0 hk) hr
  · obtain ⟨q1, q2, q3⟩ := quietB_get hq hb
    obtain ⟨p1, p2, p3⟩ := quietB_get hq hc
    rw [onb_set q1] at h1
    rw [onb_set p1] at h2
    rw [put_get_ne q3, put_get_ne p3]
    exact h.ne b hb c hc hne' h1 h2
  · obtain ⟨q1, q2, -⟩ := quietB_get hq hb
    rw [onb_set q2] at hk
    rw [onb_set q1]
    exact h.fa b hb hn1 hk
theorem k_app {s u j : Nat} {o : Oper} {z : α} {r : Rw} [hB : SbB ((T, k * c, 0) :: BT) B] [hs : SlT ST T k] (hr : r = ⟨g, j, T, k * c, VEl k E (xs ++ [z]), VEl k E xs⟩) (ho : o.op = .call { callee := .builtin .append, args := #[.tmp s, .tmp u], argTypes := #[ST, ST] })
    (hx : KnS md ops Vl SL o s (VEq (.slice (some ⟨g, 0, none⟩) xs.length c))) (hy : KnS md ops Vl SL o u (VOn T k (E z))) (hV : GV Vl j = VEq (.slice (some ⟨g, 0, none⟩) (xs.length + 1) c)) (hroom : xs.length + 1 ≤ c) (hc2 : 2 ≤ c) (hn0 : n0 ≤ g)
    (hBk : B.all (fun b => b.T != T || b.m == k) = true) (hq : quietB B j o.dst = true) (hE : ∀ x BT, Stab BT (E x)) (hNP : ∀ e ∈ BT, e.1 = T → e.2.1 = 0 → e.2.2 ≠ g) (hg : GOk md ops Vl o) : KStepR ((T, k * c, 0) :: BT) Tryz.prog md ops Q a0 (GV Vl) n0 w0 B SL r o := by
  subst hr
  intro listed a w h hrow hd _ hil hnl K hK
  obtain ⟨i, zv, hi, hz, hsz, hby, hzc, hzn⟩ := hs.info
  have hk := hs.pos
  rw [if_pos (wanted_of (hg.get h hd))]
  obtain ⟨old, e1, e2, e3, -, e5⟩ := hrow
  have hP0 := e5 hnl
  simp only at e1 e2 hP0
  obtain ⟨vs, hvs, hVs⟩ := hx.get h hd
  obtain rfl : vs = _ := hVs
  obtain ⟨vu, hvu, hh, ch, rfl, q1, q2, q3, q4, q5⟩ := hy.get h hd
  have hcell : ∀ j u, ch.toList[j]? = some u → w.cell? ((⟨hh, 0, none⟩ : Addr).add j) = some u := fun j u hj => by
    have : (⟨hh, 0, none⟩ : Addr).add j = ⟨hh, 0 + j, none⟩ := by unfold Addr.add; split <;> simp_all
    rw [this]
    simp only [World.cell?, q1, Nat.zero_add]
    simpa using hj
  have hcl : ch.toList.length = k := q2
  have hle : k * xs.length + k ≤ k * c := by rw [← Nat.mul_succ]; exact Nat.mul_le_mul_left k hroom
  have hrun := run_append_room (P := Tryz.prog) w ST o.type T i hs.und hi g xs.length c old e1 ⟨hh, 0, none⟩ 1 1 ch.toList (by rw [hcl, hsz, Nat.one_mul]) hcell (fun u hu => by
    rw [Array.all_eq_true'] at q4
    exact q4 u (by simpa using hu)) hroom (by rw [hcl, hsz, Nat.mul_comm, e2]; exact hle)
  obtain ⟨cs', hcs'⟩ : ∃ cs' : Array Value, (old.toList.take (xs.length * i.size) ++ ch.toList ++ old.toList.drop (xs.length * i.size + ch.toList.length)).toArray = cs' := ⟨_, rfl⟩
  have hol : old.toList.length = k * c := e2
  have htl : (old.toList.take (xs.length * i.size)).length = k * xs.length := by rw [List.length_take, hsz, Nat.mul_comm, hol]; omega
  have hsize : cs'.size = k * c := by
    rw [← hcs', List.size_toArray, List.length_append, List.length_append, htl, hcl, List.length_drop, hol, hsz, Nat.mul_comm xs.length k]; omega
  have hget : ∀ j, j < k * xs.length + k → cs'[j]? = if j < k * xs.length then old[j]? else ch[j - k * xs.length]? := fun j hj => by
    rw [← hcs', List.getElem?_toArray, List.getElem?_append_left (by rw [List.length_append, htl, hcl]; exact hj), List.getElem?_append, htl]
    split
    · rw [List.getElem?_take, if_pos (by rw [hsz, Nat.mul_comm]; assumption), Array.getElem?_toList]
    · rw [Array.getElem?_toList]
  have hni : NoInt cs' := fun i' x hx' => by
    rw [← hcs', List.getElem?_toArray, List.getElem?_append, List.getElem?_append] at hx'
    split at hx'
    · split at hx'
      · rw [List.getElem?_take] at hx'
        split at hx'
        · rw [Array.getElem?_toList] at hx'; exact e3 _ _ hx'
        · cases hx'
      · rw [Array.getElem?_toList] at hx'; exact q3 _ _ hx'
    · rw [List.getElem?_drop, Array.getElem?_toList] at hx'; exact e3 _ _ hx'
  rw [hcs'] at hrun
  have hmk : k * c ≠ k := by
    intro e
    have := Nat.mul_le_mul_left k hc2
    omega
  have hRI : RI ((T, k * c, 0) :: BT) w (w.setRow g cs') := RI_setRow e1 e3 ⟨⟨_, List.mem_cons_self, rfl, e2.symm, .inl rfl⟩, fun e he q1 q2 => by
    rcases List.mem_cons.1 he with rfl | he
    · exact absurd q2 (by simp only; omega)
    · exact hNP e he q1 q2⟩
  have hks := h.k.rowsetD (i := j) (v := .slice (some ⟨g, 0, none⟩) (xs.length + 1) c) (dst := o.dst) hRI e1 e2 hn0 (fun b hb hbT => by
    rw [List.all_eq_true] at hBk
    have := hBk b hb
    simp only [hbT, bne_self_eq_false, Bool.false_or, beq_iff_eq] at this
    omega) hq hB
  have hlk : (listed.setIfInBounds j true).getD j false = true := by rw [getD_set _ _ _ hil, if_pos rfl]
  unfold Oper.wp execOp
  simp only [ho, resolve, invoke, builtin, Sem.run_bind, Sem.run_pure, Result.andThen_ok, List.map_toArray, List.map_cons, List.map_nil, hvs, hvu, hrun]
  refine hK _ _ hks hRI ⟨_, setRow_heap w g old cs' _ _ e1, hsize, hni, fun _ => VEl_more (Stab_VEl (fun x => hE x _) _ _ _ hP0 hRI) (hE _ _ _ _ _ q5 hRI) q2 (by rw [hsize]; exact hle) hget (by rw [e2]; omega), fun hl => by simp only at hl; rw [hlk] at hl; cases hl⟩ (by simp only; rw [hV]; rfl)
theorem k_allocN_ {i t m s : Nat} {o : Oper} {T' : TypeId} {b : Bd} [hB : SbB BT B] (ho : o.op = .alloc T') (hds : o.dst = some t) (hb : gB B (iB B t) = some b) (hbt : b.t = t) (hT : b.T = T') (hia : b.ia = some i) [ha : AlT T' m] (hm : b.m = m) (hik : (b.ik = none ∧ b.P = VT) ∨ ∃ k, b.ik = some k ∧ (k != i) = true) (hV : GV Vl i = VNe g)
    (hq : quietB (B.take (iB B t) ++ B.drop (iB B t + 1)) i (some t) = true) (hr : lS SL s = some (VRg T k E g c xs)) (hrs : ops.all (fun o => o.dst != some s) = true) (hg : GOk md ops Vl o) : KStep BT Tryz.prog md ops Q a0 (GV Vl) n0 w0 B SL i o := by
  obtain ⟨z, hz, hzs, hni⟩ := ha.ex
  subst hbt hT hm
  intro listed a w h hd hin hil hnl K hK
  rw [if_pos (wanted_of (hg.get h hd))]
  obtain ⟨vr, -, hVr⟩ := h.ot s hr hrs
  have hlt := hVr.2.2.1
  have ht : b.t < a.tmps.size := by
    rw [hds] at hin
    rw [h.size]
    simpa using hin
  have hks := h.k.alloc (gB_split hb) hq hia hil ht hB.out h.n z hzs hni (fun hk => by
    rcases hik with ⟨-, h1⟩ | ⟨k, h1, h2⟩
    · rw [h1]; trivial
    · exfalso
      have h2 : k ≠ i := by simpa using h2
      rw [onb_set (x := b.ik) (by intro e; rw [h1] at e; cases e; exact h2 rfl)] at hk
      have h3 := h.k.fa b (gB_mem hb) (by rw [h1]; intro e; cases e) hk
      rw [hia] at h3
      simp only [onb] at h3
      rw [hnl] at h3; cases h3)
  unfold Oper.wp execOp
  simp only [ho, Sem.run_bind, hz, Sem.run_pure, Result.andThen_ok]
  rw [← hds] at hks
  exact hK _ _ hks (RI.of_below (below_new _ _)) (by
    rw [hV]
    intro e
    cases e
    omega)
theorem k_storeN_ {i t s m gp : Nat} {o : Oper} {T' : TypeId} {b : Bd} [hB : SbB BT B] (ho : o.op = .store T' (.tmp t) (.tmp s)) (hds : o.dst = none) (hb : gB B (iB B t) = some b) (hbt : b.t = t) (hT : b.T = T') (hik : b.ik = some i) [ha : Ag b.P m] [hs : SzT T' m] (hm : b.m = m) (hV : GV Vl i = VT)
    (hq : quietB (B.take (iB B t) ++ B.drop (iB B t + 1)) i none = true) (hts : (B.take (iB B t) ++ B.drop (iB B t + 1)).all (fun c => c.t != t) = true) (hia : (b.ia != some i) = true) (hBT : BT.any (fun e => e.1 == T' && e.2.1 == b.m && e.2.2 == 0) = true) (hNP : ∀ e ∈ BT, e.1 = T' → e.2.1 = 0 → e.2.2 = gp) (hne : KnS md ops Vl SL o t (VNe gp)) (hon : b.ia = none ∨ ∃ j, b.ia = some j ∧ o.after.any (fun e => e.on == j && Region.binds md e) = true) (hx : KnS md ops Vl SL o s b.P) (hg : GOk md ops Vl o) : KStep BT Tryz.prog md ops Q a0 (GV Vl) n0 w0 B SL i o := by
  subst hbt hT hm
  intro listed a w h hd _ hil _ K hK
  rw [if_pos (wanted_of (hg.get h hd))]
  obtain ⟨v, hv, hVv⟩ := hx.get h hd
  obtain ⟨z, hy, hzs, hni, h1, hP⟩ := agg_store ha.out hv hVv
  have hon' : onb listed b.ia = true := by
    rcases hon with h1 | ⟨j, h1, h2⟩
    · rw [h1]; rfl
    · rw [h1]; exact listed_dep hd j h2
  obtain ⟨vt, hvt, hVt⟩ := hne.get h hd
  obtain ⟨g, old, e1, e2, e3, hr, hks⟩ := h.k.store (v := undef) (gB_split hb) hq hon' (by simpa using hia) hik hil (fun g' hg' => by
    refine ⟨?_, fun e he q1 q2 q3 => ?_⟩
    · rw [List.any_eq_true] at hBT
      obtain ⟨e, he, h1⟩ := hBT
      simp only [Bool.and_eq_true, beq_iff_eq] at h1
      exact ⟨e, he, h1.1.1, h1.1.2, .inl h1.2⟩
    · have := hNP e he q1 q2
      refine hVt ?_
      rw [← hvt, ← this, q3]
      simp [Act.eval, Array.getD_eq_getD_getElem?, hg']) hB.out z hzs hni hP (fun c hc => by
    rw [List.all_eq_true] at hts
    simpa using hts c hc)
  refine wp_store_row b.T (.tmp b.t) (.tmp s) ho g z (by simp [Act.eval, Array.getD_eq_getD_getElem?, e1]) hy b.T old e2 (by rw [hs.size, hzs]) e3 h1 ?_
  rw [hds] at hK ⊢
  exact hK _ _ hks hr (by rw [hV]; trivial)
section
variable {N : Nat} {L : List Bd} {a : Act} {w : World}
theorem St.lt1 (h : St n0 w0 N L SL a w) (t : Nat) {b : Bd} (hb : gB L (iB L t) = some b) (hbt : b.t = t) (hia : b.ia = none) : St n0 w0 N L ((t, VLt w.heap.size) :: SL) a w := by
  subst hbt
  obtain ⟨g, cs, f1, f2, f3, -⟩ := h.k.ok b (gB_mem hb) (by rw [hia]; rfl)
  exact ⟨h.k, h.n, h.size, h.defers, List.forall_mem_cons.2 ⟨⟨_, f1, Nat.le_refl _, fun g' e => by cases e; exact lt_blk f3⟩, h.sl⟩⟩
theorem St.nameR (h : St n0 w0 N L SL a w) (s : Nat) (hm : lS SL s = some (VRx T k E lo xs)) : ∃ g c, lo ≤ g ∧ 0 < c ∧ St n0 w0 N L ((s, VRg T k E g c xs) :: SL) a w := by
  obtain ⟨v, e1, g, c, h1, h2, h3⟩ := h.sl _ (lS_mem hm)
  exact ⟨g, c, h1, h2, h.k, h.n, h.size, h.defers, List.forall_mem_cons.2 ⟨⟨v, e1, h3⟩, h.sl⟩⟩
theorem St.neR (h : St n0 w0 N L SL a w) (t : Nat) (hm : lS SL t = some (VLt lo)) (hg : lo ≤ g) : St n0 w0 N L ((t, VNe g) :: SL) a w := by
  obtain ⟨v, e1, -, h2⟩ := h.sl _ (lS_mem hm)
  exact ⟨h.k, h.n, h.size, h.defers, List.forall_mem_cons.2 ⟨⟨v, e1, fun e => by have := h2 g e; omega⟩, h.sl⟩⟩
theorem St.nilR (h : St n0 w0 N L SL a w) (s t : Nat) {b : Bd} (hm : lS SL s = some (VEq (.slice none 0 0))) (hb : gB L (iB L t) = some b) (hbt : b.t = t) (hia : b.ia = none) (T : TypeId) (k : Nat) (E : α → VP) : ∃ g, n0 ≤ g ∧ a.tmps[t]? = some (.pointer (some ⟨g, 0, none⟩)) ∧ St n0 w0 N L ((s, VRg T k E g 0 []) :: SL) a w := by
  subst hbt
  obtain ⟨g, cs, f1, f2, f3, -⟩ := h.k.ok b (gB_mem hb) (by rw [hia]; rfl)
  obtain ⟨v, e1, e2⟩ := h.sl _ (lS_mem hm)
  obtain rfl : v = _ := e2
  exact ⟨g, f2, f1, h.k, h.n, h.size, h.defers, List.forall_mem_cons.2 ⟨⟨_, e1, Nat.le_refl _, by omega, lt_blk f3, .inl ⟨rfl, rfl⟩⟩, h.sl⟩⟩
theorem St.neB (h : St n0 w0 N L SL a w) (t t' : Nat) {b b' : Bd} (hg : a.tmps[t]? = some (.pointer (some ⟨g, 0, none⟩))) (hb : gB L (iB L t) = some b) (hbt : b.t = t) (hia : b.ia = none) (hb' : gB L (iB L t') = some b') (hbt' : b'.t = t') (hia' : b'.ia = none) (hne : t' ≠ t) : St n0 w0 N L ((t', VNe g) :: SL) a w := by
  subst hbt hbt'
  obtain ⟨g', cs, f1, -⟩ := h.k.ok b' (gB_mem hb') (by rw [hia']; rfl)
  have := h.k.ne b' (gB_mem hb') b (gB_mem hb) hne (by rw [hia']; rfl) (by rw [hia]; rfl)
  rw [hg, f1] at this
  exact ⟨h.k, h.n, h.size, h.defers, List.forall_mem_cons.2 ⟨⟨_, f1, fun e => this (by rw [e])⟩, h.sl⟩⟩
end
end
end Go.Proofs.YtleijkgdpmfabaaGreatDoor
