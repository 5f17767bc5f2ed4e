/- Contracts of the package integer and its reference: integer.decimal. integer.Parse, of what is no text of an integer. integer.root, Root. integer.above, root. integer.Compare, Sign. integer.Root. The reference: plus, minus. The reference: Of. -/
import Derived.Test.YtleijkgdpmfabaaGreatDoorW7
import Derived.Test.YtleijkgdpmfabaaGreatDoorW6
import Derived.Laws.ResultCell
import Derived.Test.YtleijkgdpmfabaaGreatDoorW5
set_option linter.unusedVariables false
namespace Go.Proofs.YtleijkgdpmfabaaGreatDoor
open Go.RowKit
def dgt (c : UInt8) : Bool := 48 ≤ c && c ≤ 57
def decB (l : List UInt8) : Bool := l.all dgt && (l == [48] || (l != [] && l.head? != some 48))
def DcP (s : ByteArray) (w : World) (e : Ending) (w' : World) : Prop := e = .returned (.bool (decB s.data.toList)) ∧ w = w'
theorem dgt_lt {c : UInt8} (h : (c.toNat : Int) < 48) : dgt c = false := by
  unfold dgt
  have : ¬ (48 ≤ c) := by rw [UInt8.le_iff_toNat_le]; show ¬ 48 ≤ c.toNat; omega
  simp [this]
theorem dgt_gt {c : UInt8} (h : 57 < (c.toNat : Int)) : dgt c = false := by
  unfold dgt
  have : ¬ (c ≤ 57) := by rw [UInt8.le_iff_toNat_le]; show ¬ c.toNat ≤ 57; omega
  simp [this]
theorem dgt_in {c : UInt8} (h1 : ¬ (c.toNat : Int) < 48) (h2 : ¬ 57 < (c.toNat : Int)) : dgt c = true := by
  unfold dgt
  have a1 : 48 ≤ c := by rw [UInt8.le_iff_toNat_le]; show 48 ≤ c.toNat; omega
  have a2 : c ≤ 57 := by rw [UInt8.le_iff_toNat_le]; show c.toNat ≤ 57; omega
  simp [a1, a2]
theorem decB_no {l : List UInt8} (k : Nat) (hk : k < l.length) (h : dgt l[k] = false) : decB l = false := by
  unfold decB
  have : l.all dgt = false := by
    rw [List.all_eq_false]
    exact ⟨l[k], List.getElem_mem hk, by rw [h]; simp⟩
  rw [this]; rfl
theorem decB_yes {l : List UInt8} (h : ∀ k (hk : k < l.length), dgt l[k] = true) : decB l = (l == [48] || (l != [] && l.head? != some 48)) := by
  unfold decB
  have : l.all dgt = true := by
    rw [List.all_eq_true]
    intro x hx
    obtain ⟨k, hk, rfl⟩ := List.getElem_of_mem hx
    exact h k hk
  rw [this]; rfl
theorem byteArray_toList (s : ByteArray) : s.toList = s.data.toList := ByteArray.toList_eq s
set_option maxRecDepth 100000 in
set_option maxHeartbeats 800000 in
theorem decimal_any (s : ByteArray) (w : World) (hs : s.size ≤ maxLen) :
    Calls Tryz.prog 131 #[.string s] w (DcP s w) := by
  unfold maxLen at hs
  go_enter Tryz.func131, Tryz.ntmps131
  go_wp2
  go_loop [6] (fun i => ∃ k : Nat, k ≤ s.size ∧ i = .int .i64 k ∧ Hid (∀ j (hj : j < s.data.toList.length), j < k → dgt s.data.toList[j] = true)) (fun i => s.size - (intOf i).toNat)
  case atStart => exact ⟨0, Nat.zero_le _, rfl, Lib.hid (fun j _ hj => by omega)⟩
  case round =>
    obtain ⟨k, hk, rfl, hall⟩ := hrel
    by_cases hlt : k < s.size
    · have hkl : Hid (k < s.data.toList.length) := Lib.hid (by simpa using hlt)
      have hx : Hid (s.data.toList[k]'hkl.out = s[k]) := Lib.hid rfl
      by_cases h1 : (s[k].toNat : Int) < 48
      · have hr : Hid (decB s.data.toList = false) := Lib.hid (decB_no k hkl.out (by rw [hx.out]; exact dgt_lt h1))
        go_wp2
        go_ret
        exact ⟨by rw [hr.out]; rfl, rfl⟩
      · by_cases h2 : 57 < (s[k].toNat : Int)
        · have hr : Hid (decB s.data.toList = false) := Lib.hid (decB_no k hkl.out (by rw [hx.out]; exact dgt_gt h2))
          go_wp2
          go_ret
          exact ⟨by rw [hr.out]; rfl, rfl⟩
        · have hall2 : Hid (∀ j (hj : j < s.data.toList.length), j < k + 1 → dgt s.data.toList[j] = true) := Lib.hid (fun j hj h3 => by
            rcases Nat.lt_or_ge j k with h4 | h4
            · exact hall.out j hj h4
            · obtain rfl : j = k := by omega
              rw [hx.out]; exact dgt_in h1 h2)
          go_wp2
          exact ⟨⟨k + 1, by omega, by simp, hall2⟩, by simp [intOf]; omega⟩
    · have hk' : k = s.size := by omega
      have hr : Hid (decB s.data.toList = (s.data.toList == [48] || (s.data.toList != [] && s.data.toList.head? != some 48))) := Lib.hid (decB_yes fun j hj => hall.out j hj (by rw [hk']; simpa using hj))
      have hTL : s.toList = s.data.toList := byteArray_toList s
      rcases hcase : s.data.toList with _ | ⟨c, rest⟩
      · rw [hcase] at hr hTL
        have g1 : (s.toList == [48]) = false := by rw [hTL]; rfl
        have g2 : s.toList.isEmpty = true := by rw [hTL]; rfl
        have hr' : Hid (decB s.data.toList = false) := Lib.hid (by rw [hcase]; have := hr.out; rw [this]; rfl)
        clear hr hTL hcase hall
        go_wp2
        go_ret
        exact ⟨by rw [hr'.out]; rfl, rfl⟩
      · have hsz : 0 < s.size := by have : s.data.toList.length = s.size := by simp
                                    rw [hcase] at this; simp at this; omega
        have hs0 : Hid (s[0] = c) := Lib.hid (by
          have h1 : s.data.toList[0]'(by rw [hcase]; simp) = s[0] := rfl
          rw [← h1]; simp [hcase])
        rw [hcase] at hr hTL
        by_cases hA : c = 48 ∧ rest = []
        · have g1 : (s.toList == [48]) = true := by rw [hTL, hA.1, hA.2]; rfl
          have hr' : Hid (decB s.data.toList = true) := Lib.hid (by rw [hcase]; have := hr.out; rw [this, hA.1, hA.2]; rfl)
          clear hr hTL hcase hall hs0 hA
          go_wp2
          go_ret
          exact ⟨by rw [hr'.out]; rfl, rfl⟩
        · have g1 : (s.toList == [48]) = false := by
            rw [hTL]
            simp only [beq_eq_false_iff_ne, ne_eq, List.cons.injEq]
            exact hA
          have g2 : s.toList.isEmpty = false := by rw [hTL]; rfl
          have hr' : Hid (decB s.data.toList = ((s[0].toNat : Int) != 48)) := Lib.hid (by
            rw [hcase, hr.out, hs0.out]
            have g3 : ((c :: rest) == [48]) = false := by rw [← hTL]; exact g1
            rw [g3]
            by_cases hc : c = 48
            · subst hc; simp
            · have h2 : ¬ c.toNat = 48 := fun e => hc (by rw [← UInt8.toNat_inj]; exact e)
              have h3 : ((c.toNat : Int) != 48) = true := by simp; omega
              rw [h3]; simp [hc])
          clear hr hTL hcase hall hs0 hA
          go_wp2
          go_ret
          exact ⟨by rw [hr'.out]; rfl, rfl⟩
open Go.RowKit
theorem results_cell1 {P : Program} {fn : Func} {p q : Tmp} {ty : TypeId} (h : fn.results = #[.cell p ty, .tmp q]) (tmps : Array Value) (w : World) (g : Nat) (t : TypeId) (cs : Array Value) (fr : Nat × Nat) (d : TypeDesc) (v : Value)
    (hp : tmps.getD p undef = .pointer (some ⟨g, 0, none⟩)) (hv : tmps.getD q undef = v) (hg : w.heap[g]? = some (.cells cs t fr))
    (hu : P.underlying ty = some d) (hd : (match d with | .struct _ | .array _ _ => true | _ => false) = true) (hi : (P.info? ty).map (·.size) = some cs.size) :
    (results fn tmps).run P w = .ok (.tuple #[.agg cs, v]) w := by
  rw [results_cell_tmp h, hp, hv]
  simp [asAddr, run_loadVar_row w g t ty cs fr d hg hu hd hi, Result.andThen]
open Go.RowKit
theorem wpList_append_run {P : Program} {w : World} {ops : Array Oper} {rest : List Oper} {o : Oper} {a : Act} {Q : Exit → Act → World → Prop} (hgd : o.guard = none) (s x : Operand) (t u : TypeId)
    (ho : o.op = .call { callee := .builtin .append, args := #[s, x], argTypes := #[t, u] }) (vs vx : Value) (hs : a.eval s = vs) (hx : a.eval x = vx) (v' : Value) (w' : World) (hrun : (Builtin.append_ #[t, u] o.type #[vs, vx]).run P w = .ok v' w') (h : wpList P ops Q rest (a.put o.dst v') w') : wpList P ops Q (o :: rest) a w := by
  refine wpList_plain hgd fun K hK => ?_
  unfold Oper.wp execOp
  simp only [ho, resolve, invoke, builtin, Sem.run_bind, Sem.run_pure, Result.andThen_ok, List.map_toArray, List.map_cons, List.map_nil, hs, hx, hrun]
  exact hK _ _ h
open Go.RowKit
open Go.RowKit
theorem cmp_abs_neg {x y : Int} (hx : x < 0) (hy : y < 0) : cmpI y.natAbs x.natAbs = cmpI x y := by
  unfold cmpI
  rw [show (y.natAbs : Int) = -y by omega, show (x.natAbs : Int) = -x by omega]
  repeat (first | split | omega)
theorem cmp_abs_pos {x y : Int} (hx : ¬ x < 0) (hy : ¬ y < 0) : cmpI x.natAbs y.natAbs = cmpI x y := by
  rw [show (x.natAbs : Int) = x by omega, show (y.natAbs : Int) = y by omega]
set_option maxRecDepth 100000 in
set_option maxHeartbeats 1600000 in
theorem Compare_any (nx ny : Bool) (px py : Option Addr) (lx cx ly cy : Nat) (x y : Int) (w : World) (hx0 : IntAt w nx px lx cx x) (hy0 : IntAt w ny py ly cy y) (hlx : lx ≤ 549755813887) (hly : ly ≤ 549755813887) :
    Calls Tryz.prog 92 #[.agg #[.bool nx, .slice px lx cx], .agg #[.bool ny, .slice py ly cy]] w fun e w' => e = .returned (.int .i64 (cmpI x y)) ∧ Below w.heap.size w w' := by
  have hb : Below w.heap.size w ((w.alloc (.cells #[.bool nx, .slice px lx cx] 24)).alloc (.cells #[.bool ny, .slice py ly cy] 24)) := ((Below.refl _ _).alloc (Nat.le_refl _) _).alloc (by simp) _
  have hb' := Lib.hid hb
  have h1 : Hid (∀ W, Below w.heap.size w W → Calls Tryz.prog 114 #[.slice px lx cx, .slice py ly cy] W fun e w' => e = .returned (.int .i64 (cmpI x.natAbs y.natAbs)) ∧ Below W.heap.size W w') :=
    Lib.hid fun W h => compare_any _ _ _ _ _ _ _ _ W (Rdi_below h hx0.2.2.1) (Rdi_below h hy0.2.2.1) hx0.2.1 hy0.2.1 (by omega) (by omega)
  have h2 : Hid (∀ W, Below w.heap.size w W → Calls Tryz.prog 114 #[.slice py ly cy, .slice px lx cx] W fun e w' => e = .returned (.int .i64 (cmpI y.natAbs x.natAbs)) ∧ Below W.heap.size W w') :=
    Lib.hid fun W h => compare_any _ _ _ _ _ _ _ _ W (Rdi_below h hy0.2.2.1) (Rdi_below h hx0.2.2.1) hy0.2.1 hx0.2.1 (by omega) (by omega)
  have hnx := hx0.1
  have hny := hy0.1
  obtain ⟨r, hr⟩ : ∃ r, cmpI x y = r := ⟨_, rfl⟩
  rw [hr]
  clear hx0 hy0 hb
  cases nx <;> cases ny
  · have e1 : ¬ x < 0 := by simpa using hnx.symm
    have e2 : ¬ y < 0 := by simpa using hny.symm
    rw [cmp_abs_pos e1 e2, hr] at h1
    clear hnx hny hr h2
    go_enter Tryz.func92, Tryz.ntmps92
    go_wp2_with (go_at_call 114; refine (h1.out _ hb'.out).mono ?_; rintro e w1 ⟨rfl, hb1⟩; have hB := Lib.hid (below_tr hb'.out hb1); clear hb1)
    go_ret
    exact ⟨rfl, hB.out⟩
  · have e1 : ¬ x < 0 := by simpa using hnx.symm
    have e2 : y < 0 := by simpa using hny.symm
    rw [cmp_gt (show y < x by omega)] at hr
    subst hr
    clear hnx hny h1 h2 e1 e2
    go_enter Tryz.func92, Tryz.ntmps92
    go_wp2_with fail
    go_ret
    exact ⟨rfl, hb'.out⟩
  · have e1 : x < 0 := by simpa using hnx.symm
    have e2 : ¬ y < 0 := by simpa using hny.symm
    rw [cmp_lt (show x < y by omega)] at hr
    subst hr
    clear hnx hny h1 h2 e1 e2
    go_enter Tryz.func92, Tryz.ntmps92
    go_wp2_with fail
    go_ret
    exact ⟨rfl, hb'.out⟩
  · have e1 : x < 0 := by simpa using hnx.symm
    have e2 : y < 0 := by simpa using hny.symm
    rw [cmp_abs_neg e1 e2, hr] at h2
    clear hnx hny hr h1
    go_enter Tryz.func92, Tryz.ntmps92
    go_wp2_with (go_at_call 114; refine (h2.out _ hb'.out).mono ?_; rintro e w1 ⟨rfl, hb1⟩; have hB := Lib.hid (below_tr hb'.out hb1); clear hb1)
    go_ret
    exact ⟨rfl, hB.out⟩
set_option maxRecDepth 100000 in
set_option maxHeartbeats 800000 in
theorem Sign_any (nx : Bool) (px : Option Addr) (lx cx : Nat) (x : Int) (w : World) (hx0 : IntAt w nx px lx cx x) (hlx : lx ≤ 549755813887) :
    Calls Tryz.prog 78 #[.agg #[.bool nx, .slice px lx cx]] w fun e w' => e = .returned (.int .i64 (cmpI x 0)) ∧ Below w.heap.size w w' := by
  have hc : Hid (∀ W, Below w.heap.size w W → Calls Tryz.prog 92 #[.agg #[.bool nx, .slice px lx cx], .agg #[.bool false, .slice none 0 0]] W fun e w' => e = .returned (.int .i64 (cmpI x 0)) ∧ Below W.heap.size W w') :=
    Lib.hid fun W h => Compare_any _ _ _ _ _ _ _ _ x 0 W (hx0.later h) (IntAt_zero _ _ _ (by omega)) hlx (by omega)
  obtain ⟨r, hr⟩ : ∃ r, cmpI x 0 = r := ⟨_, rfl⟩
  rw [hr] at hc ⊢
  clear hx0 hr
  go_enter Tryz.func78, Tryz.ntmps78
  go_wp2_with (go_at_call 92; refine (hc.out _ (below_new _ _)).mono ?_; rintro e w1 ⟨rfl, hb1⟩; have hB := Lib.hid (below_tr (below_new _ _) hb1); clear hb1)
  go_ret
  exact ⟨rfl, hB.out⟩
open Go.RowKit
def Rt5 (w : World) (nx : Bool) (px : Option Addr) (lx cx : Nat) (g : Nat) (nb : Bool) (p : Option Addr) (n c : Nat) (r : Int) (W : World) : Prop :=
  W.heap[w.heap.size]? = some (.cells #[.bool nx, .slice px lx cx] 24 (0, 0)) ∧ (∃ u v, W.heap[w.heap.size + 1]? = some (.cells #[u, v] 24 (0, 0))) ∧ W.heap[g]? = some (.cells #[.bool nb, .slice p n c] 24 (0, 0)) ∧
  w.heap.size + 1 < g ∧ IntAt W nb p n c r ∧ (∀ q, p = some q → w.heap.size + 1 < q.block) ∧ Below w.heap.size w W
section
variable {w W w' : World} {nx : Bool} {px : Option Addr} {lx cx g : Nat} {nb : Bool} {p : Option Addr} {n c : Nat} {r : Int}
theorem Rt5.facts (h : Rt5 w nx px lx cx g nb p n c r W) : W.cell? ⟨w.heap.size, 0, none⟩ = some (.bool nx) ∧ W.cell? ⟨w.heap.size, 1, none⟩ = some (.slice px lx cx) ∧
    W.cell? ⟨w.heap.size + 1, 0, none⟩ = some (oldv W (w.heap.size + 1) 0) ∧ W.cell? ⟨w.heap.size + 1, 1, none⟩ = some (oldv W (w.heap.size + 1) 1) ∧ W.frozen? ⟨w.heap.size + 1, 0, none⟩ = false ∧ W.frozen? ⟨w.heap.size + 1, 1, none⟩ = false ∧
    W.cell? ⟨g, 0, none⟩ = some (.bool nb) ∧ W.cell? ⟨g, 1, none⟩ = some (.slice p n c) := by
  obtain ⟨h1, ⟨u, v, h3⟩, h4, _⟩ := h
  refine ⟨by simp [World.cell?, h1], by simp [World.cell?, h1], by simp [oldv, World.cell?, h3], by simp [oldv, World.cell?, h3], by simp [World.frozen?, h3], by simp [World.frozen?, h3], by simp [World.cell?, h4], by simp [World.cell?, h4]⟩
theorem Rt5.later (h : Rt5 w nx px lx cx g nb p n c r W) (hb : Below W.heap.size W w') : Rt5 w nx px lx cx g nb p n c r w' := by
  obtain ⟨h1, ⟨u, v, h3⟩, h4, h5, h6, h7, h8⟩ := h
  exact ⟨(hb.block _ (lt_blk h1)).trans h1, ⟨u, v, (hb.block _ (lt_blk h3)).trans h3⟩, (hb.block _ (lt_blk h4)).trans h4, h5, h6.later hb, h7, below_tr h8 hb⟩
theorem Rt5.drew (h : Rt5 w nx px lx cx g nb p n c r W) : Rt5 w nx px lx cx g nb p n c r W.drew := h.later ((Below.refl _ W).drew)
theorem Rt5.res (h : Rt5 w nx px lx cx g nb p n c r W) (a b : Value) : ((W.setCell ⟨w.heap.size + 1, 0, none⟩ a).setCell ⟨w.heap.size + 1, 1, none⟩ b).heap[w.heap.size + 1]? = some (.cells #[a, b] 24 (0, 0)) := by
  obtain ⟨h1, ⟨u, v, h3⟩, _⟩ := h
  rw [heap_setCell_self _ _ _ _ _ _ (heap_setCell_self _ _ _ _ _ _ h3)]; rfl
theorem Rt5.store (h : Rt5 w nx px lx cx g nb p n c r W) (a b : Value) : Rt5 w nx px lx cx g nb p n c r ((W.setCell ⟨w.heap.size + 1, 0, none⟩ a).setCell ⟨w.heap.size + 1, 1, none⟩ b) := by
  have hr := h.res a b
  obtain ⟨h1, ⟨u, v, h3⟩, h4, h5, h6, h7, h8⟩ := h
  have hne : ∀ q, p = some q → q.block ≠ w.heap.size + 1 := fun q hq => by have := h7 q hq; omega
  refine ⟨?_, ⟨a, b, hr⟩, ?_, h5, (h6.store hne).store hne, h7, (h8.setCell (by simp) _).setCell (by simp) _⟩
  · rw [heap_setCell_other _ _ _ _ (by simp), heap_setCell_other _ _ _ _ (by simp)]; exact h1
  · rw [heap_setCell_other _ _ _ _ (by simp; omega), heap_setCell_other _ _ _ _ (by simp; omega)]; exact h4
end
theorem rt_len' {r : List Int} (hd : Dg r) : (digs (val r).natAbs).length ≤ r.length := by
  have h := tlen_len hd
  have h1 := hd.lo
  rw [show (val r).natAbs = (val r).toNat by omega, h]
  exact tlen_le r
open Go.RowKit
def GrowI (w : World) (v : Value) (l : List Int) (wr : World) : Prop := wr.ownsRow w.heap.size 3 1 v l.length (zvs l) ∧ Below w.heap.size w wr
theorem GrowI.push {w wr w' : World} {v v' : Value} {l : List Int} {x : Int} {o : Obj} (h : GrowI w v l wr) (ho : w'.ownsRow w.heap.size 3 1 v' (l.length + 1) (zvs l ++ [.int .i64 x])) (hg : (wr.alloc o).grownBy w' v.ownBlock) : GrowI w v' (l ++ [x]) w' := by
  refine ⟨?_, ((h.2.alloc h.2.size _).grown hg (Nat.le_trans h.2.size (by simp)) fun k hk => (h.1.lt k hk).1)⟩
  rw [List.length_append]
  have : zvs (l ++ [x]) = zvs l ++ [.int .i64 x] := by simp [zvs]
  rw [this]; exact ho
theorem GrowI.start (w : World) : GrowI w (.slice none 0 0) [] w := ⟨World.ownsRow_nil _ _ _ _, Below.refl _ _⟩
theorem GrowI.drewN {w wr : World} {v : Value} {l : List Int} (h : GrowI w v l wr) (q : Nat) : GrowI w v l (wr.drewN q) := ⟨h.1, below_drewN h.2 q⟩
def NewS (w : World) (P : List Int → Prop) (e : Ending) (w' : World) : Prop :=
  ∃ p n c z, e = .returned (.slice p n c) ∧ Rdi w' p z ∧ z.length = n ∧ n ≤ c ∧ c ≤ 9223372036854775807 ∧ (∀ q, p = some q → w.heap.size ≤ q.block) ∧ Below w.heap.size w w' ∧ P z
theorem own_cellsI {w : World} {base : Nat} {v : Value} {n : Nat} {xs : List Value} (h : w.ownsRow base 3 1 v n xs) : xs = [] ∧ v = .slice none 0 0 ∧ n = 0 ∨ ∃ g c, v = .slice (some ⟨g, 0, none⟩) n c ∧ n ≤ c ∧ c ≤ maxLen ∧ base ≤ g ∧ ∀ i u, xs[i]? = some u → w.cell? ⟨g, i, none⟩ = some u := by
  rcases h.2 with ⟨rfl, rfl⟩ | ⟨g, cap, cur, rfl, hg, hh, hc, hm, hs, ht⟩
  · left
    exact ⟨List.eq_nil_of_length_eq_zero (by rw [h.1]), rfl, rfl⟩
  · right
    refine ⟨g, cap, rfl, hc, hm, hg, fun i u hu => ?_⟩
    have := h.cells (g := g) rfl i u hu
    have ha : (⟨g, 0, none⟩ : Addr).add i = ⟨g, i, none⟩ := by unfold Addr.add; split <;> simp_all
    rwa [ha] at this
theorem GrowI.done {w wr : World} {v : Value} {l : List Int} {P : List Int → Prop} (h : GrowI w v l wr) (hP : P l) : NewS w P (.returned v) wr := by
  rcases own_cellsI h.1 with ⟨h1, rfl, h3⟩ | ⟨g, c, rfl, hc, hm, hg, hcell⟩
  · have : l = [] := List.eq_nil_of_length_eq_zero h3
    subst this
    exact ⟨none, 0, 0, [], rfl, .inl rfl, rfl, Nat.le_refl _, by omega, (fun q hq => by cases hq), h.2, hP⟩
  · refine ⟨_, _, c, l, rfl, .inr ⟨g, 0, rfl, fun i hi => ?_⟩, rfl, hc, by unfold maxLen at hm; omega, (fun q hq => by cases hq; exact hg), h.2, hP⟩
    rw [Nat.zero_add]
    apply hcell
    simp [zvs, iat, hi]
theorem val_take' (l : List Int) (k : Nat) : val (l.take (k + 1)) = val (l.take k) + pw k * iat l k := by
  rcases Nat.lt_or_ge k l.length with h | h
  · exact val_take l k h
  · rw [List.take_of_length_le (by omega), List.take_of_length_le h, iat_ge h]; simp
structure PlusI (l m : List Int) (k : Nat) (carry : Int) (z : List Int) : Prop where
  len : z.length = k
  dg : Dg z
  sum : val z + pw k * carry = val (l.take k) + val (m.take k)
  lo : 0 ≤ carry
  hi : carry ≤ 1
  top : k ≤ max l.length m.length + 1
  end_ : k = max l.length m.length + 1 → carry = 0
theorem PlusI.start (l m : List Int) : PlusI l m 0 0 [] := ⟨rfl, Dg_nil, by simp [val], by omega, by omega, by omega, fun _ => rfl⟩
theorem PlusI.next {l m z : List Int} {k : Nat} {c : Int} (h : PlusI l m k c z) (hl : Dg l) (hm : Dg m) (hk : k < l.length ∨ k < m.length ∨ 0 < c) : PlusI l m (k + 1) ((iat l k + iat m k + c) / 1000000000) (z ++ [(iat l k + iat m k + c) % 1000000000]) := by
  have h1 := hl.all k
  have h2 := hm.all k
  have h3 := h.lo
  have h4 := h.hi
  have hs := h.sum
  have hlen := h.len
  refine ⟨by rw [List.length_append, hlen]; rfl, Dg_append h.dg (Dg_cons (by omega) (by omega) Dg_nil), ?_, by omega, by omega, ?_, fun he => ?_⟩
  · rw [val_append, hlen, val_take', val_take']
    show val z + pw k * ((iat l k + iat m k + c) % 1000000000 + 1000000000 * 0) + 1000000000 * pw k * ((iat l k + iat m k + c) / 1000000000) = _
    have e := Int.mul_ediv_add_emod (iat l k + iat m k + c) 1000000000
    grind
  · rcases hk with h5 | h5 | h5
    · omega
    · omega
    · have := h.top
      rcases Nat.lt_or_ge k (max l.length m.length + 1) with h6 | h6
      · omega
      · have := h.end_ (by omega); omega
  · have e1 : iat l k = 0 := iat_ge (by omega)
    have e2 : iat m k = 0 := iat_ge (by omega)
    rw [e1, e2]; omega
theorem PlusI.done {l m z : List Int} {k : Nat} (h : PlusI l m k 0 z) (h1 : l.length ≤ k) (h2 : m.length ≤ k) : SumP l m z := by
  have hs := h.sum
  rw [List.take_of_length_le h1, List.take_of_length_le h2] at hs
  exact ⟨h.dg, by simpa using hs, by rw [h.len]; exact h.top⟩
def PlusL (w : World) (l m : List Int) (k : Nat) (c : Int) (v : Value) (wr : World) : Prop := ∃ z, PlusI l m k c z ∧ GrowI w v z wr
set_option maxRecDepth 100000 in
set_option maxHeartbeats 1600000 in
theorem plus_any (a1 a2 : Option Addr) (n1 c1 n2 c2 : Nat) (l m : List Int) (w : World) (hR1 : Rdi w a1 l) (hR2 : Rdi w a2 m) (hn1 : n1 = l.length) (hn2 : n2 = m.length) (hd1 : Dg l) (hd2 : Dg m) (hm1 : n1 ≤ 1099511627775) (hm2 : n2 ≤ 1099511627775) :
    Calls Tryz.prog 110 #[.slice a1 n1 c1, .slice a2 n2 c2] w (NewS w (SumP l m)) := by
  obtain ⟨i0, hi, hz0, hz1, hz2⟩ := info_parts info_i64
  have H1 := Lib.hid hR1
  have H2 := Lib.hid hR2
  have N1 := Lib.hid hn1
  have N2 := Lib.hid hn2
  have D1 := Lib.hid hd1
  have D2 := Lib.hid hd2
  have hI : Hid (PlusL w l m 0 0 (.slice none 0 0) w) := Lib.hid ⟨[], PlusI.start l m, GrowI.start w⟩
  clear hR1 hR2 hn1 hn2 hd1 hd2
  go_enter Tryz.func110, Tryz.ntmps110
  go_wp2_with fail
  go_loopw [5, 6, 7] (fun v cv iv wr => ∃ (k : Nat) (c : Int), k ≤ max n1 n2 + 1 ∧ iv = .int .i64 (k : Int) ∧ cv = .int .i64 c ∧ PlusL w l m k c v wr) (fun _ _ iv _ => max n1 n2 + 2 - (intOf iv).toNat)
  case atStart => exact ⟨0, 0, by omega, rfl, rfl, hI.out⟩
  case round =>
    obtain ⟨k, c, hk, rfl, rfl, z, hP, hG⟩ := hrel
    clear hI
    have hB := hG.2
    have g1 : Hid (Calls Tryz.prog 137 #[.slice a1 n1 c1, .int .i64 (k : Int)] wr fun e w' => e = .returned (.int .i64 (iat l k)) ∧ wr = w') := Lib.hid (digit_any _ _ _ _ _ wr (Rdi_below hB H1.out) N1.out)
    have g2 : Hid (Calls Tryz.prog 137 #[.slice a2 n2 c2, .int .i64 (k : Int)] wr fun e w' => e = .returned (.int .i64 (iat m k)) ∧ wr = w') := Lib.hid (digit_any _ _ _ _ _ wr (Rdi_below hB H2.out) N2.out)
    have hx := D1.out.all k
    have hy := D2.out.all k
    have hc0 := hP.lo
    have hc1 := hP.hi
    have hzl : Hid (z.length = k) := Lib.hid hP.len
    have hnx := Lib.hid (fun h => hP.next D1.out D2.out h)
    have hfin : Hid (n1 ≤ k → n2 ≤ k → c = 0 → SumP l m z) := Lib.hid fun h1 h2 h3 => by subst h3; exact hP.done (by rw [← N1.out]; exact h1) (by rw [← N2.out]; exact h2)
    obtain ⟨x, hxx⟩ : ∃ x, iat l k = x := ⟨_, rfl⟩
    obtain ⟨y, hyy⟩ : ∃ y, iat m k = y := ⟨_, rfl⟩
    rw [hxx] at g1 hx hnx
    rw [hyy] at g2 hy hnx
    have hG' := Lib.hid hG
    have hnext : Hid ((k < n1 ∨ k < n2 ∨ 0 < c) → k + 1 ≤ max n1 n2 + 1 ∧ ∀ v w', GrowI w v (z ++ [(x + y + c) % 1000000000]) w' → PlusL w l m (k + 1) ((x + y + c) / 1000000000) v w') := Lib.hid fun h => by
      have h' := hnx.out (by rw [← N1.out, ← N2.out]; exact h)
      exact ⟨by have := h'.top; rw [N1.out, N2.out]; exact this, fun v w' h2 => ⟨_, h', h2⟩⟩
    obtain ⟨hx1, hx2⟩ := hx
    obtain ⟨hy1, hy2⟩ := hy
    have hs0 : 0 ≤ x + y := by omega
    have hs1 : 0 ≤ x + y + c := by omega
    have hs2 : x + y + c < 2000000000 := by omega
    have hsz := hB.size
    have k0 : 0 ≤ (k : Int) := by omega
    clear hP hG hB hnx hxx hyy
    by_cases hgo : k < n1 ∨ k < n2 ∨ 0 < c
    · obtain ⟨hn1', hn2'⟩ := hnext.out hgo
      have hn2'' := Lib.hid hn2'
      have hn1'' := Lib.hid hn1'
      clear hn1' hn2' hnext hfin
      have hcond : k < n1 ∨ (¬ k < n1 ∧ k < n2) ∨ (¬ k < n1 ∧ ¬ k < n2 ∧ 0 < c) := by omega
      rcases hcond with h | ⟨h, h'⟩ | ⟨h, h', h''⟩
      · have t1 : (k : Int) < (n1 : Int) := by omega
        clear hgo h
        go_wp2_with (first | (go_at_call 137; ((with_reducible refine g1.out.mono ?_); rintro e w' ⟨rfl, rfl⟩)) | (go_at_call 137; ((with_reducible refine g2.out.mono ?_); rintro e w' ⟨rfl, rfl⟩)) | (at_builtin; refine wpList_append_own _ rfl _ _ 22 rfl w.heap.size 3 i0 (.int .i64 0) 1 8 Tryz.underlying22 hi hz0 hz1 hz2 rfl (by decide) _ _ _ rfl (hG'.out.1.alloc _) ⟨wr.heap.size, 0, none⟩ 1 1 [.int .i64 ((x + y + c) % 1000000000)] rfl rfl (cell_one_new _ _ _) (by intro u hu; simp at hu; subst hu; rfl) (by rw [hzl.out]; unfold maxLen; omega) (by rw [hzl.out]; omega) (by simp; omega) ?_; intro v2 w2 ho2 hg2 _; have hG2 := Lib.hid (hG'.out.push ho2 hg2); clear ho2 hg2))
        exact ⟨⟨k + 1, _, hn1''.out, by simp, rfl, hn2''.out _ _ hG2.out⟩, by have := hn1''.out; simp only [intOf]; omega⟩
      · have t1 : ¬ (k : Int) < (n1 : Int) := by omega
        have t2 : (k : Int) < (n2 : Int) := by omega
        clear hgo h h'
        go_wp2_with (first | (go_at_call 137; ((with_reducible refine g1.out.mono ?_); rintro e w' ⟨rfl, rfl⟩)) | (go_at_call 137; ((with_reducible refine g2.out.mono ?_); rintro e w' ⟨rfl, rfl⟩)) | (at_builtin; refine wpList_append_own _ rfl _ _ 22 rfl w.heap.size 3 i0 (.int .i64 0) 1 8 Tryz.underlying22 hi hz0 hz1 hz2 rfl (by decide) _ _ _ rfl (hG'.out.1.alloc _) ⟨wr.heap.size, 0, none⟩ 1 1 [.int .i64 ((x + y + c) % 1000000000)] rfl rfl (cell_one_new _ _ _) (by intro u hu; simp at hu; subst hu; rfl) (by rw [hzl.out]; unfold maxLen; omega) (by rw [hzl.out]; omega) (by simp; omega) ?_; intro v2 w2 ho2 hg2 _; have hG2 := Lib.hid (hG'.out.push ho2 hg2); clear ho2 hg2))
        exact ⟨⟨k + 1, _, hn1''.out, by simp, rfl, hn2''.out _ _ hG2.out⟩, by have := hn1''.out; simp only [intOf]; omega⟩
      · have t1 : ¬ (k : Int) < (n1 : Int) := by omega
        have t2 : ¬ (k : Int) < (n2 : Int) := by omega
        clear hgo h h'
        go_wp2_with (first | (go_at_call 137; ((with_reducible refine g1.out.mono ?_); rintro e w' ⟨rfl, rfl⟩)) | (go_at_call 137; ((with_reducible refine g2.out.mono ?_); rintro e w' ⟨rfl, rfl⟩)) | (at_builtin; refine wpList_append_own _ rfl _ _ 22 rfl w.heap.size 3 i0 (.int .i64 0) 1 8 Tryz.underlying22 hi hz0 hz1 hz2 rfl (by decide) _ _ _ rfl (hG'.out.1.alloc _) ⟨wr.heap.size, 0, none⟩ 1 1 [.int .i64 ((x + y + c) % 1000000000)] rfl rfl (cell_one_new _ _ _) (by intro u hu; simp at hu; subst hu; rfl) (by rw [hzl.out]; unfold maxLen; omega) (by rw [hzl.out]; omega) (by simp; omega) ?_; intro v2 w2 ho2 hg2 _; have hG2 := Lib.hid (hG'.out.push ho2 hg2); clear ho2 hg2))
        exact ⟨⟨k + 1, _, hn1''.out, by simp, rfl, hn2''.out _ _ hG2.out⟩, by have := hn1''.out; simp only [intOf]; omega⟩
    · have t1 : ¬ (k : Int) < (n1 : Int) := by omega
      have t2 : ¬ (k : Int) < (n2 : Int) := by omega
      obtain rfl : c = 0 := by omega
      have hf := Lib.hid (hG'.out.done (hfin.out (by omega) (by omega) rfl))
      clear hnext hfin hgo
      go_wp2_with fail
      go_ret
      exact hf.out
open Go.RowKit
theorem tmod_abs (v : Int) : (v.tmod 1000000000).natAbs = v.natAbs % 1000000000 := Int.natAbs_tmod v 1000000000
theorem tdiv_abs (v : Int) : (v.tdiv 1000000000).natAbs = v.natAbs / 1000000000 := Int.natAbs_tdiv v 1000000000
theorem own_sl {w : World} {base : Nat} {v : Value} {l : List Int} (h : w.ownsRow base 3 1 v l.length (zvs l)) : ∃ p n c, v = .slice p n c ∧ Rdi w p l ∧ l.length = n ∧ n ≤ c ∧ c ≤ 9223372036854775807 ∧ ∀ q, p = some q → base ≤ q.block := by
  rcases own_cellsI h with ⟨h1, rfl, h3⟩ | ⟨g, c, rfl, hc, hm, hg, hcell⟩
  · have : l = [] := List.eq_nil_of_length_eq_zero h3
    subst this
    exact ⟨none, 0, 0, rfl, .inl rfl, rfl, Nat.le_refl _, by omega, (fun q hq => by cases hq)⟩
  · refine ⟨_, _, c, rfl, .inr ⟨g, 0, rfl, fun i hi => ?_⟩, rfl, hc, by unfold maxLen at hm; omega, (fun q hq => by cases hq; exact hg)⟩
    rw [Nat.zero_add]
    apply hcell
    simp [zvs, iat, hi]
def OfG (w : World) (m M : Nat) (v : Value) (wr : World) : Prop := ∃ z, z ++ digs M = digs m ∧ wr.ownsRow (w.heap.size + 1) 3 1 v z.length (zvs z) ∧ Ar0 w wr
theorem OfG.push {w wr w' : World} {m M : Nat} {v v' : Value} {o : Obj} {z : List Int} (hM : M ≠ 0) (hz : z ++ digs M = digs m) (ho0 : wr.ownsRow (w.heap.size + 1) 3 1 v z.length (zvs z)) (hA : Ar0 w wr)
    (ho : w'.ownsRow (w.heap.size + 1) 3 1 v' (z.length + 1) (zvs z ++ [.int .i64 ((M % 1000000000 : Nat) : Int)])) (hg : (wr.alloc o).grownBy w' v.ownBlock) : OfG w m (M / 1000000000) v' w' := by
  refine ⟨z ++ [((M % 1000000000 : Nat) : Int)], by rw [List.append_assoc, ← hz, digs_pos hM]; rfl, ?_, ?_⟩
  · rw [List.length_append]
    have : zvs (z ++ [((M % 1000000000 : Nat) : Int)]) = zvs z ++ [.int .i64 ((M % 1000000000 : Nat) : Int)] := by simp [zvs]
    rw [this]; exact ho
  · obtain ⟨⟨u, x, h3⟩, h6⟩ := hA
    have h3' : (wr.alloc o).heap[w.heap.size]? = some (.cells #[u, x] 24 (0, 0)) := by rw [Below.heap_alloc _ _ _ (lt_blk h3)]; exact h3
    have hlt := lt_blk h3'
    have hbk := hg.block w.heap.size (by omega) (fun e => by have := (ho0.lt _ e.symm).1; omega)
    exact ⟨⟨u, x, hbk.trans h3'⟩, (h6.alloc h6.size _).grown hg (Nat.le_trans h6.size (by simp)) fun k hk => by have := (ho0.lt k hk).1; omega⟩
set_option maxRecDepth 100000 in
set_option maxHeartbeats 1600000 in
theorem rOf_any (n : Int) (h1 : -9223372036854775808 ≤ n) (h2 : n ≤ 9223372036854775807) (w : World) :
    Calls Tryz.prog 15 #[.int .i64 n] w (RetI w n) := by
  obtain ⟨i0, hi, hz0, hz1, hz2⟩ := info_parts info_i64
  have hS0 : Hid (OfG w n.natAbs n.natAbs (.slice none 0 0) (w.alloc (.cells #[.bool false, .slice none 0 0] 24))) := Lib.hid ⟨[], rfl, World.ownsRow_nil _ _ _ _, Ar0.start w⟩
  have hlen : Hid ((digs n.natAbs).length ≤ 3) := Lib.hid (digs_len_le (by
    have : pw 3 = 1000000000000000000000000000 := by decide
    omega))
  have hsg : Hid (sg (decide (n < 0)) (val (digs n.natAbs)) = n) := Lib.hid (by
    rw [val_digs]
    by_cases h : n < 0
    · rw [decide_eq_true h]; show -(n.natAbs : Int) = n; omega
    · rw [decide_eq_false h]; show (n.natAbs : Int) = n; omega)
  obtain ⟨nb0, hnb⟩ : ∃ b, decide (n < 0) = b := ⟨_, rfl⟩
  rw [hnb] at hsg
  generalize hm : n.natAbs = m at hS0 hlen hsg
  have hm' := Lib.hid hm
  clear hm
  go_enter Tryz.func15, Tryz.ntmps15
  go_wp2_with fail
  generalize w.alloc (.cells #[.bool false, .slice none 0 0] 24) = w1 at hS0 ⊢
  go_loopw [0, 3] (fun nv u3 wr => ∃ (v : Int) (M : Nat), nv = .int .i64 v ∧ -9223372036854775808 ≤ v ∧ v ≤ 9223372036854775807 ∧ Hid (v.natAbs = M) ∧ OfG w m M u3 wr) (fun nv _ _ => (intOf nv).natAbs)
  case atStart => exact ⟨n, m, rfl, h1, h2, hm', hS0.out⟩
  case round =>
    obtain ⟨v, M, rfl, hv1, hv2, hvM, z, hzd, hown0, hA⟩ := hrel
    clear hS0
    have hown := Lib.hid hown0
    have hsz : Hid (w.heap.size < wr.heap.size) := Lib.hid hA.top
    have hzl : Hid (z.length ≤ 3) := Lib.hid (by have := congrArg List.length hzd; rw [List.length_append] at this; have := hlen.out; omega)
    clear hown0
    by_cases h0 : v = 0
    · subst h0
      obtain rfl : M = 0 := by have := hvM.out; omega
      rw [digs_zero, List.append_nil] at hzd
      subst hzd
      obtain ⟨p, k, c, rfl, hR, hk, hkc, hcm, hp⟩ := own_sl hown.out
      have hno : Hid (Calls Tryz.prog 72 #[.bool nb0, .slice p k c] wr (RetF (fun q => p = some q) wr (sg nb0 (val (digs m))))) := Lib.hid (normal_any _ _ _ _ _ wr hR hk.symm hkc hcm (Dg_digs _))
      have hp' := Lib.hid hp
      clear hR hk hp hown hzl hlen hvM
      go_wp2_with fail
      refine hno.out.mono ?_
      rintro e w2 ⟨nb, p2, n2, c2, rfl, hI0, hb2, hp0⟩
      have hS3 := hA.later hb2
      have hf3 := hS3.facts
      have hfin : Hid (RetI w n (.returned (.agg #[.bool nb, .slice p2 n2 c2])) ((w2.setCell ⟨w.heap.size, 0, none⟩ (.bool nb)).setCell ⟨w.heap.size, 1, none⟩ (.slice p2 n2 c2))) := Lib.hid (hS3.ret hI0 (fun q hq => by
        have := hp'.out q (hp0 q hq)
        exact ⟨by omega, by omega⟩) hsg.out)
      clear hI0 hb2 hp0
      go_wp2_with fail
      exact bodyPost_ret (v := .agg #[.bool nb, .slice p2 n2 c2]) (results_cell_row rfl _ _ w.heap.size 24 _ (0, 0) _ rfl (hS3.res _ _) Tryz.underlying24 rfl size_Int) rfl hfin.out
    · have hvb : (v != 0) = true := by simpa using h0
      have hM : M ≠ 0 := by have := hvM.out; omega
      have hT := tmod_abs v
      have hT2 := tdiv_abs v
      rw [hvM.out] at hT hT2
      have hQ := Lib.hid hT2
      have hlt := Lib.hid (show M / 1000000000 < M from Nat.div_lt_self (by omega) (by omega))
      have hm9 : M % 1000000000 < 1000000000 := Nat.mod_lt _ (by omega)
      have hr1 : -1000000000 < v.tmod 1000000000 := by omega
      have hr2 : v.tmod 1000000000 < 1000000000 := by omega
      have hq1 : -9223372036854775808 ≤ v.tdiv 1000000000 := by have := hvM.out; have := hlt.out; omega
      have hq2 : v.tdiv 1000000000 ≤ 9223372036854775807 := by have := hvM.out; have := hlt.out; omega
      clear h0 hm9
      by_cases hneg : v.tmod 1000000000 < 0
      · have t1 : v.tmod 1000000000 < 0 := by assumption
        have hpush : Hid (∀ v' w', w'.ownsRow (w.heap.size + 1) 3 1 v' (z.length + 1) (zvs z ++ [.int .i64 (-v.tmod 1000000000)]) → (wr.alloc (.cells #[.int .i64 (-v.tmod 1000000000)] 3)).grownBy w' u3.ownBlock → OfG w m (M / 1000000000) v' w') := Lib.hid fun v' w' h3 h4 => OfG.push hM hzd hown.out hA (by rw [show ((M % 1000000000 : Nat) : Int) = -v.tmod 1000000000 by omega]; exact h3) h4
        clear hM hzd hA hT hT2
        go_wp2_with (at_builtin; refine wpList_append_own _ rfl _ _ 22 rfl (w.heap.size + 1) 3 i0 (.int .i64 0) 1 8 Tryz.underlying22 hi hz0 hz1 hz2 rfl (by decide) _ _ _ rfl (hown.out.alloc _) ⟨wr.heap.size, 0, none⟩ 1 1 [.int .i64 (-v.tmod 1000000000)] rfl rfl (cell_one_new _ _ _) (by intro u hu; simp at hu; subst hu; rfl) (by have := hzl.out; unfold maxLen; omega) (by have := hzl.out; omega) (by have := hsz.out; simp; omega) ?_; intro v2 w2 ho2 hg2 _; have hG2 := Lib.hid (hpush.out _ _ ho2 hg2); clear ho2 hg2)
        exact ⟨⟨v.tdiv 1000000000, M / 1000000000, rfl, hq1, hq2, hQ, hG2.out⟩, by have := hQ.out; have := hvM.out; have := hlt.out; simp only [intOf]; omega⟩
      · have t1 : ¬ v.tmod 1000000000 < 0 := by assumption
        have hpush : Hid (∀ v' w', w'.ownsRow (w.heap.size + 1) 3 1 v' (z.length + 1) (zvs z ++ [.int .i64 (v.tmod 1000000000)]) → (wr.alloc (.cells #[.int .i64 (v.tmod 1000000000)] 3)).grownBy w' u3.ownBlock → OfG w m (M / 1000000000) v' w') := Lib.hid fun v' w' h3 h4 => OfG.push hM hzd hown.out hA (by rw [show ((M % 1000000000 : Nat) : Int) = v.tmod 1000000000 by omega]; exact h3) h4
        clear hM hzd hA hT hT2
        go_wp2_with (at_builtin; refine wpList_append_own _ rfl _ _ 22 rfl (w.heap.size + 1) 3 i0 (.int .i64 0) 1 8 Tryz.underlying22 hi hz0 hz1 hz2 rfl (by decide) _ _ _ rfl (hown.out.alloc _) ⟨wr.heap.size, 0, none⟩ 1 1 [.int .i64 (v.tmod 1000000000)] rfl rfl (cell_one_new _ _ _) (by intro u hu; simp at hu; subst hu; rfl) (by have := hzl.out; unfold maxLen; omega) (by have := hzl.out; omega) (by have := hsz.out; simp; omega) ?_; intro v2 w2 ho2 hg2 _; have hG2 := Lib.hid (hpush.out _ _ ho2 hg2); clear ho2 hg2)
        exact ⟨⟨v.tdiv 1000000000, M / 1000000000, rfl, hq1, hq2, hQ, hG2.out⟩, by have := hQ.out; have := hvM.out; have := hlt.out; simp only [intOf]; omega⟩
end Go.Proofs.YtleijkgdpmfabaaGreatDoor
