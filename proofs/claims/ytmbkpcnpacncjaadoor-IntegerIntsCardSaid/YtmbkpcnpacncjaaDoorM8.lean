/- Contracts of the package integer and its reference: integer.decimal. integer.Parse, of what is no text of an integer. integer.root, Root. integer.above, root. integer.Compare, Sign. integer.Root. -/
import Derived.Test.YtmbkpcnpacncjaaDoorM7
import Derived.Test.YtmbkpcnpacncjaaDoorM6
import Derived.Test.YtmbkpcnpacncjaaDoorM5
import Derived.Laws.ResultCell
set_option linter.unusedVariables false
namespace Go.Proofs.YtmbkpcnpacncjaaDoor
open Go.RowKit

/-- a decimal digit's sign -/
def dgt (c : UInt8) : Bool := 48 ≤ c && c ≤ 57
/-- whether a text consists of decimal digits, of which the first one is 0 only if it is the only one -/
def decB (l : List UInt8) : Bool := l.all dgt && (l == [48] || (l != [] && l.head? != some 48))
def DcP (s : ByteArray) (w : World) (e : Ending) (w' : World) : Prop := e = .returned (.bool (decB s.data.toList)) ∧ w = w'
theorem dgt_lt {c : UInt8} (h : (c.toNat : Int) < 48) : dgt c = false := by
  unfold dgt
  have : ¬ (48 ≤ c) := by rw [UInt8.le_iff_toNat_le]; show ¬ 48 ≤ c.toNat; omega
  simp [this]
theorem dgt_gt {c : UInt8} (h : 57 < (c.toNat : Int)) : dgt c = false := by
  unfold dgt
  have : ¬ (c ≤ 57) := by rw [UInt8.le_iff_toNat_le]; show ¬ c.toNat ≤ 57; omega
  simp [this]
theorem dgt_in {c : UInt8} (h1 : ¬ (c.toNat : Int) < 48) (h2 : ¬ 57 < (c.toNat : Int)) : dgt c = true := by
  unfold dgt
  have a1 : 48 ≤ c := by rw [UInt8.le_iff_toNat_le]; show 48 ≤ c.toNat; omega
  have a2 : c ≤ 57 := by rw [UInt8.le_iff_toNat_le]; show c.toNat ≤ 57; omega
  simp [a1, a2]
theorem decB_no {l : List UInt8} (k : Nat) (hk : k < l.length) (h : dgt l[k] = false) : decB l = false := by
  unfold decB
  have : l.all dgt = false := by
    rw [List.all_eq_false]
    exact ⟨l[k], List.getElem_mem hk, by rw [h]; simp⟩
  rw [this]; rfl
theorem decB_yes {l : List UInt8} (h : ∀ k (hk : k < l.length), dgt l[k] = true) : decB l = (l == [48] || (l != [] && l.head? != some 48)) := by
  unfold decB
  have : l.all dgt = true := by
    rw [List.all_eq_true]
    intro x hx
    obtain ⟨k, hk, rfl⟩ := List.getElem_of_mem hx
    exact h k hk
  rw [this]; rfl

theorem byteArray_toList (s : ByteArray) : s.toList = s.data.toList := ByteArray.toList_eq s

set_option maxRecDepth 100000 in
set_option maxHeartbeats 800000 in
theorem decimal_any (s : ByteArray) (w : World) (hs : s.size ≤ maxLen) :
    Calls Tryd.prog 48 #[.string s] w (DcP s w) := by
  unfold maxLen at hs
  go_enter Tryd.func48, Tryd.ntmps48
  go_wp2
  go_loop [6] (fun i => ∃ k : Nat, k ≤ s.size ∧ i = .int .i64 k ∧ Hid (∀ j (hj : j < s.data.toList.length), j < k → dgt s.data.toList[j] = true)) (fun i => s.size - (intOf i).toNat)
  case atStart => exact ⟨0, Nat.zero_le _, rfl, Lib.hid (fun j _ hj => by omega)⟩
  case round =>
    obtain ⟨k, hk, rfl, hall⟩ := hrel
    by_cases hlt : k < s.size
    · have hkl : Hid (k < s.data.toList.length) := Lib.hid (by simpa using hlt)
      have hx : Hid (s.data.toList[k]'hkl.out = s[k]) := Lib.hid rfl
      by_cases h1 : (s[k].toNat : Int) < 48
      · have hr : Hid (decB s.data.toList = false) := Lib.hid (decB_no k hkl.out (by rw [hx.out]; exact dgt_lt h1))
        go_wp2
        go_ret
        exact ⟨by rw [hr.out]; rfl, rfl⟩
      · by_cases h2 : 57 < (s[k].toNat : Int)
        · have hr : Hid (decB s.data.toList = false) := Lib.hid (decB_no k hkl.out (by rw [hx.out]; exact dgt_gt h2))
          go_wp2
          go_ret
          exact ⟨by rw [hr.out]; rfl, rfl⟩
        · have hall2 : Hid (∀ j (hj : j < s.data.toList.length), j < k + 1 → dgt s.data.toList[j] = true) := Lib.hid (fun j hj h3 => by
            rcases Nat.lt_or_ge j k with h4 | h4
            · exact hall.out j hj h4
            · obtain rfl : j = k := by omega
              rw [hx.out]; exact dgt_in h1 h2)
          go_wp2
          exact ⟨⟨k + 1, by omega, by simp, hall2⟩, by simp [intOf]; omega⟩
    · have hk' : k = s.size := by omega
      have hr : Hid (decB s.data.toList = (s.data.toList == [48] || (s.data.toList != [] && s.data.toList.head? != some 48))) := Lib.hid (decB_yes fun j hj => hall.out j hj (by rw [hk']; simpa using hj))
      have hTL : s.toList = s.data.toList := byteArray_toList s
      rcases hcase : s.data.toList with _ | ⟨c, rest⟩
      · rw [hcase] at hr hTL
        have g1 : (s.toList == [48]) = false := by rw [hTL]; rfl
        have g2 : s.toList.isEmpty = true := by rw [hTL]; rfl
        have hr' : Hid (decB s.data.toList = false) := Lib.hid (by rw [hcase]; have := hr.out; rw [this]; rfl)
        clear hr hTL hcase hall
        go_wp2
        go_ret
        exact ⟨by rw [hr'.out]; rfl, rfl⟩
      · have hsz : 0 < s.size := by have : s.data.toList.length = s.size := by simp
                                    rw [hcase] at this; simp at this; omega
        have hs0 : Hid (s[0] = c) := Lib.hid (by
          have h1 : s.data.toList[0]'(by rw [hcase]; simp) = s[0] := rfl
          rw [← h1]; simp [hcase])
        rw [hcase] at hr hTL
        by_cases hA : c = 48 ∧ rest = []
        · have g1 : (s.toList == [48]) = true := by rw [hTL, hA.1, hA.2]; rfl
          have hr' : Hid (decB s.data.toList = true) := Lib.hid (by rw [hcase]; have := hr.out; rw [this, hA.1, hA.2]; rfl)
          clear hr hTL hcase hall hs0 hA
          go_wp2
          go_ret
          exact ⟨by rw [hr'.out]; rfl, rfl⟩
        · have g1 : (s.toList == [48]) = false := by
            rw [hTL]
            simp only [beq_eq_false_iff_ne, ne_eq, List.cons.injEq]
            exact hA
          have g2 : s.toList.isEmpty = false := by rw [hTL]; rfl
          have hr' : Hid (decB s.data.toList = ((s[0].toNat : Int) != 48)) := Lib.hid (by
            rw [hcase, hr.out, hs0.out]
            have g3 : ((c :: rest) == [48]) = false := by rw [← hTL]; exact g1
            rw [g3]
            by_cases hc : c = 48
            · subst hc; simp
            · have h2 : ¬ c.toNat = 48 := fun e => hc (by rw [← UInt8.toNat_inj]; exact e)
              have h3 : ((c.toNat : Int) != 48) = true := by simp; omega
              rw [h3]; simp [hc])
          clear hr hTL hcase hall hs0 hA
          go_wp2
          go_ret
          exact ⟨by rw [hr'.out]; rfl, rfl⟩
end Go.Proofs.YtmbkpcnpacncjaaDoor

namespace Go.Proofs.YtmbkpcnpacncjaaDoor
open Go.RowKit

/-- an error, and zero -/
def ErP (w : World) (code : Int) (e : Ending) (w' : World) : Prop := e = .returned (.tuple #[.agg #[.bool false, .slice none 0 0], .int .i64 code]) ∧ Below w.heap.size w w'
theorem results_cell1 {P : Program} {fn : Func} {p q : Tmp} {ty : TypeId} (h : fn.results = #[.cell p ty, .tmp q]) (tmps : Array Value) (w : World) (g : Nat) (t : TypeId) (cs : Array Value) (fr : Nat × Nat) (d : TypeDesc) (v : Value)
    (hp : tmps.getD p undef = .pointer (some ⟨g, 0, none⟩)) (hv : tmps.getD q undef = v) (hg : w.heap[g]? = some (.cells cs t fr))
    (hu : P.underlying ty = some d) (hd : (match d with | .struct _ | .array _ _ => true | _ => false) = true) (hi : (P.info? ty).map (·.size) = some cs.size) :
    (results fn tmps).run P w = .ok (.tuple #[.agg cs, v]) w := by
  rw [results_cell_tmp h, hp, hv]
  simp [asAddr, run_loadVar_row w g t ty cs fr d hg hu hd hi, Result.andThen]

set_option maxRecDepth 100000 in
set_option maxHeartbeats 800000 in
theorem parse_form (s : ByteArray) (t : List UInt8) (ng : Bool) (w : World) (hlen : s.size ≤ 65536) (ht : Lib.trimPrefix s.data.toList [45] = t) (hng : Lib.hasPrefix s.data.toList [45] = ng) (htl : t.length ≤ 65536) (hbad : decB t = false ∨ ng = true ∧ t = [48]) :
    Calls Tryd.prog 32 #[.string s] w (ErP w 2) := by
  have hcut : Hid (∀ W, Calls Tryd.prog 47 #[.string s, .string ⟨#[45]⟩] W fun e w' => e = .returned (.tuple #[.string (bs t), .bool ng]) ∧ W = w') :=
    Lib.hid fun W => (Tryd.strings_CutPrefix s ⟨#[45]⟩ W).mono fun e w' ⟨he, hw⟩ => ⟨by rw [he, ← ht, ← hng]; rfl, hw.symm⟩
  have hdc : Hid (∀ W, Calls Tryd.prog 48 #[.string (bs t)] W fun e w' => e = .returned (.bool (decB t)) ∧ W = w') :=
    Lib.hid fun W => decimal_any (bs t) W (by rw [show (bs t).size = t.length by simp [bs, ByteArray.size]]; unfold maxLen; omega)
  have hS0 := Lib.hid (Ar0.start w)
  have hl : ¬ (65536 : Int) < (s.size : Int) := by omega
  have hfin : Hid (∀ W, Ar0 w W → ErP w 2 (.returned (.tuple #[.agg #[.bool false, .slice none 0 0], .int .i64 2])) ((W.setCell ⟨w.heap.size, 0, none⟩ (.bool false)).setCell ⟨w.heap.size, 1, none⟩ (.slice none 0 0))) := Lib.hid fun W h => ⟨rfl, (h.store _ _).2⟩
  rcases hbad with hb | ⟨hb1, hb2⟩
  · rw [hb] at hdc
    clear ht hng
    go_enter Tryd.func32, Tryd.ntmps32
    go_upto_if 12 with fail
    generalize w.alloc (.cells #[.bool false, .slice none 0 0] 24) = W0 at hS0 ⊢
    have hS1 := hS0.out
    have hf := hS1.facts
    clear hS0
    go_wp2_with (first | (go_at_call 47; refine (hcut.out _).mono ?_; rintro e w' ⟨rfl, rfl⟩) | (go_at_call 48; refine (hdc.out _).mono ?_; rintro e w' ⟨rfl, rfl⟩))
    exact bodyPost_ret (v := .tuple #[.agg #[.bool false, .slice none 0 0], .int .i64 2]) (results_cell1 rfl _ _ w.heap.size 24 _ (0, 0) _ _ rfl rfl (hS1.res _ _) Tryd.underlying24 rfl size_Int) rfl (hfin.out _ hS1)
  · subst hb1 hb2
    have hd1 : decB [48] = true := by decide
    rw [hd1] at hdc
    have g1 : ((bs [48]).toList == [48]) = true := by rw [ByteArray.toList_eq]; rfl
    generalize bs [48] = z at hcut hdc g1
    clear ht hng hd1
    go_enter Tryd.func32, Tryd.ntmps32
    go_upto_if 12 with fail
    generalize w.alloc (.cells #[.bool false, .slice none 0 0] 24) = W0 at hS0 ⊢
    have hS1 := hS0.out
    have hf := hS1.facts
    clear hS0
    go_wp2_with (first | (go_at_call 47; refine (hcut.out _).mono ?_; rintro e w' ⟨rfl, rfl⟩) | (go_at_call 48; refine (hdc.out _).mono ?_; rintro e w' ⟨rfl, rfl⟩))
    exact bodyPost_ret (v := .tuple #[.agg #[.bool false, .slice none 0 0], .int .i64 2]) (results_cell1 rfl _ _ w.heap.size 24 _ (0, 0) _ _ rfl rfl (hS1.res _ _) Tryd.underlying24 rfl size_Int) rfl (hfin.out _ hS1)
end Go.Proofs.YtmbkpcnpacncjaaDoor

namespace Go.Proofs.YtmbkpcnpacncjaaDoor
open Go.RowKit

theorem append_full (g : Nat) (l : List Int) (L : Nat) (hL : L = l.length) (p : Option Addr) (n c : Nat) (D : List Int) (W : World) (hB : Blk W g l) (hR : Rdi W p D) (hn : n = D.length) (hpos : 0 < n) (hlim : L + n ≤ 1099511627776) :
    ∃ pp cc W', (Builtin.append_ #[22, 22] 22 #[.slice (some ⟨g, 0, none⟩) L L, .slice p n c]).run Tryd.prog W = .ok (.slice pp (L + n) cc) W' ∧ Rdi W' pp (l ++ D) ∧ L + n ≤ cc ∧ cc ≤ 9223372036854775807 ∧ (∀ q, pp = some q → W.heap.size ≤ q.block) ∧ Below W.heap.size W W' := by
  obtain ⟨i0, hi, hz0, hz1, hz2⟩ := info_parts info_i64
  rcases hR with h | ⟨b, off, rfl, hc⟩
  · rw [h] at hn; simp at hn; omega
  · have hown : ∀ j u, (zvs l)[j]? = some u → W.cell? ((⟨g, 0, none⟩ : Addr).add j) = some u := Rdi_news (fun i hi => by rw [Nat.zero_add]; exact hB.cell hi)
    have hr := run_append_grow (P := Tryd.prog) W 22 22 3 i0 (.int .i64 0) Tryd.underlying22 hi hz0 ⟨g, 0, none⟩ L L (zvs l) (by rw [zvs_length, hz1, hL]; omega) hown ⟨b, off, none⟩ n c (zvs D) (by rw [zvs_length, hz1, hn]; omega) (Rdi_news hc) (by omega) (by omega) (growslice_fits (by omega) (by rw [hz2]; omega))
    have hge := grownCap_ge W (L + n) L 3
    have hcm : grownCap W (L + n) L 3 ≤ maxLen := grownCap_le_maxLen W (L + n) L 3 (by unfold maxLen; omega)
    unfold maxLen at hcm
    refine ⟨_, _, _, hr, ?_, hge, hcm, fun q hq => by cases hq; exact Nat.le_refl _, ?_⟩
    · refine .inr ⟨W.heap.size, 0, rfl, fun j hj => ?_⟩
      have hn1 := heap_alloc_new W.drew (.cells ((zvs l).toArray ++ (zvs D).toArray ++ Builtin.zeroCells (Value.int .i64 0).cells (grownCap W (L + n) L 3 - (L + n))) 3)
      have hl : j < (zvs (l ++ D)).length := by rw [zvs_length]; exact hj
      have e1 : ((zvs l).toArray ++ (zvs D).toArray) = (zvs (l ++ D)).toArray := by simp [zvs]
      rw [e1] at hn1 ⊢
      show (W.drew.alloc _).cell? ⟨W.heap.size, 0 + j, none⟩ = _
      unfold World.cell?
      rw [show (⟨W.heap.size, 0 + j, none⟩ : Addr).block = W.drew.heap.size from rfl, hn1]
      rw [Nat.zero_add]
      show ((zvs (l ++ D)).toArray ++ _)[j]? = _
      rw [Array.getElem?_append_left (by simpa using hl)]
      exact zvs_get hj
    · exact (below_drewN (Below.refl _ W) 1).alloc (Nat.le_refl _) _
theorem wpList_append_run {P : Program} {w : World} {ops : Array Oper} {rest : List Oper} {o : Oper} {a : Act} {Q : Exit → Act → World → Prop} (hgd : o.guard = none) (s x : Operand) (t u : TypeId)
    (ho : o.op = .call { callee := .builtin .append, args := #[s, x], argTypes := #[t, u] }) (vs vx : Value) (hs : a.eval s = vs) (hx : a.eval x = vx) (v' : Value) (w' : World) (hrun : (Builtin.append_ #[t, u] o.type #[vs, vx]).run P w = .ok v' w') (h : wpList P ops Q rest (a.put o.dst v') w') : wpList P ops Q (o :: rest) a w := by
  refine wpList_plain hgd fun K hK => ?_
  unfold Oper.wp execOp
  simp only [ho, resolve, invoke, builtin, Sem.run_bind, Sem.run_pure, Result.andThen_ok, List.map_toArray, List.map_cons, List.map_nil, hs, hx, hrun]
  exact hK _ _ h
theorem tlen_zeros_append (L : Nat) (z : List Int) (ht : tlen z = z.length) (hz : z ≠ []) : tlen (List.replicate L 0 ++ z) = (List.replicate L 0 ++ z).length := by
  have hl : 0 < z.length := List.length_pos_iff.2 hz
  refine tlen_of _ _ (Nat.le_refl _) (fun i h1 h2 => by omega) (.inr ?_)
  rw [iat_append, List.length_append, List.length_replicate, if_neg (by omega), show L + z.length - 1 - L = z.length - 1 by omega]
  intro h0
  have : tlen z ≤ z.length - 1 := by
    have h2 := tlen_of z (z.length - 1)
    by_cases h3 : tlen z = z.length
    · exfalso
      rw [h3] at ht
      -- the last digit is not zero where no digit goes
      have : ∀ (l : List Int), l ≠ [] → iat l (l.length - 1) = 0 → tlen l < l.length := by
        intro l
        induction l with
        | nil => intro h; exact absurd rfl h
        | cons d t ih =>
          intro _ h4
          by_cases ht' : t = []
          · subst ht'
            have : d = 0 := h4
            simp [tlen, this]
          · have h5 : iat (d :: t) ((d :: t).length - 1) = iat t (t.length - 1) := by
              rw [List.length_cons, show t.length + 1 - 1 = (t.length - 1) + 1 by have := List.length_pos_iff.2 ht'; omega, iat_cons_succ]
            rw [h5] at h4
            have := ih ht' h4
            rw [List.length_cons]
            unfold tlen
            split
            · split <;> omega
            · omega
      have := this z hz h0
      omega
    · have := tlen_le z; omega
  omega
theorem low_bd (n : Nat) (h : 3 ≤ n) : 1 ≤ max 1 (n / 4) ∧ 2 * max 1 (n / 4) < n ∧ max 1 (n / 4) ≤ n := by omega
theorem above_val {x : List Int} {L : Nat} {r : Int} (hx : Dg x) (h2 : 2 * L ≤ x.length) (hT : val (x.drop (2 * L)) < (r + 1) * (r + 1)) : val x < (pw L * (r + 1)) * (pw L * (r + 1)) := by
  have h1 := val_split x (2 * L) h2
  have h3 := (hx.take (2 * L)).hi
  rw [List.length_take, Nat.min_eq_left h2] at h3
  have hp : pw (2 * L) = pw L * pw L := by rw [show 2 * L = L + L by omega, pw_add]
  have hp0 := pw_pos (2 * L)
  have e : (pw L * (r + 1)) * (pw L * (r + 1)) = pw (2 * L) * ((r + 1) * (r + 1)) := by rw [hp]; grind
  have h4 : pw (2 * L) * (val (x.drop (2 * L)) + 1) ≤ pw (2 * L) * ((r + 1) * (r + 1)) := Int.mul_le_mul_of_nonneg_left (by omega) (by omega)
  have e2 : pw (2 * L) * (val (x.drop (2 * L)) + 1) = pw (2 * L) * val (x.drop (2 * L)) + pw (2 * L) := by grind
  omega
theorem drop_pos {x : List Int} (hx : Dg x) (ht : tlen x = x.length) (k : Nat) (hk : k < x.length) (hv : 0 < val x) : 0 < val (x.drop k) := by
  have h1 := top_of hx ht hv
  have h2 : iat (x.drop k) (x.length - 1 - k) = iat x (x.length - 1) := by rw [iat_drop]; congr 1; omega
  have h3 := (hx.drop k).lo
  rcases Int.lt_or_le 0 (val (x.drop k)) with h | h
  · exact h
  · exfalso
    have h4 : val (x.drop k) = 0 := by omega
    have h5 : tlen (x.drop k) = 0 := by
      by_cases h6 : tlen (x.drop k) = 0
      · exact h6
      · have := tlen_pos (hx.drop k) h6; omega
    have h6 := take_tlen (hx.drop k)
    have h7 : ∀ (l : List Int), tlen l = 0 → ∀ j, iat l j = 0 := by
      intro l
      induction l with
      | nil => intro _ j; exact iat_nil j
      | cons d t ih =>
        intro h j
        unfold tlen at h
        split at h
        · split at h
          · cases j with
            | zero => assumption
            | succ j => rw [iat_cons_succ]; exact ih (by assumption) j
          · omega
        · omega
    have := h7 _ h5 (x.length - 1 - k)
    rw [h2] at this
    omega
end Go.Proofs.YtmbkpcnpacncjaaDoor

namespace Go.Proofs.YtmbkpcnpacncjaaDoor
open Go.RowKit

set_option maxRecDepth 100000 in
set_option maxHeartbeats 1600000 in
theorem above_large (a : Option Addr) (n c : Nat) (x : List Int) (w : World) (hR0 : Rdi w a x) (hn0 : n = x.length) (hnc : n ≤ c) (hcm : c ≤ 9223372036854775807) (hd0 : Dg x) (ht0 : tlen x = x.length) (h3 : 3 ≤ n) (hm : n ≤ 274877906943) (hx0 : 0 < val x)
    (hrt0 : ∀ (p : Option Addr) (m k : Nat) (y : List Int) W, Below w.heap.size w W → m < n → Rdi W p y → m = y.length → m ≤ k → k ≤ 9223372036854775807 → Dg y → tlen y = y.length → 0 < val y → Calls Tryd.prog 45 #[.slice p m k] W (RtP W y)) :
    Calls Tryd.prog 57 #[.slice a n c] w (AbvP w x) := by
  obtain ⟨L, hL⟩ : ∃ L, max 1 (n / 4) = L := ⟨_, rfl⟩
  have hlb := low_bd n h3
  rw [hL] at hlb
  obtain ⟨hl1, hl2, hl3⟩ := hlb
  obtain ⟨b, o, ha, -⟩ := Rdi_at hR0 0 (by omega)
  subst ha
  have hsl : ∀ W, Below w.heap.size w W → Rdi W (some ⟨b, o + 2 * L, none⟩) (x.drop (2 * L)) := fun W hb => by
    rcases Rdi_below hb hR0 with h | ⟨b', o', he, hc⟩
    · rw [h] at hn0; simp at hn0; omega
    · cases he
      refine .inr ⟨b, o + 2 * L, rfl, fun i hi => ?_⟩
      rw [List.length_drop] at hi
      rw [iat_drop, show o + 2 * L + i = o + (2 * L + i) by omega]
      exact hc _ (by omega)
  have hdl : (x.drop (2 * L)).length = n - 2 * L := by rw [List.length_drop, hn0]
  have hdp := drop_pos hd0 ht0 (2 * L) (by omega) hx0
  have hdt : tlen (x.drop (2 * L)) = (x.drop (2 * L)).length := by
    refine tlen_of _ _ (Nat.le_refl _) (fun i h1 h2 => by omega) (.inr ?_)
    have h1 := top_of hd0 ht0 hx0
    rw [iat_drop, show 2 * L + ((x.drop (2 * L)).length - 1) = x.length - 1 by rw [hdl]; omega]
    omega
  have hroot : Hid (∀ W, Below w.heap.size w W → Calls Tryd.prog 45 #[.slice (some ⟨b, o + 2 * L, none⟩) (n - 2 * L) (c - 2 * L)] W (RtP W (x.drop (2 * L)))) := Lib.hid fun W hb => hrt0 _ _ _ _ W hb (by omega) (hsl W hb) hdl.symm (by omega) (by omega) (hd0.drop _) hdt hdp
  have hav : Hid (∀ r, val (x.drop (2 * L)) < (r + 1) * (r + 1) → val x < (pw L * (r + 1)) * (pw L * (r + 1))) := Lib.hid fun r h => above_val hd0 (by omega) h
  have hdl' := Lib.hid hdl
  have hdp' := Lib.hid hdp
  have N := Lib.hid hn0
  have t1 : ¬ (n : Int) < 3 := by omega
  clear hR0 hn0 hd0 ht0 hrt0 hsl hdl hdp hdt
  have hmx : max 1 ((n : Int) / 4) = (L : Int) := by omega
  have l0 : 0 ≤ (L : Int) := by omega
  have l1 : 2 * (L : Int) ≤ (n : Int) := by omega
  have l2 : 2 * (L : Int) ≤ (c : Int) := by omega
  have l3 : (n : Int) ≤ 274877906943 := by omega
  clear hL
  go_enter Tryd.func57, Tryd.ntmps57
  go_wp2_with fail
  refine (hroot.out _ (Below.refl _ _)).mono ?_
  rintro e w1 ⟨p1, n1, c1, r, rfl, hR1, hl1', hnc1, hcb1, hd1, hr0, hrr, hrx, ht1, hlx1, hpn1, hb1⟩
  have hl1'' := Lib.hid hl1'
  have hd1' := Lib.hid hd1
  have hR1' := Lib.hid hR1
  have hb1' := Lib.hid hb1
  have hr0' := Lib.hid hr0
  have hrx' := Lib.hid hrx
  have hlx1' := Lib.hid hlx1
  clear hR1 hl1' hd1 hr0 hrr hrx ht1 hlx1 hb1 hroot hpn1
  go_wp2_with fail
  have hBF : Blk (w1.alloc (.cells #[.int .i64 1] 3)) w1.heap.size [1] := Blk_new w1 [1]
  have hb2 : Below w1.heap.size w1 (w1.alloc (.cells #[.int .i64 1] 3)) := below_new _ _
  generalize w1.alloc (.cells #[.int .i64 1] 3) = W2 at hBF hb2 ⊢
  refine (sum_any _ _ _ _ 1 _ r [1] W2 (Rdi_below hb2 hR1'.out) hBF.rdi hl1''.out.symm rfl hd1'.out (Dg_cons (by omega) (by omega) Dg_nil) (by have := hlx1'.out; have := hdl'.out; omega) (by omega)).mono ?_
  rintro e w3 ⟨g3, n3, z, rfl, hg3, hz3, hb3, hl3', hs3⟩
  have hv3 : val z = val r + 1 := by rw [hs3.2.1]; simp [val]
  have hzl : z.length ≤ n - 2 * L + 1 := by
    have h1 := hs3.2.2
    have h2 := hlx1'.out
    have h4 := hl1''.out
    have h5 := hdl'.out
    simp only [List.length_cons, List.length_nil] at h1
    omega
  have htr : Hid (Calls Tryd.prog 39 #[.slice (some ⟨g3, 0, none⟩) n3 n3] w3 fun e w' => e = .returned (.slice (some ⟨g3, 0, none⟩) (tlen z) n3) ∧ w3 = w') := Lib.hid (trimmed_any _ _ _ z w3 hz3.rdi hl3'.symm (Nat.le_refl _) (by omega))
  have htk := take_tlen hs3.1
  have hzz : Hid (Dg (z.take (tlen z)) ∧ val (z.take (tlen z)) = val r + 1 ∧ (z.take (tlen z)).length = tlen z ∧ tlen (z.take (tlen z)) = (z.take (tlen z)).length ∧ tlen z ≤ n - 2 * L + 1 ∧ 0 < tlen z) := Lib.hid (by
    have h1 := hs3.1.lo
    have h2 := tlen_le z
    have h3 := hr0'.out
    refine ⟨hs3.1.take _, by rw [htk, val_digs, Int.toNat_of_nonneg h1, hv3], by rw [List.length_take]; omega, by rw [htk]; exact tlen_digs _, by omega, ?_⟩
    rcases Nat.eq_zero_or_pos (tlen z) with h | h
    · have := tlen_zero hs3.1 h; omega
    · exact h)
  have hB3 : Hid (Below w.heap.size w w3) := Lib.hid (below_tr (below_tr hb1'.out hb2) hb3)
  have hRz : Hid (Rdi w3 (some ⟨g3, 0, none⟩) (z.take (tlen z))) := Lib.hid (Rdi_blk_take hz3 _)
  clear hz3 hl3' hs3 hv3 hzl htk hBF hb2 hb3
  generalize z.take (tlen z) = Z at hzz hRz
  generalize tlen z = k at hzz htr
  have hmk := run_make_row' (P := Tryd.prog) 22 3 (.int .i64 0) 8 Tryd.underlying22 info_i64 rfl .i64 .i64 L (by omega) (by omega)
  rw [zvs_zeros] at hmk
  obtain ⟨ZL, hZL⟩ : ∃ Z, zvs (List.replicate L 0) = Z := ⟨_, rfl⟩
  rw [hZL] at hmk
  have hZB : Hid (Blk (w3.alloc (.cells ZL.toArray 3)) w3.heap.size (List.replicate L 0)) := Lib.hid (by rw [← hZL]; exact Blk_new w3 _)
  clear hZL
  have hkn : Hid (L + k ≤ n) := Lib.hid (by have := hzz.out.2.2.2.2.1; omega)
  obtain ⟨pp, cc, w5, hrun, hR5, hcc, hcc2, hpn5, hb5⟩ := append_full w3.heap.size (List.replicate L 0) L (by simp) (some ⟨g3, 0, none⟩) k n3 Z (w3.alloc (.cells ZL.toArray 3)) hZB.out (Rdi_below (below_new _ _) hRz.out) hzz.out.2.2.1.symm hzz.out.2.2.2.2.2 (by have := hkn.out; omega)
  have hfin : Hid (AbvP w x (.returned (.slice pp (L + k) cc)) w5) := Lib.hid (by
    have h1 := hzz.out
    have h2 : val (List.replicate L 0 ++ Z) = pw L * (val r + 1) := by rw [val_append, val_zeros, List.length_replicate, h1.2.1]; omega
    have h3 := hav.out (val r) hrx'.out
    have h4 := pw_pos L
    have h5 := hr0'.out
    have hne : Z ≠ [] := by intro h; rw [h] at h1; simp at h1; omega
    refine ⟨pp, L + k, cc, List.replicate L 0 ++ Z, rfl, hR5, by rw [List.length_append, List.length_replicate, h1.2.2.1], hcc, hcc2, Dg_append (Dg_zeros _) h1.1, by rw [h2]; exact Int.mul_pos h4 (by omega), by rw [h2]; exact h3, tlen_zeros_append L Z h1.2.2.2.1 hne, by rw [← N.out]; exact hkn.out, (fun q hq => by have h7 := hpn5 q hq; have h8 := hB3.out.size; have h9 := (below_new w3 (.cells ZL.toArray 3)).size; omega), below_tr (below_tr hB3.out (below_new _ _)) hb5⟩)
  have hrun' := Lib.hid hrun
  clear hrun hR5 hcc hcc2 hb5 hpn5
  go_wp2_with (first | (go_at_call 39; refine htr.out.mono ?_; rintro e w' ⟨rfl, rfl⟩) | (at_builtin; refine wpList_append_run rfl _ _ 22 22 rfl _ _ rfl rfl _ _ hrun'.out ?_))
  go_ret
  exact hfin.out

/-- the square root of digits -/
theorem root_any : ∀ (n : Nat) (a : Option Addr) (c : Nat) (x : List Int) (w : World), Rdi w a x → n = x.length → n ≤ c → c ≤ 9223372036854775807 → Dg x → tlen x = x.length → n ≤ 274877906943 → 0 < val x →
    Calls Tryd.prog 45 #[.slice a n c] w (RtP w x) := by
  intro n
  induction n using Nat.strongRecOn with
  | _ n ih =>
    intro a c x w hR hn hc hcm hd ht hm hx
    refine root_of a n c x w hR hn hd hm hx fun W hb => ?_
    by_cases h3 : n < 3
    · exact above_small a n c x W (Rdi_below hb hR) hn hd h3 hx
    · exact above_large a n c x W (Rdi_below hb hR) hn hc hcm hd ht (by omega) hm hx fun p m k y W2 hb2 hmn hRy hmy hmk hk hdy hty hy => ih m hmn p k y W2 hRy hmy hmk hk hdy hty (by omega) hy
end Go.Proofs.YtmbkpcnpacncjaaDoor

namespace Go.Proofs.YtmbkpcnpacncjaaDoor
open Go.RowKit

theorem cmp_abs_neg {x y : Int} (hx : x < 0) (hy : y < 0) : cmpI y.natAbs x.natAbs = cmpI x y := by
  unfold cmpI
  rw [show (y.natAbs : Int) = -y by omega, show (x.natAbs : Int) = -x by omega]
  repeat (first | split | omega)
theorem cmp_abs_pos {x y : Int} (hx : ¬ x < 0) (hy : ¬ y < 0) : cmpI x.natAbs y.natAbs = cmpI x y := by
  rw [show (x.natAbs : Int) = x by omega, show (y.natAbs : Int) = y by omega]

set_option maxRecDepth 100000 in
set_option maxHeartbeats 1600000 in
theorem Compare_any (nx ny : Bool) (px py : Option Addr) (lx cx ly cy : Nat) (x y : Int) (w : World) (hx0 : IntAt w nx px lx cx x) (hy0 : IntAt w ny py ly cy y) (hlx : lx ≤ 549755813887) (hly : ly ≤ 549755813887) :
    Calls Tryd.prog 46 #[.agg #[.bool nx, .slice px lx cx], .agg #[.bool ny, .slice py ly cy]] w fun e w' => e = .returned (.int .i64 (cmpI x y)) ∧ Below w.heap.size w w' := by
  have hb : Below w.heap.size w ((w.alloc (.cells #[.bool nx, .slice px lx cx] 24)).alloc (.cells #[.bool ny, .slice py ly cy] 24)) := ((Below.refl _ _).alloc (Nat.le_refl _) _).alloc (by simp) _
  have hb' := Lib.hid hb
  have h1 : Hid (∀ W, Below w.heap.size w W → Calls Tryd.prog 58 #[.slice px lx cx, .slice py ly cy] W fun e w' => e = .returned (.int .i64 (cmpI x.natAbs y.natAbs)) ∧ Below W.heap.size W w') :=
    Lib.hid fun W h => compare_any _ _ _ _ _ _ _ _ W (Rdi_below h hx0.2.2.1) (Rdi_below h hy0.2.2.1) hx0.2.1 hy0.2.1 (by omega) (by omega)
  have h2 : Hid (∀ W, Below w.heap.size w W → Calls Tryd.prog 58 #[.slice py ly cy, .slice px lx cx] W fun e w' => e = .returned (.int .i64 (cmpI y.natAbs x.natAbs)) ∧ Below W.heap.size W w') :=
    Lib.hid fun W h => compare_any _ _ _ _ _ _ _ _ W (Rdi_below h hy0.2.2.1) (Rdi_below h hx0.2.2.1) hy0.2.1 hx0.2.1 (by omega) (by omega)
  have hnx := hx0.1
  have hny := hy0.1
  obtain ⟨r, hr⟩ : ∃ r, cmpI x y = r := ⟨_, rfl⟩
  rw [hr]
  clear hx0 hy0 hb
  cases nx <;> cases ny
  · have e1 : ¬ x < 0 := by simpa using hnx.symm
    have e2 : ¬ y < 0 := by simpa using hny.symm
    rw [cmp_abs_pos e1 e2, hr] at h1
    clear hnx hny hr h2
    go_enter Tryd.func46, Tryd.ntmps46
    go_wp2_with (go_at_call 58; refine (h1.out _ hb'.out).mono ?_; rintro e w1 ⟨rfl, hb1⟩; have hB := Lib.hid (below_tr hb'.out hb1); clear hb1)
    go_ret
    exact ⟨rfl, hB.out⟩
  · have e1 : ¬ x < 0 := by simpa using hnx.symm
    have e2 : y < 0 := by simpa using hny.symm
    rw [cmp_gt (show y < x by omega)] at hr
    subst hr
    clear hnx hny h1 h2 e1 e2
    go_enter Tryd.func46, Tryd.ntmps46
    go_wp2_with fail
    go_ret
    exact ⟨rfl, hb'.out⟩
  · have e1 : x < 0 := by simpa using hnx.symm
    have e2 : ¬ y < 0 := by simpa using hny.symm
    rw [cmp_lt (show x < y by omega)] at hr
    subst hr
    clear hnx hny h1 h2 e1 e2
    go_enter Tryd.func46, Tryd.ntmps46
    go_wp2_with fail
    go_ret
    exact ⟨rfl, hb'.out⟩
  · have e1 : x < 0 := by simpa using hnx.symm
    have e2 : y < 0 := by simpa using hny.symm
    rw [cmp_abs_neg e1 e2, hr] at h2
    clear hnx hny hr h1
    go_enter Tryd.func46, Tryd.ntmps46
    go_wp2_with (go_at_call 58; refine (h2.out _ hb'.out).mono ?_; rintro e w1 ⟨rfl, hb1⟩; have hB := Lib.hid (below_tr hb'.out hb1); clear hb1)
    go_ret
    exact ⟨rfl, hB.out⟩

set_option maxRecDepth 100000 in
set_option maxHeartbeats 800000 in
theorem Sign_any (nx : Bool) (px : Option Addr) (lx cx : Nat) (x : Int) (w : World) (hx0 : IntAt w nx px lx cx x) (hlx : lx ≤ 549755813887) :
    Calls Tryd.prog 53 #[.agg #[.bool nx, .slice px lx cx]] w fun e w' => e = .returned (.int .i64 (cmpI x 0)) ∧ Below w.heap.size w w' := by
  have hc : Hid (∀ W, Below w.heap.size w W → Calls Tryd.prog 46 #[.agg #[.bool nx, .slice px lx cx], .agg #[.bool false, .slice none 0 0]] W fun e w' => e = .returned (.int .i64 (cmpI x 0)) ∧ Below W.heap.size W w') :=
    Lib.hid fun W h => Compare_any _ _ _ _ _ _ _ _ x 0 W (hx0.later h) (IntAt_zero _ _ _ (by omega)) hlx (by omega)
  obtain ⟨r, hr⟩ : ∃ r, cmpI x 0 = r := ⟨_, rfl⟩
  rw [hr] at hc ⊢
  clear hx0 hr
  go_enter Tryd.func53, Tryd.ntmps53
  go_wp2_with (go_at_call 46; refine (hc.out _ (below_new _ _)).mono ?_; rintro e w1 ⟨rfl, hb1⟩; have hB := Lib.hid (below_tr (below_new _ _) hb1); clear hb1)
  go_ret
  exact ⟨rfl, hB.out⟩
end Go.Proofs.YtmbkpcnpacncjaaDoor

namespace Go.Proofs.YtmbkpcnpacncjaaDoor
open Go.RowKit

/-- what Root answers -/
def RootP (w : World) (x : Int) (e : Ending) (w' : World) : Prop :=
  ∃ nb p n c r bl, e = .returned (.tuple #[.agg #[.bool nb, .slice p n c], .bool bl]) ∧ IntAt w' nb p n c r ∧ (x < 0 → r = 0 ∧ bl = false) ∧ (0 ≤ x → 0 ≤ r ∧ r * r ≤ x ∧ x < (r + 1) * (r + 1) ∧ bl = decide (r * r = x)) ∧ Below w.heap.size w w' ∧ ∀ q, p = some q → w.heap.size ≤ q.block

set_option maxRecDepth 100000 in
set_option maxHeartbeats 800000 in
theorem root_nil (p : Option Addr) (c : Nat) (w : World) : Calls Tryd.prog 45 #[.slice p 0 c] w fun e w' => e = .returned (.slice none 0 0) ∧ w = w' := by
  go_enter Tryd.func45, Tryd.ntmps45
  go_wp2_with fail
  go_ret
  exact ⟨rfl, rfl⟩

/-- the boxes of a root -/
def Rt5 (w : World) (nx : Bool) (px : Option Addr) (lx cx : Nat) (g : Nat) (nb : Bool) (p : Option Addr) (n c : Nat) (r : Int) (W : World) : Prop :=
  W.heap[w.heap.size]? = some (.cells #[.bool nx, .slice px lx cx] 24 (0, 0)) ∧ (∃ u v, W.heap[w.heap.size + 1]? = some (.cells #[u, v] 24 (0, 0))) ∧ W.heap[g]? = some (.cells #[.bool nb, .slice p n c] 24 (0, 0)) ∧
  w.heap.size + 1 < g ∧ IntAt W nb p n c r ∧ (∀ q, p = some q → w.heap.size + 1 < q.block) ∧ Below w.heap.size w W
section
variable {w W w' : World} {nx : Bool} {px : Option Addr} {lx cx g : Nat} {nb : Bool} {p : Option Addr} {n c : Nat} {r : Int}
theorem Rt5.facts (h : Rt5 w nx px lx cx g nb p n c r W) : W.cell? ⟨w.heap.size, 0, none⟩ = some (.bool nx) ∧ W.cell? ⟨w.heap.size, 1, none⟩ = some (.slice px lx cx) ∧
    W.cell? ⟨w.heap.size + 1, 0, none⟩ = some (oldv W (w.heap.size + 1) 0) ∧ W.cell? ⟨w.heap.size + 1, 1, none⟩ = some (oldv W (w.heap.size + 1) 1) ∧ W.frozen? ⟨w.heap.size + 1, 0, none⟩ = false ∧ W.frozen? ⟨w.heap.size + 1, 1, none⟩ = false ∧
    W.cell? ⟨g, 0, none⟩ = some (.bool nb) ∧ W.cell? ⟨g, 1, none⟩ = some (.slice p n c) := by
  obtain ⟨h1, ⟨u, v, h3⟩, h4, _⟩ := h
  refine ⟨by simp [World.cell?, h1], by simp [World.cell?, h1], by simp [oldv, World.cell?, h3], by simp [oldv, World.cell?, h3], by simp [World.frozen?, h3], by simp [World.frozen?, h3], by simp [World.cell?, h4], by simp [World.cell?, h4]⟩
theorem Rt5.later (h : Rt5 w nx px lx cx g nb p n c r W) (hb : Below W.heap.size W w') : Rt5 w nx px lx cx g nb p n c r w' := by
  obtain ⟨h1, ⟨u, v, h3⟩, h4, h5, h6, h7, h8⟩ := h
  exact ⟨(hb.block _ (lt_blk h1)).trans h1, ⟨u, v, (hb.block _ (lt_blk h3)).trans h3⟩, (hb.block _ (lt_blk h4)).trans h4, h5, h6.later hb, h7, below_tr h8 hb⟩
theorem Rt5.drew (h : Rt5 w nx px lx cx g nb p n c r W) : Rt5 w nx px lx cx g nb p n c r W.drew := h.later ((Below.refl _ W).drew)
theorem Rt5.res (h : Rt5 w nx px lx cx g nb p n c r W) (a b : Value) : ((W.setCell ⟨w.heap.size + 1, 0, none⟩ a).setCell ⟨w.heap.size + 1, 1, none⟩ b).heap[w.heap.size + 1]? = some (.cells #[a, b] 24 (0, 0)) := by
  obtain ⟨h1, ⟨u, v, h3⟩, _⟩ := h
  rw [heap_setCell_self _ _ _ _ _ _ (heap_setCell_self _ _ _ _ _ _ h3)]; rfl
theorem Rt5.store (h : Rt5 w nx px lx cx g nb p n c r W) (a b : Value) : Rt5 w nx px lx cx g nb p n c r ((W.setCell ⟨w.heap.size + 1, 0, none⟩ a).setCell ⟨w.heap.size + 1, 1, none⟩ b) := by
  have hr := h.res a b
  obtain ⟨h1, ⟨u, v, h3⟩, h4, h5, h6, h7, h8⟩ := h
  have hne : ∀ q, p = some q → q.block ≠ w.heap.size + 1 := fun q hq => by have := h7 q hq; omega
  refine ⟨?_, ⟨a, b, hr⟩, ?_, h5, (h6.store hne).store hne, h7, (h8.setCell (by simp) _).setCell (by simp) _⟩
  · rw [heap_setCell_other _ _ _ _ (by simp), heap_setCell_other _ _ _ _ (by simp)]; exact h1
  · rw [heap_setCell_other _ _ _ _ (by simp; omega), heap_setCell_other _ _ _ _ (by simp; omega)]; exact h4
end

theorem cmp_eq0 (a b : Int) : (cmpI a b == 0) = decide (a = b) := by
  rcases Int.lt_trichotomy a b with h | h | h
  · rw [cmp_lt h, decide_eq_false (by omega)]; rfl
  · rw [h, cmp_eq, decide_eq_true rfl]; rfl
  · rw [cmp_gt h, decide_eq_false (by omega)]; rfl
theorem rt_len' {r : List Int} (hd : Dg r) : (digs (val r).natAbs).length ≤ r.length := by
  have h := tlen_len hd
  have h1 := hd.lo
  rw [show (val r).natAbs = (val r).toNat by omega, h]
  exact tlen_le r
theorem sq_len {r x : Int} (h0 : 0 ≤ r) (h1 : r * r ≤ x) : (digs (r * r).natAbs).length ≤ (digs x.natAbs).length := by
  have := Int.mul_nonneg h0 h0
  exact digs_len_mono (by omega)

set_option maxRecDepth 100000 in
set_option maxHeartbeats 1600000 in
theorem Root_neg (px : Option Addr) (lx cx : Nat) (x : Int) (w : World) (hx0 : IntAt w true px lx cx x) :
    Calls Tryd.prog 31 #[.agg #[.bool true, .slice px lx cx]] w (RootP w x) := by
  have hneg : Hid (x < 0) := Lib.hid (by have := hx0.1; simpa using this.symm)
  have hS0 := Lib.hid (@Ar1.start true px lx cx w)
  clear hx0
  go_enter Tryd.func31, Tryd.ntmps31
  go_upto_if 6 with fail
  generalize (w.alloc (.cells #[.bool true, .slice px lx cx] 24)).alloc (.cells #[.bool false, .slice none 0 0] 24) = W0 at hS0 ⊢
  have hS1 := hS0.out
  have hf := hS1.facts
  have hfin : Hid (RootP w x (.returned (.tuple #[.agg #[.bool false, .slice none 0 0], .bool false])) ((W0.setCell ⟨w.heap.size + 1, 0, none⟩ (.bool false)).setCell ⟨w.heap.size + 1, 1, none⟩ (.slice none 0 0))) := Lib.hid ⟨_, _, _, _, 0, _, rfl, IntAt_zero _ _ _ (by omega), fun _ => ⟨rfl, rfl⟩, fun h => by have := hneg.out; omega, (hS1.store _ _).2.2, fun q hq => by cases hq⟩
  go_wp2_with fail
  exact bodyPost_ret (v := .tuple #[.agg #[.bool false, .slice none 0 0], .bool false]) (results_cell1 rfl _ _ (w.heap.size + 1) 24 _ (0, 0) _ _ rfl rfl (hS1.res _ _) Tryd.underlying24 rfl size_Int) rfl hfin.out

set_option maxRecDepth 100000 in
set_option maxHeartbeats 1600000 in
theorem Root_pos (px : Option Addr) (lx cx : Nat) (x : Int) (w : World) (hx0 : IntAt w false px lx cx x) (hlx : lx ≤ 274877906943) :
    Calls Tryd.prog 31 #[.agg #[.bool false, .slice px lx cx]] w (RootP w x) := by
  have hneg : Hid (0 ≤ x) := Lib.hid (by have := hx0.1; simp at this; omega)
  have hS0 := Lib.hid (@Ar1.start false px lx cx w)
  have hx := Lib.hid hx0
  have hrt : Hid (∀ W, Below w.heap.size w W → Calls Tryd.prog 45 #[.slice px lx cx] W fun e w' => ∃ p n c r, e = .returned (.slice p n c) ∧ Rdi w' p r ∧ r.length = n ∧ n ≤ c ∧ c ≤ 9223372036854775807 ∧ Dg r ∧ n ≤ lx ∧ 0 ≤ val r ∧ val r * val r ≤ x ∧ x < (val r + 1) * (val r + 1) ∧ Below W.heap.size W w' ∧ ∀ q, p = some q → W.heap.size ≤ q.block) := Lib.hid fun W hb => by
    have h0 := hneg.out
    by_cases hl : lx = 0
    · subst hl
      have hx00 : x = 0 := by have := digs_nil.1 (List.eq_nil_of_length_eq_zero hx0.2.1.symm); omega
      exact (root_nil px cx W).mono fun e w' ⟨he, hw⟩ => ⟨none, 0, 0, [], he, .inl rfl, rfl, Nat.le_refl _, by omega, Dg_nil, Nat.le_refl _, by simp [val], by rw [hx00]; simp [val], by rw [hx00]; simp [val], hw ▸ Below.refl _ _, fun q hq => by cases hq⟩
    · have hxp : 0 < val (digs x.natAbs) := by
        rw [val_digs]
        rcases Nat.eq_zero_or_pos x.natAbs with h | h
        · exfalso; apply hl; rw [hx0.2.1, h, digs_zero]; rfl
        · omega
      exact (root_any lx px cx (digs x.natAbs) W (Rdi_below hb hx0.2.2.1) hx0.2.1 hx0.2.2.2.1 hx0.2.2.2.2 (Dg_digs _) (tlen_digs _) hlx hxp).mono fun e w' ⟨p, n, c, r, he, h1, h2, h3, h4, h5, h6, h7, h8, h9, h10, h12, h11⟩ => by
        rw [val_digs, show (x.natAbs : Int) = x by omega] at h7 h8
        exact ⟨p, n, c, r, he, h1, h2, h3, h4, h5, by rw [hx0.2.1]; exact h10, h6, h7, h8, h11, h12⟩
  clear hx0
  go_enter Tryd.func31, Tryd.ntmps31
  go_upto_if 6 with fail
  generalize (w.alloc (.cells #[.bool false, .slice px lx cx] 24)).alloc (.cells #[.bool false, .slice none 0 0] 24) = W0 at hS0 ⊢
  have hS1 := hS0.out
  have hf := hS1.facts
  go_upto_region 1 with (first | (go_at_call 45; refine (hrt.out _ hS1.2.2).mono ?_; rintro e w1 ⟨p, n, c, r, rfl, hR, hl, hnc, hcb, hd, hnl, hr0, hr1, hr2, hb1, hpn⟩; have hpn' := Lib.hid hpn; have hS2 := Lib.hid (hS1.later hb1); have hR' := Lib.hid hR; have hl' := Lib.hid hl; have hd' := Lib.hid hd; have hr0' := Lib.hid hr0; have hr1' := Lib.hid hr1; have hr2' := Lib.hid hr2; clear hR hl hd hr0 hr1 hr2 hb1 hpn) | (go_at_call 26; refine (made_any _ _ _ _ r _ hR'.out hl'.out.symm hnc hcb hd'.out).mono ?_; rintro e w2 ⟨nb, p2, n2, c2, rfl, hI, hb2, hp2⟩; have hI' := Lib.hid hI; have hb2' := Lib.hid hb2; have hp2' := Lib.hid hp2; clear hI hb2 hp2))
  have hv : sg false (val r) = val r := rfl
  rw [hv] at hI'
  have hSB : Rt5 w false px lx cx w2.heap.size nb p2 n2 c2 (val r) (w2.alloc (.cells #[.bool nb, .slice p2 n2 c2] 24)) := by
    have h3 := hS2.out.later hb2'.out
    obtain ⟨k1, ⟨u, v, k2⟩, k3⟩ := h3
    refine ⟨?_, ⟨u, v, ?_⟩, heap_alloc_new _ _, lt_blk k2, hI'.out.later (below_new _ _), fun q hq => ?_, below_tr k3 (below_new _ _)⟩
    · rw [Below.heap_alloc _ _ _ (lt_blk k1)]; exact k1
    · rw [Below.heap_alloc _ _ _ (lt_blk k2)]; exact k2
    · have h4 := hpn'.out q (hp2'.out q hq)
      have h5 := hS1.top
      omega
  clear hf hv
  obtain ⟨g, hg⟩ : ∃ g, w2.heap.size = g := ⟨_, rfl⟩
  rw [hg] at hSB ⊢
  have hnl2 : Hid (n2 ≤ 274877906943) := Lib.hid (by
    have h1 := hI'.out.2.1
    have h2 := rt_len' hd'.out
    have h3 := hl'.out
    omega)
  generalize w2.alloc (.cells #[.bool nb, .slice p2 n2 c2] 24) = W3 at hSB ⊢
  clear hg
  have hfa := fun W (h : Rt5 w false px lx cx g nb p2 n2 c2 (val r) W) => h.facts
  have hmul : Hid (∀ W, Rt5 w false px lx cx g nb p2 n2 c2 (val r) W → Calls Tryd.prog 30 #[.agg #[.bool nb, .slice p2 n2 c2], .agg #[.bool nb, .slice p2 n2 c2]] W (RetI W (val r * val r))) := Lib.hid fun W h => Mul_any nb nb p2 p2 n2 c2 n2 c2 (val r) (val r) W h.2.2.2.2.1 h.2.2.2.2.1 (by have := hnl2.out; omega) (by have := hnl2.out; omega)
  have hcmp : Hid (∀ W nb3 p3 n3 c3, Rt5 w false px lx cx g nb p2 n2 c2 (val r) W → IntAt W nb3 p3 n3 c3 (val r * val r) → Calls Tryd.prog 46 #[.agg #[.bool nb3, .slice p3 n3 c3], .agg #[.bool false, .slice px lx cx]] W fun e w' => e = .returned (.int .i64 (cmpI (val r * val r) x)) ∧ Below W.heap.size W w') := Lib.hid fun W nb3 p3 n3 c3 h hI => Compare_any nb3 false p3 px n3 c3 lx cx (val r * val r) x W hI (hx.out.later h.2.2.2.2.2.2) (by
      have h1 := hI.2.1
      have h2 := sq_len hr0'.out hr1'.out
      have h3 := hx.out.2.1
      omega) (by omega)
  have hce : Hid ((cmpI (val r * val r) x == 0) = decide (val r * val r = x)) := Lib.hid (cmp_eq0 _ _)
  obtain ⟨C, hC⟩ : ∃ C, cmpI (val r * val r) x = C := ⟨_, rfl⟩
  rw [hC] at hcmp hce
  clear hC
  go_region_held3 (fun W => Rt5 w false px lx cx g nb p2 n2 c2 (val r) W) (first | exact Rt5.drew (by assumption) | exact Rt5.later (by assumption) (by assumption) | exact Rt5.store (by assumption) _ _) (first | (go_at_call 30; refine (hmul.out _ (by assumption)).mono ?_; rintro e w4 ⟨nb3, p3, n3, c3, rfl, hI3, hb4, hp3⟩; have hI3' := Lib.hid hI3; clear hI3 hp3) | (go_at_call 46; refine (hcmp.out _ _ _ _ _ (by assumption) hI3'.out).mono ?_; rintro e w5 ⟨rfl, hb5⟩))
  have hS5 : Rt5 w false px lx cx g nb p2 n2 c2 (val r) w5 := (hSB.drew.later hb4).later hb5
  have hfin : Hid (RootP w x (.returned (.tuple #[.agg #[.bool nb, .slice p2 n2 c2], .bool (C == 0)])) ((w5.setCell ⟨w.heap.size + 1, 0, none⟩ (.bool nb)).setCell ⟨w.heap.size + 1, 1, none⟩ (.slice p2 n2 c2))) := Lib.hid ⟨_, _, _, _, val r, _, rfl, (hS5.store _ _).2.2.2.2.1, fun h => by have := hneg.out; omega, fun _ => ⟨hr0'.out, hr1'.out, hr2'.out, hce.out⟩, (hS5.store _ _).2.2.2.2.2.2, fun q hq => by have := hS5.2.2.2.2.2.1 q hq; omega⟩
  go_wp2_with fail
  exact bodyPost_ret (v := .tuple #[.agg #[.bool nb, .slice p2 n2 c2], .bool (C == 0)]) (results_cell1 rfl _ _ (w.heap.size + 1) 24 _ (0, 0) _ _ rfl rfl (hS5.res _ _) Tryd.underlying24 rfl size_Int) rfl hfin.out
theorem Root_any (nx : Bool) (px : Option Addr) (lx cx : Nat) (x : Int) (w : World) (hx0 : IntAt w nx px lx cx x) (hlx : lx ≤ 274877906943) :
    Calls Tryd.prog 31 #[.agg #[.bool nx, .slice px lx cx]] w (RootP w x) := by
  cases nx
  · exact Root_pos px lx cx x w hx0 hlx
  · exact Root_neg px lx cx x w hx0
end Go.Proofs.YtmbkpcnpacncjaaDoor
