/- Contracts of the package integer and its reference: The reference: minus. The reference: Mul. The reference: compared. The reference: Add. The reference: Power. -/
import Derived.Test.YtmbkpcnpacncjaaDoorM9
import Derived.Test.YtmbkpcnpacncjaaDoorM7
import Derived.Deep.RegionWith
set_option linter.unusedVariables false
namespace Go.Proofs.YtmbkpcnpacncjaaDoor
open Go.RowKit

/-- a difference, from the lowest digit on -/
structure MinI (l m : List Int) (k : Nat) (b : Int) (z : List Int) : Prop where
  len : z.length = k
  dg : Dg z
  sum : val z - pw k * b = val (l.take k) - val (m.take k)
  lo : 0 ≤ b
  hi : b ≤ 1
theorem MinI.start (l m : List Int) : MinI l m 0 0 [] := ⟨rfl, Dg_nil, by simp [val], by omega, by omega⟩
theorem MinI.keep {l m z : List Int} {k : Nat} {b : Int} (h : MinI l m k b z) (hl : Dg l) (hm : Dg m) (hv : 0 ≤ iat l k - iat m k - b) : MinI l m (k + 1) 0 (z ++ [iat l k - iat m k - b]) := by
  have h1 := hl.all k
  have h2 := hm.all k
  have h3 := h.lo
  have hs := h.sum
  have hlen := h.len
  refine ⟨by rw [List.length_append, hlen]; rfl, Dg_append h.dg (Dg_cons (by omega) (by omega) Dg_nil), ?_, by omega, by omega⟩
  rw [val_append, hlen, val_take', val_take']
  show val z + pw k * ((iat l k - iat m k - b) + 1000000000 * 0) - 1000000000 * pw k * 0 = _
  grind
theorem MinI.take_ {l m z : List Int} {k : Nat} {b : Int} (h : MinI l m k b z) (hl : Dg l) (hm : Dg m) (hv : iat l k - iat m k - b < 0) : MinI l m (k + 1) 1 (z ++ [iat l k - iat m k - b + 1000000000]) := by
  have h1 := hl.all k
  have h2 := hm.all k
  have h3 := h.hi
  have hs := h.sum
  have hlen := h.len
  refine ⟨by rw [List.length_append, hlen]; rfl, Dg_append h.dg (Dg_cons (by omega) (by omega) Dg_nil), ?_, by omega, by omega⟩
  rw [val_append, hlen, val_take', val_take']
  show val z + pw k * ((iat l k - iat m k - b + 1000000000) + 1000000000 * 0) - 1000000000 * pw k * 1 = _
  grind
theorem MinI.done {l m z : List Int} {b : Int} (h : MinI l m l.length b z) (hml : m.length ≤ l.length) (hle : val m ≤ val l) : DifP l m z := by
  have hs := h.sum
  rw [List.take_length, List.take_of_length_le hml] at hs
  have h1 := h.dg.hi
  rw [h.len] at h1
  have h2 := h.lo
  have h3 := h.hi
  have hb : b = 0 := by
    rcases Int.lt_or_le 0 b with h4 | h4
    · have : b = 1 := by omega
      subst this
      omega
    · omega
  subst hb
  exact ⟨h.dg, by simpa using hs, h.len⟩
def MinL (w : World) (l m : List Int) (k : Nat) (b : Int) (v : Value) (wr : World) : Prop := ∃ z, MinI l m k b z ∧ GrowI w v z wr

set_option maxRecDepth 100000 in
set_option maxHeartbeats 1600000 in
theorem minus_any (a1 a2 : Option Addr) (n1 c1 n2 c2 : Nat) (l m : List Int) (w : World) (hR1 : Rdi w a1 l) (hR2 : Rdi w a2 m) (hn1 : n1 = l.length) (hn2 : n2 = m.length) (hd1 : Dg l) (hd2 : Dg m) (hm1 : n1 ≤ 1099511627775) (hle : n2 ≤ n1) (hv0 : val m ≤ val l) :
    Calls Tryd.prog 22 #[.slice a1 n1 c1, .slice a2 n2 c2] w (NewS w (DifP l m)) := by
  obtain ⟨i0, hi, hz0, hz1, hz2⟩ := info_parts info_i64
  have H1 := Lib.hid hR1
  have H2 := Lib.hid hR2
  have N1 := Lib.hid hn1
  have N2 := Lib.hid hn2
  have D1 := Lib.hid hd1
  have D2 := Lib.hid hd2
  have hv := Lib.hid hv0
  have hI : Hid (MinL w l m 0 0 (.slice none 0 0) w) := Lib.hid ⟨[], MinI.start l m, GrowI.start w⟩
  clear hR1 hR2 hn1 hn2 hd1 hd2 hv0
  go_enter Tryd.func22, Tryd.ntmps22
  go_wp2_with fail
  go_loopw [5, 6, 7] (fun v bv iv wr => ∃ (k : Nat) (b : Int), k ≤ n1 ∧ iv = .int .i64 (k : Int) ∧ bv = .int .i64 b ∧ MinL w l m k b v wr) (fun _ _ iv _ => n1 - (intOf iv).toNat)
  case atStart => exact ⟨0, 0, by omega, rfl, rfl, hI.out⟩
  case round =>
    obtain ⟨k, b, hk, rfl, rfl, z, hP, hG⟩ := hrel
    clear hI
    have hzl : Hid (z.length = k) := Lib.hid hP.len
    by_cases hlt : k < n1
    · have hB := hG.2
      have gq : Hid (∀ q, Calls Tryd.prog 38 #[.slice a2 n2 c2, .int .i64 (k : Int)] (wr.drewN q) fun e w' => e = .returned (.int .i64 (iat m k)) ∧ wr.drewN q = w') := Lib.hid fun q => digit_any _ _ _ _ _ (wr.drewN q) (Rdi_below (below_drewN hB q) H2.out) N2.out
      obtain ⟨b1, o1, rfl, hc1⟩ := Rdi_at H1.out k (by rw [← N1.out]; exact hlt)
      have cx := Below.cell_of' hB hc1
      have hx := D1.out.all k
      have hy := D2.out.all k
      have hb0 := hP.lo
      have hb1 := hP.hi
      have hkeep := Lib.hid (fun h => hP.keep D1.out D2.out h)
      have htake := Lib.hid (fun h => hP.take_ D1.out D2.out h)
      obtain ⟨x, hxx⟩ : ∃ x, iat l k = x := ⟨_, rfl⟩
      obtain ⟨y, hyy⟩ : ∃ y, iat m k = y := ⟨_, rfl⟩
      rw [hxx] at cx hx hkeep htake
      rw [hyy] at gq hy hkeep htake
      obtain ⟨hx1, hx2⟩ := hx
      obtain ⟨hy1, hy2⟩ := hy
      have hG' := Lib.hid hG
      have hsz := hB.size
      have k0 : 0 ≤ (k : Int) := by omega
      have k1 : (k : Int) < (n1 : Int) := by omega
      have k2 : ((k : Int)).toNat = k := by omega
      have s0 : -1000000000 < x - y := by omega
      have s1 : x - y < 1000000000 := by omega
      have s2 : -1000000001 < x - y - b := by omega
      have s3 : x - y - b < 1000000000 := by omega
      clear hP hG hB hxx hyy hc1
      by_cases hneg : x - y - b < 0
      · have hst := Lib.hid (htake.out hneg)
        have s4 : 0 ≤ x - y - b + 1000000000 := by omega
        clear hkeep htake
        go_wp2_with fail
        go_quiet ((go_at_call 38; exact q_left (gq.out _)))
        have hGq := Lib.hid (hG'.out.drewN nq)
        have hsq : w.heap.size ≤ (wr.drewN nq).heap.size := hsz
        generalize wr.drewN nq = wq at hGq hsq ⊢
        clear cx hG'
        go_wp2_with (at_builtin; refine wpList_append_own _ rfl _ _ 22 rfl w.heap.size 3 i0 (.int .i64 0) 1 8 Tryd.underlying22 hi hz0 hz1 hz2 rfl (by decide) _ _ _ rfl (hGq.out.1.alloc _) ⟨wq.heap.size, 0, none⟩ 1 1 [.int .i64 (x - y - b + 1000000000)] rfl rfl (cell_one_new _ _ _) (by intro u hu; simp at hu; subst hu; rfl) (by rw [hzl.out]; unfold maxLen; omega) (by rw [hzl.out]; omega) (by simp; omega) ?_; intro v2 w2 ho2 hg2 _; have hG2 := Lib.hid (hGq.out.push ho2 hg2); clear ho2 hg2)
        exact ⟨⟨k + 1, _, by omega, by simp, rfl, _, hst.out, hG2.out⟩, by simp only [intOf]; omega⟩
      · have hst := Lib.hid (hkeep.out (by omega))
        clear hkeep htake
        go_wp2_with fail
        go_quiet ((go_at_call 38; exact q_left (gq.out _)))
        have hGq := Lib.hid (hG'.out.drewN nq)
        have hsq : w.heap.size ≤ (wr.drewN nq).heap.size := hsz
        generalize wr.drewN nq = wq at hGq hsq ⊢
        clear cx hG'
        go_wp2_with (at_builtin; refine wpList_append_own _ rfl _ _ 22 rfl w.heap.size 3 i0 (.int .i64 0) 1 8 Tryd.underlying22 hi hz0 hz1 hz2 rfl (by decide) _ _ _ rfl (hGq.out.1.alloc _) ⟨wq.heap.size, 0, none⟩ 1 1 [.int .i64 (x - y - b)] rfl rfl (cell_one_new _ _ _) (by intro u hu; simp at hu; subst hu; rfl) (by rw [hzl.out]; unfold maxLen; omega) (by rw [hzl.out]; omega) (by simp; omega) ?_; intro v2 w2 ho2 hg2 _; have hG2 := Lib.hid (hGq.out.push ho2 hg2); clear ho2 hg2)
        exact ⟨⟨k + 1, _, by omega, by simp, rfl, _, hst.out, hG2.out⟩, by simp only [intOf]; omega⟩
    · have hk' : k = n1 := by omega
      subst hk'
      have hf := Lib.hid (hG.done (MinI.done (by rw [← N1.out]; exact hP) (by rw [← N1.out, ← N2.out]; exact hle) hv.out))
      clear hP hG
      go_wp2_with fail
      go_ret
      exact hf.out
end Go.Proofs.YtmbkpcnpacncjaaDoor

namespace Go.Proofs.YtmbkpcnpacncjaaDoor
open Go.RowKit

theorem Ar2.other {w W : World} {nx : Bool} {px : Option Addr} {lx cx : Nat} {ny : Bool} {py : Option Addr} {ly cy : Nat} (h : Ar2 w nx px lx cx ny py ly cy W) {g i : Nat} {v : Value} (hg : w.heap.size + 1 + 1 < g) : Ar2 w nx px lx cx ny py ly cy (W.setCell ⟨g, i, none⟩ v) := by
  obtain ⟨h1, h2, ⟨u, v, h3⟩, h4⟩ := h
  refine ⟨?_, ?_, ⟨u, v, ?_⟩, h4.setCell (by simp; omega) _⟩
  · rw [heap_setCell_other _ _ _ _ (by simp; omega)]; exact h1
  · rw [heap_setCell_other _ _ _ _ (by simp; omega)]; exact h2
  · rw [heap_setCell_other _ _ _ _ (by simp; omega)]; exact h3
def RMulL (w : World) (nx : Bool) (px : Option Addr) (lx cx : Nat) (ny : Bool) (py : Option Addr) (ly cy : Nat) (g : Nat) (l m : List Int) (i : Nat) (wr : World) : Prop := ∃ z, MulA l m i z ∧ Blk wr g z ∧ Ar2 w nx px lx cx ny py ly cy wr
def RMulM (w : World) (nx : Bool) (px : Option Addr) (lx cx : Nat) (ny : Bool) (py : Option Addr) (ly cy : Nat) (g : Nat) (l m : List Int) (i j : Nat) (over : Int) (wr : World) : Prop := ∃ z, MulB l m i j over z ∧ Blk wr g z ∧ Ar2 w nx px lx cx ny py ly cy wr

set_option maxRecDepth 100000 in
set_option maxHeartbeats 3200000 in
theorem rMul_any (nx ny : Bool) (px py : Option Addr) (lx cx ly cy : Nat) (x y : Int) (w : World) (hx0 : IntZ w nx px lx cx x) (hy0 : IntZ w ny py ly cy y) (hlx : lx ≤ 549755813887) (hly : ly ≤ 549755813887) :
    Calls Tryd.prog 37 #[.agg #[.bool nx, .slice px lx cx], .agg #[.bool ny, .slice py ly cy]] w (RetI w (x * y)) := by
  have H1 := Lib.hid hx0.2.2.1
  have H2 := Lib.hid hy0.2.2.1
  have N1 := Lib.hid hx0.2.1
  have N2 := Lib.hid hy0.2.1
  have D1 := Lib.hid (Dg_digs x.natAbs)
  have D2 := Lib.hid (Dg_digs y.natAbs)
  have hsg : Hid (sg (nx != ny) (val (digs x.natAbs) * val (digs y.natAbs)) = x * y) := Lib.hid (by
    rw [val_digs, val_digs]
    have h1 := wk_neg hx0.1
    have h2 := wk_neg hy0.1
    by_cases hxz : x = 0
    · subst hxz; cases nx <;> cases ny <;> simp [sg]
    · by_cases hyz : y = 0
      · subst hyz; cases nx <;> cases ny <;> simp [sg]
      · rw [hx0.1 hxz, hy0.1 hyz]; exact mul_sg x y)
  have hS0 := Lib.hid (@Ar2.start nx px lx cx ny py ly cy w)
  have hf := Lib.hid (fun W (h : Ar2 w nx px lx cx ny py ly cy W) => h.facts)
  generalize digs x.natAbs = l at H1 N1 D1 hsg
  generalize digs y.natAbs = m at H2 N2 D2 hsg
  clear hx0 hy0
  have hmk := run_make_row' (P := Tryd.prog) 22 3 (.int .i64 0) 8 Tryd.underlying22 info_i64 rfl .i64 .i64 (lx + ly) (by omega) (by omega)
  rw [zvs_zeros, show ((lx + ly : Nat) : Int) = (lx : Int) + (ly : Int) by omega] at hmk
  obtain ⟨Z, hZ⟩ : ∃ Z, zvs (List.replicate (lx + ly) 0) = Z := ⟨_, rfl⟩
  rw [hZ] at hmk
  have hZ' := Lib.hid hZ
  clear hZ
  go_enter Tryd.func37, Tryd.ntmps37
  go_upto_region 1 with fail
  generalize ((w.alloc (.cells #[.bool nx, .slice px lx cx] 24)).alloc (.cells #[.bool ny, .slice py ly cy] 24)).alloc (.cells #[.bool false, .slice none 0 0] 24) = W0 at hS0 ⊢
  have hS1 := hS0.out
  have hf1 := hf.out _ hS1
  have hI : Hid (RMulL w nx px lx cx ny py ly cy W0.heap.size l m 0 (W0.alloc (.cells Z.toArray 3))) := Lib.hid ⟨_, MulA.start l m, by rw [← N1.out, ← N2.out]; have := hZ'.out; rw [← this]; exact Blk_new _ _, hS1.later (below_new _ _)⟩
  have hgt : Hid (w.heap.size + 1 + 1 < W0.heap.size) := Lib.hid hS1.top
  clear hS0
  go_wp2_with fail
  generalize W0.alloc (.cells Z.toArray 3) = w1 at hI ⊢
  generalize W0.heap.size = g at hI hgt ⊢
  clear hmk hS1 hf1
  go_loopw [6] (fun iv wr => ∃ k : Nat, k ≤ lx ∧ iv = .int .i64 (k : Int) ∧ RMulL w nx px lx cx ny py ly cy g l m k wr) (fun iv _ => lx - (intOf iv).toNat)
  case atStart => exact ⟨0, Nat.zero_le _, rfl, hI.out⟩
  case round =>
    obtain ⟨i, hi, rfl, hL⟩ := hrel
    clear hI
    have hf2 : _ := hf.out _ hL.choose_spec.2.2
    by_cases hlt : i < lx
    · have hM : Hid (RMulM w nx px lx cx ny py ly cy g l m i 0 0 wr) := Lib.hid (by
        obtain ⟨z, hA, hz, hB⟩ := hL
        exact ⟨z, hA.row, hz, hB⟩)
      have i0 : 0 ≤ (i : Int) := by omega
      have i1 : (i : Int) < (lx : Int) := by omega
      clear hL
      go_wp2_with fail
      obtain ⟨wo, rfl⟩ : ∃ wo : World, wo = wr := ⟨_, rfl⟩
      clear hf2
      have hlt' := Lib.hid hlt
      clear hlt
      go_loopw [7, 8] (fun ov jv wr => ∃ (j : Nat) (over : Int), j ≤ ly ∧ jv = .int .i64 (j : Int) ∧ ov = .int .i64 over ∧ RMulM w nx px lx cx ny py ly cy g l m i j over wr) (fun _ jv _ => ly - (intOf jv).toNat)
      case atStart => exact ⟨0, 0, Nat.zero_le _, rfl, rfl, hM.out⟩
      case round =>
        obtain ⟨j, over, hj, rfl, rfl, z, hB, hz, hA2⟩ := hrel
        clear hM
        have hf3 := hf.out _ hA2
        have hil : i < l.length := by rw [← N1.out]; exact hlt'.out
        by_cases hlt : j < ly
        · obtain ⟨b1, o1, hpx, hcx0⟩ := Rdi_at H1.out i hil
          obtain ⟨b2, o2, hpy, hcy0⟩ := Rdi_at H2.out j (by rw [← N2.out]; exact hlt)
          have kx := Below.cell_of' hA2.2.2.2 hcx0
          have ky := Below.cell_of' hA2.2.2.2 hcy0
          have hkz : i + j < z.length := by rw [hB.len, ← N1.out, ← N2.out]; omega
          have cz := hz.cell hkz
          have cf := hz.free (i + j)
          have hx1 := D1.out.all i
          have hnx := hB.next hil (by rw [← N2.out]; exact hlt) hx1.1 hx1.2 D2.out
          have hst : Hid (∀ q, RMulM w nx px lx cx ny py ly cy g l m i (j + 1) ((iat l i * iat m j + iat z (i + j) + over) / 1000000000) ((wr.drewN q).setCell ⟨g, i + j, none⟩ (.int .i64 ((iat l i * iat m j + iat z (i + j) + over) % 1000000000)))) := Lib.hid fun q => ⟨_, hnx, Blk.set (hz.drewN q) _ _, (hA2.later (below_drewN (Below.refl _ _) q)).other hgt.out⟩
          have hy1 := D2.out.all j
          have hz1 := hB.dg.all (i + j)
          have ho1 := hB.lo
          have ho2 := hB.hi
          have hmd := mul_digit hx1.1 hx1.2 hy1.1 hy1.2 hz1.1 hz1.2 ho1 ho2
          obtain ⟨x', hxx⟩ : ∃ x, iat l i = x := ⟨_, rfl⟩
          obtain ⟨y', hyy⟩ : ∃ y, iat m j = y := ⟨_, rfl⟩
          obtain ⟨v, hvv⟩ : ∃ v, iat z (i + j) = v := ⟨_, rfl⟩
          rw [hxx] at kx hst hmd
          rw [hyy] at ky hst hmd
          rw [hvv] at cz hst hz1 hmd
          rw [Int.add_comm (x' * y') v] at hst hmd
          obtain ⟨q1, q2, q3, q4⟩ := hmd
          obtain ⟨hz3, hz4⟩ := hz1
          have j0 : 0 ≤ (j : Int) := by omega
          have j1 : (j : Int) < (ly : Int) := by omega
          have j2 : (i : Int) + (j : Int) < (lx : Int) + (ly : Int) := by omega
          have j3 : 0 ≤ (i : Int) + (j : Int) := by omega
          have j4 : ((i : Int) + (j : Int)).toNat = i + j := by omega
          have j5 : ((i : Int)).toNat = i := by omega
          have j6 : ((j : Int)).toNat = j := by omega
          have v1 : 0 ≤ v + x' * y' := by omega
          have v2 : v + x' * y' < 2000000000000000000 := by omega
          have u1 : IntKind.i64.wrap ((i : Int) + (j : Int)) = (i : Int) + (j : Int) := IntWalk.i64_in _ (by omega)
          have u2 : IntKind.i64.wrap (x' * y') = x' * y' := IntWalk.i64_in _ (by omega)
          have u3 : IntKind.i64.wrap (v + x' * y') = v + x' * y' := IntWalk.i64_in _ (by omega)
          have u4 : IntKind.i64.wrap (v + x' * y' + over) = v + x' * y' + over := IntWalk.i64_in _ (by omega)
          have hfin2 : Hid (ly - (j + 1) < ly - j) := Lib.hid (by omega)
          subst hpx hpy
          clear hB hz hA2 hcx0 hcy0 hkz hil hnx hxx hyy hvv hx1 hy1 hlt
          go_wp2_with fail
          go_quiet (fail)
          have czq : (wr.drewN nq).cell? ⟨g, i + j, none⟩ = some (.int .i64 v) := cz
          have cfq : (wr.drewN nq).frozen? ⟨g, i + j, none⟩ = false := cf
          have hstq := Lib.hid (hst.out nq)
          generalize wr.drewN nq = wq at czq cfq hstq ⊢
          clear cz cf kx ky hf3 u2 u3 u4
          go_wp2_with fail
          exact ⟨⟨j + 1, _, by omega, by simp, rfl, hstq.out⟩, by simp [intOf]; exact hfin2.out⟩
        · obtain rfl : ly = j := by omega
          have hkz : i + ly < z.length := by rw [hB.len, ← N1.out, ← N2.out]; have := hlt'.out; omega
          have cz := hz.cell hkz
          have cf := hz.free (i + ly)
          rw [N2.out] at hB
          have hdn := hB.done hil
          rw [← N2.out] at hdn
          have hst : Hid (RMulL w nx px lx cx ny py ly cy g l m (i + 1) (wr.setCell ⟨g, i + ly, none⟩ (.int .i64 over))) := Lib.hid ⟨_, hdn, hz.set _ _, hA2.other hgt.out⟩
          have hii := hlt'.out
          have hii2 : Hid (lx - (i + 1) < lx - i) := Lib.hid (by omega)
          have j0 : 0 ≤ (ly : Int) := by omega
          generalize iat z (i + ly) = v at cz
          clear hB hz hA2 hil hkz hdn hlt
          go_wp2_with fail
          exact ⟨⟨i + 1, by omega, by simp, hst.out⟩, by simp [intOf]; exact hii2.out⟩
    · have hk' : i = lx := by omega
      subst hk'
      obtain ⟨z, hA, hz, hB⟩ := hL
      have hno : Hid (Calls Tryd.prog 19 #[.bool (!nx == ny), .slice (some ⟨g, 0, none⟩) (i + ly) (i + ly)] wr (RetF (fun q => some (⟨g, 0, none⟩ : Addr) = some q) wr (sg (!nx == ny) (val z)))) := Lib.hid (normal_any _ _ _ _ z wr hz.rdi (by rw [hA.len, N1.out, N2.out]) (Nat.le_refl _) (by omega) hA.dg)
      have hsg2 : Hid (sg (!nx == ny) (val z) = x * y) := Lib.hid (by rw [hA.sum, N1.out, List.take_length, ← hsg.out]; cases nx <;> cases ny <;> rfl)
      have hB' := hB
      clear hz hA hB hsg
      go_wp2_with fail
      refine hno.out.mono ?_
      rintro e w2 ⟨nb, p, n2, c2, rfl, hI0, hb2, hp0⟩
      have hS2 := hB'.later hb2
      have hf4 := hf.out _ hS2
      have hfin := Lib.hid (hS2.ret hI0 (fun q hq => by
        have := hp0 q hq
        cases this
        exact hgt.out) hsg2.out)
      clear hI0 hb2 hp0
      go_wp2_with fail
      exact bodyPost_ret (v := .agg #[.bool nb, .slice p n2 c2]) (results_cell_row rfl _ _ (w.heap.size + 1 + 1) 24 _ (0, 0) _ rfl (hS2.res _ _) Tryd.underlying24 rfl size_Int) rfl hfin.out
end Go.Proofs.YtmbkpcnpacncjaaDoor

namespace Go.Proofs.YtmbkpcnpacncjaaDoor
open Go.RowKit

set_option maxRecDepth 100000 in
set_option maxHeartbeats 800000 in
theorem compared_any (a1 a2 : Option Addr) (n1 c1 n2 c2 : Nat) (x y : Nat) (w : World) (hR1 : Rdi w a1 (digs x)) (hR2 : Rdi w a2 (digs y)) (hn1 : n1 = (digs x).length) (hn2 : n2 = (digs y).length) (hm1 : n1 ≤ 9223372036854775807) (hm2 : n2 ≤ 9223372036854775807) :
    Calls Tryd.prog 21 #[.slice a1 n1 c1, .slice a2 n2 c2] w fun e w' => e = .returned (.int .i64 (cmpI x y)) ∧ Below w.heap.size w w' := by
  have H1 := Lib.hid hR1
  have H2 := Lib.hid hR2
  have N1 := Lib.hid hn1
  have N2 := Lib.hid hn2
  clear hR1 hR2 hn1 hn2
  rcases Nat.lt_trichotomy n1 n2 with hlt | heq | hgt
  · have t1 : (n1 : Int) < (n2 : Int) := by omega
    have hr : Hid (cmpI x y = -1) := Lib.hid (by rw [← cmp_len (by rw [← N1.out, ← N2.out]; omega), ← N1.out, ← N2.out]; exact cmp_lt t1)
    go_enter Tryd.func21, Tryd.ntmps21
    go_wp2_with fail
    go_ret
    exact ⟨by rw [hr.out]; rfl, Below.refl _ _⟩
  · subst heq
    have t1 : ¬ (n1 : Int) < (n1 : Int) := by omega
    have HL : Hid ((digs x).length = (digs y).length) := Lib.hid (by rw [← N1.out, ← N2.out])
    go_enter Tryd.func21, Tryd.ntmps21
    go_wp2_with fail
    go_loopw [5] (fun i wr => ∃ k : Nat, k ≤ n1 ∧ i = .int .i64 ((k : Int) - 1) ∧ Hid ((digs x).drop k = (digs y).drop k) ∧ Below w.heap.size w wr) (fun i _ => (intOf i + 1).toNat)
    case atStart => exact ⟨n1, Nat.le_refl _, rfl, Lib.hid (by rw [List.drop_of_length_le (by rw [← N1.out]; exact Nat.le_refl _), List.drop_of_length_le (by rw [← N2.out]; exact Nat.le_refl _)]), Below.refl _ _⟩
    case round =>
      obtain ⟨k, hk, rfl, hd, hB⟩ := hrel
      by_cases h0 : k = 0
      · subst h0
        have hr : Hid (cmpI x y = 0) := Lib.hid (by
          have := hd.out
          rw [List.drop_zero, List.drop_zero] at this
          rw [digs_inj this]; exact cmp_eq _)
        have hB' := Lib.hid hB
        clear hB
        rw [show ((0 : Nat) : Int) - 1 = -1 from rfl]
        go_wp2_with fail
        go_ret
        exact ⟨by rw [hr.out]; rfl, hB'.out⟩
      · obtain ⟨j, rfl⟩ : ∃ j, k = j + 1 := ⟨k - 1, by omega⟩
        obtain ⟨b1, o1, rfl, hc1⟩ := Rdi_at H1.out j (by rw [← N1.out]; omega)
        obtain ⟨b2, o2, rfl, hc2⟩ := Rdi_at H2.out j (by rw [← N2.out]; omega)
        have C1 := Below.cell_of' hB hc1
        have C2 := Below.cell_of' hB hc2
        have hB' := Lib.hid hB
        obtain ⟨X, hX⟩ : ∃ X, iat (digs x) j = X := ⟨_, rfl⟩
        obtain ⟨Y, hY⟩ : ∃ Y, iat (digs y) j = Y := ⟨_, rfl⟩
        rw [hX] at C1
        rw [hY] at C2
        have hX' := Lib.hid hX
        have hY' := Lib.hid hY
        have hj1 : j < (digs x).length := by rw [← N1.out]; omega
        have e3 : (j : Int) < (n1 : Int) := by omega
        have e4 : 0 ≤ (j : Int) := by omega
        have e5 : ((j : Int)).toNat = j := by omega
        clear hB hc1 hc2 hX hY h0
        rw [show ((j + 1 : Nat) : Int) - 1 = (j : Int) by omega]
        rcases Int.lt_trichotomy X Y with hXY | hXY | hXY
        · have hn : X < Y := hXY
          have hr : Hid (cmpI x y = -1) := Lib.hid (by rw [← cmp_top HL.out j hj1 hd.out (by rw [hX'.out, hY'.out]; omega), hX'.out, hY'.out]; exact cmp_lt hXY)
          clear hXY
          go_wp2_with fail
          go_quiet (fail)
          go_wp2_with fail
          go_ret
          exact ⟨by rw [hr.out]; rfl, below_drewN hB'.out _⟩
        · subst hXY
          have hn : ¬ X < X := by omega
          have hs : Hid ((digs x).drop j = (digs y).drop j) := Lib.hid (drop_same HL.out j hj1 hd.out (by rw [hX'.out, hY'.out]))
          go_wp2_with fail
          go_quiet (fail)
          go_wp2_with fail
          have hBq := Lib.hid (below_drewN hB'.out nq)
          have C1q : (wr.drewN nq).cell? ⟨b1, o1 + j, none⟩ = some (.int .i64 X) := C1
          have C2q : (wr.drewN nq).cell? ⟨b2, o2 + j, none⟩ = some (.int .i64 X) := C2
          generalize wr.drewN nq = wq at hBq C1q C2q ⊢
          clear C1 C2
          go_quiet (fail)
          go_wp2_with fail
          exact ⟨⟨j, by omega, by simp, hs, below_drewN hBq.out _⟩, by simp [intOf]⟩
        · have hn : ¬ X < Y := by omega
          have hn2 : Y < X := hXY
          have hr : Hid (cmpI x y = 1) := Lib.hid (by rw [← cmp_top HL.out j hj1 hd.out (by rw [hX'.out, hY'.out]; omega), hX'.out, hY'.out]; exact cmp_gt hXY)
          clear hXY
          go_wp2_with fail
          go_quiet (fail)
          go_wp2_with fail
          have hBq := Lib.hid (below_drewN hB'.out nq)
          have C1q : (wr.drewN nq).cell? ⟨b1, o1 + j, none⟩ = some (.int .i64 X) := C1
          have C2q : (wr.drewN nq).cell? ⟨b2, o2 + j, none⟩ = some (.int .i64 Y) := C2
          generalize wr.drewN nq = wq at hBq C1q C2q ⊢
          clear C1 C2
          go_quiet (fail)
          go_wp2_with fail
          go_ret
          exact ⟨by rw [hr.out]; rfl, below_drewN hBq.out _⟩
  · have t1 : ¬ (n1 : Int) < (n2 : Int) := by omega
    have t2 : (n2 : Int) < (n1 : Int) := by omega
    have hr : Hid (cmpI x y = 1) := Lib.hid (by rw [← cmp_len (by rw [← N1.out, ← N2.out]; omega), ← N1.out, ← N2.out]; exact cmp_gt t2)
    go_enter Tryd.func21, Tryd.ntmps21
    go_wp2_with fail
    go_ret
    exact ⟨by rw [hr.out]; rfl, Below.refl _ _⟩
end Go.Proofs.YtmbkpcnpacncjaaDoor

namespace Go.Proofs.YtmbkpcnpacncjaaDoor
open Go.RowKit

set_option maxRecDepth 100000 in
set_option maxHeartbeats 1600000 in
theorem rAdd_same (nx : Bool) (px py : Option Addr) (lx cx ly cy : Nat) (x y : Int) (w : World) (hx0 : IntZ w nx px lx cx x) (hy0 : IntZ w nx py ly cy y) (hlx : lx ≤ 549755813887) (hly : ly ≤ 549755813887) :
    Calls Tryd.prog 8 #[.agg #[.bool nx, .slice px lx cx], .agg #[.bool nx, .slice py ly cy]] w (RetI w (x + y)) := by
  have hx := Lib.hid hx0
  have hy := Lib.hid hy0
  have hca : Hid (∀ W, Ar2 w nx px lx cx nx py ly cy W → Calls Tryd.prog 20 #[.slice px lx cx, .slice py ly cy] W (NewS W (SumP (digs x.natAbs) (digs y.natAbs)))) :=
    Lib.hid fun W h => plus_any _ _ _ _ _ _ _ _ W (Rdi_below h.2.2.2 hx0.2.2.1) (Rdi_below h.2.2.2 hy0.2.2.1) hx0.2.1 hy0.2.1 (Dg_digs _) (Dg_digs _) (by omega) (by omega)
  have hf := fun W (h : Ar2 w nx px lx cx nx py ly cy W) => h.facts
  have hS0 := Lib.hid (@Ar2.start nx px lx cx nx py ly cy w)
  have hsg : Hid (sg nx (val (digs x.natAbs) + val (digs y.natAbs)) = x + y) := Lib.hid (by rw [val_digs, val_digs]; exact same_neg hx0.1 hy0.1 rfl)
  have hle : Hid ((digs x.natAbs).length = lx ∧ (digs y.natAbs).length = ly) := Lib.hid ⟨hx0.2.1.symm, hy0.2.1.symm⟩
  have hnn : (nx == !nx) = false := by cases nx <;> rfl
  clear hx0 hy0
  go_enter Tryd.func8, Tryd.ntmps8
  go_wp2_with fail
  generalize ((w.alloc (.cells #[.bool nx, .slice px lx cx] 24)).alloc (.cells #[.bool nx, .slice py ly cy] 24)).alloc (.cells #[.bool false, .slice none 0 0] 24) = W0 at hS0 ⊢
  have hS1 := hS0.out
  clear hS0
  go_region_held3 (fun W => Ar2 w nx px lx cx nx py ly cy W) (first | exact Ar2.drew (by assumption) | exact Ar2.later (by assumption) (by assumption) | exact Ar2.store (by assumption) _ _) (first | (go_at_call 20; refine (hca.out _ (by assumption)).mono ?_; rintro e w1 ⟨p1, n, c1, z, rfl, hz0, hn0, hnc, hcm, hp10, hb1, hP0⟩; have hp1 := Lib.hid hp10; have hz := Lib.hid hz0; have hn := Lib.hid hn0; have hP := Lib.hid hP0; have hnl : n ≤ 1099511627774 := (by have := hP0.2.2; have := hle.out; omega); clear hz0 hn0 hP0 hp10) | (go_at_call 19; refine (normal_any _ p1 n c1 z _ hz.out hn.out.symm hnc hcm hP.out.1).mono ?_; rintro e w2 ⟨nb, p, n2, c2, rfl, hI0, hb2, hp0⟩; have hI := Lib.hid hI0; have hp := Lib.hid hp0; clear hI0 hp0))
  have hS2 := (hS1.drew.later hb1).later hb2
  have hgt : ∀ q, p = some q → w.heap.size + 1 + 1 < q.block := fun q hq => Nat.lt_of_lt_of_le hS1.drew.top (hp1.out q (hp.out q hq))
  have hfin := Lib.hid (hS2.ret hI.out hgt (by rw [hP.out.2.1, ← hsg.out] : sg nx (val z) = x + y))
  go_wp2_with fail
  exact bodyPost_ret (v := .agg #[.bool nb, .slice p n2 c2]) (results_cell_row rfl _ _ (w.heap.size + 1 + 1) 24 _ (0, 0) _ rfl (hS2.res _ _) Tryd.underlying24 rfl size_Int) rfl hfin.out

set_option maxRecDepth 100000 in
set_option maxHeartbeats 1600000 in
theorem rAdd_lt (nx : Bool) (px py : Option Addr) (lx cx ly cy : Nat) (x y : Int) (w : World) (hx0 : IntZ w nx px lx cx x) (hy0 : IntZ w (!nx) py ly cy y) (hlx : lx ≤ 549755813887) (hly : ly ≤ 549755813887) (hlt : x.natAbs < y.natAbs) :
    Calls Tryd.prog 8 #[.agg #[.bool nx, .slice px lx cx], .agg #[.bool (!nx), .slice py ly cy]] w (RetI w (x + y)) := by
  have hx := Lib.hid hx0
  have hy := Lib.hid hy0
  have hca : Hid (∀ W, Ar2 w nx px lx cx (!nx) py ly cy W → Calls Tryd.prog 22 #[.slice py ly cy, .slice px lx cx] W (NewS W (DifP (digs y.natAbs) (digs x.natAbs)))) :=
    Lib.hid fun W h => minus_any _ _ _ _ _ _ _ _ W (Rdi_below h.2.2.2 hy0.2.2.1) (Rdi_below h.2.2.2 hx0.2.2.1) hy0.2.1 hx0.2.1 (Dg_digs _) (Dg_digs _) (by omega) (by rw [hx0.2.1, hy0.2.1]; exact digs_len_mono (by omega)) (by rw [val_digs, val_digs]; omega)
  have hcm : Hid (∀ W, Below w.heap.size w W → Calls Tryd.prog 21 #[.slice px lx cx, .slice py ly cy] W fun e w' => e = .returned (.int .i64 (-1)) ∧ Below W.heap.size W w') :=
    Lib.hid fun W h => by rw [show (-1 : Int) = cmpI x.natAbs y.natAbs from (cmp_lt (by omega)).symm]; exact compared_any _ _ _ _ _ _ _ _ W (Rdi_below h hx0.2.2.1) (Rdi_below h hy0.2.2.1) hx0.2.1 hy0.2.1 (by omega) (by omega)
  have hf := fun W (h : Ar2 w nx px lx cx (!nx) py ly cy W) => h.facts
  have hS0 := Lib.hid (@Ar2.start nx px lx cx (!nx) py ly cy w)
  have hsg : Hid (sg (!nx) (val (digs y.natAbs) - val (digs x.natAbs)) = x + y) := Lib.hid (by rw [val_digs, val_digs, Int.add_comm]; exact diff_neg hy0.1 hx0.1 (by cases nx <;> decide))
  have hle : Hid ((digs x.natAbs).length = lx ∧ (digs y.natAbs).length = ly) := Lib.hid ⟨hx0.2.1.symm, hy0.2.1.symm⟩
  have hnn : (nx == !nx) = false := by cases nx <;> rfl
  clear hx0 hy0
  go_enter Tryd.func8, Tryd.ntmps8
  go_wp2_with fail
  generalize ((w.alloc (.cells #[.bool nx, .slice px lx cx] 24)).alloc (.cells #[.bool (!nx), .slice py ly cy] 24)).alloc (.cells #[.bool false, .slice none 0 0] 24) = W9 at hS0 ⊢
  have hS9 := hS0.out
  clear hS0
  have hf9 := hf _ hS9
  go_wp2_with (go_at_call 21; refine (hcm.out _ hS9.2.2.2).mono ?_; rintro e W0 ⟨rfl, hb9⟩; have hS1 := hS9.later hb9; clear hb9 hf9)
  go_region_held3 (fun W => Ar2 w nx px lx cx (!nx) py ly cy W) (first | exact Ar2.drew (by assumption) | exact Ar2.later (by assumption) (by assumption) | exact Ar2.store (by assumption) _ _) (first | (go_at_call 22; refine (hca.out _ (by assumption)).mono ?_; rintro e w1 ⟨p1, n, c1, z, rfl, hz0, hn0, hnc, hcm, hp10, hb1, hP0⟩; have hp1 := Lib.hid hp10; have hz := Lib.hid hz0; have hn := Lib.hid hn0; have hP := Lib.hid hP0; have hnl : n ≤ 1099511627774 := (by have := hP0.2.2; have := hle.out; omega); clear hz0 hn0 hP0 hp10) | (go_at_call 19; refine (normal_any _ p1 n c1 z _ hz.out hn.out.symm hnc hcm hP.out.1).mono ?_; rintro e w2 ⟨nb, p, n2, c2, rfl, hI0, hb2, hp0⟩; have hI := Lib.hid hI0; have hp := Lib.hid hp0; clear hI0 hp0))
  have hS2 := (hS1.drew.later hb1).later hb2
  have hgt : ∀ q, p = some q → w.heap.size + 1 + 1 < q.block := fun q hq => Nat.lt_of_lt_of_le hS1.drew.top (hp1.out q (hp.out q hq))
  have hfin := Lib.hid (hS2.ret hI.out hgt (by rw [hP.out.2.1, ← hsg.out] : sg (!nx) (val z) = x + y))
  go_wp2_with fail
  exact bodyPost_ret (v := .agg #[.bool nb, .slice p n2 c2]) (results_cell_row rfl _ _ (w.heap.size + 1 + 1) 24 _ (0, 0) _ rfl (hS2.res _ _) Tryd.underlying24 rfl size_Int) rfl hfin.out

set_option maxRecDepth 100000 in
set_option maxHeartbeats 1600000 in
theorem rAdd_ge (nx : Bool) (px py : Option Addr) (lx cx ly cy : Nat) (x y : Int) (w : World) (hx0 : IntZ w nx px lx cx x) (hy0 : IntZ w (!nx) py ly cy y) (hlx : lx ≤ 549755813887) (hly : ly ≤ 549755813887) (hge : y.natAbs ≤ x.natAbs) (r : Int) (hr : 0 ≤ r) (hr1 : r ≤ 1) (hrr : Hid (r = cmpI x.natAbs y.natAbs)) :
    Calls Tryd.prog 8 #[.agg #[.bool nx, .slice px lx cx], .agg #[.bool (!nx), .slice py ly cy]] w (RetI w (x + y)) := by
  have hx := Lib.hid hx0
  have hy := Lib.hid hy0
  have hca : Hid (∀ W, Ar2 w nx px lx cx (!nx) py ly cy W → Calls Tryd.prog 22 #[.slice px lx cx, .slice py ly cy] W (NewS W (DifP (digs x.natAbs) (digs y.natAbs)))) :=
    Lib.hid fun W h => minus_any _ _ _ _ _ _ _ _ W (Rdi_below h.2.2.2 hx0.2.2.1) (Rdi_below h.2.2.2 hy0.2.2.1) hx0.2.1 hy0.2.1 (Dg_digs _) (Dg_digs _) (by omega) (by rw [hx0.2.1, hy0.2.1]; exact digs_len_mono (by omega)) (by rw [val_digs, val_digs]; omega)
  have hcm : Hid (∀ W, Below w.heap.size w W → Calls Tryd.prog 21 #[.slice px lx cx, .slice py ly cy] W fun e w' => e = .returned (.int .i64 (r)) ∧ Below W.heap.size W w') :=
    Lib.hid fun W h => by rw [show (r : Int) = cmpI x.natAbs y.natAbs from hrr.out]; exact compared_any _ _ _ _ _ _ _ _ W (Rdi_below h hx0.2.2.1) (Rdi_below h hy0.2.2.1) hx0.2.1 hy0.2.1 (by omega) (by omega)
  have hf := fun W (h : Ar2 w nx px lx cx (!nx) py ly cy W) => h.facts
  have hS0 := Lib.hid (@Ar2.start nx px lx cx (!nx) py ly cy w)
  have hsg : Hid (sg nx (val (digs x.natAbs) - val (digs y.natAbs)) = x + y) := Lib.hid (by rw [val_digs, val_digs]; exact diff_neg hx0.1 hy0.1 (by cases nx <;> decide))
  have hle : Hid ((digs x.natAbs).length = lx ∧ (digs y.natAbs).length = ly) := Lib.hid ⟨hx0.2.1.symm, hy0.2.1.symm⟩
  have hnn : (nx == !nx) = false := by cases nx <;> rfl
  clear hx0 hy0
  go_enter Tryd.func8, Tryd.ntmps8
  go_wp2_with fail
  generalize ((w.alloc (.cells #[.bool nx, .slice px lx cx] 24)).alloc (.cells #[.bool (!nx), .slice py ly cy] 24)).alloc (.cells #[.bool false, .slice none 0 0] 24) = W9 at hS0 ⊢
  have hS9 := hS0.out
  clear hS0
  have hf9 := hf _ hS9
  go_wp2_with (go_at_call 21; refine (hcm.out _ hS9.2.2.2).mono ?_; rintro e W0 ⟨rfl, hb9⟩; have hS1 := hS9.later hb9; clear hb9 hf9)
  go_region_held3 (fun W => Ar2 w nx px lx cx (!nx) py ly cy W) (first | exact Ar2.drew (by assumption) | exact Ar2.later (by assumption) (by assumption) | exact Ar2.store (by assumption) _ _) (first | (go_at_call 22; refine (hca.out _ (by assumption)).mono ?_; rintro e w1 ⟨p1, n, c1, z, rfl, hz0, hn0, hnc, hcm, hp10, hb1, hP0⟩; have hp1 := Lib.hid hp10; have hz := Lib.hid hz0; have hn := Lib.hid hn0; have hP := Lib.hid hP0; have hnl : n ≤ 1099511627774 := (by have := hP0.2.2; have := hle.out; omega); clear hz0 hn0 hP0 hp10) | (go_at_call 19; refine (normal_any _ p1 n c1 z _ hz.out hn.out.symm hnc hcm hP.out.1).mono ?_; rintro e w2 ⟨nb, p, n2, c2, rfl, hI0, hb2, hp0⟩; have hI := Lib.hid hI0; have hp := Lib.hid hp0; clear hI0 hp0))
  have hS2 := (hS1.drew.later hb1).later hb2
  have hgt : ∀ q, p = some q → w.heap.size + 1 + 1 < q.block := fun q hq => Nat.lt_of_lt_of_le hS1.drew.top (hp1.out q (hp.out q hq))
  have hfin := Lib.hid (hS2.ret hI.out hgt (by rw [hP.out.2.1, ← hsg.out] : sg nx (val z) = x + y))
  go_wp2_with fail
  exact bodyPost_ret (v := .agg #[.bool nb, .slice p n2 c2]) (results_cell_row rfl _ _ (w.heap.size + 1 + 1) 24 _ (0, 0) _ rfl (hS2.res _ _) Tryd.underlying24 rfl size_Int) rfl hfin.out

theorem rAdd_any (nx ny : Bool) (px py : Option Addr) (lx cx ly cy : Nat) (x y : Int) (w : World) (hx0 : IntZ w nx px lx cx x) (hy0 : IntZ w ny py ly cy y) (hlx : lx ≤ 549755813887) (hly : ly ≤ 549755813887) :
    Calls Tryd.prog 8 #[.agg #[.bool nx, .slice px lx cx], .agg #[.bool ny, .slice py ly cy]] w (RetI w (x + y)) := by
  by_cases h : nx = ny
  · subst h
    exact rAdd_same nx px py lx cx ly cy x y w hx0 hy0 hlx hly
  · obtain rfl : ny = !nx := by cases nx <;> cases ny <;> first | rfl | exact absurd rfl h
    by_cases hlt : x.natAbs < y.natAbs
    · exact rAdd_lt nx px py lx cx ly cy x y w hx0 hy0 hlx hly hlt
    · refine rAdd_ge nx px py lx cx ly cy x y w hx0 hy0 hlx hly (by omega) (cmpI x.natAbs y.natAbs) ?_ ?_ (Lib.hid rfl)
      · unfold cmpI; rw [if_neg (by omega)]; split <;> omega
      · unfold cmpI; rw [if_neg (by omega)]; split <;> omega
end Go.Proofs.YtmbkpcnpacncjaaDoor

namespace Go.Proofs.YtmbkpcnpacncjaaDoor
open Go.RowKit

/-- a result's box, and a variable that holds an integer -/
def PwS (w : World) (g : Nat) (nb : Bool) (p : Option Addr) (n c : Nat) (W : World) : Prop := Ar0 w W ∧ W.heap[g]? = some (.cells #[.bool nb, .slice p n c] 24 (0, 0)) ∧ w.heap.size < g
section
variable {w W w' : World} {g : Nat} {nb : Bool} {p : Option Addr} {n c : Nat}
theorem PwS.facts (h : PwS w g nb p n c W) : W.cell? ⟨g, 0, none⟩ = some (.bool nb) ∧ W.cell? ⟨g, 1, none⟩ = some (.slice p n c) ∧ W.frozen? ⟨g, 0, none⟩ = false ∧ W.frozen? ⟨g, 1, none⟩ = false := by
  obtain ⟨_, h3, _⟩ := h
  refine ⟨by simp [World.cell?, h3], by simp [World.cell?, h3], by simp [World.frozen?, h3], by simp [World.frozen?, h3]⟩
theorem PwS.later (h : PwS w g nb p n c W) (hb : Below W.heap.size W w') : PwS w g nb p n c w' := ⟨h.1.later hb, (hb.block _ (lt_blk h.2.1)).trans h.2.1, h.2.2⟩
theorem PwS.drew (h : PwS w g nb p n c W) : PwS w g nb p n c W.drew := h.later ((Below.refl _ W).drew)
theorem PwS.lt (h : PwS w g nb p n c W) : g < W.heap.size := lt_blk h.2.1
theorem Ar0.other {i : Nat} {v : Value} (h : Ar0 w W) (hg : w.heap.size < g) : Ar0 w (W.setCell ⟨g, i, none⟩ v) := by
  obtain ⟨⟨u, x, h3⟩, h4⟩ := h
  exact ⟨⟨u, x, by rw [heap_setCell_other _ _ _ _ (by simp; omega)]; exact h3⟩, h4.setCell (by simp; omega) _⟩
theorem PwS.store (h : PwS w g nb p n c W) (nb' : Bool) (p' : Option Addr) (n' c' : Nat) : PwS w g nb' p' n' c' ((W.setCell ⟨g, 0, none⟩ (.bool nb')).setCell ⟨g, 1, none⟩ (.slice p' n' c')) := by
  refine ⟨(h.1.other h.2.2).other h.2.2, ?_, h.2.2⟩
  rw [heap_setCell_self _ _ _ _ _ _ (heap_setCell_self _ _ _ _ _ _ h.2.1)]; rfl
end
/-- the integer that the variable holds -/
def PwI (w : World) (g : Nat) (nb : Bool) (p : Option Addr) (n c : Nat) (z : Int) (W : World) : Prop := PwS w g nb p n c W ∧ IntAt W nb p n c z ∧ ∀ q, p = some q → w.heap.size < q.block ∧ q.block ≠ g
theorem ten_len (k : Nat) (h : k ≤ 30) : (digs ((10 : Int) ^ k).natAbs).length ≤ 4 := by
  have e : ((10 : Int) ^ k).natAbs = 10 ^ k := by rw [Int.natAbs_pow]; rfl
  rw [e]
  have h1 : (10 : Nat) ^ k ≤ 10 ^ 30 := Nat.pow_le_pow_right (by omega) h
  refine digs_len_le ?_
  have h2 : pw 4 = 1000000000000000000000000000000000000 := by decide
  have h3 : (10 : Nat) ^ 30 = 1000000000000000000000000000000 := by decide
  rw [h3] at h1
  omega

set_option maxRecDepth 100000 in
set_option maxHeartbeats 1600000 in
theorem power_any (K : Nat) (hK : K ≤ 29) (w : World) :
    Calls Tryd.prog 18 #[.int .i64 (K : Int)] w (RetI w (10 ^ K)) := by
  have hof : Hid (∀ v W, v = (1 : Int) ∨ v = 10 → Calls Tryd.prog 7 #[.int .i64 v] W (RetI W v)) := Lib.hid fun v W h => rOf_any v (by omega) (by omega) W
  have hS0 := Lib.hid (Ar0.start w)
  go_enter Tryd.func18, Tryd.ntmps18
  go_wp2_with fail
  generalize w.alloc (.cells #[.bool false, .slice none 0 0] 24) = w0 at hS0 ⊢
  refine (hof.out _ _ (.inl rfl)).mono ?_
  rintro e w1 ⟨nb, p, n, c, rfl, hI0, hb1, hp0⟩
  have hS1 := hS0.out.later hb1
  have hP0 : PwI w w1.heap.size nb p n c (10 ^ 0) (w1.alloc (.cells #[.bool nb, .slice p n c] 24)) := by
    refine ⟨⟨hS1.later (below_new _ _), heap_alloc_new _ _, hS1.top⟩, hI0.later (below_new _ _), fun q hq => ?_⟩
    have h1 := hp0 q hq
    have h2 := hS0.out.top
    refine ⟨by omega, ?_⟩
    rcases hI0.2.2.1 with h | ⟨b, o, hbo, hcc⟩
    · exact absurd (digs_nil.1 h) (by decide)
    · have hl : 0 < (digs (1 : Int).natAbs).length := by rw [digs_pos (by decide)]; simp
      have := World.block_lt_of_cell? w1 _ (hcc 0 hl)
      rw [hbo] at hq
      cases hq
      simp at this ⊢
      omega
  have hP := Lib.hid hP0
  clear hI0 hp0 hP0 hS1 hb1 hS0
  go_wp2_with fail
  generalize w1.alloc (.cells #[.bool nb, .slice p n c] 24) = w2 at hP ⊢
  generalize w1.heap.size = g at hP ⊢
  go_loopw [4] (fun iv wr => ∃ (k : Nat) (nb : Bool) (p : Option Addr) (n c : Nat), k ≤ K ∧ iv = .int .i64 (k : Int) ∧ PwI w g nb p n c (10 ^ k) wr) (fun iv _ => K - (intOf iv).toNat)
  case atStart => exact ⟨0, _, _, _, _, Nat.zero_le _, rfl, hP.out⟩
  case round =>
    obtain ⟨k, nb, p, n, c, hk, rfl, hPS, hI, hp⟩ := hrel
    clear hP
    have hnl : Hid (n ≤ 4) := Lib.hid (by rw [hI.2.1]; exact ten_len k (by omega))
    have hf0 := hPS.drew.facts
    have hI' := Lib.hid hI
    have hp' := Lib.hid hp
    have hPS' := Lib.hid hPS
    clear hI hp hPS
    by_cases hlt : k < K
    · have k1 : (k : Int) < (K : Int) := by omega
      have hmul : Hid (∀ W nb2 p2 n2 c2, Below wr.heap.size wr W → IntAt W nb2 p2 n2 c2 10 → Calls Tryd.prog 37 #[.agg #[.bool nb, .slice p n c], .agg #[.bool nb2, .slice p2 n2 c2]] W (RetI W (10 ^ (k + 1)))) := Lib.hid fun W nb2 p2 n2 c2 hb h => by
        rw [Int.pow_succ]
        refine rMul_any nb nb2 p p2 n c n2 c2 (10 ^ k) 10 W (hI'.out.later hb).z h.z (by have := hnl.out; omega) ?_
        rw [h.2.1, show (10 : Int).natAbs = 10 from rfl, digs_pos (by decide), show 10 / 1000000000 = 0 from rfl, digs_zero]
        decide
      go_wp2_with fail
      go_region_with (first | (go_at_call 7; refine (hof.out _ _ (.inr rfl)).mono ?_; rintro e w3 ⟨nb3, p3, n3, c3, rfl, hI3, hb3, hp3⟩; have hf3 := (hPS'.out.drew.later hb3).facts; have hI3' := Lib.hid hI3; have hb3' := Lib.hid (below_tr ((Below.refl _ wr).drew) hb3); clear hI3 hb3 hp3) | (go_at_call 37; refine (hmul.out _ _ _ _ _ hb3'.out hI3'.out).mono ?_; rintro e w4 ⟨nb4, p4, n4, c4, rfl, hI4, hb4, hp4⟩; have hPS4 := hPS'.out.later (below_tr hb3'.out hb4); have hf4 := hPS4.facts; have hI4' := Lib.hid hI4; have hp4' := Lib.hid hp4; have hb4' := Lib.hid hb4; clear hI4 hb4 hp4))
      all_goals
        have hg3 := Lib.hid ((hPS'.out.later hb3'.out).lt)
        have hne : Hid (∀ q, p4 = some q → w.heap.size < q.block ∧ q.block ≠ g) := Lib.hid fun q hq => by
          have h1 := hp4'.out q hq
          have h2 := hg3.out
          have h3 := hPS'.out.2.2
          exact ⟨by omega, by omega⟩
        have hres : Hid (PwI w g nb4 p4 n4 c4 (10 ^ (k + 1)) ((w4.setCell ⟨g, 0, none⟩ (.bool nb4)).setCell ⟨g, 1, none⟩ (.slice p4 n4 c4))) := Lib.hid ⟨hPS4.store nb4 p4 n4 c4, (hI4'.out.store (fun q hq => (hne.out q hq).2)).store (fun q hq => (hne.out q hq).2), hne.out⟩
        clear hPS4 hf4 hf0
        try clear hf3
        go_wp2_with fail
        exact ⟨⟨k + 1, nb4, p4, n4, c4, by omega, by simp, hres.out⟩, by simp [intOf]; omega⟩
    · have hk' : k = K := by omega
      subst hk'
      have hA := hPS'.out.1
      have hf1 := hA.facts
      have hf2 := hPS'.out.facts
      have hfin := Lib.hid (hA.ret (fr := fun q => w.heap.size ≤ q.block) hI'.out (fun q hq => ⟨by have := hp'.out q hq; omega, by have := hp'.out q hq; omega⟩) rfl)
      clear hf0
      go_wp2_with fail
      exact bodyPost_ret (v := .agg #[.bool nb, .slice p n c]) (results_cell_row rfl _ _ w.heap.size 24 _ (0, 0) _ rfl (hA.res _ _) Tryd.underlying24 rfl size_Int) rfl hfin.out
end Go.Proofs.YtmbkpcnpacncjaaDoor
