/- Contracts of the package integer and its reference: The reference: Number. -/
import Derived.Test.YtmbkpcnpacncjaaDoorM14
import Derived.Test.YtmbkpcnpacncjaaDoorM7
set_option linter.unusedVariables false
namespace Go.Proofs.YtmbkpcnpacncjaaDoor
open Go.RowKit

theorem at_at (a : Option Addr) (n c : Nat) (l : List Int) (v : Int) (i : Nat) (most : Int) (w : World) (hv : v = (i : Int)) (hR0 : Rdi w a l) (hn0 : n = l.length) (hi64 : i64s l) (hi : i ≤ 9223372036854775807) (h3 : 0 < most) (h4 : most ≤ 9223372036854775807) :
    Calls Tryd.prog 17 #[.slice a n c, .int .i64 v, .int .i64 most] w fun e w' => e = .returned (.int .i64 (atv l i most)) ∧ w = w' := by
  subst hv; exact at_any a n c l i most w hR0 hn0 hi64 hi h3 h4

/-- the digits of a number that is made, behind the result's box -/
def NumG (w : World) (k : Nat) (v : Value) (wr : World) : Prop := ∃ z, z.length = k ∧ Dg z ∧ wr.ownsRow (w.heap.size + 1) 3 1 v k (zvs z) ∧ Ar0 w wr
theorem NumG.push {w wr w' : World} {k : Nat} {v v' : Value} {o : Obj} {x : Int} {z : List Int} (hz : z.length = k) (hd : Dg z) (ho0 : wr.ownsRow (w.heap.size + 1) 3 1 v k (zvs z)) (hA : Ar0 w wr) (hx0 : 0 ≤ x) (hx1 : x < 1000000000)
    (ho : w'.ownsRow (w.heap.size + 1) 3 1 v' (k + 1) (zvs z ++ [.int .i64 x])) (hg : (wr.alloc o).grownBy w' v.ownBlock) : NumG w (k + 1) v' w' := by
  refine ⟨z ++ [x], by rw [List.length_append, hz]; rfl, Dg_append hd (Dg_cons hx0 hx1 Dg_nil), ?_, ?_⟩
  · have : zvs (z ++ [x]) = zvs z ++ [.int .i64 x] := by simp [zvs]
    rw [this]; exact ho
  · obtain ⟨⟨u, y, h3⟩, h6⟩ := hA
    have h3' : (wr.alloc o).heap[w.heap.size]? = some (.cells #[u, y] 24 (0, 0)) := by rw [Below.heap_alloc _ _ _ (lt_blk h3)]; exact h3
    have hlt := lt_blk h3'
    have hbk := hg.block w.heap.size (by omega) (fun e => by have := (ho0.lt _ e.symm).1; omega)
    exact ⟨⟨u, y, hbk.trans h3'⟩, (h6.alloc h6.size _).grown hg (Nat.le_trans h6.size (by simp)) fun k hk => by have := (ho0.lt k hk).1; omega⟩
/-- a number that is made -/
def NumP (w : World) (e : Ending) (w' : World) : Prop := ∃ z, (digs z.natAbs).length ≤ 6 ∧ RetI w z e w'
theorem sg_len {ng : Bool} {z : List Int} (hd : Dg z) (h : z.length ≤ 6) : (digs (sg ng (val z)).natAbs).length ≤ 6 := by
  rw [sg_abs _ _ hd.lo, tlen_len hd]
  have := tlen_le z
  omega
theorem of_len {v : Int} (h : -1000000000 < v) (h2 : v < 1000000000) : (digs v.natAbs).length ≤ 6 := by
  have := digs_len_le (n := v.natAbs) (k := 1) (by have : pw 1 = 1000000000 := by decide
                                                   omega)
  omega
theorem pw_len {K : Nat} {v : Int} (hK : K ≤ 29) (h : -10 ≤ v) (h2 : v ≤ 10) : (digs ((10 : Int) ^ K + v).natAbs).length ≤ 6 := by
  have e : (10 : Int) ^ K = ((10 ^ K : Nat) : Int) := by simp
  have h1 : (10 : Nat) ^ K ≤ 10 ^ 30 := Nat.pow_le_pow_right (by omega) (by omega)
  have h3 : (10 : Nat) ^ 30 = 1000000000000000000000000000000 := by decide
  rw [h3] at h1
  rw [e]
  generalize 10 ^ K = T at h1
  have h4 := digs_len_le (n := ((T : Int) + v).natAbs) (k := 4) (by
    have h2 : pw 4 = 1000000000000000000000000000000000000 := by decide
    omega)
  omega
theorem news2 (W : World) (o : Obj) (x : Int) : ∀ j u, [Value.int .i64 x][j]? = some u → ((W.alloc o).alloc (.cells #[.int .i64 x] 3)).cell? ((⟨W.heap.size + 1, 0, none⟩ : Addr).add j) = some u := by
  have h := cell_one_new (W.alloc o) (.int .i64 x) 3
  have e : (W.alloc o).heap.size = W.heap.size + 1 := by simp
  rw [e] at h
  exact h
def tbl (r : Int) : Int := [0, 999999999, 1, 500000000].getD r.toNat 0
theorem tbl_cell (W : World) (r : Int) (h0 : 0 ≤ r) (h1 : r < 4) : (W.alloc (.cells #[.int .i64 0, .int .i64 999999999, .int .i64 1, .int .i64 500000000] 3)).cell? ⟨W.heap.size, r.toNat, none⟩ = some (.int .i64 (tbl r)) := by
  have : r = 0 ∨ r = 1 ∨ r = 2 ∨ r = 3 := by omega
  have h := heap_alloc_new W (.cells #[.int .i64 0, .int .i64 999999999, .int .i64 1, .int .i64 500000000] 3)
  unfold World.cell?
  rw [h]
  rcases this with rfl | rfl | rfl | rfl <;> rfl
theorem tbl_bd (r : Int) (h0 : 0 ≤ r) (h1 : r < 4) : 0 ≤ tbl r ∧ tbl r < 1000000000 := by
  have : r = 0 ∨ r = 1 ∨ r = 2 ∨ r = 3 := by omega
  rcases this with rfl | rfl | rfl | rfl <;> decide

set_option maxRecDepth 100000 in
set_option maxHeartbeats 1600000 in
theorem number_any' (a : Option Addr) (m c : Nat) (l : List Int) (at0 : Nat) (w : World) (hR0 : Rdi w a l) (hm0 : m = l.length) (hi64 : i64s l) (hat : at0 ≤ 1099511627776) :
    Calls Tryd.prog 4 #[.slice a m c, .int .i64 (at0 : Int)] w (NumP w) := by
  obtain ⟨i0, hi, hz0, hz1, hz2⟩ := info_parts info_i64
  have hS0 := Lib.hid (Ar0.start w)
  have hatc : Hid (∀ (v : Int) (i : Nat) (most : Int) W, Below w.heap.size w W → v = (i : Int) → i ≤ 2199023255552 → 0 < most → most ≤ 1000000000 → Calls Tryd.prog 17 #[.slice a m c, .int .i64 v, .int .i64 most] W fun e w' => e = .returned (.int .i64 (atv l i most)) ∧ W = w') :=
    Lib.hid fun v i most W hb hv hi h1 h2 => at_at a m c l v i most W hv (Rdi_below hb hR0) hm0 hi64 (by omega) h1 (by omega)
  clear hR0 hm0 hi64
  have hk0 := atv_lo l at0 6 (by omega)
  have hk1 := atv_hi l at0 6 (by omega)
  have hn0 := atv_lo l (at0 + 1 : Nat) 1000000 (by omega)
  have hn1 := atv_hi l (at0 + 1 : Nat) 1000000 (by omega)
  obtain ⟨kd, hkd⟩ : ∃ kd, atv l at0 6 = kd := ⟨_, rfl⟩
  obtain ⟨nn, hnn⟩ : ∃ nn, atv l (at0 + 1 : Nat) 1000000 = nn := ⟨_, rfl⟩
  rw [hkd] at hk0 hk1
  rw [hnn] at hn0 hn1
  have hkd' := Lib.hid hkd
  have hnn' := Lib.hid hnn
  clear hkd hnn
  obtain ⟨ng, hng⟩ : ∃ b, (nn % 2 == 1) = b := ⟨_, rfl⟩
  go_enter Tryd.func4, Tryd.ntmps4
  go_wp2_with fail
  generalize w.alloc (.cells #[.bool false, .slice none 0 0] 24) = w0 at hS0 ⊢
  have hA := hS0.out
  have hf := hA.facts
  clear hS0
  refine (hatc.out _ at0 _ _ hA.2 rfl (by omega) (by omega) (by omega)).mono ?_
  rintro e w' ⟨rfl, rfl⟩
  rw [hkd'.out]
  go_wp2_with fail
  refine (hatc.out _ (at0 + 1) _ _ hA.2 (by omega) (by omega) (by omega) (by omega)).mono ?_
  rintro e w' ⟨rfl, rfl⟩
  rw [hnn'.out]
  have hcases : kd = 0 ∨ kd = 1 ∨ kd = 2 ∨ kd = 3 ∨ (4 ≤ kd) := by omega
  rcases hcases with rfl | rfl | rfl | rfl | h4
  · have hof : Hid (Calls Tryd.prog 7 #[.int .i64 (nn % 41 - 20)] w0 (RetI w0 (nn % 41 - 20))) := Lib.hid (rOf_any _ (by omega) (by omega) w0)
    have hln : Hid ((digs (nn % 41 - 20).natAbs).length ≤ 6) := Lib.hid (of_len (by omega) (by omega))
    go_wp2_with fail
    refine hof.out.mono ?_
    rintro e w2 ⟨nb, p2, n2, c2, rfl, hI0, hb2, hp0⟩
    have hS3 := hA.later hb2
    have hf3 := hS3.facts
    have hfin : Hid (NumP w (.returned (.agg #[.bool nb, .slice p2 n2 c2])) ((w2.setCell ⟨w.heap.size, 0, none⟩ (.bool nb)).setCell ⟨w.heap.size, 1, none⟩ (.slice p2 n2 c2))) := Lib.hid ⟨_, hln.out, hS3.ret hI0 (fun q hq => by
      have h1 := hp0 q hq
      have h2 := hA.top
      exact ⟨by omega, by omega⟩) rfl⟩
    clear hI0 hb2 hp0 hf
    go_wp2_with fail
    exact bodyPost_ret (v := .agg #[.bool nb, .slice p2 n2 c2]) (results_cell_row rfl _ _ w.heap.size 24 _ (0, 0) _ rfl (hS3.res _ _) Tryd.underlying24 rfl size_Int) rfl hfin.out
  · have hof : Hid (Calls Tryd.prog 7 #[.int .i64 (nn - 500000)] w0 (RetI w0 (nn - 500000))) := Lib.hid (rOf_any _ (by omega) (by omega) w0)
    have hln : Hid ((digs (nn - 500000).natAbs).length ≤ 6) := Lib.hid (of_len (by omega) (by omega))
    go_wp2_with fail
    refine hof.out.mono ?_
    rintro e w2 ⟨nb, p2, n2, c2, rfl, hI0, hb2, hp0⟩
    have hS3 := hA.later hb2
    have hf3 := hS3.facts
    have hfin : Hid (NumP w (.returned (.agg #[.bool nb, .slice p2 n2 c2])) ((w2.setCell ⟨w.heap.size, 0, none⟩ (.bool nb)).setCell ⟨w.heap.size, 1, none⟩ (.slice p2 n2 c2))) := Lib.hid ⟨_, hln.out, hS3.ret hI0 (fun q hq => by
      have h1 := hp0 q hq
      have h2 := hA.top
      exact ⟨by omega, by omega⟩) rfl⟩
    clear hI0 hb2 hp0 hf
    go_wp2_with fail
    exact bodyPost_ret (v := .agg #[.bool nb, .slice p2 n2 c2]) (results_cell_row rfl _ _ w.heap.size 24 _ (0, 0) _ rfl (hS3.res _ _) Tryd.underlying24 rfl size_Int) rfl hfin.out
  · have hpw : Hid (∀ W, Calls Tryd.prog 18 #[.int .i64 (nn / 2 % 30)] W (RetI W (10 ^ (nn / 2 % 30).toNat))) := Lib.hid fun W => by
      have h := power_any (nn / 2 % 30).toNat (by omega) W
      rwa [show (((nn / 2 % 30).toNat : Nat) : Int) = nn / 2 % 30 by omega] at h
    have hof : Hid (∀ W, Calls Tryd.prog 7 #[.int .i64 (nn / 60 % 5 - 2)] W (RetI W (nn / 60 % 5 - 2))) := Lib.hid fun W => rOf_any _ (by omega) (by omega) W
    have hl1 : Hid ((digs ((10 : Int) ^ (nn / 2 % 30).toNat).natAbs).length ≤ 4) := Lib.hid (ten_len _ (by omega))
    have hl2 : Hid ((digs (nn / 60 % 5 - 2).natAbs).length ≤ 6) := Lib.hid (of_len (by omega) (by omega))
    have hl3 : Hid ((digs ((10 : Int) ^ (nn / 2 % 30).toNat + (nn / 60 % 5 - 2)).natAbs).length ≤ 6) := Lib.hid (pw_len (by omega) (by omega) (by omega))
    generalize (10 : Int) ^ (nn / 2 % 30).toNat = T at hpw hl1 hl3
    go_wp2_with fail
    refine (hpw.out _).mono ?_
    rintro e w2 ⟨nb1, p1, n1, c1, rfl, hI1, hb1, hp1⟩
    go_wp2_with fail
    refine (hof.out _).mono ?_
    rintro e w3 ⟨nb2, p2, n2, c2, rfl, hI2, hb2, hp2⟩
    generalize nn / 60 % 5 - 2 = U at hI2 hl2 hl3 ⊢
    have hadd : Hid (Calls Tryd.prog 8 #[.agg #[.bool nb1, .slice p1 n1 c1], .agg #[.bool nb2, .slice p2 n2 c2]] w3 (RetI w3 (T + U))) := Lib.hid (rAdd_any _ _ _ _ _ _ _ _ T U w3 (hI1.later hb2).z hI2.z (by rw [hI1.2.1]; have := hl1.out; omega) (by rw [hI2.2.1]; have := hl2.out; omega))
    have hA3 := (hA.later hb1).later hb2
    clear hI1 hI2 hp1 hp2 hb1 hb2 hf
    go_wp2_with fail
    refine hadd.out.mono ?_
    rintro e w4 ⟨nb3, p3, n3, c3, rfl, hI3, hb3, hp3⟩
    have hA4 := (hA3.later hb3).later (below_new w4 (.cells #[.bool nb3, .slice p3 n3 c3] 24))
    have hno : Hid (Calls Tryd.prog 19 #[.bool (!ng == nb3), .slice p3 n3 c3] (w4.alloc (.cells #[.bool nb3, .slice p3 n3 c3] 24)) (RetF (fun q => p3 = some q) (w4.alloc (.cells #[.bool nb3, .slice p3 n3 c3] 24)) (sg (!ng == nb3) (val (digs (T + U).natAbs))))) := Lib.hid (normal_any _ _ _ _ _ _ (Rdi_below (below_new _ _) hI3.2.2.1) hI3.2.1 hI3.2.2.2.1 hI3.2.2.2.2 (Dg_digs _))
    have hA3' := Lib.hid hA3.top
    clear hI3 hb3
    go_wp2_with fail
    refine hno.out.mono ?_
    rintro e w5 ⟨nb4, p4, n4, c4, rfl, hI4, hb4, hp4⟩
    have hS3 := hA4.later hb4
    have hf3 := hS3.facts
    have hfin : Hid (NumP w (.returned (.agg #[.bool nb4, .slice p4 n4 c4])) ((w5.setCell ⟨w.heap.size, 0, none⟩ (.bool nb4)).setCell ⟨w.heap.size, 1, none⟩ (.slice p4 n4 c4))) := Lib.hid ⟨_, sg_len (Dg_digs _) hl3.out, hS3.ret hI4 (fun q hq => by
      have h1 := hp3 q (hp4 q hq)
      have h2 := hA3'.out
      exact ⟨by omega, by omega⟩) rfl⟩
    clear hI4 hb4 hp4
    go_wp2_with fail
    exact bodyPost_ret (v := .agg #[.bool nb4, .slice p4 n4 c4]) (results_cell_row rfl _ _ w.heap.size 24 _ (0, 0) _ rfl (hS3.res _ _) Tryd.underlying24 rfl size_Int) rfl hfin.out
  · have hN0 : Hid (NumG w 0 (.slice none 0 0) w0) := Lib.hid ⟨[], rfl, Dg_nil, World.ownsRow_nil _ _ _ _, hA⟩
    clear hA hf
    go_wp2_with fail
    go_loopw [8, 10] (fun u8 iv wr => ∃ k : Nat, (k : Int) ≤ 1 + nn / 2 % 5 ∧ iv = .int .i64 (k : Int) ∧ NumG w k u8 wr) (fun _ iv _ => 10 - (intOf iv).toNat)
    case atStart => exact ⟨0, by omega, rfl, hN0.out⟩
    case round =>
      obtain ⟨k, hk, rfl, hN⟩ := hrel
      have m0 : 0 ≤ nn / 2 % 5 := by omega
      have m1 : nn / 2 % 5 < 5 := by omega
      by_cases hlt : (k : Int) < 1 + nn / 2 % 5
      · obtain ⟨z, hzl, hzd, hown0, hA2⟩ := hN
        have hb := hA2.2
        have hown := Lib.hid hown0
        have hA2' := Lib.hid hA2
        have hzl' := Lib.hid hzl
        have hzd' := Lib.hid hzd
        have hsz : Hid (w.heap.size < wr.heap.size) := Lib.hid hA2.top
        have k0 : 0 ≤ (k : Int) := by omega
        have x0 := atv_lo l (at0 + 2 + k : Nat) 4 (by omega)
        have x1 := atv_hi l (at0 + 2 + k : Nat) 4 (by omega)
        obtain ⟨r, hr⟩ : ∃ r, atv l (at0 + 2 + k : Nat) 4 = r := ⟨_, rfl⟩
        have hat2 : Hid (∀ v W, Below w.heap.size w W → v = ((at0 + 2 + k : Nat) : Int) → Calls Tryd.prog 17 #[.slice a m c, .int .i64 v, .int .i64 4] W fun e w' => e = .returned (.int .i64 r) ∧ W = w') := Lib.hid fun v W hbb hv => by rw [← hr]; exact hatc.out v _ _ W hbb hv (by omega) (by omega) (by omega)
        rw [hr] at x0 x1
        have hcell := tbl_cell wr r x0 x1
        have hX2 := tbl_bd r x0 x1
        have hbt := Lib.hid (below_tr hb (below_new wr (.cells #[.int .i64 0, .int .i64 999999999, .int .i64 1, .int .i64 500000000] 3)))
        obtain ⟨X, hX⟩ : ∃ X, tbl r = X := ⟨_, rfl⟩
        rw [hX] at hcell hX2
        have hownT : Hid ((wr.alloc (.cells #[.int .i64 0, .int .i64 999999999, .int .i64 1, .int .i64 500000000] 3)).ownsRow (w.heap.size + 1) 3 1 u8 k (zvs z)) := Lib.hid (hown0.alloc _)
        have hpush : Hid (∀ v' w', w'.ownsRow (w.heap.size + 1) 3 1 v' (k + 1) (zvs z ++ [.int .i64 X]) → ((wr.alloc (.cells #[.int .i64 0, .int .i64 999999999, .int .i64 1, .int .i64 500000000] 3)).alloc (.cells #[.int .i64 X] 3)).grownBy w' u8.ownBlock → NumG w (k + 1) v' w') := Lib.hid fun v' w' h3 h4 => NumG.push hzl hzd hownT.out (hA2.later (below_new _ _)) hX2.1 hX2.2 h3 h4
        have hnews := Lib.hid (news2 wr (.cells #[.int .i64 0, .int .i64 999999999, .int .i64 1, .int .i64 500000000] 3) X)
        clear hr hX hzl hzd hown0 hA2 hb hX2
        go_wp2_with (first | (go_at_call 17; refine (hat2.out _ _ hbt.out (by omega)).mono ?_; rintro e w' ⟨rfl, rfl⟩) | (at_builtin; refine wpList_append_own _ rfl _ _ 22 rfl (w.heap.size + 1) 3 i0 (.int .i64 0) 1 8 Tryd.underlying22 hi hz0 hz1 hz2 rfl (by decide) _ _ _ rfl (hownT.out.alloc _) ⟨wr.heap.size + 1, 0, none⟩ 1 1 [.int .i64 X] rfl rfl (hnews.out) (by intro u hu; simp at hu; subst hu; rfl) (by unfold maxLen; omega) (by omega) (by have := hsz.out; simp; omega) ?_; intro v2 w2 ho2 hg2 _; have hG2 := Lib.hid (hpush.out _ _ ho2 hg2); clear ho2 hg2))
        exact ⟨⟨k + 1, by omega, by simp, hG2.out⟩, by simp only [intOf]; omega⟩
      · clear hatc
        have hN := hN
        obtain ⟨z, hzl, hzd, hown0, hA2⟩ := hN
        have hown1 : wr.ownsRow (w.heap.size + 1) 3 1 u8 z.length (zvs z) := by rw [hzl]; exact hown0
        obtain ⟨p, k2, c2, hu, hR, hk2, hkc, hcm, hp⟩ := own_sl hown1
        have hno : Hid (Calls Tryd.prog 19 #[.bool ng, .slice p k2 c2] wr (RetF (fun q => p = some q) wr (sg ng (val z)))) := Lib.hid (normal_any _ _ _ _ _ wr hR hk2.symm hkc hcm hzd)
        have hp' := Lib.hid hp
        have hzl' : Hid (z.length ≤ 6) := Lib.hid (by omega)
        have hzd' := Lib.hid hzd
        clear hR hk2 hp hown0 hown1 hzl hzd hN0
        subst hu
        go_wp2_with fail
        refine hno.out.mono ?_
        rintro e w2 ⟨nb, p2, n2, c2', rfl, hI0, hb2, hp0⟩
        have hS3 := hA2.later hb2
        have hf3 := hS3.facts
        have hfin : Hid (NumP w (.returned (.agg #[.bool nb, .slice p2 n2 c2'])) ((w2.setCell ⟨w.heap.size, 0, none⟩ (.bool nb)).setCell ⟨w.heap.size, 1, none⟩ (.slice p2 n2 c2'))) := Lib.hid ⟨_, sg_len hzd'.out hzl'.out, hS3.ret hI0 (fun q hq => by
          have := hp'.out q (hp0 q hq)
          exact ⟨by omega, by omega⟩) rfl⟩
        clear hI0 hb2 hp0
        go_wp2_with fail
        exact bodyPost_ret (v := .agg #[.bool nb, .slice p2 n2 c2']) (results_cell_row rfl _ _ w.heap.size 24 _ (0, 0) _ rfl (hS3.res _ _) Tryd.underlying24 rfl size_Int) rfl hfin.out
  · have k0 : (kd == 0) = false := by simp; omega
    have k1 : (kd == 1) = false := by simp; omega
    have k2 : (kd == 2) = false := by simp; omega
    have k3 : (kd == 3) = false := by simp; omega
    have hN0 : Hid (NumG w 0 (.slice none 0 0) w0) := Lib.hid ⟨[], rfl, Dg_nil, World.ownsRow_nil _ _ _ _, hA⟩
    clear hA hf
    go_wp2_with fail
    go_loopw [8, 11] (fun u8 iv wr => ∃ k : Nat, (k : Int) ≤ 1 + nn / 2 % 6 ∧ iv = .int .i64 (k : Int) ∧ NumG w k u8 wr) (fun _ iv _ => 10 - (intOf iv).toNat)
    case atStart => exact ⟨0, by omega, rfl, hN0.out⟩
    case round =>
      obtain ⟨k, hk, rfl, hN⟩ := hrel
      have m0 : 0 ≤ nn / 2 % 6 := by omega
      have m1 : nn / 2 % 6 < 6 := by omega
      by_cases hlt : (k : Int) < 1 + nn / 2 % 6
      · obtain ⟨z, hzl, hzd, hown0, hA2⟩ := hN
        have hb := hA2.2
        have hown := Lib.hid hown0
        have hA2' := Lib.hid hA2
        have hzl' := Lib.hid hzl
        have hzd' := Lib.hid hzd
        have hsz : Hid (w.heap.size < wr.heap.size) := Lib.hid hA2.top
        have k0 : 0 ≤ (k : Int) := by omega
        have x0 := atv_lo l (at0 + 2 + k : Nat) 1000000000 (by omega)
        have x1 := atv_hi l (at0 + 2 + k : Nat) 1000000000 (by omega)
        obtain ⟨X, hX⟩ : ∃ X, atv l (at0 + 2 + k : Nat) 1000000000 = X := ⟨_, rfl⟩
        have hat2 : Hid (∀ v, v = ((at0 + 2 + k : Nat) : Int) → Calls Tryd.prog 17 #[.slice a m c, .int .i64 v, .int .i64 1000000000] wr fun e w' => e = .returned (.int .i64 X) ∧ wr = w') := Lib.hid fun v hv => by rw [← hX]; exact hatc.out v _ _ wr hb hv (by omega) (by omega) (by omega)
        rw [hX] at x0 x1
        have hpush : Hid (∀ v' w', w'.ownsRow (w.heap.size + 1) 3 1 v' (k + 1) (zvs z ++ [.int .i64 X]) → (wr.alloc (.cells #[.int .i64 X] 3)).grownBy w' u8.ownBlock → NumG w (k + 1) v' w') := Lib.hid fun v' w' h3 h4 => NumG.push hzl hzd hown0 hA2 x0 x1 h3 h4
        clear hX hzl hzd hown0 hA2 hb
        go_wp2_with (first | (go_at_call 17; refine (hat2.out _ (by omega)).mono ?_; rintro e w' ⟨rfl, rfl⟩) | (at_builtin; refine wpList_append_own _ rfl _ _ 22 rfl (w.heap.size + 1) 3 i0 (.int .i64 0) 1 8 Tryd.underlying22 hi hz0 hz1 hz2 rfl (by decide) _ _ _ rfl (hown.out.alloc _) ⟨wr.heap.size, 0, none⟩ 1 1 [.int .i64 X] rfl rfl (cell_one_new _ _ _) (by intro u hu; simp at hu; subst hu; rfl) (by unfold maxLen; omega) (by omega) (by have := hsz.out; simp; omega) ?_; intro v2 w2 ho2 hg2 _; have hG2 := Lib.hid (hpush.out _ _ ho2 hg2); clear ho2 hg2))
        exact ⟨⟨k + 1, by omega, by simp, hG2.out⟩, by simp only [intOf]; omega⟩
      · clear hatc
        have hN := hN
        obtain ⟨z, hzl, hzd, hown0, hA2⟩ := hN
        have hown1 : wr.ownsRow (w.heap.size + 1) 3 1 u8 z.length (zvs z) := by rw [hzl]; exact hown0
        obtain ⟨p, k2, c2, hu, hR, hk2, hkc, hcm, hp⟩ := own_sl hown1
        have hno : Hid (Calls Tryd.prog 19 #[.bool ng, .slice p k2 c2] wr (RetF (fun q => p = some q) wr (sg ng (val z)))) := Lib.hid (normal_any _ _ _ _ _ wr hR hk2.symm hkc hcm hzd)
        have hp' := Lib.hid hp
        have hzl' : Hid (z.length ≤ 6) := Lib.hid (by omega)
        have hzd' := Lib.hid hzd
        clear hR hk2 hp hown0 hown1 hzl hzd hN0
        subst hu
        go_wp2_with fail
        refine hno.out.mono ?_
        rintro e w2 ⟨nb, p2, n2, c2', rfl, hI0, hb2, hp0⟩
        have hS3 := hA2.later hb2
        have hf3 := hS3.facts
        have hfin : Hid (NumP w (.returned (.agg #[.bool nb, .slice p2 n2 c2'])) ((w2.setCell ⟨w.heap.size, 0, none⟩ (.bool nb)).setCell ⟨w.heap.size, 1, none⟩ (.slice p2 n2 c2'))) := Lib.hid ⟨_, sg_len hzd'.out hzl'.out, hS3.ret hI0 (fun q hq => by
          have := hp'.out q (hp0 q hq)
          exact ⟨by omega, by omega⟩) rfl⟩
        clear hI0 hb2 hp0
        go_wp2_with fail
        exact bodyPost_ret (v := .agg #[.bool nb, .slice p2 n2 c2']) (results_cell_row rfl _ _ w.heap.size 24 _ (0, 0) _ rfl (hS3.res _ _) Tryd.underlying24 rfl size_Int) rfl hfin.out
end Go.Proofs.YtmbkpcnpacncjaaDoor
