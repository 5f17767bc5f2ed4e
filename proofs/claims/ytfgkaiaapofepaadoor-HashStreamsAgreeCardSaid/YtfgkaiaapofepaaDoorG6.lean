/- The reference: padded. -/
import Derived.Test.YtfgkaiaapofepaaDoorG1
import Derived.Test.YtfgkaiaapofepaaDoorG2
namespace Go.Proofs.YtfgkaiaapofepaaDoor
open Go.RowKit

/-- bytes that are read somewhere are appended to a row of the call's own -/
theorem wpList_append_rd {w wr : World} {ops : Array Oper} {rest : List Oper} {o : Oper} {a : Act} {Q : Exit → Act → World → Prop} (hg : o.guard = none) (s x : Operand) (hop : o.op = Op.call { callee := Callee.builtin Builtin.append, args := #[s, x], argTypes := #[22, 22] })
    (v : Value) (l t : List UInt8) (q : Option Addr) (m c2 : Nat) (hs : a.eval s = v) (hx : a.eval x = .slice q m c2) (hG : Grow w v l wr) (hRt : Rd wr q t) (hm : m = t.length) (hb : l.length + m ≤ 70368744177664)
    (hK : ∀ v' w', Grow w v' (l ++ t) w' → wpList Tryd.prog ops Q rest (a.put o.dst v') w') : wpList Tryd.prog ops Q (o :: rest) a wr := by
  obtain ⟨i0, hi, hz0, hz1, hz2⟩ := info_parts info_u8
  rcases Nat.eq_zero_or_pos m with h0 | h0
  · subst h0
    have ht : t = [] := List.eq_nil_of_length_eq_zero hm.symm
    subst ht
    obtain ⟨p, c, rfl, _, _, hnc, _⟩ := own_Rd hG.1
    refine wpList_plain hg fun K hK' => ?_
    unfold Oper.wp execOp
    simp only [hop, resolve, invoke, builtin, Sem.run_bind, Sem.run_pure, Result.andThen_ok, List.map_toArray, List.map_cons, List.map_nil, hs, hx, run_append_empty wr 22 o.type 5 i0 Tryd.underlying22 hi p q l.length c c2 hnc]
    exact hK' _ _ (hK _ _ (by rw [List.append_nil]; exact hG))
  · rcases hRt with rfl | ⟨b, off, rfl, hc⟩
    · simp at hm; omega
    · refine wpList_append_own wr hg s x 22 hop w.heap.size 5 i0 (.int .u8 0) 1 1 Tryd.underlying22 hi hz0 hz1 hz2 rfl (by decide) v l.length (bvs l) hs hG.1 ⟨b, off, none⟩ m c2 (bvs t) hx (by rw [bvs_length, hm]; omega) (Rd_news hc) (bvs_one _) (by unfold maxLen; omega) (by omega) hG.2.size ?_
      intro v' w' ho hgr _
      exact hK v' w' (hG.append (r := t) (by rw [← hm]; exact ho) hgr)

def lnOf : Value → Nat
  | .slice _ n _ => n
  | _ => 0
/-- the padding, while zeros are laid -/
def padI (l : List UInt8) (k : Nat) : List UInt8 := l ++ 128 :: List.replicate k 0
theorem padI_length (l : List UInt8) (k : Nat) : (padI l k).length = l.length + 1 + k := by simp [padI]; omega
theorem padI_step (l : List UInt8) (k : Nat) : padI l k ++ [0] = padI l (k + 1) := by
  unfold padI
  rw [List.append_assoc, List.cons_append, ← List.replicate_succ']
/-- the length's bytes, while they are laid -/
def padJ (l : List UInt8) (k : Nat) : List UInt8 := padI l (padz l.length) ++ (be8 (8 * l.length)).take k
theorem padJ_8 (l : List UInt8) : padJ l 8 = pad l := by
  unfold padJ padI pad
  rw [List.take_of_length_le (by rw [be8_length]; omega), List.append_assoc, List.cons_append]
theorem be8_get (n k : Nat) (h : k < 8) : (be8 n)[k]? = some (UInt8.ofNat (n / 2 ^ (56 - 8 * k))) := by
  unfold be8; simp [h]
theorem padJ_step (l : List UInt8) (k : Nat) (h : k < 8) : padJ l k ++ [UInt8.ofNat (8 * l.length / 2 ^ (56 - 8 * k))] = padJ l (k + 1) := by
  have hl : k < (be8 (8 * l.length)).length := by rw [be8_length]; exact h
  have hg : (be8 (8 * l.length))[k] = UInt8.ofNat (8 * l.length / 2 ^ (56 - 8 * k)) := Option.some.inj ((List.getElem?_eq_getElem hl).symm.trans (be8_get _ _ h))
  unfold padJ
  rw [List.take_succ_eq_append_getElem hl, hg, List.append_assoc]
theorem padJ_length (l : List UInt8) (k : Nat) (h : k ≤ 8) : (padJ l k).length = l.length + 1 + padz l.length + k := by
  unfold padJ; rw [List.length_append, padI_length, List.length_take, be8_length]; omega

set_option maxRecDepth 100000 in
set_option maxHeartbeats 1600000 in
theorem padded_any (a : Option Addr) (n c : Nat) (l : List UInt8) (w : World) (hR : Rd w a l) (hn : n = l.length) (hlen : l.length ≤ 1099511627776) : Calls Tryd.prog 27 #[.slice a n c] w (EncPost w (pad l)) := by
  obtain ⟨i0, hi, hz0, hz1, hz2⟩ := info_parts info_u8
  have hR' := Lib.hid (Rd_later hR (alloc_row (o := .cells #[] 5)))
  have hn' := Lib.hid hn
  have hnl : n ≤ 1099511627776 := by omega
  have hG0 : Hid (Grow w (.slice (some ⟨w.heap.size, 0, none⟩) 0 0) [] (w.alloc (.cells #[] 5))) := Lib.hid ⟨⟨rfl, .inr ⟨w.heap.size, 0, #[], rfl, Nat.le_refl _, heap_alloc_new _ _, Nat.le_refl _, by unfold maxLen; omega, rfl, rfl⟩⟩, alloc_row⟩
  clear hR hn
  go_enter Tryd.func27, Tryd.ntmps27
  go_wp2_with (first | (refine wpList_append_rd rfl (.tmp 6) (.tmp 7) rfl _ [] l _ _ _ rfl rfl hG0.out hR'.out hn'.out (by simp only [List.length_nil]; omega) ?_; intro v1 w1 hG1; rw [List.nil_append] at hG1; have hG1' := Lib.hid hG1; have hs1 := hG1.2.size; clear hG1) | (refine wpList_append_own _ rfl (.tmp 9) (.tmp 10) 22 rfl w.heap.size 5 i0 (.int .u8 0) 1 1 Tryd.underlying22 hi hz0 hz1 hz2 rfl (by decide) _ _ _ rfl (hG1'.out.1.alloc _) ⟨w1.heap.size, 0, none⟩ 1 1 [.int .u8 128] rfl rfl (cell_one_new _ _ _) (by intro u hu; simp at hu; subst hu; rfl) (by rw [← hn'.out]; unfold maxLen; omega) (by rw [← hn'.out]; omega) (by simp; omega) ?_; intro v2 w2 ho2 hg2 _; have hG2 := Lib.hid (hG1'.out.push (b := 128) ho2 hg2); clear ho2 hg2))
  clear hG0
  go_loopw [3] (fun v wr => ∃ k : Nat, k ≤ padz l.length ∧ Grow w v (padI l k) wr) (fun v _ => l.length + 1 + padz l.length - lnOf v)
  case atStart => exact ⟨0, by omega, hG2.out⟩
  case round =>
    obtain ⟨k, hk, hG⟩ := hrel
    have hpl := padI_length l k
    have hp64 : padz l.length < 64 := by unfold padz; omega
    obtain ⟨p, c3, rfl, _, _, hnc, hcm, _⟩ := own_Rd hG.1
    have hs3 := hG.2.size
    obtain ⟨L, hL⟩ : ∃ L, (padI l k).length = L := ⟨_, rfl⟩
    rw [hL] at hpl hnc hG ⊢
    have hG' := Lib.hid hG
    clear hG
    have hL' := Lib.hid hL
    have hown : Hid (wr.ownsRow w.heap.size 5 1 (.slice p L c3) L (bvs (padI l k))) := Lib.hid (by have := hG'.out.1; rw [hL'.out] at this; exact this)
    have hpa : L ≤ l.length + 1 + k := by omega
    have hpb : l.length + 1 + k ≤ L := by omega
    clear hL hpl
    by_cases hlt : k < padz l.length
    · have htest : (((L : Int) % 64) != 56) = true := by
        simp only [bne_iff_ne, ne_eq]
        unfold padz at hlt
        omega
      go_wp2_with (refine wpList_append_own _ rfl (.tmp 16) (.tmp 17) 22 rfl w.heap.size 5 i0 (.int .u8 0) 1 1 Tryd.underlying22 hi hz0 hz1 hz2 rfl (by decide) _ _ _ rfl (hown.out.alloc _) ⟨wr.heap.size, 0, none⟩ 1 1 [.int .u8 0] rfl rfl (cell_one_new _ _ _) (by intro u hu; simp at hu; subst hu; rfl) (by unfold maxLen; omega) (by omega) (by simp; omega) ?_; intro v2 w2 ho2 hg2 _; have hG2 := Lib.hid (hG'.out.push (b := 0) (by rw [hL'.out]; exact ho2) hg2); clear ho2 hg2)
      refine ⟨⟨k + 1, by omega, by rw [← padI_step]; exact hG2.out⟩, ?_⟩
      obtain ⟨p2, c2, rfl, _⟩ := own_Rd hG2.out.1
      simp only [lnOf, List.length_append, List.length_singleton, hL'.out]
      omega
    · have hk' : k = padz l.length := by omega
      have htest : (((L : Int) % 64) != 56) = false := by
        simp only [bne_eq_false_iff_eq]
        unfold padz at hk'
        omega
      have h8n : IntKind.u64.wrap (8 * (n : Int)) = 8 * (n : Int) := by rw [IntKind.wrap_u64]; omega
      have hJ : Hid (Grow w (.slice p L c3) (padJ l 0) wr) := Lib.hid (by
        unfold padJ; rw [List.take_zero, List.append_nil, ← hk']; exact hG'.out)
      clear hG'
      go_wp2_with fail
      go_loopw [3, 5] (fun v i wr => ∃ j : Nat, j ≤ 8 ∧ i = .int .i64 j ∧ Grow w v (padJ l j) wr) (fun _ i _ => 8 - (intOf i).toNat)
      case atStart => exact ⟨0, by omega, rfl, hJ.out⟩
      case round =>
        obtain ⟨j, hj, rfl, hG⟩ := hrel
        clear hJ
        by_cases hlt8 : j < 8
        · have hjl := padJ_length l j hj
          obtain ⟨M, hM⟩ : ∃ M, (padJ l j).length = M := ⟨_, rfl⟩
          have hMb : M ≤ l.length + 200 := by omega
          have hM' := Lib.hid hM
          have hG' := Lib.hid hG
          have hs4 := hG.2.size
          have hj8 : (j : Int) < 8 := by omega
          have e1 : IntKind.i64.wrap (56 - 8 * (j : Int)) = ((56 - 8 * j : Nat) : Int) := by rw [IntWalk.i64_in _ (by omega)]; omega
          have hst := Lib.hid (padJ_step l j hlt8)
          clear hG hjl hM
          have hv : Hid (8 * (n : Int) / 2 ^ (56 - 8 * j) % 256 = ((UInt8.ofNat (8 * l.length / 2 ^ (56 - 8 * j))).toNat : Int)) := Lib.hid (by
            rw [UInt8.toNat_ofNat', ← hn'.out]
            have e : (8 * (n : Int)) / 2 ^ (56 - 8 * j) = ((8 * n / 2 ^ (56 - 8 * j) : Nat) : Int) := by simp
            rw [e]; omega)
          go_wp2_with (refine wpList_append_own _ rfl (.tmp 27) (.tmp 34) 22 rfl w.heap.size 5 i0 (.int .u8 0) 1 1 Tryd.underlying22 hi hz0 hz1 hz2 rfl (by decide) _ _ _ rfl (hG'.out.1.alloc _) ⟨wr.heap.size, 0, none⟩ 1 1 [.int .u8 (8 * (n : Int) / 2 ^ (56 - 8 * j) % 256)] rfl rfl (cell_one_new _ _ _) (by intro u hu; simp at hu; subst hu; rfl) (by rw [hM'.out]; unfold maxLen; omega) (by rw [hM'.out]; omega) (by simp; omega) ?_; intro v2 w2 ho2 hg2 _; rw [hv.out] at ho2; have hG2 := Lib.hid (hG'.out.push (b := UInt8.ofNat (8 * l.length / 2 ^ (56 - 8 * j))) ho2 hg2); clear ho2 hg2)
          exact ⟨⟨j + 1, by omega, by simp, by rw [← hst.out]; exact hG2.out⟩, by simp [intOf]; omega⟩
        · have hj8 : j = 8 := by omega
          subst hj8
          rw [padJ_8] at hG
          have hG' := Lib.hid hG
          rw [show ((8 : Nat) : Int) = 8 from rfl]
          clear hG hlt8
          go_wp2_with fail
          go_ret
          exact ⟨_, rfl, hG'.out.1, hG'.out.2⟩
end Go.Proofs.YtfgkaiaapofepaaDoor
