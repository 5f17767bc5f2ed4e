/- hash.Of. -/
import Derived.Test.YtfgkaiaapofepaaDoorH11
namespace Go.Proofs.YtfgkaiaapofepaaDoor
open Go.RowKit

theorem bvs_take {d : List UInt8} {j k : Nat} {u : Value} (h : (bvs (d.take k))[j]? = some u) : (bvs d).toArray[j]? = some u := by
  have hj : j < (bvs (d.take k)).length := (List.getElem?_eq_some_iff.1 h).1
  rw [bvs_length, List.length_take] at hj
  simp only [bvs, List.getElem?_map, List.getElem?_toArray] at h ⊢
  rwa [List.getElem?_take, if_pos (by omega)] at h
theorem slice32h (g : Nat) (W : World) : (Instr.sliceAt 24 (.pointer (some ⟨g, 0, none⟩)) none (some (.int .i64 16)) none).run Tryd.prog W = .ok (.slice (some ⟨g, 0, none⟩) 16 32) W := by
  have hu : Tryd.prog.underlying 24 = some (.array 32 5) := Tryd.underlying24
  have hs : ∀ W, (sizeOf 5).run Tryd.prog W = .ok 1 W := fun W => by kernel_rfl
  have ha : Tryd.prog.arrayLen 24 = 32 := by kernel_rfl
  have he : Tryd.prog.elem 24 = 5 := by kernel_rfl
  rw [run_sliceAt_array_h (P := Tryd.prog) W 24 ⟨g, 0, none⟩ (by rw [ha, he]; exact hu) .i64 16 (by omega) (by rw [ha]; omega), he, ha, hs]
  simp [slicedAt, Addr.add]
theorem z16_size (l : List UInt8) (h : l.length = 16) : zero16.size = (bvs l).toArray.size := by
  have : zero16.size = 16 := by kernel_rfl
  rw [this, List.size_toArray, bvs_length, h]
theorem zero_16 : (Tryd.prog.info? 44).map (·.zero) = some (some (.agg zero16)) := by kernel_rfl
theorem bcell {W w1 : World} (hb : Below W.heap.size W w1) : (∀ b o, b < W.heap.size → w1.cell? ⟨b, o, none⟩ = W.cell? ⟨b, o, none⟩) ∧ (∀ b o, b < W.heap.size → w1.frozen? ⟨b, o, none⟩ = W.frozen? ⟨b, o, none⟩) :=
  ⟨fun b o h => hb.cell (p := ⟨b, o, none⟩) h, fun b o h => hb.frozen (p := ⟨b, o, none⟩) h⟩
theorem below_al {w0 W : World} (h : Below w0.heap.size w0 W) (o : Obj) : Below w0.heap.size w0 (W.alloc o) := h.alloc h.size o
theorem below_und {B : Nat} {w0 W : World} (h : Below B w0 W.drew) : Below B w0 W := ⟨h.os, h.tape, h.output, h.size, h.block⟩
theorem below_tr {w0 W W1 : World} (h : Below w0.heap.size w0 W) (h1 : Below W.heap.size W W1) : Below w0.heap.size w0 W1 := h.trans (h1.mono h.size)

theorem tag_wrap (t : Int) : IntKind.u8.wrap t = t % 256 := by simp [IntKind.wrap, IntKind.bits, IntKind.signed]
/-- the input of a digest, of which k parts are taken -/
def tagB (t : Int) : UInt8 := UInt8.ofNat (t % 256).toNat
theorem tag_go (t : Int) : IntKind.u8.wrap t = ((tagB t).toNat : Int) := by
  unfold tagB
  rw [tag_wrap, UInt8.toNat_ofNat']; omega
def inpK (t : Int) (l : List ByteArray) (k : Nat) : List UInt8 := tagB t :: (l.take k).flatMap encS
def OfI (w : World) (B : Nat) (m : List UInt8) (g : Nat) (W : World) : Prop :=
  W.heap[g]? = some (.cells (StrS m) 34 (0, 0)) ∧ B < g ∧ W.heap[B]? = some (.cells zero16 44 (0, 0)) ∧ Below w.heap.size w W ∧ B = w.heap.size

/-- a byte's block -/
def Cb (t : Int) (g : Nat) (W : World) : Prop := W.cell? ⟨g, 0, none⟩ = some (.int .u8 (IntKind.u8.wrap t))
theorem cb_new (t : Int) (W : World) : Cb t W.heap.size (W.alloc (.cells #[.int .u8 (IntKind.u8.wrap t)] 5)) := cell_row (heap_alloc_new _ _) rfl
theorem cb_new1 (t : Int) (W : World) (o : Obj) : Cb t (W.heap.size + 1) ((W.alloc o).alloc (.cells #[.int .u8 (IntKind.u8.wrap t)] 5)) := cell_row (heap_alloc2_new _ _ _) rfl
theorem cb_newd (t : Int) (W : World) : Cb t W.heap.size (W.drew.alloc (.cells #[.int .u8 (IntKind.u8.wrap t)] 5)) := cell_row (heap_alloc_new W.drew _) rfl
theorem cb_newd1 (t : Int) (W : World) (o : Obj) : Cb t (W.heap.size + 1) ((W.drew.alloc o).alloc (.cells #[.int .u8 (IntKind.u8.wrap t)] 5)) := cell_row (heap_alloc2_new W.drew _ _) rfl
theorem cb_tr {t : Int} {W w1 : World} (hb : Below W.heap.size W w1) (g : Nat) (h : Cb t g W) : Cb t g w1 := Below.cell_of' hb h
theorem cb_al (t : Int) (W : World) (o : Obj) (g : Nat) (h : Cb t g W) : Cb t g (W.alloc o) := cb_tr alloc_row g h
theorem cb_dr (t : Int) (W : World) (g : Nat) (h : Cb t g W) : Cb t g W.drew := h
theorem cb_u1 (t : Int) (W : World) (o : Obj) : Cb t W.heap.size ((W.alloc (.cells #[.int .u8 (IntKind.u8.wrap t)] 5)).alloc o) := cb_al _ _ _ _ (cb_new _ _)
theorem cb_u2 (t : Int) (W : World) : Cb t W.heap.size (W.alloc (.cells #[.int .u8 (IntKind.u8.wrap t)] 5)).drew := cb_dr _ _ _ (cb_new _ _)
theorem cb_u3 (t : Int) (W : World) (o : Obj) : Cb t W.heap.size ((W.alloc (.cells #[.int .u8 (IntKind.u8.wrap t)] 5)).alloc o).drew := cb_dr _ _ _ (cb_u1 _ _ _)
theorem cb_u4 (t : Int) (W : World) (o : Obj) : Cb t (W.heap.size + 1) ((W.alloc o).alloc (.cells #[.int .u8 (IntKind.u8.wrap t)] 5)).drew := cb_dr _ _ _ (cb_new1 _ _ _)
/-- an empty stream's block -/
def Zb (g : Nat) (W : World) : Prop := W.heap[g]? = some (.cells z73 34 (0, 0))
theorem zb_new (W : World) : Zb W.heap.size (W.alloc (.cells z73 34)) := heap_alloc_new _ _
theorem zb_new1 (W : World) (o : Obj) : Zb (W.heap.size + 1) ((W.alloc o).alloc (.cells z73 34)) := heap_alloc2_new _ _ _
theorem zb_newd (W : World) : Zb W.heap.size (W.drew.alloc (.cells z73 34)) := heap_alloc_new W.drew _
theorem zb_newd1 (W : World) (o : Obj) : Zb (W.heap.size + 1) ((W.drew.alloc o).alloc (.cells z73 34)) := heap_alloc2_new W.drew _ _
theorem zb_al (W : World) (o : Obj) (g : Nat) (h : Zb g W) : Zb g (W.alloc o) := heap_old (lt_of_block h) h
theorem zb_dr (W : World) (g : Nat) (h : Zb g W) : Zb g W.drew := h
theorem zb_u1 (W : World) (o : Obj) : Zb W.heap.size ((W.alloc (.cells z73 34)).alloc o) := zb_al _ _ _ (zb_new _)
theorem zb_u2 (W : World) : Zb W.heap.size (W.alloc (.cells z73 34)).drew := zb_dr _ _ (zb_new _)
theorem zb_u3 (W : World) (o : Obj) : Zb W.heap.size ((W.alloc (.cells z73 34)).alloc o).drew := zb_dr _ _ (zb_u1 _ _)
theorem zb_u4 (W : World) (o : Obj) : Zb (W.heap.size + 1) ((W.alloc o).alloc (.cells z73 34)).drew := zb_dr _ _ (zb_new1 _ _)
theorem zb_tr {W w1 : World} (hb : Below W.heap.size W w1) (g : Nat) (h : Zb g W) : Zb g w1 := (hb.block _ (lt_of_block h)).trans h

theorem OfI.fin {w Wa W2 : World} {m : List UInt8} {g : Nat} {X : Array Value} (hwa : Below w.heap.size w Wa) (hza : Wa.heap[w.heap.size]? = some (.cells zero16 44 (0, 0))) (hlt : w.heap.size < Wa.heap.size)
    (hb : Below Wa.heap.size Wa W2) (hz : Zb g W2) (hg : Wa.heap.size ≤ g) (hX : StrS m = X) : OfI w w.heap.size m g (W2.setRow g X) := by
  refine ⟨by rw [hX]; exact setRow_heap _ _ _ _ _ _ hz, by omega, ?_, below_setRow (hwa.trans (hb.mono hwa.size)) (by omega) _, rfl⟩
  rw [setRow_other _ _ _ _ (by omega)]
  exact (hb.block _ hlt).trans hza

theorem OfI.later {w W W1 : World} {B : Nat} {m : List UInt8} {g : Nat} (h : OfI w B m g W) (hb : Below W.heap.size W W1) : OfI w B m g W1 :=
  ⟨(hb.block _ (lt_of_block h.1)).trans h.1, h.2.1, (hb.block _ (lt_of_block h.2.2.1)).trans h.2.2.1, h.2.2.2.1.trans (hb.mono h.2.2.2.1.size), h.2.2.2.2⟩
theorem OfI.drew {w W : World} {B : Nat} {m : List UInt8} {g : Nat} (h : OfI w B m g W) : OfI w B m g W.drew := h.later (below_drew (Below.refl _ _))
theorem OfI.set {w W : World} {B : Nat} {m : List UInt8} {g : Nat} (h : OfI w B m g W) (m' : List UInt8) : OfI w B m' g (W.setRow g (StrS m')) := by
  obtain ⟨h1, h2, h3, h4, h5⟩ := h
  exact ⟨setRow_heap _ _ _ _ _ _ h1, h2, (setRow_other _ _ _ _ (by omega)).trans h3, below_setRow h4 (by omega) _, h5⟩
theorem inpK_step (t : Int) (l : List ByteArray) (k : Nat) (h : k < l.length) : inpK t l (k + 1) = inpK t l k ++ encS (sat l k) := by
  unfold inpK
  rw [flat_take encS l k h ByteArray.empty]; rfl
theorem inpK_le (t : Int) (l : List ByteArray) (k n : Nat) (h : k < n) (hn : n ≤ l.length) (hl : (inpK t l n).length ≤ 35184372088832) : (inpK t l k).length + (encS (sat l k)).length ≤ 35184372088832 ∧ (sat l k).size ≤ 35184372088832 := by
  have h1 := flat_take_le encS (l.take n) (k + 1)
  rw [List.take_take, Nat.min_eq_left (by omega)] at h1
  have h2 := congrArg List.length (inpK_step t l k (by omega))
  have h3 : (sat l k).size ≤ (encS (sat l k)).length := by unfold encS; rw [List.length_append, sl_length]; omega
  unfold inpK at hl h2 ⊢
  simp only [List.length_cons, List.length_append] at hl h2 ⊢
  omega

set_option maxRecDepth 100000 in
set_option maxHeartbeats 3200000 in
theorem of_any (t : Int) (a : Option Addr) (n c : Nat) (l : List ByteArray) (w : World) (hR0 : Rds w a l) (hn0 : n = l.length) (hmax : n ≤ 70368744177664) (hlen : (inpK t l n).length ≤ 35184372088832) (hT0 : Tab w) :
    Calls Tryd.prog 21 #[.int .i64 t, .slice a n c] w fun e w' => e = .returned (.agg (bvs ((sha (inpK t l n)).take 16)).toArray) ∧ Below w.heap.size w w' := by
  have hT := Lib.hid hT0
  have hR := Lib.hid hR0
  have hn := Lib.hid hn0
  have hlen' := Lib.hid hlen
  obtain ⟨X0, hX0⟩ : ∃ X0, StrS [] = X0 := ⟨_, rfl⟩
  obtain ⟨X1, hX1⟩ : ∃ X1, StrS [tagB t] = X1 := ⟨_, rfl⟩
  have hbg : Hid (∀ W : World, Calls Tryd.prog 14 #[] W fun e w' => e = .returned (.agg X0) ∧ Below W.heap.size W w') := Lib.hid (by rw [← hX0]; exact begin_str)
  have had : Hid (∀ W : World, Tab W → Calls Tryd.prog 15 #[.agg X0, .string (bs [tagB t])] W fun e w' => e = .returned (.agg X1) ∧ Below W.heap.size W w') := Lib.hid (by
    rw [← hX0, ← hX1]; exact fun W h => add_any [] (bs [tagB t]) (by rw [bs_size]; simp) W h)
  have hX1' := Lib.hid hX1
  have hx1 : Hid (∀ v ∈ X1.toList, v.oneCell' = true) := Lib.hid (by rw [← hX1]; exact strC_one _ _ _)
  have hxs : X1.size = 73 := by rw [← hX1]; exact strC_length _ _ _ (strb_length _)
  clear hT0 hR0 hn0 hlen hX0 hX1
  go_enter Tryd.func21, Tryd.ntmps21
  go_upto_region 1 with (refine wpList_alloc_as rfl 44 rfl zero16 zero_16 ?_)
  simp only [Act.put, List.setIfInBounds_toArray, List.set_cons_zero, List.set_cons_succ]
  have hwa := Lib.hid (show Below w.heap.size w (w.alloc (.cells zero16 44)) from alloc_row)
  have hza := Lib.hid (heap_alloc_new w (.cells zero16 44))
  have hwl : w.heap.size < (w.alloc (.cells zero16 44)).heap.size := by simp
  have hTa := Lib.hid (hT.out.later hwa.out)
  generalize w.alloc (.cells zero16 44) = Wa at hwa hza hwl hTa ⊢
  have hb0 := Lib.hid (show Below Wa.heap.size Wa Wa.drew from below_drew (Below.refl _ _))
  go_cut [5] (fun x wx => ∃ g, x = .pointer (some ⟨g, 0, none⟩) ∧ OfI w w.heap.size [tagB t] g wx)
  case first =>
    have hcv : ∀ (W : World) (g : Nat), Cb t g W → (convert 22 9 (.slice (some ⟨g, 0, none⟩) 1 1)).run Tryd.prog W = .ok (.string (bs [tagB t])) W := fun W g h =>
      conv_str (.inr ⟨g, 0, rfl, fun i hi => by
        obtain rfl : i = 0 := by simpa using hi
        rw [Nat.zero_add, h, tag_go]; rfl⟩) rfl
    have hk1 := cb_new t
    have hk2 := cb_new1 t
    have hk3 := cb_al t
    have hk4 := cb_newd t
    have hk5 := cb_newd1 t
    have hk6 := cb_dr t
    have hu1 := cb_u1 t
    have hu2 := cb_u2 t
    have hu3 := cb_u3 t
    have hu4 := cb_u4 t
    have hz73 := run_zero_73
    have hst : ∀ (W : World) (g : Nat), Zb g W → (storeCells ⟨g, 0, none⟩ X1.toList).run Tryd.prog W = .ok () (W.setRow g X1) := fun W g h => by
      have := store_cells (P := Tryd.prog) g W z73 34 X1.toList h (by rw [Array.length_toList, hxs]; kernel_rfl) hx1.out
      simpa using this
    have hz1 := zb_new
    have hz2 := zb_new1
    have hz3 := zb_al
    have hz4 := zb_newd
    have hz5 := zb_newd1
    have hz6 := zb_dr
    have hv1 := zb_u1
    have hv2 := zb_u2
    have hv3 := zb_u3
    have hv4 := zb_u4
    go_region_with (first | (go_at_call 14; refine (hbg.out _).mono ?_; rintro e w1 ⟨rfl, hb1⟩; (try have hq3 := cb_tr (t := t) hb1 _ (cb_new _ _)); (try have hq3 := cb_tr (t := t) hb1 _ (cb_new1 _ _ _)); (try have hq3 := cb_tr (t := t) hb1 _ (cb_al _ _ _ _ (cb_new _ _))); (try have hq3 := cb_tr (t := t) hb1 _ (cb_newd _ _)); (try have hq3 := cb_tr (t := t) hb1 _ (cb_newd1 _ _ _)); (try have hq3 := cb_tr (t := t) hb1 _ (cb_al _ _ _ _ (cb_newd _ _))); (try have hq1 := zb_tr hb1 _ (zb_new _)); (try have hq1 := zb_tr hb1 _ (zb_new1 _ _)); (try have hq1 := zb_tr hb1 _ (zb_al _ _ _ (zb_new _))); (try have hq1 := zb_tr hb1 _ (zb_newd _)); (try have hq1 := zb_tr hb1 _ (zb_newd1 _ _)); (try have hq1 := zb_tr hb1 _ (zb_al _ _ _ (zb_newd _))); (try have hq3 := cb_tr (t := t) hb1 _ (cb_dr _ _ _ (cb_new _ _))); (try have hq3 := cb_tr (t := t) hb1 _ (cb_dr _ _ _ (cb_new1 _ _ _))); (try have hq3 := cb_tr (t := t) hb1 _ (cb_dr _ _ _ (cb_al _ _ _ _ (cb_new _ _)))); (try have hq1 := zb_tr hb1 _ (zb_dr _ _ (zb_new _))); (try have hq1 := zb_tr hb1 _ (zb_dr _ _ (zb_new1 _ _))); (try have hq1 := zb_tr hb1 _ (zb_dr _ _ (zb_al _ _ _ (zb_new _)))); have hb1' := Lib.hid (below_tr (by first | exact hb0.out | exact below_al hb0.out _ | exact below_al (below_al hb0.out _) _ | exact below_drew (below_al (below_und hb0.out) _) | exact below_drew (below_al (below_al (below_und hb0.out) _) _)) hb1); clear hb1) | (go_at_call 15; refine (had.out _ (hTa.out.below (by first | exact hb1'.out | exact below_al hb1'.out _ | exact below_al (below_al hb1'.out _) _) hTa.out.lt)).mono ?_; rintro e w2 ⟨rfl, hb2⟩; (try have hq2 := zb_tr hb2 _ (zb_new _)); (try have hq2 := zb_tr hb2 _ (zb_new1 _ _)); (try have hq2 := zb_tr hb2 _ (zb_al _ _ _ (zb_new _))); (try have hq2 := zb_tr hb2 _ (zb_newd _)); (try have hq2 := zb_tr hb2 _ (zb_newd1 _ _)); (try have hq2 := zb_tr hb2 _ (zb_al _ _ _ (zb_newd _))); (try have hq2 := zb_tr hb2 _ hq1); (try have hq2 := zb_tr hb2 _ (zb_al _ _ _ hq1)); have hb2' := Lib.hid (below_tr (by first | exact hb1'.out | exact below_al hb1'.out _ | exact below_al (below_al hb1'.out _) _) hb2); clear hb2))
    all_goals
      have hs1 := hb1'.out.size
      have hs2 := hb2'.out.size
      go_wp2_with fail
      go_meet
      first
        | exact ⟨_, rfl, OfI.fin hwa.out hza.out hwl hb2'.out hq2 (by omega) hX1'.out⟩
        | exact ⟨_, rfl, OfI.fin hwa.out hza.out hwl (below_al hb2'.out _) (zb_new _) (by omega) hX1'.out⟩
  case rest =>
    obtain ⟨g, rfl, hO⟩ := hcut
    have hO0 := Lib.hid hO
    clear hO hb0 hza hwl hTa hwa hX1' hx1 hxs hbg had
    go_wp2_with fail
    go_loopw [17] (fun i wr => ∃ k : Nat, k ≤ n ∧ i = .int .i64 k ∧ OfI w w.heap.size (inpK t l k) g wr) (fun i _ => n - (intOf i).toNat)
    case atStart => exact ⟨0, by omega, rfl, hO0.out⟩
    case round =>
      obtain ⟨k, hk, rfl, hI⟩ := hrel
      clear hO0
      by_cases hlt : k < n
      · have hkl : k < l.length := by rw [← hn.out]; exact hlt
        obtain ⟨b0, off, rfl, hc0⟩ := Rds_at hR.out k hkl
        have hcell := Below.cell_of' hI.2.2.2.1 hc0
        have hlt' : (k : Int) < (n : Int) := by omega
        have hk0 : 0 ≤ (k : Int) := by omega
        have hlk := Lib.hid (inpK_le t l k n hlt (by rw [← hn.out]; omega) hlen'.out)
        have hst := Lib.hid (inpK_step t l k hkl)
        have hI' := Lib.hid hI
        clear hI hc0 hkl
        obtain ⟨M, hM⟩ : ∃ M, inpK t l k = M := ⟨_, rfl⟩
        rw [hM] at hI' hlk hst
        obtain ⟨s, hs⟩ : ∃ s, sat l k = s := ⟨_, rfl⟩
        rw [hs] at hcell hlk hst
        clear hM hs
        go_upto_region 1 with fail
        refine wp_region_held_drew (S := fun _ => True) (by kernel_rfl) trivial (fun hHeld => ?_)
        refine wpAnyH_take (i := 1) (v := .string s) rfl (by kernel_rfl) (by kernel_rfl) (by kernel_rfl) (fun _ _ _ h => h) (Or.inl ⟨by rfl, fun W _ => by go_simp⟩) hHeld ?_
        simp only [Act.put, List.getElem_toArray, List.getElem_cons_zero, List.getElem_cons_succ, List.setIfInBounds_toArray, List.set_cons_zero, List.set_cons_succ]
        refine wpAnyH_ready (rs := [0, 2]) (by kernel_rfl) (by simp) ?_
        refine AllReadyH.cons rfl (fun K hK => ?_) (AllReadyH.cons rfl (fun K hK => ?_) AllReadyH.nil)
        · skip
          try simp only [List.getElem_toArray, List.getElem_cons_zero]
          rw [if_pos (by rfl)]
          refine wp_load_row 34 _ rfl g rfl 34 (StrS M) (0, 0) _ hI'.out.drew.1 Tryd.underlying34 rfl (StrS_size M) ?_
          refine hK.out _ _ trivial (fun hHeld => ?_)
          clear hK K
          try simp only [Act.put, List.setIfInBounds_toArray, List.set_cons_zero, List.set_cons_succ]
          refine wpAnyH_ready (rs := [2]) (by kernel_rfl) (by simp) ?_
          refine AllReadyH.cons rfl (fun K hK => ?_) AllReadyH.nil
          try simp only [List.getElem_toArray, List.getElem_cons_zero, List.getElem_cons_succ]
          go_simp
          refine (Bytes_any s _ (by have := hlk.out; have := enc_le (s.size : Int); omega)).mono ?_
          rintro e w1 hp
          obtain ⟨p1, c1, rfl, hR1, hc1, hm1, hb1⟩ := enc_Rd hp
          refine hK.out _ _ trivial (fun hHeld => ?_)
          clear hK K
          try simp only [Act.put, List.getElem_toArray, List.getElem_cons_zero, List.getElem_cons_succ, List.setIfInBounds_toArray, List.set_cons_zero, List.set_cons_succ]
          clear hp
          have hI1 := hI'.out.drew.later hb1
          have hcv1 := conv_str (c := c1) (n := (enc (s.size : Int)).length + (sl s).length) hR1 (by rw [List.length_append])
          refine wpAnyH_ready (rs := [3]) (by kernel_rfl) (by simp) ?_
          refine AllReadyH.cons rfl (fun K hK => ?_) AllReadyH.nil
          try simp only [List.getElem_toArray, List.getElem_cons_zero, List.getElem_cons_succ]
          go_simp
          refine hK.out _ _ trivial (fun hHeld => ?_)
          clear hK K
          try simp only [Act.put, List.getElem_toArray, List.getElem_cons_zero, List.getElem_cons_succ, List.setIfInBounds_toArray, List.set_cons_zero, List.set_cons_succ]
          refine wpAnyH_ready (rs := [4]) (by kernel_rfl) (by simp) ?_
          refine AllReadyH.cons rfl (fun K hK => ?_) AllReadyH.nil
          try simp only [List.getElem_toArray, List.getElem_cons_zero, List.getElem_cons_succ]
          go_simp
          refine (add_any M (bs (encS s)) (by rw [bs_size]; have := hlk.out; omega) _ (hT.out.below hI1.2.2.2.1 hT.out.lt)).mono ?_
          rintro e w2 ⟨rfl, hb2⟩
          refine hK.out _ _ trivial (fun hHeld => ?_)
          clear hK K
          try simp only [Act.put, List.getElem_toArray, List.getElem_cons_zero, List.getElem_cons_succ, List.setIfInBounds_toArray, List.set_cons_zero, List.set_cons_succ]
          have hI2 := hI1.later hb2
          refine wpAnyH_ready (rs := [5]) (by kernel_rfl) (by simp) ?_
          refine AllReadyH.cons rfl (fun K hK => ?_) AllReadyH.nil
          try simp only [List.getElem_toArray, List.getElem_cons_zero, List.getElem_cons_succ]
          rw [if_pos (by rfl)]
          rw [bs_list]
          refine wp_store_row 34 _ _ rfl g (StrS (M ++ encS s)) rfl rfl 34 _ hI2.1 (StrS_size _) (by rw [← StrS_z73 M, StrS_z73 (M ++ encS s)]) (StrS_one _) ?_
          refine hK.out _ _ trivial (fun hHeld => ?_)
          clear hK K
          refine wpAnyH_done (by kernel_rfl) ?_ _
          have hI3 := Lib.hid (hI2.set (M ++ encS s))
          clear hI2 hI1 hcv1 hR1 hcell
          go_wp2_with fail
          refine ⟨⟨k + 1, by omega, by simp, by rw [hst.out]; exact hI3.out⟩, by simp [intOf]; omega⟩
        · skip
          try simp only [List.getElem_toArray, List.getElem_cons_zero, List.getElem_cons_succ]
          go_simp
          refine (Bytes_any s _ (by have := hlk.out; have := enc_le (s.size : Int); omega)).mono ?_
          rintro e w1 hp
          obtain ⟨p1, c1, rfl, hR1, hc1, hm1, hb1⟩ := enc_Rd hp
          refine hK.out _ _ trivial (fun hHeld => ?_)
          clear hK K
          try simp only [Act.put, List.getElem_toArray, List.getElem_cons_zero, List.getElem_cons_succ, List.setIfInBounds_toArray, List.set_cons_zero, List.set_cons_succ]
          clear hp
          have hI1 := hI'.out.drew.later hb1
          have hcv1 := conv_str (c := c1) (n := (enc (s.size : Int)).length + (sl s).length) hR1 (by rw [List.length_append])
          refine wpAnyH_ready (rs := [0, 3]) (by kernel_rfl) (by simp) ?_
          refine AllReadyH.cons rfl (fun K hK => ?_) (AllReadyH.cons rfl (fun K hK => ?_) AllReadyH.nil)
          · skip
            try simp only [List.getElem_toArray, List.getElem_cons_zero]
            rw [if_pos (by rfl)]
            refine wp_load_row 34 _ rfl g rfl 34 (StrS M) (0, 0) _ hI1.1 Tryd.underlying34 rfl (StrS_size M) ?_
            refine hK.out _ _ trivial (fun hHeld => ?_)
            clear hK K
            try simp only [Act.put, List.setIfInBounds_toArray, List.set_cons_zero, List.set_cons_succ]
            refine wpAnyH_ready (rs := [3]) (by kernel_rfl) (by simp) ?_
            refine AllReadyH.cons rfl (fun K hK => ?_) AllReadyH.nil
            try simp only [List.getElem_toArray, List.getElem_cons_zero, List.getElem_cons_succ]
            go_simp
            refine hK.out _ _ trivial (fun hHeld => ?_)
            clear hK K
            try simp only [Act.put, List.getElem_toArray, List.getElem_cons_zero, List.getElem_cons_succ, List.setIfInBounds_toArray, List.set_cons_zero, List.set_cons_succ]
            refine wpAnyH_ready (rs := [4]) (by kernel_rfl) (by simp) ?_
            refine AllReadyH.cons rfl (fun K hK => ?_) AllReadyH.nil
            try simp only [List.getElem_toArray, List.getElem_cons_zero, List.getElem_cons_succ]
            go_simp
            refine (add_any M (bs (encS s)) (by rw [bs_size]; have := hlk.out; omega) _ (hT.out.below hI1.2.2.2.1 hT.out.lt)).mono ?_
            rintro e w2 ⟨rfl, hb2⟩
            refine hK.out _ _ trivial (fun hHeld => ?_)
            clear hK K
            try simp only [Act.put, List.getElem_toArray, List.getElem_cons_zero, List.getElem_cons_succ, List.setIfInBounds_toArray, List.set_cons_zero, List.set_cons_succ]
            have hI2 := hI1.later hb2
            refine wpAnyH_ready (rs := [5]) (by kernel_rfl) (by simp) ?_
            refine AllReadyH.cons rfl (fun K hK => ?_) AllReadyH.nil
            try simp only [List.getElem_toArray, List.getElem_cons_zero, List.getElem_cons_succ]
            rw [if_pos (by rfl)]
            rw [bs_list]
            refine wp_store_row 34 _ _ rfl g (StrS (M ++ encS s)) rfl rfl 34 _ hI2.1 (StrS_size _) (by rw [← StrS_z73 M, StrS_z73 (M ++ encS s)]) (StrS_one _) ?_
            refine hK.out _ _ trivial (fun hHeld => ?_)
            clear hK K
            refine wpAnyH_done (by kernel_rfl) ?_ _
            have hI3 := Lib.hid (hI2.set (M ++ encS s))
            clear hI2 hI1 hcv1 hR1 hcell
            go_wp2_with fail
            refine ⟨⟨k + 1, by omega, by simp, by rw [hst.out]; exact hI3.out⟩, by simp [intOf]; omega⟩
          · skip
            try simp only [List.getElem_toArray, List.getElem_cons_zero, List.getElem_cons_succ]
            go_simp
            refine hK.out _ _ trivial (fun hHeld => ?_)
            clear hK K
            try simp only [Act.put, List.getElem_toArray, List.getElem_cons_zero, List.getElem_cons_succ, List.setIfInBounds_toArray, List.set_cons_zero, List.set_cons_succ]
            refine wpAnyH_ready (rs := [0]) (by kernel_rfl) (by simp) ?_
            refine AllReadyH.cons rfl (fun K hK => ?_) AllReadyH.nil
            try simp only [List.getElem_toArray, List.getElem_cons_zero]
            rw [if_pos (by rfl)]
            refine wp_load_row 34 _ rfl g rfl 34 (StrS M) (0, 0) _ hI1.1 Tryd.underlying34 rfl (StrS_size M) ?_
            refine hK.out _ _ trivial (fun hHeld => ?_)
            clear hK K
            try simp only [Act.put, List.setIfInBounds_toArray, List.set_cons_zero, List.set_cons_succ]
            refine wpAnyH_ready (rs := [4]) (by kernel_rfl) (by simp) ?_
            refine AllReadyH.cons rfl (fun K hK => ?_) AllReadyH.nil
            try simp only [List.getElem_toArray, List.getElem_cons_zero, List.getElem_cons_succ]
            go_simp
            refine (add_any M (bs (encS s)) (by rw [bs_size]; have := hlk.out; omega) _ (hT.out.below hI1.2.2.2.1 hT.out.lt)).mono ?_
            rintro e w2 ⟨rfl, hb2⟩
            refine hK.out _ _ trivial (fun hHeld => ?_)
            clear hK K
            try simp only [Act.put, List.getElem_toArray, List.getElem_cons_zero, List.getElem_cons_succ, List.setIfInBounds_toArray, List.set_cons_zero, List.set_cons_succ]
            have hI2 := hI1.later hb2
            refine wpAnyH_ready (rs := [5]) (by kernel_rfl) (by simp) ?_
            refine AllReadyH.cons rfl (fun K hK => ?_) AllReadyH.nil
            try simp only [List.getElem_toArray, List.getElem_cons_zero, List.getElem_cons_succ]
            rw [if_pos (by rfl)]
            rw [bs_list]
            refine wp_store_row 34 _ _ rfl g (StrS (M ++ encS s)) rfl rfl 34 _ hI2.1 (StrS_size _) (by rw [← StrS_z73 M, StrS_z73 (M ++ encS s)]) (StrS_one _) ?_
            refine hK.out _ _ trivial (fun hHeld => ?_)
            clear hK K
            refine wpAnyH_done (by kernel_rfl) ?_ _
            have hI3 := Lib.hid (hI2.set (M ++ encS s))
            clear hI2 hI1 hcv1 hR1 hcell
            go_wp2_with fail
            refine ⟨⟨k + 1, by omega, by simp, by rw [hst.out]; exact hI3.out⟩, by simp [intOf]; omega⟩
      · have hk' : k = n := by omega
        subst hk'
        obtain ⟨M, hM⟩ : ∃ M, inpK t l k = M := ⟨_, rfl⟩
        obtain ⟨d, hd0, hD⟩ := sha_dig M
        rw [hM] at hI
        have hMl : M.length ≤ 1152921504606846976 := by have := hlen'.out; rw [hM] at this; omega
        have hTr := Lib.hid (hT.out.below hI.2.2.2.1 hT.out.lt)
        have hrow := Lib.hid hI.1
        have hz16 := Lib.hid hI.2.2.1
        have hbl := Lib.hid hI.2.2.2.1
        have hsz := Lib.hid (StrS_size M)
        have hsu : Hid (∀ W : World, Tab W → Calls Tryd.prog 17 #[.agg (StrS M)] W fun e w' => e = .returned (.agg (bvs d).toArray) ∧ Below W.heap.size W w') := Lib.hid (by rw [← hd0]; exact fun W h => ssum_any M hMl W h)
        have hD' := Lib.hid hD
        have hM' := Lib.hid hM
        have hd' := Lib.hid hd0
        have hbd : (bvs d).length = 32 := by rw [bvs_length, hD.len]
        have h16 : Hid ((d.take 16).length = 16) := Lib.hid (by rw [List.length_take, hD.len]; rfl)
        have hz2 := Lib.hid (z16_size _ h16.out)
        have hs2 : Hid ((Tryd.prog.info? 44).map (·.size) = some (bvs (d.take 16)).toArray.size) := Lib.hid (by rw [List.size_toArray, bvs_length, h16.out]; kernel_rfl)
        have hs3 : Hid ((Tryd.prog.info? 44).map (·.size) = some (bvs (d.take 16)).length) := Lib.hid (by rw [bvs_length, h16.out]; kernel_rfl)
        have h1b := Lib.hid (all_oneCell_toArray (bvs_one (d.take 16)))
        have hsl := slice32h
        have hap : ∀ (g : Nat) (W : World), (Instr.arrayAt 44 (.slice (some ⟨g, 0, none⟩) 16 32)).run Tryd.prog W = .ok (.pointer (some ⟨g, 0, none⟩)) W := fun g W => run_arrayAt _ _ 5 16 _ _ _ Tryd.underlying44 (Nat.le_refl _)
        clear hI hM hMl hd0 hD hlt
        go_wp2_with (first | (refine wpList_load_row rfl 34 _ rfl g rfl 34 (StrS M) (0, 0) _ hrow.out Tryd.underlying34 rfl hsz.out ?_) | (go_at_call 17; refine (hsu.out _ hTr.out).mono ?_; rintro e w3 ⟨rfl, hb3⟩; have hb3' := Lib.hid (hbl.out.trans (hb3.mono hbl.out.size)); have hst := store_last (w := w3) hD'.out; have hr3 := Lib.hid (heap_old (o := .cells (bvs d).toArray 24) (Nat.lt_of_lt_of_le (lt_of_block hz16.out) hb3.size) ((hb3.block _ (lt_of_block hz16.out)).trans hz16.out)); clear hb3) | (refine wpList_alloc_as rfl 24 rfl z32 zero_32b ?_) | (refine wpList_load_mid rfl 44 _ rfl w3.heap.size 0 rfl (bvs (d.take 16)) _ (fun j u hu => cell_row (heap_alloc_new _ _) (by rw [Nat.zero_add]; exact bvs_take hu)) Tryd.underlying44 rfl hs3.out ?_) | (refine wpList_store_row rfl 44 _ _ rfl w.heap.size (bvs (d.take 16)).toArray rfl rfl 44 zero16 hr3.out hs2.out hz2.out h1b.out ?_))
        exact bodyPost_ret (v := .agg (bvs (d.take 16)).toArray) (results_cell_row rfl _ _ w.heap.size 44 _ (0, 0) _ rfl (setRow_heap _ _ _ _ _ _ hr3.out) Tryd.underlying44 rfl hs2.out) rfl ⟨by rw [hM'.out, hd'.out], below_setRow (hb3'.out.alloc hb3'.out.size _) (Nat.le_refl _) _⟩
end Go.Proofs.YtfgkaiaapofepaaDoor
