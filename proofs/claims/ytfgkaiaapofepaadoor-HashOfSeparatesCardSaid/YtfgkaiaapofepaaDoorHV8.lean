/- The walk of HashOfSeparates. -/
import Derived.Test.YtfgkaiaapofepaaDoorHV7
namespace Go.Proofs.YtfgkaiaapofepaaDoor
open Go.RowKit

theorem tagB_inj {s t : Int} (hs0 : 0 ≤ s) (hs1 : s < 256) (ht0 : 0 ≤ t) (ht1 : t < 256) (h : tagB s = tagB t) : s = t := by
  unfold tagB at h
  have h2 := congrArg UInt8.toNat h
  rw [UInt8.toNat_ofNat', UInt8.toNat_ofNat'] at h2
  omega
theorem encS_inj {s t : ByteArray} {a b : List UInt8} (hs : s.size ≤ 9223372036854775807) (ht : t.size ≤ 9223372036854775807) (h : encS s ++ a = encS t ++ b) : s = t ∧ a = b := by
  have h1 := gb_enc s a hs
  have h2 := gb_enc t b ht
  rw [h] at h1
  have h3 := h1.symm.trans h2
  simp only [Prod.mk.injEq] at h3
  refine ⟨?_, (List.append_inj h h3.2.1).2⟩
  rw [← bs_sl s, ← bs_sl t, h3.1]
theorem flat_inj : ∀ {l m : List ByteArray}, (∀ s ∈ l, s.size ≤ 9223372036854775807) → (∀ s ∈ m, s.size ≤ 9223372036854775807) → l.flatMap encS = m.flatMap encS → l = m
  | [], [], _, _, _ => rfl
  | [], s :: m, _, _, h => by
    have h1 := congrArg List.length h
    have h2 := encS_pos s
    rw [List.flatMap_cons, List.flatMap_nil, List.length_append, List.length_nil] at h1
    omega
  | s :: l, [], _, _, h => by
    have h1 := congrArg List.length h
    have h2 := encS_pos s
    rw [List.flatMap_cons, List.flatMap_nil, List.length_append, List.length_nil] at h1
    omega
  | s :: l, t :: m, hl, hm, h => by
    rw [List.flatMap_cons, List.flatMap_cons] at h
    obtain ⟨h1, h2⟩ := encS_inj (hl s (by simp)) (hm t (by simp)) h
    rw [h1, flat_inj (fun x hx => hl x (by simp [hx])) (fun x hx => hm x (by simp [hx])) h2]
theorem few_mem {l : List ByteArray} (h : fewP l) : ∀ s ∈ l, s.size ≤ 9223372036854775807 := fun s hs => by
  obtain ⟨i, hi, rfl⟩ := List.mem_iff_getElem.1 hs
  have := h.2 i hi
  rw [show sat l i = l[i] by simp [sat, hi]] at this
  omega
theorem inp_inj {s t : Int} {l m : List ByteArray} (hs0 : 0 ≤ s) (hs1 : s < 256) (ht0 : 0 ≤ t) (ht1 : t < 256) (hl : fewP l) (hm : fewP m) (h : inpK s l l.length = inpK t m m.length) : s = t ∧ l = m := by
  unfold inpK at h
  rw [List.take_length, List.take_length] at h
  simp only [List.cons.injEq] at h
  exact ⟨tagB_inj hs0 hs1 ht0 ht1 h.1, flat_inj (few_mem hl) (few_mem hm) h.2⟩
theorem sat_ext {l m : List ByteArray} (h : l.length = m.length) (h2 : ∀ i, i < l.length → sat l i = sat m i) : l = m := by
  apply List.ext_getElem h
  intro i h3 h4
  have := h2 i h3
  simpa [sat, h3, h4] using this
theorem take16 {d e : List UInt8} (hd : d.length = 32) (he : e.length = 32) : d.take 16 = e.take 16 ↔ ∀ i, i < 16 → byt d i = byt e i := by
  constructor
  · intro h i hi
    have h1 : (d.take 16).getD i 0 = (e.take 16).getD i 0 := by rw [h]
    simp only [List.getD_eq_getElem?_getD, List.getElem?_take, hi, if_true] at h1
    simp only [byt, List.getD_eq_getElem?_getD, h1]
  · intro h
    apply List.ext_getElem (by simp [hd, he])
    intro i h3 h4
    have hi : i < 16 := by simp at h3; omega
    have h5 := h i hi
    simp only [byt, List.getD_eq_getElem?_getD, List.getElem?_eq_getElem (show i < d.length by omega), List.getElem?_eq_getElem (show i < e.length by omega), Option.getD_some] at h5
    have h6 : d[i].toNat = e[i].toNat := by omega
    simpa using UInt8.toNat_inj.1 h6

/-- what the loops of the law keep: the tags' box -/
def SepL (w : World) (t0 t1 : Int) (W : World) : Prop := W.cell? ⟨w.heap.size, 0, none⟩ = some (.int .u8 t0) ∧ W.cell? ⟨w.heap.size, 1, none⟩ = some (.int .u8 t1) ∧ Below w.heap.size w W ∧ w.heap.size < W.heap.size
theorem SepL.later {w W W' : World} {t0 t1 : Int} (h : SepL w t0 t1 W) (hb : Below W.heap.size W W') : SepL w t0 t1 W' :=
  ⟨(hb.cell (p := ⟨w.heap.size, 0, none⟩) h.2.2.2).trans h.1, (hb.cell (p := ⟨w.heap.size, 1, none⟩) h.2.2.2).trans h.2.1, below_tr h.2.2.1 hb, Nat.lt_of_lt_of_le h.2.2.2 hb.size⟩
theorem SepL.drewN {w W : World} {t0 t1 : Int} (h : SepL w t0 t1 W) (q : Nat) : SepL w t0 t1 (W.drewN q) := h.later (below_drewN (Below.refl _ _) q)

theorem bvs16 (D : List UInt8) (h : D.length = 16) : (bvs D).toArray = #[.int .u8 (byt D 0), .int .u8 (byt D 1), .int .u8 (byt D 2), .int .u8 (byt D 3), .int .u8 (byt D 4), .int .u8 (byt D 5), .int .u8 (byt D 6), .int .u8 (byt D 7), .int .u8 (byt D 8), .int .u8 (byt D 9), .int .u8 (byt D 10), .int .u8 (byt D 11), .int .u8 (byt D 12), .int .u8 (byt D 13), .int .u8 (byt D 14), .int .u8 (byt D 15)] := by
  apply Array.toList_inj.1
  show bvs D = (List.range 16).map fun i => .int .u8 (byt D i)
  apply List.ext_getElem (by rw [bvs_length, h]; rfl)
  intro i h1 h2
  rw [bvs_length] at h1
  simp [bvs, byt, h1]
/-- the array's equality as the walk writes it -/
theorem eqin_gen (T : TypeId) (n : Nat) (hu : Tryd.prog.underlying T = some (.array n 5)) (a b : List UInt8) (ha : a.length = n) (hb : b.length = n) (W : World) : (Op.equalIn 10000 T (.agg (bvs a).toArray) (.agg (bvs b).toArray)).run Tryd.prog W = .ok (eqB a b) W := by
  obtain ⟨i0, hi, _, _, _⟩ := info_parts info_u8
  have hc : Tryd.prog.cellsOf 5 = 1 := by kernel_rfl
  rw [run_equalIn_array W 9999 _ _ hu hi, hc, items_gen 9998 a b W _ (fun j hj => by simp at hj; omega), all_bytes a b n ha hb]
theorem eqin_16 (a b : List UInt8) (ha : a.length = 16) (hb : b.length = 16) (W : World) : (Op.equalIn 10000 44 (.agg (bvs a).toArray) (.agg (bvs b).toArray)).run Tryd.prog W = .ok (eqB a b) W := eqin_gen _ 16 Tryd.underlying44 a b ha hb W
/-- what the second loop of the law keeps -/
structure ClI (w : World) (p1 p2 : Option Addr) (X Y D1 D2 G1 G2 : List UInt8) (g12 g13 g14 g15 : Nat) (W : World) : Prop where
  d1 : W.heap[g12]? = some (.cells (bvs D1).toArray 44 (0, 0))
  d2 : W.heap[g13]? = some (.cells (bvs D2).toArray 44 (0, 0))
  e1 : W.heap[g14]? = some (.cells (bvs G1).toArray 24 (0, 0))
  e2 : W.heap[g15]? = some (.cells (bvs G2).toArray 24 (0, 0))
  x : Rd W p1 X
  y : Rd W p2 Y
  b : Below w.heap.size w W
theorem ClI.drewN {w W : World} {p1 p2 : Option Addr} {X Y D1 D2 G1 G2 : List UInt8} {g12 g13 g14 g15 : Nat} (h : ClI w p1 p2 X Y D1 D2 G1 G2 g12 g13 g14 g15 W) (q : Nat) : ClI w p1 p2 X Y D1 D2 G1 G2 g12 g13 g14 g15 (W.drewN q) :=
  ⟨h.d1, h.d2, h.e1, h.e2, Rd_later h.x (below_drewN (Below.refl _ _) q), Rd_later h.y (below_drewN (Below.refl _ _) q), below_drewN h.b q⟩

/-- where the two lists are first seen to differ -/
def DiffAt (l1 l2 : List ByteArray) (n1 n2 k : Nat) : Prop := (k = 0 ∧ n1 ≠ n2) ∨ (0 < k ∧ n1 = n2 ∧ sat l1 (k - 1) ≠ sat l2 (k - 1) ∧ ∀ j, j < k - 1 → sat l1 j = sat l2 j)
theorem diff_uniq {l1 l2 : List ByteArray} {n1 n2 k m : Nat} (h : DiffAt l1 l2 n1 n2 k) (h2 : DiffAt l1 l2 n1 n2 m) : k = m := by
  rcases h with ⟨h, h'⟩ | ⟨h, h', hd, he⟩ <;> rcases h2 with ⟨g, g'⟩ | ⟨g, g', gd, ge⟩
  · omega
  · exact absurd g' h'
  · exact absurd h' g'
  · rcases Nat.lt_trichotomy (k - 1) (m - 1) with x | x | x
    · exact absurd (ge _ x) hd
    · omega
    · exact absurd (he _ x) gd
end Go.Proofs.YtfgkaiaapofepaaDoor
