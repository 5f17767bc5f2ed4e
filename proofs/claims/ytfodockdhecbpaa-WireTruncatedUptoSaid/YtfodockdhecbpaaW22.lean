/- The examples that every statement contains. -/
import Derived.Test.YtfodockdhecbpaaW10
import Derived.Test.YtfodockdhecbpaaW13
import Derived.Test.YtfodockdhecbpaaW21
namespace Go.Proofs.Ytfodockdhecbpaa
open Go.RowKit

/-- the call returns true, and changes nothing that was there -/
def TruePost (w : World) (e : Ending) (w' : World) : Prop := e = .returned (.bool true) ∧ Below w.heap.size w w'

theorem quiet_true {w : World} {e : Ending} {w' : World} (h : QPost w (.bool true) e w') : TruePost w e w' := by
  obtain ⟨rfl, q, rfl⟩ := h
  exact ⟨rfl, below_drewN (Below.refl _ _) _⟩

theorem Same_true (a1 a2 : Option Addr) (n1 n2 c1 c2 : Nat) (l : List UInt8) (w : World) (hR1 : Rd w a1 l) (hR2 : Rd w a2 l) (hn1 : n1 = l.length) (hn2 : n2 = l.length) (hmax : n1 ≤ 4611686018427387904) :
    Calls Try.prog 13 #[.slice a1 n1 c1, .slice a2 n2 c2] w (TruePost w) :=
  (Same_any a1 a2 n1 n2 c1 c2 l l w hR1 hR2 hn1 hn2 hmax).mono fun e w' h => quiet_true (by simpa using h)

theorem SameInts_true (a1 a2 : Option Addr) (n1 n2 c1 c2 : Nat) (l : List Int) (w : World) (hR1 : Rdi w a1 l) (hR2 : Rdi w a2 l) (hn1 : n1 = l.length) (hn2 : n2 = l.length) (hmax : n1 ≤ 4611686018427387904) :
    Calls Try.prog 30 #[.slice a1 n1 c1, .slice a2 n2 c2] w (TruePost w) := by
  subst hn1 hn2
  exact (SameInts_any a1 a2 _ c1 c2 l w hR1 hR2 rfl hmax).mono fun e w' h => quiet_true h

theorem SameTexts_true (a1 a2 : Option Addr) (n1 n2 c1 c2 : Nat) (l : List ByteArray) (w : World) (hR1 : Rds w a1 l) (hR2 : Rds w a2 l) (hn1 : n1 = l.length) (hn2 : n2 = l.length) (hmax : n1 ≤ 4611686018427387904) :
    Calls Try.prog 33 #[.slice a1 n1 c1, .slice a2 n2 c2] w (TruePost w) := by
  subst hn1 hn2
  exact (SameTexts_any a1 a2 _ c1 c2 l w hR1 hR2 rfl hmax).mono fun e w' h => quiet_true h

theorem SameDigests_true (a1 a2 : Option Addr) (n1 n2 c1 c2 : Nat) (l : List (List UInt8)) (w : World) (hR1 : Rdd w a1 l) (hR2 : Rdd w a2 l) (hn1 : n1 = l.length) (hn2 : n2 = l.length) (hmax : n1 ≤ 4611686018427387904) :
    Calls Try.prog 36 #[.slice a1 n1 c1, .slice a2 n2 c2] w (TruePost w) := by
  subst hn1 hn2
  exact (SameDigests_any a1 a2 _ c1 c2 l w hR1 hR2 rfl hmax).mono fun e w' h => quiet_true h

/-- what an encoding's slice reads as -/
theorem enc_Rd {w w' : World} {l : List UInt8} {e : Ending} (h : EncPost w l e w') : ∃ p c, e = .returned (.slice p l.length c) ∧ Rd w' p l ∧ l.length ≤ c ∧ c ≤ 9223372036854775807 ∧ Below w.heap.size w w' := by
  obtain ⟨v, rfl, ho, hb⟩ := h
  obtain ⟨p, c, rfl, hR, hn, hc, hm, _⟩ := own_Rd ho
  exact ⟨p, c, rfl, hR, hc, hm, hb⟩

/-- the digest of the examples -/
def d12 : List UInt8 := [1, 2, 0, 0, 0, 0, 0, 0, 0, 0, 0, 0, 0, 0, 0, 0]

/-- a box that holds a digest -/
def Boxd (w : World) (B : Nat) (d : List UInt8) : Prop := ∀ j u, (bvs d)[j]? = some u → w.cell? ((⟨B, 0, none⟩ : Addr).add j) = some u
theorem Boxd_below {w wr : World} {B : Nat} {d : List UInt8} (h : Below w.heap.size w wr) (hR : Boxd w B d) : Boxd wr B d := fun j u hu => Below.cell_of' h (hR j u hu)

theorem boxd_cell {w : World} {B : Nat} (h : Boxd w B d12) (j : Nat) (hj : j < 16) : w.cell? ⟨B, j, none⟩ = some (.int .u8 (byt d12 j)) := by
  have ha : (⟨B, 0, none⟩ : Addr).add j = ⟨B, j, none⟩ := by unfold Addr.add; split <;> simp_all
  rw [← ha]
  apply h
  have hj' : j < d12.length := hj
  simp [bvs, byt, hj']

/-- what the examples still need -/
structure Live (w0 : World) (p1 p3 : Option Addr) (B : Nat) (w : World) : Prop where
  below : Below w0.heap.size w0 w
  ints : Rdi w p1 [1, -1]
  digs : Rdd w p3 [d12]
  box : Boxd w B d12
theorem Live.later {w0 : World} {p1 p3 : Option Addr} {B : Nat} {w w' : World} (h : Live w0 p1 p3 B w) (hb : Below w.heap.size w w') : Live w0 p1 p3 B w' :=
  ⟨h.below.trans (hb.mono h.below.size), Rdi_below hb h.ints, Rdd_below hb h.digs, Boxd_below hb h.box⟩
theorem Live.alloc {w0 : World} {p1 p3 : Option Addr} {B : Nat} {w : World} (h : Live w0 p1 p3 B w) (o : Obj) : Live w0 p1 p3 B (w.alloc o) := h.later ((Below.refl _ _).alloc (Nat.le_refl _) _)

theorem i64s_ex : i64s [1, -1] := by
  intro i hi
  match i, hi with
  | 0, _ => exact ⟨by decide, by decide⟩
  | 1, _ => exact ⟨by decide, by decide⟩

set_option maxRecDepth 100000 in
set_option maxHeartbeats 6400000 in
theorem sanity_any (w : World) : Calls Try.prog 12 #[] w (TruePost w) := by
  go_enter Try.func12, Try.ntmps12
  go_wp2_with fail
  refine (GetInt_any _ _ _ [130, 1, 0, 9] _ (Rd_new _ _ _ _ _ (by simp) rfl) rfl (by decide) (by decide) 256 3 0 rfl).mono ?_
  rintro e w' ⟨rfl, rfl⟩
  go_wp2_with fail
  refine (GetInt_any _ _ _ [130, 1] _ (Rd_new _ _ _ _ _ (by simp) rfl) rfl (by decide) (by decide) 0 0 3 rfl).mono ?_
  rintro e w' ⟨rfl, rfl⟩
  go_wp2_with fail
  refine (GetInt_any _ _ _ [129, 0] _ (Rd_new _ _ _ _ _ (by simp) rfl) rfl (by decide) (by decide) 0 0 2 rfl).mono ?_
  rintro e w' ⟨rfl, rfl⟩
  go_wp2_with fail
  have h4 := fun W X c (hR : Rd W (some ⟨X, 0, none⟩) [129, 2, 97, 98, 7]) (hc : 5 ≤ c) (hmax : c ≤ 9223372036854775807) => (show Calls Try.prog 26 #[.slice (some ⟨X, 0, none⟩) 5 c] W fun e w' => e = .returned (.tuple #[.string ⟨#[97, 98]⟩, .int .i64 4, .int .i64 0]) ∧ W = w' from GetBytes_any _ 5 c _ W hR rfl hc hmax [97, 98] 4 0 rfl)
  refine (h4 _ _ _ (Rd_new _ _ _ _ _ (by simp) rfl) (by decide) (by decide)).mono ?_
  clear h4
  rintro e w' ⟨rfl, rfl⟩
  go_wp2_with fail
  refine (GetInts_any _ _ _ [129, 2, 129, 1, 127] _ (Rd_new _ _ _ _ _ (by simp) rfl) rfl (by decide) (by decide) (by decide) [1, -1] 5 0 rfl).mono ?_
  rintro e w1 ⟨v1, rfl, ho, hb⟩
  have hB1 : Below w.heap.size w w1 := by
    refine Below.trans ?_ (hb.mono (by simp; omega))
    exact (((((Below.refl _ _).alloc (Nat.le_refl _) _).alloc (by simp) _).alloc (by simp; omega) _).alloc (by simp; omega) _).alloc (by simp; omega) _
  obtain ⟨p1, c1, rfl, hR1, -, -, -⟩ := own_Rdi (l := [1, -1]) ho
  clear ho hb
  have hR1' := Lib.hid hR1
  have hB1' := Lib.hid hB1
  clear hR1 hB1
  go_wp2_with fail
  refine (Digests_any _ _ _ [d12] _ (Rdd_new _ [d12] (by simp [d12]) _ _ _ (by simp) rfl) rfl (by decide) (by decide)).mono ?_
  intro e w2 hp
  obtain ⟨p2, c2, rfl, hR2, hc2, hm2, hb2⟩ := enc_Rd hp
  have hR2' := Lib.hid hR2
  have hb2' := Lib.hid hb2
  clear hp hR2 hb2
  rw [show (encDs [d12]).length = 18 from rfl] at hc2 ⊢
  go_wp2_with fail
  refine (GetDigests_any _ _ _ (encDs [d12]) _ hR2'.out rfl hc2 ⟨hm2, by decide⟩ (by decide) [d12] 18 0 rfl).mono ?_
  rintro e w3 ⟨v3, rfl, ho3, hb3⟩
  obtain ⟨p3, c3, rfl, hR3, -, -⟩ := own_Rdd (l := [d12]) (by simp [d12]) ho3 rfl
  have hL : Live w p1 p3 w1.heap.size w3 := by
    have hz := hb2'.out.size
    simp at hz
    have hbx : Boxd (w1.alloc (.cells (bvs d12).toArray 57)) w1.heap.size d12 := box_cells w1 d12
    have b1 : Below w1.heap.size w1 (w1.alloc (.cells (bvs d12).toArray 57)) := (Below.refl _ _).alloc (Nat.le_refl _) _
    have b2 : Below (w1.alloc (.cells (bvs d12).toArray 57)).heap.size (w1.alloc (.cells (bvs d12).toArray 57)) w3 := by
      refine Below.trans ((Below.refl _ _).alloc (Nat.le_refl _) (.cells (bvs d12).toArray 57)) ?_
      exact (hb2'.out.mono (by simp)).trans (hb3.mono (by simp; omega))
    have b3 : Below w1.heap.size w1 w3 := b1.trans (b2.mono (by simp))
    exact ⟨hB1'.out.trans (b3.mono hB1'.out.size), Rdi_below b3 hR1'.out, hR3, Boxd_below b2 hbx⟩
  have hL' := Lib.hid hL
  clear hL ho3 hb3 hR3 hb2' hR2' hR1' hB1' hc2 hm2
  go_wp2_with fail
  refine (GetStrings_any _ _ _ [129, 2, 128, 129, 1, 97, 5] _ (Rd_new _ _ _ _ _ (by simp) rfl) rfl (by decide) (by decide) (by decide) [[], [97]] 6 0 rfl).mono ?_
  rintro e w4 ⟨v4, rfl, ho4, hb4⟩
  obtain ⟨p4, c4, rfl, hR4, -, -, -⟩ := own_Rds (l := [[], [97]]) ho4
  have hR4' := Lib.hid hR4
  have hL4 := Lib.hid ((hL'.out.alloc _).later hb4)
  clear ho4 hb4 hR4 hL'
  go_wp2_with fail
  refine (SameTexts_true _ _ _ _ _ _ [bs [], bs [97]] _ (Rds_below ((Below.refl _ _).alloc (Nat.le_refl _) _) hR4'.out) (Rds_new _ _ _ _ _ (by simp) rfl) rfl rfl (by decide)).mono ?_
  rintro e w5 ⟨rfl, hb5⟩
  have hL5 := Lib.hid ((hL4.out.alloc _).later hb5)
  clear hb5 hL4 hR4'
  go_wp2_with fail
  refine (Strings_any _ _ _ [bs [], bs [97]] _ (Rds_new _ _ _ _ _ (by simp) rfl) rfl (by decide) (by decide)).mono ?_
  intro e w6 hp
  obtain ⟨p6, c6, rfl, hR6, -, -, hb6⟩ := enc_Rd hp
  have hR6' := Lib.hid hR6
  have hL6 := Lib.hid ((hL5.out.alloc _).later hb6)
  clear hp hR6 hb6 hL5
  rw [show (encSs [bs [], bs [97]]).length = 6 from rfl]
  go_wp2_with fail
  refine (Same_true _ _ _ _ _ _ [129, 2, 128, 129, 1, 97] _ (Rd_below ((Below.refl _ _).alloc (Nat.le_refl _) _) hR6'.out) (Rd_new _ _ _ _ _ (by simp) rfl) rfl rfl (by decide)).mono ?_
  rintro e w7 ⟨rfl, hb7⟩
  have hL7 := Lib.hid ((hL6.out.alloc _).later hb7)
  clear hb7 hL6 hR6'
  go_wp2_with fail
  refine (Int_any (-257) _ (by decide) (by decide)).mono ?_
  intro e w8 hp
  obtain ⟨p8, c8, rfl, hR8, -, -, hb8⟩ := enc_Rd hp
  have hR8' := Lib.hid hR8
  have hL8 := Lib.hid (hL7.out.later hb8)
  clear hp hR8 hb8 hL7
  rw [show (enc (-257)).length = 3 from rfl]
  go_wp2_with fail
  refine (Same_true _ _ _ _ _ _ [125, 254, 255] _ (Rd_below ((Below.refl _ _).alloc (Nat.le_refl _) _) hR8'.out) (Rd_new _ _ _ _ _ (by simp) rfl) rfl rfl (by decide)).mono ?_
  rintro e w9 ⟨rfl, hb9⟩
  have hL9 := Lib.hid ((hL8.out.alloc _).later hb9)
  clear hb9 hL8 hR8'
  go_wp2_with fail
  refine (SameInts_true _ _ _ _ _ _ [1, -1] _ (hL9.out.alloc _).ints (Rdi_new _ _ _ _ _ (by simp) rfl) rfl rfl (by decide)).mono ?_
  rintro e w10 ⟨rfl, hb10⟩
  have hL10 := Lib.hid ((hL9.out.alloc _).later hb10)
  clear hb10 hL9
  go_wp2_with fail
  refine (Bytes_any ⟨#[97, 98]⟩ _ (by decide)).mono ?_
  intro e w11 hp
  obtain ⟨p11, c11, rfl, hR11, -, -, hb11⟩ := enc_Rd hp
  have hR11' := Lib.hid hR11
  have hL11 := Lib.hid (hL10.out.later hb11)
  clear hp hR11 hb11 hL10
  rw [show (enc (((⟨#[97, 98]⟩ : ByteArray).size : Nat) : Int) ++ sl ⟨#[97, 98]⟩).length = 4 from rfl]
  go_wp2_with fail
  refine (Same_true _ _ _ _ _ _ [129, 2, 97, 98] _ (Rd_below ((Below.refl _ _).alloc (Nat.le_refl _) _) hR11'.out) (Rd_new _ _ _ _ _ (by simp) rfl) rfl rfl (by decide)).mono ?_
  rintro e w12 ⟨rfl, hb12⟩
  have hL12 := Lib.hid ((hL11.out.alloc _).later hb12)
  clear hb12 hL11 hR11'
  go_wp2_with fail
  refine (Ints_any _ _ _ [1, -1] _ (Rdi_new _ _ _ _ _ (by simp) rfl) rfl (by decide) i64s_ex (by decide)).mono ?_
  intro e w13 hp
  obtain ⟨p13, c13, rfl, hR13, -, -, hb13⟩ := enc_Rd hp
  have hR13' := Lib.hid hR13
  have hL13 := Lib.hid ((hL12.out.alloc _).later hb13)
  clear hp hR13 hb13 hL12
  rw [show (encIs [1, -1]).length = 5 from rfl]
  go_wp2_with fail
  refine (Same_true _ _ _ _ _ _ [129, 2, 129, 1, 127] _ (Rd_below ((Below.refl _ _).alloc (Nat.le_refl _) _) hR13'.out) (Rd_new _ _ _ _ _ (by simp) rfl) rfl rfl (by decide)).mono ?_
  rintro e w14 ⟨rfl, hb14⟩
  have hL14 := Lib.hid ((hL13.out.alloc _).later hb14)
  have hbx := Lib.hid hL14.out.box
  clear hb14 hL13 hR13'
  have b0 : w14.cell? ⟨w1.heap.size, 0, none⟩ = some (.int .u8 1) := boxd_cell hbx.out 0 (by decide)
  have b1 : w14.cell? ⟨w1.heap.size, 1, none⟩ = some (.int .u8 2) := boxd_cell hbx.out 1 (by decide)
  have b2 : w14.cell? ⟨w1.heap.size, 2, none⟩ = some (.int .u8 0) := boxd_cell hbx.out 2 (by decide)
  have b3 : w14.cell? ⟨w1.heap.size, 3, none⟩ = some (.int .u8 0) := boxd_cell hbx.out 3 (by decide)
  have b4 : w14.cell? ⟨w1.heap.size, 4, none⟩ = some (.int .u8 0) := boxd_cell hbx.out 4 (by decide)
  have b5 : w14.cell? ⟨w1.heap.size, 5, none⟩ = some (.int .u8 0) := boxd_cell hbx.out 5 (by decide)
  have b6 : w14.cell? ⟨w1.heap.size, 6, none⟩ = some (.int .u8 0) := boxd_cell hbx.out 6 (by decide)
  have b7 : w14.cell? ⟨w1.heap.size, 7, none⟩ = some (.int .u8 0) := boxd_cell hbx.out 7 (by decide)
  have b8 : w14.cell? ⟨w1.heap.size, 8, none⟩ = some (.int .u8 0) := boxd_cell hbx.out 8 (by decide)
  have b9 : w14.cell? ⟨w1.heap.size, 9, none⟩ = some (.int .u8 0) := boxd_cell hbx.out 9 (by decide)
  have b10 : w14.cell? ⟨w1.heap.size, 10, none⟩ = some (.int .u8 0) := boxd_cell hbx.out 10 (by decide)
  have b11 : w14.cell? ⟨w1.heap.size, 11, none⟩ = some (.int .u8 0) := boxd_cell hbx.out 11 (by decide)
  have b12 : w14.cell? ⟨w1.heap.size, 12, none⟩ = some (.int .u8 0) := boxd_cell hbx.out 12 (by decide)
  have b13 : w14.cell? ⟨w1.heap.size, 13, none⟩ = some (.int .u8 0) := boxd_cell hbx.out 13 (by decide)
  have b14 : w14.cell? ⟨w1.heap.size, 14, none⟩ = some (.int .u8 0) := boxd_cell hbx.out 14 (by decide)
  have b15 : w14.cell? ⟨w1.heap.size, 15, none⟩ = some (.int .u8 0) := boxd_cell hbx.out 15 (by decide)
  go_wp2_with fail
  refine (SameDigests_true _ _ _ _ _ _ [d12] _ (hL14.out.alloc _).digs (Rdd_new _ [d12] (by simp [d12]) _ _ _ (by simp) rfl) rfl rfl (by decide)).mono ?_
  rintro e w15 ⟨rfl, hb15⟩
  have hL15 := Lib.hid ((hL14.out.alloc _).later hb15)
  clear hb15 hL14 b0 b1 b2 b3 b4 b5 b6 b7 b8 b9 b10 b11 b12 b13 b14 b15
  go_wp2
  go_ret
  exact ⟨rfl, hL15.out.below⟩

end Go.Proofs.Ytfodockdhecbpaa
