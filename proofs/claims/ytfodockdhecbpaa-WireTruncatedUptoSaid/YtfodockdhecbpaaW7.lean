/- wire.Bytes, wire.Ints, wire.Strings. -/
import Derived.Test.YtfodockdhecbpaaW6
namespace Go.Proofs.Ytfodockdhecbpaa
open Go.RowKit

set_option maxRecDepth 100000 in
set_option maxHeartbeats 400000 in
theorem Bytes_any (s : ByteArray) (w : World) (hs : (enc s.size).length + s.size ≤ 70368744177664) :
    Calls Try.prog 16 #[.string s] w (EncPost w (enc s.size ++ sl s)) := by
  go_enter Try.func16, Try.ntmps16
  go_wp2_with (go_at_call 39; refine (putBytes_any (.slice none 0 0) 0 [] w.heap.size _ _ (World.ownsRow_nil _ _ _ _) (Nat.le_refl _) (by omega)).mono ?_; intro e w' hp; have hq := Lib.hid (encPost_of hp); obtain ⟨v', rfl, _, _⟩ := hp)
  go_ret
  exact hq.out

/-- element i of a list of integers -/
def iat (l : List Int) (i : Nat) : Int := l.getD i 0
/-- the slice that begins at a reads as the integers l -/
def Rdi (w : World) (a : Option Addr) (l : List Int) : Prop :=
  l = [] ∨ ∃ b off, a = some ⟨b, off, none⟩ ∧ ∀ i, i < l.length → w.cell? ⟨b, off + i, none⟩ = some (.int .i64 (iat l i))
def i64s (l : List Int) : Prop := ∀ i, i < l.length → -9223372036854775808 ≤ iat l i ∧ iat l i ≤ 9223372036854775807

theorem Rdi_at {w : World} {a : Option Addr} {l : List Int} (h : Rdi w a l) (k : Nat) (hk : k < l.length) : ∃ b off, a = some ⟨b, off, none⟩ ∧ w.cell? ⟨b, off + k, none⟩ = some (.int .i64 (iat l k)) := by
  rcases h with rfl | ⟨b, off, rfl, hc⟩
  · simp at hk
  · exact ⟨b, off, rfl, hc k hk⟩

theorem Below.cell_of' {w w' : World} {p : Addr} {v : Value} (h : Below w.heap.size w w') (hc : w.cell? p = some v) : w'.cell? p = some v :=
  (h.cell (World.block_lt_of_cell? w p hc)).trans hc

/-- the encoding of a list of integers -/
def encIs (l : List Int) : List UInt8 := enc (l.length : Int) ++ l.flatMap enc

/-- a row that grows while a list is encoded -/
def RowInv (w : World) (v : Value) (l : List UInt8) (wr : World) : Prop := wr.ownsRow w.heap.size 5 1 v l.length (bvs l) ∧ Below w.heap.size w wr

theorem RowInv.put {w wr w2 : World} {v : Value} {l r : List UInt8} {e : Ending} (h : RowInv w v l wr) (hp : PutPost wr w.heap.size l.length (bvs l) r e w2) : ∃ v2, e = .returned v2 ∧ RowInv w v2 (l ++ r) w2 := by
  obtain ⟨v2, he, ho, hb⟩ := hp
  exact ⟨v2, he, by rw [List.length_append, bvs_append]; exact ho, h.2.trans hb⟩

theorem flat_take {α : Type} (f : α → List UInt8) (l : List α) (k : Nat) (hk : k < l.length) (d : α) : (l.take (k + 1)).flatMap f = (l.take k).flatMap f ++ f (l.getD k d) := by
  rw [List.take_succ_eq_append_getElem hk, List.flatMap_append, List.flatMap_singleton]
  simp [hk]

theorem flat_take_le {α : Type} (f : α → List UInt8) (l : List α) (k : Nat) : ((l.take k).flatMap f).length ≤ (l.flatMap f).length := by
  have h := congrArg (fun l => (l.flatMap f).length) (List.take_append_drop k l)
  simp only [List.flatMap_append, List.length_append] at h
  omega

theorem enc_le (n : Int) : (enc n).length ≤ 9 := by rw [enc_length]; have := nd_le (mgn n); omega

set_option maxRecDepth 100000 in
set_option maxHeartbeats 800000 in
theorem putListInt_any (a : Option Addr) (n c : Nat) (l : List Int) (w : World) (hR : Rdi w a l) (hn : Hid (n = l.length)) (hmax : n ≤ 9223372036854775807) (hw : Hid (i64s l)) (hlen : (encIs l).length ≤ 70368744177664) :
    Calls Try.prog 40 #[.slice a n c, .func (.func 38) #[] #[]] w (EncPost w (encIs l)) := by
  have hR' := Lib.hid hR
  have hlen' := Lib.hid hlen
  clear hR hlen
  go_enter Try.func40, Try.ntmps40
  go_wp2_with (go_at_call 38; refine (putInt_any (.slice none 0 0) 0 [] w.heap.size _ _ (World.ownsRow_nil _ _ _ _) (Nat.le_refl _) (by omega) (by omega) (by omega)).mono ?_; intro e w1 hp; obtain ⟨v0, rfl, h0, h0'⟩ := encPost_of hp; have hI : Hid (RowInv w v0 (enc (n : Int)) w1) := Lib.hid ⟨h0, h0'⟩; clear hp h0 h0')
  go_loopw [5, 13] (fun b i wr => ∃ k : Nat, k ≤ n ∧ i = .int .i64 k ∧ RowInv w b (enc (n : Int) ++ (l.take k).flatMap enc) wr) (fun _ i _ => n - (intOf i).toNat)
  case atStart => exact ⟨0, Nat.zero_le _, rfl, by rw [List.take_zero, List.flatMap_nil, List.append_nil]; exact hI.out⟩
  case round =>
    obtain ⟨k, hk, rfl, hinv⟩ := hrel
    by_cases hlt : k < n
    · have hkl : k < l.length := by rw [← hn.out]; exact hlt
      obtain ⟨b0, off, rfl, hc⟩ := Rdi_at hR'.out k hkl
      have hcell := Below.cell_of' hinv.2 hc
      have hx := hw.out k hkl
      have hx1 := hx.1
      have hx2 := hx.2
      have hz := hinv.2.size
      have hl2 := Lib.hid (flat_take_le enc l k)
      have hl3 := hlen'.out
      have hinv' := Lib.hid hinv
      clear hinv hx hI
      have hll : (enc (n : Int) ++ (l.take k).flatMap enc).length ≤ 70368744177664 := by
        have := hl2.out
        unfold encIs at hl3
        rw [List.length_append] at hl3 ⊢
        rw [hn.out]
        omega
      clear hl3
      go_wp2_with (go_at_call 38; refine (putInt_any _ _ _ w.heap.size _ _ hinv'.out.1 hz hll hx1 hx2).mono ?_; intro e w2 hp; obtain ⟨v2, rfl, hI2⟩ := hinv'.out.put hp; have hJ := Lib.hid hI2; clear hp hI2)
      refine ⟨⟨k + 1, by omega, by simp, ?_⟩, by simp [intOf]; omega⟩
      rw [flat_take enc l k hkl 0, ← List.append_assoc]
      exact hJ.out
    · have hk' : k = n := by omega
      subst hk'
      rw [hn.out, List.take_length] at hinv
      have hJ := Lib.hid hinv
      clear hinv hI
      go_wp2
      go_ret
      exact ⟨_, rfl, hJ.out.1, hJ.out.2⟩

set_option maxRecDepth 100000 in
set_option maxHeartbeats 400000 in
theorem Ints_any (a : Option Addr) (n c : Nat) (l : List Int) (w : World) (hR : Rdi w a l) (hn : n = l.length) (hmax : n ≤ 9223372036854775807) (hw : i64s l) (hlen : (encIs l).length ≤ 70368744177664) :
    Calls Try.prog 18 #[.slice a n c] w (EncPost w (encIs l)) := by
  have hR' := Lib.hid hR
  have hn' := Lib.hid hn
  have hw' := Lib.hid hw
  have hl' := Lib.hid hlen
  clear hR hn hw hlen
  go_enter Try.func18, Try.ntmps18
  go_wp2_with (go_at_call 40; refine (putListInt_any _ _ _ l _ hR'.out hn' hmax hw' hl'.out).mono ?_; intro e w' hp; have hq := Lib.hid hp; obtain ⟨v', rfl, _, _⟩ := hp)
  go_ret
  exact hq.out

/-- element i of a list of strings -/
def sat (l : List ByteArray) (i : Nat) : ByteArray := l.getD i ByteArray.empty
/-- the slice that begins at a reads as the strings l -/
def Rds (w : World) (a : Option Addr) (l : List ByteArray) : Prop :=
  l = [] ∨ ∃ b off, a = some ⟨b, off, none⟩ ∧ ∀ i, i < l.length → w.cell? ⟨b, off + i, none⟩ = some (.string (sat l i))
theorem Rds_at {w : World} {a : Option Addr} {l : List ByteArray} (h : Rds w a l) (k : Nat) (hk : k < l.length) : ∃ b off, a = some ⟨b, off, none⟩ ∧ w.cell? ⟨b, off + k, none⟩ = some (.string (sat l k)) := by
  rcases h with rfl | ⟨b, off, rfl, hc⟩
  · simp at hk
  · exact ⟨b, off, rfl, hc k hk⟩

/-- the encodings of a string and of a list of strings -/
def encS (s : ByteArray) : List UInt8 := enc (s.size : Int) ++ sl s
def encSs (l : List ByteArray) : List UInt8 := enc (l.length : Int) ++ l.flatMap encS

set_option maxRecDepth 100000 in
set_option maxHeartbeats 800000 in
theorem putListStr_any (a : Option Addr) (n c : Nat) (l : List ByteArray) (w : World) (hR : Rds w a l) (hn : Hid (n = l.length)) (hmax : n ≤ 9223372036854775807) (hlen : (encSs l).length ≤ 70368744177664) :
    Calls Try.prog 41 #[.slice a n c, .func (.func 39) #[] #[]] w (EncPost w (encSs l)) := by
  have hR' := Lib.hid hR
  have hlen' := Lib.hid hlen
  clear hR hlen
  go_enter Try.func41, Try.ntmps41
  go_wp2_with (go_at_call 38; refine (putInt_any (.slice none 0 0) 0 [] w.heap.size _ _ (World.ownsRow_nil _ _ _ _) (Nat.le_refl _) (by omega) (by omega) (by omega)).mono ?_; intro e w1 hp; obtain ⟨v0, rfl, h0, h0'⟩ := encPost_of hp; have hI : Hid (RowInv w v0 (enc (n : Int)) w1) := Lib.hid ⟨h0, h0'⟩; clear hp h0 h0')
  go_loopw [5, 13] (fun b i wr => ∃ k : Nat, k ≤ n ∧ i = .int .i64 k ∧ RowInv w b (enc (n : Int) ++ (l.take k).flatMap encS) wr) (fun _ i _ => n - (intOf i).toNat)
  case atStart => exact ⟨0, Nat.zero_le _, rfl, by rw [List.take_zero, List.flatMap_nil, List.append_nil]; exact hI.out⟩
  case round =>
    obtain ⟨k, hk, rfl, hinv⟩ := hrel
    by_cases hlt : k < n
    · have hkl : k < l.length := by rw [← hn.out]; exact hlt
      obtain ⟨b0, off, rfl, hc⟩ := Rds_at hR'.out k hkl
      have hcell := Below.cell_of' hinv.2 hc
      have hz := hinv.2.size
      have hl2 := Lib.hid (flat_take_le encS l (k + 1))
      have hl3 := hlen'.out
      have hinv' := Lib.hid hinv
      clear hinv hI
      have hll : (enc (n : Int) ++ (l.take k).flatMap encS).length + (enc ((sat l k).size : Int)).length + (sat l k).size ≤ 70368744177664 := by
        have := hl2.out
        rw [flat_take encS l k hkl ByteArray.empty, List.length_append, show encS (l.getD k ByteArray.empty) = enc ((sat l k).size : Int) ++ sl (sat l k) from rfl, List.length_append, sl_length] at this
        unfold encSs at hl3
        rw [List.length_append] at hl3 ⊢
        rw [hn.out]
        omega
      clear hl3
      go_wp2_with (go_at_call 39; refine (putBytes_any _ _ _ w.heap.size _ _ hinv'.out.1 hz hll).mono ?_; intro e w2 hp; obtain ⟨v2, rfl, hI2⟩ := hinv'.out.put hp; have hJ := Lib.hid hI2; clear hp hI2)
      refine ⟨⟨k + 1, by omega, by simp, ?_⟩, by simp [intOf]; omega⟩
      rw [flat_take encS l k hkl ByteArray.empty, ← List.append_assoc]
      exact hJ.out
    · have hk' : k = n := by omega
      subst hk'
      rw [hn.out, List.take_length] at hinv
      have hJ := Lib.hid hinv
      clear hinv hI
      go_wp2
      go_ret
      exact ⟨_, rfl, hJ.out.1, hJ.out.2⟩


set_option maxRecDepth 100000 in
set_option maxHeartbeats 400000 in
theorem Strings_any (a : Option Addr) (n c : Nat) (l : List ByteArray) (w : World) (hR : Rds w a l) (hn : n = l.length) (hmax : n ≤ 9223372036854775807) (hlen : (encSs l).length ≤ 70368744177664) :
    Calls Try.prog 20 #[.slice a n c] w (EncPost w (encSs l)) := by
  have hR' := Lib.hid hR
  have hn' := Lib.hid hn
  have hl' := Lib.hid hlen
  clear hR hn hlen
  go_enter Try.func20, Try.ntmps20
  go_wp2_with (go_at_call 41; refine (putListStr_any _ _ _ l _ hR'.out hn' hmax hl'.out).mono ?_; intro e w' hp; have hq := Lib.hid hp; obtain ⟨v', rfl, _, _⟩ := hp)
  go_ret
  exact hq.out

set_option maxRecDepth 100000 in
set_option maxHeartbeats 400000 in
theorem putDigest_any (v : Value) (n0 : Nat) (xs : List Value) (base : Nat) (d : List UInt8) (hd : Hid (d.length = 16)) (w : World) (hown : w.ownsRow base 5 1 v n0 xs) (hb : base ≤ w.heap.size) (hn0 : n0 + 16 ≤ 70368744177664) :
    Calls Try.prog 43 #[v, .agg (bvs d).toArray] w (PutPost w base n0 xs d) := by
  obtain ⟨i0, hi, hz0, hz1, hz2⟩ := info_parts info_u8
  have hown' := Lib.hid hown
  clear hown
  go_enter Try.func43, Try.ntmps43
  have hnews : ∀ j u, (bvs d)[j]? = some u → (w.alloc (.cells (bvs d).toArray 57)).cell? ((⟨w.heap.size, 0, none⟩ : Addr).add j) = some u := by
    intro j u hu
    have ha : (⟨w.heap.size, 0, none⟩ : Addr).add j = ⟨w.heap.size, j, none⟩ := by unfold Addr.add; split <;> simp_all
    rw [ha]
    simp only [World.cell?, heap_alloc_new]
    simpa using hu
  have hnews' := Lib.hid hnews
  have hl := Lib.hid (show (bvs d).length = 16 * 1 by rw [bvs_length, hd.out])
  clear hnews
  go_wp2_with (at_builtin; refine wpList_append_own _ rfl _ _ 28 rfl base 5 i0 (.int .u8 0) 1 1 Try.underlying28 hi hz0 hz1 hz2 rfl (by decide) _ _ _ rfl (hown'.out.alloc _) ⟨w.heap.size, 0, none⟩ 16 16 (bvs d) rfl hl.out hnews'.out (bvs_one _) (by unfold maxLen; omega) (by omega) (by simp; omega) ?_; intro v' w1 hown1 hgrow1 _; have hres := Lib.hid (putPost_of (l := d) (by simp; omega) ((Below.refl base w).alloc hb _) (hown'.out.alloc _) hl.out hown1 hgrow1); clear hown1 hgrow1)
  go_ret
  exact hres.out

end Go.Proofs.Ytfodockdhecbpaa
