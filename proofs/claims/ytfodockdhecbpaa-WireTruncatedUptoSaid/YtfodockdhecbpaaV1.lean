/- The walk of WireEncodeMatchesSpec. -/
import Derived.Test.YtfodockdhecbpaaR9
namespace Go.Proofs.Ytfodockdhecbpaa
open Go.RowKit

/-- the lengths of strings, added up -/
def sums (l : List ByteArray) : Nat := (l.map (·.size)).sum
theorem sums_step (l : List ByteArray) (k : Nat) (hk : k < l.length) : sums (l.take (k + 1)) = sums (l.take k) + (sat l k).size := by
  unfold sums sat
  rw [List.take_succ_eq_append_getElem hk, List.map_append, List.sum_append]
  simp [List.getD_eq_getElem?_getD, hk]
theorem sums_le (l : List ByteArray) (k : Nat) : sums (l.take k) ≤ sums l := by
  have h := congrArg (fun l => sums l) (List.take_append_drop k l)
  simp only [sums, List.map_append, List.sum_append] at h ⊢
  omega

set_option maxRecDepth 100000 in
set_option maxHeartbeats 800000 in
theorem few_any (a : Option Addr) (n c : Nat) (l : List ByteArray) (w : World) (hR : Rds w a l) (hn : Hid (n = l.length)) (hs : sums l + n ≤ 4611686018427387904) (ok : Bool) (hok : Hid (decide (((sums l + n : Nat) : Int) ≤ 2000) = ok)) :
    Calls Try.prog 11 #[.slice a n c] w fun e w' => e = .returned (.bool ok) ∧ w = w' := by
  have hR' := Lib.hid hR
  clear hR
  go_enter Try.func11, Try.ntmps11
  go_wp2
  go_loop [3, 5, 10] (fun m _ i => ∃ k : Nat, k ≤ n ∧ i = .int .i64 k ∧ m = .int .i64 ((n : Int) + (sums (l.take k) : Nat))) (fun _ _ i => n - (intOf i).toNat)
  case atStart => exact ⟨0, Nat.zero_le _, rfl, by simp [sums]⟩
  case round =>
    obtain ⟨k, hk, rfl, rfl⟩ := hrel
    by_cases hlt : k < n
    · have hkl : k < l.length := by rw [← hn.out]; exact hlt
      obtain ⟨b0, off, rfl, hc⟩ := Rds_at hR'.out k hkl
      have hst := Lib.hid (sums_step l k hkl)
      have hle := sums_le l (k + 1)
      rw [hst.out] at hle
      have hki0 : 0 ≤ (k : Int) := by omega
      have hki : (k : Int) < (n : Int) := by omega
      have hb1 : (n : Int) + (sums (l.take k) : Nat) + ((sat l k).size : Nat) ≤ 4611686018427387904 := by omega
      have hb0 : 0 ≤ (n : Int) + (sums (l.take k) : Nat) := by omega
      generalize sums (l.take k) = S at *
      go_wp2
      refine ⟨⟨k + 1, by omega, by simp, ?_⟩, by simp [intOf]; omega⟩
      rw [hst.out]
      congr 1
      omega
    · have hk' : k = n := by omega
      subst hk'
      have htk : l.take k = l := List.take_of_length_le (by rw [hn.out]; exact Nat.le_refl _)
      rw [htk]
      have hd : decide ((k : Int) + (sums l : Nat) ≤ 2000) = ok := by rw [← hok.out]; congr 1; apply propext; omega
      go_wp2
      go_ret
      first | exact ⟨rfl, rfl⟩ | (rw [hd]; exact ⟨rfl, rfl⟩)

/-- what the walk still needs -/
structure ArgLive (w : World) (a1 a2 a3 : Option Addr) (l : List Int) (x : List ByteArray) (d : List (List UInt8)) (W : World) : Prop where
  below : Below w.heap.size w W
  ints : Rdi W a1 l
  strs : Rds W a2 x
  digs : Rdd W a3 d
theorem ArgLive.later {w : World} {a1 a2 a3 : Option Addr} {l : List Int} {x : List ByteArray} {d : List (List UInt8)} {W W' : World} (h : ArgLive w a1 a2 a3 l x d W) (hb : Below W.heap.size W W') : ArgLive w a1 a2 a3 l x d W' :=
  ⟨h.below.trans (hb.mono h.below.size), Rdi_below hb h.ints, Rds_below hb h.strs, Rdd_below hb h.digs⟩

set_option maxRecDepth 100000 in
set_option maxHeartbeats 6400000 in
theorem encode_long (n : Int) (s : ByteArray) (a1 a2 a3 : Option Addr) (n1 n2 n3 c1 c2 c3 : Nat) (w : World) (hs : s.size ≤ 140737488355328) (hb1 : n1 ≤ 140737488355328) (hb3 : n3 ≤ 140737488355328) (hlen : 2000 < (s.size : Int) + (n1 : Int) + (n3 : Int)) :
    Calls Try.prog 3 #[.int .i64 n, .string s, .slice a1 n1 c1, .slice a2 n2 c2, .slice a3 n3 c3] w (TruePost w) := by
  go_enter Try.func3, Try.ntmps3
  go_wp2_with (go_at_call 12; refine (sanity_any _).mono ?_; rintro e w' ⟨rfl, hb⟩)
  go_ret
  exact ⟨rfl, hb⟩

set_option maxRecDepth 100000 in
set_option maxHeartbeats 6400000 in
theorem encode_many (n : Int) (s : ByteArray) (a1 a2 a3 : Option Addr) (n1 n2 n3 c1 c2 c3 : Nat) (x : List ByteArray) (w : World) (hR2 : Rds w a2 x) (hn2 : Hid (n2 = x.length)) (hs : s.size ≤ 140737488355328) (hb1 : n1 ≤ 140737488355328) (hb3 : n3 ≤ 140737488355328) (hsum : sums x + n2 ≤ 4611686018427387904) (hlen : (s.size : Int) + (n1 : Int) + (n3 : Int) ≤ 2000) (hfew : Hid (decide (((sums x + n2 : Nat) : Int) ≤ 2000) = false)) :
    Calls Try.prog 3 #[.int .i64 n, .string s, .slice a1 n1 c1, .slice a2 n2 c2, .slice a3 n3 c3] w (TruePost w) := by
  have hR2' := Lib.hid hR2
  clear hR2
  go_enter Try.func3, Try.ntmps3
  go_wp2_with (first | (go_at_call 11; refine (few_any _ _ _ x _ hR2'.out hn2 hsum false hfew).mono ?_; rintro e w' ⟨rfl, rfl⟩) | (go_at_call 12; refine (sanity_any _).mono ?_; rintro e w' ⟨rfl, hb⟩))
  go_ret
  exact ⟨rfl, hb⟩

set_option maxRecDepth 100000 in
set_option maxHeartbeats 6400000 in
theorem encode_short (n : Int) (s : ByteArray) (a1 a2 a3 : Option Addr) (n1 n2 n3 c1 c2 c3 : Nat) (l : List Int) (x : List ByteArray) (d : List (List UInt8)) (w : World) (h1 : -9223372036854775808 ≤ n) (h2 : n ≤ 9223372036854775807) (hw : Hid (i64s l)) (hR1 : Rdi w a1 l) (hR2 : Rds w a2 x) (hR3 : Rdd w a3 d) (hn1 : Hid (n1 = l.length)) (hn2 : Hid (n2 = x.length)) (hn3 : Hid (n3 = d.length)) (hs : s.size ≤ 140737488355328) (hb1 : n1 ≤ 140737488355328) (hb3 : n3 ≤ 140737488355328) (hsum : sums x + n2 ≤ 4611686018427387904) (hlen : (s.size : Int) + (n1 : Int) + (n3 : Int) ≤ 2000) (hfew : Hid (decide (((sums x + n2 : Nat) : Int) ≤ 2000) = true)) (hm1 : (encIs l).length ≤ 4611686018427 ) (hm2 : (encSs x).length ≤ 4611686018427) (hm3 : (encDs d).length ≤ 4611686018427) (hm0 : (enc n).length ≤ 9) (hmS : (encS s).length ≤ 4611686018427) (hm4 : n2 ≤ 2000) :
    Calls Try.prog 3 #[.int .i64 n, .string s, .slice a1 n1 c1, .slice a2 n2 c2, .slice a3 n3 c3] w (TruePost w) := by
  have hR2' := Lib.hid hR2
  have hL0 : Hid (ArgLive w a1 a2 a3 l x d w) := Lib.hid ⟨Below.refl _ _, hR1, hR2, hR3⟩
  clear hR1 hR2 hR3
  go_enter Try.func3, Try.ntmps3
  go_wp2_with fail
  refine (few_any _ _ _ x _ hR2'.out hn2 hsum true hfew).mono ?_
  rintro e w' ⟨rfl, rfl⟩
  go_wp2_with fail
  refine (sanity_any _).mono ?_
  rintro e w1 ⟨rfl, hb⟩
  have hL1 := Lib.hid (hL0.out.later hb)
  clear hb hL0 hR2'
  go_wp2_with fail
  refine (Int_any n _ h1 h2).mono ?_
  intro e w2 hp
  obtain ⟨p1, b1, rfl, hRp, -, -, hb⟩ := enc_Rd hp
  have hL2 := Lib.hid (hL1.out.later hb)
  have hRp1 := Lib.hid hRp
  clear hp hb hRp hL1
  go_wp2_with fail
  refine (refInt_any n _ h1 h2).mono ?_
  intro e w3 hp
  obtain ⟨q1, d1, rfl, hRq, -, -, hb⟩ := enc_Rd hp
  have hL3 := Lib.hid (hL2.out.later hb)
  have hRp2 := Lib.hid (Rd_below hb hRp1.out)
  have hRq1 := Lib.hid hRq
  clear hp hb hRq hL2
  go_wp2_with fail
  refine (Same_true _ _ _ _ _ _ (enc n) _ hRp2.out hRq1.out rfl rfl (by omega)).mono ?_
  rintro e w4 ⟨rfl, hb⟩
  have hL4 := Lib.hid (hL3.out.later hb)
  clear hb hL3 hRp2 hRp1 hRq1
  go_wp2_with fail
  refine (encS_any s _ (by omega)).mono ?_
  intro e w5 hp
  obtain ⟨p4, b4, rfl, hRp, -, -, hb⟩ := enc_Rd hp
  have hL5 := Lib.hid (hL4.out.later hb)
  have hRp4 := Lib.hid hRp
  clear hp hb hRp hL4
  go_wp2_with fail
  refine (refBytes_any s _ (by omega)).mono ?_
  intro e w6 hp
  obtain ⟨q4, d4, rfl, hRq, -, -, hb⟩ := enc_Rd hp
  have hL6 := Lib.hid (hL5.out.later hb)
  have hRp2 := Lib.hid (Rd_below hb hRp4.out)
  have hRq4 := Lib.hid hRq
  clear hp hb hRq hL5
  go_wp2_with fail
  refine (Same_true _ _ _ _ _ _ (encS s) _ hRp2.out hRq4.out rfl rfl (by omega)).mono ?_
  rintro e w7 ⟨rfl, hb⟩
  have hL7 := Lib.hid (hL6.out.later hb)
  clear hb hL6 hRp2 hRp4 hRq4
  go_wp2_with fail
  refine (Ints_any _ _ _ l _ hL7.out.ints hn1.out (by omega) hw.out (by omega)).mono ?_
  intro e w8 hp
  obtain ⟨p7, b7, rfl, hRp, -, -, hb⟩ := enc_Rd hp
  have hL8 := Lib.hid (hL7.out.later hb)
  have hRp7 := Lib.hid hRp
  clear hp hb hRp hL7
  go_wp2_with fail
  refine (refInts_any _ _ _ l _ hL8.out.ints hn1.out (by omega) hw.out (by omega)).mono ?_
  intro e w9 hp
  obtain ⟨q7, d7, rfl, hRq, -, -, hb⟩ := enc_Rd hp
  have hL9 := Lib.hid (hL8.out.later hb)
  have hRp2 := Lib.hid (Rd_below hb hRp7.out)
  have hRq7 := Lib.hid hRq
  clear hp hb hRq hL8
  go_wp2_with fail
  refine (Same_true _ _ _ _ _ _ (encIs l) _ hRp2.out hRq7.out rfl rfl (by omega)).mono ?_
  rintro e w10 ⟨rfl, hb⟩
  have hL10 := Lib.hid (hL9.out.later hb)
  clear hb hL9 hRp2 hRp7 hRq7
  go_wp2_with fail
  refine (Strings_any _ _ _ x _ hL10.out.strs hn2.out (by omega) (by omega)).mono ?_
  intro e w11 hp
  obtain ⟨p10, b10, rfl, hRp, -, -, hb⟩ := enc_Rd hp
  have hL11 := Lib.hid (hL10.out.later hb)
  have hRp10 := Lib.hid hRp
  clear hp hb hRp hL10
  go_wp2_with fail
  refine (refStrings_any _ _ _ x _ hL11.out.strs hn2.out (by omega) (by omega)).mono ?_
  intro e w12 hp
  obtain ⟨q10, d10, rfl, hRq, -, -, hb⟩ := enc_Rd hp
  have hL12 := Lib.hid (hL11.out.later hb)
  have hRp2 := Lib.hid (Rd_below hb hRp10.out)
  have hRq10 := Lib.hid hRq
  clear hp hb hRq hL11
  go_wp2_with fail
  refine (Same_true _ _ _ _ _ _ (encSs x) _ hRp2.out hRq10.out rfl rfl (by omega)).mono ?_
  rintro e w13 ⟨rfl, hb⟩
  have hL13 := Lib.hid (hL12.out.later hb)
  clear hb hL12 hRp2 hRp10 hRq10
  go_wp2_with fail
  refine (Digests_any _ _ _ d _ hL13.out.digs hn3.out (by omega) (by omega)).mono ?_
  intro e w14 hp
  obtain ⟨p13, b13, rfl, hRp, -, -, hb⟩ := enc_Rd hp
  have hL14 := Lib.hid (hL13.out.later hb)
  have hRp13 := Lib.hid hRp
  clear hp hb hRp hL13
  go_wp2_with fail
  refine (refDigests_any _ _ _ d _ hL14.out.digs hn3.out (by omega) (by omega)).mono ?_
  intro e w15 hp
  obtain ⟨q13, d13, rfl, hRq, -, -, hb⟩ := enc_Rd hp
  have hL15 := Lib.hid (hL14.out.later hb)
  have hRp2 := Lib.hid (Rd_below hb hRp13.out)
  have hRq13 := Lib.hid hRq
  clear hp hb hRq hL14
  go_wp2_with fail
  refine (Same_true _ _ _ _ _ _ (encDs d) _ hRp2.out hRq13.out rfl rfl (by omega)).mono ?_
  rintro e w16 ⟨rfl, hb⟩
  have hL16 := Lib.hid (hL15.out.later hb)
  clear hb hL15 hRp2 hRp13 hRq13
  go_wp2
  go_ret
  exact ⟨rfl, hL16.out.below⟩

theorem encSs_le (x : List ByteArray) : (encSs x).length ≤ 9 + 9 * x.length + sums x := by
  have h1 := enc_le (x.length : Int)
  have h2 : (x.flatMap encS).length ≤ 9 * x.length + sums x := by
    clear h1
    induction x with
    | nil => simp
    | cons s x ih =>
      have := encS_le s
      have e : sums (s :: x) = s.size + sums x := by simp [sums]
      rw [List.flatMap_cons, List.length_append, List.length_cons, e]
      omega
  unfold encSs
  rw [List.length_append]
  omega

theorem encode_any (n : Int) (s : ByteArray) (a1 a2 a3 : Option Addr) (n1 n2 n3 c1 c2 c3 : Nat) (l : List Int) (x : List ByteArray) (d : List (List UInt8)) (w : World) (h1 : -9223372036854775808 ≤ n) (h2 : n ≤ 9223372036854775807) (hw : Hid (i64s l)) (hR1 : Rdi w a1 l) (hR2 : Rds w a2 x) (hR3 : Rdd w a3 d) (hn1 : Hid (n1 = l.length)) (hn2 : Hid (n2 = x.length)) (hn3 : Hid (n3 = d.length)) (hs : s.size ≤ 140737488355328) (hb1 : n1 ≤ 140737488355328) (hb3 : n3 ≤ 140737488355328) (hsum : sums x + n2 ≤ 4611686018427387904) (hm3 : (encDs d).length ≤ 9 + 16 * d.length) :
    Calls Try.prog 3 #[.int .i64 n, .string s, .slice a1 n1 c1, .slice a2 n2 c2, .slice a3 n3 c3] w (TruePost w) := by
  by_cases hA : 2000 < (s.size : Int) + (n1 : Int) + (n3 : Int)
  · exact encode_long n s a1 a2 a3 n1 n2 n3 c1 c2 c3 w hs hb1 hb3 hA
  by_cases hB : ((sums x + n2 : Nat) : Int) ≤ 2000
  · have e1 := encIs_le l
    have e2 := encSs_le x
    have e3 := encS_le s
    have e4 := hn1.out
    have e5 := hn2.out
    have e6 := hn3.out
    exact encode_short n s a1 a2 a3 n1 n2 n3 c1 c2 c3 l x d w h1 h2 hw hR1 hR2 hR3 hn1 hn2 hn3 hs hb1 hb3 hsum (by omega) (by show _ = true; simpa using hB) (by omega) (by omega) (by omega) (enc_le n) (by omega) (by omega)
  · exact encode_many n s a1 a2 a3 n1 n2 n3 c1 c2 c3 x w hR2 hn2 hs hb1 hb3 hsum (by omega) (by show _ = false; simpa using hB)

end Go.Proofs.Ytfodockdhecbpaa
