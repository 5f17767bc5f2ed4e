/- WireTruncated: the other cases. -/
import Derived.Test.YtfodockdhecbpaaV9
import Derived.Test.YtfodockdhecbpaaV8
namespace Go.Proofs.Ytfodockdhecbpaa
open Go.RowKit

set_option maxRecDepth 100000 in
set_option maxHeartbeats 1600000 in
theorem tr_long (n : Int) (s : ByteArray) (a1 a2 a3 : Option Addr) (n1 n2 n3 c1 c2 c3 : Nat) (w : World) (hs : s.size ≤ 1048576) (hb1 : n1 ≤ 1048576) (hb3 : n3 ≤ 1048576) (hlen : 400 < (s.size : Int) + 9 * (n1 : Int) + 16 * (n3 : Int)) :
    Calls Try.prog 9 #[.int .i64 n, .string s, .slice a1 n1 c1, .slice a2 n2 c2, .slice a3 n3 c3] w (TruePost w) := by
  go_enter Try.func9, Try.ntmps9
  go_wp2_with (go_at_call 12; refine (sanity_any _).mono ?_; rintro e w' ⟨rfl, hb⟩)
  go_ret
  exact ⟨rfl, hb⟩

set_option maxRecDepth 100000 in
set_option maxHeartbeats 1600000 in
theorem tr_wide (n : Int) (s : ByteArray) (a1 a2 a3 : Option Addr) (n1 n2 n3 c1 c2 c3 : Nat) (w : World) (hs : s.size ≤ 1048576) (hb1 : n1 ≤ 1048576) (hb3 : n3 ≤ 1048576) (hlen : (s.size : Int) + 9 * (n1 : Int) + 16 * (n3 : Int) ≤ 400) (hx : 40 < (n2 : Int)) :
    Calls Try.prog 9 #[.int .i64 n, .string s, .slice a1 n1 c1, .slice a2 n2 c2, .slice a3 n3 c3] w (TruePost w) := by
  go_enter Try.func9, Try.ntmps9
  go_wp2_with (go_at_call 12; refine (sanity_any _).mono ?_; rintro e w' ⟨rfl, hb⟩)
  go_ret
  exact ⟨rfl, hb⟩

set_option maxRecDepth 100000 in
set_option maxHeartbeats 1600000 in
theorem tr_many (n : Int) (s : ByteArray) (a1 a2 a3 : Option Addr) (n1 n2 n3 c1 c2 c3 : Nat) (x : List ByteArray) (w : World) (hR2 : Rds w a2 x) (hn2 : Hid (n2 = x.length)) (hs : s.size ≤ 1048576) (hb1 : n1 ≤ 1048576) (hb3 : n3 ≤ 1048576) (hsum : sums x + n2 ≤ 1048576) (hlen : (s.size : Int) + 9 * (n1 : Int) + 16 * (n3 : Int) ≤ 400) (hx : (n2 : Int) ≤ 40) (hfew : Hid (decide (((sums x + n2 : Nat) : Int) ≤ 2000) = false)) :
    Calls Try.prog 9 #[.int .i64 n, .string s, .slice a1 n1 c1, .slice a2 n2 c2, .slice a3 n3 c3] w (TruePost w) := by
  have hR2' := Lib.hid hR2
  clear hR2
  go_enter Try.func9, Try.ntmps9
  go_wp2_with (first | (go_at_call 11; refine (few_any _ _ _ x _ hR2'.out hn2 (by omega) false hfew).mono ?_; rintro e w' ⟨rfl, rfl⟩) | (go_at_call 12; refine (sanity_any _).mono ?_; rintro e w' ⟨rfl, hb⟩))
  go_ret
  exact ⟨rfl, hb⟩

theorem tr_any (n : Int) (s : ByteArray) (a1 a2 a3 : Option Addr) (n1 n2 n3 c1 c2 c3 : Nat) (l : List Int) (x : List ByteArray) (d : List (List UInt8)) (w : World) (h1 : -9223372036854775808 ≤ n) (h2 : n ≤ 9223372036854775807) (hw : Hid (i64s l)) (h16 : Hid (∀ y ∈ d, y.length = 16)) (hR1 : Rdi w a1 l) (hR2 : Rds w a2 x) (hR3 : Rdd w a3 d) (hn1 : Hid (n1 = l.length)) (hn2 : Hid (n2 = x.length)) (hn3 : Hid (n3 = d.length)) (hs : s.size ≤ 1048576) (hb1 : n1 ≤ 1048576) (hb3 : n3 ≤ 1048576) (hsum : sums x + n2 ≤ 1048576) :
    Calls Try.prog 9 #[.int .i64 n, .string s, .slice a1 n1 c1, .slice a2 n2 c2, .slice a3 n3 c3] w (TruePost w) := by
  by_cases hA : 400 < (s.size : Int) + 9 * (n1 : Int) + 16 * (n3 : Int)
  · exact tr_long n s a1 a2 a3 n1 n2 n3 c1 c2 c3 w hs hb1 hb3 hA
  by_cases hX : 40 < (n2 : Int)
  · exact tr_wide n s a1 a2 a3 n1 n2 n3 c1 c2 c3 w hs hb1 hb3 (by omega) hX
  by_cases hB : ((sums x + n2 : Nat) : Int) ≤ 2000
  · have e1 := encIs_le l
    have e2 := encSs_le x
    have e3 := encS_le s
    have e7 := encDs_le d h16.out
    have e4 := hn1.out
    have e5 := hn2.out
    have e6 := hn3.out
    refine tr_short n s a1 a2 a3 n1 n2 n3 c1 c2 c3 l x d w h1 h2 hw h16 hR1 hR2 hR3 hn1 hn2 hn3 hs hb1 hb3 hsum ?_ (by omega) (by omega) (by show _ = true; simpa using hB) (by omega) (by omega) (by omega) (enc_le n) (by omega)
    exact fun y hy => by have := sums_mem x y hy; omega
  · exact tr_many n s a1 a2 a3 n1 n2 n3 c1 c2 c3 x w hR2 hn2 hs hb1 hb3 hsum (by omega) (by omega) (by show _ = false; simpa using hB)

end Go.Proofs.Ytfodockdhecbpaa
