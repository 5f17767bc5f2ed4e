/- The walk of WireIntRoundTrip. -/
import Derived.Test.YtfodockdhecbpaaW23
namespace Go.Proofs.Ytfodockdhecbpaa
open Go.RowKit

set_option maxRecDepth 100000 in
set_option maxHeartbeats 800000 in
theorem intRoundTrip_long (n : Int) (a : Option Addr) (len cap : Nat) (w : World) (hlen : 2000 < (len : Int)) :
    Calls Try.prog 6 #[.int .i64 n, .slice a len cap] w (TruePost w) := by
  go_enter Try.func6, Try.ntmps6
  go_wp2_with (go_at_call 12; refine (sanity_any _).mono ?_; rintro e w' ⟨rfl, hb⟩)
  go_ret
  exact ⟨rfl, hb⟩

set_option maxRecDepth 100000 in
set_option maxHeartbeats 800000 in
theorem intRoundTrip_short (n : Int) (a : Option Addr) (len cap : Nat) (l : List UInt8) (w : World) (hR : Rd w a l) (hn : Hid (len = l.length)) (hlen : (len : Int) ≤ 2000) (h1 : -9223372036854775808 ≤ n) (h2 : n ≤ 9223372036854775807) :
    Calls Try.prog 6 #[.int .i64 n, .slice a len cap] w (TruePost w) := by
  have hR' := Lib.hid hR
  clear hR
  have he := Lib.hid (gi_enc n l h1 h2)
  have h9 := enc_le n
  have h10 : 1 ≤ (enc n).length := by rw [enc_length]; omega
  go_enter Try.func6, Try.ntmps6
  go_wp2_with fail
  refine (Int_any n _ h1 h2).mono ?_
  intro e w1 hp
  obtain ⟨p1, c1, rfl, hR1, hc1, hm1, hb1⟩ := enc_Rd hp
  have hR1' := Lib.hid hR1
  have hb1' := Lib.hid hb1
  have hRt := Lib.hid (Rd_below hb1 hR'.out)
  clear hp hR1 hb1 hR'
  generalize hk : (enc n).length = k at *
  have hk' := Lib.hid hk
  clear hk
  have h11 : (1 : Int) ≤ (k : Int) := by omega
  have h12 : (k : Int) ≤ 9 := by omega
  have h13 : (k : Int) ≤ (c1 : Int) := by omega
  go_wp2_with (at_builtin; refine wpList_append_tail rfl _ _ rfl _ _ _ _ _ (enc n) l rfl rfl hR1'.out hRt.out hk'.out.symm hn.out (by omega) ?_; rintro v' w2 ⟨p2, c2, rfl, hR2, hc2, hm2, hb2⟩; have hR2' := Lib.hid hR2; have hb2' := Lib.hid hb2; clear hR2 hb2)
  refine (GetInt_any _ _ _ (enc n ++ l) _ hR2'.out (by simp) (by simpa using hc2) hm2 n k 0 he.out).mono ?_
  rintro e w' ⟨rfl, rfl⟩
  have hz1 := hb1'.out.size
  have hz2 := hb2'.out.size
  go_wp2_with (go_at_call 12; refine (sanity_any _).mono ?_; rintro e w' ⟨rfl, hb⟩; have hb' := Lib.hid hb; clear hb)
  go_ret
  exact ⟨rfl, hb1'.out.trans ((hb2'.out.mono hz1).trans (hb'.out.mono (by omega)))⟩

theorem intRoundTrip_any (n : Int) (a : Option Addr) (len cap : Nat) (l : List UInt8) (w : World) (hR : Rd w a l) (hn : len = l.length) (h1 : -9223372036854775808 ≤ n) (h2 : n ≤ 9223372036854775807) :
    Calls Try.prog 6 #[.int .i64 n, .slice a len cap] w (TruePost w) := by
  by_cases h : 2000 < (len : Int)
  · exact intRoundTrip_long n a len cap w h
  · exact intRoundTrip_short n a len cap l w hR hn (by omega) h1 h2

end Go.Proofs.Ytfodockdhecbpaa
