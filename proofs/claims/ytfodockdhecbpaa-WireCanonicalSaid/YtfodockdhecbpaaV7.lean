/- The walk of WireCanonical. -/
import Derived.Test.YtfodockdhecbpaaV7a
namespace Go.Proofs.Ytfodockdhecbpaa
open Go.RowKit

set_option maxRecDepth 100000 in
set_option maxHeartbeats 800000 in
theorem canonical_long (a : Option Addr) (n cap : Nat) (w : World) (hlen : 2000 < (n : Int)) :
    Calls Try.prog 7 #[.slice a n cap] w (TruePost w) := by
  go_enter Try.func7, Try.ntmps7
  go_wp2_with (go_at_call 12; refine (sanity_any _).mono ?_; rintro e w' ⟨rfl, hb⟩)
  go_ret
  exact ⟨rfl, ((Below.refl _ _).alloc (Nat.le_refl _) _).trans (hb.mono (by simp))⟩

set_option maxRecDepth 100000 in
set_option maxHeartbeats 6400000 in
theorem canonical_short (a : Option Addr) (n cap : Nat) (L : List UInt8) (w : World) (hR : Rd w a L) (hn : Hid (n = L.length)) (hnc : n ≤ cap) (hcap : cap ≤ 9223372036854775807) (hlen : n ≤ 2000) :
    Calls Try.prog 7 #[.slice a n cap] w (TruePost w) := by
  obtain ⟨x, u1, e1, g1⟩ : ∃ x u e, gi L = (x, u, e) := ⟨_, _, _, rfl⟩
  obtain ⟨s, u2, e2, g2⟩ : ∃ x u e, gb L = (x, u, e) := ⟨_, _, _, rfl⟩
  obtain ⟨xs, u3, e3, g3⟩ : ∃ x u e, dls 1 gi L = (x, u, e) := ⟨_, _, _, rfl⟩
  obtain ⟨ys, u4, e4, g4⟩ : ∃ x u e, dls 1 gb L = (x, u, e) := ⟨_, _, _, rfl⟩
  obtain ⟨ds, u5, e5, g5⟩ : ∃ x u e, dds L = (x, u, e) := ⟨_, _, _, rfl⟩
  have k1 := Lib.hid (gi_case L x u1 e1 g1)
  have k2 := Lib.hid (gb_case L s u2 e2 g2)
  have k3 := Lib.hid (ints_case L xs u3 e3 g3)
  have k4 := Lib.hid (strs_case L ys u4 e4 g4)
  have k5 := Lib.hid (digests_case L ds u5 e5 g5)
  have kr := Lib.hid (ints_range L xs u3 e3 g3)
  have g1' := Lib.hid g1
  have g2' := Lib.hid g2
  have g3' := Lib.hid g3
  have g4' := Lib.hid g4
  have g5' := Lib.hid g5
  have hbs : Hid ((enc ((bs s).size : Int)).length + (bs s).size ≤ 70368744177664) := Lib.hid (by
    have h1 := enc_le ((bs s).size : Int)
    have h2 := k2.out.2
    have h3 := hn.out
    have h4 : (bs s).size = s.length := by rw [← sl_length, sl_bs]
    omega)
  have q0 : (n : Int) ≤ 2000 := by omega
  have hb0 : Below w.heap.size w (w.alloc (.cells #[.slice a n cap] 28)) := (Below.refl _ _).alloc (Nat.le_refl _) _
  have hL0 : Hid (CanLive w a n cap L none none none [] [] [] (w.alloc (.cells #[.slice a n cap] 28))) := Lib.hid ⟨hb0, by rw [cell_new]; rfl, Rd_below hb0 hR, .inl rfl, .inl rfl, ⟨fun i hi => by simp at hi, .inl rfl⟩⟩
  clear g1 g2 g3 g4 g5 hR hb0
  go_enter Try.func7, Try.ntmps7
  go_wp2_with fail
  refine (GetInt_any _ _ _ L _ hL0.out.rd hn.out hnc (by omega) x u1 e1 g1'.out).mono ?_
  rintro e w' ⟨rfl, rfl⟩
  go_wp2_with fail
  refine (GetBytes_any _ _ _ L _ hL0.out.rd hn.out hnc (by omega) s u2 e2 g2'.out).mono ?_
  rintro e w' ⟨rfl, rfl⟩
  go_wp2_with fail
  refine (GetInts_any _ _ _ L _ hL0.out.rd hn.out hnc ⟨by omega, by omega⟩ (by omega) xs u3 e3 g3'.out).mono ?_
  rintro e w1 ⟨v1, rfl, ho, hb⟩
  obtain ⟨p1, c1, rfl, hR1, -, -, -⟩ := own_Rdi (l := xs) ho
  have hL1 : Hid (CanLive w a n cap L p1 none none xs [] [] w1) := Lib.hid { hL0.out.later hb with ints := hR1 }
  have cb1 := hL1.out.box
  clear ho hb hR1 hL0
  go_wp2_with fail
  refine (GetStrings_any _ _ _ L _ hL1.out.rd hn.out hnc ⟨by omega, by omega⟩ (by omega) ys u4 e4 g4'.out).mono ?_
  rintro e w2 ⟨v2, rfl, ho, hb⟩
  obtain ⟨p2, c2, rfl, hR2, -, -, -⟩ := own_Rds (l := ys) ho
  have hL2 : Hid (CanLive w a n cap L p1 p2 none xs (ys.map bs) [] w2) := Lib.hid { hL1.out.later hb with strs := hR2 }
  have cb2 := hL2.out.box
  clear ho hb hR2 hL1 cb1
  go_wp2_with fail
  refine (GetDigests_any _ _ _ L _ hL2.out.rd hn.out hnc ⟨by omega, by omega⟩ (by omega) ds u5 e5 g5'.out).mono ?_
  rintro e w3 ⟨v3, rfl, ho, hb⟩
  obtain ⟨p3, c3, rfl, hR3, -, -⟩ := own_Rdd (l := ds) k5.out.2.2.1 ho rfl
  have hL3 : Hid (CanLive w a n cap L p1 p2 p3 xs (ys.map bs) ds w3) := Lib.hid { hL2.out.later hb with digs := hR3 }
  clear ho hb hR3 hL2 cb2
  go_wp2_with fail
  refine (sanity_any _).mono ?_
  rintro e w4 ⟨rfl, hb⟩
  have hL4 := Lib.hid (hL3.out.later hb)
  clear hb hL3
  go_wp2_with fail
  refine (Int_any x _ k1.out.2.1 k1.out.2.2).mono ?_
  intro e w5 hp
  obtain ⟨q5, c5, rfl, hR5, -, -, hb⟩ := enc_Rd hp
  have hL5 := Lib.hid (hL4.out.later hb)
  have hR5' := Lib.hid hR5
  clear hp hb hL4 hR5
  go_wp2_with fail
  refine (isC_any _ _ _ _ _ _ a n cap L (enc x) _ hL5.out.box hL5.out.rd hn.out hnc hlen hR5'.out rfl k1.out.1).mono ?_
  rintro e w6 ⟨rfl, hb⟩
  have hL6 := Lib.hid (hL5.out.later hb)
  clear hb hL5 hR5'
  go_wp2_with fail
  refine (Bytes_enc (bs s) _ hbs.out).mono ?_
  intro e w7 hp
  obtain ⟨q7, c7, rfl, hR7, -, -, hb⟩ := enc_Rd hp
  have hL7 := Lib.hid (hL6.out.later hb)
  have hR7' := Lib.hid hR7
  clear hp hb hL6 hR7
  go_wp2_with fail
  refine (isC_any _ _ _ _ _ _ a n cap L (encS (bs s)) _ hL7.out.box hL7.out.rd hn.out hnc hlen hR7'.out rfl k2.out.1).mono ?_
  rintro e w8 ⟨rfl, hb⟩
  have hL8 := Lib.hid (hL7.out.later hb)
  clear hb hL7 hR7'
  go_wp2_with fail
  refine (Ints_any _ _ _ xs _ hL8.out.ints rfl (by have := k3.out.2.2; have := hn.out; omega) kr.out (by have := k3.out.2.1; have := hn.out; omega)).mono ?_
  intro e w9 hp
  obtain ⟨q9, c9, rfl, hR9, -, -, hb⟩ := enc_Rd hp
  have hL9 := Lib.hid (hL8.out.later hb)
  have hR9' := Lib.hid hR9
  clear hp hb hL8 hR9
  go_wp2_with fail
  refine (isC_any _ _ _ _ _ _ a n cap L (encIs xs) _ hL9.out.box hL9.out.rd hn.out hnc hlen hR9'.out rfl k3.out.1).mono ?_
  rintro e w10 ⟨rfl, hb⟩
  have hL10 := Lib.hid (hL9.out.later hb)
  clear hb hL9 hR9'
  go_wp2_with fail
  refine (Strings_any _ _ _ (ys.map bs) _ hL10.out.strs (by simp) (by have := k4.out.2.2; have := hn.out; omega) (by have := k4.out.2.1; have := hn.out; omega)).mono ?_
  intro e w11 hp
  obtain ⟨q11, c11, rfl, hR11, -, -, hb⟩ := enc_Rd hp
  have hL11 := Lib.hid (hL10.out.later hb)
  have hR11' := Lib.hid hR11
  clear hp hb hL10 hR11
  go_wp2_with fail
  refine (isC_any _ _ _ _ _ _ a n cap L (encSs (ys.map bs)) _ hL11.out.box hL11.out.rd hn.out hnc hlen hR11'.out rfl k4.out.1).mono ?_
  rintro e w12 ⟨rfl, hb⟩
  have hL12 := Lib.hid (hL11.out.later hb)
  clear hb hL11 hR11'
  go_wp2_with fail
  refine (Digests_any _ _ _ ds _ hL12.out.digs rfl (by have := k5.out.2.2.2; have := hn.out; omega) (by have := k5.out.2.1; have := hn.out; omega)).mono ?_
  intro e w13 hp
  obtain ⟨q13, c13, rfl, hR13, -, -, hb⟩ := enc_Rd hp
  have hL13 := Lib.hid (hL12.out.later hb)
  have hR13' := Lib.hid hR13
  clear hp hb hL12 hR13
  go_wp2_with fail
  refine (isC_any _ _ _ _ _ _ a n cap L (encDs ds) _ hL13.out.box hL13.out.rd hn.out hnc hlen hR13'.out rfl k5.out.1).mono ?_
  rintro e w14 ⟨rfl, hb⟩
  have hL14 := Lib.hid (hL13.out.later hb)
  clear hb hL13 hR13'
  go_wp2
  go_ret
  exact ⟨rfl, hL14.out.below⟩

theorem canonical_any (a : Option Addr) (n cap : Nat) (L : List UInt8) (w : World) (hR : Rd w a L) (hn : n = L.length) (hnc : n ≤ cap) (hcap : cap ≤ 9223372036854775807) :
    Calls Try.prog 7 #[.slice a n cap] w (TruePost w) := by
  by_cases h : 2000 < (n : Int)
  · exact canonical_long a n cap w h
  · exact canonical_short a n cap L w hR hn hnc hcap (by omega)

end Go.Proofs.Ytfodockdhecbpaa
