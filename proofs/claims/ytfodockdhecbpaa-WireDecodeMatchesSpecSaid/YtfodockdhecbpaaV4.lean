/- The walk of WireDecodeMatchesSpec. -/
import Derived.Test.YtfodockdhecbpaaR6
namespace Go.Proofs.Ytfodockdhecbpaa
open Go.RowKit

/-- what the walk still needs -/
structure DecLive (w : World) (a : Option Addr) (L : List UInt8) (p1 p2 p3 q1 q2 q3 : Option Addr) (xs xs2 : List Int) (ys ys2 : List ByteArray) (ds ds2 : List (List UInt8)) (W : World) : Prop where
  below : Below w.heap.size w W
  rd : Rd W a L
  ints : Rdi W p1 xs
  strs : Rds W p2 ys
  digs : Rdd W p3 ds
  ints' : Rdi W q1 xs2
  strs' : Rds W q2 ys2
  digs' : Rdd W q3 ds2
theorem DecLive.later {w : World} {a : Option Addr} {L : List UInt8} {p1 p2 p3 q1 q2 q3 : Option Addr} {xs xs2 : List Int} {ys ys2 : List ByteArray} {ds ds2 : List (List UInt8)} {W W' : World} (h : DecLive w a L p1 p2 p3 q1 q2 q3 xs xs2 ys ys2 ds ds2 W) (hb : Below W.heap.size W W') : DecLive w a L p1 p2 p3 q1 q2 q3 xs xs2 ys ys2 ds ds2 W' :=
  ⟨h.below.trans (hb.mono h.below.size), Rd_below hb h.rd, Rdi_below hb h.ints, Rds_below hb h.strs, Rdd_below hb h.digs, Rdi_below hb h.ints', Rds_below hb h.strs', Rdd_below hb h.digs'⟩

set_option maxRecDepth 100000 in
set_option maxHeartbeats 800000 in
theorem decode_long (a : Option Addr) (n cap : Nat) (w : World) (hlen : 2000 < (n : Int)) :
    Calls Try.prog 4 #[.slice a n cap] w (TruePost w) := by
  go_enter Try.func4, Try.ntmps4
  go_wp2_with (go_at_call 12; refine (sanity_any _).mono ?_; rintro e w' ⟨rfl, hb⟩)
  go_ret
  exact ⟨rfl, hb⟩

set_option maxRecDepth 100000 in
set_option maxHeartbeats 6400000 in
theorem decode_short (a : Option Addr) (n cap : Nat) (L : List UInt8) (w : World) (hR : Rd w a L) (hn : Hid (n = L.length)) (hnc : n ≤ cap) (hcap : cap ≤ 9223372036854775807) (hlen : n ≤ 2000) :
    Calls Try.prog 4 #[.slice a n cap] w (TruePost w) := by
  obtain ⟨x, u1, e1, g1⟩ : ∃ x u e, gi L = (x, u, e) := ⟨_, _, _, rfl⟩
  obtain ⟨s, u2, e2, g2⟩ : ∃ x u e, gb L = (x, u, e) := ⟨_, _, _, rfl⟩
  obtain ⟨xs, u3, e3, g3⟩ : ∃ x u e, dls 1 gi L = (x, u, e) := ⟨_, _, _, rfl⟩
  obtain ⟨ys, u4, e4, g4⟩ : ∃ x u e, dls 1 gb L = (x, u, e) := ⟨_, _, _, rfl⟩
  obtain ⟨ds, u5, e5, g5⟩ : ∃ x u e, dds L = (x, u, e) := ⟨_, _, _, rfl⟩
  have k3 := Lib.hid (ints_case L xs u3 e3 g3)
  have k4 := Lib.hid (strs_case L ys u4 e4 g4)
  have k5 := Lib.hid (digests_case L ds u5 e5 g5)
  have g1' := Lib.hid g1
  have g2' := Lib.hid g2
  have g3' := Lib.hid g3
  have g4' := Lib.hid g4
  have g5' := Lib.hid g5
  have q0 : (n : Int) ≤ 2000 := by omega
  have hL0 : Hid (DecLive w a L none none none none none none [] [] [] [] [] [] w) := Lib.hid ⟨Below.refl _ _, hR, .inl rfl, .inl rfl, ⟨fun i hi => by simp at hi, .inl rfl⟩, .inl rfl, .inl rfl, ⟨fun i hi => by simp at hi, .inl rfl⟩⟩
  clear g1 g2 g3 g4 g5 hR
  go_enter Try.func4, Try.ntmps4
  go_wp2_with fail
  refine (GetInt_any _ _ _ L _ hL0.out.rd hn.out hnc (by omega) x u1 e1 g1'.out).mono ?_
  rintro e w' ⟨rfl, rfl⟩
  go_wp2_with fail
  refine (refGetInt_any _ _ _ L _ hL0.out.rd hn.out hnc (by omega) x u1 e1 g1'.out).mono ?_
  rintro e w1 ⟨rfl, hb⟩
  have hL1 := Lib.hid (hL0.out.later hb)
  clear hb hL0
  go_wp2_with fail
  refine (GetBytes_any _ _ _ L _ hL1.out.rd hn.out hnc (by omega) s u2 e2 g2'.out).mono ?_
  rintro e w' ⟨rfl, rfl⟩
  go_wp2_with fail
  refine (refGetBytes_any _ _ _ L _ hL1.out.rd hn.out hnc ⟨by omega, by omega⟩ s u2 e2 g2'.out).mono ?_
  rintro e w2 ⟨rfl, hb⟩
  have hL2 := Lib.hid (hL1.out.later hb)
  clear hb hL1
  go_wp2_with fail
  refine (GetInts_any _ _ _ L _ hL2.out.rd hn.out hnc ⟨by omega, by omega⟩ (by omega) xs u3 e3 g3'.out).mono ?_
  rintro e w3 ⟨v1, rfl, ho, hb⟩
  obtain ⟨p1, c1, rfl, hR1, -, -, -⟩ := own_Rdi (l := xs) ho
  have hL3 : Hid (DecLive w a L p1 none none none none none xs [] [] [] [] [] w3) := Lib.hid { hL2.out.later hb with ints := hR1 }
  clear ho hb hR1 hL2
  go_wp2_with fail
  refine (refGetInts_any _ _ _ L _ hL3.out.rd hn.out hnc ⟨by omega, by omega⟩ xs u3 e3 g3'.out).mono ?_
  rintro e w4 ⟨v2, rfl, ho, hb⟩
  obtain ⟨q1, d1, rfl, hR1, -, -, -⟩ := own_Rdi (l := xs) ho
  have hL4 : Hid (DecLive w a L p1 none none q1 none none xs xs [] [] [] [] w4) := Lib.hid { hL3.out.later hb with ints' := hR1 }
  clear ho hb hR1 hL3
  go_wp2_with fail
  refine (SameInts_true _ _ _ _ _ _ xs _ hL4.out.ints hL4.out.ints' rfl rfl (by have := k3.out.2.2; have := hn.out; omega)).mono ?_
  rintro e w5 ⟨rfl, hb⟩
  have hL5 := Lib.hid (hL4.out.later hb)
  clear hb hL4
  go_wp2_with fail
  refine (GetStrings_any _ _ _ L _ hL5.out.rd hn.out hnc ⟨by omega, by omega⟩ (by omega) ys u4 e4 g4'.out).mono ?_
  rintro e w6 ⟨v3, rfl, ho, hb⟩
  obtain ⟨p2, c2, rfl, hR2, -, -, -⟩ := own_Rds (l := ys) ho
  have hL6 : Hid (DecLive w a L p1 p2 none q1 none none xs xs (ys.map bs) [] [] [] w6) := Lib.hid { hL5.out.later hb with strs := hR2 }
  clear ho hb hR2 hL5
  go_wp2_with fail
  refine (refGetStrings_any _ _ _ L _ hL6.out.rd hn.out hnc ⟨by omega, by omega⟩ ys u4 e4 g4'.out).mono ?_
  rintro e w7 ⟨v4, rfl, ho, hb⟩
  obtain ⟨q2, d2, rfl, hR2, -, -, -⟩ := own_Rds (l := ys) ho
  have hL7 : Hid (DecLive w a L p1 p2 none q1 q2 none xs xs (ys.map bs) (ys.map bs) [] [] w7) := Lib.hid { hL6.out.later hb with strs' := hR2 }
  clear ho hb hR2 hL6
  go_wp2_with fail
  refine (SameTexts_true _ _ _ _ _ _ (ys.map bs) _ hL7.out.strs hL7.out.strs' (by simp) (by simp) (by have := k4.out.2.2; have := hn.out; omega)).mono ?_
  rintro e w8 ⟨rfl, hb⟩
  have hL8 := Lib.hid (hL7.out.later hb)
  clear hb hL7
  go_wp2_with fail
  refine (GetDigests_any _ _ _ L _ hL8.out.rd hn.out hnc ⟨by omega, by omega⟩ (by omega) ds u5 e5 g5'.out).mono ?_
  rintro e w9 ⟨v5, rfl, ho, hb⟩
  obtain ⟨p3, c3, rfl, hR3, -, -⟩ := own_Rdd (l := ds) k5.out.2.2.1 ho rfl
  have hL9 : Hid (DecLive w a L p1 p2 p3 q1 q2 none xs xs (ys.map bs) (ys.map bs) ds [] w9) := Lib.hid { hL8.out.later hb with digs := hR3 }
  clear ho hb hR3 hL8
  go_wp2_with fail
  refine (refGetDigests_any _ _ _ L _ hL9.out.rd hn.out hnc ⟨by omega, by omega⟩ ds u5 e5 g5'.out).mono ?_
  rintro e w10 ⟨v6, rfl, ho, hb⟩
  obtain ⟨q3, d3, rfl, hR3, -, -⟩ := own_Rdd (l := ds) k5.out.2.2.1 ho rfl
  have hL10 : Hid (DecLive w a L p1 p2 p3 q1 q2 q3 xs xs (ys.map bs) (ys.map bs) ds ds w10) := Lib.hid { hL9.out.later hb with digs' := hR3 }
  clear ho hb hR3 hL9
  go_wp2_with fail
  refine (sanity_any _).mono ?_
  rintro e w11 ⟨rfl, hb⟩
  have hL11 := Lib.hid (hL10.out.later hb)
  clear hb hL10
  go_wp2_with fail
  refine (SameDigests_true _ _ _ _ _ _ ds _ hL11.out.digs hL11.out.digs' rfl rfl (by have := k5.out.2.2.2; have := hn.out; omega)).mono ?_
  rintro e w12 ⟨rfl, hb⟩
  have hL12 := Lib.hid (hL11.out.later hb)
  clear hb hL11
  go_wp2
  go_ret
  exact ⟨rfl, hL12.out.below⟩

theorem decode_any (a : Option Addr) (n cap : Nat) (L : List UInt8) (w : World) (hR : Rd w a L) (hn : n = L.length) (hnc : n ≤ cap) (hcap : cap ≤ 9223372036854775807) :
    Calls Try.prog 4 #[.slice a n cap] w (TruePost w) := by
  by_cases h : 2000 < (n : Int)
  · exact decode_long a n cap w h
  · exact decode_short a n cap L w hR hn hnc hcap (by omega)

end Go.Proofs.Ytfodockdhecbpaa
