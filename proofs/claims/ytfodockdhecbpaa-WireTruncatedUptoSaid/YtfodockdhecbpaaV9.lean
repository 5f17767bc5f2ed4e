/- The walk of WireTruncated. -/
import Derived.Test.YtfodockdhecbpaaA1
namespace Go.Proofs.Ytfodockdhecbpaa
open Go.RowKit

/-- what the walk still needs: the arguments and the five encodings -/
structure TrLive (w : World) (a1 a2 a3 : Option Addr) (l : List Int) (x : List ByteArray) (d : List (List UInt8)) (p1 p2 p3 p4 p5 : Option Addr) (e1 e2 e3 e4 e5 : List UInt8) (W : World) : Prop where
  arg : ArgLive w a1 a2 a3 l x d W
  ea : Rd W p1 e1
  eb : Rd W p2 e2
  ec : Rd W p3 e3
  ed : Rd W p4 e4
  ee : Rd W p5 e5
theorem TrLive.later {w : World} {a1 a2 a3 : Option Addr} {l : List Int} {x : List ByteArray} {d : List (List UInt8)} {p1 p2 p3 p4 p5 : Option Addr} {e1 e2 e3 e4 e5 : List UInt8} {W W' : World} (h : TrLive w a1 a2 a3 l x d p1 p2 p3 p4 p5 e1 e2 e3 e4 e5 W) (hb : Below W.heap.size W W') : TrLive w a1 a2 a3 l x d p1 p2 p3 p4 p5 e1 e2 e3 e4 e5 W' :=
  ⟨h.arg.later hb, Rd_below hb h.ea, Rd_below hb h.eb, Rd_below hb h.ec, Rd_below hb h.ed, Rd_below hb h.ee⟩

set_option maxRecDepth 100000 in
set_option maxHeartbeats 6400000 in
theorem tr_short (n : Int) (s : ByteArray) (a1 a2 a3 : Option Addr) (n1 n2 n3 c1 c2 c3 : Nat) (l : List Int) (x : List ByteArray) (d : List (List UInt8)) (w : World) (h1 : -9223372036854775808 ≤ n) (h2 : n ≤ 9223372036854775807) (hw : Hid (i64s l)) (h16 : Hid (∀ y ∈ d, y.length = 16)) (hR1 : Rdi w a1 l) (hR2 : Rds w a2 x) (hR3 : Rdd w a3 d) (hn1 : Hid (n1 = l.length)) (hn2 : Hid (n2 = x.length)) (hn3 : Hid (n3 = d.length)) (hs : s.size ≤ 1048576) (hb1 : n1 ≤ 1048576) (hb3 : n3 ≤ 1048576) (hsum : sums x + n2 ≤ 1048576) (hxs : Hid (∀ s ∈ x, s.size ≤ 9223372036854775807))
    (hlen : (s.size : Int) + 9 * (n1 : Int) + 16 * (n3 : Int) ≤ 400) (hx : (n2 : Int) ≤ 40) (hfew : Hid (decide (((sums x + n2 : Nat) : Int) ≤ 2000) = true)) (hm1 : (encIs l).length ≤ 500) (hm2 : (encSs x).length ≤ 46116) (hm3 : (encDs d).length ≤ 500) (hm0 : (enc n).length ≤ 9) (hmS : (encS s).length ≤ 500) :
    Calls Try.prog 9 #[.int .i64 n, .string s, .slice a1 n1 c1, .slice a2 n2 c2, .slice a3 n3 c3] w (TruePost w) := by
  have hL0 : Hid (TrLive w a1 a2 a3 l x d none none none none none [] [] [] [] [] w) := Lib.hid ⟨⟨Below.refl _ _, hR1, hR2, hR3⟩, .inl rfl, .inl rfl, .inl rfl, .inl rfl, .inl rfl⟩
  clear hR1 hR2 hR3
  go_enter Try.func9, Try.ntmps9
  go_wp2_with fail
  refine (few_any _ _ _ x _ hL0.out.arg.strs hn2 (by omega) true hfew).mono ?_
  rintro e w' ⟨rfl, rfl⟩
  go_wp2_with fail
  refine (Int_any n _ h1 h2).mono ?_
  intro e w1 hp
  obtain ⟨p1, b1, rfl, hRp, hc1, hq1, hb⟩ := enc_Rd hp
  have hL1 : Hid (TrLive w a1 a2 a3 l x d p1 none none none none (enc n) [] [] [] [] w1) := Lib.hid { hL0.out.later hb with ea := hRp }
  clear hp hb hRp hL0
  go_wp2_with fail
  refine (encS_any s _ (by omega)).mono ?_
  intro e w2 hp
  obtain ⟨p2, b2, rfl, hRp, hc2, hq2, hb⟩ := enc_Rd hp
  have hL2 : Hid (TrLive w a1 a2 a3 l x d p1 p2 none none none (enc n) (encS s) [] [] [] w2) := Lib.hid { hL1.out.later hb with eb := hRp }
  clear hp hb hRp hL1
  go_wp2_with fail
  refine (Ints_any _ _ _ l _ hL2.out.arg.ints hn1.out (by omega) hw.out (by omega)).mono ?_
  intro e w3 hp
  obtain ⟨p3, b3, rfl, hRp, hc3, hq3, hb⟩ := enc_Rd hp
  have hL3 : Hid (TrLive w a1 a2 a3 l x d p1 p2 p3 none none (enc n) (encS s) (encIs l) [] [] w3) := Lib.hid { hL2.out.later hb with ec := hRp }
  clear hp hb hRp hL2
  go_wp2_with fail
  refine (Strings_any _ _ _ x _ hL3.out.arg.strs hn2.out (by omega) (by omega)).mono ?_
  intro e w4 hp
  obtain ⟨p4, b4, rfl, hRp, hc4, hq4, hb⟩ := enc_Rd hp
  have hL4 : Hid (TrLive w a1 a2 a3 l x d p1 p2 p3 p4 none (enc n) (encS s) (encIs l) (encSs x) [] w4) := Lib.hid { hL3.out.later hb with ed := hRp }
  clear hp hb hRp hL3
  go_wp2_with fail
  refine (Digests_any _ _ _ d _ hL4.out.arg.digs hn3.out (by omega) (by omega)).mono ?_
  intro e w5 hp
  obtain ⟨p5, b5, rfl, hRp, hc5, hq5, hb⟩ := enc_Rd hp
  have hL5 : Hid (TrLive w a1 a2 a3 l x d p1 p2 p3 p4 p5 (enc n) (encS s) (encIs l) (encSs x) (encDs d) w5) := Lib.hid { hL4.out.later hb with ee := hRp }
  clear hp hb hRp hL4
  go_wp2_with fail
  have hl1 : (enc n).length ≤ 9 := hm0
  have y1 : ((enc n).length : Int) ≤ 500 := by omega
  have y2 : ((encS s).length : Int) ≤ 500 := by omega
  have y3 : ((encIs l).length : Int) ≤ 500 := by omega
  have y5 : ((encDs d).length : Int) ≤ 500 := by omega
  obtain ⟨wb, hwb⟩ : ∃ wb : World, wb = w5.alloc (.cells #[.slice p1 (enc n).length b1, .slice p2 (encS s).length b2, .slice p3 (encIs l).length b3, .slice p4 (encSs x).length b4, .slice p5 (encDs d).length b5] 28) := ⟨_, rfl⟩
  have hblk : Hid (wb.heap[w5.heap.size]? = some (.cells #[.slice p1 (enc n).length b1, .slice p2 (encS s).length b2, .slice p3 (encIs l).length b3, .slice p4 (encSs x).length b4, .slice p5 (encDs d).length b5] 28 (0, 0))) := Lib.hid (by rw [hwb]; exact heap_alloc_new _ _)
  have hL6 := Lib.hid (hL5.out.later (show Below w5.heap.size w5 wb by rw [hwb]; exact (Below.refl _ _).alloc (Nat.le_refl _) _))
  rw [← hwb]
  clear hwb hL5
  go_loopw [49] (fun i wr => ∃ k : Nat, k ≤ 5 ∧ i = .int .i64 k ∧ Below wb.heap.size wb wr) (fun i _ => 5 - (intOf i).toNat)
  case atStart => exact ⟨0, by omega, rfl, Below.refl _ _⟩
  case round =>
    obtain ⟨k, hk, rfl, hb⟩ := hrel
    have hLr := Lib.hid (hL6.out.later hb)
    have hbr := Lib.hid hb
    have hblk' : Hid (wr.heap[w5.heap.size]? = some (.cells #[.slice p1 (enc n).length b1, .slice p2 (encS s).length b2, .slice p3 (encIs l).length b3, .slice p4 (encSs x).length b4, .slice p5 (encDs d).length b5] 28 (0, 0))) := Lib.hid ((hb.block _ (lt_of_block hblk.out)).trans hblk.out)
    obtain rfl | rfl | rfl | rfl | rfl | rfl : k = 0 ∨ k = 1 ∨ k = 2 ∨ k = 3 ∨ k = 4 ∨ k = 5 := by omega
    · have hcell := cells_at (i := 0) hblk'.out rfl
      rw [show ((0 : Nat) : Int) = 0 from rfl]
      clear hblk hb
      go_wp2
      obtain ⟨wo, rfl⟩ : ∃ wo : World, wo = wr := ⟨_, rfl⟩
      go_loopw [57] (fun i w2 => ∃ j : Nat, j ≤ (enc n).length ∧ i = .int .i64 j ∧ Below wo.heap.size wo w2) (fun i _ => (enc n).length - (intOf i).toNat)
      case atStart => exact ⟨0, Nat.zero_le _, rfl, Below.refl _ _⟩
      case round =>
        obtain ⟨j, hj, rfl, hb2⟩ := hrel
        have hb2' := Lib.hid hb2
        by_cases hlt : j < (enc n).length
        · have hlt' : j < (enc n).length := by omega
          have hT : Hid (Rd wr p1 ((enc n).take j)) := Lib.hid (Rd_take (hLr.out.later hb2).ea j)
          have hTl : Hid (j = ((enc n).take j).length) := Lib.hid (by rw [List.length_take]; omega)
          clear hb2
          have hj0 : 0 ≤ (j : Int) := by omega
          have hj1 : (j : Int) < ((enc n).length : Nat) := by omega
          have hj2 : (j : Int) ≤ (b1 : Int) := by omega
          have hj3 : ¬ b1 = 0 := by omega
          obtain ⟨xx, uu, ee, hgi0⟩ : ∃ xx uu ee, gi ((enc n).take j) = (xx, uu, ee) := ⟨_, _, _, rfl⟩
          have hee : ee = 3 := by 
                rw [gi_pre n j h1 h2 hlt'] at hgi0; simp only [Prod.mk.injEq] at hgi0; exact hgi0.2.2.symm
          subst hee
          have hgi := Lib.hid hgi0
          clear hgi0
          go_wp2_with (go_at_call 24; refine (GetInt_any _ _ _ ((enc n).take j) _ hT.out hTl.out (by omega) hq1 xx uu 3 hgi.out).mono ?_; rintro e w' ⟨rfl, rfl⟩)
          refine ⟨⟨j + 1, by omega, by simp, hb2'.out⟩, by simp [intOf]; omega⟩
        · have hj' : j = (enc n).length := by omega
          subst hj'
          clear hb2
          go_wp2
          refine ⟨⟨1, by omega, by simp, hbr.out.trans (hb2'.out.mono hbr.out.size)⟩, by simp [intOf]⟩
    · have hcell := cells_at (i := 1) hblk'.out rfl
      rw [show ((1 : Nat) : Int) = 1 from rfl]
      clear hblk hb
      go_wp2
      obtain ⟨wo, rfl⟩ : ∃ wo : World, wo = wr := ⟨_, rfl⟩
      go_loopw [57] (fun i w2 => ∃ j : Nat, j ≤ (encS s).length ∧ i = .int .i64 j ∧ Below wo.heap.size wo w2) (fun i _ => (encS s).length - (intOf i).toNat)
      case atStart => exact ⟨0, Nat.zero_le _, rfl, Below.refl _ _⟩
      case round =>
        obtain ⟨j, hj, rfl, hb2⟩ := hrel
        have hb2' := Lib.hid hb2
        by_cases hlt : j < (encS s).length
        · have hlt' : j < (encS s).length := by omega
          have hT : Hid (Rd wr p2 ((encS s).take j)) := Lib.hid (Rd_take (hLr.out.later hb2).eb j)
          have hTl : Hid (j = ((encS s).take j).length) := Lib.hid (by rw [List.length_take]; omega)
          clear hb2
          have hj0 : 0 ≤ (j : Int) := by omega
          have hj1 : (j : Int) < ((encS s).length : Nat) := by omega
          have hj2 : (j : Int) ≤ (b2 : Int) := by omega
          have hj3 : ¬ b2 = 0 := by omega
          obtain ⟨xx, uu, ee, hgi0⟩ : ∃ xx uu ee, gb ((encS s).take j) = (xx, uu, ee) := ⟨_, _, _, rfl⟩
          have hee : ee = 3 := by have := gb_pre s j (by omega) hlt'; rw [hgi0] at this; exact this
          subst hee
          have hgi := Lib.hid hgi0
          clear hgi0
          go_wp2_with (go_at_call 26; refine (GetBytes_any _ _ _ ((encS s).take j) _ hT.out hTl.out (by omega) hq2 xx uu 3 hgi.out).mono ?_; rintro e w' ⟨rfl, rfl⟩)
          refine ⟨⟨j + 1, by omega, by simp, hb2'.out⟩, by simp [intOf]; omega⟩
        · have hj' : j = (encS s).length := by omega
          subst hj'
          clear hb2
          go_wp2
          refine ⟨⟨2, by omega, by simp, hbr.out.trans (hb2'.out.mono hbr.out.size)⟩, by simp [intOf]⟩
    · have hcell := cells_at (i := 2) hblk'.out rfl
      rw [show ((2 : Nat) : Int) = 2 from rfl]
      clear hblk hb
      go_wp2
      obtain ⟨wo, rfl⟩ : ∃ wo : World, wo = wr := ⟨_, rfl⟩
      go_loopw [57] (fun i w2 => ∃ j : Nat, j ≤ (encIs l).length ∧ i = .int .i64 j ∧ Below wo.heap.size wo w2) (fun i _ => (encIs l).length - (intOf i).toNat)
      case atStart => exact ⟨0, Nat.zero_le _, rfl, Below.refl _ _⟩
      case round =>
        obtain ⟨j, hj, rfl, hb2⟩ := hrel
        have hb2' := Lib.hid hb2
        by_cases hlt : j < (encIs l).length
        · have hlt' : j < (encIs l).length := by omega
          have hT : Hid (Rd wr p3 ((encIs l).take j)) := Lib.hid (Rd_take (hLr.out.later hb2).ec j)
          have hTl : Hid (j = ((encIs l).take j).length) := Lib.hid (by rw [List.length_take]; omega)
          clear hb2
          have hj0 : 0 ≤ (j : Int) := by omega
          have hj1 : (j : Int) < ((encIs l).length : Nat) := by omega
          have hj2 : (j : Int) ≤ (b3 : Int) := by omega
          have hj3 : ¬ b3 = 0 := by omega
          obtain ⟨xx, uu, ee, hgi0⟩ : ∃ xx uu ee, dls 1 gi ((encIs l).take j) = (xx, uu, ee) := ⟨_, _, _, rfl⟩
          have hee : ee = 3 := by have := ints_pre l hw.out j (by have := hn1.out; omega) hlt'; rw [hgi0] at this; exact this
          subst hee
          have hgi := Lib.hid hgi0
          clear hgi0
          go_wp2_with (go_at_call 28; refine (GetInts_any _ _ _ ((encIs l).take j) _ hT.out hTl.out (by omega) ⟨hq3, by omega⟩ (by omega) xx uu 3 hgi.out).mono ?_; rintro e w' ⟨vv, rfl, _, hb3⟩; have hb4 := Lib.hid hb3; clear hb3)
          refine ⟨⟨j + 1, by omega, by simp, hb2'.out.trans (hb4.out.mono hb2'.out.size)⟩, by simp [intOf]; omega⟩
        · have hj' : j = (encIs l).length := by omega
          subst hj'
          clear hb2
          go_wp2
          refine ⟨⟨3, by omega, by simp, hbr.out.trans (hb2'.out.mono hbr.out.size)⟩, by simp [intOf]⟩
    · by_cases y4 : ((encSs x).length : Int) ≤ 500
      · have hcell := cells_at (i := 3) hblk'.out rfl
        rw [show ((3 : Nat) : Int) = 3 from rfl]
        clear hblk hb
        go_wp2
        obtain ⟨wo, rfl⟩ : ∃ wo : World, wo = wr := ⟨_, rfl⟩
        go_loopw [57] (fun i w2 => ∃ j : Nat, j ≤ (encSs x).length ∧ i = .int .i64 j ∧ Below wo.heap.size wo w2) (fun i _ => (encSs x).length - (intOf i).toNat)
        case atStart => exact ⟨0, Nat.zero_le _, rfl, Below.refl _ _⟩
        case round =>
          obtain ⟨j, hj, rfl, hb2⟩ := hrel
          have hb2' := Lib.hid hb2
          by_cases hlt : j < (encSs x).length
          · have hlt' : j < (encSs x).length := by omega
            have hT : Hid (Rd wr p4 ((encSs x).take j)) := Lib.hid (Rd_take (hLr.out.later hb2).ed j)
            have hTl : Hid (j = ((encSs x).take j).length) := Lib.hid (by rw [List.length_take]; omega)
            clear hb2
            have hj0 : 0 ≤ (j : Int) := by omega
            have hj1 : (j : Int) < ((encSs x).length : Nat) := by omega
            have hj2 : (j : Int) ≤ (b4 : Int) := by omega
            have hj3 : ¬ b4 = 0 := by omega
            obtain ⟨xx, uu, ee, hgi0⟩ : ∃ xx uu ee, dls 1 gb ((encSs x).take j) = (xx, uu, ee) := ⟨_, _, _, rfl⟩
            have hee : ee = 3 := by have := strs_pre x hxs.out j (by have := hn2.out; omega) hlt'; rw [hgi0] at this; exact this
            subst hee
            have hgi := Lib.hid hgi0
            clear hgi0
            go_wp2_with (go_at_call 31; refine (GetStrings_any _ _ _ ((encSs x).take j) _ hT.out hTl.out (by omega) ⟨hq4, by omega⟩ (by omega) xx uu 3 hgi.out).mono ?_; rintro e w' ⟨vv, rfl, _, hb3⟩; have hb4 := Lib.hid hb3; clear hb3)
            refine ⟨⟨j + 1, by omega, by simp, hb2'.out.trans (hb4.out.mono hb2'.out.size)⟩, by simp [intOf]; omega⟩
          · have hj' : j = (encSs x).length := by omega
            subst hj'
            clear hb2
            go_wp2
            refine ⟨⟨4, by omega, by simp, hbr.out.trans (hb2'.out.mono hbr.out.size)⟩, by simp [intOf]⟩
      · have y4b : 500 < ((encSs x).length : Int) := by omega
        have hcell := cells_at (i := 3) hblk'.out rfl
        rw [show ((3 : Nat) : Int) = 3 from rfl]
        clear hblk hb
        go_wp2
        obtain ⟨wo, rfl⟩ : ∃ wo : World, wo = wr := ⟨_, rfl⟩
        go_loopw [57] (fun i w2 => ∃ j : Nat, j ≤ 500 ∧ i = .int .i64 j ∧ Below wo.heap.size wo w2) (fun i _ => 500 - (intOf i).toNat)
        case atStart => exact ⟨0, Nat.zero_le _, rfl, Below.refl _ _⟩
        case round =>
          obtain ⟨j, hj, rfl, hb2⟩ := hrel
          have hb2' := Lib.hid hb2
          by_cases hlt : j < 500
          · have hlt' : j < (encSs x).length := by omega
            have hT : Hid (Rd wr p4 ((encSs x).take j)) := Lib.hid (Rd_take (hLr.out.later hb2).ed j)
            have hTl : Hid (j = ((encSs x).take j).length) := Lib.hid (by rw [List.length_take]; omega)
            clear hb2
            have hj0 : 0 ≤ (j : Int) := by omega
            have hj1 : (j : Int) < (500 : Nat) := by omega
            have hj2 : (j : Int) ≤ (b4 : Int) := by omega
            have hj3 : ¬ b4 = 0 := by omega
            obtain ⟨xx, uu, ee, hgi0⟩ : ∃ xx uu ee, dls 1 gb ((encSs x).take j) = (xx, uu, ee) := ⟨_, _, _, rfl⟩
            have hee : ee = 3 := by have := strs_pre x hxs.out j (by have := hn2.out; omega) hlt'; rw [hgi0] at this; exact this
            subst hee
            have hgi := Lib.hid hgi0
            clear hgi0
            go_wp2_with (go_at_call 31; refine (GetStrings_any _ _ _ ((encSs x).take j) _ hT.out hTl.out (by omega) ⟨hq4, by omega⟩ (by omega) xx uu 3 hgi.out).mono ?_; rintro e w' ⟨vv, rfl, _, hb3⟩; have hb4 := Lib.hid hb3; clear hb3)
            refine ⟨⟨j + 1, by omega, by simp, hb2'.out.trans (hb4.out.mono hb2'.out.size)⟩, by simp [intOf]; omega⟩
          · have hj' : j = 500 := by omega
            subst hj'
            clear hb2
            go_wp2
            refine ⟨⟨4, by omega, by simp, hbr.out.trans (hb2'.out.mono hbr.out.size)⟩, by simp [intOf]⟩
    · have hcell := cells_at (i := 4) hblk'.out rfl
      rw [show ((4 : Nat) : Int) = 4 from rfl]
      clear hblk hb
      go_wp2
      obtain ⟨wo, rfl⟩ : ∃ wo : World, wo = wr := ⟨_, rfl⟩
      go_loopw [57] (fun i w2 => ∃ j : Nat, j ≤ (encDs d).length ∧ i = .int .i64 j ∧ Below wo.heap.size wo w2) (fun i _ => (encDs d).length - (intOf i).toNat)
      case atStart => exact ⟨0, Nat.zero_le _, rfl, Below.refl _ _⟩
      case round =>
        obtain ⟨j, hj, rfl, hb2⟩ := hrel
        have hb2' := Lib.hid hb2
        by_cases hlt : j < (encDs d).length
        · have hlt' : j < (encDs d).length := by omega
          have hT : Hid (Rd wr p5 ((encDs d).take j)) := Lib.hid (Rd_take (hLr.out.later hb2).ee j)
          have hTl : Hid (j = ((encDs d).take j).length) := Lib.hid (by rw [List.length_take]; omega)
          clear hb2
          have hj0 : 0 ≤ (j : Int) := by omega
          have hj1 : (j : Int) < ((encDs d).length : Nat) := by omega
          have hj2 : (j : Int) ≤ (b5 : Int) := by omega
          have hj3 : ¬ b5 = 0 := by omega
          obtain ⟨xx, uu, ee, hgi0⟩ : ∃ xx uu ee, dds ((encDs d).take j) = (xx, uu, ee) := ⟨_, _, _, rfl⟩
          have hee : ee = 3 := by have := digests_pre d h16.out j (by have := hn3.out; omega) hlt'; rw [hgi0] at this; exact this
          subst hee
          have hgi := Lib.hid hgi0
          clear hgi0
          go_wp2_with (go_at_call 34; refine (GetDigests_any _ _ _ ((encDs d).take j) _ hT.out hTl.out (by omega) ⟨hq5, by omega⟩ (by omega) xx uu 3 hgi.out).mono ?_; rintro e w' ⟨vv, rfl, _, hb3⟩; have hb4 := Lib.hid hb3; clear hb3)
          refine ⟨⟨j + 1, by omega, by simp, hb2'.out.trans (hb4.out.mono hb2'.out.size)⟩, by simp [intOf]; omega⟩
        · have hj' : j = (encDs d).length := by omega
          subst hj'
          clear hb2
          go_wp2
          refine ⟨⟨5, by omega, by simp, hbr.out.trans (hb2'.out.mono hbr.out.size)⟩, by simp [intOf]⟩
    · clear hblk hb
      go_wp2_with (go_at_call 12; refine (sanity_any _).mono ?_; rintro e w' ⟨rfl, hb⟩; have hS := Lib.hid (hLr.out.later hb); clear hb)
      go_ret
      exact ⟨rfl, hS.out.arg.below⟩

end Go.Proofs.Ytfodockdhecbpaa
