/- The walk of WireListRoundTrip. -/
import Derived.Test.YtfodockdhecbpaaA1
import Derived.Test.YtfodockdhecbpaaV6
namespace Go.Proofs.Ytfodockdhecbpaa
open Go.RowKit

/-- what the walk still needs: the arguments, the encodings, the decoded lists -/
structure RtLive (w : World) (a1 a2 a3 a4 : Option Addr) (l : List Int) (x : List ByteArray) (d : List (List UInt8)) (tl : List UInt8) (pA pB pC pO p1 p2 p3 : Option Addr) (eA eB eC eO : List UInt8) (xs : List Int) (ys : List ByteArray) (ds : List (List UInt8)) (W : World) : Prop where
  below : Below w.heap.size w W
  ints : Rdi W a1 l
  strs : Rds W a2 x
  digs : Rdd W a3 d
  tail : Rd W a4 tl
  ea : Rd W pA eA
  eb : Rd W pB eB
  ec : Rd W pC eC
  eo : Rd W pO eO
  ints' : Rdi W p1 xs
  strs' : Rds W p2 ys
  digs' : Rdd W p3 ds
theorem RtLive.later {w : World} {a1 a2 a3 a4 : Option Addr} {l : List Int} {x : List ByteArray} {d : List (List UInt8)} {tl : List UInt8} {pA pB pC pO p1 p2 p3 : Option Addr} {eA eB eC eO : List UInt8} {xs : List Int} {ys : List ByteArray} {ds : List (List UInt8)} {W W' : World} (h : RtLive w a1 a2 a3 a4 l x d tl pA pB pC pO p1 p2 p3 eA eB eC eO xs ys ds W) (hb : Below W.heap.size W W') : RtLive w a1 a2 a3 a4 l x d tl pA pB pC pO p1 p2 p3 eA eB eC eO xs ys ds W' :=
  ⟨h.below.trans (hb.mono h.below.size), Rdi_below hb h.ints, Rds_below hb h.strs, Rdd_below hb h.digs, Rd_below hb h.tail, Rd_below hb h.ea, Rd_below hb h.eb, Rd_below hb h.ec, Rd_below hb h.eo, Rdi_below hb h.ints', Rds_below hb h.strs', Rdd_below hb h.digs'⟩

set_option maxRecDepth 100000 in
set_option maxHeartbeats 6400000 in
theorem rt_long (s : ByteArray) (a1 a2 a3 a4 : Option Addr) (n1 n2 n3 n4 c1 c2 c3 c4 : Nat) (w : World) (hs : s.size ≤ 1048576) (hb1 : n1 ≤ 1048576) (hb3 : n3 ≤ 1048576) (hb4 : n4 ≤ 1048576) (hlen : 2000 < (s.size : Int) + (n1 : Int) + (n3 : Int) + (n4 : Int)) :
    Calls Try.prog 8 #[.string s, .slice a1 n1 c1, .slice a2 n2 c2, .slice a3 n3 c3, .slice a4 n4 c4] w (TruePost w) := by
  go_enter Try.func8, Try.ntmps8
  go_wp2_with (go_at_call 12; refine (sanity_any _).mono ?_; rintro e w' ⟨rfl, hb⟩)
  go_ret
  exact ⟨rfl, hb⟩

set_option maxRecDepth 100000 in
set_option maxHeartbeats 6400000 in
theorem rt_many (s : ByteArray) (a1 a2 a3 a4 : Option Addr) (n1 n2 n3 n4 c1 c2 c3 c4 : Nat) (x : List ByteArray) (w : World) (hR2 : Rds w a2 x) (hn2 : Hid (n2 = x.length)) (hs : s.size ≤ 1048576) (hb1 : n1 ≤ 1048576) (hb3 : n3 ≤ 1048576) (hb4 : n4 ≤ 1048576) (hsum : sums x + n2 ≤ 1048576) (hlen : (s.size : Int) + (n1 : Int) + (n3 : Int) + (n4 : Int) ≤ 2000) (hfew : Hid (decide (((sums x + n2 : Nat) : Int) ≤ 2000) = false)) :
    Calls Try.prog 8 #[.string s, .slice a1 n1 c1, .slice a2 n2 c2, .slice a3 n3 c3, .slice a4 n4 c4] w (TruePost w) := by
  have hR2' := Lib.hid hR2
  clear hR2
  go_enter Try.func8, Try.ntmps8
  go_wp2_with (first | (go_at_call 11; refine (few_any _ _ _ x _ hR2'.out hn2 (by omega) false hfew).mono ?_; rintro e w' ⟨rfl, rfl⟩) | (go_at_call 12; refine (sanity_any _).mono ?_; rintro e w' ⟨rfl, hb⟩))
  go_ret
  exact ⟨rfl, hb⟩

set_option maxRecDepth 100000 in
set_option maxHeartbeats 6400000 in
theorem rt_short (s : ByteArray) (a1 a2 a3 a4 : Option Addr) (n1 n2 n3 n4 c1 c2 c3 c4 : Nat) (l : List Int) (x : List ByteArray) (d : List (List UInt8)) (tl : List UInt8) (w : World) (hw : Hid (i64s l)) (h16 : Hid (∀ y ∈ d, y.length = 16)) (hR1 : Rdi w a1 l) (hR2 : Rds w a2 x) (hR3 : Rdd w a3 d) (hR4 : Rd w a4 tl) (hn1 : Hid (n1 = l.length)) (hn2 : Hid (n2 = x.length)) (hn3 : Hid (n3 = d.length)) (hn4 : Hid (n4 = tl.length)) (hs : s.size ≤ 1048576) (hb1 : n1 ≤ 1048576) (hb3 : n3 ≤ 1048576) (hb4 : n4 ≤ 1048576) (hsum : sums x + n2 ≤ 1048576) (hlen : (s.size : Int) + (n1 : Int) + (n3 : Int) + (n4 : Int) ≤ 2000) (hfew : Hid (decide (((sums x + n2 : Nat) : Int) ≤ 2000) = true)) (kA kB kC kO : Nat) (hkA : Hid ((encS s).length = kA)) (hkB : Hid ((encIs l).length = kB)) (hkC : Hid ((encDs d).length = kC)) (hkO : Hid ((encSs x).length = kO))
    (g1 : Hid (gb (encS s ++ tl) = (sl s, kA, 0))) (g2 : Hid (dls 1 gi (encIs l ++ tl) = (l, kB, 0))) (g3 : Hid (dds (encDs d ++ tl) = (d, kC, 0))) (g4 : Hid (dls 1 gb (encSs x ++ tl) = (x.map sl, kO, 0)))
    (bA : kA ≤ 40000) (bB : kB ≤ 40000) (bC : kC ≤ 40000) (bO : kO ≤ 40000) (b2 : n2 ≤ 2000) :
    Calls Try.prog 8 #[.string s, .slice a1 n1 c1, .slice a2 n2 c2, .slice a3 n3 c3, .slice a4 n4 c4] w (TruePost w) := by
  have hL0 : Hid (RtLive w a1 a2 a3 a4 l x d tl none none none none none none none [] [] [] [] [] [] [] w) := Lib.hid ⟨Below.refl _ _, hR1, hR2, hR3, hR4, .inl rfl, .inl rfl, .inl rfl, .inl rfl, .inl rfl, .inl rfl, ⟨fun i hi => by simp at hi, .inl rfl⟩⟩
  have iA : (kA : Int) ≤ 40000 := by omega
  have iB : (kB : Int) ≤ 40000 := by omega
  have iC : (kC : Int) ≤ 40000 := by omega
  have iO : (kO : Int) ≤ 40000 := by omega
  have jA : Hid (1 ≤ kA) := Lib.hid (by rw [← hkA.out]; exact encS_pos s)
  have jB : Hid (1 ≤ kB) := Lib.hid (by rw [← hkB.out]; unfold encIs; rw [List.length_append]; have := enc_pos (l.length : Int); omega)
  have jC : Hid (1 ≤ kC) := Lib.hid (by rw [← hkC.out]; unfold encDs; rw [List.length_append]; have := enc_pos (d.length : Int); omega)
  have jO : Hid (1 ≤ kO) := Lib.hid (by rw [← hkO.out]; unfold encSs; rw [List.length_append]; have := enc_pos (x.length : Int); omega)
  clear hR1 hR2 hR3 hR4
  go_enter Try.func8, Try.ntmps8
  go_wp2_with fail
  refine (few_any _ _ _ x _ hL0.out.strs hn2 (by omega) true hfew).mono ?_
  rintro e w' ⟨rfl, rfl⟩
  go_wp2_with fail
  refine (encS_any s _ (by omega)).mono ?_
  intro e w1 hp
  obtain ⟨pA, cA, rfl, hRp, hcA, hmA, hb⟩ := enc_Rd hp
  have hL1 : Hid (RtLive w a1 a2 a3 a4 l x d tl pA none none none none none none (encS s) [] [] [] [] [] [] w1) := Lib.hid { hL0.out.later hb with ea := hRp }
  rw [hkA.out] at hcA ⊢
  have iA' : (kA : Int) ≤ (cA : Int) := by omega
  clear hp hb hRp hL0
  go_wp2_with fail
  refine (Ints_any _ _ _ l _ hL1.out.ints hn1.out (by omega) hw.out (by rw [hkB.out]; omega)).mono ?_
  intro e w2 hp
  obtain ⟨pB, cB, rfl, hRp, hcB, hmB, hb⟩ := enc_Rd hp
  have hL2 : Hid (RtLive w a1 a2 a3 a4 l x d tl pA pB none none none none none (encS s) (encIs l) [] [] [] [] [] w2) := Lib.hid { hL1.out.later hb with eb := hRp }
  rw [hkB.out] at hcB ⊢
  have iB' : (kB : Int) ≤ (cB : Int) := by omega
  clear hp hb hRp hL1
  go_wp2_with fail
  refine (Digests_any _ _ _ d _ hL2.out.digs hn3.out (by omega) (by rw [hkC.out]; omega)).mono ?_
  intro e w3 hp
  obtain ⟨pC, cC, rfl, hRp, hcC, hmC, hb⟩ := enc_Rd hp
  have hL3 : Hid (RtLive w a1 a2 a3 a4 l x d tl pA pB pC none none none none (encS s) (encIs l) (encDs d) [] [] [] [] w3) := Lib.hid { hL2.out.later hb with ec := hRp }
  rw [hkC.out] at hcC ⊢
  have iC' : (kC : Int) ≤ (cC : Int) := by omega
  clear hp hb hRp hL2
  go_wp2_with fail
  refine (Strings_any _ _ _ x _ hL3.out.strs hn2.out (by omega) (by rw [hkO.out]; omega)).mono ?_
  intro e w4 hp
  obtain ⟨pO, cO, rfl, hRp, hcO, hmO, hb⟩ := enc_Rd hp
  have hL4 : Hid (RtLive w a1 a2 a3 a4 l x d tl pA pB pC pO none none none (encS s) (encIs l) (encDs d) (encSs x) [] [] [] w4) := Lib.hid { hL3.out.later hb with eo := hRp }
  rw [hkO.out] at hcO ⊢
  have iO' : (kO : Int) ≤ (cO : Int) := by omega
  clear hp hb hRp hL3
  have jA' := jA.out
  go_wp2_with (at_builtin; refine wpList_append_tail rfl _ _ rfl _ _ _ _ _ (encS s) tl rfl rfl hL4.out.ea hL4.out.tail hkA.out.symm hn4.out (by omega) ?_; rintro v' wt ⟨pt, ct, rfl, hRt0, hct0, hmt, hbt⟩; have hct := Lib.hid hct0; have hRt := Lib.hid hRt0; have hL5 := Lib.hid (hL4.out.later hbt); clear hRt0 hbt hct0)
  refine (GetBytes_any _ _ _ (encS s ++ tl) _ hRt.out (by simp) (by have := hct.out; simpa using this) hmt (sl s) kA 0 g1.out).mono ?_
  rw [bs_sl]
  rintro e w' ⟨rfl, rfl⟩
  clear hct hRt hmt hL4 jA'
  have jB' := jB.out
  go_wp2_with (at_builtin; refine wpList_append_tail rfl _ _ rfl _ _ _ _ _ (encIs l) tl rfl rfl hL5.out.eb hL5.out.tail hkB.out.symm hn4.out (by omega) ?_; rintro v' wt ⟨pt, ct, rfl, hRt0, hct0, hmt, hbt⟩; have hct := Lib.hid hct0; have hRt := Lib.hid hRt0; have hL6 := Lib.hid (hL5.out.later hbt); clear hRt0 hbt hct0)
  refine (GetInts_any _ _ _ (encIs l ++ tl) _ hRt.out (by simp) (by have := hct.out; simpa using this) ⟨hmt, by have := hkB.out; have := hn4.out; omega⟩ (by have := hkB.out; have := hn4.out; omega) l kB 0 g2.out).mono ?_
  rintro e w7 ⟨vB, rfl, ho, hb⟩
  obtain ⟨rB, crB, rfl, hRr, -, -, -⟩ := own_Rdi (l := l) ho
  have hL7 : Hid (RtLive w a1 a2 a3 a4 l x d tl pA pB pC pO rB none none (encS s) (encIs l) (encDs d) (encSs x) l [] [] w7) := Lib.hid { hL6.out.later hb with ints' := hRr }
  clear hct hRt hmt hL5 hL6 ho hb hRr jB'
  have jC' := jC.out
  go_wp2_with (at_builtin; refine wpList_append_tail rfl _ _ rfl _ _ _ _ _ (encDs d) tl rfl rfl hL7.out.ec hL7.out.tail hkC.out.symm hn4.out (by omega) ?_; rintro v' wt ⟨pt, ct, rfl, hRt0, hct0, hmt, hbt⟩; have hct := Lib.hid hct0; have hRt := Lib.hid hRt0; have hL8 := Lib.hid (hL7.out.later hbt); clear hRt0 hbt hct0)
  refine (GetDigests_any _ _ _ (encDs d ++ tl) _ hRt.out (by simp) (by have := hct.out; simpa using this) ⟨hmt, by have := hkC.out; have := hn4.out; omega⟩ (by have := hkC.out; have := hn4.out; omega) d kC 0 g3.out).mono ?_
  rintro e w9 ⟨vC, rfl, ho, hb⟩
  obtain ⟨rC, crC, rfl, hRr, -, -⟩ := own_Rdd (l := d) h16.out ho rfl
  have hL9 : Hid (RtLive w a1 a2 a3 a4 l x d tl pA pB pC pO rB none rC (encS s) (encIs l) (encDs d) (encSs x) l [] d w9) := Lib.hid { hL8.out.later hb with digs' := hRr }
  clear hct hRt hmt hL7 hL8 ho hb hRr jC'
  have jO' := jO.out
  go_wp2_with (at_builtin; refine wpList_append_tail rfl _ _ rfl _ _ _ _ _ (encSs x) tl rfl rfl hL9.out.eo hL9.out.tail hkO.out.symm hn4.out (by omega) ?_; rintro v' wt ⟨pt, ct, rfl, hRt0, hct0, hmt, hbt⟩; have hct := Lib.hid hct0; have hRt := Lib.hid hRt0; have hL10 := Lib.hid (hL9.out.later hbt); clear hRt0 hbt hct0)
  refine (GetStrings_any _ _ _ (encSs x ++ tl) _ hRt.out (by simp) (by have := hct.out; simpa using this) ⟨hmt, by have := hkO.out; have := hn4.out; omega⟩ (by have := hkO.out; have := hn4.out; omega) (x.map sl) kO 0 g4.out).mono ?_
  rintro e w11 ⟨vO, rfl, ho, hb⟩
  obtain ⟨rO, crO, rfl, hRr, -, -, -⟩ := own_Rds (l := x.map sl) ho
  have hL11 : Hid (RtLive w a1 a2 a3 a4 l x d tl pA pB pC pO rB rO rC (encS s) (encIs l) (encDs d) (encSs x) l ((x.map sl).map bs) d w11) := Lib.hid { hL10.out.later hb with strs' := hRr }
  clear hct hRt hmt hL9 hL10 ho hb hRr jO'
  go_wp2_with fail
  refine (sanity_any _).mono ?_
  rintro e ws ⟨rfl, hb⟩
  have hS1 := Lib.hid (hL11.out.later hb)
  clear hb hL11
  have hxx : (x.map sl).map bs = x := by rw [List.map_map]; have : (bs ∘ sl) = id := by funext z; exact bs_sl z
                                         rw [this, List.map_id]
  go_wp2_with fail
  refine (SameTexts_true _ _ _ _ _ _ x _ (by have := hS1.out.strs'; rwa [hxx] at this) hS1.out.strs (by simp) hn2.out (by have := hn2.out; have h9 : (x.map sl).length = x.length := List.length_map _; omega)).mono ?_
  rintro e ws2 ⟨rfl, hb⟩
  have hS2 := Lib.hid (hS1.out.later hb)
  clear hb hS1 hxx
  go_wp2_with fail
  refine (SameInts_true _ _ _ _ _ _ l _ hS2.out.ints' hS2.out.ints rfl hn1.out (by have := hn1.out; omega)).mono ?_
  rintro e ws3 ⟨rfl, hb⟩
  have hS3 := Lib.hid (hS2.out.later hb)
  clear hb hS2
  go_wp2_with fail
  refine (SameDigests_true _ _ _ _ _ _ d _ hS3.out.digs' hS3.out.digs rfl hn3.out (by have := hn3.out; omega)).mono ?_
  rintro e ws4 ⟨rfl, hb⟩
  have hS4 := Lib.hid (hS3.out.later hb)
  clear hb hS3
  go_wp2
  go_ret
  exact ⟨rfl, hS4.out.below⟩

theorem sums_mem (x : List ByteArray) : ∀ s ∈ x, s.size ≤ sums x := by
  induction x with
  | nil => intro s hs; cases hs
  | cons y r ih =>
    intro s hs
    have e : sums (y :: r) = y.size + sums r := by simp [sums]
    rw [e]
    cases hs with
    | head => omega
    | tail _ h => have := ih s h; omega

theorem rt_any (s : ByteArray) (a1 a2 a3 a4 : Option Addr) (n1 n2 n3 n4 c1 c2 c3 c4 : Nat) (l : List Int) (x : List ByteArray) (d : List (List UInt8)) (tl : List UInt8) (w : World) (hw : Hid (i64s l)) (h16 : Hid (∀ y ∈ d, y.length = 16)) (hR1 : Rdi w a1 l) (hR2 : Rds w a2 x) (hR3 : Rdd w a3 d) (hR4 : Rd w a4 tl) (hn1 : Hid (n1 = l.length)) (hn2 : Hid (n2 = x.length)) (hn3 : Hid (n3 = d.length)) (hn4 : Hid (n4 = tl.length)) (hs : s.size ≤ 1048576) (hb1 : n1 ≤ 1048576) (hb3 : n3 ≤ 1048576) (hb4 : n4 ≤ 1048576) (hsum : sums x + n2 ≤ 1048576) :
    Calls Try.prog 8 #[.string s, .slice a1 n1 c1, .slice a2 n2 c2, .slice a3 n3 c3, .slice a4 n4 c4] w (TruePost w) := by
  by_cases hA : 2000 < (s.size : Int) + (n1 : Int) + (n3 : Int) + (n4 : Int)
  · exact rt_long s a1 a2 a3 a4 n1 n2 n3 n4 c1 c2 c3 c4 w hs hb1 hb3 hb4 hA
  by_cases hB : ((sums x + n2 : Nat) : Int) ≤ 2000
  · have e1 := encIs_le l
    have e2 := encSs_le x
    have e3 := encS_le s
    have e7 := encDs_le d h16.out
    have e4 := hn1.out
    have e5 := hn2.out
    have e6 := hn3.out
    exact rt_short s a1 a2 a3 a4 n1 n2 n3 n4 c1 c2 c3 c4 l x d tl w hw h16 hR1 hR2 hR3 hR4 hn1 hn2 hn3 hn4 hs hb1 hb3 hb4 hsum (by omega) (by show _ = true; simpa using hB) _ _ _ _ rfl rfl rfl rfl
      (gb_enc s tl (by omega)) (ints_enc l hw.out tl (by omega)) (digests_enc d h16.out tl (by omega)) (strs_enc x (fun y hy => by have := sums_mem x y hy; omega) tl (by omega)) (by omega) (by omega) (by omega) (by omega) (by omega)
  · exact rt_many s a1 a2 a3 a4 n1 n2 n3 n4 c1 c2 c3 c4 x w hR2 hn2 hs hb1 hb3 hb4 hsum (by omega) (by show _ = false; simpa using hB)

end Go.Proofs.Ytfodockdhecbpaa
