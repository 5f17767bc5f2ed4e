/- The walk of WireConcat. -/
import Derived.Test.YtfodockdhecbpaaW23
import Derived.Test.YtfodockdhecbpaaMath
namespace Go.Proofs.Ytfodockdhecbpaa
open Go.RowKit

set_option maxRecDepth 100000 in
set_option maxHeartbeats 800000 in
theorem concat_long (s : ByteArray) (a : Option Addr) (len cap : Nat) (w : World) (h1 : s.size ≤ 140737488355328) (h2 : len ≤ 140737488355328) (hlen : 2000 < (s.size : Int) + (len : Int)) :
    Calls Try.prog 10 #[.string s, .slice a len cap] w (TruePost w) := by
  go_enter Try.func10, Try.ntmps10
  go_wp2_with (go_at_call 12; refine (sanity_any _).mono ?_; rintro e w' ⟨rfl, hb⟩)
  go_ret
  exact ⟨rfl, hb⟩

theorem encIs_le (l : List Int) : (encIs l).length ≤ 9 + 9 * l.length := by
  unfold encIs
  rw [List.length_append]
  have h1 := enc_le (l.length : Int)
  have h2 : (l.flatMap enc).length ≤ 9 * l.length := by
    induction l with
    | nil => simp
    | cons x l ih =>
      have := enc_le x
      have := ih (enc_le _)
      rw [List.flatMap_cons, List.length_append, List.length_cons]
      omega
  omega

theorem Rdi_below' {w wr : World} {a : Option Addr} {l : List Int} (h : Below w.heap.size w wr) (hR : Rdi w a l) : Rdi wr a l := Rdi_below h hR

/-- an owned row, and what has been made since -/
def Grow (w : World) (v : Value) (l : List UInt8) (wr : World) : Prop := wr.ownsRow w.heap.size 5 1 v l.length (bvs l) ∧ Below w.heap.size w wr
theorem Grow.later {w wr w' : World} {v : Value} {l : List UInt8} (h : Grow w v l wr) (hb : Below wr.heap.size wr w') : Grow w v l w' :=
  ⟨h.1.kept (below_grown hb none) (by cases v.ownBlock <;> simp), h.2.trans (hb.mono h.2.size)⟩
theorem Grow.append {w wr w' : World} {v v' : Value} {l r : List UInt8} (h : Grow w v l wr) (ho : w'.ownsRow w.heap.size 5 1 v' (l.length + r.length) (bvs l ++ bvs r)) (hg : wr.grownBy w' v.ownBlock) : Grow w v' (l ++ r) w' :=
  ⟨by rw [List.length_append, bvs_append]; exact ho, h.2.grown hg h.2.size (fun k hk => (h.1.lt k hk).1)⟩

theorem encS_any (s : ByteArray) (w : World) (hs : s.size ≤ 140737488355328 / 4) : Calls Try.prog 16 #[.string s] w (EncPost w (encS s)) :=
  Bytes_any s w (by have := enc_le (s.size : Int); omega)
theorem encS_le (s : ByteArray) : (encS s).length ≤ 9 + s.size := by have := enc_le (s.size : Int); unfold encS; rw [List.length_append, sl_length]; omega

/-- what an encoding's slice reads as, cell by cell -/
theorem enc_news {w w' : World} {l : List UInt8} {e : Ending} (hl : 0 < l.length) (h : EncPost w l e w') : ∃ b o c, e = .returned (.slice (some ⟨b, o, none⟩) l.length c) ∧ (∀ j u, (bvs l)[j]? = some u → w'.cell? ((⟨b, o, none⟩ : Addr).add j) = some u) ∧ l.length ≤ c ∧ c ≤ 9223372036854775807 ∧ Below w.heap.size w w' := by
  obtain ⟨p, c, rfl, hR, hc, hm, hb⟩ := enc_Rd h
  rcases hR with rfl | ⟨b, o, rfl, hcc⟩
  · simp at hl
  · exact ⟨b, o, c, rfl, Rd_news hcc, hc, hm, hb⟩

set_option maxRecDepth 100000 in
set_option maxHeartbeats 1600000 in
theorem concat_short (s : ByteArray) (a : Option Addr) (len cap : Nat) (l : List Int) (w : World) (hR : Rdi w a l) (hw : i64s l) (hn : Hid (len = l.length)) (hlen : (s.size : Int) + (len : Int) ≤ 2000) :
    Calls Try.prog 10 #[.string s, .slice a len cap] w (TruePost w) := by
  obtain ⟨i0, hi, hz0, hz1, hz2⟩ := info_parts info_u8
  have hR' := Lib.hid hR
  have hw' := Lib.hid hw
  have h0 : ¬ 2000 < (s.size : Int) + (len : Int) := by omega
  have hS := encS_le s
  have hS1 := encS_pos s
  have hI := encIs_le l
  have hI1 : 1 ≤ (encIs l).length := by unfold encIs; have := enc_pos (l.length : Int); rw [List.length_append]; omega
  have hg1 := Lib.hid (gb_enc s (encIs l) (by omega))
  have hg2 := Lib.hid (ints_enc l hw [] (by rw [← hn.out]; omega))
  rw [← hn.out] at hI
  have hG0 : Hid (Grow w (.slice (some ⟨w.heap.size, 0, none⟩) 0 0) [] (w.alloc (.cells #[] 5))) := Lib.hid ⟨World.ownsRow_made w #[] 0 (Nat.le_refl _) (by decide) rfl, (Below.refl _ _).alloc (Nat.le_refl _) _⟩
  clear hR hw
  go_enter Try.func10, Try.ntmps10
  generalize hk1 : (encS s).length = k1 at *
  generalize hk2 : (encIs l).length = k2 at *
  have hk1' := Lib.hid hk1
  have hk2' := Lib.hid hk2
  clear hk1 hk2
  go_wp2_with (first | (go_at_call 16; refine (encS_any s _ (by omega)).mono ?_; intro e w1 hp; obtain ⟨b1, o1, c1, rfl, hn1, hc1, hm1, hb1⟩ := enc_news (by rw [hk1'.out]; omega) hp; rw [hk1'.out]; have hn1' := Lib.hid hn1; have hG1 := Lib.hid (hG0.out.later hb1); clear hp hn1 hb1 hc1 hm1) | (go_at_call 18; refine (Ints_any _ _ _ l _ (Rdi_below' hG2.out.2 hR'.out) hn.out (by omega) hw'.out (by rw [hk2'.out]; omega)).mono ?_; intro e w3 hp; obtain ⟨b3, o3, c3, rfl, hn3, hc3, hm3, hb3⟩ := enc_news (by rw [hk2'.out]; omega) hp; rw [hk2'.out]; have hn3' := Lib.hid hn3; have hG3 := Lib.hid (hG2.out.later hb3); clear hp hn3 hb3 hc3 hm3) | (at_builtin; refine wpList_append_own _ rfl (.tmp 19) (.tmp 21) 28 rfl w.heap.size 5 i0 (.int .u8 0) 1 1 Try.underlying28 hi hz0 hz1 hz2 rfl (by decide) _ _ _ rfl hG1.out.1 ⟨b1, o1, none⟩ k1 c1 (bvs (encS s)) rfl (by rw [bvs_length, hk1'.out, Nat.mul_one]) hn1'.out (bvs_one _) (by simp only [List.length_nil]; unfold maxLen; omega) (by simp only [List.length_nil]; omega) hG1.out.2.size ?_; intro v2 w2 ho2 hg2 _; have hG2 := Lib.hid (hG1.out.append (r := encS s) (by rw [hk1'.out]; exact ho2) hg2); clear ho2 hg2) | (at_builtin; refine wpList_append_own _ rfl (.tmp 22) (.tmp 24) 28 rfl w.heap.size 5 i0 (.int .u8 0) 1 1 Try.underlying28 hi hz0 hz1 hz2 rfl (by decide) _ _ _ rfl hG3.out.1 ⟨b3, o3, none⟩ k2 c3 (bvs (encIs l)) rfl (by rw [bvs_length, hk2'.out, Nat.mul_one]) hn3'.out (bvs_one _) (by rw [List.nil_append, hk1'.out]; unfold maxLen; omega) (by rw [List.nil_append, hk1'.out]; omega) hG3.out.2.size ?_; intro v4 w4 ho4 hg4 _; have hG4 := Lib.hid (hG3.out.append (r := encIs l) (by rw [hk2'.out]; exact ho4) hg4); clear ho4 hg4))
  have hO := hG4.out.1
  rw [List.nil_append] at hO
  obtain ⟨p4, c4, rfl, hR4, hn4, hc4, hm4, -⟩ := own_Rd hO
  obtain ⟨b4, o4, rfl, hcc⟩ : ∃ b off, p4 = some ⟨b, off, none⟩ ∧ ∀ i, i < (encS s ++ encIs l).length → w4.cell? ⟨b, off + i, none⟩ = some (.int .u8 (byt (encS s ++ encIs l) i)) := by
    rcases hR4 with h | h
    · have := congrArg List.length h
      rw [List.length_append, hk1'.out] at this
      simp at this
      omega
    · exact h
  have hK : (encS s ++ encIs l).length = k1 + k2 := by rw [List.length_append, hk1'.out, hk2'.out]
  have hR4' := Lib.hid hR4
  have hRd := Lib.hid (Rd_drop w4 b4 o4 (encS s ++ encIs l) hcc k1)
  have hd := Lib.hid (show (encS s ++ encIs l).drop k1 = encIs l by rw [← hk1'.out, List.drop_left])
  have hB4 := Lib.hid hG4.out.2
  rw [hK] at hc4 ⊢
  clear hO hR4 hcc hn4 hG4 hG3 hG2 hG1 hG0 hn1' hn3'
  have hK' := Lib.hid hK
  clear hK
  have q1 : (0 : Int) ≤ (k1 : Int) := by omega
  have q2 : (k1 : Int) ≤ ((k1 + k2 : Nat) : Int) := by omega
  have q3 : ¬ c4 = k1 := by omega
  have q4 : ¬ ((k1 : Int) < 0) := by omega
  generalize hKK : k1 + k2 = K at *
  have hKK' := Lib.hid hKK
  clear hKK
  refine (GetBytes_any _ _ _ (encS s ++ encIs l) _ hR4'.out hK'.out.symm hc4 hm4 (sl s) k1 0 hg1.out).mono ?_
  rw [bs_sl]
  rintro e w' ⟨rfl, rfl⟩
  go_wp2_with fail
  refine (GetInts_any _ _ _ (encIs l) _ (by rw [← hd.out]; exact hRd.out) (by rw [hk2'.out]; have := hKK'.out; omega) (by have := hKK'.out; omega) ⟨by omega, by have := hKK'.out; omega⟩ (by have := hKK'.out; omega) l k2 0 (by have := hg2.out; rwa [List.append_nil] at this)).mono ?_
  rintro e w5 ⟨v5, rfl, ho5, hb5⟩
  obtain ⟨p5, c5, rfl, hR5, -, -, -⟩ := own_Rdi (l := l) ho5
  have hR5' := Lib.hid hR5
  have hB5 := Lib.hid (hB4.out.trans (hb5.mono hB4.out.size))
  clear ho5 hb5 hR5
  have q5 : (k1 : Int) + (k2 : Int) ≤ 9223372036854775807 := by omega
  have q6 : (k1 : Int) + (k2 : Int) = (K : Int) := by have := hKK'.out; omega
  have q6' := Lib.hid q6
  clear q6
  go_wp2_with fail
  refine (sanity_any _).mono ?_
  rintro e w6 ⟨rfl, hb6⟩
  have hR6 := Lib.hid (Rdi_below hb6 hR5'.out)
  have hB6 := Lib.hid (hB5.out.trans (hb6.mono hB5.out.size))
  clear hb6 hR5'
  go_wp2_with fail
  refine (SameInts_true _ _ _ _ _ _ l _ hR6.out (Rdi_below hB6.out hR'.out) rfl hn.out (by rw [← hn.out]; omega)).mono ?_
  rintro e w7 ⟨rfl, hb7⟩
  have hB7 := Lib.hid (hB6.out.trans (hb7.mono hB6.out.size))
  clear hb7
  have q7 : (((k1 : Int) + (k2 : Int)) == (K : Int)) = true := by rw [q6'.out]; simp
  go_wp2
  go_ret
  exact ⟨rfl, hB7.out⟩

theorem concat_any (s : ByteArray) (a : Option Addr) (len cap : Nat) (l : List Int) (w : World) (hR : Rdi w a l) (hw : i64s l) (hn : len = l.length) (h1 : s.size ≤ 140737488355328) (h2 : len ≤ 140737488355328) :
    Calls Try.prog 10 #[.string s, .slice a len cap] w (TruePost w) := by
  by_cases h : 2000 < (s.size : Int) + (len : Int)
  · exact concat_long s a len cap w h1 h2 h
  · exact concat_short s a len cap l w hR hw hn (by omega)

end Go.Proofs.Ytfodockdhecbpaa
