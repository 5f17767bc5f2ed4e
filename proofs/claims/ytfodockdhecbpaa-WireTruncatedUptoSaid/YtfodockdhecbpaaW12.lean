/- The closure of wire.GetDigests: one digest more. -/
import Derived.Test.YtfodockdhecbpaaW11
namespace Go.Proofs.Ytfodockdhecbpaa
open Go.RowKit

set_option maxRecDepth 100000 in
set_option maxHeartbeats 12000000 in
theorem cloDig_ok (S L : Nat) (w wr : World) (b off n c u m : Nat) (d : List UInt8) (xs : List Value) (tf : TypeId)
    (hI : GInv S L w wr (.slice (some ⟨b, off, none⟩) n c) (.func (.func 51) #[] #[]) tf 24 57 16 u m xs)
    (hd : Hid (d.length = 16)) (hc : ∀ j u', (bvs d)[j]? = some u' → wr.cell? ((⟨b, off + u, none⟩ : Addr).add j) = some u') (hnc : n ≤ c) (hmax : c ≤ 9223372036854775807 ∧ n ≤ 4611686018427387904) (hu : u + 16 ≤ n) (hm : m ≤ 4398046511104) :
    Calls Try.prog 54 #[.pointer (some ⟨S + 1, 0, none⟩), .pointer (some ⟨S, 0, none⟩), .pointer (some ⟨S + 2, 0, none⟩), .pointer (some ⟨L, 0, none⟩)] wr fun e w' => e = .returned (.int .i64 0) ∧
      GInv S L w w' (.slice (some ⟨b, off, none⟩) n c) (.func (.func 51) #[] #[]) tf 24 57 16 (u + 16) (m + 1) (xs ++ bvs d) := by
  have cb := cell_of_one hI.b
  have cf := cell_of_one hI.f
  have cu := cell_of_one hI.u
  have hI' := Lib.hid hI
  clear hI
  have hc' := Lib.hid hc
  clear hc
  have hcu : ¬ c = u := by omega
  have h1 : 0 ≤ (u : Int) := by omega
  have h2 : (u : Int) ≤ (n : Int) := by omega
  go_enter Try.func54, Try.ntmps54
  have hst := fun W => store_digest W d hd.out
  simp only [zero16] at hst
  have hbl : (bvs d).length = 16 := by rw [bvs_length, hd.out]
  have e1 := World.new_ne wr _ cb
  have e2 := World.new_ne wr _ cf
  have e3 := World.new_ne wr _ cu
  have e1' := Ne.symm e1
  have e2' := Ne.symm e2
  have e3' := Ne.symm e3
  have cb1 : ∀ o, (wr.alloc o).cell? ⟨S, 0, none⟩ = some (Value.slice (some ⟨b, off, none⟩) n c) := fun o => Below.cell_of' ((Below.refl _ _).alloc (Nat.le_refl _) o) cb
  have cf1 : ∀ o, (wr.alloc o).cell? ⟨S + 1, 0, none⟩ = some (Value.func (Fn.func 51) #[] #[]) := fun o => Below.cell_of' ((Below.refl _ _).alloc (Nat.le_refl _) o) cf
  have cu1 : ∀ o, (wr.alloc o).cell? ⟨S + 2, 0, none⟩ = some (Value.int IntKind.i64 (u : Int)) := fun o => Below.cell_of' ((Below.refl _ _).alloc (Nat.le_refl _) o) cu
  go_upto_region 1 with fail
  go_cut [5, 6, 7] (fun s5 s6 s7 wx => CutDig wr d s5 s6 s7 wx)
  case first =>
    go_region_with (go_at_call 51; refine (getDigest_any b (off + u) _ _ d _ hd ?_ (by omega) (by omega) (by omega)).mono ?_; (first | exact hc'.out | exact fun j u' hu' => Below.cell_of' (((Below.refl _ wr).alloc (Nat.le_refl _) _).drew) (hc'.out j u' hu')); rintro e w' ⟨rfl, hb⟩; try have hst3 := store_later (W := wr) d hd.out (by exact heap_alloc_new wr _) hb)
    all_goals (go_wp2_with fail; go_meet; first | exact cutA hb | exact cutB hd.out rfl hb)
  case rest =>
    obtain ⟨g, rfl, hgc, rfl, rfl, hbx⟩ := hcut
    have hJ := hI'.out.later hbx
    have hbc : ∀ j u, (bvs d)[j]? = some u → wc.cell? ((⟨g, 0, none⟩ : Addr).add j) = some u := by
      intro j u hu
      have ha : (⟨g, 0, none⟩ : Addr).add j = ⟨g, j, none⟩ := by unfold Addr.add; split <;> simp_all
      rw [ha]
      simp only [World.cell?, hgc]
      simpa using hu
    have hbc' := Lib.hid hbc
    have hsz := Lib.hid (show (Try.prog.info? 57).map (·.size) = some (bvs d).length by rw [hbl]; kernel_rfl)
    have hbl' := Lib.hid (show (bvs d).length = 1 * 16 by rw [hbl])
    have hnew := Lib.hid (box_cells wc d)
    have hbd := build_digest d hd.out
    obtain ⟨i0, hi, hz0, hz1, hz2⟩ := info_parts info_dig
    have cu' := cell_of_one hJ.u
    have fu' := free_of_one hJ.u
    obtain ⟨v, hv, hown⟩ := hJ.l
    have cl := cell_of_one hv
    have fl := free_of_one hv
    have h5 := hJ.hL
    have h6 : ¬ L = S + 2 := by omega
    have h7 : ¬ S + 2 = L := by omega
    have h8 := hJ.size
    have hJ' := Lib.hid hJ
    have hown' := Lib.hid hown
    have hv' := Lib.hid hv
    clear hJ hbc hown hv hgc hst cb cf cu cb1 cf1 cu1 e1 e2 e3 e1' e2' e3'
    go_wp2_with (first | (refine wpList_load_cells rfl 57 _ rfl ⟨g, 0, none⟩ rfl (bvs d) _ hbc'.out Try.underlying57 rfl hsz.out ?_) | (at_builtin; refine wpList_append_own _ rfl _ _ 24 rfl (S + 3) 57 i0 (.agg zero16) 16 16 Try.underlying24 hi hz0 hz1 hz2 rfl (by decide) _ _ _ rfl (hown'.out.alloc _) ⟨wc.heap.size, 0, none⟩ 1 1 (bvs d) rfl hbl'.out hnew.out (bvs_one _) (by unfold maxLen; omega) (by omega) (by simp; omega) ?_; intro v1 w1 hown1 hgrow1 _; obtain ⟨pA, pB, pC, rfl⟩ := own_slice hown1; obtain ⟨⟨hv1, hu1⟩, hst⟩ := hJ'.out.step (by decide) hv'.out hown'.out (grown_alloc0 hgrow1) hown1; have hfin := Lib.hid (hst (own_ne (by decide) hv1 hown1) (u + 16)); have cl1 := cell_of_one hv1; have fl1 := free_of_one hv1; have cu1 := cell_of_one hu1; have fu1 := free_of_one hu1; clear hv1 hu1 hst hown1 hgrow1))
    go_ret
    exact ⟨rfl, by simpa using hfin.out⟩

end Go.Proofs.Ytfodockdhecbpaa
