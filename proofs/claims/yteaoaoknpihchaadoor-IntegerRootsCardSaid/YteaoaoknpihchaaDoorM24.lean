/- Contracts of the package integer and its reference: Operations on ints whose results are ints; error numbers; the reference's Around and At. Words for laws over integers, region by region. -/
import Derived.Test.YteaoaoknpihchaaDoorM23
import Derived.Test.YteaoaoknpihchaaDoorM15
import Derived.Test.YteaoaoknpihchaaDoorM13
import Derived.Test.YteaoaoknpihchaaDoorM17
set_option linter.unusedVariables false
namespace Go.Proofs.YteaoaoknpihchaaDoor
open Go.RowKit
variable {BT : List (TypeId × Nat × Nat)}

/-- a slice of ints -/
def VI (l : List Int) : VP := fun v w => ∃ a m c, v = .slice a m c ∧ Rdi w a l ∧ m = l.length ∧ i64s l
theorem Stab_VI (l : List Int) : Stab BT (VI l) := fun _ _ _ ⟨a, m, c, h1, h2, h3, h4⟩ hr => ⟨a, m, c, h1, Rdi_RI hr h2, h3, h4⟩
instance (l : List Int) : Sb BT (VI l) := ⟨Stab_VI l⟩
theorem wrap_id {n : Int} (h1 : -9223372036854775808 ≤ n) (h2 : n ≤ 9223372036854775807) : IntKind.i64.wrap n = n := IntWalk.i64_in n ⟨h1, h2⟩
section
variable {ρ : Operand → Value} {o : Oper} {W : World} {x y : Operand} {a b c : Int}
theorem run_subi (ho : o.op = .binOp .sub 3 x y 3) (hx : ρ x = .int .i64 a) (hy : ρ y = .int .i64 b) (hc : IntKind.i64.wrap (a - b) = c) : (execOp ρ o).run Tryd.prog W = .ok (.value (.int .i64 c)) W := by
  obtain ⟨d, op, ty, ps, af, gd⟩ := o
  subst ho
  go_simp
theorem run_muli (ho : o.op = .binOp .mul 3 x y 3) (hx : ρ x = .int .i64 a) (hy : ρ y = .int .i64 b) (hc : IntKind.i64.wrap (a * b) = c) : (execOp ρ o).run Tryd.prog W = .ok (.value (.int .i64 c)) W := by
  obtain ⟨d, op, ty, ps, af, gd⟩ := o
  subst ho
  go_simp
theorem run_negi (ho : o.op = .unOp .neg 3 x) (hx : ρ x = .int .i64 a) (hc : IntKind.i64.wrap (-a) = c) : (execOp ρ o).run Tryd.prog W = .ok (.value (.int .i64 c)) W := by
  obtain ⟨d, op, ty, ps, af, gd⟩ := o
  subst ho
  go_simp
theorem run_quoi (ho : o.op = .binOp .quo 3 x y 3) (hx : ρ x = .int .i64 a) (hy : ρ y = .int .i64 b) (h0 : 0 ≤ a ∧ a ≤ 9223372036854775807) (hb : 0 < b) : (execOp ρ o).run Tryd.prog W = .ok (.value (.int .i64 (a / b))) W := by
  have hb0 : ¬ b = 0 := by omega
  have e1 : Int.tdiv a b = a / b := Int.tdiv_eq_ediv_of_nonneg h0.1
  have e2 : 0 ≤ a / b := Int.ediv_nonneg h0.1 (by omega)
  have e3 : a / b ≤ a := Int.ediv_le_self b h0.1
  have e4 : IntKind.i64.wrap (a / b) = a / b := wrap_id (by omega) (by omega)
  generalize a / b = q at *
  clear e2 e3 h0 hb
  obtain ⟨d, op, ty, ps, af, gd⟩ := o
  subst ho
  go_simp
theorem run_remi (ho : o.op = .binOp .rem 3 x y 3) (hx : ρ x = .int .i64 a) (hy : ρ y = .int .i64 b) (h0 : 0 ≤ a) (hb : 0 < b) : (execOp ρ o).run Tryd.prog W = .ok (.value (.int .i64 (a % b))) W := by
  have hb0 : ¬ b = 0 := by omega
  have e1 : Int.tmod a b = a % b := Int.tmod_eq_emod_of_nonneg h0
  generalize a % b = q at *
  clear h0 hb
  obtain ⟨d, op, ty, ps, af, gd⟩ := o
  subst ho
  go_simp
end
/-- a number from 0 on, less than another one, is an int -/
theorem arn_ge (n most : Int) (h : 0 < most) : -9223372036854775808 ≤ arn n most := by have := arn_lo n most h; omega
theorem arn_le (n most : Int) (h : 0 < most) (h2 : most ≤ 9223372036854775807) : arn n most ≤ 9223372036854775807 := by have := arn_hi n most h; omega
theorem atv_ge (l : List Int) (i most : Int) (h : 0 < most) : -9223372036854775808 ≤ atv l i most := by have := atv_lo l i most h; omega
theorem atv_le (l : List Int) (i most : Int) (h : 0 < most) (h2 : most ≤ 9223372036854775807) : atv l i most ≤ 9223372036854775807 := by have := atv_hi l i most h; omega
theorem cAround {W : World} {n most : Int} {v : Value} (h : Vi n v W) (h1 : -9223372036854775808 ≤ n) (h2 : n ≤ 9223372036854775807) (h3 : 0 < most) (h4 : most ≤ 9223372036854775807) : Calls Tryd.prog 9 #[v, .int .i64 most] W (RV (Vi (arn n most)) W) := by
  obtain rfl := h
  exact (around_any n most h1 h2 h3 h4 W).mono fun e w' ⟨he, hw⟩ => ⟨_, he, rfl, hw ▸ Below.refl _ _⟩
theorem cAt {W : World} {l : List Int} {i most : Int} {v v1 : Value} (h : VI l v W) (h1 : Vi i v1 W) (hi : 0 ≤ i) (hi2 : i ≤ 9223372036854775807) (h3 : 0 < most) (h4 : most ≤ 9223372036854775807) : Calls Tryd.prog 32 #[v, v1, .int .i64 most] W (RV (Vi (atv l i most)) W) := by
  obtain ⟨a, m, c, rfl, hR, hm, h64⟩ := h
  obtain rfl := h1
  have := at_any a m c l i.toNat most W hR hm h64 (by omega) h3 h4
  rw [Int.toNat_of_nonneg hi] at this
  exact this.mono fun e w' ⟨he, hw⟩ => ⟨_, he, rfl, hw ▸ Below.refl _ _⟩
end Go.Proofs.YteaoaoknpihchaaDoor

namespace Go.Proofs.YteaoaoknpihchaaDoor
open Go.RowKit
variable {BT : List (TypeId × Nat × Nat)}

/-- one of several -/
def Vex (F : Int → VP) : VP := fun v w => ∃ z, F z v w
theorem Stab_Vex {F : Int → VP} (h : ∀ z, Stab BT (F z)) : Stab BT (Vex F) := fun _ _ _ ⟨z, h1⟩ hr => ⟨z, h z _ _ _ h1 hr⟩
theorem AggV_Vex {m : Nat} {F : Int → VP} (h : ∀ z, AggV m (F z)) : AggV m (Vex F) := fun v w ⟨z, h1⟩ => h z v w h1
instance (F : Int → VP) [h : ∀ z, Sb BT (F z)] : Sb BT (Vex F) := ⟨Stab_Vex fun z => (h z).out⟩
instance (m : Nat) (F : Int → VP) [h : ∀ z, Ag (F z) m] : Ag (Vex F) m := ⟨AggV_Vex fun z => (h z).out⟩
theorem St.exB {n0 N : Nat} {w0 : World} {L1 L2 : List Bd} {t : Nat} {T : TypeId} {m : Nat} {F : Int → VP} {SL : List (Nat × VP)} {a : Act} {w : World} (h : St n0 w0 N (L1 ++ ⟨t, none, none, T, m, Vex F, VT⟩ :: L2) SL a w) : ∃ z, St n0 w0 N (L1 ++ ⟨t, none, none, T, m, F z, VT⟩ :: L2) SL a w := by
  obtain ⟨g, cs, f1, f2, f3, f4, f5, f6, f7⟩ := h.k.ok ⟨t, none, none, T, m, Vex F, VT⟩ (by simp) rfl
  obtain ⟨z, hz⟩ := f6 rfl
  refine ⟨z, ⟨⟨h.k.below, fun b hb hon => ?_, fun b hb c hc hne h1 h2 => ?_, fun b hb hn hk => ?_⟩, h.n, h.size, h.defers, h.sl⟩⟩
  · simp only [List.mem_append, List.mem_cons] at hb
    rcases hb with hb | rfl | hb
    · exact h.k.ok b (by simp [hb]) hon
    · exact ⟨g, cs, f1, f2, f3, f4, f5, fun _ => hz, fun _ hk => by cases hk⟩
    · exact h.k.ok b (by simp [hb]) hon
  · have key : ∀ x ∈ L1 ++ (⟨t, none, none, T, m, F z, VT⟩ : Bd) :: L2, ∃ y ∈ L1 ++ (⟨t, none, none, T, m, Vex F, VT⟩ : Bd) :: L2, y.t = x.t ∧ y.ia = x.ia := by
      intro x hx
      simp only [List.mem_append, List.mem_cons] at hx
      rcases hx with hx | rfl | hx
      · exact ⟨x, by simp [hx], rfl, rfl⟩
      · exact ⟨⟨t, none, none, T, m, Vex F, VT⟩, by simp, rfl, rfl⟩
      · exact ⟨x, by simp [hx], rfl, rfl⟩
    obtain ⟨b', hb', e1, e2⟩ := key b hb
    obtain ⟨c', hc', e3, e4⟩ := key c hc
    rw [← e1, ← e3]
    exact h.k.ne b' hb' c' hc' (by rw [e1, e3]; exact hne) (by rw [e2]; exact h1) (by rw [e4]; exact h2)
  · simp only [List.mem_append, List.mem_cons] at hb
    rcases hb with hb | rfl | hb
    · exact h.k.fa b (by simp [hb]) hn hk
    · exact absurd rfl hn
    · exact h.k.fa b (by simp [hb]) hn hk
theorem cNumberX {W : World} {l : List Int} {v : Value} (h : VI l v W) : Calls Tryd.prog 7 #[v, .int .i64 0] W (RV (Vex fun z => Vz 6 z) W) := by
  obtain ⟨a, m, c, rfl, hR, hm, hi⟩ := h
  exact (number_any' a m c l 0 W hR hm hi (by omega)).mono fun e w' ⟨z, hz, h⟩ => (retI_vz h hz).le fun v w hv => ⟨z, hv⟩
theorem cRMulX {W : World} {z : Int} {v1 v2 : Value} (h1 : Vex (fun x => Vz 6 x) v1 W) (h2 : Vz 6 z v2 W) : Calls Tryd.prog 20 #[v1, v2] W (RV (Vex fun x => Vz 12 x) W) := by
  obtain ⟨x, h1⟩ := h1
  exact (cRMul h1 h2 (by omega) (by omega)).mono fun e w' h => h.le fun v w hv => ⟨x * z, hv⟩
theorem dq_dr {X Y : Int} (h : Y ≠ 0) : dq X Y * Y + dr X Y = X := by
  unfold dq dr; rw [if_neg h, if_neg h, Int.mul_comm]; exact Int.mul_ediv_add_emod X Y
theorem dr_lo {X Y : Int} (h : Y ≠ 0) : 0 ≤ dr X Y := by unfold dr; rw [if_neg h]; exact Int.emod_nonneg X h
theorem dr_hi {X Y : Int} (h : 0 < Y) : dr X Y < Y := by unfold dr; rw [if_neg (by omega)]; exact Int.emod_lt_of_pos X h
theorem dr_hi' {X Y : Int} (h : Y < 0) : dr X Y < -Y := by
  unfold dr; rw [if_neg (by omega)]
  have := Int.emod_lt X (b := Y) (by omega)
  omega
theorem gcd_po {X Y : Int} (h : Y ≠ 0) : 0 < (Int.gcd X Y : Int) := by have := Int.gcd_pos_of_ne_zero_right X h; omega
theorem dr_gl {X Y : Int} (h : Y ≠ 0) : dr X (Int.gcd X Y : Int) = 0 := by
  unfold dr; rw [if_neg (by have := gcd_po (X := X) h; omega)]; exact Int.emod_eq_zero_of_dvd (Int.gcd_dvd_left ..)
theorem dr_gr {X Y : Int} (h : Y ≠ 0) : dr Y (Int.gcd X Y : Int) = 0 := by
  unfold dr; rw [if_neg (by have := gcd_po (X := X) h; omega)]; exact Int.emod_eq_zero_of_dvd (Int.gcd_dvd_right ..)
theorem gcd_1 {X Y : Int} (h : Y ≠ 0) : (Int.gcd (dq X (Int.gcd X Y : Int)) (dq Y (Int.gcd X Y : Int)) : Int) = 1 := by
  have hg := gcd_po (X := X) h
  unfold dq; rw [if_neg (by omega), if_neg (by omega), Int.gcd_ediv_gcd_ediv_gcd (by omega)]; rfl
theorem gcd_rest {X Y : Int} (h : Y ≠ 0) : (Int.gcd X Y : Int) = (Int.gcd Y (dr X Y) : Int) := by
  unfold dr; rw [if_neg h]
  have e : X = X % Y + Y * (X / Y) := (Int.emod_add_mul_ediv X Y).symm
  have : Int.gcd X Y = Int.gcd (X % Y) Y := by
    conv => lhs; rw [e]
    rw [Int.gcd_add_mul_left_left]
  rw [this, Int.gcd_comm]
theorem cLives {n0 : Nat} {w W : World} (hT : Tb w) (hb : Below n0 w W) (hn : n0 = w.heap.size) : Calls Tryd.prog 19 #[] W (RV (Vb true) W) := by
  subst hn; exact lives_any W (hT.later hb)
end Go.Proofs.YteaoaoknpihchaaDoor
