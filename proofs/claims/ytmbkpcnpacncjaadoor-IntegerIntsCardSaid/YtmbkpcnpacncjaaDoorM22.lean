/- Contracts of the package integer and its reference: Operations on ints whose results are ints; error numbers; the reference's Around and At. Words for laws over integers, region by region. -/
import Derived.Test.YtmbkpcnpacncjaaDoorM21
import Derived.Test.YtmbkpcnpacncjaaDoorM15
import Derived.Test.YtmbkpcnpacncjaaDoorM13
import Derived.Test.YtmbkpcnpacncjaaDoorM17
set_option linter.unusedVariables false
namespace Go.Proofs.YtmbkpcnpacncjaaDoor
open Go.RowKit
variable {BT : List (TypeId × Nat × Nat)}

/-- a slice of ints -/
def VI (l : List Int) : VP := fun v w => ∃ a m c, v = .slice a m c ∧ Rdi w a l ∧ m = l.length ∧ i64s l
theorem Stab_VI (l : List Int) : Stab BT (VI l) := fun _ _ _ ⟨a, m, c, h1, h2, h3, h4⟩ hr => ⟨a, m, c, h1, Rdi_RI hr h2, h3, h4⟩
instance (l : List Int) : Sb BT (VI l) := ⟨Stab_VI l⟩
theorem wrap_id {n : Int} (h1 : -9223372036854775808 ≤ n) (h2 : n ≤ 9223372036854775807) : IntKind.i64.wrap n = n := IntWalk.i64_in n ⟨h1, h2⟩
section
variable {ρ : Operand → Value} {o : Oper} {W : World} {x y : Operand} {a b c : Int}
end
theorem cAround {W : World} {n most : Int} {v : Value} (h : Vi n v W) (h1 : -9223372036854775808 ≤ n) (h2 : n ≤ 9223372036854775807) (h3 : 0 < most) (h4 : most ≤ 9223372036854775807) : Calls Tryd.prog 6 #[v, .int .i64 most] W (RV (Vi (arn n most)) W) := by
  obtain rfl := h
  exact (around_any n most h1 h2 h3 h4 W).mono fun e w' ⟨he, hw⟩ => ⟨_, he, rfl, hw ▸ Below.refl _ _⟩
end Go.Proofs.YtmbkpcnpacncjaaDoor

namespace Go.Proofs.YtmbkpcnpacncjaaDoor
open Go.RowKit
variable {BT : List (TypeId × Nat × Nat)}

/-- one of several -/
def Vex (F : Int → VP) : VP := fun v w => ∃ z, F z v w
theorem Stab_Vex {F : Int → VP} (h : ∀ z, Stab BT (F z)) : Stab BT (Vex F) := fun _ _ _ ⟨z, h1⟩ hr => ⟨z, h z _ _ _ h1 hr⟩
theorem AggV_Vex {m : Nat} {F : Int → VP} (h : ∀ z, AggV m (F z)) : AggV m (Vex F) := fun v w ⟨z, h1⟩ => h z v w h1
instance (F : Int → VP) [h : ∀ z, Sb BT (F z)] : Sb BT (Vex F) := ⟨Stab_Vex fun z => (h z).out⟩
instance (m : Nat) (F : Int → VP) [h : ∀ z, Ag (F z) m] : Ag (Vex F) m := ⟨AggV_Vex fun z => (h z).out⟩
theorem St.exB {n0 N : Nat} {w0 : World} {L1 L2 : List Bd} {t : Nat} {T : TypeId} {m : Nat} {F : Int → VP} {SL : List (Nat × VP)} {a : Act} {w : World} (h : St n0 w0 N (L1 ++ ⟨t, none, none, T, m, Vex F, VT⟩ :: L2) SL a w) : ∃ z, St n0 w0 N (L1 ++ ⟨t, none, none, T, m, F z, VT⟩ :: L2) SL a w := by
  obtain ⟨g, cs, f1, f2, f3, f4, f5, f6, f7⟩ := h.k.ok ⟨t, none, none, T, m, Vex F, VT⟩ (by simp) rfl
  obtain ⟨z, hz⟩ := f6 rfl
  refine ⟨z, ⟨⟨h.k.below, fun b hb hon => ?_, fun b hb c hc hne h1 h2 => ?_, fun b hb hn hk => ?_⟩, h.n, h.size, h.defers, h.sl⟩⟩
  · simp only [List.mem_append, List.mem_cons] at hb
    rcases hb with hb | rfl | hb
    · exact h.k.ok b (by simp [hb]) hon
    · exact ⟨g, cs, f1, f2, f3, f4, f5, fun _ => hz, fun _ hk => by cases hk⟩
    · exact h.k.ok b (by simp [hb]) hon
  · have key : ∀ x ∈ L1 ++ (⟨t, none, none, T, m, F z, VT⟩ : Bd) :: L2, ∃ y ∈ L1 ++ (⟨t, none, none, T, m, Vex F, VT⟩ : Bd) :: L2, y.t = x.t ∧ y.ia = x.ia := by
      intro x hx
      simp only [List.mem_append, List.mem_cons] at hx
      rcases hx with hx | rfl | hx
      · exact ⟨x, by simp [hx], rfl, rfl⟩
      · exact ⟨⟨t, none, none, T, m, Vex F, VT⟩, by simp, rfl, rfl⟩
      · exact ⟨x, by simp [hx], rfl, rfl⟩
    obtain ⟨b', hb', e1, e2⟩ := key b hb
    obtain ⟨c', hc', e3, e4⟩ := key c hc
    rw [← e1, ← e3]
    exact h.k.ne b' hb' c' hc' (by rw [e1, e3]; exact hne) (by rw [e2]; exact h1) (by rw [e4]; exact h2)
  · simp only [List.mem_append, List.mem_cons] at hb
    rcases hb with hb | rfl | hb
    · exact h.k.fa b (by simp [hb]) hn hk
    · exact absurd rfl hn
    · exact h.k.fa b (by simp [hb]) hn hk
theorem cNumberX {W : World} {l : List Int} {v : Value} (h : VI l v W) : Calls Tryd.prog 4 #[v, .int .i64 0] W (RV (Vex fun z => Vz 6 z) W) := by
  obtain ⟨a, m, c, rfl, hR, hm, hi⟩ := h
  exact (number_any' a m c l 0 W hR hm hi (by omega)).mono fun e w' ⟨z, hz, h⟩ => (retI_vz h hz).le fun v w hv => ⟨z, hv⟩
theorem cLives {n0 : Nat} {w W : World} (hT : Tb w) (hb : Below n0 w W) (hn : n0 = w.heap.size) : Calls Tryd.prog 16 #[] W (RV (Vb true) W) := by
  subst hn; exact lives_any W (hT.later hb)
end Go.Proofs.YtmbkpcnpacncjaaDoor
