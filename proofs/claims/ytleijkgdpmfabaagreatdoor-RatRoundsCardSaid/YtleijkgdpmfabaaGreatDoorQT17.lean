/- Take of the reference; numbers of any digits; a list of six. -/
import Derived.Test.YtleijkgdpmfabaaGreatDoorW37
set_option linter.unusedVariables false
namespace Go.Proofs.YtleijkgdpmfabaaGreatDoor
open Go.RowKit
def VIc (l : List Int) : VP := fun v w => (v = .slice none 0 0 ∧ l = []) ∨ (∃ x, v = .slice (some x) 0 0 ∧ l = []) ∨ ∃ b o c, v = .slice (some ⟨b, o, none⟩) l.length c ∧ l.length ≤ c ∧ 0 < c ∧ c ≤ 9223372036854775807 ∧ Rdi w (some ⟨b, o, none⟩) l
def VSr (l : List Int) : VP := fun v w => (v = .slice none 0 0 ∧ l = []) ∨ ∃ x c, v = .slice (some x) l.length c ∧ Rdi w (some x) l
def VLn (N : Nat) (l : List Int) : VP := fun v w => ∃ p n c, v = .slice p n c ∧ Rdi w p l ∧ n = l.length ∧ n ≤ c ∧ c ≤ 9223372036854775807 ∧ n ≤ N
theorem Stab_VLn {BT : List (TypeId × Nat × Nat)} (N : Nat) (l : List Int) : Stab BT (VLn N l) := fun _ _ _ ⟨p, n, c, h1, h2, h3⟩ hr => ⟨p, n, c, h1, Rdi_RI hr h2, h3⟩
instance {BT : List (TypeId × Nat × Nat)} (N : Nat) (l : List Int) : Sb BT (VLn N l) := ⟨Stab_VLn N l⟩
theorem Stab_VIc {BT : List (TypeId × Nat × Nat)} (l : List Int) : Stab BT (VIc l) := fun _ _ _ h hr => h.imp id (.imp id fun ⟨b, o, c, h1, h2, h3, h4, h5⟩ => ⟨b, o, c, h1, h2, h3, h4, Rdi_RI hr h5⟩)
instance {BT : List (TypeId × Nat × Nat)} (l : List Int) : Sb BT (VIc l) := ⟨Stab_VIc l⟩
theorem Stab_VSr {BT : List (TypeId × Nat × Nat)} (l : List Int) : Stab BT (VSr l) := fun _ _ _ h hr => h.imp id fun ⟨x, c, h1, h2⟩ => ⟨x, c, h1, Rdi_RI hr h2⟩
instance {BT : List (TypeId × Nat × Nat)} (l : List Int) : Sb BT (VSr l) := ⟨Stab_VSr l⟩
section
variable {ρ : Operand → Value} {o : Oper} {W : World} {x y : Operand} {va vb : Value} {l : List Int}
theorem min_iv {n k m : Nat} (hm : m = min n k) (ho : o.op = .call { callee := .builtin .min, args := #[x, y], argTypes := #[3, 3] }) (_hty : o.type = 3) (hx : ρ x = va) (hy : ρ y = vb) (h1 : Vi (n : Int) va W) (h2 : Vi (k : Int) vb W) : ∃ v, (execOp ρ o).run Tryz.prog W = .ok (.value v) W ∧ Vi (m : Int) v W := by
  obtain rfl : va = _ := h1
  obtain rfl : vb = _ := h2
  refine ⟨.int .i64 (m : Int), ?_, rfl⟩
  have e : (if (k : Int) < (n : Int) then (k : Int) else (n : Int)) = (m : Int) := by split <;> omega
  unfold execOp
  simp only [ho, resolve, invoke, builtin, Sem.run_bind, Sem.run_pure, Result.andThen_ok, List.map_toArray, List.map_cons, List.map_nil, hx, hy, run_min_int2, e]
end
def VNm (N : Nat) : (Int × Int) ⊕ (Int × Bool × List Int) → VP
  | .inl (x, y) => VP2 2 2 (Vz N x) (Vz N y)
  | .inr (x, nb, l) => fun v w => VP2 2 2 (Vz N x) (VZr N nb l) v w ∧ vld nb l = false
theorem Stab_VNm {BT : List (TypeId × Nat × Nat)} (N : Nat) (z : (Int × Int) ⊕ (Int × Bool × List Int)) : Stab BT (VNm N z) := by
  match z with
  | .inl (x, y) => exact Stab_VP2 (Stab_Vz _ _) (Stab_Vz _ _)
  | .inr (x, nb, l) => exact fun v w w' h hr => ⟨Stab_VP2 (Stab_Vz _ _) (Stab_VZr _ _ _) _ _ _ h.1 hr, h.2⟩
theorem AggV_VNm (N : Nat) (z : (Int × Int) ⊕ (Int × Bool × List Int)) : AggV 4 (VNm N z) := by
  match z with
  | .inl (x, y) => exact AggV_VP2 (AggV_Vz _ _) (AggV_Vz _ _)
  | .inr (x, nb, l) => exact fun v w h => AggV_VP2 (AggV_Vz _ _) (AggV_VZr _ _ _) v w h.1
instance {BT : List (TypeId × Nat × Nat)} (N : Nat) (z : (Int × Int) ⊕ (Int × Bool × List Int)) : Sb BT (VNm N z) := ⟨Stab_VNm N z⟩
instance (N : Nat) (z : (Int × Int) ⊕ (Int × Bool × List Int)) : Ag (VNm N z) 4 := ⟨AggV_VNm N z⟩
section
variable {ρ : Operand → Value} {o : Oper} {W : World} {x y : Operand} {va vb : Value} {α : Type} {E : α → VP} {xs : List α}
end
end Go.Proofs.YtleijkgdpmfabaaGreatDoor
