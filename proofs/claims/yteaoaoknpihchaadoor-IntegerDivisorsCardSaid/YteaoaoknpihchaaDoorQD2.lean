/- IntegerDivisors: the walk. -/
import Derived.Test.YteaoaoknpihchaaDoorM35
namespace Go.Proofs.YteaoaoknpihchaaDoor
open Go.RowKit

set_option maxRecDepth 100000 in
set_option maxHeartbeats 1600000 in
theorem walk_divisors {w : World} {l0 l1 l2 : List Int} {v0 v1 v2 : Value} (h0 : VI l0 v0 w) (h1 : VI l1 v1 w) (h2 : VI l2 v2 w) (hT : Tb w) : Calls Tryd.prog 6 #[v0, v1, v2] w (RV (Vb true) w) := by
  go_enter Tryd.func6, Tryd.ntmps6
  have st0 : St w.heap.size w 120 [] [(0, VI l0), (1, VI l1), (2, VI l2)] _ w := St.begin (a := ⟨#[v0, v1, v2, undef, undef, undef, undef, undef, undef, undef, undef, undef, undef, undef, undef, undef, undef, undef, undef, undef, undef, undef, undef, undef, undef, undef, undef, undef, undef, undef, undef, undef, undef, undef, undef, undef, undef, undef, undef, undef, undef, undef, undef, undef, undef, undef, undef, undef, undef, undef, undef, undef, undef, undef, undef, undef, undef, undef, undef, undef, undef, undef, undef, undef, undef, undef, undef, undef, undef, undef, undef, undef, undef, undef, undef, undef, undef, undef, undef, undef, undef, undef, undef, undef, undef, undef, undef, undef, undef, undef, undef, undef, undef, undef, undef, undef, undef, undef, undef, undef, undef, undef, undef, undef, undef, undef, undef, undef, undef, undef, undef, undef, undef, undef, undef, undef, undef, undef, undef, undef], []⟩) rfl rfl (List.forall_mem_cons.2 ⟨⟨_, rfl, h0⟩, (List.forall_mem_cons.2 ⟨⟨_, rfl, h1⟩, (List.forall_mem_cons.2 ⟨⟨_, rfl, h2⟩, (fun _ h => absurd h (by simp))⟩)⟩)⟩)
  generalize (⟨#[v0, v1, v2, undef, undef, undef, undef, undef, undef, undef, undef, undef, undef, undef, undef, undef, undef, undef, undef, undef, undef, undef, undef, undef, undef, undef, undef, undef, undef, undef, undef, undef, undef, undef, undef, undef, undef, undef, undef, undef, undef, undef, undef, undef, undef, undef, undef, undef, undef, undef, undef, undef, undef, undef, undef, undef, undef, undef, undef, undef, undef, undef, undef, undef, undef, undef, undef, undef, undef, undef, undef, undef, undef, undef, undef, undef, undef, undef, undef, undef, undef, undef, undef, undef, undef, undef, undef, undef, undef, undef, undef, undef, undef, undef, undef, undef, undef, undef, undef, undef, undef, undef, undef, undef, undef, undef, undef, undef, undef, undef, undef, undef, undef, undef, undef, undef, undef, undef, undef, undef], []⟩ : Act) = a0 at st0 ⊢
  repeat (first | refine wp_seq ?_ | refine wp_block ?_ | (refine wp_skip ?_; change Code.wp _ _ _ _ _) | (refine wp_exit ?_; change Code.wp _ _ _ _ _))
  have hBP : ∀ bd ∈ ([] : List Bd), bd.stab := (fun _ h => absurd h (by simp))
  refine region_k (V := fun i => ([Vb (false)] : List VP).getD i VT) (B := []) (SL := [(0, VI l0), (1, VI l1), (2, VI l2)]) (by kernel_rfl) (by kernel_rfl) (by kernel_rfl) (by rw [st0.size]; rfl) hBP (List.forall_mem_cons.2 ⟨Stab_VI _, (List.forall_mem_cons.2 ⟨Stab_VI _, (List.forall_mem_cons.2 ⟨Stab_VI _, (fun _ h => absurd h (by simp))⟩)⟩)⟩) (stab_of ⟨Stab_Vb _, trivial⟩) (st0.start (B := []) trivial _) st0.n st0.sl ⟨?s0, trivial⟩ ?hdone
  case s0 =>
    exact k_run hBP (by kernel_rfl) fun listed ac Wd h hd => ⟨trivial, _, run_assign rfl, rfl⟩
  case hdone =>
    intro listed a1 w1 hall kd
    have st1 : St w.heap.size w 120 [] [(0, VI l0), (1, VI l1), (2, VI l2), (6, Vb (false))] a1 w1 := kd.st hall st0.size st0.defers (by kernel_rfl) _ ⟨.inl ⟨(.head _), by kernel_rfl⟩, .inl ⟨(.tail _ (.head _)), by kernel_rfl⟩, .inl ⟨(.tail _ (.tail _ (.head _))), by kernel_rfl⟩, .inr ⟨0, by kernel_rfl, rfl⟩, trivial⟩
    clear kd hall hBP st0
    change Code.wp _ _ _ _ _
    repeat (first | refine wp_seq ?_ | refine wp_block ?_ | (refine wp_skip ?_; change Code.wp _ _ _ _ _) | (refine wp_exit ?_; change Code.wp _ _ _ _ _))
    have hBP : ∀ bd ∈ ([⟨7, some 2, some 3, 24, 2, Vex (fun z => Vz 6 z), VT⟩] : List Bd), bd.stab := (List.forall_mem_cons.2 ⟨⟨Stab_Vex (fun z => Stab_Vz 6 z), Stab_VT⟩, (fun _ h => absurd h (by simp))⟩)
    refine region_k (V := fun i => ([VI l2, Vex (fun z => Vz 6 z), VT, VT] : List VP).getD i VT) (B := [⟨7, some 2, some 3, 24, 2, Vex (fun z => Vz 6 z), VT⟩]) (SL := [(0, VI l0), (1, VI l1), (2, VI l2), (6, Vb (false))]) (by kernel_rfl) (by kernel_rfl) (by kernel_rfl) (by rw [st1.size]; rfl) hBP (List.forall_mem_cons.2 ⟨Stab_VI _, (List.forall_mem_cons.2 ⟨Stab_VI _, (List.forall_mem_cons.2 ⟨Stab_VI _, (List.forall_mem_cons.2 ⟨Stab_Vb _, (fun _ h => absurd h (by simp))⟩)⟩)⟩)⟩) (stab_of ⟨Stab_VI _, Stab_Vex (fun z => Stab_Vz 6 z), Stab_VT, Stab_VT, trivial⟩) (st1.start (B := [⟨7, some 2, some 3, 24, 2, Vex (fun z => Vz 6 z), VT⟩]) ⟨.inl ⟨2, rfl⟩, trivial⟩ _) st1.n st1.sl ⟨?s0, ?s1, ?s2, ?s3, trivial⟩ ?hdone
    case s0 =>
      refine k_run hBP (by kernel_rfl) fun listed ac Wd h hd => ⟨trivial, ?_⟩
      obtain ⟨v0, hv0, hV0⟩ := h.out (2, VI l2) (.tail _ (.tail _ (.head _))) (by kernel_rfl)
      exact ⟨_, run_move rfl, by rw [hv0]; exact hV0⟩
    case s1 =>
      refine k_call hBP (by kernel_rfl) (fun _ _ => rfl) fun listed ac Wd h hd => ⟨trivial, ?_⟩
      obtain ⟨v0, hv0, -, hV0⟩ := h.dep hd 0 19 (by kernel_rfl) (by kernel_rfl)
      exact ⟨#[v0, .int .i64 (0)], by simp [hv0, eval_const], cNumberX (show VI l2 v0 Wd from hV0)⟩
    case s2 =>
      exact k_alloc hBP (B1 := []) (B2 := []) rfl (by kernel_rfl) rfl rfl rfl alloc_Int rfl noint_Int (.inr ⟨_, rfl, by decide⟩) rfl fun listed ac Wd h hd => ⟨trivial, trivial⟩
    case s3 =>
      refine k_store hBP (B1 := []) (B2 := []) rfl (by kernel_rfl) (by kernel_rfl) rfl rfl (by kernel_rfl) rfl rfl size_Int fun listed ac Wd h hd => ⟨trivial, listed_dep hd 2 (by kernel_rfl), ?_⟩
      obtain ⟨v0, hv0, -, hV0⟩ := h.dep hd 1 20 (by kernel_rfl) (by kernel_rfl)
      exact agg_store (AggV_Vex (fun z => AggV_Vz 6 z)) hv0 hV0
    case hdone =>
      intro listed a2 w2 hall kd
      have st2 : St w.heap.size w 120 [⟨7, none, none, 24, 2, Vex (fun z => Vz 6 z), VT⟩] [(0, VI l0), (1, VI l1), (6, Vb (false))] a2 w2 := kd.st hall st1.size st1.defers (by kernel_rfl) _ ⟨.inl ⟨(.head _), by kernel_rfl⟩, .inl ⟨(.tail _ (.head _)), by kernel_rfl⟩, .inl ⟨(.tail _ (.tail _ (.tail _ (.head _)))), by kernel_rfl⟩, trivial⟩
      clear kd hall hBP st1
      change Code.wp _ _ _ _ _
      obtain ⟨z, st2⟩ := St.exB (L1 := []) (L2 := []) st2
      replace st2 : St w.heap.size w 120 [⟨7, none, none, 24, 2, Vz 6 (z), VT⟩] [(0, VI l0), (1, VI l1), (6, Vb (false))] a2 w2 := st2
      repeat (first | refine wp_seq ?_ | refine wp_block ?_ | (refine wp_skip ?_; change Code.wp _ _ _ _ _) | (refine wp_exit ?_; change Code.wp _ _ _ _ _))
      have hBP : ∀ bd ∈ ([⟨7, none, none, 24, 2, Vz 6 (z), VT⟩, ⟨8, some 4, some 5, 24, 2, Vex (fun x => Vz 12 x), VT⟩] : List Bd), bd.stab := (List.forall_mem_cons.2 ⟨⟨Stab_Vz _ _, Stab_VT⟩, (List.forall_mem_cons.2 ⟨⟨Stab_Vex (fun z => Stab_Vz 12 z), Stab_VT⟩, (fun _ h => absurd h (by simp))⟩)⟩)
      refine region_k (V := fun i => ([VI l0, Vex (fun z => Vz 6 z), Vz 6 (z), Vex (fun x => Vz 12 x), VT, VT] : List VP).getD i VT) (B := [⟨7, none, none, 24, 2, Vz 6 (z), VT⟩, ⟨8, some 4, some 5, 24, 2, Vex (fun x => Vz 12 x), VT⟩]) (SL := [(0, VI l0), (1, VI l1), (6, Vb (false))]) (by kernel_rfl) (by kernel_rfl) (by kernel_rfl) (by rw [st2.size]; rfl) hBP (List.forall_mem_cons.2 ⟨Stab_VI _, (List.forall_mem_cons.2 ⟨Stab_VI _, (List.forall_mem_cons.2 ⟨Stab_Vb _, (fun _ h => absurd h (by simp))⟩)⟩)⟩) (stab_of ⟨Stab_VI _, Stab_Vex (fun z => Stab_Vz 6 z), Stab_Vz _ _, Stab_Vex (fun z => Stab_Vz 12 z), Stab_VT, Stab_VT, trivial⟩) (st2.start (B := [⟨7, none, none, 24, 2, Vz 6 (z), VT⟩, ⟨8, some 4, some 5, 24, 2, Vex (fun x => Vz 12 x), VT⟩]) ⟨.inr ⟨_, (.head _), rfl, rfl, rfl, rfl, rfl, .inr ⟨rfl, rfl, rfl⟩⟩, .inl ⟨4, rfl⟩, trivial⟩ _) st2.n st2.sl ⟨?s0, ?s1, ?s2, ?s3, ?s4, ?s5, trivial⟩ ?hdone
      case s0 =>
        refine k_run hBP (by kernel_rfl) fun listed ac Wd h hd => ⟨trivial, ?_⟩
        obtain ⟨v0, hv0, hV0⟩ := h.out (0, VI l0) (.head _) (by kernel_rfl)
        exact ⟨_, run_move rfl, by rw [hv0]; exact hV0⟩
      case s1 =>
        refine k_call hBP (by kernel_rfl) (fun _ _ => rfl) fun listed ac Wd h hd => ⟨trivial, ?_⟩
        obtain ⟨v0, hv0, -, hV0⟩ := h.dep hd 0 21 (by kernel_rfl) (by kernel_rfl)
        exact ⟨#[v0, .int .i64 (0)], by simp [hv0, eval_const], cNumberX (show VI l0 v0 Wd from hV0)⟩
      case s2 =>
        exact k_load hBP (by kernel_rfl) (.head _) rfl rfl rfl rfl Tryd.underlying24 rfl size_Int fun listed ac Wd h hd => ⟨trivial, trivial⟩
      case s3 =>
        refine k_call hBP (by kernel_rfl) (fun _ _ => rfl) fun listed ac Wd h hd => ⟨trivial, ?_⟩
        obtain ⟨v0, hv0, -, hV0⟩ := h.dep hd 1 22 (by kernel_rfl) (by kernel_rfl)
        obtain ⟨v1, hv1, -, hV1⟩ := h.dep hd 2 23 (by kernel_rfl) (by kernel_rfl)
        exact ⟨#[v0, v1], by simp [hv0, hv1], cRMulX (show Vex (fun z => Vz 6 z) v0 Wd from hV0) (show Vz 6 (z) v1 Wd from hV1)⟩
      case s4 =>
        exact k_alloc hBP (B1 := [⟨7, none, none, 24, 2, Vz 6 (z), VT⟩]) (B2 := []) rfl (by kernel_rfl) rfl rfl rfl alloc_Int rfl noint_Int (.inr ⟨_, rfl, by decide⟩) rfl fun listed ac Wd h hd => ⟨trivial, trivial⟩
      case s5 =>
        refine k_store hBP (B1 := [⟨7, none, none, 24, 2, Vz 6 (z), VT⟩]) (B2 := []) rfl (by kernel_rfl) (by kernel_rfl) rfl rfl (by kernel_rfl) rfl rfl size_Int fun listed ac Wd h hd => ⟨trivial, listed_dep hd 4 (by kernel_rfl), ?_⟩
        obtain ⟨v0, hv0, -, hV0⟩ := h.dep hd 3 24 (by kernel_rfl) (by kernel_rfl)
        exact agg_store (AggV_Vex (fun z => AggV_Vz 12 z)) hv0 hV0
      case hdone =>
        intro listed a3 w3 hall kd
        have st3 : St w.heap.size w 120 [⟨7, none, none, 24, 2, Vz 6 (z), VT⟩, ⟨8, none, none, 24, 2, Vex (fun x => Vz 12 x), VT⟩] [(1, VI l1), (6, Vb (false))] a3 w3 := kd.st hall st2.size st2.defers (by kernel_rfl) _ ⟨.inl ⟨(.tail _ (.head _)), by kernel_rfl⟩, .inl ⟨(.tail _ (.tail _ (.head _))), by kernel_rfl⟩, trivial⟩
        clear kd hall hBP st2
        change Code.wp _ _ _ _ _
        obtain ⟨X, st3⟩ := St.exB (L1 := [⟨7, none, none, 24, 2, Vz 6 (z), VT⟩]) (L2 := []) st3
        replace st3 : St w.heap.size w 120 [⟨7, none, none, 24, 2, Vz 6 (z), VT⟩, ⟨8, none, none, 24, 2, Vz 12 (X), VT⟩] [(1, VI l1), (6, Vb (false))] a3 w3 := st3
        repeat (first | refine wp_seq ?_ | refine wp_block ?_ | (refine wp_skip ?_; change Code.wp _ _ _ _ _) | (refine wp_exit ?_; change Code.wp _ _ _ _ _))
        have hBP : ∀ bd ∈ ([⟨7, none, none, 24, 2, Vz 6 (z), VT⟩, ⟨8, none, none, 24, 2, Vz 12 (X), VT⟩, ⟨9, some 4, some 5, 24, 2, Vex (fun x => Vz 12 x), VT⟩] : List Bd), bd.stab := (List.forall_mem_cons.2 ⟨⟨Stab_Vz _ _, Stab_VT⟩, (List.forall_mem_cons.2 ⟨⟨Stab_Vz _ _, Stab_VT⟩, (List.forall_mem_cons.2 ⟨⟨Stab_Vex (fun z => Stab_Vz 12 z), Stab_VT⟩, (fun _ h => absurd h (by simp))⟩)⟩)⟩)
        refine region_k (V := fun i => ([VI l1, Vex (fun z => Vz 6 z), Vz 6 (z), Vex (fun x => Vz 12 x), VT, VT] : List VP).getD i VT) (B := [⟨7, none, none, 24, 2, Vz 6 (z), VT⟩, ⟨8, none, none, 24, 2, Vz 12 (X), VT⟩, ⟨9, some 4, some 5, 24, 2, Vex (fun x => Vz 12 x), VT⟩]) (SL := [(1, VI l1), (6, Vb (false))]) (by kernel_rfl) (by kernel_rfl) (by kernel_rfl) (by rw [st3.size]; rfl) hBP (List.forall_mem_cons.2 ⟨Stab_VI _, (List.forall_mem_cons.2 ⟨Stab_Vb _, (fun _ h => absurd h (by simp))⟩)⟩) (stab_of ⟨Stab_VI _, Stab_Vex (fun z => Stab_Vz 6 z), Stab_Vz _ _, Stab_Vex (fun z => Stab_Vz 12 z), Stab_VT, Stab_VT, trivial⟩) (st3.start (B := [⟨7, none, none, 24, 2, Vz 6 (z), VT⟩, ⟨8, none, none, 24, 2, Vz 12 (X), VT⟩, ⟨9, some 4, some 5, 24, 2, Vex (fun x => Vz 12 x), VT⟩]) ⟨.inr ⟨_, (.head _), rfl, rfl, rfl, rfl, rfl, .inr ⟨rfl, rfl, rfl⟩⟩, .inr ⟨_, (.tail _ (.head _)), rfl, rfl, rfl, rfl, rfl, .inr ⟨rfl, rfl, rfl⟩⟩, .inl ⟨4, rfl⟩, trivial⟩ _) st3.n st3.sl ⟨?s0, ?s1, ?s2, ?s3, ?s4, ?s5, trivial⟩ ?hdone
        case s0 =>
          refine k_run hBP (by kernel_rfl) fun listed ac Wd h hd => ⟨trivial, ?_⟩
          obtain ⟨v0, hv0, hV0⟩ := h.out (1, VI l1) (.head _) (by kernel_rfl)
          exact ⟨_, run_move rfl, by rw [hv0]; exact hV0⟩
        case s1 =>
          refine k_call hBP (by kernel_rfl) (fun _ _ => rfl) fun listed ac Wd h hd => ⟨trivial, ?_⟩
          obtain ⟨v0, hv0, -, hV0⟩ := h.dep hd 0 25 (by kernel_rfl) (by kernel_rfl)
          exact ⟨#[v0, .int .i64 (0)], by simp [hv0, eval_const], cNumberX (show VI l1 v0 Wd from hV0)⟩
        case s2 =>
          exact k_load hBP (by kernel_rfl) (.head _) rfl rfl rfl rfl Tryd.underlying24 rfl size_Int fun listed ac Wd h hd => ⟨trivial, trivial⟩
        case s3 =>
          refine k_call hBP (by kernel_rfl) (fun _ _ => rfl) fun listed ac Wd h hd => ⟨trivial, ?_⟩
          obtain ⟨v0, hv0, -, hV0⟩ := h.dep hd 1 26 (by kernel_rfl) (by kernel_rfl)
          obtain ⟨v1, hv1, -, hV1⟩ := h.dep hd 2 27 (by kernel_rfl) (by kernel_rfl)
          exact ⟨#[v0, v1], by simp [hv0, hv1], cRMulX (show Vex (fun z => Vz 6 z) v0 Wd from hV0) (show Vz 6 (z) v1 Wd from hV1)⟩
        case s4 =>
          exact k_alloc hBP (B1 := [⟨7, none, none, 24, 2, Vz 6 (z), VT⟩, ⟨8, none, none, 24, 2, Vz 12 (X), VT⟩]) (B2 := []) rfl (by kernel_rfl) rfl rfl rfl alloc_Int rfl noint_Int (.inr ⟨_, rfl, by decide⟩) rfl fun listed ac Wd h hd => ⟨trivial, trivial⟩
        case s5 =>
          refine k_store hBP (B1 := [⟨7, none, none, 24, 2, Vz 6 (z), VT⟩, ⟨8, none, none, 24, 2, Vz 12 (X), VT⟩]) (B2 := []) rfl (by kernel_rfl) (by kernel_rfl) rfl rfl (by kernel_rfl) rfl rfl size_Int fun listed ac Wd h hd => ⟨trivial, listed_dep hd 4 (by kernel_rfl), ?_⟩
          obtain ⟨v0, hv0, -, hV0⟩ := h.dep hd 3 28 (by kernel_rfl) (by kernel_rfl)
          exact agg_store (AggV_Vex (fun z => AggV_Vz 12 z)) hv0 hV0
        case hdone =>
          intro listed a4 w4 hall kd
          have st4 : St w.heap.size w 120 [⟨7, none, none, 24, 2, Vz 6 (z), VT⟩, ⟨8, none, none, 24, 2, Vz 12 (X), VT⟩, ⟨9, none, none, 24, 2, Vex (fun x => Vz 12 x), VT⟩] [(6, Vb (false))] a4 w4 := kd.st hall st3.size st3.defers (by kernel_rfl) _ ⟨.inl ⟨(.tail _ (.head _)), by kernel_rfl⟩, trivial⟩
          clear kd hall hBP st3
          change Code.wp _ _ _ _ _
          obtain ⟨Y, st4⟩ := St.exB (L1 := [⟨7, none, none, 24, 2, Vz 6 (z), VT⟩, ⟨8, none, none, 24, 2, Vz 12 (X), VT⟩]) (L2 := []) st4
          replace st4 : St w.heap.size w 120 [⟨7, none, none, 24, 2, Vz 6 (z), VT⟩, ⟨8, none, none, 24, 2, Vz 12 (X), VT⟩, ⟨9, none, none, 24, 2, Vz 12 (Y), VT⟩] [(6, Vb (false))] a4 w4 := st4
          repeat (first | refine wp_seq ?_ | refine wp_block ?_ | (refine wp_skip ?_; change Code.wp _ _ _ _ _) | (refine wp_exit ?_; change Code.wp _ _ _ _ _))
          have hBP : ∀ bd ∈ ([⟨7, none, none, 24, 2, Vz 6 (z), VT⟩, ⟨8, none, none, 24, 2, Vz 12 (X), VT⟩, ⟨9, none, none, 24, 2, Vz 12 (Y), VT⟩, ⟨10, some 6, some 8, 24, 2, Vz 12 (dq (X) (Y)), VT⟩, ⟨11, some 7, some 9, 24, 2, Vz 12 (dr (X) (Y)), VT⟩] : List Bd), bd.stab := (List.forall_mem_cons.2 ⟨⟨Stab_Vz _ _, Stab_VT⟩, (List.forall_mem_cons.2 ⟨⟨Stab_Vz _ _, Stab_VT⟩, (List.forall_mem_cons.2 ⟨⟨Stab_Vz _ _, Stab_VT⟩, (List.forall_mem_cons.2 ⟨⟨Stab_Vz _ _, Stab_VT⟩, (List.forall_mem_cons.2 ⟨⟨Stab_Vz _ _, Stab_VT⟩, (fun _ h => absurd h (by simp))⟩)⟩)⟩)⟩)⟩)
          refine region_k (V := fun i => ([Vz 12 (X), Vz 12 (Y), VTup (Vz 12 (dq (X) (Y))) (Vz 12 (dr (X) (Y))), VTup (Vz 12 (dq (X) (Y))) (Vz 12 (dr (X) (Y))), Vz 12 (dq (X) (Y)), Vz 12 (dr (X) (Y)), VT, VT, VT, VT] : List VP).getD i VT) (B := [⟨7, none, none, 24, 2, Vz 6 (z), VT⟩, ⟨8, none, none, 24, 2, Vz 12 (X), VT⟩, ⟨9, none, none, 24, 2, Vz 12 (Y), VT⟩, ⟨10, some 6, some 8, 24, 2, Vz 12 (dq (X) (Y)), VT⟩, ⟨11, some 7, some 9, 24, 2, Vz 12 (dr (X) (Y)), VT⟩]) (SL := [(6, Vb (false))]) (by kernel_rfl) (by kernel_rfl) (by kernel_rfl) (by rw [st4.size]; rfl) hBP (List.forall_mem_cons.2 ⟨Stab_Vb _, (fun _ h => absurd h (by simp))⟩) (stab_of ⟨Stab_Vz _ _, Stab_Vz _ _, Stab_VTup (Stab_Vz _ _) (Stab_Vz _ _), Stab_VTup (Stab_Vz _ _) (Stab_Vz _ _), Stab_Vz _ _, Stab_Vz _ _, Stab_VT, Stab_VT, Stab_VT, Stab_VT, trivial⟩) (st4.start (B := [⟨7, none, none, 24, 2, Vz 6 (z), VT⟩, ⟨8, none, none, 24, 2, Vz 12 (X), VT⟩, ⟨9, none, none, 24, 2, Vz 12 (Y), VT⟩, ⟨10, some 6, some 8, 24, 2, Vz 12 (dq (X) (Y)), VT⟩, ⟨11, some 7, some 9, 24, 2, Vz 12 (dr (X) (Y)), VT⟩]) ⟨.inr ⟨_, (.head _), rfl, rfl, rfl, rfl, rfl, .inr ⟨rfl, rfl, rfl⟩⟩, .inr ⟨_, (.tail _ (.head _)), rfl, rfl, rfl, rfl, rfl, .inr ⟨rfl, rfl, rfl⟩⟩, .inr ⟨_, (.tail _ (.tail _ (.head _))), rfl, rfl, rfl, rfl, rfl, .inr ⟨rfl, rfl, rfl⟩⟩, .inl ⟨6, rfl⟩, .inl ⟨7, rfl⟩, trivial⟩ _) st4.n st4.sl ⟨?s0, ?s1, ?s2, ?s3, ?s4, ?s5, ?s6, ?s7, ?s8, ?s9, trivial⟩ ?hdone
          case s0 =>
            exact k_load hBP (by kernel_rfl) (.tail _ (.head _)) rfl rfl rfl rfl Tryd.underlying24 rfl size_Int fun listed ac Wd h hd => ⟨trivial, trivial⟩
          case s1 =>
            exact k_load hBP (by kernel_rfl) (.tail _ (.tail _ (.head _))) rfl rfl rfl rfl Tryd.underlying24 rfl size_Int fun listed ac Wd h hd => ⟨trivial, trivial⟩
          case s2 =>
            refine k_call hBP (by kernel_rfl) (fun _ _ => rfl) fun listed ac Wd h hd => ⟨trivial, ?_⟩
            obtain ⟨v0, hv0, -, hV0⟩ := h.dep hd 0 30 (by kernel_rfl) (by kernel_rfl)
            obtain ⟨v1, hv1, -, hV1⟩ := h.dep hd 1 31 (by kernel_rfl) (by kernel_rfl)
            exact ⟨#[v0, v1], by simp [hv0, hv1], (cDiv (show Vz 12 (X) v0 Wd from hV0) (show Vz 12 (Y) v1 Wd from hV1) (by omega) (by omega)).mono fun e w' h => h.tup⟩
          case s3 =>
            refine k_run hBP (by kernel_rfl) fun listed ac Wd h hd => ⟨trivial, ?_⟩
            obtain ⟨v0, hv0, -, hV0⟩ := h.dep hd 2 32 (by kernel_rfl) (by kernel_rfl)
            exact ⟨_, run_move rfl, by rw [hv0]; exact hV0⟩
          case s4 =>
            refine k_run hBP (by kernel_rfl) fun listed ac Wd h hd => ⟨trivial, ?_⟩
            obtain ⟨v0, hv0, -, hV0⟩ := h.dep hd 3 29 (by kernel_rfl) (by kernel_rfl)
            obtain ⟨tx, ty, rfl, hx, hy⟩ := hV0
            exact ⟨_, run_extract0 rfl hv0, hx⟩
          case s5 =>
            refine k_run hBP (by kernel_rfl) fun listed ac Wd h hd => ⟨trivial, ?_⟩
            obtain ⟨v0, hv0, -, hV0⟩ := h.dep hd 3 29 (by kernel_rfl) (by kernel_rfl)
            obtain ⟨tx, ty, rfl, hx, hy⟩ := hV0
            exact ⟨_, run_extract1 rfl hv0, hy⟩
          case s6 =>
            exact k_alloc hBP (B1 := [⟨7, none, none, 24, 2, Vz 6 (z), VT⟩, ⟨8, none, none, 24, 2, Vz 12 (X), VT⟩, ⟨9, none, none, 24, 2, Vz 12 (Y), VT⟩]) (B2 := [⟨11, some 7, some 9, 24, 2, Vz 12 (dr (X) (Y)), VT⟩]) rfl (by kernel_rfl) rfl rfl rfl alloc_Int rfl noint_Int (.inr ⟨_, rfl, by decide⟩) rfl fun listed ac Wd h hd => ⟨trivial, trivial⟩
          case s7 =>
            exact k_alloc hBP (B1 := [⟨7, none, none, 24, 2, Vz 6 (z), VT⟩, ⟨8, none, none, 24, 2, Vz 12 (X), VT⟩, ⟨9, none, none, 24, 2, Vz 12 (Y), VT⟩, ⟨10, some 6, some 8, 24, 2, Vz 12 (dq (X) (Y)), VT⟩]) (B2 := []) rfl (by kernel_rfl) rfl rfl rfl alloc_Int rfl noint_Int (.inr ⟨_, rfl, by decide⟩) rfl fun listed ac Wd h hd => ⟨trivial, trivial⟩
          case s8 =>
            refine k_store hBP (B1 := [⟨7, none, none, 24, 2, Vz 6 (z), VT⟩, ⟨8, none, none, 24, 2, Vz 12 (X), VT⟩, ⟨9, none, none, 24, 2, Vz 12 (Y), VT⟩]) (B2 := [⟨11, some 7, some 9, 24, 2, Vz 12 (dr (X) (Y)), VT⟩]) rfl (by kernel_rfl) (by kernel_rfl) rfl rfl (by kernel_rfl) rfl rfl size_Int fun listed ac Wd h hd => ⟨trivial, listed_dep hd 6 (by kernel_rfl), ?_⟩
            obtain ⟨v0, hv0, -, hV0⟩ := h.dep hd 4 33 (by kernel_rfl) (by kernel_rfl)
            exact agg_store (AggV_Vz _ _) hv0 hV0
          case s9 =>
            refine k_store hBP (B1 := [⟨7, none, none, 24, 2, Vz 6 (z), VT⟩, ⟨8, none, none, 24, 2, Vz 12 (X), VT⟩, ⟨9, none, none, 24, 2, Vz 12 (Y), VT⟩, ⟨10, some 6, some 8, 24, 2, Vz 12 (dq (X) (Y)), VT⟩]) (B2 := []) rfl (by kernel_rfl) (by kernel_rfl) rfl rfl (by kernel_rfl) rfl rfl size_Int fun listed ac Wd h hd => ⟨trivial, listed_dep hd 7 (by kernel_rfl), ?_⟩
            obtain ⟨v0, hv0, -, hV0⟩ := h.dep hd 5 34 (by kernel_rfl) (by kernel_rfl)
            exact agg_store (AggV_Vz _ _) hv0 hV0
          case hdone =>
            intro listed a5 w5 hall kd
            have st5 : St w.heap.size w 120 [⟨7, none, none, 24, 2, Vz 6 (z), VT⟩, ⟨8, none, none, 24, 2, Vz 12 (X), VT⟩, ⟨9, none, none, 24, 2, Vz 12 (Y), VT⟩, ⟨10, none, none, 24, 2, Vz 12 (dq (X) (Y)), VT⟩, ⟨11, none, none, 24, 2, Vz 12 (dr (X) (Y)), VT⟩] [(6, Vb (false))] a5 w5 := kd.st hall st4.size st4.defers (by kernel_rfl) _ ⟨.inl ⟨(.head _), by kernel_rfl⟩, trivial⟩
            clear kd hall hBP st4
            change Code.wp _ _ _ _ _
            repeat (first | refine wp_seq ?_ | refine wp_block ?_ | (refine wp_skip ?_; change Code.wp _ _ _ _ _) | (refine wp_exit ?_; change Code.wp _ _ _ _ _))
            have hBP : ∀ bd ∈ ([⟨7, none, none, 24, 2, Vz 6 (z), VT⟩, ⟨8, none, none, 24, 2, Vz 12 (X), VT⟩, ⟨9, none, none, 24, 2, Vz 12 (Y), VT⟩, ⟨10, none, none, 24, 2, Vz 12 (dq (X) (Y)), VT⟩, ⟨11, none, none, 24, 2, Vz 12 (dr (X) (Y)), VT⟩, ⟨12, some 1, some 2, 24, 2, Vz 12 (Y), VT⟩] : List Bd), bd.stab := (List.forall_mem_cons.2 ⟨⟨Stab_Vz _ _, Stab_VT⟩, (List.forall_mem_cons.2 ⟨⟨Stab_Vz _ _, Stab_VT⟩, (List.forall_mem_cons.2 ⟨⟨Stab_Vz _ _, Stab_VT⟩, (List.forall_mem_cons.2 ⟨⟨Stab_Vz _ _, Stab_VT⟩, (List.forall_mem_cons.2 ⟨⟨Stab_Vz _ _, Stab_VT⟩, (List.forall_mem_cons.2 ⟨⟨Stab_Vz _ _, Stab_VT⟩, (fun _ h => absurd h (by simp))⟩)⟩)⟩)⟩)⟩)⟩)
            refine region_k (V := fun i => ([Vz 12 (Y), VT, VT] : List VP).getD i VT) (B := [⟨7, none, none, 24, 2, Vz 6 (z), VT⟩, ⟨8, none, none, 24, 2, Vz 12 (X), VT⟩, ⟨9, none, none, 24, 2, Vz 12 (Y), VT⟩, ⟨10, none, none, 24, 2, Vz 12 (dq (X) (Y)), VT⟩, ⟨11, none, none, 24, 2, Vz 12 (dr (X) (Y)), VT⟩, ⟨12, some 1, some 2, 24, 2, Vz 12 (Y), VT⟩]) (SL := [(6, Vb (false))]) (by kernel_rfl) (by kernel_rfl) (by kernel_rfl) (by rw [st5.size]; rfl) hBP (List.forall_mem_cons.2 ⟨Stab_Vb _, (fun _ h => absurd h (by simp))⟩) (stab_of ⟨Stab_Vz _ _, Stab_VT, Stab_VT, trivial⟩) (st5.start (B := [⟨7, none, none, 24, 2, Vz 6 (z), VT⟩, ⟨8, none, none, 24, 2, Vz 12 (X), VT⟩, ⟨9, none, none, 24, 2, Vz 12 (Y), VT⟩, ⟨10, none, none, 24, 2, Vz 12 (dq (X) (Y)), VT⟩, ⟨11, none, none, 24, 2, Vz 12 (dr (X) (Y)), VT⟩, ⟨12, some 1, some 2, 24, 2, Vz 12 (Y), VT⟩]) ⟨.inr ⟨_, (.head _), rfl, rfl, rfl, rfl, rfl, .inr ⟨rfl, rfl, rfl⟩⟩, .inr ⟨_, (.tail _ (.head _)), rfl, rfl, rfl, rfl, rfl, .inr ⟨rfl, rfl, rfl⟩⟩, .inr ⟨_, (.tail _ (.tail _ (.head _))), rfl, rfl, rfl, rfl, rfl, .inr ⟨rfl, rfl, rfl⟩⟩, .inr ⟨_, (.tail _ (.tail _ (.tail _ (.head _)))), rfl, rfl, rfl, rfl, rfl, .inr ⟨rfl, rfl, rfl⟩⟩, .inr ⟨_, (.tail _ (.tail _ (.tail _ (.tail _ (.head _))))), rfl, rfl, rfl, rfl, rfl, .inr ⟨rfl, rfl, rfl⟩⟩, .inl ⟨1, rfl⟩, trivial⟩ _) st5.n st5.sl ⟨?s0, ?s1, ?s2, trivial⟩ ?hdone
            case s0 =>
              exact k_load hBP (by kernel_rfl) (.tail _ (.tail _ (.head _))) rfl rfl rfl rfl Tryd.underlying24 rfl size_Int fun listed ac Wd h hd => ⟨trivial, trivial⟩
            case s1 =>
              exact k_alloc hBP (B1 := [⟨7, none, none, 24, 2, Vz 6 (z), VT⟩, ⟨8, none, none, 24, 2, Vz 12 (X), VT⟩, ⟨9, none, none, 24, 2, Vz 12 (Y), VT⟩, ⟨10, none, none, 24, 2, Vz 12 (dq (X) (Y)), VT⟩, ⟨11, none, none, 24, 2, Vz 12 (dr (X) (Y)), VT⟩]) (B2 := []) rfl (by kernel_rfl) rfl rfl rfl alloc_Int rfl noint_Int (.inr ⟨_, rfl, by decide⟩) rfl fun listed ac Wd h hd => ⟨trivial, trivial⟩
            case s2 =>
              refine k_store hBP (B1 := [⟨7, none, none, 24, 2, Vz 6 (z), VT⟩, ⟨8, none, none, 24, 2, Vz 12 (X), VT⟩, ⟨9, none, none, 24, 2, Vz 12 (Y), VT⟩, ⟨10, none, none, 24, 2, Vz 12 (dq (X) (Y)), VT⟩, ⟨11, none, none, 24, 2, Vz 12 (dr (X) (Y)), VT⟩]) (B2 := []) rfl (by kernel_rfl) (by kernel_rfl) rfl rfl (by kernel_rfl) rfl rfl size_Int fun listed ac Wd h hd => ⟨trivial, listed_dep hd 1 (by kernel_rfl), ?_⟩
              obtain ⟨v0, hv0, -, hV0⟩ := h.dep hd 0 35 (by kernel_rfl) (by kernel_rfl)
              exact agg_store (AggV_Vz _ _) hv0 hV0
            case hdone =>
              intro listed a6 w6 hall kd
              have st6 : St w.heap.size w 120 [⟨7, none, none, 24, 2, Vz 6 (z), VT⟩, ⟨8, none, none, 24, 2, Vz 12 (X), VT⟩, ⟨9, none, none, 24, 2, Vz 12 (Y), VT⟩, ⟨10, none, none, 24, 2, Vz 12 (dq (X) (Y)), VT⟩, ⟨11, none, none, 24, 2, Vz 12 (dr (X) (Y)), VT⟩, ⟨12, none, none, 24, 2, Vz 12 (Y), VT⟩] [(6, Vb (false))] a6 w6 := kd.st hall st5.size st5.defers (by kernel_rfl) _ ⟨.inl ⟨(.head _), by kernel_rfl⟩, trivial⟩
              clear kd hall hBP st5
              change Code.wp _ _ _ _ _
              by_cases hl : Y < 0
              ·
                have hY : Y ≠ 0 := by omega
                repeat (first | refine wp_seq ?_ | refine wp_block ?_ | (refine wp_skip ?_; change Code.wp _ _ _ _ _) | (refine wp_exit ?_; change Code.wp _ _ _ _ _))
                have hBP : ∀ bd ∈ ([⟨7, none, none, 24, 2, Vz 6 (z), VT⟩, ⟨8, none, none, 24, 2, Vz 12 (X), VT⟩, ⟨9, none, none, 24, 2, Vz 12 (Y), VT⟩, ⟨10, none, none, 24, 2, Vz 12 (dq (X) (Y)), VT⟩, ⟨11, none, none, 24, 2, Vz 12 (dr (X) (Y)), VT⟩, ⟨12, none, none, 24, 2, Vz 12 (Y), VT⟩] : List Bd), bd.stab := (List.forall_mem_cons.2 ⟨⟨Stab_Vz _ _, Stab_VT⟩, (List.forall_mem_cons.2 ⟨⟨Stab_Vz _ _, Stab_VT⟩, (List.forall_mem_cons.2 ⟨⟨Stab_Vz _ _, Stab_VT⟩, (List.forall_mem_cons.2 ⟨⟨Stab_Vz _ _, Stab_VT⟩, (List.forall_mem_cons.2 ⟨⟨Stab_Vz _ _, Stab_VT⟩, (List.forall_mem_cons.2 ⟨⟨Stab_Vz _ _, Stab_VT⟩, (fun _ h => absurd h (by simp))⟩)⟩)⟩)⟩)⟩)⟩)
                refine region_k (V := fun i => ([Vz 12 (Y), Vi (cmpI (Y) 0), Vb (true)] : List VP).getD i VT) (B := [⟨7, none, none, 24, 2, Vz 6 (z), VT⟩, ⟨8, none, none, 24, 2, Vz 12 (X), VT⟩, ⟨9, none, none, 24, 2, Vz 12 (Y), VT⟩, ⟨10, none, none, 24, 2, Vz 12 (dq (X) (Y)), VT⟩, ⟨11, none, none, 24, 2, Vz 12 (dr (X) (Y)), VT⟩, ⟨12, none, none, 24, 2, Vz 12 (Y), VT⟩]) (SL := [(6, Vb (false))]) (by kernel_rfl) (by kernel_rfl) (by kernel_rfl) (by rw [st6.size]; rfl) hBP (List.forall_mem_cons.2 ⟨Stab_Vb _, (fun _ h => absurd h (by simp))⟩) (stab_of ⟨Stab_Vz _ _, Stab_Vi _, Stab_Vb _, trivial⟩) (st6.start (B := [⟨7, none, none, 24, 2, Vz 6 (z), VT⟩, ⟨8, none, none, 24, 2, Vz 12 (X), VT⟩, ⟨9, none, none, 24, 2, Vz 12 (Y), VT⟩, ⟨10, none, none, 24, 2, Vz 12 (dq (X) (Y)), VT⟩, ⟨11, none, none, 24, 2, Vz 12 (dr (X) (Y)), VT⟩, ⟨12, none, none, 24, 2, Vz 12 (Y), VT⟩]) ⟨.inr ⟨_, (.head _), rfl, rfl, rfl, rfl, rfl, .inr ⟨rfl, rfl, rfl⟩⟩, .inr ⟨_, (.tail _ (.head _)), rfl, rfl, rfl, rfl, rfl, .inr ⟨rfl, rfl, rfl⟩⟩, .inr ⟨_, (.tail _ (.tail _ (.head _))), rfl, rfl, rfl, rfl, rfl, .inr ⟨rfl, rfl, rfl⟩⟩, .inr ⟨_, (.tail _ (.tail _ (.tail _ (.head _)))), rfl, rfl, rfl, rfl, rfl, .inr ⟨rfl, rfl, rfl⟩⟩, .inr ⟨_, (.tail _ (.tail _ (.tail _ (.tail _ (.head _))))), rfl, rfl, rfl, rfl, rfl, .inr ⟨rfl, rfl, rfl⟩⟩, .inr ⟨_, (.tail _ (.tail _ (.tail _ (.tail _ (.tail _ (.head _)))))), rfl, rfl, rfl, rfl, rfl, .inr ⟨rfl, rfl, rfl⟩⟩, trivial⟩ _) st6.n st6.sl ⟨?s0, ?s1, ?s2, trivial⟩ ?hdone
                case s0 =>
                  exact k_load hBP (by kernel_rfl) (.tail _ (.tail _ (.head _))) rfl rfl rfl rfl Tryd.underlying24 rfl size_Int fun listed ac Wd h hd => ⟨trivial, trivial⟩
                case s1 =>
                  refine k_call hBP (by kernel_rfl) (fun _ _ => rfl) fun listed ac Wd h hd => ⟨trivial, ?_⟩
                  obtain ⟨v0, hv0, -, hV0⟩ := h.dep hd 0 36 (by kernel_rfl) (by kernel_rfl)
                  exact ⟨#[v0], by simp [hv0], cSign (show Vz 12 (Y) v0 Wd from hV0) (by omega)⟩
                case s2 =>
                  refine k_run hBP (by kernel_rfl) fun listed ac Wd h hd => ⟨trivial, ?_⟩
                  obtain ⟨v0, hv0, -, hV0⟩ := h.dep hd 1 37 (by kernel_rfl) (by kernel_rfl)
                  have hV0' : v0 = .int .i64 (cmpI (Y) 0) := hV0
                  exact ⟨_, run_lssi rfl (hv0.trans hV0') rfl, congrArg Value.bool (by rw [cmp_lt hl]; rfl)⟩
                case hdone =>
                  intro listed a7 w7 hall kd
                  have st7 : St w.heap.size w 120 [⟨7, none, none, 24, 2, Vz 6 (z), VT⟩, ⟨8, none, none, 24, 2, Vz 12 (X), VT⟩, ⟨9, none, none, 24, 2, Vz 12 (Y), VT⟩, ⟨10, none, none, 24, 2, Vz 12 (dq (X) (Y)), VT⟩, ⟨11, none, none, 24, 2, Vz 12 (dr (X) (Y)), VT⟩, ⟨12, none, none, 24, 2, Vz 12 (Y), VT⟩] [(6, Vb (false)), (38, Vb (true))] a7 w7 := kd.st hall st6.size st6.defers (by kernel_rfl) _ ⟨.inl ⟨(.head _), by kernel_rfl⟩, .inr ⟨2, by kernel_rfl, rfl⟩, trivial⟩
                  clear kd hall hBP st6
                  change Code.wp _ _ _ _ _
                  repeat (first | refine wp_seq ?_ | refine wp_block ?_ | (refine wp_skip ?_; change Code.wp _ _ _ _ _) | (refine wp_exit ?_; change Code.wp _ _ _ _ _))
                  obtain ⟨vc, hc1, hc2⟩ := st7.slot (38, Vb (true)) (.tail _ (.head _))
                  refine wp_cond_true (hc1.trans hc2) ?_
                  clear hc1 hc2
                  repeat (first | refine wp_seq ?_ | refine wp_block ?_ | (refine wp_skip ?_; change Code.wp _ _ _ _ _) | (refine wp_exit ?_; change Code.wp _ _ _ _ _))
                  have hBP : ∀ bd ∈ ([⟨7, none, none, 24, 2, Vz 6 (z), VT⟩, ⟨8, none, none, 24, 2, Vz 12 (X), VT⟩, ⟨9, none, none, 24, 2, Vz 12 (Y), VT⟩, ⟨10, none, none, 24, 2, Vz 12 (dq (X) (Y)), VT⟩, ⟨11, none, none, 24, 2, Vz 12 (dr (X) (Y)), VT⟩, ⟨12, none, some 2, 24, 2, Vz 12 (-(Y)), Vz 12 (Y)⟩] : List Bd), bd.stab := (List.forall_mem_cons.2 ⟨⟨Stab_Vz _ _, Stab_VT⟩, (List.forall_mem_cons.2 ⟨⟨Stab_Vz _ _, Stab_VT⟩, (List.forall_mem_cons.2 ⟨⟨Stab_Vz _ _, Stab_VT⟩, (List.forall_mem_cons.2 ⟨⟨Stab_Vz _ _, Stab_VT⟩, (List.forall_mem_cons.2 ⟨⟨Stab_Vz _ _, Stab_VT⟩, (List.forall_mem_cons.2 ⟨⟨Stab_Vz _ _, Stab_Vz _ _⟩, (fun _ h => absurd h (by simp))⟩)⟩)⟩)⟩)⟩)⟩)
                  refine region_k (V := fun i => ([Vz 12 (Y), Vz 12 (-(Y)), VT] : List VP).getD i VT) (B := [⟨7, none, none, 24, 2, Vz 6 (z), VT⟩, ⟨8, none, none, 24, 2, Vz 12 (X), VT⟩, ⟨9, none, none, 24, 2, Vz 12 (Y), VT⟩, ⟨10, none, none, 24, 2, Vz 12 (dq (X) (Y)), VT⟩, ⟨11, none, none, 24, 2, Vz 12 (dr (X) (Y)), VT⟩, ⟨12, none, some 2, 24, 2, Vz 12 (-(Y)), Vz 12 (Y)⟩]) (SL := [(6, Vb (false)), (38, Vb (true))]) (by kernel_rfl) (by kernel_rfl) (by kernel_rfl) (by rw [st7.size]; rfl) hBP (List.forall_mem_cons.2 ⟨Stab_Vb _, (List.forall_mem_cons.2 ⟨Stab_Vb _, (fun _ h => absurd h (by simp))⟩)⟩) (stab_of ⟨Stab_Vz _ _, Stab_Vz _ _, Stab_VT, trivial⟩) (st7.start (B := [⟨7, none, none, 24, 2, Vz 6 (z), VT⟩, ⟨8, none, none, 24, 2, Vz 12 (X), VT⟩, ⟨9, none, none, 24, 2, Vz 12 (Y), VT⟩, ⟨10, none, none, 24, 2, Vz 12 (dq (X) (Y)), VT⟩, ⟨11, none, none, 24, 2, Vz 12 (dr (X) (Y)), VT⟩, ⟨12, none, some 2, 24, 2, Vz 12 (-(Y)), Vz 12 (Y)⟩]) ⟨.inr ⟨_, (.head _), rfl, rfl, rfl, rfl, rfl, .inr ⟨rfl, rfl, rfl⟩⟩, .inr ⟨_, (.tail _ (.head _)), rfl, rfl, rfl, rfl, rfl, .inr ⟨rfl, rfl, rfl⟩⟩, .inr ⟨_, (.tail _ (.tail _ (.head _))), rfl, rfl, rfl, rfl, rfl, .inr ⟨rfl, rfl, rfl⟩⟩, .inr ⟨_, (.tail _ (.tail _ (.tail _ (.head _)))), rfl, rfl, rfl, rfl, rfl, .inr ⟨rfl, rfl, rfl⟩⟩, .inr ⟨_, (.tail _ (.tail _ (.tail _ (.tail _ (.head _))))), rfl, rfl, rfl, rfl, rfl, .inr ⟨rfl, rfl, rfl⟩⟩, .inr ⟨_, (.tail _ (.tail _ (.tail _ (.tail _ (.tail _ (.head _)))))), rfl, rfl, rfl, rfl, rfl, .inl ⟨2, rfl, rfl, rfl⟩⟩, trivial⟩ _) st7.n st7.sl ⟨?s0, ?s1, ?s2, trivial⟩ ?hdone
                  case s0 =>
                    exact k_load hBP (by kernel_rfl) (.tail _ (.tail _ (.head _))) rfl rfl rfl rfl Tryd.underlying24 rfl size_Int fun listed ac Wd h hd => ⟨trivial, trivial⟩
                  case s1 =>
                    refine k_call hBP (by kernel_rfl) (fun _ _ => rfl) fun listed ac Wd h hd => ⟨trivial, ?_⟩
                    obtain ⟨v0, hv0, -, hV0⟩ := h.dep hd 0 39 (by kernel_rfl) (by kernel_rfl)
                    exact ⟨#[v0], by simp [hv0], cNeg (show Vz 12 (Y) v0 Wd from hV0) (by omega)⟩
                  case s2 =>
                    refine k_store hBP (B1 := [⟨7, none, none, 24, 2, Vz 6 (z), VT⟩, ⟨8, none, none, 24, 2, Vz 12 (X), VT⟩, ⟨9, none, none, 24, 2, Vz 12 (Y), VT⟩, ⟨10, none, none, 24, 2, Vz 12 (dq (X) (Y)), VT⟩, ⟨11, none, none, 24, 2, Vz 12 (dr (X) (Y)), VT⟩]) (B2 := []) rfl (by kernel_rfl) (by kernel_rfl) rfl rfl (by kernel_rfl) rfl rfl size_Int fun listed ac Wd h hd => ⟨trivial, rfl, ?_⟩
                    obtain ⟨v0, hv0, -, hV0⟩ := h.dep hd 1 40 (by kernel_rfl) (by kernel_rfl)
                    exact agg_store (AggV_Vz _ _) hv0 hV0
                  case hdone =>
                    intro listed a8 w8 hall kd
                    have st8 : St w.heap.size w 120 [⟨7, none, none, 24, 2, Vz 6 (z), VT⟩, ⟨8, none, none, 24, 2, Vz 12 (X), VT⟩, ⟨9, none, none, 24, 2, Vz 12 (Y), VT⟩, ⟨10, none, none, 24, 2, Vz 12 (dq (X) (Y)), VT⟩, ⟨11, none, none, 24, 2, Vz 12 (dr (X) (Y)), VT⟩, ⟨12, none, none, 24, 2, Vz 12 (-(Y)), VT⟩] [(6, Vb (false)), (38, Vb (true))] a8 w8 := kd.st hall st7.size st7.defers (by kernel_rfl) _ ⟨.inl ⟨(.head _), by kernel_rfl⟩, .inl ⟨(.tail _ (.head _)), by kernel_rfl⟩, trivial⟩
                    clear kd hall hBP st7
                    change Code.wp _ _ _ _ _
                    repeat (first | refine wp_seq ?_ | refine wp_block ?_ | (refine wp_skip ?_; change Code.wp _ _ _ _ _) | (refine wp_exit ?_; change Code.wp _ _ _ _ _))
                    have hBP : ∀ bd ∈ ([⟨7, none, none, 24, 2, Vz 6 (z), VT⟩, ⟨8, none, none, 24, 2, Vz 12 (X), VT⟩, ⟨9, none, none, 24, 2, Vz 12 (Y), VT⟩, ⟨10, none, none, 24, 2, Vz 12 (dq (X) (Y)), VT⟩, ⟨11, none, none, 24, 2, Vz 12 (dr (X) (Y)), VT⟩, ⟨12, none, none, 24, 2, Vz 12 (-(Y)), VT⟩] : List Bd), bd.stab := (List.forall_mem_cons.2 ⟨⟨Stab_Vz _ _, Stab_VT⟩, (List.forall_mem_cons.2 ⟨⟨Stab_Vz _ _, Stab_VT⟩, (List.forall_mem_cons.2 ⟨⟨Stab_Vz _ _, Stab_VT⟩, (List.forall_mem_cons.2 ⟨⟨Stab_Vz _ _, Stab_VT⟩, (List.forall_mem_cons.2 ⟨⟨Stab_Vz _ _, Stab_VT⟩, (List.forall_mem_cons.2 ⟨⟨Stab_Vz _ _, Stab_VT⟩, (fun _ h => absurd h (by simp))⟩)⟩)⟩)⟩)⟩)⟩)
                    refine region_k (V := fun i => ([Vz 12 (Y), Vi (cmpI (Y) 0), Vb (false)] : List VP).getD i VT) (B := [⟨7, none, none, 24, 2, Vz 6 (z), VT⟩, ⟨8, none, none, 24, 2, Vz 12 (X), VT⟩, ⟨9, none, none, 24, 2, Vz 12 (Y), VT⟩, ⟨10, none, none, 24, 2, Vz 12 (dq (X) (Y)), VT⟩, ⟨11, none, none, 24, 2, Vz 12 (dr (X) (Y)), VT⟩, ⟨12, none, none, 24, 2, Vz 12 (-(Y)), VT⟩]) (SL := [(6, Vb (false)), (38, Vb (true))]) (by kernel_rfl) (by kernel_rfl) (by kernel_rfl) (by rw [st8.size]; rfl) hBP (List.forall_mem_cons.2 ⟨Stab_Vb _, (List.forall_mem_cons.2 ⟨Stab_Vb _, (fun _ h => absurd h (by simp))⟩)⟩) (stab_of ⟨Stab_Vz _ _, Stab_Vi _, Stab_Vb _, trivial⟩) (st8.start (B := [⟨7, none, none, 24, 2, Vz 6 (z), VT⟩, ⟨8, none, none, 24, 2, Vz 12 (X), VT⟩, ⟨9, none, none, 24, 2, Vz 12 (Y), VT⟩, ⟨10, none, none, 24, 2, Vz 12 (dq (X) (Y)), VT⟩, ⟨11, none, none, 24, 2, Vz 12 (dr (X) (Y)), VT⟩, ⟨12, none, none, 24, 2, Vz 12 (-(Y)), VT⟩]) ⟨.inr ⟨_, (.head _), rfl, rfl, rfl, rfl, rfl, .inr ⟨rfl, rfl, rfl⟩⟩, .inr ⟨_, (.tail _ (.head _)), rfl, rfl, rfl, rfl, rfl, .inr ⟨rfl, rfl, rfl⟩⟩, .inr ⟨_, (.tail _ (.tail _ (.head _))), rfl, rfl, rfl, rfl, rfl, .inr ⟨rfl, rfl, rfl⟩⟩, .inr ⟨_, (.tail _ (.tail _ (.tail _ (.head _)))), rfl, rfl, rfl, rfl, rfl, .inr ⟨rfl, rfl, rfl⟩⟩, .inr ⟨_, (.tail _ (.tail _ (.tail _ (.tail _ (.head _))))), rfl, rfl, rfl, rfl, rfl, .inr ⟨rfl, rfl, rfl⟩⟩, .inr ⟨_, (.tail _ (.tail _ (.tail _ (.tail _ (.tail _ (.head _)))))), rfl, rfl, rfl, rfl, rfl, .inr ⟨rfl, rfl, rfl⟩⟩, trivial⟩ _) st8.n st8.sl ⟨?s0, ?s1, ?s2, trivial⟩ ?hdone
                    case s0 =>
                      exact k_load hBP (by kernel_rfl) (.tail _ (.tail _ (.head _))) rfl rfl rfl rfl Tryd.underlying24 rfl size_Int fun listed ac Wd h hd => ⟨trivial, trivial⟩
                    case s1 =>
                      refine k_call hBP (by kernel_rfl) (fun _ _ => rfl) fun listed ac Wd h hd => ⟨trivial, ?_⟩
                      obtain ⟨v0, hv0, -, hV0⟩ := h.dep hd 0 41 (by kernel_rfl) (by kernel_rfl)
                      exact ⟨#[v0], by simp [hv0], cSign (show Vz 12 (Y) v0 Wd from hV0) (by omega)⟩
                    case s2 =>
                      refine k_run hBP (by kernel_rfl) fun listed ac Wd h hd => ⟨trivial, ?_⟩
                      obtain ⟨v0, hv0, -, hV0⟩ := h.dep hd 1 42 (by kernel_rfl) (by kernel_rfl)
                      have hV0' : v0 = .int .i64 (cmpI (Y) 0) := hV0
                      exact ⟨_, run_eqi rfl (hv0.trans hV0') rfl, congrArg Value.bool (by rw [cmp0]; exact decide_eq_false hY)⟩
                    case hdone =>
                      intro listed a9 w9 hall kd
                      have st9 : St w.heap.size w 120 [⟨7, none, none, 24, 2, Vz 6 (z), VT⟩, ⟨8, none, none, 24, 2, Vz 12 (X), VT⟩, ⟨9, none, none, 24, 2, Vz 12 (Y), VT⟩, ⟨10, none, none, 24, 2, Vz 12 (dq (X) (Y)), VT⟩, ⟨11, none, none, 24, 2, Vz 12 (dr (X) (Y)), VT⟩, ⟨12, none, none, 24, 2, Vz 12 (-(Y)), VT⟩] [(6, Vb (false)), (38, Vb (true)), (43, Vb (false))] a9 w9 := kd.st hall st8.size st8.defers (by kernel_rfl) _ ⟨.inl ⟨(.head _), by kernel_rfl⟩, .inl ⟨(.tail _ (.head _)), by kernel_rfl⟩, .inr ⟨2, by kernel_rfl, rfl⟩, trivial⟩
                      clear kd hall hBP st8
                      change Code.wp _ _ _ _ _
                      repeat (first | refine wp_seq ?_ | refine wp_block ?_ | (refine wp_skip ?_; change Code.wp _ _ _ _ _) | (refine wp_exit ?_; change Code.wp _ _ _ _ _))
                      obtain ⟨vc, hc1, hc2⟩ := st9.slot (43, Vb (false)) (.tail _ (.tail _ (.head _)))
                      refine wp_cond_false (hc1.trans hc2) ?_
                      clear hc1 hc2
                      repeat (first | refine wp_seq ?_ | refine wp_block ?_ | (refine wp_skip ?_; change Code.wp _ _ _ _ _) | (refine wp_exit ?_; change Code.wp _ _ _ _ _))
                      have hBP : ∀ bd ∈ ([⟨7, none, none, 24, 2, Vz 6 (z), VT⟩, ⟨8, none, none, 24, 2, Vz 12 (X), VT⟩, ⟨9, none, none, 24, 2, Vz 12 (Y), VT⟩, ⟨10, none, none, 24, 2, Vz 12 (dq (X) (Y)), VT⟩, ⟨11, none, none, 24, 2, Vz 12 (dr (X) (Y)), VT⟩, ⟨12, none, none, 24, 2, Vz 12 (-(Y)), VT⟩] : List Bd), bd.stab := (List.forall_mem_cons.2 ⟨⟨Stab_Vz _ _, Stab_VT⟩, (List.forall_mem_cons.2 ⟨⟨Stab_Vz _ _, Stab_VT⟩, (List.forall_mem_cons.2 ⟨⟨Stab_Vz _ _, Stab_VT⟩, (List.forall_mem_cons.2 ⟨⟨Stab_Vz _ _, Stab_VT⟩, (List.forall_mem_cons.2 ⟨⟨Stab_Vz _ _, Stab_VT⟩, (List.forall_mem_cons.2 ⟨⟨Stab_Vz _ _, Stab_VT⟩, (fun _ h => absurd h (by simp))⟩)⟩)⟩)⟩)⟩)⟩)
                      refine region_k (V := fun i => ([Vz 12 (dq (X) (Y)), Vz 12 (Y), Vz (12 + 12) ((dq (X) (Y)) * (Y)), Vz 12 (dr (X) (Y)), Vz ((max (12 + 12) 12) + 1) (((dq (X) (Y)) * (Y)) + (dr (X) (Y))), Vz 12 (X), Vb (true), Vb (false), Vb (false), Vz 12 (dr (X) (Y)), Vi (cmpI (dr (X) (Y)) 0), Vb (false), Vb (false), Vb (false), Vz 12 (dr (X) (Y)), Vz 12 (-(Y)), Vi (cmpI (dr (X) (Y)) (-(Y))), Vb (false), Vb (false)] : List VP).getD i VT) (B := [⟨7, none, none, 24, 2, Vz 6 (z), VT⟩, ⟨8, none, none, 24, 2, Vz 12 (X), VT⟩, ⟨9, none, none, 24, 2, Vz 12 (Y), VT⟩, ⟨10, none, none, 24, 2, Vz 12 (dq (X) (Y)), VT⟩, ⟨11, none, none, 24, 2, Vz 12 (dr (X) (Y)), VT⟩, ⟨12, none, none, 24, 2, Vz 12 (-(Y)), VT⟩]) (SL := [(6, Vb (false)), (38, Vb (true)), (43, Vb (false))]) (by kernel_rfl) (by kernel_rfl) (by kernel_rfl) (by rw [st9.size]; rfl) hBP (List.forall_mem_cons.2 ⟨Stab_Vb _, (List.forall_mem_cons.2 ⟨Stab_Vb _, (List.forall_mem_cons.2 ⟨Stab_Vb _, (fun _ h => absurd h (by simp))⟩)⟩)⟩) (stab_of ⟨Stab_Vz _ _, Stab_Vz _ _, Stab_Vz _ _, Stab_Vz _ _, Stab_Vz _ _, Stab_Vz _ _, Stab_Vb _, Stab_Vb _, Stab_Vb _, Stab_Vz _ _, Stab_Vi _, Stab_Vb _, Stab_Vb _, Stab_Vb _, Stab_Vz _ _, Stab_Vz _ _, Stab_Vi _, Stab_Vb _, Stab_Vb _, trivial⟩) (st9.start (B := [⟨7, none, none, 24, 2, Vz 6 (z), VT⟩, ⟨8, none, none, 24, 2, Vz 12 (X), VT⟩, ⟨9, none, none, 24, 2, Vz 12 (Y), VT⟩, ⟨10, none, none, 24, 2, Vz 12 (dq (X) (Y)), VT⟩, ⟨11, none, none, 24, 2, Vz 12 (dr (X) (Y)), VT⟩, ⟨12, none, none, 24, 2, Vz 12 (-(Y)), VT⟩]) ⟨.inr ⟨_, (.head _), rfl, rfl, rfl, rfl, rfl, .inr ⟨rfl, rfl, rfl⟩⟩, .inr ⟨_, (.tail _ (.head _)), rfl, rfl, rfl, rfl, rfl, .inr ⟨rfl, rfl, rfl⟩⟩, .inr ⟨_, (.tail _ (.tail _ (.head _))), rfl, rfl, rfl, rfl, rfl, .inr ⟨rfl, rfl, rfl⟩⟩, .inr ⟨_, (.tail _ (.tail _ (.tail _ (.head _)))), rfl, rfl, rfl, rfl, rfl, .inr ⟨rfl, rfl, rfl⟩⟩, .inr ⟨_, (.tail _ (.tail _ (.tail _ (.tail _ (.head _))))), rfl, rfl, rfl, rfl, rfl, .inr ⟨rfl, rfl, rfl⟩⟩, .inr ⟨_, (.tail _ (.tail _ (.tail _ (.tail _ (.tail _ (.head _)))))), rfl, rfl, rfl, rfl, rfl, .inr ⟨rfl, rfl, rfl⟩⟩, trivial⟩ _) st9.n st9.sl ⟨?s0, ?s1, ?s2, ?s3, ?s4, ?s5, ?s6, ?s7, ?s8, ?s9, ?s10, ?s11, ?s12, ?s13, ?s14, ?s15, ?s16, ?s17, ?s18, trivial⟩ ?hdone
                      case s0 =>
                        exact k_load hBP (by kernel_rfl) (.tail _ (.tail _ (.tail _ (.head _)))) rfl rfl rfl rfl Tryd.underlying24 rfl size_Int fun listed ac Wd h hd => ⟨trivial, trivial⟩
                      case s1 =>
                        exact k_load hBP (by kernel_rfl) (.tail _ (.tail _ (.head _))) rfl rfl rfl rfl Tryd.underlying24 rfl size_Int fun listed ac Wd h hd => ⟨trivial, trivial⟩
                      case s2 =>
                        refine k_call hBP (by kernel_rfl) (fun _ _ => rfl) fun listed ac Wd h hd => ⟨trivial, ?_⟩
                        obtain ⟨v0, hv0, -, hV0⟩ := h.dep hd 0 55 (by kernel_rfl) (by kernel_rfl)
                        obtain ⟨v1, hv1, -, hV1⟩ := h.dep hd 1 56 (by kernel_rfl) (by kernel_rfl)
                        exact ⟨#[v0, v1], by simp [hv0, hv1], (cMul (show Vz 12 (dq (X) (Y)) v0 Wd from hV0) (show Vz 12 (Y) v1 Wd from hV1) (by omega) (by omega))⟩
                      case s3 =>
                        exact k_load hBP (by kernel_rfl) (.tail _ (.tail _ (.tail _ (.tail _ (.head _))))) rfl rfl rfl rfl Tryd.underlying24 rfl size_Int fun listed ac Wd h hd => ⟨trivial, trivial⟩
                      case s4 =>
                        refine k_call hBP (by kernel_rfl) (fun _ _ => rfl) fun listed ac Wd h hd => ⟨trivial, ?_⟩
                        obtain ⟨v0, hv0, -, hV0⟩ := h.dep hd 2 57 (by kernel_rfl) (by kernel_rfl)
                        obtain ⟨v1, hv1, -, hV1⟩ := h.dep hd 3 58 (by kernel_rfl) (by kernel_rfl)
                        exact ⟨#[v0, v1], by simp [hv0, hv1], (cAdd (show Vz (12 + 12) ((dq (X) (Y)) * (Y)) v0 Wd from hV0) (show Vz 12 (dr (X) (Y)) v1 Wd from hV1) (by omega) (by omega))⟩
                      case s5 =>
                        exact k_load hBP (by kernel_rfl) (.tail _ (.head _)) rfl rfl rfl rfl Tryd.underlying24 rfl size_Int fun listed ac Wd h hd => ⟨trivial, trivial⟩
                      case s6 =>
                        refine k_call hBP (by kernel_rfl) (fun _ _ => rfl) fun listed ac Wd h hd => ⟨trivial, ?_⟩
                        obtain ⟨v0, hv0, -, hV0⟩ := h.dep hd 4 59 (by kernel_rfl) (by kernel_rfl)
                        obtain ⟨v1, hv1, -, hV1⟩ := h.dep hd 5 60 (by kernel_rfl) (by kernel_rfl)
                        exact ⟨#[v0, v1], by simp [hv0, hv1], cSame (show Vz ((max (12 + 12) 12) + 1) (((dq (X) (Y)) * (Y)) + (dr (X) (Y))) v0 Wd from hV0) (show Vz 12 (X) v1 Wd from hV1) (by omega) (by omega) (dq_dr hY)⟩
                      case s7 =>
                        refine k_run hBP (by kernel_rfl) fun listed ac Wd h hd => ⟨trivial, ?_⟩
                        obtain ⟨v0, hv0, -, hV0⟩ := h.dep hd 6 61 (by kernel_rfl) (by kernel_rfl)
                        exact ⟨_, run_not rfl (hv0.trans hV0), rfl⟩
                      case s8 =>
                        refine k_run hBP (by kernel_rfl) fun listed ac Wd h hd => ⟨trivial, ?_⟩
                        obtain ⟨v0, hv0, -, hV0⟩ := h.dep hd 7 62 (by kernel_rfl) (by kernel_rfl)
                        exact ⟨_, run_move rfl, by rw [hv0]; exact hV0⟩
                      case s9 =>
                        exact k_load hBP (by kernel_rfl) (.tail _ (.tail _ (.tail _ (.tail _ (.head _))))) rfl rfl rfl rfl Tryd.underlying24 rfl size_Int fun listed ac Wd h hd => ⟨(by obtain ⟨u, hu, hy, hU⟩ := h.dep hd 8 63 (by kernel_rfl) (by kernel_rfl); obtain rfl : u = .bool false := hU; exact hy), trivial⟩
                      case s10 =>
                        refine k_call hBP (by kernel_rfl) (fun _ _ => rfl) fun listed ac Wd h hd => ⟨(by obtain ⟨u, hu, hy, hU⟩ := h.dep hd 8 63 (by kernel_rfl) (by kernel_rfl); obtain rfl : u = .bool false := hU; exact hy), ?_⟩
                        obtain ⟨v0, hv0, -, hV0⟩ := h.dep hd 9 64 (by kernel_rfl) (by kernel_rfl)
                        exact ⟨#[v0], by simp [hv0], cSign (show Vz 12 (dr (X) (Y)) v0 Wd from hV0) (by omega)⟩
                      case s11 =>
                        refine k_run hBP (by kernel_rfl) fun listed ac Wd h hd => ⟨(by obtain ⟨u, hu, hy, hU⟩ := h.dep hd 8 63 (by kernel_rfl) (by kernel_rfl); obtain rfl : u = .bool false := hU; exact hy), ?_⟩
                        obtain ⟨v0, hv0, -, hV0⟩ := h.dep hd 10 65 (by kernel_rfl) (by kernel_rfl)
                        have hV0' : v0 = .int .i64 (cmpI (dr (X) (Y)) 0) := hV0
                        exact ⟨_, run_lssi rfl (hv0.trans hV0') rfl, congrArg Value.bool (decide_eq_false (by have e := dr_lo (X := X) hY; rcases Int.lt_or_eq_of_le e with h1 | h1; (rw [cmp_gt h1]; omega); (rw [← h1, cmp_eq]; omega)))⟩
                      case s12 =>
                        refine k_run hBP (by kernel_rfl) fun listed ac Wd h hd => ⟨trivial, ?_⟩
                        obtain ⟨v0, hv0, -, hV0⟩ := h.dep hd 8 63 (by kernel_rfl) (by kernel_rfl)
                        obtain ⟨v1, hv1, -, hV1⟩ := h.dep hd 11 66 (by kernel_rfl) (by kernel_rfl)
                        exact ⟨_, run_pick_f rfl (hv0.trans hV0), by rw [hv1]; exact hV1⟩
                      case s13 =>
                        refine k_run hBP (by kernel_rfl) fun listed ac Wd h hd => ⟨trivial, ?_⟩
                        obtain ⟨v0, hv0, -, hV0⟩ := h.dep hd 12 67 (by kernel_rfl) (by kernel_rfl)
                        exact ⟨_, run_move rfl, by rw [hv0]; exact hV0⟩
                      case s14 =>
                        exact k_load hBP (by kernel_rfl) (.tail _ (.tail _ (.tail _ (.tail _ (.head _))))) rfl rfl rfl rfl Tryd.underlying24 rfl size_Int fun listed ac Wd h hd => ⟨(by obtain ⟨u, hu, hy, hU⟩ := h.dep hd 13 68 (by kernel_rfl) (by kernel_rfl); obtain rfl : u = .bool false := hU; exact hy), trivial⟩
                      case s15 =>
                        exact k_load hBP (by kernel_rfl) (.tail _ (.tail _ (.tail _ (.tail _ (.tail _ (.head _)))))) rfl rfl rfl rfl Tryd.underlying24 rfl size_Int fun listed ac Wd h hd => ⟨(by obtain ⟨u, hu, hy, hU⟩ := h.dep hd 13 68 (by kernel_rfl) (by kernel_rfl); obtain rfl : u = .bool false := hU; exact hy), trivial⟩
                      case s16 =>
                        refine k_call hBP (by kernel_rfl) (fun _ _ => rfl) fun listed ac Wd h hd => ⟨(by obtain ⟨u, hu, hy, hU⟩ := h.dep hd 13 68 (by kernel_rfl) (by kernel_rfl); obtain rfl : u = .bool false := hU; exact hy), ?_⟩
                        obtain ⟨v0, hv0, -, hV0⟩ := h.dep hd 14 69 (by kernel_rfl) (by kernel_rfl)
                        obtain ⟨v1, hv1, -, hV1⟩ := h.dep hd 15 70 (by kernel_rfl) (by kernel_rfl)
                        exact ⟨#[v0, v1], by simp [hv0, hv1], (cCompare (show Vz 12 (dr (X) (Y)) v0 Wd from hV0) (show Vz 12 (-(Y)) v1 Wd from hV1) (by omega) (by omega))⟩
                      case s17 =>
                        refine k_run hBP (by kernel_rfl) fun listed ac Wd h hd => ⟨(by obtain ⟨u, hu, hy, hU⟩ := h.dep hd 13 68 (by kernel_rfl) (by kernel_rfl); obtain rfl : u = .bool false := hU; exact hy), ?_⟩
                        obtain ⟨v0, hv0, -, hV0⟩ := h.dep hd 16 71 (by kernel_rfl) (by kernel_rfl)
                        have hV0' : v0 = .int .i64 (cmpI (dr (X) (Y)) (-(Y))) := hV0
                        exact ⟨_, run_geqi rfl (hv0.trans hV0') rfl, congrArg Value.bool (decide_eq_false (by rw [cmp_lt (dr_hi' hl)]; omega))⟩
                      case s18 =>
                        refine k_run hBP (by kernel_rfl) fun listed ac Wd h hd => ⟨trivial, ?_⟩
                        obtain ⟨v0, hv0, -, hV0⟩ := h.dep hd 13 68 (by kernel_rfl) (by kernel_rfl)
                        obtain ⟨v1, hv1, -, hV1⟩ := h.dep hd 17 72 (by kernel_rfl) (by kernel_rfl)
                        exact ⟨_, run_pick_f rfl (hv0.trans hV0), by rw [hv1]; exact hV1⟩
                      case hdone =>
                        intro listed a10 w10 hall kd
                        have st10 : St w.heap.size w 120 [⟨7, none, none, 24, 2, Vz 6 (z), VT⟩, ⟨8, none, none, 24, 2, Vz 12 (X), VT⟩, ⟨9, none, none, 24, 2, Vz 12 (Y), VT⟩, ⟨10, none, none, 24, 2, Vz 12 (dq (X) (Y)), VT⟩, ⟨11, none, none, 24, 2, Vz 12 (dr (X) (Y)), VT⟩, ⟨12, none, none, 24, 2, Vz 12 (-(Y)), VT⟩] [(6, Vb (false)), (38, Vb (true)), (43, Vb (false)), (73, Vb (false))] a10 w10 := kd.st hall st9.size st9.defers (by kernel_rfl) _ ⟨.inl ⟨(.head _), by kernel_rfl⟩, .inl ⟨(.tail _ (.head _)), by kernel_rfl⟩, .inl ⟨(.tail _ (.tail _ (.head _))), by kernel_rfl⟩, .inr ⟨18, by kernel_rfl, rfl⟩, trivial⟩
                        clear kd hall hBP st9
                        change Code.wp _ _ _ _ _
                        repeat (first | refine wp_seq ?_ | refine wp_block ?_ | (refine wp_skip ?_; change Code.wp _ _ _ _ _) | (refine wp_exit ?_; change Code.wp _ _ _ _ _))
                        obtain ⟨vc, hc1, hc2⟩ := st10.slot (73, Vb (false)) (.tail _ (.tail _ (.tail _ (.head _))))
                        refine wp_cond_false (hc1.trans hc2) ?_
                        clear hc1 hc2
                        repeat (first | refine wp_seq ?_ | refine wp_block ?_ | (refine wp_skip ?_; change Code.wp _ _ _ _ _) | (refine wp_exit ?_; change Code.wp _ _ _ _ _))
                        have hBP : ∀ bd ∈ ([⟨7, none, none, 24, 2, Vz 6 (z), VT⟩, ⟨8, none, none, 24, 2, Vz 12 (X), VT⟩, ⟨9, none, none, 24, 2, Vz 12 (Y), VT⟩, ⟨10, none, none, 24, 2, Vz 12 (dq (X) (Y)), VT⟩, ⟨11, none, none, 24, 2, Vz 12 (dr (X) (Y)), VT⟩, ⟨12, none, none, 24, 2, Vz 12 (-(Y)), VT⟩, ⟨13, some 3, some 4, 24, 2, Vz 12 ((Int.gcd (X) (Y) : Int)), VT⟩] : List Bd), bd.stab := (List.forall_mem_cons.2 ⟨⟨Stab_Vz _ _, Stab_VT⟩, (List.forall_mem_cons.2 ⟨⟨Stab_Vz _ _, Stab_VT⟩, (List.forall_mem_cons.2 ⟨⟨Stab_Vz _ _, Stab_VT⟩, (List.forall_mem_cons.2 ⟨⟨Stab_Vz _ _, Stab_VT⟩, (List.forall_mem_cons.2 ⟨⟨Stab_Vz _ _, Stab_VT⟩, (List.forall_mem_cons.2 ⟨⟨Stab_Vz _ _, Stab_VT⟩, (List.forall_mem_cons.2 ⟨⟨Stab_Vz _ _, Stab_VT⟩, (fun _ h => absurd h (by simp))⟩)⟩)⟩)⟩)⟩)⟩)⟩)
                        refine region_k (V := fun i => ([Vz 12 (X), Vz 12 (Y), Vz 12 ((Int.gcd (X) (Y) : Int)), VT, VT] : List VP).getD i VT) (B := [⟨7, none, none, 24, 2, Vz 6 (z), VT⟩, ⟨8, none, none, 24, 2, Vz 12 (X), VT⟩, ⟨9, none, none, 24, 2, Vz 12 (Y), VT⟩, ⟨10, none, none, 24, 2, Vz 12 (dq (X) (Y)), VT⟩, ⟨11, none, none, 24, 2, Vz 12 (dr (X) (Y)), VT⟩, ⟨12, none, none, 24, 2, Vz 12 (-(Y)), VT⟩, ⟨13, some 3, some 4, 24, 2, Vz 12 ((Int.gcd (X) (Y) : Int)), VT⟩]) (SL := [(6, Vb (false)), (38, Vb (true)), (43, Vb (false)), (73, Vb (false))]) (by kernel_rfl) (by kernel_rfl) (by kernel_rfl) (by rw [st10.size]; rfl) hBP (List.forall_mem_cons.2 ⟨Stab_Vb _, (List.forall_mem_cons.2 ⟨Stab_Vb _, (List.forall_mem_cons.2 ⟨Stab_Vb _, (List.forall_mem_cons.2 ⟨Stab_Vb _, (fun _ h => absurd h (by simp))⟩)⟩)⟩)⟩) (stab_of ⟨Stab_Vz _ _, Stab_Vz _ _, Stab_Vz _ _, Stab_VT, Stab_VT, trivial⟩) (st10.start (B := [⟨7, none, none, 24, 2, Vz 6 (z), VT⟩, ⟨8, none, none, 24, 2, Vz 12 (X), VT⟩, ⟨9, none, none, 24, 2, Vz 12 (Y), VT⟩, ⟨10, none, none, 24, 2, Vz 12 (dq (X) (Y)), VT⟩, ⟨11, none, none, 24, 2, Vz 12 (dr (X) (Y)), VT⟩, ⟨12, none, none, 24, 2, Vz 12 (-(Y)), VT⟩, ⟨13, some 3, some 4, 24, 2, Vz 12 ((Int.gcd (X) (Y) : Int)), VT⟩]) ⟨.inr ⟨_, (.head _), rfl, rfl, rfl, rfl, rfl, .inr ⟨rfl, rfl, rfl⟩⟩, .inr ⟨_, (.tail _ (.head _)), rfl, rfl, rfl, rfl, rfl, .inr ⟨rfl, rfl, rfl⟩⟩, .inr ⟨_, (.tail _ (.tail _ (.head _))), rfl, rfl, rfl, rfl, rfl, .inr ⟨rfl, rfl, rfl⟩⟩, .inr ⟨_, (.tail _ (.tail _ (.tail _ (.head _)))), rfl, rfl, rfl, rfl, rfl, .inr ⟨rfl, rfl, rfl⟩⟩, .inr ⟨_, (.tail _ (.tail _ (.tail _ (.tail _ (.head _))))), rfl, rfl, rfl, rfl, rfl, .inr ⟨rfl, rfl, rfl⟩⟩, .inr ⟨_, (.tail _ (.tail _ (.tail _ (.tail _ (.tail _ (.head _)))))), rfl, rfl, rfl, rfl, rfl, .inr ⟨rfl, rfl, rfl⟩⟩, .inl ⟨3, rfl⟩, trivial⟩ _) st10.n st10.sl ⟨?s0, ?s1, ?s2, ?s3, ?s4, trivial⟩ ?hdone
                        case s0 =>
                          exact k_load hBP (by kernel_rfl) (.tail _ (.head _)) rfl rfl rfl rfl Tryd.underlying24 rfl size_Int fun listed ac Wd h hd => ⟨trivial, trivial⟩
                        case s1 =>
                          exact k_load hBP (by kernel_rfl) (.tail _ (.tail _ (.head _))) rfl rfl rfl rfl Tryd.underlying24 rfl size_Int fun listed ac Wd h hd => ⟨trivial, trivial⟩
                        case s2 =>
                          refine k_call hBP (by kernel_rfl) (fun _ _ => rfl) fun listed ac Wd h hd => ⟨trivial, ?_⟩
                          obtain ⟨v0, hv0, -, hV0⟩ := h.dep hd 0 74 (by kernel_rfl) (by kernel_rfl)
                          obtain ⟨v1, hv1, -, hV1⟩ := h.dep hd 1 75 (by kernel_rfl) (by kernel_rfl)
                          exact ⟨#[v0, v1], by simp [hv0, hv1], (cGcd (show Vz 12 (X) v0 Wd from hV0) (show Vz 12 (Y) v1 Wd from hV1) (by omega) (by omega))⟩
                        case s3 =>
                          exact k_alloc hBP (B1 := [⟨7, none, none, 24, 2, Vz 6 (z), VT⟩, ⟨8, none, none, 24, 2, Vz 12 (X), VT⟩, ⟨9, none, none, 24, 2, Vz 12 (Y), VT⟩, ⟨10, none, none, 24, 2, Vz 12 (dq (X) (Y)), VT⟩, ⟨11, none, none, 24, 2, Vz 12 (dr (X) (Y)), VT⟩, ⟨12, none, none, 24, 2, Vz 12 (-(Y)), VT⟩]) (B2 := []) rfl (by kernel_rfl) rfl rfl rfl alloc_Int rfl noint_Int (.inr ⟨_, rfl, by decide⟩) rfl fun listed ac Wd h hd => ⟨trivial, trivial⟩
                        case s4 =>
                          refine k_store hBP (B1 := [⟨7, none, none, 24, 2, Vz 6 (z), VT⟩, ⟨8, none, none, 24, 2, Vz 12 (X), VT⟩, ⟨9, none, none, 24, 2, Vz 12 (Y), VT⟩, ⟨10, none, none, 24, 2, Vz 12 (dq (X) (Y)), VT⟩, ⟨11, none, none, 24, 2, Vz 12 (dr (X) (Y)), VT⟩, ⟨12, none, none, 24, 2, Vz 12 (-(Y)), VT⟩]) (B2 := []) rfl (by kernel_rfl) (by kernel_rfl) rfl rfl (by kernel_rfl) rfl rfl size_Int fun listed ac Wd h hd => ⟨trivial, listed_dep hd 3 (by kernel_rfl), ?_⟩
                          obtain ⟨v0, hv0, -, hV0⟩ := h.dep hd 2 76 (by kernel_rfl) (by kernel_rfl)
                          exact agg_store (AggV_Vz _ _) hv0 hV0
                        case hdone =>
                          intro listed a11 w11 hall kd
                          have st11 : St w.heap.size w 120 [⟨7, none, none, 24, 2, Vz 6 (z), VT⟩, ⟨8, none, none, 24, 2, Vz 12 (X), VT⟩, ⟨9, none, none, 24, 2, Vz 12 (Y), VT⟩, ⟨10, none, none, 24, 2, Vz 12 (dq (X) (Y)), VT⟩, ⟨11, none, none, 24, 2, Vz 12 (dr (X) (Y)), VT⟩, ⟨12, none, none, 24, 2, Vz 12 (-(Y)), VT⟩, ⟨13, none, none, 24, 2, Vz 12 ((Int.gcd (X) (Y) : Int)), VT⟩] [(6, Vb (false)), (38, Vb (true)), (43, Vb (false)), (73, Vb (false))] a11 w11 := kd.st hall st10.size st10.defers (by kernel_rfl) _ ⟨.inl ⟨(.head _), by kernel_rfl⟩, .inl ⟨(.tail _ (.head _)), by kernel_rfl⟩, .inl ⟨(.tail _ (.tail _ (.head _))), by kernel_rfl⟩, .inl ⟨(.tail _ (.tail _ (.tail _ (.head _)))), by kernel_rfl⟩, trivial⟩
                          clear kd hall hBP st10
                          change Code.wp _ _ _ _ _
                          repeat (first | refine wp_seq ?_ | refine wp_block ?_ | (refine wp_skip ?_; change Code.wp _ _ _ _ _) | (refine wp_exit ?_; change Code.wp _ _ _ _ _))
                          have hBP : ∀ bd ∈ ([⟨7, none, none, 24, 2, Vz 6 (z), VT⟩, ⟨8, none, none, 24, 2, Vz 12 (X), VT⟩, ⟨9, none, none, 24, 2, Vz 12 (Y), VT⟩, ⟨10, none, none, 24, 2, Vz 12 (dq (X) (Y)), VT⟩, ⟨11, none, none, 24, 2, Vz 12 (dr (X) (Y)), VT⟩, ⟨12, none, none, 24, 2, Vz 12 (-(Y)), VT⟩, ⟨13, none, none, 24, 2, Vz 12 ((Int.gcd (X) (Y) : Int)), VT⟩, ⟨14, some 6, some 8, 24, 2, Vz 12 (dq (X) ((Int.gcd (X) (Y) : Int))), VT⟩, ⟨15, some 7, some 9, 24, 2, Vz 12 (dr (X) ((Int.gcd (X) (Y) : Int))), VT⟩] : List Bd), bd.stab := (List.forall_mem_cons.2 ⟨⟨Stab_Vz _ _, Stab_VT⟩, (List.forall_mem_cons.2 ⟨⟨Stab_Vz _ _, Stab_VT⟩, (List.forall_mem_cons.2 ⟨⟨Stab_Vz _ _, Stab_VT⟩, (List.forall_mem_cons.2 ⟨⟨Stab_Vz _ _, Stab_VT⟩, (List.forall_mem_cons.2 ⟨⟨Stab_Vz _ _, Stab_VT⟩, (List.forall_mem_cons.2 ⟨⟨Stab_Vz _ _, Stab_VT⟩, (List.forall_mem_cons.2 ⟨⟨Stab_Vz _ _, Stab_VT⟩, (List.forall_mem_cons.2 ⟨⟨Stab_Vz _ _, Stab_VT⟩, (List.forall_mem_cons.2 ⟨⟨Stab_Vz _ _, Stab_VT⟩, (fun _ h => absurd h (by simp))⟩)⟩)⟩)⟩)⟩)⟩)⟩)⟩)⟩)
                          refine region_k (V := fun i => ([Vz 12 (X), Vz 12 ((Int.gcd (X) (Y) : Int)), VTup (Vz 12 (dq (X) ((Int.gcd (X) (Y) : Int)))) (Vz 12 (dr (X) ((Int.gcd (X) (Y) : Int)))), VTup (Vz 12 (dq (X) ((Int.gcd (X) (Y) : Int)))) (Vz 12 (dr (X) ((Int.gcd (X) (Y) : Int)))), Vz 12 (dq (X) ((Int.gcd (X) (Y) : Int))), Vz 12 (dr (X) ((Int.gcd (X) (Y) : Int))), VT, VT, VT, VT] : List VP).getD i VT) (B := [⟨7, none, none, 24, 2, Vz 6 (z), VT⟩, ⟨8, none, none, 24, 2, Vz 12 (X), VT⟩, ⟨9, none, none, 24, 2, Vz 12 (Y), VT⟩, ⟨10, none, none, 24, 2, Vz 12 (dq (X) (Y)), VT⟩, ⟨11, none, none, 24, 2, Vz 12 (dr (X) (Y)), VT⟩, ⟨12, none, none, 24, 2, Vz 12 (-(Y)), VT⟩, ⟨13, none, none, 24, 2, Vz 12 ((Int.gcd (X) (Y) : Int)), VT⟩, ⟨14, some 6, some 8, 24, 2, Vz 12 (dq (X) ((Int.gcd (X) (Y) : Int))), VT⟩, ⟨15, some 7, some 9, 24, 2, Vz 12 (dr (X) ((Int.gcd (X) (Y) : Int))), VT⟩]) (SL := [(6, Vb (false)), (38, Vb (true)), (43, Vb (false)), (73, Vb (false))]) (by kernel_rfl) (by kernel_rfl) (by kernel_rfl) (by rw [st11.size]; rfl) hBP (List.forall_mem_cons.2 ⟨Stab_Vb _, (List.forall_mem_cons.2 ⟨Stab_Vb _, (List.forall_mem_cons.2 ⟨Stab_Vb _, (List.forall_mem_cons.2 ⟨Stab_Vb _, (fun _ h => absurd h (by simp))⟩)⟩)⟩)⟩) (stab_of ⟨Stab_Vz _ _, Stab_Vz _ _, Stab_VTup (Stab_Vz _ _) (Stab_Vz _ _), Stab_VTup (Stab_Vz _ _) (Stab_Vz _ _), Stab_Vz _ _, Stab_Vz _ _, Stab_VT, Stab_VT, Stab_VT, Stab_VT, trivial⟩) (st11.start (B := [⟨7, none, none, 24, 2, Vz 6 (z), VT⟩, ⟨8, none, none, 24, 2, Vz 12 (X), VT⟩, ⟨9, none, none, 24, 2, Vz 12 (Y), VT⟩, ⟨10, none, none, 24, 2, Vz 12 (dq (X) (Y)), VT⟩, ⟨11, none, none, 24, 2, Vz 12 (dr (X) (Y)), VT⟩, ⟨12, none, none, 24, 2, Vz 12 (-(Y)), VT⟩, ⟨13, none, none, 24, 2, Vz 12 ((Int.gcd (X) (Y) : Int)), VT⟩, ⟨14, some 6, some 8, 24, 2, Vz 12 (dq (X) ((Int.gcd (X) (Y) : Int))), VT⟩, ⟨15, some 7, some 9, 24, 2, Vz 12 (dr (X) ((Int.gcd (X) (Y) : Int))), VT⟩]) ⟨.inr ⟨_, (.head _), rfl, rfl, rfl, rfl, rfl, .inr ⟨rfl, rfl, rfl⟩⟩, .inr ⟨_, (.tail _ (.head _)), rfl, rfl, rfl, rfl, rfl, .inr ⟨rfl, rfl, rfl⟩⟩, .inr ⟨_, (.tail _ (.tail _ (.head _))), rfl, rfl, rfl, rfl, rfl, .inr ⟨rfl, rfl, rfl⟩⟩, .inr ⟨_, (.tail _ (.tail _ (.tail _ (.head _)))), rfl, rfl, rfl, rfl, rfl, .inr ⟨rfl, rfl, rfl⟩⟩, .inr ⟨_, (.tail _ (.tail _ (.tail _ (.tail _ (.head _))))), rfl, rfl, rfl, rfl, rfl, .inr ⟨rfl, rfl, rfl⟩⟩, .inr ⟨_, (.tail _ (.tail _ (.tail _ (.tail _ (.tail _ (.head _)))))), rfl, rfl, rfl, rfl, rfl, .inr ⟨rfl, rfl, rfl⟩⟩, .inr ⟨_, (.tail _ (.tail _ (.tail _ (.tail _ (.tail _ (.tail _ (.head _))))))), rfl, rfl, rfl, rfl, rfl, .inr ⟨rfl, rfl, rfl⟩⟩, .inl ⟨6, rfl⟩, .inl ⟨7, rfl⟩, trivial⟩ _) st11.n st11.sl ⟨?s0, ?s1, ?s2, ?s3, ?s4, ?s5, ?s6, ?s7, ?s8, ?s9, trivial⟩ ?hdone
                          case s0 =>
                            exact k_load hBP (by kernel_rfl) (.tail _ (.head _)) rfl rfl rfl rfl Tryd.underlying24 rfl size_Int fun listed ac Wd h hd => ⟨trivial, trivial⟩
                          case s1 =>
                            exact k_load hBP (by kernel_rfl) (.tail _ (.tail _ (.tail _ (.tail _ (.tail _ (.tail _ (.head _))))))) rfl rfl rfl rfl Tryd.underlying24 rfl size_Int fun listed ac Wd h hd => ⟨trivial, trivial⟩
                          case s2 =>
                            refine k_call hBP (by kernel_rfl) (fun _ _ => rfl) fun listed ac Wd h hd => ⟨trivial, ?_⟩
                            obtain ⟨v0, hv0, -, hV0⟩ := h.dep hd 0 78 (by kernel_rfl) (by kernel_rfl)
                            obtain ⟨v1, hv1, -, hV1⟩ := h.dep hd 1 79 (by kernel_rfl) (by kernel_rfl)
                            exact ⟨#[v0, v1], by simp [hv0, hv1], (cDiv (show Vz 12 (X) v0 Wd from hV0) (show Vz 12 ((Int.gcd (X) (Y) : Int)) v1 Wd from hV1) (by omega) (by omega)).mono fun e w' h => h.tup⟩
                          case s3 =>
                            refine k_run hBP (by kernel_rfl) fun listed ac Wd h hd => ⟨trivial, ?_⟩
                            obtain ⟨v0, hv0, -, hV0⟩ := h.dep hd 2 80 (by kernel_rfl) (by kernel_rfl)
                            exact ⟨_, run_move rfl, by rw [hv0]; exact hV0⟩
                          case s4 =>
                            refine k_run hBP (by kernel_rfl) fun listed ac Wd h hd => ⟨trivial, ?_⟩
                            obtain ⟨v0, hv0, -, hV0⟩ := h.dep hd 3 77 (by kernel_rfl) (by kernel_rfl)
                            obtain ⟨tx, ty, rfl, hx, hy⟩ := hV0
                            exact ⟨_, run_extract0 rfl hv0, hx⟩
                          case s5 =>
                            refine k_run hBP (by kernel_rfl) fun listed ac Wd h hd => ⟨trivial, ?_⟩
                            obtain ⟨v0, hv0, -, hV0⟩ := h.dep hd 3 77 (by kernel_rfl) (by kernel_rfl)
                            obtain ⟨tx, ty, rfl, hx, hy⟩ := hV0
                            exact ⟨_, run_extract1 rfl hv0, hy⟩
                          case s6 =>
                            exact k_alloc hBP (B1 := [⟨7, none, none, 24, 2, Vz 6 (z), VT⟩, ⟨8, none, none, 24, 2, Vz 12 (X), VT⟩, ⟨9, none, none, 24, 2, Vz 12 (Y), VT⟩, ⟨10, none, none, 24, 2, Vz 12 (dq (X) (Y)), VT⟩, ⟨11, none, none, 24, 2, Vz 12 (dr (X) (Y)), VT⟩, ⟨12, none, none, 24, 2, Vz 12 (-(Y)), VT⟩, ⟨13, none, none, 24, 2, Vz 12 ((Int.gcd (X) (Y) : Int)), VT⟩]) (B2 := [⟨15, some 7, some 9, 24, 2, Vz 12 (dr (X) ((Int.gcd (X) (Y) : Int))), VT⟩]) rfl (by kernel_rfl) rfl rfl rfl alloc_Int rfl noint_Int (.inr ⟨_, rfl, by decide⟩) rfl fun listed ac Wd h hd => ⟨trivial, trivial⟩
                          case s7 =>
                            exact k_alloc hBP (B1 := [⟨7, none, none, 24, 2, Vz 6 (z), VT⟩, ⟨8, none, none, 24, 2, Vz 12 (X), VT⟩, ⟨9, none, none, 24, 2, Vz 12 (Y), VT⟩, ⟨10, none, none, 24, 2, Vz 12 (dq (X) (Y)), VT⟩, ⟨11, none, none, 24, 2, Vz 12 (dr (X) (Y)), VT⟩, ⟨12, none, none, 24, 2, Vz 12 (-(Y)), VT⟩, ⟨13, none, none, 24, 2, Vz 12 ((Int.gcd (X) (Y) : Int)), VT⟩, ⟨14, some 6, some 8, 24, 2, Vz 12 (dq (X) ((Int.gcd (X) (Y) : Int))), VT⟩]) (B2 := []) rfl (by kernel_rfl) rfl rfl rfl alloc_Int rfl noint_Int (.inr ⟨_, rfl, by decide⟩) rfl fun listed ac Wd h hd => ⟨trivial, trivial⟩
                          case s8 =>
                            refine k_store hBP (B1 := [⟨7, none, none, 24, 2, Vz 6 (z), VT⟩, ⟨8, none, none, 24, 2, Vz 12 (X), VT⟩, ⟨9, none, none, 24, 2, Vz 12 (Y), VT⟩, ⟨10, none, none, 24, 2, Vz 12 (dq (X) (Y)), VT⟩, ⟨11, none, none, 24, 2, Vz 12 (dr (X) (Y)), VT⟩, ⟨12, none, none, 24, 2, Vz 12 (-(Y)), VT⟩, ⟨13, none, none, 24, 2, Vz 12 ((Int.gcd (X) (Y) : Int)), VT⟩]) (B2 := [⟨15, some 7, some 9, 24, 2, Vz 12 (dr (X) ((Int.gcd (X) (Y) : Int))), VT⟩]) rfl (by kernel_rfl) (by kernel_rfl) rfl rfl (by kernel_rfl) rfl rfl size_Int fun listed ac Wd h hd => ⟨trivial, listed_dep hd 6 (by kernel_rfl), ?_⟩
                            obtain ⟨v0, hv0, -, hV0⟩ := h.dep hd 4 81 (by kernel_rfl) (by kernel_rfl)
                            exact agg_store (AggV_Vz _ _) hv0 hV0
                          case s9 =>
                            refine k_store hBP (B1 := [⟨7, none, none, 24, 2, Vz 6 (z), VT⟩, ⟨8, none, none, 24, 2, Vz 12 (X), VT⟩, ⟨9, none, none, 24, 2, Vz 12 (Y), VT⟩, ⟨10, none, none, 24, 2, Vz 12 (dq (X) (Y)), VT⟩, ⟨11, none, none, 24, 2, Vz 12 (dr (X) (Y)), VT⟩, ⟨12, none, none, 24, 2, Vz 12 (-(Y)), VT⟩, ⟨13, none, none, 24, 2, Vz 12 ((Int.gcd (X) (Y) : Int)), VT⟩, ⟨14, some 6, some 8, 24, 2, Vz 12 (dq (X) ((Int.gcd (X) (Y) : Int))), VT⟩]) (B2 := []) rfl (by kernel_rfl) (by kernel_rfl) rfl rfl (by kernel_rfl) rfl rfl size_Int fun listed ac Wd h hd => ⟨trivial, listed_dep hd 7 (by kernel_rfl), ?_⟩
                            obtain ⟨v0, hv0, -, hV0⟩ := h.dep hd 5 82 (by kernel_rfl) (by kernel_rfl)
                            exact agg_store (AggV_Vz _ _) hv0 hV0
                          case hdone =>
                            intro listed a12 w12 hall kd
                            have st12 : St w.heap.size w 120 [⟨7, none, none, 24, 2, Vz 6 (z), VT⟩, ⟨8, none, none, 24, 2, Vz 12 (X), VT⟩, ⟨9, none, none, 24, 2, Vz 12 (Y), VT⟩, ⟨10, none, none, 24, 2, Vz 12 (dq (X) (Y)), VT⟩, ⟨11, none, none, 24, 2, Vz 12 (dr (X) (Y)), VT⟩, ⟨12, none, none, 24, 2, Vz 12 (-(Y)), VT⟩, ⟨13, none, none, 24, 2, Vz 12 ((Int.gcd (X) (Y) : Int)), VT⟩, ⟨14, none, none, 24, 2, Vz 12 (dq (X) ((Int.gcd (X) (Y) : Int))), VT⟩, ⟨15, none, none, 24, 2, Vz 12 (dr (X) ((Int.gcd (X) (Y) : Int))), VT⟩] [(6, Vb (false)), (38, Vb (true)), (43, Vb (false)), (73, Vb (false))] a12 w12 := kd.st hall st11.size st11.defers (by kernel_rfl) _ ⟨.inl ⟨(.head _), by kernel_rfl⟩, .inl ⟨(.tail _ (.head _)), by kernel_rfl⟩, .inl ⟨(.tail _ (.tail _ (.head _))), by kernel_rfl⟩, .inl ⟨(.tail _ (.tail _ (.tail _ (.head _)))), by kernel_rfl⟩, trivial⟩
                            clear kd hall hBP st11
                            change Code.wp _ _ _ _ _
                            repeat (first | refine wp_seq ?_ | refine wp_block ?_ | (refine wp_skip ?_; change Code.wp _ _ _ _ _) | (refine wp_exit ?_; change Code.wp _ _ _ _ _))
                            have hBP : ∀ bd ∈ ([⟨7, none, none, 24, 2, Vz 6 (z), VT⟩, ⟨8, none, none, 24, 2, Vz 12 (X), VT⟩, ⟨9, none, none, 24, 2, Vz 12 (Y), VT⟩, ⟨10, none, none, 24, 2, Vz 12 (dq (X) (Y)), VT⟩, ⟨11, none, none, 24, 2, Vz 12 (dr (X) (Y)), VT⟩, ⟨12, none, none, 24, 2, Vz 12 (-(Y)), VT⟩, ⟨13, none, none, 24, 2, Vz 12 ((Int.gcd (X) (Y) : Int)), VT⟩, ⟨14, none, none, 24, 2, Vz 12 (dq (X) ((Int.gcd (X) (Y) : Int))), VT⟩, ⟨15, none, none, 24, 2, Vz 12 (dr (X) ((Int.gcd (X) (Y) : Int))), VT⟩, ⟨16, some 6, some 8, 24, 2, Vz 12 (dq (Y) ((Int.gcd (X) (Y) : Int))), VT⟩, ⟨17, some 7, some 9, 24, 2, Vz 12 (dr (Y) ((Int.gcd (X) (Y) : Int))), VT⟩] : List Bd), bd.stab := (List.forall_mem_cons.2 ⟨⟨Stab_Vz _ _, Stab_VT⟩, (List.forall_mem_cons.2 ⟨⟨Stab_Vz _ _, Stab_VT⟩, (List.forall_mem_cons.2 ⟨⟨Stab_Vz _ _, Stab_VT⟩, (List.forall_mem_cons.2 ⟨⟨Stab_Vz _ _, Stab_VT⟩, (List.forall_mem_cons.2 ⟨⟨Stab_Vz _ _, Stab_VT⟩, (List.forall_mem_cons.2 ⟨⟨Stab_Vz _ _, Stab_VT⟩, (List.forall_mem_cons.2 ⟨⟨Stab_Vz _ _, Stab_VT⟩, (List.forall_mem_cons.2 ⟨⟨Stab_Vz _ _, Stab_VT⟩, (List.forall_mem_cons.2 ⟨⟨Stab_Vz _ _, Stab_VT⟩, (List.forall_mem_cons.2 ⟨⟨Stab_Vz _ _, Stab_VT⟩, (List.forall_mem_cons.2 ⟨⟨Stab_Vz _ _, Stab_VT⟩, (fun _ h => absurd h (by simp))⟩)⟩)⟩)⟩)⟩)⟩)⟩)⟩)⟩)⟩)⟩)
                            refine region_k (V := fun i => ([Vz 12 (Y), Vz 12 ((Int.gcd (X) (Y) : Int)), VTup (Vz 12 (dq (Y) ((Int.gcd (X) (Y) : Int)))) (Vz 12 (dr (Y) ((Int.gcd (X) (Y) : Int)))), VTup (Vz 12 (dq (Y) ((Int.gcd (X) (Y) : Int)))) (Vz 12 (dr (Y) ((Int.gcd (X) (Y) : Int)))), Vz 12 (dq (Y) ((Int.gcd (X) (Y) : Int))), Vz 12 (dr (Y) ((Int.gcd (X) (Y) : Int))), VT, VT, VT, VT] : List VP).getD i VT) (B := [⟨7, none, none, 24, 2, Vz 6 (z), VT⟩, ⟨8, none, none, 24, 2, Vz 12 (X), VT⟩, ⟨9, none, none, 24, 2, Vz 12 (Y), VT⟩, ⟨10, none, none, 24, 2, Vz 12 (dq (X) (Y)), VT⟩, ⟨11, none, none, 24, 2, Vz 12 (dr (X) (Y)), VT⟩, ⟨12, none, none, 24, 2, Vz 12 (-(Y)), VT⟩, ⟨13, none, none, 24, 2, Vz 12 ((Int.gcd (X) (Y) : Int)), VT⟩, ⟨14, none, none, 24, 2, Vz 12 (dq (X) ((Int.gcd (X) (Y) : Int))), VT⟩, ⟨15, none, none, 24, 2, Vz 12 (dr (X) ((Int.gcd (X) (Y) : Int))), VT⟩, ⟨16, some 6, some 8, 24, 2, Vz 12 (dq (Y) ((Int.gcd (X) (Y) : Int))), VT⟩, ⟨17, some 7, some 9, 24, 2, Vz 12 (dr (Y) ((Int.gcd (X) (Y) : Int))), VT⟩]) (SL := [(6, Vb (false)), (38, Vb (true)), (43, Vb (false)), (73, Vb (false))]) (by kernel_rfl) (by kernel_rfl) (by kernel_rfl) (by rw [st12.size]; rfl) hBP (List.forall_mem_cons.2 ⟨Stab_Vb _, (List.forall_mem_cons.2 ⟨Stab_Vb _, (List.forall_mem_cons.2 ⟨Stab_Vb _, (List.forall_mem_cons.2 ⟨Stab_Vb _, (fun _ h => absurd h (by simp))⟩)⟩)⟩)⟩) (stab_of ⟨Stab_Vz _ _, Stab_Vz _ _, Stab_VTup (Stab_Vz _ _) (Stab_Vz _ _), Stab_VTup (Stab_Vz _ _) (Stab_Vz _ _), Stab_Vz _ _, Stab_Vz _ _, Stab_VT, Stab_VT, Stab_VT, Stab_VT, trivial⟩) (st12.start (B := [⟨7, none, none, 24, 2, Vz 6 (z), VT⟩, ⟨8, none, none, 24, 2, Vz 12 (X), VT⟩, ⟨9, none, none, 24, 2, Vz 12 (Y), VT⟩, ⟨10, none, none, 24, 2, Vz 12 (dq (X) (Y)), VT⟩, ⟨11, none, none, 24, 2, Vz 12 (dr (X) (Y)), VT⟩, ⟨12, none, none, 24, 2, Vz 12 (-(Y)), VT⟩, ⟨13, none, none, 24, 2, Vz 12 ((Int.gcd (X) (Y) : Int)), VT⟩, ⟨14, none, none, 24, 2, Vz 12 (dq (X) ((Int.gcd (X) (Y) : Int))), VT⟩, ⟨15, none, none, 24, 2, Vz 12 (dr (X) ((Int.gcd (X) (Y) : Int))), VT⟩, ⟨16, some 6, some 8, 24, 2, Vz 12 (dq (Y) ((Int.gcd (X) (Y) : Int))), VT⟩, ⟨17, some 7, some 9, 24, 2, Vz 12 (dr (Y) ((Int.gcd (X) (Y) : Int))), VT⟩]) ⟨.inr ⟨_, (.head _), rfl, rfl, rfl, rfl, rfl, .inr ⟨rfl, rfl, rfl⟩⟩, .inr ⟨_, (.tail _ (.head _)), rfl, rfl, rfl, rfl, rfl, .inr ⟨rfl, rfl, rfl⟩⟩, .inr ⟨_, (.tail _ (.tail _ (.head _))), rfl, rfl, rfl, rfl, rfl, .inr ⟨rfl, rfl, rfl⟩⟩, .inr ⟨_, (.tail _ (.tail _ (.tail _ (.head _)))), rfl, rfl, rfl, rfl, rfl, .inr ⟨rfl, rfl, rfl⟩⟩, .inr ⟨_, (.tail _ (.tail _ (.tail _ (.tail _ (.head _))))), rfl, rfl, rfl, rfl, rfl, .inr ⟨rfl, rfl, rfl⟩⟩, .inr ⟨_, (.tail _ (.tail _ (.tail _ (.tail _ (.tail _ (.head _)))))), rfl, rfl, rfl, rfl, rfl, .inr ⟨rfl, rfl, rfl⟩⟩, .inr ⟨_, (.tail _ (.tail _ (.tail _ (.tail _ (.tail _ (.tail _ (.head _))))))), rfl, rfl, rfl, rfl, rfl, .inr ⟨rfl, rfl, rfl⟩⟩, .inr ⟨_, (.tail _ (.tail _ (.tail _ (.tail _ (.tail _ (.tail _ (.tail _ (.head _)))))))), rfl, rfl, rfl, rfl, rfl, .inr ⟨rfl, rfl, rfl⟩⟩, .inr ⟨_, (.tail _ (.tail _ (.tail _ (.tail _ (.tail _ (.tail _ (.tail _ (.tail _ (.head _))))))))), rfl, rfl, rfl, rfl, rfl, .inr ⟨rfl, rfl, rfl⟩⟩, .inl ⟨6, rfl⟩, .inl ⟨7, rfl⟩, trivial⟩ _) st12.n st12.sl ⟨?s0, ?s1, ?s2, ?s3, ?s4, ?s5, ?s6, ?s7, ?s8, ?s9, trivial⟩ ?hdone
                            case s0 =>
                              exact k_load hBP (by kernel_rfl) (.tail _ (.tail _ (.head _))) rfl rfl rfl rfl Tryd.underlying24 rfl size_Int fun listed ac Wd h hd => ⟨trivial, trivial⟩
                            case s1 =>
                              exact k_load hBP (by kernel_rfl) (.tail _ (.tail _ (.tail _ (.tail _ (.tail _ (.tail _ (.head _))))))) rfl rfl rfl rfl Tryd.underlying24 rfl size_Int fun listed ac Wd h hd => ⟨trivial, trivial⟩
                            case s2 =>
                              refine k_call hBP (by kernel_rfl) (fun _ _ => rfl) fun listed ac Wd h hd => ⟨trivial, ?_⟩
                              obtain ⟨v0, hv0, -, hV0⟩ := h.dep hd 0 84 (by kernel_rfl) (by kernel_rfl)
                              obtain ⟨v1, hv1, -, hV1⟩ := h.dep hd 1 85 (by kernel_rfl) (by kernel_rfl)
                              exact ⟨#[v0, v1], by simp [hv0, hv1], (cDiv (show Vz 12 (Y) v0 Wd from hV0) (show Vz 12 ((Int.gcd (X) (Y) : Int)) v1 Wd from hV1) (by omega) (by omega)).mono fun e w' h => h.tup⟩
                            case s3 =>
                              refine k_run hBP (by kernel_rfl) fun listed ac Wd h hd => ⟨trivial, ?_⟩
                              obtain ⟨v0, hv0, -, hV0⟩ := h.dep hd 2 86 (by kernel_rfl) (by kernel_rfl)
                              exact ⟨_, run_move rfl, by rw [hv0]; exact hV0⟩
                            case s4 =>
                              refine k_run hBP (by kernel_rfl) fun listed ac Wd h hd => ⟨trivial, ?_⟩
                              obtain ⟨v0, hv0, -, hV0⟩ := h.dep hd 3 83 (by kernel_rfl) (by kernel_rfl)
                              obtain ⟨tx, ty, rfl, hx, hy⟩ := hV0
                              exact ⟨_, run_extract0 rfl hv0, hx⟩
                            case s5 =>
                              refine k_run hBP (by kernel_rfl) fun listed ac Wd h hd => ⟨trivial, ?_⟩
                              obtain ⟨v0, hv0, -, hV0⟩ := h.dep hd 3 83 (by kernel_rfl) (by kernel_rfl)
                              obtain ⟨tx, ty, rfl, hx, hy⟩ := hV0
                              exact ⟨_, run_extract1 rfl hv0, hy⟩
                            case s6 =>
                              exact k_alloc hBP (B1 := [⟨7, none, none, 24, 2, Vz 6 (z), VT⟩, ⟨8, none, none, 24, 2, Vz 12 (X), VT⟩, ⟨9, none, none, 24, 2, Vz 12 (Y), VT⟩, ⟨10, none, none, 24, 2, Vz 12 (dq (X) (Y)), VT⟩, ⟨11, none, none, 24, 2, Vz 12 (dr (X) (Y)), VT⟩, ⟨12, none, none, 24, 2, Vz 12 (-(Y)), VT⟩, ⟨13, none, none, 24, 2, Vz 12 ((Int.gcd (X) (Y) : Int)), VT⟩, ⟨14, none, none, 24, 2, Vz 12 (dq (X) ((Int.gcd (X) (Y) : Int))), VT⟩, ⟨15, none, none, 24, 2, Vz 12 (dr (X) ((Int.gcd (X) (Y) : Int))), VT⟩]) (B2 := [⟨17, some 7, some 9, 24, 2, Vz 12 (dr (Y) ((Int.gcd (X) (Y) : Int))), VT⟩]) rfl (by kernel_rfl) rfl rfl rfl alloc_Int rfl noint_Int (.inr ⟨_, rfl, by decide⟩) rfl fun listed ac Wd h hd => ⟨trivial, trivial⟩
                            case s7 =>
                              exact k_alloc hBP (B1 := [⟨7, none, none, 24, 2, Vz 6 (z), VT⟩, ⟨8, none, none, 24, 2, Vz 12 (X), VT⟩, ⟨9, none, none, 24, 2, Vz 12 (Y), VT⟩, ⟨10, none, none, 24, 2, Vz 12 (dq (X) (Y)), VT⟩, ⟨11, none, none, 24, 2, Vz 12 (dr (X) (Y)), VT⟩, ⟨12, none, none, 24, 2, Vz 12 (-(Y)), VT⟩, ⟨13, none, none, 24, 2, Vz 12 ((Int.gcd (X) (Y) : Int)), VT⟩, ⟨14, none, none, 24, 2, Vz 12 (dq (X) ((Int.gcd (X) (Y) : Int))), VT⟩, ⟨15, none, none, 24, 2, Vz 12 (dr (X) ((Int.gcd (X) (Y) : Int))), VT⟩, ⟨16, some 6, some 8, 24, 2, Vz 12 (dq (Y) ((Int.gcd (X) (Y) : Int))), VT⟩]) (B2 := []) rfl (by kernel_rfl) rfl rfl rfl alloc_Int rfl noint_Int (.inr ⟨_, rfl, by decide⟩) rfl fun listed ac Wd h hd => ⟨trivial, trivial⟩
                            case s8 =>
                              refine k_store hBP (B1 := [⟨7, none, none, 24, 2, Vz 6 (z), VT⟩, ⟨8, none, none, 24, 2, Vz 12 (X), VT⟩, ⟨9, none, none, 24, 2, Vz 12 (Y), VT⟩, ⟨10, none, none, 24, 2, Vz 12 (dq (X) (Y)), VT⟩, ⟨11, none, none, 24, 2, Vz 12 (dr (X) (Y)), VT⟩, ⟨12, none, none, 24, 2, Vz 12 (-(Y)), VT⟩, ⟨13, none, none, 24, 2, Vz 12 ((Int.gcd (X) (Y) : Int)), VT⟩, ⟨14, none, none, 24, 2, Vz 12 (dq (X) ((Int.gcd (X) (Y) : Int))), VT⟩, ⟨15, none, none, 24, 2, Vz 12 (dr (X) ((Int.gcd (X) (Y) : Int))), VT⟩]) (B2 := [⟨17, some 7, some 9, 24, 2, Vz 12 (dr (Y) ((Int.gcd (X) (Y) : Int))), VT⟩]) rfl (by kernel_rfl) (by kernel_rfl) rfl rfl (by kernel_rfl) rfl rfl size_Int fun listed ac Wd h hd => ⟨trivial, listed_dep hd 6 (by kernel_rfl), ?_⟩
                              obtain ⟨v0, hv0, -, hV0⟩ := h.dep hd 4 87 (by kernel_rfl) (by kernel_rfl)
                              exact agg_store (AggV_Vz _ _) hv0 hV0
                            case s9 =>
                              refine k_store hBP (B1 := [⟨7, none, none, 24, 2, Vz 6 (z), VT⟩, ⟨8, none, none, 24, 2, Vz 12 (X), VT⟩, ⟨9, none, none, 24, 2, Vz 12 (Y), VT⟩, ⟨10, none, none, 24, 2, Vz 12 (dq (X) (Y)), VT⟩, ⟨11, none, none, 24, 2, Vz 12 (dr (X) (Y)), VT⟩, ⟨12, none, none, 24, 2, Vz 12 (-(Y)), VT⟩, ⟨13, none, none, 24, 2, Vz 12 ((Int.gcd (X) (Y) : Int)), VT⟩, ⟨14, none, none, 24, 2, Vz 12 (dq (X) ((Int.gcd (X) (Y) : Int))), VT⟩, ⟨15, none, none, 24, 2, Vz 12 (dr (X) ((Int.gcd (X) (Y) : Int))), VT⟩, ⟨16, some 6, some 8, 24, 2, Vz 12 (dq (Y) ((Int.gcd (X) (Y) : Int))), VT⟩]) (B2 := []) rfl (by kernel_rfl) (by kernel_rfl) rfl rfl (by kernel_rfl) rfl rfl size_Int fun listed ac Wd h hd => ⟨trivial, listed_dep hd 7 (by kernel_rfl), ?_⟩
                              obtain ⟨v0, hv0, -, hV0⟩ := h.dep hd 5 88 (by kernel_rfl) (by kernel_rfl)
                              exact agg_store (AggV_Vz _ _) hv0 hV0
                            case hdone =>
                              intro listed a13 w13 hall kd
                              have st13 : St w.heap.size w 120 [⟨7, none, none, 24, 2, Vz 6 (z), VT⟩, ⟨8, none, none, 24, 2, Vz 12 (X), VT⟩, ⟨9, none, none, 24, 2, Vz 12 (Y), VT⟩, ⟨10, none, none, 24, 2, Vz 12 (dq (X) (Y)), VT⟩, ⟨11, none, none, 24, 2, Vz 12 (dr (X) (Y)), VT⟩, ⟨12, none, none, 24, 2, Vz 12 (-(Y)), VT⟩, ⟨13, none, none, 24, 2, Vz 12 ((Int.gcd (X) (Y) : Int)), VT⟩, ⟨14, none, none, 24, 2, Vz 12 (dq (X) ((Int.gcd (X) (Y) : Int))), VT⟩, ⟨15, none, none, 24, 2, Vz 12 (dr (X) ((Int.gcd (X) (Y) : Int))), VT⟩, ⟨16, none, none, 24, 2, Vz 12 (dq (Y) ((Int.gcd (X) (Y) : Int))), VT⟩, ⟨17, none, none, 24, 2, Vz 12 (dr (Y) ((Int.gcd (X) (Y) : Int))), VT⟩] [(6, Vb (false)), (38, Vb (true)), (43, Vb (false)), (73, Vb (false))] a13 w13 := kd.st hall st12.size st12.defers (by kernel_rfl) _ ⟨.inl ⟨(.head _), by kernel_rfl⟩, .inl ⟨(.tail _ (.head _)), by kernel_rfl⟩, .inl ⟨(.tail _ (.tail _ (.head _))), by kernel_rfl⟩, .inl ⟨(.tail _ (.tail _ (.tail _ (.head _)))), by kernel_rfl⟩, trivial⟩
                              clear kd hall hBP st12
                              change Code.wp _ _ _ _ _
                              repeat (first | refine wp_seq ?_ | refine wp_block ?_ | (refine wp_skip ?_; change Code.wp _ _ _ _ _) | (refine wp_exit ?_; change Code.wp _ _ _ _ _))
                              have hBP : ∀ bd ∈ ([⟨7, none, none, 24, 2, Vz 6 (z), VT⟩, ⟨8, none, none, 24, 2, Vz 12 (X), VT⟩, ⟨9, none, none, 24, 2, Vz 12 (Y), VT⟩, ⟨10, none, none, 24, 2, Vz 12 (dq (X) (Y)), VT⟩, ⟨11, none, none, 24, 2, Vz 12 (dr (X) (Y)), VT⟩, ⟨12, none, none, 24, 2, Vz 12 (-(Y)), VT⟩, ⟨13, none, none, 24, 2, Vz 12 ((Int.gcd (X) (Y) : Int)), VT⟩, ⟨14, none, none, 24, 2, Vz 12 (dq (X) ((Int.gcd (X) (Y) : Int))), VT⟩, ⟨15, none, none, 24, 2, Vz 12 (dr (X) ((Int.gcd (X) (Y) : Int))), VT⟩, ⟨16, none, none, 24, 2, Vz 12 (dq (Y) ((Int.gcd (X) (Y) : Int))), VT⟩, ⟨17, none, none, 24, 2, Vz 12 (dr (Y) ((Int.gcd (X) (Y) : Int))), VT⟩, ⟨18, some 3, some 4, 24, 2, Vz 12 ((Int.gcd (dq (X) ((Int.gcd (X) (Y) : Int))) (dq (Y) ((Int.gcd (X) (Y) : Int))) : Int)), VT⟩] : List Bd), bd.stab := (List.forall_mem_cons.2 ⟨⟨Stab_Vz _ _, Stab_VT⟩, (List.forall_mem_cons.2 ⟨⟨Stab_Vz _ _, Stab_VT⟩, (List.forall_mem_cons.2 ⟨⟨Stab_Vz _ _, Stab_VT⟩, (List.forall_mem_cons.2 ⟨⟨Stab_Vz _ _, Stab_VT⟩, (List.forall_mem_cons.2 ⟨⟨Stab_Vz _ _, Stab_VT⟩, (List.forall_mem_cons.2 ⟨⟨Stab_Vz _ _, Stab_VT⟩, (List.forall_mem_cons.2 ⟨⟨Stab_Vz _ _, Stab_VT⟩, (List.forall_mem_cons.2 ⟨⟨Stab_Vz _ _, Stab_VT⟩, (List.forall_mem_cons.2 ⟨⟨Stab_Vz _ _, Stab_VT⟩, (List.forall_mem_cons.2 ⟨⟨Stab_Vz _ _, Stab_VT⟩, (List.forall_mem_cons.2 ⟨⟨Stab_Vz _ _, Stab_VT⟩, (List.forall_mem_cons.2 ⟨⟨Stab_Vz _ _, Stab_VT⟩, (fun _ h => absurd h (by simp))⟩)⟩)⟩)⟩)⟩)⟩)⟩)⟩)⟩)⟩)⟩)⟩)
                              refine region_k (V := fun i => ([Vz 12 (dq (X) ((Int.gcd (X) (Y) : Int))), Vz 12 (dq (Y) ((Int.gcd (X) (Y) : Int))), Vz 12 ((Int.gcd (dq (X) ((Int.gcd (X) (Y) : Int))) (dq (Y) ((Int.gcd (X) (Y) : Int))) : Int)), VT, VT] : List VP).getD i VT) (B := [⟨7, none, none, 24, 2, Vz 6 (z), VT⟩, ⟨8, none, none, 24, 2, Vz 12 (X), VT⟩, ⟨9, none, none, 24, 2, Vz 12 (Y), VT⟩, ⟨10, none, none, 24, 2, Vz 12 (dq (X) (Y)), VT⟩, ⟨11, none, none, 24, 2, Vz 12 (dr (X) (Y)), VT⟩, ⟨12, none, none, 24, 2, Vz 12 (-(Y)), VT⟩, ⟨13, none, none, 24, 2, Vz 12 ((Int.gcd (X) (Y) : Int)), VT⟩, ⟨14, none, none, 24, 2, Vz 12 (dq (X) ((Int.gcd (X) (Y) : Int))), VT⟩, ⟨15, none, none, 24, 2, Vz 12 (dr (X) ((Int.gcd (X) (Y) : Int))), VT⟩, ⟨16, none, none, 24, 2, Vz 12 (dq (Y) ((Int.gcd (X) (Y) : Int))), VT⟩, ⟨17, none, none, 24, 2, Vz 12 (dr (Y) ((Int.gcd (X) (Y) : Int))), VT⟩, ⟨18, some 3, some 4, 24, 2, Vz 12 ((Int.gcd (dq (X) ((Int.gcd (X) (Y) : Int))) (dq (Y) ((Int.gcd (X) (Y) : Int))) : Int)), VT⟩]) (SL := [(6, Vb (false)), (38, Vb (true)), (43, Vb (false)), (73, Vb (false))]) (by kernel_rfl) (by kernel_rfl) (by kernel_rfl) (by rw [st13.size]; rfl) hBP (List.forall_mem_cons.2 ⟨Stab_Vb _, (List.forall_mem_cons.2 ⟨Stab_Vb _, (List.forall_mem_cons.2 ⟨Stab_Vb _, (List.forall_mem_cons.2 ⟨Stab_Vb _, (fun _ h => absurd h (by simp))⟩)⟩)⟩)⟩) (stab_of ⟨Stab_Vz _ _, Stab_Vz _ _, Stab_Vz _ _, Stab_VT, Stab_VT, trivial⟩) (st13.start (B := [⟨7, none, none, 24, 2, Vz 6 (z), VT⟩, ⟨8, none, none, 24, 2, Vz 12 (X), VT⟩, ⟨9, none, none, 24, 2, Vz 12 (Y), VT⟩, ⟨10, none, none, 24, 2, Vz 12 (dq (X) (Y)), VT⟩, ⟨11, none, none, 24, 2, Vz 12 (dr (X) (Y)), VT⟩, ⟨12, none, none, 24, 2, Vz 12 (-(Y)), VT⟩, ⟨13, none, none, 24, 2, Vz 12 ((Int.gcd (X) (Y) : Int)), VT⟩, ⟨14, none, none, 24, 2, Vz 12 (dq (X) ((Int.gcd (X) (Y) : Int))), VT⟩, ⟨15, none, none, 24, 2, Vz 12 (dr (X) ((Int.gcd (X) (Y) : Int))), VT⟩, ⟨16, none, none, 24, 2, Vz 12 (dq (Y) ((Int.gcd (X) (Y) : Int))), VT⟩, ⟨17, none, none, 24, 2, Vz 12 (dr (Y) ((Int.gcd (X) (Y) : Int))), VT⟩, ⟨18, some 3, some 4, 24, 2, Vz 12 ((Int.gcd (dq (X) ((Int.gcd (X) (Y) : Int))) (dq (Y) ((Int.gcd (X) (Y) : Int))) : Int)), VT⟩]) ⟨.inr ⟨_, (.head _), rfl, rfl, rfl, rfl, rfl, .inr ⟨rfl, rfl, rfl⟩⟩, .inr ⟨_, (.tail _ (.head _)), rfl, rfl, rfl, rfl, rfl, .inr ⟨rfl, rfl, rfl⟩⟩, .inr ⟨_, (.tail _ (.tail _ (.head _))), rfl, rfl, rfl, rfl, rfl, .inr ⟨rfl, rfl, rfl⟩⟩, .inr ⟨_, (.tail _ (.tail _ (.tail _ (.head _)))), rfl, rfl, rfl, rfl, rfl, .inr ⟨rfl, rfl, rfl⟩⟩, .inr ⟨_, (.tail _ (.tail _ (.tail _ (.tail _ (.head _))))), rfl, rfl, rfl, rfl, rfl, .inr ⟨rfl, rfl, rfl⟩⟩, .inr ⟨_, (.tail _ (.tail _ (.tail _ (.tail _ (.tail _ (.head _)))))), rfl, rfl, rfl, rfl, rfl, .inr ⟨rfl, rfl, rfl⟩⟩, .inr ⟨_, (.tail _ (.tail _ (.tail _ (.tail _ (.tail _ (.tail _ (.head _))))))), rfl, rfl, rfl, rfl, rfl, .inr ⟨rfl, rfl, rfl⟩⟩, .inr ⟨_, (.tail _ (.tail _ (.tail _ (.tail _ (.tail _ (.tail _ (.tail _ (.head _)))))))), rfl, rfl, rfl, rfl, rfl, .inr ⟨rfl, rfl, rfl⟩⟩, .inr ⟨_, (.tail _ (.tail _ (.tail _ (.tail _ (.tail _ (.tail _ (.tail _ (.tail _ (.head _))))))))), rfl, rfl, rfl, rfl, rfl, .inr ⟨rfl, rfl, rfl⟩⟩, .inr ⟨_, (.tail _ (.tail _ (.tail _ (.tail _ (.tail _ (.tail _ (.tail _ (.tail _ (.tail _ (.head _)))))))))), rfl, rfl, rfl, rfl, rfl, .inr ⟨rfl, rfl, rfl⟩⟩, .inr ⟨_, (.tail _ (.tail _ (.tail _ (.tail _ (.tail _ (.tail _ (.tail _ (.tail _ (.tail _ (.tail _ (.head _))))))))))), rfl, rfl, rfl, rfl, rfl, .inr ⟨rfl, rfl, rfl⟩⟩, .inl ⟨3, rfl⟩, trivial⟩ _) st13.n st13.sl ⟨?s0, ?s1, ?s2, ?s3, ?s4, trivial⟩ ?hdone
                              case s0 =>
                                exact k_load hBP (by kernel_rfl) (.tail _ (.tail _ (.tail _ (.tail _ (.tail _ (.tail _ (.tail _ (.head _)))))))) rfl rfl rfl rfl Tryd.underlying24 rfl size_Int fun listed ac Wd h hd => ⟨trivial, trivial⟩
                              case s1 =>
                                exact k_load hBP (by kernel_rfl) (.tail _ (.tail _ (.tail _ (.tail _ (.tail _ (.tail _ (.tail _ (.tail _ (.tail _ (.head _)))))))))) rfl rfl rfl rfl Tryd.underlying24 rfl size_Int fun listed ac Wd h hd => ⟨trivial, trivial⟩
                              case s2 =>
                                refine k_call hBP (by kernel_rfl) (fun _ _ => rfl) fun listed ac Wd h hd => ⟨trivial, ?_⟩
                                obtain ⟨v0, hv0, -, hV0⟩ := h.dep hd 0 89 (by kernel_rfl) (by kernel_rfl)
                                obtain ⟨v1, hv1, -, hV1⟩ := h.dep hd 1 90 (by kernel_rfl) (by kernel_rfl)
                                exact ⟨#[v0, v1], by simp [hv0, hv1], (cGcd (show Vz 12 (dq (X) ((Int.gcd (X) (Y) : Int))) v0 Wd from hV0) (show Vz 12 (dq (Y) ((Int.gcd (X) (Y) : Int))) v1 Wd from hV1) (by omega) (by omega))⟩
                              case s3 =>
                                exact k_alloc hBP (B1 := [⟨7, none, none, 24, 2, Vz 6 (z), VT⟩, ⟨8, none, none, 24, 2, Vz 12 (X), VT⟩, ⟨9, none, none, 24, 2, Vz 12 (Y), VT⟩, ⟨10, none, none, 24, 2, Vz 12 (dq (X) (Y)), VT⟩, ⟨11, none, none, 24, 2, Vz 12 (dr (X) (Y)), VT⟩, ⟨12, none, none, 24, 2, Vz 12 (-(Y)), VT⟩, ⟨13, none, none, 24, 2, Vz 12 ((Int.gcd (X) (Y) : Int)), VT⟩, ⟨14, none, none, 24, 2, Vz 12 (dq (X) ((Int.gcd (X) (Y) : Int))), VT⟩, ⟨15, none, none, 24, 2, Vz 12 (dr (X) ((Int.gcd (X) (Y) : Int))), VT⟩, ⟨16, none, none, 24, 2, Vz 12 (dq (Y) ((Int.gcd (X) (Y) : Int))), VT⟩, ⟨17, none, none, 24, 2, Vz 12 (dr (Y) ((Int.gcd (X) (Y) : Int))), VT⟩]) (B2 := []) rfl (by kernel_rfl) rfl rfl rfl alloc_Int rfl noint_Int (.inr ⟨_, rfl, by decide⟩) rfl fun listed ac Wd h hd => ⟨trivial, trivial⟩
                              case s4 =>
                                refine k_store hBP (B1 := [⟨7, none, none, 24, 2, Vz 6 (z), VT⟩, ⟨8, none, none, 24, 2, Vz 12 (X), VT⟩, ⟨9, none, none, 24, 2, Vz 12 (Y), VT⟩, ⟨10, none, none, 24, 2, Vz 12 (dq (X) (Y)), VT⟩, ⟨11, none, none, 24, 2, Vz 12 (dr (X) (Y)), VT⟩, ⟨12, none, none, 24, 2, Vz 12 (-(Y)), VT⟩, ⟨13, none, none, 24, 2, Vz 12 ((Int.gcd (X) (Y) : Int)), VT⟩, ⟨14, none, none, 24, 2, Vz 12 (dq (X) ((Int.gcd (X) (Y) : Int))), VT⟩, ⟨15, none, none, 24, 2, Vz 12 (dr (X) ((Int.gcd (X) (Y) : Int))), VT⟩, ⟨16, none, none, 24, 2, Vz 12 (dq (Y) ((Int.gcd (X) (Y) : Int))), VT⟩, ⟨17, none, none, 24, 2, Vz 12 (dr (Y) ((Int.gcd (X) (Y) : Int))), VT⟩]) (B2 := []) rfl (by kernel_rfl) (by kernel_rfl) rfl rfl (by kernel_rfl) rfl rfl size_Int fun listed ac Wd h hd => ⟨trivial, listed_dep hd 3 (by kernel_rfl), ?_⟩
                                obtain ⟨v0, hv0, -, hV0⟩ := h.dep hd 2 91 (by kernel_rfl) (by kernel_rfl)
                                exact agg_store (AggV_Vz _ _) hv0 hV0
                              case hdone =>
                                intro listed a14 w14 hall kd
                                have st14 : St w.heap.size w 120 [⟨7, none, none, 24, 2, Vz 6 (z), VT⟩, ⟨8, none, none, 24, 2, Vz 12 (X), VT⟩, ⟨9, none, none, 24, 2, Vz 12 (Y), VT⟩, ⟨10, none, none, 24, 2, Vz 12 (dq (X) (Y)), VT⟩, ⟨11, none, none, 24, 2, Vz 12 (dr (X) (Y)), VT⟩, ⟨12, none, none, 24, 2, Vz 12 (-(Y)), VT⟩, ⟨13, none, none, 24, 2, Vz 12 ((Int.gcd (X) (Y) : Int)), VT⟩, ⟨14, none, none, 24, 2, Vz 12 (dq (X) ((Int.gcd (X) (Y) : Int))), VT⟩, ⟨15, none, none, 24, 2, Vz 12 (dr (X) ((Int.gcd (X) (Y) : Int))), VT⟩, ⟨16, none, none, 24, 2, Vz 12 (dq (Y) ((Int.gcd (X) (Y) : Int))), VT⟩, ⟨17, none, none, 24, 2, Vz 12 (dr (Y) ((Int.gcd (X) (Y) : Int))), VT⟩, ⟨18, none, none, 24, 2, Vz 12 ((Int.gcd (dq (X) ((Int.gcd (X) (Y) : Int))) (dq (Y) ((Int.gcd (X) (Y) : Int))) : Int)), VT⟩] [(6, Vb (false)), (38, Vb (true)), (43, Vb (false)), (73, Vb (false))] a14 w14 := kd.st hall st13.size st13.defers (by kernel_rfl) _ ⟨.inl ⟨(.head _), by kernel_rfl⟩, .inl ⟨(.tail _ (.head _)), by kernel_rfl⟩, .inl ⟨(.tail _ (.tail _ (.head _))), by kernel_rfl⟩, .inl ⟨(.tail _ (.tail _ (.tail _ (.head _)))), by kernel_rfl⟩, trivial⟩
                                clear kd hall hBP st13
                                change Code.wp _ _ _ _ _
                                repeat (first | refine wp_seq ?_ | refine wp_block ?_ | (refine wp_skip ?_; change Code.wp _ _ _ _ _) | (refine wp_exit ?_; change Code.wp _ _ _ _ _))
                                have hBP : ∀ bd ∈ ([⟨7, none, none, 24, 2, Vz 6 (z), VT⟩, ⟨8, none, none, 24, 2, Vz 12 (X), VT⟩, ⟨9, none, none, 24, 2, Vz 12 (Y), VT⟩, ⟨10, none, none, 24, 2, Vz 12 (dq (X) (Y)), VT⟩, ⟨11, none, none, 24, 2, Vz 12 (dr (X) (Y)), VT⟩, ⟨12, none, none, 24, 2, Vz 12 (-(Y)), VT⟩, ⟨13, none, none, 24, 2, Vz 12 ((Int.gcd (X) (Y) : Int)), VT⟩, ⟨14, none, none, 24, 2, Vz 12 (dq (X) ((Int.gcd (X) (Y) : Int))), VT⟩, ⟨15, none, none, 24, 2, Vz 12 (dr (X) ((Int.gcd (X) (Y) : Int))), VT⟩, ⟨16, none, none, 24, 2, Vz 12 (dq (Y) ((Int.gcd (X) (Y) : Int))), VT⟩, ⟨17, none, none, 24, 2, Vz 12 (dr (Y) ((Int.gcd (X) (Y) : Int))), VT⟩, ⟨18, none, none, 24, 2, Vz 12 ((Int.gcd (dq (X) ((Int.gcd (X) (Y) : Int))) (dq (Y) ((Int.gcd (X) (Y) : Int))) : Int)), VT⟩] : List Bd), bd.stab := (List.forall_mem_cons.2 ⟨⟨Stab_Vz _ _, Stab_VT⟩, (List.forall_mem_cons.2 ⟨⟨Stab_Vz _ _, Stab_VT⟩, (List.forall_mem_cons.2 ⟨⟨Stab_Vz _ _, Stab_VT⟩, (List.forall_mem_cons.2 ⟨⟨Stab_Vz _ _, Stab_VT⟩, (List.forall_mem_cons.2 ⟨⟨Stab_Vz _ _, Stab_VT⟩, (List.forall_mem_cons.2 ⟨⟨Stab_Vz _ _, Stab_VT⟩, (List.forall_mem_cons.2 ⟨⟨Stab_Vz _ _, Stab_VT⟩, (List.forall_mem_cons.2 ⟨⟨Stab_Vz _ _, Stab_VT⟩, (List.forall_mem_cons.2 ⟨⟨Stab_Vz _ _, Stab_VT⟩, (List.forall_mem_cons.2 ⟨⟨Stab_Vz _ _, Stab_VT⟩, (List.forall_mem_cons.2 ⟨⟨Stab_Vz _ _, Stab_VT⟩, (List.forall_mem_cons.2 ⟨⟨Stab_Vz _ _, Stab_VT⟩, (fun _ h => absurd h (by simp))⟩)⟩)⟩)⟩)⟩)⟩)⟩)⟩)⟩)⟩)⟩)⟩)
                                refine region_k (V := fun i => ([Vz 12 ((Int.gcd (X) (Y) : Int)), Vi (cmpI ((Int.gcd (X) (Y) : Int)) 0), Vb (true), Vb (true), Vz 12 (dr (X) ((Int.gcd (X) (Y) : Int))), Vi (cmpI (dr (X) ((Int.gcd (X) (Y) : Int))) 0), Vb (true), Vb (true), Vb (true), Vz 12 (dr (Y) ((Int.gcd (X) (Y) : Int))), Vi (cmpI (dr (Y) ((Int.gcd (X) (Y) : Int))) 0), Vb (true), Vb (true), Vb (true), Vz 12 ((Int.gcd (dq (X) ((Int.gcd (X) (Y) : Int))) (dq (Y) ((Int.gcd (X) (Y) : Int))) : Int)), Vz 3 (1), Vb (true), Vb (true), Vb (true), Vz 12 ((Int.gcd (X) (Y) : Int)), Vz 12 (Y), Vz 12 (dr (X) (Y)), Vz 12 ((Int.gcd (Y) (dr (X) (Y)) : Int)), Vb (true), Vb (true), Vb (true), Vb (true), Vb (true), Vb (true)] : List VP).getD i VT) (B := [⟨7, none, none, 24, 2, Vz 6 (z), VT⟩, ⟨8, none, none, 24, 2, Vz 12 (X), VT⟩, ⟨9, none, none, 24, 2, Vz 12 (Y), VT⟩, ⟨10, none, none, 24, 2, Vz 12 (dq (X) (Y)), VT⟩, ⟨11, none, none, 24, 2, Vz 12 (dr (X) (Y)), VT⟩, ⟨12, none, none, 24, 2, Vz 12 (-(Y)), VT⟩, ⟨13, none, none, 24, 2, Vz 12 ((Int.gcd (X) (Y) : Int)), VT⟩, ⟨14, none, none, 24, 2, Vz 12 (dq (X) ((Int.gcd (X) (Y) : Int))), VT⟩, ⟨15, none, none, 24, 2, Vz 12 (dr (X) ((Int.gcd (X) (Y) : Int))), VT⟩, ⟨16, none, none, 24, 2, Vz 12 (dq (Y) ((Int.gcd (X) (Y) : Int))), VT⟩, ⟨17, none, none, 24, 2, Vz 12 (dr (Y) ((Int.gcd (X) (Y) : Int))), VT⟩, ⟨18, none, none, 24, 2, Vz 12 ((Int.gcd (dq (X) ((Int.gcd (X) (Y) : Int))) (dq (Y) ((Int.gcd (X) (Y) : Int))) : Int)), VT⟩]) (SL := [(6, Vb (false)), (38, Vb (true)), (43, Vb (false)), (73, Vb (false))]) (by kernel_rfl) (by kernel_rfl) (by kernel_rfl) (by rw [st14.size]; rfl) hBP (List.forall_mem_cons.2 ⟨Stab_Vb _, (List.forall_mem_cons.2 ⟨Stab_Vb _, (List.forall_mem_cons.2 ⟨Stab_Vb _, (List.forall_mem_cons.2 ⟨Stab_Vb _, (fun _ h => absurd h (by simp))⟩)⟩)⟩)⟩) (stab_of ⟨Stab_Vz _ _, Stab_Vi _, Stab_Vb _, Stab_Vb _, Stab_Vz _ _, Stab_Vi _, Stab_Vb _, Stab_Vb _, Stab_Vb _, Stab_Vz _ _, Stab_Vi _, Stab_Vb _, Stab_Vb _, Stab_Vb _, Stab_Vz _ _, Stab_Vz _ _, Stab_Vb _, Stab_Vb _, Stab_Vb _, Stab_Vz _ _, Stab_Vz _ _, Stab_Vz _ _, Stab_Vz _ _, Stab_Vb _, Stab_Vb _, Stab_Vb _, Stab_Vb _, Stab_Vb _, Stab_Vb _, trivial⟩) (st14.start (B := [⟨7, none, none, 24, 2, Vz 6 (z), VT⟩, ⟨8, none, none, 24, 2, Vz 12 (X), VT⟩, ⟨9, none, none, 24, 2, Vz 12 (Y), VT⟩, ⟨10, none, none, 24, 2, Vz 12 (dq (X) (Y)), VT⟩, ⟨11, none, none, 24, 2, Vz 12 (dr (X) (Y)), VT⟩, ⟨12, none, none, 24, 2, Vz 12 (-(Y)), VT⟩, ⟨13, none, none, 24, 2, Vz 12 ((Int.gcd (X) (Y) : Int)), VT⟩, ⟨14, none, none, 24, 2, Vz 12 (dq (X) ((Int.gcd (X) (Y) : Int))), VT⟩, ⟨15, none, none, 24, 2, Vz 12 (dr (X) ((Int.gcd (X) (Y) : Int))), VT⟩, ⟨16, none, none, 24, 2, Vz 12 (dq (Y) ((Int.gcd (X) (Y) : Int))), VT⟩, ⟨17, none, none, 24, 2, Vz 12 (dr (Y) ((Int.gcd (X) (Y) : Int))), VT⟩, ⟨18, none, none, 24, 2, Vz 12 ((Int.gcd (dq (X) ((Int.gcd (X) (Y) : Int))) (dq (Y) ((Int.gcd (X) (Y) : Int))) : Int)), VT⟩]) ⟨.inr ⟨_, (.head _), rfl, rfl, rfl, rfl, rfl, .inr ⟨rfl, rfl, rfl⟩⟩, .inr ⟨_, (.tail _ (.head _)), rfl, rfl, rfl, rfl, rfl, .inr ⟨rfl, rfl, rfl⟩⟩, .inr ⟨_, (.tail _ (.tail _ (.head _))), rfl, rfl, rfl, rfl, rfl, .inr ⟨rfl, rfl, rfl⟩⟩, .inr ⟨_, (.tail _ (.tail _ (.tail _ (.head _)))), rfl, rfl, rfl, rfl, rfl, .inr ⟨rfl, rfl, rfl⟩⟩, .inr ⟨_, (.tail _ (.tail _ (.tail _ (.tail _ (.head _))))), rfl, rfl, rfl, rfl, rfl, .inr ⟨rfl, rfl, rfl⟩⟩, .inr ⟨_, (.tail _ (.tail _ (.tail _ (.tail _ (.tail _ (.head _)))))), rfl, rfl, rfl, rfl, rfl, .inr ⟨rfl, rfl, rfl⟩⟩, .inr ⟨_, (.tail _ (.tail _ (.tail _ (.tail _ (.tail _ (.tail _ (.head _))))))), rfl, rfl, rfl, rfl, rfl, .inr ⟨rfl, rfl, rfl⟩⟩, .inr ⟨_, (.tail _ (.tail _ (.tail _ (.tail _ (.tail _ (.tail _ (.tail _ (.head _)))))))), rfl, rfl, rfl, rfl, rfl, .inr ⟨rfl, rfl, rfl⟩⟩, .inr ⟨_, (.tail _ (.tail _ (.tail _ (.tail _ (.tail _ (.tail _ (.tail _ (.tail _ (.head _))))))))), rfl, rfl, rfl, rfl, rfl, .inr ⟨rfl, rfl, rfl⟩⟩, .inr ⟨_, (.tail _ (.tail _ (.tail _ (.tail _ (.tail _ (.tail _ (.tail _ (.tail _ (.tail _ (.head _)))))))))), rfl, rfl, rfl, rfl, rfl, .inr ⟨rfl, rfl, rfl⟩⟩, .inr ⟨_, (.tail _ (.tail _ (.tail _ (.tail _ (.tail _ (.tail _ (.tail _ (.tail _ (.tail _ (.tail _ (.head _))))))))))), rfl, rfl, rfl, rfl, rfl, .inr ⟨rfl, rfl, rfl⟩⟩, .inr ⟨_, (.tail _ (.tail _ (.tail _ (.tail _ (.tail _ (.tail _ (.tail _ (.tail _ (.tail _ (.tail _ (.tail _ (.head _)))))))))))), rfl, rfl, rfl, rfl, rfl, .inr ⟨rfl, rfl, rfl⟩⟩, trivial⟩ _) st14.n st14.sl ⟨?s0, ?s1, ?s2, ?s3, ?s4, ?s5, ?s6, ?s7, ?s8, ?s9, ?s10, ?s11, ?s12, ?s13, ?s14, ?s15, ?s16, ?s17, ?s18, ?s19, ?s20, ?s21, ?s22, ?s23, ?s24, ?s25, ?s26, ?s27, ?s28, trivial⟩ ?hdone
                                case s0 =>
                                  exact k_load hBP (by kernel_rfl) (.tail _ (.tail _ (.tail _ (.tail _ (.tail _ (.tail _ (.head _))))))) rfl rfl rfl rfl Tryd.underlying24 rfl size_Int fun listed ac Wd h hd => ⟨trivial, trivial⟩
                                case s1 =>
                                  refine k_call hBP (by kernel_rfl) (fun _ _ => rfl) fun listed ac Wd h hd => ⟨trivial, ?_⟩
                                  obtain ⟨v0, hv0, -, hV0⟩ := h.dep hd 0 92 (by kernel_rfl) (by kernel_rfl)
                                  exact ⟨#[v0], by simp [hv0], cSign (show Vz 12 ((Int.gcd (X) (Y) : Int)) v0 Wd from hV0) (by omega)⟩
                                case s2 =>
                                  refine k_run hBP (by kernel_rfl) fun listed ac Wd h hd => ⟨trivial, ?_⟩
                                  obtain ⟨v0, hv0, -, hV0⟩ := h.dep hd 1 93 (by kernel_rfl) (by kernel_rfl)
                                  have hV0' : v0 = .int .i64 (cmpI ((Int.gcd (X) (Y) : Int)) 0) := hV0
                                  exact ⟨_, run_gtri rfl (hv0.trans hV0') rfl, congrArg Value.bool (by rw [cmp_gt (gcd_po hY)]; rfl)⟩
                                case s3 =>
                                  refine k_run hBP (by kernel_rfl) fun listed ac Wd h hd => ⟨trivial, ?_⟩
                                  obtain ⟨v0, hv0, -, hV0⟩ := h.dep hd 2 94 (by kernel_rfl) (by kernel_rfl)
                                  exact ⟨_, run_move rfl, by rw [hv0]; exact hV0⟩
                                case s4 =>
                                  exact k_load hBP (by kernel_rfl) (.tail _ (.tail _ (.tail _ (.tail _ (.tail _ (.tail _ (.tail _ (.tail _ (.head _))))))))) rfl rfl rfl rfl Tryd.underlying24 rfl size_Int fun listed ac Wd h hd => ⟨(by obtain ⟨u, hu, hy, hU⟩ := h.dep hd 3 95 (by kernel_rfl) (by kernel_rfl); obtain rfl : u = .bool true := hU; exact hy), trivial⟩
                                case s5 =>
                                  refine k_call hBP (by kernel_rfl) (fun _ _ => rfl) fun listed ac Wd h hd => ⟨(by obtain ⟨u, hu, hy, hU⟩ := h.dep hd 3 95 (by kernel_rfl) (by kernel_rfl); obtain rfl : u = .bool true := hU; exact hy), ?_⟩
                                  obtain ⟨v0, hv0, -, hV0⟩ := h.dep hd 4 96 (by kernel_rfl) (by kernel_rfl)
                                  exact ⟨#[v0], by simp [hv0], cSign (show Vz 12 (dr (X) ((Int.gcd (X) (Y) : Int))) v0 Wd from hV0) (by omega)⟩
                                case s6 =>
                                  refine k_run hBP (by kernel_rfl) fun listed ac Wd h hd => ⟨(by obtain ⟨u, hu, hy, hU⟩ := h.dep hd 3 95 (by kernel_rfl) (by kernel_rfl); obtain rfl : u = .bool true := hU; exact hy), ?_⟩
                                  obtain ⟨v0, hv0, -, hV0⟩ := h.dep hd 5 97 (by kernel_rfl) (by kernel_rfl)
                                  have hV0' : v0 = .int .i64 (cmpI (dr (X) ((Int.gcd (X) (Y) : Int))) 0) := hV0
                                  exact ⟨_, run_eqi rfl (hv0.trans hV0') rfl, congrArg Value.bool (by rw [dr_gl hY, cmp_eq]; rfl)⟩
                                case s7 =>
                                  refine k_run hBP (by kernel_rfl) fun listed ac Wd h hd => ⟨trivial, ?_⟩
                                  obtain ⟨v0, hv0, -, hV0⟩ := h.dep hd 3 95 (by kernel_rfl) (by kernel_rfl)
                                  obtain ⟨v1, hv1, -, hV1⟩ := h.dep hd 6 98 (by kernel_rfl) (by kernel_rfl)
                                  exact ⟨_, run_pick_t rfl (hv0.trans hV0), by rw [hv1]; exact hV1⟩
                                case s8 =>
                                  refine k_run hBP (by kernel_rfl) fun listed ac Wd h hd => ⟨trivial, ?_⟩
                                  obtain ⟨v0, hv0, -, hV0⟩ := h.dep hd 7 99 (by kernel_rfl) (by kernel_rfl)
                                  exact ⟨_, run_move rfl, by rw [hv0]; exact hV0⟩
                                case s9 =>
                                  exact k_load hBP (by kernel_rfl) (.tail _ (.tail _ (.tail _ (.tail _ (.tail _ (.tail _ (.tail _ (.tail _ (.tail _ (.tail _ (.head _))))))))))) rfl rfl rfl rfl Tryd.underlying24 rfl size_Int fun listed ac Wd h hd => ⟨(by obtain ⟨u, hu, hy, hU⟩ := h.dep hd 8 100 (by kernel_rfl) (by kernel_rfl); obtain rfl : u = .bool true := hU; exact hy), trivial⟩
                                case s10 =>
                                  refine k_call hBP (by kernel_rfl) (fun _ _ => rfl) fun listed ac Wd h hd => ⟨(by obtain ⟨u, hu, hy, hU⟩ := h.dep hd 8 100 (by kernel_rfl) (by kernel_rfl); obtain rfl : u = .bool true := hU; exact hy), ?_⟩
                                  obtain ⟨v0, hv0, -, hV0⟩ := h.dep hd 9 101 (by kernel_rfl) (by kernel_rfl)
                                  exact ⟨#[v0], by simp [hv0], cSign (show Vz 12 (dr (Y) ((Int.gcd (X) (Y) : Int))) v0 Wd from hV0) (by omega)⟩
                                case s11 =>
                                  refine k_run hBP (by kernel_rfl) fun listed ac Wd h hd => ⟨(by obtain ⟨u, hu, hy, hU⟩ := h.dep hd 8 100 (by kernel_rfl) (by kernel_rfl); obtain rfl : u = .bool true := hU; exact hy), ?_⟩
                                  obtain ⟨v0, hv0, -, hV0⟩ := h.dep hd 10 102 (by kernel_rfl) (by kernel_rfl)
                                  have hV0' : v0 = .int .i64 (cmpI (dr (Y) ((Int.gcd (X) (Y) : Int))) 0) := hV0
                                  exact ⟨_, run_eqi rfl (hv0.trans hV0') rfl, congrArg Value.bool (by rw [dr_gr hY, cmp_eq]; rfl)⟩
                                case s12 =>
                                  refine k_run hBP (by kernel_rfl) fun listed ac Wd h hd => ⟨trivial, ?_⟩
                                  obtain ⟨v0, hv0, -, hV0⟩ := h.dep hd 8 100 (by kernel_rfl) (by kernel_rfl)
                                  obtain ⟨v1, hv1, -, hV1⟩ := h.dep hd 11 103 (by kernel_rfl) (by kernel_rfl)
                                  exact ⟨_, run_pick_t rfl (hv0.trans hV0), by rw [hv1]; exact hV1⟩
                                case s13 =>
                                  refine k_run hBP (by kernel_rfl) fun listed ac Wd h hd => ⟨trivial, ?_⟩
                                  obtain ⟨v0, hv0, -, hV0⟩ := h.dep hd 12 104 (by kernel_rfl) (by kernel_rfl)
                                  exact ⟨_, run_move rfl, by rw [hv0]; exact hV0⟩
                                case s14 =>
                                  exact k_load hBP (by kernel_rfl) (.tail _ (.tail _ (.tail _ (.tail _ (.tail _ (.tail _ (.tail _ (.tail _ (.tail _ (.tail _ (.tail _ (.head _)))))))))))) rfl rfl rfl rfl Tryd.underlying24 rfl size_Int fun listed ac Wd h hd => ⟨(by obtain ⟨u, hu, hy, hU⟩ := h.dep hd 13 105 (by kernel_rfl) (by kernel_rfl); obtain rfl : u = .bool true := hU; exact hy), trivial⟩
                                case s15 =>
                                  refine k_call hBP (by kernel_rfl) (fun _ _ => rfl) fun listed ac Wd h hd => ⟨(by obtain ⟨u, hu, hy, hU⟩ := h.dep hd 13 105 (by kernel_rfl) (by kernel_rfl); obtain rfl : u = .bool true := hU; exact hy), ?_⟩
                                  exact ⟨#[.int .i64 (1)], by simp [eval_const], cOf (1) (by omega) (by omega)⟩
                                case s16 =>
                                  refine k_call hBP (by kernel_rfl) (fun _ _ => rfl) fun listed ac Wd h hd => ⟨(by obtain ⟨u, hu, hy, hU⟩ := h.dep hd 13 105 (by kernel_rfl) (by kernel_rfl); obtain rfl : u = .bool true := hU; exact hy), ?_⟩
                                  obtain ⟨v0, hv0, -, hV0⟩ := h.dep hd 14 106 (by kernel_rfl) (by kernel_rfl)
                                  obtain ⟨v1, hv1, -, hV1⟩ := h.dep hd 15 107 (by kernel_rfl) (by kernel_rfl)
                                  exact ⟨#[v0, v1], by simp [hv0, hv1], cSame (show Vz 12 ((Int.gcd (dq (X) ((Int.gcd (X) (Y) : Int))) (dq (Y) ((Int.gcd (X) (Y) : Int))) : Int)) v0 Wd from hV0) (show Vz 3 (1) v1 Wd from hV1) (by omega) (by omega) (gcd_1 hY)⟩
                                case s17 =>
                                  refine k_run hBP (by kernel_rfl) fun listed ac Wd h hd => ⟨trivial, ?_⟩
                                  obtain ⟨v0, hv0, -, hV0⟩ := h.dep hd 13 105 (by kernel_rfl) (by kernel_rfl)
                                  obtain ⟨v1, hv1, -, hV1⟩ := h.dep hd 16 108 (by kernel_rfl) (by kernel_rfl)
                                  exact ⟨_, run_pick_t rfl (hv0.trans hV0), by rw [hv1]; exact hV1⟩
                                case s18 =>
                                  refine k_run hBP (by kernel_rfl) fun listed ac Wd h hd => ⟨trivial, ?_⟩
                                  obtain ⟨v0, hv0, -, hV0⟩ := h.dep hd 17 109 (by kernel_rfl) (by kernel_rfl)
                                  exact ⟨_, run_move rfl, by rw [hv0]; exact hV0⟩
                                case s19 =>
                                  exact k_load hBP (by kernel_rfl) (.tail _ (.tail _ (.tail _ (.tail _ (.tail _ (.tail _ (.head _))))))) rfl rfl rfl rfl Tryd.underlying24 rfl size_Int fun listed ac Wd h hd => ⟨(by obtain ⟨u, hu, hy, hU⟩ := h.dep hd 18 110 (by kernel_rfl) (by kernel_rfl); obtain rfl : u = .bool true := hU; exact hy), trivial⟩
                                case s20 =>
                                  exact k_load hBP (by kernel_rfl) (.tail _ (.tail _ (.head _))) rfl rfl rfl rfl Tryd.underlying24 rfl size_Int fun listed ac Wd h hd => ⟨(by obtain ⟨u, hu, hy, hU⟩ := h.dep hd 18 110 (by kernel_rfl) (by kernel_rfl); obtain rfl : u = .bool true := hU; exact hy), trivial⟩
                                case s21 =>
                                  exact k_load hBP (by kernel_rfl) (.tail _ (.tail _ (.tail _ (.tail _ (.head _))))) rfl rfl rfl rfl Tryd.underlying24 rfl size_Int fun listed ac Wd h hd => ⟨(by obtain ⟨u, hu, hy, hU⟩ := h.dep hd 18 110 (by kernel_rfl) (by kernel_rfl); obtain rfl : u = .bool true := hU; exact hy), trivial⟩
                                case s22 =>
                                  refine k_call hBP (by kernel_rfl) (fun _ _ => rfl) fun listed ac Wd h hd => ⟨(by obtain ⟨u, hu, hy, hU⟩ := h.dep hd 18 110 (by kernel_rfl) (by kernel_rfl); obtain rfl : u = .bool true := hU; exact hy), ?_⟩
                                  obtain ⟨v0, hv0, -, hV0⟩ := h.dep hd 20 112 (by kernel_rfl) (by kernel_rfl)
                                  obtain ⟨v1, hv1, -, hV1⟩ := h.dep hd 21 113 (by kernel_rfl) (by kernel_rfl)
                                  exact ⟨#[v0, v1], by simp [hv0, hv1], (cGcd (show Vz 12 (Y) v0 Wd from hV0) (show Vz 12 (dr (X) (Y)) v1 Wd from hV1) (by omega) (by omega))⟩
                                case s23 =>
                                  refine k_call hBP (by kernel_rfl) (fun _ _ => rfl) fun listed ac Wd h hd => ⟨(by obtain ⟨u, hu, hy, hU⟩ := h.dep hd 18 110 (by kernel_rfl) (by kernel_rfl); obtain rfl : u = .bool true := hU; exact hy), ?_⟩
                                  obtain ⟨v0, hv0, -, hV0⟩ := h.dep hd 19 111 (by kernel_rfl) (by kernel_rfl)
                                  obtain ⟨v1, hv1, -, hV1⟩ := h.dep hd 22 114 (by kernel_rfl) (by kernel_rfl)
                                  exact ⟨#[v0, v1], by simp [hv0, hv1], cSame (show Vz 12 ((Int.gcd (X) (Y) : Int)) v0 Wd from hV0) (show Vz 12 ((Int.gcd (Y) (dr (X) (Y)) : Int)) v1 Wd from hV1) (by omega) (by omega) (gcd_rest hY)⟩
                                case s24 =>
                                  refine k_run hBP (by kernel_rfl) fun listed ac Wd h hd => ⟨trivial, ?_⟩
                                  obtain ⟨v0, hv0, -, hV0⟩ := h.dep hd 18 110 (by kernel_rfl) (by kernel_rfl)
                                  obtain ⟨v1, hv1, -, hV1⟩ := h.dep hd 23 115 (by kernel_rfl) (by kernel_rfl)
                                  exact ⟨_, run_pick_t rfl (hv0.trans hV0), by rw [hv1]; exact hV1⟩
                                case s25 =>
                                  refine k_run hBP (by kernel_rfl) fun listed ac Wd h hd => ⟨trivial, ?_⟩
                                  obtain ⟨v0, hv0, -, hV0⟩ := h.dep hd 24 116 (by kernel_rfl) (by kernel_rfl)
                                  exact ⟨_, run_move rfl, by rw [hv0]; exact hV0⟩
                                case s26 =>
                                  refine k_call hBP (by kernel_rfl) (fun _ _ => rfl) fun listed ac Wd h hd => ⟨(by obtain ⟨u, hu, hy, hU⟩ := h.dep hd 25 117 (by kernel_rfl) (by kernel_rfl); obtain rfl : u = .bool true := hU; exact hy), ?_⟩
                                  exact ⟨#[], by simp [], cLives hT h.k.below rfl⟩
                                case s27 =>
                                  refine k_run hBP (by kernel_rfl) fun listed ac Wd h hd => ⟨trivial, ?_⟩
                                  obtain ⟨v0, hv0, -, hV0⟩ := h.dep hd 25 117 (by kernel_rfl) (by kernel_rfl)
                                  obtain ⟨v1, hv1, -, hV1⟩ := h.dep hd 26 118 (by kernel_rfl) (by kernel_rfl)
                                  exact ⟨_, run_pick_t rfl (hv0.trans hV0), by rw [hv1]; exact hV1⟩
                                case s28 =>
                                  refine k_run hBP (by kernel_rfl) fun listed ac Wd h hd => ⟨trivial, ?_⟩
                                  obtain ⟨v0, hv0, -, hV0⟩ := h.dep hd 27 119 (by kernel_rfl) (by kernel_rfl)
                                  exact ⟨_, run_assign rfl, by rw [hv0]; exact hV0⟩
                                case hdone =>
                                  intro listed a15 w15 hall kd
                                  have st15 : St w.heap.size w 120 [⟨7, none, none, 24, 2, Vz 6 (z), VT⟩, ⟨8, none, none, 24, 2, Vz 12 (X), VT⟩, ⟨9, none, none, 24, 2, Vz 12 (Y), VT⟩, ⟨10, none, none, 24, 2, Vz 12 (dq (X) (Y)), VT⟩, ⟨11, none, none, 24, 2, Vz 12 (dr (X) (Y)), VT⟩, ⟨12, none, none, 24, 2, Vz 12 (-(Y)), VT⟩, ⟨13, none, none, 24, 2, Vz 12 ((Int.gcd (X) (Y) : Int)), VT⟩, ⟨14, none, none, 24, 2, Vz 12 (dq (X) ((Int.gcd (X) (Y) : Int))), VT⟩, ⟨15, none, none, 24, 2, Vz 12 (dr (X) ((Int.gcd (X) (Y) : Int))), VT⟩, ⟨16, none, none, 24, 2, Vz 12 (dq (Y) ((Int.gcd (X) (Y) : Int))), VT⟩, ⟨17, none, none, 24, 2, Vz 12 (dr (Y) ((Int.gcd (X) (Y) : Int))), VT⟩, ⟨18, none, none, 24, 2, Vz 12 ((Int.gcd (dq (X) ((Int.gcd (X) (Y) : Int))) (dq (Y) ((Int.gcd (X) (Y) : Int))) : Int)), VT⟩] [(38, Vb (true)), (43, Vb (false)), (73, Vb (false)), (6, Vb (true))] a15 w15 := kd.st hall st14.size st14.defers (by kernel_rfl) _ ⟨.inl ⟨(.tail _ (.head _)), by kernel_rfl⟩, .inl ⟨(.tail _ (.tail _ (.head _))), by kernel_rfl⟩, .inl ⟨(.tail _ (.tail _ (.tail _ (.head _)))), by kernel_rfl⟩, .inr ⟨28, by kernel_rfl, rfl⟩, trivial⟩
                                  clear kd hall hBP st14
                                  change Code.wp _ _ _ _ _
                                  repeat (first | refine wp_seq ?_ | refine wp_block ?_ | (refine wp_skip ?_; change Code.wp _ _ _ _ _) | (refine wp_exit ?_; change Code.wp _ _ _ _ _))
                                  obtain ⟨vr, r1, r4⟩ := st15.slot (6, Vb (true)) (.tail _ (.tail _ (.tail _ (.head _))))
                                  exact wp_ret (bodyPost_ret (results_tmp rfl _ _ _) st15.defers ⟨_, congrArg Ending.returned (show _ = vr from r1), r4, st15.k.below⟩)
              ·
                repeat (first | refine wp_seq ?_ | refine wp_block ?_ | (refine wp_skip ?_; change Code.wp _ _ _ _ _) | (refine wp_exit ?_; change Code.wp _ _ _ _ _))
                have hBP : ∀ bd ∈ ([⟨7, none, none, 24, 2, Vz 6 (z), VT⟩, ⟨8, none, none, 24, 2, Vz 12 (X), VT⟩, ⟨9, none, none, 24, 2, Vz 12 (Y), VT⟩, ⟨10, none, none, 24, 2, Vz 12 (dq (X) (Y)), VT⟩, ⟨11, none, none, 24, 2, Vz 12 (dr (X) (Y)), VT⟩, ⟨12, none, none, 24, 2, Vz 12 (Y), VT⟩] : List Bd), bd.stab := (List.forall_mem_cons.2 ⟨⟨Stab_Vz _ _, Stab_VT⟩, (List.forall_mem_cons.2 ⟨⟨Stab_Vz _ _, Stab_VT⟩, (List.forall_mem_cons.2 ⟨⟨Stab_Vz _ _, Stab_VT⟩, (List.forall_mem_cons.2 ⟨⟨Stab_Vz _ _, Stab_VT⟩, (List.forall_mem_cons.2 ⟨⟨Stab_Vz _ _, Stab_VT⟩, (List.forall_mem_cons.2 ⟨⟨Stab_Vz _ _, Stab_VT⟩, (fun _ h => absurd h (by simp))⟩)⟩)⟩)⟩)⟩)⟩)
                refine region_k (V := fun i => ([Vz 12 (Y), Vi (cmpI (Y) 0), Vb (false)] : List VP).getD i VT) (B := [⟨7, none, none, 24, 2, Vz 6 (z), VT⟩, ⟨8, none, none, 24, 2, Vz 12 (X), VT⟩, ⟨9, none, none, 24, 2, Vz 12 (Y), VT⟩, ⟨10, none, none, 24, 2, Vz 12 (dq (X) (Y)), VT⟩, ⟨11, none, none, 24, 2, Vz 12 (dr (X) (Y)), VT⟩, ⟨12, none, none, 24, 2, Vz 12 (Y), VT⟩]) (SL := [(6, Vb (false))]) (by kernel_rfl) (by kernel_rfl) (by kernel_rfl) (by rw [st6.size]; rfl) hBP (List.forall_mem_cons.2 ⟨Stab_Vb _, (fun _ h => absurd h (by simp))⟩) (stab_of ⟨Stab_Vz _ _, Stab_Vi _, Stab_Vb _, trivial⟩) (st6.start (B := [⟨7, none, none, 24, 2, Vz 6 (z), VT⟩, ⟨8, none, none, 24, 2, Vz 12 (X), VT⟩, ⟨9, none, none, 24, 2, Vz 12 (Y), VT⟩, ⟨10, none, none, 24, 2, Vz 12 (dq (X) (Y)), VT⟩, ⟨11, none, none, 24, 2, Vz 12 (dr (X) (Y)), VT⟩, ⟨12, none, none, 24, 2, Vz 12 (Y), VT⟩]) ⟨.inr ⟨_, (.head _), rfl, rfl, rfl, rfl, rfl, .inr ⟨rfl, rfl, rfl⟩⟩, .inr ⟨_, (.tail _ (.head _)), rfl, rfl, rfl, rfl, rfl, .inr ⟨rfl, rfl, rfl⟩⟩, .inr ⟨_, (.tail _ (.tail _ (.head _))), rfl, rfl, rfl, rfl, rfl, .inr ⟨rfl, rfl, rfl⟩⟩, .inr ⟨_, (.tail _ (.tail _ (.tail _ (.head _)))), rfl, rfl, rfl, rfl, rfl, .inr ⟨rfl, rfl, rfl⟩⟩, .inr ⟨_, (.tail _ (.tail _ (.tail _ (.tail _ (.head _))))), rfl, rfl, rfl, rfl, rfl, .inr ⟨rfl, rfl, rfl⟩⟩, .inr ⟨_, (.tail _ (.tail _ (.tail _ (.tail _ (.tail _ (.head _)))))), rfl, rfl, rfl, rfl, rfl, .inr ⟨rfl, rfl, rfl⟩⟩, trivial⟩ _) st6.n st6.sl ⟨?s0, ?s1, ?s2, trivial⟩ ?hdone
                case s0 =>
                  exact k_load hBP (by kernel_rfl) (.tail _ (.tail _ (.head _))) rfl rfl rfl rfl Tryd.underlying24 rfl size_Int fun listed ac Wd h hd => ⟨trivial, trivial⟩
                case s1 =>
                  refine k_call hBP (by kernel_rfl) (fun _ _ => rfl) fun listed ac Wd h hd => ⟨trivial, ?_⟩
                  obtain ⟨v0, hv0, -, hV0⟩ := h.dep hd 0 36 (by kernel_rfl) (by kernel_rfl)
                  exact ⟨#[v0], by simp [hv0], cSign (show Vz 12 (Y) v0 Wd from hV0) (by omega)⟩
                case s2 =>
                  refine k_run hBP (by kernel_rfl) fun listed ac Wd h hd => ⟨trivial, ?_⟩
                  obtain ⟨v0, hv0, -, hV0⟩ := h.dep hd 1 37 (by kernel_rfl) (by kernel_rfl)
                  have hV0' : v0 = .int .i64 (cmpI (Y) 0) := hV0
                  exact ⟨_, run_lssi rfl (hv0.trans hV0') rfl, congrArg Value.bool (decide_eq_false (by rcases Int.lt_or_eq_of_le (Int.not_lt.1 hl) with h1 | h1; (rw [cmp_gt h1]; omega); (rw [← h1, cmp_eq]; omega)))⟩
                case hdone =>
                  intro listed a7 w7 hall kd
                  have st7 : St w.heap.size w 120 [⟨7, none, none, 24, 2, Vz 6 (z), VT⟩, ⟨8, none, none, 24, 2, Vz 12 (X), VT⟩, ⟨9, none, none, 24, 2, Vz 12 (Y), VT⟩, ⟨10, none, none, 24, 2, Vz 12 (dq (X) (Y)), VT⟩, ⟨11, none, none, 24, 2, Vz 12 (dr (X) (Y)), VT⟩, ⟨12, none, none, 24, 2, Vz 12 (Y), VT⟩] [(6, Vb (false)), (38, Vb (false))] a7 w7 := kd.st hall st6.size st6.defers (by kernel_rfl) _ ⟨.inl ⟨(.head _), by kernel_rfl⟩, .inr ⟨2, by kernel_rfl, rfl⟩, trivial⟩
                  clear kd hall hBP st6
                  change Code.wp _ _ _ _ _
                  by_cases hY : Y = 0
                  ·
                    repeat (first | refine wp_seq ?_ | refine wp_block ?_ | (refine wp_skip ?_; change Code.wp _ _ _ _ _) | (refine wp_exit ?_; change Code.wp _ _ _ _ _))
                    obtain ⟨vc, hc1, hc2⟩ := st7.slot (38, Vb (false)) (.tail _ (.head _))
                    refine wp_cond_false (hc1.trans hc2) ?_
                    clear hc1 hc2
                    repeat (first | refine wp_seq ?_ | refine wp_block ?_ | (refine wp_skip ?_; change Code.wp _ _ _ _ _) | (refine wp_exit ?_; change Code.wp _ _ _ _ _))
                    have hBP : ∀ bd ∈ ([⟨7, none, none, 24, 2, Vz 6 (z), VT⟩, ⟨8, none, none, 24, 2, Vz 12 (X), VT⟩, ⟨9, none, none, 24, 2, Vz 12 (Y), VT⟩, ⟨10, none, none, 24, 2, Vz 12 (dq (X) (Y)), VT⟩, ⟨11, none, none, 24, 2, Vz 12 (dr (X) (Y)), VT⟩, ⟨12, none, none, 24, 2, Vz 12 (Y), VT⟩] : List Bd), bd.stab := (List.forall_mem_cons.2 ⟨⟨Stab_Vz _ _, Stab_VT⟩, (List.forall_mem_cons.2 ⟨⟨Stab_Vz _ _, Stab_VT⟩, (List.forall_mem_cons.2 ⟨⟨Stab_Vz _ _, Stab_VT⟩, (List.forall_mem_cons.2 ⟨⟨Stab_Vz _ _, Stab_VT⟩, (List.forall_mem_cons.2 ⟨⟨Stab_Vz _ _, Stab_VT⟩, (List.forall_mem_cons.2 ⟨⟨Stab_Vz _ _, Stab_VT⟩, (fun _ h => absurd h (by simp))⟩)⟩)⟩)⟩)⟩)⟩)
                    refine region_k (V := fun i => ([Vz 12 (Y), Vi (cmpI (Y) 0), Vb (true)] : List VP).getD i VT) (B := [⟨7, none, none, 24, 2, Vz 6 (z), VT⟩, ⟨8, none, none, 24, 2, Vz 12 (X), VT⟩, ⟨9, none, none, 24, 2, Vz 12 (Y), VT⟩, ⟨10, none, none, 24, 2, Vz 12 (dq (X) (Y)), VT⟩, ⟨11, none, none, 24, 2, Vz 12 (dr (X) (Y)), VT⟩, ⟨12, none, none, 24, 2, Vz 12 (Y), VT⟩]) (SL := [(6, Vb (false)), (38, Vb (false))]) (by kernel_rfl) (by kernel_rfl) (by kernel_rfl) (by rw [st7.size]; rfl) hBP (List.forall_mem_cons.2 ⟨Stab_Vb _, (List.forall_mem_cons.2 ⟨Stab_Vb _, (fun _ h => absurd h (by simp))⟩)⟩) (stab_of ⟨Stab_Vz _ _, Stab_Vi _, Stab_Vb _, trivial⟩) (st7.start (B := [⟨7, none, none, 24, 2, Vz 6 (z), VT⟩, ⟨8, none, none, 24, 2, Vz 12 (X), VT⟩, ⟨9, none, none, 24, 2, Vz 12 (Y), VT⟩, ⟨10, none, none, 24, 2, Vz 12 (dq (X) (Y)), VT⟩, ⟨11, none, none, 24, 2, Vz 12 (dr (X) (Y)), VT⟩, ⟨12, none, none, 24, 2, Vz 12 (Y), VT⟩]) ⟨.inr ⟨_, (.head _), rfl, rfl, rfl, rfl, rfl, .inr ⟨rfl, rfl, rfl⟩⟩, .inr ⟨_, (.tail _ (.head _)), rfl, rfl, rfl, rfl, rfl, .inr ⟨rfl, rfl, rfl⟩⟩, .inr ⟨_, (.tail _ (.tail _ (.head _))), rfl, rfl, rfl, rfl, rfl, .inr ⟨rfl, rfl, rfl⟩⟩, .inr ⟨_, (.tail _ (.tail _ (.tail _ (.head _)))), rfl, rfl, rfl, rfl, rfl, .inr ⟨rfl, rfl, rfl⟩⟩, .inr ⟨_, (.tail _ (.tail _ (.tail _ (.tail _ (.head _))))), rfl, rfl, rfl, rfl, rfl, .inr ⟨rfl, rfl, rfl⟩⟩, .inr ⟨_, (.tail _ (.tail _ (.tail _ (.tail _ (.tail _ (.head _)))))), rfl, rfl, rfl, rfl, rfl, .inr ⟨rfl, rfl, rfl⟩⟩, trivial⟩ _) st7.n st7.sl ⟨?s0, ?s1, ?s2, trivial⟩ ?hdone
                    case s0 =>
                      exact k_load hBP (by kernel_rfl) (.tail _ (.tail _ (.head _))) rfl rfl rfl rfl Tryd.underlying24 rfl size_Int fun listed ac Wd h hd => ⟨trivial, trivial⟩
                    case s1 =>
                      refine k_call hBP (by kernel_rfl) (fun _ _ => rfl) fun listed ac Wd h hd => ⟨trivial, ?_⟩
                      obtain ⟨v0, hv0, -, hV0⟩ := h.dep hd 0 41 (by kernel_rfl) (by kernel_rfl)
                      exact ⟨#[v0], by simp [hv0], cSign (show Vz 12 (Y) v0 Wd from hV0) (by omega)⟩
                    case s2 =>
                      refine k_run hBP (by kernel_rfl) fun listed ac Wd h hd => ⟨trivial, ?_⟩
                      obtain ⟨v0, hv0, -, hV0⟩ := h.dep hd 1 42 (by kernel_rfl) (by kernel_rfl)
                      have hV0' : v0 = .int .i64 (cmpI (Y) 0) := hV0
                      exact ⟨_, run_eqi rfl (hv0.trans hV0') rfl, congrArg Value.bool (by rw [hY, cmp_eq]; rfl)⟩
                    case hdone =>
                      intro listed a8 w8 hall kd
                      have st8 : St w.heap.size w 120 [⟨7, none, none, 24, 2, Vz 6 (z), VT⟩, ⟨8, none, none, 24, 2, Vz 12 (X), VT⟩, ⟨9, none, none, 24, 2, Vz 12 (Y), VT⟩, ⟨10, none, none, 24, 2, Vz 12 (dq (X) (Y)), VT⟩, ⟨11, none, none, 24, 2, Vz 12 (dr (X) (Y)), VT⟩, ⟨12, none, none, 24, 2, Vz 12 (Y), VT⟩] [(6, Vb (false)), (38, Vb (false)), (43, Vb (true))] a8 w8 := kd.st hall st7.size st7.defers (by kernel_rfl) _ ⟨.inl ⟨(.head _), by kernel_rfl⟩, .inl ⟨(.tail _ (.head _)), by kernel_rfl⟩, .inr ⟨2, by kernel_rfl, rfl⟩, trivial⟩
                      clear kd hall hBP st7
                      change Code.wp _ _ _ _ _
                      repeat (first | refine wp_seq ?_ | refine wp_block ?_ | (refine wp_skip ?_; change Code.wp _ _ _ _ _) | (refine wp_exit ?_; change Code.wp _ _ _ _ _))
                      obtain ⟨vc, hc1, hc2⟩ := st8.slot (43, Vb (true)) (.tail _ (.tail _ (.head _)))
                      refine wp_cond_true (hc1.trans hc2) ?_
                      clear hc1 hc2
                      repeat (first | refine wp_seq ?_ | refine wp_block ?_ | (refine wp_skip ?_; change Code.wp _ _ _ _ _) | (refine wp_exit ?_; change Code.wp _ _ _ _ _))
                      have hBP : ∀ bd ∈ ([⟨7, none, none, 24, 2, Vz 6 (z), VT⟩, ⟨8, none, none, 24, 2, Vz 12 (X), VT⟩, ⟨9, none, none, 24, 2, Vz 12 (Y), VT⟩, ⟨10, none, none, 24, 2, Vz 12 (dq (X) (Y)), VT⟩, ⟨11, none, none, 24, 2, Vz 12 (dr (X) (Y)), VT⟩, ⟨12, none, none, 24, 2, Vz 12 (Y), VT⟩] : List Bd), bd.stab := (List.forall_mem_cons.2 ⟨⟨Stab_Vz _ _, Stab_VT⟩, (List.forall_mem_cons.2 ⟨⟨Stab_Vz _ _, Stab_VT⟩, (List.forall_mem_cons.2 ⟨⟨Stab_Vz _ _, Stab_VT⟩, (List.forall_mem_cons.2 ⟨⟨Stab_Vz _ _, Stab_VT⟩, (List.forall_mem_cons.2 ⟨⟨Stab_Vz _ _, Stab_VT⟩, (List.forall_mem_cons.2 ⟨⟨Stab_Vz _ _, Stab_VT⟩, (fun _ h => absurd h (by simp))⟩)⟩)⟩)⟩)⟩)⟩)
                      refine region_k (V := fun i => ([Vz 12 (dq (X) (Y)), Vi (cmpI (dq (X) (Y)) 0), Vb (true), Vb (true), Vz 12 (dr (X) (Y)), Vi (cmpI (dr (X) (Y)) 0), Vb (true), Vb (true), Vb (true), Vb (true), Vb (true), Vb (true)] : List VP).getD i VT) (B := [⟨7, none, none, 24, 2, Vz 6 (z), VT⟩, ⟨8, none, none, 24, 2, Vz 12 (X), VT⟩, ⟨9, none, none, 24, 2, Vz 12 (Y), VT⟩, ⟨10, none, none, 24, 2, Vz 12 (dq (X) (Y)), VT⟩, ⟨11, none, none, 24, 2, Vz 12 (dr (X) (Y)), VT⟩, ⟨12, none, none, 24, 2, Vz 12 (Y), VT⟩]) (SL := [(6, Vb (false)), (38, Vb (false)), (43, Vb (true))]) (by kernel_rfl) (by kernel_rfl) (by kernel_rfl) (by rw [st8.size]; rfl) hBP (List.forall_mem_cons.2 ⟨Stab_Vb _, (List.forall_mem_cons.2 ⟨Stab_Vb _, (List.forall_mem_cons.2 ⟨Stab_Vb _, (fun _ h => absurd h (by simp))⟩)⟩)⟩) (stab_of ⟨Stab_Vz _ _, Stab_Vi _, Stab_Vb _, Stab_Vb _, Stab_Vz _ _, Stab_Vi _, Stab_Vb _, Stab_Vb _, Stab_Vb _, Stab_Vb _, Stab_Vb _, Stab_Vb _, trivial⟩) (st8.start (B := [⟨7, none, none, 24, 2, Vz 6 (z), VT⟩, ⟨8, none, none, 24, 2, Vz 12 (X), VT⟩, ⟨9, none, none, 24, 2, Vz 12 (Y), VT⟩, ⟨10, none, none, 24, 2, Vz 12 (dq (X) (Y)), VT⟩, ⟨11, none, none, 24, 2, Vz 12 (dr (X) (Y)), VT⟩, ⟨12, none, none, 24, 2, Vz 12 (Y), VT⟩]) ⟨.inr ⟨_, (.head _), rfl, rfl, rfl, rfl, rfl, .inr ⟨rfl, rfl, rfl⟩⟩, .inr ⟨_, (.tail _ (.head _)), rfl, rfl, rfl, rfl, rfl, .inr ⟨rfl, rfl, rfl⟩⟩, .inr ⟨_, (.tail _ (.tail _ (.head _))), rfl, rfl, rfl, rfl, rfl, .inr ⟨rfl, rfl, rfl⟩⟩, .inr ⟨_, (.tail _ (.tail _ (.tail _ (.head _)))), rfl, rfl, rfl, rfl, rfl, .inr ⟨rfl, rfl, rfl⟩⟩, .inr ⟨_, (.tail _ (.tail _ (.tail _ (.tail _ (.head _))))), rfl, rfl, rfl, rfl, rfl, .inr ⟨rfl, rfl, rfl⟩⟩, .inr ⟨_, (.tail _ (.tail _ (.tail _ (.tail _ (.tail _ (.head _)))))), rfl, rfl, rfl, rfl, rfl, .inr ⟨rfl, rfl, rfl⟩⟩, trivial⟩ _) st8.n st8.sl ⟨?s0, ?s1, ?s2, ?s3, ?s4, ?s5, ?s6, ?s7, ?s8, ?s9, ?s10, ?s11, trivial⟩ ?hdone
                      case s0 =>
                        exact k_load hBP (by kernel_rfl) (.tail _ (.tail _ (.tail _ (.head _)))) rfl rfl rfl rfl Tryd.underlying24 rfl size_Int fun listed ac Wd h hd => ⟨trivial, trivial⟩
                      case s1 =>
                        refine k_call hBP (by kernel_rfl) (fun _ _ => rfl) fun listed ac Wd h hd => ⟨trivial, ?_⟩
                        obtain ⟨v0, hv0, -, hV0⟩ := h.dep hd 0 44 (by kernel_rfl) (by kernel_rfl)
                        exact ⟨#[v0], by simp [hv0], cSign (show Vz 12 (dq (X) (Y)) v0 Wd from hV0) (by omega)⟩
                      case s2 =>
                        refine k_run hBP (by kernel_rfl) fun listed ac Wd h hd => ⟨trivial, ?_⟩
                        obtain ⟨v0, hv0, -, hV0⟩ := h.dep hd 1 45 (by kernel_rfl) (by kernel_rfl)
                        have hV0' : v0 = .int .i64 (cmpI (dq (X) (Y)) 0) := hV0
                        exact ⟨_, run_eqi rfl (hv0.trans hV0') rfl, congrArg Value.bool (by rw [hY, show dq X 0 = 0 from if_pos rfl, cmp_eq]; rfl)⟩
                      case s3 =>
                        refine k_run hBP (by kernel_rfl) fun listed ac Wd h hd => ⟨trivial, ?_⟩
                        obtain ⟨v0, hv0, -, hV0⟩ := h.dep hd 2 46 (by kernel_rfl) (by kernel_rfl)
                        exact ⟨_, run_move rfl, by rw [hv0]; exact hV0⟩
                      case s4 =>
                        exact k_load hBP (by kernel_rfl) (.tail _ (.tail _ (.tail _ (.tail _ (.head _))))) rfl rfl rfl rfl Tryd.underlying24 rfl size_Int fun listed ac Wd h hd => ⟨(by obtain ⟨u, hu, hy, hU⟩ := h.dep hd 3 47 (by kernel_rfl) (by kernel_rfl); obtain rfl : u = .bool true := hU; exact hy), trivial⟩
                      case s5 =>
                        refine k_call hBP (by kernel_rfl) (fun _ _ => rfl) fun listed ac Wd h hd => ⟨(by obtain ⟨u, hu, hy, hU⟩ := h.dep hd 3 47 (by kernel_rfl) (by kernel_rfl); obtain rfl : u = .bool true := hU; exact hy), ?_⟩
                        obtain ⟨v0, hv0, -, hV0⟩ := h.dep hd 4 48 (by kernel_rfl) (by kernel_rfl)
                        exact ⟨#[v0], by simp [hv0], cSign (show Vz 12 (dr (X) (Y)) v0 Wd from hV0) (by omega)⟩
                      case s6 =>
                        refine k_run hBP (by kernel_rfl) fun listed ac Wd h hd => ⟨(by obtain ⟨u, hu, hy, hU⟩ := h.dep hd 3 47 (by kernel_rfl) (by kernel_rfl); obtain rfl : u = .bool true := hU; exact hy), ?_⟩
                        obtain ⟨v0, hv0, -, hV0⟩ := h.dep hd 5 49 (by kernel_rfl) (by kernel_rfl)
                        have hV0' : v0 = .int .i64 (cmpI (dr (X) (Y)) 0) := hV0
                        exact ⟨_, run_eqi rfl (hv0.trans hV0') rfl, congrArg Value.bool (by rw [hY, show dr X 0 = 0 from if_pos rfl, cmp_eq]; rfl)⟩
                      case s7 =>
                        refine k_run hBP (by kernel_rfl) fun listed ac Wd h hd => ⟨trivial, ?_⟩
                        obtain ⟨v0, hv0, -, hV0⟩ := h.dep hd 3 47 (by kernel_rfl) (by kernel_rfl)
                        obtain ⟨v1, hv1, -, hV1⟩ := h.dep hd 6 50 (by kernel_rfl) (by kernel_rfl)
                        exact ⟨_, run_pick_t rfl (hv0.trans hV0), by rw [hv1]; exact hV1⟩
                      case s8 =>
                        refine k_run hBP (by kernel_rfl) fun listed ac Wd h hd => ⟨trivial, ?_⟩
                        obtain ⟨v0, hv0, -, hV0⟩ := h.dep hd 7 51 (by kernel_rfl) (by kernel_rfl)
                        exact ⟨_, run_move rfl, by rw [hv0]; exact hV0⟩
                      case s9 =>
                        refine k_call hBP (by kernel_rfl) (fun _ _ => rfl) fun listed ac Wd h hd => ⟨(by obtain ⟨u, hu, hy, hU⟩ := h.dep hd 8 52 (by kernel_rfl) (by kernel_rfl); obtain rfl : u = .bool true := hU; exact hy), ?_⟩
                        exact ⟨#[], by simp [], cLives hT h.k.below rfl⟩
                      case s10 =>
                        refine k_run hBP (by kernel_rfl) fun listed ac Wd h hd => ⟨trivial, ?_⟩
                        obtain ⟨v0, hv0, -, hV0⟩ := h.dep hd 8 52 (by kernel_rfl) (by kernel_rfl)
                        obtain ⟨v1, hv1, -, hV1⟩ := h.dep hd 9 53 (by kernel_rfl) (by kernel_rfl)
                        exact ⟨_, run_pick_t rfl (hv0.trans hV0), by rw [hv1]; exact hV1⟩
                      case s11 =>
                        refine k_run hBP (by kernel_rfl) fun listed ac Wd h hd => ⟨trivial, ?_⟩
                        obtain ⟨v0, hv0, -, hV0⟩ := h.dep hd 10 54 (by kernel_rfl) (by kernel_rfl)
                        exact ⟨_, run_assign rfl, by rw [hv0]; exact hV0⟩
                      case hdone =>
                        intro listed a9 w9 hall kd
                        have st9 : St w.heap.size w 120 [⟨7, none, none, 24, 2, Vz 6 (z), VT⟩, ⟨8, none, none, 24, 2, Vz 12 (X), VT⟩, ⟨9, none, none, 24, 2, Vz 12 (Y), VT⟩, ⟨10, none, none, 24, 2, Vz 12 (dq (X) (Y)), VT⟩, ⟨11, none, none, 24, 2, Vz 12 (dr (X) (Y)), VT⟩, ⟨12, none, none, 24, 2, Vz 12 (Y), VT⟩] [(38, Vb (false)), (43, Vb (true)), (6, Vb (true))] a9 w9 := kd.st hall st8.size st8.defers (by kernel_rfl) _ ⟨.inl ⟨(.tail _ (.head _)), by kernel_rfl⟩, .inl ⟨(.tail _ (.tail _ (.head _))), by kernel_rfl⟩, .inr ⟨11, by kernel_rfl, rfl⟩, trivial⟩
                        clear kd hall hBP st8
                        change Code.wp _ _ _ _ _
                        repeat (first | refine wp_seq ?_ | refine wp_block ?_ | (refine wp_skip ?_; change Code.wp _ _ _ _ _) | (refine wp_exit ?_; change Code.wp _ _ _ _ _))
                        obtain ⟨vr, r1, r4⟩ := st9.slot (6, Vb (true)) (.tail _ (.tail _ (.head _)))
                        exact wp_ret (bodyPost_ret (results_tmp rfl _ _ _) st9.defers ⟨_, congrArg Ending.returned (show _ = vr from r1), r4, st9.k.below⟩)
                  ·
                    repeat (first | refine wp_seq ?_ | refine wp_block ?_ | (refine wp_skip ?_; change Code.wp _ _ _ _ _) | (refine wp_exit ?_; change Code.wp _ _ _ _ _))
                    obtain ⟨vc, hc1, hc2⟩ := st7.slot (38, Vb (false)) (.tail _ (.head _))
                    refine wp_cond_false (hc1.trans hc2) ?_
                    clear hc1 hc2
                    repeat (first | refine wp_seq ?_ | refine wp_block ?_ | (refine wp_skip ?_; change Code.wp _ _ _ _ _) | (refine wp_exit ?_; change Code.wp _ _ _ _ _))
                    have hBP : ∀ bd ∈ ([⟨7, none, none, 24, 2, Vz 6 (z), VT⟩, ⟨8, none, none, 24, 2, Vz 12 (X), VT⟩, ⟨9, none, none, 24, 2, Vz 12 (Y), VT⟩, ⟨10, none, none, 24, 2, Vz 12 (dq (X) (Y)), VT⟩, ⟨11, none, none, 24, 2, Vz 12 (dr (X) (Y)), VT⟩, ⟨12, none, none, 24, 2, Vz 12 (Y), VT⟩] : List Bd), bd.stab := (List.forall_mem_cons.2 ⟨⟨Stab_Vz _ _, Stab_VT⟩, (List.forall_mem_cons.2 ⟨⟨Stab_Vz _ _, Stab_VT⟩, (List.forall_mem_cons.2 ⟨⟨Stab_Vz _ _, Stab_VT⟩, (List.forall_mem_cons.2 ⟨⟨Stab_Vz _ _, Stab_VT⟩, (List.forall_mem_cons.2 ⟨⟨Stab_Vz _ _, Stab_VT⟩, (List.forall_mem_cons.2 ⟨⟨Stab_Vz _ _, Stab_VT⟩, (fun _ h => absurd h (by simp))⟩)⟩)⟩)⟩)⟩)⟩)
                    refine region_k (V := fun i => ([Vz 12 (Y), Vi (cmpI (Y) 0), Vb (false)] : List VP).getD i VT) (B := [⟨7, none, none, 24, 2, Vz 6 (z), VT⟩, ⟨8, none, none, 24, 2, Vz 12 (X), VT⟩, ⟨9, none, none, 24, 2, Vz 12 (Y), VT⟩, ⟨10, none, none, 24, 2, Vz 12 (dq (X) (Y)), VT⟩, ⟨11, none, none, 24, 2, Vz 12 (dr (X) (Y)), VT⟩, ⟨12, none, none, 24, 2, Vz 12 (Y), VT⟩]) (SL := [(6, Vb (false)), (38, Vb (false))]) (by kernel_rfl) (by kernel_rfl) (by kernel_rfl) (by rw [st7.size]; rfl) hBP (List.forall_mem_cons.2 ⟨Stab_Vb _, (List.forall_mem_cons.2 ⟨Stab_Vb _, (fun _ h => absurd h (by simp))⟩)⟩) (stab_of ⟨Stab_Vz _ _, Stab_Vi _, Stab_Vb _, trivial⟩) (st7.start (B := [⟨7, none, none, 24, 2, Vz 6 (z), VT⟩, ⟨8, none, none, 24, 2, Vz 12 (X), VT⟩, ⟨9, none, none, 24, 2, Vz 12 (Y), VT⟩, ⟨10, none, none, 24, 2, Vz 12 (dq (X) (Y)), VT⟩, ⟨11, none, none, 24, 2, Vz 12 (dr (X) (Y)), VT⟩, ⟨12, none, none, 24, 2, Vz 12 (Y), VT⟩]) ⟨.inr ⟨_, (.head _), rfl, rfl, rfl, rfl, rfl, .inr ⟨rfl, rfl, rfl⟩⟩, .inr ⟨_, (.tail _ (.head _)), rfl, rfl, rfl, rfl, rfl, .inr ⟨rfl, rfl, rfl⟩⟩, .inr ⟨_, (.tail _ (.tail _ (.head _))), rfl, rfl, rfl, rfl, rfl, .inr ⟨rfl, rfl, rfl⟩⟩, .inr ⟨_, (.tail _ (.tail _ (.tail _ (.head _)))), rfl, rfl, rfl, rfl, rfl, .inr ⟨rfl, rfl, rfl⟩⟩, .inr ⟨_, (.tail _ (.tail _ (.tail _ (.tail _ (.head _))))), rfl, rfl, rfl, rfl, rfl, .inr ⟨rfl, rfl, rfl⟩⟩, .inr ⟨_, (.tail _ (.tail _ (.tail _ (.tail _ (.tail _ (.head _)))))), rfl, rfl, rfl, rfl, rfl, .inr ⟨rfl, rfl, rfl⟩⟩, trivial⟩ _) st7.n st7.sl ⟨?s0, ?s1, ?s2, trivial⟩ ?hdone
                    case s0 =>
                      exact k_load hBP (by kernel_rfl) (.tail _ (.tail _ (.head _))) rfl rfl rfl rfl Tryd.underlying24 rfl size_Int fun listed ac Wd h hd => ⟨trivial, trivial⟩
                    case s1 =>
                      refine k_call hBP (by kernel_rfl) (fun _ _ => rfl) fun listed ac Wd h hd => ⟨trivial, ?_⟩
                      obtain ⟨v0, hv0, -, hV0⟩ := h.dep hd 0 41 (by kernel_rfl) (by kernel_rfl)
                      exact ⟨#[v0], by simp [hv0], cSign (show Vz 12 (Y) v0 Wd from hV0) (by omega)⟩
                    case s2 =>
                      refine k_run hBP (by kernel_rfl) fun listed ac Wd h hd => ⟨trivial, ?_⟩
                      obtain ⟨v0, hv0, -, hV0⟩ := h.dep hd 1 42 (by kernel_rfl) (by kernel_rfl)
                      have hV0' : v0 = .int .i64 (cmpI (Y) 0) := hV0
                      exact ⟨_, run_eqi rfl (hv0.trans hV0') rfl, congrArg Value.bool (by rw [cmp0]; exact decide_eq_false hY)⟩
                    case hdone =>
                      intro listed a8 w8 hall kd
                      have st8 : St w.heap.size w 120 [⟨7, none, none, 24, 2, Vz 6 (z), VT⟩, ⟨8, none, none, 24, 2, Vz 12 (X), VT⟩, ⟨9, none, none, 24, 2, Vz 12 (Y), VT⟩, ⟨10, none, none, 24, 2, Vz 12 (dq (X) (Y)), VT⟩, ⟨11, none, none, 24, 2, Vz 12 (dr (X) (Y)), VT⟩, ⟨12, none, none, 24, 2, Vz 12 (Y), VT⟩] [(6, Vb (false)), (38, Vb (false)), (43, Vb (false))] a8 w8 := kd.st hall st7.size st7.defers (by kernel_rfl) _ ⟨.inl ⟨(.head _), by kernel_rfl⟩, .inl ⟨(.tail _ (.head _)), by kernel_rfl⟩, .inr ⟨2, by kernel_rfl, rfl⟩, trivial⟩
                      clear kd hall hBP st7
                      change Code.wp _ _ _ _ _
                      repeat (first | refine wp_seq ?_ | refine wp_block ?_ | (refine wp_skip ?_; change Code.wp _ _ _ _ _) | (refine wp_exit ?_; change Code.wp _ _ _ _ _))
                      obtain ⟨vc, hc1, hc2⟩ := st8.slot (43, Vb (false)) (.tail _ (.tail _ (.head _)))
                      refine wp_cond_false (hc1.trans hc2) ?_
                      clear hc1 hc2
                      repeat (first | refine wp_seq ?_ | refine wp_block ?_ | (refine wp_skip ?_; change Code.wp _ _ _ _ _) | (refine wp_exit ?_; change Code.wp _ _ _ _ _))
                      have hBP : ∀ bd ∈ ([⟨7, none, none, 24, 2, Vz 6 (z), VT⟩, ⟨8, none, none, 24, 2, Vz 12 (X), VT⟩, ⟨9, none, none, 24, 2, Vz 12 (Y), VT⟩, ⟨10, none, none, 24, 2, Vz 12 (dq (X) (Y)), VT⟩, ⟨11, none, none, 24, 2, Vz 12 (dr (X) (Y)), VT⟩, ⟨12, none, none, 24, 2, Vz 12 (Y), VT⟩] : List Bd), bd.stab := (List.forall_mem_cons.2 ⟨⟨Stab_Vz _ _, Stab_VT⟩, (List.forall_mem_cons.2 ⟨⟨Stab_Vz _ _, Stab_VT⟩, (List.forall_mem_cons.2 ⟨⟨Stab_Vz _ _, Stab_VT⟩, (List.forall_mem_cons.2 ⟨⟨Stab_Vz _ _, Stab_VT⟩, (List.forall_mem_cons.2 ⟨⟨Stab_Vz _ _, Stab_VT⟩, (List.forall_mem_cons.2 ⟨⟨Stab_Vz _ _, Stab_VT⟩, (fun _ h => absurd h (by simp))⟩)⟩)⟩)⟩)⟩)⟩)
                      refine region_k (V := fun i => ([Vz 12 (dq (X) (Y)), Vz 12 (Y), Vz (12 + 12) ((dq (X) (Y)) * (Y)), Vz 12 (dr (X) (Y)), Vz ((max (12 + 12) 12) + 1) (((dq (X) (Y)) * (Y)) + (dr (X) (Y))), Vz 12 (X), Vb (true), Vb (false), Vb (false), Vz 12 (dr (X) (Y)), Vi (cmpI (dr (X) (Y)) 0), Vb (false), Vb (false), Vb (false), Vz 12 (dr (X) (Y)), Vz 12 (Y), Vi (cmpI (dr (X) (Y)) (Y)), Vb (false), Vb (false)] : List VP).getD i VT) (B := [⟨7, none, none, 24, 2, Vz 6 (z), VT⟩, ⟨8, none, none, 24, 2, Vz 12 (X), VT⟩, ⟨9, none, none, 24, 2, Vz 12 (Y), VT⟩, ⟨10, none, none, 24, 2, Vz 12 (dq (X) (Y)), VT⟩, ⟨11, none, none, 24, 2, Vz 12 (dr (X) (Y)), VT⟩, ⟨12, none, none, 24, 2, Vz 12 (Y), VT⟩]) (SL := [(6, Vb (false)), (38, Vb (false)), (43, Vb (false))]) (by kernel_rfl) (by kernel_rfl) (by kernel_rfl) (by rw [st8.size]; rfl) hBP (List.forall_mem_cons.2 ⟨Stab_Vb _, (List.forall_mem_cons.2 ⟨Stab_Vb _, (List.forall_mem_cons.2 ⟨Stab_Vb _, (fun _ h => absurd h (by simp))⟩)⟩)⟩) (stab_of ⟨Stab_Vz _ _, Stab_Vz _ _, Stab_Vz _ _, Stab_Vz _ _, Stab_Vz _ _, Stab_Vz _ _, Stab_Vb _, Stab_Vb _, Stab_Vb _, Stab_Vz _ _, Stab_Vi _, Stab_Vb _, Stab_Vb _, Stab_Vb _, Stab_Vz _ _, Stab_Vz _ _, Stab_Vi _, Stab_Vb _, Stab_Vb _, trivial⟩) (st8.start (B := [⟨7, none, none, 24, 2, Vz 6 (z), VT⟩, ⟨8, none, none, 24, 2, Vz 12 (X), VT⟩, ⟨9, none, none, 24, 2, Vz 12 (Y), VT⟩, ⟨10, none, none, 24, 2, Vz 12 (dq (X) (Y)), VT⟩, ⟨11, none, none, 24, 2, Vz 12 (dr (X) (Y)), VT⟩, ⟨12, none, none, 24, 2, Vz 12 (Y), VT⟩]) ⟨.inr ⟨_, (.head _), rfl, rfl, rfl, rfl, rfl, .inr ⟨rfl, rfl, rfl⟩⟩, .inr ⟨_, (.tail _ (.head _)), rfl, rfl, rfl, rfl, rfl, .inr ⟨rfl, rfl, rfl⟩⟩, .inr ⟨_, (.tail _ (.tail _ (.head _))), rfl, rfl, rfl, rfl, rfl, .inr ⟨rfl, rfl, rfl⟩⟩, .inr ⟨_, (.tail _ (.tail _ (.tail _ (.head _)))), rfl, rfl, rfl, rfl, rfl, .inr ⟨rfl, rfl, rfl⟩⟩, .inr ⟨_, (.tail _ (.tail _ (.tail _ (.tail _ (.head _))))), rfl, rfl, rfl, rfl, rfl, .inr ⟨rfl, rfl, rfl⟩⟩, .inr ⟨_, (.tail _ (.tail _ (.tail _ (.tail _ (.tail _ (.head _)))))), rfl, rfl, rfl, rfl, rfl, .inr ⟨rfl, rfl, rfl⟩⟩, trivial⟩ _) st8.n st8.sl ⟨?s0, ?s1, ?s2, ?s3, ?s4, ?s5, ?s6, ?s7, ?s8, ?s9, ?s10, ?s11, ?s12, ?s13, ?s14, ?s15, ?s16, ?s17, ?s18, trivial⟩ ?hdone
                      case s0 =>
                        exact k_load hBP (by kernel_rfl) (.tail _ (.tail _ (.tail _ (.head _)))) rfl rfl rfl rfl Tryd.underlying24 rfl size_Int fun listed ac Wd h hd => ⟨trivial, trivial⟩
                      case s1 =>
                        exact k_load hBP (by kernel_rfl) (.tail _ (.tail _ (.head _))) rfl rfl rfl rfl Tryd.underlying24 rfl size_Int fun listed ac Wd h hd => ⟨trivial, trivial⟩
                      case s2 =>
                        refine k_call hBP (by kernel_rfl) (fun _ _ => rfl) fun listed ac Wd h hd => ⟨trivial, ?_⟩
                        obtain ⟨v0, hv0, -, hV0⟩ := h.dep hd 0 55 (by kernel_rfl) (by kernel_rfl)
                        obtain ⟨v1, hv1, -, hV1⟩ := h.dep hd 1 56 (by kernel_rfl) (by kernel_rfl)
                        exact ⟨#[v0, v1], by simp [hv0, hv1], (cMul (show Vz 12 (dq (X) (Y)) v0 Wd from hV0) (show Vz 12 (Y) v1 Wd from hV1) (by omega) (by omega))⟩
                      case s3 =>
                        exact k_load hBP (by kernel_rfl) (.tail _ (.tail _ (.tail _ (.tail _ (.head _))))) rfl rfl rfl rfl Tryd.underlying24 rfl size_Int fun listed ac Wd h hd => ⟨trivial, trivial⟩
                      case s4 =>
                        refine k_call hBP (by kernel_rfl) (fun _ _ => rfl) fun listed ac Wd h hd => ⟨trivial, ?_⟩
                        obtain ⟨v0, hv0, -, hV0⟩ := h.dep hd 2 57 (by kernel_rfl) (by kernel_rfl)
                        obtain ⟨v1, hv1, -, hV1⟩ := h.dep hd 3 58 (by kernel_rfl) (by kernel_rfl)
                        exact ⟨#[v0, v1], by simp [hv0, hv1], (cAdd (show Vz (12 + 12) ((dq (X) (Y)) * (Y)) v0 Wd from hV0) (show Vz 12 (dr (X) (Y)) v1 Wd from hV1) (by omega) (by omega))⟩
                      case s5 =>
                        exact k_load hBP (by kernel_rfl) (.tail _ (.head _)) rfl rfl rfl rfl Tryd.underlying24 rfl size_Int fun listed ac Wd h hd => ⟨trivial, trivial⟩
                      case s6 =>
                        refine k_call hBP (by kernel_rfl) (fun _ _ => rfl) fun listed ac Wd h hd => ⟨trivial, ?_⟩
                        obtain ⟨v0, hv0, -, hV0⟩ := h.dep hd 4 59 (by kernel_rfl) (by kernel_rfl)
                        obtain ⟨v1, hv1, -, hV1⟩ := h.dep hd 5 60 (by kernel_rfl) (by kernel_rfl)
                        exact ⟨#[v0, v1], by simp [hv0, hv1], cSame (show Vz ((max (12 + 12) 12) + 1) (((dq (X) (Y)) * (Y)) + (dr (X) (Y))) v0 Wd from hV0) (show Vz 12 (X) v1 Wd from hV1) (by omega) (by omega) (dq_dr hY)⟩
                      case s7 =>
                        refine k_run hBP (by kernel_rfl) fun listed ac Wd h hd => ⟨trivial, ?_⟩
                        obtain ⟨v0, hv0, -, hV0⟩ := h.dep hd 6 61 (by kernel_rfl) (by kernel_rfl)
                        exact ⟨_, run_not rfl (hv0.trans hV0), rfl⟩
                      case s8 =>
                        refine k_run hBP (by kernel_rfl) fun listed ac Wd h hd => ⟨trivial, ?_⟩
                        obtain ⟨v0, hv0, -, hV0⟩ := h.dep hd 7 62 (by kernel_rfl) (by kernel_rfl)
                        exact ⟨_, run_move rfl, by rw [hv0]; exact hV0⟩
                      case s9 =>
                        exact k_load hBP (by kernel_rfl) (.tail _ (.tail _ (.tail _ (.tail _ (.head _))))) rfl rfl rfl rfl Tryd.underlying24 rfl size_Int fun listed ac Wd h hd => ⟨(by obtain ⟨u, hu, hy, hU⟩ := h.dep hd 8 63 (by kernel_rfl) (by kernel_rfl); obtain rfl : u = .bool false := hU; exact hy), trivial⟩
                      case s10 =>
                        refine k_call hBP (by kernel_rfl) (fun _ _ => rfl) fun listed ac Wd h hd => ⟨(by obtain ⟨u, hu, hy, hU⟩ := h.dep hd 8 63 (by kernel_rfl) (by kernel_rfl); obtain rfl : u = .bool false := hU; exact hy), ?_⟩
                        obtain ⟨v0, hv0, -, hV0⟩ := h.dep hd 9 64 (by kernel_rfl) (by kernel_rfl)
                        exact ⟨#[v0], by simp [hv0], cSign (show Vz 12 (dr (X) (Y)) v0 Wd from hV0) (by omega)⟩
                      case s11 =>
                        refine k_run hBP (by kernel_rfl) fun listed ac Wd h hd => ⟨(by obtain ⟨u, hu, hy, hU⟩ := h.dep hd 8 63 (by kernel_rfl) (by kernel_rfl); obtain rfl : u = .bool false := hU; exact hy), ?_⟩
                        obtain ⟨v0, hv0, -, hV0⟩ := h.dep hd 10 65 (by kernel_rfl) (by kernel_rfl)
                        have hV0' : v0 = .int .i64 (cmpI (dr (X) (Y)) 0) := hV0
                        exact ⟨_, run_lssi rfl (hv0.trans hV0') rfl, congrArg Value.bool (decide_eq_false (by have e := dr_lo (X := X) hY; rcases Int.lt_or_eq_of_le e with h1 | h1; (rw [cmp_gt h1]; omega); (rw [← h1, cmp_eq]; omega)))⟩
                      case s12 =>
                        refine k_run hBP (by kernel_rfl) fun listed ac Wd h hd => ⟨trivial, ?_⟩
                        obtain ⟨v0, hv0, -, hV0⟩ := h.dep hd 8 63 (by kernel_rfl) (by kernel_rfl)
                        obtain ⟨v1, hv1, -, hV1⟩ := h.dep hd 11 66 (by kernel_rfl) (by kernel_rfl)
                        exact ⟨_, run_pick_f rfl (hv0.trans hV0), by rw [hv1]; exact hV1⟩
                      case s13 =>
                        refine k_run hBP (by kernel_rfl) fun listed ac Wd h hd => ⟨trivial, ?_⟩
                        obtain ⟨v0, hv0, -, hV0⟩ := h.dep hd 12 67 (by kernel_rfl) (by kernel_rfl)
                        exact ⟨_, run_move rfl, by rw [hv0]; exact hV0⟩
                      case s14 =>
                        exact k_load hBP (by kernel_rfl) (.tail _ (.tail _ (.tail _ (.tail _ (.head _))))) rfl rfl rfl rfl Tryd.underlying24 rfl size_Int fun listed ac Wd h hd => ⟨(by obtain ⟨u, hu, hy, hU⟩ := h.dep hd 13 68 (by kernel_rfl) (by kernel_rfl); obtain rfl : u = .bool false := hU; exact hy), trivial⟩
                      case s15 =>
                        exact k_load hBP (by kernel_rfl) (.tail _ (.tail _ (.tail _ (.tail _ (.tail _ (.head _)))))) rfl rfl rfl rfl Tryd.underlying24 rfl size_Int fun listed ac Wd h hd => ⟨(by obtain ⟨u, hu, hy, hU⟩ := h.dep hd 13 68 (by kernel_rfl) (by kernel_rfl); obtain rfl : u = .bool false := hU; exact hy), trivial⟩
                      case s16 =>
                        refine k_call hBP (by kernel_rfl) (fun _ _ => rfl) fun listed ac Wd h hd => ⟨(by obtain ⟨u, hu, hy, hU⟩ := h.dep hd 13 68 (by kernel_rfl) (by kernel_rfl); obtain rfl : u = .bool false := hU; exact hy), ?_⟩
                        obtain ⟨v0, hv0, -, hV0⟩ := h.dep hd 14 69 (by kernel_rfl) (by kernel_rfl)
                        obtain ⟨v1, hv1, -, hV1⟩ := h.dep hd 15 70 (by kernel_rfl) (by kernel_rfl)
                        exact ⟨#[v0, v1], by simp [hv0, hv1], (cCompare (show Vz 12 (dr (X) (Y)) v0 Wd from hV0) (show Vz 12 (Y) v1 Wd from hV1) (by omega) (by omega))⟩
                      case s17 =>
                        refine k_run hBP (by kernel_rfl) fun listed ac Wd h hd => ⟨(by obtain ⟨u, hu, hy, hU⟩ := h.dep hd 13 68 (by kernel_rfl) (by kernel_rfl); obtain rfl : u = .bool false := hU; exact hy), ?_⟩
                        obtain ⟨v0, hv0, -, hV0⟩ := h.dep hd 16 71 (by kernel_rfl) (by kernel_rfl)
                        have hV0' : v0 = .int .i64 (cmpI (dr (X) (Y)) (Y)) := hV0
                        exact ⟨_, run_geqi rfl (hv0.trans hV0') rfl, congrArg Value.bool (decide_eq_false (by rw [cmp_lt (dr_hi (by omega))]; omega))⟩
                      case s18 =>
                        refine k_run hBP (by kernel_rfl) fun listed ac Wd h hd => ⟨trivial, ?_⟩
                        obtain ⟨v0, hv0, -, hV0⟩ := h.dep hd 13 68 (by kernel_rfl) (by kernel_rfl)
                        obtain ⟨v1, hv1, -, hV1⟩ := h.dep hd 17 72 (by kernel_rfl) (by kernel_rfl)
                        exact ⟨_, run_pick_f rfl (hv0.trans hV0), by rw [hv1]; exact hV1⟩
                      case hdone =>
                        intro listed a9 w9 hall kd
                        have st9 : St w.heap.size w 120 [⟨7, none, none, 24, 2, Vz 6 (z), VT⟩, ⟨8, none, none, 24, 2, Vz 12 (X), VT⟩, ⟨9, none, none, 24, 2, Vz 12 (Y), VT⟩, ⟨10, none, none, 24, 2, Vz 12 (dq (X) (Y)), VT⟩, ⟨11, none, none, 24, 2, Vz 12 (dr (X) (Y)), VT⟩, ⟨12, none, none, 24, 2, Vz 12 (Y), VT⟩] [(6, Vb (false)), (38, Vb (false)), (43, Vb (false)), (73, Vb (false))] a9 w9 := kd.st hall st8.size st8.defers (by kernel_rfl) _ ⟨.inl ⟨(.head _), by kernel_rfl⟩, .inl ⟨(.tail _ (.head _)), by kernel_rfl⟩, .inl ⟨(.tail _ (.tail _ (.head _))), by kernel_rfl⟩, .inr ⟨18, by kernel_rfl, rfl⟩, trivial⟩
                        clear kd hall hBP st8
                        change Code.wp _ _ _ _ _
                        repeat (first | refine wp_seq ?_ | refine wp_block ?_ | (refine wp_skip ?_; change Code.wp _ _ _ _ _) | (refine wp_exit ?_; change Code.wp _ _ _ _ _))
                        obtain ⟨vc, hc1, hc2⟩ := st9.slot (73, Vb (false)) (.tail _ (.tail _ (.tail _ (.head _))))
                        refine wp_cond_false (hc1.trans hc2) ?_
                        clear hc1 hc2
                        repeat (first | refine wp_seq ?_ | refine wp_block ?_ | (refine wp_skip ?_; change Code.wp _ _ _ _ _) | (refine wp_exit ?_; change Code.wp _ _ _ _ _))
                        have hBP : ∀ bd ∈ ([⟨7, none, none, 24, 2, Vz 6 (z), VT⟩, ⟨8, none, none, 24, 2, Vz 12 (X), VT⟩, ⟨9, none, none, 24, 2, Vz 12 (Y), VT⟩, ⟨10, none, none, 24, 2, Vz 12 (dq (X) (Y)), VT⟩, ⟨11, none, none, 24, 2, Vz 12 (dr (X) (Y)), VT⟩, ⟨12, none, none, 24, 2, Vz 12 (Y), VT⟩, ⟨13, some 3, some 4, 24, 2, Vz 12 ((Int.gcd (X) (Y) : Int)), VT⟩] : List Bd), bd.stab := (List.forall_mem_cons.2 ⟨⟨Stab_Vz _ _, Stab_VT⟩, (List.forall_mem_cons.2 ⟨⟨Stab_Vz _ _, Stab_VT⟩, (List.forall_mem_cons.2 ⟨⟨Stab_Vz _ _, Stab_VT⟩, (List.forall_mem_cons.2 ⟨⟨Stab_Vz _ _, Stab_VT⟩, (List.forall_mem_cons.2 ⟨⟨Stab_Vz _ _, Stab_VT⟩, (List.forall_mem_cons.2 ⟨⟨Stab_Vz _ _, Stab_VT⟩, (List.forall_mem_cons.2 ⟨⟨Stab_Vz _ _, Stab_VT⟩, (fun _ h => absurd h (by simp))⟩)⟩)⟩)⟩)⟩)⟩)⟩)
                        refine region_k (V := fun i => ([Vz 12 (X), Vz 12 (Y), Vz 12 ((Int.gcd (X) (Y) : Int)), VT, VT] : List VP).getD i VT) (B := [⟨7, none, none, 24, 2, Vz 6 (z), VT⟩, ⟨8, none, none, 24, 2, Vz 12 (X), VT⟩, ⟨9, none, none, 24, 2, Vz 12 (Y), VT⟩, ⟨10, none, none, 24, 2, Vz 12 (dq (X) (Y)), VT⟩, ⟨11, none, none, 24, 2, Vz 12 (dr (X) (Y)), VT⟩, ⟨12, none, none, 24, 2, Vz 12 (Y), VT⟩, ⟨13, some 3, some 4, 24, 2, Vz 12 ((Int.gcd (X) (Y) : Int)), VT⟩]) (SL := [(6, Vb (false)), (38, Vb (false)), (43, Vb (false)), (73, Vb (false))]) (by kernel_rfl) (by kernel_rfl) (by kernel_rfl) (by rw [st9.size]; rfl) hBP (List.forall_mem_cons.2 ⟨Stab_Vb _, (List.forall_mem_cons.2 ⟨Stab_Vb _, (List.forall_mem_cons.2 ⟨Stab_Vb _, (List.forall_mem_cons.2 ⟨Stab_Vb _, (fun _ h => absurd h (by simp))⟩)⟩)⟩)⟩) (stab_of ⟨Stab_Vz _ _, Stab_Vz _ _, Stab_Vz _ _, Stab_VT, Stab_VT, trivial⟩) (st9.start (B := [⟨7, none, none, 24, 2, Vz 6 (z), VT⟩, ⟨8, none, none, 24, 2, Vz 12 (X), VT⟩, ⟨9, none, none, 24, 2, Vz 12 (Y), VT⟩, ⟨10, none, none, 24, 2, Vz 12 (dq (X) (Y)), VT⟩, ⟨11, none, none, 24, 2, Vz 12 (dr (X) (Y)), VT⟩, ⟨12, none, none, 24, 2, Vz 12 (Y), VT⟩, ⟨13, some 3, some 4, 24, 2, Vz 12 ((Int.gcd (X) (Y) : Int)), VT⟩]) ⟨.inr ⟨_, (.head _), rfl, rfl, rfl, rfl, rfl, .inr ⟨rfl, rfl, rfl⟩⟩, .inr ⟨_, (.tail _ (.head _)), rfl, rfl, rfl, rfl, rfl, .inr ⟨rfl, rfl, rfl⟩⟩, .inr ⟨_, (.tail _ (.tail _ (.head _))), rfl, rfl, rfl, rfl, rfl, .inr ⟨rfl, rfl, rfl⟩⟩, .inr ⟨_, (.tail _ (.tail _ (.tail _ (.head _)))), rfl, rfl, rfl, rfl, rfl, .inr ⟨rfl, rfl, rfl⟩⟩, .inr ⟨_, (.tail _ (.tail _ (.tail _ (.tail _ (.head _))))), rfl, rfl, rfl, rfl, rfl, .inr ⟨rfl, rfl, rfl⟩⟩, .inr ⟨_, (.tail _ (.tail _ (.tail _ (.tail _ (.tail _ (.head _)))))), rfl, rfl, rfl, rfl, rfl, .inr ⟨rfl, rfl, rfl⟩⟩, .inl ⟨3, rfl⟩, trivial⟩ _) st9.n st9.sl ⟨?s0, ?s1, ?s2, ?s3, ?s4, trivial⟩ ?hdone
                        case s0 =>
                          exact k_load hBP (by kernel_rfl) (.tail _ (.head _)) rfl rfl rfl rfl Tryd.underlying24 rfl size_Int fun listed ac Wd h hd => ⟨trivial, trivial⟩
                        case s1 =>
                          exact k_load hBP (by kernel_rfl) (.tail _ (.tail _ (.head _))) rfl rfl rfl rfl Tryd.underlying24 rfl size_Int fun listed ac Wd h hd => ⟨trivial, trivial⟩
                        case s2 =>
                          refine k_call hBP (by kernel_rfl) (fun _ _ => rfl) fun listed ac Wd h hd => ⟨trivial, ?_⟩
                          obtain ⟨v0, hv0, -, hV0⟩ := h.dep hd 0 74 (by kernel_rfl) (by kernel_rfl)
                          obtain ⟨v1, hv1, -, hV1⟩ := h.dep hd 1 75 (by kernel_rfl) (by kernel_rfl)
                          exact ⟨#[v0, v1], by simp [hv0, hv1], (cGcd (show Vz 12 (X) v0 Wd from hV0) (show Vz 12 (Y) v1 Wd from hV1) (by omega) (by omega))⟩
                        case s3 =>
                          exact k_alloc hBP (B1 := [⟨7, none, none, 24, 2, Vz 6 (z), VT⟩, ⟨8, none, none, 24, 2, Vz 12 (X), VT⟩, ⟨9, none, none, 24, 2, Vz 12 (Y), VT⟩, ⟨10, none, none, 24, 2, Vz 12 (dq (X) (Y)), VT⟩, ⟨11, none, none, 24, 2, Vz 12 (dr (X) (Y)), VT⟩, ⟨12, none, none, 24, 2, Vz 12 (Y), VT⟩]) (B2 := []) rfl (by kernel_rfl) rfl rfl rfl alloc_Int rfl noint_Int (.inr ⟨_, rfl, by decide⟩) rfl fun listed ac Wd h hd => ⟨trivial, trivial⟩
                        case s4 =>
                          refine k_store hBP (B1 := [⟨7, none, none, 24, 2, Vz 6 (z), VT⟩, ⟨8, none, none, 24, 2, Vz 12 (X), VT⟩, ⟨9, none, none, 24, 2, Vz 12 (Y), VT⟩, ⟨10, none, none, 24, 2, Vz 12 (dq (X) (Y)), VT⟩, ⟨11, none, none, 24, 2, Vz 12 (dr (X) (Y)), VT⟩, ⟨12, none, none, 24, 2, Vz 12 (Y), VT⟩]) (B2 := []) rfl (by kernel_rfl) (by kernel_rfl) rfl rfl (by kernel_rfl) rfl rfl size_Int fun listed ac Wd h hd => ⟨trivial, listed_dep hd 3 (by kernel_rfl), ?_⟩
                          obtain ⟨v0, hv0, -, hV0⟩ := h.dep hd 2 76 (by kernel_rfl) (by kernel_rfl)
                          exact agg_store (AggV_Vz _ _) hv0 hV0
                        case hdone =>
                          intro listed a10 w10 hall kd
                          have st10 : St w.heap.size w 120 [⟨7, none, none, 24, 2, Vz 6 (z), VT⟩, ⟨8, none, none, 24, 2, Vz 12 (X), VT⟩, ⟨9, none, none, 24, 2, Vz 12 (Y), VT⟩, ⟨10, none, none, 24, 2, Vz 12 (dq (X) (Y)), VT⟩, ⟨11, none, none, 24, 2, Vz 12 (dr (X) (Y)), VT⟩, ⟨12, none, none, 24, 2, Vz 12 (Y), VT⟩, ⟨13, none, none, 24, 2, Vz 12 ((Int.gcd (X) (Y) : Int)), VT⟩] [(6, Vb (false)), (38, Vb (false)), (43, Vb (false)), (73, Vb (false))] a10 w10 := kd.st hall st9.size st9.defers (by kernel_rfl) _ ⟨.inl ⟨(.head _), by kernel_rfl⟩, .inl ⟨(.tail _ (.head _)), by kernel_rfl⟩, .inl ⟨(.tail _ (.tail _ (.head _))), by kernel_rfl⟩, .inl ⟨(.tail _ (.tail _ (.tail _ (.head _)))), by kernel_rfl⟩, trivial⟩
                          clear kd hall hBP st9
                          change Code.wp _ _ _ _ _
                          repeat (first | refine wp_seq ?_ | refine wp_block ?_ | (refine wp_skip ?_; change Code.wp _ _ _ _ _) | (refine wp_exit ?_; change Code.wp _ _ _ _ _))
                          have hBP : ∀ bd ∈ ([⟨7, none, none, 24, 2, Vz 6 (z), VT⟩, ⟨8, none, none, 24, 2, Vz 12 (X), VT⟩, ⟨9, none, none, 24, 2, Vz 12 (Y), VT⟩, ⟨10, none, none, 24, 2, Vz 12 (dq (X) (Y)), VT⟩, ⟨11, none, none, 24, 2, Vz 12 (dr (X) (Y)), VT⟩, ⟨12, none, none, 24, 2, Vz 12 (Y), VT⟩, ⟨13, none, none, 24, 2, Vz 12 ((Int.gcd (X) (Y) : Int)), VT⟩, ⟨14, some 6, some 8, 24, 2, Vz 12 (dq (X) ((Int.gcd (X) (Y) : Int))), VT⟩, ⟨15, some 7, some 9, 24, 2, Vz 12 (dr (X) ((Int.gcd (X) (Y) : Int))), VT⟩] : List Bd), bd.stab := (List.forall_mem_cons.2 ⟨⟨Stab_Vz _ _, Stab_VT⟩, (List.forall_mem_cons.2 ⟨⟨Stab_Vz _ _, Stab_VT⟩, (List.forall_mem_cons.2 ⟨⟨Stab_Vz _ _, Stab_VT⟩, (List.forall_mem_cons.2 ⟨⟨Stab_Vz _ _, Stab_VT⟩, (List.forall_mem_cons.2 ⟨⟨Stab_Vz _ _, Stab_VT⟩, (List.forall_mem_cons.2 ⟨⟨Stab_Vz _ _, Stab_VT⟩, (List.forall_mem_cons.2 ⟨⟨Stab_Vz _ _, Stab_VT⟩, (List.forall_mem_cons.2 ⟨⟨Stab_Vz _ _, Stab_VT⟩, (List.forall_mem_cons.2 ⟨⟨Stab_Vz _ _, Stab_VT⟩, (fun _ h => absurd h (by simp))⟩)⟩)⟩)⟩)⟩)⟩)⟩)⟩)⟩)
                          refine region_k (V := fun i => ([Vz 12 (X), Vz 12 ((Int.gcd (X) (Y) : Int)), VTup (Vz 12 (dq (X) ((Int.gcd (X) (Y) : Int)))) (Vz 12 (dr (X) ((Int.gcd (X) (Y) : Int)))), VTup (Vz 12 (dq (X) ((Int.gcd (X) (Y) : Int)))) (Vz 12 (dr (X) ((Int.gcd (X) (Y) : Int)))), Vz 12 (dq (X) ((Int.gcd (X) (Y) : Int))), Vz 12 (dr (X) ((Int.gcd (X) (Y) : Int))), VT, VT, VT, VT] : List VP).getD i VT) (B := [⟨7, none, none, 24, 2, Vz 6 (z), VT⟩, ⟨8, none, none, 24, 2, Vz 12 (X), VT⟩, ⟨9, none, none, 24, 2, Vz 12 (Y), VT⟩, ⟨10, none, none, 24, 2, Vz 12 (dq (X) (Y)), VT⟩, ⟨11, none, none, 24, 2, Vz 12 (dr (X) (Y)), VT⟩, ⟨12, none, none, 24, 2, Vz 12 (Y), VT⟩, ⟨13, none, none, 24, 2, Vz 12 ((Int.gcd (X) (Y) : Int)), VT⟩, ⟨14, some 6, some 8, 24, 2, Vz 12 (dq (X) ((Int.gcd (X) (Y) : Int))), VT⟩, ⟨15, some 7, some 9, 24, 2, Vz 12 (dr (X) ((Int.gcd (X) (Y) : Int))), VT⟩]) (SL := [(6, Vb (false)), (38, Vb (false)), (43, Vb (false)), (73, Vb (false))]) (by kernel_rfl) (by kernel_rfl) (by kernel_rfl) (by rw [st10.size]; rfl) hBP (List.forall_mem_cons.2 ⟨Stab_Vb _, (List.forall_mem_cons.2 ⟨Stab_Vb _, (List.forall_mem_cons.2 ⟨Stab_Vb _, (List.forall_mem_cons.2 ⟨Stab_Vb _, (fun _ h => absurd h (by simp))⟩)⟩)⟩)⟩) (stab_of ⟨Stab_Vz _ _, Stab_Vz _ _, Stab_VTup (Stab_Vz _ _) (Stab_Vz _ _), Stab_VTup (Stab_Vz _ _) (Stab_Vz _ _), Stab_Vz _ _, Stab_Vz _ _, Stab_VT, Stab_VT, Stab_VT, Stab_VT, trivial⟩) (st10.start (B := [⟨7, none, none, 24, 2, Vz 6 (z), VT⟩, ⟨8, none, none, 24, 2, Vz 12 (X), VT⟩, ⟨9, none, none, 24, 2, Vz 12 (Y), VT⟩, ⟨10, none, none, 24, 2, Vz 12 (dq (X) (Y)), VT⟩, ⟨11, none, none, 24, 2, Vz 12 (dr (X) (Y)), VT⟩, ⟨12, none, none, 24, 2, Vz 12 (Y), VT⟩, ⟨13, none, none, 24, 2, Vz 12 ((Int.gcd (X) (Y) : Int)), VT⟩, ⟨14, some 6, some 8, 24, 2, Vz 12 (dq (X) ((Int.gcd (X) (Y) : Int))), VT⟩, ⟨15, some 7, some 9, 24, 2, Vz 12 (dr (X) ((Int.gcd (X) (Y) : Int))), VT⟩]) ⟨.inr ⟨_, (.head _), rfl, rfl, rfl, rfl, rfl, .inr ⟨rfl, rfl, rfl⟩⟩, .inr ⟨_, (.tail _ (.head _)), rfl, rfl, rfl, rfl, rfl, .inr ⟨rfl, rfl, rfl⟩⟩, .inr ⟨_, (.tail _ (.tail _ (.head _))), rfl, rfl, rfl, rfl, rfl, .inr ⟨rfl, rfl, rfl⟩⟩, .inr ⟨_, (.tail _ (.tail _ (.tail _ (.head _)))), rfl, rfl, rfl, rfl, rfl, .inr ⟨rfl, rfl, rfl⟩⟩, .inr ⟨_, (.tail _ (.tail _ (.tail _ (.tail _ (.head _))))), rfl, rfl, rfl, rfl, rfl, .inr ⟨rfl, rfl, rfl⟩⟩, .inr ⟨_, (.tail _ (.tail _ (.tail _ (.tail _ (.tail _ (.head _)))))), rfl, rfl, rfl, rfl, rfl, .inr ⟨rfl, rfl, rfl⟩⟩, .inr ⟨_, (.tail _ (.tail _ (.tail _ (.tail _ (.tail _ (.tail _ (.head _))))))), rfl, rfl, rfl, rfl, rfl, .inr ⟨rfl, rfl, rfl⟩⟩, .inl ⟨6, rfl⟩, .inl ⟨7, rfl⟩, trivial⟩ _) st10.n st10.sl ⟨?s0, ?s1, ?s2, ?s3, ?s4, ?s5, ?s6, ?s7, ?s8, ?s9, trivial⟩ ?hdone
                          case s0 =>
                            exact k_load hBP (by kernel_rfl) (.tail _ (.head _)) rfl rfl rfl rfl Tryd.underlying24 rfl size_Int fun listed ac Wd h hd => ⟨trivial, trivial⟩
                          case s1 =>
                            exact k_load hBP (by kernel_rfl) (.tail _ (.tail _ (.tail _ (.tail _ (.tail _ (.tail _ (.head _))))))) rfl rfl rfl rfl Tryd.underlying24 rfl size_Int fun listed ac Wd h hd => ⟨trivial, trivial⟩
                          case s2 =>
                            refine k_call hBP (by kernel_rfl) (fun _ _ => rfl) fun listed ac Wd h hd => ⟨trivial, ?_⟩
                            obtain ⟨v0, hv0, -, hV0⟩ := h.dep hd 0 78 (by kernel_rfl) (by kernel_rfl)
                            obtain ⟨v1, hv1, -, hV1⟩ := h.dep hd 1 79 (by kernel_rfl) (by kernel_rfl)
                            exact ⟨#[v0, v1], by simp [hv0, hv1], (cDiv (show Vz 12 (X) v0 Wd from hV0) (show Vz 12 ((Int.gcd (X) (Y) : Int)) v1 Wd from hV1) (by omega) (by omega)).mono fun e w' h => h.tup⟩
                          case s3 =>
                            refine k_run hBP (by kernel_rfl) fun listed ac Wd h hd => ⟨trivial, ?_⟩
                            obtain ⟨v0, hv0, -, hV0⟩ := h.dep hd 2 80 (by kernel_rfl) (by kernel_rfl)
                            exact ⟨_, run_move rfl, by rw [hv0]; exact hV0⟩
                          case s4 =>
                            refine k_run hBP (by kernel_rfl) fun listed ac Wd h hd => ⟨trivial, ?_⟩
                            obtain ⟨v0, hv0, -, hV0⟩ := h.dep hd 3 77 (by kernel_rfl) (by kernel_rfl)
                            obtain ⟨tx, ty, rfl, hx, hy⟩ := hV0
                            exact ⟨_, run_extract0 rfl hv0, hx⟩
                          case s5 =>
                            refine k_run hBP (by kernel_rfl) fun listed ac Wd h hd => ⟨trivial, ?_⟩
                            obtain ⟨v0, hv0, -, hV0⟩ := h.dep hd 3 77 (by kernel_rfl) (by kernel_rfl)
                            obtain ⟨tx, ty, rfl, hx, hy⟩ := hV0
                            exact ⟨_, run_extract1 rfl hv0, hy⟩
                          case s6 =>
                            exact k_alloc hBP (B1 := [⟨7, none, none, 24, 2, Vz 6 (z), VT⟩, ⟨8, none, none, 24, 2, Vz 12 (X), VT⟩, ⟨9, none, none, 24, 2, Vz 12 (Y), VT⟩, ⟨10, none, none, 24, 2, Vz 12 (dq (X) (Y)), VT⟩, ⟨11, none, none, 24, 2, Vz 12 (dr (X) (Y)), VT⟩, ⟨12, none, none, 24, 2, Vz 12 (Y), VT⟩, ⟨13, none, none, 24, 2, Vz 12 ((Int.gcd (X) (Y) : Int)), VT⟩]) (B2 := [⟨15, some 7, some 9, 24, 2, Vz 12 (dr (X) ((Int.gcd (X) (Y) : Int))), VT⟩]) rfl (by kernel_rfl) rfl rfl rfl alloc_Int rfl noint_Int (.inr ⟨_, rfl, by decide⟩) rfl fun listed ac Wd h hd => ⟨trivial, trivial⟩
                          case s7 =>
                            exact k_alloc hBP (B1 := [⟨7, none, none, 24, 2, Vz 6 (z), VT⟩, ⟨8, none, none, 24, 2, Vz 12 (X), VT⟩, ⟨9, none, none, 24, 2, Vz 12 (Y), VT⟩, ⟨10, none, none, 24, 2, Vz 12 (dq (X) (Y)), VT⟩, ⟨11, none, none, 24, 2, Vz 12 (dr (X) (Y)), VT⟩, ⟨12, none, none, 24, 2, Vz 12 (Y), VT⟩, ⟨13, none, none, 24, 2, Vz 12 ((Int.gcd (X) (Y) : Int)), VT⟩, ⟨14, some 6, some 8, 24, 2, Vz 12 (dq (X) ((Int.gcd (X) (Y) : Int))), VT⟩]) (B2 := []) rfl (by kernel_rfl) rfl rfl rfl alloc_Int rfl noint_Int (.inr ⟨_, rfl, by decide⟩) rfl fun listed ac Wd h hd => ⟨trivial, trivial⟩
                          case s8 =>
                            refine k_store hBP (B1 := [⟨7, none, none, 24, 2, Vz 6 (z), VT⟩, ⟨8, none, none, 24, 2, Vz 12 (X), VT⟩, ⟨9, none, none, 24, 2, Vz 12 (Y), VT⟩, ⟨10, none, none, 24, 2, Vz 12 (dq (X) (Y)), VT⟩, ⟨11, none, none, 24, 2, Vz 12 (dr (X) (Y)), VT⟩, ⟨12, none, none, 24, 2, Vz 12 (Y), VT⟩, ⟨13, none, none, 24, 2, Vz 12 ((Int.gcd (X) (Y) : Int)), VT⟩]) (B2 := [⟨15, some 7, some 9, 24, 2, Vz 12 (dr (X) ((Int.gcd (X) (Y) : Int))), VT⟩]) rfl (by kernel_rfl) (by kernel_rfl) rfl rfl (by kernel_rfl) rfl rfl size_Int fun listed ac Wd h hd => ⟨trivial, listed_dep hd 6 (by kernel_rfl), ?_⟩
                            obtain ⟨v0, hv0, -, hV0⟩ := h.dep hd 4 81 (by kernel_rfl) (by kernel_rfl)
                            exact agg_store (AggV_Vz _ _) hv0 hV0
                          case s9 =>
                            refine k_store hBP (B1 := [⟨7, none, none, 24, 2, Vz 6 (z), VT⟩, ⟨8, none, none, 24, 2, Vz 12 (X), VT⟩, ⟨9, none, none, 24, 2, Vz 12 (Y), VT⟩, ⟨10, none, none, 24, 2, Vz 12 (dq (X) (Y)), VT⟩, ⟨11, none, none, 24, 2, Vz 12 (dr (X) (Y)), VT⟩, ⟨12, none, none, 24, 2, Vz 12 (Y), VT⟩, ⟨13, none, none, 24, 2, Vz 12 ((Int.gcd (X) (Y) : Int)), VT⟩, ⟨14, some 6, some 8, 24, 2, Vz 12 (dq (X) ((Int.gcd (X) (Y) : Int))), VT⟩]) (B2 := []) rfl (by kernel_rfl) (by kernel_rfl) rfl rfl (by kernel_rfl) rfl rfl size_Int fun listed ac Wd h hd => ⟨trivial, listed_dep hd 7 (by kernel_rfl), ?_⟩
                            obtain ⟨v0, hv0, -, hV0⟩ := h.dep hd 5 82 (by kernel_rfl) (by kernel_rfl)
                            exact agg_store (AggV_Vz _ _) hv0 hV0
                          case hdone =>
                            intro listed a11 w11 hall kd
                            have st11 : St w.heap.size w 120 [⟨7, none, none, 24, 2, Vz 6 (z), VT⟩, ⟨8, none, none, 24, 2, Vz 12 (X), VT⟩, ⟨9, none, none, 24, 2, Vz 12 (Y), VT⟩, ⟨10, none, none, 24, 2, Vz 12 (dq (X) (Y)), VT⟩, ⟨11, none, none, 24, 2, Vz 12 (dr (X) (Y)), VT⟩, ⟨12, none, none, 24, 2, Vz 12 (Y), VT⟩, ⟨13, none, none, 24, 2, Vz 12 ((Int.gcd (X) (Y) : Int)), VT⟩, ⟨14, none, none, 24, 2, Vz 12 (dq (X) ((Int.gcd (X) (Y) : Int))), VT⟩, ⟨15, none, none, 24, 2, Vz 12 (dr (X) ((Int.gcd (X) (Y) : Int))), VT⟩] [(6, Vb (false)), (38, Vb (false)), (43, Vb (false)), (73, Vb (false))] a11 w11 := kd.st hall st10.size st10.defers (by kernel_rfl) _ ⟨.inl ⟨(.head _), by kernel_rfl⟩, .inl ⟨(.tail _ (.head _)), by kernel_rfl⟩, .inl ⟨(.tail _ (.tail _ (.head _))), by kernel_rfl⟩, .inl ⟨(.tail _ (.tail _ (.tail _ (.head _)))), by kernel_rfl⟩, trivial⟩
                            clear kd hall hBP st10
                            change Code.wp _ _ _ _ _
                            repeat (first | refine wp_seq ?_ | refine wp_block ?_ | (refine wp_skip ?_; change Code.wp _ _ _ _ _) | (refine wp_exit ?_; change Code.wp _ _ _ _ _))
                            have hBP : ∀ bd ∈ ([⟨7, none, none, 24, 2, Vz 6 (z), VT⟩, ⟨8, none, none, 24, 2, Vz 12 (X), VT⟩, ⟨9, none, none, 24, 2, Vz 12 (Y), VT⟩, ⟨10, none, none, 24, 2, Vz 12 (dq (X) (Y)), VT⟩, ⟨11, none, none, 24, 2, Vz 12 (dr (X) (Y)), VT⟩, ⟨12, none, none, 24, 2, Vz 12 (Y), VT⟩, ⟨13, none, none, 24, 2, Vz 12 ((Int.gcd (X) (Y) : Int)), VT⟩, ⟨14, none, none, 24, 2, Vz 12 (dq (X) ((Int.gcd (X) (Y) : Int))), VT⟩, ⟨15, none, none, 24, 2, Vz 12 (dr (X) ((Int.gcd (X) (Y) : Int))), VT⟩, ⟨16, some 6, some 8, 24, 2, Vz 12 (dq (Y) ((Int.gcd (X) (Y) : Int))), VT⟩, ⟨17, some 7, some 9, 24, 2, Vz 12 (dr (Y) ((Int.gcd (X) (Y) : Int))), VT⟩] : List Bd), bd.stab := (List.forall_mem_cons.2 ⟨⟨Stab_Vz _ _, Stab_VT⟩, (List.forall_mem_cons.2 ⟨⟨Stab_Vz _ _, Stab_VT⟩, (List.forall_mem_cons.2 ⟨⟨Stab_Vz _ _, Stab_VT⟩, (List.forall_mem_cons.2 ⟨⟨Stab_Vz _ _, Stab_VT⟩, (List.forall_mem_cons.2 ⟨⟨Stab_Vz _ _, Stab_VT⟩, (List.forall_mem_cons.2 ⟨⟨Stab_Vz _ _, Stab_VT⟩, (List.forall_mem_cons.2 ⟨⟨Stab_Vz _ _, Stab_VT⟩, (List.forall_mem_cons.2 ⟨⟨Stab_Vz _ _, Stab_VT⟩, (List.forall_mem_cons.2 ⟨⟨Stab_Vz _ _, Stab_VT⟩, (List.forall_mem_cons.2 ⟨⟨Stab_Vz _ _, Stab_VT⟩, (List.forall_mem_cons.2 ⟨⟨Stab_Vz _ _, Stab_VT⟩, (fun _ h => absurd h (by simp))⟩)⟩)⟩)⟩)⟩)⟩)⟩)⟩)⟩)⟩)⟩)
                            refine region_k (V := fun i => ([Vz 12 (Y), Vz 12 ((Int.gcd (X) (Y) : Int)), VTup (Vz 12 (dq (Y) ((Int.gcd (X) (Y) : Int)))) (Vz 12 (dr (Y) ((Int.gcd (X) (Y) : Int)))), VTup (Vz 12 (dq (Y) ((Int.gcd (X) (Y) : Int)))) (Vz 12 (dr (Y) ((Int.gcd (X) (Y) : Int)))), Vz 12 (dq (Y) ((Int.gcd (X) (Y) : Int))), Vz 12 (dr (Y) ((Int.gcd (X) (Y) : Int))), VT, VT, VT, VT] : List VP).getD i VT) (B := [⟨7, none, none, 24, 2, Vz 6 (z), VT⟩, ⟨8, none, none, 24, 2, Vz 12 (X), VT⟩, ⟨9, none, none, 24, 2, Vz 12 (Y), VT⟩, ⟨10, none, none, 24, 2, Vz 12 (dq (X) (Y)), VT⟩, ⟨11, none, none, 24, 2, Vz 12 (dr (X) (Y)), VT⟩, ⟨12, none, none, 24, 2, Vz 12 (Y), VT⟩, ⟨13, none, none, 24, 2, Vz 12 ((Int.gcd (X) (Y) : Int)), VT⟩, ⟨14, none, none, 24, 2, Vz 12 (dq (X) ((Int.gcd (X) (Y) : Int))), VT⟩, ⟨15, none, none, 24, 2, Vz 12 (dr (X) ((Int.gcd (X) (Y) : Int))), VT⟩, ⟨16, some 6, some 8, 24, 2, Vz 12 (dq (Y) ((Int.gcd (X) (Y) : Int))), VT⟩, ⟨17, some 7, some 9, 24, 2, Vz 12 (dr (Y) ((Int.gcd (X) (Y) : Int))), VT⟩]) (SL := [(6, Vb (false)), (38, Vb (false)), (43, Vb (false)), (73, Vb (false))]) (by kernel_rfl) (by kernel_rfl) (by kernel_rfl) (by rw [st11.size]; rfl) hBP (List.forall_mem_cons.2 ⟨Stab_Vb _, (List.forall_mem_cons.2 ⟨Stab_Vb _, (List.forall_mem_cons.2 ⟨Stab_Vb _, (List.forall_mem_cons.2 ⟨Stab_Vb _, (fun _ h => absurd h (by simp))⟩)⟩)⟩)⟩) (stab_of ⟨Stab_Vz _ _, Stab_Vz _ _, Stab_VTup (Stab_Vz _ _) (Stab_Vz _ _), Stab_VTup (Stab_Vz _ _) (Stab_Vz _ _), Stab_Vz _ _, Stab_Vz _ _, Stab_VT, Stab_VT, Stab_VT, Stab_VT, trivial⟩) (st11.start (B := [⟨7, none, none, 24, 2, Vz 6 (z), VT⟩, ⟨8, none, none, 24, 2, Vz 12 (X), VT⟩, ⟨9, none, none, 24, 2, Vz 12 (Y), VT⟩, ⟨10, none, none, 24, 2, Vz 12 (dq (X) (Y)), VT⟩, ⟨11, none, none, 24, 2, Vz 12 (dr (X) (Y)), VT⟩, ⟨12, none, none, 24, 2, Vz 12 (Y), VT⟩, ⟨13, none, none, 24, 2, Vz 12 ((Int.gcd (X) (Y) : Int)), VT⟩, ⟨14, none, none, 24, 2, Vz 12 (dq (X) ((Int.gcd (X) (Y) : Int))), VT⟩, ⟨15, none, none, 24, 2, Vz 12 (dr (X) ((Int.gcd (X) (Y) : Int))), VT⟩, ⟨16, some 6, some 8, 24, 2, Vz 12 (dq (Y) ((Int.gcd (X) (Y) : Int))), VT⟩, ⟨17, some 7, some 9, 24, 2, Vz 12 (dr (Y) ((Int.gcd (X) (Y) : Int))), VT⟩]) ⟨.inr ⟨_, (.head _), rfl, rfl, rfl, rfl, rfl, .inr ⟨rfl, rfl, rfl⟩⟩, .inr ⟨_, (.tail _ (.head _)), rfl, rfl, rfl, rfl, rfl, .inr ⟨rfl, rfl, rfl⟩⟩, .inr ⟨_, (.tail _ (.tail _ (.head _))), rfl, rfl, rfl, rfl, rfl, .inr ⟨rfl, rfl, rfl⟩⟩, .inr ⟨_, (.tail _ (.tail _ (.tail _ (.head _)))), rfl, rfl, rfl, rfl, rfl, .inr ⟨rfl, rfl, rfl⟩⟩, .inr ⟨_, (.tail _ (.tail _ (.tail _ (.tail _ (.head _))))), rfl, rfl, rfl, rfl, rfl, .inr ⟨rfl, rfl, rfl⟩⟩, .inr ⟨_, (.tail _ (.tail _ (.tail _ (.tail _ (.tail _ (.head _)))))), rfl, rfl, rfl, rfl, rfl, .inr ⟨rfl, rfl, rfl⟩⟩, .inr ⟨_, (.tail _ (.tail _ (.tail _ (.tail _ (.tail _ (.tail _ (.head _))))))), rfl, rfl, rfl, rfl, rfl, .inr ⟨rfl, rfl, rfl⟩⟩, .inr ⟨_, (.tail _ (.tail _ (.tail _ (.tail _ (.tail _ (.tail _ (.tail _ (.head _)))))))), rfl, rfl, rfl, rfl, rfl, .inr ⟨rfl, rfl, rfl⟩⟩, .inr ⟨_, (.tail _ (.tail _ (.tail _ (.tail _ (.tail _ (.tail _ (.tail _ (.tail _ (.head _))))))))), rfl, rfl, rfl, rfl, rfl, .inr ⟨rfl, rfl, rfl⟩⟩, .inl ⟨6, rfl⟩, .inl ⟨7, rfl⟩, trivial⟩ _) st11.n st11.sl ⟨?s0, ?s1, ?s2, ?s3, ?s4, ?s5, ?s6, ?s7, ?s8, ?s9, trivial⟩ ?hdone
                            case s0 =>
                              exact k_load hBP (by kernel_rfl) (.tail _ (.tail _ (.head _))) rfl rfl rfl rfl Tryd.underlying24 rfl size_Int fun listed ac Wd h hd => ⟨trivial, trivial⟩
                            case s1 =>
                              exact k_load hBP (by kernel_rfl) (.tail _ (.tail _ (.tail _ (.tail _ (.tail _ (.tail _ (.head _))))))) rfl rfl rfl rfl Tryd.underlying24 rfl size_Int fun listed ac Wd h hd => ⟨trivial, trivial⟩
                            case s2 =>
                              refine k_call hBP (by kernel_rfl) (fun _ _ => rfl) fun listed ac Wd h hd => ⟨trivial, ?_⟩
                              obtain ⟨v0, hv0, -, hV0⟩ := h.dep hd 0 84 (by kernel_rfl) (by kernel_rfl)
                              obtain ⟨v1, hv1, -, hV1⟩ := h.dep hd 1 85 (by kernel_rfl) (by kernel_rfl)
                              exact ⟨#[v0, v1], by simp [hv0, hv1], (cDiv (show Vz 12 (Y) v0 Wd from hV0) (show Vz 12 ((Int.gcd (X) (Y) : Int)) v1 Wd from hV1) (by omega) (by omega)).mono fun e w' h => h.tup⟩
                            case s3 =>
                              refine k_run hBP (by kernel_rfl) fun listed ac Wd h hd => ⟨trivial, ?_⟩
                              obtain ⟨v0, hv0, -, hV0⟩ := h.dep hd 2 86 (by kernel_rfl) (by kernel_rfl)
                              exact ⟨_, run_move rfl, by rw [hv0]; exact hV0⟩
                            case s4 =>
                              refine k_run hBP (by kernel_rfl) fun listed ac Wd h hd => ⟨trivial, ?_⟩
                              obtain ⟨v0, hv0, -, hV0⟩ := h.dep hd 3 83 (by kernel_rfl) (by kernel_rfl)
                              obtain ⟨tx, ty, rfl, hx, hy⟩ := hV0
                              exact ⟨_, run_extract0 rfl hv0, hx⟩
                            case s5 =>
                              refine k_run hBP (by kernel_rfl) fun listed ac Wd h hd => ⟨trivial, ?_⟩
                              obtain ⟨v0, hv0, -, hV0⟩ := h.dep hd 3 83 (by kernel_rfl) (by kernel_rfl)
                              obtain ⟨tx, ty, rfl, hx, hy⟩ := hV0
                              exact ⟨_, run_extract1 rfl hv0, hy⟩
                            case s6 =>
                              exact k_alloc hBP (B1 := [⟨7, none, none, 24, 2, Vz 6 (z), VT⟩, ⟨8, none, none, 24, 2, Vz 12 (X), VT⟩, ⟨9, none, none, 24, 2, Vz 12 (Y), VT⟩, ⟨10, none, none, 24, 2, Vz 12 (dq (X) (Y)), VT⟩, ⟨11, none, none, 24, 2, Vz 12 (dr (X) (Y)), VT⟩, ⟨12, none, none, 24, 2, Vz 12 (Y), VT⟩, ⟨13, none, none, 24, 2, Vz 12 ((Int.gcd (X) (Y) : Int)), VT⟩, ⟨14, none, none, 24, 2, Vz 12 (dq (X) ((Int.gcd (X) (Y) : Int))), VT⟩, ⟨15, none, none, 24, 2, Vz 12 (dr (X) ((Int.gcd (X) (Y) : Int))), VT⟩]) (B2 := [⟨17, some 7, some 9, 24, 2, Vz 12 (dr (Y) ((Int.gcd (X) (Y) : Int))), VT⟩]) rfl (by kernel_rfl) rfl rfl rfl alloc_Int rfl noint_Int (.inr ⟨_, rfl, by decide⟩) rfl fun listed ac Wd h hd => ⟨trivial, trivial⟩
                            case s7 =>
                              exact k_alloc hBP (B1 := [⟨7, none, none, 24, 2, Vz 6 (z), VT⟩, ⟨8, none, none, 24, 2, Vz 12 (X), VT⟩, ⟨9, none, none, 24, 2, Vz 12 (Y), VT⟩, ⟨10, none, none, 24, 2, Vz 12 (dq (X) (Y)), VT⟩, ⟨11, none, none, 24, 2, Vz 12 (dr (X) (Y)), VT⟩, ⟨12, none, none, 24, 2, Vz 12 (Y), VT⟩, ⟨13, none, none, 24, 2, Vz 12 ((Int.gcd (X) (Y) : Int)), VT⟩, ⟨14, none, none, 24, 2, Vz 12 (dq (X) ((Int.gcd (X) (Y) : Int))), VT⟩, ⟨15, none, none, 24, 2, Vz 12 (dr (X) ((Int.gcd (X) (Y) : Int))), VT⟩, ⟨16, some 6, some 8, 24, 2, Vz 12 (dq (Y) ((Int.gcd (X) (Y) : Int))), VT⟩]) (B2 := []) rfl (by kernel_rfl) rfl rfl rfl alloc_Int rfl noint_Int (.inr ⟨_, rfl, by decide⟩) rfl fun listed ac Wd h hd => ⟨trivial, trivial⟩
                            case s8 =>
                              refine k_store hBP (B1 := [⟨7, none, none, 24, 2, Vz 6 (z), VT⟩, ⟨8, none, none, 24, 2, Vz 12 (X), VT⟩, ⟨9, none, none, 24, 2, Vz 12 (Y), VT⟩, ⟨10, none, none, 24, 2, Vz 12 (dq (X) (Y)), VT⟩, ⟨11, none, none, 24, 2, Vz 12 (dr (X) (Y)), VT⟩, ⟨12, none, none, 24, 2, Vz 12 (Y), VT⟩, ⟨13, none, none, 24, 2, Vz 12 ((Int.gcd (X) (Y) : Int)), VT⟩, ⟨14, none, none, 24, 2, Vz 12 (dq (X) ((Int.gcd (X) (Y) : Int))), VT⟩, ⟨15, none, none, 24, 2, Vz 12 (dr (X) ((Int.gcd (X) (Y) : Int))), VT⟩]) (B2 := [⟨17, some 7, some 9, 24, 2, Vz 12 (dr (Y) ((Int.gcd (X) (Y) : Int))), VT⟩]) rfl (by kernel_rfl) (by kernel_rfl) rfl rfl (by kernel_rfl) rfl rfl size_Int fun listed ac Wd h hd => ⟨trivial, listed_dep hd 6 (by kernel_rfl), ?_⟩
                              obtain ⟨v0, hv0, -, hV0⟩ := h.dep hd 4 87 (by kernel_rfl) (by kernel_rfl)
                              exact agg_store (AggV_Vz _ _) hv0 hV0
                            case s9 =>
                              refine k_store hBP (B1 := [⟨7, none, none, 24, 2, Vz 6 (z), VT⟩, ⟨8, none, none, 24, 2, Vz 12 (X), VT⟩, ⟨9, none, none, 24, 2, Vz 12 (Y), VT⟩, ⟨10, none, none, 24, 2, Vz 12 (dq (X) (Y)), VT⟩, ⟨11, none, none, 24, 2, Vz 12 (dr (X) (Y)), VT⟩, ⟨12, none, none, 24, 2, Vz 12 (Y), VT⟩, ⟨13, none, none, 24, 2, Vz 12 ((Int.gcd (X) (Y) : Int)), VT⟩, ⟨14, none, none, 24, 2, Vz 12 (dq (X) ((Int.gcd (X) (Y) : Int))), VT⟩, ⟨15, none, none, 24, 2, Vz 12 (dr (X) ((Int.gcd (X) (Y) : Int))), VT⟩, ⟨16, some 6, some 8, 24, 2, Vz 12 (dq (Y) ((Int.gcd (X) (Y) : Int))), VT⟩]) (B2 := []) rfl (by kernel_rfl) (by kernel_rfl) rfl rfl (by kernel_rfl) rfl rfl size_Int fun listed ac Wd h hd => ⟨trivial, listed_dep hd 7 (by kernel_rfl), ?_⟩
                              obtain ⟨v0, hv0, -, hV0⟩ := h.dep hd 5 88 (by kernel_rfl) (by kernel_rfl)
                              exact agg_store (AggV_Vz _ _) hv0 hV0
                            case hdone =>
                              intro listed a12 w12 hall kd
                              have st12 : St w.heap.size w 120 [⟨7, none, none, 24, 2, Vz 6 (z), VT⟩, ⟨8, none, none, 24, 2, Vz 12 (X), VT⟩, ⟨9, none, none, 24, 2, Vz 12 (Y), VT⟩, ⟨10, none, none, 24, 2, Vz 12 (dq (X) (Y)), VT⟩, ⟨11, none, none, 24, 2, Vz 12 (dr (X) (Y)), VT⟩, ⟨12, none, none, 24, 2, Vz 12 (Y), VT⟩, ⟨13, none, none, 24, 2, Vz 12 ((Int.gcd (X) (Y) : Int)), VT⟩, ⟨14, none, none, 24, 2, Vz 12 (dq (X) ((Int.gcd (X) (Y) : Int))), VT⟩, ⟨15, none, none, 24, 2, Vz 12 (dr (X) ((Int.gcd (X) (Y) : Int))), VT⟩, ⟨16, none, none, 24, 2, Vz 12 (dq (Y) ((Int.gcd (X) (Y) : Int))), VT⟩, ⟨17, none, none, 24, 2, Vz 12 (dr (Y) ((Int.gcd (X) (Y) : Int))), VT⟩] [(6, Vb (false)), (38, Vb (false)), (43, Vb (false)), (73, Vb (false))] a12 w12 := kd.st hall st11.size st11.defers (by kernel_rfl) _ ⟨.inl ⟨(.head _), by kernel_rfl⟩, .inl ⟨(.tail _ (.head _)), by kernel_rfl⟩, .inl ⟨(.tail _ (.tail _ (.head _))), by kernel_rfl⟩, .inl ⟨(.tail _ (.tail _ (.tail _ (.head _)))), by kernel_rfl⟩, trivial⟩
                              clear kd hall hBP st11
                              change Code.wp _ _ _ _ _
                              repeat (first | refine wp_seq ?_ | refine wp_block ?_ | (refine wp_skip ?_; change Code.wp _ _ _ _ _) | (refine wp_exit ?_; change Code.wp _ _ _ _ _))
                              have hBP : ∀ bd ∈ ([⟨7, none, none, 24, 2, Vz 6 (z), VT⟩, ⟨8, none, none, 24, 2, Vz 12 (X), VT⟩, ⟨9, none, none, 24, 2, Vz 12 (Y), VT⟩, ⟨10, none, none, 24, 2, Vz 12 (dq (X) (Y)), VT⟩, ⟨11, none, none, 24, 2, Vz 12 (dr (X) (Y)), VT⟩, ⟨12, none, none, 24, 2, Vz 12 (Y), VT⟩, ⟨13, none, none, 24, 2, Vz 12 ((Int.gcd (X) (Y) : Int)), VT⟩, ⟨14, none, none, 24, 2, Vz 12 (dq (X) ((Int.gcd (X) (Y) : Int))), VT⟩, ⟨15, none, none, 24, 2, Vz 12 (dr (X) ((Int.gcd (X) (Y) : Int))), VT⟩, ⟨16, none, none, 24, 2, Vz 12 (dq (Y) ((Int.gcd (X) (Y) : Int))), VT⟩, ⟨17, none, none, 24, 2, Vz 12 (dr (Y) ((Int.gcd (X) (Y) : Int))), VT⟩, ⟨18, some 3, some 4, 24, 2, Vz 12 ((Int.gcd (dq (X) ((Int.gcd (X) (Y) : Int))) (dq (Y) ((Int.gcd (X) (Y) : Int))) : Int)), VT⟩] : List Bd), bd.stab := (List.forall_mem_cons.2 ⟨⟨Stab_Vz _ _, Stab_VT⟩, (List.forall_mem_cons.2 ⟨⟨Stab_Vz _ _, Stab_VT⟩, (List.forall_mem_cons.2 ⟨⟨Stab_Vz _ _, Stab_VT⟩, (List.forall_mem_cons.2 ⟨⟨Stab_Vz _ _, Stab_VT⟩, (List.forall_mem_cons.2 ⟨⟨Stab_Vz _ _, Stab_VT⟩, (List.forall_mem_cons.2 ⟨⟨Stab_Vz _ _, Stab_VT⟩, (List.forall_mem_cons.2 ⟨⟨Stab_Vz _ _, Stab_VT⟩, (List.forall_mem_cons.2 ⟨⟨Stab_Vz _ _, Stab_VT⟩, (List.forall_mem_cons.2 ⟨⟨Stab_Vz _ _, Stab_VT⟩, (List.forall_mem_cons.2 ⟨⟨Stab_Vz _ _, Stab_VT⟩, (List.forall_mem_cons.2 ⟨⟨Stab_Vz _ _, Stab_VT⟩, (List.forall_mem_cons.2 ⟨⟨Stab_Vz _ _, Stab_VT⟩, (fun _ h => absurd h (by simp))⟩)⟩)⟩)⟩)⟩)⟩)⟩)⟩)⟩)⟩)⟩)⟩)
                              refine region_k (V := fun i => ([Vz 12 (dq (X) ((Int.gcd (X) (Y) : Int))), Vz 12 (dq (Y) ((Int.gcd (X) (Y) : Int))), Vz 12 ((Int.gcd (dq (X) ((Int.gcd (X) (Y) : Int))) (dq (Y) ((Int.gcd (X) (Y) : Int))) : Int)), VT, VT] : List VP).getD i VT) (B := [⟨7, none, none, 24, 2, Vz 6 (z), VT⟩, ⟨8, none, none, 24, 2, Vz 12 (X), VT⟩, ⟨9, none, none, 24, 2, Vz 12 (Y), VT⟩, ⟨10, none, none, 24, 2, Vz 12 (dq (X) (Y)), VT⟩, ⟨11, none, none, 24, 2, Vz 12 (dr (X) (Y)), VT⟩, ⟨12, none, none, 24, 2, Vz 12 (Y), VT⟩, ⟨13, none, none, 24, 2, Vz 12 ((Int.gcd (X) (Y) : Int)), VT⟩, ⟨14, none, none, 24, 2, Vz 12 (dq (X) ((Int.gcd (X) (Y) : Int))), VT⟩, ⟨15, none, none, 24, 2, Vz 12 (dr (X) ((Int.gcd (X) (Y) : Int))), VT⟩, ⟨16, none, none, 24, 2, Vz 12 (dq (Y) ((Int.gcd (X) (Y) : Int))), VT⟩, ⟨17, none, none, 24, 2, Vz 12 (dr (Y) ((Int.gcd (X) (Y) : Int))), VT⟩, ⟨18, some 3, some 4, 24, 2, Vz 12 ((Int.gcd (dq (X) ((Int.gcd (X) (Y) : Int))) (dq (Y) ((Int.gcd (X) (Y) : Int))) : Int)), VT⟩]) (SL := [(6, Vb (false)), (38, Vb (false)), (43, Vb (false)), (73, Vb (false))]) (by kernel_rfl) (by kernel_rfl) (by kernel_rfl) (by rw [st12.size]; rfl) hBP (List.forall_mem_cons.2 ⟨Stab_Vb _, (List.forall_mem_cons.2 ⟨Stab_Vb _, (List.forall_mem_cons.2 ⟨Stab_Vb _, (List.forall_mem_cons.2 ⟨Stab_Vb _, (fun _ h => absurd h (by simp))⟩)⟩)⟩)⟩) (stab_of ⟨Stab_Vz _ _, Stab_Vz _ _, Stab_Vz _ _, Stab_VT, Stab_VT, trivial⟩) (st12.start (B := [⟨7, none, none, 24, 2, Vz 6 (z), VT⟩, ⟨8, none, none, 24, 2, Vz 12 (X), VT⟩, ⟨9, none, none, 24, 2, Vz 12 (Y), VT⟩, ⟨10, none, none, 24, 2, Vz 12 (dq (X) (Y)), VT⟩, ⟨11, none, none, 24, 2, Vz 12 (dr (X) (Y)), VT⟩, ⟨12, none, none, 24, 2, Vz 12 (Y), VT⟩, ⟨13, none, none, 24, 2, Vz 12 ((Int.gcd (X) (Y) : Int)), VT⟩, ⟨14, none, none, 24, 2, Vz 12 (dq (X) ((Int.gcd (X) (Y) : Int))), VT⟩, ⟨15, none, none, 24, 2, Vz 12 (dr (X) ((Int.gcd (X) (Y) : Int))), VT⟩, ⟨16, none, none, 24, 2, Vz 12 (dq (Y) ((Int.gcd (X) (Y) : Int))), VT⟩, ⟨17, none, none, 24, 2, Vz 12 (dr (Y) ((Int.gcd (X) (Y) : Int))), VT⟩, ⟨18, some 3, some 4, 24, 2, Vz 12 ((Int.gcd (dq (X) ((Int.gcd (X) (Y) : Int))) (dq (Y) ((Int.gcd (X) (Y) : Int))) : Int)), VT⟩]) ⟨.inr ⟨_, (.head _), rfl, rfl, rfl, rfl, rfl, .inr ⟨rfl, rfl, rfl⟩⟩, .inr ⟨_, (.tail _ (.head _)), rfl, rfl, rfl, rfl, rfl, .inr ⟨rfl, rfl, rfl⟩⟩, .inr ⟨_, (.tail _ (.tail _ (.head _))), rfl, rfl, rfl, rfl, rfl, .inr ⟨rfl, rfl, rfl⟩⟩, .inr ⟨_, (.tail _ (.tail _ (.tail _ (.head _)))), rfl, rfl, rfl, rfl, rfl, .inr ⟨rfl, rfl, rfl⟩⟩, .inr ⟨_, (.tail _ (.tail _ (.tail _ (.tail _ (.head _))))), rfl, rfl, rfl, rfl, rfl, .inr ⟨rfl, rfl, rfl⟩⟩, .inr ⟨_, (.tail _ (.tail _ (.tail _ (.tail _ (.tail _ (.head _)))))), rfl, rfl, rfl, rfl, rfl, .inr ⟨rfl, rfl, rfl⟩⟩, .inr ⟨_, (.tail _ (.tail _ (.tail _ (.tail _ (.tail _ (.tail _ (.head _))))))), rfl, rfl, rfl, rfl, rfl, .inr ⟨rfl, rfl, rfl⟩⟩, .inr ⟨_, (.tail _ (.tail _ (.tail _ (.tail _ (.tail _ (.tail _ (.tail _ (.head _)))))))), rfl, rfl, rfl, rfl, rfl, .inr ⟨rfl, rfl, rfl⟩⟩, .inr ⟨_, (.tail _ (.tail _ (.tail _ (.tail _ (.tail _ (.tail _ (.tail _ (.tail _ (.head _))))))))), rfl, rfl, rfl, rfl, rfl, .inr ⟨rfl, rfl, rfl⟩⟩, .inr ⟨_, (.tail _ (.tail _ (.tail _ (.tail _ (.tail _ (.tail _ (.tail _ (.tail _ (.tail _ (.head _)))))))))), rfl, rfl, rfl, rfl, rfl, .inr ⟨rfl, rfl, rfl⟩⟩, .inr ⟨_, (.tail _ (.tail _ (.tail _ (.tail _ (.tail _ (.tail _ (.tail _ (.tail _ (.tail _ (.tail _ (.head _))))))))))), rfl, rfl, rfl, rfl, rfl, .inr ⟨rfl, rfl, rfl⟩⟩, .inl ⟨3, rfl⟩, trivial⟩ _) st12.n st12.sl ⟨?s0, ?s1, ?s2, ?s3, ?s4, trivial⟩ ?hdone
                              case s0 =>
                                exact k_load hBP (by kernel_rfl) (.tail _ (.tail _ (.tail _ (.tail _ (.tail _ (.tail _ (.tail _ (.head _)))))))) rfl rfl rfl rfl Tryd.underlying24 rfl size_Int fun listed ac Wd h hd => ⟨trivial, trivial⟩
                              case s1 =>
                                exact k_load hBP (by kernel_rfl) (.tail _ (.tail _ (.tail _ (.tail _ (.tail _ (.tail _ (.tail _ (.tail _ (.tail _ (.head _)))))))))) rfl rfl rfl rfl Tryd.underlying24 rfl size_Int fun listed ac Wd h hd => ⟨trivial, trivial⟩
                              case s2 =>
                                refine k_call hBP (by kernel_rfl) (fun _ _ => rfl) fun listed ac Wd h hd => ⟨trivial, ?_⟩
                                obtain ⟨v0, hv0, -, hV0⟩ := h.dep hd 0 89 (by kernel_rfl) (by kernel_rfl)
                                obtain ⟨v1, hv1, -, hV1⟩ := h.dep hd 1 90 (by kernel_rfl) (by kernel_rfl)
                                exact ⟨#[v0, v1], by simp [hv0, hv1], (cGcd (show Vz 12 (dq (X) ((Int.gcd (X) (Y) : Int))) v0 Wd from hV0) (show Vz 12 (dq (Y) ((Int.gcd (X) (Y) : Int))) v1 Wd from hV1) (by omega) (by omega))⟩
                              case s3 =>
                                exact k_alloc hBP (B1 := [⟨7, none, none, 24, 2, Vz 6 (z), VT⟩, ⟨8, none, none, 24, 2, Vz 12 (X), VT⟩, ⟨9, none, none, 24, 2, Vz 12 (Y), VT⟩, ⟨10, none, none, 24, 2, Vz 12 (dq (X) (Y)), VT⟩, ⟨11, none, none, 24, 2, Vz 12 (dr (X) (Y)), VT⟩, ⟨12, none, none, 24, 2, Vz 12 (Y), VT⟩, ⟨13, none, none, 24, 2, Vz 12 ((Int.gcd (X) (Y) : Int)), VT⟩, ⟨14, none, none, 24, 2, Vz 12 (dq (X) ((Int.gcd (X) (Y) : Int))), VT⟩, ⟨15, none, none, 24, 2, Vz 12 (dr (X) ((Int.gcd (X) (Y) : Int))), VT⟩, ⟨16, none, none, 24, 2, Vz 12 (dq (Y) ((Int.gcd (X) (Y) : Int))), VT⟩, ⟨17, none, none, 24, 2, Vz 12 (dr (Y) ((Int.gcd (X) (Y) : Int))), VT⟩]) (B2 := []) rfl (by kernel_rfl) rfl rfl rfl alloc_Int rfl noint_Int (.inr ⟨_, rfl, by decide⟩) rfl fun listed ac Wd h hd => ⟨trivial, trivial⟩
                              case s4 =>
                                refine k_store hBP (B1 := [⟨7, none, none, 24, 2, Vz 6 (z), VT⟩, ⟨8, none, none, 24, 2, Vz 12 (X), VT⟩, ⟨9, none, none, 24, 2, Vz 12 (Y), VT⟩, ⟨10, none, none, 24, 2, Vz 12 (dq (X) (Y)), VT⟩, ⟨11, none, none, 24, 2, Vz 12 (dr (X) (Y)), VT⟩, ⟨12, none, none, 24, 2, Vz 12 (Y), VT⟩, ⟨13, none, none, 24, 2, Vz 12 ((Int.gcd (X) (Y) : Int)), VT⟩, ⟨14, none, none, 24, 2, Vz 12 (dq (X) ((Int.gcd (X) (Y) : Int))), VT⟩, ⟨15, none, none, 24, 2, Vz 12 (dr (X) ((Int.gcd (X) (Y) : Int))), VT⟩, ⟨16, none, none, 24, 2, Vz 12 (dq (Y) ((Int.gcd (X) (Y) : Int))), VT⟩, ⟨17, none, none, 24, 2, Vz 12 (dr (Y) ((Int.gcd (X) (Y) : Int))), VT⟩]) (B2 := []) rfl (by kernel_rfl) (by kernel_rfl) rfl rfl (by kernel_rfl) rfl rfl size_Int fun listed ac Wd h hd => ⟨trivial, listed_dep hd 3 (by kernel_rfl), ?_⟩
                                obtain ⟨v0, hv0, -, hV0⟩ := h.dep hd 2 91 (by kernel_rfl) (by kernel_rfl)
                                exact agg_store (AggV_Vz _ _) hv0 hV0
                              case hdone =>
                                intro listed a13 w13 hall kd
                                have st13 : St w.heap.size w 120 [⟨7, none, none, 24, 2, Vz 6 (z), VT⟩, ⟨8, none, none, 24, 2, Vz 12 (X), VT⟩, ⟨9, none, none, 24, 2, Vz 12 (Y), VT⟩, ⟨10, none, none, 24, 2, Vz 12 (dq (X) (Y)), VT⟩, ⟨11, none, none, 24, 2, Vz 12 (dr (X) (Y)), VT⟩, ⟨12, none, none, 24, 2, Vz 12 (Y), VT⟩, ⟨13, none, none, 24, 2, Vz 12 ((Int.gcd (X) (Y) : Int)), VT⟩, ⟨14, none, none, 24, 2, Vz 12 (dq (X) ((Int.gcd (X) (Y) : Int))), VT⟩, ⟨15, none, none, 24, 2, Vz 12 (dr (X) ((Int.gcd (X) (Y) : Int))), VT⟩, ⟨16, none, none, 24, 2, Vz 12 (dq (Y) ((Int.gcd (X) (Y) : Int))), VT⟩, ⟨17, none, none, 24, 2, Vz 12 (dr (Y) ((Int.gcd (X) (Y) : Int))), VT⟩, ⟨18, none, none, 24, 2, Vz 12 ((Int.gcd (dq (X) ((Int.gcd (X) (Y) : Int))) (dq (Y) ((Int.gcd (X) (Y) : Int))) : Int)), VT⟩] [(6, Vb (false)), (38, Vb (false)), (43, Vb (false)), (73, Vb (false))] a13 w13 := kd.st hall st12.size st12.defers (by kernel_rfl) _ ⟨.inl ⟨(.head _), by kernel_rfl⟩, .inl ⟨(.tail _ (.head _)), by kernel_rfl⟩, .inl ⟨(.tail _ (.tail _ (.head _))), by kernel_rfl⟩, .inl ⟨(.tail _ (.tail _ (.tail _ (.head _)))), by kernel_rfl⟩, trivial⟩
                                clear kd hall hBP st12
                                change Code.wp _ _ _ _ _
                                repeat (first | refine wp_seq ?_ | refine wp_block ?_ | (refine wp_skip ?_; change Code.wp _ _ _ _ _) | (refine wp_exit ?_; change Code.wp _ _ _ _ _))
                                have hBP : ∀ bd ∈ ([⟨7, none, none, 24, 2, Vz 6 (z), VT⟩, ⟨8, none, none, 24, 2, Vz 12 (X), VT⟩, ⟨9, none, none, 24, 2, Vz 12 (Y), VT⟩, ⟨10, none, none, 24, 2, Vz 12 (dq (X) (Y)), VT⟩, ⟨11, none, none, 24, 2, Vz 12 (dr (X) (Y)), VT⟩, ⟨12, none, none, 24, 2, Vz 12 (Y), VT⟩, ⟨13, none, none, 24, 2, Vz 12 ((Int.gcd (X) (Y) : Int)), VT⟩, ⟨14, none, none, 24, 2, Vz 12 (dq (X) ((Int.gcd (X) (Y) : Int))), VT⟩, ⟨15, none, none, 24, 2, Vz 12 (dr (X) ((Int.gcd (X) (Y) : Int))), VT⟩, ⟨16, none, none, 24, 2, Vz 12 (dq (Y) ((Int.gcd (X) (Y) : Int))), VT⟩, ⟨17, none, none, 24, 2, Vz 12 (dr (Y) ((Int.gcd (X) (Y) : Int))), VT⟩, ⟨18, none, none, 24, 2, Vz 12 ((Int.gcd (dq (X) ((Int.gcd (X) (Y) : Int))) (dq (Y) ((Int.gcd (X) (Y) : Int))) : Int)), VT⟩] : List Bd), bd.stab := (List.forall_mem_cons.2 ⟨⟨Stab_Vz _ _, Stab_VT⟩, (List.forall_mem_cons.2 ⟨⟨Stab_Vz _ _, Stab_VT⟩, (List.forall_mem_cons.2 ⟨⟨Stab_Vz _ _, Stab_VT⟩, (List.forall_mem_cons.2 ⟨⟨Stab_Vz _ _, Stab_VT⟩, (List.forall_mem_cons.2 ⟨⟨Stab_Vz _ _, Stab_VT⟩, (List.forall_mem_cons.2 ⟨⟨Stab_Vz _ _, Stab_VT⟩, (List.forall_mem_cons.2 ⟨⟨Stab_Vz _ _, Stab_VT⟩, (List.forall_mem_cons.2 ⟨⟨Stab_Vz _ _, Stab_VT⟩, (List.forall_mem_cons.2 ⟨⟨Stab_Vz _ _, Stab_VT⟩, (List.forall_mem_cons.2 ⟨⟨Stab_Vz _ _, Stab_VT⟩, (List.forall_mem_cons.2 ⟨⟨Stab_Vz _ _, Stab_VT⟩, (List.forall_mem_cons.2 ⟨⟨Stab_Vz _ _, Stab_VT⟩, (fun _ h => absurd h (by simp))⟩)⟩)⟩)⟩)⟩)⟩)⟩)⟩)⟩)⟩)⟩)⟩)
                                refine region_k (V := fun i => ([Vz 12 ((Int.gcd (X) (Y) : Int)), Vi (cmpI ((Int.gcd (X) (Y) : Int)) 0), Vb (true), Vb (true), Vz 12 (dr (X) ((Int.gcd (X) (Y) : Int))), Vi (cmpI (dr (X) ((Int.gcd (X) (Y) : Int))) 0), Vb (true), Vb (true), Vb (true), Vz 12 (dr (Y) ((Int.gcd (X) (Y) : Int))), Vi (cmpI (dr (Y) ((Int.gcd (X) (Y) : Int))) 0), Vb (true), Vb (true), Vb (true), Vz 12 ((Int.gcd (dq (X) ((Int.gcd (X) (Y) : Int))) (dq (Y) ((Int.gcd (X) (Y) : Int))) : Int)), Vz 3 (1), Vb (true), Vb (true), Vb (true), Vz 12 ((Int.gcd (X) (Y) : Int)), Vz 12 (Y), Vz 12 (dr (X) (Y)), Vz 12 ((Int.gcd (Y) (dr (X) (Y)) : Int)), Vb (true), Vb (true), Vb (true), Vb (true), Vb (true), Vb (true)] : List VP).getD i VT) (B := [⟨7, none, none, 24, 2, Vz 6 (z), VT⟩, ⟨8, none, none, 24, 2, Vz 12 (X), VT⟩, ⟨9, none, none, 24, 2, Vz 12 (Y), VT⟩, ⟨10, none, none, 24, 2, Vz 12 (dq (X) (Y)), VT⟩, ⟨11, none, none, 24, 2, Vz 12 (dr (X) (Y)), VT⟩, ⟨12, none, none, 24, 2, Vz 12 (Y), VT⟩, ⟨13, none, none, 24, 2, Vz 12 ((Int.gcd (X) (Y) : Int)), VT⟩, ⟨14, none, none, 24, 2, Vz 12 (dq (X) ((Int.gcd (X) (Y) : Int))), VT⟩, ⟨15, none, none, 24, 2, Vz 12 (dr (X) ((Int.gcd (X) (Y) : Int))), VT⟩, ⟨16, none, none, 24, 2, Vz 12 (dq (Y) ((Int.gcd (X) (Y) : Int))), VT⟩, ⟨17, none, none, 24, 2, Vz 12 (dr (Y) ((Int.gcd (X) (Y) : Int))), VT⟩, ⟨18, none, none, 24, 2, Vz 12 ((Int.gcd (dq (X) ((Int.gcd (X) (Y) : Int))) (dq (Y) ((Int.gcd (X) (Y) : Int))) : Int)), VT⟩]) (SL := [(6, Vb (false)), (38, Vb (false)), (43, Vb (false)), (73, Vb (false))]) (by kernel_rfl) (by kernel_rfl) (by kernel_rfl) (by rw [st13.size]; rfl) hBP (List.forall_mem_cons.2 ⟨Stab_Vb _, (List.forall_mem_cons.2 ⟨Stab_Vb _, (List.forall_mem_cons.2 ⟨Stab_Vb _, (List.forall_mem_cons.2 ⟨Stab_Vb _, (fun _ h => absurd h (by simp))⟩)⟩)⟩)⟩) (stab_of ⟨Stab_Vz _ _, Stab_Vi _, Stab_Vb _, Stab_Vb _, Stab_Vz _ _, Stab_Vi _, Stab_Vb _, Stab_Vb _, Stab_Vb _, Stab_Vz _ _, Stab_Vi _, Stab_Vb _, Stab_Vb _, Stab_Vb _, Stab_Vz _ _, Stab_Vz _ _, Stab_Vb _, Stab_Vb _, Stab_Vb _, Stab_Vz _ _, Stab_Vz _ _, Stab_Vz _ _, Stab_Vz _ _, Stab_Vb _, Stab_Vb _, Stab_Vb _, Stab_Vb _, Stab_Vb _, Stab_Vb _, trivial⟩) (st13.start (B := [⟨7, none, none, 24, 2, Vz 6 (z), VT⟩, ⟨8, none, none, 24, 2, Vz 12 (X), VT⟩, ⟨9, none, none, 24, 2, Vz 12 (Y), VT⟩, ⟨10, none, none, 24, 2, Vz 12 (dq (X) (Y)), VT⟩, ⟨11, none, none, 24, 2, Vz 12 (dr (X) (Y)), VT⟩, ⟨12, none, none, 24, 2, Vz 12 (Y), VT⟩, ⟨13, none, none, 24, 2, Vz 12 ((Int.gcd (X) (Y) : Int)), VT⟩, ⟨14, none, none, 24, 2, Vz 12 (dq (X) ((Int.gcd (X) (Y) : Int))), VT⟩, ⟨15, none, none, 24, 2, Vz 12 (dr (X) ((Int.gcd (X) (Y) : Int))), VT⟩, ⟨16, none, none, 24, 2, Vz 12 (dq (Y) ((Int.gcd (X) (Y) : Int))), VT⟩, ⟨17, none, none, 24, 2, Vz 12 (dr (Y) ((Int.gcd (X) (Y) : Int))), VT⟩, ⟨18, none, none, 24, 2, Vz 12 ((Int.gcd (dq (X) ((Int.gcd (X) (Y) : Int))) (dq (Y) ((Int.gcd (X) (Y) : Int))) : Int)), VT⟩]) ⟨.inr ⟨_, (.head _), rfl, rfl, rfl, rfl, rfl, .inr ⟨rfl, rfl, rfl⟩⟩, .inr ⟨_, (.tail _ (.head _)), rfl, rfl, rfl, rfl, rfl, .inr ⟨rfl, rfl, rfl⟩⟩, .inr ⟨_, (.tail _ (.tail _ (.head _))), rfl, rfl, rfl, rfl, rfl, .inr ⟨rfl, rfl, rfl⟩⟩, .inr ⟨_, (.tail _ (.tail _ (.tail _ (.head _)))), rfl, rfl, rfl, rfl, rfl, .inr ⟨rfl, rfl, rfl⟩⟩, .inr ⟨_, (.tail _ (.tail _ (.tail _ (.tail _ (.head _))))), rfl, rfl, rfl, rfl, rfl, .inr ⟨rfl, rfl, rfl⟩⟩, .inr ⟨_, (.tail _ (.tail _ (.tail _ (.tail _ (.tail _ (.head _)))))), rfl, rfl, rfl, rfl, rfl, .inr ⟨rfl, rfl, rfl⟩⟩, .inr ⟨_, (.tail _ (.tail _ (.tail _ (.tail _ (.tail _ (.tail _ (.head _))))))), rfl, rfl, rfl, rfl, rfl, .inr ⟨rfl, rfl, rfl⟩⟩, .inr ⟨_, (.tail _ (.tail _ (.tail _ (.tail _ (.tail _ (.tail _ (.tail _ (.head _)))))))), rfl, rfl, rfl, rfl, rfl, .inr ⟨rfl, rfl, rfl⟩⟩, .inr ⟨_, (.tail _ (.tail _ (.tail _ (.tail _ (.tail _ (.tail _ (.tail _ (.tail _ (.head _))))))))), rfl, rfl, rfl, rfl, rfl, .inr ⟨rfl, rfl, rfl⟩⟩, .inr ⟨_, (.tail _ (.tail _ (.tail _ (.tail _ (.tail _ (.tail _ (.tail _ (.tail _ (.tail _ (.head _)))))))))), rfl, rfl, rfl, rfl, rfl, .inr ⟨rfl, rfl, rfl⟩⟩, .inr ⟨_, (.tail _ (.tail _ (.tail _ (.tail _ (.tail _ (.tail _ (.tail _ (.tail _ (.tail _ (.tail _ (.head _))))))))))), rfl, rfl, rfl, rfl, rfl, .inr ⟨rfl, rfl, rfl⟩⟩, .inr ⟨_, (.tail _ (.tail _ (.tail _ (.tail _ (.tail _ (.tail _ (.tail _ (.tail _ (.tail _ (.tail _ (.tail _ (.head _)))))))))))), rfl, rfl, rfl, rfl, rfl, .inr ⟨rfl, rfl, rfl⟩⟩, trivial⟩ _) st13.n st13.sl ⟨?s0, ?s1, ?s2, ?s3, ?s4, ?s5, ?s6, ?s7, ?s8, ?s9, ?s10, ?s11, ?s12, ?s13, ?s14, ?s15, ?s16, ?s17, ?s18, ?s19, ?s20, ?s21, ?s22, ?s23, ?s24, ?s25, ?s26, ?s27, ?s28, trivial⟩ ?hdone
                                case s0 =>
                                  exact k_load hBP (by kernel_rfl) (.tail _ (.tail _ (.tail _ (.tail _ (.tail _ (.tail _ (.head _))))))) rfl rfl rfl rfl Tryd.underlying24 rfl size_Int fun listed ac Wd h hd => ⟨trivial, trivial⟩
                                case s1 =>
                                  refine k_call hBP (by kernel_rfl) (fun _ _ => rfl) fun listed ac Wd h hd => ⟨trivial, ?_⟩
                                  obtain ⟨v0, hv0, -, hV0⟩ := h.dep hd 0 92 (by kernel_rfl) (by kernel_rfl)
                                  exact ⟨#[v0], by simp [hv0], cSign (show Vz 12 ((Int.gcd (X) (Y) : Int)) v0 Wd from hV0) (by omega)⟩
                                case s2 =>
                                  refine k_run hBP (by kernel_rfl) fun listed ac Wd h hd => ⟨trivial, ?_⟩
                                  obtain ⟨v0, hv0, -, hV0⟩ := h.dep hd 1 93 (by kernel_rfl) (by kernel_rfl)
                                  have hV0' : v0 = .int .i64 (cmpI ((Int.gcd (X) (Y) : Int)) 0) := hV0
                                  exact ⟨_, run_gtri rfl (hv0.trans hV0') rfl, congrArg Value.bool (by rw [cmp_gt (gcd_po hY)]; rfl)⟩
                                case s3 =>
                                  refine k_run hBP (by kernel_rfl) fun listed ac Wd h hd => ⟨trivial, ?_⟩
                                  obtain ⟨v0, hv0, -, hV0⟩ := h.dep hd 2 94 (by kernel_rfl) (by kernel_rfl)
                                  exact ⟨_, run_move rfl, by rw [hv0]; exact hV0⟩
                                case s4 =>
                                  exact k_load hBP (by kernel_rfl) (.tail _ (.tail _ (.tail _ (.tail _ (.tail _ (.tail _ (.tail _ (.tail _ (.head _))))))))) rfl rfl rfl rfl Tryd.underlying24 rfl size_Int fun listed ac Wd h hd => ⟨(by obtain ⟨u, hu, hy, hU⟩ := h.dep hd 3 95 (by kernel_rfl) (by kernel_rfl); obtain rfl : u = .bool true := hU; exact hy), trivial⟩
                                case s5 =>
                                  refine k_call hBP (by kernel_rfl) (fun _ _ => rfl) fun listed ac Wd h hd => ⟨(by obtain ⟨u, hu, hy, hU⟩ := h.dep hd 3 95 (by kernel_rfl) (by kernel_rfl); obtain rfl : u = .bool true := hU; exact hy), ?_⟩
                                  obtain ⟨v0, hv0, -, hV0⟩ := h.dep hd 4 96 (by kernel_rfl) (by kernel_rfl)
                                  exact ⟨#[v0], by simp [hv0], cSign (show Vz 12 (dr (X) ((Int.gcd (X) (Y) : Int))) v0 Wd from hV0) (by omega)⟩
                                case s6 =>
                                  refine k_run hBP (by kernel_rfl) fun listed ac Wd h hd => ⟨(by obtain ⟨u, hu, hy, hU⟩ := h.dep hd 3 95 (by kernel_rfl) (by kernel_rfl); obtain rfl : u = .bool true := hU; exact hy), ?_⟩
                                  obtain ⟨v0, hv0, -, hV0⟩ := h.dep hd 5 97 (by kernel_rfl) (by kernel_rfl)
                                  have hV0' : v0 = .int .i64 (cmpI (dr (X) ((Int.gcd (X) (Y) : Int))) 0) := hV0
                                  exact ⟨_, run_eqi rfl (hv0.trans hV0') rfl, congrArg Value.bool (by rw [dr_gl hY, cmp_eq]; rfl)⟩
                                case s7 =>
                                  refine k_run hBP (by kernel_rfl) fun listed ac Wd h hd => ⟨trivial, ?_⟩
                                  obtain ⟨v0, hv0, -, hV0⟩ := h.dep hd 3 95 (by kernel_rfl) (by kernel_rfl)
                                  obtain ⟨v1, hv1, -, hV1⟩ := h.dep hd 6 98 (by kernel_rfl) (by kernel_rfl)
                                  exact ⟨_, run_pick_t rfl (hv0.trans hV0), by rw [hv1]; exact hV1⟩
                                case s8 =>
                                  refine k_run hBP (by kernel_rfl) fun listed ac Wd h hd => ⟨trivial, ?_⟩
                                  obtain ⟨v0, hv0, -, hV0⟩ := h.dep hd 7 99 (by kernel_rfl) (by kernel_rfl)
                                  exact ⟨_, run_move rfl, by rw [hv0]; exact hV0⟩
                                case s9 =>
                                  exact k_load hBP (by kernel_rfl) (.tail _ (.tail _ (.tail _ (.tail _ (.tail _ (.tail _ (.tail _ (.tail _ (.tail _ (.tail _ (.head _))))))))))) rfl rfl rfl rfl Tryd.underlying24 rfl size_Int fun listed ac Wd h hd => ⟨(by obtain ⟨u, hu, hy, hU⟩ := h.dep hd 8 100 (by kernel_rfl) (by kernel_rfl); obtain rfl : u = .bool true := hU; exact hy), trivial⟩
                                case s10 =>
                                  refine k_call hBP (by kernel_rfl) (fun _ _ => rfl) fun listed ac Wd h hd => ⟨(by obtain ⟨u, hu, hy, hU⟩ := h.dep hd 8 100 (by kernel_rfl) (by kernel_rfl); obtain rfl : u = .bool true := hU; exact hy), ?_⟩
                                  obtain ⟨v0, hv0, -, hV0⟩ := h.dep hd 9 101 (by kernel_rfl) (by kernel_rfl)
                                  exact ⟨#[v0], by simp [hv0], cSign (show Vz 12 (dr (Y) ((Int.gcd (X) (Y) : Int))) v0 Wd from hV0) (by omega)⟩
                                case s11 =>
                                  refine k_run hBP (by kernel_rfl) fun listed ac Wd h hd => ⟨(by obtain ⟨u, hu, hy, hU⟩ := h.dep hd 8 100 (by kernel_rfl) (by kernel_rfl); obtain rfl : u = .bool true := hU; exact hy), ?_⟩
                                  obtain ⟨v0, hv0, -, hV0⟩ := h.dep hd 10 102 (by kernel_rfl) (by kernel_rfl)
                                  have hV0' : v0 = .int .i64 (cmpI (dr (Y) ((Int.gcd (X) (Y) : Int))) 0) := hV0
                                  exact ⟨_, run_eqi rfl (hv0.trans hV0') rfl, congrArg Value.bool (by rw [dr_gr hY, cmp_eq]; rfl)⟩
                                case s12 =>
                                  refine k_run hBP (by kernel_rfl) fun listed ac Wd h hd => ⟨trivial, ?_⟩
                                  obtain ⟨v0, hv0, -, hV0⟩ := h.dep hd 8 100 (by kernel_rfl) (by kernel_rfl)
                                  obtain ⟨v1, hv1, -, hV1⟩ := h.dep hd 11 103 (by kernel_rfl) (by kernel_rfl)
                                  exact ⟨_, run_pick_t rfl (hv0.trans hV0), by rw [hv1]; exact hV1⟩
                                case s13 =>
                                  refine k_run hBP (by kernel_rfl) fun listed ac Wd h hd => ⟨trivial, ?_⟩
                                  obtain ⟨v0, hv0, -, hV0⟩ := h.dep hd 12 104 (by kernel_rfl) (by kernel_rfl)
                                  exact ⟨_, run_move rfl, by rw [hv0]; exact hV0⟩
                                case s14 =>
                                  exact k_load hBP (by kernel_rfl) (.tail _ (.tail _ (.tail _ (.tail _ (.tail _ (.tail _ (.tail _ (.tail _ (.tail _ (.tail _ (.tail _ (.head _)))))))))))) rfl rfl rfl rfl Tryd.underlying24 rfl size_Int fun listed ac Wd h hd => ⟨(by obtain ⟨u, hu, hy, hU⟩ := h.dep hd 13 105 (by kernel_rfl) (by kernel_rfl); obtain rfl : u = .bool true := hU; exact hy), trivial⟩
                                case s15 =>
                                  refine k_call hBP (by kernel_rfl) (fun _ _ => rfl) fun listed ac Wd h hd => ⟨(by obtain ⟨u, hu, hy, hU⟩ := h.dep hd 13 105 (by kernel_rfl) (by kernel_rfl); obtain rfl : u = .bool true := hU; exact hy), ?_⟩
                                  exact ⟨#[.int .i64 (1)], by simp [eval_const], cOf (1) (by omega) (by omega)⟩
                                case s16 =>
                                  refine k_call hBP (by kernel_rfl) (fun _ _ => rfl) fun listed ac Wd h hd => ⟨(by obtain ⟨u, hu, hy, hU⟩ := h.dep hd 13 105 (by kernel_rfl) (by kernel_rfl); obtain rfl : u = .bool true := hU; exact hy), ?_⟩
                                  obtain ⟨v0, hv0, -, hV0⟩ := h.dep hd 14 106 (by kernel_rfl) (by kernel_rfl)
                                  obtain ⟨v1, hv1, -, hV1⟩ := h.dep hd 15 107 (by kernel_rfl) (by kernel_rfl)
                                  exact ⟨#[v0, v1], by simp [hv0, hv1], cSame (show Vz 12 ((Int.gcd (dq (X) ((Int.gcd (X) (Y) : Int))) (dq (Y) ((Int.gcd (X) (Y) : Int))) : Int)) v0 Wd from hV0) (show Vz 3 (1) v1 Wd from hV1) (by omega) (by omega) (gcd_1 hY)⟩
                                case s17 =>
                                  refine k_run hBP (by kernel_rfl) fun listed ac Wd h hd => ⟨trivial, ?_⟩
                                  obtain ⟨v0, hv0, -, hV0⟩ := h.dep hd 13 105 (by kernel_rfl) (by kernel_rfl)
                                  obtain ⟨v1, hv1, -, hV1⟩ := h.dep hd 16 108 (by kernel_rfl) (by kernel_rfl)
                                  exact ⟨_, run_pick_t rfl (hv0.trans hV0), by rw [hv1]; exact hV1⟩
                                case s18 =>
                                  refine k_run hBP (by kernel_rfl) fun listed ac Wd h hd => ⟨trivial, ?_⟩
                                  obtain ⟨v0, hv0, -, hV0⟩ := h.dep hd 17 109 (by kernel_rfl) (by kernel_rfl)
                                  exact ⟨_, run_move rfl, by rw [hv0]; exact hV0⟩
                                case s19 =>
                                  exact k_load hBP (by kernel_rfl) (.tail _ (.tail _ (.tail _ (.tail _ (.tail _ (.tail _ (.head _))))))) rfl rfl rfl rfl Tryd.underlying24 rfl size_Int fun listed ac Wd h hd => ⟨(by obtain ⟨u, hu, hy, hU⟩ := h.dep hd 18 110 (by kernel_rfl) (by kernel_rfl); obtain rfl : u = .bool true := hU; exact hy), trivial⟩
                                case s20 =>
                                  exact k_load hBP (by kernel_rfl) (.tail _ (.tail _ (.head _))) rfl rfl rfl rfl Tryd.underlying24 rfl size_Int fun listed ac Wd h hd => ⟨(by obtain ⟨u, hu, hy, hU⟩ := h.dep hd 18 110 (by kernel_rfl) (by kernel_rfl); obtain rfl : u = .bool true := hU; exact hy), trivial⟩
                                case s21 =>
                                  exact k_load hBP (by kernel_rfl) (.tail _ (.tail _ (.tail _ (.tail _ (.head _))))) rfl rfl rfl rfl Tryd.underlying24 rfl size_Int fun listed ac Wd h hd => ⟨(by obtain ⟨u, hu, hy, hU⟩ := h.dep hd 18 110 (by kernel_rfl) (by kernel_rfl); obtain rfl : u = .bool true := hU; exact hy), trivial⟩
                                case s22 =>
                                  refine k_call hBP (by kernel_rfl) (fun _ _ => rfl) fun listed ac Wd h hd => ⟨(by obtain ⟨u, hu, hy, hU⟩ := h.dep hd 18 110 (by kernel_rfl) (by kernel_rfl); obtain rfl : u = .bool true := hU; exact hy), ?_⟩
                                  obtain ⟨v0, hv0, -, hV0⟩ := h.dep hd 20 112 (by kernel_rfl) (by kernel_rfl)
                                  obtain ⟨v1, hv1, -, hV1⟩ := h.dep hd 21 113 (by kernel_rfl) (by kernel_rfl)
                                  exact ⟨#[v0, v1], by simp [hv0, hv1], (cGcd (show Vz 12 (Y) v0 Wd from hV0) (show Vz 12 (dr (X) (Y)) v1 Wd from hV1) (by omega) (by omega))⟩
                                case s23 =>
                                  refine k_call hBP (by kernel_rfl) (fun _ _ => rfl) fun listed ac Wd h hd => ⟨(by obtain ⟨u, hu, hy, hU⟩ := h.dep hd 18 110 (by kernel_rfl) (by kernel_rfl); obtain rfl : u = .bool true := hU; exact hy), ?_⟩
                                  obtain ⟨v0, hv0, -, hV0⟩ := h.dep hd 19 111 (by kernel_rfl) (by kernel_rfl)
                                  obtain ⟨v1, hv1, -, hV1⟩ := h.dep hd 22 114 (by kernel_rfl) (by kernel_rfl)
                                  exact ⟨#[v0, v1], by simp [hv0, hv1], cSame (show Vz 12 ((Int.gcd (X) (Y) : Int)) v0 Wd from hV0) (show Vz 12 ((Int.gcd (Y) (dr (X) (Y)) : Int)) v1 Wd from hV1) (by omega) (by omega) (gcd_rest hY)⟩
                                case s24 =>
                                  refine k_run hBP (by kernel_rfl) fun listed ac Wd h hd => ⟨trivial, ?_⟩
                                  obtain ⟨v0, hv0, -, hV0⟩ := h.dep hd 18 110 (by kernel_rfl) (by kernel_rfl)
                                  obtain ⟨v1, hv1, -, hV1⟩ := h.dep hd 23 115 (by kernel_rfl) (by kernel_rfl)
                                  exact ⟨_, run_pick_t rfl (hv0.trans hV0), by rw [hv1]; exact hV1⟩
                                case s25 =>
                                  refine k_run hBP (by kernel_rfl) fun listed ac Wd h hd => ⟨trivial, ?_⟩
                                  obtain ⟨v0, hv0, -, hV0⟩ := h.dep hd 24 116 (by kernel_rfl) (by kernel_rfl)
                                  exact ⟨_, run_move rfl, by rw [hv0]; exact hV0⟩
                                case s26 =>
                                  refine k_call hBP (by kernel_rfl) (fun _ _ => rfl) fun listed ac Wd h hd => ⟨(by obtain ⟨u, hu, hy, hU⟩ := h.dep hd 25 117 (by kernel_rfl) (by kernel_rfl); obtain rfl : u = .bool true := hU; exact hy), ?_⟩
                                  exact ⟨#[], by simp [], cLives hT h.k.below rfl⟩
                                case s27 =>
                                  refine k_run hBP (by kernel_rfl) fun listed ac Wd h hd => ⟨trivial, ?_⟩
                                  obtain ⟨v0, hv0, -, hV0⟩ := h.dep hd 25 117 (by kernel_rfl) (by kernel_rfl)
                                  obtain ⟨v1, hv1, -, hV1⟩ := h.dep hd 26 118 (by kernel_rfl) (by kernel_rfl)
                                  exact ⟨_, run_pick_t rfl (hv0.trans hV0), by rw [hv1]; exact hV1⟩
                                case s28 =>
                                  refine k_run hBP (by kernel_rfl) fun listed ac Wd h hd => ⟨trivial, ?_⟩
                                  obtain ⟨v0, hv0, -, hV0⟩ := h.dep hd 27 119 (by kernel_rfl) (by kernel_rfl)
                                  exact ⟨_, run_assign rfl, by rw [hv0]; exact hV0⟩
                                case hdone =>
                                  intro listed a14 w14 hall kd
                                  have st14 : St w.heap.size w 120 [⟨7, none, none, 24, 2, Vz 6 (z), VT⟩, ⟨8, none, none, 24, 2, Vz 12 (X), VT⟩, ⟨9, none, none, 24, 2, Vz 12 (Y), VT⟩, ⟨10, none, none, 24, 2, Vz 12 (dq (X) (Y)), VT⟩, ⟨11, none, none, 24, 2, Vz 12 (dr (X) (Y)), VT⟩, ⟨12, none, none, 24, 2, Vz 12 (Y), VT⟩, ⟨13, none, none, 24, 2, Vz 12 ((Int.gcd (X) (Y) : Int)), VT⟩, ⟨14, none, none, 24, 2, Vz 12 (dq (X) ((Int.gcd (X) (Y) : Int))), VT⟩, ⟨15, none, none, 24, 2, Vz 12 (dr (X) ((Int.gcd (X) (Y) : Int))), VT⟩, ⟨16, none, none, 24, 2, Vz 12 (dq (Y) ((Int.gcd (X) (Y) : Int))), VT⟩, ⟨17, none, none, 24, 2, Vz 12 (dr (Y) ((Int.gcd (X) (Y) : Int))), VT⟩, ⟨18, none, none, 24, 2, Vz 12 ((Int.gcd (dq (X) ((Int.gcd (X) (Y) : Int))) (dq (Y) ((Int.gcd (X) (Y) : Int))) : Int)), VT⟩] [(38, Vb (false)), (43, Vb (false)), (73, Vb (false)), (6, Vb (true))] a14 w14 := kd.st hall st13.size st13.defers (by kernel_rfl) _ ⟨.inl ⟨(.tail _ (.head _)), by kernel_rfl⟩, .inl ⟨(.tail _ (.tail _ (.head _))), by kernel_rfl⟩, .inl ⟨(.tail _ (.tail _ (.tail _ (.head _)))), by kernel_rfl⟩, .inr ⟨28, by kernel_rfl, rfl⟩, trivial⟩
                                  clear kd hall hBP st13
                                  change Code.wp _ _ _ _ _
                                  repeat (first | refine wp_seq ?_ | refine wp_block ?_ | (refine wp_skip ?_; change Code.wp _ _ _ _ _) | (refine wp_exit ?_; change Code.wp _ _ _ _ _))
                                  obtain ⟨vr, r1, r4⟩ := st14.slot (6, Vb (true)) (.tail _ (.tail _ (.tail _ (.head _))))
                                  exact wp_ret (bodyPost_ret (results_tmp rfl _ _ _) st14.defers ⟨_, congrArg Ending.returned (show _ = vr from r1), r4, st14.k.below⟩)
theorem walkDivisors (a0 a1 a2 : Option Addr) (m0 m1 m2 c0 c1 c2 : Nat) (l0 l1 l2 : List Int) (w : World) (hR0 : Rdi w a0 l0) (hR1 : Rdi w a1 l1) (hR2 : Rdi w a2 l2) (hm0 : m0 = l0.length) (hm1 : m1 = l1.length) (hm2 : m2 = l2.length) (hi0 : i64s l0) (hi1 : i64s l1) (hi2 : i64s l2) (hT : Tb w) :
    Calls Tryd.prog 6 #[.slice a0 m0 c0, .slice a1 m1 c1, .slice a2 m2 c2] w fun e w' => e = .returned (.bool true) ∧ Below w.heap.size w w' :=
  (walk_divisors ⟨a0, m0, c0, rfl, hR0, hm0, hi0⟩ ⟨a1, m1, c1, rfl, hR1, hm1, hi1⟩ ⟨a2, m2, c2, rfl, hR2, hm2, hi2⟩ hT).mono fun e w' ⟨v, he, hv, hb⟩ => ⟨by rw [he, hv], hb⟩
end Go.Proofs.YteaoaoknpihchaaDoor
