/- PlanePlaces: the walk. -/
import Derived.Test.YteaoaoknpihchaaGreatM35
set_option linter.unusedVariables false
namespace Go.Proofs.YteaoaoknpihchaaGreat
open Go.RowKit

set_option maxRecDepth 100000 in
set_option maxHeartbeats 1600000 in
theorem walkPlaces0 {w : World} {l : List Int} {v0 : Value} (h0 : VI l v0 w)  : Calls Tryz.prog 7 #[v0] w (RV (Vb true) w) := by
  go_enter Tryz.func7, Tryz.ntmps7
  have st0 : St w.heap.size w 121 [] [(0, VI l)] _ w := St.begin (a := ⟨#[v0, undef, undef, undef, undef, undef, undef, undef, undef, undef, undef, undef, undef, undef, undef, undef, undef, undef, undef, undef, undef, undef, undef, undef, undef, undef, undef, undef, undef, undef, undef, undef, undef, undef, undef, undef, undef, undef, undef, undef, undef, undef, undef, undef, undef, undef, undef, undef, undef, undef, undef, undef, undef, undef, undef, undef, undef, undef, undef, undef, undef, undef, undef, undef, undef, undef, undef, undef, undef, undef, undef, undef, undef, undef, undef, undef, undef, undef, undef, undef, undef, undef, undef, undef, undef, undef, undef, undef, undef, undef, undef, undef, undef, undef, undef, undef, undef, undef, undef, undef, undef, undef, undef, undef, undef, undef, undef, undef, undef, undef, undef, undef, undef, undef, undef, undef, undef, undef, undef, undef, undef], []⟩) rfl rfl (List.forall_mem_cons.2 ⟨⟨_, rfl, h0⟩, (fun _ h => absurd h (by simp))⟩)
  generalize (⟨#[v0, undef, undef, undef, undef, undef, undef, undef, undef, undef, undef, undef, undef, undef, undef, undef, undef, undef, undef, undef, undef, undef, undef, undef, undef, undef, undef, undef, undef, undef, undef, undef, undef, undef, undef, undef, undef, undef, undef, undef, undef, undef, undef, undef, undef, undef, undef, undef, undef, undef, undef, undef, undef, undef, undef, undef, undef, undef, undef, undef, undef, undef, undef, undef, undef, undef, undef, undef, undef, undef, undef, undef, undef, undef, undef, undef, undef, undef, undef, undef, undef, undef, undef, undef, undef, undef, undef, undef, undef, undef, undef, undef, undef, undef, undef, undef, undef, undef, undef, undef, undef, undef, undef, undef, undef, undef, undef, undef, undef, undef, undef, undef, undef, undef, undef, undef, undef, undef, undef, undef, undef], []⟩ : Act) = a0 at st0 ⊢
  have one1 : Rat.divInt 1 1 = 1 := by decide +kernel
  have onem : Rat.divInt (-1) 1 = -1 := by decide +kernel
  repeat first | refine wp_seq ?_ | refine wp_block ?_ | refine wp_skip ?_ | refine wp_exit ?_
  refine rg (BT := [(60, 16, 0), (28, 8, 0)]) (Vl := [Vb (false)]) (B := []) (SL' := [(0, VI l), (2, Vb (false))]) st0 ⟨ks, trivial⟩ ?_
  intro a1 w1 st1
  clear st0
  repeat first | refine wp_seq ?_ | refine wp_block ?_ | refine wp_skip ?_ | refine wp_exit ?_
  refine rg (BT := [(60, 16, 0), (28, 8, 0)]) (Vl := [VI l, Vp 3 (turnC (atv l (0) 64)) (turnS (atv l (0) 64)) (numQ (atv l (0 + 1) 100)) (numQ (atv l (0 + 1 + 1) 100)), VT, VT]) (B := [⟨3, some 2, some 3, 60, 16, Vp 3 (turnC (atv l (0) 64)) (turnS (atv l (0) 64)) (numQ (atv l (0 + 1) 100)) (numQ (atv l (0 + 1 + 1) 100)), VT⟩]) (SL' := [(0, VI l), (2, Vb (false))]) st1 ⟨ks, ?s1, ks, ks, trivial⟩ ?_
  case s1 =>
    refine kc fun _ ac Wd h hd => ?_
    obtain ⟨v0, hv0, hV0⟩ := h.dp hd 11
    exact ⟨#[v0, .int .i64 (0)], by simp [hv0, eval_const], cPlaceL (show VI l v0 Wd from hV0) (show Vi (0) (.int .i64 (0)) Wd from rfl) (by omega) (by omega)⟩
  intro a2 w2 st2
  clear st1
  have hup := turn_unit (atv l (0) 64)
  generalize turnC (atv l (0) 64) = cp at st2 hup
  generalize turnS (atv l (0) 64) = sp at st2 hup
  generalize numQ (atv l (0 + 1) 100) = xp at st2 
  generalize numQ (atv l (0 + 1 + 1) 100) = yp at st2 
  repeat first | refine wp_seq ?_ | refine wp_block ?_ | refine wp_skip ?_ | refine wp_exit ?_
  refine rg (BT := [(60, 16, 0), (28, 8, 0)]) (Vl := [VI l, Vp 3 (turnC (atv l (3) 64)) (turnS (atv l (3) 64)) (numQ (atv l (3 + 1) 100)) (numQ (atv l (3 + 1 + 1) 100)), VT, VT]) (B := [⟨3, none, none, 60, 16, Vp 3 (cp) (sp) (xp) (yp), VT⟩, ⟨4, some 2, some 3, 60, 16, Vp 3 (turnC (atv l (3) 64)) (turnS (atv l (3) 64)) (numQ (atv l (3 + 1) 100)) (numQ (atv l (3 + 1 + 1) 100)), VT⟩]) (SL' := [(0, VI l), (2, Vb (false))]) st2 ⟨ks, ?s1, ks, ks, trivial⟩ ?_
  case s1 =>
    refine kc fun _ ac Wd h hd => ?_
    obtain ⟨v0, hv0, hV0⟩ := h.dp hd 13
    exact ⟨#[v0, .int .i64 (3)], by simp [hv0, eval_const], cPlaceL (show VI l v0 Wd from hV0) (show Vi (3) (.int .i64 (3)) Wd from rfl) (by omega) (by omega)⟩
  intro a3 w3 st3
  clear st2
  have huq := turn_unit (atv l (3) 64)
  generalize turnC (atv l (3) 64) = cq at st3 huq
  generalize turnS (atv l (3) 64) = sq at st3 huq
  generalize numQ (atv l (3 + 1) 100) = xq at st3 
  generalize numQ (atv l (3 + 1 + 1) 100) = yq at st3 
  repeat first | refine wp_seq ?_ | refine wp_block ?_ | refine wp_skip ?_ | refine wp_exit ?_
  refine rg (BT := [(60, 16, 0), (28, 8, 0)]) (Vl := [VI l, Vp 3 (turnC (atv l (6) 64)) (turnS (atv l (6) 64)) (numQ (atv l (6 + 1) 100)) (numQ (atv l (6 + 1 + 1) 100)), VT, VT]) (B := [⟨3, none, none, 60, 16, Vp 3 (cp) (sp) (xp) (yp), VT⟩, ⟨4, none, none, 60, 16, Vp 3 (cq) (sq) (xq) (yq), VT⟩, ⟨5, some 2, some 3, 60, 16, Vp 3 (turnC (atv l (6) 64)) (turnS (atv l (6) 64)) (numQ (atv l (6 + 1) 100)) (numQ (atv l (6 + 1 + 1) 100)), VT⟩]) (SL' := [(0, VI l), (2, Vb (false))]) st3 ⟨ks, ?s1, ks, ks, trivial⟩ ?_
  case s1 =>
    refine kc fun _ ac Wd h hd => ?_
    obtain ⟨v0, hv0, hV0⟩ := h.dp hd 15
    exact ⟨#[v0, .int .i64 (6)], by simp [hv0, eval_const], cPlaceL (show VI l v0 Wd from hV0) (show Vi (6) (.int .i64 (6)) Wd from rfl) (by omega) (by omega)⟩
  intro a4 w4 st4
  clear st3
  have hur := turn_unit (atv l (6) 64)
  generalize turnC (atv l (6) 64) = cr at st4 hur
  generalize turnS (atv l (6) 64) = sr at st4 hur
  generalize numQ (atv l (6 + 1) 100) = xr at st4 
  generalize numQ (atv l (6 + 1 + 1) 100) = yr at st4 
  repeat first | refine wp_seq ?_ | refine wp_block ?_ | refine wp_skip ?_ | refine wp_exit ?_
  refine rg (BT := [(60, 16, 0), (28, 8, 0)]) (Vl := [VI l, Vv 3 (numQ (atv l (9) 100)) (numQ (atv l (9 + 1) 100)), VT, VT]) (B := [⟨3, none, none, 60, 16, Vp 3 (cp) (sp) (xp) (yp), VT⟩, ⟨4, none, none, 60, 16, Vp 3 (cq) (sq) (xq) (yq), VT⟩, ⟨5, none, none, 60, 16, Vp 3 (cr) (sr) (xr) (yr), VT⟩, ⟨6, some 2, some 3, 28, 8, Vv 3 (numQ (atv l (9) 100)) (numQ (atv l (9 + 1) 100)), VT⟩]) (SL' := [(0, VI l), (2, Vb (false))]) st4 ⟨ks, ?s1, ks, ks, trivial⟩ ?_
  case s1 =>
    refine kc fun _ ac Wd h hd => ?_
    obtain ⟨v0, hv0, hV0⟩ := h.dp hd 17
    exact ⟨#[v0, .int .i64 (9)], by simp [hv0, eval_const], cVecL (show VI l v0 Wd from hV0) (show Vi (9) (.int .i64 (9)) Wd from rfl) (by omega) (by omega)⟩
  intro a5 w5 st5
  clear st4
  generalize numQ (atv l (9) 100) = xa at st5 
  generalize numQ (atv l (9 + 1) 100) = ya at st5 
  repeat first | refine wp_seq ?_ | refine wp_block ?_ | refine wp_skip ?_ | refine wp_exit ?_
  refine rg (BT := [(60, 16, 0), (28, 8, 0)]) (Vl := [VI l, Vv 3 (numQ (atv l (11) 100)) (numQ (atv l (11 + 1) 100)), VT, VT]) (B := [⟨3, none, none, 60, 16, Vp 3 (cp) (sp) (xp) (yp), VT⟩, ⟨4, none, none, 60, 16, Vp 3 (cq) (sq) (xq) (yq), VT⟩, ⟨5, none, none, 60, 16, Vp 3 (cr) (sr) (xr) (yr), VT⟩, ⟨6, none, none, 28, 8, Vv 3 (xa) (ya), VT⟩, ⟨7, some 2, some 3, 28, 8, Vv 3 (numQ (atv l (11) 100)) (numQ (atv l (11 + 1) 100)), VT⟩]) (SL' := [(0, VI l), (2, Vb (false))]) st5 ⟨ks, ?s1, ks, ks, trivial⟩ ?_
  case s1 =>
    refine kc fun _ ac Wd h hd => ?_
    obtain ⟨v0, hv0, hV0⟩ := h.dp hd 19
    exact ⟨#[v0, .int .i64 (11)], by simp [hv0, eval_const], cVecL (show VI l v0 Wd from hV0) (show Vi (11) (.int .i64 (11)) Wd from rfl) (by omega) (by omega)⟩
  intro a6 w6 st6
  clear st5
  generalize numQ (atv l (11) 100) = xb at st6 
  generalize numQ (atv l (11 + 1) 100) = yb at st6 
  repeat first | refine wp_seq ?_ | refine wp_block ?_ | refine wp_skip ?_ | refine wp_exit ?_
  refine rg (BT := [(60, 16, 0), (28, 8, 0)]) (Vl := [VI l, Vv 3 (numQ (atv l (13) 100)) (numQ (atv l (13 + 1) 100)), VT, VT]) (B := [⟨3, none, none, 60, 16, Vp 3 (cp) (sp) (xp) (yp), VT⟩, ⟨4, none, none, 60, 16, Vp 3 (cq) (sq) (xq) (yq), VT⟩, ⟨5, none, none, 60, 16, Vp 3 (cr) (sr) (xr) (yr), VT⟩, ⟨6, none, none, 28, 8, Vv 3 (xa) (ya), VT⟩, ⟨7, none, none, 28, 8, Vv 3 (xb) (yb), VT⟩, ⟨8, some 2, some 3, 28, 8, Vv 3 (numQ (atv l (13) 100)) (numQ (atv l (13 + 1) 100)), VT⟩]) (SL' := [(0, VI l), (2, Vb (false))]) st6 ⟨ks, ?s1, ks, ks, trivial⟩ ?_
  case s1 =>
    refine kc fun _ ac Wd h hd => ?_
    obtain ⟨v0, hv0, hV0⟩ := h.dp hd 21
    exact ⟨#[v0, .int .i64 (13)], by simp [hv0, eval_const], cVecL (show VI l v0 Wd from hV0) (show Vi (13) (.int .i64 (13)) Wd from rfl) (by omega) (by omega)⟩
  intro a7 w7 st7
  clear st6
  generalize numQ (atv l (13) 100) = xd at st7 
  generalize numQ (atv l (13 + 1) 100) = yd at st7 
  repeat first | refine wp_seq ?_ | refine wp_block ?_ | refine wp_skip ?_ | refine wp_exit ?_
  refine rg (BT := [(60, 16, 0), (28, 8, 0)]) (Vl := [Vp 3 (cp) (sp) (xp) (yp), Vp 3 (cq) (sq) (xq) (yq), Vp (8 * 3 + 3) ((cp) * (cq) + -(sp) * (sq)) ((sp) * (cq) + (cp) * (sq)) ((cp) * (xq) + -(sp) * (yq) + (xp)) ((sp) * (xq) + (cp) * (yq) + (yp)), VT, VT]) (B := [⟨3, none, none, 60, 16, Vp 3 (cp) (sp) (xp) (yp), VT⟩, ⟨4, none, none, 60, 16, Vp 3 (cq) (sq) (xq) (yq), VT⟩, ⟨5, none, none, 60, 16, Vp 3 (cr) (sr) (xr) (yr), VT⟩, ⟨6, none, none, 28, 8, Vv 3 (xa) (ya), VT⟩, ⟨7, none, none, 28, 8, Vv 3 (xb) (yb), VT⟩, ⟨8, none, none, 28, 8, Vv 3 (xd) (yd), VT⟩, ⟨9, some 3, some 4, 60, 16, Vp (8 * 3 + 3) ((cp) * (cq) + -(sp) * (sq)) ((sp) * (cq) + (cp) * (sq)) ((cp) * (xq) + -(sp) * (yq) + (xp)) ((sp) * (xq) + (cp) * (yq) + (yp)), VT⟩]) (SL' := [(0, VI l), (2, Vb (false))]) st7 ⟨ks, ks, ?s2, ks, ks, trivial⟩ ?_
  case s2 =>
    refine kc fun _ ac Wd h hd => ?_
    obtain ⟨v0, hv0, hV0⟩ := h.dp hd 23
    obtain ⟨v1, hv1, hV1⟩ := h.dp hd 24
    exact ⟨#[v0, v1], by simp [hv0, hv1], cCompose (show Vp 3 (cp) (sp) (xp) (yp) v0 Wd from hV0) (show Vp 3 (cq) (sq) (xq) (yq) v1 Wd from hV1) (by omega) (by omega)⟩
  intro a8 w8 st8
  clear st7
  repeat first | refine wp_seq ?_ | refine wp_block ?_ | refine wp_skip ?_ | refine wp_exit ?_
  refine rg (BT := [(60, 16, 0), (28, 8, 0)]) (Vl := [Vp 3 (cp) (sp) (xp) (yp), Vp (8 * 3 + 30) (cp) (-(sp)) ((cp) * ((xp) * Rat.divInt (-1) 1) + - -(sp) * ((yp) * Rat.divInt (-1) 1)) (-(sp) * ((xp) * Rat.divInt (-1) 1) + (cp) * ((yp) * Rat.divInt (-1) 1)), VT, VT]) (B := [⟨3, none, none, 60, 16, Vp 3 (cp) (sp) (xp) (yp), VT⟩, ⟨4, none, none, 60, 16, Vp 3 (cq) (sq) (xq) (yq), VT⟩, ⟨5, none, none, 60, 16, Vp 3 (cr) (sr) (xr) (yr), VT⟩, ⟨6, none, none, 28, 8, Vv 3 (xa) (ya), VT⟩, ⟨7, none, none, 28, 8, Vv 3 (xb) (yb), VT⟩, ⟨8, none, none, 28, 8, Vv 3 (xd) (yd), VT⟩, ⟨9, none, none, 60, 16, Vp (8 * 3 + 3) ((cp) * (cq) + -(sp) * (sq)) ((sp) * (cq) + (cp) * (sq)) ((cp) * (xq) + -(sp) * (yq) + (xp)) ((sp) * (xq) + (cp) * (yq) + (yp)), VT⟩, ⟨10, some 2, some 3, 60, 16, Vp (8 * 3 + 30) (cp) (-(sp)) ((cp) * ((xp) * Rat.divInt (-1) 1) + - -(sp) * ((yp) * Rat.divInt (-1) 1)) (-(sp) * ((xp) * Rat.divInt (-1) 1) + (cp) * ((yp) * Rat.divInt (-1) 1)), VT⟩]) (SL' := [(0, VI l), (2, Vb (false))]) st8 ⟨ks, ?s1, ks, ks, trivial⟩ ?_
  case s1 => refine kc fun _ ac Wd h hd => ?_; obtain ⟨v0, hv0, hV0⟩ := h.dp hd 26; exact ⟨#[v0], by simp [hv0], cInverse (show Vp 3 (cp) (sp) (xp) (yp) v0 Wd from hV0) (by omega) (by omega)⟩
  intro a9 w9 st9
  clear st8
  repeat first | refine wp_seq ?_ | refine wp_block ?_ | refine wp_skip ?_ | refine wp_exit ?_
  refine rg (BT := [(60, 16, 0), (28, 8, 0)]) (Vl := [Vp 3 (cp) (sp) (xp) (yp), Vv 3 (xa) (ya), Vv (8 * 3 + 3) ((cp) * (xa) + -(sp) * (ya) + (xp)) ((sp) * (xa) + (cp) * (ya) + (yp)), Vp 3 (cp) (sp) (xp) (yp), Vv 3 (xa) (ya), Vv (8 * 3 + 3) ((cp) * (xa) - (sp) * (ya) + (xp)) ((sp) * (xa) + (cp) * (ya) + (yp)), Vb (true), Vb (false), Vb (false), Vp (8 * 3 + 3) ((cp) * (cq) + -(sp) * (sq)) ((sp) * (cq) + (cp) * (sq)) ((cp) * (xq) + -(sp) * (yq) + (xp)) ((sp) * (xq) + (cp) * (yq) + (yp)), Vp 3 (cp) (sp) (xp) (yp), Vp 3 (cq) (sq) (xq) (yq), Vp (8 * 3 + 3) ((cp) * (cq) - (sp) * (sq)) ((sp) * (cq) + (cp) * (sq)) ((cp) * (xq) - (sp) * (yq) + (xp)) ((sp) * (xq) + (cp) * (yq) + (yp)), Vb (true), Vb (false), Vb (false), Vb (false), Vp (8 * 3 + 30) (cp) (-(sp)) ((cp) * ((xp) * Rat.divInt (-1) 1) + - -(sp) * ((yp) * Rat.divInt (-1) 1)) (-(sp) * ((xp) * Rat.divInt (-1) 1) + (cp) * ((yp) * Rat.divInt (-1) 1)), Vp 3 (cp) (sp) (xp) (yp), Vp (8 * 3 + 8) (cp) (-(sp)) (0 - ((cp) * (xp) - -(sp) * (yp))) (0 - (-(sp) * (xp) + (cp) * (yp))), Vb (true), Vb (false), Vb (false)]) (B := [⟨3, none, none, 60, 16, Vp 3 (cp) (sp) (xp) (yp), VT⟩, ⟨4, none, none, 60, 16, Vp 3 (cq) (sq) (xq) (yq), VT⟩, ⟨5, none, none, 60, 16, Vp 3 (cr) (sr) (xr) (yr), VT⟩, ⟨6, none, none, 28, 8, Vv 3 (xa) (ya), VT⟩, ⟨7, none, none, 28, 8, Vv 3 (xb) (yb), VT⟩, ⟨8, none, none, 28, 8, Vv 3 (xd) (yd), VT⟩, ⟨9, none, none, 60, 16, Vp (8 * 3 + 3) ((cp) * (cq) + -(sp) * (sq)) ((sp) * (cq) + (cp) * (sq)) ((cp) * (xq) + -(sp) * (yq) + (xp)) ((sp) * (xq) + (cp) * (yq) + (yp)), VT⟩, ⟨10, none, none, 60, 16, Vp (8 * 3 + 30) (cp) (-(sp)) ((cp) * ((xp) * Rat.divInt (-1) 1) + - -(sp) * ((yp) * Rat.divInt (-1) 1)) (-(sp) * ((xp) * Rat.divInt (-1) 1) + (cp) * ((yp) * Rat.divInt (-1) 1)), VT⟩]) (SL' := [(0, VI l), (2, Vb (false)), (50, Vb (false))]) st9 ⟨ks, ks, ?s2, ks, ks, ?s5, ?s6, ks, ks, ks, ks, ks, ?s12, ?s13, ks, ks, ks, ks, ks, ?s19, ?s20, ks, ks, trivial⟩ ?_
  case s2 =>
    refine kc fun _ ac Wd h hd => ?_
    obtain ⟨v0, hv0, hV0⟩ := h.dp hd 28
    obtain ⟨v1, hv1, hV1⟩ := h.dp hd 29
    exact ⟨#[v0, v1], by simp [hv0, hv1], cPut (show Vp 3 (cp) (sp) (xp) (yp) v0 Wd from hV0) (show Vv 3 (xa) (ya) v1 Wd from hV1) (by omega) (by omega)⟩
  case s5 =>
    refine kc fun _ ac Wd h hd => ?_
    obtain ⟨v0, hv0, hV0⟩ := h.dp hd 31
    obtain ⟨v1, hv1, hV1⟩ := h.dp hd 32
    exact ⟨#[v0, v1], by simp [hv0, hv1], cR5Put (show Vp 3 (cp) (sp) (xp) (yp) v0 Wd from hV0) (show Vv 3 (xa) (ya) v1 Wd from hV1) (by omega) (by omega)⟩
  case s6 =>
    refine kc fun _ ac Wd h hd => ?_
    obtain ⟨v0, hv0, hV0⟩ := h.dp hd 30
    obtain ⟨v1, hv1, hV1⟩ := h.dp hd 33
    exact ⟨#[v0, v1], by simp [hv0, hv1], (cR5Same (show Vv (8 * 3 + 3) ((cp) * (xa) + -(sp) * (ya) + (xp)) ((sp) * (xa) + (cp) * (ya) + (yp)) v0 Wd from hV0) (show Vv (8 * 3 + 3) ((cp) * (xa) - (sp) * (ya) + (xp)) ((sp) * (xa) + (cp) * (ya) + (yp)) v1 Wd from hV1) (by omega) (by omega)).mono fun e w h => h.le fun v w hv => hv.trans (congrArg Value.bool (decide_eq_true (by first | (and_intros <;> grind) | grind)))⟩
  case s12 =>
    refine kc fun _ ac Wd h hd => ?_
    obtain ⟨v0, hv0, hV0⟩ := h.dp hd 38
    obtain ⟨v1, hv1, hV1⟩ := h.dp hd 39
    exact ⟨#[v0, v1], by simp [hv0, hv1], cR5Compose (show Vp 3 (cp) (sp) (xp) (yp) v0 Wd from hV0) (show Vp 3 (cq) (sq) (xq) (yq) v1 Wd from hV1) (by omega) (by omega)⟩
  case s13 =>
    refine kc fun _ ac Wd h hd => ?_
    obtain ⟨v0, hv0, hV0⟩ := h.dp hd 37
    obtain ⟨v1, hv1, hV1⟩ := h.dp hd 40
    exact ⟨#[v0, v1], by simp [hv0, hv1], (cR5SameP (show Vp (8 * 3 + 3) ((cp) * (cq) + -(sp) * (sq)) ((sp) * (cq) + (cp) * (sq)) ((cp) * (xq) + -(sp) * (yq) + (xp)) ((sp) * (xq) + (cp) * (yq) + (yp)) v0 Wd from hV0) (show Vp (8 * 3 + 3) ((cp) * (cq) - (sp) * (sq)) ((sp) * (cq) + (cp) * (sq)) ((cp) * (xq) - (sp) * (yq) + (xp)) ((sp) * (xq) + (cp) * (yq) + (yp)) v1 Wd from hV1) (by omega) (by omega)).mono fun e w h => h.le fun v w hv => hv.trans (congrArg Value.bool (decide_eq_true (by first | (and_intros <;> grind) | grind)))⟩
  case s19 => refine kc fun _ ac Wd h hd => ?_; obtain ⟨v0, hv0, hV0⟩ := h.dp hd 46; exact ⟨#[v0], by simp [hv0], cR5Inverse (show Vp 3 (cp) (sp) (xp) (yp) v0 Wd from hV0) (by omega) (by omega)⟩
  case s20 =>
    refine kc fun _ ac Wd h hd => ?_
    obtain ⟨v0, hv0, hV0⟩ := h.dp hd 45
    obtain ⟨v1, hv1, hV1⟩ := h.dp hd 47
    exact ⟨#[v0, v1], by simp [hv0, hv1], (cR5SameP (Vp_le (M := (max (8 * 3 + 30) (8 * 3 + 8))) (show Vp (8 * 3 + 30) (cp) (-(sp)) ((cp) * ((xp) * Rat.divInt (-1) 1) + - -(sp) * ((yp) * Rat.divInt (-1) 1)) (-(sp) * ((xp) * Rat.divInt (-1) 1) + (cp) * ((yp) * Rat.divInt (-1) 1)) v0 Wd from hV0) (by omega)) (Vp_le (M := (max (8 * 3 + 30) (8 * 3 + 8))) (show Vp (8 * 3 + 8) (cp) (-(sp)) (0 - ((cp) * (xp) - -(sp) * (yp))) (0 - (-(sp) * (xp) + (cp) * (yp))) v1 Wd from hV1) (by omega)) (by omega) (by omega)).mono fun e w h => h.le fun v w hv => hv.trans (congrArg Value.bool (decide_eq_true (by first | (and_intros <;> grind) | grind)))⟩
  intro a10 w10 st10
  clear st9
  repeat first | refine wp_seq ?_ | refine wp_block ?_ | refine wp_skip ?_ | refine wp_exit ?_
  obtain ⟨vc, hc1, hc2⟩ := st10.slot (50, Vb (false)) (.tail _ (.tail _ (.head _)))
  refine wp_cond_false (hc1.trans hc2) ?_
  clear hc1 hc2
  repeat first | refine wp_seq ?_ | refine wp_block ?_ | refine wp_skip ?_ | refine wp_exit ?_
  refine rg (BT := [(60, 16, 0), (28, 8, 0)]) (Vl := [Vp (8 * 3 + 3) ((cp) * (cq) + -(sp) * (sq)) ((sp) * (cq) + (cp) * (sq)) ((cp) * (xq) + -(sp) * (yq) + (xp)) ((sp) * (xq) + (cp) * (yq) + (yp)), Vv 3 (xa) (ya), Vv (8 * (max (8 * 3 + 3) 3) + 3) (((cp) * (cq) + -(sp) * (sq)) * (xa) + -((sp) * (cq) + (cp) * (sq)) * (ya) + ((cp) * (xq) + -(sp) * (yq) + (xp))) (((sp) * (cq) + (cp) * (sq)) * (xa) + ((cp) * (cq) + -(sp) * (sq)) * (ya) + ((sp) * (xq) + (cp) * (yq) + (yp))), Vp 3 (cp) (sp) (xp) (yp), Vp 3 (cq) (sq) (xq) (yq), Vv 3 (xa) (ya), Vv (8 * 3 + 3) ((cq) * (xa) + -(sq) * (ya) + (xq)) ((sq) * (xa) + (cq) * (ya) + (yq)), Vv (8 * (max 3 (8 * 3 + 3)) + 3) ((cp) * ((cq) * (xa) + -(sq) * (ya) + (xq)) + -(sp) * ((sq) * (xa) + (cq) * (ya) + (yq)) + (xp)) ((sp) * ((cq) * (xa) + -(sq) * (ya) + (xq)) + (cp) * ((sq) * (xa) + (cq) * (ya) + (yq)) + (yp)), Vb (true), Vb (false), Vb (false), Vp (8 * 3 + 3) ((cp) * (cq) + -(sp) * (sq)) ((sp) * (cq) + (cp) * (sq)) ((cp) * (xq) + -(sp) * (yq) + (xp)) ((sp) * (xq) + (cp) * (yq) + (yp)), Vp 3 (cr) (sr) (xr) (yr), Vp (8 * (max (8 * 3 + 3) 3) + 3) (((cp) * (cq) + -(sp) * (sq)) * (cr) + -((sp) * (cq) + (cp) * (sq)) * (sr)) (((sp) * (cq) + (cp) * (sq)) * (cr) + ((cp) * (cq) + -(sp) * (sq)) * (sr)) (((cp) * (cq) + -(sp) * (sq)) * (xr) + -((sp) * (cq) + (cp) * (sq)) * (yr) + ((cp) * (xq) + -(sp) * (yq) + (xp))) (((sp) * (cq) + (cp) * (sq)) * (xr) + ((cp) * (cq) + -(sp) * (sq)) * (yr) + ((sp) * (xq) + (cp) * (yq) + (yp))), Vp 3 (cp) (sp) (xp) (yp), Vp 3 (cq) (sq) (xq) (yq), Vp 3 (cr) (sr) (xr) (yr), Vp (8 * 3 + 3) ((cq) * (cr) + -(sq) * (sr)) ((sq) * (cr) + (cq) * (sr)) ((cq) * (xr) + -(sq) * (yr) + (xq)) ((sq) * (xr) + (cq) * (yr) + (yq)), Vp (8 * (max 3 (8 * 3 + 3)) + 3) ((cp) * ((cq) * (cr) + -(sq) * (sr)) + -(sp) * ((sq) * (cr) + (cq) * (sr))) ((sp) * ((cq) * (cr) + -(sq) * (sr)) + (cp) * ((sq) * (cr) + (cq) * (sr))) ((cp) * ((cq) * (xr) + -(sq) * (yr) + (xq)) + -(sp) * ((sq) * (xr) + (cq) * (yr) + (yq)) + (xp)) ((sp) * ((cq) * (xr) + -(sq) * (yr) + (xq)) + (cp) * ((sq) * (xr) + (cq) * (yr) + (yq)) + (yp)), Vb (true), Vb (false), Vb (false), Vb (false), Vp (8 * 3 + 30) (cp) (-(sp)) ((cp) * ((xp) * Rat.divInt (-1) 1) + - -(sp) * ((yp) * Rat.divInt (-1) 1)) (-(sp) * ((xp) * Rat.divInt (-1) 1) + (cp) * ((yp) * Rat.divInt (-1) 1)), Vp 3 (cp) (sp) (xp) (yp), Vv 3 (xa) (ya), Vv (8 * 3 + 3) ((cp) * (xa) + -(sp) * (ya) + (xp)) ((sp) * (xa) + (cp) * (ya) + (yp)), Vv (8 * (max (8 * 3 + 30) (8 * 3 + 3)) + 3) ((cp) * ((cp) * (xa) + -(sp) * (ya) + (xp)) + -(-(sp)) * ((sp) * (xa) + (cp) * (ya) + (yp)) + ((cp) * ((xp) * Rat.divInt (-1) 1) + - -(sp) * ((yp) * Rat.divInt (-1) 1))) ((-(sp)) * ((cp) * (xa) + -(sp) * (ya) + (xp)) + (cp) * ((sp) * (xa) + (cp) * (ya) + (yp)) + (-(sp) * ((xp) * Rat.divInt (-1) 1) + (cp) * ((yp) * Rat.divInt (-1) 1))), Vv 3 (xa) (ya), Vb (true), Vb (false), Vb (false), Vb (false), Vp 3 (cp) (sp) (xp) (yp), Vp (8 * 3 + 30) (cp) (-(sp)) ((cp) * ((xp) * Rat.divInt (-1) 1) + - -(sp) * ((yp) * Rat.divInt (-1) 1)) (-(sp) * ((xp) * Rat.divInt (-1) 1) + (cp) * ((yp) * Rat.divInt (-1) 1)), Vv 3 (xa) (ya), Vv (8 * (max (8 * 3 + 30) 3) + 3) ((cp) * (xa) + -(-(sp)) * (ya) + ((cp) * ((xp) * Rat.divInt (-1) 1) + - -(sp) * ((yp) * Rat.divInt (-1) 1))) ((-(sp)) * (xa) + (cp) * (ya) + (-(sp) * ((xp) * Rat.divInt (-1) 1) + (cp) * ((yp) * Rat.divInt (-1) 1))), Vv (8 * (max 3 (8 * (max (8 * 3 + 30) 3) + 3)) + 3) ((cp) * ((cp) * (xa) + -(-(sp)) * (ya) + ((cp) * ((xp) * Rat.divInt (-1) 1) + - -(sp) * ((yp) * Rat.divInt (-1) 1))) + -(sp) * ((-(sp)) * (xa) + (cp) * (ya) + (-(sp) * ((xp) * Rat.divInt (-1) 1) + (cp) * ((yp) * Rat.divInt (-1) 1))) + (xp)) ((sp) * ((cp) * (xa) + -(-(sp)) * (ya) + ((cp) * ((xp) * Rat.divInt (-1) 1) + - -(sp) * ((yp) * Rat.divInt (-1) 1))) + (cp) * ((-(sp)) * (xa) + (cp) * (ya) + (-(sp) * ((xp) * Rat.divInt (-1) 1) + (cp) * ((yp) * Rat.divInt (-1) 1))) + (yp)), Vv 3 (xa) (ya), Vb (true), Vb (false), Vb (false)]) (B := [⟨3, none, none, 60, 16, Vp 3 (cp) (sp) (xp) (yp), VT⟩, ⟨4, none, none, 60, 16, Vp 3 (cq) (sq) (xq) (yq), VT⟩, ⟨5, none, none, 60, 16, Vp 3 (cr) (sr) (xr) (yr), VT⟩, ⟨6, none, none, 28, 8, Vv 3 (xa) (ya), VT⟩, ⟨7, none, none, 28, 8, Vv 3 (xb) (yb), VT⟩, ⟨8, none, none, 28, 8, Vv 3 (xd) (yd), VT⟩, ⟨9, none, none, 60, 16, Vp (8 * 3 + 3) ((cp) * (cq) + -(sp) * (sq)) ((sp) * (cq) + (cp) * (sq)) ((cp) * (xq) + -(sp) * (yq) + (xp)) ((sp) * (xq) + (cp) * (yq) + (yp)), VT⟩, ⟨10, none, none, 60, 16, Vp (8 * 3 + 30) (cp) (-(sp)) ((cp) * ((xp) * Rat.divInt (-1) 1) + - -(sp) * ((yp) * Rat.divInt (-1) 1)) (-(sp) * ((xp) * Rat.divInt (-1) 1) + (cp) * ((yp) * Rat.divInt (-1) 1)), VT⟩]) (SL' := [(0, VI l), (2, Vb (false)), (50, Vb (false)), (92, Vb (false))]) st10 ⟨ks, ks, ?s2, ks, ks, ks, ?s6, ?s7, ?s8, ks, ks, ks, ks, ?s13, ks, ks, ks, ?s17, ?s18, ?s19, ks, ks, ks, ks, ks, ks, ?s26, ?s27, ks, ?s29, ks, ks, ks, ks, ks, ks, ?s36, ?s37, ks, ?s39, ks, ks, trivial⟩ ?_
  case s2 =>
    refine kc fun _ ac Wd h hd => ?_
    obtain ⟨v0, hv0, hV0⟩ := h.dp hd 51
    obtain ⟨v1, hv1, hV1⟩ := h.dp hd 52
    exact ⟨#[v0, v1], by simp [hv0, hv1], cPut (Vp_le (M := (max (8 * 3 + 3) 3)) (show Vp (8 * 3 + 3) ((cp) * (cq) + -(sp) * (sq)) ((sp) * (cq) + (cp) * (sq)) ((cp) * (xq) + -(sp) * (yq) + (xp)) ((sp) * (xq) + (cp) * (yq) + (yp)) v0 Wd from hV0) (by omega)) (Vv_le (M := (max (8 * 3 + 3) 3)) (show Vv 3 (xa) (ya) v1 Wd from hV1) (by omega)) (by omega) (by omega)⟩
  case s6 =>
    refine kc fun _ ac Wd h hd => ?_
    obtain ⟨v0, hv0, hV0⟩ := h.dp hd 55
    obtain ⟨v1, hv1, hV1⟩ := h.dp hd 56
    exact ⟨#[v0, v1], by simp [hv0, hv1], cPut (show Vp 3 (cq) (sq) (xq) (yq) v0 Wd from hV0) (show Vv 3 (xa) (ya) v1 Wd from hV1) (by omega) (by omega)⟩
  case s7 =>
    refine kc fun _ ac Wd h hd => ?_
    obtain ⟨v0, hv0, hV0⟩ := h.dp hd 54
    obtain ⟨v1, hv1, hV1⟩ := h.dp hd 57
    exact ⟨#[v0, v1], by simp [hv0, hv1], cPut (Vp_le (M := (max 3 (8 * 3 + 3))) (show Vp 3 (cp) (sp) (xp) (yp) v0 Wd from hV0) (by omega)) (Vv_le (M := (max 3 (8 * 3 + 3))) (show Vv (8 * 3 + 3) ((cq) * (xa) + -(sq) * (ya) + (xq)) ((sq) * (xa) + (cq) * (ya) + (yq)) v1 Wd from hV1) (by omega)) (by omega) (by omega)⟩
  case s8 =>
    refine kc fun _ ac Wd h hd => ?_
    obtain ⟨v0, hv0, hV0⟩ := h.dp hd 53
    obtain ⟨v1, hv1, hV1⟩ := h.dp hd 58
    exact ⟨#[v0, v1], by simp [hv0, hv1], (cVSame (Vv_le (M := (max (8 * (max (8 * 3 + 3) 3) + 3) (8 * (max 3 (8 * 3 + 3)) + 3))) (show Vv (8 * (max (8 * 3 + 3) 3) + 3) (((cp) * (cq) + -(sp) * (sq)) * (xa) + -((sp) * (cq) + (cp) * (sq)) * (ya) + ((cp) * (xq) + -(sp) * (yq) + (xp))) (((sp) * (cq) + (cp) * (sq)) * (xa) + ((cp) * (cq) + -(sp) * (sq)) * (ya) + ((sp) * (xq) + (cp) * (yq) + (yp))) v0 Wd from hV0) (by omega)) (Vv_le (M := (max (8 * (max (8 * 3 + 3) 3) + 3) (8 * (max 3 (8 * 3 + 3)) + 3))) (show Vv (8 * (max 3 (8 * 3 + 3)) + 3) ((cp) * ((cq) * (xa) + -(sq) * (ya) + (xq)) + -(sp) * ((sq) * (xa) + (cq) * (ya) + (yq)) + (xp)) ((sp) * ((cq) * (xa) + -(sq) * (ya) + (xq)) + (cp) * ((sq) * (xa) + (cq) * (ya) + (yq)) + (yp)) v1 Wd from hV1) (by omega)) (by omega) (by omega)).mono fun e w h => h.le fun v w hv => hv.trans (congrArg Value.bool (decide_eq_true (by first | (and_intros <;> grind) | grind)))⟩
  case s13 =>
    refine kc fun _ ac Wd h hd => ?_
    obtain ⟨v0, hv0, hV0⟩ := h.dp hd 62
    obtain ⟨v1, hv1, hV1⟩ := h.dp hd 63
    exact ⟨#[v0, v1], by simp [hv0, hv1], cCompose (Vp_le (M := (max (8 * 3 + 3) 3)) (show Vp (8 * 3 + 3) ((cp) * (cq) + -(sp) * (sq)) ((sp) * (cq) + (cp) * (sq)) ((cp) * (xq) + -(sp) * (yq) + (xp)) ((sp) * (xq) + (cp) * (yq) + (yp)) v0 Wd from hV0) (by omega)) (Vp_le (M := (max (8 * 3 + 3) 3)) (show Vp 3 (cr) (sr) (xr) (yr) v1 Wd from hV1) (by omega)) (by omega) (by omega)⟩
  case s17 =>
    refine kc fun _ ac Wd h hd => ?_
    obtain ⟨v0, hv0, hV0⟩ := h.dp hd 66
    obtain ⟨v1, hv1, hV1⟩ := h.dp hd 67
    exact ⟨#[v0, v1], by simp [hv0, hv1], cCompose (show Vp 3 (cq) (sq) (xq) (yq) v0 Wd from hV0) (show Vp 3 (cr) (sr) (xr) (yr) v1 Wd from hV1) (by omega) (by omega)⟩
  case s18 =>
    refine kc fun _ ac Wd h hd => ?_
    obtain ⟨v0, hv0, hV0⟩ := h.dp hd 65
    obtain ⟨v1, hv1, hV1⟩ := h.dp hd 68
    exact ⟨#[v0, v1], by simp [hv0, hv1], cCompose (Vp_le (M := (max 3 (8 * 3 + 3))) (show Vp 3 (cp) (sp) (xp) (yp) v0 Wd from hV0) (by omega)) (Vp_le (M := (max 3 (8 * 3 + 3))) (show Vp (8 * 3 + 3) ((cq) * (cr) + -(sq) * (sr)) ((sq) * (cr) + (cq) * (sr)) ((cq) * (xr) + -(sq) * (yr) + (xq)) ((sq) * (xr) + (cq) * (yr) + (yq)) v1 Wd from hV1) (by omega)) (by omega) (by omega)⟩
  case s19 =>
    refine kc fun _ ac Wd h hd => ?_
    obtain ⟨v0, hv0, hV0⟩ := h.dp hd 64
    obtain ⟨v1, hv1, hV1⟩ := h.dp hd 69
    exact ⟨#[v0, v1], by simp [hv0, hv1], (cR5SameP (Vp_le (M := (max (8 * (max (8 * 3 + 3) 3) + 3) (8 * (max 3 (8 * 3 + 3)) + 3))) (show Vp (8 * (max (8 * 3 + 3) 3) + 3) (((cp) * (cq) + -(sp) * (sq)) * (cr) + -((sp) * (cq) + (cp) * (sq)) * (sr)) (((sp) * (cq) + (cp) * (sq)) * (cr) + ((cp) * (cq) + -(sp) * (sq)) * (sr)) (((cp) * (cq) + -(sp) * (sq)) * (xr) + -((sp) * (cq) + (cp) * (sq)) * (yr) + ((cp) * (xq) + -(sp) * (yq) + (xp))) (((sp) * (cq) + (cp) * (sq)) * (xr) + ((cp) * (cq) + -(sp) * (sq)) * (yr) + ((sp) * (xq) + (cp) * (yq) + (yp))) v0 Wd from hV0) (by omega)) (Vp_le (M := (max (8 * (max (8 * 3 + 3) 3) + 3) (8 * (max 3 (8 * 3 + 3)) + 3))) (show Vp (8 * (max 3 (8 * 3 + 3)) + 3) ((cp) * ((cq) * (cr) + -(sq) * (sr)) + -(sp) * ((sq) * (cr) + (cq) * (sr))) ((sp) * ((cq) * (cr) + -(sq) * (sr)) + (cp) * ((sq) * (cr) + (cq) * (sr))) ((cp) * ((cq) * (xr) + -(sq) * (yr) + (xq)) + -(sp) * ((sq) * (xr) + (cq) * (yr) + (yq)) + (xp)) ((sp) * ((cq) * (xr) + -(sq) * (yr) + (xq)) + (cp) * ((sq) * (xr) + (cq) * (yr) + (yq)) + (yp)) v1 Wd from hV1) (by omega)) (by omega) (by omega)).mono fun e w h => h.le fun v w hv => hv.trans (congrArg Value.bool (decide_eq_true (by first | (and_intros <;> grind) | grind)))⟩
  case s26 =>
    refine kc fun _ ac Wd h hd => ?_
    obtain ⟨v0, hv0, hV0⟩ := h.dp hd 75
    obtain ⟨v1, hv1, hV1⟩ := h.dp hd 76
    exact ⟨#[v0, v1], by simp [hv0, hv1], cPut (show Vp 3 (cp) (sp) (xp) (yp) v0 Wd from hV0) (show Vv 3 (xa) (ya) v1 Wd from hV1) (by omega) (by omega)⟩
  case s27 =>
    refine kc fun _ ac Wd h hd => ?_
    obtain ⟨v0, hv0, hV0⟩ := h.dp hd 74
    obtain ⟨v1, hv1, hV1⟩ := h.dp hd 77
    exact ⟨#[v0, v1], by simp [hv0, hv1], cPut (Vp_le (M := (max (8 * 3 + 30) (8 * 3 + 3))) (show Vp (8 * 3 + 30) (cp) (-(sp)) ((cp) * ((xp) * Rat.divInt (-1) 1) + - -(sp) * ((yp) * Rat.divInt (-1) 1)) (-(sp) * ((xp) * Rat.divInt (-1) 1) + (cp) * ((yp) * Rat.divInt (-1) 1)) v0 Wd from hV0) (by omega)) (Vv_le (M := (max (8 * 3 + 30) (8 * 3 + 3))) (show Vv (8 * 3 + 3) ((cp) * (xa) + -(sp) * (ya) + (xp)) ((sp) * (xa) + (cp) * (ya) + (yp)) v1 Wd from hV1) (by omega)) (by omega) (by omega)⟩
  case s29 =>
    refine kc fun _ ac Wd h hd => ?_
    obtain ⟨v0, hv0, hV0⟩ := h.dp hd 78
    obtain ⟨v1, hv1, hV1⟩ := h.dp hd 79
    exact ⟨#[v0, v1], by simp [hv0, hv1], (cVSame (Vv_le (M := (max (8 * (max (8 * 3 + 30) (8 * 3 + 3)) + 3) 3)) (show Vv (8 * (max (8 * 3 + 30) (8 * 3 + 3)) + 3) ((cp) * ((cp) * (xa) + -(sp) * (ya) + (xp)) + -(-(sp)) * ((sp) * (xa) + (cp) * (ya) + (yp)) + ((cp) * ((xp) * Rat.divInt (-1) 1) + - -(sp) * ((yp) * Rat.divInt (-1) 1))) ((-(sp)) * ((cp) * (xa) + -(sp) * (ya) + (xp)) + (cp) * ((sp) * (xa) + (cp) * (ya) + (yp)) + (-(sp) * ((xp) * Rat.divInt (-1) 1) + (cp) * ((yp) * Rat.divInt (-1) 1))) v0 Wd from hV0) (by omega)) (Vv_le (M := (max (8 * (max (8 * 3 + 30) (8 * 3 + 3)) + 3) 3)) (show Vv 3 (xa) (ya) v1 Wd from hV1) (by omega)) (by omega) (by omega)).mono fun e w h => h.le fun v w hv => hv.trans (congrArg Value.bool (decide_eq_true (by first | (and_intros <;> grind) | grind)))⟩
  case s36 =>
    refine kc fun _ ac Wd h hd => ?_
    obtain ⟨v0, hv0, hV0⟩ := h.dp hd 85
    obtain ⟨v1, hv1, hV1⟩ := h.dp hd 86
    exact ⟨#[v0, v1], by simp [hv0, hv1], cPut (Vp_le (M := (max (8 * 3 + 30) 3)) (show Vp (8 * 3 + 30) (cp) (-(sp)) ((cp) * ((xp) * Rat.divInt (-1) 1) + - -(sp) * ((yp) * Rat.divInt (-1) 1)) (-(sp) * ((xp) * Rat.divInt (-1) 1) + (cp) * ((yp) * Rat.divInt (-1) 1)) v0 Wd from hV0) (by omega)) (Vv_le (M := (max (8 * 3 + 30) 3)) (show Vv 3 (xa) (ya) v1 Wd from hV1) (by omega)) (by omega) (by omega)⟩
  case s37 =>
    refine kc fun _ ac Wd h hd => ?_
    obtain ⟨v0, hv0, hV0⟩ := h.dp hd 84
    obtain ⟨v1, hv1, hV1⟩ := h.dp hd 87
    exact ⟨#[v0, v1], by simp [hv0, hv1], cPut (Vp_le (M := (max 3 (8 * (max (8 * 3 + 30) 3) + 3))) (show Vp 3 (cp) (sp) (xp) (yp) v0 Wd from hV0) (by omega)) (Vv_le (M := (max 3 (8 * (max (8 * 3 + 30) 3) + 3))) (show Vv (8 * (max (8 * 3 + 30) 3) + 3) ((cp) * (xa) + -(-(sp)) * (ya) + ((cp) * ((xp) * Rat.divInt (-1) 1) + - -(sp) * ((yp) * Rat.divInt (-1) 1))) ((-(sp)) * (xa) + (cp) * (ya) + (-(sp) * ((xp) * Rat.divInt (-1) 1) + (cp) * ((yp) * Rat.divInt (-1) 1))) v1 Wd from hV1) (by omega)) (by omega) (by omega)⟩
  case s39 =>
    refine kc fun _ ac Wd h hd => ?_
    obtain ⟨v0, hv0, hV0⟩ := h.dp hd 88
    obtain ⟨v1, hv1, hV1⟩ := h.dp hd 89
    exact ⟨#[v0, v1], by simp [hv0, hv1], (cVSame (Vv_le (M := (max (8 * (max 3 (8 * (max (8 * 3 + 30) 3) + 3)) + 3) 3)) (show Vv (8 * (max 3 (8 * (max (8 * 3 + 30) 3) + 3)) + 3) ((cp) * ((cp) * (xa) + -(-(sp)) * (ya) + ((cp) * ((xp) * Rat.divInt (-1) 1) + - -(sp) * ((yp) * Rat.divInt (-1) 1))) + -(sp) * ((-(sp)) * (xa) + (cp) * (ya) + (-(sp) * ((xp) * Rat.divInt (-1) 1) + (cp) * ((yp) * Rat.divInt (-1) 1))) + (xp)) ((sp) * ((cp) * (xa) + -(-(sp)) * (ya) + ((cp) * ((xp) * Rat.divInt (-1) 1) + - -(sp) * ((yp) * Rat.divInt (-1) 1))) + (cp) * ((-(sp)) * (xa) + (cp) * (ya) + (-(sp) * ((xp) * Rat.divInt (-1) 1) + (cp) * ((yp) * Rat.divInt (-1) 1))) + (yp)) v0 Wd from hV0) (by omega)) (Vv_le (M := (max (8 * (max 3 (8 * (max (8 * 3 + 30) 3) + 3)) + 3) 3)) (show Vv 3 (xa) (ya) v1 Wd from hV1) (by omega)) (by omega) (by omega)).mono fun e w h => h.le fun v w hv => hv.trans (congrArg Value.bool (decide_eq_true (by first | (and_intros <;> grind) | grind)))⟩
  intro a11 w11 st11
  clear st10
  repeat first | refine wp_seq ?_ | refine wp_block ?_ | refine wp_skip ?_ | refine wp_exit ?_
  obtain ⟨vc, hc1, hc2⟩ := st11.slot (92, Vb (false)) (.tail _ (.tail _ (.tail _ (.head _))))
  refine wp_cond_false (hc1.trans hc2) ?_
  clear hc1 hc2
  repeat first | refine wp_seq ?_ | refine wp_block ?_ | refine wp_skip ?_ | refine wp_exit ?_
  refine rg (BT := [(60, 16, 0), (28, 8, 0)]) (Vl := [Vv 3 (xa) (ya), Vv 3 (xb) (yb), Vv 3 (xd) (yd), Vi (cmpI (((xb) - (xa)) * ((yd) - (ya)) + -((yb) - (ya)) * ((xd) - (xa))).num 0), Vp 3 (cp) (sp) (xp) (yp), Vv 3 (xa) (ya), Vv (8 * 3 + 3) ((cp) * (xa) + -(sp) * (ya) + (xp)) ((sp) * (xa) + (cp) * (ya) + (yp)), Vp 3 (cp) (sp) (xp) (yp), Vv 3 (xb) (yb), Vv (8 * 3 + 3) ((cp) * (xb) + -(sp) * (yb) + (xp)) ((sp) * (xb) + (cp) * (yb) + (yp)), Vp 3 (cp) (sp) (xp) (yp), Vv 3 (xd) (yd), Vv (8 * 3 + 3) ((cp) * (xd) + -(sp) * (yd) + (xp)) ((sp) * (xd) + (cp) * (yd) + (yp)), Vi (cmpI ((((cp) * (xb) + -(sp) * (yb) + (xp)) - ((cp) * (xa) + -(sp) * (ya) + (xp))) * (((sp) * (xd) + (cp) * (yd) + (yp)) - ((sp) * (xa) + (cp) * (ya) + (yp))) + -(((sp) * (xb) + (cp) * (yb) + (yp)) - ((sp) * (xa) + (cp) * (ya) + (yp))) * (((cp) * (xd) + -(sp) * (yd) + (xp)) - ((cp) * (xa) + -(sp) * (ya) + (xp)))).num 0), Vb (true), Vb (true), Vpt a11 9 0, Vv (8 * 3 + 3) ((cp) * (cq) + -(sp) * (sq)) ((sp) * (cq) + (cp) * (sq)), Vb (true), Vb (true), Vb (true), Vpt a11 10 0, Vv (8 * 3 + 30) (cp) (-(sp)), Vb (true), Vb (true), Vb (true), Vb (true), Vb (true), Vb (true)]) (B := [⟨3, none, none, 60, 16, Vp 3 (cp) (sp) (xp) (yp), VT⟩, ⟨4, none, none, 60, 16, Vp 3 (cq) (sq) (xq) (yq), VT⟩, ⟨5, none, none, 60, 16, Vp 3 (cr) (sr) (xr) (yr), VT⟩, ⟨6, none, none, 28, 8, Vv 3 (xa) (ya), VT⟩, ⟨7, none, none, 28, 8, Vv 3 (xb) (yb), VT⟩, ⟨8, none, none, 28, 8, Vv 3 (xd) (yd), VT⟩, ⟨9, none, none, 60, 16, Vp (8 * 3 + 3) ((cp) * (cq) + -(sp) * (sq)) ((sp) * (cq) + (cp) * (sq)) ((cp) * (xq) + -(sp) * (yq) + (xp)) ((sp) * (xq) + (cp) * (yq) + (yp)), VT⟩, ⟨10, none, none, 60, 16, Vp (8 * 3 + 30) (cp) (-(sp)) ((cp) * ((xp) * Rat.divInt (-1) 1) + - -(sp) * ((yp) * Rat.divInt (-1) 1)) (-(sp) * ((xp) * Rat.divInt (-1) 1) + (cp) * ((yp) * Rat.divInt (-1) 1)), VT⟩]) (SL' := [(0, VI l), (50, Vb (false)), (92, Vb (false)), (2, Vb (true))]) st11 ⟨ks, ks, ks, ?s3, ks, ks, ?s6, ks, ks, ?s9, ks, ks, ?s12, ?s13, ?s14, ks, ks, ks, ?s18, ks, ks, ks, ks, ?s23, ks, ks, ?s26, ks, ks, trivial⟩ ?_
  case s3 =>
    refine kc fun _ ac Wd h hd => ?_
    obtain ⟨v0, hv0, hV0⟩ := h.dp hd 93
    obtain ⟨v1, hv1, hV1⟩ := h.dp hd 94
    obtain ⟨v2, hv2, hV2⟩ := h.dp hd 95
    exact ⟨#[v0, v1, v2], by simp [hv0, hv1, hv2], cSide (show Vv 3 (xa) (ya) v0 Wd from hV0) (show Vv 3 (xb) (yb) v1 Wd from hV1) (show Vv 3 (xd) (yd) v2 Wd from hV2) (by omega) (by omega)⟩
  case s6 =>
    refine kc fun _ ac Wd h hd => ?_
    obtain ⟨v0, hv0, hV0⟩ := h.dp hd 97
    obtain ⟨v1, hv1, hV1⟩ := h.dp hd 98
    exact ⟨#[v0, v1], by simp [hv0, hv1], cPut (show Vp 3 (cp) (sp) (xp) (yp) v0 Wd from hV0) (show Vv 3 (xa) (ya) v1 Wd from hV1) (by omega) (by omega)⟩
  case s9 =>
    refine kc fun _ ac Wd h hd => ?_
    obtain ⟨v0, hv0, hV0⟩ := h.dp hd 100
    obtain ⟨v1, hv1, hV1⟩ := h.dp hd 101
    exact ⟨#[v0, v1], by simp [hv0, hv1], cPut (show Vp 3 (cp) (sp) (xp) (yp) v0 Wd from hV0) (show Vv 3 (xb) (yb) v1 Wd from hV1) (by omega) (by omega)⟩
  case s12 =>
    refine kc fun _ ac Wd h hd => ?_
    obtain ⟨v0, hv0, hV0⟩ := h.dp hd 103
    obtain ⟨v1, hv1, hV1⟩ := h.dp hd 104
    exact ⟨#[v0, v1], by simp [hv0, hv1], cPut (show Vp 3 (cp) (sp) (xp) (yp) v0 Wd from hV0) (show Vv 3 (xd) (yd) v1 Wd from hV1) (by omega) (by omega)⟩
  case s13 =>
    refine kc fun _ ac Wd h hd => ?_
    obtain ⟨v0, hv0, hV0⟩ := h.dp hd 99
    obtain ⟨v1, hv1, hV1⟩ := h.dp hd 102
    obtain ⟨v2, hv2, hV2⟩ := h.dp hd 105
    exact ⟨#[v0, v1, v2], by simp [hv0, hv1, hv2], cSide (show Vv (8 * 3 + 3) ((cp) * (xa) + -(sp) * (ya) + (xp)) ((sp) * (xa) + (cp) * (ya) + (yp)) v0 Wd from hV0) (show Vv (8 * 3 + 3) ((cp) * (xb) + -(sp) * (yb) + (xp)) ((sp) * (xb) + (cp) * (yb) + (yp)) v1 Wd from hV1) (show Vv (8 * 3 + 3) ((cp) * (xd) + -(sp) * (yd) + (xp)) ((sp) * (xd) + (cp) * (yd) + (yp)) v2 Wd from hV2) (by omega) (by omega)⟩
  case s14 =>
    refine kr fun _ ac Wd h hd => ?_
    obtain ⟨v0, hv0, hV0⟩ := h.dp hd 96
    have hV0' : v0 = .int .i64 (cmpI (((xb) - (xa)) * ((yd) - (ya)) + -((yb) - (ya)) * ((xd) - (xa))).num 0) := hV0
    obtain ⟨v1, hv1, hV1⟩ := h.dp hd 106
    have hV1' : v1 = .int .i64 (cmpI ((((cp) * (xb) + -(sp) * (yb) + (xp)) - ((cp) * (xa) + -(sp) * (ya) + (xp))) * (((sp) * (xd) + (cp) * (yd) + (yp)) - ((sp) * (xa) + (cp) * (ya) + (yp))) + -(((sp) * (xb) + (cp) * (yb) + (yp)) - ((sp) * (xa) + (cp) * (ya) + (yp))) * (((cp) * (xd) + -(sp) * (yd) + (xp)) - ((cp) * (xa) + -(sp) * (ya) + (xp)))).num 0) := hV1
    exact ⟨_, run_eqi rfl (hv0.trans hV0') (hv1.trans hV1'), congrArg Value.bool (beq_iff_eq.2 (congrArg (fun q : Rat => cmpI q.num 0) (by grind)))⟩
  case s18 =>
    refine kc fun _ ac Wd h hd => ?_
    obtain ⟨v0, hv0, hV0⟩ := h.dp hd 110
    exact ⟨#[v0], by simp [hv0], (cPValid (show Vv (8 * 3 + 3) ((cp) * (cq) + -(sp) * (sq)) ((sp) * (cq) + (cp) * (sq)) v0 Wd from hV0) (by omega) (by omega)).mono fun e w h => h.le fun v w hv => hv.trans (congrArg Value.bool (decide_eq_true (by first | (and_intros <;> grind) | grind)))⟩
  case s23 =>
    refine kc fun _ ac Wd h hd => ?_
    obtain ⟨v0, hv0, hV0⟩ := h.dp hd 115
    exact ⟨#[v0], by simp [hv0], (cPValid (show Vv (8 * 3 + 30) (cp) (-(sp)) v0 Wd from hV0) (by omega) (by omega)).mono fun e w h => h.le fun v w hv => hv.trans (congrArg Value.bool (decide_eq_true (by first | (and_intros <;> grind) | grind)))⟩
  case s26 => refine kc fun _ ac Wd h hd => ?_; exact ⟨#[], by simp [], cPLives⟩
  intro a12 w12 st12
  clear st11
  repeat first | refine wp_seq ?_ | refine wp_block ?_ | refine wp_skip ?_ | refine wp_exit ?_
  obtain ⟨vr, r1, r4⟩ := st12.slot (2, Vb (true)) (.tail _ (.tail _ (.tail _ (.head _))))
  exact wp_ret (bodyPost_ret (results_tmp rfl _ _ _) st12.defers ⟨_, congrArg Ending.returned (show _ = vr from r1), r4, st12.k.below⟩)
end Go.Proofs.YteaoaoknpihchaaGreat
