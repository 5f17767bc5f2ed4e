/- wire.Bytes, wire.Ints, wire.Strings. -/
import Derived.Test.YtfgkaiaapofepaaDoorW6
namespace Go.Proofs.YtfgkaiaapofepaaDoor
open Go.RowKit

set_option maxRecDepth 100000 in
set_option maxHeartbeats 400000 in
theorem Bytes_any (s : ByteArray) (w : World) (hs : (enc s.size).length + s.size ≤ 70368744177664) :
    Calls Tryd.prog 34 #[.string s] w (EncPost w (enc s.size ++ sl s)) := by
  go_enter Tryd.func34, Tryd.ntmps34
  go_wp2_with (go_at_call 38; refine (putBytes_any (.slice none 0 0) 0 [] w.heap.size _ _ (World.ownsRow_nil _ _ _ _) (Nat.le_refl _) (by omega)).mono ?_; intro e w' hp; have hq := Lib.hid (encPost_of hp); obtain ⟨v', rfl, _, _⟩ := hp)
  go_ret
  exact hq.out

/-- element i of a list of integers -/
def iat (l : List Int) (i : Nat) : Int := l.getD i 0
/-- the slice that begins at a reads as the integers l -/
def Rdi (w : World) (a : Option Addr) (l : List Int) : Prop :=
  l = [] ∨ ∃ b off, a = some ⟨b, off, none⟩ ∧ ∀ i, i < l.length → w.cell? ⟨b, off + i, none⟩ = some (.int .i64 (iat l i))
def i64s (l : List Int) : Prop := ∀ i, i < l.length → -9223372036854775808 ≤ iat l i ∧ iat l i ≤ 9223372036854775807

theorem Rdi_at {w : World} {a : Option Addr} {l : List Int} (h : Rdi w a l) (k : Nat) (hk : k < l.length) : ∃ b off, a = some ⟨b, off, none⟩ ∧ w.cell? ⟨b, off + k, none⟩ = some (.int .i64 (iat l k)) := by
  rcases h with rfl | ⟨b, off, rfl, hc⟩
  · simp at hk
  · exact ⟨b, off, rfl, hc k hk⟩

theorem Below.cell_of' {w w' : World} {p : Addr} {v : Value} (h : Below w.heap.size w w') (hc : w.cell? p = some v) : w'.cell? p = some v :=
  (h.cell (World.block_lt_of_cell? w p hc)).trans hc

/-- the encoding of a list of integers -/
def encIs (l : List Int) : List UInt8 := enc (l.length : Int) ++ l.flatMap enc

/-- a row that grows while a list is encoded -/
def RowInv (w : World) (v : Value) (l : List UInt8) (wr : World) : Prop := wr.ownsRow w.heap.size 5 1 v l.length (bvs l) ∧ Below w.heap.size w wr

theorem RowInv.put {w wr w2 : World} {v : Value} {l r : List UInt8} {e : Ending} (h : RowInv w v l wr) (hp : PutPost wr w.heap.size l.length (bvs l) r e w2) : ∃ v2, e = .returned v2 ∧ RowInv w v2 (l ++ r) w2 := by
  obtain ⟨v2, he, ho, hb⟩ := hp
  exact ⟨v2, he, by rw [List.length_append, bvs_append]; exact ho, h.2.trans hb⟩

theorem flat_take {α : Type} (f : α → List UInt8) (l : List α) (k : Nat) (hk : k < l.length) (d : α) : (l.take (k + 1)).flatMap f = (l.take k).flatMap f ++ f (l.getD k d) := by
  rw [List.take_succ_eq_append_getElem hk, List.flatMap_append, List.flatMap_singleton]
  simp [hk]

theorem flat_take_le {α : Type} (f : α → List UInt8) (l : List α) (k : Nat) : ((l.take k).flatMap f).length ≤ (l.flatMap f).length := by
  have h := congrArg (fun l => (l.flatMap f).length) (List.take_append_drop k l)
  simp only [List.flatMap_append, List.length_append] at h
  omega

theorem enc_le (n : Int) : (enc n).length ≤ 9 := by rw [enc_length]; have := nd_le (mgn n); omega

/-- element i of a list of strings -/
def sat (l : List ByteArray) (i : Nat) : ByteArray := l.getD i ByteArray.empty
/-- the slice that begins at a reads as the strings l -/
def Rds (w : World) (a : Option Addr) (l : List ByteArray) : Prop :=
  l = [] ∨ ∃ b off, a = some ⟨b, off, none⟩ ∧ ∀ i, i < l.length → w.cell? ⟨b, off + i, none⟩ = some (.string (sat l i))
theorem Rds_at {w : World} {a : Option Addr} {l : List ByteArray} (h : Rds w a l) (k : Nat) (hk : k < l.length) : ∃ b off, a = some ⟨b, off, none⟩ ∧ w.cell? ⟨b, off + k, none⟩ = some (.string (sat l k)) := by
  rcases h with rfl | ⟨b, off, rfl, hc⟩
  · simp at hk
  · exact ⟨b, off, rfl, hc k hk⟩

/-- the encodings of a string and of a list of strings -/
def encS (s : ByteArray) : List UInt8 := enc (s.size : Int) ++ sl s
def encSs (l : List ByteArray) : List UInt8 := enc (l.length : Int) ++ l.flatMap encS

end Go.Proofs.YtfgkaiaapofepaaDoor
