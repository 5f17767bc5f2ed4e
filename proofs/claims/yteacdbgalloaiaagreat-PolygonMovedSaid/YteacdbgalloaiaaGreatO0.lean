/- Short names of words of the library. -/
import Derived.Test.YteacdbgalloaiaaGreatProg
import Derived.ControlIn
import Derived.Lib.Hide
namespace Go.Proofs.YteacdbgalloaiaaGreat
abbrev Wq:=@wp_seq
abbrev Wb:=@wp_block
abbrev Wk:=@wp_skip
abbrev Wx:=@wp_exit
abbrev Iq:=@wpIn_seq
abbrev Ib:=@wpIn_block
abbrev Ik:=@wpIn_skip
abbrev Ix:=@wpIn_exit
abbrev Lq:=@List.forall_mem_cons
abbrev dT:=@decide_eq_true
abbrev dF:=@decide_eq_false
abbrev hIq:=@Lib.hid
theorem Wn {G K:Prop}(h:K)(e:K->G:=by intro h;(repeat first|apply Wq|apply Wb|apply Wk|apply Wx);exact h):G:=e h
theorem Wm {G K:Prop}(h:K)(e:K->G:=by intro h;(repeat first|apply Iq|apply Ib|apply Ik|apply Ix);exact h):G:=e h
theorem L0 {α}{p:α->Prop}:∀x∈([]:List α),p x:=fun _ h=>absurd h (by simp)
end Go.Proofs.YteacdbgalloaiaaGreat
