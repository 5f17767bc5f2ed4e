/- Short names of words of the library. -/
import Derived.Test.YtjdkdjobaabdiaaGreatProg
import Derived.ControlIn
namespace Go.Proofs.YtjdkdjobaabdiaaGreat
abbrev Wq:=@wp_seq
abbrev Wb:=@wp_block
abbrev Wk:=@wp_skip
abbrev Wx:=@wp_exit
abbrev Iq:=@wpIn_seq
abbrev Ib:=@wpIn_block
abbrev Ik:=@wpIn_skip
abbrev Ix:=@wpIn_exit
abbrev Lq:=@List.forall_mem_cons
abbrev dT:=@decide_eq_true
abbrev dF:=@decide_eq_false
end Go.Proofs.YtjdkdjobaabdiaaGreat
