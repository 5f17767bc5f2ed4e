/- Short names of words of the library. -/
import Derived.Test.YtjdkdjobaabdiaaGreatProg
import Derived.ControlIn
import Derived.Lib.Hide
namespace Go.Proofs.YtjdkdjobaabdiaaGreat
abbrev Wq:=@wp_seq
abbrev Wb:=@wp_block
abbrev Wk:=@wp_skip
abbrev Wx:=@wp_exit
abbrev Iq:=@wpIn_seq
abbrev Ib:=@wpIn_block
abbrev Ik:=@wpIn_skip
abbrev Ix:=@wpIn_exit
abbrev Lq:=@List.forall_mem_cons
abbrev dT:=@decide_eq_true
abbrev dF:=@decide_eq_false
abbrev hIq:=@Lib.hid
end Go.Proofs.YtjdkdjobaabdiaaGreat
