/- The program's route layer: its contracts hold. -/
import Derived.Test.YthcopaeelbaobaaRP5
import Derived.Test.YthcopaeelbaobaaRP6
namespace Go.Proofs.Ythcopaeelbaobaa
open Go.RowKit Go.Proofs.Fd Go.Proofs.Rt

theorem path_c : PathC := fun a hs n cap w hn hn2 hid hc => path_any a hs n cap hn (by have := hn2.out; omega) hid w hc
end Go.Proofs.Ythcopaeelbaobaa
