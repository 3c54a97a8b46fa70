/-
  The frame of this seat's rows, further: the examples hold.
-/
import Derived.Test.YtplepijiceanlaaGreatDoorWS
import Derived.Test.YtplepijiceanlaaGreatDoorAVa
import Derived.Test.YtplepijiceanlaaGreatDoorNM
namespace Go.Proofs.YtplepijiceanlaaGreatDoor
open Go.ChangeShapes Go.WideShapes Go.ChangeAt Go.RowKit

theorem awk : Awk := fun w hg => awake_ w hg
end Go.Proofs.YtplepijiceanlaaGreatDoor
