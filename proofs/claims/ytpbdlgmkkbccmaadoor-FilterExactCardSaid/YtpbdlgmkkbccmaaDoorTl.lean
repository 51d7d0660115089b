/-
  A body's tail: the code from a region on.
-/
import Derived.Test.YtpbdlgmkkbccmaaDoorCel
namespace Go.Proofs.YtpbdlgmkkbccmaaDoor
open Go.RowKit
namespace Tl
def starts (n : Nat) : Code → Bool
  | .region k _ _ => k == n
  | .seq a _ => starts n a
  | .scope a => starts n a
  | .block _ a => starts n a
  | _ => false
def from_ (n : Nat) : Code → Option Code
  | .seq a b => if starts n a = true then some (.seq a b) else from_ n b
  | c => if starts n c = true then some c else none
/-- The same within arms and loops. -/
def find_ (n : Nat) : Code → Option Code
  | .seq a b => if starts n a = true then some (.seq a b) else (find_ n a).orElse (fun _ => find_ n b)
  | .cond _ a b => (find_ n a).orElse (fun _ => find_ n b)
  | .block _ a => find_ n a
  | .scope a => find_ n a
  | c => if starts n c = true then some c else none
end Tl
end Go.Proofs.YtpbdlgmkkbccmaaDoor
