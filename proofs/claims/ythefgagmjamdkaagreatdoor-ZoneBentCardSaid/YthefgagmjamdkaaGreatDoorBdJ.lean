/-
  Several texts in one (RulC1, RulC2, RulC3).
-/
import Derived.Test.YthefgagmjamdkaaGreatDoorBdI
/-
  Contracts of package rule: Check, part 1. (Written by gen/gen_rula.py.)
-/
namespace Go.Proofs.YthefgagmjamdkaaGreatDoor
open Go.RowKit
namespace Rul
open Sol Clk Cel
end Rul
end Go.Proofs.YthefgagmjamdkaaGreatDoor
/-
  Contracts of package rule: Check, part 2. (Written by gen/gen_rula.py.)
-/
namespace Go.Proofs.YthefgagmjamdkaaGreatDoor
open Go.RowKit
namespace Rul
open Sol Clk Cel
end Rul
end Go.Proofs.YthefgagmjamdkaaGreatDoor
/-
  Contracts of package rule: Check, part 3. (Written by gen/gen_rula.py.)
-/
namespace Go.Proofs.YthefgagmjamdkaaGreatDoor
open Go.RowKit
namespace Rul
open Sol Clk Cel
end Rul
end Go.Proofs.YthefgagmjamdkaaGreatDoor
