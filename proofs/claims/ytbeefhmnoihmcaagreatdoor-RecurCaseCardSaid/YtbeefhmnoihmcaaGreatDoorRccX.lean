/-
  RecurCase: the law's walk, with what a rule that came in is.
-/
import Derived.Test.YtbeefhmnoihmcaaGreatDoorRccL
import Derived.Test.YtbeefhmnoihmcaaGreatDoorRcbO
namespace Go.Proofs.YtbeefhmnoihmcaaGreatDoor
open Go.RowKit
namespace Rcc
open Rcv (CV IntV DayV LisV RecV)
open Rct (Tabs)
theorem case_w (a : CV) (p6 p7 p8 p9 p10 p11 p12 p13 p14 : Value) (w : World) (hT : Tabs w) (hla : LisV w a p6 p7 p8 p9 p10 p11 p12 p13 p14) (a1 : -9223372036854775808 ≤ a.ua) (a2 : a.ua ≤ 9223372036854775807) :
    Calls Tryz.prog 4 #[.agg #[.int .i64 a.fq, .int .i64 a.iv, .int .i64 a.ct, .bool a.un, .int .i64 a.ua, .bool a.ut, p6, p7, p8, p9, p10, p11, p12, p13, p14, .int .i64 a.wk]] w fun e w' => e = .returned (.bool true) ∧ Below w.heap.size w w' :=
  case_any a p6 p7 p8 p9 p10 p11 p12 p13 p14 w hT hla a1 a2
end Rcc
end Go.Proofs.YtbeefhmnoihmcaaGreatDoor
