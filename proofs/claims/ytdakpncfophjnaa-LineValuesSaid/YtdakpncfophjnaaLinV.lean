/-
  LineValues, plain words: a value is all that stands behind the first colon that no quotes hold.
-/
import Derived.Test.YtdakpncfophjnaaLinN
namespace Go.Proofs.Ytdakpncfophjnaa
open Go.RowKit
namespace Lin
theorem lv_go {S v : List UInt8} {ps : List PV} (h : lnX S = if (58 : UInt8) = 58 ∧ lnB ⟨[65], ps, v⟩ = true then some ⟨[65], ps, v⟩ else none) (hv : plnB v = true) (hp : ps.all parB = true) : lnP S = (0, ⟨[65], ps, v⟩) := by
  have hb : lnB ⟨[65], ps, v⟩ = true := by rw [lnB, hv, hp]; show (nmB [65] && (true && true)) = true; decide
  rw [if_pos ⟨rfl, hb⟩] at h
  rw [lnP, h]
theorem lv_0 (v : List UInt8) (hv : plnB v = true) : lnP (65 :: 58 :: v) = (0, ⟨[65], [], v⟩) := lv_go rfl hv rfl
theorem lv_1 (v : List UInt8) (hv : plnB v = true) : lnP ([65, 59, 66, 61, 99] ++ 58 :: v) = (0, ⟨[65], [⟨[66], [[99]]⟩], v⟩) := lv_go rfl hv (by decide)
theorem lv_2 (v : List UInt8) (hv : plnB v = true) : lnP ([65, 59, 66, 61, 34, 120, 58, 121, 34] ++ 58 :: v) = (0, ⟨[65], [⟨[66], [[120, 58, 121]]⟩], v⟩) := lv_go rfl hv (by decide)
theorem lv_3 (v : List UInt8) (hv : plnB v = true) : lnP ([65, 59, 66, 61, 34, 59, 44, 58, 34, 59, 67, 61, 44] ++ 58 :: v) = (0, ⟨[65], [⟨[66], [[59, 44, 58]]⟩, ⟨[67], [[], []]⟩], v⟩) := lv_go rfl hv (by decide)
end Lin
end Go.Proofs.Ytdakpncfophjnaa
