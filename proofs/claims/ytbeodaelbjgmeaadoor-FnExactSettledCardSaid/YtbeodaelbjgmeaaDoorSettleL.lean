/-
  Settled: how long what it returns is.
-/
import Derived.Test.YtbeodaelbjgmeaaDoorSettle0
namespace Go.Proofs.YtbeodaelbjgmeaaDoor
open Go.RowKit
theorem settledG_len (D : MGame) : (settledG D).length ≤ D.hands.length := by
  unfold settledG
  split
  · split
    · rw [List.length_replicate, leftPts_len]; exact Nat.le_refl _
    · rw [stl_len, leftPts_len]; exact Nat.le_refl _
  · exact Nat.zero_le _
end Go.Proofs.YtbeodaelbjgmeaaDoor
