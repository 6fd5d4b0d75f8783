/- FlushToken of the model; both are the same. -/
import Derived.Test.YtbmfdakagcbpiaaDoorQTokSpec4ToFlush2
namespace Go.Proofs.YtbmfdakagcbpiaaDoor
open Go.RowKit
set_option linter.unusedVariables false

theorem firstTok_six (l : List UInt8) (h : (firstTok l).code = 6) : firstTok l = badTk 6 := by
  revert h
  unfold firstTok
  split
  · intro h; exact absurd h (by simp [badTk])
  · exact outTok_bad l











end Go.Proofs.YtbmfdakagcbpiaaDoor
