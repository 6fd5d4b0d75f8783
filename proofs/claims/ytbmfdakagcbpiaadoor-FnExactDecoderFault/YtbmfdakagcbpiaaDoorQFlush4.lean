/- FlushToken of the model, whole. -/
import Derived.Test.YtbmfdakagcbpiaaDoorQFlush3
namespace Go.Proofs.YtbmfdakagcbpiaaDoor
open Go.RowKit
set_option linter.unusedVariables false











theorem flushTok_small (l : List UInt8) (q : Bool) : (flushTok l q).ev.data.length ≤ 32 := by
  unfold flushTok
  split
  · simp [badTk, noEv]
  split
  · simp [pasteTk, pTk, pasteEv]; omega
  split
  · unfold asTok
    split
    · simp [keyTk, keyEv]
    split
    · simp [keyTk, keyEv]
    · simp [rawTk, rTk, rawEv]; omega
  · exact firstTok_small l

end Go.Proofs.YtbmfdakagcbpiaaDoor
