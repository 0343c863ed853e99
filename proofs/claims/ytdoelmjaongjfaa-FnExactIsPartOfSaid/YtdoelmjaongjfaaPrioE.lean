/- Priorities, and the key of the empty map. Written by wip/gen/prio.py. -/
import Derived.Test.YtdoelmjaongjfaaPrio
namespace Go.Proofs.Ytdoelmjaongjfaa
open Go.ChangeShapes Go.WideShapes Go.ChangeAt Go.RowKit
set_option linter.unusedVariables false
set_option linter.unusedSimpArgs false
theorem emK_len : emK.length = 32 := hashK_len _ _
def poV (s : ByteArray) : List Int := if isNm s then hashK 4 (btS s) else z32
def poE (s : ByteArray) : Int := if isNm s then 0 else 1
theorem poV_len (s : ByteArray) : (poV s).length = 32 := by unfold poV; split; (· exact hashK_len _ _); (· rfl)
end Go.Proofs.Ytdoelmjaongjfaa
