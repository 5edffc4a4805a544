/- Contracts of FieldPower on both sides, and the law of it. -/
import Derived.Test.YtncplefjokbbjaaPow
namespace Go.Proofs.Ytncplefjokbbjaa
open Go.RowKit
set_option maxHeartbeats 1600000
def PowV (a b : ByteArray) : Value := if longB a || longB b then .tuple #[.string ⟨#[]⟩, .int .i64 2] else if okB a && decide (b.size = 32) then .tuple #[.string (enc (((numN a : Int) ^ numN b) % pInt)), .int .i64 0] else .tuple #[.string ⟨#[]⟩, .int .i64 1]
end Go.Proofs.Ytncplefjokbbjaa
