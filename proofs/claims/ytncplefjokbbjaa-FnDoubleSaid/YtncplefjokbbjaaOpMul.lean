/- Contracts of FieldMul on both sides, and the law of it. -/
import Derived.Test.YtncplefjokbbjaaOps
import Derived.Test.YtncplefjokbbjaaImplF
import Derived.Test.YtncplefjokbbjaaMul
namespace Go.Proofs.Ytncplefjokbbjaa
open Go.RowKit
set_option maxHeartbeats 1600000
def MulV (a b : ByteArray) : Value := if longB a || longB b then .tuple #[.string ⟨#[]⟩, .int .i64 2] else if okB a && okB b then .tuple #[.string (enc (((numN a : Int) * (numN b : Int)) % pInt)), .int .i64 0] else .tuple #[.string ⟨#[]⟩, .int .i64 1]
end Go.Proofs.Ytncplefjokbbjaa
