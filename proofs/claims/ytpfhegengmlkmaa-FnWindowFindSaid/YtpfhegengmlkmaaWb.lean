/- Walks: toMark, toMarkS. -/
import Derived.Test.YtpfhegengmlkmaaWa
namespace Go.Proofs.Ytpfhegengmlkmaa
open Go.RowKit

theorem Try.info65 : (Try.prog.info? 65).map (fun i => (i.zero, i.size, i.bytes)) = some (some (.agg #[.string .empty, .int .i64 0]), 2, 24) := by kernel_rfl

end Go.Proofs.Ytpfhegengmlkmaa
