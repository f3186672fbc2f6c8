/- How many bytes an object's lists take. -/
import Derived.Test.YtmpljhfinmfnbaaDoorGo0
namespace Go.Proofs.YtmpljhfinmfnbaaDoor
open Go.RowKit
def fitW (o : Ob) : Prop := o.mem.length * 8 ≤ 140737488351232 ∧ o.cores.length * 40 ≤ 140737488351232 ∧ ∀ c ∈ o.cores, c.code.length * 64 ≤ 140737488351232
end Go.Proofs.YtmpljhfinmfnbaaDoor
