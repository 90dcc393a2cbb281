/- Chunks in memory, one after the other: slices of chunks. -/
import Derived.Test.YtodpbjomiplphaaK16
import Derived.Laws.OwnMore
namespace Go.Proofs.Ytodpbjomiplphaa
open Go.RowKit Go.PlainAid

end Go.Proofs.Ytodpbjomiplphaa
