/- Chunks in memory, one after the other: slices of chunks. -/
import Derived.Test.YtodpbjomiplphabK16
import Derived.Laws.OwnMore
namespace Go.Proofs.Ytodpbjomiplphab
open Go.RowKit Go.PlainAid

end Go.Proofs.Ytodpbjomiplphab
