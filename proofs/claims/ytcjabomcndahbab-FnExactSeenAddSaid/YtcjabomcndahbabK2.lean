/- The contracts of the reading functions of chapter 1: the cursor, WordGet and LongGet, for every text and place. -/
import Derived.Test.YtcjabomcndahbabK1
import Derived.PlainAid
namespace Go.Proofs.Ytcjabomcndahbab
open Go.RowKit Go.PlainAid

end Go.Proofs.Ytcjabomcndahbab
