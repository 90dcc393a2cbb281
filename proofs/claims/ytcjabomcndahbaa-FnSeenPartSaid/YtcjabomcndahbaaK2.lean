/- The contracts of the reading functions of chapter 1: the cursor, WordGet and LongGet, for every text and place. -/
import Derived.Test.YtcjabomcndahbaaK1
import Derived.PlainAid
namespace Go.Proofs.Ytcjabomcndahbaa
open Go.RowKit Go.PlainAid

end Go.Proofs.Ytcjabomcndahbaa
