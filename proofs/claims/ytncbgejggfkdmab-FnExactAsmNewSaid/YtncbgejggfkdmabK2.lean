/- The contracts of the reading functions of chapter 1: the cursor, WordGet and LongGet, for every text and place. -/
import Derived.Test.YtncbgejggfkdmabK1
import Derived.PlainAid
namespace Go.Proofs.Ytncbgejggfkdmab
open Go.RowKit Go.PlainAid

end Go.Proofs.Ytncbgejggfkdmab
