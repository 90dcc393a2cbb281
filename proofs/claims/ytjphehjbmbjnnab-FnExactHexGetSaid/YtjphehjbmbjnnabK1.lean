/- The contracts of the two-byte number functions of chapter 1: what each call returns, for every number. -/
import Derived.Test.YtjphehjbmbjnnabG
import Derived.Deep.QuietTactic
import Derived.BigQuiet
namespace Go.Proofs.Ytjphehjbmbjnnab
open Go.RowKit

end Go.Proofs.Ytjphehjbmbjnnab
