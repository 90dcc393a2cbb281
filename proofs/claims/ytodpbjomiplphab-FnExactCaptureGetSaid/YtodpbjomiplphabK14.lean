/- The contracts of chapter 11's model, further: the bytes of a chunk or none, the chunk at a place. -/
import Derived.Test.YtodpbjomiplphabK13
import Derived.RegionTactic
namespace Go.Proofs.Ytodpbjomiplphab
open Go.RowKit Go.PlainAid

/-- A chunk was read, or none. -/
def gotV (k f : Int) (b : ByteArray) (n : Int) : Value := .tuple #[.agg #[.int .i64 k, .int .i64 f, .string b], .int .i64 n, .bool true]
def noneV : Value := .tuple #[.agg #[.int .i64 0, .int .i64 0, .string (ByteArray.mk #[])], .int .i64 0, .bool false]

end Go.Proofs.Ytodpbjomiplphab
