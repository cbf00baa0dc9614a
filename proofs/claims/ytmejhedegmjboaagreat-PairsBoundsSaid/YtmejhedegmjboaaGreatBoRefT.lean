import Derived.Test.YtmejhedegmjboaaGreatLists
import Derived.Test.YtmejhedegmjboaaGreatOpn
namespace Go.Proofs.YtmejhedegmjboaaGreat.Bo
open Go.RowKit
def rsV (t:Nat)(A:Option Addr)(n c:Nat)(m:Nat):Value:= .agg #[.int .i64 (t:Int),.slice A n c,.int .i64 (m:Int)]
end Go.Proofs.YtmejhedegmjboaaGreat.Bo
