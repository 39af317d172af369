/- Documents: are they the same? -/
import Derived.Test.YtfjecohokmelfaaDocG
namespace Go.Proofs.Ytfjecohokmelfaa
open Go.RowKit
set_option maxRecDepth 100000
set_option linter.unusedSimpArgs false

def sameD (x y : DocV) : Bool := (x.id.toList == y.id.toList) && ((x.sale == y.sale) && ((x.credit == y.credit) && ((x.refers.toList == y.refers.toList) && ((x.day == y.day) && ((x.country.toList == y.country.toList) && ((x.number.toList == y.number.toList) && ((x.currency.toList == y.currency.toList) && likes x.lines y.lines)))))))
end Go.Proofs.Ytfjecohokmelfaa
