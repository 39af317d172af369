/- All of scan's texts so far. -/
import Derived.Test.YthgakgjhcadajaaJ45
import Derived.Test.YthgakgjhcadajaaJ48
import Derived.Test.YthgakgjhcadajaaJ3
namespace Go.Proofs.Ythgakgjhcadajaa
theorem scan_all : True := trivial
end Go.Proofs.Ythgakgjhcadajaa
