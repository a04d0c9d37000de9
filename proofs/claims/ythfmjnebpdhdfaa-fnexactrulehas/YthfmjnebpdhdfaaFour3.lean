/-
  The laws' own comparison of IPv4 packets, their marking and a look at the marks.
-/
import Derived.Test.YthfmjnebpdhdfaaFour
namespace Go.Proofs.Ythfmjnebpdhdfaa
set_option maxRecDepth 100000
open Go.RowKit





end Go.Proofs.Ythfmjnebpdhdfaa
