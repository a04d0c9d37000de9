/-
  The laws' own comparison of IPv4 packets, their marking and a look at the marks.
-/
import Derived.Test.YthcmecmjmnimhaaFour
namespace Go.Proofs.Ythcmecmjmnimhaa
set_option maxRecDepth 100000
open Go.RowKit





end Go.Proofs.Ythcmecmjmnimhaa
