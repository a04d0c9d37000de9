/-
  SixOk in the program, at every packet.
-/
import Derived.Test.YtegpaocoepcemaaSixOkI1
import Derived.Test.YtegpaocoepcemaaSixOkI2
import Derived.Test.YtegpaocoepcemaaSixOkI3
import Derived.Test.YtegpaocoepcemaaSixOkI4
namespace Go.Proofs.Ytegpaocoepcemaa
set_option maxRecDepth 100000
open Go.RowKit

theorem implSixOk (x : Sh) (A D : Option Addr) (n c m d : Nat) (ys : List Ey) (w : World) (hx : XR w w.heap.size A ys) (hl : ys.length = n) (hn : n ≤ 1048576) (hb : bodies ys ≤ 1048576) : Calls Try.prog 19 #[.agg #[.int .i64 x.cls, .int .i64 x.label, .int .i64 x.hops, .int .i64 x.proto, .int .i64 x.src.k, .int .i64 x.src.a, .int .i64 x.src.b, .int .i64 x.src.c, .int .i64 x.src.d, .int .i64 x.dst.k, .int .i64 x.dst.a, .int .i64 x.dst.b, .int .i64 x.dst.c, .int .i64 x.dst.d, .slice A n c, .slice D m d]] w fun e w' => e = .returned (.bool (x.ok (ys.map Ey.says) m)) ∧ Below w.heap.size w w' := by
  cases h0 : upTo x.cls 255
  · exact implSixOk_0 x A D n c m d ys w h0
  cases h1 : upTo x.label 1048575
  · exact implSixOk_1 x A D n c m d ys w h0 h1
  cases h2 : upTo x.hops 255
  · exact implSixOk_2 x A D n c m d ys w h0 h1 h2
  cases h3 : upTo x.proto 255
  · exact implSixOk_3 x A D n c m d ys w h0 h1 h2 h3
  by_cases h4 : inner x.proto = true
  · exact implSixOk_4 x A D n c m d ys w h0 h1 h2 h3 h4
  replace h4 : inner x.proto = false := by simpa using h4
  cases h5 : adOk6 x.src
  · exact implSixOk_5 x A D n c m d ys w h0 h1 h2 h3 h4 h5
  cases h6 : adOk6 x.dst
  · exact implSixOk_6 x A D n c m d ys w h0 h1 h2 h3 h4 h5 h6
  cases h7 : extsOk (ys.map Ey.says)
  · exact implSixOk_7 x A D n c m d ys w hx hl hn hb h0 h1 h2 h3 h4 h5 h6 h7
  exact implSixOk_8 x A D n c m d ys w hx hl hn hb h0 h1 h2 h3 h4 h5 h6 h7
end Go.Proofs.Ytegpaocoepcemaa
