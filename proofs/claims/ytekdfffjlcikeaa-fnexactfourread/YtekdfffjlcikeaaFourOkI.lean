/-
  FourOk in the program, at every packet.
-/
import Derived.Test.YtekdfffjlcikeaaFourOkI1
import Derived.Test.YtekdfffjlcikeaaFourOkI2
import Derived.Test.YtekdfffjlcikeaaFourOkI3
import Derived.Test.YtekdfffjlcikeaaFourOkI4
namespace Go.Proofs.Ytekdfffjlcikeaa
open Go.RowKit

theorem implFourOk (x : Fh) (A D : Option Addr) (n c m d : Nat) (w : World) : Calls Try.prog 16 #[.agg #[.int .i64 x.dscp, .int .i64 x.ecn, .int .i64 x.id, .int .i64 x.flags, .int .i64 x.frag, .int .i64 x.ttl, .int .i64 x.proto, .int .i64 x.src.k, .int .i64 x.src.a, .int .i64 x.src.b, .int .i64 x.src.c, .int .i64 x.src.d, .int .i64 x.dst.k, .int .i64 x.dst.a, .int .i64 x.dst.b, .int .i64 x.dst.c, .int .i64 x.dst.d, .slice A n c, .slice D m d]] w fun e w' => e = .returned (.bool (x.ok n m)) ∧ Below w.heap.size w w' := by
  cases h0 : upTo x.dscp 63
  · exact implFourOk_0 x A D n c m d w h0
  cases h1 : upTo x.ecn 3
  · exact implFourOk_1 x A D n c m d w h0 h1
  cases h2 : upTo x.id 65535
  · exact implFourOk_2 x A D n c m d w h0 h1 h2
  cases h3 : upTo x.flags 7
  · exact implFourOk_3 x A D n c m d w h0 h1 h2 h3
  cases h4 : upTo x.frag 8191
  · exact implFourOk_4 x A D n c m d w h0 h1 h2 h3 h4
  cases h5 : upTo x.ttl 255
  · exact implFourOk_5 x A D n c m d w h0 h1 h2 h3 h4 h5
  cases h6 : upTo x.proto 255
  · exact implFourOk_6 x A D n c m d w h0 h1 h2 h3 h4 h5 h6
  cases h7 : adOk4 x.src
  · exact implFourOk_7 x A D n c m d w h0 h1 h2 h3 h4 h5 h6 h7
  cases h8 : adOk4 x.dst
  · exact implFourOk_8 x A D n c m d w h0 h1 h2 h3 h4 h5 h6 h7 h8
  cases h9 : optOk n
  · exact implFourOk_9 x A D n c m d w h0 h1 h2 h3 h4 h5 h6 h7 h8 h9
  exact implFourOk_10 x A D n c m d w h0 h1 h2 h3 h4 h5 h6 h7 h8 h9
end Go.Proofs.Ytekdfffjlcikeaa
