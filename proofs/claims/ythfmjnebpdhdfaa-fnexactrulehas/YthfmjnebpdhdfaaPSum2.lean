/-
  The sum of the pseudo header, in the program and in the model.
-/
import Derived.Test.YthfmjnebpdhdfaaPSum
namespace Go.Proofs.Ythfmjnebpdhdfaa
set_option maxRecDepth 100000
open Go.RowKit

theorem pairIB (x y : Ad) (b : Bool) (h : pairA x y = b) (w : World) : Calls Try.prog 110 #[.agg #[.int .i64 x.k, .int .i64 x.a, .int .i64 x.b, .int .i64 x.c, .int .i64 x.d], .agg #[.int .i64 y.k, .int .i64 y.a, .int .i64 y.b, .int .i64 y.c, .int .i64 y.d]] w fun e w' => e = .returned (.bool b) ∧ Below w.heap.size w w' := h ▸ pairI x y w
theorem pairSB (x y : Ad) (b : Bool) (h : pairA x y = b) (w : World) : Calls Try.prog 74 #[.agg #[.int .i64 x.k, .int .i64 x.a, .int .i64 x.b, .int .i64 x.c, .int .i64 x.d], .agg #[.int .i64 y.k, .int .i64 y.a, .int .i64 y.b, .int .i64 y.c, .int .i64 y.d]] w fun e w' => e = .returned (.bool b) ∧ Below w.heap.size w w' := h ▸ pairS x y w
set_option maxHeartbeats 400000 in
theorem protoB (p : Int) (b : Bool) (w : World) (h : upTo p 255 = b) : Calls Try.prog 63 #[.int .i64 p] w fun e w' => e = .returned (.bool b) ∧ Below w.heap.size w w' := by
  have H := Lib.hid h
  clear h
  go_enter Try.func63, Try.ntmps63
  go_wp2_with fail
  refine Calls.mono (withinU p 255 b _ H.out) ?_
  rintro e w1 ⟨rfl, b1⟩
  go_wp2
  go_ret
  exact ⟨rfl, b1⟩
theorem put32S (n : Int) (w : World) : Calls Try.prog 157 #[.int .i64 n] w (TwoOut (put32 n) 4 w) := (specPut32 n w).mono fun _ _ ⟨D, d, h, o, b⟩ => ⟨D, d, h, o, b⟩
theorem inSB (n hi : Int) (b : Bool) (w : World) (h : upTo n hi = b) : Calls Try.prog 75 #[.int .i64 n, .int .i64 hi] w fun e w' => e = .returned (.bool b) ∧ Below w.heap.size w w' := (specInB n hi b w h).mono fun _ _ ⟨he, hw⟩ => ⟨he, hw ▸ Below.refl _ _⟩
theorem bytesNI (x : Ad) (l : Nat) (h : x.bytes.length = l) (w : World) : Calls Try.prog 94 #[.agg #[.int .i64 x.k, .int .i64 x.a, .int .i64 x.b, .int .i64 x.c, .int .i64 x.d]] w fun e w' => ∃ A c, e = .returned (.slice A l c) ∧ w'.ownsRow w.heap.size 5 1 (.slice A l c) l (cellsOf x.bytes) ∧ Below w.heap.size w w' := h ▸ implAddrBytes x w
theorem bytesNS (x : Ad) (l : Nat) (h : x.bytes.length = l) (w : World) : Calls Try.prog 143 #[.agg #[.int .i64 x.k, .int .i64 x.a, .int .i64 x.b, .int .i64 x.c, .int .i64 x.d]] w fun e w' => ∃ A c, e = .returned (.slice A l c) ∧ w'.ownsRow w.heap.size 5 1 (.slice A l c) l (cellsOf x.bytes) ∧ Below w.heap.size w w' := h ▸ specAddrBytes x w























end Go.Proofs.Ythfmjnebpdhdfaa
