/-
  SixOk in the model, at every packet; the laws' own size of a packet.
-/
import Derived.Test.YtkmijefheejcjaaKq17
import Derived.Test.YtkmijefheejcjaaKq11
namespace Go.Proofs.Ytkmijefheejcjaa
set_option maxRecDepth 100000
open Go.RowKit

theorem specSixOk (x : Sh) (A D : Option Addr) (n c m d : Nat) (ys : List Ey) (w : World) (hx : XR w w.heap.size A ys) (hl : ys.length = n) (hb : bodies ys ≤ 1048576) : Calls Try.prog 17 #[.agg #[.int .i64 x.cls, .int .i64 x.label, .int .i64 x.hops, .int .i64 x.proto, .int .i64 x.src.k, .int .i64 x.src.a, .int .i64 x.src.b, .int .i64 x.src.c, .int .i64 x.src.d, .int .i64 x.dst.k, .int .i64 x.dst.a, .int .i64 x.dst.b, .int .i64 x.dst.c, .int .i64 x.dst.d, .slice A n c, .slice D m d]] w fun e w' => e = .returned (.bool (x.ok (ys.map Ey.says) m)) ∧ Below w.heap.size w w' := by
  have hl2 : (ys.map Ey.says).length = n := by rw [List.length_map, hl]
  cases h0 : upTo x.cls 255
  · exact specSixOk_0 x A D n c m d _ w h0
  cases h1 : upTo x.label 1048575
  · exact specSixOk_1 x A D n c m d _ w h0 h1
  cases h2 : upTo x.hops 255
  · exact specSixOk_2 x A D n c m d _ w h0 h1 h2
  cases h3 : upTo x.proto 255
  · exact specSixOk_3 x A D n c m d _ w h0 h1 h2 h3
  by_cases h4 : inner x.proto = true
  · exact specSixOk_4 x A D n c m d _ w h0 h1 h2 h3 h4
  replace h4 : inner x.proto = false := by simpa using h4
  cases h5 : decide (x.src.k = 6)
  · exact specSixOk_5 x A D n c m d _ w h0 h1 h2 h3 h4 h5
  cases h6 : decide (x.dst.k = 6)
  · exact specSixOk_6 x A D n c m d _ w h0 h1 h2 h3 h4 h5 h6
  cases h7 : x.src.ok
  · exact specSixOk_7 x A D n c m d _ w h0 h1 h2 h3 h4 h5 h6 h7
  cases h8 : x.dst.ok
  · exact specSixOk_8 x A D n c m d _ w h0 h1 h2 h3 h4 h5 h6 h7 h8
  cases h9 : decide (n ≤ 3)
  · exact specSixOk_9 x A D n c m d _ w hl2 h0 h1 h2 h3 h4 h5 h6 h7 h8 h9
  exact specSixOk_yes x A D n c m d ys w hx hl hb h0 h1 h2 h3 h4 h5 h6 h7 h8 h9

theorem bodies_says (ys : List Ey) : bodies ys = ((ys.map Ey.says).map fun e => e.2.length).sum := by
  rw [List.map_map]
  rfl
theorem says_len {ys zs : List Ey} {n : Nat} (h : zs.map Ey.says = ys.map Ey.says) (hl : ys.length = n) (hb : bodies ys ≤ 1048576) : zs.length = n ∧ bodies zs ≤ 1048576 := by
  refine ⟨?_, ?_⟩
  · have := congrArg List.length h
    simp at this
    omega
  · rw [bodies_says, h, ← bodies_says]
    exact hb

end Go.Proofs.Ytkmijefheejcjaa
