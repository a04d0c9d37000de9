/-
  SixOk in the model, at every packet; the laws' own size of a packet.
-/
import Derived.Test.YtegpaocoepcemaaSixOkS
import Derived.Test.YtegpaocoepcemaaSixReg
namespace Go.Proofs.Ytegpaocoepcemaa
set_option maxRecDepth 100000
open Go.RowKit

theorem specSixOk (x : Sh) (A D : Option Addr) (n c m d : Nat) (ys : List Ey) (w : World) (hx : XR w w.heap.size A ys) (hl : ys.length = n) (hb : bodies ys ≤ 1048576) : Calls Try.prog 18 #[.agg #[.int .i64 x.cls, .int .i64 x.label, .int .i64 x.hops, .int .i64 x.proto, .int .i64 x.src.k, .int .i64 x.src.a, .int .i64 x.src.b, .int .i64 x.src.c, .int .i64 x.src.d, .int .i64 x.dst.k, .int .i64 x.dst.a, .int .i64 x.dst.b, .int .i64 x.dst.c, .int .i64 x.dst.d, .slice A n c, .slice D m d]] w fun e w' => e = .returned (.bool (x.ok (ys.map Ey.says) m)) ∧ Below w.heap.size w w' := by
  have hl2 : (ys.map Ey.says).length = n := by rw [List.length_map, hl]
  cases h0 : upTo x.cls 255
  · exact specSixOk_0 x A D n c m d _ w h0
  cases h1 : upTo x.label 1048575
  · exact specSixOk_1 x A D n c m d _ w h0 h1
  cases h2 : upTo x.hops 255
  · exact specSixOk_2 x A D n c m d _ w h0 h1 h2
  cases h3 : upTo x.proto 255
  · exact specSixOk_3 x A D n c m d _ w h0 h1 h2 h3
  by_cases h4 : inner x.proto = true
  · exact specSixOk_4 x A D n c m d _ w h0 h1 h2 h3 h4
  replace h4 : inner x.proto = false := by simpa using h4
  cases h5 : decide (x.src.k = 6)
  · exact specSixOk_5 x A D n c m d _ w h0 h1 h2 h3 h4 h5
  cases h6 : decide (x.dst.k = 6)
  · exact specSixOk_6 x A D n c m d _ w h0 h1 h2 h3 h4 h5 h6
  cases h7 : x.src.ok
  · exact specSixOk_7 x A D n c m d _ w h0 h1 h2 h3 h4 h5 h6 h7
  cases h8 : x.dst.ok
  · exact specSixOk_8 x A D n c m d _ w h0 h1 h2 h3 h4 h5 h6 h7 h8
  cases h9 : decide (n ≤ 3)
  · exact specSixOk_9 x A D n c m d _ w hl2 h0 h1 h2 h3 h4 h5 h6 h7 h8 h9
  exact specSixOk_yes x A D n c m d ys w hx hl hb h0 h1 h2 h3 h4 h5 h6 h7 h8 h9

theorem bodies_says (ys : List Ey) : bodies ys = ((ys.map Ey.says).map fun e => e.2.length).sum := by
  rw [List.map_map]
  rfl
theorem says_len {ys zs : List Ey} {n : Nat} (h : zs.map Ey.says = ys.map Ey.says) (hl : ys.length = n) (hb : bodies ys ≤ 1048576) : zs.length = n ∧ bodies zs ≤ 1048576 := by
  refine ⟨?_, ?_⟩
  · have := congrArg List.length h
    simp at this
    omega
  · rw [bodies_says, h, ← bodies_says]
    exact hb

set_option maxHeartbeats 1000000 in
theorem szSixC (x : Sh) (A D : Option Addr) (n c m d : Nat) (ys : List Ey) (bs : List UInt8) (w : World) (h : XIn w A n c ys) (k : In w D m d bs) :
    Calls Try.prog 13 #[.agg #[.int .i64 x.cls, .int .i64 x.label, .int .i64 x.hops, .int .i64 x.proto, .int .i64 x.src.k, .int .i64 x.src.a, .int .i64 x.src.b, .int .i64 x.src.c, .int .i64 x.src.d, .int .i64 x.dst.k, .int .i64 x.dst.a, .int .i64 x.dst.b, .int .i64 x.dst.c, .int .i64 x.dst.d, .slice A n c, .slice D m d], .int .i64 1048576] w fun e w' => ∃ r : Int, e = .returned (.int .i64 r) ∧ (r < 0 ∨ (0 ≤ r ∧ n + bodies ys + m ≤ 1048576)) ∧ Below w.heap.size w w' := by
  have hm := Nat.le_trans k.cap k.big
  have HI := Lib.hid (fun o : Obj => (⟨h.len, h.cap, h.big, (h.row.below (Joins.below_alloc1 w o)).more (by simp), fun y hy => ⟨(h.body y hy).len, (h.body y hy).cap, (h.body y hy).big, ((h.body y hy).rb.below (Joins.below_alloc1 w o)).more (by simp)⟩⟩ : XIn (w.alloc o) A n c ys))
  clear h k
  go_enter Try.func13, Try.ntmps13
  go_wp2_with fail
  refine Calls.mono (szExtS_C A n c ys _ (HI.out _)) ?_
  rintro e w1 ⟨r, rfl, hr, b1⟩
  have q1 := K.newB b1
  have d15 := K.cell q1 15 _ rfl
  have B1 := Lib.hid (bthen (Joins.below_alloc1 w _) b1)
  clear b1 q1
  by_cases h0 : r < 0
  · clear hr
    go_wp2
    go_ret
    exact ⟨_, rfl, .inl (by omega), B1.out⟩
  · have hr1 : (n : Int) + bodies ys + r = 1048576 := by omega
    have HR := Lib.hid hr1
    have h1 : 0 ≤ r := by omega
    have h2 : r ≤ 1048576 := by omega
    clear hr hr1 h0
    by_cases h3 : (m : Int) ≤ r
    · go_wp2_with fail
      refine Calls.mono (szF_yes D m d r _ h3 h2) ?_
      rintro e w2 ⟨rfl, rfl⟩
      go_wp2
      go_ret
      exact ⟨_, rfl, .inr ⟨by omega, by have := HR.out; omega⟩, B1.out⟩
    · go_wp2_with fail
      refine Calls.mono (szF_no D m d r _ (by omega) h1 hm) ?_
      rintro e w2 ⟨rfl, rfl⟩
      go_wp2
      go_ret
      exact ⟨_, rfl, .inl (by omega), B1.out⟩
end Go.Proofs.Ytegpaocoepcemaa
