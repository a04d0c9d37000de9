/-
  ExtsSize, in the program and in the model.
-/
import Derived.Test.YtegpaocoepcemaaSixSz
import Derived.Test.YtegpaocoepcemaaSixOkI
namespace Go.Proofs.Ytegpaocoepcemaa
set_option maxRecDepth 100000
open Go.RowKit

def Sh.size (x : Sh) (es : List (Int × List UInt8)) (m : Nat) : Int := if x.ok es m then (extsSize es : Nat) else -1

set_option maxHeartbeats 1000000 in
theorem sizeI (x : Sh) (A D : Option Addr) (n c m d : Nat) (ys : List Ey) (w : World) (hx : XR w w.heap.size A ys) (hl : ys.length = n) (hn : n ≤ 1048576) (hb : bodies ys ≤ 1048576) : Calls Try.prog 16 #[.agg #[.int .i64 x.cls, .int .i64 x.label, .int .i64 x.hops, .int .i64 x.proto, .int .i64 x.src.k, .int .i64 x.src.a, .int .i64 x.src.b, .int .i64 x.src.c, .int .i64 x.src.d, .int .i64 x.dst.k, .int .i64 x.dst.a, .int .i64 x.dst.b, .int .i64 x.dst.c, .int .i64 x.dst.d, .slice A n c, .slice D m d]] w fun e w' => e = .returned (.int .i64 (x.size (ys.map Ey.says) m)) ∧ Below w.heap.size w w' := by
  have q0 := Lib.hid (K.new w (.cells #[.int .i64 x.cls, .int .i64 x.label, .int .i64 x.hops, .int .i64 x.proto, .int .i64 x.src.k, .int .i64 x.src.a, .int .i64 x.src.b, .int .i64 x.src.c, .int .i64 x.src.d, .int .i64 x.dst.k, .int .i64 x.dst.a, .int .i64 x.dst.b, .int .i64 x.dst.c, .int .i64 x.dst.d, .slice A n c, .slice D m d] 36))
  have HX := Lib.hid (hx.on (Joins.below_alloc1 w (.cells #[.int .i64 x.cls, .int .i64 x.label, .int .i64 x.hops, .int .i64 x.proto, .int .i64 x.src.k, .int .i64 x.src.a, .int .i64 x.src.b, .int .i64 x.src.c, .int .i64 x.src.d, .int .i64 x.dst.k, .int .i64 x.dst.a, .int .i64 x.dst.b, .int .i64 x.dst.c, .int .i64 x.dst.d, .slice A n c, .slice D m d] 36)))
  have HL := Lib.hid hl
  have HB := Lib.hid hb
  clear hx hl hb
  cases ho : x.ok (ys.map Ey.says) m with
  | false =>
    have H := Lib.hid (show x.size (ys.map Ey.says) m = -1 by simp [Sh.size, ho])
    have HO := Lib.hid ho
    clear ho
    go_enter Try.func16, Try.ntmps16
    go_wp2_with (with_reducible refine loadS rfl _ rfl w.heap.size rfl q0.out ?_)
    refine Calls.mono (implSixOk x A D n c m d ys _ HX.out HL.out hn HB.out) ?_
    rintro e w1 ⟨rfl, b1⟩
    rw [HO.out]
    go_wp2
    go_ret
    exact ⟨ret_int H.out.symm, bthen (Joins.below_alloc1 w _) b1⟩
  | true =>
    have H := Lib.hid (show x.size (ys.map Ey.says) m = (extsSize (ys.map Ey.says) : Nat) by simp [Sh.size, ho])
    have HO := Lib.hid ho
    clear ho
    go_enter Try.func16, Try.ntmps16
    go_wp2_with (with_reducible refine loadS rfl _ rfl w.heap.size rfl q0.out ?_)
    refine Calls.mono (implSixOk x A D n c m d ys _ HX.out HL.out hn HB.out) ?_
    rintro e w1 ⟨rfl, b1⟩
    rw [HO.out]
    have d14 := K.cell (K.below b1 q0.out) 14 _ rfl
    have X1 := Lib.hid (HX.out.on b1)
    have B1 := Lib.hid (bthen (Joins.below_alloc1 w _) b1)
    clear b1
    go_wp2_with fail
    refine Calls.mono (extsSizeI A n c ys _ X1.out HL.out hn HB.out) ?_
    rintro e w2 ⟨rfl, b2⟩
    go_wp2
    go_ret
    exact ⟨ret_int H.out.symm, bthen B1.out b2⟩

set_option maxHeartbeats 1000000 in
theorem sizeS (x : Sh) (A D : Option Addr) (n c m d : Nat) (ys : List Ey) (w : World) (hx : XR w w.heap.size A ys) (hl : ys.length = n) (hb : bodies ys ≤ 1048576) : Calls Try.prog 14 #[.agg #[.int .i64 x.cls, .int .i64 x.label, .int .i64 x.hops, .int .i64 x.proto, .int .i64 x.src.k, .int .i64 x.src.a, .int .i64 x.src.b, .int .i64 x.src.c, .int .i64 x.src.d, .int .i64 x.dst.k, .int .i64 x.dst.a, .int .i64 x.dst.b, .int .i64 x.dst.c, .int .i64 x.dst.d, .slice A n c, .slice D m d]] w fun e w' => e = .returned (.int .i64 (x.size (ys.map Ey.says) m)) ∧ Below w.heap.size w w' := by
  have q0 := Lib.hid (K.new w (.cells #[.int .i64 x.cls, .int .i64 x.label, .int .i64 x.hops, .int .i64 x.proto, .int .i64 x.src.k, .int .i64 x.src.a, .int .i64 x.src.b, .int .i64 x.src.c, .int .i64 x.src.d, .int .i64 x.dst.k, .int .i64 x.dst.a, .int .i64 x.dst.b, .int .i64 x.dst.c, .int .i64 x.dst.d, .slice A n c, .slice D m d] 36))
  have HX := Lib.hid (hx.on (Joins.below_alloc1 w (.cells #[.int .i64 x.cls, .int .i64 x.label, .int .i64 x.hops, .int .i64 x.proto, .int .i64 x.src.k, .int .i64 x.src.a, .int .i64 x.src.b, .int .i64 x.src.c, .int .i64 x.src.d, .int .i64 x.dst.k, .int .i64 x.dst.a, .int .i64 x.dst.b, .int .i64 x.dst.c, .int .i64 x.dst.d, .slice A n c, .slice D m d] 36)))
  have HL := Lib.hid hl
  have HB := Lib.hid hb
  clear hx hl hb
  cases ho : x.ok (ys.map Ey.says) m with
  | false =>
    have H := Lib.hid (show x.size (ys.map Ey.says) m = -1 by simp [Sh.size, ho])
    have HO := Lib.hid ho
    clear ho
    go_enter Try.func14, Try.ntmps14
    go_wp2_with (with_reducible refine loadS rfl _ rfl w.heap.size rfl q0.out ?_)
    refine Calls.mono (specSixOk x A D n c m d ys _ HX.out HL.out HB.out) ?_
    rintro e w1 ⟨rfl, b1⟩
    rw [HO.out]
    go_wp2
    go_ret
    exact ⟨ret_int H.out.symm, bthen (Joins.below_alloc1 w _) b1⟩
  | true =>
    have H := Lib.hid (show x.size (ys.map Ey.says) m = (extsSize (ys.map Ey.says) : Nat) by simp [Sh.size, ho])
    have HO := Lib.hid ho
    have hn3 : n ≤ 3 := by
      have := ho
      simp only [Sh.ok, extsOk, Bool.and_eq_true, decide_eq_true_eq, List.length_map] at this
      have := HL.out
      omega
    clear ho
    go_enter Try.func14, Try.ntmps14
    go_wp2_with (with_reducible refine loadS rfl _ rfl w.heap.size rfl q0.out ?_)
    refine Calls.mono (specSixOk x A D n c m d ys _ HX.out HL.out HB.out) ?_
    rintro e w1 ⟨rfl, b1⟩
    rw [HO.out]
    have d14 := K.cell (K.below b1 q0.out) 14 _ rfl
    have HX1 := Lib.hid (HX.out.on b1)
    have B1 := Lib.hid (bthen (Joins.below_alloc1 w _) b1)
    clear b1
    go_wp2
    go_loopw [3, 4] (fun s i wr => ∃ k : Nat, k ≤ n ∧ i = .int .i64 k ∧ wr = w1 ∧ ∃ z : Nat, s = .int .i64 z ∧ z ≤ 2 * k + 1048576 ∧ Hid (z = extsSize ((ys.map Ey.says).take k))) (fun s i _ => n - (intOf i).toNat)
    case atStart => exact ⟨0, Nat.zero_le _, rfl, rfl, 0, rfl, by omega, Lib.hid rfl⟩
    case round =>
      obtain ⟨k, hk, rfl, rfl, z, rfl, hzb, hze⟩ := hrel
      by_cases hlt : k < n
      · have hk2 : k < ys.length := by rw [HL.out]; exact hlt
        obtain ⟨g, o, rfl, hg, e0, e1⟩ := HX1.out.at_ hk2
        have hlen := Nat.le_trans (bodies_at ys k hk2) HB.out
        have hsum : Hid (extsSize ((ys.map Ey.says).take (k + 1)) = extsSize ((ys.map Ey.says).take k) + (2 + ys[k].bs.length)) := Lib.hid (by rw [extsSize_take (by simpa using hk2)]; simp [Ey.says])
        have hbound : Hid (extsSize ((ys.map Ey.says).take (k + 1)) ≤ 2 * (k + 1) + 1048576) := Lib.hid (by have := extsSize_le ys (k + 1); have := HB.out; omega)
        generalize ys[k] = y at *
        go_wp2
        go_roundw
        case rel => exact ⟨k + 1, by omega, (by first | (congr 1; omega) | go_num), (by first | rfl | trivial), z + (2 + y.bs.length), (by first | (congr 1; omega) | go_num), by rw [hze.out, ← hsum.out]; exact hbound.out, Lib.hid (by rw [hsum.out, ← hze.out])⟩
        case measure => simp [intOf]; omega
      · obtain rfl : k = n := by omega
        have HZ := Lib.hid (show z = extsSize (ys.map Ey.says) by have := hze.out; rw [List.take_of_length_le (by simp [HL.out])] at this; exact this)
        clear hze
        go_wp2
        go_ret
        exact ⟨ret_int (by rw [H.out, ← HZ.out]), B1.out⟩
end Go.Proofs.Ytegpaocoepcemaa
