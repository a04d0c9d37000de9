/-
  The bytes of an IPv6 packet; what follows an extension header, in the program and in the model.
-/
import Derived.Test.YtegpaocoepcemaaSixSize
import Derived.Test.YtegpaocoepcemaaFourHead
namespace Go.Proofs.Ytegpaocoepcemaa
set_option maxRecDepth 100000
open Go.RowKit

/-- What kind is behind the first i extension headers? -/
def nextKind (es : List (Int × List UInt8)) (p : Int) (i : Nat) : Int := match es[i]? with
  | some e => e.1
  | none => p
/-- The bytes of the first k extension headers. -/
def extsAcc (es : List (Int × List UInt8)) (p : Int) : Nat → List UInt8
  | 0 => []
  | k + 1 => extsAcc es p k ++ match es[k]? with
    | some e => [byteOf (nextKind es p (k + 1)), byteOf ((2 + (e.2.length : Int)) / 8 - 1)] ++ e.2
    | none => []
def Sh.head (x : Sh) (es : List (Int × List UInt8)) (m : Nat) : List UInt8 :=
  put32 (1610612736 + x.cls * 1048576 + x.label) ++ put16 ((extsSize es : Nat) + (m : Int)) ++ [byteOf (nextKind es x.proto 0), byteOf x.hops] ++ x.src.bytes ++ x.dst.bytes
def Sh.bytes (x : Sh) (es : List (Int × List UInt8)) (bs : List UInt8) : List UInt8 := if x.ok es bs.length then x.head es bs.length ++ extsAcc es x.proto es.length ++ bs else []

theorem extsAcc_succ {es : List (Int × List UInt8)} {p : Int} {k : Nat} (h : k < es.length) : extsAcc es p (k + 1) = extsAcc es p k ++ [byteOf (nextKind es p (k + 1)), byteOf ((2 + (es[k].2.length : Int)) / 8 - 1)] ++ es[k].2 := by
  simp only [extsAcc, List.getElem?_eq_getElem h, List.append_assoc]
theorem extsAcc_length {es : List (Int × List UInt8)} {p : Int} : ∀ {k : Nat}, k ≤ es.length → (extsAcc es p k).length = extsSize (es.take k)
  | 0, _ => rfl
  | k + 1, h => by
    rw [extsAcc_succ h, extsSize_take h, List.length_append, List.length_append, extsAcc_length (Nat.le_of_succ_le h)]
    simp
    omega
theorem nextKind_small {es : List (Int × List UInt8)} {p : Int} (h : extsFrom 0 es = true) (hp : 0 ≤ p ∧ p ≤ 255) (i : Nat) : 0 ≤ nextKind es p i ∧ nextKind es p i ≤ 255 := by
  unfold nextKind
  split
  · rename_i e he
    have hi : i < es.length := (List.getElem?_eq_some_iff.1 he).1
    have h1 := extsFrom_prefix (i + 1) 0 h
    rw [extsFrom_take hi, Bool.and_eq_true] at h1
    have h2 := h1.2
    rw [List.getElem?_eq_getElem hi] at he
    obtain rfl := Option.some.inj he
    simp only [extOk, Bool.and_eq_true, inner_iff] at h2
    omega
  · exact hp
theorem Sh.ok_iff (x : Sh) (es : List (Int × List UInt8)) (m : Nat) : x.ok es m = true ↔ ((0 ≤ x.cls ∧ x.cls ≤ 255) ∧ (0 ≤ x.label ∧ x.label ≤ 1048575) ∧ (0 ≤ x.hops ∧ x.hops ≤ 255) ∧ (0 ≤ x.proto ∧ x.proto ≤ 255) ∧ inner x.proto = false) ∧ adOk6 x.src = true ∧ adOk6 x.dst = true ∧ (es.length ≤ 3 ∧ extsFrom 0 es = true) ∧ (m : Int) ≤ 1460 - extsSize es := by
  simp only [Sh.ok, Sh.small, extsOk, upTo, Bool.and_eq_true, decide_eq_true_eq, Bool.not_eq_true', and_assoc]
theorem adOk6_bytes {x : Ad} (h : adOk6 x = true) : x.bytes.length = 16 := by
  simp only [adOk6, Bool.and_eq_true, decide_eq_true_eq] at h
  simp [Ad.bytes, h.1, h.2, Ad.whole, put32]
theorem Sh.head_length {x : Sh} {es : List (Int × List UInt8)} {m : Nat} (h : x.ok es m = true) : (x.head es m).length = 40 := by
  have h2 := (x.ok_iff es m).1 h
  simp only [Sh.head, List.length_append, adOk6_bytes h2.2.1, adOk6_bytes h2.2.2.1]
  rfl
theorem Sh.bytes_length (x : Sh) (es : List (Int × List UInt8)) (bs : List UInt8) : (x.bytes es bs).length ≤ 1500 := by
  unfold Sh.bytes
  split
  · rename_i h
    have h2 := ((x.ok_iff es bs.length).1 h).2.2.2.2
    rw [List.length_append, List.length_append, Sh.head_length h, extsAcc_length (Nat.le_refl _), List.take_of_length_le (Nat.le_refl _)]
    omega
  · simp

set_option maxHeartbeats 400000 in
theorem nextI (x : Sh) (A D : Option Addr) (n c m d : Nat) (ys : List Ey) (i : Nat) (z : Int) (hz : z = i) (w : World) (hx : XR w w.heap.size A ys) (hl : ys.length = n) : Calls Try.prog 60 #[.agg #[.int .i64 x.cls, .int .i64 x.label, .int .i64 x.hops, .int .i64 x.proto, .int .i64 x.src.k, .int .i64 x.src.a, .int .i64 x.src.b, .int .i64 x.src.c, .int .i64 x.src.d, .int .i64 x.dst.k, .int .i64 x.dst.a, .int .i64 x.dst.b, .int .i64 x.dst.c, .int .i64 x.dst.d, .slice A n c, .slice D m d], .int .i64 z] w fun e w' => e = .returned (.int .i64 (nextKind (ys.map Ey.says) x.proto i)) ∧ Below w.heap.size w w' := by
  subst hz
  have HX := Lib.hid (hx.on (Joins.below_alloc1 w (.cells #[.int .i64 x.cls, .int .i64 x.label, .int .i64 x.hops, .int .i64 x.proto, .int .i64 x.src.k, .int .i64 x.src.a, .int .i64 x.src.b, .int .i64 x.src.c, .int .i64 x.src.d, .int .i64 x.dst.k, .int .i64 x.dst.a, .int .i64 x.dst.b, .int .i64 x.dst.c, .int .i64 x.dst.d, .slice A n c, .slice D m d] 36)))
  clear hx
  by_cases hi : i < n
  · have hi2 : i < ys.length := by omega
    have H := Lib.hid (show nextKind (ys.map Ey.says) x.proto i = ys[i].k by simp [nextKind, hi2, Ey.says])
    obtain ⟨g, o, rfl, hg, e0, e1⟩ := HX.out.at_ hi2
    clear hl
    go_enter Try.func60, Try.ntmps60
    go_wp2
    go_ret
    exact ⟨ret_int H.out.symm, by go_grown⟩
  · have H := Lib.hid (show nextKind (ys.map Ey.says) x.proto i = x.proto by simp [nextKind, List.getElem?_eq_none (show ys.length ≤ i by omega)])
    clear hl
    go_enter Try.func60, Try.ntmps60
    go_wp2
    go_ret
    exact ⟨ret_int H.out.symm, by go_grown⟩

set_option maxHeartbeats 400000 in
theorem nextS (x : Sh) (A D : Option Addr) (n c m d : Nat) (ys : List Ey) (i : Nat) (z : Int) (hz : z = i) (w : World) (hx : XR w w.heap.size A ys) (hl : ys.length = n) (K : Int) (hk : nextKind (ys.map Ey.says) x.proto i = K) (h0 : 0 ≤ K) (h1 : K ≤ 255) : Calls Try.prog 56 #[.agg #[.int .i64 x.cls, .int .i64 x.label, .int .i64 x.hops, .int .i64 x.proto, .int .i64 x.src.k, .int .i64 x.src.a, .int .i64 x.src.b, .int .i64 x.src.c, .int .i64 x.src.d, .int .i64 x.dst.k, .int .i64 x.dst.a, .int .i64 x.dst.b, .int .i64 x.dst.c, .int .i64 x.dst.d, .slice A n c, .slice D m d], .int .i64 z] w fun e w' => e = .returned (.int .u8 K) ∧ Below w.heap.size w w' := by
  subst hz
  have HX := Lib.hid (hx.on (Joins.below_alloc1 w (.cells #[.int .i64 x.cls, .int .i64 x.label, .int .i64 x.hops, .int .i64 x.proto, .int .i64 x.src.k, .int .i64 x.src.a, .int .i64 x.src.b, .int .i64 x.src.c, .int .i64 x.src.d, .int .i64 x.dst.k, .int .i64 x.dst.a, .int .i64 x.dst.b, .int .i64 x.dst.c, .int .i64 x.dst.d, .slice A n c, .slice D m d] 36)))
  clear hx
  by_cases hi : i < n
  · have hi2 : i < ys.length := by omega
    have H : ys[i].k = K := by rw [← hk]; simp [nextKind, hi2, Ey.says]
    obtain ⟨g, o, rfl, hg, e0, e1⟩ := HX.out.at_ hi2
    rw [H] at e0
    clear hl hk H
    go_enter Try.func56, Try.ntmps56
    go_wp2
    go_ret
    exact ⟨rfl, by go_grown⟩
  · have H : x.proto = K := by rw [← hk]; simp [nextKind, List.getElem?_eq_none (show ys.length ≤ i by omega)]
    have H2 := Lib.hid H
    have h2 : 0 ≤ x.proto := by omega
    have h3 : x.proto ≤ 255 := by omega
    clear hl hk H
    go_enter Try.func56, Try.ntmps56
    go_wp2
    go_ret
    exact ⟨ret_int H2.out, by go_grown⟩
end Go.Proofs.Ytegpaocoepcemaa
