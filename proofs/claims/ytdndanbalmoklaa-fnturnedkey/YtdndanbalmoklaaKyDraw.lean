/-
  The draws of a stream key: some key.
-/
import Derived.Test.YtdndanbalmoklaaDrawSt
import Derived.Test.YtdndanbalmoklaaKeyR
namespace Go.Proofs.Ytdndanbalmoklaa
set_option maxRecDepth 100000
open Go.RowKit

/-- What a draw of a stream key leaves. -/
def KyDrawn (w : World) (g : Nat) (A : Option Addr) (c : Nat) (bs : List UInt8) (t : Nat) (e : Ending) (w' : World) : Prop :=
  ∃ (x : Ky) (t' : Nat), e = .returned (.agg #[.int .i64 x.src.k, .int .i64 x.src.a, .int .i64 x.src.b, .int .i64 x.src.c, .int .i64 x.src.d, .int .i64 x.dst.k, .int .i64 x.dst.a, .int .i64 x.dst.b, .int .i64 x.dst.c, .int .i64 x.dst.d, .int .i64 x.proto, .int .i64 x.sport, .int .i64 x.dport]) ∧ t' ≤ t ∧ Cur w' g A c bs t' ∧ w.grownBy w' (some g)
theorem storeNewKy {ops : Array Oper} {rest : List Oper} {o : Oper} {a : Act} {w : World} {Q : Exit → Act → World → Prop} (hgd : o.guard = none) (x y : Operand) (ho : o.op = .store 55 x y) {n0 n1 n2 n3 n4 n5 n6 n7 n8 n9 n10 n11 n12 : Int} (hx : a.eval x = .pointer (some ⟨w.heap.size, 0, none⟩)) (hy : a.eval y = .agg #[.int .i64 n0, .int .i64 n1, .int .i64 n2, .int .i64 n3, .int .i64 n4, .int .i64 n5, .int .i64 n6, .int .i64 n7, .int .i64 n8, .int .i64 n9, .int .i64 n10, .int .i64 n11, .int .i64 n12])
    (h : wpList Try.prog ops Q rest (a.put o.dst undef) (w.alloc (.cells #[.int .i64 n0, .int .i64 n1, .int .i64 n2, .int .i64 n3, .int .i64 n4, .int .i64 n5, .int .i64 n6, .int .i64 n7, .int .i64 n8, .int .i64 n9, .int .i64 n10, .int .i64 n11, .int .i64 n12] 55))) : wpList Try.prog ops Q (o :: rest) a (w.alloc (.cells #[.int .i64 0, .int .i64 0, .int .i64 0, .int .i64 0, .int .i64 0, .int .i64 0, .int .i64 0, .int .i64 0, .int .i64 0, .int .i64 0, .int .i64 0, .int .i64 0, .int .i64 0] 55)) := by
  refine storeK hgd x y ho w.heap.size hx hy (K.new w _) ?_
  rw [World.setRow_alloc_new]
  exact h

set_option maxHeartbeats 8000000 in
theorem keyD (w : World) (g : Nat) (A : Option Addr) (c : Nat) (bs : List UInt8) (t : Nat) (hc : Cur w g A c bs t) (ht : t ≤ 400000000000) :
    Calls Try.prog 139 #[.pointer (some ⟨g, 0, none⟩)] w (KyDrawn w g A c bs (t + 500)) := by
  have hgw := hc.lt
  have D0 : Hid (DS0 55 w g A c bs w.heap.size #[.int .i64 0, .int .i64 0, .int .i64 0, .int .i64 0, .int .i64 0, .int .i64 0, .int .i64 0, .int .i64 0, .int .i64 0, .int .i64 0, .int .i64 0, .int .i64 0, .int .i64 0] t (w.alloc (.cells #[.int .i64 0, .int .i64 0, .int .i64 0, .int .i64 0, .int .i64 0, .int .i64 0, .int .i64 0, .int .i64 0, .int .i64 0, .int .i64 0, .int .i64 0, .int .i64 0, .int .i64 0] 55))) := Lib.hid ⟨hc.below (Joins.below_alloc1 w _), only_new (grown_refl w (some g)) _, K.new w _, ⟨hc.lt, Nat.le_refl _⟩⟩
  clear hc
  go_enter Try.func139, Try.ntmps139
  go_wp2_with fail
  refine (kindC _ g A c bs t D0.out.cur (by omega)).mono ?_
  rintro e w1 ⟨k1, rfl, hc1, hg1⟩
  have D1 := Lib.hid (D0.out.kept hg1 hc1)
  clear hc1 hg1 D0
  go_wp2_with fail
  refine (addrC _ g A c bs (t + 1) k1 D1.out.cur (by omega)).mono ?_
  rintro e w2 ⟨a2, t2, rfl, ht2, hc2, hg2⟩
  have D2 := Lib.hid (D1.out.kept hg2 hc2)
  clear hc2 hg2 D1
  go_wp2_with fail
  refine (addrC _ g A c bs t2 k1 D2.out.cur (by omega)).mono ?_
  rintro e w3 ⟨a3, t3, rfl, ht3, hc3, hg3⟩
  have D3 := Lib.hid (D2.out.kept hg3 hc3)
  clear hc3 hg3 D2
  have hz3 : g < w3.heap.size := D3.out.cur.lt
  have HL3 := Lib.hid (fun (j : Nat) (h : j < 4) => lit_cell w3 [(6), (17), (1), (47)] j h)
  go_wp2_with fail
  refine (pickC _ g A c bs t3 4 (by omega) (by omega) (D3.out.alloc _).cur (by omega)).mono ?_
  rintro e w4 ⟨y4, rfl, l4, h4, hc4, hg4⟩
  have D4 := Lib.hid ((D3.out.alloc _).kept hg4 hc4)
  obtain ⟨j4, rfl⟩ : ∃ q : Nat, y4 = q := ⟨y4.toNat, by omega⟩
  have j4b : (j4 : Int) < 4 := by omega
  obtain ⟨n4, hn4⟩ := HL3.out j4 (by omega)
  have hl4 : w4.cell? ⟨w3.heap.size, j4, none⟩ = some (.int .i64 n4) := lit_kept hg4 hn4 hz3
  clear hn4 HL3
  clear hc4 hg4 D3
  go_upto_region 3 with (with_reducible refine storeNewKy rfl _ _ rfl rfl rfl ?_)
  obtain ⟨x0, D4m⟩ : ∃ x : Ky, Hid (DS1 55 w g A c bs w.heap.size #[.int .i64 0, .int .i64 0, .int .i64 0, .int .i64 0, .int .i64 0, .int .i64 0, .int .i64 0, .int .i64 0, .int .i64 0, .int .i64 0, .int .i64 0, .int .i64 0, .int .i64 0] w4.heap.size #[.int .i64 x.src.k, .int .i64 x.src.a, .int .i64 x.src.b, .int .i64 x.src.c, .int .i64 x.src.d, .int .i64 x.dst.k, .int .i64 x.dst.a, .int .i64 x.dst.b, .int .i64 x.dst.c, .int .i64 x.dst.d, .int .i64 x.proto, .int .i64 x.sport, .int .i64 x.dport] (t3 + 1) (w4.alloc (.cells #[.int .i64 a2.k, .int .i64 a2.a, .int .i64 a2.b, .int .i64 a2.c, .int .i64 a2.d, .int .i64 a3.k, .int .i64 a3.a, .int .i64 a3.b, .int .i64 a3.c, .int .i64 a3.d, .int .i64 n4, .int .i64 0, .int .i64 0] 55))) := ⟨⟨a2, a3, n4, 0, 0⟩, Lib.hid (D4.out.made _)⟩
  have BB : Hid (w4.heap.size = w4.heap.size) := Lib.hid rfl
  skip
  generalize w4.alloc (.cells #[.int .i64 a2.k, .int .i64 a2.a, .int .i64 a2.b, .int .i64 a2.c, .int .i64 a2.d, .int .i64 a3.k, .int .i64 a3.a, .int .i64 a3.b, .int .i64 a3.c, .int .i64 a3.d, .int .i64 n4, .int .i64 0, .int .i64 0] 55) = w5 at D4m ⊢
  have D5 := D4m
  clear D4m D4 BB hl4
  have c10 := K.cell D5.out.row 10 _ rfl
  have f10 := frozen_of_row _ _ 10 _ _ D5.out.row
  cases h6 : (x0.proto == 6) with
  | true =>
    go_wp2_with fail
    refine (pickC _ g A c bs (t3 + 1) 6 (by omega) (by omega) D5.out.cur (by omega)).mono ?_
    rintro e w6 ⟨y6, rfl, l6, h6, hc6, hg6⟩
    have D6 := Lib.hid (D5.out.kept hg6 hc6)
    clear hc6 hg6 D5
    go_wp2_with fail
    refine (wideC _ g A c bs ((t3 + 1) + 1) 65536 (by omega) (by omega) D6.out.cur (by omega)).mono ?_
    rintro e w7 ⟨v7, rfl, l7, h7, hc7, hg7⟩
    have D7 := Lib.hid (D6.out.kept hg7 hc7)
    clear hc7 hg7 D6
    have hz7 : g < w7.heap.size := D7.out.cur.lt
    have HL7 := Lib.hid (fun (j : Nat) (h : j < 2) => lit_cell w7 [(1024 + y6), (v7)] j h)
    go_wp2_with fail
    refine (pickC _ g A c bs (((t3 + 1) + 1) + 3) 2 (by omega) (by omega) (D7.out.alloc _).cur (by omega)).mono ?_
    rintro e w8 ⟨y8, rfl, l8, h8, hc8, hg8⟩
    have D8 := Lib.hid ((D7.out.alloc _).kept hg8 hc8)
    obtain ⟨j8, rfl⟩ : ∃ q : Nat, y8 = q := ⟨y8.toNat, by omega⟩
    have j8b : (j8 : Int) < 2 := by omega
    obtain ⟨n8, hn8⟩ := HL7.out j8 (by omega)
    have hl8 : w8.cell? ⟨w7.heap.size, j8, none⟩ = some (.int .i64 n8) := lit_kept hg8 hn8 hz7
    clear hn8 HL7
    clear hc8 hg8 D7
    have c11 := K.cell D8.out.row 11 _ rfl
    have f11 := frozen_of_row _ _ 11 _ _ D8.out.row
    go_upto_region 5 with fail
    obtain ⟨x1, D9⟩ : ∃ x : Ky, Hid (DS1 55 w g A c bs w.heap.size #[.int .i64 0, .int .i64 0, .int .i64 0, .int .i64 0, .int .i64 0, .int .i64 0, .int .i64 0, .int .i64 0, .int .i64 0, .int .i64 0, .int .i64 0, .int .i64 0, .int .i64 0] w4.heap.size #[.int .i64 x.src.k, .int .i64 x.src.a, .int .i64 x.src.b, .int .i64 x.src.c, .int .i64 x.src.d, .int .i64 x.dst.k, .int .i64 x.dst.a, .int .i64 x.dst.b, .int .i64 x.dst.c, .int .i64 x.dst.d, .int .i64 x.proto, .int .i64 x.sport, .int .i64 x.dport] ((((t3 + 1) + 1) + 3) + 1) (w8.setCell ⟨w4.heap.size, 11, none⟩ (.int .i64 n8))) := ⟨⟨x0.src, x0.dst, x0.proto, n8, x0.dport⟩, Lib.hid (D8.out.set 11 (.int .i64 n8))⟩
    generalize w8.setCell ⟨w4.heap.size, 11, none⟩ (.int .i64 n8) = w9 at D9 ⊢
    clear D8 hl8 c11 f11
    go_wp2_with fail
    refine (wideC _ g A c bs ((((t3 + 1) + 1) + 3) + 1) 65536 (by omega) (by omega) D9.out.cur (by omega)).mono ?_
    rintro e w10 ⟨v10, rfl, l10, h10, hc10, hg10⟩
    have D10 := Lib.hid (D9.out.kept hg10 hc10)
    clear hc10 hg10 D9
    have hz10 : g < w10.heap.size := D10.out.cur.lt
    have HL10 := Lib.hid (fun (j : Nat) (h : j < 4) => lit_cell w10 [(80), (443), (53), (v10)] j h)
    go_wp2_with fail
    refine (pickC _ g A c bs (((((t3 + 1) + 1) + 3) + 1) + 3) 4 (by omega) (by omega) (D10.out.alloc _).cur (by omega)).mono ?_
    rintro e w11 ⟨y11, rfl, l11, h11, hc11, hg11⟩
    have D11 := Lib.hid ((D10.out.alloc _).kept hg11 hc11)
    obtain ⟨j11, rfl⟩ : ∃ q : Nat, y11 = q := ⟨y11.toNat, by omega⟩
    have j11b : (j11 : Int) < 4 := by omega
    obtain ⟨n11, hn11⟩ := HL10.out j11 (by omega)
    have hl11 : w11.cell? ⟨w10.heap.size, j11, none⟩ = some (.int .i64 n11) := lit_kept hg11 hn11 hz10
    clear hn11 HL10
    clear hc11 hg11 D10
    have c12 := K.cell D11.out.row 12 _ rfl
    have f12 := frozen_of_row _ _ 12 _ _ D11.out.row
    go_upto_region 6 with fail
    obtain ⟨x2, D12⟩ : ∃ x : Ky, Hid (DS1 55 w g A c bs w.heap.size #[.int .i64 0, .int .i64 0, .int .i64 0, .int .i64 0, .int .i64 0, .int .i64 0, .int .i64 0, .int .i64 0, .int .i64 0, .int .i64 0, .int .i64 0, .int .i64 0, .int .i64 0] w4.heap.size #[.int .i64 x.src.k, .int .i64 x.src.a, .int .i64 x.src.b, .int .i64 x.src.c, .int .i64 x.src.d, .int .i64 x.dst.k, .int .i64 x.dst.a, .int .i64 x.dst.b, .int .i64 x.dst.c, .int .i64 x.dst.d, .int .i64 x.proto, .int .i64 x.sport, .int .i64 x.dport] ((((((t3 + 1) + 1) + 3) + 1) + 3) + 1) (w11.setCell ⟨w4.heap.size, 12, none⟩ (.int .i64 n11))) := ⟨⟨x1.src, x1.dst, x1.proto, x1.sport, n11⟩, Lib.hid (D11.out.set 12 (.int .i64 n11))⟩
    generalize w11.setCell ⟨w4.heap.size, 12, none⟩ (.int .i64 n11) = w12 at D12 ⊢
    clear D11 hl11 c12 f12
    go_wp2_with (first | (with_reducible refine loadK rfl _ rfl (w4.heap.size) rfl D12.out.row ?_) | (with_reducible refine storeK rfl _ _ rfl w.heap.size rfl rfl D12.out.res ?_))
    (try simp only [Exit.inBlock, Exit.then])
    refine bodyPost_ret (v := .agg #[.int .i64 x2.src.k, .int .i64 x2.src.a, .int .i64 x2.src.b, .int .i64 x2.src.c, .int .i64 x2.src.d, .int .i64 x2.dst.k, .int .i64 x2.dst.a, .int .i64 x2.dst.b, .int .i64 x2.dst.c, .int .i64 x2.dst.d, .int .i64 x2.proto, .int .i64 x2.sport, .int .i64 x2.dport]) ?_ rfl ⟨x2, ((((((t3 + 1) + 1) + 3) + 1) + 3) + 1), rfl, by omega, (D12.out.ended _).1, (D12.out.ended _).2⟩
    exact resK Try.results139 _ _ w.heap.size rfl (setRow_heap _ _ _ _ _ _ D12.out.res)
  | false =>
    cases h17 : (x0.proto == 17) with
    | true =>
      go_wp2_with fail
      refine (pickC _ g A c bs (t3 + 1) 6 (by omega) (by omega) D5.out.cur (by omega)).mono ?_
      rintro e w6 ⟨y6, rfl, l6, h6, hc6, hg6⟩
      have D6 := Lib.hid (D5.out.kept hg6 hc6)
      clear hc6 hg6 D5
      go_wp2_with fail
      refine (wideC _ g A c bs ((t3 + 1) + 1) 65536 (by omega) (by omega) D6.out.cur (by omega)).mono ?_
      rintro e w7 ⟨v7, rfl, l7, h7, hc7, hg7⟩
      have D7 := Lib.hid (D6.out.kept hg7 hc7)
      clear hc7 hg7 D6
      have hz7 : g < w7.heap.size := D7.out.cur.lt
      have HL7 := Lib.hid (fun (j : Nat) (h : j < 2) => lit_cell w7 [(1024 + y6), (v7)] j h)
      go_wp2_with fail
      refine (pickC _ g A c bs (((t3 + 1) + 1) + 3) 2 (by omega) (by omega) (D7.out.alloc _).cur (by omega)).mono ?_
      rintro e w8 ⟨y8, rfl, l8, h8, hc8, hg8⟩
      have D8 := Lib.hid ((D7.out.alloc _).kept hg8 hc8)
      obtain ⟨j8, rfl⟩ : ∃ q : Nat, y8 = q := ⟨y8.toNat, by omega⟩
      have j8b : (j8 : Int) < 2 := by omega
      obtain ⟨n8, hn8⟩ := HL7.out j8 (by omega)
      have hl8 : w8.cell? ⟨w7.heap.size, j8, none⟩ = some (.int .i64 n8) := lit_kept hg8 hn8 hz7
      clear hn8 HL7
      clear hc8 hg8 D7
      have c11 := K.cell D8.out.row 11 _ rfl
      have f11 := frozen_of_row _ _ 11 _ _ D8.out.row
      go_upto_region 5 with fail
      obtain ⟨x1, D9⟩ : ∃ x : Ky, Hid (DS1 55 w g A c bs w.heap.size #[.int .i64 0, .int .i64 0, .int .i64 0, .int .i64 0, .int .i64 0, .int .i64 0, .int .i64 0, .int .i64 0, .int .i64 0, .int .i64 0, .int .i64 0, .int .i64 0, .int .i64 0] w4.heap.size #[.int .i64 x.src.k, .int .i64 x.src.a, .int .i64 x.src.b, .int .i64 x.src.c, .int .i64 x.src.d, .int .i64 x.dst.k, .int .i64 x.dst.a, .int .i64 x.dst.b, .int .i64 x.dst.c, .int .i64 x.dst.d, .int .i64 x.proto, .int .i64 x.sport, .int .i64 x.dport] ((((t3 + 1) + 1) + 3) + 1) (w8.setCell ⟨w4.heap.size, 11, none⟩ (.int .i64 n8))) := ⟨⟨x0.src, x0.dst, x0.proto, n8, x0.dport⟩, Lib.hid (D8.out.set 11 (.int .i64 n8))⟩
      generalize w8.setCell ⟨w4.heap.size, 11, none⟩ (.int .i64 n8) = w9 at D9 ⊢
      clear D8 hl8 c11 f11
      go_wp2_with fail
      refine (wideC _ g A c bs ((((t3 + 1) + 1) + 3) + 1) 65536 (by omega) (by omega) D9.out.cur (by omega)).mono ?_
      rintro e w10 ⟨v10, rfl, l10, h10, hc10, hg10⟩
      have D10 := Lib.hid (D9.out.kept hg10 hc10)
      clear hc10 hg10 D9
      have hz10 : g < w10.heap.size := D10.out.cur.lt
      have HL10 := Lib.hid (fun (j : Nat) (h : j < 4) => lit_cell w10 [(80), (443), (53), (v10)] j h)
      go_wp2_with fail
      refine (pickC _ g A c bs (((((t3 + 1) + 1) + 3) + 1) + 3) 4 (by omega) (by omega) (D10.out.alloc _).cur (by omega)).mono ?_
      rintro e w11 ⟨y11, rfl, l11, h11, hc11, hg11⟩
      have D11 := Lib.hid ((D10.out.alloc _).kept hg11 hc11)
      obtain ⟨j11, rfl⟩ : ∃ q : Nat, y11 = q := ⟨y11.toNat, by omega⟩
      have j11b : (j11 : Int) < 4 := by omega
      obtain ⟨n11, hn11⟩ := HL10.out j11 (by omega)
      have hl11 : w11.cell? ⟨w10.heap.size, j11, none⟩ = some (.int .i64 n11) := lit_kept hg11 hn11 hz10
      clear hn11 HL10
      clear hc11 hg11 D10
      have c12 := K.cell D11.out.row 12 _ rfl
      have f12 := frozen_of_row _ _ 12 _ _ D11.out.row
      go_upto_region 6 with fail
      obtain ⟨x2, D12⟩ : ∃ x : Ky, Hid (DS1 55 w g A c bs w.heap.size #[.int .i64 0, .int .i64 0, .int .i64 0, .int .i64 0, .int .i64 0, .int .i64 0, .int .i64 0, .int .i64 0, .int .i64 0, .int .i64 0, .int .i64 0, .int .i64 0, .int .i64 0] w4.heap.size #[.int .i64 x.src.k, .int .i64 x.src.a, .int .i64 x.src.b, .int .i64 x.src.c, .int .i64 x.src.d, .int .i64 x.dst.k, .int .i64 x.dst.a, .int .i64 x.dst.b, .int .i64 x.dst.c, .int .i64 x.dst.d, .int .i64 x.proto, .int .i64 x.sport, .int .i64 x.dport] ((((((t3 + 1) + 1) + 3) + 1) + 3) + 1) (w11.setCell ⟨w4.heap.size, 12, none⟩ (.int .i64 n11))) := ⟨⟨x1.src, x1.dst, x1.proto, x1.sport, n11⟩, Lib.hid (D11.out.set 12 (.int .i64 n11))⟩
      generalize w11.setCell ⟨w4.heap.size, 12, none⟩ (.int .i64 n11) = w12 at D12 ⊢
      clear D11 hl11 c12 f12
      go_wp2_with (first | (with_reducible refine loadK rfl _ rfl (w4.heap.size) rfl D12.out.row ?_) | (with_reducible refine storeK rfl _ _ rfl w.heap.size rfl rfl D12.out.res ?_))
      (try simp only [Exit.inBlock, Exit.then])
      refine bodyPost_ret (v := .agg #[.int .i64 x2.src.k, .int .i64 x2.src.a, .int .i64 x2.src.b, .int .i64 x2.src.c, .int .i64 x2.src.d, .int .i64 x2.dst.k, .int .i64 x2.dst.a, .int .i64 x2.dst.b, .int .i64 x2.dst.c, .int .i64 x2.dst.d, .int .i64 x2.proto, .int .i64 x2.sport, .int .i64 x2.dport]) ?_ rfl ⟨x2, ((((((t3 + 1) + 1) + 3) + 1) + 3) + 1), rfl, by omega, (D12.out.ended _).1, (D12.out.ended _).2⟩
      exact resK Try.results139 _ _ w.heap.size rfl (setRow_heap _ _ _ _ _ _ D12.out.res)
    | false =>
      go_wp2_with (first | (with_reducible refine loadK rfl _ rfl (w4.heap.size) rfl D5.out.row ?_) | (with_reducible refine storeK rfl _ _ rfl w.heap.size rfl rfl D5.out.res ?_))
      (try simp only [Exit.inBlock, Exit.then])
      refine bodyPost_ret (v := .agg #[.int .i64 x0.src.k, .int .i64 x0.src.a, .int .i64 x0.src.b, .int .i64 x0.src.c, .int .i64 x0.src.d, .int .i64 x0.dst.k, .int .i64 x0.dst.a, .int .i64 x0.dst.b, .int .i64 x0.dst.c, .int .i64 x0.dst.d, .int .i64 x0.proto, .int .i64 x0.sport, .int .i64 x0.dport]) ?_ rfl ⟨x0, (t3 + 1), rfl, by omega, (D5.out.ended _).1, (D5.out.ended _).2⟩
      exact resK Try.results139 _ _ w.heap.size rfl (setRow_heap _ _ _ _ _ _ D5.out.res)

set_option maxHeartbeats 8000000 in
theorem badKeyD (w : World) (g : Nat) (A : Option Addr) (c : Nat) (bs : List UInt8) (t : Nat) (hc : Cur w g A c bs t) (ht : t ≤ 300000000000) :
    Calls Try.prog 88 #[.pointer (some ⟨g, 0, none⟩)] w (KyDrawn w g A c bs (t + 1000)) := by
  have hgw := hc.lt
  have D0 : Hid (DS0 55 w g A c bs w.heap.size #[.int .i64 0, .int .i64 0, .int .i64 0, .int .i64 0, .int .i64 0, .int .i64 0, .int .i64 0, .int .i64 0, .int .i64 0, .int .i64 0, .int .i64 0, .int .i64 0, .int .i64 0] t (w.alloc (.cells #[.int .i64 0, .int .i64 0, .int .i64 0, .int .i64 0, .int .i64 0, .int .i64 0, .int .i64 0, .int .i64 0, .int .i64 0, .int .i64 0, .int .i64 0, .int .i64 0, .int .i64 0] 55))) := Lib.hid ⟨hc.below (Joins.below_alloc1 w _), only_new (grown_refl w (some g)) _, K.new w _, ⟨hc.lt, Nat.le_refl _⟩⟩
  clear hc
  go_enter Try.func88, Try.ntmps88
  go_wp2_with fail
  refine (keyD _ g A c bs t D0.out.cur (by omega)).mono ?_
  rintro e w1 ⟨r1, t1, rfl, ht1, hc1, hg1⟩
  have D1 := Lib.hid (D0.out.kept hg1 hc1)
  clear hc1 hg1 D0
  go_upto_region 2 with (with_reducible refine storeNewKy rfl _ _ rfl rfl rfl ?_)
  obtain ⟨x0, D1m⟩ : ∃ x : Ky, Hid (DS1 55 w g A c bs w.heap.size #[.int .i64 0, .int .i64 0, .int .i64 0, .int .i64 0, .int .i64 0, .int .i64 0, .int .i64 0, .int .i64 0, .int .i64 0, .int .i64 0, .int .i64 0, .int .i64 0, .int .i64 0] w1.heap.size #[.int .i64 x.src.k, .int .i64 x.src.a, .int .i64 x.src.b, .int .i64 x.src.c, .int .i64 x.src.d, .int .i64 x.dst.k, .int .i64 x.dst.a, .int .i64 x.dst.b, .int .i64 x.dst.c, .int .i64 x.dst.d, .int .i64 x.proto, .int .i64 x.sport, .int .i64 x.dport] t1 (w1.alloc (.cells #[.int .i64 r1.src.k, .int .i64 r1.src.a, .int .i64 r1.src.b, .int .i64 r1.src.c, .int .i64 r1.src.d, .int .i64 r1.dst.k, .int .i64 r1.dst.a, .int .i64 r1.dst.b, .int .i64 r1.dst.c, .int .i64 r1.dst.d, .int .i64 r1.proto, .int .i64 r1.sport, .int .i64 r1.dport] 55))) := ⟨r1, Lib.hid (D1.out.made _)⟩
  have BB : Hid (w1.heap.size = w1.heap.size) := Lib.hid rfl
  skip
  generalize w1.alloc (.cells #[.int .i64 r1.src.k, .int .i64 r1.src.a, .int .i64 r1.src.b, .int .i64 r1.src.c, .int .i64 r1.src.d, .int .i64 r1.dst.k, .int .i64 r1.dst.a, .int .i64 r1.dst.b, .int .i64 r1.dst.c, .int .i64 r1.dst.d, .int .i64 r1.proto, .int .i64 r1.sport, .int .i64 r1.dport] 55) = w2 at D1m ⊢
  have D2 := D1m
  clear D1m D1 BB 
  go_wp2_with fail
  refine (pickC _ g A c bs t1 9 (by omega) (by omega) D2.out.cur (by omega)).mono ?_
  rintro e w3 ⟨y3, rfl, l3, h3, hc3, hg3⟩
  have D3 := Lib.hid (D2.out.kept hg3 hc3)
  clear hc3 hg3 D2
  go_upto_block 0 with fail
  go_cut [] (fun wx => ∃ (x : Ky) (u : Nat), u ≤ t + 900 ∧ Hid (DS1 55 w g A c bs w.heap.size #[.int .i64 0, .int .i64 0, .int .i64 0, .int .i64 0, .int .i64 0, .int .i64 0, .int .i64 0, .int .i64 0, .int .i64 0, .int .i64 0, .int .i64 0, .int .i64 0, .int .i64 0] w1.heap.size #[.int .i64 x.src.k, .int .i64 x.src.a, .int .i64 x.src.b, .int .i64 x.src.c, .int .i64 x.src.d, .int .i64 x.dst.k, .int .i64 x.dst.a, .int .i64 x.dst.b, .int .i64 x.dst.c, .int .i64 x.dst.d, .int .i64 x.proto, .int .i64 x.sport, .int .i64 x.dport] u wx))
  case first =>
    by_cases e0 : y3 = 0
    · subst e0
      go_wp2_with fail
      refine (badAddrC _ g A c bs (t1 + 1) D3.out.cur (by omega)).mono ?_
      rintro e w4 ⟨a4, t4, rfl, ht4, hc4, hg4⟩
      have D4 := Lib.hid (D3.out.kept hg4 hc4)
      clear hc4 hg4 D3
      have c0 := K.cell D4.out.row 0 _ rfl
      have f0 := frozen_of_row _ _ 0 _ _ D4.out.row
      have c1 := K.cell D4.out.row 1 _ rfl
      have f1 := frozen_of_row _ _ 1 _ _ D4.out.row
      have c2 := K.cell D4.out.row 2 _ rfl
      have f2 := frozen_of_row _ _ 2 _ _ D4.out.row
      have c3 := K.cell D4.out.row 3 _ rfl
      have f3 := frozen_of_row _ _ 3 _ _ D4.out.row
      have c4 := K.cell D4.out.row 4 _ rfl
      have f4 := frozen_of_row _ _ 4 _ _ D4.out.row
      have DV := Lib.hid (((((D4.out.set 0 (.int .i64 a4.k)).set 1 (.int .i64 a4.a)).set 2 (.int .i64 a4.b)).set 3 (.int .i64 a4.c)).set 4 (.int .i64 a4.d))
      go_wp2_with fail
      go_meet
      exact ⟨⟨⟨a4.k, a4.a, a4.b, a4.c, a4.d⟩, x0.dst, x0.proto, x0.sport, x0.dport⟩, t4, by omega, DV⟩
    · by_cases e1 : y3 = 1
      · subst e1
        go_wp2_with fail
        refine (rawC _ g A c bs (t1 + 1) D3.out.cur (by omega)).mono ?_
        rintro e w4 ⟨z4, rfl, _, hc4, hg4⟩
        have D4 := Lib.hid (D3.out.kept hg4 hc4)
        clear hc4 hg4 D3
        have hz4 : g < w4.heap.size := D4.out.cur.lt
        have HL4 := Lib.hid (fun (j : Nat) (h : j < 3) => lit_cell w4 [(z4), (255), (256)] j h)
        go_wp2_with fail
        refine (pickC _ g A c bs ((t1 + 1) + 2) 3 (by omega) (by omega) (D4.out.alloc _).cur (by omega)).mono ?_
        rintro e w5 ⟨y5, rfl, l5, h5, hc5, hg5⟩
        have D5 := Lib.hid ((D4.out.alloc _).kept hg5 hc5)
        obtain ⟨j5, rfl⟩ : ∃ q : Nat, y5 = q := ⟨y5.toNat, by omega⟩
        have j5b : (j5 : Int) < 3 := by omega
        obtain ⟨n5, hn5⟩ := HL4.out j5 (by omega)
        have hl5 : w5.cell? ⟨w4.heap.size, j5, none⟩ = some (.int .i64 n5) := lit_kept hg5 hn5 hz4
        clear hn5 HL4
        clear hc5 hg5 D4
        have c10 := K.cell D5.out.row 10 _ rfl
        have f10 := frozen_of_row _ _ 10 _ _ D5.out.row
        have DV := Lib.hid (D5.out.set 10 (.int .i64 n5))
        go_wp2_with fail
        go_meet
        exact ⟨⟨x0.src, x0.dst, n5, x0.sport, x0.dport⟩, (((t1 + 1) + 2) + 1), by omega, DV⟩
      · by_cases e2 : y3 = 2
        · subst e2
          go_wp2_with fail
          refine (rawC _ g A c bs (t1 + 1) D3.out.cur (by omega)).mono ?_
          rintro e w4 ⟨z4, rfl, _, hc4, hg4⟩
          have D4 := Lib.hid (D3.out.kept hg4 hc4)
          clear hc4 hg4 D3
          have c11 := K.cell D4.out.row 11 _ rfl
          have f11 := frozen_of_row _ _ 11 _ _ D4.out.row
          have DV := Lib.hid (D4.out.set 11 (.int .i64 z4))
          go_wp2_with fail
          go_meet
          exact ⟨⟨x0.src, x0.dst, x0.proto, z4, x0.dport⟩, ((t1 + 1) + 2), by omega, DV⟩
        · by_cases e3 : y3 = 3
          · subst e3
            have hz3 : g < w3.heap.size := D3.out.cur.lt
            have HL3 := Lib.hid (fun (j : Nat) (h : j < 2) => lit_cell w3 [(65535), (65536)] j h)
            go_wp2_with fail
            refine (pickC _ g A c bs (t1 + 1) 2 (by omega) (by omega) (D3.out.alloc _).cur (by omega)).mono ?_
            rintro e w4 ⟨y4, rfl, l4, h4, hc4, hg4⟩
            have D4 := Lib.hid ((D3.out.alloc _).kept hg4 hc4)
            obtain ⟨j4, rfl⟩ : ∃ q : Nat, y4 = q := ⟨y4.toNat, by omega⟩
            have j4b : (j4 : Int) < 2 := by omega
            obtain ⟨n4, hn4⟩ := HL3.out j4 (by omega)
            have hl4 : w4.cell? ⟨w3.heap.size, j4, none⟩ = some (.int .i64 n4) := lit_kept hg4 hn4 hz3
            clear hn4 HL3
            clear hc4 hg4 D3
            have c12 := K.cell D4.out.row 12 _ rfl
            have f12 := frozen_of_row _ _ 12 _ _ D4.out.row
            have DV := Lib.hid (D4.out.set 12 (.int .i64 n4))
            go_wp2_with fail
            go_meet
            exact ⟨⟨x0.src, x0.dst, x0.proto, x0.sport, n4⟩, ((t1 + 1) + 1), by omega, DV⟩
          · go_wp2_with fail
            go_meet
            exact ⟨x0, (t1 + 1), by omega, D3⟩
  case rest =>
  obtain ⟨x30, t30, ht30, D30⟩ := hcut
  go_wp2_with (first | (with_reducible refine loadK rfl _ rfl (w1.heap.size) rfl D30.out.row ?_) | (with_reducible refine storeK rfl _ _ rfl w.heap.size rfl rfl D30.out.res ?_))
  (try simp only [Exit.inBlock, Exit.then])
  refine bodyPost_ret (v := .agg #[.int .i64 x30.src.k, .int .i64 x30.src.a, .int .i64 x30.src.b, .int .i64 x30.src.c, .int .i64 x30.src.d, .int .i64 x30.dst.k, .int .i64 x30.dst.a, .int .i64 x30.dst.b, .int .i64 x30.dst.c, .int .i64 x30.dst.d, .int .i64 x30.proto, .int .i64 x30.sport, .int .i64 x30.dport]) ?_ rfl ⟨x30, t30, rfl, by omega, (D30.out.ended _).1, (D30.out.ended _).2⟩
  exact resK Try.results88 _ _ w.heap.size rfl (setRow_heap _ _ _ _ _ _ D30.out.res)
end Go.Proofs.Ytdndanbalmoklaa
