/-
  An IPv6 packet is read by the model: where its fixed part is right.
-/
import Derived.Test.YtkmijefheejcjaaKq20
import Derived.Test.YtkmijefheejcjaaKq21
import Derived.Deep.Cut
namespace Go.Proofs.Ytkmijefheejcjaa
set_option maxRecDepth 100000
open Go.RowKit

theorem tot6_ver {bs : List UInt8} (h : tot6 bs = 0) : num bs 0 1 / 16 = 6 := by
  unfold tot6 at h
  split at h
  · cases h
  · split at h
    · cases h
    · split at h
      · cases h
      · rename_i h3
        exact Decidable.not_not.1 h3

set_option maxRecDepth 100000 in
set_option maxHeartbeats 16000000 in
theorem readS6_yes (a : Addr) (n c : Nat) (bs : List UInt8) (w : World) (hr : RB w w.heap.size (some a) bs) (hl : bs.length = n) (hc : n ≤ c) (hT : tot6 bs = 0) : Calls Try.prog 29 #[.slice (some a) n c] w (SROut bs w) := by
  obtain ⟨f1, f2, f3, f4, f5⟩ := tot6_zero hT
  have fv := tot6_ver hT
  rw [hl] at f1 f2 f4
  obtain ⟨gg, oo, ea, hg, c0⟩ := hr.at_ (k := 0) (by omega)
  injection ea with ea
  subst ea
  obtain ⟨g1, o1, ea1, _, c6⟩ := hr.at_ (k := 6) (by omega)
  obtain ⟨rfl, rfl⟩ : gg = g1 ∧ oo = o1 := by injection ea1 with ea1; injection ea1 with h1 h2; exact ⟨h1, h2⟩
  obtain ⟨g1, o1, ea7, _, c7⟩ := hr.at_ (k := 7) (by omega)
  obtain ⟨rfl, rfl⟩ : gg = g1 ∧ oo = o1 := by injection ea7 with ea1; injection ea1 with h1 h2; exact ⟨h1, h2⟩
  rw [← num_one bs 0 (by omega), Nat.add_zero] at c0
  rw [← num_one bs 6 (by omega)] at c6
  rw [← num_one bs 7 (by omega)] at c7
  have hb0 := num_lt1 bs 0
  have hb6 := num_lt1 bs 6
  have hb7 := num_lt1 bs 7
  have hw4 : num bs 0 4 < 4294967296 := num_lt4 bs 0
  have hsz := num_lt2 bs 4
  have HT := Lib.hid hT
  obtain ⟨b0, e0⟩ : ∃ v, num bs 0 1 = v := ⟨_, rfl⟩
  obtain ⟨k6, e6⟩ : ∃ v, num bs 6 1 = v := ⟨_, rfl⟩
  obtain ⟨v7, e7⟩ : ∃ v, num bs 7 1 = v := ⟨_, rfl⟩
  obtain ⟨W4, eW⟩ : ∃ v, num bs 0 4 = v := ⟨_, rfl⟩
  obtain ⟨sz, es⟩ : ∃ v, num bs 4 2 = v := ⟨_, rfl⟩
  have et : sEnd bs = 40 + sz := by rw [← es]; rfl
  obtain ⟨x8, ex8⟩ : ∃ x, ofA ((bs.drop 8).take 16) = x := ⟨_, rfl⟩
  obtain ⟨x24, ex24⟩ : ∃ x, ofA ((bs.drop 24).take 16) = x := ⟨_, rfl⟩
  have HX := Lib.hid (show ∀ kind : Nat, sx0 bs kind = (⟨(W4 : Int) / 1048576 % 256, (W4 : Int) % 1048576, v7, kind, x8, x24⟩ : Sh) from fun kind => by unfold sx0; rw [eW, e7, ex8, ex24]; congr 1)
  rw [e0] at c0 hb0 fv
  rw [e6] at c6 hb6
  rw [e7] at c7 hb7
  rw [eW] at hw4
  rw [es] at hsz
  rw [et] at f3 f4 f5
  have HE := Lib.hid (And.intro es (And.intro et (And.intro eW (And.intro e6 (And.intro ex8 ex24)))))
  have HR := Lib.hid hr
  have HL := Lib.hid hl
  have HC := Lib.hid (And.intro c6 c7)
  obtain ⟨S8, S8h⟩ : ∃ S : Option Addr, (if c = 8 then (some ⟨gg, oo, none⟩ : Option Addr) else (some (⟨gg, oo, none⟩ : Addr)).map (·.add (8 * 1))) = S := ⟨_, rfl⟩
  obtain ⟨S24, S24h⟩ : ∃ S : Option Addr, (if c = 24 then (some ⟨gg, oo, none⟩ : Option Addr) else (some (⟨gg, oo, none⟩ : Addr)).map (·.add (24 * 1))) = S := ⟨_, rfl⟩
  have S8h := Lib.hid S8h
  have S24h := Lib.hid S24h
  have hv6 : (b0 : Int) / 16 = 6 := by omega
  have d0 := cell_on (Joins.below_alloc1 w (.cells #[.int .i64 0, .int .i64 0, .int .i64 0, .int .i64 0, .int .i64 0, .int .i64 0, .int .i64 0, .int .i64 0, .int .i64 0, .int .i64 0, .int .i64 0, .int .i64 0, .int .i64 0, .int .i64 0, .slice none 0 0, .slice none 0 0] 28)) c0
  have z0 := Lib.hid (K.new w (.cells #[.int .i64 0, .int .i64 0, .int .i64 0, .int .i64 0, .int .i64 0, .int .i64 0, .int .i64 0, .int .i64 0, .int .i64 0, .int .i64 0, .int .i64 0, .int .i64 0, .int .i64 0, .int .i64 0, .slice none 0 0, .slice none 0 0] 28))
  have B0 : Hid (Below w.heap.size w (w.alloc (.cells #[.int .i64 0, .int .i64 0, .int .i64 0, .int .i64 0, .int .i64 0, .int .i64 0, .int .i64 0, .int .i64 0, .int .i64 0, .int .i64 0, .int .i64 0, .int .i64 0, .int .i64 0, .int .i64 0, .slice none 0 0, .slice none 0 0] 28))) := Lib.hid (Joins.below_alloc1 w _)
  clear hT hr hl e0 e6 e7 eW es et ex8 ex24 c0 c6 c7 ea1 ea7 fv
  go_enter Try.func29, Try.ntmps29
  go_wp2_with fail
  refine Calls.mono (be16L (some ⟨gg, oo, none⟩) n c bs 4 sz _ ((HR.out.below B0.out).more B0.out.size) HL.out (by omega) (by omega) HE.out.1) ?_
  rintro e w1 ⟨rfl, b1⟩
  have z1 := Lib.hid (K.below b1 z0.out)
  have B1 := Lib.hid (bthen B0.out b1)
  clear b1 z0 B0 d0
  have g3 : 40 + (sz : Int) ≤ 1500 := by omega
  have g4 : 40 + (sz : Int) ≤ n := by omega
  go_wp2_with fail
  refine Calls.mono (specBe32 (some ⟨gg, oo, none⟩) n c bs 0 _ ((HR.out.below B1.out).more B1.out.size) HL.out (by omega) (by omega)) ?_
  rintro e w2 ⟨rfl, b2⟩
  simp only [show be ((bs.drop 0).take 4) = W4 from HE.out.2.2.1]
  have z2 := Lib.hid (K.below b2 z1.out)
  have B2 := Lib.hid (bthen B1.out b2)
  clear b2 z1 B1
  have d7 := cell_on (B2.out.mono (Nat.le_refl _)) HC.out.2
  have hq1 : IntKind.i64.wrap ((W4 : Int) / 1048576) = (W4 : Int) / 1048576 := by rw [IntKind.wrap_i64]; omega
  have h8 : ∀ w, (Instr.sliceAt 22 (.slice (some ⟨gg, oo, none⟩) n c) (some (.int .i64 8)) (some (.int .i64 24)) none).run Try.prog w = .ok (.slice S8 16 (c - 8)) w := fun w => S8h.out ▸ cut_mid _ n c 8 16 24 rfl (by omega) w
  go_wp2_with (with_reducible refine storeNewS rfl _ _ rfl rfl rfl ?_)
  clear h8 d7 hq1
  refine Calls.mono (specAddrOf S8 16 (c - 8) ((bs.drop 8).take 16) _ (S8h.out ▸ (((HR.out.below (bthen B2.out (Joins.below_alloc1 w2 _))).more (bthen B2.out (Joins.below_alloc1 w2 _)).size).back 8 c (by rw [HL.out]; exact hc)).front 16) (by rw [List.length_take, List.length_drop, HL.out]; omega) (by omega)) ?_
  rintro e w3 ⟨rfl, b3⟩
  rw [HE.out.2.2.2.2.1]
  obtain ⟨b, hb⟩ : ∃ b, w2.heap.size = b := ⟨_, rfl⟩
  have lb : w.heap.size < b := by have := K.lt z2.out; omega
  have p3 : Hid (w3.heap[b]? = some (.cells #[.int .i64 ((W4 : Int) / 1048576 % 256), .int .i64 ((W4 : Int) % 1048576), .int .i64 (v7 : Int), .int .i64 0, .int .i64 0, .int .i64 0, .int .i64 0, .int .i64 0, .int .i64 0, .int .i64 0, .int .i64 0, .int .i64 0, .int .i64 0, .int .i64 0, .slice none 0 0, .slice none 0 0] 28 (0, 0))) := Lib.hid (hb ▸ K.newB b3)
  have y3_ := Lib.hid (K.below b3 (K.old z2.out (.cells #[.int .i64 ((W4 : Int) / 1048576 % 256), .int .i64 ((W4 : Int) % 1048576), .int .i64 (v7 : Int), .int .i64 0, .int .i64 0, .int .i64 0, .int .i64 0, .int .i64 0, .int .i64 0, .int .i64 0, .int .i64 0, .int .i64 0, .int .i64 0, .int .i64 0, .slice none 0 0, .slice none 0 0] 28)))
  have F3 := Lib.hid (bthen (bthen B2.out (Joins.below_alloc1 w2 (.cells #[.int .i64 ((W4 : Int) / 1048576 % 256), .int .i64 ((W4 : Int) % 1048576), .int .i64 (v7 : Int), .int .i64 0, .int .i64 0, .int .i64 0, .int .i64 0, .int .i64 0, .int .i64 0, .int .i64 0, .int .i64 0, .int .i64 0, .int .i64 0, .int .i64 0, .slice none 0 0, .slice none 0 0] 28))) b3)
  simp only [hb]
  clear b3 z2 B2 hb
  have u4 := K.cell p3.out 4 _ rfl
  have y4 := frozen_of_row _ _ 4 _ _ p3.out
  have u5 := K.cell p3.out 5 _ rfl
  have y5 := frozen_of_row _ _ 5 _ _ p3.out
  have u6 := K.cell p3.out 6 _ rfl
  have y6 := frozen_of_row _ _ 6 _ _ p3.out
  have u7 := K.cell p3.out 7 _ rfl
  have y7 := frozen_of_row _ _ 7 _ _ p3.out
  have u8 := K.cell p3.out 8 _ rfl
  have y8 := frozen_of_row _ _ 8 _ _ p3.out
  have q3 : Hid ((((((w3.setCell ⟨b, 4, none⟩ (.int .i64 x8.k)).setCell ⟨b, 5, none⟩ (.int .i64 x8.a)).setCell ⟨b, 6, none⟩ (.int .i64 x8.b)).setCell ⟨b, 7, none⟩ (.int .i64 x8.c)).setCell ⟨b, 8, none⟩ (.int .i64 x8.d)).heap[b]? = some (.cells #[.int .i64 ((W4 : Int) / 1048576 % 256), .int .i64 ((W4 : Int) % 1048576), .int .i64 (v7 : Int), .int .i64 0, .int .i64 x8.k, .int .i64 x8.a, .int .i64 x8.b, .int .i64 x8.c, .int .i64 x8.d, .int .i64 0, .int .i64 0, .int .i64 0, .int .i64 0, .int .i64 0, .slice none 0 0, .slice none 0 0] 28 (0, 0))) := Lib.hid (K.set (K.set (K.set (K.set (K.set p3.out 4 _) 5 _) 6 _) 7 _) 8 _)
  have z3 : Hid ((((((w3.setCell ⟨b, 4, none⟩ (.int .i64 x8.k)).setCell ⟨b, 5, none⟩ (.int .i64 x8.a)).setCell ⟨b, 6, none⟩ (.int .i64 x8.b)).setCell ⟨b, 7, none⟩ (.int .i64 x8.c)).setCell ⟨b, 8, none⟩ (.int .i64 x8.d)).heap[w.heap.size]? = some (.cells #[.int .i64 0, .int .i64 0, .int .i64 0, .int .i64 0, .int .i64 0, .int .i64 0, .int .i64 0, .int .i64 0, .int .i64 0, .int .i64 0, .int .i64 0, .int .i64 0, .int .i64 0, .int .i64 0, .slice none 0 0, .slice none 0 0] 28 (0, 0))) := Lib.hid (K.setFrom_other [(.int .i64 x8.k), (.int .i64 x8.a), (.int .i64 x8.b), (.int .i64 x8.c), (.int .i64 x8.d)] 4 y3_.out (by omega))
  have B3 : Hid (Below w.heap.size w (((((w3.setCell ⟨b, 4, none⟩ (.int .i64 x8.k)).setCell ⟨b, 5, none⟩ (.int .i64 x8.a)).setCell ⟨b, 6, none⟩ (.int .i64 x8.b)).setCell ⟨b, 7, none⟩ (.int .i64 x8.c)).setCell ⟨b, 8, none⟩ (.int .i64 x8.d))) := Lib.hid (K.setFrom_below [(.int .i64 x8.k), (.int .i64 x8.a), (.int .i64 x8.b), (.int .i64 x8.c), (.int .i64 x8.d)] 4 F3.out (by omega))
  have h24 : ∀ w, (Instr.sliceAt 22 (.slice (some ⟨gg, oo, none⟩) n c) (some (.int .i64 24)) (some (.int .i64 40)) none).run Try.prog w = .ok (.slice S24 16 (c - 24)) w := fun w => S24h.out ▸ cut_mid _ n c 24 16 40 rfl (by omega) w
  go_wp2_with fail
  clear h24 u4 y4 u5 y5 u6 y6 u7 y7 u8 y8 p3 y3_ F3
  refine Calls.mono (specAddrOf S24 16 (c - 24) ((bs.drop 24).take 16) _ (S24h.out ▸ (((HR.out.below B3.out).more B3.out.size).back 24 c (by rw [HL.out]; exact hc)).front 16) (by rw [List.length_take, List.length_drop, HL.out]; omega) (by omega)) ?_
  rintro e w4 ⟨rfl, b4⟩
  rw [HE.out.2.2.2.2.2]
  have p4 := Lib.hid (K.below b4 q3.out)
  have y4_ := Lib.hid (K.below b4 z3.out)
  have F4 := Lib.hid (bthen B3.out b4)
  clear b4 q3 z3 B3
  have u9 := K.cell p4.out 9 _ rfl
  have y9 := frozen_of_row _ _ 9 _ _ p4.out
  have u10 := K.cell p4.out 10 _ rfl
  have y10 := frozen_of_row _ _ 10 _ _ p4.out
  have u11 := K.cell p4.out 11 _ rfl
  have y11 := frozen_of_row _ _ 11 _ _ p4.out
  have u12 := K.cell p4.out 12 _ rfl
  have y12 := frozen_of_row _ _ 12 _ _ p4.out
  have u13 := K.cell p4.out 13 _ rfl
  have y13 := frozen_of_row _ _ 13 _ _ p4.out
  have q4 : Hid ((((((w4.setCell ⟨b, 9, none⟩ (.int .i64 x24.k)).setCell ⟨b, 10, none⟩ (.int .i64 x24.a)).setCell ⟨b, 11, none⟩ (.int .i64 x24.b)).setCell ⟨b, 12, none⟩ (.int .i64 x24.c)).setCell ⟨b, 13, none⟩ (.int .i64 x24.d)).heap[b]? = some (.cells #[.int .i64 ((W4 : Int) / 1048576 % 256), .int .i64 ((W4 : Int) % 1048576), .int .i64 (v7 : Int), .int .i64 0, .int .i64 x8.k, .int .i64 x8.a, .int .i64 x8.b, .int .i64 x8.c, .int .i64 x8.d, .int .i64 x24.k, .int .i64 x24.a, .int .i64 x24.b, .int .i64 x24.c, .int .i64 x24.d, .slice none 0 0, .slice none 0 0] 28 (0, 0))) := Lib.hid (K.set (K.set (K.set (K.set (K.set p4.out 9 _) 10 _) 11 _) 12 _) 13 _)
  have z4 : Hid ((((((w4.setCell ⟨b, 9, none⟩ (.int .i64 x24.k)).setCell ⟨b, 10, none⟩ (.int .i64 x24.a)).setCell ⟨b, 11, none⟩ (.int .i64 x24.b)).setCell ⟨b, 12, none⟩ (.int .i64 x24.c)).setCell ⟨b, 13, none⟩ (.int .i64 x24.d)).heap[w.heap.size]? = some (.cells #[.int .i64 0, .int .i64 0, .int .i64 0, .int .i64 0, .int .i64 0, .int .i64 0, .int .i64 0, .int .i64 0, .int .i64 0, .int .i64 0, .int .i64 0, .int .i64 0, .int .i64 0, .int .i64 0, .slice none 0 0, .slice none 0 0] 28 (0, 0))) := Lib.hid (K.setFrom_other [(.int .i64 x24.k), (.int .i64 x24.a), (.int .i64 x24.b), (.int .i64 x24.c), (.int .i64 x24.d)] 9 y4_.out (by omega))
  have B4 : Hid (Below w.heap.size w (((((w4.setCell ⟨b, 9, none⟩ (.int .i64 x24.k)).setCell ⟨b, 10, none⟩ (.int .i64 x24.a)).setCell ⟨b, 11, none⟩ (.int .i64 x24.b)).setCell ⟨b, 12, none⟩ (.int .i64 x24.c)).setCell ⟨b, 13, none⟩ (.int .i64 x24.d))) := Lib.hid (K.setFrom_below [(.int .i64 x24.k), (.int .i64 x24.a), (.int .i64 x24.b), (.int .i64 x24.c), (.int .i64 x24.d)] 9 F4.out (by omega))
  go_upto_region 15 with fail
  clear u9 y9 u10 y10 u11 y11 u12 y12 u13 y13 p4 y4_ F4
  generalize (((((w4.setCell ⟨b, 9, none⟩ (.int .i64 x24.k)).setCell ⟨b, 10, none⟩ (.int .i64 x24.a)).setCell ⟨b, 11, none⟩ (.int .i64 x24.b)).setCell ⟨b, 12, none⟩ (.int .i64 x24.c)).setCell ⟨b, 13, none⟩ (.int .i64 x24.d)) = w5 at q4 z4 B4 ⊢
  have d6 := cell_on B4.out HC.out.1
  obtain ⟨R, hR⟩ : ∃ R, sWalk bs = R := ⟨_, rfl⟩
  have HW : Hid (walkX bs (40 + sz) 4 40 k6 [] = R) := Lib.hid (by rw [← hR, sWalk, HE.out.2.1, HE.out.2.2.2.1])
  have HRR := Lib.hid hR
  clear hR
  have LB5 := K.lt q4.out
  have XO5 : Hid (XO w5 (b + 1) none 0 0 []) := Lib.hid ⟨rfl, ⟨rfl, .inl ⟨rfl, rfl⟩⟩, by simp, by simp, by simp⟩
  go_wp2_with fail
  go_loopw [11, 12] (fun kd ka wr => ∃ (kind k q : Nat) (A : Option Addr) (d : Nat) (ys : List Ey), kd = .int .i64 (kind : Int) ∧ ka = .int .i64 (k : Int) ∧ q ≤ 3 ∧ k ≤ 40 + sz ∧ kind < 256 ∧ Hid (XO wr (b + 1) A q d ys) ∧ Hid (walkX bs (40 + sz) (4 - q) k kind (ys.map Ey.says) = R) ∧ Hid (wr.heap[b]? = some (.cells #[.int .i64 ((W4 : Int) / 1048576 % 256), .int .i64 ((W4 : Int) % 1048576), .int .i64 (v7 : Int), .int .i64 0, .int .i64 x8.k, .int .i64 x8.a, .int .i64 x8.b, .int .i64 x8.c, .int .i64 x8.d, .int .i64 x24.k, .int .i64 x24.a, .int .i64 x24.b, .int .i64 x24.c, .int .i64 x24.d, .slice A q d, .slice none 0 0] 28 (0, 0))) ∧ Hid (wr.heap[w.heap.size]? = some (.cells #[.int .i64 0, .int .i64 0, .int .i64 0, .int .i64 0, .int .i64 0, .int .i64 0, .int .i64 0, .int .i64 0, .int .i64 0, .int .i64 0, .int .i64 0, .int .i64 0, .int .i64 0, .int .i64 0, .slice none 0 0, .slice none 0 0] 28 (0, 0))) ∧ Hid (Below w.heap.size w wr)) (fun _ ka _ => 40 + sz - (intOf ka).toNat)
  case atStart => exact ⟨k6, 40, 0, none, 0, [], rfl, rfl, by omega, by omega, hb6, XO5, HW, q4, z4, B4⟩
  case round =>
    obtain ⟨kind, k, q, A, d, ys, rfl, rfl, hq, hkn, hkd, XQ, WQ, QQ, ZQ, BQ⟩ := hrel
    have HQL := Lib.hid (show (ys.map Ey.says).length = q by rw [List.length_map]; exact XQ.out.len)
    have lbq := K.lt QQ.out
    clear d6 q4 z4 B4 HW XO5
    cases hi : inner (kind : Int) with
    | false =>
      have HI := Lib.hid hi
      obtain ⟨l, hkl⟩ : ∃ l, k + l = 40 + sz := ⟨40 + sz - k, by omega⟩
      obtain ⟨r, hrn⟩ : ∃ r, 40 + sz + r = n := ⟨n - (40 + sz), by omega⟩
      have HRs := Lib.hid (show R = some (ys.map Ey.says, kind, k) by rw [← WQ.out, show 4 - q = (3 - q) + 1 by omega, walkX_end HI.out])
      obtain ⟨S25, S25h⟩ : ∃ S : Option Addr, (if c = k then (some ⟨gg, oo, none⟩ : Option Addr) else (some (⟨gg, oo, none⟩ : Addr)).map (·.add (k * 1))) = S := ⟨_, rfl⟩
      have S25h := Lib.hid S25h
      obtain ⟨X26, y26, hcut, hX26⟩ := cut_atI ⟨gg, oo, none⟩ n c (40 + sz) r hrn
      have HCUT := Lib.hid (show ∀ w, (Instr.sliceAt 22 (.slice (some ⟨gg, oo, none⟩) n c) (some (.int .i64 (40 + (sz : Int)))) none none).run Try.prog w = .ok (.slice (some X26) r y26) w from fun w => by have := hcut w; rwa [show ((40 + sz : Nat) : Int) = 40 + (sz : Int) by omega] at this)
      have HX26 := Lib.hid (hX26 HR.out HL.out hc)
      obtain ⟨ds, hds⟩ : ∃ ds, (bs.drop k).take l = ds := ⟨_, rfl⟩
      obtain ⟨rs, hrs⟩ : ∃ rs, bs.drop (40 + sz) = rs := ⟨_, rfl⟩
      rw [hrs] at HX26
      have HDS := Lib.hid (show (bs.drop k).take (sEnd bs - k) = ds by rw [HE.out.2.1, show 40 + sz - k = l by omega, hds])
      have HRSS := Lib.hid (show bs.drop (sEnd bs) = rs by rw [HE.out.2.1, hrs])
      have HDL := Lib.hid (show ds.length = l by rw [← hds, List.length_take, List.length_drop, HL.out]; omega)
      have HRL := Lib.hid (show rs.length = r by rw [← hrs, List.length_drop, HL.out]; omega)
      have HD := Lib.hid (fun (v : World) (hb : Below w.heap.size w v) => show RB v w.heap.size S25 ds by rw [← S25h.out, ← hds]; exact ((HR.out.below hb).back k c (by rw [HL.out]; exact hc)).front l)
      have h25 : ∀ w, (Instr.sliceAt 22 (.slice (some ⟨gg, oo, none⟩) n c) (some (.int .i64 (k : Int))) (some (.int .i64 (40 + (sz : Int)))) none).run Try.prog w = .ok (.slice S25 l (c - k)) w := fun w => by have := cut_mid (some ⟨gg, oo, none⟩) n c k l (40 + sz) hkl (by omega) w; rwa [S25h.out, show ((40 + sz : Nat) : Int) = 40 + (sz : Int) by omega] at this
      have H0 := Lib.hid (show src6 bs = 0 by rw [src6_tot, HT.out, HRR.out, HRs.out]; rfl)
      have FIN := Lib.hid (fun (w' : World) (D : Option Addr) (e : Nat) (E : Option Addr) (g : Nat) oA oD oE h1 h2 hb => srOut_yes (m := l) (w := w) (w' := w') (A := A) (D := D) (E := E) (c := d) (d := e) (g := g) (zs := ys) H0.out (HRR.out.trans HRs.out) (HX.out kind) HDS.out HRSS.out HQL.out HDL.out HRL.out oA rfl oD oE h1 h2 hb)
      have hl5 : l ≤ 1500 := by omega
      clear hi hds hrs hcut hX26 hkl
      have u3 := K.cell QQ.out 3 _ rfl
      have y3 := frozen_of_row _ _ 3 _ _ QQ.out
      have NEW0 : Hid (((wr.setCell ⟨b, 3, none⟩ (.int .i64 (kind : Int))).alloc (.cells #[] 5)).heap[wr.heap.size]? = some (.cells #[] 5 (0, 0))) := Lib.hid (K.newAt (by simp))
      have BW : Hid (Below w.heap.size w ((wr.setCell ⟨b, 3, none⟩ (.int .i64 (kind : Int))).alloc (.cells #[] 5))) := Lib.hid (bthen (BQ.out.setCell (p := ⟨b, 3, none⟩) (by simp; omega) _) (Joins.below_alloc1 _ _))
      go_wp2_with (first | (go_at_call 63; refine Calls.mono (innerSB (kind : Int) false _ HI.out) ?_; rintro e w6 ⟨rfl, rfl⟩) | (at_builtin; (refine wpList_append_new rfl (.tmp 154) (.tmp 158) rfl wr.heap.size wr.heap.size rfl (Nat.le_refl _) NEW0.out (by simp) w.heap.size S25 l (c - k) ds rfl HDL.out (HD.out _ BW.out) (by rw [HDL.out]; omega) ?_); intro D e w6 o6 b6; have q6 := Lib.hid (K.below b6 (K.old (K.set QQ.out 3 (.int .i64 (kind : Int))) (.cells #[] 5))); have u15 := K.cell q6.out 15 _ rfl; have y15 := frozen_of_row _ _ 15 _ _ q6.out))
      clear u3 y3 u15 y15 h25
      have z6 := Lib.hid (K.below b6 (K.old (K.other ZQ.out b 3 (.int .i64 (kind : Int)) (by omega)) (.cells #[] 5)))
      have X6 := Lib.hid (((XQ.out.kept (grownBy_set wr b 3 (.int .i64 (kind : Int))) (by omega)).below (Joins.below_alloc1 _ (.cells #[] 5))).below b6)
      have B6 := Lib.hid (bthen BW.out b6)
      have O6 := Lib.hid o6
      have L6 := Lib.hid b6.size
      have LX := Lib.hid (XQ.out.lt)
      clear b6 o6 NEW0 BW QQ ZQ BQ WQ
      have q7 : Hid ((w6.setCell ⟨b, 15, none⟩ (.slice D l e)).heap[b]? = some (.cells #[.int .i64 ((W4 : Int) / 1048576 % 256), .int .i64 ((W4 : Int) % 1048576), .int .i64 (v7 : Int), .int .i64 (kind : Int), .int .i64 x8.k, .int .i64 x8.a, .int .i64 x8.b, .int .i64 x8.c, .int .i64 x8.d, .int .i64 x24.k, .int .i64 x24.a, .int .i64 x24.b, .int .i64 x24.c, .int .i64 x24.d, .slice A q d, .slice D l e] 28 (0, 0))) := Lib.hid (K.set q6.out 15 _)
      have z7 := Lib.hid (K.other z6.out b 15 (.slice D l e) (by omega))
      have X7 := Lib.hid (X6.out.kept (grownBy_set w6 b 15 (.slice D l e)) (by omega))
      have O7 := Lib.hid (own_set O6.out b 15 (.slice D l e) (by omega))
      have B7 := Lib.hid (B6.out.setCell (p := ⟨b, 15, none⟩) (show w.heap.size ≤ b by omega) (.slice D l e))
      have l7 : wr.heap.size < (w6.setCell ⟨b, 15, none⟩ (.slice D l e)).heap.size := by have := L6.out; simp at this ⊢; omega
      clear q6 z6 X6 O6 B6 L6
      generalize w6.setCell ⟨b, 15, none⟩ (.slice D l e) = w7 at q7 z7 X7 O7 B7 l7 ⊢
      refine wp_region_prs (by kernel_rfl) 6 167 [(0, 161), (1, 162), (2, 163), (3, 164), (4, 165), (5, 166)] _ ([.val (.agg #[.int .i64 ((W4 : Int) / 1048576 % 256), .int .i64 ((W4 : Int) % 1048576), .int .i64 (v7 : Int), .int .i64 (kind : Int), .int .i64 x8.k, .int .i64 x8.a, .int .i64 x8.b, .int .i64 x8.c, .int .i64 x8.d, .int .i64 x24.k, .int .i64 x24.a, .int .i64 x24.b, .int .i64 x24.c, .int .i64 x24.d, .slice A q d, .slice D l e]), .pr (EmptyO w7.heap.size) EmptyO.on, .val (.slice (some ⟨gg, oo, none⟩) n c), .val (.int .i64 (40 + (sz : Int))), .val (.slice (some X26) r y26), .pr (OwnB w7.heap.size r rs) OwnB.on]) (by kernel_rfl) (by kernel_rfl) rfl rfl ?_ ?_
      · intro j o hj ho a' v K' hx hnd hB hK
        match j, hj, ho with
        | 0, _, ho =>
          obtain rfl := Option.some.inj ho
          have h0 : a'.eval (.tmp 10) = .pointer (some ⟨b, 0, none⟩) := (hx 10 (by decide)).trans rfl
          exact wp_load_row 28 _ rfl b h0 _ _ (0, 0) _ (K.below hB q7.out) Try.underlying28 rfl info_six (hK _ _ rfl (Below.refl _ _))
        | 1, _, ho =>
          obtain rfl := Option.some.inj ho
          exact wp_mk0 rfl (hK _ _ ⟨v.heap.size, rfl, hB.size, K.new v _⟩ (Joins.below_alloc1 v _))
        | 2, _, ho =>
          obtain rfl := Option.some.inj ho
          have h0 : a'.eval (.tmp 0) = .slice (some ⟨gg, oo, none⟩) n c := (hx 0 (by decide)).trans rfl
          exact u_move _ _ rfl h0 (hK _ _ rfl (Below.refl _ _))
        | 3, _, ho =>
          obtain rfl := Option.some.inj ho
          have h0 : a'.eval (.tmp 7) = .int .i64 (40 + (sz : Int)) := (hx 7 (by decide)).trans rfl
          exact u_move _ _ rfl h0 (hK _ _ rfl (Below.refl _ _))
        | 4, _, ho =>
          obtain rfl := Option.some.inj ho
          have h0 : a'.eval (.tmp 163) = .slice (some ⟨gg, oo, none⟩) n c := (prs_of hnd 2 163 (by kernel_rfl) :)
          have h1 : a'.eval (.tmp 164) = .int .i64 (40 + (sz : Int)) := (prs_of hnd 3 164 (by kernel_rfl) :)
          exact u_cut _ _ _ _ _ rfl h0 h1 HCUT.out (hK _ _ rfl (Below.refl _ _))
        | 5, _, ho =>
          obtain rfl := Option.some.inj ho
          obtain ⟨b', h0, l0, r0⟩ := (prs_of hnd 1 162 (by kernel_rfl) :)
          have h1 : a'.eval (.tmp 165) = .slice (some X26) r y26 := (prs_of hnd 4 165 (by kernel_rfl) :)
          exact wp_append_new _ _ rfl w7.heap.size b' h0 l0 r0 hB.size w.heap.size (some X26) r y26 rs h1 HRL.out (HX26.out.below (bthen B7.out hB)) (by rw [HRL.out]; omega) (fun E k w' h1 h2 => hK _ _ ⟨E, k, rfl, h1⟩ h2)
        | j + 6, hj, _ => omega
      · intro f v hf hB
        have e0 : f 0 = (.agg #[.int .i64 ((W4 : Int) / 1048576 % 256), .int .i64 ((W4 : Int) % 1048576), .int .i64 (v7 : Int), .int .i64 (kind : Int), .int .i64 x8.k, .int .i64 x8.a, .int .i64 x8.b, .int .i64 x8.c, .int .i64 x8.d, .int .i64 x24.k, .int .i64 x24.a, .int .i64 x24.b, .int .i64 x24.c, .int .i64 x24.d, .slice A q d, .slice D l e]) := hf (0, 161) (by decide)
        have e2 : f 2 = (.slice (some ⟨gg, oo, none⟩) n c) := hf (2, 163) (by decide)
        have e3 : f 3 = (.int .i64 (40 + (sz : Int))) := hf (3, 164) (by decide)
        have e4 : f 4 = (.slice (some X26) r y26) := hf (4, 165) (by decide)
        have OW := hf (5, 166) (by decide)
        simp only [List.foldl_cons, List.foldl_nil, List.drop_succ_cons, List.drop_zero, e0, e2, e3, e4]
        clear e0 e2 e3 e4 hf
        go_simp
        obtain ⟨E, g, e9, oE⟩ := OW
        rw [e9]
        clear e9
        have OE := Lib.hid oE
        have q8 := Lib.hid (K.below hB q7.out)
        have z8 := Lib.hid (K.below hB z7.out)
        have X8_ := Lib.hid (X7.out.below hB)
        have O8 := Lib.hid (own_below O7.out hB)
        have B8 := Lib.hid (bthen B7.out hB)
        have L7 := Lib.hid O7.out.lt
        clear oE hB q7 z7 X7 O7 B7
        go_wp2_with (with_reducible refine storeS rfl _ _ rfl w.heap.size rfl rfl z8.out ?_)
        (try simp only [Exit.inBlock, Exit.then])
        refine bodyPost_ret (v := .tuple #[.agg #[.int .i64 ((W4 : Int) / 1048576 % 256), .int .i64 ((W4 : Int) % 1048576), .int .i64 (v7 : Int), .int .i64 (kind : Int), .int .i64 x8.k, .int .i64 x8.a, .int .i64 x8.b, .int .i64 x8.c, .int .i64 x8.d, .int .i64 x24.k, .int .i64 x24.a, .int .i64 x24.b, .int .i64 x24.c, .int .i64 x24.d, .slice A q d, .slice D l e], .slice E r g, .int .i64 0]) ?_ rfl (FIN.out _ D e E g ((X8_.out.setRow w.heap.size _ (by omega)).base (by omega)) (own_base (K.setRow_own _ O8.out (by omega)) (by omega)) (own_base (K.setRow_own _ OE.out (by omega)) (by omega)) (fun u hu => ⟨fun e => by have := LX.out.1 u e; have := (O8.out.lt u hu).1; omega, fun z hz e => by have := LX.out.2 z hz u e; have := (O8.out.lt u hu).1; omega⟩) (fun u hu => ⟨fun e => by have := L7.out u e; have := (OE.out.lt u hu).1; omega, fun e => by have := LX.out.1 u e; have := (OE.out.lt u hu).1; omega, fun z hz e => by have := LX.out.2 z hz u e; have := (OE.out.lt u hu).1; omega⟩) (K.setRow_below B8.out (Nat.le_refl _) _))
        exact K.resCell3 Try.results29 _ _ _ w.heap.size _ rfl (run_loadVar_row _ _ 28 28 _ (0, 0) _ (setRow_heap _ _ _ _ _ _ z8.out) Try.underlying28 rfl info_six)
    | true =>
      have HI := Lib.hid hi
      have hk3 : kind = 0 ∨ kind = 43 ∨ kind = 60 := by have := inner_iff.1 hi; omega
      clear hi
      have d14 := K.cell QQ.out 14 _ rfl
      have HNO := Lib.hid (fun (hne : noExt bs (40 + sz) q k kind = true) => show src6 bs = 5 by have e : R = none := by { rw [← WQ.out, show 4 - q = (3 - q) + 1 by omega]; exact walkX_no HI.out (by rw [HQL.out]; exact hne) }; rw [src6_tot, HT.out, HRR.out, e]; rfl)
      by_cases hq3 : q = 3
      · subst hq3
        have H5 := Lib.hid (HNO.out (by simp [noExt]))
        go_wp2_with (first | (go_at_call 63; refine Calls.mono (innerSB ((kind : Int)) true _ HI.out) ?_; rintro e w6 ⟨rfl, rfl⟩) | (with_reducible refine storeS rfl _ _ rfl w.heap.size rfl rfl ZQ.out ?_))
        (try simp only [Exit.inBlock, Exit.then])
        refine bodyPost_ret (v := .tuple #[.agg #[.int .i64 0, .int .i64 0, .int .i64 0, .int .i64 0, .int .i64 0, .int .i64 0, .int .i64 0, .int .i64 0, .int .i64 0, .int .i64 0, .int .i64 0, .int .i64 0, .int .i64 0, .int .i64 0, .slice none 0 0, .slice none 0 0], .slice none 0 0, .int .i64 5]) ?_ rfl (srOut_no H5.out (by omega) (K.setRow_below BQ.out (Nat.le_refl _) _))
        exact K.resCell3 Try.results29 _ _ _ w.heap.size _ rfl (run_loadVar_row _ _ 28 28 _ (0, 0) _ (setRow_heap _ _ _ _ _ _ ZQ.out) Try.underlying28 rfl info_six)
      · have hq31 : ¬ (q : Int) = 3 := by omega
        have hq32 : ((q : Int) == 3) = false := beq_false_of_ne hq31
        by_cases hk0 : kind = 0
        · subst hk0
          by_cases hq0 : q = 0
          · subst hq0
            by_cases ha : 40 + sz < k + 2
            · have ha1 : 40 + (sz : Int) < (k : Int) + 2 := by omega
              have H5 := Lib.hid (HNO.out (by simp [noExt, ha]))
              go_wp2_with (first | (go_at_call 63; refine Calls.mono (innerSB (0) true _ HI.out) ?_; rintro e w6 ⟨rfl, rfl⟩) | (with_reducible refine storeS rfl _ _ rfl w.heap.size rfl rfl ZQ.out ?_))
              (try simp only [Exit.inBlock, Exit.then])
              refine bodyPost_ret (v := .tuple #[.agg #[.int .i64 0, .int .i64 0, .int .i64 0, .int .i64 0, .int .i64 0, .int .i64 0, .int .i64 0, .int .i64 0, .int .i64 0, .int .i64 0, .int .i64 0, .int .i64 0, .int .i64 0, .int .i64 0, .slice none 0 0, .slice none 0 0], .slice none 0 0, .int .i64 5]) ?_ rfl (srOut_no H5.out (by omega) (K.setRow_below BQ.out (Nat.le_refl _) _))
              exact K.resCell3 Try.results29 _ _ _ w.heap.size _ rfl (run_loadVar_row _ _ 28 28 _ (0, 0) _ (setRow_heap _ _ _ _ _ _ ZQ.out) Try.underlying28 rfl info_six)
            · have ha1 : (k : Int) + 2 ≤ 40 + (sz : Int) := by omega
              obtain ⟨g9, o9, ea9, _, c9⟩ := HR.out.at_ (k := k + 1) (by rw [HL.out]; omega)
              obtain ⟨rfl, rfl⟩ : gg = g9 ∧ oo = o9 := by injection ea9 with ea1; injection ea1 with h1 h2; exact ⟨h1, h2⟩
              obtain ⟨g9, o9, ea8, _, ck⟩ := HR.out.at_ (k := k) (by rw [HL.out]; omega)
              obtain ⟨rfl, rfl⟩ : gg = g9 ∧ oo = o9 := by injection ea8 with ea1; injection ea1 with h1 h2; exact ⟨h1, h2⟩
              rw [← num_one bs (k + 1) (by rw [HL.out]; omega)] at c9
              rw [← num_one bs k (by rw [HL.out]; omega)] at ck
              have hx1 := num_lt1 bs (k + 1)
              have hkn9 := num_lt1 bs k
              obtain ⟨x1, e1⟩ : ∃ v, num bs (k + 1) 1 = v := ⟨_, rfl⟩
              obtain ⟨kn, e2⟩ : ∃ v, num bs k 1 = v := ⟨_, rfl⟩
              rw [e1] at c9 hx1
              rw [e2] at ck hkn9
              have HCK := Lib.hid ck
              have c9 := cell_on BQ.out c9
              have E1 := Lib.hid e1
              have E2 := Lib.hid e2
              clear ck e1 e2 ea9 ea8
              by_cases hb7 : 7 < x1
              · have hb71 : (7 : Int) < (x1 : Int) := by omega
                have H5 := Lib.hid (HNO.out (by simp [noExt, E1.out, hb7]))
                go_wp2_with (first | (go_at_call 63; refine Calls.mono (innerSB (0) true _ HI.out) ?_; rintro e w6 ⟨rfl, rfl⟩) | (with_reducible refine storeS rfl _ _ rfl w.heap.size rfl rfl ZQ.out ?_))
                (try simp only [Exit.inBlock, Exit.then])
                refine bodyPost_ret (v := .tuple #[.agg #[.int .i64 0, .int .i64 0, .int .i64 0, .int .i64 0, .int .i64 0, .int .i64 0, .int .i64 0, .int .i64 0, .int .i64 0, .int .i64 0, .int .i64 0, .int .i64 0, .int .i64 0, .int .i64 0, .slice none 0 0, .slice none 0 0], .slice none 0 0, .int .i64 5]) ?_ rfl (srOut_no H5.out (by omega) (K.setRow_below BQ.out (Nat.le_refl _) _))
                exact K.resCell3 Try.results29 _ _ _ w.heap.size _ rfl (run_loadVar_row _ _ 28 28 _ (0, 0) _ (setRow_heap _ _ _ _ _ _ ZQ.out) Try.underlying28 rfl info_six)
              · have hb71 : (x1 : Int) ≤ 7 := by omega
                by_cases hc9 : 40 + sz < k + 8 * x1 + 8
                · have hc91 : 40 + (sz : Int) < (k : Int) + 8 * (x1 : Int) + 8 := by omega
                  have H5 := Lib.hid (HNO.out (by simp [noExt, E1.out, hc9]))
                  go_wp2_with (first | (go_at_call 63; refine Calls.mono (innerSB (0) true _ HI.out) ?_; rintro e w6 ⟨rfl, rfl⟩) | (with_reducible refine storeS rfl _ _ rfl w.heap.size rfl rfl ZQ.out ?_))
                  (try simp only [Exit.inBlock, Exit.then])
                  refine bodyPost_ret (v := .tuple #[.agg #[.int .i64 0, .int .i64 0, .int .i64 0, .int .i64 0, .int .i64 0, .int .i64 0, .int .i64 0, .int .i64 0, .int .i64 0, .int .i64 0, .int .i64 0, .int .i64 0, .int .i64 0, .int .i64 0, .slice none 0 0, .slice none 0 0], .slice none 0 0, .int .i64 5]) ?_ rfl (srOut_no H5.out (by omega) (K.setRow_below BQ.out (Nat.le_refl _) _))
                  exact K.resCell3 Try.results29 _ _ _ w.heap.size _ rfl (run_loadVar_row _ _ 28 28 _ (0, 0) _ (setRow_heap _ _ _ _ _ _ ZQ.out) Try.underlying28 rfl info_six)
                · have hc91 : (k : Int) + 8 * (x1 : Int) + 8 ≤ 40 + (sz : Int) := by omega
                  have WN := Lib.hid (show walkX bs (40 + sz) (4 - (0 + 1)) (k + 8 * x1 + 8) kn (ys.map Ey.says ++ [((0 : Int), (bs.drop (k + 2)).take (8 * x1 + 6))]) = R by have h := walkX_go (bs := bs) (e := 40 + sz) (f := 4 - (0 + 1)) (k := k) (kind := 0) (acc := ys.map Ey.says) HI.out (by rw [HQL.out]; exact noExt_iff.2 ⟨by omega, by omega, by omega, by rw [E1.out]; omega, by rw [E1.out]; omega⟩); rw [E1.out, E2.out] at h; rw [← WQ.out, show 4 - 0 = (4 - (0 + 1)) + 1 by omega]; exact h.symm)
                  obtain ⟨ds, hds⟩ : ∃ ds, (bs.drop (k + 2)).take (8 * x1 + 6) = ds := ⟨_, rfl⟩
                  rw [hds] at WN
                  obtain ⟨S21, S21h⟩ : ∃ S : Option Addr, (if c = k + 2 then (some ⟨gg, oo, none⟩ : Option Addr) else (some (⟨gg, oo, none⟩ : Addr)).map (·.add ((k + 2) * 1))) = S := ⟨_, rfl⟩
                  have H21 := Lib.hid (show ∀ w, (Instr.sliceAt 22 (.slice (some ⟨gg, oo, none⟩) n c) (some (.int .i64 ((k : Int) + 2))) (some (.int .i64 ((k : Int) + 8 * (x1 : Int) + 8))) none).run Try.prog w = .ok (.slice S21 (8 * x1 + 6) (c - (k + 2))) w from fun w => by have := cut_mid (some ⟨gg, oo, none⟩) n c (k + 2) (8 * x1 + 6) (k + 8 * x1 + 8) (by omega) (by omega) w; rwa [S21h, show ((k + 2 : Nat) : Int) = (k : Int) + 2 by omega, show ((k + 8 * x1 + 8 : Nat) : Int) = ((k : Int) + 8 * (x1 : Int) + 8) by omega] at this)
                  have HDL := Lib.hid (show ds.length = 8 * x1 + 6 by rw [← hds, List.length_take, List.length_drop, HL.out]; omega)
                  have HDR := Lib.hid (fun (v : World) (hb : Below w.heap.size w v) => show RB v w.heap.size S21 ds by rw [← S21h, ← hds]; exact ((HR.out.below hb).back (k + 2) c (by rw [HL.out]; exact hc)).front (8 * x1 + 6))
                  have HLX := Lib.hid XQ.out.lt
                  have HBK := Lib.hid (show ∀ k, (Value.slice A 0 d).ownBlock = some k → k < wr.heap.size from fun k hk => (XQ.out.row.lt k hk).2)
                  clear hds S21h HNO
                  go_wp2_with (first | (go_at_call 63; refine Calls.mono (innerSB (0) true _ HI.out) ?_; rintro e w6 ⟨rfl, rfl⟩) | fail)
                  clear c9 d14
                  refine wp_region_grow (w := wr) ((Value.slice A 0 d).ownBlock) (by kernel_rfl) 14 167 [(0, 132), (1, 133), (2, 134), (3, 135), (4, 136), (5, 137), (6, 138), (7, 139), (8, 140), (9, 141), (10, 142), (11, 143), (12, 144), (13, 145)] _ ([.val (.pointer (some ⟨b, 14, none⟩)), .val (.slice A 0 d), .val (.int .i64 0), .pr (EmptyO wr.heap.size) EmptyO.on (EmptyO.grown HBK.out), .val (.slice (some ⟨gg, oo, none⟩) n c), .val (.int .i64 (k : Int)), .val (.int .i64 ((k : Int) + 2)), .val (.int .i64 ((k : Int) + 8 * (x1 : Int) + 8)), .val (.slice S21 (8 * x1 + 6) (c - (k + 2))), .pr (OwnB wr.heap.size (8 * x1 + 6) ds) OwnB.on (OwnB.grown HBK.out), .pr (ExtV wr.heap.size 0 ds) ExtV.on (ExtV.grown HBK.out), .pr (ExtR wr.heap.size 0 ds) ExtR.on (ExtR.grown HBK.out), .any, .val (.pointer (some ⟨b, 14, none⟩))]) (by kernel_rfl) (by kernel_rfl) rfl 12 144 (by omega) (by decide) rfl (fun b' v => Below w.heap.size w v ∧ v.heap[b]? = some (.cells #[.int .i64 ((W4 : Int) / 1048576 % 256), .int .i64 ((W4 : Int) % 1048576), .int .i64 (v7 : Int), .int .i64 0, .int .i64 x8.k, .int .i64 x8.a, .int .i64 x8.b, .int .i64 x8.c, .int .i64 x8.d, .int .i64 x24.k, .int .i64 x24.a, .int .i64 x24.b, .int .i64 x24.c, .int .i64 x24.d, .slice A 0 d, .slice none 0 0] 28 (0, 0)) ∧ v.heap[w.heap.size]? = some (.cells #[.int .i64 0, .int .i64 0, .int .i64 0, .int .i64 0, .int .i64 0, .int .i64 0, .int .i64 0, .int .i64 0, .int .i64 0, .int .i64 0, .int .i64 0, .int .i64 0, .int .i64 0, .int .i64 0, .slice none 0 0, .slice none 0 0] 28 (0, 0)) ∧ wr.heap.size ≤ v.heap.size ∧ (b' = false → XO v (b + 1) A 0 d ys)) (fun b' v v' hb h => ⟨bthen h.1 hb, K.below hb h.2.1, K.below hb h.2.2.1, Nat.le_trans h.2.2.2.1 hb.size, fun e => (h.2.2.2.2 e).below hb⟩) ⟨⟨BQ.out.os, BQ.out.tape, BQ.out.output, BQ.out.size, BQ.out.block⟩, QQ.out, ZQ.out, Nat.le_refl _, fun _ => ⟨XQ.out.len, XQ.out.row, XQ.out.own, XQ.out.apart, XQ.out.off⟩⟩ (fun v u => ∃ A2 c2 y, u = .slice A2 (0 + 1) c2 ∧ y.says = ((0 : Int), ds) ∧ XO v (b + 1) A2 (0 + 1) c2 (ys ++ [y])) (by rintro v v' u hb ⟨A2, c2, y, e1, e2, x⟩; exact ⟨A2, c2, y, e1, e2, x.below hb⟩) ?_ ?_ ?_
                  · intro j o hj hjp ho b' a' v K' hx hnd hJJ hK
                    match j, hj, hjp, ho with
                    | 0, _, _, ho =>
                      obtain rfl := Option.some.inj ho
                      have h0 : a'.eval (.tmp 10) = .pointer (some ⟨b, 0, none⟩) := (hx 10 (by decide)).trans rfl
                      exact u_fldS6 _ _ rfl h0 (hK _ _ rfl (Below.refl _ _))
                    | 1, _, _, ho =>
                      obtain rfl := Option.some.inj ho
                      have h0 : a'.eval (.tmp 132) = .pointer (some ⟨b, 14, none⟩) := (grow_of hnd 0 132 (by kernel_rfl) (by decide) :)
                      exact u_exts _ _ _ _ rfl h0 (K.cell hJJ.2.1 14 _ rfl) (hK _ _ rfl (Below.refl _ _))
                    | 2, _, _, ho =>
                      obtain rfl := Option.some.inj ho
                      have h0 : a'.eval (.tmp 11) = .int .i64 0 := (hx 11 (by decide)).trans rfl
                      exact u_move _ _ rfl h0 (hK _ _ rfl (Below.refl _ _))
                    | 3, _, _, ho =>
                      obtain rfl := Option.some.inj ho
                      exact wp_mk0 rfl (hK _ _ ⟨v.heap.size, rfl, hJJ.2.2.2.1, K.new v _⟩ (Joins.below_alloc1 v _))
                    | 4, _, _, ho =>
                      obtain rfl := Option.some.inj ho
                      have h0 : a'.eval (.tmp 0) = .slice (some ⟨gg, oo, none⟩) n c := (hx 0 (by decide)).trans rfl
                      exact u_move _ _ rfl h0 (hK _ _ rfl (Below.refl _ _))
                    | 5, _, _, ho =>
                      obtain rfl := Option.some.inj ho
                      have h0 : a'.eval (.tmp 12) = .int .i64 (k : Int) := (hx 12 (by decide)).trans rfl
                      exact u_move _ _ rfl h0 (hK _ _ rfl (Below.refl _ _))
                    | 6, _, _, ho =>
                      obtain rfl := Option.some.inj ho
                      have h0 : a'.eval (.tmp 137) = .int .i64 (k : Int) := (grow_of hnd 5 137 (by kernel_rfl) (by decide) :)
                      exact u_add _ _ _ _ rfl h0 rfl (by omega) (by omega) (by omega) (by omega) (hK _ _ rfl (Below.refl _ _))
                    | 7, _, _, ho =>
                      obtain rfl := Option.some.inj ho
                      have h0 : a'.eval (.tmp 13) = .int .i64 ((k : Int) + 8 * (x1 : Int) + 8) := (hx 13 (by decide)).trans rfl
                      exact u_move _ _ rfl h0 (hK _ _ rfl (Below.refl _ _))
                    | 8, _, _, ho =>
                      obtain rfl := Option.some.inj ho
                      have h0 : a'.eval (.tmp 136) = .slice (some ⟨gg, oo, none⟩) n c := (grow_of hnd 4 136 (by kernel_rfl) (by decide) :)
                      have h1 : a'.eval (.tmp 138) = .int .i64 ((k : Int) + 2) := (grow_of hnd 6 138 (by kernel_rfl) (by decide) :)
                      have h2 : a'.eval (.tmp 139) = .int .i64 ((k : Int) + 8 * (x1 : Int) + 8) := (grow_of hnd 7 139 (by kernel_rfl) (by decide) :)
                      exact u_cut2 _ _ _ _ _ _ _ rfl h0 h1 h2 H21.out (hK _ _ rfl (Below.refl _ _))
                    | 9, _, _, ho =>
                      obtain rfl := Option.some.inj ho
                      obtain ⟨b'', h0, l0, r0⟩ := (grow_of hnd 3 135 (by kernel_rfl) (by decide) :)
                      have h1 : a'.eval (.tmp 140) = .slice S21 (8 * x1 + 6) (c - (k + 2)) := (grow_of hnd 8 140 (by kernel_rfl) (by decide) :)
                      exact wp_append_new _ _ rfl wr.heap.size b'' h0 l0 r0 hJJ.2.2.2.1 w.heap.size S21 (8 * x1 + 6) (c - (k + 2)) ds h1 HDL.out (HDR.out v hJJ.1) (by rw [HDL.out]; omega) (fun E k w' h1 h2 => hK _ _ ⟨E, k, rfl, h1⟩ h2)
                    | 10, _, _, ho =>
                      obtain rfl := Option.some.inj ho
                      have h0 : a'.eval (.tmp 134) = .int .i64 0 := (grow_of hnd 2 134 (by kernel_rfl) (by decide) :)
                      obtain ⟨E9, g9, h1, o9⟩ := (grow_of hnd 9 141 (by kernel_rfl) (by decide) :)
                      exact u_buildE _ _ _ _ rfl h0 E9 _ g9 rfl h1 (hK _ _ ⟨⟨0, ds, E9, g9⟩, rfl, rfl, by simp only [HDL.out], by simp only [Ey.body, HDL.out]; exact o9⟩ (Below.refl _ _))
                    | 11, _, _, ho =>
                      obtain rfl := Option.some.inj ho
                      obtain ⟨y9, ek, eb, h0, o9⟩ := (grow_of hnd 10 142 (by kernel_rfl) (by decide) :)
                      exact u_oneE _ _ _ _ _ rfl h0 (hK _ _ ⟨y9, v.heap.size, ek, eb, rfl, hJJ.2.2.2.1, K.new v _, o9.alloc _⟩ (Joins.below_alloc1 v _))
                    | 12, _, hjp, _ => exact absurd rfl hjp
                    | 13, _, _, ho =>
                      obtain rfl := Option.some.inj ho
                      have h0 : a'.eval (.tmp 10) = .pointer (some ⟨b, 0, none⟩) := (hx 10 (by decide)).trans rfl
                      exact u_fldS6 _ _ rfl h0 (hK _ _ rfl (Below.refl _ _))
                    | j + 14, hj, _, _ => omega
                  · intro o ho a' v K' hx hnd hJJ hK
                    obtain rfl := Option.some.inj ho
                    have h0 : a'.eval (.tmp 133) = .slice A 0 d := (grow_of hnd 1 133 (by kernel_rfl) (by decide) :)
                    obtain ⟨y9, g9, ek, eb, h1, l9, r9, o9⟩ := (grow_of hnd 11 143 (by kernel_rfl) (by decide) :)
                    have xo := hJJ.2.2.2.2 rfl
                    refine wp_append_x _ _ rfl (b + 1) _ 0 ys h0 xo.row (g9 + 1) (some ⟨g9, 0, none⟩) 1 y9 h1 (by intro _; exact ⟨g9, 0, rfl, by omega, fun j u hu => by rw [Nat.zero_add]; exact K.cell r9 j u (by simpa using hu)⟩) (by omega) (by have := hJJ.2.2.2.1; omega) ?_
                    intro A2 c2 w' o3 g3 at3
                    refine hK _ _ ⟨A2, c2, y9, rfl, by simp only [Ey.says, ek, eb], XO.snoc xo g3 o3 at3 (own_base o9 (by omega)) (fun z hz k hk e => by have := HLX.out.2 z hz k hk; have := (o9.lt k e).1; omega) (fun k hk e => by have := HLX.out.1 k e; have := (o9.lt k hk).1; omega)⟩ g3 ⟨bgrown hJJ.1 g3 (fun k hk => by have := (xo.row.lt k hk).1; omega), K.kept g3 hJJ.2.1 (fun k hk => by have := (xo.row.lt k hk).1; omega), K.kept g3 hJJ.2.2.1 (fun k hk => by have := (xo.row.lt k hk).1; omega), Nat.le_trans hJJ.2.2.2.1 g3.size, fun e => by cases e⟩
                  · intro f v hf OG hJJ
                    have e0 : f 0 = (.pointer (some ⟨b, 14, none⟩)) := hf (0, 132) (by decide) (by decide)
                    have e1 : f 1 = (.slice A 0 d) := hf (1, 133) (by decide) (by decide)
                    have e2 : f 2 = (.int .i64 0) := hf (2, 134) (by decide) (by decide)
                    have e4 : f 4 = (.slice (some ⟨gg, oo, none⟩) n c) := hf (4, 136) (by decide) (by decide)
                    have e5 : f 5 = (.int .i64 (k : Int)) := hf (5, 137) (by decide) (by decide)
                    have e6 : f 6 = (.int .i64 ((k : Int) + 2)) := hf (6, 138) (by decide) (by decide)
                    have e7 : f 7 = (.int .i64 ((k : Int) + 8 * (x1 : Int) + 8)) := hf (7, 139) (by decide) (by decide)
                    have e8 : f 8 = (.slice S21 (8 * x1 + 6) (c - (k + 2))) := hf (8, 140) (by decide) (by decide)
                    have e13 : f 13 = (.pointer (some ⟨b, 14, none⟩)) := hf (13, 145) (by decide) (by decide)
                    simp only [List.foldl_cons, List.foldl_nil, List.drop_succ_cons, List.drop_zero, e0, e1, e2, e4, e5, e6, e7, e8, e13]
                    clear e0 e1 e2 e4 e5 e6 e7 e8 e13 hf
                    go_simp
                    obtain ⟨A2, c2, y9, e9, hy9, x9⟩ := OG
                    rw [e9]
                    clear e9
                    obtain ⟨j1, j2, j3, j4, _⟩ := hJJ
                    have X9 := Lib.hid x9
                    have HY := Lib.hid hy9
                    have JB := Lib.hid (And.intro j1 (And.intro j2 j3))
                    clear x9 hy9 j1 j3 j4
                    have u14 := K.cell j2 14 _ rfl
                    have y14 := frozen_of_row _ _ 14 _ _ j2
                    clear j2
                    go_upto_region 22 with fail
                    clear u14 y14
                    have q8 : Hid ((v.setCell ⟨b, 14, none⟩ (.slice A2 (0 + 1) c2)).heap[b]? = some (.cells #[.int .i64 ((W4 : Int) / 1048576 % 256), .int .i64 ((W4 : Int) % 1048576), .int .i64 (v7 : Int), .int .i64 0, .int .i64 x8.k, .int .i64 x8.a, .int .i64 x8.b, .int .i64 x8.c, .int .i64 x8.d, .int .i64 x24.k, .int .i64 x24.a, .int .i64 x24.b, .int .i64 x24.c, .int .i64 x24.d, .slice A2 (0 + 1) c2, .slice none 0 0] 28 (0, 0))) := Lib.hid (K.set JB.out.2.1 14 _)
                    have z8 := Lib.hid (K.other JB.out.2.2 b 14 (.slice A2 (0 + 1) c2) (by omega))
                    have X8_ := Lib.hid (X9.out.kept (grownBy_set v b 14 (.slice A2 (0 + 1) c2)) (by omega))
                    have B8 := Lib.hid (JB.out.1.setCell (p := ⟨b, 14, none⟩) (show w.heap.size ≤ b by omega) (.slice A2 (0 + 1) c2))
                    clear X9 JB
                    generalize v.setCell ⟨b, 14, none⟩ (.slice A2 (0 + 1) c2) = w8 at q8 z8 X8_ B8 ⊢
                    have ck := cell_on B8.out HCK.out
                    go_wp2
                    go_roundw
                    case rel => exact ⟨kn, k + 8 * x1 + 8, 0 + 1, A2, c2, ys ++ [y9], rfl, by simp, by omega, by omega, hkn9, X8_, Lib.hid (by rw [List.map_append, List.map_cons, List.map_nil, HY.out]; exact WN.out), q8, z8, B8⟩
                    case measure => first | (simp [intOf]; done) | (simp [intOf]; omega)
          · have hq01 : (0 : Int) < q := by omega
            have H5 := Lib.hid (HNO.out (by have h0 : 0 < q := (by omega); simp [noExt, h0]))
            go_wp2_with (first | (go_at_call 63; refine Calls.mono (innerSB (((0 : Nat) : Int)) true _ HI.out) ?_; rintro e w6 ⟨rfl, rfl⟩) | (with_reducible refine storeS rfl _ _ rfl w.heap.size rfl rfl ZQ.out ?_))
            (try simp only [Exit.inBlock, Exit.then])
            refine bodyPost_ret (v := .tuple #[.agg #[.int .i64 0, .int .i64 0, .int .i64 0, .int .i64 0, .int .i64 0, .int .i64 0, .int .i64 0, .int .i64 0, .int .i64 0, .int .i64 0, .int .i64 0, .int .i64 0, .int .i64 0, .int .i64 0, .slice none 0 0, .slice none 0 0], .slice none 0 0, .int .i64 5]) ?_ rfl (srOut_no H5.out (by omega) (K.setRow_below BQ.out (Nat.le_refl _) _))
            exact K.resCell3 Try.results29 _ _ _ w.heap.size _ rfl (run_loadVar_row _ _ 28 28 _ (0, 0) _ (setRow_heap _ _ _ _ _ _ ZQ.out) Try.underlying28 rfl info_six)
        · have hk01 : ¬ (kind : Int) = 0 := by omega
          have hk02 : ((kind : Int) == 0) = false := beq_false_of_ne hk01
          by_cases ha : 40 + sz < k + 2
          · have ha1 : 40 + (sz : Int) < (k : Int) + 2 := by omega
            have H5 := Lib.hid (HNO.out (by simp [noExt, ha]))
            go_wp2_with (first | (go_at_call 63; refine Calls.mono (innerSB ((kind : Int)) true _ HI.out) ?_; rintro e w6 ⟨rfl, rfl⟩) | (with_reducible refine storeS rfl _ _ rfl w.heap.size rfl rfl ZQ.out ?_))
            (try simp only [Exit.inBlock, Exit.then])
            refine bodyPost_ret (v := .tuple #[.agg #[.int .i64 0, .int .i64 0, .int .i64 0, .int .i64 0, .int .i64 0, .int .i64 0, .int .i64 0, .int .i64 0, .int .i64 0, .int .i64 0, .int .i64 0, .int .i64 0, .int .i64 0, .int .i64 0, .slice none 0 0, .slice none 0 0], .slice none 0 0, .int .i64 5]) ?_ rfl (srOut_no H5.out (by omega) (K.setRow_below BQ.out (Nat.le_refl _) _))
            exact K.resCell3 Try.results29 _ _ _ w.heap.size _ rfl (run_loadVar_row _ _ 28 28 _ (0, 0) _ (setRow_heap _ _ _ _ _ _ ZQ.out) Try.underlying28 rfl info_six)
          · have ha1 : (k : Int) + 2 ≤ 40 + (sz : Int) := by omega
            obtain ⟨g9, o9, ea9, _, c9⟩ := HR.out.at_ (k := k + 1) (by rw [HL.out]; omega)
            obtain ⟨rfl, rfl⟩ : gg = g9 ∧ oo = o9 := by injection ea9 with ea1; injection ea1 with h1 h2; exact ⟨h1, h2⟩
            obtain ⟨g9, o9, ea8, _, ck⟩ := HR.out.at_ (k := k) (by rw [HL.out]; omega)
            obtain ⟨rfl, rfl⟩ : gg = g9 ∧ oo = o9 := by injection ea8 with ea1; injection ea1 with h1 h2; exact ⟨h1, h2⟩
            rw [← num_one bs (k + 1) (by rw [HL.out]; omega)] at c9
            rw [← num_one bs k (by rw [HL.out]; omega)] at ck
            have hx1 := num_lt1 bs (k + 1)
            have hkn9 := num_lt1 bs k
            obtain ⟨x1, e1⟩ : ∃ v, num bs (k + 1) 1 = v := ⟨_, rfl⟩
            obtain ⟨kn, e2⟩ : ∃ v, num bs k 1 = v := ⟨_, rfl⟩
            rw [e1] at c9 hx1
            rw [e2] at ck hkn9
            have HCK := Lib.hid ck
            have c9 := cell_on BQ.out c9
            have E1 := Lib.hid e1
            have E2 := Lib.hid e2
            clear ck e1 e2 ea9 ea8
            by_cases hb7 : 7 < x1
            · have hb71 : (7 : Int) < (x1 : Int) := by omega
              have H5 := Lib.hid (HNO.out (by simp [noExt, E1.out, hb7]))
              go_wp2_with (first | (go_at_call 63; refine Calls.mono (innerSB ((kind : Int)) true _ HI.out) ?_; rintro e w6 ⟨rfl, rfl⟩) | (with_reducible refine storeS rfl _ _ rfl w.heap.size rfl rfl ZQ.out ?_))
              (try simp only [Exit.inBlock, Exit.then])
              refine bodyPost_ret (v := .tuple #[.agg #[.int .i64 0, .int .i64 0, .int .i64 0, .int .i64 0, .int .i64 0, .int .i64 0, .int .i64 0, .int .i64 0, .int .i64 0, .int .i64 0, .int .i64 0, .int .i64 0, .int .i64 0, .int .i64 0, .slice none 0 0, .slice none 0 0], .slice none 0 0, .int .i64 5]) ?_ rfl (srOut_no H5.out (by omega) (K.setRow_below BQ.out (Nat.le_refl _) _))
              exact K.resCell3 Try.results29 _ _ _ w.heap.size _ rfl (run_loadVar_row _ _ 28 28 _ (0, 0) _ (setRow_heap _ _ _ _ _ _ ZQ.out) Try.underlying28 rfl info_six)
            · have hb71 : (x1 : Int) ≤ 7 := by omega
              by_cases hc9 : 40 + sz < k + 8 * x1 + 8
              · have hc91 : 40 + (sz : Int) < (k : Int) + 8 * (x1 : Int) + 8 := by omega
                have H5 := Lib.hid (HNO.out (by simp [noExt, E1.out, hc9]))
                go_wp2_with (first | (go_at_call 63; refine Calls.mono (innerSB ((kind : Int)) true _ HI.out) ?_; rintro e w6 ⟨rfl, rfl⟩) | (with_reducible refine storeS rfl _ _ rfl w.heap.size rfl rfl ZQ.out ?_))
                (try simp only [Exit.inBlock, Exit.then])
                refine bodyPost_ret (v := .tuple #[.agg #[.int .i64 0, .int .i64 0, .int .i64 0, .int .i64 0, .int .i64 0, .int .i64 0, .int .i64 0, .int .i64 0, .int .i64 0, .int .i64 0, .int .i64 0, .int .i64 0, .int .i64 0, .int .i64 0, .slice none 0 0, .slice none 0 0], .slice none 0 0, .int .i64 5]) ?_ rfl (srOut_no H5.out (by omega) (K.setRow_below BQ.out (Nat.le_refl _) _))
                exact K.resCell3 Try.results29 _ _ _ w.heap.size _ rfl (run_loadVar_row _ _ 28 28 _ (0, 0) _ (setRow_heap _ _ _ _ _ _ ZQ.out) Try.underlying28 rfl info_six)
              · have hc91 : (k : Int) + 8 * (x1 : Int) + 8 ≤ 40 + (sz : Int) := by omega
                have WN := Lib.hid (show walkX bs (40 + sz) (4 - (q + 1)) (k + 8 * x1 + 8) kn (ys.map Ey.says ++ [(((kind : Int) : Int), (bs.drop (k + 2)).take (8 * x1 + 6))]) = R by have h := walkX_go (bs := bs) (e := 40 + sz) (f := 4 - (q + 1)) (k := k) (kind := kind) (acc := ys.map Ey.says) HI.out (by rw [HQL.out]; exact noExt_iff.2 ⟨by omega, by omega, by omega, by rw [E1.out]; omega, by rw [E1.out]; omega⟩); rw [E1.out, E2.out] at h; rw [← WQ.out, show 4 - q = (4 - (q + 1)) + 1 by omega]; exact h.symm)
                obtain ⟨ds, hds⟩ : ∃ ds, (bs.drop (k + 2)).take (8 * x1 + 6) = ds := ⟨_, rfl⟩
                rw [hds] at WN
                obtain ⟨S21, S21h⟩ : ∃ S : Option Addr, (if c = k + 2 then (some ⟨gg, oo, none⟩ : Option Addr) else (some (⟨gg, oo, none⟩ : Addr)).map (·.add ((k + 2) * 1))) = S := ⟨_, rfl⟩
                have H21 := Lib.hid (show ∀ w, (Instr.sliceAt 22 (.slice (some ⟨gg, oo, none⟩) n c) (some (.int .i64 ((k : Int) + 2))) (some (.int .i64 ((k : Int) + 8 * (x1 : Int) + 8))) none).run Try.prog w = .ok (.slice S21 (8 * x1 + 6) (c - (k + 2))) w from fun w => by have := cut_mid (some ⟨gg, oo, none⟩) n c (k + 2) (8 * x1 + 6) (k + 8 * x1 + 8) (by omega) (by omega) w; rwa [S21h, show ((k + 2 : Nat) : Int) = (k : Int) + 2 by omega, show ((k + 8 * x1 + 8 : Nat) : Int) = ((k : Int) + 8 * (x1 : Int) + 8) by omega] at this)
                have HDL := Lib.hid (show ds.length = 8 * x1 + 6 by rw [← hds, List.length_take, List.length_drop, HL.out]; omega)
                have HDR := Lib.hid (fun (v : World) (hb : Below w.heap.size w v) => show RB v w.heap.size S21 ds by rw [← S21h, ← hds]; exact ((HR.out.below hb).back (k + 2) c (by rw [HL.out]; exact hc)).front (8 * x1 + 6))
                have HLX := Lib.hid XQ.out.lt
                have HBK := Lib.hid (show ∀ k, (Value.slice A q d).ownBlock = some k → k < wr.heap.size from fun k hk => (XQ.out.row.lt k hk).2)
                clear hds S21h HNO
                go_wp2_with (first | (go_at_call 63; refine Calls.mono (innerSB ((kind : Int)) true _ HI.out) ?_; rintro e w6 ⟨rfl, rfl⟩) | fail)
                clear c9 d14
                refine wp_region_grow (w := wr) ((Value.slice A q d).ownBlock) (by kernel_rfl) 14 167 [(0, 132), (1, 133), (2, 134), (3, 135), (4, 136), (5, 137), (6, 138), (7, 139), (8, 140), (9, 141), (10, 142), (11, 143), (12, 144), (13, 145)] _ ([.val (.pointer (some ⟨b, 14, none⟩)), .val (.slice A q d), .val (.int .i64 (kind : Int)), .pr (EmptyO wr.heap.size) EmptyO.on (EmptyO.grown HBK.out), .val (.slice (some ⟨gg, oo, none⟩) n c), .val (.int .i64 (k : Int)), .val (.int .i64 ((k : Int) + 2)), .val (.int .i64 ((k : Int) + 8 * (x1 : Int) + 8)), .val (.slice S21 (8 * x1 + 6) (c - (k + 2))), .pr (OwnB wr.heap.size (8 * x1 + 6) ds) OwnB.on (OwnB.grown HBK.out), .pr (ExtV wr.heap.size (kind : Int) ds) ExtV.on (ExtV.grown HBK.out), .pr (ExtR wr.heap.size (kind : Int) ds) ExtR.on (ExtR.grown HBK.out), .any, .val (.pointer (some ⟨b, 14, none⟩))]) (by kernel_rfl) (by kernel_rfl) rfl 12 144 (by omega) (by decide) rfl (fun b' v => Below w.heap.size w v ∧ v.heap[b]? = some (.cells #[.int .i64 ((W4 : Int) / 1048576 % 256), .int .i64 ((W4 : Int) % 1048576), .int .i64 (v7 : Int), .int .i64 0, .int .i64 x8.k, .int .i64 x8.a, .int .i64 x8.b, .int .i64 x8.c, .int .i64 x8.d, .int .i64 x24.k, .int .i64 x24.a, .int .i64 x24.b, .int .i64 x24.c, .int .i64 x24.d, .slice A q d, .slice none 0 0] 28 (0, 0)) ∧ v.heap[w.heap.size]? = some (.cells #[.int .i64 0, .int .i64 0, .int .i64 0, .int .i64 0, .int .i64 0, .int .i64 0, .int .i64 0, .int .i64 0, .int .i64 0, .int .i64 0, .int .i64 0, .int .i64 0, .int .i64 0, .int .i64 0, .slice none 0 0, .slice none 0 0] 28 (0, 0)) ∧ wr.heap.size ≤ v.heap.size ∧ (b' = false → XO v (b + 1) A q d ys)) (fun b' v v' hb h => ⟨bthen h.1 hb, K.below hb h.2.1, K.below hb h.2.2.1, Nat.le_trans h.2.2.2.1 hb.size, fun e => (h.2.2.2.2 e).below hb⟩) ⟨⟨BQ.out.os, BQ.out.tape, BQ.out.output, BQ.out.size, BQ.out.block⟩, QQ.out, ZQ.out, Nat.le_refl _, fun _ => ⟨XQ.out.len, XQ.out.row, XQ.out.own, XQ.out.apart, XQ.out.off⟩⟩ (fun v u => ∃ A2 c2 y, u = .slice A2 (q + 1) c2 ∧ y.says = (((kind : Int) : Int), ds) ∧ XO v (b + 1) A2 (q + 1) c2 (ys ++ [y])) (by rintro v v' u hb ⟨A2, c2, y, e1, e2, x⟩; exact ⟨A2, c2, y, e1, e2, x.below hb⟩) ?_ ?_ ?_
                · intro j o hj hjp ho b' a' v K' hx hnd hJJ hK
                  match j, hj, hjp, ho with
                  | 0, _, _, ho =>
                    obtain rfl := Option.some.inj ho
                    have h0 : a'.eval (.tmp 10) = .pointer (some ⟨b, 0, none⟩) := (hx 10 (by decide)).trans rfl
                    exact u_fldS6 _ _ rfl h0 (hK _ _ rfl (Below.refl _ _))
                  | 1, _, _, ho =>
                    obtain rfl := Option.some.inj ho
                    have h0 : a'.eval (.tmp 132) = .pointer (some ⟨b, 14, none⟩) := (grow_of hnd 0 132 (by kernel_rfl) (by decide) :)
                    exact u_exts _ _ _ _ rfl h0 (K.cell hJJ.2.1 14 _ rfl) (hK _ _ rfl (Below.refl _ _))
                  | 2, _, _, ho =>
                    obtain rfl := Option.some.inj ho
                    have h0 : a'.eval (.tmp 11) = .int .i64 (kind : Int) := (hx 11 (by decide)).trans rfl
                    exact u_move _ _ rfl h0 (hK _ _ rfl (Below.refl _ _))
                  | 3, _, _, ho =>
                    obtain rfl := Option.some.inj ho
                    exact wp_mk0 rfl (hK _ _ ⟨v.heap.size, rfl, hJJ.2.2.2.1, K.new v _⟩ (Joins.below_alloc1 v _))
                  | 4, _, _, ho =>
                    obtain rfl := Option.some.inj ho
                    have h0 : a'.eval (.tmp 0) = .slice (some ⟨gg, oo, none⟩) n c := (hx 0 (by decide)).trans rfl
                    exact u_move _ _ rfl h0 (hK _ _ rfl (Below.refl _ _))
                  | 5, _, _, ho =>
                    obtain rfl := Option.some.inj ho
                    have h0 : a'.eval (.tmp 12) = .int .i64 (k : Int) := (hx 12 (by decide)).trans rfl
                    exact u_move _ _ rfl h0 (hK _ _ rfl (Below.refl _ _))
                  | 6, _, _, ho =>
                    obtain rfl := Option.some.inj ho
                    have h0 : a'.eval (.tmp 137) = .int .i64 (k : Int) := (grow_of hnd 5 137 (by kernel_rfl) (by decide) :)
                    exact u_add _ _ _ _ rfl h0 rfl (by omega) (by omega) (by omega) (by omega) (hK _ _ rfl (Below.refl _ _))
                  | 7, _, _, ho =>
                    obtain rfl := Option.some.inj ho
                    have h0 : a'.eval (.tmp 13) = .int .i64 ((k : Int) + 8 * (x1 : Int) + 8) := (hx 13 (by decide)).trans rfl
                    exact u_move _ _ rfl h0 (hK _ _ rfl (Below.refl _ _))
                  | 8, _, _, ho =>
                    obtain rfl := Option.some.inj ho
                    have h0 : a'.eval (.tmp 136) = .slice (some ⟨gg, oo, none⟩) n c := (grow_of hnd 4 136 (by kernel_rfl) (by decide) :)
                    have h1 : a'.eval (.tmp 138) = .int .i64 ((k : Int) + 2) := (grow_of hnd 6 138 (by kernel_rfl) (by decide) :)
                    have h2 : a'.eval (.tmp 139) = .int .i64 ((k : Int) + 8 * (x1 : Int) + 8) := (grow_of hnd 7 139 (by kernel_rfl) (by decide) :)
                    exact u_cut2 _ _ _ _ _ _ _ rfl h0 h1 h2 H21.out (hK _ _ rfl (Below.refl _ _))
                  | 9, _, _, ho =>
                    obtain rfl := Option.some.inj ho
                    obtain ⟨b'', h0, l0, r0⟩ := (grow_of hnd 3 135 (by kernel_rfl) (by decide) :)
                    have h1 : a'.eval (.tmp 140) = .slice S21 (8 * x1 + 6) (c - (k + 2)) := (grow_of hnd 8 140 (by kernel_rfl) (by decide) :)
                    exact wp_append_new _ _ rfl wr.heap.size b'' h0 l0 r0 hJJ.2.2.2.1 w.heap.size S21 (8 * x1 + 6) (c - (k + 2)) ds h1 HDL.out (HDR.out v hJJ.1) (by rw [HDL.out]; omega) (fun E k w' h1 h2 => hK _ _ ⟨E, k, rfl, h1⟩ h2)
                  | 10, _, _, ho =>
                    obtain rfl := Option.some.inj ho
                    have h0 : a'.eval (.tmp 134) = .int .i64 (kind : Int) := (grow_of hnd 2 134 (by kernel_rfl) (by decide) :)
                    obtain ⟨E9, g9, h1, o9⟩ := (grow_of hnd 9 141 (by kernel_rfl) (by decide) :)
                    exact u_buildE _ _ _ _ rfl h0 E9 _ g9 rfl h1 (hK _ _ ⟨⟨(kind : Int), ds, E9, g9⟩, rfl, rfl, by simp only [HDL.out], by simp only [Ey.body, HDL.out]; exact o9⟩ (Below.refl _ _))
                  | 11, _, _, ho =>
                    obtain rfl := Option.some.inj ho
                    obtain ⟨y9, ek, eb, h0, o9⟩ := (grow_of hnd 10 142 (by kernel_rfl) (by decide) :)
                    exact u_oneE _ _ _ _ _ rfl h0 (hK _ _ ⟨y9, v.heap.size, ek, eb, rfl, hJJ.2.2.2.1, K.new v _, o9.alloc _⟩ (Joins.below_alloc1 v _))
                  | 12, _, hjp, _ => exact absurd rfl hjp
                  | 13, _, _, ho =>
                    obtain rfl := Option.some.inj ho
                    have h0 : a'.eval (.tmp 10) = .pointer (some ⟨b, 0, none⟩) := (hx 10 (by decide)).trans rfl
                    exact u_fldS6 _ _ rfl h0 (hK _ _ rfl (Below.refl _ _))
                  | j + 14, hj, _, _ => omega
                · intro o ho a' v K' hx hnd hJJ hK
                  obtain rfl := Option.some.inj ho
                  have h0 : a'.eval (.tmp 133) = .slice A q d := (grow_of hnd 1 133 (by kernel_rfl) (by decide) :)
                  obtain ⟨y9, g9, ek, eb, h1, l9, r9, o9⟩ := (grow_of hnd 11 143 (by kernel_rfl) (by decide) :)
                  have xo := hJJ.2.2.2.2 rfl
                  refine wp_append_x _ _ rfl (b + 1) _ q ys h0 xo.row (g9 + 1) (some ⟨g9, 0, none⟩) 1 y9 h1 (by intro _; exact ⟨g9, 0, rfl, by omega, fun j u hu => by rw [Nat.zero_add]; exact K.cell r9 j u (by simpa using hu)⟩) (by omega) (by have := hJJ.2.2.2.1; omega) ?_
                  intro A2 c2 w' o3 g3 at3
                  refine hK _ _ ⟨A2, c2, y9, rfl, by simp only [Ey.says, ek, eb], XO.snoc xo g3 o3 at3 (own_base o9 (by omega)) (fun z hz k hk e => by have := HLX.out.2 z hz k hk; have := (o9.lt k e).1; omega) (fun k hk e => by have := HLX.out.1 k e; have := (o9.lt k hk).1; omega)⟩ g3 ⟨bgrown hJJ.1 g3 (fun k hk => by have := (xo.row.lt k hk).1; omega), K.kept g3 hJJ.2.1 (fun k hk => by have := (xo.row.lt k hk).1; omega), K.kept g3 hJJ.2.2.1 (fun k hk => by have := (xo.row.lt k hk).1; omega), Nat.le_trans hJJ.2.2.2.1 g3.size, fun e => by cases e⟩
                · intro f v hf OG hJJ
                  have e0 : f 0 = (.pointer (some ⟨b, 14, none⟩)) := hf (0, 132) (by decide) (by decide)
                  have e1 : f 1 = (.slice A q d) := hf (1, 133) (by decide) (by decide)
                  have e2 : f 2 = (.int .i64 (kind : Int)) := hf (2, 134) (by decide) (by decide)
                  have e4 : f 4 = (.slice (some ⟨gg, oo, none⟩) n c) := hf (4, 136) (by decide) (by decide)
                  have e5 : f 5 = (.int .i64 (k : Int)) := hf (5, 137) (by decide) (by decide)
                  have e6 : f 6 = (.int .i64 ((k : Int) + 2)) := hf (6, 138) (by decide) (by decide)
                  have e7 : f 7 = (.int .i64 ((k : Int) + 8 * (x1 : Int) + 8)) := hf (7, 139) (by decide) (by decide)
                  have e8 : f 8 = (.slice S21 (8 * x1 + 6) (c - (k + 2))) := hf (8, 140) (by decide) (by decide)
                  have e13 : f 13 = (.pointer (some ⟨b, 14, none⟩)) := hf (13, 145) (by decide) (by decide)
                  simp only [List.foldl_cons, List.foldl_nil, List.drop_succ_cons, List.drop_zero, e0, e1, e2, e4, e5, e6, e7, e8, e13]
                  clear e0 e1 e2 e4 e5 e6 e7 e8 e13 hf
                  go_simp
                  obtain ⟨A2, c2, y9, e9, hy9, x9⟩ := OG
                  rw [e9]
                  clear e9
                  obtain ⟨j1, j2, j3, j4, _⟩ := hJJ
                  have X9 := Lib.hid x9
                  have HY := Lib.hid hy9
                  have JB := Lib.hid (And.intro j1 (And.intro j2 j3))
                  clear x9 hy9 j1 j3 j4
                  have u14 := K.cell j2 14 _ rfl
                  have y14 := frozen_of_row _ _ 14 _ _ j2
                  clear j2
                  go_upto_region 22 with fail
                  clear u14 y14
                  have q8 : Hid ((v.setCell ⟨b, 14, none⟩ (.slice A2 (q + 1) c2)).heap[b]? = some (.cells #[.int .i64 ((W4 : Int) / 1048576 % 256), .int .i64 ((W4 : Int) % 1048576), .int .i64 (v7 : Int), .int .i64 0, .int .i64 x8.k, .int .i64 x8.a, .int .i64 x8.b, .int .i64 x8.c, .int .i64 x8.d, .int .i64 x24.k, .int .i64 x24.a, .int .i64 x24.b, .int .i64 x24.c, .int .i64 x24.d, .slice A2 (q + 1) c2, .slice none 0 0] 28 (0, 0))) := Lib.hid (K.set JB.out.2.1 14 _)
                  have z8 := Lib.hid (K.other JB.out.2.2 b 14 (.slice A2 (q + 1) c2) (by omega))
                  have X8_ := Lib.hid (X9.out.kept (grownBy_set v b 14 (.slice A2 (q + 1) c2)) (by omega))
                  have B8 := Lib.hid (JB.out.1.setCell (p := ⟨b, 14, none⟩) (show w.heap.size ≤ b by omega) (.slice A2 (q + 1) c2))
                  clear X9 JB
                  generalize v.setCell ⟨b, 14, none⟩ (.slice A2 (q + 1) c2) = w8 at q8 z8 X8_ B8 ⊢
                  have ck := cell_on B8.out HCK.out
                  go_wp2
                  go_roundw
                  case rel => exact ⟨kn, k + 8 * x1 + 8, q + 1, A2, c2, ys ++ [y9], rfl, by simp, by omega, by omega, hkn9, X8_, Lib.hid (by rw [List.map_append, List.map_cons, List.map_nil, HY.out]; exact WN.out), q8, z8, B8⟩
                  case measure => first | (simp [intOf]; done) | (simp [intOf]; omega)
end Go.Proofs.Ytkmijefheejcjaa
