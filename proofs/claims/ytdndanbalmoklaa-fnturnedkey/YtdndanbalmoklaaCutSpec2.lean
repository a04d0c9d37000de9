/-
  Cut in the model: the bits are cleared one by one.
-/
import Derived.Test.YtdndanbalmoklaaCutSpec
namespace Go.Proofs.Ytdndanbalmoklaa
set_option maxRecDepth 100000
open Go.RowKit

theorem bytes_bits {x : Ad} (h : x.ok = true) : x.bits = 8 * (x.bytes.length : Int) := by
  rcases x.ok_kind h with hk | hk
  · rw [bytes_four h hk]; simp [Ad.bits, hk, put32]
  · rw [bytes_six h hk, x.whole_length]; simp [Ad.bits, hk]
theorem bytes_len {x : Ad} (h : x.ok = true) : x.bytes.length = 4 ∨ x.bytes.length = 16 := by
  rcases x.ok_kind h with hk | hk
  · rw [bytes_four h hk]; exact .inl rfl
  · rw [bytes_six h hk, x.whole_length]; exact .inr rfl
theorem cut_ofA {x : Ad} {n : Int} (h : x.ok = true) (h0 : 0 ≤ n) (h1 : n ≤ x.bits) : x.cut n = ofA (cutB n.toNat x.bytes) := by
  rcases x.ok_kind h with hk | hk
  · rw [Ad.cut_four h hk h0 (by simp [Ad.bits, hk] at h1; exact h1), bytes_four h hk, ofA_four (by rw [cutB_length]; rfl)]
  · rw [Ad.cut_six h hk h0 (by simp [Ad.bits, hk] at h1; exact h1), bytes_six h hk, ofA_six (by rw [cutB_length, x.whole_length])]
theorem cells_set (bs : List UInt8) (i : Nat) (b : UInt8) : (cellsOf bs).set i (.int .u8 (b.toNat : Int)) = cellsOf (bs.set i b) := by simp [cellsOf, List.map_set]

theorem bit_test (b t : Int) (h0 : 0 ≤ b) (h1 : b ≤ 255) (ht : 1 ≤ t) : ((wrap64 (b / t)).tmod 2 == 1) = decide (b / t % 2 = 1) := by
  have q0 : 0 ≤ b / t := Int.ediv_nonneg h0 (by omega)
  have q1 : b / t ≤ b := Int.ediv_le_self _ h0
  rw [IntWalk.wrap64_in _ (by omega), Int.tmod_eq_emod_of_nonneg q0]
  rfl

set_option maxHeartbeats 1000000 in
set_option maxRecDepth 100000 in
theorem specCut_yes (x : Ad) (n : Int) (h : x.ok = true ∧ 0 ≤ n ∧ n ≤ x.bits) (w : World) :
    Calls Try.prog 82 #[.agg #[.int .i64 x.k, .int .i64 x.a, .int .i64 x.b, .int .i64 x.c, .int .i64 x.d], .int .i64 n] w fun e w' => e = .returned (.agg #[.int .i64 (x.cut n).k, .int .i64 (x.cut n).a, .int .i64 (x.cut n).b, .int .i64 (x.cut n).c, .int .i64 (x.cut n).d]) ∧ Below w.heap.size w w' := by
  obtain ⟨hok, h0, h1⟩ := h
  have HC := Lib.hid (cut_ofA hok h0 h1)
  obtain ⟨bs, hbs⟩ : ∃ bs, x.bytes = bs := ⟨_, rfl⟩
  obtain ⟨L, hL⟩ : ∃ L, bs.length = L := ⟨_, rfl⟩
  have hL16 : L ≤ 16 := by have := bytes_len hok; rw [hbs, hL] at this; omega
  have hbits := bytes_bits hok
  rw [hbs, hL] at hbits
  obtain ⟨N, hN⟩ : ∃ N : Nat, n = N := ⟨n.toNat, by omega⟩
  subst hN
  rw [Int.toNat_natCast, hbs] at HC
  have hNL : N ≤ 8 * L := by omega
  have so : ∀ v : World, Calls Try.prog 81 #[.agg #[.int .i64 x.k, .int .i64 x.a, .int .i64 x.b, .int .i64 x.c, .int .i64 x.d]] v fun e v' => ∃ A c, e = .returned (.slice A L c) ∧ v'.ownsRow v.heap.size 5 1 (.slice A L c) L (cellsOf bs) ∧ Below v.heap.size v v' := by
    intro v
    have h := specAddrBytes x v
    unfold BytesOut at h
    rwa [hbs, hL] at h
  have SO := Lib.hid so
  have HO := Lib.hid hok
  have HB := Lib.hid hbits
  have HL := Lib.hid hL
  have hb := bits_bd x
  clear so hok hbits hbs hL
  go_enter Try.func82, Try.ntmps82
  go_wp2_with fail
  refine (specAddrOk x _).mono ?_
  rintro e w1 ⟨rfl, b1⟩
  have hok := HO.out
  have c0 : w1.cell? ⟨w.heap.size, 0, none⟩ = some (.int .i64 x.k) := cell_on b1 (by simp [go_sem])
  have c1 : w1.cell? ⟨w.heap.size, 1, none⟩ = some (.int .i64 x.a) := cell_on b1 (by simp [go_sem])
  have c2 : w1.cell? ⟨w.heap.size, 2, none⟩ = some (.int .i64 x.b) := cell_on b1 (by simp [go_sem])
  have c3 : w1.cell? ⟨w.heap.size, 3, none⟩ = some (.int .i64 x.c) := cell_on b1 (by simp [go_sem])
  have c4 : w1.cell? ⟨w.heap.size, 4, none⟩ = some (.int .i64 x.d) := cell_on b1 (by simp [go_sem])
  have q1 := Lib.hid (row_on b1 (g := w.heap.size + 1) (by simp) (heap_alloc2_new w _ _))
  have B1 := bthen (Joins.below_alloc2 w _ _) b1
  clear b1
  go_wp2_with fail
  refine (specBits x _).mono ?_
  rintro e w2 ⟨rfl, b2⟩
  have c0 := cell_on b2 c0
  have c1 := cell_on b2 c1
  have c2 := cell_on b2 c2
  have c3 := cell_on b2 c3
  have c4 := cell_on b2 c4
  have q2 := Lib.hid (row_on b2 (row_lt q1.out) q1.out)
  have B2 := bthen B1 b2
  clear b2 q1 B1
  go_wp2_with fail
  refine (SO.out _).mono ?_
  rintro e w3 ⟨A, k3, rfl, o3, b3⟩
  have C0 := Lib.hid c0
  have C1 := Lib.hid c1
  have C2 := Lib.hid c2
  have C3 := Lib.hid c3
  have C4 := Lib.hid c4
  clear c0 c1 c2 c3 c4 hok
  have O3 := Lib.hid o3
  have B3 := Lib.hid b3
  clear o3 b3
  go_wp2_with fail
  go_loopw [6] (fun s wr => ∃ i : Nat, N ≤ i ∧ i ≤ 8 * L ∧ s = .int .i64 i ∧ Hid (wr.ownsRow w2.heap.size 5 1 (.slice A L k3) L (cellsOf (midB N i bs))) ∧ Hid (Below w2.heap.size w2 wr)) (fun s _ => 8 * L - (intOf s).toNat)
  case atStart => exact ⟨N, Nat.le_refl _, hNL, rfl, Lib.hid (by rw [midB_start]; exact O3.out), B3⟩
  case round =>
    obtain ⟨i, hi0, hi1, rfl, ho, hbl⟩ := hrel
    have lt0 : w.heap.size < w2.heap.size := Nat.lt_of_lt_of_le (Nat.lt_succ_self _) (Nat.le_of_lt (row_lt q2.out))
    have d0 := (hbl.out.cell (p := ⟨w.heap.size, 0, none⟩) lt0).trans C0.out
    have d1 := (hbl.out.cell (p := ⟨w.heap.size, 1, none⟩) lt0).trans C1.out
    have d2 := (hbl.out.cell (p := ⟨w.heap.size, 2, none⟩) lt0).trans C2.out
    have d3 := (hbl.out.cell (p := ⟨w.heap.size, 3, none⟩) lt0).trans C3.out
    have d4 := (hbl.out.cell (p := ⟨w.heap.size, 4, none⟩) lt0).trans C4.out
    go_wp2_with fail
    refine (specBits x _).mono ?_
    rintro e w4 ⟨rfl, b4⟩
    clear d0 d1 d2 d3 d4
    have o4 := own_below ho.out b4
    have B4 := Lib.hid (hbl.out.trans (b4.mono hbl.out.size))
    by_cases hlt : i < 8 * L
    · have hltI : (i : Int) < x.bits := by have := HB.out; omega
      have O4 := Lib.hid o4
      have hs7 : i % 8 ≤ 7 := by omega
      clear o4 b4
      go_wp2_with fail
      go_loop [7, 8] (fun t s => ∃ m : Nat, m ≤ i % 8 ∧ s = .int .i64 ((i : Int) % 8 - m) ∧ t = .int .i64 (bitAt m)) (fun _ s => (intOf s).toNat)
      case atStart => exact ⟨0, Nat.zero_le _, by go_num, rfl⟩
      case round =>
        obtain ⟨m, hm, rfl, rfl⟩ := hrel
        obtain ⟨t1, t2⟩ := bitAt_bd m (by omega)
        by_cases hm7 : m < i % 8
        · have hp : (0 : Int) < (i : Int) % 8 - m := by omega
          have hh := Lib.hid (bitAt_half m (by omega))
          go_wp2
          go_round
          case rel => exact ⟨m + 1, by omega, by go_num, by rw [← hh.out]⟩
          case measure => simp [intOf]; omega
        · have hmi : m = i % 8 := by omega
          have hp : ¬ (0 : Int) < (i : Int) % 8 - m := by omega
          have hiL : i / 8 < bs.length := by rw [HL.out]; omega
          obtain ⟨g, rfl, hg⟩ : ∃ g, A = some ⟨g, 0, none⟩ ∧ w2.heap.size ≤ g := by
            rcases O4.out.2 with ⟨_, h2⟩ | ⟨g, cap, cur, hv, hbase, _⟩
            · omega
            · injection hv with hA
              exact ⟨g, hA, hbase⟩
          obtain ⟨j, hj⟩ : ∃ j : Nat, j = i / 8 := ⟨_, rfl⟩
          have hjI : (i : Int) / 8 = (j : Int) := by omega
          have hjL : j < L := by omega
          obtain ⟨lo, hlo⟩ : ∃ lo : Nat, lo = min 8 (N - 8 * (i / 8)) := ⟨_, rfl⟩
          have hls : lo ≤ m := by omega
          obtain ⟨b, hb0⟩ : ∃ b : UInt8, b = midByte bs[i / 8] lo m := ⟨_, rfl⟩
          have hcell : w4.cell? ⟨g, j, none⟩ = some (.int .u8 (b.toNat : Int)) := by
            have e := midB_at N i bs hiL
            rw [← hlo, ← hmi, ← hb0] at e
            rw [O4.out.cellAt j (by omega), cellsOf_get _ j b]
            rw [hj, List.getElem?_eq_getElem (by rw [midB_length]; exact hiL), e]
          have hfz := O4.out.frozenAt j
          have hb255 : b.toNat < 256 := UInt8.toNat_lt b
          by_cases hbit : (b.toNat : Int) / bitAt m % 2 = 1
          · obtain ⟨b2, hb2⟩ : ∃ b2 : UInt8, b2 = midByte bs[i / 8] lo (m + 1) := ⟨_, rfl⟩
            have hon := midByte_on bs[i / 8] lo m hls (by omega) (by rw [← hb0]; exact hbit)
            rw [← hb0, ← hb2] at hon
            have hb2n : b2.toNat < 256 := UInt8.toNat_lt b2
            have R := O4.out.stored j (.int .u8 (b2.toNat : Int))
            have hst := midB_step N i bs hiL
            rw [← hlo, ← hmi, ← hb2, ← hj] at hst
            rw [cells_set, ← hst] at R
            have R1 := Lib.hid R.1
            have R2 := Lib.hid (B4.out.setCell (p := ⟨g, j, none⟩) hg (.int .u8 (b2.toNat : Int)))
            have hq : ((wrap64 ((b.toNat : Int) / bitAt m)).tmod 2 == 1) = true := by rw [bit_test _ _ (by omega) (by omega) t1]; exact decide_eq_true hbit
            clear R hst hb2 hb0 hlo hj O4 B4 hmi hm7 hm hbit
            go_wp2
            exact ⟨⟨i + 1, by omega, by omega, by go_num, R1, R2⟩, by simp [intOf]; omega⟩
          · have hoff := midByte_off bs[i / 8] lo m hls (by omega) (by rw [← hb0]; exact hbit)
            have hst := midB_step N i bs hiL
            have hsame : midB N (i + 1) bs = midB N i bs := by
              rw [hst, ← hlo, ← hmi, hoff]
              have e := midB_at N i bs hiL
              rw [← hlo, ← hmi] at e
              rw [← e]
              exact List.set_getElem_self _
            have R1 := O4
            rw [← hsame] at R1
            have hq : ((wrap64 ((b.toNat : Int) / bitAt m)).tmod 2 == 1) = false := by rw [bit_test _ _ (by omega) (by omega) t1]; exact decide_eq_false hbit
            clear hst hb0 hlo hj O4 hmi hm7 hm hbit hoff hsame
            go_wp2
            exact ⟨⟨i + 1, by omega, by omega, by go_num, R1, B4⟩, by simp [intOf]; omega⟩
    · obtain rfl : i = 8 * L := by omega
      have hltI : ¬ ((8 * L : Nat) : Int) < x.bits := by have := HB.out; omega
      rw [midB_end N _ bs (by rw [HL.out]; exact Nat.le_refl _)] at o4
      have hlc : (cutB N bs).length = L := by rw [cutB_length, HL.out]
      have HLC := Lib.hid hlc
      have R4 := Lib.hid (RB.of_own o4)
      have q4 := Lib.hid (row_on B4.out (row_lt q2.out) q2.out)
      have b24 := Lib.hid (B2.trans (B4.out.mono B2.size))
      clear hlc o4 b4
      go_wp2_with fail
      refine (specAddrOf A L k3 (cutB N bs) _ R4.out HLC.out (by omega)).mono ?_
      rintro e w5 ⟨rfl, b5⟩
      have hcut := HC.out
      obtain ⟨y, hy⟩ : ∃ y, ofA (cutB N bs) = y := ⟨_, rfl⟩
      obtain ⟨ok, hok⟩ : ∃ ok, okA (cutB N bs) = ok := ⟨_, rfl⟩
      rw [hy] at hcut
      have HCC := Lib.hid hcut
      rw [hy, hok]
      clear hcut hy hok
      have q6 := Lib.hid (row_on (Joins.below_alloc1 w5 (.cells #[.int .i64 y.k, .int .i64 y.a, .int .i64 y.b, .int .i64 y.c, .int .i64 y.d] 29)) (row_lt (row_on b5 (row_lt q4.out) q4.out)) (row_on b5 (row_lt q4.out) q4.out))
      obtain ⟨⟨d0, d1, d2, d3, d4⟩, f0, f1, f2, f3, f4⟩ := row5 q6.out
      have B6 := bthen (bthen b24.out b5) (Joins.below_alloc1 w5 (.cells #[.int .i64 y.k, .int .i64 y.a, .int .i64 y.b, .int .i64 y.c, .int .i64 y.d] 29))
      go_wp2
      (try simp only [Exit.inBlock, Exit.then])
      refine bodyPost_ret (v := .agg #[.int .i64 y.k, .int .i64 y.a, .int .i64 y.b, .int .i64 y.c, .int .i64 y.d]) ?_ rfl ⟨by rw [HCC.out], by go_grown⟩
      refine res_cell Try.results82 _ _ _ (w.heap.size + 1) _ ?_ (run_loadVar_row _ _ 29 29 _ (0, 0) _ (set5 _ _ _ _ _ q6.out) Try.underlying29 rfl info_addr)
      rfl

theorem specCut (x : Ad) (n : Int) (w : World) : Calls Try.prog 82 #[.agg #[.int .i64 x.k, .int .i64 x.a, .int .i64 x.b, .int .i64 x.c, .int .i64 x.d], .int .i64 n] w fun e w' => e = .returned (.agg #[.int .i64 (x.cut n).k, .int .i64 (x.cut n).a, .int .i64 (x.cut n).b, .int .i64 (x.cut n).c, .int .i64 (x.cut n).d]) ∧ Below w.heap.size w w' := by
  by_cases h : x.ok = true ∧ 0 ≤ n ∧ n ≤ x.bits
  · exact specCut_yes x n h w
  · rw [Ad.cut_not h]
    exact specCut_no x n h w
end Go.Proofs.Ytdndanbalmoklaa
