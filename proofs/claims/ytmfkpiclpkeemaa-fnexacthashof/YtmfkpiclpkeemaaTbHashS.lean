/-
  HashOf in the model.
-/
import Derived.Test.YtmfkpiclpkeemaaTbBytS
import Derived.Test.YtmfkpiclpkeemaaFkOk
import Derived.Laws.BitsAllLaws
import Derived.Laws.BitsLemmas
namespace Go.Proofs.Ytmfkpiclpkeemaa
set_option maxRecDepth 100000
open Go.RowKit

theorem ofIntT (a : Nat) (ha : a < 9223372036854775808) : (BitVec.ofInt 64 (a : Int)).toNat = a := by
  rw [BitVec.ofInt_natCast, BitVec.toNat_ofNat]
  exact Nat.mod_eq_of_lt (by omega)
theorem xor_nat (a b : Nat) (ha : a < 9223372036854775808) (hb : b < 9223372036854775808) : bits .xor .i64 (a : Int) (b : Int) = ((a ^^^ b : Nat) : Int) := by
  have hx : a ^^^ b < 2 ^ 63 := Nat.xor_lt_two_pow (by omega) (by omega)
  show IntKind.i64.wrap ((BitVec.ofInt 64 (a : Int) ^^^ BitVec.ofInt 64 (b : Int)).toNat : Int) = _
  rw [BitVec.toNat_xor, ofIntT a ha, ofIntT b hb, IntKind.wrap_i64]
  omega
theorem xor_step (H : Nat) (b : UInt8) (h : H < 4294967296) : bits .xor .i64 (H : Int) (b.toNat : Int) = ((H ^^^ b.toNat : Nat) : Int) := xor_nat H b.toNat (by omega) (by have := b.toNat_lt; omega)
theorem mix_int (X : Nat) (H : Nat) (b : UInt8) (h : H ^^^ b.toNat = X) : ((X * 16777619 % 4294967296 : Nat) : Int) = (mix H b : Int) := by rw [mix, h]
set_option maxHeartbeats 1000000 in
theorem hashS_0a (s : Int) (k : Fk) (w : World) (h1 : ¬ 0 ≤ s) : Calls Try.prog 20 #[.int .i64 s, .agg #[.int .i64 k.tenant, .int .i64 k.key.src.k, .int .i64 k.key.src.a, .int .i64 k.key.src.b, .int .i64 k.key.src.c, .int .i64 k.key.src.d, .int .i64 k.key.dst.k, .int .i64 k.key.dst.a, .int .i64 k.key.dst.b, .int .i64 k.key.dst.c, .int .i64 k.key.dst.d, .int .i64 k.key.proto, .int .i64 k.key.sport, .int .i64 k.key.dport]] w fun e w' => e = .returned (.int .i64 (hashOf s k)) ∧ Below w.heap.size w w' := by
  have HR := Lib.hid (hashOf_no1 (s := s) (k := k) (by simp [upTo, h1]))
  go_enter Try.func20, Try.ntmps20
  go_wp2
  go_ret
  exact ⟨ret_int HR.out.symm, by go_grown⟩

set_option maxHeartbeats 1000000 in
theorem hashS_0b (s : Int) (k : Fk) (w : World) (h0 : 0 ≤ s) (h1 : ¬ s ≤ 4294967295) : Calls Try.prog 20 #[.int .i64 s, .agg #[.int .i64 k.tenant, .int .i64 k.key.src.k, .int .i64 k.key.src.a, .int .i64 k.key.src.b, .int .i64 k.key.src.c, .int .i64 k.key.src.d, .int .i64 k.key.dst.k, .int .i64 k.key.dst.a, .int .i64 k.key.dst.b, .int .i64 k.key.dst.c, .int .i64 k.key.dst.d, .int .i64 k.key.proto, .int .i64 k.key.sport, .int .i64 k.key.dport]] w fun e w' => e = .returned (.int .i64 (hashOf s k)) ∧ Below w.heap.size w w' := by
  have HR := Lib.hid (hashOf_no1 (s := s) (k := k) (by simp [upTo, h1]))
  go_enter Try.func20, Try.ntmps20
  go_wp2
  go_ret
  exact ⟨ret_int HR.out.symm, by go_grown⟩

set_option maxHeartbeats 1000000 in
theorem hashS_1 (s : Int) (k : Fk) (w : World) (h1 : upTo s 4294967295 = true) (h2 : k.ok = false) : Calls Try.prog 20 #[.int .i64 s, .agg #[.int .i64 k.tenant, .int .i64 k.key.src.k, .int .i64 k.key.src.a, .int .i64 k.key.src.b, .int .i64 k.key.src.c, .int .i64 k.key.src.d, .int .i64 k.key.dst.k, .int .i64 k.key.dst.a, .int .i64 k.key.dst.b, .int .i64 k.key.dst.c, .int .i64 k.key.dst.d, .int .i64 k.key.proto, .int .i64 k.key.sport, .int .i64 k.key.dport]] w fun e w' => e = .returned (.int .i64 (hashOf s k)) ∧ Below w.heap.size w w' := by
  have HR := Lib.hid (hashOf_no2 (s := s) h2)
  have h1b := h1
  simp only [upTo, decide_eq_true_eq] at h1b
  obtain ⟨hlo, hhi⟩ := h1b
  have H1 := Lib.hid h1
  have H2 := Lib.hid h2
  have q0 := Lib.hid (K.new w (.cells #[.int .i64 k.tenant, .int .i64 k.key.src.k, .int .i64 k.key.src.a, .int .i64 k.key.src.b, .int .i64 k.key.src.c, .int .i64 k.key.src.d, .int .i64 k.key.dst.k, .int .i64 k.key.dst.a, .int .i64 k.key.dst.b, .int .i64 k.key.dst.c, .int .i64 k.key.dst.d, .int .i64 k.key.proto, .int .i64 k.key.sport, .int .i64 k.key.dport] 33))
  clear h1 h2
  go_enter Try.func20, Try.ntmps20
  go_wp2_with (with_reducible refine loadFk rfl _ rfl w.heap.size rfl q0.out ?_)
  refine Calls.mono (fkOkSB k false H2.out _) ?_
  rintro e w2 ⟨rfl, b2⟩
  have B2 := Lib.hid (bthen (Joins.below_alloc1 w _) b2)
  clear b2
  go_wp2
  go_ret
  exact ⟨ret_int HR.out.symm, B2.out⟩

set_option maxHeartbeats 2000000 in
theorem hashS_2 (s : Int) (k : Fk) (w : World) (h1 : upTo s 4294967295 = true) (h2 : k.ok = true) : Calls Try.prog 20 #[.int .i64 s, .agg #[.int .i64 k.tenant, .int .i64 k.key.src.k, .int .i64 k.key.src.a, .int .i64 k.key.src.b, .int .i64 k.key.src.c, .int .i64 k.key.src.d, .int .i64 k.key.dst.k, .int .i64 k.key.dst.a, .int .i64 k.key.dst.b, .int .i64 k.key.dst.c, .int .i64 k.key.dst.d, .int .i64 k.key.proto, .int .i64 k.key.sport, .int .i64 k.key.dport]] w fun e w' => e = .returned (.int .i64 (hashOf s k)) ∧ Below w.heap.size w w' := by
  have HR := Lib.hid (hashOf_yes h1 h2)
  have h1b := h1
  simp only [upTo, decide_eq_true_eq] at h1b
  obtain ⟨hlo, hhi⟩ := h1b
  have H1 := Lib.hid h1
  have H2 := Lib.hid h2
  have q0 := Lib.hid (K.new w (.cells #[.int .i64 k.tenant, .int .i64 k.key.src.k, .int .i64 k.key.src.a, .int .i64 k.key.src.b, .int .i64 k.key.src.c, .int .i64 k.key.src.d, .int .i64 k.key.dst.k, .int .i64 k.key.dst.a, .int .i64 k.key.dst.b, .int .i64 k.key.dst.c, .int .i64 k.key.dst.d, .int .i64 k.key.proto, .int .i64 k.key.sport, .int .i64 k.key.dport] 33))
  have HML := Lib.hid (fun bs => mixed_lt (s := s.toNat) (by omega) bs)
  clear h1 h2
  go_enter Try.func20, Try.ntmps20
  go_wp2_with (with_reducible refine loadFk rfl _ rfl w.heap.size rfl q0.out ?_)
  refine Calls.mono (fkOkSB k true H2.out _) ?_
  rintro e w2 ⟨rfl, b2⟩
  have q2 := Lib.hid (K.below b2 q0.out)
  have B2 := Lib.hid (bthen (Joins.below_alloc1 w _) b2)
  clear b2 q0
  go_wp2_with (with_reducible refine loadFk rfl _ rfl w.heap.size rfl q2.out ?_)
  refine Calls.mono (keyBytesS k H2.out _) ?_
  rintro e w3 ⟨D, n, d, rfl, hn, o3, b3⟩
  have R3 := Lib.hid (RB.of_own o3)
  have B3 := Lib.hid (bthen B2.out b3)
  have hn39 : n ≤ 39 := by rw [hn]; exact Fk.short k
  have HN := Lib.hid hn
  obtain ⟨bs, hbs⟩ : ∃ bs, k.bytes = bs := ⟨_, rfl⟩
  rw [hbs] at R3 HN
  have HBS := Lib.hid hbs
  clear o3 b3 q2 B2 hn hbs
  go_wp2
  go_loop [5, 7] (fun h i => ∃ j : Nat, j ≤ n ∧ i = .int .i64 j ∧ h = .int .i64 ((mixed s.toNat (bs.take j) : Nat) : Int)) (fun _ i => n - (intOf i).toNat)
  case atStart => exact ⟨0, Nat.zero_le _, rfl, by rw [List.take_zero]; show Value.int .i64 s = .int .i64 ((s.toNat : Nat) : Int); rw [Int.toNat_of_nonneg hlo]⟩
  case round =>
    obtain ⟨j, hj, rfl, rfl⟩ := hrel
    by_cases hlt : j < n
    · have hj1 : j < bs.length := by rw [← HN.out]; exact hlt
      obtain ⟨g, o, rfl, hg, hc⟩ := R3.out.at_ hj1
      have HT := Lib.hid (show mixed s.toNat (bs.take (j + 1)) = mix (mixed s.toNat (bs.take j)) bs[j] by rw [take_snoc bs j hj1, mixed_snoc])
      have hlt32 := HML.out (bs.take j)
      generalize bs[j] = b at *
      generalize mixed s.toNat (bs.take j) = H at *
      have hx1 := xor_step H b hlt32
      have hb8 := b.toNat_lt
      have hX := xor_lt hlt32 (show b.toNat < 4294967296 by omega)
      have hM := mix_int _ H b rfl
      generalize H ^^^ b.toNat = X at *
      have HM := Lib.hid hM
      clear hM hg
      have hw : IntKind.i64.wrap ((X : Int) * 16777619) = (X : Int) * 16777619 := by rw [IntKind.wrap_i64]; omega
      have ht : ((X : Int) * 16777619).tmod 4294967296 = ((X * 16777619 % 4294967296 : Nat) : Int) := by rw [Int.tmod_eq_emod_of_nonneg (by omega)]; omega
      go_wp2
      go_round
      case rel => exact ⟨j + 1, by omega, by go_num, ret_eq (by rw [HT.out, ← HM.out]; omega)⟩
      case measure => simp [intOf]; omega
    · obtain rfl : j = n := by omega
      have HF := Lib.hid (show fin32 (mixed s.toNat (bs.take j)) = hashN s k by rw [List.take_of_length_le (by rw [← HN.out]; exact Nat.le_refl _), hashN, HBS.out])
      have hlt32 := HML.out (bs.take j)
      generalize mixed s.toNat (bs.take j) = H at *
      have hx2 := xor_nat H (H / 65536) (by omega) (by omega)
      have HF2 := Lib.hid (show H ^^^ (H / 65536) = hashN s k from HF.out)
      have hd : (H : Int).tdiv 65536 = ((H / 65536 : Nat) : Int) := by rw [Int.tdiv_eq_ediv_of_nonneg (by omega)]; omega
      have hd2 : (H : Int) / 65536 = ((H / 65536 : Nat) : Int) := by omega
      generalize H ^^^ (H / 65536) = Z at *
      have hQ : H / 65536 ≤ 65535 := by omega
      generalize H / 65536 = Q at *
      clear HF
      go_wp2
      go_ret
      exact ⟨ret_int (by rw [HR.out, ← HF2.out]), B3.out⟩

theorem hashS (s : Int) (k : Fk) (w : World) : Calls Try.prog 20 #[.int .i64 s, .agg #[.int .i64 k.tenant, .int .i64 k.key.src.k, .int .i64 k.key.src.a, .int .i64 k.key.src.b, .int .i64 k.key.src.c, .int .i64 k.key.src.d, .int .i64 k.key.dst.k, .int .i64 k.key.dst.a, .int .i64 k.key.dst.b, .int .i64 k.key.dst.c, .int .i64 k.key.dst.d, .int .i64 k.key.proto, .int .i64 k.key.sport, .int .i64 k.key.dport]] w fun e w' => e = .returned (.int .i64 (hashOf s k)) ∧ Below w.heap.size w w' := by
  cases h1 : upTo s 4294967295 with
  | false =>
    by_cases h0 : 0 ≤ s
    · exact hashS_0b s k w h0 (fun h => by simp [upTo, h0, h] at h1)
    · exact hashS_0a s k w h0
  | true =>
    cases h2 : k.ok with
    | false => exact hashS_1 s k w h1 h2
    | true => exact hashS_2 s k w h1 h2
theorem hashSB (s : Int) (k : Fk) (H : Int) (h : hashOf s k = H) (w : World) : Calls Try.prog 20 #[.int .i64 s, .agg #[.int .i64 k.tenant, .int .i64 k.key.src.k, .int .i64 k.key.src.a, .int .i64 k.key.src.b, .int .i64 k.key.src.c, .int .i64 k.key.src.d, .int .i64 k.key.dst.k, .int .i64 k.key.dst.a, .int .i64 k.key.dst.b, .int .i64 k.key.dst.c, .int .i64 k.key.dst.d, .int .i64 k.key.proto, .int .i64 k.key.sport, .int .i64 k.key.dport]] w fun e w' => e = .returned (.int .i64 H) ∧ Below w.heap.size w w' := h ▸ hashS s k w
end Go.Proofs.Ytmfkpiclpkeemaa
