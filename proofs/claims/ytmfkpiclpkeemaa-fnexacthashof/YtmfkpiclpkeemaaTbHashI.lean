/-
  HashOf in the program.
-/
import Derived.Test.YtmfkpiclpkeemaaTbBytI
import Derived.Test.YtmfkpiclpkeemaaTbHashS
import Derived.Laws.BitsAllLaws
import Derived.Laws.BitsLemmas
namespace Go.Proofs.Ytmfkpiclpkeemaa
set_option maxRecDepth 100000
open Go.RowKit

set_option maxHeartbeats 1000000 in
theorem hashI_0 (s : Int) (k : Fk) (w : World) (h1 : upTo s 4294967295 = false) : Calls Try.prog 21 #[.int .i64 s, .agg #[.int .i64 k.tenant, .int .i64 k.key.src.k, .int .i64 k.key.src.a, .int .i64 k.key.src.b, .int .i64 k.key.src.c, .int .i64 k.key.src.d, .int .i64 k.key.dst.k, .int .i64 k.key.dst.a, .int .i64 k.key.dst.b, .int .i64 k.key.dst.c, .int .i64 k.key.dst.d, .int .i64 k.key.proto, .int .i64 k.key.sport, .int .i64 k.key.dport]] w fun e w' => e = .returned (.int .i64 (hashOf s k)) ∧ Below w.heap.size w w' := by
  have HR := Lib.hid (hashOf_no1 (k := k) h1)
  have H1 := Lib.hid h1
  clear h1
  go_enter Try.func21, Try.ntmps21
  go_wp2_with fail
  refine Calls.mono (ruleW 0 s 4294967295 false H1.out _) ?_
  rintro e w1 ⟨rfl, b1⟩
  have B1 := Lib.hid (bthen (Joins.below_alloc1 w _) b1)
  clear b1
  go_wp2
  go_ret
  exact ⟨ret_int HR.out.symm, B1.out⟩

set_option maxHeartbeats 1000000 in
theorem hashI_1 (s : Int) (k : Fk) (w : World) (h1 : upTo s 4294967295 = true) (h2 : k.ok = false) : Calls Try.prog 21 #[.int .i64 s, .agg #[.int .i64 k.tenant, .int .i64 k.key.src.k, .int .i64 k.key.src.a, .int .i64 k.key.src.b, .int .i64 k.key.src.c, .int .i64 k.key.src.d, .int .i64 k.key.dst.k, .int .i64 k.key.dst.a, .int .i64 k.key.dst.b, .int .i64 k.key.dst.c, .int .i64 k.key.dst.d, .int .i64 k.key.proto, .int .i64 k.key.sport, .int .i64 k.key.dport]] w fun e w' => e = .returned (.int .i64 (hashOf s k)) ∧ Below w.heap.size w w' := by
  have HR := Lib.hid (hashOf_no2 (s := s) h2)
  have h1b := h1
  simp only [upTo, decide_eq_true_eq] at h1b
  obtain ⟨hlo, hhi⟩ := h1b
  have H1 := Lib.hid h1
  have H2 := Lib.hid h2
  have q0 := Lib.hid (K.new w (.cells #[.int .i64 k.tenant, .int .i64 k.key.src.k, .int .i64 k.key.src.a, .int .i64 k.key.src.b, .int .i64 k.key.src.c, .int .i64 k.key.src.d, .int .i64 k.key.dst.k, .int .i64 k.key.dst.a, .int .i64 k.key.dst.b, .int .i64 k.key.dst.c, .int .i64 k.key.dst.d, .int .i64 k.key.proto, .int .i64 k.key.sport, .int .i64 k.key.dport] 33))
  clear h1 h2
  go_enter Try.func21, Try.ntmps21
  go_wp2_with fail
  refine Calls.mono (ruleW 0 s 4294967295 true H1.out _) ?_
  rintro e w1 ⟨rfl, b1⟩
  have q1 := Lib.hid (K.below b1 q0.out)
  have B1 := Lib.hid (bthen (Joins.below_alloc1 w _) b1)
  clear b1 q0
  obtain ⟨z0, z1, z2, z3, z4, z5, z6, z7, z8, z9, z10, z11, z12, z13⟩ := K.fk q1.out
  go_wp2_with (with_reducible refine loadFk rfl _ rfl w.heap.size rfl q1.out ?_)
  refine Calls.mono (fkOkIB k false H2.out _) ?_
  rintro e w2 ⟨rfl, b2⟩
  have B2 := Lib.hid (bthen B1.out b2)
  clear b2
  try clear z0 z1 z2 z3 z4 z5 z6 z7 z8 z9 z10 z11 z12 z13
  go_wp2
  go_ret
  exact ⟨ret_int HR.out.symm, B2.out⟩

set_option maxHeartbeats 2000000 in
theorem hashI_2 (s : Int) (k : Fk) (w : World) (h1 : upTo s 4294967295 = true) (h2 : k.ok = true) : Calls Try.prog 21 #[.int .i64 s, .agg #[.int .i64 k.tenant, .int .i64 k.key.src.k, .int .i64 k.key.src.a, .int .i64 k.key.src.b, .int .i64 k.key.src.c, .int .i64 k.key.src.d, .int .i64 k.key.dst.k, .int .i64 k.key.dst.a, .int .i64 k.key.dst.b, .int .i64 k.key.dst.c, .int .i64 k.key.dst.d, .int .i64 k.key.proto, .int .i64 k.key.sport, .int .i64 k.key.dport]] w fun e w' => e = .returned (.int .i64 (hashOf s k)) ∧ Below w.heap.size w w' := by
  have HR := Lib.hid (hashOf_yes h1 h2)
  have h1b := h1
  simp only [upTo, decide_eq_true_eq] at h1b
  obtain ⟨hlo, hhi⟩ := h1b
  have H1 := Lib.hid h1
  have H2 := Lib.hid h2
  have q0 := Lib.hid (K.new w (.cells #[.int .i64 k.tenant, .int .i64 k.key.src.k, .int .i64 k.key.src.a, .int .i64 k.key.src.b, .int .i64 k.key.src.c, .int .i64 k.key.src.d, .int .i64 k.key.dst.k, .int .i64 k.key.dst.a, .int .i64 k.key.dst.b, .int .i64 k.key.dst.c, .int .i64 k.key.dst.d, .int .i64 k.key.proto, .int .i64 k.key.sport, .int .i64 k.key.dport] 33))
  have HML := Lib.hid (fun bs => mixed_lt (s := s.toNat) (by omega) bs)
  clear h1 h2
  go_enter Try.func21, Try.ntmps21
  go_wp2_with fail
  refine Calls.mono (ruleW 0 s 4294967295 true H1.out _) ?_
  rintro e w1 ⟨rfl, b1⟩
  have q1 := Lib.hid (K.below b1 q0.out)
  have B1 := Lib.hid (bthen (Joins.below_alloc1 w _) b1)
  clear b1 q0
  obtain ⟨z0, z1, z2, z3, z4, z5, z6, z7, z8, z9, z10, z11, z12, z13⟩ := K.fk q1.out
  go_wp2_with (with_reducible refine loadFk rfl _ rfl w.heap.size rfl q1.out ?_)
  refine Calls.mono (fkOkIB k true H2.out _) ?_
  rintro e w2 ⟨rfl, b2⟩
  have q2 := Lib.hid (K.below b2 q1.out)
  have B2 := Lib.hid (bthen B1.out b2)
  clear b2 q1
  try clear z0 z1 z2 z3 z4 z5 z6 z7 z8 z9 z10 z11 z12 z13
  go_wp2_with (with_reducible refine loadFk rfl _ rfl w.heap.size rfl q2.out ?_)
  refine Calls.mono (keyBytesI k H2.out _) ?_
  rintro e w3 ⟨D, n, d, rfl, hn, o3, b3⟩
  have R3 := Lib.hid (RB.of_own o3)
  have B3 := Lib.hid (bthen B2.out b3)
  have hn39 : n ≤ 39 := by rw [hn]; exact Fk.short k
  have HN := Lib.hid hn
  obtain ⟨bs, hbs⟩ : ∃ bs, k.bytes = bs := ⟨_, rfl⟩
  rw [hbs] at R3 HN
  have HBS := Lib.hid hbs
  clear o3 b3 q2 B2 hn hbs
  go_wp2
  go_loop [5, 20] (fun h i => ∃ j : Nat, j ≤ n ∧ i = .int .i64 j ∧ h = .int .i64 ((mixed s.toNat (bs.take j) : Nat) : Int)) (fun _ i => n - (intOf i).toNat)
  case atStart => exact ⟨0, Nat.zero_le _, rfl, by rw [List.take_zero]; show Value.int .i64 s = .int .i64 ((s.toNat : Nat) : Int); rw [Int.toNat_of_nonneg hlo]⟩
  case round =>
    obtain ⟨j, hj, rfl, rfl⟩ := hrel
    by_cases hlt : j < n
    · have hj1 : j < bs.length := by rw [← HN.out]; exact hlt
      obtain ⟨g, o, rfl, hg, hc⟩ := R3.out.at_ hj1
      have HT := Lib.hid (show mixed s.toNat (bs.take (j + 1)) = mix (mixed s.toNat (bs.take j)) bs[j] by rw [take_snoc bs j hj1, mixed_snoc])
      have hlt32 := HML.out (bs.take j)
      generalize bs[j] = b at *
      generalize mixed s.toNat (bs.take j) = H at *
      have hx1 := xor_step H b hlt32
      have hb8 := b.toNat_lt
      have hX := xor_lt hlt32 (show b.toNat < 4294967296 by omega)
      have hM := mix_int _ H b rfl
      generalize H ^^^ b.toNat = X at *
      have HM := Lib.hid hM
      clear hM hg
      have hw : IntKind.i64.wrap ((X : Int) * 16777619) = (X : Int) * 16777619 := by rw [IntKind.wrap_i64]; omega
      have ht : ((X : Int) * 16777619).tmod 4294967296 = ((X * 16777619 % 4294967296 : Nat) : Int) := by rw [Int.tmod_eq_emod_of_nonneg (by omega)]; omega
      go_wp2
      go_round
      case rel => exact ⟨j + 1, by omega, by go_num, ret_eq (by rw [HT.out, ← HM.out]; omega)⟩
      case measure => simp [intOf]; omega
    · obtain rfl : j = n := by omega
      have HF := Lib.hid (show fin32 (mixed s.toNat (bs.take j)) = hashN s k by rw [List.take_of_length_le (by rw [← HN.out]; exact Nat.le_refl _), hashN, HBS.out])
      have hlt32 := HML.out (bs.take j)
      generalize mixed s.toNat (bs.take j) = H at *
      have hx2 := xor_nat H (H / 65536) (by omega) (by omega)
      have HF2 := Lib.hid (show H ^^^ (H / 65536) = hashN s k from HF.out)
      have hd : (H : Int).tdiv 65536 = ((H / 65536 : Nat) : Int) := by rw [Int.tdiv_eq_ediv_of_nonneg (by omega)]; omega
      have hd2 : (H : Int) / 65536 = ((H / 65536 : Nat) : Int) := by omega
      generalize H ^^^ (H / 65536) = Z at *
      have hQ : H / 65536 ≤ 65535 := by omega
      generalize H / 65536 = Q at *
      clear HF
      go_wp2
      go_ret
      exact ⟨ret_int (by rw [HR.out, ← HF2.out]), B3.out⟩

theorem hashI (s : Int) (k : Fk) (w : World) : Calls Try.prog 21 #[.int .i64 s, .agg #[.int .i64 k.tenant, .int .i64 k.key.src.k, .int .i64 k.key.src.a, .int .i64 k.key.src.b, .int .i64 k.key.src.c, .int .i64 k.key.src.d, .int .i64 k.key.dst.k, .int .i64 k.key.dst.a, .int .i64 k.key.dst.b, .int .i64 k.key.dst.c, .int .i64 k.key.dst.d, .int .i64 k.key.proto, .int .i64 k.key.sport, .int .i64 k.key.dport]] w fun e w' => e = .returned (.int .i64 (hashOf s k)) ∧ Below w.heap.size w w' := by
  cases h1 : upTo s 4294967295 with
  | false => exact hashI_0 s k w h1
  | true =>
    cases h2 : k.ok with
    | false => exact hashI_1 s k w h1 h2
    | true => exact hashI_2 s k w h1 h2
theorem hashIB (s : Int) (k : Fk) (H : Int) (h : hashOf s k = H) (w : World) : Calls Try.prog 21 #[.int .i64 s, .agg #[.int .i64 k.tenant, .int .i64 k.key.src.k, .int .i64 k.key.src.a, .int .i64 k.key.src.b, .int .i64 k.key.src.c, .int .i64 k.key.src.d, .int .i64 k.key.dst.k, .int .i64 k.key.dst.a, .int .i64 k.key.dst.b, .int .i64 k.key.dst.c, .int .i64 k.key.dst.d, .int .i64 k.key.proto, .int .i64 k.key.sport, .int .i64 k.key.dport]] w fun e w' => e = .returned (.int .i64 H) ∧ Below w.heap.size w w' := h ▸ hashI s k w
end Go.Proofs.Ytmfkpiclpkeemaa
