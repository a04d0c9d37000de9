/-
  The bytes of a flow key in the program.
-/
import Derived.Test.YtmfkpiclpkeemaaTbStep
import Derived.Test.YtmfkpiclpkeemaaTbCat
namespace Go.Proofs.Ytmfkpiclpkeemaa
set_option maxRecDepth 100000
open Go.RowKit

theorem joined_six (p q r s t u : Pt) : joined [p, q, r, s, t, u] = p.bs ++ q.bs ++ r.bs ++ s.bs ++ t.bs ++ u.bs := by simp [joined]
set_option maxHeartbeats 4000000 in
theorem keyBytesI (k : Fk) (h : k.ok = true) (w : World) : Calls Try.prog 66 #[.agg #[.int .i64 k.tenant, .int .i64 k.key.src.k, .int .i64 k.key.src.a, .int .i64 k.key.src.b, .int .i64 k.key.src.c, .int .i64 k.key.src.d, .int .i64 k.key.dst.k, .int .i64 k.key.dst.a, .int .i64 k.key.dst.b, .int .i64 k.key.dst.c, .int .i64 k.key.dst.d, .int .i64 k.key.proto, .int .i64 k.key.sport, .int .i64 k.key.dport]] w fun e w' => ∃ D n d, e = .returned (.slice D n d) ∧ n = k.bytes.length ∧ w'.ownsRow w.heap.size 5 1 (.slice D n d) n (cellsOf k.bytes) ∧ Below w.heap.size w w' := by
  obtain ⟨bs1, hb1⟩ : ∃ b, k.key.src.bytes = b := ⟨_, rfl⟩
  obtain ⟨bs2, hb2⟩ : ∃ b, k.key.dst.bytes = b := ⟨_, rfl⟩
  obtain ⟨L1, hl1⟩ : ∃ b, bs1.length = b := ⟨_, rfl⟩
  obtain ⟨L2, hl2⟩ : ∃ b, bs2.length = b := ⟨_, rfl⟩
  have HS1 := Lib.hid (show L1 ≤ 16 by rw [← hl1, ← hb1]; exact Ad.short _)
  have HS2 := Lib.hid (show L2 ≤ 16 by rw [← hl2, ← hb2]; exact Ad.short _)
  have HK : Hid ([byteOf k.tenant, byteOf k.key.src.k] ++ bs1 ++ bs2 ++ [byteOf k.key.proto] ++ put16 k.key.sport ++ put16 k.key.dport = k.bytes) := Lib.hid (by rw [Fk.bytes, hb1, hb2])
  have HN : Hid (7 + L1 + L2 = k.bytes.length) := Lib.hid (by rw [← HK.out]; simp only [List.length_append, hl1, hl2, put16, List.length_cons, List.length_nil]; omega)
  have H1 := Lib.hid hb1
  have H2 := Lib.hid hb2
  have HL1 := Lib.hid hl1
  have HL2 := Lib.hid hl2
  have hp := Fk.parts h
  have HT := Lib.hid hp.1
  have HS := Lib.hid hp.2.1
  have HO := Lib.hid hp.2.2
  clear hb1 hb2 hl1 hl2 hp h
  have q0 := Lib.hid (K.new w (.cells #[.int .i64 k.tenant, .int .i64 k.key.src.k, .int .i64 k.key.src.a, .int .i64 k.key.src.b, .int .i64 k.key.src.c, .int .i64 k.key.src.d, .int .i64 k.key.dst.k, .int .i64 k.key.dst.a, .int .i64 k.key.dst.b, .int .i64 k.key.dst.c, .int .i64 k.key.dst.d, .int .i64 k.key.proto, .int .i64 k.key.sport, .int .i64 k.key.dport] 33))
  have HB := Lib.hid (Joins.below_alloc1 w (.cells #[.int .i64 k.tenant, .int .i64 k.key.src.k, .int .i64 k.key.src.a, .int .i64 k.key.src.b, .int .i64 k.key.src.c, .int .i64 k.key.src.d, .int .i64 k.key.dst.k, .int .i64 k.key.dst.a, .int .i64 k.key.dst.b, .int .i64 k.key.dst.c, .int .i64 k.key.dst.d, .int .i64 k.key.proto, .int .i64 k.key.sport, .int .i64 k.key.dport] 33))
  go_enter Try.func66, Try.ntmps66
  go_wp2_with fail
  refine wp_region_facts (by kernel_rfl) 30 35 [(0, 3), (1, 4), (2, 5), (3, 6), (4, 7), (5, 8), (6, 9), (7, 10), (8, 11), (9, 12), (10, 13), (11, 14), (12, 15), (13, 16), (14, 17), (15, 18), (16, 19), (17, 20), (18, 21), (19, 22), (20, 23), (21, 24), (22, 25), (23, 26), (24, 27), (25, 28), (26, 29), (27, 30), (28, 31), (29, 32)] _ ([.val (.pointer (some ⟨w.heap.size, 0, none⟩)), .val (.int .i64 k.tenant), .val (.int .u8 k.tenant), .val (.pointer (some ⟨w.heap.size, 1, none⟩)), .val (.pointer (some ⟨w.heap.size, 1, none⟩)), .val (.pointer (some ⟨w.heap.size, 1, none⟩)), .val (.int .i64 k.key.src.k), .val (.int .u8 k.key.src.k), .rb 2 [byteOf k.tenant, byteOf k.key.src.k], .val (.pointer (some ⟨w.heap.size, 1, none⟩)), .val (.pointer (some ⟨w.heap.size, 1, none⟩)), .val (.agg #[.int .i64 k.key.src.k, .int .i64 k.key.src.a, .int .i64 k.key.src.b, .int .i64 k.key.src.c, .int .i64 k.key.src.d]), .rb L1 bs1, .val (.pointer (some ⟨w.heap.size, 1, none⟩)), .val (.pointer (some ⟨w.heap.size, 6, none⟩)), .val (.agg #[.int .i64 k.key.dst.k, .int .i64 k.key.dst.a, .int .i64 k.key.dst.b, .int .i64 k.key.dst.c, .int .i64 k.key.dst.d]), .rb L2 bs2, .val (.pointer (some ⟨w.heap.size, 1, none⟩)), .val (.pointer (some ⟨w.heap.size, 11, none⟩)), .val (.int .i64 k.key.proto), .val (.int .u8 k.key.proto), .rb 1 [byteOf k.key.proto], .val (.pointer (some ⟨w.heap.size, 1, none⟩)), .val (.pointer (some ⟨w.heap.size, 12, none⟩)), .val (.int .i64 k.key.sport), .rb 2 (put16 k.key.sport), .val (.pointer (some ⟨w.heap.size, 1, none⟩)), .val (.pointer (some ⟨w.heap.size, 13, none⟩)), .val (.int .i64 k.key.dport), .rb 2 (put16 k.key.dport)]) (by kernel_rfl) (by kernel_rfl) rfl rfl ?_ ?_
  · intro j o hj ho a' v K' hx hnd hB hK
    match j, hj, ho with
    | 0, _, ho =>
      obtain rfl := Option.some.inj ho
      have h0 : a'.eval (.tmp 1) = .pointer (some ⟨w.heap.size, 0, none⟩) := (hx 1 (by decide)).trans rfl
      exact t_fk0 _ _ rfl h0 (hK _ _ rfl (Below.refl _ _))
    | 1, _, ho =>
      obtain rfl := Option.some.inj ho
      have h0 : a'.eval (.tmp 3) = .pointer (some ⟨w.heap.size, 0, none⟩) := (fact_of hnd 0 3 (by kernel_rfl) :)
      exact t_int _ _ _ _ rfl h0 (K.cell (K.below hB q0.out) 0 _ rfl) (hK _ _ rfl (Below.refl _ _))
    | 2, _, ho =>
      obtain rfl := Option.some.inj ho
      have h0 : a'.eval (.tmp 4) = .int .i64 k.tenant := (fact_of hnd 1 4 (by kernel_rfl) :)
      exact t_byte _ _ rfl h0 HT.out (hK _ _ rfl (Below.refl _ _))
    | 3, _, ho =>
      obtain rfl := Option.some.inj ho
      have h0 : a'.eval (.tmp 1) = .pointer (some ⟨w.heap.size, 0, none⟩) := (hx 1 (by decide)).trans rfl
      exact t_fk1 _ _ rfl h0 (hK _ _ rfl (Below.refl _ _))
    | 4, _, ho =>
      obtain rfl := Option.some.inj ho
      have h0 : a'.eval (.tmp 6) = .pointer (some ⟨w.heap.size, 1, none⟩) := (fact_of hnd 3 6 (by kernel_rfl) :)
      exact t_ky0 _ _ rfl h0 (hK _ _ rfl (Below.refl _ _))
    | 5, _, ho =>
      obtain rfl := Option.some.inj ho
      have h0 : a'.eval (.tmp 7) = .pointer (some ⟨w.heap.size, 1, none⟩) := (fact_of hnd 4 7 (by kernel_rfl) :)
      exact t_ad0 _ _ rfl h0 (hK _ _ rfl (Below.refl _ _))
    | 6, _, ho =>
      obtain rfl := Option.some.inj ho
      have h0 : a'.eval (.tmp 8) = .pointer (some ⟨w.heap.size, 1, none⟩) := (fact_of hnd 5 8 (by kernel_rfl) :)
      exact t_int _ _ _ _ rfl h0 (K.cell (K.below hB q0.out) 1 _ rfl) (hK _ _ rfl (Below.refl _ _))
    | 7, _, ho =>
      obtain rfl := Option.some.inj ho
      have h0 : a'.eval (.tmp 9) = .int .i64 k.key.src.k := (fact_of hnd 6 9 (by kernel_rfl) :)
      exact t_byte _ _ rfl h0 HS.out (hK _ _ rfl (Below.refl _ _))
    | 8, _, ho =>
      obtain rfl := Option.some.inj ho
      have h0 : a'.eval (.tmp 5) = .int .u8 k.tenant := (fact_of hnd 2 5 (by kernel_rfl) :)
      have h1 : a'.eval (.tmp 10) = .int .u8 k.key.src.k := (fact_of hnd 7 10 (by kernel_rfl) :)
      exact t_two _ _ _ _ rfl h0 h1 HT.out HS.out (fun u v2 hu b6 => hK u v2 hu b6)
    | 9, _, ho =>
      obtain rfl := Option.some.inj ho
      have h0 : a'.eval (.tmp 1) = .pointer (some ⟨w.heap.size, 0, none⟩) := (hx 1 (by decide)).trans rfl
      exact t_fk1 _ _ rfl h0 (hK _ _ rfl (Below.refl _ _))
    | 10, _, ho =>
      obtain rfl := Option.some.inj ho
      have h0 : a'.eval (.tmp 12) = .pointer (some ⟨w.heap.size, 1, none⟩) := (fact_of hnd 9 12 (by kernel_rfl) :)
      exact t_ky0 _ _ rfl h0 (hK _ _ rfl (Below.refl _ _))
    | 11, _, ho =>
      obtain rfl := Option.some.inj ho
      have h0 : a'.eval (.tmp 13) = .pointer (some ⟨w.heap.size, 1, none⟩) := (fact_of hnd 10 13 (by kernel_rfl) :)
      exact t_ad _ _ _ k.key.src rfl h0 (range5 (K.cell (K.below hB q0.out) 1 _ rfl) (K.cell (K.below hB q0.out) 2 _ rfl) (K.cell (K.below hB q0.out) 3 _ rfl) (K.cell (K.below hB q0.out) 4 _ rfl) (K.cell (K.below hB q0.out) 5 _ rfl)) (hK _ _ rfl (Below.refl _ _))
    | 12, _, ho =>
      obtain rfl := Option.some.inj ho
      have h0 : a'.eval (.tmp 14) = .agg #[.int .i64 k.key.src.k, .int .i64 k.key.src.a, .int .i64 k.key.src.b, .int .i64 k.key.src.c, .int .i64 k.key.src.d] := (fact_of hnd 11 14 (by kernel_rfl) :)
      refine t_c_adI _ _ _ rfl h0 (Calls.mono (adI k.key.src bs1 L1 H1.out HL1.out _) ?_)
      rintro e' v' ⟨X, y, rfl, o6, b6⟩
      exact ⟨_, rfl, hK _ _ ⟨X, y, rfl, RB.of_own o6⟩ b6⟩
    | 13, _, ho =>
      obtain rfl := Option.some.inj ho
      have h0 : a'.eval (.tmp 1) = .pointer (some ⟨w.heap.size, 0, none⟩) := (hx 1 (by decide)).trans rfl
      exact t_fk1 _ _ rfl h0 (hK _ _ rfl (Below.refl _ _))
    | 14, _, ho =>
      obtain rfl := Option.some.inj ho
      have h0 : a'.eval (.tmp 16) = .pointer (some ⟨w.heap.size, 1, none⟩) := (fact_of hnd 13 16 (by kernel_rfl) :)
      exact t_ky1 _ _ rfl h0 (hK _ _ rfl (Below.refl _ _))
    | 15, _, ho =>
      obtain rfl := Option.some.inj ho
      have h0 : a'.eval (.tmp 17) = .pointer (some ⟨w.heap.size, 6, none⟩) := (fact_of hnd 14 17 (by kernel_rfl) :)
      exact t_ad _ _ _ k.key.dst rfl h0 (range5 (K.cell (K.below hB q0.out) 6 _ rfl) (K.cell (K.below hB q0.out) 7 _ rfl) (K.cell (K.below hB q0.out) 8 _ rfl) (K.cell (K.below hB q0.out) 9 _ rfl) (K.cell (K.below hB q0.out) 10 _ rfl)) (hK _ _ rfl (Below.refl _ _))
    | 16, _, ho =>
      obtain rfl := Option.some.inj ho
      have h0 : a'.eval (.tmp 18) = .agg #[.int .i64 k.key.dst.k, .int .i64 k.key.dst.a, .int .i64 k.key.dst.b, .int .i64 k.key.dst.c, .int .i64 k.key.dst.d] := (fact_of hnd 15 18 (by kernel_rfl) :)
      refine t_c_adI _ _ _ rfl h0 (Calls.mono (adI k.key.dst bs2 L2 H2.out HL2.out _) ?_)
      rintro e' v' ⟨X, y, rfl, o6, b6⟩
      exact ⟨_, rfl, hK _ _ ⟨X, y, rfl, RB.of_own o6⟩ b6⟩
    | 17, _, ho =>
      obtain rfl := Option.some.inj ho
      have h0 : a'.eval (.tmp 1) = .pointer (some ⟨w.heap.size, 0, none⟩) := (hx 1 (by decide)).trans rfl
      exact t_fk1 _ _ rfl h0 (hK _ _ rfl (Below.refl _ _))
    | 18, _, ho =>
      obtain rfl := Option.some.inj ho
      have h0 : a'.eval (.tmp 20) = .pointer (some ⟨w.heap.size, 1, none⟩) := (fact_of hnd 17 20 (by kernel_rfl) :)
      exact t_ky2 _ _ rfl h0 (hK _ _ rfl (Below.refl _ _))
    | 19, _, ho =>
      obtain rfl := Option.some.inj ho
      have h0 : a'.eval (.tmp 21) = .pointer (some ⟨w.heap.size, 11, none⟩) := (fact_of hnd 18 21 (by kernel_rfl) :)
      exact t_int _ _ _ _ rfl h0 (K.cell (K.below hB q0.out) 11 _ rfl) (hK _ _ rfl (Below.refl _ _))
    | 20, _, ho =>
      obtain rfl := Option.some.inj ho
      have h0 : a'.eval (.tmp 22) = .int .i64 k.key.proto := (fact_of hnd 19 22 (by kernel_rfl) :)
      exact t_byte _ _ rfl h0 HO.out (hK _ _ rfl (Below.refl _ _))
    | 21, _, ho =>
      obtain rfl := Option.some.inj ho
      have h0 : a'.eval (.tmp 23) = .int .u8 k.key.proto := (fact_of hnd 20 23 (by kernel_rfl) :)
      exact t_one _ _ rfl h0 HO.out (fun u v2 hu b6 => hK u v2 hu b6)
    | 22, _, ho =>
      obtain rfl := Option.some.inj ho
      have h0 : a'.eval (.tmp 1) = .pointer (some ⟨w.heap.size, 0, none⟩) := (hx 1 (by decide)).trans rfl
      exact t_fk1 _ _ rfl h0 (hK _ _ rfl (Below.refl _ _))
    | 23, _, ho =>
      obtain rfl := Option.some.inj ho
      have h0 : a'.eval (.tmp 25) = .pointer (some ⟨w.heap.size, 1, none⟩) := (fact_of hnd 22 25 (by kernel_rfl) :)
      exact t_ky3 _ _ rfl h0 (hK _ _ rfl (Below.refl _ _))
    | 24, _, ho =>
      obtain rfl := Option.some.inj ho
      have h0 : a'.eval (.tmp 26) = .pointer (some ⟨w.heap.size, 12, none⟩) := (fact_of hnd 23 26 (by kernel_rfl) :)
      exact t_int _ _ _ _ rfl h0 (K.cell (K.below hB q0.out) 12 _ rfl) (hK _ _ rfl (Below.refl _ _))
    | 25, _, ho =>
      obtain rfl := Option.some.inj ho
      have h0 : a'.eval (.tmp 27) = .int .i64 k.key.sport := (fact_of hnd 24 27 (by kernel_rfl) :)
      refine t_c_p16I _ _ _ rfl h0 (Calls.mono (p16I k.key.sport _) ?_)
      rintro e' v' ⟨X, y, rfl, o6, b6⟩
      exact ⟨_, rfl, hK _ _ ⟨X, y, rfl, RB.of_own o6⟩ b6⟩
    | 26, _, ho =>
      obtain rfl := Option.some.inj ho
      have h0 : a'.eval (.tmp 1) = .pointer (some ⟨w.heap.size, 0, none⟩) := (hx 1 (by decide)).trans rfl
      exact t_fk1 _ _ rfl h0 (hK _ _ rfl (Below.refl _ _))
    | 27, _, ho =>
      obtain rfl := Option.some.inj ho
      have h0 : a'.eval (.tmp 29) = .pointer (some ⟨w.heap.size, 1, none⟩) := (fact_of hnd 26 29 (by kernel_rfl) :)
      exact t_ky4 _ _ rfl h0 (hK _ _ rfl (Below.refl _ _))
    | 28, _, ho =>
      obtain rfl := Option.some.inj ho
      have h0 : a'.eval (.tmp 30) = .pointer (some ⟨w.heap.size, 13, none⟩) := (fact_of hnd 27 30 (by kernel_rfl) :)
      exact t_int _ _ _ _ rfl h0 (K.cell (K.below hB q0.out) 13 _ rfl) (hK _ _ rfl (Below.refl _ _))
    | 29, _, ho =>
      obtain rfl := Option.some.inj ho
      have h0 : a'.eval (.tmp 31) = .int .i64 k.key.dport := (fact_of hnd 28 31 (by kernel_rfl) :)
      refine t_c_p16I _ _ _ rfl h0 (Calls.mono (p16I k.key.dport _) ?_)
      rintro e' v' ⟨X, y, rfl, o6, b6⟩
      exact ⟨_, rfl, hK _ _ ⟨X, y, rfl, RB.of_own o6⟩ b6⟩
    | j + 30, hj, _ => omega
  · intro f v hf hB
    have e0 : f 0 = (.pointer (some ⟨w.heap.size, 0, none⟩)) := hf (0, 3) (by decide)
    have e1 : f 1 = (.int .i64 k.tenant) := hf (1, 4) (by decide)
    have e2 : f 2 = (.int .u8 k.tenant) := hf (2, 5) (by decide)
    have e3 : f 3 = (.pointer (some ⟨w.heap.size, 1, none⟩)) := hf (3, 6) (by decide)
    have e4 : f 4 = (.pointer (some ⟨w.heap.size, 1, none⟩)) := hf (4, 7) (by decide)
    have e5 : f 5 = (.pointer (some ⟨w.heap.size, 1, none⟩)) := hf (5, 8) (by decide)
    have e6 : f 6 = (.int .i64 k.key.src.k) := hf (6, 9) (by decide)
    have e7 : f 7 = (.int .u8 k.key.src.k) := hf (7, 10) (by decide)
    obtain ⟨X11, y11, e8, r8⟩ := hf (8, 11) (by decide)
    have R11 := Lib.hid r8
    clear r8
    have e9 : f 9 = (.pointer (some ⟨w.heap.size, 1, none⟩)) := hf (9, 12) (by decide)
    have e10 : f 10 = (.pointer (some ⟨w.heap.size, 1, none⟩)) := hf (10, 13) (by decide)
    have e11 : f 11 = (.agg #[.int .i64 k.key.src.k, .int .i64 k.key.src.a, .int .i64 k.key.src.b, .int .i64 k.key.src.c, .int .i64 k.key.src.d]) := hf (11, 14) (by decide)
    obtain ⟨X15, y15, e12, r12⟩ := hf (12, 15) (by decide)
    have R15 := Lib.hid r12
    clear r12
    have e13 : f 13 = (.pointer (some ⟨w.heap.size, 1, none⟩)) := hf (13, 16) (by decide)
    have e14 : f 14 = (.pointer (some ⟨w.heap.size, 6, none⟩)) := hf (14, 17) (by decide)
    have e15 : f 15 = (.agg #[.int .i64 k.key.dst.k, .int .i64 k.key.dst.a, .int .i64 k.key.dst.b, .int .i64 k.key.dst.c, .int .i64 k.key.dst.d]) := hf (15, 18) (by decide)
    obtain ⟨X19, y19, e16, r16⟩ := hf (16, 19) (by decide)
    have R19 := Lib.hid r16
    clear r16
    have e17 : f 17 = (.pointer (some ⟨w.heap.size, 1, none⟩)) := hf (17, 20) (by decide)
    have e18 : f 18 = (.pointer (some ⟨w.heap.size, 11, none⟩)) := hf (18, 21) (by decide)
    have e19 : f 19 = (.int .i64 k.key.proto) := hf (19, 22) (by decide)
    have e20 : f 20 = (.int .u8 k.key.proto) := hf (20, 23) (by decide)
    obtain ⟨X24, y24, e21, r21⟩ := hf (21, 24) (by decide)
    have R24 := Lib.hid r21
    clear r21
    have e22 : f 22 = (.pointer (some ⟨w.heap.size, 1, none⟩)) := hf (22, 25) (by decide)
    have e23 : f 23 = (.pointer (some ⟨w.heap.size, 12, none⟩)) := hf (23, 26) (by decide)
    have e24 : f 24 = (.int .i64 k.key.sport) := hf (24, 27) (by decide)
    obtain ⟨X28, y28, e25, r25⟩ := hf (25, 28) (by decide)
    have R28 := Lib.hid r25
    clear r25
    have e26 : f 26 = (.pointer (some ⟨w.heap.size, 1, none⟩)) := hf (26, 29) (by decide)
    have e27 : f 27 = (.pointer (some ⟨w.heap.size, 13, none⟩)) := hf (27, 30) (by decide)
    have e28 : f 28 = (.int .i64 k.key.dport) := hf (28, 31) (by decide)
    obtain ⟨X32, y32, e29, r29⟩ := hf (29, 32) (by decide)
    have R32 := Lib.hid r29
    clear r29
    simp only [List.foldl_cons, List.foldl_nil, List.drop_succ_cons, List.drop_zero, e0, e1, e2, e3, e4, e5, e6, e7, e8, e9, e10, e11, e12, e13, e14, e15, e16, e17, e18, e19, e20, e21, e22, e23, e24, e25, e26, e27, e28, e29]
    clear e0 e1 e2 e3 e4 e5 e6 e7 e8 e9 e10 e11 e12 e13 e14 e15 e16 e17 e18 e19 e20 e21 e22 e23 e24 e25 e26 e27 e28 e29 hf
    go_simp
    have hB2 := Lib.hid hB
    clear hB
    have HR : Hid (RV (v.alloc (.cells #[.slice X11 2 y11, .slice X15 L1 y15, .slice X19 L2 y19, .slice X24 1 y24, .slice X28 2 y28, .slice X32 2 y32] 65)) (v.alloc (.cells #[.slice X11 2 y11, .slice X15 L1 y15, .slice X19 L2 y19, .slice X24 1 y24, .slice X28 2 y28, .slice X32 2 y32] 65)).heap.size (some ⟨v.heap.size, 0, none⟩) (List.map Pt.val [⟨X11, 2, y11, [byteOf k.tenant, byteOf k.key.src.k]⟩, ⟨X15, L1, y15, bs1⟩, ⟨X19, L2, y19, bs2⟩, ⟨X24, 1, y24, [byteOf k.key.proto]⟩, ⟨X28, 2, y28, put16 k.key.sport⟩, ⟨X32, 2, y32, put16 k.key.dport⟩])) := Lib.hid ((RV.new v 65 (List.map Pt.val [⟨X11, 2, y11, [byteOf k.tenant, byteOf k.key.src.k]⟩, ⟨X15, L1, y15, bs1⟩, ⟨X19, L2, y19, bs2⟩, ⟨X24, 1, y24, [byteOf k.key.proto]⟩, ⟨X28, 2, y28, put16 k.key.sport⟩, ⟨X32, 2, y32, put16 k.key.dport⟩])).more (by simp))
    have Q11 := Lib.hid ((R11.out.below (Joins.below_alloc1 v (.cells #[.slice X11 2 y11, .slice X15 L1 y15, .slice X19 L2 y19, .slice X24 1 y24, .slice X28 2 y28, .slice X32 2 y32] 65))).more (show v.heap.size ≤ (v.alloc (.cells #[.slice X11 2 y11, .slice X15 L1 y15, .slice X19 L2 y19, .slice X24 1 y24, .slice X28 2 y28, .slice X32 2 y32] 65)).heap.size by simp))
    have Q15 := Lib.hid ((R15.out.below (Joins.below_alloc1 v (.cells #[.slice X11 2 y11, .slice X15 L1 y15, .slice X19 L2 y19, .slice X24 1 y24, .slice X28 2 y28, .slice X32 2 y32] 65))).more (show v.heap.size ≤ (v.alloc (.cells #[.slice X11 2 y11, .slice X15 L1 y15, .slice X19 L2 y19, .slice X24 1 y24, .slice X28 2 y28, .slice X32 2 y32] 65)).heap.size by simp))
    have Q19 := Lib.hid ((R19.out.below (Joins.below_alloc1 v (.cells #[.slice X11 2 y11, .slice X15 L1 y15, .slice X19 L2 y19, .slice X24 1 y24, .slice X28 2 y28, .slice X32 2 y32] 65))).more (show v.heap.size ≤ (v.alloc (.cells #[.slice X11 2 y11, .slice X15 L1 y15, .slice X19 L2 y19, .slice X24 1 y24, .slice X28 2 y28, .slice X32 2 y32] 65)).heap.size by simp))
    have Q24 := Lib.hid ((R24.out.below (Joins.below_alloc1 v (.cells #[.slice X11 2 y11, .slice X15 L1 y15, .slice X19 L2 y19, .slice X24 1 y24, .slice X28 2 y28, .slice X32 2 y32] 65))).more (show v.heap.size ≤ (v.alloc (.cells #[.slice X11 2 y11, .slice X15 L1 y15, .slice X19 L2 y19, .slice X24 1 y24, .slice X28 2 y28, .slice X32 2 y32] 65)).heap.size by simp))
    have Q28 := Lib.hid ((R28.out.below (Joins.below_alloc1 v (.cells #[.slice X11 2 y11, .slice X15 L1 y15, .slice X19 L2 y19, .slice X24 1 y24, .slice X28 2 y28, .slice X32 2 y32] 65))).more (show v.heap.size ≤ (v.alloc (.cells #[.slice X11 2 y11, .slice X15 L1 y15, .slice X19 L2 y19, .slice X24 1 y24, .slice X28 2 y28, .slice X32 2 y32] 65)).heap.size by simp))
    have Q32 := Lib.hid ((R32.out.below (Joins.below_alloc1 v (.cells #[.slice X11 2 y11, .slice X15 L1 y15, .slice X19 L2 y19, .slice X24 1 y24, .slice X28 2 y28, .slice X32 2 y32] 65))).more (show v.heap.size ≤ (v.alloc (.cells #[.slice X11 2 y11, .slice X15 L1 y15, .slice X19 L2 y19, .slice X24 1 y24, .slice X28 2 y28, .slice X32 2 y32] 65)).heap.size by simp))
    have HB2 := Lib.hid (bthen HB.out (bthen hB2.out (Joins.below_alloc1 v (.cells #[.slice X11 2 y11, .slice X15 L1 y15, .slice X19 L2 y19, .slice X24 1 y24, .slice X28 2 y28, .slice X32 2 y32] 65))))
    clear R11 R15 R19 R24 R28 R32 hB2
    go_wp2_with fail
    refine Calls.mono (concatC v.heap.size 6 [⟨X11, 2, y11, [byteOf k.tenant, byteOf k.key.src.k]⟩, ⟨X15, L1, y15, bs1⟩, ⟨X19, L2, y19, bs2⟩, ⟨X24, 1, y24, [byteOf k.key.proto]⟩, ⟨X28, 2, y28, put16 k.key.sport⟩, ⟨X32, 2, y32, put16 k.key.dport⟩] (7 + L1 + L2) _ HR.out rfl (by omega) ?_ ?_ ?_) ?_
    · intro p hp
      simp only [List.mem_cons, List.not_mem_nil, or_false] at hp
      rcases hp with rfl | rfl | rfl | rfl | rfl | rfl
      · exact ⟨Q11.out, rfl⟩
      · exact ⟨Q15.out, HL1.out⟩
      · exact ⟨Q19.out, HL2.out⟩
      · exact ⟨Q24.out, rfl⟩
      · exact ⟨Q28.out, rfl⟩
      · exact ⟨Q32.out, rfl⟩
    · rw [joined_six, List.length_append, List.length_append, List.length_append, List.length_append, List.length_append, HL1.out, HL2.out]
      simp only [put16, List.length_cons, List.length_nil]
      omega
    · have h1 := HS1.out
      have h2 := HS2.out
      omega
    · rintro e w5 ⟨D, d, rfl, o5, b5⟩
      rw [joined_six, HK.out] at o5
      have O5 := Lib.hid o5
      have B5 := Lib.hid (bthen HB2.out b5)
      clear o5 b5
      go_wp2
      go_ret
      exact ⟨D, _, d, rfl, HN.out, own_base O5.out (by have := HB2.out.size; omega), B5.out⟩
end Go.Proofs.Ytmfkpiclpkeemaa
