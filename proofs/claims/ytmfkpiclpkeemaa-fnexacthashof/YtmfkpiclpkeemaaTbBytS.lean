/-
  The bytes of a flow key in the model.
-/
import Derived.Test.YtmfkpiclpkeemaaTbStep
import Derived.Deep.Cut
namespace Go.Proofs.Ytmfkpiclpkeemaa
set_option maxRecDepth 100000
open Go.RowKit

set_option maxHeartbeats 8000000 in
theorem keyBytesS (k : Fk) (h : k.ok = true) (w : World) : Calls Try.prog 65 #[.agg #[.int .i64 k.tenant, .int .i64 k.key.src.k, .int .i64 k.key.src.a, .int .i64 k.key.src.b, .int .i64 k.key.src.c, .int .i64 k.key.src.d, .int .i64 k.key.dst.k, .int .i64 k.key.dst.a, .int .i64 k.key.dst.b, .int .i64 k.key.dst.c, .int .i64 k.key.dst.d, .int .i64 k.key.proto, .int .i64 k.key.sport, .int .i64 k.key.dport]] w fun e w' => ∃ D n d, e = .returned (.slice D n d) ∧ n = k.bytes.length ∧ w'.ownsRow w.heap.size 5 1 (.slice D n d) n (cellsOf k.bytes) ∧ Below w.heap.size w w' := by
  obtain ⟨bs1, hb1⟩ : ∃ b, k.key.src.bytes = b := ⟨_, rfl⟩
  obtain ⟨bs2, hb2⟩ : ∃ b, k.key.dst.bytes = b := ⟨_, rfl⟩
  obtain ⟨L1, hl1⟩ : ∃ b, bs1.length = b := ⟨_, rfl⟩
  obtain ⟨L2, hl2⟩ : ∃ b, bs2.length = b := ⟨_, rfl⟩
  have HS1 := Lib.hid (show L1 ≤ 16 by rw [← hl1, ← hb1]; exact Ad.short _)
  have HS2 := Lib.hid (show L2 ≤ 16 by rw [← hl2, ← hb2]; exact Ad.short _)
  have HK : Hid ([byteOf k.tenant, byteOf k.key.src.k] ++ bs1 ++ bs2 ++ [byteOf k.key.proto] ++ put16 k.key.sport ++ put16 k.key.dport = k.bytes) := Lib.hid (by rw [Fk.bytes, hb1, hb2])
  have HN : Hid (7 + L1 + L2 = k.bytes.length) := Lib.hid (by rw [← HK.out]; simp only [List.length_append, hl1, hl2, put16, List.length_cons, List.length_nil]; omega)
  have H1 := Lib.hid hb1
  have H2 := Lib.hid hb2
  have HL1 := Lib.hid hl1
  have HL2 := Lib.hid hl2
  have hp := Fk.parts h
  have HT := Lib.hid hp.1
  have HS := Lib.hid hp.2.1
  have HO := Lib.hid hp.2.2
  clear hb1 hb2 hl1 hl2 hp h
  have q : Hid ((w.alloc (.cells #[.int .i64 k.tenant, .int .i64 k.key.src.k, .int .i64 k.key.src.a, .int .i64 k.key.src.b, .int .i64 k.key.src.c, .int .i64 k.key.src.d, .int .i64 k.key.dst.k, .int .i64 k.key.dst.a, .int .i64 k.key.dst.b, .int .i64 k.key.dst.c, .int .i64 k.key.dst.d, .int .i64 k.key.proto, .int .i64 k.key.sport, .int .i64 k.key.dport] 33)).heap[w.heap.size]? = some (.cells #[.int .i64 k.tenant, .int .i64 k.key.src.k, .int .i64 k.key.src.a, .int .i64 k.key.src.b, .int .i64 k.key.src.c, .int .i64 k.key.src.d, .int .i64 k.key.dst.k, .int .i64 k.key.dst.a, .int .i64 k.key.dst.b, .int .i64 k.key.dst.c, .int .i64 k.key.dst.d, .int .i64 k.key.proto, .int .i64 k.key.sport, .int .i64 k.key.dport] 33 (0, 0))) := Lib.hid (K.new w (.cells #[.int .i64 k.tenant, .int .i64 k.key.src.k, .int .i64 k.key.src.a, .int .i64 k.key.src.b, .int .i64 k.key.src.c, .int .i64 k.key.src.d, .int .i64 k.key.dst.k, .int .i64 k.key.dst.a, .int .i64 k.key.dst.b, .int .i64 k.key.dst.c, .int .i64 k.key.dst.d, .int .i64 k.key.proto, .int .i64 k.key.sport, .int .i64 k.key.dport] 33))
  have HE := Lib.hid (Joins.below_alloc1 w (.cells #[.int .i64 k.tenant, .int .i64 k.key.src.k, .int .i64 k.key.src.a, .int .i64 k.key.src.b, .int .i64 k.key.src.c, .int .i64 k.key.src.d, .int .i64 k.key.dst.k, .int .i64 k.key.dst.a, .int .i64 k.key.dst.b, .int .i64 k.key.dst.c, .int .i64 k.key.dst.d, .int .i64 k.key.proto, .int .i64 k.key.sport, .int .i64 k.key.dport] 33))
  have hb9 : IntKind.u8.wrap k.tenant = k.tenant := by have := HT.out; rw [IntKind.wrap_u8]; omega
  have hb10 : IntKind.u8.wrap k.key.src.k = k.key.src.k := by have := HS.out; rw [IntKind.wrap_u8]; omega
  have hb11 : IntKind.u8.wrap k.key.proto = k.key.proto := by have := HO.out; rw [IntKind.wrap_u8]; omega
  have BA0 : Hid (Bd (w.alloc (.cells #[.int .i64 k.tenant, .int .i64 k.key.src.k, .int .i64 k.key.src.a, .int .i64 k.key.src.b, .int .i64 k.key.src.c, .int .i64 k.key.src.d, .int .i64 k.key.dst.k, .int .i64 k.key.dst.a, .int .i64 k.key.dst.b, .int .i64 k.key.dst.c, .int .i64 k.key.dst.d, .int .i64 k.key.proto, .int .i64 k.key.sport, .int .i64 k.key.dport] 33)) (w.heap.size + 1) ((w.alloc (.cells #[.int .i64 k.tenant, .int .i64 k.key.src.k, .int .i64 k.key.src.a, .int .i64 k.key.src.b, .int .i64 k.key.src.c, .int .i64 k.key.src.d, .int .i64 k.key.dst.k, .int .i64 k.key.dst.a, .int .i64 k.key.dst.b, .int .i64 k.key.dst.c, .int .i64 k.key.dst.d, .int .i64 k.key.proto, .int .i64 k.key.sport, .int .i64 k.key.dport] 33)).alloc (.cells #[.int .u8 k.tenant, .int .u8 k.key.src.k] 5)) (some ⟨w.heap.size + 1, 0, none⟩) 2 2 [byteOf k.tenant, byteOf k.key.src.k]) := Lib.hid ⟨by
    have h := World.ownsRow_lit (base := w.heap.size + 1) (e := 5) (size := 1) (w.alloc (.cells #[.int .i64 k.tenant, .int .i64 k.key.src.k, .int .i64 k.key.src.a, .int .i64 k.key.src.b, .int .i64 k.key.src.c, .int .i64 k.key.src.d, .int .i64 k.key.dst.k, .int .i64 k.key.dst.a, .int .i64 k.key.dst.b, .int .i64 k.key.dst.c, .int .i64 k.key.dst.d, .int .i64 k.key.proto, .int .i64 k.key.sport, .int .i64 k.key.dport] 33)) #[.int .u8 k.tenant, .int .u8 k.key.src.k] 2 (by simp) (by decide) rfl
    rw [bytes2 _ _ HT.out HS.out]
    simpa using h, (Below.refl _ _).alloc (by simp) _, by simp, rfl⟩
  have k0 := K.cell q.out 0 _ rfl
  have k1 := K.cell q.out 1 _ rfl
  go_enter Try.func65, Try.ntmps65
  go_upto_region 2 with fail
  clear k0 k1 hb9 hb10
  obtain ⟨A2, hA2⟩ : ∃ A : Option Addr, A = some ⟨w.heap.size + 1, 0, none⟩ := ⟨_, rfl⟩
  have BA1 := BA0.out
  clear BA0
  rw [← hA2] at BA1 ⊢
  generalize ((w.alloc (.cells #[.int .i64 k.tenant, .int .i64 k.key.src.k, .int .i64 k.key.src.a, .int .i64 k.key.src.b, .int .i64 k.key.src.c, .int .i64 k.key.src.d, .int .i64 k.key.dst.k, .int .i64 k.key.dst.a, .int .i64 k.key.dst.b, .int .i64 k.key.dst.c, .int .i64 k.key.dst.d, .int .i64 k.key.proto, .int .i64 k.key.sport, .int .i64 k.key.dport] 33)).alloc (.cells #[.int .u8 k.tenant, .int .u8 k.key.src.k] 5)) = w2 at BA1 ⊢
  have BA := Lib.hid BA1
  clear BA1 hA2
  refine wp_region_apps (by kernel_rfl) 10 42 [(0, 13), (1, 14), (2, 15), (3, 16), (4, 17), (5, 18), (6, 19), (7, 20), (8, 21), (9, 22)] _ ([.val (.slice A2 2 2), .val (.pointer (some ⟨w.heap.size, 1, none⟩)), .val (.pointer (some ⟨w.heap.size, 1, none⟩)), .val (.agg #[.int .i64 k.key.src.k, .int .i64 k.key.src.a, .int .i64 k.key.src.b, .int .i64 k.key.src.c, .int .i64 k.key.src.d]), .own w2.heap.size L1 bs1, .any, .val (.pointer (some ⟨w.heap.size, 1, none⟩)), .val (.pointer (some ⟨w.heap.size, 6, none⟩)), .val (.agg #[.int .i64 k.key.dst.k, .int .i64 k.key.dst.a, .int .i64 k.key.dst.b, .int .i64 k.key.dst.c, .int .i64 k.key.dst.d]), .own w2.heap.size L2 bs2]) (by kernel_rfl) (by kernel_rfl) rfl 5 18 (by omega) (by decide) rfl (by simp) BA.out ((2 + L1)) ([byteOf k.tenant, byteOf k.key.src.k] ++ bs1) (by simp only [List.length_append, HL1.out, List.length_cons, List.length_nil]; try omega) ?_ ?_ ?_
  · intro j o hj hjp ho a' v K' hx hnd hB hS hK
    match j, hj, hjp, ho with
    | 0, _, _, ho =>
      obtain rfl := Option.some.inj ho
      have h0 : a'.eval (.tmp 3) = .slice A2 2 2 := (hx 3 (by decide)).trans rfl
      exact t_mv _ _ rfl h0 (hK _ _ rfl (Below.refl _ _))
    | 1, _, _, ho =>
      obtain rfl := Option.some.inj ho
      have h0 : a'.eval (.tmp 1) = .pointer (some ⟨w.heap.size, 0, none⟩) := (hx 1 (by decide)).trans rfl
      exact t_fk1 _ _ rfl h0 (hK _ _ rfl (Below.refl _ _))
    | 2, _, _, ho =>
      obtain rfl := Option.some.inj ho
      have h0 : a'.eval (.tmp 14) = .pointer (some ⟨w.heap.size, 1, none⟩) := (apps_of hnd 1 14 (by kernel_rfl) (by decide) :)
      exact t_ky0 _ _ rfl h0 (hK _ _ rfl (Below.refl _ _))
    | 3, _, _, ho =>
      obtain rfl := Option.some.inj ho
      have h0 : a'.eval (.tmp 15) = .pointer (some ⟨w.heap.size, 1, none⟩) := (apps_of hnd 2 15 (by kernel_rfl) (by decide) :)
      exact t_ad _ _ _ k.key.src rfl h0 (range5 (K.cell (K.on hB (by omega) q.out) 1 _ rfl) (K.cell (K.on hB (by omega) q.out) 2 _ rfl) (K.cell (K.on hB (by omega) q.out) 3 _ rfl) (K.cell (K.on hB (by omega) q.out) 4 _ rfl) (K.cell (K.on hB (by omega) q.out) 5 _ rfl)) (hK _ _ rfl (Below.refl _ _))
    | 4, _, _, ho =>
      obtain rfl := Option.some.inj ho
      have h0 : a'.eval (.tmp 16) = .agg #[.int .i64 k.key.src.k, .int .i64 k.key.src.a, .int .i64 k.key.src.b, .int .i64 k.key.src.c, .int .i64 k.key.src.d] := (apps_of hnd 3 16 (by kernel_rfl) (by decide) :)
      refine t_c_adS _ _ _ rfl h0 (Calls.mono (adS k.key.src bs1 L1 H1.out HL1.out _) ?_)
      rintro e' v' ⟨X, y, rfl, o6, b6⟩
      exact ⟨_, rfl, hK _ _ ⟨X, y, rfl, own_base o6 hS⟩ b6⟩
    | 5, _, hjp, _ => exact absurd rfl hjp
    | 6, _, _, ho =>
      obtain rfl := Option.some.inj ho
      have h0 : a'.eval (.tmp 1) = .pointer (some ⟨w.heap.size, 0, none⟩) := (hx 1 (by decide)).trans rfl
      exact t_fk1 _ _ rfl h0 (hK _ _ rfl (Below.refl _ _))
    | 7, _, _, ho =>
      obtain rfl := Option.some.inj ho
      have h0 : a'.eval (.tmp 19) = .pointer (some ⟨w.heap.size, 1, none⟩) := (apps_of hnd 6 19 (by kernel_rfl) (by decide) :)
      exact t_ky1 _ _ rfl h0 (hK _ _ rfl (Below.refl _ _))
    | 8, _, _, ho =>
      obtain rfl := Option.some.inj ho
      have h0 : a'.eval (.tmp 20) = .pointer (some ⟨w.heap.size, 6, none⟩) := (apps_of hnd 7 20 (by kernel_rfl) (by decide) :)
      exact t_ad _ _ _ k.key.dst rfl h0 (range5 (K.cell (K.on hB (by omega) q.out) 6 _ rfl) (K.cell (K.on hB (by omega) q.out) 7 _ rfl) (K.cell (K.on hB (by omega) q.out) 8 _ rfl) (K.cell (K.on hB (by omega) q.out) 9 _ rfl) (K.cell (K.on hB (by omega) q.out) 10 _ rfl)) (hK _ _ rfl (Below.refl _ _))
    | 9, _, _, ho =>
      obtain rfl := Option.some.inj ho
      have h0 : a'.eval (.tmp 21) = .agg #[.int .i64 k.key.dst.k, .int .i64 k.key.dst.a, .int .i64 k.key.dst.b, .int .i64 k.key.dst.c, .int .i64 k.key.dst.d] := (apps_of hnd 8 21 (by kernel_rfl) (by decide) :)
      refine t_c_adS _ _ _ rfl h0 (Calls.mono (adS k.key.dst bs2 L2 H2.out HL2.out _) ?_)
      rintro e' v' ⟨X, y, rfl, o6, b6⟩
      exact ⟨_, rfl, hK _ _ ⟨X, y, rfl, own_base o6 hS⟩ b6⟩
    | j + 10, hj, _, _ => omega
  · intro o ho a' v K' hx hnd hBD hS hK
    obtain rfl := Option.some.inj ho
    have h0 : a'.eval (.tmp 13) = .slice A2 2 2 := (apps_of hnd 0 13 (by kernel_rfl) (by decide) :)
    obtain ⟨P1, p1, h1, r1⟩ := (apps_of hnd 4 17 (by kernel_rfl) (by decide) :)
    exact wp_append_bd rfl hBD (.tmp 13) (.tmp 17) rfl h0 _ P1 L1 p1 bs1 h1 HL1.out (RB.of_own r1) (by have h1 := HS1.out; omega) hK
  · intro f v A1_ c1_ hf hp BD_
    have e0 : f 0 = (.slice A2 2 2) := hf (0, 13) (by decide) (by decide)
    have e1 : f 1 = (.pointer (some ⟨w.heap.size, 1, none⟩)) := hf (1, 14) (by decide) (by decide)
    have e2 : f 2 = (.pointer (some ⟨w.heap.size, 1, none⟩)) := hf (2, 15) (by decide) (by decide)
    have e3 : f 3 = (.agg #[.int .i64 k.key.src.k, .int .i64 k.key.src.a, .int .i64 k.key.src.b, .int .i64 k.key.src.c, .int .i64 k.key.src.d]) := hf (3, 16) (by decide) (by decide)
    obtain ⟨X17, y17, e4, r4⟩ := hf (4, 17) (by decide) (by decide)
    have R17 := Lib.hid r4
    clear r4
    have e6 : f 6 = (.pointer (some ⟨w.heap.size, 1, none⟩)) := hf (6, 19) (by decide) (by decide)
    have e7 : f 7 = (.pointer (some ⟨w.heap.size, 6, none⟩)) := hf (7, 20) (by decide) (by decide)
    have e8 : f 8 = (.agg #[.int .i64 k.key.dst.k, .int .i64 k.key.dst.a, .int .i64 k.key.dst.b, .int .i64 k.key.dst.c, .int .i64 k.key.dst.d]) := hf (8, 21) (by decide) (by decide)
    obtain ⟨X22, y22, e9, r9⟩ := hf (9, 22) (by decide) (by decide)
    have R22 := Lib.hid r9
    clear r9
    have BD_ := Lib.hid BD_
    simp only [List.foldl_cons, List.foldl_nil, List.drop_succ_cons, List.drop_zero, hp, e0, e1, e2, e3, e4, e6, e7, e8, e9]
    clear hp e0 e1 e2 e3 e4 e6 e7 e8 e9 hf
    go_simp
    refine wpList_append_bd rfl BD_.out (.tmp 18) (.tmp 22) rfl rfl _ _ L2 _ (bs2) rfl HL2.out (RB.of_own R22.out) (by have h1 := HS1.out; have h2 := HS2.out; omega) (2 + L1 + L2) (by omega) ?_
    intro A_BB c_BB w_BB bd_BB
    have BB := Lib.hid bd_BB
    clear bd_BB
    have k11 := K.cell (BB.out.row q.out (by omega)) 11 _ rfl
    clear R17 R22 BD_
    go_wp2_with (at_builtin; (refine wpList_append_bd rfl (BB.out.call (Joins.below_alloc1 _ (.cells #[.int .u8 k.key.proto] 5))) (.tmp 24) (.tmp 29) rfl rfl _ _ 1 _ [byteOf k.key.proto] rfl rfl (by have h := rbT1 w_BB k.key.proto HO.out; simpa using h) (by have h1 := HS1.out; have h2 := HS2.out; omega) (3 + L1 + L2) (by omega) ?_); intro A_BC c_BC w_BC bd_BC; have BC := Lib.hid bd_BC; clear bd_BC k11 hb11)
    clear BB
    refine wp_region_apps (by kernel_rfl) 10 42 [(0, 31), (1, 32), (2, 33), (3, 34), (4, 35), (5, 36), (6, 37), (7, 38), (8, 39), (9, 40)] _ ([.val (.slice A_BC (3 + L1 + L2) c_BC), .val (.pointer (some ⟨w.heap.size, 1, none⟩)), .val (.pointer (some ⟨w.heap.size, 12, none⟩)), .val (.int .i64 k.key.sport), .own w_BC.heap.size 2 (put16 k.key.sport), .any, .val (.pointer (some ⟨w.heap.size, 1, none⟩)), .val (.pointer (some ⟨w.heap.size, 13, none⟩)), .val (.int .i64 k.key.dport), .own w_BC.heap.size 2 (put16 k.key.dport)]) (by kernel_rfl) (by kernel_rfl) rfl 5 36 (by omega) (by decide) rfl (by simp) BC.out ((3 + L1 + L2 + 2)) ([byteOf k.tenant, byteOf k.key.src.k] ++ bs1 ++ bs2 ++ [byteOf k.key.proto] ++ put16 k.key.sport) (by simp only [List.length_append, HL1.out, HL2.out, put16, List.length_cons, List.length_nil]; try omega) ?_ ?_ ?_
    · intro j o hj hjp ho a' v K' hx hnd hB hS hK
      match j, hj, hjp, ho with
      | 0, _, _, ho =>
        obtain rfl := Option.some.inj ho
        have h0 : a'.eval (.tmp 3) = .slice A_BC (3 + L1 + L2) c_BC := (hx 3 (by decide)).trans rfl
        exact t_mv _ _ rfl h0 (hK _ _ rfl (Below.refl _ _))
      | 1, _, _, ho =>
        obtain rfl := Option.some.inj ho
        have h0 : a'.eval (.tmp 1) = .pointer (some ⟨w.heap.size, 0, none⟩) := (hx 1 (by decide)).trans rfl
        exact t_fk1 _ _ rfl h0 (hK _ _ rfl (Below.refl _ _))
      | 2, _, _, ho =>
        obtain rfl := Option.some.inj ho
        have h0 : a'.eval (.tmp 32) = .pointer (some ⟨w.heap.size, 1, none⟩) := (apps_of hnd 1 32 (by kernel_rfl) (by decide) :)
        exact t_ky3 _ _ rfl h0 (hK _ _ rfl (Below.refl _ _))
      | 3, _, _, ho =>
        obtain rfl := Option.some.inj ho
        have h0 : a'.eval (.tmp 33) = .pointer (some ⟨w.heap.size, 12, none⟩) := (apps_of hnd 2 33 (by kernel_rfl) (by decide) :)
        exact t_int _ _ _ _ rfl h0 (K.cell (K.on hB (by omega) q.out) 12 _ rfl) (hK _ _ rfl (Below.refl _ _))
      | 4, _, _, ho =>
        obtain rfl := Option.some.inj ho
        have h0 : a'.eval (.tmp 34) = .int .i64 k.key.sport := (apps_of hnd 3 34 (by kernel_rfl) (by decide) :)
        refine t_c_p16S _ _ _ rfl h0 (Calls.mono (p16S k.key.sport _) ?_)
        rintro e' v' ⟨X, y, rfl, o6, b6⟩
        exact ⟨_, rfl, hK _ _ ⟨X, y, rfl, own_base o6 hS⟩ b6⟩
      | 5, _, hjp, _ => exact absurd rfl hjp
      | 6, _, _, ho =>
        obtain rfl := Option.some.inj ho
        have h0 : a'.eval (.tmp 1) = .pointer (some ⟨w.heap.size, 0, none⟩) := (hx 1 (by decide)).trans rfl
        exact t_fk1 _ _ rfl h0 (hK _ _ rfl (Below.refl _ _))
      | 7, _, _, ho =>
        obtain rfl := Option.some.inj ho
        have h0 : a'.eval (.tmp 37) = .pointer (some ⟨w.heap.size, 1, none⟩) := (apps_of hnd 6 37 (by kernel_rfl) (by decide) :)
        exact t_ky4 _ _ rfl h0 (hK _ _ rfl (Below.refl _ _))
      | 8, _, _, ho =>
        obtain rfl := Option.some.inj ho
        have h0 : a'.eval (.tmp 38) = .pointer (some ⟨w.heap.size, 13, none⟩) := (apps_of hnd 7 38 (by kernel_rfl) (by decide) :)
        exact t_int _ _ _ _ rfl h0 (K.cell (K.on hB (by omega) q.out) 13 _ rfl) (hK _ _ rfl (Below.refl _ _))
      | 9, _, _, ho =>
        obtain rfl := Option.some.inj ho
        have h0 : a'.eval (.tmp 39) = .int .i64 k.key.dport := (apps_of hnd 8 39 (by kernel_rfl) (by decide) :)
        refine t_c_p16S _ _ _ rfl h0 (Calls.mono (p16S k.key.dport _) ?_)
        rintro e' v' ⟨X, y, rfl, o6, b6⟩
        exact ⟨_, rfl, hK _ _ ⟨X, y, rfl, own_base o6 hS⟩ b6⟩
      | j + 10, hj, _, _ => omega
    · intro o ho a' v K' hx hnd hBD hS hK
      obtain rfl := Option.some.inj ho
      have h0 : a'.eval (.tmp 31) = .slice A_BC (3 + L1 + L2) c_BC := (apps_of hnd 0 31 (by kernel_rfl) (by decide) :)
      obtain ⟨P1, p1, h1, r1⟩ := (apps_of hnd 4 35 (by kernel_rfl) (by decide) :)
      exact wp_append_bd rfl hBD (.tmp 31) (.tmp 35) rfl h0 _ P1 2 p1 (put16 k.key.sport) h1 rfl (RB.of_own r1) (by have h1 := HS1.out; have h2 := HS2.out; omega) hK
    · intro f v A1_ c1_ hf hp BD_
      have e0 : f 0 = (.slice A_BC (3 + L1 + L2) c_BC) := hf (0, 31) (by decide) (by decide)
      have e1 : f 1 = (.pointer (some ⟨w.heap.size, 1, none⟩)) := hf (1, 32) (by decide) (by decide)
      have e2 : f 2 = (.pointer (some ⟨w.heap.size, 12, none⟩)) := hf (2, 33) (by decide) (by decide)
      have e3 : f 3 = (.int .i64 k.key.sport) := hf (3, 34) (by decide) (by decide)
      obtain ⟨X35, y35, e4, r4⟩ := hf (4, 35) (by decide) (by decide)
      have R35 := Lib.hid r4
      clear r4
      have e6 : f 6 = (.pointer (some ⟨w.heap.size, 1, none⟩)) := hf (6, 37) (by decide) (by decide)
      have e7 : f 7 = (.pointer (some ⟨w.heap.size, 13, none⟩)) := hf (7, 38) (by decide) (by decide)
      have e8 : f 8 = (.int .i64 k.key.dport) := hf (8, 39) (by decide) (by decide)
      obtain ⟨X40, y40, e9, r9⟩ := hf (9, 40) (by decide) (by decide)
      have R40 := Lib.hid r9
      clear r9
      have BD_ := Lib.hid BD_
      simp only [List.foldl_cons, List.foldl_nil, List.drop_succ_cons, List.drop_zero, hp, e0, e1, e2, e3, e4, e6, e7, e8, e9]
      clear hp e0 e1 e2 e3 e4 e6 e7 e8 e9 hf
      go_simp
      refine wpList_append_bd rfl BD_.out (.tmp 36) (.tmp 40) rfl rfl _ _ 2 _ (put16 k.key.dport) rfl rfl (RB.of_own R40.out) (by have h1 := HS1.out; have h2 := HS2.out; omega) (7 + L1 + L2) (by omega) ?_
      intro A_BE c_BE w_BE bd_BE
      have BE := Lib.hid bd_BE
      clear bd_BE
      clear R35 R40 BD_ BC
      go_wp2
      go_ret
      have HO2 := BE.out.out HE.out (by omega)
      rw [HK.out] at HO2
      exact ⟨A_BE, _, c_BE, rfl, HN.out, HO2.1, HO2.2⟩
end Go.Proofs.Ytmfkpiclpkeemaa
