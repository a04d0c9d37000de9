/-
  The bytes of an upper layer in the model: kind 0. The bytes of an upper layer in the model: kind 1. The bytes of an upper layer in the model: kind 2. The bytes of an upper layer in the model: kind 3. The program looks whether no field of an upper layer is set.
-/
import Derived.Test.YthogonpjkngpjaaRc13
import Derived.Test.YthogonpjkngpjaaRc11
import Derived.Test.YthogonpjkngpjaaRc08
namespace Go.Proofs.Ythogonpjkngpjaa
set_option maxRecDepth 100000
open Go.RowKit
set_option maxHeartbeats 8000000 in
theorem l07B0 (sport dport seq ack bits window urgent ty code rest : Int) (nosum : Bool) (A D : Option Addr) (n c m d : Nat) (os bs : List UInt8) (sum : Int) (w : World) (hr : RB w w.heap.size A os) (hl : os.length = n) (hs : RB w w.heap.size D bs) (hm : bs.length = m) (_hn : n ≤ 40) (hm2 : m ≤ 1500) : Calls Try.prog 64 #[.agg #[.int .i64 0, .int .i64 sport, .int .i64 dport, .int .i64 seq, .int .i64 ack, .int .i64 bits, .int .i64 window, .int .i64 urgent, .int .i64 ty, .int .i64 code, .int .i64 rest, .bool nosum, .slice A n c, .slice D m d], .int .i64 sum] w (EncOut (bs) w) := by
  have q : Hid ((w.alloc (.cells #[.int .i64 0, .int .i64 sport, .int .i64 dport, .int .i64 seq, .int .i64 ack, .int .i64 bits, .int .i64 window, .int .i64 urgent, .int .i64 ty, .int .i64 code, .int .i64 rest, .bool nosum, .slice A n c, .slice D m d] 36)).heap[w.heap.size]? = some (.cells #[.int .i64 0, .int .i64 sport, .int .i64 dport, .int .i64 seq, .int .i64 ack, .int .i64 bits, .int .i64 window, .int .i64 urgent, .int .i64 ty, .int .i64 code, .int .i64 rest, .bool nosum, .slice A n c, .slice D m d] 36)) := Lib.hid (K.new w _)
  have HA := Lib.hid ((hr.below (Joins.below_alloc1 w (.cells #[.int .i64 0, .int .i64 sport, .int .i64 dport, .int .i64 seq, .int .i64 ack, .int .i64 bits, .int .i64 window, .int .i64 urgent, .int .i64 ty, .int .i64 code, .int .i64 rest, .bool nosum, .slice A n c, .slice D m d] 36))))
  have HD := Lib.hid ((hs.below (Joins.below_alloc1 w (.cells #[.int .i64 0, .int .i64 sport, .int .i64 dport, .int .i64 seq, .int .i64 ack, .int .i64 bits, .int .i64 window, .int .i64 urgent, .int .i64 ty, .int .i64 code, .int .i64 rest, .bool nosum, .slice A n c, .slice D m d] 36))))
  have HE : Hid (Below w.heap.size w (w.alloc (.cells #[.int .i64 0, .int .i64 sport, .int .i64 dport, .int .i64 seq, .int .i64 ack, .int .i64 bits, .int .i64 window, .int .i64 urgent, .int .i64 ty, .int .i64 code, .int .i64 rest, .bool nosum, .slice A n c, .slice D m d] 36))) := Lib.hid (Joins.below_alloc1 w _)
  have HL := Lib.hid hl
  have HM := Lib.hid hm
  have hw : (w.alloc (.cells #[.int .i64 0, .int .i64 sport, .int .i64 dport, .int .i64 seq, .int .i64 ack, .int .i64 bits, .int .i64 window, .int .i64 urgent, .int .i64 ty, .int .i64 code, .int .i64 rest, .bool nosum, .slice A n c, .slice D m d] 36)).heap.size = w.heap.size + 1 := by simp
  try simp only at q HA HD HE hw
  clear hr hs hl hm
  have q2 : Hid (((w.alloc (.cells #[.int .i64 0, .int .i64 sport, .int .i64 dport, .int .i64 seq, .int .i64 ack, .int .i64 bits, .int .i64 window, .int .i64 urgent, .int .i64 ty, .int .i64 code, .int .i64 rest, .bool nosum, .slice A n c, .slice D m d] 36)).alloc (.cells #[] 5)).heap[w.heap.size]? = some (.cells #[.int .i64 0, .int .i64 sport, .int .i64 dport, .int .i64 seq, .int .i64 ack, .int .i64 bits, .int .i64 window, .int .i64 urgent, .int .i64 ty, .int .i64 code, .int .i64 rest, .bool nosum, .slice A n c, .slice D m d] 36)) := Lib.hid (K.old q.out _)
  try simp only at q2
  go_enter Try.func64, Try.ntmps64
  have BA : Hid (Bd (w.alloc (.cells #[.int .i64 0, .int .i64 sport, .int .i64 dport, .int .i64 seq, .int .i64 ack, .int .i64 bits, .int .i64 window, .int .i64 urgent, .int .i64 ty, .int .i64 code, .int .i64 rest, .bool nosum, .slice A n c, .slice D m d] 36)) (w.heap.size + 1) ((w.alloc (.cells #[.int .i64 0, .int .i64 sport, .int .i64 dport, .int .i64 seq, .int .i64 ack, .int .i64 bits, .int .i64 window, .int .i64 urgent, .int .i64 ty, .int .i64 code, .int .i64 rest, .bool nosum, .slice A n c, .slice D m d] 36)).alloc (.cells #[] 5)) (some ⟨w.heap.size + 1, 0, none⟩) 0 0 []) := Lib.hid ⟨by have h := World.ownsRow_lit (base := w.heap.size + 1) (e := 5) (size := 1) (w.alloc (.cells #[.int .i64 0, .int .i64 sport, .int .i64 dport, .int .i64 seq, .int .i64 ack, .int .i64 bits, .int .i64 window, .int .i64 urgent, .int .i64 ty, .int .i64 code, .int .i64 rest, .bool nosum, .slice A n c, .slice D m d] 36)) #[] 0 (by simp) (by decide) rfl; simpa [cellsOf] using h, (Below.refl _ _).alloc (by simp) _, by simp, rfl⟩
  go_wp2_with (at_builtin; (refine wpList_append_bd rfl BA.out (.tmp 92) (.tmp 94) rfl rfl _ _ m _ (bs) rfl HM.out (BA.out.rb HD.out (by omega)) (by omega) m (by omega) ?_); intro A_BL c_BL w_BL bd_BL; have BL := Lib.hid bd_BL; clear bd_BL)
  go_ret
  exact encOut (by simp) BL.out.len (BL.out.out HE.out (by omega))
set_option maxHeartbeats 8000000 in
theorem l07B1 (sport dport seq ack bits window urgent ty code rest : Int) (nosum : Bool) (A D : Option Addr) (n c m d : Nat) (os bs : List UInt8) (sum : Int) (w : World) (hr : RB w w.heap.size A os) (hl : os.length = n) (hs : RB w w.heap.size D bs) (hm : bs.length = m) (hn : n ≤ 40) (hm2 : m ≤ 1500) (h5 : 0 ≤ bits ∧ bits ≤ 4095) (h4 : n % 4 = 0) : Calls Try.prog 64 #[.agg #[.int .i64 1, .int .i64 sport, .int .i64 dport, .int .i64 seq, .int .i64 ack, .int .i64 bits, .int .i64 window, .int .i64 urgent, .int .i64 ty, .int .i64 code, .int .i64 rest, .bool nosum, .slice A n c, .slice D m d], .int .i64 sum] w (EncOut (tcpH (Uh.mk 1 sport dport seq ack bits window urgent ty code rest nosum) os sum ++ bs) w) := by
  have q : Hid ((w.alloc (.cells #[.int .i64 1, .int .i64 sport, .int .i64 dport, .int .i64 seq, .int .i64 ack, .int .i64 bits, .int .i64 window, .int .i64 urgent, .int .i64 ty, .int .i64 code, .int .i64 rest, .bool nosum, .slice A n c, .slice D m d] 36)).heap[w.heap.size]? = some (.cells #[.int .i64 1, .int .i64 sport, .int .i64 dport, .int .i64 seq, .int .i64 ack, .int .i64 bits, .int .i64 window, .int .i64 urgent, .int .i64 ty, .int .i64 code, .int .i64 rest, .bool nosum, .slice A n c, .slice D m d] 36)) := Lib.hid (K.new w _)
  have HA := Lib.hid ((hr.below (Joins.below_alloc1 w (.cells #[.int .i64 1, .int .i64 sport, .int .i64 dport, .int .i64 seq, .int .i64 ack, .int .i64 bits, .int .i64 window, .int .i64 urgent, .int .i64 ty, .int .i64 code, .int .i64 rest, .bool nosum, .slice A n c, .slice D m d] 36))))
  have HD := Lib.hid ((hs.below (Joins.below_alloc1 w (.cells #[.int .i64 1, .int .i64 sport, .int .i64 dport, .int .i64 seq, .int .i64 ack, .int .i64 bits, .int .i64 window, .int .i64 urgent, .int .i64 ty, .int .i64 code, .int .i64 rest, .bool nosum, .slice A n c, .slice D m d] 36))))
  have HE : Hid (Below w.heap.size w (w.alloc (.cells #[.int .i64 1, .int .i64 sport, .int .i64 dport, .int .i64 seq, .int .i64 ack, .int .i64 bits, .int .i64 window, .int .i64 urgent, .int .i64 ty, .int .i64 code, .int .i64 rest, .bool nosum, .slice A n c, .slice D m d] 36))) := Lib.hid (Joins.below_alloc1 w _)
  have HL := Lib.hid hl
  have HM := Lib.hid hm
  have hw : (w.alloc (.cells #[.int .i64 1, .int .i64 sport, .int .i64 dport, .int .i64 seq, .int .i64 ack, .int .i64 bits, .int .i64 window, .int .i64 urgent, .int .i64 ty, .int .i64 code, .int .i64 rest, .bool nosum, .slice A n c, .slice D m d] 36)).heap.size = w.heap.size + 1 := by simp
  try simp only at q HA HD HE hw
  clear hr hs hl hm
  have q2 : Hid (((w.alloc (.cells #[.int .i64 1, .int .i64 sport, .int .i64 dport, .int .i64 seq, .int .i64 ack, .int .i64 bits, .int .i64 window, .int .i64 urgent, .int .i64 ty, .int .i64 code, .int .i64 rest, .bool nosum, .slice A n c, .slice D m d] 36)).alloc (.cells #[] 5)).heap[w.heap.size]? = some (.cells #[.int .i64 1, .int .i64 sport, .int .i64 dport, .int .i64 seq, .int .i64 ack, .int .i64 bits, .int .i64 window, .int .i64 urgent, .int .i64 ty, .int .i64 code, .int .i64 rest, .bool nosum, .slice A n c, .slice D m d] 36)) := Lib.hid (K.old q.out _)
  try simp only at q2
  go_enter Try.func64, Try.ntmps64
  go_wp2_with fail
  refine wp_region_owns (by kernel_rfl) 6 96 [(0, 15), (1, 16), (2, 17), (3, 18), (4, 19), (5, 20)] _ ([.val (.pointer (some ⟨w.heap.size, 1, none⟩)), .val (.int .i64 sport), .own (w.heap.size + 1) 2 (put16 sport), .val (.pointer (some ⟨w.heap.size, 2, none⟩)), .val (.int .i64 dport), .own (w.heap.size + 1) 2 (put16 dport)]) (by kernel_rfl) (by kernel_rfl) rfl rfl ?_ ?_
  · intro j o hj ho a' v K' hx hnd hB hK
    match j, hj, ho with
    | 0, _, ho =>
      obtain rfl := Option.some.inj ho
      have h0 : a'.eval (.tmp 2) = .pointer (some ⟨w.heap.size, 0, none⟩) := (hx 2 (by decide)).trans rfl
      exact u_fldU1 _ _ rfl h0 (hK _ _ rfl (Below.refl _ _))
    | 1, _, ho =>
      obtain rfl := Option.some.inj ho
      have h0 : a'.eval (.tmp 15) = .pointer (some ⟨w.heap.size, 1, none⟩) := (owns_of hnd 0 15 (by kernel_rfl) :)
      exact u_int _ _ _ _ rfl h0 (K.cell (K.below hB q2.out) 1 _ rfl) (hK _ _ rfl (Below.refl _ _))
    | 2, _, ho =>
      obtain rfl := Option.some.inj ho
      have h0 : a'.eval (.tmp 16) = .int .i64 sport := (owns_of hnd 1 16 (by kernel_rfl) :)
      refine u_p16S _ _ _ rfl h0 (Calls.mono (put16S _ v) ?_)
      rintro e' v' ⟨X, y, rfl, o6, b6⟩
      exact ⟨_, rfl, hK _ _ ⟨X, y, rfl, own_base o6 (by have := hB.size; simp at this; omega)⟩ b6⟩
    | 3, _, ho =>
      obtain rfl := Option.some.inj ho
      have h0 : a'.eval (.tmp 2) = .pointer (some ⟨w.heap.size, 0, none⟩) := (hx 2 (by decide)).trans rfl
      exact u_fldU2 _ _ rfl h0 (hK _ _ rfl (Below.refl _ _))
    | 4, _, ho =>
      obtain rfl := Option.some.inj ho
      have h0 : a'.eval (.tmp 18) = .pointer (some ⟨w.heap.size, 2, none⟩) := (owns_of hnd 3 18 (by kernel_rfl) :)
      exact u_int _ _ _ _ rfl h0 (K.cell (K.below hB q2.out) 2 _ rfl) (hK _ _ rfl (Below.refl _ _))
    | 5, _, ho =>
      obtain rfl := Option.some.inj ho
      have h0 : a'.eval (.tmp 19) = .int .i64 dport := (owns_of hnd 4 19 (by kernel_rfl) :)
      refine u_p16S _ _ _ rfl h0 (Calls.mono (put16S _ v) ?_)
      rintro e' v' ⟨X, y, rfl, o6, b6⟩
      exact ⟨_, rfl, hK _ _ ⟨X, y, rfl, own_base o6 (by have := hB.size; simp at this; omega)⟩ b6⟩
    | j + 6, hj, _ => omega
  · intro f v hf hB
    have e0 : f 0 = (.pointer (some ⟨w.heap.size, 1, none⟩)) := hf (0, 15) (by decide)
    have e1 : f 1 = (.int .i64 sport) := hf (1, 16) (by decide)
    obtain ⟨X17, y17, e2, r2⟩ := hf (2, 17) (by decide)
    have R17 := Lib.hid r2
    clear r2
    have e3 : f 3 = (.pointer (some ⟨w.heap.size, 2, none⟩)) := hf (3, 18) (by decide)
    have e4 : f 4 = (.int .i64 dport) := hf (4, 19) (by decide)
    obtain ⟨X20, y20, e5, r5⟩ := hf (5, 20) (by decide)
    have R20 := Lib.hid r5
    clear r5
    simp only [List.foldl_cons, List.foldl_nil, List.drop_succ_cons, List.drop_zero, e0, e1, e2, e3, e4, e5]
    clear e0 e1 e2 e3 e4 e5 hf
    go_simp
    have BA : Hid (Bd (w.alloc (.cells #[.int .i64 1, .int .i64 sport, .int .i64 dport, .int .i64 seq, .int .i64 ack, .int .i64 bits, .int .i64 window, .int .i64 urgent, .int .i64 ty, .int .i64 code, .int .i64 rest, .bool nosum, .slice A n c, .slice D m d] 36)) (w.heap.size + 1) v X17 2 y17 (put16 sport)) := Lib.hid ⟨R17.out, ((Below.refl _ _).alloc (by simp) _).trans (hB.mono (by simp)), by have := hB.size; simp at this; omega, rfl⟩
    clear hB
    refine wpList_append_bd rfl BA.out (.tmp 17) (.tmp 20) rfl rfl _ _ 2 _ (put16 dport) rfl rfl (RB.of_own R20.out) (by omega) 4 (by omega) ?_
    intro A_BB c_BB w_BB bd_BB
    have BB := Lib.hid bd_BB
    clear bd_BB
    have k0 := K.cell (BB.out.row q.out (by omega)) 0 _ rfl
    clear R17 R20 BA q2
    go_wp2_with fail
    refine wp_region_apps (by kernel_rfl) 8 96 [(0, 26), (1, 27), (2, 28), (3, 29), (4, 30), (5, 31), (6, 32), (7, 33)] _ ([.val (.slice A_BB 4 c_BB), .val (.pointer (some ⟨w.heap.size, 3, none⟩)), .val (.int .i64 seq), .own w_BB.heap.size 4 (put32 seq), .any, .val (.pointer (some ⟨w.heap.size, 4, none⟩)), .val (.int .i64 ack), .own w_BB.heap.size 4 (put32 ack)]) (by kernel_rfl) (by kernel_rfl) rfl 4 30 (by omega) (by decide) rfl (by simp) BB.out (8) (put16 sport ++ put16 dport ++ put32 seq) (by simp [put16, put32]) ?_ ?_ ?_
    · intro j o hj hjp ho a' v K' hx hnd hB hS hK
      match j, hj, hjp, ho with
      | 0, _, _, ho =>
        obtain rfl := Option.some.inj ho
        have h0 : a'.eval (.tmp 5) = .slice A_BB 4 c_BB := (hx 5 (by decide)).trans rfl
        exact u_move _ _ rfl h0 (hK _ _ rfl (Below.refl _ _))
      | 1, _, _, ho =>
        obtain rfl := Option.some.inj ho
        have h0 : a'.eval (.tmp 2) = .pointer (some ⟨w.heap.size, 0, none⟩) := (hx 2 (by decide)).trans rfl
        exact u_fldU3 _ _ rfl h0 (hK _ _ rfl (Below.refl _ _))
      | 2, _, _, ho =>
        obtain rfl := Option.some.inj ho
        have h0 : a'.eval (.tmp 27) = .pointer (some ⟨w.heap.size, 3, none⟩) := (apps_of hnd 1 27 (by kernel_rfl) (by decide) :)
        exact u_int _ _ _ _ rfl h0 (K.cell (K.on hB (by omega) q.out) 3 _ rfl) (hK _ _ rfl (Below.refl _ _))
      | 3, _, _, ho =>
        obtain rfl := Option.some.inj ho
        have h0 : a'.eval (.tmp 28) = .int .i64 seq := (apps_of hnd 2 28 (by kernel_rfl) (by decide) :)
        refine u_p32S _ _ _ rfl h0 (Calls.mono (put32S _ v) ?_)
        rintro e' v' ⟨X, y, rfl, o6, b6⟩
        exact ⟨_, rfl, hK _ _ ⟨X, y, rfl, own_base o6 hS⟩ b6⟩
      | 4, _, hjp, _ => exact absurd rfl hjp
      | 5, _, _, ho =>
        obtain rfl := Option.some.inj ho
        have h0 : a'.eval (.tmp 2) = .pointer (some ⟨w.heap.size, 0, none⟩) := (hx 2 (by decide)).trans rfl
        exact u_fldU4 _ _ rfl h0 (hK _ _ rfl (Below.refl _ _))
      | 6, _, _, ho =>
        obtain rfl := Option.some.inj ho
        have h0 : a'.eval (.tmp 31) = .pointer (some ⟨w.heap.size, 4, none⟩) := (apps_of hnd 5 31 (by kernel_rfl) (by decide) :)
        exact u_int _ _ _ _ rfl h0 (K.cell (K.on hB (by omega) q.out) 4 _ rfl) (hK _ _ rfl (Below.refl _ _))
      | 7, _, _, ho =>
        obtain rfl := Option.some.inj ho
        have h0 : a'.eval (.tmp 32) = .int .i64 ack := (apps_of hnd 6 32 (by kernel_rfl) (by decide) :)
        refine u_p32S _ _ _ rfl h0 (Calls.mono (put32S _ v) ?_)
        rintro e' v' ⟨X, y, rfl, o6, b6⟩
        exact ⟨_, rfl, hK _ _ ⟨X, y, rfl, own_base o6 hS⟩ b6⟩
      | j + 8, hj, _, _ => omega
    · intro o ho a' v K' hx hnd hBD hS hK
      obtain rfl := Option.some.inj ho
      have h0 : a'.eval (.tmp 26) = .slice A_BB 4 c_BB := (apps_of hnd 0 26 (by kernel_rfl) (by decide) :)
      obtain ⟨P1, p1, h1, r1⟩ := (apps_of hnd 3 29 (by kernel_rfl) (by decide) :)
      exact wp_append_bd rfl hBD (.tmp 26) (.tmp 29) rfl h0 _ P1 4 p1 (put32 seq) h1 rfl (RB.of_own r1) (by omega) hK
    · intro f v A1_ c1_ hf hp BD_
      have e0 : f 0 = (.slice A_BB 4 c_BB) := hf (0, 26) (by decide) (by decide)
      have e1 : f 1 = (.pointer (some ⟨w.heap.size, 3, none⟩)) := hf (1, 27) (by decide) (by decide)
      have e2 : f 2 = (.int .i64 seq) := hf (2, 28) (by decide) (by decide)
      obtain ⟨X29, y29, e3, r3⟩ := hf (3, 29) (by decide) (by decide)
      have R29 := Lib.hid r3
      clear r3
      have e5 : f 5 = (.pointer (some ⟨w.heap.size, 4, none⟩)) := hf (5, 31) (by decide) (by decide)
      have e6 : f 6 = (.int .i64 ack) := hf (6, 32) (by decide) (by decide)
      obtain ⟨X33, y33, e7, r7⟩ := hf (7, 33) (by decide) (by decide)
      have R33 := Lib.hid r7
      clear r7
      have BD_ := Lib.hid BD_
      simp only [List.foldl_cons, List.foldl_nil, List.drop_succ_cons, List.drop_zero, hp, e0, e1, e2, e3, e5, e6, e7]
      clear hp e0 e1 e2 e3 e5 e6 e7 hf
      go_simp
      refine wpList_append_bd rfl BD_.out (.tmp 30) (.tmp 33) rfl rfl _ _ 4 _ (put32 ack) rfl rfl (RB.of_own R33.out) (by omega) 12 (by omega) ?_
      intro A_BC c_BC w_BC bd_BC
      have BC := Lib.hid bd_BC
      clear bd_BC
      have k12 := K.cell (BC.out.row q.out (by omega)) 12 _ rfl
      have k5 := K.cell (BC.out.row q.out (by omega)) 5 _ rfl
      clear R29 R33 BD_ BB
      go_wp2_with fail
      refine Calls.mono (put16S (4096 * (5 + (n : Int) / 4) + bits) _) ?_
      rintro e w_BE ⟨X_BE, y_BE, rfl, o_BE, b_BE⟩
      have BE := Lib.hid (BC.out.call b_BE)
      have S1 := Lib.hid (RB.of_own o_BE)
      clear o_BE b_BE
      clear k12 k5 BC
      go_wp2_with (at_builtin; (refine wpList_append_bd rfl BE.out (.tmp 35) (.tmp 45) rfl rfl _ _ 2 _ (put16 (4096 * (5 + (n : Int) / 4) + bits)) rfl rfl S1.out (by omega) 14 (by omega) ?_); intro A_BF c_BF w_BF bd_BF; have BF := Lib.hid bd_BF; clear bd_BF; have k6 := K.cell (BF.out.row q.out (by omega)) 6 _ rfl)
      refine Calls.mono (put16S (window) _) ?_
      rintro e w_BG ⟨X_BG, y_BG, rfl, o_BG, b_BG⟩
      have BG := Lib.hid (BF.out.call b_BG)
      have S2 := Lib.hid (RB.of_own o_BG)
      clear o_BG b_BG
      clear k6 BF BE
      go_wp2_with (at_builtin; (refine wpList_append_bd rfl BG.out (.tmp 47) (.tmp 50) rfl rfl _ _ 2 _ (put16 window) rfl rfl S2.out (by omega) 16 (by omega) ?_); intro A_BH c_BH w_BH bd_BH; have BH := Lib.hid bd_BH; clear bd_BH)
      refine Calls.mono (put16S (sum) _) ?_
      rintro e w_BI ⟨X_BI, y_BI, rfl, o_BI, b_BI⟩
      have BI := Lib.hid (BH.out.call b_BI)
      have S3 := Lib.hid (RB.of_own o_BI)
      clear o_BI b_BI
      clear BH BG
      go_wp2_with (at_builtin; (refine wpList_append_bd rfl BI.out (.tmp 51) (.tmp 53) rfl rfl _ _ 2 _ (put16 sum) rfl rfl S3.out (by omega) 18 (by omega) ?_); intro A_BJ c_BJ w_BJ bd_BJ; have BJ := Lib.hid bd_BJ; clear bd_BJ)
      clear BI S1 S2 S3
      refine wp_region_apps (by kernel_rfl) 7 96 [(0, 55), (1, 56), (2, 57), (3, 58), (4, 59), (5, 60), (6, 61)] _ ([.val (.slice A_BJ 18 c_BJ), .val (.pointer (some ⟨w.heap.size, 7, none⟩)), .val (.int .i64 urgent), .own w_BJ.heap.size 2 (put16 urgent), .any, .val (.pointer (some ⟨w.heap.size, 12, none⟩)), .val (.slice A n c)]) (by kernel_rfl) (by kernel_rfl) rfl 4 59 (by omega) (by decide) rfl (by simp) BJ.out (20) (put16 sport ++ put16 dport ++ put32 seq ++ put32 ack ++ put16 (4096 * (5 + (n : Int) / 4) + bits) ++ put16 window ++ put16 sum ++ put16 urgent) (by simp [put16, put32]) ?_ ?_ ?_
      · intro j o hj hjp ho a' v K' hx hnd hB hS hK
        match j, hj, hjp, ho with
        | 0, _, _, ho =>
          obtain rfl := Option.some.inj ho
          have h0 : a'.eval (.tmp 5) = .slice A_BJ 18 c_BJ := (hx 5 (by decide)).trans rfl
          exact u_move _ _ rfl h0 (hK _ _ rfl (Below.refl _ _))
        | 1, _, _, ho =>
          obtain rfl := Option.some.inj ho
          have h0 : a'.eval (.tmp 2) = .pointer (some ⟨w.heap.size, 0, none⟩) := (hx 2 (by decide)).trans rfl
          exact u_fldU7 _ _ rfl h0 (hK _ _ rfl (Below.refl _ _))
        | 2, _, _, ho =>
          obtain rfl := Option.some.inj ho
          have h0 : a'.eval (.tmp 56) = .pointer (some ⟨w.heap.size, 7, none⟩) := (apps_of hnd 1 56 (by kernel_rfl) (by decide) :)
          exact u_int _ _ _ _ rfl h0 (K.cell (K.on hB (by omega) q.out) 7 _ rfl) (hK _ _ rfl (Below.refl _ _))
        | 3, _, _, ho =>
          obtain rfl := Option.some.inj ho
          have h0 : a'.eval (.tmp 57) = .int .i64 urgent := (apps_of hnd 2 57 (by kernel_rfl) (by decide) :)
          refine u_p16S _ _ _ rfl h0 (Calls.mono (put16S _ v) ?_)
          rintro e' v' ⟨X, y, rfl, o6, b6⟩
          exact ⟨_, rfl, hK _ _ ⟨X, y, rfl, own_base o6 hS⟩ b6⟩
        | 4, _, hjp, _ => exact absurd rfl hjp
        | 5, _, _, ho =>
          obtain rfl := Option.some.inj ho
          have h0 : a'.eval (.tmp 2) = .pointer (some ⟨w.heap.size, 0, none⟩) := (hx 2 (by decide)).trans rfl
          exact u_fldU12 _ _ rfl h0 (hK _ _ rfl (Below.refl _ _))
        | 6, _, _, ho =>
          obtain rfl := Option.some.inj ho
          have h0 : a'.eval (.tmp 60) = .pointer (some ⟨w.heap.size, 12, none⟩) := (apps_of hnd 5 60 (by kernel_rfl) (by decide) :)
          exact u_bytes _ _ _ _ rfl h0 (K.cell (K.on hB (by omega) q.out) 12 _ rfl) (hK _ _ rfl (Below.refl _ _))
        | j + 7, hj, _, _ => omega
      · intro o ho a' v K' hx hnd hBD hS hK
        obtain rfl := Option.some.inj ho
        have h0 : a'.eval (.tmp 55) = .slice A_BJ 18 c_BJ := (apps_of hnd 0 55 (by kernel_rfl) (by decide) :)
        obtain ⟨P1, p1, h1, r1⟩ := (apps_of hnd 3 58 (by kernel_rfl) (by decide) :)
        exact wp_append_bd rfl hBD (.tmp 55) (.tmp 58) rfl h0 _ P1 2 p1 (put16 urgent) h1 rfl (RB.of_own r1) (by omega) hK
      · intro f v A1_ c1_ hf hp BD_
        have e0 : f 0 = (.slice A_BJ 18 c_BJ) := hf (0, 55) (by decide) (by decide)
        have e1 : f 1 = (.pointer (some ⟨w.heap.size, 7, none⟩)) := hf (1, 56) (by decide) (by decide)
        have e2 : f 2 = (.int .i64 urgent) := hf (2, 57) (by decide) (by decide)
        obtain ⟨X58, y58, e3, r3⟩ := hf (3, 58) (by decide) (by decide)
        have R58 := Lib.hid r3
        clear r3
        have e5 : f 5 = (.pointer (some ⟨w.heap.size, 12, none⟩)) := hf (5, 60) (by decide) (by decide)
        have e6 : f 6 = (.slice A n c) := hf (6, 61) (by decide) (by decide)
        have BD_ := Lib.hid BD_
        simp only [List.foldl_cons, List.foldl_nil, List.drop_succ_cons, List.drop_zero, hp, e0, e1, e2, e3, e5, e6]
        clear hp e0 e1 e2 e3 e5 e6 hf
        go_simp
        refine wpList_append_bd rfl BD_.out (.tmp 59) (.tmp 61) rfl rfl _ _ n _ (os) rfl HL.out (BD_.out.rb HA.out (by omega)) (by omega) (20 + n) (by omega) ?_
        intro A_BK c_BK w_BK bd_BK
        have BK := Lib.hid bd_BK
        clear bd_BK
        have k13 := K.cell (BK.out.row q.out (by omega)) 13 _ rfl
        clear R58 BD_ BJ
        go_wp2_with (at_builtin; (refine wpList_append_bd rfl BK.out (.tmp 92) (.tmp 94) rfl rfl _ _ m _ (bs) rfl HM.out (BK.out.rb HD.out (by omega)) (by omega) (20 + n + m) (by omega) ?_); intro A_BL c_BL w_BL bd_BL; have BL := Lib.hid bd_BL; clear bd_BL)
        clear k13 k0
        go_ret
        exact encOut (by simp only [tcpH, HL.out]) BL.out.len (BL.out.out HE.out (by omega))
set_option maxHeartbeats 8000000 in
theorem l07B2 (sport dport seq ack bits window urgent ty code rest : Int) (nosum : Bool) (A D : Option Addr) (n c m d : Nat) (os bs : List UInt8) (sum : Int) (w : World) (hr : RB w w.heap.size A os) (hl : os.length = n) (hs : RB w w.heap.size D bs) (hm : bs.length = m) (hn : n ≤ 40) (hm2 : m ≤ 1500) : Calls Try.prog 64 #[.agg #[.int .i64 2, .int .i64 sport, .int .i64 dport, .int .i64 seq, .int .i64 ack, .int .i64 bits, .int .i64 window, .int .i64 urgent, .int .i64 ty, .int .i64 code, .int .i64 rest, .bool nosum, .slice A n c, .slice D m d], .int .i64 sum] w (EncOut (udpH (Uh.mk 2 sport dport seq ack bits window urgent ty code rest nosum) m sum ++ bs) w) := by
  have q : Hid ((w.alloc (.cells #[.int .i64 2, .int .i64 sport, .int .i64 dport, .int .i64 seq, .int .i64 ack, .int .i64 bits, .int .i64 window, .int .i64 urgent, .int .i64 ty, .int .i64 code, .int .i64 rest, .bool nosum, .slice A n c, .slice D m d] 36)).heap[w.heap.size]? = some (.cells #[.int .i64 2, .int .i64 sport, .int .i64 dport, .int .i64 seq, .int .i64 ack, .int .i64 bits, .int .i64 window, .int .i64 urgent, .int .i64 ty, .int .i64 code, .int .i64 rest, .bool nosum, .slice A n c, .slice D m d] 36)) := Lib.hid (K.new w _)
  have HA := Lib.hid ((hr.below (Joins.below_alloc1 w (.cells #[.int .i64 2, .int .i64 sport, .int .i64 dport, .int .i64 seq, .int .i64 ack, .int .i64 bits, .int .i64 window, .int .i64 urgent, .int .i64 ty, .int .i64 code, .int .i64 rest, .bool nosum, .slice A n c, .slice D m d] 36))))
  have HD := Lib.hid ((hs.below (Joins.below_alloc1 w (.cells #[.int .i64 2, .int .i64 sport, .int .i64 dport, .int .i64 seq, .int .i64 ack, .int .i64 bits, .int .i64 window, .int .i64 urgent, .int .i64 ty, .int .i64 code, .int .i64 rest, .bool nosum, .slice A n c, .slice D m d] 36))))
  have HE : Hid (Below w.heap.size w (w.alloc (.cells #[.int .i64 2, .int .i64 sport, .int .i64 dport, .int .i64 seq, .int .i64 ack, .int .i64 bits, .int .i64 window, .int .i64 urgent, .int .i64 ty, .int .i64 code, .int .i64 rest, .bool nosum, .slice A n c, .slice D m d] 36))) := Lib.hid (Joins.below_alloc1 w _)
  have HL := Lib.hid hl
  have HM := Lib.hid hm
  have hw : (w.alloc (.cells #[.int .i64 2, .int .i64 sport, .int .i64 dport, .int .i64 seq, .int .i64 ack, .int .i64 bits, .int .i64 window, .int .i64 urgent, .int .i64 ty, .int .i64 code, .int .i64 rest, .bool nosum, .slice A n c, .slice D m d] 36)).heap.size = w.heap.size + 1 := by simp
  try simp only at q HA HD HE hw
  clear hr hs hl hm
  have q2 : Hid (((w.alloc (.cells #[.int .i64 2, .int .i64 sport, .int .i64 dport, .int .i64 seq, .int .i64 ack, .int .i64 bits, .int .i64 window, .int .i64 urgent, .int .i64 ty, .int .i64 code, .int .i64 rest, .bool nosum, .slice A n c, .slice D m d] 36)).alloc (.cells #[] 5)).heap[w.heap.size]? = some (.cells #[.int .i64 2, .int .i64 sport, .int .i64 dport, .int .i64 seq, .int .i64 ack, .int .i64 bits, .int .i64 window, .int .i64 urgent, .int .i64 ty, .int .i64 code, .int .i64 rest, .bool nosum, .slice A n c, .slice D m d] 36)) := Lib.hid (K.old q.out _)
  try simp only at q2
  go_enter Try.func64, Try.ntmps64
  go_wp2_with fail
  refine wp_region_owns (by kernel_rfl) 6 96 [(0, 15), (1, 16), (2, 17), (3, 18), (4, 19), (5, 20)] _ ([.val (.pointer (some ⟨w.heap.size, 1, none⟩)), .val (.int .i64 sport), .own (w.heap.size + 1) 2 (put16 sport), .val (.pointer (some ⟨w.heap.size, 2, none⟩)), .val (.int .i64 dport), .own (w.heap.size + 1) 2 (put16 dport)]) (by kernel_rfl) (by kernel_rfl) rfl rfl ?_ ?_
  · intro j o hj ho a' v K' hx hnd hB hK
    match j, hj, ho with
    | 0, _, ho =>
      obtain rfl := Option.some.inj ho
      have h0 : a'.eval (.tmp 2) = .pointer (some ⟨w.heap.size, 0, none⟩) := (hx 2 (by decide)).trans rfl
      exact u_fldU1 _ _ rfl h0 (hK _ _ rfl (Below.refl _ _))
    | 1, _, ho =>
      obtain rfl := Option.some.inj ho
      have h0 : a'.eval (.tmp 15) = .pointer (some ⟨w.heap.size, 1, none⟩) := (owns_of hnd 0 15 (by kernel_rfl) :)
      exact u_int _ _ _ _ rfl h0 (K.cell (K.below hB q2.out) 1 _ rfl) (hK _ _ rfl (Below.refl _ _))
    | 2, _, ho =>
      obtain rfl := Option.some.inj ho
      have h0 : a'.eval (.tmp 16) = .int .i64 sport := (owns_of hnd 1 16 (by kernel_rfl) :)
      refine u_p16S _ _ _ rfl h0 (Calls.mono (put16S _ v) ?_)
      rintro e' v' ⟨X, y, rfl, o6, b6⟩
      exact ⟨_, rfl, hK _ _ ⟨X, y, rfl, own_base o6 (by have := hB.size; simp at this; omega)⟩ b6⟩
    | 3, _, ho =>
      obtain rfl := Option.some.inj ho
      have h0 : a'.eval (.tmp 2) = .pointer (some ⟨w.heap.size, 0, none⟩) := (hx 2 (by decide)).trans rfl
      exact u_fldU2 _ _ rfl h0 (hK _ _ rfl (Below.refl _ _))
    | 4, _, ho =>
      obtain rfl := Option.some.inj ho
      have h0 : a'.eval (.tmp 18) = .pointer (some ⟨w.heap.size, 2, none⟩) := (owns_of hnd 3 18 (by kernel_rfl) :)
      exact u_int _ _ _ _ rfl h0 (K.cell (K.below hB q2.out) 2 _ rfl) (hK _ _ rfl (Below.refl _ _))
    | 5, _, ho =>
      obtain rfl := Option.some.inj ho
      have h0 : a'.eval (.tmp 19) = .int .i64 dport := (owns_of hnd 4 19 (by kernel_rfl) :)
      refine u_p16S _ _ _ rfl h0 (Calls.mono (put16S _ v) ?_)
      rintro e' v' ⟨X, y, rfl, o6, b6⟩
      exact ⟨_, rfl, hK _ _ ⟨X, y, rfl, own_base o6 (by have := hB.size; simp at this; omega)⟩ b6⟩
    | j + 6, hj, _ => omega
  · intro f v hf hB
    have e0 : f 0 = (.pointer (some ⟨w.heap.size, 1, none⟩)) := hf (0, 15) (by decide)
    have e1 : f 1 = (.int .i64 sport) := hf (1, 16) (by decide)
    obtain ⟨X17, y17, e2, r2⟩ := hf (2, 17) (by decide)
    have R17 := Lib.hid r2
    clear r2
    have e3 : f 3 = (.pointer (some ⟨w.heap.size, 2, none⟩)) := hf (3, 18) (by decide)
    have e4 : f 4 = (.int .i64 dport) := hf (4, 19) (by decide)
    obtain ⟨X20, y20, e5, r5⟩ := hf (5, 20) (by decide)
    have R20 := Lib.hid r5
    clear r5
    simp only [List.foldl_cons, List.foldl_nil, List.drop_succ_cons, List.drop_zero, e0, e1, e2, e3, e4, e5]
    clear e0 e1 e2 e3 e4 e5 hf
    go_simp
    have BA : Hid (Bd (w.alloc (.cells #[.int .i64 2, .int .i64 sport, .int .i64 dport, .int .i64 seq, .int .i64 ack, .int .i64 bits, .int .i64 window, .int .i64 urgent, .int .i64 ty, .int .i64 code, .int .i64 rest, .bool nosum, .slice A n c, .slice D m d] 36)) (w.heap.size + 1) v X17 2 y17 (put16 sport)) := Lib.hid ⟨R17.out, ((Below.refl _ _).alloc (by simp) _).trans (hB.mono (by simp)), by have := hB.size; simp at this; omega, rfl⟩
    clear hB
    refine wpList_append_bd rfl BA.out (.tmp 17) (.tmp 20) rfl rfl _ _ 2 _ (put16 dport) rfl rfl (RB.of_own R20.out) (by omega) 4 (by omega) ?_
    intro A_BB c_BB w_BB bd_BB
    have BB := Lib.hid bd_BB
    clear bd_BB
    have k0 := K.cell (BB.out.row q.out (by omega)) 0 _ rfl
    clear R17 R20 BA q2
    go_wp2_with (with_reducible refine loadU rfl _ rfl w.heap.size rfl (BB.out.row q.out (by omega)) ?_)
    refine Calls.mono (specUpSize (Uh.mk 2 sport dport seq ack bits window urgent ty code rest nosum) A D n c m d _ (by omega) (by omega)) ?_
    rintro e w_BC ⟨rfl, b_BC⟩
    have BC := Lib.hid (BB.out.call b_BC)
    clear b_BC
    simp only [show Uh.size (Uh.mk 2 sport dport seq ack bits window urgent ty code rest nosum) n m = 8 + (m : Int) from rfl]
    go_wp2_with fail
    refine Calls.mono (put16S (8 + (m : Int)) _) ?_
    rintro e w_BE ⟨X_BE, y_BE, rfl, o_BE, b_BE⟩
    have BE := Lib.hid (BC.out.call b_BE)
    have S1 := Lib.hid (RB.of_own o_BE)
    clear o_BE b_BE
    clear BC BB
    go_wp2_with (at_builtin; (refine wpList_append_bd rfl BE.out (.tmp 65) (.tmp 68) rfl rfl _ _ 2 _ (put16 (8 + (m : Int))) rfl rfl S1.out (by omega) 6 (by omega) ?_); intro A_BF c_BF w_BF bd_BF; have BF := Lib.hid bd_BF; clear bd_BF)
    refine Calls.mono (put16S (sum) _) ?_
    rintro e w_BG ⟨X_BG, y_BG, rfl, o_BG, b_BG⟩
    have BG := Lib.hid (BF.out.call b_BG)
    have S2 := Lib.hid (RB.of_own o_BG)
    clear o_BG b_BG
    clear BE BF k0
    go_wp2_with (first | (at_builtin; (refine wpList_append_bd rfl BG.out (.tmp 69) (.tmp 71) rfl rfl _ _ 2 _ (put16 sum) rfl rfl S2.out (by omega) 8 (by omega) ?_); intro A_BH c_BH w_BH bd_BH; have BH := Lib.hid bd_BH; clear bd_BH; have k13 := K.cell (BH.out.row q.out (by omega)) 13 _ rfl) | (at_builtin; (refine wpList_append_bd rfl BH.out (.tmp 92) (.tmp 94) rfl rfl _ _ m _ (bs) rfl HM.out (BH.out.rb HD.out (by omega)) (by omega) (8 + m) (by omega) ?_); intro A_BL c_BL w_BL bd_BL; have BL := Lib.hid bd_BL; clear bd_BL))
    go_ret
    exact encOut (by simp only [udpH]) BL.out.len (BL.out.out HE.out (by omega))
set_option maxHeartbeats 8000000 in
theorem l07B3 (sport dport seq ack bits window urgent ty code rest : Int) (nosum : Bool) (A D : Option Addr) (n c m d : Nat) (os bs : List UInt8) (sum : Int) (w : World) (hr : RB w w.heap.size A os) (hl : os.length = n) (hs : RB w w.heap.size D bs) (hm : bs.length = m) (_hn : n ≤ 40) (hm2 : m ≤ 1500) (h8 : 0 ≤ ty ∧ ty ≤ 255) (h9 : 0 ≤ code ∧ code ≤ 255) : Calls Try.prog 64 #[.agg #[.int .i64 3, .int .i64 sport, .int .i64 dport, .int .i64 seq, .int .i64 ack, .int .i64 bits, .int .i64 window, .int .i64 urgent, .int .i64 ty, .int .i64 code, .int .i64 rest, .bool nosum, .slice A n c, .slice D m d], .int .i64 sum] w (EncOut (icmpH (Uh.mk 3 sport dport seq ack bits window urgent ty code rest nosum) sum ++ bs) w) := by
  have q : Hid ((w.alloc (.cells #[.int .i64 3, .int .i64 sport, .int .i64 dport, .int .i64 seq, .int .i64 ack, .int .i64 bits, .int .i64 window, .int .i64 urgent, .int .i64 ty, .int .i64 code, .int .i64 rest, .bool nosum, .slice A n c, .slice D m d] 36)).heap[w.heap.size]? = some (.cells #[.int .i64 3, .int .i64 sport, .int .i64 dport, .int .i64 seq, .int .i64 ack, .int .i64 bits, .int .i64 window, .int .i64 urgent, .int .i64 ty, .int .i64 code, .int .i64 rest, .bool nosum, .slice A n c, .slice D m d] 36)) := Lib.hid (K.new w _)
  have HA := Lib.hid ((hr.below (Joins.below_alloc1 w (.cells #[.int .i64 3, .int .i64 sport, .int .i64 dport, .int .i64 seq, .int .i64 ack, .int .i64 bits, .int .i64 window, .int .i64 urgent, .int .i64 ty, .int .i64 code, .int .i64 rest, .bool nosum, .slice A n c, .slice D m d] 36))))
  have HD := Lib.hid ((hs.below (Joins.below_alloc1 w (.cells #[.int .i64 3, .int .i64 sport, .int .i64 dport, .int .i64 seq, .int .i64 ack, .int .i64 bits, .int .i64 window, .int .i64 urgent, .int .i64 ty, .int .i64 code, .int .i64 rest, .bool nosum, .slice A n c, .slice D m d] 36))))
  have HE : Hid (Below w.heap.size w (w.alloc (.cells #[.int .i64 3, .int .i64 sport, .int .i64 dport, .int .i64 seq, .int .i64 ack, .int .i64 bits, .int .i64 window, .int .i64 urgent, .int .i64 ty, .int .i64 code, .int .i64 rest, .bool nosum, .slice A n c, .slice D m d] 36))) := Lib.hid (Joins.below_alloc1 w _)
  have HL := Lib.hid hl
  have HM := Lib.hid hm
  have hw : (w.alloc (.cells #[.int .i64 3, .int .i64 sport, .int .i64 dport, .int .i64 seq, .int .i64 ack, .int .i64 bits, .int .i64 window, .int .i64 urgent, .int .i64 ty, .int .i64 code, .int .i64 rest, .bool nosum, .slice A n c, .slice D m d] 36)).heap.size = w.heap.size + 1 := by simp
  try simp only at q HA HD HE hw
  clear hr hs hl hm
  have q2 : Hid (((w.alloc (.cells #[.int .i64 3, .int .i64 sport, .int .i64 dport, .int .i64 seq, .int .i64 ack, .int .i64 bits, .int .i64 window, .int .i64 urgent, .int .i64 ty, .int .i64 code, .int .i64 rest, .bool nosum, .slice A n c, .slice D m d] 36)).alloc (.cells #[] 5)).heap[w.heap.size]? = some (.cells #[.int .i64 3, .int .i64 sport, .int .i64 dport, .int .i64 seq, .int .i64 ack, .int .i64 bits, .int .i64 window, .int .i64 urgent, .int .i64 ty, .int .i64 code, .int .i64 rest, .bool nosum, .slice A n c, .slice D m d] 36)) := Lib.hid (K.old q.out _)
  try simp only at q2
  go_enter Try.func64, Try.ntmps64
  have BA : Hid (Bd (w.alloc (.cells #[.int .i64 3, .int .i64 sport, .int .i64 dport, .int .i64 seq, .int .i64 ack, .int .i64 bits, .int .i64 window, .int .i64 urgent, .int .i64 ty, .int .i64 code, .int .i64 rest, .bool nosum, .slice A n c, .slice D m d] 36)) (w.heap.size + 1) ((w.alloc (.cells #[.int .i64 3, .int .i64 sport, .int .i64 dport, .int .i64 seq, .int .i64 ack, .int .i64 bits, .int .i64 window, .int .i64 urgent, .int .i64 ty, .int .i64 code, .int .i64 rest, .bool nosum, .slice A n c, .slice D m d] 36)).alloc (.cells #[] 5)) (some ⟨w.heap.size + 1, 0, none⟩) 0 0 []) := Lib.hid ⟨by have h := World.ownsRow_lit (base := w.heap.size + 1) (e := 5) (size := 1) (w.alloc (.cells #[.int .i64 3, .int .i64 sport, .int .i64 dport, .int .i64 seq, .int .i64 ack, .int .i64 bits, .int .i64 window, .int .i64 urgent, .int .i64 ty, .int .i64 code, .int .i64 rest, .bool nosum, .slice A n c, .slice D m d] 36)) #[] 0 (by simp) (by decide) rfl; simpa [cellsOf] using h, (Below.refl _ _).alloc (by simp) _, by simp, rfl⟩
  have hb8 : IntKind.u8.wrap ty = ty := by rw [IntKind.wrap_u8]; omega
  have hb9 : IntKind.u8.wrap code = code := by rw [IntKind.wrap_u8]; omega
  go_wp2_with (at_builtin; (refine wpList_append_bd rfl (BA.out.call (Joins.below_alloc1 _ (.cells #[.int .u8 ty, .int .u8 code] 5))) (.tmp 75) (.tmp 82) rfl rfl _ _ 2 _ [byteOf ty, byteOf code] rfl rfl (by have h := rb_twos ((w.alloc (.cells #[.int .i64 3, .int .i64 sport, .int .i64 dport, .int .i64 seq, .int .i64 ack, .int .i64 bits, .int .i64 window, .int .i64 urgent, .int .i64 ty, .int .i64 code, .int .i64 rest, .bool nosum, .slice A n c, .slice D m d] 36)).alloc (.cells #[] 5)) ty code ⟨h8.1, by omega⟩ ⟨h9.1, by omega⟩; simpa using h) (by omega) 2 (by omega) ?_); intro A_BB c_BB w_BB bd_BB; have BB := Lib.hid bd_BB; clear bd_BB)
  clear BA q2
  refine wp_region_apps (by kernel_rfl) 7 96 [(0, 84), (1, 85), (2, 86), (3, 87), (4, 88), (5, 89), (6, 90)] _ ([.val (.slice A_BB 2 c_BB), .val (.int .i64 sum), .own w_BB.heap.size 2 (put16 sum), .any, .val (.pointer (some ⟨w.heap.size, 10, none⟩)), .val (.int .i64 rest), .own w_BB.heap.size 4 (put32 rest)]) (by kernel_rfl) (by kernel_rfl) rfl 3 87 (by omega) (by decide) rfl (by simp) BB.out (4) ([] ++ [byteOf ty, byteOf code] ++ put16 sum) (by simp [put16]) ?_ ?_ ?_
  · intro j o hj hjp ho a' v K' hx hnd hB hS hK
    match j, hj, hjp, ho with
    | 0, _, _, ho =>
      obtain rfl := Option.some.inj ho
      have h0 : a'.eval (.tmp 5) = .slice A_BB 2 c_BB := (hx 5 (by decide)).trans rfl
      exact u_move _ _ rfl h0 (hK _ _ rfl (Below.refl _ _))
    | 1, _, _, ho =>
      obtain rfl := Option.some.inj ho
      have h0 : a'.eval (.tmp 1) = .int .i64 sum := (hx 1 (by decide)).trans rfl
      exact u_move _ _ rfl h0 (hK _ _ rfl (Below.refl _ _))
    | 2, _, _, ho =>
      obtain rfl := Option.some.inj ho
      have h0 : a'.eval (.tmp 85) = .int .i64 sum := (apps_of hnd 1 85 (by kernel_rfl) (by decide) :)
      refine u_p16S _ _ _ rfl h0 (Calls.mono (put16S _ v) ?_)
      rintro e' v' ⟨X, y, rfl, o6, b6⟩
      exact ⟨_, rfl, hK _ _ ⟨X, y, rfl, own_base o6 hS⟩ b6⟩
    | 3, _, hjp, _ => exact absurd rfl hjp
    | 4, _, _, ho =>
      obtain rfl := Option.some.inj ho
      have h0 : a'.eval (.tmp 2) = .pointer (some ⟨w.heap.size, 0, none⟩) := (hx 2 (by decide)).trans rfl
      exact u_fldU10 _ _ rfl h0 (hK _ _ rfl (Below.refl _ _))
    | 5, _, _, ho =>
      obtain rfl := Option.some.inj ho
      have h0 : a'.eval (.tmp 88) = .pointer (some ⟨w.heap.size, 10, none⟩) := (apps_of hnd 4 88 (by kernel_rfl) (by decide) :)
      exact u_int _ _ _ _ rfl h0 (K.cell (K.on hB (by omega) q.out) 10 _ rfl) (hK _ _ rfl (Below.refl _ _))
    | 6, _, _, ho =>
      obtain rfl := Option.some.inj ho
      have h0 : a'.eval (.tmp 89) = .int .i64 rest := (apps_of hnd 5 89 (by kernel_rfl) (by decide) :)
      refine u_p32S _ _ _ rfl h0 (Calls.mono (put32S _ v) ?_)
      rintro e' v' ⟨X, y, rfl, o6, b6⟩
      exact ⟨_, rfl, hK _ _ ⟨X, y, rfl, own_base o6 hS⟩ b6⟩
    | j + 7, hj, _, _ => omega
  · intro o ho a' v K' hx hnd hBD hS hK
    obtain rfl := Option.some.inj ho
    have h0 : a'.eval (.tmp 84) = .slice A_BB 2 c_BB := (apps_of hnd 0 84 (by kernel_rfl) (by decide) :)
    obtain ⟨P1, p1, h1, r1⟩ := (apps_of hnd 2 86 (by kernel_rfl) (by decide) :)
    exact wp_append_bd rfl hBD (.tmp 84) (.tmp 86) rfl h0 _ P1 2 p1 (put16 sum) h1 rfl (RB.of_own r1) (by omega) hK
  · intro f v A1_ c1_ hf hp BD_
    have e0 : f 0 = (.slice A_BB 2 c_BB) := hf (0, 84) (by decide) (by decide)
    have e1 : f 1 = (.int .i64 sum) := hf (1, 85) (by decide) (by decide)
    obtain ⟨X86, y86, e2, r2⟩ := hf (2, 86) (by decide) (by decide)
    have R86 := Lib.hid r2
    clear r2
    have e4 : f 4 = (.pointer (some ⟨w.heap.size, 10, none⟩)) := hf (4, 88) (by decide) (by decide)
    have e5 : f 5 = (.int .i64 rest) := hf (5, 89) (by decide) (by decide)
    obtain ⟨X90, y90, e6, r6⟩ := hf (6, 90) (by decide) (by decide)
    have R90 := Lib.hid r6
    clear r6
    have BD_ := Lib.hid BD_
    simp only [List.foldl_cons, List.foldl_nil, List.drop_succ_cons, List.drop_zero, hp, e0, e1, e2, e4, e5, e6]
    clear hp e0 e1 e2 e4 e5 e6 hf
    go_simp
    refine wpList_append_bd rfl BD_.out (.tmp 87) (.tmp 90) rfl rfl _ _ 4 _ (put32 rest) rfl rfl (RB.of_own R90.out) (by omega) 8 (by omega) ?_
    intro A_BC c_BC w_BC bd_BC
    have BC := Lib.hid bd_BC
    clear bd_BC
    have k13 := K.cell (BC.out.row q.out (by omega)) 13 _ rfl
    clear R86 R90 BD_ BB
    go_wp2_with (at_builtin; (refine wpList_append_bd rfl BC.out (.tmp 92) (.tmp 94) rfl rfl _ _ m _ (bs) rfl HM.out (BC.out.rb HD.out (by omega)) (by omega) (8 + m) (by omega) ?_); intro A_BL c_BL w_BL bd_BL; have BL := Lib.hid bd_BL; clear bd_BL)
    go_ret
    exact encOut (by simp [icmpH]) BL.out.len (BL.out.out HE.out (by omega))
set_option maxHeartbeats 4000000 in
theorem noFC0 (kind sport dport seq ack bits window urgent ty code rest : Int) (nosum : Bool) (A D : Option Addr) (n c m d : Nat) (w : World) : Calls Try.prog 101 #[.agg #[.int .i64 kind, .int .i64 sport, .int .i64 dport, .int .i64 seq, .int .i64 ack, .int .i64 bits, .int .i64 window, .int .i64 urgent, .int .i64 ty, .int .i64 code, .int .i64 rest, .bool nosum, .slice A n c, .slice D m d]] w fun e w' => e = .returned (.bool (noF (Uh.mk kind sport dport seq ack bits window urgent ty code rest nosum) n)) ∧ Below w.heap.size w w' := by
  try simp only
  by_cases z_sport : sport = 0
  case neg =>
    go_enter Try.func101, Try.ntmps101
    go_wp2
    go_ret
    exact ⟨ret_bool (by simp [noF, *]), Joins.below_alloc1 w _⟩
  case pos =>
    subst z_sport
    by_cases z_dport : dport = 0
    case neg =>
      go_enter Try.func101, Try.ntmps101
      go_wp2
      go_ret
      exact ⟨ret_bool (by simp [noF, *]), Joins.below_alloc1 w _⟩
    case pos =>
      subst z_dport
      by_cases z_seq : seq = 0
      case neg =>
        go_enter Try.func101, Try.ntmps101
        go_wp2
        go_ret
        exact ⟨ret_bool (by simp [noF, *]), Joins.below_alloc1 w _⟩
      case pos =>
        subst z_seq
        by_cases z_ack : ack = 0
        case neg =>
          go_enter Try.func101, Try.ntmps101
          go_wp2
          go_ret
          exact ⟨ret_bool (by simp [noF, *]), Joins.below_alloc1 w _⟩
        case pos =>
          subst z_ack
          by_cases z_bits : bits = 0
          case neg =>
            go_enter Try.func101, Try.ntmps101
            go_wp2
            go_ret
            exact ⟨ret_bool (by simp [noF, *]), Joins.below_alloc1 w _⟩
          case pos =>
            subst z_bits
            by_cases z_window : window = 0
            case neg =>
              go_enter Try.func101, Try.ntmps101
              go_wp2
              go_ret
              exact ⟨ret_bool (by simp [noF, *]), Joins.below_alloc1 w _⟩
            case pos =>
              subst z_window
              by_cases z_urgent : urgent = 0
              case neg =>
                go_enter Try.func101, Try.ntmps101
                go_wp2
                go_ret
                exact ⟨ret_bool (by simp [noF, *]), Joins.below_alloc1 w _⟩
              case pos =>
                subst z_urgent
                by_cases z_ty : ty = 0
                case neg =>
                  go_enter Try.func101, Try.ntmps101
                  go_wp2
                  go_ret
                  exact ⟨ret_bool (by simp [noF, *]), Joins.below_alloc1 w _⟩
                case pos =>
                  subst z_ty
                  by_cases z_code : code = 0
                  case neg =>
                    go_enter Try.func101, Try.ntmps101
                    go_wp2
                    go_ret
                    exact ⟨ret_bool (by simp [noF, *]), Joins.below_alloc1 w _⟩
                  case pos =>
                    subst z_code
                    by_cases z_rest : rest = 0
                    case neg =>
                      go_enter Try.func101, Try.ntmps101
                      go_wp2
                      go_ret
                      exact ⟨ret_bool (by simp [noF, *]), Joins.below_alloc1 w _⟩
                    case pos =>
                      subst z_rest
                      cases nosum with
                      | true =>
                        go_enter Try.func101, Try.ntmps101
                        go_wp2
                        go_ret
                        exact ⟨ret_bool (by simp [noF, *]), Joins.below_alloc1 w _⟩
                      | false =>
                        by_cases z_n : n = 0
                        case neg =>
                          have z_m : ¬ (n : Int) = 0 := by omega
                          go_enter Try.func101, Try.ntmps101
                          go_wp2
                          go_ret
                          exact ⟨ret_bool (by simp [noF, *]), Joins.below_alloc1 w _⟩
                        case pos =>
                          subst z_n
                          go_enter Try.func101, Try.ntmps101
                          go_wp2
                          go_ret
                          exact ⟨ret_bool (by simp [noF, *]), Joins.below_alloc1 w _⟩
theorem noFC (x : Uh) (A D : Option Addr) (n c m d : Nat) (w : World) : Calls Try.prog 101 #[.agg #[.int .i64 x.kind, .int .i64 x.sport, .int .i64 x.dport, .int .i64 x.seq, .int .i64 x.ack, .int .i64 x.bits, .int .i64 x.window, .int .i64 x.urgent, .int .i64 x.ty, .int .i64 x.code, .int .i64 x.rest, .bool x.nosum, .slice A n c, .slice D m d]] w fun e w' => e = .returned (.bool (noF x n)) ∧ Below w.heap.size w w' := noFC0 x.kind x.sport x.dport x.seq x.ack x.bits x.window x.urgent x.ty x.code x.rest x.nosum A D n c m d w
end Go.Proofs.Ythogonpjkngpjaa
