/-
  The bytes ahead of the body in the program: kind 1. The bytes ahead of the body in the program: kind 2. The bytes ahead of the body in the program: kind 3. The bytes of an upper layer in the program. The checksum of an upper layer between two addresses. Plain: nothing here speaks of the program. What bytes are read as: an upper layer, its options and body, a code. Plain: nothing here speaks of the program. The program's reader over no bytes at all. What the program's reader takes for each format. The kind that a protocol names, in the program and in the model. The bytes of an upper layer in the model: kind 0. The bytes of an upper layer in the model: kind 1. The bytes of an upper layer in the model: kind 2.
-/
import Derived.Test.YthogonpjkngpjaaRa05
import Derived.Test.YthogonpjkngpjaaRa04
import Derived.Test.YthogonpjkngpjaaRa06
import Derived.Lib.SliceRun
import Derived.Test.YthogonpjkngpjaaRa07
import Derived.Test.YthogonpjkngpjaaRa01
namespace Go.Proofs.Ythogonpjkngpjaa
set_option maxRecDepth 100000
open Go.RowKit

set_option maxHeartbeats 8000000 in
theorem tcpB (sport dport seq ack bits window urgent ty code rest : Int) (nosum : Bool) (A D : Option Addr) (n c m d : Nat) (os bs : List UInt8) (sum : Int) (w : World) (hr : RB w w.heap.size A os) (hl : os.length = n) (hs : RB w w.heap.size D bs) (hm : bs.length = m) (hn : n ≤ 40) (_hm2 : m ≤ 1500) (h5 : 0 ≤ bits ∧ bits ≤ 4095) (h4 : n % 4 = 0) : Calls Try.prog 105 #[.agg #[.int .i64 1, .int .i64 sport, .int .i64 dport, .int .i64 seq, .int .i64 ack, .int .i64 bits, .int .i64 window, .int .i64 urgent, .int .i64 ty, .int .i64 code, .int .i64 rest, .bool nosum, .slice A n c, .slice D m d], .int .i64 sum] w (EncOut (tcpH (Uh.mk 1 sport dport seq ack bits window urgent ty code rest nosum) os sum) w) := by
  have q : Hid ((w.alloc (.cells #[.int .i64 1, .int .i64 sport, .int .i64 dport, .int .i64 seq, .int .i64 ack, .int .i64 bits, .int .i64 window, .int .i64 urgent, .int .i64 ty, .int .i64 code, .int .i64 rest, .bool nosum, .slice A n c, .slice D m d] 110)).heap[w.heap.size]? = some (.cells #[.int .i64 1, .int .i64 sport, .int .i64 dport, .int .i64 seq, .int .i64 ack, .int .i64 bits, .int .i64 window, .int .i64 urgent, .int .i64 ty, .int .i64 code, .int .i64 rest, .bool nosum, .slice A n c, .slice D m d] 110)) := Lib.hid (K.new w _)
  have HA := Lib.hid ((hr.below (Joins.below_alloc1 w (.cells #[.int .i64 1, .int .i64 sport, .int .i64 dport, .int .i64 seq, .int .i64 ack, .int .i64 bits, .int .i64 window, .int .i64 urgent, .int .i64 ty, .int .i64 code, .int .i64 rest, .bool nosum, .slice A n c, .slice D m d] 110))))
  have HD := Lib.hid ((hs.below (Joins.below_alloc1 w (.cells #[.int .i64 1, .int .i64 sport, .int .i64 dport, .int .i64 seq, .int .i64 ack, .int .i64 bits, .int .i64 window, .int .i64 urgent, .int .i64 ty, .int .i64 code, .int .i64 rest, .bool nosum, .slice A n c, .slice D m d] 110))))
  have HE : Hid (Below w.heap.size w (w.alloc (.cells #[.int .i64 1, .int .i64 sport, .int .i64 dport, .int .i64 seq, .int .i64 ack, .int .i64 bits, .int .i64 window, .int .i64 urgent, .int .i64 ty, .int .i64 code, .int .i64 rest, .bool nosum, .slice A n c, .slice D m d] 110))) := Lib.hid (Joins.below_alloc1 w _)
  have HL := Lib.hid hl
  have HM := Lib.hid hm
  have hw : (w.alloc (.cells #[.int .i64 1, .int .i64 sport, .int .i64 dport, .int .i64 seq, .int .i64 ack, .int .i64 bits, .int .i64 window, .int .i64 urgent, .int .i64 ty, .int .i64 code, .int .i64 rest, .bool nosum, .slice A n c, .slice D m d] 110)).heap.size = w.heap.size + 1 := by simp
  try simp only at q HA HD HE hw
  clear hr hs hl hm
  go_enter Try.func105, Try.ntmps105
  go_wp2_with fail
  refine wp_region_owns (by kernel_rfl) 8 59 [(0, 6), (1, 7), (2, 8), (3, 9), (4, 10), (5, 11), (6, 12), (7, 13)] _ ([.val (.pointer (some ⟨w.heap.size, 0, none⟩)), .val (.pointer (some ⟨w.heap.size, 1, none⟩)), .val (.int .i64 sport), .own (w.heap.size + 1) 2 (put16 sport), .val (.pointer (some ⟨w.heap.size, 0, none⟩)), .val (.pointer (some ⟨w.heap.size, 2, none⟩)), .val (.int .i64 dport), .own (w.heap.size + 1) 2 (put16 dport)]) (by kernel_rfl) (by kernel_rfl) rfl rfl ?_ ?_
  · intro j o hj ho a' v K' hx hnd hB hK
    match j, hj, ho with
    | 0, _, ho =>
      obtain rfl := Option.some.inj ho
      have h0 : a'.eval (.tmp 2) = .pointer (some ⟨w.heap.size, 0, none⟩) := (hx 2 (by decide)).trans rfl
      exact u_fld_tcp _ _ rfl h0 (hK _ _ rfl (Below.refl _ _))
    | 1, _, ho =>
      obtain rfl := Option.some.inj ho
      have h0 : a'.eval (.tmp 6) = .pointer (some ⟨w.heap.size, 0, none⟩) := (owns_of hnd 0 6 (by kernel_rfl) :)
      exact u_fldU1 _ _ rfl h0 (hK _ _ rfl (Below.refl _ _))
    | 2, _, ho =>
      obtain rfl := Option.some.inj ho
      have h0 : a'.eval (.tmp 7) = .pointer (some ⟨w.heap.size, 1, none⟩) := (owns_of hnd 1 7 (by kernel_rfl) :)
      exact u_int _ _ _ _ rfl h0 (K.cell (K.below hB q.out) 1 _ rfl) (hK _ _ rfl (Below.refl _ _))
    | 3, _, ho =>
      obtain rfl := Option.some.inj ho
      have h0 : a'.eval (.tmp 8) = .int .i64 sport := (owns_of hnd 2 8 (by kernel_rfl) :)
      refine u_p16I _ _ _ rfl h0 (Calls.mono (put16I _ v) ?_)
      rintro e' v' ⟨X, y, rfl, o6, b6⟩
      exact ⟨_, rfl, hK _ _ ⟨X, y, rfl, own_base o6 (by have := hB.size; simp at this; omega)⟩ b6⟩
    | 4, _, ho =>
      obtain rfl := Option.some.inj ho
      have h0 : a'.eval (.tmp 2) = .pointer (some ⟨w.heap.size, 0, none⟩) := (hx 2 (by decide)).trans rfl
      exact u_fld_tcp _ _ rfl h0 (hK _ _ rfl (Below.refl _ _))
    | 5, _, ho =>
      obtain rfl := Option.some.inj ho
      have h0 : a'.eval (.tmp 10) = .pointer (some ⟨w.heap.size, 0, none⟩) := (owns_of hnd 4 10 (by kernel_rfl) :)
      exact u_fldU2 _ _ rfl h0 (hK _ _ rfl (Below.refl _ _))
    | 6, _, ho =>
      obtain rfl := Option.some.inj ho
      have h0 : a'.eval (.tmp 11) = .pointer (some ⟨w.heap.size, 2, none⟩) := (owns_of hnd 5 11 (by kernel_rfl) :)
      exact u_int _ _ _ _ rfl h0 (K.cell (K.below hB q.out) 2 _ rfl) (hK _ _ rfl (Below.refl _ _))
    | 7, _, ho =>
      obtain rfl := Option.some.inj ho
      have h0 : a'.eval (.tmp 12) = .int .i64 dport := (owns_of hnd 6 12 (by kernel_rfl) :)
      refine u_p16I _ _ _ rfl h0 (Calls.mono (put16I _ v) ?_)
      rintro e' v' ⟨X, y, rfl, o6, b6⟩
      exact ⟨_, rfl, hK _ _ ⟨X, y, rfl, own_base o6 (by have := hB.size; simp at this; omega)⟩ b6⟩
    | j + 8, hj, _ => omega
  · intro f v hf hB
    have e0 : f 0 = (.pointer (some ⟨w.heap.size, 0, none⟩)) := hf (0, 6) (by decide)
    have e1 : f 1 = (.pointer (some ⟨w.heap.size, 1, none⟩)) := hf (1, 7) (by decide)
    have e2 : f 2 = (.int .i64 sport) := hf (2, 8) (by decide)
    obtain ⟨X9, y9, e3, r3⟩ := hf (3, 9) (by decide)
    have R9 := Lib.hid r3
    clear r3
    have e4 : f 4 = (.pointer (some ⟨w.heap.size, 0, none⟩)) := hf (4, 10) (by decide)
    have e5 : f 5 = (.pointer (some ⟨w.heap.size, 2, none⟩)) := hf (5, 11) (by decide)
    have e6 : f 6 = (.int .i64 dport) := hf (6, 12) (by decide)
    obtain ⟨X13, y13, e7, r7⟩ := hf (7, 13) (by decide)
    have R13 := Lib.hid r7
    clear r7
    simp only [List.foldl_cons, List.foldl_nil, List.drop_succ_cons, List.drop_zero, e0, e1, e2, e3, e4, e5, e6, e7]
    clear e0 e1 e2 e3 e4 e5 e6 e7 hf
    go_simp
    have BA : Hid (Bd (w.alloc (.cells #[.int .i64 1, .int .i64 sport, .int .i64 dport, .int .i64 seq, .int .i64 ack, .int .i64 bits, .int .i64 window, .int .i64 urgent, .int .i64 ty, .int .i64 code, .int .i64 rest, .bool nosum, .slice A n c, .slice D m d] 110)) (w.heap.size + 1) v X9 2 y9 (put16 sport)) := Lib.hid ⟨R9.out, hB.mono (by simp), by have := hB.size; simp at this; omega, rfl⟩
    clear hB
    refine wpList_append_bd rfl BA.out (.tmp 9) (.tmp 13) rfl rfl _ _ 2 _ (put16 dport) rfl rfl (RB.of_own R13.out) (by omega) 4 (by omega) ?_
    intro A_BB c_BB w_BB bd_BB
    have BB := Lib.hid bd_BB
    clear bd_BB
    have k3 := K.cell (BB.out.row q.out (by omega)) 3 _ rfl
    clear R9 R13 BA
    go_wp2_with fail
    refine Calls.mono (put32J (seq) _) ?_
    rintro e w_BC ⟨X_BC, y_BC, rfl, o_BC, b_BC⟩
    have BC := Lib.hid (BB.out.call b_BC)
    have S1 := Lib.hid (RB.of_own o_BC)
    clear o_BC b_BC
    clear k3 BB
    go_wp2_with (at_builtin; (refine wpList_append_bd rfl BC.out (.tmp 15) (.tmp 19) rfl rfl _ _ 4 _ (put32 seq) rfl rfl S1.out (by omega) 8 (by omega) ?_); intro A_BE c_BE w_BE bd_BE; have BE := Lib.hid bd_BE; clear bd_BE; have k4 := K.cell (BE.out.row q.out (by omega)) 4 _ rfl)
    refine Calls.mono (put32J (ack) _) ?_
    rintro e w_BF ⟨X_BF, y_BF, rfl, o_BF, b_BF⟩
    have BF := Lib.hid (BE.out.call b_BF)
    have S2 := Lib.hid (RB.of_own o_BF)
    clear o_BF b_BF
    clear k4 BC BE
    go_wp2_with (at_builtin; (refine wpList_append_bd rfl BF.out (.tmp 21) (.tmp 25) rfl rfl _ _ 4 _ (put32 ack) rfl rfl S2.out (by omega) 12 (by omega) ?_); intro A_BG c_BG w_BG bd_BG; have BG := Lib.hid bd_BG; clear bd_BG)
    clear BF S1 S2
    have QG := Lib.hid (BG.out.row q.out (by omega))
    refine wp_region_owns (by kernel_rfl) 10 59 [(0, 27), (1, 28), (2, 29), (3, 30), (4, 31), (5, 32), (6, 33), (7, 34), (8, 35), (9, 36)] _ ([.val (.slice A_BG 12 c_BG), .val (.agg #[.int .i64 1, .int .i64 sport, .int .i64 dport, .int .i64 seq, .int .i64 ack, .int .i64 bits, .int .i64 window, .int .i64 urgent, .int .i64 ty, .int .i64 code, .int .i64 rest, .bool nosum, .slice A n c, .slice D m d]), .val (.int .i64 (20 + (n : Int))), .val (.int .i64 ((20 + (n : Int)) / 4)), .val (.int .i64 (4096 * ((20 + (n : Int)) / 4))), .val (.pointer (some ⟨w.heap.size, 0, none⟩)), .val (.pointer (some ⟨w.heap.size, 5, none⟩)), .val (.int .i64 bits), .val (.int .i64 (4096 * ((20 + (n : Int)) / 4) + bits)), .own w_BG.heap.size 2 (put16 (4096 * ((20 + (n : Int)) / 4) + bits))]) (by kernel_rfl) (by kernel_rfl) rfl rfl ?_ ?_
    · intro j o hj ho a' v K' hx hnd hB hK
      match j, hj, ho with
      | 0, _, ho =>
        obtain rfl := Option.some.inj ho
        have h0 : a'.eval (.tmp 5) = .slice A_BG 12 c_BG := (hx 5 (by decide)).trans rfl
        exact u_move _ _ rfl h0 (hK _ _ rfl (Below.refl _ _))
      | 1, _, ho =>
        obtain rfl := Option.some.inj ho
        have h0 : a'.eval (.tmp 2) = .pointer (some ⟨w.heap.size, 0, none⟩) := (hx 2 (by decide)).trans rfl
        exact wp_load_row 110 _ rfl w.heap.size h0 _ _ (0, 0) _ (K.below hB QG.out) Try.underlying110 rfl info_tcp (hK _ _ rfl (Below.refl _ _))
      | 2, _, ho =>
        obtain rfl := Option.some.inj ho
        have h0 : a'.eval (.tmp 28) = .agg #[.int .i64 1, .int .i64 sport, .int .i64 dport, .int .i64 seq, .int .i64 ack, .int .i64 bits, .int .i64 window, .int .i64 urgent, .int .i64 ty, .int .i64 code, .int .i64 rest, .bool nosum, .slice A n c, .slice D m d] := (owns_of hnd 1 28 (by kernel_rfl) :)
        refine u_headT _ _ _ rfl h0 (Calls.mono (head_tcp (Uh.mk 1 sport dport seq ack bits window urgent ty code rest nosum) A D n c m d v (by omega)) ?_)
        rintro e' v' ⟨rfl, b6⟩
        exact ⟨_, rfl, hK _ _ rfl b6⟩
      | 3, _, ho =>
        obtain rfl := Option.some.inj ho
        have h0 : a'.eval (.tmp 29) = .int .i64 (20 + (n : Int)) := (owns_of hnd 2 29 (by kernel_rfl) :)
        exact u_quo4 _ _ rfl h0 (by omega) (by omega) (hK _ _ rfl (Below.refl _ _))
      | 4, _, ho =>
        obtain rfl := Option.some.inj ho
        have h0 : a'.eval (.tmp 30) = .int .i64 ((20 + (n : Int)) / 4) := (owns_of hnd 3 30 (by kernel_rfl) :)
        exact u_shl12 _ _ rfl h0 (by omega) (by omega) (hK _ _ rfl (Below.refl _ _))
      | 5, _, ho =>
        obtain rfl := Option.some.inj ho
        have h0 : a'.eval (.tmp 2) = .pointer (some ⟨w.heap.size, 0, none⟩) := (hx 2 (by decide)).trans rfl
        exact u_fld_tcp _ _ rfl h0 (hK _ _ rfl (Below.refl _ _))
      | 6, _, ho =>
        obtain rfl := Option.some.inj ho
        have h0 : a'.eval (.tmp 32) = .pointer (some ⟨w.heap.size, 0, none⟩) := (owns_of hnd 5 32 (by kernel_rfl) :)
        exact u_fldU5 _ _ rfl h0 (hK _ _ rfl (Below.refl _ _))
      | 7, _, ho =>
        obtain rfl := Option.some.inj ho
        have h0 : a'.eval (.tmp 33) = .pointer (some ⟨w.heap.size, 5, none⟩) := (owns_of hnd 6 33 (by kernel_rfl) :)
        exact u_int _ _ _ _ rfl h0 (K.cell (K.below hB QG.out) 5 _ rfl) (hK _ _ rfl (Below.refl _ _))
      | 8, _, ho =>
        obtain rfl := Option.some.inj ho
        have h0 : a'.eval (.tmp 31) = .int .i64 (4096 * ((20 + (n : Int)) / 4)) := (owns_of hnd 4 31 (by kernel_rfl) :)
        have h1 : a'.eval (.tmp 34) = .int .i64 bits := (owns_of hnd 7 34 (by kernel_rfl) :)
        exact u_or12 _ _ _ _ rfl h0 h1 (by omega) (by omega) h5.1 h5.2 (hK _ _ rfl (Below.refl _ _))
      | 9, _, ho =>
        obtain rfl := Option.some.inj ho
        have h0 : a'.eval (.tmp 35) = .int .i64 (4096 * ((20 + (n : Int)) / 4) + bits) := (owns_of hnd 8 35 (by kernel_rfl) :)
        refine u_p16I _ _ _ rfl h0 (Calls.mono (put16I _ v) ?_)
        rintro e' v' ⟨X, y, rfl, o6, b6⟩
        exact ⟨_, rfl, hK _ _ ⟨X, y, rfl, own_base o6 hB.size⟩ b6⟩
      | j + 10, hj, _ => omega
    · intro f v hf hB
      have e0 : f 0 = (.slice A_BG 12 c_BG) := hf (0, 27) (by decide)
      have e1 : f 1 = (.agg #[.int .i64 1, .int .i64 sport, .int .i64 dport, .int .i64 seq, .int .i64 ack, .int .i64 bits, .int .i64 window, .int .i64 urgent, .int .i64 ty, .int .i64 code, .int .i64 rest, .bool nosum, .slice A n c, .slice D m d]) := hf (1, 28) (by decide)
      have e2 : f 2 = (.int .i64 (20 + (n : Int))) := hf (2, 29) (by decide)
      have e3 : f 3 = (.int .i64 ((20 + (n : Int)) / 4)) := hf (3, 30) (by decide)
      have e4 : f 4 = (.int .i64 (4096 * ((20 + (n : Int)) / 4))) := hf (4, 31) (by decide)
      have e5 : f 5 = (.pointer (some ⟨w.heap.size, 0, none⟩)) := hf (5, 32) (by decide)
      have e6 : f 6 = (.pointer (some ⟨w.heap.size, 5, none⟩)) := hf (6, 33) (by decide)
      have e7 : f 7 = (.int .i64 bits) := hf (7, 34) (by decide)
      have e8 : f 8 = (.int .i64 (4096 * ((20 + (n : Int)) / 4) + bits)) := hf (8, 35) (by decide)
      obtain ⟨X36, y36, e9, r9⟩ := hf (9, 36) (by decide)
      have R36 := Lib.hid r9
      clear r9
      simp only [List.foldl_cons, List.foldl_nil, List.drop_succ_cons, List.drop_zero, e0, e1, e2, e3, e4, e5, e6, e7, e8, e9]
      clear e0 e1 e2 e3 e4 e5 e6 e7 e8 e9 hf
      go_simp
      have BH := Lib.hid (BG.out.call hB)
      clear hB
      refine wpList_append_bd rfl BH.out (.tmp 27) (.tmp 36) rfl rfl _ _ 2 _ (put16 (4096 * ((20 + (n : Int)) / 4) + bits)) rfl rfl (RB.of_own R36.out) (by omega) 14 (by omega) ?_
      intro A_BI c_BI w_BI bd_BI
      have BI := Lib.hid bd_BI
      clear bd_BI
      have k6 := K.cell (BI.out.row q.out (by omega)) 6 _ rfl
      clear R36 BG BH QG
      go_wp2_with fail
      refine Calls.mono (put16I (window) _) ?_
      rintro e w_BJ ⟨X_BJ, y_BJ, rfl, o_BJ, b_BJ⟩
      have BJ := Lib.hid (BI.out.call b_BJ)
      have S3 := Lib.hid (RB.of_own o_BJ)
      clear o_BJ b_BJ
      clear k6 BI
      go_wp2_with (at_builtin; (refine wpList_append_bd rfl BJ.out (.tmp 38) (.tmp 42) rfl rfl _ _ 2 _ (put16 window) rfl rfl S3.out (by omega) 16 (by omega) ?_); intro A_BK c_BK w_BK bd_BK; have BK := Lib.hid bd_BK; clear bd_BK)
      refine Calls.mono (put16I (sum) _) ?_
      rintro e w_BL ⟨X_BL, y_BL, rfl, o_BL, b_BL⟩
      have BL := Lib.hid (BK.out.call b_BL)
      have S4 := Lib.hid (RB.of_own o_BL)
      clear o_BL b_BL
      clear BJ BK
      go_wp2_with (at_builtin; (refine wpList_append_bd rfl BL.out (.tmp 44) (.tmp 46) rfl rfl _ _ 2 _ (put16 sum) rfl rfl S4.out (by omega) 18 (by omega) ?_); intro A_BM c_BM w_BM bd_BM; have BM := Lib.hid bd_BM; clear bd_BM; have k7 := K.cell (BM.out.row q.out (by omega)) 7 _ rfl)
      refine Calls.mono (put16I (urgent) _) ?_
      rintro e w_BN ⟨X_BN, y_BN, rfl, o_BN, b_BN⟩
      have BN := Lib.hid (BM.out.call b_BN)
      have S5 := Lib.hid (RB.of_own o_BN)
      clear o_BN b_BN
      clear BL BM k7
      go_wp2_with (first | (at_builtin; (refine wpList_append_bd rfl BN.out (.tmp 48) (.tmp 52) rfl rfl _ _ 2 _ (put16 urgent) rfl rfl S5.out (by omega) 20 (by omega) ?_); intro A_BO c_BO w_BO bd_BO; have BO := Lib.hid bd_BO; clear bd_BO; have k12 := K.cell (BO.out.row q.out (by omega)) 12 _ rfl) | (at_builtin; (refine wpList_append_bd rfl BO.out (.tmp 54) (.tmp 57) rfl rfl _ _ n _ (os) rfl HL.out (BO.out.rb HA.out (by omega)) (by omega) (20 + n) (by omega) ?_); intro A_BP c_BP w_BP bd_BP; have BP := Lib.hid bd_BP; clear bd_BP))
      clear k12
      go_ret
      exact encOut (by simp only [tcpH, HL.out, show (20 + (n : Int)) / 4 = 5 + (n : Int) / 4 by omega]) BP.out.len (BP.out.out HE.out (by omega))

end Go.Proofs.Ythogonpjkngpjaa

namespace Go.Proofs.Ythogonpjkngpjaa
set_option maxRecDepth 100000
open Go.RowKit

set_option maxHeartbeats 8000000 in
theorem udpB (sport dport seq ack bits window urgent ty code rest : Int) (nosum : Bool) (A D : Option Addr) (n c m d : Nat) (os bs : List UInt8) (sum : Int) (w : World) (hr : RB w w.heap.size A os) (hl : os.length = n) (hs : RB w w.heap.size D bs) (hm : bs.length = m) (hn : n ≤ 40) (hm2 : m ≤ 1500) : Calls Try.prog 106 #[.agg #[.int .i64 2, .int .i64 sport, .int .i64 dport, .int .i64 seq, .int .i64 ack, .int .i64 bits, .int .i64 window, .int .i64 urgent, .int .i64 ty, .int .i64 code, .int .i64 rest, .bool nosum, .slice A n c, .slice D m d], .int .i64 sum] w (EncOut (udpH (Uh.mk 2 sport dport seq ack bits window urgent ty code rest nosum) m sum) w) := by
  have q : Hid ((w.alloc (.cells #[.int .i64 2, .int .i64 sport, .int .i64 dport, .int .i64 seq, .int .i64 ack, .int .i64 bits, .int .i64 window, .int .i64 urgent, .int .i64 ty, .int .i64 code, .int .i64 rest, .bool nosum, .slice A n c, .slice D m d] 111)).heap[w.heap.size]? = some (.cells #[.int .i64 2, .int .i64 sport, .int .i64 dport, .int .i64 seq, .int .i64 ack, .int .i64 bits, .int .i64 window, .int .i64 urgent, .int .i64 ty, .int .i64 code, .int .i64 rest, .bool nosum, .slice A n c, .slice D m d] 111)) := Lib.hid (K.new w _)
  have HA := Lib.hid ((hr.below (Joins.below_alloc1 w (.cells #[.int .i64 2, .int .i64 sport, .int .i64 dport, .int .i64 seq, .int .i64 ack, .int .i64 bits, .int .i64 window, .int .i64 urgent, .int .i64 ty, .int .i64 code, .int .i64 rest, .bool nosum, .slice A n c, .slice D m d] 111))))
  have HD := Lib.hid ((hs.below (Joins.below_alloc1 w (.cells #[.int .i64 2, .int .i64 sport, .int .i64 dport, .int .i64 seq, .int .i64 ack, .int .i64 bits, .int .i64 window, .int .i64 urgent, .int .i64 ty, .int .i64 code, .int .i64 rest, .bool nosum, .slice A n c, .slice D m d] 111))))
  have HE : Hid (Below w.heap.size w (w.alloc (.cells #[.int .i64 2, .int .i64 sport, .int .i64 dport, .int .i64 seq, .int .i64 ack, .int .i64 bits, .int .i64 window, .int .i64 urgent, .int .i64 ty, .int .i64 code, .int .i64 rest, .bool nosum, .slice A n c, .slice D m d] 111))) := Lib.hid (Joins.below_alloc1 w _)
  have HL := Lib.hid hl
  have HM := Lib.hid hm
  have hw : (w.alloc (.cells #[.int .i64 2, .int .i64 sport, .int .i64 dport, .int .i64 seq, .int .i64 ack, .int .i64 bits, .int .i64 window, .int .i64 urgent, .int .i64 ty, .int .i64 code, .int .i64 rest, .bool nosum, .slice A n c, .slice D m d] 111)).heap.size = w.heap.size + 1 := by simp
  try simp only at q HA HD HE hw
  clear hr hs hl hm
  go_enter Try.func106, Try.ntmps106
  go_wp2_with fail
  refine wp_region_owns (by kernel_rfl) 8 25 [(0, 6), (1, 7), (2, 8), (3, 9), (4, 10), (5, 11), (6, 12), (7, 13)] _ ([.val (.pointer (some ⟨w.heap.size, 0, none⟩)), .val (.pointer (some ⟨w.heap.size, 1, none⟩)), .val (.int .i64 sport), .own (w.heap.size + 1) 2 (put16 sport), .val (.pointer (some ⟨w.heap.size, 0, none⟩)), .val (.pointer (some ⟨w.heap.size, 2, none⟩)), .val (.int .i64 dport), .own (w.heap.size + 1) 2 (put16 dport)]) (by kernel_rfl) (by kernel_rfl) rfl rfl ?_ ?_
  · intro j o hj ho a' v K' hx hnd hB hK
    match j, hj, ho with
    | 0, _, ho =>
      obtain rfl := Option.some.inj ho
      have h0 : a'.eval (.tmp 2) = .pointer (some ⟨w.heap.size, 0, none⟩) := (hx 2 (by decide)).trans rfl
      exact u_fld_udp _ _ rfl h0 (hK _ _ rfl (Below.refl _ _))
    | 1, _, ho =>
      obtain rfl := Option.some.inj ho
      have h0 : a'.eval (.tmp 6) = .pointer (some ⟨w.heap.size, 0, none⟩) := (owns_of hnd 0 6 (by kernel_rfl) :)
      exact u_fldU1 _ _ rfl h0 (hK _ _ rfl (Below.refl _ _))
    | 2, _, ho =>
      obtain rfl := Option.some.inj ho
      have h0 : a'.eval (.tmp 7) = .pointer (some ⟨w.heap.size, 1, none⟩) := (owns_of hnd 1 7 (by kernel_rfl) :)
      exact u_int _ _ _ _ rfl h0 (K.cell (K.below hB q.out) 1 _ rfl) (hK _ _ rfl (Below.refl _ _))
    | 3, _, ho =>
      obtain rfl := Option.some.inj ho
      have h0 : a'.eval (.tmp 8) = .int .i64 sport := (owns_of hnd 2 8 (by kernel_rfl) :)
      refine u_p16I _ _ _ rfl h0 (Calls.mono (put16I _ v) ?_)
      rintro e' v' ⟨X, y, rfl, o6, b6⟩
      exact ⟨_, rfl, hK _ _ ⟨X, y, rfl, own_base o6 (by have := hB.size; simp at this; omega)⟩ b6⟩
    | 4, _, ho =>
      obtain rfl := Option.some.inj ho
      have h0 : a'.eval (.tmp 2) = .pointer (some ⟨w.heap.size, 0, none⟩) := (hx 2 (by decide)).trans rfl
      exact u_fld_udp _ _ rfl h0 (hK _ _ rfl (Below.refl _ _))
    | 5, _, ho =>
      obtain rfl := Option.some.inj ho
      have h0 : a'.eval (.tmp 10) = .pointer (some ⟨w.heap.size, 0, none⟩) := (owns_of hnd 4 10 (by kernel_rfl) :)
      exact u_fldU2 _ _ rfl h0 (hK _ _ rfl (Below.refl _ _))
    | 6, _, ho =>
      obtain rfl := Option.some.inj ho
      have h0 : a'.eval (.tmp 11) = .pointer (some ⟨w.heap.size, 2, none⟩) := (owns_of hnd 5 11 (by kernel_rfl) :)
      exact u_int _ _ _ _ rfl h0 (K.cell (K.below hB q.out) 2 _ rfl) (hK _ _ rfl (Below.refl _ _))
    | 7, _, ho =>
      obtain rfl := Option.some.inj ho
      have h0 : a'.eval (.tmp 12) = .int .i64 dport := (owns_of hnd 6 12 (by kernel_rfl) :)
      refine u_p16I _ _ _ rfl h0 (Calls.mono (put16I _ v) ?_)
      rintro e' v' ⟨X, y, rfl, o6, b6⟩
      exact ⟨_, rfl, hK _ _ ⟨X, y, rfl, own_base o6 (by have := hB.size; simp at this; omega)⟩ b6⟩
    | j + 8, hj, _ => omega
  · intro f v hf hB
    have e0 : f 0 = (.pointer (some ⟨w.heap.size, 0, none⟩)) := hf (0, 6) (by decide)
    have e1 : f 1 = (.pointer (some ⟨w.heap.size, 1, none⟩)) := hf (1, 7) (by decide)
    have e2 : f 2 = (.int .i64 sport) := hf (2, 8) (by decide)
    obtain ⟨X9, y9, e3, r3⟩ := hf (3, 9) (by decide)
    have R9 := Lib.hid r3
    clear r3
    have e4 : f 4 = (.pointer (some ⟨w.heap.size, 0, none⟩)) := hf (4, 10) (by decide)
    have e5 : f 5 = (.pointer (some ⟨w.heap.size, 2, none⟩)) := hf (5, 11) (by decide)
    have e6 : f 6 = (.int .i64 dport) := hf (6, 12) (by decide)
    obtain ⟨X13, y13, e7, r7⟩ := hf (7, 13) (by decide)
    have R13 := Lib.hid r7
    clear r7
    simp only [List.foldl_cons, List.foldl_nil, List.drop_succ_cons, List.drop_zero, e0, e1, e2, e3, e4, e5, e6, e7]
    clear e0 e1 e2 e3 e4 e5 e6 e7 hf
    go_simp
    have BA : Hid (Bd (w.alloc (.cells #[.int .i64 2, .int .i64 sport, .int .i64 dport, .int .i64 seq, .int .i64 ack, .int .i64 bits, .int .i64 window, .int .i64 urgent, .int .i64 ty, .int .i64 code, .int .i64 rest, .bool nosum, .slice A n c, .slice D m d] 111)) (w.heap.size + 1) v X9 2 y9 (put16 sport)) := Lib.hid ⟨R9.out, hB.mono (by simp), by have := hB.size; simp at this; omega, rfl⟩
    clear hB
    refine wpList_append_bd rfl BA.out (.tmp 9) (.tmp 13) rfl rfl _ _ 2 _ (put16 dport) rfl rfl (RB.of_own R13.out) (by omega) 4 (by omega) ?_
    intro A_BB c_BB w_BB bd_BB
    have BB := Lib.hid bd_BB
    clear bd_BB
    have QB := Lib.hid (BB.out.row q.out (by omega))
    clear R9 R13 BA
    go_wp2_with (with_reducible refine loadU rfl _ rfl w.heap.size rfl QB.out ?_)
    refine Calls.mono (implUpSize (Uh.mk 2 sport dport seq ack bits window urgent ty code rest nosum) A D n c m d _ (by omega) (by omega)) ?_
    rintro e w_BC ⟨rfl, b_BC⟩
    have BC := Lib.hid (BB.out.call b_BC)
    clear b_BC BB QB
    simp only [show Uh.size (Uh.mk 2 sport dport seq ack bits window urgent ty code rest nosum) n m = 8 + (m : Int) from rfl]
    go_wp2_with fail
    refine Calls.mono (put16I (8 + (m : Int)) _) ?_
    rintro e w_BE ⟨X_BE, y_BE, rfl, o_BE, b_BE⟩
    have BE := Lib.hid (BC.out.call b_BE)
    have S1 := Lib.hid (RB.of_own o_BE)
    clear o_BE b_BE
    clear BC
    go_wp2_with (at_builtin; (refine wpList_append_bd rfl BE.out (.tmp 15) (.tmp 19) rfl rfl _ _ 2 _ (put16 (8 + (m : Int))) rfl rfl S1.out (by omega) 6 (by omega) ?_); intro A_BF c_BF w_BF bd_BF; have BF := Lib.hid bd_BF; clear bd_BF)
    refine Calls.mono (put16I (sum) _) ?_
    rintro e w_BG ⟨X_BG, y_BG, rfl, o_BG, b_BG⟩
    have BG := Lib.hid (BF.out.call b_BG)
    have S2 := Lib.hid (RB.of_own o_BG)
    clear o_BG b_BG
    clear BE BF
    go_wp2_with (at_builtin; (refine wpList_append_bd rfl BG.out (.tmp 21) (.tmp 23) rfl rfl _ _ 2 _ (put16 sum) rfl rfl S2.out (by omega) 8 (by omega) ?_); intro A_BH c_BH w_BH bd_BH; have BH := Lib.hid bd_BH; clear bd_BH)
    go_ret
    exact encOut (by simp only [udpH]) BH.out.len (BH.out.out HE.out (by omega))

end Go.Proofs.Ythogonpjkngpjaa

namespace Go.Proofs.Ythogonpjkngpjaa
set_option maxRecDepth 100000
open Go.RowKit

set_option maxHeartbeats 8000000 in
theorem icmpB (sport dport seq ack bits window urgent ty code rest : Int) (nosum : Bool) (A D : Option Addr) (n c m d : Nat) (os bs : List UInt8) (sum : Int) (w : World) (hr : RB w w.heap.size A os) (hl : os.length = n) (hs : RB w w.heap.size D bs) (hm : bs.length = m) (_hn : n ≤ 40) (_hm2 : m ≤ 1500) (h8 : 0 ≤ ty ∧ ty ≤ 255) (h9 : 0 ≤ code ∧ code ≤ 255) : Calls Try.prog 107 #[.agg #[.int .i64 3, .int .i64 sport, .int .i64 dport, .int .i64 seq, .int .i64 ack, .int .i64 bits, .int .i64 window, .int .i64 urgent, .int .i64 ty, .int .i64 code, .int .i64 rest, .bool nosum, .slice A n c, .slice D m d], .int .i64 sum] w (EncOut (icmpH (Uh.mk 3 sport dport seq ack bits window urgent ty code rest nosum) sum) w) := by
  have q : Hid ((w.alloc (.cells #[.int .i64 3, .int .i64 sport, .int .i64 dport, .int .i64 seq, .int .i64 ack, .int .i64 bits, .int .i64 window, .int .i64 urgent, .int .i64 ty, .int .i64 code, .int .i64 rest, .bool nosum, .slice A n c, .slice D m d] 112)).heap[w.heap.size]? = some (.cells #[.int .i64 3, .int .i64 sport, .int .i64 dport, .int .i64 seq, .int .i64 ack, .int .i64 bits, .int .i64 window, .int .i64 urgent, .int .i64 ty, .int .i64 code, .int .i64 rest, .bool nosum, .slice A n c, .slice D m d] 112)) := Lib.hid (K.new w _)
  have HA := Lib.hid ((hr.below (Joins.below_alloc1 w (.cells #[.int .i64 3, .int .i64 sport, .int .i64 dport, .int .i64 seq, .int .i64 ack, .int .i64 bits, .int .i64 window, .int .i64 urgent, .int .i64 ty, .int .i64 code, .int .i64 rest, .bool nosum, .slice A n c, .slice D m d] 112))))
  have HD := Lib.hid ((hs.below (Joins.below_alloc1 w (.cells #[.int .i64 3, .int .i64 sport, .int .i64 dport, .int .i64 seq, .int .i64 ack, .int .i64 bits, .int .i64 window, .int .i64 urgent, .int .i64 ty, .int .i64 code, .int .i64 rest, .bool nosum, .slice A n c, .slice D m d] 112))))
  have HE : Hid (Below w.heap.size w (w.alloc (.cells #[.int .i64 3, .int .i64 sport, .int .i64 dport, .int .i64 seq, .int .i64 ack, .int .i64 bits, .int .i64 window, .int .i64 urgent, .int .i64 ty, .int .i64 code, .int .i64 rest, .bool nosum, .slice A n c, .slice D m d] 112))) := Lib.hid (Joins.below_alloc1 w _)
  have HL := Lib.hid hl
  have HM := Lib.hid hm
  have hw : (w.alloc (.cells #[.int .i64 3, .int .i64 sport, .int .i64 dport, .int .i64 seq, .int .i64 ack, .int .i64 bits, .int .i64 window, .int .i64 urgent, .int .i64 ty, .int .i64 code, .int .i64 rest, .bool nosum, .slice A n c, .slice D m d] 112)).heap.size = w.heap.size + 1 := by simp
  try simp only at q HA HD HE hw
  clear hr hs hl hm
  go_enter Try.func107, Try.ntmps107
  go_wp2_with fail
  refine wp_region_owns (by kernel_rfl) 11 24 [(0, 6), (1, 7), (2, 8), (3, 9), (4, 10), (5, 11), (6, 12), (7, 13), (8, 14), (9, 15), (10, 16)] _ ([.val (.pointer (some ⟨w.heap.size, 0, none⟩)), .val (.pointer (some ⟨w.heap.size, 8, none⟩)), .val (.int .i64 ty), .val (.int .u8 ty), .val (.pointer (some ⟨w.heap.size, 0, none⟩)), .val (.pointer (some ⟨w.heap.size, 9, none⟩)), .val (.int .i64 code), .val (.int .u8 code), .own (w.heap.size + 1) 2 [byteOf ty, byteOf code], .val (.int .i64 sum), .own (w.heap.size + 1) 2 (put16 sum)]) (by kernel_rfl) (by kernel_rfl) rfl rfl ?_ ?_
  · intro j o hj ho a' v K' hx hnd hB hK
    match j, hj, ho with
    | 0, _, ho =>
      obtain rfl := Option.some.inj ho
      have h0 : a'.eval (.tmp 2) = .pointer (some ⟨w.heap.size, 0, none⟩) := (hx 2 (by decide)).trans rfl
      exact u_fld_icmp _ _ rfl h0 (hK _ _ rfl (Below.refl _ _))
    | 1, _, ho =>
      obtain rfl := Option.some.inj ho
      have h0 : a'.eval (.tmp 6) = .pointer (some ⟨w.heap.size, 0, none⟩) := (owns_of hnd 0 6 (by kernel_rfl) :)
      exact u_fldU8 _ _ rfl h0 (hK _ _ rfl (Below.refl _ _))
    | 2, _, ho =>
      obtain rfl := Option.some.inj ho
      have h0 : a'.eval (.tmp 7) = .pointer (some ⟨w.heap.size, 8, none⟩) := (owns_of hnd 1 7 (by kernel_rfl) :)
      exact u_int _ _ _ _ rfl h0 (K.cell (K.below hB q.out) 8 _ rfl) (hK _ _ rfl (Below.refl _ _))
    | 3, _, ho =>
      obtain rfl := Option.some.inj ho
      have h0 : a'.eval (.tmp 8) = .int .i64 ty := (owns_of hnd 2 8 (by kernel_rfl) :)
      exact u_byte _ _ rfl h0 h8.1 h8.2 (hK _ _ rfl (Below.refl _ _))
    | 4, _, ho =>
      obtain rfl := Option.some.inj ho
      have h0 : a'.eval (.tmp 2) = .pointer (some ⟨w.heap.size, 0, none⟩) := (hx 2 (by decide)).trans rfl
      exact u_fld_icmp _ _ rfl h0 (hK _ _ rfl (Below.refl _ _))
    | 5, _, ho =>
      obtain rfl := Option.some.inj ho
      have h0 : a'.eval (.tmp 10) = .pointer (some ⟨w.heap.size, 0, none⟩) := (owns_of hnd 4 10 (by kernel_rfl) :)
      exact u_fldU9 _ _ rfl h0 (hK _ _ rfl (Below.refl _ _))
    | 6, _, ho =>
      obtain rfl := Option.some.inj ho
      have h0 : a'.eval (.tmp 11) = .pointer (some ⟨w.heap.size, 9, none⟩) := (owns_of hnd 5 11 (by kernel_rfl) :)
      exact u_int _ _ _ _ rfl h0 (K.cell (K.below hB q.out) 9 _ rfl) (hK _ _ rfl (Below.refl _ _))
    | 7, _, ho =>
      obtain rfl := Option.some.inj ho
      have h0 : a'.eval (.tmp 12) = .int .i64 code := (owns_of hnd 6 12 (by kernel_rfl) :)
      exact u_byte _ _ rfl h0 h9.1 h9.2 (hK _ _ rfl (Below.refl _ _))
    | 8, _, ho =>
      obtain rfl := Option.some.inj ho
      have h0 : a'.eval (.tmp 9) = .int .u8 ty := (owns_of hnd 3 9 (by kernel_rfl) :)
      have h1 : a'.eval (.tmp 13) = .int .u8 code := (owns_of hnd 7 13 (by kernel_rfl) :)
      exact u_twoO (w.heap.size + 1) _ _ _ _ rfl h0 h1 ⟨h8.1, by omega⟩ ⟨h9.1, by omega⟩ (by have := hB.size; simp at this; omega) hK
    | 9, _, ho =>
      obtain rfl := Option.some.inj ho
      have h0 : a'.eval (.tmp 1) = .int .i64 sum := (hx 1 (by decide)).trans rfl
      exact u_move _ _ rfl h0 (hK _ _ rfl (Below.refl _ _))
    | 10, _, ho =>
      obtain rfl := Option.some.inj ho
      have h0 : a'.eval (.tmp 15) = .int .i64 sum := (owns_of hnd 9 15 (by kernel_rfl) :)
      refine u_p16I _ _ _ rfl h0 (Calls.mono (put16I _ v) ?_)
      rintro e' v' ⟨X, y, rfl, o6, b6⟩
      exact ⟨_, rfl, hK _ _ ⟨X, y, rfl, own_base o6 (by have := hB.size; simp at this; omega)⟩ b6⟩
    | j + 11, hj, _ => omega
  · intro f v hf hB
    have e0 : f 0 = (.pointer (some ⟨w.heap.size, 0, none⟩)) := hf (0, 6) (by decide)
    have e1 : f 1 = (.pointer (some ⟨w.heap.size, 8, none⟩)) := hf (1, 7) (by decide)
    have e2 : f 2 = (.int .i64 ty) := hf (2, 8) (by decide)
    have e3 : f 3 = (.int .u8 ty) := hf (3, 9) (by decide)
    have e4 : f 4 = (.pointer (some ⟨w.heap.size, 0, none⟩)) := hf (4, 10) (by decide)
    have e5 : f 5 = (.pointer (some ⟨w.heap.size, 9, none⟩)) := hf (5, 11) (by decide)
    have e6 : f 6 = (.int .i64 code) := hf (6, 12) (by decide)
    have e7 : f 7 = (.int .u8 code) := hf (7, 13) (by decide)
    obtain ⟨X14, y14, e8, r8⟩ := hf (8, 14) (by decide)
    have R14 := Lib.hid r8
    clear r8
    have e9 : f 9 = (.int .i64 sum) := hf (9, 15) (by decide)
    obtain ⟨X16, y16, e10, r10⟩ := hf (10, 16) (by decide)
    have R16 := Lib.hid r10
    clear r10
    simp only [List.foldl_cons, List.foldl_nil, List.drop_succ_cons, List.drop_zero, e0, e1, e2, e3, e4, e5, e6, e7, e8, e9, e10]
    clear e0 e1 e2 e3 e4 e5 e6 e7 e8 e9 e10 hf
    go_simp
    have BA : Hid (Bd (w.alloc (.cells #[.int .i64 3, .int .i64 sport, .int .i64 dport, .int .i64 seq, .int .i64 ack, .int .i64 bits, .int .i64 window, .int .i64 urgent, .int .i64 ty, .int .i64 code, .int .i64 rest, .bool nosum, .slice A n c, .slice D m d] 112)) (w.heap.size + 1) v X14 2 y14 [byteOf ty, byteOf code]) := Lib.hid ⟨R14.out, hB.mono (by simp), by have := hB.size; simp at this; omega, rfl⟩
    clear hB
    refine wpList_append_bd rfl BA.out (.tmp 14) (.tmp 16) rfl rfl _ _ 2 _ (put16 sum) rfl rfl (RB.of_own R16.out) (by omega) 4 (by omega) ?_
    intro A_BB c_BB w_BB bd_BB
    have BB := Lib.hid bd_BB
    clear bd_BB
    have k10 := K.cell (BB.out.row q.out (by omega)) 10 _ rfl
    clear R14 R16 BA
    go_wp2_with fail
    refine Calls.mono (put32J (rest) _) ?_
    rintro e w_BC ⟨X_BC, y_BC, rfl, o_BC, b_BC⟩
    have BC := Lib.hid (BB.out.call b_BC)
    have S1 := Lib.hid (RB.of_own o_BC)
    clear o_BC b_BC
    clear k10 BB
    go_wp2_with (at_builtin; (refine wpList_append_bd rfl BC.out (.tmp 18) (.tmp 22) rfl rfl _ _ 4 _ (put32 rest) rfl rfl S1.out (by omega) 8 (by omega) ?_); intro A_BE c_BE w_BE bd_BE; have BE := Lib.hid bd_BE; clear bd_BE)
    go_ret
    exact encOut (by simp only [icmpH]) BE.out.len (BE.out.out HE.out (by omega))

end Go.Proofs.Ythogonpjkngpjaa

namespace Go.Proofs.Ythogonpjkngpjaa
set_option maxRecDepth 100000
open Go.RowKit

theorem ta_other_tcp (v : Value) (w : World) : (Instr.typeAssert (.iface 109 v) 70 110 true).run Try.prog w = .ok (.tuple #[.agg #[.int .i64 0, .int .i64 0, .int .i64 0, .int .i64 0, .int .i64 0, .int .i64 0, .int .i64 0, .int .i64 0, .int .i64 0, .int .i64 0, .int .i64 0, .bool false, .slice none 0 0, .slice none 0 0], .bool false]) w := by kernel_rfl
theorem ta_other_udp (v : Value) (w : World) : (Instr.typeAssert (.iface 109 v) 70 111 true).run Try.prog w = .ok (.tuple #[.agg #[.int .i64 0, .int .i64 0, .int .i64 0, .int .i64 0, .int .i64 0, .int .i64 0, .int .i64 0, .int .i64 0, .int .i64 0, .int .i64 0, .int .i64 0, .bool false, .slice none 0 0, .slice none 0 0], .bool false]) w := by kernel_rfl
theorem ta_other_icmp (v : Value) (w : World) : (Instr.typeAssert (.iface 109 v) 70 112 true).run Try.prog w = .ok (.tuple #[.agg #[.int .i64 0, .int .i64 0, .int .i64 0, .int .i64 0, .int .i64 0, .int .i64 0, .int .i64 0, .int .i64 0, .int .i64 0, .int .i64 0, .int .i64 0, .bool false, .slice none 0 0, .slice none 0 0], .bool false]) w := by kernel_rfl
theorem ta_tcp_tcp (v : Value) (w : World) : (Instr.typeAssert (.iface 110 v) 70 110 true).run Try.prog w = .ok (.tuple #[v, .bool true]) w := by kernel_rfl
theorem ta_udp_tcp (v : Value) (w : World) : (Instr.typeAssert (.iface 111 v) 70 110 true).run Try.prog w = .ok (.tuple #[.agg #[.int .i64 0, .int .i64 0, .int .i64 0, .int .i64 0, .int .i64 0, .int .i64 0, .int .i64 0, .int .i64 0, .int .i64 0, .int .i64 0, .int .i64 0, .bool false, .slice none 0 0, .slice none 0 0], .bool false]) w := by kernel_rfl
theorem ta_udp_udp (v : Value) (w : World) : (Instr.typeAssert (.iface 111 v) 70 111 true).run Try.prog w = .ok (.tuple #[v, .bool true]) w := by kernel_rfl
theorem ta_icmp_tcp (v : Value) (w : World) : (Instr.typeAssert (.iface 112 v) 70 110 true).run Try.prog w = .ok (.tuple #[.agg #[.int .i64 0, .int .i64 0, .int .i64 0, .int .i64 0, .int .i64 0, .int .i64 0, .int .i64 0, .int .i64 0, .int .i64 0, .int .i64 0, .int .i64 0, .bool false, .slice none 0 0, .slice none 0 0], .bool false]) w := by kernel_rfl
theorem ta_icmp_udp (v : Value) (w : World) : (Instr.typeAssert (.iface 112 v) 70 111 true).run Try.prog w = .ok (.tuple #[.agg #[.int .i64 0, .int .i64 0, .int .i64 0, .int .i64 0, .int .i64 0, .int .i64 0, .int .i64 0, .int .i64 0, .int .i64 0, .int .i64 0, .int .i64 0, .bool false, .slice none 0 0, .slice none 0 0], .bool false]) w := by kernel_rfl
theorem ta_icmp_icmp (v : Value) (w : World) : (Instr.typeAssert (.iface 112 v) 70 112 true).run Try.prog w = .ok (.tuple #[v, .bool true]) w := by kernel_rfl

set_option maxHeartbeats 8000000 in
theorem upB0 (sport dport seq ack bits window urgent ty code rest : Int) (nosum : Bool) (A D : Option Addr) (n c m d : Nat) (os bs : List UInt8) (sum : Int) (w : World) (hr : RB w w.heap.size A os) (hl : os.length = n) (hs : RB w w.heap.size D bs) (hm : bs.length = m) (hn : n ≤ 40) (hm2 : m ≤ 1500) : Calls Try.prog 70 #[.agg #[.int .i64 0, .int .i64 sport, .int .i64 dport, .int .i64 seq, .int .i64 ack, .int .i64 bits, .int .i64 window, .int .i64 urgent, .int .i64 ty, .int .i64 code, .int .i64 rest, .bool nosum, .slice A n c, .slice D m d], .int .i64 sum] w (EncOut (bs) w) := by
  have q : Hid ((w.alloc (.cells #[.int .i64 0, .int .i64 sport, .int .i64 dport, .int .i64 seq, .int .i64 ack, .int .i64 bits, .int .i64 window, .int .i64 urgent, .int .i64 ty, .int .i64 code, .int .i64 rest, .bool nosum, .slice A n c, .slice D m d] 36)).heap[w.heap.size]? = some (.cells #[.int .i64 0, .int .i64 sport, .int .i64 dport, .int .i64 seq, .int .i64 ack, .int .i64 bits, .int .i64 window, .int .i64 urgent, .int .i64 ty, .int .i64 code, .int .i64 rest, .bool nosum, .slice A n c, .slice D m d] 36)) := Lib.hid (K.new w _)
  have HA := Lib.hid ((hr.below (Joins.below_alloc1 w (.cells #[.int .i64 0, .int .i64 sport, .int .i64 dport, .int .i64 seq, .int .i64 ack, .int .i64 bits, .int .i64 window, .int .i64 urgent, .int .i64 ty, .int .i64 code, .int .i64 rest, .bool nosum, .slice A n c, .slice D m d] 36))))
  have HD := Lib.hid ((hs.below (Joins.below_alloc1 w (.cells #[.int .i64 0, .int .i64 sport, .int .i64 dport, .int .i64 seq, .int .i64 ack, .int .i64 bits, .int .i64 window, .int .i64 urgent, .int .i64 ty, .int .i64 code, .int .i64 rest, .bool nosum, .slice A n c, .slice D m d] 36))))
  have HE : Hid (Below w.heap.size w (w.alloc (.cells #[.int .i64 0, .int .i64 sport, .int .i64 dport, .int .i64 seq, .int .i64 ack, .int .i64 bits, .int .i64 window, .int .i64 urgent, .int .i64 ty, .int .i64 code, .int .i64 rest, .bool nosum, .slice A n c, .slice D m d] 36))) := Lib.hid (Joins.below_alloc1 w _)
  have HL := Lib.hid hl
  have HM := Lib.hid hm
  have hw : (w.alloc (.cells #[.int .i64 0, .int .i64 sport, .int .i64 dport, .int .i64 seq, .int .i64 ack, .int .i64 bits, .int .i64 window, .int .i64 urgent, .int .i64 ty, .int .i64 code, .int .i64 rest, .bool nosum, .slice A n c, .slice D m d] 36)).heap.size = w.heap.size + 1 := by simp
  try simp only at q HA HD HE hw
  clear hl hm
  clear hr hs
  have hmk := run_make_z ((m : Int)) m (by omega) (by omega)
  go_enter Try.func70, Try.ntmps70
  go_wp2_with (with_reducible refine loadU rfl _ rfl w.heap.size rfl q.out ?_)
  refine Calls.mono (implUpSize (Uh.mk 0 sport dport seq ack bits window urgent ty code rest nosum) A D n c m d _ (by omega) (by omega)) ?_
  rintro e w1 ⟨rfl, b1⟩
  simp only [show Uh.size (Uh.mk 0 sport dport seq ack bits window urgent ty code rest nosum) n m = (m : Int) from rfl]
  have BA : Hid (Bd (w.alloc (.cells #[.int .i64 0, .int .i64 sport, .int .i64 dport, .int .i64 seq, .int .i64 ack, .int .i64 bits, .int .i64 window, .int .i64 urgent, .int .i64 ty, .int .i64 code, .int .i64 rest, .bool nosum, .slice A n c, .slice D m d] 36)) (w.heap.size + 1) (w1.alloc (.cells (madeCells #[.int .u8 0] m) 5)) (some ⟨w1.heap.size, 0, none⟩) 0 m []) := Lib.hid ⟨by have h := World.ownsRow_made (base := w.heap.size + 1) (e := 5) (size := 1) w1 (madeCells #[.int .u8 0] m) m (by have := b1.size; simp at this; omega) (by unfold maxLen; omega) (by rw [size_madeCells]; simp); simpa [cellsOf] using h, ((b1.mono (by simp)).alloc (by have := b1.size; simp at this; omega) _), by have := b1.size; simp at this; simp; omega, rfl⟩
  have Q1 := Lib.hid (BA.out.row q.out (by omega))
  clear b1
  go_wp2_with (with_reducible refine loadU rfl _ rfl w.heap.size rfl Q1.out ?_)
  refine Calls.mono (formatOfC (Uh.mk 0 sport dport seq ack bits window urgent ty code rest nosum) A D n c m d _) ?_
  rintro e w2 ⟨rfl, rfl⟩
  simp only [show ∀ v, fmtV 0 v = .iface 109 v from fun _ => rfl]
  have BB := Lib.hid (BA.out.call (Joins.below_alloc1 _ (.cells #[.int .i64 0, .int .i64 sport, .int .i64 dport, .int .i64 seq, .int .i64 ack, .int .i64 bits, .int .i64 window, .int .i64 urgent, .int .i64 ty, .int .i64 code, .int .i64 rest, .bool nosum, .slice A n c, .slice D m d] 36)))
  clear Q1 BA hmk
  try simp only at BB
  generalize (w1.alloc (.cells (madeCells #[.int .u8 0] m) 5)).alloc (.cells #[.int .i64 0, .int .i64 sport, .int .i64 dport, .int .i64 seq, .int .i64 ack, .int .i64 bits, .int .i64 window, .int .i64 urgent, .int .i64 ty, .int .i64 code, .int .i64 rest, .bool nosum, .slice A n c, .slice D m d] 36) = w3 at BB ⊢
  have ta0 := ta_other_tcp (.agg #[.int .i64 0, .int .i64 sport, .int .i64 dport, .int .i64 seq, .int .i64 ack, .int .i64 bits, .int .i64 window, .int .i64 urgent, .int .i64 ty, .int .i64 code, .int .i64 rest, .bool nosum, .slice A n c, .slice D m d])
  have ta1 := ta_other_udp (.agg #[.int .i64 0, .int .i64 sport, .int .i64 dport, .int .i64 seq, .int .i64 ack, .int .i64 bits, .int .i64 window, .int .i64 urgent, .int .i64 ty, .int .i64 code, .int .i64 rest, .bool nosum, .slice A n c, .slice D m d])
  have ta2 := ta_other_icmp (.agg #[.int .i64 0, .int .i64 sport, .int .i64 dport, .int .i64 seq, .int .i64 ack, .int .i64 bits, .int .i64 window, .int .i64 urgent, .int .i64 ty, .int .i64 code, .int .i64 rest, .bool nosum, .slice A n c, .slice D m d])
  try simp only at ta0 ta1 ta2
  have k13 := K.cell (BB.out.row q.out (by omega)) 13 _ rfl
  go_wp2_with (at_builtin; (refine wpList_append_bd rfl BB.out (.tmp 38) (.tmp 40) rfl rfl _ _ m _ (bs) rfl HM.out (BB.out.rb HD.out (by omega)) (by omega) m (by omega) ?_); intro A_BL c_BL w_BL bd_BL; have BL := Lib.hid bd_BL; clear bd_BL)
  go_ret
  exact encOut (by simp) BL.out.len (BL.out.out HE.out (by omega))

set_option maxHeartbeats 8000000 in
theorem upB1 (sport dport seq ack bits window urgent ty code rest : Int) (nosum : Bool) (A D : Option Addr) (n c m d : Nat) (os bs : List UInt8) (sum : Int) (w : World) (hr : RB w w.heap.size A os) (hl : os.length = n) (hs : RB w w.heap.size D bs) (hm : bs.length = m) (hn : n ≤ 40) (hm2 : m ≤ 1500) (h5 : 0 ≤ bits ∧ bits ≤ 4095) (h4 : n % 4 = 0) : Calls Try.prog 70 #[.agg #[.int .i64 1, .int .i64 sport, .int .i64 dport, .int .i64 seq, .int .i64 ack, .int .i64 bits, .int .i64 window, .int .i64 urgent, .int .i64 ty, .int .i64 code, .int .i64 rest, .bool nosum, .slice A n c, .slice D m d], .int .i64 sum] w (EncOut (tcpH (Uh.mk 1 sport dport seq ack bits window urgent ty code rest nosum) os sum ++ bs) w) := by
  have q : Hid ((w.alloc (.cells #[.int .i64 1, .int .i64 sport, .int .i64 dport, .int .i64 seq, .int .i64 ack, .int .i64 bits, .int .i64 window, .int .i64 urgent, .int .i64 ty, .int .i64 code, .int .i64 rest, .bool nosum, .slice A n c, .slice D m d] 36)).heap[w.heap.size]? = some (.cells #[.int .i64 1, .int .i64 sport, .int .i64 dport, .int .i64 seq, .int .i64 ack, .int .i64 bits, .int .i64 window, .int .i64 urgent, .int .i64 ty, .int .i64 code, .int .i64 rest, .bool nosum, .slice A n c, .slice D m d] 36)) := Lib.hid (K.new w _)
  have HA := Lib.hid ((hr.below (Joins.below_alloc1 w (.cells #[.int .i64 1, .int .i64 sport, .int .i64 dport, .int .i64 seq, .int .i64 ack, .int .i64 bits, .int .i64 window, .int .i64 urgent, .int .i64 ty, .int .i64 code, .int .i64 rest, .bool nosum, .slice A n c, .slice D m d] 36))))
  have HD := Lib.hid ((hs.below (Joins.below_alloc1 w (.cells #[.int .i64 1, .int .i64 sport, .int .i64 dport, .int .i64 seq, .int .i64 ack, .int .i64 bits, .int .i64 window, .int .i64 urgent, .int .i64 ty, .int .i64 code, .int .i64 rest, .bool nosum, .slice A n c, .slice D m d] 36))))
  have HE : Hid (Below w.heap.size w (w.alloc (.cells #[.int .i64 1, .int .i64 sport, .int .i64 dport, .int .i64 seq, .int .i64 ack, .int .i64 bits, .int .i64 window, .int .i64 urgent, .int .i64 ty, .int .i64 code, .int .i64 rest, .bool nosum, .slice A n c, .slice D m d] 36))) := Lib.hid (Joins.below_alloc1 w _)
  have HL := Lib.hid hl
  have HM := Lib.hid hm
  have hw : (w.alloc (.cells #[.int .i64 1, .int .i64 sport, .int .i64 dport, .int .i64 seq, .int .i64 ack, .int .i64 bits, .int .i64 window, .int .i64 urgent, .int .i64 ty, .int .i64 code, .int .i64 rest, .bool nosum, .slice A n c, .slice D m d] 36)).heap.size = w.heap.size + 1 := by simp
  try simp only at q HA HD HE hw
  clear hl hm
  have HC := Lib.hid (fun v (b : Below w.heap.size w v) => tcpB sport dport seq ack bits window urgent ty code rest nosum A D n c m d os bs sum v ((hr.below b).more b.size) HL.out ((hs.below b).more b.size) HM.out hn hm2 h5 h4)
  clear hr hs
  have hmk := run_make_z (20 + (n : Int) + m) (20 + n + m) (by omega) (by omega)
  go_enter Try.func70, Try.ntmps70
  go_wp2_with (with_reducible refine loadU rfl _ rfl w.heap.size rfl q.out ?_)
  refine Calls.mono (implUpSize (Uh.mk 1 sport dport seq ack bits window urgent ty code rest nosum) A D n c m d _ (by omega) (by omega)) ?_
  rintro e w1 ⟨rfl, b1⟩
  simp only [show Uh.size (Uh.mk 1 sport dport seq ack bits window urgent ty code rest nosum) n m = 20 + (n : Int) + m from rfl]
  have BA : Hid (Bd (w.alloc (.cells #[.int .i64 1, .int .i64 sport, .int .i64 dport, .int .i64 seq, .int .i64 ack, .int .i64 bits, .int .i64 window, .int .i64 urgent, .int .i64 ty, .int .i64 code, .int .i64 rest, .bool nosum, .slice A n c, .slice D m d] 36)) (w.heap.size + 1) (w1.alloc (.cells (madeCells #[.int .u8 0] (20 + n + m)) 5)) (some ⟨w1.heap.size, 0, none⟩) 0 (20 + n + m) []) := Lib.hid ⟨by have h := World.ownsRow_made (base := w.heap.size + 1) (e := 5) (size := 1) w1 (madeCells #[.int .u8 0] (20 + n + m)) (20 + n + m) (by have := b1.size; simp at this; omega) (by unfold maxLen; omega) (by rw [size_madeCells]; simp); simpa [cellsOf] using h, ((b1.mono (by simp)).alloc (by have := b1.size; simp at this; omega) _), by have := b1.size; simp at this; simp; omega, rfl⟩
  have Q1 := Lib.hid (BA.out.row q.out (by omega))
  clear b1
  go_wp2_with (with_reducible refine loadU rfl _ rfl w.heap.size rfl Q1.out ?_)
  refine Calls.mono (formatOfC (Uh.mk 1 sport dport seq ack bits window urgent ty code rest nosum) A D n c m d _) ?_
  rintro e w2 ⟨rfl, rfl⟩
  simp only [show ∀ v, fmtV 1 v = .iface 110 v from fun _ => rfl]
  have BB := Lib.hid (BA.out.call (Joins.below_alloc1 _ (.cells #[.int .i64 1, .int .i64 sport, .int .i64 dport, .int .i64 seq, .int .i64 ack, .int .i64 bits, .int .i64 window, .int .i64 urgent, .int .i64 ty, .int .i64 code, .int .i64 rest, .bool nosum, .slice A n c, .slice D m d] 36)))
  clear Q1 BA hmk
  try simp only at BB
  generalize (w1.alloc (.cells (madeCells #[.int .u8 0] (20 + n + m)) 5)).alloc (.cells #[.int .i64 1, .int .i64 sport, .int .i64 dport, .int .i64 seq, .int .i64 ack, .int .i64 bits, .int .i64 window, .int .i64 urgent, .int .i64 ty, .int .i64 code, .int .i64 rest, .bool nosum, .slice A n c, .slice D m d] 36) = w3 at BB ⊢
  have ta0 := ta_tcp_tcp (.agg #[.int .i64 1, .int .i64 sport, .int .i64 dport, .int .i64 seq, .int .i64 ack, .int .i64 bits, .int .i64 window, .int .i64 urgent, .int .i64 ty, .int .i64 code, .int .i64 rest, .bool nosum, .slice A n c, .slice D m d])
  try simp only at ta0
  have r3 := Lib.hid (K.new w3 (.cells #[.int .i64 1, .int .i64 sport, .int .i64 dport, .int .i64 seq, .int .i64 ack, .int .i64 bits, .int .i64 window, .int .i64 urgent, .int .i64 ty, .int .i64 code, .int .i64 rest, .bool nosum, .slice A n c, .slice D m d] 110))
  try simp only at r3
  go_wp2_with (first | (with_reducible refine storeNew_tcp rfl _ _ rfl rfl rfl ?_) | (with_reducible refine load_tcp rfl _ rfl w3.heap.size rfl r3.out ?_))
  have BC := Lib.hid (BB.out.call (Joins.below_alloc1 w3 (.cells #[.int .i64 1, .int .i64 sport, .int .i64 dport, .int .i64 seq, .int .i64 ack, .int .i64 bits, .int .i64 window, .int .i64 urgent, .int .i64 ty, .int .i64 code, .int .i64 rest, .bool nosum, .slice A n c, .slice D m d] 110)))
  try simp only at BC
  refine Calls.mono (HC.out _ (HE.out.trans (BC.out.keep.mono (by omega)))) ?_
  rintro e w4 ⟨A4, c4, rfl, o4, b4⟩
  have BE := Lib.hid (BC.out.call b4)
  have P4 := Lib.hid (RB.of_own o4)
  clear o4 b4 BC r3 HC BB
  have hh := Lib.hid (show (tcpH (Uh.mk 1 sport dport seq ack bits window urgent ty code rest nosum) os sum).length = 20 + n by rw [tcpH_len, HL.out])
  rw [hh.out]
  go_wp2_with (first | (at_builtin; (refine wpList_append_bd rfl BE.out (.tmp 17) (.tmp 20) rfl rfl _ _ (20 + n) _ (tcpH (Uh.mk 1 sport dport seq ack bits window urgent ty code rest nosum) os sum) rfl hh.out P4.out (by omega) (20 + n) (by omega) ?_); intro A_BF c_BF w_BF bd_BF; have BF := Lib.hid bd_BF; clear bd_BF; have k13 := K.cell (BF.out.row q.out (by omega)) 13 _ rfl) | (at_builtin; (refine wpList_append_bd rfl BF.out (.tmp 38) (.tmp 40) rfl rfl _ _ m _ (bs) rfl HM.out (BF.out.rb HD.out (by omega)) (by omega) (20 + n + m) (by omega) ?_); intro A_BL c_BL w_BL bd_BL; have BL := Lib.hid bd_BL; clear bd_BL))
  go_ret
  exact encOut (by simp) BL.out.len (BL.out.out HE.out (by omega))

set_option maxHeartbeats 8000000 in
theorem upB2 (sport dport seq ack bits window urgent ty code rest : Int) (nosum : Bool) (A D : Option Addr) (n c m d : Nat) (os bs : List UInt8) (sum : Int) (w : World) (hr : RB w w.heap.size A os) (hl : os.length = n) (hs : RB w w.heap.size D bs) (hm : bs.length = m) (hn : n ≤ 40) (hm2 : m ≤ 1500) : Calls Try.prog 70 #[.agg #[.int .i64 2, .int .i64 sport, .int .i64 dport, .int .i64 seq, .int .i64 ack, .int .i64 bits, .int .i64 window, .int .i64 urgent, .int .i64 ty, .int .i64 code, .int .i64 rest, .bool nosum, .slice A n c, .slice D m d], .int .i64 sum] w (EncOut (udpH (Uh.mk 2 sport dport seq ack bits window urgent ty code rest nosum) m sum ++ bs) w) := by
  have q : Hid ((w.alloc (.cells #[.int .i64 2, .int .i64 sport, .int .i64 dport, .int .i64 seq, .int .i64 ack, .int .i64 bits, .int .i64 window, .int .i64 urgent, .int .i64 ty, .int .i64 code, .int .i64 rest, .bool nosum, .slice A n c, .slice D m d] 36)).heap[w.heap.size]? = some (.cells #[.int .i64 2, .int .i64 sport, .int .i64 dport, .int .i64 seq, .int .i64 ack, .int .i64 bits, .int .i64 window, .int .i64 urgent, .int .i64 ty, .int .i64 code, .int .i64 rest, .bool nosum, .slice A n c, .slice D m d] 36)) := Lib.hid (K.new w _)
  have HA := Lib.hid ((hr.below (Joins.below_alloc1 w (.cells #[.int .i64 2, .int .i64 sport, .int .i64 dport, .int .i64 seq, .int .i64 ack, .int .i64 bits, .int .i64 window, .int .i64 urgent, .int .i64 ty, .int .i64 code, .int .i64 rest, .bool nosum, .slice A n c, .slice D m d] 36))))
  have HD := Lib.hid ((hs.below (Joins.below_alloc1 w (.cells #[.int .i64 2, .int .i64 sport, .int .i64 dport, .int .i64 seq, .int .i64 ack, .int .i64 bits, .int .i64 window, .int .i64 urgent, .int .i64 ty, .int .i64 code, .int .i64 rest, .bool nosum, .slice A n c, .slice D m d] 36))))
  have HE : Hid (Below w.heap.size w (w.alloc (.cells #[.int .i64 2, .int .i64 sport, .int .i64 dport, .int .i64 seq, .int .i64 ack, .int .i64 bits, .int .i64 window, .int .i64 urgent, .int .i64 ty, .int .i64 code, .int .i64 rest, .bool nosum, .slice A n c, .slice D m d] 36))) := Lib.hid (Joins.below_alloc1 w _)
  have HL := Lib.hid hl
  have HM := Lib.hid hm
  have hw : (w.alloc (.cells #[.int .i64 2, .int .i64 sport, .int .i64 dport, .int .i64 seq, .int .i64 ack, .int .i64 bits, .int .i64 window, .int .i64 urgent, .int .i64 ty, .int .i64 code, .int .i64 rest, .bool nosum, .slice A n c, .slice D m d] 36)).heap.size = w.heap.size + 1 := by simp
  try simp only at q HA HD HE hw
  clear hl hm
  have HC := Lib.hid (fun v (b : Below w.heap.size w v) => udpB sport dport seq ack bits window urgent ty code rest nosum A D n c m d os bs sum v ((hr.below b).more b.size) HL.out ((hs.below b).more b.size) HM.out hn hm2)
  clear hr hs
  have hmk := run_make_z (8 + (m : Int)) (8 + m) (by omega) (by omega)
  go_enter Try.func70, Try.ntmps70
  go_wp2_with (with_reducible refine loadU rfl _ rfl w.heap.size rfl q.out ?_)
  refine Calls.mono (implUpSize (Uh.mk 2 sport dport seq ack bits window urgent ty code rest nosum) A D n c m d _ (by omega) (by omega)) ?_
  rintro e w1 ⟨rfl, b1⟩
  simp only [show Uh.size (Uh.mk 2 sport dport seq ack bits window urgent ty code rest nosum) n m = 8 + (m : Int) from rfl]
  have BA : Hid (Bd (w.alloc (.cells #[.int .i64 2, .int .i64 sport, .int .i64 dport, .int .i64 seq, .int .i64 ack, .int .i64 bits, .int .i64 window, .int .i64 urgent, .int .i64 ty, .int .i64 code, .int .i64 rest, .bool nosum, .slice A n c, .slice D m d] 36)) (w.heap.size + 1) (w1.alloc (.cells (madeCells #[.int .u8 0] (8 + m)) 5)) (some ⟨w1.heap.size, 0, none⟩) 0 (8 + m) []) := Lib.hid ⟨by have h := World.ownsRow_made (base := w.heap.size + 1) (e := 5) (size := 1) w1 (madeCells #[.int .u8 0] (8 + m)) (8 + m) (by have := b1.size; simp at this; omega) (by unfold maxLen; omega) (by rw [size_madeCells]; simp); simpa [cellsOf] using h, ((b1.mono (by simp)).alloc (by have := b1.size; simp at this; omega) _), by have := b1.size; simp at this; simp; omega, rfl⟩
  have Q1 := Lib.hid (BA.out.row q.out (by omega))
  clear b1
  go_wp2_with (with_reducible refine loadU rfl _ rfl w.heap.size rfl Q1.out ?_)
  refine Calls.mono (formatOfC (Uh.mk 2 sport dport seq ack bits window urgent ty code rest nosum) A D n c m d _) ?_
  rintro e w2 ⟨rfl, rfl⟩
  simp only [show ∀ v, fmtV 2 v = .iface 111 v from fun _ => rfl]
  have BB := Lib.hid (BA.out.call (Joins.below_alloc1 _ (.cells #[.int .i64 2, .int .i64 sport, .int .i64 dport, .int .i64 seq, .int .i64 ack, .int .i64 bits, .int .i64 window, .int .i64 urgent, .int .i64 ty, .int .i64 code, .int .i64 rest, .bool nosum, .slice A n c, .slice D m d] 36)))
  clear Q1 BA hmk
  try simp only at BB
  generalize (w1.alloc (.cells (madeCells #[.int .u8 0] (8 + m)) 5)).alloc (.cells #[.int .i64 2, .int .i64 sport, .int .i64 dport, .int .i64 seq, .int .i64 ack, .int .i64 bits, .int .i64 window, .int .i64 urgent, .int .i64 ty, .int .i64 code, .int .i64 rest, .bool nosum, .slice A n c, .slice D m d] 36) = w3 at BB ⊢
  have ta0 := ta_udp_tcp (.agg #[.int .i64 2, .int .i64 sport, .int .i64 dport, .int .i64 seq, .int .i64 ack, .int .i64 bits, .int .i64 window, .int .i64 urgent, .int .i64 ty, .int .i64 code, .int .i64 rest, .bool nosum, .slice A n c, .slice D m d])
  have ta1 := ta_udp_udp (.agg #[.int .i64 2, .int .i64 sport, .int .i64 dport, .int .i64 seq, .int .i64 ack, .int .i64 bits, .int .i64 window, .int .i64 urgent, .int .i64 ty, .int .i64 code, .int .i64 rest, .bool nosum, .slice A n c, .slice D m d])
  try simp only at ta0 ta1
  have r3 := Lib.hid (K.new w3 (.cells #[.int .i64 2, .int .i64 sport, .int .i64 dport, .int .i64 seq, .int .i64 ack, .int .i64 bits, .int .i64 window, .int .i64 urgent, .int .i64 ty, .int .i64 code, .int .i64 rest, .bool nosum, .slice A n c, .slice D m d] 111))
  try simp only at r3
  go_wp2_with (first | (with_reducible refine storeNew_udp rfl _ _ rfl rfl rfl ?_) | (with_reducible refine load_udp rfl _ rfl w3.heap.size rfl r3.out ?_))
  have BC := Lib.hid (BB.out.call (Joins.below_alloc1 w3 (.cells #[.int .i64 2, .int .i64 sport, .int .i64 dport, .int .i64 seq, .int .i64 ack, .int .i64 bits, .int .i64 window, .int .i64 urgent, .int .i64 ty, .int .i64 code, .int .i64 rest, .bool nosum, .slice A n c, .slice D m d] 111)))
  try simp only at BC
  refine Calls.mono (HC.out _ (HE.out.trans (BC.out.keep.mono (by omega)))) ?_
  rintro e w4 ⟨A4, c4, rfl, o4, b4⟩
  have BE := Lib.hid (BC.out.call b4)
  have P4 := Lib.hid (RB.of_own o4)
  clear o4 b4 BC r3 HC BB
  have hh := Lib.hid (udpH_len (Uh.mk 2 sport dport seq ack bits window urgent ty code rest nosum) m sum)
  rw [hh.out]
  go_wp2_with (first | (at_builtin; (refine wpList_append_bd rfl BE.out (.tmp 25) (.tmp 28) rfl rfl _ _ 8 _ (udpH (Uh.mk 2 sport dport seq ack bits window urgent ty code rest nosum) m sum) rfl hh.out P4.out (by omega) 8 (by omega) ?_); intro A_BF c_BF w_BF bd_BF; have BF := Lib.hid bd_BF; clear bd_BF; have k13 := K.cell (BF.out.row q.out (by omega)) 13 _ rfl) | (at_builtin; (refine wpList_append_bd rfl BF.out (.tmp 38) (.tmp 40) rfl rfl _ _ m _ (bs) rfl HM.out (BF.out.rb HD.out (by omega)) (by omega) (8 + m) (by omega) ?_); intro A_BL c_BL w_BL bd_BL; have BL := Lib.hid bd_BL; clear bd_BL))
  go_ret
  exact encOut (by simp) BL.out.len (BL.out.out HE.out (by omega))

set_option maxHeartbeats 8000000 in
theorem upB3 (sport dport seq ack bits window urgent ty code rest : Int) (nosum : Bool) (A D : Option Addr) (n c m d : Nat) (os bs : List UInt8) (sum : Int) (w : World) (hr : RB w w.heap.size A os) (hl : os.length = n) (hs : RB w w.heap.size D bs) (hm : bs.length = m) (hn : n ≤ 40) (hm2 : m ≤ 1500) (h8 : 0 ≤ ty ∧ ty ≤ 255) (h9 : 0 ≤ code ∧ code ≤ 255) : Calls Try.prog 70 #[.agg #[.int .i64 3, .int .i64 sport, .int .i64 dport, .int .i64 seq, .int .i64 ack, .int .i64 bits, .int .i64 window, .int .i64 urgent, .int .i64 ty, .int .i64 code, .int .i64 rest, .bool nosum, .slice A n c, .slice D m d], .int .i64 sum] w (EncOut (icmpH (Uh.mk 3 sport dport seq ack bits window urgent ty code rest nosum) sum ++ bs) w) := by
  have q : Hid ((w.alloc (.cells #[.int .i64 3, .int .i64 sport, .int .i64 dport, .int .i64 seq, .int .i64 ack, .int .i64 bits, .int .i64 window, .int .i64 urgent, .int .i64 ty, .int .i64 code, .int .i64 rest, .bool nosum, .slice A n c, .slice D m d] 36)).heap[w.heap.size]? = some (.cells #[.int .i64 3, .int .i64 sport, .int .i64 dport, .int .i64 seq, .int .i64 ack, .int .i64 bits, .int .i64 window, .int .i64 urgent, .int .i64 ty, .int .i64 code, .int .i64 rest, .bool nosum, .slice A n c, .slice D m d] 36)) := Lib.hid (K.new w _)
  have HA := Lib.hid ((hr.below (Joins.below_alloc1 w (.cells #[.int .i64 3, .int .i64 sport, .int .i64 dport, .int .i64 seq, .int .i64 ack, .int .i64 bits, .int .i64 window, .int .i64 urgent, .int .i64 ty, .int .i64 code, .int .i64 rest, .bool nosum, .slice A n c, .slice D m d] 36))))
  have HD := Lib.hid ((hs.below (Joins.below_alloc1 w (.cells #[.int .i64 3, .int .i64 sport, .int .i64 dport, .int .i64 seq, .int .i64 ack, .int .i64 bits, .int .i64 window, .int .i64 urgent, .int .i64 ty, .int .i64 code, .int .i64 rest, .bool nosum, .slice A n c, .slice D m d] 36))))
  have HE : Hid (Below w.heap.size w (w.alloc (.cells #[.int .i64 3, .int .i64 sport, .int .i64 dport, .int .i64 seq, .int .i64 ack, .int .i64 bits, .int .i64 window, .int .i64 urgent, .int .i64 ty, .int .i64 code, .int .i64 rest, .bool nosum, .slice A n c, .slice D m d] 36))) := Lib.hid (Joins.below_alloc1 w _)
  have HL := Lib.hid hl
  have HM := Lib.hid hm
  have hw : (w.alloc (.cells #[.int .i64 3, .int .i64 sport, .int .i64 dport, .int .i64 seq, .int .i64 ack, .int .i64 bits, .int .i64 window, .int .i64 urgent, .int .i64 ty, .int .i64 code, .int .i64 rest, .bool nosum, .slice A n c, .slice D m d] 36)).heap.size = w.heap.size + 1 := by simp
  try simp only at q HA HD HE hw
  clear hl hm
  have HC := Lib.hid (fun v (b : Below w.heap.size w v) => icmpB sport dport seq ack bits window urgent ty code rest nosum A D n c m d os bs sum v ((hr.below b).more b.size) HL.out ((hs.below b).more b.size) HM.out hn hm2 h8 h9)
  clear hr hs
  have hmk := run_make_z (8 + (m : Int)) (8 + m) (by omega) (by omega)
  go_enter Try.func70, Try.ntmps70
  go_wp2_with (with_reducible refine loadU rfl _ rfl w.heap.size rfl q.out ?_)
  refine Calls.mono (implUpSize (Uh.mk 3 sport dport seq ack bits window urgent ty code rest nosum) A D n c m d _ (by omega) (by omega)) ?_
  rintro e w1 ⟨rfl, b1⟩
  simp only [show Uh.size (Uh.mk 3 sport dport seq ack bits window urgent ty code rest nosum) n m = 8 + (m : Int) from rfl]
  have BA : Hid (Bd (w.alloc (.cells #[.int .i64 3, .int .i64 sport, .int .i64 dport, .int .i64 seq, .int .i64 ack, .int .i64 bits, .int .i64 window, .int .i64 urgent, .int .i64 ty, .int .i64 code, .int .i64 rest, .bool nosum, .slice A n c, .slice D m d] 36)) (w.heap.size + 1) (w1.alloc (.cells (madeCells #[.int .u8 0] (8 + m)) 5)) (some ⟨w1.heap.size, 0, none⟩) 0 (8 + m) []) := Lib.hid ⟨by have h := World.ownsRow_made (base := w.heap.size + 1) (e := 5) (size := 1) w1 (madeCells #[.int .u8 0] (8 + m)) (8 + m) (by have := b1.size; simp at this; omega) (by unfold maxLen; omega) (by rw [size_madeCells]; simp); simpa [cellsOf] using h, ((b1.mono (by simp)).alloc (by have := b1.size; simp at this; omega) _), by have := b1.size; simp at this; simp; omega, rfl⟩
  have Q1 := Lib.hid (BA.out.row q.out (by omega))
  clear b1
  go_wp2_with (with_reducible refine loadU rfl _ rfl w.heap.size rfl Q1.out ?_)
  refine Calls.mono (formatOfC (Uh.mk 3 sport dport seq ack bits window urgent ty code rest nosum) A D n c m d _) ?_
  rintro e w2 ⟨rfl, rfl⟩
  simp only [show ∀ v, fmtV 3 v = .iface 112 v from fun _ => rfl]
  have BB := Lib.hid (BA.out.call (Joins.below_alloc1 _ (.cells #[.int .i64 3, .int .i64 sport, .int .i64 dport, .int .i64 seq, .int .i64 ack, .int .i64 bits, .int .i64 window, .int .i64 urgent, .int .i64 ty, .int .i64 code, .int .i64 rest, .bool nosum, .slice A n c, .slice D m d] 36)))
  clear Q1 BA hmk
  try simp only at BB
  generalize (w1.alloc (.cells (madeCells #[.int .u8 0] (8 + m)) 5)).alloc (.cells #[.int .i64 3, .int .i64 sport, .int .i64 dport, .int .i64 seq, .int .i64 ack, .int .i64 bits, .int .i64 window, .int .i64 urgent, .int .i64 ty, .int .i64 code, .int .i64 rest, .bool nosum, .slice A n c, .slice D m d] 36) = w3 at BB ⊢
  have ta0 := ta_icmp_tcp (.agg #[.int .i64 3, .int .i64 sport, .int .i64 dport, .int .i64 seq, .int .i64 ack, .int .i64 bits, .int .i64 window, .int .i64 urgent, .int .i64 ty, .int .i64 code, .int .i64 rest, .bool nosum, .slice A n c, .slice D m d])
  have ta1 := ta_icmp_udp (.agg #[.int .i64 3, .int .i64 sport, .int .i64 dport, .int .i64 seq, .int .i64 ack, .int .i64 bits, .int .i64 window, .int .i64 urgent, .int .i64 ty, .int .i64 code, .int .i64 rest, .bool nosum, .slice A n c, .slice D m d])
  have ta2 := ta_icmp_icmp (.agg #[.int .i64 3, .int .i64 sport, .int .i64 dport, .int .i64 seq, .int .i64 ack, .int .i64 bits, .int .i64 window, .int .i64 urgent, .int .i64 ty, .int .i64 code, .int .i64 rest, .bool nosum, .slice A n c, .slice D m d])
  try simp only at ta0 ta1 ta2
  have r3 := Lib.hid (K.new w3 (.cells #[.int .i64 3, .int .i64 sport, .int .i64 dport, .int .i64 seq, .int .i64 ack, .int .i64 bits, .int .i64 window, .int .i64 urgent, .int .i64 ty, .int .i64 code, .int .i64 rest, .bool nosum, .slice A n c, .slice D m d] 112))
  try simp only at r3
  go_wp2_with (first | (with_reducible refine storeNew_icmp rfl _ _ rfl rfl rfl ?_) | (with_reducible refine load_icmp rfl _ rfl w3.heap.size rfl r3.out ?_))
  have BC := Lib.hid (BB.out.call (Joins.below_alloc1 w3 (.cells #[.int .i64 3, .int .i64 sport, .int .i64 dport, .int .i64 seq, .int .i64 ack, .int .i64 bits, .int .i64 window, .int .i64 urgent, .int .i64 ty, .int .i64 code, .int .i64 rest, .bool nosum, .slice A n c, .slice D m d] 112)))
  try simp only at BC
  refine Calls.mono (HC.out _ (HE.out.trans (BC.out.keep.mono (by omega)))) ?_
  rintro e w4 ⟨A4, c4, rfl, o4, b4⟩
  have BE := Lib.hid (BC.out.call b4)
  have P4 := Lib.hid (RB.of_own o4)
  clear o4 b4 BC r3 HC BB
  have hh := Lib.hid (icmpH_len (Uh.mk 3 sport dport seq ack bits window urgent ty code rest nosum) sum)
  rw [hh.out]
  go_wp2_with (first | (at_builtin; (refine wpList_append_bd rfl BE.out (.tmp 33) (.tmp 36) rfl rfl _ _ 8 _ (icmpH (Uh.mk 3 sport dport seq ack bits window urgent ty code rest nosum) sum) rfl hh.out P4.out (by omega) 8 (by omega) ?_); intro A_BF c_BF w_BF bd_BF; have BF := Lib.hid bd_BF; clear bd_BF; have k13 := K.cell (BF.out.row q.out (by omega)) 13 _ rfl) | (at_builtin; (refine wpList_append_bd rfl BF.out (.tmp 38) (.tmp 40) rfl rfl _ _ m _ (bs) rfl HM.out (BF.out.rb HD.out (by omega)) (by omega) (8 + m) (by omega) ?_); intro A_BL c_BL w_BL bd_BL; have BL := Lib.hid bd_BL; clear bd_BL))
  go_ret
  exact encOut (by simp) BL.out.len (BL.out.out HE.out (by omega))

end Go.Proofs.Ythogonpjkngpjaa

namespace Go.Proofs.Ythogonpjkngpjaa
set_option maxRecDepth 100000
open Go.RowKit

/-- The part of the checksum that the addresses have. -/
def Uh.top (x : Uh) (o n : Nat) (a b : Ad) : Int :=
  if x.kind = 1 then psSum a b 6 (x.size o n) else if x.kind = 2 then psSum a b 17 (x.size o n) else if a.k = 6 then psSum a b 58 (x.size o n) else 0
/-- The checksum with the last exception. -/
def udp0 (k s : Int) : Int := if k = 2 ∧ s = 0 then 65535 else s
def Uh.sum (x : Uh) (o bs : List UInt8) (a b : Ad) : Int :=
  if (pairA a b && x.ok a.k o.length bs.length) = true then
    (if x.kind = 0 ∨ x.nosum = true then 0 else udp0 x.kind (65535 - sadd (x.top o.length bs.length a b) (onesSum (x.enc o bs 0))))
  else -1
theorem Uh.ok_facts {x : Uh} {k : Int} {o n : Nat} (h : x.ok k o n = true) : kindB k = true ∧ x.fields k o = true ∧ noF x.unused (if x.kind = 1 then 0 else o) = true ∧ x.size o n ≤ 1500 := by
  simpa [Uh.ok, and_assoc] using h
theorem Uh.ok_kind {x : Uh} {k : Int} {o n : Nat} (h : x.ok k o n = true) : x.kind = 0 ∨ x.kind = 1 ∨ x.kind = 2 ∨ x.kind = 3 := by
  have hf := (Uh.ok_facts h).2.1
  unfold Uh.fields at hf
  split at hf
  · omega
  · split at hf
    · omega
    · split at hf
      · omega
      · split at hf
        · omega
        · cases hf
/-- A valid upper layer has at most 40 bytes of options, a multiple of four; its body is no longer than 1500; its size lies within 0 and 1500. -/
theorem Uh.ok_room {x : Uh} {k : Int} {o n : Nat} (h : x.ok k o n = true) : o ≤ 40 ∧ o % 4 = 0 ∧ n ≤ 1500 ∧ 0 ≤ x.size o n ∧ x.size o n ≤ 1500 := by
  obtain ⟨_, hf, hn, hs⟩ := Uh.ok_facts h
  rcases Uh.ok_kind h with e | e | e | e
  · simp [noF, e] at hn
    simp [Uh.size, e] at hs ⊢
    omega
  · simp [Uh.fields, e, optOk] at hf
    simp [Uh.size, e] at hs ⊢
    omega
  · simp [noF, e] at hn
    simp [Uh.size, e] at hs ⊢
    omega
  · simp [noF, e] at hn
    simp [Uh.size, e] at hs ⊢
    omega
theorem Uh.ok_tcp {x : Uh} {k : Int} {o n : Nat} (h : x.ok k o n = true) (e : x.kind = 1) : 0 ≤ x.bits ∧ x.bits ≤ 4095 := by
  have hf := (Uh.ok_facts h).2.1
  simp [Uh.fields, e, upTo] at hf
  omega
theorem Uh.ok_icmp {x : Uh} {k : Int} {o n : Nat} (h : x.ok k o n = true) (e : x.kind = 3) : (0 ≤ x.ty ∧ x.ty ≤ 255) ∧ 0 ≤ x.code ∧ x.code ≤ 255 := by
  have hf := (Uh.ok_facts h).2.1
  simp [Uh.fields, e, upTo] at hf
  omega
theorem psSum_word {a b : Ad} {p s : Int} (h : pairA a b = true) (hp : upTo p 255 = true) (hs : upTo s 1500 = true) : isWord (psSum a b p s) = true := by
  rw [psSum_yes (by simp [h, hp, hs])]
  apply onesSum_word
  have hxy : (a.ok = true ∧ b.ok = true) ∧ a.k = b.k := by simpa [pairA] using h
  have l1 : a.bytes.length ≤ 16 := by simp [Ad.bytes, hxy.1.1]; split <;> simp [put32, Ad.whole_length]
  have l2 : b.bytes.length ≤ 16 := by simp [Ad.bytes, hxy.1.2]; split <;> simp [put32, Ad.whole_length]
  unfold psBytes
  split <;> simp [put16, put32] <;> omega
theorem Uh.top_word {x : Uh} {o n : Nat} {a b : Ad} (h : pairA a b = true) (k : x.ok a.k o n = true) : isWord (x.top o n a b) = true := by
  have hs := Uh.ok_room k
  have hu : upTo (x.size o n) 1500 = true := upTo_iff.2 hs.2.2.2
  unfold Uh.top
  split
  · exact psSum_word h rfl hu
  · split
    · exact psSum_word h rfl hu
    · split
      · exact psSum_word h rfl hu
      · rfl
theorem Uh.enc_word {x : Uh} {k : Int} {o bs : List UInt8} (h : x.ok k o.length bs.length = true) (s : Int) : isWord (onesSum (x.enc o bs s)) = true := by
  apply onesSum_word
  have h1 := Uh.enc_len x o bs s (Uh.ok_kind h)
  have h2 := Uh.ok_room h
  omega
theorem Uh.sum_no {x : Uh} {o bs : List UInt8} {a b : Ad} (h : (pairA a b && x.ok a.k o.length bs.length) = false) : x.sum o bs a b = -1 := by simp [Uh.sum, h]
theorem Uh.sum_zero {x : Uh} {o bs : List UInt8} {a b : Ad} (h : (pairA a b && x.ok a.k o.length bs.length) = true) (k : x.kind = 0 ∨ x.nosum = true) : x.sum o bs a b = 0 := by rw [Uh.sum, if_pos h, if_pos k]
theorem Uh.sum_yes {x : Uh} {o bs : List UInt8} {a b : Ad} (h : (pairA a b && x.ok a.k o.length bs.length) = true) (k : ¬ (x.kind = 0 ∨ x.nosum = true)) : x.sum o bs a b = udp0 x.kind (65535 - sadd (x.top o.length bs.length a b) (onesSum (x.enc o bs 0))) := by rw [Uh.sum, if_pos h, if_neg k]
end Go.Proofs.Ythogonpjkngpjaa

namespace Go.Proofs.Ythogonpjkngpjaa
set_option maxRecDepth 100000
open Go.RowKit

/-- The kind that a protocol names for an address kind. -/
def kindU (p k : Int) : Int := if p = 6 then 1 else if p = 17 then 2 else if (p = 1 ∧ k = 4) ∨ (p = 58 ∧ k = 6) then 3 else 0
theorem kindU_cases (p k : Int) : kindU p k = 0 ∨ kindU p k = 1 ∨ kindU p k = 2 ∨ kindU p k = 3 := by
  unfold kindU
  split
  · simp
  · split
    · simp
    · split <;> simp
def tHead (bs : List UInt8) : Nat := 4 * (num bs 12 2 / 4096)
def uhX (bs : List UInt8) (q k : Int) : Uh :=
  if q = 1 then ⟨1, num bs 0 2, num bs 2 2, num bs 4 4, num bs 8 4, (num bs 12 2 : Int) % 4096, num bs 14 2, num bs 18 2, 0, 0, 0, false⟩
  else if q = 2 then ⟨2, num bs 0 2, num bs 2 2, 0, 0, 0, 0, 0, 0, 0, 0, decide (num bs 6 2 = 0) && decide (k = 4)⟩
  else if q = 3 then ⟨3, 0, 0, 0, 0, 0, 0, 0, num bs 0 1, num bs 1 1, num bs 4 4, false⟩
  else Uh.zero
def uhO (bs : List UInt8) (q : Int) : List UInt8 := if q = 1 then (bs.drop 20).take (tHead bs - 20) else []
def uhB (bs : List UInt8) (q : Int) : List UInt8 := if q = 1 then bs.drop (tHead bs) else if q = 2 ∨ q = 3 then bs.drop 8 else bs
def uhS (bs : List UInt8) (q : Int) : Int := if q = 1 then num bs 16 2 else if q = 2 then num bs 6 2 else if q = 3 then num bs 2 2 else 0
/-- The code that reading answers. -/
def uhC (bs : List UInt8) (p : Int) (s t : Ad) : Int :=
  if 1500 < bs.length then 1 else if (pairA s t && upTo p 255) = false then 2
  else if (kindU p s.k = 1 ∧ bs.length < 20) ∨ (¬ kindU p s.k = 0 ∧ bs.length < 8) then 3
  else if kindU p s.k = 1 ∧ (tHead bs < 20 ∨ bs.length < tHead bs) then 4
  else if kindU p s.k = 2 ∧ ¬ num bs 4 2 = bs.length then 5
  else if ¬ uhS bs (kindU p s.k) = (uhX bs (kindU p s.k) s.k).sum (uhO bs (kindU p s.k)) (uhB bs (kindU p s.k)) s t then 6 else 0
def urx (bs : List UInt8) (p : Int) (s t : Ad) : Uh := if uhC bs p s t = 0 then uhX bs (kindU p s.k) s.k else Uh.zero
def uro (bs : List UInt8) (p : Int) (s t : Ad) : List UInt8 := if uhC bs p s t = 0 then uhO bs (kindU p s.k) else []
def urb (bs : List UInt8) (p : Int) (s t : Ad) : List UInt8 := if uhC bs p s t = 0 then uhB bs (kindU p s.k) else []

/-- What reading leaves: the upper layer, its options and body, the code; all in memory of its own. -/
def UROut (x : Uh) (os ds : List UInt8) (k : Int) (w : World) (e : Ending) (w' : World) : Prop :=
  ∃ A c D d, e = .returned (.tuple #[.agg #[.int .i64 x.kind, .int .i64 x.sport, .int .i64 x.dport, .int .i64 x.seq, .int .i64 x.ack, .int .i64 x.bits, .int .i64 x.window, .int .i64 x.urgent, .int .i64 x.ty, .int .i64 x.code, .int .i64 x.rest, .bool x.nosum, .slice A os.length c, .slice D ds.length d], .int .i64 k]) ∧
    w'.ownsRow w.heap.size 5 1 (.slice A os.length c) os.length (cellsOf os) ∧ w'.ownsRow w.heap.size 5 1 (.slice D ds.length d) ds.length (cellsOf ds) ∧
    (∀ k, (Value.slice A os.length c).ownBlock = some k → (Value.slice D ds.length d).ownBlock ≠ some k) ∧ Below w.heap.size w w'
/-- Reading as a function of what it reads. -/
def URead (bs : List UInt8) (p : Int) (s t : Ad) (w : World) (e : Ending) (w' : World) : Prop := UROut (urx bs p s t) (uro bs p s t) (urb bs p s t) (uhC bs p s t) w e w'
theorem uread_no {bs : List UInt8} {p : Int} {s t : Ad} {k : Int} (h : uhC bs p s t = k) (hk : k ≠ 0) {w w' : World} (hb : Below w.heap.size w w') : URead bs p s t w (.returned (.tuple #[.agg #[.int .i64 Uh.zero.kind, .int .i64 Uh.zero.sport, .int .i64 Uh.zero.dport, .int .i64 Uh.zero.seq, .int .i64 Uh.zero.ack, .int .i64 Uh.zero.bits, .int .i64 Uh.zero.window, .int .i64 Uh.zero.urgent, .int .i64 Uh.zero.ty, .int .i64 Uh.zero.code, .int .i64 Uh.zero.rest, .bool Uh.zero.nosum, .slice none 0 0, .slice none 0 0], .int .i64 k])) w' := by
  have e1 : urx bs p s t = Uh.zero := by simp [urx, h, hk]
  have e2 : uro bs p s t = [] := by simp [uro, h, hk]
  have e3 : urb bs p s t = [] := by simp [urb, h, hk]
  unfold URead UROut
  rw [e1, e2, e3, h]
  exact ⟨none, 0, none, 0, rfl, ⟨rfl, .inl ⟨rfl, rfl⟩⟩, ⟨rfl, .inl ⟨rfl, rfl⟩⟩, (fun _ h => by cases h), hb⟩
theorem uread_yes {bs : List UInt8} {p : Int} {s t : Ad} {x : Uh} {os ds : List UInt8} {n m : Nat} (h : uhC bs p s t = 0) (hx : uhX bs (kindU p s.k) s.k = x) (ho : uhO bs (kindU p s.k) = os) (hd : uhB bs (kindU p s.k) = ds) (hn : os.length = n) (hm : ds.length = m) {w w' : World} {A D : Option Addr} {c d : Nat}
    (oA : w'.ownsRow w.heap.size 5 1 (.slice A n c) n (cellsOf os)) (oD : w'.ownsRow w.heap.size 5 1 (.slice D m d) m (cellsOf ds))
    (h1 : ∀ k, (Value.slice A n c).ownBlock = some k → (Value.slice D m d).ownBlock ≠ some k)
    (hb : Below w.heap.size w w') : URead bs p s t w (.returned (.tuple #[.agg #[.int .i64 x.kind, .int .i64 x.sport, .int .i64 x.dport, .int .i64 x.seq, .int .i64 x.ack, .int .i64 x.bits, .int .i64 x.window, .int .i64 x.urgent, .int .i64 x.ty, .int .i64 x.code, .int .i64 x.rest, .bool x.nosum, .slice A n c, .slice D m d], .int .i64 0])) w' := by
  have e1 : urx bs p s t = x := by simp [urx, h, hx]
  have e2 : uro bs p s t = os := by simp [uro, h, ho]
  have e3 : urb bs p s t = ds := by simp [urb, h, hd]
  unfold URead UROut
  rw [e1, e2, e3, h, hn, hm]
  exact ⟨A, c, D, d, rfl, oA, oD, h1, hb⟩
theorem uhC_long {bs : List UInt8} {p : Int} {s t : Ad} (h : 1500 < bs.length) : uhC bs p s t = 1 := by simp [uhC, h]
theorem uhC_addr {bs : List UInt8} {p : Int} {s t : Ad} (h : ¬ 1500 < bs.length) (h2 : (pairA s t && upTo p 255) = false) : uhC bs p s t = 2 := by rw [uhC, if_neg h, if_pos h2]
/-- What follows once the first three tests are passed. -/
theorem uhC_far {bs : List UInt8} {p : Int} {s t : Ad} (h : ¬ 1500 < bs.length) (h2 : (pairA s t && upTo p 255) = true) : uhC bs p s t =
    if (kindU p s.k = 1 ∧ bs.length < 20) ∨ (¬ kindU p s.k = 0 ∧ bs.length < 8) then 3
    else if kindU p s.k = 1 ∧ (tHead bs < 20 ∨ bs.length < tHead bs) then 4
    else if kindU p s.k = 2 ∧ ¬ num bs 4 2 = bs.length then 5
    else if ¬ uhS bs (kindU p s.k) = (uhX bs (kindU p s.k) s.k).sum (uhO bs (kindU p s.k)) (uhB bs (kindU p s.k)) s t then 6 else 0 := by
  rw [uhC, if_neg h, if_neg (by rw [h2]; simp)]
theorem num_wide (bs : List UInt8) (k : Nat) (h : k + 2 ≤ bs.length) : num bs k 2 = 256 * num bs k 1 + num bs (k + 1) 1 := by
  obtain ⟨a, b, r, e⟩ : ∃ a b r, bs.drop k = a :: b :: r := by
    match hd : bs.drop k with
    | [] => have := congrArg List.length hd; rw [List.length_drop] at this; simp at this; omega
    | [a] => have := congrArg List.length hd; rw [List.length_drop] at this; simp at this; omega
    | a :: b :: r => exact ⟨a, b, r, rfl⟩
  have e2 : bs.drop (k + 1) = b :: r := by rw [← List.drop_drop, e]; rfl
  unfold num
  rw [e, e2]
  simp [be]
theorem tHead_byte (bs : List UInt8) (h : 14 ≤ bs.length) : tHead bs = 4 * (num bs 12 1 / 16) := by
  unfold tHead
  rw [num_wide bs 12 (by omega)]
  have := num_lt1 bs (12 + 1)
  omega
theorem tHead_le (bs : List UInt8) : tHead bs ≤ 60 := by
  have := num_lt2 bs 12
  unfold tHead
  omega
end Go.Proofs.Ythogonpjkngpjaa

namespace Go.Proofs.Ythogonpjkngpjaa
set_option maxRecDepth 100000
open Go.RowKit

theorem clone_nil (w : World) : Calls Try.prog 83 #[.slice none 0 0] w fun e w' => e = .returned (.slice none 0 0) ∧ w = w' := by
  have hnil : ∀ v : World, (binOp .eql 34 (.slice none 0 0) (.slice none 0 0)).run Try.prog v = .ok (.bool true) v := fun v => by kernel_rfl
  go_enter Try.func83, Try.ntmps83
  go_wp2
  go_ret
  exact ⟨rfl, rfl⟩

set_option maxHeartbeats 1000000 in
theorem takeP0 (w : World) (g : Nat) (h : Rp w g none 0 0 [] 0) :
    Calls Try.prog 91 #[.pointer (some ⟨g, 0, none⟩), .int .i64 0] w fun e w' => ∃ D d, e = .returned (.slice D 0 d) ∧ w'.ownsRow w.heap.size 5 1 (.slice D 0 d) 0 (cellsOf []) ∧ Rp w' g none 0 0 [] 0 ∧ w.grownBy w' (some g) := by
  obtain ⟨⟨c0, c1⟩, f0, f1⟩ := K.row2 h.blk
  have H := Lib.hid h
  have hsl : ∀ w, (Instr.sliceAt 34 (.slice none 0 0) (some (.int .i64 0)) (some (.int .i64 0)) none).run Try.prog w = .ok (.slice none 0 0) w := fun w => by have := cut_mid none 0 0 0 0 0 rfl (by omega) w; simpa using this
  have hw0 : IntKind.i64.wrap (0 : Int) = 0 := by rw [IntKind.wrap_i64]; rfl
  have hgw := h.lt
  clear h
  go_enter Try.func91, Try.ntmps91
  go_wp2
  go_still_tail 15, (by kernel_rfl)
  change wpList _ _ _ _ _ w.drew
  have HW : Hid (Rp w.drew g none 0 0 [] 0) := Lib.hid (H.out.drewN 1)
  have G0 : Hid (w.grownBy w.drew (some g)) := Lib.hid ⟨rfl, rfl, rfl, Nat.le_refl _, fun _ _ _ => rfl⟩
  clear c0 c1 f0 f1 hsl
  generalize w.drew = w2 at *
  go_wp2_with fail
  refine (clone_nil w2).mono ?_
  rintro e w3 ⟨rfl, rfl⟩
  obtain ⟨⟨c0, c1⟩, f0, f1⟩ := K.row2 HW.out.blk
  go_wp2
  go_ret
  exact ⟨none, 0, rfl, ⟨rfl, .inl ⟨rfl, rfl⟩⟩, (HW.out.setAt0 0).1, grownBy_trans G0.out (grownBy_set w2 g 1 _)⟩
end Go.Proofs.Ythogonpjkngpjaa

namespace Go.Proofs.Ythogonpjkngpjaa
set_option maxRecDepth 100000
open Go.RowKit

/-- What taking leaves: an upper layer, the checksum in it, no code. -/
def TakeOut (x : Uh) (os ds : List UInt8) (P Q : Nat) (sm : Nat) (g : Nat) (w : World) (e : Ending) (w' : World) : Prop :=
  ∃ A c D d, e = .returned (.tuple #[.agg #[.int .i64 x.kind, .int .i64 x.sport, .int .i64 x.dport, .int .i64 x.seq, .int .i64 x.ack, .int .i64 x.bits, .int .i64 x.window, .int .i64 x.urgent, .int .i64 x.ty, .int .i64 x.code, .int .i64 x.rest, .bool x.nosum, .slice A P c, .slice D Q d], .int .i64 (sm : Int), .int .i64 0]) ∧ w'.ownsRow w.heap.size 5 1 (.slice A P c) P (cellsOf os) ∧ w'.ownsRow w.heap.size 5 1 (.slice D Q d) Q (cellsOf ds) ∧ (∀ k, (Value.slice A P c).ownBlock = some k → (Value.slice D Q d).ownBlock ≠ some k) ∧ w.grownBy w' (some g)
def TakeNo (k : Int) (g : Nat) (w : World) (e : Ending) (w' : World) : Prop := e = .returned (.tuple #[.agg #[.int .i64 Uh.zero.kind, .int .i64 Uh.zero.sport, .int .i64 Uh.zero.dport, .int .i64 Uh.zero.seq, .int .i64 Uh.zero.ack, .int .i64 Uh.zero.bits, .int .i64 Uh.zero.window, .int .i64 Uh.zero.urgent, .int .i64 Uh.zero.ty, .int .i64 Uh.zero.code, .int .i64 Uh.zero.rest, .bool Uh.zero.nosum, .slice none 0 0, .slice none 0 0], .int .i64 0, .int .i64 k]) ∧ w.grownBy w' (some g)

set_option maxHeartbeats 4000000 in
theorem upperOf_1no (w : World) (g : Nat) (a : Addr) (n c : Nat) (bs : List UInt8) (V : Value) (sport dport seq ack mx hd : Nat) (h : Rp w g (some a) n c bs 0) (hn : 20 ≤ n) (e0 : num bs 0 2 = sport) (e1 : num bs 2 2 = dport) (e2 : num bs 4 4 = seq) (e3 : num bs 8 4 = ack) (e4 : num bs 12 2 = mx) (ed : 4 * (mx / 4096) = hd) (hh : hd < 20 ∨ n < hd) : Calls Try.prog 49 #[.iface 110 V, .pointer (some ⟨g, 0, none⟩)] w (TakeNo 4 g w) := by
  have HC := Lib.hid (fun (v : World) (r : Rp v g (some a) n c bs 0) => tcpOf_no v g a n c bs sport dport seq ack mx hd r hn e0 e1 e2 e3 e4 ed hh)
  clear hn e0 e1 e2 e3 e4 ed hh
  have hg := h.lt
  have HR := Lib.hid (h.below (Joins.below_alloc1 w (.cells #[.int .i64 0, .int .i64 0, .int .i64 0, .int .i64 0, .int .i64 0, .int .i64 0, .int .i64 0, .int .i64 0, .int .i64 0, .int .i64 0, .int .i64 0, .bool false, .slice none 0 0, .slice none 0 0] 36)))
  have z0 := Lib.hid (K.new w (.cells #[.int .i64 0, .int .i64 0, .int .i64 0, .int .i64 0, .int .i64 0, .int .i64 0, .int .i64 0, .int .i64 0, .int .i64 0, .int .i64 0, .int .i64 0, .bool false, .slice none 0 0, .slice none 0 0] 36))
  have G0 := Lib.hid (show w.grownBy (w.alloc (.cells #[.int .i64 0, .int .i64 0, .int .i64 0, .int .i64 0, .int .i64 0, .int .i64 0, .int .i64 0, .int .i64 0, .int .i64 0, .int .i64 0, .int .i64 0, .bool false, .slice none 0 0, .slice none 0 0] 36)) (some g) from only_new (K.refl w _) _)
  clear h
  have ta_tcp := ta_tcp_tcp V
  go_enter Try.func49, Try.ntmps49
  go_wp2_with fail
  refine Calls.mono (HC.out _ HR.out) ?_
  rintro e v1 ⟨rfl, gg⟩
  have z1 := Lib.hid (K.kept gg z0.out (fun u hu => by cases hu; omega))
  have G1 := Lib.hid (grownBy_trans G0.out gg)
  clear gg z0 G0 HR HC
  go_wp2_with (with_reducible refine storeU rfl _ _ rfl w.heap.size rfl rfl z1.out ?_)
  (try simp only [Exit.inBlock, Exit.then])
  refine bodyPost_ret (v := .tuple #[.agg #[.int .i64 0, .int .i64 0, .int .i64 0, .int .i64 0, .int .i64 0, .int .i64 0, .int .i64 0, .int .i64 0, .int .i64 0, .int .i64 0, .int .i64 0, .bool false, .slice none 0 0, .slice none 0 0], .int .i64 0, .int .i64 4]) ?_ rfl ⟨rfl, grown_other G1.out (K.setRow_grown _ _ _) (fun u hu => by cases hu; exact Nat.le_refl _)⟩
  exact K.resCell3 Try.results49 _ _ _ w.heap.size _ rfl (run_loadVar_row _ _ 36 36 _ (0, 0) _ (setRow_heap _ _ _ _ _ _ z1.out) Try.underlying36 rfl info_up)

set_option maxHeartbeats 4000000 in
theorem upperOf_2no (w : World) (g : Nat) (a : Addr) (n c : Nat) (bs : List UInt8) (V : Value) (sport dport sz : Nat) (h : Rp w g (some a) n c bs 0) (hn : 8 ≤ n) (e0 : num bs 0 2 = sport) (e1 : num bs 2 2 = dport) (e2 : num bs 4 2 = sz) (hs : ¬ sz = n) : Calls Try.prog 49 #[.iface 111 V, .pointer (some ⟨g, 0, none⟩)] w (TakeNo 5 g w) := by
  have HC := Lib.hid (fun (v : World) (r : Rp v g (some a) n c bs 0) => udpOf_no v g a n c bs sport dport sz r hn e0 e1 e2 hs)
  clear hn e0 e1 e2 hs
  have hg := h.lt
  have HR := Lib.hid (h.below (Joins.below_alloc1 w (.cells #[.int .i64 0, .int .i64 0, .int .i64 0, .int .i64 0, .int .i64 0, .int .i64 0, .int .i64 0, .int .i64 0, .int .i64 0, .int .i64 0, .int .i64 0, .bool false, .slice none 0 0, .slice none 0 0] 36)))
  have z0 := Lib.hid (K.new w (.cells #[.int .i64 0, .int .i64 0, .int .i64 0, .int .i64 0, .int .i64 0, .int .i64 0, .int .i64 0, .int .i64 0, .int .i64 0, .int .i64 0, .int .i64 0, .bool false, .slice none 0 0, .slice none 0 0] 36))
  have G0 := Lib.hid (show w.grownBy (w.alloc (.cells #[.int .i64 0, .int .i64 0, .int .i64 0, .int .i64 0, .int .i64 0, .int .i64 0, .int .i64 0, .int .i64 0, .int .i64 0, .int .i64 0, .int .i64 0, .bool false, .slice none 0 0, .slice none 0 0] 36)) (some g) from only_new (K.refl w _) _)
  clear h
  have ta_tcp := ta_udp_tcp V
  have ta_udp := ta_udp_udp V
  go_enter Try.func49, Try.ntmps49
  go_wp2_with fail
  refine Calls.mono (HC.out _ HR.out) ?_
  rintro e v1 ⟨rfl, gg⟩
  have z1 := Lib.hid (K.kept gg z0.out (fun u hu => by cases hu; omega))
  have G1 := Lib.hid (grownBy_trans G0.out gg)
  clear gg z0 G0 HR HC
  go_wp2_with (with_reducible refine storeU rfl _ _ rfl w.heap.size rfl rfl z1.out ?_)
  (try simp only [Exit.inBlock, Exit.then])
  refine bodyPost_ret (v := .tuple #[.agg #[.int .i64 0, .int .i64 0, .int .i64 0, .int .i64 0, .int .i64 0, .int .i64 0, .int .i64 0, .int .i64 0, .int .i64 0, .int .i64 0, .int .i64 0, .bool false, .slice none 0 0, .slice none 0 0], .int .i64 0, .int .i64 5]) ?_ rfl ⟨rfl, grown_other G1.out (K.setRow_grown _ _ _) (fun u hu => by cases hu; exact Nat.le_refl _)⟩
  exact K.resCell3 Try.results49 _ _ _ w.heap.size _ rfl (run_loadVar_row _ _ 36 36 _ (0, 0) _ (setRow_heap _ _ _ _ _ _ z1.out) Try.underlying36 rfl info_up)

set_option maxHeartbeats 4000000 in
theorem upperOf_1 (w : World) (g : Nat) (a : Addr) (n c : Nat) (bs : List UInt8) (V : Value) (l p : Nat) (sport dport seq ack mx hd window sm urgent : Nat) (h : Rp w g (some a) n c bs 0) (hn : 20 ≤ n) (e0 : num bs 0 2 = sport) (e1 : num bs 2 2 = dport) (e2 : num bs 4 4 = seq) (e3 : num bs 8 4 = ack) (e4 : num bs 12 2 = mx) (ed : 4 * (mx / 4096) = hd) (hp : 20 + p = hd) (hl : hd + l = n) (e5 : num bs 14 2 = window) (e6 : num bs 16 2 = sm) (e7 : num bs 18 2 = urgent) : Calls Try.prog 49 #[.iface 110 V, .pointer (some ⟨g, 0, none⟩)] w (TakeOut ⟨1, (sport : Int), (dport : Int), (seq : Int), (ack : Int), (mx : Int) % 4096, (window : Int), (urgent : Int), 0, 0, 0, false⟩ ((bs.drop 20).take p) (bs.drop hd) p l sm g w) := by
  have HC := Lib.hid (fun (v : World) (r : Rp v g (some a) n c bs 0) => tcpOf_yes v g a n c bs l p sport dport seq ack mx hd window sm urgent r hn e0 e1 e2 e3 e4 ed hp hl e5 e6 e7)
  clear hn e0 e1 e2 e3 e4 ed hp hl e5 e6 e7
  have hg := h.lt
  have HR := Lib.hid (h.below (Joins.below_alloc1 w (.cells #[.int .i64 0, .int .i64 0, .int .i64 0, .int .i64 0, .int .i64 0, .int .i64 0, .int .i64 0, .int .i64 0, .int .i64 0, .int .i64 0, .int .i64 0, .bool false, .slice none 0 0, .slice none 0 0] 36)))
  have z0 := Lib.hid (K.new w (.cells #[.int .i64 0, .int .i64 0, .int .i64 0, .int .i64 0, .int .i64 0, .int .i64 0, .int .i64 0, .int .i64 0, .int .i64 0, .int .i64 0, .int .i64 0, .bool false, .slice none 0 0, .slice none 0 0] 36))
  have G0 := Lib.hid (show w.grownBy (w.alloc (.cells #[.int .i64 0, .int .i64 0, .int .i64 0, .int .i64 0, .int .i64 0, .int .i64 0, .int .i64 0, .int .i64 0, .int .i64 0, .int .i64 0, .int .i64 0, .bool false, .slice none 0 0, .slice none 0 0] 36)) (some g) from only_new (K.refl w _) _)
  clear h
  have ta_tcp := ta_tcp_tcp V
  go_enter Try.func49, Try.ntmps49
  go_wp2_with fail
  refine Calls.mono (HC.out _ HR.out) ?_
  rintro e v1 ⟨O, o, D, d, rfl, oo, od, ap, gg⟩
  have z1 := Lib.hid (K.kept gg z0.out (fun u hu => by cases hu; omega))
  have G1 := Lib.hid (grownBy_trans G0.out gg)
  have O1 := Lib.hid oo
  have D1 := Lib.hid od
  have AP := Lib.hid ap
  clear gg z0 G0 HR HC oo od ap
  have hsz : w.heap.size < (w.alloc (.cells #[.int .i64 0, .int .i64 0, .int .i64 0, .int .i64 0, .int .i64 0, .int .i64 0, .int .i64 0, .int .i64 0, .int .i64 0, .int .i64 0, .int .i64 0, .bool false, .slice none 0 0, .slice none 0 0] 36)).heap.size := by simp
  go_wp2_with (with_reducible refine storeU rfl _ _ rfl w.heap.size rfl rfl z1.out ?_)
  (try simp only [Exit.inBlock, Exit.then])
  refine bodyPost_ret (v := .tuple #[.agg #[.int .i64 1, .int .i64 (sport : Int), .int .i64 (dport : Int), .int .i64 (seq : Int), .int .i64 (ack : Int), .int .i64 ((mx : Int) % 4096), .int .i64 (window : Int), .int .i64 (urgent : Int), .int .i64 0, .int .i64 0, .int .i64 0, .bool false, .slice O p o, .slice D l d], .int .i64 (sm : Int), .int .i64 0]) ?_ rfl ⟨O, o, D, d, rfl, own_base (K.setRow_own _ O1.out hsz) (by omega), own_base (K.setRow_own _ D1.out hsz) (by omega), AP.out, grown_other G1.out (K.setRow_grown _ _ _) (fun u hu => by cases hu; exact Nat.le_refl _)⟩
  exact K.resCell3 Try.results49 _ _ _ w.heap.size _ rfl (run_loadVar_row _ _ 36 36 _ (0, 0) _ (setRow_heap _ _ _ _ _ _ z1.out) Try.underlying36 rfl info_up)

set_option maxHeartbeats 4000000 in
theorem upperOf_2 (w : World) (g : Nat) (a : Addr) (n c : Nat) (bs : List UInt8) (V : Value) (l : Nat) (sport dport sm : Nat) (h : Rp w g (some a) n c bs 0) (hl : 8 + l = n) (e0 : num bs 0 2 = sport) (e1 : num bs 2 2 = dport) (e2 : num bs 4 2 = n) (e3 : num bs 6 2 = sm) : Calls Try.prog 49 #[.iface 111 V, .pointer (some ⟨g, 0, none⟩)] w (TakeOut ⟨2, (sport : Int), (dport : Int), 0, 0, 0, 0, 0, 0, 0, 0, false⟩ [] (bs.drop 8) 0 l sm g w) := by
  have HC := Lib.hid (fun (v : World) (r : Rp v g (some a) n c bs 0) => udpOf_yes v g a n c bs l sport dport sm r hl e0 e1 e2 e3)
  clear hl e0 e1 e2 e3
  have hg := h.lt
  have HR := Lib.hid (h.below (Joins.below_alloc1 w (.cells #[.int .i64 0, .int .i64 0, .int .i64 0, .int .i64 0, .int .i64 0, .int .i64 0, .int .i64 0, .int .i64 0, .int .i64 0, .int .i64 0, .int .i64 0, .bool false, .slice none 0 0, .slice none 0 0] 36)))
  have z0 := Lib.hid (K.new w (.cells #[.int .i64 0, .int .i64 0, .int .i64 0, .int .i64 0, .int .i64 0, .int .i64 0, .int .i64 0, .int .i64 0, .int .i64 0, .int .i64 0, .int .i64 0, .bool false, .slice none 0 0, .slice none 0 0] 36))
  have G0 := Lib.hid (show w.grownBy (w.alloc (.cells #[.int .i64 0, .int .i64 0, .int .i64 0, .int .i64 0, .int .i64 0, .int .i64 0, .int .i64 0, .int .i64 0, .int .i64 0, .int .i64 0, .int .i64 0, .bool false, .slice none 0 0, .slice none 0 0] 36)) (some g) from only_new (K.refl w _) _)
  clear h
  have ta_tcp := ta_udp_tcp V
  have ta_udp := ta_udp_udp V
  go_enter Try.func49, Try.ntmps49
  go_wp2_with fail
  refine Calls.mono (HC.out _ HR.out) ?_
  rintro e v1 ⟨D, d, rfl, od, gg⟩
  have z1 := Lib.hid (K.kept gg z0.out (fun u hu => by cases hu; omega))
  have G1 := Lib.hid (grownBy_trans G0.out gg)
  have D1 := Lib.hid od
  clear gg z0 G0 HR HC od
  have hsz : w.heap.size < (w.alloc (.cells #[.int .i64 0, .int .i64 0, .int .i64 0, .int .i64 0, .int .i64 0, .int .i64 0, .int .i64 0, .int .i64 0, .int .i64 0, .int .i64 0, .int .i64 0, .bool false, .slice none 0 0, .slice none 0 0] 36)).heap.size := by simp
  go_wp2_with (with_reducible refine storeU rfl _ _ rfl w.heap.size rfl rfl z1.out ?_)
  (try simp only [Exit.inBlock, Exit.then])
  refine bodyPost_ret (v := .tuple #[.agg #[.int .i64 2, .int .i64 (sport : Int), .int .i64 (dport : Int), .int .i64 0, .int .i64 0, .int .i64 0, .int .i64 0, .int .i64 0, .int .i64 0, .int .i64 0, .int .i64 0, .bool false, .slice none 0 0, .slice D l d], .int .i64 (sm : Int), .int .i64 0]) ?_ rfl ⟨none, 0, D, d, rfl, ⟨rfl, .inl ⟨rfl, rfl⟩⟩, own_base (K.setRow_own _ D1.out hsz) (by omega), (fun _ h => by cases h), grown_other G1.out (K.setRow_grown _ _ _) (fun u hu => by cases hu; exact Nat.le_refl _)⟩
  exact K.resCell3 Try.results49 _ _ _ w.heap.size _ rfl (run_loadVar_row _ _ 36 36 _ (0, 0) _ (setRow_heap _ _ _ _ _ _ z1.out) Try.underlying36 rfl info_up)

set_option maxHeartbeats 4000000 in
theorem upperOf_3 (w : World) (g : Nat) (a : Addr) (n c : Nat) (bs : List UInt8) (V : Value) (l : Nat) (ty code sm rest : Nat) (h : Rp w g (some a) n c bs 0) (hl : 8 + l = n) (e0 : num bs 0 1 = ty) (e1 : num bs 1 1 = code) (e2 : num bs 2 2 = sm) (e3 : num bs 4 4 = rest) : Calls Try.prog 49 #[.iface 112 V, .pointer (some ⟨g, 0, none⟩)] w (TakeOut ⟨3, 0, 0, 0, 0, 0, 0, 0, (ty : Int), (code : Int), (rest : Int), false⟩ [] (bs.drop 8) 0 l sm g w) := by
  have HC := Lib.hid (fun (v : World) (r : Rp v g (some a) n c bs 0) => icmpOfC v g a n c bs l ty code sm rest r hl e0 e1 e2 e3)
  clear hl e0 e1 e2 e3
  have hg := h.lt
  have HR := Lib.hid (h.below (Joins.below_alloc1 w (.cells #[.int .i64 0, .int .i64 0, .int .i64 0, .int .i64 0, .int .i64 0, .int .i64 0, .int .i64 0, .int .i64 0, .int .i64 0, .int .i64 0, .int .i64 0, .bool false, .slice none 0 0, .slice none 0 0] 36)))
  have z0 := Lib.hid (K.new w (.cells #[.int .i64 0, .int .i64 0, .int .i64 0, .int .i64 0, .int .i64 0, .int .i64 0, .int .i64 0, .int .i64 0, .int .i64 0, .int .i64 0, .int .i64 0, .bool false, .slice none 0 0, .slice none 0 0] 36))
  have G0 := Lib.hid (show w.grownBy (w.alloc (.cells #[.int .i64 0, .int .i64 0, .int .i64 0, .int .i64 0, .int .i64 0, .int .i64 0, .int .i64 0, .int .i64 0, .int .i64 0, .int .i64 0, .int .i64 0, .bool false, .slice none 0 0, .slice none 0 0] 36)) (some g) from only_new (K.refl w _) _)
  clear h
  have ta_tcp := ta_icmp_tcp V
  have ta_udp := ta_icmp_udp V
  have ta_icmp := ta_icmp_icmp V
  go_enter Try.func49, Try.ntmps49
  go_wp2_with fail
  refine Calls.mono (HC.out _ HR.out) ?_
  rintro e v1 ⟨D, d, rfl, od, gg⟩
  have hlz := Lib.hid (K.lt (K.kept gg z0.out (fun u hu => by cases hu; omega)))
  have z1 := Lib.hid (K.old (K.kept gg z0.out (fun u hu => by cases hu; omega)) (.cells #[.int .i64 3, .int .i64 0, .int .i64 0, .int .i64 0, .int .i64 0, .int .i64 0, .int .i64 0, .int .i64 0, .int .i64 (ty : Int), .int .i64 (code : Int), .int .i64 (rest : Int), .bool false, .slice none 0 0, .slice D l d] 36))
  have q1 := Lib.hid (K.new v1 (.cells #[.int .i64 3, .int .i64 0, .int .i64 0, .int .i64 0, .int .i64 0, .int .i64 0, .int .i64 0, .int .i64 0, .int .i64 (ty : Int), .int .i64 (code : Int), .int .i64 (rest : Int), .bool false, .slice none 0 0, .slice D l d] 36))
  have G1 := Lib.hid (only_new (grownBy_trans G0.out gg) (.cells #[.int .i64 3, .int .i64 0, .int .i64 0, .int .i64 0, .int .i64 0, .int .i64 0, .int .i64 0, .int .i64 0, .int .i64 (ty : Int), .int .i64 (code : Int), .int .i64 (rest : Int), .bool false, .slice none 0 0, .slice D l d] 36))
  have D1 := Lib.hid (World.ownsRow.alloc od (.cells #[.int .i64 3, .int .i64 0, .int .i64 0, .int .i64 0, .int .i64 0, .int .i64 0, .int .i64 0, .int .i64 0, .int .i64 (ty : Int), .int .i64 (code : Int), .int .i64 (rest : Int), .bool false, .slice none 0 0, .slice D l d] 36))
  clear gg z0 G0 HR HC od
  have hsz : w.heap.size < (w.alloc (.cells #[.int .i64 0, .int .i64 0, .int .i64 0, .int .i64 0, .int .i64 0, .int .i64 0, .int .i64 0, .int .i64 0, .int .i64 0, .int .i64 0, .int .i64 0, .bool false, .slice none 0 0, .slice none 0 0] 36)).heap.size := by simp
  go_wp2_with (first | (with_reducible refine storeNewU rfl _ _ rfl rfl rfl ?_) | (with_reducible refine loadU rfl _ rfl v1.heap.size rfl q1.out ?_) | (with_reducible refine storeU rfl _ _ rfl w.heap.size rfl rfl z1.out ?_))
  (try simp only [Exit.inBlock, Exit.then])
  refine bodyPost_ret (v := .tuple #[.agg #[.int .i64 3, .int .i64 0, .int .i64 0, .int .i64 0, .int .i64 0, .int .i64 0, .int .i64 0, .int .i64 0, .int .i64 (ty : Int), .int .i64 (code : Int), .int .i64 (rest : Int), .bool false, .slice none 0 0, .slice D l d], .int .i64 (sm : Int), .int .i64 0]) ?_ rfl ⟨none, 0, D, d, rfl, ⟨rfl, .inl ⟨rfl, rfl⟩⟩, own_base (K.setRow_own _ D1.out hsz) (by omega), (fun _ h => by cases h), grown_other G1.out (K.setRow_grown _ _ _) (fun u hu => by cases hu; exact Nat.le_refl _)⟩
  exact K.resCell3 Try.results49 _ _ _ w.heap.size _ rfl (run_loadVar_row _ _ 36 36 _ (0, 0) _ (setRow_heap _ _ _ _ _ _ z1.out) Try.underlying36 rfl info_up)

set_option maxHeartbeats 4000000 in
theorem upperOf_0 (w : World) (g : Nat) (a : Addr) (n c : Nat) (bs : List UInt8) (V : Value) (h : Rp w g (some a) n c bs 0) : Calls Try.prog 49 #[.iface 109 V, .pointer (some ⟨g, 0, none⟩)] w (TakeOut Uh.zero [] bs 0 n 0 g w) := by
  have HD := Lib.hid (show (bs.drop 0).take n = bs by rw [List.drop_zero, ← h.len, List.take_length])
  have hg := h.lt
  have HR := Lib.hid (h.below (Joins.below_alloc1 w (.cells #[.int .i64 0, .int .i64 0, .int .i64 0, .int .i64 0, .int .i64 0, .int .i64 0, .int .i64 0, .int .i64 0, .int .i64 0, .int .i64 0, .int .i64 0, .bool false, .slice none 0 0, .slice none 0 0] 36)))
  have z0 := Lib.hid (K.new w (.cells #[.int .i64 0, .int .i64 0, .int .i64 0, .int .i64 0, .int .i64 0, .int .i64 0, .int .i64 0, .int .i64 0, .int .i64 0, .int .i64 0, .int .i64 0, .bool false, .slice none 0 0, .slice none 0 0] 36))
  have G0 := Lib.hid (show w.grownBy (w.alloc (.cells #[.int .i64 0, .int .i64 0, .int .i64 0, .int .i64 0, .int .i64 0, .int .i64 0, .int .i64 0, .int .i64 0, .int .i64 0, .int .i64 0, .int .i64 0, .bool false, .slice none 0 0, .slice none 0 0] 36)) (some g) from only_new (K.refl w _) _)
  clear h
  have ta_tcp := ta_other_tcp V
  have ta_udp := ta_other_udp V
  have ta_icmp := ta_other_icmp V
  go_enter Try.func49, Try.ntmps49
  go_wp2_with fail
  refine wp_region_grow (w := (w.alloc (.cells #[.int .i64 0, .int .i64 0, .int .i64 0, .int .i64 0, .int .i64 0, .int .i64 0, .int .i64 0, .int .i64 0, .int .i64 0, .int .i64 0, .int .i64 0, .bool false, .slice none 0 0, .slice none 0 0] 36))) (some g) (by kernel_rfl) 8 45 [(0, 36), (1, 37), (2, 38), (3, 39), (4, 40), (5, 41), (6, 42), (7, 43)] _ ([.val (.pointer (some ⟨g, 0, none⟩)), .val (.pointer (some ⟨g, 0, none⟩)), .val (.pointer (some ⟨g, 0, none⟩)), .val (.pointer (some ⟨g, 0, none⟩)), .val (.pointer (some ⟨g, 0, none⟩)), .val (.pointer (some ⟨g, 0, none⟩)), .val (.int .i64 (n : Int)), .any]) (by kernel_rfl) (by kernel_rfl) rfl 7 43 (by omega) (by decide) rfl (fun b' v => w.grownBy v (some g) ∧ v.heap[w.heap.size]? = some (.cells #[.int .i64 0, .int .i64 0, .int .i64 0, .int .i64 0, .int .i64 0, .int .i64 0, .int .i64 0, .int .i64 0, .int .i64 0, .int .i64 0, .int .i64 0, .bool false, .slice none 0 0, .slice none 0 0] 36 (0, 0)) ∧ (w.alloc (.cells #[.int .i64 0, .int .i64 0, .int .i64 0, .int .i64 0, .int .i64 0, .int .i64 0, .int .i64 0, .int .i64 0, .int .i64 0, .int .i64 0, .int .i64 0, .bool false, .slice none 0 0, .slice none 0 0] 36)).heap.size ≤ v.heap.size ∧ (b' = false → Rp v g (some a) n c bs 0)) (fun b' v v' hb h => ⟨grownBy_trans h.1 (below_grown hb _), K.below hb h.2.1, Nat.le_trans h.2.2.1 hb.size, fun e => (h.2.2.2 e).below hb⟩) ⟨⟨G0.out.os, G0.out.tape, G0.out.output, G0.out.size, G0.out.block⟩, z0.out, Nat.le_refl _, fun _ => ⟨HR.out.blk, HR.out.rb, HR.out.len, HR.out.small, HR.out.cap⟩⟩ (OwnB (w.alloc (.cells #[.int .i64 0, .int .i64 0, .int .i64 0, .int .i64 0, .int .i64 0, .int .i64 0, .int .i64 0, .int .i64 0, .int .i64 0, .int .i64 0, .int .i64 0, .bool false, .slice none 0 0, .slice none 0 0] 36)).heap.size n bs) (fun v v' u hb h => OwnB.on v v' u hb h) ?_ ?_ ?_
  · intro j o hj hjp ho b' a' v K' hbt hx hnd hJJ hK
    match j, hj, hjp, ho with
    | 0, _, _, ho =>
      obtain rfl := Option.some.inj ho
      have h0 : a'.eval (.tmp 1) = .pointer (some ⟨g, 0, none⟩) := (hx 1 (by decide)).trans rfl
      exact u_move _ _ rfl h0 (hK _ _ rfl (Below.refl _ _))
    | 1, _, _, ho =>
      obtain rfl := Option.some.inj ho
      have h0 : a'.eval (.tmp 36) = .pointer (some ⟨g, 0, none⟩) := (grow_of hnd 0 36 (by kernel_rfl) (by decide) :)
      exact t_nil _ _ rfl h0 (hK _ _ rfl (Below.refl _ _))
    | 2, _, _, ho =>
      obtain rfl := Option.some.inj ho
      have h0 : a'.eval (.tmp 37) = .pointer (some ⟨g, 0, none⟩) := (grow_of hnd 1 37 (by kernel_rfl) (by decide) :)
      exact t_fldR _ _ rfl h0 (hK _ _ rfl (Below.refl _ _))
    | 3, _, _, ho =>
      obtain rfl := Option.some.inj ho
      have h0 : a'.eval (.tmp 1) = .pointer (some ⟨g, 0, none⟩) := (hx 1 (by decide)).trans rfl
      exact u_move _ _ rfl h0 (hK _ _ rfl (Below.refl _ _))
    | 4, _, _, ho =>
      obtain rfl := Option.some.inj ho
      have h0 : a'.eval (.tmp 39) = .pointer (some ⟨g, 0, none⟩) := (grow_of hnd 3 39 (by kernel_rfl) (by decide) :)
      exact t_nil _ _ rfl h0 (hK _ _ rfl (Below.refl _ _))
    | 5, _, _, ho =>
      obtain rfl := Option.some.inj ho
      have h0 : a'.eval (.tmp 40) = .pointer (some ⟨g, 0, none⟩) := (grow_of hnd 4 40 (by kernel_rfl) (by decide) :)
      exact t_fldR _ _ rfl h0 (hK _ _ rfl (Below.refl _ _))
    | 6, _, _, ho =>
      obtain rfl := Option.some.inj ho
      have h0 : a'.eval (.tmp 41) = .pointer (some ⟨g, 0, none⟩) := (grow_of hnd 5 41 (by kernel_rfl) (by decide) :)
      cases b' with
      | false =>
        refine t_left _ _ _ rfl h0 (Calls.mono (leftP v g (some a) n c bs 0 n (hJJ.2.2.2 rfl) (by omega)) ?_)
        rintro e' v' ⟨rfl, b6⟩
        exact ⟨_, rfl, hK _ _ rfl b6⟩
      | true =>
        exact absurd (hbt (by kernel_rfl)) (by simp)
    | 7, _, hjp, _ => exact absurd rfl hjp
    | j + 8, hj, _, _ => omega
  · intro o ho a' v K' hx hnd hJJ hK
    obtain rfl := Option.some.inj ho
    have h0 : a'.eval (.tmp 38) = .pointer (some ⟨g, 0, none⟩) := (grow_of hnd 2 38 (by kernel_rfl) (by decide) :)
    have h1 : a'.eval (.tmp 42) = .int .i64 (n : Int) := (grow_of hnd 6 42 (by kernel_rfl) (by decide) :)
    refine t_take _ _ _ _ _ rfl h0 h1 (Calls.mono (takeP v g a n c bs 0 n (hJJ.2.2.2 rfl) (by omega)) ?_)
    rintro e' v' ⟨E', k', rfl, o8, r8, g8⟩
    rw [HD.out] at o8
    exact ⟨_, rfl, hK _ _ ⟨E', k', rfl, own_base o8 hJJ.2.2.1⟩ g8 ⟨grownBy_trans hJJ.1 g8, K.kept g8 hJJ.2.1 (fun u hu => by cases hu; omega), Nat.le_trans hJJ.2.2.1 g8.size, fun e => by cases e⟩⟩
  · intro f v hf OG hJJ
    have e0 : f 0 = (.pointer (some ⟨g, 0, none⟩)) := hf (0, 36) (by decide) (by decide)
    have e1 : f 1 = (.pointer (some ⟨g, 0, none⟩)) := hf (1, 37) (by decide) (by decide)
    have e2 : f 2 = (.pointer (some ⟨g, 0, none⟩)) := hf (2, 38) (by decide) (by decide)
    have e3 : f 3 = (.pointer (some ⟨g, 0, none⟩)) := hf (3, 39) (by decide) (by decide)
    have e4 : f 4 = (.pointer (some ⟨g, 0, none⟩)) := hf (4, 40) (by decide) (by decide)
    have e5 : f 5 = (.pointer (some ⟨g, 0, none⟩)) := hf (5, 41) (by decide) (by decide)
    have e6 : f 6 = (.int .i64 (n : Int)) := hf (6, 42) (by decide) (by decide)
    simp only [List.foldl_cons, List.foldl_nil, List.drop_succ_cons, List.drop_zero, e0, e1, e2, e3, e4, e5, e6]
    clear e0 e1 e2 e3 e4 e5 e6 hf
    go_simp
    obtain ⟨D, d, e9, oD⟩ := OG
    rw [e9]
    clear e9
    obtain ⟨j1, j2, j3, _⟩ := hJJ
    have z1 := Lib.hid j2
    have G1 := Lib.hid j1
    have D1 := Lib.hid oD
    clear j1 j2 j3 oD
    have hsz : w.heap.size < (w.alloc (.cells #[.int .i64 0, .int .i64 0, .int .i64 0, .int .i64 0, .int .i64 0, .int .i64 0, .int .i64 0, .int .i64 0, .int .i64 0, .int .i64 0, .int .i64 0, .bool false, .slice none 0 0, .slice none 0 0] 36)).heap.size := by simp
    go_wp2_with (with_reducible refine storeU rfl _ _ rfl w.heap.size rfl rfl z1.out ?_)
    (try simp only [Exit.inBlock, Exit.then])
    refine bodyPost_ret (v := .tuple #[.agg #[.int .i64 0, .int .i64 0, .int .i64 0, .int .i64 0, .int .i64 0, .int .i64 0, .int .i64 0, .int .i64 0, .int .i64 0, .int .i64 0, .int .i64 0, .bool false, .slice none 0 0, .slice D n d], .int .i64 0, .int .i64 0]) ?_ rfl ⟨none, 0, D, d, rfl, ⟨rfl, .inl ⟨rfl, rfl⟩⟩, own_base (K.setRow_own _ D1.out hsz) (by omega), (fun _ h => by cases h), grown_other G1.out (K.setRow_grown _ _ _) (fun u hu => by cases hu; exact Nat.le_refl _)⟩
    exact K.resCell3 Try.results49 _ _ _ w.heap.size _ rfl (run_loadVar_row _ _ 36 36 _ (0, 0) _ (setRow_heap _ _ _ _ _ _ z1.out) Try.underlying36 rfl info_up)

set_option maxHeartbeats 4000000 in
theorem upperOf_0n (w : World) (g : Nat) (V : Value) (h : Rp w g none 0 0 [] 0) : Calls Try.prog 49 #[.iface 109 V, .pointer (some ⟨g, 0, none⟩)] w (TakeOut Uh.zero [] [] 0 0 0 g w) := by
  have hg := h.lt
  have HR := Lib.hid (h.below (Joins.below_alloc1 w (.cells #[.int .i64 0, .int .i64 0, .int .i64 0, .int .i64 0, .int .i64 0, .int .i64 0, .int .i64 0, .int .i64 0, .int .i64 0, .int .i64 0, .int .i64 0, .bool false, .slice none 0 0, .slice none 0 0] 36)))
  have z0 := Lib.hid (K.new w (.cells #[.int .i64 0, .int .i64 0, .int .i64 0, .int .i64 0, .int .i64 0, .int .i64 0, .int .i64 0, .int .i64 0, .int .i64 0, .int .i64 0, .int .i64 0, .bool false, .slice none 0 0, .slice none 0 0] 36))
  have G0 := Lib.hid (show w.grownBy (w.alloc (.cells #[.int .i64 0, .int .i64 0, .int .i64 0, .int .i64 0, .int .i64 0, .int .i64 0, .int .i64 0, .int .i64 0, .int .i64 0, .int .i64 0, .int .i64 0, .bool false, .slice none 0 0, .slice none 0 0] 36)) (some g) from only_new (K.refl w _) _)
  clear h
  have ta_tcp := ta_other_tcp V
  have ta_udp := ta_other_udp V
  have ta_icmp := ta_other_icmp V
  go_enter Try.func49, Try.ntmps49
  go_wp2_with fail
  refine wp_region_grow (w := (w.alloc (.cells #[.int .i64 0, .int .i64 0, .int .i64 0, .int .i64 0, .int .i64 0, .int .i64 0, .int .i64 0, .int .i64 0, .int .i64 0, .int .i64 0, .int .i64 0, .bool false, .slice none 0 0, .slice none 0 0] 36))) (some g) (by kernel_rfl) 8 45 [(0, 36), (1, 37), (2, 38), (3, 39), (4, 40), (5, 41), (6, 42), (7, 43)] _ ([.val (.pointer (some ⟨g, 0, none⟩)), .val (.pointer (some ⟨g, 0, none⟩)), .val (.pointer (some ⟨g, 0, none⟩)), .val (.pointer (some ⟨g, 0, none⟩)), .val (.pointer (some ⟨g, 0, none⟩)), .val (.pointer (some ⟨g, 0, none⟩)), .val (.int .i64 0), .any]) (by kernel_rfl) (by kernel_rfl) rfl 7 43 (by omega) (by decide) rfl (fun b' v => w.grownBy v (some g) ∧ v.heap[w.heap.size]? = some (.cells #[.int .i64 0, .int .i64 0, .int .i64 0, .int .i64 0, .int .i64 0, .int .i64 0, .int .i64 0, .int .i64 0, .int .i64 0, .int .i64 0, .int .i64 0, .bool false, .slice none 0 0, .slice none 0 0] 36 (0, 0)) ∧ (w.alloc (.cells #[.int .i64 0, .int .i64 0, .int .i64 0, .int .i64 0, .int .i64 0, .int .i64 0, .int .i64 0, .int .i64 0, .int .i64 0, .int .i64 0, .int .i64 0, .bool false, .slice none 0 0, .slice none 0 0] 36)).heap.size ≤ v.heap.size ∧ (b' = false → Rp v g none 0 0 [] 0)) (fun b' v v' hb h => ⟨grownBy_trans h.1 (below_grown hb _), K.below hb h.2.1, Nat.le_trans h.2.2.1 hb.size, fun e => (h.2.2.2 e).below hb⟩) ⟨⟨G0.out.os, G0.out.tape, G0.out.output, G0.out.size, G0.out.block⟩, z0.out, Nat.le_refl _, fun _ => ⟨HR.out.blk, HR.out.rb, HR.out.len, HR.out.small, HR.out.cap⟩⟩ (OwnB (w.alloc (.cells #[.int .i64 0, .int .i64 0, .int .i64 0, .int .i64 0, .int .i64 0, .int .i64 0, .int .i64 0, .int .i64 0, .int .i64 0, .int .i64 0, .int .i64 0, .bool false, .slice none 0 0, .slice none 0 0] 36)).heap.size 0 []) (fun v v' u hb h => OwnB.on v v' u hb h) ?_ ?_ ?_
  · intro j o hj hjp ho b' a' v K' hbt hx hnd hJJ hK
    match j, hj, hjp, ho with
    | 0, _, _, ho =>
      obtain rfl := Option.some.inj ho
      have h0 : a'.eval (.tmp 1) = .pointer (some ⟨g, 0, none⟩) := (hx 1 (by decide)).trans rfl
      exact u_move _ _ rfl h0 (hK _ _ rfl (Below.refl _ _))
    | 1, _, _, ho =>
      obtain rfl := Option.some.inj ho
      have h0 : a'.eval (.tmp 36) = .pointer (some ⟨g, 0, none⟩) := (grow_of hnd 0 36 (by kernel_rfl) (by decide) :)
      exact t_nil _ _ rfl h0 (hK _ _ rfl (Below.refl _ _))
    | 2, _, _, ho =>
      obtain rfl := Option.some.inj ho
      have h0 : a'.eval (.tmp 37) = .pointer (some ⟨g, 0, none⟩) := (grow_of hnd 1 37 (by kernel_rfl) (by decide) :)
      exact t_fldR _ _ rfl h0 (hK _ _ rfl (Below.refl _ _))
    | 3, _, _, ho =>
      obtain rfl := Option.some.inj ho
      have h0 : a'.eval (.tmp 1) = .pointer (some ⟨g, 0, none⟩) := (hx 1 (by decide)).trans rfl
      exact u_move _ _ rfl h0 (hK _ _ rfl (Below.refl _ _))
    | 4, _, _, ho =>
      obtain rfl := Option.some.inj ho
      have h0 : a'.eval (.tmp 39) = .pointer (some ⟨g, 0, none⟩) := (grow_of hnd 3 39 (by kernel_rfl) (by decide) :)
      exact t_nil _ _ rfl h0 (hK _ _ rfl (Below.refl _ _))
    | 5, _, _, ho =>
      obtain rfl := Option.some.inj ho
      have h0 : a'.eval (.tmp 40) = .pointer (some ⟨g, 0, none⟩) := (grow_of hnd 4 40 (by kernel_rfl) (by decide) :)
      exact t_fldR _ _ rfl h0 (hK _ _ rfl (Below.refl _ _))
    | 6, _, _, ho =>
      obtain rfl := Option.some.inj ho
      have h0 : a'.eval (.tmp 41) = .pointer (some ⟨g, 0, none⟩) := (grow_of hnd 5 41 (by kernel_rfl) (by decide) :)
      cases b' with
      | false =>
        refine t_left _ _ _ rfl h0 (Calls.mono (leftP v g none 0 0 [] 0 0 (hJJ.2.2.2 rfl) (by omega)) ?_)
        rintro e' v' ⟨rfl, b6⟩
        exact ⟨_, rfl, hK _ _ rfl b6⟩
      | true =>
        exact absurd (hbt (by kernel_rfl)) (by simp)
    | 7, _, hjp, _ => exact absurd rfl hjp
    | j + 8, hj, _, _ => omega
  · intro o ho a' v K' hx hnd hJJ hK
    obtain rfl := Option.some.inj ho
    have h0 : a'.eval (.tmp 38) = .pointer (some ⟨g, 0, none⟩) := (grow_of hnd 2 38 (by kernel_rfl) (by decide) :)
    have h1 : a'.eval (.tmp 42) = .int .i64 0 := (grow_of hnd 6 42 (by kernel_rfl) (by decide) :)
    refine t_take _ _ _ _ _ rfl h0 h1 (Calls.mono (takeP0 v g (hJJ.2.2.2 rfl)) ?_)
    rintro e' v' ⟨E', k', rfl, o8, r8, g8⟩
    exact ⟨_, rfl, hK _ _ ⟨E', k', rfl, own_base o8 hJJ.2.2.1⟩ g8 ⟨grownBy_trans hJJ.1 g8, K.kept g8 hJJ.2.1 (fun u hu => by cases hu; omega), Nat.le_trans hJJ.2.2.1 g8.size, fun e => by cases e⟩⟩
  · intro f v hf OG hJJ
    have e0 : f 0 = (.pointer (some ⟨g, 0, none⟩)) := hf (0, 36) (by decide) (by decide)
    have e1 : f 1 = (.pointer (some ⟨g, 0, none⟩)) := hf (1, 37) (by decide) (by decide)
    have e2 : f 2 = (.pointer (some ⟨g, 0, none⟩)) := hf (2, 38) (by decide) (by decide)
    have e3 : f 3 = (.pointer (some ⟨g, 0, none⟩)) := hf (3, 39) (by decide) (by decide)
    have e4 : f 4 = (.pointer (some ⟨g, 0, none⟩)) := hf (4, 40) (by decide) (by decide)
    have e5 : f 5 = (.pointer (some ⟨g, 0, none⟩)) := hf (5, 41) (by decide) (by decide)
    have e6 : f 6 = (.int .i64 0) := hf (6, 42) (by decide) (by decide)
    simp only [List.foldl_cons, List.foldl_nil, List.drop_succ_cons, List.drop_zero, e0, e1, e2, e3, e4, e5, e6]
    clear e0 e1 e2 e3 e4 e5 e6 hf
    go_simp
    obtain ⟨D, d, e9, oD⟩ := OG
    rw [e9]
    clear e9
    obtain ⟨j1, j2, j3, _⟩ := hJJ
    have z1 := Lib.hid j2
    have G1 := Lib.hid j1
    have D1 := Lib.hid oD
    clear j1 j2 j3 oD
    have hsz : w.heap.size < (w.alloc (.cells #[.int .i64 0, .int .i64 0, .int .i64 0, .int .i64 0, .int .i64 0, .int .i64 0, .int .i64 0, .int .i64 0, .int .i64 0, .int .i64 0, .int .i64 0, .bool false, .slice none 0 0, .slice none 0 0] 36)).heap.size := by simp
    go_wp2_with (with_reducible refine storeU rfl _ _ rfl w.heap.size rfl rfl z1.out ?_)
    (try simp only [Exit.inBlock, Exit.then])
    refine bodyPost_ret (v := .tuple #[.agg #[.int .i64 0, .int .i64 0, .int .i64 0, .int .i64 0, .int .i64 0, .int .i64 0, .int .i64 0, .int .i64 0, .int .i64 0, .int .i64 0, .int .i64 0, .bool false, .slice none 0 0, .slice D 0 d], .int .i64 0, .int .i64 0]) ?_ rfl ⟨none, 0, D, d, rfl, ⟨rfl, .inl ⟨rfl, rfl⟩⟩, own_base (K.setRow_own _ D1.out hsz) (by omega), (fun _ h => by cases h), grown_other G1.out (K.setRow_grown _ _ _) (fun u hu => by cases hu; exact Nat.le_refl _)⟩
    exact K.resCell3 Try.results49 _ _ _ w.heap.size _ rfl (run_loadVar_row _ _ 36 36 _ (0, 0) _ (setRow_heap _ _ _ _ _ _ z1.out) Try.underlying36 rfl info_up)
end Go.Proofs.Ythogonpjkngpjaa

namespace Go.Proofs.Ythogonpjkngpjaa
set_option maxRecDepth 100000
open Go.RowKit

theorem kindU_split {p k : Int} (h : upTo p 255 = true) (hk : k = 4 ∨ k = 6) : (p = 6 ∧ kindU p k = 1) ∨ (p = 17 ∧ kindU p k = 2) ∨ (p = 1 ∧ k = 4 ∧ kindU p k = 3) ∨ (p = 58 ∧ k = 6 ∧ kindU p k = 3) ∨ (p = 1 ∧ k = 6 ∧ kindU p k = 0) ∨ (p = 58 ∧ k = 4 ∧ kindU p k = 0) ∨ (p ≠ 6 ∧ p ≠ 17 ∧ p ≠ 1 ∧ p ≠ 58 ∧ kindU p k = 0) := by
  by_cases h6 : p = 6
  · subst h6; left; simp [kindU]
  · by_cases h17 : p = 17
    · subst h17; right; left; simp [kindU]
    · by_cases h1 : p = 1
      · subst h1
        rcases hk with rfl | rfl
        · right; right; left; simp [kindU]
        · right; right; right; right; left; simp [kindU]
      · by_cases h58 : p = 58
        · subst h58
          rcases hk with rfl | rfl
          · right; right; right; right; right; left; simp [kindU]
          · right; right; right; left; simp [kindU]
        · right; right; right; right; right; right
          refine ⟨h6, h17, h1, h58, ?_⟩
          simp [kindU, h6, h17, h1, h58]

set_option maxHeartbeats 1000000 in
theorem kind_impl (p k q : Int) (w : World) (hp : upTo p 255 = true) (hk : k = 4 ∨ k = 6) (hq : kindU p k = q) : Calls Try.prog 48 #[.int .i64 p, .int .i64 k] w fun e w' => e = .returned (.int .i64 q) ∧ Below w.heap.size w w' := by
  obtain ⟨l0, l1⟩ := upTo_iff.1 hp
  rcases kindU_split hp hk with ⟨rfl, e⟩ | ⟨rfl, e⟩ | ⟨rfl, rfl, e⟩ | ⟨rfl, rfl, e⟩ | ⟨rfl, rfl, e⟩ | ⟨rfl, rfl, e⟩ | ⟨h6, h17, h1, h58, e⟩
  · obtain rfl := hq.symm.trans e
    clear e hp l0 l1 hq
    rcases hk with rfl | rfl
    all_goals
      go_enter Try.func48, Try.ntmps48
      go_wp2
      go_ret
      exact ⟨rfl, Below.refl _ _⟩
  · obtain rfl := hq.symm.trans e
    clear e hp l0 l1 hq
    rcases hk with rfl | rfl
    all_goals
      go_enter Try.func48, Try.ntmps48
      go_wp2
      go_ret
      exact ⟨rfl, Below.refl _ _⟩
  iterate 4
    · obtain rfl := hq.symm.trans e
      clear e hp l0 l1 hq hk
      go_enter Try.func48, Try.ntmps48
      go_wp2
      go_ret
      exact ⟨rfl, Below.refl _ _⟩
  · obtain rfl := hq.symm.trans e
    have g6 : (p == 6) = false := by simp [h6]
    have g17 : (p == 17) = false := by simp [h17]
    have g1 : (p == 1) = false := by simp [h1]
    have g58 : (p == 58) = false := by simp [h58]
    have j0 : ¬ p < 0 := by omega
    have j1 : ¬ 255 < p := by omega
    clear e hp hq
    rcases hk with rfl | rfl
    all_goals
      go_enter Try.func48, Try.ntmps48
      go_wp2
      go_ret
      exact ⟨rfl, Below.refl _ _⟩

set_option maxHeartbeats 1000000 in
theorem kind_spec (p k q : Int) (w : World) (hp : upTo p 255 = true) (hk : k = 4 ∨ k = 6) (hq : kindU p k = q) : Calls Try.prog 44 #[.int .i64 p, .int .i64 k] w fun e w' => e = .returned (.int .i64 q) ∧ Below w.heap.size w w' := by
  obtain ⟨l0, l1⟩ := upTo_iff.1 hp
  rcases kindU_split hp hk with ⟨rfl, e⟩ | ⟨rfl, e⟩ | ⟨rfl, rfl, e⟩ | ⟨rfl, rfl, e⟩ | ⟨rfl, rfl, e⟩ | ⟨rfl, rfl, e⟩ | ⟨h6, h17, h1, h58, e⟩
  · obtain rfl := hq.symm.trans e
    clear e hp l0 l1 hq
    rcases hk with rfl | rfl
    all_goals
      go_enter Try.func44, Try.ntmps44
      go_wp2
      go_ret
      exact ⟨rfl, Below.refl _ _⟩
  · obtain rfl := hq.symm.trans e
    clear e hp l0 l1 hq
    rcases hk with rfl | rfl
    all_goals
      go_enter Try.func44, Try.ntmps44
      go_wp2
      go_ret
      exact ⟨rfl, Below.refl _ _⟩
  iterate 4
    · obtain rfl := hq.symm.trans e
      clear e hp l0 l1 hq hk
      go_enter Try.func44, Try.ntmps44
      go_wp2
      go_ret
      exact ⟨rfl, Below.refl _ _⟩
  · obtain rfl := hq.symm.trans e
    have g6 : (p == 6) = false := by simp [h6]
    have g17 : (p == 17) = false := by simp [h17]
    have g1 : (p == 1) = false := by simp [h1]
    have g58 : (p == 58) = false := by simp [h58]
    have j0 : ¬ p < 0 := by omega
    have j1 : ¬ 255 < p := by omega
    clear e hp hq
    rcases hk with rfl | rfl
    all_goals
      go_enter Try.func44, Try.ntmps44
      go_wp2
      go_ret
      exact ⟨rfl, Below.refl _ _⟩

end Go.Proofs.Ythogonpjkngpjaa

namespace Go.Proofs.Ythogonpjkngpjaa
set_option maxRecDepth 100000
open Go.RowKit

set_option maxHeartbeats 8000000 in
theorem l07B0 (sport dport seq ack bits window urgent ty code rest : Int) (nosum : Bool) (A D : Option Addr) (n c m d : Nat) (os bs : List UInt8) (sum : Int) (w : World) (hr : RB w w.heap.size A os) (hl : os.length = n) (hs : RB w w.heap.size D bs) (hm : bs.length = m) (_hn : n ≤ 40) (hm2 : m ≤ 1500) : Calls Try.prog 64 #[.agg #[.int .i64 0, .int .i64 sport, .int .i64 dport, .int .i64 seq, .int .i64 ack, .int .i64 bits, .int .i64 window, .int .i64 urgent, .int .i64 ty, .int .i64 code, .int .i64 rest, .bool nosum, .slice A n c, .slice D m d], .int .i64 sum] w (EncOut (bs) w) := by
  have q : Hid ((w.alloc (.cells #[.int .i64 0, .int .i64 sport, .int .i64 dport, .int .i64 seq, .int .i64 ack, .int .i64 bits, .int .i64 window, .int .i64 urgent, .int .i64 ty, .int .i64 code, .int .i64 rest, .bool nosum, .slice A n c, .slice D m d] 36)).heap[w.heap.size]? = some (.cells #[.int .i64 0, .int .i64 sport, .int .i64 dport, .int .i64 seq, .int .i64 ack, .int .i64 bits, .int .i64 window, .int .i64 urgent, .int .i64 ty, .int .i64 code, .int .i64 rest, .bool nosum, .slice A n c, .slice D m d] 36)) := Lib.hid (K.new w _)
  have HA := Lib.hid ((hr.below (Joins.below_alloc1 w (.cells #[.int .i64 0, .int .i64 sport, .int .i64 dport, .int .i64 seq, .int .i64 ack, .int .i64 bits, .int .i64 window, .int .i64 urgent, .int .i64 ty, .int .i64 code, .int .i64 rest, .bool nosum, .slice A n c, .slice D m d] 36))))
  have HD := Lib.hid ((hs.below (Joins.below_alloc1 w (.cells #[.int .i64 0, .int .i64 sport, .int .i64 dport, .int .i64 seq, .int .i64 ack, .int .i64 bits, .int .i64 window, .int .i64 urgent, .int .i64 ty, .int .i64 code, .int .i64 rest, .bool nosum, .slice A n c, .slice D m d] 36))))
  have HE : Hid (Below w.heap.size w (w.alloc (.cells #[.int .i64 0, .int .i64 sport, .int .i64 dport, .int .i64 seq, .int .i64 ack, .int .i64 bits, .int .i64 window, .int .i64 urgent, .int .i64 ty, .int .i64 code, .int .i64 rest, .bool nosum, .slice A n c, .slice D m d] 36))) := Lib.hid (Joins.below_alloc1 w _)
  have HL := Lib.hid hl
  have HM := Lib.hid hm
  have hw : (w.alloc (.cells #[.int .i64 0, .int .i64 sport, .int .i64 dport, .int .i64 seq, .int .i64 ack, .int .i64 bits, .int .i64 window, .int .i64 urgent, .int .i64 ty, .int .i64 code, .int .i64 rest, .bool nosum, .slice A n c, .slice D m d] 36)).heap.size = w.heap.size + 1 := by simp
  try simp only at q HA HD HE hw
  clear hr hs hl hm
  have q2 : Hid (((w.alloc (.cells #[.int .i64 0, .int .i64 sport, .int .i64 dport, .int .i64 seq, .int .i64 ack, .int .i64 bits, .int .i64 window, .int .i64 urgent, .int .i64 ty, .int .i64 code, .int .i64 rest, .bool nosum, .slice A n c, .slice D m d] 36)).alloc (.cells #[] 5)).heap[w.heap.size]? = some (.cells #[.int .i64 0, .int .i64 sport, .int .i64 dport, .int .i64 seq, .int .i64 ack, .int .i64 bits, .int .i64 window, .int .i64 urgent, .int .i64 ty, .int .i64 code, .int .i64 rest, .bool nosum, .slice A n c, .slice D m d] 36)) := Lib.hid (K.old q.out _)
  try simp only at q2
  go_enter Try.func64, Try.ntmps64
  have BA : Hid (Bd (w.alloc (.cells #[.int .i64 0, .int .i64 sport, .int .i64 dport, .int .i64 seq, .int .i64 ack, .int .i64 bits, .int .i64 window, .int .i64 urgent, .int .i64 ty, .int .i64 code, .int .i64 rest, .bool nosum, .slice A n c, .slice D m d] 36)) (w.heap.size + 1) ((w.alloc (.cells #[.int .i64 0, .int .i64 sport, .int .i64 dport, .int .i64 seq, .int .i64 ack, .int .i64 bits, .int .i64 window, .int .i64 urgent, .int .i64 ty, .int .i64 code, .int .i64 rest, .bool nosum, .slice A n c, .slice D m d] 36)).alloc (.cells #[] 5)) (some ⟨w.heap.size + 1, 0, none⟩) 0 0 []) := Lib.hid ⟨by have h := World.ownsRow_lit (base := w.heap.size + 1) (e := 5) (size := 1) (w.alloc (.cells #[.int .i64 0, .int .i64 sport, .int .i64 dport, .int .i64 seq, .int .i64 ack, .int .i64 bits, .int .i64 window, .int .i64 urgent, .int .i64 ty, .int .i64 code, .int .i64 rest, .bool nosum, .slice A n c, .slice D m d] 36)) #[] 0 (by simp) (by decide) rfl; simpa [cellsOf] using h, (Below.refl _ _).alloc (by simp) _, by simp, rfl⟩
  go_wp2_with (at_builtin; (refine wpList_append_bd rfl BA.out (.tmp 92) (.tmp 94) rfl rfl _ _ m _ (bs) rfl HM.out (BA.out.rb HD.out (by omega)) (by omega) m (by omega) ?_); intro A_BL c_BL w_BL bd_BL; have BL := Lib.hid bd_BL; clear bd_BL)
  go_ret
  exact encOut (by simp) BL.out.len (BL.out.out HE.out (by omega))

end Go.Proofs.Ythogonpjkngpjaa

namespace Go.Proofs.Ythogonpjkngpjaa
set_option maxRecDepth 100000
open Go.RowKit

set_option maxHeartbeats 8000000 in
theorem l07B1 (sport dport seq ack bits window urgent ty code rest : Int) (nosum : Bool) (A D : Option Addr) (n c m d : Nat) (os bs : List UInt8) (sum : Int) (w : World) (hr : RB w w.heap.size A os) (hl : os.length = n) (hs : RB w w.heap.size D bs) (hm : bs.length = m) (hn : n ≤ 40) (hm2 : m ≤ 1500) (h5 : 0 ≤ bits ∧ bits ≤ 4095) (h4 : n % 4 = 0) : Calls Try.prog 64 #[.agg #[.int .i64 1, .int .i64 sport, .int .i64 dport, .int .i64 seq, .int .i64 ack, .int .i64 bits, .int .i64 window, .int .i64 urgent, .int .i64 ty, .int .i64 code, .int .i64 rest, .bool nosum, .slice A n c, .slice D m d], .int .i64 sum] w (EncOut (tcpH (Uh.mk 1 sport dport seq ack bits window urgent ty code rest nosum) os sum ++ bs) w) := by
  have q : Hid ((w.alloc (.cells #[.int .i64 1, .int .i64 sport, .int .i64 dport, .int .i64 seq, .int .i64 ack, .int .i64 bits, .int .i64 window, .int .i64 urgent, .int .i64 ty, .int .i64 code, .int .i64 rest, .bool nosum, .slice A n c, .slice D m d] 36)).heap[w.heap.size]? = some (.cells #[.int .i64 1, .int .i64 sport, .int .i64 dport, .int .i64 seq, .int .i64 ack, .int .i64 bits, .int .i64 window, .int .i64 urgent, .int .i64 ty, .int .i64 code, .int .i64 rest, .bool nosum, .slice A n c, .slice D m d] 36)) := Lib.hid (K.new w _)
  have HA := Lib.hid ((hr.below (Joins.below_alloc1 w (.cells #[.int .i64 1, .int .i64 sport, .int .i64 dport, .int .i64 seq, .int .i64 ack, .int .i64 bits, .int .i64 window, .int .i64 urgent, .int .i64 ty, .int .i64 code, .int .i64 rest, .bool nosum, .slice A n c, .slice D m d] 36))))
  have HD := Lib.hid ((hs.below (Joins.below_alloc1 w (.cells #[.int .i64 1, .int .i64 sport, .int .i64 dport, .int .i64 seq, .int .i64 ack, .int .i64 bits, .int .i64 window, .int .i64 urgent, .int .i64 ty, .int .i64 code, .int .i64 rest, .bool nosum, .slice A n c, .slice D m d] 36))))
  have HE : Hid (Below w.heap.size w (w.alloc (.cells #[.int .i64 1, .int .i64 sport, .int .i64 dport, .int .i64 seq, .int .i64 ack, .int .i64 bits, .int .i64 window, .int .i64 urgent, .int .i64 ty, .int .i64 code, .int .i64 rest, .bool nosum, .slice A n c, .slice D m d] 36))) := Lib.hid (Joins.below_alloc1 w _)
  have HL := Lib.hid hl
  have HM := Lib.hid hm
  have hw : (w.alloc (.cells #[.int .i64 1, .int .i64 sport, .int .i64 dport, .int .i64 seq, .int .i64 ack, .int .i64 bits, .int .i64 window, .int .i64 urgent, .int .i64 ty, .int .i64 code, .int .i64 rest, .bool nosum, .slice A n c, .slice D m d] 36)).heap.size = w.heap.size + 1 := by simp
  try simp only at q HA HD HE hw
  clear hr hs hl hm
  have q2 : Hid (((w.alloc (.cells #[.int .i64 1, .int .i64 sport, .int .i64 dport, .int .i64 seq, .int .i64 ack, .int .i64 bits, .int .i64 window, .int .i64 urgent, .int .i64 ty, .int .i64 code, .int .i64 rest, .bool nosum, .slice A n c, .slice D m d] 36)).alloc (.cells #[] 5)).heap[w.heap.size]? = some (.cells #[.int .i64 1, .int .i64 sport, .int .i64 dport, .int .i64 seq, .int .i64 ack, .int .i64 bits, .int .i64 window, .int .i64 urgent, .int .i64 ty, .int .i64 code, .int .i64 rest, .bool nosum, .slice A n c, .slice D m d] 36)) := Lib.hid (K.old q.out _)
  try simp only at q2
  go_enter Try.func64, Try.ntmps64
  go_wp2_with fail
  refine wp_region_owns (by kernel_rfl) 6 96 [(0, 15), (1, 16), (2, 17), (3, 18), (4, 19), (5, 20)] _ ([.val (.pointer (some ⟨w.heap.size, 1, none⟩)), .val (.int .i64 sport), .own (w.heap.size + 1) 2 (put16 sport), .val (.pointer (some ⟨w.heap.size, 2, none⟩)), .val (.int .i64 dport), .own (w.heap.size + 1) 2 (put16 dport)]) (by kernel_rfl) (by kernel_rfl) rfl rfl ?_ ?_
  · intro j o hj ho a' v K' hx hnd hB hK
    match j, hj, ho with
    | 0, _, ho =>
      obtain rfl := Option.some.inj ho
      have h0 : a'.eval (.tmp 2) = .pointer (some ⟨w.heap.size, 0, none⟩) := (hx 2 (by decide)).trans rfl
      exact u_fldU1 _ _ rfl h0 (hK _ _ rfl (Below.refl _ _))
    | 1, _, ho =>
      obtain rfl := Option.some.inj ho
      have h0 : a'.eval (.tmp 15) = .pointer (some ⟨w.heap.size, 1, none⟩) := (owns_of hnd 0 15 (by kernel_rfl) :)
      exact u_int _ _ _ _ rfl h0 (K.cell (K.below hB q2.out) 1 _ rfl) (hK _ _ rfl (Below.refl _ _))
    | 2, _, ho =>
      obtain rfl := Option.some.inj ho
      have h0 : a'.eval (.tmp 16) = .int .i64 sport := (owns_of hnd 1 16 (by kernel_rfl) :)
      refine u_p16S _ _ _ rfl h0 (Calls.mono (put16S _ v) ?_)
      rintro e' v' ⟨X, y, rfl, o6, b6⟩
      exact ⟨_, rfl, hK _ _ ⟨X, y, rfl, own_base o6 (by have := hB.size; simp at this; omega)⟩ b6⟩
    | 3, _, ho =>
      obtain rfl := Option.some.inj ho
      have h0 : a'.eval (.tmp 2) = .pointer (some ⟨w.heap.size, 0, none⟩) := (hx 2 (by decide)).trans rfl
      exact u_fldU2 _ _ rfl h0 (hK _ _ rfl (Below.refl _ _))
    | 4, _, ho =>
      obtain rfl := Option.some.inj ho
      have h0 : a'.eval (.tmp 18) = .pointer (some ⟨w.heap.size, 2, none⟩) := (owns_of hnd 3 18 (by kernel_rfl) :)
      exact u_int _ _ _ _ rfl h0 (K.cell (K.below hB q2.out) 2 _ rfl) (hK _ _ rfl (Below.refl _ _))
    | 5, _, ho =>
      obtain rfl := Option.some.inj ho
      have h0 : a'.eval (.tmp 19) = .int .i64 dport := (owns_of hnd 4 19 (by kernel_rfl) :)
      refine u_p16S _ _ _ rfl h0 (Calls.mono (put16S _ v) ?_)
      rintro e' v' ⟨X, y, rfl, o6, b6⟩
      exact ⟨_, rfl, hK _ _ ⟨X, y, rfl, own_base o6 (by have := hB.size; simp at this; omega)⟩ b6⟩
    | j + 6, hj, _ => omega
  · intro f v hf hB
    have e0 : f 0 = (.pointer (some ⟨w.heap.size, 1, none⟩)) := hf (0, 15) (by decide)
    have e1 : f 1 = (.int .i64 sport) := hf (1, 16) (by decide)
    obtain ⟨X17, y17, e2, r2⟩ := hf (2, 17) (by decide)
    have R17 := Lib.hid r2
    clear r2
    have e3 : f 3 = (.pointer (some ⟨w.heap.size, 2, none⟩)) := hf (3, 18) (by decide)
    have e4 : f 4 = (.int .i64 dport) := hf (4, 19) (by decide)
    obtain ⟨X20, y20, e5, r5⟩ := hf (5, 20) (by decide)
    have R20 := Lib.hid r5
    clear r5
    simp only [List.foldl_cons, List.foldl_nil, List.drop_succ_cons, List.drop_zero, e0, e1, e2, e3, e4, e5]
    clear e0 e1 e2 e3 e4 e5 hf
    go_simp
    have BA : Hid (Bd (w.alloc (.cells #[.int .i64 1, .int .i64 sport, .int .i64 dport, .int .i64 seq, .int .i64 ack, .int .i64 bits, .int .i64 window, .int .i64 urgent, .int .i64 ty, .int .i64 code, .int .i64 rest, .bool nosum, .slice A n c, .slice D m d] 36)) (w.heap.size + 1) v X17 2 y17 (put16 sport)) := Lib.hid ⟨R17.out, ((Below.refl _ _).alloc (by simp) _).trans (hB.mono (by simp)), by have := hB.size; simp at this; omega, rfl⟩
    clear hB
    refine wpList_append_bd rfl BA.out (.tmp 17) (.tmp 20) rfl rfl _ _ 2 _ (put16 dport) rfl rfl (RB.of_own R20.out) (by omega) 4 (by omega) ?_
    intro A_BB c_BB w_BB bd_BB
    have BB := Lib.hid bd_BB
    clear bd_BB
    have k0 := K.cell (BB.out.row q.out (by omega)) 0 _ rfl
    clear R17 R20 BA q2
    go_wp2_with fail
    refine wp_region_apps (by kernel_rfl) 8 96 [(0, 26), (1, 27), (2, 28), (3, 29), (4, 30), (5, 31), (6, 32), (7, 33)] _ ([.val (.slice A_BB 4 c_BB), .val (.pointer (some ⟨w.heap.size, 3, none⟩)), .val (.int .i64 seq), .own w_BB.heap.size 4 (put32 seq), .any, .val (.pointer (some ⟨w.heap.size, 4, none⟩)), .val (.int .i64 ack), .own w_BB.heap.size 4 (put32 ack)]) (by kernel_rfl) (by kernel_rfl) rfl 4 30 (by omega) (by decide) rfl (by simp) BB.out (8) (put16 sport ++ put16 dport ++ put32 seq) (by simp [put16, put32]) ?_ ?_ ?_
    · intro j o hj hjp ho a' v K' hx hnd hB hS hK
      match j, hj, hjp, ho with
      | 0, _, _, ho =>
        obtain rfl := Option.some.inj ho
        have h0 : a'.eval (.tmp 5) = .slice A_BB 4 c_BB := (hx 5 (by decide)).trans rfl
        exact u_move _ _ rfl h0 (hK _ _ rfl (Below.refl _ _))
      | 1, _, _, ho =>
        obtain rfl := Option.some.inj ho
        have h0 : a'.eval (.tmp 2) = .pointer (some ⟨w.heap.size, 0, none⟩) := (hx 2 (by decide)).trans rfl
        exact u_fldU3 _ _ rfl h0 (hK _ _ rfl (Below.refl _ _))
      | 2, _, _, ho =>
        obtain rfl := Option.some.inj ho
        have h0 : a'.eval (.tmp 27) = .pointer (some ⟨w.heap.size, 3, none⟩) := (apps_of hnd 1 27 (by kernel_rfl) (by decide) :)
        exact u_int _ _ _ _ rfl h0 (K.cell (K.on hB (by omega) q.out) 3 _ rfl) (hK _ _ rfl (Below.refl _ _))
      | 3, _, _, ho =>
        obtain rfl := Option.some.inj ho
        have h0 : a'.eval (.tmp 28) = .int .i64 seq := (apps_of hnd 2 28 (by kernel_rfl) (by decide) :)
        refine u_p32S _ _ _ rfl h0 (Calls.mono (put32S _ v) ?_)
        rintro e' v' ⟨X, y, rfl, o6, b6⟩
        exact ⟨_, rfl, hK _ _ ⟨X, y, rfl, own_base o6 hS⟩ b6⟩
      | 4, _, hjp, _ => exact absurd rfl hjp
      | 5, _, _, ho =>
        obtain rfl := Option.some.inj ho
        have h0 : a'.eval (.tmp 2) = .pointer (some ⟨w.heap.size, 0, none⟩) := (hx 2 (by decide)).trans rfl
        exact u_fldU4 _ _ rfl h0 (hK _ _ rfl (Below.refl _ _))
      | 6, _, _, ho =>
        obtain rfl := Option.some.inj ho
        have h0 : a'.eval (.tmp 31) = .pointer (some ⟨w.heap.size, 4, none⟩) := (apps_of hnd 5 31 (by kernel_rfl) (by decide) :)
        exact u_int _ _ _ _ rfl h0 (K.cell (K.on hB (by omega) q.out) 4 _ rfl) (hK _ _ rfl (Below.refl _ _))
      | 7, _, _, ho =>
        obtain rfl := Option.some.inj ho
        have h0 : a'.eval (.tmp 32) = .int .i64 ack := (apps_of hnd 6 32 (by kernel_rfl) (by decide) :)
        refine u_p32S _ _ _ rfl h0 (Calls.mono (put32S _ v) ?_)
        rintro e' v' ⟨X, y, rfl, o6, b6⟩
        exact ⟨_, rfl, hK _ _ ⟨X, y, rfl, own_base o6 hS⟩ b6⟩
      | j + 8, hj, _, _ => omega
    · intro o ho a' v K' hx hnd hBD hS hK
      obtain rfl := Option.some.inj ho
      have h0 : a'.eval (.tmp 26) = .slice A_BB 4 c_BB := (apps_of hnd 0 26 (by kernel_rfl) (by decide) :)
      obtain ⟨P1, p1, h1, r1⟩ := (apps_of hnd 3 29 (by kernel_rfl) (by decide) :)
      exact wp_append_bd rfl hBD (.tmp 26) (.tmp 29) rfl h0 _ P1 4 p1 (put32 seq) h1 rfl (RB.of_own r1) (by omega) hK
    · intro f v A1_ c1_ hf hp BD_
      have e0 : f 0 = (.slice A_BB 4 c_BB) := hf (0, 26) (by decide) (by decide)
      have e1 : f 1 = (.pointer (some ⟨w.heap.size, 3, none⟩)) := hf (1, 27) (by decide) (by decide)
      have e2 : f 2 = (.int .i64 seq) := hf (2, 28) (by decide) (by decide)
      obtain ⟨X29, y29, e3, r3⟩ := hf (3, 29) (by decide) (by decide)
      have R29 := Lib.hid r3
      clear r3
      have e5 : f 5 = (.pointer (some ⟨w.heap.size, 4, none⟩)) := hf (5, 31) (by decide) (by decide)
      have e6 : f 6 = (.int .i64 ack) := hf (6, 32) (by decide) (by decide)
      obtain ⟨X33, y33, e7, r7⟩ := hf (7, 33) (by decide) (by decide)
      have R33 := Lib.hid r7
      clear r7
      have BD_ := Lib.hid BD_
      simp only [List.foldl_cons, List.foldl_nil, List.drop_succ_cons, List.drop_zero, hp, e0, e1, e2, e3, e5, e6, e7]
      clear hp e0 e1 e2 e3 e5 e6 e7 hf
      go_simp
      refine wpList_append_bd rfl BD_.out (.tmp 30) (.tmp 33) rfl rfl _ _ 4 _ (put32 ack) rfl rfl (RB.of_own R33.out) (by omega) 12 (by omega) ?_
      intro A_BC c_BC w_BC bd_BC
      have BC := Lib.hid bd_BC
      clear bd_BC
      have k12 := K.cell (BC.out.row q.out (by omega)) 12 _ rfl
      have k5 := K.cell (BC.out.row q.out (by omega)) 5 _ rfl
      clear R29 R33 BD_ BB
      go_wp2_with fail
      refine Calls.mono (put16S (4096 * (5 + (n : Int) / 4) + bits) _) ?_
      rintro e w_BE ⟨X_BE, y_BE, rfl, o_BE, b_BE⟩
      have BE := Lib.hid (BC.out.call b_BE)
      have S1 := Lib.hid (RB.of_own o_BE)
      clear o_BE b_BE
      clear k12 k5 BC
      go_wp2_with (at_builtin; (refine wpList_append_bd rfl BE.out (.tmp 35) (.tmp 45) rfl rfl _ _ 2 _ (put16 (4096 * (5 + (n : Int) / 4) + bits)) rfl rfl S1.out (by omega) 14 (by omega) ?_); intro A_BF c_BF w_BF bd_BF; have BF := Lib.hid bd_BF; clear bd_BF; have k6 := K.cell (BF.out.row q.out (by omega)) 6 _ rfl)
      refine Calls.mono (put16S (window) _) ?_
      rintro e w_BG ⟨X_BG, y_BG, rfl, o_BG, b_BG⟩
      have BG := Lib.hid (BF.out.call b_BG)
      have S2 := Lib.hid (RB.of_own o_BG)
      clear o_BG b_BG
      clear k6 BF BE
      go_wp2_with (at_builtin; (refine wpList_append_bd rfl BG.out (.tmp 47) (.tmp 50) rfl rfl _ _ 2 _ (put16 window) rfl rfl S2.out (by omega) 16 (by omega) ?_); intro A_BH c_BH w_BH bd_BH; have BH := Lib.hid bd_BH; clear bd_BH)
      refine Calls.mono (put16S (sum) _) ?_
      rintro e w_BI ⟨X_BI, y_BI, rfl, o_BI, b_BI⟩
      have BI := Lib.hid (BH.out.call b_BI)
      have S3 := Lib.hid (RB.of_own o_BI)
      clear o_BI b_BI
      clear BH BG
      go_wp2_with (at_builtin; (refine wpList_append_bd rfl BI.out (.tmp 51) (.tmp 53) rfl rfl _ _ 2 _ (put16 sum) rfl rfl S3.out (by omega) 18 (by omega) ?_); intro A_BJ c_BJ w_BJ bd_BJ; have BJ := Lib.hid bd_BJ; clear bd_BJ)
      clear BI S1 S2 S3
      refine wp_region_apps (by kernel_rfl) 7 96 [(0, 55), (1, 56), (2, 57), (3, 58), (4, 59), (5, 60), (6, 61)] _ ([.val (.slice A_BJ 18 c_BJ), .val (.pointer (some ⟨w.heap.size, 7, none⟩)), .val (.int .i64 urgent), .own w_BJ.heap.size 2 (put16 urgent), .any, .val (.pointer (some ⟨w.heap.size, 12, none⟩)), .val (.slice A n c)]) (by kernel_rfl) (by kernel_rfl) rfl 4 59 (by omega) (by decide) rfl (by simp) BJ.out (20) (put16 sport ++ put16 dport ++ put32 seq ++ put32 ack ++ put16 (4096 * (5 + (n : Int) / 4) + bits) ++ put16 window ++ put16 sum ++ put16 urgent) (by simp [put16, put32]) ?_ ?_ ?_
      · intro j o hj hjp ho a' v K' hx hnd hB hS hK
        match j, hj, hjp, ho with
        | 0, _, _, ho =>
          obtain rfl := Option.some.inj ho
          have h0 : a'.eval (.tmp 5) = .slice A_BJ 18 c_BJ := (hx 5 (by decide)).trans rfl
          exact u_move _ _ rfl h0 (hK _ _ rfl (Below.refl _ _))
        | 1, _, _, ho =>
          obtain rfl := Option.some.inj ho
          have h0 : a'.eval (.tmp 2) = .pointer (some ⟨w.heap.size, 0, none⟩) := (hx 2 (by decide)).trans rfl
          exact u_fldU7 _ _ rfl h0 (hK _ _ rfl (Below.refl _ _))
        | 2, _, _, ho =>
          obtain rfl := Option.some.inj ho
          have h0 : a'.eval (.tmp 56) = .pointer (some ⟨w.heap.size, 7, none⟩) := (apps_of hnd 1 56 (by kernel_rfl) (by decide) :)
          exact u_int _ _ _ _ rfl h0 (K.cell (K.on hB (by omega) q.out) 7 _ rfl) (hK _ _ rfl (Below.refl _ _))
        | 3, _, _, ho =>
          obtain rfl := Option.some.inj ho
          have h0 : a'.eval (.tmp 57) = .int .i64 urgent := (apps_of hnd 2 57 (by kernel_rfl) (by decide) :)
          refine u_p16S _ _ _ rfl h0 (Calls.mono (put16S _ v) ?_)
          rintro e' v' ⟨X, y, rfl, o6, b6⟩
          exact ⟨_, rfl, hK _ _ ⟨X, y, rfl, own_base o6 hS⟩ b6⟩
        | 4, _, hjp, _ => exact absurd rfl hjp
        | 5, _, _, ho =>
          obtain rfl := Option.some.inj ho
          have h0 : a'.eval (.tmp 2) = .pointer (some ⟨w.heap.size, 0, none⟩) := (hx 2 (by decide)).trans rfl
          exact u_fldU12 _ _ rfl h0 (hK _ _ rfl (Below.refl _ _))
        | 6, _, _, ho =>
          obtain rfl := Option.some.inj ho
          have h0 : a'.eval (.tmp 60) = .pointer (some ⟨w.heap.size, 12, none⟩) := (apps_of hnd 5 60 (by kernel_rfl) (by decide) :)
          exact u_bytes _ _ _ _ rfl h0 (K.cell (K.on hB (by omega) q.out) 12 _ rfl) (hK _ _ rfl (Below.refl _ _))
        | j + 7, hj, _, _ => omega
      · intro o ho a' v K' hx hnd hBD hS hK
        obtain rfl := Option.some.inj ho
        have h0 : a'.eval (.tmp 55) = .slice A_BJ 18 c_BJ := (apps_of hnd 0 55 (by kernel_rfl) (by decide) :)
        obtain ⟨P1, p1, h1, r1⟩ := (apps_of hnd 3 58 (by kernel_rfl) (by decide) :)
        exact wp_append_bd rfl hBD (.tmp 55) (.tmp 58) rfl h0 _ P1 2 p1 (put16 urgent) h1 rfl (RB.of_own r1) (by omega) hK
      · intro f v A1_ c1_ hf hp BD_
        have e0 : f 0 = (.slice A_BJ 18 c_BJ) := hf (0, 55) (by decide) (by decide)
        have e1 : f 1 = (.pointer (some ⟨w.heap.size, 7, none⟩)) := hf (1, 56) (by decide) (by decide)
        have e2 : f 2 = (.int .i64 urgent) := hf (2, 57) (by decide) (by decide)
        obtain ⟨X58, y58, e3, r3⟩ := hf (3, 58) (by decide) (by decide)
        have R58 := Lib.hid r3
        clear r3
        have e5 : f 5 = (.pointer (some ⟨w.heap.size, 12, none⟩)) := hf (5, 60) (by decide) (by decide)
        have e6 : f 6 = (.slice A n c) := hf (6, 61) (by decide) (by decide)
        have BD_ := Lib.hid BD_
        simp only [List.foldl_cons, List.foldl_nil, List.drop_succ_cons, List.drop_zero, hp, e0, e1, e2, e3, e5, e6]
        clear hp e0 e1 e2 e3 e5 e6 hf
        go_simp
        refine wpList_append_bd rfl BD_.out (.tmp 59) (.tmp 61) rfl rfl _ _ n _ (os) rfl HL.out (BD_.out.rb HA.out (by omega)) (by omega) (20 + n) (by omega) ?_
        intro A_BK c_BK w_BK bd_BK
        have BK := Lib.hid bd_BK
        clear bd_BK
        have k13 := K.cell (BK.out.row q.out (by omega)) 13 _ rfl
        clear R58 BD_ BJ
        go_wp2_with (at_builtin; (refine wpList_append_bd rfl BK.out (.tmp 92) (.tmp 94) rfl rfl _ _ m _ (bs) rfl HM.out (BK.out.rb HD.out (by omega)) (by omega) (20 + n + m) (by omega) ?_); intro A_BL c_BL w_BL bd_BL; have BL := Lib.hid bd_BL; clear bd_BL)
        clear k13 k0
        go_ret
        exact encOut (by simp only [tcpH, HL.out]) BL.out.len (BL.out.out HE.out (by omega))

end Go.Proofs.Ythogonpjkngpjaa

namespace Go.Proofs.Ythogonpjkngpjaa
set_option maxRecDepth 100000
open Go.RowKit

set_option maxHeartbeats 8000000 in
theorem l07B2 (sport dport seq ack bits window urgent ty code rest : Int) (nosum : Bool) (A D : Option Addr) (n c m d : Nat) (os bs : List UInt8) (sum : Int) (w : World) (hr : RB w w.heap.size A os) (hl : os.length = n) (hs : RB w w.heap.size D bs) (hm : bs.length = m) (hn : n ≤ 40) (hm2 : m ≤ 1500) : Calls Try.prog 64 #[.agg #[.int .i64 2, .int .i64 sport, .int .i64 dport, .int .i64 seq, .int .i64 ack, .int .i64 bits, .int .i64 window, .int .i64 urgent, .int .i64 ty, .int .i64 code, .int .i64 rest, .bool nosum, .slice A n c, .slice D m d], .int .i64 sum] w (EncOut (udpH (Uh.mk 2 sport dport seq ack bits window urgent ty code rest nosum) m sum ++ bs) w) := by
  have q : Hid ((w.alloc (.cells #[.int .i64 2, .int .i64 sport, .int .i64 dport, .int .i64 seq, .int .i64 ack, .int .i64 bits, .int .i64 window, .int .i64 urgent, .int .i64 ty, .int .i64 code, .int .i64 rest, .bool nosum, .slice A n c, .slice D m d] 36)).heap[w.heap.size]? = some (.cells #[.int .i64 2, .int .i64 sport, .int .i64 dport, .int .i64 seq, .int .i64 ack, .int .i64 bits, .int .i64 window, .int .i64 urgent, .int .i64 ty, .int .i64 code, .int .i64 rest, .bool nosum, .slice A n c, .slice D m d] 36)) := Lib.hid (K.new w _)
  have HA := Lib.hid ((hr.below (Joins.below_alloc1 w (.cells #[.int .i64 2, .int .i64 sport, .int .i64 dport, .int .i64 seq, .int .i64 ack, .int .i64 bits, .int .i64 window, .int .i64 urgent, .int .i64 ty, .int .i64 code, .int .i64 rest, .bool nosum, .slice A n c, .slice D m d] 36))))
  have HD := Lib.hid ((hs.below (Joins.below_alloc1 w (.cells #[.int .i64 2, .int .i64 sport, .int .i64 dport, .int .i64 seq, .int .i64 ack, .int .i64 bits, .int .i64 window, .int .i64 urgent, .int .i64 ty, .int .i64 code, .int .i64 rest, .bool nosum, .slice A n c, .slice D m d] 36))))
  have HE : Hid (Below w.heap.size w (w.alloc (.cells #[.int .i64 2, .int .i64 sport, .int .i64 dport, .int .i64 seq, .int .i64 ack, .int .i64 bits, .int .i64 window, .int .i64 urgent, .int .i64 ty, .int .i64 code, .int .i64 rest, .bool nosum, .slice A n c, .slice D m d] 36))) := Lib.hid (Joins.below_alloc1 w _)
  have HL := Lib.hid hl
  have HM := Lib.hid hm
  have hw : (w.alloc (.cells #[.int .i64 2, .int .i64 sport, .int .i64 dport, .int .i64 seq, .int .i64 ack, .int .i64 bits, .int .i64 window, .int .i64 urgent, .int .i64 ty, .int .i64 code, .int .i64 rest, .bool nosum, .slice A n c, .slice D m d] 36)).heap.size = w.heap.size + 1 := by simp
  try simp only at q HA HD HE hw
  clear hr hs hl hm
  have q2 : Hid (((w.alloc (.cells #[.int .i64 2, .int .i64 sport, .int .i64 dport, .int .i64 seq, .int .i64 ack, .int .i64 bits, .int .i64 window, .int .i64 urgent, .int .i64 ty, .int .i64 code, .int .i64 rest, .bool nosum, .slice A n c, .slice D m d] 36)).alloc (.cells #[] 5)).heap[w.heap.size]? = some (.cells #[.int .i64 2, .int .i64 sport, .int .i64 dport, .int .i64 seq, .int .i64 ack, .int .i64 bits, .int .i64 window, .int .i64 urgent, .int .i64 ty, .int .i64 code, .int .i64 rest, .bool nosum, .slice A n c, .slice D m d] 36)) := Lib.hid (K.old q.out _)
  try simp only at q2
  go_enter Try.func64, Try.ntmps64
  go_wp2_with fail
  refine wp_region_owns (by kernel_rfl) 6 96 [(0, 15), (1, 16), (2, 17), (3, 18), (4, 19), (5, 20)] _ ([.val (.pointer (some ⟨w.heap.size, 1, none⟩)), .val (.int .i64 sport), .own (w.heap.size + 1) 2 (put16 sport), .val (.pointer (some ⟨w.heap.size, 2, none⟩)), .val (.int .i64 dport), .own (w.heap.size + 1) 2 (put16 dport)]) (by kernel_rfl) (by kernel_rfl) rfl rfl ?_ ?_
  · intro j o hj ho a' v K' hx hnd hB hK
    match j, hj, ho with
    | 0, _, ho =>
      obtain rfl := Option.some.inj ho
      have h0 : a'.eval (.tmp 2) = .pointer (some ⟨w.heap.size, 0, none⟩) := (hx 2 (by decide)).trans rfl
      exact u_fldU1 _ _ rfl h0 (hK _ _ rfl (Below.refl _ _))
    | 1, _, ho =>
      obtain rfl := Option.some.inj ho
      have h0 : a'.eval (.tmp 15) = .pointer (some ⟨w.heap.size, 1, none⟩) := (owns_of hnd 0 15 (by kernel_rfl) :)
      exact u_int _ _ _ _ rfl h0 (K.cell (K.below hB q2.out) 1 _ rfl) (hK _ _ rfl (Below.refl _ _))
    | 2, _, ho =>
      obtain rfl := Option.some.inj ho
      have h0 : a'.eval (.tmp 16) = .int .i64 sport := (owns_of hnd 1 16 (by kernel_rfl) :)
      refine u_p16S _ _ _ rfl h0 (Calls.mono (put16S _ v) ?_)
      rintro e' v' ⟨X, y, rfl, o6, b6⟩
      exact ⟨_, rfl, hK _ _ ⟨X, y, rfl, own_base o6 (by have := hB.size; simp at this; omega)⟩ b6⟩
    | 3, _, ho =>
      obtain rfl := Option.some.inj ho
      have h0 : a'.eval (.tmp 2) = .pointer (some ⟨w.heap.size, 0, none⟩) := (hx 2 (by decide)).trans rfl
      exact u_fldU2 _ _ rfl h0 (hK _ _ rfl (Below.refl _ _))
    | 4, _, ho =>
      obtain rfl := Option.some.inj ho
      have h0 : a'.eval (.tmp 18) = .pointer (some ⟨w.heap.size, 2, none⟩) := (owns_of hnd 3 18 (by kernel_rfl) :)
      exact u_int _ _ _ _ rfl h0 (K.cell (K.below hB q2.out) 2 _ rfl) (hK _ _ rfl (Below.refl _ _))
    | 5, _, ho =>
      obtain rfl := Option.some.inj ho
      have h0 : a'.eval (.tmp 19) = .int .i64 dport := (owns_of hnd 4 19 (by kernel_rfl) :)
      refine u_p16S _ _ _ rfl h0 (Calls.mono (put16S _ v) ?_)
      rintro e' v' ⟨X, y, rfl, o6, b6⟩
      exact ⟨_, rfl, hK _ _ ⟨X, y, rfl, own_base o6 (by have := hB.size; simp at this; omega)⟩ b6⟩
    | j + 6, hj, _ => omega
  · intro f v hf hB
    have e0 : f 0 = (.pointer (some ⟨w.heap.size, 1, none⟩)) := hf (0, 15) (by decide)
    have e1 : f 1 = (.int .i64 sport) := hf (1, 16) (by decide)
    obtain ⟨X17, y17, e2, r2⟩ := hf (2, 17) (by decide)
    have R17 := Lib.hid r2
    clear r2
    have e3 : f 3 = (.pointer (some ⟨w.heap.size, 2, none⟩)) := hf (3, 18) (by decide)
    have e4 : f 4 = (.int .i64 dport) := hf (4, 19) (by decide)
    obtain ⟨X20, y20, e5, r5⟩ := hf (5, 20) (by decide)
    have R20 := Lib.hid r5
    clear r5
    simp only [List.foldl_cons, List.foldl_nil, List.drop_succ_cons, List.drop_zero, e0, e1, e2, e3, e4, e5]
    clear e0 e1 e2 e3 e4 e5 hf
    go_simp
    have BA : Hid (Bd (w.alloc (.cells #[.int .i64 2, .int .i64 sport, .int .i64 dport, .int .i64 seq, .int .i64 ack, .int .i64 bits, .int .i64 window, .int .i64 urgent, .int .i64 ty, .int .i64 code, .int .i64 rest, .bool nosum, .slice A n c, .slice D m d] 36)) (w.heap.size + 1) v X17 2 y17 (put16 sport)) := Lib.hid ⟨R17.out, ((Below.refl _ _).alloc (by simp) _).trans (hB.mono (by simp)), by have := hB.size; simp at this; omega, rfl⟩
    clear hB
    refine wpList_append_bd rfl BA.out (.tmp 17) (.tmp 20) rfl rfl _ _ 2 _ (put16 dport) rfl rfl (RB.of_own R20.out) (by omega) 4 (by omega) ?_
    intro A_BB c_BB w_BB bd_BB
    have BB := Lib.hid bd_BB
    clear bd_BB
    have k0 := K.cell (BB.out.row q.out (by omega)) 0 _ rfl
    clear R17 R20 BA q2
    go_wp2_with (with_reducible refine loadU rfl _ rfl w.heap.size rfl (BB.out.row q.out (by omega)) ?_)
    refine Calls.mono (specUpSize (Uh.mk 2 sport dport seq ack bits window urgent ty code rest nosum) A D n c m d _ (by omega) (by omega)) ?_
    rintro e w_BC ⟨rfl, b_BC⟩
    have BC := Lib.hid (BB.out.call b_BC)
    clear b_BC
    simp only [show Uh.size (Uh.mk 2 sport dport seq ack bits window urgent ty code rest nosum) n m = 8 + (m : Int) from rfl]
    go_wp2_with fail
    refine Calls.mono (put16S (8 + (m : Int)) _) ?_
    rintro e w_BE ⟨X_BE, y_BE, rfl, o_BE, b_BE⟩
    have BE := Lib.hid (BC.out.call b_BE)
    have S1 := Lib.hid (RB.of_own o_BE)
    clear o_BE b_BE
    clear BC BB
    go_wp2_with (at_builtin; (refine wpList_append_bd rfl BE.out (.tmp 65) (.tmp 68) rfl rfl _ _ 2 _ (put16 (8 + (m : Int))) rfl rfl S1.out (by omega) 6 (by omega) ?_); intro A_BF c_BF w_BF bd_BF; have BF := Lib.hid bd_BF; clear bd_BF)
    refine Calls.mono (put16S (sum) _) ?_
    rintro e w_BG ⟨X_BG, y_BG, rfl, o_BG, b_BG⟩
    have BG := Lib.hid (BF.out.call b_BG)
    have S2 := Lib.hid (RB.of_own o_BG)
    clear o_BG b_BG
    clear BE BF k0
    go_wp2_with (first | (at_builtin; (refine wpList_append_bd rfl BG.out (.tmp 69) (.tmp 71) rfl rfl _ _ 2 _ (put16 sum) rfl rfl S2.out (by omega) 8 (by omega) ?_); intro A_BH c_BH w_BH bd_BH; have BH := Lib.hid bd_BH; clear bd_BH; have k13 := K.cell (BH.out.row q.out (by omega)) 13 _ rfl) | (at_builtin; (refine wpList_append_bd rfl BH.out (.tmp 92) (.tmp 94) rfl rfl _ _ m _ (bs) rfl HM.out (BH.out.rb HD.out (by omega)) (by omega) (8 + m) (by omega) ?_); intro A_BL c_BL w_BL bd_BL; have BL := Lib.hid bd_BL; clear bd_BL))
    go_ret
    exact encOut (by simp only [udpH]) BL.out.len (BL.out.out HE.out (by omega))

end Go.Proofs.Ythogonpjkngpjaa
