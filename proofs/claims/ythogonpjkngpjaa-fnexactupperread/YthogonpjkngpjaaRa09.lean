/-
  The bytes of an upper layer in the model: kind 3. The program looks whether no field of an upper layer is set. The methods of the formats: the fields that the kind uses, the others alone. kindOk in the program. UpperOk in the program: kind 0. UpperOk in the program: kind 1. UpperOk in the program: kind 2. UpperOk in the program: kind 3. UpperOk in the program. UpperOk in the model: kind 0, between addresses of kind 4. UpperOk in the model: kind 0, between addresses of kind 6. UpperOk in the model: kind 1, between addresses of kind 4.
-/
import Derived.Test.YthogonpjkngpjaaRa05
import Derived.Test.YthogonpjkngpjaaRa04
namespace Go.Proofs.Ythogonpjkngpjaa
set_option maxRecDepth 100000
open Go.RowKit

set_option maxHeartbeats 8000000 in
theorem l07B3 (sport dport seq ack bits window urgent ty code rest : Int) (nosum : Bool) (A D : Option Addr) (n c m d : Nat) (os bs : List UInt8) (sum : Int) (w : World) (hr : RB w w.heap.size A os) (hl : os.length = n) (hs : RB w w.heap.size D bs) (hm : bs.length = m) (_hn : n ≤ 40) (hm2 : m ≤ 1500) (h8 : 0 ≤ ty ∧ ty ≤ 255) (h9 : 0 ≤ code ∧ code ≤ 255) : Calls Try.prog 64 #[.agg #[.int .i64 3, .int .i64 sport, .int .i64 dport, .int .i64 seq, .int .i64 ack, .int .i64 bits, .int .i64 window, .int .i64 urgent, .int .i64 ty, .int .i64 code, .int .i64 rest, .bool nosum, .slice A n c, .slice D m d], .int .i64 sum] w (EncOut (icmpH (Uh.mk 3 sport dport seq ack bits window urgent ty code rest nosum) sum ++ bs) w) := by
  have q : Hid ((w.alloc (.cells #[.int .i64 3, .int .i64 sport, .int .i64 dport, .int .i64 seq, .int .i64 ack, .int .i64 bits, .int .i64 window, .int .i64 urgent, .int .i64 ty, .int .i64 code, .int .i64 rest, .bool nosum, .slice A n c, .slice D m d] 36)).heap[w.heap.size]? = some (.cells #[.int .i64 3, .int .i64 sport, .int .i64 dport, .int .i64 seq, .int .i64 ack, .int .i64 bits, .int .i64 window, .int .i64 urgent, .int .i64 ty, .int .i64 code, .int .i64 rest, .bool nosum, .slice A n c, .slice D m d] 36)) := Lib.hid (K.new w _)
  have HA := Lib.hid ((hr.below (Joins.below_alloc1 w (.cells #[.int .i64 3, .int .i64 sport, .int .i64 dport, .int .i64 seq, .int .i64 ack, .int .i64 bits, .int .i64 window, .int .i64 urgent, .int .i64 ty, .int .i64 code, .int .i64 rest, .bool nosum, .slice A n c, .slice D m d] 36))))
  have HD := Lib.hid ((hs.below (Joins.below_alloc1 w (.cells #[.int .i64 3, .int .i64 sport, .int .i64 dport, .int .i64 seq, .int .i64 ack, .int .i64 bits, .int .i64 window, .int .i64 urgent, .int .i64 ty, .int .i64 code, .int .i64 rest, .bool nosum, .slice A n c, .slice D m d] 36))))
  have HE : Hid (Below w.heap.size w (w.alloc (.cells #[.int .i64 3, .int .i64 sport, .int .i64 dport, .int .i64 seq, .int .i64 ack, .int .i64 bits, .int .i64 window, .int .i64 urgent, .int .i64 ty, .int .i64 code, .int .i64 rest, .bool nosum, .slice A n c, .slice D m d] 36))) := Lib.hid (Joins.below_alloc1 w _)
  have HL := Lib.hid hl
  have HM := Lib.hid hm
  have hw : (w.alloc (.cells #[.int .i64 3, .int .i64 sport, .int .i64 dport, .int .i64 seq, .int .i64 ack, .int .i64 bits, .int .i64 window, .int .i64 urgent, .int .i64 ty, .int .i64 code, .int .i64 rest, .bool nosum, .slice A n c, .slice D m d] 36)).heap.size = w.heap.size + 1 := by simp
  try simp only at q HA HD HE hw
  clear hr hs hl hm
  have q2 : Hid (((w.alloc (.cells #[.int .i64 3, .int .i64 sport, .int .i64 dport, .int .i64 seq, .int .i64 ack, .int .i64 bits, .int .i64 window, .int .i64 urgent, .int .i64 ty, .int .i64 code, .int .i64 rest, .bool nosum, .slice A n c, .slice D m d] 36)).alloc (.cells #[] 5)).heap[w.heap.size]? = some (.cells #[.int .i64 3, .int .i64 sport, .int .i64 dport, .int .i64 seq, .int .i64 ack, .int .i64 bits, .int .i64 window, .int .i64 urgent, .int .i64 ty, .int .i64 code, .int .i64 rest, .bool nosum, .slice A n c, .slice D m d] 36)) := Lib.hid (K.old q.out _)
  try simp only at q2
  go_enter Try.func64, Try.ntmps64
  have BA : Hid (Bd (w.alloc (.cells #[.int .i64 3, .int .i64 sport, .int .i64 dport, .int .i64 seq, .int .i64 ack, .int .i64 bits, .int .i64 window, .int .i64 urgent, .int .i64 ty, .int .i64 code, .int .i64 rest, .bool nosum, .slice A n c, .slice D m d] 36)) (w.heap.size + 1) ((w.alloc (.cells #[.int .i64 3, .int .i64 sport, .int .i64 dport, .int .i64 seq, .int .i64 ack, .int .i64 bits, .int .i64 window, .int .i64 urgent, .int .i64 ty, .int .i64 code, .int .i64 rest, .bool nosum, .slice A n c, .slice D m d] 36)).alloc (.cells #[] 5)) (some ⟨w.heap.size + 1, 0, none⟩) 0 0 []) := Lib.hid ⟨by have h := World.ownsRow_lit (base := w.heap.size + 1) (e := 5) (size := 1) (w.alloc (.cells #[.int .i64 3, .int .i64 sport, .int .i64 dport, .int .i64 seq, .int .i64 ack, .int .i64 bits, .int .i64 window, .int .i64 urgent, .int .i64 ty, .int .i64 code, .int .i64 rest, .bool nosum, .slice A n c, .slice D m d] 36)) #[] 0 (by simp) (by decide) rfl; simpa [cellsOf] using h, (Below.refl _ _).alloc (by simp) _, by simp, rfl⟩
  have hb8 : IntKind.u8.wrap ty = ty := by rw [IntKind.wrap_u8]; omega
  have hb9 : IntKind.u8.wrap code = code := by rw [IntKind.wrap_u8]; omega
  go_wp2_with (at_builtin; (refine wpList_append_bd rfl (BA.out.call (Joins.below_alloc1 _ (.cells #[.int .u8 ty, .int .u8 code] 5))) (.tmp 75) (.tmp 82) rfl rfl _ _ 2 _ [byteOf ty, byteOf code] rfl rfl (by have h := rb_twos ((w.alloc (.cells #[.int .i64 3, .int .i64 sport, .int .i64 dport, .int .i64 seq, .int .i64 ack, .int .i64 bits, .int .i64 window, .int .i64 urgent, .int .i64 ty, .int .i64 code, .int .i64 rest, .bool nosum, .slice A n c, .slice D m d] 36)).alloc (.cells #[] 5)) ty code ⟨h8.1, by omega⟩ ⟨h9.1, by omega⟩; simpa using h) (by omega) 2 (by omega) ?_); intro A_BB c_BB w_BB bd_BB; have BB := Lib.hid bd_BB; clear bd_BB)
  clear BA q2
  refine wp_region_apps (by kernel_rfl) 7 96 [(0, 84), (1, 85), (2, 86), (3, 87), (4, 88), (5, 89), (6, 90)] _ ([.val (.slice A_BB 2 c_BB), .val (.int .i64 sum), .own w_BB.heap.size 2 (put16 sum), .any, .val (.pointer (some ⟨w.heap.size, 10, none⟩)), .val (.int .i64 rest), .own w_BB.heap.size 4 (put32 rest)]) (by kernel_rfl) (by kernel_rfl) rfl 3 87 (by omega) (by decide) rfl (by simp) BB.out (4) ([] ++ [byteOf ty, byteOf code] ++ put16 sum) (by simp [put16]) ?_ ?_ ?_
  · intro j o hj hjp ho a' v K' hx hnd hB hS hK
    match j, hj, hjp, ho with
    | 0, _, _, ho =>
      obtain rfl := Option.some.inj ho
      have h0 : a'.eval (.tmp 5) = .slice A_BB 2 c_BB := (hx 5 (by decide)).trans rfl
      exact u_move _ _ rfl h0 (hK _ _ rfl (Below.refl _ _))
    | 1, _, _, ho =>
      obtain rfl := Option.some.inj ho
      have h0 : a'.eval (.tmp 1) = .int .i64 sum := (hx 1 (by decide)).trans rfl
      exact u_move _ _ rfl h0 (hK _ _ rfl (Below.refl _ _))
    | 2, _, _, ho =>
      obtain rfl := Option.some.inj ho
      have h0 : a'.eval (.tmp 85) = .int .i64 sum := (apps_of hnd 1 85 (by kernel_rfl) (by decide) :)
      refine u_p16S _ _ _ rfl h0 (Calls.mono (put16S _ v) ?_)
      rintro e' v' ⟨X, y, rfl, o6, b6⟩
      exact ⟨_, rfl, hK _ _ ⟨X, y, rfl, own_base o6 hS⟩ b6⟩
    | 3, _, hjp, _ => exact absurd rfl hjp
    | 4, _, _, ho =>
      obtain rfl := Option.some.inj ho
      have h0 : a'.eval (.tmp 2) = .pointer (some ⟨w.heap.size, 0, none⟩) := (hx 2 (by decide)).trans rfl
      exact u_fldU10 _ _ rfl h0 (hK _ _ rfl (Below.refl _ _))
    | 5, _, _, ho =>
      obtain rfl := Option.some.inj ho
      have h0 : a'.eval (.tmp 88) = .pointer (some ⟨w.heap.size, 10, none⟩) := (apps_of hnd 4 88 (by kernel_rfl) (by decide) :)
      exact u_int _ _ _ _ rfl h0 (K.cell (K.on hB (by omega) q.out) 10 _ rfl) (hK _ _ rfl (Below.refl _ _))
    | 6, _, _, ho =>
      obtain rfl := Option.some.inj ho
      have h0 : a'.eval (.tmp 89) = .int .i64 rest := (apps_of hnd 5 89 (by kernel_rfl) (by decide) :)
      refine u_p32S _ _ _ rfl h0 (Calls.mono (put32S _ v) ?_)
      rintro e' v' ⟨X, y, rfl, o6, b6⟩
      exact ⟨_, rfl, hK _ _ ⟨X, y, rfl, own_base o6 hS⟩ b6⟩
    | j + 7, hj, _, _ => omega
  · intro o ho a' v K' hx hnd hBD hS hK
    obtain rfl := Option.some.inj ho
    have h0 : a'.eval (.tmp 84) = .slice A_BB 2 c_BB := (apps_of hnd 0 84 (by kernel_rfl) (by decide) :)
    obtain ⟨P1, p1, h1, r1⟩ := (apps_of hnd 2 86 (by kernel_rfl) (by decide) :)
    exact wp_append_bd rfl hBD (.tmp 84) (.tmp 86) rfl h0 _ P1 2 p1 (put16 sum) h1 rfl (RB.of_own r1) (by omega) hK
  · intro f v A1_ c1_ hf hp BD_
    have e0 : f 0 = (.slice A_BB 2 c_BB) := hf (0, 84) (by decide) (by decide)
    have e1 : f 1 = (.int .i64 sum) := hf (1, 85) (by decide) (by decide)
    obtain ⟨X86, y86, e2, r2⟩ := hf (2, 86) (by decide) (by decide)
    have R86 := Lib.hid r2
    clear r2
    have e4 : f 4 = (.pointer (some ⟨w.heap.size, 10, none⟩)) := hf (4, 88) (by decide) (by decide)
    have e5 : f 5 = (.int .i64 rest) := hf (5, 89) (by decide) (by decide)
    obtain ⟨X90, y90, e6, r6⟩ := hf (6, 90) (by decide) (by decide)
    have R90 := Lib.hid r6
    clear r6
    have BD_ := Lib.hid BD_
    simp only [List.foldl_cons, List.foldl_nil, List.drop_succ_cons, List.drop_zero, hp, e0, e1, e2, e4, e5, e6]
    clear hp e0 e1 e2 e4 e5 e6 hf
    go_simp
    refine wpList_append_bd rfl BD_.out (.tmp 87) (.tmp 90) rfl rfl _ _ 4 _ (put32 rest) rfl rfl (RB.of_own R90.out) (by omega) 8 (by omega) ?_
    intro A_BC c_BC w_BC bd_BC
    have BC := Lib.hid bd_BC
    clear bd_BC
    have k13 := K.cell (BC.out.row q.out (by omega)) 13 _ rfl
    clear R86 R90 BD_ BB
    go_wp2_with (at_builtin; (refine wpList_append_bd rfl BC.out (.tmp 92) (.tmp 94) rfl rfl _ _ m _ (bs) rfl HM.out (BC.out.rb HD.out (by omega)) (by omega) (8 + m) (by omega) ?_); intro A_BL c_BL w_BL bd_BL; have BL := Lib.hid bd_BL; clear bd_BL)
    go_ret
    exact encOut (by simp [icmpH]) BL.out.len (BL.out.out HE.out (by omega))

end Go.Proofs.Ythogonpjkngpjaa

namespace Go.Proofs.Ythogonpjkngpjaa
set_option maxRecDepth 100000
open Go.RowKit

set_option maxHeartbeats 4000000 in
theorem noFC0 (kind sport dport seq ack bits window urgent ty code rest : Int) (nosum : Bool) (A D : Option Addr) (n c m d : Nat) (w : World) : Calls Try.prog 101 #[.agg #[.int .i64 kind, .int .i64 sport, .int .i64 dport, .int .i64 seq, .int .i64 ack, .int .i64 bits, .int .i64 window, .int .i64 urgent, .int .i64 ty, .int .i64 code, .int .i64 rest, .bool nosum, .slice A n c, .slice D m d]] w fun e w' => e = .returned (.bool (noF (Uh.mk kind sport dport seq ack bits window urgent ty code rest nosum) n)) ∧ Below w.heap.size w w' := by
  try simp only
  by_cases z_sport : sport = 0
  case neg =>
    go_enter Try.func101, Try.ntmps101
    go_wp2
    go_ret
    exact ⟨ret_bool (by simp [noF, *]), Joins.below_alloc1 w _⟩
  case pos =>
    subst z_sport
    by_cases z_dport : dport = 0
    case neg =>
      go_enter Try.func101, Try.ntmps101
      go_wp2
      go_ret
      exact ⟨ret_bool (by simp [noF, *]), Joins.below_alloc1 w _⟩
    case pos =>
      subst z_dport
      by_cases z_seq : seq = 0
      case neg =>
        go_enter Try.func101, Try.ntmps101
        go_wp2
        go_ret
        exact ⟨ret_bool (by simp [noF, *]), Joins.below_alloc1 w _⟩
      case pos =>
        subst z_seq
        by_cases z_ack : ack = 0
        case neg =>
          go_enter Try.func101, Try.ntmps101
          go_wp2
          go_ret
          exact ⟨ret_bool (by simp [noF, *]), Joins.below_alloc1 w _⟩
        case pos =>
          subst z_ack
          by_cases z_bits : bits = 0
          case neg =>
            go_enter Try.func101, Try.ntmps101
            go_wp2
            go_ret
            exact ⟨ret_bool (by simp [noF, *]), Joins.below_alloc1 w _⟩
          case pos =>
            subst z_bits
            by_cases z_window : window = 0
            case neg =>
              go_enter Try.func101, Try.ntmps101
              go_wp2
              go_ret
              exact ⟨ret_bool (by simp [noF, *]), Joins.below_alloc1 w _⟩
            case pos =>
              subst z_window
              by_cases z_urgent : urgent = 0
              case neg =>
                go_enter Try.func101, Try.ntmps101
                go_wp2
                go_ret
                exact ⟨ret_bool (by simp [noF, *]), Joins.below_alloc1 w _⟩
              case pos =>
                subst z_urgent
                by_cases z_ty : ty = 0
                case neg =>
                  go_enter Try.func101, Try.ntmps101
                  go_wp2
                  go_ret
                  exact ⟨ret_bool (by simp [noF, *]), Joins.below_alloc1 w _⟩
                case pos =>
                  subst z_ty
                  by_cases z_code : code = 0
                  case neg =>
                    go_enter Try.func101, Try.ntmps101
                    go_wp2
                    go_ret
                    exact ⟨ret_bool (by simp [noF, *]), Joins.below_alloc1 w _⟩
                  case pos =>
                    subst z_code
                    by_cases z_rest : rest = 0
                    case neg =>
                      go_enter Try.func101, Try.ntmps101
                      go_wp2
                      go_ret
                      exact ⟨ret_bool (by simp [noF, *]), Joins.below_alloc1 w _⟩
                    case pos =>
                      subst z_rest
                      cases nosum with
                      | true =>
                        go_enter Try.func101, Try.ntmps101
                        go_wp2
                        go_ret
                        exact ⟨ret_bool (by simp [noF, *]), Joins.below_alloc1 w _⟩
                      | false =>
                        by_cases z_n : n = 0
                        case neg =>
                          have z_m : ¬ (n : Int) = 0 := by omega
                          go_enter Try.func101, Try.ntmps101
                          go_wp2
                          go_ret
                          exact ⟨ret_bool (by simp [noF, *]), Joins.below_alloc1 w _⟩
                        case pos =>
                          subst z_n
                          go_enter Try.func101, Try.ntmps101
                          go_wp2
                          go_ret
                          exact ⟨ret_bool (by simp [noF, *]), Joins.below_alloc1 w _⟩

theorem noFC (x : Uh) (A D : Option Addr) (n c m d : Nat) (w : World) : Calls Try.prog 101 #[.agg #[.int .i64 x.kind, .int .i64 x.sport, .int .i64 x.dport, .int .i64 x.seq, .int .i64 x.ack, .int .i64 x.bits, .int .i64 x.window, .int .i64 x.urgent, .int .i64 x.ty, .int .i64 x.code, .int .i64 x.rest, .bool x.nosum, .slice A n c, .slice D m d]] w fun e w' => e = .returned (.bool (noF x n)) ∧ Below w.heap.size w w' := noFC0 x.kind x.sport x.dport x.seq x.ack x.bits x.window x.urgent x.ty x.code x.rest x.nosum A D n c m d w

end Go.Proofs.Ythogonpjkngpjaa

namespace Go.Proofs.Ythogonpjkngpjaa
set_option maxRecDepth 100000
open Go.RowKit

theorem partOkB (n : Int) (b : Bool) (w : World) (h : half n = b) : Calls Try.prog 120 #[.int .i64 n] w fun e w' => e = .returned (.bool b) ∧ w = w' := h ▸ partOkC n w
theorem withinW (n hi : Int) (b : Bool) (w : World) (h : upTo n hi = b) : Calls Try.prog 42 #[.int .i64 n, .int .i64 0, .int .i64 hi] w fun e w' => e = .returned (.bool b) ∧ w = w' := by
  cases b
  · exact within_no n 0 hi w (by simp [upTo] at h; omega)
  · simp [upTo] at h
    exact within_yes n 0 hi w h.1 h.2
set_option maxHeartbeats 400000 in
theorem optW (A : Option Addr) (n c : Nat) (b : Bool) (w : World) (h : optOk n = b) : Calls Try.prog 149 #[.slice A n c] w fun e w' => e = .returned (.bool b) ∧ w = w' := by
  subst h
  by_cases h1 : n ≤ 40
  · have h2 : (n : Int) ≤ 40 := by omega
    by_cases h3 : n % 4 = 0
    · have h4 : (n : Int) % 4 = 0 := by omega
      go_enter Try.func149, Try.ntmps149
      go_wp2
      go_ret
      exact ⟨ret_bool (by simp [optOk, *]), rfl⟩
    · have h4 : ¬ (n : Int) % 4 = 0 := by omega
      go_enter Try.func149, Try.ntmps149
      go_wp2
      go_ret
      exact ⟨ret_bool (by simp [optOk, *]), rfl⟩
  · have h2 : (40 : Int) < n := by omega
    go_enter Try.func149, Try.ntmps149
    go_wp2
    go_ret
    exact ⟨ret_bool (by simp [optOk, h1]), rfl⟩
set_option maxHeartbeats 4000000 in
theorem tcpF0 (kind sport dport seq ack bits window urgent ty code rest : Int) (nosum : Bool) (A D : Option Addr) (n c m d : Nat) (w : World) (k : Int) : Calls Try.prog 147 #[.agg #[.int .i64 kind, .int .i64 sport, .int .i64 dport, .int .i64 seq, .int .i64 ack, .int .i64 bits, .int .i64 window, .int .i64 urgent, .int .i64 ty, .int .i64 code, .int .i64 rest, .bool nosum, .slice A n c, .slice D m d], .int .i64 k] w fun e w' => e = .returned (.bool (upTo (Uh.sport (Uh.mk kind sport dport seq ack bits window urgent ty code rest nosum)) 65535 && upTo (Uh.dport (Uh.mk kind sport dport seq ack bits window urgent ty code rest nosum)) 65535 && half (Uh.seq (Uh.mk kind sport dport seq ack bits window urgent ty code rest nosum)) && half (Uh.ack (Uh.mk kind sport dport seq ack bits window urgent ty code rest nosum)) && upTo (Uh.bits (Uh.mk kind sport dport seq ack bits window urgent ty code rest nosum)) 4095 && upTo (Uh.window (Uh.mk kind sport dport seq ack bits window urgent ty code rest nosum)) 65535 && upTo (Uh.urgent (Uh.mk kind sport dport seq ack bits window urgent ty code rest nosum)) 65535 && optOk n)) ∧ Below w.heap.size w w' := by
  simp only
  cases u1 : upTo sport 65535 with
  | false =>
    have U1 := Lib.hid u1
    clear u1
    go_enter Try.func147, Try.ntmps147
    go_wp2_with (first | (go_at_call 42; (first | (with_reducible refine (withinW sport 65535 false _ U1.out).mono ?_)); rintro e w1 ⟨rfl, rfl⟩))
    go_ret
    exact ⟨ret_bool (by simp [*]), Joins.below_alloc1 w _⟩
  | true =>
    have U1 := Lib.hid u1
    clear u1
    cases u2 : upTo dport 65535 with
    | false =>
      have U2 := Lib.hid u2
      clear u2
      go_enter Try.func147, Try.ntmps147
      go_wp2_with (first | (go_at_call 42; (first | (with_reducible refine (withinW sport 65535 true _ U1.out).mono ?_) | (with_reducible refine (withinW dport 65535 false _ U2.out).mono ?_)); rintro e w1 ⟨rfl, rfl⟩))
      go_ret
      exact ⟨ret_bool (by simp [*]), Joins.below_alloc1 w _⟩
    | true =>
      have U2 := Lib.hid u2
      clear u2
      cases u3 : half seq with
      | false =>
        have U3 := Lib.hid u3
        clear u3
        go_enter Try.func147, Try.ntmps147
        go_wp2_with (first | (go_at_call 42; (first | (with_reducible refine (withinW sport 65535 true _ U1.out).mono ?_) | (with_reducible refine (withinW dport 65535 true _ U2.out).mono ?_)); rintro e w1 ⟨rfl, rfl⟩) | (go_at_call 120; (first | (with_reducible refine (partOkB seq false _ U3.out).mono ?_)); rintro e w1 ⟨rfl, rfl⟩))
        go_ret
        exact ⟨ret_bool (by simp [*]), Joins.below_alloc1 w _⟩
      | true =>
        have U3 := Lib.hid u3
        clear u3
        cases u4 : half ack with
        | false =>
          have U4 := Lib.hid u4
          clear u4
          go_enter Try.func147, Try.ntmps147
          go_wp2_with (first | (go_at_call 42; (first | (with_reducible refine (withinW sport 65535 true _ U1.out).mono ?_) | (with_reducible refine (withinW dport 65535 true _ U2.out).mono ?_)); rintro e w1 ⟨rfl, rfl⟩) | (go_at_call 120; (first | (with_reducible refine (partOkB seq true _ U3.out).mono ?_) | (with_reducible refine (partOkB ack false _ U4.out).mono ?_)); rintro e w1 ⟨rfl, rfl⟩))
          go_ret
          exact ⟨ret_bool (by simp [*]), Joins.below_alloc1 w _⟩
        | true =>
          have U4 := Lib.hid u4
          clear u4
          cases u5 : upTo bits 4095 with
          | false =>
            have U5 := Lib.hid u5
            clear u5
            go_enter Try.func147, Try.ntmps147
            go_wp2_with (first | (go_at_call 42; (first | (with_reducible refine (withinW sport 65535 true _ U1.out).mono ?_) | (with_reducible refine (withinW dport 65535 true _ U2.out).mono ?_) | (with_reducible refine (withinW bits 4095 false _ U5.out).mono ?_)); rintro e w1 ⟨rfl, rfl⟩) | (go_at_call 120; (first | (with_reducible refine (partOkB seq true _ U3.out).mono ?_) | (with_reducible refine (partOkB ack true _ U4.out).mono ?_)); rintro e w1 ⟨rfl, rfl⟩))
            go_ret
            exact ⟨ret_bool (by simp [*]), Joins.below_alloc1 w _⟩
          | true =>
            have U5 := Lib.hid u5
            clear u5
            cases u6 : upTo window 65535 with
            | false =>
              have U6 := Lib.hid u6
              clear u6
              go_enter Try.func147, Try.ntmps147
              go_wp2_with (first | (go_at_call 42; (first | (with_reducible refine (withinW sport 65535 true _ U1.out).mono ?_) | (with_reducible refine (withinW dport 65535 true _ U2.out).mono ?_) | (with_reducible refine (withinW bits 4095 true _ U5.out).mono ?_) | (with_reducible refine (withinW window 65535 false _ U6.out).mono ?_)); rintro e w1 ⟨rfl, rfl⟩) | (go_at_call 120; (first | (with_reducible refine (partOkB seq true _ U3.out).mono ?_) | (with_reducible refine (partOkB ack true _ U4.out).mono ?_)); rintro e w1 ⟨rfl, rfl⟩))
              go_ret
              exact ⟨ret_bool (by simp [*]), Joins.below_alloc1 w _⟩
            | true =>
              have U6 := Lib.hid u6
              clear u6
              cases u7 : upTo urgent 65535 with
              | false =>
                have U7 := Lib.hid u7
                clear u7
                go_enter Try.func147, Try.ntmps147
                go_wp2_with (first | (go_at_call 42; (first | (with_reducible refine (withinW sport 65535 true _ U1.out).mono ?_) | (with_reducible refine (withinW dport 65535 true _ U2.out).mono ?_) | (with_reducible refine (withinW bits 4095 true _ U5.out).mono ?_) | (with_reducible refine (withinW window 65535 true _ U6.out).mono ?_) | (with_reducible refine (withinW urgent 65535 false _ U7.out).mono ?_)); rintro e w1 ⟨rfl, rfl⟩) | (go_at_call 120; (first | (with_reducible refine (partOkB seq true _ U3.out).mono ?_) | (with_reducible refine (partOkB ack true _ U4.out).mono ?_)); rintro e w1 ⟨rfl, rfl⟩))
                go_ret
                exact ⟨ret_bool (by simp [*]), Joins.below_alloc1 w _⟩
              | true =>
                have U7 := Lib.hid u7
                clear u7
                cases uo : optOk n with
                | false =>
                  have UO := Lib.hid uo
                  clear uo
                  go_enter Try.func147, Try.ntmps147
                  go_wp2_with (first | (go_at_call 42; (first | (with_reducible refine (withinW sport 65535 true _ U1.out).mono ?_) | (with_reducible refine (withinW dport 65535 true _ U2.out).mono ?_) | (with_reducible refine (withinW bits 4095 true _ U5.out).mono ?_) | (with_reducible refine (withinW window 65535 true _ U6.out).mono ?_) | (with_reducible refine (withinW urgent 65535 true _ U7.out).mono ?_)); rintro e w1 ⟨rfl, rfl⟩) | (go_at_call 120; (first | (with_reducible refine (partOkB seq true _ U3.out).mono ?_) | (with_reducible refine (partOkB ack true _ U4.out).mono ?_)); rintro e w1 ⟨rfl, rfl⟩) | (go_at_call 149; refine (optW A n c false _ UO.out).mono ?_; rintro e w1 ⟨rfl, rfl⟩))
                  go_ret
                  exact ⟨ret_bool (by simp [*]), Joins.below_alloc1 w _⟩
                | true =>
                  have UO := Lib.hid uo
                  clear uo
                  go_enter Try.func147, Try.ntmps147
                  go_wp2_with (first | (go_at_call 42; (first | (with_reducible refine (withinW sport 65535 true _ U1.out).mono ?_) | (with_reducible refine (withinW dport 65535 true _ U2.out).mono ?_) | (with_reducible refine (withinW bits 4095 true _ U5.out).mono ?_) | (with_reducible refine (withinW window 65535 true _ U6.out).mono ?_) | (with_reducible refine (withinW urgent 65535 true _ U7.out).mono ?_)); rintro e w1 ⟨rfl, rfl⟩) | (go_at_call 120; (first | (with_reducible refine (partOkB seq true _ U3.out).mono ?_) | (with_reducible refine (partOkB ack true _ U4.out).mono ?_)); rintro e w1 ⟨rfl, rfl⟩) | (go_at_call 149; refine (optW A n c true _ UO.out).mono ?_; rintro e w1 ⟨rfl, rfl⟩))
                  go_ret
                  exact ⟨ret_bool (by simp [*]), Joins.below_alloc1 w _⟩

theorem tcpF (x : Uh) (A D : Option Addr) (n c m d : Nat) (w : World) (k : Int) : Calls Try.prog 147 #[.agg #[.int .i64 x.kind, .int .i64 x.sport, .int .i64 x.dport, .int .i64 x.seq, .int .i64 x.ack, .int .i64 x.bits, .int .i64 x.window, .int .i64 x.urgent, .int .i64 x.ty, .int .i64 x.code, .int .i64 x.rest, .bool x.nosum, .slice A n c, .slice D m d], .int .i64 k] w fun e w' => e = .returned (.bool (upTo (Uh.sport x) 65535 && upTo (Uh.dport x) 65535 && half (Uh.seq x) && half (Uh.ack x) && upTo (Uh.bits x) 4095 && upTo (Uh.window x) 65535 && upTo (Uh.urgent x) 65535 && optOk n)) ∧ Below w.heap.size w w' := tcpF0 x.kind x.sport x.dport x.seq x.ack x.bits x.window x.urgent x.ty x.code x.rest x.nosum A D n c m d w k

set_option maxHeartbeats 4000000 in
theorem udpF0 (kind sport dport seq ack bits window urgent ty code rest : Int) (nosum : Bool) (A D : Option Addr) (n c m d : Nat) (w : World) (k : Int) : Calls Try.prog 150 #[.agg #[.int .i64 kind, .int .i64 sport, .int .i64 dport, .int .i64 seq, .int .i64 ack, .int .i64 bits, .int .i64 window, .int .i64 urgent, .int .i64 ty, .int .i64 code, .int .i64 rest, .bool nosum, .slice A n c, .slice D m d], .int .i64 k] w fun e w' => e = .returned (.bool (upTo (Uh.sport (Uh.mk kind sport dport seq ack bits window urgent ty code rest nosum)) 65535 && upTo (Uh.dport (Uh.mk kind sport dport seq ack bits window urgent ty code rest nosum)) 65535 && ((k == 4) || !(Uh.nosum (Uh.mk kind sport dport seq ack bits window urgent ty code rest nosum))))) ∧ Below w.heap.size w w' := by
  simp only
  cases u1 : upTo sport 65535 with
  | false =>
    have U1 := Lib.hid u1
    clear u1
    go_enter Try.func150, Try.ntmps150
    go_wp2_with (first | (go_at_call 42; (first | (with_reducible refine (withinW sport 65535 false _ U1.out).mono ?_)); rintro e w1 ⟨rfl, rfl⟩))
    go_ret
    exact ⟨ret_bool (by simp [*]), Joins.below_alloc1 w _⟩
  | true =>
    have U1 := Lib.hid u1
    clear u1
    cases u2 : upTo dport 65535 with
    | false =>
      have U2 := Lib.hid u2
      clear u2
      go_enter Try.func150, Try.ntmps150
      go_wp2_with (first | (go_at_call 42; (first | (with_reducible refine (withinW sport 65535 true _ U1.out).mono ?_) | (with_reducible refine (withinW dport 65535 false _ U2.out).mono ?_)); rintro e w1 ⟨rfl, rfl⟩))
      go_ret
      exact ⟨ret_bool (by simp [*]), Joins.below_alloc1 w _⟩
    | true =>
      have U2 := Lib.hid u2
      clear u2
      cases nosum with
      | true =>
        by_cases z_k : k = 4
        case pos =>
          go_enter Try.func150, Try.ntmps150
          go_wp2_with (first | (go_at_call 42; (first | (with_reducible refine (withinW sport 65535 true _ U1.out).mono ?_) | (with_reducible refine (withinW dport 65535 true _ U2.out).mono ?_)); rintro e w1 ⟨rfl, rfl⟩))
          go_ret
          exact ⟨ret_bool (by simp [*]), Joins.below_alloc1 w _⟩
        case neg =>
          go_enter Try.func150, Try.ntmps150
          go_wp2_with (first | (go_at_call 42; (first | (with_reducible refine (withinW sport 65535 true _ U1.out).mono ?_) | (with_reducible refine (withinW dport 65535 true _ U2.out).mono ?_)); rintro e w1 ⟨rfl, rfl⟩))
          go_ret
          exact ⟨ret_bool (by simp [*]), Joins.below_alloc1 w _⟩
      | false =>
        by_cases z_k : k = 4
        case pos =>
          go_enter Try.func150, Try.ntmps150
          go_wp2_with (first | (go_at_call 42; (first | (with_reducible refine (withinW sport 65535 true _ U1.out).mono ?_) | (with_reducible refine (withinW dport 65535 true _ U2.out).mono ?_)); rintro e w1 ⟨rfl, rfl⟩))
          go_ret
          exact ⟨ret_bool (by simp [*]), Joins.below_alloc1 w _⟩
        case neg =>
          go_enter Try.func150, Try.ntmps150
          go_wp2_with (first | (go_at_call 42; (first | (with_reducible refine (withinW sport 65535 true _ U1.out).mono ?_) | (with_reducible refine (withinW dport 65535 true _ U2.out).mono ?_)); rintro e w1 ⟨rfl, rfl⟩))
          go_ret
          exact ⟨ret_bool (by simp [*]), Joins.below_alloc1 w _⟩

theorem udpF (x : Uh) (A D : Option Addr) (n c m d : Nat) (w : World) (k : Int) : Calls Try.prog 150 #[.agg #[.int .i64 x.kind, .int .i64 x.sport, .int .i64 x.dport, .int .i64 x.seq, .int .i64 x.ack, .int .i64 x.bits, .int .i64 x.window, .int .i64 x.urgent, .int .i64 x.ty, .int .i64 x.code, .int .i64 x.rest, .bool x.nosum, .slice A n c, .slice D m d], .int .i64 k] w fun e w' => e = .returned (.bool (upTo (Uh.sport x) 65535 && upTo (Uh.dport x) 65535 && ((k == 4) || !(Uh.nosum x)))) ∧ Below w.heap.size w w' := udpF0 x.kind x.sport x.dport x.seq x.ack x.bits x.window x.urgent x.ty x.code x.rest x.nosum A D n c m d w k

set_option maxHeartbeats 4000000 in
theorem icmpF0 (kind sport dport seq ack bits window urgent ty code rest : Int) (nosum : Bool) (A D : Option Addr) (n c m d : Nat) (w : World) (k : Int) : Calls Try.prog 153 #[.agg #[.int .i64 kind, .int .i64 sport, .int .i64 dport, .int .i64 seq, .int .i64 ack, .int .i64 bits, .int .i64 window, .int .i64 urgent, .int .i64 ty, .int .i64 code, .int .i64 rest, .bool nosum, .slice A n c, .slice D m d], .int .i64 k] w fun e w' => e = .returned (.bool (upTo (Uh.ty (Uh.mk kind sport dport seq ack bits window urgent ty code rest nosum)) 255 && upTo (Uh.code (Uh.mk kind sport dport seq ack bits window urgent ty code rest nosum)) 255 && half (Uh.rest (Uh.mk kind sport dport seq ack bits window urgent ty code rest nosum)))) ∧ Below w.heap.size w w' := by
  simp only
  cases u1 : upTo ty 255 with
  | false =>
    have U1 := Lib.hid u1
    clear u1
    go_enter Try.func153, Try.ntmps153
    go_wp2_with (first | (go_at_call 42; (first | (with_reducible refine (withinW ty 255 false _ U1.out).mono ?_)); rintro e w1 ⟨rfl, rfl⟩))
    go_ret
    exact ⟨ret_bool (by simp [*]), Joins.below_alloc1 w _⟩
  | true =>
    have U1 := Lib.hid u1
    clear u1
    cases u2 : upTo code 255 with
    | false =>
      have U2 := Lib.hid u2
      clear u2
      go_enter Try.func153, Try.ntmps153
      go_wp2_with (first | (go_at_call 42; (first | (with_reducible refine (withinW ty 255 true _ U1.out).mono ?_) | (with_reducible refine (withinW code 255 false _ U2.out).mono ?_)); rintro e w1 ⟨rfl, rfl⟩))
      go_ret
      exact ⟨ret_bool (by simp [*]), Joins.below_alloc1 w _⟩
    | true =>
      have U2 := Lib.hid u2
      clear u2
      cases u3 : half rest with
      | false =>
        have U3 := Lib.hid u3
        clear u3
        go_enter Try.func153, Try.ntmps153
        go_wp2_with (first | (go_at_call 42; (first | (with_reducible refine (withinW ty 255 true _ U1.out).mono ?_) | (with_reducible refine (withinW code 255 true _ U2.out).mono ?_)); rintro e w1 ⟨rfl, rfl⟩) | (go_at_call 120; (first | (with_reducible refine (partOkB rest false _ U3.out).mono ?_)); rintro e w1 ⟨rfl, rfl⟩))
        go_ret
        exact ⟨ret_bool (by simp [*]), Joins.below_alloc1 w _⟩
      | true =>
        have U3 := Lib.hid u3
        clear u3
        go_enter Try.func153, Try.ntmps153
        go_wp2_with (first | (go_at_call 42; (first | (with_reducible refine (withinW ty 255 true _ U1.out).mono ?_) | (with_reducible refine (withinW code 255 true _ U2.out).mono ?_)); rintro e w1 ⟨rfl, rfl⟩) | (go_at_call 120; (first | (with_reducible refine (partOkB rest true _ U3.out).mono ?_)); rintro e w1 ⟨rfl, rfl⟩))
        go_ret
        exact ⟨ret_bool (by simp [*]), Joins.below_alloc1 w _⟩

theorem icmpF (x : Uh) (A D : Option Addr) (n c m d : Nat) (w : World) (k : Int) : Calls Try.prog 153 #[.agg #[.int .i64 x.kind, .int .i64 x.sport, .int .i64 x.dport, .int .i64 x.seq, .int .i64 x.ack, .int .i64 x.bits, .int .i64 x.window, .int .i64 x.urgent, .int .i64 x.ty, .int .i64 x.code, .int .i64 x.rest, .bool x.nosum, .slice A n c, .slice D m d], .int .i64 k] w fun e w' => e = .returned (.bool (upTo (Uh.ty x) 255 && upTo (Uh.code x) 255 && half (Uh.rest x))) ∧ Below w.heap.size w w' := icmpF0 x.kind x.sport x.dport x.seq x.ack x.bits x.window x.urgent x.ty x.code x.rest x.nosum A D n c m d w k

set_option maxHeartbeats 1000000 in
theorem otherF (x : Uh) (A D : Option Addr) (n c m d : Nat) (w : World) (k : Int) : Calls Try.prog 144 #[.agg #[.int .i64 x.kind, .int .i64 x.sport, .int .i64 x.dport, .int .i64 x.seq, .int .i64 x.ack, .int .i64 x.bits, .int .i64 x.window, .int .i64 x.urgent, .int .i64 x.ty, .int .i64 x.code, .int .i64 x.rest, .bool x.nosum, .slice A n c, .slice D m d], .int .i64 k] w fun e w' => e = .returned (.bool true) ∧ Below w.heap.size w w' := by
  go_enter Try.func144, Try.ntmps144
  go_wp2
  go_ret
  exact ⟨rfl, Joins.below_alloc1 w _⟩

set_option maxHeartbeats 2000000 in
theorem unused_other (x : Uh) (A D : Option Addr) (n c m d : Nat) (w : World) : Calls Try.prog 146 #[.agg #[.int .i64 x.kind, .int .i64 x.sport, .int .i64 x.dport, .int .i64 x.seq, .int .i64 x.ack, .int .i64 x.bits, .int .i64 x.window, .int .i64 x.urgent, .int .i64 x.ty, .int .i64 x.code, .int .i64 x.rest, .bool x.nosum, .slice A n c, .slice D m d]] w fun e w' => e = .returned (.agg #[.int .i64 x.kind, .int .i64 x.sport, .int .i64 x.dport, .int .i64 x.seq, .int .i64 x.ack, .int .i64 x.bits, .int .i64 x.window, .int .i64 x.urgent, .int .i64 x.ty, .int .i64 x.code, .int .i64 x.rest, .bool x.nosum, .slice A n c, .slice D m d]) ∧ Below w.heap.size w w' := by
  have q0 : Hid (((w.alloc (.cells #[.int .i64 x.kind, .int .i64 x.sport, .int .i64 x.dport, .int .i64 x.seq, .int .i64 x.ack, .int .i64 x.bits, .int .i64 x.window, .int .i64 x.urgent, .int .i64 x.ty, .int .i64 x.code, .int .i64 x.rest, .bool x.nosum, .slice A n c, .slice D m d] 109)).alloc (.cells #[.int .i64 Uh.zero.kind, .int .i64 Uh.zero.sport, .int .i64 Uh.zero.dport, .int .i64 Uh.zero.seq, .int .i64 Uh.zero.ack, .int .i64 Uh.zero.bits, .int .i64 Uh.zero.window, .int .i64 Uh.zero.urgent, .int .i64 Uh.zero.ty, .int .i64 Uh.zero.code, .int .i64 Uh.zero.rest, .bool Uh.zero.nosum, .slice none 0 0, .slice none 0 0] 36)).heap[w.heap.size]? = some (.cells #[.int .i64 x.kind, .int .i64 x.sport, .int .i64 x.dport, .int .i64 x.seq, .int .i64 x.ack, .int .i64 x.bits, .int .i64 x.window, .int .i64 x.urgent, .int .i64 x.ty, .int .i64 x.code, .int .i64 x.rest, .bool x.nosum, .slice A n c, .slice D m d] 109)) := Lib.hid (by repeat (first | exact K.newAt (by first | rfl | (simp; done)) | refine K.oldAt (by first | (simp; done) | (simp; omega)) ?_))
  have q1 : Hid (((w.alloc (.cells #[.int .i64 x.kind, .int .i64 x.sport, .int .i64 x.dport, .int .i64 x.seq, .int .i64 x.ack, .int .i64 x.bits, .int .i64 x.window, .int .i64 x.urgent, .int .i64 x.ty, .int .i64 x.code, .int .i64 x.rest, .bool x.nosum, .slice A n c, .slice D m d] 109)).alloc (.cells #[.int .i64 Uh.zero.kind, .int .i64 Uh.zero.sport, .int .i64 Uh.zero.dport, .int .i64 Uh.zero.seq, .int .i64 Uh.zero.ack, .int .i64 Uh.zero.bits, .int .i64 Uh.zero.window, .int .i64 Uh.zero.urgent, .int .i64 Uh.zero.ty, .int .i64 Uh.zero.code, .int .i64 Uh.zero.rest, .bool Uh.zero.nosum, .slice none 0 0, .slice none 0 0] 36)).heap[w.heap.size + 1]? = some (.cells #[.int .i64 Uh.zero.kind, .int .i64 Uh.zero.sport, .int .i64 Uh.zero.dport, .int .i64 Uh.zero.seq, .int .i64 Uh.zero.ack, .int .i64 Uh.zero.bits, .int .i64 Uh.zero.window, .int .i64 Uh.zero.urgent, .int .i64 Uh.zero.ty, .int .i64 Uh.zero.code, .int .i64 Uh.zero.rest, .bool Uh.zero.nosum, .slice none 0 0, .slice none 0 0] 36)) := Lib.hid (by repeat (first | exact K.newAt (by first | rfl | (simp; done)) | refine K.oldAt (by first | (simp; done) | (simp; omega)) ?_))
  simp only [Uh.zero] at q0 q1 ⊢
  go_enter Try.func146, Try.ntmps146
  go_wp2_with (first | (with_reducible refine loadU rfl _ rfl w.heap.size rfl q0.out ?_) | (with_reducible refine storeU rfl _ _ rfl (w.heap.size + 1) rfl rfl q1.out ?_))
  (try simp only [Exit.inBlock, Exit.then])
  refine bodyPost_ret (v := .agg #[.int .i64 x.kind, .int .i64 x.sport, .int .i64 x.dport, .int .i64 x.seq, .int .i64 x.ack, .int .i64 x.bits, .int .i64 x.window, .int .i64 x.urgent, .int .i64 x.ty, .int .i64 x.code, .int .i64 x.rest, .bool x.nosum, .slice A n c, .slice D m d]) ?_ rfl ⟨rfl, K.setRow_below (Joins.below_alloc2 w _ _) (by omega) _⟩
  exact resU Try.results146 _ _ (w.heap.size + 1) rfl (setRow_heap _ _ _ _ _ _ q1.out)

set_option maxHeartbeats 2000000 in
theorem unused_tcp (x : Uh) (A D : Option Addr) (n c m d : Nat) (w : World) : Calls Try.prog 148 #[.agg #[.int .i64 x.kind, .int .i64 x.sport, .int .i64 x.dport, .int .i64 x.seq, .int .i64 x.ack, .int .i64 x.bits, .int .i64 x.window, .int .i64 x.urgent, .int .i64 x.ty, .int .i64 x.code, .int .i64 x.rest, .bool x.nosum, .slice A n c, .slice D m d]] w fun e w' => e = .returned (.agg #[.int .i64 x.kind, .int .i64 0, .int .i64 0, .int .i64 0, .int .i64 0, .int .i64 0, .int .i64 0, .int .i64 0, .int .i64 x.ty, .int .i64 x.code, .int .i64 x.rest, .bool x.nosum, .slice none 0 0, .slice D m d]) ∧ Below w.heap.size w w' := by
  have q0 : Hid (((w.alloc (.cells #[.int .i64 x.kind, .int .i64 0, .int .i64 0, .int .i64 0, .int .i64 0, .int .i64 0, .int .i64 0, .int .i64 0, .int .i64 x.ty, .int .i64 x.code, .int .i64 x.rest, .bool x.nosum, .slice none 0 0, .slice D m d] 110)).alloc (.cells #[.int .i64 Uh.zero.kind, .int .i64 Uh.zero.sport, .int .i64 Uh.zero.dport, .int .i64 Uh.zero.seq, .int .i64 Uh.zero.ack, .int .i64 Uh.zero.bits, .int .i64 Uh.zero.window, .int .i64 Uh.zero.urgent, .int .i64 Uh.zero.ty, .int .i64 Uh.zero.code, .int .i64 Uh.zero.rest, .bool Uh.zero.nosum, .slice none 0 0, .slice none 0 0] 36)).heap[w.heap.size]? = some (.cells #[.int .i64 x.kind, .int .i64 0, .int .i64 0, .int .i64 0, .int .i64 0, .int .i64 0, .int .i64 0, .int .i64 0, .int .i64 x.ty, .int .i64 x.code, .int .i64 x.rest, .bool x.nosum, .slice none 0 0, .slice D m d] 110)) := Lib.hid (by repeat (first | exact K.newAt (by first | rfl | (simp; done)) | refine K.oldAt (by first | (simp; done) | (simp; omega)) ?_))
  have q1 : Hid (((w.alloc (.cells #[.int .i64 x.kind, .int .i64 0, .int .i64 0, .int .i64 0, .int .i64 0, .int .i64 0, .int .i64 0, .int .i64 0, .int .i64 x.ty, .int .i64 x.code, .int .i64 x.rest, .bool x.nosum, .slice none 0 0, .slice D m d] 110)).alloc (.cells #[.int .i64 Uh.zero.kind, .int .i64 Uh.zero.sport, .int .i64 Uh.zero.dport, .int .i64 Uh.zero.seq, .int .i64 Uh.zero.ack, .int .i64 Uh.zero.bits, .int .i64 Uh.zero.window, .int .i64 Uh.zero.urgent, .int .i64 Uh.zero.ty, .int .i64 Uh.zero.code, .int .i64 Uh.zero.rest, .bool Uh.zero.nosum, .slice none 0 0, .slice none 0 0] 36)).heap[w.heap.size + 1]? = some (.cells #[.int .i64 Uh.zero.kind, .int .i64 Uh.zero.sport, .int .i64 Uh.zero.dport, .int .i64 Uh.zero.seq, .int .i64 Uh.zero.ack, .int .i64 Uh.zero.bits, .int .i64 Uh.zero.window, .int .i64 Uh.zero.urgent, .int .i64 Uh.zero.ty, .int .i64 Uh.zero.code, .int .i64 Uh.zero.rest, .bool Uh.zero.nosum, .slice none 0 0, .slice none 0 0] 36)) := Lib.hid (by repeat (first | exact K.newAt (by first | rfl | (simp; done)) | refine K.oldAt (by first | (simp; done) | (simp; omega)) ?_))
  simp only [Uh.zero] at q0 q1 ⊢
  go_enter Try.func148, Try.ntmps148
  go_wp2_with (first | (with_reducible refine loadU rfl _ rfl w.heap.size rfl q0.out ?_) | (with_reducible refine storeU rfl _ _ rfl (w.heap.size + 1) rfl rfl q1.out ?_))
  (try simp only [Exit.inBlock, Exit.then])
  refine bodyPost_ret (v := .agg #[.int .i64 x.kind, .int .i64 0, .int .i64 0, .int .i64 0, .int .i64 0, .int .i64 0, .int .i64 0, .int .i64 0, .int .i64 x.ty, .int .i64 x.code, .int .i64 x.rest, .bool x.nosum, .slice none 0 0, .slice D m d]) ?_ rfl ⟨rfl, K.setRow_below (Joins.below_alloc2 w _ _) (by omega) _⟩
  exact resU Try.results148 _ _ (w.heap.size + 1) rfl (setRow_heap _ _ _ _ _ _ q1.out)

set_option maxHeartbeats 2000000 in
theorem unused_udp (x : Uh) (A D : Option Addr) (n c m d : Nat) (w : World) : Calls Try.prog 152 #[.agg #[.int .i64 x.kind, .int .i64 x.sport, .int .i64 x.dport, .int .i64 x.seq, .int .i64 x.ack, .int .i64 x.bits, .int .i64 x.window, .int .i64 x.urgent, .int .i64 x.ty, .int .i64 x.code, .int .i64 x.rest, .bool x.nosum, .slice A n c, .slice D m d]] w fun e w' => e = .returned (.agg #[.int .i64 x.kind, .int .i64 0, .int .i64 0, .int .i64 x.seq, .int .i64 x.ack, .int .i64 x.bits, .int .i64 x.window, .int .i64 x.urgent, .int .i64 x.ty, .int .i64 x.code, .int .i64 x.rest, .bool false, .slice A n c, .slice D m d]) ∧ Below w.heap.size w w' := by
  have q0 : Hid (((w.alloc (.cells #[.int .i64 x.kind, .int .i64 0, .int .i64 0, .int .i64 x.seq, .int .i64 x.ack, .int .i64 x.bits, .int .i64 x.window, .int .i64 x.urgent, .int .i64 x.ty, .int .i64 x.code, .int .i64 x.rest, .bool false, .slice A n c, .slice D m d] 111)).alloc (.cells #[.int .i64 Uh.zero.kind, .int .i64 Uh.zero.sport, .int .i64 Uh.zero.dport, .int .i64 Uh.zero.seq, .int .i64 Uh.zero.ack, .int .i64 Uh.zero.bits, .int .i64 Uh.zero.window, .int .i64 Uh.zero.urgent, .int .i64 Uh.zero.ty, .int .i64 Uh.zero.code, .int .i64 Uh.zero.rest, .bool Uh.zero.nosum, .slice none 0 0, .slice none 0 0] 36)).heap[w.heap.size]? = some (.cells #[.int .i64 x.kind, .int .i64 0, .int .i64 0, .int .i64 x.seq, .int .i64 x.ack, .int .i64 x.bits, .int .i64 x.window, .int .i64 x.urgent, .int .i64 x.ty, .int .i64 x.code, .int .i64 x.rest, .bool false, .slice A n c, .slice D m d] 111)) := Lib.hid (by repeat (first | exact K.newAt (by first | rfl | (simp; done)) | refine K.oldAt (by first | (simp; done) | (simp; omega)) ?_))
  have q1 : Hid (((w.alloc (.cells #[.int .i64 x.kind, .int .i64 0, .int .i64 0, .int .i64 x.seq, .int .i64 x.ack, .int .i64 x.bits, .int .i64 x.window, .int .i64 x.urgent, .int .i64 x.ty, .int .i64 x.code, .int .i64 x.rest, .bool false, .slice A n c, .slice D m d] 111)).alloc (.cells #[.int .i64 Uh.zero.kind, .int .i64 Uh.zero.sport, .int .i64 Uh.zero.dport, .int .i64 Uh.zero.seq, .int .i64 Uh.zero.ack, .int .i64 Uh.zero.bits, .int .i64 Uh.zero.window, .int .i64 Uh.zero.urgent, .int .i64 Uh.zero.ty, .int .i64 Uh.zero.code, .int .i64 Uh.zero.rest, .bool Uh.zero.nosum, .slice none 0 0, .slice none 0 0] 36)).heap[w.heap.size + 1]? = some (.cells #[.int .i64 Uh.zero.kind, .int .i64 Uh.zero.sport, .int .i64 Uh.zero.dport, .int .i64 Uh.zero.seq, .int .i64 Uh.zero.ack, .int .i64 Uh.zero.bits, .int .i64 Uh.zero.window, .int .i64 Uh.zero.urgent, .int .i64 Uh.zero.ty, .int .i64 Uh.zero.code, .int .i64 Uh.zero.rest, .bool Uh.zero.nosum, .slice none 0 0, .slice none 0 0] 36)) := Lib.hid (by repeat (first | exact K.newAt (by first | rfl | (simp; done)) | refine K.oldAt (by first | (simp; done) | (simp; omega)) ?_))
  simp only [Uh.zero] at q0 q1 ⊢
  go_enter Try.func152, Try.ntmps152
  go_wp2_with (first | (with_reducible refine loadU rfl _ rfl w.heap.size rfl q0.out ?_) | (with_reducible refine storeU rfl _ _ rfl (w.heap.size + 1) rfl rfl q1.out ?_))
  (try simp only [Exit.inBlock, Exit.then])
  refine bodyPost_ret (v := .agg #[.int .i64 x.kind, .int .i64 0, .int .i64 0, .int .i64 x.seq, .int .i64 x.ack, .int .i64 x.bits, .int .i64 x.window, .int .i64 x.urgent, .int .i64 x.ty, .int .i64 x.code, .int .i64 x.rest, .bool false, .slice A n c, .slice D m d]) ?_ rfl ⟨rfl, K.setRow_below (Joins.below_alloc2 w _ _) (by omega) _⟩
  exact resU Try.results152 _ _ (w.heap.size + 1) rfl (setRow_heap _ _ _ _ _ _ q1.out)

set_option maxHeartbeats 2000000 in
theorem unused_icmp (x : Uh) (A D : Option Addr) (n c m d : Nat) (w : World) : Calls Try.prog 155 #[.agg #[.int .i64 x.kind, .int .i64 x.sport, .int .i64 x.dport, .int .i64 x.seq, .int .i64 x.ack, .int .i64 x.bits, .int .i64 x.window, .int .i64 x.urgent, .int .i64 x.ty, .int .i64 x.code, .int .i64 x.rest, .bool x.nosum, .slice A n c, .slice D m d]] w fun e w' => e = .returned (.agg #[.int .i64 x.kind, .int .i64 x.sport, .int .i64 x.dport, .int .i64 x.seq, .int .i64 x.ack, .int .i64 x.bits, .int .i64 x.window, .int .i64 x.urgent, .int .i64 0, .int .i64 0, .int .i64 0, .bool x.nosum, .slice A n c, .slice D m d]) ∧ Below w.heap.size w w' := by
  have q0 : Hid (((w.alloc (.cells #[.int .i64 x.kind, .int .i64 x.sport, .int .i64 x.dport, .int .i64 x.seq, .int .i64 x.ack, .int .i64 x.bits, .int .i64 x.window, .int .i64 x.urgent, .int .i64 0, .int .i64 0, .int .i64 0, .bool x.nosum, .slice A n c, .slice D m d] 112)).alloc (.cells #[.int .i64 Uh.zero.kind, .int .i64 Uh.zero.sport, .int .i64 Uh.zero.dport, .int .i64 Uh.zero.seq, .int .i64 Uh.zero.ack, .int .i64 Uh.zero.bits, .int .i64 Uh.zero.window, .int .i64 Uh.zero.urgent, .int .i64 Uh.zero.ty, .int .i64 Uh.zero.code, .int .i64 Uh.zero.rest, .bool Uh.zero.nosum, .slice none 0 0, .slice none 0 0] 36)).heap[w.heap.size]? = some (.cells #[.int .i64 x.kind, .int .i64 x.sport, .int .i64 x.dport, .int .i64 x.seq, .int .i64 x.ack, .int .i64 x.bits, .int .i64 x.window, .int .i64 x.urgent, .int .i64 0, .int .i64 0, .int .i64 0, .bool x.nosum, .slice A n c, .slice D m d] 112)) := Lib.hid (by repeat (first | exact K.newAt (by first | rfl | (simp; done)) | refine K.oldAt (by first | (simp; done) | (simp; omega)) ?_))
  have q1 : Hid (((w.alloc (.cells #[.int .i64 x.kind, .int .i64 x.sport, .int .i64 x.dport, .int .i64 x.seq, .int .i64 x.ack, .int .i64 x.bits, .int .i64 x.window, .int .i64 x.urgent, .int .i64 0, .int .i64 0, .int .i64 0, .bool x.nosum, .slice A n c, .slice D m d] 112)).alloc (.cells #[.int .i64 Uh.zero.kind, .int .i64 Uh.zero.sport, .int .i64 Uh.zero.dport, .int .i64 Uh.zero.seq, .int .i64 Uh.zero.ack, .int .i64 Uh.zero.bits, .int .i64 Uh.zero.window, .int .i64 Uh.zero.urgent, .int .i64 Uh.zero.ty, .int .i64 Uh.zero.code, .int .i64 Uh.zero.rest, .bool Uh.zero.nosum, .slice none 0 0, .slice none 0 0] 36)).heap[w.heap.size + 1]? = some (.cells #[.int .i64 Uh.zero.kind, .int .i64 Uh.zero.sport, .int .i64 Uh.zero.dport, .int .i64 Uh.zero.seq, .int .i64 Uh.zero.ack, .int .i64 Uh.zero.bits, .int .i64 Uh.zero.window, .int .i64 Uh.zero.urgent, .int .i64 Uh.zero.ty, .int .i64 Uh.zero.code, .int .i64 Uh.zero.rest, .bool Uh.zero.nosum, .slice none 0 0, .slice none 0 0] 36)) := Lib.hid (by repeat (first | exact K.newAt (by first | rfl | (simp; done)) | refine K.oldAt (by first | (simp; done) | (simp; omega)) ?_))
  simp only [Uh.zero] at q0 q1 ⊢
  go_enter Try.func155, Try.ntmps155
  go_wp2_with (first | (with_reducible refine loadU rfl _ rfl w.heap.size rfl q0.out ?_) | (with_reducible refine storeU rfl _ _ rfl (w.heap.size + 1) rfl rfl q1.out ?_))
  (try simp only [Exit.inBlock, Exit.then])
  refine bodyPost_ret (v := .agg #[.int .i64 x.kind, .int .i64 x.sport, .int .i64 x.dport, .int .i64 x.seq, .int .i64 x.ack, .int .i64 x.bits, .int .i64 x.window, .int .i64 x.urgent, .int .i64 0, .int .i64 0, .int .i64 0, .bool x.nosum, .slice A n c, .slice D m d]) ?_ rfl ⟨rfl, K.setRow_below (Joins.below_alloc2 w _ _) (by omega) _⟩
  exact resU Try.results155 _ _ (w.heap.size + 1) rfl (setRow_heap _ _ _ _ _ _ q1.out)

end Go.Proofs.Ythogonpjkngpjaa

namespace Go.Proofs.Ythogonpjkngpjaa
set_option maxRecDepth 100000
open Go.RowKit

set_option maxHeartbeats 400000 in
theorem kindOkB (k : Int) (b : Bool) (w : World) (h : kindB k = b) : Calls Try.prog 87 #[.int .i64 k] w fun e w' => e = .returned (.bool b) ∧ w = w' := by
  subst h
  by_cases h1 : k = 4
  · go_enter Try.func87, Try.ntmps87
    go_wp2
    go_ret
    exact ⟨ret_bool (by simp [kindB, *]), rfl⟩
  · go_enter Try.func87, Try.ntmps87
    go_wp2
    go_ret
    exact ⟨ret_bool (by simp [kindB, *]), rfl⟩
end Go.Proofs.Ythogonpjkngpjaa

namespace Go.Proofs.Ythogonpjkngpjaa
set_option maxRecDepth 100000
open Go.RowKit

set_option maxHeartbeats 4000000 in
theorem upOkI0 (sport dport seq ack bits window urgent ty code rest : Int) (nosum : Bool) (A D : Option Addr) (n c m d : Nat) (k : Int) (w : World) (hn : n ≤ 1048576) (hm : m ≤ 1048576) : Calls Try.prog 65 #[.agg #[.int .i64 0, .int .i64 sport, .int .i64 dport, .int .i64 seq, .int .i64 ack, .int .i64 bits, .int .i64 window, .int .i64 urgent, .int .i64 ty, .int .i64 code, .int .i64 rest, .bool nosum, .slice A n c, .slice D m d], .int .i64 k] w fun e w' => e = .returned (.bool (Uh.ok (Uh.mk 0 sport dport seq ack bits window urgent ty code rest nosum) k n m)) ∧ Below w.heap.size w w' := by
  have q := Lib.hid (K.new w (.cells #[.int .i64 0, .int .i64 sport, .int .i64 dport, .int .i64 seq, .int .i64 ack, .int .i64 bits, .int .i64 window, .int .i64 urgent, .int .i64 ty, .int .i64 code, .int .i64 rest, .bool nosum, .slice A n c, .slice D m d] 36))
  have q1 := Lib.hid (K.old q.out (.cells #[.int .i64 0, .int .i64 sport, .int .i64 dport, .int .i64 seq, .int .i64 ack, .int .i64 bits, .int .i64 window, .int .i64 urgent, .int .i64 ty, .int .i64 code, .int .i64 rest, .bool nosum, .slice A n c, .slice D m d] 36))
  have HF : Hid (∀ v, fmtV 0 v = .iface 109 v) := Lib.hid fun _ => rfl
  have EF := Lib.hid (show Uh.fields (Uh.mk 0 sport dport seq ack bits window urgent ty code rest nosum) k n = (true) from rfl)
  cases hk : kindB k with
  | false =>
    have HK := Lib.hid hk
    have HR := Lib.hid (show Uh.ok (Uh.mk 0 sport dport seq ack bits window urgent ty code rest nosum) k n m = false by simp [Uh.ok, hk])
    clear hk
    go_enter Try.func65, Try.ntmps65
    go_wp2_with (with_reducible refine loadU rfl _ rfl w.heap.size rfl q.out ?_)
    refine Calls.mono (formatOfC (Uh.mk 0 sport dport seq ack bits window urgent ty code rest nosum) A D n c m d _) ?_
    rintro e w1 ⟨rfl, rfl⟩
    simp only [HF.out]
    go_wp2_with fail
    refine Calls.mono (kindOkB k false _ HK.out) ?_
    rintro e w2 ⟨rfl, rfl⟩
    go_wp2
    go_ret
    exact ⟨ret_bool HR.out.symm, Joins.below_alloc2 w _ _⟩
  | true =>
    have HK := Lib.hid hk
    clear hk
    have HFI := Lib.hid (fun v => otherF (Uh.mk 0 sport dport seq ack bits window urgent ty code rest nosum) A D n c m d v k)
    have HFF := EF
    have EO := Lib.hid (fun b (hb : noF (Uh.mk 0 sport dport seq ack bits window urgent ty code rest nosum) n = b) => show Uh.ok (Uh.mk 0 sport dport seq ack bits window urgent ty code rest nosum) k n m = (b && decide (Uh.size (Uh.mk 0 sport dport seq ack bits window urgent ty code rest nosum) n m ≤ 1500)) by have e : noF (Uh.unused (Uh.mk 0 sport dport seq ack bits window urgent ty code rest nosum)) (if (Uh.kind (Uh.mk 0 sport dport seq ack bits window urgent ty code rest nosum)) = 1 then 0 else n) = b := hb; unfold Uh.ok; rw [HK.out, HFF.out, e]; simp)
    cases hf : noF (Uh.mk 0 sport dport seq ack bits window urgent ty code rest nosum) n with
    | false =>
      have HNI := Lib.hid (fun v => show Calls Try.prog 101 #[.agg #[.int .i64 0, .int .i64 sport, .int .i64 dport, .int .i64 seq, .int .i64 ack, .int .i64 bits, .int .i64 window, .int .i64 urgent, .int .i64 ty, .int .i64 code, .int .i64 rest, .bool nosum, .slice A n c, .slice D m d]] v fun e w' => e = .returned (.bool false) ∧ Below v.heap.size v w' from (noFC (Uh.mk 0 sport dport seq ack bits window urgent ty code rest nosum) A D n c m d v).mono fun _ _ ⟨he, hb⟩ => ⟨he.trans (ret_bool hf), hb⟩)
      have HR := Lib.hid (show Uh.ok (Uh.mk 0 sport dport seq ack bits window urgent ty code rest nosum) k n m = false from EO.out false hf)
      clear hf
      go_enter Try.func65, Try.ntmps65
      go_wp2_with (with_reducible refine loadU rfl _ rfl w.heap.size rfl q.out ?_)
      refine Calls.mono (formatOfC (Uh.mk 0 sport dport seq ack bits window urgent ty code rest nosum) A D n c m d _) ?_
      rintro e w1 ⟨rfl, rfl⟩
      simp only [HF.out]
      go_wp2_with fail
      refine Calls.mono (kindOkB k true _ HK.out) ?_
      rintro e w2 ⟨rfl, rfl⟩
      go_wp2_with fail
      refine Calls.mono (HFI.out _) ?_
      rintro e w3 ⟨rfl, b3⟩
      have B3 := Lib.hid (bthen (Joins.below_alloc2 w _ _) b3)
      have q3 := Lib.hid (K.below b3 q1.out)
      clear b3
      go_wp2_with fail
      refine Calls.mono (unused_other (Uh.mk 0 sport dport seq ack bits window urgent ty code rest nosum) A D n c m d _) ?_
      rintro e w4 ⟨rfl, b4⟩
      have B4 := Lib.hid (bthen B3.out b4)
      have q4 := Lib.hid (K.below b4 q3.out)
      clear b4
      go_wp2_with fail
      refine Calls.mono (HNI.out _) ?_
      rintro e w5 ⟨rfl, b5⟩
      have B5 := Lib.hid (bthen B4.out b5)
      have q5 := Lib.hid (K.below b5 q4.out)
      clear b5
      go_wp2
      go_ret
      exact ⟨ret_bool HR.out.symm, B5.out⟩
    | true =>
      have HNI := Lib.hid (fun v => show Calls Try.prog 101 #[.agg #[.int .i64 0, .int .i64 sport, .int .i64 dport, .int .i64 seq, .int .i64 ack, .int .i64 bits, .int .i64 window, .int .i64 urgent, .int .i64 ty, .int .i64 code, .int .i64 rest, .bool nosum, .slice A n c, .slice D m d]] v fun e w' => e = .returned (.bool true) ∧ Below v.heap.size v w' from (noFC (Uh.mk 0 sport dport seq ack bits window urgent ty code rest nosum) A D n c m d v).mono fun _ _ ⟨he, hb⟩ => ⟨he.trans (ret_bool hf), hb⟩)
      have HR := Lib.hid (show Uh.ok (Uh.mk 0 sport dport seq ack bits window urgent ty code rest nosum) k n m = decide (Uh.size (Uh.mk 0 sport dport seq ack bits window urgent ty code rest nosum) n m ≤ 1500) from (EO.out true hf).trans (by simp))
      clear hf
      go_enter Try.func65, Try.ntmps65
      go_wp2_with (with_reducible refine loadU rfl _ rfl w.heap.size rfl q.out ?_)
      refine Calls.mono (formatOfC (Uh.mk 0 sport dport seq ack bits window urgent ty code rest nosum) A D n c m d _) ?_
      rintro e w1 ⟨rfl, rfl⟩
      simp only [HF.out]
      go_wp2_with fail
      refine Calls.mono (kindOkB k true _ HK.out) ?_
      rintro e w2 ⟨rfl, rfl⟩
      go_wp2_with fail
      refine Calls.mono (HFI.out _) ?_
      rintro e w3 ⟨rfl, b3⟩
      have B3 := Lib.hid (bthen (Joins.below_alloc2 w _ _) b3)
      have q3 := Lib.hid (K.below b3 q1.out)
      clear b3
      go_wp2_with fail
      refine Calls.mono (unused_other (Uh.mk 0 sport dport seq ack bits window urgent ty code rest nosum) A D n c m d _) ?_
      rintro e w4 ⟨rfl, b4⟩
      have B4 := Lib.hid (bthen B3.out b4)
      have q4 := Lib.hid (K.below b4 q3.out)
      clear b4
      go_wp2_with fail
      refine Calls.mono (HNI.out _) ?_
      rintro e w5 ⟨rfl, b5⟩
      have B5 := Lib.hid (bthen B4.out b5)
      have q5 := Lib.hid (K.below b5 q4.out)
      clear b5
      obtain ⟨c_0, c_1, c_2, c_3, c_4, c_5, c_6, c_7, c_8, c_9, c_10, c_11, c_12, c_13⟩ := K.cells14 q5.out
      go_wp2_with fail
      clear c_0 c_1 c_2 c_3 c_4 c_5 c_6 c_7 c_8 c_9 c_10 c_11 c_12 c_13
      refine Calls.mono (implUpSize (Uh.mk 0 sport dport seq ack bits window urgent ty code rest nosum) A D n c m d _ hn hm) ?_
      rintro e w6 ⟨rfl, b6⟩
      have B6 := Lib.hid (bthen B5.out b6)
      clear b6
      go_wp2
      go_ret
      exact ⟨ret_bool HR.out.symm, B6.out⟩
end Go.Proofs.Ythogonpjkngpjaa

namespace Go.Proofs.Ythogonpjkngpjaa
set_option maxRecDepth 100000
open Go.RowKit

set_option maxHeartbeats 4000000 in
theorem upOkI1 (sport dport seq ack bits window urgent ty code rest : Int) (nosum : Bool) (A D : Option Addr) (n c m d : Nat) (k : Int) (w : World) (hn : n ≤ 1048576) (hm : m ≤ 1048576) : Calls Try.prog 65 #[.agg #[.int .i64 1, .int .i64 sport, .int .i64 dport, .int .i64 seq, .int .i64 ack, .int .i64 bits, .int .i64 window, .int .i64 urgent, .int .i64 ty, .int .i64 code, .int .i64 rest, .bool nosum, .slice A n c, .slice D m d], .int .i64 k] w fun e w' => e = .returned (.bool (Uh.ok (Uh.mk 1 sport dport seq ack bits window urgent ty code rest nosum) k n m)) ∧ Below w.heap.size w w' := by
  have q := Lib.hid (K.new w (.cells #[.int .i64 1, .int .i64 sport, .int .i64 dport, .int .i64 seq, .int .i64 ack, .int .i64 bits, .int .i64 window, .int .i64 urgent, .int .i64 ty, .int .i64 code, .int .i64 rest, .bool nosum, .slice A n c, .slice D m d] 36))
  have q1 := Lib.hid (K.old q.out (.cells #[.int .i64 1, .int .i64 sport, .int .i64 dport, .int .i64 seq, .int .i64 ack, .int .i64 bits, .int .i64 window, .int .i64 urgent, .int .i64 ty, .int .i64 code, .int .i64 rest, .bool nosum, .slice A n c, .slice D m d] 36))
  have HF : Hid (∀ v, fmtV 1 v = .iface 110 v) := Lib.hid fun _ => rfl
  have EF := Lib.hid (show Uh.fields (Uh.mk 1 sport dport seq ack bits window urgent ty code rest nosum) k n = (upTo sport 65535 && upTo dport 65535 && half seq && half ack && upTo bits 4095 && upTo window 65535 && upTo urgent 65535 && optOk n) from rfl)
  cases hk : kindB k with
  | false =>
    have HK := Lib.hid hk
    have HR := Lib.hid (show Uh.ok (Uh.mk 1 sport dport seq ack bits window urgent ty code rest nosum) k n m = false by simp [Uh.ok, hk])
    clear hk
    go_enter Try.func65, Try.ntmps65
    go_wp2_with (with_reducible refine loadU rfl _ rfl w.heap.size rfl q.out ?_)
    refine Calls.mono (formatOfC (Uh.mk 1 sport dport seq ack bits window urgent ty code rest nosum) A D n c m d _) ?_
    rintro e w1 ⟨rfl, rfl⟩
    simp only [HF.out]
    go_wp2_with fail
    refine Calls.mono (kindOkB k false _ HK.out) ?_
    rintro e w2 ⟨rfl, rfl⟩
    go_wp2
    go_ret
    exact ⟨ret_bool HR.out.symm, Joins.below_alloc2 w _ _⟩
  | true =>
    have HK := Lib.hid hk
    clear hk
    cases hf : (upTo sport 65535 && upTo dport 65535 && half seq && half ack && upTo bits 4095 && upTo window 65535 && upTo urgent 65535 && optOk n) with
    | false =>
      have HFI := Lib.hid (fun v => show Calls Try.prog 147 #[.agg #[.int .i64 1, .int .i64 sport, .int .i64 dport, .int .i64 seq, .int .i64 ack, .int .i64 bits, .int .i64 window, .int .i64 urgent, .int .i64 ty, .int .i64 code, .int .i64 rest, .bool nosum, .slice A n c, .slice D m d], .int .i64 k] v fun e w' => e = .returned (.bool false) ∧ Below v.heap.size v w' from (tcpF (Uh.mk 1 sport dport seq ack bits window urgent ty code rest nosum) A D n c m d v k).mono fun _ _ ⟨he, hb⟩ => ⟨he.trans (ret_bool hf), hb⟩)
      have HR := Lib.hid (show Uh.ok (Uh.mk 1 sport dport seq ack bits window urgent ty code rest nosum) k n m = false by unfold Uh.ok; rw [EF.out.trans hf]; simp)
      clear hf
      go_enter Try.func65, Try.ntmps65
      go_wp2_with (with_reducible refine loadU rfl _ rfl w.heap.size rfl q.out ?_)
      refine Calls.mono (formatOfC (Uh.mk 1 sport dport seq ack bits window urgent ty code rest nosum) A D n c m d _) ?_
      rintro e w1 ⟨rfl, rfl⟩
      simp only [HF.out]
      go_wp2_with fail
      refine Calls.mono (kindOkB k true _ HK.out) ?_
      rintro e w2 ⟨rfl, rfl⟩
      go_wp2_with fail
      refine Calls.mono (HFI.out _) ?_
      rintro e w3 ⟨rfl, b3⟩
      have B3 := Lib.hid (bthen (Joins.below_alloc2 w _ _) b3)
      have q3 := Lib.hid (K.below b3 q1.out)
      clear b3
      go_wp2
      go_ret
      exact ⟨ret_bool HR.out.symm, B3.out⟩
    | true =>
      have HFI := Lib.hid (fun v => show Calls Try.prog 147 #[.agg #[.int .i64 1, .int .i64 sport, .int .i64 dport, .int .i64 seq, .int .i64 ack, .int .i64 bits, .int .i64 window, .int .i64 urgent, .int .i64 ty, .int .i64 code, .int .i64 rest, .bool nosum, .slice A n c, .slice D m d], .int .i64 k] v fun e w' => e = .returned (.bool true) ∧ Below v.heap.size v w' from (tcpF (Uh.mk 1 sport dport seq ack bits window urgent ty code rest nosum) A D n c m d v k).mono fun _ _ ⟨he, hb⟩ => ⟨he.trans (ret_bool hf), hb⟩)
      have HFF := Lib.hid (EF.out.trans hf)
      clear hf
      have EO := Lib.hid (fun b (hb : noF (Uh.mk 1 0 0 0 0 0 0 0 ty code rest nosum) 0 = b) => show Uh.ok (Uh.mk 1 sport dport seq ack bits window urgent ty code rest nosum) k n m = (b && decide (Uh.size (Uh.mk 1 sport dport seq ack bits window urgent ty code rest nosum) n m ≤ 1500)) by have e : noF (Uh.unused (Uh.mk 1 sport dport seq ack bits window urgent ty code rest nosum)) (if (Uh.kind (Uh.mk 1 sport dport seq ack bits window urgent ty code rest nosum)) = 1 then 0 else n) = b := hb; unfold Uh.ok; rw [HK.out, HFF.out, e]; simp)
      cases hf : noF (Uh.mk 1 0 0 0 0 0 0 0 ty code rest nosum) 0 with
      | false =>
        have HNI := Lib.hid (fun v => show Calls Try.prog 101 #[.agg #[.int .i64 1, .int .i64 0, .int .i64 0, .int .i64 0, .int .i64 0, .int .i64 0, .int .i64 0, .int .i64 0, .int .i64 ty, .int .i64 code, .int .i64 rest, .bool nosum, .slice none 0 0, .slice D m d]] v fun e w' => e = .returned (.bool false) ∧ Below v.heap.size v w' from (noFC (Uh.mk 1 0 0 0 0 0 0 0 ty code rest nosum) none D 0 0 m d v).mono fun _ _ ⟨he, hb⟩ => ⟨he.trans (ret_bool hf), hb⟩)
        have HR := Lib.hid (show Uh.ok (Uh.mk 1 sport dport seq ack bits window urgent ty code rest nosum) k n m = false from EO.out false hf)
        clear hf
        go_enter Try.func65, Try.ntmps65
        go_wp2_with (with_reducible refine loadU rfl _ rfl w.heap.size rfl q.out ?_)
        refine Calls.mono (formatOfC (Uh.mk 1 sport dport seq ack bits window urgent ty code rest nosum) A D n c m d _) ?_
        rintro e w1 ⟨rfl, rfl⟩
        simp only [HF.out]
        go_wp2_with fail
        refine Calls.mono (kindOkB k true _ HK.out) ?_
        rintro e w2 ⟨rfl, rfl⟩
        go_wp2_with fail
        refine Calls.mono (HFI.out _) ?_
        rintro e w3 ⟨rfl, b3⟩
        have B3 := Lib.hid (bthen (Joins.below_alloc2 w _ _) b3)
        have q3 := Lib.hid (K.below b3 q1.out)
        clear b3
        go_wp2_with fail
        refine Calls.mono (unused_tcp (Uh.mk 1 sport dport seq ack bits window urgent ty code rest nosum) A D n c m d _) ?_
        rintro e w4 ⟨rfl, b4⟩
        have B4 := Lib.hid (bthen B3.out b4)
        have q4 := Lib.hid (K.below b4 q3.out)
        clear b4
        go_wp2_with fail
        refine Calls.mono (HNI.out _) ?_
        rintro e w5 ⟨rfl, b5⟩
        have B5 := Lib.hid (bthen B4.out b5)
        have q5 := Lib.hid (K.below b5 q4.out)
        clear b5
        go_wp2
        go_ret
        exact ⟨ret_bool HR.out.symm, B5.out⟩
      | true =>
        have HNI := Lib.hid (fun v => show Calls Try.prog 101 #[.agg #[.int .i64 1, .int .i64 0, .int .i64 0, .int .i64 0, .int .i64 0, .int .i64 0, .int .i64 0, .int .i64 0, .int .i64 ty, .int .i64 code, .int .i64 rest, .bool nosum, .slice none 0 0, .slice D m d]] v fun e w' => e = .returned (.bool true) ∧ Below v.heap.size v w' from (noFC (Uh.mk 1 0 0 0 0 0 0 0 ty code rest nosum) none D 0 0 m d v).mono fun _ _ ⟨he, hb⟩ => ⟨he.trans (ret_bool hf), hb⟩)
        have HR := Lib.hid (show Uh.ok (Uh.mk 1 sport dport seq ack bits window urgent ty code rest nosum) k n m = decide (Uh.size (Uh.mk 1 sport dport seq ack bits window urgent ty code rest nosum) n m ≤ 1500) from (EO.out true hf).trans (by simp))
        clear hf
        go_enter Try.func65, Try.ntmps65
        go_wp2_with (with_reducible refine loadU rfl _ rfl w.heap.size rfl q.out ?_)
        refine Calls.mono (formatOfC (Uh.mk 1 sport dport seq ack bits window urgent ty code rest nosum) A D n c m d _) ?_
        rintro e w1 ⟨rfl, rfl⟩
        simp only [HF.out]
        go_wp2_with fail
        refine Calls.mono (kindOkB k true _ HK.out) ?_
        rintro e w2 ⟨rfl, rfl⟩
        go_wp2_with fail
        refine Calls.mono (HFI.out _) ?_
        rintro e w3 ⟨rfl, b3⟩
        have B3 := Lib.hid (bthen (Joins.below_alloc2 w _ _) b3)
        have q3 := Lib.hid (K.below b3 q1.out)
        clear b3
        go_wp2_with fail
        refine Calls.mono (unused_tcp (Uh.mk 1 sport dport seq ack bits window urgent ty code rest nosum) A D n c m d _) ?_
        rintro e w4 ⟨rfl, b4⟩
        have B4 := Lib.hid (bthen B3.out b4)
        have q4 := Lib.hid (K.below b4 q3.out)
        clear b4
        go_wp2_with fail
        refine Calls.mono (HNI.out _) ?_
        rintro e w5 ⟨rfl, b5⟩
        have B5 := Lib.hid (bthen B4.out b5)
        have q5 := Lib.hid (K.below b5 q4.out)
        clear b5
        obtain ⟨c_0, c_1, c_2, c_3, c_4, c_5, c_6, c_7, c_8, c_9, c_10, c_11, c_12, c_13⟩ := K.cells14 q5.out
        go_wp2_with fail
        clear c_0 c_1 c_2 c_3 c_4 c_5 c_6 c_7 c_8 c_9 c_10 c_11 c_12 c_13
        refine Calls.mono (implUpSize (Uh.mk 1 sport dport seq ack bits window urgent ty code rest nosum) A D n c m d _ hn hm) ?_
        rintro e w6 ⟨rfl, b6⟩
        have B6 := Lib.hid (bthen B5.out b6)
        clear b6
        go_wp2
        go_ret
        exact ⟨ret_bool HR.out.symm, B6.out⟩
end Go.Proofs.Ythogonpjkngpjaa

namespace Go.Proofs.Ythogonpjkngpjaa
set_option maxRecDepth 100000
open Go.RowKit

set_option maxHeartbeats 4000000 in
theorem upOkI2 (sport dport seq ack bits window urgent ty code rest : Int) (nosum : Bool) (A D : Option Addr) (n c m d : Nat) (k : Int) (w : World) (hn : n ≤ 1048576) (hm : m ≤ 1048576) : Calls Try.prog 65 #[.agg #[.int .i64 2, .int .i64 sport, .int .i64 dport, .int .i64 seq, .int .i64 ack, .int .i64 bits, .int .i64 window, .int .i64 urgent, .int .i64 ty, .int .i64 code, .int .i64 rest, .bool nosum, .slice A n c, .slice D m d], .int .i64 k] w fun e w' => e = .returned (.bool (Uh.ok (Uh.mk 2 sport dport seq ack bits window urgent ty code rest nosum) k n m)) ∧ Below w.heap.size w w' := by
  have q := Lib.hid (K.new w (.cells #[.int .i64 2, .int .i64 sport, .int .i64 dport, .int .i64 seq, .int .i64 ack, .int .i64 bits, .int .i64 window, .int .i64 urgent, .int .i64 ty, .int .i64 code, .int .i64 rest, .bool nosum, .slice A n c, .slice D m d] 36))
  have q1 := Lib.hid (K.old q.out (.cells #[.int .i64 2, .int .i64 sport, .int .i64 dport, .int .i64 seq, .int .i64 ack, .int .i64 bits, .int .i64 window, .int .i64 urgent, .int .i64 ty, .int .i64 code, .int .i64 rest, .bool nosum, .slice A n c, .slice D m d] 36))
  have HF : Hid (∀ v, fmtV 2 v = .iface 111 v) := Lib.hid fun _ => rfl
  have EF := Lib.hid (show Uh.fields (Uh.mk 2 sport dport seq ack bits window urgent ty code rest nosum) k n = (upTo sport 65535 && upTo dport 65535 && ((k == 4) || !nosum)) from rfl)
  cases hk : kindB k with
  | false =>
    have HK := Lib.hid hk
    have HR := Lib.hid (show Uh.ok (Uh.mk 2 sport dport seq ack bits window urgent ty code rest nosum) k n m = false by simp [Uh.ok, hk])
    clear hk
    go_enter Try.func65, Try.ntmps65
    go_wp2_with (with_reducible refine loadU rfl _ rfl w.heap.size rfl q.out ?_)
    refine Calls.mono (formatOfC (Uh.mk 2 sport dport seq ack bits window urgent ty code rest nosum) A D n c m d _) ?_
    rintro e w1 ⟨rfl, rfl⟩
    simp only [HF.out]
    go_wp2_with fail
    refine Calls.mono (kindOkB k false _ HK.out) ?_
    rintro e w2 ⟨rfl, rfl⟩
    go_wp2
    go_ret
    exact ⟨ret_bool HR.out.symm, Joins.below_alloc2 w _ _⟩
  | true =>
    have HK := Lib.hid hk
    clear hk
    cases hf : (upTo sport 65535 && upTo dport 65535 && ((k == 4) || !nosum)) with
    | false =>
      have HFI := Lib.hid (fun v => show Calls Try.prog 150 #[.agg #[.int .i64 2, .int .i64 sport, .int .i64 dport, .int .i64 seq, .int .i64 ack, .int .i64 bits, .int .i64 window, .int .i64 urgent, .int .i64 ty, .int .i64 code, .int .i64 rest, .bool nosum, .slice A n c, .slice D m d], .int .i64 k] v fun e w' => e = .returned (.bool false) ∧ Below v.heap.size v w' from (udpF (Uh.mk 2 sport dport seq ack bits window urgent ty code rest nosum) A D n c m d v k).mono fun _ _ ⟨he, hb⟩ => ⟨he.trans (ret_bool hf), hb⟩)
      have HR := Lib.hid (show Uh.ok (Uh.mk 2 sport dport seq ack bits window urgent ty code rest nosum) k n m = false by unfold Uh.ok; rw [EF.out.trans hf]; simp)
      clear hf
      go_enter Try.func65, Try.ntmps65
      go_wp2_with (with_reducible refine loadU rfl _ rfl w.heap.size rfl q.out ?_)
      refine Calls.mono (formatOfC (Uh.mk 2 sport dport seq ack bits window urgent ty code rest nosum) A D n c m d _) ?_
      rintro e w1 ⟨rfl, rfl⟩
      simp only [HF.out]
      go_wp2_with fail
      refine Calls.mono (kindOkB k true _ HK.out) ?_
      rintro e w2 ⟨rfl, rfl⟩
      go_wp2_with fail
      refine Calls.mono (HFI.out _) ?_
      rintro e w3 ⟨rfl, b3⟩
      have B3 := Lib.hid (bthen (Joins.below_alloc2 w _ _) b3)
      have q3 := Lib.hid (K.below b3 q1.out)
      clear b3
      go_wp2
      go_ret
      exact ⟨ret_bool HR.out.symm, B3.out⟩
    | true =>
      have HFI := Lib.hid (fun v => show Calls Try.prog 150 #[.agg #[.int .i64 2, .int .i64 sport, .int .i64 dport, .int .i64 seq, .int .i64 ack, .int .i64 bits, .int .i64 window, .int .i64 urgent, .int .i64 ty, .int .i64 code, .int .i64 rest, .bool nosum, .slice A n c, .slice D m d], .int .i64 k] v fun e w' => e = .returned (.bool true) ∧ Below v.heap.size v w' from (udpF (Uh.mk 2 sport dport seq ack bits window urgent ty code rest nosum) A D n c m d v k).mono fun _ _ ⟨he, hb⟩ => ⟨he.trans (ret_bool hf), hb⟩)
      have HFF := Lib.hid (EF.out.trans hf)
      clear hf
      have EO := Lib.hid (fun b (hb : noF (Uh.mk 2 0 0 seq ack bits window urgent ty code rest false) n = b) => show Uh.ok (Uh.mk 2 sport dport seq ack bits window urgent ty code rest nosum) k n m = (b && decide (Uh.size (Uh.mk 2 sport dport seq ack bits window urgent ty code rest nosum) n m ≤ 1500)) by have e : noF (Uh.unused (Uh.mk 2 sport dport seq ack bits window urgent ty code rest nosum)) (if (Uh.kind (Uh.mk 2 sport dport seq ack bits window urgent ty code rest nosum)) = 1 then 0 else n) = b := hb; unfold Uh.ok; rw [HK.out, HFF.out, e]; simp)
      cases hf : noF (Uh.mk 2 0 0 seq ack bits window urgent ty code rest false) n with
      | false =>
        have HNI := Lib.hid (fun v => show Calls Try.prog 101 #[.agg #[.int .i64 2, .int .i64 0, .int .i64 0, .int .i64 seq, .int .i64 ack, .int .i64 bits, .int .i64 window, .int .i64 urgent, .int .i64 ty, .int .i64 code, .int .i64 rest, .bool false, .slice A n c, .slice D m d]] v fun e w' => e = .returned (.bool false) ∧ Below v.heap.size v w' from (noFC (Uh.mk 2 0 0 seq ack bits window urgent ty code rest false) A D n c m d v).mono fun _ _ ⟨he, hb⟩ => ⟨he.trans (ret_bool hf), hb⟩)
        have HR := Lib.hid (show Uh.ok (Uh.mk 2 sport dport seq ack bits window urgent ty code rest nosum) k n m = false from EO.out false hf)
        clear hf
        go_enter Try.func65, Try.ntmps65
        go_wp2_with (with_reducible refine loadU rfl _ rfl w.heap.size rfl q.out ?_)
        refine Calls.mono (formatOfC (Uh.mk 2 sport dport seq ack bits window urgent ty code rest nosum) A D n c m d _) ?_
        rintro e w1 ⟨rfl, rfl⟩
        simp only [HF.out]
        go_wp2_with fail
        refine Calls.mono (kindOkB k true _ HK.out) ?_
        rintro e w2 ⟨rfl, rfl⟩
        go_wp2_with fail
        refine Calls.mono (HFI.out _) ?_
        rintro e w3 ⟨rfl, b3⟩
        have B3 := Lib.hid (bthen (Joins.below_alloc2 w _ _) b3)
        have q3 := Lib.hid (K.below b3 q1.out)
        clear b3
        go_wp2_with fail
        refine Calls.mono (unused_udp (Uh.mk 2 sport dport seq ack bits window urgent ty code rest nosum) A D n c m d _) ?_
        rintro e w4 ⟨rfl, b4⟩
        have B4 := Lib.hid (bthen B3.out b4)
        have q4 := Lib.hid (K.below b4 q3.out)
        clear b4
        go_wp2_with fail
        refine Calls.mono (HNI.out _) ?_
        rintro e w5 ⟨rfl, b5⟩
        have B5 := Lib.hid (bthen B4.out b5)
        have q5 := Lib.hid (K.below b5 q4.out)
        clear b5
        go_wp2
        go_ret
        exact ⟨ret_bool HR.out.symm, B5.out⟩
      | true =>
        have HNI := Lib.hid (fun v => show Calls Try.prog 101 #[.agg #[.int .i64 2, .int .i64 0, .int .i64 0, .int .i64 seq, .int .i64 ack, .int .i64 bits, .int .i64 window, .int .i64 urgent, .int .i64 ty, .int .i64 code, .int .i64 rest, .bool false, .slice A n c, .slice D m d]] v fun e w' => e = .returned (.bool true) ∧ Below v.heap.size v w' from (noFC (Uh.mk 2 0 0 seq ack bits window urgent ty code rest false) A D n c m d v).mono fun _ _ ⟨he, hb⟩ => ⟨he.trans (ret_bool hf), hb⟩)
        have HR := Lib.hid (show Uh.ok (Uh.mk 2 sport dport seq ack bits window urgent ty code rest nosum) k n m = decide (Uh.size (Uh.mk 2 sport dport seq ack bits window urgent ty code rest nosum) n m ≤ 1500) from (EO.out true hf).trans (by simp))
        clear hf
        go_enter Try.func65, Try.ntmps65
        go_wp2_with (with_reducible refine loadU rfl _ rfl w.heap.size rfl q.out ?_)
        refine Calls.mono (formatOfC (Uh.mk 2 sport dport seq ack bits window urgent ty code rest nosum) A D n c m d _) ?_
        rintro e w1 ⟨rfl, rfl⟩
        simp only [HF.out]
        go_wp2_with fail
        refine Calls.mono (kindOkB k true _ HK.out) ?_
        rintro e w2 ⟨rfl, rfl⟩
        go_wp2_with fail
        refine Calls.mono (HFI.out _) ?_
        rintro e w3 ⟨rfl, b3⟩
        have B3 := Lib.hid (bthen (Joins.below_alloc2 w _ _) b3)
        have q3 := Lib.hid (K.below b3 q1.out)
        clear b3
        go_wp2_with fail
        refine Calls.mono (unused_udp (Uh.mk 2 sport dport seq ack bits window urgent ty code rest nosum) A D n c m d _) ?_
        rintro e w4 ⟨rfl, b4⟩
        have B4 := Lib.hid (bthen B3.out b4)
        have q4 := Lib.hid (K.below b4 q3.out)
        clear b4
        go_wp2_with fail
        refine Calls.mono (HNI.out _) ?_
        rintro e w5 ⟨rfl, b5⟩
        have B5 := Lib.hid (bthen B4.out b5)
        have q5 := Lib.hid (K.below b5 q4.out)
        clear b5
        obtain ⟨c_0, c_1, c_2, c_3, c_4, c_5, c_6, c_7, c_8, c_9, c_10, c_11, c_12, c_13⟩ := K.cells14 q5.out
        go_wp2_with fail
        clear c_0 c_1 c_2 c_3 c_4 c_5 c_6 c_7 c_8 c_9 c_10 c_11 c_12 c_13
        refine Calls.mono (implUpSize (Uh.mk 2 sport dport seq ack bits window urgent ty code rest nosum) A D n c m d _ hn hm) ?_
        rintro e w6 ⟨rfl, b6⟩
        have B6 := Lib.hid (bthen B5.out b6)
        clear b6
        go_wp2
        go_ret
        exact ⟨ret_bool HR.out.symm, B6.out⟩
end Go.Proofs.Ythogonpjkngpjaa

namespace Go.Proofs.Ythogonpjkngpjaa
set_option maxRecDepth 100000
open Go.RowKit

set_option maxHeartbeats 4000000 in
theorem upOkI3 (sport dport seq ack bits window urgent ty code rest : Int) (nosum : Bool) (A D : Option Addr) (n c m d : Nat) (k : Int) (w : World) (hn : n ≤ 1048576) (hm : m ≤ 1048576) : Calls Try.prog 65 #[.agg #[.int .i64 3, .int .i64 sport, .int .i64 dport, .int .i64 seq, .int .i64 ack, .int .i64 bits, .int .i64 window, .int .i64 urgent, .int .i64 ty, .int .i64 code, .int .i64 rest, .bool nosum, .slice A n c, .slice D m d], .int .i64 k] w fun e w' => e = .returned (.bool (Uh.ok (Uh.mk 3 sport dport seq ack bits window urgent ty code rest nosum) k n m)) ∧ Below w.heap.size w w' := by
  have q := Lib.hid (K.new w (.cells #[.int .i64 3, .int .i64 sport, .int .i64 dport, .int .i64 seq, .int .i64 ack, .int .i64 bits, .int .i64 window, .int .i64 urgent, .int .i64 ty, .int .i64 code, .int .i64 rest, .bool nosum, .slice A n c, .slice D m d] 36))
  have q1 := Lib.hid (K.old q.out (.cells #[.int .i64 3, .int .i64 sport, .int .i64 dport, .int .i64 seq, .int .i64 ack, .int .i64 bits, .int .i64 window, .int .i64 urgent, .int .i64 ty, .int .i64 code, .int .i64 rest, .bool nosum, .slice A n c, .slice D m d] 36))
  have HF : Hid (∀ v, fmtV 3 v = .iface 112 v) := Lib.hid fun _ => rfl
  have EF := Lib.hid (show Uh.fields (Uh.mk 3 sport dport seq ack bits window urgent ty code rest nosum) k n = (upTo ty 255 && upTo code 255 && half rest) from rfl)
  cases hk : kindB k with
  | false =>
    have HK := Lib.hid hk
    have HR := Lib.hid (show Uh.ok (Uh.mk 3 sport dport seq ack bits window urgent ty code rest nosum) k n m = false by simp [Uh.ok, hk])
    clear hk
    go_enter Try.func65, Try.ntmps65
    go_wp2_with (with_reducible refine loadU rfl _ rfl w.heap.size rfl q.out ?_)
    refine Calls.mono (formatOfC (Uh.mk 3 sport dport seq ack bits window urgent ty code rest nosum) A D n c m d _) ?_
    rintro e w1 ⟨rfl, rfl⟩
    simp only [HF.out]
    go_wp2_with fail
    refine Calls.mono (kindOkB k false _ HK.out) ?_
    rintro e w2 ⟨rfl, rfl⟩
    go_wp2
    go_ret
    exact ⟨ret_bool HR.out.symm, Joins.below_alloc2 w _ _⟩
  | true =>
    have HK := Lib.hid hk
    clear hk
    cases hf : (upTo ty 255 && upTo code 255 && half rest) with
    | false =>
      have HFI := Lib.hid (fun v => show Calls Try.prog 153 #[.agg #[.int .i64 3, .int .i64 sport, .int .i64 dport, .int .i64 seq, .int .i64 ack, .int .i64 bits, .int .i64 window, .int .i64 urgent, .int .i64 ty, .int .i64 code, .int .i64 rest, .bool nosum, .slice A n c, .slice D m d], .int .i64 k] v fun e w' => e = .returned (.bool false) ∧ Below v.heap.size v w' from (icmpF (Uh.mk 3 sport dport seq ack bits window urgent ty code rest nosum) A D n c m d v k).mono fun _ _ ⟨he, hb⟩ => ⟨he.trans (ret_bool hf), hb⟩)
      have HR := Lib.hid (show Uh.ok (Uh.mk 3 sport dport seq ack bits window urgent ty code rest nosum) k n m = false by unfold Uh.ok; rw [EF.out.trans hf]; simp)
      clear hf
      go_enter Try.func65, Try.ntmps65
      go_wp2_with (with_reducible refine loadU rfl _ rfl w.heap.size rfl q.out ?_)
      refine Calls.mono (formatOfC (Uh.mk 3 sport dport seq ack bits window urgent ty code rest nosum) A D n c m d _) ?_
      rintro e w1 ⟨rfl, rfl⟩
      simp only [HF.out]
      go_wp2_with fail
      refine Calls.mono (kindOkB k true _ HK.out) ?_
      rintro e w2 ⟨rfl, rfl⟩
      go_wp2_with fail
      refine Calls.mono (HFI.out _) ?_
      rintro e w3 ⟨rfl, b3⟩
      have B3 := Lib.hid (bthen (Joins.below_alloc2 w _ _) b3)
      have q3 := Lib.hid (K.below b3 q1.out)
      clear b3
      go_wp2
      go_ret
      exact ⟨ret_bool HR.out.symm, B3.out⟩
    | true =>
      have HFI := Lib.hid (fun v => show Calls Try.prog 153 #[.agg #[.int .i64 3, .int .i64 sport, .int .i64 dport, .int .i64 seq, .int .i64 ack, .int .i64 bits, .int .i64 window, .int .i64 urgent, .int .i64 ty, .int .i64 code, .int .i64 rest, .bool nosum, .slice A n c, .slice D m d], .int .i64 k] v fun e w' => e = .returned (.bool true) ∧ Below v.heap.size v w' from (icmpF (Uh.mk 3 sport dport seq ack bits window urgent ty code rest nosum) A D n c m d v k).mono fun _ _ ⟨he, hb⟩ => ⟨he.trans (ret_bool hf), hb⟩)
      have HFF := Lib.hid (EF.out.trans hf)
      clear hf
      have EO := Lib.hid (fun b (hb : noF (Uh.mk 3 sport dport seq ack bits window urgent 0 0 0 nosum) n = b) => show Uh.ok (Uh.mk 3 sport dport seq ack bits window urgent ty code rest nosum) k n m = (b && decide (Uh.size (Uh.mk 3 sport dport seq ack bits window urgent ty code rest nosum) n m ≤ 1500)) by have e : noF (Uh.unused (Uh.mk 3 sport dport seq ack bits window urgent ty code rest nosum)) (if (Uh.kind (Uh.mk 3 sport dport seq ack bits window urgent ty code rest nosum)) = 1 then 0 else n) = b := hb; unfold Uh.ok; rw [HK.out, HFF.out, e]; simp)
      cases hf : noF (Uh.mk 3 sport dport seq ack bits window urgent 0 0 0 nosum) n with
      | false =>
        have HNI := Lib.hid (fun v => show Calls Try.prog 101 #[.agg #[.int .i64 3, .int .i64 sport, .int .i64 dport, .int .i64 seq, .int .i64 ack, .int .i64 bits, .int .i64 window, .int .i64 urgent, .int .i64 0, .int .i64 0, .int .i64 0, .bool nosum, .slice A n c, .slice D m d]] v fun e w' => e = .returned (.bool false) ∧ Below v.heap.size v w' from (noFC (Uh.mk 3 sport dport seq ack bits window urgent 0 0 0 nosum) A D n c m d v).mono fun _ _ ⟨he, hb⟩ => ⟨he.trans (ret_bool hf), hb⟩)
        have HR := Lib.hid (show Uh.ok (Uh.mk 3 sport dport seq ack bits window urgent ty code rest nosum) k n m = false from EO.out false hf)
        clear hf
        go_enter Try.func65, Try.ntmps65
        go_wp2_with (with_reducible refine loadU rfl _ rfl w.heap.size rfl q.out ?_)
        refine Calls.mono (formatOfC (Uh.mk 3 sport dport seq ack bits window urgent ty code rest nosum) A D n c m d _) ?_
        rintro e w1 ⟨rfl, rfl⟩
        simp only [HF.out]
        go_wp2_with fail
        refine Calls.mono (kindOkB k true _ HK.out) ?_
        rintro e w2 ⟨rfl, rfl⟩
        go_wp2_with fail
        refine Calls.mono (HFI.out _) ?_
        rintro e w3 ⟨rfl, b3⟩
        have B3 := Lib.hid (bthen (Joins.below_alloc2 w _ _) b3)
        have q3 := Lib.hid (K.below b3 q1.out)
        clear b3
        go_wp2_with fail
        refine Calls.mono (unused_icmp (Uh.mk 3 sport dport seq ack bits window urgent ty code rest nosum) A D n c m d _) ?_
        rintro e w4 ⟨rfl, b4⟩
        have B4 := Lib.hid (bthen B3.out b4)
        have q4 := Lib.hid (K.below b4 q3.out)
        clear b4
        go_wp2_with fail
        refine Calls.mono (HNI.out _) ?_
        rintro e w5 ⟨rfl, b5⟩
        have B5 := Lib.hid (bthen B4.out b5)
        have q5 := Lib.hid (K.below b5 q4.out)
        clear b5
        go_wp2
        go_ret
        exact ⟨ret_bool HR.out.symm, B5.out⟩
      | true =>
        have HNI := Lib.hid (fun v => show Calls Try.prog 101 #[.agg #[.int .i64 3, .int .i64 sport, .int .i64 dport, .int .i64 seq, .int .i64 ack, .int .i64 bits, .int .i64 window, .int .i64 urgent, .int .i64 0, .int .i64 0, .int .i64 0, .bool nosum, .slice A n c, .slice D m d]] v fun e w' => e = .returned (.bool true) ∧ Below v.heap.size v w' from (noFC (Uh.mk 3 sport dport seq ack bits window urgent 0 0 0 nosum) A D n c m d v).mono fun _ _ ⟨he, hb⟩ => ⟨he.trans (ret_bool hf), hb⟩)
        have HR := Lib.hid (show Uh.ok (Uh.mk 3 sport dport seq ack bits window urgent ty code rest nosum) k n m = decide (Uh.size (Uh.mk 3 sport dport seq ack bits window urgent ty code rest nosum) n m ≤ 1500) from (EO.out true hf).trans (by simp))
        clear hf
        go_enter Try.func65, Try.ntmps65
        go_wp2_with (with_reducible refine loadU rfl _ rfl w.heap.size rfl q.out ?_)
        refine Calls.mono (formatOfC (Uh.mk 3 sport dport seq ack bits window urgent ty code rest nosum) A D n c m d _) ?_
        rintro e w1 ⟨rfl, rfl⟩
        simp only [HF.out]
        go_wp2_with fail
        refine Calls.mono (kindOkB k true _ HK.out) ?_
        rintro e w2 ⟨rfl, rfl⟩
        go_wp2_with fail
        refine Calls.mono (HFI.out _) ?_
        rintro e w3 ⟨rfl, b3⟩
        have B3 := Lib.hid (bthen (Joins.below_alloc2 w _ _) b3)
        have q3 := Lib.hid (K.below b3 q1.out)
        clear b3
        go_wp2_with fail
        refine Calls.mono (unused_icmp (Uh.mk 3 sport dport seq ack bits window urgent ty code rest nosum) A D n c m d _) ?_
        rintro e w4 ⟨rfl, b4⟩
        have B4 := Lib.hid (bthen B3.out b4)
        have q4 := Lib.hid (K.below b4 q3.out)
        clear b4
        go_wp2_with fail
        refine Calls.mono (HNI.out _) ?_
        rintro e w5 ⟨rfl, b5⟩
        have B5 := Lib.hid (bthen B4.out b5)
        have q5 := Lib.hid (K.below b5 q4.out)
        clear b5
        obtain ⟨c_0, c_1, c_2, c_3, c_4, c_5, c_6, c_7, c_8, c_9, c_10, c_11, c_12, c_13⟩ := K.cells14 q5.out
        go_wp2_with fail
        clear c_0 c_1 c_2 c_3 c_4 c_5 c_6 c_7 c_8 c_9 c_10 c_11 c_12 c_13
        refine Calls.mono (implUpSize (Uh.mk 3 sport dport seq ack bits window urgent ty code rest nosum) A D n c m d _ hn hm) ?_
        rintro e w6 ⟨rfl, b6⟩
        have B6 := Lib.hid (bthen B5.out b6)
        clear b6
        go_wp2
        go_ret
        exact ⟨ret_bool HR.out.symm, B6.out⟩
end Go.Proofs.Ythogonpjkngpjaa

namespace Go.Proofs.Ythogonpjkngpjaa
set_option maxRecDepth 100000
open Go.RowKit

set_option maxHeartbeats 1000000 in
theorem upOkI4 (x : Uh) (A D : Option Addr) (n c m d : Nat) (k : Int) (w : World) (hk : x.kind ≠ 0 ∧ x.kind ≠ 1 ∧ x.kind ≠ 2 ∧ x.kind ≠ 3) : Calls Try.prog 65 #[.agg #[.int .i64 x.kind, .int .i64 x.sport, .int .i64 x.dport, .int .i64 x.seq, .int .i64 x.ack, .int .i64 x.bits, .int .i64 x.window, .int .i64 x.urgent, .int .i64 x.ty, .int .i64 x.code, .int .i64 x.rest, .bool x.nosum, .slice A n c, .slice D m d], .int .i64 k] w fun e w' => e = .returned (.bool (x.ok k n m)) ∧ Below w.heap.size w w' := by
  have q := Lib.hid (K.new w (.cells #[.int .i64 x.kind, .int .i64 x.sport, .int .i64 x.dport, .int .i64 x.seq, .int .i64 x.ack, .int .i64 x.bits, .int .i64 x.window, .int .i64 x.urgent, .int .i64 x.ty, .int .i64 x.code, .int .i64 x.rest, .bool x.nosum, .slice A n c, .slice D m d] 36))
  have HF : Hid (∀ v, fmtV x.kind v = .nilIface) := Lib.hid (fun v => by simp [fmtV, hk])
  have HZ := Lib.hid (show x.ok k n m = false by simp [Uh.ok, Uh.fields, hk])
  clear hk
  go_enter Try.func65, Try.ntmps65
  go_wp2_with (with_reducible refine loadU rfl _ rfl w.heap.size rfl q.out ?_)
  refine Calls.mono (formatOfC x A D n c m d _) ?_
  rintro e w1 ⟨rfl, rfl⟩
  simp only [HF.out]
  go_wp2
  go_ret
  exact ⟨ret_bool HZ.out.symm, Joins.below_alloc2 w _ _⟩

theorem implUpOk (x : Uh) (A D : Option Addr) (n c m d : Nat) (k : Int) (w : World) (hn : n ≤ 1048576) (hm : m ≤ 1048576) : Calls Try.prog 65 #[.agg #[.int .i64 x.kind, .int .i64 x.sport, .int .i64 x.dport, .int .i64 x.seq, .int .i64 x.ack, .int .i64 x.bits, .int .i64 x.window, .int .i64 x.urgent, .int .i64 x.ty, .int .i64 x.code, .int .i64 x.rest, .bool x.nosum, .slice A n c, .slice D m d], .int .i64 k] w fun e w' => e = .returned (.bool (x.ok k n m)) ∧ Below w.heap.size w w' := by
  have hk : x.kind = 0 ∨ x.kind = 1 ∨ x.kind = 2 ∨ x.kind = 3 ∨ (x.kind ≠ 0 ∧ x.kind ≠ 1 ∧ x.kind ≠ 2 ∧ x.kind ≠ 3) := by omega
  obtain ⟨kind, sport, dport, seq, ack, bits, window, urgent, ty, code, rest, nosum⟩ := x
  rcases hk with h | h | h | h | h
  · simp only at h; subst h; exact upOkI0 sport dport seq ack bits window urgent ty code rest nosum A D n c m d k w hn hm
  · simp only at h; subst h; exact upOkI1 sport dport seq ack bits window urgent ty code rest nosum A D n c m d k w hn hm
  · simp only at h; subst h; exact upOkI2 sport dport seq ack bits window urgent ty code rest nosum A D n c m d k w hn hm
  · simp only at h; subst h; exact upOkI3 sport dport seq ack bits window urgent ty code rest nosum A D n c m d k w hn hm
  · exact upOkI4 _ A D n c m d k w h
end Go.Proofs.Ythogonpjkngpjaa

namespace Go.Proofs.Ythogonpjkngpjaa
set_option maxRecDepth 100000
open Go.RowKit

set_option maxHeartbeats 8000000 in
theorem upOkS0_4 (sport dport seq ack bits window urgent ty code rest : Int) (nosum : Bool) (A D : Option Addr) (n c m d : Nat) (w : World) (hn : n ≤ 1048576) (hm : m ≤ 1048576) : Calls Try.prog 59 #[.agg #[.int .i64 0, .int .i64 sport, .int .i64 dport, .int .i64 seq, .int .i64 ack, .int .i64 bits, .int .i64 window, .int .i64 urgent, .int .i64 ty, .int .i64 code, .int .i64 rest, .bool nosum, .slice A n c, .slice D m d], .int .i64 4] w fun e w' => e = .returned (.bool (Uh.ok (Uh.mk 0 sport dport seq ack bits window urgent ty code rest nosum) 4 n m)) ∧ Below w.heap.size w w' := by
  cases u1 : upTo sport 65535 with
  | false =>
    have U1 := Lib.hid u1
    clear u1
    have zz : ¬ sport = 0 := fun e => by have := U1.out; rw [e, upTo_zero _ (by omega)] at this; cases this
    have q := Lib.hid (K.new w (.cells #[.int .i64 0, .int .i64 sport, .int .i64 dport, .int .i64 seq, .int .i64 ack, .int .i64 bits, .int .i64 window, .int .i64 urgent, .int .i64 ty, .int .i64 code, .int .i64 rest, .bool nosum, .slice A n c, .slice D m d] 36))
    try simp only at q ⊢
    go_enter Try.func59, Try.ntmps59
    go_wp2_with (first | (go_at_call 39; (first | (with_reducible refine (specInB sport 65535 false _ U1.out).mono ?_)); rintro e w1 ⟨rfl, rfl⟩))
    go_ret
    exact ⟨ret_bool (by simp [Uh.ok, Uh.fields, noF, Uh.unused, kindB, Uh.size, *]), Joins.below_alloc1 w _⟩
  | true =>
    have U1 := Lib.hid u1
    clear u1
    cases u2 : upTo dport 65535 with
    | false =>
      have U2 := Lib.hid u2
      clear u2
      have zz : ¬ dport = 0 := fun e => by have := U2.out; rw [e, upTo_zero _ (by omega)] at this; cases this
      have q := Lib.hid (K.new w (.cells #[.int .i64 0, .int .i64 sport, .int .i64 dport, .int .i64 seq, .int .i64 ack, .int .i64 bits, .int .i64 window, .int .i64 urgent, .int .i64 ty, .int .i64 code, .int .i64 rest, .bool nosum, .slice A n c, .slice D m d] 36))
      try simp only at q ⊢
      go_enter Try.func59, Try.ntmps59
      go_wp2_with (first | (go_at_call 39; (first | (with_reducible refine (specInB sport 65535 true _ U1.out).mono ?_) | (with_reducible refine (specInB dport 65535 false _ U2.out).mono ?_)); rintro e w1 ⟨rfl, rfl⟩))
      go_ret
      exact ⟨ret_bool (by simp [Uh.ok, Uh.fields, noF, Uh.unused, kindB, Uh.size, *]), Joins.below_alloc1 w _⟩
    | true =>
      have U2 := Lib.hid u2
      clear u2
      by_cases z_sport : sport = 0
      case neg =>
        have q := Lib.hid (K.new w (.cells #[.int .i64 0, .int .i64 sport, .int .i64 dport, .int .i64 seq, .int .i64 ack, .int .i64 bits, .int .i64 window, .int .i64 urgent, .int .i64 ty, .int .i64 code, .int .i64 rest, .bool nosum, .slice A n c, .slice D m d] 36))
        try simp only at q ⊢
        go_enter Try.func59, Try.ntmps59
        go_wp2_with (first | (go_at_call 39; (first | (with_reducible refine (specInB sport 65535 true _ U1.out).mono ?_) | (with_reducible refine (specInB dport 65535 true _ U2.out).mono ?_)); rintro e w1 ⟨rfl, rfl⟩))
        go_ret
        exact ⟨ret_bool (by simp [Uh.ok, Uh.fields, noF, Uh.unused, kindB, Uh.size, *]), Joins.below_alloc1 w _⟩
      case pos =>
        subst z_sport
        clear U1
        by_cases z_dport : dport = 0
        case neg =>
          have q := Lib.hid (K.new w (.cells #[.int .i64 0, .int .i64 0, .int .i64 dport, .int .i64 seq, .int .i64 ack, .int .i64 bits, .int .i64 window, .int .i64 urgent, .int .i64 ty, .int .i64 code, .int .i64 rest, .bool nosum, .slice A n c, .slice D m d] 36))
          try simp only at q ⊢
          go_enter Try.func59, Try.ntmps59
          go_wp2_with (first | (go_at_call 39; (first | (with_reducible refine (specInB 0 65535 true _ (by decide)).mono ?_) | (with_reducible refine (specInB dport 65535 true _ U2.out).mono ?_)); rintro e w1 ⟨rfl, rfl⟩))
          go_ret
          exact ⟨ret_bool (by simp [Uh.ok, Uh.fields, noF, Uh.unused, kindB, Uh.size, *]), Joins.below_alloc1 w _⟩
        case pos =>
          subst z_dport
          clear U2
          by_cases z_seq : seq = 0
          case neg =>
            have q := Lib.hid (K.new w (.cells #[.int .i64 0, .int .i64 0, .int .i64 0, .int .i64 seq, .int .i64 ack, .int .i64 bits, .int .i64 window, .int .i64 urgent, .int .i64 ty, .int .i64 code, .int .i64 rest, .bool nosum, .slice A n c, .slice D m d] 36))
            try simp only at q ⊢
            go_enter Try.func59, Try.ntmps59
            go_wp2_with (first | (go_at_call 39; (first | (with_reducible refine (specInB 0 65535 true _ (by decide)).mono ?_) | (with_reducible refine (specInB 0 65535 true _ (by decide)).mono ?_)); rintro e w1 ⟨rfl, rfl⟩))
            go_ret
            exact ⟨ret_bool (by simp [Uh.ok, Uh.fields, noF, Uh.unused, kindB, Uh.size, *]), Joins.below_alloc1 w _⟩
          case pos =>
            subst z_seq
            by_cases z_ack : ack = 0
            case neg =>
              have q := Lib.hid (K.new w (.cells #[.int .i64 0, .int .i64 0, .int .i64 0, .int .i64 0, .int .i64 ack, .int .i64 bits, .int .i64 window, .int .i64 urgent, .int .i64 ty, .int .i64 code, .int .i64 rest, .bool nosum, .slice A n c, .slice D m d] 36))
              try simp only at q ⊢
              go_enter Try.func59, Try.ntmps59
              go_wp2_with (first | (go_at_call 39; (first | (with_reducible refine (specInB 0 65535 true _ (by decide)).mono ?_) | (with_reducible refine (specInB 0 65535 true _ (by decide)).mono ?_)); rintro e w1 ⟨rfl, rfl⟩))
              go_ret
              exact ⟨ret_bool (by simp [Uh.ok, Uh.fields, noF, Uh.unused, kindB, Uh.size, *]), Joins.below_alloc1 w _⟩
            case pos =>
              subst z_ack
              by_cases z_bits : bits = 0
              case neg =>
                have q := Lib.hid (K.new w (.cells #[.int .i64 0, .int .i64 0, .int .i64 0, .int .i64 0, .int .i64 0, .int .i64 bits, .int .i64 window, .int .i64 urgent, .int .i64 ty, .int .i64 code, .int .i64 rest, .bool nosum, .slice A n c, .slice D m d] 36))
                try simp only at q ⊢
                go_enter Try.func59, Try.ntmps59
                go_wp2_with (first | (go_at_call 39; (first | (with_reducible refine (specInB 0 65535 true _ (by decide)).mono ?_) | (with_reducible refine (specInB 0 65535 true _ (by decide)).mono ?_)); rintro e w1 ⟨rfl, rfl⟩))
                go_ret
                exact ⟨ret_bool (by simp [Uh.ok, Uh.fields, noF, Uh.unused, kindB, Uh.size, *]), Joins.below_alloc1 w _⟩
              case pos =>
                subst z_bits
                by_cases z_window : window = 0
                case neg =>
                  have q := Lib.hid (K.new w (.cells #[.int .i64 0, .int .i64 0, .int .i64 0, .int .i64 0, .int .i64 0, .int .i64 0, .int .i64 window, .int .i64 urgent, .int .i64 ty, .int .i64 code, .int .i64 rest, .bool nosum, .slice A n c, .slice D m d] 36))
                  try simp only at q ⊢
                  go_enter Try.func59, Try.ntmps59
                  go_wp2_with (first | (go_at_call 39; (first | (with_reducible refine (specInB 0 65535 true _ (by decide)).mono ?_) | (with_reducible refine (specInB 0 65535 true _ (by decide)).mono ?_)); rintro e w1 ⟨rfl, rfl⟩))
                  go_ret
                  exact ⟨ret_bool (by simp [Uh.ok, Uh.fields, noF, Uh.unused, kindB, Uh.size, *]), Joins.below_alloc1 w _⟩
                case pos =>
                  subst z_window
                  by_cases z_urgent : urgent = 0
                  case neg =>
                    have q := Lib.hid (K.new w (.cells #[.int .i64 0, .int .i64 0, .int .i64 0, .int .i64 0, .int .i64 0, .int .i64 0, .int .i64 0, .int .i64 urgent, .int .i64 ty, .int .i64 code, .int .i64 rest, .bool nosum, .slice A n c, .slice D m d] 36))
                    try simp only at q ⊢
                    go_enter Try.func59, Try.ntmps59
                    go_wp2_with (first | (go_at_call 39; (first | (with_reducible refine (specInB 0 65535 true _ (by decide)).mono ?_) | (with_reducible refine (specInB 0 65535 true _ (by decide)).mono ?_)); rintro e w1 ⟨rfl, rfl⟩))
                    go_ret
                    exact ⟨ret_bool (by simp [Uh.ok, Uh.fields, noF, Uh.unused, kindB, Uh.size, *]), Joins.below_alloc1 w _⟩
                  case pos =>
                    subst z_urgent
                    by_cases z_n : n = 0
                    case neg =>
                      have z_m : ¬ (n : Int) = 0 := by omega
                      have q := Lib.hid (K.new w (.cells #[.int .i64 0, .int .i64 0, .int .i64 0, .int .i64 0, .int .i64 0, .int .i64 0, .int .i64 0, .int .i64 0, .int .i64 ty, .int .i64 code, .int .i64 rest, .bool nosum, .slice A n c, .slice D m d] 36))
                      try simp only at q ⊢
                      go_enter Try.func59, Try.ntmps59
                      go_wp2_with (first | (go_at_call 39; (first | (with_reducible refine (specInB 0 65535 true _ (by decide)).mono ?_) | (with_reducible refine (specInB 0 65535 true _ (by decide)).mono ?_)); rintro e w1 ⟨rfl, rfl⟩))
                      go_ret
                      exact ⟨ret_bool (by simp [Uh.ok, Uh.fields, noF, Uh.unused, kindB, Uh.size, *]), Joins.below_alloc1 w _⟩
                    case pos =>
                      subst z_n
                      by_cases z_ty : ty = 0
                      case neg =>
                        have q := Lib.hid (K.new w (.cells #[.int .i64 0, .int .i64 0, .int .i64 0, .int .i64 0, .int .i64 0, .int .i64 0, .int .i64 0, .int .i64 0, .int .i64 ty, .int .i64 code, .int .i64 rest, .bool nosum, .slice A 0 c, .slice D m d] 36))
                        try simp only at q ⊢
                        go_enter Try.func59, Try.ntmps59
                        go_wp2_with (first | (go_at_call 39; (first | (with_reducible refine (specInB 0 65535 true _ (by decide)).mono ?_) | (with_reducible refine (specInB 0 65535 true _ (by decide)).mono ?_)); rintro e w1 ⟨rfl, rfl⟩))
                        go_ret
                        exact ⟨ret_bool (by simp [Uh.ok, Uh.fields, noF, Uh.unused, kindB, Uh.size, *]), Joins.below_alloc1 w _⟩
                      case pos =>
                        subst z_ty
                        by_cases z_code : code = 0
                        case neg =>
                          have q := Lib.hid (K.new w (.cells #[.int .i64 0, .int .i64 0, .int .i64 0, .int .i64 0, .int .i64 0, .int .i64 0, .int .i64 0, .int .i64 0, .int .i64 0, .int .i64 code, .int .i64 rest, .bool nosum, .slice A 0 c, .slice D m d] 36))
                          try simp only at q ⊢
                          go_enter Try.func59, Try.ntmps59
                          go_wp2_with (first | (go_at_call 39; (first | (with_reducible refine (specInB 0 65535 true _ (by decide)).mono ?_) | (with_reducible refine (specInB 0 65535 true _ (by decide)).mono ?_)); rintro e w1 ⟨rfl, rfl⟩))
                          go_ret
                          exact ⟨ret_bool (by simp [Uh.ok, Uh.fields, noF, Uh.unused, kindB, Uh.size, *]), Joins.below_alloc1 w _⟩
                        case pos =>
                          subst z_code
                          by_cases z_rest : rest = 0
                          case neg =>
                            have q := Lib.hid (K.new w (.cells #[.int .i64 0, .int .i64 0, .int .i64 0, .int .i64 0, .int .i64 0, .int .i64 0, .int .i64 0, .int .i64 0, .int .i64 0, .int .i64 0, .int .i64 rest, .bool nosum, .slice A 0 c, .slice D m d] 36))
                            try simp only at q ⊢
                            go_enter Try.func59, Try.ntmps59
                            go_wp2_with (first | (go_at_call 39; (first | (with_reducible refine (specInB 0 65535 true _ (by decide)).mono ?_) | (with_reducible refine (specInB 0 65535 true _ (by decide)).mono ?_)); rintro e w1 ⟨rfl, rfl⟩))
                            go_ret
                            exact ⟨ret_bool (by simp [Uh.ok, Uh.fields, noF, Uh.unused, kindB, Uh.size, *]), Joins.below_alloc1 w _⟩
                          case pos =>
                            subst z_rest
                            cases nosum with
                            | true =>
                              have q := Lib.hid (K.new w (.cells #[.int .i64 0, .int .i64 0, .int .i64 0, .int .i64 0, .int .i64 0, .int .i64 0, .int .i64 0, .int .i64 0, .int .i64 0, .int .i64 0, .int .i64 0, .bool true, .slice A 0 c, .slice D m d] 36))
                              try simp only at q ⊢
                              go_enter Try.func59, Try.ntmps59
                              go_wp2_with (first | (go_at_call 39; (first | (with_reducible refine (specInB 0 65535 true _ (by decide)).mono ?_) | (with_reducible refine (specInB 0 65535 true _ (by decide)).mono ?_)); rintro e w1 ⟨rfl, rfl⟩))
                              go_ret
                              exact ⟨ret_bool (by simp [Uh.ok, Uh.fields, noF, Uh.unused, kindB, Uh.size, *]), Joins.below_alloc1 w _⟩
                            | false =>
                              by_cases z_z : m ≤ 1500
                              case neg =>
                                have z_y : ¬ (m : Int) ≤ 1500 := by omega
                                have q := Lib.hid (K.new w (.cells #[.int .i64 0, .int .i64 0, .int .i64 0, .int .i64 0, .int .i64 0, .int .i64 0, .int .i64 0, .int .i64 0, .int .i64 0, .int .i64 0, .int .i64 0, .bool false, .slice A 0 c, .slice D m d] 36))
                                have HS := Lib.hid (fun v => show Calls Try.prog 61 #[.agg #[.int .i64 0, .int .i64 0, .int .i64 0, .int .i64 0, .int .i64 0, .int .i64 0, .int .i64 0, .int .i64 0, .int .i64 0, .int .i64 0, .int .i64 0, .bool false, .slice A 0 c, .slice D m d]] v fun e w' => e = .returned (.int .i64 ((m : Int))) ∧ Below v.heap.size v w' from (show Uh.size (Uh.mk 0 0 0 0 0 0 0 0 0 0 0 false) 0 m = (m : Int) by simp [Uh.size]) ▸ specUpSize (Uh.mk 0 0 0 0 0 0 0 0 0 0 0 false) A D 0 c m d v (by omega) hm)
                                try simp only at q HS ⊢
                                go_enter Try.func59, Try.ntmps59
                                go_wp2_with (first | (go_at_call 39; (first | (with_reducible refine (specInB 0 65535 true _ (by decide)).mono ?_) | (with_reducible refine (specInB 0 65535 true _ (by decide)).mono ?_)); rintro e w1 ⟨rfl, rfl⟩) | (with_reducible refine loadU rfl _ rfl w.heap.size rfl q.out ?_) | (go_at_call 61; refine Calls.mono (HS.out _) ?_; rintro e w9 ⟨rfl, b9⟩; have B9 := Lib.hid (bthen (Joins.below_alloc1 w _) b9); clear b9))
                                go_ret
                                exact ⟨ret_bool (by simp [Uh.ok, Uh.fields, noF, Uh.unused, kindB, Uh.size, *] <;> omega), B9.out⟩
                              case pos =>
                                have z_y : (m : Int) ≤ 1500 := by omega
                                have q := Lib.hid (K.new w (.cells #[.int .i64 0, .int .i64 0, .int .i64 0, .int .i64 0, .int .i64 0, .int .i64 0, .int .i64 0, .int .i64 0, .int .i64 0, .int .i64 0, .int .i64 0, .bool false, .slice A 0 c, .slice D m d] 36))
                                have HS := Lib.hid (fun v => show Calls Try.prog 61 #[.agg #[.int .i64 0, .int .i64 0, .int .i64 0, .int .i64 0, .int .i64 0, .int .i64 0, .int .i64 0, .int .i64 0, .int .i64 0, .int .i64 0, .int .i64 0, .bool false, .slice A 0 c, .slice D m d]] v fun e w' => e = .returned (.int .i64 ((m : Int))) ∧ Below v.heap.size v w' from (show Uh.size (Uh.mk 0 0 0 0 0 0 0 0 0 0 0 false) 0 m = (m : Int) by simp [Uh.size]) ▸ specUpSize (Uh.mk 0 0 0 0 0 0 0 0 0 0 0 false) A D 0 c m d v (by omega) hm)
                                try simp only at q HS ⊢
                                go_enter Try.func59, Try.ntmps59
                                go_wp2_with (first | (go_at_call 39; (first | (with_reducible refine (specInB 0 65535 true _ (by decide)).mono ?_) | (with_reducible refine (specInB 0 65535 true _ (by decide)).mono ?_)); rintro e w1 ⟨rfl, rfl⟩) | (with_reducible refine loadU rfl _ rfl w.heap.size rfl q.out ?_) | (go_at_call 61; refine Calls.mono (HS.out _) ?_; rintro e w9 ⟨rfl, b9⟩; have B9 := Lib.hid (bthen (Joins.below_alloc1 w _) b9); clear b9))
                                go_ret
                                exact ⟨ret_bool (by simp [Uh.ok, Uh.fields, noF, Uh.unused, kindB, Uh.size, *] <;> omega), B9.out⟩

end Go.Proofs.Ythogonpjkngpjaa

namespace Go.Proofs.Ythogonpjkngpjaa
set_option maxRecDepth 100000
open Go.RowKit

set_option maxHeartbeats 8000000 in
theorem upOkS0_6 (sport dport seq ack bits window urgent ty code rest : Int) (nosum : Bool) (A D : Option Addr) (n c m d : Nat) (w : World) (hn : n ≤ 1048576) (hm : m ≤ 1048576) : Calls Try.prog 59 #[.agg #[.int .i64 0, .int .i64 sport, .int .i64 dport, .int .i64 seq, .int .i64 ack, .int .i64 bits, .int .i64 window, .int .i64 urgent, .int .i64 ty, .int .i64 code, .int .i64 rest, .bool nosum, .slice A n c, .slice D m d], .int .i64 6] w fun e w' => e = .returned (.bool (Uh.ok (Uh.mk 0 sport dport seq ack bits window urgent ty code rest nosum) 6 n m)) ∧ Below w.heap.size w w' := by
  cases u1 : upTo sport 65535 with
  | false =>
    have U1 := Lib.hid u1
    clear u1
    have zz : ¬ sport = 0 := fun e => by have := U1.out; rw [e, upTo_zero _ (by omega)] at this; cases this
    have q := Lib.hid (K.new w (.cells #[.int .i64 0, .int .i64 sport, .int .i64 dport, .int .i64 seq, .int .i64 ack, .int .i64 bits, .int .i64 window, .int .i64 urgent, .int .i64 ty, .int .i64 code, .int .i64 rest, .bool nosum, .slice A n c, .slice D m d] 36))
    try simp only at q ⊢
    go_enter Try.func59, Try.ntmps59
    go_wp2_with (first | (go_at_call 39; (first | (with_reducible refine (specInB sport 65535 false _ U1.out).mono ?_)); rintro e w1 ⟨rfl, rfl⟩))
    go_ret
    exact ⟨ret_bool (by simp [Uh.ok, Uh.fields, noF, Uh.unused, kindB, Uh.size, *]), Joins.below_alloc1 w _⟩
  | true =>
    have U1 := Lib.hid u1
    clear u1
    cases u2 : upTo dport 65535 with
    | false =>
      have U2 := Lib.hid u2
      clear u2
      have zz : ¬ dport = 0 := fun e => by have := U2.out; rw [e, upTo_zero _ (by omega)] at this; cases this
      have q := Lib.hid (K.new w (.cells #[.int .i64 0, .int .i64 sport, .int .i64 dport, .int .i64 seq, .int .i64 ack, .int .i64 bits, .int .i64 window, .int .i64 urgent, .int .i64 ty, .int .i64 code, .int .i64 rest, .bool nosum, .slice A n c, .slice D m d] 36))
      try simp only at q ⊢
      go_enter Try.func59, Try.ntmps59
      go_wp2_with (first | (go_at_call 39; (first | (with_reducible refine (specInB sport 65535 true _ U1.out).mono ?_) | (with_reducible refine (specInB dport 65535 false _ U2.out).mono ?_)); rintro e w1 ⟨rfl, rfl⟩))
      go_ret
      exact ⟨ret_bool (by simp [Uh.ok, Uh.fields, noF, Uh.unused, kindB, Uh.size, *]), Joins.below_alloc1 w _⟩
    | true =>
      have U2 := Lib.hid u2
      clear u2
      by_cases z_sport : sport = 0
      case neg =>
        have q := Lib.hid (K.new w (.cells #[.int .i64 0, .int .i64 sport, .int .i64 dport, .int .i64 seq, .int .i64 ack, .int .i64 bits, .int .i64 window, .int .i64 urgent, .int .i64 ty, .int .i64 code, .int .i64 rest, .bool nosum, .slice A n c, .slice D m d] 36))
        try simp only at q ⊢
        go_enter Try.func59, Try.ntmps59
        go_wp2_with (first | (go_at_call 39; (first | (with_reducible refine (specInB sport 65535 true _ U1.out).mono ?_) | (with_reducible refine (specInB dport 65535 true _ U2.out).mono ?_)); rintro e w1 ⟨rfl, rfl⟩))
        go_ret
        exact ⟨ret_bool (by simp [Uh.ok, Uh.fields, noF, Uh.unused, kindB, Uh.size, *]), Joins.below_alloc1 w _⟩
      case pos =>
        subst z_sport
        clear U1
        by_cases z_dport : dport = 0
        case neg =>
          have q := Lib.hid (K.new w (.cells #[.int .i64 0, .int .i64 0, .int .i64 dport, .int .i64 seq, .int .i64 ack, .int .i64 bits, .int .i64 window, .int .i64 urgent, .int .i64 ty, .int .i64 code, .int .i64 rest, .bool nosum, .slice A n c, .slice D m d] 36))
          try simp only at q ⊢
          go_enter Try.func59, Try.ntmps59
          go_wp2_with (first | (go_at_call 39; (first | (with_reducible refine (specInB 0 65535 true _ (by decide)).mono ?_) | (with_reducible refine (specInB dport 65535 true _ U2.out).mono ?_)); rintro e w1 ⟨rfl, rfl⟩))
          go_ret
          exact ⟨ret_bool (by simp [Uh.ok, Uh.fields, noF, Uh.unused, kindB, Uh.size, *]), Joins.below_alloc1 w _⟩
        case pos =>
          subst z_dport
          clear U2
          by_cases z_seq : seq = 0
          case neg =>
            have q := Lib.hid (K.new w (.cells #[.int .i64 0, .int .i64 0, .int .i64 0, .int .i64 seq, .int .i64 ack, .int .i64 bits, .int .i64 window, .int .i64 urgent, .int .i64 ty, .int .i64 code, .int .i64 rest, .bool nosum, .slice A n c, .slice D m d] 36))
            try simp only at q ⊢
            go_enter Try.func59, Try.ntmps59
            go_wp2_with (first | (go_at_call 39; (first | (with_reducible refine (specInB 0 65535 true _ (by decide)).mono ?_) | (with_reducible refine (specInB 0 65535 true _ (by decide)).mono ?_)); rintro e w1 ⟨rfl, rfl⟩))
            go_ret
            exact ⟨ret_bool (by simp [Uh.ok, Uh.fields, noF, Uh.unused, kindB, Uh.size, *]), Joins.below_alloc1 w _⟩
          case pos =>
            subst z_seq
            by_cases z_ack : ack = 0
            case neg =>
              have q := Lib.hid (K.new w (.cells #[.int .i64 0, .int .i64 0, .int .i64 0, .int .i64 0, .int .i64 ack, .int .i64 bits, .int .i64 window, .int .i64 urgent, .int .i64 ty, .int .i64 code, .int .i64 rest, .bool nosum, .slice A n c, .slice D m d] 36))
              try simp only at q ⊢
              go_enter Try.func59, Try.ntmps59
              go_wp2_with (first | (go_at_call 39; (first | (with_reducible refine (specInB 0 65535 true _ (by decide)).mono ?_) | (with_reducible refine (specInB 0 65535 true _ (by decide)).mono ?_)); rintro e w1 ⟨rfl, rfl⟩))
              go_ret
              exact ⟨ret_bool (by simp [Uh.ok, Uh.fields, noF, Uh.unused, kindB, Uh.size, *]), Joins.below_alloc1 w _⟩
            case pos =>
              subst z_ack
              by_cases z_bits : bits = 0
              case neg =>
                have q := Lib.hid (K.new w (.cells #[.int .i64 0, .int .i64 0, .int .i64 0, .int .i64 0, .int .i64 0, .int .i64 bits, .int .i64 window, .int .i64 urgent, .int .i64 ty, .int .i64 code, .int .i64 rest, .bool nosum, .slice A n c, .slice D m d] 36))
                try simp only at q ⊢
                go_enter Try.func59, Try.ntmps59
                go_wp2_with (first | (go_at_call 39; (first | (with_reducible refine (specInB 0 65535 true _ (by decide)).mono ?_) | (with_reducible refine (specInB 0 65535 true _ (by decide)).mono ?_)); rintro e w1 ⟨rfl, rfl⟩))
                go_ret
                exact ⟨ret_bool (by simp [Uh.ok, Uh.fields, noF, Uh.unused, kindB, Uh.size, *]), Joins.below_alloc1 w _⟩
              case pos =>
                subst z_bits
                by_cases z_window : window = 0
                case neg =>
                  have q := Lib.hid (K.new w (.cells #[.int .i64 0, .int .i64 0, .int .i64 0, .int .i64 0, .int .i64 0, .int .i64 0, .int .i64 window, .int .i64 urgent, .int .i64 ty, .int .i64 code, .int .i64 rest, .bool nosum, .slice A n c, .slice D m d] 36))
                  try simp only at q ⊢
                  go_enter Try.func59, Try.ntmps59
                  go_wp2_with (first | (go_at_call 39; (first | (with_reducible refine (specInB 0 65535 true _ (by decide)).mono ?_) | (with_reducible refine (specInB 0 65535 true _ (by decide)).mono ?_)); rintro e w1 ⟨rfl, rfl⟩))
                  go_ret
                  exact ⟨ret_bool (by simp [Uh.ok, Uh.fields, noF, Uh.unused, kindB, Uh.size, *]), Joins.below_alloc1 w _⟩
                case pos =>
                  subst z_window
                  by_cases z_urgent : urgent = 0
                  case neg =>
                    have q := Lib.hid (K.new w (.cells #[.int .i64 0, .int .i64 0, .int .i64 0, .int .i64 0, .int .i64 0, .int .i64 0, .int .i64 0, .int .i64 urgent, .int .i64 ty, .int .i64 code, .int .i64 rest, .bool nosum, .slice A n c, .slice D m d] 36))
                    try simp only at q ⊢
                    go_enter Try.func59, Try.ntmps59
                    go_wp2_with (first | (go_at_call 39; (first | (with_reducible refine (specInB 0 65535 true _ (by decide)).mono ?_) | (with_reducible refine (specInB 0 65535 true _ (by decide)).mono ?_)); rintro e w1 ⟨rfl, rfl⟩))
                    go_ret
                    exact ⟨ret_bool (by simp [Uh.ok, Uh.fields, noF, Uh.unused, kindB, Uh.size, *]), Joins.below_alloc1 w _⟩
                  case pos =>
                    subst z_urgent
                    by_cases z_n : n = 0
                    case neg =>
                      have z_m : ¬ (n : Int) = 0 := by omega
                      have q := Lib.hid (K.new w (.cells #[.int .i64 0, .int .i64 0, .int .i64 0, .int .i64 0, .int .i64 0, .int .i64 0, .int .i64 0, .int .i64 0, .int .i64 ty, .int .i64 code, .int .i64 rest, .bool nosum, .slice A n c, .slice D m d] 36))
                      try simp only at q ⊢
                      go_enter Try.func59, Try.ntmps59
                      go_wp2_with (first | (go_at_call 39; (first | (with_reducible refine (specInB 0 65535 true _ (by decide)).mono ?_) | (with_reducible refine (specInB 0 65535 true _ (by decide)).mono ?_)); rintro e w1 ⟨rfl, rfl⟩))
                      go_ret
                      exact ⟨ret_bool (by simp [Uh.ok, Uh.fields, noF, Uh.unused, kindB, Uh.size, *]), Joins.below_alloc1 w _⟩
                    case pos =>
                      subst z_n
                      by_cases z_ty : ty = 0
                      case neg =>
                        have q := Lib.hid (K.new w (.cells #[.int .i64 0, .int .i64 0, .int .i64 0, .int .i64 0, .int .i64 0, .int .i64 0, .int .i64 0, .int .i64 0, .int .i64 ty, .int .i64 code, .int .i64 rest, .bool nosum, .slice A 0 c, .slice D m d] 36))
                        try simp only at q ⊢
                        go_enter Try.func59, Try.ntmps59
                        go_wp2_with (first | (go_at_call 39; (first | (with_reducible refine (specInB 0 65535 true _ (by decide)).mono ?_) | (with_reducible refine (specInB 0 65535 true _ (by decide)).mono ?_)); rintro e w1 ⟨rfl, rfl⟩))
                        go_ret
                        exact ⟨ret_bool (by simp [Uh.ok, Uh.fields, noF, Uh.unused, kindB, Uh.size, *]), Joins.below_alloc1 w _⟩
                      case pos =>
                        subst z_ty
                        by_cases z_code : code = 0
                        case neg =>
                          have q := Lib.hid (K.new w (.cells #[.int .i64 0, .int .i64 0, .int .i64 0, .int .i64 0, .int .i64 0, .int .i64 0, .int .i64 0, .int .i64 0, .int .i64 0, .int .i64 code, .int .i64 rest, .bool nosum, .slice A 0 c, .slice D m d] 36))
                          try simp only at q ⊢
                          go_enter Try.func59, Try.ntmps59
                          go_wp2_with (first | (go_at_call 39; (first | (with_reducible refine (specInB 0 65535 true _ (by decide)).mono ?_) | (with_reducible refine (specInB 0 65535 true _ (by decide)).mono ?_)); rintro e w1 ⟨rfl, rfl⟩))
                          go_ret
                          exact ⟨ret_bool (by simp [Uh.ok, Uh.fields, noF, Uh.unused, kindB, Uh.size, *]), Joins.below_alloc1 w _⟩
                        case pos =>
                          subst z_code
                          by_cases z_rest : rest = 0
                          case neg =>
                            have q := Lib.hid (K.new w (.cells #[.int .i64 0, .int .i64 0, .int .i64 0, .int .i64 0, .int .i64 0, .int .i64 0, .int .i64 0, .int .i64 0, .int .i64 0, .int .i64 0, .int .i64 rest, .bool nosum, .slice A 0 c, .slice D m d] 36))
                            try simp only at q ⊢
                            go_enter Try.func59, Try.ntmps59
                            go_wp2_with (first | (go_at_call 39; (first | (with_reducible refine (specInB 0 65535 true _ (by decide)).mono ?_) | (with_reducible refine (specInB 0 65535 true _ (by decide)).mono ?_)); rintro e w1 ⟨rfl, rfl⟩))
                            go_ret
                            exact ⟨ret_bool (by simp [Uh.ok, Uh.fields, noF, Uh.unused, kindB, Uh.size, *]), Joins.below_alloc1 w _⟩
                          case pos =>
                            subst z_rest
                            cases nosum with
                            | true =>
                              have q := Lib.hid (K.new w (.cells #[.int .i64 0, .int .i64 0, .int .i64 0, .int .i64 0, .int .i64 0, .int .i64 0, .int .i64 0, .int .i64 0, .int .i64 0, .int .i64 0, .int .i64 0, .bool true, .slice A 0 c, .slice D m d] 36))
                              try simp only at q ⊢
                              go_enter Try.func59, Try.ntmps59
                              go_wp2_with (first | (go_at_call 39; (first | (with_reducible refine (specInB 0 65535 true _ (by decide)).mono ?_) | (with_reducible refine (specInB 0 65535 true _ (by decide)).mono ?_)); rintro e w1 ⟨rfl, rfl⟩))
                              go_ret
                              exact ⟨ret_bool (by simp [Uh.ok, Uh.fields, noF, Uh.unused, kindB, Uh.size, *]), Joins.below_alloc1 w _⟩
                            | false =>
                              by_cases z_z : m ≤ 1500
                              case neg =>
                                have z_y : ¬ (m : Int) ≤ 1500 := by omega
                                have q := Lib.hid (K.new w (.cells #[.int .i64 0, .int .i64 0, .int .i64 0, .int .i64 0, .int .i64 0, .int .i64 0, .int .i64 0, .int .i64 0, .int .i64 0, .int .i64 0, .int .i64 0, .bool false, .slice A 0 c, .slice D m d] 36))
                                have HS := Lib.hid (fun v => show Calls Try.prog 61 #[.agg #[.int .i64 0, .int .i64 0, .int .i64 0, .int .i64 0, .int .i64 0, .int .i64 0, .int .i64 0, .int .i64 0, .int .i64 0, .int .i64 0, .int .i64 0, .bool false, .slice A 0 c, .slice D m d]] v fun e w' => e = .returned (.int .i64 ((m : Int))) ∧ Below v.heap.size v w' from (show Uh.size (Uh.mk 0 0 0 0 0 0 0 0 0 0 0 false) 0 m = (m : Int) by simp [Uh.size]) ▸ specUpSize (Uh.mk 0 0 0 0 0 0 0 0 0 0 0 false) A D 0 c m d v (by omega) hm)
                                try simp only at q HS ⊢
                                go_enter Try.func59, Try.ntmps59
                                go_wp2_with (first | (go_at_call 39; (first | (with_reducible refine (specInB 0 65535 true _ (by decide)).mono ?_) | (with_reducible refine (specInB 0 65535 true _ (by decide)).mono ?_)); rintro e w1 ⟨rfl, rfl⟩) | (with_reducible refine loadU rfl _ rfl w.heap.size rfl q.out ?_) | (go_at_call 61; refine Calls.mono (HS.out _) ?_; rintro e w9 ⟨rfl, b9⟩; have B9 := Lib.hid (bthen (Joins.below_alloc1 w _) b9); clear b9))
                                go_ret
                                exact ⟨ret_bool (by simp [Uh.ok, Uh.fields, noF, Uh.unused, kindB, Uh.size, *] <;> omega), B9.out⟩
                              case pos =>
                                have z_y : (m : Int) ≤ 1500 := by omega
                                have q := Lib.hid (K.new w (.cells #[.int .i64 0, .int .i64 0, .int .i64 0, .int .i64 0, .int .i64 0, .int .i64 0, .int .i64 0, .int .i64 0, .int .i64 0, .int .i64 0, .int .i64 0, .bool false, .slice A 0 c, .slice D m d] 36))
                                have HS := Lib.hid (fun v => show Calls Try.prog 61 #[.agg #[.int .i64 0, .int .i64 0, .int .i64 0, .int .i64 0, .int .i64 0, .int .i64 0, .int .i64 0, .int .i64 0, .int .i64 0, .int .i64 0, .int .i64 0, .bool false, .slice A 0 c, .slice D m d]] v fun e w' => e = .returned (.int .i64 ((m : Int))) ∧ Below v.heap.size v w' from (show Uh.size (Uh.mk 0 0 0 0 0 0 0 0 0 0 0 false) 0 m = (m : Int) by simp [Uh.size]) ▸ specUpSize (Uh.mk 0 0 0 0 0 0 0 0 0 0 0 false) A D 0 c m d v (by omega) hm)
                                try simp only at q HS ⊢
                                go_enter Try.func59, Try.ntmps59
                                go_wp2_with (first | (go_at_call 39; (first | (with_reducible refine (specInB 0 65535 true _ (by decide)).mono ?_) | (with_reducible refine (specInB 0 65535 true _ (by decide)).mono ?_)); rintro e w1 ⟨rfl, rfl⟩) | (with_reducible refine loadU rfl _ rfl w.heap.size rfl q.out ?_) | (go_at_call 61; refine Calls.mono (HS.out _) ?_; rintro e w9 ⟨rfl, b9⟩; have B9 := Lib.hid (bthen (Joins.below_alloc1 w _) b9); clear b9))
                                go_ret
                                exact ⟨ret_bool (by simp [Uh.ok, Uh.fields, noF, Uh.unused, kindB, Uh.size, *] <;> omega), B9.out⟩

end Go.Proofs.Ythogonpjkngpjaa

namespace Go.Proofs.Ythogonpjkngpjaa
set_option maxRecDepth 100000
open Go.RowKit

theorem specHalfB14 (n : Int) (b : Bool) (w : World) (h : half n = b) : Calls Try.prog 97 #[.int .i64 n] w fun e w' => e = .returned (.bool b) ∧ w = w' := h ▸ specHalf n w

set_option maxHeartbeats 8000000 in
theorem upOkS1_4 (sport dport seq ack bits window urgent ty code rest : Int) (nosum : Bool) (A D : Option Addr) (n c m d : Nat) (w : World) (hn : n ≤ 1048576) (hm : m ≤ 1048576) : Calls Try.prog 59 #[.agg #[.int .i64 1, .int .i64 sport, .int .i64 dport, .int .i64 seq, .int .i64 ack, .int .i64 bits, .int .i64 window, .int .i64 urgent, .int .i64 ty, .int .i64 code, .int .i64 rest, .bool nosum, .slice A n c, .slice D m d], .int .i64 4] w fun e w' => e = .returned (.bool (Uh.ok (Uh.mk 1 sport dport seq ack bits window urgent ty code rest nosum) 4 n m)) ∧ Below w.heap.size w w' := by
  cases u1 : upTo sport 65535 with
  | false =>
    have U1 := Lib.hid u1
    clear u1
    have q := Lib.hid (K.new w (.cells #[.int .i64 1, .int .i64 sport, .int .i64 dport, .int .i64 seq, .int .i64 ack, .int .i64 bits, .int .i64 window, .int .i64 urgent, .int .i64 ty, .int .i64 code, .int .i64 rest, .bool nosum, .slice A n c, .slice D m d] 36))
    try simp only at q ⊢
    go_enter Try.func59, Try.ntmps59
    go_wp2_with (first | (go_at_call 39; (first | (with_reducible refine (specInB sport 65535 false _ U1.out).mono ?_)); rintro e w1 ⟨rfl, rfl⟩))
    go_ret
    exact ⟨ret_bool (by simp [Uh.ok, Uh.fields, noF, Uh.unused, kindB, Uh.size, U1.out, *]), Joins.below_alloc1 w _⟩
  | true =>
    have U1 := Lib.hid u1
    clear u1
    cases u2 : upTo dport 65535 with
    | false =>
      have U2 := Lib.hid u2
      clear u2
      have q := Lib.hid (K.new w (.cells #[.int .i64 1, .int .i64 sport, .int .i64 dport, .int .i64 seq, .int .i64 ack, .int .i64 bits, .int .i64 window, .int .i64 urgent, .int .i64 ty, .int .i64 code, .int .i64 rest, .bool nosum, .slice A n c, .slice D m d] 36))
      try simp only at q ⊢
      go_enter Try.func59, Try.ntmps59
      go_wp2_with (first | (go_at_call 39; (first | (with_reducible refine (specInB sport 65535 true _ U1.out).mono ?_) | (with_reducible refine (specInB dport 65535 false _ U2.out).mono ?_)); rintro e w1 ⟨rfl, rfl⟩))
      go_ret
      exact ⟨ret_bool (by simp [Uh.ok, Uh.fields, noF, Uh.unused, kindB, Uh.size, U1.out, U2.out, *]), Joins.below_alloc1 w _⟩
    | true =>
      have U2 := Lib.hid u2
      clear u2
      cases u3 : half seq with
      | false =>
        have U3 := Lib.hid u3
        clear u3
        have q := Lib.hid (K.new w (.cells #[.int .i64 1, .int .i64 sport, .int .i64 dport, .int .i64 seq, .int .i64 ack, .int .i64 bits, .int .i64 window, .int .i64 urgent, .int .i64 ty, .int .i64 code, .int .i64 rest, .bool nosum, .slice A n c, .slice D m d] 36))
        try simp only at q ⊢
        go_enter Try.func59, Try.ntmps59
        go_wp2_with (first | (go_at_call 39; (first | (with_reducible refine (specInB sport 65535 true _ U1.out).mono ?_) | (with_reducible refine (specInB dport 65535 true _ U2.out).mono ?_)); rintro e w1 ⟨rfl, rfl⟩) | (go_at_call 97; (first | (with_reducible refine (specHalfB14 seq false _ U3.out).mono ?_)); rintro e w1 ⟨rfl, rfl⟩))
        go_ret
        exact ⟨ret_bool (by simp [Uh.ok, Uh.fields, noF, Uh.unused, kindB, Uh.size, U1.out, U2.out, U3.out, *]), Joins.below_alloc1 w _⟩
      | true =>
        have U3 := Lib.hid u3
        clear u3
        cases u4 : half ack with
        | false =>
          have U4 := Lib.hid u4
          clear u4
          have q := Lib.hid (K.new w (.cells #[.int .i64 1, .int .i64 sport, .int .i64 dport, .int .i64 seq, .int .i64 ack, .int .i64 bits, .int .i64 window, .int .i64 urgent, .int .i64 ty, .int .i64 code, .int .i64 rest, .bool nosum, .slice A n c, .slice D m d] 36))
          try simp only at q ⊢
          go_enter Try.func59, Try.ntmps59
          go_wp2_with (first | (go_at_call 39; (first | (with_reducible refine (specInB sport 65535 true _ U1.out).mono ?_) | (with_reducible refine (specInB dport 65535 true _ U2.out).mono ?_)); rintro e w1 ⟨rfl, rfl⟩) | (go_at_call 97; (first | (with_reducible refine (specHalfB14 seq true _ U3.out).mono ?_) | (with_reducible refine (specHalfB14 ack false _ U4.out).mono ?_)); rintro e w1 ⟨rfl, rfl⟩))
          go_ret
          exact ⟨ret_bool (by simp [Uh.ok, Uh.fields, noF, Uh.unused, kindB, Uh.size, U1.out, U2.out, U3.out, U4.out, *]), Joins.below_alloc1 w _⟩
        | true =>
          have U4 := Lib.hid u4
          clear u4
          cases u5 : upTo bits 4095 with
          | false =>
            have U5 := Lib.hid u5
            clear u5
            have q := Lib.hid (K.new w (.cells #[.int .i64 1, .int .i64 sport, .int .i64 dport, .int .i64 seq, .int .i64 ack, .int .i64 bits, .int .i64 window, .int .i64 urgent, .int .i64 ty, .int .i64 code, .int .i64 rest, .bool nosum, .slice A n c, .slice D m d] 36))
            try simp only at q ⊢
            go_enter Try.func59, Try.ntmps59
            go_wp2_with (first | (go_at_call 39; (first | (with_reducible refine (specInB sport 65535 true _ U1.out).mono ?_) | (with_reducible refine (specInB dport 65535 true _ U2.out).mono ?_) | (with_reducible refine (specInB bits 4095 false _ U5.out).mono ?_)); rintro e w1 ⟨rfl, rfl⟩) | (go_at_call 97; (first | (with_reducible refine (specHalfB14 seq true _ U3.out).mono ?_) | (with_reducible refine (specHalfB14 ack true _ U4.out).mono ?_)); rintro e w1 ⟨rfl, rfl⟩))
            go_ret
            exact ⟨ret_bool (by simp [Uh.ok, Uh.fields, noF, Uh.unused, kindB, Uh.size, U1.out, U2.out, U3.out, U4.out, U5.out, *]), Joins.below_alloc1 w _⟩
          | true =>
            have U5 := Lib.hid u5
            clear u5
            cases u6 : upTo window 65535 with
            | false =>
              have U6 := Lib.hid u6
              clear u6
              have q := Lib.hid (K.new w (.cells #[.int .i64 1, .int .i64 sport, .int .i64 dport, .int .i64 seq, .int .i64 ack, .int .i64 bits, .int .i64 window, .int .i64 urgent, .int .i64 ty, .int .i64 code, .int .i64 rest, .bool nosum, .slice A n c, .slice D m d] 36))
              try simp only at q ⊢
              go_enter Try.func59, Try.ntmps59
              go_wp2_with (first | (go_at_call 39; (first | (with_reducible refine (specInB sport 65535 true _ U1.out).mono ?_) | (with_reducible refine (specInB dport 65535 true _ U2.out).mono ?_) | (with_reducible refine (specInB bits 4095 true _ U5.out).mono ?_) | (with_reducible refine (specInB window 65535 false _ U6.out).mono ?_)); rintro e w1 ⟨rfl, rfl⟩) | (go_at_call 97; (first | (with_reducible refine (specHalfB14 seq true _ U3.out).mono ?_) | (with_reducible refine (specHalfB14 ack true _ U4.out).mono ?_)); rintro e w1 ⟨rfl, rfl⟩))
              go_ret
              exact ⟨ret_bool (by simp [Uh.ok, Uh.fields, noF, Uh.unused, kindB, Uh.size, U1.out, U2.out, U3.out, U4.out, U5.out, U6.out, *]), Joins.below_alloc1 w _⟩
            | true =>
              have U6 := Lib.hid u6
              clear u6
              cases u7 : upTo urgent 65535 with
              | false =>
                have U7 := Lib.hid u7
                clear u7
                have q := Lib.hid (K.new w (.cells #[.int .i64 1, .int .i64 sport, .int .i64 dport, .int .i64 seq, .int .i64 ack, .int .i64 bits, .int .i64 window, .int .i64 urgent, .int .i64 ty, .int .i64 code, .int .i64 rest, .bool nosum, .slice A n c, .slice D m d] 36))
                try simp only at q ⊢
                go_enter Try.func59, Try.ntmps59
                go_wp2_with (first | (go_at_call 39; (first | (with_reducible refine (specInB sport 65535 true _ U1.out).mono ?_) | (with_reducible refine (specInB dport 65535 true _ U2.out).mono ?_) | (with_reducible refine (specInB bits 4095 true _ U5.out).mono ?_) | (with_reducible refine (specInB window 65535 true _ U6.out).mono ?_) | (with_reducible refine (specInB urgent 65535 false _ U7.out).mono ?_)); rintro e w1 ⟨rfl, rfl⟩) | (go_at_call 97; (first | (with_reducible refine (specHalfB14 seq true _ U3.out).mono ?_) | (with_reducible refine (specHalfB14 ack true _ U4.out).mono ?_)); rintro e w1 ⟨rfl, rfl⟩))
                go_ret
                exact ⟨ret_bool (by simp [Uh.ok, Uh.fields, noF, Uh.unused, kindB, Uh.size, U1.out, U2.out, U3.out, U4.out, U5.out, U6.out, U7.out, *]), Joins.below_alloc1 w _⟩
              | true =>
                have U7 := Lib.hid u7
                clear u7
                by_cases z_o : n ≤ 40
                case neg =>
                  have z_m : (40 : Int) < n := by omega
                  have z_p : optOk n = false := by simp [optOk, z_o]
                  have q := Lib.hid (K.new w (.cells #[.int .i64 1, .int .i64 sport, .int .i64 dport, .int .i64 seq, .int .i64 ack, .int .i64 bits, .int .i64 window, .int .i64 urgent, .int .i64 ty, .int .i64 code, .int .i64 rest, .bool nosum, .slice A n c, .slice D m d] 36))
                  try simp only at q ⊢
                  go_enter Try.func59, Try.ntmps59
                  go_wp2_with (first | (go_at_call 39; (first | (with_reducible refine (specInB sport 65535 true _ U1.out).mono ?_) | (with_reducible refine (specInB dport 65535 true _ U2.out).mono ?_) | (with_reducible refine (specInB bits 4095 true _ U5.out).mono ?_) | (with_reducible refine (specInB window 65535 true _ U6.out).mono ?_) | (with_reducible refine (specInB urgent 65535 true _ U7.out).mono ?_)); rintro e w1 ⟨rfl, rfl⟩) | (go_at_call 97; (first | (with_reducible refine (specHalfB14 seq true _ U3.out).mono ?_) | (with_reducible refine (specHalfB14 ack true _ U4.out).mono ?_)); rintro e w1 ⟨rfl, rfl⟩))
                  go_ret
                  exact ⟨ret_bool (by simp [Uh.ok, Uh.fields, noF, Uh.unused, kindB, Uh.size, U1.out, U2.out, U3.out, U4.out, U5.out, U6.out, U7.out, *]), Joins.below_alloc1 w _⟩
                case pos =>
                  have z_m : (n : Int) ≤ 40 := by omega
                  by_cases z_r : n % 4 = 0
                  case neg =>
                    have z_s : ¬ (n : Int) % 4 = 0 := by omega
                    have z_t : ((n : Int) % 4 != 0) = true := by simp [z_s]
                    have z_p : optOk n = false := by simp [optOk, z_r]
                    have q := Lib.hid (K.new w (.cells #[.int .i64 1, .int .i64 sport, .int .i64 dport, .int .i64 seq, .int .i64 ack, .int .i64 bits, .int .i64 window, .int .i64 urgent, .int .i64 ty, .int .i64 code, .int .i64 rest, .bool nosum, .slice A n c, .slice D m d] 36))
                    try simp only at q ⊢
                    go_enter Try.func59, Try.ntmps59
                    go_wp2_with (first | (go_at_call 39; (first | (with_reducible refine (specInB sport 65535 true _ U1.out).mono ?_) | (with_reducible refine (specInB dport 65535 true _ U2.out).mono ?_) | (with_reducible refine (specInB bits 4095 true _ U5.out).mono ?_) | (with_reducible refine (specInB window 65535 true _ U6.out).mono ?_) | (with_reducible refine (specInB urgent 65535 true _ U7.out).mono ?_)); rintro e w1 ⟨rfl, rfl⟩) | (go_at_call 97; (first | (with_reducible refine (specHalfB14 seq true _ U3.out).mono ?_) | (with_reducible refine (specHalfB14 ack true _ U4.out).mono ?_)); rintro e w1 ⟨rfl, rfl⟩))
                    go_ret
                    exact ⟨ret_bool (by simp [Uh.ok, Uh.fields, noF, Uh.unused, kindB, Uh.size, U1.out, U2.out, U3.out, U4.out, U5.out, U6.out, U7.out, *]), Joins.below_alloc1 w _⟩
                  case pos =>
                    have z_s : (n : Int) % 4 = 0 := by omega
                    have z_p : optOk n = true := by simp [optOk, z_o, z_r]
                    by_cases z_ty : ty = 0
                    case neg =>
                      have q := Lib.hid (K.new w (.cells #[.int .i64 1, .int .i64 sport, .int .i64 dport, .int .i64 seq, .int .i64 ack, .int .i64 bits, .int .i64 window, .int .i64 urgent, .int .i64 ty, .int .i64 code, .int .i64 rest, .bool nosum, .slice A n c, .slice D m d] 36))
                      try simp only at q ⊢
                      go_enter Try.func59, Try.ntmps59
                      go_wp2_with (first | (go_at_call 39; (first | (with_reducible refine (specInB sport 65535 true _ U1.out).mono ?_) | (with_reducible refine (specInB dport 65535 true _ U2.out).mono ?_) | (with_reducible refine (specInB bits 4095 true _ U5.out).mono ?_) | (with_reducible refine (specInB window 65535 true _ U6.out).mono ?_) | (with_reducible refine (specInB urgent 65535 true _ U7.out).mono ?_)); rintro e w1 ⟨rfl, rfl⟩) | (go_at_call 97; (first | (with_reducible refine (specHalfB14 seq true _ U3.out).mono ?_) | (with_reducible refine (specHalfB14 ack true _ U4.out).mono ?_)); rintro e w1 ⟨rfl, rfl⟩))
                      go_ret
                      exact ⟨ret_bool (by simp [Uh.ok, Uh.fields, noF, Uh.unused, kindB, Uh.size, U1.out, U2.out, U3.out, U4.out, U5.out, U6.out, U7.out, *]), Joins.below_alloc1 w _⟩
                    case pos =>
                      subst z_ty
                      by_cases z_code : code = 0
                      case neg =>
                        have q := Lib.hid (K.new w (.cells #[.int .i64 1, .int .i64 sport, .int .i64 dport, .int .i64 seq, .int .i64 ack, .int .i64 bits, .int .i64 window, .int .i64 urgent, .int .i64 0, .int .i64 code, .int .i64 rest, .bool nosum, .slice A n c, .slice D m d] 36))
                        try simp only at q ⊢
                        go_enter Try.func59, Try.ntmps59
                        go_wp2_with (first | (go_at_call 39; (first | (with_reducible refine (specInB sport 65535 true _ U1.out).mono ?_) | (with_reducible refine (specInB dport 65535 true _ U2.out).mono ?_) | (with_reducible refine (specInB bits 4095 true _ U5.out).mono ?_) | (with_reducible refine (specInB window 65535 true _ U6.out).mono ?_) | (with_reducible refine (specInB urgent 65535 true _ U7.out).mono ?_)); rintro e w1 ⟨rfl, rfl⟩) | (go_at_call 97; (first | (with_reducible refine (specHalfB14 seq true _ U3.out).mono ?_) | (with_reducible refine (specHalfB14 ack true _ U4.out).mono ?_)); rintro e w1 ⟨rfl, rfl⟩))
                        go_ret
                        exact ⟨ret_bool (by simp [Uh.ok, Uh.fields, noF, Uh.unused, kindB, Uh.size, U1.out, U2.out, U3.out, U4.out, U5.out, U6.out, U7.out, *]), Joins.below_alloc1 w _⟩
                      case pos =>
                        subst z_code
                        by_cases z_rest : rest = 0
                        case neg =>
                          have q := Lib.hid (K.new w (.cells #[.int .i64 1, .int .i64 sport, .int .i64 dport, .int .i64 seq, .int .i64 ack, .int .i64 bits, .int .i64 window, .int .i64 urgent, .int .i64 0, .int .i64 0, .int .i64 rest, .bool nosum, .slice A n c, .slice D m d] 36))
                          try simp only at q ⊢
                          go_enter Try.func59, Try.ntmps59
                          go_wp2_with (first | (go_at_call 39; (first | (with_reducible refine (specInB sport 65535 true _ U1.out).mono ?_) | (with_reducible refine (specInB dport 65535 true _ U2.out).mono ?_) | (with_reducible refine (specInB bits 4095 true _ U5.out).mono ?_) | (with_reducible refine (specInB window 65535 true _ U6.out).mono ?_) | (with_reducible refine (specInB urgent 65535 true _ U7.out).mono ?_)); rintro e w1 ⟨rfl, rfl⟩) | (go_at_call 97; (first | (with_reducible refine (specHalfB14 seq true _ U3.out).mono ?_) | (with_reducible refine (specHalfB14 ack true _ U4.out).mono ?_)); rintro e w1 ⟨rfl, rfl⟩))
                          go_ret
                          exact ⟨ret_bool (by simp [Uh.ok, Uh.fields, noF, Uh.unused, kindB, Uh.size, U1.out, U2.out, U3.out, U4.out, U5.out, U6.out, U7.out, *]), Joins.below_alloc1 w _⟩
                        case pos =>
                          subst z_rest
                          cases nosum with
                          | true =>
                            have q := Lib.hid (K.new w (.cells #[.int .i64 1, .int .i64 sport, .int .i64 dport, .int .i64 seq, .int .i64 ack, .int .i64 bits, .int .i64 window, .int .i64 urgent, .int .i64 0, .int .i64 0, .int .i64 0, .bool true, .slice A n c, .slice D m d] 36))
                            try simp only at q ⊢
                            go_enter Try.func59, Try.ntmps59
                            go_wp2_with (first | (go_at_call 39; (first | (with_reducible refine (specInB sport 65535 true _ U1.out).mono ?_) | (with_reducible refine (specInB dport 65535 true _ U2.out).mono ?_) | (with_reducible refine (specInB bits 4095 true _ U5.out).mono ?_) | (with_reducible refine (specInB window 65535 true _ U6.out).mono ?_) | (with_reducible refine (specInB urgent 65535 true _ U7.out).mono ?_)); rintro e w1 ⟨rfl, rfl⟩) | (go_at_call 97; (first | (with_reducible refine (specHalfB14 seq true _ U3.out).mono ?_) | (with_reducible refine (specHalfB14 ack true _ U4.out).mono ?_)); rintro e w1 ⟨rfl, rfl⟩))
                            go_ret
                            exact ⟨ret_bool (by simp [Uh.ok, Uh.fields, noF, Uh.unused, kindB, Uh.size, U1.out, U2.out, U3.out, U4.out, U5.out, U6.out, U7.out, *]), Joins.below_alloc1 w _⟩
                          | false =>
                            by_cases z_z : n + m ≤ 1480
                            case neg =>
                              have z_y : ¬ 20 + (n : Int) + m ≤ 1500 := by omega
                              have q := Lib.hid (K.new w (.cells #[.int .i64 1, .int .i64 sport, .int .i64 dport, .int .i64 seq, .int .i64 ack, .int .i64 bits, .int .i64 window, .int .i64 urgent, .int .i64 0, .int .i64 0, .int .i64 0, .bool false, .slice A n c, .slice D m d] 36))
                              have HS := Lib.hid (fun v => show Calls Try.prog 61 #[.agg #[.int .i64 1, .int .i64 sport, .int .i64 dport, .int .i64 seq, .int .i64 ack, .int .i64 bits, .int .i64 window, .int .i64 urgent, .int .i64 0, .int .i64 0, .int .i64 0, .bool false, .slice A n c, .slice D m d]] v fun e w' => e = .returned (.int .i64 (20 + (n : Int) + m)) ∧ Below v.heap.size v w' from (show Uh.size (Uh.mk 1 sport dport seq ack bits window urgent 0 0 0 false) n m = 20 + (n : Int) + m by simp [Uh.size]) ▸ specUpSize (Uh.mk 1 sport dport seq ack bits window urgent 0 0 0 false) A D n c m d v (by omega) hm)
                              try simp only at q HS ⊢
                              go_enter Try.func59, Try.ntmps59
                              go_wp2_with (first | (go_at_call 39; (first | (with_reducible refine (specInB sport 65535 true _ U1.out).mono ?_) | (with_reducible refine (specInB dport 65535 true _ U2.out).mono ?_) | (with_reducible refine (specInB bits 4095 true _ U5.out).mono ?_) | (with_reducible refine (specInB window 65535 true _ U6.out).mono ?_) | (with_reducible refine (specInB urgent 65535 true _ U7.out).mono ?_)); rintro e w1 ⟨rfl, rfl⟩) | (go_at_call 97; (first | (with_reducible refine (specHalfB14 seq true _ U3.out).mono ?_) | (with_reducible refine (specHalfB14 ack true _ U4.out).mono ?_)); rintro e w1 ⟨rfl, rfl⟩) | (with_reducible refine loadU rfl _ rfl w.heap.size rfl q.out ?_) | (go_at_call 61; refine Calls.mono (HS.out _) ?_; rintro e w9 ⟨rfl, b9⟩; have B9 := Lib.hid (bthen (Joins.below_alloc1 w _) b9); clear b9))
                              go_ret
                              exact ⟨ret_bool (by simp [Uh.ok, Uh.fields, noF, Uh.unused, kindB, Uh.size, U1.out, U2.out, U3.out, U4.out, U5.out, U6.out, U7.out, *] <;> omega), B9.out⟩
                            case pos =>
                              have z_y : 20 + (n : Int) + m ≤ 1500 := by omega
                              have q := Lib.hid (K.new w (.cells #[.int .i64 1, .int .i64 sport, .int .i64 dport, .int .i64 seq, .int .i64 ack, .int .i64 bits, .int .i64 window, .int .i64 urgent, .int .i64 0, .int .i64 0, .int .i64 0, .bool false, .slice A n c, .slice D m d] 36))
                              have HS := Lib.hid (fun v => show Calls Try.prog 61 #[.agg #[.int .i64 1, .int .i64 sport, .int .i64 dport, .int .i64 seq, .int .i64 ack, .int .i64 bits, .int .i64 window, .int .i64 urgent, .int .i64 0, .int .i64 0, .int .i64 0, .bool false, .slice A n c, .slice D m d]] v fun e w' => e = .returned (.int .i64 (20 + (n : Int) + m)) ∧ Below v.heap.size v w' from (show Uh.size (Uh.mk 1 sport dport seq ack bits window urgent 0 0 0 false) n m = 20 + (n : Int) + m by simp [Uh.size]) ▸ specUpSize (Uh.mk 1 sport dport seq ack bits window urgent 0 0 0 false) A D n c m d v (by omega) hm)
                              try simp only at q HS ⊢
                              go_enter Try.func59, Try.ntmps59
                              go_wp2_with (first | (go_at_call 39; (first | (with_reducible refine (specInB sport 65535 true _ U1.out).mono ?_) | (with_reducible refine (specInB dport 65535 true _ U2.out).mono ?_) | (with_reducible refine (specInB bits 4095 true _ U5.out).mono ?_) | (with_reducible refine (specInB window 65535 true _ U6.out).mono ?_) | (with_reducible refine (specInB urgent 65535 true _ U7.out).mono ?_)); rintro e w1 ⟨rfl, rfl⟩) | (go_at_call 97; (first | (with_reducible refine (specHalfB14 seq true _ U3.out).mono ?_) | (with_reducible refine (specHalfB14 ack true _ U4.out).mono ?_)); rintro e w1 ⟨rfl, rfl⟩) | (with_reducible refine loadU rfl _ rfl w.heap.size rfl q.out ?_) | (go_at_call 61; refine Calls.mono (HS.out _) ?_; rintro e w9 ⟨rfl, b9⟩; have B9 := Lib.hid (bthen (Joins.below_alloc1 w _) b9); clear b9))
                              go_ret
                              exact ⟨ret_bool (by simp [Uh.ok, Uh.fields, noF, Uh.unused, kindB, Uh.size, U1.out, U2.out, U3.out, U4.out, U5.out, U6.out, U7.out, *] <;> omega), B9.out⟩

end Go.Proofs.Ythogonpjkngpjaa
