/-
  UpperOk in the model: kind 1, between addresses of kind 6. UpperOk in the model: kind 2, between addresses of kind 4. UpperOk in the model: kind 2, between addresses of kind 6. UpperOk in the model: kind 3, between addresses of kind 4. UpperOk in the model: kind 3, between addresses of kind 6. UpperOk in the model: kind other than the four, between addresses of kind 4. UpperOk in the model: kind other than the four, between addresses of kind 6. UpperOk in the model. The bytes of a valid upper layer, in the program and in the model. The part of the checksum that the addresses have, in the program. The checksum of an upper layer in the program.
-/
import Derived.Test.YthogonpjkngpjaaRa04
import Derived.Test.YthogonpjkngpjaaRa05
import Derived.Test.YthogonpjkngpjaaRa09
import Derived.Test.YthogonpjkngpjaaRa08
namespace Go.Proofs.Ythogonpjkngpjaa
set_option maxRecDepth 100000
open Go.RowKit

theorem specHalfB16 (n : Int) (b : Bool) (w : World) (h : half n = b) : Calls Try.prog 97 #[.int .i64 n] w fun e w' => e = .returned (.bool b) ∧ w = w' := h ▸ specHalf n w

set_option maxHeartbeats 8000000 in
theorem upOkS1_6 (sport dport seq ack bits window urgent ty code rest : Int) (nosum : Bool) (A D : Option Addr) (n c m d : Nat) (w : World) (hn : n ≤ 1048576) (hm : m ≤ 1048576) : Calls Try.prog 59 #[.agg #[.int .i64 1, .int .i64 sport, .int .i64 dport, .int .i64 seq, .int .i64 ack, .int .i64 bits, .int .i64 window, .int .i64 urgent, .int .i64 ty, .int .i64 code, .int .i64 rest, .bool nosum, .slice A n c, .slice D m d], .int .i64 6] w fun e w' => e = .returned (.bool (Uh.ok (Uh.mk 1 sport dport seq ack bits window urgent ty code rest nosum) 6 n m)) ∧ Below w.heap.size w w' := by
  cases u1 : upTo sport 65535 with
  | false =>
    have U1 := Lib.hid u1
    clear u1
    have q := Lib.hid (K.new w (.cells #[.int .i64 1, .int .i64 sport, .int .i64 dport, .int .i64 seq, .int .i64 ack, .int .i64 bits, .int .i64 window, .int .i64 urgent, .int .i64 ty, .int .i64 code, .int .i64 rest, .bool nosum, .slice A n c, .slice D m d] 36))
    try simp only at q ⊢
    go_enter Try.func59, Try.ntmps59
    go_wp2_with (first | (go_at_call 39; (first | (with_reducible refine (specInB sport 65535 false _ U1.out).mono ?_)); rintro e w1 ⟨rfl, rfl⟩))
    go_ret
    exact ⟨ret_bool (by simp [Uh.ok, Uh.fields, noF, Uh.unused, kindB, Uh.size, U1.out, *]), Joins.below_alloc1 w _⟩
  | true =>
    have U1 := Lib.hid u1
    clear u1
    cases u2 : upTo dport 65535 with
    | false =>
      have U2 := Lib.hid u2
      clear u2
      have q := Lib.hid (K.new w (.cells #[.int .i64 1, .int .i64 sport, .int .i64 dport, .int .i64 seq, .int .i64 ack, .int .i64 bits, .int .i64 window, .int .i64 urgent, .int .i64 ty, .int .i64 code, .int .i64 rest, .bool nosum, .slice A n c, .slice D m d] 36))
      try simp only at q ⊢
      go_enter Try.func59, Try.ntmps59
      go_wp2_with (first | (go_at_call 39; (first | (with_reducible refine (specInB sport 65535 true _ U1.out).mono ?_) | (with_reducible refine (specInB dport 65535 false _ U2.out).mono ?_)); rintro e w1 ⟨rfl, rfl⟩))
      go_ret
      exact ⟨ret_bool (by simp [Uh.ok, Uh.fields, noF, Uh.unused, kindB, Uh.size, U1.out, U2.out, *]), Joins.below_alloc1 w _⟩
    | true =>
      have U2 := Lib.hid u2
      clear u2
      cases u3 : half seq with
      | false =>
        have U3 := Lib.hid u3
        clear u3
        have q := Lib.hid (K.new w (.cells #[.int .i64 1, .int .i64 sport, .int .i64 dport, .int .i64 seq, .int .i64 ack, .int .i64 bits, .int .i64 window, .int .i64 urgent, .int .i64 ty, .int .i64 code, .int .i64 rest, .bool nosum, .slice A n c, .slice D m d] 36))
        try simp only at q ⊢
        go_enter Try.func59, Try.ntmps59
        go_wp2_with (first | (go_at_call 39; (first | (with_reducible refine (specInB sport 65535 true _ U1.out).mono ?_) | (with_reducible refine (specInB dport 65535 true _ U2.out).mono ?_)); rintro e w1 ⟨rfl, rfl⟩) | (go_at_call 97; (first | (with_reducible refine (specHalfB16 seq false _ U3.out).mono ?_)); rintro e w1 ⟨rfl, rfl⟩))
        go_ret
        exact ⟨ret_bool (by simp [Uh.ok, Uh.fields, noF, Uh.unused, kindB, Uh.size, U1.out, U2.out, U3.out, *]), Joins.below_alloc1 w _⟩
      | true =>
        have U3 := Lib.hid u3
        clear u3
        cases u4 : half ack with
        | false =>
          have U4 := Lib.hid u4
          clear u4
          have q := Lib.hid (K.new w (.cells #[.int .i64 1, .int .i64 sport, .int .i64 dport, .int .i64 seq, .int .i64 ack, .int .i64 bits, .int .i64 window, .int .i64 urgent, .int .i64 ty, .int .i64 code, .int .i64 rest, .bool nosum, .slice A n c, .slice D m d] 36))
          try simp only at q ⊢
          go_enter Try.func59, Try.ntmps59
          go_wp2_with (first | (go_at_call 39; (first | (with_reducible refine (specInB sport 65535 true _ U1.out).mono ?_) | (with_reducible refine (specInB dport 65535 true _ U2.out).mono ?_)); rintro e w1 ⟨rfl, rfl⟩) | (go_at_call 97; (first | (with_reducible refine (specHalfB16 seq true _ U3.out).mono ?_) | (with_reducible refine (specHalfB16 ack false _ U4.out).mono ?_)); rintro e w1 ⟨rfl, rfl⟩))
          go_ret
          exact ⟨ret_bool (by simp [Uh.ok, Uh.fields, noF, Uh.unused, kindB, Uh.size, U1.out, U2.out, U3.out, U4.out, *]), Joins.below_alloc1 w _⟩
        | true =>
          have U4 := Lib.hid u4
          clear u4
          cases u5 : upTo bits 4095 with
          | false =>
            have U5 := Lib.hid u5
            clear u5
            have q := Lib.hid (K.new w (.cells #[.int .i64 1, .int .i64 sport, .int .i64 dport, .int .i64 seq, .int .i64 ack, .int .i64 bits, .int .i64 window, .int .i64 urgent, .int .i64 ty, .int .i64 code, .int .i64 rest, .bool nosum, .slice A n c, .slice D m d] 36))
            try simp only at q ⊢
            go_enter Try.func59, Try.ntmps59
            go_wp2_with (first | (go_at_call 39; (first | (with_reducible refine (specInB sport 65535 true _ U1.out).mono ?_) | (with_reducible refine (specInB dport 65535 true _ U2.out).mono ?_) | (with_reducible refine (specInB bits 4095 false _ U5.out).mono ?_)); rintro e w1 ⟨rfl, rfl⟩) | (go_at_call 97; (first | (with_reducible refine (specHalfB16 seq true _ U3.out).mono ?_) | (with_reducible refine (specHalfB16 ack true _ U4.out).mono ?_)); rintro e w1 ⟨rfl, rfl⟩))
            go_ret
            exact ⟨ret_bool (by simp [Uh.ok, Uh.fields, noF, Uh.unused, kindB, Uh.size, U1.out, U2.out, U3.out, U4.out, U5.out, *]), Joins.below_alloc1 w _⟩
          | true =>
            have U5 := Lib.hid u5
            clear u5
            cases u6 : upTo window 65535 with
            | false =>
              have U6 := Lib.hid u6
              clear u6
              have q := Lib.hid (K.new w (.cells #[.int .i64 1, .int .i64 sport, .int .i64 dport, .int .i64 seq, .int .i64 ack, .int .i64 bits, .int .i64 window, .int .i64 urgent, .int .i64 ty, .int .i64 code, .int .i64 rest, .bool nosum, .slice A n c, .slice D m d] 36))
              try simp only at q ⊢
              go_enter Try.func59, Try.ntmps59
              go_wp2_with (first | (go_at_call 39; (first | (with_reducible refine (specInB sport 65535 true _ U1.out).mono ?_) | (with_reducible refine (specInB dport 65535 true _ U2.out).mono ?_) | (with_reducible refine (specInB bits 4095 true _ U5.out).mono ?_) | (with_reducible refine (specInB window 65535 false _ U6.out).mono ?_)); rintro e w1 ⟨rfl, rfl⟩) | (go_at_call 97; (first | (with_reducible refine (specHalfB16 seq true _ U3.out).mono ?_) | (with_reducible refine (specHalfB16 ack true _ U4.out).mono ?_)); rintro e w1 ⟨rfl, rfl⟩))
              go_ret
              exact ⟨ret_bool (by simp [Uh.ok, Uh.fields, noF, Uh.unused, kindB, Uh.size, U1.out, U2.out, U3.out, U4.out, U5.out, U6.out, *]), Joins.below_alloc1 w _⟩
            | true =>
              have U6 := Lib.hid u6
              clear u6
              cases u7 : upTo urgent 65535 with
              | false =>
                have U7 := Lib.hid u7
                clear u7
                have q := Lib.hid (K.new w (.cells #[.int .i64 1, .int .i64 sport, .int .i64 dport, .int .i64 seq, .int .i64 ack, .int .i64 bits, .int .i64 window, .int .i64 urgent, .int .i64 ty, .int .i64 code, .int .i64 rest, .bool nosum, .slice A n c, .slice D m d] 36))
                try simp only at q ⊢
                go_enter Try.func59, Try.ntmps59
                go_wp2_with (first | (go_at_call 39; (first | (with_reducible refine (specInB sport 65535 true _ U1.out).mono ?_) | (with_reducible refine (specInB dport 65535 true _ U2.out).mono ?_) | (with_reducible refine (specInB bits 4095 true _ U5.out).mono ?_) | (with_reducible refine (specInB window 65535 true _ U6.out).mono ?_) | (with_reducible refine (specInB urgent 65535 false _ U7.out).mono ?_)); rintro e w1 ⟨rfl, rfl⟩) | (go_at_call 97; (first | (with_reducible refine (specHalfB16 seq true _ U3.out).mono ?_) | (with_reducible refine (specHalfB16 ack true _ U4.out).mono ?_)); rintro e w1 ⟨rfl, rfl⟩))
                go_ret
                exact ⟨ret_bool (by simp [Uh.ok, Uh.fields, noF, Uh.unused, kindB, Uh.size, U1.out, U2.out, U3.out, U4.out, U5.out, U6.out, U7.out, *]), Joins.below_alloc1 w _⟩
              | true =>
                have U7 := Lib.hid u7
                clear u7
                by_cases z_o : n ≤ 40
                case neg =>
                  have z_m : (40 : Int) < n := by omega
                  have z_p : optOk n = false := by simp [optOk, z_o]
                  have q := Lib.hid (K.new w (.cells #[.int .i64 1, .int .i64 sport, .int .i64 dport, .int .i64 seq, .int .i64 ack, .int .i64 bits, .int .i64 window, .int .i64 urgent, .int .i64 ty, .int .i64 code, .int .i64 rest, .bool nosum, .slice A n c, .slice D m d] 36))
                  try simp only at q ⊢
                  go_enter Try.func59, Try.ntmps59
                  go_wp2_with (first | (go_at_call 39; (first | (with_reducible refine (specInB sport 65535 true _ U1.out).mono ?_) | (with_reducible refine (specInB dport 65535 true _ U2.out).mono ?_) | (with_reducible refine (specInB bits 4095 true _ U5.out).mono ?_) | (with_reducible refine (specInB window 65535 true _ U6.out).mono ?_) | (with_reducible refine (specInB urgent 65535 true _ U7.out).mono ?_)); rintro e w1 ⟨rfl, rfl⟩) | (go_at_call 97; (first | (with_reducible refine (specHalfB16 seq true _ U3.out).mono ?_) | (with_reducible refine (specHalfB16 ack true _ U4.out).mono ?_)); rintro e w1 ⟨rfl, rfl⟩))
                  go_ret
                  exact ⟨ret_bool (by simp [Uh.ok, Uh.fields, noF, Uh.unused, kindB, Uh.size, U1.out, U2.out, U3.out, U4.out, U5.out, U6.out, U7.out, *]), Joins.below_alloc1 w _⟩
                case pos =>
                  have z_m : (n : Int) ≤ 40 := by omega
                  by_cases z_r : n % 4 = 0
                  case neg =>
                    have z_s : ¬ (n : Int) % 4 = 0 := by omega
                    have z_t : ((n : Int) % 4 != 0) = true := by simp [z_s]
                    have z_p : optOk n = false := by simp [optOk, z_r]
                    have q := Lib.hid (K.new w (.cells #[.int .i64 1, .int .i64 sport, .int .i64 dport, .int .i64 seq, .int .i64 ack, .int .i64 bits, .int .i64 window, .int .i64 urgent, .int .i64 ty, .int .i64 code, .int .i64 rest, .bool nosum, .slice A n c, .slice D m d] 36))
                    try simp only at q ⊢
                    go_enter Try.func59, Try.ntmps59
                    go_wp2_with (first | (go_at_call 39; (first | (with_reducible refine (specInB sport 65535 true _ U1.out).mono ?_) | (with_reducible refine (specInB dport 65535 true _ U2.out).mono ?_) | (with_reducible refine (specInB bits 4095 true _ U5.out).mono ?_) | (with_reducible refine (specInB window 65535 true _ U6.out).mono ?_) | (with_reducible refine (specInB urgent 65535 true _ U7.out).mono ?_)); rintro e w1 ⟨rfl, rfl⟩) | (go_at_call 97; (first | (with_reducible refine (specHalfB16 seq true _ U3.out).mono ?_) | (with_reducible refine (specHalfB16 ack true _ U4.out).mono ?_)); rintro e w1 ⟨rfl, rfl⟩))
                    go_ret
                    exact ⟨ret_bool (by simp [Uh.ok, Uh.fields, noF, Uh.unused, kindB, Uh.size, U1.out, U2.out, U3.out, U4.out, U5.out, U6.out, U7.out, *]), Joins.below_alloc1 w _⟩
                  case pos =>
                    have z_s : (n : Int) % 4 = 0 := by omega
                    have z_p : optOk n = true := by simp [optOk, z_o, z_r]
                    by_cases z_ty : ty = 0
                    case neg =>
                      have q := Lib.hid (K.new w (.cells #[.int .i64 1, .int .i64 sport, .int .i64 dport, .int .i64 seq, .int .i64 ack, .int .i64 bits, .int .i64 window, .int .i64 urgent, .int .i64 ty, .int .i64 code, .int .i64 rest, .bool nosum, .slice A n c, .slice D m d] 36))
                      try simp only at q ⊢
                      go_enter Try.func59, Try.ntmps59
                      go_wp2_with (first | (go_at_call 39; (first | (with_reducible refine (specInB sport 65535 true _ U1.out).mono ?_) | (with_reducible refine (specInB dport 65535 true _ U2.out).mono ?_) | (with_reducible refine (specInB bits 4095 true _ U5.out).mono ?_) | (with_reducible refine (specInB window 65535 true _ U6.out).mono ?_) | (with_reducible refine (specInB urgent 65535 true _ U7.out).mono ?_)); rintro e w1 ⟨rfl, rfl⟩) | (go_at_call 97; (first | (with_reducible refine (specHalfB16 seq true _ U3.out).mono ?_) | (with_reducible refine (specHalfB16 ack true _ U4.out).mono ?_)); rintro e w1 ⟨rfl, rfl⟩))
                      go_ret
                      exact ⟨ret_bool (by simp [Uh.ok, Uh.fields, noF, Uh.unused, kindB, Uh.size, U1.out, U2.out, U3.out, U4.out, U5.out, U6.out, U7.out, *]), Joins.below_alloc1 w _⟩
                    case pos =>
                      subst z_ty
                      by_cases z_code : code = 0
                      case neg =>
                        have q := Lib.hid (K.new w (.cells #[.int .i64 1, .int .i64 sport, .int .i64 dport, .int .i64 seq, .int .i64 ack, .int .i64 bits, .int .i64 window, .int .i64 urgent, .int .i64 0, .int .i64 code, .int .i64 rest, .bool nosum, .slice A n c, .slice D m d] 36))
                        try simp only at q ⊢
                        go_enter Try.func59, Try.ntmps59
                        go_wp2_with (first | (go_at_call 39; (first | (with_reducible refine (specInB sport 65535 true _ U1.out).mono ?_) | (with_reducible refine (specInB dport 65535 true _ U2.out).mono ?_) | (with_reducible refine (specInB bits 4095 true _ U5.out).mono ?_) | (with_reducible refine (specInB window 65535 true _ U6.out).mono ?_) | (with_reducible refine (specInB urgent 65535 true _ U7.out).mono ?_)); rintro e w1 ⟨rfl, rfl⟩) | (go_at_call 97; (first | (with_reducible refine (specHalfB16 seq true _ U3.out).mono ?_) | (with_reducible refine (specHalfB16 ack true _ U4.out).mono ?_)); rintro e w1 ⟨rfl, rfl⟩))
                        go_ret
                        exact ⟨ret_bool (by simp [Uh.ok, Uh.fields, noF, Uh.unused, kindB, Uh.size, U1.out, U2.out, U3.out, U4.out, U5.out, U6.out, U7.out, *]), Joins.below_alloc1 w _⟩
                      case pos =>
                        subst z_code
                        by_cases z_rest : rest = 0
                        case neg =>
                          have q := Lib.hid (K.new w (.cells #[.int .i64 1, .int .i64 sport, .int .i64 dport, .int .i64 seq, .int .i64 ack, .int .i64 bits, .int .i64 window, .int .i64 urgent, .int .i64 0, .int .i64 0, .int .i64 rest, .bool nosum, .slice A n c, .slice D m d] 36))
                          try simp only at q ⊢
                          go_enter Try.func59, Try.ntmps59
                          go_wp2_with (first | (go_at_call 39; (first | (with_reducible refine (specInB sport 65535 true _ U1.out).mono ?_) | (with_reducible refine (specInB dport 65535 true _ U2.out).mono ?_) | (with_reducible refine (specInB bits 4095 true _ U5.out).mono ?_) | (with_reducible refine (specInB window 65535 true _ U6.out).mono ?_) | (with_reducible refine (specInB urgent 65535 true _ U7.out).mono ?_)); rintro e w1 ⟨rfl, rfl⟩) | (go_at_call 97; (first | (with_reducible refine (specHalfB16 seq true _ U3.out).mono ?_) | (with_reducible refine (specHalfB16 ack true _ U4.out).mono ?_)); rintro e w1 ⟨rfl, rfl⟩))
                          go_ret
                          exact ⟨ret_bool (by simp [Uh.ok, Uh.fields, noF, Uh.unused, kindB, Uh.size, U1.out, U2.out, U3.out, U4.out, U5.out, U6.out, U7.out, *]), Joins.below_alloc1 w _⟩
                        case pos =>
                          subst z_rest
                          cases nosum with
                          | true =>
                            have q := Lib.hid (K.new w (.cells #[.int .i64 1, .int .i64 sport, .int .i64 dport, .int .i64 seq, .int .i64 ack, .int .i64 bits, .int .i64 window, .int .i64 urgent, .int .i64 0, .int .i64 0, .int .i64 0, .bool true, .slice A n c, .slice D m d] 36))
                            try simp only at q ⊢
                            go_enter Try.func59, Try.ntmps59
                            go_wp2_with (first | (go_at_call 39; (first | (with_reducible refine (specInB sport 65535 true _ U1.out).mono ?_) | (with_reducible refine (specInB dport 65535 true _ U2.out).mono ?_) | (with_reducible refine (specInB bits 4095 true _ U5.out).mono ?_) | (with_reducible refine (specInB window 65535 true _ U6.out).mono ?_) | (with_reducible refine (specInB urgent 65535 true _ U7.out).mono ?_)); rintro e w1 ⟨rfl, rfl⟩) | (go_at_call 97; (first | (with_reducible refine (specHalfB16 seq true _ U3.out).mono ?_) | (with_reducible refine (specHalfB16 ack true _ U4.out).mono ?_)); rintro e w1 ⟨rfl, rfl⟩))
                            go_ret
                            exact ⟨ret_bool (by simp [Uh.ok, Uh.fields, noF, Uh.unused, kindB, Uh.size, U1.out, U2.out, U3.out, U4.out, U5.out, U6.out, U7.out, *]), Joins.below_alloc1 w _⟩
                          | false =>
                            by_cases z_z : n + m ≤ 1480
                            case neg =>
                              have z_y : ¬ 20 + (n : Int) + m ≤ 1500 := by omega
                              have q := Lib.hid (K.new w (.cells #[.int .i64 1, .int .i64 sport, .int .i64 dport, .int .i64 seq, .int .i64 ack, .int .i64 bits, .int .i64 window, .int .i64 urgent, .int .i64 0, .int .i64 0, .int .i64 0, .bool false, .slice A n c, .slice D m d] 36))
                              have HS := Lib.hid (fun v => show Calls Try.prog 61 #[.agg #[.int .i64 1, .int .i64 sport, .int .i64 dport, .int .i64 seq, .int .i64 ack, .int .i64 bits, .int .i64 window, .int .i64 urgent, .int .i64 0, .int .i64 0, .int .i64 0, .bool false, .slice A n c, .slice D m d]] v fun e w' => e = .returned (.int .i64 (20 + (n : Int) + m)) ∧ Below v.heap.size v w' from (show Uh.size (Uh.mk 1 sport dport seq ack bits window urgent 0 0 0 false) n m = 20 + (n : Int) + m by simp [Uh.size]) ▸ specUpSize (Uh.mk 1 sport dport seq ack bits window urgent 0 0 0 false) A D n c m d v (by omega) hm)
                              try simp only at q HS ⊢
                              go_enter Try.func59, Try.ntmps59
                              go_wp2_with (first | (go_at_call 39; (first | (with_reducible refine (specInB sport 65535 true _ U1.out).mono ?_) | (with_reducible refine (specInB dport 65535 true _ U2.out).mono ?_) | (with_reducible refine (specInB bits 4095 true _ U5.out).mono ?_) | (with_reducible refine (specInB window 65535 true _ U6.out).mono ?_) | (with_reducible refine (specInB urgent 65535 true _ U7.out).mono ?_)); rintro e w1 ⟨rfl, rfl⟩) | (go_at_call 97; (first | (with_reducible refine (specHalfB16 seq true _ U3.out).mono ?_) | (with_reducible refine (specHalfB16 ack true _ U4.out).mono ?_)); rintro e w1 ⟨rfl, rfl⟩) | (with_reducible refine loadU rfl _ rfl w.heap.size rfl q.out ?_) | (go_at_call 61; refine Calls.mono (HS.out _) ?_; rintro e w9 ⟨rfl, b9⟩; have B9 := Lib.hid (bthen (Joins.below_alloc1 w _) b9); clear b9))
                              go_ret
                              exact ⟨ret_bool (by simp [Uh.ok, Uh.fields, noF, Uh.unused, kindB, Uh.size, U1.out, U2.out, U3.out, U4.out, U5.out, U6.out, U7.out, *] <;> omega), B9.out⟩
                            case pos =>
                              have z_y : 20 + (n : Int) + m ≤ 1500 := by omega
                              have q := Lib.hid (K.new w (.cells #[.int .i64 1, .int .i64 sport, .int .i64 dport, .int .i64 seq, .int .i64 ack, .int .i64 bits, .int .i64 window, .int .i64 urgent, .int .i64 0, .int .i64 0, .int .i64 0, .bool false, .slice A n c, .slice D m d] 36))
                              have HS := Lib.hid (fun v => show Calls Try.prog 61 #[.agg #[.int .i64 1, .int .i64 sport, .int .i64 dport, .int .i64 seq, .int .i64 ack, .int .i64 bits, .int .i64 window, .int .i64 urgent, .int .i64 0, .int .i64 0, .int .i64 0, .bool false, .slice A n c, .slice D m d]] v fun e w' => e = .returned (.int .i64 (20 + (n : Int) + m)) ∧ Below v.heap.size v w' from (show Uh.size (Uh.mk 1 sport dport seq ack bits window urgent 0 0 0 false) n m = 20 + (n : Int) + m by simp [Uh.size]) ▸ specUpSize (Uh.mk 1 sport dport seq ack bits window urgent 0 0 0 false) A D n c m d v (by omega) hm)
                              try simp only at q HS ⊢
                              go_enter Try.func59, Try.ntmps59
                              go_wp2_with (first | (go_at_call 39; (first | (with_reducible refine (specInB sport 65535 true _ U1.out).mono ?_) | (with_reducible refine (specInB dport 65535 true _ U2.out).mono ?_) | (with_reducible refine (specInB bits 4095 true _ U5.out).mono ?_) | (with_reducible refine (specInB window 65535 true _ U6.out).mono ?_) | (with_reducible refine (specInB urgent 65535 true _ U7.out).mono ?_)); rintro e w1 ⟨rfl, rfl⟩) | (go_at_call 97; (first | (with_reducible refine (specHalfB16 seq true _ U3.out).mono ?_) | (with_reducible refine (specHalfB16 ack true _ U4.out).mono ?_)); rintro e w1 ⟨rfl, rfl⟩) | (with_reducible refine loadU rfl _ rfl w.heap.size rfl q.out ?_) | (go_at_call 61; refine Calls.mono (HS.out _) ?_; rintro e w9 ⟨rfl, b9⟩; have B9 := Lib.hid (bthen (Joins.below_alloc1 w _) b9); clear b9))
                              go_ret
                              exact ⟨ret_bool (by simp [Uh.ok, Uh.fields, noF, Uh.unused, kindB, Uh.size, U1.out, U2.out, U3.out, U4.out, U5.out, U6.out, U7.out, *] <;> omega), B9.out⟩

end Go.Proofs.Ythogonpjkngpjaa

namespace Go.Proofs.Ythogonpjkngpjaa
set_option maxRecDepth 100000
open Go.RowKit

set_option maxHeartbeats 8000000 in
theorem upOkS2_4 (sport dport seq ack bits window urgent ty code rest : Int) (nosum : Bool) (A D : Option Addr) (n c m d : Nat) (w : World) (hn : n ≤ 1048576) (hm : m ≤ 1048576) : Calls Try.prog 59 #[.agg #[.int .i64 2, .int .i64 sport, .int .i64 dport, .int .i64 seq, .int .i64 ack, .int .i64 bits, .int .i64 window, .int .i64 urgent, .int .i64 ty, .int .i64 code, .int .i64 rest, .bool nosum, .slice A n c, .slice D m d], .int .i64 4] w fun e w' => e = .returned (.bool (Uh.ok (Uh.mk 2 sport dport seq ack bits window urgent ty code rest nosum) 4 n m)) ∧ Below w.heap.size w w' := by
  cases u1 : upTo sport 65535 with
  | false =>
    have U1 := Lib.hid u1
    clear u1
    have q := Lib.hid (K.new w (.cells #[.int .i64 2, .int .i64 sport, .int .i64 dport, .int .i64 seq, .int .i64 ack, .int .i64 bits, .int .i64 window, .int .i64 urgent, .int .i64 ty, .int .i64 code, .int .i64 rest, .bool nosum, .slice A n c, .slice D m d] 36))
    try simp only at q ⊢
    go_enter Try.func59, Try.ntmps59
    go_wp2_with (first | (go_at_call 39; (first | (with_reducible refine (specInB sport 65535 false _ U1.out).mono ?_)); rintro e w1 ⟨rfl, rfl⟩))
    go_ret
    exact ⟨ret_bool (by simp [Uh.ok, Uh.fields, noF, Uh.unused, kindB, Uh.size, U1.out, *]), Joins.below_alloc1 w _⟩
  | true =>
    have U1 := Lib.hid u1
    clear u1
    cases u2 : upTo dport 65535 with
    | false =>
      have U2 := Lib.hid u2
      clear u2
      have q := Lib.hid (K.new w (.cells #[.int .i64 2, .int .i64 sport, .int .i64 dport, .int .i64 seq, .int .i64 ack, .int .i64 bits, .int .i64 window, .int .i64 urgent, .int .i64 ty, .int .i64 code, .int .i64 rest, .bool nosum, .slice A n c, .slice D m d] 36))
      try simp only at q ⊢
      go_enter Try.func59, Try.ntmps59
      go_wp2_with (first | (go_at_call 39; (first | (with_reducible refine (specInB sport 65535 true _ U1.out).mono ?_) | (with_reducible refine (specInB dport 65535 false _ U2.out).mono ?_)); rintro e w1 ⟨rfl, rfl⟩))
      go_ret
      exact ⟨ret_bool (by simp [Uh.ok, Uh.fields, noF, Uh.unused, kindB, Uh.size, U1.out, U2.out, *]), Joins.below_alloc1 w _⟩
    | true =>
      have U2 := Lib.hid u2
      clear u2
      by_cases z_seq : seq = 0
      case neg =>
        have q := Lib.hid (K.new w (.cells #[.int .i64 2, .int .i64 sport, .int .i64 dport, .int .i64 seq, .int .i64 ack, .int .i64 bits, .int .i64 window, .int .i64 urgent, .int .i64 ty, .int .i64 code, .int .i64 rest, .bool nosum, .slice A n c, .slice D m d] 36))
        try simp only at q ⊢
        go_enter Try.func59, Try.ntmps59
        go_wp2_with (first | (go_at_call 39; (first | (with_reducible refine (specInB sport 65535 true _ U1.out).mono ?_) | (with_reducible refine (specInB dport 65535 true _ U2.out).mono ?_)); rintro e w1 ⟨rfl, rfl⟩))
        go_ret
        exact ⟨ret_bool (by simp [Uh.ok, Uh.fields, noF, Uh.unused, kindB, Uh.size, U1.out, U2.out, *]), Joins.below_alloc1 w _⟩
      case pos =>
        subst z_seq
        by_cases z_ack : ack = 0
        case neg =>
          have q := Lib.hid (K.new w (.cells #[.int .i64 2, .int .i64 sport, .int .i64 dport, .int .i64 0, .int .i64 ack, .int .i64 bits, .int .i64 window, .int .i64 urgent, .int .i64 ty, .int .i64 code, .int .i64 rest, .bool nosum, .slice A n c, .slice D m d] 36))
          try simp only at q ⊢
          go_enter Try.func59, Try.ntmps59
          go_wp2_with (first | (go_at_call 39; (first | (with_reducible refine (specInB sport 65535 true _ U1.out).mono ?_) | (with_reducible refine (specInB dport 65535 true _ U2.out).mono ?_)); rintro e w1 ⟨rfl, rfl⟩))
          go_ret
          exact ⟨ret_bool (by simp [Uh.ok, Uh.fields, noF, Uh.unused, kindB, Uh.size, U1.out, U2.out, *]), Joins.below_alloc1 w _⟩
        case pos =>
          subst z_ack
          by_cases z_bits : bits = 0
          case neg =>
            have q := Lib.hid (K.new w (.cells #[.int .i64 2, .int .i64 sport, .int .i64 dport, .int .i64 0, .int .i64 0, .int .i64 bits, .int .i64 window, .int .i64 urgent, .int .i64 ty, .int .i64 code, .int .i64 rest, .bool nosum, .slice A n c, .slice D m d] 36))
            try simp only at q ⊢
            go_enter Try.func59, Try.ntmps59
            go_wp2_with (first | (go_at_call 39; (first | (with_reducible refine (specInB sport 65535 true _ U1.out).mono ?_) | (with_reducible refine (specInB dport 65535 true _ U2.out).mono ?_)); rintro e w1 ⟨rfl, rfl⟩))
            go_ret
            exact ⟨ret_bool (by simp [Uh.ok, Uh.fields, noF, Uh.unused, kindB, Uh.size, U1.out, U2.out, *]), Joins.below_alloc1 w _⟩
          case pos =>
            subst z_bits
            by_cases z_window : window = 0
            case neg =>
              have q := Lib.hid (K.new w (.cells #[.int .i64 2, .int .i64 sport, .int .i64 dport, .int .i64 0, .int .i64 0, .int .i64 0, .int .i64 window, .int .i64 urgent, .int .i64 ty, .int .i64 code, .int .i64 rest, .bool nosum, .slice A n c, .slice D m d] 36))
              try simp only at q ⊢
              go_enter Try.func59, Try.ntmps59
              go_wp2_with (first | (go_at_call 39; (first | (with_reducible refine (specInB sport 65535 true _ U1.out).mono ?_) | (with_reducible refine (specInB dport 65535 true _ U2.out).mono ?_)); rintro e w1 ⟨rfl, rfl⟩))
              go_ret
              exact ⟨ret_bool (by simp [Uh.ok, Uh.fields, noF, Uh.unused, kindB, Uh.size, U1.out, U2.out, *]), Joins.below_alloc1 w _⟩
            case pos =>
              subst z_window
              by_cases z_urgent : urgent = 0
              case neg =>
                have q := Lib.hid (K.new w (.cells #[.int .i64 2, .int .i64 sport, .int .i64 dport, .int .i64 0, .int .i64 0, .int .i64 0, .int .i64 0, .int .i64 urgent, .int .i64 ty, .int .i64 code, .int .i64 rest, .bool nosum, .slice A n c, .slice D m d] 36))
                try simp only at q ⊢
                go_enter Try.func59, Try.ntmps59
                go_wp2_with (first | (go_at_call 39; (first | (with_reducible refine (specInB sport 65535 true _ U1.out).mono ?_) | (with_reducible refine (specInB dport 65535 true _ U2.out).mono ?_)); rintro e w1 ⟨rfl, rfl⟩))
                go_ret
                exact ⟨ret_bool (by simp [Uh.ok, Uh.fields, noF, Uh.unused, kindB, Uh.size, U1.out, U2.out, *]), Joins.below_alloc1 w _⟩
              case pos =>
                subst z_urgent
                by_cases z_n : n = 0
                case neg =>
                  have z_m : ¬ (n : Int) = 0 := by omega
                  have q := Lib.hid (K.new w (.cells #[.int .i64 2, .int .i64 sport, .int .i64 dport, .int .i64 0, .int .i64 0, .int .i64 0, .int .i64 0, .int .i64 0, .int .i64 ty, .int .i64 code, .int .i64 rest, .bool nosum, .slice A n c, .slice D m d] 36))
                  try simp only at q ⊢
                  go_enter Try.func59, Try.ntmps59
                  go_wp2_with (first | (go_at_call 39; (first | (with_reducible refine (specInB sport 65535 true _ U1.out).mono ?_) | (with_reducible refine (specInB dport 65535 true _ U2.out).mono ?_)); rintro e w1 ⟨rfl, rfl⟩))
                  go_ret
                  exact ⟨ret_bool (by simp [Uh.ok, Uh.fields, noF, Uh.unused, kindB, Uh.size, U1.out, U2.out, *]), Joins.below_alloc1 w _⟩
                case pos =>
                  subst z_n
                  by_cases z_ty : ty = 0
                  case neg =>
                    have q := Lib.hid (K.new w (.cells #[.int .i64 2, .int .i64 sport, .int .i64 dport, .int .i64 0, .int .i64 0, .int .i64 0, .int .i64 0, .int .i64 0, .int .i64 ty, .int .i64 code, .int .i64 rest, .bool nosum, .slice A 0 c, .slice D m d] 36))
                    try simp only at q ⊢
                    go_enter Try.func59, Try.ntmps59
                    go_wp2_with (first | (go_at_call 39; (first | (with_reducible refine (specInB sport 65535 true _ U1.out).mono ?_) | (with_reducible refine (specInB dport 65535 true _ U2.out).mono ?_)); rintro e w1 ⟨rfl, rfl⟩))
                    go_ret
                    exact ⟨ret_bool (by simp [Uh.ok, Uh.fields, noF, Uh.unused, kindB, Uh.size, U1.out, U2.out, *]), Joins.below_alloc1 w _⟩
                  case pos =>
                    subst z_ty
                    by_cases z_code : code = 0
                    case neg =>
                      have q := Lib.hid (K.new w (.cells #[.int .i64 2, .int .i64 sport, .int .i64 dport, .int .i64 0, .int .i64 0, .int .i64 0, .int .i64 0, .int .i64 0, .int .i64 0, .int .i64 code, .int .i64 rest, .bool nosum, .slice A 0 c, .slice D m d] 36))
                      try simp only at q ⊢
                      go_enter Try.func59, Try.ntmps59
                      go_wp2_with (first | (go_at_call 39; (first | (with_reducible refine (specInB sport 65535 true _ U1.out).mono ?_) | (with_reducible refine (specInB dport 65535 true _ U2.out).mono ?_)); rintro e w1 ⟨rfl, rfl⟩))
                      go_ret
                      exact ⟨ret_bool (by simp [Uh.ok, Uh.fields, noF, Uh.unused, kindB, Uh.size, U1.out, U2.out, *]), Joins.below_alloc1 w _⟩
                    case pos =>
                      subst z_code
                      by_cases z_rest : rest = 0
                      case neg =>
                        have q := Lib.hid (K.new w (.cells #[.int .i64 2, .int .i64 sport, .int .i64 dport, .int .i64 0, .int .i64 0, .int .i64 0, .int .i64 0, .int .i64 0, .int .i64 0, .int .i64 0, .int .i64 rest, .bool nosum, .slice A 0 c, .slice D m d] 36))
                        try simp only at q ⊢
                        go_enter Try.func59, Try.ntmps59
                        go_wp2_with (first | (go_at_call 39; (first | (with_reducible refine (specInB sport 65535 true _ U1.out).mono ?_) | (with_reducible refine (specInB dport 65535 true _ U2.out).mono ?_)); rintro e w1 ⟨rfl, rfl⟩))
                        go_ret
                        exact ⟨ret_bool (by simp [Uh.ok, Uh.fields, noF, Uh.unused, kindB, Uh.size, U1.out, U2.out, *]), Joins.below_alloc1 w _⟩
                      case pos =>
                        subst z_rest
                        cases nosum with
                        | true =>
                          by_cases z_z : m ≤ 1492
                          case neg =>
                            have z_m : 1492 < (m : Int) := by omega
                            have q := Lib.hid (K.new w (.cells #[.int .i64 2, .int .i64 sport, .int .i64 dport, .int .i64 0, .int .i64 0, .int .i64 0, .int .i64 0, .int .i64 0, .int .i64 0, .int .i64 0, .int .i64 0, .bool true, .slice A 0 c, .slice D m d] 36))
                            have HS := Lib.hid (fun v => show Calls Try.prog 61 #[.agg #[.int .i64 2, .int .i64 sport, .int .i64 dport, .int .i64 0, .int .i64 0, .int .i64 0, .int .i64 0, .int .i64 0, .int .i64 0, .int .i64 0, .int .i64 0, .bool true, .slice A 0 c, .slice D m d]] v fun e w' => e = .returned (.int .i64 (8 + (m : Int))) ∧ Below v.heap.size v w' from (show Uh.size (Uh.mk 2 sport dport 0 0 0 0 0 0 0 0 true) 0 m = 8 + (m : Int) by simp [Uh.size]) ▸ specUpSize (Uh.mk 2 sport dport 0 0 0 0 0 0 0 0 true) A D 0 c m d v (by omega) hm)
                            try simp only at q HS ⊢
                            go_enter Try.func59, Try.ntmps59
                            go_wp2_with (first | (go_at_call 39; (first | (with_reducible refine (specInB sport 65535 true _ U1.out).mono ?_) | (with_reducible refine (specInB dport 65535 true _ U2.out).mono ?_)); rintro e w1 ⟨rfl, rfl⟩) | (with_reducible refine loadU rfl _ rfl w.heap.size rfl q.out ?_) | (go_at_call 61; refine Calls.mono (HS.out _) ?_; rintro e w9 ⟨rfl, b9⟩; have B9 := Lib.hid (bthen (Joins.below_alloc1 w _) b9); clear b9))
                            go_ret
                            exact ⟨ret_bool (by simp [Uh.ok, Uh.fields, noF, Uh.unused, kindB, Uh.size, U1.out, U2.out, *] <;> omega), B9.out⟩
                          case pos =>
                            have z_m : (m : Int) ≤ 1492 := by omega
                            have q := Lib.hid (K.new w (.cells #[.int .i64 2, .int .i64 sport, .int .i64 dport, .int .i64 0, .int .i64 0, .int .i64 0, .int .i64 0, .int .i64 0, .int .i64 0, .int .i64 0, .int .i64 0, .bool true, .slice A 0 c, .slice D m d] 36))
                            have HS := Lib.hid (fun v => show Calls Try.prog 61 #[.agg #[.int .i64 2, .int .i64 sport, .int .i64 dport, .int .i64 0, .int .i64 0, .int .i64 0, .int .i64 0, .int .i64 0, .int .i64 0, .int .i64 0, .int .i64 0, .bool true, .slice A 0 c, .slice D m d]] v fun e w' => e = .returned (.int .i64 (8 + (m : Int))) ∧ Below v.heap.size v w' from (show Uh.size (Uh.mk 2 sport dport 0 0 0 0 0 0 0 0 true) 0 m = 8 + (m : Int) by simp [Uh.size]) ▸ specUpSize (Uh.mk 2 sport dport 0 0 0 0 0 0 0 0 true) A D 0 c m d v (by omega) hm)
                            try simp only at q HS ⊢
                            go_enter Try.func59, Try.ntmps59
                            go_wp2_with (first | (go_at_call 39; (first | (with_reducible refine (specInB sport 65535 true _ U1.out).mono ?_) | (with_reducible refine (specInB dport 65535 true _ U2.out).mono ?_)); rintro e w1 ⟨rfl, rfl⟩) | (with_reducible refine loadU rfl _ rfl w.heap.size rfl q.out ?_) | (go_at_call 61; refine Calls.mono (HS.out _) ?_; rintro e w9 ⟨rfl, b9⟩; have B9 := Lib.hid (bthen (Joins.below_alloc1 w _) b9); clear b9))
                            go_ret
                            exact ⟨ret_bool (by simp [Uh.ok, Uh.fields, noF, Uh.unused, kindB, Uh.size, U1.out, U2.out, *] <;> omega), B9.out⟩
                        | false =>
                          by_cases z_z : m ≤ 1492
                          case neg =>
                            have z_m : 1492 < (m : Int) := by omega
                            have q := Lib.hid (K.new w (.cells #[.int .i64 2, .int .i64 sport, .int .i64 dport, .int .i64 0, .int .i64 0, .int .i64 0, .int .i64 0, .int .i64 0, .int .i64 0, .int .i64 0, .int .i64 0, .bool false, .slice A 0 c, .slice D m d] 36))
                            have HS := Lib.hid (fun v => show Calls Try.prog 61 #[.agg #[.int .i64 2, .int .i64 sport, .int .i64 dport, .int .i64 0, .int .i64 0, .int .i64 0, .int .i64 0, .int .i64 0, .int .i64 0, .int .i64 0, .int .i64 0, .bool false, .slice A 0 c, .slice D m d]] v fun e w' => e = .returned (.int .i64 (8 + (m : Int))) ∧ Below v.heap.size v w' from (show Uh.size (Uh.mk 2 sport dport 0 0 0 0 0 0 0 0 false) 0 m = 8 + (m : Int) by simp [Uh.size]) ▸ specUpSize (Uh.mk 2 sport dport 0 0 0 0 0 0 0 0 false) A D 0 c m d v (by omega) hm)
                            try simp only at q HS ⊢
                            go_enter Try.func59, Try.ntmps59
                            go_wp2_with (first | (go_at_call 39; (first | (with_reducible refine (specInB sport 65535 true _ U1.out).mono ?_) | (with_reducible refine (specInB dport 65535 true _ U2.out).mono ?_)); rintro e w1 ⟨rfl, rfl⟩) | (with_reducible refine loadU rfl _ rfl w.heap.size rfl q.out ?_) | (go_at_call 61; refine Calls.mono (HS.out _) ?_; rintro e w9 ⟨rfl, b9⟩; have B9 := Lib.hid (bthen (Joins.below_alloc1 w _) b9); clear b9))
                            go_ret
                            exact ⟨ret_bool (by simp [Uh.ok, Uh.fields, noF, Uh.unused, kindB, Uh.size, U1.out, U2.out, *] <;> omega), B9.out⟩
                          case pos =>
                            have z_m : (m : Int) ≤ 1492 := by omega
                            have q := Lib.hid (K.new w (.cells #[.int .i64 2, .int .i64 sport, .int .i64 dport, .int .i64 0, .int .i64 0, .int .i64 0, .int .i64 0, .int .i64 0, .int .i64 0, .int .i64 0, .int .i64 0, .bool false, .slice A 0 c, .slice D m d] 36))
                            have HS := Lib.hid (fun v => show Calls Try.prog 61 #[.agg #[.int .i64 2, .int .i64 sport, .int .i64 dport, .int .i64 0, .int .i64 0, .int .i64 0, .int .i64 0, .int .i64 0, .int .i64 0, .int .i64 0, .int .i64 0, .bool false, .slice A 0 c, .slice D m d]] v fun e w' => e = .returned (.int .i64 (8 + (m : Int))) ∧ Below v.heap.size v w' from (show Uh.size (Uh.mk 2 sport dport 0 0 0 0 0 0 0 0 false) 0 m = 8 + (m : Int) by simp [Uh.size]) ▸ specUpSize (Uh.mk 2 sport dport 0 0 0 0 0 0 0 0 false) A D 0 c m d v (by omega) hm)
                            try simp only at q HS ⊢
                            go_enter Try.func59, Try.ntmps59
                            go_wp2_with (first | (go_at_call 39; (first | (with_reducible refine (specInB sport 65535 true _ U1.out).mono ?_) | (with_reducible refine (specInB dport 65535 true _ U2.out).mono ?_)); rintro e w1 ⟨rfl, rfl⟩) | (with_reducible refine loadU rfl _ rfl w.heap.size rfl q.out ?_) | (go_at_call 61; refine Calls.mono (HS.out _) ?_; rintro e w9 ⟨rfl, b9⟩; have B9 := Lib.hid (bthen (Joins.below_alloc1 w _) b9); clear b9))
                            go_ret
                            exact ⟨ret_bool (by simp [Uh.ok, Uh.fields, noF, Uh.unused, kindB, Uh.size, U1.out, U2.out, *] <;> omega), B9.out⟩

end Go.Proofs.Ythogonpjkngpjaa

namespace Go.Proofs.Ythogonpjkngpjaa
set_option maxRecDepth 100000
open Go.RowKit

set_option maxHeartbeats 8000000 in
theorem upOkS2_6 (sport dport seq ack bits window urgent ty code rest : Int) (nosum : Bool) (A D : Option Addr) (n c m d : Nat) (w : World) (hn : n ≤ 1048576) (hm : m ≤ 1048576) : Calls Try.prog 59 #[.agg #[.int .i64 2, .int .i64 sport, .int .i64 dport, .int .i64 seq, .int .i64 ack, .int .i64 bits, .int .i64 window, .int .i64 urgent, .int .i64 ty, .int .i64 code, .int .i64 rest, .bool nosum, .slice A n c, .slice D m d], .int .i64 6] w fun e w' => e = .returned (.bool (Uh.ok (Uh.mk 2 sport dport seq ack bits window urgent ty code rest nosum) 6 n m)) ∧ Below w.heap.size w w' := by
  cases u1 : upTo sport 65535 with
  | false =>
    have U1 := Lib.hid u1
    clear u1
    have q := Lib.hid (K.new w (.cells #[.int .i64 2, .int .i64 sport, .int .i64 dport, .int .i64 seq, .int .i64 ack, .int .i64 bits, .int .i64 window, .int .i64 urgent, .int .i64 ty, .int .i64 code, .int .i64 rest, .bool nosum, .slice A n c, .slice D m d] 36))
    try simp only at q ⊢
    go_enter Try.func59, Try.ntmps59
    go_wp2_with (first | (go_at_call 39; (first | (with_reducible refine (specInB sport 65535 false _ U1.out).mono ?_)); rintro e w1 ⟨rfl, rfl⟩))
    go_ret
    exact ⟨ret_bool (by simp [Uh.ok, Uh.fields, noF, Uh.unused, kindB, Uh.size, U1.out, *]), Joins.below_alloc1 w _⟩
  | true =>
    have U1 := Lib.hid u1
    clear u1
    cases u2 : upTo dport 65535 with
    | false =>
      have U2 := Lib.hid u2
      clear u2
      have q := Lib.hid (K.new w (.cells #[.int .i64 2, .int .i64 sport, .int .i64 dport, .int .i64 seq, .int .i64 ack, .int .i64 bits, .int .i64 window, .int .i64 urgent, .int .i64 ty, .int .i64 code, .int .i64 rest, .bool nosum, .slice A n c, .slice D m d] 36))
      try simp only at q ⊢
      go_enter Try.func59, Try.ntmps59
      go_wp2_with (first | (go_at_call 39; (first | (with_reducible refine (specInB sport 65535 true _ U1.out).mono ?_) | (with_reducible refine (specInB dport 65535 false _ U2.out).mono ?_)); rintro e w1 ⟨rfl, rfl⟩))
      go_ret
      exact ⟨ret_bool (by simp [Uh.ok, Uh.fields, noF, Uh.unused, kindB, Uh.size, U1.out, U2.out, *]), Joins.below_alloc1 w _⟩
    | true =>
      have U2 := Lib.hid u2
      clear u2
      by_cases z_seq : seq = 0
      case neg =>
        have q := Lib.hid (K.new w (.cells #[.int .i64 2, .int .i64 sport, .int .i64 dport, .int .i64 seq, .int .i64 ack, .int .i64 bits, .int .i64 window, .int .i64 urgent, .int .i64 ty, .int .i64 code, .int .i64 rest, .bool nosum, .slice A n c, .slice D m d] 36))
        try simp only at q ⊢
        go_enter Try.func59, Try.ntmps59
        go_wp2_with (first | (go_at_call 39; (first | (with_reducible refine (specInB sport 65535 true _ U1.out).mono ?_) | (with_reducible refine (specInB dport 65535 true _ U2.out).mono ?_)); rintro e w1 ⟨rfl, rfl⟩))
        go_ret
        exact ⟨ret_bool (by simp [Uh.ok, Uh.fields, noF, Uh.unused, kindB, Uh.size, U1.out, U2.out, *]), Joins.below_alloc1 w _⟩
      case pos =>
        subst z_seq
        by_cases z_ack : ack = 0
        case neg =>
          have q := Lib.hid (K.new w (.cells #[.int .i64 2, .int .i64 sport, .int .i64 dport, .int .i64 0, .int .i64 ack, .int .i64 bits, .int .i64 window, .int .i64 urgent, .int .i64 ty, .int .i64 code, .int .i64 rest, .bool nosum, .slice A n c, .slice D m d] 36))
          try simp only at q ⊢
          go_enter Try.func59, Try.ntmps59
          go_wp2_with (first | (go_at_call 39; (first | (with_reducible refine (specInB sport 65535 true _ U1.out).mono ?_) | (with_reducible refine (specInB dport 65535 true _ U2.out).mono ?_)); rintro e w1 ⟨rfl, rfl⟩))
          go_ret
          exact ⟨ret_bool (by simp [Uh.ok, Uh.fields, noF, Uh.unused, kindB, Uh.size, U1.out, U2.out, *]), Joins.below_alloc1 w _⟩
        case pos =>
          subst z_ack
          by_cases z_bits : bits = 0
          case neg =>
            have q := Lib.hid (K.new w (.cells #[.int .i64 2, .int .i64 sport, .int .i64 dport, .int .i64 0, .int .i64 0, .int .i64 bits, .int .i64 window, .int .i64 urgent, .int .i64 ty, .int .i64 code, .int .i64 rest, .bool nosum, .slice A n c, .slice D m d] 36))
            try simp only at q ⊢
            go_enter Try.func59, Try.ntmps59
            go_wp2_with (first | (go_at_call 39; (first | (with_reducible refine (specInB sport 65535 true _ U1.out).mono ?_) | (with_reducible refine (specInB dport 65535 true _ U2.out).mono ?_)); rintro e w1 ⟨rfl, rfl⟩))
            go_ret
            exact ⟨ret_bool (by simp [Uh.ok, Uh.fields, noF, Uh.unused, kindB, Uh.size, U1.out, U2.out, *]), Joins.below_alloc1 w _⟩
          case pos =>
            subst z_bits
            by_cases z_window : window = 0
            case neg =>
              have q := Lib.hid (K.new w (.cells #[.int .i64 2, .int .i64 sport, .int .i64 dport, .int .i64 0, .int .i64 0, .int .i64 0, .int .i64 window, .int .i64 urgent, .int .i64 ty, .int .i64 code, .int .i64 rest, .bool nosum, .slice A n c, .slice D m d] 36))
              try simp only at q ⊢
              go_enter Try.func59, Try.ntmps59
              go_wp2_with (first | (go_at_call 39; (first | (with_reducible refine (specInB sport 65535 true _ U1.out).mono ?_) | (with_reducible refine (specInB dport 65535 true _ U2.out).mono ?_)); rintro e w1 ⟨rfl, rfl⟩))
              go_ret
              exact ⟨ret_bool (by simp [Uh.ok, Uh.fields, noF, Uh.unused, kindB, Uh.size, U1.out, U2.out, *]), Joins.below_alloc1 w _⟩
            case pos =>
              subst z_window
              by_cases z_urgent : urgent = 0
              case neg =>
                have q := Lib.hid (K.new w (.cells #[.int .i64 2, .int .i64 sport, .int .i64 dport, .int .i64 0, .int .i64 0, .int .i64 0, .int .i64 0, .int .i64 urgent, .int .i64 ty, .int .i64 code, .int .i64 rest, .bool nosum, .slice A n c, .slice D m d] 36))
                try simp only at q ⊢
                go_enter Try.func59, Try.ntmps59
                go_wp2_with (first | (go_at_call 39; (first | (with_reducible refine (specInB sport 65535 true _ U1.out).mono ?_) | (with_reducible refine (specInB dport 65535 true _ U2.out).mono ?_)); rintro e w1 ⟨rfl, rfl⟩))
                go_ret
                exact ⟨ret_bool (by simp [Uh.ok, Uh.fields, noF, Uh.unused, kindB, Uh.size, U1.out, U2.out, *]), Joins.below_alloc1 w _⟩
              case pos =>
                subst z_urgent
                by_cases z_n : n = 0
                case neg =>
                  have z_m : ¬ (n : Int) = 0 := by omega
                  have q := Lib.hid (K.new w (.cells #[.int .i64 2, .int .i64 sport, .int .i64 dport, .int .i64 0, .int .i64 0, .int .i64 0, .int .i64 0, .int .i64 0, .int .i64 ty, .int .i64 code, .int .i64 rest, .bool nosum, .slice A n c, .slice D m d] 36))
                  try simp only at q ⊢
                  go_enter Try.func59, Try.ntmps59
                  go_wp2_with (first | (go_at_call 39; (first | (with_reducible refine (specInB sport 65535 true _ U1.out).mono ?_) | (with_reducible refine (specInB dport 65535 true _ U2.out).mono ?_)); rintro e w1 ⟨rfl, rfl⟩))
                  go_ret
                  exact ⟨ret_bool (by simp [Uh.ok, Uh.fields, noF, Uh.unused, kindB, Uh.size, U1.out, U2.out, *]), Joins.below_alloc1 w _⟩
                case pos =>
                  subst z_n
                  by_cases z_ty : ty = 0
                  case neg =>
                    have q := Lib.hid (K.new w (.cells #[.int .i64 2, .int .i64 sport, .int .i64 dport, .int .i64 0, .int .i64 0, .int .i64 0, .int .i64 0, .int .i64 0, .int .i64 ty, .int .i64 code, .int .i64 rest, .bool nosum, .slice A 0 c, .slice D m d] 36))
                    try simp only at q ⊢
                    go_enter Try.func59, Try.ntmps59
                    go_wp2_with (first | (go_at_call 39; (first | (with_reducible refine (specInB sport 65535 true _ U1.out).mono ?_) | (with_reducible refine (specInB dport 65535 true _ U2.out).mono ?_)); rintro e w1 ⟨rfl, rfl⟩))
                    go_ret
                    exact ⟨ret_bool (by simp [Uh.ok, Uh.fields, noF, Uh.unused, kindB, Uh.size, U1.out, U2.out, *]), Joins.below_alloc1 w _⟩
                  case pos =>
                    subst z_ty
                    by_cases z_code : code = 0
                    case neg =>
                      have q := Lib.hid (K.new w (.cells #[.int .i64 2, .int .i64 sport, .int .i64 dport, .int .i64 0, .int .i64 0, .int .i64 0, .int .i64 0, .int .i64 0, .int .i64 0, .int .i64 code, .int .i64 rest, .bool nosum, .slice A 0 c, .slice D m d] 36))
                      try simp only at q ⊢
                      go_enter Try.func59, Try.ntmps59
                      go_wp2_with (first | (go_at_call 39; (first | (with_reducible refine (specInB sport 65535 true _ U1.out).mono ?_) | (with_reducible refine (specInB dport 65535 true _ U2.out).mono ?_)); rintro e w1 ⟨rfl, rfl⟩))
                      go_ret
                      exact ⟨ret_bool (by simp [Uh.ok, Uh.fields, noF, Uh.unused, kindB, Uh.size, U1.out, U2.out, *]), Joins.below_alloc1 w _⟩
                    case pos =>
                      subst z_code
                      by_cases z_rest : rest = 0
                      case neg =>
                        have q := Lib.hid (K.new w (.cells #[.int .i64 2, .int .i64 sport, .int .i64 dport, .int .i64 0, .int .i64 0, .int .i64 0, .int .i64 0, .int .i64 0, .int .i64 0, .int .i64 0, .int .i64 rest, .bool nosum, .slice A 0 c, .slice D m d] 36))
                        try simp only at q ⊢
                        go_enter Try.func59, Try.ntmps59
                        go_wp2_with (first | (go_at_call 39; (first | (with_reducible refine (specInB sport 65535 true _ U1.out).mono ?_) | (with_reducible refine (specInB dport 65535 true _ U2.out).mono ?_)); rintro e w1 ⟨rfl, rfl⟩))
                        go_ret
                        exact ⟨ret_bool (by simp [Uh.ok, Uh.fields, noF, Uh.unused, kindB, Uh.size, U1.out, U2.out, *]), Joins.below_alloc1 w _⟩
                      case pos =>
                        subst z_rest
                        cases nosum with
                        | true =>
                          have q := Lib.hid (K.new w (.cells #[.int .i64 2, .int .i64 sport, .int .i64 dport, .int .i64 0, .int .i64 0, .int .i64 0, .int .i64 0, .int .i64 0, .int .i64 0, .int .i64 0, .int .i64 0, .bool true, .slice A 0 c, .slice D m d] 36))
                          try simp only at q ⊢
                          go_enter Try.func59, Try.ntmps59
                          go_wp2_with (first | (go_at_call 39; (first | (with_reducible refine (specInB sport 65535 true _ U1.out).mono ?_) | (with_reducible refine (specInB dport 65535 true _ U2.out).mono ?_)); rintro e w1 ⟨rfl, rfl⟩))
                          go_ret
                          exact ⟨ret_bool (by simp [Uh.ok, Uh.fields, noF, Uh.unused, kindB, Uh.size, U1.out, U2.out, *]), Joins.below_alloc1 w _⟩
                        | false =>
                          by_cases z_z : m ≤ 1492
                          case neg =>
                            have z_y : ¬ 8 + (m : Int) ≤ 1500 := by omega
                            have q := Lib.hid (K.new w (.cells #[.int .i64 2, .int .i64 sport, .int .i64 dport, .int .i64 0, .int .i64 0, .int .i64 0, .int .i64 0, .int .i64 0, .int .i64 0, .int .i64 0, .int .i64 0, .bool false, .slice A 0 c, .slice D m d] 36))
                            have HS := Lib.hid (fun v => show Calls Try.prog 61 #[.agg #[.int .i64 2, .int .i64 sport, .int .i64 dport, .int .i64 0, .int .i64 0, .int .i64 0, .int .i64 0, .int .i64 0, .int .i64 0, .int .i64 0, .int .i64 0, .bool false, .slice A 0 c, .slice D m d]] v fun e w' => e = .returned (.int .i64 (8 + (m : Int))) ∧ Below v.heap.size v w' from (show Uh.size (Uh.mk 2 sport dport 0 0 0 0 0 0 0 0 false) 0 m = 8 + (m : Int) by simp [Uh.size]) ▸ specUpSize (Uh.mk 2 sport dport 0 0 0 0 0 0 0 0 false) A D 0 c m d v (by omega) hm)
                            try simp only at q HS ⊢
                            go_enter Try.func59, Try.ntmps59
                            go_wp2_with (first | (go_at_call 39; (first | (with_reducible refine (specInB sport 65535 true _ U1.out).mono ?_) | (with_reducible refine (specInB dport 65535 true _ U2.out).mono ?_)); rintro e w1 ⟨rfl, rfl⟩) | (with_reducible refine loadU rfl _ rfl w.heap.size rfl q.out ?_) | (go_at_call 61; refine Calls.mono (HS.out _) ?_; rintro e w9 ⟨rfl, b9⟩; have B9 := Lib.hid (bthen (Joins.below_alloc1 w _) b9); clear b9))
                            go_ret
                            exact ⟨ret_bool (by simp [Uh.ok, Uh.fields, noF, Uh.unused, kindB, Uh.size, U1.out, U2.out, *] <;> omega), B9.out⟩
                          case pos =>
                            have z_y : 8 + (m : Int) ≤ 1500 := by omega
                            have q := Lib.hid (K.new w (.cells #[.int .i64 2, .int .i64 sport, .int .i64 dport, .int .i64 0, .int .i64 0, .int .i64 0, .int .i64 0, .int .i64 0, .int .i64 0, .int .i64 0, .int .i64 0, .bool false, .slice A 0 c, .slice D m d] 36))
                            have HS := Lib.hid (fun v => show Calls Try.prog 61 #[.agg #[.int .i64 2, .int .i64 sport, .int .i64 dport, .int .i64 0, .int .i64 0, .int .i64 0, .int .i64 0, .int .i64 0, .int .i64 0, .int .i64 0, .int .i64 0, .bool false, .slice A 0 c, .slice D m d]] v fun e w' => e = .returned (.int .i64 (8 + (m : Int))) ∧ Below v.heap.size v w' from (show Uh.size (Uh.mk 2 sport dport 0 0 0 0 0 0 0 0 false) 0 m = 8 + (m : Int) by simp [Uh.size]) ▸ specUpSize (Uh.mk 2 sport dport 0 0 0 0 0 0 0 0 false) A D 0 c m d v (by omega) hm)
                            try simp only at q HS ⊢
                            go_enter Try.func59, Try.ntmps59
                            go_wp2_with (first | (go_at_call 39; (first | (with_reducible refine (specInB sport 65535 true _ U1.out).mono ?_) | (with_reducible refine (specInB dport 65535 true _ U2.out).mono ?_)); rintro e w1 ⟨rfl, rfl⟩) | (with_reducible refine loadU rfl _ rfl w.heap.size rfl q.out ?_) | (go_at_call 61; refine Calls.mono (HS.out _) ?_; rintro e w9 ⟨rfl, b9⟩; have B9 := Lib.hid (bthen (Joins.below_alloc1 w _) b9); clear b9))
                            go_ret
                            exact ⟨ret_bool (by simp [Uh.ok, Uh.fields, noF, Uh.unused, kindB, Uh.size, U1.out, U2.out, *] <;> omega), B9.out⟩

end Go.Proofs.Ythogonpjkngpjaa

namespace Go.Proofs.Ythogonpjkngpjaa
set_option maxRecDepth 100000
open Go.RowKit

theorem specHalfB34 (n : Int) (b : Bool) (w : World) (h : half n = b) : Calls Try.prog 97 #[.int .i64 n] w fun e w' => e = .returned (.bool b) ∧ w = w' := h ▸ specHalf n w

set_option maxHeartbeats 8000000 in
theorem upOkS3_4 (sport dport seq ack bits window urgent ty code rest : Int) (nosum : Bool) (A D : Option Addr) (n c m d : Nat) (w : World) (hn : n ≤ 1048576) (hm : m ≤ 1048576) : Calls Try.prog 59 #[.agg #[.int .i64 3, .int .i64 sport, .int .i64 dport, .int .i64 seq, .int .i64 ack, .int .i64 bits, .int .i64 window, .int .i64 urgent, .int .i64 ty, .int .i64 code, .int .i64 rest, .bool nosum, .slice A n c, .slice D m d], .int .i64 4] w fun e w' => e = .returned (.bool (Uh.ok (Uh.mk 3 sport dport seq ack bits window urgent ty code rest nosum) 4 n m)) ∧ Below w.heap.size w w' := by
  cases u1 : upTo sport 65535 with
  | false =>
    have U1 := Lib.hid u1
    clear u1
    have zz : ¬ sport = 0 := fun e => by have := U1.out; rw [e, upTo_zero _ (by omega)] at this; cases this
    have q := Lib.hid (K.new w (.cells #[.int .i64 3, .int .i64 sport, .int .i64 dport, .int .i64 seq, .int .i64 ack, .int .i64 bits, .int .i64 window, .int .i64 urgent, .int .i64 ty, .int .i64 code, .int .i64 rest, .bool nosum, .slice A n c, .slice D m d] 36))
    try simp only at q ⊢
    go_enter Try.func59, Try.ntmps59
    go_wp2_with (first | (go_at_call 39; (first | (with_reducible refine (specInB sport 65535 false _ U1.out).mono ?_)); rintro e w1 ⟨rfl, rfl⟩))
    go_ret
    exact ⟨ret_bool (by simp [Uh.ok, Uh.fields, noF, Uh.unused, kindB, Uh.size, *]), Joins.below_alloc1 w _⟩
  | true =>
    have U1 := Lib.hid u1
    clear u1
    cases u2 : upTo dport 65535 with
    | false =>
      have U2 := Lib.hid u2
      clear u2
      have zz : ¬ dport = 0 := fun e => by have := U2.out; rw [e, upTo_zero _ (by omega)] at this; cases this
      have q := Lib.hid (K.new w (.cells #[.int .i64 3, .int .i64 sport, .int .i64 dport, .int .i64 seq, .int .i64 ack, .int .i64 bits, .int .i64 window, .int .i64 urgent, .int .i64 ty, .int .i64 code, .int .i64 rest, .bool nosum, .slice A n c, .slice D m d] 36))
      try simp only at q ⊢
      go_enter Try.func59, Try.ntmps59
      go_wp2_with (first | (go_at_call 39; (first | (with_reducible refine (specInB sport 65535 true _ U1.out).mono ?_) | (with_reducible refine (specInB dport 65535 false _ U2.out).mono ?_)); rintro e w1 ⟨rfl, rfl⟩))
      go_ret
      exact ⟨ret_bool (by simp [Uh.ok, Uh.fields, noF, Uh.unused, kindB, Uh.size, *]), Joins.below_alloc1 w _⟩
    | true =>
      have U2 := Lib.hid u2
      clear u2
      by_cases z_sport : sport = 0
      case neg =>
        have q := Lib.hid (K.new w (.cells #[.int .i64 3, .int .i64 sport, .int .i64 dport, .int .i64 seq, .int .i64 ack, .int .i64 bits, .int .i64 window, .int .i64 urgent, .int .i64 ty, .int .i64 code, .int .i64 rest, .bool nosum, .slice A n c, .slice D m d] 36))
        try simp only at q ⊢
        go_enter Try.func59, Try.ntmps59
        go_wp2_with (first | (go_at_call 39; (first | (with_reducible refine (specInB sport 65535 true _ U1.out).mono ?_) | (with_reducible refine (specInB dport 65535 true _ U2.out).mono ?_)); rintro e w1 ⟨rfl, rfl⟩))
        go_ret
        exact ⟨ret_bool (by simp [Uh.ok, Uh.fields, noF, Uh.unused, kindB, Uh.size, *]), Joins.below_alloc1 w _⟩
      case pos =>
        subst z_sport
        clear U1
        by_cases z_dport : dport = 0
        case neg =>
          have q := Lib.hid (K.new w (.cells #[.int .i64 3, .int .i64 0, .int .i64 dport, .int .i64 seq, .int .i64 ack, .int .i64 bits, .int .i64 window, .int .i64 urgent, .int .i64 ty, .int .i64 code, .int .i64 rest, .bool nosum, .slice A n c, .slice D m d] 36))
          try simp only at q ⊢
          go_enter Try.func59, Try.ntmps59
          go_wp2_with (first | (go_at_call 39; (first | (with_reducible refine (specInB 0 65535 true _ (by decide)).mono ?_) | (with_reducible refine (specInB dport 65535 true _ U2.out).mono ?_)); rintro e w1 ⟨rfl, rfl⟩))
          go_ret
          exact ⟨ret_bool (by simp [Uh.ok, Uh.fields, noF, Uh.unused, kindB, Uh.size, *]), Joins.below_alloc1 w _⟩
        case pos =>
          subst z_dport
          clear U2
          by_cases z_seq : seq = 0
          case neg =>
            have q := Lib.hid (K.new w (.cells #[.int .i64 3, .int .i64 0, .int .i64 0, .int .i64 seq, .int .i64 ack, .int .i64 bits, .int .i64 window, .int .i64 urgent, .int .i64 ty, .int .i64 code, .int .i64 rest, .bool nosum, .slice A n c, .slice D m d] 36))
            try simp only at q ⊢
            go_enter Try.func59, Try.ntmps59
            go_wp2_with (first | (go_at_call 39; (first | (with_reducible refine (specInB 0 65535 true _ (by decide)).mono ?_) | (with_reducible refine (specInB 0 65535 true _ (by decide)).mono ?_)); rintro e w1 ⟨rfl, rfl⟩))
            go_ret
            exact ⟨ret_bool (by simp [Uh.ok, Uh.fields, noF, Uh.unused, kindB, Uh.size, *]), Joins.below_alloc1 w _⟩
          case pos =>
            subst z_seq
            by_cases z_ack : ack = 0
            case neg =>
              have q := Lib.hid (K.new w (.cells #[.int .i64 3, .int .i64 0, .int .i64 0, .int .i64 0, .int .i64 ack, .int .i64 bits, .int .i64 window, .int .i64 urgent, .int .i64 ty, .int .i64 code, .int .i64 rest, .bool nosum, .slice A n c, .slice D m d] 36))
              try simp only at q ⊢
              go_enter Try.func59, Try.ntmps59
              go_wp2_with (first | (go_at_call 39; (first | (with_reducible refine (specInB 0 65535 true _ (by decide)).mono ?_) | (with_reducible refine (specInB 0 65535 true _ (by decide)).mono ?_)); rintro e w1 ⟨rfl, rfl⟩))
              go_ret
              exact ⟨ret_bool (by simp [Uh.ok, Uh.fields, noF, Uh.unused, kindB, Uh.size, *]), Joins.below_alloc1 w _⟩
            case pos =>
              subst z_ack
              by_cases z_bits : bits = 0
              case neg =>
                have q := Lib.hid (K.new w (.cells #[.int .i64 3, .int .i64 0, .int .i64 0, .int .i64 0, .int .i64 0, .int .i64 bits, .int .i64 window, .int .i64 urgent, .int .i64 ty, .int .i64 code, .int .i64 rest, .bool nosum, .slice A n c, .slice D m d] 36))
                try simp only at q ⊢
                go_enter Try.func59, Try.ntmps59
                go_wp2_with (first | (go_at_call 39; (first | (with_reducible refine (specInB 0 65535 true _ (by decide)).mono ?_) | (with_reducible refine (specInB 0 65535 true _ (by decide)).mono ?_)); rintro e w1 ⟨rfl, rfl⟩))
                go_ret
                exact ⟨ret_bool (by simp [Uh.ok, Uh.fields, noF, Uh.unused, kindB, Uh.size, *]), Joins.below_alloc1 w _⟩
              case pos =>
                subst z_bits
                by_cases z_window : window = 0
                case neg =>
                  have q := Lib.hid (K.new w (.cells #[.int .i64 3, .int .i64 0, .int .i64 0, .int .i64 0, .int .i64 0, .int .i64 0, .int .i64 window, .int .i64 urgent, .int .i64 ty, .int .i64 code, .int .i64 rest, .bool nosum, .slice A n c, .slice D m d] 36))
                  try simp only at q ⊢
                  go_enter Try.func59, Try.ntmps59
                  go_wp2_with (first | (go_at_call 39; (first | (with_reducible refine (specInB 0 65535 true _ (by decide)).mono ?_) | (with_reducible refine (specInB 0 65535 true _ (by decide)).mono ?_)); rintro e w1 ⟨rfl, rfl⟩))
                  go_ret
                  exact ⟨ret_bool (by simp [Uh.ok, Uh.fields, noF, Uh.unused, kindB, Uh.size, *]), Joins.below_alloc1 w _⟩
                case pos =>
                  subst z_window
                  by_cases z_urgent : urgent = 0
                  case neg =>
                    have q := Lib.hid (K.new w (.cells #[.int .i64 3, .int .i64 0, .int .i64 0, .int .i64 0, .int .i64 0, .int .i64 0, .int .i64 0, .int .i64 urgent, .int .i64 ty, .int .i64 code, .int .i64 rest, .bool nosum, .slice A n c, .slice D m d] 36))
                    try simp only at q ⊢
                    go_enter Try.func59, Try.ntmps59
                    go_wp2_with (first | (go_at_call 39; (first | (with_reducible refine (specInB 0 65535 true _ (by decide)).mono ?_) | (with_reducible refine (specInB 0 65535 true _ (by decide)).mono ?_)); rintro e w1 ⟨rfl, rfl⟩))
                    go_ret
                    exact ⟨ret_bool (by simp [Uh.ok, Uh.fields, noF, Uh.unused, kindB, Uh.size, *]), Joins.below_alloc1 w _⟩
                  case pos =>
                    subst z_urgent
                    by_cases z_n : n = 0
                    case neg =>
                      have z_m : ¬ (n : Int) = 0 := by omega
                      have q := Lib.hid (K.new w (.cells #[.int .i64 3, .int .i64 0, .int .i64 0, .int .i64 0, .int .i64 0, .int .i64 0, .int .i64 0, .int .i64 0, .int .i64 ty, .int .i64 code, .int .i64 rest, .bool nosum, .slice A n c, .slice D m d] 36))
                      try simp only at q ⊢
                      go_enter Try.func59, Try.ntmps59
                      go_wp2_with (first | (go_at_call 39; (first | (with_reducible refine (specInB 0 65535 true _ (by decide)).mono ?_) | (with_reducible refine (specInB 0 65535 true _ (by decide)).mono ?_)); rintro e w1 ⟨rfl, rfl⟩))
                      go_ret
                      exact ⟨ret_bool (by simp [Uh.ok, Uh.fields, noF, Uh.unused, kindB, Uh.size, *]), Joins.below_alloc1 w _⟩
                    case pos =>
                      subst z_n
                      cases u3 : upTo ty 255 with
                      | false =>
                        have U3 := Lib.hid u3
                        clear u3
                        have q := Lib.hid (K.new w (.cells #[.int .i64 3, .int .i64 0, .int .i64 0, .int .i64 0, .int .i64 0, .int .i64 0, .int .i64 0, .int .i64 0, .int .i64 ty, .int .i64 code, .int .i64 rest, .bool nosum, .slice A 0 c, .slice D m d] 36))
                        try simp only at q ⊢
                        go_enter Try.func59, Try.ntmps59
                        go_wp2_with (first | (go_at_call 39; (first | (with_reducible refine (specInB 0 65535 true _ (by decide)).mono ?_) | (with_reducible refine (specInB 0 65535 true _ (by decide)).mono ?_) | (with_reducible refine (specInB ty 255 false _ U3.out).mono ?_)); rintro e w1 ⟨rfl, rfl⟩))
                        go_ret
                        exact ⟨ret_bool (by simp [Uh.ok, Uh.fields, noF, Uh.unused, kindB, Uh.size, U3.out, *]), Joins.below_alloc1 w _⟩
                      | true =>
                        have U3 := Lib.hid u3
                        clear u3
                        cases u4 : upTo code 255 with
                        | false =>
                          have U4 := Lib.hid u4
                          clear u4
                          have q := Lib.hid (K.new w (.cells #[.int .i64 3, .int .i64 0, .int .i64 0, .int .i64 0, .int .i64 0, .int .i64 0, .int .i64 0, .int .i64 0, .int .i64 ty, .int .i64 code, .int .i64 rest, .bool nosum, .slice A 0 c, .slice D m d] 36))
                          try simp only at q ⊢
                          go_enter Try.func59, Try.ntmps59
                          go_wp2_with (first | (go_at_call 39; (first | (with_reducible refine (specInB 0 65535 true _ (by decide)).mono ?_) | (with_reducible refine (specInB 0 65535 true _ (by decide)).mono ?_) | (with_reducible refine (specInB ty 255 true _ U3.out).mono ?_) | (with_reducible refine (specInB code 255 false _ U4.out).mono ?_)); rintro e w1 ⟨rfl, rfl⟩))
                          go_ret
                          exact ⟨ret_bool (by simp [Uh.ok, Uh.fields, noF, Uh.unused, kindB, Uh.size, U3.out, U4.out, *]), Joins.below_alloc1 w _⟩
                        | true =>
                          have U4 := Lib.hid u4
                          clear u4
                          cases u5 : half rest with
                          | false =>
                            have U5 := Lib.hid u5
                            clear u5
                            have q := Lib.hid (K.new w (.cells #[.int .i64 3, .int .i64 0, .int .i64 0, .int .i64 0, .int .i64 0, .int .i64 0, .int .i64 0, .int .i64 0, .int .i64 ty, .int .i64 code, .int .i64 rest, .bool nosum, .slice A 0 c, .slice D m d] 36))
                            try simp only at q ⊢
                            go_enter Try.func59, Try.ntmps59
                            go_wp2_with (first | (go_at_call 39; (first | (with_reducible refine (specInB 0 65535 true _ (by decide)).mono ?_) | (with_reducible refine (specInB 0 65535 true _ (by decide)).mono ?_) | (with_reducible refine (specInB ty 255 true _ U3.out).mono ?_) | (with_reducible refine (specInB code 255 true _ U4.out).mono ?_)); rintro e w1 ⟨rfl, rfl⟩) | (go_at_call 97; (first | (with_reducible refine (specHalfB34 rest false _ U5.out).mono ?_)); rintro e w1 ⟨rfl, rfl⟩))
                            go_ret
                            exact ⟨ret_bool (by simp [Uh.ok, Uh.fields, noF, Uh.unused, kindB, Uh.size, U3.out, U4.out, U5.out, *]), Joins.below_alloc1 w _⟩
                          | true =>
                            have U5 := Lib.hid u5
                            clear u5
                            cases nosum with
                            | true =>
                              have q := Lib.hid (K.new w (.cells #[.int .i64 3, .int .i64 0, .int .i64 0, .int .i64 0, .int .i64 0, .int .i64 0, .int .i64 0, .int .i64 0, .int .i64 ty, .int .i64 code, .int .i64 rest, .bool true, .slice A 0 c, .slice D m d] 36))
                              try simp only at q ⊢
                              go_enter Try.func59, Try.ntmps59
                              go_wp2_with (first | (go_at_call 39; (first | (with_reducible refine (specInB 0 65535 true _ (by decide)).mono ?_) | (with_reducible refine (specInB 0 65535 true _ (by decide)).mono ?_) | (with_reducible refine (specInB ty 255 true _ U3.out).mono ?_) | (with_reducible refine (specInB code 255 true _ U4.out).mono ?_)); rintro e w1 ⟨rfl, rfl⟩) | (go_at_call 97; (first | (with_reducible refine (specHalfB34 rest true _ U5.out).mono ?_)); rintro e w1 ⟨rfl, rfl⟩))
                              go_ret
                              exact ⟨ret_bool (by simp [Uh.ok, Uh.fields, noF, Uh.unused, kindB, Uh.size, U3.out, U4.out, U5.out, *]), Joins.below_alloc1 w _⟩
                            | false =>
                              by_cases z_z : m ≤ 1492
                              case neg =>
                                have z_y : ¬ 8 + (m : Int) ≤ 1500 := by omega
                                have q := Lib.hid (K.new w (.cells #[.int .i64 3, .int .i64 0, .int .i64 0, .int .i64 0, .int .i64 0, .int .i64 0, .int .i64 0, .int .i64 0, .int .i64 ty, .int .i64 code, .int .i64 rest, .bool false, .slice A 0 c, .slice D m d] 36))
                                have HS := Lib.hid (fun v => show Calls Try.prog 61 #[.agg #[.int .i64 3, .int .i64 0, .int .i64 0, .int .i64 0, .int .i64 0, .int .i64 0, .int .i64 0, .int .i64 0, .int .i64 ty, .int .i64 code, .int .i64 rest, .bool false, .slice A 0 c, .slice D m d]] v fun e w' => e = .returned (.int .i64 (8 + (m : Int))) ∧ Below v.heap.size v w' from (show Uh.size (Uh.mk 3 0 0 0 0 0 0 0 ty code rest false) 0 m = 8 + (m : Int) by simp [Uh.size]) ▸ specUpSize (Uh.mk 3 0 0 0 0 0 0 0 ty code rest false) A D 0 c m d v (by omega) hm)
                                try simp only at q HS ⊢
                                go_enter Try.func59, Try.ntmps59
                                go_wp2_with (first | (go_at_call 39; (first | (with_reducible refine (specInB 0 65535 true _ (by decide)).mono ?_) | (with_reducible refine (specInB 0 65535 true _ (by decide)).mono ?_) | (with_reducible refine (specInB ty 255 true _ U3.out).mono ?_) | (with_reducible refine (specInB code 255 true _ U4.out).mono ?_)); rintro e w1 ⟨rfl, rfl⟩) | (go_at_call 97; (first | (with_reducible refine (specHalfB34 rest true _ U5.out).mono ?_)); rintro e w1 ⟨rfl, rfl⟩) | (with_reducible refine loadU rfl _ rfl w.heap.size rfl q.out ?_) | (go_at_call 61; refine Calls.mono (HS.out _) ?_; rintro e w9 ⟨rfl, b9⟩; have B9 := Lib.hid (bthen (Joins.below_alloc1 w _) b9); clear b9))
                                go_ret
                                exact ⟨ret_bool (by simp [Uh.ok, Uh.fields, noF, Uh.unused, kindB, Uh.size, U3.out, U4.out, U5.out, *] <;> omega), B9.out⟩
                              case pos =>
                                have z_y : 8 + (m : Int) ≤ 1500 := by omega
                                have q := Lib.hid (K.new w (.cells #[.int .i64 3, .int .i64 0, .int .i64 0, .int .i64 0, .int .i64 0, .int .i64 0, .int .i64 0, .int .i64 0, .int .i64 ty, .int .i64 code, .int .i64 rest, .bool false, .slice A 0 c, .slice D m d] 36))
                                have HS := Lib.hid (fun v => show Calls Try.prog 61 #[.agg #[.int .i64 3, .int .i64 0, .int .i64 0, .int .i64 0, .int .i64 0, .int .i64 0, .int .i64 0, .int .i64 0, .int .i64 ty, .int .i64 code, .int .i64 rest, .bool false, .slice A 0 c, .slice D m d]] v fun e w' => e = .returned (.int .i64 (8 + (m : Int))) ∧ Below v.heap.size v w' from (show Uh.size (Uh.mk 3 0 0 0 0 0 0 0 ty code rest false) 0 m = 8 + (m : Int) by simp [Uh.size]) ▸ specUpSize (Uh.mk 3 0 0 0 0 0 0 0 ty code rest false) A D 0 c m d v (by omega) hm)
                                try simp only at q HS ⊢
                                go_enter Try.func59, Try.ntmps59
                                go_wp2_with (first | (go_at_call 39; (first | (with_reducible refine (specInB 0 65535 true _ (by decide)).mono ?_) | (with_reducible refine (specInB 0 65535 true _ (by decide)).mono ?_) | (with_reducible refine (specInB ty 255 true _ U3.out).mono ?_) | (with_reducible refine (specInB code 255 true _ U4.out).mono ?_)); rintro e w1 ⟨rfl, rfl⟩) | (go_at_call 97; (first | (with_reducible refine (specHalfB34 rest true _ U5.out).mono ?_)); rintro e w1 ⟨rfl, rfl⟩) | (with_reducible refine loadU rfl _ rfl w.heap.size rfl q.out ?_) | (go_at_call 61; refine Calls.mono (HS.out _) ?_; rintro e w9 ⟨rfl, b9⟩; have B9 := Lib.hid (bthen (Joins.below_alloc1 w _) b9); clear b9))
                                go_ret
                                exact ⟨ret_bool (by simp [Uh.ok, Uh.fields, noF, Uh.unused, kindB, Uh.size, U3.out, U4.out, U5.out, *] <;> omega), B9.out⟩

end Go.Proofs.Ythogonpjkngpjaa

namespace Go.Proofs.Ythogonpjkngpjaa
set_option maxRecDepth 100000
open Go.RowKit

theorem specHalfB36 (n : Int) (b : Bool) (w : World) (h : half n = b) : Calls Try.prog 97 #[.int .i64 n] w fun e w' => e = .returned (.bool b) ∧ w = w' := h ▸ specHalf n w

set_option maxHeartbeats 8000000 in
theorem upOkS3_6 (sport dport seq ack bits window urgent ty code rest : Int) (nosum : Bool) (A D : Option Addr) (n c m d : Nat) (w : World) (hn : n ≤ 1048576) (hm : m ≤ 1048576) : Calls Try.prog 59 #[.agg #[.int .i64 3, .int .i64 sport, .int .i64 dport, .int .i64 seq, .int .i64 ack, .int .i64 bits, .int .i64 window, .int .i64 urgent, .int .i64 ty, .int .i64 code, .int .i64 rest, .bool nosum, .slice A n c, .slice D m d], .int .i64 6] w fun e w' => e = .returned (.bool (Uh.ok (Uh.mk 3 sport dport seq ack bits window urgent ty code rest nosum) 6 n m)) ∧ Below w.heap.size w w' := by
  cases u1 : upTo sport 65535 with
  | false =>
    have U1 := Lib.hid u1
    clear u1
    have zz : ¬ sport = 0 := fun e => by have := U1.out; rw [e, upTo_zero _ (by omega)] at this; cases this
    have q := Lib.hid (K.new w (.cells #[.int .i64 3, .int .i64 sport, .int .i64 dport, .int .i64 seq, .int .i64 ack, .int .i64 bits, .int .i64 window, .int .i64 urgent, .int .i64 ty, .int .i64 code, .int .i64 rest, .bool nosum, .slice A n c, .slice D m d] 36))
    try simp only at q ⊢
    go_enter Try.func59, Try.ntmps59
    go_wp2_with (first | (go_at_call 39; (first | (with_reducible refine (specInB sport 65535 false _ U1.out).mono ?_)); rintro e w1 ⟨rfl, rfl⟩))
    go_ret
    exact ⟨ret_bool (by simp [Uh.ok, Uh.fields, noF, Uh.unused, kindB, Uh.size, *]), Joins.below_alloc1 w _⟩
  | true =>
    have U1 := Lib.hid u1
    clear u1
    cases u2 : upTo dport 65535 with
    | false =>
      have U2 := Lib.hid u2
      clear u2
      have zz : ¬ dport = 0 := fun e => by have := U2.out; rw [e, upTo_zero _ (by omega)] at this; cases this
      have q := Lib.hid (K.new w (.cells #[.int .i64 3, .int .i64 sport, .int .i64 dport, .int .i64 seq, .int .i64 ack, .int .i64 bits, .int .i64 window, .int .i64 urgent, .int .i64 ty, .int .i64 code, .int .i64 rest, .bool nosum, .slice A n c, .slice D m d] 36))
      try simp only at q ⊢
      go_enter Try.func59, Try.ntmps59
      go_wp2_with (first | (go_at_call 39; (first | (with_reducible refine (specInB sport 65535 true _ U1.out).mono ?_) | (with_reducible refine (specInB dport 65535 false _ U2.out).mono ?_)); rintro e w1 ⟨rfl, rfl⟩))
      go_ret
      exact ⟨ret_bool (by simp [Uh.ok, Uh.fields, noF, Uh.unused, kindB, Uh.size, *]), Joins.below_alloc1 w _⟩
    | true =>
      have U2 := Lib.hid u2
      clear u2
      by_cases z_sport : sport = 0
      case neg =>
        have q := Lib.hid (K.new w (.cells #[.int .i64 3, .int .i64 sport, .int .i64 dport, .int .i64 seq, .int .i64 ack, .int .i64 bits, .int .i64 window, .int .i64 urgent, .int .i64 ty, .int .i64 code, .int .i64 rest, .bool nosum, .slice A n c, .slice D m d] 36))
        try simp only at q ⊢
        go_enter Try.func59, Try.ntmps59
        go_wp2_with (first | (go_at_call 39; (first | (with_reducible refine (specInB sport 65535 true _ U1.out).mono ?_) | (with_reducible refine (specInB dport 65535 true _ U2.out).mono ?_)); rintro e w1 ⟨rfl, rfl⟩))
        go_ret
        exact ⟨ret_bool (by simp [Uh.ok, Uh.fields, noF, Uh.unused, kindB, Uh.size, *]), Joins.below_alloc1 w _⟩
      case pos =>
        subst z_sport
        clear U1
        by_cases z_dport : dport = 0
        case neg =>
          have q := Lib.hid (K.new w (.cells #[.int .i64 3, .int .i64 0, .int .i64 dport, .int .i64 seq, .int .i64 ack, .int .i64 bits, .int .i64 window, .int .i64 urgent, .int .i64 ty, .int .i64 code, .int .i64 rest, .bool nosum, .slice A n c, .slice D m d] 36))
          try simp only at q ⊢
          go_enter Try.func59, Try.ntmps59
          go_wp2_with (first | (go_at_call 39; (first | (with_reducible refine (specInB 0 65535 true _ (by decide)).mono ?_) | (with_reducible refine (specInB dport 65535 true _ U2.out).mono ?_)); rintro e w1 ⟨rfl, rfl⟩))
          go_ret
          exact ⟨ret_bool (by simp [Uh.ok, Uh.fields, noF, Uh.unused, kindB, Uh.size, *]), Joins.below_alloc1 w _⟩
        case pos =>
          subst z_dport
          clear U2
          by_cases z_seq : seq = 0
          case neg =>
            have q := Lib.hid (K.new w (.cells #[.int .i64 3, .int .i64 0, .int .i64 0, .int .i64 seq, .int .i64 ack, .int .i64 bits, .int .i64 window, .int .i64 urgent, .int .i64 ty, .int .i64 code, .int .i64 rest, .bool nosum, .slice A n c, .slice D m d] 36))
            try simp only at q ⊢
            go_enter Try.func59, Try.ntmps59
            go_wp2_with (first | (go_at_call 39; (first | (with_reducible refine (specInB 0 65535 true _ (by decide)).mono ?_) | (with_reducible refine (specInB 0 65535 true _ (by decide)).mono ?_)); rintro e w1 ⟨rfl, rfl⟩))
            go_ret
            exact ⟨ret_bool (by simp [Uh.ok, Uh.fields, noF, Uh.unused, kindB, Uh.size, *]), Joins.below_alloc1 w _⟩
          case pos =>
            subst z_seq
            by_cases z_ack : ack = 0
            case neg =>
              have q := Lib.hid (K.new w (.cells #[.int .i64 3, .int .i64 0, .int .i64 0, .int .i64 0, .int .i64 ack, .int .i64 bits, .int .i64 window, .int .i64 urgent, .int .i64 ty, .int .i64 code, .int .i64 rest, .bool nosum, .slice A n c, .slice D m d] 36))
              try simp only at q ⊢
              go_enter Try.func59, Try.ntmps59
              go_wp2_with (first | (go_at_call 39; (first | (with_reducible refine (specInB 0 65535 true _ (by decide)).mono ?_) | (with_reducible refine (specInB 0 65535 true _ (by decide)).mono ?_)); rintro e w1 ⟨rfl, rfl⟩))
              go_ret
              exact ⟨ret_bool (by simp [Uh.ok, Uh.fields, noF, Uh.unused, kindB, Uh.size, *]), Joins.below_alloc1 w _⟩
            case pos =>
              subst z_ack
              by_cases z_bits : bits = 0
              case neg =>
                have q := Lib.hid (K.new w (.cells #[.int .i64 3, .int .i64 0, .int .i64 0, .int .i64 0, .int .i64 0, .int .i64 bits, .int .i64 window, .int .i64 urgent, .int .i64 ty, .int .i64 code, .int .i64 rest, .bool nosum, .slice A n c, .slice D m d] 36))
                try simp only at q ⊢
                go_enter Try.func59, Try.ntmps59
                go_wp2_with (first | (go_at_call 39; (first | (with_reducible refine (specInB 0 65535 true _ (by decide)).mono ?_) | (with_reducible refine (specInB 0 65535 true _ (by decide)).mono ?_)); rintro e w1 ⟨rfl, rfl⟩))
                go_ret
                exact ⟨ret_bool (by simp [Uh.ok, Uh.fields, noF, Uh.unused, kindB, Uh.size, *]), Joins.below_alloc1 w _⟩
              case pos =>
                subst z_bits
                by_cases z_window : window = 0
                case neg =>
                  have q := Lib.hid (K.new w (.cells #[.int .i64 3, .int .i64 0, .int .i64 0, .int .i64 0, .int .i64 0, .int .i64 0, .int .i64 window, .int .i64 urgent, .int .i64 ty, .int .i64 code, .int .i64 rest, .bool nosum, .slice A n c, .slice D m d] 36))
                  try simp only at q ⊢
                  go_enter Try.func59, Try.ntmps59
                  go_wp2_with (first | (go_at_call 39; (first | (with_reducible refine (specInB 0 65535 true _ (by decide)).mono ?_) | (with_reducible refine (specInB 0 65535 true _ (by decide)).mono ?_)); rintro e w1 ⟨rfl, rfl⟩))
                  go_ret
                  exact ⟨ret_bool (by simp [Uh.ok, Uh.fields, noF, Uh.unused, kindB, Uh.size, *]), Joins.below_alloc1 w _⟩
                case pos =>
                  subst z_window
                  by_cases z_urgent : urgent = 0
                  case neg =>
                    have q := Lib.hid (K.new w (.cells #[.int .i64 3, .int .i64 0, .int .i64 0, .int .i64 0, .int .i64 0, .int .i64 0, .int .i64 0, .int .i64 urgent, .int .i64 ty, .int .i64 code, .int .i64 rest, .bool nosum, .slice A n c, .slice D m d] 36))
                    try simp only at q ⊢
                    go_enter Try.func59, Try.ntmps59
                    go_wp2_with (first | (go_at_call 39; (first | (with_reducible refine (specInB 0 65535 true _ (by decide)).mono ?_) | (with_reducible refine (specInB 0 65535 true _ (by decide)).mono ?_)); rintro e w1 ⟨rfl, rfl⟩))
                    go_ret
                    exact ⟨ret_bool (by simp [Uh.ok, Uh.fields, noF, Uh.unused, kindB, Uh.size, *]), Joins.below_alloc1 w _⟩
                  case pos =>
                    subst z_urgent
                    by_cases z_n : n = 0
                    case neg =>
                      have z_m : ¬ (n : Int) = 0 := by omega
                      have q := Lib.hid (K.new w (.cells #[.int .i64 3, .int .i64 0, .int .i64 0, .int .i64 0, .int .i64 0, .int .i64 0, .int .i64 0, .int .i64 0, .int .i64 ty, .int .i64 code, .int .i64 rest, .bool nosum, .slice A n c, .slice D m d] 36))
                      try simp only at q ⊢
                      go_enter Try.func59, Try.ntmps59
                      go_wp2_with (first | (go_at_call 39; (first | (with_reducible refine (specInB 0 65535 true _ (by decide)).mono ?_) | (with_reducible refine (specInB 0 65535 true _ (by decide)).mono ?_)); rintro e w1 ⟨rfl, rfl⟩))
                      go_ret
                      exact ⟨ret_bool (by simp [Uh.ok, Uh.fields, noF, Uh.unused, kindB, Uh.size, *]), Joins.below_alloc1 w _⟩
                    case pos =>
                      subst z_n
                      cases u3 : upTo ty 255 with
                      | false =>
                        have U3 := Lib.hid u3
                        clear u3
                        have q := Lib.hid (K.new w (.cells #[.int .i64 3, .int .i64 0, .int .i64 0, .int .i64 0, .int .i64 0, .int .i64 0, .int .i64 0, .int .i64 0, .int .i64 ty, .int .i64 code, .int .i64 rest, .bool nosum, .slice A 0 c, .slice D m d] 36))
                        try simp only at q ⊢
                        go_enter Try.func59, Try.ntmps59
                        go_wp2_with (first | (go_at_call 39; (first | (with_reducible refine (specInB 0 65535 true _ (by decide)).mono ?_) | (with_reducible refine (specInB 0 65535 true _ (by decide)).mono ?_) | (with_reducible refine (specInB ty 255 false _ U3.out).mono ?_)); rintro e w1 ⟨rfl, rfl⟩))
                        go_ret
                        exact ⟨ret_bool (by simp [Uh.ok, Uh.fields, noF, Uh.unused, kindB, Uh.size, U3.out, *]), Joins.below_alloc1 w _⟩
                      | true =>
                        have U3 := Lib.hid u3
                        clear u3
                        cases u4 : upTo code 255 with
                        | false =>
                          have U4 := Lib.hid u4
                          clear u4
                          have q := Lib.hid (K.new w (.cells #[.int .i64 3, .int .i64 0, .int .i64 0, .int .i64 0, .int .i64 0, .int .i64 0, .int .i64 0, .int .i64 0, .int .i64 ty, .int .i64 code, .int .i64 rest, .bool nosum, .slice A 0 c, .slice D m d] 36))
                          try simp only at q ⊢
                          go_enter Try.func59, Try.ntmps59
                          go_wp2_with (first | (go_at_call 39; (first | (with_reducible refine (specInB 0 65535 true _ (by decide)).mono ?_) | (with_reducible refine (specInB 0 65535 true _ (by decide)).mono ?_) | (with_reducible refine (specInB ty 255 true _ U3.out).mono ?_) | (with_reducible refine (specInB code 255 false _ U4.out).mono ?_)); rintro e w1 ⟨rfl, rfl⟩))
                          go_ret
                          exact ⟨ret_bool (by simp [Uh.ok, Uh.fields, noF, Uh.unused, kindB, Uh.size, U3.out, U4.out, *]), Joins.below_alloc1 w _⟩
                        | true =>
                          have U4 := Lib.hid u4
                          clear u4
                          cases u5 : half rest with
                          | false =>
                            have U5 := Lib.hid u5
                            clear u5
                            have q := Lib.hid (K.new w (.cells #[.int .i64 3, .int .i64 0, .int .i64 0, .int .i64 0, .int .i64 0, .int .i64 0, .int .i64 0, .int .i64 0, .int .i64 ty, .int .i64 code, .int .i64 rest, .bool nosum, .slice A 0 c, .slice D m d] 36))
                            try simp only at q ⊢
                            go_enter Try.func59, Try.ntmps59
                            go_wp2_with (first | (go_at_call 39; (first | (with_reducible refine (specInB 0 65535 true _ (by decide)).mono ?_) | (with_reducible refine (specInB 0 65535 true _ (by decide)).mono ?_) | (with_reducible refine (specInB ty 255 true _ U3.out).mono ?_) | (with_reducible refine (specInB code 255 true _ U4.out).mono ?_)); rintro e w1 ⟨rfl, rfl⟩) | (go_at_call 97; (first | (with_reducible refine (specHalfB36 rest false _ U5.out).mono ?_)); rintro e w1 ⟨rfl, rfl⟩))
                            go_ret
                            exact ⟨ret_bool (by simp [Uh.ok, Uh.fields, noF, Uh.unused, kindB, Uh.size, U3.out, U4.out, U5.out, *]), Joins.below_alloc1 w _⟩
                          | true =>
                            have U5 := Lib.hid u5
                            clear u5
                            cases nosum with
                            | true =>
                              have q := Lib.hid (K.new w (.cells #[.int .i64 3, .int .i64 0, .int .i64 0, .int .i64 0, .int .i64 0, .int .i64 0, .int .i64 0, .int .i64 0, .int .i64 ty, .int .i64 code, .int .i64 rest, .bool true, .slice A 0 c, .slice D m d] 36))
                              try simp only at q ⊢
                              go_enter Try.func59, Try.ntmps59
                              go_wp2_with (first | (go_at_call 39; (first | (with_reducible refine (specInB 0 65535 true _ (by decide)).mono ?_) | (with_reducible refine (specInB 0 65535 true _ (by decide)).mono ?_) | (with_reducible refine (specInB ty 255 true _ U3.out).mono ?_) | (with_reducible refine (specInB code 255 true _ U4.out).mono ?_)); rintro e w1 ⟨rfl, rfl⟩) | (go_at_call 97; (first | (with_reducible refine (specHalfB36 rest true _ U5.out).mono ?_)); rintro e w1 ⟨rfl, rfl⟩))
                              go_ret
                              exact ⟨ret_bool (by simp [Uh.ok, Uh.fields, noF, Uh.unused, kindB, Uh.size, U3.out, U4.out, U5.out, *]), Joins.below_alloc1 w _⟩
                            | false =>
                              by_cases z_z : m ≤ 1492
                              case neg =>
                                have z_y : ¬ 8 + (m : Int) ≤ 1500 := by omega
                                have q := Lib.hid (K.new w (.cells #[.int .i64 3, .int .i64 0, .int .i64 0, .int .i64 0, .int .i64 0, .int .i64 0, .int .i64 0, .int .i64 0, .int .i64 ty, .int .i64 code, .int .i64 rest, .bool false, .slice A 0 c, .slice D m d] 36))
                                have HS := Lib.hid (fun v => show Calls Try.prog 61 #[.agg #[.int .i64 3, .int .i64 0, .int .i64 0, .int .i64 0, .int .i64 0, .int .i64 0, .int .i64 0, .int .i64 0, .int .i64 ty, .int .i64 code, .int .i64 rest, .bool false, .slice A 0 c, .slice D m d]] v fun e w' => e = .returned (.int .i64 (8 + (m : Int))) ∧ Below v.heap.size v w' from (show Uh.size (Uh.mk 3 0 0 0 0 0 0 0 ty code rest false) 0 m = 8 + (m : Int) by simp [Uh.size]) ▸ specUpSize (Uh.mk 3 0 0 0 0 0 0 0 ty code rest false) A D 0 c m d v (by omega) hm)
                                try simp only at q HS ⊢
                                go_enter Try.func59, Try.ntmps59
                                go_wp2_with (first | (go_at_call 39; (first | (with_reducible refine (specInB 0 65535 true _ (by decide)).mono ?_) | (with_reducible refine (specInB 0 65535 true _ (by decide)).mono ?_) | (with_reducible refine (specInB ty 255 true _ U3.out).mono ?_) | (with_reducible refine (specInB code 255 true _ U4.out).mono ?_)); rintro e w1 ⟨rfl, rfl⟩) | (go_at_call 97; (first | (with_reducible refine (specHalfB36 rest true _ U5.out).mono ?_)); rintro e w1 ⟨rfl, rfl⟩) | (with_reducible refine loadU rfl _ rfl w.heap.size rfl q.out ?_) | (go_at_call 61; refine Calls.mono (HS.out _) ?_; rintro e w9 ⟨rfl, b9⟩; have B9 := Lib.hid (bthen (Joins.below_alloc1 w _) b9); clear b9))
                                go_ret
                                exact ⟨ret_bool (by simp [Uh.ok, Uh.fields, noF, Uh.unused, kindB, Uh.size, U3.out, U4.out, U5.out, *] <;> omega), B9.out⟩
                              case pos =>
                                have z_y : 8 + (m : Int) ≤ 1500 := by omega
                                have q := Lib.hid (K.new w (.cells #[.int .i64 3, .int .i64 0, .int .i64 0, .int .i64 0, .int .i64 0, .int .i64 0, .int .i64 0, .int .i64 0, .int .i64 ty, .int .i64 code, .int .i64 rest, .bool false, .slice A 0 c, .slice D m d] 36))
                                have HS := Lib.hid (fun v => show Calls Try.prog 61 #[.agg #[.int .i64 3, .int .i64 0, .int .i64 0, .int .i64 0, .int .i64 0, .int .i64 0, .int .i64 0, .int .i64 0, .int .i64 ty, .int .i64 code, .int .i64 rest, .bool false, .slice A 0 c, .slice D m d]] v fun e w' => e = .returned (.int .i64 (8 + (m : Int))) ∧ Below v.heap.size v w' from (show Uh.size (Uh.mk 3 0 0 0 0 0 0 0 ty code rest false) 0 m = 8 + (m : Int) by simp [Uh.size]) ▸ specUpSize (Uh.mk 3 0 0 0 0 0 0 0 ty code rest false) A D 0 c m d v (by omega) hm)
                                try simp only at q HS ⊢
                                go_enter Try.func59, Try.ntmps59
                                go_wp2_with (first | (go_at_call 39; (first | (with_reducible refine (specInB 0 65535 true _ (by decide)).mono ?_) | (with_reducible refine (specInB 0 65535 true _ (by decide)).mono ?_) | (with_reducible refine (specInB ty 255 true _ U3.out).mono ?_) | (with_reducible refine (specInB code 255 true _ U4.out).mono ?_)); rintro e w1 ⟨rfl, rfl⟩) | (go_at_call 97; (first | (with_reducible refine (specHalfB36 rest true _ U5.out).mono ?_)); rintro e w1 ⟨rfl, rfl⟩) | (with_reducible refine loadU rfl _ rfl w.heap.size rfl q.out ?_) | (go_at_call 61; refine Calls.mono (HS.out _) ?_; rintro e w9 ⟨rfl, b9⟩; have B9 := Lib.hid (bthen (Joins.below_alloc1 w _) b9); clear b9))
                                go_ret
                                exact ⟨ret_bool (by simp [Uh.ok, Uh.fields, noF, Uh.unused, kindB, Uh.size, U3.out, U4.out, U5.out, *] <;> omega), B9.out⟩

end Go.Proofs.Ythogonpjkngpjaa

namespace Go.Proofs.Ythogonpjkngpjaa
set_option maxRecDepth 100000
open Go.RowKit

set_option maxHeartbeats 8000000 in
theorem upOkS4_4 (kind sport dport seq ack bits window urgent ty code rest : Int) (nosum : Bool) (A D : Option Addr) (n c m d : Nat) (w : World) (hn : n ≤ 1048576) (hm : m ≤ 1048576) (k0 : ¬ kind = 0) (k1 : ¬ kind = 1) (k2 : ¬ kind = 2) (k3 : ¬ kind = 3) : Calls Try.prog 59 #[.agg #[.int .i64 kind, .int .i64 sport, .int .i64 dport, .int .i64 seq, .int .i64 ack, .int .i64 bits, .int .i64 window, .int .i64 urgent, .int .i64 ty, .int .i64 code, .int .i64 rest, .bool nosum, .slice A n c, .slice D m d], .int .i64 4] w fun e w' => e = .returned (.bool (Uh.ok (Uh.mk kind sport dport seq ack bits window urgent ty code rest nosum) 4 n m)) ∧ Below w.heap.size w w' := by
  have e1 : (kind == 1) = false := by simp [k1]
  have e2 : (kind == 2) = false := by simp [k2]
  have e3 : (kind == 3) = false := by simp [k3]
  cases u1 : upTo sport 65535 with
  | false =>
    have U1 := Lib.hid u1
    clear u1
    have zz : ¬ sport = 0 := fun e => by have := U1.out; rw [e, upTo_zero _ (by omega)] at this; cases this
    have q := Lib.hid (K.new w (.cells #[.int .i64 kind, .int .i64 sport, .int .i64 dport, .int .i64 seq, .int .i64 ack, .int .i64 bits, .int .i64 window, .int .i64 urgent, .int .i64 ty, .int .i64 code, .int .i64 rest, .bool nosum, .slice A n c, .slice D m d] 36))
    try simp only at q ⊢
    go_enter Try.func59, Try.ntmps59
    go_wp2_with (first | (go_at_call 39; (first | (with_reducible refine (specInB sport 65535 false _ U1.out).mono ?_)); rintro e w1 ⟨rfl, rfl⟩))
    go_ret
    exact ⟨ret_bool (by simp [Uh.ok, Uh.fields, noF, Uh.unused, kindB, Uh.size, *]), Joins.below_alloc1 w _⟩
  | true =>
    have U1 := Lib.hid u1
    clear u1
    cases u2 : upTo dport 65535 with
    | false =>
      have U2 := Lib.hid u2
      clear u2
      have zz : ¬ dport = 0 := fun e => by have := U2.out; rw [e, upTo_zero _ (by omega)] at this; cases this
      have q := Lib.hid (K.new w (.cells #[.int .i64 kind, .int .i64 sport, .int .i64 dport, .int .i64 seq, .int .i64 ack, .int .i64 bits, .int .i64 window, .int .i64 urgent, .int .i64 ty, .int .i64 code, .int .i64 rest, .bool nosum, .slice A n c, .slice D m d] 36))
      try simp only at q ⊢
      go_enter Try.func59, Try.ntmps59
      go_wp2_with (first | (go_at_call 39; (first | (with_reducible refine (specInB sport 65535 true _ U1.out).mono ?_) | (with_reducible refine (specInB dport 65535 false _ U2.out).mono ?_)); rintro e w1 ⟨rfl, rfl⟩))
      go_ret
      exact ⟨ret_bool (by simp [Uh.ok, Uh.fields, noF, Uh.unused, kindB, Uh.size, *]), Joins.below_alloc1 w _⟩
    | true =>
      have U2 := Lib.hid u2
      clear u2
      by_cases z_sport : sport = 0
      case neg =>
        have q := Lib.hid (K.new w (.cells #[.int .i64 kind, .int .i64 sport, .int .i64 dport, .int .i64 seq, .int .i64 ack, .int .i64 bits, .int .i64 window, .int .i64 urgent, .int .i64 ty, .int .i64 code, .int .i64 rest, .bool nosum, .slice A n c, .slice D m d] 36))
        try simp only at q ⊢
        go_enter Try.func59, Try.ntmps59
        go_wp2_with (first | (go_at_call 39; (first | (with_reducible refine (specInB sport 65535 true _ U1.out).mono ?_) | (with_reducible refine (specInB dport 65535 true _ U2.out).mono ?_)); rintro e w1 ⟨rfl, rfl⟩))
        go_ret
        exact ⟨ret_bool (by simp [Uh.ok, Uh.fields, noF, Uh.unused, kindB, Uh.size, *]), Joins.below_alloc1 w _⟩
      case pos =>
        subst z_sport
        clear U1
        by_cases z_dport : dport = 0
        case neg =>
          have q := Lib.hid (K.new w (.cells #[.int .i64 kind, .int .i64 0, .int .i64 dport, .int .i64 seq, .int .i64 ack, .int .i64 bits, .int .i64 window, .int .i64 urgent, .int .i64 ty, .int .i64 code, .int .i64 rest, .bool nosum, .slice A n c, .slice D m d] 36))
          try simp only at q ⊢
          go_enter Try.func59, Try.ntmps59
          go_wp2_with (first | (go_at_call 39; (first | (with_reducible refine (specInB 0 65535 true _ (by decide)).mono ?_) | (with_reducible refine (specInB dport 65535 true _ U2.out).mono ?_)); rintro e w1 ⟨rfl, rfl⟩))
          go_ret
          exact ⟨ret_bool (by simp [Uh.ok, Uh.fields, noF, Uh.unused, kindB, Uh.size, *]), Joins.below_alloc1 w _⟩
        case pos =>
          subst z_dport
          clear U2
          by_cases z_seq : seq = 0
          case neg =>
            have q := Lib.hid (K.new w (.cells #[.int .i64 kind, .int .i64 0, .int .i64 0, .int .i64 seq, .int .i64 ack, .int .i64 bits, .int .i64 window, .int .i64 urgent, .int .i64 ty, .int .i64 code, .int .i64 rest, .bool nosum, .slice A n c, .slice D m d] 36))
            try simp only at q ⊢
            go_enter Try.func59, Try.ntmps59
            go_wp2_with (first | (go_at_call 39; (first | (with_reducible refine (specInB 0 65535 true _ (by decide)).mono ?_) | (with_reducible refine (specInB 0 65535 true _ (by decide)).mono ?_)); rintro e w1 ⟨rfl, rfl⟩))
            go_ret
            exact ⟨ret_bool (by simp [Uh.ok, Uh.fields, noF, Uh.unused, kindB, Uh.size, *]), Joins.below_alloc1 w _⟩
          case pos =>
            subst z_seq
            by_cases z_ack : ack = 0
            case neg =>
              have q := Lib.hid (K.new w (.cells #[.int .i64 kind, .int .i64 0, .int .i64 0, .int .i64 0, .int .i64 ack, .int .i64 bits, .int .i64 window, .int .i64 urgent, .int .i64 ty, .int .i64 code, .int .i64 rest, .bool nosum, .slice A n c, .slice D m d] 36))
              try simp only at q ⊢
              go_enter Try.func59, Try.ntmps59
              go_wp2_with (first | (go_at_call 39; (first | (with_reducible refine (specInB 0 65535 true _ (by decide)).mono ?_) | (with_reducible refine (specInB 0 65535 true _ (by decide)).mono ?_)); rintro e w1 ⟨rfl, rfl⟩))
              go_ret
              exact ⟨ret_bool (by simp [Uh.ok, Uh.fields, noF, Uh.unused, kindB, Uh.size, *]), Joins.below_alloc1 w _⟩
            case pos =>
              subst z_ack
              by_cases z_bits : bits = 0
              case neg =>
                have q := Lib.hid (K.new w (.cells #[.int .i64 kind, .int .i64 0, .int .i64 0, .int .i64 0, .int .i64 0, .int .i64 bits, .int .i64 window, .int .i64 urgent, .int .i64 ty, .int .i64 code, .int .i64 rest, .bool nosum, .slice A n c, .slice D m d] 36))
                try simp only at q ⊢
                go_enter Try.func59, Try.ntmps59
                go_wp2_with (first | (go_at_call 39; (first | (with_reducible refine (specInB 0 65535 true _ (by decide)).mono ?_) | (with_reducible refine (specInB 0 65535 true _ (by decide)).mono ?_)); rintro e w1 ⟨rfl, rfl⟩))
                go_ret
                exact ⟨ret_bool (by simp [Uh.ok, Uh.fields, noF, Uh.unused, kindB, Uh.size, *]), Joins.below_alloc1 w _⟩
              case pos =>
                subst z_bits
                by_cases z_window : window = 0
                case neg =>
                  have q := Lib.hid (K.new w (.cells #[.int .i64 kind, .int .i64 0, .int .i64 0, .int .i64 0, .int .i64 0, .int .i64 0, .int .i64 window, .int .i64 urgent, .int .i64 ty, .int .i64 code, .int .i64 rest, .bool nosum, .slice A n c, .slice D m d] 36))
                  try simp only at q ⊢
                  go_enter Try.func59, Try.ntmps59
                  go_wp2_with (first | (go_at_call 39; (first | (with_reducible refine (specInB 0 65535 true _ (by decide)).mono ?_) | (with_reducible refine (specInB 0 65535 true _ (by decide)).mono ?_)); rintro e w1 ⟨rfl, rfl⟩))
                  go_ret
                  exact ⟨ret_bool (by simp [Uh.ok, Uh.fields, noF, Uh.unused, kindB, Uh.size, *]), Joins.below_alloc1 w _⟩
                case pos =>
                  subst z_window
                  by_cases z_urgent : urgent = 0
                  case neg =>
                    have q := Lib.hid (K.new w (.cells #[.int .i64 kind, .int .i64 0, .int .i64 0, .int .i64 0, .int .i64 0, .int .i64 0, .int .i64 0, .int .i64 urgent, .int .i64 ty, .int .i64 code, .int .i64 rest, .bool nosum, .slice A n c, .slice D m d] 36))
                    try simp only at q ⊢
                    go_enter Try.func59, Try.ntmps59
                    go_wp2_with (first | (go_at_call 39; (first | (with_reducible refine (specInB 0 65535 true _ (by decide)).mono ?_) | (with_reducible refine (specInB 0 65535 true _ (by decide)).mono ?_)); rintro e w1 ⟨rfl, rfl⟩))
                    go_ret
                    exact ⟨ret_bool (by simp [Uh.ok, Uh.fields, noF, Uh.unused, kindB, Uh.size, *]), Joins.below_alloc1 w _⟩
                  case pos =>
                    subst z_urgent
                    by_cases z_n : n = 0
                    case neg =>
                      have z_m : ¬ (n : Int) = 0 := by omega
                      have q := Lib.hid (K.new w (.cells #[.int .i64 kind, .int .i64 0, .int .i64 0, .int .i64 0, .int .i64 0, .int .i64 0, .int .i64 0, .int .i64 0, .int .i64 ty, .int .i64 code, .int .i64 rest, .bool nosum, .slice A n c, .slice D m d] 36))
                      try simp only at q ⊢
                      go_enter Try.func59, Try.ntmps59
                      go_wp2_with (first | (go_at_call 39; (first | (with_reducible refine (specInB 0 65535 true _ (by decide)).mono ?_) | (with_reducible refine (specInB 0 65535 true _ (by decide)).mono ?_)); rintro e w1 ⟨rfl, rfl⟩))
                      go_ret
                      exact ⟨ret_bool (by simp [Uh.ok, Uh.fields, noF, Uh.unused, kindB, Uh.size, *]), Joins.below_alloc1 w _⟩
                    case pos =>
                      subst z_n
                      by_cases z_ty : ty = 0
                      case neg =>
                        have q := Lib.hid (K.new w (.cells #[.int .i64 kind, .int .i64 0, .int .i64 0, .int .i64 0, .int .i64 0, .int .i64 0, .int .i64 0, .int .i64 0, .int .i64 ty, .int .i64 code, .int .i64 rest, .bool nosum, .slice A 0 c, .slice D m d] 36))
                        try simp only at q ⊢
                        go_enter Try.func59, Try.ntmps59
                        go_wp2_with (first | (go_at_call 39; (first | (with_reducible refine (specInB 0 65535 true _ (by decide)).mono ?_) | (with_reducible refine (specInB 0 65535 true _ (by decide)).mono ?_)); rintro e w1 ⟨rfl, rfl⟩))
                        go_ret
                        exact ⟨ret_bool (by simp [Uh.ok, Uh.fields, noF, Uh.unused, kindB, Uh.size, *]), Joins.below_alloc1 w _⟩
                      case pos =>
                        subst z_ty
                        by_cases z_code : code = 0
                        case neg =>
                          have q := Lib.hid (K.new w (.cells #[.int .i64 kind, .int .i64 0, .int .i64 0, .int .i64 0, .int .i64 0, .int .i64 0, .int .i64 0, .int .i64 0, .int .i64 0, .int .i64 code, .int .i64 rest, .bool nosum, .slice A 0 c, .slice D m d] 36))
                          try simp only at q ⊢
                          go_enter Try.func59, Try.ntmps59
                          go_wp2_with (first | (go_at_call 39; (first | (with_reducible refine (specInB 0 65535 true _ (by decide)).mono ?_) | (with_reducible refine (specInB 0 65535 true _ (by decide)).mono ?_)); rintro e w1 ⟨rfl, rfl⟩))
                          go_ret
                          exact ⟨ret_bool (by simp [Uh.ok, Uh.fields, noF, Uh.unused, kindB, Uh.size, *]), Joins.below_alloc1 w _⟩
                        case pos =>
                          subst z_code
                          by_cases z_rest : rest = 0
                          case neg =>
                            have q := Lib.hid (K.new w (.cells #[.int .i64 kind, .int .i64 0, .int .i64 0, .int .i64 0, .int .i64 0, .int .i64 0, .int .i64 0, .int .i64 0, .int .i64 0, .int .i64 0, .int .i64 rest, .bool nosum, .slice A 0 c, .slice D m d] 36))
                            try simp only at q ⊢
                            go_enter Try.func59, Try.ntmps59
                            go_wp2_with (first | (go_at_call 39; (first | (with_reducible refine (specInB 0 65535 true _ (by decide)).mono ?_) | (with_reducible refine (specInB 0 65535 true _ (by decide)).mono ?_)); rintro e w1 ⟨rfl, rfl⟩))
                            go_ret
                            exact ⟨ret_bool (by simp [Uh.ok, Uh.fields, noF, Uh.unused, kindB, Uh.size, *]), Joins.below_alloc1 w _⟩
                          case pos =>
                            subst z_rest
                            cases nosum with
                            | true =>
                              have q := Lib.hid (K.new w (.cells #[.int .i64 kind, .int .i64 0, .int .i64 0, .int .i64 0, .int .i64 0, .int .i64 0, .int .i64 0, .int .i64 0, .int .i64 0, .int .i64 0, .int .i64 0, .bool true, .slice A 0 c, .slice D m d] 36))
                              try simp only at q ⊢
                              go_enter Try.func59, Try.ntmps59
                              go_wp2_with (first | (go_at_call 39; (first | (with_reducible refine (specInB 0 65535 true _ (by decide)).mono ?_) | (with_reducible refine (specInB 0 65535 true _ (by decide)).mono ?_)); rintro e w1 ⟨rfl, rfl⟩))
                              go_ret
                              exact ⟨ret_bool (by simp [Uh.ok, Uh.fields, noF, Uh.unused, kindB, Uh.size, *]), Joins.below_alloc1 w _⟩
                            | false =>
                              have q := Lib.hid (K.new w (.cells #[.int .i64 kind, .int .i64 0, .int .i64 0, .int .i64 0, .int .i64 0, .int .i64 0, .int .i64 0, .int .i64 0, .int .i64 0, .int .i64 0, .int .i64 0, .bool false, .slice A 0 c, .slice D m d] 36))
                              have HS := Lib.hid (fun v => show Calls Try.prog 61 #[.agg #[.int .i64 kind, .int .i64 0, .int .i64 0, .int .i64 0, .int .i64 0, .int .i64 0, .int .i64 0, .int .i64 0, .int .i64 0, .int .i64 0, .int .i64 0, .bool false, .slice A 0 c, .slice D m d]] v fun e w' => e = .returned (.int .i64 (-1)) ∧ Below v.heap.size v w' from (show Uh.size (Uh.mk kind 0 0 0 0 0 0 0 0 0 0 false) 0 m = -1 by simp [Uh.size, k0, k1, k2, k3]) ▸ specUpSize (Uh.mk kind 0 0 0 0 0 0 0 0 0 0 false) A D 0 c m d v (by omega) hm)
                              try simp only at q HS ⊢
                              go_enter Try.func59, Try.ntmps59
                              go_wp2_with (first | (go_at_call 39; (first | (with_reducible refine (specInB 0 65535 true _ (by decide)).mono ?_) | (with_reducible refine (specInB 0 65535 true _ (by decide)).mono ?_)); rintro e w1 ⟨rfl, rfl⟩) | (with_reducible refine loadU rfl _ rfl w.heap.size rfl q.out ?_) | (go_at_call 61; refine Calls.mono (HS.out _) ?_; rintro e w9 ⟨rfl, b9⟩; have B9 := Lib.hid (bthen (Joins.below_alloc1 w _) b9); clear b9))
                              go_ret
                              exact ⟨ret_bool (by simp [Uh.ok, Uh.fields, noF, Uh.unused, kindB, Uh.size, *] <;> omega), B9.out⟩

end Go.Proofs.Ythogonpjkngpjaa

namespace Go.Proofs.Ythogonpjkngpjaa
set_option maxRecDepth 100000
open Go.RowKit

set_option maxHeartbeats 8000000 in
theorem upOkS4_6 (kind sport dport seq ack bits window urgent ty code rest : Int) (nosum : Bool) (A D : Option Addr) (n c m d : Nat) (w : World) (hn : n ≤ 1048576) (hm : m ≤ 1048576) (k0 : ¬ kind = 0) (k1 : ¬ kind = 1) (k2 : ¬ kind = 2) (k3 : ¬ kind = 3) : Calls Try.prog 59 #[.agg #[.int .i64 kind, .int .i64 sport, .int .i64 dport, .int .i64 seq, .int .i64 ack, .int .i64 bits, .int .i64 window, .int .i64 urgent, .int .i64 ty, .int .i64 code, .int .i64 rest, .bool nosum, .slice A n c, .slice D m d], .int .i64 6] w fun e w' => e = .returned (.bool (Uh.ok (Uh.mk kind sport dport seq ack bits window urgent ty code rest nosum) 6 n m)) ∧ Below w.heap.size w w' := by
  have e1 : (kind == 1) = false := by simp [k1]
  have e2 : (kind == 2) = false := by simp [k2]
  have e3 : (kind == 3) = false := by simp [k3]
  cases u1 : upTo sport 65535 with
  | false =>
    have U1 := Lib.hid u1
    clear u1
    have zz : ¬ sport = 0 := fun e => by have := U1.out; rw [e, upTo_zero _ (by omega)] at this; cases this
    have q := Lib.hid (K.new w (.cells #[.int .i64 kind, .int .i64 sport, .int .i64 dport, .int .i64 seq, .int .i64 ack, .int .i64 bits, .int .i64 window, .int .i64 urgent, .int .i64 ty, .int .i64 code, .int .i64 rest, .bool nosum, .slice A n c, .slice D m d] 36))
    try simp only at q ⊢
    go_enter Try.func59, Try.ntmps59
    go_wp2_with (first | (go_at_call 39; (first | (with_reducible refine (specInB sport 65535 false _ U1.out).mono ?_)); rintro e w1 ⟨rfl, rfl⟩))
    go_ret
    exact ⟨ret_bool (by simp [Uh.ok, Uh.fields, noF, Uh.unused, kindB, Uh.size, *]), Joins.below_alloc1 w _⟩
  | true =>
    have U1 := Lib.hid u1
    clear u1
    cases u2 : upTo dport 65535 with
    | false =>
      have U2 := Lib.hid u2
      clear u2
      have zz : ¬ dport = 0 := fun e => by have := U2.out; rw [e, upTo_zero _ (by omega)] at this; cases this
      have q := Lib.hid (K.new w (.cells #[.int .i64 kind, .int .i64 sport, .int .i64 dport, .int .i64 seq, .int .i64 ack, .int .i64 bits, .int .i64 window, .int .i64 urgent, .int .i64 ty, .int .i64 code, .int .i64 rest, .bool nosum, .slice A n c, .slice D m d] 36))
      try simp only at q ⊢
      go_enter Try.func59, Try.ntmps59
      go_wp2_with (first | (go_at_call 39; (first | (with_reducible refine (specInB sport 65535 true _ U1.out).mono ?_) | (with_reducible refine (specInB dport 65535 false _ U2.out).mono ?_)); rintro e w1 ⟨rfl, rfl⟩))
      go_ret
      exact ⟨ret_bool (by simp [Uh.ok, Uh.fields, noF, Uh.unused, kindB, Uh.size, *]), Joins.below_alloc1 w _⟩
    | true =>
      have U2 := Lib.hid u2
      clear u2
      by_cases z_sport : sport = 0
      case neg =>
        have q := Lib.hid (K.new w (.cells #[.int .i64 kind, .int .i64 sport, .int .i64 dport, .int .i64 seq, .int .i64 ack, .int .i64 bits, .int .i64 window, .int .i64 urgent, .int .i64 ty, .int .i64 code, .int .i64 rest, .bool nosum, .slice A n c, .slice D m d] 36))
        try simp only at q ⊢
        go_enter Try.func59, Try.ntmps59
        go_wp2_with (first | (go_at_call 39; (first | (with_reducible refine (specInB sport 65535 true _ U1.out).mono ?_) | (with_reducible refine (specInB dport 65535 true _ U2.out).mono ?_)); rintro e w1 ⟨rfl, rfl⟩))
        go_ret
        exact ⟨ret_bool (by simp [Uh.ok, Uh.fields, noF, Uh.unused, kindB, Uh.size, *]), Joins.below_alloc1 w _⟩
      case pos =>
        subst z_sport
        clear U1
        by_cases z_dport : dport = 0
        case neg =>
          have q := Lib.hid (K.new w (.cells #[.int .i64 kind, .int .i64 0, .int .i64 dport, .int .i64 seq, .int .i64 ack, .int .i64 bits, .int .i64 window, .int .i64 urgent, .int .i64 ty, .int .i64 code, .int .i64 rest, .bool nosum, .slice A n c, .slice D m d] 36))
          try simp only at q ⊢
          go_enter Try.func59, Try.ntmps59
          go_wp2_with (first | (go_at_call 39; (first | (with_reducible refine (specInB 0 65535 true _ (by decide)).mono ?_) | (with_reducible refine (specInB dport 65535 true _ U2.out).mono ?_)); rintro e w1 ⟨rfl, rfl⟩))
          go_ret
          exact ⟨ret_bool (by simp [Uh.ok, Uh.fields, noF, Uh.unused, kindB, Uh.size, *]), Joins.below_alloc1 w _⟩
        case pos =>
          subst z_dport
          clear U2
          by_cases z_seq : seq = 0
          case neg =>
            have q := Lib.hid (K.new w (.cells #[.int .i64 kind, .int .i64 0, .int .i64 0, .int .i64 seq, .int .i64 ack, .int .i64 bits, .int .i64 window, .int .i64 urgent, .int .i64 ty, .int .i64 code, .int .i64 rest, .bool nosum, .slice A n c, .slice D m d] 36))
            try simp only at q ⊢
            go_enter Try.func59, Try.ntmps59
            go_wp2_with (first | (go_at_call 39; (first | (with_reducible refine (specInB 0 65535 true _ (by decide)).mono ?_) | (with_reducible refine (specInB 0 65535 true _ (by decide)).mono ?_)); rintro e w1 ⟨rfl, rfl⟩))
            go_ret
            exact ⟨ret_bool (by simp [Uh.ok, Uh.fields, noF, Uh.unused, kindB, Uh.size, *]), Joins.below_alloc1 w _⟩
          case pos =>
            subst z_seq
            by_cases z_ack : ack = 0
            case neg =>
              have q := Lib.hid (K.new w (.cells #[.int .i64 kind, .int .i64 0, .int .i64 0, .int .i64 0, .int .i64 ack, .int .i64 bits, .int .i64 window, .int .i64 urgent, .int .i64 ty, .int .i64 code, .int .i64 rest, .bool nosum, .slice A n c, .slice D m d] 36))
              try simp only at q ⊢
              go_enter Try.func59, Try.ntmps59
              go_wp2_with (first | (go_at_call 39; (first | (with_reducible refine (specInB 0 65535 true _ (by decide)).mono ?_) | (with_reducible refine (specInB 0 65535 true _ (by decide)).mono ?_)); rintro e w1 ⟨rfl, rfl⟩))
              go_ret
              exact ⟨ret_bool (by simp [Uh.ok, Uh.fields, noF, Uh.unused, kindB, Uh.size, *]), Joins.below_alloc1 w _⟩
            case pos =>
              subst z_ack
              by_cases z_bits : bits = 0
              case neg =>
                have q := Lib.hid (K.new w (.cells #[.int .i64 kind, .int .i64 0, .int .i64 0, .int .i64 0, .int .i64 0, .int .i64 bits, .int .i64 window, .int .i64 urgent, .int .i64 ty, .int .i64 code, .int .i64 rest, .bool nosum, .slice A n c, .slice D m d] 36))
                try simp only at q ⊢
                go_enter Try.func59, Try.ntmps59
                go_wp2_with (first | (go_at_call 39; (first | (with_reducible refine (specInB 0 65535 true _ (by decide)).mono ?_) | (with_reducible refine (specInB 0 65535 true _ (by decide)).mono ?_)); rintro e w1 ⟨rfl, rfl⟩))
                go_ret
                exact ⟨ret_bool (by simp [Uh.ok, Uh.fields, noF, Uh.unused, kindB, Uh.size, *]), Joins.below_alloc1 w _⟩
              case pos =>
                subst z_bits
                by_cases z_window : window = 0
                case neg =>
                  have q := Lib.hid (K.new w (.cells #[.int .i64 kind, .int .i64 0, .int .i64 0, .int .i64 0, .int .i64 0, .int .i64 0, .int .i64 window, .int .i64 urgent, .int .i64 ty, .int .i64 code, .int .i64 rest, .bool nosum, .slice A n c, .slice D m d] 36))
                  try simp only at q ⊢
                  go_enter Try.func59, Try.ntmps59
                  go_wp2_with (first | (go_at_call 39; (first | (with_reducible refine (specInB 0 65535 true _ (by decide)).mono ?_) | (with_reducible refine (specInB 0 65535 true _ (by decide)).mono ?_)); rintro e w1 ⟨rfl, rfl⟩))
                  go_ret
                  exact ⟨ret_bool (by simp [Uh.ok, Uh.fields, noF, Uh.unused, kindB, Uh.size, *]), Joins.below_alloc1 w _⟩
                case pos =>
                  subst z_window
                  by_cases z_urgent : urgent = 0
                  case neg =>
                    have q := Lib.hid (K.new w (.cells #[.int .i64 kind, .int .i64 0, .int .i64 0, .int .i64 0, .int .i64 0, .int .i64 0, .int .i64 0, .int .i64 urgent, .int .i64 ty, .int .i64 code, .int .i64 rest, .bool nosum, .slice A n c, .slice D m d] 36))
                    try simp only at q ⊢
                    go_enter Try.func59, Try.ntmps59
                    go_wp2_with (first | (go_at_call 39; (first | (with_reducible refine (specInB 0 65535 true _ (by decide)).mono ?_) | (with_reducible refine (specInB 0 65535 true _ (by decide)).mono ?_)); rintro e w1 ⟨rfl, rfl⟩))
                    go_ret
                    exact ⟨ret_bool (by simp [Uh.ok, Uh.fields, noF, Uh.unused, kindB, Uh.size, *]), Joins.below_alloc1 w _⟩
                  case pos =>
                    subst z_urgent
                    by_cases z_n : n = 0
                    case neg =>
                      have z_m : ¬ (n : Int) = 0 := by omega
                      have q := Lib.hid (K.new w (.cells #[.int .i64 kind, .int .i64 0, .int .i64 0, .int .i64 0, .int .i64 0, .int .i64 0, .int .i64 0, .int .i64 0, .int .i64 ty, .int .i64 code, .int .i64 rest, .bool nosum, .slice A n c, .slice D m d] 36))
                      try simp only at q ⊢
                      go_enter Try.func59, Try.ntmps59
                      go_wp2_with (first | (go_at_call 39; (first | (with_reducible refine (specInB 0 65535 true _ (by decide)).mono ?_) | (with_reducible refine (specInB 0 65535 true _ (by decide)).mono ?_)); rintro e w1 ⟨rfl, rfl⟩))
                      go_ret
                      exact ⟨ret_bool (by simp [Uh.ok, Uh.fields, noF, Uh.unused, kindB, Uh.size, *]), Joins.below_alloc1 w _⟩
                    case pos =>
                      subst z_n
                      by_cases z_ty : ty = 0
                      case neg =>
                        have q := Lib.hid (K.new w (.cells #[.int .i64 kind, .int .i64 0, .int .i64 0, .int .i64 0, .int .i64 0, .int .i64 0, .int .i64 0, .int .i64 0, .int .i64 ty, .int .i64 code, .int .i64 rest, .bool nosum, .slice A 0 c, .slice D m d] 36))
                        try simp only at q ⊢
                        go_enter Try.func59, Try.ntmps59
                        go_wp2_with (first | (go_at_call 39; (first | (with_reducible refine (specInB 0 65535 true _ (by decide)).mono ?_) | (with_reducible refine (specInB 0 65535 true _ (by decide)).mono ?_)); rintro e w1 ⟨rfl, rfl⟩))
                        go_ret
                        exact ⟨ret_bool (by simp [Uh.ok, Uh.fields, noF, Uh.unused, kindB, Uh.size, *]), Joins.below_alloc1 w _⟩
                      case pos =>
                        subst z_ty
                        by_cases z_code : code = 0
                        case neg =>
                          have q := Lib.hid (K.new w (.cells #[.int .i64 kind, .int .i64 0, .int .i64 0, .int .i64 0, .int .i64 0, .int .i64 0, .int .i64 0, .int .i64 0, .int .i64 0, .int .i64 code, .int .i64 rest, .bool nosum, .slice A 0 c, .slice D m d] 36))
                          try simp only at q ⊢
                          go_enter Try.func59, Try.ntmps59
                          go_wp2_with (first | (go_at_call 39; (first | (with_reducible refine (specInB 0 65535 true _ (by decide)).mono ?_) | (with_reducible refine (specInB 0 65535 true _ (by decide)).mono ?_)); rintro e w1 ⟨rfl, rfl⟩))
                          go_ret
                          exact ⟨ret_bool (by simp [Uh.ok, Uh.fields, noF, Uh.unused, kindB, Uh.size, *]), Joins.below_alloc1 w _⟩
                        case pos =>
                          subst z_code
                          by_cases z_rest : rest = 0
                          case neg =>
                            have q := Lib.hid (K.new w (.cells #[.int .i64 kind, .int .i64 0, .int .i64 0, .int .i64 0, .int .i64 0, .int .i64 0, .int .i64 0, .int .i64 0, .int .i64 0, .int .i64 0, .int .i64 rest, .bool nosum, .slice A 0 c, .slice D m d] 36))
                            try simp only at q ⊢
                            go_enter Try.func59, Try.ntmps59
                            go_wp2_with (first | (go_at_call 39; (first | (with_reducible refine (specInB 0 65535 true _ (by decide)).mono ?_) | (with_reducible refine (specInB 0 65535 true _ (by decide)).mono ?_)); rintro e w1 ⟨rfl, rfl⟩))
                            go_ret
                            exact ⟨ret_bool (by simp [Uh.ok, Uh.fields, noF, Uh.unused, kindB, Uh.size, *]), Joins.below_alloc1 w _⟩
                          case pos =>
                            subst z_rest
                            cases nosum with
                            | true =>
                              have q := Lib.hid (K.new w (.cells #[.int .i64 kind, .int .i64 0, .int .i64 0, .int .i64 0, .int .i64 0, .int .i64 0, .int .i64 0, .int .i64 0, .int .i64 0, .int .i64 0, .int .i64 0, .bool true, .slice A 0 c, .slice D m d] 36))
                              try simp only at q ⊢
                              go_enter Try.func59, Try.ntmps59
                              go_wp2_with (first | (go_at_call 39; (first | (with_reducible refine (specInB 0 65535 true _ (by decide)).mono ?_) | (with_reducible refine (specInB 0 65535 true _ (by decide)).mono ?_)); rintro e w1 ⟨rfl, rfl⟩))
                              go_ret
                              exact ⟨ret_bool (by simp [Uh.ok, Uh.fields, noF, Uh.unused, kindB, Uh.size, *]), Joins.below_alloc1 w _⟩
                            | false =>
                              have q := Lib.hid (K.new w (.cells #[.int .i64 kind, .int .i64 0, .int .i64 0, .int .i64 0, .int .i64 0, .int .i64 0, .int .i64 0, .int .i64 0, .int .i64 0, .int .i64 0, .int .i64 0, .bool false, .slice A 0 c, .slice D m d] 36))
                              have HS := Lib.hid (fun v => show Calls Try.prog 61 #[.agg #[.int .i64 kind, .int .i64 0, .int .i64 0, .int .i64 0, .int .i64 0, .int .i64 0, .int .i64 0, .int .i64 0, .int .i64 0, .int .i64 0, .int .i64 0, .bool false, .slice A 0 c, .slice D m d]] v fun e w' => e = .returned (.int .i64 (-1)) ∧ Below v.heap.size v w' from (show Uh.size (Uh.mk kind 0 0 0 0 0 0 0 0 0 0 false) 0 m = -1 by simp [Uh.size, k0, k1, k2, k3]) ▸ specUpSize (Uh.mk kind 0 0 0 0 0 0 0 0 0 0 false) A D 0 c m d v (by omega) hm)
                              try simp only at q HS ⊢
                              go_enter Try.func59, Try.ntmps59
                              go_wp2_with (first | (go_at_call 39; (first | (with_reducible refine (specInB 0 65535 true _ (by decide)).mono ?_) | (with_reducible refine (specInB 0 65535 true _ (by decide)).mono ?_)); rintro e w1 ⟨rfl, rfl⟩) | (with_reducible refine loadU rfl _ rfl w.heap.size rfl q.out ?_) | (go_at_call 61; refine Calls.mono (HS.out _) ?_; rintro e w9 ⟨rfl, b9⟩; have B9 := Lib.hid (bthen (Joins.below_alloc1 w _) b9); clear b9))
                              go_ret
                              exact ⟨ret_bool (by simp [Uh.ok, Uh.fields, noF, Uh.unused, kindB, Uh.size, *] <;> omega), B9.out⟩

end Go.Proofs.Ythogonpjkngpjaa

namespace Go.Proofs.Ythogonpjkngpjaa
set_option maxRecDepth 100000
open Go.RowKit

set_option maxHeartbeats 1000000 in
theorem upOkS_no (x : Uh) (A D : Option Addr) (n c m d : Nat) (k : Int) (w : World) (h4 : ¬ k = 4) (h6 : ¬ k = 6) : Calls Try.prog 59 #[.agg #[.int .i64 x.kind, .int .i64 x.sport, .int .i64 x.dport, .int .i64 x.seq, .int .i64 x.ack, .int .i64 x.bits, .int .i64 x.window, .int .i64 x.urgent, .int .i64 x.ty, .int .i64 x.code, .int .i64 x.rest, .bool x.nosum, .slice A n c, .slice D m d], .int .i64 k] w fun e w' => e = .returned (.bool (x.ok k n m)) ∧ Below w.heap.size w w' := by
  have HZ := Lib.hid (show x.ok k n m = false by simp [Uh.ok, kindB, h4, h6])
  have f4 : (k != 4) = true := by simp [h4]
  have f6 : (k != 6) = true := by simp [h6]
  go_enter Try.func59, Try.ntmps59
  go_wp2
  go_ret
  exact ⟨ret_bool HZ.out.symm, Joins.below_alloc1 w _⟩

theorem specUpOk (x : Uh) (A D : Option Addr) (n c m d : Nat) (k : Int) (w : World) (hn : n ≤ 1048576) (hm : m ≤ 1048576) : Calls Try.prog 59 #[.agg #[.int .i64 x.kind, .int .i64 x.sport, .int .i64 x.dport, .int .i64 x.seq, .int .i64 x.ack, .int .i64 x.bits, .int .i64 x.window, .int .i64 x.urgent, .int .i64 x.ty, .int .i64 x.code, .int .i64 x.rest, .bool x.nosum, .slice A n c, .slice D m d], .int .i64 k] w fun e w' => e = .returned (.bool (x.ok k n m)) ∧ Below w.heap.size w w' := by
  obtain ⟨kind, sport, dport, seq, ack, bits, window, urgent, ty, code, rest, nosum⟩ := x
  have hk : kind = 0 ∨ kind = 1 ∨ kind = 2 ∨ kind = 3 ∨ (¬ kind = 0 ∧ ¬ kind = 1 ∧ ¬ kind = 2 ∧ ¬ kind = 3) := by omega
  by_cases h4 : k = 4
  · subst h4
    rcases hk with rfl | rfl | rfl | rfl | ⟨k0, k1, k2, k3⟩
    · exact upOkS0_4 sport dport seq ack bits window urgent ty code rest nosum A D n c m d w hn hm
    · exact upOkS1_4 sport dport seq ack bits window urgent ty code rest nosum A D n c m d w hn hm
    · exact upOkS2_4 sport dport seq ack bits window urgent ty code rest nosum A D n c m d w hn hm
    · exact upOkS3_4 sport dport seq ack bits window urgent ty code rest nosum A D n c m d w hn hm
    · exact upOkS4_4 kind sport dport seq ack bits window urgent ty code rest nosum A D n c m d w hn hm k0 k1 k2 k3
  · by_cases h6 : k = 6
    · subst h6
      rcases hk with rfl | rfl | rfl | rfl | ⟨k0, k1, k2, k3⟩
      · exact upOkS0_6 sport dport seq ack bits window urgent ty code rest nosum A D n c m d w hn hm
      · exact upOkS1_6 sport dport seq ack bits window urgent ty code rest nosum A D n c m d w hn hm
      · exact upOkS2_6 sport dport seq ack bits window urgent ty code rest nosum A D n c m d w hn hm
      · exact upOkS3_6 sport dport seq ack bits window urgent ty code rest nosum A D n c m d w hn hm
      · exact upOkS4_6 kind sport dport seq ack bits window urgent ty code rest nosum A D n c m d w hn hm k0 k1 k2 k3
    · exact upOkS_no _ A D n c m d k w h4 h6
end Go.Proofs.Ythogonpjkngpjaa

namespace Go.Proofs.Ythogonpjkngpjaa
set_option maxRecDepth 100000
open Go.RowKit

theorem encI (x : Uh) (k : Int) (sum : Int) (A D : Option Addr) (n c m d : Nat) (os bs : List UInt8) (w : World) (hr : RB w w.heap.size A os) (hl : os.length = n) (hs : RB w w.heap.size D bs) (hm : bs.length = m) (h : x.ok k n m = true) : Calls Try.prog 70 #[.agg #[.int .i64 x.kind, .int .i64 x.sport, .int .i64 x.dport, .int .i64 x.seq, .int .i64 x.ack, .int .i64 x.bits, .int .i64 x.window, .int .i64 x.urgent, .int .i64 x.ty, .int .i64 x.code, .int .i64 x.rest, .bool x.nosum, .slice A n c, .slice D m d], .int .i64 sum] w (EncOut (x.enc os bs sum) w) := by
  obtain ⟨h1, h2, h3, _⟩ := Uh.ok_room h
  have hk := Uh.ok_kind h
  have ht := Uh.ok_tcp h
  have hi := Uh.ok_icmp h
  obtain ⟨kind, sport, dport, seq, ack, bits, window, urgent, ty, code, rest, nosum⟩ := x
  try simp only at hk ht hi
  rcases hk with rfl | rfl | rfl | rfl
  · exact upB0 sport dport seq ack bits window urgent ty code rest nosum A D n c m d os bs sum w hr hl hs hm h1 h3
  · exact upB1 sport dport seq ack bits window urgent ty code rest nosum A D n c m d os bs sum w hr hl hs hm h1 h3 (ht rfl) h2
  · have e : Uh.enc (Uh.mk 2 sport dport seq ack bits window urgent ty code rest nosum) os bs sum = udpH (Uh.mk 2 sport dport seq ack bits window urgent ty code rest nosum) m sum ++ bs := by rw [← hm]; rfl
    rw [e]
    exact upB2 sport dport seq ack bits window urgent ty code rest nosum A D n c m d os bs sum w hr hl hs hm h1 h3
  · exact upB3 sport dport seq ack bits window urgent ty code rest nosum A D n c m d os bs sum w hr hl hs hm h1 h3 (hi rfl).1 (hi rfl).2
theorem encS (x : Uh) (k : Int) (sum : Int) (A D : Option Addr) (n c m d : Nat) (os bs : List UInt8) (w : World) (hr : RB w w.heap.size A os) (hl : os.length = n) (hs : RB w w.heap.size D bs) (hm : bs.length = m) (h : x.ok k n m = true) : Calls Try.prog 64 #[.agg #[.int .i64 x.kind, .int .i64 x.sport, .int .i64 x.dport, .int .i64 x.seq, .int .i64 x.ack, .int .i64 x.bits, .int .i64 x.window, .int .i64 x.urgent, .int .i64 x.ty, .int .i64 x.code, .int .i64 x.rest, .bool x.nosum, .slice A n c, .slice D m d], .int .i64 sum] w (EncOut (x.enc os bs sum) w) := by
  obtain ⟨h1, h2, h3, _⟩ := Uh.ok_room h
  have hk := Uh.ok_kind h
  have ht := Uh.ok_tcp h
  have hi := Uh.ok_icmp h
  obtain ⟨kind, sport, dport, seq, ack, bits, window, urgent, ty, code, rest, nosum⟩ := x
  try simp only at hk ht hi
  rcases hk with rfl | rfl | rfl | rfl
  · exact l07B0 sport dport seq ack bits window urgent ty code rest nosum A D n c m d os bs sum w hr hl hs hm h1 h3
  · exact l07B1 sport dport seq ack bits window urgent ty code rest nosum A D n c m d os bs sum w hr hl hs hm h1 h3 (ht rfl) h2
  · have e : Uh.enc (Uh.mk 2 sport dport seq ack bits window urgent ty code rest nosum) os bs sum = udpH (Uh.mk 2 sport dport seq ack bits window urgent ty code rest nosum) m sum ++ bs := by rw [← hm]; rfl
    rw [e]
    exact l07B2 sport dport seq ack bits window urgent ty code rest nosum A D n c m d os bs sum w hr hl hs hm h1 h3
  · exact l07B3 sport dport seq ack bits window urgent ty code rest nosum A D n c m d os bs sum w hr hl hs hm h1 h3 (hi rfl).1 (hi rfl).2
theorem okIB (x : Uh) (A D : Option Addr) (n c m d : Nat) (k : Int) (b : Bool) (h : x.ok k n m = b) (hn : n ≤ 1048576) (hm : m ≤ 1048576) (w : World) : Calls Try.prog 65 #[.agg #[.int .i64 x.kind, .int .i64 x.sport, .int .i64 x.dport, .int .i64 x.seq, .int .i64 x.ack, .int .i64 x.bits, .int .i64 x.window, .int .i64 x.urgent, .int .i64 x.ty, .int .i64 x.code, .int .i64 x.rest, .bool x.nosum, .slice A n c, .slice D m d], .int .i64 k] w fun e w' => e = .returned (.bool b) ∧ Below w.heap.size w w' := (implUpOk x A D n c m d k w hn hm).mono fun _ _ ⟨he, hb⟩ => ⟨he.trans (ret_bool h), hb⟩
theorem okSB (x : Uh) (A D : Option Addr) (n c m d : Nat) (k : Int) (b : Bool) (h : x.ok k n m = b) (hn : n ≤ 1048576) (hm : m ≤ 1048576) (w : World) : Calls Try.prog 59 #[.agg #[.int .i64 x.kind, .int .i64 x.sport, .int .i64 x.dport, .int .i64 x.seq, .int .i64 x.ack, .int .i64 x.bits, .int .i64 x.window, .int .i64 x.urgent, .int .i64 x.ty, .int .i64 x.code, .int .i64 x.rest, .bool x.nosum, .slice A n c, .slice D m d], .int .i64 k] w fun e w' => e = .returned (.bool b) ∧ Below w.heap.size w w' := (specUpOk x A D n c m d k w hn hm).mono fun _ _ ⟨he, hb⟩ => ⟨he.trans (ret_bool h), hb⟩
section
variable {o : Oper} {a : Act} {w : World} {K : Act → World → Prop} {Q : Exit → Act → World → Prop}
theorem u_upSizeI (x : Operand) (x0 : Value) (ts : Array TypeId) (ho : o.op = .call { callee := .value (.func 102), args := #[x], argTypes := ts }) (h0 : a.eval x = x0)
    (h : Calls Try.prog 102 #[x0] w fun e w' => ∃ v, e = .returned v ∧ K (a.put o.dst v) w') : o.wp Try.prog a w K Q := by
  unfold Oper.wp execOp
  simp only [ho, resolve, List.map_toArray, List.map_cons, List.map_nil, h0, show ∀ f, a.eval (.func f) = .func (.func f) #[] #[] from fun _ => rfl]
  go_simp
  exact h.mono fun e w' ⟨u, he, hk⟩ => by subst he; exact hk
theorem u_upSizeS (x : Operand) (x0 : Value) (ts : Array TypeId) (ho : o.op = .call { callee := .value (.func 61), args := #[x], argTypes := ts }) (h0 : a.eval x = x0)
    (h : Calls Try.prog 61 #[x0] w fun e w' => ∃ v, e = .returned v ∧ K (a.put o.dst v) w') : o.wp Try.prog a w K Q := by
  unfold Oper.wp execOp
  simp only [ho, resolve, List.map_toArray, List.map_cons, List.map_nil, h0, show ∀ f, a.eval (.func f) = .func (.func f) #[] #[] from fun _ => rfl]
  go_simp
  exact h.mono fun e w' ⟨u, he, hk⟩ => by subst he; exact hk
theorem u_psI4 (x y z u : Operand) (x0 x1 x2 x3 : Value) (ts : Array TypeId) (ho : o.op = .call { callee := .value (.func 103), args := #[x, y, z, u], argTypes := ts }) (h0 : a.eval x = x0) (h1 : a.eval y = x1) (h2 : a.eval z = x2) (h3 : a.eval u = x3)
    (h : Calls Try.prog 103 #[x0, x1, x2, x3] w fun e w' => ∃ v, e = .returned v ∧ K (a.put o.dst v) w') : o.wp Try.prog a w K Q := by
  unfold Oper.wp execOp
  simp only [ho, resolve, List.map_toArray, List.map_cons, List.map_nil, h0, h1, h2, h3, show ∀ f, a.eval (.func f) = .func (.func f) #[] #[] from fun _ => rfl]
  go_simp
  exact h.mono fun e w' ⟨u, he, hk⟩ => by subst he; exact hk
theorem u_psS4 (x y z u : Operand) (x0 x1 x2 x3 : Value) (ts : Array TypeId) (ho : o.op = .call { callee := .value (.func 60), args := #[x, y, z, u], argTypes := ts }) (h0 : a.eval x = x0) (h1 : a.eval y = x1) (h2 : a.eval z = x2) (h3 : a.eval u = x3)
    (h : Calls Try.prog 60 #[x0, x1, x2, x3] w fun e w' => ∃ v, e = .returned v ∧ K (a.put o.dst v) w') : o.wp Try.prog a w K Q := by
  unfold Oper.wp execOp
  simp only [ho, resolve, List.map_toArray, List.map_cons, List.map_nil, h0, h1, h2, h3, show ∀ f, a.eval (.func f) = .func (.func f) #[] #[] from fun _ => rfl]
  go_simp
  exact h.mono fun e w' ⟨u, he, hk⟩ => by subst he; exact hk
theorem u_pseudoOf (x y z : Operand) (x0 x1 x2 : Value) (ts : Array TypeId) (ho : o.op = .call { callee := .value (.func 68), args := #[x, y, z], argTypes := ts }) (h0 : a.eval x = x0) (h1 : a.eval y = x1) (h2 : a.eval z = x2)
    (h : Calls Try.prog 68 #[x0, x1, x2] w fun e w' => ∃ v, e = .returned v ∧ K (a.put o.dst v) w') : o.wp Try.prog a w K Q := by
  unfold Oper.wp execOp
  simp only [ho, resolve, List.map_toArray, List.map_cons, List.map_nil, h0, h1, h2, show ∀ f, a.eval (.func f) = .func (.func f) #[] #[] from fun _ => rfl]
  go_simp
  exact h.mono fun e w' ⟨u, he, hk⟩ => by subst he; exact hk
theorem u_upBytesI (x y : Operand) (x0 x1 : Value) (ts : Array TypeId) (ho : o.op = .call { callee := .value (.func 70), args := #[x, y], argTypes := ts }) (h0 : a.eval x = x0) (h1 : a.eval y = x1)
    (h : Calls Try.prog 70 #[x0, x1] w fun e w' => ∃ v, e = .returned v ∧ K (a.put o.dst v) w') : o.wp Try.prog a w K Q := by
  unfold Oper.wp execOp
  simp only [ho, resolve, List.map_toArray, List.map_cons, List.map_nil, h0, h1, show ∀ f, a.eval (.func f) = .func (.func f) #[] #[] from fun _ => rfl]
  go_simp
  exact h.mono fun e w' ⟨u, he, hk⟩ => by subst he; exact hk
theorem u_onesI (x : Operand) (x0 : Value) (ts : Array TypeId) (ho : o.op = .call { callee := .value (.func 69), args := #[x], argTypes := ts }) (h0 : a.eval x = x0)
    (h : Calls Try.prog 69 #[x0] w fun e w' => ∃ v, e = .returned v ∧ K (a.put o.dst v) w') : o.wp Try.prog a w K Q := by
  unfold Oper.wp execOp
  simp only [ho, resolve, List.map_toArray, List.map_cons, List.map_nil, h0, show ∀ f, a.eval (.func f) = .func (.func f) #[] #[] from fun _ => rfl]
  go_simp
  exact h.mono fun e w' ⟨u, he, hk⟩ => by subst he; exact hk
end
end Go.Proofs.Ythogonpjkngpjaa

namespace Go.Proofs.Ythogonpjkngpjaa
set_option maxRecDepth 100000
open Go.RowKit

set_option maxHeartbeats 2000000 in
theorem pseudo1 (sport dport seq ack bits window urgent ty code rest : Int) (nosum : Bool) (s : Ad) (t : Ad) (A D : Option Addr) (n c m d : Nat) (w : World) (hn : n ≤ 40) (hm : m ≤ 1500) : Calls Try.prog 68 #[.agg #[.int .i64 1, .int .i64 sport, .int .i64 dport, .int .i64 seq, .int .i64 ack, .int .i64 bits, .int .i64 window, .int .i64 urgent, .int .i64 ty, .int .i64 code, .int .i64 rest, .bool nosum, .slice A n c, .slice D m d], .agg #[.int .i64 s.k, .int .i64 s.a, .int .i64 s.b, .int .i64 s.c, .int .i64 s.d], .agg #[.int .i64 t.k, .int .i64 t.a, .int .i64 t.b, .int .i64 t.c, .int .i64 t.d]] w fun e w' => e = .returned (.int .i64 (psSum s t 6 (20 + (n : Int) + m))) ∧ Below w.heap.size w w' := by
  have q0 : Hid ((((w.alloc (.cells #[.int .i64 1, .int .i64 sport, .int .i64 dport, .int .i64 seq, .int .i64 ack, .int .i64 bits, .int .i64 window, .int .i64 urgent, .int .i64 ty, .int .i64 code, .int .i64 rest, .bool nosum, .slice A n c, .slice D m d] 36)).alloc (.cells #[.int .i64 s.k, .int .i64 s.a, .int .i64 s.b, .int .i64 s.c, .int .i64 s.d] 27)).alloc (.cells #[.int .i64 t.k, .int .i64 t.a, .int .i64 t.b, .int .i64 t.c, .int .i64 t.d] 27)).heap[w.heap.size]? = some (.cells #[.int .i64 1, .int .i64 sport, .int .i64 dport, .int .i64 seq, .int .i64 ack, .int .i64 bits, .int .i64 window, .int .i64 urgent, .int .i64 ty, .int .i64 code, .int .i64 rest, .bool nosum, .slice A n c, .slice D m d] 36)) := Lib.hid (by repeat (first | exact K.newAt (by first | rfl | (simp; done)) | refine K.oldAt (by first | (simp; done) | (simp; omega)) ?_))
  have q1 : Hid ((((w.alloc (.cells #[.int .i64 1, .int .i64 sport, .int .i64 dport, .int .i64 seq, .int .i64 ack, .int .i64 bits, .int .i64 window, .int .i64 urgent, .int .i64 ty, .int .i64 code, .int .i64 rest, .bool nosum, .slice A n c, .slice D m d] 36)).alloc (.cells #[.int .i64 s.k, .int .i64 s.a, .int .i64 s.b, .int .i64 s.c, .int .i64 s.d] 27)).alloc (.cells #[.int .i64 t.k, .int .i64 t.a, .int .i64 t.b, .int .i64 t.c, .int .i64 t.d] 27)).heap[w.heap.size + 1]? = some (.cells #[.int .i64 s.k, .int .i64 s.a, .int .i64 s.b, .int .i64 s.c, .int .i64 s.d] 27)) := Lib.hid (by repeat (first | exact K.newAt (by first | rfl | (simp; done)) | refine K.oldAt (by first | (simp; done) | (simp; omega)) ?_))
  have q2 : Hid ((((w.alloc (.cells #[.int .i64 1, .int .i64 sport, .int .i64 dport, .int .i64 seq, .int .i64 ack, .int .i64 bits, .int .i64 window, .int .i64 urgent, .int .i64 ty, .int .i64 code, .int .i64 rest, .bool nosum, .slice A n c, .slice D m d] 36)).alloc (.cells #[.int .i64 s.k, .int .i64 s.a, .int .i64 s.b, .int .i64 s.c, .int .i64 s.d] 27)).alloc (.cells #[.int .i64 t.k, .int .i64 t.a, .int .i64 t.b, .int .i64 t.c, .int .i64 t.d] 27)).heap[w.heap.size + 1 + 1]? = some (.cells #[.int .i64 t.k, .int .i64 t.a, .int .i64 t.b, .int .i64 t.c, .int .i64 t.d] 27)) := Lib.hid (by repeat (first | exact K.newAt (by first | rfl | (simp; done)) | refine K.oldAt (by first | (simp; done) | (simp; omega)) ?_))
  (try simp only at q0 q1 q2)
  have HB : Hid (Below w.heap.size w (((w.alloc (.cells #[.int .i64 1, .int .i64 sport, .int .i64 dport, .int .i64 seq, .int .i64 ack, .int .i64 bits, .int .i64 window, .int .i64 urgent, .int .i64 ty, .int .i64 code, .int .i64 rest, .bool nosum, .slice A n c, .slice D m d] 36)).alloc (.cells #[.int .i64 s.k, .int .i64 s.a, .int .i64 s.b, .int .i64 s.c, .int .i64 s.d] 27)).alloc (.cells #[.int .i64 t.k, .int .i64 t.a, .int .i64 t.b, .int .i64 t.c, .int .i64 t.d] 27))) := Lib.hid (by go_grown)
  try simp only at HB
  go_enter Try.func68, Try.ntmps68
  go_wp2_with fail
  refine wp_region_owns (by kernel_rfl) 6 26 [(0, 20), (1, 21), (2, 22), (3, 23), (4, 24), (5, 25)] _ ([.val (.agg #[.int .i64 s.k, .int .i64 s.a, .int .i64 s.b, .int .i64 s.c, .int .i64 s.d]), .val (.agg #[.int .i64 t.k, .int .i64 t.a, .int .i64 t.b, .int .i64 t.c, .int .i64 t.d]), .val (.int .i64 6), .val (.agg #[.int .i64 1, .int .i64 sport, .int .i64 dport, .int .i64 seq, .int .i64 ack, .int .i64 bits, .int .i64 window, .int .i64 urgent, .int .i64 ty, .int .i64 code, .int .i64 rest, .bool nosum, .slice A n c, .slice D m d]), .val (.int .i64 (20 + (n : Int) + m)), .val (.int .i64 (psSum s t 6 (20 + (n : Int) + m)))]) (by kernel_rfl) (by kernel_rfl) rfl rfl ?_ ?_
  · intro j o hj ho a' v K' hx hnd hB hK
    match j, hj, ho with
    | 0, _, ho =>
      obtain rfl := Option.some.inj ho
      have h0 : a'.eval (.tmp 4) = .pointer (some ⟨w.heap.size + 1, 0, none⟩) := (hx 4 (by decide)).trans rfl
      exact wp_load_row 27 _ rfl (w.heap.size + 1) h0 _ _ (0, 0) _ (K.below hB q1.out) Try.underlying27 rfl info_addrP (hK _ _ rfl (Below.refl _ _))
    | 1, _, ho =>
      obtain rfl := Option.some.inj ho
      have h0 : a'.eval (.tmp 5) = .pointer (some ⟨w.heap.size + 2, 0, none⟩) := (hx 5 (by decide)).trans rfl
      exact wp_load_row 27 _ rfl (w.heap.size + 2) h0 _ _ (0, 0) _ (K.below hB q2.out) Try.underlying27 rfl info_addrP (hK _ _ rfl (Below.refl _ _))
    | 2, _, ho =>
      obtain rfl := Option.some.inj ho
      have h0 : a'.eval (.tmp 7) = .int .i64 6 := (hx 7 (by decide)).trans rfl
      exact u_move _ _ rfl h0 (hK _ _ rfl (Below.refl _ _))
    | 3, _, ho =>
      obtain rfl := Option.some.inj ho
      have h0 : a'.eval (.tmp 3) = .pointer (some ⟨w.heap.size, 0, none⟩) := (hx 3 (by decide)).trans rfl
      exact wp_load_row 36 _ rfl (w.heap.size) h0 _ _ (0, 0) _ (K.below hB q0.out) Try.underlying36 rfl info_up (hK _ _ rfl (Below.refl _ _))
    | 4, _, ho =>
      obtain rfl := Option.some.inj ho
      have h0 : a'.eval (.tmp 23) = .agg #[.int .i64 1, .int .i64 sport, .int .i64 dport, .int .i64 seq, .int .i64 ack, .int .i64 bits, .int .i64 window, .int .i64 urgent, .int .i64 ty, .int .i64 code, .int .i64 rest, .bool nosum, .slice A n c, .slice D m d] := (owns_of hnd 3 23 (by kernel_rfl) :)
      refine u_upSizeI _ _ _ rfl h0 (Calls.mono (implUpSize (Uh.mk 1 sport dport seq ack bits window urgent ty code rest nosum) A D n c m d v (by omega) (by omega)) ?_)
      rintro e' v' ⟨rfl, b6⟩
      exact ⟨_, rfl, hK _ _ rfl b6⟩
    | 5, _, ho =>
      obtain rfl := Option.some.inj ho
      have h0 : a'.eval (.tmp 20) = .agg #[.int .i64 s.k, .int .i64 s.a, .int .i64 s.b, .int .i64 s.c, .int .i64 s.d] := (owns_of hnd 0 20 (by kernel_rfl) :)
      have h1 : a'.eval (.tmp 21) = .agg #[.int .i64 t.k, .int .i64 t.a, .int .i64 t.b, .int .i64 t.c, .int .i64 t.d] := (owns_of hnd 1 21 (by kernel_rfl) :)
      have h2 : a'.eval (.tmp 22) = .int .i64 6 := (owns_of hnd 2 22 (by kernel_rfl) :)
      have h3 : a'.eval (.tmp 24) = .int .i64 (20 + (n : Int) + m) := (owns_of hnd 4 24 (by kernel_rfl) :)
      refine u_psI4 _ _ _ _ _ _ _ _ _ rfl h0 h1 h2 h3 (Calls.mono (psI s t 6 (20 + (n : Int) + m) v) ?_)
      rintro e' v' ⟨rfl, b6⟩
      exact ⟨_, rfl, hK _ _ rfl b6⟩
    | j + 6, hj, _ => omega
  · intro f v hf hB
    have e0 : f 0 = (.agg #[.int .i64 s.k, .int .i64 s.a, .int .i64 s.b, .int .i64 s.c, .int .i64 s.d]) := hf (0, 20) (by decide)
    have e1 : f 1 = (.agg #[.int .i64 t.k, .int .i64 t.a, .int .i64 t.b, .int .i64 t.c, .int .i64 t.d]) := hf (1, 21) (by decide)
    have e2 : f 2 = (.int .i64 6) := hf (2, 22) (by decide)
    have e3 : f 3 = (.agg #[.int .i64 1, .int .i64 sport, .int .i64 dport, .int .i64 seq, .int .i64 ack, .int .i64 bits, .int .i64 window, .int .i64 urgent, .int .i64 ty, .int .i64 code, .int .i64 rest, .bool nosum, .slice A n c, .slice D m d]) := hf (3, 23) (by decide)
    have e4 : f 4 = (.int .i64 (20 + (n : Int) + m)) := hf (4, 24) (by decide)
    have e5 : f 5 = (.int .i64 (psSum s t 6 (20 + (n : Int) + m))) := hf (5, 25) (by decide)
    simp only [List.foldl_cons, List.foldl_nil, List.drop_succ_cons, List.drop_zero, e0, e1, e2, e3, e4, e5]
    clear e0 e1 e2 e3 e4 e5 hf
    go_simp
    have B1 := Lib.hid (bthen HB.out hB)
    clear hB
    go_wp2
    go_ret
    exact ⟨rfl, B1.out⟩

set_option maxHeartbeats 2000000 in
theorem pseudo2 (sport dport seq ack bits window urgent ty code rest : Int) (nosum : Bool) (s : Ad) (t : Ad) (A D : Option Addr) (n c m d : Nat) (w : World) (hn : n ≤ 40) (hm : m ≤ 1500) : Calls Try.prog 68 #[.agg #[.int .i64 2, .int .i64 sport, .int .i64 dport, .int .i64 seq, .int .i64 ack, .int .i64 bits, .int .i64 window, .int .i64 urgent, .int .i64 ty, .int .i64 code, .int .i64 rest, .bool nosum, .slice A n c, .slice D m d], .agg #[.int .i64 s.k, .int .i64 s.a, .int .i64 s.b, .int .i64 s.c, .int .i64 s.d], .agg #[.int .i64 t.k, .int .i64 t.a, .int .i64 t.b, .int .i64 t.c, .int .i64 t.d]] w fun e w' => e = .returned (.int .i64 (psSum s t 17 (8 + (m : Int)))) ∧ Below w.heap.size w w' := by
  have q0 : Hid ((((w.alloc (.cells #[.int .i64 2, .int .i64 sport, .int .i64 dport, .int .i64 seq, .int .i64 ack, .int .i64 bits, .int .i64 window, .int .i64 urgent, .int .i64 ty, .int .i64 code, .int .i64 rest, .bool nosum, .slice A n c, .slice D m d] 36)).alloc (.cells #[.int .i64 s.k, .int .i64 s.a, .int .i64 s.b, .int .i64 s.c, .int .i64 s.d] 27)).alloc (.cells #[.int .i64 t.k, .int .i64 t.a, .int .i64 t.b, .int .i64 t.c, .int .i64 t.d] 27)).heap[w.heap.size]? = some (.cells #[.int .i64 2, .int .i64 sport, .int .i64 dport, .int .i64 seq, .int .i64 ack, .int .i64 bits, .int .i64 window, .int .i64 urgent, .int .i64 ty, .int .i64 code, .int .i64 rest, .bool nosum, .slice A n c, .slice D m d] 36)) := Lib.hid (by repeat (first | exact K.newAt (by first | rfl | (simp; done)) | refine K.oldAt (by first | (simp; done) | (simp; omega)) ?_))
  have q1 : Hid ((((w.alloc (.cells #[.int .i64 2, .int .i64 sport, .int .i64 dport, .int .i64 seq, .int .i64 ack, .int .i64 bits, .int .i64 window, .int .i64 urgent, .int .i64 ty, .int .i64 code, .int .i64 rest, .bool nosum, .slice A n c, .slice D m d] 36)).alloc (.cells #[.int .i64 s.k, .int .i64 s.a, .int .i64 s.b, .int .i64 s.c, .int .i64 s.d] 27)).alloc (.cells #[.int .i64 t.k, .int .i64 t.a, .int .i64 t.b, .int .i64 t.c, .int .i64 t.d] 27)).heap[w.heap.size + 1]? = some (.cells #[.int .i64 s.k, .int .i64 s.a, .int .i64 s.b, .int .i64 s.c, .int .i64 s.d] 27)) := Lib.hid (by repeat (first | exact K.newAt (by first | rfl | (simp; done)) | refine K.oldAt (by first | (simp; done) | (simp; omega)) ?_))
  have q2 : Hid ((((w.alloc (.cells #[.int .i64 2, .int .i64 sport, .int .i64 dport, .int .i64 seq, .int .i64 ack, .int .i64 bits, .int .i64 window, .int .i64 urgent, .int .i64 ty, .int .i64 code, .int .i64 rest, .bool nosum, .slice A n c, .slice D m d] 36)).alloc (.cells #[.int .i64 s.k, .int .i64 s.a, .int .i64 s.b, .int .i64 s.c, .int .i64 s.d] 27)).alloc (.cells #[.int .i64 t.k, .int .i64 t.a, .int .i64 t.b, .int .i64 t.c, .int .i64 t.d] 27)).heap[w.heap.size + 1 + 1]? = some (.cells #[.int .i64 t.k, .int .i64 t.a, .int .i64 t.b, .int .i64 t.c, .int .i64 t.d] 27)) := Lib.hid (by repeat (first | exact K.newAt (by first | rfl | (simp; done)) | refine K.oldAt (by first | (simp; done) | (simp; omega)) ?_))
  (try simp only at q0 q1 q2)
  have HB : Hid (Below w.heap.size w (((w.alloc (.cells #[.int .i64 2, .int .i64 sport, .int .i64 dport, .int .i64 seq, .int .i64 ack, .int .i64 bits, .int .i64 window, .int .i64 urgent, .int .i64 ty, .int .i64 code, .int .i64 rest, .bool nosum, .slice A n c, .slice D m d] 36)).alloc (.cells #[.int .i64 s.k, .int .i64 s.a, .int .i64 s.b, .int .i64 s.c, .int .i64 s.d] 27)).alloc (.cells #[.int .i64 t.k, .int .i64 t.a, .int .i64 t.b, .int .i64 t.c, .int .i64 t.d] 27))) := Lib.hid (by go_grown)
  try simp only at HB
  go_enter Try.func68, Try.ntmps68
  go_wp2_with fail
  refine wp_region_owns (by kernel_rfl) 6 26 [(0, 20), (1, 21), (2, 22), (3, 23), (4, 24), (5, 25)] _ ([.val (.agg #[.int .i64 s.k, .int .i64 s.a, .int .i64 s.b, .int .i64 s.c, .int .i64 s.d]), .val (.agg #[.int .i64 t.k, .int .i64 t.a, .int .i64 t.b, .int .i64 t.c, .int .i64 t.d]), .val (.int .i64 17), .val (.agg #[.int .i64 2, .int .i64 sport, .int .i64 dport, .int .i64 seq, .int .i64 ack, .int .i64 bits, .int .i64 window, .int .i64 urgent, .int .i64 ty, .int .i64 code, .int .i64 rest, .bool nosum, .slice A n c, .slice D m d]), .val (.int .i64 (8 + (m : Int))), .val (.int .i64 (psSum s t 17 (8 + (m : Int))))]) (by kernel_rfl) (by kernel_rfl) rfl rfl ?_ ?_
  · intro j o hj ho a' v K' hx hnd hB hK
    match j, hj, ho with
    | 0, _, ho =>
      obtain rfl := Option.some.inj ho
      have h0 : a'.eval (.tmp 4) = .pointer (some ⟨w.heap.size + 1, 0, none⟩) := (hx 4 (by decide)).trans rfl
      exact wp_load_row 27 _ rfl (w.heap.size + 1) h0 _ _ (0, 0) _ (K.below hB q1.out) Try.underlying27 rfl info_addrP (hK _ _ rfl (Below.refl _ _))
    | 1, _, ho =>
      obtain rfl := Option.some.inj ho
      have h0 : a'.eval (.tmp 5) = .pointer (some ⟨w.heap.size + 2, 0, none⟩) := (hx 5 (by decide)).trans rfl
      exact wp_load_row 27 _ rfl (w.heap.size + 2) h0 _ _ (0, 0) _ (K.below hB q2.out) Try.underlying27 rfl info_addrP (hK _ _ rfl (Below.refl _ _))
    | 2, _, ho =>
      obtain rfl := Option.some.inj ho
      have h0 : a'.eval (.tmp 7) = .int .i64 17 := (hx 7 (by decide)).trans rfl
      exact u_move _ _ rfl h0 (hK _ _ rfl (Below.refl _ _))
    | 3, _, ho =>
      obtain rfl := Option.some.inj ho
      have h0 : a'.eval (.tmp 3) = .pointer (some ⟨w.heap.size, 0, none⟩) := (hx 3 (by decide)).trans rfl
      exact wp_load_row 36 _ rfl (w.heap.size) h0 _ _ (0, 0) _ (K.below hB q0.out) Try.underlying36 rfl info_up (hK _ _ rfl (Below.refl _ _))
    | 4, _, ho =>
      obtain rfl := Option.some.inj ho
      have h0 : a'.eval (.tmp 23) = .agg #[.int .i64 2, .int .i64 sport, .int .i64 dport, .int .i64 seq, .int .i64 ack, .int .i64 bits, .int .i64 window, .int .i64 urgent, .int .i64 ty, .int .i64 code, .int .i64 rest, .bool nosum, .slice A n c, .slice D m d] := (owns_of hnd 3 23 (by kernel_rfl) :)
      refine u_upSizeI _ _ _ rfl h0 (Calls.mono (implUpSize (Uh.mk 2 sport dport seq ack bits window urgent ty code rest nosum) A D n c m d v (by omega) (by omega)) ?_)
      rintro e' v' ⟨rfl, b6⟩
      exact ⟨_, rfl, hK _ _ rfl b6⟩
    | 5, _, ho =>
      obtain rfl := Option.some.inj ho
      have h0 : a'.eval (.tmp 20) = .agg #[.int .i64 s.k, .int .i64 s.a, .int .i64 s.b, .int .i64 s.c, .int .i64 s.d] := (owns_of hnd 0 20 (by kernel_rfl) :)
      have h1 : a'.eval (.tmp 21) = .agg #[.int .i64 t.k, .int .i64 t.a, .int .i64 t.b, .int .i64 t.c, .int .i64 t.d] := (owns_of hnd 1 21 (by kernel_rfl) :)
      have h2 : a'.eval (.tmp 22) = .int .i64 17 := (owns_of hnd 2 22 (by kernel_rfl) :)
      have h3 : a'.eval (.tmp 24) = .int .i64 (8 + (m : Int)) := (owns_of hnd 4 24 (by kernel_rfl) :)
      refine u_psI4 _ _ _ _ _ _ _ _ _ rfl h0 h1 h2 h3 (Calls.mono (psI s t 17 (8 + (m : Int)) v) ?_)
      rintro e' v' ⟨rfl, b6⟩
      exact ⟨_, rfl, hK _ _ rfl b6⟩
    | j + 6, hj, _ => omega
  · intro f v hf hB
    have e0 : f 0 = (.agg #[.int .i64 s.k, .int .i64 s.a, .int .i64 s.b, .int .i64 s.c, .int .i64 s.d]) := hf (0, 20) (by decide)
    have e1 : f 1 = (.agg #[.int .i64 t.k, .int .i64 t.a, .int .i64 t.b, .int .i64 t.c, .int .i64 t.d]) := hf (1, 21) (by decide)
    have e2 : f 2 = (.int .i64 17) := hf (2, 22) (by decide)
    have e3 : f 3 = (.agg #[.int .i64 2, .int .i64 sport, .int .i64 dport, .int .i64 seq, .int .i64 ack, .int .i64 bits, .int .i64 window, .int .i64 urgent, .int .i64 ty, .int .i64 code, .int .i64 rest, .bool nosum, .slice A n c, .slice D m d]) := hf (3, 23) (by decide)
    have e4 : f 4 = (.int .i64 (8 + (m : Int))) := hf (4, 24) (by decide)
    have e5 : f 5 = (.int .i64 (psSum s t 17 (8 + (m : Int)))) := hf (5, 25) (by decide)
    simp only [List.foldl_cons, List.foldl_nil, List.drop_succ_cons, List.drop_zero, e0, e1, e2, e3, e4, e5]
    clear e0 e1 e2 e3 e4 e5 hf
    go_simp
    have B1 := Lib.hid (bthen HB.out hB)
    clear hB
    go_wp2
    go_ret
    exact ⟨rfl, B1.out⟩

set_option maxHeartbeats 2000000 in
theorem pseudo3_4 (sport dport seq ack bits window urgent ty code rest : Int) (nosum : Bool) (s : Ad) (t : Ad) (A D : Option Addr) (n c m d : Nat) (w : World) (hk : s.k = 4) : Calls Try.prog 68 #[.agg #[.int .i64 3, .int .i64 sport, .int .i64 dport, .int .i64 seq, .int .i64 ack, .int .i64 bits, .int .i64 window, .int .i64 urgent, .int .i64 ty, .int .i64 code, .int .i64 rest, .bool nosum, .slice A n c, .slice D m d], .agg #[.int .i64 s.k, .int .i64 s.a, .int .i64 s.b, .int .i64 s.c, .int .i64 s.d], .agg #[.int .i64 t.k, .int .i64 t.a, .int .i64 t.b, .int .i64 t.c, .int .i64 t.d]] w fun e w' => e = .returned (.int .i64 (0)) ∧ Below w.heap.size w w' := by
  go_enter Try.func68, Try.ntmps68
  go_wp2
  go_ret
  exact ⟨rfl, by go_grown⟩

set_option maxHeartbeats 2000000 in
theorem pseudo3_6 (sport dport seq ack bits window urgent ty code rest : Int) (nosum : Bool) (sa sb sc sd : Int) (t : Ad) (A D : Option Addr) (n c m d : Nat) (w : World) (hn : n ≤ 40) (hm : m ≤ 1500) : Calls Try.prog 68 #[.agg #[.int .i64 3, .int .i64 sport, .int .i64 dport, .int .i64 seq, .int .i64 ack, .int .i64 bits, .int .i64 window, .int .i64 urgent, .int .i64 ty, .int .i64 code, .int .i64 rest, .bool nosum, .slice A n c, .slice D m d], .agg #[.int .i64 (Ad.mk 6 sa sb sc sd).k, .int .i64 (Ad.mk 6 sa sb sc sd).a, .int .i64 (Ad.mk 6 sa sb sc sd).b, .int .i64 (Ad.mk 6 sa sb sc sd).c, .int .i64 (Ad.mk 6 sa sb sc sd).d], .agg #[.int .i64 t.k, .int .i64 t.a, .int .i64 t.b, .int .i64 t.c, .int .i64 t.d]] w fun e w' => e = .returned (.int .i64 (psSum (Ad.mk 6 sa sb sc sd) t 58 (8 + (m : Int)))) ∧ Below w.heap.size w w' := by
  have q0 : Hid ((((w.alloc (.cells #[.int .i64 3, .int .i64 sport, .int .i64 dport, .int .i64 seq, .int .i64 ack, .int .i64 bits, .int .i64 window, .int .i64 urgent, .int .i64 ty, .int .i64 code, .int .i64 rest, .bool nosum, .slice A n c, .slice D m d] 36)).alloc (.cells #[.int .i64 (Ad.mk 6 sa sb sc sd).k, .int .i64 (Ad.mk 6 sa sb sc sd).a, .int .i64 (Ad.mk 6 sa sb sc sd).b, .int .i64 (Ad.mk 6 sa sb sc sd).c, .int .i64 (Ad.mk 6 sa sb sc sd).d] 27)).alloc (.cells #[.int .i64 t.k, .int .i64 t.a, .int .i64 t.b, .int .i64 t.c, .int .i64 t.d] 27)).heap[w.heap.size]? = some (.cells #[.int .i64 3, .int .i64 sport, .int .i64 dport, .int .i64 seq, .int .i64 ack, .int .i64 bits, .int .i64 window, .int .i64 urgent, .int .i64 ty, .int .i64 code, .int .i64 rest, .bool nosum, .slice A n c, .slice D m d] 36)) := Lib.hid (by repeat (first | exact K.newAt (by first | rfl | (simp; done)) | refine K.oldAt (by first | (simp; done) | (simp; omega)) ?_))
  have q1 : Hid ((((w.alloc (.cells #[.int .i64 3, .int .i64 sport, .int .i64 dport, .int .i64 seq, .int .i64 ack, .int .i64 bits, .int .i64 window, .int .i64 urgent, .int .i64 ty, .int .i64 code, .int .i64 rest, .bool nosum, .slice A n c, .slice D m d] 36)).alloc (.cells #[.int .i64 (Ad.mk 6 sa sb sc sd).k, .int .i64 (Ad.mk 6 sa sb sc sd).a, .int .i64 (Ad.mk 6 sa sb sc sd).b, .int .i64 (Ad.mk 6 sa sb sc sd).c, .int .i64 (Ad.mk 6 sa sb sc sd).d] 27)).alloc (.cells #[.int .i64 t.k, .int .i64 t.a, .int .i64 t.b, .int .i64 t.c, .int .i64 t.d] 27)).heap[w.heap.size + 1]? = some (.cells #[.int .i64 (Ad.mk 6 sa sb sc sd).k, .int .i64 (Ad.mk 6 sa sb sc sd).a, .int .i64 (Ad.mk 6 sa sb sc sd).b, .int .i64 (Ad.mk 6 sa sb sc sd).c, .int .i64 (Ad.mk 6 sa sb sc sd).d] 27)) := Lib.hid (by repeat (first | exact K.newAt (by first | rfl | (simp; done)) | refine K.oldAt (by first | (simp; done) | (simp; omega)) ?_))
  have q2 : Hid ((((w.alloc (.cells #[.int .i64 3, .int .i64 sport, .int .i64 dport, .int .i64 seq, .int .i64 ack, .int .i64 bits, .int .i64 window, .int .i64 urgent, .int .i64 ty, .int .i64 code, .int .i64 rest, .bool nosum, .slice A n c, .slice D m d] 36)).alloc (.cells #[.int .i64 (Ad.mk 6 sa sb sc sd).k, .int .i64 (Ad.mk 6 sa sb sc sd).a, .int .i64 (Ad.mk 6 sa sb sc sd).b, .int .i64 (Ad.mk 6 sa sb sc sd).c, .int .i64 (Ad.mk 6 sa sb sc sd).d] 27)).alloc (.cells #[.int .i64 t.k, .int .i64 t.a, .int .i64 t.b, .int .i64 t.c, .int .i64 t.d] 27)).heap[w.heap.size + 1 + 1]? = some (.cells #[.int .i64 t.k, .int .i64 t.a, .int .i64 t.b, .int .i64 t.c, .int .i64 t.d] 27)) := Lib.hid (by repeat (first | exact K.newAt (by first | rfl | (simp; done)) | refine K.oldAt (by first | (simp; done) | (simp; omega)) ?_))
  (try simp only at q0 q1 q2)
  have HB : Hid (Below w.heap.size w (((w.alloc (.cells #[.int .i64 3, .int .i64 sport, .int .i64 dport, .int .i64 seq, .int .i64 ack, .int .i64 bits, .int .i64 window, .int .i64 urgent, .int .i64 ty, .int .i64 code, .int .i64 rest, .bool nosum, .slice A n c, .slice D m d] 36)).alloc (.cells #[.int .i64 (Ad.mk 6 sa sb sc sd).k, .int .i64 (Ad.mk 6 sa sb sc sd).a, .int .i64 (Ad.mk 6 sa sb sc sd).b, .int .i64 (Ad.mk 6 sa sb sc sd).c, .int .i64 (Ad.mk 6 sa sb sc sd).d] 27)).alloc (.cells #[.int .i64 t.k, .int .i64 t.a, .int .i64 t.b, .int .i64 t.c, .int .i64 t.d] 27))) := Lib.hid (by go_grown)
  try simp only at HB
  go_enter Try.func68, Try.ntmps68
  go_wp2_with fail
  refine wp_region_owns (by kernel_rfl) 6 26 [(0, 20), (1, 21), (2, 22), (3, 23), (4, 24), (5, 25)] _ ([.val (.agg #[.int .i64 (Ad.mk 6 sa sb sc sd).k, .int .i64 (Ad.mk 6 sa sb sc sd).a, .int .i64 (Ad.mk 6 sa sb sc sd).b, .int .i64 (Ad.mk 6 sa sb sc sd).c, .int .i64 (Ad.mk 6 sa sb sc sd).d]), .val (.agg #[.int .i64 t.k, .int .i64 t.a, .int .i64 t.b, .int .i64 t.c, .int .i64 t.d]), .val (.int .i64 58), .val (.agg #[.int .i64 3, .int .i64 sport, .int .i64 dport, .int .i64 seq, .int .i64 ack, .int .i64 bits, .int .i64 window, .int .i64 urgent, .int .i64 ty, .int .i64 code, .int .i64 rest, .bool nosum, .slice A n c, .slice D m d]), .val (.int .i64 (8 + (m : Int))), .val (.int .i64 (psSum (Ad.mk 6 sa sb sc sd) t 58 (8 + (m : Int))))]) (by kernel_rfl) (by kernel_rfl) rfl rfl ?_ ?_
  · intro j o hj ho a' v K' hx hnd hB hK
    match j, hj, ho with
    | 0, _, ho =>
      obtain rfl := Option.some.inj ho
      have h0 : a'.eval (.tmp 4) = .pointer (some ⟨w.heap.size + 1, 0, none⟩) := (hx 4 (by decide)).trans rfl
      exact wp_load_row 27 _ rfl (w.heap.size + 1) h0 _ _ (0, 0) _ (K.below hB q1.out) Try.underlying27 rfl info_addrP (hK _ _ rfl (Below.refl _ _))
    | 1, _, ho =>
      obtain rfl := Option.some.inj ho
      have h0 : a'.eval (.tmp 5) = .pointer (some ⟨w.heap.size + 2, 0, none⟩) := (hx 5 (by decide)).trans rfl
      exact wp_load_row 27 _ rfl (w.heap.size + 2) h0 _ _ (0, 0) _ (K.below hB q2.out) Try.underlying27 rfl info_addrP (hK _ _ rfl (Below.refl _ _))
    | 2, _, ho =>
      obtain rfl := Option.some.inj ho
      have h0 : a'.eval (.tmp 7) = .int .i64 58 := (hx 7 (by decide)).trans rfl
      exact u_move _ _ rfl h0 (hK _ _ rfl (Below.refl _ _))
    | 3, _, ho =>
      obtain rfl := Option.some.inj ho
      have h0 : a'.eval (.tmp 3) = .pointer (some ⟨w.heap.size, 0, none⟩) := (hx 3 (by decide)).trans rfl
      exact wp_load_row 36 _ rfl (w.heap.size) h0 _ _ (0, 0) _ (K.below hB q0.out) Try.underlying36 rfl info_up (hK _ _ rfl (Below.refl _ _))
    | 4, _, ho =>
      obtain rfl := Option.some.inj ho
      have h0 : a'.eval (.tmp 23) = .agg #[.int .i64 3, .int .i64 sport, .int .i64 dport, .int .i64 seq, .int .i64 ack, .int .i64 bits, .int .i64 window, .int .i64 urgent, .int .i64 ty, .int .i64 code, .int .i64 rest, .bool nosum, .slice A n c, .slice D m d] := (owns_of hnd 3 23 (by kernel_rfl) :)
      refine u_upSizeI _ _ _ rfl h0 (Calls.mono (implUpSize (Uh.mk 3 sport dport seq ack bits window urgent ty code rest nosum) A D n c m d v (by omega) (by omega)) ?_)
      rintro e' v' ⟨rfl, b6⟩
      exact ⟨_, rfl, hK _ _ rfl b6⟩
    | 5, _, ho =>
      obtain rfl := Option.some.inj ho
      have h0 : a'.eval (.tmp 20) = .agg #[.int .i64 (Ad.mk 6 sa sb sc sd).k, .int .i64 (Ad.mk 6 sa sb sc sd).a, .int .i64 (Ad.mk 6 sa sb sc sd).b, .int .i64 (Ad.mk 6 sa sb sc sd).c, .int .i64 (Ad.mk 6 sa sb sc sd).d] := (owns_of hnd 0 20 (by kernel_rfl) :)
      have h1 : a'.eval (.tmp 21) = .agg #[.int .i64 t.k, .int .i64 t.a, .int .i64 t.b, .int .i64 t.c, .int .i64 t.d] := (owns_of hnd 1 21 (by kernel_rfl) :)
      have h2 : a'.eval (.tmp 22) = .int .i64 58 := (owns_of hnd 2 22 (by kernel_rfl) :)
      have h3 : a'.eval (.tmp 24) = .int .i64 (8 + (m : Int)) := (owns_of hnd 4 24 (by kernel_rfl) :)
      refine u_psI4 _ _ _ _ _ _ _ _ _ rfl h0 h1 h2 h3 (Calls.mono (psI (Ad.mk 6 sa sb sc sd) t 58 (8 + (m : Int)) v) ?_)
      rintro e' v' ⟨rfl, b6⟩
      exact ⟨_, rfl, hK _ _ rfl b6⟩
    | j + 6, hj, _ => omega
  · intro f v hf hB
    have e0 : f 0 = (.agg #[.int .i64 (Ad.mk 6 sa sb sc sd).k, .int .i64 (Ad.mk 6 sa sb sc sd).a, .int .i64 (Ad.mk 6 sa sb sc sd).b, .int .i64 (Ad.mk 6 sa sb sc sd).c, .int .i64 (Ad.mk 6 sa sb sc sd).d]) := hf (0, 20) (by decide)
    have e1 : f 1 = (.agg #[.int .i64 t.k, .int .i64 t.a, .int .i64 t.b, .int .i64 t.c, .int .i64 t.d]) := hf (1, 21) (by decide)
    have e2 : f 2 = (.int .i64 58) := hf (2, 22) (by decide)
    have e3 : f 3 = (.agg #[.int .i64 3, .int .i64 sport, .int .i64 dport, .int .i64 seq, .int .i64 ack, .int .i64 bits, .int .i64 window, .int .i64 urgent, .int .i64 ty, .int .i64 code, .int .i64 rest, .bool nosum, .slice A n c, .slice D m d]) := hf (3, 23) (by decide)
    have e4 : f 4 = (.int .i64 (8 + (m : Int))) := hf (4, 24) (by decide)
    have e5 : f 5 = (.int .i64 (psSum (Ad.mk 6 sa sb sc sd) t 58 (8 + (m : Int)))) := hf (5, 25) (by decide)
    simp only [List.foldl_cons, List.foldl_nil, List.drop_succ_cons, List.drop_zero, e0, e1, e2, e3, e4, e5]
    clear e0 e1 e2 e3 e4 e5 hf
    go_simp
    have B1 := Lib.hid (bthen HB.out hB)
    clear hB
    go_wp2
    go_ret
    exact ⟨rfl, B1.out⟩

theorem pseudoC (x : Uh) (s t : Ad) (A D : Option Addr) (n c m d : Nat) (w : World) (hn : n ≤ 40) (hm : m ≤ 1500) (hk : x.kind = 1 ∨ x.kind = 2 ∨ x.kind = 3) (hs : s.k = 4 ∨ s.k = 6) : Calls Try.prog 68 #[.agg #[.int .i64 x.kind, .int .i64 x.sport, .int .i64 x.dport, .int .i64 x.seq, .int .i64 x.ack, .int .i64 x.bits, .int .i64 x.window, .int .i64 x.urgent, .int .i64 x.ty, .int .i64 x.code, .int .i64 x.rest, .bool x.nosum, .slice A n c, .slice D m d], .agg #[.int .i64 s.k, .int .i64 s.a, .int .i64 s.b, .int .i64 s.c, .int .i64 s.d], .agg #[.int .i64 t.k, .int .i64 t.a, .int .i64 t.b, .int .i64 t.c, .int .i64 t.d]] w fun e w' => e = .returned (.int .i64 (x.top n m s t)) ∧ Below w.heap.size w w' := by
  obtain ⟨kind, sport, dport, seq, ack, bits, window, urgent, ty, code, rest, nosum⟩ := x
  try simp only at hk
  rcases hk with rfl | rfl | rfl
  · exact pseudo1 sport dport seq ack bits window urgent ty code rest nosum s t A D n c m d w hn hm
  · exact pseudo2 sport dport seq ack bits window urgent ty code rest nosum s t A D n c m d w hn hm
  · rcases hs with h | h
    · exact (pseudo3_4 sport dport seq ack bits window urgent ty code rest nosum s t A D n c m d w h).mono fun _ _ ⟨he, hb⟩ => ⟨he.trans (ret_int (by simp [Uh.top, h])), hb⟩
    · obtain ⟨sk, sa, sb, sc, sd⟩ := s
      try simp only at h
      subst h
      exact pseudo3_6 sport dport seq ack bits window urgent ty code rest nosum sa sb sc sd t A D n c m d w hn hm
end Go.Proofs.Ythogonpjkngpjaa

namespace Go.Proofs.Ythogonpjkngpjaa
set_option maxRecDepth 100000
open Go.RowKit

set_option maxHeartbeats 4000000 in
theorem usI_no1 (x : Uh) (s t : Ad) (A D : Option Addr) (n c m d : Nat) (os bs : List UInt8) (w : World) (hp : pairA s t = false) : Calls Try.prog 27 #[.agg #[.int .i64 x.kind, .int .i64 x.sport, .int .i64 x.dport, .int .i64 x.seq, .int .i64 x.ack, .int .i64 x.bits, .int .i64 x.window, .int .i64 x.urgent, .int .i64 x.ty, .int .i64 x.code, .int .i64 x.rest, .bool x.nosum, .slice A n c, .slice D m d], .agg #[.int .i64 s.k, .int .i64 s.a, .int .i64 s.b, .int .i64 s.c, .int .i64 s.d], .agg #[.int .i64 t.k, .int .i64 t.a, .int .i64 t.b, .int .i64 t.c, .int .i64 t.d]] w fun e w' => e = .returned (.int .i64 (Uh.sum x os bs s t)) ∧ Below w.heap.size w w' := by
  have HP := Lib.hid hp
  have HR := Lib.hid (Uh.sum_no (x := x) (o := os) (bs := bs) (a := s) (b := t) (by simp [hp]))
  clear hp
  have q0 : Hid ((((w.alloc (.cells #[.int .i64 x.kind, .int .i64 x.sport, .int .i64 x.dport, .int .i64 x.seq, .int .i64 x.ack, .int .i64 x.bits, .int .i64 x.window, .int .i64 x.urgent, .int .i64 x.ty, .int .i64 x.code, .int .i64 x.rest, .bool x.nosum, .slice A n c, .slice D m d] 36)).alloc (.cells #[.int .i64 s.k, .int .i64 s.a, .int .i64 s.b, .int .i64 s.c, .int .i64 s.d] 27)).alloc (.cells #[.int .i64 t.k, .int .i64 t.a, .int .i64 t.b, .int .i64 t.c, .int .i64 t.d] 27)).heap[w.heap.size]? = some (.cells #[.int .i64 x.kind, .int .i64 x.sport, .int .i64 x.dport, .int .i64 x.seq, .int .i64 x.ack, .int .i64 x.bits, .int .i64 x.window, .int .i64 x.urgent, .int .i64 x.ty, .int .i64 x.code, .int .i64 x.rest, .bool x.nosum, .slice A n c, .slice D m d] 36)) := Lib.hid (by repeat (first | exact K.newAt (by first | rfl | (simp; done)) | refine K.oldAt (by first | (simp; done) | (simp; omega)) ?_))
  have q1 : Hid ((((w.alloc (.cells #[.int .i64 x.kind, .int .i64 x.sport, .int .i64 x.dport, .int .i64 x.seq, .int .i64 x.ack, .int .i64 x.bits, .int .i64 x.window, .int .i64 x.urgent, .int .i64 x.ty, .int .i64 x.code, .int .i64 x.rest, .bool x.nosum, .slice A n c, .slice D m d] 36)).alloc (.cells #[.int .i64 s.k, .int .i64 s.a, .int .i64 s.b, .int .i64 s.c, .int .i64 s.d] 27)).alloc (.cells #[.int .i64 t.k, .int .i64 t.a, .int .i64 t.b, .int .i64 t.c, .int .i64 t.d] 27)).heap[w.heap.size + 1]? = some (.cells #[.int .i64 s.k, .int .i64 s.a, .int .i64 s.b, .int .i64 s.c, .int .i64 s.d] 27)) := Lib.hid (by repeat (first | exact K.newAt (by first | rfl | (simp; done)) | refine K.oldAt (by first | (simp; done) | (simp; omega)) ?_))
  have q2 : Hid ((((w.alloc (.cells #[.int .i64 x.kind, .int .i64 x.sport, .int .i64 x.dport, .int .i64 x.seq, .int .i64 x.ack, .int .i64 x.bits, .int .i64 x.window, .int .i64 x.urgent, .int .i64 x.ty, .int .i64 x.code, .int .i64 x.rest, .bool x.nosum, .slice A n c, .slice D m d] 36)).alloc (.cells #[.int .i64 s.k, .int .i64 s.a, .int .i64 s.b, .int .i64 s.c, .int .i64 s.d] 27)).alloc (.cells #[.int .i64 t.k, .int .i64 t.a, .int .i64 t.b, .int .i64 t.c, .int .i64 t.d] 27)).heap[w.heap.size + 1 + 1]? = some (.cells #[.int .i64 t.k, .int .i64 t.a, .int .i64 t.b, .int .i64 t.c, .int .i64 t.d] 27)) := Lib.hid (by repeat (first | exact K.newAt (by first | rfl | (simp; done)) | refine K.oldAt (by first | (simp; done) | (simp; omega)) ?_))
  (try simp only at q0 q1 q2)
  have HB : Hid (Below w.heap.size w (((w.alloc (.cells #[.int .i64 x.kind, .int .i64 x.sport, .int .i64 x.dport, .int .i64 x.seq, .int .i64 x.ack, .int .i64 x.bits, .int .i64 x.window, .int .i64 x.urgent, .int .i64 x.ty, .int .i64 x.code, .int .i64 x.rest, .bool x.nosum, .slice A n c, .slice D m d] 36)).alloc (.cells #[.int .i64 s.k, .int .i64 s.a, .int .i64 s.b, .int .i64 s.c, .int .i64 s.d] 27)).alloc (.cells #[.int .i64 t.k, .int .i64 t.a, .int .i64 t.b, .int .i64 t.c, .int .i64 t.d] 27))) := Lib.hid (by go_grown)
  (try simp only at HB)
  go_enter Try.func27, Try.ntmps27
  go_wp2_with (first | (with_reducible refine loadA rfl _ rfl (w.heap.size + 1) rfl q1.out ?_) | (with_reducible refine loadA rfl _ rfl (w.heap.size + 2) rfl q2.out ?_))
  refine Calls.mono (pairIB s t false HP.out _) ?_
  rintro e w1 ⟨rfl, b1⟩
  have B1 := Lib.hid (bthen HB.out b1)
  have p0 := Lib.hid (K.below b1 q0.out)
  have p1 := Lib.hid (K.below b1 q1.out)
  have p2 := Lib.hid (K.below b1 q2.out)
  clear b1 q0 q1 q2 HB
  go_wp2
  go_ret
  exact ⟨ret_int HR.out.symm, B1.out⟩

set_option maxHeartbeats 4000000 in
theorem usI_no2 (x : Uh) (s t : Ad) (A D : Option Addr) (n c m d : Nat) (os bs : List UInt8) (w : World) (hl : os.length = n) (hm : bs.length = m) (hp : pairA s t = true) (hk : x.ok s.k n m = false) (hn : n ≤ 1048576) (hm2 : m ≤ 1048576) : Calls Try.prog 27 #[.agg #[.int .i64 x.kind, .int .i64 x.sport, .int .i64 x.dport, .int .i64 x.seq, .int .i64 x.ack, .int .i64 x.bits, .int .i64 x.window, .int .i64 x.urgent, .int .i64 x.ty, .int .i64 x.code, .int .i64 x.rest, .bool x.nosum, .slice A n c, .slice D m d], .agg #[.int .i64 s.k, .int .i64 s.a, .int .i64 s.b, .int .i64 s.c, .int .i64 s.d], .agg #[.int .i64 t.k, .int .i64 t.a, .int .i64 t.b, .int .i64 t.c, .int .i64 t.d]] w fun e w' => e = .returned (.int .i64 (Uh.sum x os bs s t)) ∧ Below w.heap.size w w' := by
  have HP := Lib.hid hp
  have HK := Lib.hid hk
  have HR := Lib.hid (Uh.sum_no (x := x) (o := os) (bs := bs) (a := s) (b := t) (by rw [hl, hm, hk]; simp))
  clear hp hk hl hm
  have q0 : Hid ((((w.alloc (.cells #[.int .i64 x.kind, .int .i64 x.sport, .int .i64 x.dport, .int .i64 x.seq, .int .i64 x.ack, .int .i64 x.bits, .int .i64 x.window, .int .i64 x.urgent, .int .i64 x.ty, .int .i64 x.code, .int .i64 x.rest, .bool x.nosum, .slice A n c, .slice D m d] 36)).alloc (.cells #[.int .i64 s.k, .int .i64 s.a, .int .i64 s.b, .int .i64 s.c, .int .i64 s.d] 27)).alloc (.cells #[.int .i64 t.k, .int .i64 t.a, .int .i64 t.b, .int .i64 t.c, .int .i64 t.d] 27)).heap[w.heap.size]? = some (.cells #[.int .i64 x.kind, .int .i64 x.sport, .int .i64 x.dport, .int .i64 x.seq, .int .i64 x.ack, .int .i64 x.bits, .int .i64 x.window, .int .i64 x.urgent, .int .i64 x.ty, .int .i64 x.code, .int .i64 x.rest, .bool x.nosum, .slice A n c, .slice D m d] 36)) := Lib.hid (by repeat (first | exact K.newAt (by first | rfl | (simp; done)) | refine K.oldAt (by first | (simp; done) | (simp; omega)) ?_))
  have q1 : Hid ((((w.alloc (.cells #[.int .i64 x.kind, .int .i64 x.sport, .int .i64 x.dport, .int .i64 x.seq, .int .i64 x.ack, .int .i64 x.bits, .int .i64 x.window, .int .i64 x.urgent, .int .i64 x.ty, .int .i64 x.code, .int .i64 x.rest, .bool x.nosum, .slice A n c, .slice D m d] 36)).alloc (.cells #[.int .i64 s.k, .int .i64 s.a, .int .i64 s.b, .int .i64 s.c, .int .i64 s.d] 27)).alloc (.cells #[.int .i64 t.k, .int .i64 t.a, .int .i64 t.b, .int .i64 t.c, .int .i64 t.d] 27)).heap[w.heap.size + 1]? = some (.cells #[.int .i64 s.k, .int .i64 s.a, .int .i64 s.b, .int .i64 s.c, .int .i64 s.d] 27)) := Lib.hid (by repeat (first | exact K.newAt (by first | rfl | (simp; done)) | refine K.oldAt (by first | (simp; done) | (simp; omega)) ?_))
  have q2 : Hid ((((w.alloc (.cells #[.int .i64 x.kind, .int .i64 x.sport, .int .i64 x.dport, .int .i64 x.seq, .int .i64 x.ack, .int .i64 x.bits, .int .i64 x.window, .int .i64 x.urgent, .int .i64 x.ty, .int .i64 x.code, .int .i64 x.rest, .bool x.nosum, .slice A n c, .slice D m d] 36)).alloc (.cells #[.int .i64 s.k, .int .i64 s.a, .int .i64 s.b, .int .i64 s.c, .int .i64 s.d] 27)).alloc (.cells #[.int .i64 t.k, .int .i64 t.a, .int .i64 t.b, .int .i64 t.c, .int .i64 t.d] 27)).heap[w.heap.size + 1 + 1]? = some (.cells #[.int .i64 t.k, .int .i64 t.a, .int .i64 t.b, .int .i64 t.c, .int .i64 t.d] 27)) := Lib.hid (by repeat (first | exact K.newAt (by first | rfl | (simp; done)) | refine K.oldAt (by first | (simp; done) | (simp; omega)) ?_))
  (try simp only at q0 q1 q2)
  have HB : Hid (Below w.heap.size w (((w.alloc (.cells #[.int .i64 x.kind, .int .i64 x.sport, .int .i64 x.dport, .int .i64 x.seq, .int .i64 x.ack, .int .i64 x.bits, .int .i64 x.window, .int .i64 x.urgent, .int .i64 x.ty, .int .i64 x.code, .int .i64 x.rest, .bool x.nosum, .slice A n c, .slice D m d] 36)).alloc (.cells #[.int .i64 s.k, .int .i64 s.a, .int .i64 s.b, .int .i64 s.c, .int .i64 s.d] 27)).alloc (.cells #[.int .i64 t.k, .int .i64 t.a, .int .i64 t.b, .int .i64 t.c, .int .i64 t.d] 27))) := Lib.hid (by go_grown)
  (try simp only at HB)
  go_enter Try.func27, Try.ntmps27
  go_wp2_with (first | (with_reducible refine loadA rfl _ rfl (w.heap.size + 1) rfl q1.out ?_) | (with_reducible refine loadA rfl _ rfl (w.heap.size + 2) rfl q2.out ?_))
  refine Calls.mono (pairIB s t true HP.out _) ?_
  rintro e w1 ⟨rfl, b1⟩
  have B1 := Lib.hid (bthen HB.out b1)
  have p0 := Lib.hid (K.below b1 q0.out)
  have p1 := Lib.hid (K.below b1 q1.out)
  have p2 := Lib.hid (K.below b1 q2.out)
  clear b1 q0 q1 q2 HB
  obtain ⟨c_0, c_1, c_2, c_3, c_4, c_5, c_6, c_7, c_8, c_9, c_10, c_11, c_12, c_13⟩ := K.cells14 p0.out
  have d_0 := K.cell p1.out 0 _ rfl
  go_wp2_with fail
  clear c_0 c_1 c_2 c_3 c_4 c_5 c_6 c_7 c_8 c_9 c_10 c_11 c_12 c_13
  clear d_0
  refine Calls.mono (okIB x A D n c m d s.k false HK.out hn hm2 _) ?_
  rintro e w2 ⟨rfl, b2⟩
  have B2 := Lib.hid (bthen B1.out b2)
  have r0 := Lib.hid (K.below b2 p0.out)
  have r1 := Lib.hid (K.below b2 p1.out)
  have r2 := Lib.hid (K.below b2 p2.out)
  clear b2 p0 p1 p2 B1
  go_wp2
  go_ret
  exact ⟨ret_int HR.out.symm, B2.out⟩

set_option maxHeartbeats 4000000 in
theorem usI_z0 (sport dport seq ack bits window urgent ty code rest : Int) (nosum : Bool) (s t : Ad) (A D : Option Addr) (n c m d : Nat) (os bs : List UInt8) (w : World) (hl : os.length = n) (hm : bs.length = m) (hp : pairA s t = true) (hk : Uh.ok (Uh.mk 0 sport dport seq ack bits window urgent ty code rest nosum) s.k n m = true) (hn : n ≤ 1048576) (hm2 : m ≤ 1048576) : Calls Try.prog 27 #[.agg #[.int .i64 0, .int .i64 sport, .int .i64 dport, .int .i64 seq, .int .i64 ack, .int .i64 bits, .int .i64 window, .int .i64 urgent, .int .i64 ty, .int .i64 code, .int .i64 rest, .bool nosum, .slice A n c, .slice D m d], .agg #[.int .i64 s.k, .int .i64 s.a, .int .i64 s.b, .int .i64 s.c, .int .i64 s.d], .agg #[.int .i64 t.k, .int .i64 t.a, .int .i64 t.b, .int .i64 t.c, .int .i64 t.d]] w fun e w' => e = .returned (.int .i64 (Uh.sum (Uh.mk 0 sport dport seq ack bits window urgent ty code rest nosum) os bs s t)) ∧ Below w.heap.size w w' := by
  have HP := Lib.hid hp
  have HK := Lib.hid hk
  have HR := Lib.hid (Uh.sum_zero (x := (Uh.mk 0 sport dport seq ack bits window urgent ty code rest nosum)) (o := os) (bs := bs) (a := s) (b := t) (by rw [hl, hm, hk, hp]; rfl) (by simp))
  clear hp hk hl hm
  have q0 : Hid ((((w.alloc (.cells #[.int .i64 0, .int .i64 sport, .int .i64 dport, .int .i64 seq, .int .i64 ack, .int .i64 bits, .int .i64 window, .int .i64 urgent, .int .i64 ty, .int .i64 code, .int .i64 rest, .bool nosum, .slice A n c, .slice D m d] 36)).alloc (.cells #[.int .i64 s.k, .int .i64 s.a, .int .i64 s.b, .int .i64 s.c, .int .i64 s.d] 27)).alloc (.cells #[.int .i64 t.k, .int .i64 t.a, .int .i64 t.b, .int .i64 t.c, .int .i64 t.d] 27)).heap[w.heap.size]? = some (.cells #[.int .i64 0, .int .i64 sport, .int .i64 dport, .int .i64 seq, .int .i64 ack, .int .i64 bits, .int .i64 window, .int .i64 urgent, .int .i64 ty, .int .i64 code, .int .i64 rest, .bool nosum, .slice A n c, .slice D m d] 36)) := Lib.hid (by repeat (first | exact K.newAt (by first | rfl | (simp; done)) | refine K.oldAt (by first | (simp; done) | (simp; omega)) ?_))
  have q1 : Hid ((((w.alloc (.cells #[.int .i64 0, .int .i64 sport, .int .i64 dport, .int .i64 seq, .int .i64 ack, .int .i64 bits, .int .i64 window, .int .i64 urgent, .int .i64 ty, .int .i64 code, .int .i64 rest, .bool nosum, .slice A n c, .slice D m d] 36)).alloc (.cells #[.int .i64 s.k, .int .i64 s.a, .int .i64 s.b, .int .i64 s.c, .int .i64 s.d] 27)).alloc (.cells #[.int .i64 t.k, .int .i64 t.a, .int .i64 t.b, .int .i64 t.c, .int .i64 t.d] 27)).heap[w.heap.size + 1]? = some (.cells #[.int .i64 s.k, .int .i64 s.a, .int .i64 s.b, .int .i64 s.c, .int .i64 s.d] 27)) := Lib.hid (by repeat (first | exact K.newAt (by first | rfl | (simp; done)) | refine K.oldAt (by first | (simp; done) | (simp; omega)) ?_))
  have q2 : Hid ((((w.alloc (.cells #[.int .i64 0, .int .i64 sport, .int .i64 dport, .int .i64 seq, .int .i64 ack, .int .i64 bits, .int .i64 window, .int .i64 urgent, .int .i64 ty, .int .i64 code, .int .i64 rest, .bool nosum, .slice A n c, .slice D m d] 36)).alloc (.cells #[.int .i64 s.k, .int .i64 s.a, .int .i64 s.b, .int .i64 s.c, .int .i64 s.d] 27)).alloc (.cells #[.int .i64 t.k, .int .i64 t.a, .int .i64 t.b, .int .i64 t.c, .int .i64 t.d] 27)).heap[w.heap.size + 1 + 1]? = some (.cells #[.int .i64 t.k, .int .i64 t.a, .int .i64 t.b, .int .i64 t.c, .int .i64 t.d] 27)) := Lib.hid (by repeat (first | exact K.newAt (by first | rfl | (simp; done)) | refine K.oldAt (by first | (simp; done) | (simp; omega)) ?_))
  (try simp only at q0 q1 q2)
  have HB : Hid (Below w.heap.size w (((w.alloc (.cells #[.int .i64 0, .int .i64 sport, .int .i64 dport, .int .i64 seq, .int .i64 ack, .int .i64 bits, .int .i64 window, .int .i64 urgent, .int .i64 ty, .int .i64 code, .int .i64 rest, .bool nosum, .slice A n c, .slice D m d] 36)).alloc (.cells #[.int .i64 s.k, .int .i64 s.a, .int .i64 s.b, .int .i64 s.c, .int .i64 s.d] 27)).alloc (.cells #[.int .i64 t.k, .int .i64 t.a, .int .i64 t.b, .int .i64 t.c, .int .i64 t.d] 27))) := Lib.hid (by go_grown)
  (try simp only at HB)
  go_enter Try.func27, Try.ntmps27
  go_wp2_with (first | (with_reducible refine loadA rfl _ rfl (w.heap.size + 1) rfl q1.out ?_) | (with_reducible refine loadA rfl _ rfl (w.heap.size + 2) rfl q2.out ?_))
  refine Calls.mono (pairIB s t true HP.out _) ?_
  rintro e w1 ⟨rfl, b1⟩
  have B1 := Lib.hid (bthen HB.out b1)
  have p0 := Lib.hid (K.below b1 q0.out)
  have p1 := Lib.hid (K.below b1 q1.out)
  have p2 := Lib.hid (K.below b1 q2.out)
  clear b1 q0 q1 q2 HB
  obtain ⟨c_0, c_1, c_2, c_3, c_4, c_5, c_6, c_7, c_8, c_9, c_10, c_11, c_12, c_13⟩ := K.cells14 p0.out
  have d_0 := K.cell p1.out 0 _ rfl
  go_wp2_with fail
  clear c_0 c_1 c_2 c_3 c_4 c_5 c_6 c_7 c_8 c_9 c_10 c_11 c_12 c_13
  clear d_0
  refine Calls.mono (okIB (Uh.mk 0 sport dport seq ack bits window urgent ty code rest nosum) A D n c m d s.k true HK.out hn hm2 _) ?_
  rintro e w2 ⟨rfl, b2⟩
  have B2 := Lib.hid (bthen B1.out b2)
  have r0 := Lib.hid (K.below b2 p0.out)
  have r1 := Lib.hid (K.below b2 p1.out)
  have r2 := Lib.hid (K.below b2 p2.out)
  clear b2 p0 p1 p2 B1
  have e0 := K.cell r0.out 0 _ rfl
  go_wp2
  go_ret
  exact ⟨ret_int HR.out.symm, B2.out⟩

set_option maxHeartbeats 4000000 in
theorem usI_z1 (kind sport dport seq ack bits window urgent ty code rest : Int) (s t : Ad) (A D : Option Addr) (n c m d : Nat) (os bs : List UInt8) (w : World) (hl : os.length = n) (hm : bs.length = m) (hp : pairA s t = true) (hk : Uh.ok (Uh.mk kind sport dport seq ack bits window urgent ty code rest true) s.k n m = true) (k0 : ¬ kind = 0) (hn : n ≤ 1048576) (hm2 : m ≤ 1048576) : Calls Try.prog 27 #[.agg #[.int .i64 kind, .int .i64 sport, .int .i64 dport, .int .i64 seq, .int .i64 ack, .int .i64 bits, .int .i64 window, .int .i64 urgent, .int .i64 ty, .int .i64 code, .int .i64 rest, .bool true, .slice A n c, .slice D m d], .agg #[.int .i64 s.k, .int .i64 s.a, .int .i64 s.b, .int .i64 s.c, .int .i64 s.d], .agg #[.int .i64 t.k, .int .i64 t.a, .int .i64 t.b, .int .i64 t.c, .int .i64 t.d]] w fun e w' => e = .returned (.int .i64 (Uh.sum (Uh.mk kind sport dport seq ack bits window urgent ty code rest true) os bs s t)) ∧ Below w.heap.size w w' := by
  have HP := Lib.hid hp
  have HK := Lib.hid hk
  have HR := Lib.hid (Uh.sum_zero (x := (Uh.mk kind sport dport seq ack bits window urgent ty code rest true)) (o := os) (bs := bs) (a := s) (b := t) (by rw [hl, hm, hk, hp]; rfl) (by simp))
  clear hp hk hl hm
  have q0 : Hid ((((w.alloc (.cells #[.int .i64 kind, .int .i64 sport, .int .i64 dport, .int .i64 seq, .int .i64 ack, .int .i64 bits, .int .i64 window, .int .i64 urgent, .int .i64 ty, .int .i64 code, .int .i64 rest, .bool true, .slice A n c, .slice D m d] 36)).alloc (.cells #[.int .i64 s.k, .int .i64 s.a, .int .i64 s.b, .int .i64 s.c, .int .i64 s.d] 27)).alloc (.cells #[.int .i64 t.k, .int .i64 t.a, .int .i64 t.b, .int .i64 t.c, .int .i64 t.d] 27)).heap[w.heap.size]? = some (.cells #[.int .i64 kind, .int .i64 sport, .int .i64 dport, .int .i64 seq, .int .i64 ack, .int .i64 bits, .int .i64 window, .int .i64 urgent, .int .i64 ty, .int .i64 code, .int .i64 rest, .bool true, .slice A n c, .slice D m d] 36)) := Lib.hid (by repeat (first | exact K.newAt (by first | rfl | (simp; done)) | refine K.oldAt (by first | (simp; done) | (simp; omega)) ?_))
  have q1 : Hid ((((w.alloc (.cells #[.int .i64 kind, .int .i64 sport, .int .i64 dport, .int .i64 seq, .int .i64 ack, .int .i64 bits, .int .i64 window, .int .i64 urgent, .int .i64 ty, .int .i64 code, .int .i64 rest, .bool true, .slice A n c, .slice D m d] 36)).alloc (.cells #[.int .i64 s.k, .int .i64 s.a, .int .i64 s.b, .int .i64 s.c, .int .i64 s.d] 27)).alloc (.cells #[.int .i64 t.k, .int .i64 t.a, .int .i64 t.b, .int .i64 t.c, .int .i64 t.d] 27)).heap[w.heap.size + 1]? = some (.cells #[.int .i64 s.k, .int .i64 s.a, .int .i64 s.b, .int .i64 s.c, .int .i64 s.d] 27)) := Lib.hid (by repeat (first | exact K.newAt (by first | rfl | (simp; done)) | refine K.oldAt (by first | (simp; done) | (simp; omega)) ?_))
  have q2 : Hid ((((w.alloc (.cells #[.int .i64 kind, .int .i64 sport, .int .i64 dport, .int .i64 seq, .int .i64 ack, .int .i64 bits, .int .i64 window, .int .i64 urgent, .int .i64 ty, .int .i64 code, .int .i64 rest, .bool true, .slice A n c, .slice D m d] 36)).alloc (.cells #[.int .i64 s.k, .int .i64 s.a, .int .i64 s.b, .int .i64 s.c, .int .i64 s.d] 27)).alloc (.cells #[.int .i64 t.k, .int .i64 t.a, .int .i64 t.b, .int .i64 t.c, .int .i64 t.d] 27)).heap[w.heap.size + 1 + 1]? = some (.cells #[.int .i64 t.k, .int .i64 t.a, .int .i64 t.b, .int .i64 t.c, .int .i64 t.d] 27)) := Lib.hid (by repeat (first | exact K.newAt (by first | rfl | (simp; done)) | refine K.oldAt (by first | (simp; done) | (simp; omega)) ?_))
  (try simp only at q0 q1 q2)
  have HB : Hid (Below w.heap.size w (((w.alloc (.cells #[.int .i64 kind, .int .i64 sport, .int .i64 dport, .int .i64 seq, .int .i64 ack, .int .i64 bits, .int .i64 window, .int .i64 urgent, .int .i64 ty, .int .i64 code, .int .i64 rest, .bool true, .slice A n c, .slice D m d] 36)).alloc (.cells #[.int .i64 s.k, .int .i64 s.a, .int .i64 s.b, .int .i64 s.c, .int .i64 s.d] 27)).alloc (.cells #[.int .i64 t.k, .int .i64 t.a, .int .i64 t.b, .int .i64 t.c, .int .i64 t.d] 27))) := Lib.hid (by go_grown)
  (try simp only at HB)
  go_enter Try.func27, Try.ntmps27
  go_wp2_with (first | (with_reducible refine loadA rfl _ rfl (w.heap.size + 1) rfl q1.out ?_) | (with_reducible refine loadA rfl _ rfl (w.heap.size + 2) rfl q2.out ?_))
  refine Calls.mono (pairIB s t true HP.out _) ?_
  rintro e w1 ⟨rfl, b1⟩
  have B1 := Lib.hid (bthen HB.out b1)
  have p0 := Lib.hid (K.below b1 q0.out)
  have p1 := Lib.hid (K.below b1 q1.out)
  have p2 := Lib.hid (K.below b1 q2.out)
  clear b1 q0 q1 q2 HB
  obtain ⟨c_0, c_1, c_2, c_3, c_4, c_5, c_6, c_7, c_8, c_9, c_10, c_11, c_12, c_13⟩ := K.cells14 p0.out
  have d_0 := K.cell p1.out 0 _ rfl
  go_wp2_with fail
  clear c_0 c_1 c_2 c_3 c_4 c_5 c_6 c_7 c_8 c_9 c_10 c_11 c_12 c_13
  clear d_0
  refine Calls.mono (okIB (Uh.mk kind sport dport seq ack bits window urgent ty code rest true) A D n c m d s.k true HK.out hn hm2 _) ?_
  rintro e w2 ⟨rfl, b2⟩
  have B2 := Lib.hid (bthen B1.out b2)
  have r0 := Lib.hid (K.below b2 p0.out)
  have r1 := Lib.hid (K.below b2 p1.out)
  have r2 := Lib.hid (K.below b2 p2.out)
  clear b2 p0 p1 p2 B1
  have e0 := K.cell r0.out 0 _ rfl
  have e1 := K.cell r0.out 11 _ rfl
  go_wp2
  go_ret
  exact ⟨ret_int HR.out.symm, B2.out⟩

set_option maxHeartbeats 4000000 in
theorem usI_y1 (sport dport seq ack bits window urgent ty code rest : Int) (s t : Ad) (A D : Option Addr) (n c m d : Nat) (os bs : List UInt8) (w : World) (hr : RB w w.heap.size A os) (hl : os.length = n) (hs : RB w w.heap.size D bs) (hm : bs.length = m) (hp : pairA s t = true) (hk : Uh.ok (Uh.mk 1 sport dport seq ack bits window urgent ty code rest false) s.k n m = true) : Calls Try.prog 27 #[.agg #[.int .i64 1, .int .i64 sport, .int .i64 dport, .int .i64 seq, .int .i64 ack, .int .i64 bits, .int .i64 window, .int .i64 urgent, .int .i64 ty, .int .i64 code, .int .i64 rest, .bool false, .slice A n c, .slice D m d], .agg #[.int .i64 s.k, .int .i64 s.a, .int .i64 s.b, .int .i64 s.c, .int .i64 s.d], .agg #[.int .i64 t.k, .int .i64 t.a, .int .i64 t.b, .int .i64 t.c, .int .i64 t.d]] w fun e w' => e = .returned (.int .i64 (Uh.sum (Uh.mk 1 sport dport seq ack bits window urgent ty code rest false) os bs s t)) ∧ Below w.heap.size w w' := by
  have HP := Lib.hid hp
  have HK := Lib.hid hk
  obtain ⟨hn, _, hm3, hz0, hz1⟩ := Uh.ok_room hk
  have hm2 : m ≤ 1048576 := by omega
  have hn4 : n ≤ 40 := hn
  replace hn : n ≤ 1048576 := by omega
  have hsk2 : s.k = 4 ∨ s.k = 6 := by have := (Uh.ok_facts hk).1; simpa [kindB] using this
  have HW1 := Lib.hid (Uh.top_word hp hk)
  have HW2 : Hid (isWord (onesSum (Uh.enc (Uh.mk 1 sport dport seq ack bits window urgent ty code rest false) os bs 0)) = true) := Lib.hid (Uh.enc_word (x := (Uh.mk 1 sport dport seq ack bits window urgent ty code rest false)) (k := s.k) (o := os) (bs := bs) (by rw [hl, hm]; exact hk) 0)
  have HR := Lib.hid (Uh.sum_yes (x := (Uh.mk 1 sport dport seq ack bits window urgent ty code rest false)) (o := os) (bs := bs) (a := s) (b := t) (by rw [hl, hm, hk, hp]; rfl) (by simp))
  rw [hl, hm] at HR
  have HLE := Lib.hid (Uh.enc_len (Uh.mk 1 sport dport seq ack bits window urgent ty code rest false) os bs 0 (by simp))
  rw [hl, hm] at HLE
  have HA := Lib.hid hr
  have HD := Lib.hid hs
  have HL := Lib.hid hl
  have HM := Lib.hid hm
  have hsz : Uh.size (Uh.mk 1 sport dport seq ack bits window urgent ty code rest false) n m = 20 + (n : Int) + m := rfl
  rw [hsz] at hz0 hz1 HLE
  have HS := Lib.hid (And.intro hz0 hz1)
  obtain ⟨L, hL⟩ : ∃ L, Uh.enc (Uh.mk 1 sport dport seq ack bits window urgent ty code rest false) os bs 0 = L := ⟨_, rfl⟩
  rw [hL] at HW2 HR HLE
  have HEN := Lib.hid hL
  obtain ⟨T, hT⟩ : ∃ T, Uh.top (Uh.mk 1 sport dport seq ack bits window urgent ty code rest false) n m s t = T := ⟨_, rfl⟩
  rw [hT] at HW1 HR
  have HTT := Lib.hid hT
  obtain ⟨O, hO⟩ : ∃ O, onesSum L = O := ⟨_, rfl⟩
  rw [hO] at HW2 HR
  have HO := Lib.hid hO
  have HSK := Lib.hid hsk2
  clear hp hk hl hm hr hs hz0 hz1 hsz hL hT hO hsk2
  have q0 : Hid ((((w.alloc (.cells #[.int .i64 1, .int .i64 sport, .int .i64 dport, .int .i64 seq, .int .i64 ack, .int .i64 bits, .int .i64 window, .int .i64 urgent, .int .i64 ty, .int .i64 code, .int .i64 rest, .bool false, .slice A n c, .slice D m d] 36)).alloc (.cells #[.int .i64 s.k, .int .i64 s.a, .int .i64 s.b, .int .i64 s.c, .int .i64 s.d] 27)).alloc (.cells #[.int .i64 t.k, .int .i64 t.a, .int .i64 t.b, .int .i64 t.c, .int .i64 t.d] 27)).heap[w.heap.size]? = some (.cells #[.int .i64 1, .int .i64 sport, .int .i64 dport, .int .i64 seq, .int .i64 ack, .int .i64 bits, .int .i64 window, .int .i64 urgent, .int .i64 ty, .int .i64 code, .int .i64 rest, .bool false, .slice A n c, .slice D m d] 36)) := Lib.hid (by repeat (first | exact K.newAt (by first | rfl | (simp; done)) | refine K.oldAt (by first | (simp; done) | (simp; omega)) ?_))
  have q1 : Hid ((((w.alloc (.cells #[.int .i64 1, .int .i64 sport, .int .i64 dport, .int .i64 seq, .int .i64 ack, .int .i64 bits, .int .i64 window, .int .i64 urgent, .int .i64 ty, .int .i64 code, .int .i64 rest, .bool false, .slice A n c, .slice D m d] 36)).alloc (.cells #[.int .i64 s.k, .int .i64 s.a, .int .i64 s.b, .int .i64 s.c, .int .i64 s.d] 27)).alloc (.cells #[.int .i64 t.k, .int .i64 t.a, .int .i64 t.b, .int .i64 t.c, .int .i64 t.d] 27)).heap[w.heap.size + 1]? = some (.cells #[.int .i64 s.k, .int .i64 s.a, .int .i64 s.b, .int .i64 s.c, .int .i64 s.d] 27)) := Lib.hid (by repeat (first | exact K.newAt (by first | rfl | (simp; done)) | refine K.oldAt (by first | (simp; done) | (simp; omega)) ?_))
  have q2 : Hid ((((w.alloc (.cells #[.int .i64 1, .int .i64 sport, .int .i64 dport, .int .i64 seq, .int .i64 ack, .int .i64 bits, .int .i64 window, .int .i64 urgent, .int .i64 ty, .int .i64 code, .int .i64 rest, .bool false, .slice A n c, .slice D m d] 36)).alloc (.cells #[.int .i64 s.k, .int .i64 s.a, .int .i64 s.b, .int .i64 s.c, .int .i64 s.d] 27)).alloc (.cells #[.int .i64 t.k, .int .i64 t.a, .int .i64 t.b, .int .i64 t.c, .int .i64 t.d] 27)).heap[w.heap.size + 1 + 1]? = some (.cells #[.int .i64 t.k, .int .i64 t.a, .int .i64 t.b, .int .i64 t.c, .int .i64 t.d] 27)) := Lib.hid (by repeat (first | exact K.newAt (by first | rfl | (simp; done)) | refine K.oldAt (by first | (simp; done) | (simp; omega)) ?_))
  (try simp only at q0 q1 q2)
  have HB : Hid (Below w.heap.size w (((w.alloc (.cells #[.int .i64 1, .int .i64 sport, .int .i64 dport, .int .i64 seq, .int .i64 ack, .int .i64 bits, .int .i64 window, .int .i64 urgent, .int .i64 ty, .int .i64 code, .int .i64 rest, .bool false, .slice A n c, .slice D m d] 36)).alloc (.cells #[.int .i64 s.k, .int .i64 s.a, .int .i64 s.b, .int .i64 s.c, .int .i64 s.d] 27)).alloc (.cells #[.int .i64 t.k, .int .i64 t.a, .int .i64 t.b, .int .i64 t.c, .int .i64 t.d] 27))) := Lib.hid (by go_grown)
  (try simp only at HB)
  go_enter Try.func27, Try.ntmps27
  go_wp2_with (first | (with_reducible refine loadA rfl _ rfl (w.heap.size + 1) rfl q1.out ?_) | (with_reducible refine loadA rfl _ rfl (w.heap.size + 2) rfl q2.out ?_))
  refine Calls.mono (pairIB s t true HP.out _) ?_
  rintro e w1 ⟨rfl, b1⟩
  have B1 := Lib.hid (bthen HB.out b1)
  have p0 := Lib.hid (K.below b1 q0.out)
  have p1 := Lib.hid (K.below b1 q1.out)
  have p2 := Lib.hid (K.below b1 q2.out)
  clear b1 q0 q1 q2 HB
  obtain ⟨c_0, c_1, c_2, c_3, c_4, c_5, c_6, c_7, c_8, c_9, c_10, c_11, c_12, c_13⟩ := K.cells14 p0.out
  have d_0 := K.cell p1.out 0 _ rfl
  go_wp2_with fail
  clear c_0 c_1 c_2 c_3 c_4 c_5 c_6 c_7 c_8 c_9 c_10 c_11 c_12 c_13
  clear d_0
  refine Calls.mono (okIB (Uh.mk 1 sport dport seq ack bits window urgent ty code rest false) A D n c m d s.k true HK.out hn hm2 _) ?_
  rintro e w2 ⟨rfl, b2⟩
  have B2 := Lib.hid (bthen B1.out b2)
  have r0 := Lib.hid (K.below b2 p0.out)
  have r1 := Lib.hid (K.below b2 p1.out)
  have r2 := Lib.hid (K.below b2 p2.out)
  clear b2 p0 p1 p2 B1
  have e0 := K.cell r0.out 0 _ rfl
  have e1 := K.cell r0.out 11 _ rfl
  go_wp2_with fail
  clear e0 e1
  refine wp_region_owns (by kernel_rfl) 7 44 [(0, 26), (1, 27), (2, 28), (3, 29), (4, 30), (5, 31), (6, 32)] _ ([.val (.agg #[.int .i64 1, .int .i64 sport, .int .i64 dport, .int .i64 seq, .int .i64 ack, .int .i64 bits, .int .i64 window, .int .i64 urgent, .int .i64 ty, .int .i64 code, .int .i64 rest, .bool false, .slice A n c, .slice D m d]), .val (.agg #[.int .i64 s.k, .int .i64 s.a, .int .i64 s.b, .int .i64 s.c, .int .i64 s.d]), .val (.agg #[.int .i64 t.k, .int .i64 t.a, .int .i64 t.b, .int .i64 t.c, .int .i64 t.d]), .val (.int .i64 T), .val (.agg #[.int .i64 1, .int .i64 sport, .int .i64 dport, .int .i64 seq, .int .i64 ack, .int .i64 bits, .int .i64 window, .int .i64 urgent, .int .i64 ty, .int .i64 code, .int .i64 rest, .bool false, .slice A n c, .slice D m d]), .rb L.length L, .val (.int .i64 O)]) (by kernel_rfl) (by kernel_rfl) rfl rfl ?_ ?_
  · intro j o hj ho a' v K' hx hnd hB hK
    match j, hj, ho with
    | 0, _, ho =>
      obtain rfl := Option.some.inj ho
      have h0 : a'.eval (.tmp 3) = .pointer (some ⟨w.heap.size, 0, none⟩) := (hx 3 (by decide)).trans rfl
      exact wp_load_row 36 _ rfl (w.heap.size) h0 _ _ (0, 0) _ (K.below hB r0.out) Try.underlying36 rfl info_up (hK _ _ rfl (Below.refl _ _))
    | 1, _, ho =>
      obtain rfl := Option.some.inj ho
      have h0 : a'.eval (.tmp 4) = .pointer (some ⟨w.heap.size + 1, 0, none⟩) := (hx 4 (by decide)).trans rfl
      exact wp_load_row 27 _ rfl (w.heap.size + 1) h0 _ _ (0, 0) _ (K.below hB r1.out) Try.underlying27 rfl info_addrP (hK _ _ rfl (Below.refl _ _))
    | 2, _, ho =>
      obtain rfl := Option.some.inj ho
      have h0 : a'.eval (.tmp 5) = .pointer (some ⟨w.heap.size + 2, 0, none⟩) := (hx 5 (by decide)).trans rfl
      exact wp_load_row 27 _ rfl (w.heap.size + 2) h0 _ _ (0, 0) _ (K.below hB r2.out) Try.underlying27 rfl info_addrP (hK _ _ rfl (Below.refl _ _))
    | 3, _, ho =>
      obtain rfl := Option.some.inj ho
      have h0 : a'.eval (.tmp 26) = .agg #[.int .i64 1, .int .i64 sport, .int .i64 dport, .int .i64 seq, .int .i64 ack, .int .i64 bits, .int .i64 window, .int .i64 urgent, .int .i64 ty, .int .i64 code, .int .i64 rest, .bool false, .slice A n c, .slice D m d] := (owns_of hnd 0 26 (by kernel_rfl) :)
      have h1 : a'.eval (.tmp 27) = .agg #[.int .i64 s.k, .int .i64 s.a, .int .i64 s.b, .int .i64 s.c, .int .i64 s.d] := (owns_of hnd 1 27 (by kernel_rfl) :)
      have h2 : a'.eval (.tmp 28) = .agg #[.int .i64 t.k, .int .i64 t.a, .int .i64 t.b, .int .i64 t.c, .int .i64 t.d] := (owns_of hnd 2 28 (by kernel_rfl) :)
      refine u_pseudoOf _ _ _ _ _ _ _ rfl h0 h1 h2 (Calls.mono (pseudoC (Uh.mk 1 sport dport seq ack bits window urgent ty code rest false) s t A D n c m d v hn4 (by omega) (by simp) HSK.out) ?_)
      rintro e' v' ⟨rfl, b6⟩
      exact ⟨_, rfl, hK _ _ (by rw [HTT.out]; rfl) b6⟩
    | 4, _, ho =>
      obtain rfl := Option.some.inj ho
      have h0 : a'.eval (.tmp 3) = .pointer (some ⟨w.heap.size, 0, none⟩) := (hx 3 (by decide)).trans rfl
      exact wp_load_row 36 _ rfl (w.heap.size) h0 _ _ (0, 0) _ (K.below hB r0.out) Try.underlying36 rfl info_up (hK _ _ rfl (Below.refl _ _))
    | 5, _, ho =>
      obtain rfl := Option.some.inj ho
      have h0 : a'.eval (.tmp 30) = .agg #[.int .i64 1, .int .i64 sport, .int .i64 dport, .int .i64 seq, .int .i64 ack, .int .i64 bits, .int .i64 window, .int .i64 urgent, .int .i64 ty, .int .i64 code, .int .i64 rest, .bool false, .slice A n c, .slice D m d] := (owns_of hnd 4 30 (by kernel_rfl) :)
      refine u_upBytesI _ _ _ _ _ rfl h0 rfl (Calls.mono (encI (Uh.mk 1 sport dport seq ack bits window urgent ty code rest false) s.k 0 A D n c m d os bs v ((HA.out.below (bthen B2.out hB)).more (bthen B2.out hB).size) HL.out ((HD.out.below (bthen B2.out hB)).more (bthen B2.out hB).size) HM.out HK.out) ?_)
      rintro e' v' ⟨X, y, rfl, o6, b6⟩
      rw [HEN.out] at o6 ⊢
      exact ⟨_, rfl, hK _ _ ⟨X, y, rfl, RB.of_own o6⟩ b6⟩
    | 6, _, ho =>
      obtain rfl := Option.some.inj ho
      obtain ⟨P0, p0, h0, r0'⟩ := (owns_of hnd 5 31 (by kernel_rfl) :)
      refine u_onesI _ _ _ rfl h0 (Calls.mono (implOnes P0 L.length p0 L v r0' rfl (by have := HLE.out; have := HS.out; omega)) ?_)
      rintro e' v' ⟨rfl, b6⟩
      exact ⟨_, rfl, hK _ _ (by rw [HO.out]; rfl) b6⟩
    | j + 7, hj, _ => omega
  · intro f v hf hB
    have e0 : f 0 = (.agg #[.int .i64 1, .int .i64 sport, .int .i64 dport, .int .i64 seq, .int .i64 ack, .int .i64 bits, .int .i64 window, .int .i64 urgent, .int .i64 ty, .int .i64 code, .int .i64 rest, .bool false, .slice A n c, .slice D m d]) := hf (0, 26) (by decide)
    have e1 : f 1 = (.agg #[.int .i64 s.k, .int .i64 s.a, .int .i64 s.b, .int .i64 s.c, .int .i64 s.d]) := hf (1, 27) (by decide)
    have e2 : f 2 = (.agg #[.int .i64 t.k, .int .i64 t.a, .int .i64 t.b, .int .i64 t.c, .int .i64 t.d]) := hf (2, 28) (by decide)
    have e3 : f 3 = (.int .i64 T) := hf (3, 29) (by decide)
    have e4 : f 4 = (.agg #[.int .i64 1, .int .i64 sport, .int .i64 dport, .int .i64 seq, .int .i64 ack, .int .i64 bits, .int .i64 window, .int .i64 urgent, .int .i64 ty, .int .i64 code, .int .i64 rest, .bool false, .slice A n c, .slice D m d]) := hf (4, 30) (by decide)
    obtain ⟨X31, y31, e5, r5⟩ := hf (5, 31) (by decide)
    have R31 := Lib.hid r5
    clear r5
    have e6 : f 6 = (.int .i64 O) := hf (6, 32) (by decide)
    simp only [List.foldl_cons, List.foldl_nil, List.drop_succ_cons, List.drop_zero, e0, e1, e2, e3, e4, e5, e6]
    clear e0 e1 e2 e3 e4 e5 e6 hf
    go_simp
    have B3 := Lib.hid (bthen (bthen B2.out hB) (Joins.below_alloc1 v (.cells #[.int .i64 T, .int .i64 O] 3)))
    have f0 := K.cell (K.old (K.below hB r0.out) (.cells #[.int .i64 T, .int .i64 O] 3)) 0 _ rfl
    clear hB R31
    go_wp2_with fail
    refine Calls.mono (foldedC (some ⟨v.heap.size, 0, none⟩) 2 2 [T, O] _ (by have h := RV.new v 3 (intsOf [T, O]); simpa [intsOf] using h) rfl (by omega)) ?_
    rintro e w4 ⟨rfl, rfl⟩
    rw [folded2 HW1.out HW2.out]
    have hcw := isWord_iff.1 (sadd_word HW1.out HW2.out)
    have HCP := Lib.hid (show comp (sadd T O) = 65535 - sadd T O by simp [comp, sadd_word HW1.out HW2.out])
    clear hcw
    go_wp2_with fail
    refine Calls.mono (compC (sadd T O) _) ?_
    rintro e w4 ⟨rfl, rfl⟩
    rw [HCP.out]
    have hw := isWord_iff.1 (sadd_word HW1.out HW2.out)
    have HU := Lib.hid (HR.out)
    generalize sadd T O = z at hw HU ⊢
    have HB9 := B3
    have HV := Lib.hid (show Uh.sum (Uh.mk 1 sport dport seq ack bits window urgent ty code rest false) os bs s t = 65535 - z by rw [HU.out]; simp [udp0])
    clear HU
    go_wp2
    go_ret
    exact ⟨ret_int HV.out.symm, HB9.out⟩

set_option maxHeartbeats 4000000 in
theorem usI_y2 (sport dport seq ack bits window urgent ty code rest : Int) (s t : Ad) (A D : Option Addr) (n c m d : Nat) (os bs : List UInt8) (w : World) (hr : RB w w.heap.size A os) (hl : os.length = n) (hs : RB w w.heap.size D bs) (hm : bs.length = m) (hp : pairA s t = true) (hk : Uh.ok (Uh.mk 2 sport dport seq ack bits window urgent ty code rest false) s.k n m = true) : Calls Try.prog 27 #[.agg #[.int .i64 2, .int .i64 sport, .int .i64 dport, .int .i64 seq, .int .i64 ack, .int .i64 bits, .int .i64 window, .int .i64 urgent, .int .i64 ty, .int .i64 code, .int .i64 rest, .bool false, .slice A n c, .slice D m d], .agg #[.int .i64 s.k, .int .i64 s.a, .int .i64 s.b, .int .i64 s.c, .int .i64 s.d], .agg #[.int .i64 t.k, .int .i64 t.a, .int .i64 t.b, .int .i64 t.c, .int .i64 t.d]] w fun e w' => e = .returned (.int .i64 (Uh.sum (Uh.mk 2 sport dport seq ack bits window urgent ty code rest false) os bs s t)) ∧ Below w.heap.size w w' := by
  have HP := Lib.hid hp
  have HK := Lib.hid hk
  obtain ⟨hn, _, hm3, hz0, hz1⟩ := Uh.ok_room hk
  have hm2 : m ≤ 1048576 := by omega
  have hn4 : n ≤ 40 := hn
  replace hn : n ≤ 1048576 := by omega
  have hsk2 : s.k = 4 ∨ s.k = 6 := by have := (Uh.ok_facts hk).1; simpa [kindB] using this
  have HW1 := Lib.hid (Uh.top_word hp hk)
  have HW2 : Hid (isWord (onesSum (Uh.enc (Uh.mk 2 sport dport seq ack bits window urgent ty code rest false) os bs 0)) = true) := Lib.hid (Uh.enc_word (x := (Uh.mk 2 sport dport seq ack bits window urgent ty code rest false)) (k := s.k) (o := os) (bs := bs) (by rw [hl, hm]; exact hk) 0)
  have HR := Lib.hid (Uh.sum_yes (x := (Uh.mk 2 sport dport seq ack bits window urgent ty code rest false)) (o := os) (bs := bs) (a := s) (b := t) (by rw [hl, hm, hk, hp]; rfl) (by simp))
  rw [hl, hm] at HR
  have HLE := Lib.hid (Uh.enc_len (Uh.mk 2 sport dport seq ack bits window urgent ty code rest false) os bs 0 (by simp))
  rw [hl, hm] at HLE
  have HA := Lib.hid hr
  have HD := Lib.hid hs
  have HL := Lib.hid hl
  have HM := Lib.hid hm
  have hsz : Uh.size (Uh.mk 2 sport dport seq ack bits window urgent ty code rest false) n m = 8 + (m : Int) := rfl
  rw [hsz] at hz0 hz1 HLE
  have HS := Lib.hid (And.intro hz0 hz1)
  obtain ⟨L, hL⟩ : ∃ L, Uh.enc (Uh.mk 2 sport dport seq ack bits window urgent ty code rest false) os bs 0 = L := ⟨_, rfl⟩
  rw [hL] at HW2 HR HLE
  have HEN := Lib.hid hL
  obtain ⟨T, hT⟩ : ∃ T, Uh.top (Uh.mk 2 sport dport seq ack bits window urgent ty code rest false) n m s t = T := ⟨_, rfl⟩
  rw [hT] at HW1 HR
  have HTT := Lib.hid hT
  obtain ⟨O, hO⟩ : ∃ O, onesSum L = O := ⟨_, rfl⟩
  rw [hO] at HW2 HR
  have HO := Lib.hid hO
  have HSK := Lib.hid hsk2
  clear hp hk hl hm hr hs hz0 hz1 hsz hL hT hO hsk2
  have q0 : Hid ((((w.alloc (.cells #[.int .i64 2, .int .i64 sport, .int .i64 dport, .int .i64 seq, .int .i64 ack, .int .i64 bits, .int .i64 window, .int .i64 urgent, .int .i64 ty, .int .i64 code, .int .i64 rest, .bool false, .slice A n c, .slice D m d] 36)).alloc (.cells #[.int .i64 s.k, .int .i64 s.a, .int .i64 s.b, .int .i64 s.c, .int .i64 s.d] 27)).alloc (.cells #[.int .i64 t.k, .int .i64 t.a, .int .i64 t.b, .int .i64 t.c, .int .i64 t.d] 27)).heap[w.heap.size]? = some (.cells #[.int .i64 2, .int .i64 sport, .int .i64 dport, .int .i64 seq, .int .i64 ack, .int .i64 bits, .int .i64 window, .int .i64 urgent, .int .i64 ty, .int .i64 code, .int .i64 rest, .bool false, .slice A n c, .slice D m d] 36)) := Lib.hid (by repeat (first | exact K.newAt (by first | rfl | (simp; done)) | refine K.oldAt (by first | (simp; done) | (simp; omega)) ?_))
  have q1 : Hid ((((w.alloc (.cells #[.int .i64 2, .int .i64 sport, .int .i64 dport, .int .i64 seq, .int .i64 ack, .int .i64 bits, .int .i64 window, .int .i64 urgent, .int .i64 ty, .int .i64 code, .int .i64 rest, .bool false, .slice A n c, .slice D m d] 36)).alloc (.cells #[.int .i64 s.k, .int .i64 s.a, .int .i64 s.b, .int .i64 s.c, .int .i64 s.d] 27)).alloc (.cells #[.int .i64 t.k, .int .i64 t.a, .int .i64 t.b, .int .i64 t.c, .int .i64 t.d] 27)).heap[w.heap.size + 1]? = some (.cells #[.int .i64 s.k, .int .i64 s.a, .int .i64 s.b, .int .i64 s.c, .int .i64 s.d] 27)) := Lib.hid (by repeat (first | exact K.newAt (by first | rfl | (simp; done)) | refine K.oldAt (by first | (simp; done) | (simp; omega)) ?_))
  have q2 : Hid ((((w.alloc (.cells #[.int .i64 2, .int .i64 sport, .int .i64 dport, .int .i64 seq, .int .i64 ack, .int .i64 bits, .int .i64 window, .int .i64 urgent, .int .i64 ty, .int .i64 code, .int .i64 rest, .bool false, .slice A n c, .slice D m d] 36)).alloc (.cells #[.int .i64 s.k, .int .i64 s.a, .int .i64 s.b, .int .i64 s.c, .int .i64 s.d] 27)).alloc (.cells #[.int .i64 t.k, .int .i64 t.a, .int .i64 t.b, .int .i64 t.c, .int .i64 t.d] 27)).heap[w.heap.size + 1 + 1]? = some (.cells #[.int .i64 t.k, .int .i64 t.a, .int .i64 t.b, .int .i64 t.c, .int .i64 t.d] 27)) := Lib.hid (by repeat (first | exact K.newAt (by first | rfl | (simp; done)) | refine K.oldAt (by first | (simp; done) | (simp; omega)) ?_))
  (try simp only at q0 q1 q2)
  have HB : Hid (Below w.heap.size w (((w.alloc (.cells #[.int .i64 2, .int .i64 sport, .int .i64 dport, .int .i64 seq, .int .i64 ack, .int .i64 bits, .int .i64 window, .int .i64 urgent, .int .i64 ty, .int .i64 code, .int .i64 rest, .bool false, .slice A n c, .slice D m d] 36)).alloc (.cells #[.int .i64 s.k, .int .i64 s.a, .int .i64 s.b, .int .i64 s.c, .int .i64 s.d] 27)).alloc (.cells #[.int .i64 t.k, .int .i64 t.a, .int .i64 t.b, .int .i64 t.c, .int .i64 t.d] 27))) := Lib.hid (by go_grown)
  (try simp only at HB)
  go_enter Try.func27, Try.ntmps27
  go_wp2_with (first | (with_reducible refine loadA rfl _ rfl (w.heap.size + 1) rfl q1.out ?_) | (with_reducible refine loadA rfl _ rfl (w.heap.size + 2) rfl q2.out ?_))
  refine Calls.mono (pairIB s t true HP.out _) ?_
  rintro e w1 ⟨rfl, b1⟩
  have B1 := Lib.hid (bthen HB.out b1)
  have p0 := Lib.hid (K.below b1 q0.out)
  have p1 := Lib.hid (K.below b1 q1.out)
  have p2 := Lib.hid (K.below b1 q2.out)
  clear b1 q0 q1 q2 HB
  obtain ⟨c_0, c_1, c_2, c_3, c_4, c_5, c_6, c_7, c_8, c_9, c_10, c_11, c_12, c_13⟩ := K.cells14 p0.out
  have d_0 := K.cell p1.out 0 _ rfl
  go_wp2_with fail
  clear c_0 c_1 c_2 c_3 c_4 c_5 c_6 c_7 c_8 c_9 c_10 c_11 c_12 c_13
  clear d_0
  refine Calls.mono (okIB (Uh.mk 2 sport dport seq ack bits window urgent ty code rest false) A D n c m d s.k true HK.out hn hm2 _) ?_
  rintro e w2 ⟨rfl, b2⟩
  have B2 := Lib.hid (bthen B1.out b2)
  have r0 := Lib.hid (K.below b2 p0.out)
  have r1 := Lib.hid (K.below b2 p1.out)
  have r2 := Lib.hid (K.below b2 p2.out)
  clear b2 p0 p1 p2 B1
  have e0 := K.cell r0.out 0 _ rfl
  have e1 := K.cell r0.out 11 _ rfl
  go_wp2_with fail
  clear e0 e1
  refine wp_region_owns (by kernel_rfl) 7 44 [(0, 26), (1, 27), (2, 28), (3, 29), (4, 30), (5, 31), (6, 32)] _ ([.val (.agg #[.int .i64 2, .int .i64 sport, .int .i64 dport, .int .i64 seq, .int .i64 ack, .int .i64 bits, .int .i64 window, .int .i64 urgent, .int .i64 ty, .int .i64 code, .int .i64 rest, .bool false, .slice A n c, .slice D m d]), .val (.agg #[.int .i64 s.k, .int .i64 s.a, .int .i64 s.b, .int .i64 s.c, .int .i64 s.d]), .val (.agg #[.int .i64 t.k, .int .i64 t.a, .int .i64 t.b, .int .i64 t.c, .int .i64 t.d]), .val (.int .i64 T), .val (.agg #[.int .i64 2, .int .i64 sport, .int .i64 dport, .int .i64 seq, .int .i64 ack, .int .i64 bits, .int .i64 window, .int .i64 urgent, .int .i64 ty, .int .i64 code, .int .i64 rest, .bool false, .slice A n c, .slice D m d]), .rb L.length L, .val (.int .i64 O)]) (by kernel_rfl) (by kernel_rfl) rfl rfl ?_ ?_
  · intro j o hj ho a' v K' hx hnd hB hK
    match j, hj, ho with
    | 0, _, ho =>
      obtain rfl := Option.some.inj ho
      have h0 : a'.eval (.tmp 3) = .pointer (some ⟨w.heap.size, 0, none⟩) := (hx 3 (by decide)).trans rfl
      exact wp_load_row 36 _ rfl (w.heap.size) h0 _ _ (0, 0) _ (K.below hB r0.out) Try.underlying36 rfl info_up (hK _ _ rfl (Below.refl _ _))
    | 1, _, ho =>
      obtain rfl := Option.some.inj ho
      have h0 : a'.eval (.tmp 4) = .pointer (some ⟨w.heap.size + 1, 0, none⟩) := (hx 4 (by decide)).trans rfl
      exact wp_load_row 27 _ rfl (w.heap.size + 1) h0 _ _ (0, 0) _ (K.below hB r1.out) Try.underlying27 rfl info_addrP (hK _ _ rfl (Below.refl _ _))
    | 2, _, ho =>
      obtain rfl := Option.some.inj ho
      have h0 : a'.eval (.tmp 5) = .pointer (some ⟨w.heap.size + 2, 0, none⟩) := (hx 5 (by decide)).trans rfl
      exact wp_load_row 27 _ rfl (w.heap.size + 2) h0 _ _ (0, 0) _ (K.below hB r2.out) Try.underlying27 rfl info_addrP (hK _ _ rfl (Below.refl _ _))
    | 3, _, ho =>
      obtain rfl := Option.some.inj ho
      have h0 : a'.eval (.tmp 26) = .agg #[.int .i64 2, .int .i64 sport, .int .i64 dport, .int .i64 seq, .int .i64 ack, .int .i64 bits, .int .i64 window, .int .i64 urgent, .int .i64 ty, .int .i64 code, .int .i64 rest, .bool false, .slice A n c, .slice D m d] := (owns_of hnd 0 26 (by kernel_rfl) :)
      have h1 : a'.eval (.tmp 27) = .agg #[.int .i64 s.k, .int .i64 s.a, .int .i64 s.b, .int .i64 s.c, .int .i64 s.d] := (owns_of hnd 1 27 (by kernel_rfl) :)
      have h2 : a'.eval (.tmp 28) = .agg #[.int .i64 t.k, .int .i64 t.a, .int .i64 t.b, .int .i64 t.c, .int .i64 t.d] := (owns_of hnd 2 28 (by kernel_rfl) :)
      refine u_pseudoOf _ _ _ _ _ _ _ rfl h0 h1 h2 (Calls.mono (pseudoC (Uh.mk 2 sport dport seq ack bits window urgent ty code rest false) s t A D n c m d v hn4 (by omega) (by simp) HSK.out) ?_)
      rintro e' v' ⟨rfl, b6⟩
      exact ⟨_, rfl, hK _ _ (by rw [HTT.out]; rfl) b6⟩
    | 4, _, ho =>
      obtain rfl := Option.some.inj ho
      have h0 : a'.eval (.tmp 3) = .pointer (some ⟨w.heap.size, 0, none⟩) := (hx 3 (by decide)).trans rfl
      exact wp_load_row 36 _ rfl (w.heap.size) h0 _ _ (0, 0) _ (K.below hB r0.out) Try.underlying36 rfl info_up (hK _ _ rfl (Below.refl _ _))
    | 5, _, ho =>
      obtain rfl := Option.some.inj ho
      have h0 : a'.eval (.tmp 30) = .agg #[.int .i64 2, .int .i64 sport, .int .i64 dport, .int .i64 seq, .int .i64 ack, .int .i64 bits, .int .i64 window, .int .i64 urgent, .int .i64 ty, .int .i64 code, .int .i64 rest, .bool false, .slice A n c, .slice D m d] := (owns_of hnd 4 30 (by kernel_rfl) :)
      refine u_upBytesI _ _ _ _ _ rfl h0 rfl (Calls.mono (encI (Uh.mk 2 sport dport seq ack bits window urgent ty code rest false) s.k 0 A D n c m d os bs v ((HA.out.below (bthen B2.out hB)).more (bthen B2.out hB).size) HL.out ((HD.out.below (bthen B2.out hB)).more (bthen B2.out hB).size) HM.out HK.out) ?_)
      rintro e' v' ⟨X, y, rfl, o6, b6⟩
      rw [HEN.out] at o6 ⊢
      exact ⟨_, rfl, hK _ _ ⟨X, y, rfl, RB.of_own o6⟩ b6⟩
    | 6, _, ho =>
      obtain rfl := Option.some.inj ho
      obtain ⟨P0, p0, h0, r0'⟩ := (owns_of hnd 5 31 (by kernel_rfl) :)
      refine u_onesI _ _ _ rfl h0 (Calls.mono (implOnes P0 L.length p0 L v r0' rfl (by have := HLE.out; have := HS.out; omega)) ?_)
      rintro e' v' ⟨rfl, b6⟩
      exact ⟨_, rfl, hK _ _ (by rw [HO.out]; rfl) b6⟩
    | j + 7, hj, _ => omega
  · intro f v hf hB
    have e0 : f 0 = (.agg #[.int .i64 2, .int .i64 sport, .int .i64 dport, .int .i64 seq, .int .i64 ack, .int .i64 bits, .int .i64 window, .int .i64 urgent, .int .i64 ty, .int .i64 code, .int .i64 rest, .bool false, .slice A n c, .slice D m d]) := hf (0, 26) (by decide)
    have e1 : f 1 = (.agg #[.int .i64 s.k, .int .i64 s.a, .int .i64 s.b, .int .i64 s.c, .int .i64 s.d]) := hf (1, 27) (by decide)
    have e2 : f 2 = (.agg #[.int .i64 t.k, .int .i64 t.a, .int .i64 t.b, .int .i64 t.c, .int .i64 t.d]) := hf (2, 28) (by decide)
    have e3 : f 3 = (.int .i64 T) := hf (3, 29) (by decide)
    have e4 : f 4 = (.agg #[.int .i64 2, .int .i64 sport, .int .i64 dport, .int .i64 seq, .int .i64 ack, .int .i64 bits, .int .i64 window, .int .i64 urgent, .int .i64 ty, .int .i64 code, .int .i64 rest, .bool false, .slice A n c, .slice D m d]) := hf (4, 30) (by decide)
    obtain ⟨X31, y31, e5, r5⟩ := hf (5, 31) (by decide)
    have R31 := Lib.hid r5
    clear r5
    have e6 : f 6 = (.int .i64 O) := hf (6, 32) (by decide)
    simp only [List.foldl_cons, List.foldl_nil, List.drop_succ_cons, List.drop_zero, e0, e1, e2, e3, e4, e5, e6]
    clear e0 e1 e2 e3 e4 e5 e6 hf
    go_simp
    have B3 := Lib.hid (bthen (bthen B2.out hB) (Joins.below_alloc1 v (.cells #[.int .i64 T, .int .i64 O] 3)))
    have f0 := K.cell (K.old (K.below hB r0.out) (.cells #[.int .i64 T, .int .i64 O] 3)) 0 _ rfl
    clear hB R31
    go_wp2_with fail
    refine Calls.mono (foldedC (some ⟨v.heap.size, 0, none⟩) 2 2 [T, O] _ (by have h := RV.new v 3 (intsOf [T, O]); simpa [intsOf] using h) rfl (by omega)) ?_
    rintro e w4 ⟨rfl, rfl⟩
    rw [folded2 HW1.out HW2.out]
    have hcw := isWord_iff.1 (sadd_word HW1.out HW2.out)
    have HCP := Lib.hid (show comp (sadd T O) = 65535 - sadd T O by simp [comp, sadd_word HW1.out HW2.out])
    clear hcw
    go_wp2_with fail
    refine Calls.mono (compC (sadd T O) _) ?_
    rintro e w4 ⟨rfl, rfl⟩
    rw [HCP.out]
    have hw := isWord_iff.1 (sadd_word HW1.out HW2.out)
    have HU := Lib.hid (HR.out)
    generalize sadd T O = z at hw HU ⊢
    have HB9 := B3
    by_cases hz : 65535 - z = 0
    · have HV := Lib.hid (show Uh.sum (Uh.mk 2 sport dport seq ack bits window urgent ty code rest false) os bs s t = 65535 by rw [HU.out]; simp [udp0, hz])
      clear HU
      go_wp2
      go_ret
      exact ⟨ret_int HV.out.symm, HB9.out⟩
    · have HV := Lib.hid (show Uh.sum (Uh.mk 2 sport dport seq ack bits window urgent ty code rest false) os bs s t = 65535 - z by rw [HU.out]; simp [udp0, hz])
      clear HU
      go_wp2
      go_ret
      exact ⟨ret_int HV.out.symm, HB9.out⟩

set_option maxHeartbeats 4000000 in
theorem usI_y3 (sport dport seq ack bits window urgent ty code rest : Int) (s t : Ad) (A D : Option Addr) (n c m d : Nat) (os bs : List UInt8) (w : World) (hr : RB w w.heap.size A os) (hl : os.length = n) (hs : RB w w.heap.size D bs) (hm : bs.length = m) (hp : pairA s t = true) (hk : Uh.ok (Uh.mk 3 sport dport seq ack bits window urgent ty code rest false) s.k n m = true) : Calls Try.prog 27 #[.agg #[.int .i64 3, .int .i64 sport, .int .i64 dport, .int .i64 seq, .int .i64 ack, .int .i64 bits, .int .i64 window, .int .i64 urgent, .int .i64 ty, .int .i64 code, .int .i64 rest, .bool false, .slice A n c, .slice D m d], .agg #[.int .i64 s.k, .int .i64 s.a, .int .i64 s.b, .int .i64 s.c, .int .i64 s.d], .agg #[.int .i64 t.k, .int .i64 t.a, .int .i64 t.b, .int .i64 t.c, .int .i64 t.d]] w fun e w' => e = .returned (.int .i64 (Uh.sum (Uh.mk 3 sport dport seq ack bits window urgent ty code rest false) os bs s t)) ∧ Below w.heap.size w w' := by
  have HP := Lib.hid hp
  have HK := Lib.hid hk
  obtain ⟨hn, _, hm3, hz0, hz1⟩ := Uh.ok_room hk
  have hm2 : m ≤ 1048576 := by omega
  have hn4 : n ≤ 40 := hn
  replace hn : n ≤ 1048576 := by omega
  have hsk2 : s.k = 4 ∨ s.k = 6 := by have := (Uh.ok_facts hk).1; simpa [kindB] using this
  have HW1 := Lib.hid (Uh.top_word hp hk)
  have HW2 : Hid (isWord (onesSum (Uh.enc (Uh.mk 3 sport dport seq ack bits window urgent ty code rest false) os bs 0)) = true) := Lib.hid (Uh.enc_word (x := (Uh.mk 3 sport dport seq ack bits window urgent ty code rest false)) (k := s.k) (o := os) (bs := bs) (by rw [hl, hm]; exact hk) 0)
  have HR := Lib.hid (Uh.sum_yes (x := (Uh.mk 3 sport dport seq ack bits window urgent ty code rest false)) (o := os) (bs := bs) (a := s) (b := t) (by rw [hl, hm, hk, hp]; rfl) (by simp))
  rw [hl, hm] at HR
  have HLE := Lib.hid (Uh.enc_len (Uh.mk 3 sport dport seq ack bits window urgent ty code rest false) os bs 0 (by simp))
  rw [hl, hm] at HLE
  have HA := Lib.hid hr
  have HD := Lib.hid hs
  have HL := Lib.hid hl
  have HM := Lib.hid hm
  have hsz : Uh.size (Uh.mk 3 sport dport seq ack bits window urgent ty code rest false) n m = 8 + (m : Int) := rfl
  rw [hsz] at hz0 hz1 HLE
  have HS := Lib.hid (And.intro hz0 hz1)
  obtain ⟨L, hL⟩ : ∃ L, Uh.enc (Uh.mk 3 sport dport seq ack bits window urgent ty code rest false) os bs 0 = L := ⟨_, rfl⟩
  rw [hL] at HW2 HR HLE
  have HEN := Lib.hid hL
  obtain ⟨T, hT⟩ : ∃ T, Uh.top (Uh.mk 3 sport dport seq ack bits window urgent ty code rest false) n m s t = T := ⟨_, rfl⟩
  rw [hT] at HW1 HR
  have HTT := Lib.hid hT
  obtain ⟨O, hO⟩ : ∃ O, onesSum L = O := ⟨_, rfl⟩
  rw [hO] at HW2 HR
  have HO := Lib.hid hO
  have HSK := Lib.hid hsk2
  clear hp hk hl hm hr hs hz0 hz1 hsz hL hT hO hsk2
  have q0 : Hid ((((w.alloc (.cells #[.int .i64 3, .int .i64 sport, .int .i64 dport, .int .i64 seq, .int .i64 ack, .int .i64 bits, .int .i64 window, .int .i64 urgent, .int .i64 ty, .int .i64 code, .int .i64 rest, .bool false, .slice A n c, .slice D m d] 36)).alloc (.cells #[.int .i64 s.k, .int .i64 s.a, .int .i64 s.b, .int .i64 s.c, .int .i64 s.d] 27)).alloc (.cells #[.int .i64 t.k, .int .i64 t.a, .int .i64 t.b, .int .i64 t.c, .int .i64 t.d] 27)).heap[w.heap.size]? = some (.cells #[.int .i64 3, .int .i64 sport, .int .i64 dport, .int .i64 seq, .int .i64 ack, .int .i64 bits, .int .i64 window, .int .i64 urgent, .int .i64 ty, .int .i64 code, .int .i64 rest, .bool false, .slice A n c, .slice D m d] 36)) := Lib.hid (by repeat (first | exact K.newAt (by first | rfl | (simp; done)) | refine K.oldAt (by first | (simp; done) | (simp; omega)) ?_))
  have q1 : Hid ((((w.alloc (.cells #[.int .i64 3, .int .i64 sport, .int .i64 dport, .int .i64 seq, .int .i64 ack, .int .i64 bits, .int .i64 window, .int .i64 urgent, .int .i64 ty, .int .i64 code, .int .i64 rest, .bool false, .slice A n c, .slice D m d] 36)).alloc (.cells #[.int .i64 s.k, .int .i64 s.a, .int .i64 s.b, .int .i64 s.c, .int .i64 s.d] 27)).alloc (.cells #[.int .i64 t.k, .int .i64 t.a, .int .i64 t.b, .int .i64 t.c, .int .i64 t.d] 27)).heap[w.heap.size + 1]? = some (.cells #[.int .i64 s.k, .int .i64 s.a, .int .i64 s.b, .int .i64 s.c, .int .i64 s.d] 27)) := Lib.hid (by repeat (first | exact K.newAt (by first | rfl | (simp; done)) | refine K.oldAt (by first | (simp; done) | (simp; omega)) ?_))
  have q2 : Hid ((((w.alloc (.cells #[.int .i64 3, .int .i64 sport, .int .i64 dport, .int .i64 seq, .int .i64 ack, .int .i64 bits, .int .i64 window, .int .i64 urgent, .int .i64 ty, .int .i64 code, .int .i64 rest, .bool false, .slice A n c, .slice D m d] 36)).alloc (.cells #[.int .i64 s.k, .int .i64 s.a, .int .i64 s.b, .int .i64 s.c, .int .i64 s.d] 27)).alloc (.cells #[.int .i64 t.k, .int .i64 t.a, .int .i64 t.b, .int .i64 t.c, .int .i64 t.d] 27)).heap[w.heap.size + 1 + 1]? = some (.cells #[.int .i64 t.k, .int .i64 t.a, .int .i64 t.b, .int .i64 t.c, .int .i64 t.d] 27)) := Lib.hid (by repeat (first | exact K.newAt (by first | rfl | (simp; done)) | refine K.oldAt (by first | (simp; done) | (simp; omega)) ?_))
  (try simp only at q0 q1 q2)
  have HB : Hid (Below w.heap.size w (((w.alloc (.cells #[.int .i64 3, .int .i64 sport, .int .i64 dport, .int .i64 seq, .int .i64 ack, .int .i64 bits, .int .i64 window, .int .i64 urgent, .int .i64 ty, .int .i64 code, .int .i64 rest, .bool false, .slice A n c, .slice D m d] 36)).alloc (.cells #[.int .i64 s.k, .int .i64 s.a, .int .i64 s.b, .int .i64 s.c, .int .i64 s.d] 27)).alloc (.cells #[.int .i64 t.k, .int .i64 t.a, .int .i64 t.b, .int .i64 t.c, .int .i64 t.d] 27))) := Lib.hid (by go_grown)
  (try simp only at HB)
  go_enter Try.func27, Try.ntmps27
  go_wp2_with (first | (with_reducible refine loadA rfl _ rfl (w.heap.size + 1) rfl q1.out ?_) | (with_reducible refine loadA rfl _ rfl (w.heap.size + 2) rfl q2.out ?_))
  refine Calls.mono (pairIB s t true HP.out _) ?_
  rintro e w1 ⟨rfl, b1⟩
  have B1 := Lib.hid (bthen HB.out b1)
  have p0 := Lib.hid (K.below b1 q0.out)
  have p1 := Lib.hid (K.below b1 q1.out)
  have p2 := Lib.hid (K.below b1 q2.out)
  clear b1 q0 q1 q2 HB
  obtain ⟨c_0, c_1, c_2, c_3, c_4, c_5, c_6, c_7, c_8, c_9, c_10, c_11, c_12, c_13⟩ := K.cells14 p0.out
  have d_0 := K.cell p1.out 0 _ rfl
  go_wp2_with fail
  clear c_0 c_1 c_2 c_3 c_4 c_5 c_6 c_7 c_8 c_9 c_10 c_11 c_12 c_13
  clear d_0
  refine Calls.mono (okIB (Uh.mk 3 sport dport seq ack bits window urgent ty code rest false) A D n c m d s.k true HK.out hn hm2 _) ?_
  rintro e w2 ⟨rfl, b2⟩
  have B2 := Lib.hid (bthen B1.out b2)
  have r0 := Lib.hid (K.below b2 p0.out)
  have r1 := Lib.hid (K.below b2 p1.out)
  have r2 := Lib.hid (K.below b2 p2.out)
  clear b2 p0 p1 p2 B1
  have e0 := K.cell r0.out 0 _ rfl
  have e1 := K.cell r0.out 11 _ rfl
  go_wp2_with fail
  clear e0 e1
  refine wp_region_owns (by kernel_rfl) 7 44 [(0, 26), (1, 27), (2, 28), (3, 29), (4, 30), (5, 31), (6, 32)] _ ([.val (.agg #[.int .i64 3, .int .i64 sport, .int .i64 dport, .int .i64 seq, .int .i64 ack, .int .i64 bits, .int .i64 window, .int .i64 urgent, .int .i64 ty, .int .i64 code, .int .i64 rest, .bool false, .slice A n c, .slice D m d]), .val (.agg #[.int .i64 s.k, .int .i64 s.a, .int .i64 s.b, .int .i64 s.c, .int .i64 s.d]), .val (.agg #[.int .i64 t.k, .int .i64 t.a, .int .i64 t.b, .int .i64 t.c, .int .i64 t.d]), .val (.int .i64 T), .val (.agg #[.int .i64 3, .int .i64 sport, .int .i64 dport, .int .i64 seq, .int .i64 ack, .int .i64 bits, .int .i64 window, .int .i64 urgent, .int .i64 ty, .int .i64 code, .int .i64 rest, .bool false, .slice A n c, .slice D m d]), .rb L.length L, .val (.int .i64 O)]) (by kernel_rfl) (by kernel_rfl) rfl rfl ?_ ?_
  · intro j o hj ho a' v K' hx hnd hB hK
    match j, hj, ho with
    | 0, _, ho =>
      obtain rfl := Option.some.inj ho
      have h0 : a'.eval (.tmp 3) = .pointer (some ⟨w.heap.size, 0, none⟩) := (hx 3 (by decide)).trans rfl
      exact wp_load_row 36 _ rfl (w.heap.size) h0 _ _ (0, 0) _ (K.below hB r0.out) Try.underlying36 rfl info_up (hK _ _ rfl (Below.refl _ _))
    | 1, _, ho =>
      obtain rfl := Option.some.inj ho
      have h0 : a'.eval (.tmp 4) = .pointer (some ⟨w.heap.size + 1, 0, none⟩) := (hx 4 (by decide)).trans rfl
      exact wp_load_row 27 _ rfl (w.heap.size + 1) h0 _ _ (0, 0) _ (K.below hB r1.out) Try.underlying27 rfl info_addrP (hK _ _ rfl (Below.refl _ _))
    | 2, _, ho =>
      obtain rfl := Option.some.inj ho
      have h0 : a'.eval (.tmp 5) = .pointer (some ⟨w.heap.size + 2, 0, none⟩) := (hx 5 (by decide)).trans rfl
      exact wp_load_row 27 _ rfl (w.heap.size + 2) h0 _ _ (0, 0) _ (K.below hB r2.out) Try.underlying27 rfl info_addrP (hK _ _ rfl (Below.refl _ _))
    | 3, _, ho =>
      obtain rfl := Option.some.inj ho
      have h0 : a'.eval (.tmp 26) = .agg #[.int .i64 3, .int .i64 sport, .int .i64 dport, .int .i64 seq, .int .i64 ack, .int .i64 bits, .int .i64 window, .int .i64 urgent, .int .i64 ty, .int .i64 code, .int .i64 rest, .bool false, .slice A n c, .slice D m d] := (owns_of hnd 0 26 (by kernel_rfl) :)
      have h1 : a'.eval (.tmp 27) = .agg #[.int .i64 s.k, .int .i64 s.a, .int .i64 s.b, .int .i64 s.c, .int .i64 s.d] := (owns_of hnd 1 27 (by kernel_rfl) :)
      have h2 : a'.eval (.tmp 28) = .agg #[.int .i64 t.k, .int .i64 t.a, .int .i64 t.b, .int .i64 t.c, .int .i64 t.d] := (owns_of hnd 2 28 (by kernel_rfl) :)
      refine u_pseudoOf _ _ _ _ _ _ _ rfl h0 h1 h2 (Calls.mono (pseudoC (Uh.mk 3 sport dport seq ack bits window urgent ty code rest false) s t A D n c m d v hn4 (by omega) (by simp) HSK.out) ?_)
      rintro e' v' ⟨rfl, b6⟩
      exact ⟨_, rfl, hK _ _ (by rw [HTT.out]; rfl) b6⟩
    | 4, _, ho =>
      obtain rfl := Option.some.inj ho
      have h0 : a'.eval (.tmp 3) = .pointer (some ⟨w.heap.size, 0, none⟩) := (hx 3 (by decide)).trans rfl
      exact wp_load_row 36 _ rfl (w.heap.size) h0 _ _ (0, 0) _ (K.below hB r0.out) Try.underlying36 rfl info_up (hK _ _ rfl (Below.refl _ _))
    | 5, _, ho =>
      obtain rfl := Option.some.inj ho
      have h0 : a'.eval (.tmp 30) = .agg #[.int .i64 3, .int .i64 sport, .int .i64 dport, .int .i64 seq, .int .i64 ack, .int .i64 bits, .int .i64 window, .int .i64 urgent, .int .i64 ty, .int .i64 code, .int .i64 rest, .bool false, .slice A n c, .slice D m d] := (owns_of hnd 4 30 (by kernel_rfl) :)
      refine u_upBytesI _ _ _ _ _ rfl h0 rfl (Calls.mono (encI (Uh.mk 3 sport dport seq ack bits window urgent ty code rest false) s.k 0 A D n c m d os bs v ((HA.out.below (bthen B2.out hB)).more (bthen B2.out hB).size) HL.out ((HD.out.below (bthen B2.out hB)).more (bthen B2.out hB).size) HM.out HK.out) ?_)
      rintro e' v' ⟨X, y, rfl, o6, b6⟩
      rw [HEN.out] at o6 ⊢
      exact ⟨_, rfl, hK _ _ ⟨X, y, rfl, RB.of_own o6⟩ b6⟩
    | 6, _, ho =>
      obtain rfl := Option.some.inj ho
      obtain ⟨P0, p0, h0, r0'⟩ := (owns_of hnd 5 31 (by kernel_rfl) :)
      refine u_onesI _ _ _ rfl h0 (Calls.mono (implOnes P0 L.length p0 L v r0' rfl (by have := HLE.out; have := HS.out; omega)) ?_)
      rintro e' v' ⟨rfl, b6⟩
      exact ⟨_, rfl, hK _ _ (by rw [HO.out]; rfl) b6⟩
    | j + 7, hj, _ => omega
  · intro f v hf hB
    have e0 : f 0 = (.agg #[.int .i64 3, .int .i64 sport, .int .i64 dport, .int .i64 seq, .int .i64 ack, .int .i64 bits, .int .i64 window, .int .i64 urgent, .int .i64 ty, .int .i64 code, .int .i64 rest, .bool false, .slice A n c, .slice D m d]) := hf (0, 26) (by decide)
    have e1 : f 1 = (.agg #[.int .i64 s.k, .int .i64 s.a, .int .i64 s.b, .int .i64 s.c, .int .i64 s.d]) := hf (1, 27) (by decide)
    have e2 : f 2 = (.agg #[.int .i64 t.k, .int .i64 t.a, .int .i64 t.b, .int .i64 t.c, .int .i64 t.d]) := hf (2, 28) (by decide)
    have e3 : f 3 = (.int .i64 T) := hf (3, 29) (by decide)
    have e4 : f 4 = (.agg #[.int .i64 3, .int .i64 sport, .int .i64 dport, .int .i64 seq, .int .i64 ack, .int .i64 bits, .int .i64 window, .int .i64 urgent, .int .i64 ty, .int .i64 code, .int .i64 rest, .bool false, .slice A n c, .slice D m d]) := hf (4, 30) (by decide)
    obtain ⟨X31, y31, e5, r5⟩ := hf (5, 31) (by decide)
    have R31 := Lib.hid r5
    clear r5
    have e6 : f 6 = (.int .i64 O) := hf (6, 32) (by decide)
    simp only [List.foldl_cons, List.foldl_nil, List.drop_succ_cons, List.drop_zero, e0, e1, e2, e3, e4, e5, e6]
    clear e0 e1 e2 e3 e4 e5 e6 hf
    go_simp
    have B3 := Lib.hid (bthen (bthen B2.out hB) (Joins.below_alloc1 v (.cells #[.int .i64 T, .int .i64 O] 3)))
    have f0 := K.cell (K.old (K.below hB r0.out) (.cells #[.int .i64 T, .int .i64 O] 3)) 0 _ rfl
    clear hB R31
    go_wp2_with fail
    refine Calls.mono (foldedC (some ⟨v.heap.size, 0, none⟩) 2 2 [T, O] _ (by have h := RV.new v 3 (intsOf [T, O]); simpa [intsOf] using h) rfl (by omega)) ?_
    rintro e w4 ⟨rfl, rfl⟩
    rw [folded2 HW1.out HW2.out]
    have hcw := isWord_iff.1 (sadd_word HW1.out HW2.out)
    have HCP := Lib.hid (show comp (sadd T O) = 65535 - sadd T O by simp [comp, sadd_word HW1.out HW2.out])
    clear hcw
    go_wp2_with fail
    refine Calls.mono (compC (sadd T O) _) ?_
    rintro e w4 ⟨rfl, rfl⟩
    rw [HCP.out]
    have hw := isWord_iff.1 (sadd_word HW1.out HW2.out)
    have HU := Lib.hid (HR.out)
    generalize sadd T O = z at hw HU ⊢
    have HB9 := B3
    have HV := Lib.hid (show Uh.sum (Uh.mk 3 sport dport seq ack bits window urgent ty code rest false) os bs s t = 65535 - z by rw [HU.out]; simp [udp0])
    clear HU
    go_wp2
    go_ret
    exact ⟨ret_int HV.out.symm, HB9.out⟩

theorem usI (x : Uh) (s t : Ad) (A D : Option Addr) (n c m d : Nat) (os bs : List UInt8) (w : World) (hr : RB w w.heap.size A os) (hl : os.length = n) (hs : RB w w.heap.size D bs) (hm : bs.length = m) (hn : n ≤ 1048576) (hm2 : m ≤ 1048576) : Calls Try.prog 27 #[.agg #[.int .i64 x.kind, .int .i64 x.sport, .int .i64 x.dport, .int .i64 x.seq, .int .i64 x.ack, .int .i64 x.bits, .int .i64 x.window, .int .i64 x.urgent, .int .i64 x.ty, .int .i64 x.code, .int .i64 x.rest, .bool x.nosum, .slice A n c, .slice D m d], .agg #[.int .i64 s.k, .int .i64 s.a, .int .i64 s.b, .int .i64 s.c, .int .i64 s.d], .agg #[.int .i64 t.k, .int .i64 t.a, .int .i64 t.b, .int .i64 t.c, .int .i64 t.d]] w fun e w' => e = .returned (.int .i64 (x.sum os bs s t)) ∧ Below w.heap.size w w' := by
  cases hp : pairA s t with
  | false => exact usI_no1 x s t A D n c m d os bs w hp
  | true =>
    cases hk : x.ok s.k n m with
    | false => exact usI_no2 x s t A D n c m d os bs w hl hm hp hk hn hm2
    | true =>
      have hkk := Uh.ok_kind hk
      obtain ⟨kind, sport, dport, seq, ack, bits, window, urgent, ty, code, rest, nosum⟩ := x
      try simp only at hkk
      by_cases h0 : kind = 0
      · subst h0
        exact usI_z0 sport dport seq ack bits window urgent ty code rest nosum s t A D n c m d os bs w hl hm hp hk hn hm2
      · cases nosum with
        | true => exact usI_z1 kind sport dport seq ack bits window urgent ty code rest s t A D n c m d os bs w hl hm hp hk h0 hn hm2
        | false =>
          rcases hkk with rfl | rfl | rfl | rfl
          · exact absurd rfl h0
          · exact usI_y1 sport dport seq ack bits window urgent ty code rest s t A D n c m d os bs w hr hl hs hm hp hk
          · exact usI_y2 sport dport seq ack bits window urgent ty code rest s t A D n c m d os bs w hr hl hs hm hp hk
          · exact usI_y3 sport dport seq ack bits window urgent ty code rest s t A D n c m d os bs w hr hl hs hm hp hk
end Go.Proofs.Ythogonpjkngpjaa
