/-
  UpperOk in the model: kind 2, between addresses of kind 6.
-/
import Derived.Test.YthogonpjkngpjaaRc11
import Derived.Test.YthogonpjkngpjaaRc08
namespace Go.Proofs.Ythogonpjkngpjaa
set_option maxRecDepth 100000
open Go.RowKit
set_option maxHeartbeats 8000000 in
theorem upOkS2_6 (sport dport seq ack bits window urgent ty code rest : Int) (nosum : Bool) (A D : Option Addr) (n c m d : Nat) (w : World) (hn : n ≤ 1048576) (hm : m ≤ 1048576) : Calls Try.prog 59 #[.agg #[.int .i64 2, .int .i64 sport, .int .i64 dport, .int .i64 seq, .int .i64 ack, .int .i64 bits, .int .i64 window, .int .i64 urgent, .int .i64 ty, .int .i64 code, .int .i64 rest, .bool nosum, .slice A n c, .slice D m d], .int .i64 6] w fun e w' => e = .returned (.bool (Uh.ok (Uh.mk 2 sport dport seq ack bits window urgent ty code rest nosum) 6 n m)) ∧ Below w.heap.size w w' := by
  cases u1 : upTo sport 65535 with
  | false =>
    have U1 := Lib.hid u1
    clear u1
    have q := Lib.hid (K.new w (.cells #[.int .i64 2, .int .i64 sport, .int .i64 dport, .int .i64 seq, .int .i64 ack, .int .i64 bits, .int .i64 window, .int .i64 urgent, .int .i64 ty, .int .i64 code, .int .i64 rest, .bool nosum, .slice A n c, .slice D m d] 36))
    try simp only at q ⊢
    go_enter Try.func59, Try.ntmps59
    go_wp2_with (first | (go_at_call 39; (first | (with_reducible refine (specInB sport 65535 false _ U1.out).mono ?_)); rintro e w1 ⟨rfl, rfl⟩))
    go_ret
    exact ⟨ret_bool (by simp [Uh.ok, Uh.fields, noF, Uh.unused, kindB, Uh.size, U1.out, *]), Joins.below_alloc1 w _⟩
  | true =>
    have U1 := Lib.hid u1
    clear u1
    cases u2 : upTo dport 65535 with
    | false =>
      have U2 := Lib.hid u2
      clear u2
      have q := Lib.hid (K.new w (.cells #[.int .i64 2, .int .i64 sport, .int .i64 dport, .int .i64 seq, .int .i64 ack, .int .i64 bits, .int .i64 window, .int .i64 urgent, .int .i64 ty, .int .i64 code, .int .i64 rest, .bool nosum, .slice A n c, .slice D m d] 36))
      try simp only at q ⊢
      go_enter Try.func59, Try.ntmps59
      go_wp2_with (first | (go_at_call 39; (first | (with_reducible refine (specInB sport 65535 true _ U1.out).mono ?_) | (with_reducible refine (specInB dport 65535 false _ U2.out).mono ?_)); rintro e w1 ⟨rfl, rfl⟩))
      go_ret
      exact ⟨ret_bool (by simp [Uh.ok, Uh.fields, noF, Uh.unused, kindB, Uh.size, U1.out, U2.out, *]), Joins.below_alloc1 w _⟩
    | true =>
      have U2 := Lib.hid u2
      clear u2
      by_cases z_seq : seq = 0
      case neg =>
        have q := Lib.hid (K.new w (.cells #[.int .i64 2, .int .i64 sport, .int .i64 dport, .int .i64 seq, .int .i64 ack, .int .i64 bits, .int .i64 window, .int .i64 urgent, .int .i64 ty, .int .i64 code, .int .i64 rest, .bool nosum, .slice A n c, .slice D m d] 36))
        try simp only at q ⊢
        go_enter Try.func59, Try.ntmps59
        go_wp2_with (first | (go_at_call 39; (first | (with_reducible refine (specInB sport 65535 true _ U1.out).mono ?_) | (with_reducible refine (specInB dport 65535 true _ U2.out).mono ?_)); rintro e w1 ⟨rfl, rfl⟩))
        go_ret
        exact ⟨ret_bool (by simp [Uh.ok, Uh.fields, noF, Uh.unused, kindB, Uh.size, U1.out, U2.out, *]), Joins.below_alloc1 w _⟩
      case pos =>
        subst z_seq
        by_cases z_ack : ack = 0
        case neg =>
          have q := Lib.hid (K.new w (.cells #[.int .i64 2, .int .i64 sport, .int .i64 dport, .int .i64 0, .int .i64 ack, .int .i64 bits, .int .i64 window, .int .i64 urgent, .int .i64 ty, .int .i64 code, .int .i64 rest, .bool nosum, .slice A n c, .slice D m d] 36))
          try simp only at q ⊢
          go_enter Try.func59, Try.ntmps59
          go_wp2_with (first | (go_at_call 39; (first | (with_reducible refine (specInB sport 65535 true _ U1.out).mono ?_) | (with_reducible refine (specInB dport 65535 true _ U2.out).mono ?_)); rintro e w1 ⟨rfl, rfl⟩))
          go_ret
          exact ⟨ret_bool (by simp [Uh.ok, Uh.fields, noF, Uh.unused, kindB, Uh.size, U1.out, U2.out, *]), Joins.below_alloc1 w _⟩
        case pos =>
          subst z_ack
          by_cases z_bits : bits = 0
          case neg =>
            have q := Lib.hid (K.new w (.cells #[.int .i64 2, .int .i64 sport, .int .i64 dport, .int .i64 0, .int .i64 0, .int .i64 bits, .int .i64 window, .int .i64 urgent, .int .i64 ty, .int .i64 code, .int .i64 rest, .bool nosum, .slice A n c, .slice D m d] 36))
            try simp only at q ⊢
            go_enter Try.func59, Try.ntmps59
            go_wp2_with (first | (go_at_call 39; (first | (with_reducible refine (specInB sport 65535 true _ U1.out).mono ?_) | (with_reducible refine (specInB dport 65535 true _ U2.out).mono ?_)); rintro e w1 ⟨rfl, rfl⟩))
            go_ret
            exact ⟨ret_bool (by simp [Uh.ok, Uh.fields, noF, Uh.unused, kindB, Uh.size, U1.out, U2.out, *]), Joins.below_alloc1 w _⟩
          case pos =>
            subst z_bits
            by_cases z_window : window = 0
            case neg =>
              have q := Lib.hid (K.new w (.cells #[.int .i64 2, .int .i64 sport, .int .i64 dport, .int .i64 0, .int .i64 0, .int .i64 0, .int .i64 window, .int .i64 urgent, .int .i64 ty, .int .i64 code, .int .i64 rest, .bool nosum, .slice A n c, .slice D m d] 36))
              try simp only at q ⊢
              go_enter Try.func59, Try.ntmps59
              go_wp2_with (first | (go_at_call 39; (first | (with_reducible refine (specInB sport 65535 true _ U1.out).mono ?_) | (with_reducible refine (specInB dport 65535 true _ U2.out).mono ?_)); rintro e w1 ⟨rfl, rfl⟩))
              go_ret
              exact ⟨ret_bool (by simp [Uh.ok, Uh.fields, noF, Uh.unused, kindB, Uh.size, U1.out, U2.out, *]), Joins.below_alloc1 w _⟩
            case pos =>
              subst z_window
              by_cases z_urgent : urgent = 0
              case neg =>
                have q := Lib.hid (K.new w (.cells #[.int .i64 2, .int .i64 sport, .int .i64 dport, .int .i64 0, .int .i64 0, .int .i64 0, .int .i64 0, .int .i64 urgent, .int .i64 ty, .int .i64 code, .int .i64 rest, .bool nosum, .slice A n c, .slice D m d] 36))
                try simp only at q ⊢
                go_enter Try.func59, Try.ntmps59
                go_wp2_with (first | (go_at_call 39; (first | (with_reducible refine (specInB sport 65535 true _ U1.out).mono ?_) | (with_reducible refine (specInB dport 65535 true _ U2.out).mono ?_)); rintro e w1 ⟨rfl, rfl⟩))
                go_ret
                exact ⟨ret_bool (by simp [Uh.ok, Uh.fields, noF, Uh.unused, kindB, Uh.size, U1.out, U2.out, *]), Joins.below_alloc1 w _⟩
              case pos =>
                subst z_urgent
                by_cases z_n : n = 0
                case neg =>
                  have z_m : ¬ (n : Int) = 0 := by omega
                  have q := Lib.hid (K.new w (.cells #[.int .i64 2, .int .i64 sport, .int .i64 dport, .int .i64 0, .int .i64 0, .int .i64 0, .int .i64 0, .int .i64 0, .int .i64 ty, .int .i64 code, .int .i64 rest, .bool nosum, .slice A n c, .slice D m d] 36))
                  try simp only at q ⊢
                  go_enter Try.func59, Try.ntmps59
                  go_wp2_with (first | (go_at_call 39; (first | (with_reducible refine (specInB sport 65535 true _ U1.out).mono ?_) | (with_reducible refine (specInB dport 65535 true _ U2.out).mono ?_)); rintro e w1 ⟨rfl, rfl⟩))
                  go_ret
                  exact ⟨ret_bool (by simp [Uh.ok, Uh.fields, noF, Uh.unused, kindB, Uh.size, U1.out, U2.out, *]), Joins.below_alloc1 w _⟩
                case pos =>
                  subst z_n
                  by_cases z_ty : ty = 0
                  case neg =>
                    have q := Lib.hid (K.new w (.cells #[.int .i64 2, .int .i64 sport, .int .i64 dport, .int .i64 0, .int .i64 0, .int .i64 0, .int .i64 0, .int .i64 0, .int .i64 ty, .int .i64 code, .int .i64 rest, .bool nosum, .slice A 0 c, .slice D m d] 36))
                    try simp only at q ⊢
                    go_enter Try.func59, Try.ntmps59
                    go_wp2_with (first | (go_at_call 39; (first | (with_reducible refine (specInB sport 65535 true _ U1.out).mono ?_) | (with_reducible refine (specInB dport 65535 true _ U2.out).mono ?_)); rintro e w1 ⟨rfl, rfl⟩))
                    go_ret
                    exact ⟨ret_bool (by simp [Uh.ok, Uh.fields, noF, Uh.unused, kindB, Uh.size, U1.out, U2.out, *]), Joins.below_alloc1 w _⟩
                  case pos =>
                    subst z_ty
                    by_cases z_code : code = 0
                    case neg =>
                      have q := Lib.hid (K.new w (.cells #[.int .i64 2, .int .i64 sport, .int .i64 dport, .int .i64 0, .int .i64 0, .int .i64 0, .int .i64 0, .int .i64 0, .int .i64 0, .int .i64 code, .int .i64 rest, .bool nosum, .slice A 0 c, .slice D m d] 36))
                      try simp only at q ⊢
                      go_enter Try.func59, Try.ntmps59
                      go_wp2_with (first | (go_at_call 39; (first | (with_reducible refine (specInB sport 65535 true _ U1.out).mono ?_) | (with_reducible refine (specInB dport 65535 true _ U2.out).mono ?_)); rintro e w1 ⟨rfl, rfl⟩))
                      go_ret
                      exact ⟨ret_bool (by simp [Uh.ok, Uh.fields, noF, Uh.unused, kindB, Uh.size, U1.out, U2.out, *]), Joins.below_alloc1 w _⟩
                    case pos =>
                      subst z_code
                      by_cases z_rest : rest = 0
                      case neg =>
                        have q := Lib.hid (K.new w (.cells #[.int .i64 2, .int .i64 sport, .int .i64 dport, .int .i64 0, .int .i64 0, .int .i64 0, .int .i64 0, .int .i64 0, .int .i64 0, .int .i64 0, .int .i64 rest, .bool nosum, .slice A 0 c, .slice D m d] 36))
                        try simp only at q ⊢
                        go_enter Try.func59, Try.ntmps59
                        go_wp2_with (first | (go_at_call 39; (first | (with_reducible refine (specInB sport 65535 true _ U1.out).mono ?_) | (with_reducible refine (specInB dport 65535 true _ U2.out).mono ?_)); rintro e w1 ⟨rfl, rfl⟩))
                        go_ret
                        exact ⟨ret_bool (by simp [Uh.ok, Uh.fields, noF, Uh.unused, kindB, Uh.size, U1.out, U2.out, *]), Joins.below_alloc1 w _⟩
                      case pos =>
                        subst z_rest
                        cases nosum with
                        | true =>
                          have q := Lib.hid (K.new w (.cells #[.int .i64 2, .int .i64 sport, .int .i64 dport, .int .i64 0, .int .i64 0, .int .i64 0, .int .i64 0, .int .i64 0, .int .i64 0, .int .i64 0, .int .i64 0, .bool true, .slice A 0 c, .slice D m d] 36))
                          try simp only at q ⊢
                          go_enter Try.func59, Try.ntmps59
                          go_wp2_with (first | (go_at_call 39; (first | (with_reducible refine (specInB sport 65535 true _ U1.out).mono ?_) | (with_reducible refine (specInB dport 65535 true _ U2.out).mono ?_)); rintro e w1 ⟨rfl, rfl⟩))
                          go_ret
                          exact ⟨ret_bool (by simp [Uh.ok, Uh.fields, noF, Uh.unused, kindB, Uh.size, U1.out, U2.out, *]), Joins.below_alloc1 w _⟩
                        | false =>
                          by_cases z_z : m ≤ 1492
                          case neg =>
                            have z_y : ¬ 8 + (m : Int) ≤ 1500 := by omega
                            have q := Lib.hid (K.new w (.cells #[.int .i64 2, .int .i64 sport, .int .i64 dport, .int .i64 0, .int .i64 0, .int .i64 0, .int .i64 0, .int .i64 0, .int .i64 0, .int .i64 0, .int .i64 0, .bool false, .slice A 0 c, .slice D m d] 36))
                            have HS := Lib.hid (fun v => show Calls Try.prog 61 #[.agg #[.int .i64 2, .int .i64 sport, .int .i64 dport, .int .i64 0, .int .i64 0, .int .i64 0, .int .i64 0, .int .i64 0, .int .i64 0, .int .i64 0, .int .i64 0, .bool false, .slice A 0 c, .slice D m d]] v fun e w' => e = .returned (.int .i64 (8 + (m : Int))) ∧ Below v.heap.size v w' from (show Uh.size (Uh.mk 2 sport dport 0 0 0 0 0 0 0 0 false) 0 m = 8 + (m : Int) by simp [Uh.size]) ▸ specUpSize (Uh.mk 2 sport dport 0 0 0 0 0 0 0 0 false) A D 0 c m d v (by omega) hm)
                            try simp only at q HS ⊢
                            go_enter Try.func59, Try.ntmps59
                            go_wp2_with (first | (go_at_call 39; (first | (with_reducible refine (specInB sport 65535 true _ U1.out).mono ?_) | (with_reducible refine (specInB dport 65535 true _ U2.out).mono ?_)); rintro e w1 ⟨rfl, rfl⟩) | (with_reducible refine loadU rfl _ rfl w.heap.size rfl q.out ?_) | (go_at_call 61; refine Calls.mono (HS.out _) ?_; rintro e w9 ⟨rfl, b9⟩; have B9 := Lib.hid (bthen (Joins.below_alloc1 w _) b9); clear b9))
                            go_ret
                            exact ⟨ret_bool (by simp [Uh.ok, Uh.fields, noF, Uh.unused, kindB, Uh.size, U1.out, U2.out, *] <;> omega), B9.out⟩
                          case pos =>
                            have z_y : 8 + (m : Int) ≤ 1500 := by omega
                            have q := Lib.hid (K.new w (.cells #[.int .i64 2, .int .i64 sport, .int .i64 dport, .int .i64 0, .int .i64 0, .int .i64 0, .int .i64 0, .int .i64 0, .int .i64 0, .int .i64 0, .int .i64 0, .bool false, .slice A 0 c, .slice D m d] 36))
                            have HS := Lib.hid (fun v => show Calls Try.prog 61 #[.agg #[.int .i64 2, .int .i64 sport, .int .i64 dport, .int .i64 0, .int .i64 0, .int .i64 0, .int .i64 0, .int .i64 0, .int .i64 0, .int .i64 0, .int .i64 0, .bool false, .slice A 0 c, .slice D m d]] v fun e w' => e = .returned (.int .i64 (8 + (m : Int))) ∧ Below v.heap.size v w' from (show Uh.size (Uh.mk 2 sport dport 0 0 0 0 0 0 0 0 false) 0 m = 8 + (m : Int) by simp [Uh.size]) ▸ specUpSize (Uh.mk 2 sport dport 0 0 0 0 0 0 0 0 false) A D 0 c m d v (by omega) hm)
                            try simp only at q HS ⊢
                            go_enter Try.func59, Try.ntmps59
                            go_wp2_with (first | (go_at_call 39; (first | (with_reducible refine (specInB sport 65535 true _ U1.out).mono ?_) | (with_reducible refine (specInB dport 65535 true _ U2.out).mono ?_)); rintro e w1 ⟨rfl, rfl⟩) | (with_reducible refine loadU rfl _ rfl w.heap.size rfl q.out ?_) | (go_at_call 61; refine Calls.mono (HS.out _) ?_; rintro e w9 ⟨rfl, b9⟩; have B9 := Lib.hid (bthen (Joins.below_alloc1 w _) b9); clear b9))
                            go_ret
                            exact ⟨ret_bool (by simp [Uh.ok, Uh.fields, noF, Uh.unused, kindB, Uh.size, U1.out, U2.out, *] <;> omega), B9.out⟩
end Go.Proofs.Ythogonpjkngpjaa
