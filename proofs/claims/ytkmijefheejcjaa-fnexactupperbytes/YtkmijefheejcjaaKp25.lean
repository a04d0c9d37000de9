/-
  UpperOk in the model: kind other than the four, between addresses of kind 6.
-/
import Derived.Test.YtkmijefheejcjaaKp04
import Derived.Test.YtkmijefheejcjaaKp07
import Derived.Test.YtkmijefheejcjaaKp15
namespace Go.Proofs.Ytkmijefheejcjaa
set_option maxRecDepth 100000
open Go.RowKit

theorem specHalfB46 (n : Int) (b : Bool) (w : World) (h : half n = b) : Calls Try.prog 98 #[.int .i64 n] w fun e w' => e = .returned (.bool b) ∧ w = w' := h ▸ specHalf n w

set_option maxHeartbeats 8000000 in
theorem upOkS4_6 (kind sport dport seq ack bits window urgent ty code rest : Int) (nosum : Bool) (A D : Option Addr) (n c m d : Nat) (w : World) (hn : n ≤ 1048576) (hm : m ≤ 1048576) (k0 : ¬ kind = 0) (k1 : ¬ kind = 1) (k2 : ¬ kind = 2) (k3 : ¬ kind = 3) : Calls Try.prog 40 #[.agg #[.int .i64 (Uh.mk kind sport dport seq ack bits window urgent ty code rest nosum).kind, .int .i64 (Uh.mk kind sport dport seq ack bits window urgent ty code rest nosum).sport, .int .i64 (Uh.mk kind sport dport seq ack bits window urgent ty code rest nosum).dport, .int .i64 (Uh.mk kind sport dport seq ack bits window urgent ty code rest nosum).seq, .int .i64 (Uh.mk kind sport dport seq ack bits window urgent ty code rest nosum).ack, .int .i64 (Uh.mk kind sport dport seq ack bits window urgent ty code rest nosum).bits, .int .i64 (Uh.mk kind sport dport seq ack bits window urgent ty code rest nosum).window, .int .i64 (Uh.mk kind sport dport seq ack bits window urgent ty code rest nosum).urgent, .int .i64 (Uh.mk kind sport dport seq ack bits window urgent ty code rest nosum).ty, .int .i64 (Uh.mk kind sport dport seq ack bits window urgent ty code rest nosum).code, .int .i64 (Uh.mk kind sport dport seq ack bits window urgent ty code rest nosum).rest, .bool (Uh.mk kind sport dport seq ack bits window urgent ty code rest nosum).nosum, .slice A n c, .slice D m d], .int .i64 6] w fun e w' => e = .returned (.bool (Uh.ok (Uh.mk kind sport dport seq ack bits window urgent ty code rest nosum) 6 n m)) ∧ Below w.heap.size w w' := by
  have e1 : (kind == 1) = false := by simp [k1]
  have e2 : (kind == 2) = false := by simp [k2]
  have e3 : (kind == 3) = false := by simp [k3]
  cases u1 : upTo sport 65535 with
  | false =>
    have U1 := Lib.hid u1
    clear u1
    have zz : ¬ sport = 0 := fun e => by have := U1.out; rw [e, upTo_zero _ (by omega)] at this; cases this
    have q := Lib.hid (K.new w (.cells #[.int .i64 (Uh.mk kind sport dport seq ack bits window urgent ty code rest nosum).kind, .int .i64 (Uh.mk kind sport dport seq ack bits window urgent ty code rest nosum).sport, .int .i64 (Uh.mk kind sport dport seq ack bits window urgent ty code rest nosum).dport, .int .i64 (Uh.mk kind sport dport seq ack bits window urgent ty code rest nosum).seq, .int .i64 (Uh.mk kind sport dport seq ack bits window urgent ty code rest nosum).ack, .int .i64 (Uh.mk kind sport dport seq ack bits window urgent ty code rest nosum).bits, .int .i64 (Uh.mk kind sport dport seq ack bits window urgent ty code rest nosum).window, .int .i64 (Uh.mk kind sport dport seq ack bits window urgent ty code rest nosum).urgent, .int .i64 (Uh.mk kind sport dport seq ack bits window urgent ty code rest nosum).ty, .int .i64 (Uh.mk kind sport dport seq ack bits window urgent ty code rest nosum).code, .int .i64 (Uh.mk kind sport dport seq ack bits window urgent ty code rest nosum).rest, .bool (Uh.mk kind sport dport seq ack bits window urgent ty code rest nosum).nosum, .slice A n c, .slice D m d] 38))
    simp only at q ⊢
    go_enter Try.func40, Try.ntmps40
    go_wp2_with (first | (go_at_call 62; (first | (with_reducible refine (specInB sport 65535 false _ U1.out).mono ?_)); rintro e w1 ⟨rfl, rfl⟩))
    go_ret
    exact ⟨ret_bool (by simp [Uh.ok, Uh.fields, noF, Uh.unused, kindB, Uh.size, *]), Joins.below_alloc1 w _⟩
  | true =>
    have U1 := Lib.hid u1
    clear u1
    cases u2 : upTo dport 65535 with
    | false =>
      have U2 := Lib.hid u2
      clear u2
      have zz : ¬ dport = 0 := fun e => by have := U2.out; rw [e, upTo_zero _ (by omega)] at this; cases this
      have q := Lib.hid (K.new w (.cells #[.int .i64 (Uh.mk kind sport dport seq ack bits window urgent ty code rest nosum).kind, .int .i64 (Uh.mk kind sport dport seq ack bits window urgent ty code rest nosum).sport, .int .i64 (Uh.mk kind sport dport seq ack bits window urgent ty code rest nosum).dport, .int .i64 (Uh.mk kind sport dport seq ack bits window urgent ty code rest nosum).seq, .int .i64 (Uh.mk kind sport dport seq ack bits window urgent ty code rest nosum).ack, .int .i64 (Uh.mk kind sport dport seq ack bits window urgent ty code rest nosum).bits, .int .i64 (Uh.mk kind sport dport seq ack bits window urgent ty code rest nosum).window, .int .i64 (Uh.mk kind sport dport seq ack bits window urgent ty code rest nosum).urgent, .int .i64 (Uh.mk kind sport dport seq ack bits window urgent ty code rest nosum).ty, .int .i64 (Uh.mk kind sport dport seq ack bits window urgent ty code rest nosum).code, .int .i64 (Uh.mk kind sport dport seq ack bits window urgent ty code rest nosum).rest, .bool (Uh.mk kind sport dport seq ack bits window urgent ty code rest nosum).nosum, .slice A n c, .slice D m d] 38))
      simp only at q ⊢
      go_enter Try.func40, Try.ntmps40
      go_wp2_with (first | (go_at_call 62; (first | (with_reducible refine (specInB sport 65535 true _ U1.out).mono ?_) | (with_reducible refine (specInB dport 65535 false _ U2.out).mono ?_)); rintro e w1 ⟨rfl, rfl⟩))
      go_ret
      exact ⟨ret_bool (by simp [Uh.ok, Uh.fields, noF, Uh.unused, kindB, Uh.size, *]), Joins.below_alloc1 w _⟩
    | true =>
      have U2 := Lib.hid u2
      clear u2
      by_cases z_sport : sport = 0
      case neg =>
        have q := Lib.hid (K.new w (.cells #[.int .i64 (Uh.mk kind sport dport seq ack bits window urgent ty code rest nosum).kind, .int .i64 (Uh.mk kind sport dport seq ack bits window urgent ty code rest nosum).sport, .int .i64 (Uh.mk kind sport dport seq ack bits window urgent ty code rest nosum).dport, .int .i64 (Uh.mk kind sport dport seq ack bits window urgent ty code rest nosum).seq, .int .i64 (Uh.mk kind sport dport seq ack bits window urgent ty code rest nosum).ack, .int .i64 (Uh.mk kind sport dport seq ack bits window urgent ty code rest nosum).bits, .int .i64 (Uh.mk kind sport dport seq ack bits window urgent ty code rest nosum).window, .int .i64 (Uh.mk kind sport dport seq ack bits window urgent ty code rest nosum).urgent, .int .i64 (Uh.mk kind sport dport seq ack bits window urgent ty code rest nosum).ty, .int .i64 (Uh.mk kind sport dport seq ack bits window urgent ty code rest nosum).code, .int .i64 (Uh.mk kind sport dport seq ack bits window urgent ty code rest nosum).rest, .bool (Uh.mk kind sport dport seq ack bits window urgent ty code rest nosum).nosum, .slice A n c, .slice D m d] 38))
        simp only at q ⊢
        go_enter Try.func40, Try.ntmps40
        go_wp2_with (first | (go_at_call 62; (first | (with_reducible refine (specInB sport 65535 true _ U1.out).mono ?_) | (with_reducible refine (specInB dport 65535 true _ U2.out).mono ?_)); rintro e w1 ⟨rfl, rfl⟩))
        go_ret
        exact ⟨ret_bool (by simp [Uh.ok, Uh.fields, noF, Uh.unused, kindB, Uh.size, *]), Joins.below_alloc1 w _⟩
      case pos =>
        subst z_sport
        clear U1
        by_cases z_dport : dport = 0
        case neg =>
          have q := Lib.hid (K.new w (.cells #[.int .i64 (Uh.mk kind 0 dport seq ack bits window urgent ty code rest nosum).kind, .int .i64 (Uh.mk kind 0 dport seq ack bits window urgent ty code rest nosum).sport, .int .i64 (Uh.mk kind 0 dport seq ack bits window urgent ty code rest nosum).dport, .int .i64 (Uh.mk kind 0 dport seq ack bits window urgent ty code rest nosum).seq, .int .i64 (Uh.mk kind 0 dport seq ack bits window urgent ty code rest nosum).ack, .int .i64 (Uh.mk kind 0 dport seq ack bits window urgent ty code rest nosum).bits, .int .i64 (Uh.mk kind 0 dport seq ack bits window urgent ty code rest nosum).window, .int .i64 (Uh.mk kind 0 dport seq ack bits window urgent ty code rest nosum).urgent, .int .i64 (Uh.mk kind 0 dport seq ack bits window urgent ty code rest nosum).ty, .int .i64 (Uh.mk kind 0 dport seq ack bits window urgent ty code rest nosum).code, .int .i64 (Uh.mk kind 0 dport seq ack bits window urgent ty code rest nosum).rest, .bool (Uh.mk kind 0 dport seq ack bits window urgent ty code rest nosum).nosum, .slice A n c, .slice D m d] 38))
          simp only at q ⊢
          go_enter Try.func40, Try.ntmps40
          go_wp2_with (first | (go_at_call 62; (first | (with_reducible refine (specInB 0 65535 true _ (by decide)).mono ?_) | (with_reducible refine (specInB dport 65535 true _ U2.out).mono ?_)); rintro e w1 ⟨rfl, rfl⟩))
          go_ret
          exact ⟨ret_bool (by simp [Uh.ok, Uh.fields, noF, Uh.unused, kindB, Uh.size, *]), Joins.below_alloc1 w _⟩
        case pos =>
          subst z_dport
          clear U2
          by_cases z_seq : seq = 0
          case neg =>
            have q := Lib.hid (K.new w (.cells #[.int .i64 (Uh.mk kind 0 0 seq ack bits window urgent ty code rest nosum).kind, .int .i64 (Uh.mk kind 0 0 seq ack bits window urgent ty code rest nosum).sport, .int .i64 (Uh.mk kind 0 0 seq ack bits window urgent ty code rest nosum).dport, .int .i64 (Uh.mk kind 0 0 seq ack bits window urgent ty code rest nosum).seq, .int .i64 (Uh.mk kind 0 0 seq ack bits window urgent ty code rest nosum).ack, .int .i64 (Uh.mk kind 0 0 seq ack bits window urgent ty code rest nosum).bits, .int .i64 (Uh.mk kind 0 0 seq ack bits window urgent ty code rest nosum).window, .int .i64 (Uh.mk kind 0 0 seq ack bits window urgent ty code rest nosum).urgent, .int .i64 (Uh.mk kind 0 0 seq ack bits window urgent ty code rest nosum).ty, .int .i64 (Uh.mk kind 0 0 seq ack bits window urgent ty code rest nosum).code, .int .i64 (Uh.mk kind 0 0 seq ack bits window urgent ty code rest nosum).rest, .bool (Uh.mk kind 0 0 seq ack bits window urgent ty code rest nosum).nosum, .slice A n c, .slice D m d] 38))
            simp only at q ⊢
            go_enter Try.func40, Try.ntmps40
            go_wp2_with (first | (go_at_call 62; (first | (with_reducible refine (specInB 0 65535 true _ (by decide)).mono ?_) | (with_reducible refine (specInB 0 65535 true _ (by decide)).mono ?_)); rintro e w1 ⟨rfl, rfl⟩))
            go_ret
            exact ⟨ret_bool (by simp [Uh.ok, Uh.fields, noF, Uh.unused, kindB, Uh.size, *]), Joins.below_alloc1 w _⟩
          case pos =>
            subst z_seq
            by_cases z_ack : ack = 0
            case neg =>
              have q := Lib.hid (K.new w (.cells #[.int .i64 (Uh.mk kind 0 0 0 ack bits window urgent ty code rest nosum).kind, .int .i64 (Uh.mk kind 0 0 0 ack bits window urgent ty code rest nosum).sport, .int .i64 (Uh.mk kind 0 0 0 ack bits window urgent ty code rest nosum).dport, .int .i64 (Uh.mk kind 0 0 0 ack bits window urgent ty code rest nosum).seq, .int .i64 (Uh.mk kind 0 0 0 ack bits window urgent ty code rest nosum).ack, .int .i64 (Uh.mk kind 0 0 0 ack bits window urgent ty code rest nosum).bits, .int .i64 (Uh.mk kind 0 0 0 ack bits window urgent ty code rest nosum).window, .int .i64 (Uh.mk kind 0 0 0 ack bits window urgent ty code rest nosum).urgent, .int .i64 (Uh.mk kind 0 0 0 ack bits window urgent ty code rest nosum).ty, .int .i64 (Uh.mk kind 0 0 0 ack bits window urgent ty code rest nosum).code, .int .i64 (Uh.mk kind 0 0 0 ack bits window urgent ty code rest nosum).rest, .bool (Uh.mk kind 0 0 0 ack bits window urgent ty code rest nosum).nosum, .slice A n c, .slice D m d] 38))
              simp only at q ⊢
              go_enter Try.func40, Try.ntmps40
              go_wp2_with (first | (go_at_call 62; (first | (with_reducible refine (specInB 0 65535 true _ (by decide)).mono ?_) | (with_reducible refine (specInB 0 65535 true _ (by decide)).mono ?_)); rintro e w1 ⟨rfl, rfl⟩))
              go_ret
              exact ⟨ret_bool (by simp [Uh.ok, Uh.fields, noF, Uh.unused, kindB, Uh.size, *]), Joins.below_alloc1 w _⟩
            case pos =>
              subst z_ack
              by_cases z_bits : bits = 0
              case neg =>
                have q := Lib.hid (K.new w (.cells #[.int .i64 (Uh.mk kind 0 0 0 0 bits window urgent ty code rest nosum).kind, .int .i64 (Uh.mk kind 0 0 0 0 bits window urgent ty code rest nosum).sport, .int .i64 (Uh.mk kind 0 0 0 0 bits window urgent ty code rest nosum).dport, .int .i64 (Uh.mk kind 0 0 0 0 bits window urgent ty code rest nosum).seq, .int .i64 (Uh.mk kind 0 0 0 0 bits window urgent ty code rest nosum).ack, .int .i64 (Uh.mk kind 0 0 0 0 bits window urgent ty code rest nosum).bits, .int .i64 (Uh.mk kind 0 0 0 0 bits window urgent ty code rest nosum).window, .int .i64 (Uh.mk kind 0 0 0 0 bits window urgent ty code rest nosum).urgent, .int .i64 (Uh.mk kind 0 0 0 0 bits window urgent ty code rest nosum).ty, .int .i64 (Uh.mk kind 0 0 0 0 bits window urgent ty code rest nosum).code, .int .i64 (Uh.mk kind 0 0 0 0 bits window urgent ty code rest nosum).rest, .bool (Uh.mk kind 0 0 0 0 bits window urgent ty code rest nosum).nosum, .slice A n c, .slice D m d] 38))
                simp only at q ⊢
                go_enter Try.func40, Try.ntmps40
                go_wp2_with (first | (go_at_call 62; (first | (with_reducible refine (specInB 0 65535 true _ (by decide)).mono ?_) | (with_reducible refine (specInB 0 65535 true _ (by decide)).mono ?_)); rintro e w1 ⟨rfl, rfl⟩))
                go_ret
                exact ⟨ret_bool (by simp [Uh.ok, Uh.fields, noF, Uh.unused, kindB, Uh.size, *]), Joins.below_alloc1 w _⟩
              case pos =>
                subst z_bits
                by_cases z_window : window = 0
                case neg =>
                  have q := Lib.hid (K.new w (.cells #[.int .i64 (Uh.mk kind 0 0 0 0 0 window urgent ty code rest nosum).kind, .int .i64 (Uh.mk kind 0 0 0 0 0 window urgent ty code rest nosum).sport, .int .i64 (Uh.mk kind 0 0 0 0 0 window urgent ty code rest nosum).dport, .int .i64 (Uh.mk kind 0 0 0 0 0 window urgent ty code rest nosum).seq, .int .i64 (Uh.mk kind 0 0 0 0 0 window urgent ty code rest nosum).ack, .int .i64 (Uh.mk kind 0 0 0 0 0 window urgent ty code rest nosum).bits, .int .i64 (Uh.mk kind 0 0 0 0 0 window urgent ty code rest nosum).window, .int .i64 (Uh.mk kind 0 0 0 0 0 window urgent ty code rest nosum).urgent, .int .i64 (Uh.mk kind 0 0 0 0 0 window urgent ty code rest nosum).ty, .int .i64 (Uh.mk kind 0 0 0 0 0 window urgent ty code rest nosum).code, .int .i64 (Uh.mk kind 0 0 0 0 0 window urgent ty code rest nosum).rest, .bool (Uh.mk kind 0 0 0 0 0 window urgent ty code rest nosum).nosum, .slice A n c, .slice D m d] 38))
                  simp only at q ⊢
                  go_enter Try.func40, Try.ntmps40
                  go_wp2_with (first | (go_at_call 62; (first | (with_reducible refine (specInB 0 65535 true _ (by decide)).mono ?_) | (with_reducible refine (specInB 0 65535 true _ (by decide)).mono ?_)); rintro e w1 ⟨rfl, rfl⟩))
                  go_ret
                  exact ⟨ret_bool (by simp [Uh.ok, Uh.fields, noF, Uh.unused, kindB, Uh.size, *]), Joins.below_alloc1 w _⟩
                case pos =>
                  subst z_window
                  by_cases z_urgent : urgent = 0
                  case neg =>
                    have q := Lib.hid (K.new w (.cells #[.int .i64 (Uh.mk kind 0 0 0 0 0 0 urgent ty code rest nosum).kind, .int .i64 (Uh.mk kind 0 0 0 0 0 0 urgent ty code rest nosum).sport, .int .i64 (Uh.mk kind 0 0 0 0 0 0 urgent ty code rest nosum).dport, .int .i64 (Uh.mk kind 0 0 0 0 0 0 urgent ty code rest nosum).seq, .int .i64 (Uh.mk kind 0 0 0 0 0 0 urgent ty code rest nosum).ack, .int .i64 (Uh.mk kind 0 0 0 0 0 0 urgent ty code rest nosum).bits, .int .i64 (Uh.mk kind 0 0 0 0 0 0 urgent ty code rest nosum).window, .int .i64 (Uh.mk kind 0 0 0 0 0 0 urgent ty code rest nosum).urgent, .int .i64 (Uh.mk kind 0 0 0 0 0 0 urgent ty code rest nosum).ty, .int .i64 (Uh.mk kind 0 0 0 0 0 0 urgent ty code rest nosum).code, .int .i64 (Uh.mk kind 0 0 0 0 0 0 urgent ty code rest nosum).rest, .bool (Uh.mk kind 0 0 0 0 0 0 urgent ty code rest nosum).nosum, .slice A n c, .slice D m d] 38))
                    simp only at q ⊢
                    go_enter Try.func40, Try.ntmps40
                    go_wp2_with (first | (go_at_call 62; (first | (with_reducible refine (specInB 0 65535 true _ (by decide)).mono ?_) | (with_reducible refine (specInB 0 65535 true _ (by decide)).mono ?_)); rintro e w1 ⟨rfl, rfl⟩))
                    go_ret
                    exact ⟨ret_bool (by simp [Uh.ok, Uh.fields, noF, Uh.unused, kindB, Uh.size, *]), Joins.below_alloc1 w _⟩
                  case pos =>
                    subst z_urgent
                    by_cases z_n : n = 0
                    case neg =>
                      have z_m : ¬ (n : Int) = 0 := by omega
                      have q := Lib.hid (K.new w (.cells #[.int .i64 (Uh.mk kind 0 0 0 0 0 0 0 ty code rest nosum).kind, .int .i64 (Uh.mk kind 0 0 0 0 0 0 0 ty code rest nosum).sport, .int .i64 (Uh.mk kind 0 0 0 0 0 0 0 ty code rest nosum).dport, .int .i64 (Uh.mk kind 0 0 0 0 0 0 0 ty code rest nosum).seq, .int .i64 (Uh.mk kind 0 0 0 0 0 0 0 ty code rest nosum).ack, .int .i64 (Uh.mk kind 0 0 0 0 0 0 0 ty code rest nosum).bits, .int .i64 (Uh.mk kind 0 0 0 0 0 0 0 ty code rest nosum).window, .int .i64 (Uh.mk kind 0 0 0 0 0 0 0 ty code rest nosum).urgent, .int .i64 (Uh.mk kind 0 0 0 0 0 0 0 ty code rest nosum).ty, .int .i64 (Uh.mk kind 0 0 0 0 0 0 0 ty code rest nosum).code, .int .i64 (Uh.mk kind 0 0 0 0 0 0 0 ty code rest nosum).rest, .bool (Uh.mk kind 0 0 0 0 0 0 0 ty code rest nosum).nosum, .slice A n c, .slice D m d] 38))
                      simp only at q ⊢
                      go_enter Try.func40, Try.ntmps40
                      go_wp2_with (first | (go_at_call 62; (first | (with_reducible refine (specInB 0 65535 true _ (by decide)).mono ?_) | (with_reducible refine (specInB 0 65535 true _ (by decide)).mono ?_)); rintro e w1 ⟨rfl, rfl⟩))
                      go_ret
                      exact ⟨ret_bool (by simp [Uh.ok, Uh.fields, noF, Uh.unused, kindB, Uh.size, *]), Joins.below_alloc1 w _⟩
                    case pos =>
                      subst z_n
                      by_cases z_ty : ty = 0
                      case neg =>
                        have q := Lib.hid (K.new w (.cells #[.int .i64 (Uh.mk kind 0 0 0 0 0 0 0 ty code rest nosum).kind, .int .i64 (Uh.mk kind 0 0 0 0 0 0 0 ty code rest nosum).sport, .int .i64 (Uh.mk kind 0 0 0 0 0 0 0 ty code rest nosum).dport, .int .i64 (Uh.mk kind 0 0 0 0 0 0 0 ty code rest nosum).seq, .int .i64 (Uh.mk kind 0 0 0 0 0 0 0 ty code rest nosum).ack, .int .i64 (Uh.mk kind 0 0 0 0 0 0 0 ty code rest nosum).bits, .int .i64 (Uh.mk kind 0 0 0 0 0 0 0 ty code rest nosum).window, .int .i64 (Uh.mk kind 0 0 0 0 0 0 0 ty code rest nosum).urgent, .int .i64 (Uh.mk kind 0 0 0 0 0 0 0 ty code rest nosum).ty, .int .i64 (Uh.mk kind 0 0 0 0 0 0 0 ty code rest nosum).code, .int .i64 (Uh.mk kind 0 0 0 0 0 0 0 ty code rest nosum).rest, .bool (Uh.mk kind 0 0 0 0 0 0 0 ty code rest nosum).nosum, .slice A 0 c, .slice D m d] 38))
                        simp only at q ⊢
                        go_enter Try.func40, Try.ntmps40
                        go_wp2_with (first | (go_at_call 62; (first | (with_reducible refine (specInB 0 65535 true _ (by decide)).mono ?_) | (with_reducible refine (specInB 0 65535 true _ (by decide)).mono ?_)); rintro e w1 ⟨rfl, rfl⟩))
                        go_ret
                        exact ⟨ret_bool (by simp [Uh.ok, Uh.fields, noF, Uh.unused, kindB, Uh.size, *]), Joins.below_alloc1 w _⟩
                      case pos =>
                        subst z_ty
                        by_cases z_code : code = 0
                        case neg =>
                          have q := Lib.hid (K.new w (.cells #[.int .i64 (Uh.mk kind 0 0 0 0 0 0 0 0 code rest nosum).kind, .int .i64 (Uh.mk kind 0 0 0 0 0 0 0 0 code rest nosum).sport, .int .i64 (Uh.mk kind 0 0 0 0 0 0 0 0 code rest nosum).dport, .int .i64 (Uh.mk kind 0 0 0 0 0 0 0 0 code rest nosum).seq, .int .i64 (Uh.mk kind 0 0 0 0 0 0 0 0 code rest nosum).ack, .int .i64 (Uh.mk kind 0 0 0 0 0 0 0 0 code rest nosum).bits, .int .i64 (Uh.mk kind 0 0 0 0 0 0 0 0 code rest nosum).window, .int .i64 (Uh.mk kind 0 0 0 0 0 0 0 0 code rest nosum).urgent, .int .i64 (Uh.mk kind 0 0 0 0 0 0 0 0 code rest nosum).ty, .int .i64 (Uh.mk kind 0 0 0 0 0 0 0 0 code rest nosum).code, .int .i64 (Uh.mk kind 0 0 0 0 0 0 0 0 code rest nosum).rest, .bool (Uh.mk kind 0 0 0 0 0 0 0 0 code rest nosum).nosum, .slice A 0 c, .slice D m d] 38))
                          simp only at q ⊢
                          go_enter Try.func40, Try.ntmps40
                          go_wp2_with (first | (go_at_call 62; (first | (with_reducible refine (specInB 0 65535 true _ (by decide)).mono ?_) | (with_reducible refine (specInB 0 65535 true _ (by decide)).mono ?_)); rintro e w1 ⟨rfl, rfl⟩))
                          go_ret
                          exact ⟨ret_bool (by simp [Uh.ok, Uh.fields, noF, Uh.unused, kindB, Uh.size, *]), Joins.below_alloc1 w _⟩
                        case pos =>
                          subst z_code
                          by_cases z_rest : rest = 0
                          case neg =>
                            have q := Lib.hid (K.new w (.cells #[.int .i64 (Uh.mk kind 0 0 0 0 0 0 0 0 0 rest nosum).kind, .int .i64 (Uh.mk kind 0 0 0 0 0 0 0 0 0 rest nosum).sport, .int .i64 (Uh.mk kind 0 0 0 0 0 0 0 0 0 rest nosum).dport, .int .i64 (Uh.mk kind 0 0 0 0 0 0 0 0 0 rest nosum).seq, .int .i64 (Uh.mk kind 0 0 0 0 0 0 0 0 0 rest nosum).ack, .int .i64 (Uh.mk kind 0 0 0 0 0 0 0 0 0 rest nosum).bits, .int .i64 (Uh.mk kind 0 0 0 0 0 0 0 0 0 rest nosum).window, .int .i64 (Uh.mk kind 0 0 0 0 0 0 0 0 0 rest nosum).urgent, .int .i64 (Uh.mk kind 0 0 0 0 0 0 0 0 0 rest nosum).ty, .int .i64 (Uh.mk kind 0 0 0 0 0 0 0 0 0 rest nosum).code, .int .i64 (Uh.mk kind 0 0 0 0 0 0 0 0 0 rest nosum).rest, .bool (Uh.mk kind 0 0 0 0 0 0 0 0 0 rest nosum).nosum, .slice A 0 c, .slice D m d] 38))
                            simp only at q ⊢
                            go_enter Try.func40, Try.ntmps40
                            go_wp2_with (first | (go_at_call 62; (first | (with_reducible refine (specInB 0 65535 true _ (by decide)).mono ?_) | (with_reducible refine (specInB 0 65535 true _ (by decide)).mono ?_)); rintro e w1 ⟨rfl, rfl⟩))
                            go_ret
                            exact ⟨ret_bool (by simp [Uh.ok, Uh.fields, noF, Uh.unused, kindB, Uh.size, *]), Joins.below_alloc1 w _⟩
                          case pos =>
                            subst z_rest
                            cases nosum with
                            | true =>
                              have q := Lib.hid (K.new w (.cells #[.int .i64 (Uh.mk kind 0 0 0 0 0 0 0 0 0 0 true).kind, .int .i64 (Uh.mk kind 0 0 0 0 0 0 0 0 0 0 true).sport, .int .i64 (Uh.mk kind 0 0 0 0 0 0 0 0 0 0 true).dport, .int .i64 (Uh.mk kind 0 0 0 0 0 0 0 0 0 0 true).seq, .int .i64 (Uh.mk kind 0 0 0 0 0 0 0 0 0 0 true).ack, .int .i64 (Uh.mk kind 0 0 0 0 0 0 0 0 0 0 true).bits, .int .i64 (Uh.mk kind 0 0 0 0 0 0 0 0 0 0 true).window, .int .i64 (Uh.mk kind 0 0 0 0 0 0 0 0 0 0 true).urgent, .int .i64 (Uh.mk kind 0 0 0 0 0 0 0 0 0 0 true).ty, .int .i64 (Uh.mk kind 0 0 0 0 0 0 0 0 0 0 true).code, .int .i64 (Uh.mk kind 0 0 0 0 0 0 0 0 0 0 true).rest, .bool (Uh.mk kind 0 0 0 0 0 0 0 0 0 0 true).nosum, .slice A 0 c, .slice D m d] 38))
                              simp only at q ⊢
                              go_enter Try.func40, Try.ntmps40
                              go_wp2_with (first | (go_at_call 62; (first | (with_reducible refine (specInB 0 65535 true _ (by decide)).mono ?_) | (with_reducible refine (specInB 0 65535 true _ (by decide)).mono ?_)); rintro e w1 ⟨rfl, rfl⟩))
                              go_ret
                              exact ⟨ret_bool (by simp [Uh.ok, Uh.fields, noF, Uh.unused, kindB, Uh.size, *]), Joins.below_alloc1 w _⟩
                            | false =>
                              have q := Lib.hid (K.new w (.cells #[.int .i64 (Uh.mk kind 0 0 0 0 0 0 0 0 0 0 false).kind, .int .i64 (Uh.mk kind 0 0 0 0 0 0 0 0 0 0 false).sport, .int .i64 (Uh.mk kind 0 0 0 0 0 0 0 0 0 0 false).dport, .int .i64 (Uh.mk kind 0 0 0 0 0 0 0 0 0 0 false).seq, .int .i64 (Uh.mk kind 0 0 0 0 0 0 0 0 0 0 false).ack, .int .i64 (Uh.mk kind 0 0 0 0 0 0 0 0 0 0 false).bits, .int .i64 (Uh.mk kind 0 0 0 0 0 0 0 0 0 0 false).window, .int .i64 (Uh.mk kind 0 0 0 0 0 0 0 0 0 0 false).urgent, .int .i64 (Uh.mk kind 0 0 0 0 0 0 0 0 0 0 false).ty, .int .i64 (Uh.mk kind 0 0 0 0 0 0 0 0 0 0 false).code, .int .i64 (Uh.mk kind 0 0 0 0 0 0 0 0 0 0 false).rest, .bool (Uh.mk kind 0 0 0 0 0 0 0 0 0 0 false).nosum, .slice A 0 c, .slice D m d] 38))
                              have HS := Lib.hid (fun v => show Calls Try.prog 47 #[.agg #[.int .i64 (Uh.mk kind 0 0 0 0 0 0 0 0 0 0 false).kind, .int .i64 (Uh.mk kind 0 0 0 0 0 0 0 0 0 0 false).sport, .int .i64 (Uh.mk kind 0 0 0 0 0 0 0 0 0 0 false).dport, .int .i64 (Uh.mk kind 0 0 0 0 0 0 0 0 0 0 false).seq, .int .i64 (Uh.mk kind 0 0 0 0 0 0 0 0 0 0 false).ack, .int .i64 (Uh.mk kind 0 0 0 0 0 0 0 0 0 0 false).bits, .int .i64 (Uh.mk kind 0 0 0 0 0 0 0 0 0 0 false).window, .int .i64 (Uh.mk kind 0 0 0 0 0 0 0 0 0 0 false).urgent, .int .i64 (Uh.mk kind 0 0 0 0 0 0 0 0 0 0 false).ty, .int .i64 (Uh.mk kind 0 0 0 0 0 0 0 0 0 0 false).code, .int .i64 (Uh.mk kind 0 0 0 0 0 0 0 0 0 0 false).rest, .bool (Uh.mk kind 0 0 0 0 0 0 0 0 0 0 false).nosum, .slice A 0 c, .slice D m d]] v fun e w' => e = .returned (.int .i64 (-1)) ∧ Below v.heap.size v w' from (show Uh.size (Uh.mk kind 0 0 0 0 0 0 0 0 0 0 false) 0 m = -1 by simp [Uh.size, k0, k1, k2, k3]) ▸ specUpSize (Uh.mk kind 0 0 0 0 0 0 0 0 0 0 false) A D 0 c m d v (by omega) hm)
                              simp only at q HS ⊢
                              go_enter Try.func40, Try.ntmps40
                              go_wp2_with (first | (go_at_call 62; (first | (with_reducible refine (specInB 0 65535 true _ (by decide)).mono ?_) | (with_reducible refine (specInB 0 65535 true _ (by decide)).mono ?_)); rintro e w1 ⟨rfl, rfl⟩) | (with_reducible refine loadU rfl _ rfl w.heap.size rfl q.out ?_) | (go_at_call 47; refine Calls.mono (HS.out _) ?_; rintro e w9 ⟨rfl, b9⟩; have B9 := Lib.hid (bthen (Joins.below_alloc1 w _) b9); clear b9))
                              go_ret
                              exact ⟨ret_bool (by simp [Uh.ok, Uh.fields, noF, Uh.unused, kindB, Uh.size, *] <;> omega), B9.out⟩

end Go.Proofs.Ytkmijefheejcjaa
