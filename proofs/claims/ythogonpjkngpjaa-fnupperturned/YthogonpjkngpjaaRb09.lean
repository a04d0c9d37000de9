/-
  The program looks whether no field of an upper layer is set.
-/
import Derived.Test.YthogonpjkngpjaaRb07
import Derived.Test.YthogonpjkngpjaaRb06
namespace Go.Proofs.Ythogonpjkngpjaa
set_option maxRecDepth 100000
open Go.RowKit

set_option maxHeartbeats 4000000 in
theorem noFC0 (kind sport dport seq ack bits window urgent ty code rest : Int) (nosum : Bool) (A D : Option Addr) (n c m d : Nat) (w : World) : Calls Try.prog 101 #[.agg #[.int .i64 kind, .int .i64 sport, .int .i64 dport, .int .i64 seq, .int .i64 ack, .int .i64 bits, .int .i64 window, .int .i64 urgent, .int .i64 ty, .int .i64 code, .int .i64 rest, .bool nosum, .slice A n c, .slice D m d]] w fun e w' => e = .returned (.bool (noF (Uh.mk kind sport dport seq ack bits window urgent ty code rest nosum) n)) ∧ Below w.heap.size w w' := by
  try simp only
  by_cases z_sport : sport = 0
  case neg =>
    go_enter Try.func101, Try.ntmps101
    go_wp2
    go_ret
    exact ⟨ret_bool (by simp [noF, *]), Joins.below_alloc1 w _⟩
  case pos =>
    subst z_sport
    by_cases z_dport : dport = 0
    case neg =>
      go_enter Try.func101, Try.ntmps101
      go_wp2
      go_ret
      exact ⟨ret_bool (by simp [noF, *]), Joins.below_alloc1 w _⟩
    case pos =>
      subst z_dport
      by_cases z_seq : seq = 0
      case neg =>
        go_enter Try.func101, Try.ntmps101
        go_wp2
        go_ret
        exact ⟨ret_bool (by simp [noF, *]), Joins.below_alloc1 w _⟩
      case pos =>
        subst z_seq
        by_cases z_ack : ack = 0
        case neg =>
          go_enter Try.func101, Try.ntmps101
          go_wp2
          go_ret
          exact ⟨ret_bool (by simp [noF, *]), Joins.below_alloc1 w _⟩
        case pos =>
          subst z_ack
          by_cases z_bits : bits = 0
          case neg =>
            go_enter Try.func101, Try.ntmps101
            go_wp2
            go_ret
            exact ⟨ret_bool (by simp [noF, *]), Joins.below_alloc1 w _⟩
          case pos =>
            subst z_bits
            by_cases z_window : window = 0
            case neg =>
              go_enter Try.func101, Try.ntmps101
              go_wp2
              go_ret
              exact ⟨ret_bool (by simp [noF, *]), Joins.below_alloc1 w _⟩
            case pos =>
              subst z_window
              by_cases z_urgent : urgent = 0
              case neg =>
                go_enter Try.func101, Try.ntmps101
                go_wp2
                go_ret
                exact ⟨ret_bool (by simp [noF, *]), Joins.below_alloc1 w _⟩
              case pos =>
                subst z_urgent
                by_cases z_ty : ty = 0
                case neg =>
                  go_enter Try.func101, Try.ntmps101
                  go_wp2
                  go_ret
                  exact ⟨ret_bool (by simp [noF, *]), Joins.below_alloc1 w _⟩
                case pos =>
                  subst z_ty
                  by_cases z_code : code = 0
                  case neg =>
                    go_enter Try.func101, Try.ntmps101
                    go_wp2
                    go_ret
                    exact ⟨ret_bool (by simp [noF, *]), Joins.below_alloc1 w _⟩
                  case pos =>
                    subst z_code
                    by_cases z_rest : rest = 0
                    case neg =>
                      go_enter Try.func101, Try.ntmps101
                      go_wp2
                      go_ret
                      exact ⟨ret_bool (by simp [noF, *]), Joins.below_alloc1 w _⟩
                    case pos =>
                      subst z_rest
                      cases nosum with
                      | true =>
                        go_enter Try.func101, Try.ntmps101
                        go_wp2
                        go_ret
                        exact ⟨ret_bool (by simp [noF, *]), Joins.below_alloc1 w _⟩
                      | false =>
                        by_cases z_n : n = 0
                        case neg =>
                          have z_m : ¬ (n : Int) = 0 := by omega
                          go_enter Try.func101, Try.ntmps101
                          go_wp2
                          go_ret
                          exact ⟨ret_bool (by simp [noF, *]), Joins.below_alloc1 w _⟩
                        case pos =>
                          subst z_n
                          go_enter Try.func101, Try.ntmps101
                          go_wp2
                          go_ret
                          exact ⟨ret_bool (by simp [noF, *]), Joins.below_alloc1 w _⟩

theorem noFC (x : Uh) (A D : Option Addr) (n c m d : Nat) (w : World) : Calls Try.prog 101 #[.agg #[.int .i64 x.kind, .int .i64 x.sport, .int .i64 x.dport, .int .i64 x.seq, .int .i64 x.ack, .int .i64 x.bits, .int .i64 x.window, .int .i64 x.urgent, .int .i64 x.ty, .int .i64 x.code, .int .i64 x.rest, .bool x.nosum, .slice A n c, .slice D m d]] w fun e w' => e = .returned (.bool (noF x n)) ∧ Below w.heap.size w w' := noFC0 x.kind x.sport x.dport x.seq x.ack x.bits x.window x.urgent x.ty x.code x.rest x.nosum A D n c m d w

end Go.Proofs.Ythogonpjkngpjaa
