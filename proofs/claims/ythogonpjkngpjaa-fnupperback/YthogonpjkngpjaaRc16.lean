/-
  The methods of the formats: the fields that the kind uses, the others alone.
-/
import Derived.Test.YthogonpjkngpjaaRc11
import Derived.Test.YthogonpjkngpjaaRc08
namespace Go.Proofs.Ythogonpjkngpjaa
set_option maxRecDepth 100000
open Go.RowKit
theorem partOkB (n : Int) (b : Bool) (w : World) (h : half n = b) : Calls Try.prog 120 #[.int .i64 n] w fun e w' => e = .returned (.bool b) ∧ w = w' := h ▸ partOkC n w
theorem withinW (n hi : Int) (b : Bool) (w : World) (h : upTo n hi = b) : Calls Try.prog 42 #[.int .i64 n, .int .i64 0, .int .i64 hi] w fun e w' => e = .returned (.bool b) ∧ w = w' := by
  cases b
  · exact within_no n 0 hi w (by simp [upTo] at h; omega)
  · simp [upTo] at h
    exact within_yes n 0 hi w h.1 h.2
set_option maxHeartbeats 400000 in
theorem optW (A : Option Addr) (n c : Nat) (b : Bool) (w : World) (h : optOk n = b) : Calls Try.prog 149 #[.slice A n c] w fun e w' => e = .returned (.bool b) ∧ w = w' := by
  subst h
  by_cases h1 : n ≤ 40
  · have h2 : (n : Int) ≤ 40 := by omega
    by_cases h3 : n % 4 = 0
    · have h4 : (n : Int) % 4 = 0 := by omega
      go_enter Try.func149, Try.ntmps149
      go_wp2
      go_ret
      exact ⟨ret_bool (by simp [optOk, *]), rfl⟩
    · have h4 : ¬ (n : Int) % 4 = 0 := by omega
      go_enter Try.func149, Try.ntmps149
      go_wp2
      go_ret
      exact ⟨ret_bool (by simp [optOk, *]), rfl⟩
  · have h2 : (40 : Int) < n := by omega
    go_enter Try.func149, Try.ntmps149
    go_wp2
    go_ret
    exact ⟨ret_bool (by simp [optOk, h1]), rfl⟩
set_option maxHeartbeats 4000000 in
theorem tcpF0 (kind sport dport seq ack bits window urgent ty code rest : Int) (nosum : Bool) (A D : Option Addr) (n c m d : Nat) (w : World) (k : Int) : Calls Try.prog 147 #[.agg #[.int .i64 kind, .int .i64 sport, .int .i64 dport, .int .i64 seq, .int .i64 ack, .int .i64 bits, .int .i64 window, .int .i64 urgent, .int .i64 ty, .int .i64 code, .int .i64 rest, .bool nosum, .slice A n c, .slice D m d], .int .i64 k] w fun e w' => e = .returned (.bool (upTo (Uh.sport (Uh.mk kind sport dport seq ack bits window urgent ty code rest nosum)) 65535 && upTo (Uh.dport (Uh.mk kind sport dport seq ack bits window urgent ty code rest nosum)) 65535 && half (Uh.seq (Uh.mk kind sport dport seq ack bits window urgent ty code rest nosum)) && half (Uh.ack (Uh.mk kind sport dport seq ack bits window urgent ty code rest nosum)) && upTo (Uh.bits (Uh.mk kind sport dport seq ack bits window urgent ty code rest nosum)) 4095 && upTo (Uh.window (Uh.mk kind sport dport seq ack bits window urgent ty code rest nosum)) 65535 && upTo (Uh.urgent (Uh.mk kind sport dport seq ack bits window urgent ty code rest nosum)) 65535 && optOk n)) ∧ Below w.heap.size w w' := by
  simp only
  cases u1 : upTo sport 65535 with
  | false =>
    have U1 := Lib.hid u1
    clear u1
    go_enter Try.func147, Try.ntmps147
    go_wp2_with (first | (go_at_call 42; (first | (with_reducible refine (withinW sport 65535 false _ U1.out).mono ?_)); rintro e w1 ⟨rfl, rfl⟩))
    go_ret
    exact ⟨ret_bool (by simp [*]), Joins.below_alloc1 w _⟩
  | true =>
    have U1 := Lib.hid u1
    clear u1
    cases u2 : upTo dport 65535 with
    | false =>
      have U2 := Lib.hid u2
      clear u2
      go_enter Try.func147, Try.ntmps147
      go_wp2_with (first | (go_at_call 42; (first | (with_reducible refine (withinW sport 65535 true _ U1.out).mono ?_) | (with_reducible refine (withinW dport 65535 false _ U2.out).mono ?_)); rintro e w1 ⟨rfl, rfl⟩))
      go_ret
      exact ⟨ret_bool (by simp [*]), Joins.below_alloc1 w _⟩
    | true =>
      have U2 := Lib.hid u2
      clear u2
      cases u3 : half seq with
      | false =>
        have U3 := Lib.hid u3
        clear u3
        go_enter Try.func147, Try.ntmps147
        go_wp2_with (first | (go_at_call 42; (first | (with_reducible refine (withinW sport 65535 true _ U1.out).mono ?_) | (with_reducible refine (withinW dport 65535 true _ U2.out).mono ?_)); rintro e w1 ⟨rfl, rfl⟩) | (go_at_call 120; (first | (with_reducible refine (partOkB seq false _ U3.out).mono ?_)); rintro e w1 ⟨rfl, rfl⟩))
        go_ret
        exact ⟨ret_bool (by simp [*]), Joins.below_alloc1 w _⟩
      | true =>
        have U3 := Lib.hid u3
        clear u3
        cases u4 : half ack with
        | false =>
          have U4 := Lib.hid u4
          clear u4
          go_enter Try.func147, Try.ntmps147
          go_wp2_with (first | (go_at_call 42; (first | (with_reducible refine (withinW sport 65535 true _ U1.out).mono ?_) | (with_reducible refine (withinW dport 65535 true _ U2.out).mono ?_)); rintro e w1 ⟨rfl, rfl⟩) | (go_at_call 120; (first | (with_reducible refine (partOkB seq true _ U3.out).mono ?_) | (with_reducible refine (partOkB ack false _ U4.out).mono ?_)); rintro e w1 ⟨rfl, rfl⟩))
          go_ret
          exact ⟨ret_bool (by simp [*]), Joins.below_alloc1 w _⟩
        | true =>
          have U4 := Lib.hid u4
          clear u4
          cases u5 : upTo bits 4095 with
          | false =>
            have U5 := Lib.hid u5
            clear u5
            go_enter Try.func147, Try.ntmps147
            go_wp2_with (first | (go_at_call 42; (first | (with_reducible refine (withinW sport 65535 true _ U1.out).mono ?_) | (with_reducible refine (withinW dport 65535 true _ U2.out).mono ?_) | (with_reducible refine (withinW bits 4095 false _ U5.out).mono ?_)); rintro e w1 ⟨rfl, rfl⟩) | (go_at_call 120; (first | (with_reducible refine (partOkB seq true _ U3.out).mono ?_) | (with_reducible refine (partOkB ack true _ U4.out).mono ?_)); rintro e w1 ⟨rfl, rfl⟩))
            go_ret
            exact ⟨ret_bool (by simp [*]), Joins.below_alloc1 w _⟩
          | true =>
            have U5 := Lib.hid u5
            clear u5
            cases u6 : upTo window 65535 with
            | false =>
              have U6 := Lib.hid u6
              clear u6
              go_enter Try.func147, Try.ntmps147
              go_wp2_with (first | (go_at_call 42; (first | (with_reducible refine (withinW sport 65535 true _ U1.out).mono ?_) | (with_reducible refine (withinW dport 65535 true _ U2.out).mono ?_) | (with_reducible refine (withinW bits 4095 true _ U5.out).mono ?_) | (with_reducible refine (withinW window 65535 false _ U6.out).mono ?_)); rintro e w1 ⟨rfl, rfl⟩) | (go_at_call 120; (first | (with_reducible refine (partOkB seq true _ U3.out).mono ?_) | (with_reducible refine (partOkB ack true _ U4.out).mono ?_)); rintro e w1 ⟨rfl, rfl⟩))
              go_ret
              exact ⟨ret_bool (by simp [*]), Joins.below_alloc1 w _⟩
            | true =>
              have U6 := Lib.hid u6
              clear u6
              cases u7 : upTo urgent 65535 with
              | false =>
                have U7 := Lib.hid u7
                clear u7
                go_enter Try.func147, Try.ntmps147
                go_wp2_with (first | (go_at_call 42; (first | (with_reducible refine (withinW sport 65535 true _ U1.out).mono ?_) | (with_reducible refine (withinW dport 65535 true _ U2.out).mono ?_) | (with_reducible refine (withinW bits 4095 true _ U5.out).mono ?_) | (with_reducible refine (withinW window 65535 true _ U6.out).mono ?_) | (with_reducible refine (withinW urgent 65535 false _ U7.out).mono ?_)); rintro e w1 ⟨rfl, rfl⟩) | (go_at_call 120; (first | (with_reducible refine (partOkB seq true _ U3.out).mono ?_) | (with_reducible refine (partOkB ack true _ U4.out).mono ?_)); rintro e w1 ⟨rfl, rfl⟩))
                go_ret
                exact ⟨ret_bool (by simp [*]), Joins.below_alloc1 w _⟩
              | true =>
                have U7 := Lib.hid u7
                clear u7
                cases uo : optOk n with
                | false =>
                  have UO := Lib.hid uo
                  clear uo
                  go_enter Try.func147, Try.ntmps147
                  go_wp2_with (first | (go_at_call 42; (first | (with_reducible refine (withinW sport 65535 true _ U1.out).mono ?_) | (with_reducible refine (withinW dport 65535 true _ U2.out).mono ?_) | (with_reducible refine (withinW bits 4095 true _ U5.out).mono ?_) | (with_reducible refine (withinW window 65535 true _ U6.out).mono ?_) | (with_reducible refine (withinW urgent 65535 true _ U7.out).mono ?_)); rintro e w1 ⟨rfl, rfl⟩) | (go_at_call 120; (first | (with_reducible refine (partOkB seq true _ U3.out).mono ?_) | (with_reducible refine (partOkB ack true _ U4.out).mono ?_)); rintro e w1 ⟨rfl, rfl⟩) | (go_at_call 149; refine (optW A n c false _ UO.out).mono ?_; rintro e w1 ⟨rfl, rfl⟩))
                  go_ret
                  exact ⟨ret_bool (by simp [*]), Joins.below_alloc1 w _⟩
                | true =>
                  have UO := Lib.hid uo
                  clear uo
                  go_enter Try.func147, Try.ntmps147
                  go_wp2_with (first | (go_at_call 42; (first | (with_reducible refine (withinW sport 65535 true _ U1.out).mono ?_) | (with_reducible refine (withinW dport 65535 true _ U2.out).mono ?_) | (with_reducible refine (withinW bits 4095 true _ U5.out).mono ?_) | (with_reducible refine (withinW window 65535 true _ U6.out).mono ?_) | (with_reducible refine (withinW urgent 65535 true _ U7.out).mono ?_)); rintro e w1 ⟨rfl, rfl⟩) | (go_at_call 120; (first | (with_reducible refine (partOkB seq true _ U3.out).mono ?_) | (with_reducible refine (partOkB ack true _ U4.out).mono ?_)); rintro e w1 ⟨rfl, rfl⟩) | (go_at_call 149; refine (optW A n c true _ UO.out).mono ?_; rintro e w1 ⟨rfl, rfl⟩))
                  go_ret
                  exact ⟨ret_bool (by simp [*]), Joins.below_alloc1 w _⟩
theorem tcpF (x : Uh) (A D : Option Addr) (n c m d : Nat) (w : World) (k : Int) : Calls Try.prog 147 #[.agg #[.int .i64 x.kind, .int .i64 x.sport, .int .i64 x.dport, .int .i64 x.seq, .int .i64 x.ack, .int .i64 x.bits, .int .i64 x.window, .int .i64 x.urgent, .int .i64 x.ty, .int .i64 x.code, .int .i64 x.rest, .bool x.nosum, .slice A n c, .slice D m d], .int .i64 k] w fun e w' => e = .returned (.bool (upTo (Uh.sport x) 65535 && upTo (Uh.dport x) 65535 && half (Uh.seq x) && half (Uh.ack x) && upTo (Uh.bits x) 4095 && upTo (Uh.window x) 65535 && upTo (Uh.urgent x) 65535 && optOk n)) ∧ Below w.heap.size w w' := tcpF0 x.kind x.sport x.dport x.seq x.ack x.bits x.window x.urgent x.ty x.code x.rest x.nosum A D n c m d w k
set_option maxHeartbeats 4000000 in
theorem udpF0 (kind sport dport seq ack bits window urgent ty code rest : Int) (nosum : Bool) (A D : Option Addr) (n c m d : Nat) (w : World) (k : Int) : Calls Try.prog 150 #[.agg #[.int .i64 kind, .int .i64 sport, .int .i64 dport, .int .i64 seq, .int .i64 ack, .int .i64 bits, .int .i64 window, .int .i64 urgent, .int .i64 ty, .int .i64 code, .int .i64 rest, .bool nosum, .slice A n c, .slice D m d], .int .i64 k] w fun e w' => e = .returned (.bool (upTo (Uh.sport (Uh.mk kind sport dport seq ack bits window urgent ty code rest nosum)) 65535 && upTo (Uh.dport (Uh.mk kind sport dport seq ack bits window urgent ty code rest nosum)) 65535 && ((k == 4) || !(Uh.nosum (Uh.mk kind sport dport seq ack bits window urgent ty code rest nosum))))) ∧ Below w.heap.size w w' := by
  simp only
  cases u1 : upTo sport 65535 with
  | false =>
    have U1 := Lib.hid u1
    clear u1
    go_enter Try.func150, Try.ntmps150
    go_wp2_with (first | (go_at_call 42; (first | (with_reducible refine (withinW sport 65535 false _ U1.out).mono ?_)); rintro e w1 ⟨rfl, rfl⟩))
    go_ret
    exact ⟨ret_bool (by simp [*]), Joins.below_alloc1 w _⟩
  | true =>
    have U1 := Lib.hid u1
    clear u1
    cases u2 : upTo dport 65535 with
    | false =>
      have U2 := Lib.hid u2
      clear u2
      go_enter Try.func150, Try.ntmps150
      go_wp2_with (first | (go_at_call 42; (first | (with_reducible refine (withinW sport 65535 true _ U1.out).mono ?_) | (with_reducible refine (withinW dport 65535 false _ U2.out).mono ?_)); rintro e w1 ⟨rfl, rfl⟩))
      go_ret
      exact ⟨ret_bool (by simp [*]), Joins.below_alloc1 w _⟩
    | true =>
      have U2 := Lib.hid u2
      clear u2
      cases nosum with
      | true =>
        by_cases z_k : k = 4
        case pos =>
          go_enter Try.func150, Try.ntmps150
          go_wp2_with (first | (go_at_call 42; (first | (with_reducible refine (withinW sport 65535 true _ U1.out).mono ?_) | (with_reducible refine (withinW dport 65535 true _ U2.out).mono ?_)); rintro e w1 ⟨rfl, rfl⟩))
          go_ret
          exact ⟨ret_bool (by simp [*]), Joins.below_alloc1 w _⟩
        case neg =>
          go_enter Try.func150, Try.ntmps150
          go_wp2_with (first | (go_at_call 42; (first | (with_reducible refine (withinW sport 65535 true _ U1.out).mono ?_) | (with_reducible refine (withinW dport 65535 true _ U2.out).mono ?_)); rintro e w1 ⟨rfl, rfl⟩))
          go_ret
          exact ⟨ret_bool (by simp [*]), Joins.below_alloc1 w _⟩
      | false =>
        by_cases z_k : k = 4
        case pos =>
          go_enter Try.func150, Try.ntmps150
          go_wp2_with (first | (go_at_call 42; (first | (with_reducible refine (withinW sport 65535 true _ U1.out).mono ?_) | (with_reducible refine (withinW dport 65535 true _ U2.out).mono ?_)); rintro e w1 ⟨rfl, rfl⟩))
          go_ret
          exact ⟨ret_bool (by simp [*]), Joins.below_alloc1 w _⟩
        case neg =>
          go_enter Try.func150, Try.ntmps150
          go_wp2_with (first | (go_at_call 42; (first | (with_reducible refine (withinW sport 65535 true _ U1.out).mono ?_) | (with_reducible refine (withinW dport 65535 true _ U2.out).mono ?_)); rintro e w1 ⟨rfl, rfl⟩))
          go_ret
          exact ⟨ret_bool (by simp [*]), Joins.below_alloc1 w _⟩
theorem udpF (x : Uh) (A D : Option Addr) (n c m d : Nat) (w : World) (k : Int) : Calls Try.prog 150 #[.agg #[.int .i64 x.kind, .int .i64 x.sport, .int .i64 x.dport, .int .i64 x.seq, .int .i64 x.ack, .int .i64 x.bits, .int .i64 x.window, .int .i64 x.urgent, .int .i64 x.ty, .int .i64 x.code, .int .i64 x.rest, .bool x.nosum, .slice A n c, .slice D m d], .int .i64 k] w fun e w' => e = .returned (.bool (upTo (Uh.sport x) 65535 && upTo (Uh.dport x) 65535 && ((k == 4) || !(Uh.nosum x)))) ∧ Below w.heap.size w w' := udpF0 x.kind x.sport x.dport x.seq x.ack x.bits x.window x.urgent x.ty x.code x.rest x.nosum A D n c m d w k
set_option maxHeartbeats 4000000 in
theorem icmpF0 (kind sport dport seq ack bits window urgent ty code rest : Int) (nosum : Bool) (A D : Option Addr) (n c m d : Nat) (w : World) (k : Int) : Calls Try.prog 153 #[.agg #[.int .i64 kind, .int .i64 sport, .int .i64 dport, .int .i64 seq, .int .i64 ack, .int .i64 bits, .int .i64 window, .int .i64 urgent, .int .i64 ty, .int .i64 code, .int .i64 rest, .bool nosum, .slice A n c, .slice D m d], .int .i64 k] w fun e w' => e = .returned (.bool (upTo (Uh.ty (Uh.mk kind sport dport seq ack bits window urgent ty code rest nosum)) 255 && upTo (Uh.code (Uh.mk kind sport dport seq ack bits window urgent ty code rest nosum)) 255 && half (Uh.rest (Uh.mk kind sport dport seq ack bits window urgent ty code rest nosum)))) ∧ Below w.heap.size w w' := by
  simp only
  cases u1 : upTo ty 255 with
  | false =>
    have U1 := Lib.hid u1
    clear u1
    go_enter Try.func153, Try.ntmps153
    go_wp2_with (first | (go_at_call 42; (first | (with_reducible refine (withinW ty 255 false _ U1.out).mono ?_)); rintro e w1 ⟨rfl, rfl⟩))
    go_ret
    exact ⟨ret_bool (by simp [*]), Joins.below_alloc1 w _⟩
  | true =>
    have U1 := Lib.hid u1
    clear u1
    cases u2 : upTo code 255 with
    | false =>
      have U2 := Lib.hid u2
      clear u2
      go_enter Try.func153, Try.ntmps153
      go_wp2_with (first | (go_at_call 42; (first | (with_reducible refine (withinW ty 255 true _ U1.out).mono ?_) | (with_reducible refine (withinW code 255 false _ U2.out).mono ?_)); rintro e w1 ⟨rfl, rfl⟩))
      go_ret
      exact ⟨ret_bool (by simp [*]), Joins.below_alloc1 w _⟩
    | true =>
      have U2 := Lib.hid u2
      clear u2
      cases u3 : half rest with
      | false =>
        have U3 := Lib.hid u3
        clear u3
        go_enter Try.func153, Try.ntmps153
        go_wp2_with (first | (go_at_call 42; (first | (with_reducible refine (withinW ty 255 true _ U1.out).mono ?_) | (with_reducible refine (withinW code 255 true _ U2.out).mono ?_)); rintro e w1 ⟨rfl, rfl⟩) | (go_at_call 120; (first | (with_reducible refine (partOkB rest false _ U3.out).mono ?_)); rintro e w1 ⟨rfl, rfl⟩))
        go_ret
        exact ⟨ret_bool (by simp [*]), Joins.below_alloc1 w _⟩
      | true =>
        have U3 := Lib.hid u3
        clear u3
        go_enter Try.func153, Try.ntmps153
        go_wp2_with (first | (go_at_call 42; (first | (with_reducible refine (withinW ty 255 true _ U1.out).mono ?_) | (with_reducible refine (withinW code 255 true _ U2.out).mono ?_)); rintro e w1 ⟨rfl, rfl⟩) | (go_at_call 120; (first | (with_reducible refine (partOkB rest true _ U3.out).mono ?_)); rintro e w1 ⟨rfl, rfl⟩))
        go_ret
        exact ⟨ret_bool (by simp [*]), Joins.below_alloc1 w _⟩
theorem icmpF (x : Uh) (A D : Option Addr) (n c m d : Nat) (w : World) (k : Int) : Calls Try.prog 153 #[.agg #[.int .i64 x.kind, .int .i64 x.sport, .int .i64 x.dport, .int .i64 x.seq, .int .i64 x.ack, .int .i64 x.bits, .int .i64 x.window, .int .i64 x.urgent, .int .i64 x.ty, .int .i64 x.code, .int .i64 x.rest, .bool x.nosum, .slice A n c, .slice D m d], .int .i64 k] w fun e w' => e = .returned (.bool (upTo (Uh.ty x) 255 && upTo (Uh.code x) 255 && half (Uh.rest x))) ∧ Below w.heap.size w w' := icmpF0 x.kind x.sport x.dport x.seq x.ack x.bits x.window x.urgent x.ty x.code x.rest x.nosum A D n c m d w k
set_option maxHeartbeats 1000000 in
theorem otherF (x : Uh) (A D : Option Addr) (n c m d : Nat) (w : World) (k : Int) : Calls Try.prog 144 #[.agg #[.int .i64 x.kind, .int .i64 x.sport, .int .i64 x.dport, .int .i64 x.seq, .int .i64 x.ack, .int .i64 x.bits, .int .i64 x.window, .int .i64 x.urgent, .int .i64 x.ty, .int .i64 x.code, .int .i64 x.rest, .bool x.nosum, .slice A n c, .slice D m d], .int .i64 k] w fun e w' => e = .returned (.bool true) ∧ Below w.heap.size w w' := by
  go_enter Try.func144, Try.ntmps144
  go_wp2
  go_ret
  exact ⟨rfl, Joins.below_alloc1 w _⟩
set_option maxHeartbeats 2000000 in
theorem unused_other (x : Uh) (A D : Option Addr) (n c m d : Nat) (w : World) : Calls Try.prog 146 #[.agg #[.int .i64 x.kind, .int .i64 x.sport, .int .i64 x.dport, .int .i64 x.seq, .int .i64 x.ack, .int .i64 x.bits, .int .i64 x.window, .int .i64 x.urgent, .int .i64 x.ty, .int .i64 x.code, .int .i64 x.rest, .bool x.nosum, .slice A n c, .slice D m d]] w fun e w' => e = .returned (.agg #[.int .i64 x.kind, .int .i64 x.sport, .int .i64 x.dport, .int .i64 x.seq, .int .i64 x.ack, .int .i64 x.bits, .int .i64 x.window, .int .i64 x.urgent, .int .i64 x.ty, .int .i64 x.code, .int .i64 x.rest, .bool x.nosum, .slice A n c, .slice D m d]) ∧ Below w.heap.size w w' := by
  have q0 : Hid (((w.alloc (.cells #[.int .i64 x.kind, .int .i64 x.sport, .int .i64 x.dport, .int .i64 x.seq, .int .i64 x.ack, .int .i64 x.bits, .int .i64 x.window, .int .i64 x.urgent, .int .i64 x.ty, .int .i64 x.code, .int .i64 x.rest, .bool x.nosum, .slice A n c, .slice D m d] 109)).alloc (.cells #[.int .i64 Uh.zero.kind, .int .i64 Uh.zero.sport, .int .i64 Uh.zero.dport, .int .i64 Uh.zero.seq, .int .i64 Uh.zero.ack, .int .i64 Uh.zero.bits, .int .i64 Uh.zero.window, .int .i64 Uh.zero.urgent, .int .i64 Uh.zero.ty, .int .i64 Uh.zero.code, .int .i64 Uh.zero.rest, .bool Uh.zero.nosum, .slice none 0 0, .slice none 0 0] 36)).heap[w.heap.size]? = some (.cells #[.int .i64 x.kind, .int .i64 x.sport, .int .i64 x.dport, .int .i64 x.seq, .int .i64 x.ack, .int .i64 x.bits, .int .i64 x.window, .int .i64 x.urgent, .int .i64 x.ty, .int .i64 x.code, .int .i64 x.rest, .bool x.nosum, .slice A n c, .slice D m d] 109)) := Lib.hid (by repeat (first | exact K.newAt (by first | rfl | (simp; done)) | refine K.oldAt (by first | (simp; done) | (simp; omega)) ?_))
  have q1 : Hid (((w.alloc (.cells #[.int .i64 x.kind, .int .i64 x.sport, .int .i64 x.dport, .int .i64 x.seq, .int .i64 x.ack, .int .i64 x.bits, .int .i64 x.window, .int .i64 x.urgent, .int .i64 x.ty, .int .i64 x.code, .int .i64 x.rest, .bool x.nosum, .slice A n c, .slice D m d] 109)).alloc (.cells #[.int .i64 Uh.zero.kind, .int .i64 Uh.zero.sport, .int .i64 Uh.zero.dport, .int .i64 Uh.zero.seq, .int .i64 Uh.zero.ack, .int .i64 Uh.zero.bits, .int .i64 Uh.zero.window, .int .i64 Uh.zero.urgent, .int .i64 Uh.zero.ty, .int .i64 Uh.zero.code, .int .i64 Uh.zero.rest, .bool Uh.zero.nosum, .slice none 0 0, .slice none 0 0] 36)).heap[w.heap.size + 1]? = some (.cells #[.int .i64 Uh.zero.kind, .int .i64 Uh.zero.sport, .int .i64 Uh.zero.dport, .int .i64 Uh.zero.seq, .int .i64 Uh.zero.ack, .int .i64 Uh.zero.bits, .int .i64 Uh.zero.window, .int .i64 Uh.zero.urgent, .int .i64 Uh.zero.ty, .int .i64 Uh.zero.code, .int .i64 Uh.zero.rest, .bool Uh.zero.nosum, .slice none 0 0, .slice none 0 0] 36)) := Lib.hid (by repeat (first | exact K.newAt (by first | rfl | (simp; done)) | refine K.oldAt (by first | (simp; done) | (simp; omega)) ?_))
  simp only [Uh.zero] at q0 q1 ⊢
  go_enter Try.func146, Try.ntmps146
  go_wp2_with (first | (with_reducible refine loadU rfl _ rfl w.heap.size rfl q0.out ?_) | (with_reducible refine storeU rfl _ _ rfl (w.heap.size + 1) rfl rfl q1.out ?_))
  (try simp only [Exit.inBlock, Exit.then])
  refine bodyPost_ret (v := .agg #[.int .i64 x.kind, .int .i64 x.sport, .int .i64 x.dport, .int .i64 x.seq, .int .i64 x.ack, .int .i64 x.bits, .int .i64 x.window, .int .i64 x.urgent, .int .i64 x.ty, .int .i64 x.code, .int .i64 x.rest, .bool x.nosum, .slice A n c, .slice D m d]) ?_ rfl ⟨rfl, K.setRow_below (Joins.below_alloc2 w _ _) (by omega) _⟩
  exact resU Try.results146 _ _ (w.heap.size + 1) rfl (setRow_heap _ _ _ _ _ _ q1.out)
set_option maxHeartbeats 2000000 in
theorem unused_tcp (x : Uh) (A D : Option Addr) (n c m d : Nat) (w : World) : Calls Try.prog 148 #[.agg #[.int .i64 x.kind, .int .i64 x.sport, .int .i64 x.dport, .int .i64 x.seq, .int .i64 x.ack, .int .i64 x.bits, .int .i64 x.window, .int .i64 x.urgent, .int .i64 x.ty, .int .i64 x.code, .int .i64 x.rest, .bool x.nosum, .slice A n c, .slice D m d]] w fun e w' => e = .returned (.agg #[.int .i64 x.kind, .int .i64 0, .int .i64 0, .int .i64 0, .int .i64 0, .int .i64 0, .int .i64 0, .int .i64 0, .int .i64 x.ty, .int .i64 x.code, .int .i64 x.rest, .bool x.nosum, .slice none 0 0, .slice D m d]) ∧ Below w.heap.size w w' := by
  have q0 : Hid (((w.alloc (.cells #[.int .i64 x.kind, .int .i64 0, .int .i64 0, .int .i64 0, .int .i64 0, .int .i64 0, .int .i64 0, .int .i64 0, .int .i64 x.ty, .int .i64 x.code, .int .i64 x.rest, .bool x.nosum, .slice none 0 0, .slice D m d] 110)).alloc (.cells #[.int .i64 Uh.zero.kind, .int .i64 Uh.zero.sport, .int .i64 Uh.zero.dport, .int .i64 Uh.zero.seq, .int .i64 Uh.zero.ack, .int .i64 Uh.zero.bits, .int .i64 Uh.zero.window, .int .i64 Uh.zero.urgent, .int .i64 Uh.zero.ty, .int .i64 Uh.zero.code, .int .i64 Uh.zero.rest, .bool Uh.zero.nosum, .slice none 0 0, .slice none 0 0] 36)).heap[w.heap.size]? = some (.cells #[.int .i64 x.kind, .int .i64 0, .int .i64 0, .int .i64 0, .int .i64 0, .int .i64 0, .int .i64 0, .int .i64 0, .int .i64 x.ty, .int .i64 x.code, .int .i64 x.rest, .bool x.nosum, .slice none 0 0, .slice D m d] 110)) := Lib.hid (by repeat (first | exact K.newAt (by first | rfl | (simp; done)) | refine K.oldAt (by first | (simp; done) | (simp; omega)) ?_))
  have q1 : Hid (((w.alloc (.cells #[.int .i64 x.kind, .int .i64 0, .int .i64 0, .int .i64 0, .int .i64 0, .int .i64 0, .int .i64 0, .int .i64 0, .int .i64 x.ty, .int .i64 x.code, .int .i64 x.rest, .bool x.nosum, .slice none 0 0, .slice D m d] 110)).alloc (.cells #[.int .i64 Uh.zero.kind, .int .i64 Uh.zero.sport, .int .i64 Uh.zero.dport, .int .i64 Uh.zero.seq, .int .i64 Uh.zero.ack, .int .i64 Uh.zero.bits, .int .i64 Uh.zero.window, .int .i64 Uh.zero.urgent, .int .i64 Uh.zero.ty, .int .i64 Uh.zero.code, .int .i64 Uh.zero.rest, .bool Uh.zero.nosum, .slice none 0 0, .slice none 0 0] 36)).heap[w.heap.size + 1]? = some (.cells #[.int .i64 Uh.zero.kind, .int .i64 Uh.zero.sport, .int .i64 Uh.zero.dport, .int .i64 Uh.zero.seq, .int .i64 Uh.zero.ack, .int .i64 Uh.zero.bits, .int .i64 Uh.zero.window, .int .i64 Uh.zero.urgent, .int .i64 Uh.zero.ty, .int .i64 Uh.zero.code, .int .i64 Uh.zero.rest, .bool Uh.zero.nosum, .slice none 0 0, .slice none 0 0] 36)) := Lib.hid (by repeat (first | exact K.newAt (by first | rfl | (simp; done)) | refine K.oldAt (by first | (simp; done) | (simp; omega)) ?_))
  simp only [Uh.zero] at q0 q1 ⊢
  go_enter Try.func148, Try.ntmps148
  go_wp2_with (first | (with_reducible refine loadU rfl _ rfl w.heap.size rfl q0.out ?_) | (with_reducible refine storeU rfl _ _ rfl (w.heap.size + 1) rfl rfl q1.out ?_))
  (try simp only [Exit.inBlock, Exit.then])
  refine bodyPost_ret (v := .agg #[.int .i64 x.kind, .int .i64 0, .int .i64 0, .int .i64 0, .int .i64 0, .int .i64 0, .int .i64 0, .int .i64 0, .int .i64 x.ty, .int .i64 x.code, .int .i64 x.rest, .bool x.nosum, .slice none 0 0, .slice D m d]) ?_ rfl ⟨rfl, K.setRow_below (Joins.below_alloc2 w _ _) (by omega) _⟩
  exact resU Try.results148 _ _ (w.heap.size + 1) rfl (setRow_heap _ _ _ _ _ _ q1.out)
set_option maxHeartbeats 2000000 in
theorem unused_udp (x : Uh) (A D : Option Addr) (n c m d : Nat) (w : World) : Calls Try.prog 152 #[.agg #[.int .i64 x.kind, .int .i64 x.sport, .int .i64 x.dport, .int .i64 x.seq, .int .i64 x.ack, .int .i64 x.bits, .int .i64 x.window, .int .i64 x.urgent, .int .i64 x.ty, .int .i64 x.code, .int .i64 x.rest, .bool x.nosum, .slice A n c, .slice D m d]] w fun e w' => e = .returned (.agg #[.int .i64 x.kind, .int .i64 0, .int .i64 0, .int .i64 x.seq, .int .i64 x.ack, .int .i64 x.bits, .int .i64 x.window, .int .i64 x.urgent, .int .i64 x.ty, .int .i64 x.code, .int .i64 x.rest, .bool false, .slice A n c, .slice D m d]) ∧ Below w.heap.size w w' := by
  have q0 : Hid (((w.alloc (.cells #[.int .i64 x.kind, .int .i64 0, .int .i64 0, .int .i64 x.seq, .int .i64 x.ack, .int .i64 x.bits, .int .i64 x.window, .int .i64 x.urgent, .int .i64 x.ty, .int .i64 x.code, .int .i64 x.rest, .bool false, .slice A n c, .slice D m d] 111)).alloc (.cells #[.int .i64 Uh.zero.kind, .int .i64 Uh.zero.sport, .int .i64 Uh.zero.dport, .int .i64 Uh.zero.seq, .int .i64 Uh.zero.ack, .int .i64 Uh.zero.bits, .int .i64 Uh.zero.window, .int .i64 Uh.zero.urgent, .int .i64 Uh.zero.ty, .int .i64 Uh.zero.code, .int .i64 Uh.zero.rest, .bool Uh.zero.nosum, .slice none 0 0, .slice none 0 0] 36)).heap[w.heap.size]? = some (.cells #[.int .i64 x.kind, .int .i64 0, .int .i64 0, .int .i64 x.seq, .int .i64 x.ack, .int .i64 x.bits, .int .i64 x.window, .int .i64 x.urgent, .int .i64 x.ty, .int .i64 x.code, .int .i64 x.rest, .bool false, .slice A n c, .slice D m d] 111)) := Lib.hid (by repeat (first | exact K.newAt (by first | rfl | (simp; done)) | refine K.oldAt (by first | (simp; done) | (simp; omega)) ?_))
  have q1 : Hid (((w.alloc (.cells #[.int .i64 x.kind, .int .i64 0, .int .i64 0, .int .i64 x.seq, .int .i64 x.ack, .int .i64 x.bits, .int .i64 x.window, .int .i64 x.urgent, .int .i64 x.ty, .int .i64 x.code, .int .i64 x.rest, .bool false, .slice A n c, .slice D m d] 111)).alloc (.cells #[.int .i64 Uh.zero.kind, .int .i64 Uh.zero.sport, .int .i64 Uh.zero.dport, .int .i64 Uh.zero.seq, .int .i64 Uh.zero.ack, .int .i64 Uh.zero.bits, .int .i64 Uh.zero.window, .int .i64 Uh.zero.urgent, .int .i64 Uh.zero.ty, .int .i64 Uh.zero.code, .int .i64 Uh.zero.rest, .bool Uh.zero.nosum, .slice none 0 0, .slice none 0 0] 36)).heap[w.heap.size + 1]? = some (.cells #[.int .i64 Uh.zero.kind, .int .i64 Uh.zero.sport, .int .i64 Uh.zero.dport, .int .i64 Uh.zero.seq, .int .i64 Uh.zero.ack, .int .i64 Uh.zero.bits, .int .i64 Uh.zero.window, .int .i64 Uh.zero.urgent, .int .i64 Uh.zero.ty, .int .i64 Uh.zero.code, .int .i64 Uh.zero.rest, .bool Uh.zero.nosum, .slice none 0 0, .slice none 0 0] 36)) := Lib.hid (by repeat (first | exact K.newAt (by first | rfl | (simp; done)) | refine K.oldAt (by first | (simp; done) | (simp; omega)) ?_))
  simp only [Uh.zero] at q0 q1 ⊢
  go_enter Try.func152, Try.ntmps152
  go_wp2_with (first | (with_reducible refine loadU rfl _ rfl w.heap.size rfl q0.out ?_) | (with_reducible refine storeU rfl _ _ rfl (w.heap.size + 1) rfl rfl q1.out ?_))
  (try simp only [Exit.inBlock, Exit.then])
  refine bodyPost_ret (v := .agg #[.int .i64 x.kind, .int .i64 0, .int .i64 0, .int .i64 x.seq, .int .i64 x.ack, .int .i64 x.bits, .int .i64 x.window, .int .i64 x.urgent, .int .i64 x.ty, .int .i64 x.code, .int .i64 x.rest, .bool false, .slice A n c, .slice D m d]) ?_ rfl ⟨rfl, K.setRow_below (Joins.below_alloc2 w _ _) (by omega) _⟩
  exact resU Try.results152 _ _ (w.heap.size + 1) rfl (setRow_heap _ _ _ _ _ _ q1.out)
set_option maxHeartbeats 2000000 in
theorem unused_icmp (x : Uh) (A D : Option Addr) (n c m d : Nat) (w : World) : Calls Try.prog 155 #[.agg #[.int .i64 x.kind, .int .i64 x.sport, .int .i64 x.dport, .int .i64 x.seq, .int .i64 x.ack, .int .i64 x.bits, .int .i64 x.window, .int .i64 x.urgent, .int .i64 x.ty, .int .i64 x.code, .int .i64 x.rest, .bool x.nosum, .slice A n c, .slice D m d]] w fun e w' => e = .returned (.agg #[.int .i64 x.kind, .int .i64 x.sport, .int .i64 x.dport, .int .i64 x.seq, .int .i64 x.ack, .int .i64 x.bits, .int .i64 x.window, .int .i64 x.urgent, .int .i64 0, .int .i64 0, .int .i64 0, .bool x.nosum, .slice A n c, .slice D m d]) ∧ Below w.heap.size w w' := by
  have q0 : Hid (((w.alloc (.cells #[.int .i64 x.kind, .int .i64 x.sport, .int .i64 x.dport, .int .i64 x.seq, .int .i64 x.ack, .int .i64 x.bits, .int .i64 x.window, .int .i64 x.urgent, .int .i64 0, .int .i64 0, .int .i64 0, .bool x.nosum, .slice A n c, .slice D m d] 112)).alloc (.cells #[.int .i64 Uh.zero.kind, .int .i64 Uh.zero.sport, .int .i64 Uh.zero.dport, .int .i64 Uh.zero.seq, .int .i64 Uh.zero.ack, .int .i64 Uh.zero.bits, .int .i64 Uh.zero.window, .int .i64 Uh.zero.urgent, .int .i64 Uh.zero.ty, .int .i64 Uh.zero.code, .int .i64 Uh.zero.rest, .bool Uh.zero.nosum, .slice none 0 0, .slice none 0 0] 36)).heap[w.heap.size]? = some (.cells #[.int .i64 x.kind, .int .i64 x.sport, .int .i64 x.dport, .int .i64 x.seq, .int .i64 x.ack, .int .i64 x.bits, .int .i64 x.window, .int .i64 x.urgent, .int .i64 0, .int .i64 0, .int .i64 0, .bool x.nosum, .slice A n c, .slice D m d] 112)) := Lib.hid (by repeat (first | exact K.newAt (by first | rfl | (simp; done)) | refine K.oldAt (by first | (simp; done) | (simp; omega)) ?_))
  have q1 : Hid (((w.alloc (.cells #[.int .i64 x.kind, .int .i64 x.sport, .int .i64 x.dport, .int .i64 x.seq, .int .i64 x.ack, .int .i64 x.bits, .int .i64 x.window, .int .i64 x.urgent, .int .i64 0, .int .i64 0, .int .i64 0, .bool x.nosum, .slice A n c, .slice D m d] 112)).alloc (.cells #[.int .i64 Uh.zero.kind, .int .i64 Uh.zero.sport, .int .i64 Uh.zero.dport, .int .i64 Uh.zero.seq, .int .i64 Uh.zero.ack, .int .i64 Uh.zero.bits, .int .i64 Uh.zero.window, .int .i64 Uh.zero.urgent, .int .i64 Uh.zero.ty, .int .i64 Uh.zero.code, .int .i64 Uh.zero.rest, .bool Uh.zero.nosum, .slice none 0 0, .slice none 0 0] 36)).heap[w.heap.size + 1]? = some (.cells #[.int .i64 Uh.zero.kind, .int .i64 Uh.zero.sport, .int .i64 Uh.zero.dport, .int .i64 Uh.zero.seq, .int .i64 Uh.zero.ack, .int .i64 Uh.zero.bits, .int .i64 Uh.zero.window, .int .i64 Uh.zero.urgent, .int .i64 Uh.zero.ty, .int .i64 Uh.zero.code, .int .i64 Uh.zero.rest, .bool Uh.zero.nosum, .slice none 0 0, .slice none 0 0] 36)) := Lib.hid (by repeat (first | exact K.newAt (by first | rfl | (simp; done)) | refine K.oldAt (by first | (simp; done) | (simp; omega)) ?_))
  simp only [Uh.zero] at q0 q1 ⊢
  go_enter Try.func155, Try.ntmps155
  go_wp2_with (first | (with_reducible refine loadU rfl _ rfl w.heap.size rfl q0.out ?_) | (with_reducible refine storeU rfl _ _ rfl (w.heap.size + 1) rfl rfl q1.out ?_))
  (try simp only [Exit.inBlock, Exit.then])
  refine bodyPost_ret (v := .agg #[.int .i64 x.kind, .int .i64 x.sport, .int .i64 x.dport, .int .i64 x.seq, .int .i64 x.ack, .int .i64 x.bits, .int .i64 x.window, .int .i64 x.urgent, .int .i64 0, .int .i64 0, .int .i64 0, .bool x.nosum, .slice A n c, .slice D m d]) ?_ rfl ⟨rfl, K.setRow_below (Joins.below_alloc2 w _ _) (by omega) _⟩
  exact resU Try.results155 _ _ (w.heap.size + 1) rfl (setRow_heap _ _ _ _ _ _ q1.out)
end Go.Proofs.Ythogonpjkngpjaa
