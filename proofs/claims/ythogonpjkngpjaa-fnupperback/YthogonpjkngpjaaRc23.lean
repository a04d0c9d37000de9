/-
  UpperOk in the model: kind 1, between addresses of either kind.
-/
import Derived.Test.YthogonpjkngpjaaRc11
import Derived.Test.YthogonpjkngpjaaRc08
namespace Go.Proofs.Ythogonpjkngpjaa
set_option maxRecDepth 100000
open Go.RowKit
theorem specHalfB1 (n : Int) (b : Bool) (w : World) (h : half n = b) : Calls Try.prog 97 #[.int .i64 n] w fun e w' => e = .returned (.bool b) ∧ w = w' := h ▸ specHalf n w
set_option maxHeartbeats 8000000 in
theorem upOkT1 (sport dport seq ack bits window urgent ty code rest : Int) (nosum : Bool) (A D : Option Addr) (kd : Int) (hkd : kd = 4 ∨ kd = 6) (n c m d : Nat) (w : World) (hn : n ≤ 1048576) (hm : m ≤ 1048576) : Calls Try.prog 59 #[.agg #[.int .i64 1, .int .i64 sport, .int .i64 dport, .int .i64 seq, .int .i64 ack, .int .i64 bits, .int .i64 window, .int .i64 urgent, .int .i64 ty, .int .i64 code, .int .i64 rest, .bool nosum, .slice A n c, .slice D m d], .int .i64 kd] w fun e w' => e = .returned (.bool (Uh.ok (Uh.mk 1 sport dport seq ack bits window urgent ty code rest nosum) kd n m)) ∧ Below w.heap.size w w' := by
  rcases hkd with rfl | rfl
  all_goals
   cases u1 : upTo sport 65535 with
   | false =>
    have U1 := Lib.hid u1
    clear u1
    have q := Lib.hid (K.new w (.cells #[.int .i64 1, .int .i64 sport, .int .i64 dport, .int .i64 seq, .int .i64 ack, .int .i64 bits, .int .i64 window, .int .i64 urgent, .int .i64 ty, .int .i64 code, .int .i64 rest, .bool nosum, .slice A n c, .slice D m d] 36))
    try simp only at q ⊢
    go_enter Try.func59, Try.ntmps59
    go_wp2_with (first | (go_at_call 39; (first | (with_reducible refine (specInB sport 65535 false _ U1.out).mono ?_)); rintro e w1 ⟨rfl, rfl⟩))
    go_ret
    exact ⟨ret_bool (by simp [Uh.ok, Uh.fields, noF, Uh.unused, kindB, Uh.size, U1.out, *]), Joins.below_alloc1 w _⟩
   | true =>
    have U1 := Lib.hid u1
    clear u1
    cases u2 : upTo dport 65535 with
    | false =>
     have U2 := Lib.hid u2
     clear u2
     have q := Lib.hid (K.new w (.cells #[.int .i64 1, .int .i64 sport, .int .i64 dport, .int .i64 seq, .int .i64 ack, .int .i64 bits, .int .i64 window, .int .i64 urgent, .int .i64 ty, .int .i64 code, .int .i64 rest, .bool nosum, .slice A n c, .slice D m d] 36))
     try simp only at q ⊢
     go_enter Try.func59, Try.ntmps59
     go_wp2_with (first | (go_at_call 39; (first | (with_reducible refine (specInB sport 65535 true _ U1.out).mono ?_) | (with_reducible refine (specInB dport 65535 false _ U2.out).mono ?_)); rintro e w1 ⟨rfl, rfl⟩))
     go_ret
     exact ⟨ret_bool (by simp [Uh.ok, Uh.fields, noF, Uh.unused, kindB, Uh.size, U1.out, U2.out, *]), Joins.below_alloc1 w _⟩
    | true =>
     have U2 := Lib.hid u2
     clear u2
     cases u3 : half seq with
     | false =>
      have U3 := Lib.hid u3
      clear u3
      have q := Lib.hid (K.new w (.cells #[.int .i64 1, .int .i64 sport, .int .i64 dport, .int .i64 seq, .int .i64 ack, .int .i64 bits, .int .i64 window, .int .i64 urgent, .int .i64 ty, .int .i64 code, .int .i64 rest, .bool nosum, .slice A n c, .slice D m d] 36))
      try simp only at q ⊢
      go_enter Try.func59, Try.ntmps59
      go_wp2_with (first | (go_at_call 39; (first | (with_reducible refine (specInB sport 65535 true _ U1.out).mono ?_) | (with_reducible refine (specInB dport 65535 true _ U2.out).mono ?_)); rintro e w1 ⟨rfl, rfl⟩) | (go_at_call 97; (first | (with_reducible refine (specHalfB1 seq false _ U3.out).mono ?_)); rintro e w1 ⟨rfl, rfl⟩))
      go_ret
      exact ⟨ret_bool (by simp [Uh.ok, Uh.fields, noF, Uh.unused, kindB, Uh.size, U1.out, U2.out, U3.out, *]), Joins.below_alloc1 w _⟩
     | true =>
      have U3 := Lib.hid u3
      clear u3
      cases u4 : half ack with
      | false =>
       have U4 := Lib.hid u4
       clear u4
       have q := Lib.hid (K.new w (.cells #[.int .i64 1, .int .i64 sport, .int .i64 dport, .int .i64 seq, .int .i64 ack, .int .i64 bits, .int .i64 window, .int .i64 urgent, .int .i64 ty, .int .i64 code, .int .i64 rest, .bool nosum, .slice A n c, .slice D m d] 36))
       try simp only at q ⊢
       go_enter Try.func59, Try.ntmps59
       go_wp2_with (first | (go_at_call 39; (first | (with_reducible refine (specInB sport 65535 true _ U1.out).mono ?_) | (with_reducible refine (specInB dport 65535 true _ U2.out).mono ?_)); rintro e w1 ⟨rfl, rfl⟩) | (go_at_call 97; (first | (with_reducible refine (specHalfB1 seq true _ U3.out).mono ?_) | (with_reducible refine (specHalfB1 ack false _ U4.out).mono ?_)); rintro e w1 ⟨rfl, rfl⟩))
       go_ret
       exact ⟨ret_bool (by simp [Uh.ok, Uh.fields, noF, Uh.unused, kindB, Uh.size, U1.out, U2.out, U3.out, U4.out, *]), Joins.below_alloc1 w _⟩
      | true =>
       have U4 := Lib.hid u4
       clear u4
       cases u5 : upTo bits 4095 with
       | false =>
        have U5 := Lib.hid u5
        clear u5
        have q := Lib.hid (K.new w (.cells #[.int .i64 1, .int .i64 sport, .int .i64 dport, .int .i64 seq, .int .i64 ack, .int .i64 bits, .int .i64 window, .int .i64 urgent, .int .i64 ty, .int .i64 code, .int .i64 rest, .bool nosum, .slice A n c, .slice D m d] 36))
        try simp only at q ⊢
        go_enter Try.func59, Try.ntmps59
        go_wp2_with (first | (go_at_call 39; (first | (with_reducible refine (specInB sport 65535 true _ U1.out).mono ?_) | (with_reducible refine (specInB dport 65535 true _ U2.out).mono ?_) | (with_reducible refine (specInB bits 4095 false _ U5.out).mono ?_)); rintro e w1 ⟨rfl, rfl⟩) | (go_at_call 97; (first | (with_reducible refine (specHalfB1 seq true _ U3.out).mono ?_) | (with_reducible refine (specHalfB1 ack true _ U4.out).mono ?_)); rintro e w1 ⟨rfl, rfl⟩))
        go_ret
        exact ⟨ret_bool (by simp [Uh.ok, Uh.fields, noF, Uh.unused, kindB, Uh.size, U1.out, U2.out, U3.out, U4.out, U5.out, *]), Joins.below_alloc1 w _⟩
       | true =>
        have U5 := Lib.hid u5
        clear u5
        cases u6 : upTo window 65535 with
        | false =>
         have U6 := Lib.hid u6
         clear u6
         have q := Lib.hid (K.new w (.cells #[.int .i64 1, .int .i64 sport, .int .i64 dport, .int .i64 seq, .int .i64 ack, .int .i64 bits, .int .i64 window, .int .i64 urgent, .int .i64 ty, .int .i64 code, .int .i64 rest, .bool nosum, .slice A n c, .slice D m d] 36))
         try simp only at q ⊢
         go_enter Try.func59, Try.ntmps59
         go_wp2_with (first | (go_at_call 39; (first | (with_reducible refine (specInB sport 65535 true _ U1.out).mono ?_) | (with_reducible refine (specInB dport 65535 true _ U2.out).mono ?_) | (with_reducible refine (specInB bits 4095 true _ U5.out).mono ?_) | (with_reducible refine (specInB window 65535 false _ U6.out).mono ?_)); rintro e w1 ⟨rfl, rfl⟩) | (go_at_call 97; (first | (with_reducible refine (specHalfB1 seq true _ U3.out).mono ?_) | (with_reducible refine (specHalfB1 ack true _ U4.out).mono ?_)); rintro e w1 ⟨rfl, rfl⟩))
         go_ret
         exact ⟨ret_bool (by simp [Uh.ok, Uh.fields, noF, Uh.unused, kindB, Uh.size, U1.out, U2.out, U3.out, U4.out, U5.out, U6.out, *]), Joins.below_alloc1 w _⟩
        | true =>
         have U6 := Lib.hid u6
         clear u6
         cases u7 : upTo urgent 65535 with
         | false =>
          have U7 := Lib.hid u7
          clear u7
          have q := Lib.hid (K.new w (.cells #[.int .i64 1, .int .i64 sport, .int .i64 dport, .int .i64 seq, .int .i64 ack, .int .i64 bits, .int .i64 window, .int .i64 urgent, .int .i64 ty, .int .i64 code, .int .i64 rest, .bool nosum, .slice A n c, .slice D m d] 36))
          try simp only at q ⊢
          go_enter Try.func59, Try.ntmps59
          go_wp2_with (first | (go_at_call 39; (first | (with_reducible refine (specInB sport 65535 true _ U1.out).mono ?_) | (with_reducible refine (specInB dport 65535 true _ U2.out).mono ?_) | (with_reducible refine (specInB bits 4095 true _ U5.out).mono ?_) | (with_reducible refine (specInB window 65535 true _ U6.out).mono ?_) | (with_reducible refine (specInB urgent 65535 false _ U7.out).mono ?_)); rintro e w1 ⟨rfl, rfl⟩) | (go_at_call 97; (first | (with_reducible refine (specHalfB1 seq true _ U3.out).mono ?_) | (with_reducible refine (specHalfB1 ack true _ U4.out).mono ?_)); rintro e w1 ⟨rfl, rfl⟩))
          go_ret
          exact ⟨ret_bool (by simp [Uh.ok, Uh.fields, noF, Uh.unused, kindB, Uh.size, U1.out, U2.out, U3.out, U4.out, U5.out, U6.out, U7.out, *]), Joins.below_alloc1 w _⟩
         | true =>
          have U7 := Lib.hid u7
          clear u7
          by_cases z_o : n ≤ 40
          case neg =>
           have z_m : (40 : Int) < n := by omega
           have z_p : optOk n = false := by simp [optOk, z_o]
           have q := Lib.hid (K.new w (.cells #[.int .i64 1, .int .i64 sport, .int .i64 dport, .int .i64 seq, .int .i64 ack, .int .i64 bits, .int .i64 window, .int .i64 urgent, .int .i64 ty, .int .i64 code, .int .i64 rest, .bool nosum, .slice A n c, .slice D m d] 36))
           try simp only at q ⊢
           go_enter Try.func59, Try.ntmps59
           go_wp2_with (first | (go_at_call 39; (first | (with_reducible refine (specInB sport 65535 true _ U1.out).mono ?_) | (with_reducible refine (specInB dport 65535 true _ U2.out).mono ?_) | (with_reducible refine (specInB bits 4095 true _ U5.out).mono ?_) | (with_reducible refine (specInB window 65535 true _ U6.out).mono ?_) | (with_reducible refine (specInB urgent 65535 true _ U7.out).mono ?_)); rintro e w1 ⟨rfl, rfl⟩) | (go_at_call 97; (first | (with_reducible refine (specHalfB1 seq true _ U3.out).mono ?_) | (with_reducible refine (specHalfB1 ack true _ U4.out).mono ?_)); rintro e w1 ⟨rfl, rfl⟩))
           go_ret
           exact ⟨ret_bool (by simp [Uh.ok, Uh.fields, noF, Uh.unused, kindB, Uh.size, U1.out, U2.out, U3.out, U4.out, U5.out, U6.out, U7.out, *]), Joins.below_alloc1 w _⟩
          case pos =>
           have z_m : (n : Int) ≤ 40 := by omega
           by_cases z_r : n % 4 = 0
           case neg =>
            have z_s : ¬ (n : Int) % 4 = 0 := by omega
            have z_t : ((n : Int) % 4 != 0) = true := by simp [z_s]
            have z_p : optOk n = false := by simp [optOk, z_r]
            have q := Lib.hid (K.new w (.cells #[.int .i64 1, .int .i64 sport, .int .i64 dport, .int .i64 seq, .int .i64 ack, .int .i64 bits, .int .i64 window, .int .i64 urgent, .int .i64 ty, .int .i64 code, .int .i64 rest, .bool nosum, .slice A n c, .slice D m d] 36))
            try simp only at q ⊢
            go_enter Try.func59, Try.ntmps59
            go_wp2_with (first | (go_at_call 39; (first | (with_reducible refine (specInB sport 65535 true _ U1.out).mono ?_) | (with_reducible refine (specInB dport 65535 true _ U2.out).mono ?_) | (with_reducible refine (specInB bits 4095 true _ U5.out).mono ?_) | (with_reducible refine (specInB window 65535 true _ U6.out).mono ?_) | (with_reducible refine (specInB urgent 65535 true _ U7.out).mono ?_)); rintro e w1 ⟨rfl, rfl⟩) | (go_at_call 97; (first | (with_reducible refine (specHalfB1 seq true _ U3.out).mono ?_) | (with_reducible refine (specHalfB1 ack true _ U4.out).mono ?_)); rintro e w1 ⟨rfl, rfl⟩))
            go_ret
            exact ⟨ret_bool (by simp [Uh.ok, Uh.fields, noF, Uh.unused, kindB, Uh.size, U1.out, U2.out, U3.out, U4.out, U5.out, U6.out, U7.out, *]), Joins.below_alloc1 w _⟩
           case pos =>
            have z_s : (n : Int) % 4 = 0 := by omega
            have z_p : optOk n = true := by simp [optOk, z_o, z_r]
            by_cases z_ty : ty = 0
            case neg =>
             have q := Lib.hid (K.new w (.cells #[.int .i64 1, .int .i64 sport, .int .i64 dport, .int .i64 seq, .int .i64 ack, .int .i64 bits, .int .i64 window, .int .i64 urgent, .int .i64 ty, .int .i64 code, .int .i64 rest, .bool nosum, .slice A n c, .slice D m d] 36))
             try simp only at q ⊢
             go_enter Try.func59, Try.ntmps59
             go_wp2_with (first | (go_at_call 39; (first | (with_reducible refine (specInB sport 65535 true _ U1.out).mono ?_) | (with_reducible refine (specInB dport 65535 true _ U2.out).mono ?_) | (with_reducible refine (specInB bits 4095 true _ U5.out).mono ?_) | (with_reducible refine (specInB window 65535 true _ U6.out).mono ?_) | (with_reducible refine (specInB urgent 65535 true _ U7.out).mono ?_)); rintro e w1 ⟨rfl, rfl⟩) | (go_at_call 97; (first | (with_reducible refine (specHalfB1 seq true _ U3.out).mono ?_) | (with_reducible refine (specHalfB1 ack true _ U4.out).mono ?_)); rintro e w1 ⟨rfl, rfl⟩))
             go_ret
             exact ⟨ret_bool (by simp [Uh.ok, Uh.fields, noF, Uh.unused, kindB, Uh.size, U1.out, U2.out, U3.out, U4.out, U5.out, U6.out, U7.out, *]), Joins.below_alloc1 w _⟩
            case pos =>
             subst z_ty
             by_cases z_code : code = 0
             case neg =>
              have q := Lib.hid (K.new w (.cells #[.int .i64 1, .int .i64 sport, .int .i64 dport, .int .i64 seq, .int .i64 ack, .int .i64 bits, .int .i64 window, .int .i64 urgent, .int .i64 0, .int .i64 code, .int .i64 rest, .bool nosum, .slice A n c, .slice D m d] 36))
              try simp only at q ⊢
              go_enter Try.func59, Try.ntmps59
              go_wp2_with (first | (go_at_call 39; (first | (with_reducible refine (specInB sport 65535 true _ U1.out).mono ?_) | (with_reducible refine (specInB dport 65535 true _ U2.out).mono ?_) | (with_reducible refine (specInB bits 4095 true _ U5.out).mono ?_) | (with_reducible refine (specInB window 65535 true _ U6.out).mono ?_) | (with_reducible refine (specInB urgent 65535 true _ U7.out).mono ?_)); rintro e w1 ⟨rfl, rfl⟩) | (go_at_call 97; (first | (with_reducible refine (specHalfB1 seq true _ U3.out).mono ?_) | (with_reducible refine (specHalfB1 ack true _ U4.out).mono ?_)); rintro e w1 ⟨rfl, rfl⟩))
              go_ret
              exact ⟨ret_bool (by simp [Uh.ok, Uh.fields, noF, Uh.unused, kindB, Uh.size, U1.out, U2.out, U3.out, U4.out, U5.out, U6.out, U7.out, *]), Joins.below_alloc1 w _⟩
             case pos =>
              subst z_code
              by_cases z_rest : rest = 0
              case neg =>
               have q := Lib.hid (K.new w (.cells #[.int .i64 1, .int .i64 sport, .int .i64 dport, .int .i64 seq, .int .i64 ack, .int .i64 bits, .int .i64 window, .int .i64 urgent, .int .i64 0, .int .i64 0, .int .i64 rest, .bool nosum, .slice A n c, .slice D m d] 36))
               try simp only at q ⊢
               go_enter Try.func59, Try.ntmps59
               go_wp2_with (first | (go_at_call 39; (first | (with_reducible refine (specInB sport 65535 true _ U1.out).mono ?_) | (with_reducible refine (specInB dport 65535 true _ U2.out).mono ?_) | (with_reducible refine (specInB bits 4095 true _ U5.out).mono ?_) | (with_reducible refine (specInB window 65535 true _ U6.out).mono ?_) | (with_reducible refine (specInB urgent 65535 true _ U7.out).mono ?_)); rintro e w1 ⟨rfl, rfl⟩) | (go_at_call 97; (first | (with_reducible refine (specHalfB1 seq true _ U3.out).mono ?_) | (with_reducible refine (specHalfB1 ack true _ U4.out).mono ?_)); rintro e w1 ⟨rfl, rfl⟩))
               go_ret
               exact ⟨ret_bool (by simp [Uh.ok, Uh.fields, noF, Uh.unused, kindB, Uh.size, U1.out, U2.out, U3.out, U4.out, U5.out, U6.out, U7.out, *]), Joins.below_alloc1 w _⟩
              case pos =>
               subst z_rest
               cases nosum with
               | true =>
                have q := Lib.hid (K.new w (.cells #[.int .i64 1, .int .i64 sport, .int .i64 dport, .int .i64 seq, .int .i64 ack, .int .i64 bits, .int .i64 window, .int .i64 urgent, .int .i64 0, .int .i64 0, .int .i64 0, .bool true, .slice A n c, .slice D m d] 36))
                try simp only at q ⊢
                go_enter Try.func59, Try.ntmps59
                go_wp2_with (first | (go_at_call 39; (first | (with_reducible refine (specInB sport 65535 true _ U1.out).mono ?_) | (with_reducible refine (specInB dport 65535 true _ U2.out).mono ?_) | (with_reducible refine (specInB bits 4095 true _ U5.out).mono ?_) | (with_reducible refine (specInB window 65535 true _ U6.out).mono ?_) | (with_reducible refine (specInB urgent 65535 true _ U7.out).mono ?_)); rintro e w1 ⟨rfl, rfl⟩) | (go_at_call 97; (first | (with_reducible refine (specHalfB1 seq true _ U3.out).mono ?_) | (with_reducible refine (specHalfB1 ack true _ U4.out).mono ?_)); rintro e w1 ⟨rfl, rfl⟩))
                go_ret
                exact ⟨ret_bool (by simp [Uh.ok, Uh.fields, noF, Uh.unused, kindB, Uh.size, U1.out, U2.out, U3.out, U4.out, U5.out, U6.out, U7.out, *]), Joins.below_alloc1 w _⟩
               | false =>
                by_cases z_z : n + m ≤ 1480
                case neg =>
                 have z_y : ¬ 20 + (n : Int) + m ≤ 1500 := by omega
                 have q := Lib.hid (K.new w (.cells #[.int .i64 1, .int .i64 sport, .int .i64 dport, .int .i64 seq, .int .i64 ack, .int .i64 bits, .int .i64 window, .int .i64 urgent, .int .i64 0, .int .i64 0, .int .i64 0, .bool false, .slice A n c, .slice D m d] 36))
                 have HS := Lib.hid (fun v => show Calls Try.prog 61 #[.agg #[.int .i64 1, .int .i64 sport, .int .i64 dport, .int .i64 seq, .int .i64 ack, .int .i64 bits, .int .i64 window, .int .i64 urgent, .int .i64 0, .int .i64 0, .int .i64 0, .bool false, .slice A n c, .slice D m d]] v fun e w' => e = .returned (.int .i64 (20 + (n : Int) + m)) ∧ Below v.heap.size v w' from (show Uh.size (Uh.mk 1 sport dport seq ack bits window urgent 0 0 0 false) n m = 20 + (n : Int) + m by simp [Uh.size]) ▸ specUpSize (Uh.mk 1 sport dport seq ack bits window urgent 0 0 0 false) A D n c m d v (by omega) hm)
                 try simp only at q HS ⊢
                 go_enter Try.func59, Try.ntmps59
                 go_wp2_with (first | (go_at_call 39; (first | (with_reducible refine (specInB sport 65535 true _ U1.out).mono ?_) | (with_reducible refine (specInB dport 65535 true _ U2.out).mono ?_) | (with_reducible refine (specInB bits 4095 true _ U5.out).mono ?_) | (with_reducible refine (specInB window 65535 true _ U6.out).mono ?_) | (with_reducible refine (specInB urgent 65535 true _ U7.out).mono ?_)); rintro e w1 ⟨rfl, rfl⟩) | (go_at_call 97; (first | (with_reducible refine (specHalfB1 seq true _ U3.out).mono ?_) | (with_reducible refine (specHalfB1 ack true _ U4.out).mono ?_)); rintro e w1 ⟨rfl, rfl⟩) | (with_reducible refine loadU rfl _ rfl w.heap.size rfl q.out ?_) | (go_at_call 61; refine Calls.mono (HS.out _) ?_; rintro e w9 ⟨rfl, b9⟩; have B9 := Lib.hid (bthen (Joins.below_alloc1 w _) b9); clear b9))
                 go_ret
                 exact ⟨ret_bool (by simp [Uh.ok, Uh.fields, noF, Uh.unused, kindB, Uh.size, U1.out, U2.out, U3.out, U4.out, U5.out, U6.out, U7.out, *] <;> omega), B9.out⟩
                case pos =>
                 have z_y : 20 + (n : Int) + m ≤ 1500 := by omega
                 have q := Lib.hid (K.new w (.cells #[.int .i64 1, .int .i64 sport, .int .i64 dport, .int .i64 seq, .int .i64 ack, .int .i64 bits, .int .i64 window, .int .i64 urgent, .int .i64 0, .int .i64 0, .int .i64 0, .bool false, .slice A n c, .slice D m d] 36))
                 have HS := Lib.hid (fun v => show Calls Try.prog 61 #[.agg #[.int .i64 1, .int .i64 sport, .int .i64 dport, .int .i64 seq, .int .i64 ack, .int .i64 bits, .int .i64 window, .int .i64 urgent, .int .i64 0, .int .i64 0, .int .i64 0, .bool false, .slice A n c, .slice D m d]] v fun e w' => e = .returned (.int .i64 (20 + (n : Int) + m)) ∧ Below v.heap.size v w' from (show Uh.size (Uh.mk 1 sport dport seq ack bits window urgent 0 0 0 false) n m = 20 + (n : Int) + m by simp [Uh.size]) ▸ specUpSize (Uh.mk 1 sport dport seq ack bits window urgent 0 0 0 false) A D n c m d v (by omega) hm)
                 try simp only at q HS ⊢
                 go_enter Try.func59, Try.ntmps59
                 go_wp2_with (first | (go_at_call 39; (first | (with_reducible refine (specInB sport 65535 true _ U1.out).mono ?_) | (with_reducible refine (specInB dport 65535 true _ U2.out).mono ?_) | (with_reducible refine (specInB bits 4095 true _ U5.out).mono ?_) | (with_reducible refine (specInB window 65535 true _ U6.out).mono ?_) | (with_reducible refine (specInB urgent 65535 true _ U7.out).mono ?_)); rintro e w1 ⟨rfl, rfl⟩) | (go_at_call 97; (first | (with_reducible refine (specHalfB1 seq true _ U3.out).mono ?_) | (with_reducible refine (specHalfB1 ack true _ U4.out).mono ?_)); rintro e w1 ⟨rfl, rfl⟩) | (with_reducible refine loadU rfl _ rfl w.heap.size rfl q.out ?_) | (go_at_call 61; refine Calls.mono (HS.out _) ?_; rintro e w9 ⟨rfl, b9⟩; have B9 := Lib.hid (bthen (Joins.below_alloc1 w _) b9); clear b9))
                 go_ret
                 exact ⟨ret_bool (by simp [Uh.ok, Uh.fields, noF, Uh.unused, kindB, Uh.size, U1.out, U2.out, U3.out, U4.out, U5.out, U6.out, U7.out, *] <;> omega), B9.out⟩
end Go.Proofs.Ythogonpjkngpjaa
