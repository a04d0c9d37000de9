/-
  UpperOk in the model: kind 3, between addresses of either kind.
-/
import Derived.Test.YthogonpjkngpjaaRc11
import Derived.Test.YthogonpjkngpjaaRc08
namespace Go.Proofs.Ythogonpjkngpjaa
set_option maxRecDepth 100000
open Go.RowKit
theorem specHalfB3 (n : Int) (b : Bool) (w : World) (h : half n = b) : Calls Try.prog 97 #[.int .i64 n] w fun e w' => e = .returned (.bool b) ∧ w = w' := h ▸ specHalf n w
set_option maxHeartbeats 8000000 in
theorem upOkT3 (sport dport seq ack bits window urgent ty code rest : Int) (nosum : Bool) (A D : Option Addr) (kd : Int) (hkd : kd = 4 ∨ kd = 6) (n c m d : Nat) (w : World) (hn : n ≤ 1048576) (hm : m ≤ 1048576) : Calls Try.prog 59 #[.agg #[.int .i64 3, .int .i64 sport, .int .i64 dport, .int .i64 seq, .int .i64 ack, .int .i64 bits, .int .i64 window, .int .i64 urgent, .int .i64 ty, .int .i64 code, .int .i64 rest, .bool nosum, .slice A n c, .slice D m d], .int .i64 kd] w fun e w' => e = .returned (.bool (Uh.ok (Uh.mk 3 sport dport seq ack bits window urgent ty code rest nosum) kd n m)) ∧ Below w.heap.size w w' := by
  rcases hkd with rfl | rfl
  all_goals
   cases u1 : upTo sport 65535 with
   | false =>
    have U1 := Lib.hid u1
    clear u1
    have zz : ¬ sport = 0 := fun e => by have := U1.out; rw [e, upTo_zero _ (by omega)] at this; cases this
    have q := Lib.hid (K.new w (.cells #[.int .i64 3, .int .i64 sport, .int .i64 dport, .int .i64 seq, .int .i64 ack, .int .i64 bits, .int .i64 window, .int .i64 urgent, .int .i64 ty, .int .i64 code, .int .i64 rest, .bool nosum, .slice A n c, .slice D m d] 36))
    try simp only at q ⊢
    go_enter Try.func59, Try.ntmps59
    go_wp2_with (first | (go_at_call 39; (first | (with_reducible refine (specInB sport 65535 false _ U1.out).mono ?_)); rintro e w1 ⟨rfl, rfl⟩))
    go_ret
    exact ⟨ret_bool (by simp [Uh.ok, Uh.fields, noF, Uh.unused, kindB, Uh.size, *]), Joins.below_alloc1 w _⟩
   | true =>
    have U1 := Lib.hid u1
    clear u1
    cases u2 : upTo dport 65535 with
    | false =>
     have U2 := Lib.hid u2
     clear u2
     have zz : ¬ dport = 0 := fun e => by have := U2.out; rw [e, upTo_zero _ (by omega)] at this; cases this
     have q := Lib.hid (K.new w (.cells #[.int .i64 3, .int .i64 sport, .int .i64 dport, .int .i64 seq, .int .i64 ack, .int .i64 bits, .int .i64 window, .int .i64 urgent, .int .i64 ty, .int .i64 code, .int .i64 rest, .bool nosum, .slice A n c, .slice D m d] 36))
     try simp only at q ⊢
     go_enter Try.func59, Try.ntmps59
     go_wp2_with (first | (go_at_call 39; (first | (with_reducible refine (specInB sport 65535 true _ U1.out).mono ?_) | (with_reducible refine (specInB dport 65535 false _ U2.out).mono ?_)); rintro e w1 ⟨rfl, rfl⟩))
     go_ret
     exact ⟨ret_bool (by simp [Uh.ok, Uh.fields, noF, Uh.unused, kindB, Uh.size, *]), Joins.below_alloc1 w _⟩
    | true =>
     have U2 := Lib.hid u2
     clear u2
     by_cases z_sport : sport = 0
     case neg =>
      have q := Lib.hid (K.new w (.cells #[.int .i64 3, .int .i64 sport, .int .i64 dport, .int .i64 seq, .int .i64 ack, .int .i64 bits, .int .i64 window, .int .i64 urgent, .int .i64 ty, .int .i64 code, .int .i64 rest, .bool nosum, .slice A n c, .slice D m d] 36))
      try simp only at q ⊢
      go_enter Try.func59, Try.ntmps59
      go_wp2_with (first | (go_at_call 39; (first | (with_reducible refine (specInB sport 65535 true _ U1.out).mono ?_) | (with_reducible refine (specInB dport 65535 true _ U2.out).mono ?_)); rintro e w1 ⟨rfl, rfl⟩))
      go_ret
      exact ⟨ret_bool (by simp [Uh.ok, Uh.fields, noF, Uh.unused, kindB, Uh.size, *]), Joins.below_alloc1 w _⟩
     case pos =>
      subst z_sport
      clear U1
      by_cases z_dport : dport = 0
      case neg =>
       have q := Lib.hid (K.new w (.cells #[.int .i64 3, .int .i64 0, .int .i64 dport, .int .i64 seq, .int .i64 ack, .int .i64 bits, .int .i64 window, .int .i64 urgent, .int .i64 ty, .int .i64 code, .int .i64 rest, .bool nosum, .slice A n c, .slice D m d] 36))
       try simp only at q ⊢
       go_enter Try.func59, Try.ntmps59
       go_wp2_with (first | (go_at_call 39; (first | (with_reducible refine (specInB 0 65535 true _ (by decide)).mono ?_) | (with_reducible refine (specInB dport 65535 true _ U2.out).mono ?_)); rintro e w1 ⟨rfl, rfl⟩))
       go_ret
       exact ⟨ret_bool (by simp [Uh.ok, Uh.fields, noF, Uh.unused, kindB, Uh.size, *]), Joins.below_alloc1 w _⟩
      case pos =>
       subst z_dport
       clear U2
       by_cases z_seq : seq = 0
       case neg =>
        have q := Lib.hid (K.new w (.cells #[.int .i64 3, .int .i64 0, .int .i64 0, .int .i64 seq, .int .i64 ack, .int .i64 bits, .int .i64 window, .int .i64 urgent, .int .i64 ty, .int .i64 code, .int .i64 rest, .bool nosum, .slice A n c, .slice D m d] 36))
        try simp only at q ⊢
        go_enter Try.func59, Try.ntmps59
        go_wp2_with (first | (go_at_call 39; (first | (with_reducible refine (specInB 0 65535 true _ (by decide)).mono ?_) | (with_reducible refine (specInB 0 65535 true _ (by decide)).mono ?_)); rintro e w1 ⟨rfl, rfl⟩))
        go_ret
        exact ⟨ret_bool (by simp [Uh.ok, Uh.fields, noF, Uh.unused, kindB, Uh.size, *]), Joins.below_alloc1 w _⟩
       case pos =>
        subst z_seq
        by_cases z_ack : ack = 0
        case neg =>
         have q := Lib.hid (K.new w (.cells #[.int .i64 3, .int .i64 0, .int .i64 0, .int .i64 0, .int .i64 ack, .int .i64 bits, .int .i64 window, .int .i64 urgent, .int .i64 ty, .int .i64 code, .int .i64 rest, .bool nosum, .slice A n c, .slice D m d] 36))
         try simp only at q ⊢
         go_enter Try.func59, Try.ntmps59
         go_wp2_with (first | (go_at_call 39; (first | (with_reducible refine (specInB 0 65535 true _ (by decide)).mono ?_) | (with_reducible refine (specInB 0 65535 true _ (by decide)).mono ?_)); rintro e w1 ⟨rfl, rfl⟩))
         go_ret
         exact ⟨ret_bool (by simp [Uh.ok, Uh.fields, noF, Uh.unused, kindB, Uh.size, *]), Joins.below_alloc1 w _⟩
        case pos =>
         subst z_ack
         by_cases z_bits : bits = 0
         case neg =>
          have q := Lib.hid (K.new w (.cells #[.int .i64 3, .int .i64 0, .int .i64 0, .int .i64 0, .int .i64 0, .int .i64 bits, .int .i64 window, .int .i64 urgent, .int .i64 ty, .int .i64 code, .int .i64 rest, .bool nosum, .slice A n c, .slice D m d] 36))
          try simp only at q ⊢
          go_enter Try.func59, Try.ntmps59
          go_wp2_with (first | (go_at_call 39; (first | (with_reducible refine (specInB 0 65535 true _ (by decide)).mono ?_) | (with_reducible refine (specInB 0 65535 true _ (by decide)).mono ?_)); rintro e w1 ⟨rfl, rfl⟩))
          go_ret
          exact ⟨ret_bool (by simp [Uh.ok, Uh.fields, noF, Uh.unused, kindB, Uh.size, *]), Joins.below_alloc1 w _⟩
         case pos =>
          subst z_bits
          by_cases z_window : window = 0
          case neg =>
           have q := Lib.hid (K.new w (.cells #[.int .i64 3, .int .i64 0, .int .i64 0, .int .i64 0, .int .i64 0, .int .i64 0, .int .i64 window, .int .i64 urgent, .int .i64 ty, .int .i64 code, .int .i64 rest, .bool nosum, .slice A n c, .slice D m d] 36))
           try simp only at q ⊢
           go_enter Try.func59, Try.ntmps59
           go_wp2_with (first | (go_at_call 39; (first | (with_reducible refine (specInB 0 65535 true _ (by decide)).mono ?_) | (with_reducible refine (specInB 0 65535 true _ (by decide)).mono ?_)); rintro e w1 ⟨rfl, rfl⟩))
           go_ret
           exact ⟨ret_bool (by simp [Uh.ok, Uh.fields, noF, Uh.unused, kindB, Uh.size, *]), Joins.below_alloc1 w _⟩
          case pos =>
           subst z_window
           by_cases z_urgent : urgent = 0
           case neg =>
            have q := Lib.hid (K.new w (.cells #[.int .i64 3, .int .i64 0, .int .i64 0, .int .i64 0, .int .i64 0, .int .i64 0, .int .i64 0, .int .i64 urgent, .int .i64 ty, .int .i64 code, .int .i64 rest, .bool nosum, .slice A n c, .slice D m d] 36))
            try simp only at q ⊢
            go_enter Try.func59, Try.ntmps59
            go_wp2_with (first | (go_at_call 39; (first | (with_reducible refine (specInB 0 65535 true _ (by decide)).mono ?_) | (with_reducible refine (specInB 0 65535 true _ (by decide)).mono ?_)); rintro e w1 ⟨rfl, rfl⟩))
            go_ret
            exact ⟨ret_bool (by simp [Uh.ok, Uh.fields, noF, Uh.unused, kindB, Uh.size, *]), Joins.below_alloc1 w _⟩
           case pos =>
            subst z_urgent
            by_cases z_n : n = 0
            case neg =>
             have z_m : ¬ (n : Int) = 0 := by omega
             have q := Lib.hid (K.new w (.cells #[.int .i64 3, .int .i64 0, .int .i64 0, .int .i64 0, .int .i64 0, .int .i64 0, .int .i64 0, .int .i64 0, .int .i64 ty, .int .i64 code, .int .i64 rest, .bool nosum, .slice A n c, .slice D m d] 36))
             try simp only at q ⊢
             go_enter Try.func59, Try.ntmps59
             go_wp2_with (first | (go_at_call 39; (first | (with_reducible refine (specInB 0 65535 true _ (by decide)).mono ?_) | (with_reducible refine (specInB 0 65535 true _ (by decide)).mono ?_)); rintro e w1 ⟨rfl, rfl⟩))
             go_ret
             exact ⟨ret_bool (by simp [Uh.ok, Uh.fields, noF, Uh.unused, kindB, Uh.size, *]), Joins.below_alloc1 w _⟩
            case pos =>
             subst z_n
             cases u3 : upTo ty 255 with
             | false =>
              have U3 := Lib.hid u3
              clear u3
              have q := Lib.hid (K.new w (.cells #[.int .i64 3, .int .i64 0, .int .i64 0, .int .i64 0, .int .i64 0, .int .i64 0, .int .i64 0, .int .i64 0, .int .i64 ty, .int .i64 code, .int .i64 rest, .bool nosum, .slice A 0 c, .slice D m d] 36))
              try simp only at q ⊢
              go_enter Try.func59, Try.ntmps59
              go_wp2_with (first | (go_at_call 39; (first | (with_reducible refine (specInB 0 65535 true _ (by decide)).mono ?_) | (with_reducible refine (specInB 0 65535 true _ (by decide)).mono ?_) | (with_reducible refine (specInB ty 255 false _ U3.out).mono ?_)); rintro e w1 ⟨rfl, rfl⟩))
              go_ret
              exact ⟨ret_bool (by simp [Uh.ok, Uh.fields, noF, Uh.unused, kindB, Uh.size, U3.out, *]), Joins.below_alloc1 w _⟩
             | true =>
              have U3 := Lib.hid u3
              clear u3
              cases u4 : upTo code 255 with
              | false =>
               have U4 := Lib.hid u4
               clear u4
               have q := Lib.hid (K.new w (.cells #[.int .i64 3, .int .i64 0, .int .i64 0, .int .i64 0, .int .i64 0, .int .i64 0, .int .i64 0, .int .i64 0, .int .i64 ty, .int .i64 code, .int .i64 rest, .bool nosum, .slice A 0 c, .slice D m d] 36))
               try simp only at q ⊢
               go_enter Try.func59, Try.ntmps59
               go_wp2_with (first | (go_at_call 39; (first | (with_reducible refine (specInB 0 65535 true _ (by decide)).mono ?_) | (with_reducible refine (specInB 0 65535 true _ (by decide)).mono ?_) | (with_reducible refine (specInB ty 255 true _ U3.out).mono ?_) | (with_reducible refine (specInB code 255 false _ U4.out).mono ?_)); rintro e w1 ⟨rfl, rfl⟩))
               go_ret
               exact ⟨ret_bool (by simp [Uh.ok, Uh.fields, noF, Uh.unused, kindB, Uh.size, U3.out, U4.out, *]), Joins.below_alloc1 w _⟩
              | true =>
               have U4 := Lib.hid u4
               clear u4
               cases u5 : half rest with
               | false =>
                have U5 := Lib.hid u5
                clear u5
                have q := Lib.hid (K.new w (.cells #[.int .i64 3, .int .i64 0, .int .i64 0, .int .i64 0, .int .i64 0, .int .i64 0, .int .i64 0, .int .i64 0, .int .i64 ty, .int .i64 code, .int .i64 rest, .bool nosum, .slice A 0 c, .slice D m d] 36))
                try simp only at q ⊢
                go_enter Try.func59, Try.ntmps59
                go_wp2_with (first | (go_at_call 39; (first | (with_reducible refine (specInB 0 65535 true _ (by decide)).mono ?_) | (with_reducible refine (specInB 0 65535 true _ (by decide)).mono ?_) | (with_reducible refine (specInB ty 255 true _ U3.out).mono ?_) | (with_reducible refine (specInB code 255 true _ U4.out).mono ?_)); rintro e w1 ⟨rfl, rfl⟩) | (go_at_call 97; (first | (with_reducible refine (specHalfB3 rest false _ U5.out).mono ?_)); rintro e w1 ⟨rfl, rfl⟩))
                go_ret
                exact ⟨ret_bool (by simp [Uh.ok, Uh.fields, noF, Uh.unused, kindB, Uh.size, U3.out, U4.out, U5.out, *]), Joins.below_alloc1 w _⟩
               | true =>
                have U5 := Lib.hid u5
                clear u5
                cases nosum with
                | true =>
                 have q := Lib.hid (K.new w (.cells #[.int .i64 3, .int .i64 0, .int .i64 0, .int .i64 0, .int .i64 0, .int .i64 0, .int .i64 0, .int .i64 0, .int .i64 ty, .int .i64 code, .int .i64 rest, .bool true, .slice A 0 c, .slice D m d] 36))
                 try simp only at q ⊢
                 go_enter Try.func59, Try.ntmps59
                 go_wp2_with (first | (go_at_call 39; (first | (with_reducible refine (specInB 0 65535 true _ (by decide)).mono ?_) | (with_reducible refine (specInB 0 65535 true _ (by decide)).mono ?_) | (with_reducible refine (specInB ty 255 true _ U3.out).mono ?_) | (with_reducible refine (specInB code 255 true _ U4.out).mono ?_)); rintro e w1 ⟨rfl, rfl⟩) | (go_at_call 97; (first | (with_reducible refine (specHalfB3 rest true _ U5.out).mono ?_)); rintro e w1 ⟨rfl, rfl⟩))
                 go_ret
                 exact ⟨ret_bool (by simp [Uh.ok, Uh.fields, noF, Uh.unused, kindB, Uh.size, U3.out, U4.out, U5.out, *]), Joins.below_alloc1 w _⟩
                | false =>
                 by_cases z_z : m ≤ 1492
                 case neg =>
                  have z_y : ¬ 8 + (m : Int) ≤ 1500 := by omega
                  have q := Lib.hid (K.new w (.cells #[.int .i64 3, .int .i64 0, .int .i64 0, .int .i64 0, .int .i64 0, .int .i64 0, .int .i64 0, .int .i64 0, .int .i64 ty, .int .i64 code, .int .i64 rest, .bool false, .slice A 0 c, .slice D m d] 36))
                  have HS := Lib.hid (fun v => show Calls Try.prog 61 #[.agg #[.int .i64 3, .int .i64 0, .int .i64 0, .int .i64 0, .int .i64 0, .int .i64 0, .int .i64 0, .int .i64 0, .int .i64 ty, .int .i64 code, .int .i64 rest, .bool false, .slice A 0 c, .slice D m d]] v fun e w' => e = .returned (.int .i64 (8 + (m : Int))) ∧ Below v.heap.size v w' from (show Uh.size (Uh.mk 3 0 0 0 0 0 0 0 ty code rest false) 0 m = 8 + (m : Int) by simp [Uh.size]) ▸ specUpSize (Uh.mk 3 0 0 0 0 0 0 0 ty code rest false) A D 0 c m d v (by omega) hm)
                  try simp only at q HS ⊢
                  go_enter Try.func59, Try.ntmps59
                  go_wp2_with (first | (go_at_call 39; (first | (with_reducible refine (specInB 0 65535 true _ (by decide)).mono ?_) | (with_reducible refine (specInB 0 65535 true _ (by decide)).mono ?_) | (with_reducible refine (specInB ty 255 true _ U3.out).mono ?_) | (with_reducible refine (specInB code 255 true _ U4.out).mono ?_)); rintro e w1 ⟨rfl, rfl⟩) | (go_at_call 97; (first | (with_reducible refine (specHalfB3 rest true _ U5.out).mono ?_)); rintro e w1 ⟨rfl, rfl⟩) | (with_reducible refine loadU rfl _ rfl w.heap.size rfl q.out ?_) | (go_at_call 61; refine Calls.mono (HS.out _) ?_; rintro e w9 ⟨rfl, b9⟩; have B9 := Lib.hid (bthen (Joins.below_alloc1 w _) b9); clear b9))
                  go_ret
                  exact ⟨ret_bool (by simp [Uh.ok, Uh.fields, noF, Uh.unused, kindB, Uh.size, U3.out, U4.out, U5.out, *] <;> omega), B9.out⟩
                 case pos =>
                  have z_y : 8 + (m : Int) ≤ 1500 := by omega
                  have q := Lib.hid (K.new w (.cells #[.int .i64 3, .int .i64 0, .int .i64 0, .int .i64 0, .int .i64 0, .int .i64 0, .int .i64 0, .int .i64 0, .int .i64 ty, .int .i64 code, .int .i64 rest, .bool false, .slice A 0 c, .slice D m d] 36))
                  have HS := Lib.hid (fun v => show Calls Try.prog 61 #[.agg #[.int .i64 3, .int .i64 0, .int .i64 0, .int .i64 0, .int .i64 0, .int .i64 0, .int .i64 0, .int .i64 0, .int .i64 ty, .int .i64 code, .int .i64 rest, .bool false, .slice A 0 c, .slice D m d]] v fun e w' => e = .returned (.int .i64 (8 + (m : Int))) ∧ Below v.heap.size v w' from (show Uh.size (Uh.mk 3 0 0 0 0 0 0 0 ty code rest false) 0 m = 8 + (m : Int) by simp [Uh.size]) ▸ specUpSize (Uh.mk 3 0 0 0 0 0 0 0 ty code rest false) A D 0 c m d v (by omega) hm)
                  try simp only at q HS ⊢
                  go_enter Try.func59, Try.ntmps59
                  go_wp2_with (first | (go_at_call 39; (first | (with_reducible refine (specInB 0 65535 true _ (by decide)).mono ?_) | (with_reducible refine (specInB 0 65535 true _ (by decide)).mono ?_) | (with_reducible refine (specInB ty 255 true _ U3.out).mono ?_) | (with_reducible refine (specInB code 255 true _ U4.out).mono ?_)); rintro e w1 ⟨rfl, rfl⟩) | (go_at_call 97; (first | (with_reducible refine (specHalfB3 rest true _ U5.out).mono ?_)); rintro e w1 ⟨rfl, rfl⟩) | (with_reducible refine loadU rfl _ rfl w.heap.size rfl q.out ?_) | (go_at_call 61; refine Calls.mono (HS.out _) ?_; rintro e w9 ⟨rfl, b9⟩; have B9 := Lib.hid (bthen (Joins.below_alloc1 w _) b9); clear b9))
                  go_ret
                  exact ⟨ret_bool (by simp [Uh.ok, Uh.fields, noF, Uh.unused, kindB, Uh.size, U3.out, U4.out, U5.out, *] <;> omega), B9.out⟩
end Go.Proofs.Ythogonpjkngpjaa
