/-
  UpperOk in the model: kind other than the four, between addresses of either kind.
-/
import Derived.Test.YthogonpjkngpjaaRc11
import Derived.Test.YthogonpjkngpjaaRc08
namespace Go.Proofs.Ythogonpjkngpjaa
set_option maxRecDepth 100000
open Go.RowKit
set_option maxHeartbeats 8000000 in
theorem upOkT4 (kind sport dport seq ack bits window urgent ty code rest : Int) (nosum : Bool) (A D : Option Addr) (kd : Int) (hkd : kd = 4 ∨ kd = 6) (n c m d : Nat) (w : World) (hn : n ≤ 1048576) (hm : m ≤ 1048576) (k0 : ¬ kind = 0) (k1 : ¬ kind = 1) (k2 : ¬ kind = 2) (k3 : ¬ kind = 3) : Calls Try.prog 59 #[.agg #[.int .i64 kind, .int .i64 sport, .int .i64 dport, .int .i64 seq, .int .i64 ack, .int .i64 bits, .int .i64 window, .int .i64 urgent, .int .i64 ty, .int .i64 code, .int .i64 rest, .bool nosum, .slice A n c, .slice D m d], .int .i64 kd] w fun e w' => e = .returned (.bool (Uh.ok (Uh.mk kind sport dport seq ack bits window urgent ty code rest nosum) kd n m)) ∧ Below w.heap.size w w' := by
  rcases hkd with rfl | rfl
  all_goals
   have e1 : (kind == 1) = false := by simp [k1]
   have e2 : (kind == 2) = false := by simp [k2]
   have e3 : (kind == 3) = false := by simp [k3]
   cases u1 : upTo sport 65535 with
   | false =>
    have U1 := Lib.hid u1
    clear u1
    have zz : ¬ sport = 0 := fun e => by have := U1.out; rw [e, upTo_zero _ (by omega)] at this; cases this
    have q := Lib.hid (K.new w (.cells #[.int .i64 kind, .int .i64 sport, .int .i64 dport, .int .i64 seq, .int .i64 ack, .int .i64 bits, .int .i64 window, .int .i64 urgent, .int .i64 ty, .int .i64 code, .int .i64 rest, .bool nosum, .slice A n c, .slice D m d] 36))
    try simp only at q ⊢
    go_enter Try.func59, Try.ntmps59
    go_wp2_with (first | (go_at_call 39; (first | (with_reducible refine (specInB sport 65535 false _ U1.out).mono ?_)); rintro e w1 ⟨rfl, rfl⟩))
    go_ret
    exact ⟨ret_bool (by simp [Uh.ok, Uh.fields, noF, Uh.unused, kindB, Uh.size, *]), Joins.below_alloc1 w _⟩
   | true =>
    have U1 := Lib.hid u1
    clear u1
    cases u2 : upTo dport 65535 with
    | false =>
     have U2 := Lib.hid u2
     clear u2
     have zz : ¬ dport = 0 := fun e => by have := U2.out; rw [e, upTo_zero _ (by omega)] at this; cases this
     have q := Lib.hid (K.new w (.cells #[.int .i64 kind, .int .i64 sport, .int .i64 dport, .int .i64 seq, .int .i64 ack, .int .i64 bits, .int .i64 window, .int .i64 urgent, .int .i64 ty, .int .i64 code, .int .i64 rest, .bool nosum, .slice A n c, .slice D m d] 36))
     try simp only at q ⊢
     go_enter Try.func59, Try.ntmps59
     go_wp2_with (first | (go_at_call 39; (first | (with_reducible refine (specInB sport 65535 true _ U1.out).mono ?_) | (with_reducible refine (specInB dport 65535 false _ U2.out).mono ?_)); rintro e w1 ⟨rfl, rfl⟩))
     go_ret
     exact ⟨ret_bool (by simp [Uh.ok, Uh.fields, noF, Uh.unused, kindB, Uh.size, *]), Joins.below_alloc1 w _⟩
    | true =>
     have U2 := Lib.hid u2
     clear u2
     by_cases z_sport : sport = 0
     case neg =>
      have q := Lib.hid (K.new w (.cells #[.int .i64 kind, .int .i64 sport, .int .i64 dport, .int .i64 seq, .int .i64 ack, .int .i64 bits, .int .i64 window, .int .i64 urgent, .int .i64 ty, .int .i64 code, .int .i64 rest, .bool nosum, .slice A n c, .slice D m d] 36))
      try simp only at q ⊢
      go_enter Try.func59, Try.ntmps59
      go_wp2_with (first | (go_at_call 39; (first | (with_reducible refine (specInB sport 65535 true _ U1.out).mono ?_) | (with_reducible refine (specInB dport 65535 true _ U2.out).mono ?_)); rintro e w1 ⟨rfl, rfl⟩))
      go_ret
      exact ⟨ret_bool (by simp [Uh.ok, Uh.fields, noF, Uh.unused, kindB, Uh.size, *]), Joins.below_alloc1 w _⟩
     case pos =>
      subst z_sport
      clear U1
      by_cases z_dport : dport = 0
      case neg =>
       have q := Lib.hid (K.new w (.cells #[.int .i64 kind, .int .i64 0, .int .i64 dport, .int .i64 seq, .int .i64 ack, .int .i64 bits, .int .i64 window, .int .i64 urgent, .int .i64 ty, .int .i64 code, .int .i64 rest, .bool nosum, .slice A n c, .slice D m d] 36))
       try simp only at q ⊢
       go_enter Try.func59, Try.ntmps59
       go_wp2_with (first | (go_at_call 39; (first | (with_reducible refine (specInB 0 65535 true _ (by decide)).mono ?_) | (with_reducible refine (specInB dport 65535 true _ U2.out).mono ?_)); rintro e w1 ⟨rfl, rfl⟩))
       go_ret
       exact ⟨ret_bool (by simp [Uh.ok, Uh.fields, noF, Uh.unused, kindB, Uh.size, *]), Joins.below_alloc1 w _⟩
      case pos =>
       subst z_dport
       clear U2
       by_cases z_seq : seq = 0
       case neg =>
        have q := Lib.hid (K.new w (.cells #[.int .i64 kind, .int .i64 0, .int .i64 0, .int .i64 seq, .int .i64 ack, .int .i64 bits, .int .i64 window, .int .i64 urgent, .int .i64 ty, .int .i64 code, .int .i64 rest, .bool nosum, .slice A n c, .slice D m d] 36))
        try simp only at q ⊢
        go_enter Try.func59, Try.ntmps59
        go_wp2_with (first | (go_at_call 39; (first | (with_reducible refine (specInB 0 65535 true _ (by decide)).mono ?_) | (with_reducible refine (specInB 0 65535 true _ (by decide)).mono ?_)); rintro e w1 ⟨rfl, rfl⟩))
        go_ret
        exact ⟨ret_bool (by simp [Uh.ok, Uh.fields, noF, Uh.unused, kindB, Uh.size, *]), Joins.below_alloc1 w _⟩
       case pos =>
        subst z_seq
        by_cases z_ack : ack = 0
        case neg =>
         have q := Lib.hid (K.new w (.cells #[.int .i64 kind, .int .i64 0, .int .i64 0, .int .i64 0, .int .i64 ack, .int .i64 bits, .int .i64 window, .int .i64 urgent, .int .i64 ty, .int .i64 code, .int .i64 rest, .bool nosum, .slice A n c, .slice D m d] 36))
         try simp only at q ⊢
         go_enter Try.func59, Try.ntmps59
         go_wp2_with (first | (go_at_call 39; (first | (with_reducible refine (specInB 0 65535 true _ (by decide)).mono ?_) | (with_reducible refine (specInB 0 65535 true _ (by decide)).mono ?_)); rintro e w1 ⟨rfl, rfl⟩))
         go_ret
         exact ⟨ret_bool (by simp [Uh.ok, Uh.fields, noF, Uh.unused, kindB, Uh.size, *]), Joins.below_alloc1 w _⟩
        case pos =>
         subst z_ack
         by_cases z_bits : bits = 0
         case neg =>
          have q := Lib.hid (K.new w (.cells #[.int .i64 kind, .int .i64 0, .int .i64 0, .int .i64 0, .int .i64 0, .int .i64 bits, .int .i64 window, .int .i64 urgent, .int .i64 ty, .int .i64 code, .int .i64 rest, .bool nosum, .slice A n c, .slice D m d] 36))
          try simp only at q ⊢
          go_enter Try.func59, Try.ntmps59
          go_wp2_with (first | (go_at_call 39; (first | (with_reducible refine (specInB 0 65535 true _ (by decide)).mono ?_) | (with_reducible refine (specInB 0 65535 true _ (by decide)).mono ?_)); rintro e w1 ⟨rfl, rfl⟩))
          go_ret
          exact ⟨ret_bool (by simp [Uh.ok, Uh.fields, noF, Uh.unused, kindB, Uh.size, *]), Joins.below_alloc1 w _⟩
         case pos =>
          subst z_bits
          by_cases z_window : window = 0
          case neg =>
           have q := Lib.hid (K.new w (.cells #[.int .i64 kind, .int .i64 0, .int .i64 0, .int .i64 0, .int .i64 0, .int .i64 0, .int .i64 window, .int .i64 urgent, .int .i64 ty, .int .i64 code, .int .i64 rest, .bool nosum, .slice A n c, .slice D m d] 36))
           try simp only at q ⊢
           go_enter Try.func59, Try.ntmps59
           go_wp2_with (first | (go_at_call 39; (first | (with_reducible refine (specInB 0 65535 true _ (by decide)).mono ?_) | (with_reducible refine (specInB 0 65535 true _ (by decide)).mono ?_)); rintro e w1 ⟨rfl, rfl⟩))
           go_ret
           exact ⟨ret_bool (by simp [Uh.ok, Uh.fields, noF, Uh.unused, kindB, Uh.size, *]), Joins.below_alloc1 w _⟩
          case pos =>
           subst z_window
           by_cases z_urgent : urgent = 0
           case neg =>
            have q := Lib.hid (K.new w (.cells #[.int .i64 kind, .int .i64 0, .int .i64 0, .int .i64 0, .int .i64 0, .int .i64 0, .int .i64 0, .int .i64 urgent, .int .i64 ty, .int .i64 code, .int .i64 rest, .bool nosum, .slice A n c, .slice D m d] 36))
            try simp only at q ⊢
            go_enter Try.func59, Try.ntmps59
            go_wp2_with (first | (go_at_call 39; (first | (with_reducible refine (specInB 0 65535 true _ (by decide)).mono ?_) | (with_reducible refine (specInB 0 65535 true _ (by decide)).mono ?_)); rintro e w1 ⟨rfl, rfl⟩))
            go_ret
            exact ⟨ret_bool (by simp [Uh.ok, Uh.fields, noF, Uh.unused, kindB, Uh.size, *]), Joins.below_alloc1 w _⟩
           case pos =>
            subst z_urgent
            by_cases z_n : n = 0
            case neg =>
             have z_m : ¬ (n : Int) = 0 := by omega
             have q := Lib.hid (K.new w (.cells #[.int .i64 kind, .int .i64 0, .int .i64 0, .int .i64 0, .int .i64 0, .int .i64 0, .int .i64 0, .int .i64 0, .int .i64 ty, .int .i64 code, .int .i64 rest, .bool nosum, .slice A n c, .slice D m d] 36))
             try simp only at q ⊢
             go_enter Try.func59, Try.ntmps59
             go_wp2_with (first | (go_at_call 39; (first | (with_reducible refine (specInB 0 65535 true _ (by decide)).mono ?_) | (with_reducible refine (specInB 0 65535 true _ (by decide)).mono ?_)); rintro e w1 ⟨rfl, rfl⟩))
             go_ret
             exact ⟨ret_bool (by simp [Uh.ok, Uh.fields, noF, Uh.unused, kindB, Uh.size, *]), Joins.below_alloc1 w _⟩
            case pos =>
             subst z_n
             by_cases z_ty : ty = 0
             case neg =>
              have q := Lib.hid (K.new w (.cells #[.int .i64 kind, .int .i64 0, .int .i64 0, .int .i64 0, .int .i64 0, .int .i64 0, .int .i64 0, .int .i64 0, .int .i64 ty, .int .i64 code, .int .i64 rest, .bool nosum, .slice A 0 c, .slice D m d] 36))
              try simp only at q ⊢
              go_enter Try.func59, Try.ntmps59
              go_wp2_with (first | (go_at_call 39; (first | (with_reducible refine (specInB 0 65535 true _ (by decide)).mono ?_) | (with_reducible refine (specInB 0 65535 true _ (by decide)).mono ?_)); rintro e w1 ⟨rfl, rfl⟩))
              go_ret
              exact ⟨ret_bool (by simp [Uh.ok, Uh.fields, noF, Uh.unused, kindB, Uh.size, *]), Joins.below_alloc1 w _⟩
             case pos =>
              subst z_ty
              by_cases z_code : code = 0
              case neg =>
               have q := Lib.hid (K.new w (.cells #[.int .i64 kind, .int .i64 0, .int .i64 0, .int .i64 0, .int .i64 0, .int .i64 0, .int .i64 0, .int .i64 0, .int .i64 0, .int .i64 code, .int .i64 rest, .bool nosum, .slice A 0 c, .slice D m d] 36))
               try simp only at q ⊢
               go_enter Try.func59, Try.ntmps59
               go_wp2_with (first | (go_at_call 39; (first | (with_reducible refine (specInB 0 65535 true _ (by decide)).mono ?_) | (with_reducible refine (specInB 0 65535 true _ (by decide)).mono ?_)); rintro e w1 ⟨rfl, rfl⟩))
               go_ret
               exact ⟨ret_bool (by simp [Uh.ok, Uh.fields, noF, Uh.unused, kindB, Uh.size, *]), Joins.below_alloc1 w _⟩
              case pos =>
               subst z_code
               by_cases z_rest : rest = 0
               case neg =>
                have q := Lib.hid (K.new w (.cells #[.int .i64 kind, .int .i64 0, .int .i64 0, .int .i64 0, .int .i64 0, .int .i64 0, .int .i64 0, .int .i64 0, .int .i64 0, .int .i64 0, .int .i64 rest, .bool nosum, .slice A 0 c, .slice D m d] 36))
                try simp only at q ⊢
                go_enter Try.func59, Try.ntmps59
                go_wp2_with (first | (go_at_call 39; (first | (with_reducible refine (specInB 0 65535 true _ (by decide)).mono ?_) | (with_reducible refine (specInB 0 65535 true _ (by decide)).mono ?_)); rintro e w1 ⟨rfl, rfl⟩))
                go_ret
                exact ⟨ret_bool (by simp [Uh.ok, Uh.fields, noF, Uh.unused, kindB, Uh.size, *]), Joins.below_alloc1 w _⟩
               case pos =>
                subst z_rest
                cases nosum with
                | true =>
                 have q := Lib.hid (K.new w (.cells #[.int .i64 kind, .int .i64 0, .int .i64 0, .int .i64 0, .int .i64 0, .int .i64 0, .int .i64 0, .int .i64 0, .int .i64 0, .int .i64 0, .int .i64 0, .bool true, .slice A 0 c, .slice D m d] 36))
                 try simp only at q ⊢
                 go_enter Try.func59, Try.ntmps59
                 go_wp2_with (first | (go_at_call 39; (first | (with_reducible refine (specInB 0 65535 true _ (by decide)).mono ?_) | (with_reducible refine (specInB 0 65535 true _ (by decide)).mono ?_)); rintro e w1 ⟨rfl, rfl⟩))
                 go_ret
                 exact ⟨ret_bool (by simp [Uh.ok, Uh.fields, noF, Uh.unused, kindB, Uh.size, *]), Joins.below_alloc1 w _⟩
                | false =>
                 have q := Lib.hid (K.new w (.cells #[.int .i64 kind, .int .i64 0, .int .i64 0, .int .i64 0, .int .i64 0, .int .i64 0, .int .i64 0, .int .i64 0, .int .i64 0, .int .i64 0, .int .i64 0, .bool false, .slice A 0 c, .slice D m d] 36))
                 have HS := Lib.hid (fun v => show Calls Try.prog 61 #[.agg #[.int .i64 kind, .int .i64 0, .int .i64 0, .int .i64 0, .int .i64 0, .int .i64 0, .int .i64 0, .int .i64 0, .int .i64 0, .int .i64 0, .int .i64 0, .bool false, .slice A 0 c, .slice D m d]] v fun e w' => e = .returned (.int .i64 (-1)) ∧ Below v.heap.size v w' from (show Uh.size (Uh.mk kind 0 0 0 0 0 0 0 0 0 0 false) 0 m = -1 by simp [Uh.size, k0, k1, k2, k3]) ▸ specUpSize (Uh.mk kind 0 0 0 0 0 0 0 0 0 0 false) A D 0 c m d v (by omega) hm)
                 try simp only at q HS ⊢
                 go_enter Try.func59, Try.ntmps59
                 go_wp2_with (first | (go_at_call 39; (first | (with_reducible refine (specInB 0 65535 true _ (by decide)).mono ?_) | (with_reducible refine (specInB 0 65535 true _ (by decide)).mono ?_)); rintro e w1 ⟨rfl, rfl⟩) | (with_reducible refine loadU rfl _ rfl w.heap.size rfl q.out ?_) | (go_at_call 61; refine Calls.mono (HS.out _) ?_; rintro e w9 ⟨rfl, b9⟩; have B9 := Lib.hid (bthen (Joins.below_alloc1 w _) b9); clear b9))
                 go_ret
                 exact ⟨ret_bool (by simp [Uh.ok, Uh.fields, noF, Uh.unused, kindB, Uh.size, *] <;> omega), B9.out⟩
end Go.Proofs.Ythogonpjkngpjaa
