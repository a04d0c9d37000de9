/-
  UpperOk in the program: kind 3.
-/
import Derived.Test.YthogonpjkngpjaaRc17
namespace Go.Proofs.Ythogonpjkngpjaa
set_option maxRecDepth 100000
open Go.RowKit
set_option maxHeartbeats 4000000 in
theorem upOkI3 (sport dport seq ack bits window urgent ty code rest : Int) (nosum : Bool) (A D : Option Addr) (n c m d : Nat) (k : Int) (w : World) (hn : n ≤ 1048576) (hm : m ≤ 1048576) : Calls Try.prog 65 #[.agg #[.int .i64 3, .int .i64 sport, .int .i64 dport, .int .i64 seq, .int .i64 ack, .int .i64 bits, .int .i64 window, .int .i64 urgent, .int .i64 ty, .int .i64 code, .int .i64 rest, .bool nosum, .slice A n c, .slice D m d], .int .i64 k] w fun e w' => e = .returned (.bool (Uh.ok (Uh.mk 3 sport dport seq ack bits window urgent ty code rest nosum) k n m)) ∧ Below w.heap.size w w' := by
  have q := Lib.hid (K.new w (.cells #[.int .i64 3, .int .i64 sport, .int .i64 dport, .int .i64 seq, .int .i64 ack, .int .i64 bits, .int .i64 window, .int .i64 urgent, .int .i64 ty, .int .i64 code, .int .i64 rest, .bool nosum, .slice A n c, .slice D m d] 36))
  have q1 := Lib.hid (K.old q.out (.cells #[.int .i64 3, .int .i64 sport, .int .i64 dport, .int .i64 seq, .int .i64 ack, .int .i64 bits, .int .i64 window, .int .i64 urgent, .int .i64 ty, .int .i64 code, .int .i64 rest, .bool nosum, .slice A n c, .slice D m d] 36))
  have HF : Hid (∀ v, fmtV 3 v = .iface 112 v) := Lib.hid fun _ => rfl
  have EF := Lib.hid (show Uh.fields (Uh.mk 3 sport dport seq ack bits window urgent ty code rest nosum) k n = (upTo ty 255 && upTo code 255 && half rest) from rfl)
  cases hk : kindB k with
  | false =>
    have HK := Lib.hid hk
    have HR := Lib.hid (show Uh.ok (Uh.mk 3 sport dport seq ack bits window urgent ty code rest nosum) k n m = false by simp [Uh.ok, hk])
    clear hk
    go_enter Try.func65, Try.ntmps65
    go_wp2_with (with_reducible refine loadU rfl _ rfl w.heap.size rfl q.out ?_)
    refine Calls.mono (formatOfC (Uh.mk 3 sport dport seq ack bits window urgent ty code rest nosum) A D n c m d _) ?_
    rintro e w1 ⟨rfl, rfl⟩
    simp only [HF.out]
    go_wp2_with fail
    refine Calls.mono (kindOkB k false _ HK.out) ?_
    rintro e w2 ⟨rfl, rfl⟩
    go_wp2
    go_ret
    exact ⟨ret_bool HR.out.symm, Joins.below_alloc2 w _ _⟩
  | true =>
    have HK := Lib.hid hk
    clear hk
    cases hf : (upTo ty 255 && upTo code 255 && half rest) with
    | false =>
      have HFI := Lib.hid (fun v => show Calls Try.prog 153 #[.agg #[.int .i64 3, .int .i64 sport, .int .i64 dport, .int .i64 seq, .int .i64 ack, .int .i64 bits, .int .i64 window, .int .i64 urgent, .int .i64 ty, .int .i64 code, .int .i64 rest, .bool nosum, .slice A n c, .slice D m d], .int .i64 k] v fun e w' => e = .returned (.bool false) ∧ Below v.heap.size v w' from (icmpF (Uh.mk 3 sport dport seq ack bits window urgent ty code rest nosum) A D n c m d v k).mono fun _ _ ⟨he, hb⟩ => ⟨he.trans (ret_bool hf), hb⟩)
      have HR := Lib.hid (show Uh.ok (Uh.mk 3 sport dport seq ack bits window urgent ty code rest nosum) k n m = false by unfold Uh.ok; rw [EF.out.trans hf]; simp)
      clear hf
      go_enter Try.func65, Try.ntmps65
      go_wp2_with (with_reducible refine loadU rfl _ rfl w.heap.size rfl q.out ?_)
      refine Calls.mono (formatOfC (Uh.mk 3 sport dport seq ack bits window urgent ty code rest nosum) A D n c m d _) ?_
      rintro e w1 ⟨rfl, rfl⟩
      simp only [HF.out]
      go_wp2_with fail
      refine Calls.mono (kindOkB k true _ HK.out) ?_
      rintro e w2 ⟨rfl, rfl⟩
      go_wp2_with fail
      refine Calls.mono (HFI.out _) ?_
      rintro e w3 ⟨rfl, b3⟩
      have B3 := Lib.hid (bthen (Joins.below_alloc2 w _ _) b3)
      have q3 := Lib.hid (K.below b3 q1.out)
      clear b3
      go_wp2
      go_ret
      exact ⟨ret_bool HR.out.symm, B3.out⟩
    | true =>
      have HFI := Lib.hid (fun v => show Calls Try.prog 153 #[.agg #[.int .i64 3, .int .i64 sport, .int .i64 dport, .int .i64 seq, .int .i64 ack, .int .i64 bits, .int .i64 window, .int .i64 urgent, .int .i64 ty, .int .i64 code, .int .i64 rest, .bool nosum, .slice A n c, .slice D m d], .int .i64 k] v fun e w' => e = .returned (.bool true) ∧ Below v.heap.size v w' from (icmpF (Uh.mk 3 sport dport seq ack bits window urgent ty code rest nosum) A D n c m d v k).mono fun _ _ ⟨he, hb⟩ => ⟨he.trans (ret_bool hf), hb⟩)
      have HFF := Lib.hid (EF.out.trans hf)
      clear hf
      have EO := Lib.hid (fun b (hb : noF (Uh.mk 3 sport dport seq ack bits window urgent 0 0 0 nosum) n = b) => show Uh.ok (Uh.mk 3 sport dport seq ack bits window urgent ty code rest nosum) k n m = (b && decide (Uh.size (Uh.mk 3 sport dport seq ack bits window urgent ty code rest nosum) n m ≤ 1500)) by have e : noF (Uh.unused (Uh.mk 3 sport dport seq ack bits window urgent ty code rest nosum)) (if (Uh.kind (Uh.mk 3 sport dport seq ack bits window urgent ty code rest nosum)) = 1 then 0 else n) = b := hb; unfold Uh.ok; rw [HK.out, HFF.out, e]; simp)
      cases hf : noF (Uh.mk 3 sport dport seq ack bits window urgent 0 0 0 nosum) n with
      | false =>
        have HNI := Lib.hid (fun v => show Calls Try.prog 101 #[.agg #[.int .i64 3, .int .i64 sport, .int .i64 dport, .int .i64 seq, .int .i64 ack, .int .i64 bits, .int .i64 window, .int .i64 urgent, .int .i64 0, .int .i64 0, .int .i64 0, .bool nosum, .slice A n c, .slice D m d]] v fun e w' => e = .returned (.bool false) ∧ Below v.heap.size v w' from (noFC (Uh.mk 3 sport dport seq ack bits window urgent 0 0 0 nosum) A D n c m d v).mono fun _ _ ⟨he, hb⟩ => ⟨he.trans (ret_bool hf), hb⟩)
        have HR := Lib.hid (show Uh.ok (Uh.mk 3 sport dport seq ack bits window urgent ty code rest nosum) k n m = false from EO.out false hf)
        clear hf
        go_enter Try.func65, Try.ntmps65
        go_wp2_with (with_reducible refine loadU rfl _ rfl w.heap.size rfl q.out ?_)
        refine Calls.mono (formatOfC (Uh.mk 3 sport dport seq ack bits window urgent ty code rest nosum) A D n c m d _) ?_
        rintro e w1 ⟨rfl, rfl⟩
        simp only [HF.out]
        go_wp2_with fail
        refine Calls.mono (kindOkB k true _ HK.out) ?_
        rintro e w2 ⟨rfl, rfl⟩
        go_wp2_with fail
        refine Calls.mono (HFI.out _) ?_
        rintro e w3 ⟨rfl, b3⟩
        have B3 := Lib.hid (bthen (Joins.below_alloc2 w _ _) b3)
        have q3 := Lib.hid (K.below b3 q1.out)
        clear b3
        go_wp2_with fail
        refine Calls.mono (unused_icmp (Uh.mk 3 sport dport seq ack bits window urgent ty code rest nosum) A D n c m d _) ?_
        rintro e w4 ⟨rfl, b4⟩
        have B4 := Lib.hid (bthen B3.out b4)
        have q4 := Lib.hid (K.below b4 q3.out)
        clear b4
        go_wp2_with fail
        refine Calls.mono (HNI.out _) ?_
        rintro e w5 ⟨rfl, b5⟩
        have B5 := Lib.hid (bthen B4.out b5)
        have q5 := Lib.hid (K.below b5 q4.out)
        clear b5
        go_wp2
        go_ret
        exact ⟨ret_bool HR.out.symm, B5.out⟩
      | true =>
        have HNI := Lib.hid (fun v => show Calls Try.prog 101 #[.agg #[.int .i64 3, .int .i64 sport, .int .i64 dport, .int .i64 seq, .int .i64 ack, .int .i64 bits, .int .i64 window, .int .i64 urgent, .int .i64 0, .int .i64 0, .int .i64 0, .bool nosum, .slice A n c, .slice D m d]] v fun e w' => e = .returned (.bool true) ∧ Below v.heap.size v w' from (noFC (Uh.mk 3 sport dport seq ack bits window urgent 0 0 0 nosum) A D n c m d v).mono fun _ _ ⟨he, hb⟩ => ⟨he.trans (ret_bool hf), hb⟩)
        have HR := Lib.hid (show Uh.ok (Uh.mk 3 sport dport seq ack bits window urgent ty code rest nosum) k n m = decide (Uh.size (Uh.mk 3 sport dport seq ack bits window urgent ty code rest nosum) n m ≤ 1500) from (EO.out true hf).trans (by simp))
        clear hf
        go_enter Try.func65, Try.ntmps65
        go_wp2_with (with_reducible refine loadU rfl _ rfl w.heap.size rfl q.out ?_)
        refine Calls.mono (formatOfC (Uh.mk 3 sport dport seq ack bits window urgent ty code rest nosum) A D n c m d _) ?_
        rintro e w1 ⟨rfl, rfl⟩
        simp only [HF.out]
        go_wp2_with fail
        refine Calls.mono (kindOkB k true _ HK.out) ?_
        rintro e w2 ⟨rfl, rfl⟩
        go_wp2_with fail
        refine Calls.mono (HFI.out _) ?_
        rintro e w3 ⟨rfl, b3⟩
        have B3 := Lib.hid (bthen (Joins.below_alloc2 w _ _) b3)
        have q3 := Lib.hid (K.below b3 q1.out)
        clear b3
        go_wp2_with fail
        refine Calls.mono (unused_icmp (Uh.mk 3 sport dport seq ack bits window urgent ty code rest nosum) A D n c m d _) ?_
        rintro e w4 ⟨rfl, b4⟩
        have B4 := Lib.hid (bthen B3.out b4)
        have q4 := Lib.hid (K.below b4 q3.out)
        clear b4
        go_wp2_with fail
        refine Calls.mono (HNI.out _) ?_
        rintro e w5 ⟨rfl, b5⟩
        have B5 := Lib.hid (bthen B4.out b5)
        have q5 := Lib.hid (K.below b5 q4.out)
        clear b5
        obtain ⟨c_0, c_1, c_2, c_3, c_4, c_5, c_6, c_7, c_8, c_9, c_10, c_11, c_12, c_13⟩ := K.cells14 q5.out
        go_wp2_with fail
        clear c_0 c_1 c_2 c_3 c_4 c_5 c_6 c_7 c_8 c_9 c_10 c_11 c_12 c_13
        refine Calls.mono (implUpSize (Uh.mk 3 sport dport seq ack bits window urgent ty code rest nosum) A D n c m d _ hn hm) ?_
        rintro e w6 ⟨rfl, b6⟩
        have B6 := Lib.hid (bthen B5.out b6)
        clear b6
        go_wp2
        go_ret
        exact ⟨ret_bool HR.out.symm, B6.out⟩
end Go.Proofs.Ythogonpjkngpjaa
