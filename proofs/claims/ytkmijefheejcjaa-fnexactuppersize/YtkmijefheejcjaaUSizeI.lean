/-
  The size of an upper layer in the program.
-/
import Derived.Test.YtkmijefheejcjaaUSize
import Derived.Test.YtkmijefheejcjaaUInv
import Derived.Test.YtkmijefheejcjaaRegFacts
namespace Go.Proofs.Ytkmijefheejcjaa
set_option maxRecDepth 100000
open Go.RowKit

set_option maxHeartbeats 1000000 in
theorem head_other (x : Uh) (A D : Option Addr) (n c m d : Nat) (w : World) (_hn : n ≤ 1048576) : Calls Try.prog 166 #[.agg #[.int .i64 x.kind, .int .i64 x.sport, .int .i64 x.dport, .int .i64 x.seq, .int .i64 x.ack, .int .i64 x.bits, .int .i64 x.window, .int .i64 x.urgent, .int .i64 x.ty, .int .i64 x.code, .int .i64 x.rest, .bool x.nosum, .slice A n c, .slice D m d]] w fun e w' => e = .returned (.int .i64 (0 : Int)) ∧ Below w.heap.size w w' := by
  go_enter Try.func166, Try.ntmps166
  go_wp2
  go_ret
  exact ⟨rfl, Joins.below_alloc1 w _⟩

set_option maxHeartbeats 1000000 in
theorem head_tcp (x : Uh) (A D : Option Addr) (n c m d : Nat) (w : World) (_hn : n ≤ 1048576) : Calls Try.prog 137 #[.agg #[.int .i64 x.kind, .int .i64 x.sport, .int .i64 x.dport, .int .i64 x.seq, .int .i64 x.ack, .int .i64 x.bits, .int .i64 x.window, .int .i64 x.urgent, .int .i64 x.ty, .int .i64 x.code, .int .i64 x.rest, .bool x.nosum, .slice A n c, .slice D m d]] w fun e w' => e = .returned (.int .i64 (20 + (n : Int))) ∧ Below w.heap.size w w' := by
  go_enter Try.func137, Try.ntmps137
  go_wp2
  go_ret
  exact ⟨rfl, Joins.below_alloc1 w _⟩

set_option maxHeartbeats 1000000 in
theorem head_udp (x : Uh) (A D : Option Addr) (n c m d : Nat) (w : World) (_hn : n ≤ 1048576) : Calls Try.prog 160 #[.agg #[.int .i64 x.kind, .int .i64 x.sport, .int .i64 x.dport, .int .i64 x.seq, .int .i64 x.ack, .int .i64 x.bits, .int .i64 x.window, .int .i64 x.urgent, .int .i64 x.ty, .int .i64 x.code, .int .i64 x.rest, .bool x.nosum, .slice A n c, .slice D m d]] w fun e w' => e = .returned (.int .i64 (8 : Int)) ∧ Below w.heap.size w w' := by
  go_enter Try.func160, Try.ntmps160
  go_wp2
  go_ret
  exact ⟨rfl, Joins.below_alloc1 w _⟩

set_option maxHeartbeats 1000000 in
theorem head_icmp (x : Uh) (A D : Option Addr) (n c m d : Nat) (w : World) (_hn : n ≤ 1048576) : Calls Try.prog 163 #[.agg #[.int .i64 x.kind, .int .i64 x.sport, .int .i64 x.dport, .int .i64 x.seq, .int .i64 x.ack, .int .i64 x.bits, .int .i64 x.window, .int .i64 x.urgent, .int .i64 x.ty, .int .i64 x.code, .int .i64 x.rest, .bool x.nosum, .slice A n c, .slice D m d]] w fun e w' => e = .returned (.int .i64 (8 : Int)) ∧ Below w.heap.size w w' := by
  go_enter Try.func163, Try.ntmps163
  go_wp2
  go_ret
  exact ⟨rfl, Joins.below_alloc1 w _⟩

set_option maxHeartbeats 2000000 in
theorem implUpSize0 (x : Uh) (A D : Option Addr) (n c m d : Nat) (w : World) (hn : n ≤ 1048576) (hm : m ≤ 1048576) (hk : x.kind = 0) : Calls Try.prog 48 #[.agg #[.int .i64 x.kind, .int .i64 x.sport, .int .i64 x.dport, .int .i64 x.seq, .int .i64 x.ack, .int .i64 x.bits, .int .i64 x.window, .int .i64 x.urgent, .int .i64 x.ty, .int .i64 x.code, .int .i64 x.rest, .bool x.nosum, .slice A n c, .slice D m d]] w fun e w' => e = .returned (.int .i64 (x.size n m)) ∧ Below w.heap.size w w' := by
  obtain ⟨kind, sport, dport, seq, ack, bits, window, urgent, ty, code, rest, nosum⟩ := x
  simp only at hk
  subst hk
  have q := Lib.hid (K.new w (.cells #[.int .i64 (Uh.mk 0 sport dport seq ack bits window urgent ty code rest nosum).kind, .int .i64 (Uh.mk 0 sport dport seq ack bits window urgent ty code rest nosum).sport, .int .i64 (Uh.mk 0 sport dport seq ack bits window urgent ty code rest nosum).dport, .int .i64 (Uh.mk 0 sport dport seq ack bits window urgent ty code rest nosum).seq, .int .i64 (Uh.mk 0 sport dport seq ack bits window urgent ty code rest nosum).ack, .int .i64 (Uh.mk 0 sport dport seq ack bits window urgent ty code rest nosum).bits, .int .i64 (Uh.mk 0 sport dport seq ack bits window urgent ty code rest nosum).window, .int .i64 (Uh.mk 0 sport dport seq ack bits window urgent ty code rest nosum).urgent, .int .i64 (Uh.mk 0 sport dport seq ack bits window urgent ty code rest nosum).ty, .int .i64 (Uh.mk 0 sport dport seq ack bits window urgent ty code rest nosum).code, .int .i64 (Uh.mk 0 sport dport seq ack bits window urgent ty code rest nosum).rest, .bool (Uh.mk 0 sport dport seq ack bits window urgent ty code rest nosum).nosum, .slice A n c, .slice D m d] 38))
  have q1 := Lib.hid (K.old q.out (.cells #[.int .i64 (Uh.mk 0 sport dport seq ack bits window urgent ty code rest nosum).kind, .int .i64 (Uh.mk 0 sport dport seq ack bits window urgent ty code rest nosum).sport, .int .i64 (Uh.mk 0 sport dport seq ack bits window urgent ty code rest nosum).dport, .int .i64 (Uh.mk 0 sport dport seq ack bits window urgent ty code rest nosum).seq, .int .i64 (Uh.mk 0 sport dport seq ack bits window urgent ty code rest nosum).ack, .int .i64 (Uh.mk 0 sport dport seq ack bits window urgent ty code rest nosum).bits, .int .i64 (Uh.mk 0 sport dport seq ack bits window urgent ty code rest nosum).window, .int .i64 (Uh.mk 0 sport dport seq ack bits window urgent ty code rest nosum).urgent, .int .i64 (Uh.mk 0 sport dport seq ack bits window urgent ty code rest nosum).ty, .int .i64 (Uh.mk 0 sport dport seq ack bits window urgent ty code rest nosum).code, .int .i64 (Uh.mk 0 sport dport seq ack bits window urgent ty code rest nosum).rest, .bool (Uh.mk 0 sport dport seq ack bits window urgent ty code rest nosum).nosum, .slice A n c, .slice D m d] 38))
  simp only at q q1 ⊢
  go_enter Try.func48, Try.ntmps48
  go_wp2_with (with_reducible refine loadU rfl _ rfl w.heap.size rfl q.out ?_)
  refine Calls.mono (formatOfC ⟨0, sport, dport, seq, ack, bits, window, urgent, ty, code, rest, nosum⟩ A D n c m d _) ?_
  rintro e w1 ⟨rfl, rfl⟩
  simp only [show ∀ v, fmtV 0 v = .iface 125 v from fun _ => rfl]
  go_wp2_with fail
  refine wp_region_facts (by kernel_rfl) 6 14 [(0, 8), (1, 9), (2, 10), (3, 11), (4, 12), (5, 13)] _ ([.val (.iface 125 (.agg #[.int .i64 (Uh.mk 0 sport dport seq ack bits window urgent ty code rest nosum).kind, .int .i64 (Uh.mk 0 sport dport seq ack bits window urgent ty code rest nosum).sport, .int .i64 (Uh.mk 0 sport dport seq ack bits window urgent ty code rest nosum).dport, .int .i64 (Uh.mk 0 sport dport seq ack bits window urgent ty code rest nosum).seq, .int .i64 (Uh.mk 0 sport dport seq ack bits window urgent ty code rest nosum).ack, .int .i64 (Uh.mk 0 sport dport seq ack bits window urgent ty code rest nosum).bits, .int .i64 (Uh.mk 0 sport dport seq ack bits window urgent ty code rest nosum).window, .int .i64 (Uh.mk 0 sport dport seq ack bits window urgent ty code rest nosum).urgent, .int .i64 (Uh.mk 0 sport dport seq ack bits window urgent ty code rest nosum).ty, .int .i64 (Uh.mk 0 sport dport seq ack bits window urgent ty code rest nosum).code, .int .i64 (Uh.mk 0 sport dport seq ack bits window urgent ty code rest nosum).rest, .bool (Uh.mk 0 sport dport seq ack bits window urgent ty code rest nosum).nosum, .slice A n c, .slice D m d])), .val (.int .i64 (0 : Int)), .val (.pointer (some ⟨w.heap.size, 13, none⟩)), .val (.slice D m d), .val (.int .i64 (m : Int)), .val (.int .i64 ((0 : Int) + m))]) (by kernel_rfl) (by kernel_rfl) rfl rfl ?_ ?_
  · intro j o hj ho a' v K' hx hnd hB hK
    match j, hj, ho with
    | 0, _, ho =>
      obtain rfl := Option.some.inj ho
      have h0 : a'.eval (.tmp 3) = .iface 125 (.agg #[.int .i64 (Uh.mk 0 sport dport seq ack bits window urgent ty code rest nosum).kind, .int .i64 (Uh.mk 0 sport dport seq ack bits window urgent ty code rest nosum).sport, .int .i64 (Uh.mk 0 sport dport seq ack bits window urgent ty code rest nosum).dport, .int .i64 (Uh.mk 0 sport dport seq ack bits window urgent ty code rest nosum).seq, .int .i64 (Uh.mk 0 sport dport seq ack bits window urgent ty code rest nosum).ack, .int .i64 (Uh.mk 0 sport dport seq ack bits window urgent ty code rest nosum).bits, .int .i64 (Uh.mk 0 sport dport seq ack bits window urgent ty code rest nosum).window, .int .i64 (Uh.mk 0 sport dport seq ack bits window urgent ty code rest nosum).urgent, .int .i64 (Uh.mk 0 sport dport seq ack bits window urgent ty code rest nosum).ty, .int .i64 (Uh.mk 0 sport dport seq ack bits window urgent ty code rest nosum).code, .int .i64 (Uh.mk 0 sport dport seq ack bits window urgent ty code rest nosum).rest, .bool (Uh.mk 0 sport dport seq ack bits window urgent ty code rest nosum).nosum, .slice A n c, .slice D m d]) := (hx 3 (by decide)).trans rfl
      exact u_move _ _ rfl h0 (hK _ _ rfl (Below.refl _ _))
    | 1, _, ho =>
      obtain rfl := Option.some.inj ho
      have h0 : a'.eval (.tmp 8) = .iface 125 (.agg #[.int .i64 (Uh.mk 0 sport dport seq ack bits window urgent ty code rest nosum).kind, .int .i64 (Uh.mk 0 sport dport seq ack bits window urgent ty code rest nosum).sport, .int .i64 (Uh.mk 0 sport dport seq ack bits window urgent ty code rest nosum).dport, .int .i64 (Uh.mk 0 sport dport seq ack bits window urgent ty code rest nosum).seq, .int .i64 (Uh.mk 0 sport dport seq ack bits window urgent ty code rest nosum).ack, .int .i64 (Uh.mk 0 sport dport seq ack bits window urgent ty code rest nosum).bits, .int .i64 (Uh.mk 0 sport dport seq ack bits window urgent ty code rest nosum).window, .int .i64 (Uh.mk 0 sport dport seq ack bits window urgent ty code rest nosum).urgent, .int .i64 (Uh.mk 0 sport dport seq ack bits window urgent ty code rest nosum).ty, .int .i64 (Uh.mk 0 sport dport seq ack bits window urgent ty code rest nosum).code, .int .i64 (Uh.mk 0 sport dport seq ack bits window urgent ty code rest nosum).rest, .bool (Uh.mk 0 sport dport seq ack bits window urgent ty code rest nosum).nosum, .slice A n c, .slice D m d]) := (fact_of hnd 0 8 (by kernel_rfl) :)
      refine u_other_headSize _ _ _ _ rfl h0 (fun k => by kernel_rfl) (Calls.mono (head_other (Uh.mk 0 sport dport seq ack bits window urgent ty code rest nosum) A D n c m d v hn) ?_)
      rintro e' v' ⟨rfl, b6⟩
      exact ⟨_, rfl, hK _ _ rfl b6⟩
    | 2, _, ho =>
      obtain rfl := Option.some.inj ho
      have h0 : a'.eval (.tmp 1) = .pointer (some ⟨w.heap.size, 0, none⟩) := (hx 1 (by decide)).trans rfl
      exact u_fldU13 _ _ rfl h0 (hK _ _ rfl (Below.refl _ _))
    | 3, _, ho =>
      obtain rfl := Option.some.inj ho
      have h0 : a'.eval (.tmp 10) = .pointer (some ⟨w.heap.size, 13, none⟩) := (fact_of hnd 2 10 (by kernel_rfl) :)
      exact u_bytes _ _ _ _ rfl h0 (K.cell (K.below hB q1.out) 13 _ rfl) (hK _ _ rfl (Below.refl _ _))
    | 4, _, ho =>
      obtain rfl := Option.some.inj ho
      have h0 : a'.eval (.tmp 11) = .slice D m d := (fact_of hnd 3 11 (by kernel_rfl) :)
      exact u_lenB _ _ _ _ rfl h0 (hK _ _ rfl (Below.refl _ _))
    | 5, _, ho =>
      obtain rfl := Option.some.inj ho
      have h0 : a'.eval (.tmp 9) = .int .i64 (0 : Int) := (fact_of hnd 1 9 (by kernel_rfl) :)
      have h1 : a'.eval (.tmp 12) = .int .i64 (m : Int) := (fact_of hnd 4 12 (by kernel_rfl) :)
      exact u_add _ _ _ _ rfl h0 h1 (by omega) (by omega) (by omega) (by omega) (hK _ _ rfl (Below.refl _ _))
    | j + 6, hj, _ => omega
  · intro f v hf hB
    have e0 : f 0 = (.iface 125 (.agg #[.int .i64 (Uh.mk 0 sport dport seq ack bits window urgent ty code rest nosum).kind, .int .i64 (Uh.mk 0 sport dport seq ack bits window urgent ty code rest nosum).sport, .int .i64 (Uh.mk 0 sport dport seq ack bits window urgent ty code rest nosum).dport, .int .i64 (Uh.mk 0 sport dport seq ack bits window urgent ty code rest nosum).seq, .int .i64 (Uh.mk 0 sport dport seq ack bits window urgent ty code rest nosum).ack, .int .i64 (Uh.mk 0 sport dport seq ack bits window urgent ty code rest nosum).bits, .int .i64 (Uh.mk 0 sport dport seq ack bits window urgent ty code rest nosum).window, .int .i64 (Uh.mk 0 sport dport seq ack bits window urgent ty code rest nosum).urgent, .int .i64 (Uh.mk 0 sport dport seq ack bits window urgent ty code rest nosum).ty, .int .i64 (Uh.mk 0 sport dport seq ack bits window urgent ty code rest nosum).code, .int .i64 (Uh.mk 0 sport dport seq ack bits window urgent ty code rest nosum).rest, .bool (Uh.mk 0 sport dport seq ack bits window urgent ty code rest nosum).nosum, .slice A n c, .slice D m d])) := hf (0, 8) (by decide)
    have e1 : f 1 = (.int .i64 (0 : Int)) := hf (1, 9) (by decide)
    have e2 : f 2 = (.pointer (some ⟨w.heap.size, 13, none⟩)) := hf (2, 10) (by decide)
    have e3 : f 3 = (.slice D m d) := hf (3, 11) (by decide)
    have e4 : f 4 = (.int .i64 (m : Int)) := hf (4, 12) (by decide)
    have e5 : f 5 = (.int .i64 ((0 : Int) + m)) := hf (5, 13) (by decide)
    simp only [List.foldl_cons, List.foldl_nil, List.drop_succ_cons, List.drop_zero, e0, e1, e2, e3, e4, e5]
    clear e0 e1 e2 e3 e4 e5 hf
    go_simp
    go_wp2
    go_ret
    exact ⟨by simp [Uh.size], bthen (by go_grown) hB⟩

set_option maxHeartbeats 2000000 in
theorem implUpSize1 (x : Uh) (A D : Option Addr) (n c m d : Nat) (w : World) (hn : n ≤ 1048576) (hm : m ≤ 1048576) (hk : x.kind = 1) : Calls Try.prog 48 #[.agg #[.int .i64 x.kind, .int .i64 x.sport, .int .i64 x.dport, .int .i64 x.seq, .int .i64 x.ack, .int .i64 x.bits, .int .i64 x.window, .int .i64 x.urgent, .int .i64 x.ty, .int .i64 x.code, .int .i64 x.rest, .bool x.nosum, .slice A n c, .slice D m d]] w fun e w' => e = .returned (.int .i64 (x.size n m)) ∧ Below w.heap.size w w' := by
  obtain ⟨kind, sport, dport, seq, ack, bits, window, urgent, ty, code, rest, nosum⟩ := x
  simp only at hk
  subst hk
  have q := Lib.hid (K.new w (.cells #[.int .i64 (Uh.mk 1 sport dport seq ack bits window urgent ty code rest nosum).kind, .int .i64 (Uh.mk 1 sport dport seq ack bits window urgent ty code rest nosum).sport, .int .i64 (Uh.mk 1 sport dport seq ack bits window urgent ty code rest nosum).dport, .int .i64 (Uh.mk 1 sport dport seq ack bits window urgent ty code rest nosum).seq, .int .i64 (Uh.mk 1 sport dport seq ack bits window urgent ty code rest nosum).ack, .int .i64 (Uh.mk 1 sport dport seq ack bits window urgent ty code rest nosum).bits, .int .i64 (Uh.mk 1 sport dport seq ack bits window urgent ty code rest nosum).window, .int .i64 (Uh.mk 1 sport dport seq ack bits window urgent ty code rest nosum).urgent, .int .i64 (Uh.mk 1 sport dport seq ack bits window urgent ty code rest nosum).ty, .int .i64 (Uh.mk 1 sport dport seq ack bits window urgent ty code rest nosum).code, .int .i64 (Uh.mk 1 sport dport seq ack bits window urgent ty code rest nosum).rest, .bool (Uh.mk 1 sport dport seq ack bits window urgent ty code rest nosum).nosum, .slice A n c, .slice D m d] 38))
  have q1 := Lib.hid (K.old q.out (.cells #[.int .i64 (Uh.mk 1 sport dport seq ack bits window urgent ty code rest nosum).kind, .int .i64 (Uh.mk 1 sport dport seq ack bits window urgent ty code rest nosum).sport, .int .i64 (Uh.mk 1 sport dport seq ack bits window urgent ty code rest nosum).dport, .int .i64 (Uh.mk 1 sport dport seq ack bits window urgent ty code rest nosum).seq, .int .i64 (Uh.mk 1 sport dport seq ack bits window urgent ty code rest nosum).ack, .int .i64 (Uh.mk 1 sport dport seq ack bits window urgent ty code rest nosum).bits, .int .i64 (Uh.mk 1 sport dport seq ack bits window urgent ty code rest nosum).window, .int .i64 (Uh.mk 1 sport dport seq ack bits window urgent ty code rest nosum).urgent, .int .i64 (Uh.mk 1 sport dport seq ack bits window urgent ty code rest nosum).ty, .int .i64 (Uh.mk 1 sport dport seq ack bits window urgent ty code rest nosum).code, .int .i64 (Uh.mk 1 sport dport seq ack bits window urgent ty code rest nosum).rest, .bool (Uh.mk 1 sport dport seq ack bits window urgent ty code rest nosum).nosum, .slice A n c, .slice D m d] 38))
  simp only at q q1 ⊢
  go_enter Try.func48, Try.ntmps48
  go_wp2_with (with_reducible refine loadU rfl _ rfl w.heap.size rfl q.out ?_)
  refine Calls.mono (formatOfC ⟨1, sport, dport, seq, ack, bits, window, urgent, ty, code, rest, nosum⟩ A D n c m d _) ?_
  rintro e w1 ⟨rfl, rfl⟩
  simp only [show ∀ v, fmtV 1 v = .iface 119 v from fun _ => rfl]
  go_wp2_with fail
  refine wp_region_facts (by kernel_rfl) 6 14 [(0, 8), (1, 9), (2, 10), (3, 11), (4, 12), (5, 13)] _ ([.val (.iface 119 (.agg #[.int .i64 (Uh.mk 1 sport dport seq ack bits window urgent ty code rest nosum).kind, .int .i64 (Uh.mk 1 sport dport seq ack bits window urgent ty code rest nosum).sport, .int .i64 (Uh.mk 1 sport dport seq ack bits window urgent ty code rest nosum).dport, .int .i64 (Uh.mk 1 sport dport seq ack bits window urgent ty code rest nosum).seq, .int .i64 (Uh.mk 1 sport dport seq ack bits window urgent ty code rest nosum).ack, .int .i64 (Uh.mk 1 sport dport seq ack bits window urgent ty code rest nosum).bits, .int .i64 (Uh.mk 1 sport dport seq ack bits window urgent ty code rest nosum).window, .int .i64 (Uh.mk 1 sport dport seq ack bits window urgent ty code rest nosum).urgent, .int .i64 (Uh.mk 1 sport dport seq ack bits window urgent ty code rest nosum).ty, .int .i64 (Uh.mk 1 sport dport seq ack bits window urgent ty code rest nosum).code, .int .i64 (Uh.mk 1 sport dport seq ack bits window urgent ty code rest nosum).rest, .bool (Uh.mk 1 sport dport seq ack bits window urgent ty code rest nosum).nosum, .slice A n c, .slice D m d])), .val (.int .i64 (20 + (n : Int))), .val (.pointer (some ⟨w.heap.size, 13, none⟩)), .val (.slice D m d), .val (.int .i64 (m : Int)), .val (.int .i64 ((20 + (n : Int)) + m))]) (by kernel_rfl) (by kernel_rfl) rfl rfl ?_ ?_
  · intro j o hj ho a' v K' hx hnd hB hK
    match j, hj, ho with
    | 0, _, ho =>
      obtain rfl := Option.some.inj ho
      have h0 : a'.eval (.tmp 3) = .iface 119 (.agg #[.int .i64 (Uh.mk 1 sport dport seq ack bits window urgent ty code rest nosum).kind, .int .i64 (Uh.mk 1 sport dport seq ack bits window urgent ty code rest nosum).sport, .int .i64 (Uh.mk 1 sport dport seq ack bits window urgent ty code rest nosum).dport, .int .i64 (Uh.mk 1 sport dport seq ack bits window urgent ty code rest nosum).seq, .int .i64 (Uh.mk 1 sport dport seq ack bits window urgent ty code rest nosum).ack, .int .i64 (Uh.mk 1 sport dport seq ack bits window urgent ty code rest nosum).bits, .int .i64 (Uh.mk 1 sport dport seq ack bits window urgent ty code rest nosum).window, .int .i64 (Uh.mk 1 sport dport seq ack bits window urgent ty code rest nosum).urgent, .int .i64 (Uh.mk 1 sport dport seq ack bits window urgent ty code rest nosum).ty, .int .i64 (Uh.mk 1 sport dport seq ack bits window urgent ty code rest nosum).code, .int .i64 (Uh.mk 1 sport dport seq ack bits window urgent ty code rest nosum).rest, .bool (Uh.mk 1 sport dport seq ack bits window urgent ty code rest nosum).nosum, .slice A n c, .slice D m d]) := (hx 3 (by decide)).trans rfl
      exact u_move _ _ rfl h0 (hK _ _ rfl (Below.refl _ _))
    | 1, _, ho =>
      obtain rfl := Option.some.inj ho
      have h0 : a'.eval (.tmp 8) = .iface 119 (.agg #[.int .i64 (Uh.mk 1 sport dport seq ack bits window urgent ty code rest nosum).kind, .int .i64 (Uh.mk 1 sport dport seq ack bits window urgent ty code rest nosum).sport, .int .i64 (Uh.mk 1 sport dport seq ack bits window urgent ty code rest nosum).dport, .int .i64 (Uh.mk 1 sport dport seq ack bits window urgent ty code rest nosum).seq, .int .i64 (Uh.mk 1 sport dport seq ack bits window urgent ty code rest nosum).ack, .int .i64 (Uh.mk 1 sport dport seq ack bits window urgent ty code rest nosum).bits, .int .i64 (Uh.mk 1 sport dport seq ack bits window urgent ty code rest nosum).window, .int .i64 (Uh.mk 1 sport dport seq ack bits window urgent ty code rest nosum).urgent, .int .i64 (Uh.mk 1 sport dport seq ack bits window urgent ty code rest nosum).ty, .int .i64 (Uh.mk 1 sport dport seq ack bits window urgent ty code rest nosum).code, .int .i64 (Uh.mk 1 sport dport seq ack bits window urgent ty code rest nosum).rest, .bool (Uh.mk 1 sport dport seq ack bits window urgent ty code rest nosum).nosum, .slice A n c, .slice D m d]) := (fact_of hnd 0 8 (by kernel_rfl) :)
      refine u_tcp_headSize _ _ _ _ rfl h0 (fun k => by kernel_rfl) (Calls.mono (head_tcp (Uh.mk 1 sport dport seq ack bits window urgent ty code rest nosum) A D n c m d v hn) ?_)
      rintro e' v' ⟨rfl, b6⟩
      exact ⟨_, rfl, hK _ _ rfl b6⟩
    | 2, _, ho =>
      obtain rfl := Option.some.inj ho
      have h0 : a'.eval (.tmp 1) = .pointer (some ⟨w.heap.size, 0, none⟩) := (hx 1 (by decide)).trans rfl
      exact u_fldU13 _ _ rfl h0 (hK _ _ rfl (Below.refl _ _))
    | 3, _, ho =>
      obtain rfl := Option.some.inj ho
      have h0 : a'.eval (.tmp 10) = .pointer (some ⟨w.heap.size, 13, none⟩) := (fact_of hnd 2 10 (by kernel_rfl) :)
      exact u_bytes _ _ _ _ rfl h0 (K.cell (K.below hB q1.out) 13 _ rfl) (hK _ _ rfl (Below.refl _ _))
    | 4, _, ho =>
      obtain rfl := Option.some.inj ho
      have h0 : a'.eval (.tmp 11) = .slice D m d := (fact_of hnd 3 11 (by kernel_rfl) :)
      exact u_lenB _ _ _ _ rfl h0 (hK _ _ rfl (Below.refl _ _))
    | 5, _, ho =>
      obtain rfl := Option.some.inj ho
      have h0 : a'.eval (.tmp 9) = .int .i64 (20 + (n : Int)) := (fact_of hnd 1 9 (by kernel_rfl) :)
      have h1 : a'.eval (.tmp 12) = .int .i64 (m : Int) := (fact_of hnd 4 12 (by kernel_rfl) :)
      exact u_add _ _ _ _ rfl h0 h1 (by omega) (by omega) (by omega) (by omega) (hK _ _ rfl (Below.refl _ _))
    | j + 6, hj, _ => omega
  · intro f v hf hB
    have e0 : f 0 = (.iface 119 (.agg #[.int .i64 (Uh.mk 1 sport dport seq ack bits window urgent ty code rest nosum).kind, .int .i64 (Uh.mk 1 sport dport seq ack bits window urgent ty code rest nosum).sport, .int .i64 (Uh.mk 1 sport dport seq ack bits window urgent ty code rest nosum).dport, .int .i64 (Uh.mk 1 sport dport seq ack bits window urgent ty code rest nosum).seq, .int .i64 (Uh.mk 1 sport dport seq ack bits window urgent ty code rest nosum).ack, .int .i64 (Uh.mk 1 sport dport seq ack bits window urgent ty code rest nosum).bits, .int .i64 (Uh.mk 1 sport dport seq ack bits window urgent ty code rest nosum).window, .int .i64 (Uh.mk 1 sport dport seq ack bits window urgent ty code rest nosum).urgent, .int .i64 (Uh.mk 1 sport dport seq ack bits window urgent ty code rest nosum).ty, .int .i64 (Uh.mk 1 sport dport seq ack bits window urgent ty code rest nosum).code, .int .i64 (Uh.mk 1 sport dport seq ack bits window urgent ty code rest nosum).rest, .bool (Uh.mk 1 sport dport seq ack bits window urgent ty code rest nosum).nosum, .slice A n c, .slice D m d])) := hf (0, 8) (by decide)
    have e1 : f 1 = (.int .i64 (20 + (n : Int))) := hf (1, 9) (by decide)
    have e2 : f 2 = (.pointer (some ⟨w.heap.size, 13, none⟩)) := hf (2, 10) (by decide)
    have e3 : f 3 = (.slice D m d) := hf (3, 11) (by decide)
    have e4 : f 4 = (.int .i64 (m : Int)) := hf (4, 12) (by decide)
    have e5 : f 5 = (.int .i64 ((20 + (n : Int)) + m)) := hf (5, 13) (by decide)
    simp only [List.foldl_cons, List.foldl_nil, List.drop_succ_cons, List.drop_zero, e0, e1, e2, e3, e4, e5]
    clear e0 e1 e2 e3 e4 e5 hf
    go_simp
    go_wp2
    go_ret
    exact ⟨rfl, bthen (by go_grown) hB⟩

set_option maxHeartbeats 2000000 in
theorem implUpSize2 (x : Uh) (A D : Option Addr) (n c m d : Nat) (w : World) (hn : n ≤ 1048576) (hm : m ≤ 1048576) (hk : x.kind = 2) : Calls Try.prog 48 #[.agg #[.int .i64 x.kind, .int .i64 x.sport, .int .i64 x.dport, .int .i64 x.seq, .int .i64 x.ack, .int .i64 x.bits, .int .i64 x.window, .int .i64 x.urgent, .int .i64 x.ty, .int .i64 x.code, .int .i64 x.rest, .bool x.nosum, .slice A n c, .slice D m d]] w fun e w' => e = .returned (.int .i64 (x.size n m)) ∧ Below w.heap.size w w' := by
  obtain ⟨kind, sport, dport, seq, ack, bits, window, urgent, ty, code, rest, nosum⟩ := x
  simp only at hk
  subst hk
  have q := Lib.hid (K.new w (.cells #[.int .i64 (Uh.mk 2 sport dport seq ack bits window urgent ty code rest nosum).kind, .int .i64 (Uh.mk 2 sport dport seq ack bits window urgent ty code rest nosum).sport, .int .i64 (Uh.mk 2 sport dport seq ack bits window urgent ty code rest nosum).dport, .int .i64 (Uh.mk 2 sport dport seq ack bits window urgent ty code rest nosum).seq, .int .i64 (Uh.mk 2 sport dport seq ack bits window urgent ty code rest nosum).ack, .int .i64 (Uh.mk 2 sport dport seq ack bits window urgent ty code rest nosum).bits, .int .i64 (Uh.mk 2 sport dport seq ack bits window urgent ty code rest nosum).window, .int .i64 (Uh.mk 2 sport dport seq ack bits window urgent ty code rest nosum).urgent, .int .i64 (Uh.mk 2 sport dport seq ack bits window urgent ty code rest nosum).ty, .int .i64 (Uh.mk 2 sport dport seq ack bits window urgent ty code rest nosum).code, .int .i64 (Uh.mk 2 sport dport seq ack bits window urgent ty code rest nosum).rest, .bool (Uh.mk 2 sport dport seq ack bits window urgent ty code rest nosum).nosum, .slice A n c, .slice D m d] 38))
  have q1 := Lib.hid (K.old q.out (.cells #[.int .i64 (Uh.mk 2 sport dport seq ack bits window urgent ty code rest nosum).kind, .int .i64 (Uh.mk 2 sport dport seq ack bits window urgent ty code rest nosum).sport, .int .i64 (Uh.mk 2 sport dport seq ack bits window urgent ty code rest nosum).dport, .int .i64 (Uh.mk 2 sport dport seq ack bits window urgent ty code rest nosum).seq, .int .i64 (Uh.mk 2 sport dport seq ack bits window urgent ty code rest nosum).ack, .int .i64 (Uh.mk 2 sport dport seq ack bits window urgent ty code rest nosum).bits, .int .i64 (Uh.mk 2 sport dport seq ack bits window urgent ty code rest nosum).window, .int .i64 (Uh.mk 2 sport dport seq ack bits window urgent ty code rest nosum).urgent, .int .i64 (Uh.mk 2 sport dport seq ack bits window urgent ty code rest nosum).ty, .int .i64 (Uh.mk 2 sport dport seq ack bits window urgent ty code rest nosum).code, .int .i64 (Uh.mk 2 sport dport seq ack bits window urgent ty code rest nosum).rest, .bool (Uh.mk 2 sport dport seq ack bits window urgent ty code rest nosum).nosum, .slice A n c, .slice D m d] 38))
  simp only at q q1 ⊢
  go_enter Try.func48, Try.ntmps48
  go_wp2_with (with_reducible refine loadU rfl _ rfl w.heap.size rfl q.out ?_)
  refine Calls.mono (formatOfC ⟨2, sport, dport, seq, ack, bits, window, urgent, ty, code, rest, nosum⟩ A D n c m d _) ?_
  rintro e w1 ⟨rfl, rfl⟩
  simp only [show ∀ v, fmtV 2 v = .iface 121 v from fun _ => rfl]
  go_wp2_with fail
  refine wp_region_facts (by kernel_rfl) 6 14 [(0, 8), (1, 9), (2, 10), (3, 11), (4, 12), (5, 13)] _ ([.val (.iface 121 (.agg #[.int .i64 (Uh.mk 2 sport dport seq ack bits window urgent ty code rest nosum).kind, .int .i64 (Uh.mk 2 sport dport seq ack bits window urgent ty code rest nosum).sport, .int .i64 (Uh.mk 2 sport dport seq ack bits window urgent ty code rest nosum).dport, .int .i64 (Uh.mk 2 sport dport seq ack bits window urgent ty code rest nosum).seq, .int .i64 (Uh.mk 2 sport dport seq ack bits window urgent ty code rest nosum).ack, .int .i64 (Uh.mk 2 sport dport seq ack bits window urgent ty code rest nosum).bits, .int .i64 (Uh.mk 2 sport dport seq ack bits window urgent ty code rest nosum).window, .int .i64 (Uh.mk 2 sport dport seq ack bits window urgent ty code rest nosum).urgent, .int .i64 (Uh.mk 2 sport dport seq ack bits window urgent ty code rest nosum).ty, .int .i64 (Uh.mk 2 sport dport seq ack bits window urgent ty code rest nosum).code, .int .i64 (Uh.mk 2 sport dport seq ack bits window urgent ty code rest nosum).rest, .bool (Uh.mk 2 sport dport seq ack bits window urgent ty code rest nosum).nosum, .slice A n c, .slice D m d])), .val (.int .i64 (8 : Int)), .val (.pointer (some ⟨w.heap.size, 13, none⟩)), .val (.slice D m d), .val (.int .i64 (m : Int)), .val (.int .i64 ((8 : Int) + m))]) (by kernel_rfl) (by kernel_rfl) rfl rfl ?_ ?_
  · intro j o hj ho a' v K' hx hnd hB hK
    match j, hj, ho with
    | 0, _, ho =>
      obtain rfl := Option.some.inj ho
      have h0 : a'.eval (.tmp 3) = .iface 121 (.agg #[.int .i64 (Uh.mk 2 sport dport seq ack bits window urgent ty code rest nosum).kind, .int .i64 (Uh.mk 2 sport dport seq ack bits window urgent ty code rest nosum).sport, .int .i64 (Uh.mk 2 sport dport seq ack bits window urgent ty code rest nosum).dport, .int .i64 (Uh.mk 2 sport dport seq ack bits window urgent ty code rest nosum).seq, .int .i64 (Uh.mk 2 sport dport seq ack bits window urgent ty code rest nosum).ack, .int .i64 (Uh.mk 2 sport dport seq ack bits window urgent ty code rest nosum).bits, .int .i64 (Uh.mk 2 sport dport seq ack bits window urgent ty code rest nosum).window, .int .i64 (Uh.mk 2 sport dport seq ack bits window urgent ty code rest nosum).urgent, .int .i64 (Uh.mk 2 sport dport seq ack bits window urgent ty code rest nosum).ty, .int .i64 (Uh.mk 2 sport dport seq ack bits window urgent ty code rest nosum).code, .int .i64 (Uh.mk 2 sport dport seq ack bits window urgent ty code rest nosum).rest, .bool (Uh.mk 2 sport dport seq ack bits window urgent ty code rest nosum).nosum, .slice A n c, .slice D m d]) := (hx 3 (by decide)).trans rfl
      exact u_move _ _ rfl h0 (hK _ _ rfl (Below.refl _ _))
    | 1, _, ho =>
      obtain rfl := Option.some.inj ho
      have h0 : a'.eval (.tmp 8) = .iface 121 (.agg #[.int .i64 (Uh.mk 2 sport dport seq ack bits window urgent ty code rest nosum).kind, .int .i64 (Uh.mk 2 sport dport seq ack bits window urgent ty code rest nosum).sport, .int .i64 (Uh.mk 2 sport dport seq ack bits window urgent ty code rest nosum).dport, .int .i64 (Uh.mk 2 sport dport seq ack bits window urgent ty code rest nosum).seq, .int .i64 (Uh.mk 2 sport dport seq ack bits window urgent ty code rest nosum).ack, .int .i64 (Uh.mk 2 sport dport seq ack bits window urgent ty code rest nosum).bits, .int .i64 (Uh.mk 2 sport dport seq ack bits window urgent ty code rest nosum).window, .int .i64 (Uh.mk 2 sport dport seq ack bits window urgent ty code rest nosum).urgent, .int .i64 (Uh.mk 2 sport dport seq ack bits window urgent ty code rest nosum).ty, .int .i64 (Uh.mk 2 sport dport seq ack bits window urgent ty code rest nosum).code, .int .i64 (Uh.mk 2 sport dport seq ack bits window urgent ty code rest nosum).rest, .bool (Uh.mk 2 sport dport seq ack bits window urgent ty code rest nosum).nosum, .slice A n c, .slice D m d]) := (fact_of hnd 0 8 (by kernel_rfl) :)
      refine u_udp_headSize _ _ _ _ rfl h0 (fun k => by kernel_rfl) (Calls.mono (head_udp (Uh.mk 2 sport dport seq ack bits window urgent ty code rest nosum) A D n c m d v hn) ?_)
      rintro e' v' ⟨rfl, b6⟩
      exact ⟨_, rfl, hK _ _ rfl b6⟩
    | 2, _, ho =>
      obtain rfl := Option.some.inj ho
      have h0 : a'.eval (.tmp 1) = .pointer (some ⟨w.heap.size, 0, none⟩) := (hx 1 (by decide)).trans rfl
      exact u_fldU13 _ _ rfl h0 (hK _ _ rfl (Below.refl _ _))
    | 3, _, ho =>
      obtain rfl := Option.some.inj ho
      have h0 : a'.eval (.tmp 10) = .pointer (some ⟨w.heap.size, 13, none⟩) := (fact_of hnd 2 10 (by kernel_rfl) :)
      exact u_bytes _ _ _ _ rfl h0 (K.cell (K.below hB q1.out) 13 _ rfl) (hK _ _ rfl (Below.refl _ _))
    | 4, _, ho =>
      obtain rfl := Option.some.inj ho
      have h0 : a'.eval (.tmp 11) = .slice D m d := (fact_of hnd 3 11 (by kernel_rfl) :)
      exact u_lenB _ _ _ _ rfl h0 (hK _ _ rfl (Below.refl _ _))
    | 5, _, ho =>
      obtain rfl := Option.some.inj ho
      have h0 : a'.eval (.tmp 9) = .int .i64 (8 : Int) := (fact_of hnd 1 9 (by kernel_rfl) :)
      have h1 : a'.eval (.tmp 12) = .int .i64 (m : Int) := (fact_of hnd 4 12 (by kernel_rfl) :)
      exact u_add _ _ _ _ rfl h0 h1 (by omega) (by omega) (by omega) (by omega) (hK _ _ rfl (Below.refl _ _))
    | j + 6, hj, _ => omega
  · intro f v hf hB
    have e0 : f 0 = (.iface 121 (.agg #[.int .i64 (Uh.mk 2 sport dport seq ack bits window urgent ty code rest nosum).kind, .int .i64 (Uh.mk 2 sport dport seq ack bits window urgent ty code rest nosum).sport, .int .i64 (Uh.mk 2 sport dport seq ack bits window urgent ty code rest nosum).dport, .int .i64 (Uh.mk 2 sport dport seq ack bits window urgent ty code rest nosum).seq, .int .i64 (Uh.mk 2 sport dport seq ack bits window urgent ty code rest nosum).ack, .int .i64 (Uh.mk 2 sport dport seq ack bits window urgent ty code rest nosum).bits, .int .i64 (Uh.mk 2 sport dport seq ack bits window urgent ty code rest nosum).window, .int .i64 (Uh.mk 2 sport dport seq ack bits window urgent ty code rest nosum).urgent, .int .i64 (Uh.mk 2 sport dport seq ack bits window urgent ty code rest nosum).ty, .int .i64 (Uh.mk 2 sport dport seq ack bits window urgent ty code rest nosum).code, .int .i64 (Uh.mk 2 sport dport seq ack bits window urgent ty code rest nosum).rest, .bool (Uh.mk 2 sport dport seq ack bits window urgent ty code rest nosum).nosum, .slice A n c, .slice D m d])) := hf (0, 8) (by decide)
    have e1 : f 1 = (.int .i64 (8 : Int)) := hf (1, 9) (by decide)
    have e2 : f 2 = (.pointer (some ⟨w.heap.size, 13, none⟩)) := hf (2, 10) (by decide)
    have e3 : f 3 = (.slice D m d) := hf (3, 11) (by decide)
    have e4 : f 4 = (.int .i64 (m : Int)) := hf (4, 12) (by decide)
    have e5 : f 5 = (.int .i64 ((8 : Int) + m)) := hf (5, 13) (by decide)
    simp only [List.foldl_cons, List.foldl_nil, List.drop_succ_cons, List.drop_zero, e0, e1, e2, e3, e4, e5]
    clear e0 e1 e2 e3 e4 e5 hf
    go_simp
    go_wp2
    go_ret
    exact ⟨rfl, bthen (by go_grown) hB⟩

set_option maxHeartbeats 2000000 in
theorem implUpSize3 (x : Uh) (A D : Option Addr) (n c m d : Nat) (w : World) (hn : n ≤ 1048576) (hm : m ≤ 1048576) (hk : x.kind = 3) : Calls Try.prog 48 #[.agg #[.int .i64 x.kind, .int .i64 x.sport, .int .i64 x.dport, .int .i64 x.seq, .int .i64 x.ack, .int .i64 x.bits, .int .i64 x.window, .int .i64 x.urgent, .int .i64 x.ty, .int .i64 x.code, .int .i64 x.rest, .bool x.nosum, .slice A n c, .slice D m d]] w fun e w' => e = .returned (.int .i64 (x.size n m)) ∧ Below w.heap.size w w' := by
  obtain ⟨kind, sport, dport, seq, ack, bits, window, urgent, ty, code, rest, nosum⟩ := x
  simp only at hk
  subst hk
  have q := Lib.hid (K.new w (.cells #[.int .i64 (Uh.mk 3 sport dport seq ack bits window urgent ty code rest nosum).kind, .int .i64 (Uh.mk 3 sport dport seq ack bits window urgent ty code rest nosum).sport, .int .i64 (Uh.mk 3 sport dport seq ack bits window urgent ty code rest nosum).dport, .int .i64 (Uh.mk 3 sport dport seq ack bits window urgent ty code rest nosum).seq, .int .i64 (Uh.mk 3 sport dport seq ack bits window urgent ty code rest nosum).ack, .int .i64 (Uh.mk 3 sport dport seq ack bits window urgent ty code rest nosum).bits, .int .i64 (Uh.mk 3 sport dport seq ack bits window urgent ty code rest nosum).window, .int .i64 (Uh.mk 3 sport dport seq ack bits window urgent ty code rest nosum).urgent, .int .i64 (Uh.mk 3 sport dport seq ack bits window urgent ty code rest nosum).ty, .int .i64 (Uh.mk 3 sport dport seq ack bits window urgent ty code rest nosum).code, .int .i64 (Uh.mk 3 sport dport seq ack bits window urgent ty code rest nosum).rest, .bool (Uh.mk 3 sport dport seq ack bits window urgent ty code rest nosum).nosum, .slice A n c, .slice D m d] 38))
  have q1 := Lib.hid (K.old q.out (.cells #[.int .i64 (Uh.mk 3 sport dport seq ack bits window urgent ty code rest nosum).kind, .int .i64 (Uh.mk 3 sport dport seq ack bits window urgent ty code rest nosum).sport, .int .i64 (Uh.mk 3 sport dport seq ack bits window urgent ty code rest nosum).dport, .int .i64 (Uh.mk 3 sport dport seq ack bits window urgent ty code rest nosum).seq, .int .i64 (Uh.mk 3 sport dport seq ack bits window urgent ty code rest nosum).ack, .int .i64 (Uh.mk 3 sport dport seq ack bits window urgent ty code rest nosum).bits, .int .i64 (Uh.mk 3 sport dport seq ack bits window urgent ty code rest nosum).window, .int .i64 (Uh.mk 3 sport dport seq ack bits window urgent ty code rest nosum).urgent, .int .i64 (Uh.mk 3 sport dport seq ack bits window urgent ty code rest nosum).ty, .int .i64 (Uh.mk 3 sport dport seq ack bits window urgent ty code rest nosum).code, .int .i64 (Uh.mk 3 sport dport seq ack bits window urgent ty code rest nosum).rest, .bool (Uh.mk 3 sport dport seq ack bits window urgent ty code rest nosum).nosum, .slice A n c, .slice D m d] 38))
  simp only at q q1 ⊢
  go_enter Try.func48, Try.ntmps48
  go_wp2_with (with_reducible refine loadU rfl _ rfl w.heap.size rfl q.out ?_)
  refine Calls.mono (formatOfC ⟨3, sport, dport, seq, ack, bits, window, urgent, ty, code, rest, nosum⟩ A D n c m d _) ?_
  rintro e w1 ⟨rfl, rfl⟩
  simp only [show ∀ v, fmtV 3 v = .iface 123 v from fun _ => rfl]
  go_wp2_with fail
  refine wp_region_facts (by kernel_rfl) 6 14 [(0, 8), (1, 9), (2, 10), (3, 11), (4, 12), (5, 13)] _ ([.val (.iface 123 (.agg #[.int .i64 (Uh.mk 3 sport dport seq ack bits window urgent ty code rest nosum).kind, .int .i64 (Uh.mk 3 sport dport seq ack bits window urgent ty code rest nosum).sport, .int .i64 (Uh.mk 3 sport dport seq ack bits window urgent ty code rest nosum).dport, .int .i64 (Uh.mk 3 sport dport seq ack bits window urgent ty code rest nosum).seq, .int .i64 (Uh.mk 3 sport dport seq ack bits window urgent ty code rest nosum).ack, .int .i64 (Uh.mk 3 sport dport seq ack bits window urgent ty code rest nosum).bits, .int .i64 (Uh.mk 3 sport dport seq ack bits window urgent ty code rest nosum).window, .int .i64 (Uh.mk 3 sport dport seq ack bits window urgent ty code rest nosum).urgent, .int .i64 (Uh.mk 3 sport dport seq ack bits window urgent ty code rest nosum).ty, .int .i64 (Uh.mk 3 sport dport seq ack bits window urgent ty code rest nosum).code, .int .i64 (Uh.mk 3 sport dport seq ack bits window urgent ty code rest nosum).rest, .bool (Uh.mk 3 sport dport seq ack bits window urgent ty code rest nosum).nosum, .slice A n c, .slice D m d])), .val (.int .i64 (8 : Int)), .val (.pointer (some ⟨w.heap.size, 13, none⟩)), .val (.slice D m d), .val (.int .i64 (m : Int)), .val (.int .i64 ((8 : Int) + m))]) (by kernel_rfl) (by kernel_rfl) rfl rfl ?_ ?_
  · intro j o hj ho a' v K' hx hnd hB hK
    match j, hj, ho with
    | 0, _, ho =>
      obtain rfl := Option.some.inj ho
      have h0 : a'.eval (.tmp 3) = .iface 123 (.agg #[.int .i64 (Uh.mk 3 sport dport seq ack bits window urgent ty code rest nosum).kind, .int .i64 (Uh.mk 3 sport dport seq ack bits window urgent ty code rest nosum).sport, .int .i64 (Uh.mk 3 sport dport seq ack bits window urgent ty code rest nosum).dport, .int .i64 (Uh.mk 3 sport dport seq ack bits window urgent ty code rest nosum).seq, .int .i64 (Uh.mk 3 sport dport seq ack bits window urgent ty code rest nosum).ack, .int .i64 (Uh.mk 3 sport dport seq ack bits window urgent ty code rest nosum).bits, .int .i64 (Uh.mk 3 sport dport seq ack bits window urgent ty code rest nosum).window, .int .i64 (Uh.mk 3 sport dport seq ack bits window urgent ty code rest nosum).urgent, .int .i64 (Uh.mk 3 sport dport seq ack bits window urgent ty code rest nosum).ty, .int .i64 (Uh.mk 3 sport dport seq ack bits window urgent ty code rest nosum).code, .int .i64 (Uh.mk 3 sport dport seq ack bits window urgent ty code rest nosum).rest, .bool (Uh.mk 3 sport dport seq ack bits window urgent ty code rest nosum).nosum, .slice A n c, .slice D m d]) := (hx 3 (by decide)).trans rfl
      exact u_move _ _ rfl h0 (hK _ _ rfl (Below.refl _ _))
    | 1, _, ho =>
      obtain rfl := Option.some.inj ho
      have h0 : a'.eval (.tmp 8) = .iface 123 (.agg #[.int .i64 (Uh.mk 3 sport dport seq ack bits window urgent ty code rest nosum).kind, .int .i64 (Uh.mk 3 sport dport seq ack bits window urgent ty code rest nosum).sport, .int .i64 (Uh.mk 3 sport dport seq ack bits window urgent ty code rest nosum).dport, .int .i64 (Uh.mk 3 sport dport seq ack bits window urgent ty code rest nosum).seq, .int .i64 (Uh.mk 3 sport dport seq ack bits window urgent ty code rest nosum).ack, .int .i64 (Uh.mk 3 sport dport seq ack bits window urgent ty code rest nosum).bits, .int .i64 (Uh.mk 3 sport dport seq ack bits window urgent ty code rest nosum).window, .int .i64 (Uh.mk 3 sport dport seq ack bits window urgent ty code rest nosum).urgent, .int .i64 (Uh.mk 3 sport dport seq ack bits window urgent ty code rest nosum).ty, .int .i64 (Uh.mk 3 sport dport seq ack bits window urgent ty code rest nosum).code, .int .i64 (Uh.mk 3 sport dport seq ack bits window urgent ty code rest nosum).rest, .bool (Uh.mk 3 sport dport seq ack bits window urgent ty code rest nosum).nosum, .slice A n c, .slice D m d]) := (fact_of hnd 0 8 (by kernel_rfl) :)
      refine u_icmp_headSize _ _ _ _ rfl h0 (fun k => by kernel_rfl) (Calls.mono (head_icmp (Uh.mk 3 sport dport seq ack bits window urgent ty code rest nosum) A D n c m d v hn) ?_)
      rintro e' v' ⟨rfl, b6⟩
      exact ⟨_, rfl, hK _ _ rfl b6⟩
    | 2, _, ho =>
      obtain rfl := Option.some.inj ho
      have h0 : a'.eval (.tmp 1) = .pointer (some ⟨w.heap.size, 0, none⟩) := (hx 1 (by decide)).trans rfl
      exact u_fldU13 _ _ rfl h0 (hK _ _ rfl (Below.refl _ _))
    | 3, _, ho =>
      obtain rfl := Option.some.inj ho
      have h0 : a'.eval (.tmp 10) = .pointer (some ⟨w.heap.size, 13, none⟩) := (fact_of hnd 2 10 (by kernel_rfl) :)
      exact u_bytes _ _ _ _ rfl h0 (K.cell (K.below hB q1.out) 13 _ rfl) (hK _ _ rfl (Below.refl _ _))
    | 4, _, ho =>
      obtain rfl := Option.some.inj ho
      have h0 : a'.eval (.tmp 11) = .slice D m d := (fact_of hnd 3 11 (by kernel_rfl) :)
      exact u_lenB _ _ _ _ rfl h0 (hK _ _ rfl (Below.refl _ _))
    | 5, _, ho =>
      obtain rfl := Option.some.inj ho
      have h0 : a'.eval (.tmp 9) = .int .i64 (8 : Int) := (fact_of hnd 1 9 (by kernel_rfl) :)
      have h1 : a'.eval (.tmp 12) = .int .i64 (m : Int) := (fact_of hnd 4 12 (by kernel_rfl) :)
      exact u_add _ _ _ _ rfl h0 h1 (by omega) (by omega) (by omega) (by omega) (hK _ _ rfl (Below.refl _ _))
    | j + 6, hj, _ => omega
  · intro f v hf hB
    have e0 : f 0 = (.iface 123 (.agg #[.int .i64 (Uh.mk 3 sport dport seq ack bits window urgent ty code rest nosum).kind, .int .i64 (Uh.mk 3 sport dport seq ack bits window urgent ty code rest nosum).sport, .int .i64 (Uh.mk 3 sport dport seq ack bits window urgent ty code rest nosum).dport, .int .i64 (Uh.mk 3 sport dport seq ack bits window urgent ty code rest nosum).seq, .int .i64 (Uh.mk 3 sport dport seq ack bits window urgent ty code rest nosum).ack, .int .i64 (Uh.mk 3 sport dport seq ack bits window urgent ty code rest nosum).bits, .int .i64 (Uh.mk 3 sport dport seq ack bits window urgent ty code rest nosum).window, .int .i64 (Uh.mk 3 sport dport seq ack bits window urgent ty code rest nosum).urgent, .int .i64 (Uh.mk 3 sport dport seq ack bits window urgent ty code rest nosum).ty, .int .i64 (Uh.mk 3 sport dport seq ack bits window urgent ty code rest nosum).code, .int .i64 (Uh.mk 3 sport dport seq ack bits window urgent ty code rest nosum).rest, .bool (Uh.mk 3 sport dport seq ack bits window urgent ty code rest nosum).nosum, .slice A n c, .slice D m d])) := hf (0, 8) (by decide)
    have e1 : f 1 = (.int .i64 (8 : Int)) := hf (1, 9) (by decide)
    have e2 : f 2 = (.pointer (some ⟨w.heap.size, 13, none⟩)) := hf (2, 10) (by decide)
    have e3 : f 3 = (.slice D m d) := hf (3, 11) (by decide)
    have e4 : f 4 = (.int .i64 (m : Int)) := hf (4, 12) (by decide)
    have e5 : f 5 = (.int .i64 ((8 : Int) + m)) := hf (5, 13) (by decide)
    simp only [List.foldl_cons, List.foldl_nil, List.drop_succ_cons, List.drop_zero, e0, e1, e2, e3, e4, e5]
    clear e0 e1 e2 e3 e4 e5 hf
    go_simp
    go_wp2
    go_ret
    exact ⟨rfl, bthen (by go_grown) hB⟩

set_option maxHeartbeats 1000000 in
theorem implUpSize_no (x : Uh) (A D : Option Addr) (n c m d : Nat) (w : World) (hk : x.kind ≠ 0 ∧ x.kind ≠ 1 ∧ x.kind ≠ 2 ∧ x.kind ≠ 3) : Calls Try.prog 48 #[.agg #[.int .i64 x.kind, .int .i64 x.sport, .int .i64 x.dport, .int .i64 x.seq, .int .i64 x.ack, .int .i64 x.bits, .int .i64 x.window, .int .i64 x.urgent, .int .i64 x.ty, .int .i64 x.code, .int .i64 x.rest, .bool x.nosum, .slice A n c, .slice D m d]] w fun e w' => e = .returned (.int .i64 (x.size n m)) ∧ Below w.heap.size w w' := by
  have q := Lib.hid (K.new w (.cells #[.int .i64 x.kind, .int .i64 x.sport, .int .i64 x.dport, .int .i64 x.seq, .int .i64 x.ack, .int .i64 x.bits, .int .i64 x.window, .int .i64 x.urgent, .int .i64 x.ty, .int .i64 x.code, .int .i64 x.rest, .bool x.nosum, .slice A n c, .slice D m d] 38))
  have hf : Hid (∀ v, fmtV x.kind v = .nilIface) := Lib.hid (fun v => by simp [fmtV, hk])
  have hz := Lib.hid (show x.size n m = -1 by simp [Uh.size, hk])
  clear hk
  go_enter Try.func48, Try.ntmps48
  go_wp2_with (with_reducible refine loadU rfl _ rfl w.heap.size rfl q.out ?_)
  refine Calls.mono (formatOfC x A D n c m d _) ?_
  rintro e w1 ⟨rfl, rfl⟩
  simp only [hf.out]
  go_wp2
  go_ret
  exact ⟨ret_int hz.out.symm, by go_grown⟩

theorem implUpSize (x : Uh) (A D : Option Addr) (n c m d : Nat) (w : World) (hn : n ≤ 1048576) (hm : m ≤ 1048576) : Calls Try.prog 48 #[.agg #[.int .i64 x.kind, .int .i64 x.sport, .int .i64 x.dport, .int .i64 x.seq, .int .i64 x.ack, .int .i64 x.bits, .int .i64 x.window, .int .i64 x.urgent, .int .i64 x.ty, .int .i64 x.code, .int .i64 x.rest, .bool x.nosum, .slice A n c, .slice D m d]] w fun e w' => e = .returned (.int .i64 (x.size n m)) ∧ Below w.heap.size w w' := by
  have hk : x.kind = 0 ∨ x.kind = 1 ∨ x.kind = 2 ∨ x.kind = 3 ∨ (x.kind ≠ 0 ∧ x.kind ≠ 1 ∧ x.kind ≠ 2 ∧ x.kind ≠ 3) := by omega
  rcases hk with h | h | h | h | h
  · exact implUpSize0 x A D n c m d w hn hm h
  · exact implUpSize1 x A D n c m d w hn hm h
  · exact implUpSize2 x A D n c m d w hn hm h
  · exact implUpSize3 x A D n c m d w hn hm h
  · exact implUpSize_no x A D n c m d w h
end Go.Proofs.Ytkmijefheejcjaa
