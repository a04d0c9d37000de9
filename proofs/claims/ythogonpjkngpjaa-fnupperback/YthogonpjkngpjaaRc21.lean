/-
  UpperOk in the program.
-/
import Derived.Test.YthogonpjkngpjaaRc17
import Derived.Test.YthogonpjkngpjaaRc18
import Derived.Test.YthogonpjkngpjaaRc19
import Derived.Test.YthogonpjkngpjaaRc20
namespace Go.Proofs.Ythogonpjkngpjaa
set_option maxRecDepth 100000
open Go.RowKit
set_option maxHeartbeats 1000000 in
theorem upOkI4 (x : Uh) (A D : Option Addr) (n c m d : Nat) (k : Int) (w : World) (hk : x.kind ≠ 0 ∧ x.kind ≠ 1 ∧ x.kind ≠ 2 ∧ x.kind ≠ 3) : Calls Try.prog 65 #[.agg #[.int .i64 x.kind, .int .i64 x.sport, .int .i64 x.dport, .int .i64 x.seq, .int .i64 x.ack, .int .i64 x.bits, .int .i64 x.window, .int .i64 x.urgent, .int .i64 x.ty, .int .i64 x.code, .int .i64 x.rest, .bool x.nosum, .slice A n c, .slice D m d], .int .i64 k] w fun e w' => e = .returned (.bool (x.ok k n m)) ∧ Below w.heap.size w w' := by
  have q := Lib.hid (K.new w (.cells #[.int .i64 x.kind, .int .i64 x.sport, .int .i64 x.dport, .int .i64 x.seq, .int .i64 x.ack, .int .i64 x.bits, .int .i64 x.window, .int .i64 x.urgent, .int .i64 x.ty, .int .i64 x.code, .int .i64 x.rest, .bool x.nosum, .slice A n c, .slice D m d] 36))
  have HF : Hid (∀ v, fmtV x.kind v = .nilIface) := Lib.hid (fun v => by simp [fmtV, hk])
  have HZ := Lib.hid (show x.ok k n m = false by simp [Uh.ok, Uh.fields, hk])
  clear hk
  go_enter Try.func65, Try.ntmps65
  go_wp2_with (with_reducible refine loadU rfl _ rfl w.heap.size rfl q.out ?_)
  refine Calls.mono (formatOfC x A D n c m d _) ?_
  rintro e w1 ⟨rfl, rfl⟩
  simp only [HF.out]
  go_wp2
  go_ret
  exact ⟨ret_bool HZ.out.symm, Joins.below_alloc2 w _ _⟩
theorem implUpOk (x : Uh) (A D : Option Addr) (n c m d : Nat) (k : Int) (w : World) (hn : n ≤ 1048576) (hm : m ≤ 1048576) : Calls Try.prog 65 #[.agg #[.int .i64 x.kind, .int .i64 x.sport, .int .i64 x.dport, .int .i64 x.seq, .int .i64 x.ack, .int .i64 x.bits, .int .i64 x.window, .int .i64 x.urgent, .int .i64 x.ty, .int .i64 x.code, .int .i64 x.rest, .bool x.nosum, .slice A n c, .slice D m d], .int .i64 k] w fun e w' => e = .returned (.bool (x.ok k n m)) ∧ Below w.heap.size w w' := by
  have hk : x.kind = 0 ∨ x.kind = 1 ∨ x.kind = 2 ∨ x.kind = 3 ∨ (x.kind ≠ 0 ∧ x.kind ≠ 1 ∧ x.kind ≠ 2 ∧ x.kind ≠ 3) := by omega
  obtain ⟨kind, sport, dport, seq, ack, bits, window, urgent, ty, code, rest, nosum⟩ := x
  rcases hk with h | h | h | h | h
  · simp only at h; subst h; exact upOkI0 sport dport seq ack bits window urgent ty code rest nosum A D n c m d k w hn hm
  · simp only at h; subst h; exact upOkI1 sport dport seq ack bits window urgent ty code rest nosum A D n c m d k w hn hm
  · simp only at h; subst h; exact upOkI2 sport dport seq ack bits window urgent ty code rest nosum A D n c m d k w hn hm
  · simp only at h; subst h; exact upOkI3 sport dport seq ack bits window urgent ty code rest nosum A D n c m d k w hn hm
  · exact upOkI4 _ A D n c m d k w h
end Go.Proofs.Ythogonpjkngpjaa
