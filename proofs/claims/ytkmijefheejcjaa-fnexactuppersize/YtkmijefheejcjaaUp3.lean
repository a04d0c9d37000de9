/-
  The laws' own comparison of upper layers, their marking and a look at the marks.
-/
import Derived.Test.YtkmijefheejcjaaUp
import Derived.Test.YtkmijefheejcjaaFourMark
namespace Go.Proofs.Ytkmijefheejcjaa
set_option maxRecDepth 100000
open Go.RowKit

set_option maxHeartbeats 2000000 in
theorem eqUpC (x : Uh) (A D E G : Option Addr) (n c m d e g : Nat) (os bs : List UInt8) (w : World) (hx : RB w w.heap.size A os) (hy : RB w w.heap.size E os) (hl : os.length = n) (hn : n ≤ 1048576)
    (hz : RB w w.heap.size D bs) (hu : RB w w.heap.size G bs) (hm : bs.length = m) (hm2 : m ≤ 1048576) :
    Calls Try.prog 43 #[.agg #[.int .i64 x.kind, .int .i64 x.sport, .int .i64 x.dport, .int .i64 x.seq, .int .i64 x.ack, .int .i64 x.bits, .int .i64 x.window, .int .i64 x.urgent, .int .i64 x.ty, .int .i64 x.code, .int .i64 x.rest, .bool x.nosum, .slice A n c, .slice D m d], .agg #[.int .i64 x.kind, .int .i64 x.sport, .int .i64 x.dport, .int .i64 x.seq, .int .i64 x.ack, .int .i64 x.bits, .int .i64 x.window, .int .i64 x.urgent, .int .i64 x.ty, .int .i64 x.code, .int .i64 x.rest, .bool x.nosum, .slice E n e, .slice G m g]] w fun e w' => e = .returned (.bool true) ∧ Below w.heap.size w w' := by
  have HL := Lib.hid hl
  have HM := Lib.hid hm
  have HX := Lib.hid hx
  have HY := Lib.hid hy
  have HZ := Lib.hid hz
  have HU := Lib.hid hu
  clear hl hx hy hm hz hu
  go_enter Try.func43, Try.ntmps43
  go_wp2_with fail
  refine Calls.mono (eqBn A E n c e os _ ((HX.out.below (by go_grown)).more (by first | (simp; done) | (simp; omega))) ((HY.out.below (by go_grown)).more (by first | (simp; done) | (simp; omega))) HL.out hn) ?_
  rintro e1 w1 ⟨rfl, b1⟩
  have q1 := Lib.hid (K.on b1 (g := w.heap.size) (by first | (simp; done) | (simp; omega)) (o := .cells #[.int .i64 x.kind, .int .i64 x.sport, .int .i64 x.dport, .int .i64 x.seq, .int .i64 x.ack, .int .i64 x.bits, .int .i64 x.window, .int .i64 x.urgent, .int .i64 x.ty, .int .i64 x.code, .int .i64 x.rest, .bool x.nosum, .slice A n c, .slice D m d] 38) (by repeat (first | exact K.newAt (by first | rfl | (simp; done)) | refine K.oldAt (by first | (simp; done) | (simp; omega)) ?_)))
  have q2 := Lib.hid (K.on b1 (g := w.heap.size + 1) (by first | (simp; done) | (simp; omega)) (o := .cells #[.int .i64 x.kind, .int .i64 x.sport, .int .i64 x.dport, .int .i64 x.seq, .int .i64 x.ack, .int .i64 x.bits, .int .i64 x.window, .int .i64 x.urgent, .int .i64 x.ty, .int .i64 x.code, .int .i64 x.rest, .bool x.nosum, .slice E n e, .slice G m g] 38) (by repeat (first | exact K.newAt (by first | rfl | (simp; done)) | refine K.oldAt (by first | (simp; done) | (simp; omega)) ?_)))
  have B1 := Lib.hid (show Below w.heap.size w w1 from bthen (by go_grown) b1)
  clear b1
  have d1 := K.cell q1.out 13 _ rfl
  have d2 := K.cell q2.out 13 _ rfl
  go_wp2_with fail
  refine Calls.mono (eqBn D G m d g bs _ ((HZ.out.below B1.out).more B1.out.size) ((HU.out.below B1.out).more B1.out.size) HM.out hm2) ?_
  rintro e2 w2 ⟨rfl, b2⟩
  have B2 := Lib.hid (bthen B1.out b2)
  clear b2 d1 d2 q1 q2
  go_wp2
  go_ret
  exact ⟨rfl, B2.out⟩

set_option maxHeartbeats 2000000 in
theorem markUpC (x : Uh) (A D : Option Addr) (n c m d base : Nat) (os bs : List UInt8) (k : Int) (w : World) (ho : w.ownsRow base 5 1 (.slice A n c) n (cellsOf os)) (hb : w.ownsRow base 5 1 (.slice D m d) m (cellsOf bs))
    (hap : ∀ k, (Value.slice A n c).ownBlock = some k → (Value.slice D m d).ownBlock ≠ some k) (hn : n ≤ 1048576) (hm : m ≤ 1048576) (h0 : 0 ≤ k) (hk : k + n ≤ 1048576) :
    Calls Try.prog 50 #[.agg #[.int .i64 x.kind, .int .i64 x.sport, .int .i64 x.dport, .int .i64 x.seq, .int .i64 x.ack, .int .i64 x.bits, .int .i64 x.window, .int .i64 x.urgent, .int .i64 x.ty, .int .i64 x.code, .int .i64 x.rest, .bool x.nosum, .slice A n c, .slice D m d], .int .i64 k] w fun e w' => e = .returned (.int .i64 (k + n + m)) ∧
      w'.ownsRow base 5 1 (.slice A n c) n (cellsOf (marks k.toNat n)) ∧ w'.ownsRow base 5 1 (.slice D m d) m (cellsOf (marks (k + n).toNat m)) ∧
        ∃ u, w.grownBy u (Value.slice A n c).ownBlock ∧ u.grownBy w' (Value.slice D m d).ownBlock := by
  have HO := Lib.hid (fun o : Obj => ho.alloc o)
  have HB := Lib.hid (fun o : Obj => hb.alloc o)
  have HA := Lib.hid hap
  have LA := Lib.hid (fun k hk => (ho.lt k hk).2)
  have LB := Lib.hid (fun k hk => (hb.lt k hk).2)
  clear ho hb hap
  go_enter Try.func50, Try.ntmps50
  go_wp2_with fail
  refine Calls.mono (markBn A n c base os k _ (HO.out _) hn h0 (by omega)) ?_
  rintro e w1 ⟨rfl, o1, g1⟩
  have q1 := Lib.hid (K.kept g1 (K.new w _) (fun j hj => by have := LA.out j hj; omega))
  have P1 := Lib.hid (own_grown (HB.out _) g1 (fun j hj e => HA.out j e hj))
  have G1 := Lib.hid (grownBy_trans (only_new (K.refl w _) _) g1)
  clear g1
  have d1 := K.cell q1.out 13 _ rfl
  go_wp2_with fail
  refine Calls.mono (markBn D m d base bs (k + n) _ P1.out hm (by omega) hk) ?_
  rintro e w2 ⟨rfl, o2, g2⟩
  have O2 := Lib.hid (own_grown o1 g2 (fun j hj e => HA.out j hj e))
  have G2 := Lib.hid g2
  have O3 := Lib.hid o2
  clear o1 o2 g2 d1 q1
  go_wp2
  go_ret
  exact ⟨rfl, O2.out, O3.out, w1, G1.out, G2.out⟩

set_option maxHeartbeats 2000000 in
theorem heldUpC (x : Uh) (A D : Option Addr) (n c m d : Nat) (k : Int) (w : World) (hr : RB w w.heap.size A (marks k.toNat n)) (hs : RB w w.heap.size D (marks (k + n).toNat m)) (hn : n ≤ 1048576) (hm : m ≤ 1048576) (h0 : 0 ≤ k) (hk : k + n ≤ 1048576) :
    Calls Try.prog 52 #[.agg #[.int .i64 x.kind, .int .i64 x.sport, .int .i64 x.dport, .int .i64 x.seq, .int .i64 x.ack, .int .i64 x.bits, .int .i64 x.window, .int .i64 x.urgent, .int .i64 x.ty, .int .i64 x.code, .int .i64 x.rest, .bool x.nosum, .slice A n c, .slice D m d], .int .i64 k] w fun e w' => e = .returned (.int .i64 (k + n + m)) ∧ Below w.heap.size w w' := by
  have HR := Lib.hid (fun o : Obj => (hr.below (Joins.below_alloc1 w o)).more (show w.heap.size ≤ (w.alloc o).heap.size by simp))
  have HS := Lib.hid (fun o : Obj => (hs.below (Joins.below_alloc1 w o)).more (show w.heap.size ≤ (w.alloc o).heap.size by simp))
  clear hr hs
  go_enter Try.func52, Try.ntmps52
  go_wp2_with fail
  refine Calls.mono (heldBn A n c k _ (HR.out _) hn h0 (by omega)) ?_
  rintro e w1 ⟨rfl, rfl⟩
  go_wp2_with fail
  refine Calls.mono (heldBn D m d (k + n) _ (HS.out _) hm (by omega) hk) ?_
  rintro e w1 ⟨rfl, rfl⟩
  go_wp2
  go_ret
  exact ⟨rfl, Joins.below_alloc1 w _⟩

set_option maxHeartbeats 2000000 in
theorem markUp0 (x : Uh) (A D : Option Addr) (n c d base : Nat) (os : List UInt8) (k : Int) (w : World) (ho : w.ownsRow base 5 1 (.slice A n c) n (cellsOf os)) (hn : n ≤ 1048576) (h0 : 0 ≤ k) (hk : k ≤ 1048576) :
    Calls Try.prog 50 #[.agg #[.int .i64 x.kind, .int .i64 x.sport, .int .i64 x.dport, .int .i64 x.seq, .int .i64 x.ack, .int .i64 x.bits, .int .i64 x.window, .int .i64 x.urgent, .int .i64 x.ty, .int .i64 x.code, .int .i64 x.rest, .bool x.nosum, .slice A n c, .slice D 0 d], .int .i64 k] w fun e w' => e = .returned (.int .i64 (k + n)) ∧ w.grownBy w' (Value.slice A n c).ownBlock := by
  have HO := Lib.hid (fun o : Obj => ho.alloc o)
  have LA := Lib.hid (fun k hk => (ho.lt k hk).2)
  clear ho
  go_enter Try.func50, Try.ntmps50
  go_wp2_with fail
  refine Calls.mono (markBn A n c base os k _ (HO.out _) hn h0 hk) ?_
  rintro e w1 ⟨rfl, o1, g1⟩
  have q1 := Lib.hid (K.kept g1 (K.new w _) (fun j hj => by have := LA.out j hj; omega))
  have G1 := Lib.hid (grownBy_trans (only_new (K.refl w _) _) g1)
  clear g1 o1
  have d1 := K.cell q1.out 13 _ rfl
  go_wp2_with fail
  refine Calls.mono (markB0 D d (k + n) _) ?_
  rintro e w2 ⟨rfl, rfl⟩
  go_wp2
  go_ret
  exact ⟨rfl, G1.out⟩

theorem markUpW (x : Uh) (A D : Option Addr) (n c m d base : Nat) (os bs : List UInt8) (w : World) (ho : w.ownsRow base 5 1 (.slice A n c) n (cellsOf os)) (hb : w.ownsRow base 5 1 (.slice D m d) m (cellsOf bs))
    (hap : ∀ k, (Value.slice A n c).ownBlock = some k → (Value.slice D m d).ownBlock ≠ some k) (hn : n + m ≤ 1048576) :
    Calls Try.prog 50 #[.agg #[.int .i64 x.kind, .int .i64 x.sport, .int .i64 x.dport, .int .i64 x.seq, .int .i64 x.ack, .int .i64 x.bits, .int .i64 x.window, .int .i64 x.urgent, .int .i64 x.ty, .int .i64 x.code, .int .i64 x.rest, .bool x.nosum, .slice A n c, .slice D m d], .int .i64 1] w fun e w' => e = .returned (.int .i64 (1 + n + m)) ∧
        ∃ u, w.grownBy u (Value.slice A n c).ownBlock ∧ u.grownBy w' (Value.slice D m d).ownBlock := by
  by_cases h : m = 0
  · subst h
    exact (markUp0 x A D n c d base os 1 w ho (by omega) (by omega) (by omega)).mono fun e w' ⟨he, hg⟩ => ⟨by rw [he]; simp, w', hg, K.refl w' _⟩
  · exact (markUpC x A D n c m d base os bs 1 w ho hb hap (by omega) (by omega) (by omega) (by omega)).mono fun e w' ⟨he, _, _, hu⟩ => ⟨he, hu⟩
end Go.Proofs.Ytkmijefheejcjaa
