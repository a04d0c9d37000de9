/-
  The laws' own comparison of IPv4 packets, their marking and a look at the marks.
-/
import Derived.Test.YtekdfffjlcikeaaFour
namespace Go.Proofs.Ytekdfffjlcikeaa
open Go.RowKit

set_option maxHeartbeats 2000000 in
theorem eqFourC (x : Fh) (A D E G : Option Addr) (n c m d e g : Nat) (os bs : List UInt8) (w : World) (hx : RB w w.heap.size A os) (hy : RB w w.heap.size E os) (hl : os.length = n) (hn : n ≤ 1048576)
    (hz : RB w w.heap.size D bs) (hu : RB w w.heap.size G bs) (hm : bs.length = m) (hm2 : m ≤ 1048576) :
    Calls Try.prog 14 #[.agg #[.int .i64 x.dscp, .int .i64 x.ecn, .int .i64 x.id, .int .i64 x.flags, .int .i64 x.frag, .int .i64 x.ttl, .int .i64 x.proto, .int .i64 x.src.k, .int .i64 x.src.a, .int .i64 x.src.b, .int .i64 x.src.c, .int .i64 x.src.d, .int .i64 x.dst.k, .int .i64 x.dst.a, .int .i64 x.dst.b, .int .i64 x.dst.c, .int .i64 x.dst.d, .slice A n c, .slice D m d], .agg #[.int .i64 x.dscp, .int .i64 x.ecn, .int .i64 x.id, .int .i64 x.flags, .int .i64 x.frag, .int .i64 x.ttl, .int .i64 x.proto, .int .i64 x.src.k, .int .i64 x.src.a, .int .i64 x.src.b, .int .i64 x.src.c, .int .i64 x.src.d, .int .i64 x.dst.k, .int .i64 x.dst.a, .int .i64 x.dst.b, .int .i64 x.dst.c, .int .i64 x.dst.d, .slice E n e, .slice G m g]] w fun e w' => e = .returned (.bool true) ∧ Below w.heap.size w w' := by
  have HL := Lib.hid hl
  have HM := Lib.hid hm
  have HX := Lib.hid hx
  have HY := Lib.hid hy
  have HZ := Lib.hid hz
  have HU := Lib.hid hu
  clear hl hx hy hm hz hu
  go_enter Try.func14, Try.ntmps14
  go_wp2_with (go_at_call 36; go_in)
  refine Calls.mono (eqBn A E n c e os _ ((HX.out.below (by go_grown)).more (by first | (simp; done) | (simp; omega))) ((HY.out.below (by go_grown)).more (by first | (simp; done) | (simp; omega))) HL.out hn) ?_
  rintro e1 w1 ⟨rfl, b1⟩
  have q1 := Lib.hid (K.on b1 (g := w.heap.size) (by first | (simp; done) | (simp; omega)) (o := .cells #[.int .i64 x.dscp, .int .i64 x.ecn, .int .i64 x.id, .int .i64 x.flags, .int .i64 x.frag, .int .i64 x.ttl, .int .i64 x.proto, .int .i64 x.src.k, .int .i64 x.src.a, .int .i64 x.src.b, .int .i64 x.src.c, .int .i64 x.src.d, .int .i64 x.dst.k, .int .i64 x.dst.a, .int .i64 x.dst.b, .int .i64 x.dst.c, .int .i64 x.dst.d, .slice A n c, .slice D m d] 31) (by repeat (first | exact K.newAt (by first | rfl | (simp; done)) | refine K.oldAt (by first | (simp; done) | (simp; omega)) ?_)))
  have q2 := Lib.hid (K.on b1 (g := w.heap.size + 1) (by first | (simp; done) | (simp; omega)) (o := .cells #[.int .i64 x.dscp, .int .i64 x.ecn, .int .i64 x.id, .int .i64 x.flags, .int .i64 x.frag, .int .i64 x.ttl, .int .i64 x.proto, .int .i64 x.src.k, .int .i64 x.src.a, .int .i64 x.src.b, .int .i64 x.src.c, .int .i64 x.src.d, .int .i64 x.dst.k, .int .i64 x.dst.a, .int .i64 x.dst.b, .int .i64 x.dst.c, .int .i64 x.dst.d, .slice E n e, .slice G m g] 31) (by repeat (first | exact K.newAt (by first | rfl | (simp; done)) | refine K.oldAt (by first | (simp; done) | (simp; omega)) ?_)))
  have B1 := Lib.hid (show Below w.heap.size w w1 from bthen (by go_grown) b1)
  clear b1
  have d1 := K.cell q1.out 18 _ rfl
  have d2 := K.cell q2.out 18 _ rfl
  go_wp2_with fail
  refine Calls.mono (eqBn D G m d g bs _ ((HZ.out.below B1.out).more B1.out.size) ((HU.out.below B1.out).more B1.out.size) HM.out hm2) ?_
  rintro e2 w2 ⟨rfl, b2⟩
  have B2 := Lib.hid (bthen B1.out b2)
  clear b2 d1 d2 q1 q2
  go_wp2
  go_ret
  exact ⟨rfl, B2.out⟩

set_option maxHeartbeats 2000000 in
theorem markFourC (x : Fh) (A D : Option Addr) (n c m d base : Nat) (os bs : List UInt8) (k : Int) (w : World) (ho : w.ownsRow base 5 1 (.slice A n c) n (cellsOf os)) (hb : w.ownsRow base 5 1 (.slice D m d) m (cellsOf bs))
    (hap : ∀ k, (Value.slice A n c).ownBlock = some k → (Value.slice D m d).ownBlock ≠ some k) (hn : n ≤ 1048576) (hm : m ≤ 1048576) (h0 : 0 ≤ k) (hk : k + n ≤ 1048576) :
    Calls Try.prog 22 #[.agg #[.int .i64 x.dscp, .int .i64 x.ecn, .int .i64 x.id, .int .i64 x.flags, .int .i64 x.frag, .int .i64 x.ttl, .int .i64 x.proto, .int .i64 x.src.k, .int .i64 x.src.a, .int .i64 x.src.b, .int .i64 x.src.c, .int .i64 x.src.d, .int .i64 x.dst.k, .int .i64 x.dst.a, .int .i64 x.dst.b, .int .i64 x.dst.c, .int .i64 x.dst.d, .slice A n c, .slice D m d], .int .i64 k] w fun e w' => e = .returned (.int .i64 (k + n + m)) ∧
      w'.ownsRow base 5 1 (.slice A n c) n (cellsOf (marks k.toNat n)) ∧ w'.ownsRow base 5 1 (.slice D m d) m (cellsOf (marks (k + n).toNat m)) ∧
        ∃ u, w.grownBy u (Value.slice A n c).ownBlock ∧ u.grownBy w' (Value.slice D m d).ownBlock := by
  have HO := Lib.hid (fun o : Obj => ho.alloc o)
  have HB := Lib.hid (fun o : Obj => hb.alloc o)
  have HA := Lib.hid hap
  have LA := Lib.hid (fun k hk => (ho.lt k hk).2)
  have LB := Lib.hid (fun k hk => (hb.lt k hk).2)
  clear ho hb hap
  go_enter Try.func22, Try.ntmps22
  go_wp2_with fail
  refine Calls.mono (markBn A n c base os k _ (HO.out _) hn h0 (by omega)) ?_
  rintro e w1 ⟨rfl, o1, g1⟩
  have q1 := Lib.hid (K.kept g1 (K.new w _) (fun j hj => by have := LA.out j hj; omega))
  have P1 := Lib.hid (own_grown (HB.out _) g1 (fun j hj e => HA.out j e hj))
  have G1 := Lib.hid (grownBy_trans (only_new (K.refl w _) _) g1)
  clear g1
  have d1 := K.cell q1.out 18 _ rfl
  go_wp2_with fail
  refine Calls.mono (markBn D m d base bs (k + n) _ P1.out hm (by omega) hk) ?_
  rintro e w2 ⟨rfl, o2, g2⟩
  have O2 := Lib.hid (own_grown o1 g2 (fun j hj e => HA.out j hj e))
  have G2 := Lib.hid g2
  have O3 := Lib.hid o2
  clear o1 o2 g2 d1 q1
  go_wp2
  go_ret
  exact ⟨rfl, O2.out, O3.out, w1, G1.out, G2.out⟩

set_option maxHeartbeats 2000000 in
theorem heldFourC (x : Fh) (A D : Option Addr) (n c m d : Nat) (k : Int) (w : World) (hr : RB w w.heap.size A (marks k.toNat n)) (hs : RB w w.heap.size D (marks (k + n).toNat m)) (hn : n ≤ 1048576) (hm : m ≤ 1048576) (h0 : 0 ≤ k) (hk : k + n ≤ 1048576) :
    Calls Try.prog 28 #[.agg #[.int .i64 x.dscp, .int .i64 x.ecn, .int .i64 x.id, .int .i64 x.flags, .int .i64 x.frag, .int .i64 x.ttl, .int .i64 x.proto, .int .i64 x.src.k, .int .i64 x.src.a, .int .i64 x.src.b, .int .i64 x.src.c, .int .i64 x.src.d, .int .i64 x.dst.k, .int .i64 x.dst.a, .int .i64 x.dst.b, .int .i64 x.dst.c, .int .i64 x.dst.d, .slice A n c, .slice D m d], .int .i64 k] w fun e w' => e = .returned (.int .i64 (k + n + m)) ∧ Below w.heap.size w w' := by
  have HR := Lib.hid (fun o : Obj => (hr.below (Joins.below_alloc1 w o)).more (show w.heap.size ≤ (w.alloc o).heap.size by simp))
  have HS := Lib.hid (fun o : Obj => (hs.below (Joins.below_alloc1 w o)).more (show w.heap.size ≤ (w.alloc o).heap.size by simp))
  clear hr hs
  go_enter Try.func28, Try.ntmps28
  go_wp2_with fail
  refine Calls.mono (heldBn A n c k _ (HR.out _) hn h0 (by omega)) ?_
  rintro e w1 ⟨rfl, rfl⟩
  go_wp2_with fail
  refine Calls.mono (heldBn D m d (k + n) _ (HS.out _) hm (by omega) hk) ?_
  rintro e w1 ⟨rfl, rfl⟩
  go_wp2
  go_ret
  exact ⟨rfl, Joins.below_alloc1 w _⟩
end Go.Proofs.Ytekdfffjlcikeaa
