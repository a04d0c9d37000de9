/-
  The laws' own copy of an upper layer.
-/
import Derived.Test.YtkmijefheejcjaaUp
import Derived.Test.YtkmijefheejcjaaFour2
namespace Go.Proofs.Ytkmijefheejcjaa
set_option maxRecDepth 100000
open Go.RowKit

set_option maxHeartbeats 2000000 in
theorem toUpC (x : Uh) (A D : Option Addr) (n c m d : Nat) (os bs : List UInt8) (w : World) (hr : RB w w.heap.size A os) (hl : os.length = n) (hn : n ≤ 1048576) (hs : RB w w.heap.size D bs) (hm : bs.length = m) (hm2 : m ≤ 1048576) :
    Calls Try.prog 41 #[.agg #[.int .i64 x.kind, .int .i64 x.sport, .int .i64 x.dport, .int .i64 x.seq, .int .i64 x.ack, .int .i64 x.bits, .int .i64 x.window, .int .i64 x.urgent, .int .i64 x.ty, .int .i64 x.code, .int .i64 x.rest, .bool x.nosum, .slice A n c, .slice D m d]] w (UpOut x os bs n m w) := by
  have HL := Lib.hid hl
  have HM := Lib.hid hm
  have HR := Lib.hid hr
  have HS := Lib.hid hs
  clear hl hm hr hs
  go_enter Try.func41, Try.ntmps41
  go_wp2_with fail
  refine Calls.mono (toFn A n c os _ ((HR.out.below (by go_grown)).more (by simp; omega)) HL.out hn) ?_
  rintro e w1 ⟨A1, c1, rfl, o1, b1⟩
  have q1 := Lib.hid (K.on b1 (g := w.heap.size) (by first | (simp; done) | (simp; omega)) (o := .cells #[.int .i64 x.kind, .int .i64 x.sport, .int .i64 x.dport, .int .i64 x.seq, .int .i64 x.ack, .int .i64 x.bits, .int .i64 x.window, .int .i64 x.urgent, .int .i64 x.ty, .int .i64 x.code, .int .i64 x.rest, .bool x.nosum, .slice A n c, .slice D m d] 52) (by repeat (first | exact K.newAt (by first | rfl | (simp; done)) | refine K.oldAt (by first | (simp; done) | (simp; omega)) ?_)))
  have q2 := Lib.hid (K.on b1 (g := w.heap.size + 1) (by first | (simp; done) | (simp; omega)) (o := .cells #[.int .i64 Uh.zero.kind, .int .i64 Uh.zero.sport, .int .i64 Uh.zero.dport, .int .i64 Uh.zero.seq, .int .i64 Uh.zero.ack, .int .i64 Uh.zero.bits, .int .i64 Uh.zero.window, .int .i64 Uh.zero.urgent, .int .i64 Uh.zero.ty, .int .i64 Uh.zero.code, .int .i64 Uh.zero.rest, .bool Uh.zero.nosum, .slice none 0 0, .slice none 0 0] 38) (by repeat (first | exact K.newAt (by first | rfl | (simp; done)) | refine K.oldAt (by first | (simp; done) | (simp; omega)) ?_)))
  have q3 := Lib.hid (K.on b1 (g := w.heap.size + 1 + 1) (by first | (simp; done) | (simp; omega)) (o := .cells #[.int .i64 x.kind, .int .i64 x.sport, .int .i64 x.dport, .int .i64 x.seq, .int .i64 x.ack, .int .i64 x.bits, .int .i64 x.window, .int .i64 x.urgent, .int .i64 x.ty, .int .i64 x.code, .int .i64 x.rest, .bool x.nosum, .slice none 0 0, .slice none 0 0] 38) (by repeat (first | exact K.newAt (by first | rfl | (simp; done)) | refine K.oldAt (by first | (simp; done) | (simp; omega)) ?_)))
  have B1 := Lib.hid (show Below w.heap.size w w1 from bthen (by go_grown) b1)
  have O1 := Lib.hid (own_base o1 (show w.heap.size + 3 ≤ _ by first | (simp; done) | (simp; omega)))
  have Z := Lib.hid (show w.heap.size + 3 ≤ w1.heap.size by have := b1.size; simp at this; omega)
  clear o1 b1
  have d13 := K.cell q1.out 13 _ rfl
  have d12 := K.cell q3.out 12 _ rfl
  have f12 := frozen_of_row _ _ 12 _ _ q3.out
  go_wp2_with fail
  have q1' := Lib.hid (K.other q1.out (w.heap.size + 1 + 1) 12 (.slice A1 n c1) (by omega))
  have q2' := Lib.hid (K.other q2.out (w.heap.size + 1 + 1) 12 (.slice A1 n c1) (by omega))
  have q3' := Lib.hid (K.set q3.out 12 (.slice A1 n c1))
  have O1' := Lib.hid (own_grown O1.out (grownBy_set w1 (w.heap.size + 1 + 1) 12 (.slice A1 n c1)) (fun k hk => by have := (O1.out.lt k hk).1; simp; omega))
  have B1' := Lib.hid (B1.out.setCell (p := ⟨w.heap.size + 1 + 1, 12, none⟩) (by simp; omega) (.slice A1 n c1))
  refine Calls.mono (toFn D m d bs _ ((HS.out.below B1'.out).more B1'.out.size) HM.out hm2) ?_
  rintro e w2 ⟨D2, d2, rfl, o2, b2⟩
  have r2 := Lib.hid (K.below b2 q2'.out)
  have r3 := Lib.hid (K.below b2 q3'.out)
  have P1 := Lib.hid (own_below O1'.out b2)
  have AP := Lib.hid (apart_of (fun k hk => O1'.out.lt k hk) (fun k hk => o2.lt k hk))
  have B2 := Lib.hid (bthen B1'.out b2)
  have O2 := Lib.hid (own_base o2 (show w.heap.size + 3 ≤ _ from Nat.le_trans Z.out (by simp)))
  clear q1 q2 q3 q1' q2' q3' O1 O1' B1 B1' o2 b2 d13 d12 f12
  have d13 := K.cell r3.out 13 _ rfl
  have f13 := frozen_of_row _ _ 13 _ _ r3.out
  have s3 : Hid ((w2.setCell ⟨w.heap.size + 1 + 1, 13, none⟩ (.slice D2 m d2)).heap[w.heap.size + 1 + 1]? = some (.cells #[.int .i64 x.kind, .int .i64 x.sport, .int .i64 x.dport, .int .i64 x.seq, .int .i64 x.ack, .int .i64 x.bits, .int .i64 x.window, .int .i64 x.urgent, .int .i64 x.ty, .int .i64 x.code, .int .i64 x.rest, .bool x.nosum, .slice A1 n c1, .slice D2 m d2] 38 (0, 0))) := Lib.hid (K.set r3.out 13 _)
  have s2 : Hid ((w2.setCell ⟨w.heap.size + 1 + 1, 13, none⟩ (.slice D2 m d2)).heap[w.heap.size + 1]? = some (.cells #[.int .i64 Uh.zero.kind, .int .i64 Uh.zero.sport, .int .i64 Uh.zero.dport, .int .i64 Uh.zero.seq, .int .i64 Uh.zero.ack, .int .i64 Uh.zero.bits, .int .i64 Uh.zero.window, .int .i64 Uh.zero.urgent, .int .i64 Uh.zero.ty, .int .i64 Uh.zero.code, .int .i64 Uh.zero.rest, .bool Uh.zero.nosum, .slice none 0 0, .slice none 0 0] 38 (0, 0))) := Lib.hid (K.other r2.out _ 13 _ (by omega))
  go_wp2_with (first | (with_reducible refine loadU rfl _ rfl (w.heap.size + 1 + 1) rfl s3.out ?_) | (with_reducible refine storeU rfl _ _ rfl (w.heap.size + 1) rfl rfl s2.out ?_))
  (try simp only [Exit.inBlock, Exit.then])
  refine bodyPost_ret (v := .agg #[.int .i64 x.kind, .int .i64 x.sport, .int .i64 x.dport, .int .i64 x.seq, .int .i64 x.ack, .int .i64 x.bits, .int .i64 x.window, .int .i64 x.urgent, .int .i64 x.ty, .int .i64 x.code, .int .i64 x.rest, .bool x.nosum, .slice A1 n c1, .slice D2 m d2]) ?_ rfl ⟨A1, c1, D2, d2, rfl, ?_, ?_, AP.out, ?_⟩
  · exact resU Try.results41 _ _ (w.heap.size + 1) rfl (setRow_heap _ _ _ _ _ _ s2.out)
  · exact own_base (K.setRow_own _ (own_set P1.out _ _ _ (by omega)) (by omega)) (by omega)
  · exact own_base (K.setRow_own _ (own_set O2.out _ _ _ (by omega)) (by omega)) (by omega)
  · exact K.setRow_below (B2.out.setCell (p := ⟨w.heap.size + 1 + 1, 13, none⟩) (by simp; omega) _) (by omega) _
end Go.Proofs.Ytkmijefheejcjaa
