/-
  The model's draw of an upper layer, number by number. The model's draw of an upper layer, number by number. The model's draw of an upper layer, number by number. The model's draw of an upper layer that may be wrong, number by number, all ways together. When an upper layer is valid. Plain: nothing here speaks of the program. The bytes of an upper layer. Plain: nothing here speaks of the program. The checksum of an upper layer between two addresses. Plain: nothing here speaks of the program. A region that draws its order, as in the text RegThen, one of the first operations of which (p) may turn a row: what stands is said for the time ahead of it and behind it. Plain: any program. A region that draws its order, the first operations of which leave a value each, or a slice of bytes that can be read or is owned, and touch nothing that was there before; the others follow in their order. Plain: any program. A slice of bytes that is being built by appending, beside what must be kept. What FourOk calls, in the program; FourOk in the model. What the head of an IPv4 packet is made of: integers packed by shifts, two and four bytes at a time.
-/
import Derived.Test.YthogonpjkngpjaaRb02
import Derived.Test.YthogonpjkngpjaaRb04
import Derived.Test.YthogonpjkngpjaaRb03
import Derived.Deep.Cut
import Derived.Test.YthogonpjkngpjaaRb05
import Derived.Test.YthogonpjkngpjaaRb01
namespace Go.Proofs.Ythogonpjkngpjaa
set_option maxRecDepth 100000
open Go.RowKit

set_option maxHeartbeats 4000000 in
theorem badUp_0 (want k : Int) (bs : List UInt8) (t s : Nat) (ht : t ≤ 700000000000) (x : Uh) (os ds : List UInt8) (t1 s1 : Nat) (hos : os.length ≤ 40) (hds : ds.length ≤ 40) (ht1 : t1 ≤ t + 100) (HF : Hid (∀ (w : World) (g : Nat) (A : Option Addr) (c : Nat), CurS w g A c bs t s → Calls Try.prog 95 #[.pointer (some ⟨g, 0, none⟩), .int .i64 want, .int .i64 k] w (GivesUp w g A c bs t1 s1 x os ds))) (q : Int) (s2 : Nat) (hq : q = 0) (HK : Hid (∀ (w : World) (g : Nat) (A : Option Addr) (c : Nat), CurS w g A c bs t1 s1 → Calls Try.prog 57 #[.pointer (some ⟨g, 0, none⟩), .int .i64 14] w (Gives w g A c bs (t1 + 1) s2 q))) :
    ∃ (x : Uh) (os ds : List UInt8) (t' s' : Nat), os.length ≤ 45 ∧ ds.length ≤ 1500 ∧ t' ≤ t + 200 ∧ ∀ (w : World) (g : Nat) (A : Option Addr) (c : Nat), CurS w g A c bs t s → Calls Try.prog 56 #[.pointer (some ⟨g, 0, none⟩), .int .i64 want, .int .i64 k] w (GivesUp w g A c bs t' s' x os ds) := by
  subst hq
  obtain ⟨x3, s13, hd3⟩ := rawE bs (t1 + 1) s2 (by omega)
  have H3 := Lib.hid hd3
  clear hd3
  obtain ⟨x4, s14, lo4, up4, hd4⟩ := pickE bs (t1 + 1 + 2) s13 3 (by omega) (by omega) (by omega)
  have H4 := Lib.hid hd4
  clear hd4
  obtain ⟨y4, rfl⟩ : ∃ k : Nat, x4 = k := ⟨x4.toNat, by omega⟩
  obtain ⟨u4, hu4⟩ : ∃ a, ([x3, 65535, 65536] : List Int)[y4]? = some a := ⟨_, List.getElem?_eq_getElem (by simp; omega)⟩
  have HU4 := Lib.hid hu4
  clear hu4
  refine ⟨⟨x.kind, u4, x.dport, x.seq, x.ack, x.bits, x.window, x.urgent, x.ty, x.code, x.rest, x.nosum⟩, os, ds, t1 + 1 + 2 + 1, s14, by omega, by omega, by omega, fun w g A c hc0 => ?_⟩
  have hgl := hc0.lt
  have HC0 := Lib.hid (hc0.below (Joins.below_alloc1 w (.cells #[.int .i64 0, .int .i64 0, .int .i64 0, .int .i64 0, .int .i64 0, .int .i64 0, .int .i64 0, .int .i64 0, .int .i64 0, .int .i64 0, .int .i64 0, .bool false, .slice none 0 0, .slice none 0 0] 36)))
  have R0_ := Lib.hid (K.new w (.cells #[.int .i64 0, .int .i64 0, .int .i64 0, .int .i64 0, .int .i64 0, .int .i64 0, .int .i64 0, .int .i64 0, .int .i64 0, .int .i64 0, .int .i64 0, .bool false, .slice none 0 0, .slice none 0 0] 36))
  clear hc0
  go_enter Try.func56, Try.ntmps56
  go_wp2_with fail
  refine Calls.mono (HF.out _ g A c HC0.out) ?_
  rintro e w1 ⟨O, oc, D0, d0, rfl, oo, od, ap, hc2, hg2⟩
  have hb : w.heap.size < w1.heap.size := by have := hg2.size; simp at this; omega
  have q1 := Lib.hid (K.new w1 (.cells #[.int .i64 x.kind, .int .i64 x.sport, .int .i64 x.dport, .int .i64 x.seq, .int .i64 x.ack, .int .i64 x.bits, .int .i64 x.window, .int .i64 x.urgent, .int .i64 x.ty, .int .i64 x.code, .int .i64 x.rest, .bool x.nosum, .slice O os.length oc, .slice D0 ds.length d0] 36))
  have R1 := Lib.hid (K.old (K.kept hg2 R0_.out (fun k hk => by cases hk; omega)) (.cells #[.int .i64 x.kind, .int .i64 x.sport, .int .i64 x.dport, .int .i64 x.seq, .int .i64 x.ack, .int .i64 x.bits, .int .i64 x.window, .int .i64 x.urgent, .int .i64 x.ty, .int .i64 x.code, .int .i64 x.rest, .bool x.nosum, .slice O os.length oc, .slice D0 ds.length d0] 36))
  have C1 := Lib.hid (hc2.below (Joins.below_alloc1 w1 (.cells #[.int .i64 x.kind, .int .i64 x.sport, .int .i64 x.dport, .int .i64 x.seq, .int .i64 x.ack, .int .i64 x.bits, .int .i64 x.window, .int .i64 x.urgent, .int .i64 x.ty, .int .i64 x.code, .int .i64 x.rest, .bool x.nosum, .slice O os.length oc, .slice D0 ds.length d0] 36)))
  have G1 := Lib.hid (only_new (grownBy_trans (only_new (K.refl w (some g)) (.cells #[.int .i64 0, .int .i64 0, .int .i64 0, .int .i64 0, .int .i64 0, .int .i64 0, .int .i64 0, .int .i64 0, .int .i64 0, .int .i64 0, .int .i64 0, .bool false, .slice none 0 0, .slice none 0 0] 36)) hg2) (.cells #[.int .i64 x.kind, .int .i64 x.sport, .int .i64 x.dport, .int .i64 x.seq, .int .i64 x.ack, .int .i64 x.bits, .int .i64 x.window, .int .i64 x.urgent, .int .i64 x.ty, .int .i64 x.code, .int .i64 x.rest, .bool x.nosum, .slice O os.length oc, .slice D0 ds.length d0] 36))
  have B1 := Lib.hid (World.ownsRow.alloc (own_base od (show w.heap.size + 1 ≤ _ by simp)) (.cells #[.int .i64 x.kind, .int .i64 x.sport, .int .i64 x.dport, .int .i64 x.seq, .int .i64 x.ack, .int .i64 x.bits, .int .i64 x.window, .int .i64 x.urgent, .int .i64 x.ty, .int .i64 x.code, .int .i64 x.rest, .bool x.nosum, .slice O os.length oc, .slice D0 ds.length d0] 36))
  have O1 := Lib.hid (World.ownsRow.alloc (own_base oo (show w.heap.size + 1 ≤ _ by simp)) (.cells #[.int .i64 x.kind, .int .i64 x.sport, .int .i64 x.dport, .int .i64 x.seq, .int .i64 x.ack, .int .i64 x.bits, .int .i64 x.window, .int .i64 x.urgent, .int .i64 x.ty, .int .i64 x.code, .int .i64 x.rest, .bool x.nosum, .slice O os.length oc, .slice D0 ds.length d0] 36))
  have NB := Lib.hid (fun k (hk : (Value.slice D0 ds.length d0).ownBlock = some k) => show k ≠ w1.heap.size by have := (od.lt k hk).2; omega)
  have NO := Lib.hid (fun k (hk : (Value.slice O os.length oc).ownBlock = some k) => show k ≠ w1.heap.size by have := (oo.lt k hk).2; omega)
  have AP := Lib.hid ap
  clear od oo ap hc2 hg2 HC0 R0_
  go_wp2_with (with_reducible refine storeNewU rfl _ _ rfl rfl rfl ?_)
  generalize (w1.alloc (.cells #[.int .i64 x.kind, .int .i64 x.sport, .int .i64 x.dport, .int .i64 x.seq, .int .i64 x.ack, .int .i64 x.bits, .int .i64 x.window, .int .i64 x.urgent, .int .i64 x.ty, .int .i64 x.code, .int .i64 x.rest, .bool x.nosum, .slice O os.length oc, .slice D0 ds.length d0] 36)) = w2 at q1 R1 C1 G1 B1 O1 ⊢
  refine Calls.mono (HK.out _ g A c C1.out) ?_
  rintro e w3 ⟨rfl, hc2, hg2⟩
  have q2 := Lib.hid (K.kept hg2 q1.out (fun k hk => by cases hk; omega))
  have R2 := Lib.hid (K.kept hg2 R1.out (fun k hk => by cases hk; omega))
  have C2 := Lib.hid hc2
  have G2 := Lib.hid (grownBy_trans G1.out hg2)
  have B2 := Lib.hid (own_grown B1.out hg2 (fun k h1 h2 => by cases h2; have := (B1.out.lt _ h1).1; omega))
  have O2 := Lib.hid (own_grown O1.out hg2 (fun k h1 h2 => by cases h2; have := (O1.out.lt _ h1).1; omega))
  clear hc2 hg2 q1 R1 C1 G1 B1 O1
  go_wp2_with fail
  refine Calls.mono (H3.out _ g A c C2.out) ?_
  rintro e w4 ⟨rfl, hc2, hg2⟩
  have q3 := Lib.hid (K.kept hg2 q2.out (fun k hk => by cases hk; omega))
  have R3 := Lib.hid (K.kept hg2 R2.out (fun k hk => by cases hk; omega))
  have C3 := Lib.hid hc2
  have G3 := Lib.hid (grownBy_trans G2.out hg2)
  have B3 := Lib.hid (own_grown B2.out hg2 (fun k h1 h2 => by cases h2; have := (B2.out.lt _ h1).1; omega))
  have O3 := Lib.hid (own_grown O2.out hg2 (fun k h1 h2 => by cases h2; have := (O2.out.lt _ h1).1; omega))
  clear hc2 hg2 q2 R2 C2 G2 B2 O2
  have gk := C3.out.lt
  have q4 := Lib.hid (K.old q3.out (.cells #[.int .i64 x3, .int .i64 65535, .int .i64 65536] 3))
  have R4 := Lib.hid (K.old R3.out (.cells #[.int .i64 x3, .int .i64 65535, .int .i64 65536] 3))
  have C4 := Lib.hid (C3.out.below (Joins.below_alloc1 w4 (.cells #[.int .i64 x3, .int .i64 65535, .int .i64 65536] 3)))
  have G4 := Lib.hid (only_new G3.out (.cells #[.int .i64 x3, .int .i64 65535, .int .i64 65536] 3))
  have B4 := Lib.hid (World.ownsRow.alloc B3.out (.cells #[.int .i64 x3, .int .i64 65535, .int .i64 65536] 3))
  have O4 := Lib.hid (World.ownsRow.alloc O3.out (.cells #[.int .i64 x3, .int .i64 65535, .int .i64 65536] 3))
  go_wp2_with fail
  clear q3 R3 C3 G3 B3 O3
  refine Calls.mono (H4.out _ g A c C4.out) ?_
  rintro e w5 ⟨rfl, hc2, hg2⟩
  have q5 := Lib.hid (K.kept hg2 q4.out (fun k hk => by cases hk; omega))
  have R5 := Lib.hid (K.kept hg2 R4.out (fun k hk => by cases hk; omega))
  have C5 := Lib.hid hc2
  have G5 := Lib.hid (grownBy_trans G4.out hg2)
  have B5 := Lib.hid (own_grown B4.out hg2 (fun k h1 h2 => by cases h2; have := (B4.out.lt _ h1).1; omega))
  have O5 := Lib.hid (own_grown O4.out hg2 (fun k h1 h2 => by cases h2; have := (O4.out.lt _ h1).1; omega))
  have cf := hg2.cell (K.row_cells w4 [x3, 65535, 65536] _ rfl 3 y4 u4 HU4.out) (fun e => by have e2 : w4.heap.size = g := Option.some.inj e; omega)
  clear hc2 hg2 q4 R4 C4 G4 B4 O4
  have uu := K.cell q5.out 1 _ rfl
  have yy := frozen_of_row _ _ 1 _ _ q5.out
  have hyt : (y4 : Int) < 3 := by omega
  have q6 : Hid ((w5.setCell ⟨w1.heap.size, 1, none⟩ (.int .i64 u4)).heap[w1.heap.size]? = some (.cells #[.int .i64 x.kind, .int .i64 u4, .int .i64 x.dport, .int .i64 x.seq, .int .i64 x.ack, .int .i64 x.bits, .int .i64 x.window, .int .i64 x.urgent, .int .i64 x.ty, .int .i64 x.code, .int .i64 x.rest, .bool x.nosum, .slice O os.length oc, .slice D0 ds.length d0] 36 (0, 0))) := Lib.hid (K.set q5.out 1 _)
  have R6 := Lib.hid (K.other R5.out w1.heap.size 1 (.int .i64 u4) (by omega))
  have C6 := Lib.hid (C5.out.grownBy (grownBy_set w5 w1.heap.size 1 (.int .i64 u4)) (fun u hu => by cases hu; omega))
  have G6 := Lib.hid (grown_other G5.out (grownBy_set w5 w1.heap.size 1 (.int .i64 u4)) (fun u hu => by cases hu; omega))
  have B6 := Lib.hid (own_grown B5.out (grownBy_set w5 w1.heap.size 1 (.int .i64 u4)) (fun k h1 h2 => by cases h2; exact NB.out _ h1 rfl))
  have O6 := Lib.hid (own_grown O5.out (grownBy_set w5 w1.heap.size 1 (.int .i64 u4)) (fun k h1 h2 => by cases h2; exact NO.out _ h1 rfl))
  go_upto_region 19 with fail
  clear uu yy cf gk q5 R5 C5 G5 B5 O5
  generalize (w5.setCell ⟨w1.heap.size, 1, none⟩ (.int .i64 u4)) = w6 at q6 R6 C6 G6 B6 O6 ⊢
  go_wp2_with (first | (with_reducible refine loadU rfl _ rfl w1.heap.size rfl q6.out ?_) | (with_reducible refine storeU rfl _ _ rfl w.heap.size rfl rfl R6.out ?_))
  (try simp only [Exit.inBlock, Exit.then])
  refine bodyPost_ret (v := .agg #[.int .i64 x.kind, .int .i64 u4, .int .i64 x.dport, .int .i64 x.seq, .int .i64 x.ack, .int .i64 x.bits, .int .i64 x.window, .int .i64 x.urgent, .int .i64 x.ty, .int .i64 x.code, .int .i64 x.rest, .bool x.nosum, .slice O os.length oc, .slice D0 ds.length d0]) ?_ rfl ⟨O, oc, D0, d0, rfl, ?_, ?_, AP.out, ?_, ?_⟩
  · exact resU Try.results56 _ _ w.heap.size rfl (setRow_heap _ _ _ _ _ _ R6.out)
  · exact own_base (base' := w.heap.size) (own_grown O6.out (K.setRow_grown w6 w.heap.size #[.int .i64 x.kind, .int .i64 u4, .int .i64 x.dport, .int .i64 x.seq, .int .i64 x.ack, .int .i64 x.bits, .int .i64 x.window, .int .i64 x.urgent, .int .i64 x.ty, .int .i64 x.code, .int .i64 x.rest, .bool x.nosum, .slice O os.length oc, .slice D0 ds.length d0]) (fun k h1 h2 => by cases h2; have := (O6.out.lt _ h1).1; omega)) (by omega)
  · exact own_base (base' := w.heap.size) (own_grown B6.out (K.setRow_grown w6 w.heap.size #[.int .i64 x.kind, .int .i64 u4, .int .i64 x.dport, .int .i64 x.seq, .int .i64 x.ack, .int .i64 x.bits, .int .i64 x.window, .int .i64 x.urgent, .int .i64 x.ty, .int .i64 x.code, .int .i64 x.rest, .bool x.nosum, .slice O os.length oc, .slice D0 ds.length d0]) (fun k h1 h2 => by cases h2; have := (B6.out.lt _ h1).1; omega)) (by omega)
  · exact C6.out.grownBy (K.setRow_grown _ _ _) (fun u hu => by cases hu; omega)
  · exact grown_other G6.out (K.setRow_grown _ _ _) (fun u hu => by cases hu; omega)

set_option maxHeartbeats 4000000 in
theorem badUp_1 (want k : Int) (bs : List UInt8) (t s : Nat) (ht : t ≤ 700000000000) (x : Uh) (os ds : List UInt8) (t1 s1 : Nat) (hos : os.length ≤ 40) (hds : ds.length ≤ 40) (ht1 : t1 ≤ t + 100) (HF : Hid (∀ (w : World) (g : Nat) (A : Option Addr) (c : Nat), CurS w g A c bs t s → Calls Try.prog 95 #[.pointer (some ⟨g, 0, none⟩), .int .i64 want, .int .i64 k] w (GivesUp w g A c bs t1 s1 x os ds))) (q : Int) (s2 : Nat) (hq : q = 1) (HK : Hid (∀ (w : World) (g : Nat) (A : Option Addr) (c : Nat), CurS w g A c bs t1 s1 → Calls Try.prog 57 #[.pointer (some ⟨g, 0, none⟩), .int .i64 14] w (Gives w g A c bs (t1 + 1) s2 q))) :
    ∃ (x : Uh) (os ds : List UInt8) (t' s' : Nat), os.length ≤ 45 ∧ ds.length ≤ 1500 ∧ t' ≤ t + 200 ∧ ∀ (w : World) (g : Nat) (A : Option Addr) (c : Nat), CurS w g A c bs t s → Calls Try.prog 56 #[.pointer (some ⟨g, 0, none⟩), .int .i64 want, .int .i64 k] w (GivesUp w g A c bs t' s' x os ds) := by
  subst hq
  obtain ⟨x3, s13, hd3⟩ := rawE bs (t1 + 1) s2 (by omega)
  have H3 := Lib.hid hd3
  clear hd3
  refine ⟨⟨x.kind, x.sport, x.dport, x3, x.ack, x.bits, x.window, x.urgent, x.ty, x.code, x.rest, x.nosum⟩, os, ds, t1 + 1 + 2, s13, by omega, by omega, by omega, fun w g A c hc0 => ?_⟩
  have hgl := hc0.lt
  have HC0 := Lib.hid (hc0.below (Joins.below_alloc1 w (.cells #[.int .i64 0, .int .i64 0, .int .i64 0, .int .i64 0, .int .i64 0, .int .i64 0, .int .i64 0, .int .i64 0, .int .i64 0, .int .i64 0, .int .i64 0, .bool false, .slice none 0 0, .slice none 0 0] 36)))
  have R0_ := Lib.hid (K.new w (.cells #[.int .i64 0, .int .i64 0, .int .i64 0, .int .i64 0, .int .i64 0, .int .i64 0, .int .i64 0, .int .i64 0, .int .i64 0, .int .i64 0, .int .i64 0, .bool false, .slice none 0 0, .slice none 0 0] 36))
  clear hc0
  go_enter Try.func56, Try.ntmps56
  go_wp2_with fail
  refine Calls.mono (HF.out _ g A c HC0.out) ?_
  rintro e w1 ⟨O, oc, D0, d0, rfl, oo, od, ap, hc2, hg2⟩
  have hb : w.heap.size < w1.heap.size := by have := hg2.size; simp at this; omega
  have q1 := Lib.hid (K.new w1 (.cells #[.int .i64 x.kind, .int .i64 x.sport, .int .i64 x.dport, .int .i64 x.seq, .int .i64 x.ack, .int .i64 x.bits, .int .i64 x.window, .int .i64 x.urgent, .int .i64 x.ty, .int .i64 x.code, .int .i64 x.rest, .bool x.nosum, .slice O os.length oc, .slice D0 ds.length d0] 36))
  have R1 := Lib.hid (K.old (K.kept hg2 R0_.out (fun k hk => by cases hk; omega)) (.cells #[.int .i64 x.kind, .int .i64 x.sport, .int .i64 x.dport, .int .i64 x.seq, .int .i64 x.ack, .int .i64 x.bits, .int .i64 x.window, .int .i64 x.urgent, .int .i64 x.ty, .int .i64 x.code, .int .i64 x.rest, .bool x.nosum, .slice O os.length oc, .slice D0 ds.length d0] 36))
  have C1 := Lib.hid (hc2.below (Joins.below_alloc1 w1 (.cells #[.int .i64 x.kind, .int .i64 x.sport, .int .i64 x.dport, .int .i64 x.seq, .int .i64 x.ack, .int .i64 x.bits, .int .i64 x.window, .int .i64 x.urgent, .int .i64 x.ty, .int .i64 x.code, .int .i64 x.rest, .bool x.nosum, .slice O os.length oc, .slice D0 ds.length d0] 36)))
  have G1 := Lib.hid (only_new (grownBy_trans (only_new (K.refl w (some g)) (.cells #[.int .i64 0, .int .i64 0, .int .i64 0, .int .i64 0, .int .i64 0, .int .i64 0, .int .i64 0, .int .i64 0, .int .i64 0, .int .i64 0, .int .i64 0, .bool false, .slice none 0 0, .slice none 0 0] 36)) hg2) (.cells #[.int .i64 x.kind, .int .i64 x.sport, .int .i64 x.dport, .int .i64 x.seq, .int .i64 x.ack, .int .i64 x.bits, .int .i64 x.window, .int .i64 x.urgent, .int .i64 x.ty, .int .i64 x.code, .int .i64 x.rest, .bool x.nosum, .slice O os.length oc, .slice D0 ds.length d0] 36))
  have B1 := Lib.hid (World.ownsRow.alloc (own_base od (show w.heap.size + 1 ≤ _ by simp)) (.cells #[.int .i64 x.kind, .int .i64 x.sport, .int .i64 x.dport, .int .i64 x.seq, .int .i64 x.ack, .int .i64 x.bits, .int .i64 x.window, .int .i64 x.urgent, .int .i64 x.ty, .int .i64 x.code, .int .i64 x.rest, .bool x.nosum, .slice O os.length oc, .slice D0 ds.length d0] 36))
  have O1 := Lib.hid (World.ownsRow.alloc (own_base oo (show w.heap.size + 1 ≤ _ by simp)) (.cells #[.int .i64 x.kind, .int .i64 x.sport, .int .i64 x.dport, .int .i64 x.seq, .int .i64 x.ack, .int .i64 x.bits, .int .i64 x.window, .int .i64 x.urgent, .int .i64 x.ty, .int .i64 x.code, .int .i64 x.rest, .bool x.nosum, .slice O os.length oc, .slice D0 ds.length d0] 36))
  have NB := Lib.hid (fun k (hk : (Value.slice D0 ds.length d0).ownBlock = some k) => show k ≠ w1.heap.size by have := (od.lt k hk).2; omega)
  have NO := Lib.hid (fun k (hk : (Value.slice O os.length oc).ownBlock = some k) => show k ≠ w1.heap.size by have := (oo.lt k hk).2; omega)
  have AP := Lib.hid ap
  clear od oo ap hc2 hg2 HC0 R0_
  go_wp2_with (with_reducible refine storeNewU rfl _ _ rfl rfl rfl ?_)
  generalize (w1.alloc (.cells #[.int .i64 x.kind, .int .i64 x.sport, .int .i64 x.dport, .int .i64 x.seq, .int .i64 x.ack, .int .i64 x.bits, .int .i64 x.window, .int .i64 x.urgent, .int .i64 x.ty, .int .i64 x.code, .int .i64 x.rest, .bool x.nosum, .slice O os.length oc, .slice D0 ds.length d0] 36)) = w2 at q1 R1 C1 G1 B1 O1 ⊢
  refine Calls.mono (HK.out _ g A c C1.out) ?_
  rintro e w3 ⟨rfl, hc2, hg2⟩
  have q2 := Lib.hid (K.kept hg2 q1.out (fun k hk => by cases hk; omega))
  have R2 := Lib.hid (K.kept hg2 R1.out (fun k hk => by cases hk; omega))
  have C2 := Lib.hid hc2
  have G2 := Lib.hid (grownBy_trans G1.out hg2)
  have B2 := Lib.hid (own_grown B1.out hg2 (fun k h1 h2 => by cases h2; have := (B1.out.lt _ h1).1; omega))
  have O2 := Lib.hid (own_grown O1.out hg2 (fun k h1 h2 => by cases h2; have := (O1.out.lt _ h1).1; omega))
  clear hc2 hg2 q1 R1 C1 G1 B1 O1
  go_wp2_with fail
  refine Calls.mono (H3.out _ g A c C2.out) ?_
  rintro e w4 ⟨rfl, hc2, hg2⟩
  have q3 := Lib.hid (K.kept hg2 q2.out (fun k hk => by cases hk; omega))
  have R3 := Lib.hid (K.kept hg2 R2.out (fun k hk => by cases hk; omega))
  have C3 := Lib.hid hc2
  have G3 := Lib.hid (grownBy_trans G2.out hg2)
  have B3 := Lib.hid (own_grown B2.out hg2 (fun k h1 h2 => by cases h2; have := (B2.out.lt _ h1).1; omega))
  have O3 := Lib.hid (own_grown O2.out hg2 (fun k h1 h2 => by cases h2; have := (O2.out.lt _ h1).1; omega))
  clear hc2 hg2 q2 R2 C2 G2 B2 O2
  have uu := K.cell q3.out 3 _ rfl
  have yy := frozen_of_row _ _ 3 _ _ q3.out
  have q4 : Hid ((w4.setCell ⟨w1.heap.size, 3, none⟩ (.int .i64 x3)).heap[w1.heap.size]? = some (.cells #[.int .i64 x.kind, .int .i64 x.sport, .int .i64 x.dport, .int .i64 x3, .int .i64 x.ack, .int .i64 x.bits, .int .i64 x.window, .int .i64 x.urgent, .int .i64 x.ty, .int .i64 x.code, .int .i64 x.rest, .bool x.nosum, .slice O os.length oc, .slice D0 ds.length d0] 36 (0, 0))) := Lib.hid (K.set q3.out 3 _)
  have R4 := Lib.hid (K.other R3.out w1.heap.size 3 (.int .i64 x3) (by omega))
  have C4 := Lib.hid (C3.out.grownBy (grownBy_set w4 w1.heap.size 3 (.int .i64 x3)) (fun u hu => by cases hu; omega))
  have G4 := Lib.hid (grown_other G3.out (grownBy_set w4 w1.heap.size 3 (.int .i64 x3)) (fun u hu => by cases hu; omega))
  have B4 := Lib.hid (own_grown B3.out (grownBy_set w4 w1.heap.size 3 (.int .i64 x3)) (fun k h1 h2 => by cases h2; exact NB.out _ h1 rfl))
  have O4 := Lib.hid (own_grown O3.out (grownBy_set w4 w1.heap.size 3 (.int .i64 x3)) (fun k h1 h2 => by cases h2; exact NO.out _ h1 rfl))
  go_upto_region 19 with fail
  clear uu yy q3 R3 C3 G3 B3 O3
  generalize (w4.setCell ⟨w1.heap.size, 3, none⟩ (.int .i64 x3)) = w5 at q4 R4 C4 G4 B4 O4 ⊢
  go_wp2_with (first | (with_reducible refine loadU rfl _ rfl w1.heap.size rfl q4.out ?_) | (with_reducible refine storeU rfl _ _ rfl w.heap.size rfl rfl R4.out ?_))
  (try simp only [Exit.inBlock, Exit.then])
  refine bodyPost_ret (v := .agg #[.int .i64 x.kind, .int .i64 x.sport, .int .i64 x.dport, .int .i64 x3, .int .i64 x.ack, .int .i64 x.bits, .int .i64 x.window, .int .i64 x.urgent, .int .i64 x.ty, .int .i64 x.code, .int .i64 x.rest, .bool x.nosum, .slice O os.length oc, .slice D0 ds.length d0]) ?_ rfl ⟨O, oc, D0, d0, rfl, ?_, ?_, AP.out, ?_, ?_⟩
  · exact resU Try.results56 _ _ w.heap.size rfl (setRow_heap _ _ _ _ _ _ R4.out)
  · exact own_base (base' := w.heap.size) (own_grown O4.out (K.setRow_grown w5 w.heap.size #[.int .i64 x.kind, .int .i64 x.sport, .int .i64 x.dport, .int .i64 x3, .int .i64 x.ack, .int .i64 x.bits, .int .i64 x.window, .int .i64 x.urgent, .int .i64 x.ty, .int .i64 x.code, .int .i64 x.rest, .bool x.nosum, .slice O os.length oc, .slice D0 ds.length d0]) (fun k h1 h2 => by cases h2; have := (O4.out.lt _ h1).1; omega)) (by omega)
  · exact own_base (base' := w.heap.size) (own_grown B4.out (K.setRow_grown w5 w.heap.size #[.int .i64 x.kind, .int .i64 x.sport, .int .i64 x.dport, .int .i64 x3, .int .i64 x.ack, .int .i64 x.bits, .int .i64 x.window, .int .i64 x.urgent, .int .i64 x.ty, .int .i64 x.code, .int .i64 x.rest, .bool x.nosum, .slice O os.length oc, .slice D0 ds.length d0]) (fun k h1 h2 => by cases h2; have := (B4.out.lt _ h1).1; omega)) (by omega)
  · exact C4.out.grownBy (K.setRow_grown _ _ _) (fun u hu => by cases hu; omega)
  · exact grown_other G4.out (K.setRow_grown _ _ _) (fun u hu => by cases hu; omega)

set_option maxHeartbeats 4000000 in
theorem badUp_2 (want k : Int) (bs : List UInt8) (t s : Nat) (ht : t ≤ 700000000000) (x : Uh) (os ds : List UInt8) (t1 s1 : Nat) (hos : os.length ≤ 40) (hds : ds.length ≤ 40) (ht1 : t1 ≤ t + 100) (HF : Hid (∀ (w : World) (g : Nat) (A : Option Addr) (c : Nat), CurS w g A c bs t s → Calls Try.prog 95 #[.pointer (some ⟨g, 0, none⟩), .int .i64 want, .int .i64 k] w (GivesUp w g A c bs t1 s1 x os ds))) (q : Int) (s2 : Nat) (hq : q = 2) (HK : Hid (∀ (w : World) (g : Nat) (A : Option Addr) (c : Nat), CurS w g A c bs t1 s1 → Calls Try.prog 57 #[.pointer (some ⟨g, 0, none⟩), .int .i64 14] w (Gives w g A c bs (t1 + 1) s2 q))) :
    ∃ (x : Uh) (os ds : List UInt8) (t' s' : Nat), os.length ≤ 45 ∧ ds.length ≤ 1500 ∧ t' ≤ t + 200 ∧ ∀ (w : World) (g : Nat) (A : Option Addr) (c : Nat), CurS w g A c bs t s → Calls Try.prog 56 #[.pointer (some ⟨g, 0, none⟩), .int .i64 want, .int .i64 k] w (GivesUp w g A c bs t' s' x os ds) := by
  subst hq
  obtain ⟨x3, s13, hd3⟩ := rawE bs (t1 + 1) s2 (by omega)
  have H3 := Lib.hid hd3
  clear hd3
  obtain ⟨x4, s14, lo4, up4, hd4⟩ := pickE bs (t1 + 1 + 2) s13 3 (by omega) (by omega) (by omega)
  have H4 := Lib.hid hd4
  clear hd4
  obtain ⟨y4, rfl⟩ : ∃ k : Nat, x4 = k := ⟨x4.toNat, by omega⟩
  obtain ⟨u4, hu4⟩ : ∃ a, ([x3, 4095, 4096] : List Int)[y4]? = some a := ⟨_, List.getElem?_eq_getElem (by simp; omega)⟩
  have HU4 := Lib.hid hu4
  clear hu4
  refine ⟨⟨x.kind, x.sport, x.dport, x.seq, x.ack, u4, x.window, x.urgent, x.ty, x.code, x.rest, x.nosum⟩, os, ds, t1 + 1 + 2 + 1, s14, by omega, by omega, by omega, fun w g A c hc0 => ?_⟩
  have hgl := hc0.lt
  have HC0 := Lib.hid (hc0.below (Joins.below_alloc1 w (.cells #[.int .i64 0, .int .i64 0, .int .i64 0, .int .i64 0, .int .i64 0, .int .i64 0, .int .i64 0, .int .i64 0, .int .i64 0, .int .i64 0, .int .i64 0, .bool false, .slice none 0 0, .slice none 0 0] 36)))
  have R0_ := Lib.hid (K.new w (.cells #[.int .i64 0, .int .i64 0, .int .i64 0, .int .i64 0, .int .i64 0, .int .i64 0, .int .i64 0, .int .i64 0, .int .i64 0, .int .i64 0, .int .i64 0, .bool false, .slice none 0 0, .slice none 0 0] 36))
  clear hc0
  go_enter Try.func56, Try.ntmps56
  go_wp2_with fail
  refine Calls.mono (HF.out _ g A c HC0.out) ?_
  rintro e w1 ⟨O, oc, D0, d0, rfl, oo, od, ap, hc2, hg2⟩
  have hb : w.heap.size < w1.heap.size := by have := hg2.size; simp at this; omega
  have q1 := Lib.hid (K.new w1 (.cells #[.int .i64 x.kind, .int .i64 x.sport, .int .i64 x.dport, .int .i64 x.seq, .int .i64 x.ack, .int .i64 x.bits, .int .i64 x.window, .int .i64 x.urgent, .int .i64 x.ty, .int .i64 x.code, .int .i64 x.rest, .bool x.nosum, .slice O os.length oc, .slice D0 ds.length d0] 36))
  have R1 := Lib.hid (K.old (K.kept hg2 R0_.out (fun k hk => by cases hk; omega)) (.cells #[.int .i64 x.kind, .int .i64 x.sport, .int .i64 x.dport, .int .i64 x.seq, .int .i64 x.ack, .int .i64 x.bits, .int .i64 x.window, .int .i64 x.urgent, .int .i64 x.ty, .int .i64 x.code, .int .i64 x.rest, .bool x.nosum, .slice O os.length oc, .slice D0 ds.length d0] 36))
  have C1 := Lib.hid (hc2.below (Joins.below_alloc1 w1 (.cells #[.int .i64 x.kind, .int .i64 x.sport, .int .i64 x.dport, .int .i64 x.seq, .int .i64 x.ack, .int .i64 x.bits, .int .i64 x.window, .int .i64 x.urgent, .int .i64 x.ty, .int .i64 x.code, .int .i64 x.rest, .bool x.nosum, .slice O os.length oc, .slice D0 ds.length d0] 36)))
  have G1 := Lib.hid (only_new (grownBy_trans (only_new (K.refl w (some g)) (.cells #[.int .i64 0, .int .i64 0, .int .i64 0, .int .i64 0, .int .i64 0, .int .i64 0, .int .i64 0, .int .i64 0, .int .i64 0, .int .i64 0, .int .i64 0, .bool false, .slice none 0 0, .slice none 0 0] 36)) hg2) (.cells #[.int .i64 x.kind, .int .i64 x.sport, .int .i64 x.dport, .int .i64 x.seq, .int .i64 x.ack, .int .i64 x.bits, .int .i64 x.window, .int .i64 x.urgent, .int .i64 x.ty, .int .i64 x.code, .int .i64 x.rest, .bool x.nosum, .slice O os.length oc, .slice D0 ds.length d0] 36))
  have B1 := Lib.hid (World.ownsRow.alloc (own_base od (show w.heap.size + 1 ≤ _ by simp)) (.cells #[.int .i64 x.kind, .int .i64 x.sport, .int .i64 x.dport, .int .i64 x.seq, .int .i64 x.ack, .int .i64 x.bits, .int .i64 x.window, .int .i64 x.urgent, .int .i64 x.ty, .int .i64 x.code, .int .i64 x.rest, .bool x.nosum, .slice O os.length oc, .slice D0 ds.length d0] 36))
  have O1 := Lib.hid (World.ownsRow.alloc (own_base oo (show w.heap.size + 1 ≤ _ by simp)) (.cells #[.int .i64 x.kind, .int .i64 x.sport, .int .i64 x.dport, .int .i64 x.seq, .int .i64 x.ack, .int .i64 x.bits, .int .i64 x.window, .int .i64 x.urgent, .int .i64 x.ty, .int .i64 x.code, .int .i64 x.rest, .bool x.nosum, .slice O os.length oc, .slice D0 ds.length d0] 36))
  have NB := Lib.hid (fun k (hk : (Value.slice D0 ds.length d0).ownBlock = some k) => show k ≠ w1.heap.size by have := (od.lt k hk).2; omega)
  have NO := Lib.hid (fun k (hk : (Value.slice O os.length oc).ownBlock = some k) => show k ≠ w1.heap.size by have := (oo.lt k hk).2; omega)
  have AP := Lib.hid ap
  clear od oo ap hc2 hg2 HC0 R0_
  go_wp2_with (with_reducible refine storeNewU rfl _ _ rfl rfl rfl ?_)
  generalize (w1.alloc (.cells #[.int .i64 x.kind, .int .i64 x.sport, .int .i64 x.dport, .int .i64 x.seq, .int .i64 x.ack, .int .i64 x.bits, .int .i64 x.window, .int .i64 x.urgent, .int .i64 x.ty, .int .i64 x.code, .int .i64 x.rest, .bool x.nosum, .slice O os.length oc, .slice D0 ds.length d0] 36)) = w2 at q1 R1 C1 G1 B1 O1 ⊢
  refine Calls.mono (HK.out _ g A c C1.out) ?_
  rintro e w3 ⟨rfl, hc2, hg2⟩
  have q2 := Lib.hid (K.kept hg2 q1.out (fun k hk => by cases hk; omega))
  have R2 := Lib.hid (K.kept hg2 R1.out (fun k hk => by cases hk; omega))
  have C2 := Lib.hid hc2
  have G2 := Lib.hid (grownBy_trans G1.out hg2)
  have B2 := Lib.hid (own_grown B1.out hg2 (fun k h1 h2 => by cases h2; have := (B1.out.lt _ h1).1; omega))
  have O2 := Lib.hid (own_grown O1.out hg2 (fun k h1 h2 => by cases h2; have := (O1.out.lt _ h1).1; omega))
  clear hc2 hg2 q1 R1 C1 G1 B1 O1
  go_wp2_with fail
  refine Calls.mono (H3.out _ g A c C2.out) ?_
  rintro e w4 ⟨rfl, hc2, hg2⟩
  have q3 := Lib.hid (K.kept hg2 q2.out (fun k hk => by cases hk; omega))
  have R3 := Lib.hid (K.kept hg2 R2.out (fun k hk => by cases hk; omega))
  have C3 := Lib.hid hc2
  have G3 := Lib.hid (grownBy_trans G2.out hg2)
  have B3 := Lib.hid (own_grown B2.out hg2 (fun k h1 h2 => by cases h2; have := (B2.out.lt _ h1).1; omega))
  have O3 := Lib.hid (own_grown O2.out hg2 (fun k h1 h2 => by cases h2; have := (O2.out.lt _ h1).1; omega))
  clear hc2 hg2 q2 R2 C2 G2 B2 O2
  have gk := C3.out.lt
  have q4 := Lib.hid (K.old q3.out (.cells #[.int .i64 x3, .int .i64 4095, .int .i64 4096] 3))
  have R4 := Lib.hid (K.old R3.out (.cells #[.int .i64 x3, .int .i64 4095, .int .i64 4096] 3))
  have C4 := Lib.hid (C3.out.below (Joins.below_alloc1 w4 (.cells #[.int .i64 x3, .int .i64 4095, .int .i64 4096] 3)))
  have G4 := Lib.hid (only_new G3.out (.cells #[.int .i64 x3, .int .i64 4095, .int .i64 4096] 3))
  have B4 := Lib.hid (World.ownsRow.alloc B3.out (.cells #[.int .i64 x3, .int .i64 4095, .int .i64 4096] 3))
  have O4 := Lib.hid (World.ownsRow.alloc O3.out (.cells #[.int .i64 x3, .int .i64 4095, .int .i64 4096] 3))
  go_wp2_with fail
  clear q3 R3 C3 G3 B3 O3
  refine Calls.mono (H4.out _ g A c C4.out) ?_
  rintro e w5 ⟨rfl, hc2, hg2⟩
  have q5 := Lib.hid (K.kept hg2 q4.out (fun k hk => by cases hk; omega))
  have R5 := Lib.hid (K.kept hg2 R4.out (fun k hk => by cases hk; omega))
  have C5 := Lib.hid hc2
  have G5 := Lib.hid (grownBy_trans G4.out hg2)
  have B5 := Lib.hid (own_grown B4.out hg2 (fun k h1 h2 => by cases h2; have := (B4.out.lt _ h1).1; omega))
  have O5 := Lib.hid (own_grown O4.out hg2 (fun k h1 h2 => by cases h2; have := (O4.out.lt _ h1).1; omega))
  have cf := hg2.cell (K.row_cells w4 [x3, 4095, 4096] _ rfl 3 y4 u4 HU4.out) (fun e => by have e2 : w4.heap.size = g := Option.some.inj e; omega)
  clear hc2 hg2 q4 R4 C4 G4 B4 O4
  have uu := K.cell q5.out 5 _ rfl
  have yy := frozen_of_row _ _ 5 _ _ q5.out
  have hyt : (y4 : Int) < 3 := by omega
  have q6 : Hid ((w5.setCell ⟨w1.heap.size, 5, none⟩ (.int .i64 u4)).heap[w1.heap.size]? = some (.cells #[.int .i64 x.kind, .int .i64 x.sport, .int .i64 x.dport, .int .i64 x.seq, .int .i64 x.ack, .int .i64 u4, .int .i64 x.window, .int .i64 x.urgent, .int .i64 x.ty, .int .i64 x.code, .int .i64 x.rest, .bool x.nosum, .slice O os.length oc, .slice D0 ds.length d0] 36 (0, 0))) := Lib.hid (K.set q5.out 5 _)
  have R6 := Lib.hid (K.other R5.out w1.heap.size 5 (.int .i64 u4) (by omega))
  have C6 := Lib.hid (C5.out.grownBy (grownBy_set w5 w1.heap.size 5 (.int .i64 u4)) (fun u hu => by cases hu; omega))
  have G6 := Lib.hid (grown_other G5.out (grownBy_set w5 w1.heap.size 5 (.int .i64 u4)) (fun u hu => by cases hu; omega))
  have B6 := Lib.hid (own_grown B5.out (grownBy_set w5 w1.heap.size 5 (.int .i64 u4)) (fun k h1 h2 => by cases h2; exact NB.out _ h1 rfl))
  have O6 := Lib.hid (own_grown O5.out (grownBy_set w5 w1.heap.size 5 (.int .i64 u4)) (fun k h1 h2 => by cases h2; exact NO.out _ h1 rfl))
  go_upto_region 19 with fail
  clear uu yy cf gk q5 R5 C5 G5 B5 O5
  generalize (w5.setCell ⟨w1.heap.size, 5, none⟩ (.int .i64 u4)) = w6 at q6 R6 C6 G6 B6 O6 ⊢
  go_wp2_with (first | (with_reducible refine loadU rfl _ rfl w1.heap.size rfl q6.out ?_) | (with_reducible refine storeU rfl _ _ rfl w.heap.size rfl rfl R6.out ?_))
  (try simp only [Exit.inBlock, Exit.then])
  refine bodyPost_ret (v := .agg #[.int .i64 x.kind, .int .i64 x.sport, .int .i64 x.dport, .int .i64 x.seq, .int .i64 x.ack, .int .i64 u4, .int .i64 x.window, .int .i64 x.urgent, .int .i64 x.ty, .int .i64 x.code, .int .i64 x.rest, .bool x.nosum, .slice O os.length oc, .slice D0 ds.length d0]) ?_ rfl ⟨O, oc, D0, d0, rfl, ?_, ?_, AP.out, ?_, ?_⟩
  · exact resU Try.results56 _ _ w.heap.size rfl (setRow_heap _ _ _ _ _ _ R6.out)
  · exact own_base (base' := w.heap.size) (own_grown O6.out (K.setRow_grown w6 w.heap.size #[.int .i64 x.kind, .int .i64 x.sport, .int .i64 x.dport, .int .i64 x.seq, .int .i64 x.ack, .int .i64 u4, .int .i64 x.window, .int .i64 x.urgent, .int .i64 x.ty, .int .i64 x.code, .int .i64 x.rest, .bool x.nosum, .slice O os.length oc, .slice D0 ds.length d0]) (fun k h1 h2 => by cases h2; have := (O6.out.lt _ h1).1; omega)) (by omega)
  · exact own_base (base' := w.heap.size) (own_grown B6.out (K.setRow_grown w6 w.heap.size #[.int .i64 x.kind, .int .i64 x.sport, .int .i64 x.dport, .int .i64 x.seq, .int .i64 x.ack, .int .i64 u4, .int .i64 x.window, .int .i64 x.urgent, .int .i64 x.ty, .int .i64 x.code, .int .i64 x.rest, .bool x.nosum, .slice O os.length oc, .slice D0 ds.length d0]) (fun k h1 h2 => by cases h2; have := (B6.out.lt _ h1).1; omega)) (by omega)
  · exact C6.out.grownBy (K.setRow_grown _ _ _) (fun u hu => by cases hu; omega)
  · exact grown_other G6.out (K.setRow_grown _ _ _) (fun u hu => by cases hu; omega)
end Go.Proofs.Ythogonpjkngpjaa

namespace Go.Proofs.Ythogonpjkngpjaa
set_option maxRecDepth 100000
open Go.RowKit

set_option maxHeartbeats 4000000 in
theorem badUp_3 (want k : Int) (bs : List UInt8) (t s : Nat) (ht : t ≤ 700000000000) (x : Uh) (os ds : List UInt8) (t1 s1 : Nat) (_ : os.length ≤ 40) (hds : ds.length ≤ 40) (ht1 : t1 ≤ t + 100) (HF : Hid (∀ (w : World) (g : Nat) (A : Option Addr) (c : Nat), CurS w g A c bs t s → Calls Try.prog 95 #[.pointer (some ⟨g, 0, none⟩), .int .i64 want, .int .i64 k] w (GivesUp w g A c bs t1 s1 x os ds))) (q : Int) (s2 : Nat) (hq : q = 3) (HK : Hid (∀ (w : World) (g : Nat) (A : Option Addr) (c : Nat), CurS w g A c bs t1 s1 → Calls Try.prog 57 #[.pointer (some ⟨g, 0, none⟩), .int .i64 14] w (Gives w g A c bs (t1 + 1) s2 q))) :
    ∃ (x : Uh) (os ds : List UInt8) (t' s' : Nat), os.length ≤ 45 ∧ ds.length ≤ 1500 ∧ t' ≤ t + 200 ∧ ∀ (w : World) (g : Nat) (A : Option Addr) (c : Nat), CurS w g A c bs t s → Calls Try.prog 56 #[.pointer (some ⟨g, 0, none⟩), .int .i64 want, .int .i64 k] w (GivesUp w g A c bs t' s' x os ds) := by
  subst hq
  obtain ⟨x3, s13, lo3, up3, hd3⟩ := pickE bs (t1 + 1) s2 46 (by omega) (by omega) (by omega)
  have H3 := Lib.hid hd3
  clear hd3
  obtain ⟨y3, rfl⟩ : ∃ k : Nat, x3 = k := ⟨x3.toNat, by omega⟩
  refine ⟨⟨x.kind, x.sport, x.dport, x.seq, x.ack, x.bits, x.window, x.urgent, x.ty, x.code, x.rest, x.nosum⟩, (List.replicate y3 0), ds, t1 + 1 + 1, s13, by simp; omega, by omega, by omega, fun w g A c hc0 => ?_⟩
  have hgl := hc0.lt
  have HC0 := Lib.hid (hc0.below (Joins.below_alloc1 w (.cells #[.int .i64 0, .int .i64 0, .int .i64 0, .int .i64 0, .int .i64 0, .int .i64 0, .int .i64 0, .int .i64 0, .int .i64 0, .int .i64 0, .int .i64 0, .bool false, .slice none 0 0, .slice none 0 0] 36)))
  have R0_ := Lib.hid (K.new w (.cells #[.int .i64 0, .int .i64 0, .int .i64 0, .int .i64 0, .int .i64 0, .int .i64 0, .int .i64 0, .int .i64 0, .int .i64 0, .int .i64 0, .int .i64 0, .bool false, .slice none 0 0, .slice none 0 0] 36))
  clear hc0
  go_enter Try.func56, Try.ntmps56
  go_wp2_with fail
  refine Calls.mono (HF.out _ g A c HC0.out) ?_
  rintro e w1 ⟨O, oc, D0, d0, rfl, oo, od, ap, hc2, hg2⟩
  have hb : w.heap.size < w1.heap.size := by have := hg2.size; simp at this; omega
  have q1 := Lib.hid (K.new w1 (.cells #[.int .i64 x.kind, .int .i64 x.sport, .int .i64 x.dport, .int .i64 x.seq, .int .i64 x.ack, .int .i64 x.bits, .int .i64 x.window, .int .i64 x.urgent, .int .i64 x.ty, .int .i64 x.code, .int .i64 x.rest, .bool x.nosum, .slice O os.length oc, .slice D0 ds.length d0] 36))
  have R1 := Lib.hid (K.old (K.kept hg2 R0_.out (fun k hk => by cases hk; omega)) (.cells #[.int .i64 x.kind, .int .i64 x.sport, .int .i64 x.dport, .int .i64 x.seq, .int .i64 x.ack, .int .i64 x.bits, .int .i64 x.window, .int .i64 x.urgent, .int .i64 x.ty, .int .i64 x.code, .int .i64 x.rest, .bool x.nosum, .slice O os.length oc, .slice D0 ds.length d0] 36))
  have C1 := Lib.hid (hc2.below (Joins.below_alloc1 w1 (.cells #[.int .i64 x.kind, .int .i64 x.sport, .int .i64 x.dport, .int .i64 x.seq, .int .i64 x.ack, .int .i64 x.bits, .int .i64 x.window, .int .i64 x.urgent, .int .i64 x.ty, .int .i64 x.code, .int .i64 x.rest, .bool x.nosum, .slice O os.length oc, .slice D0 ds.length d0] 36)))
  have G1 := Lib.hid (only_new (grownBy_trans (only_new (K.refl w (some g)) (.cells #[.int .i64 0, .int .i64 0, .int .i64 0, .int .i64 0, .int .i64 0, .int .i64 0, .int .i64 0, .int .i64 0, .int .i64 0, .int .i64 0, .int .i64 0, .bool false, .slice none 0 0, .slice none 0 0] 36)) hg2) (.cells #[.int .i64 x.kind, .int .i64 x.sport, .int .i64 x.dport, .int .i64 x.seq, .int .i64 x.ack, .int .i64 x.bits, .int .i64 x.window, .int .i64 x.urgent, .int .i64 x.ty, .int .i64 x.code, .int .i64 x.rest, .bool x.nosum, .slice O os.length oc, .slice D0 ds.length d0] 36))
  have B1 := Lib.hid (World.ownsRow.alloc (own_base od (show w.heap.size + 1 ≤ _ by simp)) (.cells #[.int .i64 x.kind, .int .i64 x.sport, .int .i64 x.dport, .int .i64 x.seq, .int .i64 x.ack, .int .i64 x.bits, .int .i64 x.window, .int .i64 x.urgent, .int .i64 x.ty, .int .i64 x.code, .int .i64 x.rest, .bool x.nosum, .slice O os.length oc, .slice D0 ds.length d0] 36))
  have O1 := Lib.hid (World.ownsRow.alloc (own_base oo (show w.heap.size + 1 ≤ _ by simp)) (.cells #[.int .i64 x.kind, .int .i64 x.sport, .int .i64 x.dport, .int .i64 x.seq, .int .i64 x.ack, .int .i64 x.bits, .int .i64 x.window, .int .i64 x.urgent, .int .i64 x.ty, .int .i64 x.code, .int .i64 x.rest, .bool x.nosum, .slice O os.length oc, .slice D0 ds.length d0] 36))
  have NB := Lib.hid (fun k (hk : (Value.slice D0 ds.length d0).ownBlock = some k) => show k ≠ w1.heap.size by have := (od.lt k hk).2; omega)
  have NO := Lib.hid (fun k (hk : (Value.slice O os.length oc).ownBlock = some k) => show k ≠ w1.heap.size by have := (oo.lt k hk).2; omega)
  have AP := Lib.hid ap
  clear od oo ap hc2 hg2 HC0 R0_
  go_wp2_with (with_reducible refine storeNewU rfl _ _ rfl rfl rfl ?_)
  generalize (w1.alloc (.cells #[.int .i64 x.kind, .int .i64 x.sport, .int .i64 x.dport, .int .i64 x.seq, .int .i64 x.ack, .int .i64 x.bits, .int .i64 x.window, .int .i64 x.urgent, .int .i64 x.ty, .int .i64 x.code, .int .i64 x.rest, .bool x.nosum, .slice O os.length oc, .slice D0 ds.length d0] 36)) = w2 at q1 R1 C1 G1 B1 O1 ⊢
  refine Calls.mono (HK.out _ g A c C1.out) ?_
  rintro e w3 ⟨rfl, hc2, hg2⟩
  have q2 := Lib.hid (K.kept hg2 q1.out (fun k hk => by cases hk; omega))
  have R2 := Lib.hid (K.kept hg2 R1.out (fun k hk => by cases hk; omega))
  have C2 := Lib.hid hc2
  have G2 := Lib.hid (grownBy_trans G1.out hg2)
  have B2 := Lib.hid (own_grown B1.out hg2 (fun k h1 h2 => by cases h2; have := (B1.out.lt _ h1).1; omega))
  have O2 := Lib.hid (own_grown O1.out hg2 (fun k h1 h2 => by cases h2; have := (O1.out.lt _ h1).1; omega))
  clear hc2 hg2 q1 R1 C1 G1 B1 O1
  go_wp2_with fail
  refine Calls.mono (H3.out _ g A c C2.out) ?_
  rintro e w4 ⟨rfl, hc2, hg2⟩
  have q3 := Lib.hid (K.kept hg2 q2.out (fun k hk => by cases hk; omega))
  have R3 := Lib.hid (K.kept hg2 R2.out (fun k hk => by cases hk; omega))
  have C3 := Lib.hid hc2
  have G3 := Lib.hid (grownBy_trans G2.out hg2)
  have B3 := Lib.hid (own_grown B2.out hg2 (fun k h1 h2 => by cases h2; have := (B2.out.lt _ h1).1; omega))
  have O3 := Lib.hid (own_grown O2.out hg2 (fun k h1 h2 => by cases h2; have := (O2.out.lt _ h1).1; omega))
  clear hc2 hg2 q2 R2 C2 G2 B2 O2
  have hlq := K.lt q3.out
  obtain ⟨i0, hi0, hz0, hz1, hz2⟩ := info_parts info_u8
  go_upto_region 19 with (at_make; refine wpList_make_full _ rfl _ _ 34 rfl (w1.heap.size + 1) 5 i0 (.int .u8 0) 1 Try.underlying34 hi0 hz0 hz1 _ _ _ _ y3 rfl rfl rfl rfl (by rw [hz2]; omega) (by unfold maxLen; omega) (by omega) ?_; intro w5 hown hgm; have HOM := Lib.hid hown; have HGM := Lib.hid hgm; clear hown hgm; have uu := K.cell (K.kept HGM.out q3.out (fun k hk => by cases hk)) 12 _ rfl; have yy := frozen_of_row _ _ 12 _ _ (K.kept HGM.out q3.out (fun k hk => by cases hk)))
  have q4 := Lib.hid (K.kept HGM.out q3.out (fun k hk => by cases hk))
  have R4 := Lib.hid (K.kept HGM.out R3.out (fun k hk => by cases hk))
  have C4 := Lib.hid (C3.out.grownBy HGM.out (fun k hk => by cases hk))
  have G4 := Lib.hid (grown_other G3.out HGM.out (fun k hk => by cases hk))
  have B4 := Lib.hid (own_grown B3.out HGM.out (fun k hk e => by cases e))
  have Om4 := Lib.hid (made_zeroF y3 ▸ HOM.out)
  have NOm := Lib.hid (show ∀ k, (Value.slice (some ⟨w4.heap.size, 0, none⟩) y3 y3).ownBlock = some k → k ≠ w1.heap.size from fun k hk => by have := (HOM.out.lt k hk).1; omega)
  have APOm := Lib.hid (show ∀ k, (Value.slice (some ⟨w4.heap.size, 0, none⟩) y3 y3).ownBlock = some k → w4.heap.size ≤ k from fun k hk => by simp [Value.ownBlock] at hk; omega)
  have LB := Lib.hid (fun k hk => (B3.out.lt k hk).2)
  clear HOM HGM uu yy q3 R3 C3 G3 B3 O3
  have q5 : Hid ((w5.setCell ⟨w1.heap.size, 12, none⟩ (.slice (some ⟨w4.heap.size, 0, none⟩) y3 y3)).heap[w1.heap.size]? = some (.cells #[.int .i64 x.kind, .int .i64 x.sport, .int .i64 x.dport, .int .i64 x.seq, .int .i64 x.ack, .int .i64 x.bits, .int .i64 x.window, .int .i64 x.urgent, .int .i64 x.ty, .int .i64 x.code, .int .i64 x.rest, .bool x.nosum, .slice (some ⟨w4.heap.size, 0, none⟩) y3 y3, .slice D0 ds.length d0] 36 (0, 0))) := Lib.hid (K.set q4.out 12 _)
  have R5 := Lib.hid (K.other R4.out w1.heap.size 12 (.slice (some ⟨w4.heap.size, 0, none⟩) y3 y3) (by omega))
  have C5 := Lib.hid (C4.out.grownBy (grownBy_set w5 w1.heap.size 12 (.slice (some ⟨w4.heap.size, 0, none⟩) y3 y3)) (fun u hu => by cases hu; omega))
  have G5 := Lib.hid (grown_other G4.out (grownBy_set w5 w1.heap.size 12 (.slice (some ⟨w4.heap.size, 0, none⟩) y3 y3)) (fun u hu => by cases hu; omega))
  have B5 := Lib.hid (own_grown B4.out (grownBy_set w5 w1.heap.size 12 (.slice (some ⟨w4.heap.size, 0, none⟩) y3 y3)) (fun k h1 h2 => by cases h2; exact NB.out _ h1 rfl))
  have Om5 := Lib.hid (own_grown Om4.out (grownBy_set w5 w1.heap.size 12 (.slice (some ⟨w4.heap.size, 0, none⟩) y3 y3)) (fun k h1 h2 => by cases h2; exact NOm.out _ h1 rfl))
  clear q4 R4 C4 G4 B4 Om4
  generalize (w5.setCell ⟨w1.heap.size, 12, none⟩ (.slice (some ⟨w4.heap.size, 0, none⟩) y3 y3)) = w6 at q5 R5 C5 G5 B5 Om5 ⊢
  go_wp2_with (first | (with_reducible refine loadU rfl _ rfl w1.heap.size rfl q5.out ?_) | (with_reducible refine storeU rfl _ _ rfl w.heap.size rfl rfl R5.out ?_))
  (try simp only [Exit.inBlock, Exit.then])
  refine bodyPost_ret (v := .agg #[.int .i64 x.kind, .int .i64 x.sport, .int .i64 x.dport, .int .i64 x.seq, .int .i64 x.ack, .int .i64 x.bits, .int .i64 x.window, .int .i64 x.urgent, .int .i64 x.ty, .int .i64 x.code, .int .i64 x.rest, .bool x.nosum, .slice (some ⟨w4.heap.size, 0, none⟩) y3 y3, .slice D0 ds.length d0]) ?_ rfl ⟨(some ⟨w4.heap.size, 0, none⟩), y3, D0, d0, by rw [List.length_replicate], ?_, ?_, (fun k h1 h2 => by rw [List.length_replicate] at h1; have := APOm.out k h1; have := LB.out k h2; omega), ?_, ?_⟩
  · exact resU Try.results56 _ _ w.heap.size rfl (setRow_heap _ _ _ _ _ _ R5.out)
  · exact by have this := own_base (base' := w.heap.size) (own_grown Om5.out (K.setRow_grown w6 w.heap.size #[.int .i64 x.kind, .int .i64 x.sport, .int .i64 x.dport, .int .i64 x.seq, .int .i64 x.ack, .int .i64 x.bits, .int .i64 x.window, .int .i64 x.urgent, .int .i64 x.ty, .int .i64 x.code, .int .i64 x.rest, .bool x.nosum, .slice (some ⟨w4.heap.size, 0, none⟩) y3 y3, .slice D0 ds.length d0]) (fun k h1 h2 => by cases h2; have := (Om5.out.lt _ h1).1; omega)) (by omega); rw [List.length_replicate]; exact this
  · exact own_base (base' := w.heap.size) (own_grown B5.out (K.setRow_grown w6 w.heap.size #[.int .i64 x.kind, .int .i64 x.sport, .int .i64 x.dport, .int .i64 x.seq, .int .i64 x.ack, .int .i64 x.bits, .int .i64 x.window, .int .i64 x.urgent, .int .i64 x.ty, .int .i64 x.code, .int .i64 x.rest, .bool x.nosum, .slice (some ⟨w4.heap.size, 0, none⟩) y3 y3, .slice D0 ds.length d0]) (fun k h1 h2 => by cases h2; have := (B5.out.lt _ h1).1; omega)) (by omega)
  · exact C5.out.grownBy (K.setRow_grown _ _ _) (fun u hu => by cases hu; omega)
  · exact grown_other G5.out (K.setRow_grown _ _ _) (fun u hu => by cases hu; omega)

set_option maxHeartbeats 4000000 in
theorem badUp_4 (want k : Int) (bs : List UInt8) (t s : Nat) (ht : t ≤ 700000000000) (x : Uh) (os ds : List UInt8) (t1 s1 : Nat) (hos : os.length ≤ 40) (hds : ds.length ≤ 40) (ht1 : t1 ≤ t + 100) (HF : Hid (∀ (w : World) (g : Nat) (A : Option Addr) (c : Nat), CurS w g A c bs t s → Calls Try.prog 95 #[.pointer (some ⟨g, 0, none⟩), .int .i64 want, .int .i64 k] w (GivesUp w g A c bs t1 s1 x os ds))) (q : Int) (s2 : Nat) (hq : q = 4) (HK : Hid (∀ (w : World) (g : Nat) (A : Option Addr) (c : Nat), CurS w g A c bs t1 s1 → Calls Try.prog 57 #[.pointer (some ⟨g, 0, none⟩), .int .i64 14] w (Gives w g A c bs (t1 + 1) s2 q))) :
    ∃ (x : Uh) (os ds : List UInt8) (t' s' : Nat), os.length ≤ 45 ∧ ds.length ≤ 1500 ∧ t' ≤ t + 200 ∧ ∀ (w : World) (g : Nat) (A : Option Addr) (c : Nat), CurS w g A c bs t s → Calls Try.prog 56 #[.pointer (some ⟨g, 0, none⟩), .int .i64 want, .int .i64 k] w (GivesUp w g A c bs t' s' x os ds) := by
  subst hq
  obtain ⟨x3, s13, hd3⟩ := rawE bs (t1 + 1) s2 (by omega)
  have H3 := Lib.hid hd3
  clear hd3
  obtain ⟨x4, s14, lo4, up4, hd4⟩ := pickE bs (t1 + 1 + 2) s13 2 (by omega) (by omega) (by omega)
  have H4 := Lib.hid hd4
  clear hd4
  obtain ⟨y4, rfl⟩ : ∃ k : Nat, x4 = k := ⟨x4.toNat, by omega⟩
  obtain ⟨u4, hu4⟩ : ∃ a, ([x3, 256] : List Int)[y4]? = some a := ⟨_, List.getElem?_eq_getElem (by simp; omega)⟩
  have HU4 := Lib.hid hu4
  clear hu4
  refine ⟨⟨x.kind, x.sport, x.dport, x.seq, x.ack, x.bits, x.window, x.urgent, u4, x.code, x.rest, x.nosum⟩, os, ds, t1 + 1 + 2 + 1, s14, by omega, by omega, by omega, fun w g A c hc0 => ?_⟩
  have hgl := hc0.lt
  have HC0 := Lib.hid (hc0.below (Joins.below_alloc1 w (.cells #[.int .i64 0, .int .i64 0, .int .i64 0, .int .i64 0, .int .i64 0, .int .i64 0, .int .i64 0, .int .i64 0, .int .i64 0, .int .i64 0, .int .i64 0, .bool false, .slice none 0 0, .slice none 0 0] 36)))
  have R0_ := Lib.hid (K.new w (.cells #[.int .i64 0, .int .i64 0, .int .i64 0, .int .i64 0, .int .i64 0, .int .i64 0, .int .i64 0, .int .i64 0, .int .i64 0, .int .i64 0, .int .i64 0, .bool false, .slice none 0 0, .slice none 0 0] 36))
  clear hc0
  go_enter Try.func56, Try.ntmps56
  go_wp2_with fail
  refine Calls.mono (HF.out _ g A c HC0.out) ?_
  rintro e w1 ⟨O, oc, D0, d0, rfl, oo, od, ap, hc2, hg2⟩
  have hb : w.heap.size < w1.heap.size := by have := hg2.size; simp at this; omega
  have q1 := Lib.hid (K.new w1 (.cells #[.int .i64 x.kind, .int .i64 x.sport, .int .i64 x.dport, .int .i64 x.seq, .int .i64 x.ack, .int .i64 x.bits, .int .i64 x.window, .int .i64 x.urgent, .int .i64 x.ty, .int .i64 x.code, .int .i64 x.rest, .bool x.nosum, .slice O os.length oc, .slice D0 ds.length d0] 36))
  have R1 := Lib.hid (K.old (K.kept hg2 R0_.out (fun k hk => by cases hk; omega)) (.cells #[.int .i64 x.kind, .int .i64 x.sport, .int .i64 x.dport, .int .i64 x.seq, .int .i64 x.ack, .int .i64 x.bits, .int .i64 x.window, .int .i64 x.urgent, .int .i64 x.ty, .int .i64 x.code, .int .i64 x.rest, .bool x.nosum, .slice O os.length oc, .slice D0 ds.length d0] 36))
  have C1 := Lib.hid (hc2.below (Joins.below_alloc1 w1 (.cells #[.int .i64 x.kind, .int .i64 x.sport, .int .i64 x.dport, .int .i64 x.seq, .int .i64 x.ack, .int .i64 x.bits, .int .i64 x.window, .int .i64 x.urgent, .int .i64 x.ty, .int .i64 x.code, .int .i64 x.rest, .bool x.nosum, .slice O os.length oc, .slice D0 ds.length d0] 36)))
  have G1 := Lib.hid (only_new (grownBy_trans (only_new (K.refl w (some g)) (.cells #[.int .i64 0, .int .i64 0, .int .i64 0, .int .i64 0, .int .i64 0, .int .i64 0, .int .i64 0, .int .i64 0, .int .i64 0, .int .i64 0, .int .i64 0, .bool false, .slice none 0 0, .slice none 0 0] 36)) hg2) (.cells #[.int .i64 x.kind, .int .i64 x.sport, .int .i64 x.dport, .int .i64 x.seq, .int .i64 x.ack, .int .i64 x.bits, .int .i64 x.window, .int .i64 x.urgent, .int .i64 x.ty, .int .i64 x.code, .int .i64 x.rest, .bool x.nosum, .slice O os.length oc, .slice D0 ds.length d0] 36))
  have B1 := Lib.hid (World.ownsRow.alloc (own_base od (show w.heap.size + 1 ≤ _ by simp)) (.cells #[.int .i64 x.kind, .int .i64 x.sport, .int .i64 x.dport, .int .i64 x.seq, .int .i64 x.ack, .int .i64 x.bits, .int .i64 x.window, .int .i64 x.urgent, .int .i64 x.ty, .int .i64 x.code, .int .i64 x.rest, .bool x.nosum, .slice O os.length oc, .slice D0 ds.length d0] 36))
  have O1 := Lib.hid (World.ownsRow.alloc (own_base oo (show w.heap.size + 1 ≤ _ by simp)) (.cells #[.int .i64 x.kind, .int .i64 x.sport, .int .i64 x.dport, .int .i64 x.seq, .int .i64 x.ack, .int .i64 x.bits, .int .i64 x.window, .int .i64 x.urgent, .int .i64 x.ty, .int .i64 x.code, .int .i64 x.rest, .bool x.nosum, .slice O os.length oc, .slice D0 ds.length d0] 36))
  have NB := Lib.hid (fun k (hk : (Value.slice D0 ds.length d0).ownBlock = some k) => show k ≠ w1.heap.size by have := (od.lt k hk).2; omega)
  have NO := Lib.hid (fun k (hk : (Value.slice O os.length oc).ownBlock = some k) => show k ≠ w1.heap.size by have := (oo.lt k hk).2; omega)
  have AP := Lib.hid ap
  clear od oo ap hc2 hg2 HC0 R0_
  go_wp2_with (with_reducible refine storeNewU rfl _ _ rfl rfl rfl ?_)
  generalize (w1.alloc (.cells #[.int .i64 x.kind, .int .i64 x.sport, .int .i64 x.dport, .int .i64 x.seq, .int .i64 x.ack, .int .i64 x.bits, .int .i64 x.window, .int .i64 x.urgent, .int .i64 x.ty, .int .i64 x.code, .int .i64 x.rest, .bool x.nosum, .slice O os.length oc, .slice D0 ds.length d0] 36)) = w2 at q1 R1 C1 G1 B1 O1 ⊢
  refine Calls.mono (HK.out _ g A c C1.out) ?_
  rintro e w3 ⟨rfl, hc2, hg2⟩
  have q2 := Lib.hid (K.kept hg2 q1.out (fun k hk => by cases hk; omega))
  have R2 := Lib.hid (K.kept hg2 R1.out (fun k hk => by cases hk; omega))
  have C2 := Lib.hid hc2
  have G2 := Lib.hid (grownBy_trans G1.out hg2)
  have B2 := Lib.hid (own_grown B1.out hg2 (fun k h1 h2 => by cases h2; have := (B1.out.lt _ h1).1; omega))
  have O2 := Lib.hid (own_grown O1.out hg2 (fun k h1 h2 => by cases h2; have := (O1.out.lt _ h1).1; omega))
  clear hc2 hg2 q1 R1 C1 G1 B1 O1
  go_wp2_with fail
  refine Calls.mono (H3.out _ g A c C2.out) ?_
  rintro e w4 ⟨rfl, hc2, hg2⟩
  have q3 := Lib.hid (K.kept hg2 q2.out (fun k hk => by cases hk; omega))
  have R3 := Lib.hid (K.kept hg2 R2.out (fun k hk => by cases hk; omega))
  have C3 := Lib.hid hc2
  have G3 := Lib.hid (grownBy_trans G2.out hg2)
  have B3 := Lib.hid (own_grown B2.out hg2 (fun k h1 h2 => by cases h2; have := (B2.out.lt _ h1).1; omega))
  have O3 := Lib.hid (own_grown O2.out hg2 (fun k h1 h2 => by cases h2; have := (O2.out.lt _ h1).1; omega))
  clear hc2 hg2 q2 R2 C2 G2 B2 O2
  have gk := C3.out.lt
  have q4 := Lib.hid (K.old q3.out (.cells #[.int .i64 x3, .int .i64 256] 3))
  have R4 := Lib.hid (K.old R3.out (.cells #[.int .i64 x3, .int .i64 256] 3))
  have C4 := Lib.hid (C3.out.below (Joins.below_alloc1 w4 (.cells #[.int .i64 x3, .int .i64 256] 3)))
  have G4 := Lib.hid (only_new G3.out (.cells #[.int .i64 x3, .int .i64 256] 3))
  have B4 := Lib.hid (World.ownsRow.alloc B3.out (.cells #[.int .i64 x3, .int .i64 256] 3))
  have O4 := Lib.hid (World.ownsRow.alloc O3.out (.cells #[.int .i64 x3, .int .i64 256] 3))
  go_wp2_with fail
  clear q3 R3 C3 G3 B3 O3
  refine Calls.mono (H4.out _ g A c C4.out) ?_
  rintro e w5 ⟨rfl, hc2, hg2⟩
  have q5 := Lib.hid (K.kept hg2 q4.out (fun k hk => by cases hk; omega))
  have R5 := Lib.hid (K.kept hg2 R4.out (fun k hk => by cases hk; omega))
  have C5 := Lib.hid hc2
  have G5 := Lib.hid (grownBy_trans G4.out hg2)
  have B5 := Lib.hid (own_grown B4.out hg2 (fun k h1 h2 => by cases h2; have := (B4.out.lt _ h1).1; omega))
  have O5 := Lib.hid (own_grown O4.out hg2 (fun k h1 h2 => by cases h2; have := (O4.out.lt _ h1).1; omega))
  have cf := hg2.cell (K.row_cells w4 [x3, 256] _ rfl 3 y4 u4 HU4.out) (fun e => by have e2 : w4.heap.size = g := Option.some.inj e; omega)
  clear hc2 hg2 q4 R4 C4 G4 B4 O4
  have uu := K.cell q5.out 8 _ rfl
  have yy := frozen_of_row _ _ 8 _ _ q5.out
  have hyt : (y4 : Int) < 2 := by omega
  have q6 : Hid ((w5.setCell ⟨w1.heap.size, 8, none⟩ (.int .i64 u4)).heap[w1.heap.size]? = some (.cells #[.int .i64 x.kind, .int .i64 x.sport, .int .i64 x.dport, .int .i64 x.seq, .int .i64 x.ack, .int .i64 x.bits, .int .i64 x.window, .int .i64 x.urgent, .int .i64 u4, .int .i64 x.code, .int .i64 x.rest, .bool x.nosum, .slice O os.length oc, .slice D0 ds.length d0] 36 (0, 0))) := Lib.hid (K.set q5.out 8 _)
  have R6 := Lib.hid (K.other R5.out w1.heap.size 8 (.int .i64 u4) (by omega))
  have C6 := Lib.hid (C5.out.grownBy (grownBy_set w5 w1.heap.size 8 (.int .i64 u4)) (fun u hu => by cases hu; omega))
  have G6 := Lib.hid (grown_other G5.out (grownBy_set w5 w1.heap.size 8 (.int .i64 u4)) (fun u hu => by cases hu; omega))
  have B6 := Lib.hid (own_grown B5.out (grownBy_set w5 w1.heap.size 8 (.int .i64 u4)) (fun k h1 h2 => by cases h2; exact NB.out _ h1 rfl))
  have O6 := Lib.hid (own_grown O5.out (grownBy_set w5 w1.heap.size 8 (.int .i64 u4)) (fun k h1 h2 => by cases h2; exact NO.out _ h1 rfl))
  go_upto_region 19 with fail
  clear uu yy cf gk q5 R5 C5 G5 B5 O5
  generalize (w5.setCell ⟨w1.heap.size, 8, none⟩ (.int .i64 u4)) = w6 at q6 R6 C6 G6 B6 O6 ⊢
  go_wp2_with (first | (with_reducible refine loadU rfl _ rfl w1.heap.size rfl q6.out ?_) | (with_reducible refine storeU rfl _ _ rfl w.heap.size rfl rfl R6.out ?_))
  (try simp only [Exit.inBlock, Exit.then])
  refine bodyPost_ret (v := .agg #[.int .i64 x.kind, .int .i64 x.sport, .int .i64 x.dport, .int .i64 x.seq, .int .i64 x.ack, .int .i64 x.bits, .int .i64 x.window, .int .i64 x.urgent, .int .i64 u4, .int .i64 x.code, .int .i64 x.rest, .bool x.nosum, .slice O os.length oc, .slice D0 ds.length d0]) ?_ rfl ⟨O, oc, D0, d0, rfl, ?_, ?_, AP.out, ?_, ?_⟩
  · exact resU Try.results56 _ _ w.heap.size rfl (setRow_heap _ _ _ _ _ _ R6.out)
  · exact own_base (base' := w.heap.size) (own_grown O6.out (K.setRow_grown w6 w.heap.size #[.int .i64 x.kind, .int .i64 x.sport, .int .i64 x.dport, .int .i64 x.seq, .int .i64 x.ack, .int .i64 x.bits, .int .i64 x.window, .int .i64 x.urgent, .int .i64 u4, .int .i64 x.code, .int .i64 x.rest, .bool x.nosum, .slice O os.length oc, .slice D0 ds.length d0]) (fun k h1 h2 => by cases h2; have := (O6.out.lt _ h1).1; omega)) (by omega)
  · exact own_base (base' := w.heap.size) (own_grown B6.out (K.setRow_grown w6 w.heap.size #[.int .i64 x.kind, .int .i64 x.sport, .int .i64 x.dport, .int .i64 x.seq, .int .i64 x.ack, .int .i64 x.bits, .int .i64 x.window, .int .i64 x.urgent, .int .i64 u4, .int .i64 x.code, .int .i64 x.rest, .bool x.nosum, .slice O os.length oc, .slice D0 ds.length d0]) (fun k h1 h2 => by cases h2; have := (B6.out.lt _ h1).1; omega)) (by omega)
  · exact C6.out.grownBy (K.setRow_grown _ _ _) (fun u hu => by cases hu; omega)
  · exact grown_other G6.out (K.setRow_grown _ _ _) (fun u hu => by cases hu; omega)

set_option maxHeartbeats 4000000 in
theorem badUp_5 (want k : Int) (bs : List UInt8) (t s : Nat) (_ : t ≤ 700000000000) (x : Uh) (os ds : List UInt8) (t1 s1 : Nat) (hos : os.length ≤ 40) (hds : ds.length ≤ 40) (ht1 : t1 ≤ t + 100) (HF : Hid (∀ (w : World) (g : Nat) (A : Option Addr) (c : Nat), CurS w g A c bs t s → Calls Try.prog 95 #[.pointer (some ⟨g, 0, none⟩), .int .i64 want, .int .i64 k] w (GivesUp w g A c bs t1 s1 x os ds))) (q : Int) (s2 : Nat) (hq : q = 5) (HK : Hid (∀ (w : World) (g : Nat) (A : Option Addr) (c : Nat), CurS w g A c bs t1 s1 → Calls Try.prog 57 #[.pointer (some ⟨g, 0, none⟩), .int .i64 14] w (Gives w g A c bs (t1 + 1) s2 q))) :
    ∃ (x : Uh) (os ds : List UInt8) (t' s' : Nat), os.length ≤ 45 ∧ ds.length ≤ 1500 ∧ t' ≤ t + 200 ∧ ∀ (w : World) (g : Nat) (A : Option Addr) (c : Nat), CurS w g A c bs t s → Calls Try.prog 56 #[.pointer (some ⟨g, 0, none⟩), .int .i64 want, .int .i64 k] w (GivesUp w g A c bs t' s' x os ds) := by
  subst hq
  refine ⟨⟨x.kind, x.sport, x.dport, x.seq, x.ack, x.bits, x.window, x.urgent, x.ty, x.code, x.rest, !x.nosum⟩, os, ds, t1 + 1, s2, by omega, by omega, by omega, fun w g A c hc0 => ?_⟩
  have hgl := hc0.lt
  have HC0 := Lib.hid (hc0.below (Joins.below_alloc1 w (.cells #[.int .i64 0, .int .i64 0, .int .i64 0, .int .i64 0, .int .i64 0, .int .i64 0, .int .i64 0, .int .i64 0, .int .i64 0, .int .i64 0, .int .i64 0, .bool false, .slice none 0 0, .slice none 0 0] 36)))
  have R0_ := Lib.hid (K.new w (.cells #[.int .i64 0, .int .i64 0, .int .i64 0, .int .i64 0, .int .i64 0, .int .i64 0, .int .i64 0, .int .i64 0, .int .i64 0, .int .i64 0, .int .i64 0, .bool false, .slice none 0 0, .slice none 0 0] 36))
  clear hc0
  go_enter Try.func56, Try.ntmps56
  go_wp2_with fail
  refine Calls.mono (HF.out _ g A c HC0.out) ?_
  rintro e w1 ⟨O, oc, D0, d0, rfl, oo, od, ap, hc2, hg2⟩
  have hb : w.heap.size < w1.heap.size := by have := hg2.size; simp at this; omega
  have q1 := Lib.hid (K.new w1 (.cells #[.int .i64 x.kind, .int .i64 x.sport, .int .i64 x.dport, .int .i64 x.seq, .int .i64 x.ack, .int .i64 x.bits, .int .i64 x.window, .int .i64 x.urgent, .int .i64 x.ty, .int .i64 x.code, .int .i64 x.rest, .bool x.nosum, .slice O os.length oc, .slice D0 ds.length d0] 36))
  have R1 := Lib.hid (K.old (K.kept hg2 R0_.out (fun k hk => by cases hk; omega)) (.cells #[.int .i64 x.kind, .int .i64 x.sport, .int .i64 x.dport, .int .i64 x.seq, .int .i64 x.ack, .int .i64 x.bits, .int .i64 x.window, .int .i64 x.urgent, .int .i64 x.ty, .int .i64 x.code, .int .i64 x.rest, .bool x.nosum, .slice O os.length oc, .slice D0 ds.length d0] 36))
  have C1 := Lib.hid (hc2.below (Joins.below_alloc1 w1 (.cells #[.int .i64 x.kind, .int .i64 x.sport, .int .i64 x.dport, .int .i64 x.seq, .int .i64 x.ack, .int .i64 x.bits, .int .i64 x.window, .int .i64 x.urgent, .int .i64 x.ty, .int .i64 x.code, .int .i64 x.rest, .bool x.nosum, .slice O os.length oc, .slice D0 ds.length d0] 36)))
  have G1 := Lib.hid (only_new (grownBy_trans (only_new (K.refl w (some g)) (.cells #[.int .i64 0, .int .i64 0, .int .i64 0, .int .i64 0, .int .i64 0, .int .i64 0, .int .i64 0, .int .i64 0, .int .i64 0, .int .i64 0, .int .i64 0, .bool false, .slice none 0 0, .slice none 0 0] 36)) hg2) (.cells #[.int .i64 x.kind, .int .i64 x.sport, .int .i64 x.dport, .int .i64 x.seq, .int .i64 x.ack, .int .i64 x.bits, .int .i64 x.window, .int .i64 x.urgent, .int .i64 x.ty, .int .i64 x.code, .int .i64 x.rest, .bool x.nosum, .slice O os.length oc, .slice D0 ds.length d0] 36))
  have B1 := Lib.hid (World.ownsRow.alloc (own_base od (show w.heap.size + 1 ≤ _ by simp)) (.cells #[.int .i64 x.kind, .int .i64 x.sport, .int .i64 x.dport, .int .i64 x.seq, .int .i64 x.ack, .int .i64 x.bits, .int .i64 x.window, .int .i64 x.urgent, .int .i64 x.ty, .int .i64 x.code, .int .i64 x.rest, .bool x.nosum, .slice O os.length oc, .slice D0 ds.length d0] 36))
  have O1 := Lib.hid (World.ownsRow.alloc (own_base oo (show w.heap.size + 1 ≤ _ by simp)) (.cells #[.int .i64 x.kind, .int .i64 x.sport, .int .i64 x.dport, .int .i64 x.seq, .int .i64 x.ack, .int .i64 x.bits, .int .i64 x.window, .int .i64 x.urgent, .int .i64 x.ty, .int .i64 x.code, .int .i64 x.rest, .bool x.nosum, .slice O os.length oc, .slice D0 ds.length d0] 36))
  have NB := Lib.hid (fun k (hk : (Value.slice D0 ds.length d0).ownBlock = some k) => show k ≠ w1.heap.size by have := (od.lt k hk).2; omega)
  have NO := Lib.hid (fun k (hk : (Value.slice O os.length oc).ownBlock = some k) => show k ≠ w1.heap.size by have := (oo.lt k hk).2; omega)
  have AP := Lib.hid ap
  clear od oo ap hc2 hg2 HC0 R0_
  go_wp2_with (with_reducible refine storeNewU rfl _ _ rfl rfl rfl ?_)
  generalize (w1.alloc (.cells #[.int .i64 x.kind, .int .i64 x.sport, .int .i64 x.dport, .int .i64 x.seq, .int .i64 x.ack, .int .i64 x.bits, .int .i64 x.window, .int .i64 x.urgent, .int .i64 x.ty, .int .i64 x.code, .int .i64 x.rest, .bool x.nosum, .slice O os.length oc, .slice D0 ds.length d0] 36)) = w2 at q1 R1 C1 G1 B1 O1 ⊢
  refine Calls.mono (HK.out _ g A c C1.out) ?_
  rintro e w3 ⟨rfl, hc2, hg2⟩
  have q2 := Lib.hid (K.kept hg2 q1.out (fun k hk => by cases hk; omega))
  have R2 := Lib.hid (K.kept hg2 R1.out (fun k hk => by cases hk; omega))
  have C2 := Lib.hid hc2
  have G2 := Lib.hid (grownBy_trans G1.out hg2)
  have B2 := Lib.hid (own_grown B1.out hg2 (fun k h1 h2 => by cases h2; have := (B1.out.lt _ h1).1; omega))
  have O2 := Lib.hid (own_grown O1.out hg2 (fun k h1 h2 => by cases h2; have := (O1.out.lt _ h1).1; omega))
  clear hc2 hg2 q1 R1 C1 G1 B1 O1
  have uu := K.cell q2.out 11 _ rfl
  have yy := frozen_of_row _ _ 11 _ _ q2.out
  have q3 : Hid ((w3.setCell ⟨w1.heap.size, 11, none⟩ (.bool (!x.nosum))).heap[w1.heap.size]? = some (.cells #[.int .i64 x.kind, .int .i64 x.sport, .int .i64 x.dport, .int .i64 x.seq, .int .i64 x.ack, .int .i64 x.bits, .int .i64 x.window, .int .i64 x.urgent, .int .i64 x.ty, .int .i64 x.code, .int .i64 x.rest, .bool !x.nosum, .slice O os.length oc, .slice D0 ds.length d0] 36 (0, 0))) := Lib.hid (K.set q2.out 11 _)
  have R3 := Lib.hid (K.other R2.out w1.heap.size 11 (.bool (!x.nosum)) (by omega))
  have C3 := Lib.hid (C2.out.grownBy (grownBy_set w3 w1.heap.size 11 (.bool (!x.nosum))) (fun u hu => by cases hu; omega))
  have G3 := Lib.hid (grown_other G2.out (grownBy_set w3 w1.heap.size 11 (.bool (!x.nosum))) (fun u hu => by cases hu; omega))
  have B3 := Lib.hid (own_grown B2.out (grownBy_set w3 w1.heap.size 11 (.bool (!x.nosum))) (fun k h1 h2 => by cases h2; exact NB.out _ h1 rfl))
  have O3 := Lib.hid (own_grown O2.out (grownBy_set w3 w1.heap.size 11 (.bool (!x.nosum))) (fun k h1 h2 => by cases h2; exact NO.out _ h1 rfl))
  go_upto_region 19 with fail
  clear uu yy q2 R2 C2 G2 B2 O2
  generalize (w3.setCell ⟨w1.heap.size, 11, none⟩ (.bool (!x.nosum))) = w4 at q3 R3 C3 G3 B3 O3 ⊢
  go_wp2_with (first | (with_reducible refine loadU rfl _ rfl w1.heap.size rfl q3.out ?_) | (with_reducible refine storeU rfl _ _ rfl w.heap.size rfl rfl R3.out ?_))
  (try simp only [Exit.inBlock, Exit.then])
  refine bodyPost_ret (v := .agg #[.int .i64 x.kind, .int .i64 x.sport, .int .i64 x.dport, .int .i64 x.seq, .int .i64 x.ack, .int .i64 x.bits, .int .i64 x.window, .int .i64 x.urgent, .int .i64 x.ty, .int .i64 x.code, .int .i64 x.rest, .bool !x.nosum, .slice O os.length oc, .slice D0 ds.length d0]) ?_ rfl ⟨O, oc, D0, d0, rfl, ?_, ?_, AP.out, ?_, ?_⟩
  · exact resU Try.results56 _ _ w.heap.size rfl (setRow_heap _ _ _ _ _ _ R3.out)
  · exact own_base (base' := w.heap.size) (own_grown O3.out (K.setRow_grown w4 w.heap.size #[.int .i64 x.kind, .int .i64 x.sport, .int .i64 x.dport, .int .i64 x.seq, .int .i64 x.ack, .int .i64 x.bits, .int .i64 x.window, .int .i64 x.urgent, .int .i64 x.ty, .int .i64 x.code, .int .i64 x.rest, .bool !x.nosum, .slice O os.length oc, .slice D0 ds.length d0]) (fun k h1 h2 => by cases h2; have := (O3.out.lt _ h1).1; omega)) (by omega)
  · exact own_base (base' := w.heap.size) (own_grown B3.out (K.setRow_grown w4 w.heap.size #[.int .i64 x.kind, .int .i64 x.sport, .int .i64 x.dport, .int .i64 x.seq, .int .i64 x.ack, .int .i64 x.bits, .int .i64 x.window, .int .i64 x.urgent, .int .i64 x.ty, .int .i64 x.code, .int .i64 x.rest, .bool !x.nosum, .slice O os.length oc, .slice D0 ds.length d0]) (fun k h1 h2 => by cases h2; have := (B3.out.lt _ h1).1; omega)) (by omega)
  · exact C3.out.grownBy (K.setRow_grown _ _ _) (fun u hu => by cases hu; omega)
  · exact grown_other G3.out (K.setRow_grown _ _ _) (fun u hu => by cases hu; omega)
end Go.Proofs.Ythogonpjkngpjaa

namespace Go.Proofs.Ythogonpjkngpjaa
set_option maxRecDepth 100000
open Go.RowKit

set_option maxHeartbeats 4000000 in
theorem badUp_6 (want k : Int) (bs : List UInt8) (t s : Nat) (ht : t ≤ 700000000000) (x : Uh) (os ds : List UInt8) (t1 s1 : Nat) (hos : os.length ≤ 40) (hds : ds.length ≤ 40) (ht1 : t1 ≤ t + 100) (HF : Hid (∀ (w : World) (g : Nat) (A : Option Addr) (c : Nat), CurS w g A c bs t s → Calls Try.prog 95 #[.pointer (some ⟨g, 0, none⟩), .int .i64 want, .int .i64 k] w (GivesUp w g A c bs t1 s1 x os ds))) (q : Int) (s2 : Nat) (hq : q = 6) (HK : Hid (∀ (w : World) (g : Nat) (A : Option Addr) (c : Nat), CurS w g A c bs t1 s1 → Calls Try.prog 57 #[.pointer (some ⟨g, 0, none⟩), .int .i64 14] w (Gives w g A c bs (t1 + 1) s2 q))) :
    ∃ (x : Uh) (os ds : List UInt8) (t' s' : Nat), os.length ≤ 45 ∧ ds.length ≤ 1500 ∧ t' ≤ t + 200 ∧ ∀ (w : World) (g : Nat) (A : Option Addr) (c : Nat), CurS w g A c bs t s → Calls Try.prog 56 #[.pointer (some ⟨g, 0, none⟩), .int .i64 want, .int .i64 k] w (GivesUp w g A c bs t' s' x os ds) := by
  subst hq
  obtain ⟨x3, s13, hd3⟩ := rawE bs (t1 + 1) s2 (by omega)
  have H3 := Lib.hid hd3
  clear hd3
  refine ⟨⟨x3, x.sport, x.dport, x.seq, x.ack, x.bits, x.window, x.urgent, x.ty, x.code, x.rest, x.nosum⟩, os, ds, t1 + 1 + 2, s13, by omega, by omega, by omega, fun w g A c hc0 => ?_⟩
  have hgl := hc0.lt
  have HC0 := Lib.hid (hc0.below (Joins.below_alloc1 w (.cells #[.int .i64 0, .int .i64 0, .int .i64 0, .int .i64 0, .int .i64 0, .int .i64 0, .int .i64 0, .int .i64 0, .int .i64 0, .int .i64 0, .int .i64 0, .bool false, .slice none 0 0, .slice none 0 0] 36)))
  have R0_ := Lib.hid (K.new w (.cells #[.int .i64 0, .int .i64 0, .int .i64 0, .int .i64 0, .int .i64 0, .int .i64 0, .int .i64 0, .int .i64 0, .int .i64 0, .int .i64 0, .int .i64 0, .bool false, .slice none 0 0, .slice none 0 0] 36))
  clear hc0
  go_enter Try.func56, Try.ntmps56
  go_wp2_with fail
  refine Calls.mono (HF.out _ g A c HC0.out) ?_
  rintro e w1 ⟨O, oc, D0, d0, rfl, oo, od, ap, hc2, hg2⟩
  have hb : w.heap.size < w1.heap.size := by have := hg2.size; simp at this; omega
  have q1 := Lib.hid (K.new w1 (.cells #[.int .i64 x.kind, .int .i64 x.sport, .int .i64 x.dport, .int .i64 x.seq, .int .i64 x.ack, .int .i64 x.bits, .int .i64 x.window, .int .i64 x.urgent, .int .i64 x.ty, .int .i64 x.code, .int .i64 x.rest, .bool x.nosum, .slice O os.length oc, .slice D0 ds.length d0] 36))
  have R1 := Lib.hid (K.old (K.kept hg2 R0_.out (fun k hk => by cases hk; omega)) (.cells #[.int .i64 x.kind, .int .i64 x.sport, .int .i64 x.dport, .int .i64 x.seq, .int .i64 x.ack, .int .i64 x.bits, .int .i64 x.window, .int .i64 x.urgent, .int .i64 x.ty, .int .i64 x.code, .int .i64 x.rest, .bool x.nosum, .slice O os.length oc, .slice D0 ds.length d0] 36))
  have C1 := Lib.hid (hc2.below (Joins.below_alloc1 w1 (.cells #[.int .i64 x.kind, .int .i64 x.sport, .int .i64 x.dport, .int .i64 x.seq, .int .i64 x.ack, .int .i64 x.bits, .int .i64 x.window, .int .i64 x.urgent, .int .i64 x.ty, .int .i64 x.code, .int .i64 x.rest, .bool x.nosum, .slice O os.length oc, .slice D0 ds.length d0] 36)))
  have G1 := Lib.hid (only_new (grownBy_trans (only_new (K.refl w (some g)) (.cells #[.int .i64 0, .int .i64 0, .int .i64 0, .int .i64 0, .int .i64 0, .int .i64 0, .int .i64 0, .int .i64 0, .int .i64 0, .int .i64 0, .int .i64 0, .bool false, .slice none 0 0, .slice none 0 0] 36)) hg2) (.cells #[.int .i64 x.kind, .int .i64 x.sport, .int .i64 x.dport, .int .i64 x.seq, .int .i64 x.ack, .int .i64 x.bits, .int .i64 x.window, .int .i64 x.urgent, .int .i64 x.ty, .int .i64 x.code, .int .i64 x.rest, .bool x.nosum, .slice O os.length oc, .slice D0 ds.length d0] 36))
  have B1 := Lib.hid (World.ownsRow.alloc (own_base od (show w.heap.size + 1 ≤ _ by simp)) (.cells #[.int .i64 x.kind, .int .i64 x.sport, .int .i64 x.dport, .int .i64 x.seq, .int .i64 x.ack, .int .i64 x.bits, .int .i64 x.window, .int .i64 x.urgent, .int .i64 x.ty, .int .i64 x.code, .int .i64 x.rest, .bool x.nosum, .slice O os.length oc, .slice D0 ds.length d0] 36))
  have O1 := Lib.hid (World.ownsRow.alloc (own_base oo (show w.heap.size + 1 ≤ _ by simp)) (.cells #[.int .i64 x.kind, .int .i64 x.sport, .int .i64 x.dport, .int .i64 x.seq, .int .i64 x.ack, .int .i64 x.bits, .int .i64 x.window, .int .i64 x.urgent, .int .i64 x.ty, .int .i64 x.code, .int .i64 x.rest, .bool x.nosum, .slice O os.length oc, .slice D0 ds.length d0] 36))
  have NB := Lib.hid (fun k (hk : (Value.slice D0 ds.length d0).ownBlock = some k) => show k ≠ w1.heap.size by have := (od.lt k hk).2; omega)
  have NO := Lib.hid (fun k (hk : (Value.slice O os.length oc).ownBlock = some k) => show k ≠ w1.heap.size by have := (oo.lt k hk).2; omega)
  have AP := Lib.hid ap
  clear od oo ap hc2 hg2 HC0 R0_
  go_wp2_with (with_reducible refine storeNewU rfl _ _ rfl rfl rfl ?_)
  generalize (w1.alloc (.cells #[.int .i64 x.kind, .int .i64 x.sport, .int .i64 x.dport, .int .i64 x.seq, .int .i64 x.ack, .int .i64 x.bits, .int .i64 x.window, .int .i64 x.urgent, .int .i64 x.ty, .int .i64 x.code, .int .i64 x.rest, .bool x.nosum, .slice O os.length oc, .slice D0 ds.length d0] 36)) = w2 at q1 R1 C1 G1 B1 O1 ⊢
  refine Calls.mono (HK.out _ g A c C1.out) ?_
  rintro e w3 ⟨rfl, hc2, hg2⟩
  have q2 := Lib.hid (K.kept hg2 q1.out (fun k hk => by cases hk; omega))
  have R2 := Lib.hid (K.kept hg2 R1.out (fun k hk => by cases hk; omega))
  have C2 := Lib.hid hc2
  have G2 := Lib.hid (grownBy_trans G1.out hg2)
  have B2 := Lib.hid (own_grown B1.out hg2 (fun k h1 h2 => by cases h2; have := (B1.out.lt _ h1).1; omega))
  have O2 := Lib.hid (own_grown O1.out hg2 (fun k h1 h2 => by cases h2; have := (O1.out.lt _ h1).1; omega))
  clear hc2 hg2 q1 R1 C1 G1 B1 O1
  go_wp2_with fail
  refine Calls.mono (H3.out _ g A c C2.out) ?_
  rintro e w4 ⟨rfl, hc2, hg2⟩
  have q3 := Lib.hid (K.kept hg2 q2.out (fun k hk => by cases hk; omega))
  have R3 := Lib.hid (K.kept hg2 R2.out (fun k hk => by cases hk; omega))
  have C3 := Lib.hid hc2
  have G3 := Lib.hid (grownBy_trans G2.out hg2)
  have B3 := Lib.hid (own_grown B2.out hg2 (fun k h1 h2 => by cases h2; have := (B2.out.lt _ h1).1; omega))
  have O3 := Lib.hid (own_grown O2.out hg2 (fun k h1 h2 => by cases h2; have := (O2.out.lt _ h1).1; omega))
  clear hc2 hg2 q2 R2 C2 G2 B2 O2
  have uu := K.cell q3.out 0 _ rfl
  have yy := frozen_of_row _ _ 0 _ _ q3.out
  have q4 : Hid ((w4.setCell ⟨w1.heap.size, 0, none⟩ (.int .i64 x3)).heap[w1.heap.size]? = some (.cells #[.int .i64 x3, .int .i64 x.sport, .int .i64 x.dport, .int .i64 x.seq, .int .i64 x.ack, .int .i64 x.bits, .int .i64 x.window, .int .i64 x.urgent, .int .i64 x.ty, .int .i64 x.code, .int .i64 x.rest, .bool x.nosum, .slice O os.length oc, .slice D0 ds.length d0] 36 (0, 0))) := Lib.hid (K.set q3.out 0 _)
  have R4 := Lib.hid (K.other R3.out w1.heap.size 0 (.int .i64 x3) (by omega))
  have C4 := Lib.hid (C3.out.grownBy (grownBy_set w4 w1.heap.size 0 (.int .i64 x3)) (fun u hu => by cases hu; omega))
  have G4 := Lib.hid (grown_other G3.out (grownBy_set w4 w1.heap.size 0 (.int .i64 x3)) (fun u hu => by cases hu; omega))
  have B4 := Lib.hid (own_grown B3.out (grownBy_set w4 w1.heap.size 0 (.int .i64 x3)) (fun k h1 h2 => by cases h2; exact NB.out _ h1 rfl))
  have O4 := Lib.hid (own_grown O3.out (grownBy_set w4 w1.heap.size 0 (.int .i64 x3)) (fun k h1 h2 => by cases h2; exact NO.out _ h1 rfl))
  go_upto_region 19 with fail
  clear uu yy q3 R3 C3 G3 B3 O3
  generalize (w4.setCell ⟨w1.heap.size, 0, none⟩ (.int .i64 x3)) = w5 at q4 R4 C4 G4 B4 O4 ⊢
  go_wp2_with (first | (with_reducible refine loadU rfl _ rfl w1.heap.size rfl q4.out ?_) | (with_reducible refine storeU rfl _ _ rfl w.heap.size rfl rfl R4.out ?_))
  (try simp only [Exit.inBlock, Exit.then])
  refine bodyPost_ret (v := .agg #[.int .i64 x3, .int .i64 x.sport, .int .i64 x.dport, .int .i64 x.seq, .int .i64 x.ack, .int .i64 x.bits, .int .i64 x.window, .int .i64 x.urgent, .int .i64 x.ty, .int .i64 x.code, .int .i64 x.rest, .bool x.nosum, .slice O os.length oc, .slice D0 ds.length d0]) ?_ rfl ⟨O, oc, D0, d0, rfl, ?_, ?_, AP.out, ?_, ?_⟩
  · exact resU Try.results56 _ _ w.heap.size rfl (setRow_heap _ _ _ _ _ _ R4.out)
  · exact own_base (base' := w.heap.size) (own_grown O4.out (K.setRow_grown w5 w.heap.size #[.int .i64 x3, .int .i64 x.sport, .int .i64 x.dport, .int .i64 x.seq, .int .i64 x.ack, .int .i64 x.bits, .int .i64 x.window, .int .i64 x.urgent, .int .i64 x.ty, .int .i64 x.code, .int .i64 x.rest, .bool x.nosum, .slice O os.length oc, .slice D0 ds.length d0]) (fun k h1 h2 => by cases h2; have := (O4.out.lt _ h1).1; omega)) (by omega)
  · exact own_base (base' := w.heap.size) (own_grown B4.out (K.setRow_grown w5 w.heap.size #[.int .i64 x3, .int .i64 x.sport, .int .i64 x.dport, .int .i64 x.seq, .int .i64 x.ack, .int .i64 x.bits, .int .i64 x.window, .int .i64 x.urgent, .int .i64 x.ty, .int .i64 x.code, .int .i64 x.rest, .bool x.nosum, .slice O os.length oc, .slice D0 ds.length d0]) (fun k h1 h2 => by cases h2; have := (B4.out.lt _ h1).1; omega)) (by omega)
  · exact C4.out.grownBy (K.setRow_grown _ _ _) (fun u hu => by cases hu; omega)
  · exact grown_other G4.out (K.setRow_grown _ _ _) (fun u hu => by cases hu; omega)

set_option maxHeartbeats 4000000 in
theorem badUp_7 (want k : Int) (bs : List UInt8) (t s : Nat) (ht : t ≤ 700000000000) (x : Uh) (os ds : List UInt8) (t1 s1 : Nat) (hos : os.length ≤ 40) (_ : ds.length ≤ 40) (ht1 : t1 ≤ t + 100) (HF : Hid (∀ (w : World) (g : Nat) (A : Option Addr) (c : Nat), CurS w g A c bs t s → Calls Try.prog 95 #[.pointer (some ⟨g, 0, none⟩), .int .i64 want, .int .i64 k] w (GivesUp w g A c bs t1 s1 x os ds))) (q : Int) (s2 : Nat) (hq : q = 7) (HK : Hid (∀ (w : World) (g : Nat) (A : Option Addr) (c : Nat), CurS w g A c bs t1 s1 → Calls Try.prog 57 #[.pointer (some ⟨g, 0, none⟩), .int .i64 14] w (Gives w g A c bs (t1 + 1) s2 q))) :
    ∃ (x : Uh) (os ds : List UInt8) (t' s' : Nat), os.length ≤ 45 ∧ ds.length ≤ 1500 ∧ t' ≤ t + 200 ∧ ∀ (w : World) (g : Nat) (A : Option Addr) (c : Nat), CurS w g A c bs t s → Calls Try.prog 56 #[.pointer (some ⟨g, 0, none⟩), .int .i64 want, .int .i64 k] w (GivesUp w g A c bs t' s' x os ds) := by
  subst hq
  obtain ⟨x3, s13, lo3, up3, hd3⟩ := pickE bs (t1 + 1) s2 5 (by omega) (by omega) (by omega)
  have H3 := Lib.hid hd3
  clear hd3
  obtain ⟨y3, rfl⟩ : ∃ k : Nat, x3 = k := ⟨x3.toNat, by omega⟩
  obtain ⟨u3, hu3⟩ : ∃ a, ([8, 20, 0, 7, 60] : List Int)[y3]? = some a := ⟨_, List.getElem?_eq_getElem (by simp; omega)⟩
  have HU3 := Lib.hid hu3
  clear hu3
  have hu60 : 0 ≤ u3 ∧ u3 ≤ 60 := by have h := List.mem_of_getElem? HU3.out; simp at h; omega
  obtain ⟨m, hm⟩ : ∃ m : Nat, (1500 : Int) - u3 = m := ⟨((1500 : Int) - u3).toNat, by omega⟩
  have hmw : IntKind.i64.wrap ((1500 : Int) - u3) = (m : Int) := by rw [hm, IntKind.wrap_i64]; omega
  have hm15 : m ≤ 1500 := by omega
  refine ⟨⟨x.kind, x.sport, x.dport, x.seq, x.ack, x.bits, x.window, x.urgent, x.ty, x.code, x.rest, x.nosum⟩, os, (List.replicate m 0), t1 + 1 + 1, s13, by omega, by simp; omega, by omega, fun w g A c hc0 => ?_⟩
  have hgl := hc0.lt
  have HC0 := Lib.hid (hc0.below (Joins.below_alloc1 w (.cells #[.int .i64 0, .int .i64 0, .int .i64 0, .int .i64 0, .int .i64 0, .int .i64 0, .int .i64 0, .int .i64 0, .int .i64 0, .int .i64 0, .int .i64 0, .bool false, .slice none 0 0, .slice none 0 0] 36)))
  have R0_ := Lib.hid (K.new w (.cells #[.int .i64 0, .int .i64 0, .int .i64 0, .int .i64 0, .int .i64 0, .int .i64 0, .int .i64 0, .int .i64 0, .int .i64 0, .int .i64 0, .int .i64 0, .bool false, .slice none 0 0, .slice none 0 0] 36))
  clear hc0
  go_enter Try.func56, Try.ntmps56
  go_wp2_with fail
  refine Calls.mono (HF.out _ g A c HC0.out) ?_
  rintro e w1 ⟨O, oc, D0, d0, rfl, oo, od, ap, hc2, hg2⟩
  have hb : w.heap.size < w1.heap.size := by have := hg2.size; simp at this; omega
  have q1 := Lib.hid (K.new w1 (.cells #[.int .i64 x.kind, .int .i64 x.sport, .int .i64 x.dport, .int .i64 x.seq, .int .i64 x.ack, .int .i64 x.bits, .int .i64 x.window, .int .i64 x.urgent, .int .i64 x.ty, .int .i64 x.code, .int .i64 x.rest, .bool x.nosum, .slice O os.length oc, .slice D0 ds.length d0] 36))
  have R1 := Lib.hid (K.old (K.kept hg2 R0_.out (fun k hk => by cases hk; omega)) (.cells #[.int .i64 x.kind, .int .i64 x.sport, .int .i64 x.dport, .int .i64 x.seq, .int .i64 x.ack, .int .i64 x.bits, .int .i64 x.window, .int .i64 x.urgent, .int .i64 x.ty, .int .i64 x.code, .int .i64 x.rest, .bool x.nosum, .slice O os.length oc, .slice D0 ds.length d0] 36))
  have C1 := Lib.hid (hc2.below (Joins.below_alloc1 w1 (.cells #[.int .i64 x.kind, .int .i64 x.sport, .int .i64 x.dport, .int .i64 x.seq, .int .i64 x.ack, .int .i64 x.bits, .int .i64 x.window, .int .i64 x.urgent, .int .i64 x.ty, .int .i64 x.code, .int .i64 x.rest, .bool x.nosum, .slice O os.length oc, .slice D0 ds.length d0] 36)))
  have G1 := Lib.hid (only_new (grownBy_trans (only_new (K.refl w (some g)) (.cells #[.int .i64 0, .int .i64 0, .int .i64 0, .int .i64 0, .int .i64 0, .int .i64 0, .int .i64 0, .int .i64 0, .int .i64 0, .int .i64 0, .int .i64 0, .bool false, .slice none 0 0, .slice none 0 0] 36)) hg2) (.cells #[.int .i64 x.kind, .int .i64 x.sport, .int .i64 x.dport, .int .i64 x.seq, .int .i64 x.ack, .int .i64 x.bits, .int .i64 x.window, .int .i64 x.urgent, .int .i64 x.ty, .int .i64 x.code, .int .i64 x.rest, .bool x.nosum, .slice O os.length oc, .slice D0 ds.length d0] 36))
  have B1 := Lib.hid (World.ownsRow.alloc (own_base od (show w.heap.size + 1 ≤ _ by simp)) (.cells #[.int .i64 x.kind, .int .i64 x.sport, .int .i64 x.dport, .int .i64 x.seq, .int .i64 x.ack, .int .i64 x.bits, .int .i64 x.window, .int .i64 x.urgent, .int .i64 x.ty, .int .i64 x.code, .int .i64 x.rest, .bool x.nosum, .slice O os.length oc, .slice D0 ds.length d0] 36))
  have O1 := Lib.hid (World.ownsRow.alloc (own_base oo (show w.heap.size + 1 ≤ _ by simp)) (.cells #[.int .i64 x.kind, .int .i64 x.sport, .int .i64 x.dport, .int .i64 x.seq, .int .i64 x.ack, .int .i64 x.bits, .int .i64 x.window, .int .i64 x.urgent, .int .i64 x.ty, .int .i64 x.code, .int .i64 x.rest, .bool x.nosum, .slice O os.length oc, .slice D0 ds.length d0] 36))
  have NB := Lib.hid (fun k (hk : (Value.slice D0 ds.length d0).ownBlock = some k) => show k ≠ w1.heap.size by have := (od.lt k hk).2; omega)
  have NO := Lib.hid (fun k (hk : (Value.slice O os.length oc).ownBlock = some k) => show k ≠ w1.heap.size by have := (oo.lt k hk).2; omega)
  have AP := Lib.hid ap
  clear od oo ap hc2 hg2 HC0 R0_
  go_wp2_with (with_reducible refine storeNewU rfl _ _ rfl rfl rfl ?_)
  generalize (w1.alloc (.cells #[.int .i64 x.kind, .int .i64 x.sport, .int .i64 x.dport, .int .i64 x.seq, .int .i64 x.ack, .int .i64 x.bits, .int .i64 x.window, .int .i64 x.urgent, .int .i64 x.ty, .int .i64 x.code, .int .i64 x.rest, .bool x.nosum, .slice O os.length oc, .slice D0 ds.length d0] 36)) = w2 at q1 R1 C1 G1 B1 O1 ⊢
  refine Calls.mono (HK.out _ g A c C1.out) ?_
  rintro e w3 ⟨rfl, hc2, hg2⟩
  have q2 := Lib.hid (K.kept hg2 q1.out (fun k hk => by cases hk; omega))
  have R2 := Lib.hid (K.kept hg2 R1.out (fun k hk => by cases hk; omega))
  have C2 := Lib.hid hc2
  have G2 := Lib.hid (grownBy_trans G1.out hg2)
  have B2 := Lib.hid (own_grown B1.out hg2 (fun k h1 h2 => by cases h2; have := (B1.out.lt _ h1).1; omega))
  have O2 := Lib.hid (own_grown O1.out hg2 (fun k h1 h2 => by cases h2; have := (O1.out.lt _ h1).1; omega))
  clear hc2 hg2 q1 R1 C1 G1 B1 O1
  have gk := C2.out.lt
  have q3 := Lib.hid (K.old q2.out (.cells #[.int .i64 8, .int .i64 20, .int .i64 0, .int .i64 7, .int .i64 60] 3))
  have R3 := Lib.hid (K.old R2.out (.cells #[.int .i64 8, .int .i64 20, .int .i64 0, .int .i64 7, .int .i64 60] 3))
  have C3 := Lib.hid (C2.out.below (Joins.below_alloc1 w3 (.cells #[.int .i64 8, .int .i64 20, .int .i64 0, .int .i64 7, .int .i64 60] 3)))
  have G3 := Lib.hid (only_new G2.out (.cells #[.int .i64 8, .int .i64 20, .int .i64 0, .int .i64 7, .int .i64 60] 3))
  have B3 := Lib.hid (World.ownsRow.alloc B2.out (.cells #[.int .i64 8, .int .i64 20, .int .i64 0, .int .i64 7, .int .i64 60] 3))
  have O3 := Lib.hid (World.ownsRow.alloc O2.out (.cells #[.int .i64 8, .int .i64 20, .int .i64 0, .int .i64 7, .int .i64 60] 3))
  go_wp2_with fail
  clear q2 R2 C2 G2 B2 O2
  refine Calls.mono (H3.out _ g A c C3.out) ?_
  rintro e w4 ⟨rfl, hc2, hg2⟩
  have q4 := Lib.hid (K.kept hg2 q3.out (fun k hk => by cases hk; omega))
  have R4 := Lib.hid (K.kept hg2 R3.out (fun k hk => by cases hk; omega))
  have C4 := Lib.hid hc2
  have G4 := Lib.hid (grownBy_trans G3.out hg2)
  have B4 := Lib.hid (own_grown B3.out hg2 (fun k h1 h2 => by cases h2; have := (B3.out.lt _ h1).1; omega))
  have O4 := Lib.hid (own_grown O3.out hg2 (fun k h1 h2 => by cases h2; have := (O3.out.lt _ h1).1; omega))
  have cf := hg2.cell (K.row_cells w3 [8, 20, 0, 7, 60] _ rfl 3 y3 u3 HU3.out) (fun e => by have e2 : w3.heap.size = g := Option.some.inj e; omega)
  clear hc2 hg2 q3 R3 C3 G3 B3 O3
  have hyt : (y3 : Int) < 5 := by omega
  have hlq := K.lt q4.out
  obtain ⟨i0, hi0, hz0, hz1, hz2⟩ := info_parts info_u8
  go_upto_region 19 with (at_make; refine wpList_make_full _ rfl _ _ 34 rfl (w1.heap.size + 1) 5 i0 (.int .u8 0) 1 Try.underlying34 hi0 hz0 hz1 _ _ _ _ m rfl rfl rfl rfl (by rw [hz2]; omega) (by unfold maxLen; omega) (by omega) ?_; intro w5 hown hgm; have HOM := Lib.hid hown; have HGM := Lib.hid hgm; clear hown hgm; have uu := K.cell (K.kept HGM.out q4.out (fun k hk => by cases hk)) 13 _ rfl; have yy := frozen_of_row _ _ 13 _ _ (K.kept HGM.out q4.out (fun k hk => by cases hk)))
  have q5 := Lib.hid (K.kept HGM.out q4.out (fun k hk => by cases hk))
  have R5 := Lib.hid (K.kept HGM.out R4.out (fun k hk => by cases hk))
  have C5 := Lib.hid (C4.out.grownBy HGM.out (fun k hk => by cases hk))
  have G5 := Lib.hid (grown_other G4.out HGM.out (fun k hk => by cases hk))
  have O5 := Lib.hid (own_grown O4.out HGM.out (fun k hk e => by cases e))
  have Bm5 := Lib.hid (made_zeroF m ▸ HOM.out)
  have NBm := Lib.hid (show ∀ k, (Value.slice (some ⟨w4.heap.size, 0, none⟩) m m).ownBlock = some k → k ≠ w1.heap.size from fun k hk => by have := (HOM.out.lt k hk).1; omega)
  have APBm := Lib.hid (show ∀ k, (Value.slice (some ⟨w4.heap.size, 0, none⟩) m m).ownBlock = some k → w4.heap.size ≤ k from fun k hk => by simp [Value.ownBlock] at hk; omega)
  have LO := Lib.hid (fun k hk => (O4.out.lt k hk).2)
  clear HOM HGM uu yy q4 R4 C4 G4 B4 O4
  have q6 : Hid ((w5.setCell ⟨w1.heap.size, 13, none⟩ (.slice (some ⟨w4.heap.size, 0, none⟩) m m)).heap[w1.heap.size]? = some (.cells #[.int .i64 x.kind, .int .i64 x.sport, .int .i64 x.dport, .int .i64 x.seq, .int .i64 x.ack, .int .i64 x.bits, .int .i64 x.window, .int .i64 x.urgent, .int .i64 x.ty, .int .i64 x.code, .int .i64 x.rest, .bool x.nosum, .slice O os.length oc, .slice (some ⟨w4.heap.size, 0, none⟩) m m] 36 (0, 0))) := Lib.hid (K.set q5.out 13 _)
  have R6 := Lib.hid (K.other R5.out w1.heap.size 13 (.slice (some ⟨w4.heap.size, 0, none⟩) m m) (by omega))
  have C6 := Lib.hid (C5.out.grownBy (grownBy_set w5 w1.heap.size 13 (.slice (some ⟨w4.heap.size, 0, none⟩) m m)) (fun u hu => by cases hu; omega))
  have G6 := Lib.hid (grown_other G5.out (grownBy_set w5 w1.heap.size 13 (.slice (some ⟨w4.heap.size, 0, none⟩) m m)) (fun u hu => by cases hu; omega))
  have O6 := Lib.hid (own_grown O5.out (grownBy_set w5 w1.heap.size 13 (.slice (some ⟨w4.heap.size, 0, none⟩) m m)) (fun k h1 h2 => by cases h2; exact NO.out _ h1 rfl))
  have Bm6 := Lib.hid (own_grown Bm5.out (grownBy_set w5 w1.heap.size 13 (.slice (some ⟨w4.heap.size, 0, none⟩) m m)) (fun k h1 h2 => by cases h2; exact NBm.out _ h1 rfl))
  clear q5 R5 C5 G5 O5 Bm5
  generalize (w5.setCell ⟨w1.heap.size, 13, none⟩ (.slice (some ⟨w4.heap.size, 0, none⟩) m m)) = w6 at q6 R6 C6 G6 O6 Bm6 ⊢
  clear cf gk
  go_wp2_with (first | (with_reducible refine loadU rfl _ rfl w1.heap.size rfl q6.out ?_) | (with_reducible refine storeU rfl _ _ rfl w.heap.size rfl rfl R6.out ?_))
  (try simp only [Exit.inBlock, Exit.then])
  refine bodyPost_ret (v := .agg #[.int .i64 x.kind, .int .i64 x.sport, .int .i64 x.dport, .int .i64 x.seq, .int .i64 x.ack, .int .i64 x.bits, .int .i64 x.window, .int .i64 x.urgent, .int .i64 x.ty, .int .i64 x.code, .int .i64 x.rest, .bool x.nosum, .slice O os.length oc, .slice (some ⟨w4.heap.size, 0, none⟩) m m]) ?_ rfl ⟨O, oc, (some ⟨w4.heap.size, 0, none⟩), m, by rw [List.length_replicate], ?_, ?_, (fun k h1 h2 => by rw [List.length_replicate] at h2; have := APBm.out k h2; have := LO.out k h1; omega), ?_, ?_⟩
  · exact resU Try.results56 _ _ w.heap.size rfl (setRow_heap _ _ _ _ _ _ R6.out)
  · exact own_base (base' := w.heap.size) (own_grown O6.out (K.setRow_grown w6 w.heap.size #[.int .i64 x.kind, .int .i64 x.sport, .int .i64 x.dport, .int .i64 x.seq, .int .i64 x.ack, .int .i64 x.bits, .int .i64 x.window, .int .i64 x.urgent, .int .i64 x.ty, .int .i64 x.code, .int .i64 x.rest, .bool x.nosum, .slice O os.length oc, .slice (some ⟨w4.heap.size, 0, none⟩) m m]) (fun k h1 h2 => by cases h2; have := (O6.out.lt _ h1).1; omega)) (by omega)
  · exact by have this := own_base (base' := w.heap.size) (own_grown Bm6.out (K.setRow_grown w6 w.heap.size #[.int .i64 x.kind, .int .i64 x.sport, .int .i64 x.dport, .int .i64 x.seq, .int .i64 x.ack, .int .i64 x.bits, .int .i64 x.window, .int .i64 x.urgent, .int .i64 x.ty, .int .i64 x.code, .int .i64 x.rest, .bool x.nosum, .slice O os.length oc, .slice (some ⟨w4.heap.size, 0, none⟩) m m]) (fun k h1 h2 => by cases h2; have := (Bm6.out.lt _ h1).1; omega)) (by omega); rw [List.length_replicate]; exact this
  · exact C6.out.grownBy (K.setRow_grown _ _ _) (fun u hu => by cases hu; omega)
  · exact grown_other G6.out (K.setRow_grown _ _ _) (fun u hu => by cases hu; omega)

set_option maxHeartbeats 4000000 in
theorem badUp_8 (want k : Int) (bs : List UInt8) (t s : Nat) (_ : t ≤ 700000000000) (x : Uh) (os ds : List UInt8) (t1 s1 : Nat) (hos : os.length ≤ 40) (hds : ds.length ≤ 40) (ht1 : t1 ≤ t + 100) (HF : Hid (∀ (w : World) (g : Nat) (A : Option Addr) (c : Nat), CurS w g A c bs t s → Calls Try.prog 95 #[.pointer (some ⟨g, 0, none⟩), .int .i64 want, .int .i64 k] w (GivesUp w g A c bs t1 s1 x os ds))) (q : Int) (s2 : Nat) (hq : 7 < q) (HK : Hid (∀ (w : World) (g : Nat) (A : Option Addr) (c : Nat), CurS w g A c bs t1 s1 → Calls Try.prog 57 #[.pointer (some ⟨g, 0, none⟩), .int .i64 14] w (Gives w g A c bs (t1 + 1) s2 q))) :
    ∃ (x : Uh) (os ds : List UInt8) (t' s' : Nat), os.length ≤ 45 ∧ ds.length ≤ 1500 ∧ t' ≤ t + 200 ∧ ∀ (w : World) (g : Nat) (A : Option Addr) (c : Nat), CurS w g A c bs t s → Calls Try.prog 56 #[.pointer (some ⟨g, 0, none⟩), .int .i64 want, .int .i64 k] w (GivesUp w g A c bs t' s' x os ds) := by
  refine ⟨⟨x.kind, x.sport, x.dport, x.seq, x.ack, x.bits, x.window, x.urgent, x.ty, x.code, x.rest, x.nosum⟩, os, ds, t1 + 1, s2, by omega, by omega, by omega, fun w g A c hc0 => ?_⟩
  have hgl := hc0.lt
  have HC0 := Lib.hid (hc0.below (Joins.below_alloc1 w (.cells #[.int .i64 0, .int .i64 0, .int .i64 0, .int .i64 0, .int .i64 0, .int .i64 0, .int .i64 0, .int .i64 0, .int .i64 0, .int .i64 0, .int .i64 0, .bool false, .slice none 0 0, .slice none 0 0] 36)))
  have R0_ := Lib.hid (K.new w (.cells #[.int .i64 0, .int .i64 0, .int .i64 0, .int .i64 0, .int .i64 0, .int .i64 0, .int .i64 0, .int .i64 0, .int .i64 0, .int .i64 0, .int .i64 0, .bool false, .slice none 0 0, .slice none 0 0] 36))
  clear hc0
  go_enter Try.func56, Try.ntmps56
  go_wp2_with fail
  refine Calls.mono (HF.out _ g A c HC0.out) ?_
  rintro e w1 ⟨O, oc, D0, d0, rfl, oo, od, ap, hc2, hg2⟩
  have hb : w.heap.size < w1.heap.size := by have := hg2.size; simp at this; omega
  have q1 := Lib.hid (K.new w1 (.cells #[.int .i64 x.kind, .int .i64 x.sport, .int .i64 x.dport, .int .i64 x.seq, .int .i64 x.ack, .int .i64 x.bits, .int .i64 x.window, .int .i64 x.urgent, .int .i64 x.ty, .int .i64 x.code, .int .i64 x.rest, .bool x.nosum, .slice O os.length oc, .slice D0 ds.length d0] 36))
  have R1 := Lib.hid (K.old (K.kept hg2 R0_.out (fun k hk => by cases hk; omega)) (.cells #[.int .i64 x.kind, .int .i64 x.sport, .int .i64 x.dport, .int .i64 x.seq, .int .i64 x.ack, .int .i64 x.bits, .int .i64 x.window, .int .i64 x.urgent, .int .i64 x.ty, .int .i64 x.code, .int .i64 x.rest, .bool x.nosum, .slice O os.length oc, .slice D0 ds.length d0] 36))
  have C1 := Lib.hid (hc2.below (Joins.below_alloc1 w1 (.cells #[.int .i64 x.kind, .int .i64 x.sport, .int .i64 x.dport, .int .i64 x.seq, .int .i64 x.ack, .int .i64 x.bits, .int .i64 x.window, .int .i64 x.urgent, .int .i64 x.ty, .int .i64 x.code, .int .i64 x.rest, .bool x.nosum, .slice O os.length oc, .slice D0 ds.length d0] 36)))
  have G1 := Lib.hid (only_new (grownBy_trans (only_new (K.refl w (some g)) (.cells #[.int .i64 0, .int .i64 0, .int .i64 0, .int .i64 0, .int .i64 0, .int .i64 0, .int .i64 0, .int .i64 0, .int .i64 0, .int .i64 0, .int .i64 0, .bool false, .slice none 0 0, .slice none 0 0] 36)) hg2) (.cells #[.int .i64 x.kind, .int .i64 x.sport, .int .i64 x.dport, .int .i64 x.seq, .int .i64 x.ack, .int .i64 x.bits, .int .i64 x.window, .int .i64 x.urgent, .int .i64 x.ty, .int .i64 x.code, .int .i64 x.rest, .bool x.nosum, .slice O os.length oc, .slice D0 ds.length d0] 36))
  have B1 := Lib.hid (World.ownsRow.alloc (own_base od (show w.heap.size + 1 ≤ _ by simp)) (.cells #[.int .i64 x.kind, .int .i64 x.sport, .int .i64 x.dport, .int .i64 x.seq, .int .i64 x.ack, .int .i64 x.bits, .int .i64 x.window, .int .i64 x.urgent, .int .i64 x.ty, .int .i64 x.code, .int .i64 x.rest, .bool x.nosum, .slice O os.length oc, .slice D0 ds.length d0] 36))
  have O1 := Lib.hid (World.ownsRow.alloc (own_base oo (show w.heap.size + 1 ≤ _ by simp)) (.cells #[.int .i64 x.kind, .int .i64 x.sport, .int .i64 x.dport, .int .i64 x.seq, .int .i64 x.ack, .int .i64 x.bits, .int .i64 x.window, .int .i64 x.urgent, .int .i64 x.ty, .int .i64 x.code, .int .i64 x.rest, .bool x.nosum, .slice O os.length oc, .slice D0 ds.length d0] 36))
  have NB := Lib.hid (fun k (hk : (Value.slice D0 ds.length d0).ownBlock = some k) => show k ≠ w1.heap.size by have := (od.lt k hk).2; omega)
  have NO := Lib.hid (fun k (hk : (Value.slice O os.length oc).ownBlock = some k) => show k ≠ w1.heap.size by have := (oo.lt k hk).2; omega)
  have AP := Lib.hid ap
  clear od oo ap hc2 hg2 HC0 R0_
  go_wp2_with (with_reducible refine storeNewU rfl _ _ rfl rfl rfl ?_)
  generalize (w1.alloc (.cells #[.int .i64 x.kind, .int .i64 x.sport, .int .i64 x.dport, .int .i64 x.seq, .int .i64 x.ack, .int .i64 x.bits, .int .i64 x.window, .int .i64 x.urgent, .int .i64 x.ty, .int .i64 x.code, .int .i64 x.rest, .bool x.nosum, .slice O os.length oc, .slice D0 ds.length d0] 36)) = w2 at q1 R1 C1 G1 B1 O1 ⊢
  refine Calls.mono (HK.out _ g A c C1.out) ?_
  rintro e w3 ⟨rfl, hc2, hg2⟩
  have q2 := Lib.hid (K.kept hg2 q1.out (fun k hk => by cases hk; omega))
  have R2 := Lib.hid (K.kept hg2 R1.out (fun k hk => by cases hk; omega))
  have C2 := Lib.hid hc2
  have G2 := Lib.hid (grownBy_trans G1.out hg2)
  have B2 := Lib.hid (own_grown B1.out hg2 (fun k h1 h2 => by cases h2; have := (B1.out.lt _ h1).1; omega))
  have O2 := Lib.hid (own_grown O1.out hg2 (fun k h1 h2 => by cases h2; have := (O1.out.lt _ h1).1; omega))
  clear hc2 hg2 q1 R1 C1 G1 B1 O1
  go_wp2_with (first | (with_reducible refine loadU rfl _ rfl w1.heap.size rfl q2.out ?_) | (with_reducible refine storeU rfl _ _ rfl w.heap.size rfl rfl R2.out ?_))
  (try simp only [Exit.inBlock, Exit.then])
  refine bodyPost_ret (v := .agg #[.int .i64 x.kind, .int .i64 x.sport, .int .i64 x.dport, .int .i64 x.seq, .int .i64 x.ack, .int .i64 x.bits, .int .i64 x.window, .int .i64 x.urgent, .int .i64 x.ty, .int .i64 x.code, .int .i64 x.rest, .bool x.nosum, .slice O os.length oc, .slice D0 ds.length d0]) ?_ rfl ⟨O, oc, D0, d0, rfl, ?_, ?_, AP.out, ?_, ?_⟩
  · exact resU Try.results56 _ _ w.heap.size rfl (setRow_heap _ _ _ _ _ _ R2.out)
  · exact own_base (base' := w.heap.size) (own_grown O2.out (K.setRow_grown w3 w.heap.size #[.int .i64 x.kind, .int .i64 x.sport, .int .i64 x.dport, .int .i64 x.seq, .int .i64 x.ack, .int .i64 x.bits, .int .i64 x.window, .int .i64 x.urgent, .int .i64 x.ty, .int .i64 x.code, .int .i64 x.rest, .bool x.nosum, .slice O os.length oc, .slice D0 ds.length d0]) (fun k h1 h2 => by cases h2; have := (O2.out.lt _ h1).1; omega)) (by omega)
  · exact own_base (base' := w.heap.size) (own_grown B2.out (K.setRow_grown w3 w.heap.size #[.int .i64 x.kind, .int .i64 x.sport, .int .i64 x.dport, .int .i64 x.seq, .int .i64 x.ack, .int .i64 x.bits, .int .i64 x.window, .int .i64 x.urgent, .int .i64 x.ty, .int .i64 x.code, .int .i64 x.rest, .bool x.nosum, .slice O os.length oc, .slice D0 ds.length d0]) (fun k h1 h2 => by cases h2; have := (B2.out.lt _ h1).1; omega)) (by omega)
  · exact C2.out.grownBy (K.setRow_grown _ _ _) (fun u hu => by cases hu; omega)
  · exact grown_other G2.out (K.setRow_grown _ _ _) (fun u hu => by cases hu; omega)
end Go.Proofs.Ythogonpjkngpjaa

namespace Go.Proofs.Ythogonpjkngpjaa
set_option maxRecDepth 100000
open Go.RowKit

theorem badUpE (want k : Int) (hw : want = 0 ∨ want = 1 ∨ want = 2 ∨ want = 3) (hk : k = 4 ∨ k = 6) (bs : List UInt8) (t s : Nat) (ht : t ≤ 700000000000) (hb : bs.length ≤ 1048576) :
    ∃ (x : Uh) (os ds : List UInt8) (t' s' : Nat), os.length ≤ 45 ∧ ds.length ≤ 1500 ∧ t' ≤ t + 200 ∧ ∀ (w : World) (g : Nat) (A : Option Addr) (c : Nat), CurS w g A c bs t s → Calls Try.prog 56 #[.pointer (some ⟨g, 0, none⟩), .int .i64 want, .int .i64 k] w (GivesUp w g A c bs t' s' x os ds) := by
  obtain ⟨d0, t0, s0, hd0, ht0, hb0⟩ := bytesE bs t s 40 (by omega) (by omega) (by omega) hb
  have HB := Lib.hid hb0
  have hup : ∃ (x : Uh) (os ds : List UInt8) (t' s' : Nat), os.length ≤ 40 ∧ ds.length ≤ 40 ∧ t' ≤ t + 100 ∧ ∀ (w : World) (g : Nat) (A : Option Addr) (c : Nat), CurS w g A c bs t s → Calls Try.prog 95 #[.pointer (some ⟨g, 0, none⟩), .int .i64 want, .int .i64 k] w (GivesUp w g A c bs t' s' x os ds) := by
    rcases hw with rfl | rfl | rfl | rfl
    · exact upE_0 k bs t s ht d0 t0 s0 hd0 ht0 HB
    · exact upE_1 k bs t s ht d0 t0 s0 hd0 ht0 HB
    · rcases hk with rfl | rfl
      · exact upE_2_4 bs t s ht d0 t0 s0 hd0 ht0 HB
      · exact upE_2_6 bs t s ht d0 t0 s0 hd0 ht0 HB
    · exact upE_3 k bs t s ht d0 t0 s0 hd0 ht0 HB
  obtain ⟨x, os, ds, t1, s1, hos, hds, ht1, hf⟩ := hup
  obtain ⟨q, s2, lo, up, hq⟩ := pickE bs t1 s1 14 (by omega) (by omega) (by omega)
  rcases (show q = 0 ∨ q = 1 ∨ q = 2 ∨ q = 3 ∨ q = 4 ∨ q = 5 ∨ q = 6 ∨ q = 7 ∨ 7 < q by omega) with rfl | rfl | rfl | rfl | rfl | rfl | rfl | rfl | h8
  · exact badUp_0 want k bs t s ht x os ds t1 s1 hos hds ht1 (Lib.hid hf) _ s2 rfl (Lib.hid hq)
  · exact badUp_1 want k bs t s ht x os ds t1 s1 hos hds ht1 (Lib.hid hf) _ s2 rfl (Lib.hid hq)
  · exact badUp_2 want k bs t s ht x os ds t1 s1 hos hds ht1 (Lib.hid hf) _ s2 rfl (Lib.hid hq)
  · exact badUp_3 want k bs t s ht x os ds t1 s1 hos hds ht1 (Lib.hid hf) _ s2 rfl (Lib.hid hq)
  · exact badUp_4 want k bs t s ht x os ds t1 s1 hos hds ht1 (Lib.hid hf) _ s2 rfl (Lib.hid hq)
  · exact badUp_5 want k bs t s ht x os ds t1 s1 hos hds ht1 (Lib.hid hf) _ s2 rfl (Lib.hid hq)
  · exact badUp_6 want k bs t s ht x os ds t1 s1 hos hds ht1 (Lib.hid hf) _ s2 rfl (Lib.hid hq)
  · exact badUp_7 want k bs t s ht x os ds t1 s1 hos hds ht1 (Lib.hid hf) _ s2 rfl (Lib.hid hq)
  · exact badUp_8 want k bs t s ht x os ds t1 s1 hos hds ht1 (Lib.hid hf) q s2 h8 (Lib.hid hq)
end Go.Proofs.Ythogonpjkngpjaa

namespace Go.Proofs.Ythogonpjkngpjaa
set_option maxRecDepth 100000
open Go.RowKit

def kindB (k : Int) : Bool := (k == 4) || (k == 6)
/-- The fields that the kind uses are in their ranges. -/
def Uh.fields (x : Uh) (k : Int) (o : Nat) : Bool :=
  if x.kind = 0 then true
  else if x.kind = 1 then upTo x.sport 65535 && upTo x.dport 65535 && half x.seq && half x.ack && upTo x.bits 4095 && upTo x.window 65535 && upTo x.urgent 65535 && optOk o
  else if x.kind = 2 then upTo x.sport 65535 && upTo x.dport 65535 && ((k == 4) || !x.nosum)
  else if x.kind = 3 then upTo x.ty 255 && upTo x.code 255 && half x.rest
  else false
/-- No field is set. -/
def noF (x : Uh) (o : Nat) : Bool := (x.sport == 0) && (x.dport == 0) && (x.seq == 0) && (x.ack == 0) && (x.bits == 0) && (x.window == 0) && (x.urgent == 0) && (x.ty == 0) && (x.code == 0) && (x.rest == 0) && !x.nosum && decide (o = 0)
/-- The fields that the kind does not use. -/
def Uh.unused (x : Uh) : Uh :=
  if x.kind = 1 then { x with sport := 0, dport := 0, seq := 0, ack := 0, bits := 0, window := 0, urgent := 0 }
  else if x.kind = 2 then { x with sport := 0, dport := 0, nosum := false }
  else if x.kind = 3 then { x with ty := 0, code := 0, rest := 0 }
  else x
/-- Is an upper layer with o bytes of options and n of a body valid between addresses of kind k? -/
def Uh.ok (x : Uh) (k : Int) (o n : Nat) : Bool := kindB k && x.fields k o && noF x.unused (if x.kind = 1 then 0 else o) && decide (x.size o n ≤ 1500)
theorem upTo_zero (h : Int) (hh : 0 ≤ h) : upTo 0 h = true := by simp [upTo, hh]
end Go.Proofs.Ythogonpjkngpjaa

namespace Go.Proofs.Ythogonpjkngpjaa
set_option maxRecDepth 100000
open Go.RowKit

def tcpH (x : Uh) (o : List UInt8) (sum : Int) : List UInt8 := put16 x.sport ++ put16 x.dport ++ put32 x.seq ++ put32 x.ack ++ put16 (4096 * (5 + (o.length : Int) / 4) + x.bits) ++ put16 x.window ++ put16 sum ++ put16 x.urgent ++ o
def udpH (x : Uh) (n : Nat) (sum : Int) : List UInt8 := put16 x.sport ++ put16 x.dport ++ put16 (8 + (n : Int)) ++ put16 sum
def icmpH (x : Uh) (sum : Int) : List UInt8 := [byteOf x.ty, byteOf x.code] ++ put16 sum ++ put32 x.rest
/-- The bytes of an upper layer with a checksum. -/
def Uh.enc (x : Uh) (o bs : List UInt8) (sum : Int) : List UInt8 :=
  (if x.kind = 1 then tcpH x o sum else if x.kind = 2 then udpH x bs.length sum else if x.kind = 3 then icmpH x sum else []) ++ bs
theorem tcpH_len (x : Uh) (o : List UInt8) (s : Int) : (tcpH x o s).length = 20 + o.length := by simp [tcpH, put16, put32]; omega
theorem udpH_len (x : Uh) (n : Nat) (s : Int) : (udpH x n s).length = 8 := by simp [udpH, put16]
theorem icmpH_len (x : Uh) (s : Int) : (icmpH x s).length = 8 := by simp [icmpH, put16, put32]
theorem Uh.enc_len (x : Uh) (o bs : List UInt8) (s : Int) (hk : x.kind = 0 ∨ x.kind = 1 ∨ x.kind = 2 ∨ x.kind = 3) : ((x.enc o bs s).length : Int) = x.size o.length bs.length := by
  rcases hk with h | h | h | h
  · simp [Uh.enc, Uh.size, h]
  · simp [Uh.enc, Uh.size, h, tcpH_len]
  · simp [Uh.enc, Uh.size, h, udpH_len]
  · simp [Uh.enc, Uh.size, h, icmpH_len]
end Go.Proofs.Ythogonpjkngpjaa

namespace Go.Proofs.Ythogonpjkngpjaa
set_option maxRecDepth 100000
open Go.RowKit

/-- The part of the checksum that the addresses have. -/
def Uh.top (x : Uh) (o n : Nat) (a b : Ad) : Int :=
  if x.kind = 1 then psSum a b 6 (x.size o n) else if x.kind = 2 then psSum a b 17 (x.size o n) else if a.k = 6 then psSum a b 58 (x.size o n) else 0
/-- The checksum with the last exception. -/
def udp0 (k s : Int) : Int := if k = 2 ∧ s = 0 then 65535 else s
def Uh.sum (x : Uh) (o bs : List UInt8) (a b : Ad) : Int :=
  if (pairA a b && x.ok a.k o.length bs.length) = true then
    (if x.kind = 0 ∨ x.nosum = true then 0 else udp0 x.kind (65535 - sadd (x.top o.length bs.length a b) (onesSum (x.enc o bs 0))))
  else -1
theorem Uh.ok_facts {x : Uh} {k : Int} {o n : Nat} (h : x.ok k o n = true) : kindB k = true ∧ x.fields k o = true ∧ noF x.unused (if x.kind = 1 then 0 else o) = true ∧ x.size o n ≤ 1500 := by
  simpa [Uh.ok, and_assoc] using h
theorem Uh.ok_kind {x : Uh} {k : Int} {o n : Nat} (h : x.ok k o n = true) : x.kind = 0 ∨ x.kind = 1 ∨ x.kind = 2 ∨ x.kind = 3 := by
  have hf := (Uh.ok_facts h).2.1
  unfold Uh.fields at hf
  split at hf
  · omega
  · split at hf
    · omega
    · split at hf
      · omega
      · split at hf
        · omega
        · cases hf
/-- A valid upper layer has at most 40 bytes of options, a multiple of four; its body is no longer than 1500; its size lies within 0 and 1500. -/
theorem Uh.ok_room {x : Uh} {k : Int} {o n : Nat} (h : x.ok k o n = true) : o ≤ 40 ∧ o % 4 = 0 ∧ n ≤ 1500 ∧ 0 ≤ x.size o n ∧ x.size o n ≤ 1500 := by
  obtain ⟨_, hf, hn, hs⟩ := Uh.ok_facts h
  rcases Uh.ok_kind h with e | e | e | e
  · simp [noF, e] at hn
    simp [Uh.size, e] at hs ⊢
    omega
  · simp [Uh.fields, e, optOk] at hf
    simp [Uh.size, e] at hs ⊢
    omega
  · simp [noF, e] at hn
    simp [Uh.size, e] at hs ⊢
    omega
  · simp [noF, e] at hn
    simp [Uh.size, e] at hs ⊢
    omega
theorem Uh.ok_tcp {x : Uh} {k : Int} {o n : Nat} (h : x.ok k o n = true) (e : x.kind = 1) : 0 ≤ x.bits ∧ x.bits ≤ 4095 := by
  have hf := (Uh.ok_facts h).2.1
  simp [Uh.fields, e, upTo] at hf
  omega
theorem Uh.ok_icmp {x : Uh} {k : Int} {o n : Nat} (h : x.ok k o n = true) (e : x.kind = 3) : (0 ≤ x.ty ∧ x.ty ≤ 255) ∧ 0 ≤ x.code ∧ x.code ≤ 255 := by
  have hf := (Uh.ok_facts h).2.1
  simp [Uh.fields, e, upTo] at hf
  omega
theorem psSum_word {a b : Ad} {p s : Int} (h : pairA a b = true) (hp : upTo p 255 = true) (hs : upTo s 1500 = true) : isWord (psSum a b p s) = true := by
  rw [psSum_yes (by simp [h, hp, hs])]
  apply onesSum_word
  have hxy : (a.ok = true ∧ b.ok = true) ∧ a.k = b.k := by simpa [pairA] using h
  have l1 : a.bytes.length ≤ 16 := by simp [Ad.bytes, hxy.1.1]; split <;> simp [put32, Ad.whole_length]
  have l2 : b.bytes.length ≤ 16 := by simp [Ad.bytes, hxy.1.2]; split <;> simp [put32, Ad.whole_length]
  unfold psBytes
  split <;> simp [put16, put32] <;> omega
theorem Uh.top_word {x : Uh} {o n : Nat} {a b : Ad} (h : pairA a b = true) (k : x.ok a.k o n = true) : isWord (x.top o n a b) = true := by
  have hs := Uh.ok_room k
  have hu : upTo (x.size o n) 1500 = true := upTo_iff.2 hs.2.2.2
  unfold Uh.top
  split
  · exact psSum_word h rfl hu
  · split
    · exact psSum_word h rfl hu
    · split
      · exact psSum_word h rfl hu
      · rfl
theorem Uh.enc_word {x : Uh} {k : Int} {o bs : List UInt8} (h : x.ok k o.length bs.length = true) (s : Int) : isWord (onesSum (x.enc o bs s)) = true := by
  apply onesSum_word
  have h1 := Uh.enc_len x o bs s (Uh.ok_kind h)
  have h2 := Uh.ok_room h
  omega
theorem Uh.sum_no {x : Uh} {o bs : List UInt8} {a b : Ad} (h : (pairA a b && x.ok a.k o.length bs.length) = false) : x.sum o bs a b = -1 := by simp [Uh.sum, h]
theorem Uh.sum_zero {x : Uh} {o bs : List UInt8} {a b : Ad} (h : (pairA a b && x.ok a.k o.length bs.length) = true) (k : x.kind = 0 ∨ x.nosum = true) : x.sum o bs a b = 0 := by rw [Uh.sum, if_pos h, if_pos k]
theorem Uh.sum_yes {x : Uh} {o bs : List UInt8} {a b : Ad} (h : (pairA a b && x.ok a.k o.length bs.length) = true) (k : ¬ (x.kind = 0 ∨ x.nosum = true)) : x.sum o bs a b = udp0 x.kind (65535 - sadd (x.top o.length bs.length a b) (onesSum (x.enc o bs 0))) := by rw [Uh.sum, if_pos h, if_neg k]
end Go.Proofs.Ythogonpjkngpjaa

namespace Go.Proofs.Ythogonpjkngpjaa
set_option maxRecDepth 100000
open Go.RowKit

section
variable {P : Program} {ops : Array Oper} {Q : Exit → Act → World → Prop}

/-- What stands while the first operations run. -/
structure KeptP (ops : Array Oper) (Γ : Nat → Bool → World → Value → Prop) (I : Bool → World → Prop) (p n k : Nat) (a0 : Act) (listed : Array Bool) (a : Act) (w : World) : Prop where
  size : listed.size = ops.size
  len : a.tmps.size = n
  defers : a.defers = a0.defers
  keep : ∀ t, (∀ (j : Nat) o, j < k → ops[j]? = some o → o.dst ≠ some t) → a.tmps.getD t undef = a0.tmps.getD t undef
  none : ∀ i, k ≤ i → listed.getD i false = false
  closed : ∀ j, listed.getD j false = true → ∀ i ∈ depsOf ops j, listed.getD i false = true
  inv : I (listed.getD p false) w
  slots : ∀ (j : Nat) o d, j < k → ops[j]? = some o → o.dst = some d → listed.getD j false = true → Γ j (listed.getD p false) w (a.tmps.getD d undef)

theorem wpAny_thenP {Γ : Nat → Bool → World → Value → Prop} {I : Bool → World → Prop} {p n k : Nat} {a0 : Act} (hf : thenB ops n k = true)
    (hpk : p < k)
    (hop : ∀ (j : Nat) o, j < k → j ≠ p → ops[j]? = some o → ∀ b a w K, ((markOf ops (p + 1) [p]).contains j = true → b = false) → (∀ t, (∀ (j : Nat) o, j < k → ops[j]? = some o → o.dst ≠ some t) → a.tmps.getD t undef = a0.tmps.getD t undef) → (∀ q ∈ needOf ops j, Γ q.1 b w (a.tmps.getD q.2 undef)) → I b w →
      (∀ v w', Γ j b w' v → (∀ i u, Γ i b w u → Γ i b w' u) → I b w' → K (a.put o.dst v) w') → o.wp P a w K Q)
    (hpp : ∀ o, ops[p]? = some o → ∀ a w K, (∀ t, (∀ (j : Nat) o, j < k → ops[j]? = some o → o.dst ≠ some t) → a.tmps.getD t undef = a0.tmps.getD t undef) → (∀ q ∈ needOf ops p, Γ q.1 false w (a.tmps.getD q.2 undef)) → I false w →
      (∀ v w', Γ p true w' v → (∀ i u, i ≠ p → Γ i false w u → Γ i true w' u) → I true w' → K (a.put o.dst v) w') → o.wp P a w K Q)
    (hend : ∀ a w, a.tmps.size = n → a.defers = a0.defers → (∀ t, (∀ (j : Nat) o, j < k → ops[j]? = some o → o.dst ≠ some t) → a.tmps.getD t undef = a0.tmps.getD t undef) →
      (∀ (j : Nat) o d, j < k → ops[j]? = some o → o.dst = some d → Γ j true w (a.tmps.getD d undef)) → I true w → wpList P ops Q (ops.toList.drop k) a w) :
    ∀ (fuel : Nat) (listed : Array Bool) (a : Act) (w : World), KeptP ops Γ I p n k a0 listed a w → ops.size ≤ up listed + fuel → wpAny P .any ops Q fuel listed a w := by
  have hks : k < ops.size := by
    simp only [thenB, Bool.and_eq_true, decide_eq_true_eq] at hf
    exact hf.1.1
  have notall : ∀ (listed : Array Bool) (a : Act) (w : World), KeptP ops Γ I p n k a0 listed a w → up listed = ops.size → False := by
    intro listed a w hk hu
    have := up_all (listed := listed) (by rw [hu, hk.size]) (i := k) (by rw [hk.size]; exact hks)
    rw [hk.none k (Nat.le_refl _)] at this
    cases this
  have nostop : ∀ (listed : Array Bool) (a : Act) (w : World), KeptP ops Γ I p n k a0 listed a w → Region.ready .any ops listed = [] → False := by
    intro listed a w hk hr
    have hall : ∀ j, j < ops.size → listed.getD j false = true := by
      intro j
      induction j using Nat.strongRecOn with
      | ind j ih =>
        intro hj
        obtain ⟨o, ho⟩ : ∃ o, ops[j]? = some o := ⟨_, Array.getElem?_eq_getElem hj⟩
        cases hg : listed.getD j false
        · have hm : j ∈ Region.ready .any ops listed := by
            refine mem_ready.2 ⟨?_, o, ho, fun e he hb => ?_⟩
            · have hj2 : j < listed.size := by rw [hk.size]; exact hj
              simpa [hj2] using hg
            · have := (thenB_at hf ho).1 e he hb
              exact ih e.on this (by omega)
          rw [hr] at hm
          cases hm
        · rfl
    have := hall k hks
    rw [hk.none k (Nat.le_refl _)] at this
    cases this
  intro fuel
  induction fuel with
  | zero =>
    intro listed a w hk hle
    exact (notall listed a w hk (by have := up_le listed; have := hk.size; omega)).elim
  | succ fuel ih =>
    intro listed a w hk hle
    refine ⟨fun hr => (nostop listed a w hk hr).elim, fun i hi => ?_⟩
    obtain ⟨h0, o, ho, hall⟩ := mem_ready.1 hi
    obtain ⟨hu, hil⟩ := up_set h0
    obtain ⟨hlt, hd, htail⟩ := thenB_at hf ho
    rcases Nat.lt_trichotomy i k with hik | hik | hik
    · obtain ⟨hg, hd⟩ := hd hik
      unfold wpOp
      simp only [ho]
      rw [if_pos (by simp [Region.wanted, hg])]
      left
      have hneed : ∀ q ∈ needOf ops i, Γ q.1 (listed.getD p false) w (a.tmps.getD q.2 undef) := fun q hq => by
        obtain ⟨⟨e, he, hep, hb⟩, oj, hoj, hdj⟩ := needOf_spec ho hq
        exact hk.slots q.1 oj q.2 (by have := hlt e he hb; omega) hoj hdj (by rw [← hep]; exact hall e he hb)
      have hnext : ∀ v w', Γ i ((listed.setIfInBounds i true).getD p false) w' v → (∀ j u, j ≠ i → Γ j (listed.getD p false) w u → Γ j ((listed.setIfInBounds i true).getD p false) w' u) → I ((listed.setIfInBounds i true).getD p false) w' → wpAny P .any ops Q fuel (listed.setIfInBounds i true) (a.put o.dst v) w' := by
        intro v w' hv hR hI
        refine ih _ _ _ ⟨by simpa using hk.size, by rw [put_size]; exact hk.len, by rw [put_defers']; exact hk.defers, fun t ht => ?_, fun j hj => ?_, fun j hl l hl2 => ?_, hI, fun j oj d hjk hj hdj hl => ?_⟩ (by omega)
        · rw [put_other a v (ht i o hik ho)]
          exact hk.keep t ht
        · rw [getD_set_ne (listed := listed) false (by omega)]
          exact hk.none j hj
        · by_cases hji : j = i
          · subst hji
            obtain ⟨o', ho', e, he, heq, hb⟩ := depsOf_spec hl2
            obtain rfl : o = o' := Option.some.inj (ho.symm.trans ho')
            rw [← heq, getD_set_ne (listed := listed) false (by have := hlt e he hb; omega)]
            exact hall e he hb
          · rw [getD_set_ne (listed := listed) false (Ne.symm hji)] at hl
            have := hk.closed j hl l hl2
            by_cases hli : l = i
            · subst hli
              simp [hil]
            · rw [getD_set_ne (listed := listed) false (Ne.symm hli)]
              exact this
        · by_cases hji : j = i
          · subst hji
            obtain rfl : o = oj := Option.some.inj (ho.symm.trans hj)
            rw [hdj, put_own a v (hd d hdj).1 hk.len]
            exact hv
          · have hne : o.dst ≠ some d := fun e => hji ((hd d e).2 j oj hjk hj hdj)
            rw [put_other a v hne]
            refine hR j _ hji (hk.slots j oj d hjk hj hdj ?_)
            rw [← getD_set_ne (listed := listed) false (Ne.symm hji)]
            exact hl
      by_cases hip : i = p
      · subst hip
        have e0 : listed.getD i false = false := by
          have h2 : i < listed.size := hil
          simpa [h2] using h0
        have e1 : (listed.setIfInBounds i true).getD i false = true := by simp [hil]
        rw [e0, e1] at hnext
        rw [e0] at hneed
        have hinv := hk.inv
        rw [e0] at hinv
        exact hpp o ho a w _ hk.keep hneed hinv (fun v w' hv hR hI => hnext v w' hv hR hI)
      · have e1 : (listed.setIfInBounds i true).getD p false = listed.getD p false := getD_set_ne (listed := listed) false hip
        rw [e1] at hnext
        refine hop i o hik hip ho _ a w _ (fun hc => ?_) hk.keep hneed hk.inv (fun v w' hv hR hI => hnext v w' hv (fun j u _ hu => hR j u hu) hI)
        cases hlp : listed.getD p false with
        | false => rfl
        | true =>
          exfalso
          have hS := markOf_spec (fun j => listed.getD j false = true) (fun j l hj hl => hk.closed j hj l hl) (p + 1) [p] (fun l hl => by simp only [List.mem_singleton] at hl; subst hl; exact hlp) i (by simpa using hc)
          have h2 : i < listed.size := hil
          have h3 : listed.getD i false = false := by simpa [h2] using h0
          rw [h3] at hS
          cases hS
    · subst hik
      have hdone : ∀ j, j < i → listed.getD j false = true := by
        have := (thenB_all hf (fun j => listed.getD j false = true ∨ j = i) (fun j l hj hl => ?_) (.inr rfl)).2
        · intro j hj
          rcases this j hj with h | h
          · exact h
          · omega
        · rcases hj with hj | rfl
          · exact .inl (hk.closed j hj l hl)
          · obtain ⟨o', ho', e, he, heq, hb⟩ := depsOf_spec hl
            obtain rfl : o = o' := Option.some.inj (ho.symm.trans ho')
            exact .inl (heq ▸ hall e he hb)
      have hpd : listed.getD p false = true := hdone p hpk
      have hw := hend a w hk.len hk.defers hk.keep (fun j oj d hjk hj hdj => by have := hk.slots j oj d hjk hj hdj (hdone j hjk); rwa [hpd] at this) (by have := hk.inv; rwa [hpd] at this)
      have hup : up listed ≤ i := by
        have h1 : up listed = (listed.toList.take i).count true + (listed.toList.drop i).count true := by
          rw [up, ← List.count_append, List.take_append_drop]
        have h2 : (listed.toList.drop i).count true = 0 := by
          rw [List.count_eq_zero]
          intro hm
          obtain ⟨q, hq, he⟩ := List.getElem_of_mem hm
          simp at hq he
          have := hk.none (i + q) (by omega)
          simp at this
          rw [Array.getElem?_eq_getElem (by omega)] at this
          simp [he] at this
        have h3 := List.count_le_length (a := true) (l := listed.toList.take i)
        simp at h3
        omega
      have T := wpAny_tail (P := P) (Q := Q) hf (fuel + 1) i listed a w (Nat.le_refl _) (by omega) hk.size (fun j hj => Iff.intro (fun h => (by
        rcases Nat.lt_or_ge j i with h2 | h2
        · exact h2
        · rw [hk.none j h2] at h
          cases h)) (fun h => hdone j h)) (by omega) hw
      exact T.2 i hi
    · exfalso
      obtain ⟨o', ho', e, he, heq, hb⟩ := depsOf_spec (htail hik)
      obtain rfl : o = o' := Option.some.inj (ho.symm.trans ho')
      have := hall e he hb
      rw [heq, hk.none (i - 1) (by omega)] at this
      cases this

/-- The region, at last: the first k operations by what each leaves, and then the frame with their values written and the rest of the list. -/
theorem wp_region_thenP {id : Nat} {a : Act} {w : World} (hmx : P.follows .mixedOrders = true) (k n : Nat) (L : List (Nat × Nat)) (R : List Oper) (hf : thenB ops n k = true) (hL : dstsOf ops k = L) (hR : ops.toList.drop k = R) (Γ : Nat → Bool → World → Value → Prop) (I : Bool → World → Prop) (p : Nat) (hpk : p < k) (hn : a.tmps.size = n) (h0 : I false { w with drawn := w.drawn + 1 })
    (hop : ∀ (j : Nat) o, j < k → j ≠ p → ops[j]? = some o → ∀ b a' w K, ((markOf ops (p + 1) [p]).contains j = true → b = false) → (∀ t, (∀ p ∈ L, p.2 ≠ t) → a'.tmps.getD t undef = a.tmps.getD t undef) → (∀ q ∈ needOf ops j, Γ q.1 b w (a'.tmps.getD q.2 undef)) → I b w →
      (∀ v w', Γ j b w' v → (∀ i u, Γ i b w u → Γ i b w' u) → I b w' → K (a'.put o.dst v) w') → o.wp P a' w K Q)
    (hpp : ∀ o, ops[p]? = some o → ∀ a' w K, (∀ t, (∀ p ∈ L, p.2 ≠ t) → a'.tmps.getD t undef = a.tmps.getD t undef) → (∀ q ∈ needOf ops p, Γ q.1 false w (a'.tmps.getD q.2 undef)) → I false w →
      (∀ v w', Γ p true w' v → (∀ i u, i ≠ p → Γ i false w u → Γ i true w' u) → I true w' → K (a'.put o.dst v) w') → o.wp P a' w K Q)
    (hend : ∀ (f : Nat → Value) w', (∀ q ∈ L, Γ q.1 true w' (f q.1)) → I true w' → wpList P ops Q R (L.foldl (fun b p => b.put (some p.2) (f p.1)) a) w') : (Code.region id ops true).wp P Q a w := by
  subst hL
  subst hR
  have keepL : ∀ (a' : Act), (∀ t, (∀ (j : Nat) o, j < k → ops[j]? = some o → o.dst ≠ some t) → a'.tmps.getD t undef = a.tmps.getD t undef) → ∀ t, (∀ p ∈ dstsOf ops k, p.2 ≠ t) → a'.tmps.getD t undef = a.tmps.getD t undef := by
    intro a' h t ht
    refine h t (fun j o hj ho hd => ?_)
    exact ht (j, t) (dstsOf_mem.2 ⟨hj, o, ho, hd⟩) rfl
  have hfl : ∀ j, (Array.replicate ops.size false).getD j false = false := by
    intro j
    simp [Array.getElem?_replicate]
    split <;> simp
  refine wp_region_any hmx (wpAny_thenP (Γ := Γ) (I := I) (p := p) (n := n) (a0 := a) hf hpk (fun j o hj hjp ho b a' w' K hc hk hnd hI hK => hop j o hj hjp ho b a' w' K hc (keepL a' hk) hnd hI hK) (fun o ho a' w' K hk hnd hI hK => hpp o ho a' w' K (keepL a' hk) hnd hI hK) ?_ ops.size _ a _ ⟨by simp, hn, rfl, fun _ _ => rfl, fun i _ => hfl i, fun j hl => absurd hl (by rw [hfl j]; simp), by rw [hfl p]; exact h0, fun j o d _ _ _ hl => absurd hl (by rw [hfl j]; simp)⟩ (by omega))
  intro a' w' hsz hdf hk hs hI
  have hdst : ∀ p ∈ dstsOf ops k, Γ p.1 true w' (a'.tmps.getD p.2 undef) ∧ p.2 < n := by
    intro p hp
    obtain ⟨h1, o, h2, h3⟩ := dstsOf_mem.1 hp
    exact ⟨hs p.1 o p.2 h1 h2 h3, (((thenB_at hf h2).2.1 h1).2 p.2 h3).1⟩
  obtain ⟨f, hfv⟩ : ∃ f : Nat → Value, ∀ p ∈ dstsOf ops k, f p.1 = a'.tmps.getD p.2 undef := by
    refine ⟨fun j => match (ops[j]?).bind (·.dst) with | some d => a'.tmps.getD d undef | none => undef, fun p hp => ?_⟩
    obtain ⟨_, o, h2, h3⟩ := dstsOf_mem.1 hp
    simp [h2, h3]
  have E := act_eqT hsz hdf (dstsOf ops k) f a hn rfl (fun p hp => ⟨(hdst p hp).2, (hfv p hp).symm⟩) (keepL a' hk)
  rw [E]
  exact hend f w' (fun p hp => by rw [hfv p hp]; exact (hdst p hp).1) hI
end
end Go.Proofs.Ythogonpjkngpjaa

namespace Go.Proofs.Ythogonpjkngpjaa
set_option maxRecDepth 100000
open Go.RowKit

/-- What an operation leaves: a value; a slice of n bytes that reads as bs; one that is the call's own; anything. -/
inductive Fo where
  | val (v : Value)
  | rb (n : Nat) (bs : List UInt8)
  | own (b n : Nat) (bs : List UInt8)
  | any
def Fo.holds : Fo → World → Value → Prop
  | .val u, _, v => v = u
  | .rb n bs, w, v => ∃ A c, v = .slice A n c ∧ RB w w.heap.size A bs
  | .own b n bs, w, v => ∃ A c, v = .slice A n c ∧ w.ownsRow b 5 1 (.slice A n c) n (cellsOf bs)
  | .any, _, _ => True
theorem Fo.on {w w' : World} (hb : Below w.heap.size w w') (f : Fo) (v : Value) (h : f.holds w v) : f.holds w' v := by
  cases f with
  | val u => exact h
  | rb n bs =>
    obtain ⟨A, c, e, r⟩ := h
    exact ⟨A, c, e, (r.below hb).more hb.size⟩
  | own b n bs =>
    obtain ⟨A, c, e, r⟩ := h
    exact ⟨A, c, e, own_below r hb⟩
  | any => trivial

section
variable {P : Program} {ops : Array Oper} {Q : Exit → Act → World → Prop}
theorem wp_region_owns {id : Nat} {a : Act} {w : World} (hmx : P.follows .mixedOrders = true) (k n : Nat) (L : List (Nat × Nat)) (R : List Oper) (F : List Fo) (hf : thenB ops n k = true) (hL : dstsOf ops k = L) (hR : ops.toList.drop k = R) (hn : a.tmps.size = n)
    (hop : ∀ (j : Nat) o, j < k → ops[j]? = some o → ∀ a' v K, (∀ t, (∀ p ∈ L, p.2 ≠ t) → a'.tmps.getD t undef = a.tmps.getD t undef) → (∀ p ∈ needOf ops j, (F.getD p.1 .any).holds v (a'.tmps.getD p.2 undef)) → Below w.heap.size w v →
      (∀ u v', (F.getD j .any).holds v' u → Below v.heap.size v v' → K (a'.put o.dst u) v') → o.wp P a' v K Q)
    (hend : ∀ (f : Nat → Value) v, (∀ p ∈ L, (F.getD p.1 .any).holds v (f p.1)) → Below w.heap.size w v → wpList P ops Q R (L.foldl (fun b p => b.put (some p.2) (f p.1)) a) v) : (Code.region id ops true).wp P Q a w := by
  refine wp_region_then hmx k n L R hf hL hR (fun j v u => (F.getD j .any).holds v u) (fun v => Below w.heap.size w v) hn ⟨rfl, rfl, rfl, Nat.le_refl _, fun _ _ => rfl⟩ ?_ (fun f v hf hB => hend f v hf hB)
  intro j o hj ho a' v K hk hnd hB hK
  exact hop j o hj ho a' v K hk hnd hB (fun u v' hu hb => hK u v' hu (fun i x hx => Fo.on hb _ _ hx) (bthen hB hb))
theorem owns_of {j : Nat} {F : List Fo} {v : World} {a' : Act} (hnd : ∀ p ∈ needOf ops j, (F.getD p.1 .any).holds v (a'.tmps.getD p.2 undef)) (i t : Nat) (h : (needOf ops j).contains (i, t) = true) : (F.getD i .any).holds v (a'.eval (.tmp t)) :=
  hnd (i, t) (by simpa using h)
end
end Go.Proofs.Ythogonpjkngpjaa

namespace Go.Proofs.Ythogonpjkngpjaa
set_option maxRecDepth 100000
open Go.RowKit

/-- A slice of N bytes that reads as L and is owned from block b0 on; all blocks below b0 are as in W. -/
structure Bd (W : World) (b0 : Nat) (w : World) (A : Option Addr) (N c : Nat) (L : List UInt8) : Prop where
  own : w.ownsRow b0 5 1 (.slice A N c) N (cellsOf L)
  keep : Below b0 W w
  low : b0 ≤ w.heap.size
  len : L.length = N

section
variable {W w w1 : World} {b0 : Nat} {A : Option Addr} {N c : Nat} {L : List UInt8}
theorem Bd.call (h : Bd W b0 w A N c L) (b : Below w.heap.size w w1) : Bd W b0 w1 A N c L := ⟨own_below h.own b, h.keep.trans (b.mono h.low), Nat.le_trans h.low b.size, h.len⟩
theorem Bd.row (h : Bd W b0 w A N c L) {g : Nat} {o : Obj} (hr : W.heap[g]? = some o) (hg : g < b0) : w.heap[g]? = some o := K.on h.keep hg hr
theorem Bd.rb (h : Bd W b0 w A N c L) {D : Option Addr} {ds : List UInt8} {B : Nat} (r : RB W B D ds) (hB : B ≤ b0) : RB w B D ds := r.below (h.keep.mono hB)
theorem Bd.to (h : Bd W b0 w A N c L) {M : Nat} {L' : List UInt8} (e : L = L') (hM : N = M) : Bd W b0 w A M c L' := by
  subst e
  subst hM
  exact h
theorem Bd.out {E : World} (h : Bd W b0 w A N c L) (hE : Below E.heap.size E W) (hb : E.heap.size ≤ b0) : w.ownsRow E.heap.size 5 1 (.slice A N c) N (cellsOf L) ∧ Below E.heap.size E w := ⟨own_base h.own hb, hE.trans (h.keep.mono hb)⟩
end

theorem wp_append_bd {P : Program} {o : Oper} {a : Act} {w : World} {K : Act → World → Prop} {Q : Exit → Act → World → Prop} {W : World} {b0 : Nat} {A : Option Addr} {N c : Nat} {L : List UInt8} (hP : P = Try.prog) (h0 : Bd W b0 w A N c L) (s x : Operand)
    (ho : o.op = .call { callee := .builtin .append, args := #[s, x], argTypes := #[34, 34] }) (hs : a.eval s = .slice A N c)
    (B : Nat) (D : Option Addr) (m d : Nat) (ds : List UInt8) (hx : a.eval x = .slice D m d) (hm : ds.length = m) (hr : RB w B D ds) (hn : N + m ≤ 67108864)
    (h : ∀ A2 c2 w', Bd W b0 w' A2 (N + m) c2 (L ++ ds) → w.grownBy w' (Value.slice A N c).ownBlock → K (a.put o.dst (.slice A2 (N + m) c2)) w') : o.wp P a w K Q := by
  subst hP
  have hl := h0.len
  obtain ⟨v', w', hrun, h2, h3, h4⟩ := run_append_b w o.type b0 (.slice A N c) L (by rw [hl]; exact h0.own) B D m d ds hm hr (by omega) h0.low
  unfold Oper.wp execOp
  simp only [ho, resolve, invoke, builtin, Sem.run_bind, Sem.run_pure, Result.andThen_ok, List.map_toArray, List.map_cons, List.map_nil, hs, hx, hrun]
  rw [List.length_append, hl, hm] at h2
  obtain ⟨A2, c2, rfl⟩ := own_form h2
  exact h A2 c2 w' ⟨h2, h0.keep.grown h3 h0.low (fun k hk => (h0.own.lt k hk).1), Nat.le_trans h0.low h3.size, by rw [List.length_append, hl, hm]⟩ h3
theorem wpList_append_bd {ops : Array Oper} {rest : List Oper} {o : Oper} {a : Act} {w : World} {Q : Exit → Act → World → Prop} {W : World} {b0 : Nat} {A : Option Addr} {N c : Nat} {L : List UInt8} (hgd : o.guard = none) (h0 : Bd W b0 w A N c L) (s x : Operand)
    (ho : o.op = .call { callee := .builtin .append, args := #[s, x], argTypes := #[34, 34] }) (hs : a.eval s = .slice A N c)
    (B : Nat) (D : Option Addr) (m d : Nat) (ds : List UInt8) (hx : a.eval x = .slice D m d) (hm : ds.length = m) (hr : RB w B D ds) (hn : N + m ≤ 67108864) (M : Nat) (hM : N + m = M)
    (h : ∀ A2 c2 w', Bd W b0 w' A2 M c2 (L ++ ds) → wpList Try.prog ops Q rest (a.put o.dst (.slice A2 M c2)) w') : wpList Try.prog ops Q (o :: rest) a w := by
  subst hM
  exact wpList_plain hgd fun K hK => wp_append_bd rfl h0 s x ho hs B D m d ds hx hm hr hn fun A2 c2 w' hb _ => hK _ _ (h A2 c2 w' hb)

section
variable {P : Program} {ops : Array Oper} {Q : Exit → Act → World → Prop}
/-- A region with one append (operation p) among its first operations, which leave values and rows of their own besides. -/
theorem wp_region_apps {id : Nat} {a : Act} {w : World} (hmx : P.follows .mixedOrders = true) (k n : Nat) (L : List (Nat × Nat)) (R : List Oper) (F : List Fo) (hf : thenB ops n k = true) (hL : dstsOf ops k = L) (hR : ops.toList.drop k = R) (p dp : Nat) (hpk : p < k) (hpL : (p, dp) ∈ L) (hn : a.tmps.size = n)
    (hF : ∀ f ∈ F, match f with | .val _ => True | .own b _ _ => b = w.heap.size | .any => True | .rb _ _ => False)
    {W : World} {b0 : Nat} {A0 : Option Addr} {n0 c0 : Nat} {L0 : List UInt8} (h0 : Bd W b0 w A0 n0 c0 L0) (n1 : Nat) (L1 : List UInt8) (hl1 : L1.length = n1)
    (hop : ∀ (j : Nat) o, j < k → j ≠ p → ops[j]? = some o → ∀ a' v K, (∀ t, (∀ q ∈ L, q.2 ≠ t) → a'.tmps.getD t undef = a.tmps.getD t undef) → (∀ q ∈ needOf ops j, q.1 ≠ p → (F.getD q.1 .any).holds v (a'.tmps.getD q.2 undef)) → Below b0 W v → w.heap.size ≤ v.heap.size →
      (∀ u v', (F.getD j .any).holds v' u → Below v.heap.size v v' → K (a'.put o.dst u) v') → o.wp P a' v K Q)
    (hpp : ∀ o, ops[p]? = some o → ∀ a' v K, (∀ t, (∀ q ∈ L, q.2 ≠ t) → a'.tmps.getD t undef = a.tmps.getD t undef) → (∀ q ∈ needOf ops p, q.1 ≠ p → (F.getD q.1 .any).holds v (a'.tmps.getD q.2 undef)) → Bd W b0 v A0 n0 c0 L0 → w.heap.size ≤ v.heap.size →
      (∀ A c v', Bd W b0 v' A n1 c L1 → v.grownBy v' (Value.slice A0 n0 c0).ownBlock → K (a'.put o.dst (.slice A n1 c)) v') → o.wp P a' v K Q)
    (hend : ∀ (f : Nat → Value) v A c, (∀ q ∈ L, q.1 ≠ p → (F.getD q.1 .any).holds v (f q.1)) → f p = .slice A n1 c → Bd W b0 v A n1 c L1 → wpList P ops Q R (L.foldl (fun b q => b.put (some q.2) (f q.1)) a) v) : (Code.region id ops true).wp P Q a w := by
  have hlt : ∀ k, (Value.slice A0 n0 c0).ownBlock = some k → k < w.heap.size := fun k hk => (h0.own.lt k hk).2
  have hFj : ∀ i (v v' : World) (u : Value), v.grownBy v' (Value.slice A0 n0 c0).ownBlock → (F.getD i .any).holds v u → (F.getD i .any).holds v' u := by
    intro i v v' u hg hh
    by_cases hi : i < F.length
    · have hm := hF (F.getD i .any) (by rw [List.getD_eq_getElem?_getD, List.getElem?_eq_getElem hi]; exact List.getElem_mem hi)
      generalize F.getD i .any = f at hm hh ⊢
      cases f with
      | val u => exact hh
      | rb n bs => exact hm.elim
      | any => trivial
      | own b n bs =>
        obtain ⟨A, c, e, r⟩ := hh
        try simp only at hm
        subst hm
        exact ⟨A, c, e, own_grown r hg (fun k hk e => by have := (r.lt k hk).1; have := hlt k e; omega)⟩
    · have : F.getD i .any = .any := by rw [List.getD_eq_getElem?_getD, List.getElem?_eq_none (by omega)]; rfl
      rw [this]
      trivial
  refine wp_region_thenP hmx k n L R hf hL hR
    (fun j b v u => if j = p then (b = true → ∃ A c, u = .slice A n1 c ∧ v.ownsRow b0 5 1 (.slice A n1 c) n1 (cellsOf L1)) else (F.getD j .any).holds v u)
    (fun b v => Below b0 W v ∧ b0 ≤ v.heap.size ∧ w.heap.size ≤ v.heap.size ∧ (b = false → v.ownsRow b0 5 1 (.slice A0 n0 c0) n0 (cellsOf L0))) p hpk hn ?_ ?_ ?_ ?_
  · exact ⟨⟨h0.keep.os, h0.keep.tape, h0.keep.output, h0.keep.size, h0.keep.block⟩, h0.low, Nat.le_refl _, fun _ => h0.own⟩
  · intro j o hj hjp ho b a' v K _ hk hnd hI hK
    refine hop j o hj hjp ho a' v K hk (fun q hq hqp => by have := hnd q hq; rwa [if_neg hqp] at this) hI.1 hI.2.2.1 (fun u v' hu hb => hK u v' (by rw [if_neg hjp]; exact hu) (fun i x hx => ?_) ⟨hI.1.trans (hb.mono hI.2.1), Nat.le_trans hI.2.1 hb.size, Nat.le_trans hI.2.2.1 hb.size, fun e => own_below (hI.2.2.2 e) hb⟩)
    by_cases hip : i = p
    · rw [if_pos hip] at hx ⊢
      intro hb1
      obtain ⟨A, c, e, r⟩ := hx hb1
      exact ⟨A, c, e, own_below r hb⟩
    · rw [if_neg hip] at hx ⊢
      exact Fo.on hb _ _ hx
  · intro o ho a' v K hk hnd hI hK
    refine hpp o ho a' v K hk (fun q hq hqp => by have := hnd q hq; rwa [if_neg hqp] at this) ⟨hI.2.2.2 rfl, hI.1, hI.2.1, h0.len⟩ hI.2.2.1 (fun A c v' hb hg => hK _ v' (by rw [if_pos rfl]; exact fun _ => ⟨A, c, rfl, hb.own⟩) (fun i u hip hu => ?_) ⟨hb.keep, hb.low, Nat.le_trans hI.2.2.1 hg.size, fun e => by cases e⟩)
    rw [if_neg hip] at hu ⊢
    exact hFj i v v' u hg hu
  · intro f v hf' hI
    have hp := hf' (p, dp) hpL
    simp only [if_true] at hp
    obtain ⟨A, c, e, r⟩ := hp trivial
    exact hend f v A c (fun q hq hqp => by have := hf' q hq; rwa [if_neg hqp] at this) e ⟨r, hI.1, hI.2.1, hl1⟩
theorem apps_of {j p : Nat} {F : List Fo} {v : World} {a' : Act} (hnd : ∀ q ∈ needOf ops j, q.1 ≠ p → (F.getD q.1 .any).holds v (a'.tmps.getD q.2 undef)) (i t : Nat) (h : (needOf ops j).contains (i, t) = true) (hi : i ≠ p) : (F.getD i .any).holds v (a'.eval (.tmp t)) :=
  hnd (i, t) (by simpa using h) hi
end
end Go.Proofs.Ythogonpjkngpjaa

namespace Go.Proofs.Ythogonpjkngpjaa
set_option maxRecDepth 100000
open Go.RowKit

theorem withinU (n hi : Int) (b : Bool) (w : World) (h : upTo n hi = b) : Calls Try.prog 42 #[.int .i64 n, .int .i64 0, .int .i64 hi] w fun e w' => e = .returned (.bool b) ∧ Below w.heap.size w w' := by
  cases b
  · exact (within_no n 0 hi w (by simp [upTo] at h; omega)).mono fun _ _ ⟨he, hw⟩ => ⟨he, hw ▸ Below.refl _ _⟩
  · simp [upTo] at h
    exact (within_yes n 0 hi w h.1 h.2).mono fun _ _ ⟨he, hw⟩ => ⟨he, hw ▸ Below.refl _ _⟩



set_option maxHeartbeats 400000 in
theorem specIn (n hi : Int) (w : World) : Calls Try.prog 39 #[.int .i64 n, .int .i64 hi] w fun e w' => e = .returned (.bool (upTo n hi)) ∧ w = w' := by
  go_enter Try.func39, Try.ntmps39
  go_wp2
  all_goals (go_ret; exact ⟨ret_bool (by simp [upTo]; try omega), rfl⟩)
end Go.Proofs.Ythogonpjkngpjaa

namespace Go.Proofs.Ythogonpjkngpjaa
set_option maxRecDepth 100000
open Go.RowKit

theorem or_mul (m b i : Nat) (hm : 2 ^ i * m + b < 4611686018427387904) (hb : b < 2 ^ i) : bits .or .i64 ((2 ^ i * m : Nat) : Int) (b : Int) = ((2 ^ i * m + b : Nat) : Int) := by
  have ho : 2 ^ i * m ||| b = 2 ^ i * m + b := (Nat.two_pow_add_eq_or_of_lt hb m).symm
  show IntKind.i64.wrap ((BitVec.ofInt 64 ((2 ^ i * m : Nat) : Int) ||| BitVec.ofInt 64 (b : Int)).toNat : Int) = _
  rw [BitVec.toNat_or, ofInt_i64 _ (by omega), ofInt_i64 b (by omega), ho, IntKind.wrap_i64]
  omega
def TwoOut (ds : List UInt8) (k : Nat) (w : World) (e : Ending) (w' : World) : Prop := ∃ A c, e = .returned (.slice A k c) ∧ w'.ownsRow w.heap.size 5 1 (.slice A k c) k (cellsOf ds) ∧ Below w.heap.size w w'
theorem put16S (n : Int) (w : World) : Calls Try.prog 58 #[.int .i64 n] w (TwoOut (put16 n) 2 w) := (specPut16 n w).mono fun _ _ ⟨h, o, b⟩ => ⟨_, _, h, o, b⟩
theorem put16I (n : Int) (w : World) : Calls Try.prog 75 #[.int .i64 n] w (TwoOut (put16 n) 2 w) := (implPut16 n w).mono fun _ _ ⟨h, o, b⟩ => ⟨_, _, h, o, b⟩
theorem hcells2 (a b : Int) : cellsOf [byteOf a, byteOf b] = [.int .u8 (a % 256), .int .u8 (b % 256)] := by simp [cellsOf, byteOf_val]
theorem cells2s (a b : Int) (ha : 0 ≤ a ∧ a < 256) (hb : 0 ≤ b ∧ b < 256) : cellsOf [byteOf a, byteOf b] = [.int .u8 a, .int .u8 b] := by
  rw [hcells2, Int.emod_eq_of_lt ha.1 ha.2, Int.emod_eq_of_lt hb.1 hb.2]
theorem rb_twos (w : World) (a b : Int) (ha : 0 ≤ a ∧ a < 256) (hb : 0 ≤ b ∧ b < 256) : RB (w.alloc (.cells #[.int .u8 a, .int .u8 b] 5)) (w.heap.size + 1) (some ⟨w.heap.size, 0, none⟩) [byteOf a, byteOf b] := by
  have := RB.new w 5 [byteOf a, byteOf b]
  rw [cells2s a b ha hb] at this
  exact this

end Go.Proofs.Ythogonpjkngpjaa
