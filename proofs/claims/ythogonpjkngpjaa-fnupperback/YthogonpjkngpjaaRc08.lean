/-
  The model's draw of an upper layer, number by number. The model's draw of an upper layer, number by number. The model's draw of an upper layer, number by number. The model's draw of an upper layer that may be wrong, number by number, all ways together. A region that draws its order, the first operations of which leave a value each, or a slice of bytes that can be read or is owned, and touch nothing that was there before; the others follow in their order. Plain: any program. A slice that reads as a list of cells, whatever they are; 'append' onto a row of the call's own, from whatever source; rows of integers. What the laws' own helpers on slices of integers do: a copy, a comparison; a slice of integers that came in. What the model's functions of chapter 2 answer. What the program's functions of chapter 2 answer. What FourOk calls, in the program; FourOk in the model. What the head of an IPv4 packet is made of: integers packed by shifts, two and four bytes at a time. The model's look at a range, with its answer written out.
-/
import Derived.Test.YthogonpjkngpjaaRc02
import Derived.Test.YthogonpjkngpjaaRc05
import Derived.Test.YthogonpjkngpjaaRc03
import Derived.Test.YthogonpjkngpjaaRc04
import Derived.Deep.Cut
import Derived.Test.YthogonpjkngpjaaRc06
import Derived.Test.YthogonpjkngpjaaRc07
import Derived.Test.YthogonpjkngpjaaRc01
import Derived.Deep.QuietTactic
import Derived.BigQuiet
import Derived.ProofKit
import Derived.OpenShut
import Derived.StillTailTactics
namespace Go.Proofs.Ythogonpjkngpjaa
set_option maxRecDepth 100000
open Go.RowKit
set_option maxHeartbeats 4000000 in
theorem badUp_0 (want k : Int) (bs : List UInt8) (t s : Nat) (ht : t ≤ 700000000000) (x : Uh) (os ds : List UInt8) (t1 s1 : Nat) (hos : os.length ≤ 40) (hds : ds.length ≤ 40) (ht1 : t1 ≤ t + 100) (HF : Hid (∀ (w : World) (g : Nat) (A : Option Addr) (c : Nat), CurS w g A c bs t s → Calls Try.prog 95 #[.pointer (some ⟨g, 0, none⟩), .int .i64 want, .int .i64 k] w (GivesUp w g A c bs t1 s1 x os ds))) (q : Int) (s2 : Nat) (hq : q = 0) (HK : Hid (∀ (w : World) (g : Nat) (A : Option Addr) (c : Nat), CurS w g A c bs t1 s1 → Calls Try.prog 57 #[.pointer (some ⟨g, 0, none⟩), .int .i64 14] w (Gives w g A c bs (t1 + 1) s2 q))) :
    ∃ (x : Uh) (os ds : List UInt8) (t' s' : Nat), os.length ≤ 45 ∧ ds.length ≤ 1500 ∧ t' ≤ t + 200 ∧ ∀ (w : World) (g : Nat) (A : Option Addr) (c : Nat), CurS w g A c bs t s → Calls Try.prog 56 #[.pointer (some ⟨g, 0, none⟩), .int .i64 want, .int .i64 k] w (GivesUp w g A c bs t' s' x os ds) := by
  subst hq
  obtain ⟨x3, s13, hd3⟩ := rawE bs (t1 + 1) s2 (by omega)
  have H3 := Lib.hid hd3
  clear hd3
  obtain ⟨x4, s14, lo4, up4, hd4⟩ := pickE bs (t1 + 1 + 2) s13 3 (by omega) (by omega) (by omega)
  have H4 := Lib.hid hd4
  clear hd4
  obtain ⟨y4, rfl⟩ : ∃ k : Nat, x4 = k := ⟨x4.toNat, by omega⟩
  obtain ⟨u4, hu4⟩ : ∃ a, ([x3, 65535, 65536] : List Int)[y4]? = some a := ⟨_, List.getElem?_eq_getElem (by simp; omega)⟩
  have HU4 := Lib.hid hu4
  clear hu4
  refine ⟨⟨x.kind, u4, x.dport, x.seq, x.ack, x.bits, x.window, x.urgent, x.ty, x.code, x.rest, x.nosum⟩, os, ds, t1 + 1 + 2 + 1, s14, by omega, by omega, by omega, fun w g A c hc0 => ?_⟩
  have hgl := hc0.lt
  have HC0 := Lib.hid (hc0.below (Joins.below_alloc1 w (.cells #[.int .i64 0, .int .i64 0, .int .i64 0, .int .i64 0, .int .i64 0, .int .i64 0, .int .i64 0, .int .i64 0, .int .i64 0, .int .i64 0, .int .i64 0, .bool false, .slice none 0 0, .slice none 0 0] 36)))
  have R0_ := Lib.hid (K.new w (.cells #[.int .i64 0, .int .i64 0, .int .i64 0, .int .i64 0, .int .i64 0, .int .i64 0, .int .i64 0, .int .i64 0, .int .i64 0, .int .i64 0, .int .i64 0, .bool false, .slice none 0 0, .slice none 0 0] 36))
  clear hc0
  go_enter Try.func56, Try.ntmps56
  go_wp2_with fail
  refine Calls.mono (HF.out _ g A c HC0.out) ?_
  rintro e w1 ⟨O, oc, D0, d0, rfl, oo, od, ap, hc2, hg2⟩
  have hb : w.heap.size < w1.heap.size := by have := hg2.size; simp at this; omega
  have q1 := Lib.hid (K.new w1 (.cells #[.int .i64 x.kind, .int .i64 x.sport, .int .i64 x.dport, .int .i64 x.seq, .int .i64 x.ack, .int .i64 x.bits, .int .i64 x.window, .int .i64 x.urgent, .int .i64 x.ty, .int .i64 x.code, .int .i64 x.rest, .bool x.nosum, .slice O os.length oc, .slice D0 ds.length d0] 36))
  have R1 := Lib.hid (K.old (K.kept hg2 R0_.out (fun k hk => by cases hk; omega)) (.cells #[.int .i64 x.kind, .int .i64 x.sport, .int .i64 x.dport, .int .i64 x.seq, .int .i64 x.ack, .int .i64 x.bits, .int .i64 x.window, .int .i64 x.urgent, .int .i64 x.ty, .int .i64 x.code, .int .i64 x.rest, .bool x.nosum, .slice O os.length oc, .slice D0 ds.length d0] 36))
  have C1 := Lib.hid (hc2.below (Joins.below_alloc1 w1 (.cells #[.int .i64 x.kind, .int .i64 x.sport, .int .i64 x.dport, .int .i64 x.seq, .int .i64 x.ack, .int .i64 x.bits, .int .i64 x.window, .int .i64 x.urgent, .int .i64 x.ty, .int .i64 x.code, .int .i64 x.rest, .bool x.nosum, .slice O os.length oc, .slice D0 ds.length d0] 36)))
  have G1 := Lib.hid (only_new (grownBy_trans (only_new (K.refl w (some g)) (.cells #[.int .i64 0, .int .i64 0, .int .i64 0, .int .i64 0, .int .i64 0, .int .i64 0, .int .i64 0, .int .i64 0, .int .i64 0, .int .i64 0, .int .i64 0, .bool false, .slice none 0 0, .slice none 0 0] 36)) hg2) (.cells #[.int .i64 x.kind, .int .i64 x.sport, .int .i64 x.dport, .int .i64 x.seq, .int .i64 x.ack, .int .i64 x.bits, .int .i64 x.window, .int .i64 x.urgent, .int .i64 x.ty, .int .i64 x.code, .int .i64 x.rest, .bool x.nosum, .slice O os.length oc, .slice D0 ds.length d0] 36))
  have B1 := Lib.hid (World.ownsRow.alloc (own_base od (show w.heap.size + 1 ≤ _ by simp)) (.cells #[.int .i64 x.kind, .int .i64 x.sport, .int .i64 x.dport, .int .i64 x.seq, .int .i64 x.ack, .int .i64 x.bits, .int .i64 x.window, .int .i64 x.urgent, .int .i64 x.ty, .int .i64 x.code, .int .i64 x.rest, .bool x.nosum, .slice O os.length oc, .slice D0 ds.length d0] 36))
  have O1 := Lib.hid (World.ownsRow.alloc (own_base oo (show w.heap.size + 1 ≤ _ by simp)) (.cells #[.int .i64 x.kind, .int .i64 x.sport, .int .i64 x.dport, .int .i64 x.seq, .int .i64 x.ack, .int .i64 x.bits, .int .i64 x.window, .int .i64 x.urgent, .int .i64 x.ty, .int .i64 x.code, .int .i64 x.rest, .bool x.nosum, .slice O os.length oc, .slice D0 ds.length d0] 36))
  have NB := Lib.hid (fun k (hk : (Value.slice D0 ds.length d0).ownBlock = some k) => show k ≠ w1.heap.size by have := (od.lt k hk).2; omega)
  have NO := Lib.hid (fun k (hk : (Value.slice O os.length oc).ownBlock = some k) => show k ≠ w1.heap.size by have := (oo.lt k hk).2; omega)
  have AP := Lib.hid ap
  clear od oo ap hc2 hg2 HC0 R0_
  go_wp2_with (with_reducible refine storeNewU rfl _ _ rfl rfl rfl ?_)
  generalize (w1.alloc (.cells #[.int .i64 x.kind, .int .i64 x.sport, .int .i64 x.dport, .int .i64 x.seq, .int .i64 x.ack, .int .i64 x.bits, .int .i64 x.window, .int .i64 x.urgent, .int .i64 x.ty, .int .i64 x.code, .int .i64 x.rest, .bool x.nosum, .slice O os.length oc, .slice D0 ds.length d0] 36)) = w2 at q1 R1 C1 G1 B1 O1 ⊢
  refine Calls.mono (HK.out _ g A c C1.out) ?_
  rintro e w3 ⟨rfl, hc2, hg2⟩
  have q2 := Lib.hid (K.kept hg2 q1.out (fun k hk => by cases hk; omega))
  have R2 := Lib.hid (K.kept hg2 R1.out (fun k hk => by cases hk; omega))
  have C2 := Lib.hid hc2
  have G2 := Lib.hid (grownBy_trans G1.out hg2)
  have B2 := Lib.hid (own_grown B1.out hg2 (fun k h1 h2 => by cases h2; have := (B1.out.lt _ h1).1; omega))
  have O2 := Lib.hid (own_grown O1.out hg2 (fun k h1 h2 => by cases h2; have := (O1.out.lt _ h1).1; omega))
  clear hc2 hg2 q1 R1 C1 G1 B1 O1
  go_wp2_with fail
  refine Calls.mono (H3.out _ g A c C2.out) ?_
  rintro e w4 ⟨rfl, hc2, hg2⟩
  have q3 := Lib.hid (K.kept hg2 q2.out (fun k hk => by cases hk; omega))
  have R3 := Lib.hid (K.kept hg2 R2.out (fun k hk => by cases hk; omega))
  have C3 := Lib.hid hc2
  have G3 := Lib.hid (grownBy_trans G2.out hg2)
  have B3 := Lib.hid (own_grown B2.out hg2 (fun k h1 h2 => by cases h2; have := (B2.out.lt _ h1).1; omega))
  have O3 := Lib.hid (own_grown O2.out hg2 (fun k h1 h2 => by cases h2; have := (O2.out.lt _ h1).1; omega))
  clear hc2 hg2 q2 R2 C2 G2 B2 O2
  have gk := C3.out.lt
  have q4 := Lib.hid (K.old q3.out (.cells #[.int .i64 x3, .int .i64 65535, .int .i64 65536] 3))
  have R4 := Lib.hid (K.old R3.out (.cells #[.int .i64 x3, .int .i64 65535, .int .i64 65536] 3))
  have C4 := Lib.hid (C3.out.below (Joins.below_alloc1 w4 (.cells #[.int .i64 x3, .int .i64 65535, .int .i64 65536] 3)))
  have G4 := Lib.hid (only_new G3.out (.cells #[.int .i64 x3, .int .i64 65535, .int .i64 65536] 3))
  have B4 := Lib.hid (World.ownsRow.alloc B3.out (.cells #[.int .i64 x3, .int .i64 65535, .int .i64 65536] 3))
  have O4 := Lib.hid (World.ownsRow.alloc O3.out (.cells #[.int .i64 x3, .int .i64 65535, .int .i64 65536] 3))
  go_wp2_with fail
  clear q3 R3 C3 G3 B3 O3
  refine Calls.mono (H4.out _ g A c C4.out) ?_
  rintro e w5 ⟨rfl, hc2, hg2⟩
  have q5 := Lib.hid (K.kept hg2 q4.out (fun k hk => by cases hk; omega))
  have R5 := Lib.hid (K.kept hg2 R4.out (fun k hk => by cases hk; omega))
  have C5 := Lib.hid hc2
  have G5 := Lib.hid (grownBy_trans G4.out hg2)
  have B5 := Lib.hid (own_grown B4.out hg2 (fun k h1 h2 => by cases h2; have := (B4.out.lt _ h1).1; omega))
  have O5 := Lib.hid (own_grown O4.out hg2 (fun k h1 h2 => by cases h2; have := (O4.out.lt _ h1).1; omega))
  have cf := hg2.cell (K.row_cells w4 [x3, 65535, 65536] _ rfl 3 y4 u4 HU4.out) (fun e => by have e2 : w4.heap.size = g := Option.some.inj e; omega)
  clear hc2 hg2 q4 R4 C4 G4 B4 O4
  have uu := K.cell q5.out 1 _ rfl
  have yy := frozen_of_row _ _ 1 _ _ q5.out
  have hyt : (y4 : Int) < 3 := by omega
  have q6 : Hid ((w5.setCell ⟨w1.heap.size, 1, none⟩ (.int .i64 u4)).heap[w1.heap.size]? = some (.cells #[.int .i64 x.kind, .int .i64 u4, .int .i64 x.dport, .int .i64 x.seq, .int .i64 x.ack, .int .i64 x.bits, .int .i64 x.window, .int .i64 x.urgent, .int .i64 x.ty, .int .i64 x.code, .int .i64 x.rest, .bool x.nosum, .slice O os.length oc, .slice D0 ds.length d0] 36 (0, 0))) := Lib.hid (K.set q5.out 1 _)
  have R6 := Lib.hid (K.other R5.out w1.heap.size 1 (.int .i64 u4) (by omega))
  have C6 := Lib.hid (C5.out.grownBy (grownBy_set w5 w1.heap.size 1 (.int .i64 u4)) (fun u hu => by cases hu; omega))
  have G6 := Lib.hid (grown_other G5.out (grownBy_set w5 w1.heap.size 1 (.int .i64 u4)) (fun u hu => by cases hu; omega))
  have B6 := Lib.hid (own_grown B5.out (grownBy_set w5 w1.heap.size 1 (.int .i64 u4)) (fun k h1 h2 => by cases h2; exact NB.out _ h1 rfl))
  have O6 := Lib.hid (own_grown O5.out (grownBy_set w5 w1.heap.size 1 (.int .i64 u4)) (fun k h1 h2 => by cases h2; exact NO.out _ h1 rfl))
  go_upto_region 19 with fail
  clear uu yy cf gk q5 R5 C5 G5 B5 O5
  generalize (w5.setCell ⟨w1.heap.size, 1, none⟩ (.int .i64 u4)) = w6 at q6 R6 C6 G6 B6 O6 ⊢
  go_wp2_with (first | (with_reducible refine loadU rfl _ rfl w1.heap.size rfl q6.out ?_) | (with_reducible refine storeU rfl _ _ rfl w.heap.size rfl rfl R6.out ?_))
  (try simp only [Exit.inBlock, Exit.then])
  refine bodyPost_ret (v := .agg #[.int .i64 x.kind, .int .i64 u4, .int .i64 x.dport, .int .i64 x.seq, .int .i64 x.ack, .int .i64 x.bits, .int .i64 x.window, .int .i64 x.urgent, .int .i64 x.ty, .int .i64 x.code, .int .i64 x.rest, .bool x.nosum, .slice O os.length oc, .slice D0 ds.length d0]) ?_ rfl ⟨O, oc, D0, d0, rfl, ?_, ?_, AP.out, ?_, ?_⟩
  · exact resU Try.results56 _ _ w.heap.size rfl (setRow_heap _ _ _ _ _ _ R6.out)
  · exact own_base (base' := w.heap.size) (own_grown O6.out (K.setRow_grown w6 w.heap.size #[.int .i64 x.kind, .int .i64 u4, .int .i64 x.dport, .int .i64 x.seq, .int .i64 x.ack, .int .i64 x.bits, .int .i64 x.window, .int .i64 x.urgent, .int .i64 x.ty, .int .i64 x.code, .int .i64 x.rest, .bool x.nosum, .slice O os.length oc, .slice D0 ds.length d0]) (fun k h1 h2 => by cases h2; have := (O6.out.lt _ h1).1; omega)) (by omega)
  · exact own_base (base' := w.heap.size) (own_grown B6.out (K.setRow_grown w6 w.heap.size #[.int .i64 x.kind, .int .i64 u4, .int .i64 x.dport, .int .i64 x.seq, .int .i64 x.ack, .int .i64 x.bits, .int .i64 x.window, .int .i64 x.urgent, .int .i64 x.ty, .int .i64 x.code, .int .i64 x.rest, .bool x.nosum, .slice O os.length oc, .slice D0 ds.length d0]) (fun k h1 h2 => by cases h2; have := (B6.out.lt _ h1).1; omega)) (by omega)
  · exact C6.out.grownBy (K.setRow_grown _ _ _) (fun u hu => by cases hu; omega)
  · exact grown_other G6.out (K.setRow_grown _ _ _) (fun u hu => by cases hu; omega)
set_option maxHeartbeats 4000000 in
theorem badUp_1 (want k : Int) (bs : List UInt8) (t s : Nat) (ht : t ≤ 700000000000) (x : Uh) (os ds : List UInt8) (t1 s1 : Nat) (hos : os.length ≤ 40) (hds : ds.length ≤ 40) (ht1 : t1 ≤ t + 100) (HF : Hid (∀ (w : World) (g : Nat) (A : Option Addr) (c : Nat), CurS w g A c bs t s → Calls Try.prog 95 #[.pointer (some ⟨g, 0, none⟩), .int .i64 want, .int .i64 k] w (GivesUp w g A c bs t1 s1 x os ds))) (q : Int) (s2 : Nat) (hq : q = 1) (HK : Hid (∀ (w : World) (g : Nat) (A : Option Addr) (c : Nat), CurS w g A c bs t1 s1 → Calls Try.prog 57 #[.pointer (some ⟨g, 0, none⟩), .int .i64 14] w (Gives w g A c bs (t1 + 1) s2 q))) :
    ∃ (x : Uh) (os ds : List UInt8) (t' s' : Nat), os.length ≤ 45 ∧ ds.length ≤ 1500 ∧ t' ≤ t + 200 ∧ ∀ (w : World) (g : Nat) (A : Option Addr) (c : Nat), CurS w g A c bs t s → Calls Try.prog 56 #[.pointer (some ⟨g, 0, none⟩), .int .i64 want, .int .i64 k] w (GivesUp w g A c bs t' s' x os ds) := by
  subst hq
  obtain ⟨x3, s13, hd3⟩ := rawE bs (t1 + 1) s2 (by omega)
  have H3 := Lib.hid hd3
  clear hd3
  refine ⟨⟨x.kind, x.sport, x.dport, x3, x.ack, x.bits, x.window, x.urgent, x.ty, x.code, x.rest, x.nosum⟩, os, ds, t1 + 1 + 2, s13, by omega, by omega, by omega, fun w g A c hc0 => ?_⟩
  have hgl := hc0.lt
  have HC0 := Lib.hid (hc0.below (Joins.below_alloc1 w (.cells #[.int .i64 0, .int .i64 0, .int .i64 0, .int .i64 0, .int .i64 0, .int .i64 0, .int .i64 0, .int .i64 0, .int .i64 0, .int .i64 0, .int .i64 0, .bool false, .slice none 0 0, .slice none 0 0] 36)))
  have R0_ := Lib.hid (K.new w (.cells #[.int .i64 0, .int .i64 0, .int .i64 0, .int .i64 0, .int .i64 0, .int .i64 0, .int .i64 0, .int .i64 0, .int .i64 0, .int .i64 0, .int .i64 0, .bool false, .slice none 0 0, .slice none 0 0] 36))
  clear hc0
  go_enter Try.func56, Try.ntmps56
  go_wp2_with fail
  refine Calls.mono (HF.out _ g A c HC0.out) ?_
  rintro e w1 ⟨O, oc, D0, d0, rfl, oo, od, ap, hc2, hg2⟩
  have hb : w.heap.size < w1.heap.size := by have := hg2.size; simp at this; omega
  have q1 := Lib.hid (K.new w1 (.cells #[.int .i64 x.kind, .int .i64 x.sport, .int .i64 x.dport, .int .i64 x.seq, .int .i64 x.ack, .int .i64 x.bits, .int .i64 x.window, .int .i64 x.urgent, .int .i64 x.ty, .int .i64 x.code, .int .i64 x.rest, .bool x.nosum, .slice O os.length oc, .slice D0 ds.length d0] 36))
  have R1 := Lib.hid (K.old (K.kept hg2 R0_.out (fun k hk => by cases hk; omega)) (.cells #[.int .i64 x.kind, .int .i64 x.sport, .int .i64 x.dport, .int .i64 x.seq, .int .i64 x.ack, .int .i64 x.bits, .int .i64 x.window, .int .i64 x.urgent, .int .i64 x.ty, .int .i64 x.code, .int .i64 x.rest, .bool x.nosum, .slice O os.length oc, .slice D0 ds.length d0] 36))
  have C1 := Lib.hid (hc2.below (Joins.below_alloc1 w1 (.cells #[.int .i64 x.kind, .int .i64 x.sport, .int .i64 x.dport, .int .i64 x.seq, .int .i64 x.ack, .int .i64 x.bits, .int .i64 x.window, .int .i64 x.urgent, .int .i64 x.ty, .int .i64 x.code, .int .i64 x.rest, .bool x.nosum, .slice O os.length oc, .slice D0 ds.length d0] 36)))
  have G1 := Lib.hid (only_new (grownBy_trans (only_new (K.refl w (some g)) (.cells #[.int .i64 0, .int .i64 0, .int .i64 0, .int .i64 0, .int .i64 0, .int .i64 0, .int .i64 0, .int .i64 0, .int .i64 0, .int .i64 0, .int .i64 0, .bool false, .slice none 0 0, .slice none 0 0] 36)) hg2) (.cells #[.int .i64 x.kind, .int .i64 x.sport, .int .i64 x.dport, .int .i64 x.seq, .int .i64 x.ack, .int .i64 x.bits, .int .i64 x.window, .int .i64 x.urgent, .int .i64 x.ty, .int .i64 x.code, .int .i64 x.rest, .bool x.nosum, .slice O os.length oc, .slice D0 ds.length d0] 36))
  have B1 := Lib.hid (World.ownsRow.alloc (own_base od (show w.heap.size + 1 ≤ _ by simp)) (.cells #[.int .i64 x.kind, .int .i64 x.sport, .int .i64 x.dport, .int .i64 x.seq, .int .i64 x.ack, .int .i64 x.bits, .int .i64 x.window, .int .i64 x.urgent, .int .i64 x.ty, .int .i64 x.code, .int .i64 x.rest, .bool x.nosum, .slice O os.length oc, .slice D0 ds.length d0] 36))
  have O1 := Lib.hid (World.ownsRow.alloc (own_base oo (show w.heap.size + 1 ≤ _ by simp)) (.cells #[.int .i64 x.kind, .int .i64 x.sport, .int .i64 x.dport, .int .i64 x.seq, .int .i64 x.ack, .int .i64 x.bits, .int .i64 x.window, .int .i64 x.urgent, .int .i64 x.ty, .int .i64 x.code, .int .i64 x.rest, .bool x.nosum, .slice O os.length oc, .slice D0 ds.length d0] 36))
  have NB := Lib.hid (fun k (hk : (Value.slice D0 ds.length d0).ownBlock = some k) => show k ≠ w1.heap.size by have := (od.lt k hk).2; omega)
  have NO := Lib.hid (fun k (hk : (Value.slice O os.length oc).ownBlock = some k) => show k ≠ w1.heap.size by have := (oo.lt k hk).2; omega)
  have AP := Lib.hid ap
  clear od oo ap hc2 hg2 HC0 R0_
  go_wp2_with (with_reducible refine storeNewU rfl _ _ rfl rfl rfl ?_)
  generalize (w1.alloc (.cells #[.int .i64 x.kind, .int .i64 x.sport, .int .i64 x.dport, .int .i64 x.seq, .int .i64 x.ack, .int .i64 x.bits, .int .i64 x.window, .int .i64 x.urgent, .int .i64 x.ty, .int .i64 x.code, .int .i64 x.rest, .bool x.nosum, .slice O os.length oc, .slice D0 ds.length d0] 36)) = w2 at q1 R1 C1 G1 B1 O1 ⊢
  refine Calls.mono (HK.out _ g A c C1.out) ?_
  rintro e w3 ⟨rfl, hc2, hg2⟩
  have q2 := Lib.hid (K.kept hg2 q1.out (fun k hk => by cases hk; omega))
  have R2 := Lib.hid (K.kept hg2 R1.out (fun k hk => by cases hk; omega))
  have C2 := Lib.hid hc2
  have G2 := Lib.hid (grownBy_trans G1.out hg2)
  have B2 := Lib.hid (own_grown B1.out hg2 (fun k h1 h2 => by cases h2; have := (B1.out.lt _ h1).1; omega))
  have O2 := Lib.hid (own_grown O1.out hg2 (fun k h1 h2 => by cases h2; have := (O1.out.lt _ h1).1; omega))
  clear hc2 hg2 q1 R1 C1 G1 B1 O1
  go_wp2_with fail
  refine Calls.mono (H3.out _ g A c C2.out) ?_
  rintro e w4 ⟨rfl, hc2, hg2⟩
  have q3 := Lib.hid (K.kept hg2 q2.out (fun k hk => by cases hk; omega))
  have R3 := Lib.hid (K.kept hg2 R2.out (fun k hk => by cases hk; omega))
  have C3 := Lib.hid hc2
  have G3 := Lib.hid (grownBy_trans G2.out hg2)
  have B3 := Lib.hid (own_grown B2.out hg2 (fun k h1 h2 => by cases h2; have := (B2.out.lt _ h1).1; omega))
  have O3 := Lib.hid (own_grown O2.out hg2 (fun k h1 h2 => by cases h2; have := (O2.out.lt _ h1).1; omega))
  clear hc2 hg2 q2 R2 C2 G2 B2 O2
  have uu := K.cell q3.out 3 _ rfl
  have yy := frozen_of_row _ _ 3 _ _ q3.out
  have q4 : Hid ((w4.setCell ⟨w1.heap.size, 3, none⟩ (.int .i64 x3)).heap[w1.heap.size]? = some (.cells #[.int .i64 x.kind, .int .i64 x.sport, .int .i64 x.dport, .int .i64 x3, .int .i64 x.ack, .int .i64 x.bits, .int .i64 x.window, .int .i64 x.urgent, .int .i64 x.ty, .int .i64 x.code, .int .i64 x.rest, .bool x.nosum, .slice O os.length oc, .slice D0 ds.length d0] 36 (0, 0))) := Lib.hid (K.set q3.out 3 _)
  have R4 := Lib.hid (K.other R3.out w1.heap.size 3 (.int .i64 x3) (by omega))
  have C4 := Lib.hid (C3.out.grownBy (grownBy_set w4 w1.heap.size 3 (.int .i64 x3)) (fun u hu => by cases hu; omega))
  have G4 := Lib.hid (grown_other G3.out (grownBy_set w4 w1.heap.size 3 (.int .i64 x3)) (fun u hu => by cases hu; omega))
  have B4 := Lib.hid (own_grown B3.out (grownBy_set w4 w1.heap.size 3 (.int .i64 x3)) (fun k h1 h2 => by cases h2; exact NB.out _ h1 rfl))
  have O4 := Lib.hid (own_grown O3.out (grownBy_set w4 w1.heap.size 3 (.int .i64 x3)) (fun k h1 h2 => by cases h2; exact NO.out _ h1 rfl))
  go_upto_region 19 with fail
  clear uu yy q3 R3 C3 G3 B3 O3
  generalize (w4.setCell ⟨w1.heap.size, 3, none⟩ (.int .i64 x3)) = w5 at q4 R4 C4 G4 B4 O4 ⊢
  go_wp2_with (first | (with_reducible refine loadU rfl _ rfl w1.heap.size rfl q4.out ?_) | (with_reducible refine storeU rfl _ _ rfl w.heap.size rfl rfl R4.out ?_))
  (try simp only [Exit.inBlock, Exit.then])
  refine bodyPost_ret (v := .agg #[.int .i64 x.kind, .int .i64 x.sport, .int .i64 x.dport, .int .i64 x3, .int .i64 x.ack, .int .i64 x.bits, .int .i64 x.window, .int .i64 x.urgent, .int .i64 x.ty, .int .i64 x.code, .int .i64 x.rest, .bool x.nosum, .slice O os.length oc, .slice D0 ds.length d0]) ?_ rfl ⟨O, oc, D0, d0, rfl, ?_, ?_, AP.out, ?_, ?_⟩
  · exact resU Try.results56 _ _ w.heap.size rfl (setRow_heap _ _ _ _ _ _ R4.out)
  · exact own_base (base' := w.heap.size) (own_grown O4.out (K.setRow_grown w5 w.heap.size #[.int .i64 x.kind, .int .i64 x.sport, .int .i64 x.dport, .int .i64 x3, .int .i64 x.ack, .int .i64 x.bits, .int .i64 x.window, .int .i64 x.urgent, .int .i64 x.ty, .int .i64 x.code, .int .i64 x.rest, .bool x.nosum, .slice O os.length oc, .slice D0 ds.length d0]) (fun k h1 h2 => by cases h2; have := (O4.out.lt _ h1).1; omega)) (by omega)
  · exact own_base (base' := w.heap.size) (own_grown B4.out (K.setRow_grown w5 w.heap.size #[.int .i64 x.kind, .int .i64 x.sport, .int .i64 x.dport, .int .i64 x3, .int .i64 x.ack, .int .i64 x.bits, .int .i64 x.window, .int .i64 x.urgent, .int .i64 x.ty, .int .i64 x.code, .int .i64 x.rest, .bool x.nosum, .slice O os.length oc, .slice D0 ds.length d0]) (fun k h1 h2 => by cases h2; have := (B4.out.lt _ h1).1; omega)) (by omega)
  · exact C4.out.grownBy (K.setRow_grown _ _ _) (fun u hu => by cases hu; omega)
  · exact grown_other G4.out (K.setRow_grown _ _ _) (fun u hu => by cases hu; omega)
set_option maxHeartbeats 4000000 in
theorem badUp_2 (want k : Int) (bs : List UInt8) (t s : Nat) (ht : t ≤ 700000000000) (x : Uh) (os ds : List UInt8) (t1 s1 : Nat) (hos : os.length ≤ 40) (hds : ds.length ≤ 40) (ht1 : t1 ≤ t + 100) (HF : Hid (∀ (w : World) (g : Nat) (A : Option Addr) (c : Nat), CurS w g A c bs t s → Calls Try.prog 95 #[.pointer (some ⟨g, 0, none⟩), .int .i64 want, .int .i64 k] w (GivesUp w g A c bs t1 s1 x os ds))) (q : Int) (s2 : Nat) (hq : q = 2) (HK : Hid (∀ (w : World) (g : Nat) (A : Option Addr) (c : Nat), CurS w g A c bs t1 s1 → Calls Try.prog 57 #[.pointer (some ⟨g, 0, none⟩), .int .i64 14] w (Gives w g A c bs (t1 + 1) s2 q))) :
    ∃ (x : Uh) (os ds : List UInt8) (t' s' : Nat), os.length ≤ 45 ∧ ds.length ≤ 1500 ∧ t' ≤ t + 200 ∧ ∀ (w : World) (g : Nat) (A : Option Addr) (c : Nat), CurS w g A c bs t s → Calls Try.prog 56 #[.pointer (some ⟨g, 0, none⟩), .int .i64 want, .int .i64 k] w (GivesUp w g A c bs t' s' x os ds) := by
  subst hq
  obtain ⟨x3, s13, hd3⟩ := rawE bs (t1 + 1) s2 (by omega)
  have H3 := Lib.hid hd3
  clear hd3
  obtain ⟨x4, s14, lo4, up4, hd4⟩ := pickE bs (t1 + 1 + 2) s13 3 (by omega) (by omega) (by omega)
  have H4 := Lib.hid hd4
  clear hd4
  obtain ⟨y4, rfl⟩ : ∃ k : Nat, x4 = k := ⟨x4.toNat, by omega⟩
  obtain ⟨u4, hu4⟩ : ∃ a, ([x3, 4095, 4096] : List Int)[y4]? = some a := ⟨_, List.getElem?_eq_getElem (by simp; omega)⟩
  have HU4 := Lib.hid hu4
  clear hu4
  refine ⟨⟨x.kind, x.sport, x.dport, x.seq, x.ack, u4, x.window, x.urgent, x.ty, x.code, x.rest, x.nosum⟩, os, ds, t1 + 1 + 2 + 1, s14, by omega, by omega, by omega, fun w g A c hc0 => ?_⟩
  have hgl := hc0.lt
  have HC0 := Lib.hid (hc0.below (Joins.below_alloc1 w (.cells #[.int .i64 0, .int .i64 0, .int .i64 0, .int .i64 0, .int .i64 0, .int .i64 0, .int .i64 0, .int .i64 0, .int .i64 0, .int .i64 0, .int .i64 0, .bool false, .slice none 0 0, .slice none 0 0] 36)))
  have R0_ := Lib.hid (K.new w (.cells #[.int .i64 0, .int .i64 0, .int .i64 0, .int .i64 0, .int .i64 0, .int .i64 0, .int .i64 0, .int .i64 0, .int .i64 0, .int .i64 0, .int .i64 0, .bool false, .slice none 0 0, .slice none 0 0] 36))
  clear hc0
  go_enter Try.func56, Try.ntmps56
  go_wp2_with fail
  refine Calls.mono (HF.out _ g A c HC0.out) ?_
  rintro e w1 ⟨O, oc, D0, d0, rfl, oo, od, ap, hc2, hg2⟩
  have hb : w.heap.size < w1.heap.size := by have := hg2.size; simp at this; omega
  have q1 := Lib.hid (K.new w1 (.cells #[.int .i64 x.kind, .int .i64 x.sport, .int .i64 x.dport, .int .i64 x.seq, .int .i64 x.ack, .int .i64 x.bits, .int .i64 x.window, .int .i64 x.urgent, .int .i64 x.ty, .int .i64 x.code, .int .i64 x.rest, .bool x.nosum, .slice O os.length oc, .slice D0 ds.length d0] 36))
  have R1 := Lib.hid (K.old (K.kept hg2 R0_.out (fun k hk => by cases hk; omega)) (.cells #[.int .i64 x.kind, .int .i64 x.sport, .int .i64 x.dport, .int .i64 x.seq, .int .i64 x.ack, .int .i64 x.bits, .int .i64 x.window, .int .i64 x.urgent, .int .i64 x.ty, .int .i64 x.code, .int .i64 x.rest, .bool x.nosum, .slice O os.length oc, .slice D0 ds.length d0] 36))
  have C1 := Lib.hid (hc2.below (Joins.below_alloc1 w1 (.cells #[.int .i64 x.kind, .int .i64 x.sport, .int .i64 x.dport, .int .i64 x.seq, .int .i64 x.ack, .int .i64 x.bits, .int .i64 x.window, .int .i64 x.urgent, .int .i64 x.ty, .int .i64 x.code, .int .i64 x.rest, .bool x.nosum, .slice O os.length oc, .slice D0 ds.length d0] 36)))
  have G1 := Lib.hid (only_new (grownBy_trans (only_new (K.refl w (some g)) (.cells #[.int .i64 0, .int .i64 0, .int .i64 0, .int .i64 0, .int .i64 0, .int .i64 0, .int .i64 0, .int .i64 0, .int .i64 0, .int .i64 0, .int .i64 0, .bool false, .slice none 0 0, .slice none 0 0] 36)) hg2) (.cells #[.int .i64 x.kind, .int .i64 x.sport, .int .i64 x.dport, .int .i64 x.seq, .int .i64 x.ack, .int .i64 x.bits, .int .i64 x.window, .int .i64 x.urgent, .int .i64 x.ty, .int .i64 x.code, .int .i64 x.rest, .bool x.nosum, .slice O os.length oc, .slice D0 ds.length d0] 36))
  have B1 := Lib.hid (World.ownsRow.alloc (own_base od (show w.heap.size + 1 ≤ _ by simp)) (.cells #[.int .i64 x.kind, .int .i64 x.sport, .int .i64 x.dport, .int .i64 x.seq, .int .i64 x.ack, .int .i64 x.bits, .int .i64 x.window, .int .i64 x.urgent, .int .i64 x.ty, .int .i64 x.code, .int .i64 x.rest, .bool x.nosum, .slice O os.length oc, .slice D0 ds.length d0] 36))
  have O1 := Lib.hid (World.ownsRow.alloc (own_base oo (show w.heap.size + 1 ≤ _ by simp)) (.cells #[.int .i64 x.kind, .int .i64 x.sport, .int .i64 x.dport, .int .i64 x.seq, .int .i64 x.ack, .int .i64 x.bits, .int .i64 x.window, .int .i64 x.urgent, .int .i64 x.ty, .int .i64 x.code, .int .i64 x.rest, .bool x.nosum, .slice O os.length oc, .slice D0 ds.length d0] 36))
  have NB := Lib.hid (fun k (hk : (Value.slice D0 ds.length d0).ownBlock = some k) => show k ≠ w1.heap.size by have := (od.lt k hk).2; omega)
  have NO := Lib.hid (fun k (hk : (Value.slice O os.length oc).ownBlock = some k) => show k ≠ w1.heap.size by have := (oo.lt k hk).2; omega)
  have AP := Lib.hid ap
  clear od oo ap hc2 hg2 HC0 R0_
  go_wp2_with (with_reducible refine storeNewU rfl _ _ rfl rfl rfl ?_)
  generalize (w1.alloc (.cells #[.int .i64 x.kind, .int .i64 x.sport, .int .i64 x.dport, .int .i64 x.seq, .int .i64 x.ack, .int .i64 x.bits, .int .i64 x.window, .int .i64 x.urgent, .int .i64 x.ty, .int .i64 x.code, .int .i64 x.rest, .bool x.nosum, .slice O os.length oc, .slice D0 ds.length d0] 36)) = w2 at q1 R1 C1 G1 B1 O1 ⊢
  refine Calls.mono (HK.out _ g A c C1.out) ?_
  rintro e w3 ⟨rfl, hc2, hg2⟩
  have q2 := Lib.hid (K.kept hg2 q1.out (fun k hk => by cases hk; omega))
  have R2 := Lib.hid (K.kept hg2 R1.out (fun k hk => by cases hk; omega))
  have C2 := Lib.hid hc2
  have G2 := Lib.hid (grownBy_trans G1.out hg2)
  have B2 := Lib.hid (own_grown B1.out hg2 (fun k h1 h2 => by cases h2; have := (B1.out.lt _ h1).1; omega))
  have O2 := Lib.hid (own_grown O1.out hg2 (fun k h1 h2 => by cases h2; have := (O1.out.lt _ h1).1; omega))
  clear hc2 hg2 q1 R1 C1 G1 B1 O1
  go_wp2_with fail
  refine Calls.mono (H3.out _ g A c C2.out) ?_
  rintro e w4 ⟨rfl, hc2, hg2⟩
  have q3 := Lib.hid (K.kept hg2 q2.out (fun k hk => by cases hk; omega))
  have R3 := Lib.hid (K.kept hg2 R2.out (fun k hk => by cases hk; omega))
  have C3 := Lib.hid hc2
  have G3 := Lib.hid (grownBy_trans G2.out hg2)
  have B3 := Lib.hid (own_grown B2.out hg2 (fun k h1 h2 => by cases h2; have := (B2.out.lt _ h1).1; omega))
  have O3 := Lib.hid (own_grown O2.out hg2 (fun k h1 h2 => by cases h2; have := (O2.out.lt _ h1).1; omega))
  clear hc2 hg2 q2 R2 C2 G2 B2 O2
  have gk := C3.out.lt
  have q4 := Lib.hid (K.old q3.out (.cells #[.int .i64 x3, .int .i64 4095, .int .i64 4096] 3))
  have R4 := Lib.hid (K.old R3.out (.cells #[.int .i64 x3, .int .i64 4095, .int .i64 4096] 3))
  have C4 := Lib.hid (C3.out.below (Joins.below_alloc1 w4 (.cells #[.int .i64 x3, .int .i64 4095, .int .i64 4096] 3)))
  have G4 := Lib.hid (only_new G3.out (.cells #[.int .i64 x3, .int .i64 4095, .int .i64 4096] 3))
  have B4 := Lib.hid (World.ownsRow.alloc B3.out (.cells #[.int .i64 x3, .int .i64 4095, .int .i64 4096] 3))
  have O4 := Lib.hid (World.ownsRow.alloc O3.out (.cells #[.int .i64 x3, .int .i64 4095, .int .i64 4096] 3))
  go_wp2_with fail
  clear q3 R3 C3 G3 B3 O3
  refine Calls.mono (H4.out _ g A c C4.out) ?_
  rintro e w5 ⟨rfl, hc2, hg2⟩
  have q5 := Lib.hid (K.kept hg2 q4.out (fun k hk => by cases hk; omega))
  have R5 := Lib.hid (K.kept hg2 R4.out (fun k hk => by cases hk; omega))
  have C5 := Lib.hid hc2
  have G5 := Lib.hid (grownBy_trans G4.out hg2)
  have B5 := Lib.hid (own_grown B4.out hg2 (fun k h1 h2 => by cases h2; have := (B4.out.lt _ h1).1; omega))
  have O5 := Lib.hid (own_grown O4.out hg2 (fun k h1 h2 => by cases h2; have := (O4.out.lt _ h1).1; omega))
  have cf := hg2.cell (K.row_cells w4 [x3, 4095, 4096] _ rfl 3 y4 u4 HU4.out) (fun e => by have e2 : w4.heap.size = g := Option.some.inj e; omega)
  clear hc2 hg2 q4 R4 C4 G4 B4 O4
  have uu := K.cell q5.out 5 _ rfl
  have yy := frozen_of_row _ _ 5 _ _ q5.out
  have hyt : (y4 : Int) < 3 := by omega
  have q6 : Hid ((w5.setCell ⟨w1.heap.size, 5, none⟩ (.int .i64 u4)).heap[w1.heap.size]? = some (.cells #[.int .i64 x.kind, .int .i64 x.sport, .int .i64 x.dport, .int .i64 x.seq, .int .i64 x.ack, .int .i64 u4, .int .i64 x.window, .int .i64 x.urgent, .int .i64 x.ty, .int .i64 x.code, .int .i64 x.rest, .bool x.nosum, .slice O os.length oc, .slice D0 ds.length d0] 36 (0, 0))) := Lib.hid (K.set q5.out 5 _)
  have R6 := Lib.hid (K.other R5.out w1.heap.size 5 (.int .i64 u4) (by omega))
  have C6 := Lib.hid (C5.out.grownBy (grownBy_set w5 w1.heap.size 5 (.int .i64 u4)) (fun u hu => by cases hu; omega))
  have G6 := Lib.hid (grown_other G5.out (grownBy_set w5 w1.heap.size 5 (.int .i64 u4)) (fun u hu => by cases hu; omega))
  have B6 := Lib.hid (own_grown B5.out (grownBy_set w5 w1.heap.size 5 (.int .i64 u4)) (fun k h1 h2 => by cases h2; exact NB.out _ h1 rfl))
  have O6 := Lib.hid (own_grown O5.out (grownBy_set w5 w1.heap.size 5 (.int .i64 u4)) (fun k h1 h2 => by cases h2; exact NO.out _ h1 rfl))
  go_upto_region 19 with fail
  clear uu yy cf gk q5 R5 C5 G5 B5 O5
  generalize (w5.setCell ⟨w1.heap.size, 5, none⟩ (.int .i64 u4)) = w6 at q6 R6 C6 G6 B6 O6 ⊢
  go_wp2_with (first | (with_reducible refine loadU rfl _ rfl w1.heap.size rfl q6.out ?_) | (with_reducible refine storeU rfl _ _ rfl w.heap.size rfl rfl R6.out ?_))
  (try simp only [Exit.inBlock, Exit.then])
  refine bodyPost_ret (v := .agg #[.int .i64 x.kind, .int .i64 x.sport, .int .i64 x.dport, .int .i64 x.seq, .int .i64 x.ack, .int .i64 u4, .int .i64 x.window, .int .i64 x.urgent, .int .i64 x.ty, .int .i64 x.code, .int .i64 x.rest, .bool x.nosum, .slice O os.length oc, .slice D0 ds.length d0]) ?_ rfl ⟨O, oc, D0, d0, rfl, ?_, ?_, AP.out, ?_, ?_⟩
  · exact resU Try.results56 _ _ w.heap.size rfl (setRow_heap _ _ _ _ _ _ R6.out)
  · exact own_base (base' := w.heap.size) (own_grown O6.out (K.setRow_grown w6 w.heap.size #[.int .i64 x.kind, .int .i64 x.sport, .int .i64 x.dport, .int .i64 x.seq, .int .i64 x.ack, .int .i64 u4, .int .i64 x.window, .int .i64 x.urgent, .int .i64 x.ty, .int .i64 x.code, .int .i64 x.rest, .bool x.nosum, .slice O os.length oc, .slice D0 ds.length d0]) (fun k h1 h2 => by cases h2; have := (O6.out.lt _ h1).1; omega)) (by omega)
  · exact own_base (base' := w.heap.size) (own_grown B6.out (K.setRow_grown w6 w.heap.size #[.int .i64 x.kind, .int .i64 x.sport, .int .i64 x.dport, .int .i64 x.seq, .int .i64 x.ack, .int .i64 u4, .int .i64 x.window, .int .i64 x.urgent, .int .i64 x.ty, .int .i64 x.code, .int .i64 x.rest, .bool x.nosum, .slice O os.length oc, .slice D0 ds.length d0]) (fun k h1 h2 => by cases h2; have := (B6.out.lt _ h1).1; omega)) (by omega)
  · exact C6.out.grownBy (K.setRow_grown _ _ _) (fun u hu => by cases hu; omega)
  · exact grown_other G6.out (K.setRow_grown _ _ _) (fun u hu => by cases hu; omega)
set_option maxHeartbeats 4000000 in
theorem badUp_3 (want k : Int) (bs : List UInt8) (t s : Nat) (ht : t ≤ 700000000000) (x : Uh) (os ds : List UInt8) (t1 s1 : Nat) (_ : os.length ≤ 40) (hds : ds.length ≤ 40) (ht1 : t1 ≤ t + 100) (HF : Hid (∀ (w : World) (g : Nat) (A : Option Addr) (c : Nat), CurS w g A c bs t s → Calls Try.prog 95 #[.pointer (some ⟨g, 0, none⟩), .int .i64 want, .int .i64 k] w (GivesUp w g A c bs t1 s1 x os ds))) (q : Int) (s2 : Nat) (hq : q = 3) (HK : Hid (∀ (w : World) (g : Nat) (A : Option Addr) (c : Nat), CurS w g A c bs t1 s1 → Calls Try.prog 57 #[.pointer (some ⟨g, 0, none⟩), .int .i64 14] w (Gives w g A c bs (t1 + 1) s2 q))) :
    ∃ (x : Uh) (os ds : List UInt8) (t' s' : Nat), os.length ≤ 45 ∧ ds.length ≤ 1500 ∧ t' ≤ t + 200 ∧ ∀ (w : World) (g : Nat) (A : Option Addr) (c : Nat), CurS w g A c bs t s → Calls Try.prog 56 #[.pointer (some ⟨g, 0, none⟩), .int .i64 want, .int .i64 k] w (GivesUp w g A c bs t' s' x os ds) := by
  subst hq
  obtain ⟨x3, s13, lo3, up3, hd3⟩ := pickE bs (t1 + 1) s2 46 (by omega) (by omega) (by omega)
  have H3 := Lib.hid hd3
  clear hd3
  obtain ⟨y3, rfl⟩ : ∃ k : Nat, x3 = k := ⟨x3.toNat, by omega⟩
  refine ⟨⟨x.kind, x.sport, x.dport, x.seq, x.ack, x.bits, x.window, x.urgent, x.ty, x.code, x.rest, x.nosum⟩, (List.replicate y3 0), ds, t1 + 1 + 1, s13, by simp; omega, by omega, by omega, fun w g A c hc0 => ?_⟩
  have hgl := hc0.lt
  have HC0 := Lib.hid (hc0.below (Joins.below_alloc1 w (.cells #[.int .i64 0, .int .i64 0, .int .i64 0, .int .i64 0, .int .i64 0, .int .i64 0, .int .i64 0, .int .i64 0, .int .i64 0, .int .i64 0, .int .i64 0, .bool false, .slice none 0 0, .slice none 0 0] 36)))
  have R0_ := Lib.hid (K.new w (.cells #[.int .i64 0, .int .i64 0, .int .i64 0, .int .i64 0, .int .i64 0, .int .i64 0, .int .i64 0, .int .i64 0, .int .i64 0, .int .i64 0, .int .i64 0, .bool false, .slice none 0 0, .slice none 0 0] 36))
  clear hc0
  go_enter Try.func56, Try.ntmps56
  go_wp2_with fail
  refine Calls.mono (HF.out _ g A c HC0.out) ?_
  rintro e w1 ⟨O, oc, D0, d0, rfl, oo, od, ap, hc2, hg2⟩
  have hb : w.heap.size < w1.heap.size := by have := hg2.size; simp at this; omega
  have q1 := Lib.hid (K.new w1 (.cells #[.int .i64 x.kind, .int .i64 x.sport, .int .i64 x.dport, .int .i64 x.seq, .int .i64 x.ack, .int .i64 x.bits, .int .i64 x.window, .int .i64 x.urgent, .int .i64 x.ty, .int .i64 x.code, .int .i64 x.rest, .bool x.nosum, .slice O os.length oc, .slice D0 ds.length d0] 36))
  have R1 := Lib.hid (K.old (K.kept hg2 R0_.out (fun k hk => by cases hk; omega)) (.cells #[.int .i64 x.kind, .int .i64 x.sport, .int .i64 x.dport, .int .i64 x.seq, .int .i64 x.ack, .int .i64 x.bits, .int .i64 x.window, .int .i64 x.urgent, .int .i64 x.ty, .int .i64 x.code, .int .i64 x.rest, .bool x.nosum, .slice O os.length oc, .slice D0 ds.length d0] 36))
  have C1 := Lib.hid (hc2.below (Joins.below_alloc1 w1 (.cells #[.int .i64 x.kind, .int .i64 x.sport, .int .i64 x.dport, .int .i64 x.seq, .int .i64 x.ack, .int .i64 x.bits, .int .i64 x.window, .int .i64 x.urgent, .int .i64 x.ty, .int .i64 x.code, .int .i64 x.rest, .bool x.nosum, .slice O os.length oc, .slice D0 ds.length d0] 36)))
  have G1 := Lib.hid (only_new (grownBy_trans (only_new (K.refl w (some g)) (.cells #[.int .i64 0, .int .i64 0, .int .i64 0, .int .i64 0, .int .i64 0, .int .i64 0, .int .i64 0, .int .i64 0, .int .i64 0, .int .i64 0, .int .i64 0, .bool false, .slice none 0 0, .slice none 0 0] 36)) hg2) (.cells #[.int .i64 x.kind, .int .i64 x.sport, .int .i64 x.dport, .int .i64 x.seq, .int .i64 x.ack, .int .i64 x.bits, .int .i64 x.window, .int .i64 x.urgent, .int .i64 x.ty, .int .i64 x.code, .int .i64 x.rest, .bool x.nosum, .slice O os.length oc, .slice D0 ds.length d0] 36))
  have B1 := Lib.hid (World.ownsRow.alloc (own_base od (show w.heap.size + 1 ≤ _ by simp)) (.cells #[.int .i64 x.kind, .int .i64 x.sport, .int .i64 x.dport, .int .i64 x.seq, .int .i64 x.ack, .int .i64 x.bits, .int .i64 x.window, .int .i64 x.urgent, .int .i64 x.ty, .int .i64 x.code, .int .i64 x.rest, .bool x.nosum, .slice O os.length oc, .slice D0 ds.length d0] 36))
  have O1 := Lib.hid (World.ownsRow.alloc (own_base oo (show w.heap.size + 1 ≤ _ by simp)) (.cells #[.int .i64 x.kind, .int .i64 x.sport, .int .i64 x.dport, .int .i64 x.seq, .int .i64 x.ack, .int .i64 x.bits, .int .i64 x.window, .int .i64 x.urgent, .int .i64 x.ty, .int .i64 x.code, .int .i64 x.rest, .bool x.nosum, .slice O os.length oc, .slice D0 ds.length d0] 36))
  have NB := Lib.hid (fun k (hk : (Value.slice D0 ds.length d0).ownBlock = some k) => show k ≠ w1.heap.size by have := (od.lt k hk).2; omega)
  have NO := Lib.hid (fun k (hk : (Value.slice O os.length oc).ownBlock = some k) => show k ≠ w1.heap.size by have := (oo.lt k hk).2; omega)
  have AP := Lib.hid ap
  clear od oo ap hc2 hg2 HC0 R0_
  go_wp2_with (with_reducible refine storeNewU rfl _ _ rfl rfl rfl ?_)
  generalize (w1.alloc (.cells #[.int .i64 x.kind, .int .i64 x.sport, .int .i64 x.dport, .int .i64 x.seq, .int .i64 x.ack, .int .i64 x.bits, .int .i64 x.window, .int .i64 x.urgent, .int .i64 x.ty, .int .i64 x.code, .int .i64 x.rest, .bool x.nosum, .slice O os.length oc, .slice D0 ds.length d0] 36)) = w2 at q1 R1 C1 G1 B1 O1 ⊢
  refine Calls.mono (HK.out _ g A c C1.out) ?_
  rintro e w3 ⟨rfl, hc2, hg2⟩
  have q2 := Lib.hid (K.kept hg2 q1.out (fun k hk => by cases hk; omega))
  have R2 := Lib.hid (K.kept hg2 R1.out (fun k hk => by cases hk; omega))
  have C2 := Lib.hid hc2
  have G2 := Lib.hid (grownBy_trans G1.out hg2)
  have B2 := Lib.hid (own_grown B1.out hg2 (fun k h1 h2 => by cases h2; have := (B1.out.lt _ h1).1; omega))
  have O2 := Lib.hid (own_grown O1.out hg2 (fun k h1 h2 => by cases h2; have := (O1.out.lt _ h1).1; omega))
  clear hc2 hg2 q1 R1 C1 G1 B1 O1
  go_wp2_with fail
  refine Calls.mono (H3.out _ g A c C2.out) ?_
  rintro e w4 ⟨rfl, hc2, hg2⟩
  have q3 := Lib.hid (K.kept hg2 q2.out (fun k hk => by cases hk; omega))
  have R3 := Lib.hid (K.kept hg2 R2.out (fun k hk => by cases hk; omega))
  have C3 := Lib.hid hc2
  have G3 := Lib.hid (grownBy_trans G2.out hg2)
  have B3 := Lib.hid (own_grown B2.out hg2 (fun k h1 h2 => by cases h2; have := (B2.out.lt _ h1).1; omega))
  have O3 := Lib.hid (own_grown O2.out hg2 (fun k h1 h2 => by cases h2; have := (O2.out.lt _ h1).1; omega))
  clear hc2 hg2 q2 R2 C2 G2 B2 O2
  have hlq := K.lt q3.out
  obtain ⟨i0, hi0, hz0, hz1, hz2⟩ := info_parts info_u8
  go_upto_region 19 with (at_make; refine wpList_make_full _ rfl _ _ 34 rfl (w1.heap.size + 1) 5 i0 (.int .u8 0) 1 Try.underlying34 hi0 hz0 hz1 _ _ _ _ y3 rfl rfl rfl rfl (by rw [hz2]; omega) (by unfold maxLen; omega) (by omega) ?_; intro w5 hown hgm; have HOM := Lib.hid hown; have HGM := Lib.hid hgm; clear hown hgm; have uu := K.cell (K.kept HGM.out q3.out (fun k hk => by cases hk)) 12 _ rfl; have yy := frozen_of_row _ _ 12 _ _ (K.kept HGM.out q3.out (fun k hk => by cases hk)))
  have q4 := Lib.hid (K.kept HGM.out q3.out (fun k hk => by cases hk))
  have R4 := Lib.hid (K.kept HGM.out R3.out (fun k hk => by cases hk))
  have C4 := Lib.hid (C3.out.grownBy HGM.out (fun k hk => by cases hk))
  have G4 := Lib.hid (grown_other G3.out HGM.out (fun k hk => by cases hk))
  have B4 := Lib.hid (own_grown B3.out HGM.out (fun k hk e => by cases e))
  have Om4 := Lib.hid (made_zeroF y3 ▸ HOM.out)
  have NOm := Lib.hid (show ∀ k, (Value.slice (some ⟨w4.heap.size, 0, none⟩) y3 y3).ownBlock = some k → k ≠ w1.heap.size from fun k hk => by have := (HOM.out.lt k hk).1; omega)
  have APOm := Lib.hid (show ∀ k, (Value.slice (some ⟨w4.heap.size, 0, none⟩) y3 y3).ownBlock = some k → w4.heap.size ≤ k from fun k hk => by simp [Value.ownBlock] at hk; omega)
  have LB := Lib.hid (fun k hk => (B3.out.lt k hk).2)
  clear HOM HGM uu yy q3 R3 C3 G3 B3 O3
  have q5 : Hid ((w5.setCell ⟨w1.heap.size, 12, none⟩ (.slice (some ⟨w4.heap.size, 0, none⟩) y3 y3)).heap[w1.heap.size]? = some (.cells #[.int .i64 x.kind, .int .i64 x.sport, .int .i64 x.dport, .int .i64 x.seq, .int .i64 x.ack, .int .i64 x.bits, .int .i64 x.window, .int .i64 x.urgent, .int .i64 x.ty, .int .i64 x.code, .int .i64 x.rest, .bool x.nosum, .slice (some ⟨w4.heap.size, 0, none⟩) y3 y3, .slice D0 ds.length d0] 36 (0, 0))) := Lib.hid (K.set q4.out 12 _)
  have R5 := Lib.hid (K.other R4.out w1.heap.size 12 (.slice (some ⟨w4.heap.size, 0, none⟩) y3 y3) (by omega))
  have C5 := Lib.hid (C4.out.grownBy (grownBy_set w5 w1.heap.size 12 (.slice (some ⟨w4.heap.size, 0, none⟩) y3 y3)) (fun u hu => by cases hu; omega))
  have G5 := Lib.hid (grown_other G4.out (grownBy_set w5 w1.heap.size 12 (.slice (some ⟨w4.heap.size, 0, none⟩) y3 y3)) (fun u hu => by cases hu; omega))
  have B5 := Lib.hid (own_grown B4.out (grownBy_set w5 w1.heap.size 12 (.slice (some ⟨w4.heap.size, 0, none⟩) y3 y3)) (fun k h1 h2 => by cases h2; exact NB.out _ h1 rfl))
  have Om5 := Lib.hid (own_grown Om4.out (grownBy_set w5 w1.heap.size 12 (.slice (some ⟨w4.heap.size, 0, none⟩) y3 y3)) (fun k h1 h2 => by cases h2; exact NOm.out _ h1 rfl))
  clear q4 R4 C4 G4 B4 Om4
  generalize (w5.setCell ⟨w1.heap.size, 12, none⟩ (.slice (some ⟨w4.heap.size, 0, none⟩) y3 y3)) = w6 at q5 R5 C5 G5 B5 Om5 ⊢
  go_wp2_with (first | (with_reducible refine loadU rfl _ rfl w1.heap.size rfl q5.out ?_) | (with_reducible refine storeU rfl _ _ rfl w.heap.size rfl rfl R5.out ?_))
  (try simp only [Exit.inBlock, Exit.then])
  refine bodyPost_ret (v := .agg #[.int .i64 x.kind, .int .i64 x.sport, .int .i64 x.dport, .int .i64 x.seq, .int .i64 x.ack, .int .i64 x.bits, .int .i64 x.window, .int .i64 x.urgent, .int .i64 x.ty, .int .i64 x.code, .int .i64 x.rest, .bool x.nosum, .slice (some ⟨w4.heap.size, 0, none⟩) y3 y3, .slice D0 ds.length d0]) ?_ rfl ⟨(some ⟨w4.heap.size, 0, none⟩), y3, D0, d0, by rw [List.length_replicate], ?_, ?_, (fun k h1 h2 => by rw [List.length_replicate] at h1; have := APOm.out k h1; have := LB.out k h2; omega), ?_, ?_⟩
  · exact resU Try.results56 _ _ w.heap.size rfl (setRow_heap _ _ _ _ _ _ R5.out)
  · exact by have this := own_base (base' := w.heap.size) (own_grown Om5.out (K.setRow_grown w6 w.heap.size #[.int .i64 x.kind, .int .i64 x.sport, .int .i64 x.dport, .int .i64 x.seq, .int .i64 x.ack, .int .i64 x.bits, .int .i64 x.window, .int .i64 x.urgent, .int .i64 x.ty, .int .i64 x.code, .int .i64 x.rest, .bool x.nosum, .slice (some ⟨w4.heap.size, 0, none⟩) y3 y3, .slice D0 ds.length d0]) (fun k h1 h2 => by cases h2; have := (Om5.out.lt _ h1).1; omega)) (by omega); rw [List.length_replicate]; exact this
  · exact own_base (base' := w.heap.size) (own_grown B5.out (K.setRow_grown w6 w.heap.size #[.int .i64 x.kind, .int .i64 x.sport, .int .i64 x.dport, .int .i64 x.seq, .int .i64 x.ack, .int .i64 x.bits, .int .i64 x.window, .int .i64 x.urgent, .int .i64 x.ty, .int .i64 x.code, .int .i64 x.rest, .bool x.nosum, .slice (some ⟨w4.heap.size, 0, none⟩) y3 y3, .slice D0 ds.length d0]) (fun k h1 h2 => by cases h2; have := (B5.out.lt _ h1).1; omega)) (by omega)
  · exact C5.out.grownBy (K.setRow_grown _ _ _) (fun u hu => by cases hu; omega)
  · exact grown_other G5.out (K.setRow_grown _ _ _) (fun u hu => by cases hu; omega)
set_option maxHeartbeats 4000000 in
theorem badUp_4 (want k : Int) (bs : List UInt8) (t s : Nat) (ht : t ≤ 700000000000) (x : Uh) (os ds : List UInt8) (t1 s1 : Nat) (hos : os.length ≤ 40) (hds : ds.length ≤ 40) (ht1 : t1 ≤ t + 100) (HF : Hid (∀ (w : World) (g : Nat) (A : Option Addr) (c : Nat), CurS w g A c bs t s → Calls Try.prog 95 #[.pointer (some ⟨g, 0, none⟩), .int .i64 want, .int .i64 k] w (GivesUp w g A c bs t1 s1 x os ds))) (q : Int) (s2 : Nat) (hq : q = 4) (HK : Hid (∀ (w : World) (g : Nat) (A : Option Addr) (c : Nat), CurS w g A c bs t1 s1 → Calls Try.prog 57 #[.pointer (some ⟨g, 0, none⟩), .int .i64 14] w (Gives w g A c bs (t1 + 1) s2 q))) :
    ∃ (x : Uh) (os ds : List UInt8) (t' s' : Nat), os.length ≤ 45 ∧ ds.length ≤ 1500 ∧ t' ≤ t + 200 ∧ ∀ (w : World) (g : Nat) (A : Option Addr) (c : Nat), CurS w g A c bs t s → Calls Try.prog 56 #[.pointer (some ⟨g, 0, none⟩), .int .i64 want, .int .i64 k] w (GivesUp w g A c bs t' s' x os ds) := by
  subst hq
  obtain ⟨x3, s13, hd3⟩ := rawE bs (t1 + 1) s2 (by omega)
  have H3 := Lib.hid hd3
  clear hd3
  obtain ⟨x4, s14, lo4, up4, hd4⟩ := pickE bs (t1 + 1 + 2) s13 2 (by omega) (by omega) (by omega)
  have H4 := Lib.hid hd4
  clear hd4
  obtain ⟨y4, rfl⟩ : ∃ k : Nat, x4 = k := ⟨x4.toNat, by omega⟩
  obtain ⟨u4, hu4⟩ : ∃ a, ([x3, 256] : List Int)[y4]? = some a := ⟨_, List.getElem?_eq_getElem (by simp; omega)⟩
  have HU4 := Lib.hid hu4
  clear hu4
  refine ⟨⟨x.kind, x.sport, x.dport, x.seq, x.ack, x.bits, x.window, x.urgent, u4, x.code, x.rest, x.nosum⟩, os, ds, t1 + 1 + 2 + 1, s14, by omega, by omega, by omega, fun w g A c hc0 => ?_⟩
  have hgl := hc0.lt
  have HC0 := Lib.hid (hc0.below (Joins.below_alloc1 w (.cells #[.int .i64 0, .int .i64 0, .int .i64 0, .int .i64 0, .int .i64 0, .int .i64 0, .int .i64 0, .int .i64 0, .int .i64 0, .int .i64 0, .int .i64 0, .bool false, .slice none 0 0, .slice none 0 0] 36)))
  have R0_ := Lib.hid (K.new w (.cells #[.int .i64 0, .int .i64 0, .int .i64 0, .int .i64 0, .int .i64 0, .int .i64 0, .int .i64 0, .int .i64 0, .int .i64 0, .int .i64 0, .int .i64 0, .bool false, .slice none 0 0, .slice none 0 0] 36))
  clear hc0
  go_enter Try.func56, Try.ntmps56
  go_wp2_with fail
  refine Calls.mono (HF.out _ g A c HC0.out) ?_
  rintro e w1 ⟨O, oc, D0, d0, rfl, oo, od, ap, hc2, hg2⟩
  have hb : w.heap.size < w1.heap.size := by have := hg2.size; simp at this; omega
  have q1 := Lib.hid (K.new w1 (.cells #[.int .i64 x.kind, .int .i64 x.sport, .int .i64 x.dport, .int .i64 x.seq, .int .i64 x.ack, .int .i64 x.bits, .int .i64 x.window, .int .i64 x.urgent, .int .i64 x.ty, .int .i64 x.code, .int .i64 x.rest, .bool x.nosum, .slice O os.length oc, .slice D0 ds.length d0] 36))
  have R1 := Lib.hid (K.old (K.kept hg2 R0_.out (fun k hk => by cases hk; omega)) (.cells #[.int .i64 x.kind, .int .i64 x.sport, .int .i64 x.dport, .int .i64 x.seq, .int .i64 x.ack, .int .i64 x.bits, .int .i64 x.window, .int .i64 x.urgent, .int .i64 x.ty, .int .i64 x.code, .int .i64 x.rest, .bool x.nosum, .slice O os.length oc, .slice D0 ds.length d0] 36))
  have C1 := Lib.hid (hc2.below (Joins.below_alloc1 w1 (.cells #[.int .i64 x.kind, .int .i64 x.sport, .int .i64 x.dport, .int .i64 x.seq, .int .i64 x.ack, .int .i64 x.bits, .int .i64 x.window, .int .i64 x.urgent, .int .i64 x.ty, .int .i64 x.code, .int .i64 x.rest, .bool x.nosum, .slice O os.length oc, .slice D0 ds.length d0] 36)))
  have G1 := Lib.hid (only_new (grownBy_trans (only_new (K.refl w (some g)) (.cells #[.int .i64 0, .int .i64 0, .int .i64 0, .int .i64 0, .int .i64 0, .int .i64 0, .int .i64 0, .int .i64 0, .int .i64 0, .int .i64 0, .int .i64 0, .bool false, .slice none 0 0, .slice none 0 0] 36)) hg2) (.cells #[.int .i64 x.kind, .int .i64 x.sport, .int .i64 x.dport, .int .i64 x.seq, .int .i64 x.ack, .int .i64 x.bits, .int .i64 x.window, .int .i64 x.urgent, .int .i64 x.ty, .int .i64 x.code, .int .i64 x.rest, .bool x.nosum, .slice O os.length oc, .slice D0 ds.length d0] 36))
  have B1 := Lib.hid (World.ownsRow.alloc (own_base od (show w.heap.size + 1 ≤ _ by simp)) (.cells #[.int .i64 x.kind, .int .i64 x.sport, .int .i64 x.dport, .int .i64 x.seq, .int .i64 x.ack, .int .i64 x.bits, .int .i64 x.window, .int .i64 x.urgent, .int .i64 x.ty, .int .i64 x.code, .int .i64 x.rest, .bool x.nosum, .slice O os.length oc, .slice D0 ds.length d0] 36))
  have O1 := Lib.hid (World.ownsRow.alloc (own_base oo (show w.heap.size + 1 ≤ _ by simp)) (.cells #[.int .i64 x.kind, .int .i64 x.sport, .int .i64 x.dport, .int .i64 x.seq, .int .i64 x.ack, .int .i64 x.bits, .int .i64 x.window, .int .i64 x.urgent, .int .i64 x.ty, .int .i64 x.code, .int .i64 x.rest, .bool x.nosum, .slice O os.length oc, .slice D0 ds.length d0] 36))
  have NB := Lib.hid (fun k (hk : (Value.slice D0 ds.length d0).ownBlock = some k) => show k ≠ w1.heap.size by have := (od.lt k hk).2; omega)
  have NO := Lib.hid (fun k (hk : (Value.slice O os.length oc).ownBlock = some k) => show k ≠ w1.heap.size by have := (oo.lt k hk).2; omega)
  have AP := Lib.hid ap
  clear od oo ap hc2 hg2 HC0 R0_
  go_wp2_with (with_reducible refine storeNewU rfl _ _ rfl rfl rfl ?_)
  generalize (w1.alloc (.cells #[.int .i64 x.kind, .int .i64 x.sport, .int .i64 x.dport, .int .i64 x.seq, .int .i64 x.ack, .int .i64 x.bits, .int .i64 x.window, .int .i64 x.urgent, .int .i64 x.ty, .int .i64 x.code, .int .i64 x.rest, .bool x.nosum, .slice O os.length oc, .slice D0 ds.length d0] 36)) = w2 at q1 R1 C1 G1 B1 O1 ⊢
  refine Calls.mono (HK.out _ g A c C1.out) ?_
  rintro e w3 ⟨rfl, hc2, hg2⟩
  have q2 := Lib.hid (K.kept hg2 q1.out (fun k hk => by cases hk; omega))
  have R2 := Lib.hid (K.kept hg2 R1.out (fun k hk => by cases hk; omega))
  have C2 := Lib.hid hc2
  have G2 := Lib.hid (grownBy_trans G1.out hg2)
  have B2 := Lib.hid (own_grown B1.out hg2 (fun k h1 h2 => by cases h2; have := (B1.out.lt _ h1).1; omega))
  have O2 := Lib.hid (own_grown O1.out hg2 (fun k h1 h2 => by cases h2; have := (O1.out.lt _ h1).1; omega))
  clear hc2 hg2 q1 R1 C1 G1 B1 O1
  go_wp2_with fail
  refine Calls.mono (H3.out _ g A c C2.out) ?_
  rintro e w4 ⟨rfl, hc2, hg2⟩
  have q3 := Lib.hid (K.kept hg2 q2.out (fun k hk => by cases hk; omega))
  have R3 := Lib.hid (K.kept hg2 R2.out (fun k hk => by cases hk; omega))
  have C3 := Lib.hid hc2
  have G3 := Lib.hid (grownBy_trans G2.out hg2)
  have B3 := Lib.hid (own_grown B2.out hg2 (fun k h1 h2 => by cases h2; have := (B2.out.lt _ h1).1; omega))
  have O3 := Lib.hid (own_grown O2.out hg2 (fun k h1 h2 => by cases h2; have := (O2.out.lt _ h1).1; omega))
  clear hc2 hg2 q2 R2 C2 G2 B2 O2
  have gk := C3.out.lt
  have q4 := Lib.hid (K.old q3.out (.cells #[.int .i64 x3, .int .i64 256] 3))
  have R4 := Lib.hid (K.old R3.out (.cells #[.int .i64 x3, .int .i64 256] 3))
  have C4 := Lib.hid (C3.out.below (Joins.below_alloc1 w4 (.cells #[.int .i64 x3, .int .i64 256] 3)))
  have G4 := Lib.hid (only_new G3.out (.cells #[.int .i64 x3, .int .i64 256] 3))
  have B4 := Lib.hid (World.ownsRow.alloc B3.out (.cells #[.int .i64 x3, .int .i64 256] 3))
  have O4 := Lib.hid (World.ownsRow.alloc O3.out (.cells #[.int .i64 x3, .int .i64 256] 3))
  go_wp2_with fail
  clear q3 R3 C3 G3 B3 O3
  refine Calls.mono (H4.out _ g A c C4.out) ?_
  rintro e w5 ⟨rfl, hc2, hg2⟩
  have q5 := Lib.hid (K.kept hg2 q4.out (fun k hk => by cases hk; omega))
  have R5 := Lib.hid (K.kept hg2 R4.out (fun k hk => by cases hk; omega))
  have C5 := Lib.hid hc2
  have G5 := Lib.hid (grownBy_trans G4.out hg2)
  have B5 := Lib.hid (own_grown B4.out hg2 (fun k h1 h2 => by cases h2; have := (B4.out.lt _ h1).1; omega))
  have O5 := Lib.hid (own_grown O4.out hg2 (fun k h1 h2 => by cases h2; have := (O4.out.lt _ h1).1; omega))
  have cf := hg2.cell (K.row_cells w4 [x3, 256] _ rfl 3 y4 u4 HU4.out) (fun e => by have e2 : w4.heap.size = g := Option.some.inj e; omega)
  clear hc2 hg2 q4 R4 C4 G4 B4 O4
  have uu := K.cell q5.out 8 _ rfl
  have yy := frozen_of_row _ _ 8 _ _ q5.out
  have hyt : (y4 : Int) < 2 := by omega
  have q6 : Hid ((w5.setCell ⟨w1.heap.size, 8, none⟩ (.int .i64 u4)).heap[w1.heap.size]? = some (.cells #[.int .i64 x.kind, .int .i64 x.sport, .int .i64 x.dport, .int .i64 x.seq, .int .i64 x.ack, .int .i64 x.bits, .int .i64 x.window, .int .i64 x.urgent, .int .i64 u4, .int .i64 x.code, .int .i64 x.rest, .bool x.nosum, .slice O os.length oc, .slice D0 ds.length d0] 36 (0, 0))) := Lib.hid (K.set q5.out 8 _)
  have R6 := Lib.hid (K.other R5.out w1.heap.size 8 (.int .i64 u4) (by omega))
  have C6 := Lib.hid (C5.out.grownBy (grownBy_set w5 w1.heap.size 8 (.int .i64 u4)) (fun u hu => by cases hu; omega))
  have G6 := Lib.hid (grown_other G5.out (grownBy_set w5 w1.heap.size 8 (.int .i64 u4)) (fun u hu => by cases hu; omega))
  have B6 := Lib.hid (own_grown B5.out (grownBy_set w5 w1.heap.size 8 (.int .i64 u4)) (fun k h1 h2 => by cases h2; exact NB.out _ h1 rfl))
  have O6 := Lib.hid (own_grown O5.out (grownBy_set w5 w1.heap.size 8 (.int .i64 u4)) (fun k h1 h2 => by cases h2; exact NO.out _ h1 rfl))
  go_upto_region 19 with fail
  clear uu yy cf gk q5 R5 C5 G5 B5 O5
  generalize (w5.setCell ⟨w1.heap.size, 8, none⟩ (.int .i64 u4)) = w6 at q6 R6 C6 G6 B6 O6 ⊢
  go_wp2_with (first | (with_reducible refine loadU rfl _ rfl w1.heap.size rfl q6.out ?_) | (with_reducible refine storeU rfl _ _ rfl w.heap.size rfl rfl R6.out ?_))
  (try simp only [Exit.inBlock, Exit.then])
  refine bodyPost_ret (v := .agg #[.int .i64 x.kind, .int .i64 x.sport, .int .i64 x.dport, .int .i64 x.seq, .int .i64 x.ack, .int .i64 x.bits, .int .i64 x.window, .int .i64 x.urgent, .int .i64 u4, .int .i64 x.code, .int .i64 x.rest, .bool x.nosum, .slice O os.length oc, .slice D0 ds.length d0]) ?_ rfl ⟨O, oc, D0, d0, rfl, ?_, ?_, AP.out, ?_, ?_⟩
  · exact resU Try.results56 _ _ w.heap.size rfl (setRow_heap _ _ _ _ _ _ R6.out)
  · exact own_base (base' := w.heap.size) (own_grown O6.out (K.setRow_grown w6 w.heap.size #[.int .i64 x.kind, .int .i64 x.sport, .int .i64 x.dport, .int .i64 x.seq, .int .i64 x.ack, .int .i64 x.bits, .int .i64 x.window, .int .i64 x.urgent, .int .i64 u4, .int .i64 x.code, .int .i64 x.rest, .bool x.nosum, .slice O os.length oc, .slice D0 ds.length d0]) (fun k h1 h2 => by cases h2; have := (O6.out.lt _ h1).1; omega)) (by omega)
  · exact own_base (base' := w.heap.size) (own_grown B6.out (K.setRow_grown w6 w.heap.size #[.int .i64 x.kind, .int .i64 x.sport, .int .i64 x.dport, .int .i64 x.seq, .int .i64 x.ack, .int .i64 x.bits, .int .i64 x.window, .int .i64 x.urgent, .int .i64 u4, .int .i64 x.code, .int .i64 x.rest, .bool x.nosum, .slice O os.length oc, .slice D0 ds.length d0]) (fun k h1 h2 => by cases h2; have := (B6.out.lt _ h1).1; omega)) (by omega)
  · exact C6.out.grownBy (K.setRow_grown _ _ _) (fun u hu => by cases hu; omega)
  · exact grown_other G6.out (K.setRow_grown _ _ _) (fun u hu => by cases hu; omega)
set_option maxHeartbeats 4000000 in
theorem badUp_5 (want k : Int) (bs : List UInt8) (t s : Nat) (_ : t ≤ 700000000000) (x : Uh) (os ds : List UInt8) (t1 s1 : Nat) (hos : os.length ≤ 40) (hds : ds.length ≤ 40) (ht1 : t1 ≤ t + 100) (HF : Hid (∀ (w : World) (g : Nat) (A : Option Addr) (c : Nat), CurS w g A c bs t s → Calls Try.prog 95 #[.pointer (some ⟨g, 0, none⟩), .int .i64 want, .int .i64 k] w (GivesUp w g A c bs t1 s1 x os ds))) (q : Int) (s2 : Nat) (hq : q = 5) (HK : Hid (∀ (w : World) (g : Nat) (A : Option Addr) (c : Nat), CurS w g A c bs t1 s1 → Calls Try.prog 57 #[.pointer (some ⟨g, 0, none⟩), .int .i64 14] w (Gives w g A c bs (t1 + 1) s2 q))) :
    ∃ (x : Uh) (os ds : List UInt8) (t' s' : Nat), os.length ≤ 45 ∧ ds.length ≤ 1500 ∧ t' ≤ t + 200 ∧ ∀ (w : World) (g : Nat) (A : Option Addr) (c : Nat), CurS w g A c bs t s → Calls Try.prog 56 #[.pointer (some ⟨g, 0, none⟩), .int .i64 want, .int .i64 k] w (GivesUp w g A c bs t' s' x os ds) := by
  subst hq
  refine ⟨⟨x.kind, x.sport, x.dport, x.seq, x.ack, x.bits, x.window, x.urgent, x.ty, x.code, x.rest, !x.nosum⟩, os, ds, t1 + 1, s2, by omega, by omega, by omega, fun w g A c hc0 => ?_⟩
  have hgl := hc0.lt
  have HC0 := Lib.hid (hc0.below (Joins.below_alloc1 w (.cells #[.int .i64 0, .int .i64 0, .int .i64 0, .int .i64 0, .int .i64 0, .int .i64 0, .int .i64 0, .int .i64 0, .int .i64 0, .int .i64 0, .int .i64 0, .bool false, .slice none 0 0, .slice none 0 0] 36)))
  have R0_ := Lib.hid (K.new w (.cells #[.int .i64 0, .int .i64 0, .int .i64 0, .int .i64 0, .int .i64 0, .int .i64 0, .int .i64 0, .int .i64 0, .int .i64 0, .int .i64 0, .int .i64 0, .bool false, .slice none 0 0, .slice none 0 0] 36))
  clear hc0
  go_enter Try.func56, Try.ntmps56
  go_wp2_with fail
  refine Calls.mono (HF.out _ g A c HC0.out) ?_
  rintro e w1 ⟨O, oc, D0, d0, rfl, oo, od, ap, hc2, hg2⟩
  have hb : w.heap.size < w1.heap.size := by have := hg2.size; simp at this; omega
  have q1 := Lib.hid (K.new w1 (.cells #[.int .i64 x.kind, .int .i64 x.sport, .int .i64 x.dport, .int .i64 x.seq, .int .i64 x.ack, .int .i64 x.bits, .int .i64 x.window, .int .i64 x.urgent, .int .i64 x.ty, .int .i64 x.code, .int .i64 x.rest, .bool x.nosum, .slice O os.length oc, .slice D0 ds.length d0] 36))
  have R1 := Lib.hid (K.old (K.kept hg2 R0_.out (fun k hk => by cases hk; omega)) (.cells #[.int .i64 x.kind, .int .i64 x.sport, .int .i64 x.dport, .int .i64 x.seq, .int .i64 x.ack, .int .i64 x.bits, .int .i64 x.window, .int .i64 x.urgent, .int .i64 x.ty, .int .i64 x.code, .int .i64 x.rest, .bool x.nosum, .slice O os.length oc, .slice D0 ds.length d0] 36))
  have C1 := Lib.hid (hc2.below (Joins.below_alloc1 w1 (.cells #[.int .i64 x.kind, .int .i64 x.sport, .int .i64 x.dport, .int .i64 x.seq, .int .i64 x.ack, .int .i64 x.bits, .int .i64 x.window, .int .i64 x.urgent, .int .i64 x.ty, .int .i64 x.code, .int .i64 x.rest, .bool x.nosum, .slice O os.length oc, .slice D0 ds.length d0] 36)))
  have G1 := Lib.hid (only_new (grownBy_trans (only_new (K.refl w (some g)) (.cells #[.int .i64 0, .int .i64 0, .int .i64 0, .int .i64 0, .int .i64 0, .int .i64 0, .int .i64 0, .int .i64 0, .int .i64 0, .int .i64 0, .int .i64 0, .bool false, .slice none 0 0, .slice none 0 0] 36)) hg2) (.cells #[.int .i64 x.kind, .int .i64 x.sport, .int .i64 x.dport, .int .i64 x.seq, .int .i64 x.ack, .int .i64 x.bits, .int .i64 x.window, .int .i64 x.urgent, .int .i64 x.ty, .int .i64 x.code, .int .i64 x.rest, .bool x.nosum, .slice O os.length oc, .slice D0 ds.length d0] 36))
  have B1 := Lib.hid (World.ownsRow.alloc (own_base od (show w.heap.size + 1 ≤ _ by simp)) (.cells #[.int .i64 x.kind, .int .i64 x.sport, .int .i64 x.dport, .int .i64 x.seq, .int .i64 x.ack, .int .i64 x.bits, .int .i64 x.window, .int .i64 x.urgent, .int .i64 x.ty, .int .i64 x.code, .int .i64 x.rest, .bool x.nosum, .slice O os.length oc, .slice D0 ds.length d0] 36))
  have O1 := Lib.hid (World.ownsRow.alloc (own_base oo (show w.heap.size + 1 ≤ _ by simp)) (.cells #[.int .i64 x.kind, .int .i64 x.sport, .int .i64 x.dport, .int .i64 x.seq, .int .i64 x.ack, .int .i64 x.bits, .int .i64 x.window, .int .i64 x.urgent, .int .i64 x.ty, .int .i64 x.code, .int .i64 x.rest, .bool x.nosum, .slice O os.length oc, .slice D0 ds.length d0] 36))
  have NB := Lib.hid (fun k (hk : (Value.slice D0 ds.length d0).ownBlock = some k) => show k ≠ w1.heap.size by have := (od.lt k hk).2; omega)
  have NO := Lib.hid (fun k (hk : (Value.slice O os.length oc).ownBlock = some k) => show k ≠ w1.heap.size by have := (oo.lt k hk).2; omega)
  have AP := Lib.hid ap
  clear od oo ap hc2 hg2 HC0 R0_
  go_wp2_with (with_reducible refine storeNewU rfl _ _ rfl rfl rfl ?_)
  generalize (w1.alloc (.cells #[.int .i64 x.kind, .int .i64 x.sport, .int .i64 x.dport, .int .i64 x.seq, .int .i64 x.ack, .int .i64 x.bits, .int .i64 x.window, .int .i64 x.urgent, .int .i64 x.ty, .int .i64 x.code, .int .i64 x.rest, .bool x.nosum, .slice O os.length oc, .slice D0 ds.length d0] 36)) = w2 at q1 R1 C1 G1 B1 O1 ⊢
  refine Calls.mono (HK.out _ g A c C1.out) ?_
  rintro e w3 ⟨rfl, hc2, hg2⟩
  have q2 := Lib.hid (K.kept hg2 q1.out (fun k hk => by cases hk; omega))
  have R2 := Lib.hid (K.kept hg2 R1.out (fun k hk => by cases hk; omega))
  have C2 := Lib.hid hc2
  have G2 := Lib.hid (grownBy_trans G1.out hg2)
  have B2 := Lib.hid (own_grown B1.out hg2 (fun k h1 h2 => by cases h2; have := (B1.out.lt _ h1).1; omega))
  have O2 := Lib.hid (own_grown O1.out hg2 (fun k h1 h2 => by cases h2; have := (O1.out.lt _ h1).1; omega))
  clear hc2 hg2 q1 R1 C1 G1 B1 O1
  have uu := K.cell q2.out 11 _ rfl
  have yy := frozen_of_row _ _ 11 _ _ q2.out
  have q3 : Hid ((w3.setCell ⟨w1.heap.size, 11, none⟩ (.bool (!x.nosum))).heap[w1.heap.size]? = some (.cells #[.int .i64 x.kind, .int .i64 x.sport, .int .i64 x.dport, .int .i64 x.seq, .int .i64 x.ack, .int .i64 x.bits, .int .i64 x.window, .int .i64 x.urgent, .int .i64 x.ty, .int .i64 x.code, .int .i64 x.rest, .bool !x.nosum, .slice O os.length oc, .slice D0 ds.length d0] 36 (0, 0))) := Lib.hid (K.set q2.out 11 _)
  have R3 := Lib.hid (K.other R2.out w1.heap.size 11 (.bool (!x.nosum)) (by omega))
  have C3 := Lib.hid (C2.out.grownBy (grownBy_set w3 w1.heap.size 11 (.bool (!x.nosum))) (fun u hu => by cases hu; omega))
  have G3 := Lib.hid (grown_other G2.out (grownBy_set w3 w1.heap.size 11 (.bool (!x.nosum))) (fun u hu => by cases hu; omega))
  have B3 := Lib.hid (own_grown B2.out (grownBy_set w3 w1.heap.size 11 (.bool (!x.nosum))) (fun k h1 h2 => by cases h2; exact NB.out _ h1 rfl))
  have O3 := Lib.hid (own_grown O2.out (grownBy_set w3 w1.heap.size 11 (.bool (!x.nosum))) (fun k h1 h2 => by cases h2; exact NO.out _ h1 rfl))
  go_upto_region 19 with fail
  clear uu yy q2 R2 C2 G2 B2 O2
  generalize (w3.setCell ⟨w1.heap.size, 11, none⟩ (.bool (!x.nosum))) = w4 at q3 R3 C3 G3 B3 O3 ⊢
  go_wp2_with (first | (with_reducible refine loadU rfl _ rfl w1.heap.size rfl q3.out ?_) | (with_reducible refine storeU rfl _ _ rfl w.heap.size rfl rfl R3.out ?_))
  (try simp only [Exit.inBlock, Exit.then])
  refine bodyPost_ret (v := .agg #[.int .i64 x.kind, .int .i64 x.sport, .int .i64 x.dport, .int .i64 x.seq, .int .i64 x.ack, .int .i64 x.bits, .int .i64 x.window, .int .i64 x.urgent, .int .i64 x.ty, .int .i64 x.code, .int .i64 x.rest, .bool !x.nosum, .slice O os.length oc, .slice D0 ds.length d0]) ?_ rfl ⟨O, oc, D0, d0, rfl, ?_, ?_, AP.out, ?_, ?_⟩
  · exact resU Try.results56 _ _ w.heap.size rfl (setRow_heap _ _ _ _ _ _ R3.out)
  · exact own_base (base' := w.heap.size) (own_grown O3.out (K.setRow_grown w4 w.heap.size #[.int .i64 x.kind, .int .i64 x.sport, .int .i64 x.dport, .int .i64 x.seq, .int .i64 x.ack, .int .i64 x.bits, .int .i64 x.window, .int .i64 x.urgent, .int .i64 x.ty, .int .i64 x.code, .int .i64 x.rest, .bool !x.nosum, .slice O os.length oc, .slice D0 ds.length d0]) (fun k h1 h2 => by cases h2; have := (O3.out.lt _ h1).1; omega)) (by omega)
  · exact own_base (base' := w.heap.size) (own_grown B3.out (K.setRow_grown w4 w.heap.size #[.int .i64 x.kind, .int .i64 x.sport, .int .i64 x.dport, .int .i64 x.seq, .int .i64 x.ack, .int .i64 x.bits, .int .i64 x.window, .int .i64 x.urgent, .int .i64 x.ty, .int .i64 x.code, .int .i64 x.rest, .bool !x.nosum, .slice O os.length oc, .slice D0 ds.length d0]) (fun k h1 h2 => by cases h2; have := (B3.out.lt _ h1).1; omega)) (by omega)
  · exact C3.out.grownBy (K.setRow_grown _ _ _) (fun u hu => by cases hu; omega)
  · exact grown_other G3.out (K.setRow_grown _ _ _) (fun u hu => by cases hu; omega)
set_option maxHeartbeats 4000000 in
theorem badUp_6 (want k : Int) (bs : List UInt8) (t s : Nat) (ht : t ≤ 700000000000) (x : Uh) (os ds : List UInt8) (t1 s1 : Nat) (hos : os.length ≤ 40) (hds : ds.length ≤ 40) (ht1 : t1 ≤ t + 100) (HF : Hid (∀ (w : World) (g : Nat) (A : Option Addr) (c : Nat), CurS w g A c bs t s → Calls Try.prog 95 #[.pointer (some ⟨g, 0, none⟩), .int .i64 want, .int .i64 k] w (GivesUp w g A c bs t1 s1 x os ds))) (q : Int) (s2 : Nat) (hq : q = 6) (HK : Hid (∀ (w : World) (g : Nat) (A : Option Addr) (c : Nat), CurS w g A c bs t1 s1 → Calls Try.prog 57 #[.pointer (some ⟨g, 0, none⟩), .int .i64 14] w (Gives w g A c bs (t1 + 1) s2 q))) :
    ∃ (x : Uh) (os ds : List UInt8) (t' s' : Nat), os.length ≤ 45 ∧ ds.length ≤ 1500 ∧ t' ≤ t + 200 ∧ ∀ (w : World) (g : Nat) (A : Option Addr) (c : Nat), CurS w g A c bs t s → Calls Try.prog 56 #[.pointer (some ⟨g, 0, none⟩), .int .i64 want, .int .i64 k] w (GivesUp w g A c bs t' s' x os ds) := by
  subst hq
  obtain ⟨x3, s13, hd3⟩ := rawE bs (t1 + 1) s2 (by omega)
  have H3 := Lib.hid hd3
  clear hd3
  refine ⟨⟨x3, x.sport, x.dport, x.seq, x.ack, x.bits, x.window, x.urgent, x.ty, x.code, x.rest, x.nosum⟩, os, ds, t1 + 1 + 2, s13, by omega, by omega, by omega, fun w g A c hc0 => ?_⟩
  have hgl := hc0.lt
  have HC0 := Lib.hid (hc0.below (Joins.below_alloc1 w (.cells #[.int .i64 0, .int .i64 0, .int .i64 0, .int .i64 0, .int .i64 0, .int .i64 0, .int .i64 0, .int .i64 0, .int .i64 0, .int .i64 0, .int .i64 0, .bool false, .slice none 0 0, .slice none 0 0] 36)))
  have R0_ := Lib.hid (K.new w (.cells #[.int .i64 0, .int .i64 0, .int .i64 0, .int .i64 0, .int .i64 0, .int .i64 0, .int .i64 0, .int .i64 0, .int .i64 0, .int .i64 0, .int .i64 0, .bool false, .slice none 0 0, .slice none 0 0] 36))
  clear hc0
  go_enter Try.func56, Try.ntmps56
  go_wp2_with fail
  refine Calls.mono (HF.out _ g A c HC0.out) ?_
  rintro e w1 ⟨O, oc, D0, d0, rfl, oo, od, ap, hc2, hg2⟩
  have hb : w.heap.size < w1.heap.size := by have := hg2.size; simp at this; omega
  have q1 := Lib.hid (K.new w1 (.cells #[.int .i64 x.kind, .int .i64 x.sport, .int .i64 x.dport, .int .i64 x.seq, .int .i64 x.ack, .int .i64 x.bits, .int .i64 x.window, .int .i64 x.urgent, .int .i64 x.ty, .int .i64 x.code, .int .i64 x.rest, .bool x.nosum, .slice O os.length oc, .slice D0 ds.length d0] 36))
  have R1 := Lib.hid (K.old (K.kept hg2 R0_.out (fun k hk => by cases hk; omega)) (.cells #[.int .i64 x.kind, .int .i64 x.sport, .int .i64 x.dport, .int .i64 x.seq, .int .i64 x.ack, .int .i64 x.bits, .int .i64 x.window, .int .i64 x.urgent, .int .i64 x.ty, .int .i64 x.code, .int .i64 x.rest, .bool x.nosum, .slice O os.length oc, .slice D0 ds.length d0] 36))
  have C1 := Lib.hid (hc2.below (Joins.below_alloc1 w1 (.cells #[.int .i64 x.kind, .int .i64 x.sport, .int .i64 x.dport, .int .i64 x.seq, .int .i64 x.ack, .int .i64 x.bits, .int .i64 x.window, .int .i64 x.urgent, .int .i64 x.ty, .int .i64 x.code, .int .i64 x.rest, .bool x.nosum, .slice O os.length oc, .slice D0 ds.length d0] 36)))
  have G1 := Lib.hid (only_new (grownBy_trans (only_new (K.refl w (some g)) (.cells #[.int .i64 0, .int .i64 0, .int .i64 0, .int .i64 0, .int .i64 0, .int .i64 0, .int .i64 0, .int .i64 0, .int .i64 0, .int .i64 0, .int .i64 0, .bool false, .slice none 0 0, .slice none 0 0] 36)) hg2) (.cells #[.int .i64 x.kind, .int .i64 x.sport, .int .i64 x.dport, .int .i64 x.seq, .int .i64 x.ack, .int .i64 x.bits, .int .i64 x.window, .int .i64 x.urgent, .int .i64 x.ty, .int .i64 x.code, .int .i64 x.rest, .bool x.nosum, .slice O os.length oc, .slice D0 ds.length d0] 36))
  have B1 := Lib.hid (World.ownsRow.alloc (own_base od (show w.heap.size + 1 ≤ _ by simp)) (.cells #[.int .i64 x.kind, .int .i64 x.sport, .int .i64 x.dport, .int .i64 x.seq, .int .i64 x.ack, .int .i64 x.bits, .int .i64 x.window, .int .i64 x.urgent, .int .i64 x.ty, .int .i64 x.code, .int .i64 x.rest, .bool x.nosum, .slice O os.length oc, .slice D0 ds.length d0] 36))
  have O1 := Lib.hid (World.ownsRow.alloc (own_base oo (show w.heap.size + 1 ≤ _ by simp)) (.cells #[.int .i64 x.kind, .int .i64 x.sport, .int .i64 x.dport, .int .i64 x.seq, .int .i64 x.ack, .int .i64 x.bits, .int .i64 x.window, .int .i64 x.urgent, .int .i64 x.ty, .int .i64 x.code, .int .i64 x.rest, .bool x.nosum, .slice O os.length oc, .slice D0 ds.length d0] 36))
  have NB := Lib.hid (fun k (hk : (Value.slice D0 ds.length d0).ownBlock = some k) => show k ≠ w1.heap.size by have := (od.lt k hk).2; omega)
  have NO := Lib.hid (fun k (hk : (Value.slice O os.length oc).ownBlock = some k) => show k ≠ w1.heap.size by have := (oo.lt k hk).2; omega)
  have AP := Lib.hid ap
  clear od oo ap hc2 hg2 HC0 R0_
  go_wp2_with (with_reducible refine storeNewU rfl _ _ rfl rfl rfl ?_)
  generalize (w1.alloc (.cells #[.int .i64 x.kind, .int .i64 x.sport, .int .i64 x.dport, .int .i64 x.seq, .int .i64 x.ack, .int .i64 x.bits, .int .i64 x.window, .int .i64 x.urgent, .int .i64 x.ty, .int .i64 x.code, .int .i64 x.rest, .bool x.nosum, .slice O os.length oc, .slice D0 ds.length d0] 36)) = w2 at q1 R1 C1 G1 B1 O1 ⊢
  refine Calls.mono (HK.out _ g A c C1.out) ?_
  rintro e w3 ⟨rfl, hc2, hg2⟩
  have q2 := Lib.hid (K.kept hg2 q1.out (fun k hk => by cases hk; omega))
  have R2 := Lib.hid (K.kept hg2 R1.out (fun k hk => by cases hk; omega))
  have C2 := Lib.hid hc2
  have G2 := Lib.hid (grownBy_trans G1.out hg2)
  have B2 := Lib.hid (own_grown B1.out hg2 (fun k h1 h2 => by cases h2; have := (B1.out.lt _ h1).1; omega))
  have O2 := Lib.hid (own_grown O1.out hg2 (fun k h1 h2 => by cases h2; have := (O1.out.lt _ h1).1; omega))
  clear hc2 hg2 q1 R1 C1 G1 B1 O1
  go_wp2_with fail
  refine Calls.mono (H3.out _ g A c C2.out) ?_
  rintro e w4 ⟨rfl, hc2, hg2⟩
  have q3 := Lib.hid (K.kept hg2 q2.out (fun k hk => by cases hk; omega))
  have R3 := Lib.hid (K.kept hg2 R2.out (fun k hk => by cases hk; omega))
  have C3 := Lib.hid hc2
  have G3 := Lib.hid (grownBy_trans G2.out hg2)
  have B3 := Lib.hid (own_grown B2.out hg2 (fun k h1 h2 => by cases h2; have := (B2.out.lt _ h1).1; omega))
  have O3 := Lib.hid (own_grown O2.out hg2 (fun k h1 h2 => by cases h2; have := (O2.out.lt _ h1).1; omega))
  clear hc2 hg2 q2 R2 C2 G2 B2 O2
  have uu := K.cell q3.out 0 _ rfl
  have yy := frozen_of_row _ _ 0 _ _ q3.out
  have q4 : Hid ((w4.setCell ⟨w1.heap.size, 0, none⟩ (.int .i64 x3)).heap[w1.heap.size]? = some (.cells #[.int .i64 x3, .int .i64 x.sport, .int .i64 x.dport, .int .i64 x.seq, .int .i64 x.ack, .int .i64 x.bits, .int .i64 x.window, .int .i64 x.urgent, .int .i64 x.ty, .int .i64 x.code, .int .i64 x.rest, .bool x.nosum, .slice O os.length oc, .slice D0 ds.length d0] 36 (0, 0))) := Lib.hid (K.set q3.out 0 _)
  have R4 := Lib.hid (K.other R3.out w1.heap.size 0 (.int .i64 x3) (by omega))
  have C4 := Lib.hid (C3.out.grownBy (grownBy_set w4 w1.heap.size 0 (.int .i64 x3)) (fun u hu => by cases hu; omega))
  have G4 := Lib.hid (grown_other G3.out (grownBy_set w4 w1.heap.size 0 (.int .i64 x3)) (fun u hu => by cases hu; omega))
  have B4 := Lib.hid (own_grown B3.out (grownBy_set w4 w1.heap.size 0 (.int .i64 x3)) (fun k h1 h2 => by cases h2; exact NB.out _ h1 rfl))
  have O4 := Lib.hid (own_grown O3.out (grownBy_set w4 w1.heap.size 0 (.int .i64 x3)) (fun k h1 h2 => by cases h2; exact NO.out _ h1 rfl))
  go_upto_region 19 with fail
  clear uu yy q3 R3 C3 G3 B3 O3
  generalize (w4.setCell ⟨w1.heap.size, 0, none⟩ (.int .i64 x3)) = w5 at q4 R4 C4 G4 B4 O4 ⊢
  go_wp2_with (first | (with_reducible refine loadU rfl _ rfl w1.heap.size rfl q4.out ?_) | (with_reducible refine storeU rfl _ _ rfl w.heap.size rfl rfl R4.out ?_))
  (try simp only [Exit.inBlock, Exit.then])
  refine bodyPost_ret (v := .agg #[.int .i64 x3, .int .i64 x.sport, .int .i64 x.dport, .int .i64 x.seq, .int .i64 x.ack, .int .i64 x.bits, .int .i64 x.window, .int .i64 x.urgent, .int .i64 x.ty, .int .i64 x.code, .int .i64 x.rest, .bool x.nosum, .slice O os.length oc, .slice D0 ds.length d0]) ?_ rfl ⟨O, oc, D0, d0, rfl, ?_, ?_, AP.out, ?_, ?_⟩
  · exact resU Try.results56 _ _ w.heap.size rfl (setRow_heap _ _ _ _ _ _ R4.out)
  · exact own_base (base' := w.heap.size) (own_grown O4.out (K.setRow_grown w5 w.heap.size #[.int .i64 x3, .int .i64 x.sport, .int .i64 x.dport, .int .i64 x.seq, .int .i64 x.ack, .int .i64 x.bits, .int .i64 x.window, .int .i64 x.urgent, .int .i64 x.ty, .int .i64 x.code, .int .i64 x.rest, .bool x.nosum, .slice O os.length oc, .slice D0 ds.length d0]) (fun k h1 h2 => by cases h2; have := (O4.out.lt _ h1).1; omega)) (by omega)
  · exact own_base (base' := w.heap.size) (own_grown B4.out (K.setRow_grown w5 w.heap.size #[.int .i64 x3, .int .i64 x.sport, .int .i64 x.dport, .int .i64 x.seq, .int .i64 x.ack, .int .i64 x.bits, .int .i64 x.window, .int .i64 x.urgent, .int .i64 x.ty, .int .i64 x.code, .int .i64 x.rest, .bool x.nosum, .slice O os.length oc, .slice D0 ds.length d0]) (fun k h1 h2 => by cases h2; have := (B4.out.lt _ h1).1; omega)) (by omega)
  · exact C4.out.grownBy (K.setRow_grown _ _ _) (fun u hu => by cases hu; omega)
  · exact grown_other G4.out (K.setRow_grown _ _ _) (fun u hu => by cases hu; omega)
set_option maxHeartbeats 4000000 in
theorem badUp_7 (want k : Int) (bs : List UInt8) (t s : Nat) (ht : t ≤ 700000000000) (x : Uh) (os ds : List UInt8) (t1 s1 : Nat) (hos : os.length ≤ 40) (_ : ds.length ≤ 40) (ht1 : t1 ≤ t + 100) (HF : Hid (∀ (w : World) (g : Nat) (A : Option Addr) (c : Nat), CurS w g A c bs t s → Calls Try.prog 95 #[.pointer (some ⟨g, 0, none⟩), .int .i64 want, .int .i64 k] w (GivesUp w g A c bs t1 s1 x os ds))) (q : Int) (s2 : Nat) (hq : q = 7) (HK : Hid (∀ (w : World) (g : Nat) (A : Option Addr) (c : Nat), CurS w g A c bs t1 s1 → Calls Try.prog 57 #[.pointer (some ⟨g, 0, none⟩), .int .i64 14] w (Gives w g A c bs (t1 + 1) s2 q))) :
    ∃ (x : Uh) (os ds : List UInt8) (t' s' : Nat), os.length ≤ 45 ∧ ds.length ≤ 1500 ∧ t' ≤ t + 200 ∧ ∀ (w : World) (g : Nat) (A : Option Addr) (c : Nat), CurS w g A c bs t s → Calls Try.prog 56 #[.pointer (some ⟨g, 0, none⟩), .int .i64 want, .int .i64 k] w (GivesUp w g A c bs t' s' x os ds) := by
  subst hq
  obtain ⟨x3, s13, lo3, up3, hd3⟩ := pickE bs (t1 + 1) s2 5 (by omega) (by omega) (by omega)
  have H3 := Lib.hid hd3
  clear hd3
  obtain ⟨y3, rfl⟩ : ∃ k : Nat, x3 = k := ⟨x3.toNat, by omega⟩
  obtain ⟨u3, hu3⟩ : ∃ a, ([8, 20, 0, 7, 60] : List Int)[y3]? = some a := ⟨_, List.getElem?_eq_getElem (by simp; omega)⟩
  have HU3 := Lib.hid hu3
  clear hu3
  have hu60 : 0 ≤ u3 ∧ u3 ≤ 60 := by have h := List.mem_of_getElem? HU3.out; simp at h; omega
  obtain ⟨m, hm⟩ : ∃ m : Nat, (1500 : Int) - u3 = m := ⟨((1500 : Int) - u3).toNat, by omega⟩
  have hmw : IntKind.i64.wrap ((1500 : Int) - u3) = (m : Int) := by rw [hm, IntKind.wrap_i64]; omega
  have hm15 : m ≤ 1500 := by omega
  refine ⟨⟨x.kind, x.sport, x.dport, x.seq, x.ack, x.bits, x.window, x.urgent, x.ty, x.code, x.rest, x.nosum⟩, os, (List.replicate m 0), t1 + 1 + 1, s13, by omega, by simp; omega, by omega, fun w g A c hc0 => ?_⟩
  have hgl := hc0.lt
  have HC0 := Lib.hid (hc0.below (Joins.below_alloc1 w (.cells #[.int .i64 0, .int .i64 0, .int .i64 0, .int .i64 0, .int .i64 0, .int .i64 0, .int .i64 0, .int .i64 0, .int .i64 0, .int .i64 0, .int .i64 0, .bool false, .slice none 0 0, .slice none 0 0] 36)))
  have R0_ := Lib.hid (K.new w (.cells #[.int .i64 0, .int .i64 0, .int .i64 0, .int .i64 0, .int .i64 0, .int .i64 0, .int .i64 0, .int .i64 0, .int .i64 0, .int .i64 0, .int .i64 0, .bool false, .slice none 0 0, .slice none 0 0] 36))
  clear hc0
  go_enter Try.func56, Try.ntmps56
  go_wp2_with fail
  refine Calls.mono (HF.out _ g A c HC0.out) ?_
  rintro e w1 ⟨O, oc, D0, d0, rfl, oo, od, ap, hc2, hg2⟩
  have hb : w.heap.size < w1.heap.size := by have := hg2.size; simp at this; omega
  have q1 := Lib.hid (K.new w1 (.cells #[.int .i64 x.kind, .int .i64 x.sport, .int .i64 x.dport, .int .i64 x.seq, .int .i64 x.ack, .int .i64 x.bits, .int .i64 x.window, .int .i64 x.urgent, .int .i64 x.ty, .int .i64 x.code, .int .i64 x.rest, .bool x.nosum, .slice O os.length oc, .slice D0 ds.length d0] 36))
  have R1 := Lib.hid (K.old (K.kept hg2 R0_.out (fun k hk => by cases hk; omega)) (.cells #[.int .i64 x.kind, .int .i64 x.sport, .int .i64 x.dport, .int .i64 x.seq, .int .i64 x.ack, .int .i64 x.bits, .int .i64 x.window, .int .i64 x.urgent, .int .i64 x.ty, .int .i64 x.code, .int .i64 x.rest, .bool x.nosum, .slice O os.length oc, .slice D0 ds.length d0] 36))
  have C1 := Lib.hid (hc2.below (Joins.below_alloc1 w1 (.cells #[.int .i64 x.kind, .int .i64 x.sport, .int .i64 x.dport, .int .i64 x.seq, .int .i64 x.ack, .int .i64 x.bits, .int .i64 x.window, .int .i64 x.urgent, .int .i64 x.ty, .int .i64 x.code, .int .i64 x.rest, .bool x.nosum, .slice O os.length oc, .slice D0 ds.length d0] 36)))
  have G1 := Lib.hid (only_new (grownBy_trans (only_new (K.refl w (some g)) (.cells #[.int .i64 0, .int .i64 0, .int .i64 0, .int .i64 0, .int .i64 0, .int .i64 0, .int .i64 0, .int .i64 0, .int .i64 0, .int .i64 0, .int .i64 0, .bool false, .slice none 0 0, .slice none 0 0] 36)) hg2) (.cells #[.int .i64 x.kind, .int .i64 x.sport, .int .i64 x.dport, .int .i64 x.seq, .int .i64 x.ack, .int .i64 x.bits, .int .i64 x.window, .int .i64 x.urgent, .int .i64 x.ty, .int .i64 x.code, .int .i64 x.rest, .bool x.nosum, .slice O os.length oc, .slice D0 ds.length d0] 36))
  have B1 := Lib.hid (World.ownsRow.alloc (own_base od (show w.heap.size + 1 ≤ _ by simp)) (.cells #[.int .i64 x.kind, .int .i64 x.sport, .int .i64 x.dport, .int .i64 x.seq, .int .i64 x.ack, .int .i64 x.bits, .int .i64 x.window, .int .i64 x.urgent, .int .i64 x.ty, .int .i64 x.code, .int .i64 x.rest, .bool x.nosum, .slice O os.length oc, .slice D0 ds.length d0] 36))
  have O1 := Lib.hid (World.ownsRow.alloc (own_base oo (show w.heap.size + 1 ≤ _ by simp)) (.cells #[.int .i64 x.kind, .int .i64 x.sport, .int .i64 x.dport, .int .i64 x.seq, .int .i64 x.ack, .int .i64 x.bits, .int .i64 x.window, .int .i64 x.urgent, .int .i64 x.ty, .int .i64 x.code, .int .i64 x.rest, .bool x.nosum, .slice O os.length oc, .slice D0 ds.length d0] 36))
  have NB := Lib.hid (fun k (hk : (Value.slice D0 ds.length d0).ownBlock = some k) => show k ≠ w1.heap.size by have := (od.lt k hk).2; omega)
  have NO := Lib.hid (fun k (hk : (Value.slice O os.length oc).ownBlock = some k) => show k ≠ w1.heap.size by have := (oo.lt k hk).2; omega)
  have AP := Lib.hid ap
  clear od oo ap hc2 hg2 HC0 R0_
  go_wp2_with (with_reducible refine storeNewU rfl _ _ rfl rfl rfl ?_)
  generalize (w1.alloc (.cells #[.int .i64 x.kind, .int .i64 x.sport, .int .i64 x.dport, .int .i64 x.seq, .int .i64 x.ack, .int .i64 x.bits, .int .i64 x.window, .int .i64 x.urgent, .int .i64 x.ty, .int .i64 x.code, .int .i64 x.rest, .bool x.nosum, .slice O os.length oc, .slice D0 ds.length d0] 36)) = w2 at q1 R1 C1 G1 B1 O1 ⊢
  refine Calls.mono (HK.out _ g A c C1.out) ?_
  rintro e w3 ⟨rfl, hc2, hg2⟩
  have q2 := Lib.hid (K.kept hg2 q1.out (fun k hk => by cases hk; omega))
  have R2 := Lib.hid (K.kept hg2 R1.out (fun k hk => by cases hk; omega))
  have C2 := Lib.hid hc2
  have G2 := Lib.hid (grownBy_trans G1.out hg2)
  have B2 := Lib.hid (own_grown B1.out hg2 (fun k h1 h2 => by cases h2; have := (B1.out.lt _ h1).1; omega))
  have O2 := Lib.hid (own_grown O1.out hg2 (fun k h1 h2 => by cases h2; have := (O1.out.lt _ h1).1; omega))
  clear hc2 hg2 q1 R1 C1 G1 B1 O1
  have gk := C2.out.lt
  have q3 := Lib.hid (K.old q2.out (.cells #[.int .i64 8, .int .i64 20, .int .i64 0, .int .i64 7, .int .i64 60] 3))
  have R3 := Lib.hid (K.old R2.out (.cells #[.int .i64 8, .int .i64 20, .int .i64 0, .int .i64 7, .int .i64 60] 3))
  have C3 := Lib.hid (C2.out.below (Joins.below_alloc1 w3 (.cells #[.int .i64 8, .int .i64 20, .int .i64 0, .int .i64 7, .int .i64 60] 3)))
  have G3 := Lib.hid (only_new G2.out (.cells #[.int .i64 8, .int .i64 20, .int .i64 0, .int .i64 7, .int .i64 60] 3))
  have B3 := Lib.hid (World.ownsRow.alloc B2.out (.cells #[.int .i64 8, .int .i64 20, .int .i64 0, .int .i64 7, .int .i64 60] 3))
  have O3 := Lib.hid (World.ownsRow.alloc O2.out (.cells #[.int .i64 8, .int .i64 20, .int .i64 0, .int .i64 7, .int .i64 60] 3))
  go_wp2_with fail
  clear q2 R2 C2 G2 B2 O2
  refine Calls.mono (H3.out _ g A c C3.out) ?_
  rintro e w4 ⟨rfl, hc2, hg2⟩
  have q4 := Lib.hid (K.kept hg2 q3.out (fun k hk => by cases hk; omega))
  have R4 := Lib.hid (K.kept hg2 R3.out (fun k hk => by cases hk; omega))
  have C4 := Lib.hid hc2
  have G4 := Lib.hid (grownBy_trans G3.out hg2)
  have B4 := Lib.hid (own_grown B3.out hg2 (fun k h1 h2 => by cases h2; have := (B3.out.lt _ h1).1; omega))
  have O4 := Lib.hid (own_grown O3.out hg2 (fun k h1 h2 => by cases h2; have := (O3.out.lt _ h1).1; omega))
  have cf := hg2.cell (K.row_cells w3 [8, 20, 0, 7, 60] _ rfl 3 y3 u3 HU3.out) (fun e => by have e2 : w3.heap.size = g := Option.some.inj e; omega)
  clear hc2 hg2 q3 R3 C3 G3 B3 O3
  have hyt : (y3 : Int) < 5 := by omega
  have hlq := K.lt q4.out
  obtain ⟨i0, hi0, hz0, hz1, hz2⟩ := info_parts info_u8
  go_upto_region 19 with (at_make; refine wpList_make_full _ rfl _ _ 34 rfl (w1.heap.size + 1) 5 i0 (.int .u8 0) 1 Try.underlying34 hi0 hz0 hz1 _ _ _ _ m rfl rfl rfl rfl (by rw [hz2]; omega) (by unfold maxLen; omega) (by omega) ?_; intro w5 hown hgm; have HOM := Lib.hid hown; have HGM := Lib.hid hgm; clear hown hgm; have uu := K.cell (K.kept HGM.out q4.out (fun k hk => by cases hk)) 13 _ rfl; have yy := frozen_of_row _ _ 13 _ _ (K.kept HGM.out q4.out (fun k hk => by cases hk)))
  have q5 := Lib.hid (K.kept HGM.out q4.out (fun k hk => by cases hk))
  have R5 := Lib.hid (K.kept HGM.out R4.out (fun k hk => by cases hk))
  have C5 := Lib.hid (C4.out.grownBy HGM.out (fun k hk => by cases hk))
  have G5 := Lib.hid (grown_other G4.out HGM.out (fun k hk => by cases hk))
  have O5 := Lib.hid (own_grown O4.out HGM.out (fun k hk e => by cases e))
  have Bm5 := Lib.hid (made_zeroF m ▸ HOM.out)
  have NBm := Lib.hid (show ∀ k, (Value.slice (some ⟨w4.heap.size, 0, none⟩) m m).ownBlock = some k → k ≠ w1.heap.size from fun k hk => by have := (HOM.out.lt k hk).1; omega)
  have APBm := Lib.hid (show ∀ k, (Value.slice (some ⟨w4.heap.size, 0, none⟩) m m).ownBlock = some k → w4.heap.size ≤ k from fun k hk => by simp [Value.ownBlock] at hk; omega)
  have LO := Lib.hid (fun k hk => (O4.out.lt k hk).2)
  clear HOM HGM uu yy q4 R4 C4 G4 B4 O4
  have q6 : Hid ((w5.setCell ⟨w1.heap.size, 13, none⟩ (.slice (some ⟨w4.heap.size, 0, none⟩) m m)).heap[w1.heap.size]? = some (.cells #[.int .i64 x.kind, .int .i64 x.sport, .int .i64 x.dport, .int .i64 x.seq, .int .i64 x.ack, .int .i64 x.bits, .int .i64 x.window, .int .i64 x.urgent, .int .i64 x.ty, .int .i64 x.code, .int .i64 x.rest, .bool x.nosum, .slice O os.length oc, .slice (some ⟨w4.heap.size, 0, none⟩) m m] 36 (0, 0))) := Lib.hid (K.set q5.out 13 _)
  have R6 := Lib.hid (K.other R5.out w1.heap.size 13 (.slice (some ⟨w4.heap.size, 0, none⟩) m m) (by omega))
  have C6 := Lib.hid (C5.out.grownBy (grownBy_set w5 w1.heap.size 13 (.slice (some ⟨w4.heap.size, 0, none⟩) m m)) (fun u hu => by cases hu; omega))
  have G6 := Lib.hid (grown_other G5.out (grownBy_set w5 w1.heap.size 13 (.slice (some ⟨w4.heap.size, 0, none⟩) m m)) (fun u hu => by cases hu; omega))
  have O6 := Lib.hid (own_grown O5.out (grownBy_set w5 w1.heap.size 13 (.slice (some ⟨w4.heap.size, 0, none⟩) m m)) (fun k h1 h2 => by cases h2; exact NO.out _ h1 rfl))
  have Bm6 := Lib.hid (own_grown Bm5.out (grownBy_set w5 w1.heap.size 13 (.slice (some ⟨w4.heap.size, 0, none⟩) m m)) (fun k h1 h2 => by cases h2; exact NBm.out _ h1 rfl))
  clear q5 R5 C5 G5 O5 Bm5
  generalize (w5.setCell ⟨w1.heap.size, 13, none⟩ (.slice (some ⟨w4.heap.size, 0, none⟩) m m)) = w6 at q6 R6 C6 G6 O6 Bm6 ⊢
  clear cf gk
  go_wp2_with (first | (with_reducible refine loadU rfl _ rfl w1.heap.size rfl q6.out ?_) | (with_reducible refine storeU rfl _ _ rfl w.heap.size rfl rfl R6.out ?_))
  (try simp only [Exit.inBlock, Exit.then])
  refine bodyPost_ret (v := .agg #[.int .i64 x.kind, .int .i64 x.sport, .int .i64 x.dport, .int .i64 x.seq, .int .i64 x.ack, .int .i64 x.bits, .int .i64 x.window, .int .i64 x.urgent, .int .i64 x.ty, .int .i64 x.code, .int .i64 x.rest, .bool x.nosum, .slice O os.length oc, .slice (some ⟨w4.heap.size, 0, none⟩) m m]) ?_ rfl ⟨O, oc, (some ⟨w4.heap.size, 0, none⟩), m, by rw [List.length_replicate], ?_, ?_, (fun k h1 h2 => by rw [List.length_replicate] at h2; have := APBm.out k h2; have := LO.out k h1; omega), ?_, ?_⟩
  · exact resU Try.results56 _ _ w.heap.size rfl (setRow_heap _ _ _ _ _ _ R6.out)
  · exact own_base (base' := w.heap.size) (own_grown O6.out (K.setRow_grown w6 w.heap.size #[.int .i64 x.kind, .int .i64 x.sport, .int .i64 x.dport, .int .i64 x.seq, .int .i64 x.ack, .int .i64 x.bits, .int .i64 x.window, .int .i64 x.urgent, .int .i64 x.ty, .int .i64 x.code, .int .i64 x.rest, .bool x.nosum, .slice O os.length oc, .slice (some ⟨w4.heap.size, 0, none⟩) m m]) (fun k h1 h2 => by cases h2; have := (O6.out.lt _ h1).1; omega)) (by omega)
  · exact by have this := own_base (base' := w.heap.size) (own_grown Bm6.out (K.setRow_grown w6 w.heap.size #[.int .i64 x.kind, .int .i64 x.sport, .int .i64 x.dport, .int .i64 x.seq, .int .i64 x.ack, .int .i64 x.bits, .int .i64 x.window, .int .i64 x.urgent, .int .i64 x.ty, .int .i64 x.code, .int .i64 x.rest, .bool x.nosum, .slice O os.length oc, .slice (some ⟨w4.heap.size, 0, none⟩) m m]) (fun k h1 h2 => by cases h2; have := (Bm6.out.lt _ h1).1; omega)) (by omega); rw [List.length_replicate]; exact this
  · exact C6.out.grownBy (K.setRow_grown _ _ _) (fun u hu => by cases hu; omega)
  · exact grown_other G6.out (K.setRow_grown _ _ _) (fun u hu => by cases hu; omega)
set_option maxHeartbeats 4000000 in
theorem badUp_8 (want k : Int) (bs : List UInt8) (t s : Nat) (_ : t ≤ 700000000000) (x : Uh) (os ds : List UInt8) (t1 s1 : Nat) (hos : os.length ≤ 40) (hds : ds.length ≤ 40) (ht1 : t1 ≤ t + 100) (HF : Hid (∀ (w : World) (g : Nat) (A : Option Addr) (c : Nat), CurS w g A c bs t s → Calls Try.prog 95 #[.pointer (some ⟨g, 0, none⟩), .int .i64 want, .int .i64 k] w (GivesUp w g A c bs t1 s1 x os ds))) (q : Int) (s2 : Nat) (hq : 7 < q) (HK : Hid (∀ (w : World) (g : Nat) (A : Option Addr) (c : Nat), CurS w g A c bs t1 s1 → Calls Try.prog 57 #[.pointer (some ⟨g, 0, none⟩), .int .i64 14] w (Gives w g A c bs (t1 + 1) s2 q))) :
    ∃ (x : Uh) (os ds : List UInt8) (t' s' : Nat), os.length ≤ 45 ∧ ds.length ≤ 1500 ∧ t' ≤ t + 200 ∧ ∀ (w : World) (g : Nat) (A : Option Addr) (c : Nat), CurS w g A c bs t s → Calls Try.prog 56 #[.pointer (some ⟨g, 0, none⟩), .int .i64 want, .int .i64 k] w (GivesUp w g A c bs t' s' x os ds) := by
  refine ⟨⟨x.kind, x.sport, x.dport, x.seq, x.ack, x.bits, x.window, x.urgent, x.ty, x.code, x.rest, x.nosum⟩, os, ds, t1 + 1, s2, by omega, by omega, by omega, fun w g A c hc0 => ?_⟩
  have hgl := hc0.lt
  have HC0 := Lib.hid (hc0.below (Joins.below_alloc1 w (.cells #[.int .i64 0, .int .i64 0, .int .i64 0, .int .i64 0, .int .i64 0, .int .i64 0, .int .i64 0, .int .i64 0, .int .i64 0, .int .i64 0, .int .i64 0, .bool false, .slice none 0 0, .slice none 0 0] 36)))
  have R0_ := Lib.hid (K.new w (.cells #[.int .i64 0, .int .i64 0, .int .i64 0, .int .i64 0, .int .i64 0, .int .i64 0, .int .i64 0, .int .i64 0, .int .i64 0, .int .i64 0, .int .i64 0, .bool false, .slice none 0 0, .slice none 0 0] 36))
  clear hc0
  go_enter Try.func56, Try.ntmps56
  go_wp2_with fail
  refine Calls.mono (HF.out _ g A c HC0.out) ?_
  rintro e w1 ⟨O, oc, D0, d0, rfl, oo, od, ap, hc2, hg2⟩
  have hb : w.heap.size < w1.heap.size := by have := hg2.size; simp at this; omega
  have q1 := Lib.hid (K.new w1 (.cells #[.int .i64 x.kind, .int .i64 x.sport, .int .i64 x.dport, .int .i64 x.seq, .int .i64 x.ack, .int .i64 x.bits, .int .i64 x.window, .int .i64 x.urgent, .int .i64 x.ty, .int .i64 x.code, .int .i64 x.rest, .bool x.nosum, .slice O os.length oc, .slice D0 ds.length d0] 36))
  have R1 := Lib.hid (K.old (K.kept hg2 R0_.out (fun k hk => by cases hk; omega)) (.cells #[.int .i64 x.kind, .int .i64 x.sport, .int .i64 x.dport, .int .i64 x.seq, .int .i64 x.ack, .int .i64 x.bits, .int .i64 x.window, .int .i64 x.urgent, .int .i64 x.ty, .int .i64 x.code, .int .i64 x.rest, .bool x.nosum, .slice O os.length oc, .slice D0 ds.length d0] 36))
  have C1 := Lib.hid (hc2.below (Joins.below_alloc1 w1 (.cells #[.int .i64 x.kind, .int .i64 x.sport, .int .i64 x.dport, .int .i64 x.seq, .int .i64 x.ack, .int .i64 x.bits, .int .i64 x.window, .int .i64 x.urgent, .int .i64 x.ty, .int .i64 x.code, .int .i64 x.rest, .bool x.nosum, .slice O os.length oc, .slice D0 ds.length d0] 36)))
  have G1 := Lib.hid (only_new (grownBy_trans (only_new (K.refl w (some g)) (.cells #[.int .i64 0, .int .i64 0, .int .i64 0, .int .i64 0, .int .i64 0, .int .i64 0, .int .i64 0, .int .i64 0, .int .i64 0, .int .i64 0, .int .i64 0, .bool false, .slice none 0 0, .slice none 0 0] 36)) hg2) (.cells #[.int .i64 x.kind, .int .i64 x.sport, .int .i64 x.dport, .int .i64 x.seq, .int .i64 x.ack, .int .i64 x.bits, .int .i64 x.window, .int .i64 x.urgent, .int .i64 x.ty, .int .i64 x.code, .int .i64 x.rest, .bool x.nosum, .slice O os.length oc, .slice D0 ds.length d0] 36))
  have B1 := Lib.hid (World.ownsRow.alloc (own_base od (show w.heap.size + 1 ≤ _ by simp)) (.cells #[.int .i64 x.kind, .int .i64 x.sport, .int .i64 x.dport, .int .i64 x.seq, .int .i64 x.ack, .int .i64 x.bits, .int .i64 x.window, .int .i64 x.urgent, .int .i64 x.ty, .int .i64 x.code, .int .i64 x.rest, .bool x.nosum, .slice O os.length oc, .slice D0 ds.length d0] 36))
  have O1 := Lib.hid (World.ownsRow.alloc (own_base oo (show w.heap.size + 1 ≤ _ by simp)) (.cells #[.int .i64 x.kind, .int .i64 x.sport, .int .i64 x.dport, .int .i64 x.seq, .int .i64 x.ack, .int .i64 x.bits, .int .i64 x.window, .int .i64 x.urgent, .int .i64 x.ty, .int .i64 x.code, .int .i64 x.rest, .bool x.nosum, .slice O os.length oc, .slice D0 ds.length d0] 36))
  have NB := Lib.hid (fun k (hk : (Value.slice D0 ds.length d0).ownBlock = some k) => show k ≠ w1.heap.size by have := (od.lt k hk).2; omega)
  have NO := Lib.hid (fun k (hk : (Value.slice O os.length oc).ownBlock = some k) => show k ≠ w1.heap.size by have := (oo.lt k hk).2; omega)
  have AP := Lib.hid ap
  clear od oo ap hc2 hg2 HC0 R0_
  go_wp2_with (with_reducible refine storeNewU rfl _ _ rfl rfl rfl ?_)
  generalize (w1.alloc (.cells #[.int .i64 x.kind, .int .i64 x.sport, .int .i64 x.dport, .int .i64 x.seq, .int .i64 x.ack, .int .i64 x.bits, .int .i64 x.window, .int .i64 x.urgent, .int .i64 x.ty, .int .i64 x.code, .int .i64 x.rest, .bool x.nosum, .slice O os.length oc, .slice D0 ds.length d0] 36)) = w2 at q1 R1 C1 G1 B1 O1 ⊢
  refine Calls.mono (HK.out _ g A c C1.out) ?_
  rintro e w3 ⟨rfl, hc2, hg2⟩
  have q2 := Lib.hid (K.kept hg2 q1.out (fun k hk => by cases hk; omega))
  have R2 := Lib.hid (K.kept hg2 R1.out (fun k hk => by cases hk; omega))
  have C2 := Lib.hid hc2
  have G2 := Lib.hid (grownBy_trans G1.out hg2)
  have B2 := Lib.hid (own_grown B1.out hg2 (fun k h1 h2 => by cases h2; have := (B1.out.lt _ h1).1; omega))
  have O2 := Lib.hid (own_grown O1.out hg2 (fun k h1 h2 => by cases h2; have := (O1.out.lt _ h1).1; omega))
  clear hc2 hg2 q1 R1 C1 G1 B1 O1
  go_wp2_with (first | (with_reducible refine loadU rfl _ rfl w1.heap.size rfl q2.out ?_) | (with_reducible refine storeU rfl _ _ rfl w.heap.size rfl rfl R2.out ?_))
  (try simp only [Exit.inBlock, Exit.then])
  refine bodyPost_ret (v := .agg #[.int .i64 x.kind, .int .i64 x.sport, .int .i64 x.dport, .int .i64 x.seq, .int .i64 x.ack, .int .i64 x.bits, .int .i64 x.window, .int .i64 x.urgent, .int .i64 x.ty, .int .i64 x.code, .int .i64 x.rest, .bool x.nosum, .slice O os.length oc, .slice D0 ds.length d0]) ?_ rfl ⟨O, oc, D0, d0, rfl, ?_, ?_, AP.out, ?_, ?_⟩
  · exact resU Try.results56 _ _ w.heap.size rfl (setRow_heap _ _ _ _ _ _ R2.out)
  · exact own_base (base' := w.heap.size) (own_grown O2.out (K.setRow_grown w3 w.heap.size #[.int .i64 x.kind, .int .i64 x.sport, .int .i64 x.dport, .int .i64 x.seq, .int .i64 x.ack, .int .i64 x.bits, .int .i64 x.window, .int .i64 x.urgent, .int .i64 x.ty, .int .i64 x.code, .int .i64 x.rest, .bool x.nosum, .slice O os.length oc, .slice D0 ds.length d0]) (fun k h1 h2 => by cases h2; have := (O2.out.lt _ h1).1; omega)) (by omega)
  · exact own_base (base' := w.heap.size) (own_grown B2.out (K.setRow_grown w3 w.heap.size #[.int .i64 x.kind, .int .i64 x.sport, .int .i64 x.dport, .int .i64 x.seq, .int .i64 x.ack, .int .i64 x.bits, .int .i64 x.window, .int .i64 x.urgent, .int .i64 x.ty, .int .i64 x.code, .int .i64 x.rest, .bool x.nosum, .slice O os.length oc, .slice D0 ds.length d0]) (fun k h1 h2 => by cases h2; have := (B2.out.lt _ h1).1; omega)) (by omega)
  · exact C2.out.grownBy (K.setRow_grown _ _ _) (fun u hu => by cases hu; omega)
  · exact grown_other G2.out (K.setRow_grown _ _ _) (fun u hu => by cases hu; omega)
theorem badUpE (want k : Int) (hw : want = 0 ∨ want = 1 ∨ want = 2 ∨ want = 3) (hk : k = 4 ∨ k = 6) (bs : List UInt8) (t s : Nat) (ht : t ≤ 700000000000) (hb : bs.length ≤ 1048576) :
    ∃ (x : Uh) (os ds : List UInt8) (t' s' : Nat), os.length ≤ 45 ∧ ds.length ≤ 1500 ∧ t' ≤ t + 200 ∧ ∀ (w : World) (g : Nat) (A : Option Addr) (c : Nat), CurS w g A c bs t s → Calls Try.prog 56 #[.pointer (some ⟨g, 0, none⟩), .int .i64 want, .int .i64 k] w (GivesUp w g A c bs t' s' x os ds) := by
  obtain ⟨d0, t0, s0, hd0, ht0, hb0⟩ := bytesE bs t s 40 (by omega) (by omega) (by omega) hb
  have HB := Lib.hid hb0
  have hup : ∃ (x : Uh) (os ds : List UInt8) (t' s' : Nat), os.length ≤ 40 ∧ ds.length ≤ 40 ∧ t' ≤ t + 100 ∧ ∀ (w : World) (g : Nat) (A : Option Addr) (c : Nat), CurS w g A c bs t s → Calls Try.prog 95 #[.pointer (some ⟨g, 0, none⟩), .int .i64 want, .int .i64 k] w (GivesUp w g A c bs t' s' x os ds) := by
    rcases hw with rfl | rfl | rfl | rfl
    · exact upE_0 k bs t s ht d0 t0 s0 hd0 ht0 HB
    · exact upE_1 k bs t s ht d0 t0 s0 hd0 ht0 HB
    · rcases hk with rfl | rfl
      · exact upE_2_4 bs t s ht d0 t0 s0 hd0 ht0 HB
      · exact upE_2_6 bs t s ht d0 t0 s0 hd0 ht0 HB
    · exact upE_3 k bs t s ht d0 t0 s0 hd0 ht0 HB
  obtain ⟨x, os, ds, t1, s1, hos, hds, ht1, hf⟩ := hup
  obtain ⟨q, s2, lo, up, hq⟩ := pickE bs t1 s1 14 (by omega) (by omega) (by omega)
  rcases (show q = 0 ∨ q = 1 ∨ q = 2 ∨ q = 3 ∨ q = 4 ∨ q = 5 ∨ q = 6 ∨ q = 7 ∨ 7 < q by omega) with rfl | rfl | rfl | rfl | rfl | rfl | rfl | rfl | h8
  · exact badUp_0 want k bs t s ht x os ds t1 s1 hos hds ht1 (Lib.hid hf) _ s2 rfl (Lib.hid hq)
  · exact badUp_1 want k bs t s ht x os ds t1 s1 hos hds ht1 (Lib.hid hf) _ s2 rfl (Lib.hid hq)
  · exact badUp_2 want k bs t s ht x os ds t1 s1 hos hds ht1 (Lib.hid hf) _ s2 rfl (Lib.hid hq)
  · exact badUp_3 want k bs t s ht x os ds t1 s1 hos hds ht1 (Lib.hid hf) _ s2 rfl (Lib.hid hq)
  · exact badUp_4 want k bs t s ht x os ds t1 s1 hos hds ht1 (Lib.hid hf) _ s2 rfl (Lib.hid hq)
  · exact badUp_5 want k bs t s ht x os ds t1 s1 hos hds ht1 (Lib.hid hf) _ s2 rfl (Lib.hid hq)
  · exact badUp_6 want k bs t s ht x os ds t1 s1 hos hds ht1 (Lib.hid hf) _ s2 rfl (Lib.hid hq)
  · exact badUp_7 want k bs t s ht x os ds t1 s1 hos hds ht1 (Lib.hid hf) _ s2 rfl (Lib.hid hq)
  · exact badUp_8 want k bs t s ht x os ds t1 s1 hos hds ht1 (Lib.hid hf) q s2 h8 (Lib.hid hq)
end Go.Proofs.Ythogonpjkngpjaa

namespace Go.Proofs.Ythogonpjkngpjaa
set_option maxRecDepth 100000
open Go.RowKit
inductive Fo where
  | val (v : Value)
  | rb (n : Nat) (bs : List UInt8)
  | own (b n : Nat) (bs : List UInt8)
  | any
def Fo.holds : Fo → World → Value → Prop
  | .val u, _, v => v = u
  | .rb n bs, w, v => ∃ A c, v = .slice A n c ∧ RB w w.heap.size A bs
  | .own b n bs, w, v => ∃ A c, v = .slice A n c ∧ w.ownsRow b 5 1 (.slice A n c) n (cellsOf bs)
  | .any, _, _ => True
theorem Fo.on {w w' : World} (hb : Below w.heap.size w w') (f : Fo) (v : Value) (h : f.holds w v) : f.holds w' v := by
  cases f with
  | val u => exact h
  | rb n bs =>
    obtain ⟨A, c, e, r⟩ := h
    exact ⟨A, c, e, (r.below hb).more hb.size⟩
  | own b n bs =>
    obtain ⟨A, c, e, r⟩ := h
    exact ⟨A, c, e, own_below r hb⟩
  | any => trivial
section
variable {P : Program} {ops : Array Oper} {Q : Exit → Act → World → Prop}
theorem wp_region_owns {id : Nat} {a : Act} {w : World} (hmx : P.follows .mixedOrders = true) (k n : Nat) (L : List (Nat × Nat)) (R : List Oper) (F : List Fo) (hf : thenB ops n k = true) (hL : dstsOf ops k = L) (hR : ops.toList.drop k = R) (hn : a.tmps.size = n)
    (hop : ∀ (j : Nat) o, j < k → ops[j]? = some o → ∀ a' v K, (∀ t, (∀ p ∈ L, p.2 ≠ t) → a'.tmps.getD t undef = a.tmps.getD t undef) → (∀ p ∈ needOf ops j, (F.getD p.1 .any).holds v (a'.tmps.getD p.2 undef)) → Below w.heap.size w v →
      (∀ u v', (F.getD j .any).holds v' u → Below v.heap.size v v' → K (a'.put o.dst u) v') → o.wp P a' v K Q)
    (hend : ∀ (f : Nat → Value) v, (∀ p ∈ L, (F.getD p.1 .any).holds v (f p.1)) → Below w.heap.size w v → wpList P ops Q R (L.foldl (fun b p => b.put (some p.2) (f p.1)) a) v) : (Code.region id ops true).wp P Q a w := by
  refine wp_region_then hmx k n L R hf hL hR (fun j v u => (F.getD j .any).holds v u) (fun v => Below w.heap.size w v) hn ⟨rfl, rfl, rfl, Nat.le_refl _, fun _ _ => rfl⟩ ?_ (fun f v hf hB => hend f v hf hB)
  intro j o hj ho a' v K hk hnd hB hK
  exact hop j o hj ho a' v K hk hnd hB (fun u v' hu hb => hK u v' hu (fun i x hx => Fo.on hb _ _ hx) (bthen hB hb))
theorem owns_of {j : Nat} {F : List Fo} {v : World} {a' : Act} (hnd : ∀ p ∈ needOf ops j, (F.getD p.1 .any).holds v (a'.tmps.getD p.2 undef)) (i t : Nat) (h : (needOf ops j).contains (i, t) = true) : (F.getD i .any).holds v (a'.eval (.tmp t)) :=
  hnd (i, t) (by simpa using h)
end
end Go.Proofs.Ythogonpjkngpjaa

namespace Go.Proofs.Ythogonpjkngpjaa
set_option maxRecDepth 100000
open Go.RowKit
def RV (w : World) (B : Nat) (A : Option Addr) (vs : List Value) : Prop :=
  0 < vs.length → ∃ g o, A = some ⟨g, o, none⟩ ∧ g < B ∧ ∀ j v, vs[j]? = some v → w.cell? ⟨g, o + j, none⟩ = some v
section
variable {w w' : World} {B B' : Nat} {A : Option Addr} {vs : List Value}
theorem RV.below (h : RV w B A vs) (hb : Below B w w') : RV w' B A vs := by
  intro hp
  obtain ⟨g, o, e, hg, hc⟩ := h hp
  exact ⟨g, o, e, hg, fun j u hu => (hb.cell (p := ⟨g, o + j, none⟩) hg).trans (hc j u hu)⟩
theorem RV.more (h : RV w B A vs) (hB : B ≤ B') : RV w B' A vs := by
  intro hp
  obtain ⟨g, o, e, hg, hc⟩ := h hp
  exact ⟨g, o, e, by omega, hc⟩
theorem RV.on (h : RV w w.heap.size A vs) (hb : Below w.heap.size w w') : RV w' w'.heap.size A vs := (h.below hb).more hb.size
theorem RV.nil_ (w : World) (B : Nat) (A : Option Addr) : RV w B A [] := fun h => absurd h (by simp)
theorem RV.of_own {base size : Nat} {e : TypeId} {n c : Nat} (h : w.ownsRow base e size (.slice A n c) n vs) : RV w w.heap.size A vs := by
  intro hp
  have hl := h.1
  rcases h.2 with ⟨h1, h2⟩ | ⟨g, cap, cur, hv, _, hg, _⟩
  · rw [h2, Nat.zero_mul] at hl
    omega
  · injection hv with hA hn hc
    subst hA
    subst hc
    refine ⟨g, 0, rfl, (Array.getElem?_eq_some_iff.1 hg).1, fun j u hu => ?_⟩
    have hj : j < vs.length := by
      rcases Nat.lt_or_ge j vs.length with h | h
      · exact h
      · rw [List.getElem?_eq_none h] at hu; cases hu
    rw [Nat.zero_add, h.cellAt j (by omega)]
    exact hu
theorem RV.at_ (h : RV w B A vs) {k : Nat} (hk : k < vs.length) : ∃ g o, A = some ⟨g, o, none⟩ ∧ g < B ∧ w.cell? ⟨g, o + k, none⟩ = some vs[k] := by
  obtain ⟨g, o, e, hg, hc⟩ := h (by omega)
  exact ⟨g, o, e, hg, hc k _ (List.getElem?_eq_getElem hk)⟩
theorem RV.new (w : World) (e : TypeId) (vs : List Value) : RV (w.alloc (.cells vs.toArray e)) (w.heap.size + 1) (some ⟨w.heap.size, 0, none⟩) vs := by
  intro hp
  refine ⟨w.heap.size, 0, rfl, by omega, fun j u hu => ?_⟩
  rw [cell_of_row _ w.heap.size (0 + j) _ e (0, 0) (heap_alloc_new w _)]
  simpa using hu
end
def intsOf (xs : List Int) : List Value := xs.map fun n => .int .i64 n
theorem intsOf_length (xs : List Int) : (intsOf xs).length = xs.length := by simp [intsOf]
theorem intsOf_get (xs : List Int) (j : Nat) (u : Int) (h : xs[j]? = some u) : (intsOf xs)[j]? = some (.int .i64 u) := by simp [intsOf, h]
theorem RV.int {w : World} {B : Nat} {A : Option Addr} {xs : List Int} (h : RV w B A (intsOf xs)) {k : Nat} (hk : k < xs.length) : ∃ g o, A = some ⟨g, o, none⟩ ∧ g < B ∧ w.cell? ⟨g, o + k, none⟩ = some (.int .i64 xs[k]) := by
  obtain ⟨g, o, e, hg, hc⟩ := h (by rw [intsOf_length]; omega)
  exact ⟨g, o, e, hg, hc k _ (intsOf_get _ _ _ (List.getElem?_eq_getElem hk))⟩
theorem info_int : (Try.prog.info? 3).map (fun i => (i.zero, i.size, i.bytes)) = some (some (.int .i64 0), 1, 8) := by kernel_rfl
end Go.Proofs.Ythogonpjkngpjaa

namespace Go.Proofs.Ythogonpjkngpjaa
set_option maxRecDepth 100000
open Go.RowKit
theorem int_fill (pre tail : List Int) (x b : Int) (k : Nat) (hk : pre.length = k) : (intsOf (pre ++ x :: tail)).set k (.int .i64 b) = intsOf ((pre ++ [b]) ++ tail) := by
  have h := set_mid (intsOf pre) (.int .i64 x) (.int .i64 b) (intsOf tail) k (by rw [intsOf_length]; exact hk)
  simpa [intsOf] using h
structure InI (w : World) (A : Option Addr) (n c : Nat) (xs : List Int) : Prop where
  len : xs.length = n
  cap : n ≤ c
  big : c ≤ maxLen
  rb : RV w w.heap.size A (intsOf xs)
  wf : ∀ x ∈ xs, (Lit.int .i64 x).wf = true
set_option maxHeartbeats 400000 in
theorem wordC (n : Int) (w : World) : Calls Try.prog 100 #[.int .i64 n] w fun e w' => e = .returned (.bool (isWord n)) ∧ w = w' := by
  by_cases h0 : 0 ≤ n
  · by_cases h1 : n ≤ 65535
    · have H := Lib.hid (isWord_iff.2 ⟨h0, h1⟩)
      go_enter Try.func100, Try.ntmps100
      go_wp2
      go_ret
      exact ⟨ret_bool H.out.symm, rfl⟩
    · have H := Lib.hid (isWord_not.2 (show n < 0 ∨ 65535 < n by omega))
      go_enter Try.func100, Try.ntmps100
      go_wp2
      go_ret
      exact ⟨ret_bool H.out.symm, rfl⟩
  · have H := Lib.hid (isWord_not.2 (show n < 0 ∨ 65535 < n by omega))
    go_enter Try.func100, Try.ntmps100
    go_wp2
    go_ret
    exact ⟨ret_bool H.out.symm, rfl⟩
theorem folded2 {a b : Int} (ha : isWord a = true) (hb : isWord b = true) : folded [a, b] = sadd a b := by
  rw [folded_yes (by simp [ha, hb]), sums, List.foldl_cons, sadd_zero ha]
  rfl
set_option maxHeartbeats 400000 in
theorem specAdd (a b : Int) (w : World) : Calls Try.prog 62 #[.int .i64 a, .int .i64 b] w fun e w' => e = .returned (.int .i64 (folded [a, b])) ∧ w = w' := by
  cases ha : isWord a with
  | true =>
    cases hb : isWord b with
    | true =>
      obtain ⟨a0, a1⟩ := isWord_iff.1 ha
      obtain ⟨b0, b1⟩ := isWord_iff.1 hb
      by_cases hbig : 65535 < a + b
      · have H := Lib.hid (show folded [a, b] = a + b - 65535 by rw [folded2 ha hb, sadd, if_pos hbig])
        go_enter Try.func62, Try.ntmps62
        go_wp2_with (go_at_call 100; refine (wordC _ _).mono ?_; rintro e w' ⟨rfl, rfl⟩)
        go_ret
        exact ⟨ret_int H.out.symm, rfl⟩
      · have H := Lib.hid (show folded [a, b] = a + b by rw [folded2 ha hb, sadd, if_neg hbig])
        go_enter Try.func62, Try.ntmps62
        go_wp2_with (go_at_call 100; refine (wordC _ _).mono ?_; rintro e w' ⟨rfl, rfl⟩)
        go_ret
        exact ⟨ret_int H.out.symm, rfl⟩
    | false =>
      have H := Lib.hid (show folded [a, b] = -1 from folded_no 1 (by simp) hb)
      go_enter Try.func62, Try.ntmps62
      go_wp2_with (go_at_call 100; refine (wordC _ _).mono ?_; rintro e w' ⟨rfl, rfl⟩)
      go_ret
      exact ⟨ret_int H.out.symm, rfl⟩
  | false =>
    have H := Lib.hid (show folded [a, b] = -1 from folded_no 0 (by simp) ha)
    go_enter Try.func62, Try.ntmps62
    go_wp2_with (go_at_call 100; refine (wordC _ _).mono ?_; rintro e w' ⟨rfl, rfl⟩)
    go_ret
    exact ⟨ret_int H.out.symm, rfl⟩
theorem specAddW (a b : Int) (w : World) (ha : isWord a = true) (hb : isWord b = true) : Calls Try.prog 62 #[.int .i64 a, .int .i64 b] w fun e w' => e = .returned (.int .i64 (sadd a b)) ∧ w = w' := by
  have := specAdd a b w
  rwa [folded2 ha hb] at this
set_option maxRecDepth 100000 in
set_option maxHeartbeats 1000000 in
theorem specOnes (A : Option Addr) (n c : Nat) (bs : List UInt8) (w : World) (hr : RB w w.heap.size A bs) (hl : bs.length = n) (hn : n ≤ 1048576) :
    Calls Try.prog 63 #[.slice A n c] w fun e w' => e = .returned (.int .i64 (onesSum bs)) ∧ w = w' := by
  subst hl
  by_cases h : 2000 < bs.length
  · have H := Lib.hid (show onesSum bs = -1 by rw [onesSum, if_pos h])
    go_enter Try.func63, Try.ntmps63
    go_wp2
    go_ret
    exact ⟨ret_int H.out.symm, rfl⟩
  · have H := Lib.hid (show onesSum bs = sums 0 (wordsL bs) by rw [onesSum, if_neg h])
    go_enter Try.func63, Try.ntmps63
    go_wp2
    go_loop [3, 4] (fun s i => ∃ k : Nat, k ≤ bs.length + 1 ∧ k % 2 = 0 ∧ i = .int .i64 k ∧ s = .int .i64 (sums 0 (wordsL (bs.take k)))) (fun _ i => bs.length + 1 - (intOf i).toNat)
    case atStart => exact ⟨0, Nat.zero_le _, rfl, rfl, rfl⟩
    case round =>
      obtain ⟨k, hk, he, rfl, rfl⟩ := hrel
      have hsw := sums_word _ 0 (by decide) (wordsL_word (bs.take k))
      have He := Lib.hid he
      clear he
      by_cases hlt : k < bs.length
      · obtain ⟨g, o, rfl, hg, hc⟩ := hr.at_ hlt
        have hb8 : bs[k].toNat < 256 := UInt8.toNat_lt _
        have hkI : (k : Int) < (bs.length : Int) := by omega
        by_cases hlt2 : k + 1 < bs.length
        · obtain ⟨g', o', hgo, hg', hc'⟩ := hr.at_ hlt2
          injection hgo with hgo
          injection hgo with h1 h2
          subst h1
          subst h2
          have hb9 : bs[k + 1].toNat < 256 := UInt8.toNat_lt _
          have hkJ : (k : Int) + 1 < (bs.length : Int) := by omega
          have hww : isWord (256 * (bs[k].toNat : Int) + bs[k + 1].toNat) = true := isWord_iff.2 (by omega)
          have E := Lib.hid (show sums 0 (wordsL (bs.take (k + 2))) = sadd (sums 0 (wordsL (bs.take k))) (256 * (bs[k].toNat : Int) + bs[k + 1].toNat) by rw [wordsL_odd bs k hlt2 He.out, sums_snoc])
          have Hsw := Lib.hid hsw
          have Hww := Lib.hid hww
          clear hsw hww hr
          go_wp2_with (go_at_call 62; refine (specAddW _ _ _ Hsw.out Hww.out).mono ?_; rintro e w' ⟨rfl, rfl⟩)
          go_round
          case rel => exact ⟨k + 2, by omega, by have := He.out; omega, by go_num, by rw [E.out]⟩
          case measure => simp [intOf]; omega
        · have hkJ : ¬ (k : Int) + 1 < (bs.length : Int) := by omega
          have hww : isWord (256 * (bs[k].toNat : Int)) = true := isWord_iff.2 (by omega)
          have E := Lib.hid (show sums 0 (wordsL (bs.take (k + 2))) = sadd (sums 0 (wordsL (bs.take k))) (256 * (bs[k].toNat : Int)) by
            rw [show bs.take (k + 2) = bs.take (k + 1) by rw [List.take_of_length_le (show bs.length ≤ k + 2 by omega), List.take_of_length_le (show bs.length ≤ k + 1 by omega)], wordsL_even bs k hlt He.out, sums_snoc])
          have Hsw := Lib.hid hsw
          have Hww := Lib.hid hww
          clear hsw hww hr
          go_wp2_with (go_at_call 62; refine (specAddW _ _ _ Hsw.out Hww.out).mono ?_; rintro e w' ⟨rfl, rfl⟩)
          go_round
          case rel => exact ⟨k + 2, by omega, by have := He.out; omega, by go_num, by rw [E.out]⟩
          case measure => simp [intOf]; omega
      · have e : bs.take k = bs := List.take_of_length_le (by omega)
        rw [e]
        clear hsw hr
        go_wp2
        go_ret
        exact ⟨ret_int H.out.symm, rfl⟩
set_option maxHeartbeats 400000 in
theorem compC (n : Int) (w : World) : Calls Try.prog 66 #[.int .i64 n] w fun e w' => e = .returned (.int .i64 (comp n)) ∧ w = w' := by
  cases h : isWord n with
  | true =>
    have H := Lib.hid (comp_yes h)
    have hr := isWord_iff.1 h
    obtain ⟨r1, r2⟩ := hr
    clear h
    go_enter Try.func66, Try.ntmps66
    go_wp2_with (go_at_call 42; refine (within_yes _ _ _ _ (by omega) (by omega)).mono ?_; rintro e w' ⟨rfl, rfl⟩)
    go_ret
    exact ⟨ret_int H.out.symm, rfl⟩
  | false =>
    have H := Lib.hid (comp_no h)
    have hr := Lib.hid (isWord_not.1 h)
    clear h
    go_enter Try.func66, Try.ntmps66
    go_wp2_with (go_at_call 42; refine (within_no _ _ _ _ hr.out).mono ?_; rintro e w' ⟨rfl, rfl⟩)
    go_ret
    exact ⟨ret_int H.out.symm, rfl⟩
set_option maxHeartbeats 1000000 in
theorem foldedC (A : Option Addr) (n c : Nat) (ws : List Int) (w : World) (hr : RV w w.heap.size A (intsOf ws)) (hl : ws.length = n) (hn : n ≤ 1048576) :
    Calls Try.prog 67 #[.slice A n c] w fun e w' => e = .returned (.int .i64 (folded ws)) ∧ w = w' := by
  subst hl
  go_enter Try.func67, Try.ntmps67
  go_wp2
  go_loop [3, 8] (fun s i => ∃ k : Nat, k ≤ ws.length ∧ i = .int .i64 k ∧ (ws.take k).all isWord = true ∧ s = .int .i64 (sums 0 (ws.take k))) (fun _ i => ws.length - (intOf i).toNat)
  case atStart => exact ⟨0, Nat.zero_le _, rfl, rfl, rfl⟩
  case round =>
    obtain ⟨k, hk, rfl, hall, rfl⟩ := hrel
    by_cases hlt : k < ws.length
    · obtain ⟨g, o, rfl, hg, hc⟩ := hr.int hlt
      obtain ⟨s0, s1⟩ := isWord_iff.1 (sums_word _ 0 (by decide) hall)
      cases hx : isWord ws[k] with
      | true =>
        obtain ⟨x0, x1⟩ := isWord_iff.1 hx
        have Hall := Lib.hid (all_take_snoc ws k hlt hall hx)
        have Hs := Lib.hid (show sums 0 (ws.take (k + 1)) = sadd (sums 0 (ws.take k)) ws[k] by rw [take_snoc ws k hlt, sums_snoc])
        obtain ⟨s, hs⟩ : ∃ s, s = sums 0 (ws.take k) := ⟨_, rfl⟩
        obtain ⟨x, hx'⟩ : ∃ x, x = ws[k] := ⟨_, rfl⟩
        rw [← hs, ← hx'] at Hs
        rw [← hs] at s0 s1
        rw [← hx'] at x0 x1 hc
        rw [← hs]
        clear hs hx hx' hall hr
        by_cases hbig : 65535 < s + x
        · have e := Lib.hid (show sadd s x = s + x - 65535 by rw [sadd, if_pos hbig])
          go_wp2_with (go_at_call 42; refine (within_yes _ _ _ _ (by omega) (by omega)).mono ?_; rintro e w' ⟨rfl, rfl⟩)
          go_round
          case rel => exact ⟨k + 1, by omega, by go_num, Hall.out, by rw [Hs.out, e.out]⟩
          case measure => simp [intOf]; omega
        · have e := Lib.hid (show sadd s x = s + x by rw [sadd, if_neg hbig])
          go_wp2_with (go_at_call 42; refine (within_yes _ _ _ _ (by omega) (by omega)).mono ?_; rintro e w' ⟨rfl, rfl⟩)
          go_round
          case rel => exact ⟨k + 1, by omega, by go_num, Hall.out, by rw [Hs.out, e.out]⟩
          case measure => simp [intOf]; omega
      | false =>
        have H := Lib.hid (folded_no k hlt hx)
        have hno := Lib.hid (isWord_not.1 hx)
        clear hall hx hr
        go_wp2_with (go_at_call 42; refine (within_no _ _ _ _ hno.out).mono ?_; rintro e w' ⟨rfl, rfl⟩)
        go_ret
        exact ⟨ret_int H.out.symm, rfl⟩
    · obtain rfl : k = ws.length := by omega
      rw [List.take_length] at hall
      have H := Lib.hid (folded_yes hall)
      rw [List.take_length]
      clear hall
      go_wp2
      go_ret
      exact ⟨ret_int H.out.symm, rfl⟩
def wRow (bs : List UInt8) (k : Nat) : List Int := wordsL (bs.take k) ++ List.replicate ((bs.length + 1) / 2 - (k + 1) / 2) 0
theorem wRow_zero (bs : List UInt8) : wRow bs 0 = List.replicate ((bs.length + 1) / 2) 0 := by simp [wRow, wordsL]
theorem wRow_full (bs : List UInt8) : wRow bs bs.length = wordsL bs := by simp [wRow]
theorem wRow_length (bs : List UInt8) (k : Nat) (h : k ≤ bs.length) : (wRow bs k).length = (bs.length + 1) / 2 := by
  rw [wRow, List.length_append, wordsL_length, List.length_replicate, List.length_take, Nat.min_eq_left h]
  omega
theorem wRow_even (bs : List UInt8) (k : Nat) (h : k < bs.length) (he : k % 2 = 0) :
    (intsOf (wRow bs k)).set (k / 2) (.int .i64 ((bs[k].toNat : Int) * 256)) = intsOf (wRow bs (k + 1)) := by
  rw [wRow, wRow, show (bs.length + 1) / 2 - (k + 1) / 2 = ((bs.length + 1) / 2 - (k + 1 + 1) / 2) + 1 by omega, List.replicate_succ, int_fill _ _ _ _ (k / 2) (by rw [wordsL_length, List.length_take]; omega), wordsL_even bs k h he, Int.mul_comm]
theorem wRow_get (bs : List UInt8) (k : Nat) (h : k < bs.length) (he : k % 2 = 1) : (wRow bs k)[k / 2]? = some (256 * (bs[k - 1].toNat : Int)) := by
  have e := wordsL_even bs (k - 1) (by omega) (by omega)
  rw [show k - 1 + 1 = k by omega] at e
  rw [wRow, e, List.append_assoc, List.getElem?_append_right (by rw [wordsL_length, List.length_take]; omega), wordsL_length, List.length_take, show k / 2 - (min (k - 1) bs.length + 1) / 2 = 0 by omega]
  rfl
theorem wRow_odd (bs : List UInt8) (k : Nat) (h : k < bs.length) (he : k % 2 = 1) :
    (intsOf (wRow bs k)).set (k / 2) (.int .i64 ((bs[k - 1].toNat : Int) * 256 + bs[k].toNat)) = intsOf (wRow bs (k + 1)) := by
  have e := wordsL_even bs (k - 1) (by omega) (by omega)
  have e2 := wordsL_odd bs (k - 1) (by omega) (by omega)
  have e3 : bs[k - 1 + 1]'(by omega) = bs[k] := by congr 1; omega
  rw [show k - 1 + 1 = k by omega] at e
  rw [e3, show k - 1 + 2 = k + 1 by omega] at e2
  rw [wRow, wRow, e, e2, show (k + 1 + 1) / 2 = (k + 1) / 2 by omega, List.append_assoc, List.singleton_append, int_fill _ _ _ _ (k / 2) (by rw [wordsL_length, List.length_take]; omega), Int.mul_comm]
set_option maxRecDepth 100000 in
set_option maxHeartbeats 1000000 in
theorem wordsOfC (A : Option Addr) (c : Nat) (bs : List UInt8) (w : World) (hr : RB w w.heap.size A bs) (hn : bs.length ≤ 1048576) :
    Calls Try.prog 104 #[.slice A bs.length c] w fun e w' => e = .returned (.slice (some ⟨w.heap.size, 0, none⟩) ((bs.length + 1) / 2) ((bs.length + 1) / 2)) ∧
      w'.ownsRow w.heap.size 3 1 (.slice (some ⟨w.heap.size, 0, none⟩) ((bs.length + 1) / 2) ((bs.length + 1) / 2)) ((bs.length + 1) / 2) (intsOf (wordsL bs)) ∧ Below w.heap.size w w' := by
  obtain ⟨i0, hi0, hz0, hz1, hz2⟩ := info_parts info_int
  go_enter Try.func104, Try.ntmps104
  go_wp2_with (at_make; refine wpList_make_full _ rfl _ _ 51 rfl w.heap.size 3 i0 (.int .i64 0) 1 Try.underlying51 hi0 hz0 hz1 _ _ _ _ ((bs.length + 1) / 2) rfl rfl (by omega) (by omega) (by rw [hz2]; omega) (by unfold maxLen; omega) (Nat.le_refl _) ?_; intro w1 hown hgrow)
  have hown0 : w1.ownsRow w.heap.size 3 1 (.slice (some ⟨w.heap.size, 0, none⟩) ((bs.length + 1) / 2) ((bs.length + 1) / 2)) ((bs.length + 1) / 2) (intsOf (wRow bs 0)) := by
    have e : (madeCells (Value.int IntKind.i64 0).cells ((bs.length + 1) / 2 * 1)).toList = intsOf (wRow bs 0) := by
      rw [wRow_zero]
      have := toList_madeCells_one (.int .i64 0) ((bs.length + 1) / 2)
      simpa [Value.cells, intsOf] using this
    rw [← e]; exact hown
  have hb1 : Below w.heap.size w w1 := (Below.refl _ _).grown hgrow (Nat.le_refl _) (by simp)
  clear hown hgrow
  go_loopw [13] (fun i wr => ∃ k : Nat, k ≤ bs.length ∧ i = .int .i64 k ∧ wr.ownsRow w.heap.size 3 1 (.slice (some ⟨w.heap.size, 0, none⟩) ((bs.length + 1) / 2) ((bs.length + 1) / 2)) ((bs.length + 1) / 2) (intsOf (wRow bs k)) ∧ Below w.heap.size w wr) (fun i _ => bs.length - (intOf i).toNat)
  case atStart => exact ⟨0, Nat.zero_le _, rfl, hown0, hb1⟩
  case round =>
    obtain ⟨k, hk, rfl, ho, hb⟩ := hrel
    clear hown0 hb1
    by_cases hlt : k < bs.length
    · obtain ⟨g, o, rfl, hg, hc0⟩ := hr.at_ hlt
      have hc : wr.cell? ⟨g, o + k, none⟩ = some (.int .u8 (bs[k].toNat : Int)) := (hb.cell (p := ⟨g, o + k, none⟩) hg).trans hc0
      have hb8 : bs[k].toNat < 256 := UInt8.toNat_lt _
      have hi2 : k / 2 < (bs.length + 1) / 2 := by omega
      have hfz := ho.frozenAt (k / 2)
      by_cases he : k % 2 = 0
      · have het : ((k : Int) % 2 == 0) = true := by simp; omega
        obtain ⟨u, hu⟩ : ∃ u, wr.cell? ⟨w.heap.size, k / 2, none⟩ = some u := by
          rw [ho.cellAt (k / 2) (by omega)]
          exact ⟨_, List.getElem?_eq_getElem (by rw [intsOf_length, wRow_length bs k hk]; omega)⟩
        have R := ho.stored (k / 2) (.int .i64 ((bs[k].toNat : Int) * 256))
        rw [wRow_even bs k hlt he] at R
        have R1 := Lib.hid R.1
        have R2 := Lib.hid (hb.setCell (p := ⟨w.heap.size, k / 2, none⟩) (Nat.le_refl _) (.int .i64 ((bs[k].toNat : Int) * 256)))
        clear R ho hc0 hr hb he
        go_wp2
        go_roundw
        case rel => exact ⟨k + 1, by omega, by go_num, R1.out, R2.out⟩
        case measure => simp [intOf]; omega
      · have hef : ((k : Int) % 2 == 0) = false := by simp; omega
        have hb7 : (bs[k - 1]'(by omega)).toNat < 256 := UInt8.toNat_lt _
        have hcell : wr.cell? ⟨w.heap.size, k / 2, none⟩ = some (.int .i64 ((bs[k - 1].toNat : Int) * 256)) := by
          rw [ho.cellAt (k / 2) (by omega), intsOf_get _ _ _ (wRow_get bs k hlt (by omega)), Int.mul_comm]
        have hor := or_byte (bs[k - 1]'(by omega)).toNat bs[k].toNat (by omega) hb8
        have R := ho.stored (k / 2) (.int .i64 ((bs[k - 1].toNat : Int) * 256 + bs[k].toNat))
        rw [wRow_odd bs k hlt (by omega)] at R
        have R1 := Lib.hid R.1
        have R2 := Lib.hid (hb.setCell (p := ⟨w.heap.size, k / 2, none⟩) (Nat.le_refl _) (.int .i64 ((bs[k - 1].toNat : Int) * 256 + bs[k].toNat)))
        clear R ho hc0 hr hb he
        go_wp2
        go_roundw
        case rel => exact ⟨k + 1, by omega, by go_num, R1.out, R2.out⟩
        case measure => simp [intOf]; omega
    · obtain rfl : k = bs.length := by omega
      rw [wRow_full] at ho
      have Ho := Lib.hid ho
      clear ho
      go_wp2
      go_ret
      exact ⟨rfl, Ho.out, hb⟩
set_option maxHeartbeats 400000 in
theorem implOnes (A : Option Addr) (n c : Nat) (bs : List UInt8) (w : World) (hr : RB w w.heap.size A bs) (hl : bs.length = n) (hn : n ≤ 1048576) :
    Calls Try.prog 69 #[.slice A n c] w fun e w' => e = .returned (.int .i64 (onesSum bs)) ∧ Below w.heap.size w w' := by
  subst hl
  by_cases h : 2000 < bs.length
  · have H := Lib.hid (show onesSum bs = -1 by rw [onesSum, if_pos h])
    go_enter Try.func69, Try.ntmps69
    go_wp2
    go_ret
    exact ⟨ret_int H.out.symm, Below.refl _ _⟩
  · have H := Lib.hid (show onesSum bs = folded (wordsL bs) by rw [onesSum, if_neg h, folded_yes (wordsL_word bs)])
    have hl := wordsL_length bs
    go_enter Try.func69, Try.ntmps69
    go_wp2_with fail
    refine (wordsOfC A c bs w hr hn).mono ?_
    rintro e w1 ⟨rfl, o1, b1⟩
    go_wp2_with fail
    refine (foldedC _ _ _ (wordsL bs) w1 (RV.of_own o1) hl (by omega)).mono ?_
    rintro e w2 ⟨rfl, rfl⟩
    go_wp2
    go_ret
    exact ⟨ret_int H.out.symm, b1⟩
theorem withinU (n hi : Int) (b : Bool) (w : World) (h : upTo n hi = b) : Calls Try.prog 42 #[.int .i64 n, .int .i64 0, .int .i64 hi] w fun e w' => e = .returned (.bool b) ∧ Below w.heap.size w w' := by
  cases b
  · exact (within_no n 0 hi w (by simp [upTo] at h; omega)).mono fun _ _ ⟨he, hw⟩ => ⟨he, hw ▸ Below.refl _ _⟩
  · simp [upTo] at h
    exact (within_yes n 0 hi w h.1 h.2).mono fun _ _ ⟨he, hw⟩ => ⟨he, hw ▸ Below.refl _ _⟩
set_option maxHeartbeats 400000 in
theorem specIn (n hi : Int) (w : World) : Calls Try.prog 39 #[.int .i64 n, .int .i64 hi] w fun e w' => e = .returned (.bool (upTo n hi)) ∧ w = w' := by
  go_enter Try.func39, Try.ntmps39
  go_wp2
  all_goals (go_ret; exact ⟨ret_bool (by simp [upTo]; try omega), rfl⟩)
theorem or_mul (m b i : Nat) (hm : 2 ^ i * m + b < 4611686018427387904) (hb : b < 2 ^ i) : bits .or .i64 ((2 ^ i * m : Nat) : Int) (b : Int) = ((2 ^ i * m + b : Nat) : Int) := by
  have ho : 2 ^ i * m ||| b = 2 ^ i * m + b := (Nat.two_pow_add_eq_or_of_lt hb m).symm
  show IntKind.i64.wrap ((BitVec.ofInt 64 ((2 ^ i * m : Nat) : Int) ||| BitVec.ofInt 64 (b : Int)).toNat : Int) = _
  rw [BitVec.toNat_or, ofInt_i64 _ (by omega), ofInt_i64 b (by omega), ho, IntKind.wrap_i64]
  omega
def TwoOut (ds : List UInt8) (k : Nat) (w : World) (e : Ending) (w' : World) : Prop := ∃ A c, e = .returned (.slice A k c) ∧ w'.ownsRow w.heap.size 5 1 (.slice A k c) k (cellsOf ds) ∧ Below w.heap.size w w'
theorem put16S (n : Int) (w : World) : Calls Try.prog 58 #[.int .i64 n] w (TwoOut (put16 n) 2 w) := (specPut16 n w).mono fun _ _ ⟨h, o, b⟩ => ⟨_, _, h, o, b⟩
theorem put16I (n : Int) (w : World) : Calls Try.prog 75 #[.int .i64 n] w (TwoOut (put16 n) 2 w) := (implPut16 n w).mono fun _ _ ⟨h, o, b⟩ => ⟨_, _, h, o, b⟩
theorem hcells2 (a b : Int) : cellsOf [byteOf a, byteOf b] = [.int .u8 (a % 256), .int .u8 (b % 256)] := by simp [cellsOf, byteOf_val]
theorem cells2s (a b : Int) (ha : 0 ≤ a ∧ a < 256) (hb : 0 ≤ b ∧ b < 256) : cellsOf [byteOf a, byteOf b] = [.int .u8 a, .int .u8 b] := by
  rw [hcells2, Int.emod_eq_of_lt ha.1 ha.2, Int.emod_eq_of_lt hb.1 hb.2]
theorem rb_twos (w : World) (a b : Int) (ha : 0 ≤ a ∧ a < 256) (hb : 0 ≤ b ∧ b < 256) : RB (w.alloc (.cells #[.int .u8 a, .int .u8 b] 5)) (w.heap.size + 1) (some ⟨w.heap.size, 0, none⟩) [byteOf a, byteOf b] := by
  have := RB.new w 5 [byteOf a, byteOf b]
  rw [cells2s a b ha hb] at this
  exact this
theorem specInB (n hi : Int) (b : Bool) (w : World) (h : upTo n hi = b) : Calls Try.prog 39 #[.int .i64 n, .int .i64 hi] w fun e w' => e = .returned (.bool b) ∧ w = w' := h ▸ specIn n hi w
end Go.Proofs.Ythogonpjkngpjaa
