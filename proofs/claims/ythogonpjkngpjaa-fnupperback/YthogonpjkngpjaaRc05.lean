/-
  The model's draw of an upper layer, number by number.
-/
import Derived.Test.YthogonpjkngpjaaRc02
import Derived.Test.YthogonpjkngpjaaRc03
import Derived.Test.YthogonpjkngpjaaRc04
import Derived.Deep.Cut
namespace Go.Proofs.Ythogonpjkngpjaa
set_option maxRecDepth 100000
open Go.RowKit
theorem arr_U (l : List Int) (y : Nat) (u : Int) (h : l[y]? = some u) : (l.map fun z => Value.int .i64 z).toArray[y]? = some (.int .i64 u) := by simp [h]
def GivesUp (w : World) (g : Nat) (A : Option Addr) (c : Nat) (bs : List UInt8) (t' s' : Nat) (x : Uh) (os ds : List UInt8) (e : Ending) (w' : World) : Prop :=
  ∃ O oc D dc, e = .returned (.agg #[.int .i64 x.kind, .int .i64 x.sport, .int .i64 x.dport, .int .i64 x.seq, .int .i64 x.ack, .int .i64 x.bits, .int .i64 x.window, .int .i64 x.urgent, .int .i64 x.ty, .int .i64 x.code, .int .i64 x.rest, .bool x.nosum, .slice O os.length oc, .slice D ds.length dc]) ∧ w'.ownsRow w.heap.size 5 1 (.slice O os.length oc) os.length (cellsOf os) ∧ w'.ownsRow w.heap.size 5 1 (.slice D ds.length dc) ds.length (cellsOf ds) ∧ (∀ k, (Value.slice O os.length oc).ownBlock = some k → (Value.slice D ds.length dc).ownBlock ≠ some k) ∧ CurS w' g A c bs t' s' ∧ w.grownBy w' (some g)
set_option maxHeartbeats 8000000 in
theorem upE_0 (k : Int) (bs : List UInt8) (t s : Nat) (ht : t ≤ 700000000000) (ds : List UInt8) (t0 s0 : Nat) (hds : ds.length ≤ 40) (ht0 : t0 ≤ t + 40 + 1) (HB : Hid (∀ (w : World) (g : Nat) (A : Option Addr) (c : Nat), CurS w g A c bs t s → Calls Try.prog 109 #[.pointer (some ⟨g, 0, none⟩), .int .i64 (40 : Int)] w (GivesB w g A c bs t0 s0 ds))) : ∃ (x : Uh) (os ds : List UInt8) (t' s' : Nat), os.length ≤ 40 ∧ ds.length ≤ 40 ∧ t' ≤ t + 100 ∧ ∀ (w : World) (g : Nat) (A : Option Addr) (c : Nat), CurS w g A c bs t s → Calls Try.prog 95 #[.pointer (some ⟨g, 0, none⟩), .int .i64 0, .int .i64 k] w (GivesUp w g A c bs t' s' x os ds) := by
  obtain ⟨x1, s11, lo1, up1, hd1⟩ := pickE bs (t0) s0 3 (by omega) (by omega) (by omega)
  have H1 := Lib.hid hd1
  clear hd1
  obtain ⟨y1, rfl⟩ : ∃ k : Nat, x1 = k := ⟨x1.toNat, by omega⟩
  refine ⟨⟨0, 0, 0, 0, 0, 0, 0, 0, 0, 0, 0, false⟩, [], ds, t0 + 1, s11, by simp, by omega, by omega, fun w g A c hc0 => ?_⟩
  have hgl := hc0.lt
  have HC0 := Lib.hid (hc0.below (Joins.below_alloc1 w (.cells #[.int .i64 0, .int .i64 0, .int .i64 0, .int .i64 0, .int .i64 0, .int .i64 0, .int .i64 0, .int .i64 0, .int .i64 0, .int .i64 0, .int .i64 0, .bool false, .slice none 0 0, .slice none 0 0] 36)))
  have R0_ := Lib.hid (K.new w (.cells #[.int .i64 0, .int .i64 0, .int .i64 0, .int .i64 0, .int .i64 0, .int .i64 0, .int .i64 0, .int .i64 0, .int .i64 0, .int .i64 0, .int .i64 0, .bool false, .slice none 0 0, .slice none 0 0] 36))
  clear hc0
  have hy1 : (y1 : Int) < 3 := by omega
  go_enter Try.func95, Try.ntmps95
  go_wp2_with fail
  refine Calls.mono (HB.out _ g A c HC0.out) ?_
  rintro e w1 ⟨D0, d0, rfl, od, hc2, hg2⟩
  have hb : w.heap.size < w1.heap.size := by have := hg2.size; simp at this; omega
  have q1 := Lib.hid (K.new w1 (.cells #[.int .i64 0, .int .i64 0, .int .i64 0, .int .i64 0, .int .i64 0, .int .i64 0, .int .i64 0, .int .i64 0, .int .i64 0, .int .i64 0, .int .i64 0, .bool false, .slice none 0 0, .slice D0 ds.length d0] 36))
  have R1 := Lib.hid (K.old (K.kept hg2 R0_.out (fun k hk => by cases hk; omega)) (.cells #[.int .i64 0, .int .i64 0, .int .i64 0, .int .i64 0, .int .i64 0, .int .i64 0, .int .i64 0, .int .i64 0, .int .i64 0, .int .i64 0, .int .i64 0, .bool false, .slice none 0 0, .slice D0 ds.length d0] 36))
  have C1 := Lib.hid (hc2.below (Joins.below_alloc1 w1 (.cells #[.int .i64 0, .int .i64 0, .int .i64 0, .int .i64 0, .int .i64 0, .int .i64 0, .int .i64 0, .int .i64 0, .int .i64 0, .int .i64 0, .int .i64 0, .bool false, .slice none 0 0, .slice D0 ds.length d0] 36)))
  have G1 := Lib.hid (only_new (grownBy_trans (only_new (K.refl w (some g)) (.cells #[.int .i64 0, .int .i64 0, .int .i64 0, .int .i64 0, .int .i64 0, .int .i64 0, .int .i64 0, .int .i64 0, .int .i64 0, .int .i64 0, .int .i64 0, .bool false, .slice none 0 0, .slice none 0 0] 36)) hg2) (.cells #[.int .i64 0, .int .i64 0, .int .i64 0, .int .i64 0, .int .i64 0, .int .i64 0, .int .i64 0, .int .i64 0, .int .i64 0, .int .i64 0, .int .i64 0, .bool false, .slice none 0 0, .slice D0 ds.length d0] 36))
  have B1 := Lib.hid (World.ownsRow.alloc (own_base od (show w.heap.size + 1 ≤ _ by simp)) (.cells #[.int .i64 0, .int .i64 0, .int .i64 0, .int .i64 0, .int .i64 0, .int .i64 0, .int .i64 0, .int .i64 0, .int .i64 0, .int .i64 0, .int .i64 0, .bool false, .slice none 0 0, .slice D0 ds.length d0] 36))
  have NB := Lib.hid (fun k (hk : (Value.slice D0 ds.length d0).ownBlock = some k) => show k ≠ w1.heap.size by have := (od.lt k hk).2; omega)
  clear od hc2 hg2 HC0 R0_
  go_wp2_with (with_reducible refine storeNewU rfl _ _ rfl rfl rfl ?_)
  generalize (w1.alloc (.cells #[.int .i64 0, .int .i64 0, .int .i64 0, .int .i64 0, .int .i64 0, .int .i64 0, .int .i64 0, .int .i64 0, .int .i64 0, .int .i64 0, .int .i64 0, .bool false, .slice none 0 0, .slice D0 ds.length d0] 36)) = w2 at q1 R1 C1 G1 B1 ⊢
  refine Calls.mono (H1.out _ g A c C1.out) ?_
  rintro e w3 ⟨rfl, hc2, hg2⟩
  have q2 := Lib.hid (K.kept hg2 q1.out (fun k hk => by cases hk; omega))
  have R2 := Lib.hid (K.kept hg2 R1.out (fun k hk => by cases hk; omega))
  have C2 := Lib.hid hc2
  have G2 := Lib.hid (grownBy_trans G1.out hg2)
  have B2 := Lib.hid (own_grown B1.out hg2 (fun k h1 h2 => by cases h2; have := (B1.out.lt _ h1).1; omega))
  clear hc2 hg2 q1 R1 C1 G1 B1
  go_wp2_with (first | (with_reducible refine loadU rfl _ rfl w1.heap.size rfl q2.out ?_) | (with_reducible refine storeU rfl _ _ rfl w.heap.size rfl rfl R2.out ?_))
  (try simp only [Exit.inBlock, Exit.then])
  refine bodyPost_ret (v := .agg #[.int .i64 0, .int .i64 0, .int .i64 0, .int .i64 0, .int .i64 0, .int .i64 0, .int .i64 0, .int .i64 0, .int .i64 0, .int .i64 0, .int .i64 0, .bool false, .slice none 0 0, .slice D0 ds.length d0]) ?_ rfl ⟨none, 0, D0, d0, rfl, ?_, ?_, (fun _ h => by cases h), ?_, ?_⟩
  · exact resU Try.results95 _ _ w.heap.size rfl (setRow_heap _ _ _ _ _ _ R2.out)
  · exact ⟨rfl, .inl ⟨rfl, rfl⟩⟩
  · exact own_base (own_grown B2.out (K.setRow_grown _ _ _) (fun k h1 h2 => by cases h2; have := (B2.out.lt _ h1).1; omega)) (by omega)
  · exact C2.out.grownBy (K.setRow_grown _ _ _) (fun u hu => by cases hu; omega)
  · exact grown_other G2.out (K.setRow_grown _ _ _) (fun u hu => by cases hu; omega)
set_option maxHeartbeats 8000000 in
theorem upE_3 (k : Int) (bs : List UInt8) (t s : Nat) (ht : t ≤ 700000000000) (ds : List UInt8) (t0 s0 : Nat) (hds : ds.length ≤ 40) (ht0 : t0 ≤ t + 40 + 1) (HB : Hid (∀ (w : World) (g : Nat) (A : Option Addr) (c : Nat), CurS w g A c bs t s → Calls Try.prog 109 #[.pointer (some ⟨g, 0, none⟩), .int .i64 (40 : Int)] w (GivesB w g A c bs t0 s0 ds))) : ∃ (x : Uh) (os ds : List UInt8) (t' s' : Nat), os.length ≤ 40 ∧ ds.length ≤ 40 ∧ t' ≤ t + 100 ∧ ∀ (w : World) (g : Nat) (A : Option Addr) (c : Nat), CurS w g A c bs t s → Calls Try.prog 95 #[.pointer (some ⟨g, 0, none⟩), .int .i64 3, .int .i64 k] w (GivesUp w g A c bs t' s' x os ds) := by
  obtain ⟨x1, s11, lo1, up1, hd1⟩ := pickE bs (t0) s0 3 (by omega) (by omega) (by omega)
  have H1 := Lib.hid hd1
  clear hd1
  obtain ⟨y1, rfl⟩ : ∃ k : Nat, x1 = k := ⟨x1.toNat, by omega⟩
  obtain ⟨x2, s12, lo2, up2, hd2⟩ := pickE bs (t0 + 1) s11 5 (by omega) (by omega) (by omega)
  have H2 := Lib.hid hd2
  clear hd2
  obtain ⟨y2, rfl⟩ : ∃ k : Nat, x2 = k := ⟨x2.toNat, by omega⟩
  obtain ⟨u2, hu2⟩ : ∃ a, ([0, 8, 3, 128, 255] : List Int)[y2]? = some a := ⟨_, List.getElem?_eq_getElem (by simp; omega)⟩
  have HU2 := Lib.hid hu2
  clear hu2
  obtain ⟨x3, s13, lo3, up3, hd3⟩ := pickE bs (t0 + 1 + 1) s12 4 (by omega) (by omega) (by omega)
  have H3 := Lib.hid hd3
  clear hd3
  obtain ⟨x4, s14, lo4, up4, hd4⟩ := wideE bs (t0 + 1 + 1 + 1) s13 16777216 (by omega) (by omega) (by omega)
  have H4 := Lib.hid hd4
  clear hd4
  refine ⟨⟨3, 0, 0, 0, 0, 0, 0, 0, u2, x3, (x4 * 3), false⟩, [], ds, t0 + 1 + 1 + 1 + 3, s14, by simp, by omega, by omega, fun w g A c hc0 => ?_⟩
  have hgl := hc0.lt
  have HC0 := Lib.hid (hc0.below (Joins.below_alloc1 w (.cells #[.int .i64 0, .int .i64 0, .int .i64 0, .int .i64 0, .int .i64 0, .int .i64 0, .int .i64 0, .int .i64 0, .int .i64 0, .int .i64 0, .int .i64 0, .bool false, .slice none 0 0, .slice none 0 0] 36)))
  have R0_ := Lib.hid (K.new w (.cells #[.int .i64 0, .int .i64 0, .int .i64 0, .int .i64 0, .int .i64 0, .int .i64 0, .int .i64 0, .int .i64 0, .int .i64 0, .int .i64 0, .int .i64 0, .bool false, .slice none 0 0, .slice none 0 0] 36))
  clear hc0
  have m1 : IntKind.i64.wrap (x4 * 3) = x4 * 3 := by rw [IntKind.wrap_i64]; omega
  have hy1 : (y1 : Int) < 3 := by omega
  go_enter Try.func95, Try.ntmps95
  go_wp2_with fail
  refine Calls.mono (HB.out _ g A c HC0.out) ?_
  rintro e w1 ⟨D0, d0, rfl, od, hc2, hg2⟩
  have hb : w.heap.size < w1.heap.size := by have := hg2.size; simp at this; omega
  have q1 := Lib.hid (K.new w1 (.cells #[.int .i64 3, .int .i64 0, .int .i64 0, .int .i64 0, .int .i64 0, .int .i64 0, .int .i64 0, .int .i64 0, .int .i64 0, .int .i64 0, .int .i64 0, .bool false, .slice none 0 0, .slice D0 ds.length d0] 36))
  have R1 := Lib.hid (K.old (K.kept hg2 R0_.out (fun k hk => by cases hk; omega)) (.cells #[.int .i64 3, .int .i64 0, .int .i64 0, .int .i64 0, .int .i64 0, .int .i64 0, .int .i64 0, .int .i64 0, .int .i64 0, .int .i64 0, .int .i64 0, .bool false, .slice none 0 0, .slice D0 ds.length d0] 36))
  have C1 := Lib.hid (hc2.below (Joins.below_alloc1 w1 (.cells #[.int .i64 3, .int .i64 0, .int .i64 0, .int .i64 0, .int .i64 0, .int .i64 0, .int .i64 0, .int .i64 0, .int .i64 0, .int .i64 0, .int .i64 0, .bool false, .slice none 0 0, .slice D0 ds.length d0] 36)))
  have G1 := Lib.hid (only_new (grownBy_trans (only_new (K.refl w (some g)) (.cells #[.int .i64 0, .int .i64 0, .int .i64 0, .int .i64 0, .int .i64 0, .int .i64 0, .int .i64 0, .int .i64 0, .int .i64 0, .int .i64 0, .int .i64 0, .bool false, .slice none 0 0, .slice none 0 0] 36)) hg2) (.cells #[.int .i64 3, .int .i64 0, .int .i64 0, .int .i64 0, .int .i64 0, .int .i64 0, .int .i64 0, .int .i64 0, .int .i64 0, .int .i64 0, .int .i64 0, .bool false, .slice none 0 0, .slice D0 ds.length d0] 36))
  have B1 := Lib.hid (World.ownsRow.alloc (own_base od (show w.heap.size + 1 ≤ _ by simp)) (.cells #[.int .i64 3, .int .i64 0, .int .i64 0, .int .i64 0, .int .i64 0, .int .i64 0, .int .i64 0, .int .i64 0, .int .i64 0, .int .i64 0, .int .i64 0, .bool false, .slice none 0 0, .slice D0 ds.length d0] 36))
  have NB := Lib.hid (fun k (hk : (Value.slice D0 ds.length d0).ownBlock = some k) => show k ≠ w1.heap.size by have := (od.lt k hk).2; omega)
  clear od hc2 hg2 HC0 R0_
  go_wp2_with (with_reducible refine storeNewU rfl _ _ rfl rfl rfl ?_)
  generalize (w1.alloc (.cells #[.int .i64 3, .int .i64 0, .int .i64 0, .int .i64 0, .int .i64 0, .int .i64 0, .int .i64 0, .int .i64 0, .int .i64 0, .int .i64 0, .int .i64 0, .bool false, .slice none 0 0, .slice D0 ds.length d0] 36)) = w2 at q1 R1 C1 G1 B1 ⊢
  refine Calls.mono (H1.out _ g A c C1.out) ?_
  rintro e w3 ⟨rfl, hc2, hg2⟩
  have q2 := Lib.hid (K.kept hg2 q1.out (fun k hk => by cases hk; omega))
  have R2 := Lib.hid (K.kept hg2 R1.out (fun k hk => by cases hk; omega))
  have C2 := Lib.hid hc2
  have G2 := Lib.hid (grownBy_trans G1.out hg2)
  have B2 := Lib.hid (own_grown B1.out hg2 (fun k h1 h2 => by cases h2; have := (B1.out.lt _ h1).1; omega))
  clear hc2 hg2 q1 R1 C1 G1 B1
  have gk := C2.out.lt
  have q3 := Lib.hid (K.old q2.out (.cells #[.int .i64 0, .int .i64 8, .int .i64 3, .int .i64 128, .int .i64 255] 3))
  have R3 := Lib.hid (K.old R2.out (.cells #[.int .i64 0, .int .i64 8, .int .i64 3, .int .i64 128, .int .i64 255] 3))
  have C3 := Lib.hid (C2.out.below (Joins.below_alloc1 w3 (.cells #[.int .i64 0, .int .i64 8, .int .i64 3, .int .i64 128, .int .i64 255] 3)))
  have G3 := Lib.hid (only_new G2.out (.cells #[.int .i64 0, .int .i64 8, .int .i64 3, .int .i64 128, .int .i64 255] 3))
  have B3 := Lib.hid (World.ownsRow.alloc B2.out (.cells #[.int .i64 0, .int .i64 8, .int .i64 3, .int .i64 128, .int .i64 255] 3))
  go_wp2_with fail
  clear q2 R2 C2 G2 B2
  refine Calls.mono (H2.out _ g A c C3.out) ?_
  rintro e w4 ⟨rfl, hc2, hg2⟩
  have q4 := Lib.hid (K.kept hg2 q3.out (fun k hk => by cases hk; omega))
  have R4 := Lib.hid (K.kept hg2 R3.out (fun k hk => by cases hk; omega))
  have C4 := Lib.hid hc2
  have G4 := Lib.hid (grownBy_trans G3.out hg2)
  have B4 := Lib.hid (own_grown B3.out hg2 (fun k h1 h2 => by cases h2; have := (B3.out.lt _ h1).1; omega))
  have cf := hg2.cell (K.row_cells w3 [0, 8, 3, 128, 255] _ rfl 3 y2 u2 HU2.out) (fun e => by have e2 : w3.heap.size = g := Option.some.inj e; omega)
  clear hc2 hg2 q3 R3 C3 G3 B3
  have uu := K.cell q4.out 8 _ rfl
  have yy := frozen_of_row _ _ 8 _ _ q4.out
  have hyt : (y2 : Int) < 5 := by omega
  have q5 : Hid ((w4.setCell ⟨w1.heap.size, 8, none⟩ (.int .i64 u2)).heap[w1.heap.size]? = some (.cells #[.int .i64 3, .int .i64 0, .int .i64 0, .int .i64 0, .int .i64 0, .int .i64 0, .int .i64 0, .int .i64 0, .int .i64 u2, .int .i64 0, .int .i64 0, .bool false, .slice none 0 0, .slice D0 ds.length d0] 36 (0, 0))) := Lib.hid (K.set q4.out 8 _)
  have R5 := Lib.hid (K.other R4.out w1.heap.size 8 (.int .i64 u2) (by omega))
  have C5 := Lib.hid (C4.out.grownBy (grownBy_set w4 w1.heap.size 8 (.int .i64 u2)) (fun u hu => by cases hu; omega))
  have G5 := Lib.hid (grown_other G4.out (grownBy_set w4 w1.heap.size 8 (.int .i64 u2)) (fun u hu => by cases hu; omega))
  have B5 := Lib.hid (own_grown B4.out (grownBy_set w4 w1.heap.size 8 (.int .i64 u2)) (fun k h1 h2 => by cases h2; exact NB.out _ h1 rfl))
  go_wp2_with fail
  clear uu yy cf gk q4 R4 C4 G4 B4
  generalize (w4.setCell ⟨w1.heap.size, 8, none⟩ (.int .i64 u2)) = w5 at q5 R5 C5 G5 B5 ⊢
  refine Calls.mono (H3.out _ g A c C5.out) ?_
  rintro e w6 ⟨rfl, hc2, hg2⟩
  have q6 := Lib.hid (K.kept hg2 q5.out (fun k hk => by cases hk; omega))
  have R6 := Lib.hid (K.kept hg2 R5.out (fun k hk => by cases hk; omega))
  have C6 := Lib.hid hc2
  have G6 := Lib.hid (grownBy_trans G5.out hg2)
  have B6 := Lib.hid (own_grown B5.out hg2 (fun k h1 h2 => by cases h2; have := (B5.out.lt _ h1).1; omega))
  clear hc2 hg2 q5 R5 C5 G5 B5
  have uu := K.cell q6.out 9 _ rfl
  have yy := frozen_of_row _ _ 9 _ _ q6.out
  have q7 : Hid ((w6.setCell ⟨w1.heap.size, 9, none⟩ (.int .i64 x3)).heap[w1.heap.size]? = some (.cells #[.int .i64 3, .int .i64 0, .int .i64 0, .int .i64 0, .int .i64 0, .int .i64 0, .int .i64 0, .int .i64 0, .int .i64 u2, .int .i64 x3, .int .i64 0, .bool false, .slice none 0 0, .slice D0 ds.length d0] 36 (0, 0))) := Lib.hid (K.set q6.out 9 _)
  have R7 := Lib.hid (K.other R6.out w1.heap.size 9 (.int .i64 x3) (by omega))
  have C7 := Lib.hid (C6.out.grownBy (grownBy_set w6 w1.heap.size 9 (.int .i64 x3)) (fun u hu => by cases hu; omega))
  have G7 := Lib.hid (grown_other G6.out (grownBy_set w6 w1.heap.size 9 (.int .i64 x3)) (fun u hu => by cases hu; omega))
  have B7 := Lib.hid (own_grown B6.out (grownBy_set w6 w1.heap.size 9 (.int .i64 x3)) (fun k h1 h2 => by cases h2; exact NB.out _ h1 rfl))
  go_wp2_with fail
  clear uu yy q6 R6 C6 G6 B6
  generalize (w6.setCell ⟨w1.heap.size, 9, none⟩ (.int .i64 x3)) = w7 at q7 R7 C7 G7 B7 ⊢
  refine Calls.mono (H4.out _ g A c C7.out) ?_
  rintro e w8 ⟨rfl, hc2, hg2⟩
  have q8 := Lib.hid (K.kept hg2 q7.out (fun k hk => by cases hk; omega))
  have R8 := Lib.hid (K.kept hg2 R7.out (fun k hk => by cases hk; omega))
  have C8 := Lib.hid hc2
  have G8 := Lib.hid (grownBy_trans G7.out hg2)
  have B8 := Lib.hid (own_grown B7.out hg2 (fun k h1 h2 => by cases h2; have := (B7.out.lt _ h1).1; omega))
  clear hc2 hg2 q7 R7 C7 G7 B7
  have uu := K.cell q8.out 10 _ rfl
  have yy := frozen_of_row _ _ 10 _ _ q8.out
  have q9 : Hid ((w8.setCell ⟨w1.heap.size, 10, none⟩ (.int .i64 (x4 * 3))).heap[w1.heap.size]? = some (.cells #[.int .i64 3, .int .i64 0, .int .i64 0, .int .i64 0, .int .i64 0, .int .i64 0, .int .i64 0, .int .i64 0, .int .i64 u2, .int .i64 x3, .int .i64 (x4 * 3), .bool false, .slice none 0 0, .slice D0 ds.length d0] 36 (0, 0))) := Lib.hid (K.set q8.out 10 _)
  have R9 := Lib.hid (K.other R8.out w1.heap.size 10 (.int .i64 (x4 * 3)) (by omega))
  have C9 := Lib.hid (C8.out.grownBy (grownBy_set w8 w1.heap.size 10 (.int .i64 (x4 * 3))) (fun u hu => by cases hu; omega))
  have G9 := Lib.hid (grown_other G8.out (grownBy_set w8 w1.heap.size 10 (.int .i64 (x4 * 3))) (fun u hu => by cases hu; omega))
  have B9 := Lib.hid (own_grown B8.out (grownBy_set w8 w1.heap.size 10 (.int .i64 (x4 * 3))) (fun k h1 h2 => by cases h2; exact NB.out _ h1 rfl))
  go_upto_region 18 with fail
  clear uu yy q8 R8 C8 G8 B8
  generalize (w8.setCell ⟨w1.heap.size, 10, none⟩ (.int .i64 (x4 * 3))) = w9 at q9 R9 C9 G9 B9 ⊢
  go_wp2_with (first | (with_reducible refine loadU rfl _ rfl w1.heap.size rfl q9.out ?_) | (with_reducible refine storeU rfl _ _ rfl w.heap.size rfl rfl R9.out ?_))
  (try simp only [Exit.inBlock, Exit.then])
  refine bodyPost_ret (v := .agg #[.int .i64 3, .int .i64 0, .int .i64 0, .int .i64 0, .int .i64 0, .int .i64 0, .int .i64 0, .int .i64 0, .int .i64 u2, .int .i64 x3, .int .i64 (x4 * 3), .bool false, .slice none 0 0, .slice D0 ds.length d0]) ?_ rfl ⟨none, 0, D0, d0, rfl, ?_, ?_, (fun _ h => by cases h), ?_, ?_⟩
  · exact resU Try.results95 _ _ w.heap.size rfl (setRow_heap _ _ _ _ _ _ R9.out)
  · exact ⟨rfl, .inl ⟨rfl, rfl⟩⟩
  · exact own_base (own_grown B9.out (K.setRow_grown _ _ _) (fun k h1 h2 => by cases h2; have := (B9.out.lt _ h1).1; omega)) (by omega)
  · exact C9.out.grownBy (K.setRow_grown _ _ _) (fun u hu => by cases hu; omega)
  · exact grown_other G9.out (K.setRow_grown _ _ _) (fun u hu => by cases hu; omega)
set_option maxHeartbeats 8000000 in
theorem upE_2_6 (bs : List UInt8) (t s : Nat) (ht : t ≤ 700000000000) (ds : List UInt8) (t0 s0 : Nat) (hds : ds.length ≤ 40) (ht0 : t0 ≤ t + 40 + 1) (HB : Hid (∀ (w : World) (g : Nat) (A : Option Addr) (c : Nat), CurS w g A c bs t s → Calls Try.prog 109 #[.pointer (some ⟨g, 0, none⟩), .int .i64 (40 : Int)] w (GivesB w g A c bs t0 s0 ds))) : ∃ (x : Uh) (os ds : List UInt8) (t' s' : Nat), os.length ≤ 40 ∧ ds.length ≤ 40 ∧ t' ≤ t + 100 ∧ ∀ (w : World) (g : Nat) (A : Option Addr) (c : Nat), CurS w g A c bs t s → Calls Try.prog 95 #[.pointer (some ⟨g, 0, none⟩), .int .i64 2, .int .i64 6] w (GivesUp w g A c bs t' s' x os ds) := by
  obtain ⟨x1, s11, lo1, up1, hd1⟩ := pickE bs (t0) s0 3 (by omega) (by omega) (by omega)
  have H1 := Lib.hid hd1
  clear hd1
  obtain ⟨y1, rfl⟩ : ∃ k : Nat, x1 = k := ⟨x1.toNat, by omega⟩
  obtain ⟨x2, s12, lo2, up2, hd2⟩ := wideE bs (t0 + 1) s11 65536 (by omega) (by omega) (by omega)
  have H2 := Lib.hid hd2
  clear hd2
  obtain ⟨x3, s13, lo3, up3, hd3⟩ := pickE bs (t0 + 1 + 3) s12 9 (by omega) (by omega) (by omega)
  have H3 := Lib.hid hd3
  clear hd3
  obtain ⟨u3, hu3⟩ : ∃ a, ([x2, 1024 + x3, 53] : List Int)[y1]? = some a := ⟨_, List.getElem?_eq_getElem (by simp; omega)⟩
  have HU3 := Lib.hid hu3
  clear hu3
  obtain ⟨x4, s14, lo4, up4, hd4⟩ := pickE bs (t0 + 1 + 3 + 1) s13 9 (by omega) (by omega) (by omega)
  have H4 := Lib.hid hd4
  clear hd4
  obtain ⟨x5, s15, lo5, up5, hd5⟩ := wideE bs (t0 + 1 + 3 + 1 + 1) s14 65536 (by omega) (by omega) (by omega)
  have H5 := Lib.hid hd5
  clear hd5
  obtain ⟨x6, s16, lo6, up6, hd6⟩ := pickE bs (t0 + 1 + 3 + 1 + 1 + 3) s15 5 (by omega) (by omega) (by omega)
  have H6 := Lib.hid hd6
  clear hd6
  obtain ⟨y6, rfl⟩ : ∃ k : Nat, x6 = k := ⟨x6.toNat, by omega⟩
  obtain ⟨u6, hu6⟩ : ∃ a, ([80, 443, 53, 8000 + x4, x5] : List Int)[y6]? = some a := ⟨_, List.getElem?_eq_getElem (by simp; omega)⟩
  have HU6 := Lib.hid hu6
  clear hu6
  refine ⟨⟨2, u3, u6, 0, 0, 0, 0, 0, 0, 0, 0, false⟩, [], ds, t0 + 1 + 3 + 1 + 1 + 3 + 1, s16, by simp, by omega, by omega, fun w g A c hc0 => ?_⟩
  have hgl := hc0.lt
  have HC0 := Lib.hid (hc0.below (Joins.below_alloc1 w (.cells #[.int .i64 0, .int .i64 0, .int .i64 0, .int .i64 0, .int .i64 0, .int .i64 0, .int .i64 0, .int .i64 0, .int .i64 0, .int .i64 0, .int .i64 0, .bool false, .slice none 0 0, .slice none 0 0] 36)))
  have R0_ := Lib.hid (K.new w (.cells #[.int .i64 0, .int .i64 0, .int .i64 0, .int .i64 0, .int .i64 0, .int .i64 0, .int .i64 0, .int .i64 0, .int .i64 0, .int .i64 0, .int .i64 0, .bool false, .slice none 0 0, .slice none 0 0] 36))
  clear hc0
  have m3 : IntKind.i64.wrap (1024 + x3) = 1024 + x3 := by rw [IntKind.wrap_i64]; omega
  have m4 : IntKind.i64.wrap (8000 + x4) = 8000 + x4 := by rw [IntKind.wrap_i64]; omega
  have hy1 : (y1 : Int) < 3 := by omega
  go_enter Try.func95, Try.ntmps95
  go_wp2_with fail
  refine Calls.mono (HB.out _ g A c HC0.out) ?_
  rintro e w1 ⟨D0, d0, rfl, od, hc2, hg2⟩
  have hb : w.heap.size < w1.heap.size := by have := hg2.size; simp at this; omega
  have q1 := Lib.hid (K.new w1 (.cells #[.int .i64 2, .int .i64 0, .int .i64 0, .int .i64 0, .int .i64 0, .int .i64 0, .int .i64 0, .int .i64 0, .int .i64 0, .int .i64 0, .int .i64 0, .bool false, .slice none 0 0, .slice D0 ds.length d0] 36))
  have R1 := Lib.hid (K.old (K.kept hg2 R0_.out (fun k hk => by cases hk; omega)) (.cells #[.int .i64 2, .int .i64 0, .int .i64 0, .int .i64 0, .int .i64 0, .int .i64 0, .int .i64 0, .int .i64 0, .int .i64 0, .int .i64 0, .int .i64 0, .bool false, .slice none 0 0, .slice D0 ds.length d0] 36))
  have C1 := Lib.hid (hc2.below (Joins.below_alloc1 w1 (.cells #[.int .i64 2, .int .i64 0, .int .i64 0, .int .i64 0, .int .i64 0, .int .i64 0, .int .i64 0, .int .i64 0, .int .i64 0, .int .i64 0, .int .i64 0, .bool false, .slice none 0 0, .slice D0 ds.length d0] 36)))
  have G1 := Lib.hid (only_new (grownBy_trans (only_new (K.refl w (some g)) (.cells #[.int .i64 0, .int .i64 0, .int .i64 0, .int .i64 0, .int .i64 0, .int .i64 0, .int .i64 0, .int .i64 0, .int .i64 0, .int .i64 0, .int .i64 0, .bool false, .slice none 0 0, .slice none 0 0] 36)) hg2) (.cells #[.int .i64 2, .int .i64 0, .int .i64 0, .int .i64 0, .int .i64 0, .int .i64 0, .int .i64 0, .int .i64 0, .int .i64 0, .int .i64 0, .int .i64 0, .bool false, .slice none 0 0, .slice D0 ds.length d0] 36))
  have B1 := Lib.hid (World.ownsRow.alloc (own_base od (show w.heap.size + 1 ≤ _ by simp)) (.cells #[.int .i64 2, .int .i64 0, .int .i64 0, .int .i64 0, .int .i64 0, .int .i64 0, .int .i64 0, .int .i64 0, .int .i64 0, .int .i64 0, .int .i64 0, .bool false, .slice none 0 0, .slice D0 ds.length d0] 36))
  have NB := Lib.hid (fun k (hk : (Value.slice D0 ds.length d0).ownBlock = some k) => show k ≠ w1.heap.size by have := (od.lt k hk).2; omega)
  clear od hc2 hg2 HC0 R0_
  go_wp2_with (with_reducible refine storeNewU rfl _ _ rfl rfl rfl ?_)
  generalize (w1.alloc (.cells #[.int .i64 2, .int .i64 0, .int .i64 0, .int .i64 0, .int .i64 0, .int .i64 0, .int .i64 0, .int .i64 0, .int .i64 0, .int .i64 0, .int .i64 0, .bool false, .slice none 0 0, .slice D0 ds.length d0] 36)) = w2 at q1 R1 C1 G1 B1 ⊢
  refine Calls.mono (H1.out _ g A c C1.out) ?_
  rintro e w3 ⟨rfl, hc2, hg2⟩
  have q2 := Lib.hid (K.kept hg2 q1.out (fun k hk => by cases hk; omega))
  have R2 := Lib.hid (K.kept hg2 R1.out (fun k hk => by cases hk; omega))
  have C2 := Lib.hid hc2
  have G2 := Lib.hid (grownBy_trans G1.out hg2)
  have B2 := Lib.hid (own_grown B1.out hg2 (fun k h1 h2 => by cases h2; have := (B1.out.lt _ h1).1; omega))
  clear hc2 hg2 q1 R1 C1 G1 B1
  have uu := K.cell q2.out 11 _ rfl
  have yy := frozen_of_row _ _ 11 _ _ q2.out
  have q3 : Hid ((w3.setCell ⟨w1.heap.size, 11, none⟩ (.bool false)).heap[w1.heap.size]? = some (.cells #[.int .i64 2, .int .i64 0, .int .i64 0, .int .i64 0, .int .i64 0, .int .i64 0, .int .i64 0, .int .i64 0, .int .i64 0, .int .i64 0, .int .i64 0, .bool false, .slice none 0 0, .slice D0 ds.length d0] 36 (0, 0))) := Lib.hid (K.set q2.out 11 _)
  have R3 := Lib.hid (K.other R2.out w1.heap.size 11 (.bool false) (by omega))
  have C3 := Lib.hid (C2.out.grownBy (grownBy_set w3 w1.heap.size 11 (.bool false)) (fun u hu => by cases hu; omega))
  have G3 := Lib.hid (grown_other G2.out (grownBy_set w3 w1.heap.size 11 (.bool false)) (fun u hu => by cases hu; omega))
  have B3 := Lib.hid (own_grown B2.out (grownBy_set w3 w1.heap.size 11 (.bool false)) (fun k h1 h2 => by cases h2; exact NB.out _ h1 rfl))
  go_upto_region 18 with fail
  clear uu yy q2 R2 C2 G2 B2
  generalize (w3.setCell ⟨w1.heap.size, 11, none⟩ (.bool false)) = w4 at q3 R3 C3 G3 B3 ⊢
  go_wp2_with fail
  refine Calls.mono (H2.out _ g A c C3.out) ?_
  rintro e w5 ⟨rfl, hc2, hg2⟩
  have q4 := Lib.hid (K.kept hg2 q3.out (fun k hk => by cases hk; omega))
  have R4 := Lib.hid (K.kept hg2 R3.out (fun k hk => by cases hk; omega))
  have C4 := Lib.hid hc2
  have G4 := Lib.hid (grownBy_trans G3.out hg2)
  have B4 := Lib.hid (own_grown B3.out hg2 (fun k h1 h2 => by cases h2; have := (B3.out.lt _ h1).1; omega))
  clear hc2 hg2 q3 R3 C3 G3 B3
  go_wp2_with fail
  refine Calls.mono (H3.out _ g A c C4.out) ?_
  rintro e w6 ⟨rfl, hc2, hg2⟩
  have q5 := Lib.hid (K.kept hg2 q4.out (fun k hk => by cases hk; omega))
  have R5 := Lib.hid (K.kept hg2 R4.out (fun k hk => by cases hk; omega))
  have C5 := Lib.hid hc2
  have G5 := Lib.hid (grownBy_trans G4.out hg2)
  have B5 := Lib.hid (own_grown B4.out hg2 (fun k h1 h2 => by cases h2; have := (B4.out.lt _ h1).1; omega))
  clear hc2 hg2 q4 R4 C4 G4 B4
  have q6 := Lib.hid (K.old q5.out (.cells #[.int .i64 x2, .int .i64 (1024 + x3), .int .i64 53] 3))
  have R6 := Lib.hid (K.old R5.out (.cells #[.int .i64 x2, .int .i64 (1024 + x3), .int .i64 53] 3))
  have C6 := Lib.hid (C5.out.below (Joins.below_alloc1 w6 (.cells #[.int .i64 x2, .int .i64 (1024 + x3), .int .i64 53] 3)))
  have G6 := Lib.hid (only_new G5.out (.cells #[.int .i64 x2, .int .i64 (1024 + x3), .int .i64 53] 3))
  have B6 := Lib.hid (World.ownsRow.alloc B5.out (.cells #[.int .i64 x2, .int .i64 (1024 + x3), .int .i64 53] 3))
  clear q5 R5 C5 G5 B5
  have cf := K.row_cells w6 [x2, (1024 + x3), 53] _ rfl 3 y1 u3 HU3.out
  have cfa : (#[.int .i64 x2, .int .i64 (1024 + x3), .int .i64 53] : Array Value)[y1]? = some (.int .i64 u3) := by have := arr_U [x2, (1024 + x3), 53] y1 u3 HU3.out; simpa using this
  have uu := K.cell q6.out 1 _ rfl
  have yy := frozen_of_row _ _ 1 _ _ q6.out
  have q7 : Hid (((w6.alloc (.cells #[.int .i64 x2, .int .i64 (1024 + x3), .int .i64 53] 3)).setCell ⟨w1.heap.size, 1, none⟩ (.int .i64 u3)).heap[w1.heap.size]? = some (.cells #[.int .i64 2, .int .i64 u3, .int .i64 0, .int .i64 0, .int .i64 0, .int .i64 0, .int .i64 0, .int .i64 0, .int .i64 0, .int .i64 0, .int .i64 0, .bool false, .slice none 0 0, .slice D0 ds.length d0] 36 (0, 0))) := Lib.hid (K.set q6.out 1 _)
  have R7 := Lib.hid (K.other R6.out w1.heap.size 1 (.int .i64 u3) (by omega))
  have C7 := Lib.hid (C6.out.grownBy (grownBy_set (w6.alloc (.cells #[.int .i64 x2, .int .i64 (1024 + x3), .int .i64 53] 3)) w1.heap.size 1 (.int .i64 u3)) (fun u hu => by cases hu; omega))
  have G7 := Lib.hid (grown_other G6.out (grownBy_set (w6.alloc (.cells #[.int .i64 x2, .int .i64 (1024 + x3), .int .i64 53] 3)) w1.heap.size 1 (.int .i64 u3)) (fun u hu => by cases hu; omega))
  have B7 := Lib.hid (own_grown B6.out (grownBy_set (w6.alloc (.cells #[.int .i64 x2, .int .i64 (1024 + x3), .int .i64 53] 3)) w1.heap.size 1 (.int .i64 u3)) (fun k h1 h2 => by cases h2; exact NB.out _ h1 rfl))
  go_upto_region 20 with fail
  clear uu yy cf cfa q6 R6 C6 G6 B6
  generalize ((w6.alloc (.cells #[.int .i64 x2, .int .i64 (1024 + x3), .int .i64 53] 3)).setCell ⟨w1.heap.size, 1, none⟩ (.int .i64 u3)) = w7 at q7 R7 C7 G7 B7 ⊢
  go_wp2_with fail
  refine Calls.mono (H4.out _ g A c C7.out) ?_
  rintro e w8 ⟨rfl, hc2, hg2⟩
  have q8 := Lib.hid (K.kept hg2 q7.out (fun k hk => by cases hk; omega))
  have R8 := Lib.hid (K.kept hg2 R7.out (fun k hk => by cases hk; omega))
  have C8 := Lib.hid hc2
  have G8 := Lib.hid (grownBy_trans G7.out hg2)
  have B8 := Lib.hid (own_grown B7.out hg2 (fun k h1 h2 => by cases h2; have := (B7.out.lt _ h1).1; omega))
  clear hc2 hg2 q7 R7 C7 G7 B7
  go_wp2_with fail
  refine Calls.mono (H5.out _ g A c C8.out) ?_
  rintro e w9 ⟨rfl, hc2, hg2⟩
  have q9 := Lib.hid (K.kept hg2 q8.out (fun k hk => by cases hk; omega))
  have R9 := Lib.hid (K.kept hg2 R8.out (fun k hk => by cases hk; omega))
  have C9 := Lib.hid hc2
  have G9 := Lib.hid (grownBy_trans G8.out hg2)
  have B9 := Lib.hid (own_grown B8.out hg2 (fun k h1 h2 => by cases h2; have := (B8.out.lt _ h1).1; omega))
  clear hc2 hg2 q8 R8 C8 G8 B8
  have gk := C9.out.lt
  have q10 := Lib.hid (K.old q9.out (.cells #[.int .i64 80, .int .i64 443, .int .i64 53, .int .i64 (8000 + x4), .int .i64 x5] 3))
  have R10 := Lib.hid (K.old R9.out (.cells #[.int .i64 80, .int .i64 443, .int .i64 53, .int .i64 (8000 + x4), .int .i64 x5] 3))
  have C10 := Lib.hid (C9.out.below (Joins.below_alloc1 w9 (.cells #[.int .i64 80, .int .i64 443, .int .i64 53, .int .i64 (8000 + x4), .int .i64 x5] 3)))
  have G10 := Lib.hid (only_new G9.out (.cells #[.int .i64 80, .int .i64 443, .int .i64 53, .int .i64 (8000 + x4), .int .i64 x5] 3))
  have B10 := Lib.hid (World.ownsRow.alloc B9.out (.cells #[.int .i64 80, .int .i64 443, .int .i64 53, .int .i64 (8000 + x4), .int .i64 x5] 3))
  go_wp2_with fail
  clear q9 R9 C9 G9 B9
  refine Calls.mono (H6.out _ g A c C10.out) ?_
  rintro e w10 ⟨rfl, hc2, hg2⟩
  have q11 := Lib.hid (K.kept hg2 q10.out (fun k hk => by cases hk; omega))
  have R11 := Lib.hid (K.kept hg2 R10.out (fun k hk => by cases hk; omega))
  have C11 := Lib.hid hc2
  have G11 := Lib.hid (grownBy_trans G10.out hg2)
  have B11 := Lib.hid (own_grown B10.out hg2 (fun k h1 h2 => by cases h2; have := (B10.out.lt _ h1).1; omega))
  have cf := hg2.cell (K.row_cells w9 [80, 443, 53, (8000 + x4), x5] _ rfl 3 y6 u6 HU6.out) (fun e => by have e2 : w9.heap.size = g := Option.some.inj e; omega)
  clear hc2 hg2 q10 R10 C10 G10 B10
  have uu := K.cell q11.out 2 _ rfl
  have yy := frozen_of_row _ _ 2 _ _ q11.out
  have hyd : (y6 : Int) < 5 := by omega
  have q12 : Hid ((w10.setCell ⟨w1.heap.size, 2, none⟩ (.int .i64 u6)).heap[w1.heap.size]? = some (.cells #[.int .i64 2, .int .i64 u3, .int .i64 u6, .int .i64 0, .int .i64 0, .int .i64 0, .int .i64 0, .int .i64 0, .int .i64 0, .int .i64 0, .int .i64 0, .bool false, .slice none 0 0, .slice D0 ds.length d0] 36 (0, 0))) := Lib.hid (K.set q11.out 2 _)
  have R12 := Lib.hid (K.other R11.out w1.heap.size 2 (.int .i64 u6) (by omega))
  have C12 := Lib.hid (C11.out.grownBy (grownBy_set w10 w1.heap.size 2 (.int .i64 u6)) (fun u hu => by cases hu; omega))
  have G12 := Lib.hid (grown_other G11.out (grownBy_set w10 w1.heap.size 2 (.int .i64 u6)) (fun u hu => by cases hu; omega))
  have B12 := Lib.hid (own_grown B11.out (grownBy_set w10 w1.heap.size 2 (.int .i64 u6)) (fun k h1 h2 => by cases h2; exact NB.out _ h1 rfl))
  go_upto_region 21 with fail
  clear uu yy cf gk q11 R11 C11 G11 B11
  generalize (w10.setCell ⟨w1.heap.size, 2, none⟩ (.int .i64 u6)) = w11 at q12 R12 C12 G12 B12 ⊢
  go_wp2_with (first | (with_reducible refine loadU rfl _ rfl w1.heap.size rfl q12.out ?_) | (with_reducible refine storeU rfl _ _ rfl w.heap.size rfl rfl R12.out ?_))
  (try simp only [Exit.inBlock, Exit.then])
  refine bodyPost_ret (v := .agg #[.int .i64 2, .int .i64 u3, .int .i64 u6, .int .i64 0, .int .i64 0, .int .i64 0, .int .i64 0, .int .i64 0, .int .i64 0, .int .i64 0, .int .i64 0, .bool false, .slice none 0 0, .slice D0 ds.length d0]) ?_ rfl ⟨none, 0, D0, d0, rfl, ?_, ?_, (fun _ h => by cases h), ?_, ?_⟩
  · exact resU Try.results95 _ _ w.heap.size rfl (setRow_heap _ _ _ _ _ _ R12.out)
  · exact ⟨rfl, .inl ⟨rfl, rfl⟩⟩
  · exact own_base (own_grown B12.out (K.setRow_grown _ _ _) (fun k h1 h2 => by cases h2; have := (B12.out.lt _ h1).1; omega)) (by omega)
  · exact C12.out.grownBy (K.setRow_grown _ _ _) (fun u hu => by cases hu; omega)
  · exact grown_other G12.out (K.setRow_grown _ _ _) (fun u hu => by cases hu; omega)
end Go.Proofs.Ythogonpjkngpjaa
