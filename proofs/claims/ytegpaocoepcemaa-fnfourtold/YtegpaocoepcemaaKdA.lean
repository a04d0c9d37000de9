/-
  A row of zeros. The model's draw of an IPv4 packet that may be wrong, number by number. The model's draw of an IPv4 packet that may be wrong, number by number. The model's draw of an IPv4 packet that may be wrong, number by number. The model's draw of an IPv4 packet that may be wrong, number by number. The model's draw of an IPv4 packet that may be wrong, number by number. The model's draw of an IPv4 packet out of a code.
-/
import Derived.Test.YtegpaocoepcemaaRegDraw
import Derived.Test.YtegpaocoepcemaaFourE
import Derived.Test.YtegpaocoepcemaaFourReg
import Derived.Deep.Cut
namespace Go.Proofs.Ytegpaocoepcemaa
set_option maxRecDepth 100000
open Go.RowKit

theorem made_zeroF (n : Nat) : (madeCells (Value.int IntKind.u8 0).cells (n * 1)).toList = cellsOf (List.replicate n 0) := by
  have := toList_madeCells_one (.int .u8 0) n
  simpa [Value.cells, cellsOf] using this
end Go.Proofs.Ytegpaocoepcemaa

namespace Go.Proofs.Ytegpaocoepcemaa
set_option maxRecDepth 100000
open Go.RowKit

set_option maxHeartbeats 4000000 in
theorem badFour_0 (bs : List UInt8) (t s : Nat) (ht : t ≤ 700000000000) (x : Fh) (os : List UInt8) (t1 s1 : Nat) (hos : os.length ≤ 40) (ht1 : t1 ≤ t + 100) (HF : Hid (∀ (w : World) (g : Nat) (A : Option Addr) (c : Nat), CurS w g A c bs t s → Calls Try.prog 99 #[.pointer (some ⟨g, 0, none⟩)] w (GivesFour w g A c bs t1 s1 x os [])))
    (ds : List UInt8) (t2 s2 : Nat) (hds : ds.length ≤ 50) (ht2 : t2 ≤ t1 + 50 + 1) (HB : Hid (∀ (w : World) (g : Nat) (A : Option Addr) (c : Nat), CurS w g A c bs t1 s1 → Calls Try.prog 95 #[.pointer (some ⟨g, 0, none⟩), .int .i64 (50 : Int)] w (GivesB w g A c bs t2 s2 ds))) (k : Int) (s3 : Nat) (hk : k = 0) (HK : Hid (∀ (w : World) (g : Nat) (A : Option Addr) (c : Nat), CurS w g A c bs t2 s2 → Calls Try.prog 96 #[.pointer (some ⟨g, 0, none⟩), .int .i64 12] w (Gives w g A c bs (t2 + 1) s3 k))) :
    ∃ (x : Fh) (os ds : List UInt8) (t' s' : Nat), os.length ≤ 45 ∧ ds.length ≤ 1480 ∧ ∀ (w : World) (g : Nat) (A : Option Addr) (c : Nat), CurS w g A c bs t s → Calls Try.prog 74 #[.pointer (some ⟨g, 0, none⟩)] w (GivesFour w g A c bs t' s' x os ds) := by
  subst hk
  obtain ⟨z, s4, hd⟩ := rawE bs (t2 + 1) s3 (by omega)
  have H4 := Lib.hid hd
  clear hd
  obtain ⟨q, s5, loq, upq, hd⟩ := pickE bs (t2 + 1 + 2) s4 3 (by omega) (by omega) (by omega)
  have H5 := Lib.hid hd
  clear hd
  obtain ⟨y, rfl⟩ : ∃ k : Nat, q = k := ⟨q.toNat, by omega⟩
  obtain ⟨u, hu⟩ : ∃ a, ([z, (63 : Int), (64 : Int)] : List Int)[y]? = some a := ⟨_, List.getElem?_eq_getElem (by simp; omega)⟩
  have HU := Lib.hid hu
  clear hu
  refine ⟨⟨u, x.ecn, x.id, x.flags, x.frag, x.ttl, x.proto, ⟨x.src.k, x.src.a, x.src.b, x.src.c, x.src.d⟩, ⟨x.dst.k, x.dst.a, x.dst.b, x.dst.c, x.dst.d⟩⟩, os, ds, t2 + 1 + 2 + 1, s5, by omega, by omega, fun w g A c hc0 => ?_⟩
  have hgl := hc0.lt
  have CUR0 := Lib.hid (hc0.below (Joins.below_alloc1 w (.cells #[.int .i64 0, .int .i64 0, .int .i64 0, .int .i64 0, .int .i64 0, .int .i64 0, .int .i64 0, .int .i64 0, .int .i64 0, .int .i64 0, .int .i64 0, .int .i64 0, .int .i64 0, .int .i64 0, .int .i64 0, .int .i64 0, .int .i64 0, .slice none 0 0, .slice none 0 0] 52)))
  have r0 := Lib.hid (K.new w (.cells #[.int .i64 0, .int .i64 0, .int .i64 0, .int .i64 0, .int .i64 0, .int .i64 0, .int .i64 0, .int .i64 0, .int .i64 0, .int .i64 0, .int .i64 0, .int .i64 0, .int .i64 0, .int .i64 0, .int .i64 0, .int .i64 0, .int .i64 0, .slice none 0 0, .slice none 0 0] 52))
  clear hc0
  go_enter Try.func74, Try.ntmps74
  go_wp2_with fail
  refine Calls.mono (HF.out _ g A c CUR0.out) ?_
  rintro e w0 ⟨O, oc, D0, dc0, rfl, o0, _, hc2, hg2⟩
  have hb4 : w.heap.size + 1 ≤ w0.heap.size := by have := hg2.size; simpa using this
  have Q1 : Hid ((w0.alloc (.cells #[.int .i64 x.dscp, .int .i64 x.ecn, .int .i64 x.id, .int .i64 x.flags, .int .i64 x.frag, .int .i64 x.ttl, .int .i64 x.proto, .int .i64 x.src.k, .int .i64 x.src.a, .int .i64 x.src.b, .int .i64 x.src.c, .int .i64 x.src.d, .int .i64 x.dst.k, .int .i64 x.dst.a, .int .i64 x.dst.b, .int .i64 x.dst.c, .int .i64 x.dst.d, .slice O os.length oc, .slice D0 ([] : List UInt8).length dc0] 52)).heap[w0.heap.size]? = some (.cells #[.int .i64 x.dscp, .int .i64 x.ecn, .int .i64 x.id, .int .i64 x.flags, .int .i64 x.frag, .int .i64 x.ttl, .int .i64 x.proto, .int .i64 x.src.k, .int .i64 x.src.a, .int .i64 x.src.b, .int .i64 x.src.c, .int .i64 x.src.d, .int .i64 x.dst.k, .int .i64 x.dst.a, .int .i64 x.dst.b, .int .i64 x.dst.c, .int .i64 x.dst.d, .slice O os.length oc, .slice D0 ([] : List UInt8).length dc0] 52 (0, 0))) := Lib.hid (K.new w0 _)
  have R1 := Lib.hid (K.old (K.kept hg2 r0.out (fun k hk => by cases hk; omega)) (.cells #[.int .i64 x.dscp, .int .i64 x.ecn, .int .i64 x.id, .int .i64 x.flags, .int .i64 x.frag, .int .i64 x.ttl, .int .i64 x.proto, .int .i64 x.src.k, .int .i64 x.src.a, .int .i64 x.src.b, .int .i64 x.src.c, .int .i64 x.src.d, .int .i64 x.dst.k, .int .i64 x.dst.a, .int .i64 x.dst.b, .int .i64 x.dst.c, .int .i64 x.dst.d, .slice O os.length oc, .slice D0 ([] : List UInt8).length dc0] 52))
  have C1 := Lib.hid (hc2.below (Joins.below_alloc1 w0 (.cells #[.int .i64 x.dscp, .int .i64 x.ecn, .int .i64 x.id, .int .i64 x.flags, .int .i64 x.frag, .int .i64 x.ttl, .int .i64 x.proto, .int .i64 x.src.k, .int .i64 x.src.a, .int .i64 x.src.b, .int .i64 x.src.c, .int .i64 x.src.d, .int .i64 x.dst.k, .int .i64 x.dst.a, .int .i64 x.dst.b, .int .i64 x.dst.c, .int .i64 x.dst.d, .slice O os.length oc, .slice D0 ([] : List UInt8).length dc0] 52)))
  have G1 := Lib.hid (only_new (grownBy_trans (only_new (K.refl w (some g)) (.cells #[.int .i64 0, .int .i64 0, .int .i64 0, .int .i64 0, .int .i64 0, .int .i64 0, .int .i64 0, .int .i64 0, .int .i64 0, .int .i64 0, .int .i64 0, .int .i64 0, .int .i64 0, .int .i64 0, .int .i64 0, .int .i64 0, .int .i64 0, .slice none 0 0, .slice none 0 0] 52)) hg2) (.cells #[.int .i64 x.dscp, .int .i64 x.ecn, .int .i64 x.id, .int .i64 x.flags, .int .i64 x.frag, .int .i64 x.ttl, .int .i64 x.proto, .int .i64 x.src.k, .int .i64 x.src.a, .int .i64 x.src.b, .int .i64 x.src.c, .int .i64 x.src.d, .int .i64 x.dst.k, .int .i64 x.dst.a, .int .i64 x.dst.b, .int .i64 x.dst.c, .int .i64 x.dst.d, .slice O os.length oc, .slice D0 ([] : List UInt8).length dc0] 52))
  have S1 := Lib.hid (World.ownsRow.alloc (own_base o0 (show w.heap.size + 1 ≤ _ by simp)) (.cells #[.int .i64 x.dscp, .int .i64 x.ecn, .int .i64 x.id, .int .i64 x.flags, .int .i64 x.frag, .int .i64 x.ttl, .int .i64 x.proto, .int .i64 x.src.k, .int .i64 x.src.a, .int .i64 x.src.b, .int .i64 x.src.c, .int .i64 x.src.d, .int .i64 x.dst.k, .int .i64 x.dst.a, .int .i64 x.dst.b, .int .i64 x.dst.c, .int .i64 x.dst.d, .slice O os.length oc, .slice D0 ([] : List UInt8).length dc0] 52))
  have NS := Lib.hid (show ∀ k, (Value.slice O os.length oc).ownBlock = some k → k ≠ w0.heap.size from fun k hk => by have := (o0.lt k hk).2; omega)
  clear hc2 hg2 o0 CUR0 r0
  go_wp2_with (with_reducible refine storeNewF rfl _ _ rfl rfl rfl ?_)
  refine Calls.mono (HB.out _ g A c C1.out) ?_
  rintro e w2 ⟨D, d, rfl, o2, hc2, hg2⟩
  have Q2 := Lib.hid (K.kept hg2 Q1.out (fun k hk => by cases hk; omega))
  have R2 := Lib.hid (K.kept hg2 R1.out (fun k hk => by cases hk; omega))
  have C2 := Lib.hid hc2
  have G2 := Lib.hid (grownBy_trans G1.out hg2)
  have S2 := Lib.hid (own_grown S1.out hg2 (fun k hk e => by have := (S1.out.lt k hk).1; cases e; omega))
  have D2 := Lib.hid (own_base o2 (show w0.heap.size + 1 ≤ _ by simp))
  have ND := Lib.hid (show ∀ k, (Value.slice D ds.length d).ownBlock = some k → k ≠ w0.heap.size from fun k hk => by have := (D2.out.lt k hk).1; omega)
  clear hc2 hg2 o2 Q1 R1 C1 G1 S1
  have c18 := K.cell Q2.out 18 _ rfl
  have f18 := frozen_of_row _ _ 18 _ _ Q2.out
  have Q3 : Hid ((w2.setCell ⟨w0.heap.size, 18, none⟩ (.slice D ds.length d)).heap[w0.heap.size]? = some (.cells #[.int .i64 x.dscp, .int .i64 x.ecn, .int .i64 x.id, .int .i64 x.flags, .int .i64 x.frag, .int .i64 x.ttl, .int .i64 x.proto, .int .i64 x.src.k, .int .i64 x.src.a, .int .i64 x.src.b, .int .i64 x.src.c, .int .i64 x.src.d, .int .i64 x.dst.k, .int .i64 x.dst.a, .int .i64 x.dst.b, .int .i64 x.dst.c, .int .i64 x.dst.d, .slice O os.length oc, .slice D ds.length d] 52 (0, 0))) := Lib.hid (K.set (Q2.out) 18 (.slice D ds.length d))
  have R3 : Hid ((w2.setCell ⟨w0.heap.size, 18, none⟩ (.slice D ds.length d)).heap[w.heap.size]? = some (.cells #[.int .i64 0, .int .i64 0, .int .i64 0, .int .i64 0, .int .i64 0, .int .i64 0, .int .i64 0, .int .i64 0, .int .i64 0, .int .i64 0, .int .i64 0, .int .i64 0, .int .i64 0, .int .i64 0, .int .i64 0, .int .i64 0, .int .i64 0, .slice none 0 0, .slice none 0 0] 52 (0, 0))) := Lib.hid (K.setFrom_other [.slice D ds.length d] 18 R2.out (show w.heap.size ≠ w0.heap.size by omega))
  have C3 := Lib.hid (show CurS (w2.setCell ⟨w0.heap.size, 18, none⟩ (.slice D ds.length d)) g A c bs _ _ from C2.out.grownBy (K.setFrom_selfE [.slice D ds.length d] w2 w0.heap.size 18) (fun u hu => by cases hu; omega))
  have G3 := Lib.hid (show w.grownBy (w2.setCell ⟨w0.heap.size, 18, none⟩ (.slice D ds.length d)) (some g) from K.setFrom_grown (g := w0.heap.size) [.slice D ds.length d] 18 G2.out (by omega))
  have D3 := Lib.hid (show (w2.setCell ⟨w0.heap.size, 18, none⟩ (.slice D ds.length d)).ownsRow _ 5 1 _ _ _ from own_grown D2.out (K.setFrom_selfE [.slice D ds.length d] w2 w0.heap.size 18) (fun k hk e => by cases e; have := ND.out _ hk; omega))
  have S3 := Lib.hid (show (w2.setCell ⟨w0.heap.size, 18, none⟩ (.slice D ds.length d)).ownsRow _ 5 1 _ _ _ from own_grown S2.out (K.setFrom_selfE [.slice D ds.length d] w2 w0.heap.size 18) (fun k hk e => by cases e; have := NS.out _ hk; omega))
  go_wp2_with fail
  clear c18 f18 Q2 R2 C2 G2 D2 S2
  refine Calls.mono (HK.out _ g A c C3.out) ?_
  rintro e w4 ⟨rfl, hc2, hg2⟩
  have Q4 := Lib.hid (K.kept hg2 Q3.out (fun k hk => by cases hk; omega))
  have R4 := Lib.hid (K.kept hg2 R3.out (fun k hk => by cases hk; omega))
  have C4 := Lib.hid hc2
  have G4 := Lib.hid (grownBy_trans G3.out hg2)
  have D4 := Lib.hid (own_grown D3.out hg2 (fun k hk e => by have := (D3.out.lt k hk).1; cases e; omega))
  have S4 := Lib.hid (own_grown S3.out hg2 (fun k hk e => by have := (S3.out.lt k hk).1; cases e; omega))
  clear hc2 hg2 Q3 R3 C3 G3 D3 S3
  go_wp2_with fail
  refine Calls.mono (H4.out _ g A c C4.out) ?_
  rintro e w5 ⟨rfl, hc2, hg2⟩
  have Q5 := Lib.hid (K.kept hg2 Q4.out (fun k hk => by cases hk; omega))
  have R5 := Lib.hid (K.kept hg2 R4.out (fun k hk => by cases hk; omega))
  have C5 := Lib.hid hc2
  have G5 := Lib.hid (grownBy_trans G4.out hg2)
  have D5 := Lib.hid (own_grown D4.out hg2 (fun k hk e => by have := (D4.out.lt k hk).1; cases e; omega))
  have S5 := Lib.hid (own_grown S4.out hg2 (fun k hk e => by have := (S4.out.lt k hk).1; cases e; omega))
  clear hc2 hg2 Q4 R4 C4 G4 D4 S4
  have gk := C5.out.lt
  have Q6 := Lib.hid (K.old Q5.out (.cells #[.int .i64 z, .int .i64 63, .int .i64 64] 3))
  have R6 := Lib.hid (K.old R5.out (.cells #[.int .i64 z, .int .i64 63, .int .i64 64] 3))
  have C6 := Lib.hid (C5.out.below (Joins.below_alloc1 w5 (.cells #[.int .i64 z, .int .i64 63, .int .i64 64] 3)))
  have G6 := Lib.hid (only_new G5.out (.cells #[.int .i64 z, .int .i64 63, .int .i64 64] 3))
  have D6 := Lib.hid (World.ownsRow.alloc D5.out (.cells #[.int .i64 z, .int .i64 63, .int .i64 64] 3))
  have S6 := Lib.hid (World.ownsRow.alloc S5.out (.cells #[.int .i64 z, .int .i64 63, .int .i64 64] 3))
  go_wp2_with fail
  clear Q5 R5 C5 G5 D5 S5
  refine Calls.mono (H5.out _ g A c C6.out) ?_
  rintro e w7 ⟨rfl, hc2, hg2⟩
  have Q7 := Lib.hid (K.kept hg2 Q6.out (fun k hk => by cases hk; omega))
  have R7 := Lib.hid (K.kept hg2 R6.out (fun k hk => by cases hk; omega))
  have C7 := Lib.hid hc2
  have G7 := Lib.hid (grownBy_trans G6.out hg2)
  have D7 := Lib.hid (own_grown D6.out hg2 (fun k hk e => by have := (D6.out.lt k hk).1; cases e; omega))
  have S7 := Lib.hid (own_grown S6.out hg2 (fun k hk e => by have := (S6.out.lt k hk).1; cases e; omega))
  have cf := hg2.cell (K.row_cells w5 [z, 63, 64] _ rfl 3 y u HU.out) (fun e => by have e2 : w5.heap.size = g := Option.some.inj e; omega)
  clear hc2 hg2 Q6 R6 C6 G6 D6 S6
  have c0 := K.cell Q7.out 0 _ rfl
  have f0 := frozen_of_row _ _ 0 _ _ Q7.out
  have Q8 : Hid ((w7.setCell ⟨w0.heap.size, 0, none⟩ (.int .i64 u)).heap[w0.heap.size]? = some (.cells #[.int .i64 u, .int .i64 x.ecn, .int .i64 x.id, .int .i64 x.flags, .int .i64 x.frag, .int .i64 x.ttl, .int .i64 x.proto, .int .i64 x.src.k, .int .i64 x.src.a, .int .i64 x.src.b, .int .i64 x.src.c, .int .i64 x.src.d, .int .i64 x.dst.k, .int .i64 x.dst.a, .int .i64 x.dst.b, .int .i64 x.dst.c, .int .i64 x.dst.d, .slice O os.length oc, .slice D ds.length d] 52 (0, 0))) := Lib.hid (K.set (Q7.out) 0 (.int .i64 u))
  have R8 : Hid ((w7.setCell ⟨w0.heap.size, 0, none⟩ (.int .i64 u)).heap[w.heap.size]? = some (.cells #[.int .i64 0, .int .i64 0, .int .i64 0, .int .i64 0, .int .i64 0, .int .i64 0, .int .i64 0, .int .i64 0, .int .i64 0, .int .i64 0, .int .i64 0, .int .i64 0, .int .i64 0, .int .i64 0, .int .i64 0, .int .i64 0, .int .i64 0, .slice none 0 0, .slice none 0 0] 52 (0, 0))) := Lib.hid (K.setFrom_other [.int .i64 u] 0 R7.out (show w.heap.size ≠ w0.heap.size by omega))
  have C8 := Lib.hid (show CurS (w7.setCell ⟨w0.heap.size, 0, none⟩ (.int .i64 u)) g A c bs _ _ from C7.out.grownBy (K.setFrom_selfE [.int .i64 u] w7 w0.heap.size 0) (fun u hu => by cases hu; omega))
  have G8 := Lib.hid (show w.grownBy (w7.setCell ⟨w0.heap.size, 0, none⟩ (.int .i64 u)) (some g) from K.setFrom_grown (g := w0.heap.size) [.int .i64 u] 0 G7.out (by omega))
  have D8 := Lib.hid (show (w7.setCell ⟨w0.heap.size, 0, none⟩ (.int .i64 u)).ownsRow _ 5 1 _ _ _ from own_grown D7.out (K.setFrom_selfE [.int .i64 u] w7 w0.heap.size 0) (fun k hk e => by cases e; have := ND.out _ hk; omega))
  have S8 := Lib.hid (show (w7.setCell ⟨w0.heap.size, 0, none⟩ (.int .i64 u)).ownsRow _ 5 1 _ _ _ from own_grown S7.out (K.setFrom_selfE [.int .i64 u] w7 w0.heap.size 0) (fun k hk e => by cases e; have := NS.out _ hk; omega))
  go_wp2_with (first | (with_reducible refine loadF rfl _ rfl w0.heap.size rfl Q8.out ?_) | (with_reducible refine storeF rfl _ _ rfl w.heap.size rfl rfl R8.out ?_))
  (try simp only [Exit.inBlock, Exit.then])
  refine bodyPost_ret (v := .agg #[.int .i64 u, .int .i64 x.ecn, .int .i64 x.id, .int .i64 x.flags, .int .i64 x.frag, .int .i64 x.ttl, .int .i64 x.proto, .int .i64 x.src.k, .int .i64 x.src.a, .int .i64 x.src.b, .int .i64 x.src.c, .int .i64 x.src.d, .int .i64 x.dst.k, .int .i64 x.dst.a, .int .i64 x.dst.b, .int .i64 x.dst.c, .int .i64 x.dst.d, .slice O os.length oc, .slice D ds.length d]) ?_ rfl ⟨O, oc, D, d, rfl, ?_, ?_, ?_, ?_⟩
  · exact resF Try.results74 _ _ w.heap.size rfl (setRow_heap _ _ _ _ _ _ R8.out)
  · have this := own_base (base' := w.heap.size) (K.setRow_own (g := w.heap.size) #[.int .i64 u, .int .i64 x.ecn, .int .i64 x.id, .int .i64 x.flags, .int .i64 x.frag, .int .i64 x.ttl, .int .i64 x.proto, .int .i64 x.src.k, .int .i64 x.src.a, .int .i64 x.src.b, .int .i64 x.src.c, .int .i64 x.src.d, .int .i64 x.dst.k, .int .i64 x.dst.a, .int .i64 x.dst.b, .int .i64 x.dst.c, .int .i64 x.dst.d, .slice O os.length oc, .slice D ds.length d] S8.out (by omega)) (by omega)
    exact this
  · have this := own_base (base' := w.heap.size) (K.setRow_own (g := w.heap.size) #[.int .i64 u, .int .i64 x.ecn, .int .i64 x.id, .int .i64 x.flags, .int .i64 x.frag, .int .i64 x.ttl, .int .i64 x.proto, .int .i64 x.src.k, .int .i64 x.src.a, .int .i64 x.src.b, .int .i64 x.src.c, .int .i64 x.src.d, .int .i64 x.dst.k, .int .i64 x.dst.a, .int .i64 x.dst.b, .int .i64 x.dst.c, .int .i64 x.dst.d, .slice O os.length oc, .slice D ds.length d] D8.out (by omega)) (by omega)
    exact this
  · exact C8.out.grownBy (K.setRow_grown _ _ _) (fun u hu => by cases hu; omega)
  · exact grown_other G8.out (K.setRow_grown _ _ _) (fun u hu => by cases hu; omega)

set_option maxHeartbeats 4000000 in
theorem badFour_1 (bs : List UInt8) (t s : Nat) (ht : t ≤ 700000000000) (x : Fh) (os : List UInt8) (t1 s1 : Nat) (hos : os.length ≤ 40) (ht1 : t1 ≤ t + 100) (HF : Hid (∀ (w : World) (g : Nat) (A : Option Addr) (c : Nat), CurS w g A c bs t s → Calls Try.prog 99 #[.pointer (some ⟨g, 0, none⟩)] w (GivesFour w g A c bs t1 s1 x os [])))
    (ds : List UInt8) (t2 s2 : Nat) (hds : ds.length ≤ 50) (ht2 : t2 ≤ t1 + 50 + 1) (HB : Hid (∀ (w : World) (g : Nat) (A : Option Addr) (c : Nat), CurS w g A c bs t1 s1 → Calls Try.prog 95 #[.pointer (some ⟨g, 0, none⟩), .int .i64 (50 : Int)] w (GivesB w g A c bs t2 s2 ds))) (k : Int) (s3 : Nat) (hk : k = 1) (HK : Hid (∀ (w : World) (g : Nat) (A : Option Addr) (c : Nat), CurS w g A c bs t2 s2 → Calls Try.prog 96 #[.pointer (some ⟨g, 0, none⟩), .int .i64 12] w (Gives w g A c bs (t2 + 1) s3 k))) :
    ∃ (x : Fh) (os ds : List UInt8) (t' s' : Nat), os.length ≤ 45 ∧ ds.length ≤ 1480 ∧ ∀ (w : World) (g : Nat) (A : Option Addr) (c : Nat), CurS w g A c bs t s → Calls Try.prog 74 #[.pointer (some ⟨g, 0, none⟩)] w (GivesFour w g A c bs t' s' x os ds) := by
  subst hk
  obtain ⟨z, s4, hd⟩ := rawE bs (t2 + 1) s3 (by omega)
  have H4 := Lib.hid hd
  clear hd
  obtain ⟨q, s5, loq, upq, hd⟩ := pickE bs (t2 + 1 + 2) s4 2 (by omega) (by omega) (by omega)
  have H5 := Lib.hid hd
  clear hd
  obtain ⟨y, rfl⟩ : ∃ k : Nat, q = k := ⟨q.toNat, by omega⟩
  obtain ⟨u, hu⟩ : ∃ a, ([z, (4 : Int)] : List Int)[y]? = some a := ⟨_, List.getElem?_eq_getElem (by simp; omega)⟩
  have HU := Lib.hid hu
  clear hu
  refine ⟨⟨x.dscp, u, x.id, x.flags, x.frag, x.ttl, x.proto, ⟨x.src.k, x.src.a, x.src.b, x.src.c, x.src.d⟩, ⟨x.dst.k, x.dst.a, x.dst.b, x.dst.c, x.dst.d⟩⟩, os, ds, t2 + 1 + 2 + 1, s5, by omega, by omega, fun w g A c hc0 => ?_⟩
  have hgl := hc0.lt
  have CUR0 := Lib.hid (hc0.below (Joins.below_alloc1 w (.cells #[.int .i64 0, .int .i64 0, .int .i64 0, .int .i64 0, .int .i64 0, .int .i64 0, .int .i64 0, .int .i64 0, .int .i64 0, .int .i64 0, .int .i64 0, .int .i64 0, .int .i64 0, .int .i64 0, .int .i64 0, .int .i64 0, .int .i64 0, .slice none 0 0, .slice none 0 0] 52)))
  have r0 := Lib.hid (K.new w (.cells #[.int .i64 0, .int .i64 0, .int .i64 0, .int .i64 0, .int .i64 0, .int .i64 0, .int .i64 0, .int .i64 0, .int .i64 0, .int .i64 0, .int .i64 0, .int .i64 0, .int .i64 0, .int .i64 0, .int .i64 0, .int .i64 0, .int .i64 0, .slice none 0 0, .slice none 0 0] 52))
  clear hc0
  go_enter Try.func74, Try.ntmps74
  go_wp2_with fail
  refine Calls.mono (HF.out _ g A c CUR0.out) ?_
  rintro e w0 ⟨O, oc, D0, dc0, rfl, o0, _, hc2, hg2⟩
  have hb4 : w.heap.size + 1 ≤ w0.heap.size := by have := hg2.size; simpa using this
  have Q1 : Hid ((w0.alloc (.cells #[.int .i64 x.dscp, .int .i64 x.ecn, .int .i64 x.id, .int .i64 x.flags, .int .i64 x.frag, .int .i64 x.ttl, .int .i64 x.proto, .int .i64 x.src.k, .int .i64 x.src.a, .int .i64 x.src.b, .int .i64 x.src.c, .int .i64 x.src.d, .int .i64 x.dst.k, .int .i64 x.dst.a, .int .i64 x.dst.b, .int .i64 x.dst.c, .int .i64 x.dst.d, .slice O os.length oc, .slice D0 ([] : List UInt8).length dc0] 52)).heap[w0.heap.size]? = some (.cells #[.int .i64 x.dscp, .int .i64 x.ecn, .int .i64 x.id, .int .i64 x.flags, .int .i64 x.frag, .int .i64 x.ttl, .int .i64 x.proto, .int .i64 x.src.k, .int .i64 x.src.a, .int .i64 x.src.b, .int .i64 x.src.c, .int .i64 x.src.d, .int .i64 x.dst.k, .int .i64 x.dst.a, .int .i64 x.dst.b, .int .i64 x.dst.c, .int .i64 x.dst.d, .slice O os.length oc, .slice D0 ([] : List UInt8).length dc0] 52 (0, 0))) := Lib.hid (K.new w0 _)
  have R1 := Lib.hid (K.old (K.kept hg2 r0.out (fun k hk => by cases hk; omega)) (.cells #[.int .i64 x.dscp, .int .i64 x.ecn, .int .i64 x.id, .int .i64 x.flags, .int .i64 x.frag, .int .i64 x.ttl, .int .i64 x.proto, .int .i64 x.src.k, .int .i64 x.src.a, .int .i64 x.src.b, .int .i64 x.src.c, .int .i64 x.src.d, .int .i64 x.dst.k, .int .i64 x.dst.a, .int .i64 x.dst.b, .int .i64 x.dst.c, .int .i64 x.dst.d, .slice O os.length oc, .slice D0 ([] : List UInt8).length dc0] 52))
  have C1 := Lib.hid (hc2.below (Joins.below_alloc1 w0 (.cells #[.int .i64 x.dscp, .int .i64 x.ecn, .int .i64 x.id, .int .i64 x.flags, .int .i64 x.frag, .int .i64 x.ttl, .int .i64 x.proto, .int .i64 x.src.k, .int .i64 x.src.a, .int .i64 x.src.b, .int .i64 x.src.c, .int .i64 x.src.d, .int .i64 x.dst.k, .int .i64 x.dst.a, .int .i64 x.dst.b, .int .i64 x.dst.c, .int .i64 x.dst.d, .slice O os.length oc, .slice D0 ([] : List UInt8).length dc0] 52)))
  have G1 := Lib.hid (only_new (grownBy_trans (only_new (K.refl w (some g)) (.cells #[.int .i64 0, .int .i64 0, .int .i64 0, .int .i64 0, .int .i64 0, .int .i64 0, .int .i64 0, .int .i64 0, .int .i64 0, .int .i64 0, .int .i64 0, .int .i64 0, .int .i64 0, .int .i64 0, .int .i64 0, .int .i64 0, .int .i64 0, .slice none 0 0, .slice none 0 0] 52)) hg2) (.cells #[.int .i64 x.dscp, .int .i64 x.ecn, .int .i64 x.id, .int .i64 x.flags, .int .i64 x.frag, .int .i64 x.ttl, .int .i64 x.proto, .int .i64 x.src.k, .int .i64 x.src.a, .int .i64 x.src.b, .int .i64 x.src.c, .int .i64 x.src.d, .int .i64 x.dst.k, .int .i64 x.dst.a, .int .i64 x.dst.b, .int .i64 x.dst.c, .int .i64 x.dst.d, .slice O os.length oc, .slice D0 ([] : List UInt8).length dc0] 52))
  have S1 := Lib.hid (World.ownsRow.alloc (own_base o0 (show w.heap.size + 1 ≤ _ by simp)) (.cells #[.int .i64 x.dscp, .int .i64 x.ecn, .int .i64 x.id, .int .i64 x.flags, .int .i64 x.frag, .int .i64 x.ttl, .int .i64 x.proto, .int .i64 x.src.k, .int .i64 x.src.a, .int .i64 x.src.b, .int .i64 x.src.c, .int .i64 x.src.d, .int .i64 x.dst.k, .int .i64 x.dst.a, .int .i64 x.dst.b, .int .i64 x.dst.c, .int .i64 x.dst.d, .slice O os.length oc, .slice D0 ([] : List UInt8).length dc0] 52))
  have NS := Lib.hid (show ∀ k, (Value.slice O os.length oc).ownBlock = some k → k ≠ w0.heap.size from fun k hk => by have := (o0.lt k hk).2; omega)
  clear hc2 hg2 o0 CUR0 r0
  go_wp2_with (with_reducible refine storeNewF rfl _ _ rfl rfl rfl ?_)
  refine Calls.mono (HB.out _ g A c C1.out) ?_
  rintro e w2 ⟨D, d, rfl, o2, hc2, hg2⟩
  have Q2 := Lib.hid (K.kept hg2 Q1.out (fun k hk => by cases hk; omega))
  have R2 := Lib.hid (K.kept hg2 R1.out (fun k hk => by cases hk; omega))
  have C2 := Lib.hid hc2
  have G2 := Lib.hid (grownBy_trans G1.out hg2)
  have S2 := Lib.hid (own_grown S1.out hg2 (fun k hk e => by have := (S1.out.lt k hk).1; cases e; omega))
  have D2 := Lib.hid (own_base o2 (show w0.heap.size + 1 ≤ _ by simp))
  have ND := Lib.hid (show ∀ k, (Value.slice D ds.length d).ownBlock = some k → k ≠ w0.heap.size from fun k hk => by have := (D2.out.lt k hk).1; omega)
  clear hc2 hg2 o2 Q1 R1 C1 G1 S1
  have c18 := K.cell Q2.out 18 _ rfl
  have f18 := frozen_of_row _ _ 18 _ _ Q2.out
  have Q3 : Hid ((w2.setCell ⟨w0.heap.size, 18, none⟩ (.slice D ds.length d)).heap[w0.heap.size]? = some (.cells #[.int .i64 x.dscp, .int .i64 x.ecn, .int .i64 x.id, .int .i64 x.flags, .int .i64 x.frag, .int .i64 x.ttl, .int .i64 x.proto, .int .i64 x.src.k, .int .i64 x.src.a, .int .i64 x.src.b, .int .i64 x.src.c, .int .i64 x.src.d, .int .i64 x.dst.k, .int .i64 x.dst.a, .int .i64 x.dst.b, .int .i64 x.dst.c, .int .i64 x.dst.d, .slice O os.length oc, .slice D ds.length d] 52 (0, 0))) := Lib.hid (K.set (Q2.out) 18 (.slice D ds.length d))
  have R3 : Hid ((w2.setCell ⟨w0.heap.size, 18, none⟩ (.slice D ds.length d)).heap[w.heap.size]? = some (.cells #[.int .i64 0, .int .i64 0, .int .i64 0, .int .i64 0, .int .i64 0, .int .i64 0, .int .i64 0, .int .i64 0, .int .i64 0, .int .i64 0, .int .i64 0, .int .i64 0, .int .i64 0, .int .i64 0, .int .i64 0, .int .i64 0, .int .i64 0, .slice none 0 0, .slice none 0 0] 52 (0, 0))) := Lib.hid (K.setFrom_other [.slice D ds.length d] 18 R2.out (show w.heap.size ≠ w0.heap.size by omega))
  have C3 := Lib.hid (show CurS (w2.setCell ⟨w0.heap.size, 18, none⟩ (.slice D ds.length d)) g A c bs _ _ from C2.out.grownBy (K.setFrom_selfE [.slice D ds.length d] w2 w0.heap.size 18) (fun u hu => by cases hu; omega))
  have G3 := Lib.hid (show w.grownBy (w2.setCell ⟨w0.heap.size, 18, none⟩ (.slice D ds.length d)) (some g) from K.setFrom_grown (g := w0.heap.size) [.slice D ds.length d] 18 G2.out (by omega))
  have D3 := Lib.hid (show (w2.setCell ⟨w0.heap.size, 18, none⟩ (.slice D ds.length d)).ownsRow _ 5 1 _ _ _ from own_grown D2.out (K.setFrom_selfE [.slice D ds.length d] w2 w0.heap.size 18) (fun k hk e => by cases e; have := ND.out _ hk; omega))
  have S3 := Lib.hid (show (w2.setCell ⟨w0.heap.size, 18, none⟩ (.slice D ds.length d)).ownsRow _ 5 1 _ _ _ from own_grown S2.out (K.setFrom_selfE [.slice D ds.length d] w2 w0.heap.size 18) (fun k hk e => by cases e; have := NS.out _ hk; omega))
  go_wp2_with fail
  clear c18 f18 Q2 R2 C2 G2 D2 S2
  refine Calls.mono (HK.out _ g A c C3.out) ?_
  rintro e w4 ⟨rfl, hc2, hg2⟩
  have Q4 := Lib.hid (K.kept hg2 Q3.out (fun k hk => by cases hk; omega))
  have R4 := Lib.hid (K.kept hg2 R3.out (fun k hk => by cases hk; omega))
  have C4 := Lib.hid hc2
  have G4 := Lib.hid (grownBy_trans G3.out hg2)
  have D4 := Lib.hid (own_grown D3.out hg2 (fun k hk e => by have := (D3.out.lt k hk).1; cases e; omega))
  have S4 := Lib.hid (own_grown S3.out hg2 (fun k hk e => by have := (S3.out.lt k hk).1; cases e; omega))
  clear hc2 hg2 Q3 R3 C3 G3 D3 S3
  go_wp2_with fail
  refine Calls.mono (H4.out _ g A c C4.out) ?_
  rintro e w5 ⟨rfl, hc2, hg2⟩
  have Q5 := Lib.hid (K.kept hg2 Q4.out (fun k hk => by cases hk; omega))
  have R5 := Lib.hid (K.kept hg2 R4.out (fun k hk => by cases hk; omega))
  have C5 := Lib.hid hc2
  have G5 := Lib.hid (grownBy_trans G4.out hg2)
  have D5 := Lib.hid (own_grown D4.out hg2 (fun k hk e => by have := (D4.out.lt k hk).1; cases e; omega))
  have S5 := Lib.hid (own_grown S4.out hg2 (fun k hk e => by have := (S4.out.lt k hk).1; cases e; omega))
  clear hc2 hg2 Q4 R4 C4 G4 D4 S4
  have gk := C5.out.lt
  have Q6 := Lib.hid (K.old Q5.out (.cells #[.int .i64 z, .int .i64 4] 3))
  have R6 := Lib.hid (K.old R5.out (.cells #[.int .i64 z, .int .i64 4] 3))
  have C6 := Lib.hid (C5.out.below (Joins.below_alloc1 w5 (.cells #[.int .i64 z, .int .i64 4] 3)))
  have G6 := Lib.hid (only_new G5.out (.cells #[.int .i64 z, .int .i64 4] 3))
  have D6 := Lib.hid (World.ownsRow.alloc D5.out (.cells #[.int .i64 z, .int .i64 4] 3))
  have S6 := Lib.hid (World.ownsRow.alloc S5.out (.cells #[.int .i64 z, .int .i64 4] 3))
  go_wp2_with fail
  clear Q5 R5 C5 G5 D5 S5
  refine Calls.mono (H5.out _ g A c C6.out) ?_
  rintro e w7 ⟨rfl, hc2, hg2⟩
  have Q7 := Lib.hid (K.kept hg2 Q6.out (fun k hk => by cases hk; omega))
  have R7 := Lib.hid (K.kept hg2 R6.out (fun k hk => by cases hk; omega))
  have C7 := Lib.hid hc2
  have G7 := Lib.hid (grownBy_trans G6.out hg2)
  have D7 := Lib.hid (own_grown D6.out hg2 (fun k hk e => by have := (D6.out.lt k hk).1; cases e; omega))
  have S7 := Lib.hid (own_grown S6.out hg2 (fun k hk e => by have := (S6.out.lt k hk).1; cases e; omega))
  have cf := hg2.cell (K.row_cells w5 [z, 4] _ rfl 3 y u HU.out) (fun e => by have e2 : w5.heap.size = g := Option.some.inj e; omega)
  clear hc2 hg2 Q6 R6 C6 G6 D6 S6
  have c1 := K.cell Q7.out 1 _ rfl
  have f1 := frozen_of_row _ _ 1 _ _ Q7.out
  have Q8 : Hid ((w7.setCell ⟨w0.heap.size, 1, none⟩ (.int .i64 u)).heap[w0.heap.size]? = some (.cells #[.int .i64 x.dscp, .int .i64 u, .int .i64 x.id, .int .i64 x.flags, .int .i64 x.frag, .int .i64 x.ttl, .int .i64 x.proto, .int .i64 x.src.k, .int .i64 x.src.a, .int .i64 x.src.b, .int .i64 x.src.c, .int .i64 x.src.d, .int .i64 x.dst.k, .int .i64 x.dst.a, .int .i64 x.dst.b, .int .i64 x.dst.c, .int .i64 x.dst.d, .slice O os.length oc, .slice D ds.length d] 52 (0, 0))) := Lib.hid (K.set (Q7.out) 1 (.int .i64 u))
  have R8 : Hid ((w7.setCell ⟨w0.heap.size, 1, none⟩ (.int .i64 u)).heap[w.heap.size]? = some (.cells #[.int .i64 0, .int .i64 0, .int .i64 0, .int .i64 0, .int .i64 0, .int .i64 0, .int .i64 0, .int .i64 0, .int .i64 0, .int .i64 0, .int .i64 0, .int .i64 0, .int .i64 0, .int .i64 0, .int .i64 0, .int .i64 0, .int .i64 0, .slice none 0 0, .slice none 0 0] 52 (0, 0))) := Lib.hid (K.setFrom_other [.int .i64 u] 1 R7.out (show w.heap.size ≠ w0.heap.size by omega))
  have C8 := Lib.hid (show CurS (w7.setCell ⟨w0.heap.size, 1, none⟩ (.int .i64 u)) g A c bs _ _ from C7.out.grownBy (K.setFrom_selfE [.int .i64 u] w7 w0.heap.size 1) (fun u hu => by cases hu; omega))
  have G8 := Lib.hid (show w.grownBy (w7.setCell ⟨w0.heap.size, 1, none⟩ (.int .i64 u)) (some g) from K.setFrom_grown (g := w0.heap.size) [.int .i64 u] 1 G7.out (by omega))
  have D8 := Lib.hid (show (w7.setCell ⟨w0.heap.size, 1, none⟩ (.int .i64 u)).ownsRow _ 5 1 _ _ _ from own_grown D7.out (K.setFrom_selfE [.int .i64 u] w7 w0.heap.size 1) (fun k hk e => by cases e; have := ND.out _ hk; omega))
  have S8 := Lib.hid (show (w7.setCell ⟨w0.heap.size, 1, none⟩ (.int .i64 u)).ownsRow _ 5 1 _ _ _ from own_grown S7.out (K.setFrom_selfE [.int .i64 u] w7 w0.heap.size 1) (fun k hk e => by cases e; have := NS.out _ hk; omega))
  go_wp2_with (first | (with_reducible refine loadF rfl _ rfl w0.heap.size rfl Q8.out ?_) | (with_reducible refine storeF rfl _ _ rfl w.heap.size rfl rfl R8.out ?_))
  (try simp only [Exit.inBlock, Exit.then])
  refine bodyPost_ret (v := .agg #[.int .i64 x.dscp, .int .i64 u, .int .i64 x.id, .int .i64 x.flags, .int .i64 x.frag, .int .i64 x.ttl, .int .i64 x.proto, .int .i64 x.src.k, .int .i64 x.src.a, .int .i64 x.src.b, .int .i64 x.src.c, .int .i64 x.src.d, .int .i64 x.dst.k, .int .i64 x.dst.a, .int .i64 x.dst.b, .int .i64 x.dst.c, .int .i64 x.dst.d, .slice O os.length oc, .slice D ds.length d]) ?_ rfl ⟨O, oc, D, d, rfl, ?_, ?_, ?_, ?_⟩
  · exact resF Try.results74 _ _ w.heap.size rfl (setRow_heap _ _ _ _ _ _ R8.out)
  · have this := own_base (base' := w.heap.size) (K.setRow_own (g := w.heap.size) #[.int .i64 x.dscp, .int .i64 u, .int .i64 x.id, .int .i64 x.flags, .int .i64 x.frag, .int .i64 x.ttl, .int .i64 x.proto, .int .i64 x.src.k, .int .i64 x.src.a, .int .i64 x.src.b, .int .i64 x.src.c, .int .i64 x.src.d, .int .i64 x.dst.k, .int .i64 x.dst.a, .int .i64 x.dst.b, .int .i64 x.dst.c, .int .i64 x.dst.d, .slice O os.length oc, .slice D ds.length d] S8.out (by omega)) (by omega)
    exact this
  · have this := own_base (base' := w.heap.size) (K.setRow_own (g := w.heap.size) #[.int .i64 x.dscp, .int .i64 u, .int .i64 x.id, .int .i64 x.flags, .int .i64 x.frag, .int .i64 x.ttl, .int .i64 x.proto, .int .i64 x.src.k, .int .i64 x.src.a, .int .i64 x.src.b, .int .i64 x.src.c, .int .i64 x.src.d, .int .i64 x.dst.k, .int .i64 x.dst.a, .int .i64 x.dst.b, .int .i64 x.dst.c, .int .i64 x.dst.d, .slice O os.length oc, .slice D ds.length d] D8.out (by omega)) (by omega)
    exact this
  · exact C8.out.grownBy (K.setRow_grown _ _ _) (fun u hu => by cases hu; omega)
  · exact grown_other G8.out (K.setRow_grown _ _ _) (fun u hu => by cases hu; omega)

set_option maxHeartbeats 4000000 in
theorem badFour_2 (bs : List UInt8) (t s : Nat) (ht : t ≤ 700000000000) (x : Fh) (os : List UInt8) (t1 s1 : Nat) (hos : os.length ≤ 40) (ht1 : t1 ≤ t + 100) (HF : Hid (∀ (w : World) (g : Nat) (A : Option Addr) (c : Nat), CurS w g A c bs t s → Calls Try.prog 99 #[.pointer (some ⟨g, 0, none⟩)] w (GivesFour w g A c bs t1 s1 x os [])))
    (ds : List UInt8) (t2 s2 : Nat) (hds : ds.length ≤ 50) (ht2 : t2 ≤ t1 + 50 + 1) (HB : Hid (∀ (w : World) (g : Nat) (A : Option Addr) (c : Nat), CurS w g A c bs t1 s1 → Calls Try.prog 95 #[.pointer (some ⟨g, 0, none⟩), .int .i64 (50 : Int)] w (GivesB w g A c bs t2 s2 ds))) (k : Int) (s3 : Nat) (hk : k = 2) (HK : Hid (∀ (w : World) (g : Nat) (A : Option Addr) (c : Nat), CurS w g A c bs t2 s2 → Calls Try.prog 96 #[.pointer (some ⟨g, 0, none⟩), .int .i64 12] w (Gives w g A c bs (t2 + 1) s3 k))) :
    ∃ (x : Fh) (os ds : List UInt8) (t' s' : Nat), os.length ≤ 45 ∧ ds.length ≤ 1480 ∧ ∀ (w : World) (g : Nat) (A : Option Addr) (c : Nat), CurS w g A c bs t s → Calls Try.prog 74 #[.pointer (some ⟨g, 0, none⟩)] w (GivesFour w g A c bs t' s' x os ds) := by
  subst hk
  obtain ⟨z, s4, hd⟩ := rawE bs (t2 + 1) s3 (by omega)
  have H4 := Lib.hid hd
  clear hd
  obtain ⟨q, s5, loq, upq, hd⟩ := pickE bs (t2 + 1 + 2) s4 2 (by omega) (by omega) (by omega)
  have H5 := Lib.hid hd
  clear hd
  obtain ⟨y, rfl⟩ : ∃ k : Nat, q = k := ⟨q.toNat, by omega⟩
  obtain ⟨u, hu⟩ : ∃ a, ([z, (8192 : Int)] : List Int)[y]? = some a := ⟨_, List.getElem?_eq_getElem (by simp; omega)⟩
  have HU := Lib.hid hu
  clear hu
  refine ⟨⟨x.dscp, x.ecn, x.id, x.flags, u, x.ttl, x.proto, ⟨x.src.k, x.src.a, x.src.b, x.src.c, x.src.d⟩, ⟨x.dst.k, x.dst.a, x.dst.b, x.dst.c, x.dst.d⟩⟩, os, ds, t2 + 1 + 2 + 1, s5, by omega, by omega, fun w g A c hc0 => ?_⟩
  have hgl := hc0.lt
  have CUR0 := Lib.hid (hc0.below (Joins.below_alloc1 w (.cells #[.int .i64 0, .int .i64 0, .int .i64 0, .int .i64 0, .int .i64 0, .int .i64 0, .int .i64 0, .int .i64 0, .int .i64 0, .int .i64 0, .int .i64 0, .int .i64 0, .int .i64 0, .int .i64 0, .int .i64 0, .int .i64 0, .int .i64 0, .slice none 0 0, .slice none 0 0] 52)))
  have r0 := Lib.hid (K.new w (.cells #[.int .i64 0, .int .i64 0, .int .i64 0, .int .i64 0, .int .i64 0, .int .i64 0, .int .i64 0, .int .i64 0, .int .i64 0, .int .i64 0, .int .i64 0, .int .i64 0, .int .i64 0, .int .i64 0, .int .i64 0, .int .i64 0, .int .i64 0, .slice none 0 0, .slice none 0 0] 52))
  clear hc0
  go_enter Try.func74, Try.ntmps74
  go_wp2_with fail
  refine Calls.mono (HF.out _ g A c CUR0.out) ?_
  rintro e w0 ⟨O, oc, D0, dc0, rfl, o0, _, hc2, hg2⟩
  have hb4 : w.heap.size + 1 ≤ w0.heap.size := by have := hg2.size; simpa using this
  have Q1 : Hid ((w0.alloc (.cells #[.int .i64 x.dscp, .int .i64 x.ecn, .int .i64 x.id, .int .i64 x.flags, .int .i64 x.frag, .int .i64 x.ttl, .int .i64 x.proto, .int .i64 x.src.k, .int .i64 x.src.a, .int .i64 x.src.b, .int .i64 x.src.c, .int .i64 x.src.d, .int .i64 x.dst.k, .int .i64 x.dst.a, .int .i64 x.dst.b, .int .i64 x.dst.c, .int .i64 x.dst.d, .slice O os.length oc, .slice D0 ([] : List UInt8).length dc0] 52)).heap[w0.heap.size]? = some (.cells #[.int .i64 x.dscp, .int .i64 x.ecn, .int .i64 x.id, .int .i64 x.flags, .int .i64 x.frag, .int .i64 x.ttl, .int .i64 x.proto, .int .i64 x.src.k, .int .i64 x.src.a, .int .i64 x.src.b, .int .i64 x.src.c, .int .i64 x.src.d, .int .i64 x.dst.k, .int .i64 x.dst.a, .int .i64 x.dst.b, .int .i64 x.dst.c, .int .i64 x.dst.d, .slice O os.length oc, .slice D0 ([] : List UInt8).length dc0] 52 (0, 0))) := Lib.hid (K.new w0 _)
  have R1 := Lib.hid (K.old (K.kept hg2 r0.out (fun k hk => by cases hk; omega)) (.cells #[.int .i64 x.dscp, .int .i64 x.ecn, .int .i64 x.id, .int .i64 x.flags, .int .i64 x.frag, .int .i64 x.ttl, .int .i64 x.proto, .int .i64 x.src.k, .int .i64 x.src.a, .int .i64 x.src.b, .int .i64 x.src.c, .int .i64 x.src.d, .int .i64 x.dst.k, .int .i64 x.dst.a, .int .i64 x.dst.b, .int .i64 x.dst.c, .int .i64 x.dst.d, .slice O os.length oc, .slice D0 ([] : List UInt8).length dc0] 52))
  have C1 := Lib.hid (hc2.below (Joins.below_alloc1 w0 (.cells #[.int .i64 x.dscp, .int .i64 x.ecn, .int .i64 x.id, .int .i64 x.flags, .int .i64 x.frag, .int .i64 x.ttl, .int .i64 x.proto, .int .i64 x.src.k, .int .i64 x.src.a, .int .i64 x.src.b, .int .i64 x.src.c, .int .i64 x.src.d, .int .i64 x.dst.k, .int .i64 x.dst.a, .int .i64 x.dst.b, .int .i64 x.dst.c, .int .i64 x.dst.d, .slice O os.length oc, .slice D0 ([] : List UInt8).length dc0] 52)))
  have G1 := Lib.hid (only_new (grownBy_trans (only_new (K.refl w (some g)) (.cells #[.int .i64 0, .int .i64 0, .int .i64 0, .int .i64 0, .int .i64 0, .int .i64 0, .int .i64 0, .int .i64 0, .int .i64 0, .int .i64 0, .int .i64 0, .int .i64 0, .int .i64 0, .int .i64 0, .int .i64 0, .int .i64 0, .int .i64 0, .slice none 0 0, .slice none 0 0] 52)) hg2) (.cells #[.int .i64 x.dscp, .int .i64 x.ecn, .int .i64 x.id, .int .i64 x.flags, .int .i64 x.frag, .int .i64 x.ttl, .int .i64 x.proto, .int .i64 x.src.k, .int .i64 x.src.a, .int .i64 x.src.b, .int .i64 x.src.c, .int .i64 x.src.d, .int .i64 x.dst.k, .int .i64 x.dst.a, .int .i64 x.dst.b, .int .i64 x.dst.c, .int .i64 x.dst.d, .slice O os.length oc, .slice D0 ([] : List UInt8).length dc0] 52))
  have S1 := Lib.hid (World.ownsRow.alloc (own_base o0 (show w.heap.size + 1 ≤ _ by simp)) (.cells #[.int .i64 x.dscp, .int .i64 x.ecn, .int .i64 x.id, .int .i64 x.flags, .int .i64 x.frag, .int .i64 x.ttl, .int .i64 x.proto, .int .i64 x.src.k, .int .i64 x.src.a, .int .i64 x.src.b, .int .i64 x.src.c, .int .i64 x.src.d, .int .i64 x.dst.k, .int .i64 x.dst.a, .int .i64 x.dst.b, .int .i64 x.dst.c, .int .i64 x.dst.d, .slice O os.length oc, .slice D0 ([] : List UInt8).length dc0] 52))
  have NS := Lib.hid (show ∀ k, (Value.slice O os.length oc).ownBlock = some k → k ≠ w0.heap.size from fun k hk => by have := (o0.lt k hk).2; omega)
  clear hc2 hg2 o0 CUR0 r0
  go_wp2_with (with_reducible refine storeNewF rfl _ _ rfl rfl rfl ?_)
  refine Calls.mono (HB.out _ g A c C1.out) ?_
  rintro e w2 ⟨D, d, rfl, o2, hc2, hg2⟩
  have Q2 := Lib.hid (K.kept hg2 Q1.out (fun k hk => by cases hk; omega))
  have R2 := Lib.hid (K.kept hg2 R1.out (fun k hk => by cases hk; omega))
  have C2 := Lib.hid hc2
  have G2 := Lib.hid (grownBy_trans G1.out hg2)
  have S2 := Lib.hid (own_grown S1.out hg2 (fun k hk e => by have := (S1.out.lt k hk).1; cases e; omega))
  have D2 := Lib.hid (own_base o2 (show w0.heap.size + 1 ≤ _ by simp))
  have ND := Lib.hid (show ∀ k, (Value.slice D ds.length d).ownBlock = some k → k ≠ w0.heap.size from fun k hk => by have := (D2.out.lt k hk).1; omega)
  clear hc2 hg2 o2 Q1 R1 C1 G1 S1
  have c18 := K.cell Q2.out 18 _ rfl
  have f18 := frozen_of_row _ _ 18 _ _ Q2.out
  have Q3 : Hid ((w2.setCell ⟨w0.heap.size, 18, none⟩ (.slice D ds.length d)).heap[w0.heap.size]? = some (.cells #[.int .i64 x.dscp, .int .i64 x.ecn, .int .i64 x.id, .int .i64 x.flags, .int .i64 x.frag, .int .i64 x.ttl, .int .i64 x.proto, .int .i64 x.src.k, .int .i64 x.src.a, .int .i64 x.src.b, .int .i64 x.src.c, .int .i64 x.src.d, .int .i64 x.dst.k, .int .i64 x.dst.a, .int .i64 x.dst.b, .int .i64 x.dst.c, .int .i64 x.dst.d, .slice O os.length oc, .slice D ds.length d] 52 (0, 0))) := Lib.hid (K.set (Q2.out) 18 (.slice D ds.length d))
  have R3 : Hid ((w2.setCell ⟨w0.heap.size, 18, none⟩ (.slice D ds.length d)).heap[w.heap.size]? = some (.cells #[.int .i64 0, .int .i64 0, .int .i64 0, .int .i64 0, .int .i64 0, .int .i64 0, .int .i64 0, .int .i64 0, .int .i64 0, .int .i64 0, .int .i64 0, .int .i64 0, .int .i64 0, .int .i64 0, .int .i64 0, .int .i64 0, .int .i64 0, .slice none 0 0, .slice none 0 0] 52 (0, 0))) := Lib.hid (K.setFrom_other [.slice D ds.length d] 18 R2.out (show w.heap.size ≠ w0.heap.size by omega))
  have C3 := Lib.hid (show CurS (w2.setCell ⟨w0.heap.size, 18, none⟩ (.slice D ds.length d)) g A c bs _ _ from C2.out.grownBy (K.setFrom_selfE [.slice D ds.length d] w2 w0.heap.size 18) (fun u hu => by cases hu; omega))
  have G3 := Lib.hid (show w.grownBy (w2.setCell ⟨w0.heap.size, 18, none⟩ (.slice D ds.length d)) (some g) from K.setFrom_grown (g := w0.heap.size) [.slice D ds.length d] 18 G2.out (by omega))
  have D3 := Lib.hid (show (w2.setCell ⟨w0.heap.size, 18, none⟩ (.slice D ds.length d)).ownsRow _ 5 1 _ _ _ from own_grown D2.out (K.setFrom_selfE [.slice D ds.length d] w2 w0.heap.size 18) (fun k hk e => by cases e; have := ND.out _ hk; omega))
  have S3 := Lib.hid (show (w2.setCell ⟨w0.heap.size, 18, none⟩ (.slice D ds.length d)).ownsRow _ 5 1 _ _ _ from own_grown S2.out (K.setFrom_selfE [.slice D ds.length d] w2 w0.heap.size 18) (fun k hk e => by cases e; have := NS.out _ hk; omega))
  go_wp2_with fail
  clear c18 f18 Q2 R2 C2 G2 D2 S2
  refine Calls.mono (HK.out _ g A c C3.out) ?_
  rintro e w4 ⟨rfl, hc2, hg2⟩
  have Q4 := Lib.hid (K.kept hg2 Q3.out (fun k hk => by cases hk; omega))
  have R4 := Lib.hid (K.kept hg2 R3.out (fun k hk => by cases hk; omega))
  have C4 := Lib.hid hc2
  have G4 := Lib.hid (grownBy_trans G3.out hg2)
  have D4 := Lib.hid (own_grown D3.out hg2 (fun k hk e => by have := (D3.out.lt k hk).1; cases e; omega))
  have S4 := Lib.hid (own_grown S3.out hg2 (fun k hk e => by have := (S3.out.lt k hk).1; cases e; omega))
  clear hc2 hg2 Q3 R3 C3 G3 D3 S3
  go_wp2_with fail
  refine Calls.mono (H4.out _ g A c C4.out) ?_
  rintro e w5 ⟨rfl, hc2, hg2⟩
  have Q5 := Lib.hid (K.kept hg2 Q4.out (fun k hk => by cases hk; omega))
  have R5 := Lib.hid (K.kept hg2 R4.out (fun k hk => by cases hk; omega))
  have C5 := Lib.hid hc2
  have G5 := Lib.hid (grownBy_trans G4.out hg2)
  have D5 := Lib.hid (own_grown D4.out hg2 (fun k hk e => by have := (D4.out.lt k hk).1; cases e; omega))
  have S5 := Lib.hid (own_grown S4.out hg2 (fun k hk e => by have := (S4.out.lt k hk).1; cases e; omega))
  clear hc2 hg2 Q4 R4 C4 G4 D4 S4
  have gk := C5.out.lt
  have Q6 := Lib.hid (K.old Q5.out (.cells #[.int .i64 z, .int .i64 8192] 3))
  have R6 := Lib.hid (K.old R5.out (.cells #[.int .i64 z, .int .i64 8192] 3))
  have C6 := Lib.hid (C5.out.below (Joins.below_alloc1 w5 (.cells #[.int .i64 z, .int .i64 8192] 3)))
  have G6 := Lib.hid (only_new G5.out (.cells #[.int .i64 z, .int .i64 8192] 3))
  have D6 := Lib.hid (World.ownsRow.alloc D5.out (.cells #[.int .i64 z, .int .i64 8192] 3))
  have S6 := Lib.hid (World.ownsRow.alloc S5.out (.cells #[.int .i64 z, .int .i64 8192] 3))
  go_wp2_with fail
  clear Q5 R5 C5 G5 D5 S5
  refine Calls.mono (H5.out _ g A c C6.out) ?_
  rintro e w7 ⟨rfl, hc2, hg2⟩
  have Q7 := Lib.hid (K.kept hg2 Q6.out (fun k hk => by cases hk; omega))
  have R7 := Lib.hid (K.kept hg2 R6.out (fun k hk => by cases hk; omega))
  have C7 := Lib.hid hc2
  have G7 := Lib.hid (grownBy_trans G6.out hg2)
  have D7 := Lib.hid (own_grown D6.out hg2 (fun k hk e => by have := (D6.out.lt k hk).1; cases e; omega))
  have S7 := Lib.hid (own_grown S6.out hg2 (fun k hk e => by have := (S6.out.lt k hk).1; cases e; omega))
  have cf := hg2.cell (K.row_cells w5 [z, 8192] _ rfl 3 y u HU.out) (fun e => by have e2 : w5.heap.size = g := Option.some.inj e; omega)
  clear hc2 hg2 Q6 R6 C6 G6 D6 S6
  have c4 := K.cell Q7.out 4 _ rfl
  have f4 := frozen_of_row _ _ 4 _ _ Q7.out
  have Q8 : Hid ((w7.setCell ⟨w0.heap.size, 4, none⟩ (.int .i64 u)).heap[w0.heap.size]? = some (.cells #[.int .i64 x.dscp, .int .i64 x.ecn, .int .i64 x.id, .int .i64 x.flags, .int .i64 u, .int .i64 x.ttl, .int .i64 x.proto, .int .i64 x.src.k, .int .i64 x.src.a, .int .i64 x.src.b, .int .i64 x.src.c, .int .i64 x.src.d, .int .i64 x.dst.k, .int .i64 x.dst.a, .int .i64 x.dst.b, .int .i64 x.dst.c, .int .i64 x.dst.d, .slice O os.length oc, .slice D ds.length d] 52 (0, 0))) := Lib.hid (K.set (Q7.out) 4 (.int .i64 u))
  have R8 : Hid ((w7.setCell ⟨w0.heap.size, 4, none⟩ (.int .i64 u)).heap[w.heap.size]? = some (.cells #[.int .i64 0, .int .i64 0, .int .i64 0, .int .i64 0, .int .i64 0, .int .i64 0, .int .i64 0, .int .i64 0, .int .i64 0, .int .i64 0, .int .i64 0, .int .i64 0, .int .i64 0, .int .i64 0, .int .i64 0, .int .i64 0, .int .i64 0, .slice none 0 0, .slice none 0 0] 52 (0, 0))) := Lib.hid (K.setFrom_other [.int .i64 u] 4 R7.out (show w.heap.size ≠ w0.heap.size by omega))
  have C8 := Lib.hid (show CurS (w7.setCell ⟨w0.heap.size, 4, none⟩ (.int .i64 u)) g A c bs _ _ from C7.out.grownBy (K.setFrom_selfE [.int .i64 u] w7 w0.heap.size 4) (fun u hu => by cases hu; omega))
  have G8 := Lib.hid (show w.grownBy (w7.setCell ⟨w0.heap.size, 4, none⟩ (.int .i64 u)) (some g) from K.setFrom_grown (g := w0.heap.size) [.int .i64 u] 4 G7.out (by omega))
  have D8 := Lib.hid (show (w7.setCell ⟨w0.heap.size, 4, none⟩ (.int .i64 u)).ownsRow _ 5 1 _ _ _ from own_grown D7.out (K.setFrom_selfE [.int .i64 u] w7 w0.heap.size 4) (fun k hk e => by cases e; have := ND.out _ hk; omega))
  have S8 := Lib.hid (show (w7.setCell ⟨w0.heap.size, 4, none⟩ (.int .i64 u)).ownsRow _ 5 1 _ _ _ from own_grown S7.out (K.setFrom_selfE [.int .i64 u] w7 w0.heap.size 4) (fun k hk e => by cases e; have := NS.out _ hk; omega))
  go_wp2_with (first | (with_reducible refine loadF rfl _ rfl w0.heap.size rfl Q8.out ?_) | (with_reducible refine storeF rfl _ _ rfl w.heap.size rfl rfl R8.out ?_))
  (try simp only [Exit.inBlock, Exit.then])
  refine bodyPost_ret (v := .agg #[.int .i64 x.dscp, .int .i64 x.ecn, .int .i64 x.id, .int .i64 x.flags, .int .i64 u, .int .i64 x.ttl, .int .i64 x.proto, .int .i64 x.src.k, .int .i64 x.src.a, .int .i64 x.src.b, .int .i64 x.src.c, .int .i64 x.src.d, .int .i64 x.dst.k, .int .i64 x.dst.a, .int .i64 x.dst.b, .int .i64 x.dst.c, .int .i64 x.dst.d, .slice O os.length oc, .slice D ds.length d]) ?_ rfl ⟨O, oc, D, d, rfl, ?_, ?_, ?_, ?_⟩
  · exact resF Try.results74 _ _ w.heap.size rfl (setRow_heap _ _ _ _ _ _ R8.out)
  · have this := own_base (base' := w.heap.size) (K.setRow_own (g := w.heap.size) #[.int .i64 x.dscp, .int .i64 x.ecn, .int .i64 x.id, .int .i64 x.flags, .int .i64 u, .int .i64 x.ttl, .int .i64 x.proto, .int .i64 x.src.k, .int .i64 x.src.a, .int .i64 x.src.b, .int .i64 x.src.c, .int .i64 x.src.d, .int .i64 x.dst.k, .int .i64 x.dst.a, .int .i64 x.dst.b, .int .i64 x.dst.c, .int .i64 x.dst.d, .slice O os.length oc, .slice D ds.length d] S8.out (by omega)) (by omega)
    exact this
  · have this := own_base (base' := w.heap.size) (K.setRow_own (g := w.heap.size) #[.int .i64 x.dscp, .int .i64 x.ecn, .int .i64 x.id, .int .i64 x.flags, .int .i64 u, .int .i64 x.ttl, .int .i64 x.proto, .int .i64 x.src.k, .int .i64 x.src.a, .int .i64 x.src.b, .int .i64 x.src.c, .int .i64 x.src.d, .int .i64 x.dst.k, .int .i64 x.dst.a, .int .i64 x.dst.b, .int .i64 x.dst.c, .int .i64 x.dst.d, .slice O os.length oc, .slice D ds.length d] D8.out (by omega)) (by omega)
    exact this
  · exact C8.out.grownBy (K.setRow_grown _ _ _) (fun u hu => by cases hu; omega)
  · exact grown_other G8.out (K.setRow_grown _ _ _) (fun u hu => by cases hu; omega)
end Go.Proofs.Ytegpaocoepcemaa

namespace Go.Proofs.Ytegpaocoepcemaa
set_option maxRecDepth 100000
open Go.RowKit

set_option maxHeartbeats 4000000 in
theorem badFour_3 (bs : List UInt8) (t s : Nat) (ht : t ≤ 700000000000) (x : Fh) (os : List UInt8) (t1 s1 : Nat) (hos : os.length ≤ 40) (ht1 : t1 ≤ t + 100) (HF : Hid (∀ (w : World) (g : Nat) (A : Option Addr) (c : Nat), CurS w g A c bs t s → Calls Try.prog 99 #[.pointer (some ⟨g, 0, none⟩)] w (GivesFour w g A c bs t1 s1 x os [])))
    (ds : List UInt8) (t2 s2 : Nat) (hds : ds.length ≤ 50) (ht2 : t2 ≤ t1 + 50 + 1) (HB : Hid (∀ (w : World) (g : Nat) (A : Option Addr) (c : Nat), CurS w g A c bs t1 s1 → Calls Try.prog 95 #[.pointer (some ⟨g, 0, none⟩), .int .i64 (50 : Int)] w (GivesB w g A c bs t2 s2 ds))) (k : Int) (s3 : Nat) (hk : k = 3) (HK : Hid (∀ (w : World) (g : Nat) (A : Option Addr) (c : Nat), CurS w g A c bs t2 s2 → Calls Try.prog 96 #[.pointer (some ⟨g, 0, none⟩), .int .i64 12] w (Gives w g A c bs (t2 + 1) s3 k))) :
    ∃ (x : Fh) (os ds : List UInt8) (t' s' : Nat), os.length ≤ 45 ∧ ds.length ≤ 1480 ∧ ∀ (w : World) (g : Nat) (A : Option Addr) (c : Nat), CurS w g A c bs t s → Calls Try.prog 74 #[.pointer (some ⟨g, 0, none⟩)] w (GivesFour w g A c bs t' s' x os ds) := by
  subst hk
  obtain ⟨y, t4, s4, ht4, hd⟩ := badAddrE bs (t2 + 1) s3 (by omega)
  have H4 := Lib.hid hd
  clear hd
  refine ⟨⟨x.dscp, x.ecn, x.id, x.flags, x.frag, x.ttl, x.proto, ⟨y.k, y.a, y.b, y.c, y.d⟩, ⟨x.dst.k, x.dst.a, x.dst.b, x.dst.c, x.dst.d⟩⟩, os, ds, t4, s4, by omega, by omega, fun w g A c hc0 => ?_⟩
  have hgl := hc0.lt
  have CUR0 := Lib.hid (hc0.below (Joins.below_alloc1 w (.cells #[.int .i64 0, .int .i64 0, .int .i64 0, .int .i64 0, .int .i64 0, .int .i64 0, .int .i64 0, .int .i64 0, .int .i64 0, .int .i64 0, .int .i64 0, .int .i64 0, .int .i64 0, .int .i64 0, .int .i64 0, .int .i64 0, .int .i64 0, .slice none 0 0, .slice none 0 0] 52)))
  have r0 := Lib.hid (K.new w (.cells #[.int .i64 0, .int .i64 0, .int .i64 0, .int .i64 0, .int .i64 0, .int .i64 0, .int .i64 0, .int .i64 0, .int .i64 0, .int .i64 0, .int .i64 0, .int .i64 0, .int .i64 0, .int .i64 0, .int .i64 0, .int .i64 0, .int .i64 0, .slice none 0 0, .slice none 0 0] 52))
  clear hc0
  go_enter Try.func74, Try.ntmps74
  go_wp2_with fail
  refine Calls.mono (HF.out _ g A c CUR0.out) ?_
  rintro e w0 ⟨O, oc, D0, dc0, rfl, o0, _, hc2, hg2⟩
  have hb4 : w.heap.size + 1 ≤ w0.heap.size := by have := hg2.size; simpa using this
  have Q1 : Hid ((w0.alloc (.cells #[.int .i64 x.dscp, .int .i64 x.ecn, .int .i64 x.id, .int .i64 x.flags, .int .i64 x.frag, .int .i64 x.ttl, .int .i64 x.proto, .int .i64 x.src.k, .int .i64 x.src.a, .int .i64 x.src.b, .int .i64 x.src.c, .int .i64 x.src.d, .int .i64 x.dst.k, .int .i64 x.dst.a, .int .i64 x.dst.b, .int .i64 x.dst.c, .int .i64 x.dst.d, .slice O os.length oc, .slice D0 ([] : List UInt8).length dc0] 52)).heap[w0.heap.size]? = some (.cells #[.int .i64 x.dscp, .int .i64 x.ecn, .int .i64 x.id, .int .i64 x.flags, .int .i64 x.frag, .int .i64 x.ttl, .int .i64 x.proto, .int .i64 x.src.k, .int .i64 x.src.a, .int .i64 x.src.b, .int .i64 x.src.c, .int .i64 x.src.d, .int .i64 x.dst.k, .int .i64 x.dst.a, .int .i64 x.dst.b, .int .i64 x.dst.c, .int .i64 x.dst.d, .slice O os.length oc, .slice D0 ([] : List UInt8).length dc0] 52 (0, 0))) := Lib.hid (K.new w0 _)
  have R1 := Lib.hid (K.old (K.kept hg2 r0.out (fun k hk => by cases hk; omega)) (.cells #[.int .i64 x.dscp, .int .i64 x.ecn, .int .i64 x.id, .int .i64 x.flags, .int .i64 x.frag, .int .i64 x.ttl, .int .i64 x.proto, .int .i64 x.src.k, .int .i64 x.src.a, .int .i64 x.src.b, .int .i64 x.src.c, .int .i64 x.src.d, .int .i64 x.dst.k, .int .i64 x.dst.a, .int .i64 x.dst.b, .int .i64 x.dst.c, .int .i64 x.dst.d, .slice O os.length oc, .slice D0 ([] : List UInt8).length dc0] 52))
  have C1 := Lib.hid (hc2.below (Joins.below_alloc1 w0 (.cells #[.int .i64 x.dscp, .int .i64 x.ecn, .int .i64 x.id, .int .i64 x.flags, .int .i64 x.frag, .int .i64 x.ttl, .int .i64 x.proto, .int .i64 x.src.k, .int .i64 x.src.a, .int .i64 x.src.b, .int .i64 x.src.c, .int .i64 x.src.d, .int .i64 x.dst.k, .int .i64 x.dst.a, .int .i64 x.dst.b, .int .i64 x.dst.c, .int .i64 x.dst.d, .slice O os.length oc, .slice D0 ([] : List UInt8).length dc0] 52)))
  have G1 := Lib.hid (only_new (grownBy_trans (only_new (K.refl w (some g)) (.cells #[.int .i64 0, .int .i64 0, .int .i64 0, .int .i64 0, .int .i64 0, .int .i64 0, .int .i64 0, .int .i64 0, .int .i64 0, .int .i64 0, .int .i64 0, .int .i64 0, .int .i64 0, .int .i64 0, .int .i64 0, .int .i64 0, .int .i64 0, .slice none 0 0, .slice none 0 0] 52)) hg2) (.cells #[.int .i64 x.dscp, .int .i64 x.ecn, .int .i64 x.id, .int .i64 x.flags, .int .i64 x.frag, .int .i64 x.ttl, .int .i64 x.proto, .int .i64 x.src.k, .int .i64 x.src.a, .int .i64 x.src.b, .int .i64 x.src.c, .int .i64 x.src.d, .int .i64 x.dst.k, .int .i64 x.dst.a, .int .i64 x.dst.b, .int .i64 x.dst.c, .int .i64 x.dst.d, .slice O os.length oc, .slice D0 ([] : List UInt8).length dc0] 52))
  have S1 := Lib.hid (World.ownsRow.alloc (own_base o0 (show w.heap.size + 1 ≤ _ by simp)) (.cells #[.int .i64 x.dscp, .int .i64 x.ecn, .int .i64 x.id, .int .i64 x.flags, .int .i64 x.frag, .int .i64 x.ttl, .int .i64 x.proto, .int .i64 x.src.k, .int .i64 x.src.a, .int .i64 x.src.b, .int .i64 x.src.c, .int .i64 x.src.d, .int .i64 x.dst.k, .int .i64 x.dst.a, .int .i64 x.dst.b, .int .i64 x.dst.c, .int .i64 x.dst.d, .slice O os.length oc, .slice D0 ([] : List UInt8).length dc0] 52))
  have NS := Lib.hid (show ∀ k, (Value.slice O os.length oc).ownBlock = some k → k ≠ w0.heap.size from fun k hk => by have := (o0.lt k hk).2; omega)
  clear hc2 hg2 o0 CUR0 r0
  go_wp2_with (with_reducible refine storeNewF rfl _ _ rfl rfl rfl ?_)
  refine Calls.mono (HB.out _ g A c C1.out) ?_
  rintro e w2 ⟨D, d, rfl, o2, hc2, hg2⟩
  have Q2 := Lib.hid (K.kept hg2 Q1.out (fun k hk => by cases hk; omega))
  have R2 := Lib.hid (K.kept hg2 R1.out (fun k hk => by cases hk; omega))
  have C2 := Lib.hid hc2
  have G2 := Lib.hid (grownBy_trans G1.out hg2)
  have S2 := Lib.hid (own_grown S1.out hg2 (fun k hk e => by have := (S1.out.lt k hk).1; cases e; omega))
  have D2 := Lib.hid (own_base o2 (show w0.heap.size + 1 ≤ _ by simp))
  have ND := Lib.hid (show ∀ k, (Value.slice D ds.length d).ownBlock = some k → k ≠ w0.heap.size from fun k hk => by have := (D2.out.lt k hk).1; omega)
  clear hc2 hg2 o2 Q1 R1 C1 G1 S1
  have c18 := K.cell Q2.out 18 _ rfl
  have f18 := frozen_of_row _ _ 18 _ _ Q2.out
  have Q3 : Hid ((w2.setCell ⟨w0.heap.size, 18, none⟩ (.slice D ds.length d)).heap[w0.heap.size]? = some (.cells #[.int .i64 x.dscp, .int .i64 x.ecn, .int .i64 x.id, .int .i64 x.flags, .int .i64 x.frag, .int .i64 x.ttl, .int .i64 x.proto, .int .i64 x.src.k, .int .i64 x.src.a, .int .i64 x.src.b, .int .i64 x.src.c, .int .i64 x.src.d, .int .i64 x.dst.k, .int .i64 x.dst.a, .int .i64 x.dst.b, .int .i64 x.dst.c, .int .i64 x.dst.d, .slice O os.length oc, .slice D ds.length d] 52 (0, 0))) := Lib.hid (K.set (Q2.out) 18 (.slice D ds.length d))
  have R3 : Hid ((w2.setCell ⟨w0.heap.size, 18, none⟩ (.slice D ds.length d)).heap[w.heap.size]? = some (.cells #[.int .i64 0, .int .i64 0, .int .i64 0, .int .i64 0, .int .i64 0, .int .i64 0, .int .i64 0, .int .i64 0, .int .i64 0, .int .i64 0, .int .i64 0, .int .i64 0, .int .i64 0, .int .i64 0, .int .i64 0, .int .i64 0, .int .i64 0, .slice none 0 0, .slice none 0 0] 52 (0, 0))) := Lib.hid (K.setFrom_other [.slice D ds.length d] 18 R2.out (show w.heap.size ≠ w0.heap.size by omega))
  have C3 := Lib.hid (show CurS (w2.setCell ⟨w0.heap.size, 18, none⟩ (.slice D ds.length d)) g A c bs _ _ from C2.out.grownBy (K.setFrom_selfE [.slice D ds.length d] w2 w0.heap.size 18) (fun u hu => by cases hu; omega))
  have G3 := Lib.hid (show w.grownBy (w2.setCell ⟨w0.heap.size, 18, none⟩ (.slice D ds.length d)) (some g) from K.setFrom_grown (g := w0.heap.size) [.slice D ds.length d] 18 G2.out (by omega))
  have D3 := Lib.hid (show (w2.setCell ⟨w0.heap.size, 18, none⟩ (.slice D ds.length d)).ownsRow _ 5 1 _ _ _ from own_grown D2.out (K.setFrom_selfE [.slice D ds.length d] w2 w0.heap.size 18) (fun k hk e => by cases e; have := ND.out _ hk; omega))
  have S3 := Lib.hid (show (w2.setCell ⟨w0.heap.size, 18, none⟩ (.slice D ds.length d)).ownsRow _ 5 1 _ _ _ from own_grown S2.out (K.setFrom_selfE [.slice D ds.length d] w2 w0.heap.size 18) (fun k hk e => by cases e; have := NS.out _ hk; omega))
  go_wp2_with fail
  clear c18 f18 Q2 R2 C2 G2 D2 S2
  refine Calls.mono (HK.out _ g A c C3.out) ?_
  rintro e w4 ⟨rfl, hc2, hg2⟩
  have Q4 := Lib.hid (K.kept hg2 Q3.out (fun k hk => by cases hk; omega))
  have R4 := Lib.hid (K.kept hg2 R3.out (fun k hk => by cases hk; omega))
  have C4 := Lib.hid hc2
  have G4 := Lib.hid (grownBy_trans G3.out hg2)
  have D4 := Lib.hid (own_grown D3.out hg2 (fun k hk e => by have := (D3.out.lt k hk).1; cases e; omega))
  have S4 := Lib.hid (own_grown S3.out hg2 (fun k hk e => by have := (S3.out.lt k hk).1; cases e; omega))
  clear hc2 hg2 Q3 R3 C3 G3 D3 S3
  go_wp2_with fail
  refine Calls.mono (H4.out _ g A c C4.out) ?_
  rintro e w5 ⟨rfl, hc2, hg2⟩
  have Q5 := Lib.hid (K.kept hg2 Q4.out (fun k hk => by cases hk; omega))
  have R5 := Lib.hid (K.kept hg2 R4.out (fun k hk => by cases hk; omega))
  have C5 := Lib.hid hc2
  have G5 := Lib.hid (grownBy_trans G4.out hg2)
  have D5 := Lib.hid (own_grown D4.out hg2 (fun k hk e => by have := (D4.out.lt k hk).1; cases e; omega))
  have S5 := Lib.hid (own_grown S4.out hg2 (fun k hk e => by have := (S4.out.lt k hk).1; cases e; omega))
  clear hc2 hg2 Q4 R4 C4 G4 D4 S4
  have c7 := K.cell Q5.out 7 _ rfl
  have c8 := K.cell Q5.out 8 _ rfl
  have c9 := K.cell Q5.out 9 _ rfl
  have c10 := K.cell Q5.out 10 _ rfl
  have c11 := K.cell Q5.out 11 _ rfl
  have f7 := frozen_of_row _ _ 7 _ _ Q5.out
  have f8 := frozen_of_row _ _ 8 _ _ Q5.out
  have f9 := frozen_of_row _ _ 9 _ _ Q5.out
  have f10 := frozen_of_row _ _ 10 _ _ Q5.out
  have f11 := frozen_of_row _ _ 11 _ _ Q5.out
  have Q6 : Hid ((((((w5.setCell ⟨w0.heap.size, 7, none⟩ (.int .i64 y.k)).setCell ⟨w0.heap.size, 8, none⟩ (.int .i64 y.a)).setCell ⟨w0.heap.size, 9, none⟩ (.int .i64 y.b)).setCell ⟨w0.heap.size, 10, none⟩ (.int .i64 y.c)).setCell ⟨w0.heap.size, 11, none⟩ (.int .i64 y.d)).heap[w0.heap.size]? = some (.cells #[.int .i64 x.dscp, .int .i64 x.ecn, .int .i64 x.id, .int .i64 x.flags, .int .i64 x.frag, .int .i64 x.ttl, .int .i64 x.proto, .int .i64 y.k, .int .i64 y.a, .int .i64 y.b, .int .i64 y.c, .int .i64 y.d, .int .i64 x.dst.k, .int .i64 x.dst.a, .int .i64 x.dst.b, .int .i64 x.dst.c, .int .i64 x.dst.d, .slice O os.length oc, .slice D ds.length d] 52 (0, 0))) := Lib.hid (K.set (K.set (K.set (K.set (K.set (Q5.out) 7 (.int .i64 y.k)) 8 (.int .i64 y.a)) 9 (.int .i64 y.b)) 10 (.int .i64 y.c)) 11 (.int .i64 y.d))
  have R6 : Hid ((((((w5.setCell ⟨w0.heap.size, 7, none⟩ (.int .i64 y.k)).setCell ⟨w0.heap.size, 8, none⟩ (.int .i64 y.a)).setCell ⟨w0.heap.size, 9, none⟩ (.int .i64 y.b)).setCell ⟨w0.heap.size, 10, none⟩ (.int .i64 y.c)).setCell ⟨w0.heap.size, 11, none⟩ (.int .i64 y.d)).heap[w.heap.size]? = some (.cells #[.int .i64 0, .int .i64 0, .int .i64 0, .int .i64 0, .int .i64 0, .int .i64 0, .int .i64 0, .int .i64 0, .int .i64 0, .int .i64 0, .int .i64 0, .int .i64 0, .int .i64 0, .int .i64 0, .int .i64 0, .int .i64 0, .int .i64 0, .slice none 0 0, .slice none 0 0] 52 (0, 0))) := Lib.hid (K.setFrom_other [.int .i64 y.k, .int .i64 y.a, .int .i64 y.b, .int .i64 y.c, .int .i64 y.d] 7 R5.out (show w.heap.size ≠ w0.heap.size by omega))
  have C6 := Lib.hid (show CurS (((((w5.setCell ⟨w0.heap.size, 7, none⟩ (.int .i64 y.k)).setCell ⟨w0.heap.size, 8, none⟩ (.int .i64 y.a)).setCell ⟨w0.heap.size, 9, none⟩ (.int .i64 y.b)).setCell ⟨w0.heap.size, 10, none⟩ (.int .i64 y.c)).setCell ⟨w0.heap.size, 11, none⟩ (.int .i64 y.d)) g A c bs _ _ from C5.out.grownBy (K.setFrom_selfE [.int .i64 y.k, .int .i64 y.a, .int .i64 y.b, .int .i64 y.c, .int .i64 y.d] w5 w0.heap.size 7) (fun u hu => by cases hu; omega))
  have G6 := Lib.hid (show w.grownBy (((((w5.setCell ⟨w0.heap.size, 7, none⟩ (.int .i64 y.k)).setCell ⟨w0.heap.size, 8, none⟩ (.int .i64 y.a)).setCell ⟨w0.heap.size, 9, none⟩ (.int .i64 y.b)).setCell ⟨w0.heap.size, 10, none⟩ (.int .i64 y.c)).setCell ⟨w0.heap.size, 11, none⟩ (.int .i64 y.d)) (some g) from K.setFrom_grown (g := w0.heap.size) [.int .i64 y.k, .int .i64 y.a, .int .i64 y.b, .int .i64 y.c, .int .i64 y.d] 7 G5.out (by omega))
  have D6 := Lib.hid (show (((((w5.setCell ⟨w0.heap.size, 7, none⟩ (.int .i64 y.k)).setCell ⟨w0.heap.size, 8, none⟩ (.int .i64 y.a)).setCell ⟨w0.heap.size, 9, none⟩ (.int .i64 y.b)).setCell ⟨w0.heap.size, 10, none⟩ (.int .i64 y.c)).setCell ⟨w0.heap.size, 11, none⟩ (.int .i64 y.d)).ownsRow _ 5 1 _ _ _ from own_grown D5.out (K.setFrom_selfE [.int .i64 y.k, .int .i64 y.a, .int .i64 y.b, .int .i64 y.c, .int .i64 y.d] w5 w0.heap.size 7) (fun k hk e => by cases e; have := ND.out _ hk; omega))
  have S6 := Lib.hid (show (((((w5.setCell ⟨w0.heap.size, 7, none⟩ (.int .i64 y.k)).setCell ⟨w0.heap.size, 8, none⟩ (.int .i64 y.a)).setCell ⟨w0.heap.size, 9, none⟩ (.int .i64 y.b)).setCell ⟨w0.heap.size, 10, none⟩ (.int .i64 y.c)).setCell ⟨w0.heap.size, 11, none⟩ (.int .i64 y.d)).ownsRow _ 5 1 _ _ _ from own_grown S5.out (K.setFrom_selfE [.int .i64 y.k, .int .i64 y.a, .int .i64 y.b, .int .i64 y.c, .int .i64 y.d] w5 w0.heap.size 7) (fun k hk e => by cases e; have := NS.out _ hk; omega))
  go_upto_region 20 with fail
  clear c7 f7 c8 f8 c9 f9 c10 f10 c11 f11 Q5 R5 C5 G5 D5 S5
  generalize (((((w5.setCell ⟨w0.heap.size, 7, none⟩ (.int .i64 y.k)).setCell ⟨w0.heap.size, 8, none⟩ (.int .i64 y.a)).setCell ⟨w0.heap.size, 9, none⟩ (.int .i64 y.b)).setCell ⟨w0.heap.size, 10, none⟩ (.int .i64 y.c)).setCell ⟨w0.heap.size, 11, none⟩ (.int .i64 y.d)) = W at Q6 R6 C6 G6 D6 S6 ⊢
  go_wp2_with (first | (with_reducible refine loadF rfl _ rfl w0.heap.size rfl Q6.out ?_) | (with_reducible refine storeF rfl _ _ rfl w.heap.size rfl rfl R6.out ?_))
  (try simp only [Exit.inBlock, Exit.then])
  refine bodyPost_ret (v := .agg #[.int .i64 x.dscp, .int .i64 x.ecn, .int .i64 x.id, .int .i64 x.flags, .int .i64 x.frag, .int .i64 x.ttl, .int .i64 x.proto, .int .i64 y.k, .int .i64 y.a, .int .i64 y.b, .int .i64 y.c, .int .i64 y.d, .int .i64 x.dst.k, .int .i64 x.dst.a, .int .i64 x.dst.b, .int .i64 x.dst.c, .int .i64 x.dst.d, .slice O os.length oc, .slice D ds.length d]) ?_ rfl ⟨O, oc, D, d, rfl, ?_, ?_, ?_, ?_⟩
  · exact resF Try.results74 _ _ w.heap.size rfl (setRow_heap _ _ _ _ _ _ R6.out)
  · have this := own_base (base' := w.heap.size) (K.setRow_own (g := w.heap.size) #[.int .i64 x.dscp, .int .i64 x.ecn, .int .i64 x.id, .int .i64 x.flags, .int .i64 x.frag, .int .i64 x.ttl, .int .i64 x.proto, .int .i64 y.k, .int .i64 y.a, .int .i64 y.b, .int .i64 y.c, .int .i64 y.d, .int .i64 x.dst.k, .int .i64 x.dst.a, .int .i64 x.dst.b, .int .i64 x.dst.c, .int .i64 x.dst.d, .slice O os.length oc, .slice D ds.length d] S6.out (by omega)) (by omega)
    exact this
  · have this := own_base (base' := w.heap.size) (K.setRow_own (g := w.heap.size) #[.int .i64 x.dscp, .int .i64 x.ecn, .int .i64 x.id, .int .i64 x.flags, .int .i64 x.frag, .int .i64 x.ttl, .int .i64 x.proto, .int .i64 y.k, .int .i64 y.a, .int .i64 y.b, .int .i64 y.c, .int .i64 y.d, .int .i64 x.dst.k, .int .i64 x.dst.a, .int .i64 x.dst.b, .int .i64 x.dst.c, .int .i64 x.dst.d, .slice O os.length oc, .slice D ds.length d] D6.out (by omega)) (by omega)
    exact this
  · exact C6.out.grownBy (K.setRow_grown _ _ _) (fun u hu => by cases hu; omega)
  · exact grown_other G6.out (K.setRow_grown _ _ _) (fun u hu => by cases hu; omega)
end Go.Proofs.Ytegpaocoepcemaa

namespace Go.Proofs.Ytegpaocoepcemaa
set_option maxRecDepth 100000
open Go.RowKit

set_option maxHeartbeats 4000000 in
theorem badFour_6 (bs : List UInt8) (t s : Nat) (ht : t ≤ 700000000000) (x : Fh) (os : List UInt8) (t1 s1 : Nat) (hos : os.length ≤ 40) (ht1 : t1 ≤ t + 100) (HF : Hid (∀ (w : World) (g : Nat) (A : Option Addr) (c : Nat), CurS w g A c bs t s → Calls Try.prog 99 #[.pointer (some ⟨g, 0, none⟩)] w (GivesFour w g A c bs t1 s1 x os [])))
    (ds : List UInt8) (t2 s2 : Nat) (hds : ds.length ≤ 50) (ht2 : t2 ≤ t1 + 50 + 1) (HB : Hid (∀ (w : World) (g : Nat) (A : Option Addr) (c : Nat), CurS w g A c bs t1 s1 → Calls Try.prog 95 #[.pointer (some ⟨g, 0, none⟩), .int .i64 (50 : Int)] w (GivesB w g A c bs t2 s2 ds))) (k : Int) (s3 : Nat) (hk : k = 6) (HK : Hid (∀ (w : World) (g : Nat) (A : Option Addr) (c : Nat), CurS w g A c bs t2 s2 → Calls Try.prog 96 #[.pointer (some ⟨g, 0, none⟩), .int .i64 12] w (Gives w g A c bs (t2 + 1) s3 k))) :
    ∃ (x : Fh) (os ds : List UInt8) (t' s' : Nat), os.length ≤ 45 ∧ ds.length ≤ 1480 ∧ ∀ (w : World) (g : Nat) (A : Option Addr) (c : Nat), CurS w g A c bs t s → Calls Try.prog 74 #[.pointer (some ⟨g, 0, none⟩)] w (GivesFour w g A c bs t' s' x os ds) := by
  subst hk
  obtain ⟨z, s4, hd⟩ := rawE bs (t2 + 1) s3 (by omega)
  have H4 := Lib.hid hd
  clear hd
  obtain ⟨q, s5, loq, upq, hd⟩ := pickE bs (t2 + 1 + 2) s4 2 (by omega) (by omega) (by omega)
  have H5 := Lib.hid hd
  clear hd
  obtain ⟨y, rfl⟩ : ∃ k : Nat, q = k := ⟨q.toNat, by omega⟩
  obtain ⟨u, hu⟩ : ∃ a, ([z, (256 : Int)] : List Int)[y]? = some a := ⟨_, List.getElem?_eq_getElem (by simp; omega)⟩
  have HU := Lib.hid hu
  clear hu
  refine ⟨⟨x.dscp, x.ecn, x.id, x.flags, x.frag, u, x.proto, ⟨x.src.k, x.src.a, x.src.b, x.src.c, x.src.d⟩, ⟨x.dst.k, x.dst.a, x.dst.b, x.dst.c, x.dst.d⟩⟩, os, ds, t2 + 1 + 2 + 1, s5, by omega, by omega, fun w g A c hc0 => ?_⟩
  have hgl := hc0.lt
  have CUR0 := Lib.hid (hc0.below (Joins.below_alloc1 w (.cells #[.int .i64 0, .int .i64 0, .int .i64 0, .int .i64 0, .int .i64 0, .int .i64 0, .int .i64 0, .int .i64 0, .int .i64 0, .int .i64 0, .int .i64 0, .int .i64 0, .int .i64 0, .int .i64 0, .int .i64 0, .int .i64 0, .int .i64 0, .slice none 0 0, .slice none 0 0] 52)))
  have r0 := Lib.hid (K.new w (.cells #[.int .i64 0, .int .i64 0, .int .i64 0, .int .i64 0, .int .i64 0, .int .i64 0, .int .i64 0, .int .i64 0, .int .i64 0, .int .i64 0, .int .i64 0, .int .i64 0, .int .i64 0, .int .i64 0, .int .i64 0, .int .i64 0, .int .i64 0, .slice none 0 0, .slice none 0 0] 52))
  clear hc0
  go_enter Try.func74, Try.ntmps74
  go_wp2_with fail
  refine Calls.mono (HF.out _ g A c CUR0.out) ?_
  rintro e w0 ⟨O, oc, D0, dc0, rfl, o0, _, hc2, hg2⟩
  have hb4 : w.heap.size + 1 ≤ w0.heap.size := by have := hg2.size; simpa using this
  have Q1 : Hid ((w0.alloc (.cells #[.int .i64 x.dscp, .int .i64 x.ecn, .int .i64 x.id, .int .i64 x.flags, .int .i64 x.frag, .int .i64 x.ttl, .int .i64 x.proto, .int .i64 x.src.k, .int .i64 x.src.a, .int .i64 x.src.b, .int .i64 x.src.c, .int .i64 x.src.d, .int .i64 x.dst.k, .int .i64 x.dst.a, .int .i64 x.dst.b, .int .i64 x.dst.c, .int .i64 x.dst.d, .slice O os.length oc, .slice D0 ([] : List UInt8).length dc0] 52)).heap[w0.heap.size]? = some (.cells #[.int .i64 x.dscp, .int .i64 x.ecn, .int .i64 x.id, .int .i64 x.flags, .int .i64 x.frag, .int .i64 x.ttl, .int .i64 x.proto, .int .i64 x.src.k, .int .i64 x.src.a, .int .i64 x.src.b, .int .i64 x.src.c, .int .i64 x.src.d, .int .i64 x.dst.k, .int .i64 x.dst.a, .int .i64 x.dst.b, .int .i64 x.dst.c, .int .i64 x.dst.d, .slice O os.length oc, .slice D0 ([] : List UInt8).length dc0] 52 (0, 0))) := Lib.hid (K.new w0 _)
  have R1 := Lib.hid (K.old (K.kept hg2 r0.out (fun k hk => by cases hk; omega)) (.cells #[.int .i64 x.dscp, .int .i64 x.ecn, .int .i64 x.id, .int .i64 x.flags, .int .i64 x.frag, .int .i64 x.ttl, .int .i64 x.proto, .int .i64 x.src.k, .int .i64 x.src.a, .int .i64 x.src.b, .int .i64 x.src.c, .int .i64 x.src.d, .int .i64 x.dst.k, .int .i64 x.dst.a, .int .i64 x.dst.b, .int .i64 x.dst.c, .int .i64 x.dst.d, .slice O os.length oc, .slice D0 ([] : List UInt8).length dc0] 52))
  have C1 := Lib.hid (hc2.below (Joins.below_alloc1 w0 (.cells #[.int .i64 x.dscp, .int .i64 x.ecn, .int .i64 x.id, .int .i64 x.flags, .int .i64 x.frag, .int .i64 x.ttl, .int .i64 x.proto, .int .i64 x.src.k, .int .i64 x.src.a, .int .i64 x.src.b, .int .i64 x.src.c, .int .i64 x.src.d, .int .i64 x.dst.k, .int .i64 x.dst.a, .int .i64 x.dst.b, .int .i64 x.dst.c, .int .i64 x.dst.d, .slice O os.length oc, .slice D0 ([] : List UInt8).length dc0] 52)))
  have G1 := Lib.hid (only_new (grownBy_trans (only_new (K.refl w (some g)) (.cells #[.int .i64 0, .int .i64 0, .int .i64 0, .int .i64 0, .int .i64 0, .int .i64 0, .int .i64 0, .int .i64 0, .int .i64 0, .int .i64 0, .int .i64 0, .int .i64 0, .int .i64 0, .int .i64 0, .int .i64 0, .int .i64 0, .int .i64 0, .slice none 0 0, .slice none 0 0] 52)) hg2) (.cells #[.int .i64 x.dscp, .int .i64 x.ecn, .int .i64 x.id, .int .i64 x.flags, .int .i64 x.frag, .int .i64 x.ttl, .int .i64 x.proto, .int .i64 x.src.k, .int .i64 x.src.a, .int .i64 x.src.b, .int .i64 x.src.c, .int .i64 x.src.d, .int .i64 x.dst.k, .int .i64 x.dst.a, .int .i64 x.dst.b, .int .i64 x.dst.c, .int .i64 x.dst.d, .slice O os.length oc, .slice D0 ([] : List UInt8).length dc0] 52))
  have S1 := Lib.hid (World.ownsRow.alloc (own_base o0 (show w.heap.size + 1 ≤ _ by simp)) (.cells #[.int .i64 x.dscp, .int .i64 x.ecn, .int .i64 x.id, .int .i64 x.flags, .int .i64 x.frag, .int .i64 x.ttl, .int .i64 x.proto, .int .i64 x.src.k, .int .i64 x.src.a, .int .i64 x.src.b, .int .i64 x.src.c, .int .i64 x.src.d, .int .i64 x.dst.k, .int .i64 x.dst.a, .int .i64 x.dst.b, .int .i64 x.dst.c, .int .i64 x.dst.d, .slice O os.length oc, .slice D0 ([] : List UInt8).length dc0] 52))
  have NS := Lib.hid (show ∀ k, (Value.slice O os.length oc).ownBlock = some k → k ≠ w0.heap.size from fun k hk => by have := (o0.lt k hk).2; omega)
  clear hc2 hg2 o0 CUR0 r0
  go_wp2_with (with_reducible refine storeNewF rfl _ _ rfl rfl rfl ?_)
  refine Calls.mono (HB.out _ g A c C1.out) ?_
  rintro e w2 ⟨D, d, rfl, o2, hc2, hg2⟩
  have Q2 := Lib.hid (K.kept hg2 Q1.out (fun k hk => by cases hk; omega))
  have R2 := Lib.hid (K.kept hg2 R1.out (fun k hk => by cases hk; omega))
  have C2 := Lib.hid hc2
  have G2 := Lib.hid (grownBy_trans G1.out hg2)
  have S2 := Lib.hid (own_grown S1.out hg2 (fun k hk e => by have := (S1.out.lt k hk).1; cases e; omega))
  have D2 := Lib.hid (own_base o2 (show w0.heap.size + 1 ≤ _ by simp))
  have ND := Lib.hid (show ∀ k, (Value.slice D ds.length d).ownBlock = some k → k ≠ w0.heap.size from fun k hk => by have := (D2.out.lt k hk).1; omega)
  clear hc2 hg2 o2 Q1 R1 C1 G1 S1
  have c18 := K.cell Q2.out 18 _ rfl
  have f18 := frozen_of_row _ _ 18 _ _ Q2.out
  have Q3 : Hid ((w2.setCell ⟨w0.heap.size, 18, none⟩ (.slice D ds.length d)).heap[w0.heap.size]? = some (.cells #[.int .i64 x.dscp, .int .i64 x.ecn, .int .i64 x.id, .int .i64 x.flags, .int .i64 x.frag, .int .i64 x.ttl, .int .i64 x.proto, .int .i64 x.src.k, .int .i64 x.src.a, .int .i64 x.src.b, .int .i64 x.src.c, .int .i64 x.src.d, .int .i64 x.dst.k, .int .i64 x.dst.a, .int .i64 x.dst.b, .int .i64 x.dst.c, .int .i64 x.dst.d, .slice O os.length oc, .slice D ds.length d] 52 (0, 0))) := Lib.hid (K.set (Q2.out) 18 (.slice D ds.length d))
  have R3 : Hid ((w2.setCell ⟨w0.heap.size, 18, none⟩ (.slice D ds.length d)).heap[w.heap.size]? = some (.cells #[.int .i64 0, .int .i64 0, .int .i64 0, .int .i64 0, .int .i64 0, .int .i64 0, .int .i64 0, .int .i64 0, .int .i64 0, .int .i64 0, .int .i64 0, .int .i64 0, .int .i64 0, .int .i64 0, .int .i64 0, .int .i64 0, .int .i64 0, .slice none 0 0, .slice none 0 0] 52 (0, 0))) := Lib.hid (K.setFrom_other [.slice D ds.length d] 18 R2.out (show w.heap.size ≠ w0.heap.size by omega))
  have C3 := Lib.hid (show CurS (w2.setCell ⟨w0.heap.size, 18, none⟩ (.slice D ds.length d)) g A c bs _ _ from C2.out.grownBy (K.setFrom_selfE [.slice D ds.length d] w2 w0.heap.size 18) (fun u hu => by cases hu; omega))
  have G3 := Lib.hid (show w.grownBy (w2.setCell ⟨w0.heap.size, 18, none⟩ (.slice D ds.length d)) (some g) from K.setFrom_grown (g := w0.heap.size) [.slice D ds.length d] 18 G2.out (by omega))
  have D3 := Lib.hid (show (w2.setCell ⟨w0.heap.size, 18, none⟩ (.slice D ds.length d)).ownsRow _ 5 1 _ _ _ from own_grown D2.out (K.setFrom_selfE [.slice D ds.length d] w2 w0.heap.size 18) (fun k hk e => by cases e; have := ND.out _ hk; omega))
  have S3 := Lib.hid (show (w2.setCell ⟨w0.heap.size, 18, none⟩ (.slice D ds.length d)).ownsRow _ 5 1 _ _ _ from own_grown S2.out (K.setFrom_selfE [.slice D ds.length d] w2 w0.heap.size 18) (fun k hk e => by cases e; have := NS.out _ hk; omega))
  go_wp2_with fail
  clear c18 f18 Q2 R2 C2 G2 D2 S2
  refine Calls.mono (HK.out _ g A c C3.out) ?_
  rintro e w4 ⟨rfl, hc2, hg2⟩
  have Q4 := Lib.hid (K.kept hg2 Q3.out (fun k hk => by cases hk; omega))
  have R4 := Lib.hid (K.kept hg2 R3.out (fun k hk => by cases hk; omega))
  have C4 := Lib.hid hc2
  have G4 := Lib.hid (grownBy_trans G3.out hg2)
  have D4 := Lib.hid (own_grown D3.out hg2 (fun k hk e => by have := (D3.out.lt k hk).1; cases e; omega))
  have S4 := Lib.hid (own_grown S3.out hg2 (fun k hk e => by have := (S3.out.lt k hk).1; cases e; omega))
  clear hc2 hg2 Q3 R3 C3 G3 D3 S3
  go_wp2_with fail
  refine Calls.mono (H4.out _ g A c C4.out) ?_
  rintro e w5 ⟨rfl, hc2, hg2⟩
  have Q5 := Lib.hid (K.kept hg2 Q4.out (fun k hk => by cases hk; omega))
  have R5 := Lib.hid (K.kept hg2 R4.out (fun k hk => by cases hk; omega))
  have C5 := Lib.hid hc2
  have G5 := Lib.hid (grownBy_trans G4.out hg2)
  have D5 := Lib.hid (own_grown D4.out hg2 (fun k hk e => by have := (D4.out.lt k hk).1; cases e; omega))
  have S5 := Lib.hid (own_grown S4.out hg2 (fun k hk e => by have := (S4.out.lt k hk).1; cases e; omega))
  clear hc2 hg2 Q4 R4 C4 G4 D4 S4
  have gk := C5.out.lt
  have Q6 := Lib.hid (K.old Q5.out (.cells #[.int .i64 z, .int .i64 256] 3))
  have R6 := Lib.hid (K.old R5.out (.cells #[.int .i64 z, .int .i64 256] 3))
  have C6 := Lib.hid (C5.out.below (Joins.below_alloc1 w5 (.cells #[.int .i64 z, .int .i64 256] 3)))
  have G6 := Lib.hid (only_new G5.out (.cells #[.int .i64 z, .int .i64 256] 3))
  have D6 := Lib.hid (World.ownsRow.alloc D5.out (.cells #[.int .i64 z, .int .i64 256] 3))
  have S6 := Lib.hid (World.ownsRow.alloc S5.out (.cells #[.int .i64 z, .int .i64 256] 3))
  go_wp2_with fail
  clear Q5 R5 C5 G5 D5 S5
  refine Calls.mono (H5.out _ g A c C6.out) ?_
  rintro e w7 ⟨rfl, hc2, hg2⟩
  have Q7 := Lib.hid (K.kept hg2 Q6.out (fun k hk => by cases hk; omega))
  have R7 := Lib.hid (K.kept hg2 R6.out (fun k hk => by cases hk; omega))
  have C7 := Lib.hid hc2
  have G7 := Lib.hid (grownBy_trans G6.out hg2)
  have D7 := Lib.hid (own_grown D6.out hg2 (fun k hk e => by have := (D6.out.lt k hk).1; cases e; omega))
  have S7 := Lib.hid (own_grown S6.out hg2 (fun k hk e => by have := (S6.out.lt k hk).1; cases e; omega))
  have cf := hg2.cell (K.row_cells w5 [z, 256] _ rfl 3 y u HU.out) (fun e => by have e2 : w5.heap.size = g := Option.some.inj e; omega)
  clear hc2 hg2 Q6 R6 C6 G6 D6 S6
  have c5 := K.cell Q7.out 5 _ rfl
  have f5 := frozen_of_row _ _ 5 _ _ Q7.out
  have Q8 : Hid ((w7.setCell ⟨w0.heap.size, 5, none⟩ (.int .i64 u)).heap[w0.heap.size]? = some (.cells #[.int .i64 x.dscp, .int .i64 x.ecn, .int .i64 x.id, .int .i64 x.flags, .int .i64 x.frag, .int .i64 u, .int .i64 x.proto, .int .i64 x.src.k, .int .i64 x.src.a, .int .i64 x.src.b, .int .i64 x.src.c, .int .i64 x.src.d, .int .i64 x.dst.k, .int .i64 x.dst.a, .int .i64 x.dst.b, .int .i64 x.dst.c, .int .i64 x.dst.d, .slice O os.length oc, .slice D ds.length d] 52 (0, 0))) := Lib.hid (K.set (Q7.out) 5 (.int .i64 u))
  have R8 : Hid ((w7.setCell ⟨w0.heap.size, 5, none⟩ (.int .i64 u)).heap[w.heap.size]? = some (.cells #[.int .i64 0, .int .i64 0, .int .i64 0, .int .i64 0, .int .i64 0, .int .i64 0, .int .i64 0, .int .i64 0, .int .i64 0, .int .i64 0, .int .i64 0, .int .i64 0, .int .i64 0, .int .i64 0, .int .i64 0, .int .i64 0, .int .i64 0, .slice none 0 0, .slice none 0 0] 52 (0, 0))) := Lib.hid (K.setFrom_other [.int .i64 u] 5 R7.out (show w.heap.size ≠ w0.heap.size by omega))
  have C8 := Lib.hid (show CurS (w7.setCell ⟨w0.heap.size, 5, none⟩ (.int .i64 u)) g A c bs _ _ from C7.out.grownBy (K.setFrom_selfE [.int .i64 u] w7 w0.heap.size 5) (fun u hu => by cases hu; omega))
  have G8 := Lib.hid (show w.grownBy (w7.setCell ⟨w0.heap.size, 5, none⟩ (.int .i64 u)) (some g) from K.setFrom_grown (g := w0.heap.size) [.int .i64 u] 5 G7.out (by omega))
  have D8 := Lib.hid (show (w7.setCell ⟨w0.heap.size, 5, none⟩ (.int .i64 u)).ownsRow _ 5 1 _ _ _ from own_grown D7.out (K.setFrom_selfE [.int .i64 u] w7 w0.heap.size 5) (fun k hk e => by cases e; have := ND.out _ hk; omega))
  have S8 := Lib.hid (show (w7.setCell ⟨w0.heap.size, 5, none⟩ (.int .i64 u)).ownsRow _ 5 1 _ _ _ from own_grown S7.out (K.setFrom_selfE [.int .i64 u] w7 w0.heap.size 5) (fun k hk e => by cases e; have := NS.out _ hk; omega))
  go_wp2_with (first | (with_reducible refine loadF rfl _ rfl w0.heap.size rfl Q8.out ?_) | (with_reducible refine storeF rfl _ _ rfl w.heap.size rfl rfl R8.out ?_))
  (try simp only [Exit.inBlock, Exit.then])
  refine bodyPost_ret (v := .agg #[.int .i64 x.dscp, .int .i64 x.ecn, .int .i64 x.id, .int .i64 x.flags, .int .i64 x.frag, .int .i64 u, .int .i64 x.proto, .int .i64 x.src.k, .int .i64 x.src.a, .int .i64 x.src.b, .int .i64 x.src.c, .int .i64 x.src.d, .int .i64 x.dst.k, .int .i64 x.dst.a, .int .i64 x.dst.b, .int .i64 x.dst.c, .int .i64 x.dst.d, .slice O os.length oc, .slice D ds.length d]) ?_ rfl ⟨O, oc, D, d, rfl, ?_, ?_, ?_, ?_⟩
  · exact resF Try.results74 _ _ w.heap.size rfl (setRow_heap _ _ _ _ _ _ R8.out)
  · have this := own_base (base' := w.heap.size) (K.setRow_own (g := w.heap.size) #[.int .i64 x.dscp, .int .i64 x.ecn, .int .i64 x.id, .int .i64 x.flags, .int .i64 x.frag, .int .i64 u, .int .i64 x.proto, .int .i64 x.src.k, .int .i64 x.src.a, .int .i64 x.src.b, .int .i64 x.src.c, .int .i64 x.src.d, .int .i64 x.dst.k, .int .i64 x.dst.a, .int .i64 x.dst.b, .int .i64 x.dst.c, .int .i64 x.dst.d, .slice O os.length oc, .slice D ds.length d] S8.out (by omega)) (by omega)
    exact this
  · have this := own_base (base' := w.heap.size) (K.setRow_own (g := w.heap.size) #[.int .i64 x.dscp, .int .i64 x.ecn, .int .i64 x.id, .int .i64 x.flags, .int .i64 x.frag, .int .i64 u, .int .i64 x.proto, .int .i64 x.src.k, .int .i64 x.src.a, .int .i64 x.src.b, .int .i64 x.src.c, .int .i64 x.src.d, .int .i64 x.dst.k, .int .i64 x.dst.a, .int .i64 x.dst.b, .int .i64 x.dst.c, .int .i64 x.dst.d, .slice O os.length oc, .slice D ds.length d] D8.out (by omega)) (by omega)
    exact this
  · exact C8.out.grownBy (K.setRow_grown _ _ _) (fun u hu => by cases hu; omega)
  · exact grown_other G8.out (K.setRow_grown _ _ _) (fun u hu => by cases hu; omega)

set_option maxHeartbeats 4000000 in
theorem badFour_7 (bs : List UInt8) (t s : Nat) (ht : t ≤ 700000000000) (x : Fh) (os : List UInt8) (t1 s1 : Nat) (hos : os.length ≤ 40) (ht1 : t1 ≤ t + 100) (HF : Hid (∀ (w : World) (g : Nat) (A : Option Addr) (c : Nat), CurS w g A c bs t s → Calls Try.prog 99 #[.pointer (some ⟨g, 0, none⟩)] w (GivesFour w g A c bs t1 s1 x os [])))
    (ds : List UInt8) (t2 s2 : Nat) (hds : ds.length ≤ 50) (ht2 : t2 ≤ t1 + 50 + 1) (HB : Hid (∀ (w : World) (g : Nat) (A : Option Addr) (c : Nat), CurS w g A c bs t1 s1 → Calls Try.prog 95 #[.pointer (some ⟨g, 0, none⟩), .int .i64 (50 : Int)] w (GivesB w g A c bs t2 s2 ds))) (k : Int) (s3 : Nat) (hk : k = 7) (HK : Hid (∀ (w : World) (g : Nat) (A : Option Addr) (c : Nat), CurS w g A c bs t2 s2 → Calls Try.prog 96 #[.pointer (some ⟨g, 0, none⟩), .int .i64 12] w (Gives w g A c bs (t2 + 1) s3 k))) :
    ∃ (x : Fh) (os ds : List UInt8) (t' s' : Nat), os.length ≤ 45 ∧ ds.length ≤ 1480 ∧ ∀ (w : World) (g : Nat) (A : Option Addr) (c : Nat), CurS w g A c bs t s → Calls Try.prog 74 #[.pointer (some ⟨g, 0, none⟩)] w (GivesFour w g A c bs t' s' x os ds) := by
  subst hk
  obtain ⟨z, s4, hd⟩ := rawE bs (t2 + 1) s3 (by omega)
  have H4 := Lib.hid hd
  clear hd
  refine ⟨⟨x.dscp, x.ecn, z, x.flags, x.frag, x.ttl, x.proto, ⟨x.src.k, x.src.a, x.src.b, x.src.c, x.src.d⟩, ⟨x.dst.k, x.dst.a, x.dst.b, x.dst.c, x.dst.d⟩⟩, os, ds, t2 + 1 + 2, s4, by omega, by omega, fun w g A c hc0 => ?_⟩
  have hgl := hc0.lt
  have CUR0 := Lib.hid (hc0.below (Joins.below_alloc1 w (.cells #[.int .i64 0, .int .i64 0, .int .i64 0, .int .i64 0, .int .i64 0, .int .i64 0, .int .i64 0, .int .i64 0, .int .i64 0, .int .i64 0, .int .i64 0, .int .i64 0, .int .i64 0, .int .i64 0, .int .i64 0, .int .i64 0, .int .i64 0, .slice none 0 0, .slice none 0 0] 52)))
  have r0 := Lib.hid (K.new w (.cells #[.int .i64 0, .int .i64 0, .int .i64 0, .int .i64 0, .int .i64 0, .int .i64 0, .int .i64 0, .int .i64 0, .int .i64 0, .int .i64 0, .int .i64 0, .int .i64 0, .int .i64 0, .int .i64 0, .int .i64 0, .int .i64 0, .int .i64 0, .slice none 0 0, .slice none 0 0] 52))
  clear hc0
  go_enter Try.func74, Try.ntmps74
  go_wp2_with fail
  refine Calls.mono (HF.out _ g A c CUR0.out) ?_
  rintro e w0 ⟨O, oc, D0, dc0, rfl, o0, _, hc2, hg2⟩
  have hb4 : w.heap.size + 1 ≤ w0.heap.size := by have := hg2.size; simpa using this
  have Q1 : Hid ((w0.alloc (.cells #[.int .i64 x.dscp, .int .i64 x.ecn, .int .i64 x.id, .int .i64 x.flags, .int .i64 x.frag, .int .i64 x.ttl, .int .i64 x.proto, .int .i64 x.src.k, .int .i64 x.src.a, .int .i64 x.src.b, .int .i64 x.src.c, .int .i64 x.src.d, .int .i64 x.dst.k, .int .i64 x.dst.a, .int .i64 x.dst.b, .int .i64 x.dst.c, .int .i64 x.dst.d, .slice O os.length oc, .slice D0 ([] : List UInt8).length dc0] 52)).heap[w0.heap.size]? = some (.cells #[.int .i64 x.dscp, .int .i64 x.ecn, .int .i64 x.id, .int .i64 x.flags, .int .i64 x.frag, .int .i64 x.ttl, .int .i64 x.proto, .int .i64 x.src.k, .int .i64 x.src.a, .int .i64 x.src.b, .int .i64 x.src.c, .int .i64 x.src.d, .int .i64 x.dst.k, .int .i64 x.dst.a, .int .i64 x.dst.b, .int .i64 x.dst.c, .int .i64 x.dst.d, .slice O os.length oc, .slice D0 ([] : List UInt8).length dc0] 52 (0, 0))) := Lib.hid (K.new w0 _)
  have R1 := Lib.hid (K.old (K.kept hg2 r0.out (fun k hk => by cases hk; omega)) (.cells #[.int .i64 x.dscp, .int .i64 x.ecn, .int .i64 x.id, .int .i64 x.flags, .int .i64 x.frag, .int .i64 x.ttl, .int .i64 x.proto, .int .i64 x.src.k, .int .i64 x.src.a, .int .i64 x.src.b, .int .i64 x.src.c, .int .i64 x.src.d, .int .i64 x.dst.k, .int .i64 x.dst.a, .int .i64 x.dst.b, .int .i64 x.dst.c, .int .i64 x.dst.d, .slice O os.length oc, .slice D0 ([] : List UInt8).length dc0] 52))
  have C1 := Lib.hid (hc2.below (Joins.below_alloc1 w0 (.cells #[.int .i64 x.dscp, .int .i64 x.ecn, .int .i64 x.id, .int .i64 x.flags, .int .i64 x.frag, .int .i64 x.ttl, .int .i64 x.proto, .int .i64 x.src.k, .int .i64 x.src.a, .int .i64 x.src.b, .int .i64 x.src.c, .int .i64 x.src.d, .int .i64 x.dst.k, .int .i64 x.dst.a, .int .i64 x.dst.b, .int .i64 x.dst.c, .int .i64 x.dst.d, .slice O os.length oc, .slice D0 ([] : List UInt8).length dc0] 52)))
  have G1 := Lib.hid (only_new (grownBy_trans (only_new (K.refl w (some g)) (.cells #[.int .i64 0, .int .i64 0, .int .i64 0, .int .i64 0, .int .i64 0, .int .i64 0, .int .i64 0, .int .i64 0, .int .i64 0, .int .i64 0, .int .i64 0, .int .i64 0, .int .i64 0, .int .i64 0, .int .i64 0, .int .i64 0, .int .i64 0, .slice none 0 0, .slice none 0 0] 52)) hg2) (.cells #[.int .i64 x.dscp, .int .i64 x.ecn, .int .i64 x.id, .int .i64 x.flags, .int .i64 x.frag, .int .i64 x.ttl, .int .i64 x.proto, .int .i64 x.src.k, .int .i64 x.src.a, .int .i64 x.src.b, .int .i64 x.src.c, .int .i64 x.src.d, .int .i64 x.dst.k, .int .i64 x.dst.a, .int .i64 x.dst.b, .int .i64 x.dst.c, .int .i64 x.dst.d, .slice O os.length oc, .slice D0 ([] : List UInt8).length dc0] 52))
  have S1 := Lib.hid (World.ownsRow.alloc (own_base o0 (show w.heap.size + 1 ≤ _ by simp)) (.cells #[.int .i64 x.dscp, .int .i64 x.ecn, .int .i64 x.id, .int .i64 x.flags, .int .i64 x.frag, .int .i64 x.ttl, .int .i64 x.proto, .int .i64 x.src.k, .int .i64 x.src.a, .int .i64 x.src.b, .int .i64 x.src.c, .int .i64 x.src.d, .int .i64 x.dst.k, .int .i64 x.dst.a, .int .i64 x.dst.b, .int .i64 x.dst.c, .int .i64 x.dst.d, .slice O os.length oc, .slice D0 ([] : List UInt8).length dc0] 52))
  have NS := Lib.hid (show ∀ k, (Value.slice O os.length oc).ownBlock = some k → k ≠ w0.heap.size from fun k hk => by have := (o0.lt k hk).2; omega)
  clear hc2 hg2 o0 CUR0 r0
  go_wp2_with (with_reducible refine storeNewF rfl _ _ rfl rfl rfl ?_)
  refine Calls.mono (HB.out _ g A c C1.out) ?_
  rintro e w2 ⟨D, d, rfl, o2, hc2, hg2⟩
  have Q2 := Lib.hid (K.kept hg2 Q1.out (fun k hk => by cases hk; omega))
  have R2 := Lib.hid (K.kept hg2 R1.out (fun k hk => by cases hk; omega))
  have C2 := Lib.hid hc2
  have G2 := Lib.hid (grownBy_trans G1.out hg2)
  have S2 := Lib.hid (own_grown S1.out hg2 (fun k hk e => by have := (S1.out.lt k hk).1; cases e; omega))
  have D2 := Lib.hid (own_base o2 (show w0.heap.size + 1 ≤ _ by simp))
  have ND := Lib.hid (show ∀ k, (Value.slice D ds.length d).ownBlock = some k → k ≠ w0.heap.size from fun k hk => by have := (D2.out.lt k hk).1; omega)
  clear hc2 hg2 o2 Q1 R1 C1 G1 S1
  have c18 := K.cell Q2.out 18 _ rfl
  have f18 := frozen_of_row _ _ 18 _ _ Q2.out
  have Q3 : Hid ((w2.setCell ⟨w0.heap.size, 18, none⟩ (.slice D ds.length d)).heap[w0.heap.size]? = some (.cells #[.int .i64 x.dscp, .int .i64 x.ecn, .int .i64 x.id, .int .i64 x.flags, .int .i64 x.frag, .int .i64 x.ttl, .int .i64 x.proto, .int .i64 x.src.k, .int .i64 x.src.a, .int .i64 x.src.b, .int .i64 x.src.c, .int .i64 x.src.d, .int .i64 x.dst.k, .int .i64 x.dst.a, .int .i64 x.dst.b, .int .i64 x.dst.c, .int .i64 x.dst.d, .slice O os.length oc, .slice D ds.length d] 52 (0, 0))) := Lib.hid (K.set (Q2.out) 18 (.slice D ds.length d))
  have R3 : Hid ((w2.setCell ⟨w0.heap.size, 18, none⟩ (.slice D ds.length d)).heap[w.heap.size]? = some (.cells #[.int .i64 0, .int .i64 0, .int .i64 0, .int .i64 0, .int .i64 0, .int .i64 0, .int .i64 0, .int .i64 0, .int .i64 0, .int .i64 0, .int .i64 0, .int .i64 0, .int .i64 0, .int .i64 0, .int .i64 0, .int .i64 0, .int .i64 0, .slice none 0 0, .slice none 0 0] 52 (0, 0))) := Lib.hid (K.setFrom_other [.slice D ds.length d] 18 R2.out (show w.heap.size ≠ w0.heap.size by omega))
  have C3 := Lib.hid (show CurS (w2.setCell ⟨w0.heap.size, 18, none⟩ (.slice D ds.length d)) g A c bs _ _ from C2.out.grownBy (K.setFrom_selfE [.slice D ds.length d] w2 w0.heap.size 18) (fun u hu => by cases hu; omega))
  have G3 := Lib.hid (show w.grownBy (w2.setCell ⟨w0.heap.size, 18, none⟩ (.slice D ds.length d)) (some g) from K.setFrom_grown (g := w0.heap.size) [.slice D ds.length d] 18 G2.out (by omega))
  have D3 := Lib.hid (show (w2.setCell ⟨w0.heap.size, 18, none⟩ (.slice D ds.length d)).ownsRow _ 5 1 _ _ _ from own_grown D2.out (K.setFrom_selfE [.slice D ds.length d] w2 w0.heap.size 18) (fun k hk e => by cases e; have := ND.out _ hk; omega))
  have S3 := Lib.hid (show (w2.setCell ⟨w0.heap.size, 18, none⟩ (.slice D ds.length d)).ownsRow _ 5 1 _ _ _ from own_grown S2.out (K.setFrom_selfE [.slice D ds.length d] w2 w0.heap.size 18) (fun k hk e => by cases e; have := NS.out _ hk; omega))
  go_wp2_with fail
  clear c18 f18 Q2 R2 C2 G2 D2 S2
  refine Calls.mono (HK.out _ g A c C3.out) ?_
  rintro e w4 ⟨rfl, hc2, hg2⟩
  have Q4 := Lib.hid (K.kept hg2 Q3.out (fun k hk => by cases hk; omega))
  have R4 := Lib.hid (K.kept hg2 R3.out (fun k hk => by cases hk; omega))
  have C4 := Lib.hid hc2
  have G4 := Lib.hid (grownBy_trans G3.out hg2)
  have D4 := Lib.hid (own_grown D3.out hg2 (fun k hk e => by have := (D3.out.lt k hk).1; cases e; omega))
  have S4 := Lib.hid (own_grown S3.out hg2 (fun k hk e => by have := (S3.out.lt k hk).1; cases e; omega))
  clear hc2 hg2 Q3 R3 C3 G3 D3 S3
  go_wp2_with fail
  refine Calls.mono (H4.out _ g A c C4.out) ?_
  rintro e w5 ⟨rfl, hc2, hg2⟩
  have Q5 := Lib.hid (K.kept hg2 Q4.out (fun k hk => by cases hk; omega))
  have R5 := Lib.hid (K.kept hg2 R4.out (fun k hk => by cases hk; omega))
  have C5 := Lib.hid hc2
  have G5 := Lib.hid (grownBy_trans G4.out hg2)
  have D5 := Lib.hid (own_grown D4.out hg2 (fun k hk e => by have := (D4.out.lt k hk).1; cases e; omega))
  have S5 := Lib.hid (own_grown S4.out hg2 (fun k hk e => by have := (S4.out.lt k hk).1; cases e; omega))
  clear hc2 hg2 Q4 R4 C4 G4 D4 S4
  have c2 := K.cell Q5.out 2 _ rfl
  have f2 := frozen_of_row _ _ 2 _ _ Q5.out
  have Q6 : Hid ((w5.setCell ⟨w0.heap.size, 2, none⟩ (.int .i64 z)).heap[w0.heap.size]? = some (.cells #[.int .i64 x.dscp, .int .i64 x.ecn, .int .i64 z, .int .i64 x.flags, .int .i64 x.frag, .int .i64 x.ttl, .int .i64 x.proto, .int .i64 x.src.k, .int .i64 x.src.a, .int .i64 x.src.b, .int .i64 x.src.c, .int .i64 x.src.d, .int .i64 x.dst.k, .int .i64 x.dst.a, .int .i64 x.dst.b, .int .i64 x.dst.c, .int .i64 x.dst.d, .slice O os.length oc, .slice D ds.length d] 52 (0, 0))) := Lib.hid (K.set (Q5.out) 2 (.int .i64 z))
  have R6 : Hid ((w5.setCell ⟨w0.heap.size, 2, none⟩ (.int .i64 z)).heap[w.heap.size]? = some (.cells #[.int .i64 0, .int .i64 0, .int .i64 0, .int .i64 0, .int .i64 0, .int .i64 0, .int .i64 0, .int .i64 0, .int .i64 0, .int .i64 0, .int .i64 0, .int .i64 0, .int .i64 0, .int .i64 0, .int .i64 0, .int .i64 0, .int .i64 0, .slice none 0 0, .slice none 0 0] 52 (0, 0))) := Lib.hid (K.setFrom_other [.int .i64 z] 2 R5.out (show w.heap.size ≠ w0.heap.size by omega))
  have C6 := Lib.hid (show CurS (w5.setCell ⟨w0.heap.size, 2, none⟩ (.int .i64 z)) g A c bs _ _ from C5.out.grownBy (K.setFrom_selfE [.int .i64 z] w5 w0.heap.size 2) (fun u hu => by cases hu; omega))
  have G6 := Lib.hid (show w.grownBy (w5.setCell ⟨w0.heap.size, 2, none⟩ (.int .i64 z)) (some g) from K.setFrom_grown (g := w0.heap.size) [.int .i64 z] 2 G5.out (by omega))
  have D6 := Lib.hid (show (w5.setCell ⟨w0.heap.size, 2, none⟩ (.int .i64 z)).ownsRow _ 5 1 _ _ _ from own_grown D5.out (K.setFrom_selfE [.int .i64 z] w5 w0.heap.size 2) (fun k hk e => by cases e; have := ND.out _ hk; omega))
  have S6 := Lib.hid (show (w5.setCell ⟨w0.heap.size, 2, none⟩ (.int .i64 z)).ownsRow _ 5 1 _ _ _ from own_grown S5.out (K.setFrom_selfE [.int .i64 z] w5 w0.heap.size 2) (fun k hk e => by cases e; have := NS.out _ hk; omega))
  go_wp2_with (first | (with_reducible refine loadF rfl _ rfl w0.heap.size rfl Q6.out ?_) | (with_reducible refine storeF rfl _ _ rfl w.heap.size rfl rfl R6.out ?_))
  (try simp only [Exit.inBlock, Exit.then])
  refine bodyPost_ret (v := .agg #[.int .i64 x.dscp, .int .i64 x.ecn, .int .i64 z, .int .i64 x.flags, .int .i64 x.frag, .int .i64 x.ttl, .int .i64 x.proto, .int .i64 x.src.k, .int .i64 x.src.a, .int .i64 x.src.b, .int .i64 x.src.c, .int .i64 x.src.d, .int .i64 x.dst.k, .int .i64 x.dst.a, .int .i64 x.dst.b, .int .i64 x.dst.c, .int .i64 x.dst.d, .slice O os.length oc, .slice D ds.length d]) ?_ rfl ⟨O, oc, D, d, rfl, ?_, ?_, ?_, ?_⟩
  · exact resF Try.results74 _ _ w.heap.size rfl (setRow_heap _ _ _ _ _ _ R6.out)
  · have this := own_base (base' := w.heap.size) (K.setRow_own (g := w.heap.size) #[.int .i64 x.dscp, .int .i64 x.ecn, .int .i64 z, .int .i64 x.flags, .int .i64 x.frag, .int .i64 x.ttl, .int .i64 x.proto, .int .i64 x.src.k, .int .i64 x.src.a, .int .i64 x.src.b, .int .i64 x.src.c, .int .i64 x.src.d, .int .i64 x.dst.k, .int .i64 x.dst.a, .int .i64 x.dst.b, .int .i64 x.dst.c, .int .i64 x.dst.d, .slice O os.length oc, .slice D ds.length d] S6.out (by omega)) (by omega)
    exact this
  · have this := own_base (base' := w.heap.size) (K.setRow_own (g := w.heap.size) #[.int .i64 x.dscp, .int .i64 x.ecn, .int .i64 z, .int .i64 x.flags, .int .i64 x.frag, .int .i64 x.ttl, .int .i64 x.proto, .int .i64 x.src.k, .int .i64 x.src.a, .int .i64 x.src.b, .int .i64 x.src.c, .int .i64 x.src.d, .int .i64 x.dst.k, .int .i64 x.dst.a, .int .i64 x.dst.b, .int .i64 x.dst.c, .int .i64 x.dst.d, .slice O os.length oc, .slice D ds.length d] D6.out (by omega)) (by omega)
    exact this
  · exact C6.out.grownBy (K.setRow_grown _ _ _) (fun u hu => by cases hu; omega)
  · exact grown_other G6.out (K.setRow_grown _ _ _) (fun u hu => by cases hu; omega)

set_option maxHeartbeats 4000000 in
theorem badFour_8 (bs : List UInt8) (t s : Nat) (_ : t ≤ 700000000000) (x : Fh) (os : List UInt8) (t1 s1 : Nat) (hos : os.length ≤ 40) (_ : t1 ≤ t + 100) (HF : Hid (∀ (w : World) (g : Nat) (A : Option Addr) (c : Nat), CurS w g A c bs t s → Calls Try.prog 99 #[.pointer (some ⟨g, 0, none⟩)] w (GivesFour w g A c bs t1 s1 x os [])))
    (ds : List UInt8) (t2 s2 : Nat) (hds : ds.length ≤ 50) (_ : t2 ≤ t1 + 50 + 1) (HB : Hid (∀ (w : World) (g : Nat) (A : Option Addr) (c : Nat), CurS w g A c bs t1 s1 → Calls Try.prog 95 #[.pointer (some ⟨g, 0, none⟩), .int .i64 (50 : Int)] w (GivesB w g A c bs t2 s2 ds))) (k : Int) (s3 : Nat) (hk : 7 < k) (HK : Hid (∀ (w : World) (g : Nat) (A : Option Addr) (c : Nat), CurS w g A c bs t2 s2 → Calls Try.prog 96 #[.pointer (some ⟨g, 0, none⟩), .int .i64 12] w (Gives w g A c bs (t2 + 1) s3 k))) :
    ∃ (x : Fh) (os ds : List UInt8) (t' s' : Nat), os.length ≤ 45 ∧ ds.length ≤ 1480 ∧ ∀ (w : World) (g : Nat) (A : Option Addr) (c : Nat), CurS w g A c bs t s → Calls Try.prog 74 #[.pointer (some ⟨g, 0, none⟩)] w (GivesFour w g A c bs t' s' x os ds) := by
  refine ⟨⟨x.dscp, x.ecn, x.id, x.flags, x.frag, x.ttl, x.proto, ⟨x.src.k, x.src.a, x.src.b, x.src.c, x.src.d⟩, ⟨x.dst.k, x.dst.a, x.dst.b, x.dst.c, x.dst.d⟩⟩, os, ds, t2 + 1, s3, by omega, by omega, fun w g A c hc0 => ?_⟩
  have hgl := hc0.lt
  have CUR0 := Lib.hid (hc0.below (Joins.below_alloc1 w (.cells #[.int .i64 0, .int .i64 0, .int .i64 0, .int .i64 0, .int .i64 0, .int .i64 0, .int .i64 0, .int .i64 0, .int .i64 0, .int .i64 0, .int .i64 0, .int .i64 0, .int .i64 0, .int .i64 0, .int .i64 0, .int .i64 0, .int .i64 0, .slice none 0 0, .slice none 0 0] 52)))
  have r0 := Lib.hid (K.new w (.cells #[.int .i64 0, .int .i64 0, .int .i64 0, .int .i64 0, .int .i64 0, .int .i64 0, .int .i64 0, .int .i64 0, .int .i64 0, .int .i64 0, .int .i64 0, .int .i64 0, .int .i64 0, .int .i64 0, .int .i64 0, .int .i64 0, .int .i64 0, .slice none 0 0, .slice none 0 0] 52))
  clear hc0
  go_enter Try.func74, Try.ntmps74
  go_wp2_with fail
  refine Calls.mono (HF.out _ g A c CUR0.out) ?_
  rintro e w0 ⟨O, oc, D0, dc0, rfl, o0, _, hc2, hg2⟩
  have hb4 : w.heap.size + 1 ≤ w0.heap.size := by have := hg2.size; simpa using this
  have Q1 : Hid ((w0.alloc (.cells #[.int .i64 x.dscp, .int .i64 x.ecn, .int .i64 x.id, .int .i64 x.flags, .int .i64 x.frag, .int .i64 x.ttl, .int .i64 x.proto, .int .i64 x.src.k, .int .i64 x.src.a, .int .i64 x.src.b, .int .i64 x.src.c, .int .i64 x.src.d, .int .i64 x.dst.k, .int .i64 x.dst.a, .int .i64 x.dst.b, .int .i64 x.dst.c, .int .i64 x.dst.d, .slice O os.length oc, .slice D0 ([] : List UInt8).length dc0] 52)).heap[w0.heap.size]? = some (.cells #[.int .i64 x.dscp, .int .i64 x.ecn, .int .i64 x.id, .int .i64 x.flags, .int .i64 x.frag, .int .i64 x.ttl, .int .i64 x.proto, .int .i64 x.src.k, .int .i64 x.src.a, .int .i64 x.src.b, .int .i64 x.src.c, .int .i64 x.src.d, .int .i64 x.dst.k, .int .i64 x.dst.a, .int .i64 x.dst.b, .int .i64 x.dst.c, .int .i64 x.dst.d, .slice O os.length oc, .slice D0 ([] : List UInt8).length dc0] 52 (0, 0))) := Lib.hid (K.new w0 _)
  have R1 := Lib.hid (K.old (K.kept hg2 r0.out (fun k hk => by cases hk; omega)) (.cells #[.int .i64 x.dscp, .int .i64 x.ecn, .int .i64 x.id, .int .i64 x.flags, .int .i64 x.frag, .int .i64 x.ttl, .int .i64 x.proto, .int .i64 x.src.k, .int .i64 x.src.a, .int .i64 x.src.b, .int .i64 x.src.c, .int .i64 x.src.d, .int .i64 x.dst.k, .int .i64 x.dst.a, .int .i64 x.dst.b, .int .i64 x.dst.c, .int .i64 x.dst.d, .slice O os.length oc, .slice D0 ([] : List UInt8).length dc0] 52))
  have C1 := Lib.hid (hc2.below (Joins.below_alloc1 w0 (.cells #[.int .i64 x.dscp, .int .i64 x.ecn, .int .i64 x.id, .int .i64 x.flags, .int .i64 x.frag, .int .i64 x.ttl, .int .i64 x.proto, .int .i64 x.src.k, .int .i64 x.src.a, .int .i64 x.src.b, .int .i64 x.src.c, .int .i64 x.src.d, .int .i64 x.dst.k, .int .i64 x.dst.a, .int .i64 x.dst.b, .int .i64 x.dst.c, .int .i64 x.dst.d, .slice O os.length oc, .slice D0 ([] : List UInt8).length dc0] 52)))
  have G1 := Lib.hid (only_new (grownBy_trans (only_new (K.refl w (some g)) (.cells #[.int .i64 0, .int .i64 0, .int .i64 0, .int .i64 0, .int .i64 0, .int .i64 0, .int .i64 0, .int .i64 0, .int .i64 0, .int .i64 0, .int .i64 0, .int .i64 0, .int .i64 0, .int .i64 0, .int .i64 0, .int .i64 0, .int .i64 0, .slice none 0 0, .slice none 0 0] 52)) hg2) (.cells #[.int .i64 x.dscp, .int .i64 x.ecn, .int .i64 x.id, .int .i64 x.flags, .int .i64 x.frag, .int .i64 x.ttl, .int .i64 x.proto, .int .i64 x.src.k, .int .i64 x.src.a, .int .i64 x.src.b, .int .i64 x.src.c, .int .i64 x.src.d, .int .i64 x.dst.k, .int .i64 x.dst.a, .int .i64 x.dst.b, .int .i64 x.dst.c, .int .i64 x.dst.d, .slice O os.length oc, .slice D0 ([] : List UInt8).length dc0] 52))
  have S1 := Lib.hid (World.ownsRow.alloc (own_base o0 (show w.heap.size + 1 ≤ _ by simp)) (.cells #[.int .i64 x.dscp, .int .i64 x.ecn, .int .i64 x.id, .int .i64 x.flags, .int .i64 x.frag, .int .i64 x.ttl, .int .i64 x.proto, .int .i64 x.src.k, .int .i64 x.src.a, .int .i64 x.src.b, .int .i64 x.src.c, .int .i64 x.src.d, .int .i64 x.dst.k, .int .i64 x.dst.a, .int .i64 x.dst.b, .int .i64 x.dst.c, .int .i64 x.dst.d, .slice O os.length oc, .slice D0 ([] : List UInt8).length dc0] 52))
  have NS := Lib.hid (show ∀ k, (Value.slice O os.length oc).ownBlock = some k → k ≠ w0.heap.size from fun k hk => by have := (o0.lt k hk).2; omega)
  clear hc2 hg2 o0 CUR0 r0
  go_wp2_with (with_reducible refine storeNewF rfl _ _ rfl rfl rfl ?_)
  refine Calls.mono (HB.out _ g A c C1.out) ?_
  rintro e w2 ⟨D, d, rfl, o2, hc2, hg2⟩
  have Q2 := Lib.hid (K.kept hg2 Q1.out (fun k hk => by cases hk; omega))
  have R2 := Lib.hid (K.kept hg2 R1.out (fun k hk => by cases hk; omega))
  have C2 := Lib.hid hc2
  have G2 := Lib.hid (grownBy_trans G1.out hg2)
  have S2 := Lib.hid (own_grown S1.out hg2 (fun k hk e => by have := (S1.out.lt k hk).1; cases e; omega))
  have D2 := Lib.hid (own_base o2 (show w0.heap.size + 1 ≤ _ by simp))
  have ND := Lib.hid (show ∀ k, (Value.slice D ds.length d).ownBlock = some k → k ≠ w0.heap.size from fun k hk => by have := (D2.out.lt k hk).1; omega)
  clear hc2 hg2 o2 Q1 R1 C1 G1 S1
  have c18 := K.cell Q2.out 18 _ rfl
  have f18 := frozen_of_row _ _ 18 _ _ Q2.out
  have Q3 : Hid ((w2.setCell ⟨w0.heap.size, 18, none⟩ (.slice D ds.length d)).heap[w0.heap.size]? = some (.cells #[.int .i64 x.dscp, .int .i64 x.ecn, .int .i64 x.id, .int .i64 x.flags, .int .i64 x.frag, .int .i64 x.ttl, .int .i64 x.proto, .int .i64 x.src.k, .int .i64 x.src.a, .int .i64 x.src.b, .int .i64 x.src.c, .int .i64 x.src.d, .int .i64 x.dst.k, .int .i64 x.dst.a, .int .i64 x.dst.b, .int .i64 x.dst.c, .int .i64 x.dst.d, .slice O os.length oc, .slice D ds.length d] 52 (0, 0))) := Lib.hid (K.set (Q2.out) 18 (.slice D ds.length d))
  have R3 : Hid ((w2.setCell ⟨w0.heap.size, 18, none⟩ (.slice D ds.length d)).heap[w.heap.size]? = some (.cells #[.int .i64 0, .int .i64 0, .int .i64 0, .int .i64 0, .int .i64 0, .int .i64 0, .int .i64 0, .int .i64 0, .int .i64 0, .int .i64 0, .int .i64 0, .int .i64 0, .int .i64 0, .int .i64 0, .int .i64 0, .int .i64 0, .int .i64 0, .slice none 0 0, .slice none 0 0] 52 (0, 0))) := Lib.hid (K.setFrom_other [.slice D ds.length d] 18 R2.out (show w.heap.size ≠ w0.heap.size by omega))
  have C3 := Lib.hid (show CurS (w2.setCell ⟨w0.heap.size, 18, none⟩ (.slice D ds.length d)) g A c bs _ _ from C2.out.grownBy (K.setFrom_selfE [.slice D ds.length d] w2 w0.heap.size 18) (fun u hu => by cases hu; omega))
  have G3 := Lib.hid (show w.grownBy (w2.setCell ⟨w0.heap.size, 18, none⟩ (.slice D ds.length d)) (some g) from K.setFrom_grown (g := w0.heap.size) [.slice D ds.length d] 18 G2.out (by omega))
  have D3 := Lib.hid (show (w2.setCell ⟨w0.heap.size, 18, none⟩ (.slice D ds.length d)).ownsRow _ 5 1 _ _ _ from own_grown D2.out (K.setFrom_selfE [.slice D ds.length d] w2 w0.heap.size 18) (fun k hk e => by cases e; have := ND.out _ hk; omega))
  have S3 := Lib.hid (show (w2.setCell ⟨w0.heap.size, 18, none⟩ (.slice D ds.length d)).ownsRow _ 5 1 _ _ _ from own_grown S2.out (K.setFrom_selfE [.slice D ds.length d] w2 w0.heap.size 18) (fun k hk e => by cases e; have := NS.out _ hk; omega))
  go_wp2_with fail
  clear c18 f18 Q2 R2 C2 G2 D2 S2
  refine Calls.mono (HK.out _ g A c C3.out) ?_
  rintro e w4 ⟨rfl, hc2, hg2⟩
  have Q4 := Lib.hid (K.kept hg2 Q3.out (fun k hk => by cases hk; omega))
  have R4 := Lib.hid (K.kept hg2 R3.out (fun k hk => by cases hk; omega))
  have C4 := Lib.hid hc2
  have G4 := Lib.hid (grownBy_trans G3.out hg2)
  have D4 := Lib.hid (own_grown D3.out hg2 (fun k hk e => by have := (D3.out.lt k hk).1; cases e; omega))
  have S4 := Lib.hid (own_grown S3.out hg2 (fun k hk e => by have := (S3.out.lt k hk).1; cases e; omega))
  clear hc2 hg2 Q3 R3 C3 G3 D3 S3
  go_wp2_with (first | (with_reducible refine loadF rfl _ rfl w0.heap.size rfl Q4.out ?_) | (with_reducible refine storeF rfl _ _ rfl w.heap.size rfl rfl R4.out ?_))
  (try simp only [Exit.inBlock, Exit.then])
  refine bodyPost_ret (v := .agg #[.int .i64 x.dscp, .int .i64 x.ecn, .int .i64 x.id, .int .i64 x.flags, .int .i64 x.frag, .int .i64 x.ttl, .int .i64 x.proto, .int .i64 x.src.k, .int .i64 x.src.a, .int .i64 x.src.b, .int .i64 x.src.c, .int .i64 x.src.d, .int .i64 x.dst.k, .int .i64 x.dst.a, .int .i64 x.dst.b, .int .i64 x.dst.c, .int .i64 x.dst.d, .slice O os.length oc, .slice D ds.length d]) ?_ rfl ⟨O, oc, D, d, rfl, ?_, ?_, ?_, ?_⟩
  · exact resF Try.results74 _ _ w.heap.size rfl (setRow_heap _ _ _ _ _ _ R4.out)
  · have this := own_base (base' := w.heap.size) (K.setRow_own (g := w.heap.size) #[.int .i64 x.dscp, .int .i64 x.ecn, .int .i64 x.id, .int .i64 x.flags, .int .i64 x.frag, .int .i64 x.ttl, .int .i64 x.proto, .int .i64 x.src.k, .int .i64 x.src.a, .int .i64 x.src.b, .int .i64 x.src.c, .int .i64 x.src.d, .int .i64 x.dst.k, .int .i64 x.dst.a, .int .i64 x.dst.b, .int .i64 x.dst.c, .int .i64 x.dst.d, .slice O os.length oc, .slice D ds.length d] S4.out (by omega)) (by omega)
    exact this
  · have this := own_base (base' := w.heap.size) (K.setRow_own (g := w.heap.size) #[.int .i64 x.dscp, .int .i64 x.ecn, .int .i64 x.id, .int .i64 x.flags, .int .i64 x.frag, .int .i64 x.ttl, .int .i64 x.proto, .int .i64 x.src.k, .int .i64 x.src.a, .int .i64 x.src.b, .int .i64 x.src.c, .int .i64 x.src.d, .int .i64 x.dst.k, .int .i64 x.dst.a, .int .i64 x.dst.b, .int .i64 x.dst.c, .int .i64 x.dst.d, .slice O os.length oc, .slice D ds.length d] D4.out (by omega)) (by omega)
    exact this
  · exact C4.out.grownBy (K.setRow_grown _ _ _) (fun u hu => by cases hu; omega)
  · exact grown_other G4.out (K.setRow_grown _ _ _) (fun u hu => by cases hu; omega)
end Go.Proofs.Ytegpaocoepcemaa

namespace Go.Proofs.Ytegpaocoepcemaa
set_option maxRecDepth 100000
open Go.RowKit

set_option maxHeartbeats 4000000 in
theorem badFour_4 (bs : List UInt8) (t s : Nat) (ht : t ≤ 700000000000) (x : Fh) (os : List UInt8) (t1 s1 : Nat) (_ : os.length ≤ 40) (ht1 : t1 ≤ t + 100) (HF : Hid (∀ (w : World) (g : Nat) (A : Option Addr) (c : Nat), CurS w g A c bs t s → Calls Try.prog 99 #[.pointer (some ⟨g, 0, none⟩)] w (GivesFour w g A c bs t1 s1 x os [])))
    (ds : List UInt8) (t2 s2 : Nat) (hds : ds.length ≤ 50) (ht2 : t2 ≤ t1 + 50 + 1) (HB : Hid (∀ (w : World) (g : Nat) (A : Option Addr) (c : Nat), CurS w g A c bs t1 s1 → Calls Try.prog 95 #[.pointer (some ⟨g, 0, none⟩), .int .i64 (50 : Int)] w (GivesB w g A c bs t2 s2 ds))) (k : Int) (s3 : Nat) (hk : k = 4) (HK : Hid (∀ (w : World) (g : Nat) (A : Option Addr) (c : Nat), CurS w g A c bs t2 s2 → Calls Try.prog 96 #[.pointer (some ⟨g, 0, none⟩), .int .i64 12] w (Gives w g A c bs (t2 + 1) s3 k))) :
    ∃ (x : Fh) (os ds : List UInt8) (t' s' : Nat), os.length ≤ 45 ∧ ds.length ≤ 1480 ∧ ∀ (w : World) (g : Nat) (A : Option Addr) (c : Nat), CurS w g A c bs t s → Calls Try.prog 74 #[.pointer (some ⟨g, 0, none⟩)] w (GivesFour w g A c bs t' s' x os ds) := by
  subst hk
  obtain ⟨q, s4, loq, upq, hd⟩ := pickE bs (t2 + 1) s3 46 (by omega) (by omega) (by omega)
  have H4 := Lib.hid hd
  clear hd
  obtain ⟨y, rfl⟩ : ∃ k : Nat, q = k := ⟨q.toNat, by omega⟩
  refine ⟨⟨x.dscp, x.ecn, x.id, x.flags, x.frag, x.ttl, x.proto, ⟨x.src.k, x.src.a, x.src.b, x.src.c, x.src.d⟩, ⟨x.dst.k, x.dst.a, x.dst.b, x.dst.c, x.dst.d⟩⟩, (List.replicate y 0), ds, t2 + 1 + 1, s4, by simp; omega, by omega, fun w g A c hc0 => ?_⟩
  have hgl := hc0.lt
  have CUR0 := Lib.hid (hc0.below (Joins.below_alloc1 w (.cells #[.int .i64 0, .int .i64 0, .int .i64 0, .int .i64 0, .int .i64 0, .int .i64 0, .int .i64 0, .int .i64 0, .int .i64 0, .int .i64 0, .int .i64 0, .int .i64 0, .int .i64 0, .int .i64 0, .int .i64 0, .int .i64 0, .int .i64 0, .slice none 0 0, .slice none 0 0] 52)))
  have r0 := Lib.hid (K.new w (.cells #[.int .i64 0, .int .i64 0, .int .i64 0, .int .i64 0, .int .i64 0, .int .i64 0, .int .i64 0, .int .i64 0, .int .i64 0, .int .i64 0, .int .i64 0, .int .i64 0, .int .i64 0, .int .i64 0, .int .i64 0, .int .i64 0, .int .i64 0, .slice none 0 0, .slice none 0 0] 52))
  clear hc0
  go_enter Try.func74, Try.ntmps74
  go_wp2_with fail
  refine Calls.mono (HF.out _ g A c CUR0.out) ?_
  rintro e w0 ⟨O, oc, D0, dc0, rfl, o0, _, hc2, hg2⟩
  have hb4 : w.heap.size + 1 ≤ w0.heap.size := by have := hg2.size; simpa using this
  have Q1 : Hid ((w0.alloc (.cells #[.int .i64 x.dscp, .int .i64 x.ecn, .int .i64 x.id, .int .i64 x.flags, .int .i64 x.frag, .int .i64 x.ttl, .int .i64 x.proto, .int .i64 x.src.k, .int .i64 x.src.a, .int .i64 x.src.b, .int .i64 x.src.c, .int .i64 x.src.d, .int .i64 x.dst.k, .int .i64 x.dst.a, .int .i64 x.dst.b, .int .i64 x.dst.c, .int .i64 x.dst.d, .slice O os.length oc, .slice D0 ([] : List UInt8).length dc0] 52)).heap[w0.heap.size]? = some (.cells #[.int .i64 x.dscp, .int .i64 x.ecn, .int .i64 x.id, .int .i64 x.flags, .int .i64 x.frag, .int .i64 x.ttl, .int .i64 x.proto, .int .i64 x.src.k, .int .i64 x.src.a, .int .i64 x.src.b, .int .i64 x.src.c, .int .i64 x.src.d, .int .i64 x.dst.k, .int .i64 x.dst.a, .int .i64 x.dst.b, .int .i64 x.dst.c, .int .i64 x.dst.d, .slice O os.length oc, .slice D0 ([] : List UInt8).length dc0] 52 (0, 0))) := Lib.hid (K.new w0 _)
  have R1 := Lib.hid (K.old (K.kept hg2 r0.out (fun k hk => by cases hk; omega)) (.cells #[.int .i64 x.dscp, .int .i64 x.ecn, .int .i64 x.id, .int .i64 x.flags, .int .i64 x.frag, .int .i64 x.ttl, .int .i64 x.proto, .int .i64 x.src.k, .int .i64 x.src.a, .int .i64 x.src.b, .int .i64 x.src.c, .int .i64 x.src.d, .int .i64 x.dst.k, .int .i64 x.dst.a, .int .i64 x.dst.b, .int .i64 x.dst.c, .int .i64 x.dst.d, .slice O os.length oc, .slice D0 ([] : List UInt8).length dc0] 52))
  have C1 := Lib.hid (hc2.below (Joins.below_alloc1 w0 (.cells #[.int .i64 x.dscp, .int .i64 x.ecn, .int .i64 x.id, .int .i64 x.flags, .int .i64 x.frag, .int .i64 x.ttl, .int .i64 x.proto, .int .i64 x.src.k, .int .i64 x.src.a, .int .i64 x.src.b, .int .i64 x.src.c, .int .i64 x.src.d, .int .i64 x.dst.k, .int .i64 x.dst.a, .int .i64 x.dst.b, .int .i64 x.dst.c, .int .i64 x.dst.d, .slice O os.length oc, .slice D0 ([] : List UInt8).length dc0] 52)))
  have G1 := Lib.hid (only_new (grownBy_trans (only_new (K.refl w (some g)) (.cells #[.int .i64 0, .int .i64 0, .int .i64 0, .int .i64 0, .int .i64 0, .int .i64 0, .int .i64 0, .int .i64 0, .int .i64 0, .int .i64 0, .int .i64 0, .int .i64 0, .int .i64 0, .int .i64 0, .int .i64 0, .int .i64 0, .int .i64 0, .slice none 0 0, .slice none 0 0] 52)) hg2) (.cells #[.int .i64 x.dscp, .int .i64 x.ecn, .int .i64 x.id, .int .i64 x.flags, .int .i64 x.frag, .int .i64 x.ttl, .int .i64 x.proto, .int .i64 x.src.k, .int .i64 x.src.a, .int .i64 x.src.b, .int .i64 x.src.c, .int .i64 x.src.d, .int .i64 x.dst.k, .int .i64 x.dst.a, .int .i64 x.dst.b, .int .i64 x.dst.c, .int .i64 x.dst.d, .slice O os.length oc, .slice D0 ([] : List UInt8).length dc0] 52))
  have S1 := Lib.hid (World.ownsRow.alloc (own_base o0 (show w.heap.size + 1 ≤ _ by simp)) (.cells #[.int .i64 x.dscp, .int .i64 x.ecn, .int .i64 x.id, .int .i64 x.flags, .int .i64 x.frag, .int .i64 x.ttl, .int .i64 x.proto, .int .i64 x.src.k, .int .i64 x.src.a, .int .i64 x.src.b, .int .i64 x.src.c, .int .i64 x.src.d, .int .i64 x.dst.k, .int .i64 x.dst.a, .int .i64 x.dst.b, .int .i64 x.dst.c, .int .i64 x.dst.d, .slice O os.length oc, .slice D0 ([] : List UInt8).length dc0] 52))
  have NS := Lib.hid (show ∀ k, (Value.slice O os.length oc).ownBlock = some k → k ≠ w0.heap.size from fun k hk => by have := (o0.lt k hk).2; omega)
  clear hc2 hg2 o0 CUR0 r0
  go_wp2_with (with_reducible refine storeNewF rfl _ _ rfl rfl rfl ?_)
  refine Calls.mono (HB.out _ g A c C1.out) ?_
  rintro e w2 ⟨D, d, rfl, o2, hc2, hg2⟩
  have Q2 := Lib.hid (K.kept hg2 Q1.out (fun k hk => by cases hk; omega))
  have R2 := Lib.hid (K.kept hg2 R1.out (fun k hk => by cases hk; omega))
  have C2 := Lib.hid hc2
  have G2 := Lib.hid (grownBy_trans G1.out hg2)
  have S2 := Lib.hid (own_grown S1.out hg2 (fun k hk e => by have := (S1.out.lt k hk).1; cases e; omega))
  have D2 := Lib.hid (own_base o2 (show w0.heap.size + 1 ≤ _ by simp))
  have ND := Lib.hid (show ∀ k, (Value.slice D ds.length d).ownBlock = some k → k ≠ w0.heap.size from fun k hk => by have := (D2.out.lt k hk).1; omega)
  clear hc2 hg2 o2 Q1 R1 C1 G1 S1
  have c18 := K.cell Q2.out 18 _ rfl
  have f18 := frozen_of_row _ _ 18 _ _ Q2.out
  have Q3 : Hid ((w2.setCell ⟨w0.heap.size, 18, none⟩ (.slice D ds.length d)).heap[w0.heap.size]? = some (.cells #[.int .i64 x.dscp, .int .i64 x.ecn, .int .i64 x.id, .int .i64 x.flags, .int .i64 x.frag, .int .i64 x.ttl, .int .i64 x.proto, .int .i64 x.src.k, .int .i64 x.src.a, .int .i64 x.src.b, .int .i64 x.src.c, .int .i64 x.src.d, .int .i64 x.dst.k, .int .i64 x.dst.a, .int .i64 x.dst.b, .int .i64 x.dst.c, .int .i64 x.dst.d, .slice O os.length oc, .slice D ds.length d] 52 (0, 0))) := Lib.hid (K.set (Q2.out) 18 (.slice D ds.length d))
  have R3 : Hid ((w2.setCell ⟨w0.heap.size, 18, none⟩ (.slice D ds.length d)).heap[w.heap.size]? = some (.cells #[.int .i64 0, .int .i64 0, .int .i64 0, .int .i64 0, .int .i64 0, .int .i64 0, .int .i64 0, .int .i64 0, .int .i64 0, .int .i64 0, .int .i64 0, .int .i64 0, .int .i64 0, .int .i64 0, .int .i64 0, .int .i64 0, .int .i64 0, .slice none 0 0, .slice none 0 0] 52 (0, 0))) := Lib.hid (K.setFrom_other [.slice D ds.length d] 18 R2.out (show w.heap.size ≠ w0.heap.size by omega))
  have C3 := Lib.hid (show CurS (w2.setCell ⟨w0.heap.size, 18, none⟩ (.slice D ds.length d)) g A c bs _ _ from C2.out.grownBy (K.setFrom_selfE [.slice D ds.length d] w2 w0.heap.size 18) (fun u hu => by cases hu; omega))
  have G3 := Lib.hid (show w.grownBy (w2.setCell ⟨w0.heap.size, 18, none⟩ (.slice D ds.length d)) (some g) from K.setFrom_grown (g := w0.heap.size) [.slice D ds.length d] 18 G2.out (by omega))
  have D3 := Lib.hid (show (w2.setCell ⟨w0.heap.size, 18, none⟩ (.slice D ds.length d)).ownsRow _ 5 1 _ _ _ from own_grown D2.out (K.setFrom_selfE [.slice D ds.length d] w2 w0.heap.size 18) (fun k hk e => by cases e; have := ND.out _ hk; omega))
  have S3 := Lib.hid (show (w2.setCell ⟨w0.heap.size, 18, none⟩ (.slice D ds.length d)).ownsRow _ 5 1 _ _ _ from own_grown S2.out (K.setFrom_selfE [.slice D ds.length d] w2 w0.heap.size 18) (fun k hk e => by cases e; have := NS.out _ hk; omega))
  go_wp2_with fail
  clear c18 f18 Q2 R2 C2 G2 D2 S2
  refine Calls.mono (HK.out _ g A c C3.out) ?_
  rintro e w4 ⟨rfl, hc2, hg2⟩
  have Q4 := Lib.hid (K.kept hg2 Q3.out (fun k hk => by cases hk; omega))
  have R4 := Lib.hid (K.kept hg2 R3.out (fun k hk => by cases hk; omega))
  have C4 := Lib.hid hc2
  have G4 := Lib.hid (grownBy_trans G3.out hg2)
  have D4 := Lib.hid (own_grown D3.out hg2 (fun k hk e => by have := (D3.out.lt k hk).1; cases e; omega))
  have S4 := Lib.hid (own_grown S3.out hg2 (fun k hk e => by have := (S3.out.lt k hk).1; cases e; omega))
  clear hc2 hg2 Q3 R3 C3 G3 D3 S3
  go_wp2_with fail
  refine Calls.mono (H4.out _ g A c C4.out) ?_
  rintro e w5 ⟨rfl, hc2, hg2⟩
  have Q5 := Lib.hid (K.kept hg2 Q4.out (fun k hk => by cases hk; omega))
  have R5 := Lib.hid (K.kept hg2 R4.out (fun k hk => by cases hk; omega))
  have C5 := Lib.hid hc2
  have G5 := Lib.hid (grownBy_trans G4.out hg2)
  have D5 := Lib.hid (own_grown D4.out hg2 (fun k hk e => by have := (D4.out.lt k hk).1; cases e; omega))
  have S5 := Lib.hid (own_grown S4.out hg2 (fun k hk e => by have := (S4.out.lt k hk).1; cases e; omega))
  clear hc2 hg2 Q4 R4 C4 G4 D4 S4
  have hlt3 := K.lt Q5.out
  obtain ⟨i0, hi0, hz0, hz1, hz2⟩ := info_parts info_u8
  go_wp2_with (first | (at_make; refine wpList_make_full _ rfl _ _ 28 rfl (w0.heap.size + 1) 5 i0 (.int .u8 0) 1 Try.underlying28 hi0 hz0 hz1 _ _ _ _ y rfl rfl rfl rfl (by rw [hz2]; omega) (by unfold maxLen; omega) (by omega) ?_; intro w6 hown hgm; have HOM := Lib.hid hown; have HGM := Lib.hid hgm; clear hown hgm; have c17 := K.cell (K.kept HGM.out Q5.out (fun k hk => by cases hk)) 17 _ rfl; have f17 := frozen_of_row _ _ 17 _ _ (K.kept HGM.out Q5.out (fun k hk => by cases hk)); have Q6 := Lib.hid (K.kept HGM.out Q5.out (fun k hk => by cases hk)); have R6 := Lib.hid (K.kept HGM.out R5.out (fun k hk => by cases hk)); have C6 := Lib.hid (C5.out.grownBy HGM.out (fun k hk => by cases hk)); have G6 := Lib.hid (grown_other G5.out HGM.out (fun k hk => by cases hk)); have D6 := Lib.hid (own_grown D5.out HGM.out (fun k hk e => by cases e)); have S6 := Lib.hid (own_grown S5.out HGM.out (fun k hk e => by cases e)); have N6 := Lib.hid HOM.out; have NN := Lib.hid (show ∀ k, (Value.slice (some ⟨w5.heap.size, 0, none⟩) y y).ownBlock = some k → k ≠ w0.heap.size from fun k hk => by have := (HOM.out.lt k hk).1; omega); clear HOM HGM Q5 R5 C5 G5 D5 S5; have Q7 : Hid ((w6.setCell ⟨w0.heap.size, 17, none⟩ (.slice (some ⟨w5.heap.size, 0, none⟩) y y)).heap[w0.heap.size]? = some (.cells #[.int .i64 x.dscp, .int .i64 x.ecn, .int .i64 x.id, .int .i64 x.flags, .int .i64 x.frag, .int .i64 x.ttl, .int .i64 x.proto, .int .i64 x.src.k, .int .i64 x.src.a, .int .i64 x.src.b, .int .i64 x.src.c, .int .i64 x.src.d, .int .i64 x.dst.k, .int .i64 x.dst.a, .int .i64 x.dst.b, .int .i64 x.dst.c, .int .i64 x.dst.d, .slice (some ⟨w5.heap.size, 0, none⟩) y y, .slice D ds.length d] 52 (0, 0))) := Lib.hid (K.set (Q6.out) 17 (.slice (some ⟨w5.heap.size, 0, none⟩) y y)); have R7 : Hid ((w6.setCell ⟨w0.heap.size, 17, none⟩ (.slice (some ⟨w5.heap.size, 0, none⟩) y y)).heap[w.heap.size]? = some (.cells #[.int .i64 0, .int .i64 0, .int .i64 0, .int .i64 0, .int .i64 0, .int .i64 0, .int .i64 0, .int .i64 0, .int .i64 0, .int .i64 0, .int .i64 0, .int .i64 0, .int .i64 0, .int .i64 0, .int .i64 0, .int .i64 0, .int .i64 0, .slice none 0 0, .slice none 0 0] 52 (0, 0))) := Lib.hid (K.setFrom_other [.slice (some ⟨w5.heap.size, 0, none⟩) y y] 17 R6.out (show w.heap.size ≠ w0.heap.size by omega)); have C7 := Lib.hid (show CurS (w6.setCell ⟨w0.heap.size, 17, none⟩ (.slice (some ⟨w5.heap.size, 0, none⟩) y y)) g A c bs _ _ from C6.out.grownBy (K.setFrom_selfE [.slice (some ⟨w5.heap.size, 0, none⟩) y y] w6 w0.heap.size 17) (fun u hu => by cases hu; omega)); have G7 := Lib.hid (show w.grownBy (w6.setCell ⟨w0.heap.size, 17, none⟩ (.slice (some ⟨w5.heap.size, 0, none⟩) y y)) (some g) from K.setFrom_grown (g := w0.heap.size) [.slice (some ⟨w5.heap.size, 0, none⟩) y y] 17 G6.out (by omega)); have D7 := Lib.hid (show (w6.setCell ⟨w0.heap.size, 17, none⟩ (.slice (some ⟨w5.heap.size, 0, none⟩) y y)).ownsRow _ 5 1 _ _ _ from own_grown D6.out (K.setFrom_selfE [.slice (some ⟨w5.heap.size, 0, none⟩) y y] w6 w0.heap.size 17) (fun k hk e => by cases e; have := ND.out _ hk; omega)); have N7 := Lib.hid (show (w6.setCell ⟨w0.heap.size, 17, none⟩ (.slice (some ⟨w5.heap.size, 0, none⟩) y y)).ownsRow _ 5 1 _ _ _ from own_grown N6.out (K.setFrom_selfE [.slice (some ⟨w5.heap.size, 0, none⟩) y y] w6 w0.heap.size 17) (fun k hk e => by cases e; have := NN.out _ hk; omega))) | (with_reducible refine loadF rfl _ rfl w0.heap.size rfl Q7.out ?_) | (with_reducible refine storeF rfl _ _ rfl w.heap.size rfl rfl R7.out ?_))
  (try simp only [Exit.inBlock, Exit.then])
  refine bodyPost_ret (v := .agg #[.int .i64 x.dscp, .int .i64 x.ecn, .int .i64 x.id, .int .i64 x.flags, .int .i64 x.frag, .int .i64 x.ttl, .int .i64 x.proto, .int .i64 x.src.k, .int .i64 x.src.a, .int .i64 x.src.b, .int .i64 x.src.c, .int .i64 x.src.d, .int .i64 x.dst.k, .int .i64 x.dst.a, .int .i64 x.dst.b, .int .i64 x.dst.c, .int .i64 x.dst.d, .slice (some ⟨w5.heap.size, 0, none⟩) y y, .slice D ds.length d]) ?_ rfl ⟨(some ⟨w5.heap.size, 0, none⟩), y, D, d, by rw [List.length_replicate], ?_, ?_, ?_, ?_⟩
  · exact resF Try.results74 _ _ w.heap.size rfl (setRow_heap _ _ _ _ _ _ R7.out)
  · have this := own_base (base' := w.heap.size) (K.setRow_own (g := w.heap.size) #[.int .i64 x.dscp, .int .i64 x.ecn, .int .i64 x.id, .int .i64 x.flags, .int .i64 x.frag, .int .i64 x.ttl, .int .i64 x.proto, .int .i64 x.src.k, .int .i64 x.src.a, .int .i64 x.src.b, .int .i64 x.src.c, .int .i64 x.src.d, .int .i64 x.dst.k, .int .i64 x.dst.a, .int .i64 x.dst.b, .int .i64 x.dst.c, .int .i64 x.dst.d, .slice (some ⟨w5.heap.size, 0, none⟩) y y, .slice D ds.length d] N7.out (by omega)) (by omega)
    rw [made_zeroF] at this; rw [List.length_replicate]; exact this
  · have this := own_base (base' := w.heap.size) (K.setRow_own (g := w.heap.size) #[.int .i64 x.dscp, .int .i64 x.ecn, .int .i64 x.id, .int .i64 x.flags, .int .i64 x.frag, .int .i64 x.ttl, .int .i64 x.proto, .int .i64 x.src.k, .int .i64 x.src.a, .int .i64 x.src.b, .int .i64 x.src.c, .int .i64 x.src.d, .int .i64 x.dst.k, .int .i64 x.dst.a, .int .i64 x.dst.b, .int .i64 x.dst.c, .int .i64 x.dst.d, .slice (some ⟨w5.heap.size, 0, none⟩) y y, .slice D ds.length d] D7.out (by omega)) (by omega)
    exact this
  · exact C7.out.grownBy (K.setRow_grown _ _ _) (fun u hu => by cases hu; omega)
  · exact grown_other G7.out (K.setRow_grown _ _ _) (fun u hu => by cases hu; omega)
end Go.Proofs.Ytegpaocoepcemaa

namespace Go.Proofs.Ytegpaocoepcemaa
set_option maxRecDepth 100000
open Go.RowKit

set_option maxHeartbeats 4000000 in
theorem badFour_5 (bs : List UInt8) (t s : Nat) (ht : t ≤ 700000000000) (x : Fh) (os : List UInt8) (t1 s1 : Nat) (hos : os.length ≤ 40) (ht1 : t1 ≤ t + 100) (HF : Hid (∀ (w : World) (g : Nat) (A : Option Addr) (c : Nat), CurS w g A c bs t s → Calls Try.prog 99 #[.pointer (some ⟨g, 0, none⟩)] w (GivesFour w g A c bs t1 s1 x os [])))
    (ds : List UInt8) (t2 s2 : Nat) (_ : ds.length ≤ 50) (ht2 : t2 ≤ t1 + 50 + 1) (HB : Hid (∀ (w : World) (g : Nat) (A : Option Addr) (c : Nat), CurS w g A c bs t1 s1 → Calls Try.prog 95 #[.pointer (some ⟨g, 0, none⟩), .int .i64 (50 : Int)] w (GivesB w g A c bs t2 s2 ds))) (k : Int) (s3 : Nat) (hk : k = 5) (HK : Hid (∀ (w : World) (g : Nat) (A : Option Addr) (c : Nat), CurS w g A c bs t2 s2 → Calls Try.prog 96 #[.pointer (some ⟨g, 0, none⟩), .int .i64 12] w (Gives w g A c bs (t2 + 1) s3 k))) :
    ∃ (x : Fh) (os ds : List UInt8) (t' s' : Nat), os.length ≤ 45 ∧ ds.length ≤ 1480 ∧ ∀ (w : World) (g : Nat) (A : Option Addr) (c : Nat), CurS w g A c bs t s → Calls Try.prog 74 #[.pointer (some ⟨g, 0, none⟩)] w (GivesFour w g A c bs t' s' x os ds) := by
  subst hk
  obtain ⟨q, s4, loq, upq, hd⟩ := pickE bs (t2 + 1) s3 3 (by omega) (by omega) (by omega)
  have H4 := Lib.hid hd
  clear hd
  obtain ⟨y, rfl⟩ : ∃ k : Nat, q = k := ⟨q.toNat, by omega⟩
  obtain ⟨y2, hy2⟩ : ∃ k : Nat, (1480 : Int) - y = k := ⟨1480 - y, by omega⟩
  have hy3 : y2 ≤ 1480 := by omega
  refine ⟨⟨x.dscp, x.ecn, x.id, x.flags, x.frag, x.ttl, x.proto, ⟨x.src.k, x.src.a, x.src.b, x.src.c, x.src.d⟩, ⟨x.dst.k, x.dst.a, x.dst.b, x.dst.c, x.dst.d⟩⟩, os, (List.replicate y2 0), t2 + 1 + 1, s4, by omega, by simp; omega, fun w g A c hc0 => ?_⟩
  have hgl := hc0.lt
  have CUR0 := Lib.hid (hc0.below (Joins.below_alloc1 w (.cells #[.int .i64 0, .int .i64 0, .int .i64 0, .int .i64 0, .int .i64 0, .int .i64 0, .int .i64 0, .int .i64 0, .int .i64 0, .int .i64 0, .int .i64 0, .int .i64 0, .int .i64 0, .int .i64 0, .int .i64 0, .int .i64 0, .int .i64 0, .slice none 0 0, .slice none 0 0] 52)))
  have r0 := Lib.hid (K.new w (.cells #[.int .i64 0, .int .i64 0, .int .i64 0, .int .i64 0, .int .i64 0, .int .i64 0, .int .i64 0, .int .i64 0, .int .i64 0, .int .i64 0, .int .i64 0, .int .i64 0, .int .i64 0, .int .i64 0, .int .i64 0, .int .i64 0, .int .i64 0, .slice none 0 0, .slice none 0 0] 52))
  clear hc0
  go_enter Try.func74, Try.ntmps74
  go_wp2_with fail
  refine Calls.mono (HF.out _ g A c CUR0.out) ?_
  rintro e w0 ⟨O, oc, D0, dc0, rfl, o0, _, hc2, hg2⟩
  have hb4 : w.heap.size + 1 ≤ w0.heap.size := by have := hg2.size; simpa using this
  have Q1 : Hid ((w0.alloc (.cells #[.int .i64 x.dscp, .int .i64 x.ecn, .int .i64 x.id, .int .i64 x.flags, .int .i64 x.frag, .int .i64 x.ttl, .int .i64 x.proto, .int .i64 x.src.k, .int .i64 x.src.a, .int .i64 x.src.b, .int .i64 x.src.c, .int .i64 x.src.d, .int .i64 x.dst.k, .int .i64 x.dst.a, .int .i64 x.dst.b, .int .i64 x.dst.c, .int .i64 x.dst.d, .slice O os.length oc, .slice D0 ([] : List UInt8).length dc0] 52)).heap[w0.heap.size]? = some (.cells #[.int .i64 x.dscp, .int .i64 x.ecn, .int .i64 x.id, .int .i64 x.flags, .int .i64 x.frag, .int .i64 x.ttl, .int .i64 x.proto, .int .i64 x.src.k, .int .i64 x.src.a, .int .i64 x.src.b, .int .i64 x.src.c, .int .i64 x.src.d, .int .i64 x.dst.k, .int .i64 x.dst.a, .int .i64 x.dst.b, .int .i64 x.dst.c, .int .i64 x.dst.d, .slice O os.length oc, .slice D0 ([] : List UInt8).length dc0] 52 (0, 0))) := Lib.hid (K.new w0 _)
  have R1 := Lib.hid (K.old (K.kept hg2 r0.out (fun k hk => by cases hk; omega)) (.cells #[.int .i64 x.dscp, .int .i64 x.ecn, .int .i64 x.id, .int .i64 x.flags, .int .i64 x.frag, .int .i64 x.ttl, .int .i64 x.proto, .int .i64 x.src.k, .int .i64 x.src.a, .int .i64 x.src.b, .int .i64 x.src.c, .int .i64 x.src.d, .int .i64 x.dst.k, .int .i64 x.dst.a, .int .i64 x.dst.b, .int .i64 x.dst.c, .int .i64 x.dst.d, .slice O os.length oc, .slice D0 ([] : List UInt8).length dc0] 52))
  have C1 := Lib.hid (hc2.below (Joins.below_alloc1 w0 (.cells #[.int .i64 x.dscp, .int .i64 x.ecn, .int .i64 x.id, .int .i64 x.flags, .int .i64 x.frag, .int .i64 x.ttl, .int .i64 x.proto, .int .i64 x.src.k, .int .i64 x.src.a, .int .i64 x.src.b, .int .i64 x.src.c, .int .i64 x.src.d, .int .i64 x.dst.k, .int .i64 x.dst.a, .int .i64 x.dst.b, .int .i64 x.dst.c, .int .i64 x.dst.d, .slice O os.length oc, .slice D0 ([] : List UInt8).length dc0] 52)))
  have G1 := Lib.hid (only_new (grownBy_trans (only_new (K.refl w (some g)) (.cells #[.int .i64 0, .int .i64 0, .int .i64 0, .int .i64 0, .int .i64 0, .int .i64 0, .int .i64 0, .int .i64 0, .int .i64 0, .int .i64 0, .int .i64 0, .int .i64 0, .int .i64 0, .int .i64 0, .int .i64 0, .int .i64 0, .int .i64 0, .slice none 0 0, .slice none 0 0] 52)) hg2) (.cells #[.int .i64 x.dscp, .int .i64 x.ecn, .int .i64 x.id, .int .i64 x.flags, .int .i64 x.frag, .int .i64 x.ttl, .int .i64 x.proto, .int .i64 x.src.k, .int .i64 x.src.a, .int .i64 x.src.b, .int .i64 x.src.c, .int .i64 x.src.d, .int .i64 x.dst.k, .int .i64 x.dst.a, .int .i64 x.dst.b, .int .i64 x.dst.c, .int .i64 x.dst.d, .slice O os.length oc, .slice D0 ([] : List UInt8).length dc0] 52))
  have S1 := Lib.hid (World.ownsRow.alloc (own_base o0 (show w.heap.size + 1 ≤ _ by simp)) (.cells #[.int .i64 x.dscp, .int .i64 x.ecn, .int .i64 x.id, .int .i64 x.flags, .int .i64 x.frag, .int .i64 x.ttl, .int .i64 x.proto, .int .i64 x.src.k, .int .i64 x.src.a, .int .i64 x.src.b, .int .i64 x.src.c, .int .i64 x.src.d, .int .i64 x.dst.k, .int .i64 x.dst.a, .int .i64 x.dst.b, .int .i64 x.dst.c, .int .i64 x.dst.d, .slice O os.length oc, .slice D0 ([] : List UInt8).length dc0] 52))
  have NS := Lib.hid (show ∀ k, (Value.slice O os.length oc).ownBlock = some k → k ≠ w0.heap.size from fun k hk => by have := (o0.lt k hk).2; omega)
  clear hc2 hg2 o0 CUR0 r0
  go_wp2_with (with_reducible refine storeNewF rfl _ _ rfl rfl rfl ?_)
  refine Calls.mono (HB.out _ g A c C1.out) ?_
  rintro e w2 ⟨D, d, rfl, o2, hc2, hg2⟩
  have Q2 := Lib.hid (K.kept hg2 Q1.out (fun k hk => by cases hk; omega))
  have R2 := Lib.hid (K.kept hg2 R1.out (fun k hk => by cases hk; omega))
  have C2 := Lib.hid hc2
  have G2 := Lib.hid (grownBy_trans G1.out hg2)
  have S2 := Lib.hid (own_grown S1.out hg2 (fun k hk e => by have := (S1.out.lt k hk).1; cases e; omega))
  have D2 := Lib.hid (own_base o2 (show w0.heap.size + 1 ≤ _ by simp))
  have ND := Lib.hid (show ∀ k, (Value.slice D ds.length d).ownBlock = some k → k ≠ w0.heap.size from fun k hk => by have := (D2.out.lt k hk).1; omega)
  clear hc2 hg2 o2 Q1 R1 C1 G1 S1
  have c18 := K.cell Q2.out 18 _ rfl
  have f18 := frozen_of_row _ _ 18 _ _ Q2.out
  have Q3 : Hid ((w2.setCell ⟨w0.heap.size, 18, none⟩ (.slice D ds.length d)).heap[w0.heap.size]? = some (.cells #[.int .i64 x.dscp, .int .i64 x.ecn, .int .i64 x.id, .int .i64 x.flags, .int .i64 x.frag, .int .i64 x.ttl, .int .i64 x.proto, .int .i64 x.src.k, .int .i64 x.src.a, .int .i64 x.src.b, .int .i64 x.src.c, .int .i64 x.src.d, .int .i64 x.dst.k, .int .i64 x.dst.a, .int .i64 x.dst.b, .int .i64 x.dst.c, .int .i64 x.dst.d, .slice O os.length oc, .slice D ds.length d] 52 (0, 0))) := Lib.hid (K.set (Q2.out) 18 (.slice D ds.length d))
  have R3 : Hid ((w2.setCell ⟨w0.heap.size, 18, none⟩ (.slice D ds.length d)).heap[w.heap.size]? = some (.cells #[.int .i64 0, .int .i64 0, .int .i64 0, .int .i64 0, .int .i64 0, .int .i64 0, .int .i64 0, .int .i64 0, .int .i64 0, .int .i64 0, .int .i64 0, .int .i64 0, .int .i64 0, .int .i64 0, .int .i64 0, .int .i64 0, .int .i64 0, .slice none 0 0, .slice none 0 0] 52 (0, 0))) := Lib.hid (K.setFrom_other [.slice D ds.length d] 18 R2.out (show w.heap.size ≠ w0.heap.size by omega))
  have C3 := Lib.hid (show CurS (w2.setCell ⟨w0.heap.size, 18, none⟩ (.slice D ds.length d)) g A c bs _ _ from C2.out.grownBy (K.setFrom_selfE [.slice D ds.length d] w2 w0.heap.size 18) (fun u hu => by cases hu; omega))
  have G3 := Lib.hid (show w.grownBy (w2.setCell ⟨w0.heap.size, 18, none⟩ (.slice D ds.length d)) (some g) from K.setFrom_grown (g := w0.heap.size) [.slice D ds.length d] 18 G2.out (by omega))
  have D3 := Lib.hid (show (w2.setCell ⟨w0.heap.size, 18, none⟩ (.slice D ds.length d)).ownsRow _ 5 1 _ _ _ from own_grown D2.out (K.setFrom_selfE [.slice D ds.length d] w2 w0.heap.size 18) (fun k hk e => by cases e; have := ND.out _ hk; omega))
  have S3 := Lib.hid (show (w2.setCell ⟨w0.heap.size, 18, none⟩ (.slice D ds.length d)).ownsRow _ 5 1 _ _ _ from own_grown S2.out (K.setFrom_selfE [.slice D ds.length d] w2 w0.heap.size 18) (fun k hk e => by cases e; have := NS.out _ hk; omega))
  go_wp2_with fail
  clear c18 f18 Q2 R2 C2 G2 D2 S2
  refine Calls.mono (HK.out _ g A c C3.out) ?_
  rintro e w4 ⟨rfl, hc2, hg2⟩
  have Q4 := Lib.hid (K.kept hg2 Q3.out (fun k hk => by cases hk; omega))
  have R4 := Lib.hid (K.kept hg2 R3.out (fun k hk => by cases hk; omega))
  have C4 := Lib.hid hc2
  have G4 := Lib.hid (grownBy_trans G3.out hg2)
  have D4 := Lib.hid (own_grown D3.out hg2 (fun k hk e => by have := (D3.out.lt k hk).1; cases e; omega))
  have S4 := Lib.hid (own_grown S3.out hg2 (fun k hk e => by have := (S3.out.lt k hk).1; cases e; omega))
  clear hc2 hg2 Q3 R3 C3 G3 D3 S3
  go_wp2_with fail
  refine Calls.mono (H4.out _ g A c C4.out) ?_
  rintro e w5 ⟨rfl, hc2, hg2⟩
  have Q5 := Lib.hid (K.kept hg2 Q4.out (fun k hk => by cases hk; omega))
  have R5 := Lib.hid (K.kept hg2 R4.out (fun k hk => by cases hk; omega))
  have C5 := Lib.hid hc2
  have G5 := Lib.hid (grownBy_trans G4.out hg2)
  have D5 := Lib.hid (own_grown D4.out hg2 (fun k hk e => by have := (D4.out.lt k hk).1; cases e; omega))
  have S5 := Lib.hid (own_grown S4.out hg2 (fun k hk e => by have := (S4.out.lt k hk).1; cases e; omega))
  clear hc2 hg2 Q4 R4 C4 G4 D4 S4
  have hlt3 := K.lt Q5.out
  obtain ⟨i0, hi0, hz0, hz1, hz2⟩ := info_parts info_u8
  go_wp2_with (first | (at_make; refine wpList_make_full _ rfl _ _ 28 rfl (w0.heap.size + 1) 5 i0 (.int .u8 0) 1 Try.underlying28 hi0 hz0 hz1 _ _ _ _ y2 rfl rfl rfl rfl (by rw [hz2]; omega) (by unfold maxLen; omega) (by omega) ?_; intro w6 hown hgm; have HOM := Lib.hid hown; have HGM := Lib.hid hgm; clear hown hgm; have c18 := K.cell (K.kept HGM.out Q5.out (fun k hk => by cases hk)) 18 _ rfl; have f18 := frozen_of_row _ _ 18 _ _ (K.kept HGM.out Q5.out (fun k hk => by cases hk)); have Q6 := Lib.hid (K.kept HGM.out Q5.out (fun k hk => by cases hk)); have R6 := Lib.hid (K.kept HGM.out R5.out (fun k hk => by cases hk)); have C6 := Lib.hid (C5.out.grownBy HGM.out (fun k hk => by cases hk)); have G6 := Lib.hid (grown_other G5.out HGM.out (fun k hk => by cases hk)); have D6 := Lib.hid (own_grown D5.out HGM.out (fun k hk e => by cases e)); have S6 := Lib.hid (own_grown S5.out HGM.out (fun k hk e => by cases e)); have N6 := Lib.hid HOM.out; have NN := Lib.hid (show ∀ k, (Value.slice (some ⟨w5.heap.size, 0, none⟩) y2 y2).ownBlock = some k → k ≠ w0.heap.size from fun k hk => by have := (HOM.out.lt k hk).1; omega); clear HOM HGM Q5 R5 C5 G5 D5 S5; have Q7 : Hid ((w6.setCell ⟨w0.heap.size, 18, none⟩ (.slice (some ⟨w5.heap.size, 0, none⟩) y2 y2)).heap[w0.heap.size]? = some (.cells #[.int .i64 x.dscp, .int .i64 x.ecn, .int .i64 x.id, .int .i64 x.flags, .int .i64 x.frag, .int .i64 x.ttl, .int .i64 x.proto, .int .i64 x.src.k, .int .i64 x.src.a, .int .i64 x.src.b, .int .i64 x.src.c, .int .i64 x.src.d, .int .i64 x.dst.k, .int .i64 x.dst.a, .int .i64 x.dst.b, .int .i64 x.dst.c, .int .i64 x.dst.d, .slice O os.length oc, .slice (some ⟨w5.heap.size, 0, none⟩) y2 y2] 52 (0, 0))) := Lib.hid (K.set (Q6.out) 18 (.slice (some ⟨w5.heap.size, 0, none⟩) y2 y2)); have R7 : Hid ((w6.setCell ⟨w0.heap.size, 18, none⟩ (.slice (some ⟨w5.heap.size, 0, none⟩) y2 y2)).heap[w.heap.size]? = some (.cells #[.int .i64 0, .int .i64 0, .int .i64 0, .int .i64 0, .int .i64 0, .int .i64 0, .int .i64 0, .int .i64 0, .int .i64 0, .int .i64 0, .int .i64 0, .int .i64 0, .int .i64 0, .int .i64 0, .int .i64 0, .int .i64 0, .int .i64 0, .slice none 0 0, .slice none 0 0] 52 (0, 0))) := Lib.hid (K.setFrom_other [.slice (some ⟨w5.heap.size, 0, none⟩) y2 y2] 18 R6.out (show w.heap.size ≠ w0.heap.size by omega)); have C7 := Lib.hid (show CurS (w6.setCell ⟨w0.heap.size, 18, none⟩ (.slice (some ⟨w5.heap.size, 0, none⟩) y2 y2)) g A c bs _ _ from C6.out.grownBy (K.setFrom_selfE [.slice (some ⟨w5.heap.size, 0, none⟩) y2 y2] w6 w0.heap.size 18) (fun u hu => by cases hu; omega)); have G7 := Lib.hid (show w.grownBy (w6.setCell ⟨w0.heap.size, 18, none⟩ (.slice (some ⟨w5.heap.size, 0, none⟩) y2 y2)) (some g) from K.setFrom_grown (g := w0.heap.size) [.slice (some ⟨w5.heap.size, 0, none⟩) y2 y2] 18 G6.out (by omega)); have N7 := Lib.hid (show (w6.setCell ⟨w0.heap.size, 18, none⟩ (.slice (some ⟨w5.heap.size, 0, none⟩) y2 y2)).ownsRow _ 5 1 _ _ _ from own_grown N6.out (K.setFrom_selfE [.slice (some ⟨w5.heap.size, 0, none⟩) y2 y2] w6 w0.heap.size 18) (fun k hk e => by cases e; have := NN.out _ hk; omega)); have S7 := Lib.hid (show (w6.setCell ⟨w0.heap.size, 18, none⟩ (.slice (some ⟨w5.heap.size, 0, none⟩) y2 y2)).ownsRow _ 5 1 _ _ _ from own_grown S6.out (K.setFrom_selfE [.slice (some ⟨w5.heap.size, 0, none⟩) y2 y2] w6 w0.heap.size 18) (fun k hk e => by cases e; have := NS.out _ hk; omega))) | (with_reducible refine loadF rfl _ rfl w0.heap.size rfl Q7.out ?_) | (with_reducible refine storeF rfl _ _ rfl w.heap.size rfl rfl R7.out ?_))
  (try simp only [Exit.inBlock, Exit.then])
  refine bodyPost_ret (v := .agg #[.int .i64 x.dscp, .int .i64 x.ecn, .int .i64 x.id, .int .i64 x.flags, .int .i64 x.frag, .int .i64 x.ttl, .int .i64 x.proto, .int .i64 x.src.k, .int .i64 x.src.a, .int .i64 x.src.b, .int .i64 x.src.c, .int .i64 x.src.d, .int .i64 x.dst.k, .int .i64 x.dst.a, .int .i64 x.dst.b, .int .i64 x.dst.c, .int .i64 x.dst.d, .slice O os.length oc, .slice (some ⟨w5.heap.size, 0, none⟩) y2 y2]) ?_ rfl ⟨O, oc, (some ⟨w5.heap.size, 0, none⟩), y2, by rw [List.length_replicate], ?_, ?_, ?_, ?_⟩
  · exact resF Try.results74 _ _ w.heap.size rfl (setRow_heap _ _ _ _ _ _ R7.out)
  · have this := own_base (base' := w.heap.size) (K.setRow_own (g := w.heap.size) #[.int .i64 x.dscp, .int .i64 x.ecn, .int .i64 x.id, .int .i64 x.flags, .int .i64 x.frag, .int .i64 x.ttl, .int .i64 x.proto, .int .i64 x.src.k, .int .i64 x.src.a, .int .i64 x.src.b, .int .i64 x.src.c, .int .i64 x.src.d, .int .i64 x.dst.k, .int .i64 x.dst.a, .int .i64 x.dst.b, .int .i64 x.dst.c, .int .i64 x.dst.d, .slice O os.length oc, .slice (some ⟨w5.heap.size, 0, none⟩) y2 y2] S7.out (by omega)) (by omega)
    exact this
  · have this := own_base (base' := w.heap.size) (K.setRow_own (g := w.heap.size) #[.int .i64 x.dscp, .int .i64 x.ecn, .int .i64 x.id, .int .i64 x.flags, .int .i64 x.frag, .int .i64 x.ttl, .int .i64 x.proto, .int .i64 x.src.k, .int .i64 x.src.a, .int .i64 x.src.b, .int .i64 x.src.c, .int .i64 x.src.d, .int .i64 x.dst.k, .int .i64 x.dst.a, .int .i64 x.dst.b, .int .i64 x.dst.c, .int .i64 x.dst.d, .slice O os.length oc, .slice (some ⟨w5.heap.size, 0, none⟩) y2 y2] N7.out (by omega)) (by omega)
    rw [made_zeroF] at this; rw [List.length_replicate]; exact this
  · exact C7.out.grownBy (K.setRow_grown _ _ _) (fun u hu => by cases hu; omega)
  · exact grown_other G7.out (K.setRow_grown _ _ _) (fun u hu => by cases hu; omega)
end Go.Proofs.Ytegpaocoepcemaa

namespace Go.Proofs.Ytegpaocoepcemaa
set_option maxRecDepth 100000
open Go.RowKit

theorem badFourE (bs : List UInt8) (t s : Nat) (ht : t ≤ 700000000000) (hb : bs.length ≤ 1048576) :
    ∃ (x : Fh) (os ds : List UInt8) (t' s' : Nat), os.length ≤ 45 ∧ ds.length ≤ 1480 ∧ ∀ (w : World) (g : Nat) (A : Option Addr) (c : Nat), CurS w g A c bs t s → Calls Try.prog 74 #[.pointer (some ⟨g, 0, none⟩)] w (GivesFour w g A c bs t' s' x os ds) := by
  obtain ⟨x, os, t1, s1, hos, ht1, hf⟩ := fourE bs t s (by omega)
  obtain ⟨ds, t2, s2, hds, ht2, hb2⟩ := bytesE bs t1 s1 50 (by omega) (by omega) (by omega) hb
  obtain ⟨k, s3, lo, up, hk⟩ := pickE bs t2 s2 12 (by omega) (by omega) (by omega)
  rcases (show k = 0 ∨ k = 1 ∨ k = 2 ∨ k = 3 ∨ k = 4 ∨ k = 5 ∨ k = 6 ∨ k = 7 ∨ 7 < k by omega) with rfl | rfl | rfl | rfl | rfl | rfl | rfl | rfl | h8
  · exact badFour_0 bs t s ht x os t1 s1 hos ht1 (Lib.hid hf) ds t2 s2 hds ht2 (Lib.hid hb2) _ s3 rfl (Lib.hid hk)
  · exact badFour_1 bs t s ht x os t1 s1 hos ht1 (Lib.hid hf) ds t2 s2 hds ht2 (Lib.hid hb2) _ s3 rfl (Lib.hid hk)
  · exact badFour_2 bs t s ht x os t1 s1 hos ht1 (Lib.hid hf) ds t2 s2 hds ht2 (Lib.hid hb2) _ s3 rfl (Lib.hid hk)
  · exact badFour_3 bs t s ht x os t1 s1 hos ht1 (Lib.hid hf) ds t2 s2 hds ht2 (Lib.hid hb2) _ s3 rfl (Lib.hid hk)
  · exact badFour_4 bs t s ht x os t1 s1 hos ht1 (Lib.hid hf) ds t2 s2 hds ht2 (Lib.hid hb2) _ s3 rfl (Lib.hid hk)
  · exact badFour_5 bs t s ht x os t1 s1 hos ht1 (Lib.hid hf) ds t2 s2 hds ht2 (Lib.hid hb2) _ s3 rfl (Lib.hid hk)
  · exact badFour_6 bs t s ht x os t1 s1 hos ht1 (Lib.hid hf) ds t2 s2 hds ht2 (Lib.hid hb2) _ s3 rfl (Lib.hid hk)
  · exact badFour_7 bs t s ht x os t1 s1 hos ht1 (Lib.hid hf) ds t2 s2 hds ht2 (Lib.hid hb2) _ s3 rfl (Lib.hid hk)
  · exact badFour_8 bs t s ht x os t1 s1 hos ht1 (Lib.hid hf) ds t2 s2 hds ht2 (Lib.hid hb2) k s3 h8 (Lib.hid hk)

/-- What the draw of a packet out of a code leaves. -/
def DFOut (x : Fh) (os ds : List UInt8) (n m : Nat) (w : World) (e : Ending) (w' : World) : Prop :=
  ∃ A c D d, e = .returned (.agg #[.int .i64 x.dscp, .int .i64 x.ecn, .int .i64 x.id, .int .i64 x.flags, .int .i64 x.frag, .int .i64 x.ttl, .int .i64 x.proto, .int .i64 x.src.k, .int .i64 x.src.a, .int .i64 x.src.b, .int .i64 x.src.c, .int .i64 x.src.d, .int .i64 x.dst.k, .int .i64 x.dst.a, .int .i64 x.dst.b, .int .i64 x.dst.c, .int .i64 x.dst.d, .slice A n c, .slice D m d]) ∧ w'.ownsRow w.heap.size 5 1 (.slice A n c) n (cellsOf os) ∧ w'.ownsRow w.heap.size 5 1 (.slice D m d) m (cellsOf ds) ∧ Below w.heap.size w w'

set_option maxHeartbeats 1000000 in
theorem drawFourE (bs : List UInt8) (hb : bs.length ≤ 1048576) :
    ∃ (x : Fh) (os ds : List UInt8), os.length ≤ 45 ∧ ds.length ≤ 1480 ∧ ∀ (w : World) (A : Option Addr) (n c : Nat), RB w w.heap.size A bs → bs.length = n → Calls Try.prog 35 #[.slice A n c] w (DFOut x os ds os.length ds.length w) := by
  obtain ⟨x, os, ds, t', s', ho, hl, hd⟩ := badFourE bs 0 (71 + bs.length % 1000) (by omega) hb
  have HD := Lib.hid hd
  clear hd
  refine ⟨x, os, ds, ho, hl, fun w A n c hr hn => ?_⟩
  have R1 := Lib.hid (fun o => (hr.below (Joins.below_alloc1 w o)).more (show w.heap.size ≤ (w.alloc o).heap.size by simp))
  have HN := Lib.hid hn
  have hn2 : n ≤ 1048576 := by omega
  have z0 := Lib.hid (K.new w (.cells #[.int .i64 0, .int .i64 0, .int .i64 0, .int .i64 0, .int .i64 0, .int .i64 0, .int .i64 0, .int .i64 0, .int .i64 0, .int .i64 0, .int .i64 0, .int .i64 0, .int .i64 0, .int .i64 0, .int .i64 0, .int .i64 0, .int .i64 0, .slice none 0 0, .slice none 0 0] 52))
  clear hr hn
  go_enter Try.func35, Try.ntmps35
  go_wp2_with fail
  refine (openD A n c bs _ (R1.out _) HN.out hn2).mono ?_
  rintro e w1 ⟨rfl, c1, b1⟩
  have z1 := Lib.hid (K.below b1 z0.out)
  have B1 := Lib.hid (bthen (Joins.below_alloc1 w _) b1)
  have C1 := Lib.hid c1
  have e1 : (w.alloc (.cells #[.int .i64 0, .int .i64 0, .int .i64 0, .int .i64 0, .int .i64 0, .int .i64 0, .int .i64 0, .int .i64 0, .int .i64 0, .int .i64 0, .int .i64 0, .int .i64 0, .int .i64 0, .int .i64 0, .int .i64 0, .int .i64 0, .int .i64 0, .slice none 0 0, .slice none 0 0] 52)).heap.size = w.heap.size + 1 := by simp
  rw [e1] at C1
  rw [e1]
  clear c1 b1 e1
  go_wp2_with fail
  refine (HD.out w1 (w.heap.size + 1) A c C1.out).mono ?_
  rintro e w2 ⟨O, oc, D, d, rfl, o2, p2, c2, g2⟩
  have z2 := Lib.hid (K.kept g2 z1.out (fun k hk => by cases hk; omega))
  have B2 := Lib.hid (bgrown B1.out g2 (fun k hk => by cases hk; omega))
  have O2 := Lib.hid (own_base o2 (show w.heap.size + 1 ≤ w1.heap.size from Nat.le_of_lt C1.out.lt))
  have P2 := Lib.hid (own_base p2 (show w.heap.size + 1 ≤ w1.heap.size from Nat.le_of_lt C1.out.lt))
  clear c2 g2 o2 p2
  go_wp2_with (with_reducible refine storeF rfl _ _ rfl w.heap.size rfl rfl z2.out ?_)
  (try simp only [Exit.inBlock, Exit.then])
  refine bodyPost_ret (v := .agg #[.int .i64 x.dscp, .int .i64 x.ecn, .int .i64 x.id, .int .i64 x.flags, .int .i64 x.frag, .int .i64 x.ttl, .int .i64 x.proto, .int .i64 x.src.k, .int .i64 x.src.a, .int .i64 x.src.b, .int .i64 x.src.c, .int .i64 x.src.d, .int .i64 x.dst.k, .int .i64 x.dst.a, .int .i64 x.dst.b, .int .i64 x.dst.c, .int .i64 x.dst.d, .slice O os.length oc, .slice D ds.length d]) ?_ rfl ⟨O, oc, D, d, rfl, own_base (K.setRow_own _ O2.out (by omega)) (by omega), own_base (K.setRow_own _ P2.out (by omega)) (by omega), K.setRow_below B2.out (Nat.le_refl _) _⟩
  exact resF Try.results35 _ _ w.heap.size rfl (setRow_heap _ _ _ _ _ _ z2.out)

theorem loadFGd {ops : Array Oper} {rest : List Oper} {o : Oper} {a : Act} {w : World} {Q : Exit → Act → World → Prop} (x : Operand) (ho : o.op = .load 52 x) (g : Nat) (hx : a.eval x = .pointer (some ⟨g, 0, none⟩)) (hw : Region.wanted o (yielded ops a.tmps) = true) {t : TypeId} {v0 v1 v2 v3 v4 v5 v6 v7 v8 v9 v10 v11 v12 v13 v14 v15 v16 v17 v18 : Value}
    (hg : w.heap[g]? = some (.cells #[v0, v1, v2, v3, v4, v5, v6, v7, v8, v9, v10, v11, v12, v13, v14, v15, v16, v17, v18] t (0, 0))) (h : wpList Try.prog ops Q rest (a.put o.dst (.agg #[v0, v1, v2, v3, v4, v5, v6, v7, v8, v9, v10, v11, v12, v13, v14, v15, v16, v17, v18])) w) : wpList Try.prog ops Q (o :: rest) a w :=
  wpList_step fun _ hK => by rw [if_pos hw]; exact wp_load_row 52 x ho g hx t _ (0, 0) _ hg Try.underlying52 rfl info_four (hK _ _ h)

set_option maxHeartbeats 400000 in
theorem bigF (A : Option Addr) (n c : Nat) (b : Bool) (w : World) (h : decide ((1048576 : Int) < n) = b) : Calls Try.prog 30 #[.slice A n c] w fun e w' => e = .returned (.bool b) ∧ w = w' := by
  have H := Lib.hid h
  clear h
  go_enter Try.func30, Try.ntmps30
  go_wp2
  go_ret
  exact ⟨ret_bool H.out, rfl⟩
end Go.Proofs.Ytegpaocoepcemaa
