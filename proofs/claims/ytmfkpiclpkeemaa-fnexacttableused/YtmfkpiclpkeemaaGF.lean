/-
  What TableFind, TableUsed and TableKeys answer, in either way of reckoning. Nothing here speaks of the program. TableUsed in the program and in the model. TableFind in the program. TableFind in the model.
-/
import Derived.Test.YtmfkpiclpkeemaaGA
import Derived.Test.YtmfkpiclpkeemaaGB
import Derived.Test.YtmfkpiclpkeemaaRegNew
namespace Go.Proofs.Ytmfkpiclpkeemaa
set_option maxRecDepth 100000
open Go.RowKit

theorem probe_of_place {s : Int} {cs : List Ce} {k : Fk} {i : Nat} (h : tabOk s cs = true) (hp : placeT cs k = some i) : probeT s cs k = some i ∧ (ceAt cs i).used = true ∧ i < cs.length ∧ (ceAt cs i).key = k := by
  obtain ⟨hi, hu, hk, _⟩ := place_some.1 hp
  have g := tab_good h i hi hu
  rw [hk] at g
  exact ⟨g, hu, hi, hk⟩
theorem unused_of_none {s : Int} {cs : List Ce} {k : Fk} {p : Nat} (h : tabOk s cs = true) (hp : placeT cs k = none) (hq : probeT s cs k = some p) : (ceAt cs p).used = false := by
  cases hu : (ceAt cs p).used with
  | false => rfl
  | true =>
    have := place_of_probe (tab_good h) hq hu
    unfold placeT at hp
    rw [hp] at this
    cases this
theorem tabFind_no {s : Int} {cs : List Ce} {k : Fk} (h : (tabOk s cs && k.ok) = false) : tabFind s cs k = (0, false) := by
  unfold tabFind
  rw [h]
  rfl
theorem tabFind_probe {s : Int} {cs : List Ce} {k : Fk} {p : Nat} (h : tabOk s cs = true) (hk : k.ok = true) (hp : probeT s cs k = some p) : tabFind s cs k = ((ceAt cs p).num, (ceAt cs p).used) := by
  unfold tabFind
  rw [h, hk, hp]
  rfl
theorem tabFind_place {s : Int} {cs : List Ce} {k : Fk} {i : Nat} (h : tabOk s cs = true) (hk : k.ok = true) (hp : placeT cs k = some i) : tabFind s cs k = ((ceAt cs i).num, true) := by
  obtain ⟨h1, h2, _, _⟩ := probe_of_place h hp
  rw [tabFind_probe h hk h1, h2]
theorem tabFind_none {s : Int} {cs : List Ce} {k : Fk} (h : tabOk s cs = true) (hk : k.ok = true) (hp : placeT cs k = none) : tabFind s cs k = (0, false) := by
  obtain ⟨p, hpl, h1⟩ := tab_probe h k
  have h2 := unused_of_none h hp h1
  have h3 := fits_free (tab_fits h hpl) h2
  rw [tabFind_probe h hk h1, h3]
  rfl
theorem tabUsed_no {s : Int} {cs : List Ce} (h : tabOk s cs = false) : tabUsed s cs = -1 := by simp [tabUsed, h]
theorem tabUsed_yes {s : Int} {cs : List Ce} (h : tabOk s cs = true) : tabUsed s cs = (usedN cs : Int) := by simp [tabUsed, h]
theorem tabKeys_no {s : Int} {cs : List Ce} (h : tabOk s cs = false) : tabKeys s cs = [] := by simp [tabKeys, h]
theorem tabKeys_yes {s : Int} {cs : List Ce} (h : tabOk s cs = true) : tabKeys s cs = keysOf cs := by simp [tabKeys, h]
theorem tab_len {s : Int} {cs : List Ce} (h : tabOk s cs = true) : 4 ≤ cs.length ∧ cs.length ≤ 64 := size_pos (tabOk_parts h).2.1
theorem ce_key {w : World} {g o : Nat} {y : Ce} (h : w.rangeAt g o y.cells) : w.rangeAt g (o + 1) y.key.cells := by
  intro j v hv
  have hj : j < 14 := (List.getElem?_eq_some_iff.1 hv).1
  rw [Nat.add_assoc, Nat.add_comm 1 j]
  refine h (j + 1) v ?_
  rw [← hv]
  match j, hj with
  | 0, _ => rfl
  | 1, _ => rfl
  | 2, _ => rfl
  | 3, _ => rfl
  | 4, _ => rfl
  | 5, _ => rfl
  | 6, _ => rfl
  | 7, _ => rfl
  | 8, _ => rfl
  | 9, _ => rfl
  | 10, _ => rfl
  | 11, _ => rfl
  | 12, _ => rfl
  | 13, _ => rfl
end Go.Proofs.Ytmfkpiclpkeemaa

namespace Go.Proofs.Ytmfkpiclpkeemaa
set_option maxRecDepth 100000
open Go.RowKit

set_option maxHeartbeats 1000000 in
theorem tabUsedI (s : Int) (A : Option Addr) (n c : Nat) (cs : List Ce) (w : World) (hx : RV w w.heap.size A (fl Ce.cells cs)) (hl : cs.length = n) (hn : n ≤ 1048576) : Calls Try.prog 32 #[.agg #[.int .i64 s, .slice A n c]] w fun e w' => e = .returned (.int .i64 (tabUsed s cs)) ∧ Below w.heap.size w w' := by
  have HX := Lib.hid hx
  have HL := Lib.hid hl
  cases ho : tabOk s cs with
  | false =>
    have HR := Lib.hid (tabUsed_no ho)
    have HO := Lib.hid ho
    clear ho hx hl
    have p0 := Lib.hid (K.new w (.cells #[.int .i64 s, .slice A n c] 40))
    have HB := Lib.hid (Joins.below_alloc1 w (.cells #[.int .i64 s, .slice A n c] 40))
    have t0 := K.cell p0.out 0 _ rfl
    have t1 := K.cell p0.out 1 _ rfl
    go_enter Try.func32, Try.ntmps32
    go_wp2_with fail
    refine Calls.mono (tabOkIB s A n c cs _ (HX.out.on HB.out) HL.out hn false HO.out) ?_
    rintro e w1 ⟨rfl, b1⟩
    have B1 := Lib.hid (bthen HB.out b1)
    clear b1 t0 t1
    go_wp2
    go_ret
    exact ⟨ret_int HR.out.symm, B1.out⟩
  | true =>
    have HR := Lib.hid (tabUsed_yes ho)
    have HO := Lib.hid ho
    clear ho hx hl
    have p0 := Lib.hid (K.new w (.cells #[.int .i64 s, .slice A n c] 40))
    have HB := Lib.hid (Joins.below_alloc1 w (.cells #[.int .i64 s, .slice A n c] 40))
    have t0 := K.cell p0.out 0 _ rfl
    have t1 := K.cell p0.out 1 _ rfl
    go_enter Try.func32, Try.ntmps32
    go_wp2_with fail
    refine Calls.mono (tabOkIB s A n c cs _ (HX.out.on HB.out) HL.out hn true HO.out) ?_
    rintro e w1 ⟨rfl, b1⟩
    have B1 := Lib.hid (bthen HB.out b1)
    have p1 := Lib.hid (K.below b1 p0.out)
    clear b1 t0 t1 p0
    have t0 := K.cell p1.out 0 _ rfl
    have t1 := K.cell p1.out 1 _ rfl
    go_wp2_with fail
    refine Calls.mono (usedInI s A n c cs _ (HX.out.on B1.out) HL.out hn) ?_
    rintro e w2 ⟨rfl, b2⟩
    have B2 := Lib.hid (bthen B1.out b2)
    clear b2 t0 t1
    go_wp2
    go_ret
    exact ⟨ret_int HR.out.symm, B2.out⟩

set_option maxHeartbeats 1000000 in
theorem tabUsedS (s : Int) (A : Option Addr) (n c : Nat) (cs : List Ce) (w : World) (hx : RV w w.heap.size A (fl Ce.cells cs)) (hl : cs.length = n) (hn : n ≤ 1048576) : Calls Try.prog 31 #[.agg #[.int .i64 s, .slice A n c]] w fun e w' => e = .returned (.int .i64 (tabUsed s cs)) ∧ Below w.heap.size w w' := by
  have HX := Lib.hid hx
  have HL := Lib.hid hl
  cases ho : tabOk s cs with
  | false =>
    have HR := Lib.hid (tabUsed_no ho)
    have HO := Lib.hid ho
    clear ho hx hl
    have p0 := Lib.hid (K.new w (.cells #[.int .i64 s, .slice A n c] 40))
    have HB := Lib.hid (Joins.below_alloc1 w (.cells #[.int .i64 s, .slice A n c] 40))
    have t0 := K.cell p0.out 0 _ rfl
    have t1 := K.cell p0.out 1 _ rfl
    go_enter Try.func31, Try.ntmps31
    go_wp2_with fail
    refine Calls.mono (tabOkSB s A n c cs _ (HX.out.on HB.out) HL.out hn false HO.out) ?_
    rintro e w1 ⟨rfl, b1⟩
    have B1 := Lib.hid (bthen HB.out b1)
    clear b1 t0 t1
    go_wp2
    go_ret
    exact ⟨ret_int HR.out.symm, B1.out⟩
  | true =>
    have HR := Lib.hid (tabUsed_yes ho)
    have HO := Lib.hid ho
    clear ho hx hl
    have p0 := Lib.hid (K.new w (.cells #[.int .i64 s, .slice A n c] 40))
    have HB := Lib.hid (Joins.below_alloc1 w (.cells #[.int .i64 s, .slice A n c] 40))
    have t0 := K.cell p0.out 0 _ rfl
    have t1 := K.cell p0.out 1 _ rfl
    go_enter Try.func31, Try.ntmps31
    go_wp2_with fail
    refine Calls.mono (tabOkSB s A n c cs _ (HX.out.on HB.out) HL.out hn true HO.out) ?_
    rintro e w1 ⟨rfl, b1⟩
    have B1 := Lib.hid (bthen HB.out b1)
    have p1 := Lib.hid (K.below b1 p0.out)
    clear b1 t0 t1 p0
    have t0 := K.cell p1.out 0 _ rfl
    have t1 := K.cell p1.out 1 _ rfl
    go_wp2_with fail
    refine Calls.mono (countS s A n c cs _ (HX.out.on B1.out) HL.out hn) ?_
    rintro e w2 ⟨rfl, b2⟩
    have B2 := Lib.hid (bthen B1.out b2)
    clear b2 t0 t1
    go_wp2
    go_ret
    exact ⟨ret_int HR.out.symm, B2.out⟩

end Go.Proofs.Ytmfkpiclpkeemaa

namespace Go.Proofs.Ytmfkpiclpkeemaa
set_option maxRecDepth 100000
open Go.RowKit

section
variable {o : Oper} {a : Act} {w : World} {K : Act → World → Prop} {Q : Exit → Act → World → Prop}
theorem al_new_info_ce {o : Oper} {a : Act} {v : World} {K : Act → World → Prop} {Q : Exit → Act → World → Prop} (ho : o.op = .alloc 93) (hK : K (a.put o.dst (.pointer (some ⟨v.heap.size, 0, none⟩))) (v.alloc (.cells #[.bool false, .int .i64 0, .int .i64 0, .int .i64 0, .int .i64 0, .int .i64 0, .int .i64 0, .int .i64 0, .int .i64 0, .int .i64 0, .int .i64 0, .int .i64 0, .int .i64 0, .int .i64 0, .int .i64 0, .int .i64 0] 93))) : o.wp Try.prog a v K Q := by
  unfold Oper.wp execOp
  simp only [ho]
  go_simp
  exact hK
end

set_option maxHeartbeats 2000000 in
theorem tabFindI_0 (s : Int) (A : Option Addr) (n c : Nat) (cs : List Ce) (w : World) (hx : RV w w.heap.size A (fl Ce.cells cs)) (hl : cs.length = n) (hn : n ≤ 1048576) (k : Fk) (ho : tabOk s cs = false) : Calls Try.prog 34 #[.agg #[.int .i64 s, .slice A n c], .agg #[.int .i64 k.tenant, .int .i64 k.key.src.k, .int .i64 k.key.src.a, .int .i64 k.key.src.b, .int .i64 k.key.src.c, .int .i64 k.key.src.d, .int .i64 k.key.dst.k, .int .i64 k.key.dst.a, .int .i64 k.key.dst.b, .int .i64 k.key.dst.c, .int .i64 k.key.dst.d, .int .i64 k.key.proto, .int .i64 k.key.sport, .int .i64 k.key.dport]] w fun e w' => e = .returned (.tuple #[.int .i64 (tabFind s cs k).1, .bool (tabFind s cs k).2]) ∧ Below w.heap.size w w' := by
  have HX := Lib.hid hx
  have HL := Lib.hid hl
  have HR := Lib.hid (tabFind_no (k := k) (by rw [ho]; rfl))
  have HO := Lib.hid ho
  clear ho hx hl
  have p0 : Hid (((w.alloc (.cells #[.int .i64 s, .slice A n c] 40)).alloc (.cells #[.int .i64 k.tenant, .int .i64 k.key.src.k, .int .i64 k.key.src.a, .int .i64 k.key.src.b, .int .i64 k.key.src.c, .int .i64 k.key.src.d, .int .i64 k.key.dst.k, .int .i64 k.key.dst.a, .int .i64 k.key.dst.b, .int .i64 k.key.dst.c, .int .i64 k.key.dst.d, .int .i64 k.key.proto, .int .i64 k.key.sport, .int .i64 k.key.dport] 33)).heap[w.heap.size]? = some (.cells #[.int .i64 s, .slice A n c] 40 (0, 0))) := Lib.hid (K.old (K.new w _) _)
  have q0 : Hid (((w.alloc (.cells #[.int .i64 s, .slice A n c] 40)).alloc (.cells #[.int .i64 k.tenant, .int .i64 k.key.src.k, .int .i64 k.key.src.a, .int .i64 k.key.src.b, .int .i64 k.key.src.c, .int .i64 k.key.src.d, .int .i64 k.key.dst.k, .int .i64 k.key.dst.a, .int .i64 k.key.dst.b, .int .i64 k.key.dst.c, .int .i64 k.key.dst.d, .int .i64 k.key.proto, .int .i64 k.key.sport, .int .i64 k.key.dport] 33)).heap[w.heap.size + 1]? = some (.cells #[.int .i64 k.tenant, .int .i64 k.key.src.k, .int .i64 k.key.src.a, .int .i64 k.key.src.b, .int .i64 k.key.src.c, .int .i64 k.key.src.d, .int .i64 k.key.dst.k, .int .i64 k.key.dst.a, .int .i64 k.key.dst.b, .int .i64 k.key.dst.c, .int .i64 k.key.dst.d, .int .i64 k.key.proto, .int .i64 k.key.sport, .int .i64 k.key.dport] 33 (0, 0))) := Lib.hid (K.newAt (by simp))
  have HB := Lib.hid (Joins.below_alloc2 w (.cells #[.int .i64 s, .slice A n c] 40) (.cells #[.int .i64 k.tenant, .int .i64 k.key.src.k, .int .i64 k.key.src.a, .int .i64 k.key.src.b, .int .i64 k.key.src.c, .int .i64 k.key.src.d, .int .i64 k.key.dst.k, .int .i64 k.key.dst.a, .int .i64 k.key.dst.b, .int .i64 k.key.dst.c, .int .i64 k.key.dst.d, .int .i64 k.key.proto, .int .i64 k.key.sport, .int .i64 k.key.dport] 33))
  have t0 := K.cell p0.out 0 _ rfl
  have t1 := K.cell p0.out 1 _ rfl
  go_enter Try.func34, Try.ntmps34
  go_wp2_with fail
  refine Calls.mono (tabOkIB s A n c cs _ (HX.out.on HB.out) HL.out hn false HO.out) ?_
  rintro e w1 ⟨rfl, b1⟩
  have B1 := Lib.hid (bthen HB.out b1)
  clear b1 t0 t1
  go_wp2
  go_ret2
  exact ⟨by rw [HR.out]; rfl, B1.out⟩

set_option maxHeartbeats 2000000 in
theorem tabFindI_1 (s : Int) (A : Option Addr) (n c : Nat) (cs : List Ce) (w : World) (hx : RV w w.heap.size A (fl Ce.cells cs)) (hl : cs.length = n) (hn : n ≤ 1048576) (k : Fk) (ho : tabOk s cs = true) (hk : k.ok = false) : Calls Try.prog 34 #[.agg #[.int .i64 s, .slice A n c], .agg #[.int .i64 k.tenant, .int .i64 k.key.src.k, .int .i64 k.key.src.a, .int .i64 k.key.src.b, .int .i64 k.key.src.c, .int .i64 k.key.src.d, .int .i64 k.key.dst.k, .int .i64 k.key.dst.a, .int .i64 k.key.dst.b, .int .i64 k.key.dst.c, .int .i64 k.key.dst.d, .int .i64 k.key.proto, .int .i64 k.key.sport, .int .i64 k.key.dport]] w fun e w' => e = .returned (.tuple #[.int .i64 (tabFind s cs k).1, .bool (tabFind s cs k).2]) ∧ Below w.heap.size w w' := by
  have HX := Lib.hid hx
  have HL := Lib.hid hl
  have HR := Lib.hid (tabFind_no (s := s) (cs := cs) (k := k) (by rw [hk, Bool.and_false]))
  have HO := Lib.hid ho
  have HK := Lib.hid hk
  clear ho hk hx hl
  have p0 : Hid (((w.alloc (.cells #[.int .i64 s, .slice A n c] 40)).alloc (.cells #[.int .i64 k.tenant, .int .i64 k.key.src.k, .int .i64 k.key.src.a, .int .i64 k.key.src.b, .int .i64 k.key.src.c, .int .i64 k.key.src.d, .int .i64 k.key.dst.k, .int .i64 k.key.dst.a, .int .i64 k.key.dst.b, .int .i64 k.key.dst.c, .int .i64 k.key.dst.d, .int .i64 k.key.proto, .int .i64 k.key.sport, .int .i64 k.key.dport] 33)).heap[w.heap.size]? = some (.cells #[.int .i64 s, .slice A n c] 40 (0, 0))) := Lib.hid (K.old (K.new w _) _)
  have q0 : Hid (((w.alloc (.cells #[.int .i64 s, .slice A n c] 40)).alloc (.cells #[.int .i64 k.tenant, .int .i64 k.key.src.k, .int .i64 k.key.src.a, .int .i64 k.key.src.b, .int .i64 k.key.src.c, .int .i64 k.key.src.d, .int .i64 k.key.dst.k, .int .i64 k.key.dst.a, .int .i64 k.key.dst.b, .int .i64 k.key.dst.c, .int .i64 k.key.dst.d, .int .i64 k.key.proto, .int .i64 k.key.sport, .int .i64 k.key.dport] 33)).heap[w.heap.size + 1]? = some (.cells #[.int .i64 k.tenant, .int .i64 k.key.src.k, .int .i64 k.key.src.a, .int .i64 k.key.src.b, .int .i64 k.key.src.c, .int .i64 k.key.src.d, .int .i64 k.key.dst.k, .int .i64 k.key.dst.a, .int .i64 k.key.dst.b, .int .i64 k.key.dst.c, .int .i64 k.key.dst.d, .int .i64 k.key.proto, .int .i64 k.key.sport, .int .i64 k.key.dport] 33 (0, 0))) := Lib.hid (K.newAt (by simp))
  have HB := Lib.hid (Joins.below_alloc2 w (.cells #[.int .i64 s, .slice A n c] 40) (.cells #[.int .i64 k.tenant, .int .i64 k.key.src.k, .int .i64 k.key.src.a, .int .i64 k.key.src.b, .int .i64 k.key.src.c, .int .i64 k.key.src.d, .int .i64 k.key.dst.k, .int .i64 k.key.dst.a, .int .i64 k.key.dst.b, .int .i64 k.key.dst.c, .int .i64 k.key.dst.d, .int .i64 k.key.proto, .int .i64 k.key.sport, .int .i64 k.key.dport] 33))
  have t0 := K.cell p0.out 0 _ rfl
  have t1 := K.cell p0.out 1 _ rfl
  go_enter Try.func34, Try.ntmps34
  go_wp2_with fail
  refine Calls.mono (tabOkIB s A n c cs _ (HX.out.on HB.out) HL.out hn true HO.out) ?_
  rintro e w1 ⟨rfl, b1⟩
  have B1 := Lib.hid (bthen HB.out b1)
  have p1 := Lib.hid (K.below b1 p0.out)
  have q1 := Lib.hid (K.below b1 q0.out)
  clear b1 t0 t1 p0 q0
  obtain ⟨z0, z1, z2, z3, z4, z5, z6, z7, z8, z9, z10, z11, z12, z13⟩ := K.fk q1.out
  go_wp2_with fail
  refine Calls.mono (fkOkIB k false HK.out _) ?_
  rintro e w2 ⟨rfl, b2⟩
  have B2 := Lib.hid (bthen B1.out b2)
  have p2 := Lib.hid (K.below b2 p1.out)
  have q2 := Lib.hid (K.below b2 q1.out)
  clear b2 z0 z1 z2 z3 z4 z5 z6 z7 z8 z9 z10 z11 z12 z13 p1 q1
  go_wp2
  go_ret2
  exact ⟨by rw [HR.out]; rfl, B2.out⟩

set_option maxHeartbeats 2000000 in
theorem tabFindI_2 (s : Int) (A : Option Addr) (n c : Nat) (cs : List Ce) (w : World) (hx : RV w w.heap.size A (fl Ce.cells cs)) (hl : cs.length = n) (hn : n ≤ 1048576) (k : Fk) (ho : tabOk s cs = true) (hk : k.ok = true) : Calls Try.prog 34 #[.agg #[.int .i64 s, .slice A n c], .agg #[.int .i64 k.tenant, .int .i64 k.key.src.k, .int .i64 k.key.src.a, .int .i64 k.key.src.b, .int .i64 k.key.src.c, .int .i64 k.key.src.d, .int .i64 k.key.dst.k, .int .i64 k.key.dst.a, .int .i64 k.key.dst.b, .int .i64 k.key.dst.c, .int .i64 k.key.dst.d, .int .i64 k.key.proto, .int .i64 k.key.sport, .int .i64 k.key.dport]] w fun e w' => e = .returned (.tuple #[.int .i64 (tabFind s cs k).1, .bool (tabFind s cs k).2]) ∧ Below w.heap.size w w' := by
  have HX := Lib.hid hx
  have HL := Lib.hid hl
  obtain ⟨P, hP, hpr⟩ := tab_probe ho k
  have hlen := tab_len ho
  rw [hl] at hlen
  have HS := Lib.hid (tabOk_parts ho).1
  have HPR := Lib.hid (show idx (probeT s cs k) = (P : Int) by rw [hpr]; rfl)
  have HR0 := tabFind_probe ho hk hpr
  have HO := Lib.hid ho
  have HK := Lib.hid hk
  obtain ⟨g, o, rfl, hg, hc0⟩ := HX.out.flat Ce.cells_length (by omega) hP
  rw [ceAt_get hP] at HR0
  have HR := Lib.hid HR0
  have hPn : P < n := by rw [← hl]; exact hP
  have HC := Lib.hid (show ∀ v, Below w.heap.size w v → v.rangeAt g (o + P * 16) cs[P].cells from fun v hv j u hu => (hv.cell (p := ⟨g, o + P * 16 + j, none⟩) hg).trans (hc0 j u hu))
  clear HR0 hc0
  generalize cs[P] = y at *
  clear ho hk hx hl hpr hg hP
  have p0 : Hid (((w.alloc (.cells #[.int .i64 s, .slice (some ⟨g, o, none⟩) n c] 40)).alloc (.cells #[.int .i64 k.tenant, .int .i64 k.key.src.k, .int .i64 k.key.src.a, .int .i64 k.key.src.b, .int .i64 k.key.src.c, .int .i64 k.key.src.d, .int .i64 k.key.dst.k, .int .i64 k.key.dst.a, .int .i64 k.key.dst.b, .int .i64 k.key.dst.c, .int .i64 k.key.dst.d, .int .i64 k.key.proto, .int .i64 k.key.sport, .int .i64 k.key.dport] 33)).heap[w.heap.size]? = some (.cells #[.int .i64 s, .slice (some ⟨g, o, none⟩) n c] 40 (0, 0))) := Lib.hid (K.old (K.new w _) _)
  have q0 : Hid (((w.alloc (.cells #[.int .i64 s, .slice (some ⟨g, o, none⟩) n c] 40)).alloc (.cells #[.int .i64 k.tenant, .int .i64 k.key.src.k, .int .i64 k.key.src.a, .int .i64 k.key.src.b, .int .i64 k.key.src.c, .int .i64 k.key.src.d, .int .i64 k.key.dst.k, .int .i64 k.key.dst.a, .int .i64 k.key.dst.b, .int .i64 k.key.dst.c, .int .i64 k.key.dst.d, .int .i64 k.key.proto, .int .i64 k.key.sport, .int .i64 k.key.dport] 33)).heap[w.heap.size + 1]? = some (.cells #[.int .i64 k.tenant, .int .i64 k.key.src.k, .int .i64 k.key.src.a, .int .i64 k.key.src.b, .int .i64 k.key.src.c, .int .i64 k.key.src.d, .int .i64 k.key.dst.k, .int .i64 k.key.dst.a, .int .i64 k.key.dst.b, .int .i64 k.key.dst.c, .int .i64 k.key.dst.d, .int .i64 k.key.proto, .int .i64 k.key.sport, .int .i64 k.key.dport] 33 (0, 0))) := Lib.hid (K.newAt (by simp))
  have HB := Lib.hid (Joins.below_alloc2 w (.cells #[.int .i64 s, .slice (some ⟨g, o, none⟩) n c] 40) (.cells #[.int .i64 k.tenant, .int .i64 k.key.src.k, .int .i64 k.key.src.a, .int .i64 k.key.src.b, .int .i64 k.key.src.c, .int .i64 k.key.src.d, .int .i64 k.key.dst.k, .int .i64 k.key.dst.a, .int .i64 k.key.dst.b, .int .i64 k.key.dst.c, .int .i64 k.key.dst.d, .int .i64 k.key.proto, .int .i64 k.key.sport, .int .i64 k.key.dport] 33))
  have t0 := K.cell p0.out 0 _ rfl
  have t1 := K.cell p0.out 1 _ rfl
  go_enter Try.func34, Try.ntmps34
  go_wp2_with fail
  refine Calls.mono (tabOkIB s (some ⟨g, o, none⟩) n c cs _ (HX.out.on HB.out) HL.out hn true HO.out) ?_
  rintro e w1 ⟨rfl, b1⟩
  have B1 := Lib.hid (bthen HB.out b1)
  have p1 := Lib.hid (K.below b1 p0.out)
  have q1 := Lib.hid (K.below b1 q0.out)
  clear b1 t0 t1 p0 q0
  obtain ⟨z0, z1, z2, z3, z4, z5, z6, z7, z8, z9, z10, z11, z12, z13⟩ := K.fk q1.out
  go_wp2_with fail
  refine Calls.mono (fkOkIB k true HK.out _) ?_
  rintro e w2 ⟨rfl, b2⟩
  have B2 := Lib.hid (bthen B1.out b2)
  have p2 := Lib.hid (K.below b2 p1.out)
  have q2 := Lib.hid (K.below b2 q1.out)
  clear b2 z0 z1 z2 z3 z4 z5 z6 z7 z8 z9 z10 z11 z12 z13 p1 q1
  go_wp2_with fail
  refine wp_region_new 93 #[.bool false, .int .i64 0, .int .i64 0, .int .i64 0, .int .i64 0, .int .i64 0, .int .i64 0, .int .i64 0, .int .i64 0, .int .i64 0, .int .i64 0, .int .i64 0, .int .i64 0, .int .i64 0, .int .i64 0, .int .i64 0] (by kernel_rfl) [2, 3] 26 [(0, 15), (1, 16), (2, 17), (3, 18), (4, 19), (5, 20), (6, 21), (7, 6)] ([.val (.pointer (some ⟨w.heap.size, 1, none⟩)), .val (.slice (some ⟨g, o, none⟩) n c), .val (.agg #[.int .i64 s, .slice (some ⟨g, o, none⟩) n c]), .val (.agg #[.int .i64 k.tenant, .int .i64 k.key.src.k, .int .i64 k.key.src.a, .int .i64 k.key.src.b, .int .i64 k.key.src.c, .int .i64 k.key.src.d, .int .i64 k.key.dst.k, .int .i64 k.key.dst.a, .int .i64 k.key.dst.b, .int .i64 k.key.dst.c, .int .i64 k.key.dst.d, .int .i64 k.key.proto, .int .i64 k.key.sport, .int .i64 k.key.dport]), .val (.int .i64 (P : Int)), .val (.pointer (some ⟨g, o + P * 16, none⟩)), .val (.agg #[.bool y.used, .int .i64 y.key.tenant, .int .i64 y.key.key.src.k, .int .i64 y.key.key.src.a, .int .i64 y.key.key.src.b, .int .i64 y.key.key.src.c, .int .i64 y.key.key.src.d, .int .i64 y.key.key.dst.k, .int .i64 y.key.key.dst.a, .int .i64 y.key.key.dst.b, .int .i64 y.key.key.dst.c, .int .i64 y.key.key.dst.d, .int .i64 y.key.key.proto, .int .i64 y.key.key.sport, .int .i64 y.key.key.dport, .int .i64 y.num]), .any, .any]) 7 8 6 (by decide) (by kernel_rfl) (by kernel_rfl) (by kernel_rfl) rfl (by kernel_rfl) rfl rfl (fun b v => v.heap[b]? = some (.cells #[.bool y.used, .int .i64 y.key.tenant, .int .i64 y.key.key.src.k, .int .i64 y.key.key.src.a, .int .i64 y.key.key.src.b, .int .i64 y.key.key.src.c, .int .i64 y.key.key.src.d, .int .i64 y.key.key.dst.k, .int .i64 y.key.key.dst.a, .int .i64 y.key.key.dst.b, .int .i64 y.key.key.dst.c, .int .i64 y.key.key.dst.d, .int .i64 y.key.key.proto, .int .i64 y.key.key.sport, .int .i64 y.key.key.dport, .int .i64 y.num] 93 (0, 0))) (fun _ _ _ hb h => K.below hb h) ?_ ?_ ?_ ?_
  · intro o ho a' v K' hK
    obtain rfl := Option.some.inj ho
    exact al_new_info_ce rfl hK
  · intro o ho a' v K' b hx hpb hz hnd hB hK
    obtain rfl := Option.some.inj ho
    have h0 : a'.eval (.tmp 21) = .agg #[.bool y.used, .int .i64 y.key.tenant, .int .i64 y.key.key.src.k, .int .i64 y.key.key.src.a, .int .i64 y.key.key.src.b, .int .i64 y.key.key.src.c, .int .i64 y.key.key.src.d, .int .i64 y.key.key.dst.k, .int .i64 y.key.key.dst.a, .int .i64 y.key.key.dst.b, .int .i64 y.key.key.dst.c, .int .i64 y.key.key.dst.d, .int .i64 y.key.key.proto, .int .i64 y.key.key.sport, .int .i64 y.key.key.dport, .int .i64 y.num] := (new_of hnd 6 21 (by kernel_rfl) (by decide) :)
    exact wp_store_row 93 _ _ rfl b _ hpb h0 _ _ hz info_ce rfl (by simp [Value.oneCell']) (hK _ _ (setRow_heap _ _ _ _ _ _ hz) (setRow_grownR v b _))
  · intro j o hja hjs ho a' v K' hx hnd hB hK
    match j, hja, hjs, ho with
    | 0, _, _, ho =>
      obtain rfl := Option.some.inj ho
      have h0 : a'.eval (.tmp 2) = .pointer (some ⟨w.heap.size, 0, none⟩) := (hx 2 (by decide)).trans rfl
      exact f_tab1 _ _ rfl h0 (hK _ _ rfl (Below.refl _ _))
    | 1, _, _, ho =>
      obtain rfl := Option.some.inj ho
      have h0 : a'.eval (.tmp 15) = .pointer (some ⟨w.heap.size, 1, none⟩) := (new_of hnd 0 15 (by kernel_rfl) (by decide) :)
      exact t_sl _ _ _ _ rfl h0 (K.cell (K.below hB p2.out) 1 _ rfl) (hK _ _ rfl (Below.refl _ _))
    | 2, _, _, ho =>
      obtain rfl := Option.some.inj ho
      have h0 : a'.eval (.tmp 2) = .pointer (some ⟨w.heap.size, 0, none⟩) := (hx 2 (by decide)).trans rfl
      exact r_tab _ _ _ _ rfl h0 (K.below hB p2.out) (hK _ _ rfl (Below.refl _ _))
    | 3, _, _, ho =>
      obtain rfl := Option.some.inj ho
      have h0 : a'.eval (.tmp 3) = .pointer (some ⟨w.heap.size + 1, 0, none⟩) := (hx 3 (by decide)).trans rfl
      exact r_fk _ _ k rfl h0 (K.below hB q2.out) (hK _ _ rfl (Below.refl _ _))
    | 4, _, _, ho =>
      obtain rfl := Option.some.inj ho
      have h0 : a'.eval (.tmp 17) = .agg #[.int .i64 s, .slice (some ⟨g, o, none⟩) n c] := (new_of hnd 2 17 (by kernel_rfl) (by decide) :)
      have h1 : a'.eval (.tmp 18) = .agg #[.int .i64 k.tenant, .int .i64 k.key.src.k, .int .i64 k.key.src.a, .int .i64 k.key.src.b, .int .i64 k.key.src.c, .int .i64 k.key.src.d, .int .i64 k.key.dst.k, .int .i64 k.key.dst.a, .int .i64 k.key.dst.b, .int .i64 k.key.dst.c, .int .i64 k.key.dst.d, .int .i64 k.key.proto, .int .i64 k.key.sport, .int .i64 k.key.dport] := (new_of hnd 3 18 (by kernel_rfl) (by decide) :)
      refine u_probed _ _ _ _ _ rfl h0 h1 (Calls.mono (probedI s (some ⟨g, o, none⟩) n c cs _ (HX.out.on (bthen B2.out hB)) HL.out k HS.out HK.out (by omega) (by omega)) ?_)
      rintro e' v' ⟨rfl, b6⟩
      rw [HPR.out]
      exact ⟨_, rfl, hK _ _ rfl b6⟩
    | 5, _, _, ho =>
      obtain rfl := Option.some.inj ho
      have h0 : a'.eval (.tmp 16) = .slice (some ⟨g, o, none⟩) n c := (new_of hnd 1 16 (by kernel_rfl) (by decide) :)
      have h1 : a'.eval (.tmp 19) = .int .i64 (P : Int) := (new_of hnd 4 19 (by kernel_rfl) (by decide) :)
      exact idx_ce _ _ _ _ _ _ _ rfl h0 h1 hPn (hK _ _ rfl (Below.refl _ _))
    | 6, _, _, ho =>
      obtain rfl := Option.some.inj ho
      have h0 : a'.eval (.tmp 20) = .pointer (some ⟨g, o + P * 16, none⟩) := (new_of hnd 5 20 (by kernel_rfl) (by decide) :)
      exact ld_ce _ _ _ y rfl h0 (HC.out _ (bthen B2.out hB)) (hK _ _ rfl (Below.refl _ _))
    | 7, hja, _, _ => exact absurd rfl hja
    | 8, _, hjs, _ => exact absurd rfl hjs
    | j + 9, _, _, ho => simp at ho
  · intro f v b hf eN lN rN hB
    have e0 : f 0 = (.pointer (some ⟨w.heap.size, 1, none⟩)) := hf (0, 15) (by decide) (by decide)
    have e1 : f 1 = (.slice (some ⟨g, o, none⟩) n c) := hf (1, 16) (by decide) (by decide)
    have e2 : f 2 = (.agg #[.int .i64 s, .slice (some ⟨g, o, none⟩) n c]) := hf (2, 17) (by decide) (by decide)
    have e3 : f 3 = (.agg #[.int .i64 k.tenant, .int .i64 k.key.src.k, .int .i64 k.key.src.a, .int .i64 k.key.src.b, .int .i64 k.key.src.c, .int .i64 k.key.src.d, .int .i64 k.key.dst.k, .int .i64 k.key.dst.a, .int .i64 k.key.dst.b, .int .i64 k.key.dst.c, .int .i64 k.key.dst.d, .int .i64 k.key.proto, .int .i64 k.key.sport, .int .i64 k.key.dport]) := hf (3, 18) (by decide) (by decide)
    have e4 : f 4 = (.int .i64 (P : Int)) := hf (4, 19) (by decide) (by decide)
    have e5 : f 5 = (.pointer (some ⟨g, o + P * 16, none⟩)) := hf (5, 20) (by decide) (by decide)
    have e6 : f 6 = (.agg #[.bool y.used, .int .i64 y.key.tenant, .int .i64 y.key.key.src.k, .int .i64 y.key.key.src.a, .int .i64 y.key.key.src.b, .int .i64 y.key.key.src.c, .int .i64 y.key.key.src.d, .int .i64 y.key.key.dst.k, .int .i64 y.key.key.dst.a, .int .i64 y.key.key.dst.b, .int .i64 y.key.key.dst.c, .int .i64 y.key.key.dst.d, .int .i64 y.key.key.proto, .int .i64 y.key.key.sport, .int .i64 y.key.key.dport, .int .i64 y.num]) := hf (6, 21) (by decide) (by decide)
    simp only [List.foldl_cons, List.foldl_nil, e0, e1, e2, e3, e4, e5, e6, eN]
    clear e0 e1 e2 e3 e4 e5 e6 eN hf
    go_simp
    have B3 := Lib.hid (bthen B2.out hB)
    have c0 := K.cell rN 0 _ rfl
    have c15 := K.cell rN 15 _ rfl
    clear hB rN lN
    go_wp2_with fail
    go_quiet (fail)
    go_wp2
    go_ret2
    exact ⟨by rw [HR.out]; rfl, below_drewN B3.out _⟩

theorem tabFindI (s : Int) (A : Option Addr) (n c : Nat) (cs : List Ce) (w : World) (hx : RV w w.heap.size A (fl Ce.cells cs)) (hl : cs.length = n) (hn : n ≤ 1048576) (k : Fk) : Calls Try.prog 34 #[.agg #[.int .i64 s, .slice A n c], .agg #[.int .i64 k.tenant, .int .i64 k.key.src.k, .int .i64 k.key.src.a, .int .i64 k.key.src.b, .int .i64 k.key.src.c, .int .i64 k.key.src.d, .int .i64 k.key.dst.k, .int .i64 k.key.dst.a, .int .i64 k.key.dst.b, .int .i64 k.key.dst.c, .int .i64 k.key.dst.d, .int .i64 k.key.proto, .int .i64 k.key.sport, .int .i64 k.key.dport]] w fun e w' => e = .returned (.tuple #[.int .i64 (tabFind s cs k).1, .bool (tabFind s cs k).2]) ∧ Below w.heap.size w w' := by
  cases ho : tabOk s cs with
  | false => exact tabFindI_0 s A n c cs w hx hl hn k ho
  | true =>
    cases hk : k.ok with
    | false => exact tabFindI_1 s A n c cs w hx hl hn k ho hk
    | true => exact tabFindI_2 s A n c cs w hx hl hn k ho hk

end Go.Proofs.Ytmfkpiclpkeemaa

namespace Go.Proofs.Ytmfkpiclpkeemaa
set_option maxRecDepth 100000
open Go.RowKit

set_option maxHeartbeats 2000000 in
theorem tabFindS_0 (s : Int) (A : Option Addr) (n c : Nat) (cs : List Ce) (w : World) (hx : RV w w.heap.size A (fl Ce.cells cs)) (hl : cs.length = n) (hn : n ≤ 1048576) (k : Fk) (ho : tabOk s cs = false) : Calls Try.prog 33 #[.agg #[.int .i64 s, .slice A n c], .agg #[.int .i64 k.tenant, .int .i64 k.key.src.k, .int .i64 k.key.src.a, .int .i64 k.key.src.b, .int .i64 k.key.src.c, .int .i64 k.key.src.d, .int .i64 k.key.dst.k, .int .i64 k.key.dst.a, .int .i64 k.key.dst.b, .int .i64 k.key.dst.c, .int .i64 k.key.dst.d, .int .i64 k.key.proto, .int .i64 k.key.sport, .int .i64 k.key.dport]] w fun e w' => e = .returned (.tuple #[.int .i64 (tabFind s cs k).1, .bool (tabFind s cs k).2]) ∧ Below w.heap.size w w' := by
  have HX := Lib.hid hx
  have HL := Lib.hid hl
  have HR := Lib.hid (tabFind_no (k := k) (by rw [ho]; rfl))
  have HO := Lib.hid ho
  clear ho hx hl
  have p0 : Hid (((w.alloc (.cells #[.int .i64 s, .slice A n c] 40)).alloc (.cells #[.int .i64 k.tenant, .int .i64 k.key.src.k, .int .i64 k.key.src.a, .int .i64 k.key.src.b, .int .i64 k.key.src.c, .int .i64 k.key.src.d, .int .i64 k.key.dst.k, .int .i64 k.key.dst.a, .int .i64 k.key.dst.b, .int .i64 k.key.dst.c, .int .i64 k.key.dst.d, .int .i64 k.key.proto, .int .i64 k.key.sport, .int .i64 k.key.dport] 33)).heap[w.heap.size]? = some (.cells #[.int .i64 s, .slice A n c] 40 (0, 0))) := Lib.hid (K.old (K.new w _) _)
  have q0 : Hid (((w.alloc (.cells #[.int .i64 s, .slice A n c] 40)).alloc (.cells #[.int .i64 k.tenant, .int .i64 k.key.src.k, .int .i64 k.key.src.a, .int .i64 k.key.src.b, .int .i64 k.key.src.c, .int .i64 k.key.src.d, .int .i64 k.key.dst.k, .int .i64 k.key.dst.a, .int .i64 k.key.dst.b, .int .i64 k.key.dst.c, .int .i64 k.key.dst.d, .int .i64 k.key.proto, .int .i64 k.key.sport, .int .i64 k.key.dport] 33)).heap[w.heap.size + 1]? = some (.cells #[.int .i64 k.tenant, .int .i64 k.key.src.k, .int .i64 k.key.src.a, .int .i64 k.key.src.b, .int .i64 k.key.src.c, .int .i64 k.key.src.d, .int .i64 k.key.dst.k, .int .i64 k.key.dst.a, .int .i64 k.key.dst.b, .int .i64 k.key.dst.c, .int .i64 k.key.dst.d, .int .i64 k.key.proto, .int .i64 k.key.sport, .int .i64 k.key.dport] 33 (0, 0))) := Lib.hid (K.newAt (by simp))
  have HB := Lib.hid (Joins.below_alloc2 w (.cells #[.int .i64 s, .slice A n c] 40) (.cells #[.int .i64 k.tenant, .int .i64 k.key.src.k, .int .i64 k.key.src.a, .int .i64 k.key.src.b, .int .i64 k.key.src.c, .int .i64 k.key.src.d, .int .i64 k.key.dst.k, .int .i64 k.key.dst.a, .int .i64 k.key.dst.b, .int .i64 k.key.dst.c, .int .i64 k.key.dst.d, .int .i64 k.key.proto, .int .i64 k.key.sport, .int .i64 k.key.dport] 33))
  have t0 := K.cell p0.out 0 _ rfl
  have t1 := K.cell p0.out 1 _ rfl
  go_enter Try.func33, Try.ntmps33
  go_wp2_with fail
  refine Calls.mono (tabOkSB s A n c cs _ (HX.out.on HB.out) HL.out hn false HO.out) ?_
  rintro e w1 ⟨rfl, b1⟩
  have B1 := Lib.hid (bthen HB.out b1)
  clear b1 t0 t1
  go_wp2
  go_ret2
  exact ⟨by rw [HR.out]; rfl, B1.out⟩

set_option maxHeartbeats 2000000 in
theorem tabFindS_1 (s : Int) (A : Option Addr) (n c : Nat) (cs : List Ce) (w : World) (hx : RV w w.heap.size A (fl Ce.cells cs)) (hl : cs.length = n) (hn : n ≤ 1048576) (k : Fk) (ho : tabOk s cs = true) (hk : k.ok = false) : Calls Try.prog 33 #[.agg #[.int .i64 s, .slice A n c], .agg #[.int .i64 k.tenant, .int .i64 k.key.src.k, .int .i64 k.key.src.a, .int .i64 k.key.src.b, .int .i64 k.key.src.c, .int .i64 k.key.src.d, .int .i64 k.key.dst.k, .int .i64 k.key.dst.a, .int .i64 k.key.dst.b, .int .i64 k.key.dst.c, .int .i64 k.key.dst.d, .int .i64 k.key.proto, .int .i64 k.key.sport, .int .i64 k.key.dport]] w fun e w' => e = .returned (.tuple #[.int .i64 (tabFind s cs k).1, .bool (tabFind s cs k).2]) ∧ Below w.heap.size w w' := by
  have HX := Lib.hid hx
  have HL := Lib.hid hl
  have HR := Lib.hid (tabFind_no (s := s) (cs := cs) (k := k) (by rw [hk, Bool.and_false]))
  have HO := Lib.hid ho
  have HK := Lib.hid hk
  clear ho hk hx hl
  have p0 : Hid (((w.alloc (.cells #[.int .i64 s, .slice A n c] 40)).alloc (.cells #[.int .i64 k.tenant, .int .i64 k.key.src.k, .int .i64 k.key.src.a, .int .i64 k.key.src.b, .int .i64 k.key.src.c, .int .i64 k.key.src.d, .int .i64 k.key.dst.k, .int .i64 k.key.dst.a, .int .i64 k.key.dst.b, .int .i64 k.key.dst.c, .int .i64 k.key.dst.d, .int .i64 k.key.proto, .int .i64 k.key.sport, .int .i64 k.key.dport] 33)).heap[w.heap.size]? = some (.cells #[.int .i64 s, .slice A n c] 40 (0, 0))) := Lib.hid (K.old (K.new w _) _)
  have q0 : Hid (((w.alloc (.cells #[.int .i64 s, .slice A n c] 40)).alloc (.cells #[.int .i64 k.tenant, .int .i64 k.key.src.k, .int .i64 k.key.src.a, .int .i64 k.key.src.b, .int .i64 k.key.src.c, .int .i64 k.key.src.d, .int .i64 k.key.dst.k, .int .i64 k.key.dst.a, .int .i64 k.key.dst.b, .int .i64 k.key.dst.c, .int .i64 k.key.dst.d, .int .i64 k.key.proto, .int .i64 k.key.sport, .int .i64 k.key.dport] 33)).heap[w.heap.size + 1]? = some (.cells #[.int .i64 k.tenant, .int .i64 k.key.src.k, .int .i64 k.key.src.a, .int .i64 k.key.src.b, .int .i64 k.key.src.c, .int .i64 k.key.src.d, .int .i64 k.key.dst.k, .int .i64 k.key.dst.a, .int .i64 k.key.dst.b, .int .i64 k.key.dst.c, .int .i64 k.key.dst.d, .int .i64 k.key.proto, .int .i64 k.key.sport, .int .i64 k.key.dport] 33 (0, 0))) := Lib.hid (K.newAt (by simp))
  have HB := Lib.hid (Joins.below_alloc2 w (.cells #[.int .i64 s, .slice A n c] 40) (.cells #[.int .i64 k.tenant, .int .i64 k.key.src.k, .int .i64 k.key.src.a, .int .i64 k.key.src.b, .int .i64 k.key.src.c, .int .i64 k.key.src.d, .int .i64 k.key.dst.k, .int .i64 k.key.dst.a, .int .i64 k.key.dst.b, .int .i64 k.key.dst.c, .int .i64 k.key.dst.d, .int .i64 k.key.proto, .int .i64 k.key.sport, .int .i64 k.key.dport] 33))
  have t0 := K.cell p0.out 0 _ rfl
  have t1 := K.cell p0.out 1 _ rfl
  go_enter Try.func33, Try.ntmps33
  go_wp2_with fail
  refine Calls.mono (tabOkSB s A n c cs _ (HX.out.on HB.out) HL.out hn true HO.out) ?_
  rintro e w1 ⟨rfl, b1⟩
  have B1 := Lib.hid (bthen HB.out b1)
  have p1 := Lib.hid (K.below b1 p0.out)
  have q1 := Lib.hid (K.below b1 q0.out)
  clear b1 t0 t1 p0 q0
  obtain ⟨z0, z1, z2, z3, z4, z5, z6, z7, z8, z9, z10, z11, z12, z13⟩ := K.fk q1.out
  go_wp2_with fail
  refine Calls.mono (fkOkSB k false HK.out _) ?_
  rintro e w2 ⟨rfl, b2⟩
  have B2 := Lib.hid (bthen B1.out b2)
  have p2 := Lib.hid (K.below b2 p1.out)
  have q2 := Lib.hid (K.below b2 q1.out)
  clear b2 z0 z1 z2 z3 z4 z5 z6 z7 z8 z9 z10 z11 z12 z13 p1 q1
  go_wp2
  go_ret2
  exact ⟨by rw [HR.out]; rfl, B2.out⟩

set_option maxHeartbeats 2000000 in
theorem tabFindS_2 (s : Int) (A : Option Addr) (n c : Nat) (cs : List Ce) (w : World) (hx : RV w w.heap.size A (fl Ce.cells cs)) (hl : cs.length = n) (hn : n ≤ 1048576) (k : Fk) (ho : tabOk s cs = true) (hk : k.ok = true) : Calls Try.prog 33 #[.agg #[.int .i64 s, .slice A n c], .agg #[.int .i64 k.tenant, .int .i64 k.key.src.k, .int .i64 k.key.src.a, .int .i64 k.key.src.b, .int .i64 k.key.src.c, .int .i64 k.key.src.d, .int .i64 k.key.dst.k, .int .i64 k.key.dst.a, .int .i64 k.key.dst.b, .int .i64 k.key.dst.c, .int .i64 k.key.dst.d, .int .i64 k.key.proto, .int .i64 k.key.sport, .int .i64 k.key.dport]] w fun e w' => e = .returned (.tuple #[.int .i64 (tabFind s cs k).1, .bool (tabFind s cs k).2]) ∧ Below w.heap.size w w' := by
  have HX := Lib.hid hx
  have HL := Lib.hid hl
  have HO := Lib.hid ho
  have HK := Lib.hid hk
  cases hp : placeT cs k with
  | none =>
    have HR := Lib.hid (tabFind_none ho hk hp)
    have HPL := Lib.hid (show idx (placeT cs k) = -1 by rw [hp]; rfl)
    clear ho hk hx hl hp
    have p0 : Hid (((w.alloc (.cells #[.int .i64 s, .slice A n c] 40)).alloc (.cells #[.int .i64 k.tenant, .int .i64 k.key.src.k, .int .i64 k.key.src.a, .int .i64 k.key.src.b, .int .i64 k.key.src.c, .int .i64 k.key.src.d, .int .i64 k.key.dst.k, .int .i64 k.key.dst.a, .int .i64 k.key.dst.b, .int .i64 k.key.dst.c, .int .i64 k.key.dst.d, .int .i64 k.key.proto, .int .i64 k.key.sport, .int .i64 k.key.dport] 33)).heap[w.heap.size]? = some (.cells #[.int .i64 s, .slice A n c] 40 (0, 0))) := Lib.hid (K.old (K.new w _) _)
    have q0 : Hid (((w.alloc (.cells #[.int .i64 s, .slice A n c] 40)).alloc (.cells #[.int .i64 k.tenant, .int .i64 k.key.src.k, .int .i64 k.key.src.a, .int .i64 k.key.src.b, .int .i64 k.key.src.c, .int .i64 k.key.src.d, .int .i64 k.key.dst.k, .int .i64 k.key.dst.a, .int .i64 k.key.dst.b, .int .i64 k.key.dst.c, .int .i64 k.key.dst.d, .int .i64 k.key.proto, .int .i64 k.key.sport, .int .i64 k.key.dport] 33)).heap[w.heap.size + 1]? = some (.cells #[.int .i64 k.tenant, .int .i64 k.key.src.k, .int .i64 k.key.src.a, .int .i64 k.key.src.b, .int .i64 k.key.src.c, .int .i64 k.key.src.d, .int .i64 k.key.dst.k, .int .i64 k.key.dst.a, .int .i64 k.key.dst.b, .int .i64 k.key.dst.c, .int .i64 k.key.dst.d, .int .i64 k.key.proto, .int .i64 k.key.sport, .int .i64 k.key.dport] 33 (0, 0))) := Lib.hid (K.newAt (by simp))
    have HB := Lib.hid (Joins.below_alloc2 w (.cells #[.int .i64 s, .slice A n c] 40) (.cells #[.int .i64 k.tenant, .int .i64 k.key.src.k, .int .i64 k.key.src.a, .int .i64 k.key.src.b, .int .i64 k.key.src.c, .int .i64 k.key.src.d, .int .i64 k.key.dst.k, .int .i64 k.key.dst.a, .int .i64 k.key.dst.b, .int .i64 k.key.dst.c, .int .i64 k.key.dst.d, .int .i64 k.key.proto, .int .i64 k.key.sport, .int .i64 k.key.dport] 33))
    have t0 := K.cell p0.out 0 _ rfl
    have t1 := K.cell p0.out 1 _ rfl
    go_enter Try.func33, Try.ntmps33
    go_wp2_with fail
    refine Calls.mono (tabOkSB s A n c cs _ (HX.out.on HB.out) HL.out hn true HO.out) ?_
    rintro e w1 ⟨rfl, b1⟩
    have B1 := Lib.hid (bthen HB.out b1)
    have p1 := Lib.hid (K.below b1 p0.out)
    have q1 := Lib.hid (K.below b1 q0.out)
    clear b1 t0 t1 p0 q0
    obtain ⟨z0, z1, z2, z3, z4, z5, z6, z7, z8, z9, z10, z11, z12, z13⟩ := K.fk q1.out
    go_wp2_with fail
    refine Calls.mono (fkOkSB k true HK.out _) ?_
    rintro e w2 ⟨rfl, b2⟩
    have B2 := Lib.hid (bthen B1.out b2)
    have p2 := Lib.hid (K.below b2 p1.out)
    have q2 := Lib.hid (K.below b2 q1.out)
    clear b2 z0 z1 z2 z3 z4 z5 z6 z7 z8 z9 z10 z11 z12 z13 p1 q1
    have t0 := K.cell p2.out 0 _ rfl
    have t1 := K.cell p2.out 1 _ rfl
    go_wp2_with (with_reducible refine loadFk rfl _ rfl (w.heap.size + 1) rfl q2.out ?_)
    refine Calls.mono (placeS s A n c cs _ (HX.out.on B2.out) HL.out hn k) ?_
    rw [HPL.out]
    rintro e w3 ⟨rfl, b3⟩
    have B3 := Lib.hid (bthen B2.out b3)
    clear b3 t0 t1
    go_wp2
    go_ret2
    exact ⟨by rw [HR.out]; rfl, B3.out⟩
  | some P =>
    have HR0 := tabFind_place ho hk hp
    have hP := (probe_of_place ho hp).2.2.1
    have HPL := Lib.hid (show idx (placeT cs k) = (P : Int) by rw [hp]; rfl)
    obtain ⟨g, o, rfl, hg, hc0⟩ := HX.out.flat Ce.cells_length (by omega) hP
    rw [ceAt_get hP] at HR0
    have HR := Lib.hid HR0
    have hPn : P < n := by rw [← hl]; exact hP
    have HC := Lib.hid (show ∀ v, Below w.heap.size w v → v.rangeAt g (o + P * 16) cs[P].cells from fun v hv j u hu => (hv.cell (p := ⟨g, o + P * 16 + j, none⟩) hg).trans (hc0 j u hu))
    clear HR0 hc0
    generalize cs[P] = y at *
    clear ho hk hx hl hp hg hP
    have p0 : Hid (((w.alloc (.cells #[.int .i64 s, .slice (some ⟨g, o, none⟩) n c] 40)).alloc (.cells #[.int .i64 k.tenant, .int .i64 k.key.src.k, .int .i64 k.key.src.a, .int .i64 k.key.src.b, .int .i64 k.key.src.c, .int .i64 k.key.src.d, .int .i64 k.key.dst.k, .int .i64 k.key.dst.a, .int .i64 k.key.dst.b, .int .i64 k.key.dst.c, .int .i64 k.key.dst.d, .int .i64 k.key.proto, .int .i64 k.key.sport, .int .i64 k.key.dport] 33)).heap[w.heap.size]? = some (.cells #[.int .i64 s, .slice (some ⟨g, o, none⟩) n c] 40 (0, 0))) := Lib.hid (K.old (K.new w _) _)
    have q0 : Hid (((w.alloc (.cells #[.int .i64 s, .slice (some ⟨g, o, none⟩) n c] 40)).alloc (.cells #[.int .i64 k.tenant, .int .i64 k.key.src.k, .int .i64 k.key.src.a, .int .i64 k.key.src.b, .int .i64 k.key.src.c, .int .i64 k.key.src.d, .int .i64 k.key.dst.k, .int .i64 k.key.dst.a, .int .i64 k.key.dst.b, .int .i64 k.key.dst.c, .int .i64 k.key.dst.d, .int .i64 k.key.proto, .int .i64 k.key.sport, .int .i64 k.key.dport] 33)).heap[w.heap.size + 1]? = some (.cells #[.int .i64 k.tenant, .int .i64 k.key.src.k, .int .i64 k.key.src.a, .int .i64 k.key.src.b, .int .i64 k.key.src.c, .int .i64 k.key.src.d, .int .i64 k.key.dst.k, .int .i64 k.key.dst.a, .int .i64 k.key.dst.b, .int .i64 k.key.dst.c, .int .i64 k.key.dst.d, .int .i64 k.key.proto, .int .i64 k.key.sport, .int .i64 k.key.dport] 33 (0, 0))) := Lib.hid (K.newAt (by simp))
    have HB := Lib.hid (Joins.below_alloc2 w (.cells #[.int .i64 s, .slice (some ⟨g, o, none⟩) n c] 40) (.cells #[.int .i64 k.tenant, .int .i64 k.key.src.k, .int .i64 k.key.src.a, .int .i64 k.key.src.b, .int .i64 k.key.src.c, .int .i64 k.key.src.d, .int .i64 k.key.dst.k, .int .i64 k.key.dst.a, .int .i64 k.key.dst.b, .int .i64 k.key.dst.c, .int .i64 k.key.dst.d, .int .i64 k.key.proto, .int .i64 k.key.sport, .int .i64 k.key.dport] 33))
    have t0 := K.cell p0.out 0 _ rfl
    have t1 := K.cell p0.out 1 _ rfl
    go_enter Try.func33, Try.ntmps33
    go_wp2_with fail
    refine Calls.mono (tabOkSB s (some ⟨g, o, none⟩) n c cs _ (HX.out.on HB.out) HL.out hn true HO.out) ?_
    rintro e w1 ⟨rfl, b1⟩
    have B1 := Lib.hid (bthen HB.out b1)
    have p1 := Lib.hid (K.below b1 p0.out)
    have q1 := Lib.hid (K.below b1 q0.out)
    clear b1 t0 t1 p0 q0
    obtain ⟨z0, z1, z2, z3, z4, z5, z6, z7, z8, z9, z10, z11, z12, z13⟩ := K.fk q1.out
    go_wp2_with fail
    refine Calls.mono (fkOkSB k true HK.out _) ?_
    rintro e w2 ⟨rfl, b2⟩
    have B2 := Lib.hid (bthen B1.out b2)
    have p2 := Lib.hid (K.below b2 p1.out)
    have q2 := Lib.hid (K.below b2 q1.out)
    clear b2 z0 z1 z2 z3 z4 z5 z6 z7 z8 z9 z10 z11 z12 z13 p1 q1
    have t0 := K.cell p2.out 0 _ rfl
    have t1 := K.cell p2.out 1 _ rfl
    go_wp2_with (with_reducible refine loadFk rfl _ rfl (w.heap.size + 1) rfl q2.out ?_)
    refine Calls.mono (placeS s (some ⟨g, o, none⟩) n c cs _ (HX.out.on B2.out) HL.out hn k) ?_
    rw [HPL.out]
    rintro e w3 ⟨rfl, b3⟩
    have B3 := Lib.hid (bthen B2.out b3)
    have p3 := Lib.hid (K.below b3 p2.out)
    clear b3 t0 t1
    have t1 := K.cell p3.out 1 _ rfl
    have c15 := (HC.out _ B3.out) 15 _ rfl
    have hP0 : ¬ ((P : Int) < 0) := by omega
    go_wp2
    go_ret2
    exact ⟨by rw [HR.out]; rfl, B3.out⟩

theorem tabFindS (s : Int) (A : Option Addr) (n c : Nat) (cs : List Ce) (w : World) (hx : RV w w.heap.size A (fl Ce.cells cs)) (hl : cs.length = n) (hn : n ≤ 1048576) (k : Fk) : Calls Try.prog 33 #[.agg #[.int .i64 s, .slice A n c], .agg #[.int .i64 k.tenant, .int .i64 k.key.src.k, .int .i64 k.key.src.a, .int .i64 k.key.src.b, .int .i64 k.key.src.c, .int .i64 k.key.src.d, .int .i64 k.key.dst.k, .int .i64 k.key.dst.a, .int .i64 k.key.dst.b, .int .i64 k.key.dst.c, .int .i64 k.key.dst.d, .int .i64 k.key.proto, .int .i64 k.key.sport, .int .i64 k.key.dport]] w fun e w' => e = .returned (.tuple #[.int .i64 (tabFind s cs k).1, .bool (tabFind s cs k).2]) ∧ Below w.heap.size w w' := by
  cases ho : tabOk s cs with
  | false => exact tabFindS_0 s A n c cs w hx hl hn k ho
  | true =>
    cases hk : k.ok with
    | false => exact tabFindS_1 s A n c cs w hx hl hn k ho hk
    | true => exact tabFindS_2 s A n c cs w hx hl hn k ho hk

end Go.Proofs.Ytmfkpiclpkeemaa
