/-
  Appending onto rows of flow keys and of cells. What TableFind, TableUsed and TableKeys answer, in either way of reckoning. Nothing here speaks of the program. TableKeys in the program. TableKeys in the model.
-/
import Derived.Test.YtmfkpiclpkeemaaCe
import Derived.Test.YtmfkpiclpkeemaaFk
import Derived.Test.YtmfkpiclpkeemaaRow
import Derived.Test.YtmfkpiclpkeemaaGA
import Derived.Test.YtmfkpiclpkeemaaGB
namespace Go.Proofs.Ytmfkpiclpkeemaa
set_option maxRecDepth 100000
open Go.RowKit

theorem run_append_fk (w : World) (ty base : Nat) (v : Value) (n : Nat) (xs : List Fk) (hown : w.ownsRow base 33 14 v n (fl Fk.cells xs)) (B : Nat) (A : Option Addr) (m c : Nat) (ds : List Fk) (hm : ds.length = m) (hr : RV w B A (fl Fk.cells ds))
    (hn : n + m ≤ 1048576) (hbase : base ≤ w.heap.size) :
    ∃ v' w', (Builtin.append_ #[56, 56] ty #[v, .slice A m c]).run Try.prog w = .ok v' w' ∧ w'.ownsRow base 33 14 v' (n + m) (fl Fk.cells (xs ++ ds)) ∧ w.grownBy w' v.ownBlock ∧
      (v'.ownBlock = v.ownBlock ∨ v'.ownBlock = some w.heap.size) := by
  obtain ⟨i0, hi0, hz0, hz1, hz2⟩ := info_parts info_fkP
  rw [fl_append]
  exact run_append_v w 56 ty 33 i0 (.agg #[.int .i64 0, .int .i64 0, .int .i64 0, .int .i64 0, .int .i64 0, .int .i64 0, .int .i64 0, .int .i64 0, .int .i64 0, .int .i64 0, .int .i64 0, .int .i64 0, .int .i64 0, .int .i64 0]) 14 112 Try.underlying56 hi0 hz0 hz1 hz2 rfl (by omega) base v n _ hown B A m c _ (by rw [fl_length Fk.cells_length, hm]) hr (fl_one Fk.cells_one ds) (by unfold maxLen; omega) (by omega) hbase
theorem wpList_append_fk {w : World} {ops : Array Oper} {rest : List Oper} {o : Oper} {a : Act} {Q : Exit → Act → World → Prop} (hgd : o.guard = none) (s x : Operand)
    (ho : o.op = .call { callee := .builtin .append, args := #[s, x], argTypes := #[56, 56] }) (base : Nat) (v : Value) (n : Nat) (xs : List Fk) (hs : a.eval s = v) (hown : w.ownsRow base 33 14 v n (fl Fk.cells xs))
    (B : Nat) (A : Option Addr) (m c : Nat) (ds : List Fk) (hx : a.eval x = .slice A m c) (hm : ds.length = m) (hr : RV w B A (fl Fk.cells ds)) (hn : n + m ≤ 1048576) (hbase : base ≤ w.heap.size)
    (h : ∀ v' w', w'.ownsRow base 33 14 v' (n + m) (fl Fk.cells (xs ++ ds)) → w.grownBy w' v.ownBlock → (v'.ownBlock = v.ownBlock ∨ v'.ownBlock = some w.heap.size) → wpList Try.prog ops Q rest (a.put o.dst v') w') :
    wpList Try.prog ops Q (o :: rest) a w := by
  refine wpList_plain hgd fun K hK => ?_
  obtain ⟨v', w', hrun, h2, h3, h4⟩ := run_append_fk w o.type base v n xs hown B A m c ds hm hr hn hbase
  unfold Oper.wp execOp
  simp only [ho, resolve, invoke, builtin, Sem.run_bind, Sem.run_pure, Result.andThen_ok, List.map_toArray, List.map_cons, List.map_nil, hs, hx, hrun]
  exact hK _ _ (h v' w' h2 h3 h4)

theorem run_append_ce (w : World) (ty base : Nat) (v : Value) (n : Nat) (xs : List Ce) (hown : w.ownsRow base 93 16 v n (fl Ce.cells xs)) (B : Nat) (A : Option Addr) (m c : Nat) (ds : List Ce) (hm : ds.length = m) (hr : RV w B A (fl Ce.cells ds))
    (hn : n + m ≤ 1048576) (hbase : base ≤ w.heap.size) :
    ∃ v' w', (Builtin.append_ #[38, 38] ty #[v, .slice A m c]).run Try.prog w = .ok v' w' ∧ w'.ownsRow base 93 16 v' (n + m) (fl Ce.cells (xs ++ ds)) ∧ w.grownBy w' v.ownBlock ∧
      (v'.ownBlock = v.ownBlock ∨ v'.ownBlock = some w.heap.size) := by
  obtain ⟨i0, hi0, hz0, hz1, hz2⟩ := info_parts info_ceP
  rw [fl_append]
  exact run_append_v w 38 ty 93 i0 (.agg #[.bool false, .int .i64 0, .int .i64 0, .int .i64 0, .int .i64 0, .int .i64 0, .int .i64 0, .int .i64 0, .int .i64 0, .int .i64 0, .int .i64 0, .int .i64 0, .int .i64 0, .int .i64 0, .int .i64 0, .int .i64 0]) 16 128 Try.underlying38 hi0 hz0 hz1 hz2 rfl (by omega) base v n _ hown B A m c _ (by rw [fl_length Ce.cells_length, hm]) hr (fl_one Ce.cells_one ds) (by unfold maxLen; omega) (by omega) hbase
theorem wpList_append_ce {w : World} {ops : Array Oper} {rest : List Oper} {o : Oper} {a : Act} {Q : Exit → Act → World → Prop} (hgd : o.guard = none) (s x : Operand)
    (ho : o.op = .call { callee := .builtin .append, args := #[s, x], argTypes := #[38, 38] }) (base : Nat) (v : Value) (n : Nat) (xs : List Ce) (hs : a.eval s = v) (hown : w.ownsRow base 93 16 v n (fl Ce.cells xs))
    (B : Nat) (A : Option Addr) (m c : Nat) (ds : List Ce) (hx : a.eval x = .slice A m c) (hm : ds.length = m) (hr : RV w B A (fl Ce.cells ds)) (hn : n + m ≤ 1048576) (hbase : base ≤ w.heap.size)
    (h : ∀ v' w', w'.ownsRow base 93 16 v' (n + m) (fl Ce.cells (xs ++ ds)) → w.grownBy w' v.ownBlock → (v'.ownBlock = v.ownBlock ∨ v'.ownBlock = some w.heap.size) → wpList Try.prog ops Q rest (a.put o.dst v') w') :
    wpList Try.prog ops Q (o :: rest) a w := by
  refine wpList_plain hgd fun K hK => ?_
  obtain ⟨v', w', hrun, h2, h3, h4⟩ := run_append_ce w o.type base v n xs hown B A m c ds hm hr hn hbase
  unfold Oper.wp execOp
  simp only [ho, resolve, invoke, builtin, Sem.run_bind, Sem.run_pure, Result.andThen_ok, List.map_toArray, List.map_cons, List.map_nil, hs, hx, hrun]
  exact hK _ _ (h v' w' h2 h3 h4)

end Go.Proofs.Ytmfkpiclpkeemaa

namespace Go.Proofs.Ytmfkpiclpkeemaa
set_option maxRecDepth 100000
open Go.RowKit

theorem probe_of_place {s : Int} {cs : List Ce} {k : Fk} {i : Nat} (h : tabOk s cs = true) (hp : placeT cs k = some i) : probeT s cs k = some i ∧ (ceAt cs i).used = true ∧ i < cs.length ∧ (ceAt cs i).key = k := by
  obtain ⟨hi, hu, hk, _⟩ := place_some.1 hp
  have g := tab_good h i hi hu
  rw [hk] at g
  exact ⟨g, hu, hi, hk⟩
theorem unused_of_none {s : Int} {cs : List Ce} {k : Fk} {p : Nat} (h : tabOk s cs = true) (hp : placeT cs k = none) (hq : probeT s cs k = some p) : (ceAt cs p).used = false := by
  cases hu : (ceAt cs p).used with
  | false => rfl
  | true =>
    have := place_of_probe (tab_good h) hq hu
    unfold placeT at hp
    rw [hp] at this
    cases this
theorem tabFind_no {s : Int} {cs : List Ce} {k : Fk} (h : (tabOk s cs && k.ok) = false) : tabFind s cs k = (0, false) := by
  unfold tabFind
  rw [h]
  rfl
theorem tabFind_probe {s : Int} {cs : List Ce} {k : Fk} {p : Nat} (h : tabOk s cs = true) (hk : k.ok = true) (hp : probeT s cs k = some p) : tabFind s cs k = ((ceAt cs p).num, (ceAt cs p).used) := by
  unfold tabFind
  rw [h, hk, hp]
  rfl
theorem tabFind_place {s : Int} {cs : List Ce} {k : Fk} {i : Nat} (h : tabOk s cs = true) (hk : k.ok = true) (hp : placeT cs k = some i) : tabFind s cs k = ((ceAt cs i).num, true) := by
  obtain ⟨h1, h2, _, _⟩ := probe_of_place h hp
  rw [tabFind_probe h hk h1, h2]
theorem tabFind_none {s : Int} {cs : List Ce} {k : Fk} (h : tabOk s cs = true) (hk : k.ok = true) (hp : placeT cs k = none) : tabFind s cs k = (0, false) := by
  obtain ⟨p, hpl, h1⟩ := tab_probe h k
  have h2 := unused_of_none h hp h1
  have h3 := fits_free (tab_fits h hpl) h2
  rw [tabFind_probe h hk h1, h3]
  rfl
theorem tabUsed_no {s : Int} {cs : List Ce} (h : tabOk s cs = false) : tabUsed s cs = -1 := by simp [tabUsed, h]
theorem tabUsed_yes {s : Int} {cs : List Ce} (h : tabOk s cs = true) : tabUsed s cs = (usedN cs : Int) := by simp [tabUsed, h]
theorem tabKeys_no {s : Int} {cs : List Ce} (h : tabOk s cs = false) : tabKeys s cs = [] := by simp [tabKeys, h]
theorem tabKeys_yes {s : Int} {cs : List Ce} (h : tabOk s cs = true) : tabKeys s cs = keysOf cs := by simp [tabKeys, h]
theorem tab_len {s : Int} {cs : List Ce} (h : tabOk s cs = true) : 4 ≤ cs.length ∧ cs.length ≤ 64 := size_pos (tabOk_parts h).2.1
theorem ce_key {w : World} {g o : Nat} {y : Ce} (h : w.rangeAt g o y.cells) : w.rangeAt g (o + 1) y.key.cells := by
  intro j v hv
  have hj : j < 14 := (List.getElem?_eq_some_iff.1 hv).1
  rw [Nat.add_assoc, Nat.add_comm 1 j]
  refine h (j + 1) v ?_
  rw [← hv]
  match j, hj with
  | 0, _ => rfl
  | 1, _ => rfl
  | 2, _ => rfl
  | 3, _ => rfl
  | 4, _ => rfl
  | 5, _ => rfl
  | 6, _ => rfl
  | 7, _ => rfl
  | 8, _ => rfl
  | 9, _ => rfl
  | 10, _ => rfl
  | 11, _ => rfl
  | 12, _ => rfl
  | 13, _ => rfl
end Go.Proofs.Ytmfkpiclpkeemaa

namespace Go.Proofs.Ytmfkpiclpkeemaa
set_option maxRecDepth 100000
open Go.RowKit

theorem own_neF {w : World} {base n b : Nat} {v : Value} {xs : List Value} {cs : Array Value} {t : TypeId} (h : w.ownsRow base 33 14 v n xs) (hb : w.heap[b]? = some (.cells cs t (0, 0))) (ht : t ≠ 33) : ∀ k, v.ownBlock = some k → b ≠ k := by
  intro k hk e
  subst e
  rcases h.2 with ⟨rfl, _⟩ | ⟨g, cap, cur, rfl, _, hg, _⟩
  · simp [Value.ownBlock] at hk
  · simp [Value.ownBlock] at hk
    subst hk
    rw [hg] at hb
    injection hb with hb
    injection hb with _ h2
    exact ht h2.symm
theorem range_ce {w : World} {g : Nat} {t : TypeId} {y : Ce} (h : w.heap[g]? = some (.cells #[.bool y.used, .int .i64 y.key.tenant, .int .i64 y.key.key.src.k, .int .i64 y.key.key.src.a, .int .i64 y.key.key.src.b, .int .i64 y.key.key.src.c, .int .i64 y.key.key.src.d, .int .i64 y.key.key.dst.k, .int .i64 y.key.key.dst.a, .int .i64 y.key.key.dst.b, .int .i64 y.key.key.dst.c, .int .i64 y.key.key.dst.d, .int .i64 y.key.key.proto, .int .i64 y.key.key.sport, .int .i64 y.key.key.dport, .int .i64 y.num] t (0, 0))) : w.rangeAt g 0 y.cells := fun j v hv => by
  rw [Nat.zero_add]
  exact K.cell h j v (by rw [← Array.getElem?_toList]; exact hv)

set_option maxHeartbeats 4000000 in
theorem tabKeysI_0 (s : Int) (A : Option Addr) (n c : Nat) (cs : List Ce) (w : World) (hx : RV w w.heap.size A (fl Ce.cells cs)) (hl : cs.length = n) (hn : n ≤ 1048576) (ho : tabOk s cs = false) : Calls Try.prog 36 #[.agg #[.int .i64 s, .slice A n c]] w fun e w' => ∃ D m d, e = .returned (.slice D m d) ∧ w'.ownsRow w.heap.size 33 14 (.slice D m d) m (fl Fk.cells (tabKeys s cs)) ∧ Below w.heap.size w w' := by
  have HX := Lib.hid hx
  have HL := Lib.hid hl
  have HR := Lib.hid (tabKeys_no ho)
  have HO := Lib.hid ho
  clear ho hx hl
  have p0 := Lib.hid (K.new w (.cells #[.int .i64 s, .slice A n c] 40))
  have HB := Lib.hid (Joins.below_alloc1 w (.cells #[.int .i64 s, .slice A n c] 40))
  have t0 := K.cell p0.out 0 _ rfl
  have t1 := K.cell p0.out 1 _ rfl
  go_enter Try.func36, Try.ntmps36
  go_wp2_with fail
  refine Calls.mono (tabOkIB s A n c cs _ (HX.out.on HB.out) HL.out hn false HO.out) ?_
  rintro e w1 ⟨rfl, b1⟩
  have B1 := Lib.hid (bthen HB.out b1)
  clear b1 t0 t1
  go_wp2
  go_ret
  exact ⟨_, 0, 0, rfl, by rw [HR.out]; exact ⟨rfl, .inl ⟨rfl, rfl⟩⟩, B1.out⟩

set_option maxHeartbeats 4000000 in
theorem tabKeysI_1 (s : Int) (A : Option Addr) (n c : Nat) (cs : List Ce) (w : World) (hx : RV w w.heap.size A (fl Ce.cells cs)) (hl : cs.length = n) (hn : n ≤ 1048576) (ho : tabOk s cs = true) : Calls Try.prog 36 #[.agg #[.int .i64 s, .slice A n c]] w fun e w' => ∃ D m d, e = .returned (.slice D m d) ∧ w'.ownsRow w.heap.size 33 14 (.slice D m d) m (fl Fk.cells (tabKeys s cs)) ∧ Below w.heap.size w w' := by
  have HX := Lib.hid hx
  have HL := Lib.hid hl
  have HR := Lib.hid (tabKeys_yes ho)
  have hlen := tab_len ho
  rw [hl] at hlen
  have HO := Lib.hid ho
  clear ho hx hl
  have p0 := Lib.hid (K.new w (.cells #[.int .i64 s, .slice A n c] 40))
  have HB := Lib.hid (Joins.below_alloc1 w (.cells #[.int .i64 s, .slice A n c] 40))
  have t0 := K.cell p0.out 0 _ rfl
  have t1 := K.cell p0.out 1 _ rfl
  go_enter Try.func36, Try.ntmps36
  go_wp2_with fail
  refine Calls.mono (tabOkIB s A n c cs _ (HX.out.on HB.out) HL.out hn true HO.out) ?_
  rintro e w1 ⟨rfl, b1⟩
  have B1 := Lib.hid (bthen HB.out b1)
  have p1 := Lib.hid (K.below b1 p0.out)
  have O1 : Hid (w1.ownsRow w.heap.size 33 14 (.slice none 0 0) 0 (fl Fk.cells [])) := Lib.hid ⟨rfl, .inl ⟨rfl, rfl⟩⟩
  clear b1 t0 t1 p0
  have t1 := K.cell p1.out 1 _ rfl
  go_wp2
  clear t1
  go_loopw [3, 12] (fun u i wr => ∃ (k m : Nat), k ≤ n ∧ m ≤ k ∧ i = .int .i64 k ∧ Hid (wr.ownsRow w.heap.size 33 14 u m (fl Fk.cells (keysOf (cs.take k)))) ∧ Hid (wr.heap[w.heap.size]? = some (.cells #[.int .i64 s, .slice A n c] 40 (0, 0))) ∧ Hid (Below w.heap.size w wr)) (fun _ i _ => n - (intOf i).toNat)
  case atStart => exact ⟨0, 0, Nat.zero_le _, Nat.zero_le _, rfl, O1, p1, B1⟩
  case round =>
    obtain ⟨k, m, hk, hmk, rfl, ho, p2, hb⟩ := hrel
    have hBB := hb
    have t1 := K.cell p2.out 1 _ rfl
    by_cases hlt : k < n
    · have hk1 : k < cs.length := by rw [HL.out]; exact hlt
      obtain ⟨g, o, rfl, hg, hc0⟩ := HX.out.flat Ce.cells_length (by omega) hk1
      have hc := Lib.hid (show wr.rangeAt g (o + k * 16) cs[k].cells from fun j u hu => (hBB.out.cell (p := ⟨g, o + k * 16 + j, none⟩) hg).trans (hc0 j u hu))
      have HS := Lib.hid (keysOf_succ hk1)
      clear hc0 hg
      generalize cs[k] = y at *
      generalize keysOf (cs.take k) = ks at *
      have qy := Lib.hid (K.new wr (.cells #[.bool y.used, .int .i64 y.key.tenant, .int .i64 y.key.key.src.k, .int .i64 y.key.key.src.a, .int .i64 y.key.key.src.b, .int .i64 y.key.key.src.c, .int .i64 y.key.key.src.d, .int .i64 y.key.key.dst.k, .int .i64 y.key.key.dst.a, .int .i64 y.key.key.dst.b, .int .i64 y.key.key.dst.c, .int .i64 y.key.key.dst.d, .int .i64 y.key.key.proto, .int .i64 y.key.key.sport, .int .i64 y.key.key.dport, .int .i64 y.num] 93))
      have B2 := Lib.hid (bthen hb.out (Joins.below_alloc1 wr (.cells #[.bool y.used, .int .i64 y.key.tenant, .int .i64 y.key.key.src.k, .int .i64 y.key.key.src.a, .int .i64 y.key.key.src.b, .int .i64 y.key.key.src.c, .int .i64 y.key.key.src.d, .int .i64 y.key.key.dst.k, .int .i64 y.key.key.dst.a, .int .i64 y.key.key.dst.b, .int .i64 y.key.key.dst.c, .int .i64 y.key.key.dst.d, .int .i64 y.key.key.proto, .int .i64 y.key.key.sport, .int .i64 y.key.key.dport, .int .i64 y.num] 93)))
      have P2 := Lib.hid (K.old p2.out (.cells #[.bool y.used, .int .i64 y.key.tenant, .int .i64 y.key.key.src.k, .int .i64 y.key.key.src.a, .int .i64 y.key.key.src.b, .int .i64 y.key.key.src.c, .int .i64 y.key.key.src.d, .int .i64 y.key.key.dst.k, .int .i64 y.key.key.dst.a, .int .i64 y.key.key.dst.b, .int .i64 y.key.key.dst.c, .int .i64 y.key.key.dst.d, .int .i64 y.key.key.proto, .int .i64 y.key.key.sport, .int .i64 y.key.key.dport, .int .i64 y.num] 93))
      have O2 := Lib.hid (own_below ho.out (Joins.below_alloc1 wr (.cells #[.bool y.used, .int .i64 y.key.tenant, .int .i64 y.key.key.src.k, .int .i64 y.key.key.src.a, .int .i64 y.key.key.src.b, .int .i64 y.key.key.src.c, .int .i64 y.key.key.src.d, .int .i64 y.key.key.dst.k, .int .i64 y.key.key.dst.a, .int .i64 y.key.key.dst.b, .int .i64 y.key.key.dst.c, .int .i64 y.key.key.dst.d, .int .i64 y.key.key.proto, .int .i64 y.key.key.sport, .int .i64 y.key.key.dport, .int .i64 y.num] 93)))
      have hkk := Lib.hid (ce_key (range_ce qy.out))
      clear t1
      have hu : y.used = false ∨ y.used = true := by cases y.used <;> simp
      rcases hu with hu | hu
      · have HS2 := Lib.hid (show keysOf (cs.take (k + 1)) = ks by rw [HS.out, hu]; exact List.append_nil ks)
        have c0 := (K.cell qy.out 0 _ rfl).trans (congrArg some (congrArg Value.bool hu))
        clear hu
        go_wp2_with (first | (with_reducible refine loadAtCe rfl _ rfl g (o + k * 16) rfl y hc.out ?_) | (with_reducible refine storeNewCe rfl _ _ rfl rfl rfl ?_) | (with_reducible refine loadAtFk rfl _ rfl wr.heap.size (0 + 1) rfl y.key hkk.out ?_))
        go_roundw
        case rel => exact ⟨k + 1, m, by omega, by omega, by go_num, Lib.hid (by rw [HS2.out]; exact O2.out), P2, B2⟩
        case measure => simp [intOf]; omega
      · have HS2 := Lib.hid (show keysOf (cs.take (k + 1)) = ks ++ [y.key] by rw [HS.out, hu]; rfl)
        have c0 := (K.cell qy.out 0 _ rfl).trans (congrArg some (congrArg Value.bool hu))
        clear hu
        have P3 := Lib.hid (K.old P2.out (.cells #[.int .i64 y.key.tenant, .int .i64 y.key.key.src.k, .int .i64 y.key.key.src.a, .int .i64 y.key.key.src.b, .int .i64 y.key.key.src.c, .int .i64 y.key.key.src.d, .int .i64 y.key.key.dst.k, .int .i64 y.key.key.dst.a, .int .i64 y.key.key.dst.b, .int .i64 y.key.key.dst.c, .int .i64 y.key.key.dst.d, .int .i64 y.key.key.proto, .int .i64 y.key.key.sport, .int .i64 y.key.key.dport] 33))
        have O3 := Lib.hid (own_below O2.out (Joins.below_alloc1 (wr.alloc (.cells #[.bool y.used, .int .i64 y.key.tenant, .int .i64 y.key.key.src.k, .int .i64 y.key.key.src.a, .int .i64 y.key.key.src.b, .int .i64 y.key.key.src.c, .int .i64 y.key.key.src.d, .int .i64 y.key.key.dst.k, .int .i64 y.key.key.dst.a, .int .i64 y.key.key.dst.b, .int .i64 y.key.key.dst.c, .int .i64 y.key.key.dst.d, .int .i64 y.key.key.proto, .int .i64 y.key.key.sport, .int .i64 y.key.key.dport, .int .i64 y.num] 93)) (.cells #[.int .i64 y.key.tenant, .int .i64 y.key.key.src.k, .int .i64 y.key.key.src.a, .int .i64 y.key.key.src.b, .int .i64 y.key.key.src.c, .int .i64 y.key.key.src.d, .int .i64 y.key.key.dst.k, .int .i64 y.key.key.dst.a, .int .i64 y.key.key.dst.b, .int .i64 y.key.key.dst.c, .int .i64 y.key.key.dst.d, .int .i64 y.key.key.proto, .int .i64 y.key.key.sport, .int .i64 y.key.key.dport] 33)))
        have B3 := Lib.hid (bthen B2.out (Joins.below_alloc1 (wr.alloc (.cells #[.bool y.used, .int .i64 y.key.tenant, .int .i64 y.key.key.src.k, .int .i64 y.key.key.src.a, .int .i64 y.key.key.src.b, .int .i64 y.key.key.src.c, .int .i64 y.key.key.src.d, .int .i64 y.key.key.dst.k, .int .i64 y.key.key.dst.a, .int .i64 y.key.key.dst.b, .int .i64 y.key.key.dst.c, .int .i64 y.key.key.dst.d, .int .i64 y.key.key.proto, .int .i64 y.key.key.sport, .int .i64 y.key.key.dport, .int .i64 y.num] 93)) (.cells #[.int .i64 y.key.tenant, .int .i64 y.key.key.src.k, .int .i64 y.key.key.src.a, .int .i64 y.key.key.src.b, .int .i64 y.key.key.src.c, .int .i64 y.key.key.src.d, .int .i64 y.key.key.dst.k, .int .i64 y.key.key.dst.a, .int .i64 y.key.key.dst.b, .int .i64 y.key.key.dst.c, .int .i64 y.key.key.dst.d, .int .i64 y.key.key.proto, .int .i64 y.key.key.sport, .int .i64 y.key.key.dport] 33)))
        have rv : Hid (RV ((wr.alloc (.cells #[.bool y.used, .int .i64 y.key.tenant, .int .i64 y.key.key.src.k, .int .i64 y.key.key.src.a, .int .i64 y.key.key.src.b, .int .i64 y.key.key.src.c, .int .i64 y.key.key.src.d, .int .i64 y.key.key.dst.k, .int .i64 y.key.key.dst.a, .int .i64 y.key.key.dst.b, .int .i64 y.key.key.dst.c, .int .i64 y.key.key.dst.d, .int .i64 y.key.key.proto, .int .i64 y.key.key.sport, .int .i64 y.key.key.dport, .int .i64 y.num] 93)).alloc (.cells #[.int .i64 y.key.tenant, .int .i64 y.key.key.src.k, .int .i64 y.key.key.src.a, .int .i64 y.key.key.src.b, .int .i64 y.key.key.src.c, .int .i64 y.key.key.src.d, .int .i64 y.key.key.dst.k, .int .i64 y.key.key.dst.a, .int .i64 y.key.key.dst.b, .int .i64 y.key.key.dst.c, .int .i64 y.key.key.dst.d, .int .i64 y.key.key.proto, .int .i64 y.key.key.sport, .int .i64 y.key.key.dport] 33)) (wr.heap.size + 1 + 1) (some ⟨wr.heap.size + 1, 0, none⟩) (fl Fk.cells [y.key])) := Lib.hid (by
          have h := RV.new (wr.alloc (.cells #[.bool y.used, .int .i64 y.key.tenant, .int .i64 y.key.key.src.k, .int .i64 y.key.key.src.a, .int .i64 y.key.key.src.b, .int .i64 y.key.key.src.c, .int .i64 y.key.key.src.d, .int .i64 y.key.key.dst.k, .int .i64 y.key.key.dst.a, .int .i64 y.key.key.dst.b, .int .i64 y.key.key.dst.c, .int .i64 y.key.key.dst.d, .int .i64 y.key.key.proto, .int .i64 y.key.key.sport, .int .i64 y.key.key.dport, .int .i64 y.num] 93)) 33 (fl Fk.cells [y.key])
          rw [World.size_alloc] at h
          exact h)
        have lo := O3.out.lt
        have Z3 : w.heap.size ≤ ((wr.alloc (.cells #[.bool y.used, .int .i64 y.key.tenant, .int .i64 y.key.key.src.k, .int .i64 y.key.key.src.a, .int .i64 y.key.key.src.b, .int .i64 y.key.key.src.c, .int .i64 y.key.key.src.d, .int .i64 y.key.key.dst.k, .int .i64 y.key.key.dst.a, .int .i64 y.key.key.dst.b, .int .i64 y.key.key.dst.c, .int .i64 y.key.key.dst.d, .int .i64 y.key.key.proto, .int .i64 y.key.key.sport, .int .i64 y.key.key.dport, .int .i64 y.num] 93)).alloc (.cells #[.int .i64 y.key.tenant, .int .i64 y.key.key.src.k, .int .i64 y.key.key.src.a, .int .i64 y.key.key.src.b, .int .i64 y.key.key.src.c, .int .i64 y.key.key.src.d, .int .i64 y.key.key.dst.k, .int .i64 y.key.key.dst.a, .int .i64 y.key.key.dst.b, .int .i64 y.key.key.dst.c, .int .i64 y.key.key.dst.d, .int .i64 y.key.key.proto, .int .i64 y.key.key.sport, .int .i64 y.key.key.dport] 33)).heap.size := B3.out.size
        go_wp2_with (first | (with_reducible refine loadAtCe rfl _ rfl g (o + k * 16) rfl y hc.out ?_) | (with_reducible refine storeNewCe rfl _ _ rfl rfl rfl ?_) | (with_reducible refine loadAtFk rfl _ rfl wr.heap.size (0 + 1) rfl y.key hkk.out ?_) | (at_builtin; (refine wpList_append_fk rfl (.tmp 18) (.tmp 21) rfl w.heap.size u3 m ks rfl O3.out _ (some ⟨wr.heap.size + 1, 0, none⟩) 1 1 [y.key] rfl rfl rv.out (by omega) Z3 ?_; intro v3 w4 hown3 hg3 _)))
        have O5 := Lib.hid hown3
        have B5 := Lib.hid (bgrown B3.out hg3 (fun q hq => (lo q hq).1))
        have P5 := Lib.hid (K.kept hg3 P3.out (fun q hq => own_neF O3.out P3.out (by decide) q hq))
        clear hown3 hg3
        go_wp2
        go_roundw
        case rel => exact ⟨k + 1, m + 1, by omega, by omega, by go_num, Lib.hid (by rw [HS2.out]; exact O5.out), P5, B5⟩
        case measure => simp [intOf]; omega
    · obtain rfl : k = n := by omega
      obtain ⟨D, d', rfl⟩ := own_form ho.out
      have OE := Lib.hid (show wr.ownsRow w.heap.size 33 14 (.slice D m d') m (fl Fk.cells (tabKeys s cs)) by rw [HR.out, ← take_all HL.out]; exact ho.out)
      clear ho
      go_wp2
      go_ret
      exact ⟨D, m, d', rfl, OE.out, hBB.out⟩

theorem tabKeysI (s : Int) (A : Option Addr) (n c : Nat) (cs : List Ce) (w : World) (hx : RV w w.heap.size A (fl Ce.cells cs)) (hl : cs.length = n) (hn : n ≤ 1048576) : Calls Try.prog 36 #[.agg #[.int .i64 s, .slice A n c]] w fun e w' => ∃ D m d, e = .returned (.slice D m d) ∧ w'.ownsRow w.heap.size 33 14 (.slice D m d) m (fl Fk.cells (tabKeys s cs)) ∧ Below w.heap.size w w' := by
  cases ho : tabOk s cs with
  | false => exact tabKeysI_0 s A n c cs w hx hl hn ho
  | true => exact tabKeysI_1 s A n c cs w hx hl hn ho
end Go.Proofs.Ytmfkpiclpkeemaa

namespace Go.Proofs.Ytmfkpiclpkeemaa
set_option maxRecDepth 100000
open Go.RowKit

set_option maxHeartbeats 4000000 in
theorem tabKeysS_0 (s : Int) (A : Option Addr) (n c : Nat) (cs : List Ce) (w : World) (hx : RV w w.heap.size A (fl Ce.cells cs)) (hl : cs.length = n) (hn : n ≤ 1048576) (ho : tabOk s cs = false) : Calls Try.prog 35 #[.agg #[.int .i64 s, .slice A n c]] w fun e w' => ∃ D m d, e = .returned (.slice D m d) ∧ w'.ownsRow w.heap.size 33 14 (.slice D m d) m (fl Fk.cells (tabKeys s cs)) ∧ Below w.heap.size w w' := by
  have HX := Lib.hid hx
  have HL := Lib.hid hl
  have HR := Lib.hid (tabKeys_no ho)
  have HO := Lib.hid ho
  clear ho hx hl
  have p0 := Lib.hid (K.old (K.new w (.cells #[.int .i64 s, .slice A n c] 40)) (.cells #[] 33))
  have HB := Lib.hid (Joins.below_alloc2 w (.cells #[.int .i64 s, .slice A n c] 40) (.cells #[] 33))
  have O0 : Hid (((w.alloc (.cells #[.int .i64 s, .slice A n c] 40)).alloc (.cells #[] 33)).ownsRow w.heap.size 33 14 (.slice (some ⟨w.heap.size + 1, 0, none⟩) 0 0) 0 (fl Fk.cells [])) := Lib.hid (by
    have h := World.ownsRow_lit (base := w.heap.size) (e := 33) (size := 14) (w.alloc (.cells #[.int .i64 s, .slice A n c] 40)) #[] 0 (by simp) (by decide) rfl
    rw [World.size_alloc] at h
    exact h)
  have t0 := K.cell p0.out 0 _ rfl
  have t1 := K.cell p0.out 1 _ rfl
  go_enter Try.func35, Try.ntmps35
  go_wp2_with fail
  refine Calls.mono (tabOkSB s A n c cs _ (HX.out.on HB.out) HL.out hn false HO.out) ?_
  rintro e w1 ⟨rfl, b1⟩
  have B1 := Lib.hid (bthen HB.out b1)
  have O1 := Lib.hid (own_below O0.out b1)
  clear b1 t0 t1
  go_wp2
  go_ret
  exact ⟨_, 0, 0, rfl, by rw [HR.out]; exact O1.out, B1.out⟩

set_option maxHeartbeats 4000000 in
theorem tabKeysS_1 (s : Int) (A : Option Addr) (n c : Nat) (cs : List Ce) (w : World) (hx : RV w w.heap.size A (fl Ce.cells cs)) (hl : cs.length = n) (hn : n ≤ 1048576) (ho : tabOk s cs = true) : Calls Try.prog 35 #[.agg #[.int .i64 s, .slice A n c]] w fun e w' => ∃ D m d, e = .returned (.slice D m d) ∧ w'.ownsRow w.heap.size 33 14 (.slice D m d) m (fl Fk.cells (tabKeys s cs)) ∧ Below w.heap.size w w' := by
  have HX := Lib.hid hx
  have HL := Lib.hid hl
  have HR := Lib.hid (tabKeys_yes ho)
  have hlen := tab_len ho
  rw [hl] at hlen
  have HO := Lib.hid ho
  clear ho hx hl
  have p0 := Lib.hid (K.old (K.new w (.cells #[.int .i64 s, .slice A n c] 40)) (.cells #[] 33))
  have HB := Lib.hid (Joins.below_alloc2 w (.cells #[.int .i64 s, .slice A n c] 40) (.cells #[] 33))
  have O0 : Hid (((w.alloc (.cells #[.int .i64 s, .slice A n c] 40)).alloc (.cells #[] 33)).ownsRow w.heap.size 33 14 (.slice (some ⟨w.heap.size + 1, 0, none⟩) 0 0) 0 (fl Fk.cells [])) := Lib.hid (by
    have h := World.ownsRow_lit (base := w.heap.size) (e := 33) (size := 14) (w.alloc (.cells #[.int .i64 s, .slice A n c] 40)) #[] 0 (by simp) (by decide) rfl
    rw [World.size_alloc] at h
    exact h)
  have t0 := K.cell p0.out 0 _ rfl
  have t1 := K.cell p0.out 1 _ rfl
  go_enter Try.func35, Try.ntmps35
  go_wp2_with fail
  refine Calls.mono (tabOkSB s A n c cs _ (HX.out.on HB.out) HL.out hn true HO.out) ?_
  rintro e w1 ⟨rfl, b1⟩
  have B1 := Lib.hid (bthen HB.out b1)
  have p1 := Lib.hid (K.below b1 p0.out)
  have O1 := Lib.hid (own_below O0.out b1)
  clear b1 t0 t1 p0
  have t1 := K.cell p1.out 1 _ rfl
  go_wp2
  clear t1
  go_loopw [3, 4] (fun u i wr => ∃ (k m : Nat), k ≤ n ∧ m ≤ k ∧ i = .int .i64 k ∧ Hid (wr.ownsRow w.heap.size 33 14 u m (fl Fk.cells (keysOf (cs.take k)))) ∧ Hid (wr.heap[w.heap.size]? = some (.cells #[.int .i64 s, .slice A n c] 40 (0, 0))) ∧ Hid (Below w.heap.size w wr)) (fun _ i _ => n - (intOf i).toNat)
  case atStart => exact ⟨0, 0, Nat.zero_le _, Nat.zero_le _, rfl, O1, p1, B1⟩
  case round =>
    obtain ⟨k, m, hk, hmk, rfl, ho, p2, hb⟩ := hrel
    have hBB := hb
    have t1 := K.cell p2.out 1 _ rfl
    by_cases hlt : k < n
    · have hk1 : k < cs.length := by rw [HL.out]; exact hlt
      obtain ⟨g, o, rfl, hg, hc0⟩ := HX.out.flat Ce.cells_length (by omega) hk1
      have hc := Lib.hid (show wr.rangeAt g (o + k * 16) cs[k].cells from fun j u hu => (hBB.out.cell (p := ⟨g, o + k * 16 + j, none⟩) hg).trans (hc0 j u hu))
      have HS := Lib.hid (keysOf_succ hk1)
      clear hc0 hg
      generalize cs[k] = y at *
      generalize keysOf (cs.take k) = ks at *
      have B2 := hb
      have P2 := p2
      have O2 := ho
      have hkk := Lib.hid (ce_key hc.out)
      have cu : wr.cell? ⟨g, o + k * 16, none⟩ = some (.bool y.used) := by have := hc.out 0 _ rfl; simpa using this
      have hu : y.used = false ∨ y.used = true := by cases y.used <;> simp
      rcases hu with hu | hu
      · have HS2 := Lib.hid (show keysOf (cs.take (k + 1)) = ks by rw [HS.out, hu]; exact List.append_nil ks)
        have c0 := cu.trans (congrArg some (congrArg Value.bool hu))
        clear cu
        clear hu
        go_wp2_with (first | (with_reducible refine loadAtFk rfl _ rfl g (o + k * 16 + 1) rfl y.key hkk.out ?_))
        go_roundw
        case rel => exact ⟨k + 1, m, by omega, by omega, by go_num, Lib.hid (by rw [HS2.out]; exact O2.out), P2, B2⟩
        case measure => simp [intOf]; omega
      · have HS2 := Lib.hid (show keysOf (cs.take (k + 1)) = ks ++ [y.key] by rw [HS.out, hu]; rfl)
        have c0 := cu.trans (congrArg some (congrArg Value.bool hu))
        clear cu
        clear hu
        have P3 := Lib.hid (K.old P2.out (.cells #[.int .i64 y.key.tenant, .int .i64 y.key.key.src.k, .int .i64 y.key.key.src.a, .int .i64 y.key.key.src.b, .int .i64 y.key.key.src.c, .int .i64 y.key.key.src.d, .int .i64 y.key.key.dst.k, .int .i64 y.key.key.dst.a, .int .i64 y.key.key.dst.b, .int .i64 y.key.key.dst.c, .int .i64 y.key.key.dst.d, .int .i64 y.key.key.proto, .int .i64 y.key.key.sport, .int .i64 y.key.key.dport] 33))
        have O3 := Lib.hid (own_below O2.out (Joins.below_alloc1 wr (.cells #[.int .i64 y.key.tenant, .int .i64 y.key.key.src.k, .int .i64 y.key.key.src.a, .int .i64 y.key.key.src.b, .int .i64 y.key.key.src.c, .int .i64 y.key.key.src.d, .int .i64 y.key.key.dst.k, .int .i64 y.key.key.dst.a, .int .i64 y.key.key.dst.b, .int .i64 y.key.key.dst.c, .int .i64 y.key.key.dst.d, .int .i64 y.key.key.proto, .int .i64 y.key.key.sport, .int .i64 y.key.key.dport] 33)))
        have B3 := Lib.hid (bthen B2.out (Joins.below_alloc1 wr (.cells #[.int .i64 y.key.tenant, .int .i64 y.key.key.src.k, .int .i64 y.key.key.src.a, .int .i64 y.key.key.src.b, .int .i64 y.key.key.src.c, .int .i64 y.key.key.src.d, .int .i64 y.key.key.dst.k, .int .i64 y.key.key.dst.a, .int .i64 y.key.key.dst.b, .int .i64 y.key.key.dst.c, .int .i64 y.key.key.dst.d, .int .i64 y.key.key.proto, .int .i64 y.key.key.sport, .int .i64 y.key.key.dport] 33)))
        have rv : Hid (RV (wr.alloc (.cells #[.int .i64 y.key.tenant, .int .i64 y.key.key.src.k, .int .i64 y.key.key.src.a, .int .i64 y.key.key.src.b, .int .i64 y.key.key.src.c, .int .i64 y.key.key.src.d, .int .i64 y.key.key.dst.k, .int .i64 y.key.key.dst.a, .int .i64 y.key.key.dst.b, .int .i64 y.key.key.dst.c, .int .i64 y.key.key.dst.d, .int .i64 y.key.key.proto, .int .i64 y.key.key.sport, .int .i64 y.key.key.dport] 33)) (wr.heap.size + 1) (some ⟨wr.heap.size, 0, none⟩) (fl Fk.cells [y.key])) := Lib.hid (by
          have h := RV.new wr 33 (fl Fk.cells [y.key])
          exact h)
        have lo := O3.out.lt
        have Z3 : w.heap.size ≤ (wr.alloc (.cells #[.int .i64 y.key.tenant, .int .i64 y.key.key.src.k, .int .i64 y.key.key.src.a, .int .i64 y.key.key.src.b, .int .i64 y.key.key.src.c, .int .i64 y.key.key.src.d, .int .i64 y.key.key.dst.k, .int .i64 y.key.key.dst.a, .int .i64 y.key.key.dst.b, .int .i64 y.key.key.dst.c, .int .i64 y.key.key.dst.d, .int .i64 y.key.key.proto, .int .i64 y.key.key.sport, .int .i64 y.key.key.dport] 33)).heap.size := B3.out.size
        go_wp2_with (first | (with_reducible refine loadAtFk rfl _ rfl g (o + k * 16 + 1) rfl y.key hkk.out ?_) | (at_builtin; (refine wpList_append_fk rfl (.tmp 23) (.tmp 30) rfl w.heap.size u3 m ks rfl O3.out _ (some ⟨wr.heap.size, 0, none⟩) 1 1 [y.key] rfl rfl rv.out (by omega) Z3 ?_; intro v3 w4 hown3 hg3 _)))
        have O5 := Lib.hid hown3
        have B5 := Lib.hid (bgrown B3.out hg3 (fun q hq => (lo q hq).1))
        have P5 := Lib.hid (K.kept hg3 P3.out (fun q hq => own_neF O3.out P3.out (by decide) q hq))
        clear hown3 hg3
        go_wp2
        go_roundw
        case rel => exact ⟨k + 1, m + 1, by omega, by omega, by go_num, Lib.hid (by rw [HS2.out]; exact O5.out), P5, B5⟩
        case measure => simp [intOf]; omega
    · obtain rfl : k = n := by omega
      obtain ⟨D, d', rfl⟩ := own_form ho.out
      have OE := Lib.hid (show wr.ownsRow w.heap.size 33 14 (.slice D m d') m (fl Fk.cells (tabKeys s cs)) by rw [HR.out, ← take_all HL.out]; exact ho.out)
      clear ho
      go_wp2
      go_ret
      exact ⟨D, m, d', rfl, OE.out, hBB.out⟩

theorem tabKeysS (s : Int) (A : Option Addr) (n c : Nat) (cs : List Ce) (w : World) (hx : RV w w.heap.size A (fl Ce.cells cs)) (hl : cs.length = n) (hn : n ≤ 1048576) : Calls Try.prog 35 #[.agg #[.int .i64 s, .slice A n c]] w fun e w' => ∃ D m d, e = .returned (.slice D m d) ∧ w'.ownsRow w.heap.size 33 14 (.slice D m d) m (fl Fk.cells (tabKeys s cs)) ∧ Below w.heap.size w w' := by
  cases ho : tabOk s cs with
  | false => exact tabKeysS_0 s A n c cs w hx hl hn ho
  | true => exact tabKeysS_1 s A n c cs w hx hl hn ho
end Go.Proofs.Ytmfkpiclpkeemaa
