/-
  Tables of the program's own: a copy, a put in place. What putting a key into a table leaves, case by case. Plain. Tables of the model's own: a copy, a put of a new key in place. TablePut in the program. TablePut in the model. A region that draws its order and holds a chain of operations, each of which waits for the one before it: whatever order is drawn, the chain's operations run in their order, so each finds what the one before it left. Plain: any program. A region that draws its order, with a chain of operations in forced order: what an operation left in its slot may change from one link of the chain to the next. Plain: any program. A region that draws its order and holds a new variable of a struct type (ia) and the store of a result into it (is). Plain: any program.
-/
import Derived.Test.YtmfkpiclpkeemaaGA
import Derived.Test.YtmfkpiclpkeemaaGH
import Derived.Test.YtmfkpiclpkeemaaGK
import Derived.Lib.SliceRun
import Derived.Test.YtmfkpiclpkeemaaGB
import Derived.Test.YtmfkpiclpkeemaaFkOk
import Derived.Test.YtmfkpiclpkeemaaRegKept
import Derived.Test.YtmfkpiclpkeemaaRegThen
import Derived.Test.YtmfkpiclpkeemaaCells
import Derived.Deep.WholeRow
namespace Go.Proofs.Ytmfkpiclpkeemaa
set_option maxRecDepth 100000
open Go.RowKit

theorem setRow_grownT (w : World) (g : Nat) (cs : Array Value) : w.grownBy (w.setRow g cs) (some g) := ⟨rfl, rfl, rfl, by simp, fun k _ hk => setRow_other w g k cs (fun e => hk (by rw [e]))⟩
/-- A row of cells is no box. -/
theorem own_neB {w : World} {base n b : Nat} {v : Value} {xs : List Value} {cs : Array Value} {t : TypeId} (h : w.ownsRow base 93 16 v n xs) (hb : w.heap[b]? = some (.cells cs t (0, 0))) (ht : t ≠ 93) : ∀ k, v.ownBlock = some k → b ≠ k := by
  intro k hk e
  subst e
  rcases h.2 with ⟨rfl, _⟩ | ⟨g, cap, cur, rfl, _, hg, _⟩
  · simp [Value.ownBlock] at hk
  · simp [Value.ownBlock] at hk
    subst hk
    rw [hg] at hb
    injection hb with hb
    injection hb with _ h2
    exact ht h2.symm

theorem below_grownT {w w' : World} (h : Below w.heap.size w w') (row : Option Nat) : w.grownBy w' row := ⟨h.os, h.tape, h.output, h.size, fun k hk _ => h.block k hk⟩
theorem flat_set {cs : List Ce} {P : Nat} (h : P < cs.length) (r : Ce) : putL (fl Ce.cells cs) (P * 16) r.cells = fl Ce.cells (cs.set P r) := by
  have e1 : cs = cs.take P ++ cs[P] :: cs.drop (P + 1) := by rw [List.getElem_cons_drop, List.take_append_drop]
  have e2 : cs.set P r = cs.take P ++ r :: cs.drop (P + 1) := by rw [List.set_eq_take_append_cons_drop, if_pos h]
  rw [e2]
  conv => lhs; rw [e1]
  exact set_flat Ce.cells_length _ _ _ _ P (by rw [List.length_take]; omega)

set_option maxHeartbeats 1000000 in
theorem cloneCe (g o n c : Nat) (cs : List Ce) (w : World) (hx : RV w w.heap.size (some ⟨g, o, none⟩) (fl Ce.cells cs)) (hl : cs.length = n) (hn : n ≤ 1048576) : Calls Try.prog 112 #[.slice (some ⟨g, o, none⟩) n c] w fun e w' => ∃ D d, e = .returned (.slice D n d) ∧ w'.ownsRow w.heap.size 93 16 (.slice D n d) n (fl Ce.cells cs) ∧ Below w.heap.size w w' := by
  have hnil : ∀ v : World, (binOp .eql 38 (.slice (some ⟨g, o, none⟩) n c) (.slice none 0 0)).run Try.prog v = .ok (.bool false) v := fun v => Lib.run_eql_slice_nil v _ _ _ _ _ _ _ Try.underlying38
  have HL := Lib.hid hl
  have X1 := Lib.hid (hx.on (Joins.below_alloc1 w (.cells #[] 93)))
  have O1 : Hid ((w.alloc (.cells #[] 93)).ownsRow w.heap.size 93 16 (.slice (some ⟨w.heap.size, 0, none⟩) 0 0) 0 (fl Ce.cells [])) := Lib.hid (World.ownsRow_lit (base := w.heap.size) (e := 93) (size := 16) w #[] 0 (by simp) (by decide) rfl)
  have HB := Lib.hid (Joins.below_alloc1 w (.cells #[] 93))
  clear hx hl
  go_enter Try.func112, Try.ntmps112
  go_wp2_with (at_builtin; (refine wpList_append_ce rfl (.tmp 5) (.tmp 6) rfl w.heap.size (.slice (some ⟨w.heap.size, 0, none⟩) 0 0) 0 [] rfl O1.out _ (some ⟨g, o, none⟩) n c cs rfl HL.out X1.out (by omega) (by simp) ?_; intro v3 w4 hown3 hg3 _))
  have O5 : Hid (w4.ownsRow w.heap.size 93 16 v3 n (fl Ce.cells cs)) := Lib.hid (by rw [Nat.zero_add, List.nil_append] at hown3; exact hown3)
  have B5 := Lib.hid (bgrown HB.out hg3 (fun q hq => (O1.out.lt q hq).1))
  clear hown3 hg3
  obtain ⟨D, d, rfl⟩ := own_form O5.out
  go_wp2
  go_ret
  exact ⟨D, d, rfl, O5.out, B5.out⟩

section
variable {o : Oper} {a : Act} {w : World} {K : Act → World → Prop} {Q : Exit → Act → World → Prop}
theorem u_cloneCe (x : Operand) (x0 : Value) (ts : Array TypeId) (ho : o.op = .call { callee := .value (.func 112), args := #[x], argTypes := ts }) (h0 : a.eval x = x0)
    (h : Calls Try.prog 112 #[x0] w fun e w' => ∃ v, e = .returned v ∧ K (a.put o.dst v) w') : o.wp Try.prog a w K Q := by
  unfold Oper.wp execOp
  simp only [ho, resolve, List.map_toArray, List.map_cons, List.map_nil, h0, show ∀ f, a.eval (.func f) = .func (.func f) #[] #[] from fun _ => rfl]
  go_simp
  exact h.mono fun e w' ⟨u, he, hk⟩ => by subst he; exact hk
theorem t_buildTb (x y : Operand) (s : Int) (A : Option Addr) (n c : Nat) (ho : o.op = .build 40 #[(0, x), (1, y)]) (h0 : a.eval x = .int .i64 s) (h1 : a.eval y = .slice A n c) (hK : K (a.put o.dst (.agg #[.int .i64 s, .slice A n c])) w) : o.wp Try.prog a w K Q := by
  unfold Oper.wp execOp
  simp only [ho, List.map_toArray, List.map_cons, List.map_nil, h0, h1]
  go_simp
  exact hK
theorem t_buildCe (y z : Operand) (k : Fk) (nv : Int) (ho : o.op = .build 93 #[(0, .const (.bool true)), (1, y), (2, z)]) (h1 : a.eval y = .agg #[.int .i64 k.tenant, .int .i64 k.key.src.k, .int .i64 k.key.src.a, .int .i64 k.key.src.b, .int .i64 k.key.src.c, .int .i64 k.key.src.d, .int .i64 k.key.dst.k, .int .i64 k.key.dst.a, .int .i64 k.key.dst.b, .int .i64 k.key.dst.c, .int .i64 k.key.dst.d, .int .i64 k.key.proto, .int .i64 k.key.sport, .int .i64 k.key.dport]) (h2 : a.eval z = .int .i64 nv) (hK : K (a.put o.dst (.agg #[.bool (Ce.mk true k nv).used, .int .i64 (Ce.mk true k nv).key.tenant, .int .i64 (Ce.mk true k nv).key.key.src.k, .int .i64 (Ce.mk true k nv).key.key.src.a, .int .i64 (Ce.mk true k nv).key.key.src.b, .int .i64 (Ce.mk true k nv).key.key.src.c, .int .i64 (Ce.mk true k nv).key.key.src.d, .int .i64 (Ce.mk true k nv).key.key.dst.k, .int .i64 (Ce.mk true k nv).key.key.dst.a, .int .i64 (Ce.mk true k nv).key.key.dst.b, .int .i64 (Ce.mk true k nv).key.key.dst.c, .int .i64 (Ce.mk true k nv).key.key.dst.d, .int .i64 (Ce.mk true k nv).key.key.proto, .int .i64 (Ce.mk true k nv).key.key.sport, .int .i64 (Ce.mk true k nv).key.key.dport, .int .i64 (Ce.mk true k nv).num])) w) : o.wp Try.prog a w K Q := by
  unfold Oper.wp execOp
  simp only [ho, List.map_toArray, List.map_cons, List.map_nil, h1, h2, show a.eval (.const (.bool true)) = .bool true from rfl]
  go_simp
  exact hK
end

set_option maxHeartbeats 2000000 in
theorem ownI (s : Int) (g o n c : Nat) (cs : List Ce) (w : World) (hx : RV w w.heap.size (some ⟨g, o, none⟩) (fl Ce.cells cs)) (hl : cs.length = n) (hn : n ≤ 1048576) : Calls Try.prog 83 #[.agg #[.int .i64 s, .slice (some ⟨g, o, none⟩) n c]] w fun e w' => ∃ D d, e = .returned (.agg #[.int .i64 s, .slice D n d]) ∧ w'.ownsRow w.heap.size 93 16 (.slice D n d) n (fl Ce.cells cs) ∧ Below w.heap.size w w' := by
  have HX := Lib.hid hx
  have HL := Lib.hid hl
  have p0 := Lib.hid (K.old (K.new w (.cells #[.int .i64 s, .slice (some ⟨g, o, none⟩) n c] 40)) (.cells #[.int .i64 0, .slice none 0 0] 40))
  have r0 : Hid (((w.alloc (.cells #[.int .i64 s, .slice (some ⟨g, o, none⟩) n c] 40)).alloc (.cells #[.int .i64 0, .slice none 0 0] 40)).heap[w.heap.size + 1]? = some (.cells #[.int .i64 0, .slice none 0 0] 40 (0, 0))) := Lib.hid (K.newAt (by simp))
  have HB := Lib.hid (Joins.below_alloc2 w (.cells #[.int .i64 s, .slice (some ⟨g, o, none⟩) n c] 40) (.cells #[.int .i64 0, .slice none 0 0] 40))
  clear hx hl
  go_enter Try.func83, Try.ntmps83
  go_wp2_with fail
  refine wp_region_guards (by kernel_rfl) 5 9 [(0, 3), (1, 4), (2, 5), (3, 6), (4, 7)] _ ([.val (.pointer (some ⟨w.heap.size, 0, none⟩)), .val (.int .i64 s), .val (.pointer (some ⟨w.heap.size, 1, none⟩)), .val (.slice (some ⟨g, o, none⟩) n c), .pr (fun v u => ∃ D d, u = .slice D n d ∧ v.ownsRow w.heap.size 93 16 (.slice D n d) n (fl Ce.cells cs)) (fun _ _ _ hb ⟨D, d, e, ow⟩ => ⟨D, d, e, own_below ow hb⟩)]) (by kernel_rfl) (by kernel_rfl) (by kernel_rfl) rfl rfl ?_ ?_
  · intro j o hj ho hr a' v K' hx hnd hB hK
    match j, hj, ho, hr with
    | 0, _, ho, _ =>
      obtain rfl := Option.some.inj ho
      have h0 : a'.eval (.tmp 1) = .pointer (some ⟨w.heap.size, 0, none⟩) := (hx 1 (by decide)).trans rfl
      exact f_tab0 _ _ rfl h0 (hK _ _ rfl (Below.refl _ _))
    | 1, _, ho, _ =>
      obtain rfl := Option.some.inj ho
      have h0 : a'.eval (.tmp 3) = .pointer (some ⟨w.heap.size, 0, none⟩) := (gds_of hnd 0 3 (by kernel_rfl) :)
      exact t_int _ _ _ _ rfl h0 (K.cell (K.below hB p0.out) 0 _ rfl) (hK _ _ rfl (Below.refl _ _))
    | 2, _, ho, _ =>
      obtain rfl := Option.some.inj ho
      have h0 : a'.eval (.tmp 1) = .pointer (some ⟨w.heap.size, 0, none⟩) := (hx 1 (by decide)).trans rfl
      exact f_tab1 _ _ rfl h0 (hK _ _ rfl (Below.refl _ _))
    | 3, _, ho, _ =>
      obtain rfl := Option.some.inj ho
      have h0 : a'.eval (.tmp 5) = .pointer (some ⟨w.heap.size, 1, none⟩) := (gds_of hnd 2 5 (by kernel_rfl) :)
      exact t_sl _ _ _ _ rfl h0 (K.cell (K.below hB p0.out) 1 _ rfl) (hK _ _ rfl (Below.refl _ _))
    | 4, _, ho, _ =>
      obtain rfl := Option.some.inj ho
      have h0 : a'.eval (.tmp 6) = .slice (some ⟨g, o, none⟩) n c := (gds_of hnd 3 6 (by kernel_rfl) :)
      refine u_cloneCe _ _ _ rfl h0 (Calls.mono (cloneCe g o n c cs _ (HX.out.on (bthen HB.out hB)) HL.out hn) ?_)
      rintro e' v' ⟨D, d, rfl, ow, b6⟩
      exact ⟨_, rfl, hK _ _ ⟨D, d, rfl, own_base ow (by have := (bthen HB.out hB).size; omega)⟩ b6⟩
    | j + 5, hj, _, _ => omega
  · intro f v hf hB
    have e0 : f 0 = (.pointer (some ⟨w.heap.size, 0, none⟩)) := hf (0, 3) (by decide)
    have e1 : f 1 = (.int .i64 s) := hf (1, 4) (by decide)
    have e2 : f 2 = (.pointer (some ⟨w.heap.size, 1, none⟩)) := hf (2, 5) (by decide)
    have e3 : f 3 = (.slice (some ⟨g, o, none⟩) n c) := hf (3, 6) (by decide)
    obtain ⟨D, d, eD, ow⟩ := hf (4, 7) (by decide)
    simp only [List.foldl_cons, List.foldl_nil, List.drop_succ_cons, List.drop_zero, e0, e1, e2, e3, eD]
    clear e0 e1 e2 e3 eD hf
    go_simp
    have OW := Lib.hid ow
    have r1 := Lib.hid (K.below hB r0.out)
    have B1 := Lib.hid (bthen HB.out hB)
    clear hB ow
    go_wp2_with (with_reducible refine storeTb rfl _ _ rfl (w.heap.size + 1) rfl rfl r1.out ?_)
    (try simp only [Exit.inBlock, Exit.then])
    refine bodyPost_ret (v := .agg #[.int .i64 s, .slice D n d]) ?_ rfl ⟨D, d, rfl, ?_, setRowBT B1.out (by omega) _⟩
    · exact resTb Try.results83 _ _ (w.heap.size + 1) rfl (setRow_heap _ _ _ _ _ _ r1.out)
    · exact own_grown OW.out (setRow_grownT _ _ _) (fun q hq e => own_neB OW.out r1.out (by decide) q hq (Option.some.inj e))

set_option maxHeartbeats 4000000 in
theorem putI (s : Int) (g n c b0 : Nat) (cs : List Ce) (k : Fk) (nv : Int) (P : Nat) (w : World) (hown : w.ownsRow b0 93 16 (.slice (some ⟨g, 0, none⟩) n c) n (fl Ce.cells cs)) (hl : cs.length = n) (h4 : 0 < n) (h64 : n ≤ 64) (hs : upTo s 4294967295 = true) (hk : k.ok = true) (hp : probeT s cs k = some P) :
    Calls Try.prog 84 #[.agg #[.int .i64 s, .slice (some ⟨g, 0, none⟩) n c], .agg #[.int .i64 k.tenant, .int .i64 k.key.src.k, .int .i64 k.key.src.a, .int .i64 k.key.src.b, .int .i64 k.key.src.c, .int .i64 k.key.src.d, .int .i64 k.key.dst.k, .int .i64 k.key.dst.a, .int .i64 k.key.dst.b, .int .i64 k.key.dst.c, .int .i64 k.key.dst.d, .int .i64 k.key.proto, .int .i64 k.key.sport, .int .i64 k.key.dport], .int .i64 nv] w fun e w' => (∃ u, e = .returned u) ∧ w'.ownsRow b0 93 16 (.slice (some ⟨g, 0, none⟩) n c) n (fl Ce.cells (putAt cs P k nv)) ∧ w.grownBy w' (some g) := by
  have hPn : P < n := by rw [← hl]; exact probe_lt hp
  have HPR := Lib.hid (show idx (probeT s cs k) = (P : Int) by rw [hp]; rfl)
  have HL := Lib.hid hl
  have HS := Lib.hid hs
  have HK := Lib.hid hk
  have O0 := Lib.hid hown
  have X0 := Lib.hid (RV.of_own hown)
  have p0 : Hid (((w.alloc (.cells #[.int .i64 s, .slice (some ⟨g, 0, none⟩) n c] 40)).alloc (.cells #[.int .i64 k.tenant, .int .i64 k.key.src.k, .int .i64 k.key.src.a, .int .i64 k.key.src.b, .int .i64 k.key.src.c, .int .i64 k.key.src.d, .int .i64 k.key.dst.k, .int .i64 k.key.dst.a, .int .i64 k.key.dst.b, .int .i64 k.key.dst.c, .int .i64 k.key.dst.d, .int .i64 k.key.proto, .int .i64 k.key.sport, .int .i64 k.key.dport] 33)).heap[w.heap.size]? = some (.cells #[.int .i64 s, .slice (some ⟨g, 0, none⟩) n c] 40 (0, 0))) := Lib.hid (K.old (K.new w _) _)
  have q0 : Hid (((w.alloc (.cells #[.int .i64 s, .slice (some ⟨g, 0, none⟩) n c] 40)).alloc (.cells #[.int .i64 k.tenant, .int .i64 k.key.src.k, .int .i64 k.key.src.a, .int .i64 k.key.src.b, .int .i64 k.key.src.c, .int .i64 k.key.src.d, .int .i64 k.key.dst.k, .int .i64 k.key.dst.a, .int .i64 k.key.dst.b, .int .i64 k.key.dst.c, .int .i64 k.key.dst.d, .int .i64 k.key.proto, .int .i64 k.key.sport, .int .i64 k.key.dport] 33)).heap[w.heap.size + 1]? = some (.cells #[.int .i64 k.tenant, .int .i64 k.key.src.k, .int .i64 k.key.src.a, .int .i64 k.key.src.b, .int .i64 k.key.src.c, .int .i64 k.key.src.d, .int .i64 k.key.dst.k, .int .i64 k.key.dst.a, .int .i64 k.key.dst.b, .int .i64 k.key.dst.c, .int .i64 k.key.dst.d, .int .i64 k.key.proto, .int .i64 k.key.sport, .int .i64 k.key.dport] 33 (0, 0))) := Lib.hid (K.newAt (by simp))
  have HB := Lib.hid (Joins.below_alloc2 w (.cells #[.int .i64 s, .slice (some ⟨g, 0, none⟩) n c] 40) (.cells #[.int .i64 k.tenant, .int .i64 k.key.src.k, .int .i64 k.key.src.a, .int .i64 k.key.src.b, .int .i64 k.key.src.c, .int .i64 k.key.src.d, .int .i64 k.key.dst.k, .int .i64 k.key.dst.a, .int .i64 k.key.dst.b, .int .i64 k.key.dst.c, .int .i64 k.key.dst.d, .int .i64 k.key.proto, .int .i64 k.key.sport, .int .i64 k.key.dport] 33))
  clear hown hl hs hk hp
  go_enter Try.func84, Try.ntmps84
  go_wp2_with fail
  refine wp_region_guards (by kernel_rfl) 9 15 [(0, 6), (1, 7), (2, 8), (3, 9), (4, 10), (5, 11), (6, 12), (7, 13), (8, 14)] _ ([.val (.pointer (some ⟨w.heap.size, 1, none⟩)), .val (.slice (some ⟨g, 0, none⟩) n c), .val (.agg #[.int .i64 s, .slice (some ⟨g, 0, none⟩) n c]), .val (.agg #[.int .i64 k.tenant, .int .i64 k.key.src.k, .int .i64 k.key.src.a, .int .i64 k.key.src.b, .int .i64 k.key.src.c, .int .i64 k.key.src.d, .int .i64 k.key.dst.k, .int .i64 k.key.dst.a, .int .i64 k.key.dst.b, .int .i64 k.key.dst.c, .int .i64 k.key.dst.d, .int .i64 k.key.proto, .int .i64 k.key.sport, .int .i64 k.key.dport]), .val (.int .i64 (P : Int)), .val (.agg #[.int .i64 k.tenant, .int .i64 k.key.src.k, .int .i64 k.key.src.a, .int .i64 k.key.src.b, .int .i64 k.key.src.c, .int .i64 k.key.src.d, .int .i64 k.key.dst.k, .int .i64 k.key.dst.a, .int .i64 k.key.dst.b, .int .i64 k.key.dst.c, .int .i64 k.key.dst.d, .int .i64 k.key.proto, .int .i64 k.key.sport, .int .i64 k.key.dport]), .val (.int .i64 nv), .val (.agg #[.bool (Ce.mk true k nv).used, .int .i64 (Ce.mk true k nv).key.tenant, .int .i64 (Ce.mk true k nv).key.key.src.k, .int .i64 (Ce.mk true k nv).key.key.src.a, .int .i64 (Ce.mk true k nv).key.key.src.b, .int .i64 (Ce.mk true k nv).key.key.src.c, .int .i64 (Ce.mk true k nv).key.key.src.d, .int .i64 (Ce.mk true k nv).key.key.dst.k, .int .i64 (Ce.mk true k nv).key.key.dst.a, .int .i64 (Ce.mk true k nv).key.key.dst.b, .int .i64 (Ce.mk true k nv).key.key.dst.c, .int .i64 (Ce.mk true k nv).key.key.dst.d, .int .i64 (Ce.mk true k nv).key.key.proto, .int .i64 (Ce.mk true k nv).key.key.sport, .int .i64 (Ce.mk true k nv).key.key.dport, .int .i64 (Ce.mk true k nv).num]), .val (.pointer (some ⟨g, 0 + P * 16, none⟩))]) (by kernel_rfl) (by kernel_rfl) (by kernel_rfl) rfl rfl ?_ ?_
  · intro j o hj ho hr a' v K' hx hnd hB hK
    match j, hj, ho, hr with
    | 0, _, ho, _ =>
      obtain rfl := Option.some.inj ho
      have h0 : a'.eval (.tmp 3) = .pointer (some ⟨w.heap.size, 0, none⟩) := (hx 3 (by decide)).trans rfl
      exact f_tab1 _ _ rfl h0 (hK _ _ rfl (Below.refl _ _))
    | 1, _, ho, _ =>
      obtain rfl := Option.some.inj ho
      have h0 : a'.eval (.tmp 6) = .pointer (some ⟨w.heap.size, 1, none⟩) := (gds_of hnd 0 6 (by kernel_rfl) :)
      exact t_sl _ _ _ _ rfl h0 (K.cell (K.below hB p0.out) 1 _ rfl) (hK _ _ rfl (Below.refl _ _))
    | 2, _, ho, _ =>
      obtain rfl := Option.some.inj ho
      have h0 : a'.eval (.tmp 3) = .pointer (some ⟨w.heap.size, 0, none⟩) := (hx 3 (by decide)).trans rfl
      exact r_tab _ _ _ _ rfl h0 (K.below hB p0.out) (hK _ _ rfl (Below.refl _ _))
    | 3, _, ho, _ =>
      obtain rfl := Option.some.inj ho
      have h0 : a'.eval (.tmp 4) = .pointer (some ⟨w.heap.size + 1, 0, none⟩) := (hx 4 (by decide)).trans rfl
      exact r_fk _ _ k rfl h0 (K.below hB q0.out) (hK _ _ rfl (Below.refl _ _))
    | 4, _, ho, _ =>
      obtain rfl := Option.some.inj ho
      have h0 : a'.eval (.tmp 8) = .agg #[.int .i64 s, .slice (some ⟨g, 0, none⟩) n c] := (gds_of hnd 2 8 (by kernel_rfl) :)
      have h1 : a'.eval (.tmp 9) = .agg #[.int .i64 k.tenant, .int .i64 k.key.src.k, .int .i64 k.key.src.a, .int .i64 k.key.src.b, .int .i64 k.key.src.c, .int .i64 k.key.src.d, .int .i64 k.key.dst.k, .int .i64 k.key.dst.a, .int .i64 k.key.dst.b, .int .i64 k.key.dst.c, .int .i64 k.key.dst.d, .int .i64 k.key.proto, .int .i64 k.key.sport, .int .i64 k.key.dport] := (gds_of hnd 3 9 (by kernel_rfl) :)
      refine u_probed _ _ _ _ _ rfl h0 h1 (Calls.mono (probedI s (some ⟨g, 0, none⟩) n c cs _ (X0.out.on (bthen HB.out hB)) HL.out k HS.out HK.out h4 h64) ?_)
      rintro e' v' ⟨rfl, b6⟩
      rw [HPR.out]
      exact ⟨_, rfl, hK _ _ rfl b6⟩
    | 5, _, ho, _ =>
      obtain rfl := Option.some.inj ho
      have h0 : a'.eval (.tmp 4) = .pointer (some ⟨w.heap.size + 1, 0, none⟩) := (hx 4 (by decide)).trans rfl
      exact r_fk _ _ k rfl h0 (K.below hB q0.out) (hK _ _ rfl (Below.refl _ _))
    | 6, _, ho, _ =>
      obtain rfl := Option.some.inj ho
      have h0 : a'.eval (.tmp 2) = .int .i64 nv := (hx 2 (by decide)).trans rfl
      exact t_mv _ _ rfl h0 (hK _ _ rfl (Below.refl _ _))
    | 7, _, ho, _ =>
      obtain rfl := Option.some.inj ho
      have h0 : a'.eval (.tmp 11) = .agg #[.int .i64 k.tenant, .int .i64 k.key.src.k, .int .i64 k.key.src.a, .int .i64 k.key.src.b, .int .i64 k.key.src.c, .int .i64 k.key.src.d, .int .i64 k.key.dst.k, .int .i64 k.key.dst.a, .int .i64 k.key.dst.b, .int .i64 k.key.dst.c, .int .i64 k.key.dst.d, .int .i64 k.key.proto, .int .i64 k.key.sport, .int .i64 k.key.dport] := (gds_of hnd 5 11 (by kernel_rfl) :)
      have h1 : a'.eval (.tmp 12) = .int .i64 nv := (gds_of hnd 6 12 (by kernel_rfl) :)
      exact t_buildCe _ _ k nv rfl h0 h1 (hK _ _ rfl (Below.refl _ _))
    | 8, _, ho, _ =>
      obtain rfl := Option.some.inj ho
      have h0 : a'.eval (.tmp 7) = .slice (some ⟨g, 0, none⟩) n c := (gds_of hnd 1 7 (by kernel_rfl) :)
      have h1 : a'.eval (.tmp 10) = .int .i64 (P : Int) := (gds_of hnd 4 10 (by kernel_rfl) :)
      exact idx_ce _ _ _ _ _ _ _ rfl h0 h1 hPn (hK _ _ rfl (Below.refl _ _))
    | j + 9, hj, _, _ => omega
  · intro f w1 hf hB
    have e0 : f 0 = (.pointer (some ⟨w.heap.size, 1, none⟩)) := hf (0, 6) (by decide)
    have e1 : f 1 = (.slice (some ⟨g, 0, none⟩) n c) := hf (1, 7) (by decide)
    have e2 : f 2 = (.agg #[.int .i64 s, .slice (some ⟨g, 0, none⟩) n c]) := hf (2, 8) (by decide)
    have e3 : f 3 = (.agg #[.int .i64 k.tenant, .int .i64 k.key.src.k, .int .i64 k.key.src.a, .int .i64 k.key.src.b, .int .i64 k.key.src.c, .int .i64 k.key.src.d, .int .i64 k.key.dst.k, .int .i64 k.key.dst.a, .int .i64 k.key.dst.b, .int .i64 k.key.dst.c, .int .i64 k.key.dst.d, .int .i64 k.key.proto, .int .i64 k.key.sport, .int .i64 k.key.dport]) := hf (3, 9) (by decide)
    have e4 : f 4 = (.int .i64 (P : Int)) := hf (4, 10) (by decide)
    have e5 : f 5 = (.agg #[.int .i64 k.tenant, .int .i64 k.key.src.k, .int .i64 k.key.src.a, .int .i64 k.key.src.b, .int .i64 k.key.src.c, .int .i64 k.key.src.d, .int .i64 k.key.dst.k, .int .i64 k.key.dst.a, .int .i64 k.key.dst.b, .int .i64 k.key.dst.c, .int .i64 k.key.dst.d, .int .i64 k.key.proto, .int .i64 k.key.sport, .int .i64 k.key.dport]) := hf (5, 11) (by decide)
    have e6 : f 6 = (.int .i64 nv) := hf (6, 12) (by decide)
    have e7 : f 7 = (.agg #[.bool (Ce.mk true k nv).used, .int .i64 (Ce.mk true k nv).key.tenant, .int .i64 (Ce.mk true k nv).key.key.src.k, .int .i64 (Ce.mk true k nv).key.key.src.a, .int .i64 (Ce.mk true k nv).key.key.src.b, .int .i64 (Ce.mk true k nv).key.key.src.c, .int .i64 (Ce.mk true k nv).key.key.src.d, .int .i64 (Ce.mk true k nv).key.key.dst.k, .int .i64 (Ce.mk true k nv).key.key.dst.a, .int .i64 (Ce.mk true k nv).key.key.dst.b, .int .i64 (Ce.mk true k nv).key.key.dst.c, .int .i64 (Ce.mk true k nv).key.key.dst.d, .int .i64 (Ce.mk true k nv).key.key.proto, .int .i64 (Ce.mk true k nv).key.key.sport, .int .i64 (Ce.mk true k nv).key.key.dport, .int .i64 (Ce.mk true k nv).num]) := hf (7, 13) (by decide)
    have e8 : f 8 = (.pointer (some ⟨g, 0 + P * 16, none⟩)) := hf (8, 14) (by decide)
    simp only [List.foldl_cons, List.foldl_nil, List.drop_succ_cons, List.drop_zero, e0, e1, e2, e3, e4, e5, e6, e7, e8]
    clear e0 e1 e2 e3 e4 e5 e6 e7 e8 hf
    go_simp
    have B1 := Lib.hid (bthen HB.out hB)
    have O1 := Lib.hid (own_below O0.out B1.out)
    have HT := Lib.hid (there_of_own O1.out (P * 16) 16 (by omega))
    have O2 := Lib.hid (own_putCells (Ce.mk true k nv).cells _ (P * 16) _ O1.out)
    have G2 := Lib.hid (grown_putCells g (Ce.mk true k nv).cells w1 (P * 16))
    clear hB
    go_wp2_with (with_reducible refine storeAtCe rfl _ _ rfl g (P * 16) (Ce.mk true k nv) rfl rfl HT.out ?_)
    (try simp only [Exit.inBlock, Exit.then])
    refine bodyPost_end (results_none Try.results84 _ _ _) rfl ⟨⟨_, rfl⟩, ?_, grownBy_trans (below_grownT B1.out _) G2.out⟩
    rw [putAt, ← flat_set (by rw [HL.out]; exact hPn)]
    exact O2.out
end Go.Proofs.Ytmfkpiclpkeemaa

namespace Go.Proofs.Ytmfkpiclpkeemaa
set_option maxRecDepth 100000

theorem tabPut_no1 {s : Int} {cs : List Ce} {k : Fk} {v : Int} (h : tabOk s cs = false) : tabPut s cs k v = (Tb.zero, 1) := by simp [tabPut, h]
theorem tabPut_no2 {s : Int} {cs : List Ce} {k : Fk} {v : Int} (h : k.ok = false) : tabPut s cs k v = (Tb.zero, 1) := by simp [tabPut, h]
theorem tabPut_no3 {s : Int} {cs : List Ce} {k : Fk} {v : Int} (h : btw 0 v 1000000000000 = false) : tabPut s cs k v = (Tb.zero, 1) := by simp [tabPut, h]
theorem tabPut_full {s : Int} {cs : List Ce} {k : Fk} {v : Int} {p : Nat} (ho : tabOk s cs = true) (hk : k.ok = true) (hv : btw 0 v 1000000000000 = true) (hp : probeT s cs k = some p) (hu : (ceAt cs p).used = false) (hr : usedN cs = cs.length / 4 * 3) : tabPut s cs k v = (Tb.zero, 2) := by
  simp [tabPut, ho, hk, hv, hp, hu, hr]
theorem tabPut_yes {s : Int} {cs : List Ce} {k : Fk} {v : Int} {p : Nat} (ho : tabOk s cs = true) (hk : k.ok = true) (hv : btw 0 v 1000000000000 = true) (hp : probeT s cs k = some p) (h : (ceAt cs p).used = true ∨ usedN cs ≠ cs.length / 4 * 3) : tabPut s cs k v = (⟨s, putAt cs p k v⟩, 0) := by
  rcases h with h | h
  · simp [tabPut, ho, hk, hv, hp, h]
  · simp [tabPut, ho, hk, hv, hp, h]
end Go.Proofs.Ytmfkpiclpkeemaa

namespace Go.Proofs.Ytmfkpiclpkeemaa
set_option maxRecDepth 100000
open Go.RowKit

theorem run_append_newC (w : World) (ty base b' : Nat) (hb : base ≤ b') (h0 : w.heap[b']? = some (.cells #[] 93 (0, 0))) (hbase : base ≤ w.heap.size) (B g o n c : Nat) (cs : List Ce) (hm : cs.length = n) (hpos : 0 < n) (hr : RV w B (some ⟨g, o, none⟩) (fl Ce.cells cs)) (hn : n ≤ 1048576) :
    ∃ v' w', (Builtin.append_ #[38, 38] ty #[.slice (some ⟨b', 0, none⟩) 0 0, .slice (some ⟨g, o, none⟩) n c]).run Try.prog w = .ok v' w' ∧ w'.ownsRow base 93 16 v' n (fl Ce.cells cs) ∧ Below w.heap.size w w' := by
  have hown : w.ownsRow base 93 16 (.slice (some ⟨b', 0, none⟩) 0 0) 0 (fl Ce.cells []) := ⟨rfl, .inr ⟨b', 0, #[], rfl, hb, h0, Nat.le_refl _, Nat.zero_le _, rfl, rfl⟩⟩
  obtain ⟨v', w', h1, h2, h3, _⟩ := run_append_ce w ty base _ 0 [] hown B (some ⟨g, o, none⟩) n c cs hm hr (by omega) hbase
  refine ⟨v', w', h1, by rw [List.nil_append, Nat.zero_add] at h2; exact h2, ?_⟩
  obtain ⟨i0, hi0, hz0, hz1, hz2⟩ := info_parts info_ceP
  obtain ⟨g', o', e, hg, hc⟩ := hr (by rw [fl_length Ce.cells_length, hm]; omega)
  obtain ⟨rfl, rfl⟩ : g = g' ∧ o = o' := by simpa using e
  have hgr := run_append_grow (P := Try.prog) w 38 ty 93 i0 (.agg #[.bool false, .int .i64 0, .int .i64 0, .int .i64 0, .int .i64 0, .int .i64 0, .int .i64 0, .int .i64 0, .int .i64 0, .int .i64 0, .int .i64 0, .int .i64 0, .int .i64 0, .int .i64 0, .int .i64 0, .int .i64 0]) Try.underlying38 hi0 hz0 ⟨b', 0, none⟩ 0 0 [] (by simp) (by intro j u hu; simp at hu) ⟨g, o, none⟩ n c (fl Ce.cells cs) (by rw [fl_length Ce.cells_length, hz1, hm]) (by
      intro j u hu
      rw [addr_add]
      exact hc j u hu) (by omega) (by omega) (growslice_fits (by omega) (by rw [hz2]; omega))
  rw [h1] at hgr
  injection hgr with h4 h5
  subst h5
  exact ⟨rfl, rfl, rfl, by simp, fun k hk => Below.heap_alloc w.drew _ k hk⟩

section
variable {o : Oper} {a : Act} {w : World} {K : Act → World → Prop} {Q : Exit → Act → World → Prop}
theorem t_appC (s x : Operand) (ho : o.op = .call { callee := .builtin .append, args := #[s, x], argTypes := #[38, 38] }) (base b' : Nat) (hs : a.eval s = .slice (some ⟨b', 0, none⟩) 0 0) (hb : base ≤ b') (h0 : w.heap[b']? = some (.cells #[] 93 (0, 0))) (hbase : base ≤ w.heap.size)
    (g of n c : Nat) (cs : List Ce) (hx : a.eval x = .slice (some ⟨g, of, none⟩) n c) (hm : cs.length = n) (hpos : 0 < n) (hr : RV w w.heap.size (some ⟨g, of, none⟩) (fl Ce.cells cs)) (hn : n ≤ 1048576)
    (h : ∀ E k w', w'.ownsRow base 93 16 (.slice E n k) n (fl Ce.cells cs) → Below w.heap.size w w' → K (a.put o.dst (.slice E n k)) w') : o.wp Try.prog a w K Q := by
  obtain ⟨v', w', hrun, h2, h3⟩ := run_append_newC w o.type base b' hb h0 hbase _ g of n c cs hm hpos hr hn
  unfold Oper.wp execOp
  simp only [ho, resolve, invoke, builtin, Sem.run_bind, Sem.run_pure, Result.andThen_ok, List.map_toArray, List.map_cons, List.map_nil, hs, hx, hrun]
  obtain ⟨E, k, rfl⟩ := own_form h2
  exact h E k w' h2 h3
theorem t_mk0C (ho : o.op = .buildSlice 38 0 #[]) (hK : K (a.put o.dst (.slice (some ⟨w.heap.size, 0, none⟩) 0 0)) (w.alloc (.cells #[] 93))) : o.wp Try.prog a w K Q := by
  unfold Oper.wp execOp
  simp only [ho]
  go_simp
  exact hK
end

set_option maxHeartbeats 2000000 in
theorem copyS (s : Int) (g o n c : Nat) (cs : List Ce) (w : World) (hx : RV w w.heap.size (some ⟨g, o, none⟩) (fl Ce.cells cs)) (hl : cs.length = n) (hn : n ≤ 1048576) (hpos : 0 < n) : Calls Try.prog 81 #[.agg #[.int .i64 s, .slice (some ⟨g, o, none⟩) n c]] w fun e w' => ∃ D d, e = .returned (.agg #[.int .i64 s, .slice D n d]) ∧ w'.ownsRow w.heap.size 93 16 (.slice D n d) n (fl Ce.cells cs) ∧ Below w.heap.size w w' := by
  have HX := Lib.hid hx
  have HL := Lib.hid hl
  have p0 := Lib.hid (K.old (K.new w (.cells #[.int .i64 s, .slice (some ⟨g, o, none⟩) n c] 40)) (.cells #[.int .i64 0, .slice none 0 0] 40))
  have r0 : Hid (((w.alloc (.cells #[.int .i64 s, .slice (some ⟨g, o, none⟩) n c] 40)).alloc (.cells #[.int .i64 0, .slice none 0 0] 40)).heap[w.heap.size + 1]? = some (.cells #[.int .i64 0, .slice none 0 0] 40 (0, 0))) := Lib.hid (K.newAt (by simp))
  have HB := Lib.hid (Joins.below_alloc2 w (.cells #[.int .i64 s, .slice (some ⟨g, o, none⟩) n c] 40) (.cells #[.int .i64 0, .slice none 0 0] 40))
  clear hx hl
  go_enter Try.func81, Try.ntmps81
  go_wp2_with fail
  refine wp_region_guards (by kernel_rfl) 6 10 [(0, 3), (1, 4), (2, 5), (3, 6), (4, 7), (5, 8)] _ ([.val (.pointer (some ⟨w.heap.size, 0, none⟩)), .val (.int .i64 s), .pr (fun v u => ∃ b', u = .slice (some ⟨b', 0, none⟩) 0 0 ∧ w.heap.size ≤ b' ∧ v.heap[b']? = some (.cells #[] 93 (0, 0))) (fun _ _ _ hb ⟨b', e, l, r⟩ => ⟨b', e, l, K.below hb r⟩), .val (.pointer (some ⟨w.heap.size, 1, none⟩)), .val (.slice (some ⟨g, o, none⟩) n c), .pr (fun v u => ∃ D d, u = .slice D n d ∧ v.ownsRow w.heap.size 93 16 (.slice D n d) n (fl Ce.cells cs)) (fun _ _ _ hb ⟨D, d, e, ow⟩ => ⟨D, d, e, own_below ow hb⟩)]) (by kernel_rfl) (by kernel_rfl) (by kernel_rfl) rfl rfl ?_ ?_
  · intro j o hj ho hr a' v K' hx hnd hB hK
    match j, hj, ho, hr with
    | 0, _, ho, _ =>
      obtain rfl := Option.some.inj ho
      have h0 : a'.eval (.tmp 1) = .pointer (some ⟨w.heap.size, 0, none⟩) := (hx 1 (by decide)).trans rfl
      exact f_tab0 _ _ rfl h0 (hK _ _ rfl (Below.refl _ _))
    | 1, _, ho, _ =>
      obtain rfl := Option.some.inj ho
      have h0 : a'.eval (.tmp 3) = .pointer (some ⟨w.heap.size, 0, none⟩) := (gds_of hnd 0 3 (by kernel_rfl) :)
      exact t_int _ _ _ _ rfl h0 (K.cell (K.below hB p0.out) 0 _ rfl) (hK _ _ rfl (Below.refl _ _))
    | 2, _, ho, _ =>
      obtain rfl := Option.some.inj ho
      exact t_mk0C rfl (hK _ _ ⟨_, rfl, (bthen HB.out hB).size, K.new _ _⟩ (Joins.below_alloc1 _ _))
    | 3, _, ho, _ =>
      obtain rfl := Option.some.inj ho
      have h0 : a'.eval (.tmp 1) = .pointer (some ⟨w.heap.size, 0, none⟩) := (hx 1 (by decide)).trans rfl
      exact f_tab1 _ _ rfl h0 (hK _ _ rfl (Below.refl _ _))
    | 4, _, ho, _ =>
      obtain rfl := Option.some.inj ho
      have h0 : a'.eval (.tmp 6) = .pointer (some ⟨w.heap.size, 1, none⟩) := (gds_of hnd 3 6 (by kernel_rfl) :)
      exact t_sl _ _ _ _ rfl h0 (K.cell (K.below hB p0.out) 1 _ rfl) (hK _ _ rfl (Below.refl _ _))
    | 5, _, ho, _ =>
      obtain rfl := Option.some.inj ho
      obtain ⟨b', h0, l6, r6⟩ := (gds_of hnd 2 5 (by kernel_rfl) :)
      have h1 : a'.eval (.tmp 7) = .slice (some ⟨g, o, none⟩) n c := (gds_of hnd 4 7 (by kernel_rfl) :)
      exact t_appC _ _ rfl w.heap.size b' h0 l6 r6 (bthen HB.out hB).size g o n c cs h1 HL.out hpos (HX.out.on (bthen HB.out hB)) hn (fun E k6 w6 ow hb6 => hK _ _ ⟨E, k6, rfl, ow⟩ hb6)
    | j + 6, hj, _, _ => omega
  · intro f v hf hB
    have e0 : f 0 = (.pointer (some ⟨w.heap.size, 0, none⟩)) := hf (0, 3) (by decide)
    have e1 : f 1 = (.int .i64 s) := hf (1, 4) (by decide)
    have e3 : f 3 = (.pointer (some ⟨w.heap.size, 1, none⟩)) := hf (3, 6) (by decide)
    have e4 : f 4 = (.slice (some ⟨g, o, none⟩) n c) := hf (4, 7) (by decide)
    obtain ⟨D, d, eD, ow⟩ := hf (5, 8) (by decide)
    obtain ⟨b', e5, _, _⟩ := hf (2, 5) (by decide)
    simp only [List.foldl_cons, List.foldl_nil, List.drop_succ_cons, List.drop_zero, e0, e1, e3, e4, eD, e5]
    clear e0 e1 e3 e4 eD e5 hf
    go_simp
    have OW := Lib.hid ow
    have r1 := Lib.hid (K.below hB r0.out)
    have B1 := Lib.hid (bthen HB.out hB)
    clear hB ow
    go_wp2_with (with_reducible refine storeTb rfl _ _ rfl (w.heap.size + 1) rfl rfl r1.out ?_)
    (try simp only [Exit.inBlock, Exit.then])
    refine bodyPost_ret (v := .agg #[.int .i64 s, .slice D n d]) ?_ rfl ⟨D, d, rfl, ?_, setRowBT B1.out (by omega) _⟩
    · exact resTb Try.results81 _ _ (w.heap.size + 1) rfl (setRow_heap _ _ _ _ _ _ r1.out)
    · exact own_grown OW.out (setRow_grownT _ _ _) (fun q hq e => own_neB OW.out r1.out (by decide) q hq (Option.some.inj e))

set_option maxHeartbeats 4000000 in
theorem intoS (s : Int) (g n c b0 : Nat) (cs : List Ce) (k : Fk) (nv : Int) (P : Nat) (w : World) (hown : w.ownsRow b0 93 16 (.slice (some ⟨g, 0, none⟩) n c) n (fl Ce.cells cs)) (hl : cs.length = n) (h4 : 0 < n) (h64 : n ≤ 64) (hs : upTo s 4294967295 = true) (hk : k.ok = true) (hp : probeT s cs k = some P) (hno : ∀ j, j < n → (ceAt cs j).used = true → (ceAt cs j).key ≠ k) :
    Calls Try.prog 82 #[.agg #[.int .i64 s, .slice (some ⟨g, 0, none⟩) n c], .agg #[.int .i64 k.tenant, .int .i64 k.key.src.k, .int .i64 k.key.src.a, .int .i64 k.key.src.b, .int .i64 k.key.src.c, .int .i64 k.key.src.d, .int .i64 k.key.dst.k, .int .i64 k.key.dst.a, .int .i64 k.key.dst.b, .int .i64 k.key.dst.c, .int .i64 k.key.dst.d, .int .i64 k.key.proto, .int .i64 k.key.sport, .int .i64 k.key.dport], .int .i64 nv] w fun e w' => (∃ u, e = .returned u) ∧ w'.ownsRow b0 93 16 (.slice (some ⟨g, 0, none⟩) n c) n (fl Ce.cells (putAt cs P k nv)) ∧ w.grownBy w' (some g) := by
  have hPn : P < n := by rw [← hl]; exact probe_lt hp
  have hfr : free Ce.used (homeOf s n) n (ceAt cs) k = some P := by
    have h := hp
    unfold probeT at h
    rw [hl, probe_free hno] at h
    exact h
  obtain ⟨st, hst, hPs⟩ : ∃ st, firstAt (fun j => !(ceAt cs ((homeOf s n k + j) % n)).used) n = some st ∧ (homeOf s n k + st) % n = P := by
    unfold free at hfr
    rw [Option.map_eq_some_iff] at hfr
    exact hfr
  obtain ⟨hstn, hfree, hused⟩ := firstAt_some.1 hst
  have HS0 := Lib.hid (fun (v : World) => homeS s (some ⟨g, 0, none⟩) n c k v hs hk h4)
  have hh0 : homeOf s n k < n := homeOf_lt s h4 k
  generalize homeOf s n k = hm at *
  have HPs := Lib.hid hPs
  have HF := Lib.hid (show (ceAt cs ((hm + st) % n)).used = false by simpa using hfree)
  have HU := Lib.hid (show ∀ j, j < st → (ceAt cs ((hm + j) % n)).used = true from fun j hj => by simpa using hused j hj)
  have h0m := Lib.hid (show (hm + 0) % n = hm by rw [Nat.add_zero]; exact Nat.mod_eq_of_lt hh0)
  have HL := Lib.hid hl
  have O0 := Lib.hid hown
  have p0 : Hid (((w.alloc (.cells #[.int .i64 s, .slice (some ⟨g, 0, none⟩) n c] 40)).alloc (.cells #[.int .i64 k.tenant, .int .i64 k.key.src.k, .int .i64 k.key.src.a, .int .i64 k.key.src.b, .int .i64 k.key.src.c, .int .i64 k.key.src.d, .int .i64 k.key.dst.k, .int .i64 k.key.dst.a, .int .i64 k.key.dst.b, .int .i64 k.key.dst.c, .int .i64 k.key.dst.d, .int .i64 k.key.proto, .int .i64 k.key.sport, .int .i64 k.key.dport] 33)).heap[w.heap.size]? = some (.cells #[.int .i64 s, .slice (some ⟨g, 0, none⟩) n c] 40 (0, 0))) := Lib.hid (K.old (K.new w _) _)
  have q0 : Hid (((w.alloc (.cells #[.int .i64 s, .slice (some ⟨g, 0, none⟩) n c] 40)).alloc (.cells #[.int .i64 k.tenant, .int .i64 k.key.src.k, .int .i64 k.key.src.a, .int .i64 k.key.src.b, .int .i64 k.key.src.c, .int .i64 k.key.src.d, .int .i64 k.key.dst.k, .int .i64 k.key.dst.a, .int .i64 k.key.dst.b, .int .i64 k.key.dst.c, .int .i64 k.key.dst.d, .int .i64 k.key.proto, .int .i64 k.key.sport, .int .i64 k.key.dport] 33)).heap[w.heap.size + 1]? = some (.cells #[.int .i64 k.tenant, .int .i64 k.key.src.k, .int .i64 k.key.src.a, .int .i64 k.key.src.b, .int .i64 k.key.src.c, .int .i64 k.key.src.d, .int .i64 k.key.dst.k, .int .i64 k.key.dst.a, .int .i64 k.key.dst.b, .int .i64 k.key.dst.c, .int .i64 k.key.dst.d, .int .i64 k.key.proto, .int .i64 k.key.sport, .int .i64 k.key.dport] 33 (0, 0))) := Lib.hid (K.newAt (by simp))
  have HB := Lib.hid (Joins.below_alloc2 w (.cells #[.int .i64 s, .slice (some ⟨g, 0, none⟩) n c] 40) (.cells #[.int .i64 k.tenant, .int .i64 k.key.src.k, .int .i64 k.key.src.a, .int .i64 k.key.src.b, .int .i64 k.key.src.c, .int .i64 k.key.src.d, .int .i64 k.key.dst.k, .int .i64 k.key.dst.a, .int .i64 k.key.dst.b, .int .i64 k.key.dst.c, .int .i64 k.key.dst.d, .int .i64 k.key.proto, .int .i64 k.key.sport, .int .i64 k.key.dport] 33))
  clear hown hl hs hk hp hfr hst hPs hfree hused hno
  have t0 := K.cell p0.out 0 _ rfl
  have t1 := K.cell p0.out 1 _ rfl
  go_enter Try.func82, Try.ntmps82
  go_wp2_with (with_reducible refine loadFk rfl _ rfl (w.heap.size + 1) rfl q0.out ?_)
  refine Calls.mono (HS0.out _) ?_
  rintro e w1 ⟨rfl, b1⟩
  have p1 := Lib.hid (K.below b1 p0.out)
  have q1 := Lib.hid (K.below b1 q0.out)
  have B1 := Lib.hid (bthen HB.out b1)
  have O1 := Lib.hid (own_below O0.out B1.out)
  clear b1 t0 t1 p0 q0 O0
  have X1 := Lib.hid (RV.of_own O1.out)
  have t1 := K.cell p1.out 1 _ rfl
  go_wp2
  go_loop [6, 7] (fun at6 p7 => ∃ j : Nat, j ≤ st ∧ at6 = .int .i64 (((hm + j) % n : Nat) : Int) ∧ p7 = .int .i64 (j : Int)) (fun _ p7 => st - (intOf p7).toNat)
  case atStart => exact ⟨0, Nat.zero_le _, by rw [h0m.out], rfl⟩
  case round =>
    obtain ⟨j, hj, rfl, rfl⟩ := hrel
    have hP := Nat.mod_lt (hm + j) h4
    have hnx := next_at hm j n
    have hjn : j < n := by omega
    have hn0 : ¬ ((n : Int) = 0) := by omega
    by_cases hjs : j < st
    · have hz := HU.out j hjs
      obtain ⟨P1, hPe⟩ : ∃ P, (hm + j) % n = P := ⟨_, rfl⟩
      obtain ⟨P2, hPe2⟩ : ∃ P, (hm + (j + 1)) % n = P := ⟨_, rfl⟩
      rw [hPe] at hP hnx hz ⊢
      rw [hPe2] at hnx
      have HPe2 := Lib.hid hPe2
      clear hPe hPe2
      have hP1 : P1 < cs.length := by rw [HL.out]; exact hP
      obtain ⟨g', o', e', hg, hc0⟩ := X1.out.flat Ce.cells_length (by omega) hP1
      obtain ⟨rfl, rfl⟩ : g = g' ∧ 0 = o' := by simpa using e'
      have cu : w1.cell? ⟨g, P1 * 16, none⟩ = some (.bool true) := by
        have h := hc0 0 _ rfl
        rw [ceAt_get hP1] at hz
        rw [hz] at h
        simpa using h
      clear hc0 hg e' hz
      go_wp2
      go_round
      case rel => exact ⟨j + 1, by omega, by rw [HPe2.out], by go_num⟩
      case measure => simp [intOf]; omega
    · obtain rfl : j = st := by omega
      have hz := HF.out
      have HT := Lib.hid (there_of_own O1.out (P * 16) 16 (by omega))
      have O2 := Lib.hid (own_putCells (Ce.mk true k nv).cells _ (P * 16) _ O1.out)
      have G2 := Lib.hid (grown_putCells g (Ce.mk true k nv).cells w1 (P * 16))
      rw [HPs.out] at hz hP ⊢
      clear hnx
      have hP1 : P < cs.length := by rw [HL.out]; exact hP
      obtain ⟨g', o', e', hg, hc0⟩ := X1.out.flat Ce.cells_length (by omega) hP1
      obtain ⟨rfl, rfl⟩ : g = g' ∧ 0 = o' := by simpa using e'
      have cu : w1.cell? ⟨g, P * 16, none⟩ = some (.bool false) := by
        have h := hc0 0 _ rfl
        rw [ceAt_get hP1] at hz
        rw [hz] at h
        simpa using h
      clear hc0 hg e' hz
      go_wp2_with (first | (with_reducible refine loadFk rfl _ rfl (w.heap.size + 1) rfl q1.out ?_) | (with_reducible refine storeAtCe rfl _ _ rfl g (P * 16) (Ce.mk true k nv) rfl rfl HT.out ?_))
      (try simp only [Exit.inBlock, Exit.then])
      refine bodyPost_end (results_none Try.results82 _ _ _) rfl ⟨⟨_, rfl⟩, ?_, grownBy_trans (below_grownT B1.out _) G2.out⟩
      rw [putAt, ← flat_set hP1]
      exact O2.out
end Go.Proofs.Ytmfkpiclpkeemaa

namespace Go.Proofs.Ytmfkpiclpkeemaa
set_option maxRecDepth 100000
open Go.RowKit

section
variable {o : Oper} {a : Act} {w : World} {K : Act → World → Prop} {Q : Exit → Act → World → Prop}
theorem t_eqlT (x y : Operand) (m n : Int) (b : Bool) (ho : o.op = .binOp .eql 3 x y 3) (hx : a.eval x = .int .i64 m) (hy : a.eval y = .int .i64 n) (h : decide (m = n) = b) (hK : K (a.put o.dst (.bool b)) w) : o.wp Try.prog a w K Q := by
  subst h
  unfold Oper.wp execOp
  simp only [ho, hx, hy]
  go_simp
  exact hK
end

set_option maxHeartbeats 4000000 in
theorem tabPutI_0 (s : Int) (A : Option Addr) (n c : Nat) (cs : List Ce) (w : World) (hx : RV w w.heap.size A (fl Ce.cells cs)) (hl : cs.length = n) (hn : n ≤ 1048576) (k : Fk) (nv : Int) (ho : tabOk s cs = false) : Calls Try.prog 41 #[.agg #[.int .i64 s, .slice A n c], .agg #[.int .i64 k.tenant, .int .i64 k.key.src.k, .int .i64 k.key.src.a, .int .i64 k.key.src.b, .int .i64 k.key.src.c, .int .i64 k.key.src.d, .int .i64 k.key.dst.k, .int .i64 k.key.dst.a, .int .i64 k.key.dst.b, .int .i64 k.key.dst.c, .int .i64 k.key.dst.d, .int .i64 k.key.proto, .int .i64 k.key.sport, .int .i64 k.key.dport], .int .i64 nv] w fun e w' => ∃ v, e = .returned (.tuple #[v, .int .i64 (tabPut s cs k nv).2]) ∧ TOwn w.heap.size (tabPut s cs k nv).1 w' v ∧ Below w.heap.size w w' := by
  have HX := Lib.hid hx
  have HL := Lib.hid hl
  have HR := Lib.hid (tabPut_no1 (k := k) (v := nv) ho)
  have HO := Lib.hid ho
  clear ho hx hl
  have p0 : Hid ((((w.alloc (.cells #[.int .i64 s, .slice A n c] 40)).alloc (.cells #[.int .i64 k.tenant, .int .i64 k.key.src.k, .int .i64 k.key.src.a, .int .i64 k.key.src.b, .int .i64 k.key.src.c, .int .i64 k.key.src.d, .int .i64 k.key.dst.k, .int .i64 k.key.dst.a, .int .i64 k.key.dst.b, .int .i64 k.key.dst.c, .int .i64 k.key.dst.d, .int .i64 k.key.proto, .int .i64 k.key.sport, .int .i64 k.key.dport] 33)).alloc (.cells #[.int .i64 0, .slice none 0 0] 40)).heap[w.heap.size]? = some (.cells #[.int .i64 s, .slice A n c] 40 (0, 0))) := Lib.hid (K.old (K.old (K.new w _) _) _)
  have q0 : Hid ((((w.alloc (.cells #[.int .i64 s, .slice A n c] 40)).alloc (.cells #[.int .i64 k.tenant, .int .i64 k.key.src.k, .int .i64 k.key.src.a, .int .i64 k.key.src.b, .int .i64 k.key.src.c, .int .i64 k.key.src.d, .int .i64 k.key.dst.k, .int .i64 k.key.dst.a, .int .i64 k.key.dst.b, .int .i64 k.key.dst.c, .int .i64 k.key.dst.d, .int .i64 k.key.proto, .int .i64 k.key.sport, .int .i64 k.key.dport] 33)).alloc (.cells #[.int .i64 0, .slice none 0 0] 40)).heap[w.heap.size + 1]? = some (.cells #[.int .i64 k.tenant, .int .i64 k.key.src.k, .int .i64 k.key.src.a, .int .i64 k.key.src.b, .int .i64 k.key.src.c, .int .i64 k.key.src.d, .int .i64 k.key.dst.k, .int .i64 k.key.dst.a, .int .i64 k.key.dst.b, .int .i64 k.key.dst.c, .int .i64 k.key.dst.d, .int .i64 k.key.proto, .int .i64 k.key.sport, .int .i64 k.key.dport] 33 (0, 0))) := Lib.hid (K.old (K.newAt (by simp)) _)
  have r0 : Hid ((((w.alloc (.cells #[.int .i64 s, .slice A n c] 40)).alloc (.cells #[.int .i64 k.tenant, .int .i64 k.key.src.k, .int .i64 k.key.src.a, .int .i64 k.key.src.b, .int .i64 k.key.src.c, .int .i64 k.key.src.d, .int .i64 k.key.dst.k, .int .i64 k.key.dst.a, .int .i64 k.key.dst.b, .int .i64 k.key.dst.c, .int .i64 k.key.dst.d, .int .i64 k.key.proto, .int .i64 k.key.sport, .int .i64 k.key.dport] 33)).alloc (.cells #[.int .i64 0, .slice none 0 0] 40)).heap[w.heap.size + 2]? = some (.cells #[.int .i64 0, .slice none 0 0] 40 (0, 0))) := Lib.hid (K.newAt (by simp))
  have B0 : Hid (Below w.heap.size w (((w.alloc (.cells #[.int .i64 s, .slice A n c] 40)).alloc (.cells #[.int .i64 k.tenant, .int .i64 k.key.src.k, .int .i64 k.key.src.a, .int .i64 k.key.src.b, .int .i64 k.key.src.c, .int .i64 k.key.src.d, .int .i64 k.key.dst.k, .int .i64 k.key.dst.a, .int .i64 k.key.dst.b, .int .i64 k.key.dst.c, .int .i64 k.key.dst.d, .int .i64 k.key.proto, .int .i64 k.key.sport, .int .i64 k.key.dport] 33)).alloc (.cells #[.int .i64 0, .slice none 0 0] 40))) := Lib.hid (bthen (Joins.below_alloc2 w (.cells #[.int .i64 s, .slice A n c] 40) (.cells #[.int .i64 k.tenant, .int .i64 k.key.src.k, .int .i64 k.key.src.a, .int .i64 k.key.src.b, .int .i64 k.key.src.c, .int .i64 k.key.src.d, .int .i64 k.key.dst.k, .int .i64 k.key.dst.a, .int .i64 k.key.dst.b, .int .i64 k.key.dst.c, .int .i64 k.key.dst.d, .int .i64 k.key.proto, .int .i64 k.key.sport, .int .i64 k.key.dport] 33)) (Joins.below_alloc1 _ _))
  have t0 := K.cell p0.out 0 _ rfl
  have t1 := K.cell p0.out 1 _ rfl
  go_enter Try.func41, Try.ntmps41
  go_wp2_with fail
  refine Calls.mono (tabOkIB s A n c cs _ (HX.out.on B0.out) HL.out hn false HO.out) ?_
  rintro e w1 ⟨rfl, b1⟩
  have p1 := Lib.hid (K.below b1 p0.out)
  have q1 := Lib.hid (K.below b1 q0.out)
  have r1 := Lib.hid (K.below b1 r0.out)
  have B1 := Lib.hid (bthen B0.out b1)
  clear b1 p0 q0 r0 t0 t1 B0
  go_wp2_with (with_reducible refine storeTb rfl _ _ rfl (w.heap.size + 2) rfl rfl r1.out ?_)
  (try simp only [Exit.inBlock, Exit.then])
  refine bodyPost_ret (v := .tuple #[.agg #[.int .i64 0, .slice none 0 0], .int .i64 1]) (resTbN Try.results41 _ _ (w.heap.size + 2) rfl (setRow_heap _ _ _ _ _ _ r1.out)) rfl ⟨_, by rw [HR.out], by rw [HR.out]; exact TOwn.zero _ _, setRowBT B1.out (by omega) _⟩

set_option maxHeartbeats 4000000 in
theorem tabPutI_1 (s : Int) (A : Option Addr) (n c : Nat) (cs : List Ce) (w : World) (hx : RV w w.heap.size A (fl Ce.cells cs)) (hl : cs.length = n) (hn : n ≤ 1048576) (k : Fk) (nv : Int) (ho : tabOk s cs = true) (hk : k.ok = false) : Calls Try.prog 41 #[.agg #[.int .i64 s, .slice A n c], .agg #[.int .i64 k.tenant, .int .i64 k.key.src.k, .int .i64 k.key.src.a, .int .i64 k.key.src.b, .int .i64 k.key.src.c, .int .i64 k.key.src.d, .int .i64 k.key.dst.k, .int .i64 k.key.dst.a, .int .i64 k.key.dst.b, .int .i64 k.key.dst.c, .int .i64 k.key.dst.d, .int .i64 k.key.proto, .int .i64 k.key.sport, .int .i64 k.key.dport], .int .i64 nv] w fun e w' => ∃ v, e = .returned (.tuple #[v, .int .i64 (tabPut s cs k nv).2]) ∧ TOwn w.heap.size (tabPut s cs k nv).1 w' v ∧ Below w.heap.size w w' := by
  have HX := Lib.hid hx
  have HL := Lib.hid hl
  have HR := Lib.hid (tabPut_no2 (s := s) (cs := cs) (v := nv) hk)
  have HO := Lib.hid ho
  have HK := Lib.hid hk
  clear ho hk hx hl
  have p0 : Hid ((((w.alloc (.cells #[.int .i64 s, .slice A n c] 40)).alloc (.cells #[.int .i64 k.tenant, .int .i64 k.key.src.k, .int .i64 k.key.src.a, .int .i64 k.key.src.b, .int .i64 k.key.src.c, .int .i64 k.key.src.d, .int .i64 k.key.dst.k, .int .i64 k.key.dst.a, .int .i64 k.key.dst.b, .int .i64 k.key.dst.c, .int .i64 k.key.dst.d, .int .i64 k.key.proto, .int .i64 k.key.sport, .int .i64 k.key.dport] 33)).alloc (.cells #[.int .i64 0, .slice none 0 0] 40)).heap[w.heap.size]? = some (.cells #[.int .i64 s, .slice A n c] 40 (0, 0))) := Lib.hid (K.old (K.old (K.new w _) _) _)
  have q0 : Hid ((((w.alloc (.cells #[.int .i64 s, .slice A n c] 40)).alloc (.cells #[.int .i64 k.tenant, .int .i64 k.key.src.k, .int .i64 k.key.src.a, .int .i64 k.key.src.b, .int .i64 k.key.src.c, .int .i64 k.key.src.d, .int .i64 k.key.dst.k, .int .i64 k.key.dst.a, .int .i64 k.key.dst.b, .int .i64 k.key.dst.c, .int .i64 k.key.dst.d, .int .i64 k.key.proto, .int .i64 k.key.sport, .int .i64 k.key.dport] 33)).alloc (.cells #[.int .i64 0, .slice none 0 0] 40)).heap[w.heap.size + 1]? = some (.cells #[.int .i64 k.tenant, .int .i64 k.key.src.k, .int .i64 k.key.src.a, .int .i64 k.key.src.b, .int .i64 k.key.src.c, .int .i64 k.key.src.d, .int .i64 k.key.dst.k, .int .i64 k.key.dst.a, .int .i64 k.key.dst.b, .int .i64 k.key.dst.c, .int .i64 k.key.dst.d, .int .i64 k.key.proto, .int .i64 k.key.sport, .int .i64 k.key.dport] 33 (0, 0))) := Lib.hid (K.old (K.newAt (by simp)) _)
  have r0 : Hid ((((w.alloc (.cells #[.int .i64 s, .slice A n c] 40)).alloc (.cells #[.int .i64 k.tenant, .int .i64 k.key.src.k, .int .i64 k.key.src.a, .int .i64 k.key.src.b, .int .i64 k.key.src.c, .int .i64 k.key.src.d, .int .i64 k.key.dst.k, .int .i64 k.key.dst.a, .int .i64 k.key.dst.b, .int .i64 k.key.dst.c, .int .i64 k.key.dst.d, .int .i64 k.key.proto, .int .i64 k.key.sport, .int .i64 k.key.dport] 33)).alloc (.cells #[.int .i64 0, .slice none 0 0] 40)).heap[w.heap.size + 2]? = some (.cells #[.int .i64 0, .slice none 0 0] 40 (0, 0))) := Lib.hid (K.newAt (by simp))
  have B0 : Hid (Below w.heap.size w (((w.alloc (.cells #[.int .i64 s, .slice A n c] 40)).alloc (.cells #[.int .i64 k.tenant, .int .i64 k.key.src.k, .int .i64 k.key.src.a, .int .i64 k.key.src.b, .int .i64 k.key.src.c, .int .i64 k.key.src.d, .int .i64 k.key.dst.k, .int .i64 k.key.dst.a, .int .i64 k.key.dst.b, .int .i64 k.key.dst.c, .int .i64 k.key.dst.d, .int .i64 k.key.proto, .int .i64 k.key.sport, .int .i64 k.key.dport] 33)).alloc (.cells #[.int .i64 0, .slice none 0 0] 40))) := Lib.hid (bthen (Joins.below_alloc2 w (.cells #[.int .i64 s, .slice A n c] 40) (.cells #[.int .i64 k.tenant, .int .i64 k.key.src.k, .int .i64 k.key.src.a, .int .i64 k.key.src.b, .int .i64 k.key.src.c, .int .i64 k.key.src.d, .int .i64 k.key.dst.k, .int .i64 k.key.dst.a, .int .i64 k.key.dst.b, .int .i64 k.key.dst.c, .int .i64 k.key.dst.d, .int .i64 k.key.proto, .int .i64 k.key.sport, .int .i64 k.key.dport] 33)) (Joins.below_alloc1 _ _))
  have t0 := K.cell p0.out 0 _ rfl
  have t1 := K.cell p0.out 1 _ rfl
  go_enter Try.func41, Try.ntmps41
  go_wp2_with fail
  refine Calls.mono (tabOkIB s A n c cs _ (HX.out.on B0.out) HL.out hn true HO.out) ?_
  rintro e w1 ⟨rfl, b1⟩
  have p1 := Lib.hid (K.below b1 p0.out)
  have q1 := Lib.hid (K.below b1 q0.out)
  have r1 := Lib.hid (K.below b1 r0.out)
  have B1 := Lib.hid (bthen B0.out b1)
  clear b1 p0 q0 r0 t0 t1 B0
  obtain ⟨z0, z1, z2, z3, z4, z5, z6, z7, z8, z9, z10, z11, z12, z13⟩ := K.fk q1.out
  go_wp2_with fail
  refine Calls.mono (fkOkIB k false HK.out _) ?_
  rintro e w2 ⟨rfl, b2⟩
  have p2 := Lib.hid (K.below b2 p1.out)
  have q2 := Lib.hid (K.below b2 q1.out)
  have r2 := Lib.hid (K.below b2 r1.out)
  have B2 := Lib.hid (bthen B1.out b2)
  clear b2 p1 q1 r1 z0 z1 z2 z3 z4 z5 z6 z7 z8 z9 z10 z11 z12 z13 B1
  go_wp2_with (with_reducible refine storeTb rfl _ _ rfl (w.heap.size + 2) rfl rfl r2.out ?_)
  (try simp only [Exit.inBlock, Exit.then])
  refine bodyPost_ret (v := .tuple #[.agg #[.int .i64 0, .slice none 0 0], .int .i64 1]) (resTbN Try.results41 _ _ (w.heap.size + 2) rfl (setRow_heap _ _ _ _ _ _ r2.out)) rfl ⟨_, by rw [HR.out], by rw [HR.out]; exact TOwn.zero _ _, setRowBT B2.out (by omega) _⟩

set_option maxHeartbeats 4000000 in
theorem tabPutI_2 (s : Int) (A : Option Addr) (n c : Nat) (cs : List Ce) (w : World) (hx : RV w w.heap.size A (fl Ce.cells cs)) (hl : cs.length = n) (hn : n ≤ 1048576) (k : Fk) (nv : Int) (ho : tabOk s cs = true) (hk : k.ok = true) (hv : btw 0 nv 1000000000000 = false) : Calls Try.prog 41 #[.agg #[.int .i64 s, .slice A n c], .agg #[.int .i64 k.tenant, .int .i64 k.key.src.k, .int .i64 k.key.src.a, .int .i64 k.key.src.b, .int .i64 k.key.src.c, .int .i64 k.key.src.d, .int .i64 k.key.dst.k, .int .i64 k.key.dst.a, .int .i64 k.key.dst.b, .int .i64 k.key.dst.c, .int .i64 k.key.dst.d, .int .i64 k.key.proto, .int .i64 k.key.sport, .int .i64 k.key.dport], .int .i64 nv] w fun e w' => ∃ v, e = .returned (.tuple #[v, .int .i64 (tabPut s cs k nv).2]) ∧ TOwn w.heap.size (tabPut s cs k nv).1 w' v ∧ Below w.heap.size w w' := by
  have HX := Lib.hid hx
  have HL := Lib.hid hl
  have HR := Lib.hid (tabPut_no3 (s := s) (cs := cs) (k := k) hv)
  have HO := Lib.hid ho
  have HK := Lib.hid hk
  have HV := Lib.hid hv
  clear ho hk hv hx hl
  have p0 : Hid ((((w.alloc (.cells #[.int .i64 s, .slice A n c] 40)).alloc (.cells #[.int .i64 k.tenant, .int .i64 k.key.src.k, .int .i64 k.key.src.a, .int .i64 k.key.src.b, .int .i64 k.key.src.c, .int .i64 k.key.src.d, .int .i64 k.key.dst.k, .int .i64 k.key.dst.a, .int .i64 k.key.dst.b, .int .i64 k.key.dst.c, .int .i64 k.key.dst.d, .int .i64 k.key.proto, .int .i64 k.key.sport, .int .i64 k.key.dport] 33)).alloc (.cells #[.int .i64 0, .slice none 0 0] 40)).heap[w.heap.size]? = some (.cells #[.int .i64 s, .slice A n c] 40 (0, 0))) := Lib.hid (K.old (K.old (K.new w _) _) _)
  have q0 : Hid ((((w.alloc (.cells #[.int .i64 s, .slice A n c] 40)).alloc (.cells #[.int .i64 k.tenant, .int .i64 k.key.src.k, .int .i64 k.key.src.a, .int .i64 k.key.src.b, .int .i64 k.key.src.c, .int .i64 k.key.src.d, .int .i64 k.key.dst.k, .int .i64 k.key.dst.a, .int .i64 k.key.dst.b, .int .i64 k.key.dst.c, .int .i64 k.key.dst.d, .int .i64 k.key.proto, .int .i64 k.key.sport, .int .i64 k.key.dport] 33)).alloc (.cells #[.int .i64 0, .slice none 0 0] 40)).heap[w.heap.size + 1]? = some (.cells #[.int .i64 k.tenant, .int .i64 k.key.src.k, .int .i64 k.key.src.a, .int .i64 k.key.src.b, .int .i64 k.key.src.c, .int .i64 k.key.src.d, .int .i64 k.key.dst.k, .int .i64 k.key.dst.a, .int .i64 k.key.dst.b, .int .i64 k.key.dst.c, .int .i64 k.key.dst.d, .int .i64 k.key.proto, .int .i64 k.key.sport, .int .i64 k.key.dport] 33 (0, 0))) := Lib.hid (K.old (K.newAt (by simp)) _)
  have r0 : Hid ((((w.alloc (.cells #[.int .i64 s, .slice A n c] 40)).alloc (.cells #[.int .i64 k.tenant, .int .i64 k.key.src.k, .int .i64 k.key.src.a, .int .i64 k.key.src.b, .int .i64 k.key.src.c, .int .i64 k.key.src.d, .int .i64 k.key.dst.k, .int .i64 k.key.dst.a, .int .i64 k.key.dst.b, .int .i64 k.key.dst.c, .int .i64 k.key.dst.d, .int .i64 k.key.proto, .int .i64 k.key.sport, .int .i64 k.key.dport] 33)).alloc (.cells #[.int .i64 0, .slice none 0 0] 40)).heap[w.heap.size + 2]? = some (.cells #[.int .i64 0, .slice none 0 0] 40 (0, 0))) := Lib.hid (K.newAt (by simp))
  have B0 : Hid (Below w.heap.size w (((w.alloc (.cells #[.int .i64 s, .slice A n c] 40)).alloc (.cells #[.int .i64 k.tenant, .int .i64 k.key.src.k, .int .i64 k.key.src.a, .int .i64 k.key.src.b, .int .i64 k.key.src.c, .int .i64 k.key.src.d, .int .i64 k.key.dst.k, .int .i64 k.key.dst.a, .int .i64 k.key.dst.b, .int .i64 k.key.dst.c, .int .i64 k.key.dst.d, .int .i64 k.key.proto, .int .i64 k.key.sport, .int .i64 k.key.dport] 33)).alloc (.cells #[.int .i64 0, .slice none 0 0] 40))) := Lib.hid (bthen (Joins.below_alloc2 w (.cells #[.int .i64 s, .slice A n c] 40) (.cells #[.int .i64 k.tenant, .int .i64 k.key.src.k, .int .i64 k.key.src.a, .int .i64 k.key.src.b, .int .i64 k.key.src.c, .int .i64 k.key.src.d, .int .i64 k.key.dst.k, .int .i64 k.key.dst.a, .int .i64 k.key.dst.b, .int .i64 k.key.dst.c, .int .i64 k.key.dst.d, .int .i64 k.key.proto, .int .i64 k.key.sport, .int .i64 k.key.dport] 33)) (Joins.below_alloc1 _ _))
  have t0 := K.cell p0.out 0 _ rfl
  have t1 := K.cell p0.out 1 _ rfl
  go_enter Try.func41, Try.ntmps41
  go_wp2_with fail
  refine Calls.mono (tabOkIB s A n c cs _ (HX.out.on B0.out) HL.out hn true HO.out) ?_
  rintro e w1 ⟨rfl, b1⟩
  have p1 := Lib.hid (K.below b1 p0.out)
  have q1 := Lib.hid (K.below b1 q0.out)
  have r1 := Lib.hid (K.below b1 r0.out)
  have B1 := Lib.hid (bthen B0.out b1)
  clear b1 p0 q0 r0 t0 t1 B0
  obtain ⟨z0, z1, z2, z3, z4, z5, z6, z7, z8, z9, z10, z11, z12, z13⟩ := K.fk q1.out
  go_wp2_with fail
  refine Calls.mono (fkOkIB k true HK.out _) ?_
  rintro e w2 ⟨rfl, b2⟩
  have p2 := Lib.hid (K.below b2 p1.out)
  have q2 := Lib.hid (K.below b2 q1.out)
  have r2 := Lib.hid (K.below b2 r1.out)
  have B2 := Lib.hid (bthen B1.out b2)
  clear b2 p1 q1 r1 z0 z1 z2 z3 z4 z5 z6 z7 z8 z9 z10 z11 z12 z13 B1
  go_wp2_with fail
  refine Calls.mono (ruleW 0 nv 1000000000000 false HV.out _) ?_
  rintro e w3 ⟨rfl, b3⟩
  have p3 := Lib.hid (K.below b3 p2.out)
  have q3 := Lib.hid (K.below b3 q2.out)
  have r3 := Lib.hid (K.below b3 r2.out)
  have B3 := Lib.hid (bthen B2.out b3)
  clear b3 p2 q2 r2  B2
  go_wp2_with (with_reducible refine storeTb rfl _ _ rfl (w.heap.size + 2) rfl rfl r3.out ?_)
  (try simp only [Exit.inBlock, Exit.then])
  refine bodyPost_ret (v := .tuple #[.agg #[.int .i64 0, .slice none 0 0], .int .i64 1]) (resTbN Try.results41 _ _ (w.heap.size + 2) rfl (setRow_heap _ _ _ _ _ _ r3.out)) rfl ⟨_, by rw [HR.out], by rw [HR.out]; exact TOwn.zero _ _, setRowBT B3.out (by omega) _⟩

set_option maxHeartbeats 4000000 in
theorem tabPutI_3 (s : Int) (A : Option Addr) (n c : Nat) (cs : List Ce) (w : World) (hx : RV w w.heap.size A (fl Ce.cells cs)) (hl : cs.length = n) (hn : n ≤ 1048576) (k : Fk) (nv : Int) (ho : tabOk s cs = true) (hk : k.ok = true) (hv : btw 0 nv 1000000000000 = true) (P : Nat) (hpr : probeT s cs k = some P) (hu : (ceAt cs P).used = false) (hf : usedN cs = cs.length / 4 * 3) : Calls Try.prog 41 #[.agg #[.int .i64 s, .slice A n c], .agg #[.int .i64 k.tenant, .int .i64 k.key.src.k, .int .i64 k.key.src.a, .int .i64 k.key.src.b, .int .i64 k.key.src.c, .int .i64 k.key.src.d, .int .i64 k.key.dst.k, .int .i64 k.key.dst.a, .int .i64 k.key.dst.b, .int .i64 k.key.dst.c, .int .i64 k.key.dst.d, .int .i64 k.key.proto, .int .i64 k.key.sport, .int .i64 k.key.dport], .int .i64 nv] w fun e w' => ∃ v, e = .returned (.tuple #[v, .int .i64 (tabPut s cs k nv).2]) ∧ TOwn w.heap.size (tabPut s cs k nv).1 w' v ∧ Below w.heap.size w w' := by
  have HX := Lib.hid hx
  have HL := Lib.hid hl
  have HR := Lib.hid (tabPut_full ho hk hv hpr hu hf)
  have hP : P < cs.length := probe_lt hpr
  have hlen := tab_len ho
  rw [hl] at hlen
  have HO := Lib.hid ho
  have HK := Lib.hid hk
  have HV := Lib.hid hv
  have HS := Lib.hid (tabOk_parts ho).1
  have HPR := Lib.hid (show idx (probeT s cs k) = (P : Int) by rw [hpr]; rfl)
  have HP := Lib.hid hpr
  obtain ⟨g, o, rfl, hg, hc0⟩ := HX.out.flat Ce.cells_length (by omega) hP
  have hPn : P < n := by rw [← hl]; exact hP
  have HC := Lib.hid (show ∀ v, Below w.heap.size w v → v.cell? ⟨g, o + P * 16, none⟩ = some (.bool false) from fun v hv => (hv.cell (p := ⟨g, o + P * 16, none⟩) hg).trans ((hc0 0 _ rfl).trans (congrArg some (congrArg Value.bool (by rw [← ceAt_get hP]; exact hu)))))
  have H3 := Lib.hid (show decide ((usedN cs : Int) = ((n / 4 * 3 : Nat) : Int)) = true from decide_eq_true (by rw [hl] at hf; omega))
  clear ho hk hv hpr hu hx hl hP hc0 hg hf
  have p0 : Hid ((((w.alloc (.cells #[.int .i64 s, .slice (some ⟨g, o, none⟩) n c] 40)).alloc (.cells #[.int .i64 k.tenant, .int .i64 k.key.src.k, .int .i64 k.key.src.a, .int .i64 k.key.src.b, .int .i64 k.key.src.c, .int .i64 k.key.src.d, .int .i64 k.key.dst.k, .int .i64 k.key.dst.a, .int .i64 k.key.dst.b, .int .i64 k.key.dst.c, .int .i64 k.key.dst.d, .int .i64 k.key.proto, .int .i64 k.key.sport, .int .i64 k.key.dport] 33)).alloc (.cells #[.int .i64 0, .slice none 0 0] 40)).heap[w.heap.size]? = some (.cells #[.int .i64 s, .slice (some ⟨g, o, none⟩) n c] 40 (0, 0))) := Lib.hid (K.old (K.old (K.new w _) _) _)
  have q0 : Hid ((((w.alloc (.cells #[.int .i64 s, .slice (some ⟨g, o, none⟩) n c] 40)).alloc (.cells #[.int .i64 k.tenant, .int .i64 k.key.src.k, .int .i64 k.key.src.a, .int .i64 k.key.src.b, .int .i64 k.key.src.c, .int .i64 k.key.src.d, .int .i64 k.key.dst.k, .int .i64 k.key.dst.a, .int .i64 k.key.dst.b, .int .i64 k.key.dst.c, .int .i64 k.key.dst.d, .int .i64 k.key.proto, .int .i64 k.key.sport, .int .i64 k.key.dport] 33)).alloc (.cells #[.int .i64 0, .slice none 0 0] 40)).heap[w.heap.size + 1]? = some (.cells #[.int .i64 k.tenant, .int .i64 k.key.src.k, .int .i64 k.key.src.a, .int .i64 k.key.src.b, .int .i64 k.key.src.c, .int .i64 k.key.src.d, .int .i64 k.key.dst.k, .int .i64 k.key.dst.a, .int .i64 k.key.dst.b, .int .i64 k.key.dst.c, .int .i64 k.key.dst.d, .int .i64 k.key.proto, .int .i64 k.key.sport, .int .i64 k.key.dport] 33 (0, 0))) := Lib.hid (K.old (K.newAt (by simp)) _)
  have r0 : Hid ((((w.alloc (.cells #[.int .i64 s, .slice (some ⟨g, o, none⟩) n c] 40)).alloc (.cells #[.int .i64 k.tenant, .int .i64 k.key.src.k, .int .i64 k.key.src.a, .int .i64 k.key.src.b, .int .i64 k.key.src.c, .int .i64 k.key.src.d, .int .i64 k.key.dst.k, .int .i64 k.key.dst.a, .int .i64 k.key.dst.b, .int .i64 k.key.dst.c, .int .i64 k.key.dst.d, .int .i64 k.key.proto, .int .i64 k.key.sport, .int .i64 k.key.dport] 33)).alloc (.cells #[.int .i64 0, .slice none 0 0] 40)).heap[w.heap.size + 2]? = some (.cells #[.int .i64 0, .slice none 0 0] 40 (0, 0))) := Lib.hid (K.newAt (by simp))
  have B0 : Hid (Below w.heap.size w (((w.alloc (.cells #[.int .i64 s, .slice (some ⟨g, o, none⟩) n c] 40)).alloc (.cells #[.int .i64 k.tenant, .int .i64 k.key.src.k, .int .i64 k.key.src.a, .int .i64 k.key.src.b, .int .i64 k.key.src.c, .int .i64 k.key.src.d, .int .i64 k.key.dst.k, .int .i64 k.key.dst.a, .int .i64 k.key.dst.b, .int .i64 k.key.dst.c, .int .i64 k.key.dst.d, .int .i64 k.key.proto, .int .i64 k.key.sport, .int .i64 k.key.dport] 33)).alloc (.cells #[.int .i64 0, .slice none 0 0] 40))) := Lib.hid (bthen (Joins.below_alloc2 w (.cells #[.int .i64 s, .slice (some ⟨g, o, none⟩) n c] 40) (.cells #[.int .i64 k.tenant, .int .i64 k.key.src.k, .int .i64 k.key.src.a, .int .i64 k.key.src.b, .int .i64 k.key.src.c, .int .i64 k.key.src.d, .int .i64 k.key.dst.k, .int .i64 k.key.dst.a, .int .i64 k.key.dst.b, .int .i64 k.key.dst.c, .int .i64 k.key.dst.d, .int .i64 k.key.proto, .int .i64 k.key.sport, .int .i64 k.key.dport] 33)) (Joins.below_alloc1 _ _))
  have t0 := K.cell p0.out 0 _ rfl
  have t1 := K.cell p0.out 1 _ rfl
  go_enter Try.func41, Try.ntmps41
  go_wp2_with fail
  refine Calls.mono (tabOkIB s (some ⟨g, o, none⟩) n c cs _ (HX.out.on B0.out) HL.out hn true HO.out) ?_
  rintro e w1 ⟨rfl, b1⟩
  have p1 := Lib.hid (K.below b1 p0.out)
  have q1 := Lib.hid (K.below b1 q0.out)
  have r1 := Lib.hid (K.below b1 r0.out)
  have B1 := Lib.hid (bthen B0.out b1)
  clear b1 p0 q0 r0 t0 t1 B0
  obtain ⟨z0, z1, z2, z3, z4, z5, z6, z7, z8, z9, z10, z11, z12, z13⟩ := K.fk q1.out
  go_wp2_with fail
  refine Calls.mono (fkOkIB k true HK.out _) ?_
  rintro e w2 ⟨rfl, b2⟩
  have p2 := Lib.hid (K.below b2 p1.out)
  have q2 := Lib.hid (K.below b2 q1.out)
  have r2 := Lib.hid (K.below b2 r1.out)
  have B2 := Lib.hid (bthen B1.out b2)
  clear b2 p1 q1 r1 z0 z1 z2 z3 z4 z5 z6 z7 z8 z9 z10 z11 z12 z13 B1
  go_wp2_with fail
  refine Calls.mono (ruleW 0 nv 1000000000000 true HV.out _) ?_
  rintro e w3 ⟨rfl, b3⟩
  have p3 := Lib.hid (K.below b3 p2.out)
  have q3 := Lib.hid (K.below b3 q2.out)
  have r3 := Lib.hid (K.below b3 r2.out)
  have B3 := Lib.hid (bthen B2.out b3)
  clear b3 p2 q2 r2  B2
  go_wp2_with fail
  refine wp_region_guards (by kernel_rfl) 15 47 [(0, 23), (1, 24), (2, 25), (3, 26), (4, 27), (5, 28), (6, 29), (7, 30), (8, 31), (9, 32), (10, 33), (11, 34), (12, 35), (13, 36), (14, 37)] _ ([.val (.pointer (some ⟨w.heap.size, 1, none⟩)), .val (.slice (some ⟨g, o, none⟩) n c), .val (.agg #[.int .i64 s, .slice (some ⟨g, o, none⟩) n c]), .val (.agg #[.int .i64 k.tenant, .int .i64 k.key.src.k, .int .i64 k.key.src.a, .int .i64 k.key.src.b, .int .i64 k.key.src.c, .int .i64 k.key.src.d, .int .i64 k.key.dst.k, .int .i64 k.key.dst.a, .int .i64 k.key.dst.b, .int .i64 k.key.dst.c, .int .i64 k.key.dst.d, .int .i64 k.key.proto, .int .i64 k.key.sport, .int .i64 k.key.dport]), .val (.int .i64 (P : Int)), .val (.pointer (some ⟨g, o + P * 16, none⟩)), .val (.pointer (some ⟨g, o + P * 16, none⟩)), .val (.bool false), .val (.bool true), .bit true, .val (.agg #[.int .i64 s, .slice (some ⟨g, o, none⟩) n c]), .val (.int .i64 (usedN cs : Int)), .val (.agg #[.int .i64 s, .slice (some ⟨g, o, none⟩) n c]), .val (.int .i64 ((n / 4 * 3 : Nat) : Int)), .val (.bool true)]) (by kernel_rfl) (by kernel_rfl) (by kernel_rfl) rfl rfl ?_ ?_
  · intro j o hj ho hr a' v K' hx hnd hB hK
    match j, hj, ho, hr with
    | 0, _, ho, _ =>
      obtain rfl := Option.some.inj ho
      have h0 : a'.eval (.tmp 3) = .pointer (some ⟨w.heap.size, 0, none⟩) := (hx 3 (by decide)).trans rfl
      exact f_tab1 _ _ rfl h0 (hK _ _ rfl (Below.refl _ _))
    | 1, _, ho, _ =>
      obtain rfl := Option.some.inj ho
      have h0 : a'.eval (.tmp 23) = .pointer (some ⟨w.heap.size, 1, none⟩) := (gds_of hnd 0 23 (by kernel_rfl) :)
      exact t_sl _ _ _ _ rfl h0 (K.cell (K.below hB p3.out) 1 _ rfl) (hK _ _ rfl (Below.refl _ _))
    | 2, _, ho, _ =>
      obtain rfl := Option.some.inj ho
      have h0 : a'.eval (.tmp 3) = .pointer (some ⟨w.heap.size, 0, none⟩) := (hx 3 (by decide)).trans rfl
      exact r_tab _ _ _ _ rfl h0 (K.below hB p3.out) (hK _ _ rfl (Below.refl _ _))
    | 3, _, ho, _ =>
      obtain rfl := Option.some.inj ho
      have h0 : a'.eval (.tmp 4) = .pointer (some ⟨w.heap.size + 1, 0, none⟩) := (hx 4 (by decide)).trans rfl
      exact r_fk _ _ k rfl h0 (K.below hB q3.out) (hK _ _ rfl (Below.refl _ _))
    | 4, _, ho, _ =>
      obtain rfl := Option.some.inj ho
      have h0 : a'.eval (.tmp 25) = .agg #[.int .i64 s, .slice (some ⟨g, o, none⟩) n c] := (gds_of hnd 2 25 (by kernel_rfl) :)
      have h1 : a'.eval (.tmp 26) = .agg #[.int .i64 k.tenant, .int .i64 k.key.src.k, .int .i64 k.key.src.a, .int .i64 k.key.src.b, .int .i64 k.key.src.c, .int .i64 k.key.src.d, .int .i64 k.key.dst.k, .int .i64 k.key.dst.a, .int .i64 k.key.dst.b, .int .i64 k.key.dst.c, .int .i64 k.key.dst.d, .int .i64 k.key.proto, .int .i64 k.key.sport, .int .i64 k.key.dport] := (gds_of hnd 3 26 (by kernel_rfl) :)
      refine u_probed _ _ _ _ _ rfl h0 h1 (Calls.mono (probedI s (some ⟨g, o, none⟩) n c cs _ (HX.out.on (bthen B3.out hB)) HL.out k HS.out HK.out (by omega) (by omega)) ?_)
      rintro e' v' ⟨rfl, b6⟩
      rw [HPR.out]
      exact ⟨_, rfl, hK _ _ rfl b6⟩
    | 5, _, ho, _ =>
      obtain rfl := Option.some.inj ho
      have h0 : a'.eval (.tmp 24) = .slice (some ⟨g, o, none⟩) n c := (gds_of hnd 1 24 (by kernel_rfl) :)
      have h1 : a'.eval (.tmp 27) = .int .i64 (P : Int) := (gds_of hnd 4 27 (by kernel_rfl) :)
      exact idx_ce _ _ _ _ _ _ _ rfl h0 h1 hPn (hK _ _ rfl (Below.refl _ _))
    | 6, _, ho, _ =>
      obtain rfl := Option.some.inj ho
      have h0 : a'.eval (.tmp 28) = .pointer (some ⟨g, o + P * 16, none⟩) := (gds_of hnd 5 28 (by kernel_rfl) :)
      exact f_ce0 _ _ _ rfl h0 (hK _ _ rfl (Below.refl _ _))
    | 7, _, ho, _ =>
      obtain rfl := Option.some.inj ho
      have h0 : a'.eval (.tmp 29) = .pointer (some ⟨g, o + P * 16, none⟩) := (gds_of hnd 6 29 (by kernel_rfl) :)
      exact t_bool _ _ _ _ rfl h0 (HC.out _ (bthen B3.out hB)) (hK _ _ rfl (Below.refl _ _))
    | 8, _, ho, _ =>
      obtain rfl := Option.some.inj ho
      have h0 : a'.eval (.tmp 30) = .bool false := (gds_of hnd 7 30 (by kernel_rfl) :)
      exact t_not _ false rfl h0 (hK _ _ rfl (Below.refl _ _))
    | 9, _, ho, _ =>
      obtain rfl := Option.some.inj ho
      have h0 : a'.eval (.tmp 31) = .bool true := (gds_of hnd 8 31 (by kernel_rfl) :)
      exact t_mv _ _ rfl h0 (hK _ _ rfl (Below.refl _ _))
    | 10, _, ho, _ =>
      obtain rfl := Option.some.inj ho
      have h0 : a'.eval (.tmp 3) = .pointer (some ⟨w.heap.size, 0, none⟩) := (hx 3 (by decide)).trans rfl
      exact r_tab _ _ _ _ rfl h0 (K.below hB p3.out) (hK _ _ rfl (Below.refl _ _))
    | 11, _, ho, _ =>
      obtain rfl := Option.some.inj ho
      have h0 : a'.eval (.tmp 33) = .agg #[.int .i64 s, .slice (some ⟨g, o, none⟩) n c] := (gds_of hnd 10 33 (by kernel_rfl) :)
      refine u_usedIn _ _ _ rfl h0 (Calls.mono (usedInI s (some ⟨g, o, none⟩) n c cs _ (HX.out.on (bthen B3.out hB)) HL.out hn) ?_)
      rintro e' v' ⟨rfl, b6⟩
      exact ⟨_, rfl, hK _ _ rfl b6⟩
    | 12, _, ho, _ =>
      obtain rfl := Option.some.inj ho
      have h0 : a'.eval (.tmp 3) = .pointer (some ⟨w.heap.size, 0, none⟩) := (hx 3 (by decide)).trans rfl
      exact r_tab _ _ _ _ rfl h0 (K.below hB p3.out) (hK _ _ rfl (Below.refl _ _))
    | 13, _, ho, _ =>
      obtain rfl := Option.some.inj ho
      have h0 : a'.eval (.tmp 35) = .agg #[.int .i64 s, .slice (some ⟨g, o, none⟩) n c] := (gds_of hnd 12 35 (by kernel_rfl) :)
      refine u_roomOf _ _ _ rfl h0 (Calls.mono (roomOfI s (some ⟨g, o, none⟩) n c _ hn) ?_)
      rintro e' v' ⟨rfl, b6⟩
      exact ⟨_, rfl, hK _ _ rfl b6⟩
    | 14, _, ho, _ =>
      obtain rfl := Option.some.inj ho
      have h0 : a'.eval (.tmp 34) = .int .i64 (usedN cs : Int) := (gds_of hnd 11 34 (by kernel_rfl) :)
      have h1 : a'.eval (.tmp 36) = .int .i64 ((n / 4 * 3 : Nat) : Int) := (gds_of hnd 13 36 (by kernel_rfl) :)
      exact t_eqlT _ _ _ _ true rfl h0 h1 H3.out (hK _ _ rfl (Below.refl _ _))
    | j + 15, hj, _, _ => omega
  · intro f v hf hB
    have e0 : f 0 = (.pointer (some ⟨w.heap.size, 1, none⟩)) := hf (0, 23) (by decide)
    have e1 : f 1 = (.slice (some ⟨g, o, none⟩) n c) := hf (1, 24) (by decide)
    have e2 : f 2 = (.agg #[.int .i64 s, .slice (some ⟨g, o, none⟩) n c]) := hf (2, 25) (by decide)
    have e3 : f 3 = (.agg #[.int .i64 k.tenant, .int .i64 k.key.src.k, .int .i64 k.key.src.a, .int .i64 k.key.src.b, .int .i64 k.key.src.c, .int .i64 k.key.src.d, .int .i64 k.key.dst.k, .int .i64 k.key.dst.a, .int .i64 k.key.dst.b, .int .i64 k.key.dst.c, .int .i64 k.key.dst.d, .int .i64 k.key.proto, .int .i64 k.key.sport, .int .i64 k.key.dport]) := hf (3, 26) (by decide)
    have e4 : f 4 = (.int .i64 (P : Int)) := hf (4, 27) (by decide)
    have e5 : f 5 = (.pointer (some ⟨g, o + P * 16, none⟩)) := hf (5, 28) (by decide)
    have e6 : f 6 = (.pointer (some ⟨g, o + P * 16, none⟩)) := hf (6, 29) (by decide)
    have e7 : f 7 = (.bool false) := hf (7, 30) (by decide)
    have e8 : f 8 = (.bool true) := hf (8, 31) (by decide)
    have e9 : f 9 = (.bool true) := hf (9, 32) (by decide)
    have e10 : f 10 = (.agg #[.int .i64 s, .slice (some ⟨g, o, none⟩) n c]) := hf (10, 33) (by decide)
    have e11 : f 11 = (.int .i64 (usedN cs : Int)) := hf (11, 34) (by decide)
    have e12 : f 12 = (.agg #[.int .i64 s, .slice (some ⟨g, o, none⟩) n c]) := hf (12, 35) (by decide)
    have e13 : f 13 = (.int .i64 ((n / 4 * 3 : Nat) : Int)) := hf (13, 36) (by decide)
    have e14 : f 14 = (.bool true) := hf (14, 37) (by decide)
    simp only [List.foldl_cons, List.foldl_nil, List.drop_succ_cons, List.drop_zero, e0, e1, e2, e3, e4, e5, e6, e7, e8, e9, e10, e11, e12, e13, e14]
    clear e0 e1 e2 e3 e4 e5 e6 e7 e8 e9 e10 e11 e12 e13 e14 hf
    go_simp
    have r4 := Lib.hid (K.below hB r3.out)
    have B4 := Lib.hid (bthen B3.out hB)
    clear hB
    go_wp2_with (with_reducible refine storeTb rfl _ _ rfl (w.heap.size + 2) rfl rfl r4.out ?_)
    (try simp only [Exit.inBlock, Exit.then])
    refine bodyPost_ret (v := .tuple #[.agg #[.int .i64 0, .slice none 0 0], .int .i64 2]) (resTbN Try.results41 _ _ (w.heap.size + 2) rfl (setRow_heap _ _ _ _ _ _ r4.out)) rfl ⟨_, by rw [HR.out], by rw [HR.out]; exact TOwn.zero _ _, setRowBT B4.out (by omega) _⟩

set_option maxHeartbeats 4000000 in
theorem tabPutI_4 (s : Int) (A : Option Addr) (n c : Nat) (cs : List Ce) (w : World) (hx : RV w w.heap.size A (fl Ce.cells cs)) (hl : cs.length = n) (hn : n ≤ 1048576) (k : Fk) (nv : Int) (ho : tabOk s cs = true) (hk : k.ok = true) (hv : btw 0 nv 1000000000000 = true) (P : Nat) (hpr : probeT s cs k = some P) (hu : (ceAt cs P).used = true) : Calls Try.prog 41 #[.agg #[.int .i64 s, .slice A n c], .agg #[.int .i64 k.tenant, .int .i64 k.key.src.k, .int .i64 k.key.src.a, .int .i64 k.key.src.b, .int .i64 k.key.src.c, .int .i64 k.key.src.d, .int .i64 k.key.dst.k, .int .i64 k.key.dst.a, .int .i64 k.key.dst.b, .int .i64 k.key.dst.c, .int .i64 k.key.dst.d, .int .i64 k.key.proto, .int .i64 k.key.sport, .int .i64 k.key.dport], .int .i64 nv] w fun e w' => ∃ v, e = .returned (.tuple #[v, .int .i64 (tabPut s cs k nv).2]) ∧ TOwn w.heap.size (tabPut s cs k nv).1 w' v ∧ Below w.heap.size w w' := by
  have HX := Lib.hid hx
  have HL := Lib.hid hl
  have HR := Lib.hid (tabPut_yes ho hk hv hpr (.inl hu))
  have hP : P < cs.length := probe_lt hpr
  have hlen := tab_len ho
  rw [hl] at hlen
  have HO := Lib.hid ho
  have HK := Lib.hid hk
  have HV := Lib.hid hv
  have HS := Lib.hid (tabOk_parts ho).1
  have HPR := Lib.hid (show idx (probeT s cs k) = (P : Int) by rw [hpr]; rfl)
  have HP := Lib.hid hpr
  obtain ⟨g, o, rfl, hg, hc0⟩ := HX.out.flat Ce.cells_length (by omega) hP
  have hPn : P < n := by rw [← hl]; exact hP
  have HC := Lib.hid (show ∀ v, Below w.heap.size w v → v.cell? ⟨g, o + P * 16, none⟩ = some (.bool true) from fun v hv => (hv.cell (p := ⟨g, o + P * 16, none⟩) hg).trans ((hc0 0 _ rfl).trans (congrArg some (congrArg Value.bool (by rw [← ceAt_get hP]; exact hu)))))
  clear ho hk hv hpr hu hx hl hP hc0 hg
  have p0 : Hid ((((w.alloc (.cells #[.int .i64 s, .slice (some ⟨g, o, none⟩) n c] 40)).alloc (.cells #[.int .i64 k.tenant, .int .i64 k.key.src.k, .int .i64 k.key.src.a, .int .i64 k.key.src.b, .int .i64 k.key.src.c, .int .i64 k.key.src.d, .int .i64 k.key.dst.k, .int .i64 k.key.dst.a, .int .i64 k.key.dst.b, .int .i64 k.key.dst.c, .int .i64 k.key.dst.d, .int .i64 k.key.proto, .int .i64 k.key.sport, .int .i64 k.key.dport] 33)).alloc (.cells #[.int .i64 0, .slice none 0 0] 40)).heap[w.heap.size]? = some (.cells #[.int .i64 s, .slice (some ⟨g, o, none⟩) n c] 40 (0, 0))) := Lib.hid (K.old (K.old (K.new w _) _) _)
  have q0 : Hid ((((w.alloc (.cells #[.int .i64 s, .slice (some ⟨g, o, none⟩) n c] 40)).alloc (.cells #[.int .i64 k.tenant, .int .i64 k.key.src.k, .int .i64 k.key.src.a, .int .i64 k.key.src.b, .int .i64 k.key.src.c, .int .i64 k.key.src.d, .int .i64 k.key.dst.k, .int .i64 k.key.dst.a, .int .i64 k.key.dst.b, .int .i64 k.key.dst.c, .int .i64 k.key.dst.d, .int .i64 k.key.proto, .int .i64 k.key.sport, .int .i64 k.key.dport] 33)).alloc (.cells #[.int .i64 0, .slice none 0 0] 40)).heap[w.heap.size + 1]? = some (.cells #[.int .i64 k.tenant, .int .i64 k.key.src.k, .int .i64 k.key.src.a, .int .i64 k.key.src.b, .int .i64 k.key.src.c, .int .i64 k.key.src.d, .int .i64 k.key.dst.k, .int .i64 k.key.dst.a, .int .i64 k.key.dst.b, .int .i64 k.key.dst.c, .int .i64 k.key.dst.d, .int .i64 k.key.proto, .int .i64 k.key.sport, .int .i64 k.key.dport] 33 (0, 0))) := Lib.hid (K.old (K.newAt (by simp)) _)
  have r0 : Hid ((((w.alloc (.cells #[.int .i64 s, .slice (some ⟨g, o, none⟩) n c] 40)).alloc (.cells #[.int .i64 k.tenant, .int .i64 k.key.src.k, .int .i64 k.key.src.a, .int .i64 k.key.src.b, .int .i64 k.key.src.c, .int .i64 k.key.src.d, .int .i64 k.key.dst.k, .int .i64 k.key.dst.a, .int .i64 k.key.dst.b, .int .i64 k.key.dst.c, .int .i64 k.key.dst.d, .int .i64 k.key.proto, .int .i64 k.key.sport, .int .i64 k.key.dport] 33)).alloc (.cells #[.int .i64 0, .slice none 0 0] 40)).heap[w.heap.size + 2]? = some (.cells #[.int .i64 0, .slice none 0 0] 40 (0, 0))) := Lib.hid (K.newAt (by simp))
  have B0 : Hid (Below w.heap.size w (((w.alloc (.cells #[.int .i64 s, .slice (some ⟨g, o, none⟩) n c] 40)).alloc (.cells #[.int .i64 k.tenant, .int .i64 k.key.src.k, .int .i64 k.key.src.a, .int .i64 k.key.src.b, .int .i64 k.key.src.c, .int .i64 k.key.src.d, .int .i64 k.key.dst.k, .int .i64 k.key.dst.a, .int .i64 k.key.dst.b, .int .i64 k.key.dst.c, .int .i64 k.key.dst.d, .int .i64 k.key.proto, .int .i64 k.key.sport, .int .i64 k.key.dport] 33)).alloc (.cells #[.int .i64 0, .slice none 0 0] 40))) := Lib.hid (bthen (Joins.below_alloc2 w (.cells #[.int .i64 s, .slice (some ⟨g, o, none⟩) n c] 40) (.cells #[.int .i64 k.tenant, .int .i64 k.key.src.k, .int .i64 k.key.src.a, .int .i64 k.key.src.b, .int .i64 k.key.src.c, .int .i64 k.key.src.d, .int .i64 k.key.dst.k, .int .i64 k.key.dst.a, .int .i64 k.key.dst.b, .int .i64 k.key.dst.c, .int .i64 k.key.dst.d, .int .i64 k.key.proto, .int .i64 k.key.sport, .int .i64 k.key.dport] 33)) (Joins.below_alloc1 _ _))
  have t0 := K.cell p0.out 0 _ rfl
  have t1 := K.cell p0.out 1 _ rfl
  go_enter Try.func41, Try.ntmps41
  go_wp2_with fail
  refine Calls.mono (tabOkIB s (some ⟨g, o, none⟩) n c cs _ (HX.out.on B0.out) HL.out hn true HO.out) ?_
  rintro e w1 ⟨rfl, b1⟩
  have p1 := Lib.hid (K.below b1 p0.out)
  have q1 := Lib.hid (K.below b1 q0.out)
  have r1 := Lib.hid (K.below b1 r0.out)
  have B1 := Lib.hid (bthen B0.out b1)
  clear b1 p0 q0 r0 t0 t1 B0
  obtain ⟨z0, z1, z2, z3, z4, z5, z6, z7, z8, z9, z10, z11, z12, z13⟩ := K.fk q1.out
  go_wp2_with fail
  refine Calls.mono (fkOkIB k true HK.out _) ?_
  rintro e w2 ⟨rfl, b2⟩
  have p2 := Lib.hid (K.below b2 p1.out)
  have q2 := Lib.hid (K.below b2 q1.out)
  have r2 := Lib.hid (K.below b2 r1.out)
  have B2 := Lib.hid (bthen B1.out b2)
  clear b2 p1 q1 r1 z0 z1 z2 z3 z4 z5 z6 z7 z8 z9 z10 z11 z12 z13 B1
  go_wp2_with fail
  refine Calls.mono (ruleW 0 nv 1000000000000 true HV.out _) ?_
  rintro e w3 ⟨rfl, b3⟩
  have p3 := Lib.hid (K.below b3 p2.out)
  have q3 := Lib.hid (K.below b3 q2.out)
  have r3 := Lib.hid (K.below b3 r2.out)
  have B3 := Lib.hid (bthen B2.out b3)
  clear b3 p2 q2 r2  B2
  go_wp2_with fail
  refine wp_region_guards (by kernel_rfl) 15 47 [(0, 23), (1, 24), (2, 25), (3, 26), (4, 27), (5, 28), (6, 29), (7, 30), (8, 31), (9, 32), (10, 33), (11, 34), (12, 35), (13, 36), (14, 37)] _ ([.val (.pointer (some ⟨w.heap.size, 1, none⟩)), .val (.slice (some ⟨g, o, none⟩) n c), .val (.agg #[.int .i64 s, .slice (some ⟨g, o, none⟩) n c]), .val (.agg #[.int .i64 k.tenant, .int .i64 k.key.src.k, .int .i64 k.key.src.a, .int .i64 k.key.src.b, .int .i64 k.key.src.c, .int .i64 k.key.src.d, .int .i64 k.key.dst.k, .int .i64 k.key.dst.a, .int .i64 k.key.dst.b, .int .i64 k.key.dst.c, .int .i64 k.key.dst.d, .int .i64 k.key.proto, .int .i64 k.key.sport, .int .i64 k.key.dport]), .val (.int .i64 (P : Int)), .val (.pointer (some ⟨g, o + P * 16, none⟩)), .val (.pointer (some ⟨g, o + P * 16, none⟩)), .val (.bool true), .val (.bool false), .bit false, .skip, .skip, .skip, .skip, .skip]) (by kernel_rfl) (by kernel_rfl) (by kernel_rfl) rfl rfl ?_ ?_
  · intro j o hj ho hr a' v K' hx hnd hB hK
    match j, hj, ho, hr with
    | 0, _, ho, _ =>
      obtain rfl := Option.some.inj ho
      have h0 : a'.eval (.tmp 3) = .pointer (some ⟨w.heap.size, 0, none⟩) := (hx 3 (by decide)).trans rfl
      exact f_tab1 _ _ rfl h0 (hK _ _ rfl (Below.refl _ _))
    | 1, _, ho, _ =>
      obtain rfl := Option.some.inj ho
      have h0 : a'.eval (.tmp 23) = .pointer (some ⟨w.heap.size, 1, none⟩) := (gds_of hnd 0 23 (by kernel_rfl) :)
      exact t_sl _ _ _ _ rfl h0 (K.cell (K.below hB p3.out) 1 _ rfl) (hK _ _ rfl (Below.refl _ _))
    | 2, _, ho, _ =>
      obtain rfl := Option.some.inj ho
      have h0 : a'.eval (.tmp 3) = .pointer (some ⟨w.heap.size, 0, none⟩) := (hx 3 (by decide)).trans rfl
      exact r_tab _ _ _ _ rfl h0 (K.below hB p3.out) (hK _ _ rfl (Below.refl _ _))
    | 3, _, ho, _ =>
      obtain rfl := Option.some.inj ho
      have h0 : a'.eval (.tmp 4) = .pointer (some ⟨w.heap.size + 1, 0, none⟩) := (hx 4 (by decide)).trans rfl
      exact r_fk _ _ k rfl h0 (K.below hB q3.out) (hK _ _ rfl (Below.refl _ _))
    | 4, _, ho, _ =>
      obtain rfl := Option.some.inj ho
      have h0 : a'.eval (.tmp 25) = .agg #[.int .i64 s, .slice (some ⟨g, o, none⟩) n c] := (gds_of hnd 2 25 (by kernel_rfl) :)
      have h1 : a'.eval (.tmp 26) = .agg #[.int .i64 k.tenant, .int .i64 k.key.src.k, .int .i64 k.key.src.a, .int .i64 k.key.src.b, .int .i64 k.key.src.c, .int .i64 k.key.src.d, .int .i64 k.key.dst.k, .int .i64 k.key.dst.a, .int .i64 k.key.dst.b, .int .i64 k.key.dst.c, .int .i64 k.key.dst.d, .int .i64 k.key.proto, .int .i64 k.key.sport, .int .i64 k.key.dport] := (gds_of hnd 3 26 (by kernel_rfl) :)
      refine u_probed _ _ _ _ _ rfl h0 h1 (Calls.mono (probedI s (some ⟨g, o, none⟩) n c cs _ (HX.out.on (bthen B3.out hB)) HL.out k HS.out HK.out (by omega) (by omega)) ?_)
      rintro e' v' ⟨rfl, b6⟩
      rw [HPR.out]
      exact ⟨_, rfl, hK _ _ rfl b6⟩
    | 5, _, ho, _ =>
      obtain rfl := Option.some.inj ho
      have h0 : a'.eval (.tmp 24) = .slice (some ⟨g, o, none⟩) n c := (gds_of hnd 1 24 (by kernel_rfl) :)
      have h1 : a'.eval (.tmp 27) = .int .i64 (P : Int) := (gds_of hnd 4 27 (by kernel_rfl) :)
      exact idx_ce _ _ _ _ _ _ _ rfl h0 h1 hPn (hK _ _ rfl (Below.refl _ _))
    | 6, _, ho, _ =>
      obtain rfl := Option.some.inj ho
      have h0 : a'.eval (.tmp 28) = .pointer (some ⟨g, o + P * 16, none⟩) := (gds_of hnd 5 28 (by kernel_rfl) :)
      exact f_ce0 _ _ _ rfl h0 (hK _ _ rfl (Below.refl _ _))
    | 7, _, ho, _ =>
      obtain rfl := Option.some.inj ho
      have h0 : a'.eval (.tmp 29) = .pointer (some ⟨g, o + P * 16, none⟩) := (gds_of hnd 6 29 (by kernel_rfl) :)
      exact t_bool _ _ _ _ rfl h0 (HC.out _ (bthen B3.out hB)) (hK _ _ rfl (Below.refl _ _))
    | 8, _, ho, _ =>
      obtain rfl := Option.some.inj ho
      have h0 : a'.eval (.tmp 30) = .bool true := (gds_of hnd 7 30 (by kernel_rfl) :)
      exact t_not _ true rfl h0 (hK _ _ rfl (Below.refl _ _))
    | 9, _, ho, _ =>
      obtain rfl := Option.some.inj ho
      have h0 : a'.eval (.tmp 31) = .bool false := (gds_of hnd 8 31 (by kernel_rfl) :)
      exact t_mv _ _ rfl h0 (hK _ _ rfl (Below.refl _ _))
    | 10, _, ho, hr =>
      obtain rfl := Option.some.inj ho
      exact Bool.noConfusion (show false = true from hr)
    | 11, _, ho, hr =>
      obtain rfl := Option.some.inj ho
      exact Bool.noConfusion (show false = true from hr)
    | 12, _, ho, hr =>
      obtain rfl := Option.some.inj ho
      exact Bool.noConfusion (show false = true from hr)
    | 13, _, ho, hr =>
      obtain rfl := Option.some.inj ho
      exact Bool.noConfusion (show false = true from hr)
    | 14, _, ho, hr =>
      obtain rfl := Option.some.inj ho
      exact Bool.noConfusion (show false = true from hr)
    | j + 15, hj, _, _ => omega
  · intro f v hf hB
    have e0 : f 0 = (.pointer (some ⟨w.heap.size, 1, none⟩)) := hf (0, 23) (by decide)
    have e1 : f 1 = (.slice (some ⟨g, o, none⟩) n c) := hf (1, 24) (by decide)
    have e2 : f 2 = (.agg #[.int .i64 s, .slice (some ⟨g, o, none⟩) n c]) := hf (2, 25) (by decide)
    have e3 : f 3 = (.agg #[.int .i64 k.tenant, .int .i64 k.key.src.k, .int .i64 k.key.src.a, .int .i64 k.key.src.b, .int .i64 k.key.src.c, .int .i64 k.key.src.d, .int .i64 k.key.dst.k, .int .i64 k.key.dst.a, .int .i64 k.key.dst.b, .int .i64 k.key.dst.c, .int .i64 k.key.dst.d, .int .i64 k.key.proto, .int .i64 k.key.sport, .int .i64 k.key.dport]) := hf (3, 26) (by decide)
    have e4 : f 4 = (.int .i64 (P : Int)) := hf (4, 27) (by decide)
    have e5 : f 5 = (.pointer (some ⟨g, o + P * 16, none⟩)) := hf (5, 28) (by decide)
    have e6 : f 6 = (.pointer (some ⟨g, o + P * 16, none⟩)) := hf (6, 29) (by decide)
    have e7 : f 7 = (.bool true) := hf (7, 30) (by decide)
    have e8 : f 8 = (.bool false) := hf (8, 31) (by decide)
    have e9 : f 9 = (.bool false) := hf (9, 32) (by decide)
    have e10 : f 10 = undef := hf (10, 33) (by decide)
    have e11 : f 11 = undef := hf (11, 34) (by decide)
    have e12 : f 12 = undef := hf (12, 35) (by decide)
    have e13 : f 13 = undef := hf (13, 36) (by decide)
    have e14 : f 14 = undef := hf (14, 37) (by decide)
    simp only [List.foldl_cons, List.foldl_nil, List.drop_succ_cons, List.drop_zero, e0, e1, e2, e3, e4, e5, e6, e7, e8, e9, e10, e11, e12, e13, e14]
    clear e0 e1 e2 e3 e4 e5 e6 e7 e8 e9 e10 e11 e12 e13 e14 hf
    go_simp
    have p4 := Lib.hid (K.below hB p3.out)
    have q4 := Lib.hid (K.below hB q3.out)
    have r4 := Lib.hid (K.below hB r3.out)
    have B4 := Lib.hid (bthen B3.out hB)
    clear hB p3 q3 r3 B3 HC
    obtain ⟨⟨t0, t1⟩, _⟩ := K.row2 p4.out
    go_wp2_with fail
    refine Calls.mono (ownI s g o n c cs _ (HX.out.on B4.out) HL.out hn) ?_
    rintro e w5 ⟨D, d, rfl, ow, b5⟩
    obtain ⟨g4, rfl⟩ : ∃ g, D = some ⟨g, 0, none⟩ := by
      rcases ow.2 with ⟨_, h0⟩ | ⟨g, _, _, hv, _⟩
      · omega
      · injection hv with hA _ _
        exact ⟨g, hA⟩
    have q6 := Lib.hid (K.old (K.below b5 q4.out) (.cells #[.int .i64 s, .slice (some ⟨g4, 0, none⟩) n d] 40))
    have r6 := Lib.hid (K.old (K.below b5 r4.out) (.cells #[.int .i64 s, .slice (some ⟨g4, 0, none⟩) n d] 40))
    have x6 := Lib.hid (K.new w5 (.cells #[.int .i64 s, .slice (some ⟨g4, 0, none⟩) n d] 40))
    have O6 := Lib.hid (show (w5.alloc (.cells #[.int .i64 s, .slice (some ⟨g4, 0, none⟩) n d] 40)).ownsRow w.heap.size 93 16 (.slice (some ⟨g4, 0, none⟩) n d) n (fl Ce.cells cs) from own_base (own_below ow (Joins.below_alloc1 w5 _)) B4.out.size)
    have B6 := Lib.hid (bthen (bthen B4.out b5) (Joins.below_alloc1 w5 (.cells #[.int .i64 s, .slice (some ⟨g4, 0, none⟩) n d] 40)))
    clear ow b5 t0 t1 p4 q4 r4 B4
    obtain ⟨⟨t0, t1⟩, _⟩ := K.row2 x6.out
    obtain ⟨z0, z1, z2, z3, z4, z5, z6, z7, z8, z9, z10, z11, z12, z13⟩ := K.fk q6.out
    have PC := Lib.hid (fun (v : World) (hv : v.ownsRow w.heap.size 93 16 (.slice (some ⟨g4, 0, none⟩) n d) n (fl Ce.cells cs)) => putI s g4 n d w.heap.size cs k nv P v hv HL.out (by omega) (by omega) HS.out HK.out HP.out)
    go_wp2_with fail
    refine Calls.mono (PC.out _ O6.out) ?_
    rintro e w7 ⟨⟨u, rfl⟩, o7, gr⟩
    have O7 := Lib.hid o7
    have X7 := Lib.hid (K.kept gr x6.out (fun q hq => own_neB O6.out x6.out (by decide) q hq))
    have R7 := Lib.hid (K.kept gr r6.out (fun q hq => own_neB O6.out r6.out (by decide) q hq))
    have B7 := Lib.hid (bgrown B6.out gr (fun q hq => (O6.out.lt q hq).1))
    clear gr o7 t0 t1 x6 r6 q6 B6 PC z0 z1 z2 z3 z4 z5 z6 z7 z8 z9 z10 z11 z12 z13
    obtain ⟨⟨t0, t1⟩, _⟩ := K.row2 X7.out
    go_wp2_with (with_reducible refine storeTb rfl _ _ rfl (w.heap.size + 2) rfl rfl R7.out ?_)
    (try simp only [Exit.inBlock, Exit.then])
    refine bodyPost_ret (v := .tuple #[.agg #[.int .i64 s, .slice (some ⟨g4, 0, none⟩) n d], .int .i64 0]) (resTbN Try.results41 _ _ (w.heap.size + 2) rfl (setRow_heap _ _ _ _ _ _ R7.out)) rfl ⟨_, by rw [HR.out], ?_, setRowBT B7.out (by omega) _⟩
    rw [HR.out]
    exact ⟨_, n, d, rfl, own_grown O7.out (setRow_grownT _ _ _) (fun q hq e => own_neB O7.out R7.out (by decide) q hq (Option.some.inj e))⟩

set_option maxHeartbeats 4000000 in
theorem tabPutI_5 (s : Int) (A : Option Addr) (n c : Nat) (cs : List Ce) (w : World) (hx : RV w w.heap.size A (fl Ce.cells cs)) (hl : cs.length = n) (hn : n ≤ 1048576) (k : Fk) (nv : Int) (ho : tabOk s cs = true) (hk : k.ok = true) (hv : btw 0 nv 1000000000000 = true) (P : Nat) (hpr : probeT s cs k = some P) (hu : (ceAt cs P).used = false) (hf : ¬ usedN cs = cs.length / 4 * 3) : Calls Try.prog 41 #[.agg #[.int .i64 s, .slice A n c], .agg #[.int .i64 k.tenant, .int .i64 k.key.src.k, .int .i64 k.key.src.a, .int .i64 k.key.src.b, .int .i64 k.key.src.c, .int .i64 k.key.src.d, .int .i64 k.key.dst.k, .int .i64 k.key.dst.a, .int .i64 k.key.dst.b, .int .i64 k.key.dst.c, .int .i64 k.key.dst.d, .int .i64 k.key.proto, .int .i64 k.key.sport, .int .i64 k.key.dport], .int .i64 nv] w fun e w' => ∃ v, e = .returned (.tuple #[v, .int .i64 (tabPut s cs k nv).2]) ∧ TOwn w.heap.size (tabPut s cs k nv).1 w' v ∧ Below w.heap.size w w' := by
  have HX := Lib.hid hx
  have HL := Lib.hid hl
  have HR := Lib.hid (tabPut_yes ho hk hv hpr (.inr hf))
  have hP : P < cs.length := probe_lt hpr
  have hlen := tab_len ho
  rw [hl] at hlen
  have HO := Lib.hid ho
  have HK := Lib.hid hk
  have HV := Lib.hid hv
  have HS := Lib.hid (tabOk_parts ho).1
  have HPR := Lib.hid (show idx (probeT s cs k) = (P : Int) by rw [hpr]; rfl)
  have HP := Lib.hid hpr
  obtain ⟨g, o, rfl, hg, hc0⟩ := HX.out.flat Ce.cells_length (by omega) hP
  have hPn : P < n := by rw [← hl]; exact hP
  have HC := Lib.hid (show ∀ v, Below w.heap.size w v → v.cell? ⟨g, o + P * 16, none⟩ = some (.bool false) from fun v hv => (hv.cell (p := ⟨g, o + P * 16, none⟩) hg).trans ((hc0 0 _ rfl).trans (congrArg some (congrArg Value.bool (by rw [← ceAt_get hP]; exact hu)))))
  have H3 := Lib.hid (show decide ((usedN cs : Int) = ((n / 4 * 3 : Nat) : Int)) = false from decide_eq_false (by rw [hl] at hf; omega))
  clear ho hk hv hpr hu hx hl hP hc0 hg hf
  have p0 : Hid ((((w.alloc (.cells #[.int .i64 s, .slice (some ⟨g, o, none⟩) n c] 40)).alloc (.cells #[.int .i64 k.tenant, .int .i64 k.key.src.k, .int .i64 k.key.src.a, .int .i64 k.key.src.b, .int .i64 k.key.src.c, .int .i64 k.key.src.d, .int .i64 k.key.dst.k, .int .i64 k.key.dst.a, .int .i64 k.key.dst.b, .int .i64 k.key.dst.c, .int .i64 k.key.dst.d, .int .i64 k.key.proto, .int .i64 k.key.sport, .int .i64 k.key.dport] 33)).alloc (.cells #[.int .i64 0, .slice none 0 0] 40)).heap[w.heap.size]? = some (.cells #[.int .i64 s, .slice (some ⟨g, o, none⟩) n c] 40 (0, 0))) := Lib.hid (K.old (K.old (K.new w _) _) _)
  have q0 : Hid ((((w.alloc (.cells #[.int .i64 s, .slice (some ⟨g, o, none⟩) n c] 40)).alloc (.cells #[.int .i64 k.tenant, .int .i64 k.key.src.k, .int .i64 k.key.src.a, .int .i64 k.key.src.b, .int .i64 k.key.src.c, .int .i64 k.key.src.d, .int .i64 k.key.dst.k, .int .i64 k.key.dst.a, .int .i64 k.key.dst.b, .int .i64 k.key.dst.c, .int .i64 k.key.dst.d, .int .i64 k.key.proto, .int .i64 k.key.sport, .int .i64 k.key.dport] 33)).alloc (.cells #[.int .i64 0, .slice none 0 0] 40)).heap[w.heap.size + 1]? = some (.cells #[.int .i64 k.tenant, .int .i64 k.key.src.k, .int .i64 k.key.src.a, .int .i64 k.key.src.b, .int .i64 k.key.src.c, .int .i64 k.key.src.d, .int .i64 k.key.dst.k, .int .i64 k.key.dst.a, .int .i64 k.key.dst.b, .int .i64 k.key.dst.c, .int .i64 k.key.dst.d, .int .i64 k.key.proto, .int .i64 k.key.sport, .int .i64 k.key.dport] 33 (0, 0))) := Lib.hid (K.old (K.newAt (by simp)) _)
  have r0 : Hid ((((w.alloc (.cells #[.int .i64 s, .slice (some ⟨g, o, none⟩) n c] 40)).alloc (.cells #[.int .i64 k.tenant, .int .i64 k.key.src.k, .int .i64 k.key.src.a, .int .i64 k.key.src.b, .int .i64 k.key.src.c, .int .i64 k.key.src.d, .int .i64 k.key.dst.k, .int .i64 k.key.dst.a, .int .i64 k.key.dst.b, .int .i64 k.key.dst.c, .int .i64 k.key.dst.d, .int .i64 k.key.proto, .int .i64 k.key.sport, .int .i64 k.key.dport] 33)).alloc (.cells #[.int .i64 0, .slice none 0 0] 40)).heap[w.heap.size + 2]? = some (.cells #[.int .i64 0, .slice none 0 0] 40 (0, 0))) := Lib.hid (K.newAt (by simp))
  have B0 : Hid (Below w.heap.size w (((w.alloc (.cells #[.int .i64 s, .slice (some ⟨g, o, none⟩) n c] 40)).alloc (.cells #[.int .i64 k.tenant, .int .i64 k.key.src.k, .int .i64 k.key.src.a, .int .i64 k.key.src.b, .int .i64 k.key.src.c, .int .i64 k.key.src.d, .int .i64 k.key.dst.k, .int .i64 k.key.dst.a, .int .i64 k.key.dst.b, .int .i64 k.key.dst.c, .int .i64 k.key.dst.d, .int .i64 k.key.proto, .int .i64 k.key.sport, .int .i64 k.key.dport] 33)).alloc (.cells #[.int .i64 0, .slice none 0 0] 40))) := Lib.hid (bthen (Joins.below_alloc2 w (.cells #[.int .i64 s, .slice (some ⟨g, o, none⟩) n c] 40) (.cells #[.int .i64 k.tenant, .int .i64 k.key.src.k, .int .i64 k.key.src.a, .int .i64 k.key.src.b, .int .i64 k.key.src.c, .int .i64 k.key.src.d, .int .i64 k.key.dst.k, .int .i64 k.key.dst.a, .int .i64 k.key.dst.b, .int .i64 k.key.dst.c, .int .i64 k.key.dst.d, .int .i64 k.key.proto, .int .i64 k.key.sport, .int .i64 k.key.dport] 33)) (Joins.below_alloc1 _ _))
  have t0 := K.cell p0.out 0 _ rfl
  have t1 := K.cell p0.out 1 _ rfl
  go_enter Try.func41, Try.ntmps41
  go_wp2_with fail
  refine Calls.mono (tabOkIB s (some ⟨g, o, none⟩) n c cs _ (HX.out.on B0.out) HL.out hn true HO.out) ?_
  rintro e w1 ⟨rfl, b1⟩
  have p1 := Lib.hid (K.below b1 p0.out)
  have q1 := Lib.hid (K.below b1 q0.out)
  have r1 := Lib.hid (K.below b1 r0.out)
  have B1 := Lib.hid (bthen B0.out b1)
  clear b1 p0 q0 r0 t0 t1 B0
  obtain ⟨z0, z1, z2, z3, z4, z5, z6, z7, z8, z9, z10, z11, z12, z13⟩ := K.fk q1.out
  go_wp2_with fail
  refine Calls.mono (fkOkIB k true HK.out _) ?_
  rintro e w2 ⟨rfl, b2⟩
  have p2 := Lib.hid (K.below b2 p1.out)
  have q2 := Lib.hid (K.below b2 q1.out)
  have r2 := Lib.hid (K.below b2 r1.out)
  have B2 := Lib.hid (bthen B1.out b2)
  clear b2 p1 q1 r1 z0 z1 z2 z3 z4 z5 z6 z7 z8 z9 z10 z11 z12 z13 B1
  go_wp2_with fail
  refine Calls.mono (ruleW 0 nv 1000000000000 true HV.out _) ?_
  rintro e w3 ⟨rfl, b3⟩
  have p3 := Lib.hid (K.below b3 p2.out)
  have q3 := Lib.hid (K.below b3 q2.out)
  have r3 := Lib.hid (K.below b3 r2.out)
  have B3 := Lib.hid (bthen B2.out b3)
  clear b3 p2 q2 r2  B2
  go_wp2_with fail
  refine wp_region_guards (by kernel_rfl) 15 47 [(0, 23), (1, 24), (2, 25), (3, 26), (4, 27), (5, 28), (6, 29), (7, 30), (8, 31), (9, 32), (10, 33), (11, 34), (12, 35), (13, 36), (14, 37)] _ ([.val (.pointer (some ⟨w.heap.size, 1, none⟩)), .val (.slice (some ⟨g, o, none⟩) n c), .val (.agg #[.int .i64 s, .slice (some ⟨g, o, none⟩) n c]), .val (.agg #[.int .i64 k.tenant, .int .i64 k.key.src.k, .int .i64 k.key.src.a, .int .i64 k.key.src.b, .int .i64 k.key.src.c, .int .i64 k.key.src.d, .int .i64 k.key.dst.k, .int .i64 k.key.dst.a, .int .i64 k.key.dst.b, .int .i64 k.key.dst.c, .int .i64 k.key.dst.d, .int .i64 k.key.proto, .int .i64 k.key.sport, .int .i64 k.key.dport]), .val (.int .i64 (P : Int)), .val (.pointer (some ⟨g, o + P * 16, none⟩)), .val (.pointer (some ⟨g, o + P * 16, none⟩)), .val (.bool false), .val (.bool true), .bit true, .val (.agg #[.int .i64 s, .slice (some ⟨g, o, none⟩) n c]), .val (.int .i64 (usedN cs : Int)), .val (.agg #[.int .i64 s, .slice (some ⟨g, o, none⟩) n c]), .val (.int .i64 ((n / 4 * 3 : Nat) : Int)), .val (.bool false)]) (by kernel_rfl) (by kernel_rfl) (by kernel_rfl) rfl rfl ?_ ?_
  · intro j o hj ho hr a' v K' hx hnd hB hK
    match j, hj, ho, hr with
    | 0, _, ho, _ =>
      obtain rfl := Option.some.inj ho
      have h0 : a'.eval (.tmp 3) = .pointer (some ⟨w.heap.size, 0, none⟩) := (hx 3 (by decide)).trans rfl
      exact f_tab1 _ _ rfl h0 (hK _ _ rfl (Below.refl _ _))
    | 1, _, ho, _ =>
      obtain rfl := Option.some.inj ho
      have h0 : a'.eval (.tmp 23) = .pointer (some ⟨w.heap.size, 1, none⟩) := (gds_of hnd 0 23 (by kernel_rfl) :)
      exact t_sl _ _ _ _ rfl h0 (K.cell (K.below hB p3.out) 1 _ rfl) (hK _ _ rfl (Below.refl _ _))
    | 2, _, ho, _ =>
      obtain rfl := Option.some.inj ho
      have h0 : a'.eval (.tmp 3) = .pointer (some ⟨w.heap.size, 0, none⟩) := (hx 3 (by decide)).trans rfl
      exact r_tab _ _ _ _ rfl h0 (K.below hB p3.out) (hK _ _ rfl (Below.refl _ _))
    | 3, _, ho, _ =>
      obtain rfl := Option.some.inj ho
      have h0 : a'.eval (.tmp 4) = .pointer (some ⟨w.heap.size + 1, 0, none⟩) := (hx 4 (by decide)).trans rfl
      exact r_fk _ _ k rfl h0 (K.below hB q3.out) (hK _ _ rfl (Below.refl _ _))
    | 4, _, ho, _ =>
      obtain rfl := Option.some.inj ho
      have h0 : a'.eval (.tmp 25) = .agg #[.int .i64 s, .slice (some ⟨g, o, none⟩) n c] := (gds_of hnd 2 25 (by kernel_rfl) :)
      have h1 : a'.eval (.tmp 26) = .agg #[.int .i64 k.tenant, .int .i64 k.key.src.k, .int .i64 k.key.src.a, .int .i64 k.key.src.b, .int .i64 k.key.src.c, .int .i64 k.key.src.d, .int .i64 k.key.dst.k, .int .i64 k.key.dst.a, .int .i64 k.key.dst.b, .int .i64 k.key.dst.c, .int .i64 k.key.dst.d, .int .i64 k.key.proto, .int .i64 k.key.sport, .int .i64 k.key.dport] := (gds_of hnd 3 26 (by kernel_rfl) :)
      refine u_probed _ _ _ _ _ rfl h0 h1 (Calls.mono (probedI s (some ⟨g, o, none⟩) n c cs _ (HX.out.on (bthen B3.out hB)) HL.out k HS.out HK.out (by omega) (by omega)) ?_)
      rintro e' v' ⟨rfl, b6⟩
      rw [HPR.out]
      exact ⟨_, rfl, hK _ _ rfl b6⟩
    | 5, _, ho, _ =>
      obtain rfl := Option.some.inj ho
      have h0 : a'.eval (.tmp 24) = .slice (some ⟨g, o, none⟩) n c := (gds_of hnd 1 24 (by kernel_rfl) :)
      have h1 : a'.eval (.tmp 27) = .int .i64 (P : Int) := (gds_of hnd 4 27 (by kernel_rfl) :)
      exact idx_ce _ _ _ _ _ _ _ rfl h0 h1 hPn (hK _ _ rfl (Below.refl _ _))
    | 6, _, ho, _ =>
      obtain rfl := Option.some.inj ho
      have h0 : a'.eval (.tmp 28) = .pointer (some ⟨g, o + P * 16, none⟩) := (gds_of hnd 5 28 (by kernel_rfl) :)
      exact f_ce0 _ _ _ rfl h0 (hK _ _ rfl (Below.refl _ _))
    | 7, _, ho, _ =>
      obtain rfl := Option.some.inj ho
      have h0 : a'.eval (.tmp 29) = .pointer (some ⟨g, o + P * 16, none⟩) := (gds_of hnd 6 29 (by kernel_rfl) :)
      exact t_bool _ _ _ _ rfl h0 (HC.out _ (bthen B3.out hB)) (hK _ _ rfl (Below.refl _ _))
    | 8, _, ho, _ =>
      obtain rfl := Option.some.inj ho
      have h0 : a'.eval (.tmp 30) = .bool false := (gds_of hnd 7 30 (by kernel_rfl) :)
      exact t_not _ false rfl h0 (hK _ _ rfl (Below.refl _ _))
    | 9, _, ho, _ =>
      obtain rfl := Option.some.inj ho
      have h0 : a'.eval (.tmp 31) = .bool true := (gds_of hnd 8 31 (by kernel_rfl) :)
      exact t_mv _ _ rfl h0 (hK _ _ rfl (Below.refl _ _))
    | 10, _, ho, _ =>
      obtain rfl := Option.some.inj ho
      have h0 : a'.eval (.tmp 3) = .pointer (some ⟨w.heap.size, 0, none⟩) := (hx 3 (by decide)).trans rfl
      exact r_tab _ _ _ _ rfl h0 (K.below hB p3.out) (hK _ _ rfl (Below.refl _ _))
    | 11, _, ho, _ =>
      obtain rfl := Option.some.inj ho
      have h0 : a'.eval (.tmp 33) = .agg #[.int .i64 s, .slice (some ⟨g, o, none⟩) n c] := (gds_of hnd 10 33 (by kernel_rfl) :)
      refine u_usedIn _ _ _ rfl h0 (Calls.mono (usedInI s (some ⟨g, o, none⟩) n c cs _ (HX.out.on (bthen B3.out hB)) HL.out hn) ?_)
      rintro e' v' ⟨rfl, b6⟩
      exact ⟨_, rfl, hK _ _ rfl b6⟩
    | 12, _, ho, _ =>
      obtain rfl := Option.some.inj ho
      have h0 : a'.eval (.tmp 3) = .pointer (some ⟨w.heap.size, 0, none⟩) := (hx 3 (by decide)).trans rfl
      exact r_tab _ _ _ _ rfl h0 (K.below hB p3.out) (hK _ _ rfl (Below.refl _ _))
    | 13, _, ho, _ =>
      obtain rfl := Option.some.inj ho
      have h0 : a'.eval (.tmp 35) = .agg #[.int .i64 s, .slice (some ⟨g, o, none⟩) n c] := (gds_of hnd 12 35 (by kernel_rfl) :)
      refine u_roomOf _ _ _ rfl h0 (Calls.mono (roomOfI s (some ⟨g, o, none⟩) n c _ hn) ?_)
      rintro e' v' ⟨rfl, b6⟩
      exact ⟨_, rfl, hK _ _ rfl b6⟩
    | 14, _, ho, _ =>
      obtain rfl := Option.some.inj ho
      have h0 : a'.eval (.tmp 34) = .int .i64 (usedN cs : Int) := (gds_of hnd 11 34 (by kernel_rfl) :)
      have h1 : a'.eval (.tmp 36) = .int .i64 ((n / 4 * 3 : Nat) : Int) := (gds_of hnd 13 36 (by kernel_rfl) :)
      exact t_eqlT _ _ _ _ false rfl h0 h1 H3.out (hK _ _ rfl (Below.refl _ _))
    | j + 15, hj, _, _ => omega
  · intro f v hf hB
    have e0 : f 0 = (.pointer (some ⟨w.heap.size, 1, none⟩)) := hf (0, 23) (by decide)
    have e1 : f 1 = (.slice (some ⟨g, o, none⟩) n c) := hf (1, 24) (by decide)
    have e2 : f 2 = (.agg #[.int .i64 s, .slice (some ⟨g, o, none⟩) n c]) := hf (2, 25) (by decide)
    have e3 : f 3 = (.agg #[.int .i64 k.tenant, .int .i64 k.key.src.k, .int .i64 k.key.src.a, .int .i64 k.key.src.b, .int .i64 k.key.src.c, .int .i64 k.key.src.d, .int .i64 k.key.dst.k, .int .i64 k.key.dst.a, .int .i64 k.key.dst.b, .int .i64 k.key.dst.c, .int .i64 k.key.dst.d, .int .i64 k.key.proto, .int .i64 k.key.sport, .int .i64 k.key.dport]) := hf (3, 26) (by decide)
    have e4 : f 4 = (.int .i64 (P : Int)) := hf (4, 27) (by decide)
    have e5 : f 5 = (.pointer (some ⟨g, o + P * 16, none⟩)) := hf (5, 28) (by decide)
    have e6 : f 6 = (.pointer (some ⟨g, o + P * 16, none⟩)) := hf (6, 29) (by decide)
    have e7 : f 7 = (.bool false) := hf (7, 30) (by decide)
    have e8 : f 8 = (.bool true) := hf (8, 31) (by decide)
    have e9 : f 9 = (.bool true) := hf (9, 32) (by decide)
    have e10 : f 10 = (.agg #[.int .i64 s, .slice (some ⟨g, o, none⟩) n c]) := hf (10, 33) (by decide)
    have e11 : f 11 = (.int .i64 (usedN cs : Int)) := hf (11, 34) (by decide)
    have e12 : f 12 = (.agg #[.int .i64 s, .slice (some ⟨g, o, none⟩) n c]) := hf (12, 35) (by decide)
    have e13 : f 13 = (.int .i64 ((n / 4 * 3 : Nat) : Int)) := hf (13, 36) (by decide)
    have e14 : f 14 = (.bool false) := hf (14, 37) (by decide)
    simp only [List.foldl_cons, List.foldl_nil, List.drop_succ_cons, List.drop_zero, e0, e1, e2, e3, e4, e5, e6, e7, e8, e9, e10, e11, e12, e13, e14]
    clear e0 e1 e2 e3 e4 e5 e6 e7 e8 e9 e10 e11 e12 e13 e14 hf
    go_simp
    have p4 := Lib.hid (K.below hB p3.out)
    have q4 := Lib.hid (K.below hB q3.out)
    have r4 := Lib.hid (K.below hB r3.out)
    have B4 := Lib.hid (bthen B3.out hB)
    clear hB p3 q3 r3 B3 HC H3
    obtain ⟨⟨t0, t1⟩, _⟩ := K.row2 p4.out
    go_wp2_with fail
    refine Calls.mono (ownI s g o n c cs _ (HX.out.on B4.out) HL.out hn) ?_
    rintro e w5 ⟨D, d, rfl, ow, b5⟩
    obtain ⟨g4, rfl⟩ : ∃ g, D = some ⟨g, 0, none⟩ := by
      rcases ow.2 with ⟨_, h0⟩ | ⟨g, _, _, hv, _⟩
      · omega
      · injection hv with hA _ _
        exact ⟨g, hA⟩
    have q6 := Lib.hid (K.old (K.below b5 q4.out) (.cells #[.int .i64 s, .slice (some ⟨g4, 0, none⟩) n d] 40))
    have r6 := Lib.hid (K.old (K.below b5 r4.out) (.cells #[.int .i64 s, .slice (some ⟨g4, 0, none⟩) n d] 40))
    have x6 := Lib.hid (K.new w5 (.cells #[.int .i64 s, .slice (some ⟨g4, 0, none⟩) n d] 40))
    have O6 := Lib.hid (show (w5.alloc (.cells #[.int .i64 s, .slice (some ⟨g4, 0, none⟩) n d] 40)).ownsRow w.heap.size 93 16 (.slice (some ⟨g4, 0, none⟩) n d) n (fl Ce.cells cs) from own_base (own_below ow (Joins.below_alloc1 w5 _)) B4.out.size)
    have B6 := Lib.hid (bthen (bthen B4.out b5) (Joins.below_alloc1 w5 (.cells #[.int .i64 s, .slice (some ⟨g4, 0, none⟩) n d] 40)))
    clear ow b5 t0 t1 p4 q4 r4 B4
    obtain ⟨⟨t0, t1⟩, _⟩ := K.row2 x6.out
    obtain ⟨z0, z1, z2, z3, z4, z5, z6, z7, z8, z9, z10, z11, z12, z13⟩ := K.fk q6.out
    have PC := Lib.hid (fun (v : World) (hv : v.ownsRow w.heap.size 93 16 (.slice (some ⟨g4, 0, none⟩) n d) n (fl Ce.cells cs)) => putI s g4 n d w.heap.size cs k nv P v hv HL.out (by omega) (by omega) HS.out HK.out HP.out)
    go_wp2_with fail
    refine Calls.mono (PC.out _ O6.out) ?_
    rintro e w7 ⟨⟨u, rfl⟩, o7, gr⟩
    have O7 := Lib.hid o7
    have X7 := Lib.hid (K.kept gr x6.out (fun q hq => own_neB O6.out x6.out (by decide) q hq))
    have R7 := Lib.hid (K.kept gr r6.out (fun q hq => own_neB O6.out r6.out (by decide) q hq))
    have B7 := Lib.hid (bgrown B6.out gr (fun q hq => (O6.out.lt q hq).1))
    clear gr o7 t0 t1 x6 r6 q6 B6 PC z0 z1 z2 z3 z4 z5 z6 z7 z8 z9 z10 z11 z12 z13
    obtain ⟨⟨t0, t1⟩, _⟩ := K.row2 X7.out
    go_wp2_with (with_reducible refine storeTb rfl _ _ rfl (w.heap.size + 2) rfl rfl R7.out ?_)
    (try simp only [Exit.inBlock, Exit.then])
    refine bodyPost_ret (v := .tuple #[.agg #[.int .i64 s, .slice (some ⟨g4, 0, none⟩) n d], .int .i64 0]) (resTbN Try.results41 _ _ (w.heap.size + 2) rfl (setRow_heap _ _ _ _ _ _ R7.out)) rfl ⟨_, by rw [HR.out], ?_, setRowBT B7.out (by omega) _⟩
    rw [HR.out]
    exact ⟨_, n, d, rfl, own_grown O7.out (setRow_grownT _ _ _) (fun q hq e => own_neB O7.out R7.out (by decide) q hq (Option.some.inj e))⟩

theorem tabPutI (s : Int) (A : Option Addr) (n c : Nat) (cs : List Ce) (w : World) (hx : RV w w.heap.size A (fl Ce.cells cs)) (hl : cs.length = n) (hn : n ≤ 1048576) (k : Fk) (nv : Int) : Calls Try.prog 41 #[.agg #[.int .i64 s, .slice A n c], .agg #[.int .i64 k.tenant, .int .i64 k.key.src.k, .int .i64 k.key.src.a, .int .i64 k.key.src.b, .int .i64 k.key.src.c, .int .i64 k.key.src.d, .int .i64 k.key.dst.k, .int .i64 k.key.dst.a, .int .i64 k.key.dst.b, .int .i64 k.key.dst.c, .int .i64 k.key.dst.d, .int .i64 k.key.proto, .int .i64 k.key.sport, .int .i64 k.key.dport], .int .i64 nv] w fun e w' => ∃ v, e = .returned (.tuple #[v, .int .i64 (tabPut s cs k nv).2]) ∧ TOwn w.heap.size (tabPut s cs k nv).1 w' v ∧ Below w.heap.size w w' := by
  cases ho : tabOk s cs with
  | false => exact tabPutI_0 s A n c cs w hx hl hn k nv ho
  | true =>
    cases hk : k.ok with
    | false => exact tabPutI_1 s A n c cs w hx hl hn k nv ho hk
    | true =>
      cases hv : btw 0 nv 1000000000000 with
      | false => exact tabPutI_2 s A n c cs w hx hl hn k nv ho hk hv
      | true =>
        obtain ⟨P, _, hp⟩ := tab_probe ho k
        cases hu : (ceAt cs P).used with
        | true => exact tabPutI_4 s A n c cs w hx hl hn k nv ho hk hv P hp hu
        | false =>
          by_cases hf : usedN cs = cs.length / 4 * 3
          · exact tabPutI_3 s A n c cs w hx hl hn k nv ho hk hv P hp hu hf
          · exact tabPutI_5 s A n c cs w hx hl hn k nv ho hk hv P hp hu hf
end Go.Proofs.Ytmfkpiclpkeemaa

namespace Go.Proofs.Ytmfkpiclpkeemaa
set_option maxRecDepth 100000
open Go.RowKit

theorem wrapP {z : Int} (h0 : 0 ≤ z) (h1 : z < 4611686018427387904) : IntKind.i64.wrap z = z := by
  have e : z % 2 ^ 64 = z := Int.emod_eq_of_lt (by omega) (by omega)
  simp only [IntKind.wrap, IntKind.bits, IntKind.signed, e]
  rw [if_neg]
  simp
  omega
theorem put_num {cs : List Ce} {P : Nat} {k : Fk} {nv : Int} (h : P < cs.length) (hu : (ceAt cs P).used = true) (hk : (ceAt cs P).key = k) : (fl Ce.cells cs).set (P * 16 + 15) (.int .i64 nv) = fl Ce.cells (putAt cs P k nv) := by
  rw [ceAt_get h] at hu hk
  have hc : cs = cs.take P ++ cs[P] :: cs.drop (P + 1) := by simp
  have hp : putAt cs P k nv = cs.take P ++ ⟨true, k, nv⟩ :: cs.drop (P + 1) := by
    unfold putAt
    rw [List.set_eq_take_append_cons_drop, if_pos h]
  have hlen : (cs.take P).length = P := by simp; omega
  rw [hp]
  conv => lhs; rw [hc]
  generalize cs[P] = z at *
  generalize cs.take P = ps at *
  generalize cs.drop (P + 1) = qs at *
  obtain ⟨u, ky, num⟩ := z
  try simp only at hu hk
  subst hu
  subst hk
  subst hlen
  rw [fl_append, fl_append, fl_cons, fl_cons]
  have e := set_mid (fl Ce.cells ps ++ (Ce.cells ⟨true, ky, num⟩).take 15) (.int .i64 num) (.int .i64 nv) (fl Ce.cells qs) (ps.length * 16 + 15) (by rw [List.length_append, fl_length Ce.cells_length]; rfl)
  rw [List.append_assoc, List.append_assoc] at e
  exact e

section
variable {o : Oper} {a : Act} {w : World} {K : Act → World → Prop} {Q : Exit → Act → World → Prop}
theorem u_cntP (x : Operand) (x0 : Value) (ts : Array TypeId) (ho : o.op = .call { callee := .value (.func 72), args := #[x], argTypes := ts }) (h0 : a.eval x = x0)
    (h : Calls Try.prog 72 #[x0] w fun e w' => ∃ v, e = .returned v ∧ K (a.put o.dst v) w') : o.wp Try.prog a w K Q := by
  unfold Oper.wp execOp
  simp only [ho, resolve, List.map_toArray, List.map_cons, List.map_nil, h0, show ∀ f, a.eval (.func f) = .func (.func f) #[] #[] from fun _ => rfl]
  go_simp
  exact h.mono fun e w' ⟨u, he, hk⟩ => by subst he; exact hk
theorem t_mulP (x y : Operand) (m n p : Int) (ho : o.op = .binOp .mul 3 x y 3) (hx : a.eval x = .int .i64 m) (hy : a.eval y = .int .i64 n) (hp : IntKind.i64.wrap (m * n) = p) (hK : K (a.put o.dst (.int .i64 p)) w) : o.wp Try.prog a w K Q := by
  subst hp
  unfold Oper.wp execOp
  simp only [ho, hx, hy]
  go_simp
  exact hK
theorem t_addP (x y : Operand) (m n p : Int) (ho : o.op = .binOp .add 3 x y 3) (hx : a.eval x = .int .i64 m) (hy : a.eval y = .int .i64 n) (hp : IntKind.i64.wrap (m + n) = p) (hK : K (a.put o.dst (.int .i64 p)) w) : o.wp Try.prog a w K Q := by
  subst hp
  unfold Oper.wp execOp
  simp only [ho, hx, hy]
  go_simp
  exact hK
end

set_option maxHeartbeats 4000000 in
theorem tabPutS_0 (s : Int) (A : Option Addr) (n c : Nat) (cs : List Ce) (w : World) (hx : RV w w.heap.size A (fl Ce.cells cs)) (hl : cs.length = n) (hn : n ≤ 1048576) (k : Fk) (nv : Int) (ho : tabOk s cs = false) : Calls Try.prog 40 #[.agg #[.int .i64 s, .slice A n c], .agg #[.int .i64 k.tenant, .int .i64 k.key.src.k, .int .i64 k.key.src.a, .int .i64 k.key.src.b, .int .i64 k.key.src.c, .int .i64 k.key.src.d, .int .i64 k.key.dst.k, .int .i64 k.key.dst.a, .int .i64 k.key.dst.b, .int .i64 k.key.dst.c, .int .i64 k.key.dst.d, .int .i64 k.key.proto, .int .i64 k.key.sport, .int .i64 k.key.dport], .int .i64 nv] w fun e w' => ∃ v, e = .returned (.tuple #[v, .int .i64 (tabPut s cs k nv).2]) ∧ TOwn w.heap.size (tabPut s cs k nv).1 w' v ∧ Below w.heap.size w w' := by
  have HX := Lib.hid hx
  have HL := Lib.hid hl
  have HR := Lib.hid (tabPut_no1 (k := k) (v := nv) ho)
  have HO := Lib.hid ho
  clear ho hx hl
  have p0 : Hid ((((w.alloc (.cells #[.int .i64 s, .slice A n c] 40)).alloc (.cells #[.int .i64 k.tenant, .int .i64 k.key.src.k, .int .i64 k.key.src.a, .int .i64 k.key.src.b, .int .i64 k.key.src.c, .int .i64 k.key.src.d, .int .i64 k.key.dst.k, .int .i64 k.key.dst.a, .int .i64 k.key.dst.b, .int .i64 k.key.dst.c, .int .i64 k.key.dst.d, .int .i64 k.key.proto, .int .i64 k.key.sport, .int .i64 k.key.dport] 33)).alloc (.cells #[.int .i64 0, .slice none 0 0] 40)).heap[w.heap.size]? = some (.cells #[.int .i64 s, .slice A n c] 40 (0, 0))) := Lib.hid (K.old (K.old (K.new w _) _) _)
  have q0 : Hid ((((w.alloc (.cells #[.int .i64 s, .slice A n c] 40)).alloc (.cells #[.int .i64 k.tenant, .int .i64 k.key.src.k, .int .i64 k.key.src.a, .int .i64 k.key.src.b, .int .i64 k.key.src.c, .int .i64 k.key.src.d, .int .i64 k.key.dst.k, .int .i64 k.key.dst.a, .int .i64 k.key.dst.b, .int .i64 k.key.dst.c, .int .i64 k.key.dst.d, .int .i64 k.key.proto, .int .i64 k.key.sport, .int .i64 k.key.dport] 33)).alloc (.cells #[.int .i64 0, .slice none 0 0] 40)).heap[w.heap.size + 1]? = some (.cells #[.int .i64 k.tenant, .int .i64 k.key.src.k, .int .i64 k.key.src.a, .int .i64 k.key.src.b, .int .i64 k.key.src.c, .int .i64 k.key.src.d, .int .i64 k.key.dst.k, .int .i64 k.key.dst.a, .int .i64 k.key.dst.b, .int .i64 k.key.dst.c, .int .i64 k.key.dst.d, .int .i64 k.key.proto, .int .i64 k.key.sport, .int .i64 k.key.dport] 33 (0, 0))) := Lib.hid (K.old (K.newAt (by simp)) _)
  have r0 : Hid ((((w.alloc (.cells #[.int .i64 s, .slice A n c] 40)).alloc (.cells #[.int .i64 k.tenant, .int .i64 k.key.src.k, .int .i64 k.key.src.a, .int .i64 k.key.src.b, .int .i64 k.key.src.c, .int .i64 k.key.src.d, .int .i64 k.key.dst.k, .int .i64 k.key.dst.a, .int .i64 k.key.dst.b, .int .i64 k.key.dst.c, .int .i64 k.key.dst.d, .int .i64 k.key.proto, .int .i64 k.key.sport, .int .i64 k.key.dport] 33)).alloc (.cells #[.int .i64 0, .slice none 0 0] 40)).heap[w.heap.size + 2]? = some (.cells #[.int .i64 0, .slice none 0 0] 40 (0, 0))) := Lib.hid (K.newAt (by simp))
  have B0 : Hid (Below w.heap.size w (((w.alloc (.cells #[.int .i64 s, .slice A n c] 40)).alloc (.cells #[.int .i64 k.tenant, .int .i64 k.key.src.k, .int .i64 k.key.src.a, .int .i64 k.key.src.b, .int .i64 k.key.src.c, .int .i64 k.key.src.d, .int .i64 k.key.dst.k, .int .i64 k.key.dst.a, .int .i64 k.key.dst.b, .int .i64 k.key.dst.c, .int .i64 k.key.dst.d, .int .i64 k.key.proto, .int .i64 k.key.sport, .int .i64 k.key.dport] 33)).alloc (.cells #[.int .i64 0, .slice none 0 0] 40))) := Lib.hid (bthen (Joins.below_alloc2 w (.cells #[.int .i64 s, .slice A n c] 40) (.cells #[.int .i64 k.tenant, .int .i64 k.key.src.k, .int .i64 k.key.src.a, .int .i64 k.key.src.b, .int .i64 k.key.src.c, .int .i64 k.key.src.d, .int .i64 k.key.dst.k, .int .i64 k.key.dst.a, .int .i64 k.key.dst.b, .int .i64 k.key.dst.c, .int .i64 k.key.dst.d, .int .i64 k.key.proto, .int .i64 k.key.sport, .int .i64 k.key.dport] 33)) (Joins.below_alloc1 _ _))
  have t0 := K.cell p0.out 0 _ rfl
  have t1 := K.cell p0.out 1 _ rfl
  go_enter Try.func40, Try.ntmps40
  go_wp2_with fail
  refine Calls.mono (tabOkSB s A n c cs _ (HX.out.on B0.out) HL.out hn false HO.out) ?_
  rintro e w1 ⟨rfl, b1⟩
  have p1 := Lib.hid (K.below b1 p0.out)
  have q1 := Lib.hid (K.below b1 q0.out)
  have r1 := Lib.hid (K.below b1 r0.out)
  have B1 := Lib.hid (bthen B0.out b1)
  clear b1 p0 q0 r0 t0 t1 B0
  go_wp2_with (with_reducible refine storeTb rfl _ _ rfl (w.heap.size + 2) rfl rfl r1.out ?_)
  (try simp only [Exit.inBlock, Exit.then])
  refine bodyPost_ret (v := .tuple #[.agg #[.int .i64 0, .slice none 0 0], .int .i64 1]) (resTbN Try.results40 _ _ (w.heap.size + 2) rfl (setRow_heap _ _ _ _ _ _ r1.out)) rfl ⟨_, by rw [HR.out], by rw [HR.out]; exact TOwn.zero _ _, setRowBT B1.out (by omega) _⟩

set_option maxHeartbeats 4000000 in
theorem tabPutS_1 (s : Int) (A : Option Addr) (n c : Nat) (cs : List Ce) (w : World) (hx : RV w w.heap.size A (fl Ce.cells cs)) (hl : cs.length = n) (hn : n ≤ 1048576) (k : Fk) (nv : Int) (ho : tabOk s cs = true) (hk : k.ok = false) : Calls Try.prog 40 #[.agg #[.int .i64 s, .slice A n c], .agg #[.int .i64 k.tenant, .int .i64 k.key.src.k, .int .i64 k.key.src.a, .int .i64 k.key.src.b, .int .i64 k.key.src.c, .int .i64 k.key.src.d, .int .i64 k.key.dst.k, .int .i64 k.key.dst.a, .int .i64 k.key.dst.b, .int .i64 k.key.dst.c, .int .i64 k.key.dst.d, .int .i64 k.key.proto, .int .i64 k.key.sport, .int .i64 k.key.dport], .int .i64 nv] w fun e w' => ∃ v, e = .returned (.tuple #[v, .int .i64 (tabPut s cs k nv).2]) ∧ TOwn w.heap.size (tabPut s cs k nv).1 w' v ∧ Below w.heap.size w w' := by
  have HX := Lib.hid hx
  have HL := Lib.hid hl
  have HR := Lib.hid (tabPut_no2 (s := s) (cs := cs) (v := nv) hk)
  have HO := Lib.hid ho
  have HK := Lib.hid hk
  clear ho hk hx hl
  have p0 : Hid ((((w.alloc (.cells #[.int .i64 s, .slice A n c] 40)).alloc (.cells #[.int .i64 k.tenant, .int .i64 k.key.src.k, .int .i64 k.key.src.a, .int .i64 k.key.src.b, .int .i64 k.key.src.c, .int .i64 k.key.src.d, .int .i64 k.key.dst.k, .int .i64 k.key.dst.a, .int .i64 k.key.dst.b, .int .i64 k.key.dst.c, .int .i64 k.key.dst.d, .int .i64 k.key.proto, .int .i64 k.key.sport, .int .i64 k.key.dport] 33)).alloc (.cells #[.int .i64 0, .slice none 0 0] 40)).heap[w.heap.size]? = some (.cells #[.int .i64 s, .slice A n c] 40 (0, 0))) := Lib.hid (K.old (K.old (K.new w _) _) _)
  have q0 : Hid ((((w.alloc (.cells #[.int .i64 s, .slice A n c] 40)).alloc (.cells #[.int .i64 k.tenant, .int .i64 k.key.src.k, .int .i64 k.key.src.a, .int .i64 k.key.src.b, .int .i64 k.key.src.c, .int .i64 k.key.src.d, .int .i64 k.key.dst.k, .int .i64 k.key.dst.a, .int .i64 k.key.dst.b, .int .i64 k.key.dst.c, .int .i64 k.key.dst.d, .int .i64 k.key.proto, .int .i64 k.key.sport, .int .i64 k.key.dport] 33)).alloc (.cells #[.int .i64 0, .slice none 0 0] 40)).heap[w.heap.size + 1]? = some (.cells #[.int .i64 k.tenant, .int .i64 k.key.src.k, .int .i64 k.key.src.a, .int .i64 k.key.src.b, .int .i64 k.key.src.c, .int .i64 k.key.src.d, .int .i64 k.key.dst.k, .int .i64 k.key.dst.a, .int .i64 k.key.dst.b, .int .i64 k.key.dst.c, .int .i64 k.key.dst.d, .int .i64 k.key.proto, .int .i64 k.key.sport, .int .i64 k.key.dport] 33 (0, 0))) := Lib.hid (K.old (K.newAt (by simp)) _)
  have r0 : Hid ((((w.alloc (.cells #[.int .i64 s, .slice A n c] 40)).alloc (.cells #[.int .i64 k.tenant, .int .i64 k.key.src.k, .int .i64 k.key.src.a, .int .i64 k.key.src.b, .int .i64 k.key.src.c, .int .i64 k.key.src.d, .int .i64 k.key.dst.k, .int .i64 k.key.dst.a, .int .i64 k.key.dst.b, .int .i64 k.key.dst.c, .int .i64 k.key.dst.d, .int .i64 k.key.proto, .int .i64 k.key.sport, .int .i64 k.key.dport] 33)).alloc (.cells #[.int .i64 0, .slice none 0 0] 40)).heap[w.heap.size + 2]? = some (.cells #[.int .i64 0, .slice none 0 0] 40 (0, 0))) := Lib.hid (K.newAt (by simp))
  have B0 : Hid (Below w.heap.size w (((w.alloc (.cells #[.int .i64 s, .slice A n c] 40)).alloc (.cells #[.int .i64 k.tenant, .int .i64 k.key.src.k, .int .i64 k.key.src.a, .int .i64 k.key.src.b, .int .i64 k.key.src.c, .int .i64 k.key.src.d, .int .i64 k.key.dst.k, .int .i64 k.key.dst.a, .int .i64 k.key.dst.b, .int .i64 k.key.dst.c, .int .i64 k.key.dst.d, .int .i64 k.key.proto, .int .i64 k.key.sport, .int .i64 k.key.dport] 33)).alloc (.cells #[.int .i64 0, .slice none 0 0] 40))) := Lib.hid (bthen (Joins.below_alloc2 w (.cells #[.int .i64 s, .slice A n c] 40) (.cells #[.int .i64 k.tenant, .int .i64 k.key.src.k, .int .i64 k.key.src.a, .int .i64 k.key.src.b, .int .i64 k.key.src.c, .int .i64 k.key.src.d, .int .i64 k.key.dst.k, .int .i64 k.key.dst.a, .int .i64 k.key.dst.b, .int .i64 k.key.dst.c, .int .i64 k.key.dst.d, .int .i64 k.key.proto, .int .i64 k.key.sport, .int .i64 k.key.dport] 33)) (Joins.below_alloc1 _ _))
  have t0 := K.cell p0.out 0 _ rfl
  have t1 := K.cell p0.out 1 _ rfl
  go_enter Try.func40, Try.ntmps40
  go_wp2_with fail
  refine Calls.mono (tabOkSB s A n c cs _ (HX.out.on B0.out) HL.out hn true HO.out) ?_
  rintro e w1 ⟨rfl, b1⟩
  have p1 := Lib.hid (K.below b1 p0.out)
  have q1 := Lib.hid (K.below b1 q0.out)
  have r1 := Lib.hid (K.below b1 r0.out)
  have B1 := Lib.hid (bthen B0.out b1)
  clear b1 p0 q0 r0 t0 t1 B0
  obtain ⟨z0, z1, z2, z3, z4, z5, z6, z7, z8, z9, z10, z11, z12, z13⟩ := K.fk q1.out
  go_wp2_with fail
  refine Calls.mono (fkOkSB k false HK.out _) ?_
  rintro e w2 ⟨rfl, b2⟩
  have p2 := Lib.hid (K.below b2 p1.out)
  have q2 := Lib.hid (K.below b2 q1.out)
  have r2 := Lib.hid (K.below b2 r1.out)
  have B2 := Lib.hid (bthen B1.out b2)
  clear b2 p1 q1 r1 z0 z1 z2 z3 z4 z5 z6 z7 z8 z9 z10 z11 z12 z13 B1
  go_wp2_with (with_reducible refine storeTb rfl _ _ rfl (w.heap.size + 2) rfl rfl r2.out ?_)
  (try simp only [Exit.inBlock, Exit.then])
  refine bodyPost_ret (v := .tuple #[.agg #[.int .i64 0, .slice none 0 0], .int .i64 1]) (resTbN Try.results40 _ _ (w.heap.size + 2) rfl (setRow_heap _ _ _ _ _ _ r2.out)) rfl ⟨_, by rw [HR.out], by rw [HR.out]; exact TOwn.zero _ _, setRowBT B2.out (by omega) _⟩

set_option maxHeartbeats 4000000 in
theorem tabPutS_2a (s : Int) (A : Option Addr) (n c : Nat) (cs : List Ce) (w : World) (hx : RV w w.heap.size A (fl Ce.cells cs)) (hl : cs.length = n) (hn : n ≤ 1048576) (k : Fk) (nv : Int) (ho : tabOk s cs = true) (hk : k.ok = true) (h1 : nv < 0) : Calls Try.prog 40 #[.agg #[.int .i64 s, .slice A n c], .agg #[.int .i64 k.tenant, .int .i64 k.key.src.k, .int .i64 k.key.src.a, .int .i64 k.key.src.b, .int .i64 k.key.src.c, .int .i64 k.key.src.d, .int .i64 k.key.dst.k, .int .i64 k.key.dst.a, .int .i64 k.key.dst.b, .int .i64 k.key.dst.c, .int .i64 k.key.dst.d, .int .i64 k.key.proto, .int .i64 k.key.sport, .int .i64 k.key.dport], .int .i64 nv] w fun e w' => ∃ v, e = .returned (.tuple #[v, .int .i64 (tabPut s cs k nv).2]) ∧ TOwn w.heap.size (tabPut s cs k nv).1 w' v ∧ Below w.heap.size w w' := by
  have HX := Lib.hid hx
  have HL := Lib.hid hl
  have HR := Lib.hid (tabPut_no3 (s := s) (cs := cs) (k := k) (v := nv) (by simp [btw]; omega))
  have HO := Lib.hid ho
  have HK := Lib.hid hk
  clear ho hk hx hl
  have p0 : Hid ((((w.alloc (.cells #[.int .i64 s, .slice A n c] 40)).alloc (.cells #[.int .i64 k.tenant, .int .i64 k.key.src.k, .int .i64 k.key.src.a, .int .i64 k.key.src.b, .int .i64 k.key.src.c, .int .i64 k.key.src.d, .int .i64 k.key.dst.k, .int .i64 k.key.dst.a, .int .i64 k.key.dst.b, .int .i64 k.key.dst.c, .int .i64 k.key.dst.d, .int .i64 k.key.proto, .int .i64 k.key.sport, .int .i64 k.key.dport] 33)).alloc (.cells #[.int .i64 0, .slice none 0 0] 40)).heap[w.heap.size]? = some (.cells #[.int .i64 s, .slice A n c] 40 (0, 0))) := Lib.hid (K.old (K.old (K.new w _) _) _)
  have q0 : Hid ((((w.alloc (.cells #[.int .i64 s, .slice A n c] 40)).alloc (.cells #[.int .i64 k.tenant, .int .i64 k.key.src.k, .int .i64 k.key.src.a, .int .i64 k.key.src.b, .int .i64 k.key.src.c, .int .i64 k.key.src.d, .int .i64 k.key.dst.k, .int .i64 k.key.dst.a, .int .i64 k.key.dst.b, .int .i64 k.key.dst.c, .int .i64 k.key.dst.d, .int .i64 k.key.proto, .int .i64 k.key.sport, .int .i64 k.key.dport] 33)).alloc (.cells #[.int .i64 0, .slice none 0 0] 40)).heap[w.heap.size + 1]? = some (.cells #[.int .i64 k.tenant, .int .i64 k.key.src.k, .int .i64 k.key.src.a, .int .i64 k.key.src.b, .int .i64 k.key.src.c, .int .i64 k.key.src.d, .int .i64 k.key.dst.k, .int .i64 k.key.dst.a, .int .i64 k.key.dst.b, .int .i64 k.key.dst.c, .int .i64 k.key.dst.d, .int .i64 k.key.proto, .int .i64 k.key.sport, .int .i64 k.key.dport] 33 (0, 0))) := Lib.hid (K.old (K.newAt (by simp)) _)
  have r0 : Hid ((((w.alloc (.cells #[.int .i64 s, .slice A n c] 40)).alloc (.cells #[.int .i64 k.tenant, .int .i64 k.key.src.k, .int .i64 k.key.src.a, .int .i64 k.key.src.b, .int .i64 k.key.src.c, .int .i64 k.key.src.d, .int .i64 k.key.dst.k, .int .i64 k.key.dst.a, .int .i64 k.key.dst.b, .int .i64 k.key.dst.c, .int .i64 k.key.dst.d, .int .i64 k.key.proto, .int .i64 k.key.sport, .int .i64 k.key.dport] 33)).alloc (.cells #[.int .i64 0, .slice none 0 0] 40)).heap[w.heap.size + 2]? = some (.cells #[.int .i64 0, .slice none 0 0] 40 (0, 0))) := Lib.hid (K.newAt (by simp))
  have B0 : Hid (Below w.heap.size w (((w.alloc (.cells #[.int .i64 s, .slice A n c] 40)).alloc (.cells #[.int .i64 k.tenant, .int .i64 k.key.src.k, .int .i64 k.key.src.a, .int .i64 k.key.src.b, .int .i64 k.key.src.c, .int .i64 k.key.src.d, .int .i64 k.key.dst.k, .int .i64 k.key.dst.a, .int .i64 k.key.dst.b, .int .i64 k.key.dst.c, .int .i64 k.key.dst.d, .int .i64 k.key.proto, .int .i64 k.key.sport, .int .i64 k.key.dport] 33)).alloc (.cells #[.int .i64 0, .slice none 0 0] 40))) := Lib.hid (bthen (Joins.below_alloc2 w (.cells #[.int .i64 s, .slice A n c] 40) (.cells #[.int .i64 k.tenant, .int .i64 k.key.src.k, .int .i64 k.key.src.a, .int .i64 k.key.src.b, .int .i64 k.key.src.c, .int .i64 k.key.src.d, .int .i64 k.key.dst.k, .int .i64 k.key.dst.a, .int .i64 k.key.dst.b, .int .i64 k.key.dst.c, .int .i64 k.key.dst.d, .int .i64 k.key.proto, .int .i64 k.key.sport, .int .i64 k.key.dport] 33)) (Joins.below_alloc1 _ _))
  have t0 := K.cell p0.out 0 _ rfl
  have t1 := K.cell p0.out 1 _ rfl
  go_enter Try.func40, Try.ntmps40
  go_wp2_with fail
  refine Calls.mono (tabOkSB s A n c cs _ (HX.out.on B0.out) HL.out hn true HO.out) ?_
  rintro e w1 ⟨rfl, b1⟩
  have p1 := Lib.hid (K.below b1 p0.out)
  have q1 := Lib.hid (K.below b1 q0.out)
  have r1 := Lib.hid (K.below b1 r0.out)
  have B1 := Lib.hid (bthen B0.out b1)
  clear b1 p0 q0 r0 t0 t1 B0
  obtain ⟨z0, z1, z2, z3, z4, z5, z6, z7, z8, z9, z10, z11, z12, z13⟩ := K.fk q1.out
  go_wp2_with fail
  refine Calls.mono (fkOkSB k true HK.out _) ?_
  rintro e w2 ⟨rfl, b2⟩
  have p2 := Lib.hid (K.below b2 p1.out)
  have q2 := Lib.hid (K.below b2 q1.out)
  have r2 := Lib.hid (K.below b2 r1.out)
  have B2 := Lib.hid (bthen B1.out b2)
  clear b2 p1 q1 r1 z0 z1 z2 z3 z4 z5 z6 z7 z8 z9 z10 z11 z12 z13 B1
  go_wp2_with (with_reducible refine storeTb rfl _ _ rfl (w.heap.size + 2) rfl rfl r2.out ?_)
  (try simp only [Exit.inBlock, Exit.then])
  refine bodyPost_ret (v := .tuple #[.agg #[.int .i64 0, .slice none 0 0], .int .i64 1]) (resTbN Try.results40 _ _ (w.heap.size + 2) rfl (setRow_heap _ _ _ _ _ _ r2.out)) rfl ⟨_, by rw [HR.out], by rw [HR.out]; exact TOwn.zero _ _, setRowBT B2.out (by omega) _⟩

set_option maxHeartbeats 4000000 in
theorem tabPutS_2b (s : Int) (A : Option Addr) (n c : Nat) (cs : List Ce) (w : World) (hx : RV w w.heap.size A (fl Ce.cells cs)) (hl : cs.length = n) (hn : n ≤ 1048576) (k : Fk) (nv : Int) (ho : tabOk s cs = true) (hk : k.ok = true) (h1 : ¬ nv < 0) (h2 : 1000000000000 < nv) : Calls Try.prog 40 #[.agg #[.int .i64 s, .slice A n c], .agg #[.int .i64 k.tenant, .int .i64 k.key.src.k, .int .i64 k.key.src.a, .int .i64 k.key.src.b, .int .i64 k.key.src.c, .int .i64 k.key.src.d, .int .i64 k.key.dst.k, .int .i64 k.key.dst.a, .int .i64 k.key.dst.b, .int .i64 k.key.dst.c, .int .i64 k.key.dst.d, .int .i64 k.key.proto, .int .i64 k.key.sport, .int .i64 k.key.dport], .int .i64 nv] w fun e w' => ∃ v, e = .returned (.tuple #[v, .int .i64 (tabPut s cs k nv).2]) ∧ TOwn w.heap.size (tabPut s cs k nv).1 w' v ∧ Below w.heap.size w w' := by
  have HX := Lib.hid hx
  have HL := Lib.hid hl
  have HR := Lib.hid (tabPut_no3 (s := s) (cs := cs) (k := k) (v := nv) (by simp [btw]; omega))
  have HO := Lib.hid ho
  have HK := Lib.hid hk
  clear ho hk hx hl
  have p0 : Hid ((((w.alloc (.cells #[.int .i64 s, .slice A n c] 40)).alloc (.cells #[.int .i64 k.tenant, .int .i64 k.key.src.k, .int .i64 k.key.src.a, .int .i64 k.key.src.b, .int .i64 k.key.src.c, .int .i64 k.key.src.d, .int .i64 k.key.dst.k, .int .i64 k.key.dst.a, .int .i64 k.key.dst.b, .int .i64 k.key.dst.c, .int .i64 k.key.dst.d, .int .i64 k.key.proto, .int .i64 k.key.sport, .int .i64 k.key.dport] 33)).alloc (.cells #[.int .i64 0, .slice none 0 0] 40)).heap[w.heap.size]? = some (.cells #[.int .i64 s, .slice A n c] 40 (0, 0))) := Lib.hid (K.old (K.old (K.new w _) _) _)
  have q0 : Hid ((((w.alloc (.cells #[.int .i64 s, .slice A n c] 40)).alloc (.cells #[.int .i64 k.tenant, .int .i64 k.key.src.k, .int .i64 k.key.src.a, .int .i64 k.key.src.b, .int .i64 k.key.src.c, .int .i64 k.key.src.d, .int .i64 k.key.dst.k, .int .i64 k.key.dst.a, .int .i64 k.key.dst.b, .int .i64 k.key.dst.c, .int .i64 k.key.dst.d, .int .i64 k.key.proto, .int .i64 k.key.sport, .int .i64 k.key.dport] 33)).alloc (.cells #[.int .i64 0, .slice none 0 0] 40)).heap[w.heap.size + 1]? = some (.cells #[.int .i64 k.tenant, .int .i64 k.key.src.k, .int .i64 k.key.src.a, .int .i64 k.key.src.b, .int .i64 k.key.src.c, .int .i64 k.key.src.d, .int .i64 k.key.dst.k, .int .i64 k.key.dst.a, .int .i64 k.key.dst.b, .int .i64 k.key.dst.c, .int .i64 k.key.dst.d, .int .i64 k.key.proto, .int .i64 k.key.sport, .int .i64 k.key.dport] 33 (0, 0))) := Lib.hid (K.old (K.newAt (by simp)) _)
  have r0 : Hid ((((w.alloc (.cells #[.int .i64 s, .slice A n c] 40)).alloc (.cells #[.int .i64 k.tenant, .int .i64 k.key.src.k, .int .i64 k.key.src.a, .int .i64 k.key.src.b, .int .i64 k.key.src.c, .int .i64 k.key.src.d, .int .i64 k.key.dst.k, .int .i64 k.key.dst.a, .int .i64 k.key.dst.b, .int .i64 k.key.dst.c, .int .i64 k.key.dst.d, .int .i64 k.key.proto, .int .i64 k.key.sport, .int .i64 k.key.dport] 33)).alloc (.cells #[.int .i64 0, .slice none 0 0] 40)).heap[w.heap.size + 2]? = some (.cells #[.int .i64 0, .slice none 0 0] 40 (0, 0))) := Lib.hid (K.newAt (by simp))
  have B0 : Hid (Below w.heap.size w (((w.alloc (.cells #[.int .i64 s, .slice A n c] 40)).alloc (.cells #[.int .i64 k.tenant, .int .i64 k.key.src.k, .int .i64 k.key.src.a, .int .i64 k.key.src.b, .int .i64 k.key.src.c, .int .i64 k.key.src.d, .int .i64 k.key.dst.k, .int .i64 k.key.dst.a, .int .i64 k.key.dst.b, .int .i64 k.key.dst.c, .int .i64 k.key.dst.d, .int .i64 k.key.proto, .int .i64 k.key.sport, .int .i64 k.key.dport] 33)).alloc (.cells #[.int .i64 0, .slice none 0 0] 40))) := Lib.hid (bthen (Joins.below_alloc2 w (.cells #[.int .i64 s, .slice A n c] 40) (.cells #[.int .i64 k.tenant, .int .i64 k.key.src.k, .int .i64 k.key.src.a, .int .i64 k.key.src.b, .int .i64 k.key.src.c, .int .i64 k.key.src.d, .int .i64 k.key.dst.k, .int .i64 k.key.dst.a, .int .i64 k.key.dst.b, .int .i64 k.key.dst.c, .int .i64 k.key.dst.d, .int .i64 k.key.proto, .int .i64 k.key.sport, .int .i64 k.key.dport] 33)) (Joins.below_alloc1 _ _))
  have t0 := K.cell p0.out 0 _ rfl
  have t1 := K.cell p0.out 1 _ rfl
  go_enter Try.func40, Try.ntmps40
  go_wp2_with fail
  refine Calls.mono (tabOkSB s A n c cs _ (HX.out.on B0.out) HL.out hn true HO.out) ?_
  rintro e w1 ⟨rfl, b1⟩
  have p1 := Lib.hid (K.below b1 p0.out)
  have q1 := Lib.hid (K.below b1 q0.out)
  have r1 := Lib.hid (K.below b1 r0.out)
  have B1 := Lib.hid (bthen B0.out b1)
  clear b1 p0 q0 r0 t0 t1 B0
  obtain ⟨z0, z1, z2, z3, z4, z5, z6, z7, z8, z9, z10, z11, z12, z13⟩ := K.fk q1.out
  go_wp2_with fail
  refine Calls.mono (fkOkSB k true HK.out _) ?_
  rintro e w2 ⟨rfl, b2⟩
  have p2 := Lib.hid (K.below b2 p1.out)
  have q2 := Lib.hid (K.below b2 q1.out)
  have r2 := Lib.hid (K.below b2 r1.out)
  have B2 := Lib.hid (bthen B1.out b2)
  clear b2 p1 q1 r1 z0 z1 z2 z3 z4 z5 z6 z7 z8 z9 z10 z11 z12 z13 B1
  go_wp2_with (with_reducible refine storeTb rfl _ _ rfl (w.heap.size + 2) rfl rfl r2.out ?_)
  (try simp only [Exit.inBlock, Exit.then])
  refine bodyPost_ret (v := .tuple #[.agg #[.int .i64 0, .slice none 0 0], .int .i64 1]) (resTbN Try.results40 _ _ (w.heap.size + 2) rfl (setRow_heap _ _ _ _ _ _ r2.out)) rfl ⟨_, by rw [HR.out], by rw [HR.out]; exact TOwn.zero _ _, setRowBT B2.out (by omega) _⟩

set_option maxHeartbeats 4000000 in
theorem tabPutS_3 (s : Int) (A : Option Addr) (n c : Nat) (cs : List Ce) (w : World) (hx : RV w w.heap.size A (fl Ce.cells cs)) (hl : cs.length = n) (hn : n ≤ 1048576) (k : Fk) (nv : Int) (ho : tabOk s cs = true) (hk : k.ok = true) (hv : btw 0 nv 1000000000000 = true) (P : Nat) (hp : placeT cs k = some P) : Calls Try.prog 40 #[.agg #[.int .i64 s, .slice A n c], .agg #[.int .i64 k.tenant, .int .i64 k.key.src.k, .int .i64 k.key.src.a, .int .i64 k.key.src.b, .int .i64 k.key.src.c, .int .i64 k.key.src.d, .int .i64 k.key.dst.k, .int .i64 k.key.dst.a, .int .i64 k.key.dst.b, .int .i64 k.key.dst.c, .int .i64 k.key.dst.d, .int .i64 k.key.proto, .int .i64 k.key.sport, .int .i64 k.key.dport], .int .i64 nv] w fun e w' => ∃ v, e = .returned (.tuple #[v, .int .i64 (tabPut s cs k nv).2]) ∧ TOwn w.heap.size (tabPut s cs k nv).1 w' v ∧ Below w.heap.size w w' := by
  have HX := Lib.hid hx
  have HL := Lib.hid hl
  obtain ⟨hpr, hu, _, hky⟩ := probe_of_place ho hp
  have HR := Lib.hid (tabPut_yes ho hk hv hpr (.inl hu))
  have hP : P < cs.length := probe_lt hpr
  have hlen := tab_len ho
  rw [hl] at hlen
  have HO := Lib.hid ho
  have HK := Lib.hid hk
  have HS := Lib.hid (tabOk_parts ho).1
  have HP := Lib.hid hpr
  have e1 : ¬ nv < 0 := by simp [btw] at hv; omega
  have e2 : ¬ (1000000000000 : Int) < nv := by simp [btw] at hv; omega
  obtain ⟨g, o, rfl, hg, hc0⟩ := HX.out.flat Ce.cells_length (by omega) hP
  have PL := Lib.hid (fun (v : World) (hr : RV v v.heap.size (some ⟨g, o, none⟩) (fl Ce.cells cs)) => (show Calls Try.prog 73 #[.agg #[.int .i64 s, .slice (some ⟨g, o, none⟩) n c], .agg #[.int .i64 k.tenant, .int .i64 k.key.src.k, .int .i64 k.key.src.a, .int .i64 k.key.src.b, .int .i64 k.key.src.c, .int .i64 k.key.src.d, .int .i64 k.key.dst.k, .int .i64 k.key.dst.a, .int .i64 k.key.dst.b, .int .i64 k.key.dst.c, .int .i64 k.key.dst.d, .int .i64 k.key.proto, .int .i64 k.key.sport, .int .i64 k.key.dport]] v fun e w' => e = .returned (.int .i64 ((P : Int))) ∧ Below v.heap.size v w' by
    have h := placeS s (some ⟨g, o, none⟩) n c cs v hr hl hn k
    rw [show idx (placeT cs k) = (P : Int) by rw [hp]; rfl] at h
    exact h))
  have HN := Lib.hid (put_num (nv := nv) hP hu hky)
  have hP0 : ¬ ((P : Int) < 0) := by omega
  have hP1 : (0 : Int) ≤ (P : Int) := by omega
  have hPn : P < n := by rw [← hl]; exact hP
  clear ho hk hv hpr hu hky hp hx hl hg hc0 hP
  have p0 : Hid ((((w.alloc (.cells #[.int .i64 s, .slice (some ⟨g, o, none⟩) n c] 40)).alloc (.cells #[.int .i64 k.tenant, .int .i64 k.key.src.k, .int .i64 k.key.src.a, .int .i64 k.key.src.b, .int .i64 k.key.src.c, .int .i64 k.key.src.d, .int .i64 k.key.dst.k, .int .i64 k.key.dst.a, .int .i64 k.key.dst.b, .int .i64 k.key.dst.c, .int .i64 k.key.dst.d, .int .i64 k.key.proto, .int .i64 k.key.sport, .int .i64 k.key.dport] 33)).alloc (.cells #[.int .i64 0, .slice none 0 0] 40)).heap[w.heap.size]? = some (.cells #[.int .i64 s, .slice (some ⟨g, o, none⟩) n c] 40 (0, 0))) := Lib.hid (K.old (K.old (K.new w _) _) _)
  have q0 : Hid ((((w.alloc (.cells #[.int .i64 s, .slice (some ⟨g, o, none⟩) n c] 40)).alloc (.cells #[.int .i64 k.tenant, .int .i64 k.key.src.k, .int .i64 k.key.src.a, .int .i64 k.key.src.b, .int .i64 k.key.src.c, .int .i64 k.key.src.d, .int .i64 k.key.dst.k, .int .i64 k.key.dst.a, .int .i64 k.key.dst.b, .int .i64 k.key.dst.c, .int .i64 k.key.dst.d, .int .i64 k.key.proto, .int .i64 k.key.sport, .int .i64 k.key.dport] 33)).alloc (.cells #[.int .i64 0, .slice none 0 0] 40)).heap[w.heap.size + 1]? = some (.cells #[.int .i64 k.tenant, .int .i64 k.key.src.k, .int .i64 k.key.src.a, .int .i64 k.key.src.b, .int .i64 k.key.src.c, .int .i64 k.key.src.d, .int .i64 k.key.dst.k, .int .i64 k.key.dst.a, .int .i64 k.key.dst.b, .int .i64 k.key.dst.c, .int .i64 k.key.dst.d, .int .i64 k.key.proto, .int .i64 k.key.sport, .int .i64 k.key.dport] 33 (0, 0))) := Lib.hid (K.old (K.newAt (by simp)) _)
  have r0 : Hid ((((w.alloc (.cells #[.int .i64 s, .slice (some ⟨g, o, none⟩) n c] 40)).alloc (.cells #[.int .i64 k.tenant, .int .i64 k.key.src.k, .int .i64 k.key.src.a, .int .i64 k.key.src.b, .int .i64 k.key.src.c, .int .i64 k.key.src.d, .int .i64 k.key.dst.k, .int .i64 k.key.dst.a, .int .i64 k.key.dst.b, .int .i64 k.key.dst.c, .int .i64 k.key.dst.d, .int .i64 k.key.proto, .int .i64 k.key.sport, .int .i64 k.key.dport] 33)).alloc (.cells #[.int .i64 0, .slice none 0 0] 40)).heap[w.heap.size + 2]? = some (.cells #[.int .i64 0, .slice none 0 0] 40 (0, 0))) := Lib.hid (K.newAt (by simp))
  have B0 : Hid (Below w.heap.size w (((w.alloc (.cells #[.int .i64 s, .slice (some ⟨g, o, none⟩) n c] 40)).alloc (.cells #[.int .i64 k.tenant, .int .i64 k.key.src.k, .int .i64 k.key.src.a, .int .i64 k.key.src.b, .int .i64 k.key.src.c, .int .i64 k.key.src.d, .int .i64 k.key.dst.k, .int .i64 k.key.dst.a, .int .i64 k.key.dst.b, .int .i64 k.key.dst.c, .int .i64 k.key.dst.d, .int .i64 k.key.proto, .int .i64 k.key.sport, .int .i64 k.key.dport] 33)).alloc (.cells #[.int .i64 0, .slice none 0 0] 40))) := Lib.hid (bthen (Joins.below_alloc2 w (.cells #[.int .i64 s, .slice (some ⟨g, o, none⟩) n c] 40) (.cells #[.int .i64 k.tenant, .int .i64 k.key.src.k, .int .i64 k.key.src.a, .int .i64 k.key.src.b, .int .i64 k.key.src.c, .int .i64 k.key.src.d, .int .i64 k.key.dst.k, .int .i64 k.key.dst.a, .int .i64 k.key.dst.b, .int .i64 k.key.dst.c, .int .i64 k.key.dst.d, .int .i64 k.key.proto, .int .i64 k.key.sport, .int .i64 k.key.dport] 33)) (Joins.below_alloc1 _ _))
  have t0 := K.cell p0.out 0 _ rfl
  have t1 := K.cell p0.out 1 _ rfl
  go_enter Try.func40, Try.ntmps40
  go_wp2_with fail
  refine Calls.mono (tabOkSB s (some ⟨g, o, none⟩) n c cs _ (HX.out.on B0.out) HL.out hn true HO.out) ?_
  rintro e w1 ⟨rfl, b1⟩
  have p1 := Lib.hid (K.below b1 p0.out)
  have q1 := Lib.hid (K.below b1 q0.out)
  have r1 := Lib.hid (K.below b1 r0.out)
  have B1 := Lib.hid (bthen B0.out b1)
  clear b1 p0 q0 r0 t0 t1 B0
  obtain ⟨z0, z1, z2, z3, z4, z5, z6, z7, z8, z9, z10, z11, z12, z13⟩ := K.fk q1.out
  go_wp2_with fail
  refine Calls.mono (fkOkSB k true HK.out _) ?_
  rintro e w2 ⟨rfl, b2⟩
  have p2 := Lib.hid (K.below b2 p1.out)
  have q2 := Lib.hid (K.below b2 q1.out)
  have r2 := Lib.hid (K.below b2 r1.out)
  have B2 := Lib.hid (bthen B1.out b2)
  clear b2 p1 q1 r1 z0 z1 z2 z3 z4 z5 z6 z7 z8 z9 z10 z11 z12 z13 B1
  obtain ⟨⟨t0, t1⟩, _⟩ := K.row2 p2.out
  go_wp2_with fail
  refine Calls.mono (copyS s g o n c cs _ (HX.out.on B2.out) HL.out hn (by omega)) ?_
  rintro e w3 ⟨D, d, rfl, ow, b3⟩
  obtain ⟨g4, rfl⟩ : ∃ g, D = some ⟨g, 0, none⟩ := by
    rcases ow.2 with ⟨_, h0⟩ | ⟨g, _, _, hv, _⟩
    · omega
    · injection hv with hA _ _
      exact ⟨g, hA⟩
  have p4 := Lib.hid (K.old (K.below b3 p2.out) (.cells #[.int .i64 s, .slice (some ⟨g4, 0, none⟩) n d] 40))
  have q4 := Lib.hid (K.old (K.below b3 q2.out) (.cells #[.int .i64 s, .slice (some ⟨g4, 0, none⟩) n d] 40))
  have r4 := Lib.hid (K.old (K.below b3 r2.out) (.cells #[.int .i64 s, .slice (some ⟨g4, 0, none⟩) n d] 40))
  have x4 := Lib.hid (K.new w3 (.cells #[.int .i64 s, .slice (some ⟨g4, 0, none⟩) n d] 40))
  have O4 := Lib.hid (show (w3.alloc (.cells #[.int .i64 s, .slice (some ⟨g4, 0, none⟩) n d] 40)).ownsRow w.heap.size 93 16 (.slice (some ⟨g4, 0, none⟩) n d) n (fl Ce.cells cs) from own_base (own_below ow (Joins.below_alloc1 w3 _)) B2.out.size)
  have B4 := Lib.hid (bthen (bthen B2.out b3) (Joins.below_alloc1 w3 (.cells #[.int .i64 s, .slice (some ⟨g4, 0, none⟩) n d] 40)))
  clear ow b3 t0 t1 p2 q2 r2 B2
  obtain ⟨⟨t0, t1⟩, _⟩ := K.row2 p4.out
  obtain ⟨z0, z1, z2, z3, z4, z5, z6, z7, z8, z9, z10, z11, z12, z13⟩ := K.fk q4.out
  go_wp2_with fail
  refine Calls.mono (PL.out _ (HX.out.on B4.out)) ?_
  rintro e w5 ⟨rfl, b5⟩
  have O5 := Lib.hid (own_below O4.out b5)
  have p5 := Lib.hid (K.below b5 p4.out)
  have q5 := Lib.hid (K.below b5 q4.out)
  have r5 := Lib.hid (K.below b5 r4.out)
  have x5 := Lib.hid (K.below b5 x4.out)
  have B5 := Lib.hid (bthen B4.out b5)
  clear b5 p4 q4 r4 x4 t0 t1 O4 z0 z1 z2 z3 z4 z5 z6 z7 z8 z9 z10 z11 z12 z13 B4
  obtain ⟨⟨t0, t1⟩, _⟩ := K.row2 x5.out
  obtain ⟨u15, c15⟩ := cell_of_own O5.out (P * 16 + 15) (by omega)
  have f15 : w5.frozen? ⟨g4, P * 16 + 15, none⟩ = false := O5.out.frozenAt _
  go_upto_region 7 with fail
  have O6 := Lib.hid (show (w5.setCell ⟨g4, P * 16 + 15, none⟩ (.int .i64 nv)).ownsRow w.heap.size 93 16 (.slice (some ⟨g4, 0, none⟩) n d) n (fl Ce.cells (putAt cs P k nv)) by
    rw [← HN.out]
    exact own_putCells [.int .i64 nv] w5 (P * 16 + 15) _ O5.out)
  have gr : w5.grownBy (w5.setCell ⟨g4, P * 16 + 15, none⟩ (.int .i64 nv)) (some g4) := grown_setCell1 _ _ _ _
  have X6 := Lib.hid (K.kept gr x5.out (fun q hq => own_neB O5.out x5.out (by decide) q hq))
  have R6 := Lib.hid (K.kept gr r5.out (fun q hq => own_neB O5.out r5.out (by decide) q hq))
  have B6 := Lib.hid (bgrown B5.out gr (fun q hq => (O5.out.lt q hq).1))
  clear gr t0 t1 c15 f15 p5 q5 r5 x5 O5 B5
  generalize w5.setCell ⟨g4, P * 16 + 15, none⟩ (.int .i64 nv) = w6 at O6 X6 R6 B6 ⊢
  obtain ⟨⟨t0, t1⟩, _⟩ := K.row2 X6.out
  go_wp2_with (with_reducible refine storeTb rfl _ _ rfl (w.heap.size + 2) rfl rfl R6.out ?_)
  (try simp only [Exit.inBlock, Exit.then])
  refine bodyPost_ret (v := .tuple #[.agg #[.int .i64 s, .slice (some ⟨g4, 0, none⟩) n d], .int .i64 0]) (resTbN Try.results40 _ _ (w.heap.size + 2) rfl (setRow_heap _ _ _ _ _ _ R6.out)) rfl ⟨_, by rw [HR.out], ?_, setRowBT B6.out (by omega) _⟩
  rw [HR.out]
  exact ⟨_, n, d, rfl, own_grown O6.out (setRow_grownT _ _ _) (fun q hq e => own_neB O6.out R6.out (by decide) q hq (Option.some.inj e))⟩

set_option maxHeartbeats 4000000 in
theorem tabPutS_4 (s : Int) (A : Option Addr) (n c : Nat) (cs : List Ce) (w : World) (hx : RV w w.heap.size A (fl Ce.cells cs)) (hl : cs.length = n) (hn : n ≤ 1048576) (k : Fk) (nv : Int) (ho : tabOk s cs = true) (hk : k.ok = true) (hv : btw 0 nv 1000000000000 = true) (P : Nat) (hpr : probeT s cs k = some P) (hp : placeT cs k = none) (hf : usedN cs = cs.length / 4 * 3) : Calls Try.prog 40 #[.agg #[.int .i64 s, .slice A n c], .agg #[.int .i64 k.tenant, .int .i64 k.key.src.k, .int .i64 k.key.src.a, .int .i64 k.key.src.b, .int .i64 k.key.src.c, .int .i64 k.key.src.d, .int .i64 k.key.dst.k, .int .i64 k.key.dst.a, .int .i64 k.key.dst.b, .int .i64 k.key.dst.c, .int .i64 k.key.dst.d, .int .i64 k.key.proto, .int .i64 k.key.sport, .int .i64 k.key.dport], .int .i64 nv] w fun e w' => ∃ v, e = .returned (.tuple #[v, .int .i64 (tabPut s cs k nv).2]) ∧ TOwn w.heap.size (tabPut s cs k nv).1 w' v ∧ Below w.heap.size w w' := by
  have HX := Lib.hid hx
  have HL := Lib.hid hl
  have hu := unused_of_none ho hp hpr
  have HR := Lib.hid (tabPut_full ho hk hv hpr hu hf)
  have hP : P < cs.length := probe_lt hpr
  have hlen := tab_len ho
  rw [hl] at hlen
  have HO := Lib.hid ho
  have HK := Lib.hid hk
  have HS := Lib.hid (tabOk_parts ho).1
  have HP := Lib.hid hpr
  have e1 : ¬ nv < 0 := by simp [btw] at hv; omega
  have e2 : ¬ (1000000000000 : Int) < nv := by simp [btw] at hv; omega
  obtain ⟨g, o, rfl, hg, hc0⟩ := HX.out.flat Ce.cells_length (by omega) hP
  have PL := Lib.hid (fun (v : World) (hr : RV v v.heap.size (some ⟨g, o, none⟩) (fl Ce.cells cs)) => (show Calls Try.prog 73 #[.agg #[.int .i64 s, .slice (some ⟨g, o, none⟩) n c], .agg #[.int .i64 k.tenant, .int .i64 k.key.src.k, .int .i64 k.key.src.a, .int .i64 k.key.src.b, .int .i64 k.key.src.c, .int .i64 k.key.src.d, .int .i64 k.key.dst.k, .int .i64 k.key.dst.a, .int .i64 k.key.dst.b, .int .i64 k.key.dst.c, .int .i64 k.key.dst.d, .int .i64 k.key.proto, .int .i64 k.key.sport, .int .i64 k.key.dport]] v fun e w' => e = .returned (.int .i64 (-1)) ∧ Below v.heap.size v w' by
    have h := placeS s (some ⟨g, o, none⟩) n c cs v hr hl hn k
    rw [show idx (placeT cs k) = -1 by rw [hp]; rfl] at h
    exact h))
  have hsz := (tabOk_parts ho).2.1
  have hle := (tabOk_parts ho).2.2.1
  rw [hl] at hsz hle hf
  rw [sizeOk_iff] at hsz
  have e3 : 3 * (n : Int) < 4 * ((usedN cs : Int) + 1) := by omega
  have HNO := Lib.hid (show ∀ j, j < n → (ceAt cs j).used = true → (ceAt cs j).key ≠ k by rw [← hl]; exact place_none.1 hp)
  clear ho hk hv hpr hu hp hx hl hg hc0 hP hf
  have p0 : Hid ((((w.alloc (.cells #[.int .i64 s, .slice (some ⟨g, o, none⟩) n c] 40)).alloc (.cells #[.int .i64 k.tenant, .int .i64 k.key.src.k, .int .i64 k.key.src.a, .int .i64 k.key.src.b, .int .i64 k.key.src.c, .int .i64 k.key.src.d, .int .i64 k.key.dst.k, .int .i64 k.key.dst.a, .int .i64 k.key.dst.b, .int .i64 k.key.dst.c, .int .i64 k.key.dst.d, .int .i64 k.key.proto, .int .i64 k.key.sport, .int .i64 k.key.dport] 33)).alloc (.cells #[.int .i64 0, .slice none 0 0] 40)).heap[w.heap.size]? = some (.cells #[.int .i64 s, .slice (some ⟨g, o, none⟩) n c] 40 (0, 0))) := Lib.hid (K.old (K.old (K.new w _) _) _)
  have q0 : Hid ((((w.alloc (.cells #[.int .i64 s, .slice (some ⟨g, o, none⟩) n c] 40)).alloc (.cells #[.int .i64 k.tenant, .int .i64 k.key.src.k, .int .i64 k.key.src.a, .int .i64 k.key.src.b, .int .i64 k.key.src.c, .int .i64 k.key.src.d, .int .i64 k.key.dst.k, .int .i64 k.key.dst.a, .int .i64 k.key.dst.b, .int .i64 k.key.dst.c, .int .i64 k.key.dst.d, .int .i64 k.key.proto, .int .i64 k.key.sport, .int .i64 k.key.dport] 33)).alloc (.cells #[.int .i64 0, .slice none 0 0] 40)).heap[w.heap.size + 1]? = some (.cells #[.int .i64 k.tenant, .int .i64 k.key.src.k, .int .i64 k.key.src.a, .int .i64 k.key.src.b, .int .i64 k.key.src.c, .int .i64 k.key.src.d, .int .i64 k.key.dst.k, .int .i64 k.key.dst.a, .int .i64 k.key.dst.b, .int .i64 k.key.dst.c, .int .i64 k.key.dst.d, .int .i64 k.key.proto, .int .i64 k.key.sport, .int .i64 k.key.dport] 33 (0, 0))) := Lib.hid (K.old (K.newAt (by simp)) _)
  have r0 : Hid ((((w.alloc (.cells #[.int .i64 s, .slice (some ⟨g, o, none⟩) n c] 40)).alloc (.cells #[.int .i64 k.tenant, .int .i64 k.key.src.k, .int .i64 k.key.src.a, .int .i64 k.key.src.b, .int .i64 k.key.src.c, .int .i64 k.key.src.d, .int .i64 k.key.dst.k, .int .i64 k.key.dst.a, .int .i64 k.key.dst.b, .int .i64 k.key.dst.c, .int .i64 k.key.dst.d, .int .i64 k.key.proto, .int .i64 k.key.sport, .int .i64 k.key.dport] 33)).alloc (.cells #[.int .i64 0, .slice none 0 0] 40)).heap[w.heap.size + 2]? = some (.cells #[.int .i64 0, .slice none 0 0] 40 (0, 0))) := Lib.hid (K.newAt (by simp))
  have B0 : Hid (Below w.heap.size w (((w.alloc (.cells #[.int .i64 s, .slice (some ⟨g, o, none⟩) n c] 40)).alloc (.cells #[.int .i64 k.tenant, .int .i64 k.key.src.k, .int .i64 k.key.src.a, .int .i64 k.key.src.b, .int .i64 k.key.src.c, .int .i64 k.key.src.d, .int .i64 k.key.dst.k, .int .i64 k.key.dst.a, .int .i64 k.key.dst.b, .int .i64 k.key.dst.c, .int .i64 k.key.dst.d, .int .i64 k.key.proto, .int .i64 k.key.sport, .int .i64 k.key.dport] 33)).alloc (.cells #[.int .i64 0, .slice none 0 0] 40))) := Lib.hid (bthen (Joins.below_alloc2 w (.cells #[.int .i64 s, .slice (some ⟨g, o, none⟩) n c] 40) (.cells #[.int .i64 k.tenant, .int .i64 k.key.src.k, .int .i64 k.key.src.a, .int .i64 k.key.src.b, .int .i64 k.key.src.c, .int .i64 k.key.src.d, .int .i64 k.key.dst.k, .int .i64 k.key.dst.a, .int .i64 k.key.dst.b, .int .i64 k.key.dst.c, .int .i64 k.key.dst.d, .int .i64 k.key.proto, .int .i64 k.key.sport, .int .i64 k.key.dport] 33)) (Joins.below_alloc1 _ _))
  have t0 := K.cell p0.out 0 _ rfl
  have t1 := K.cell p0.out 1 _ rfl
  go_enter Try.func40, Try.ntmps40
  go_wp2_with fail
  refine Calls.mono (tabOkSB s (some ⟨g, o, none⟩) n c cs _ (HX.out.on B0.out) HL.out hn true HO.out) ?_
  rintro e w1 ⟨rfl, b1⟩
  have p1 := Lib.hid (K.below b1 p0.out)
  have q1 := Lib.hid (K.below b1 q0.out)
  have r1 := Lib.hid (K.below b1 r0.out)
  have B1 := Lib.hid (bthen B0.out b1)
  clear b1 p0 q0 r0 t0 t1 B0
  obtain ⟨z0, z1, z2, z3, z4, z5, z6, z7, z8, z9, z10, z11, z12, z13⟩ := K.fk q1.out
  go_wp2_with fail
  refine Calls.mono (fkOkSB k true HK.out _) ?_
  rintro e w2 ⟨rfl, b2⟩
  have p2 := Lib.hid (K.below b2 p1.out)
  have q2 := Lib.hid (K.below b2 q1.out)
  have r2 := Lib.hid (K.below b2 r1.out)
  have B2 := Lib.hid (bthen B1.out b2)
  clear b2 p1 q1 r1 z0 z1 z2 z3 z4 z5 z6 z7 z8 z9 z10 z11 z12 z13 B1
  obtain ⟨⟨t0, t1⟩, _⟩ := K.row2 p2.out
  go_wp2_with fail
  refine Calls.mono (copyS s g o n c cs _ (HX.out.on B2.out) HL.out hn (by omega)) ?_
  rintro e w3 ⟨D, d, rfl, ow, b3⟩
  obtain ⟨g4, rfl⟩ : ∃ g, D = some ⟨g, 0, none⟩ := by
    rcases ow.2 with ⟨_, h0⟩ | ⟨g, _, _, hv, _⟩
    · omega
    · injection hv with hA _ _
      exact ⟨g, hA⟩
  have p4 := Lib.hid (K.old (K.below b3 p2.out) (.cells #[.int .i64 s, .slice (some ⟨g4, 0, none⟩) n d] 40))
  have q4 := Lib.hid (K.old (K.below b3 q2.out) (.cells #[.int .i64 s, .slice (some ⟨g4, 0, none⟩) n d] 40))
  have r4 := Lib.hid (K.old (K.below b3 r2.out) (.cells #[.int .i64 s, .slice (some ⟨g4, 0, none⟩) n d] 40))
  have x4 := Lib.hid (K.new w3 (.cells #[.int .i64 s, .slice (some ⟨g4, 0, none⟩) n d] 40))
  have O4 := Lib.hid (show (w3.alloc (.cells #[.int .i64 s, .slice (some ⟨g4, 0, none⟩) n d] 40)).ownsRow w.heap.size 93 16 (.slice (some ⟨g4, 0, none⟩) n d) n (fl Ce.cells cs) from own_base (own_below ow (Joins.below_alloc1 w3 _)) B2.out.size)
  have B4 := Lib.hid (bthen (bthen B2.out b3) (Joins.below_alloc1 w3 (.cells #[.int .i64 s, .slice (some ⟨g4, 0, none⟩) n d] 40)))
  clear ow b3 t0 t1 p2 q2 r2 B2
  obtain ⟨⟨t0, t1⟩, _⟩ := K.row2 p4.out
  obtain ⟨z0, z1, z2, z3, z4, z5, z6, z7, z8, z9, z10, z11, z12, z13⟩ := K.fk q4.out
  go_wp2_with fail
  refine Calls.mono (PL.out _ (HX.out.on B4.out)) ?_
  rintro e w5 ⟨rfl, b5⟩
  have O5 := Lib.hid (own_below O4.out b5)
  have p5 := Lib.hid (K.below b5 p4.out)
  have q5 := Lib.hid (K.below b5 q4.out)
  have r5 := Lib.hid (K.below b5 r4.out)
  have x5 := Lib.hid (K.below b5 x4.out)
  have B5 := Lib.hid (bthen B4.out b5)
  clear b5 p4 q4 r4 x4 t0 t1 O4 z0 z1 z2 z3 z4 z5 z6 z7 z8 z9 z10 z11 z12 z13 B4
  go_wp2_with fail
  refine wp_region_guards (by kernel_rfl) 8 56 [(0, 41), (1, 42), (2, 43), (3, 44), (4, 45), (5, 46), (6, 47), (7, 48)] _ ([.val (.agg #[.int .i64 s, .slice (some ⟨g, o, none⟩) n c]), .val (.int .i64 (usedN cs : Int)), .val (.int .i64 ((usedN cs : Int) + 1)), .val (.int .i64 (4 * ((usedN cs : Int) + 1))), .val (.pointer (some ⟨w.heap.size, 1, none⟩)), .val (.slice (some ⟨g, o, none⟩) n c), .val (.int .i64 (n : Int)), .val (.int .i64 (3 * (n : Int)))]) (by kernel_rfl) (by kernel_rfl) (by kernel_rfl) rfl rfl ?_ ?_
  · intro j o hj ho hr a' v K' hx hnd hB hK
    match j, hj, ho, hr with
    | 0, _, ho, _ =>
      obtain rfl := Option.some.inj ho
      have h0 : a'.eval (.tmp 3) = .pointer (some ⟨w.heap.size, 0, none⟩) := (hx 3 (by decide)).trans rfl
      exact r_tab _ _ _ _ rfl h0 (K.below hB p5.out) (hK _ _ rfl (Below.refl _ _))
    | 1, _, ho, _ =>
      obtain rfl := Option.some.inj ho
      have h0 : a'.eval (.tmp 41) = .agg #[.int .i64 s, .slice (some ⟨g, o, none⟩) n c] := (gds_of hnd 0 41 (by kernel_rfl) :)
      refine u_cntP _ _ _ rfl h0 (Calls.mono (countS s (some ⟨g, o, none⟩) n c cs _ (HX.out.on (bthen B5.out hB)) HL.out hn) ?_)
      rintro e' v' ⟨rfl, b6⟩
      exact ⟨_, rfl, hK _ _ rfl b6⟩
    | 2, _, ho, _ =>
      obtain rfl := Option.some.inj ho
      have h0 : a'.eval (.tmp 42) = .int .i64 (usedN cs : Int) := (gds_of hnd 1 42 (by kernel_rfl) :)
      exact t_addP _ _ (usedN cs : Int) 1 ((usedN cs : Int) + 1) rfl h0 rfl (wrapP (by omega) (by omega)) (hK _ _ rfl (Below.refl _ _))
    | 3, _, ho, _ =>
      obtain rfl := Option.some.inj ho
      have h0 : a'.eval (.tmp 43) = .int .i64 ((usedN cs : Int) + 1) := (gds_of hnd 2 43 (by kernel_rfl) :)
      exact t_mulP _ _ 4 ((usedN cs : Int) + 1) (4 * ((usedN cs : Int) + 1)) rfl rfl h0 (wrapP (by omega) (by omega)) (hK _ _ rfl (Below.refl _ _))
    | 4, _, ho, _ =>
      obtain rfl := Option.some.inj ho
      have h0 : a'.eval (.tmp 3) = .pointer (some ⟨w.heap.size, 0, none⟩) := (hx 3 (by decide)).trans rfl
      exact f_tab1 _ _ rfl h0 (hK _ _ rfl (Below.refl _ _))
    | 5, _, ho, _ =>
      obtain rfl := Option.some.inj ho
      have h0 : a'.eval (.tmp 45) = .pointer (some ⟨w.heap.size, 1, none⟩) := (gds_of hnd 4 45 (by kernel_rfl) :)
      exact t_sl _ _ _ _ rfl h0 (K.cell (K.below hB p5.out) 1 _ rfl) (hK _ _ rfl (Below.refl _ _))
    | 6, _, ho, _ =>
      obtain rfl := Option.some.inj ho
      have h0 : a'.eval (.tmp 46) = .slice (some ⟨g, o, none⟩) n c := (gds_of hnd 5 46 (by kernel_rfl) :)
      exact t_len _ _ _ _ rfl h0 (hK _ _ rfl (Below.refl _ _))
    | 7, _, ho, _ =>
      obtain rfl := Option.some.inj ho
      have h0 : a'.eval (.tmp 47) = .int .i64 (n : Int) := (gds_of hnd 6 47 (by kernel_rfl) :)
      exact t_mulP _ _ 3 (n : Int) (3 * (n : Int)) rfl rfl h0 (wrapP (by omega) (by omega)) (hK _ _ rfl (Below.refl _ _))
    | j + 8, hj, _, _ => omega
  · intro f v hf hB
    have e0 : f 0 = (.agg #[.int .i64 s, .slice (some ⟨g, o, none⟩) n c]) := hf (0, 41) (by decide)
    have e1 : f 1 = (.int .i64 (usedN cs : Int)) := hf (1, 42) (by decide)
    have e2 : f 2 = (.int .i64 ((usedN cs : Int) + 1)) := hf (2, 43) (by decide)
    have e3 : f 3 = (.int .i64 (4 * ((usedN cs : Int) + 1))) := hf (3, 44) (by decide)
    have e4 : f 4 = (.pointer (some ⟨w.heap.size, 1, none⟩)) := hf (4, 45) (by decide)
    have e5 : f 5 = (.slice (some ⟨g, o, none⟩) n c) := hf (5, 46) (by decide)
    have e6 : f 6 = (.int .i64 (n : Int)) := hf (6, 47) (by decide)
    have e7 : f 7 = (.int .i64 (3 * (n : Int))) := hf (7, 48) (by decide)
    simp only [List.foldl_cons, List.foldl_nil, List.drop_succ_cons, List.drop_zero, e0, e1, e2, e3, e4, e5, e6, e7]
    clear e0 e1 e2 e3 e4 e5 e6 e7 hf
    go_simp
    have r6 := Lib.hid (K.below hB r5.out)
    have B6 := Lib.hid (bthen B5.out hB)
    clear hB
    go_wp2_with (with_reducible refine storeTb rfl _ _ rfl (w.heap.size + 2) rfl rfl r6.out ?_)
    (try simp only [Exit.inBlock, Exit.then])
    refine bodyPost_ret (v := .tuple #[.agg #[.int .i64 0, .slice none 0 0], .int .i64 2]) (resTbN Try.results40 _ _ (w.heap.size + 2) rfl (setRow_heap _ _ _ _ _ _ r6.out)) rfl ⟨_, by rw [HR.out], by rw [HR.out]; exact TOwn.zero _ _, setRowBT B6.out (by omega) _⟩

set_option maxHeartbeats 4000000 in
theorem tabPutS_5 (s : Int) (A : Option Addr) (n c : Nat) (cs : List Ce) (w : World) (hx : RV w w.heap.size A (fl Ce.cells cs)) (hl : cs.length = n) (hn : n ≤ 1048576) (k : Fk) (nv : Int) (ho : tabOk s cs = true) (hk : k.ok = true) (hv : btw 0 nv 1000000000000 = true) (P : Nat) (hpr : probeT s cs k = some P) (hp : placeT cs k = none) (hf : ¬ usedN cs = cs.length / 4 * 3) : Calls Try.prog 40 #[.agg #[.int .i64 s, .slice A n c], .agg #[.int .i64 k.tenant, .int .i64 k.key.src.k, .int .i64 k.key.src.a, .int .i64 k.key.src.b, .int .i64 k.key.src.c, .int .i64 k.key.src.d, .int .i64 k.key.dst.k, .int .i64 k.key.dst.a, .int .i64 k.key.dst.b, .int .i64 k.key.dst.c, .int .i64 k.key.dst.d, .int .i64 k.key.proto, .int .i64 k.key.sport, .int .i64 k.key.dport], .int .i64 nv] w fun e w' => ∃ v, e = .returned (.tuple #[v, .int .i64 (tabPut s cs k nv).2]) ∧ TOwn w.heap.size (tabPut s cs k nv).1 w' v ∧ Below w.heap.size w w' := by
  have HX := Lib.hid hx
  have HL := Lib.hid hl
  have hu := unused_of_none ho hp hpr
  have HR := Lib.hid (tabPut_yes ho hk hv hpr (.inr hf))
  have hP : P < cs.length := probe_lt hpr
  have hlen := tab_len ho
  rw [hl] at hlen
  have HO := Lib.hid ho
  have HK := Lib.hid hk
  have HS := Lib.hid (tabOk_parts ho).1
  have HP := Lib.hid hpr
  have e1 : ¬ nv < 0 := by simp [btw] at hv; omega
  have e2 : ¬ (1000000000000 : Int) < nv := by simp [btw] at hv; omega
  obtain ⟨g, o, rfl, hg, hc0⟩ := HX.out.flat Ce.cells_length (by omega) hP
  have PL := Lib.hid (fun (v : World) (hr : RV v v.heap.size (some ⟨g, o, none⟩) (fl Ce.cells cs)) => (show Calls Try.prog 73 #[.agg #[.int .i64 s, .slice (some ⟨g, o, none⟩) n c], .agg #[.int .i64 k.tenant, .int .i64 k.key.src.k, .int .i64 k.key.src.a, .int .i64 k.key.src.b, .int .i64 k.key.src.c, .int .i64 k.key.src.d, .int .i64 k.key.dst.k, .int .i64 k.key.dst.a, .int .i64 k.key.dst.b, .int .i64 k.key.dst.c, .int .i64 k.key.dst.d, .int .i64 k.key.proto, .int .i64 k.key.sport, .int .i64 k.key.dport]] v fun e w' => e = .returned (.int .i64 (-1)) ∧ Below v.heap.size v w' by
    have h := placeS s (some ⟨g, o, none⟩) n c cs v hr hl hn k
    rw [show idx (placeT cs k) = -1 by rw [hp]; rfl] at h
    exact h))
  have hsz := (tabOk_parts ho).2.1
  have hle := (tabOk_parts ho).2.2.1
  rw [hl] at hsz hle hf
  rw [sizeOk_iff] at hsz
  have e3 : ¬ 3 * (n : Int) < 4 * ((usedN cs : Int) + 1) := by omega
  have HNO := Lib.hid (show ∀ j, j < n → (ceAt cs j).used = true → (ceAt cs j).key ≠ k by rw [← hl]; exact place_none.1 hp)
  clear ho hk hv hpr hu hp hx hl hg hc0 hP hf
  have p0 : Hid ((((w.alloc (.cells #[.int .i64 s, .slice (some ⟨g, o, none⟩) n c] 40)).alloc (.cells #[.int .i64 k.tenant, .int .i64 k.key.src.k, .int .i64 k.key.src.a, .int .i64 k.key.src.b, .int .i64 k.key.src.c, .int .i64 k.key.src.d, .int .i64 k.key.dst.k, .int .i64 k.key.dst.a, .int .i64 k.key.dst.b, .int .i64 k.key.dst.c, .int .i64 k.key.dst.d, .int .i64 k.key.proto, .int .i64 k.key.sport, .int .i64 k.key.dport] 33)).alloc (.cells #[.int .i64 0, .slice none 0 0] 40)).heap[w.heap.size]? = some (.cells #[.int .i64 s, .slice (some ⟨g, o, none⟩) n c] 40 (0, 0))) := Lib.hid (K.old (K.old (K.new w _) _) _)
  have q0 : Hid ((((w.alloc (.cells #[.int .i64 s, .slice (some ⟨g, o, none⟩) n c] 40)).alloc (.cells #[.int .i64 k.tenant, .int .i64 k.key.src.k, .int .i64 k.key.src.a, .int .i64 k.key.src.b, .int .i64 k.key.src.c, .int .i64 k.key.src.d, .int .i64 k.key.dst.k, .int .i64 k.key.dst.a, .int .i64 k.key.dst.b, .int .i64 k.key.dst.c, .int .i64 k.key.dst.d, .int .i64 k.key.proto, .int .i64 k.key.sport, .int .i64 k.key.dport] 33)).alloc (.cells #[.int .i64 0, .slice none 0 0] 40)).heap[w.heap.size + 1]? = some (.cells #[.int .i64 k.tenant, .int .i64 k.key.src.k, .int .i64 k.key.src.a, .int .i64 k.key.src.b, .int .i64 k.key.src.c, .int .i64 k.key.src.d, .int .i64 k.key.dst.k, .int .i64 k.key.dst.a, .int .i64 k.key.dst.b, .int .i64 k.key.dst.c, .int .i64 k.key.dst.d, .int .i64 k.key.proto, .int .i64 k.key.sport, .int .i64 k.key.dport] 33 (0, 0))) := Lib.hid (K.old (K.newAt (by simp)) _)
  have r0 : Hid ((((w.alloc (.cells #[.int .i64 s, .slice (some ⟨g, o, none⟩) n c] 40)).alloc (.cells #[.int .i64 k.tenant, .int .i64 k.key.src.k, .int .i64 k.key.src.a, .int .i64 k.key.src.b, .int .i64 k.key.src.c, .int .i64 k.key.src.d, .int .i64 k.key.dst.k, .int .i64 k.key.dst.a, .int .i64 k.key.dst.b, .int .i64 k.key.dst.c, .int .i64 k.key.dst.d, .int .i64 k.key.proto, .int .i64 k.key.sport, .int .i64 k.key.dport] 33)).alloc (.cells #[.int .i64 0, .slice none 0 0] 40)).heap[w.heap.size + 2]? = some (.cells #[.int .i64 0, .slice none 0 0] 40 (0, 0))) := Lib.hid (K.newAt (by simp))
  have B0 : Hid (Below w.heap.size w (((w.alloc (.cells #[.int .i64 s, .slice (some ⟨g, o, none⟩) n c] 40)).alloc (.cells #[.int .i64 k.tenant, .int .i64 k.key.src.k, .int .i64 k.key.src.a, .int .i64 k.key.src.b, .int .i64 k.key.src.c, .int .i64 k.key.src.d, .int .i64 k.key.dst.k, .int .i64 k.key.dst.a, .int .i64 k.key.dst.b, .int .i64 k.key.dst.c, .int .i64 k.key.dst.d, .int .i64 k.key.proto, .int .i64 k.key.sport, .int .i64 k.key.dport] 33)).alloc (.cells #[.int .i64 0, .slice none 0 0] 40))) := Lib.hid (bthen (Joins.below_alloc2 w (.cells #[.int .i64 s, .slice (some ⟨g, o, none⟩) n c] 40) (.cells #[.int .i64 k.tenant, .int .i64 k.key.src.k, .int .i64 k.key.src.a, .int .i64 k.key.src.b, .int .i64 k.key.src.c, .int .i64 k.key.src.d, .int .i64 k.key.dst.k, .int .i64 k.key.dst.a, .int .i64 k.key.dst.b, .int .i64 k.key.dst.c, .int .i64 k.key.dst.d, .int .i64 k.key.proto, .int .i64 k.key.sport, .int .i64 k.key.dport] 33)) (Joins.below_alloc1 _ _))
  have t0 := K.cell p0.out 0 _ rfl
  have t1 := K.cell p0.out 1 _ rfl
  go_enter Try.func40, Try.ntmps40
  go_wp2_with fail
  refine Calls.mono (tabOkSB s (some ⟨g, o, none⟩) n c cs _ (HX.out.on B0.out) HL.out hn true HO.out) ?_
  rintro e w1 ⟨rfl, b1⟩
  have p1 := Lib.hid (K.below b1 p0.out)
  have q1 := Lib.hid (K.below b1 q0.out)
  have r1 := Lib.hid (K.below b1 r0.out)
  have B1 := Lib.hid (bthen B0.out b1)
  clear b1 p0 q0 r0 t0 t1 B0
  obtain ⟨z0, z1, z2, z3, z4, z5, z6, z7, z8, z9, z10, z11, z12, z13⟩ := K.fk q1.out
  go_wp2_with fail
  refine Calls.mono (fkOkSB k true HK.out _) ?_
  rintro e w2 ⟨rfl, b2⟩
  have p2 := Lib.hid (K.below b2 p1.out)
  have q2 := Lib.hid (K.below b2 q1.out)
  have r2 := Lib.hid (K.below b2 r1.out)
  have B2 := Lib.hid (bthen B1.out b2)
  clear b2 p1 q1 r1 z0 z1 z2 z3 z4 z5 z6 z7 z8 z9 z10 z11 z12 z13 B1
  obtain ⟨⟨t0, t1⟩, _⟩ := K.row2 p2.out
  go_wp2_with fail
  refine Calls.mono (copyS s g o n c cs _ (HX.out.on B2.out) HL.out hn (by omega)) ?_
  rintro e w3 ⟨D, d, rfl, ow, b3⟩
  obtain ⟨g4, rfl⟩ : ∃ g, D = some ⟨g, 0, none⟩ := by
    rcases ow.2 with ⟨_, h0⟩ | ⟨g, _, _, hv, _⟩
    · omega
    · injection hv with hA _ _
      exact ⟨g, hA⟩
  have p4 := Lib.hid (K.old (K.below b3 p2.out) (.cells #[.int .i64 s, .slice (some ⟨g4, 0, none⟩) n d] 40))
  have q4 := Lib.hid (K.old (K.below b3 q2.out) (.cells #[.int .i64 s, .slice (some ⟨g4, 0, none⟩) n d] 40))
  have r4 := Lib.hid (K.old (K.below b3 r2.out) (.cells #[.int .i64 s, .slice (some ⟨g4, 0, none⟩) n d] 40))
  have x4 := Lib.hid (K.new w3 (.cells #[.int .i64 s, .slice (some ⟨g4, 0, none⟩) n d] 40))
  have O4 := Lib.hid (show (w3.alloc (.cells #[.int .i64 s, .slice (some ⟨g4, 0, none⟩) n d] 40)).ownsRow w.heap.size 93 16 (.slice (some ⟨g4, 0, none⟩) n d) n (fl Ce.cells cs) from own_base (own_below ow (Joins.below_alloc1 w3 _)) B2.out.size)
  have B4 := Lib.hid (bthen (bthen B2.out b3) (Joins.below_alloc1 w3 (.cells #[.int .i64 s, .slice (some ⟨g4, 0, none⟩) n d] 40)))
  clear ow b3 t0 t1 p2 q2 r2 B2
  obtain ⟨⟨t0, t1⟩, _⟩ := K.row2 p4.out
  obtain ⟨z0, z1, z2, z3, z4, z5, z6, z7, z8, z9, z10, z11, z12, z13⟩ := K.fk q4.out
  go_wp2_with fail
  refine Calls.mono (PL.out _ (HX.out.on B4.out)) ?_
  rintro e w5 ⟨rfl, b5⟩
  have O5 := Lib.hid (own_below O4.out b5)
  have p5 := Lib.hid (K.below b5 p4.out)
  have q5 := Lib.hid (K.below b5 q4.out)
  have r5 := Lib.hid (K.below b5 r4.out)
  have x5 := Lib.hid (K.below b5 x4.out)
  have B5 := Lib.hid (bthen B4.out b5)
  clear b5 p4 q4 r4 x4 t0 t1 O4 z0 z1 z2 z3 z4 z5 z6 z7 z8 z9 z10 z11 z12 z13 B4
  go_wp2_with fail
  refine wp_region_guards (by kernel_rfl) 8 56 [(0, 41), (1, 42), (2, 43), (3, 44), (4, 45), (5, 46), (6, 47), (7, 48)] _ ([.val (.agg #[.int .i64 s, .slice (some ⟨g, o, none⟩) n c]), .val (.int .i64 (usedN cs : Int)), .val (.int .i64 ((usedN cs : Int) + 1)), .val (.int .i64 (4 * ((usedN cs : Int) + 1))), .val (.pointer (some ⟨w.heap.size, 1, none⟩)), .val (.slice (some ⟨g, o, none⟩) n c), .val (.int .i64 (n : Int)), .val (.int .i64 (3 * (n : Int)))]) (by kernel_rfl) (by kernel_rfl) (by kernel_rfl) rfl rfl ?_ ?_
  · intro j o hj ho hr a' v K' hx hnd hB hK
    match j, hj, ho, hr with
    | 0, _, ho, _ =>
      obtain rfl := Option.some.inj ho
      have h0 : a'.eval (.tmp 3) = .pointer (some ⟨w.heap.size, 0, none⟩) := (hx 3 (by decide)).trans rfl
      exact r_tab _ _ _ _ rfl h0 (K.below hB p5.out) (hK _ _ rfl (Below.refl _ _))
    | 1, _, ho, _ =>
      obtain rfl := Option.some.inj ho
      have h0 : a'.eval (.tmp 41) = .agg #[.int .i64 s, .slice (some ⟨g, o, none⟩) n c] := (gds_of hnd 0 41 (by kernel_rfl) :)
      refine u_cntP _ _ _ rfl h0 (Calls.mono (countS s (some ⟨g, o, none⟩) n c cs _ (HX.out.on (bthen B5.out hB)) HL.out hn) ?_)
      rintro e' v' ⟨rfl, b6⟩
      exact ⟨_, rfl, hK _ _ rfl b6⟩
    | 2, _, ho, _ =>
      obtain rfl := Option.some.inj ho
      have h0 : a'.eval (.tmp 42) = .int .i64 (usedN cs : Int) := (gds_of hnd 1 42 (by kernel_rfl) :)
      exact t_addP _ _ (usedN cs : Int) 1 ((usedN cs : Int) + 1) rfl h0 rfl (wrapP (by omega) (by omega)) (hK _ _ rfl (Below.refl _ _))
    | 3, _, ho, _ =>
      obtain rfl := Option.some.inj ho
      have h0 : a'.eval (.tmp 43) = .int .i64 ((usedN cs : Int) + 1) := (gds_of hnd 2 43 (by kernel_rfl) :)
      exact t_mulP _ _ 4 ((usedN cs : Int) + 1) (4 * ((usedN cs : Int) + 1)) rfl rfl h0 (wrapP (by omega) (by omega)) (hK _ _ rfl (Below.refl _ _))
    | 4, _, ho, _ =>
      obtain rfl := Option.some.inj ho
      have h0 : a'.eval (.tmp 3) = .pointer (some ⟨w.heap.size, 0, none⟩) := (hx 3 (by decide)).trans rfl
      exact f_tab1 _ _ rfl h0 (hK _ _ rfl (Below.refl _ _))
    | 5, _, ho, _ =>
      obtain rfl := Option.some.inj ho
      have h0 : a'.eval (.tmp 45) = .pointer (some ⟨w.heap.size, 1, none⟩) := (gds_of hnd 4 45 (by kernel_rfl) :)
      exact t_sl _ _ _ _ rfl h0 (K.cell (K.below hB p5.out) 1 _ rfl) (hK _ _ rfl (Below.refl _ _))
    | 6, _, ho, _ =>
      obtain rfl := Option.some.inj ho
      have h0 : a'.eval (.tmp 46) = .slice (some ⟨g, o, none⟩) n c := (gds_of hnd 5 46 (by kernel_rfl) :)
      exact t_len _ _ _ _ rfl h0 (hK _ _ rfl (Below.refl _ _))
    | 7, _, ho, _ =>
      obtain rfl := Option.some.inj ho
      have h0 : a'.eval (.tmp 47) = .int .i64 (n : Int) := (gds_of hnd 6 47 (by kernel_rfl) :)
      exact t_mulP _ _ 3 (n : Int) (3 * (n : Int)) rfl rfl h0 (wrapP (by omega) (by omega)) (hK _ _ rfl (Below.refl _ _))
    | j + 8, hj, _, _ => omega
  · intro f v hf hB
    have e0 : f 0 = (.agg #[.int .i64 s, .slice (some ⟨g, o, none⟩) n c]) := hf (0, 41) (by decide)
    have e1 : f 1 = (.int .i64 (usedN cs : Int)) := hf (1, 42) (by decide)
    have e2 : f 2 = (.int .i64 ((usedN cs : Int) + 1)) := hf (2, 43) (by decide)
    have e3 : f 3 = (.int .i64 (4 * ((usedN cs : Int) + 1))) := hf (3, 44) (by decide)
    have e4 : f 4 = (.pointer (some ⟨w.heap.size, 1, none⟩)) := hf (4, 45) (by decide)
    have e5 : f 5 = (.slice (some ⟨g, o, none⟩) n c) := hf (5, 46) (by decide)
    have e6 : f 6 = (.int .i64 (n : Int)) := hf (6, 47) (by decide)
    have e7 : f 7 = (.int .i64 (3 * (n : Int))) := hf (7, 48) (by decide)
    simp only [List.foldl_cons, List.foldl_nil, List.drop_succ_cons, List.drop_zero, e0, e1, e2, e3, e4, e5, e6, e7]
    clear e0 e1 e2 e3 e4 e5 e6 e7 hf
    go_simp
    have q6 := Lib.hid (K.below hB q5.out)
    have r6 := Lib.hid (K.below hB r5.out)
    have x6 := Lib.hid (K.below hB x5.out)
    have O6 := Lib.hid (own_below O5.out hB)
    have B6 := Lib.hid (bthen B5.out hB)
    clear hB p5 q5 r5 x5 O5 B5
    obtain ⟨⟨t0, t1⟩, _⟩ := K.row2 x6.out
    obtain ⟨z0, z1, z2, z3, z4, z5, z6, z7, z8, z9, z10, z11, z12, z13⟩ := K.fk q6.out
    have PC := Lib.hid (fun (v : World) (hv : v.ownsRow w.heap.size 93 16 (.slice (some ⟨g4, 0, none⟩) n d) n (fl Ce.cells cs)) => intoS s g4 n d w.heap.size cs k nv P v hv HL.out (by omega) (by omega) HS.out HK.out HP.out HNO.out)
    go_wp2_with fail
    refine Calls.mono (PC.out _ O6.out) ?_
    rintro e w7 ⟨⟨u, rfl⟩, o7, gr⟩
    have O7 := Lib.hid o7
    have X7 := Lib.hid (K.kept gr x6.out (fun q hq => own_neB O6.out x6.out (by decide) q hq))
    have R7 := Lib.hid (K.kept gr r6.out (fun q hq => own_neB O6.out r6.out (by decide) q hq))
    have B7 := Lib.hid (bgrown B6.out gr (fun q hq => (O6.out.lt q hq).1))
    clear gr o7 t0 t1 x6 r6 q6 B6 PC z0 z1 z2 z3 z4 z5 z6 z7 z8 z9 z10 z11 z12 z13
    obtain ⟨⟨t0, t1⟩, _⟩ := K.row2 X7.out
    go_wp2_with (with_reducible refine storeTb rfl _ _ rfl (w.heap.size + 2) rfl rfl R7.out ?_)
    (try simp only [Exit.inBlock, Exit.then])
    refine bodyPost_ret (v := .tuple #[.agg #[.int .i64 s, .slice (some ⟨g4, 0, none⟩) n d], .int .i64 0]) (resTbN Try.results40 _ _ (w.heap.size + 2) rfl (setRow_heap _ _ _ _ _ _ R7.out)) rfl ⟨_, by rw [HR.out], ?_, setRowBT B7.out (by omega) _⟩
    rw [HR.out]
    exact ⟨_, n, d, rfl, own_grown O7.out (setRow_grownT _ _ _) (fun q hq e => own_neB O7.out R7.out (by decide) q hq (Option.some.inj e))⟩

theorem tabPutS (s : Int) (A : Option Addr) (n c : Nat) (cs : List Ce) (w : World) (hx : RV w w.heap.size A (fl Ce.cells cs)) (hl : cs.length = n) (hn : n ≤ 1048576) (k : Fk) (nv : Int) : Calls Try.prog 40 #[.agg #[.int .i64 s, .slice A n c], .agg #[.int .i64 k.tenant, .int .i64 k.key.src.k, .int .i64 k.key.src.a, .int .i64 k.key.src.b, .int .i64 k.key.src.c, .int .i64 k.key.src.d, .int .i64 k.key.dst.k, .int .i64 k.key.dst.a, .int .i64 k.key.dst.b, .int .i64 k.key.dst.c, .int .i64 k.key.dst.d, .int .i64 k.key.proto, .int .i64 k.key.sport, .int .i64 k.key.dport], .int .i64 nv] w fun e w' => ∃ v, e = .returned (.tuple #[v, .int .i64 (tabPut s cs k nv).2]) ∧ TOwn w.heap.size (tabPut s cs k nv).1 w' v ∧ Below w.heap.size w w' := by
  cases ho : tabOk s cs with
  | false => exact tabPutS_0 s A n c cs w hx hl hn k nv ho
  | true =>
    cases hk : k.ok with
    | false => exact tabPutS_1 s A n c cs w hx hl hn k nv ho hk
    | true =>
      by_cases h1 : nv < 0
      · exact tabPutS_2a s A n c cs w hx hl hn k nv ho hk h1
      · by_cases h2 : 1000000000000 < nv
        · exact tabPutS_2b s A n c cs w hx hl hn k nv ho hk h1 h2
        · have hv : btw 0 nv 1000000000000 = true := by simp [btw]; omega
          cases hp : placeT cs k with
          | some P => exact tabPutS_3 s A n c cs w hx hl hn k nv ho hk hv P hp
          | none =>
            obtain ⟨P, _, hpr⟩ := tab_probe ho k
            by_cases hf : usedN cs = cs.length / 4 * 3
            · exact tabPutS_4 s A n c cs w hx hl hn k nv ho hk hv P hpr hp hf
            · exact tabPutS_5 s A n c cs w hx hl hn k nv ho hk hv P hpr hp hf
end Go.Proofs.Ytmfkpiclpkeemaa

namespace Go.Proofs.Ytmfkpiclpkeemaa
set_option maxRecDepth 100000
open Go.RowKit

section
variable {P : Program} {ops : Array Oper} {Q : Exit → Act → World → Prop}

/-- Each operation of the chain ch is there once and waits for the one before it. -/
def chainB (ops : Array Oper) (ch : List Nat) : Bool :=
  decide ch.Nodup && (List.range ch.length).all fun i => match ch[i]? with
    | none => true
    | some j => match ops[j]? with
      | none => false
      | some o => match i with
        | 0 => true
        | i' + 1 => o.after.toList.any fun e => Region.binds .any e && decide (ch[i']? = some e.on)
theorem chainB_at {ch : List Nat} (h : chainB ops ch = true) {i j : Nat} (hj : ch[i]? = some j) :
    ∃ o, ops[j]? = some o ∧ ∀ i', i = i' + 1 → ∃ e ∈ o.after, Region.binds .any e = true ∧ ch[i']? = some e.on := by
  have hi : i < ch.length := (List.getElem?_eq_some_iff.1 hj).1
  simp only [chainB, Bool.and_eq_true] at h
  have h1 := List.all_eq_true.1 h.2 i (List.mem_range.2 hi)
  rw [hj] at h1
  cases ho : ops[j]? with
  | none => simp [ho] at h1
  | some o =>
    refine ⟨o, rfl, ?_⟩
    rintro i' rfl
    simp only [ho] at h1
    obtain ⟨e, he, hp⟩ := List.any_eq_true.1 h1
    simp only [Bool.and_eq_true, decide_eq_true_eq] at hp
    exact ⟨e, by simpa using he, hp.1, hp.2⟩
theorem chainB_once {ch : List Nat} (h : chainB ops ch = true) {i i' j : Nat} (hj : ch[i]? = some j) (hj' : ch[i']? = some j) : i = i' := by
  simp only [chainB, Bool.and_eq_true, decide_eq_true_eq] at h
  exact (List.getElem?_inj (List.getElem?_eq_some_iff.1 hj).1 h.1).1 (hj.trans hj'.symm)

/-- The chain's step at operation j, when m of it are done. -/
def nextOf (ch : List Nat) (j m : Nat) : Nat := if ch.contains j then m + 1 else m

/-- What stands while the region runs. -/
structure KeptC (ops : Array Oper) (Γ : Nat → World → Value → Prop) (ch : List Nat) (I : Nat → World → Prop) (n : Nat) (a0 : Act) (listed : Array Bool) (a : Act) (w : World) : Prop where
  size : listed.size = ops.size
  len : a.tmps.size = n
  defers : a.defers = a0.defers
  keep : ∀ t, (∀ (j : Nat) o, ops[j]? = some o → o.dst ≠ some t) → a.tmps.getD t undef = a0.tmps.getD t undef
  inv : ∃ m, (∀ (i j : Nat), ch[i]? = some j → (listed.getD j false = true ↔ i < m)) ∧ m ≤ ch.length ∧ I m w
  slots : ∀ (j : Nat) o d, ops[j]? = some o → o.dst = some d → listed.getD j false = true → Γ j w (a.tmps.getD d undef)

theorem getD_set_own {listed : Array Bool} {i : Nat} (h : i < listed.size) (d : Bool) : (listed.setIfInBounds i true).getD i d = true := by simp [h]

theorem wpAny_chain {Γ : Nat → World → Value → Prop} {out ch : List Nat} {I : Nat → World → Prop} {R : World → World → Prop} {n : Nat} {a0 : Act} (hf : formB ops n out = true) (hch : chainB ops ch = true)
    (hΓ : ∀ j w w' v, R w w' → Γ j w v → Γ j w' v)
    (hop : ∀ (j : Nat) o, ops[j]? = some o → ∀ m a w K, (∀ t ∈ out, a.tmps.getD t undef = a0.tmps.getD t undef) → (∀ p ∈ needOf ops j, Γ p.1 w (a.tmps.getD p.2 undef)) → (∀ i, ch[i]? = some j → i = m) → I m w →
      (∀ v w', Γ j w' v → R w w' → I (nextOf ch j m) w' → K (a.put o.dst v) w') → o.wp P a w K Q)
    (hend : ∀ a w, a.tmps.size = n → a.defers = a0.defers → (∀ t ∈ out, a.tmps.getD t undef = a0.tmps.getD t undef) → (∀ t, (∀ (j : Nat) o, ops[j]? = some o → o.dst ≠ some t) → a.tmps.getD t undef = a0.tmps.getD t undef) →
      (∀ (j : Nat) o d, ops[j]? = some o → o.dst = some d → Γ j w (a.tmps.getD d undef)) → I ch.length w → Q .normal a w) :
    ∀ (fuel : Nat) (listed : Array Bool) (a : Act) (w : World), KeptC ops Γ ch I n a0 listed a w → ops.size ≤ up listed + fuel → wpAny P .any ops Q fuel listed a w := by
  have fin : ∀ (listed : Array Bool) (a : Act) (w : World), KeptC ops Γ ch I n a0 listed a w → up listed = ops.size → Q .normal a w := by
    intro listed a w hk hu
    have hall : ∀ j, j < ops.size → listed.getD j false = true := fun j hj => up_all (by rw [hu, hk.size]) (by rw [hk.size]; exact hj)
    obtain ⟨m, hm, hml, hI⟩ := hk.inv
    have hme : m = ch.length := by
      rcases Nat.lt_or_ge m ch.length with h | h
      · obtain ⟨o, ho, _⟩ := chainB_at hch (List.getElem?_eq_getElem h)
        have := (hm m _ (List.getElem?_eq_getElem h)).1 (hall _ (Array.getElem?_eq_some_iff.1 ho).1)
        omega
      · omega
    subst hme
    refine hend a w hk.len hk.defers (fun t ht => hk.keep t (fun j oj hj hdj => ((formB_at hf hj).2.2 t hdj).2.1 ht)) hk.keep (fun j o d ho hd => hk.slots j o d ho hd ?_) hI
    exact hall j (Array.getElem?_eq_some_iff.1 ho).1
  intro fuel
  induction fuel with
  | zero =>
    intro listed a w hk hle
    have hu : up listed = ops.size := by have := up_le listed; have := hk.size; omega
    refine ⟨?_, fin listed a w hk hu⟩
    cases hr : Region.ready .any ops listed with
    | nil => rfl
    | cons i l =>
      have hm : i ∈ Region.ready .any ops listed := by rw [hr]; simp
      obtain ⟨h0, _⟩ := mem_ready.1 hm
      have := (up_set h0).1
      have h3 := up_le (listed.setIfInBounds i true)
      have h4 : (listed.setIfInBounds i true).size = listed.size := by simp
      have := hk.size
      omega
  | succ fuel ih =>
    intro listed a w hk hle
    refine ⟨fun hr => fin listed a w hk (some_ready hf hk.size hr), fun i hi => ?_⟩
    obtain ⟨h0, o, ho, hall⟩ := mem_ready.1 hi
    obtain ⟨hu, hil⟩ := up_set h0
    obtain ⟨hlt, hg, hd⟩ := formB_at hf ho
    obtain ⟨m, hm, hml, hI⟩ := hk.inv
    have hfalse : listed.getD i false = false := by simpa [hil] using h0
    have hnow : ∀ q, ch[q]? = some i → q = m := by
      intro q hq
      have h1 : ¬ q < m := fun h => by rw [(hm q i hq).2 h] at hfalse; cases hfalse
      cases q with
      | zero => omega
      | succ q' =>
        obtain ⟨o', ho', hprev⟩ := chainB_at hch hq
        obtain rfl : o = o' := Option.some.inj (ho.symm.trans ho')
        obtain ⟨e, he, hb, hce⟩ := hprev q' rfl
        have := (hm q' e.on hce).1 (hall e he hb)
        omega
    unfold wpOp
    simp only [ho]
    rw [if_pos (by simp [Region.wanted, hg])]
    left
    refine hop i o ho m a w _ (fun t ht => hk.keep t (fun j oj hj hdj => ?_)) (fun p hp => ?_) hnow hI ?_
    · exact ((formB_at hf hj).2.2 t hdj).2.1 ht
    · obtain ⟨⟨e, he, hep, hb⟩, oj, hoj, hdj⟩ := needOf_spec ho hp
      exact hk.slots p.1 oj p.2 hoj hdj (by rw [← hep]; exact hall e he hb)
    · intro v w' hv hR hI'
      refine ih _ _ _ ⟨by simpa using hk.size, by rw [put_size]; exact hk.len, by rw [put_defers']; exact hk.defers, fun t ht => ?_, ⟨nextOf ch i m, ?_, ?_, hI'⟩, fun j oj d hj hdj hl => ?_⟩ (by omega)
      · rw [put_other a v (ht i o ho)]
        exact hk.keep t ht
      · intro q j hq
        by_cases hji : j = i
        · subst hji
          have hqm := hnow q hq
          have hc : j ∈ ch := List.mem_of_getElem? hq
          rw [getD_set_own hil]
          simp [nextOf, hc, hqm]
        · rw [getD_set_ne (listed := listed) false (Ne.symm hji), hm q j hq]
          unfold nextOf
          split
          · rename_i hc
            obtain ⟨q', hq'⟩ := List.mem_iff_getElem?.1 (show i ∈ ch by simpa using hc)
            have h1 := hnow q' hq'
            have h2 : q ≠ m := fun e => hji (Option.some.inj ((e ▸ hq).symm.trans (h1 ▸ hq')))
            omega
          · exact Iff.rfl
      · unfold nextOf
        split
        · rename_i hc
          obtain ⟨q', hq'⟩ := List.mem_iff_getElem?.1 (show i ∈ ch by simpa using hc)
          have h1 := hnow q' hq'
          have := (List.getElem?_eq_some_iff.1 hq').1
          omega
        · exact hml
      · by_cases hji : j = i
        · subst hji
          obtain rfl : o = oj := Option.some.inj (ho.symm.trans hj)
          rw [hdj, put_own a v (hd d hdj).1 hk.len]
          exact hv
        · have hne : o.dst ≠ some d := fun e => hji ((hd d e).2.2 j oj hj hdj)
          rw [put_other a v hne]
          refine hΓ j w w' _ hR (hk.slots j oj d hj hdj ?_)
          rw [← getD_set_ne (listed := listed) false (Ne.symm hji)]
          exact hl

theorem wp_region_chain {id : Nat} {a : Act} {w : World} (hmx : P.follows .mixedOrders = true) (Γ : Nat → World → Value → Prop) (out ch : List Nat) (I : Nat → World → Prop) (R : World → World → Prop) (n : Nat) (hf : formB ops n out = true) (hch : chainB ops ch = true)
    (hn : a.tmps.size = n) (h0 : I 0 { w with drawn := w.drawn + 1 }) (hΓ : ∀ j w w' v, R w w' → Γ j w v → Γ j w' v)
    (hop : ∀ (j : Nat) o, ops[j]? = some o → ∀ m a' w K, (∀ t ∈ out, a'.tmps.getD t undef = a.tmps.getD t undef) → (∀ p ∈ needOf ops j, Γ p.1 w (a'.tmps.getD p.2 undef)) → (∀ i, ch[i]? = some j → i = m) → I m w →
      (∀ v w', Γ j w' v → R w w' → I (nextOf ch j m) w' → K (a'.put o.dst v) w') → o.wp P a' w K Q)
    (hend : ∀ a' w', a'.tmps.size = n → a'.defers = a.defers → (∀ t ∈ out, a'.tmps.getD t undef = a.tmps.getD t undef) → (∀ t, (∀ (j : Nat) o, ops[j]? = some o → o.dst ≠ some t) → a'.tmps.getD t undef = a.tmps.getD t undef) →
      (∀ (j : Nat) o d, ops[j]? = some o → o.dst = some d → Γ j w' (a'.tmps.getD d undef)) → I ch.length w' → Q .normal a' w') : (Code.region id ops true).wp P Q a w := by
  have hfl : ∀ j, (Array.replicate ops.size false).getD j false = false := by
    intro j
    simp [Array.getElem?_replicate]
    split <;> simp
  refine wp_region_any hmx (wpAny_chain (out := out) (ch := ch) (I := I) (R := R) (Γ := Γ) (n := n) (a0 := a) hf hch hΓ hop hend ops.size _ a _ ⟨by simp, hn, rfl, fun _ _ => rfl, ⟨0, fun i j _ => ?_, Nat.zero_le _, h0⟩, fun j o d _ _ hl => ?_⟩ (by omega))
  · rw [hfl j]
    simp
  · rw [hfl j] at hl
    cases hl
end
end Go.Proofs.Ytmfkpiclpkeemaa

namespace Go.Proofs.Ytmfkpiclpkeemaa
set_option maxRecDepth 100000
open Go.RowKit

section
variable {P : Program} {ops : Array Oper} {Q : Exit → Act → World → Prop}

/-- What stands while the region runs. -/
structure KeptT (ops : Array Oper) (Γ : Nat → Nat → World → Value → Prop) (ch : List Nat) (I : Nat → World → Prop) (n : Nat) (a0 : Act) (listed : Array Bool) (a : Act) (w : World) : Prop where
  size : listed.size = ops.size
  len : a.tmps.size = n
  defers : a.defers = a0.defers
  keep : ∀ t, (∀ (j : Nat) o, ops[j]? = some o → o.dst ≠ some t) → a.tmps.getD t undef = a0.tmps.getD t undef
  inv : ∃ m, (∀ (i j : Nat), ch[i]? = some j → (listed.getD j false = true ↔ i < m)) ∧ m ≤ ch.length ∧ I m w ∧ (∀ (j : Nat) o d, ops[j]? = some o → o.dst = some d → listed.getD j false = true → Γ j m w (a.tmps.getD d undef))

theorem wpAny_stage2 {Γ : Nat → Nat → World → Value → Prop} {out ch : List Nat} {I : Nat → World → Prop} {n : Nat} {a0 : Act} (hf : formB ops n out = true) (hch : chainB ops ch = true)
    (hop : ∀ (j : Nat) o, ops[j]? = some o → ∀ m a w K, (∀ t ∈ out, a.tmps.getD t undef = a0.tmps.getD t undef) → (∀ p ∈ needOf ops j, Γ p.1 m w (a.tmps.getD p.2 undef)) → (∀ i, ch[i]? = some j → i = m) → I m w →
      (∀ v w', Γ j (nextOf ch j m) w' v → (∀ i oi d, i ≠ j → ops[i]? = some oi → oi.dst = some d → Γ i m w (a.tmps.getD d undef) → Γ i (nextOf ch j m) w' (a.tmps.getD d undef)) → I (nextOf ch j m) w' → K (a.put o.dst v) w') → o.wp P a w K Q)
    (hend : ∀ a w, a.tmps.size = n → a.defers = a0.defers → (∀ t ∈ out, a.tmps.getD t undef = a0.tmps.getD t undef) → (∀ t, (∀ (j : Nat) o, ops[j]? = some o → o.dst ≠ some t) → a.tmps.getD t undef = a0.tmps.getD t undef) →
      (∀ (j : Nat) o d, ops[j]? = some o → o.dst = some d → Γ j ch.length w (a.tmps.getD d undef)) → I ch.length w → Q .normal a w) :
    ∀ (fuel : Nat) (listed : Array Bool) (a : Act) (w : World), KeptT ops Γ ch I n a0 listed a w → ops.size ≤ up listed + fuel → wpAny P .any ops Q fuel listed a w := by
  have fin : ∀ (listed : Array Bool) (a : Act) (w : World), KeptT ops Γ ch I n a0 listed a w → up listed = ops.size → Q .normal a w := by
    intro listed a w hk hu
    have hall : ∀ j, j < ops.size → listed.getD j false = true := fun j hj => up_all (by rw [hu, hk.size]) (by rw [hk.size]; exact hj)
    obtain ⟨m, hm, hml, hI, hsl⟩ := hk.inv
    have hme : m = ch.length := by
      rcases Nat.lt_or_ge m ch.length with h | h
      · obtain ⟨o, ho, _⟩ := chainB_at hch (List.getElem?_eq_getElem h)
        have := (hm m _ (List.getElem?_eq_getElem h)).1 (hall _ (Array.getElem?_eq_some_iff.1 ho).1)
        omega
      · omega
    subst hme
    refine hend a w hk.len hk.defers (fun t ht => hk.keep t (fun j oj hj hdj => ((formB_at hf hj).2.2 t hdj).2.1 ht)) hk.keep (fun j o d ho hd => hsl j o d ho hd ?_) hI
    exact hall j (Array.getElem?_eq_some_iff.1 ho).1
  intro fuel
  induction fuel with
  | zero =>
    intro listed a w hk hle
    have hu : up listed = ops.size := by have := up_le listed; have := hk.size; omega
    refine ⟨?_, fin listed a w hk hu⟩
    cases hr : Region.ready .any ops listed with
    | nil => rfl
    | cons i l =>
      have hm : i ∈ Region.ready .any ops listed := by rw [hr]; simp
      obtain ⟨h0, _⟩ := mem_ready.1 hm
      have := (up_set h0).1
      have h3 := up_le (listed.setIfInBounds i true)
      have h4 : (listed.setIfInBounds i true).size = listed.size := by simp
      have := hk.size
      omega
  | succ fuel ih =>
    intro listed a w hk hle
    refine ⟨fun hr => fin listed a w hk (some_ready hf hk.size hr), fun i hi => ?_⟩
    obtain ⟨h0, o, ho, hall⟩ := mem_ready.1 hi
    obtain ⟨hu, hil⟩ := up_set h0
    obtain ⟨hlt, hg, hd⟩ := formB_at hf ho
    obtain ⟨m, hm, hml, hI, hsl⟩ := hk.inv
    have hfalse : listed.getD i false = false := by simpa [hil] using h0
    have hnow : ∀ q, ch[q]? = some i → q = m := by
      intro q hq
      have h1 : ¬ q < m := fun h => by rw [(hm q i hq).2 h] at hfalse; cases hfalse
      cases q with
      | zero => omega
      | succ q' =>
        obtain ⟨o', ho', hprev⟩ := chainB_at hch hq
        obtain rfl : o = o' := Option.some.inj (ho.symm.trans ho')
        obtain ⟨e, he, hb, hce⟩ := hprev q' rfl
        have := (hm q' e.on hce).1 (hall e he hb)
        omega
    unfold wpOp
    simp only [ho]
    rw [if_pos (by simp [Region.wanted, hg])]
    left
    refine hop i o ho m a w _ (fun t ht => hk.keep t (fun j oj hj hdj => ?_)) (fun p hp => ?_) hnow hI ?_
    · exact ((formB_at hf hj).2.2 t hdj).2.1 ht
    · obtain ⟨⟨e, he, hep, hb⟩, oj, hoj, hdj⟩ := needOf_spec ho hp
      exact hsl p.1 oj p.2 hoj hdj (by rw [← hep]; exact hall e he hb)
    · intro v w' hv hR hI'
      refine ih _ _ _ ⟨by simpa using hk.size, by rw [put_size]; exact hk.len, by rw [put_defers']; exact hk.defers, fun t ht => ?_, ⟨nextOf ch i m, ?_, ?_, hI', fun j oj d hj hdj hl => ?_⟩⟩ (by omega)
      · rw [put_other a v (ht i o ho)]
        exact hk.keep t ht
      · intro q j hq
        by_cases hji : j = i
        · subst hji
          have hqm := hnow q hq
          have hc : j ∈ ch := List.mem_of_getElem? hq
          rw [getD_set_own hil]
          simp [nextOf, hc, hqm]
        · rw [getD_set_ne (listed := listed) false (Ne.symm hji), hm q j hq]
          unfold nextOf
          split
          · rename_i hc
            obtain ⟨q', hq'⟩ := List.mem_iff_getElem?.1 (show i ∈ ch by simpa using hc)
            have h1 := hnow q' hq'
            have h2 : q ≠ m := fun e => hji (Option.some.inj ((e ▸ hq).symm.trans (h1 ▸ hq')))
            omega
          · exact Iff.rfl
      · unfold nextOf
        split
        · rename_i hc
          obtain ⟨q', hq'⟩ := List.mem_iff_getElem?.1 (show i ∈ ch by simpa using hc)
          have h1 := hnow q' hq'
          have := (List.getElem?_eq_some_iff.1 hq').1
          omega
        · exact hml
      · by_cases hji : j = i
        · subst hji
          obtain rfl : o = oj := Option.some.inj (ho.symm.trans hj)
          rw [hdj, put_own a v (hd d hdj).1 hk.len]
          exact hv
        · have hne : o.dst ≠ some d := fun e => hji ((hd d e).2.2 j oj hj hdj)
          rw [put_other a v hne]
          refine hR j oj d hji hj hdj (hsl j oj d hj hdj ?_)
          rw [← getD_set_ne (listed := listed) false (Ne.symm hji)]
          exact hl

theorem wp_region_stage2 {id : Nat} {a : Act} {w : World} (hmx : P.follows .mixedOrders = true) (Γ : Nat → Nat → World → Value → Prop) (out ch : List Nat) (I : Nat → World → Prop) (n : Nat) (hf : formB ops n out = true) (hch : chainB ops ch = true)
    (hn : a.tmps.size = n) (h0 : I 0 { w with drawn := w.drawn + 1 })
    (hop : ∀ (j : Nat) o, ops[j]? = some o → ∀ m a' w K, (∀ t ∈ out, a'.tmps.getD t undef = a.tmps.getD t undef) → (∀ p ∈ needOf ops j, Γ p.1 m w (a'.tmps.getD p.2 undef)) → (∀ i, ch[i]? = some j → i = m) → I m w →
      (∀ v w', Γ j (nextOf ch j m) w' v → (∀ i oi d, i ≠ j → ops[i]? = some oi → oi.dst = some d → Γ i m w (a'.tmps.getD d undef) → Γ i (nextOf ch j m) w' (a'.tmps.getD d undef)) → I (nextOf ch j m) w' → K (a'.put o.dst v) w') → o.wp P a' w K Q)
    (hend : ∀ a' w', a'.tmps.size = n → a'.defers = a.defers → (∀ t ∈ out, a'.tmps.getD t undef = a.tmps.getD t undef) → (∀ t, (∀ (j : Nat) o, ops[j]? = some o → o.dst ≠ some t) → a'.tmps.getD t undef = a.tmps.getD t undef) →
      (∀ (j : Nat) o d, ops[j]? = some o → o.dst = some d → Γ j ch.length w' (a'.tmps.getD d undef)) → I ch.length w' → Q .normal a' w') : (Code.region id ops true).wp P Q a w := by
  have hfl : ∀ j, (Array.replicate ops.size false).getD j false = false := by
    intro j
    simp [Array.getElem?_replicate]
    split <;> simp
  refine wp_region_any hmx (wpAny_stage2 (out := out) (ch := ch) (I := I) (Γ := Γ) (n := n) (a0 := a) hf hch hop hend ops.size _ a _ ⟨by simp, hn, rfl, fun _ _ => rfl, ⟨0, fun i j _ => ?_, Nat.zero_le _, h0, fun j o d _ _ hl => ?_⟩⟩ (by omega))
  · rw [hfl j]
    simp
  · rw [hfl j] at hl
    cases hl
end
end Go.Proofs.Ytmfkpiclpkeemaa

namespace Go.Proofs.Ytmfkpiclpkeemaa
set_option maxRecDepth 100000
open Go.RowKit

/-- What an operation leaves: a value; something that holds on while nothing old is turned, and beside the store into a new block that holds the cells Z; anything. -/
inductive Fr (T : TypeId) (Z : Array Value) where
  | val (v : Value)
  | pr (f : World → Value → Prop) (h1 : ∀ w w' v, Below w.heap.size w w' → f w v → f w' v) (h2 : ∀ (w w' : World) (v : Value) (b : Nat), w.heap[b]? = some (.cells Z T (0, 0)) → w.grownBy w' (some b) → f w v → f w' v)
  | any
def Fr.holds {T : TypeId} {Z : Array Value} : Fr T Z → World → Value → Prop
  | .val u, _, v => v = u
  | .pr f _ _, w, v => f w v
  | .any, _, _ => True
theorem Fr.on {T : TypeId} {Z : Array Value} {w w' : World} (hb : Below w.heap.size w w') (f : Fr T Z) (v : Value) (h : f.holds w v) : f.holds w' v := by
  cases f with
  | val u => exact h
  | pr f k _ => exact k w w' v hb h
  | any => trivial
theorem Fr.grown {T : TypeId} {Z : Array Value} {w w' : World} {b : Nat} (hz : w.heap[b]? = some (.cells Z T (0, 0))) (hb : w.grownBy w' (some b)) (f : Fr T Z) (v : Value) (h : f.holds w v) : f.holds w' v := by
  cases f with
  | val u => exact h
  | pr f _ k => exact k w w' v b hz hb h
  | any => trivial

section
variable {P : Program} {ops : Array Oper} {Q : Exit → Act → World → Prop}
theorem wp_region_new {id : Nat} {a : Act} {w : World} (T : TypeId) (Z : Array Value) (hmx : P.follows .mixedOrders = true) (out : List Nat) (n : Nat) (L : List (Nat × Nat)) (F : List (Fr T Z)) (ia is da : Nat) (hne : ia ≠ is)
    (hf : formB ops n out = true) (hch : chainB ops [ia, is] = true) (hL : dstsOf ops ops.size = L) (hda : (ops[ia]?).bind (·.dst) = some da) (hneed : (needOf ops is).contains (ia, da) = true) (hFi : F.getD is .any = .any) (hn : a.tmps.size = n)
    (G : Nat → World → Prop) (hG : ∀ b v v', Below v.heap.size v v' → G b v → G b v')
    (hal : ∀ o, ops[ia]? = some o → ∀ a' v K, K (a'.put o.dst (.pointer (some ⟨v.heap.size, 0, none⟩))) (v.alloc (.cells Z T)) → o.wp P a' v K Q)
    (hst : ∀ o, ops[is]? = some o → ∀ a' v K b, (∀ t ∈ out, a'.tmps.getD t undef = a.tmps.getD t undef) → a'.tmps.getD da undef = .pointer (some ⟨b, 0, none⟩) → v.heap[b]? = some (.cells Z T (0, 0)) → (∀ p ∈ needOf ops is, p.1 ≠ ia → (F.getD p.1 .any).holds v (a'.tmps.getD p.2 undef)) → Below w.heap.size w v →
      (∀ u v', G b v' → v.grownBy v' (some b) → K (a'.put o.dst u) v') → o.wp P a' v K Q)
    (hop : ∀ (j : Nat) o, j ≠ ia → j ≠ is → ops[j]? = some o → ∀ a' v K, (∀ t ∈ out, a'.tmps.getD t undef = a.tmps.getD t undef) → (∀ p ∈ needOf ops j, p.1 ≠ ia → (F.getD p.1 .any).holds v (a'.tmps.getD p.2 undef)) → Below w.heap.size w v →
      (∀ u v', (F.getD j .any).holds v' u → Below v.heap.size v v' → K (a'.put o.dst u) v') → o.wp P a' v K Q)
    (hend : ∀ (f : Nat → Value) v b, (∀ p ∈ L, p.1 ≠ ia → (F.getD p.1 .any).holds v (f p.1)) → f ia = .pointer (some ⟨b, 0, none⟩) → w.heap.size ≤ b → G b v → Below w.heap.size w v → Q .normal (L.foldl (fun b p => b.put (some p.2) (f p.1)) a) v) : (Code.region id ops true).wp P Q a w := by
  subst hL
  refine wp_region_stage2 hmx (fun j m v u => if j = ia then (∃ b, u = .pointer (some ⟨b, 0, none⟩) ∧ w.heap.size ≤ b ∧ (m ≤ 1 → v.heap[b]? = some (.cells Z T (0, 0))) ∧ (2 ≤ m → G b v)) else (F.getD j .any).holds v u) out [ia, is] (fun _ v => Below w.heap.size w v) n hf hch hn ⟨rfl, rfl, rfl, Nat.le_refl _, fun _ _ => rfl⟩ ?_ ?_
  · intro j o ho m a' v K' hx hnd hm hI hK
    by_cases hja : j = ia
    · subst hja
      have hm0 : 0 = m := hm 0 rfl
      subst hm0
      have hnx : nextOf [j, is] j 0 = 1 := by simp [nextOf]
      refine hal o ho a' v K' (hK _ _ ?_ ?_ (bthen hI (Joins.below_alloc1 v _)))
      · rw [if_pos rfl, hnx]
        exact ⟨_, rfl, hI.size, fun _ => K.new v _, fun h => absurd h (by omega)⟩
      · intro i oi d hi _ _ h
        rw [if_neg hi] at h ⊢
        exact Fr.on (Joins.below_alloc1 v _) _ _ h
    · by_cases hjs : j = is
      · subst hjs
        have hm1 : 1 = m := hm 1 rfl
        subst hm1
        have hnx : nextOf [ia, j] j 1 = 2 := by simp [nextOf]
        have hb := hnd (ia, da) (by simpa using hneed)
        rw [if_pos rfl] at hb
        obtain ⟨b, e, lb, hz, _⟩ := hb
        refine hst o ho a' v K' b hx e (hz (by omega)) (fun p hp hpa => by have := hnd p hp; rwa [if_neg hpa] at this) hI (fun u v' hg hgr => hK u v' ?_ ?_ (bgrown hI hgr (fun k hk => by cases hk; exact lb)))
        · rw [if_neg hja, hFi]
          trivial
        · intro i oi d hi hoi hd h
          by_cases hia : i = ia
          · subst hia
            rw [if_pos rfl, hnx]
            have hd' : d = da := by
              rw [hoi] at hda
              simp only [Option.bind_some] at hda
              rw [hd] at hda
              exact Option.some.inj hda
            subst hd'
            exact ⟨b, e, lb, fun h => absurd h (by omega), fun _ => hg⟩
          · rw [if_neg hia] at h ⊢
            exact Fr.grown (hz (by omega)) hgr _ _ h
      · have hnx : nextOf [ia, is] j m = m := by simp [nextOf, hja, hjs]
        refine hop j o hja hjs ho a' v K' hx (fun p hp hpa => by have := hnd p hp; rwa [if_neg hpa] at this) hI (fun u v' hu hb => hK u v' ?_ ?_ (bthen hI hb))
        · rw [if_neg hja]
          exact hu
        · intro i oi d hi _ _ h
          rw [hnx]
          by_cases hia : i = ia
          · subst hia
            rw [if_pos rfl] at h ⊢
            obtain ⟨b, e, lb, h1, h2⟩ := h
            exact ⟨b, e, lb, fun k => K.below hb (h1 k), fun k => hG b v v' hb (h2 k)⟩
          · rw [if_neg hia] at h ⊢
            exact Fr.on hb _ _ h
  · intro a' w' hsz hdf hout hrest hs hI
    have hda2 : ∃ oa, ops[ia]? = some oa ∧ oa.dst = some da := by
      cases ho : ops[ia]? with
      | none => rw [ho] at hda; cases hda
      | some oa => rw [ho] at hda; exact ⟨oa, rfl, hda⟩
    obtain ⟨oa, hoa, hod⟩ := hda2
    have hΓ := hs ia oa da hoa hod
    rw [if_pos rfl] at hΓ
    obtain ⟨b, e, lb, _, hg⟩ := hΓ
    have hdst : ∀ p ∈ dstsOf ops ops.size, (p.1 ≠ ia → (F.getD p.1 .any).holds w' (a'.tmps.getD p.2 undef)) ∧ p.2 < n := by
      intro p hp
      obtain ⟨_, o, h2, h3⟩ := dstsOf_mem.1 hp
      refine ⟨fun hpa => by have := hs p.1 o p.2 h2 h3; rwa [if_neg hpa] at this, ?_⟩
      have h4 := (formB_at hf h2).2.2
      exact (h4 p.2 h3).1
    obtain ⟨f, hfv⟩ : ∃ f : Nat → Value, ∀ p ∈ dstsOf ops ops.size, f p.1 = a'.tmps.getD p.2 undef := by
      refine ⟨fun j => match (ops[j]?).bind (·.dst) with | some d => a'.tmps.getD d undef | none => undef, fun p hp => ?_⟩
      obtain ⟨_, o, h2, h3⟩ := dstsOf_mem.1 hp
      simp [h2, h3]
    have hmem : (ia, da) ∈ dstsOf ops ops.size := dstsOf_mem.2 ⟨(Array.getElem?_eq_some_iff.1 hoa).1, oa, hoa, hod⟩
    have E := act_eqT hsz hdf (dstsOf ops ops.size) f a hn rfl (fun p hp => ⟨(hdst p hp).2, (hfv p hp).symm⟩) (fun t ht => hrest t (fun j o ho hd => ht (j, t) (dstsOf_mem.2 ⟨(Array.getElem?_eq_some_iff.1 ho).1, o, ho, hd⟩) rfl))
    rw [E]
    exact hend f w' b (fun p hp hpa => by rw [hfv p hp]; exact (hdst p hp).1 hpa) (by rw [hfv (ia, da) hmem]; exact e) lb (hg (by simp)) hI
theorem new_of {T : TypeId} {Z : Array Value} {j ia : Nat} {F : List (Fr T Z)} {v : World} {a' : Act} (hnd : ∀ p ∈ needOf ops j, p.1 ≠ ia → (F.getD p.1 .any).holds v (a'.tmps.getD p.2 undef)) (i t : Nat) (h : (needOf ops j).contains (i, t) = true) (hi : i ≠ ia) : (F.getD i .any).holds v (a'.eval (.tmp t)) :=
  hnd (i, t) (by simpa using h) hi
end
theorem setRow_grownR (w : World) (g : Nat) (cs : Array Value) : w.grownBy (w.setRow g cs) (some g) := ⟨rfl, rfl, rfl, by simp, fun k _ hk => setRow_other w g k cs (fun e => hk (by rw [e]))⟩
end Go.Proofs.Ytmfkpiclpkeemaa
