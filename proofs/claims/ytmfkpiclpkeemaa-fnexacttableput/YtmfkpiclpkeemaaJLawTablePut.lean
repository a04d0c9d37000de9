/-
  For every table, key and number the law FnExactTablePut returns true: impl.TablePut answers what the model spec.TablePut answers, writes into no argument, and its answer is its own. No condition; the arguments read afterwards as before.
-/
import Derived.Test.YtmfkpiclpkeemaaGH
import Derived.Test.YtmfkpiclpkeemaaGP
import Derived.Test.YtmfkpiclpkeemaaGC
import Derived.Test.YtmfkpiclpkeemaaRows
import Derived.ShutString
namespace Go.Proofs.Ytmfkpiclpkeemaa
set_option maxRecDepth 100000
open Go.RowKit

theorem tabPut_short (s : Int) (cs : List Ce) (k : Fk) (v : Int) : (tabPut s cs k v).1.cells.length ≤ 1048576 := by
  unfold tabPut
  split
  · rename_i h
    simp only [Bool.and_eq_true] at h
    have hl := tab_len h.1.1
    split
    · split
      · exact Nat.zero_le 1048576
      · show (putAt _ _ _ _).length ≤ 1048576
        rw [putAt, List.length_set]
        omega
    · exact Nat.zero_le 1048576
  · exact Nat.zero_le 1048576

section
variable {o : Oper} {a : Act} {w : World} {K : Act → World → Prop} {Q : Exit → Act → World → Prop}
theorem u_putS (x y z : Operand) (x0 x1 x2 : Value) (ts : Array TypeId) (ho : o.op = .call { callee := .value (.func 40), args := #[x, y, z], argTypes := ts }) (h0 : a.eval x = x0) (h1 : a.eval y = x1) (h2 : a.eval z = x2)
    (h : Calls Try.prog 40 #[x0, x1, x2] w fun e w' => ∃ v, e = .returned v ∧ K (a.put o.dst v) w') : o.wp Try.prog a w K Q := by
  unfold Oper.wp execOp
  simp only [ho, resolve, List.map_toArray, List.map_cons, List.map_nil, h0, h1, h2, show ∀ f, a.eval (.func f) = .func (.func f) #[] #[] from fun _ => rfl]
  go_simp
  exact h.mono fun e w' ⟨u, he, hk⟩ => by subst he; exact hk
theorem u_putI (x y z : Operand) (x0 x1 x2 : Value) (ts : Array TypeId) (ho : o.op = .call { callee := .value (.func 41), args := #[x, y, z], argTypes := ts }) (h0 : a.eval x = x0) (h1 : a.eval y = x1) (h2 : a.eval z = x2)
    (h : Calls Try.prog 41 #[x0, x1, x2] w fun e w' => ∃ v, e = .returned v ∧ K (a.put o.dst v) w') : o.wp Try.prog a w K Q := by
  unfold Oper.wp execOp
  simp only [ho, resolve, List.map_toArray, List.map_cons, List.map_nil, h0, h1, h2, show ∀ f, a.eval (.func f) = .func (.func f) #[] #[] from fun _ => rfl]
  go_simp
  exact h.mono fun e w' ⟨u, he, hk⟩ => by subst he; exact hk
theorem al_new_tbP (ho : o.op = .alloc 40) (hK : K (a.put o.dst (.pointer (some ⟨w.heap.size, 0, none⟩))) (w.alloc (.cells #[.int .i64 0, .slice none 0 0] 40))) : o.wp Try.prog a w K Q := by
  unfold Oper.wp execOp
  simp only [ho]
  go_simp
  exact hK
end

def TO (b : Nat) (s : Int) (n : Nat) (cs : List Ce) (w : World) (u : Value) : Prop := ∃ g, u = .agg #[.int .i64 s, .slice (some ⟨g, 0, none⟩) n n] ∧ w.ownsRow b 93 16 (.slice (some ⟨g, 0, none⟩) n n) n (fl Ce.cells cs)
theorem TO.on {b : Nat} {s : Int} {n : Nat} {cs : List Ce} (w w' : World) (v : Value) (hb : Below w.heap.size w w') (h : TO b s n cs w v) : TO b s n cs w' v := by
  obtain ⟨g, e, o⟩ := h
  exact ⟨g, e, own_below o hb⟩
theorem TO.setR {b : Nat} {s : Int} {n : Nat} {cs : List Ce} {zs : Array Value} (w w' : World) (v : Value) (q : Nat) (hb : w.heap[q]? = some (.cells zs 40 (0, 0))) (hg : w.grownBy w' (some q)) (h : TO b s n cs w v) : TO b s n cs w' v := by
  obtain ⟨g, e, o⟩ := h
  exact ⟨g, e, own_grown o hg (fun k hk e => own_neT o hb (by decide) k hk (Option.some.inj e))⟩
def TU (b : Nat) (sd : Int) (xs : List Ce) (rc : Int) (w : World) (u : Value) : Prop := ∃ A c, u = .tuple #[.agg #[.int .i64 sd, .slice A xs.length c], .int .i64 rc] ∧ w.ownsRow b 93 16 (.slice A xs.length c) xs.length (fl Ce.cells xs)
theorem TU.on {b : Nat} {sd : Int} {xs : List Ce} {rc : Int} (w w' : World) (v : Value) (hb : Below w.heap.size w w') (h : TU b sd xs rc w v) : TU b sd xs rc w' v := by
  obtain ⟨A, c, e, o⟩ := h
  exact ⟨A, c, e, own_below o hb⟩
theorem TU.setR {b : Nat} {sd : Int} {xs : List Ce} {rc : Int} {zs : Array Value} (w w' : World) (v : Value) (q : Nat) (hb : w.heap[q]? = some (.cells zs 40 (0, 0))) (hg : w.grownBy w' (some q)) (h : TU b sd xs rc w v) : TU b sd xs rc w' v := by
  obtain ⟨A, c, e, o⟩ := h
  exact ⟨A, c, e, own_grown o hg (fun k hk e => own_neT o hb (by decide) k hk (Option.some.inj e))⟩
def TX (b : Nat) (sd : Int) (xs : List Ce) (w : World) (u : Value) : Prop := ∃ A c, u = .agg #[.int .i64 sd, .slice A xs.length c] ∧ w.ownsRow b 93 16 (.slice A xs.length c) xs.length (fl Ce.cells xs)
theorem TX.on {b : Nat} {sd : Int} {xs : List Ce} (w w' : World) (v : Value) (hb : Below w.heap.size w w') (h : TX b sd xs w v) : TX b sd xs w' v := by
  obtain ⟨A, c, e, o⟩ := h
  exact ⟨A, c, e, own_below o hb⟩
theorem TX.setR {b : Nat} {sd : Int} {xs : List Ce} {zs : Array Value} (w w' : World) (v : Value) (q : Nat) (hb : w.heap[q]? = some (.cells zs 40 (0, 0))) (hg : w.grownBy w' (some q)) (h : TX b sd xs w v) : TX b sd xs w' v := by
  obtain ⟨A, c, e, o⟩ := h
  exact ⟨A, c, e, own_grown o hg (fun k hk e => own_neT o hb (by decide) k hk (Option.some.inj e))⟩
def GR (b : Nat) (sd : Int) (xs : List Ce) (k : Nat) (w : World) : Prop := ∃ A c, w.heap[k]? = some (.cells #[.int .i64 sd, .slice A xs.length c] 40 (0, 0)) ∧ w.ownsRow b 93 16 (.slice A xs.length c) xs.length (fl Ce.cells xs)
theorem GR.on {b : Nat} {sd : Int} {xs : List Ce} (k : Nat) (w w' : World) (hb : Below w.heap.size w w') (h : GR b sd xs k w) : GR b sd xs k w' := by
  obtain ⟨A, c, r, o⟩ := h
  exact ⟨A, c, K.below hb r, own_below o hb⟩

set_option maxHeartbeats 8000000 in
theorem lawTablePut {w : World} (s : Int) (A : Option Addr) (n c : Nat) (cs : List Ce) (h : FIn Ce.cells w A n c cs) (k : Fk) (nv : Int) (_ : (Lit.int .i64 nv).wf = true) : Calls Try.prog 10 #[.agg #[.int .i64 s, .slice A n c], k.val, .int .i64 nv] w fun e w' => e = .returned (.bool true) ∧ Below w.heap.size w w' := by
  unfold Fk.val
  have HL := Lib.hid h.len
  have R0 := Lib.hid h.row
  have hcap := h.cap
  have hbig := h.big
  obtain ⟨⟨⟨sd, xs⟩, rc⟩, hT⟩ : ∃ T, tabPut s cs k nv = T := ⟨_, rfl⟩
  have hx32 : xs.length ≤ 1048576 := by have := tabPut_short s cs k nv; rw [hT] at this; exact this
  have SC := Lib.hid (show ∀ (A : Option Addr) (n c : Nat) (v : World), RV v v.heap.size A (fl Ce.cells cs) → cs.length = n → n ≤ 1048576 → Calls Try.prog 40 #[.agg #[.int .i64 s, .slice A n c], .agg #[.int .i64 k.tenant, .int .i64 k.key.src.k, .int .i64 k.key.src.a, .int .i64 k.key.src.b, .int .i64 k.key.src.c, .int .i64 k.key.src.d, .int .i64 k.key.dst.k, .int .i64 k.key.dst.a, .int .i64 k.key.dst.b, .int .i64 k.key.dst.c, .int .i64 k.key.dst.d, .int .i64 k.key.proto, .int .i64 k.key.sport, .int .i64 k.key.dport], .int .i64 nv] v fun e w' => ∃ u, e = .returned (.tuple #[u, .int .i64 rc]) ∧ TOwn v.heap.size ⟨sd, xs⟩ w' u ∧ Below v.heap.size v w' from fun A n c v h1 h2 h3 => by have := tabPutS s A n c cs v h1 h2 h3 k nv; rw [hT] at this; exact this)
  have IC := Lib.hid (show ∀ (A : Option Addr) (n c : Nat) (v : World), RV v v.heap.size A (fl Ce.cells cs) → cs.length = n → n ≤ 1048576 → Calls Try.prog 41 #[.agg #[.int .i64 s, .slice A n c], .agg #[.int .i64 k.tenant, .int .i64 k.key.src.k, .int .i64 k.key.src.a, .int .i64 k.key.src.b, .int .i64 k.key.src.c, .int .i64 k.key.src.d, .int .i64 k.key.dst.k, .int .i64 k.key.dst.a, .int .i64 k.key.dst.b, .int .i64 k.key.dst.c, .int .i64 k.key.dst.d, .int .i64 k.key.proto, .int .i64 k.key.sport, .int .i64 k.key.dport], .int .i64 nv] v fun e w' => ∃ u, e = .returned (.tuple #[u, .int .i64 rc]) ∧ TOwn v.heap.size ⟨sd, xs⟩ w' u ∧ Below v.heap.size v w' from fun A n c v h1 h2 h3 => by have := tabPutI s A n c cs v h1 h2 h3 k nv; rw [hT] at this; exact this)
  have hrr : (rc != rc) = false := by simp
  clear h hT
  have q0 : Hid (((w.alloc (.cells #[.int .i64 s, .slice A n c] 47)).alloc (.cells #[.int .i64 k.tenant, .int .i64 k.key.src.k, .int .i64 k.key.src.a, .int .i64 k.key.src.b, .int .i64 k.key.src.c, .int .i64 k.key.src.d, .int .i64 k.key.dst.k, .int .i64 k.key.dst.a, .int .i64 k.key.dst.b, .int .i64 k.key.dst.c, .int .i64 k.key.dst.d, .int .i64 k.key.proto, .int .i64 k.key.sport, .int .i64 k.key.dport] 27)).heap[w.heap.size]? = some (.cells #[.int .i64 s, .slice A n c] 47 (0, 0))) := Lib.hid (K.old (K.new w _) _)
  have k0 : Hid (((w.alloc (.cells #[.int .i64 s, .slice A n c] 47)).alloc (.cells #[.int .i64 k.tenant, .int .i64 k.key.src.k, .int .i64 k.key.src.a, .int .i64 k.key.src.b, .int .i64 k.key.src.c, .int .i64 k.key.src.d, .int .i64 k.key.dst.k, .int .i64 k.key.dst.a, .int .i64 k.key.dst.b, .int .i64 k.key.dst.c, .int .i64 k.key.dst.d, .int .i64 k.key.proto, .int .i64 k.key.sport, .int .i64 k.key.dport] 27)).heap[w.heap.size + 1]? = some (.cells #[.int .i64 k.tenant, .int .i64 k.key.src.k, .int .i64 k.key.src.a, .int .i64 k.key.src.b, .int .i64 k.key.src.c, .int .i64 k.key.src.d, .int .i64 k.key.dst.k, .int .i64 k.key.dst.a, .int .i64 k.key.dst.b, .int .i64 k.key.dst.c, .int .i64 k.key.dst.d, .int .i64 k.key.proto, .int .i64 k.key.sport, .int .i64 k.key.dport] 27 (0, 0))) := Lib.hid (K.newAt (by simp))
  have HB := Lib.hid (Joins.below_alloc2 w (.cells #[.int .i64 s, .slice A n c] 47) (.cells #[.int .i64 k.tenant, .int .i64 k.key.src.k, .int .i64 k.key.src.a, .int .i64 k.key.src.b, .int .i64 k.key.src.c, .int .i64 k.key.src.d, .int .i64 k.key.dst.k, .int .i64 k.key.dst.a, .int .i64 k.key.dst.b, .int .i64 k.key.dst.c, .int .i64 k.key.dst.d, .int .i64 k.key.proto, .int .i64 k.key.sport, .int .i64 k.key.dport] 27))
  go_enter Try.func10, Try.ntmps10
  go_wp2_with (with_reducible refine loadTbL rfl _ rfl w.heap.size rfl q0.out ?_)
  refine Calls.mono (szTabC s A n c 1048576 _ (by omega) (by omega) (Nat.le_trans hcap hbig)) ?_
  rintro e w1 ⟨r, rfl, hr, b1⟩
  have q1 := Lib.hid (K.below b1 q0.out)
  have B1 := Lib.hid (bthen HB.out b1)
  have k1 := Lib.hid (K.below b1 k0.out)
  clear k0
  clear b1 q0
  by_cases hr0 : r < 0
  · clear hr
    go_wp2
    go_ret
    exact ⟨rfl, B1.out⟩
  have hn : n ≤ 1048576 := by omega
  have hrr : 0 ≤ r := by omega
  clear hr hr0
  go_wp2_with fail
  refine wp_region_new 40 #[.int .i64 0, .slice none 0 0] (by kernel_rfl) [2, 3, 4] 109 [(0, 24), (1, 25), (2, 26), (3, 27), (4, 28), (5, 29), (6, 23), (7, 30), (8, 31), (9, 8), (11, 9)] ([.val (.agg #[.int .i64 s, .slice A n c]), .pr (TO w1.heap.size s n cs) TO.on TO.setR, .val (.agg #[.int .i64 k.tenant, .int .i64 k.key.src.k, .int .i64 k.key.src.a, .int .i64 k.key.src.b, .int .i64 k.key.src.c, .int .i64 k.key.src.d, .int .i64 k.key.dst.k, .int .i64 k.key.dst.a, .int .i64 k.key.dst.b, .int .i64 k.key.dst.c, .int .i64 k.key.dst.d, .int .i64 k.key.proto, .int .i64 k.key.sport, .int .i64 k.key.dport]), .val (.agg #[.int .i64 k.tenant, .int .i64 k.key.src.k, .int .i64 k.key.src.a, .int .i64 k.key.src.b, .int .i64 k.key.src.c, .int .i64 k.key.src.d, .int .i64 k.key.dst.k, .int .i64 k.key.dst.a, .int .i64 k.key.dst.b, .int .i64 k.key.dst.c, .int .i64 k.key.dst.d, .int .i64 k.key.proto, .int .i64 k.key.sport, .int .i64 k.key.dport]), .val (.int .i64 nv), .pr (TU w1.heap.size sd xs rc) TU.on TU.setR, .pr (TU w1.heap.size sd xs rc) TU.on TU.setR, .pr (TX w1.heap.size sd xs) TX.on TX.setR, .val (.int .i64 rc), .any, .any, .val (.int .i64 rc)]) 9 10 8 (by decide) (by kernel_rfl) (by kernel_rfl) (by kernel_rfl) rfl (by kernel_rfl) rfl rfl (GR w1.heap.size sd xs) GR.on ?_ ?_ ?_ ?_
  · intro o ho a' v K' hK
    obtain rfl := Option.some.inj ho
    exact al_new_tbP rfl hK
  · intro o ho a' v K' b hx hpb hz hnd hB hK
    obtain rfl := Option.some.inj ho
    obtain ⟨A7, c7, h0, o7⟩ := (new_of hnd 7 30 (by kernel_rfl) (by decide) :)
    exact wp_store_row 40 _ _ rfl b _ hpb h0 _ _ hz info_tb rfl (by simp [Value.oneCell']) (hK _ _ ⟨A7, c7, setRow_heap _ _ _ _ _ _ hz, own_grown o7 (setRow_grownR v b _) (fun q hq e => own_neT o7 hz (by decide) q hq (Option.some.inj e))⟩ (setRow_grownR v b _))
  · intro j o hja hjs ho a' v K' hx hnd hB hK
    match j, hja, hjs, ho with
    | 0, _, _, ho =>
      obtain rfl := Option.some.inj ho
      have h0 : a'.eval (.tmp 3) = .pointer (some ⟨w.heap.size, 0, none⟩) := (hx 3 (by decide)).trans rfl
      exact r_tabL _ _ _ _ rfl h0 (K.below hB q1.out) (hK _ _ rfl (Below.refl _ _))
    | 1, _, _, ho =>
      obtain rfl := Option.some.inj ho
      have h0 : a'.eval (.tmp 24) = .agg #[.int .i64 s, .slice A n c] := (new_of hnd 0 24 (by kernel_rfl) (by decide) :)
      refine u_toTab _ _ _ rfl h0 (Calls.mono (toTabC s A n c cs _ (R0.out.on (bthen B1.out hB)) HL.out hn) ?_)
      rintro e' v' ⟨z, rfl, oz, b6⟩
      exact ⟨_, rfl, hK _ _ ⟨z, rfl, own_base oz hB.size⟩ b6⟩
    | 2, _, _, ho =>
      obtain rfl := Option.some.inj ho
      have h0 : a'.eval (.tmp 4) = .pointer (some ⟨w.heap.size + 1, 0, none⟩) := (hx 4 (by decide)).trans rfl
      exact r_fkL _ _ k rfl h0 (K.below hB k1.out) (hK _ _ rfl (Below.refl _ _))
    | 3, _, _, ho =>
      obtain rfl := Option.some.inj ho
      have h0 : a'.eval (.tmp 26) = .agg #[.int .i64 k.tenant, .int .i64 k.key.src.k, .int .i64 k.key.src.a, .int .i64 k.key.src.b, .int .i64 k.key.src.c, .int .i64 k.key.src.d, .int .i64 k.key.dst.k, .int .i64 k.key.dst.a, .int .i64 k.key.dst.b, .int .i64 k.key.dst.c, .int .i64 k.key.dst.d, .int .i64 k.key.proto, .int .i64 k.key.sport, .int .i64 k.key.dport] := (new_of hnd 2 26 (by kernel_rfl) (by decide) :)
      refine u_toFk _ _ _ rfl h0 (Calls.mono (toFlowKeyC k _) ?_)
      rintro e' v' ⟨rfl, b6⟩
      exact ⟨_, rfl, hK _ _ rfl b6⟩
    | 4, _, _, ho =>
      obtain rfl := Option.some.inj ho
      have h0 : a'.eval (.tmp 2) = .int .i64 nv := (hx 2 (by decide)).trans rfl
      exact t_mv _ _ rfl h0 (hK _ _ rfl (Below.refl _ _))
    | 5, _, _, ho =>
      obtain rfl := Option.some.inj ho
      obtain ⟨z6, h0, o6⟩ := (new_of hnd 1 25 (by kernel_rfl) (by decide) :)
      have h1 : a'.eval (.tmp 27) = .agg #[.int .i64 k.tenant, .int .i64 k.key.src.k, .int .i64 k.key.src.a, .int .i64 k.key.src.b, .int .i64 k.key.src.c, .int .i64 k.key.src.d, .int .i64 k.key.dst.k, .int .i64 k.key.dst.a, .int .i64 k.key.dst.b, .int .i64 k.key.dst.c, .int .i64 k.key.dst.d, .int .i64 k.key.proto, .int .i64 k.key.sport, .int .i64 k.key.dport] := (new_of hnd 3 27 (by kernel_rfl) (by decide) :)
      have h2 : a'.eval (.tmp 28) = .int .i64 nv := (new_of hnd 4 28 (by kernel_rfl) (by decide) :)
      refine u_putS _ _ _ _ _ _ _ rfl h0 h1 h2 (Calls.mono (SC.out _ n n _ (RV.of_own o6) HL.out hn) ?_)
      rintro e' v' ⟨u7, rfl, ⟨A7, n7, c7, rfl, o7⟩, b6⟩
      obtain rfl := own_len o7
      exact ⟨_, rfl, hK _ _ ⟨A7, c7, rfl, own_base o7 (by have := hB.size; first | exact this | (simp only [World.size_alloc] at this; omega))⟩ b6⟩
    | 6, _, _, ho =>
      obtain rfl := Option.some.inj ho
      obtain ⟨A7, c7, h0, o7⟩ := (new_of hnd 5 29 (by kernel_rfl) (by decide) :)
      exact t_mv _ _ rfl h0 (hK _ _ ⟨A7, c7, rfl, o7⟩ (Below.refl _ _))
    | 7, _, _, ho =>
      obtain rfl := Option.some.inj ho
      obtain ⟨A7, c7, h0, o7⟩ := (new_of hnd 6 23 (by kernel_rfl) (by decide) :)
      exact t_ex0 _ _ _ rfl h0 (hK _ _ ⟨A7, c7, rfl, o7⟩ (Below.refl _ _))
    | 8, _, _, ho =>
      obtain rfl := Option.some.inj ho
      obtain ⟨A7, c7, h0, o7⟩ := (new_of hnd 6 23 (by kernel_rfl) (by decide) :)
      exact t_ex1 _ _ _ rfl h0 (hK _ _ rfl (Below.refl _ _))
    | 11, _, _, ho =>
      obtain rfl := Option.some.inj ho
      have h0 : a'.eval (.tmp 31) = .int .i64 rc := (new_of hnd 8 31 (by kernel_rfl) (by decide) :)
      exact t_as _ _ rfl h0 (hK _ _ rfl (Below.refl _ _))
    | 9, hja, _, _ => exact absurd rfl hja
    | 10, _, hjs, _ => exact absurd rfl hjs
    | j + 12, _, _, ho => simp at ho
  · intro f w3 b3 hf eN lN hG hB
    obtain ⟨A3, c3, rN, oN⟩ := hG
    have e0 : f 0 = (.agg #[.int .i64 s, .slice A n c]) := hf (0, 24) (by decide) (by decide)
    obtain ⟨_, e1, _⟩ := hf (1, 25) (by decide) (by decide)
    have e2 : f 2 = (.agg #[.int .i64 k.tenant, .int .i64 k.key.src.k, .int .i64 k.key.src.a, .int .i64 k.key.src.b, .int .i64 k.key.src.c, .int .i64 k.key.src.d, .int .i64 k.key.dst.k, .int .i64 k.key.dst.a, .int .i64 k.key.dst.b, .int .i64 k.key.dst.c, .int .i64 k.key.dst.d, .int .i64 k.key.proto, .int .i64 k.key.sport, .int .i64 k.key.dport]) := hf (2, 26) (by decide) (by decide)
    have e3 : f 3 = (.agg #[.int .i64 k.tenant, .int .i64 k.key.src.k, .int .i64 k.key.src.a, .int .i64 k.key.src.b, .int .i64 k.key.src.c, .int .i64 k.key.src.d, .int .i64 k.key.dst.k, .int .i64 k.key.dst.a, .int .i64 k.key.dst.b, .int .i64 k.key.dst.c, .int .i64 k.key.dst.d, .int .i64 k.key.proto, .int .i64 k.key.sport, .int .i64 k.key.dport]) := hf (3, 27) (by decide) (by decide)
    have e4 : f 4 = (.int .i64 nv) := hf (4, 28) (by decide) (by decide)
    obtain ⟨_, _, e5, _⟩ := hf (5, 29) (by decide) (by decide)
    obtain ⟨_, _, e6, _⟩ := hf (6, 23) (by decide) (by decide)
    obtain ⟨_, _, e7, _⟩ := hf (7, 30) (by decide) (by decide)
    have e8 : f 8 = (.int .i64 rc) := hf (8, 31) (by decide) (by decide)
    have e11 : f 11 = .int .i64 rc := hf (11, 9) (by decide) (by decide)
    simp only [List.foldl_cons, List.foldl_nil, e0, e1, e2, e3, e4, e5, e6, e7, e8, e11, eN]
    clear e0 e1 e2 e3 e4 e5 e6 e7 e8 e11 eN hf
    go_simp
    have B2 := Lib.hid (bthen B1.out hB)
    have q2 := Lib.hid (K.below hB q1.out)
    have k2 := Lib.hid (K.below hB k1.out)
    clear B1 q1 k1
    have W2 := Lib.hid oN
    have LW := Lib.hid oN.lt
    have ww2 := Lib.hid rN
    clear hB rN oN lN
    go_wp2_with (with_reducible refine loadTbL rfl _ rfl (w.heap.size) rfl q2.out ?_)
    refine Calls.mono (toTabC s A n c cs _ (R0.out.on B2.out) HL.out hn) ?_
    rintro e w4 ⟨g4, rfl, o4, b4⟩
    have ZX := Lib.hid B2.out.size
    have B3 := Lib.hid (bthen B2.out b4)
    have q3 := Lib.hid (K.below b4 q2.out)
    have k3 := Lib.hid (K.below b4 k2.out)
    have W3 := Lib.hid (own_below W2.out b4)
    have ww3 := Lib.hid (K.below b4 ww2.out)
    clear B2 q2 k2 W2 ww2
    have X3 := Lib.hid o4
    have LX := Lib.hid o4.lt
    clear o4 b4
    have AL := Lib.hid (Joins.below_alloc1 w4 (.cells #[.int .i64 s, .slice (some ⟨g4, 0, none⟩) n n] 40))
    have B4 := Lib.hid (bthen B3.out AL.out)
    have q4 := Lib.hid (K.old q3.out (.cells #[.int .i64 s, .slice (some ⟨g4, 0, none⟩) n n] 40))
    have k4 := Lib.hid (K.old k3.out (.cells #[.int .i64 s, .slice (some ⟨g4, 0, none⟩) n n] 40))
    have W4 := Lib.hid (own_below W3.out AL.out)
    have ww4 := Lib.hid (K.old ww3.out (.cells #[.int .i64 s, .slice (some ⟨g4, 0, none⟩) n n] 40))
    have X4 := Lib.hid (own_below X3.out AL.out)
    clear AL B3 q3 k3 W3 ww3 X3
    have x4 := Lib.hid (K.new w4 (.cells #[.int .i64 s, .slice (some ⟨g4, 0, none⟩) n n] 40))
    have ZGG := Lib.hid B4.out.size
    go_wp2_with fail
    refine wp_region_new 40 #[.int .i64 0, .slice none 0 0] (by kernel_rfl) [2, 4, 10] 109 [(0, 35), (1, 36), (2, 37), (3, 38), (4, 39), (5, 34), (6, 40), (7, 41), (8, 11), (10, 12)] ([.val (.agg #[.int .i64 s, .slice (some ⟨g4, 0, none⟩) n n]), .val (.agg #[.int .i64 k.tenant, .int .i64 k.key.src.k, .int .i64 k.key.src.a, .int .i64 k.key.src.b, .int .i64 k.key.src.c, .int .i64 k.key.src.d, .int .i64 k.key.dst.k, .int .i64 k.key.dst.a, .int .i64 k.key.dst.b, .int .i64 k.key.dst.c, .int .i64 k.key.dst.d, .int .i64 k.key.proto, .int .i64 k.key.sport, .int .i64 k.key.dport]), .val (.agg #[.int .i64 k.tenant, .int .i64 k.key.src.k, .int .i64 k.key.src.a, .int .i64 k.key.src.b, .int .i64 k.key.src.c, .int .i64 k.key.src.d, .int .i64 k.key.dst.k, .int .i64 k.key.dst.a, .int .i64 k.key.dst.b, .int .i64 k.key.dst.c, .int .i64 k.key.dst.d, .int .i64 k.key.proto, .int .i64 k.key.sport, .int .i64 k.key.dport]), .val (.int .i64 nv), .pr (TU (w4.heap.size + 1) sd xs rc) TU.on TU.setR, .pr (TU (w4.heap.size + 1) sd xs rc) TU.on TU.setR, .pr (TX (w4.heap.size + 1) sd xs) TX.on TX.setR, .val (.int .i64 rc), .any, .any, .val (.int .i64 rc)]) 8 9 11 (by decide) (by kernel_rfl) (by kernel_rfl) (by kernel_rfl) rfl (by kernel_rfl) rfl rfl (GR (w4.heap.size + 1) sd xs) GR.on ?_ ?_ ?_ ?_
    · intro o ho a' v K' hK
      obtain rfl := Option.some.inj ho
      exact al_new_tbP rfl hK
    · intro o ho a' v K' b hx hpb hz hnd hB hK
      obtain rfl := Option.some.inj ho
      obtain ⟨A7, c7, h0, o7⟩ := (new_of hnd 6 40 (by kernel_rfl) (by decide) :)
      exact wp_store_row 40 _ _ rfl b _ hpb h0 _ _ hz info_tb rfl (by simp [Value.oneCell']) (hK _ _ ⟨A7, c7, setRow_heap _ _ _ _ _ _ hz, own_grown o7 (setRow_grownR v b _) (fun q hq e => own_neT o7 hz (by decide) q hq (Option.some.inj e))⟩ (setRow_grownR v b _))
    · intro j o hja hjs ho a' v K' hx hnd hB hK
      match j, hja, hjs, ho with
      | 0, _, _, ho =>
        obtain rfl := Option.some.inj ho
        have h0 : a'.eval (.tmp 10) = .pointer (some ⟨w4.heap.size, 0, none⟩) := (hx 10 (by decide)).trans rfl
        exact r_tab _ _ _ _ rfl h0 (K.below hB x4.out) (hK _ _ rfl (Below.refl _ _))
      | 1, _, _, ho =>
        obtain rfl := Option.some.inj ho
        have h0 : a'.eval (.tmp 4) = .pointer (some ⟨w.heap.size + 1, 0, none⟩) := (hx 4 (by decide)).trans rfl
        exact r_fkL _ _ k rfl h0 (K.below hB k4.out) (hK _ _ rfl (Below.refl _ _))
      | 2, _, _, ho =>
        obtain rfl := Option.some.inj ho
        have h0 : a'.eval (.tmp 36) = .agg #[.int .i64 k.tenant, .int .i64 k.key.src.k, .int .i64 k.key.src.a, .int .i64 k.key.src.b, .int .i64 k.key.src.c, .int .i64 k.key.src.d, .int .i64 k.key.dst.k, .int .i64 k.key.dst.a, .int .i64 k.key.dst.b, .int .i64 k.key.dst.c, .int .i64 k.key.dst.d, .int .i64 k.key.proto, .int .i64 k.key.sport, .int .i64 k.key.dport] := (new_of hnd 1 36 (by kernel_rfl) (by decide) :)
        refine u_toFk _ _ _ rfl h0 (Calls.mono (toFlowKeyC k _) ?_)
        rintro e' v' ⟨rfl, b6⟩
        exact ⟨_, rfl, hK _ _ rfl b6⟩
      | 3, _, _, ho =>
        obtain rfl := Option.some.inj ho
        have h0 : a'.eval (.tmp 2) = .int .i64 nv := (hx 2 (by decide)).trans rfl
        exact t_mv _ _ rfl h0 (hK _ _ rfl (Below.refl _ _))
      | 4, _, _, ho =>
        obtain rfl := Option.some.inj ho
        have h0 : a'.eval (.tmp 35) = .agg #[.int .i64 s, .slice (some ⟨g4, 0, none⟩) n n] := (new_of hnd 0 35 (by kernel_rfl) (by decide) :)
        have h1 : a'.eval (.tmp 37) = .agg #[.int .i64 k.tenant, .int .i64 k.key.src.k, .int .i64 k.key.src.a, .int .i64 k.key.src.b, .int .i64 k.key.src.c, .int .i64 k.key.src.d, .int .i64 k.key.dst.k, .int .i64 k.key.dst.a, .int .i64 k.key.dst.b, .int .i64 k.key.dst.c, .int .i64 k.key.dst.d, .int .i64 k.key.proto, .int .i64 k.key.sport, .int .i64 k.key.dport] := (new_of hnd 2 37 (by kernel_rfl) (by decide) :)
        have h2 : a'.eval (.tmp 38) = .int .i64 nv := (new_of hnd 3 38 (by kernel_rfl) (by decide) :)
        refine u_putI _ _ _ _ _ _ _ rfl h0 h1 h2 (Calls.mono (IC.out _ n n _ ((RV.of_own X4.out).on hB) HL.out hn) ?_)
        rintro e' v' ⟨u7, rfl, ⟨A7, n7, c7, rfl, o7⟩, b6⟩
        obtain rfl := own_len o7
        exact ⟨_, rfl, hK _ _ ⟨A7, c7, rfl, own_base o7 (by have := hB.size; first | exact this | (simp only [World.size_alloc] at this; omega))⟩ b6⟩
      | 5, _, _, ho =>
        obtain rfl := Option.some.inj ho
        obtain ⟨A7, c7, h0, o7⟩ := (new_of hnd 4 39 (by kernel_rfl) (by decide) :)
        exact t_mv _ _ rfl h0 (hK _ _ ⟨A7, c7, rfl, o7⟩ (Below.refl _ _))
      | 6, _, _, ho =>
        obtain rfl := Option.some.inj ho
        obtain ⟨A7, c7, h0, o7⟩ := (new_of hnd 5 34 (by kernel_rfl) (by decide) :)
        exact t_ex0 _ _ _ rfl h0 (hK _ _ ⟨A7, c7, rfl, o7⟩ (Below.refl _ _))
      | 7, _, _, ho =>
        obtain rfl := Option.some.inj ho
        obtain ⟨A7, c7, h0, o7⟩ := (new_of hnd 5 34 (by kernel_rfl) (by decide) :)
        exact t_ex1 _ _ _ rfl h0 (hK _ _ rfl (Below.refl _ _))
      | 10, _, _, ho =>
        obtain rfl := Option.some.inj ho
        have h0 : a'.eval (.tmp 41) = .int .i64 rc := (new_of hnd 7 41 (by kernel_rfl) (by decide) :)
        exact t_as _ _ rfl h0 (hK _ _ rfl (Below.refl _ _))
      | 8, hja, _, _ => exact absurd rfl hja
      | 9, _, hjs, _ => exact absurd rfl hjs
      | j + 11, _, _, ho => simp at ho
    · intro f w5 b5 hf eN lN hG hB
      obtain ⟨A5, c5, rN, oN⟩ := hG
      have e0 : f 0 = (.agg #[.int .i64 s, .slice (some ⟨g4, 0, none⟩) n n]) := hf (0, 35) (by decide) (by decide)
      have e1 : f 1 = (.agg #[.int .i64 k.tenant, .int .i64 k.key.src.k, .int .i64 k.key.src.a, .int .i64 k.key.src.b, .int .i64 k.key.src.c, .int .i64 k.key.src.d, .int .i64 k.key.dst.k, .int .i64 k.key.dst.a, .int .i64 k.key.dst.b, .int .i64 k.key.dst.c, .int .i64 k.key.dst.d, .int .i64 k.key.proto, .int .i64 k.key.sport, .int .i64 k.key.dport]) := hf (1, 36) (by decide) (by decide)
      have e2 : f 2 = (.agg #[.int .i64 k.tenant, .int .i64 k.key.src.k, .int .i64 k.key.src.a, .int .i64 k.key.src.b, .int .i64 k.key.src.c, .int .i64 k.key.src.d, .int .i64 k.key.dst.k, .int .i64 k.key.dst.a, .int .i64 k.key.dst.b, .int .i64 k.key.dst.c, .int .i64 k.key.dst.d, .int .i64 k.key.proto, .int .i64 k.key.sport, .int .i64 k.key.dport]) := hf (2, 37) (by decide) (by decide)
      have e3 : f 3 = (.int .i64 nv) := hf (3, 38) (by decide) (by decide)
      obtain ⟨_, _, e4, _⟩ := hf (4, 39) (by decide) (by decide)
      obtain ⟨_, _, e5, _⟩ := hf (5, 34) (by decide) (by decide)
      obtain ⟨_, _, e6, _⟩ := hf (6, 40) (by decide) (by decide)
      have e7 : f 7 = (.int .i64 rc) := hf (7, 41) (by decide) (by decide)
      have e10 : f 10 = .int .i64 rc := hf (10, 12) (by decide) (by decide)
      simp only [List.foldl_cons, List.foldl_nil, e0, e1, e2, e3, e4, e5, e6, e7, e10, eN]
      clear e0 e1 e2 e3 e4 e5 e6 e7 e10 eN hf
      go_simp
      have B5 := Lib.hid (bthen B4.out hB)
      have q5 := Lib.hid (K.below hB q4.out)
      have k5 := Lib.hid (K.below hB k4.out)
      have W5 := Lib.hid (own_below W4.out hB)
      have ww5 := Lib.hid (K.below hB ww4.out)
      have X5 := Lib.hid (own_below X4.out hB)
      have x5 := Lib.hid (K.below hB x4.out)
      clear B4 q4 k4 W4 ww4 X4 x4
      have G5 := Lib.hid oN
      have LG := Lib.hid oN.lt
      have gg5 := Lib.hid rN
      clear hB rN oN lN
      go_wp2_with (first | (with_reducible refine loadTb rfl _ rfl (b5) rfl gg5.out ?_) | (with_reducible refine loadTb rfl _ rfl (b3) rfl ww5.out ?_))
      refine Calls.mono (eqTabC sd A5 A3 xs.length c5 c3 xs _ (RV.of_own G5.out) (RV.of_own W5.out) rfl hx32) ?_
      rintro e w6 ⟨rfl, b6⟩
      have B6 := Lib.hid (bthen B5.out b6)
      have q6 := Lib.hid (K.below b6 q5.out)
      have k6 := Lib.hid (K.below b6 k5.out)
      have W6 := Lib.hid (own_below W5.out b6)
      have ww6 := Lib.hid (K.below b6 ww5.out)
      have X6 := Lib.hid (own_below X5.out b6)
      have x6 := Lib.hid (K.below b6 x5.out)
      have G6 := Lib.hid (own_below G5.out b6)
      have gg6 := Lib.hid (K.below b6 gg5.out)
      clear B5 q5 k5 W5 ww5 X5 x5 G5 gg5
      clear b6
      go_wp2_with fail
      refine wp_region_guards (by kernel_rfl) 4 109 [(0, 51), (1, 52), (2, 53), (3, 54)] _ ([.val (.agg #[.int .i64 s, .slice (some ⟨g4, 0, none⟩) n n]), .val (.agg #[.int .i64 s, .slice A n c]), .pr (TP s n cs) TP.on, .val (.bool true)]) (by kernel_rfl) (by kernel_rfl) (by kernel_rfl) rfl rfl ?_ ?_
      · intro j o hj ho hr a' v K' hx hnd hB hK
        match j, hj, ho, hr with
        | 0, _, ho, _ =>
          obtain rfl := Option.some.inj ho
          have h0 : a'.eval (.tmp 10) = .pointer (some ⟨w4.heap.size, 0, none⟩) := (hx 10 (by decide)).trans rfl
          exact r_tab _ _ _ _ rfl h0 (K.below hB x6.out) (hK _ _ rfl (Below.refl _ _))
        | 1, _, ho, _ =>
          obtain rfl := Option.some.inj ho
          have h0 : a'.eval (.tmp 3) = .pointer (some ⟨w.heap.size, 0, none⟩) := (hx 3 (by decide)).trans rfl
          exact r_tabL _ _ _ _ rfl h0 (K.below hB q6.out) (hK _ _ rfl (Below.refl _ _))
        | 2, _, ho, _ =>
          obtain rfl := Option.some.inj ho
          have h0 : a'.eval (.tmp 52) = .agg #[.int .i64 s, .slice A n c] := (gds_of hnd 1 52 (by kernel_rfl) :)
          refine u_toTab _ _ _ rfl h0 (Calls.mono (toTabP s A n c cs _ (R0.out.on (bthen B6.out hB)) HL.out hn) ?_)
          rintro e' v' ⟨z, rfl, hz, b6⟩
          exact ⟨_, rfl, hK _ _ hz b6⟩
        | 3, _, ho, _ =>
          obtain rfl := Option.some.inj ho
          have h0 : a'.eval (.tmp 51) = .agg #[.int .i64 s, .slice (some ⟨g4, 0, none⟩) n n] := (gds_of hnd 0 51 (by kernel_rfl) :)
          obtain ⟨z6, rfl6, r6⟩ := (gds_of hnd 2 53 (by kernel_rfl) :)
          refine u_eqTab _ _ _ _ _ rfl h0 rfl6 (Calls.mono (eqTabC s _ _ n n n cs _ ((RV.of_own X6.out).on hB) r6 HL.out hn) ?_)
          rintro e' v' ⟨rfl, b6⟩
          exact ⟨_, rfl, hK _ _ rfl b6⟩
        | j + 4, hj, _, _ => omega
      · intro f v hf hB
        have e0 : f 0 = (.agg #[.int .i64 s, .slice (some ⟨g4, 0, none⟩) n n]) := hf (0, 51) (by decide)
        have e1 : f 1 = (.agg #[.int .i64 s, .slice A n c]) := hf (1, 52) (by decide)
        have e3 : f 3 = (.bool true) := hf (3, 54) (by decide)
        simp only [List.foldl_cons, List.foldl_nil, List.drop_succ_cons, List.drop_zero, e0, e1, e3]
        clear e0 e1 e3 hf
        go_simp
        have B7 := Lib.hid (bthen B6.out hB)
        have q7 := Lib.hid (K.below hB q6.out)
        have k7 := Lib.hid (K.below hB k6.out)
        have W7 := Lib.hid (own_below W6.out hB)
        have ww7 := Lib.hid (K.below hB ww6.out)
        have X7 := Lib.hid (own_below X6.out hB)
        have x7 := Lib.hid (K.below hB x6.out)
        have G7 := Lib.hid (own_below G6.out hB)
        have gg7 := Lib.hid (K.below hB gg6.out)
        clear B6 q6 k6 W6 ww6 X6 x6 G6 gg6
        clear hB
        go_wp2_with (with_reducible refine loadTb rfl _ rfl (w4.heap.size) rfl x7.out ?_)
        refine Calls.mono (markTabC s (some ⟨g4, 0, none⟩) n n _ _ 1 _ X7.out hn (by omega) (by omega)) ?_
        rintro e w8 ⟨rfl, o8, gr⟩
        have B8 := Lib.hid (bgrown B7.out gr (fun q hq => by have h2 := LX.out q hq; have h3 := ZX.out; first | omega | (simp only [World.size_alloc] at *; omega)))
        have q8 := Lib.hid (K.kept gr q7.out (fun q hq => own_neT X7.out q7.out (by decide) q hq))
        have k8 := Lib.hid (K.kept gr k7.out (fun q hq => own_neT X7.out k7.out (by decide) q hq))
        have W8 := Lib.hid (own_grown W7.out gr (fun q hq e => by have h1 := LW.out q hq; have h2 := LX.out q e; first | omega | (simp only [World.size_alloc] at *; omega)))
        have ww8 := Lib.hid (K.kept gr ww7.out (fun q hq => own_neT X7.out ww7.out (by decide) q hq))
        have X8 := Lib.hid o8
        have x8 := Lib.hid (K.kept gr x7.out (fun q hq => own_neT X7.out x7.out (by decide) q hq))
        have G8 := Lib.hid (own_grown G7.out gr (fun q hq e => by have h1 := LG.out q hq; have h2 := LX.out q e; first | omega | (simp only [World.size_alloc] at *; omega)))
        have gg8 := Lib.hid (K.kept gr gg7.out (fun q hq => own_neT X7.out gg7.out (by decide) q hq))
        clear gr B7 q7 k7 W7 ww7 X7 x7 G7 gg7
        clear o8
        have hk9 : ¬ (1 + (n : Int) * 16 < 0) := by omega
        obtain ⟨⟨y0, y1⟩, _⟩ := K.row2 gg8.out
        obtain ⟨⟨y2, y3⟩, _⟩ := K.row2 ww8.out
        go_wp2_with (first | (with_reducible refine loadTb rfl _ rfl (b5) rfl gg8.out ?_) | (with_reducible refine loadTb rfl _ rfl (b3) rfl ww8.out ?_))
        refine Calls.mono (eqTabC sd A5 A3 xs.length c5 c3 xs _ (RV.of_own G8.out) (RV.of_own W8.out) rfl hx32) ?_
        rintro e w9 ⟨rfl, b9⟩
        have B9 := Lib.hid (bthen B8.out b9)
        have q9 := Lib.hid (K.below b9 q8.out)
        have k9 := Lib.hid (K.below b9 k8.out)
        have W9 := Lib.hid (own_below W8.out b9)
        have ww9 := Lib.hid (K.below b9 ww8.out)
        have X9 := Lib.hid (own_below X8.out b9)
        have x9 := Lib.hid (K.below b9 x8.out)
        have G9 := Lib.hid (own_below G8.out b9)
        have gg9 := Lib.hid (K.below b9 gg8.out)
        clear B8 q8 k8 W8 ww8 X8 x8 G8 gg8
        clear b9
        clear X9 hk9 y0 y1 y2 y3
        go_wp2_with (with_reducible refine loadTb rfl _ rfl (b5) rfl gg9.out ?_)
        refine Calls.mono (markTabC sd A5 xs.length c5 _ _ 1 _ G9.out hx32 (by omega) (by omega)) ?_
        rintro e wb ⟨rfl, ob, gr⟩
        have B10 := Lib.hid (bgrown B9.out gr (fun q hq => by have h2 := LG.out q hq; have h3 := ZGG.out; first | omega | (simp only [World.size_alloc] at *; omega)))
        have q10 := Lib.hid (K.kept gr q9.out (fun q hq => own_neT G9.out q9.out (by decide) q hq))
        have k10 := Lib.hid (K.kept gr k9.out (fun q hq => own_neT G9.out k9.out (by decide) q hq))
        have W10 := Lib.hid (own_grown W9.out gr (fun q hq e => by have h1 := LW.out q hq; have h2 := LG.out q e; have h4 := LX.out g4 rfl; first | omega | (simp only [World.size_alloc] at *; omega)))
        have ww10 := Lib.hid (K.kept gr ww9.out (fun q hq => own_neT G9.out ww9.out (by decide) q hq))
        have x10 := Lib.hid (K.kept gr x9.out (fun q hq => own_neT G9.out x9.out (by decide) q hq))
        have G10 := Lib.hid ob
        have gg10 := Lib.hid (K.kept gr gg9.out (fun q hq => own_neT G9.out gg9.out (by decide) q hq))
        clear gr B9 q9 k9 W9 ww9 x9 G9 gg9
        clear ob
        have hkc : ¬ (1 + (xs.length : Int) * 16 < 0) := by omega
        go_wp2_with (with_reducible refine loadTb rfl _ rfl (b5) rfl gg10.out ?_)
        refine Calls.mono (heldTabC sd A5 xs.length c5 1 _ (RV.of_own G10.out) hx32 (by omega) (by omega)) ?_
        rintro e wc ⟨rfl, bc⟩
        have B11 := Lib.hid (bthen B10.out bc)
        have q11 := Lib.hid (K.below bc q10.out)
        have k11 := Lib.hid (K.below bc k10.out)
        have W11 := Lib.hid (own_below W10.out bc)
        have ww11 := Lib.hid (K.below bc ww10.out)
        have x11 := Lib.hid (K.below bc x10.out)
        have G11 := Lib.hid (own_below G10.out bc)
        have gg11 := Lib.hid (K.below bc gg10.out)
        clear B10 q10 k10 W10 ww10 x10 G10 gg10
        clear bc
        go_wp2_with fail
        refine wp_region_new 40 #[.int .i64 0, .slice none 0 0] (by kernel_rfl) [2, 3, 4] 109 [(0, 84), (1, 85), (2, 86), (3, 87), (4, 88), (5, 89), (6, 83), (7, 90), (8, 91), (9, 16), (11, 17)] ([.val (.agg #[.int .i64 s, .slice A n c]), .pr (TO wc.heap.size s n cs) TO.on TO.setR, .val (.agg #[.int .i64 k.tenant, .int .i64 k.key.src.k, .int .i64 k.key.src.a, .int .i64 k.key.src.b, .int .i64 k.key.src.c, .int .i64 k.key.src.d, .int .i64 k.key.dst.k, .int .i64 k.key.dst.a, .int .i64 k.key.dst.b, .int .i64 k.key.dst.c, .int .i64 k.key.dst.d, .int .i64 k.key.proto, .int .i64 k.key.sport, .int .i64 k.key.dport]), .val (.agg #[.int .i64 k.tenant, .int .i64 k.key.src.k, .int .i64 k.key.src.a, .int .i64 k.key.src.b, .int .i64 k.key.src.c, .int .i64 k.key.src.d, .int .i64 k.key.dst.k, .int .i64 k.key.dst.a, .int .i64 k.key.dst.b, .int .i64 k.key.dst.c, .int .i64 k.key.dst.d, .int .i64 k.key.proto, .int .i64 k.key.sport, .int .i64 k.key.dport]), .val (.int .i64 nv), .pr (TU wc.heap.size sd xs rc) TU.on TU.setR, .pr (TU wc.heap.size sd xs rc) TU.on TU.setR, .pr (TX wc.heap.size sd xs) TX.on TX.setR, .val (.int .i64 rc), .any, .any, .val (.int .i64 rc)]) 9 10 16 (by decide) (by kernel_rfl) (by kernel_rfl) (by kernel_rfl) rfl (by kernel_rfl) rfl rfl (GR wc.heap.size sd xs) GR.on ?_ ?_ ?_ ?_
        · intro o ho a' v K' hK
          obtain rfl := Option.some.inj ho
          exact al_new_tbP rfl hK
        · intro o ho a' v K' b hx hpb hz hnd hB hK
          obtain rfl := Option.some.inj ho
          obtain ⟨A7, c7, h0, o7⟩ := (new_of hnd 7 90 (by kernel_rfl) (by decide) :)
          exact wp_store_row 40 _ _ rfl b _ hpb h0 _ _ hz info_tb rfl (by simp [Value.oneCell']) (hK _ _ ⟨A7, c7, setRow_heap _ _ _ _ _ _ hz, own_grown o7 (setRow_grownR v b _) (fun q hq e => own_neT o7 hz (by decide) q hq (Option.some.inj e))⟩ (setRow_grownR v b _))
        · intro j o hja hjs ho a' v K' hx hnd hB hK
          match j, hja, hjs, ho with
          | 0, _, _, ho =>
            obtain rfl := Option.some.inj ho
            have h0 : a'.eval (.tmp 3) = .pointer (some ⟨w.heap.size, 0, none⟩) := (hx 3 (by decide)).trans rfl
            exact r_tabL _ _ _ _ rfl h0 (K.below hB q11.out) (hK _ _ rfl (Below.refl _ _))
          | 1, _, _, ho =>
            obtain rfl := Option.some.inj ho
            have h0 : a'.eval (.tmp 84) = .agg #[.int .i64 s, .slice A n c] := (new_of hnd 0 84 (by kernel_rfl) (by decide) :)
            refine u_toTab _ _ _ rfl h0 (Calls.mono (toTabC s A n c cs _ (R0.out.on (bthen B11.out hB)) HL.out hn) ?_)
            rintro e' v' ⟨z, rfl, oz, b6⟩
            exact ⟨_, rfl, hK _ _ ⟨z, rfl, own_base oz hB.size⟩ b6⟩
          | 2, _, _, ho =>
            obtain rfl := Option.some.inj ho
            have h0 : a'.eval (.tmp 4) = .pointer (some ⟨w.heap.size + 1, 0, none⟩) := (hx 4 (by decide)).trans rfl
            exact r_fkL _ _ k rfl h0 (K.below hB k11.out) (hK _ _ rfl (Below.refl _ _))
          | 3, _, _, ho =>
            obtain rfl := Option.some.inj ho
            have h0 : a'.eval (.tmp 86) = .agg #[.int .i64 k.tenant, .int .i64 k.key.src.k, .int .i64 k.key.src.a, .int .i64 k.key.src.b, .int .i64 k.key.src.c, .int .i64 k.key.src.d, .int .i64 k.key.dst.k, .int .i64 k.key.dst.a, .int .i64 k.key.dst.b, .int .i64 k.key.dst.c, .int .i64 k.key.dst.d, .int .i64 k.key.proto, .int .i64 k.key.sport, .int .i64 k.key.dport] := (new_of hnd 2 86 (by kernel_rfl) (by decide) :)
            refine u_toFk _ _ _ rfl h0 (Calls.mono (toFlowKeyC k _) ?_)
            rintro e' v' ⟨rfl, b6⟩
            exact ⟨_, rfl, hK _ _ rfl b6⟩
          | 4, _, _, ho =>
            obtain rfl := Option.some.inj ho
            have h0 : a'.eval (.tmp 2) = .int .i64 nv := (hx 2 (by decide)).trans rfl
            exact t_mv _ _ rfl h0 (hK _ _ rfl (Below.refl _ _))
          | 5, _, _, ho =>
            obtain rfl := Option.some.inj ho
            obtain ⟨z6, h0, o6⟩ := (new_of hnd 1 85 (by kernel_rfl) (by decide) :)
            have h1 : a'.eval (.tmp 87) = .agg #[.int .i64 k.tenant, .int .i64 k.key.src.k, .int .i64 k.key.src.a, .int .i64 k.key.src.b, .int .i64 k.key.src.c, .int .i64 k.key.src.d, .int .i64 k.key.dst.k, .int .i64 k.key.dst.a, .int .i64 k.key.dst.b, .int .i64 k.key.dst.c, .int .i64 k.key.dst.d, .int .i64 k.key.proto, .int .i64 k.key.sport, .int .i64 k.key.dport] := (new_of hnd 3 87 (by kernel_rfl) (by decide) :)
            have h2 : a'.eval (.tmp 88) = .int .i64 nv := (new_of hnd 4 88 (by kernel_rfl) (by decide) :)
            refine u_putI _ _ _ _ _ _ _ rfl h0 h1 h2 (Calls.mono (IC.out _ n n _ (RV.of_own o6) HL.out hn) ?_)
            rintro e' v' ⟨u7, rfl, ⟨A7, n7, c7, rfl, o7⟩, b6⟩
            obtain rfl := own_len o7
            exact ⟨_, rfl, hK _ _ ⟨A7, c7, rfl, own_base o7 (by have := hB.size; first | exact this | (simp only [World.size_alloc] at this; omega))⟩ b6⟩
          | 6, _, _, ho =>
            obtain rfl := Option.some.inj ho
            obtain ⟨A7, c7, h0, o7⟩ := (new_of hnd 5 89 (by kernel_rfl) (by decide) :)
            exact t_mv _ _ rfl h0 (hK _ _ ⟨A7, c7, rfl, o7⟩ (Below.refl _ _))
          | 7, _, _, ho =>
            obtain rfl := Option.some.inj ho
            obtain ⟨A7, c7, h0, o7⟩ := (new_of hnd 6 83 (by kernel_rfl) (by decide) :)
            exact t_ex0 _ _ _ rfl h0 (hK _ _ ⟨A7, c7, rfl, o7⟩ (Below.refl _ _))
          | 8, _, _, ho =>
            obtain rfl := Option.some.inj ho
            obtain ⟨A7, c7, h0, o7⟩ := (new_of hnd 6 83 (by kernel_rfl) (by decide) :)
            exact t_ex1 _ _ _ rfl h0 (hK _ _ rfl (Below.refl _ _))
          | 11, _, _, ho =>
            obtain rfl := Option.some.inj ho
            have h0 : a'.eval (.tmp 91) = .int .i64 rc := (new_of hnd 8 91 (by kernel_rfl) (by decide) :)
            exact t_as _ _ rfl h0 (hK _ _ rfl (Below.refl _ _))
          | 9, hja, _, _ => exact absurd rfl hja
          | 10, _, hjs, _ => exact absurd rfl hjs
          | j + 12, _, _, ho => simp at ho
        · intro f we be hf eN lN hG hB
          obtain ⟨Ae, ce, rN, oN⟩ := hG
          have e0 : f 0 = (.agg #[.int .i64 s, .slice A n c]) := hf (0, 84) (by decide) (by decide)
          obtain ⟨_, e1, _⟩ := hf (1, 85) (by decide) (by decide)
          have e2 : f 2 = (.agg #[.int .i64 k.tenant, .int .i64 k.key.src.k, .int .i64 k.key.src.a, .int .i64 k.key.src.b, .int .i64 k.key.src.c, .int .i64 k.key.src.d, .int .i64 k.key.dst.k, .int .i64 k.key.dst.a, .int .i64 k.key.dst.b, .int .i64 k.key.dst.c, .int .i64 k.key.dst.d, .int .i64 k.key.proto, .int .i64 k.key.sport, .int .i64 k.key.dport]) := hf (2, 86) (by decide) (by decide)
          have e3 : f 3 = (.agg #[.int .i64 k.tenant, .int .i64 k.key.src.k, .int .i64 k.key.src.a, .int .i64 k.key.src.b, .int .i64 k.key.src.c, .int .i64 k.key.src.d, .int .i64 k.key.dst.k, .int .i64 k.key.dst.a, .int .i64 k.key.dst.b, .int .i64 k.key.dst.c, .int .i64 k.key.dst.d, .int .i64 k.key.proto, .int .i64 k.key.sport, .int .i64 k.key.dport]) := hf (3, 87) (by decide) (by decide)
          have e4 : f 4 = (.int .i64 nv) := hf (4, 88) (by decide) (by decide)
          obtain ⟨_, _, e5, _⟩ := hf (5, 89) (by decide) (by decide)
          obtain ⟨_, _, e6, _⟩ := hf (6, 83) (by decide) (by decide)
          obtain ⟨_, _, e7, _⟩ := hf (7, 90) (by decide) (by decide)
          have e8 : f 8 = (.int .i64 rc) := hf (8, 91) (by decide) (by decide)
          have e11 : f 11 = .int .i64 rc := hf (11, 17) (by decide) (by decide)
          simp only [List.foldl_cons, List.foldl_nil, e0, e1, e2, e3, e4, e5, e6, e7, e8, e11, eN]
          clear e0 e1 e2 e3 e4 e5 e6 e7 e8 e11 eN hf
          go_simp
          have B12 := Lib.hid (bthen B11.out hB)
          have q12 := Lib.hid (K.below hB q11.out)
          have k12 := Lib.hid (K.below hB k11.out)
          have W12 := Lib.hid (own_below W11.out hB)
          have ww12 := Lib.hid (K.below hB ww11.out)
          have x12 := Lib.hid (K.below hB x11.out)
          have G12 := Lib.hid (own_below G11.out hB)
          have gg12 := Lib.hid (K.below hB gg11.out)
          clear B11 q11 k11 W11 ww11 x11 G11 gg11
          have H12 := Lib.hid oN
          have LH := Lib.hid oN.lt
          have hh12 := Lib.hid rN
          clear hB rN oN lN
          go_wp2_with (first | (with_reducible refine loadTb rfl _ rfl (be) rfl hh12.out ?_) | (with_reducible refine loadTb rfl _ rfl (b3) rfl ww12.out ?_))
          refine Calls.mono (eqTabC sd Ae A3 xs.length ce c3 xs _ (RV.of_own H12.out) (RV.of_own W12.out) rfl hx32) ?_
          rintro e wf ⟨rfl, bf⟩
          have B13 := Lib.hid (bthen B12.out bf)
          have q13 := Lib.hid (K.below bf q12.out)
          have k13 := Lib.hid (K.below bf k12.out)
          have W13 := Lib.hid (own_below W12.out bf)
          have ww13 := Lib.hid (K.below bf ww12.out)
          have x13 := Lib.hid (K.below bf x12.out)
          have G13 := Lib.hid (own_below G12.out bf)
          have gg13 := Lib.hid (K.below bf gg12.out)
          have H13 := Lib.hid (own_below H12.out bf)
          have hh13 := Lib.hid (K.below bf hh12.out)
          clear B12 q12 k12 W12 ww12 x12 G12 gg12 H12 hh12
          clear bf
          go_wp2_with (with_reducible refine loadTb rfl _ rfl (b5) rfl gg13.out ?_)
          refine Calls.mono (heldTabC sd A5 xs.length c5 1 _ (RV.of_own G13.out) hx32 (by omega) (by omega)) ?_
          rintro e wg ⟨rfl, bg⟩
          have B14 := Lib.hid (bthen B13.out bg)
          have q14 := Lib.hid (K.below bg q13.out)
          have k14 := Lib.hid (K.below bg k13.out)
          have W14 := Lib.hid (own_below W13.out bg)
          have ww14 := Lib.hid (K.below bg ww13.out)
          have x14 := Lib.hid (K.below bg x13.out)
          have G14 := Lib.hid (own_below G13.out bg)
          have gg14 := Lib.hid (K.below bg gg13.out)
          have H14 := Lib.hid (own_below H13.out bg)
          have hh14 := Lib.hid (K.below bg hh13.out)
          clear B13 q13 k13 W13 ww13 x13 G13 gg13 H13 hh13
          clear bg
          go_wp2
          go_ret
          exact ⟨rfl, B14.out⟩

namespace fnExactTablePut
open Go.ChangeShapes Go.WideShapes Go.ChangeAt Go.RowKit
open Go.ChangeMaps (open_string shut_string)
theorem own : ownKnob Try.prog.godebug = none := by kernel_rfl
theorem laidOut : laidOutB Try.prog = true := by kernel_rfl

set_option maxRecDepth 100000 in
theorem lifted (os : Os) (started : os.Started) (H : Type) (enc : TypeId × Value → H) :
    ReturnsInHanded {} Try.checked os 10 .any (Rows.fnExactTablePutSpec.pre6 enc Try.prog Try.f10 Rows.fnExactTablePutRow.domain false) (Rows.fnExactTablePutSpec.post enc Try.prog Try.f10 false true false false) := by
  refine returnsInHanded_of_change (C := Try.checked) own started (by kernel_rfl) Try.func10
    (ChangeSpec.witness6 (enc := enc) (C := Try.checked) false ⟨#[], #[.agg #[.int .i64 0, .slice none 0 0], .agg #[.int .i64 0, .int .i64 0, .int .i64 0, .int .i64 0, .int .i64 0, .int .i64 0, .int .i64 0, .int .i64 0, .int .i64 0, .int .i64 0, .int .i64 0, .int .i64 0, .int .i64 0, .int .i64 0], .int .i64 0], []⟩ 8 (by kernel_rfl) (by kernel_rfl) (by kernel_rfl) (by kernel_rfl)) ?_
  intro W base args ds gs before hval0 hW _ _
  have hval : ∀ (j : Nat) t v, Try.f10.params[j]? = some t → args[j]? = some v → Value.okWide Try.prog W .any base t v := hval0
  have hW' := hW
  obtain ⟨p, q, hA0, hV, rfl, _, _⟩ := hW
  have hA : DataW.TrodAll enc Try.prog W 0 (fun _ => true) true Try.f10.params.toList args.toList ds p := hA0
  rw [Try.params10] at hA hval
  obtain ⟨v0, vs0, d0, ds0, p0, q0, hargs, rfl, rfl, h0, r0⟩ := trodAll_cons hA
  obtain ⟨v1, vs1, d1, ds1, p1, q1, rfl, rfl, rfl, h1, r1⟩ := trodAll_cons r0
  obtain ⟨v2, vs2, d2, ds2, p2, q2, rfl, rfl, rfl, h2, r2⟩ := trodAll_cons r1
  obtain ⟨rfl, rfl, rfl⟩ := trodAll_nil r2
  obtain rfl : args = #[v0, v1, v2] := by cases args; simp_all
  obtain ⟨rfl, rfl⟩ := trodVars_none hV
  have k0 := h0
  have lt0 : ∀ x ∈ p0, x.block < W.heap.size := by obtain ⟨m, hm⟩ := k0; exact DataW.trod_lt m _ _ _ hm
  obtain ⟨a0, A0, n0, c0, b0, rfl, w0⟩ := tab_in (hval 0 47 v0 rfl rfl) h0
  have k1 := h1
  have lt1 : ∀ x ∈ p1, x.block < W.heap.size := by obtain ⟨m, hm⟩ := k1; exact DataW.trod_lt m _ _ _ hm
  obtain ⟨a1, rfl⟩ := fk_in (hval 1 27 v1 rfl rfl) h1
  obtain ⟨a2, rfl, rfl, rfl, w2⟩ := open_int Try.underlying3 (hval 2 3 v2 rfl rfl) h2
  clear hA0 hval0
  refine (lawTablePut a0 A0 n0 c0 b0 w0 a1 a2 w2).mono fun e W' ⟨he, bel⟩ => ?_
  subst he
  exact ⟨_, rfl, _, _, _, [], _, [], hW', trodAll_mk1 (shut_bool Try.underlying4 _), (trodAll_cons_mk (Below.trod laidOut (by kernel_rfl) (of_decide_eq_true (by kernel_rfl)) k0 bel lt0) (trodAll_cons_mk (Below.trod laidOut (by kernel_rfl) (of_decide_eq_true (by kernel_rfl)) k1 bel lt1) (trodAll_cons_mk (shut_int Try.underlying3 w2) trodAll_mk0))), rfl, bel.frame _, fun h => by cases h⟩

theorem proved : Rows.FnExactTablePutSaid :=
  OpenClaim.holds_of_wide 10 Try.f10 rfl rfl rfl rfl rfl rfl rfl ⟨rfl, rfl, rfl, rfl, rfl⟩ rfl rfl rfl rfl rfl (by kernel_rfl) Try.func10 (by kernel_rfl)
    (of_decide_eq_true (by kernel_rfl)) (by unfold Func.isWrapper; rw [if_neg (of_decide_eq_false (by kernel_rfl))]; exact ⟨rfl, rfl⟩)
    (fun os started H enc _ => lifted os started H enc)
#print axioms proved
end fnExactTablePut
end Go.Proofs.Ytmfkpiclpkeemaa
