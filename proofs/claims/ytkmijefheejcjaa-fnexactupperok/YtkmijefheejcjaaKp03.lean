/-
  The laws' own helpers on addresses and prefixes; AddrOk in the program and in the model. The laws' own helpers on IPv4 packets: a size, a copy, a comparison, a marking, a look at the marks. The laws' own copy of an IPv4 packet. The laws' own comparison of IPv4 packets, their marking and a look at the marks. A region that draws its order, by what each of its operations leaves: whatever order is drawn, each operation finds what those leave on which it waits. Plain: any program. AddrBytes in the model. The program's sixteen bytes of an address: packed, unpacked, firstBits. The program's sixteen bytes of an address: unpacked, firstBits. AddrBytes, AddrOf and Cut in the program. AddrOf in the program and in the model.
-/
import Derived.Test.YtkmijefheejcjaaKp01
import Derived.Deep.QuietTactic
import Derived.BigQuiet
import Derived.Handy
import Derived.Lib.SmallJoins
import Derived.Test.YtkmijefheejcjaaKp02
import Derived.Laws.Tables
import Derived.Orders
import Derived.Laws.CopyOwn
import Derived.Laws.Rows
import Derived.Deep.WholeRow
import Derived.Deep.OwnRows
import Derived.Laws.ResultCell
namespace Go.Proofs.Ytkmijefheejcjaa
set_option maxRecDepth 100000
open Go.RowKit

/-- The cells of a block that was made and not written since. -/
theorem box_cell {w w' : World} {cs : Array Value} {t : TypeId} (b : Below (w.alloc (.cells cs t)).heap.size (w.alloc (.cells cs t)) w') (j : Nat) (v : Value) (h : cs[j]? = some v) : w'.cell? ⟨w.heap.size, j, none⟩ = some v := by
  rw [b.cell (p := ⟨w.heap.size, j, none⟩) (by simp)]
  simp [go_sem, h]

theorem ad_box {w w' : World} {x : Ad} {t : TypeId} (b : Below (w.alloc (.cells #[.int .i64 x.k, .int .i64 x.a, .int .i64 x.b, .int .i64 x.c, .int .i64 x.d] t)).heap.size (w.alloc (.cells #[.int .i64 x.k, .int .i64 x.a, .int .i64 x.b, .int .i64 x.c, .int .i64 x.d] t)) w') :
    w'.cell? ⟨w.heap.size, 0, none⟩ = some (.int .i64 x.k) ∧ w'.cell? ⟨w.heap.size, 1, none⟩ = some (.int .i64 x.a) ∧ w'.cell? ⟨w.heap.size, 2, none⟩ = some (.int .i64 x.b) ∧ w'.cell? ⟨w.heap.size, 3, none⟩ = some (.int .i64 x.c) ∧ w'.cell? ⟨w.heap.size, 4, none⟩ = some (.int .i64 x.d) :=
  ⟨box_cell b 0 _ rfl, box_cell b 1 _ rfl, box_cell b 2 _ rfl, box_cell b 3 _ rfl, box_cell b 4 _ rfl⟩

theorem pf_box {w w' : World} {p : Pf} {t : TypeId} (b : Below (w.alloc (.cells #[.int .i64 p.base.k, .int .i64 p.base.a, .int .i64 p.base.b, .int .i64 p.base.c, .int .i64 p.base.d, .int .i64 p.len] t)).heap.size (w.alloc (.cells #[.int .i64 p.base.k, .int .i64 p.base.a, .int .i64 p.base.b, .int .i64 p.base.c, .int .i64 p.base.d, .int .i64 p.len] t)) w') :
    w'.cell? ⟨w.heap.size, 0, none⟩ = some (.int .i64 p.base.k) ∧ w'.cell? ⟨w.heap.size, 1, none⟩ = some (.int .i64 p.base.a) ∧ w'.cell? ⟨w.heap.size, 2, none⟩ = some (.int .i64 p.base.b) ∧ w'.cell? ⟨w.heap.size, 3, none⟩ = some (.int .i64 p.base.c) ∧ w'.cell? ⟨w.heap.size, 4, none⟩ = some (.int .i64 p.base.d) ∧
      w'.cell? ⟨w.heap.size, 5, none⟩ = some (.int .i64 p.len) :=
  ⟨box_cell b 0 _ rfl, box_cell b 1 _ rfl, box_cell b 2 _ rfl, box_cell b 3 _ rfl, box_cell b 4 _ rfl, box_cell b 5 _ rfl⟩

set_option maxHeartbeats 400000 in
theorem toAddrC (x : Ad) (w : World) :
    Calls Try.prog 45 #[.agg #[.int .i64 x.k, .int .i64 x.a, .int .i64 x.b, .int .i64 x.c, .int .i64 x.d]] w fun e w' => e = .returned (.agg #[.int .i64 x.k, .int .i64 x.a, .int .i64 x.b, .int .i64 x.c, .int .i64 x.d]) ∧ Below w.heap.size w w' := by
  go_enter Try.func45, Try.ntmps45
  go_wp2
  go_returns
  exact ⟨rfl, by go_grown⟩



set_option maxHeartbeats 400000 in
theorem eqAddrC (x : Ad) (w : World) :
    Calls Try.prog 92 #[.agg #[.int .i64 x.k, .int .i64 x.a, .int .i64 x.b, .int .i64 x.c, .int .i64 x.d], .agg #[.int .i64 x.k, .int .i64 x.a, .int .i64 x.b, .int .i64 x.c, .int .i64 x.d]] w fun e w' => e = .returned (.bool true) ∧ Below w.heap.size w w' := by
  go_enter Try.func92, Try.ntmps92
  go_wp2
  go_returns
  exact ⟨rfl, by go_grown⟩



set_option maxHeartbeats 400000 in
theorem specHalf (n : Int) (w : World) : Calls Try.prog 98 #[.int .i64 n] w fun e w' => e = .returned (.bool (half n)) ∧ w = w' := by
  go_enter Try.func98, Try.ntmps98
  go_wp2
  · go_ret
    exact ⟨ret_bool (by simp [half]; omega), rfl⟩
  · go_ret
    exact ⟨ret_bool (by simp [half]; omega), rfl⟩

set_option maxHeartbeats 400000 in
theorem partOkC (n : Int) (w : World) : Calls Try.prog 133 #[.int .i64 n] w fun e w' => e = .returned (.bool (half n)) ∧ w = w' := by
  by_cases h : 0 ≤ n ∧ n ≤ 4294967295
  · have hh := Lib.hid ((half_iff n).2 h)
    obtain ⟨h1, h2⟩ := h
    go_enter Try.func133, Try.ntmps133
    go_wp2_with (go_at_call 102; refine (within_yes _ _ _ _ h1 h2).mono ?_; rintro e w' ⟨rfl, rfl⟩)
    go_ret
    exact ⟨ret_bool hh.out.symm, rfl⟩
  · have hh := Lib.hid (show half n = false by simp [half]; omega)
    have h3 := Lib.hid (show n < 0 ∨ 4294967295 < n by omega)
    clear h
    go_enter Try.func133, Try.ntmps133
    go_wp2_with (go_at_call 102; refine (within_no _ _ _ _ h3.out).mono ?_; rintro e w' ⟨rfl, rfl⟩)
    go_ret
    exact ⟨ret_bool hh.out.symm, rfl⟩

set_option maxHeartbeats 400000 in
theorem bitsOfC (k : Int) (h : k = 4 ∨ k = 6) (w : World) : Calls Try.prog 111 #[.int .i64 k] w fun e w' => e = .returned (.int .i64 (if k = 4 then 32 else 128)) ∧ w = w' := by
  rcases h with rfl | rfl
  · go_enter Try.func111, Try.ntmps111
    go_wp2
    go_ret
    exact ⟨rfl, rfl⟩
  · go_enter Try.func111, Try.ntmps111
    go_wp2
    go_ret
    exact ⟨rfl, rfl⟩



set_option maxHeartbeats 1000000 in
theorem specAddrOk (x : Ad) (w : World) : Calls Try.prog 64 #[.agg #[.int .i64 x.k, .int .i64 x.a, .int .i64 x.b, .int .i64 x.c, .int .i64 x.d]] w fun e w' => e = .returned (.bool x.ok) ∧ Below w.heap.size w w' := by
  by_cases h : x.k = 4
  · go_enter Try.func64, Try.ntmps64
    go_wp2_with (go_at_call 98; refine (specHalf _ _).mono ?_; rintro e w' ⟨rfl, rfl⟩)
    all_goals (go_ret; exact ⟨ret_bool (by simp [Ad.ok, *]), by go_grown⟩)
  · go_enter Try.func64, Try.ntmps64
    go_wp2_with (go_at_call 98; refine (specHalf _ _).mono ?_; rintro e w' ⟨rfl, rfl⟩)
    all_goals (go_ret; exact ⟨ret_bool (by simp [Ad.ok, *]), by go_grown⟩)

set_option maxHeartbeats 1000000 in
theorem implAddrOk (x : Ad) (w : World) : Calls Try.prog 109 #[.agg #[.int .i64 x.k, .int .i64 x.a, .int .i64 x.b, .int .i64 x.c, .int .i64 x.d]] w fun e w' => e = .returned (.bool x.ok) ∧ Below w.heap.size w w' := by
  by_cases h : x.k = 4
  · go_enter Try.func109, Try.ntmps109
    go_wp2_with (go_at_call 133; refine (partOkC _ _).mono ?_; rintro e w' ⟨rfl, rfl⟩)
    all_goals (go_ret; exact ⟨ret_bool (by simp [Ad.ok, *]), by go_grown⟩)
  · go_enter Try.func109, Try.ntmps109
    go_wp2_with (go_at_call 133; refine (partOkC _ _).mono ?_; rintro e w' ⟨rfl, rfl⟩)
    all_goals (go_ret; exact ⟨ret_bool (by simp [Ad.ok, *]), by go_grown⟩)
end Go.Proofs.Ytkmijefheejcjaa

namespace Go.Proofs.Ytkmijefheejcjaa
set_option maxRecDepth 100000
open Go.RowKit

















theorem K.setRow_own {w : World} {base : Nat} {e : TypeId} {size n : Nat} {v : Value} {xs : List Value} {g : Nat} (cs : Array Value) (h : w.ownsRow base e size v n xs) (hg : g < base) : (w.setRow g cs).ownsRow base e size v n xs :=
  own_grown (row := some g) h ⟨rfl, rfl, rfl, by simp, fun k _ hk => setRow_other w g k cs (fun e => hk (by rw [e]))⟩ (fun k hk => by have := (h.lt k hk).1; simp; omega)

theorem K.setRow_grown (w : World) (g : Nat) (cs : Array Value) : w.grownBy (w.setRow g cs) (some g) := ⟨rfl, rfl, rfl, by simp, fun k _ hk => setRow_other w g k cs (fun e => hk (by rw [e]))⟩

theorem K.setRow_below {w0 w : World} {g : Nat} (hb : Below w0.heap.size w0 w) (hg : w0.heap.size ≤ g) (cs : Array Value) : Below w0.heap.size w0 (w.setRow g cs) :=
  bgrown hb (K.setRow_grown w g cs) (fun k hk => by cases hk; exact hg)

set_option maxHeartbeats 400000 in
theorem szF_yes (A : Option Addr) (n c : Nat) (l : Int) (w : World) (h : (n : Int) ≤ l) (hl : l ≤ 1048576) :
    Calls Try.prog 97 #[.slice A n c, .int .i64 l] w fun e w' => e = .returned (.int .i64 (l - n)) ∧ w = w' := by
  go_enter Try.func97, Try.ntmps97
  go_wp2
  go_ret
  exact ⟨rfl, rfl⟩

set_option maxHeartbeats 400000 in
theorem szF_no (A : Option Addr) (n c : Nat) (l : Int) (w : World) (h : l < (n : Int)) (h0 : 0 ≤ l) (hn : n ≤ maxLen) :
    Calls Try.prog 97 #[.slice A n c, .int .i64 l] w fun e w' => e = .returned (.int .i64 (-1)) ∧ w = w' := by
  unfold maxLen at hn
  go_enter Try.func97, Try.ntmps97
  go_wp2
  go_ret
  exact ⟨rfl, rfl⟩







theorem toFn (A : Option Addr) (n c : Nat) (bs : List UInt8) (w : World) (hr : RB w w.heap.size A bs) (hl : bs.length = n) (hn : n ≤ 1048576) :
    Calls Try.prog 30 #[.slice A n c] w fun e w' => ∃ D d, e = .returned (.slice D n d) ∧ w'.ownsRow w.heap.size 5 1 (.slice D n d) n (cellsOf bs) ∧ Below w.heap.size w w' := by
  subst hl
  exact (toB A c bs w hr hn).mono fun e w' ⟨he, ho, hb⟩ => ⟨_, _, he, ho, hb⟩

/-- What a copy of a packet leaves. -/
def FourOut (x : Fh) (os bs : List UInt8) (n m : Nat) (w : World) (e : Ending) (w' : World) : Prop :=
  ∃ A c D d, e = .returned (.agg #[.int .i64 x.dscp, .int .i64 x.ecn, .int .i64 x.id, .int .i64 x.flags, .int .i64 x.frag, .int .i64 x.ttl, .int .i64 x.proto, .int .i64 x.src.k, .int .i64 x.src.a, .int .i64 x.src.b, .int .i64 x.src.c, .int .i64 x.src.d, .int .i64 x.dst.k, .int .i64 x.dst.a, .int .i64 x.dst.b, .int .i64 x.dst.c, .int .i64 x.dst.d, .slice A n c, .slice D m d]) ∧ w'.ownsRow w.heap.size 5 1 (.slice A n c) n (cellsOf os) ∧ w'.ownsRow w.heap.size 5 1 (.slice D m d) m (cellsOf bs) ∧
    (∀ k, (Value.slice A n c).ownBlock = some k → (Value.slice D m d).ownBlock ≠ some k) ∧ Below w.heap.size w w'
end Go.Proofs.Ytkmijefheejcjaa

namespace Go.Proofs.Ytkmijefheejcjaa
set_option maxRecDepth 100000
open Go.RowKit

theorem own_set {w : World} {base : Nat} {e : TypeId} {size n : Nat} {v : Value} {xs : List Value} (h : w.ownsRow base e size v n xs) (g j : Nat) (u : Value) (hg : g < base) : (w.setCell ⟨g, j, none⟩ u).ownsRow base e size v n xs :=
  own_grown h (grownBy_set w g j u) (fun k hk => by have := (h.lt k hk).1; simp; omega)

end Go.Proofs.Ytkmijefheejcjaa

namespace Go.Proofs.Ytkmijefheejcjaa
set_option maxRecDepth 100000
open Go.RowKit





end Go.Proofs.Ytkmijefheejcjaa

namespace Go.Proofs.Ytkmijefheejcjaa
set_option maxRecDepth 100000
open Go.RowKit

section
variable {P : Program} {ops : Array Oper} {Q : Exit → Act → World → Prop}

/-- The operations on which operation j waits, with their slots. -/
def needOf (ops : Array Oper) (j : Nat) : List (Nat × Nat) :=
  match ops[j]? with
  | none => []
  | some o => o.after.toList.filterMap fun e => if Region.binds .any e then ((ops[e.on]?).bind (·.dst)).map fun d => (e.on, d) else none
theorem needOf_spec {j : Nat} {o : Oper} (ho : ops[j]? = some o) {p : Nat × Nat} (hp : p ∈ needOf ops j) :
    (∃ e ∈ o.after, e.on = p.1 ∧ Region.binds .any e = true) ∧ ∃ oj, ops[p.1]? = some oj ∧ oj.dst = some p.2 := by
  unfold needOf at hp
  rw [ho] at hp
  obtain ⟨e, he, hq⟩ := List.mem_filterMap.1 hp
  split at hq
  · rename_i hb
    rw [Option.map_eq_some_iff] at hq
    obtain ⟨d, hd, rfl⟩ := hq
    rw [Option.bind_eq_some_iff] at hd
    obtain ⟨oj, h1, h2⟩ := hd
    exact ⟨⟨e, by simpa using he, rfl, hb⟩, oj, h1, h2⟩
  · cases hq

/-- What is asked of the region's form: each operation waits for earlier ones alone, none is guarded, its slots are its own and none of those that stand outside. -/
def formB (ops : Array Oper) (n : Nat) (out : List Nat) : Bool :=
  (List.range ops.size).all fun j => match ops[j]? with
    | none => true
    | some o => o.after.all (fun e => !Region.binds .any e || decide (e.on < j)) && o.guard.isNone && (match o.dst with
      | none => true
      | some d => decide (d < n) && !out.contains d && (List.range ops.size).all fun i => decide (i = j) || decide ((ops[i]?).bind (·.dst) ≠ some d))
theorem formB_at {n : Nat} {out : List Nat} (h : formB ops n out = true) {j : Nat} {o : Oper} (ho : ops[j]? = some o) :
    (∀ e ∈ o.after, Region.binds .any e = true → e.on < j) ∧ o.guard = none ∧ ∀ d, o.dst = some d → d < n ∧ d ∉ out ∧ ∀ i oi, ops[i]? = some oi → oi.dst = some d → i = j := by
  have hj : j < ops.size := (Array.getElem?_eq_some_iff.1 ho).1
  have h1 := List.all_eq_true.1 h j (List.mem_range.2 hj)
  rw [ho] at h1
  simp only [Bool.and_eq_true] at h1
  refine ⟨fun e he hb => ?_, ?_, fun d hd => ?_⟩
  · have := Array.all_eq_true_iff_forall_mem.1 h1.1.1 e he
    simpa [hb] using this
  · simpa using h1.1.2
  · have h2 := h1.2
    rw [hd] at h2
    simp only [Bool.and_eq_true, decide_eq_true_eq, Bool.not_eq_true', List.contains_eq_mem, decide_eq_false_iff_not] at h2
    refine ⟨h2.1.1, h2.1.2, fun i oi hi hdi => ?_⟩
    have hil : i < ops.size := (Array.getElem?_eq_some_iff.1 hi).1
    have h3 := List.all_eq_true.1 h2.2 i (List.mem_range.2 hil)
    rw [hi] at h3
    simp only [Option.bind_some, hdi, ne_eq, not_true, decide_false, Bool.or_false, decide_eq_true_eq] at h3
    exact h3

theorem put_other (a : Act) {dst : Option Tmp} {t : Nat} (v : Value) (h : dst ≠ some t) : (a.put dst v).tmps.getD t undef = a.tmps.getD t undef := by
  cases dst with
  | none => rfl
  | some d =>
    have hne : d ≠ t := fun e => h (by rw [e])
    simp [Act.put, Array.getElem?_setIfInBounds_ne hne]
theorem put_own (a : Act) {d n : Nat} (v : Value) (h : d < n) (hn : a.tmps.size = n) : (a.put (some d) v).tmps.getD d undef = v := by
  subst hn
  simp [Act.put, h]
theorem put_size (a : Act) (dst : Option Tmp) (v : Value) : (a.put dst v).tmps.size = a.tmps.size := by
  cases dst with
  | none => rfl
  | some d => simp [Act.put]
theorem put_defers' (a : Act) (dst : Option Tmp) (v : Value) : (a.put dst v).defers = a.defers := by
  cases dst <;> rfl

/-- How many have come up. -/
def up (listed : Array Bool) : Nat := listed.toList.count true
theorem up_set {listed : Array Bool} {i : Nat} (h : listed.getD i true = false) : up (listed.setIfInBounds i true) = up listed + 1 ∧ i < listed.size := by
  have hi : i < listed.size := by
    by_cases hi : i < listed.size
    · exact hi
    · simp [hi] at h
  refine ⟨?_, hi⟩
  have hg : listed[i] = false := by simpa [hi] using h
  have hl : i < listed.toList.length := hi
  unfold up
  rw [Array.toList_setIfInBounds, List.count_set hl]
  have hg2 : listed.toList[i] = false := hg
  rw [hg2]
  simp
theorem up_all {listed : Array Bool} (h : up listed = listed.size) {i : Nat} (hi : i < listed.size) : listed.getD i false = true := by
  have h2 : listed.toList.count true = listed.toList.length := by simpa [up] using h
  have h3 := List.count_eq_length.1 h2 listed[i] (by simp)
  have : listed[i] = true := h3.symm
  simp [hi, this]
theorem up_le (listed : Array Bool) : up listed ≤ listed.size := by
  have := List.count_le_length (a := true) (l := listed.toList)
  simpa [up] using this

/-- What stands while the region runs. -/
structure Kept (ops : Array Oper) (Γ : Nat → World → Value → Prop) (out : List Nat) (I : Nat → World → Prop) (n : Nat) (a0 : Act) (listed : Array Bool) (a : Act) (w : World) : Prop where
  size : listed.size = ops.size
  len : a.tmps.size = n
  defers : a.defers = a0.defers
  keep : ∀ t, (∀ (j : Nat) o, ops[j]? = some o → o.dst ≠ some t) → a.tmps.getD t undef = a0.tmps.getD t undef
  inv : I (up listed) w
  slots : ∀ (j : Nat) o d, ops[j]? = some o → o.dst = some d → listed.getD j false = true → Γ j w (a.tmps.getD d undef)

theorem some_ready {n : Nat} {out : List Nat} (hf : formB ops n out = true) {listed : Array Bool} (hs : listed.size = ops.size) (hr : Region.ready .any ops listed = []) : up listed = ops.size := by
  have hall : ∀ j, j < ops.size → listed.getD j false = true := by
    intro j
    induction j using Nat.strongRecOn with
    | ind j ih =>
      intro hj
      obtain ⟨o, ho⟩ : ∃ o, ops[j]? = some o := ⟨_, Array.getElem?_eq_getElem hj⟩
      cases hg : listed.getD j false
      · have hm : j ∈ Region.ready .any ops listed := by
          refine mem_ready.2 ⟨?_, o, ho, fun e he hb => ?_⟩
          · have hj2 : j < listed.size := by omega
            simpa [hj2] using hg
          · have := (formB_at hf ho).1 e he hb
            exact ih e.on this (by omega)
        rw [hr] at hm
        cases hm
      · rfl
  have h1 : listed.toList.count true = listed.toList.length := List.count_eq_length.2 fun b hb => by
    obtain ⟨i, hi, rfl⟩ := List.getElem_of_mem hb
    have hi2 : i < listed.size := by simpa using hi
    have := hall i (by omega)
    simpa [hi2] using this.symm
  simpa [up, hs] using h1

theorem wpAny_kept {Γ : Nat → World → Value → Prop} {out : List Nat} {I : Nat → World → Prop} {R : World → World → Prop} {n : Nat} {a0 : Act} (hf : formB ops n out = true)
    (hΓ : ∀ j w w' v, R w w' → Γ j w v → Γ j w' v)
    (hop : ∀ (j : Nat) o, ops[j]? = some o → ∀ k a w K, (∀ t ∈ out, a.tmps.getD t undef = a0.tmps.getD t undef) → (∀ p ∈ needOf ops j, Γ p.1 w (a.tmps.getD p.2 undef)) → k < ops.size → I k w →
      (∀ v w', Γ j w' v → R w w' → I (k + 1) w' → K (a.put o.dst v) w') → o.wp P a w K Q)
    (hend : ∀ a w, a.tmps.size = n → a.defers = a0.defers → (∀ t ∈ out, a.tmps.getD t undef = a0.tmps.getD t undef) → (∀ t, (∀ (j : Nat) o, ops[j]? = some o → o.dst ≠ some t) → a.tmps.getD t undef = a0.tmps.getD t undef) →
      (∀ (j : Nat) o d, ops[j]? = some o → o.dst = some d → Γ j w (a.tmps.getD d undef)) → I ops.size w → Q .normal a w) :
    ∀ (fuel : Nat) (listed : Array Bool) (a : Act) (w : World), Kept ops Γ out I n a0 listed a w → ops.size ≤ up listed + fuel → wpAny P .any ops Q fuel listed a w := by
  have fin : ∀ (listed : Array Bool) (a : Act) (w : World), Kept ops Γ out I n a0 listed a w → up listed = ops.size → Q .normal a w := by
    intro listed a w hk hu
    refine hend a w hk.len hk.defers (fun t ht => hk.keep t (fun j oj hj hdj => ((formB_at hf hj).2.2 t hdj).2.1 ht)) hk.keep (fun j o d ho hd => hk.slots j o d ho hd ?_) (hu ▸ hk.inv)
    have hj : j < ops.size := (Array.getElem?_eq_some_iff.1 ho).1
    exact up_all (by rw [hu, hk.size]) (by rw [hk.size]; exact hj)
  intro fuel
  induction fuel with
  | zero =>
    intro listed a w hk hle
    have hu : up listed = ops.size := by have := up_le listed; have := hk.size; omega
    refine ⟨?_, fin listed a w hk hu⟩
    cases hr : Region.ready .any ops listed with
    | nil => rfl
    | cons i l =>
      have hm : i ∈ Region.ready .any ops listed := by rw [hr]; simp
      obtain ⟨h0, _⟩ := mem_ready.1 hm
      have := (up_set h0).1
      have h3 := up_le (listed.setIfInBounds i true)
      have h4 : (listed.setIfInBounds i true).size = listed.size := by simp
      have := hk.size
      omega
  | succ fuel ih =>
    intro listed a w hk hle
    refine ⟨fun hr => fin listed a w hk (some_ready hf hk.size hr), fun i hi => ?_⟩
    obtain ⟨h0, o, ho, hall⟩ := mem_ready.1 hi
    obtain ⟨hu, hil⟩ := up_set h0
    obtain ⟨hlt, hg, hd⟩ := formB_at hf ho
    unfold wpOp
    simp only [ho]
    rw [if_pos (by simp [Region.wanted, hg])]
    left
    refine hop i o ho (up listed) a w _ (fun t ht => hk.keep t (fun j oj hj hdj => ?_)) (fun p hp => ?_) (by have := hk.size; have := up_le (listed.setIfInBounds i true); simp at this; omega) hk.inv ?_
    · exact ((formB_at hf hj).2.2 t hdj).2.1 ht
    · obtain ⟨⟨e, he, hep, hb⟩, oj, hoj, hdj⟩ := needOf_spec ho hp
      exact hk.slots p.1 oj p.2 hoj hdj (by rw [← hep]; exact hall e he hb)
    · intro v w' hv hR hI
      refine ih _ _ _ ⟨by simpa using hk.size, by rw [put_size]; exact hk.len, by rw [put_defers']; exact hk.defers, fun t ht => ?_, by rw [hu]; exact hI, fun j oj d hj hdj hl => ?_⟩ (by omega)
      · rw [put_other a v (ht i o ho)]
        exact hk.keep t ht
      · by_cases hji : j = i
        · subst hji
          obtain rfl : o = oj := Option.some.inj (ho.symm.trans hj)
          rw [hdj, put_own a v (hd d hdj).1 hk.len]
          exact hv
        · have hne : o.dst ≠ some d := fun e => hji ((hd d e).2.2 j oj hj hdj)
          rw [put_other a v hne]
          refine hΓ j w w' _ hR (hk.slots j oj d hj hdj ?_)
          rw [← getD_set_ne (listed := listed) false (Ne.symm hji)]
          exact hl

theorem wp_region_kept {id : Nat} {a : Act} {w : World} (hm : P.follows .mixedOrders = true) (Γ : Nat → World → Value → Prop) (out : List Nat) (I : Nat → World → Prop) (R : World → World → Prop) (n : Nat) (hf : formB ops n out = true)
    (hn : a.tmps.size = n) (h0 : I 0 { w with drawn := w.drawn + 1 }) (hΓ : ∀ j w w' v, R w w' → Γ j w v → Γ j w' v)
    (hop : ∀ (j : Nat) o, ops[j]? = some o → ∀ k a' w K, (∀ t ∈ out, a'.tmps.getD t undef = a.tmps.getD t undef) → (∀ p ∈ needOf ops j, Γ p.1 w (a'.tmps.getD p.2 undef)) → k < ops.size → I k w →
      (∀ v w', Γ j w' v → R w w' → I (k + 1) w' → K (a'.put o.dst v) w') → o.wp P a' w K Q)
    (hend : ∀ a' w', a'.tmps.size = n → a'.defers = a.defers → (∀ t ∈ out, a'.tmps.getD t undef = a.tmps.getD t undef) → (∀ t, (∀ (j : Nat) o, ops[j]? = some o → o.dst ≠ some t) → a'.tmps.getD t undef = a.tmps.getD t undef) →
      (∀ (j : Nat) o d, ops[j]? = some o → o.dst = some d → Γ j w' (a'.tmps.getD d undef)) → I ops.size w' → Q .normal a' w') : (Code.region id ops true).wp P Q a w := by
  refine wp_region_any hm (wpAny_kept (out := out) (I := I) (R := R) (Γ := Γ) (n := n) (a0 := a) hf hΓ hop hend ops.size _ a _ ⟨by simp, hn, rfl, fun _ _ => rfl, ?_, fun j o d _ _ hl => ?_⟩ (by omega))
  · have : up (Array.replicate ops.size false) = 0 := by simp [up, List.count_replicate]
    rw [this]
    exact h0
  · simp [Array.getElem?_replicate] at hl
    split at hl <;> simp at hl
end
end Go.Proofs.Ytkmijefheejcjaa

namespace Go.Proofs.Ytkmijefheejcjaa
set_option maxRecDepth 100000
open Go.RowKit

def BytesOut (x : Ad) (w : World) (e : Ending) (w' : World) : Prop := ∃ A c, e = .returned (.slice A x.bytes.length c) ∧ w'.ownsRow w.heap.size 5 1 (.slice A x.bytes.length c) x.bytes.length (cellsOf x.bytes) ∧ Below w.heap.size w w'
theorem bytesOut_no {x : Ad} (h : x.ok = false) {w w' : World} (hb : Below w.heap.size w w') : BytesOut x w (.returned (.slice none 0 0)) w' := by
  have e : x.bytes = [] := by simp [Ad.bytes, h]
  unfold BytesOut
  rw [e]
  exact ⟨none, 0, rfl, ⟨rfl, .inl ⟨rfl, rfl⟩⟩, hb⟩
theorem bytesOut_yes {x : Ad} {w w' : World} {A : Option Addr} {n c B : Nat} {bs : List UInt8} (he : x.bytes = bs) (hn : bs.length = n) (ho : w'.ownsRow B 5 1 (.slice A n c) n (cellsOf bs)) (hB : w.heap.size ≤ B) (hb : Below w.heap.size w w') :
    BytesOut x w (.returned (.slice A n c)) w' := by
  unfold BytesOut
  rw [he, hn]
  exact ⟨A, c, rfl, own_base ho hB, hb⟩
theorem bytes_four {x : Ad} (h : x.ok = true) (hk : x.k = 4) : x.bytes = put32 x.d := by simp [Ad.bytes, h, hk]
theorem bytes_six {x : Ad} (h : x.ok = true) (hk : x.k = 6) : x.bytes = x.whole := by simp [Ad.bytes, h, hk]

theorem cell_on {a b : World} {p : Addr} {v : Value} (h : Below a.heap.size a b) (hc : a.cell? p = some v) : b.cell? p = some v := (h.cell (World.block_lt_of_cell? _ _ hc)).trans hc
theorem undrew {a b : World} (h : Below a.drew.heap.size a.drew b) : Below a.heap.size a b := ⟨h.os, h.tape, h.output, h.size, h.block⟩
theorem cell_grown {a b : World} {row : Option Nat} {g i : Nat} {v : Value} (h : a.grownBy b row) (hne : ∀ k, row = some k → g < k) (hc : a.cell? ⟨g, i, none⟩ = some v) : b.cell? ⟨g, i, none⟩ = some v :=
  h.cell hc (fun e => by have := hne g e.symm; omega)

set_option maxHeartbeats 400000 in
theorem specAddrBytes_no (x : Ad) (h : x.ok = false) (w : World) : Calls Try.prog 100 #[.agg #[.int .i64 x.k, .int .i64 x.a, .int .i64 x.b, .int .i64 x.c, .int .i64 x.d]] w (BytesOut x w) := by
  have H := Lib.hid h
  clear h
  go_enter Try.func100, Try.ntmps100
  go_wp2_with fail
  refine (specAddrOk x _).mono ?_
  rintro e w1 ⟨rfl, b1⟩
  have h := H.out
  go_wp2
  go_ret
  exact bytesOut_no H.out (bthen (Joins.below_alloc1 w _) b1)

set_option maxHeartbeats 400000 in
theorem specAddrBytes_four (x : Ad) (h : x.ok = true) (hk : x.k = 4) (w : World) : Calls Try.prog 100 #[.agg #[.int .i64 x.k, .int .i64 x.a, .int .i64 x.b, .int .i64 x.c, .int .i64 x.d]] w (BytesOut x w) := by
  have H := Lib.hid (bytes_four h hk)
  have HH := Lib.hid (And.intro h hk)
  clear h hk
  go_enter Try.func100, Try.ntmps100
  go_wp2_with fail
  refine (specAddrOk x _).mono ?_
  rintro e w1 ⟨rfl, b1⟩
  obtain ⟨c0, c1, c2, c3, c4⟩ := ad_box b1
  obtain ⟨h, hk⟩ := HH.out
  go_wp2_with fail
  refine (specPut32 x.d _).mono ?_
  rintro e w2 ⟨A, c, rfl, o2, b2⟩
  go_wp2
  go_ret
  have b12 := bthen (Joins.below_alloc1 w _) b1
  exact bytesOut_yes H.out rfl o2 b12.size (bthen b12 b2)

set_option maxHeartbeats 400000 in
theorem specAddrBytes_six (x : Ad) (h : x.ok = true) (hk : x.k = 6) (w : World) : Calls Try.prog 100 #[.agg #[.int .i64 x.k, .int .i64 x.a, .int .i64 x.b, .int .i64 x.c, .int .i64 x.d]] w (BytesOut x w) := by
  have H := Lib.hid (bytes_six h hk)
  have HH := Lib.hid (And.intro h hk)
  clear h hk
  go_enter Try.func100, Try.ntmps100
  go_wp2_with fail
  refine (specAddrOk x _).mono ?_
  rintro e w1 ⟨rfl, b1⟩
  obtain ⟨c0, c1, c2, c3, c4⟩ := ad_box b1
  have bb := bthen (Joins.below_alloc1 w _) b1
  have hlt : w.heap.size < w1.heap.size := by have := b1.size; simp at this; omega
  clear b1
  obtain ⟨h, hk⟩ := HH.out
  go_wp2_with fail
  go_region_held3 (fun w' => w'.cell? ⟨w.heap.size, 1, none⟩ = some (.int .i64 x.a) ∧ w'.cell? ⟨w.heap.size, 2, none⟩ = some (.int .i64 x.b)) (first | exact ⟨c1, c2⟩ | exact ⟨cell_on b2 c1, cell_on b2 c2⟩ | exact ⟨cell_on b3 (cell_on b2 c1), cell_on b3 (cell_on b2 c2)⟩ | exact ⟨cell_grown hg4 hr4.out (cell_on b3 (cell_on b2 c1)), cell_grown hg4 hr4.out (cell_on b3 (cell_on b2 c2))⟩ | go_keep)
    (first | (go_at_call 101; with_reducible refine (specPut32 x.a _).mono ?_; rintro e w2 ⟨A2, k2, rfl, o2, b2⟩) | (go_at_call 101; with_reducible refine (specPut32 x.b _).mono ?_; rintro e w3 ⟨A3, k3, rfl, o3, b3⟩) | (refine step_append_b (by rfl) (.tmp 15) (.tmp 18) (by rfl) (w.heap.size + 1) (.slice A2 4 k2) (put32 x.a) (by rfl) (own_below (own_base o2 (show w.heap.size + 1 ≤ w1.drew.heap.size from hlt)) b3) _ A3 4 k3 (put32 x.b) (by rfl) rfl (RB.of_own o3) (by simp [put32]) (Nat.le_trans (show w.heap.size + 1 ≤ w1.drew.heap.size from hlt) (Nat.le_trans b2.size b3.size)) ?_; intro v4 w4 o4 hg4 ha4; have hr4 := Lib.hid (show ∀ k, (Value.slice A2 4 k2).ownBlock = some k → w.heap.size < k from fun k hk => Nat.lt_of_lt_of_le (show w.heap.size < w1.drew.heap.size from hlt) (o2.lt k hk).1)))
  obtain ⟨A4, k4, rfl⟩ := own_form o4
  have b4 : Below w.heap.size w w4 := bgrown (bthen bb (bthen (undrew b2) b3)) hg4 (fun k hk => Nat.le_of_lt (hr4.out k hk))
  have lt4 : w.heap.size < w4.heap.size := Nat.lt_of_lt_of_le (Nat.lt_of_lt_of_le hlt (Nat.le_trans b2.size b3.size)) hg4.size
  have d3 := cell_grown hg4 hr4.out (cell_on b3 (cell_on b2 c3))
  have d4 := cell_grown hg4 hr4.out (cell_on b3 (cell_on b2 c4))
  have r4 := Lib.hid (show ∀ k, (Value.slice A4 (put32 x.a ++ put32 x.b).length k4).ownBlock = some k → w.heap.size < k from fun k hk => (o4.lt k hk).1)
  clear c0 c1 c2 c3 c4 o2 o3 b2 b3 ha4 hg4 hr4
  go_wp2_with fail
  go_region_held3 (fun w' => w'.cell? ⟨w.heap.size, 3, none⟩ = some (.int .i64 x.c) ∧ w'.cell? ⟨w.heap.size, 4, none⟩ = some (.int .i64 x.d)) (first | exact ⟨d3, d4⟩ | exact ⟨cell_on b5 d3, cell_on b5 d4⟩ | exact ⟨cell_grown hg6 r4.out (cell_on b5 d3), cell_grown hg6 r4.out (cell_on b5 d4)⟩ | exact ⟨cell_on b7 (cell_grown hg6 r4.out (cell_on b5 d3)), cell_on b7 (cell_grown hg6 r4.out (cell_on b5 d4))⟩ | exact ⟨cell_grown hg8 r6.out (cell_on b7 (cell_grown hg6 r4.out (cell_on b5 d3))), cell_grown hg8 r6.out (cell_on b7 (cell_grown hg6 r4.out (cell_on b5 d4)))⟩ | go_keep)
    (first | (go_at_call 101; with_reducible refine (specPut32 x.c _).mono ?_; rintro e w5 ⟨A5, k5, rfl, o5, b5⟩) | (go_at_call 101; with_reducible refine (specPut32 x.d _).mono ?_; rintro e w7 ⟨A7, k7, rfl, o7, b7⟩) | (refine step_append_b (by rfl) (.tmp 20) (.tmp 23) (by rfl) (w.heap.size + 1) (.slice A4 (put32 x.a ++ put32 x.b).length k4) (put32 x.a ++ put32 x.b) (by rfl) (own_below o4 (undrew b5)) _ A5 4 k5 (put32 x.c) (by rfl) rfl (RB.of_own o5) (by simp [put32]) (Nat.le_trans (show w.heap.size + 1 ≤ w4.drew.heap.size from lt4) b5.size) ?_; intro v6 w6 o6 hg6 ha6; have r6 := Lib.hid (show ∀ k, v6.ownBlock = some k → w.heap.size < k from fun k hk => (o6.lt k hk).1)) | (refine step_append_b (by rfl) (.tmp 24) (.tmp 27) (by rfl) (w.heap.size + 1) v6 ((put32 x.a ++ put32 x.b) ++ put32 x.c) (by rfl) (own_below o6 b7) _ A7 4 k7 (put32 x.d) (by rfl) rfl (RB.of_own o7) (by simp [put32]) (Nat.le_trans (Nat.le_trans (Nat.le_trans (show w.heap.size + 1 ≤ w4.drew.heap.size from lt4) b5.size) hg6.size) b7.size) ?_; intro v8 w8 o8 hg8 ha8))
  obtain ⟨A8, k8, rfl⟩ := own_form o8
  go_wp2
  go_ret
  exact bytesOut_yes H.out rfl o8 (by omega) (bgrown (bthen (bgrown (bthen b4 (undrew b5)) hg6 (fun k hk => Nat.le_of_lt (r4.out k hk))) b7) hg8 (fun k hk => Nat.le_of_lt (r6.out k hk)))

theorem specAddrBytes (x : Ad) (w : World) : Calls Try.prog 100 #[.agg #[.int .i64 x.k, .int .i64 x.a, .int .i64 x.b, .int .i64 x.c, .int .i64 x.d]] w (BytesOut x w) := by
  cases h : x.ok
  · exact specAddrBytes_no x h w
  · rcases x.ok_kind h with hk | hk
    · exact specAddrBytes_four x h hk w
    · exact specAddrBytes_six x h hk w
end Go.Proofs.Ytkmijefheejcjaa

namespace Go.Proofs.Ytkmijefheejcjaa
set_option maxRecDepth 100000
open Go.RowKit

def Ad.part (x : Ad) (i : Nat) : Int := match i with | 0 => x.a | 1 => x.b | 2 => x.c | _ => x.d
def Ad.fill (x : Ad) (i : Nat) : List UInt8 := x.whole.take (4 * i) ++ List.replicate (16 - 4 * i) 0
theorem four_cases {i : Nat} (h : i < 4) : i = 0 ∨ i = 1 ∨ i = 2 ∨ i = 3 := by omega
theorem index_part (x : Ad) (i : Nat) (h : i < 4) (w : World) :
    (Instr.index 131 (.agg #[.int .i64 x.a, .int .i64 x.b, .int .i64 x.c, .int .i64 x.d]) (.int .i64 (i : Int))).run Try.prog w = .ok (.int .i64 (x.part i)) w := by
  rcases four_cases h with rfl | rfl | rfl | rfl <;> rfl
theorem fill_splice (x : Ad) (i : Nat) (h : i < 4) : splice (cellsOf (x.fill i)) (4 * i) (cellsOf (put32 (x.part i))) = cellsOf (x.fill (i + 1)) := by
  rcases four_cases h with rfl | rfl | rfl | rfl <;> simp [splice, Ad.fill, Ad.whole, put32, cellsOf, Ad.part]
theorem fill_length (x : Ad) (i : Nat) (h : i ≤ 4) : (x.fill i).length = 16 := by
  simp [Ad.fill, Ad.whole_length]
  omega
theorem fill_end (x : Ad) : x.fill 4 = x.whole := by simp [Ad.fill, Ad.whole, put32]
theorem info_arr : (Try.prog.info? 113).map (·.size) = some 16 := by kernel_rfl
theorem info_u8s : (Try.prog.info? 5).map (·.size) = some 1 := by kernel_rfl

theorem slice_arr (g m : Nat) (h : m < 16) (w : World) : (Instr.sliceAt 113 (.pointer (some ⟨g, 0, none⟩)) (some (.int .i64 (m : Int))) none none).run Try.prog w = .ok (.slice (some ⟨g, m, none⟩) (16 - m) (16 - m)) w := by
  obtain ⟨i0, hi0, hz0, hz1, hz2⟩ := info_parts info_u8
  have e : Try.prog.elem 113 = 5 := by kernel_rfl
  have el : Try.prog.arrayLen 113 = 16 := by kernel_rfl
  rw [run_sliceAt_array_l w _ _ (by kernel_rfl) .i64 (m : Int) (by omega) (by rw [el]; omega)]
  simp [e, el, sizeOf, typeInfo, hi0, slicedAt, hz1, addr_add]
  omega
theorem row_on {a b : World} {B g : Nat} {o : Obj} (h : Below B a b) (hg : g < B) (hr : a.heap[g]? = some o) : b.heap[g]? = some o := (h.block g hg).trans hr
theorem row_lt {a : World} {g : Nat} {o : Obj} (h : a.heap[g]? = some o) : g < a.heap.size := (Array.getElem?_eq_some_iff.1 h).1

theorem row_new2 (w : World) (a b c : Obj) : (((w.alloc a).alloc b).alloc c).heap[w.heap.size + 1]? = some b := by
  have h := heap_alloc_new (w.alloc a) b
  have e : (w.alloc a).heap.size = w.heap.size + 1 := by simp
  have e2 : ((w.alloc a).alloc b).heap.size = w.heap.size + 1 + 1 := by simp
  rw [e] at h
  exact (Go.heap_alloc_old ((w.alloc a).alloc b) c (by omega)).trans h
theorem row_new3 (w : World) (a b c : Obj) : (((w.alloc a).alloc b).alloc c).heap[w.heap.size + 1 + 1]? = some c := by
  have h := heap_alloc_new ((w.alloc a).alloc b) c
  have e2 : ((w.alloc a).alloc b).heap.size = w.heap.size + 1 + 1 := by simp
  rwa [e2] at h
theorem own_src {w : World} {base : Nat} {e : TypeId} {g n c : Nat} {xs : List Value} (h : w.ownsRow base e 1 (.slice (some ⟨g, 0, none⟩) n c) n xs) : ∀ j v, xs[j]? = some v → w.cell? ((⟨g, 0, none⟩ : Addr).add j) = some v := by
  intro j v hv
  have hl := h.1
  have hj : j < xs.length := by
    rcases Nat.lt_or_ge j xs.length with hj | hj
    · exact hj
    · rw [List.getElem?_eq_none hj] at hv; cases hv
  rw [addr_add, Nat.zero_add, h.cellAt j (by omega)]
  exact hv
theorem cells_size (bs : List UInt8) : (cellsOf bs).toArray.size = bs.length := by simp [cellsOf]
theorem store_cells (w : World) (g : Nat) (t : TypeId) (old : Array Value) (bs : List UInt8) (hg : w.heap[g]? = some (.cells old t (0, 0))) (hl : old.size = bs.length) :
    (storeCells ⟨g, 0, none⟩ (cellsOf bs)).run Try.prog w = .ok () (w.setRow g (cellsOf bs).toArray) := by
  have := run_storeCells_from (P := Try.prog) g t (cellsOf bs) 0 old w hg (by rw [cellsOf_length]; omega) (cellsOf_one bs)
  simpa using this
theorem cells_all (bs : List UInt8) : (cellsOf bs).toArray.all (·.oneCell') = true := by
  rw [Array.all_eq_true_iff_forall_mem]
  intro v hv
  exact cellsOf_one bs v (by simpa using hv)

set_option maxHeartbeats 400000 in
theorem packedC (x : Ad) (w : World) : Calls Try.prog 110 #[.agg #[.int .i64 x.k, .int .i64 x.a, .int .i64 x.b, .int .i64 x.c, .int .i64 x.d]] w fun e w' => e = .returned (.agg (cellsOf x.whole).toArray) ∧ Below w.heap.size w w' := by
  go_enter Try.func110, Try.ntmps110
  go_wp2_with fail
  go_loopw [15] (fun s wr => ∃ i : Nat, i ≤ 4 ∧ s = .int .i64 i ∧ wr.heap[w.heap.size + 1]? = some (.cells (cellsOf (List.replicate 16 0)).toArray 113 (0, 0)) ∧ wr.heap[w.heap.size + 1 + 1]? = some (.cells (cellsOf (x.fill i)).toArray 113 (0, 0)) ∧ Below w.heap.size w wr) (fun s _ => 4 - (intOf s).toNat)
  case atStart =>
    refine ⟨0, by omega, rfl, ?_, ?_, by go_grown⟩
    · exact row_new2 w _ _ _
    · exact row_new3 w _ _ _
  case round =>
    obtain ⟨i, hi, rfl, h1, h2, hb⟩ := hrel
    by_cases hlt : i < 4
    · have hidx := index_part x i hlt
      obtain ⟨y, hy⟩ : ∃ y, y = x.part i := ⟨_, rfl⟩
      rw [← hy] at hidx
      have HY := Lib.hid hy
      have H1 := Lib.hid h1
      have H2 := Lib.hid h2
      clear hy h1 h2
      obtain ⟨m, hm⟩ : ∃ m : Nat, m = 4 * i := ⟨_, rfl⟩
      have hm16 : m < 16 := by omega
      have hm12 : m ≤ 12 := by omega
      have hw : IntKind.i64.wrap (4 * (i : Int)) = (m : Int) := by rw [IntKind.wrap_i64]; omega
      have hsl := slice_arr (w.heap.size + 1 + 1) m hm16
      have HM := Lib.hid hm
      have hl : w.heap.size + 1 + 1 < wr.heap.size := row_lt H2.out
      clear hm
      go_wp2_with fail
      go_region_law (first | (go_simp; go_at_call 57; refine (implPut32 y _).mono ?_; rintro e w2 ⟨rfl, o2, b2⟩) | (refine step_copy_splice (by rfl) (.tmp 21) (.tmp 23) 22 22 (by rfl) 5 Try.underlying22 info_u8s (some ⟨w.heap.size + 1 + 1, m, none⟩) _ (16 - m) (16 - m) 4 4 (by rfl) (by rfl) (w.heap.size + 1 + 1) m (cellsOf (x.fill i)) 113 (row_on b2 (row_lt H2.out) H2.out) (cellsOf (put32 y)) (by rw [cellsOf_length, put32_length]; exact (Nat.min_eq_left (by omega)).symm) (fun _ => ⟨rfl, _, rfl, own_src o2⟩) (by rw [cellsOf_length, cellsOf_length, put32_length, fill_length x i hi]; omega) (cellsOf_one _) (w.heap.size + 1 + 1) wr ((undrew b2).mono (Nat.le_of_lt hl)) (Nat.le_refl _) ?_; intro w4 hg4 hb4))
      go_wp2
      go_roundw
      case rel =>
        refine ⟨i + 1, by omega, by go_num, row_on hb4 (by omega) H1.out, ?_, hb.trans (hb4.mono (by omega))⟩
        rw [← fill_splice x i hlt, ← HM.out, ← HY.out]
        exact hg4.out
      case measure => simp [intOf]; omega
    · obtain rfl : i = 4 := by omega
      rw [fill_end] at h2
      have H1 := Lib.hid h1
      have H2 := Lib.hid h2
      clear h1 h2
      have hs16 := cells_size x.whole
      rw [x.whole_length] at hs16
      have HS := Lib.hid hs16
      clear hs16
      have hst := store_cells wr (w.heap.size + 1) 113 _ x.whole H1.out (by rw [x.whole_length]; rfl)
      go_wp2_with (with_reducible refine wpList_load_row rfl 113 (.tmp 3) rfl (w.heap.size + 1 + 1) rfl 113 (cellsOf x.whole).toArray (0, 0) _ H2.out Try.underlying113 rfl (by rw [HS.out]; exact info_arr) ?_)
      (try simp only [Exit.inBlock, Exit.then])
      refine bodyPost_ret (v := .agg (cellsOf x.whole).toArray) ?_ rfl ⟨rfl, below_setRow hb (by omega) _⟩
      exact results_cell_row rfl _ _ (w.heap.size + 1) 113 (cellsOf x.whole).toArray (0, 0) _ rfl (setRow_heap _ _ _ _ _ _ H1.out) Try.underlying113 rfl (by rw [HS.out]; exact info_arr)
end Go.Proofs.Ytkmijefheejcjaa

namespace Go.Proofs.Ytkmijefheejcjaa
set_option maxRecDepth 100000
open Go.RowKit

set_option maxHeartbeats 400000 in
theorem unpackedC (k : Int) (bs : List UInt8) (hl : bs.length = 16) (w : World) : Calls Try.prog 138 #[.int .i64 k, .agg (cellsOf bs).toArray] w fun e w' => e = .returned (.agg #[.int .i64 (unw k bs).k, .int .i64 (unw k bs).a, .int .i64 (unw k bs).b, .int .i64 (unw k bs).c, .int .i64 (unw k bs).d]) ∧ Below w.heap.size w w' := by
  have hrb : ∀ o1 o2, RB (((w.alloc (.cells (cellsOf bs).toArray 113)).alloc o1).alloc o2) (((w.alloc (.cells (cellsOf bs).toArray 113)).alloc o1).alloc o2).heap.size (some ⟨w.heap.size, 0, none⟩) bs := by
    intro o1 o2
    refine ((RB.new w 113 bs).below ?_).more ?_
    · exact ((Below.refl _ _).alloc (by simp) _).alloc (by simp) _
    · simp
  have HL := Lib.hid hl
  clear hl
  go_enter Try.func138, Try.ntmps138
  go_wp2_with fail
  refine wp_loop_rounds 5 ?_
  rw [rounds_succ]
  go_wp2_with (go_at_call 139; refine (implBe32 _ 16 16 bs 0 _ (hrb _ _) HL.out (by omega) (by omega) (by omega)).mono ?_; rintro e w' ⟨rfl, rfl⟩)
  rw [rounds_succ]
  go_wp2_with (go_at_call 139; refine (implBe32 _ 16 16 bs 4 _ (hrb _ _) HL.out (by omega) (by omega) (by omega)).mono ?_; rintro e w' ⟨rfl, rfl⟩)
  rw [rounds_succ]
  go_wp2_with (go_at_call 139; refine (implBe32 _ 16 16 bs 8 _ (hrb _ _) HL.out (by omega) (by omega) (by omega)).mono ?_; rintro e w' ⟨rfl, rfl⟩)
  rw [rounds_succ]
  go_wp2_with (go_at_call 139; refine (implBe32 _ 16 16 bs 12 _ (hrb _ _) HL.out (by omega) (by omega) (by omega)).mono ?_; rintro e w' ⟨rfl, rfl⟩)
  rw [rounds_succ]
  go_wp2
  go_returns
  exact ⟨rfl, by go_grown⟩

theorem bits_is (x : Ad) (h : x.ok = true) (w : World) : Calls Try.prog 111 #[.int .i64 x.k] w fun e w' => e = .returned (.int .i64 x.bits) ∧ w = w' := bitsOfC x.k (x.ok_kind h) w
theorem bits_bd (x : Ad) : 32 ≤ x.bits ∧ x.bits ≤ 128 := by
  unfold Ad.bits
  split <;> omega

set_option maxHeartbeats 400000 in
theorem clipC (a : Nat) (i : Nat) (w : World) : Calls Try.prog 131 #[.int .i64 ((a : Int) - 8 * (i : Int)), .int .i64 0, .int .i64 8] w fun e w' => e = .returned (.int .i64 ((min 8 (a - 8 * i) : Nat) : Int)) ∧ w = w' := by
  go_enter Try.func131, Try.ntmps131
  go_wp2
  all_goals (go_ret; exact ⟨ret_int (by omega), rfl⟩)

/-- The row while the first i bytes are cut. -/
def cutting (e i : Nat) (bs : List UInt8) : List UInt8 := (cutB e bs).take i ++ bs.drop i
theorem cutting_at (e i : Nat) (bs : List UInt8) (h : i < bs.length) : (cutting e i bs)[i]? = some bs[i] := by
  unfold cutting
  have hl : ((cutB e bs).take i).length = i := by simp [cutB_length]; omega
  rw [List.getElem?_append_right (by omega), hl, Nat.sub_self, List.getElem?_drop]
  simp [h]
theorem cutting_step (e i : Nat) (bs : List UInt8) (h : i < bs.length) : (cellsOf (cutting e i bs)).set i (.int .u8 ((cutByte bs[i] (min 8 (e - 8 * i))).toNat : Int)) = cellsOf (cutting e (i + 1) bs) := by
  unfold cutting
  have hl : ((cutB e bs).take i).length = i := by simp [cutB_length]; omega
  rw [List.drop_eq_getElem_cons h, fill_step _ _ _ _ i hl, take_snoc (cutB e bs) i (by rw [cutB_length]; exact h), cutB_get _ _ _ h]
theorem cutting_end (e : Nat) (bs : List UInt8) : cutting e bs.length bs = cutB e bs := by
  unfold cutting
  rw [List.drop_length, List.append_nil, List.take_of_length_le (by rw [cutB_length]; exact Nat.le_refl _)]
theorem mask_all : ∀ k : Fin 9, ∀ b : Fin 256, (b.val &&& (255 * 2 ^ (8 - k.val) % 256)) = b.val - b.val % 2 ^ (8 - k.val) := by decide +kernel
theorem and_mask (b : UInt8) (k : Nat) (h : k ≤ 8) : bits .and .u8 (b.toNat : Int) (255 * 2 ^ (8 - k) % 256) = ((cutByte b k).toNat : Int) := by
  have hb := UInt8.toNat_lt b
  have hm := mask_all ⟨k, by omega⟩ ⟨b.toNat, by omega⟩
  simp only at hm
  have e : (255 * 2 ^ (8 - k) % 256 : Int) = ((255 * 2 ^ (8 - k) % 256 : Nat) : Int) := by rw [Int.natCast_emod, Int.natCast_mul, Int.natCast_pow]; rfl
  rw [e]
  generalize hmm : 255 * 2 ^ (8 - k) % 256 = m at hm
  have hm256 : m < 256 := by omega
  have e1 : (BitVec.ofInt 8 (b.toNat : Int)).toNat = b.toNat := by
    rw [BitVec.ofInt_natCast, BitVec.toNat_ofNat]
    exact Nat.mod_eq_of_lt (by omega)
  have e2 : (BitVec.ofInt 8 (m : Int)).toNat = m := by
    rw [BitVec.ofInt_natCast, BitVec.toNat_ofNat]
    exact Nat.mod_eq_of_lt (by omega)
  show IntKind.u8.wrap ((BitVec.ofInt 8 (b.toNat : Int) &&& BitVec.ofInt 8 (m : Int)).toNat : Int) = _
  rw [BitVec.toNat_and, e1, e2, hm, cutByte_val, IntKind.wrap_u8]
  omega

end Go.Proofs.Ytkmijefheejcjaa

namespace Go.Proofs.Ytkmijefheejcjaa
set_option maxRecDepth 100000
open Go.RowKit

theorem own_of_row {w : World} {base g n : Nat} {e : TypeId} {xs : List Value} (h : w.heap[g]? = some (.cells xs.toArray e (0, 0))) (hb : base ≤ g) (hn : xs.length = n) (hm : n ≤ maxLen) : w.ownsRow base e 1 (.slice (some ⟨g, 0, none⟩) n n) n xs := by
  refine ⟨by omega, .inr ⟨g, n, xs.toArray, rfl, hb, h, Nat.le_refl _, hm, by simp; omega, ?_⟩⟩
  rw [List.take_of_length_le (by simp; omega)]

theorem cells_two {w : World} {c1 c2 : Array Value} {t1 t2 : TypeId} (j : Nat) (v : Value) (h : c1[j]? = some v) : ((w.alloc (.cells c1 t1)).alloc (.cells c2 t2)).cell? ⟨w.heap.size, j, none⟩ = some v := by
  rw [World.cell?_alloc_lt _ _ _ (by simp)]
  simp [h]

theorem whole_back4 {x : Ad} (h : x.a = 0 ∧ x.b = 0 ∧ x.c = 0) (j : Nat) (v : Value) (hv : (cellsOf (put32 x.d))[j]? = some v) : (cellsOf x.whole)[12 + j]? = some v := by
  rw [whole_four h, cellsOf_append, List.getElem?_append_right (by simp [cellsOf])]
  simpa [cellsOf] using hv

theorem make_bytes (n : Nat) (hn : n ≤ 1048576) (w : World) : (Instr.makeSlice 22 (.int .i64 (n : Int)) (.int .i64 (n : Int))).run Try.prog w = .ok (.slice (some ⟨w.heap.size, 0, none⟩) n n) (w.alloc (.cells (cellsOf (List.replicate n 0)).toArray 5)) := by
  have h := Go.run_make_row' (P := Try.prog) 22 5 (.int .u8 0) 1 Try.underlying22 info_u8 rfl .i64 .i64 n (by omega) (by omega) w
  have e : madeCells #[Value.int .u8 0] n = (cellsOf (List.replicate n 0)).toArray := by
    have := toList_madeCells_one (.int .u8 0) n
    apply Array.toList_inj.1
    simpa [cellsOf] using this
  rw [h, e]

set_option maxHeartbeats 400000 in
theorem implAddrBytes_no (x : Ad) (h : x.ok = false) (w : World) : Calls Try.prog 60 #[.agg #[.int .i64 x.k, .int .i64 x.a, .int .i64 x.b, .int .i64 x.c, .int .i64 x.d]] w (BytesOut x w) := by
  have H := Lib.hid h
  clear h
  go_enter Try.func60, Try.ntmps60
  go_wp2_with fail
  refine (implAddrOk x _).mono ?_
  rintro e w1 ⟨rfl, b1⟩
  have h := H.out
  go_wp2
  go_ret
  exact bytesOut_no H.out (bthen (Joins.below_alloc1 w _) b1)

set_option maxHeartbeats 400000 in
theorem implAddrBytes_four (x : Ad) (h : x.ok = true) (hk : x.k = 4) (w : World) : Calls Try.prog 60 #[.agg #[.int .i64 x.k, .int .i64 x.a, .int .i64 x.b, .int .i64 x.c, .int .i64 x.d]] w (BytesOut x w) := by
  have H := Lib.hid (bytes_four h hk)
  have HZ := Lib.hid (x.ok_four h hk)
  have HK := Lib.hid (bits_is x h)
  have HB := Lib.hid (show x.bits = 32 by simp [Ad.bits, hk])
  have HH := Lib.hid h
  clear h hk
  go_enter Try.func60, Try.ntmps60
  go_wp2_with fail
  refine (implAddrOk x _).mono ?_
  rintro e w1 ⟨rfl, b1⟩
  obtain ⟨c0, c1, c2, c3, c4⟩ := ad_box b1
  have bb := bthen (Joins.below_alloc1 w _) b1
  have h := HH.out
  clear b1
  go_wp2_with fail
  refine (packedC x _).mono ?_
  rintro e w2 ⟨rfl, b2⟩
  have hst := store_cells (w2.alloc (.cells (cellsOf (List.replicate 16 0)).toArray 113)) w2.heap.size 113 _ x.whole (Go.heap_alloc_last _ _) (by rw [x.whole_length]; rfl)
  have hz : (cellsOf (List.replicate 16 0)).toArray = #[Value.int .u8 0, .int .u8 0, .int .u8 0, .int .u8 0, .int .u8 0, .int .u8 0, .int .u8 0, .int .u8 0, .int .u8 0, .int .u8 0, .int .u8 0, .int .u8 0, .int .u8 0, .int .u8 0, .int .u8 0, .int .u8 0] := rfl
  rw [World.setRow_alloc_new, hz] at hst
  have cA : (w2.alloc (.cells (cellsOf x.whole).toArray 113)).cell? ⟨w.heap.size, 0, none⟩ = some (.int .i64 x.k) := cell_on (Joins.below_alloc1 w2 _) (cell_on b2 c0)
  have hl16 : (cellsOf x.whole).length = 16 := by rw [cellsOf_length, x.whole_length]
  have B2 := bthen bb b2
  clear hz c0 c1 c2 c3 c4
  have hmk : ∀ w, (Instr.makeSlice 22 (.int .i64 4) (.int .i64 4)).run Try.prog w = .ok (.slice (some ⟨w.heap.size, 0, none⟩) 4 4) (w.alloc (.cells (cellsOf (List.replicate 4 0)).toArray 5)) := make_bytes 4 (by omega)
  have hsl := slice_arr w2.heap.size 12 (by omega)
  go_wp2_with (first | (go_at_call 111; refine (HK.out _).mono ?_; rintro e w' ⟨rfl, rfl⟩; rw [HB.out]) | (with_reducible refine wpList_copy_splice rfl (.tmp 15) (.tmp 19) 22 22 rfl 5 Try.underlying22 info_u8s _ _ _ _ _ _ rfl rfl (w2.heap.size + 1) 0 (cellsOf (List.replicate 4 0)) 5 ?_ (cellsOf (put32 x.d)) ?_ ?_ ?_ (cellsOf_one _) (w2.heap.size + 1) _ (Below.refl _ _) (Nat.le_refl _) ?_))
  · exact heap_alloc2_new w2 _ _
  · rfl
  · exact fun _ j v hv => whole_back4 HZ.out j v hv
  · simp [cellsOf, put32]
  · intro w4 hg4 hb4
    have hg : w4.heap[w2.heap.size + 1]? = some (.cells (cellsOf (put32 x.d)).toArray 5 (0, 0)) := by simpa [splice, cellsOf, put32] using hg4.out
    have o4 := Lib.hid (own_of_row (base := w2.heap.size + 1) hg (Nat.le_refl _) (show _ = 4 from rfl) (by decide))
    clear hg
    go_wp2
    go_ret
    exact bytesOut_yes H.out rfl o4.out (by have := B2.size; omega) ((bthen B2 (Joins.below_alloc2 w2 _ _)).trans (hb4.mono (by have := B2.size; omega)))
set_option maxHeartbeats 400000 in
theorem implAddrBytes_six (x : Ad) (h : x.ok = true) (hk : x.k = 6) (w : World) : Calls Try.prog 60 #[.agg #[.int .i64 x.k, .int .i64 x.a, .int .i64 x.b, .int .i64 x.c, .int .i64 x.d]] w (BytesOut x w) := by
  have H := Lib.hid (bytes_six h hk)
  have HK := Lib.hid (bits_is x h)
  have HB := Lib.hid (show x.bits = 128 by simp [Ad.bits, hk])
  have HH := Lib.hid h
  clear h hk
  go_enter Try.func60, Try.ntmps60
  go_wp2_with fail
  refine (implAddrOk x _).mono ?_
  rintro e w1 ⟨rfl, b1⟩
  obtain ⟨c0, c1, c2, c3, c4⟩ := ad_box b1
  have bb := bthen (Joins.below_alloc1 w _) b1
  have h := HH.out
  clear b1
  go_wp2_with fail
  refine (packedC x _).mono ?_
  rintro e w2 ⟨rfl, b2⟩
  have hst := store_cells (w2.alloc (.cells (cellsOf (List.replicate 16 0)).toArray 113)) w2.heap.size 113 _ x.whole (Go.heap_alloc_last _ _) (by rw [x.whole_length]; rfl)
  have hz : (cellsOf (List.replicate 16 0)).toArray = #[Value.int .u8 0, .int .u8 0, .int .u8 0, .int .u8 0, .int .u8 0, .int .u8 0, .int .u8 0, .int .u8 0, .int .u8 0, .int .u8 0, .int .u8 0, .int .u8 0, .int .u8 0, .int .u8 0, .int .u8 0, .int .u8 0] := rfl
  rw [World.setRow_alloc_new, hz] at hst
  have cA : (w2.alloc (.cells (cellsOf x.whole).toArray 113)).cell? ⟨w.heap.size, 0, none⟩ = some (.int .i64 x.k) := cell_on (Joins.below_alloc1 w2 _) (cell_on b2 c0)
  have hl16 : (cellsOf x.whole).length = 16 := by rw [cellsOf_length, x.whole_length]
  have B2 := bthen bb b2
  clear hz c0 c1 c2 c3 c4
  have hmk : ∀ w, (Instr.makeSlice 22 (.int .i64 16) (.int .i64 16)).run Try.prog w = .ok (.slice (some ⟨w.heap.size, 0, none⟩) 16 16) (w.alloc (.cells (cellsOf (List.replicate 16 0)).toArray 5)) := make_bytes 16 (by omega)
  have hsl := slice_arr w2.heap.size 0 (by omega)
  go_wp2_with (first | (go_at_call 111; refine (HK.out _).mono ?_; rintro e w' ⟨rfl, rfl⟩; rw [HB.out]) | (with_reducible refine wpList_copy_splice rfl (.tmp 15) (.tmp 19) 22 22 rfl 5 Try.underlying22 info_u8s _ _ _ _ _ _ rfl rfl (w2.heap.size + 1) 0 (cellsOf (List.replicate 16 0)) 5 ?_ (cellsOf x.whole) ?_ ?_ ?_ (cellsOf_one _) (w2.heap.size + 1) _ (Below.refl _ _) (Nat.le_refl _) ?_))
  · exact heap_alloc2_new w2 _ _
  · rfl
  · simp [cellsOf, Ad.whole, put32]
  · intro w4 hg4 hb4
    have hg : w4.heap[w2.heap.size + 1]? = some (.cells (cellsOf x.whole).toArray 5 (0, 0)) := by simpa [splice, cellsOf, Ad.whole, put32] using hg4.out
    have o4 := Lib.hid (own_of_row (base := w2.heap.size + 1) hg (Nat.le_refl _) (show _ = 16 from rfl) (by decide))
    clear hg
    go_wp2
    go_ret
    exact bytesOut_yes H.out rfl o4.out (by have := B2.size; omega) ((bthen B2 (Joins.below_alloc2 w2 _ _)).trans (hb4.mono (by have := B2.size; omega)))
theorem implAddrBytes (x : Ad) (w : World) : Calls Try.prog 60 #[.agg #[.int .i64 x.k, .int .i64 x.a, .int .i64 x.b, .int .i64 x.c, .int .i64 x.d]] w (BytesOut x w) := by
  cases h : x.ok
  · exact implAddrBytes_no x h w
  · rcases x.ok_kind h with hk | hk
    · exact implAddrBytes_four x h hk w
    · exact implAddrBytes_six x h hk w
end Go.Proofs.Ytkmijefheejcjaa

namespace Go.Proofs.Ytkmijefheejcjaa
set_option maxRecDepth 100000
open Go.RowKit

/-- The address of bytes: of four, of sixteen. -/
def ofA (bs : List UInt8) : Ad := if bs.length = 4 then ⟨4, 0, 0, 0, be bs⟩ else if bs.length = 16 then unw 6 bs else Ad.zero
def okA (bs : List UInt8) : Bool := decide (bs.length = 4) || decide (bs.length = 16)
def OfOut (bs : List UInt8) (w : World) (e : Ending) (w' : World) : Prop := e = .returned (.tuple #[.agg #[.int .i64 (ofA bs).k, .int .i64 (ofA bs).a, .int .i64 (ofA bs).b, .int .i64 (ofA bs).c, .int .i64 (ofA bs).d], .bool (okA bs)]) ∧ Below w.heap.size w w'
theorem ofOut_of {bs : List UInt8} {y : Ad} {ok : Bool} {w w' : World} (h1 : ofA bs = y) (h2 : okA bs = ok) (hb : Below w.heap.size w w') : OfOut bs w (.returned (.tuple #[.agg #[.int .i64 y.k, .int .i64 y.a, .int .i64 y.b, .int .i64 y.c, .int .i64 y.d], .bool ok])) w' := by
  subst h1
  subst h2
  exact ⟨rfl, hb⟩
theorem ofA_four {bs : List UInt8} (h : bs.length = 4) : ofA bs = ⟨4, 0, 0, 0, be bs⟩ := by simp [ofA, h]
theorem ofA_six {bs : List UInt8} (h : bs.length = 16) : ofA bs = unw 6 bs := by simp [ofA, h]
theorem unw_four (bs : List UInt8) (h : bs.length = 4) : unw 4 (List.replicate 12 0 ++ bs) = ⟨4, 0, 0, 0, be bs⟩ := by
  obtain ⟨p, q, r, s, rfl⟩ := len4 h
  simp [unw, be]

/-- The cells of a block of five that may be written. -/
theorem row5 {w : World} {g : Nat} {v0 v1 v2 v3 v4 : Value} {t : TypeId} (h : w.heap[g]? = some (.cells #[v0, v1, v2, v3, v4] t (0, 0))) :
    (w.cell? ⟨g, 0, none⟩ = some v0 ∧ w.cell? ⟨g, 1, none⟩ = some v1 ∧ w.cell? ⟨g, 2, none⟩ = some v2 ∧ w.cell? ⟨g, 3, none⟩ = some v3 ∧ w.cell? ⟨g, 4, none⟩ = some v4) ∧
      (w.frozen? ⟨g, 0, none⟩ = false ∧ w.frozen? ⟨g, 1, none⟩ = false ∧ w.frozen? ⟨g, 2, none⟩ = false ∧ w.frozen? ⟨g, 3, none⟩ = false ∧ w.frozen? ⟨g, 4, none⟩ = false) :=
  ⟨⟨cell_of_row w g 0 _ _ _ h, cell_of_row w g 1 _ _ _ h, cell_of_row w g 2 _ _ _ h, cell_of_row w g 3 _ _ _ h, cell_of_row w g 4 _ _ _ h⟩,
    ⟨frozen_of_row w g 0 _ _ h, frozen_of_row w g 1 _ _ h, frozen_of_row w g 2 _ _ h, frozen_of_row w g 3 _ _ h, frozen_of_row w g 4 _ _ h⟩⟩
theorem set5 {w : World} {g : Nat} {a0 a1 a2 a3 a4 : Value} {t : TypeId} (v0 v1 v2 v3 v4 : Value) (h : w.heap[g]? = some (.cells #[a0, a1, a2, a3, a4] t (0, 0))) :
    (((((w.setCell ⟨g, 0, none⟩ v0).setCell ⟨g, 1, none⟩ v1).setCell ⟨g, 2, none⟩ v2).setCell ⟨g, 3, none⟩ v3).setCell ⟨g, 4, none⟩ v4).heap[g]? = some (.cells #[v0, v1, v2, v3, v4] t (0, 0)) :=
  heap_setCell_same _ g 4 #[v0, v1, v2, v3, a4] t v4 (heap_setCell_same _ g 3 #[v0, v1, v2, a3, a4] t v3 (heap_setCell_same _ g 2 #[v0, v1, a2, a3, a4] t v2 (heap_setCell_same _ g 1 #[v0, a1, a2, a3, a4] t v1 (heap_setCell_same _ g 0 _ t v0 h))))
theorem res_cell_tmp {fn : Func} {p u : Tmp} {ty : TypeId} (h : fn.results = #[.cell p ty, .tmp u]) (tmps : Array Value) (P : Program) (w : World) (g : Nat) (cs : Array Value)
    (hp : tmps.getD p undef = .pointer (some ⟨g, 0, none⟩)) (hld : (loadVar ty ⟨g, 0, none⟩).run P w = .ok (.agg cs) w) :
    (results fn tmps).run P w = .ok (.tuple #[.agg cs, tmps.getD u undef]) w := by
  rw [results_cell_tmp h, hp]
  simp [asAddr, Result.andThen, hld]
theorem info_addr : (Try.prog.info? 25).map (·.size) = some 5 := by kernel_rfl
theorem new_row {w w' : World} {o : Obj} (b : Below (w.alloc o).heap.size (w.alloc o) w') : w'.heap[w.heap.size]? = some o := row_on b (by simp) (Go.heap_alloc_last w o)

set_option maxHeartbeats 400000 in
theorem specAddrOf (A : Option Addr) (n c : Nat) (bs : List UInt8) (w : World) (hr : RB w w.heap.size A bs) (hl : bs.length = n) (hn : n ≤ 1048576) : Calls Try.prog 91 #[.slice A n c] w (OfOut bs w) := by
  have hr1 : ∀ o, RB (w.alloc o) (w.alloc o).heap.size A bs := fun o => (hr.below (Joins.below_alloc1 w o)).more (by simp)
  have HR := Lib.hid hr1
  have HL := Lib.hid hl
  by_cases h4 : n = 4
  · subst h4
    have HO := Lib.hid (And.intro (ofA_four hl) (show okA bs = true by simp [okA, hl]))
    have e4 := Lib.hid (show (bs.drop 0).take 4 = bs from List.take_of_length_le (by simp; omega))
    clear hr1 hl
    go_enter Try.func91, Try.ntmps91
    go_wp2_with fail
    refine (specBe32 A 4 c bs 0 _ (HR.out _) HL.out (by omega) (by omega)).mono ?_
    rintro e w1 ⟨rfl, b1⟩
    rw [e4.out]
    obtain ⟨⟨c0, c1, c2, c3, c4⟩, f0, f1, f2, f3, f4⟩ := row5 (new_row b1)
    go_wp2
    (try simp only [Exit.inBlock, Exit.then])
    refine bodyPost_ret (v := .tuple #[.agg #[.int .i64 4, .int .i64 0, .int .i64 0, .int .i64 0, .int .i64 (be bs)], .bool true]) ?_ rfl (ofOut_of HO.out.1 HO.out.2 (by have := bthen (Joins.below_alloc1 w _) b1; go_grown))
    refine res_cell_tmp Try.results91 _ _ _ w.heap.size _ ?_ (run_loadVar_row _ _ 25 25 _ (0, 0) _ (set5 _ _ _ _ _ (new_row b1)) Try.underlying25 rfl info_addr)
    rfl
  · by_cases h16 : n = 16
    · subst h16
      have HO := Lib.hid (And.intro (ofA_six hl) (show okA bs = true by simp [okA, hl]))
      clear hr1 hl
      go_enter Try.func91, Try.ntmps91
      go_wp2_with fail
      refine (specBe32 A 16 c bs 0 _ (HR.out _) HL.out (by omega) (by omega)).mono ?_
      rintro e w1 ⟨rfl, b1⟩
      have r1 := ((HR.out _).below b1).more b1.size
      go_wp2_with fail
      refine (specBe32 A 16 c bs 4 _ r1 HL.out (by omega) (by omega)).mono ?_
      rintro e w2 ⟨rfl, b2⟩
      have r2 := (r1.below b2).more b2.size
      go_wp2_with fail
      refine (specBe32 A 16 c bs 8 _ r2 HL.out (by omega) (by omega)).mono ?_
      rintro e w3 ⟨rfl, b3⟩
      have r3 := (r2.below b3).more b3.size
      go_wp2_with fail
      refine (specBe32 A 16 c bs 12 _ r3 HL.out (by omega) (by omega)).mono ?_
      rintro e w4 ⟨rfl, b4⟩
      have B4 := bthen (bthen (bthen b1 b2) b3) b4
      obtain ⟨⟨c0, c1, c2, c3, c4⟩, f0, f1, f2, f3, f4⟩ := row5 (new_row B4)
      have B5 := bthen (Joins.below_alloc1 w _) B4
      have N5 := Lib.hid (new_row B4)
      clear b1 b2 b3 b4 B4 r1 r2 r3
      go_wp2
      (try simp only [Exit.inBlock, Exit.then])
      refine bodyPost_ret (v := .tuple #[.agg #[.int .i64 (unw 6 bs).k, .int .i64 (unw 6 bs).a, .int .i64 (unw 6 bs).b, .int .i64 (unw 6 bs).c, .int .i64 (unw 6 bs).d], .bool true]) ?_ rfl (ofOut_of HO.out.1 HO.out.2 (by go_grown))
      refine res_cell_tmp Try.results91 _ _ _ w.heap.size _ ?_ (run_loadVar_row _ _ 25 25 _ (0, 0) _ (set5 _ _ _ _ _ N5.out) Try.underlying25 rfl info_addr)
      rfl
    · have HO := Lib.hid (And.intro (show ofA bs = Ad.zero by simp [ofA, hl, h4, h16]) (show okA bs = false by simp [okA, hl, h4, h16]))
      clear hr1 hl
      go_enter Try.func91, Try.ntmps91
      go_wp2
      go_returns
      exact ofOut_of HO.out.1 HO.out.2 (by go_grown)
end Go.Proofs.Ytkmijefheejcjaa
