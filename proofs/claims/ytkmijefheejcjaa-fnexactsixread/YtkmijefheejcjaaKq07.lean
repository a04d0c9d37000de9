/-
  The laws' own helpers on IPv4 packets: a size, a copy, a comparison, a marking, a look at the marks. The laws' own copy of an IPv4 packet. IPv6 packets in memory: whole loads and stores; the laws' own helpers on their extension headers: a size, a copy. The laws' own copy of an IPv6 packet. The program's reader of IPv6 packets: its first word, its addresses, one extension header. What FourOk calls, in the program; FourOk in the model. What SixOk calls, in the program and in the model. The program's reading of all extension headers. The laws' own comparison of IPv4 packets, their marking and a look at the marks.
-/
import Derived.Test.YtkmijefheejcjaaKq06
import Derived.Test.YtkmijefheejcjaaKq03
import Derived.Laws.Tables
import Derived.Deep.WholeRow
namespace Go.Proofs.Ytkmijefheejcjaa
set_option maxRecDepth 100000
open Go.RowKit

















theorem K.setRow_own {w : World} {base : Nat} {e : TypeId} {size n : Nat} {v : Value} {xs : List Value} {g : Nat} (cs : Array Value) (h : w.ownsRow base e size v n xs) (hg : g < base) : (w.setRow g cs).ownsRow base e size v n xs :=
  own_grown (row := some g) h ⟨rfl, rfl, rfl, by simp, fun k _ hk => setRow_other w g k cs (fun e => hk (by rw [e]))⟩ (fun k hk => by have := (h.lt k hk).1; simp; omega)

theorem K.setRow_grown (w : World) (g : Nat) (cs : Array Value) : w.grownBy (w.setRow g cs) (some g) := ⟨rfl, rfl, rfl, by simp, fun k _ hk => setRow_other w g k cs (fun e => hk (by rw [e]))⟩

theorem K.setRow_below {w0 w : World} {g : Nat} (hb : Below w0.heap.size w0 w) (hg : w0.heap.size ≤ g) (cs : Array Value) : Below w0.heap.size w0 (w.setRow g cs) :=
  bgrown hb (K.setRow_grown w g cs) (fun k hk => by cases hk; exact hg)

set_option maxHeartbeats 400000 in
theorem szF_yes (A : Option Addr) (n c : Nat) (l : Int) (w : World) (h : (n : Int) ≤ l) (hl : l ≤ 1048576) :
    Calls Try.prog 97 #[.slice A n c, .int .i64 l] w fun e w' => e = .returned (.int .i64 (l - n)) ∧ w = w' := by
  go_enter Try.func97, Try.ntmps97
  go_wp2
  go_ret
  exact ⟨rfl, rfl⟩

set_option maxHeartbeats 400000 in
theorem szF_no (A : Option Addr) (n c : Nat) (l : Int) (w : World) (h : l < (n : Int)) (h0 : 0 ≤ l) (hn : n ≤ maxLen) :
    Calls Try.prog 97 #[.slice A n c, .int .i64 l] w fun e w' => e = .returned (.int .i64 (-1)) ∧ w = w' := by
  unfold maxLen at hn
  go_enter Try.func97, Try.ntmps97
  go_wp2
  go_ret
  exact ⟨rfl, rfl⟩







theorem toFn (A : Option Addr) (n c : Nat) (bs : List UInt8) (w : World) (hr : RB w w.heap.size A bs) (hl : bs.length = n) (hn : n ≤ 1048576) :
    Calls Try.prog 30 #[.slice A n c] w fun e w' => ∃ D d, e = .returned (.slice D n d) ∧ w'.ownsRow w.heap.size 5 1 (.slice D n d) n (cellsOf bs) ∧ Below w.heap.size w w' := by
  subst hl
  exact (toB A c bs w hr hn).mono fun e w' ⟨he, ho, hb⟩ => ⟨_, _, he, ho, hb⟩

/-- What a copy of a packet leaves. -/
def FourOut (x : Fh) (os bs : List UInt8) (n m : Nat) (w : World) (e : Ending) (w' : World) : Prop :=
  ∃ A c D d, e = .returned (.agg #[.int .i64 x.dscp, .int .i64 x.ecn, .int .i64 x.id, .int .i64 x.flags, .int .i64 x.frag, .int .i64 x.ttl, .int .i64 x.proto, .int .i64 x.src.k, .int .i64 x.src.a, .int .i64 x.src.b, .int .i64 x.src.c, .int .i64 x.src.d, .int .i64 x.dst.k, .int .i64 x.dst.a, .int .i64 x.dst.b, .int .i64 x.dst.c, .int .i64 x.dst.d, .slice A n c, .slice D m d]) ∧ w'.ownsRow w.heap.size 5 1 (.slice A n c) n (cellsOf os) ∧ w'.ownsRow w.heap.size 5 1 (.slice D m d) m (cellsOf bs) ∧
    (∀ k, (Value.slice A n c).ownBlock = some k → (Value.slice D m d).ownBlock ≠ some k) ∧ Below w.heap.size w w'
end Go.Proofs.Ytkmijefheejcjaa

namespace Go.Proofs.Ytkmijefheejcjaa
set_option maxRecDepth 100000
open Go.RowKit

theorem own_set {w : World} {base : Nat} {e : TypeId} {size n : Nat} {v : Value} {xs : List Value} (h : w.ownsRow base e size v n xs) (g j : Nat) (u : Value) (hg : g < base) : (w.setCell ⟨g, j, none⟩ u).ownsRow base e size v n xs :=
  own_grown h (grownBy_set w g j u) (fun k hk => by have := (h.lt k hk).1; simp; omega)

end Go.Proofs.Ytkmijefheejcjaa

namespace Go.Proofs.Ytkmijefheejcjaa
set_option maxRecDepth 100000
open Go.RowKit

theorem info_six : (Try.prog.info? 28).map (·.size) = some 16 := by kernel_rfl

theorem loadS {ops : Array Oper} {rest : List Oper} {o : Oper} {a : Act} {w : World} {Q : Exit → Act → World → Prop} (hgd : o.guard = none) (x : Operand) (ho : o.op = .load 28 x) (g : Nat) (hx : a.eval x = .pointer (some ⟨g, 0, none⟩)) {t : TypeId} {v0 v1 v2 v3 v4 v5 v6 v7 v8 v9 v10 v11 v12 v13 v14 v15 : Value}
    (hg : w.heap[g]? = some (.cells #[v0, v1, v2, v3, v4, v5, v6, v7, v8, v9, v10, v11, v12, v13, v14, v15] t (0, 0))) (h : wpList Try.prog ops Q rest (a.put o.dst (.agg #[v0, v1, v2, v3, v4, v5, v6, v7, v8, v9, v10, v11, v12, v13, v14, v15])) w) : wpList Try.prog ops Q (o :: rest) a w :=
  wpList_load_row hgd 28 x ho g hx t _ (0, 0) _ hg Try.underlying28 rfl info_six h

theorem storeS {ops : Array Oper} {rest : List Oper} {o : Oper} {a : Act} {w : World} {Q : Exit → Act → World → Prop} (hgd : o.guard = none) (x y : Operand) (ho : o.op = .store 28 x y) (g : Nat) {n0 n1 n2 n3 n4 n5 n6 n7 n8 n9 n10 n11 n12 n13 : Int} {A D : Option Addr} {l c m d : Nat} (hx : a.eval x = .pointer (some ⟨g, 0, none⟩)) (hy : a.eval y = .agg #[.int .i64 n0, .int .i64 n1, .int .i64 n2, .int .i64 n3, .int .i64 n4, .int .i64 n5, .int .i64 n6, .int .i64 n7, .int .i64 n8, .int .i64 n9, .int .i64 n10, .int .i64 n11, .int .i64 n12, .int .i64 n13, .slice A l c, .slice D m d]) {t : TypeId} {u0 u1 u2 u3 u4 u5 u6 u7 u8 u9 u10 u11 u12 u13 u14 u15 : Value}
    (hg : w.heap[g]? = some (.cells #[u0, u1, u2, u3, u4, u5, u6, u7, u8, u9, u10, u11, u12, u13, u14, u15] t (0, 0))) (h : wpList Try.prog ops Q rest (a.put o.dst undef) (w.setRow g #[.int .i64 n0, .int .i64 n1, .int .i64 n2, .int .i64 n3, .int .i64 n4, .int .i64 n5, .int .i64 n6, .int .i64 n7, .int .i64 n8, .int .i64 n9, .int .i64 n10, .int .i64 n11, .int .i64 n12, .int .i64 n13, .slice A l c, .slice D m d])) : wpList Try.prog ops Q (o :: rest) a w :=
  wpList_store_row hgd 28 x y ho g _ hx hy t _ hg info_six rfl (by simp [Value.oneCell']) h

theorem resS {fn : Func} {p : Tmp} (h : fn.results = #[.cell p 28]) (tmps : Array Value) (w : World) (g : Nat) {v0 v1 v2 v3 v4 v5 v6 v7 v8 v9 v10 v11 v12 v13 v14 v15 : Value} {t : TypeId} (hp : tmps.getD p undef = .pointer (some ⟨g, 0, none⟩)) (hg : w.heap[g]? = some (.cells #[v0, v1, v2, v3, v4, v5, v6, v7, v8, v9, v10, v11, v12, v13, v14, v15] t (0, 0))) :
    (results fn tmps).run Try.prog w = .ok (.agg #[v0, v1, v2, v3, v4, v5, v6, v7, v8, v9, v10, v11, v12, v13, v14, v15]) w :=
  results_cell_row h tmps w g t _ (0, 0) _ hp hg Try.underlying28 rfl info_six

theorem info_ext : (Try.prog.info? 74).map (fun i => (i.zero, i.size, i.bytes)) = some (some (.agg #[.int .i64 0, .slice none 0 0]), 2, 32) := by kernel_rfl





end Go.Proofs.Ytkmijefheejcjaa

namespace Go.Proofs.Ytkmijefheejcjaa
set_option maxRecDepth 100000
open Go.RowKit

theorem info_extn : (Try.prog.info? 74).map (·.size) = some 2 := by kernel_rfl
/-- A row of extension headers of the call's own, with bodies of its own. -/
structure XO (w : World) (base : Nat) (A : Option Addr) (n c : Nat) (zs : List Ey) : Prop where
  len : zs.length = n
  row : w.ownsRow base 74 2 (.slice A n c) n (xcells zs)
  own : ∀ z ∈ zs, w.ownsRow base 5 1 z.body z.bs.length (cellsOf z.bs)
  apart : zs.Pairwise (fun a b => ∀ k, a.body.ownBlock = some k → b.body.ownBlock ≠ some k)
  off : ∀ z ∈ zs, ∀ k, z.body.ownBlock = some k → (Value.slice A n c).ownBlock ≠ some k
theorem XO.xr {w : World} {base : Nat} {A : Option Addr} {n c : Nat} {zs : List Ey} (h : XO w base A n c zs) : XR w w.heap.size A zs := ⟨RV.of_own h.row, fun z hz => RB.of_own (h.own z hz)⟩
theorem XO.below {w w' : World} {base : Nat} {A : Option Addr} {n c : Nat} {zs : List Ey} (h : XO w base A n c zs) (hb : Below w.heap.size w w') : XO w' base A n c zs :=
  ⟨h.len, own_below h.row hb, fun z hz => own_below (h.own z hz) hb, h.apart, h.off⟩
theorem XO.base {w : World} {base base' : Nat} {A : Option Addr} {n c : Nat} {zs : List Ey} (h : XO w base A n c zs) (hb : base' ≤ base) : XO w base' A n c zs :=
  ⟨h.len, own_base h.row hb, fun z hz => own_base (h.own z hz) hb, h.apart, h.off⟩



/-- Bodies of a row that grew by one. -/
theorem pair_snoc {zs : List Ey} {z : Ey} {B : Nat} (h : zs.Pairwise (fun a b => ∀ k, a.body.ownBlock = some k → b.body.ownBlock ≠ some k)) (h1 : ∀ a ∈ zs, ∀ k, a.body.ownBlock = some k → k < B) (h2 : ∀ k, z.body.ownBlock = some k → B ≤ k) :
    (zs ++ [z]).Pairwise (fun a b => ∀ k, a.body.ownBlock = some k → b.body.ownBlock ≠ some k) := by
  rw [List.pairwise_append]
  refine ⟨h, by simp, fun a ha b hb k hk e => ?_⟩
  simp only [List.mem_singleton] at hb
  subst hb
  have := h1 a ha k hk
  have := h2 k e
  omega



/-- What a copy of a packet leaves. -/
def SixOut (x : Sh) (es : List (Int × List UInt8)) (bs : List UInt8) (n m : Nat) (w : World) (e : Ending) (w' : World) : Prop :=
  ∃ A c zs D d, e = .returned (.agg #[.int .i64 x.cls, .int .i64 x.label, .int .i64 x.hops, .int .i64 x.proto, .int .i64 x.src.k, .int .i64 x.src.a, .int .i64 x.src.b, .int .i64 x.src.c, .int .i64 x.src.d, .int .i64 x.dst.k, .int .i64 x.dst.a, .int .i64 x.dst.b, .int .i64 x.dst.c, .int .i64 x.dst.d, .slice A n c, .slice D m d]) ∧ XO w' w.heap.size A n c zs ∧ zs.map Ey.says = es ∧ w'.ownsRow w.heap.size 5 1 (.slice D m d) m (cellsOf bs) ∧
    (∀ k, (Value.slice D m d).ownBlock = some k → (Value.slice A n c).ownBlock ≠ some k ∧ ∀ z ∈ zs, z.body.ownBlock ≠ some k) ∧ Below w.heap.size w w'

theorem XO.set {w : World} {base : Nat} {A : Option Addr} {n c : Nat} {zs : List Ey} (h : XO w base A n c zs) (g j : Nat) (u : Value) (hg : g < base) : XO (w.setCell ⟨g, j, none⟩ u) base A n c zs :=
  ⟨h.len, own_set h.row g j u hg, fun z hz => own_set (h.own z hz) g j u hg, h.apart, h.off⟩
theorem XO.setRow {w : World} {base : Nat} {A : Option Addr} {n c : Nat} {zs : List Ey} (h : XO w base A n c zs) (g : Nat) (cs : Array Value) (hg : g < base) : XO (w.setRow g cs) base A n c zs :=
  ⟨h.len, K.setRow_own cs h.row hg, fun z hz => K.setRow_own cs (h.own z hz) hg, h.apart, h.off⟩
theorem XO.lt {w : World} {base : Nat} {A : Option Addr} {n c : Nat} {zs : List Ey} (h : XO w base A n c zs) : (∀ k, (Value.slice A n c).ownBlock = some k → base ≤ k ∧ k < w.heap.size) ∧ ∀ z ∈ zs, ∀ k, z.body.ownBlock = some k → base ≤ k ∧ k < w.heap.size :=
  ⟨fun k hk => h.row.lt k hk, fun z hz k hk => (h.own z hz).lt k hk⟩

end Go.Proofs.Ytkmijefheejcjaa

namespace Go.Proofs.Ytkmijefheejcjaa
set_option maxRecDepth 100000
open Go.RowKit

theorem and_lowW (v m i : Nat) (hm : 2 ^ i = m) (hv : v + m < 4611686018427387904) : bits .and .i64 (v : Int) ((m : Int) - 1) = ((v % m : Nat) : Int) := by
  have h0 : 0 < m := by rw [← hm]; exact Nat.two_pow_pos i
  have e : (m : Int) - 1 = ((m - 1 : Nat) : Int) := by omega
  have ha : v &&& (m - 1) = v % m := by rw [← hm]; exact Nat.and_two_pow_sub_one_eq_mod v i
  have hl : v % m ≤ v := Nat.mod_le v m
  rw [e]
  show IntKind.i64.wrap ((BitVec.ofInt 64 (v : Int) &&& BitVec.ofInt 64 ((m - 1 : Nat) : Int)).toNat : Int) = _
  rw [BitVec.toNat_and, ofInt_i64 _ (by omega), ofInt_i64 _ (by omega), ha, IntKind.wrap_i64]
  omega

set_option maxHeartbeats 1000000 in
theorem splitP_20 (w : World) (g : Nat) (A : Option Addr) (n c : Nat) (bs : List UInt8) (k s v : Nat) (hv : num bs k s = v) (hv2 : v < 4294967296) (h : Rp w g A n c bs k) (hs0 : 0 < s) (hs : s ≤ 6) (hk : k + s ≤ n) :
    Calls Try.prog 113 #[.pointer (some ⟨g, 0, none⟩), .int .i64 (s : Int), .int .i64 20] w fun e w' => e = .returned (.tuple #[.int .i64 ((v : Int) / 1048576), .int .i64 ((v : Int) % 1048576)]) ∧ Rp w' g A n c bs (k + s) ∧ w.grownBy w' (some g) := by
  have HC := Lib.hid (numberP w g A n c bs k s v hv h hs0 hs hk)
  have ea : bits .and .i64 (v : Int) 1048575 = (v : Int) % 1048576 := by
    have := and_lowW v 1048576 20 rfl (by omega)
    rw [show (1048575 : Int) = ((1048576 : Nat) : Int) - 1 by omega, this]
    omega
  clear h hv
  go_enter Try.func113, Try.ntmps113
  go_wp2_with fail
  refine HC.out.mono ?_
  rintro e w1 ⟨rfl, r1, g1⟩
  have R1 := Lib.hid r1
  have G1 := Lib.hid g1
  clear r1 g1
  go_wp2
  go_quiet (fail)
  go_wp2
  go_ret2
  exact ⟨rfl, R1.out.drewN _, G1.out.os, G1.out.tape, G1.out.output, G1.out.size, G1.out.block⟩

set_option maxHeartbeats 1000000 in
theorem addrP6 (w : World) (g : Nat) (a : Addr) (n c : Nat) (bs : List UInt8) (k : Nat) (y : Ad) (hv : ofA ((bs.drop k).take 16) = y) (h : Rp w g (some a) n c bs k) (hk : k + 16 ≤ n) :
    Calls Try.prog 115 #[.pointer (some ⟨g, 0, none⟩), .int .i64 16] w fun e w' => e = .returned (.agg #[.int .i64 y.k, .int .i64 y.a, .int .i64 y.b, .int .i64 y.c, .int .i64 y.d]) ∧ Rp w' g (some a) n c bs (k + 16) ∧ w.grownBy w' (some g) := by
  have hgl := h.lt
  have HL := Lib.hid (show ((bs.drop k).take 16).length = 16 by have := h.len; simp; omega)
  have HC := Lib.hid (fun o : Obj => takeP (w.alloc o) g a n c bs k 16 (h.below (Joins.below_alloc1 w o)) hk)
  have HV := Lib.hid (show ofA ((bs.drop k).take 16) = y from hv)
  have HO := Lib.hid (show okA ((bs.drop k).take 16) = true by simp [okA, HL.out])
  clear h hv
  go_enter Try.func115, Try.ntmps115
  go_wp2_with fail
  refine Calls.mono (HC.out _) ?_
  rintro e w1 ⟨D, d, rfl, o1, r1, g1⟩
  have q1 := Lib.hid (K.kept g1 (K.new w _) (fun k hk => by cases hk; omega))
  have R1 := Lib.hid r1
  have G1 := Lib.hid (grownBy_trans (only_new (K.refl w _) _) g1)
  have O1 := Lib.hid (RB.of_own o1)
  clear o1 r1 g1
  go_wp2_with fail
  refine Calls.mono (implAddrOf D 16 d ((bs.drop k).take 16) _ O1.out HL.out (by omega)) ?_
  rintro e w2 ⟨rfl, b2⟩
  rw [HV.out, HO.out]
  have q2 := Lib.hid (K.below b2 q1.out)
  have R2 := Lib.hid (R1.out.below b2)
  have G2 := Lib.hid (grownBy_trans G1.out (below_grown b2 (some g)))
  clear b2
  obtain ⟨⟨c0, c1, c2, c3, c4⟩, f0, f1, f2, f3, f4⟩ := K.row5 (K.old q2.out (.cells #[.int .i64 y.k, .int .i64 y.a, .int .i64 y.b, .int .i64 y.c, .int .i64 y.d] 25))
  go_wp2
  (try simp only [Exit.inBlock, Exit.then])
  have GS := K.setFrom_self [.int .i64 y.k, .int .i64 y.a, .int .i64 y.b, .int .i64 y.c, .int .i64 y.d] (w2.alloc (.cells #[.int .i64 y.k, .int .i64 y.a, .int .i64 y.b, .int .i64 y.c, .int .i64 y.d] 25)) w.heap.size 0
  refine bodyPost_ret (v := .agg #[.int .i64 y.k, .int .i64 y.a, .int .i64 y.b, .int .i64 y.c, .int .i64 y.d]) ?_ rfl ⟨rfl, ?_, ?_⟩
  · refine K.resCell Try.results115 _ _ _ w.heap.size _ ?_ (run_loadVar_row _ _ 25 25 _ (0, 0) _ (K.set5 _ _ _ _ _ (K.old q2.out _)) Try.underlying25 rfl info_addr)
    rfl
  · exact (R2.out.below (Joins.below_alloc1 w2 _)).away GS (fun q hq => by cases hq; exact hgl)
  · exact grown_other (only_new G2.out _) GS (fun u hu => by cases hu; exact Nat.le_refl _)

theorem num_lt1W (bs : List UInt8) (k : Nat) : num bs k 1 < 256 := by
  have h1 := be_lt ((bs.drop k).take 1)
  have h2 : 256 ^ ((bs.drop k).take 1).length ≤ 256 ^ 1 := Nat.pow_le_pow_right (by omega) (List.length_take_le _ _)
  unfold num
  omega
/-- What reading one extension header leaves: nothing, or its body, what follows it and the reader behind it. -/
def XOut (w : World) (g : Nat) (a : Addr) (n c : Nat) (bs : List UInt8) (k kind : Nat) (e : Ending) (w' : World) : Prop :=
  w.grownBy w' (some g) ∧ (((n < k + 2 ∨ 7 < num bs (k + 1) 1 ∨ n < k + 8 * num bs (k + 1) 1 + 8) ∧ e = .returned (.tuple #[.agg #[.int .i64 0, .slice none 0 0], .int .i64 0, .bool false])) ∨
    (k + 2 ≤ n ∧ num bs (k + 1) 1 ≤ 7 ∧ k + 8 * num bs (k + 1) 1 + 8 ≤ n ∧ ∃ D d, e = .returned (.tuple #[.agg #[.int .i64 (kind : Int), .slice D (8 * num bs (k + 1) 1 + 6) d], .int .i64 (num bs k 1 : Nat), .bool true]) ∧
      w'.ownsRow w.heap.size 5 1 (.slice D (8 * num bs (k + 1) 1 + 6) d) (8 * num bs (k + 1) 1 + 6) (cellsOf ((bs.drop (k + 2)).take (8 * num bs (k + 1) 1 + 6))) ∧ Rp w' g (some a) n c bs (k + 8 * num bs (k + 1) 1 + 8)))

theorem K.resCell3W {fn : Func} {p u v : Tmp} {ty : TypeId} (h : fn.results = #[.cell p ty, .tmp u, .tmp v]) (tmps : Array Value) (P : Program) (w : World) (g : Nat) (cs : Array Value)
    (hp : tmps.getD p undef = .pointer (some ⟨g, 0, none⟩)) (hld : (loadVar ty ⟨g, 0, none⟩).run P w = .ok (.agg cs) w) :
    (results fn tmps).run P w = .ok (.tuple #[.agg cs, tmps.getD u undef, tmps.getD v undef]) w := by
  have hp' : tmps[p]?.getD undef = .pointer (some ⟨g, 0, none⟩) := by simpa using hp
  simp [results, h, hp', asAddr, hld]
theorem resX3 {fn : Func} {p u v : Tmp} (h : fn.results = #[.cell p 74, .tmp u, .tmp v]) (tmps : Array Value) (w : World) (g : Nat) {v0 v1 : Value} {t : TypeId} (hp : tmps.getD p undef = .pointer (some ⟨g, 0, none⟩)) (hg : w.heap[g]? = some (.cells #[v0, v1] t (0, 0))) :
    (results fn tmps).run Try.prog w = .ok (.tuple #[.agg #[v0, v1], tmps.getD u undef, tmps.getD v undef]) w :=
  K.resCell3W h tmps Try.prog w g _ hp (run_loadVar_row w g t 74 _ (0, 0) _ hg Try.underlying74 rfl info_extn)

set_option maxHeartbeats 1000000 in
theorem extOf_short (w : World) (g : Nat) (a : Addr) (n c : Nat) (bs : List UInt8) (k kind : Nat) (h : Rp w g (some a) n c bs k) (hk : k ≤ n) (hs : n < k + 2) : Calls Try.prog 136 #[.pointer (some ⟨g, 0, none⟩), .int .i64 (kind : Int)] w (XOut w g a n c bs k kind) := by
  obtain ⟨l, hl⟩ : ∃ l, k + l = n := ⟨n - k, by omega⟩
  have hl2 : l < 2 := by omega
  have HC := Lib.hid (fun o => leftP (w.alloc o) g (some a) n c bs k l (h.below (Joins.below_alloc1 w o)) hl)
  have hgl := h.lt
  have HS := Lib.hid hs
  have q0 := Lib.hid (K.new w (.cells #[.int .i64 0, .slice none 0 0] 74))
  clear h hl hs hk
  go_enter Try.func136, Try.ntmps136
  go_wp2_with fail
  refine Calls.mono (HC.out _) ?_
  rintro e w1 ⟨rfl, b1⟩
  have q1 := K.below b1 q0.out
  have Q1 := Lib.hid q1
  obtain ⟨⟨c0, c1⟩, f0, f1⟩ := K.row2 q1
  have B1 := Lib.hid (bthen (Joins.below_alloc1 w _) b1)
  clear b1 q1
  go_wp2
  (try simp only [Exit.inBlock, Exit.then])
  refine bodyPost_ret (v := .tuple #[.agg #[.int .i64 0, .slice none 0 0], .int .i64 0, .bool false]) ?_ rfl ⟨grown_other (below_grown B1.out (some g)) (K.setFrom_self [.int .i64 0, .slice none 0 0] w1 w.heap.size 0) (fun u hu => by cases hu; exact Nat.le_refl _), .inl ⟨.inl HS.out, rfl⟩⟩
  exact resX3 Try.results136 _ _ w.heap.size rfl (K.set (K.set Q1.out 0 _) 1 _)

set_option maxHeartbeats 1000000 in
theorem extOf_bad (w : World) (g : Nat) (a : Addr) (n c : Nat) (bs : List UInt8) (k kind : Nat) (h : Rp w g (some a) n c bs k) (hs : k + 2 ≤ n) (hb : 7 < num bs (k + 1) 1 ∨ n < k + 8 * num bs (k + 1) 1 + 8) : Calls Try.prog 136 #[.pointer (some ⟨g, 0, none⟩), .int .i64 (kind : Int)] w (XOut w g a n c bs k kind) := by
  obtain ⟨l, hl⟩ : ∃ l, k + l = n := ⟨n - k, by omega⟩
  obtain ⟨l2, hl2⟩ : ∃ l, (k + 1 + 1) + l = n := ⟨n - (k + 2), by omega⟩
  obtain ⟨b, hbn⟩ : ∃ b, num bs (k + 1) 1 = b := ⟨_, rfl⟩
  have hbl := num_lt1W bs (k + 1)
  rw [hbn] at hbl
  have hmin : ¬ ((8 : Int) * (b + 1) - 2 ≤ (if (l2 : Int) ≤ 62 then (l2 : Int) else 62)) := by rw [hbn] at hb; split <;> omega
  have hl62 : l2 ≤ 1048576 := by have := h.small; omega
  have HC := Lib.hid (fun o => leftP (w.alloc o) g (some a) n c bs k l (h.below (Joins.below_alloc1 w o)) hl)
  have h2 : 2 ≤ l := by omega
  have hl3 : l ≤ 1048576 := by have := h.small; omega
  have hgl := h.lt
  have HB := Lib.hid hb
  have HL := Lib.hid (And.intro hs (And.intro hl2 hbn))
  have H0 := Lib.hid (fun o => h.below (Joins.below_alloc1 w o))
  have q0 := Lib.hid (K.new w (.cells #[.int .i64 0, .slice none 0 0] 74))
  clear h hl hs hb hbn hl2
  go_enter Try.func136, Try.ntmps136
  go_wp2_with fail
  refine Calls.mono (HC.out _) ?_
  rintro e w1 ⟨rfl, b1⟩
  have Q1 := Lib.hid (K.below b1 q0.out)
  have R1 := Lib.hid ((H0.out _).below b1)
  have G1 := Lib.hid (below_grown (bthen (Joins.below_alloc1 w (.cells #[.int .i64 0, .slice none 0 0] 74)) b1) (some g))
  clear b1
  go_wp2_with fail
  refine Calls.mono (numberP _ g (some a) n c bs k 1 _ rfl R1.out (by omega) (by omega) (by have := HL.out.1; omega)) ?_
  rintro e w2 ⟨rfl, r2, g2⟩
  have Q2 := Lib.hid (K.kept g2 Q1.out (fun q hq => by cases hq; omega))
  have R2 := Lib.hid r2
  have G2 := Lib.hid (grownBy_trans G1.out g2)
  clear r2 g2
  go_wp2_with fail
  refine Calls.mono (numberP _ g (some a) n c bs (k + 1) 1 b HL.out.2.2 R2.out (by omega) (by omega) (by have := HL.out.1; omega)) ?_
  rintro e w3 ⟨rfl, r3, g3⟩
  have Q3 := Lib.hid (K.kept g3 Q2.out (fun q hq => by cases hq; omega))
  have R3 := Lib.hid r3
  have G3 := Lib.hid (grownBy_trans G2.out g3)
  clear r3 g3
  go_wp2_with fail
  refine Calls.mono (leftP _ g (some a) n c bs (k + 1 + 1) l2 R3.out HL.out.2.1) ?_
  rintro e w4 ⟨rfl, b4⟩
  have q4 := K.below b4 Q3.out
  have Q4 := Lib.hid q4
  obtain ⟨⟨c0, c1⟩, f0, f1⟩ := K.row2 q4
  have G4 := Lib.hid (grownBy_trans G3.out (below_grown b4 (some g)))
  clear b4 q4
  go_wp2
  all_goals
    (try simp only [Exit.inBlock, Exit.then])
    refine bodyPost_ret (v := .tuple #[.agg #[.int .i64 0, .slice none 0 0], .int .i64 0, .bool false]) ?_ rfl ⟨grown_other G4.out (K.setFrom_self [.int .i64 0, .slice none 0 0] w4 w.heap.size 0) (fun u hu => by cases hu; exact Nat.le_refl _), .inl ⟨.inr HB.out, rfl⟩⟩
    exact resX3 Try.results136 _ _ w.heap.size rfl (K.set (K.set Q4.out 0 _) 1 _)
set_option maxHeartbeats 1000000 in
theorem extOf_good (w : World) (g : Nat) (a : Addr) (n c : Nat) (bs : List UInt8) (k kind : Nat) (h : Rp w g (some a) n c bs k) (hs : k + 2 ≤ n) (hb : num bs (k + 1) 1 ≤ 7 ∧ k + 8 * num bs (k + 1) 1 + 8 ≤ n) : Calls Try.prog 136 #[.pointer (some ⟨g, 0, none⟩), .int .i64 (kind : Int)] w (XOut w g a n c bs k kind) := by
  obtain ⟨l, hl⟩ : ∃ l, k + l = n := ⟨n - k, by omega⟩
  obtain ⟨l2, hl2⟩ : ∃ l, (k + 1 + 1) + l = n := ⟨n - (k + 2), by omega⟩
  obtain ⟨b, hbn⟩ : ∃ b, num bs (k + 1) 1 = b := ⟨_, rfl⟩
  have hbl := num_lt1W bs (k + 1)
  rw [hbn] at hbl
  have hmin : (8 : Int) * (b + 1) - 2 ≤ l2 ∧ (8 : Int) * (b + 1) - 2 ≤ 62 := by rw [hbn] at hb; omega
  obtain ⟨z, hz⟩ : ∃ z : Nat, (8 : Int) * (b + 1) - 2 = z := ⟨8 * b + 6, by omega⟩
  have HZ := Lib.hid (show 8 * num bs (k + 1) 1 + 6 = z ∧ k + 8 * num bs (k + 1) 1 + 8 = k + 1 + 1 + z by omega)
  have hz1 := hmin.1
  have hz2 := hmin.2
  rw [hz] at hz1 hz2
  clear hmin
  have hl62 : l2 ≤ 1048576 := by have := h.small; omega
  have HC := Lib.hid (fun o => leftP (w.alloc o) g (some a) n c bs k l (h.below (Joins.below_alloc1 w o)) hl)
  have h2 : 2 ≤ l := by omega
  have hl3 : l ≤ 1048576 := by have := h.small; omega
  have hgl := h.lt
  have HB := Lib.hid hb
  have HL := Lib.hid (And.intro hs (And.intro hl2 hbn))
  have H0 := Lib.hid (fun o => h.below (Joins.below_alloc1 w o))
  have q0 := Lib.hid (K.new w (.cells #[.int .i64 0, .slice none 0 0] 74))
  clear h hl hs hb hbn hl2
  go_enter Try.func136, Try.ntmps136
  go_wp2_with fail
  refine Calls.mono (HC.out _) ?_
  rintro e w1 ⟨rfl, b1⟩
  have Q1 := Lib.hid (K.below b1 q0.out)
  have R1 := Lib.hid ((H0.out _).below b1)
  have G1 := Lib.hid (below_grown (bthen (Joins.below_alloc1 w (.cells #[.int .i64 0, .slice none 0 0] 74)) b1) (some g))
  clear b1
  go_wp2_with fail
  refine Calls.mono (numberP _ g (some a) n c bs k 1 _ rfl R1.out (by omega) (by omega) (by have := HL.out.1; omega)) ?_
  rintro e w2 ⟨rfl, r2, g2⟩
  have Q2 := Lib.hid (K.kept g2 Q1.out (fun q hq => by cases hq; omega))
  have R2 := Lib.hid r2
  have G2 := Lib.hid (grownBy_trans G1.out g2)
  clear r2 g2
  go_wp2_with fail
  refine Calls.mono (numberP _ g (some a) n c bs (k + 1) 1 b HL.out.2.2 R2.out (by omega) (by omega) (by have := HL.out.1; omega)) ?_
  rintro e w3 ⟨rfl, r3, g3⟩
  have Q3 := Lib.hid (K.kept g3 Q2.out (fun q hq => by cases hq; omega))
  have R3 := Lib.hid r3
  have G3 := Lib.hid (grownBy_trans G2.out g3)
  clear r3 g3
  go_wp2_with fail
  refine Calls.mono (leftP _ g (some a) n c bs (k + 1 + 1) l2 R3.out HL.out.2.1) ?_
  rintro e w4 ⟨rfl, b4⟩
  have Q4 := Lib.hid (K.below b4 Q3.out)
  have R4 := Lib.hid (R3.out.below b4)
  have G4 := Lib.hid (grownBy_trans G3.out (below_grown b4 (some g)))
  clear b4
  go_wp2_with fail
  all_goals
    refine Calls.mono (takeP _ g a n c bs (k + 1 + 1) z R4.out (by have := HL.out.2.1; omega)) ?_
    rintro e w5 ⟨D, d, rfl, o5, r5, g5⟩
    have q5 := K.kept g5 Q4.out (fun q hq => by cases hq; omega)
    have Q5 := Lib.hid q5
    obtain ⟨⟨c0, c1⟩, f0, f1⟩ := K.row2 q5
    have R5 := Lib.hid r5
    have G5 := Lib.hid (grownBy_trans G4.out g5)
    have O5 := Lib.hid (own_base o5 (show w.heap.size + 1 ≤ _ from K.lt Q4.out))
    have GS := K.setFrom_self [.int .i64 (kind : Int), .slice D z d] w5 w.heap.size 0
    have HGS := Lib.hid GS
    clear o5 r5 g5 q5 GS
    go_wp2
    (try simp only [Exit.inBlock, Exit.then])
    refine bodyPost_ret (v := .tuple #[.agg #[.int .i64 (kind : Int), .slice D z d], .int .i64 (num bs k 1 : Nat), .bool true]) ?_ rfl ⟨grown_other G5.out HGS.out (fun u hu => by cases hu; exact Nat.le_refl _), .inr ⟨HL.out.1, HB.out.1, HB.out.2, ?_⟩⟩
    · exact resX3 Try.results136 _ _ w.heap.size rfl (K.set (K.set Q5.out 0 _) 1 _)
    · rw [HZ.out.1, HZ.out.2]
      exact ⟨D, d, rfl, own_base (own_grown O5.out HGS.out (fun q hq e => by have := (O5.out.lt q hq).1; cases e; omega)) (by omega), R5.out.away HGS.out (fun q hq => by cases hq; exact hgl)⟩

theorem extOfC (w : World) (g : Nat) (a : Addr) (n c : Nat) (bs : List UInt8) (k kind : Nat) (h : Rp w g (some a) n c bs k) (hk : k ≤ n) : Calls Try.prog 136 #[.pointer (some ⟨g, 0, none⟩), .int .i64 (kind : Int)] w (XOut w g a n c bs k kind) := by
  by_cases h1 : n < k + 2
  · exact extOf_short w g a n c bs k kind h hk h1
  · by_cases h2 : 7 < num bs (k + 1) 1 ∨ n < k + 8 * num bs (k + 1) 1 + 8
    · exact extOf_bad w g a n c bs k kind h (by omega) h2
    · exact extOf_good w g a n c bs k kind h (by omega) (by omega)
end Go.Proofs.Ytkmijefheejcjaa

namespace Go.Proofs.Ytkmijefheejcjaa
set_option maxRecDepth 100000
open Go.RowKit

theorem withinU (n hi : Int) (b : Bool) (w : World) (h : upTo n hi = b) : Calls Try.prog 102 #[.int .i64 n, .int .i64 0, .int .i64 hi] w fun e w' => e = .returned (.bool b) ∧ Below w.heap.size w w' := by
  cases b
  · exact (within_no n 0 hi w (by simp [upTo] at h; omega)).mono fun _ _ ⟨he, hw⟩ => ⟨he, hw ▸ Below.refl _ _⟩
  · simp [upTo] at h
    exact (within_yes n 0 hi w h.1 h.2).mono fun _ _ ⟨he, hw⟩ => ⟨he, hw ▸ Below.refl _ _⟩



set_option maxHeartbeats 400000 in
theorem optC (A : Option Addr) (n c : Nat) (w : World) : Calls Try.prog 158 #[.slice A n c] w fun e w' => e = .returned (.bool (optOk n)) ∧ Below w.heap.size w w' := by
  go_enter Try.func158, Try.ntmps158
  go_wp2
  all_goals (go_ret; exact ⟨ret_bool (by rw [Bool.eq_iff_iff]; simp [optOk]; omega), by go_grown⟩)
theorem optB (A : Option Addr) (n c : Nat) (b : Bool) (w : World) (h : optOk n = b) : Calls Try.prog 158 #[.slice A n c] w fun e w' => e = .returned (.bool b) ∧ Below w.heap.size w w' := h ▸ optC A n c w



set_option maxHeartbeats 400000 in
theorem specIn (n hi : Int) (w : World) : Calls Try.prog 62 #[.int .i64 n, .int .i64 hi] w fun e w' => e = .returned (.bool (upTo n hi)) ∧ w = w' := by
  go_enter Try.func62, Try.ntmps62
  go_wp2
  all_goals (go_ret; exact ⟨ret_bool (by simp [upTo]; try omega), rfl⟩)
end Go.Proofs.Ytkmijefheejcjaa

namespace Go.Proofs.Ytkmijefheejcjaa
set_option maxRecDepth 100000
open Go.RowKit

theorem extsSize_eq (ys : List Ey) : extsSize (ys.map Ey.says) = 2 * ys.length + bodies ys := by
  induction ys with
  | nil => rfl
  | cons y ys ih =>
    simp only [extsSize, bodies, List.map_cons, List.sum_cons, List.length_cons] at ih ⊢
    simp only [Ey.says] at ih ⊢
    omega
theorem extsSize_le (ys : List Ey) (k : Nat) : extsSize ((ys.map Ey.says).take k) ≤ 2 * k + bodies ys := by
  rw [← List.map_take, extsSize_eq]
  have := bodies_le ys k
  simp
  omega
theorem inner_iff {k : Int} : inner k = true ↔ k = 0 ∨ k = 43 ∨ k = 60 := by simp [inner]

set_option maxHeartbeats 400000 in
theorem innerS (k : Int) (w : World) : Calls Try.prog 63 #[.int .i64 k] w fun e w' => e = .returned (.bool (inner k)) ∧ w = w' := by
  go_enter Try.func63, Try.ntmps63
  go_wp2
  all_goals (go_ret; exact ⟨ret_bool (by rw [Bool.eq_iff_iff]; simp [inner, *]), rfl⟩)

set_option maxHeartbeats 400000 in
theorem innerI (k : Int) (w : World) : Calls Try.prog 106 #[.int .i64 k] w fun e w' => e = .returned (.bool (inner k)) ∧ w = w' := by
  go_enter Try.func106, Try.ntmps106
  go_wp2
  all_goals (go_ret; exact ⟨ret_bool (by rw [Bool.eq_iff_iff]; simp [inner, *]), rfl⟩)
theorem innerSB (k : Int) (b : Bool) (w : World) (h : inner k = b) : Calls Try.prog 63 #[.int .i64 k] w fun e w' => e = .returned (.bool b) ∧ w = w' := h ▸ innerS k w
theorem innerIB (k : Int) (b : Bool) (w : World) (h : inner k = b) : Calls Try.prog 106 #[.int .i64 k] w fun e w' => e = .returned (.bool b) ∧ Below w.heap.size w w' :=
  (h ▸ innerI k w).mono fun _ _ ⟨he, hw⟩ => ⟨he, hw ▸ Below.refl _ _⟩

set_option maxHeartbeats 400000 in
theorem sixAddrOkC (x : Ad) (w : World) : Calls Try.prog 107 #[.agg #[.int .i64 x.k, .int .i64 x.a, .int .i64 x.b, .int .i64 x.c, .int .i64 x.d]] w fun e w' => e = .returned (.bool (adOk6 x)) ∧ Below w.heap.size w w' := by
  by_cases h : x.k = 6
  · have H := Lib.hid (show adOk6 x = x.ok by simp [adOk6, h])
    obtain ⟨k, a, b, c, d⟩ := x
    simp only at h
    subst h
    go_enter Try.func107, Try.ntmps107
    go_wp2_with (go_at_call 109; refine (implAddrOk ⟨6, a, b, c, d⟩ _).mono ?_; rintro e w' ⟨rfl, b1⟩)
    go_ret
    exact ⟨ret_bool H.out.symm, bthen (Joins.below_alloc1 w _) b1⟩
  · have H := Lib.hid (show adOk6 x = false by simp [adOk6, h])
    go_enter Try.func107, Try.ntmps107
    go_wp2
    go_ret
    exact ⟨ret_bool H.out.symm, by go_grown⟩
theorem adOk6B (x : Ad) (b : Bool) (w : World) (h : adOk6 x = b) : Calls Try.prog 107 #[.agg #[.int .i64 x.k, .int .i64 x.a, .int .i64 x.b, .int .i64 x.c, .int .i64 x.d]] w fun e w' => e = .returned (.bool b) ∧ Below w.heap.size w w' := h ▸ sixAddrOkC x w

set_option maxHeartbeats 400000 in
theorem extSizeC (y : Ey) (w : World) (hn : y.bs.length ≤ 1048576) : Calls Try.prog 61 #[.agg #[.int .i64 y.k, .slice y.A y.bs.length y.c]] w fun e w' => e = .returned (.int .i64 (2 + (y.bs.length : Int))) ∧ Below w.heap.size w w' := by
  go_enter Try.func61, Try.ntmps61
  go_wp2
  go_ret
  exact ⟨rfl, by go_grown⟩

set_option maxHeartbeats 1000000 in
theorem extsSizeI (A : Option Addr) (n c : Nat) (ys : List Ey) (w : World) (hx : XR w w.heap.size A ys) (hl : ys.length = n) (hn : n ≤ 1048576) (hb : bodies ys ≤ 1048576) :
    Calls Try.prog 56 #[.slice A n c] w fun e w' => e = .returned (.int .i64 (extsSize (ys.map Ey.says) : Nat)) ∧ Below w.heap.size w w' := by
  have HX := Lib.hid hx
  have HL := Lib.hid hl
  have HB := Lib.hid hb
  clear hx hl hb
  go_enter Try.func56, Try.ntmps56
  go_wp2
  go_loopw [3, 8] (fun s i wr => ∃ k : Nat, k ≤ n ∧ i = .int .i64 k ∧ (∃ z : Nat, s = .int .i64 z ∧ Hid (z = extsSize ((ys.map Ey.says).take k)) ∧ z ≤ 2 * k + 1048576) ∧ Below w.heap.size w wr) (fun s i _ => n - (intOf i).toNat)
  case atStart => exact ⟨0, Nat.zero_le _, rfl, ⟨0, rfl, Lib.hid rfl, by omega⟩, Below.refl _ _⟩
  case round =>
    obtain ⟨k, hk, rfl, ⟨z, rfl, hz, hz2⟩, hb⟩ := hrel
    by_cases hlt : k < n
    · have hk2 : k < ys.length := by rw [HL.out]; exact hlt
      obtain ⟨g, o, rfl, hg, hc0, hc1⟩ := HX.out.at_ hk2
      have c0 := (hb.cell (p := ⟨g, o + k * 2, none⟩) hg).trans hc0
      have c1 := (hb.cell (p := ⟨g, o + k * 2 + 1, none⟩) hg).trans hc1
      have hlen := Nat.le_trans (bodies_at ys k hk2) HB.out
      have hsum : Hid (extsSize ((ys.map Ey.says).take (k + 1)) = extsSize ((ys.map Ey.says).take k) + (2 + ys[k].bs.length)) := Lib.hid (by rw [extsSize_take (by simpa using hk2)]; simp [Ey.says])
      have hbound : Hid (extsSize ((ys.map Ey.says).take (k + 1)) ≤ 2 * (k + 1) + 1048576) := Lib.hid (by have := extsSize_le ys (k + 1); have := HB.out; omega)
      clear hc0 hc1
      generalize ys[k] = y at *
      have HBB := Lib.hid hb
      have Hg := Lib.hid hg
      clear hb hg
      go_wp2_with fail
      refine (extSizeC y _ hlen).mono ?_
      rintro e w2 ⟨rfl, b2⟩
      have B2 := Lib.hid (bthen HBB.out (bthen (by go_grown) b2))
      clear b2
      go_wp2
      go_roundw
      case rel => exact ⟨k + 1, by omega, by go_num, ⟨z + (2 + y.bs.length), by go_num, Lib.hid (by rw [hsum.out, ← hz.out]), by rw [hz.out, ← hsum.out]; exact hbound.out⟩, B2.out⟩
      case measure => simp [intOf]; omega
    · obtain rfl : k = n := by omega
      have H := Lib.hid (show z = extsSize (ys.map Ey.says) by rw [hz.out, List.take_of_length_le (by simp [HL.out])])
      clear hz
      go_wp2
      go_ret
      exact ⟨ret_int (by rw [H.out]), hb⟩
end Go.Proofs.Ytkmijefheejcjaa

namespace Go.Proofs.Ytkmijefheejcjaa
set_option maxRecDepth 100000
open Go.RowKit

/-- A row of extension headers that grew by one at its end. -/
theorem XO.snoc {w w' : World} {base : Nat} {A : Option Addr} {n c : Nat} {ys : List Ey} {y : Ey} {A2 : Option Addr} {c2 : Nat} (h : XO w base A n c ys) (hg : w.grownBy w' (Value.slice A n c).ownBlock)
    (hr : w'.ownsRow base 74 2 (.slice A2 (n + 1) c2) (n + 1) (xcells (ys ++ [y]))) (hb : (Value.slice A2 (n + 1) c2).ownBlock = (Value.slice A n c).ownBlock ∨ (Value.slice A2 (n + 1) c2).ownBlock = some w.heap.size)
    (hy : w.ownsRow base 5 1 y.body y.bs.length (cellsOf y.bs)) (hap : ∀ z ∈ ys, ∀ k, z.body.ownBlock = some k → y.body.ownBlock ≠ some k) (hoff : ∀ k, y.body.ownBlock = some k → (Value.slice A n c).ownBlock ≠ some k) : XO w' base A2 (n + 1) c2 (ys ++ [y]) := by
  refine ⟨by simp [h.len], hr, fun z hz => ?_, ?_, fun z hz k hk => ?_⟩
  · rcases List.mem_append.1 hz with hz | hz
    · exact own_grown (h.own z hz) hg (fun k hk e => h.off z hz k hk e)
    · simp only [List.mem_singleton] at hz
      subst hz
      exact own_grown hy hg (fun k hk e => hoff k hk e)
  · rw [List.pairwise_append]
    refine ⟨h.apart, by simp, fun a ha b hb k hk => ?_⟩
    simp only [List.mem_singleton] at hb
    subst hb
    exact hap a ha k hk
  · have hlt : k < w.heap.size ∧ (Value.slice A n c).ownBlock ≠ some k := by
      rcases List.mem_append.1 hz with hz | hz
      · exact ⟨((h.own z hz).lt k hk).2, h.off z hz k hk⟩
      · simp only [List.mem_singleton] at hz
        subst hz
        exact ⟨(hy.lt k hk).2, hoff k hk⟩
    rcases hb with hb | hb
    · rw [hb]; exact hlt.2
    · rw [hb]
      intro e
      have := Option.some.inj e
      omega
theorem RV.new2 (w : World) (o : Obj) (e : TypeId) (vs : List Value) : RV ((w.alloc o).alloc (.cells vs.toArray e)) (w.heap.size + 1 + 1) (some ⟨w.heap.size + 1, 0, none⟩) vs := by
  have h := RV.new (w.alloc o) e vs
  rwa [show (w.alloc o).heap.size = w.heap.size + 1 by simp] at h
theorem own_slice {w : World} {base : Nat} {e : TypeId} {size n : Nat} {v : Value} {xs : List Value} (h : w.ownsRow base e size v n xs) (hn : 0 < n) : ∃ A c, v = .slice A n c := by
  rcases h.2 with ⟨h1, h2⟩ | ⟨g, cap, cur, hv, hb, _⟩
  · omega
  · exact ⟨_, _, hv⟩
theorem XO.kept {w w' : World} {base g : Nat} {A : Option Addr} {n c : Nat} {ys : List Ey} (h : XO w base A n c ys) (hg : w.grownBy w' (some g)) (hb : g < base) : XO w' base A n c ys :=
  ⟨h.len, own_grown h.row hg (fun k hk e => by have := (h.row.lt k hk).1; cases e; omega), fun z hz => own_grown (h.own z hz) hg (fun k hk e => by have := ((h.own z hz).lt k hk).1; cases e; omega), h.apart, h.off⟩
/-- One more extension header, read and appended. -/
theorem XO.next {w wr w1 w2 w3 : World} {g : Nat} {A : Option Addr} {q d : Nat} {ys : List Ey} {y : Ey} {A2 : Option Addr} {c2 : Nat} (h : XO wr w.heap.size A q d ys) (hgl : g < w.heap.size) (hw : w.heap.size ≤ wr.heap.size) (g1 : wr.grownBy w1 (some g))
    (hy : w1.ownsRow wr.heap.size 5 1 y.body y.bs.length (cellsOf y.bs)) (hb : Below w1.heap.size w1 w2) (hr : w3.ownsRow w.heap.size 74 2 (.slice A2 (q + 1) c2) (q + 1) (xcells (ys ++ [y]))) (hg : w2.grownBy w3 (Value.slice A q d).ownBlock)
    (hat : (Value.slice A2 (q + 1) c2).ownBlock = (Value.slice A q d).ownBlock ∨ (Value.slice A2 (q + 1) c2).ownBlock = some w2.heap.size) : XO w3 w.heap.size A2 (q + 1) c2 (ys ++ [y]) := by
  refine XO.snoc ((h.kept g1 hgl).below hb) hg hr hat (own_below (own_base hy hw) hb) (fun z hz k hk e => ?_) (fun k hk e => ?_)
  · have h1 := ((h.own z hz).lt k hk).2
    have h2 := (hy.lt k e).1
    omega
  · have h1 := (h.row.lt k e).2
    have h2 := (hy.lt k hk).1
    omega
theorem XOut.shown {w w' : World} {g : Nat} {a : Addr} {n c : Nat} {bs : List UInt8} {k kind : Nat} {e : Ending} (hl : bs.length = n) (h : XOut w g a n c bs k kind e w') : w.grownBy w' (some g) ∧ (((n < k + 2 ∨ 7 < num bs (k + 1) 1 ∨ n < k + 8 * num bs (k + 1) 1 + 8) ∧ e = .returned (.tuple #[.agg #[.int .i64 0, .slice none 0 0], .int .i64 0, .bool false])) ∨
    (k + 2 ≤ n ∧ num bs (k + 1) 1 ≤ 7 ∧ k + 8 * num bs (k + 1) 1 + 8 ≤ n ∧ ∃ y : Ey, y.says = ((kind : Int), (bs.drop (k + 2)).take (8 * num bs (k + 1) 1 + 6)) ∧ e = .returned (.tuple #[.agg #[.int .i64 y.k, .slice y.A y.bs.length y.c], .int .i64 (num bs k 1 : Nat), .bool true]) ∧
      w'.ownsRow w.heap.size 5 1 y.body y.bs.length (cellsOf y.bs) ∧ Rp w' g (some a) n c bs (k + 8 * num bs (k + 1) 1 + 8))) := by
  obtain ⟨hg, hno | ⟨h1, h2, h3, D, d, he, ho, hr⟩⟩ := h
  · exact ⟨hg, .inl hno⟩
  · have hz : ((bs.drop (k + 2)).take (8 * num bs (k + 1) 1 + 6)).length = 8 * num bs (k + 1) 1 + 6 := by simp; omega
    refine ⟨hg, .inr ⟨h1, h2, h3, ⟨kind, (bs.drop (k + 2)).take (8 * num bs (k + 1) 1 + 6), D, d⟩, rfl, ?_, ?_, hr⟩⟩
    · simp only [hz]; exact he
    · simp only [Ey.body, hz]; exact ho
theorem xcells_snoc (ys : List Ey) (y : Ey) : xcells (ys ++ [y]) = xcells ys ++ [.int .i64 y.k, .slice y.A y.bs.length y.c] := by rw [xcells_append]; rfl

/-- 'append' of one extension header onto a row of the call's own. -/
theorem wpList_append_x {w : World} {ops : Array Oper} {rest : List Oper} {o : Oper} {a : Act} {Q : Exit → Act → World → Prop} (hgd : o.guard = none) (s x : Operand)
    (ho : o.op = .call { callee := .builtin .append, args := #[s, x], argTypes := #[26, 26] }) (base : Nat) (v : Value) (n : Nat) (ys : List Ey) (hs : a.eval s = v) (hown : w.ownsRow base 74 2 v n (xcells ys))
    (B : Nat) (A : Option Addr) (c : Nat) (y : Ey) (hx : a.eval x = .slice A 1 c) (hr : RV w B A [.int .i64 y.k, .slice y.A y.bs.length y.c]) (hn : n ≤ 1048576) (hbase : base ≤ w.heap.size)
    (h : ∀ A2 c2 w', w'.ownsRow base 74 2 (.slice A2 (n + 1) c2) (n + 1) (xcells (ys ++ [y])) → w.grownBy w' v.ownBlock → ((Value.slice A2 (n + 1) c2).ownBlock = v.ownBlock ∨ (Value.slice A2 (n + 1) c2).ownBlock = some w.heap.size) → wpList Try.prog ops Q rest (a.put o.dst (.slice A2 (n + 1) c2)) w') :
    wpList Try.prog ops Q (o :: rest) a w := by
  obtain ⟨i0, hi0, hz0, hz1, hz2⟩ := info_parts info_ext
  refine wpList_plain hgd fun K hK => ?_
  obtain ⟨v', w', hrun, h2, h3, h4⟩ := run_append_v w 26 o.type 74 i0 (.agg #[.int .i64 0, .slice none 0 0]) 2 32 Try.underlying26 hi0 hz0 hz1 hz2 rfl (by omega) base v n _ hown B A 1 c _ rfl hr (by intro u hu; simp only [List.mem_cons, List.not_mem_nil, or_false] at hu; rcases hu with rfl | rfl <;> rfl) (by unfold maxLen; omega) (by omega) hbase
  unfold Oper.wp execOp
  simp only [ho, resolve, invoke, builtin, Sem.run_bind, Sem.run_pure, Result.andThen_ok, List.map_toArray, List.map_cons, List.map_nil, hs, hx, hrun]
  obtain ⟨A2, c2, rfl⟩ := own_slice h2 (by omega)
  exact hK _ _ (h A2 c2 w' (by rw [xcells_snoc]; exact h2) h3 h4)

/-- What reading the extension headers leaves. -/
def XSOut (w : World) (g : Nat) (a : Addr) (n c : Nat) (bs : List UInt8) (R : Option (List (Int × List UInt8) × Nat × Nat)) (e : Ending) (w' : World) : Prop :=
  w.grownBy w' (some g) ∧ ((R = none ∧ e = .returned (.tuple #[.slice none 0 0, .int .i64 0, .bool false])) ∨
    ∃ (acc : List (Int × List UInt8)) (kind k : Nat) (A : Option Addr) (d : Nat) (ys : List Ey), R = some (acc, kind, k) ∧ k ≤ n ∧ e = .returned (.tuple #[.slice A acc.length d, .int .i64 (kind : Int), .bool true]) ∧ XO w' w.heap.size A acc.length d ys ∧ ys.map Ey.says = acc ∧ Rp w' g (some a) n c bs k)
theorem ret_three {a b c a' b' c' : Value} (h1 : a = a') (h2 : b = b') (h3 : c = c') : Ending.returned (.tuple #[a, b, c]) = .returned (.tuple #[a', b', c']) := by rw [h1, h2, h3]

set_option maxHeartbeats 4000000 in
theorem extsOfC (w : World) (g : Nat) (a : Addr) (n c : Nat) (bs : List UInt8) (k0 kind0 : Nat) (h : Rp w g (some a) n c bs k0) (hk : k0 ≤ n) : Calls Try.prog 116 #[.pointer (some ⟨g, 0, none⟩), .int .i64 (kind0 : Int)] w (XSOut w g a n c bs (walkX bs n 4 k0 kind0 [])) := by
  obtain ⟨R, hR⟩ : ∃ R, walkX bs n 4 k0 kind0 [] = R := ⟨_, rfl⟩
  rw [hR]
  have HR := Lib.hid hR
  have H0 := Lib.hid h
  have hgl := h.lt
  clear h hR
  go_enter Try.func116, Try.ntmps116
  go_wp2; go_step3; go_wp2; go_step3; go_wp2
  go_loopw [1, 7] (fun kd ex wr => ∃ (kind k q : Nat) (A : Option Addr) (d : Nat) (ys : List Ey), kd = .int .i64 (kind : Int) ∧ ex = .slice A q d ∧ q ≤ 3 ∧ k ≤ n ∧ Hid (XO wr w.heap.size A q d ys) ∧ Hid (walkX bs n (4 - q) k kind (ys.map Ey.says) = R) ∧ Hid (Rp wr g (some a) n c bs k) ∧ Hid (w.grownBy wr (some g))) (fun _ ex _ => 4 - (match ex with | .slice _ q _ => q | _ => 0))
  case atStart => exact ⟨kind0, k0, 0, none, 0, [], rfl, rfl, by omega, hk, Lib.hid ⟨rfl, ⟨rfl, .inl ⟨rfl, rfl⟩⟩, by simp, by simp, by simp⟩, HR, H0, Lib.hid (K.refl _ _)⟩
  case round =>
    obtain ⟨kind, k, q, A, d, ys, rfl, rfl, hq, hkn, XQ, WQ, RQ, GQ⟩ := hrel
    have HQL := Lib.hid (show (ys.map Ey.says).length = q by rw [List.length_map]; exact XQ.out.len)
    cases hi : inner (kind : Int) with
    | false =>
      have HI := Lib.hid hi
      have hn0 : ¬ (kind : Int) = 0 := fun e => by simp [inner, e] at hi
      have hn43 : ¬ (kind : Int) = 43 := fun e => by simp [inner, e] at hi
      have hn60 : ¬ (kind : Int) = 60 := fun e => by simp [inner, e] at hi
      clear hi
      go_wp2
      go_ret3
      refine ⟨GQ.out, .inr ⟨ys.map Ey.says, kind, k, A, d, ys, ?_, hkn, ?_, ?_, rfl, RQ.out⟩⟩
      · rw [← WQ.out, show 4 - q = (3 - q) + 1 by omega, walkX_end HI.out]
      · rw [HQL.out]; rfl
      · rw [HQL.out]; exact XQ.out
    | true =>
      have HI := Lib.hid hi
      clear hi
      by_cases hbad : q = 3 ∨ (kind = 0 ∧ 0 < q)
      · have HN := Lib.hid (show R = none by rw [← WQ.out, show 4 - q = (3 - q) + 1 by omega]; exact walkX_no HI.out (by rw [HQL.out]; simp only [noExt, Bool.or_eq_true, Bool.and_eq_true, decide_eq_true_eq]; omega))
        have hk3 : kind = 0 ∨ kind = 43 ∨ kind = 60 := by have := inner_iff.1 HI.out; omega
        rcases hk3 with rfl | rfl | rfl
        · have hq0 : 0 < q := by omega
          go_wp2
          go_ret3
          exact ⟨GQ.out, .inl ⟨HN.out, rfl⟩⟩
        · obtain rfl : q = 3 := by omega
          go_wp2
          go_ret3
          exact ⟨GQ.out, .inl ⟨HN.out, rfl⟩⟩
        · obtain rfl : q = 3 := by omega
          go_wp2
          go_ret3
          exact ⟨GQ.out, .inl ⟨HN.out, rfl⟩⟩
      · have hq3 : q < 3 := by omega
        have hk3 : kind = 0 ∧ q = 0 ∨ kind = 43 ∨ kind = 60 := by have := inner_iff.1 HI.out; omega
        have EX := Lib.hid ((extOfC wr g a n c bs k kind RQ.out hkn).mono fun e w' he => XOut.shown RQ.out.len he)
        have hsz := GQ.out.size
        have HW := Lib.hid (fun (hne : noExt bs n q k kind = true) => show R = none by rw [← WQ.out, show 4 - q = (3 - q) + 1 by omega]; exact walkX_no HI.out (by rw [HQL.out]; exact hne))
        have HG := Lib.hid (fun (hne : noExt bs n q k kind = false) => show walkX bs n (4 - (q + 1)) (k + 8 * num bs (k + 1) 1 + 8) (num bs k 1) (ys.map Ey.says ++ [((kind : Int), (bs.drop (k + 2)).take (8 * num bs (k + 1) 1 + 6))]) = R by rw [← WQ.out, show 4 - q = (4 - (q + 1)) + 1 by omega]; exact (walkX_go HI.out (by rw [HQL.out]; exact hne)).symm)
        have HL3 := Lib.hid (And.intro hgl hsz)
        clear hbad hsz
        rcases hk3 with ⟨rfl, rfl⟩ | rfl | rfl
        all_goals
          go_wp2_with fail
          refine Calls.mono EX.out ?_
          rintro e w1 ⟨g1, ⟨hno, rfl⟩ | ⟨h1, h2, h3, y, hy, rfl, o1, r1⟩⟩
          · have GN := Lib.hid (grownBy_trans GQ.out g1)
            have HN := Lib.hid (HW.out (by simp only [noExt, Bool.or_eq_true, Bool.and_eq_true, decide_eq_true_eq]; omega))
            clear g1 hno
            go_wp2
            go_ret3
            exact ⟨only_new GN.out _, .inl ⟨HN.out, rfl⟩⟩
          · have HE := Lib.hid (HG.out (noExt_iff.2 (by omega)))
            have HY := Lib.hid hy
            have G1 := Lib.hid g1
            have O1 := Lib.hid o1
            have R1 := Lib.hid r1
            have H3 := Lib.hid h3
            clear h1 h2 h3 hy g1 o1 r1
            go_wp2_with (at_builtin; (refine wpList_append_x rfl (.tmp 32) (.tmp 34) rfl w.heap.size _ _ ys rfl (((XQ.out.kept G1.out HL3.out.1).below (Joins.below_alloc1 w1 _)).below (Joins.below_alloc1 _ _)).row _ (some ⟨w1.heap.size + 1, 0, none⟩) 1 y rfl (RV.new2 w1 _ 74 [.int .i64 y.k, .slice y.A y.bs.length y.c]) (by omega) (by have := HL3.out; have := G1.out.size; simp; omega) ?_); intro A2 c2 w3 o3 g3 at3)
            have X3 := Lib.hid (XQ.out.next HL3.out.1 HL3.out.2 G1.out O1.out (bthen (Joins.below_alloc1 w1 _) (Joins.below_alloc1 _ _)) o3 g3 at3)
            have R3 := Lib.hid (((R1.out.below (Joins.below_alloc1 w1 _)).below (Joins.below_alloc1 _ _)).away g3 (fun u hu => by have := (XQ.out.row.lt u hu).1; have := HL3.out.1; omega))
            have G3 := Lib.hid (grown_other (only_new (only_new (grownBy_trans GQ.out G1.out) _) _) g3 (fun u hu => (XQ.out.row.lt u hu).1))
            clear o3 g3 at3
            go_wp2
            go_roundw
            case rel => exact ⟨num bs k 1, k + 8 * num bs (k + 1) 1 + 8, _, A2, c2, ys ++ [y], rfl, rfl, by omega, H3.out, X3, Lib.hid (by rw [List.map_append, List.map_cons, List.map_nil, HY.out]; exact HE.out), R3, G3⟩
            case measure => first | (simp; done) | (simp; omega)
end Go.Proofs.Ytkmijefheejcjaa

namespace Go.Proofs.Ytkmijefheejcjaa
set_option maxRecDepth 100000
open Go.RowKit





end Go.Proofs.Ytkmijefheejcjaa
