/-
  An IPv6 packet is read by the program: what sixOf answers.
-/
import Derived.Test.YtkmijefheejcjaaKq11
namespace Go.Proofs.Ytkmijefheejcjaa
set_option maxRecDepth 100000
open Go.RowKit

/-- What sixOf leaves. -/
def SOut (w : World) (g n : Nat) (bs : List UInt8) (cl lb hp : Int) (y1 y2 : Ad) (R : Option (List (Int × List UInt8) × Nat × Nat)) (e : Ending) (w' : World) : Prop :=
  w.grownBy w' (some g) ∧ ((R = none ∧ e = .returned (.tuple #[.agg #[.int .i64 0, .int .i64 0, .int .i64 0, .int .i64 0, .int .i64 0, .int .i64 0, .int .i64 0, .int .i64 0, .int .i64 0, .int .i64 0, .int .i64 0, .int .i64 0, .int .i64 0, .int .i64 0, .slice none 0 0, .slice none 0 0], .bool false])) ∨
    ∃ (acc : List (Int × List UInt8)) (kind k l : Nat) (A : Option Addr) (d : Nat) (ys : List Ey) (D : Option Addr) (d1 : Nat), R = some (acc, kind, k) ∧ k + l = n ∧ e = .returned (.tuple #[.agg #[.int .i64 (⟨cl, lb, hp, kind, y1, y2⟩ : Sh).cls, .int .i64 (⟨cl, lb, hp, kind, y1, y2⟩ : Sh).label, .int .i64 (⟨cl, lb, hp, kind, y1, y2⟩ : Sh).hops, .int .i64 (⟨cl, lb, hp, kind, y1, y2⟩ : Sh).proto, .int .i64 (⟨cl, lb, hp, kind, y1, y2⟩ : Sh).src.k, .int .i64 (⟨cl, lb, hp, kind, y1, y2⟩ : Sh).src.a, .int .i64 (⟨cl, lb, hp, kind, y1, y2⟩ : Sh).src.b, .int .i64 (⟨cl, lb, hp, kind, y1, y2⟩ : Sh).src.c, .int .i64 (⟨cl, lb, hp, kind, y1, y2⟩ : Sh).src.d, .int .i64 (⟨cl, lb, hp, kind, y1, y2⟩ : Sh).dst.k, .int .i64 (⟨cl, lb, hp, kind, y1, y2⟩ : Sh).dst.a, .int .i64 (⟨cl, lb, hp, kind, y1, y2⟩ : Sh).dst.b, .int .i64 (⟨cl, lb, hp, kind, y1, y2⟩ : Sh).dst.c, .int .i64 (⟨cl, lb, hp, kind, y1, y2⟩ : Sh).dst.d, .slice A acc.length d, .slice D l d1], .bool true]) ∧ XO w' (w.heap.size + 2) A acc.length d ys ∧ ys.map Ey.says = acc ∧
      w'.ownsRow (w.heap.size + 2) 5 1 (.slice D l d1) l (cellsOf ((bs.drop k).take l)) ∧ (∀ k, (Value.slice D l d1).ownBlock = some k → (Value.slice A acc.length d).ownBlock ≠ some k ∧ ∀ z ∈ ys, z.body.ownBlock ≠ some k))
theorem resS2 {fn : Func} {p u : Tmp} (h : fn.results = #[.cell p 28, .tmp u]) (tmps : Array Value) (w : World) (g : Nat) {v0 v1 v2 v3 v4 v5 v6 v7 v8 v9 v10 v11 v12 v13 v14 v15 : Value} {t : TypeId} (hp : tmps.getD p undef = .pointer (some ⟨g, 0, none⟩)) (hg : w.heap[g]? = some (.cells #[v0, v1, v2, v3, v4, v5, v6, v7, v8, v9, v10, v11, v12, v13, v14, v15] t (0, 0))) :
    (results fn tmps).run Try.prog w = .ok (.tuple #[.agg #[v0, v1, v2, v3, v4, v5, v6, v7, v8, v9, v10, v11, v12, v13, v14, v15], tmps.getD u undef]) w :=
  K.resCellTmp h tmps Try.prog w g _ hp (run_loadVar_row w g t 28 _ (0, 0) _ hg Try.underlying28 rfl info_six)

theorem u_storeB {o : Oper} {a : Act} {w : World} {K : Act → World → Prop} {Q : Exit → Act → World → Prop} (x y : Operand) (b j : Nat) (E : Option Addr) (l k : Nat) (old : Value) (ho : o.op = .store 22 x y) (hx : a.eval x = .pointer (some ⟨b, j, none⟩)) (hy : a.eval y = .slice E l k) (hc : w.cell? ⟨b, j, none⟩ = some old) (hf : w.frozen? ⟨b, j, none⟩ = false)
    (hK : K (a.put o.dst undef) (w.setCell ⟨b, j, none⟩ (.slice E l k))) : o.wp Try.prog a w K Q := by
  unfold Oper.wp execOp
  simp only [ho, hx, hy]
  go_simp
  exact hK
/-- What the operations of sixOf's last call leave. -/
def GSo (g s l base : Nat) (rs : List UInt8) (j : Nat) (w : World) (v : Value) : Prop :=
  if j = 6 then v = .int .i64 (l : Int)
  else if j = 7 then ∃ E k, v = .slice E l k ∧ w.ownsRow base 5 1 (.slice E l k) l (cellsOf rs)
  else if j = 8 then v = .pointer (some ⟨s, 15, none⟩)
  else if j = 9 then True
  else v = .pointer (some ⟨g, 0, none⟩)
theorem gSo_on {g s l base : Nat} {rs : List UInt8} (j : Nat) (w w' : World) (v : Value) (h : ROwn l base rs w w') (hv : GSo g s l base rs j w v) : GSo g s l base rs j w' v := by
  unfold GSo at *
  split
  · rename_i h0; rw [if_pos h0] at hv; exact hv
  · rename_i h0
    rw [if_neg h0] at hv
    split
    · rename_i h1
      rw [if_pos h1] at hv
      obtain ⟨E, k, e, o⟩ := hv
      exact ⟨E, k, e, h E k o⟩
    · rename_i h1
      rw [if_neg h1] at hv
      exact hv
/-- What stands while that region runs. -/
structure ISo (cl lb hp : Int) (y1 y2 : Ad) (kind : Nat) (A : Option Addr) (q d l : Nat) (g r s t base : Nat) (a : Addr) (n c : Nat) (bs rs : List UInt8) (ys : List Ey) (W : World) (m : Nat) (w : World) : Prop where
  gr : W.grownBy w (some g)
  low : base ≤ w.heap.size
  rd : m ≤ 1 → Rp w g (some a) n c bs t
  row : m ≤ 2 → w.heap[s]? = some (.cells #[.int .i64 cl, .int .i64 lb, .int .i64 hp, .int .i64 (kind : Int), .int .i64 y1.k, .int .i64 y1.a, .int .i64 y1.b, .int .i64 y1.c, .int .i64 y1.d, .int .i64 y2.k, .int .i64 y2.a, .int .i64 y2.b, .int .i64 y2.c, .int .i64 y2.d, .slice A q d, .slice none 0 0] 28 (0, 0))
  res : w.heap[r]? = some (.cells #[.int .i64 0, .int .i64 0, .int .i64 0, .int .i64 0, .int .i64 0, .int .i64 0, .int .i64 0, .int .i64 0, .int .i64 0, .int .i64 0, .int .i64 0, .int .i64 0, .int .i64 0, .int .i64 0, .slice none 0 0, .slice none 0 0] 28 (0, 0))
  xo : XO w (W.heap.size + 2) A q d ys
  done : 3 ≤ m → ∃ E k, w.heap[s]? = some (.cells #[.int .i64 cl, .int .i64 lb, .int .i64 hp, .int .i64 (kind : Int), .int .i64 y1.k, .int .i64 y1.a, .int .i64 y1.b, .int .i64 y1.c, .int .i64 y1.d, .int .i64 y2.k, .int .i64 y2.a, .int .i64 y2.b, .int .i64 y2.c, .int .i64 y2.d, .slice A q d, .slice E l k] 28 (0, 0)) ∧ w.ownsRow base 5 1 (.slice E l k) l (cellsOf rs)

set_option maxRecDepth 100000 in
set_option maxHeartbeats 4000000 in
theorem sixOfC (w : World) (g : Nat) (a : Addr) (n c : Nat) (bs : List UInt8) (v0 v4 v6 v7 : Nat) (cl : Int) (y1 y2 : Ad) (h : Rp w g (some a) n c bs 0) (hn : 40 ≤ n) (e0 : num bs 0 4 = v0) (ec : ((v0 / 1048576 % 256 : Nat) : Int) = cl) (e4 : num bs 4 2 = v4) (e6 : num bs 6 1 = v6) (e7 : num bs 7 1 = v7) (ey1 : ofA ((bs.drop 8).take 16) = y1) (ey2 : ofA ((bs.drop 24).take 16) = y2) :
    Calls Try.prog 66 #[.pointer (some ⟨g, 0, none⟩)] w (SOut w g n bs cl ((v0 : Int) % 1048576) (v7 : Int) y1 y2 (walkX bs n 4 40 v6 [])) := by
  obtain ⟨R, hR⟩ : ∃ R, walkX bs n 4 40 v6 [] = R := ⟨_, rfl⟩
  have HR := Lib.hid hR
  rw [hR]
  have hv0 : v0 < 4294967296 := by rw [← e0]; exact num_lt4 bs 0
  have ea : bits .and .i64 ((v0 : Int) / 1048576) 255 = cl := by
    rw [← ec, show (v0 : Int) / 1048576 = ((v0 / 1048576 : Nat) : Int) by omega]
    exact and_lowW (v0 / 1048576) 256 8 rfl (by omega)
  have hgl := h.lt
  have E := Lib.hid (And.intro e0 (And.intro e4 (And.intro e6 (And.intro e7 (And.intro ey1 ey2)))))
  have h0 := Lib.hid (h.below (Joins.below_alloc2 w (.cells #[.int .i64 0, .int .i64 0, .int .i64 0, .int .i64 0, .int .i64 0, .int .i64 0, .int .i64 0, .int .i64 0, .int .i64 0, .int .i64 0, .int .i64 0, .int .i64 0, .int .i64 0, .int .i64 0, .slice none 0 0, .slice none 0 0] 28) (.cells #[.int .i64 0, .int .i64 0, .int .i64 0, .int .i64 0, .int .i64 0, .int .i64 0, .int .i64 0, .int .i64 0, .int .i64 0, .int .i64 0, .int .i64 0, .int .i64 0, .int .i64 0, .int .i64 0, .slice none 0 0, .slice none 0 0] 28)))
  have z0 := Lib.hid (show ((w.alloc (.cells #[.int .i64 0, .int .i64 0, .int .i64 0, .int .i64 0, .int .i64 0, .int .i64 0, .int .i64 0, .int .i64 0, .int .i64 0, .int .i64 0, .int .i64 0, .int .i64 0, .int .i64 0, .int .i64 0, .slice none 0 0, .slice none 0 0] 28)).alloc (.cells #[.int .i64 0, .int .i64 0, .int .i64 0, .int .i64 0, .int .i64 0, .int .i64 0, .int .i64 0, .int .i64 0, .int .i64 0, .int .i64 0, .int .i64 0, .int .i64 0, .int .i64 0, .int .i64 0, .slice none 0 0, .slice none 0 0] 28)).heap[w.heap.size]? = some (.cells #[.int .i64 0, .int .i64 0, .int .i64 0, .int .i64 0, .int .i64 0, .int .i64 0, .int .i64 0, .int .i64 0, .int .i64 0, .int .i64 0, .int .i64 0, .int .i64 0, .int .i64 0, .int .i64 0, .slice none 0 0, .slice none 0 0] 28 (0, 0)) from K.old (K.new w _) _)
  have q0 := Lib.hid (show ((w.alloc (.cells #[.int .i64 0, .int .i64 0, .int .i64 0, .int .i64 0, .int .i64 0, .int .i64 0, .int .i64 0, .int .i64 0, .int .i64 0, .int .i64 0, .int .i64 0, .int .i64 0, .int .i64 0, .int .i64 0, .slice none 0 0, .slice none 0 0] 28)).alloc (.cells #[.int .i64 0, .int .i64 0, .int .i64 0, .int .i64 0, .int .i64 0, .int .i64 0, .int .i64 0, .int .i64 0, .int .i64 0, .int .i64 0, .int .i64 0, .int .i64 0, .int .i64 0, .int .i64 0, .slice none 0 0, .slice none 0 0] 28)).heap[w.heap.size + 1]? = some (.cells #[.int .i64 0, .int .i64 0, .int .i64 0, .int .i64 0, .int .i64 0, .int .i64 0, .int .i64 0, .int .i64 0, .int .i64 0, .int .i64 0, .int .i64 0, .int .i64 0, .int .i64 0, .int .i64 0, .slice none 0 0, .slice none 0 0] 28 (0, 0)) from (by repeat (first | exact K.newAt (by first | rfl | (simp; done)) | refine K.oldAt (by first | (simp; done) | (simp; omega)) ?_)))
  have G0 := Lib.hid (show w.grownBy ((w.alloc (.cells #[.int .i64 0, .int .i64 0, .int .i64 0, .int .i64 0, .int .i64 0, .int .i64 0, .int .i64 0, .int .i64 0, .int .i64 0, .int .i64 0, .int .i64 0, .int .i64 0, .int .i64 0, .int .i64 0, .slice none 0 0, .slice none 0 0] 28)).alloc (.cells #[.int .i64 0, .int .i64 0, .int .i64 0, .int .i64 0, .int .i64 0, .int .i64 0, .int .i64 0, .int .i64 0, .int .i64 0, .int .i64 0, .int .i64 0, .int .i64 0, .int .i64 0, .int .i64 0, .slice none 0 0, .slice none 0 0] 28)) (some g) from only_new (only_new (K.refl w _) _) _)
  clear h e0 e4 e6 e7 ey1 ey2 ec hR
  go_enter Try.func66, Try.ntmps66
  go_wp2_with fail
  refine Calls.mono (splitP_20 _ g (some a) n c bs 0 4 v0 E.out.1 hv0 h0.out (by omega) (by omega) (by omega)) ?_
  rintro e w1 ⟨rfl, r1, g1⟩
  have p1 := Lib.hid (K.kept g1 q0.out (fun k hk => by cases hk; omega))
  have y1z := Lib.hid (K.kept g1 z0.out (fun k hk => by cases hk; omega))
  have F1 := Lib.hid (grownBy_trans G0.out g1)
  have S1 := Lib.hid r1
  clear r1 g1 q0 z0 G0 h0
  have u0 := K.cell p1.out 0 _ rfl
  have x0 := frozen_of_row _ _ 0 _ _ p1.out
  have u1 := K.cell p1.out 1 _ rfl
  have x1 := frozen_of_row _ _ 1 _ _ p1.out
  go_wp2_with fail
  clear u0 x0 u1 x1
  have GS1 := Lib.hid (K.setFrom_self [.int .i64 cl, .int .i64 ((v0 : Int) % 1048576)] w1 (w.heap.size + 1) 0)
  have q1 : Hid ((K.setFrom w1 (w.heap.size + 1) 0 [.int .i64 cl, .int .i64 ((v0 : Int) % 1048576)]).heap[w.heap.size + 1]? = some (.cells #[.int .i64 cl, .int .i64 ((v0 : Int) % 1048576), .int .i64 0, .int .i64 0, .int .i64 0, .int .i64 0, .int .i64 0, .int .i64 0, .int .i64 0, .int .i64 0, .int .i64 0, .int .i64 0, .int .i64 0, .int .i64 0, .slice none 0 0, .slice none 0 0] 28 (0, 0))) := Lib.hid (K.set (K.set p1.out 0 (.int .i64 cl)) 1 (.int .i64 ((v0 : Int) % 1048576)))
  have z1 := Lib.hid (K.setFrom_other [.int .i64 cl, .int .i64 ((v0 : Int) % 1048576)] 0 y1z.out (show w.heap.size ≠ w.heap.size + 1 by omega))
  have G1 := Lib.hid (grown_other F1.out GS1.out (fun u hu => by cases hu; omega))
  have h1 := Lib.hid (S1.out.away GS1.out (fun q hq => by cases hq; omega))
  clear GS1 p1 y1z F1 S1
  refine Calls.mono (numberP _ g (some a) n c bs 4 2 v4 E.out.2.1 h1.out (by omega) (by omega) (by omega)) ?_
  rintro e w2 ⟨rfl, r2, g2⟩
  have p2 := Lib.hid (K.kept g2 q1.out (fun k hk => by cases hk; omega))
  have y2z := Lib.hid (K.kept g2 z1.out (fun k hk => by cases hk; omega))
  have F2 := Lib.hid (grownBy_trans G1.out g2)
  have S2 := Lib.hid r2
  clear r2 g2 q1 z1 G1 h1
  have q2 := p2
  have z2 := y2z
  have G2 := F2
  have h2 := S2
  clear p2 y2z F2 S2
  go_wp2_with fail
  refine Calls.mono (numberP _ g (some a) n c bs 6 1 v6 E.out.2.2.1 h2.out (by omega) (by omega) (by omega)) ?_
  rintro e w3 ⟨rfl, r3, g3⟩
  have p3 := Lib.hid (K.kept g3 q2.out (fun k hk => by cases hk; omega))
  have y3z := Lib.hid (K.kept g3 z2.out (fun k hk => by cases hk; omega))
  have F3 := Lib.hid (grownBy_trans G2.out g3)
  have S3 := Lib.hid r3
  clear r3 g3 q2 z2 G2 h2
  have q3 := p3
  have z3 := y3z
  have G3 := F3
  have h3 := S3
  clear p3 y3z F3 S3
  go_wp2_with fail
  refine Calls.mono (numberP _ g (some a) n c bs 7 1 v7 E.out.2.2.2.1 h3.out (by omega) (by omega) (by omega)) ?_
  rintro e w4 ⟨rfl, r4, g4⟩
  have p4 := Lib.hid (K.kept g4 q3.out (fun k hk => by cases hk; omega))
  have y4z := Lib.hid (K.kept g4 z3.out (fun k hk => by cases hk; omega))
  have F4 := Lib.hid (grownBy_trans G3.out g4)
  have S4 := Lib.hid r4
  clear r4 g4 q3 z3 G3 h3
  have u2 := K.cell p4.out 2 _ rfl
  have x2 := frozen_of_row _ _ 2 _ _ p4.out
  go_wp2_with fail
  clear u2 x2
  have GS4 := Lib.hid (K.setFrom_self [.int .i64 (v7 : Int)] w4 (w.heap.size + 1) 2)
  have q4 : Hid ((K.setFrom w4 (w.heap.size + 1) 2 [.int .i64 (v7 : Int)]).heap[w.heap.size + 1]? = some (.cells #[.int .i64 cl, .int .i64 ((v0 : Int) % 1048576), .int .i64 (v7 : Int), .int .i64 0, .int .i64 0, .int .i64 0, .int .i64 0, .int .i64 0, .int .i64 0, .int .i64 0, .int .i64 0, .int .i64 0, .int .i64 0, .int .i64 0, .slice none 0 0, .slice none 0 0] 28 (0, 0))) := Lib.hid (K.set p4.out 2 (.int .i64 (v7 : Int)))
  have z4 := Lib.hid (K.setFrom_other [.int .i64 (v7 : Int)] 2 y4z.out (show w.heap.size ≠ w.heap.size + 1 by omega))
  have G4 := Lib.hid (grown_other F4.out GS4.out (fun u hu => by cases hu; omega))
  have h4 := Lib.hid (S4.out.away GS4.out (fun q hq => by cases hq; omega))
  clear GS4 p4 y4z F4 S4
  refine Calls.mono (addrP6 _ g a n c bs 8 y1 E.out.2.2.2.2.1 h4.out (by omega)) ?_
  rintro e w5 ⟨rfl, r5, g5⟩
  have p5 := Lib.hid (K.kept g5 q4.out (fun k hk => by cases hk; omega))
  have y5z := Lib.hid (K.kept g5 z4.out (fun k hk => by cases hk; omega))
  have F5 := Lib.hid (grownBy_trans G4.out g5)
  have S5 := Lib.hid r5
  clear r5 g5 q4 z4 G4 h4
  have u4 := K.cell p5.out 4 _ rfl
  have x4 := frozen_of_row _ _ 4 _ _ p5.out
  have u5 := K.cell p5.out 5 _ rfl
  have x5 := frozen_of_row _ _ 5 _ _ p5.out
  have u6 := K.cell p5.out 6 _ rfl
  have x6 := frozen_of_row _ _ 6 _ _ p5.out
  have u7 := K.cell p5.out 7 _ rfl
  have x7 := frozen_of_row _ _ 7 _ _ p5.out
  have u8 := K.cell p5.out 8 _ rfl
  have x8 := frozen_of_row _ _ 8 _ _ p5.out
  go_wp2_with fail
  clear u4 x4 u5 x5 u6 x6 u7 x7 u8 x8
  have GS5 := Lib.hid (K.setFrom_self [.int .i64 y1.k, .int .i64 y1.a, .int .i64 y1.b, .int .i64 y1.c, .int .i64 y1.d] w5 (w.heap.size + 1) 4)
  have q5 : Hid ((K.setFrom w5 (w.heap.size + 1) 4 [.int .i64 y1.k, .int .i64 y1.a, .int .i64 y1.b, .int .i64 y1.c, .int .i64 y1.d]).heap[w.heap.size + 1]? = some (.cells #[.int .i64 cl, .int .i64 ((v0 : Int) % 1048576), .int .i64 (v7 : Int), .int .i64 0, .int .i64 y1.k, .int .i64 y1.a, .int .i64 y1.b, .int .i64 y1.c, .int .i64 y1.d, .int .i64 0, .int .i64 0, .int .i64 0, .int .i64 0, .int .i64 0, .slice none 0 0, .slice none 0 0] 28 (0, 0))) := Lib.hid (K.set (K.set (K.set (K.set (K.set p5.out 4 (.int .i64 y1.k)) 5 (.int .i64 y1.a)) 6 (.int .i64 y1.b)) 7 (.int .i64 y1.c)) 8 (.int .i64 y1.d))
  have z5 := Lib.hid (K.setFrom_other [.int .i64 y1.k, .int .i64 y1.a, .int .i64 y1.b, .int .i64 y1.c, .int .i64 y1.d] 4 y5z.out (show w.heap.size ≠ w.heap.size + 1 by omega))
  have G5 := Lib.hid (grown_other F5.out GS5.out (fun u hu => by cases hu; omega))
  have h5 := Lib.hid (S5.out.away GS5.out (fun q hq => by cases hq; omega))
  clear GS5 p5 y5z F5 S5
  refine Calls.mono (addrP6 _ g a n c bs 24 y2 E.out.2.2.2.2.2 h5.out (by omega)) ?_
  rintro e w6 ⟨rfl, r6, g6⟩
  have p6 := Lib.hid (K.kept g6 q5.out (fun k hk => by cases hk; omega))
  have y6z := Lib.hid (K.kept g6 z5.out (fun k hk => by cases hk; omega))
  have F6 := Lib.hid (grownBy_trans G5.out g6)
  have S6 := Lib.hid r6
  clear r6 g6 q5 z5 G5 h5
  have u9 := K.cell p6.out 9 _ rfl
  have x9 := frozen_of_row _ _ 9 _ _ p6.out
  have u10 := K.cell p6.out 10 _ rfl
  have x10 := frozen_of_row _ _ 10 _ _ p6.out
  have u11 := K.cell p6.out 11 _ rfl
  have x11 := frozen_of_row _ _ 11 _ _ p6.out
  have u12 := K.cell p6.out 12 _ rfl
  have x12 := frozen_of_row _ _ 12 _ _ p6.out
  have u13 := K.cell p6.out 13 _ rfl
  have x13 := frozen_of_row _ _ 13 _ _ p6.out
  go_wp2_with fail
  clear u9 x9 u10 x10 u11 x11 u12 x12 u13 x13
  have GS6 := Lib.hid (K.setFrom_self [.int .i64 y2.k, .int .i64 y2.a, .int .i64 y2.b, .int .i64 y2.c, .int .i64 y2.d] w6 (w.heap.size + 1) 9)
  have q6 : Hid ((K.setFrom w6 (w.heap.size + 1) 9 [.int .i64 y2.k, .int .i64 y2.a, .int .i64 y2.b, .int .i64 y2.c, .int .i64 y2.d]).heap[w.heap.size + 1]? = some (.cells #[.int .i64 cl, .int .i64 ((v0 : Int) % 1048576), .int .i64 (v7 : Int), .int .i64 0, .int .i64 y1.k, .int .i64 y1.a, .int .i64 y1.b, .int .i64 y1.c, .int .i64 y1.d, .int .i64 y2.k, .int .i64 y2.a, .int .i64 y2.b, .int .i64 y2.c, .int .i64 y2.d, .slice none 0 0, .slice none 0 0] 28 (0, 0))) := Lib.hid (K.set (K.set (K.set (K.set (K.set p6.out 9 (.int .i64 y2.k)) 10 (.int .i64 y2.a)) 11 (.int .i64 y2.b)) 12 (.int .i64 y2.c)) 13 (.int .i64 y2.d))
  have z6 := Lib.hid (K.setFrom_other [.int .i64 y2.k, .int .i64 y2.a, .int .i64 y2.b, .int .i64 y2.c, .int .i64 y2.d] 9 y6z.out (show w.heap.size ≠ w.heap.size + 1 by omega))
  have G6 := Lib.hid (grown_other F6.out GS6.out (fun u hu => by cases hu; omega))
  have h6 := Lib.hid (S6.out.away GS6.out (fun q hq => by cases hq; omega))
  clear GS6 p6 y6z F6 S6
  have lz6 := K.lt q6.out
  refine Calls.mono (extsOfC _ g a n c bs 40 v6 h6.out hn) ?_
  rintro e w7 ⟨g7, ⟨hno, rfl⟩ | ⟨acc, kind, k, A, d, ys, hsome, hkn, rfl, x7, hys, r7⟩⟩
  · have HN := Lib.hid (HR.out.symm.trans hno)
    have z7 := Lib.hid (K.kept g7 z6.out (fun k hk => by cases hk; omega))
    have G7 := Lib.hid (grownBy_trans G6.out g7)
    clear g7 hno q6 z6 G6 h6
    go_wp2_with (with_reducible refine storeS rfl _ _ rfl w.heap.size rfl rfl z7.out ?_)
    (try simp only [Exit.inBlock, Exit.then])
    refine bodyPost_ret (v := .tuple #[.agg #[.int .i64 0, .int .i64 0, .int .i64 0, .int .i64 0, .int .i64 0, .int .i64 0, .int .i64 0, .int .i64 0, .int .i64 0, .int .i64 0, .int .i64 0, .int .i64 0, .int .i64 0, .int .i64 0, .slice none 0 0, .slice none 0 0], .bool false]) ?_ rfl ⟨grown_other G7.out (K.setRow_grown _ _ _) (fun u hu => by cases hu; exact Nat.le_refl _), .inl ⟨HN.out, rfl⟩⟩
    exact resS2 Try.results66 _ _ w.heap.size rfl (setRow_heap _ _ _ _ _ _ z7.out)
  · obtain ⟨q, hq⟩ : ∃ q, acc.length = q := ⟨_, rfl⟩
    obtain ⟨l, hl⟩ : ∃ l, k + l = n := ⟨n - k, by omega⟩
    have HN := Lib.hid (HR.out.symm.trans hsome)
    have HQ := Lib.hid hq
    have HY := Lib.hid hys
    have HL := Lib.hid hl
    rw [hq] at x7 ⊢
    have X7 := Lib.hid (x7.base (show w.heap.size + 2 ≤ _ from lz6))
    have q7 := Lib.hid (K.kept g7 q6.out (fun k hk => by cases hk; omega))
    have z7 := Lib.hid (K.kept g7 z6.out (fun k hk => by cases hk; omega))
    have G7 := Lib.hid (grownBy_trans G6.out g7)
    have R7 := Lib.hid r7
    clear g7 hsome q6 z6 G6 h6 x7 r7 hq hys hl lz6
    have u14 := K.cell q7.out 14 _ rfl
    have x14 := frozen_of_row _ _ 14 _ _ q7.out
    have u3 := K.cell q7.out 3 _ rfl
    have x3 := frozen_of_row _ _ 3 _ _ q7.out
    have GA := grownBy_set w7 (w.heap.size + 1) 14 (.slice A q d)
    have GB := grownBy_set (w7.setCell ⟨w.heap.size + 1, 14, none⟩ (.slice A q d)) (w.heap.size + 1) 3 (.int .i64 (kind : Int))
    have q8 : Hid (((w7.setCell ⟨w.heap.size + 1, 14, none⟩ (.slice A q d)).setCell ⟨w.heap.size + 1, 3, none⟩ (.int .i64 (kind : Int))).heap[w.heap.size + 1]? = some (.cells #[.int .i64 cl, .int .i64 ((v0 : Int) % 1048576), .int .i64 (v7 : Int), .int .i64 (kind : Int), .int .i64 y1.k, .int .i64 y1.a, .int .i64 y1.b, .int .i64 y1.c, .int .i64 y1.d, .int .i64 y2.k, .int .i64 y2.a, .int .i64 y2.b, .int .i64 y2.c, .int .i64 y2.d, .slice A q d, .slice none 0 0] 28 (0, 0))) := Lib.hid (K.set (K.set q7.out 14 _) 3 _)
    have z8 := Lib.hid (K.other (K.other z7.out (w.heap.size + 1) 14 (.slice A q d) (by omega)) (w.heap.size + 1) 3 (.int .i64 (kind : Int)) (by omega))
    have G8 := Lib.hid (grown_other (grown_other G7.out GA (fun u hu => by cases hu; omega)) GB (fun u hu => by cases hu; omega))
    have R8 := Lib.hid ((R7.out.away GA (fun q hq => by cases hq; omega)).away GB (fun q hq => by cases hq; omega))
    have X8 := Lib.hid ((X7.out.set (w.heap.size + 1) 14 (.slice A q d) (by omega)).set (w.heap.size + 1) 3 (.int .i64 (kind : Int)) (by omega))
    clear GA GB
    go_upto_region 13 with fail
    clear u14 x14 u3 x3 q7 z7 G7 R7 X7
    generalize (w7.setCell ⟨w.heap.size + 1, 14, none⟩ (.slice A q d)).setCell ⟨w.heap.size + 1, 3, none⟩ (.int .i64 (kind : Int)) = W at q8 z8 G8 R8 X8 ⊢
    have ls := K.lt q8.out
    have LX := Lib.hid X8.out.lt
    have I0 : Hid (ISo cl ((v0 : Int) % 1048576) (v7 : Int) y1 y2 kind A q d l g w.heap.size (w.heap.size + 1) k W.heap.size a n c bs ((bs.drop k).take l) ys w 0 W.drew) := Lib.hid ⟨⟨G8.out.os, G8.out.tape, G8.out.output, G8.out.size, G8.out.block⟩, Nat.le_refl _, fun _ => R8.out.drewN 1, fun _ => q8.out, z8.out, ⟨X8.out.len, X8.out.row, X8.out.own, X8.out.apart, X8.out.off⟩, fun h => by omega⟩
    clear q8 z8 G8 R8 X8
    refine wp_region_chain (by kernel_rfl) (GSo g (w.heap.size + 1) l W.heap.size ((bs.drop k).take l)) [0, 2, 4] [6, 7, 9] (ISo cl ((v0 : Int) % 1048576) (v7 : Int) y1 y2 kind A q d l g w.heap.size (w.heap.size + 1) k W.heap.size a n c bs ((bs.drop k).take l) ys w) (ROwn l W.heap.size ((bs.drop k).take l)) 64 (by kernel_rfl) (by kernel_rfl) rfl I0.out (fun j v v' u hb hv => gSo_on j v v' u hb hv) ?_ ?_
    · intro j o ho m a' v K' hx hnd hm hI hK
      have idR : ROwn l W.heap.size ((bs.drop k).take l) v v := fun _ _ h => h
      match j, ho with
      | 0, ho =>
        obtain rfl := Option.some.inj ho
        exact s_move 0 _ rfl (out_of hx 0 (by simp) rfl) (hK _ _ rfl idR hI)
      | 1, ho =>
        obtain rfl := Option.some.inj ho
        have h1 : a'.eval (.tmp 54) = .pointer (some ⟨g, 0, none⟩) := (need_of (Γ := GSo g (w.heap.size + 1) l W.heap.size ((bs.drop k).take l)) (w := v) hnd 0 54 (by kernel_rfl) :)
        exact t_nil _ _ rfl h1 (hK _ _ rfl idR hI)
      | 2, ho =>
        obtain rfl := Option.some.inj ho
        have h1 : a'.eval (.tmp 55) = .pointer (some ⟨g, 0, none⟩) := (need_of (Γ := GSo g (w.heap.size + 1) l W.heap.size ((bs.drop k).take l)) (w := v) hnd 1 55 (by kernel_rfl) :)
        exact t_fldR _ _ rfl h1 (hK _ _ rfl idR hI)
      | 3, ho =>
        obtain rfl := Option.some.inj ho
        exact s_move 0 _ rfl (out_of hx 0 (by simp) rfl) (hK _ _ rfl idR hI)
      | 4, ho =>
        obtain rfl := Option.some.inj ho
        have h1 : a'.eval (.tmp 57) = .pointer (some ⟨g, 0, none⟩) := (need_of (Γ := GSo g (w.heap.size + 1) l W.heap.size ((bs.drop k).take l)) (w := v) hnd 3 57 (by kernel_rfl) :)
        exact t_nil _ _ rfl h1 (hK _ _ rfl idR hI)
      | 5, ho =>
        obtain rfl := Option.some.inj ho
        have h1 : a'.eval (.tmp 58) = .pointer (some ⟨g, 0, none⟩) := (need_of (Γ := GSo g (w.heap.size + 1) l W.heap.size ((bs.drop k).take l)) (w := v) hnd 4 58 (by kernel_rfl) :)
        exact t_fldR _ _ rfl h1 (hK _ _ rfl idR hI)
      | 6, ho =>
        obtain rfl := Option.some.inj ho
        have h1 : a'.eval (.tmp 59) = .pointer (some ⟨g, 0, none⟩) := (need_of (Γ := GSo g (w.heap.size + 1) l W.heap.size ((bs.drop k).take l)) (w := v) hnd 5 59 (by kernel_rfl) :)
        obtain rfl : 0 = m := hm 0 rfl
        refine t_left _ _ _ rfl h1 ((leftP v g (some a) n c bs k l (hI.rd (by omega)) HL.out).mono ?_)
        rintro e' v' ⟨rfl, b⟩
        exact ⟨_, rfl, hK _ _ rfl (fun _ _ h => own_below h b) ⟨grownBy_trans hI.gr (below_grown b _), Nat.le_trans hI.low b.size, fun _ => (hI.rd (by omega)).below b, fun _ => K.below b (hI.row (by omega)), K.below b hI.res, hI.xo.below b, fun h => absurd h (by decide)⟩⟩
      | 7, ho =>
        obtain rfl := Option.some.inj ho
        have h1 : a'.eval (.tmp 56) = .pointer (some ⟨g, 0, none⟩) := (need_of (Γ := GSo g (w.heap.size + 1) l W.heap.size ((bs.drop k).take l)) (w := v) hnd 2 56 (by kernel_rfl) :)
        have h2 : a'.eval (.tmp 60) = .int .i64 (l : Int) := (need_of (Γ := GSo g (w.heap.size + 1) l W.heap.size ((bs.drop k).take l)) (w := v) hnd 6 60 (by kernel_rfl) :)
        obtain rfl : 1 = m := hm 1 rfl
        refine t_take _ _ _ _ _ rfl h1 h2 ((takeP v g a n c bs k l (hI.rd (by omega)) (by have := HL.out; omega)).mono ?_)
        rintro e' v' ⟨E', k', rfl, o8, r8, g8⟩
        exact ⟨_, rfl, hK _ _ ⟨E', k', rfl, own_base o8 hI.low⟩ (fun _ _ h => own_grown h g8 (fun k hk e => by have := (h.lt k hk).1; injection e with e; omega)) ⟨grownBy_trans hI.gr g8, Nat.le_trans hI.low g8.size, fun h => absurd h (by decide), fun _ => K.kept g8 (hI.row (by omega)) (fun k hk => by cases hk; omega), K.kept g8 hI.res (fun k hk => by cases hk; omega), hI.xo.kept g8 (by omega), fun h => absurd h (by decide)⟩⟩
      | 8, ho =>
        obtain rfl := Option.some.inj ho
        exact u_fldS7 _ _ rfl (out_of hx 4 (by simp) rfl) (hK _ _ rfl idR hI)
      | 9, ho =>
        obtain rfl := Option.some.inj ho
        obtain ⟨E', k', h1, h2⟩ : ∃ E k', a'.eval (.tmp 61) = .slice E l k' ∧ v.ownsRow W.heap.size 5 1 (.slice E l k') l (cellsOf ((bs.drop k).take l)) := (need_of (Γ := GSo g (w.heap.size + 1) l W.heap.size ((bs.drop k).take l)) (w := v) hnd 7 61 (by kernel_rfl) :)
        have h3 : a'.eval (.tmp 62) = .pointer (some ⟨w.heap.size + 1, 15, none⟩) := (need_of (Γ := GSo g (w.heap.size + 1) l W.heap.size ((bs.drop k).take l)) (w := v) hnd 8 62 (by kernel_rfl) :)
        obtain rfl : 2 = m := hm 2 rfl
        have hrow := hI.row (by omega)
        have GA := grownBy_set v (w.heap.size + 1) 15 (.slice E' l k')
        refine u_storeB _ _ _ _ _ _ _ _ rfl h3 h1 (K.cell hrow 15 _ rfl) (frozen_of_row _ _ 15 _ _ hrow) (hK _ _ trivial (fun _ _ h => own_set h _ _ _ (by omega)) ⟨grown_other hI.gr GA (fun u hu => by cases hu; omega), Nat.le_trans hI.low GA.size, fun h => absurd h (by decide), fun h => absurd h (by decide), K.other hI.res _ _ _ (by omega), hI.xo.set _ _ _ (by omega), fun _ => ⟨E', k', K.set hrow 15 _, own_set h2 _ _ _ (by omega)⟩⟩)
      | j + 10, ho => simp at ho
    · intro a' w' hsz hdf hout hrest hG hI
      obtain ⟨E', k', g61, _⟩ : ∃ E k', a'.tmps.getD 61 undef = .slice E l k' ∧ w'.ownsRow W.heap.size 5 1 (.slice E l k') l (cellsOf ((bs.drop k).take l)) := hG 7 _ 61 rfl rfl
      have E0 := act_eqL (n := 64) hsz hdf rfl [(54, .pointer (some ⟨g, 0, none⟩)), (55, .pointer (some ⟨g, 0, none⟩)), (56, .pointer (some ⟨g, 0, none⟩)), (57, .pointer (some ⟨g, 0, none⟩)), (58, .pointer (some ⟨g, 0, none⟩)), (59, .pointer (some ⟨g, 0, none⟩)), (60, .int .i64 (l : Int)), (61, .slice E' l k'), (62, .pointer (some ⟨w.heap.size + 1, 15, none⟩))] _ rfl rfl (by
        intro p hp
        simp only [List.mem_cons, List.not_mem_nil, or_false] at hp
        rcases hp with rfl | rfl | rfl | rfl | rfl | rfl | rfl | rfl | rfl
        · exact ⟨(by decide : 54 < 64), hG 0 _ 54 rfl rfl⟩
        · exact ⟨(by decide : 55 < 64), hG 1 _ 55 rfl rfl⟩
        · exact ⟨(by decide : 56 < 64), hG 2 _ 56 rfl rfl⟩
        · exact ⟨(by decide : 57 < 64), hG 3 _ 57 rfl rfl⟩
        · exact ⟨(by decide : 58 < 64), hG 4 _ 58 rfl rfl⟩
        · exact ⟨(by decide : 59 < 64), hG 5 _ 59 rfl rfl⟩
        · exact ⟨(by decide : 60 < 64), hG 6 _ 60 rfl rfl⟩
        · exact ⟨(by decide : 61 < 64), g61⟩
        · exact ⟨(by decide : 62 < 64), hG 8 _ 62 rfl rfl⟩) (fun t ht => hrest t (fun j o hj he => by
        match j, hj with
        | 0, hj => obtain rfl := Option.some.inj hj; obtain rfl := Option.some.inj he; exact ht (54, .pointer (some ⟨g, 0, none⟩)) (by simp) rfl
        | 1, hj => obtain rfl := Option.some.inj hj; obtain rfl := Option.some.inj he; exact ht (55, .pointer (some ⟨g, 0, none⟩)) (by simp) rfl
        | 2, hj => obtain rfl := Option.some.inj hj; obtain rfl := Option.some.inj he; exact ht (56, .pointer (some ⟨g, 0, none⟩)) (by simp) rfl
        | 3, hj => obtain rfl := Option.some.inj hj; obtain rfl := Option.some.inj he; exact ht (57, .pointer (some ⟨g, 0, none⟩)) (by simp) rfl
        | 4, hj => obtain rfl := Option.some.inj hj; obtain rfl := Option.some.inj he; exact ht (58, .pointer (some ⟨g, 0, none⟩)) (by simp) rfl
        | 5, hj => obtain rfl := Option.some.inj hj; obtain rfl := Option.some.inj he; exact ht (59, .pointer (some ⟨g, 0, none⟩)) (by simp) rfl
        | 6, hj => obtain rfl := Option.some.inj hj; obtain rfl := Option.some.inj he; exact ht (60, .int .i64 (l : Int)) (by simp) rfl
        | 7, hj => obtain rfl := Option.some.inj hj; obtain rfl := Option.some.inj he; exact ht (61, .slice E' l k') (by simp) rfl
        | 8, hj => obtain rfl := Option.some.inj hj; obtain rfl := Option.some.inj he; exact ht (62, .pointer (some ⟨w.heap.size + 1, 15, none⟩)) (by simp) rfl
        | 9, hj => obtain rfl := Option.some.inj hj; cases he
        | j + 10, hj => simp at hj))
      rw [E0]
      clear E0 hsz hdf hout hrest hG g61
      obtain ⟨E2, k2, hrow, hown⟩ := hI.done (by decide)
      have HI := Lib.hid hI
      have HO := Lib.hid hown
      have HW := Lib.hid hrow
      have HZ := Lib.hid hI.res
      clear hI hown hrow I0
      simp only [List.foldl]
      go_simp
      go_wp2_with (first | (with_reducible refine loadS rfl _ rfl (w.heap.size + 1) rfl HW.out ?_) | (with_reducible refine storeS rfl _ _ rfl w.heap.size rfl rfl HZ.out ?_))
      (try simp only [Exit.inBlock, Exit.then])
      refine bodyPost_ret (v := .tuple #[.agg #[.int .i64 cl, .int .i64 ((v0 : Int) % 1048576), .int .i64 (v7 : Int), .int .i64 (kind : Int), .int .i64 y1.k, .int .i64 y1.a, .int .i64 y1.b, .int .i64 y1.c, .int .i64 y1.d, .int .i64 y2.k, .int .i64 y2.a, .int .i64 y2.b, .int .i64 y2.c, .int .i64 y2.d, .slice A q d, .slice E2 l k2], .bool true]) ?_ rfl ⟨grown_other HI.out.gr (K.setRow_grown _ _ _) (fun u hu => by cases hu; exact Nat.le_refl _), .inr ⟨acc, kind, k, l, A, d, ys, E2, k2, HN.out, HL.out, ?_, ?_, HY.out, K.setRow_own _ (own_base HO.out (by omega)) (by omega), ?_⟩⟩
      · exact resS2 Try.results66 _ _ w.heap.size rfl (setRow_heap _ _ _ _ _ _ HZ.out)
      · rw [HQ.out]
      · rw [HQ.out]; exact HI.out.xo.setRow _ _ (by omega)
      · rw [HQ.out]
        exact fun u hu => ⟨fun e => by have := (HO.out.lt u hu).1; have := (LX.out.1 u e).2; omega, fun z hz e => by have := (HO.out.lt u hu).1; have := (LX.out.2 z hz u e).2; omega⟩
end Go.Proofs.Ytkmijefheejcjaa
