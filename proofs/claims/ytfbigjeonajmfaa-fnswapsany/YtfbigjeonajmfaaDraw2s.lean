/-
  What the model draws for FnSwapsAny: a number and two lists of integers, in memory of the call's own.
-/
import Derived.Test.YtfbigjeonajmfaaDraw2
namespace Go.Proofs.Ytfbigjeonajmfaa
open Go.RowKit

set_option maxRecDepth 100000 in
set_option maxHeartbeats 1000000 in
theorem wordD (w : World) (g : Nat) (A : Option Addr) (c : Nat) (bs : List UInt8) (t : Nat) (hc : Cur w g A c bs t) (ht : t ≤ 1000000) :
    Calls Try.prog 44 #[.pointer (some ⟨g, 0, none⟩)] w fun e w' => ∃ (x : Int) (t' : Nat), e = .returned (.int .i64 x) ∧ t' ≤ t + 3 ∧ Cur w' g A c bs t' ∧ w.grownBy w' (some g) := by
  go_enter Try.func44, Try.ntmps44
  go_wp2_with fail
  refine (pickC w g A c bs t 9 (by omega) (by omega) hc (by omega)).mono ?_
  rintro e w1 ⟨x, rfl, x0, x1, hc1, hg1⟩
  by_cases hx0 : x = 0
  · subst hx0
    go_wp2_with fail
    have hg1a := only_new hg1 (.cells #[.int .i64 0, .int .i64 65535, .int .i64 1, .int .i64 65534, .int .i64 32768] 3)
    refine (pickC _ g A c bs (t + 1) 5 (by omega) (by omega) (hc1.below ((Below.refl _ _).alloc (Nat.le_refl _) _)) (by omega)).mono ?_
    rintro e w2 ⟨y, rfl, y0, y1, hc2, hg2⟩
    obtain ⟨k, rfl⟩ : ∃ k : Nat, y = k := ⟨y.toNat, by omega⟩
    have hglt := hc1.lt
    obtain ⟨v, hv⟩ : ∃ v, w2.cell? ⟨w1.heap.size, k, none⟩ = some (.int .i64 v) := by
      have hblk := (hg2.block w1.heap.size (by simp) (by simp; omega)).trans (heap_alloc_new w1 _)
      rw [cell_of_row w2 w1.heap.size k _ _ (0, 0) hblk]
      have : k = 0 ∨ k = 1 ∨ k = 2 ∨ k = 3 ∨ k = 4 := by omega
      rcases this with rfl | rfl | rfl | rfl | rfl <;> exact ⟨_, rfl⟩
    go_wp2
    go_ret
    exact ⟨_, t + 2, rfl, by omega, hc2, grownBy_trans hg1a hg2⟩
  · by_cases hx1 : x = 1
    · subst hx1
      go_wp2_with fail
      refine (rawC w1 g A c bs (t + 1) hc1 (by omega)).mono ?_
      rintro e w2 ⟨y, rfl, _, hc2, hg2⟩
      go_wp2
      go_ret
      exact ⟨_, t + 3, rfl, by omega, hc2, grownBy_trans hg1 hg2⟩
    · have e0 : (x == 0) = false := by simpa using hx0
      have e1 : (x == 1) = false := by simpa using hx1
      go_wp2_with fail
      refine (pickC w1 g A c bs (t + 1) 256 (by omega) (by omega) hc1 (by omega)).mono ?_
      rintro e w2 ⟨y, rfl, y0, y1, hc2, hg2⟩
      go_wp2_with fail
      refine (pickC w2 g A c bs (t + 2) 256 (by omega) (by omega) hc2 (by omega)).mono ?_
      rintro e w3 ⟨z, rfl, z0, z1, hc3, hg3⟩
      go_wp2
      go_ret
      exact ⟨_, t + 3, rfl, by omega, hc3, grownBy_trans (grownBy_trans hg1 hg2) hg3⟩

/-- Two rows of integers of the call's own, apart from each other and from the cursor. -/
structure Two (w : World) (B g : Nat) (A : Option Addr) (c : Nat) (bs : List UInt8) (wr : World) (t : Nat) (va vb : Value) (xs ys : List Int) : Prop where
  oa : wr.ownsRow B 3 1 va xs.length (intsOf xs)
  ob : wr.ownsRow B 3 1 vb ys.length (intsOf ys)
  ne : ∀ k, va.ownBlock = some k → vb.ownBlock ≠ some k
  cur : Cur wr g A c bs t
  gB : g < B
  bel : Below w.heap.size w wr
  base : B ≤ wr.heap.size
  wB : w.heap.size ≤ g

section
variable {w wr w' : World} {B g : Nat} {A : Option Addr} {c : Nat} {bs : List UInt8} {t : Nat} {va vb : Value} {xs ys : List Int}

theorem Two.draw (h : Two w B g A c bs wr t va vb xs ys) {t' : Nat} (hg : wr.grownBy w' (some g)) (hc : Cur w' g A c bs t') : Two w B g A c bs w' t' va vb xs ys :=
  ⟨own_grown h.oa hg (fun k hk => by have := (h.oa.lt k hk).1; have := h.gB; simp; omega), own_grown h.ob hg (fun k hk => by have := (h.ob.lt k hk).1; have := h.gB; simp; omega), h.ne, hc, h.gB,
   bgrown h.bel hg (fun k hk => by simp at hk; have := h.wB; omega), Nat.le_trans h.base hg.size, h.wB⟩

theorem Two.alloc (h : Two w B g A c bs wr t va vb xs ys) (o : Obj) : Two w B g A c bs (wr.alloc o) t va vb xs ys :=
  ⟨h.oa.alloc o, h.ob.alloc o, h.ne, h.cur.below ((Below.refl _ _).alloc (Nat.le_refl _) o), h.gB, h.bel.alloc h.bel.size o, by have := h.base; simp; omega, h.wB⟩

theorem Two.appA (h : Two w B g A c bs wr t va vb xs ys) {v' : Value} {zs : List Int} (ho : w'.ownsRow B 3 1 v' zs.length (intsOf zs)) (hg : wr.grownBy w' va.ownBlock) (hat : v'.ownBlock = va.ownBlock ∨ v'.ownBlock = some wr.heap.size) : Two w B g A c bs w' t v' vb zs ys := by
  refine ⟨ho, own_grown h.ob hg (fun k hk e => h.ne k e hk), fun k hk e => ?_, h.cur.grownBy hg (fun k hk => by have := (h.oa.lt k hk).1; have := h.gB; omega), h.gB,
    bgrown h.bel hg (fun k hk => by have := (h.oa.lt k hk).1; have := h.gB; have := h.wB; omega), Nat.le_trans h.base hg.size, h.wB⟩
  rcases hat with h1 | h1
  · exact h.ne k (by rw [← h1]; exact hk) e
  · rw [h1] at hk
    injection hk with hk
    have := (h.ob.lt k e).2
    omega

theorem Two.appB (h : Two w B g A c bs wr t va vb xs ys) {v' : Value} {zs : List Int} (ho : w'.ownsRow B 3 1 v' zs.length (intsOf zs)) (hg : wr.grownBy w' vb.ownBlock) (hat : v'.ownBlock = vb.ownBlock ∨ v'.ownBlock = some wr.heap.size) : Two w B g A c bs w' t va v' xs zs := by
  refine ⟨own_grown h.oa hg (fun k hk e => h.ne k hk e), ho, fun k hk e => ?_, h.cur.grownBy hg (fun k hk => by have := (h.ob.lt k hk).1; have := h.gB; omega), h.gB,
    bgrown h.bel hg (fun k hk => by have := (h.ob.lt k hk).1; have := h.gB; have := h.wB; omega), Nat.le_trans h.base hg.size, h.wB⟩
  rcases hat with h1 | h1
  · exact h.ne k hk (by rw [← h1]; exact e)
  · rw [h1] at e
    injection e with e
    have := (h.oa.lt k hk).2
    omega
end

def DrewSwaps (w : World) (e : Ending) (w' : World) : Prop :=
  ∃ (check : Int) (xs ys : List Int) (C D : Option Addr) (c d : Nat), e = .returned (.tuple #[.int .i64 check, .slice C xs.length c, .slice D ys.length d]) ∧ xs.length ≤ 100 ∧ ys.length ≤ 100 ∧
    w'.ownsRow w.heap.size 3 1 (.slice C xs.length c) xs.length (intsOf xs) ∧ w'.ownsRow w.heap.size 3 1 (.slice D ys.length d) ys.length (intsOf ys) ∧ Below w.heap.size w w'

theorem Two.done {w w' : World} {B g : Nat} {A : Option Addr} {c : Nat} {bs : List UInt8} {t : Nat} {C D : Option Addr} {d e : Nat} {xs ys : List Int} (h : Two w B g A c bs w' t (.slice C xs.length d) (.slice D ys.length e) xs ys) (check : Int) (hx : xs.length ≤ 100) (hy : ys.length ≤ 100) :
    DrewSwaps w (.returned (.tuple #[.int .i64 check, .slice C xs.length d, .slice D ys.length e])) w' := by
  have := h.gB
  have := h.wB
  exact ⟨check, xs, ys, C, D, d, e, rfl, hx, hy, own_base h.oa (by omega), own_base h.ob (by omega), h.bel⟩
def slen : Value → Nat
  | .slice _ n _ => n
  | _ => 0

theorem snoc_own {w : World} {B : Nat} {v : Value} {xs : List Int} {x : Int} (h : w.ownsRow B 3 1 v (xs.length + 1) (intsOf (xs ++ [x]))) : w.ownsRow B 3 1 v (xs ++ [x]).length (intsOf (xs ++ [x])) := by
  rw [List.length_append]
  exact h

set_option maxRecDepth 100000 in
set_option maxHeartbeats 2000000 in
theorem drawSwaps (A : Option Addr) (c : Nat) (bs : List UInt8) (w : World) (hr : RB w w.heap.size A bs) (hn : bs.length ≤ 1048576) :
    Calls Try.prog 22 #[.slice A bs.length c] w (DrewSwaps w) := by
  go_enter Try.func22, Try.ntmps22
  go_wp2_with fail
  refine (openC A c bs w hr hn).mono ?_
  rintro e w1 ⟨rfl, hc1, hb1⟩
  have T0 : Two w w1.heap.size w.heap.size A c bs ((w1.alloc (.cells #[] 3)).alloc (.cells #[] 3)) 0 (.slice (some ⟨w1.heap.size, 0, none⟩) 0 0) (.slice (some ⟨w1.heap.size + 1, 0, none⟩) 0 0) [] [] := by
    have hb := (Below.refl w1.heap.size w1).alloc (Nat.le_refl _) (.cells #[] 3)
    refine ⟨(World.ownsRow_lit w1 #[] 0 (Nat.le_refl _) (Nat.zero_le _) rfl).alloc _, ?_, by simp [Value.ownBlock], (hc1.below hb).below ((Below.refl _ _).alloc (Nat.le_refl _) _), hc1.lt, (hb1.alloc hb1.size _).alloc (by have := hb1.size; simp; omega) _, by simp; omega, Nat.le_refl _⟩
    have := World.ownsRow_lit (base := w1.heap.size) (e := 3) (size := 1) (w1.alloc (.cells #[] 3)) #[] 0 (by simp) (Nat.zero_le _) rfl
    simpa [intsOf] using this
  clear hc1 hb1 hr
  go_wp2_with fail
  refine (sizeC _ w.heap.size A c bs 0 12 (by omega) (by omega) T0.cur (by omega)).mono ?_
  rintro e w2 ⟨x, rfl, x0, x1, hc2, hg2⟩
  obtain ⟨k0, rfl⟩ : ∃ k : Nat, x = k := ⟨x.toNat, by omega⟩
  have T2 := T0.draw hg2 hc2
  clear T0 hc2 hg2
  go_wp2
  go_loopw [6, 7, 8] (fun va vb kq wr => ∃ (xs ys : List Int) (q t : Nat), kq = .int .i64 (q : Int) ∧ ys.length = xs.length ∧ q + xs.length ≤ 12 ∧ t + 5 * q ≤ 100 ∧ Two w w1.heap.size w.heap.size A c bs wr t va vb xs ys) (fun _ _ kq _ => (intOf kq).toNat)
  case atStart => exact ⟨[], [], k0, 1, rfl, rfl, by simp; omega, by omega, T2⟩
  case round =>
    obtain ⟨xs, ys, q, t, rfl, hyx, hq, htq, T⟩ := hrel
    clear T2
    obtain ⟨C, cc, rfl⟩ := own_form T.oa
    obtain ⟨D, dd, rfl⟩ := own_form T.ob
    have Hyx := Lib.hid hyx
    clear hyx
    by_cases hq0 : q = 0
    · subst hq0
      go_wp2_with fail
      refine (pickC wr w.heap.size A c bs t 14 (by omega) (by omega) T.cur (by omega)).mono ?_
      rintro e w3 ⟨y, rfl, y0, y1, hc3, hg3⟩
      have T3 := T.draw hg3 hc3
      clear T hc3 hg3
      have hyl := Lib.hid (show ys.length ≤ 12 by have := Hyx.out; omega)
      by_cases hy0 : y = 0
      · subst hy0
        have T5 := Lib.hid (T3.alloc (.cells #[.int .i64 1] 3))
        have hbs := T3.base
        go_wp2_with (at_builtin; refine wpList_append_i rfl (.tmp 37) (.tmp 38) rfl w1.heap.size (.slice C xs.length cc) xs.length xs rfl T5.out.oa _ (some ⟨w3.heap.size, 0, none⟩) 1 1 [1] rfl rfl (RV.new w3 3 (intsOf [1])) (by omega) (by simp; omega) ?_; intro v6 w6 hown6 hg6 hat6)
        have T6 := T5.out.appA (snoc_own hown6) hg6 hat6
        obtain ⟨zs, hzs, hzl⟩ : ∃ zs : List Int, zs = xs ++ [1] ∧ zs.length ≤ 13 := ⟨_, rfl, by simp; omega⟩
        rw [← hzs] at T6
        obtain ⟨C6, c6, rfl⟩ := own_form T6.oa
        clear T3 T5 hown6 hg6 hat6 hbs hzs
        refine (pickC w6 w.heap.size A c bs (t + 1) 256 (by omega) (by omega) T6.cur (by omega)).mono ?_
        rintro e w7 ⟨z, rfl, z0, z1, hc7, hg7⟩
        have T7 := T6.draw hg7 hc7
        clear T6 hc7 hg7
        go_wp2_with fail
        refine (pickC w7 w.heap.size A c bs (t + 2) 256 (by omega) (by omega) T7.cur (by omega)).mono ?_
        rintro e w8 ⟨z', rfl, z0', z1', hc8, hg8⟩
        have T8 := Lib.hid (T7.draw hg8 hc8)
        clear T7 hc8 hg8
        go_wp2
        go_ret3
        exact T8.out.done _ (by omega) (by have := hyl.out; omega)
      · have e0 : (y == 0) = false := by simpa using hy0
        by_cases hy1 : y = 1
        · subst hy1
          go_wp2_with fail
          go_loopw [6, 7] (fun va vb wr => ∃ (xs ys : List Int) (t : Nat), ys.length ≤ 100 - (41 - xs.length) ∧ xs.length ≤ 41 ∧ t ≤ 200 + 3 * xs.length ∧ Two w w1.heap.size w.heap.size A c bs wr t va vb xs ys) (fun va _ _ => 41 - slen va)
          case atStart => exact ⟨xs, ys, t + 1, by have := hyl.out; omega, by omega, by omega, T3⟩
          case round =>
            obtain ⟨xs2, ys2, t2, hy2, hx2, ht2, T⟩ := hrel
            clear T3
            obtain ⟨C2, c2, rfl⟩ := own_form T.oa
            obtain ⟨D2, d2, rfl⟩ := own_form T.ob
            go_wp2_with fail
            refine (pickC wr w.heap.size A c bs t2 2 (by omega) (by omega) T.cur (by omega)).mono ?_
            rintro e w4 ⟨z, rfl, z0, z1, hc4, hg4⟩
            have T4 := T.draw hg4 hc4
            clear T hc4 hg4
            by_cases hlt : (xs2.length : Int) < 40 + z
            · go_wp2_with fail
              refine (pickC w4 w.heap.size A c bs (t2 + 1) 256 (by omega) (by omega) T4.cur (by omega)).mono ?_
              rintro e w5 ⟨x, rfl, a0, a1, hc5, hg5⟩
              have T5 := T4.draw hg5 hc5
              have hbs := T5.base
              have T6 := Lib.hid (T5.alloc (.cells #[.int .i64 x] 3))
              clear T4 hc5 hg5 T5
              go_wp2_with (at_builtin; refine wpList_append_i rfl (.tmp 48) (.tmp 51) rfl w1.heap.size (.slice C2 xs2.length c2) xs2.length xs2 rfl T6.out.oa _ (some ⟨w5.heap.size, 0, none⟩) 1 1 [x] rfl rfl (RV.new w5 3 (intsOf [x])) (by omega) (by simp; omega) ?_; intro v7 w7 hown7 hg7 hat7)
              have T7 := T6.out.appA (snoc_own hown7) hg7 hat7
              clear T6 hown7 hg7 hat7 hbs
              refine (pickC w7 w.heap.size A c bs (t2 + 2) 256 (by omega) (by omega) T7.cur (by omega)).mono ?_
              rintro e w8 ⟨x', rfl, a0', a1', hc8, hg8⟩
              have T8 := T7.draw hg8 hc8
              have hbs := T8.base
              have T9 := Lib.hid (T8.alloc (.cells #[.int .i64 x'] 3))
              clear T7 hc8 hg8 T8
              go_wp2_with (at_builtin; refine wpList_append_i rfl (.tmp 53) (.tmp 56) rfl w1.heap.size (.slice D2 ys2.length d2) ys2.length ys2 rfl T9.out.ob _ (some ⟨w8.heap.size, 0, none⟩) 1 1 [x'] rfl rfl (RV.new w8 3 (intsOf [x'])) (by omega) (by simp; omega) ?_; intro v10 w10 hown10 hg10 hat10)
              have T10 := T9.out.appB (snoc_own hown10) hg10 hat10
              obtain ⟨C7, c7, rfl⟩ := own_form T10.oa
              clear T9 hown10 hg10 hat10
              go_roundw
              case rel => exact ⟨xs2 ++ [x], ys2 ++ [x'], t2 + 3, by simp; omega, by simp; omega, by simp; omega, T10⟩
              case measure => simp [slen]; omega
            · go_wp2_with fail
              refine (pickC w4 w.heap.size A c bs (t2 + 1) 256 (by omega) (by omega) T4.cur (by omega)).mono ?_
              rintro e w7 ⟨z, rfl, z0, z1, hc7, hg7⟩
              have T7 := T4.draw hg7 hc7
              clear T4 hc7 hg7
              go_wp2_with fail
              refine (pickC w7 w.heap.size A c bs (t2 + 2) 256 (by omega) (by omega) T7.cur (by omega)).mono ?_
              rintro e w8 ⟨z', rfl, z0', z1', hc8, hg8⟩
              have T8 := Lib.hid (T7.draw hg8 hc8)
              clear T7 hc8 hg8
              go_wp2
              go_ret3
              exact T8.out.done _ (by omega) (by omega)
        · have e1 : (y == 1) = false := by simpa using hy1
          go_wp2_with fail
          refine (pickC w3 w.heap.size A c bs (t + 1) 256 (by omega) (by omega) T3.cur (by omega)).mono ?_
          rintro e w7 ⟨z, rfl, z0, z1, hc7, hg7⟩
          have T7 := T3.draw hg7 hc7
          clear T3 hc7 hg7
          go_wp2_with fail
          refine (pickC w7 w.heap.size A c bs (t + 2) 256 (by omega) (by omega) T7.cur (by omega)).mono ?_
          rintro e w8 ⟨z', rfl, z0', z1', hc8, hg8⟩
          have T8 := Lib.hid (T7.draw hg8 hc8)
          clear T7 hc8 hg8
          go_wp2
          go_ret3
          exact T8.out.done _ (by omega) (by have := hyl.out; omega)
    · have hqI : (0 : Int) < (q : Int) := by omega
      go_wp2_with fail
      refine (pickC wr w.heap.size A c bs t 256 (by omega) (by omega) T.cur (by omega)).mono ?_
      rintro e w3 ⟨y, rfl, y0, y1, hc3, hg3⟩
      have T3 := T.draw hg3 hc3
      clear T hc3 hg3
      go_wp2_with fail
      refine (pickC w3 w.heap.size A c bs (t + 1) 256 (by omega) (by omega) T3.cur (by omega)).mono ?_
      rintro e w4 ⟨z, rfl, z0, z1, hc4, hg4⟩
      have T4 := T3.draw hg4 hc4
      clear T3 hc4 hg4
      obtain ⟨x, hx⟩ : ∃ x : Int, 256 * y + z = x := ⟨_, rfl⟩
      have T5 := Lib.hid (T4.alloc (.cells #[.int .i64 x] 3))
      have hbs := T4.base
      go_wp2_with (at_builtin; refine wpList_append_i rfl (.tmp 19) (.tmp 26) rfl w1.heap.size (.slice C xs.length cc) xs.length xs rfl T5.out.oa _ (some ⟨w4.heap.size, 0, none⟩) 1 1 [x] rfl rfl (RV.new w4 3 (intsOf [x])) (by omega) (by simp; omega) ?_; intro v6 w6 hown6 hg6 hat6)
      have T6 := T5.out.appA (snoc_own hown6) hg6 hat6
      clear T4 T5 hown6 hg6 hat6 hbs
      refine (wordD w6 w.heap.size A c bs (t + 2) T6.cur (by omega)).mono ?_
      rintro e w7 ⟨x', t', rfl, ht', hc7, hg7⟩
      have T7 := T6.draw hg7 hc7
      have hbs := T7.base
      have T8 := Lib.hid (T7.alloc (.cells #[.int .i64 x'] 3))
      clear T6 hc7 hg7 T7
      go_wp2_with (at_builtin; refine wpList_append_i rfl (.tmp 28) (.tmp 31) rfl w1.heap.size (.slice D ys.length dd) ys.length ys rfl T8.out.ob _ (some ⟨w7.heap.size, 0, none⟩) 1 1 [x'] rfl rfl (RV.new w7 3 (intsOf [x'])) (by have := Hyx.out; omega) (by simp; omega) ?_; intro v9 w9 hown9 hg9 hat9)
      have T9 := T8.out.appB (snoc_own hown9) hg9 hat9
      clear T8 hown9 hg9 hat9
      go_roundw
      case rel => exact ⟨xs ++ [x], ys ++ [x'], q - 1, t', by go_num, by simp [Hyx.out], by simp; omega, by omega, T9⟩
      case measure => simp [intOf]; omega
end Go.Proofs.Ytfbigjeonajmfaa
