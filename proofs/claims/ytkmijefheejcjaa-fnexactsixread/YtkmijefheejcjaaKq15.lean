/-
  Worlds that differ only in some blocks, and in what was made since. Plain: any program. The marking of an IPv4 packet whose options take up all the room that the laws allow. The laws' own marking of IPv6 packets, and a look at the marks. The extension headers, looked through by the program. Blocks of sixteen cells as one fact each. Plain: any program.
-/
import Derived.Test.YtkmijefheejcjaaKq01
import Derived.Test.YtkmijefheejcjaaKq07
import Derived.Test.YtkmijefheejcjaaKq11
import Derived.Test.YtkmijefheejcjaaKq06
namespace Go.Proofs.Ytkmijefheejcjaa
set_option maxRecDepth 100000
open Go.RowKit

/-- Only blocks of S were written, and new ones made. -/
structure Touch (S : Nat → Prop) (w w' : World) : Prop where
  os : w'.os = w.os
  tape : w'.tape = w.tape
  output : w'.output = w.output
  size : w.heap.size ≤ w'.heap.size
  block : ∀ g, g < w.heap.size → ¬ S g → w'.heap[g]? = w.heap[g]?
section
variable {w w' w'' : World} {S : Nat → Prop}
theorem Touch.refl (S : Nat → Prop) (w : World) : Touch S w w := ⟨rfl, rfl, rfl, Nat.le_refl _, fun _ _ _ => rfl⟩
theorem Touch.trans (h : Touch S w w') (k : Touch S w' w'') : Touch S w w'' :=
  ⟨k.os.trans h.os, k.tape.trans h.tape, k.output.trans h.output, Nat.le_trans h.size k.size, fun g hg ho => (k.block g (Nat.lt_of_lt_of_le hg h.size) ho).trans (h.block g hg ho)⟩
theorem Touch.of_grown {row : Option Nat} (h : w.grownBy w' row) (hr : ∀ k, row = some k → S k) : Touch S w w' :=
  ⟨h.os, h.tape, h.output, h.size, fun g hg ho => h.block g hg (fun e => ho (hr g e.symm))⟩
theorem Touch.of_below (h : Below w.heap.size w w') : Touch S w w' := ⟨h.os, h.tape, h.output, h.size, fun g hg _ => h.block g hg⟩
theorem Touch.wide {T : Nat → Prop} (h : Touch S w w') (hs : ∀ g, S g → T g) : Touch T w w' := ⟨h.os, h.tape, h.output, h.size, fun g hg ho => h.block g hg (fun e => ho (hs g e))⟩
theorem Touch.kept {g : Nat} {o : Obj} (h : Touch S w w') (hr : w.heap[g]? = some o) (hg : ¬ S g) : w'.heap[g]? = some o := (h.block g (Array.getElem?_eq_some_iff.1 hr).1 hg).trans hr
theorem Touch.own {base : Nat} {e : TypeId} {size n : Nat} {v : Value} {xs : List Value} (h : Touch S w w') (ho : w.ownsRow base e size v n xs) (hv : ∀ k, v.ownBlock = some k → ¬ S k) : w'.ownsRow base e size v n xs := by
  refine ⟨ho.1, ?_⟩
  rcases ho.2 with h1 | ⟨g, cap, cur, hv', hb, hg, h2⟩
  · exact .inl h1
  · refine .inr ⟨g, cap, cur, hv', hb, ?_, h2⟩
    exact h.kept hg (hv g (by rw [hv']; rfl))
theorem Touch.below {W : World} (h : Touch S w w') (hb : Below W.heap.size W w) (hlo : ∀ g, S g → W.heap.size ≤ g) : Below W.heap.size W w' :=
  ⟨h.os.trans hb.os, h.tape.trans hb.tape, h.output.trans hb.output, Nat.le_trans hb.size h.size, fun g hg => (h.block g (Nat.lt_of_lt_of_le hg hb.size) (fun e => by have := hlo g e; omega)).trans (hb.block g hg)⟩
end
end Go.Proofs.Ytkmijefheejcjaa

namespace Go.Proofs.Ytkmijefheejcjaa
set_option maxRecDepth 100000
open Go.RowKit

set_option maxHeartbeats 400000 in
theorem markB0 (A : Option Addr) (c : Nat) (k : Int) (w : World) : Calls Try.prog 33 #[.slice A 0 c, .int .i64 k] w fun e w' => e = .returned (.int .i64 k) ∧ w = w' := by
  go_enter Try.func33, Try.ntmps33
  go_wp2
  go_loop [1, 5] (fun q i => i = .int .i64 0 ∧ q = .int .i64 k) (fun _ _ => 0)
  case atStart => exact ⟨rfl, rfl⟩
  case round =>
    obtain ⟨rfl, rfl⟩ := hrel
    go_wp2
    go_ret
    exact ⟨rfl, rfl⟩



end Go.Proofs.Ytkmijefheejcjaa

namespace Go.Proofs.Ytkmijefheejcjaa
set_option maxRecDepth 100000
open Go.RowKit

theorem marks_nil (k : Nat) : marks k 0 = [] := rfl
theorem markBz (A : Option Addr) (n c base : Nat) (bs : List UInt8) (k : Nat) (w : World) (hown : w.ownsRow base 5 1 (.slice A n c) n (cellsOf bs)) (hl : bs.length = n) (hn : n ≤ 1048576) (hk : n = 0 ∨ k ≤ 1048576) :
    Calls Try.prog 33 #[.slice A n c, .int .i64 (k : Int)] w fun e w' => e = .returned (.int .i64 ((k + n : Nat) : Int)) ∧ w'.ownsRow base 5 1 (.slice A n c) n (cellsOf (marks k n)) ∧ w.grownBy w' (Value.slice A n c).ownBlock := by
  rcases hk with rfl | hk
  · have e : bs = [] := List.length_eq_zero_iff.1 hl
    subst e
    exact (markB0 A c k w).mono fun _ _ ⟨he, hw⟩ => ⟨he, hw ▸ hown, hw ▸ K.refl _ _⟩
  · refine (markBn A n c base bs (k : Int) w hown hn (by omega) (by omega)).mono fun _ _ ⟨he, ho, hg⟩ => ⟨?_, ?_, hg⟩
    · rw [he]
      simp
    · simpa using ho

set_option maxHeartbeats 400000 in
theorem heldB0 (A : Option Addr) (c : Nat) (k : Int) (w : World) : Calls Try.prog 36 #[.slice A 0 c, .int .i64 k] w fun e w' => e = .returned (.int .i64 k) ∧ w = w' := by
  go_enter Try.func36, Try.ntmps36
  go_wp2
  go_loop [1, 5] (fun q i => i = .int .i64 0 ∧ q = .int .i64 k) (fun _ _ => 0)
  case atStart => exact ⟨rfl, rfl⟩
  case round =>
    obtain ⟨rfl, rfl⟩ := hrel
    go_wp2
    go_ret
    exact ⟨rfl, rfl⟩

/-- The blocks of a row of extension headers and of its bodies. -/
def xblocks (A : Option Addr) (n c : Nat) (ys : List Ey) (g : Nat) : Prop := (Value.slice A n c).ownBlock = some g ∨ ∃ z ∈ ys, z.body.ownBlock = some g
/-- What a marking from k on leaves. -/
def markedE : Nat → List Ey → List Ey
  | _, [] => []
  | k, y :: ys => ⟨k, marks (k + 1) y.bs.length, y.A, y.c⟩ :: markedE (k + 1 + y.bs.length) ys
theorem markedE_length (ys : List Ey) : ∀ k, (markedE k ys).length = ys.length := by
  induction ys with
  | nil => intro k; rfl
  | cons y ys ih => intro k; simp [markedE, ih]
theorem markedE_bodies (ys : List Ey) : ∀ k, bodies (markedE k ys) = bodies ys := by
  induction ys with
  | nil => intro k; rfl
  | cons y ys ih =>
    intro k
    have := ih (k + 1 + y.bs.length)
    simp only [bodies, markedE, List.map_cons, List.sum_cons, marks_length] at this ⊢
    omega
theorem markedE_snoc (ys : List Ey) (y : Ey) : ∀ k, markedE k (ys ++ [y]) = markedE k ys ++ [⟨((k + ys.length + bodies ys : Nat) : Int), marks (k + ys.length + bodies ys + 1) y.bs.length, y.A, y.c⟩] := by
  induction ys with
  | nil => intro k; simp [markedE, bodies]
  | cons x ys ih =>
    intro k
    have h := ih (k + 1 + x.bs.length)
    have e : k + 1 + x.bs.length + ys.length + bodies ys = k + (x :: ys).length + bodies (x :: ys) := by
      simp only [bodies, List.map_cons, List.sum_cons, List.length_cons]
      omega
    rw [List.cons_append, markedE, h, e]
    rfl
theorem marked_block (ys : List Ey) : ∀ (k : Nat) (z : Ey), z ∈ markedE k ys → ∃ y ∈ ys, z.body.ownBlock = y.body.ownBlock := by
  induction ys with
  | nil => intro k z hz; cases hz
  | cons y ys ih =>
    intro k z hz
    rcases List.mem_cons.1 hz with rfl | hz
    · exact ⟨y, by simp, by simp only [Ey.body, marks_length]⟩
    · obtain ⟨y', h1, h2⟩ := ih _ z hz
      exact ⟨y', by simp [h1], h2⟩
theorem xcells_kind (ys : List Ey) (y : Ey) (zs : List Ey) (k : Int) (ms : List UInt8) (hms : ms.length = y.bs.length) : (xcells (ys ++ y :: zs)).set (ys.length * 2) (.int .i64 k) = xcells (ys ++ ⟨k, ms, y.A, y.c⟩ :: zs) := by
  rw [xcells_append, xcells_append, xcells_cons, xcells_cons, set_mid _ _ _ _ _ (xcells_length ys)]
  simp only [hms]
theorem body_same (k : Int) (ms : List UInt8) (y : Ey) (h : ms.length = y.bs.length) : (⟨k, ms, y.A, y.c⟩ : Ey).body = y.body := by simp [Ey.body, h]

theorem XO.mark {w w2 : World} {base n c g : Nat} {pre post : List Ey} {y : Ey} {k : Int} {ms : List UInt8} (h : XO w base (some ⟨g, 0, none⟩) n c (pre ++ y :: post)) (hms : ms.length = y.bs.length)
    (hg : (w.setCell ⟨g, pre.length * 2, none⟩ (.int .i64 k)).grownBy w2 y.body.ownBlock) (ho : w2.ownsRow base 5 1 y.body y.bs.length (cellsOf ms)) : XO w2 base (some ⟨g, 0, none⟩) n c (pre ++ ⟨k, ms, y.A, y.c⟩ :: post) := by
  have hy : y ∈ pre ++ y :: post := by simp
  have hap := List.pairwise_append.1 h.apart
  have hap2 := List.pairwise_cons.1 hap.2.1
  have hgb : (Value.slice (some ⟨g, 0, none⟩) n c).ownBlock = some g := rfl
  have keep : ∀ z ∈ pre ++ y :: post, (∀ k, z.body.ownBlock = some k → y.body.ownBlock ≠ some k) → w2.ownsRow base 5 1 z.body z.bs.length (cellsOf z.bs) := by
    intro z hz hne
    refine own_grown (own_grown (h.own z hz) (grownBy_set w g _ _) (fun k hk e => h.off z hz k hk ?_)) hg hne
    rw [hgb]
    exact e
  refine ⟨by have := h.len; simpa using this, ?_, ?_, ?_, ?_⟩
  · have R := (h.row.stored (pre.length * 2) (.int .i64 k)).1
    rw [xcells_kind pre y post k ms hms] at R
    exact own_grown R hg (fun j hj e => h.off y hy j e hj)
  · intro z hz
    rcases List.mem_append.1 hz with hz | hz
    · exact keep z (by simp [hz]) (fun k hk => hap.2.2 z hz y (by simp) k hk)
    · rcases List.mem_cons.1 hz with rfl | hz
      · rw [body_same k ms y hms]
        simpa [hms] using ho
      · exact keep z (by simp [hz]) (fun k hk e => hap2.1 z hz k e hk)
  · rw [List.pairwise_append]
    refine ⟨hap.1, ?_, ?_⟩
    · rw [List.pairwise_cons]
      refine ⟨fun z hz => ?_, hap2.2⟩
      rw [body_same k ms y hms]
      exact hap2.1 z hz
    · intro a ha b hb
      rcases List.mem_cons.1 hb with rfl | hb
      · rw [body_same k ms y hms]
        exact hap.2.2 a ha y (by simp)
      · exact hap.2.2 a ha b (by simp [hb])
  · intro z hz
    rcases List.mem_append.1 hz with hz | hz
    · exact h.off z (by simp [hz])
    · rcases List.mem_cons.1 hz with rfl | hz
      · rw [body_same k ms y hms]
        exact h.off y hy
      · exact h.off z (by simp [hz])

theorem XO.alloc {w : World} {base : Nat} {A : Option Addr} {n c : Nat} {zs : List Ey} (h : XO w base A n c zs) (o : Obj) : XO (w.alloc o) base A n c zs := h.below (Joins.below_alloc1 w o)

set_option maxHeartbeats 1000000 in
theorem markExtS_C (A : Option Addr) (n c base : Nat) (ys : List Ey) (k0 : Nat) (w : World) (h : XO w base A n c ys) (hk : k0 + n + bodies ys ≤ 1048577) (hn : n ≤ 1048576) :
    Calls Try.prog 94 #[.slice A n c, .int .i64 (k0 : Int)] w fun e w' => e = .returned (.int .i64 ((k0 + n + bodies ys : Nat) : Int)) ∧ XO w' base A n c (markedE k0 ys) ∧ Touch (xblocks A n c ys) w w' := by
  have HL := Lib.hid h.len
  have H0 := Lib.hid h
  clear h
  go_enter Try.func94, Try.ntmps94
  go_wp2
  go_loopw [1, 5] (fun q i wr => ∃ j : Nat, j ≤ n ∧ i = .int .i64 j ∧ q = .int .i64 ((k0 + j + bodies (ys.take j) : Nat) : Int) ∧ Hid (XO wr base A n c (markedE k0 (ys.take j) ++ ys.drop j)) ∧ Hid (Touch (xblocks A n c ys) w wr)) (fun _ i _ => n - (intOf i).toNat)
  case atStart => exact ⟨0, Nat.zero_le _, rfl, by simp [bodies], Lib.hid (by simpa [markedE] using H0.out), Lib.hid (Touch.refl _ _)⟩
  case round =>
    obtain ⟨j, hj, rfl, rfl, hxo, ht⟩ := hrel
    by_cases hlt : j < n
    · have hj2 : j < ys.length := by rw [HL.out]; exact hlt
      obtain ⟨g, rfl, hgb⟩ := own_some hxo.out.row (by omega)
      have hd : ys.drop j = ys[j] :: ys.drop (j + 1) := List.drop_eq_getElem_cons hj2
      have hbt := bodies_take ys j hj2
      have hble := bodies_le ys (j + 1)
      have hsn : Hid (markedE k0 (ys.take (j + 1)) = markedE k0 (ys.take j) ++ [⟨((k0 + j + bodies (ys.take j) : Nat) : Int), marks (k0 + j + bodies (ys.take j) + 1) ys[j].bs.length, ys[j].A, ys[j].c⟩]) := Lib.hid (by
        rw [take_snoc ys j hj2, markedE_snoc]
        simp [Nat.min_eq_left (Nat.le_of_lt hj2)])
      obtain ⟨post, hpost⟩ : ∃ p, ys.drop (j + 1) = p := ⟨_, rfl⟩
      rw [hpost] at hd
      have HPO := Lib.hid hpost
      have HX := hxo.out
      rw [hd] at HX
      clear hd hpost
      have hpl : (markedE k0 (ys.take j)).length = j := by rw [markedE_length]; simp; omega
      have c0 := HX.row.cellAt (j * 2) (by omega)
      have f0 := HX.row.frozenAt (j * 2)
      obtain ⟨t0, ht0⟩ : ∃ t, (xcells (markedE k0 (ys.take j) ++ ys[j] :: post))[j * 2]? = some t := ⟨_, List.getElem?_eq_getElem (show j * 2 < (xcells (markedE k0 (ys.take j) ++ ys[j] :: post)).length by rw [xcells_length, List.length_append, hpl, List.length_cons]; omega)⟩
      rw [ht0] at c0
      have RS := (HX.row.stored (j * 2) (.int .i64 ((k0 + j + bodies (ys.take j) : Nat) : Int))).1
      have c1 := RS.cellAt (j * 2 + 1) (by omega)
      have e1 : ((xcells (markedE k0 (ys.take j) ++ ys[j] :: post)).set (j * 2) (.int .i64 ((k0 + j + bodies (ys.take j) : Nat) : Int)))[j * 2 + 1]? = some (.slice ys[j].A ys[j].bs.length ys[j].c) := by
        rw [List.getElem?_set_ne (by omega), xcells_get1 _ _ (by simp [hpl])]
        simp [hpl]
      rw [e1] at c1
      have HBO := Lib.hid (own_grown (HX.own ys[j] (by simp)) (grownBy_set wr g (j * 2) (.int .i64 ((k0 + j + bodies (ys.take j) : Nat) : Int))) (fun q hq e => HX.off ys[j] (by simp) q hq e))
      have HMK := Lib.hid (fun (w2 : World) (ms : List UInt8) (hms : ms.length = ys[j].bs.length) (hg : (wr.setCell ⟨g, j * 2, none⟩ (.int .i64 ((k0 + j + bodies (ys.take j) : Nat) : Int))).grownBy w2 ys[j].body.ownBlock) (ho : w2.ownsRow base 5 1 ys[j].body ys[j].bs.length (cellsOf ms)) => HX.mark (k := ((k0 + j + bodies (ys.take j) : Nat) : Int)) hms (by rw [hpl]; exact hg) ho)
      have HYL := Lib.hid (show ∀ q, ys[j].body.ownBlock = some q → xblocks (some ⟨g, 0, none⟩) n c ys q from fun q hq => .inr ⟨ys[j], List.getElem_mem hj2, hq⟩)
      have HGL := Lib.hid (show xblocks (some ⟨g, 0, none⟩) n c ys g from .inl rfl)
      obtain ⟨K1, hK1⟩ : ∃ K1, k0 + j + bodies (ys.take j) = K1 := ⟨_, rfl⟩
      rw [hK1] at c1 hsn HBO HMK
      have hKb : Hid (k0 + (j + 1) + bodies (ys.take (j + 1)) = K1 + 1 + ys[j].bs.length) := Lib.hid (by omega)
      have hz : ys[j].bs.length = 0 ∨ K1 + 1 ≤ 1048576 := by omega
      have hK2 : K1 ≤ 1048577 := by omega
      have hb2 : ys[j].bs.length ≤ 1048577 := by omega
      have hb3 : ys[j].bs.length ≤ 1048576 := by omega
      rw [hK1]
      clear RS e1 ht0 hbt hble HX hpl hgb hK1
      generalize ys[j] = y at *
      have hz' := Lib.hid hz
      clear hz
      go_wp2_with fail
      have MB := markBz y.A y.bs.length y.c base y.bs (K1 + 1) _ HBO.out rfl hb3 hz'.out
      refine Calls.mono MB ?_
      rintro e w2 ⟨rfl, o2, g2⟩
      have X2 := Lib.hid (HMK.out w2 _ (marks_length _ _) g2 o2)
      have T2 := Lib.hid ((ht.out.trans (Touch.of_grown (grownBy_set wr g (j * 2) _) (fun q hq => by cases hq; exact HGL.out))).trans (Touch.of_grown g2 HYL.out))
      clear o2 g2 MB
      go_wp2
      go_roundw
      case rel =>
        refine ⟨j + 1, by omega, by go_num, by rw [hKb.out]; congr 1, Lib.hid ?_, T2⟩
        rw [hsn.out, List.append_assoc, HPO.out]
        exact X2.out
      case measure => simp [intOf]; omega
    · obtain rfl : j = n := by omega
      have e1 : ys.take j = ys := List.take_of_length_le (by rw [HL.out]; exact Nat.le_refl _)
      have e2 : ys.drop j = [] := List.drop_eq_nil_of_le (by rw [HL.out]; exact Nat.le_refl _)
      have HX := hxo.out
      rw [e1, e2, List.append_nil] at HX
      have HX2 := Lib.hid HX
      rw [e1]
      clear e1 e2 HX hxo
      go_wp2
      go_ret
      exact ⟨rfl, HX2.out, ht.out⟩

theorem markedE_take (ys : List Ey) (k i : Nat) (h : i < ys.length) : (markedE k ys)[i]'(by rw [markedE_length]; exact h) = ⟨((k + i + bodies (ys.take i) : Nat) : Int), marks (k + i + bodies (ys.take i) + 1) ys[i].bs.length, ys[i].A, ys[i].c⟩ := by
  induction ys generalizing k i with
  | nil => simp at h
  | cons y ys ih =>
    cases i with
    | zero => simp [markedE, bodies]
    | succ i =>
      simp at h
      have e : k + 1 + y.bs.length + i + bodies (ys.take i) = k + (i + 1) + bodies ((y :: ys).take (i + 1)) := by
        simp only [bodies, List.take_succ_cons, List.map_cons, List.sum_cons]
        omega
      have := ih (k + 1 + y.bs.length) i h
      rw [e] at this
      simpa [markedE] using this

theorem heldBz (A : Option Addr) (n c : Nat) (k : Nat) (w : World) (hr : RB w w.heap.size A (marks k n)) (hn : n ≤ 1048576) (hk : n = 0 ∨ k ≤ 1048576) :
    Calls Try.prog 36 #[.slice A n c, .int .i64 (k : Int)] w fun e w' => e = .returned (.int .i64 ((k + n : Nat) : Int)) ∧ w = w' := by
  rcases hk with rfl | hk
  · exact (heldB0 A c k w).mono fun _ _ ⟨he, hw⟩ => ⟨he, hw⟩
  · refine (heldBn A n c (k : Int) w (by simpa using hr) hn (by omega) (by omega)).mono fun _ _ ⟨he, hw⟩ => ⟨?_, hw⟩
    rw [he]
    simp

set_option maxHeartbeats 1000000 in
theorem heldExtS_C (A : Option Addr) (n c : Nat) (ys : List Ey) (k0 : Nat) (w : World) (h : XR w w.heap.size A (markedE k0 ys)) (hl : ys.length = n) (hk : k0 + n + bodies ys ≤ 1048577) (hn : n ≤ 1048576) :
    Calls Try.prog 95 #[.slice A n c, .int .i64 (k0 : Int)] w fun e w' => e = .returned (.int .i64 ((k0 + n + bodies ys : Nat) : Int)) ∧ w = w' := by
  have HL := Lib.hid hl
  have H0 := Lib.hid h
  clear h hl
  go_enter Try.func95, Try.ntmps95
  go_wp2
  go_loopw [1, 5] (fun q i wr => ∃ j : Nat, j ≤ n ∧ i = .int .i64 j ∧ q = .int .i64 ((k0 + j + bodies (ys.take j) : Nat) : Int) ∧ wr = w) (fun _ i _ => n - (intOf i).toNat)
  case atStart => exact ⟨0, Nat.zero_le _, rfl, by simp [bodies], rfl⟩
  case round =>
    obtain ⟨j, hj, rfl, rfl, rfl⟩ := hrel
    by_cases hlt : j < n
    · have hj2 : j < ys.length := by rw [HL.out]; exact hlt
      have hj3 : j < (markedE k0 ys).length := by rw [markedE_length]; exact hj2
      have hbt := bodies_take ys j hj2
      have hble := bodies_le ys (j + 1)
      obtain ⟨g, o, rfl, hg, c0, c1⟩ := H0.out.at_ hj3
      have HR := Lib.hid (H0.out.body _ (List.getElem_mem hj3))
      rw [markedE_take ys k0 j hj2] at c0 c1 HR
      simp only [marks_length] at c0 c1 HR
      obtain ⟨K1, hK1⟩ : ∃ K1, k0 + j + bodies (ys.take j) = K1 := ⟨_, rfl⟩
      rw [hK1] at c0 HR
      have hKb : Hid (k0 + (j + 1) + bodies (ys.take (j + 1)) = K1 + 1 + ys[j].bs.length) := Lib.hid (by omega)
      have hz : Hid (ys[j].bs.length = 0 ∨ K1 + 1 ≤ 1048576) := Lib.hid (by omega)
      have hK2 : K1 ≤ 1048577 := by omega
      have hb2 : ys[j].bs.length ≤ 1048577 := by omega
      have hb3 : ys[j].bs.length ≤ 1048576 := by omega
      rw [hK1]
      clear hbt hble hK1
      generalize ys[j] = y at *
      go_wp2_with fail
      have MB := heldBz y.A y.bs.length y.c (K1 + 1) _ HR.out hb3 hz.out
      refine Calls.mono MB ?_
      rintro e w2 ⟨rfl, rfl⟩
      clear MB
      go_wp2
      go_roundw
      case rel => exact ⟨j + 1, by omega, by go_num, by rw [hKb.out]; congr 1, (by first | rfl | trivial)⟩
      case measure => simp [intOf]; omega
    · obtain rfl : j = n := by omega
      have e1 : ys.take j = ys := List.take_of_length_le (by rw [HL.out]; exact Nat.le_refl _)
      rw [e1]
      clear e1
      go_wp2
      go_ret
      exact ⟨rfl, rfl⟩

/-- The blocks of a packet. -/
def sblocks (A D : Option Addr) (n c m d : Nat) (ys : List Ey) (g : Nat) : Prop := xblocks A n c ys g ∨ (Value.slice D m d).ownBlock = some g

set_option maxHeartbeats 1000000 in
theorem markSixC (x : Sh) (A D : Option Addr) (n c m d base : Nat) (ys : List Ey) (bs : List UInt8) (w : World) (h : XO w base A n c ys) (ho : w.ownsRow base 5 1 (.slice D m d) m (cellsOf bs)) (hm : bs.length = m) (hap : ∀ k, (Value.slice D m d).ownBlock = some k → (Value.slice A n c).ownBlock ≠ some k ∧ ∀ z ∈ ys, z.body.ownBlock ≠ some k) (hn : n + bodies ys + m ≤ 1048576) :
    Calls Try.prog 34 #[.agg #[.int .i64 x.cls, .int .i64 x.label, .int .i64 x.hops, .int .i64 x.proto, .int .i64 x.src.k, .int .i64 x.src.a, .int .i64 x.src.b, .int .i64 x.src.c, .int .i64 x.src.d, .int .i64 x.dst.k, .int .i64 x.dst.a, .int .i64 x.dst.b, .int .i64 x.dst.c, .int .i64 x.dst.d, .slice A n c, .slice D m d], .int .i64 1] w fun e w' => e = .returned (.int .i64 ((1 + n + bodies ys + m : Nat) : Int)) ∧ XO w' base A n c (markedE 1 ys) ∧ w'.ownsRow base 5 1 (.slice D m d) m (cellsOf (marks (1 + n + bodies ys) m)) ∧ Touch (sblocks A D n c m d ys) w w' := by
  have HX := Lib.hid (fun o : Obj => h.alloc o)
  have HO := Lib.hid (fun o : Obj => ho.alloc o)
  have HM := Lib.hid hm
  have HAP := Lib.hid hap
  have HLT := Lib.hid h.lt
  have HOL := Lib.hid (fun k hk => (ho.lt k hk).2)
  clear h ho hm hap
  go_enter Try.func34, Try.ntmps34
  go_wp2_with fail
  refine Calls.mono (markExtS_C A n c base ys 1 _ (HX.out _) (by omega) (by omega)) ?_
  rintro e w1 ⟨rfl, x1, t1⟩
  have q1 := t1.kept (K.new w _) (fun hs => by
    rcases hs with hs | ⟨z, hz, hs⟩
    · have := (HLT.out.1 _ hs).2; omega
    · have := (HLT.out.2 z hz _ hs).2; omega)
  have d15 := K.cell q1 15 _ rfl
  have O1 := Lib.hid (t1.own (HO.out _) (fun k hk hs => by
    rcases hs with hs | ⟨z, hz, hs⟩
    · exact (HAP.out k hk).1 hs
    · exact (HAP.out k hk).2 z hz hs))
  have X1 := Lib.hid x1
  have T1 := Lib.hid ((Touch.of_below (S := sblocks A D n c m d ys) (Joins.below_alloc1 w _)).trans (t1.wide (fun g hg => .inl hg)))
  clear x1 t1 q1
  obtain ⟨K1, hK1⟩ : ∃ K1, 1 + n + bodies ys = K1 := ⟨_, rfl⟩
  have hKz : Hid (m = 0 ∨ K1 ≤ 1048576) := Lib.hid (by omega)
  have hK2 : K1 ≤ 1048577 := by omega
  have hm2 : m ≤ 1048576 := by omega
  have HK1 := Lib.hid hK1
  rw [hK1]
  clear hK1
  go_wp2_with fail
  refine Calls.mono (markBz D m d base bs K1 _ O1.out HM.out hm2 hKz.out) ?_
  rintro e w2 ⟨rfl, o2, g2⟩
  have X2 : Hid (XO w2 base A n c (markedE 1 ys)) := Lib.hid ⟨X1.out.len, own_grown X1.out.row g2 (fun k h1 h2 => (HAP.out k h2).1 h1), fun z hz => own_grown (X1.out.own z hz) g2 (fun k h1 h2 => by
    obtain ⟨y, hy, e⟩ := marked_block ys 1 z hz
    exact (HAP.out k h2).2 y hy (by rw [← e]; exact h1)), X1.out.apart, X1.out.off⟩
  have T2 := Lib.hid (T1.out.trans (Touch.of_grown g2 (fun k hk => .inr hk)))
  have O2 := Lib.hid o2
  clear o2 g2
  go_wp2
  go_ret
  exact ⟨ret_int (by have := HK1.out; omega), X2.out, by rw [HK1.out]; exact O2.out, T2.out⟩

set_option maxHeartbeats 1000000 in
theorem heldSixC (x : Sh) (A D : Option Addr) (n c m d : Nat) (ys : List Ey) (w : World) (h : XR w w.heap.size A (markedE 1 ys)) (hl : ys.length = n) (hr : RB w w.heap.size D (marks (1 + n + bodies ys) m)) (hn : n + bodies ys + m ≤ 1048576) :
    Calls Try.prog 35 #[.agg #[.int .i64 x.cls, .int .i64 x.label, .int .i64 x.hops, .int .i64 x.proto, .int .i64 x.src.k, .int .i64 x.src.a, .int .i64 x.src.b, .int .i64 x.src.c, .int .i64 x.src.d, .int .i64 x.dst.k, .int .i64 x.dst.a, .int .i64 x.dst.b, .int .i64 x.dst.c, .int .i64 x.dst.d, .slice A n c, .slice D m d], .int .i64 1] w fun e w' => e = .returned (.int .i64 ((1 + n + bodies ys + m : Nat) : Int)) ∧ Below w.heap.size w w' := by
  have HX := Lib.hid (fun o : Obj => h.on (Joins.below_alloc1 w o))
  have HR := Lib.hid (fun o : Obj => (hr.below (Joins.below_alloc1 w o)).more (show w.heap.size ≤ (w.alloc o).heap.size by simp))
  have HL := Lib.hid hl
  clear h hr hl
  go_enter Try.func35, Try.ntmps35
  go_wp2_with fail
  refine Calls.mono (heldExtS_C A n c ys 1 _ (HX.out _) HL.out (by omega) (by omega)) ?_
  rintro e w1 ⟨rfl, rfl⟩
  obtain ⟨K1, hK1⟩ : ∃ K1, 1 + n + bodies ys = K1 := ⟨_, rfl⟩
  have hKz : Hid (m = 0 ∨ K1 ≤ 1048576) := Lib.hid (by omega)
  have hK2 : K1 ≤ 1048577 := by omega
  have hm2 : m ≤ 1048576 := by omega
  have HK1 := Lib.hid hK1
  rw [hK1] at HR ⊢
  clear hK1
  go_wp2_with fail
  refine Calls.mono (heldBz D m d K1 _ (HR.out _) hm2 hKz.out) ?_
  rintro e w2 ⟨rfl, rfl⟩
  go_wp2
  go_ret
  exact ⟨ret_int (by have := HK1.out; omega), Joins.below_alloc1 w _⟩
end Go.Proofs.Ytkmijefheejcjaa

namespace Go.Proofs.Ytkmijefheejcjaa
set_option maxRecDepth 100000
open Go.RowKit

theorem extsOk_no {es : List (Int × List UInt8)} {k : Nat} (hk : k < es.length) (h : extOk k es[k] = false) : extsOk es = false := by
  cases hh : extsFrom 0 es with
  | false => simp [extsOk, hh]
  | true =>
    have := extsFrom_prefix (k + 1) 0 hh
    rw [extsFrom_take hk, h] at this
    simp at this
theorem extOk_inner {k : Nat} {e : Int × List UInt8} (h : inner e.1 = false) : extOk k e = false := by simp [extOk, h]
theorem extOk_first {k : Nat} {e : Int × List UInt8} (h : e.1 = 0) (hk : 0 < k) : extOk k e = false := by simp [extOk, h, hk]
theorem extOk_long {k : Nat} {e : Int × List UInt8} (h : 62 < e.2.length) : extOk k e = false := by
  simp only [extOk, show ¬ (e.2.length ≤ 62) by omega, decide_false, Bool.and_false, Bool.false_and]
theorem extOk_unit {k : Nat} {e : Int × List UInt8} (h : e.2.length % 8 ≠ 6) : extOk k e = false := by
  simp only [extOk, h, decide_false, Bool.and_false]
theorem extOk_yes {k : Nat} {e : Int × List UInt8} (h1 : inner e.1 = true) (h2 : e.1 ≠ 0 ∨ k = 0) (h3 : e.2.length ≤ 62) (h4 : e.2.length % 8 = 6) : extOk k e = true := by
  rcases h2 with h2 | h2
  · simp [extOk, h1, h2, h3, h4]
  · subst h2
    simp [extOk, h1, h3, h4]

theorem innerIW (k : Int) (b : Bool) (w : World) (h : inner k = b) : Calls Try.prog 106 #[.int .i64 k] w fun e w' => e = .returned (.bool b) ∧ w = w' := h ▸ innerI k w

set_option maxHeartbeats 2000000 in
theorem extsOkI (A : Option Addr) (n c : Nat) (ys : List Ey) (w : World) (hx : XR w w.heap.size A ys) (hl : ys.length = n) (hn : n ≤ 1048576) (hb : bodies ys ≤ 1048576) :
    Calls Try.prog 108 #[.slice A n c] w fun e w' => e = .returned (.bool (extsOk (ys.map Ey.says))) ∧ Below w.heap.size w w' := by
  have HX := Lib.hid hx
  have HL := Lib.hid hl
  have HB := Lib.hid hb
  clear hx hl hb
  by_cases h3 : n ≤ 3
  · go_enter Try.func108, Try.ntmps108
    go_wp2
    go_loopw [10] (fun i wr => ∃ k : Nat, k ≤ n ∧ i = .int .i64 k ∧ Hid (extsFrom 0 ((ys.map Ey.says).take k) = true) ∧ Below w.heap.size w wr) (fun i _ => n - (intOf i).toNat)
    case atStart => exact ⟨0, Nat.zero_le _, rfl, Lib.hid rfl, Below.refl _ _⟩
    case round =>
      obtain ⟨k, hk, rfl, hz, hb⟩ := hrel
      by_cases hlt : k < n
      · have hk2 : k < ys.length := by rw [HL.out]; exact hlt
        obtain ⟨g, o, rfl, hg, hc0, hc1⟩ := HX.out.at_ hk2
        have c0 := (hb.cell (p := ⟨g, o + k * 2, none⟩) hg).trans hc0
        have c1 := (hb.cell (p := ⟨g, o + k * 2 + 1, none⟩) hg).trans hc1
        have hlen := Nat.le_trans (bodies_at ys k hk2) HB.out
        have hno : Hid (extOk k ys[k].says = false → extsOk (ys.map Ey.says) = false) := Lib.hid fun h => extsOk_no (k := k) (by simpa using hk2) (by simpa using h)
        have hyes : Hid (extOk k ys[k].says = true → extsFrom 0 ((ys.map Ey.says).take (k + 1)) = true) := Lib.hid fun h => by
          rw [extsFrom_take (by simpa using hk2), hz.out]
          simpa using h
        clear hc0 hc1
        generalize ys[k] = y at *
        have HBB := Lib.hid hb
        have Hg := Lib.hid hg
        clear hb hg
        cases hi : inner y.k with
        | false =>
          have hi := Lib.hid hi
          go_wp2_with (go_at_call 106; refine (innerIW y.k false _ hi.out).mono ?_; rintro e w2 ⟨rfl, rfl⟩)
          go_ret
          exact ⟨ret_bool (hno.out (extOk_inner hi.out)).symm, bthen HBB.out (by go_grown)⟩
        | true =>
          have hi := Lib.hid hi
          go_wp2_with (first | (go_at_call 106; refine (innerIW y.k true _ hi.out).mono ?_; rintro e w2 ⟨rfl, rfl⟩) | (go_at_call 61; refine (extSizeC y _ hlen).mono ?_; rintro e w3 ⟨rfl, b3⟩) | (go_at_call 61; refine (extSizeC ⟨0, y.bs, y.A, y.c⟩ _ hlen).mono ?_; rintro e w3 ⟨rfl, b3⟩))
          all_goals first
            | (go_ret; refine ⟨ret_bool (hno.out ?_).symm, bthen HBB.out (by go_grown)⟩; first | exact extOk_first (by assumption) (by omega) | exact extOk_long (by simp only [Ey.says]; omega))
            | (rename_i h9; rcases h9 with h9 | h9
               · exfalso; omega
               · have h8 : (2 + (y.bs.length : Int)) % 8 ≠ 0 := by simpa using h9
                 clear h9
                 go_ret
                 refine ⟨ret_bool (hno.out ?_).symm, bthen HBB.out (bthen (by go_grown) b3)⟩
                 exact extOk_unit (by simp only [Ey.says]; omega))
            | (rename_i h9
               have h8 : (2 + (y.bs.length : Int)) % 8 = 0 := by simpa using h9.2
               clear h9
               go_roundw
               case rel => exact ⟨k + 1, by omega, by go_num, Lib.hid (hyes.out (extOk_yes hi.out (by simp only [Ey.says]; omega) (by simp only [Ey.says]; omega) (by simp only [Ey.says]; omega))), bthen HBB.out (bthen (by go_grown) b3)⟩
               case measure => simp [intOf]; omega)
            | trace_state
      · obtain rfl : k = n := by omega
        have H := Lib.hid (show true = extsOk (ys.map Ey.says) by have := hz.out; rw [List.take_of_length_le (by simp [HL.out])] at this; simp [extsOk, this, HL.out, h3])
        clear hz
        go_wp2
        go_ret
        exact ⟨ret_bool H.out, hb⟩
  · have H := Lib.hid (show false = extsOk (ys.map Ey.says) by simp [extsOk, HL.out, h3])
    go_enter Try.func108, Try.ntmps108
    go_wp2
    go_ret
    exact ⟨ret_bool H.out, Below.refl _ _⟩
end Go.Proofs.Ytkmijefheejcjaa

namespace Go.Proofs.Ytkmijefheejcjaa.K
open Go.RowKit

section
variable {w : World} {g : Nat} {t : TypeId}
theorem cells16 {v0 v1 v2 v3 v4 v5 v6 v7 v8 v9 v10 v11 v12 v13 v14 v15 : Value} (h : w.heap[g]? = some (.cells #[v0, v1, v2, v3, v4, v5, v6, v7, v8, v9, v10, v11, v12, v13, v14, v15] t (0, 0))) : w.cell? ⟨g, 0, none⟩ = some v0 ∧ w.cell? ⟨g, 1, none⟩ = some v1 ∧ w.cell? ⟨g, 2, none⟩ = some v2 ∧ w.cell? ⟨g, 3, none⟩ = some v3 ∧ w.cell? ⟨g, 4, none⟩ = some v4 ∧ w.cell? ⟨g, 5, none⟩ = some v5 ∧ w.cell? ⟨g, 6, none⟩ = some v6 ∧ w.cell? ⟨g, 7, none⟩ = some v7 ∧ w.cell? ⟨g, 8, none⟩ = some v8 ∧ w.cell? ⟨g, 9, none⟩ = some v9 ∧ w.cell? ⟨g, 10, none⟩ = some v10 ∧ w.cell? ⟨g, 11, none⟩ = some v11 ∧ w.cell? ⟨g, 12, none⟩ = some v12 ∧ w.cell? ⟨g, 13, none⟩ = some v13 ∧ w.cell? ⟨g, 14, none⟩ = some v14 ∧ w.cell? ⟨g, 15, none⟩ = some v15 :=
  ⟨cell_of_row w g 0 _ _ _ h, cell_of_row w g 1 _ _ _ h, cell_of_row w g 2 _ _ _ h, cell_of_row w g 3 _ _ _ h, cell_of_row w g 4 _ _ _ h, cell_of_row w g 5 _ _ _ h, cell_of_row w g 6 _ _ _ h, cell_of_row w g 7 _ _ _ h, cell_of_row w g 8 _ _ _ h, cell_of_row w g 9 _ _ _ h, cell_of_row w g 10 _ _ _ h, cell_of_row w g 11 _ _ _ h, cell_of_row w g 12 _ _ _ h, cell_of_row w g 13 _ _ _ h, cell_of_row w g 14 _ _ _ h, cell_of_row w g 15 _ _ _ h⟩
end
end Go.Proofs.Ytkmijefheejcjaa.K
