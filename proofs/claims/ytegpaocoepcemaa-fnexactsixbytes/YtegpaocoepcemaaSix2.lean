/-
  The laws' own copy of an IPv6 packet.
-/
import Derived.Test.YtegpaocoepcemaaSix
namespace Go.Proofs.Ytegpaocoepcemaa
set_option maxRecDepth 100000
open Go.RowKit

theorem info_extn : (Try.prog.info? 63).map (·.size) = some 2 := by kernel_rfl
/-- A row of extension headers of the call's own, with bodies of its own. -/
structure XO (w : World) (base : Nat) (A : Option Addr) (n c : Nat) (zs : List Ey) : Prop where
  len : zs.length = n
  row : w.ownsRow base 63 2 (.slice A n c) n (xcells zs)
  own : ∀ z ∈ zs, w.ownsRow base 5 1 z.body z.bs.length (cellsOf z.bs)
  apart : zs.Pairwise (fun a b => ∀ k, a.body.ownBlock = some k → b.body.ownBlock ≠ some k)
  off : ∀ z ∈ zs, ∀ k, z.body.ownBlock = some k → (Value.slice A n c).ownBlock ≠ some k
theorem XO.xr {w : World} {base : Nat} {A : Option Addr} {n c : Nat} {zs : List Ey} (h : XO w base A n c zs) : XR w w.heap.size A zs := ⟨RV.of_own h.row, fun z hz => RB.of_own (h.own z hz)⟩
theorem XO.below {w w' : World} {base : Nat} {A : Option Addr} {n c : Nat} {zs : List Ey} (h : XO w base A n c zs) (hb : Below w.heap.size w w') : XO w' base A n c zs :=
  ⟨h.len, own_below h.row hb, fun z hz => own_below (h.own z hz) hb, h.apart, h.off⟩
theorem XO.base {w : World} {base base' : Nat} {A : Option Addr} {n c : Nat} {zs : List Ey} (h : XO w base A n c zs) (hb : base' ≤ base) : XO w base' A n c zs :=
  ⟨h.len, own_base h.row hb, fun z hz => own_base (h.own z hz) hb, h.apart, h.off⟩

set_option maxHeartbeats 400000 in
theorem toExtC (y : Ey) (w : World) (hr : RB w w.heap.size y.A y.bs) (hn : y.bs.length ≤ 1048576) :
    Calls Try.prog 82 #[.agg #[.int .i64 y.k, .slice y.A y.bs.length y.c]] w fun e w' => ∃ D d, e = .returned (.agg #[.int .i64 y.k, .slice D y.bs.length d]) ∧ w'.ownsRow w.heap.size 5 1 (.slice D y.bs.length d) y.bs.length (cellsOf y.bs) ∧ Below w.heap.size w w' := by
  have HR := Lib.hid hr
  clear hr
  go_enter Try.func82, Try.ntmps82
  go_wp2_with fail
  refine Calls.mono (toFn _ _ _ y.bs _ ((HR.out.below (by go_grown)).more (by simp; omega)) rfl hn) ?_
  rintro e w1 ⟨D, d, rfl, o1, b1⟩
  have q2 := K.on b1 (g := w.heap.size + 1) (by first | (simp; done) | (simp; omega)) (o := .cells #[.int .i64 0, .slice none 0 0] 63) (by repeat (first | exact K.newAt (by first | rfl | (simp; done)) | refine K.oldAt (by first | (simp; done) | (simp; omega)) ?_))
  have q3 := K.on b1 (g := w.heap.size + 1 + 1) (by first | (simp; done) | (simp; omega)) (o := .cells #[.int .i64 y.k, .slice none 0 0] 63) (by repeat (first | exact K.newAt (by first | rfl | (simp; done)) | refine K.oldAt (by first | (simp; done) | (simp; omega)) ?_))
  have B1 := Lib.hid (show Below w.heap.size w w1 from bthen (by go_grown) b1)
  have O1 := Lib.hid (own_base o1 (show w.heap.size + 3 ≤ _ by first | (simp; done) | (simp; omega)))
  obtain ⟨⟨c20, c21⟩, f20, f21⟩ := K.row2 q2
  obtain ⟨⟨c30, c31⟩, f30, f31⟩ := K.row2 q3
  have H2 := Lib.hid q2
  clear o1 b1 q2 q3
  go_wp2
  (try simp only [Exit.inBlock, Exit.then])
  refine bodyPost_ret (v := .agg #[.int .i64 y.k, .slice D y.bs.length d]) ?_ rfl ⟨D, d, rfl, ?_, ?_⟩
  · exact K.resCell Try.results82 _ _ _ (w.heap.size + 1) _ rfl (run_loadVar_row _ _ 63 63 _ (0, 0) _ (K.set (K.set (K.other H2.out (w.heap.size + 1 + 1) 1 (.slice D y.bs.length d) (by omega)) 0 (.int .i64 y.k)) 1 (.slice D y.bs.length d)) Try.underlying63 rfl info_extn)
  · exact own_base (own_set (own_set (own_set O1.out _ _ _ (by omega)) _ _ _ (by omega)) _ _ _ (by omega)) (by omega)
  · exact ((B1.out.setCell (p := ⟨w.heap.size + 1 + 1, 1, none⟩) (by simp; omega) _).setCell (p := ⟨w.heap.size + 1, 0, none⟩) (by simp) _).setCell (p := ⟨w.heap.size + 1, 1, none⟩) (by simp) _

/-- Bodies of a row that grew by one. -/
theorem pair_snoc {zs : List Ey} {z : Ey} {B : Nat} (h : zs.Pairwise (fun a b => ∀ k, a.body.ownBlock = some k → b.body.ownBlock ≠ some k)) (h1 : ∀ a ∈ zs, ∀ k, a.body.ownBlock = some k → k < B) (h2 : ∀ k, z.body.ownBlock = some k → B ≤ k) :
    (zs ++ [z]).Pairwise (fun a b => ∀ k, a.body.ownBlock = some k → b.body.ownBlock ≠ some k) := by
  rw [List.pairwise_append]
  refine ⟨h, by simp, fun a ha b hb k hk e => ?_⟩
  simp only [List.mem_singleton] at hb
  subst hb
  have := h1 a ha k hk
  have := h2 k e
  omega

set_option maxHeartbeats 1000000 in
theorem toExtS_C (A : Option Addr) (n c : Nat) (ys : List Ey) (w : World) (hx : XR w w.heap.size A ys) (hl : ys.length = n) (hn : n ≤ 1048576) (hb : bodies ys ≤ 1048576) :
    Calls Try.prog 45 #[.slice A n c] w fun e w' => ∃ D d zs, e = .returned (.slice D n d) ∧ XO w' w.heap.size D n d zs ∧ zs.map Ey.says = ys.map Ey.says ∧ Below w.heap.size w w' := by
  obtain ⟨i0, hi0, hz0, hz1, hz2⟩ := info_parts info_ext
  have HX := Lib.hid hx
  have HL := Lib.hid hl
  have HB := Lib.hid hb
  clear hx hl hb
  go_enter Try.func45, Try.ntmps45
  go_wp2_with (at_make; refine wpList_make_full _ rfl _ _ 34 rfl w.heap.size 63 i0 (.agg #[.int .i64 0, .slice none 0 0]) 2 Try.underlying34 hi0 hz0 hz1 _ _ _ _ n rfl rfl rfl rfl (by rw [hz2]; omega) (by unfold maxLen; omega) (Nat.le_refl _) ?_; intro w1 hown hgrow)
  have hown0 : Hid (w1.ownsRow w.heap.size 63 2 (.slice (some ⟨w.heap.size, 0, none⟩) n n) n (xcells ([] ++ List.replicate (n - 0) Ey.zero))) := by
    have e : (madeCells (Value.agg #[.int .i64 0, .slice none 0 0]).cells (n * 2)).toList = xcells ([] ++ List.replicate (n - 0) Ey.zero) := by
      have := made_two n
      simpa [Value.cells] using this
    rw [← e]; exact Lib.hid hown
  have hb1 : Hid (Below w.heap.size w w1) := Lib.hid ((Below.refl _ _).grown hgrow (Nat.le_refl _) (by simp))
  clear hown hgrow
  go_loopw [4] (fun i wr => ∃ (k : Nat) (zs : List Ey), k ≤ n ∧ i = .int .i64 k ∧ Hid (zs.length = k ∧ zs.map Ey.says = (ys.take k).map Ey.says) ∧ Hid (wr.ownsRow w.heap.size 63 2 (.slice (some ⟨w.heap.size, 0, none⟩) n n) n (xcells (zs ++ List.replicate (n - k) Ey.zero))) ∧
      Hid (∀ z ∈ zs, wr.ownsRow (w.heap.size + 1) 5 1 z.body z.bs.length (cellsOf z.bs)) ∧ Hid (zs.Pairwise (fun a b => ∀ k, a.body.ownBlock = some k → b.body.ownBlock ≠ some k)) ∧ Hid (Below w.heap.size w wr)) (fun i _ => n - (intOf i).toNat)
  case atStart => exact ⟨0, [], Nat.zero_le _, rfl, Lib.hid ⟨rfl, rfl⟩, hown0, Lib.hid (by simp), Lib.hid (by simp), hb1⟩
  case round =>
    obtain ⟨k, zs, hk, rfl, hs, hown, ho, hp, hb⟩ := hrel
    clear hown0 hb1
    by_cases hlt : k < n
    · have hk2 : k < ys.length := by rw [HL.out]; exact hlt
      obtain ⟨g, o, rfl, hg, hc0, hc1⟩ := HX.out.at_ hk2
      have c0 := (hb.out.cell (p := ⟨g, o + k * 2, none⟩) hg).trans hc0
      have c1 := (hb.out.cell (p := ⟨g, o + k * 2 + 1, none⟩) hg).trans hc1
      have hrb := Lib.hid (((HX.out.body ys[k] (List.getElem_mem hk2)).below hb.out).more hb.out.size)
      have hlen := Nat.le_trans (bodies_at ys k hk2) HB.out
      have hg1 : w.heap.size < wr.heap.size := by
        have := (hown.out.lt w.heap.size (by simp [Value.ownBlock])).2
        exact this
      have hsay := Lib.hid (show (ys.take (k + 1)).map Ey.says = (ys.take k).map Ey.says ++ [ys[k].says] by rw [take_snoc ys k hk2, List.map_append]; rfl)
      clear hc0 hc1
      generalize ys[k] = y at *
      have hG := Lib.hid hg
      go_wp2_with fail
      refine (toExtC y _ hrb.out hlen).mono ?_
      rintro e w2 ⟨D, d, rfl, o2, b2⟩
      have R0 := own_below hown.out b2
      have u0 := R0.cellAt (k * 2) (by omega)
      have u1 := R0.cellAt (k * 2 + 1) (by omega)
      have f0 := R0.frozenAt (k * 2)
      have f1 := R0.frozenAt (k * 2 + 1)
      obtain ⟨t0, ht0⟩ : ∃ t, (xcells (zs ++ List.replicate (n - k) Ey.zero))[k * 2]? = some t := ⟨_, List.getElem?_eq_getElem (by rw [xcells_length]; simp [hs.out.1]; omega)⟩
      obtain ⟨t1, ht1⟩ : ∃ t, (xcells (zs ++ List.replicate (n - k) Ey.zero))[k * 2 + 1]? = some t := ⟨_, List.getElem?_eq_getElem (by rw [xcells_length]; simp [hs.out.1]; omega)⟩
      rw [ht0] at u0
      rw [ht1] at u1
      have R1 := (R0.stored (k * 2) (.int .i64 y.k)).1
      have R2 := (R1.stored (k * 2 + 1) (.slice D y.bs.length d)).1
      rw [show n - k = (n - (k + 1)) + 1 by omega, List.replicate_succ, xcells_set zs Ey.zero ⟨y.k, y.bs, D, d⟩ _ k hs.out.1] at R2
      have R3 := Lib.hid R2
      clear R0 R1 R2 ht0 ht1
      have B2 := Lib.hid (bthen hb.out b2)
      have O2 := Lib.hid o2
      have BB := Lib.hid b2
      clear o2 b2
      go_wp2
      go_roundw
      case rel =>
        have low : ∀ a ∈ zs, ∀ j, a.body.ownBlock = some j → j < wr.heap.size := fun a ha j hj => ((ho.out a ha).lt j hj).2
        refine ⟨k + 1, zs ++ [⟨y.k, y.bs, D, d⟩], by omega, by go_num, Lib.hid ⟨by simp [hs.out.1], ?_⟩, Lib.hid ?_, Lib.hid ?_, Lib.hid (pair_snoc (z := ⟨y.k, y.bs, D, d⟩) hp.out low (fun j hj => (O2.out.lt j hj).1)), Lib.hid ?_⟩
        · rw [hsay.out, List.map_append, hs.out.2]
          rfl
        · rw [List.append_assoc]
          exact R3.out
        · intro z hz
          rw [List.mem_append, List.mem_singleton] at hz
          refine own_set (own_set ?_ _ _ _ (by omega)) _ _ _ (by omega)
          rcases hz with hz | rfl
          · exact own_below (ho.out z hz) BB.out
          · exact own_base O2.out (by omega)
        · exact (B2.out.setCell (p := ⟨w.heap.size, k * 2, none⟩) (Nat.le_refl _) _).setCell (p := ⟨w.heap.size, k * 2 + 1, none⟩) (Nat.le_refl _) _
      case measure => simp [intOf]; omega
    · obtain rfl : k = n := by omega
      go_wp2
      go_ret
      have hs2 := hs.out.2
      rw [List.take_of_length_le (by rw [HL.out]; exact Nat.le_refl _)] at hs2
      refine ⟨_, _, zs, rfl, ⟨hs.out.1, by have := hown.out; simpa using this, fun z hz => own_base (ho.out z hz) (by omega), hp.out, fun z hz j hj e => ?_⟩, hs2, hb.out⟩
      have := ((ho.out z hz).lt j hj).1
      simp [Value.ownBlock] at e
      omega

/-- What a copy of a packet leaves. -/
def SixOut (x : Sh) (es : List (Int × List UInt8)) (bs : List UInt8) (n m : Nat) (w : World) (e : Ending) (w' : World) : Prop :=
  ∃ A c zs D d, e = .returned (.agg #[.int .i64 x.cls, .int .i64 x.label, .int .i64 x.hops, .int .i64 x.proto, .int .i64 x.src.k, .int .i64 x.src.a, .int .i64 x.src.b, .int .i64 x.src.c, .int .i64 x.src.d, .int .i64 x.dst.k, .int .i64 x.dst.a, .int .i64 x.dst.b, .int .i64 x.dst.c, .int .i64 x.dst.d, .slice A n c, .slice D m d]) ∧ XO w' w.heap.size A n c zs ∧ zs.map Ey.says = es ∧ w'.ownsRow w.heap.size 5 1 (.slice D m d) m (cellsOf bs) ∧
    (∀ k, (Value.slice D m d).ownBlock = some k → (Value.slice A n c).ownBlock ≠ some k ∧ ∀ z ∈ zs, z.body.ownBlock ≠ some k) ∧ Below w.heap.size w w'

theorem XO.set {w : World} {base : Nat} {A : Option Addr} {n c : Nat} {zs : List Ey} (h : XO w base A n c zs) (g j : Nat) (u : Value) (hg : g < base) : XO (w.setCell ⟨g, j, none⟩ u) base A n c zs :=
  ⟨h.len, own_set h.row g j u hg, fun z hz => own_set (h.own z hz) g j u hg, h.apart, h.off⟩
theorem XO.setRow {w : World} {base : Nat} {A : Option Addr} {n c : Nat} {zs : List Ey} (h : XO w base A n c zs) (g : Nat) (cs : Array Value) (hg : g < base) : XO (w.setRow g cs) base A n c zs :=
  ⟨h.len, K.setRow_own cs h.row hg, fun z hz => K.setRow_own cs (h.own z hz) hg, h.apart, h.off⟩
theorem XO.lt {w : World} {base : Nat} {A : Option Addr} {n c : Nat} {zs : List Ey} (h : XO w base A n c zs) : (∀ k, (Value.slice A n c).ownBlock = some k → base ≤ k ∧ k < w.heap.size) ∧ ∀ z ∈ zs, ∀ k, z.body.ownBlock = some k → base ≤ k ∧ k < w.heap.size :=
  ⟨fun k hk => h.row.lt k hk, fun z hz k hk => (h.own z hz).lt k hk⟩

set_option maxHeartbeats 2000000 in
theorem toSixC (x : Sh) (A D : Option Addr) (n c m d : Nat) (ys : List Ey) (bs : List UInt8) (w : World) (hr : XR w w.heap.size A ys) (hl : ys.length = n) (hn : n ≤ 1048576) (hb : bodies ys ≤ 1048576) (hs : RB w w.heap.size D bs) (hm : bs.length = m) (hm2 : m ≤ 1048576) :
    Calls Try.prog 15 #[.agg #[.int .i64 x.cls, .int .i64 x.label, .int .i64 x.hops, .int .i64 x.proto, .int .i64 x.src.k, .int .i64 x.src.a, .int .i64 x.src.b, .int .i64 x.src.c, .int .i64 x.src.d, .int .i64 x.dst.k, .int .i64 x.dst.a, .int .i64 x.dst.b, .int .i64 x.dst.c, .int .i64 x.dst.d, .slice A n c, .slice D m d]] w (SixOut x (ys.map Ey.says) bs n m w) := by
  have HL := Lib.hid hl
  have HM := Lib.hid hm
  have HR := Lib.hid hr
  have HS := Lib.hid hs
  have HB := Lib.hid hb
  clear hl hm hr hs hb
  go_enter Try.func15, Try.ntmps15
  go_wp2_with (go_at_call 44; go_in)
  refine Calls.mono (toExtS_C A n c ys _ ((HR.out.below (by go_grown)).more (by simp; omega)) HL.out hn HB.out) ?_
  rintro e w1 ⟨A1, c1, zs, rfl, o1, hz, b1⟩
  have q1 := Lib.hid (K.on b1 (g := w.heap.size) (by first | (simp; done) | (simp; omega)) (o := .cells #[.int .i64 x.cls, .int .i64 x.label, .int .i64 x.hops, .int .i64 x.proto, .int .i64 x.src.k, .int .i64 x.src.a, .int .i64 x.src.b, .int .i64 x.src.c, .int .i64 x.src.d, .int .i64 x.dst.k, .int .i64 x.dst.a, .int .i64 x.dst.b, .int .i64 x.dst.c, .int .i64 x.dst.d, .slice A n c, .slice D m d] 30) (by repeat (first | exact K.newAt (by first | rfl | (simp; done)) | refine K.oldAt (by first | (simp; done) | (simp; omega)) ?_)))
  have q2 := Lib.hid (K.on b1 (g := w.heap.size + 1) (by first | (simp; done) | (simp; omega)) (o := .cells #[.int .i64 Sh.zero.cls, .int .i64 Sh.zero.label, .int .i64 Sh.zero.hops, .int .i64 Sh.zero.proto, .int .i64 Sh.zero.src.k, .int .i64 Sh.zero.src.a, .int .i64 Sh.zero.src.b, .int .i64 Sh.zero.src.c, .int .i64 Sh.zero.src.d, .int .i64 Sh.zero.dst.k, .int .i64 Sh.zero.dst.a, .int .i64 Sh.zero.dst.b, .int .i64 Sh.zero.dst.c, .int .i64 Sh.zero.dst.d, .slice none 0 0, .slice none 0 0] 36) (by repeat (first | exact K.newAt (by first | rfl | (simp; done)) | refine K.oldAt (by first | (simp; done) | (simp; omega)) ?_)))
  have q3 := Lib.hid (K.on b1 (g := w.heap.size + 1 + 1) (by first | (simp; done) | (simp; omega)) (o := .cells #[.int .i64 x.cls, .int .i64 x.label, .int .i64 x.hops, .int .i64 x.proto, .int .i64 x.src.k, .int .i64 x.src.a, .int .i64 x.src.b, .int .i64 x.src.c, .int .i64 x.src.d, .int .i64 x.dst.k, .int .i64 x.dst.a, .int .i64 x.dst.b, .int .i64 x.dst.c, .int .i64 x.dst.d, .slice none 0 0, .slice none 0 0] 36) (by repeat (first | exact K.newAt (by first | rfl | (simp; done)) | refine K.oldAt (by first | (simp; done) | (simp; omega)) ?_)))
  have B1 := Lib.hid (show Below w.heap.size w w1 from bthen (by go_grown) b1)
  have O1 := Lib.hid (o1.base (show w.heap.size + 3 ≤ _ by first | (simp; done) | (simp; omega)))
  have Z := Lib.hid (show w.heap.size + 3 ≤ w1.heap.size by have := b1.size; simp at this; omega)
  have HZ := Lib.hid hz
  clear o1 b1 hz
  have d15 := K.cell q1.out 15 _ rfl
  have d14 := K.cell q3.out 14 _ rfl
  have f14 := frozen_of_row _ _ 14 _ _ q3.out
  go_wp2_with fail
  have q1' := Lib.hid (K.other q1.out (w.heap.size + 1 + 1) 14 (.slice A1 n c1) (by omega))
  have q2' := Lib.hid (K.other q2.out (w.heap.size + 1 + 1) 14 (.slice A1 n c1) (by omega))
  have q3' := Lib.hid (K.set q3.out 14 (.slice A1 n c1))
  have O1' := Lib.hid (O1.out.set (w.heap.size + 1 + 1) 14 (.slice A1 n c1) (by omega))
  have B1' := Lib.hid (B1.out.setCell (p := ⟨w.heap.size + 1 + 1, 14, none⟩) (by simp; omega) (.slice A1 n c1))
  refine Calls.mono (toFn D m d bs _ ((HS.out.below B1'.out).more B1'.out.size) HM.out hm2) ?_
  rintro e w2 ⟨D2, d2, rfl, o2, b2⟩
  have r2 := Lib.hid (K.below b2 q2'.out)
  have r3 := Lib.hid (K.below b2 q3'.out)
  have P1 := Lib.hid (O1'.out.below b2)
  have AP := Lib.hid (show ∀ k, (Value.slice D2 m d2).ownBlock = some k → (Value.slice A1 n c1).ownBlock ≠ some k ∧ ∀ z ∈ zs, z.body.ownBlock ≠ some k from fun k hk => ⟨fun e => by have := (o2.lt k hk).1; have := (O1'.out.lt.1 k e).2; omega, fun z hz e => by have := (o2.lt k hk).1; have := (O1'.out.lt.2 z hz k e).2; omega⟩)
  have B2 := Lib.hid (bthen B1'.out b2)
  have O2 := Lib.hid (own_base o2 (show w.heap.size + 3 ≤ _ from Nat.le_trans Z.out (by simp)))
  clear q1 q2 q3 q1' q2' q3' O1 O1' B1 B1' o2 b2 d15 d14 f14
  have d15 := K.cell r3.out 15 _ rfl
  have f15 := frozen_of_row _ _ 15 _ _ r3.out
  have s3 : Hid ((w2.setCell ⟨w.heap.size + 1 + 1, 15, none⟩ (.slice D2 m d2)).heap[w.heap.size + 1 + 1]? = some (.cells #[.int .i64 x.cls, .int .i64 x.label, .int .i64 x.hops, .int .i64 x.proto, .int .i64 x.src.k, .int .i64 x.src.a, .int .i64 x.src.b, .int .i64 x.src.c, .int .i64 x.src.d, .int .i64 x.dst.k, .int .i64 x.dst.a, .int .i64 x.dst.b, .int .i64 x.dst.c, .int .i64 x.dst.d, .slice A1 n c1, .slice D2 m d2] 36 (0, 0))) := Lib.hid (K.set r3.out 15 _)
  have s2 : Hid ((w2.setCell ⟨w.heap.size + 1 + 1, 15, none⟩ (.slice D2 m d2)).heap[w.heap.size + 1]? = some (.cells #[.int .i64 Sh.zero.cls, .int .i64 Sh.zero.label, .int .i64 Sh.zero.hops, .int .i64 Sh.zero.proto, .int .i64 Sh.zero.src.k, .int .i64 Sh.zero.src.a, .int .i64 Sh.zero.src.b, .int .i64 Sh.zero.src.c, .int .i64 Sh.zero.src.d, .int .i64 Sh.zero.dst.k, .int .i64 Sh.zero.dst.a, .int .i64 Sh.zero.dst.b, .int .i64 Sh.zero.dst.c, .int .i64 Sh.zero.dst.d, .slice none 0 0, .slice none 0 0] 36 (0, 0))) := Lib.hid (K.other r2.out _ 15 _ (by omega))
  go_wp2_with (first | (with_reducible refine loadS rfl _ rfl (w.heap.size + 1 + 1) rfl s3.out ?_) | (with_reducible refine storeS rfl _ _ rfl (w.heap.size + 1) rfl rfl s2.out ?_))
  (try simp only [Exit.inBlock, Exit.then])
  refine bodyPost_ret (v := .agg #[.int .i64 x.cls, .int .i64 x.label, .int .i64 x.hops, .int .i64 x.proto, .int .i64 x.src.k, .int .i64 x.src.a, .int .i64 x.src.b, .int .i64 x.src.c, .int .i64 x.src.d, .int .i64 x.dst.k, .int .i64 x.dst.a, .int .i64 x.dst.b, .int .i64 x.dst.c, .int .i64 x.dst.d, .slice A1 n c1, .slice D2 m d2]) ?_ rfl ⟨A1, c1, zs, D2, d2, rfl, ?_, HZ.out, ?_, AP.out, ?_⟩
  · exact resS Try.results15 _ _ (w.heap.size + 1) rfl (setRow_heap _ _ _ _ _ _ s2.out)
  · exact (((P1.out.set _ _ _ (by omega)).setRow _ _ (by omega))).base (by omega)
  · exact own_base (K.setRow_own _ (own_set O2.out _ _ _ (by omega)) (by omega)) (by omega)
  · exact K.setRow_below (B2.out.setCell (p := ⟨w.heap.size + 1 + 1, 15, none⟩) (by simp; omega) _) (by omega) _
end Go.Proofs.Ytegpaocoepcemaa
