/-
  The model's draws of addresses: whatever is drawn is an address of five integers; the cursor has moved on and nothing else has turned.
-/
import Derived.Test.YtdndanbalmoklaaRegSteps
import Derived.Test.YtdndanbalmoklaaCut
namespace Go.Proofs.Ytdndanbalmoklaa
set_option maxRecDepth 100000
open Go.RowKit

theorem turned5 (g r : Nat) (w : World) (v0 v1 v2 v3 v4 : Value) : Turned g r w (((((w.setCell ⟨r, 0, none⟩ v0).setCell ⟨r, 1, none⟩ v1).setCell ⟨r, 2, none⟩ v2).setCell ⟨r, 3, none⟩ v3).setCell ⟨r, 4, none⟩ v4) := by
  refine ⟨by simp, fun i _ _ hr => ?_⟩
  rw [heap_setCell_other _ ⟨r, 4, none⟩ i _ hr, heap_setCell_other _ ⟨r, 3, none⟩ i _ hr, heap_setCell_other _ ⟨r, 2, none⟩ i _ hr, heap_setCell_other _ ⟨r, 1, none⟩ i _ hr, heap_setCell_other _ ⟨r, 0, none⟩ i _ hr]
theorem grown5 {W w : World} {g r : Nat} {v0 v1 v2 v3 v4 : Value} (h : W.grownBy w (some g)) (hr : W.heap.size ≤ r) : W.grownBy (((((w.setCell ⟨r, 0, none⟩ v0).setCell ⟨r, 1, none⟩ v1).setCell ⟨r, 2, none⟩ v2).setCell ⟨r, 3, none⟩ v3).setCell ⟨r, 4, none⟩ v4) (some g) := by
  have s := fun (a : World) (h : W.grownBy a (some g)) (i : Nat) (v : Value) => grown_other h (grownBy_set a r i v) (fun u hu => by cases hu; exact hr)
  exact s _ (s _ (s _ (s _ (s _ h 0 v0) 1 v1) 2 v2) 3 v3) 4 v4
theorem cur5 {w : World} {g r : Nat} {A : Option Addr} {c : Nat} {bs : List UInt8} {t : Nat} {v0 v1 v2 v3 v4 : Value} (h : Cur w g A c bs t) (hr : g < r) : Cur (((((w.setCell ⟨r, 0, none⟩ v0).setCell ⟨r, 1, none⟩ v1).setCell ⟨r, 2, none⟩ v2).setCell ⟨r, 3, none⟩ v3).setCell ⟨r, 4, none⟩ v4) g A c bs t := by
  have s := fun (a : World) (h : Cur a g A c bs t) (i : Nat) (v : Value) => h.grownBy (grownBy_set a r i v) (fun u hu => by cases hu; exact hr)
  exact s _ (s _ (s _ (s _ (s _ h 0 v0) 1 v1) 2 v2) 3 v3) 4 v4

/-- What a draw of an address leaves. -/
def AdDrawn (w : World) (g : Nat) (A : Option Addr) (c : Nat) (bs : List UInt8) (t : Nat) (e : Ending) (w' : World) : Prop :=
  ∃ (x : Ad) (t' : Nat), e = .returned (.agg #[.int .i64 x.k, .int .i64 x.a, .int .i64 x.b, .int .i64 x.c, .int .i64 x.d]) ∧ t' ≤ t ∧ Cur w' g A c bs t' ∧ w.grownBy w' (some g)
def avs6 : List Av := [.cur, .int, .row 3, .cur, .idx 3, .cellp, .int, .cur, .int, .cur, .int, .cur, .int, .int, .int, .cur, .int, .cur, .int, .int, .row 2, .cur, .idx 2, .cellp, .int, .ad, .any]
def G6 (g r : Nat) (j : Nat) : World → Value → Prop := gam g r (avs6.getD j .any)

set_option maxRecDepth 100000 in
set_option maxHeartbeats 4000000 in
theorem addr6 (w : World) (g : Nat) (A : Option Addr) (c : Nat) (bs : List UInt8) (t : Nat) (k : Int) (hk : (k == 4) = false) (hc : Cur w g A c bs t) (ht : t ≤ 900000000000) :
    Calls Try.prog 173 #[.pointer (some ⟨g, 0, none⟩), .int .i64 k] w (AdDrawn w g A c bs (t + 108)) := by
  have hgw := hc.lt
  obtain ⟨r, hr⟩ : ∃ r, w.heap.size = r := ⟨_, rfl⟩
  have hrg : g < r := by omega
  have hrW : w.heap.size ≤ r := by omega
  have I0 : Hid (InReg w g r A c bs t 0 (w.alloc (.cells #[.int .i64 0, .int .i64 0, .int .i64 0, .int .i64 0, .int .i64 0] 29)).drew) := Lib.hid (by
    have h1 : Cur (w.alloc (.cells #[.int .i64 0, .int .i64 0, .int .i64 0, .int .i64 0, .int .i64 0] 29)) g A c bs t := hc.below (Joins.below_alloc1 w _)
    refine ⟨⟨t, by omega, h1.drewN 1⟩, ⟨Ad.zero, ?_⟩, ?_⟩
    · rw [← hr]
      exact Go.heap_alloc_last w _
    · exact ⟨rfl, rfl, rfl, by simp, fun i hi _ => Below.heap_alloc w _ i hi⟩)
  clear hgw
  go_enter Try.func173, Try.ntmps173
  go_wp2
  refine wp_region_kept (by kernel_rfl) (G6 g r) [0, 4] (InReg w g r A c bs t) (Turned g r) 58 (by kernel_rfl) rfl I0.out (fun j v v' u h hu => gam_on h _ u hu) ?_ ?_
  · intro j o ho k a' v K hx hn hk27 hI hK
    have hp0 : (.pointer (some ⟨g, 0, none⟩) : Value) = .pointer (some ⟨g, 0, none⟩) := rfl
    have hp4 : (.pointer (some ⟨r, 0, none⟩) : Value) = .pointer (some ⟨r, 0, none⟩) := rfl
    have hk28 : k < 27 := hk27
    match j, ho with
    | 0, ho =>
      obtain rfl := Option.some.inj ho
      exact s_move 0 _ rfl (out_of hx 0 rfl hp0) (hK _ _ rfl (Turned.refl _ _ _) hI.more)
    | 1, ho =>
      obtain rfl := Option.some.inj ho
      have e1 : a'.eval (.tmp 32) = .pointer (some ⟨g, 0, none⟩) := (need_of (Γ := G6 g r) hn 0 32 (by kernel_rfl) :)
      obtain ⟨⟨t', ht', hc'⟩, _⟩ := id hI
      refine s_wide 32 _ _ g rfl e1 ((wideC v g A c bs t' 16777216 (by omega) (by omega) hc' (by omega)).mono ?_)
      rintro e v' ⟨x, rfl, x0, x1, hc2, hg2⟩
      exact ⟨_, rfl, hK _ _ ⟨x, rfl⟩ (Turned.of_grown hg2) (hI.drawn hg2 (by omega) (by omega) hc2)⟩
    | 2, ho =>
      obtain rfl := Option.some.inj ho
      obtain ⟨x0, e0⟩ : ∃ x : Int, a'.eval (.tmp 33) = .int .i64 x := (need_of (Γ := G6 g r) hn 1 33 (by kernel_rfl) :)
      have hgs : g < v.heap.size := hI.1.choose_spec.2.lt
      have hrs : r < v.heap.size := (Array.getElem?_eq_some_iff.1 hI.2.1.choose_spec).1
      exact s_row3 _ _ _ 536939960 4261412864 x0 rfl rfl rfl e0 (hK _ _ ⟨v.heap.size, rfl, by omega, by omega, cells3 v _ _ _⟩ (Turned.alloc _ _ _ _) (hI.alloc _))
    | 3, ho =>
      obtain rfl := Option.some.inj ho
      exact s_move 0 _ rfl (out_of hx 0 rfl hp0) (hK _ _ rfl (Turned.refl _ _ _) hI.more)
    | 4, ho =>
      obtain rfl := Option.some.inj ho
      have e1 : a'.eval (.tmp 35) = .pointer (some ⟨g, 0, none⟩) := (need_of (Γ := G6 g r) hn 3 35 (by kernel_rfl) :)
      obtain ⟨⟨t', ht', hc'⟩, _⟩ := id hI
      refine s_pick 35 _ _ g rfl e1 ((pickC v g A c bs t' 3 (by omega) (by omega) hc' (by omega)).mono ?_)
      rintro e v' ⟨x, rfl, x0, x1, hc2, hg2⟩
      exact ⟨_, rfl, hK _ _ ⟨x.toNat, by rw [Int.toNat_of_nonneg x0], by omega⟩ (Turned.of_grown hg2) (hI.drawn hg2 (by omega) (by omega) hc2)⟩
    | 5, ho =>
      obtain rfl := Option.some.inj ho
      obtain ⟨b, e1, hb1, hb2, hcs⟩ : ∃ b, a'.eval (.tmp 34) = .slice (some ⟨b, 0, none⟩) 3 3 ∧ b ≠ g ∧ b ≠ r ∧ ∀ j, j < 3 → ∃ x : Int, v.cell? ⟨b, j, none⟩ = some (.int .i64 x) := (need_of (Γ := G6 g r) hn 2 34 (by kernel_rfl) :)
      obtain ⟨y, e2, hy⟩ : ∃ x : Nat, a'.eval (.tmp 36) = .int .i64 (x : Int) ∧ x < 3 := (need_of (Γ := G6 g r) hn 4 36 (by kernel_rfl) :)
      exact s_idx 34 36 b 3 y rfl e1 e2 (by omega) (hK _ _ ⟨b, y, rfl, hb1, hb2, hcs y hy⟩ (Turned.refl _ _ _) hI.more)
    | 6, ho =>
      obtain rfl := Option.some.inj ho
      obtain ⟨b, j, e1, hb1, hb2, x, hx2⟩ : ∃ b j, a'.eval (.tmp 37) = .pointer (some ⟨b, j, none⟩) ∧ b ≠ g ∧ b ≠ r ∧ ∃ x : Int, v.cell? ⟨b, j, none⟩ = some (.int .i64 x) := (need_of (Γ := G6 g r) hn 5 37 (by kernel_rfl) :)
      exact s_load 37 b j _ rfl e1 hx2 (hK _ _ ⟨x, rfl⟩ (Turned.refl _ _ _) hI.more)
    | 7, ho =>
      obtain rfl := Option.some.inj ho
      exact s_move 0 _ rfl (out_of hx 0 rfl hp0) (hK _ _ rfl (Turned.refl _ _ _) hI.more)
    | 8, ho =>
      obtain rfl := Option.some.inj ho
      have e1 : a'.eval (.tmp 39) = .pointer (some ⟨g, 0, none⟩) := (need_of (Γ := G6 g r) hn 7 39 (by kernel_rfl) :)
      obtain ⟨⟨t', ht', hc'⟩, _⟩ := id hI
      refine s_pick 39 _ _ g rfl e1 ((pickC v g A c bs t' 2 (by omega) (by omega) hc' (by omega)).mono ?_)
      rintro e v' ⟨x, rfl, x0, x1, hc2, hg2⟩
      exact ⟨_, rfl, hK _ _ ⟨x, rfl⟩ (Turned.of_grown hg2) (hI.drawn hg2 (by omega) (by omega) hc2)⟩
    | 9, ho =>
      obtain rfl := Option.some.inj ho
      exact s_move 0 _ rfl (out_of hx 0 rfl hp0) (hK _ _ rfl (Turned.refl _ _ _) hI.more)
    | 10, ho =>
      obtain rfl := Option.some.inj ho
      have e1 : a'.eval (.tmp 41) = .pointer (some ⟨g, 0, none⟩) := (need_of (Γ := G6 g r) hn 9 41 (by kernel_rfl) :)
      obtain ⟨⟨t', ht', hc'⟩, _⟩ := id hI
      refine s_pick 41 _ _ g rfl e1 ((pickC v g A c bs t' 3 (by omega) (by omega) hc' (by omega)).mono ?_)
      rintro e v' ⟨x, rfl, x0, x1, hc2, hg2⟩
      exact ⟨_, rfl, hK _ _ ⟨x, rfl⟩ (Turned.of_grown hg2) (hI.drawn hg2 (by omega) (by omega) hc2)⟩
    | 11, ho =>
      obtain rfl := Option.some.inj ho
      exact s_move 0 _ rfl (out_of hx 0 rfl hp0) (hK _ _ rfl (Turned.refl _ _ _) hI.more)
    | 12, ho =>
      obtain rfl := Option.some.inj ho
      have e1 : a'.eval (.tmp 43) = .pointer (some ⟨g, 0, none⟩) := (need_of (Γ := G6 g r) hn 11 43 (by kernel_rfl) :)
      obtain ⟨⟨t', ht', hc'⟩, _⟩ := id hI
      refine s_wide 43 _ _ g rfl e1 ((wideC v g A c bs t' 16777216 (by omega) (by omega) hc' (by omega)).mono ?_)
      rintro e v' ⟨x, rfl, x0, x1, hc2, hg2⟩
      exact ⟨_, rfl, hK _ _ ⟨x, rfl⟩ (Turned.of_grown hg2) (hI.drawn hg2 (by omega) (by omega) hc2)⟩
    | 13, ho =>
      obtain rfl := Option.some.inj ho
      obtain ⟨x0, e0⟩ : ∃ x : Int, a'.eval (.tmp 42) = .int .i64 x := (need_of (Γ := G6 g r) hn 10 42 (by kernel_rfl) :)
      obtain ⟨x1, e1⟩ : ∃ x : Int, a'.eval (.tmp 44) = .int .i64 x := (need_of (Γ := G6 g r) hn 12 44 (by kernel_rfl) :)
      exact s_mul _ _ x0 x1 rfl e0 e1 (fun z => hK _ _ ⟨z, rfl⟩ (Turned.refl _ _ _) hI.more)
    | 14, ho =>
      obtain rfl := Option.some.inj ho
      obtain ⟨x0, e0⟩ : ∃ x : Int, a'.eval (.tmp 45) = .int .i64 x := (need_of (Γ := G6 g r) hn 13 45 (by kernel_rfl) :)
      exact s_mul _ _ x0 200 rfl e0 rfl (fun z => hK _ _ ⟨z, rfl⟩ (Turned.refl _ _ _) hI.more)
    | 15, ho =>
      obtain rfl := Option.some.inj ho
      exact s_move 0 _ rfl (out_of hx 0 rfl hp0) (hK _ _ rfl (Turned.refl _ _ _) hI.more)
    | 16, ho =>
      obtain rfl := Option.some.inj ho
      have e1 : a'.eval (.tmp 47) = .pointer (some ⟨g, 0, none⟩) := (need_of (Γ := G6 g r) hn 15 47 (by kernel_rfl) :)
      obtain ⟨⟨t', ht', hc'⟩, _⟩ := id hI
      refine s_pick 47 _ _ g rfl e1 ((pickC v g A c bs t' 8 (by omega) (by omega) hc' (by omega)).mono ?_)
      rintro e v' ⟨x, rfl, x0, x1, hc2, hg2⟩
      exact ⟨_, rfl, hK _ _ ⟨x, rfl⟩ (Turned.of_grown hg2) (hI.drawn hg2 (by omega) (by omega) hc2)⟩
    | 17, ho =>
      obtain rfl := Option.some.inj ho
      exact s_move 0 _ rfl (out_of hx 0 rfl hp0) (hK _ _ rfl (Turned.refl _ _ _) hI.more)
    | 18, ho =>
      obtain rfl := Option.some.inj ho
      have e1 : a'.eval (.tmp 49) = .pointer (some ⟨g, 0, none⟩) := (need_of (Γ := G6 g r) hn 17 49 (by kernel_rfl) :)
      obtain ⟨⟨t', ht', hc'⟩, _⟩ := id hI
      refine s_pick 49 _ _ g rfl e1 ((pickC v g A c bs t' 3 (by omega) (by omega) hc' (by omega)).mono ?_)
      rintro e v' ⟨x, rfl, x0, x1, hc2, hg2⟩
      exact ⟨_, rfl, hK _ _ ⟨x, rfl⟩ (Turned.of_grown hg2) (hI.drawn hg2 (by omega) (by omega) hc2)⟩
    | 19, ho =>
      obtain rfl := Option.some.inj ho
      obtain ⟨x0, e0⟩ : ∃ x : Int, a'.eval (.tmp 50) = .int .i64 x := (need_of (Γ := G6 g r) hn 18 50 (by kernel_rfl) :)
      exact s_sub _ _ 4294967295 x0 rfl rfl e0 (fun z => hK _ _ ⟨z, rfl⟩ (Turned.refl _ _ _) hI.more)
    | 20, ho =>
      obtain rfl := Option.some.inj ho
      obtain ⟨x0, e0⟩ : ∃ x : Int, a'.eval (.tmp 48) = .int .i64 x := (need_of (Γ := G6 g r) hn 16 48 (by kernel_rfl) :)
      obtain ⟨x1, e1⟩ : ∃ x : Int, a'.eval (.tmp 51) = .int .i64 x := (need_of (Γ := G6 g r) hn 19 51 (by kernel_rfl) :)
      have hgs : g < v.heap.size := hI.1.choose_spec.2.lt
      have hrs : r < v.heap.size := (Array.getElem?_eq_some_iff.1 hI.2.1.choose_spec).1
      exact s_row2 _ _ x0 x1 rfl e0 e1 (hK _ _ ⟨v.heap.size, rfl, by omega, by omega, cells2 v _ _⟩ (Turned.alloc _ _ _ _) (hI.alloc _))
    | 21, ho =>
      obtain rfl := Option.some.inj ho
      exact s_move 0 _ rfl (out_of hx 0 rfl hp0) (hK _ _ rfl (Turned.refl _ _ _) hI.more)
    | 22, ho =>
      obtain rfl := Option.some.inj ho
      have e1 : a'.eval (.tmp 53) = .pointer (some ⟨g, 0, none⟩) := (need_of (Γ := G6 g r) hn 21 53 (by kernel_rfl) :)
      obtain ⟨⟨t', ht', hc'⟩, _⟩ := id hI
      refine s_pick 53 _ _ g rfl e1 ((pickC v g A c bs t' 2 (by omega) (by omega) hc' (by omega)).mono ?_)
      rintro e v' ⟨x, rfl, x0, x1, hc2, hg2⟩
      exact ⟨_, rfl, hK _ _ ⟨x.toNat, by rw [Int.toNat_of_nonneg x0], by omega⟩ (Turned.of_grown hg2) (hI.drawn hg2 (by omega) (by omega) hc2)⟩
    | 23, ho =>
      obtain rfl := Option.some.inj ho
      obtain ⟨b, e1, hb1, hb2, hcs⟩ : ∃ b, a'.eval (.tmp 52) = .slice (some ⟨b, 0, none⟩) 2 2 ∧ b ≠ g ∧ b ≠ r ∧ ∀ j, j < 2 → ∃ x : Int, v.cell? ⟨b, j, none⟩ = some (.int .i64 x) := (need_of (Γ := G6 g r) hn 20 52 (by kernel_rfl) :)
      obtain ⟨y, e2, hy⟩ : ∃ x : Nat, a'.eval (.tmp 54) = .int .i64 (x : Int) ∧ x < 2 := (need_of (Γ := G6 g r) hn 22 54 (by kernel_rfl) :)
      exact s_idx 52 54 b 2 y rfl e1 e2 (by omega) (hK _ _ ⟨b, y, rfl, hb1, hb2, hcs y hy⟩ (Turned.refl _ _ _) hI.more)
    | 24, ho =>
      obtain rfl := Option.some.inj ho
      obtain ⟨b, j, e1, hb1, hb2, x, hx2⟩ : ∃ b j, a'.eval (.tmp 55) = .pointer (some ⟨b, j, none⟩) ∧ b ≠ g ∧ b ≠ r ∧ ∃ x : Int, v.cell? ⟨b, j, none⟩ = some (.int .i64 x) := (need_of (Γ := G6 g r) hn 23 55 (by kernel_rfl) :)
      exact s_load 55 b j _ rfl e1 hx2 (hK _ _ ⟨x, rfl⟩ (Turned.refl _ _ _) hI.more)
    | 25, ho =>
      obtain rfl := Option.some.inj ho
      obtain ⟨x0, e0⟩ : ∃ x : Int, a'.eval (.tmp 38) = .int .i64 x := (need_of (Γ := G6 g r) hn 6 38 (by kernel_rfl) :)
      obtain ⟨x1, e1⟩ : ∃ x : Int, a'.eval (.tmp 40) = .int .i64 x := (need_of (Γ := G6 g r) hn 8 40 (by kernel_rfl) :)
      obtain ⟨x2, e2⟩ : ∃ x : Int, a'.eval (.tmp 46) = .int .i64 x := (need_of (Γ := G6 g r) hn 14 46 (by kernel_rfl) :)
      obtain ⟨x3, e3⟩ : ∃ x : Int, a'.eval (.tmp 56) = .int .i64 x := (need_of (Γ := G6 g r) hn 24 56 (by kernel_rfl) :)
      exact s_ad _ _ _ _ _ 6 x0 x1 x2 x3 rfl rfl e0 e1 e2 e3 (hK _ _ ⟨⟨6, x0, x1, x2, x3⟩, rfl⟩ (Turned.refl _ _ _) hI.more)
    | 26, ho =>
      obtain rfl := Option.some.inj ho
      obtain ⟨y, e1⟩ : ∃ y : Ad, a'.eval (.tmp 57) = .agg #[.int .i64 y.k, .int .i64 y.a, .int .i64 y.b, .int .i64 y.c, .int .i64 y.d] := (need_of (Γ := G6 g r) hn 25 57 (by kernel_rfl) :)
      obtain ⟨⟨t', ht', hc'⟩, ⟨z, hz⟩, h4⟩ := id hI
      exact s_store5 _ _ r y z rfl (out_of hx 4 rfl hp4) e1 hz (hK undef _ trivial (turned5 g r v _ _ _ _ _) ⟨⟨t', by omega, cur5 hc' hrg⟩, ⟨y, set5 _ _ _ _ _ hz⟩, grown5 h4 hrW⟩)
    | j + 27, ho => simp at ho
  · intro a' w' hsz hdf hout hkp hsl hI
    clear hkp hsl
    rename_i K hret
    obtain ⟨⟨t', ht', hc'⟩, ⟨x, hx⟩, hg'⟩ := hI
    have ht2 : t' ≤ t + 108 := ht'
    refine hret _ _ ?_
    have hs4 : a'.tmps.getD 4 undef = .pointer (some ⟨r, 0, none⟩) := hout 4 (by simp)
    clear hsz hout ht'
    go_wp2
    (try simp only [Exit.inBlock, Exit.then])
    refine bodyPost_ret (v := .agg #[.int .i64 x.k, .int .i64 x.a, .int .i64 x.b, .int .i64 x.c, .int .i64 x.d]) ?_ hdf ⟨x, t', rfl, ht2, hc', hg'⟩
    exact res_cell Try.results173 _ _ _ r _ hs4 (run_loadVar_row _ _ 29 29 _ (0, 0) _ hx Try.underlying29 rfl info_addr)
end Go.Proofs.Ytdndanbalmoklaa
