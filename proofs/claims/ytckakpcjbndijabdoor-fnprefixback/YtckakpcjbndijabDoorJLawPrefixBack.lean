/-
  For every code of bytes the law FnPrefixBack returns true: a prefix is recovered from its text, and one that is no prefix has none. The row's condition: five tables of Go's own library hold what their initialisers lay (the card ties them to the program's text). The argument reads afterwards as before.
-/
import Derived.Test.YtckakpcjbndijabDoorKu3
import Derived.Test.YtckakpcjbndijabDoorCards
import Derived.Test.YtckakpcjbndijabDoorTie
import Derived.ProofKit
import Derived.OpenShut
import Derived.WalkSmall
import Derived.Stop.LaidErr
import Derived.Deep.DeepHandedRow
import Derived.Lib.LaidTab
import Derived.HandedShaped
import Derived.Shelf.Vars
namespace Go.Proofs.YtckakpcjbndijabDoor
open Go.RowKit

set_option maxRecDepth 100000 in
theorem Ad.text_no47 (x : Ad) : (47 : UInt8) ∉ x.text := by
  unfold Ad.text
  split
  · split
    · refine join_not_mem 46 47 (by decide) _ (fun p hp => ?_)
      obtain ⟨b, _, rfl⟩ := List.mem_map.1 hp
      exact numB_no b 47 (by decide)
    · refine join_not_mem 58 47 (by decide) _ (fun p hp => ?_)
      obtain ⟨n, hn, rfl⟩ := List.mem_map.1 hp
      exact hexN_no n.toNat (words_nat _ n hn) 47 (by decide)
  · simp
set_option maxRecDepth 100000 in
theorem Pf.base_ok' {p : Pf} (h : p.ok = true) (hz : ¬ p = Pf.zero) : p.base.ok = true := by
  simp only [Pf.ok, Bool.or_eq_true, Bool.and_eq_true, decide_eq_true_eq] at h
  rcases h with h | ⟨⟨h, _⟩, _⟩
  · exact absurd h hz
  · exact h
set_option maxRecDepth 100000 in
theorem num_back (n : Int) (h0 : 0 ≤ n) (h1 : n ≤ 128) : okNum (numText n) = true ∧ numR (numText n) = n := by
  have e : numText n = numB (UInt8.ofNat n.toNat) := by
    unfold numB
    congr 1
    simp
    omega
  obtain ⟨f1, f2, f3, f4⟩ := numB_facts (UInt8.ofNat n.toNat)
  have hl := numB_len (UInt8.ofNat n.toNat)
  have hk : okNum (numText n) = true := by
    rw [e]
    exact okNum_yes _ f3 (by omega) f1 f4
  refine ⟨hk, ?_⟩
  rw [numR, if_pos hk, e, f2]
  simp
  omega
set_option maxRecDepth 100000 in
theorem cut_at (a r : List UInt8) (h : (47 : UInt8) ∉ a) : cutA (a ++ 47 :: r) = a ∧ cutR (a ++ 47 :: r) = r := by
  rcases cut_cases (a ++ 47 :: r) with ⟨h1, _⟩ | ⟨b, t, e, h1, h2, h3⟩
  · exact absurd (by simp) h1
  · have : a = b ∧ r = t := by
      clear h2 h3
      induction a generalizing b with
      | nil =>
        cases b with
        | nil => simpa using e
        | cons y b => simp at e h1; exact absurd e.1 h1.1
      | cons x a ih =>
        cases b with
        | nil => simp at e h; exact absurd e.1.symm h.1
        | cons y b =>
          simp at e h h1
          obtain ⟨e1, e2⟩ := ih h.2 b e.2 h1.2
          exact ⟨by rw [e.1, e1], e2⟩
    rw [h2, h3]
    exact ⟨this.1.symm, this.2.symm⟩
set_option maxRecDepth 100000 in
/-- A prefix is what its text is read as. -/
theorem rdP_text {p : Pf} (h : p.ok = true) : rdP p.text = some p := by
  by_cases hz : p = Pf.zero
  · rw [ptext_all h hz, rdP_any rfl, hz]
  · have hl := Pf.ok_len h
    have hb := Pf.base_ok' h hz
    obtain ⟨n1, n2⟩ := num_back p.len hl.1 hl.2
    obtain ⟨a1, a2⟩ := cut_at p.base.text (numText p.len) p.base.text_no47
    rw [ptext_in h hz, rdP_else (fun e => ?_), a1, a2]
    · have hr : rdA p.base.text = some p.base := (rdA_iff _ _).2 ⟨hb, rfl⟩
      have hp : pfOf p.base.text (numText p.len) = p := by
        unfold pfOf
        rw [hr, n2]
        rfl
      rw [rdQ_yes (by rw [hr]; rfl) n1 (by rw [hp]; exact h), hp]
    · have : (47 : UInt8) ∈ ([97, 110, 121] : List UInt8) := by rw [← e]; simp
      simp at this
set_option maxRecDepth 100000 in
theorem Pf.text_len {p : Pf} (h : p.ok = true) : p.text.length ≤ 1048576 := by
  by_cases hz : p = Pf.zero
  · rw [ptext_all h hz]; decide
  · have hl := Pf.ok_len h
    have := numText_len p.len hl.1 hl.2
    have := p.base.text_len
    rw [ptext_in h hz]
    simp
    omega
set_option maxRecDepth 100000 in
theorem eq_pfs (p : Pf) (w : World) : (Op.equalIn 10000 36 (.agg #[.int .i64 p.base.k, .int .i64 p.base.a, .int .i64 p.base.b, .int .i64 p.base.c, .int .i64 p.base.d, .int .i64 p.len]) (.agg #[.int .i64 p.base.k, .int .i64 p.base.a, .int .i64 p.base.b, .int .i64 p.base.c, .int .i64 p.base.d, .int .i64 p.len])).run Tryd.prog w = .ok true w := by
  go_simp
set_option maxRecDepth 100000 in
theorem empty_str' : (strOf []).toList = [] := by simp [ByteArray.toList_eq, strOf]

set_option maxRecDepth 100000 in
set_option maxHeartbeats 2000000 in
theorem lawPrefixBack {w : World} (A : Option Addr) (n c : Nat) (bs : List UInt8) (m : Int) (hin : In w A n c bs) (ht : Tabs w) (hm : w.cell? ⟨1, 0, none⟩ = some (.int .i64 m)) :
    Calls Tryd.prog 8 #[.slice A n c] w fun e w' => e = .returned (.bool true) ∧ Below w.heap.size w w' := by
  obtain ⟨rfl, hcap, hbig, hrb⟩ := hin
  unfold maxLen at hbig
  by_cases hn : bs.length ≤ 1048576
  · have hnI : ¬ (1048576 : Int) < (bs.length : Int) := by omega
    have HT := Lib.hid ht
    have HM := Lib.hid hm
    clear ht hm
    go_enter Tryd.func8, Tryd.ntmps8
    go_wp2_with fail
    refine (bigB A bs.length c w).mono ?_
    rintro e w0 ⟨rfl, rfl⟩
    go_wp2_with fail
    refine (drawPrefixText A c bs w hrb hn).mono ?_
    rintro e w1 ⟨p, rfl, b1⟩
    have BW1 := Lib.hid (bthen b1 (Joins.below_alloc1 w1 (.cells #[.int .i64 p.base.k, .int .i64 p.base.a, .int .i64 p.base.b, .int .i64 p.base.c, .int .i64 p.base.d, .int .i64 p.len] 36)))
    clear b1
    have tx := fun v (hv : Below w.heap.size w v) => implPrefixText p v (HT.out.on hv)
    unfold PTextOut at tx
    have sk := specPrefixOk p
    cases hok : p.ok
    · rw [ptext_no hok] at tx
      rw [hok] at sk
      have TX := Lib.hid tx
      have SK := Lib.hid sk
      have hem := empty_str'
      clear tx sk hok
      go_wp2_with fail
      refine (TX.out _ BW1.out).mono ?_
      rintro e w2 ⟨rfl, b2⟩
      obtain ⟨c0, c1, c2, c3, c4, c5⟩ := pf_box b2
      have BW2 := Lib.hid (bthen BW1.out b2)
      clear b2
      go_wp2_with fail
      refine (SK.out _).mono ?_
      rintro e w3 ⟨rfl, b3⟩
      have BW3 := Lib.hid (bthen BW2.out b3)
      clear b3 c0 c1 c2 c3 c4 c5
      go_wp2
      go_ret
      exact ⟨rfl, BW3.out⟩
    · rw [hok] at sk
      have hT2 := rdP_text hok
      have hTl := Pf.text_len hok
      obtain ⟨T, hT⟩ : ∃ T, T = p.text := ⟨_, rfl⟩
      rw [← hT] at tx hT2 hTl
      have ar := fun (v : World) (hv : v.cell? ⟨1, 0, none⟩ = some (.int .i64 m)) => implPrefixRead (strOf T) m v (by rw [strOf_size]; exact hTl) hv
      unfold PReadOut at ar
      rw [strOf_data, hT2] at ar
      have AR := Lib.hid (show ∀ v : World, v.cell? ⟨1, 0, none⟩ = some (.int .i64 m) → Calls Tryd.prog 19 #[.string (strOf T)] v fun e w' => e = .returned (.tuple #[.agg #[.int .i64 p.base.k, .int .i64 p.base.a, .int .i64 p.base.b, .int .i64 p.base.c, .int .i64 p.base.d, .int .i64 p.len], .bool true]) ∧ Below v.heap.size v w' from ar)
      have TX := Lib.hid tx
      have SK := Lib.hid sk
      have hq := eq_pfs p
      clear tx sk hok hT2 hTl hT ar
      go_wp2_with fail
      refine (TX.out _ BW1.out).mono ?_
      rintro e w2 ⟨rfl, b2⟩
      have P2 := Lib.hid b2
      obtain ⟨c0, c1, c2, c3, c4, c5⟩ := pf_box b2
      have BW2 := Lib.hid (bthen BW1.out b2)
      clear b2
      go_wp2_with fail
      refine (SK.out _).mono ?_
      rintro e w3 ⟨rfl, b3⟩
      have BW3 := Lib.hid (bthen BW2.out b3)
      have P3 := Lib.hid (bthen P2.out b3)
      clear b3 c0 c1 c2 c3 c4 c5
      go_wp2_with fail
      refine (AR.out _ (cell_on BW3.out HM.out)).mono ?_
      rintro e w4 ⟨rfl, b4⟩
      have P4 := Lib.hid (bthen (bthen P3.out b4) (Joins.below_alloc1 w4 (.cells #[.int .i64 p.base.k, .int .i64 p.base.a, .int .i64 p.base.b, .int .i64 p.base.c, .int .i64 p.base.d, .int .i64 p.len] 36)))
      have BW4 := Lib.hid (bthen (bthen BW3.out b4) (Joins.below_alloc1 w4 (.cells #[.int .i64 p.base.k, .int .i64 p.base.a, .int .i64 p.base.b, .int .i64 p.base.c, .int .i64 p.base.d, .int .i64 p.len] 36)))
      obtain ⟨c0, c1, c2, c3, c4, c5⟩ := pf_box P4.out
      obtain ⟨d0, d1, d2, d3, d4, d5⟩ := pf_box (Below.refl (w4.alloc (.cells #[.int .i64 p.base.k, .int .i64 p.base.a, .int .i64 p.base.b, .int .i64 p.base.c, .int .i64 p.base.d, .int .i64 p.len] 36)).heap.size (w4.alloc (.cells #[.int .i64 p.base.k, .int .i64 p.base.a, .int .i64 p.base.b, .int .i64 p.base.c, .int .i64 p.base.d, .int .i64 p.len] 36)))
      clear b4
      go_wp2
      go_ret
      exact ⟨rfl, BW4.out⟩
  · have hnI : (1048576 : Int) < (bs.length : Int) := by omega
    go_enter Tryd.func8, Tryd.ntmps8
    go_wp2_with fail
    refine (bigB A bs.length c w).mono ?_
    rintro e w0 ⟨rfl, rfl⟩
    go_wp2
    go_ret
    exact ⟨rfl, Below.refl _ _⟩

namespace fnPrefixBack
open Go.ChangeShapes Go.WideShapes Go.ChangeAt
set_option maxRecDepth 100000 in
theorem own : ownKnob Tryd.prog.godebug = none := by kernel_rfl
set_option maxRecDepth 100000 in
theorem laidOut : laidOutB Tryd.prog = true := by kernel_rfl
set_option maxRecDepth 100000 in
theorem cellsTab : Tryd.prog.cellsOf 115 = 20 := by kernel_rfl
set_option maxRecDepth 100000 in
theorem cellsNum : Tryd.prog.cellsOf 101 = 1 := by kernel_rfl
def de32 : List Int := [0, 1, 28, 2, 29, 14, 24, 3, 30, 22, 20, 15, 25, 17, 4, 8, 31, 27, 13, 23, 21, 19, 16, 7, 26, 12, 18, 6, 11, 5, 10, 9]
def de64 : List Int := [0, 1, 56, 2, 57, 49, 28, 3, 61, 58, 42, 50, 38, 29, 17, 4, 62, 47, 59, 36, 45, 43, 51, 22, 53, 39, 33, 30, 24, 18, 12, 5, 63, 55, 48, 27, 60, 41, 37, 16, 46, 35, 44, 21, 52, 32, 23, 11, 54, 26, 40, 15, 34, 20, 31, 10, 25, 14, 19, 9, 13, 8, 7, 6]
set_option maxRecDepth 100000 in
theorem isTab : Rows.laid_internal_strconv_uint64pow10 (H := Unit) = Lib.tabData .u64 Lib.pow10Tab := by kernel_rfl

set_option maxRecDepth 100000 in
theorem isTab64 : Rows.laid_math_bits_deBruijn64tab (H := Unit) = Lib.tabData .u8 de64 := by kernel_rfl
set_option maxRecDepth 100000 in
theorem g64 : Tryd.prog.globalNamed "math/bits.deBruijn64tab" = some 3 := by kernel_rfl
set_option maxRecDepth 100000 in
theorem g64Type : (Tryd.prog.globals[3]?).map (·.type) = some 128 := by kernel_rfl
set_option maxRecDepth 100000 in
theorem cells64 : Tryd.prog.cellsOf 128 = 64 := by kernel_rfl
set_option maxRecDepth 100000 in
theorem cellsB : Tryd.prog.cellsOf 5 = 1 := by kernel_rfl
set_option maxRecDepth 100000 in
theorem tables {W : World} (h : laidMetH Tryd.prog Rows.fnPrefixBackRow.laid W) : Tabs W := by
  have h1 : laidMet Tryd.prog [("math/bits.deBruijn32tab", Rows.laid_math_bits_deBruijn32tab), ("math/bits.deBruijn64tab", Rows.laid_math_bits_deBruijn64tab), ("internal/strconv.uint64pow10", Rows.laid_internal_strconv_uint64pow10), ("unicode/utf8.acceptRanges", Rows.laid_unicode_utf8_acceptRanges), ("unicode/utf8.first", Rows.laid_unicode_utf8_first)] W := h
  have h2 := h1.tail.tail
  rw [isTab] at h2
  have t10 : Lib.TabIs Tryd.prog W tabName .u64 Lib.pow10Tab := Lib.tabIs_of_head gTab gTabType Tryd.underlying115 Tryd.underlying101 cellsNum cellsTab h2
  have h3 := h1.tail
  rw [isTab64] at h3
  have t64 : Lib.TabIs Tryd.prog W "math/bits.deBruijn64tab" .u8 de64 := Lib.tabIs_of_head g64 g64Type Tryd.underlying128 Tryd.underlying5 cellsB cells64 h3
  have hlt : 0 < W.heap.size := by
    have := World.block_lt_of_cell? W _ (t10.cell gTab 0 (by decide))
    simpa using this
  exact ⟨t10, hlt, t64.cell g64 15 (by decide)⟩

set_option maxRecDepth 100000 in
theorem contract (H : Type) (enc : TypeId × Value → H) (W : World) (base : Nat) (args : Array Value) (ds gs : List (DataW H)) (before : List MemPlace)
    (hval : ∀ (j : Nat) t v, Tryd.f8.params[j]? = some t → args[j]? = some v → Value.okWide Tryd.prog W .any base t v)
    (hW : DataW.Whole enc Tryd.prog Tryd.f8.params.toList Rows.fnPrefixBackSpec.vars false W args.toList ds gs before) (hL : laidMetH Tryd.prog Rows.fnPrefixBackRow.laid W) (hsh : W.ShapedOpen Tryd.prog) :
    Calls Tryd.prog 8 args W fun e W' => ∃ v, e = .returned v ∧ Rows.fnPrefixBackSpec.post enc Tryd.prog Tryd.f8 false true false false W args v W' := by
  have hW' := hW
  obtain ⟨p, q, hA0, hV, rfl, _, _⟩ := hW
  have hA : DataW.TrodAll enc Tryd.prog W 0 (fun _ => true) true Tryd.f8.params.toList args.toList ds p := hA0
  rw [Tryd.params8] at hA hval
  obtain ⟨v0, vs0, d0, ds0, p0, q0, hargs, rfl, rfl, h0, r0⟩ := trodAll_cons hA
  obtain ⟨rfl, rfl, rfl⟩ := trodAll_nil r0
  obtain rfl : args = #[v0] := by cases args; simp_all
  obtain ⟨rfl, rfl⟩ := trodVars_none hV
  obtain ⟨a0, n0, c0, rfl⟩ := okWide_slice Tryd.underlying42 (hval 0 42 v0 rfl rfl)
  have k0 := h0
  have lt0 : ∀ y ∈ p0, y.block < W.heap.size := by obtain ⟨m, hm⟩ := k0; exact DataW.trod_lt m _ _ _ hm
  obtain ⟨b0, w0⟩ := bytes_in h0
  clear hA0
  obtain ⟨m, hm⟩ := Go.Proofs.cell_of_shapedOpen_int (zero := #[.int .i64 0]) (t := 3) hsh (g := 1) (of_decide_eq_true (by kernel_rfl)) (by kernel_rfl) rfl (by kernel_rfl) (by kernel_rfl) Tryd.underlying3
  refine (lawPrefixBack a0 n0 c0 b0 m w0 (tables hL) hm).mono fun e W' ⟨he, bel⟩ => ?_
  subst he
  exact ⟨_, rfl, _, _, _, [], _, [], hW', trodAll_mk1 (shut_bool Tryd.underlying4 _), (trodAll_cons_mk (Below.trod laidOut (by kernel_rfl) (of_decide_eq_true (by kernel_rfl)) k0 bel lt0) trodAll_mk0), rfl, bel.frame _, fun h => by cases h⟩

def setTab (cs : Array Value) : Obj → Obj
  | .cells _ t frozen => .cells cs t frozen
  | o => o
def ranges : List Int := [128, 191, 160, 191, 128, 159, 144, 191, 128, 143] ++ List.replicate 22 0
def firsts : List Int := List.replicate 128 240 ++ List.replicate 66 241 ++ List.replicate 30 2 ++ [19] ++ List.replicate 12 3 ++ [35, 3, 3, 52, 4, 4, 4, 68] ++ List.replicate 11 241
/-- A world for the witness: the settled one, the five tables holding what their initialisers lay. -/
noncomputable def laidWorld (os : Os) : World :=
  { World.holding Tryd.prog os ⟨#[], #[], []⟩ with heap := (((((World.holding Tryd.prog os ⟨#[], #[], []⟩).heap.modify 0 (setTab (Lib.pow10Tab.map (Value.int .u64)).toArray)).modify 2 (setTab (de32.map (Value.int .u8)).toArray)).modify 3 (setTab (de64.map (Value.int .u8)).toArray)).modify 5 (setTab (ranges.map (Value.int .u8)).toArray)).modify 4 (setTab (firsts.map (Value.int .u8)).toArray) }
set_option maxRecDepth 100000 in
theorem laid_met (os : Os) : laidMet Tryd.prog Rows.fnPrefixBackRow.laid ((laidWorld os).forCall (fun _ _ => 0) ⟨#[], #[.slice none 0 0], []⟩).memory :=
  laidMet_of_run' 8 (by kernel_rfl) (by kernel_rfl)
set_option maxRecDepth 100000 in
theorem reads (os : Os) {H : Type} (enc : TypeId × Value → H) : ∃ places, DataW.whole enc Tryd.prog ((laidWorld os).forCall (fun _ _ => 0) ⟨#[], #[.slice none 0 0], []⟩).memory Tryd.f8.params.toList Rows.fnPrefixBackSpec.vars false #[Value.slice none 0 0].toList 8 = some ([.nil], [], places) :=
  ⟨[], by kernel_rfl⟩

set_option maxRecDepth 100000 in
theorem lifted (os : Os) (started : os.Started) (H : Type) (enc : TypeId × Value → H) (F : Stop.Interp) :
    ReturnsInHanded {} Tryd.checked os 8 .any ((OpenSpec.ofChange Rows.fnPrefixBackSpec).preRow enc Tryd.prog Tryd.f8 Rows.fnPrefixBackRow.domain false Rows.fnPrefixBackRow.laid) (((OpenSpec.ofChange Rows.fnPrefixBackSpec).at F).post enc Tryd.prog Tryd.f8 false true false false) := by
  obtain ⟨places, hx⟩ := reads os enc
  refine returnsInHanded_of_row (C := Tryd.checked) (s := OpenSpec.ofChange Rows.fnPrefixBackSpec) own started (by kernel_rfl) Tryd.func8
    (witness_row_at (enc := enc) (C := Tryd.checked) false (laidWorld os) #[.slice none 0 0] rfl (by kernel_rfl) (by kernel_rfl) (by kernel_rfl)
      (OpenSpec.preRow_of_cond 8 hx (by kernel_rfl) (fun k hk => by cases hk) (by kernel_rfl) (laid_met os))) ?_
  intro W base args ds gs before hval hW _ _ _ hL hsh _
  exact contract H enc W base args ds gs before hval hW hL hsh

set_option maxRecDepth 100000 in
theorem said : Rows.FnPrefixBackSaid :=
  OpenClaim.holds_of_cond 8 Tryd.f8 rfl rfl rfl rfl rfl rfl rfl ⟨rfl, rfl, rfl, rfl, rfl⟩ rfl rfl rfl rfl rfl (by kernel_rfl) Tryd.func8 (by kernel_rfl)
    (of_decide_eq_true (by kernel_rfl)) (by unfold Func.isWrapper; rw [if_neg (of_decide_eq_false (by kernel_rfl))]; exact ⟨rfl, rfl⟩)
    (fun os started H enc _ F => by rw [OpenClaim.pre_eq_preRow]; exact lifted os started H enc F)

set_option maxRecDepth 100000 in
theorem plain (f : FuncId) (fn : Func) (hf : Tryd.pinned.checked.prog.funcNamed "loop.example/g00655/laws.FnPrefixBack" = some f) (hfn : Tryd.pinned.checked.prog.funcs[f]? = some fn) :
    false = Tryd.pinned.checked.prog.looks [] ∧ ∀ (j : Nat) t, fn.params[j]? = some t → Tryd.pinned.checked.prog.wantsStandIn t = false := by
  obtain rfl : f = 8 := Option.some.inj ((show Tryd.prog.funcNamed "loop.example/g00655/laws.FnPrefixBack" = some 8 by kernel_rfl).symm.trans hf) |>.symm
  obtain rfl : fn = Tryd.f8 := (Option.some.inj (Tryd.func8.symm.trans hfn)).symm
  refine ⟨by kernel_rfl, fun j t ht => ?_⟩
  rw [Tryd.params8] at ht
  obtain rfl : t = 42 := by simpa using Array.mem_of_getElem? ht
  exact (show Tryd.prog.wantsStandIn 42 = false by kernel_rfl)

set_option maxRecDepth 100000 in
theorem proved : Rows.FnPrefixBackCardSaid :=
  Claim7.holds_tied_plain_at .later [] _ _ _ _ said (fun _ h => by cases h) (by kernel_rfl) (fun _ h => by cases h) fnPrefixBack_row_tie rfl ⟨rfl, rfl⟩ (by kernel_rfl) rfl plain (by kernel_rfl)
#print axioms proved
end fnPrefixBack
end Go.Proofs.YtckakpcjbndijabDoor
