/-
  For every code of bytes the law FnAddrBack returns true: an address is recovered from its text and from its bytes, and one that is no address has neither. The row's condition: five tables of Go's own library hold what their initialisers lay (the card ties them to the program's text). The argument reads afterwards as before.
-/
import Derived.Test.YtckakpcjbndijabDoorAddrDraw3
import Derived.Test.YtckakpcjbndijabDoorTextImpl2
import Derived.Test.YtckakpcjbndijabDoorSixRead
import Derived.Test.YtckakpcjbndijabDoorPfxText
import Derived.Test.YtckakpcjbndijabDoorCards
import Derived.Test.YtckakpcjbndijabDoorTie
import Derived.Test.YtckakpcjbndijabDoorInBytes
import Derived.ProofKit
import Derived.OpenShut
import Derived.WalkSmall
import Derived.Stop.LaidErr
import Derived.Deep.DeepHandedRow
import Derived.Lib.LaidTab
import Derived.HandedShaped
import Derived.Shelf.Vars
namespace Go.Proofs.YtckakpcjbndijabDoor
open Go.RowKit

set_option maxRecDepth 100000 in
theorem ofA_bytes (x : Ad) (h : x.ok = true) : ofA x.bytes = x ∧ okA x.bytes = true := by
  rcases x.ok_kind h with hk | hk
  · have e : x.bytes = put32 x.d := by simp [Ad.bytes, h, hk]
    have hl : (put32 x.d).length = 4 := rfl
    rw [e, ofA_four hl, be_put32 x.d (x.halves h).2.2.2]
    have hz := x.ok_four h hk
    refine ⟨?_, by simp [okA, hl]⟩
    cases x
    simp_all
  · have e : x.bytes = x.whole := by simp [Ad.bytes, h, hk]
    rw [e, ofA_six x.whole_length, ← hk, unw_of_ok x h]
    exact ⟨rfl, by simp [okA, x.whole_length]⟩
set_option maxRecDepth 100000 in
theorem rdA_short {s : List UInt8} {x : Ad} (h : rdA s = some x) : s.length ≤ 80 := by
  obtain ⟨_, rfl⟩ := (rdA_iff s x).1 h
  exact x.text_len
set_option maxRecDepth 100000 in
theorem empty_str : (strOf []).toList = [] := by simp [ByteArray.toList_eq, strOf]

set_option maxRecDepth 100000 in
set_option maxHeartbeats 2000000 in
theorem lawAddrBack {w : World} (A : Option Addr) (n c : Nat) (bs : List UInt8) (m : Int) (hin : In w A n c bs) (ht : Tabs w) (hm : w.cell? ⟨1, 0, none⟩ = some (.int .i64 m)) :
    Calls Tryd.prog 7 #[.slice A n c] w fun e w' => e = .returned (.bool true) ∧ Below w.heap.size w w' := by
  obtain ⟨rfl, hcap, hbig, hrb⟩ := hin
  unfold maxLen at hbig
  by_cases hn : bs.length ≤ 1048576
  · have hnI : ¬ (1048576 : Int) < (bs.length : Int) := by omega
    have HT := Lib.hid ht
    have HM := Lib.hid hm
    clear ht hm
    go_enter Tryd.func7, Tryd.ntmps7
    go_wp2_with fail
    refine (bigB A bs.length c w).mono ?_
    rintro e w0 ⟨rfl, rfl⟩
    go_wp2_with fail
    refine (drawAddrText A c bs w hrb hn).mono ?_
    rintro e w1 ⟨x, rfl, b1⟩
    have hz1 := b1.size
    go_wp2_with fail
    refine (specAddrOk x _).mono ?_
    rintro e w2 ⟨rfl, b2⟩
    obtain ⟨c0, c1, c2, c3, c4⟩ := ad_box b2
    have B2 := Lib.hid b2
    have BW := Lib.hid (bthen (bthen b1 (Joins.below_alloc1 w1 _)) b2)
    clear b1 b2
    cases hok : x.ok
    · have hx : x.text = [] := by simp [Ad.text, hok]
      have hy : x.bytes = [] := by simp [Ad.bytes, hok]
      have tx := implAddrText x w2 (HT.out.on BW.out)
      unfold TextOut at tx
      rw [hx] at tx
      have TX := Lib.hid tx
      have ab := implAddrBytes x
      unfold BytesOut at ab
      rw [hy] at ab
      have AB := Lib.hid ab
      have hem := empty_str
      clear hx hy tx ab hok
      go_wp2_with fail
      refine TX.out.mono ?_
      rintro e w3 ⟨rfl, b3⟩
      obtain ⟨c0, c1, c2, c3, c4⟩ := ad_box (bthen B2.out b3)
      go_wp2_with fail
      refine (AB.out _).mono ?_
      rintro e w4 ⟨A4, k4, rfl, _, b4⟩
      have BF := bthen (bthen BW.out b3) b4
      go_wp2
      go_ret
      exact ⟨rfl, BF⟩
    · obtain ⟨T, hT⟩ : ∃ T, T = x.text := ⟨_, rfl⟩
      have tx := implAddrText x w2 (HT.out.on BW.out)
      unfold TextOut at tx
      rw [← hT] at tx
      have TX := Lib.hid tx
      have hr : rdA T = some x := (rdA_iff T x).2 ⟨hok, hT.symm⟩
      have hTl : T.length ≤ 1048576 := by
        have := rdA_short hr
        omega
      have ar := fun (v : World) (hv : v.cell? ⟨1, 0, none⟩ = some (.int .i64 m)) => implAddrRead (strOf T) m v (by rw [strOf_size]; exact hTl) hv
      unfold ReadOut at ar
      rw [strOf_data, hr] at ar
      have AR := Lib.hid (show ∀ v : World, v.cell? ⟨1, 0, none⟩ = some (.int .i64 m) → Calls Tryd.prog 13 #[.string (strOf T)] v fun e w' => e = .returned (.tuple #[.agg #[.int .i64 x.k, .int .i64 x.a, .int .i64 x.b, .int .i64 x.c, .int .i64 x.d], .bool true]) ∧ Below v.heap.size v w' from ar)
      obtain ⟨ho1, ho2⟩ := ofA_bytes x hok
      obtain ⟨ys, hys⟩ : ∃ ys, ys = x.bytes := ⟨_, rfl⟩
      obtain ⟨L, hL⟩ : ∃ L, ys.length = L := ⟨_, rfl⟩
      have hL16 : L ≤ 16 := by rw [← hL, hys]; exact bytes_le x
      have ab := implAddrBytes x
      unfold BytesOut at ab
      rw [← hys, hL] at ab
      have AB := Lib.hid ab
      rw [← hys] at ho1 ho2
      have ao := fun (v : World) (B : Option Addr) (k : Nat) (hv : RB v v.heap.size B ys) => implAddrOf B L k ys v hv hL (by omega)
      unfold OfOut at ao
      rw [ho1, ho2] at ao
      have AO := Lib.hid ao
      have hq := eq_ad x x
      rw [decide_eq_true rfl] at hq
      clear hT tx hr hTl ar ho1 ho2 hys hL ab ao hok
      go_wp2_with fail
      refine TX.out.mono ?_
      rintro e w3 ⟨rfl, b3⟩
      have B3 := Lib.hid (bthen B2.out b3)
      have BW3 := Lib.hid (bthen BW.out b3)
      clear b3 c0 c1 c2 c3 c4
      go_wp2_with fail
      refine (AR.out _ (cell_on BW3.out HM.out)).mono ?_
      rintro e w4 ⟨rfl, b4⟩
      have B4 := Lib.hid (bthen (bthen B3.out b4) (Joins.below_alloc1 w4 (.cells #[.int .i64 x.k, .int .i64 x.a, .int .i64 x.b, .int .i64 x.c, .int .i64 x.d] 25)))
      have BW4 := Lib.hid (bthen (bthen BW3.out b4) (Joins.below_alloc1 w4 (.cells #[.int .i64 x.k, .int .i64 x.a, .int .i64 x.b, .int .i64 x.c, .int .i64 x.d] 25)))
      obtain ⟨c0, c1, c2, c3, c4⟩ := ad_box B4.out
      clear b4
      go_wp2_with fail
      refine (AB.out _).mono ?_
      rintro e w5 ⟨A5, k5, rfl, o5, b5⟩
      have B5 := Lib.hid b5
      have r5 := RB.of_own o5
      clear o5 b5 c0 c1 c2 c3 c4
      go_wp2_with fail
      refine (AO.out _ _ _ r5).mono ?_
      rintro e w6 ⟨rfl, b6⟩
      have B6 := Lib.hid (bthen (bthen B5.out b6) (Joins.below_alloc1 w6 (.cells #[.int .i64 x.k, .int .i64 x.a, .int .i64 x.b, .int .i64 x.c, .int .i64 x.d] 25)))
      obtain ⟨c0, c1, c2, c3, c4⟩ := ad_box (bthen B4.out B6.out)
      obtain ⟨d0, d1, d2, d3, d4⟩ := ad_box B6.out
      have BF := Lib.hid (bthen BW4.out B6.out)
      clear b6 r5
      go_wp2
      go_ret
      exact ⟨rfl, BF.out⟩
  · have hnI : (1048576 : Int) < (bs.length : Int) := by omega
    go_enter Tryd.func7, Tryd.ntmps7
    go_wp2_with fail
    refine (bigB A bs.length c w).mono ?_
    rintro e w0 ⟨rfl, rfl⟩
    go_wp2
    go_ret
    exact ⟨rfl, Below.refl _ _⟩

namespace fnAddrBack
open Go.ChangeShapes Go.WideShapes Go.ChangeAt
set_option maxRecDepth 100000 in
theorem own : ownKnob Tryd.prog.godebug = none := by kernel_rfl
set_option maxRecDepth 100000 in
theorem laidOut : laidOutB Tryd.prog = true := by kernel_rfl
set_option maxRecDepth 100000 in
theorem cellsTab : Tryd.prog.cellsOf 115 = 20 := by kernel_rfl
set_option maxRecDepth 100000 in
theorem cellsNum : Tryd.prog.cellsOf 101 = 1 := by kernel_rfl
def de32 : List Int := [0, 1, 28, 2, 29, 14, 24, 3, 30, 22, 20, 15, 25, 17, 4, 8, 31, 27, 13, 23, 21, 19, 16, 7, 26, 12, 18, 6, 11, 5, 10, 9]
def de64 : List Int := [0, 1, 56, 2, 57, 49, 28, 3, 61, 58, 42, 50, 38, 29, 17, 4, 62, 47, 59, 36, 45, 43, 51, 22, 53, 39, 33, 30, 24, 18, 12, 5, 63, 55, 48, 27, 60, 41, 37, 16, 46, 35, 44, 21, 52, 32, 23, 11, 54, 26, 40, 15, 34, 20, 31, 10, 25, 14, 19, 9, 13, 8, 7, 6]
set_option maxRecDepth 100000 in
theorem isTab : Rows.laid_internal_strconv_uint64pow10 (H := Unit) = Lib.tabData .u64 Lib.pow10Tab := by kernel_rfl

set_option maxRecDepth 100000 in
theorem isTab64 : Rows.laid_math_bits_deBruijn64tab (H := Unit) = Lib.tabData .u8 de64 := by kernel_rfl
set_option maxRecDepth 100000 in
theorem g64 : Tryd.prog.globalNamed "math/bits.deBruijn64tab" = some 3 := by kernel_rfl
set_option maxRecDepth 100000 in
theorem g64Type : (Tryd.prog.globals[3]?).map (·.type) = some 128 := by kernel_rfl
set_option maxRecDepth 100000 in
theorem cells64 : Tryd.prog.cellsOf 128 = 64 := by kernel_rfl
set_option maxRecDepth 100000 in
theorem cellsB : Tryd.prog.cellsOf 5 = 1 := by kernel_rfl
set_option maxRecDepth 100000 in
theorem tables {W : World} (h : laidMetH Tryd.prog Rows.fnAddrBackRow.laid W) : Tabs W := by
  have h1 : laidMet Tryd.prog [("math/bits.deBruijn32tab", Rows.laid_math_bits_deBruijn32tab), ("math/bits.deBruijn64tab", Rows.laid_math_bits_deBruijn64tab), ("internal/strconv.uint64pow10", Rows.laid_internal_strconv_uint64pow10), ("unicode/utf8.acceptRanges", Rows.laid_unicode_utf8_acceptRanges), ("unicode/utf8.first", Rows.laid_unicode_utf8_first)] W := h
  have h2 := h1.tail.tail
  rw [isTab] at h2
  have t10 : Lib.TabIs Tryd.prog W tabName .u64 Lib.pow10Tab := Lib.tabIs_of_head gTab gTabType Tryd.underlying115 Tryd.underlying101 cellsNum cellsTab h2
  have h3 := h1.tail
  rw [isTab64] at h3
  have t64 : Lib.TabIs Tryd.prog W "math/bits.deBruijn64tab" .u8 de64 := Lib.tabIs_of_head g64 g64Type Tryd.underlying128 Tryd.underlying5 cellsB cells64 h3
  have hlt : 0 < W.heap.size := by
    have := World.block_lt_of_cell? W _ (t10.cell gTab 0 (by decide))
    simpa using this
  exact ⟨t10, hlt, t64.cell g64 15 (by decide)⟩

set_option maxRecDepth 100000 in
theorem contract (H : Type) (enc : TypeId × Value → H) (W : World) (base : Nat) (args : Array Value) (ds gs : List (DataW H)) (before : List MemPlace)
    (hval : ∀ (j : Nat) t v, Tryd.f7.params[j]? = some t → args[j]? = some v → Value.okWide Tryd.prog W .any base t v)
    (hW : DataW.Whole enc Tryd.prog Tryd.f7.params.toList Rows.fnAddrBackSpec.vars false W args.toList ds gs before) (hL : laidMetH Tryd.prog Rows.fnAddrBackRow.laid W) (hsh : W.ShapedOpen Tryd.prog) :
    Calls Tryd.prog 7 args W fun e W' => ∃ v, e = .returned v ∧ Rows.fnAddrBackSpec.post enc Tryd.prog Tryd.f7 false true false false W args v W' := by
  have hW' := hW
  obtain ⟨p, q, hA0, hV, rfl, _, _⟩ := hW
  have hA : DataW.TrodAll enc Tryd.prog W 0 (fun _ => true) true Tryd.f7.params.toList args.toList ds p := hA0
  rw [Tryd.params7] at hA hval
  obtain ⟨v0, vs0, d0, ds0, p0, q0, hargs, rfl, rfl, h0, r0⟩ := trodAll_cons hA
  obtain ⟨rfl, rfl, rfl⟩ := trodAll_nil r0
  obtain rfl : args = #[v0] := by cases args; simp_all
  obtain ⟨rfl, rfl⟩ := trodVars_none hV
  obtain ⟨a0, n0, c0, rfl⟩ := okWide_slice Tryd.underlying42 (hval 0 42 v0 rfl rfl)
  have k0 := h0
  have lt0 : ∀ y ∈ p0, y.block < W.heap.size := by obtain ⟨m, hm⟩ := k0; exact DataW.trod_lt m _ _ _ hm
  obtain ⟨b0, w0⟩ := bytes_in h0
  clear hA0
  obtain ⟨m, hm⟩ := Go.Proofs.cell_of_shapedOpen_int (zero := #[.int .i64 0]) (t := 3) hsh (g := 1) (of_decide_eq_true (by kernel_rfl)) (by kernel_rfl) rfl (by kernel_rfl) (by kernel_rfl) Tryd.underlying3
  refine (lawAddrBack a0 n0 c0 b0 m w0 (tables hL) hm).mono fun e W' ⟨he, bel⟩ => ?_
  subst he
  exact ⟨_, rfl, _, _, _, [], _, [], hW', trodAll_mk1 (shut_bool Tryd.underlying4 _), (trodAll_cons_mk (Below.trod laidOut (by kernel_rfl) (of_decide_eq_true (by kernel_rfl)) k0 bel lt0) trodAll_mk0), rfl, bel.frame _, fun h => by cases h⟩

def setTab (cs : Array Value) : Obj → Obj
  | .cells _ t frozen => .cells cs t frozen
  | o => o
def ranges : List Int := [128, 191, 160, 191, 128, 159, 144, 191, 128, 143] ++ List.replicate 22 0
def firsts : List Int := List.replicate 128 240 ++ List.replicate 66 241 ++ List.replicate 30 2 ++ [19] ++ List.replicate 12 3 ++ [35, 3, 3, 52, 4, 4, 4, 68] ++ List.replicate 11 241
/-- A world for the witness: the settled one, the five tables holding what their initialisers lay. -/
noncomputable def laidWorld (os : Os) : World :=
  { World.holding Tryd.prog os ⟨#[], #[], []⟩ with heap := (((((World.holding Tryd.prog os ⟨#[], #[], []⟩).heap.modify 0 (setTab (Lib.pow10Tab.map (Value.int .u64)).toArray)).modify 2 (setTab (de32.map (Value.int .u8)).toArray)).modify 3 (setTab (de64.map (Value.int .u8)).toArray)).modify 5 (setTab (ranges.map (Value.int .u8)).toArray)).modify 4 (setTab (firsts.map (Value.int .u8)).toArray) }
set_option maxRecDepth 100000 in
theorem laid_met (os : Os) : laidMet Tryd.prog Rows.fnAddrBackRow.laid ((laidWorld os).forCall (fun _ _ => 0) ⟨#[], #[.slice none 0 0], []⟩).memory :=
  laidMet_of_run' 8 (by kernel_rfl) (by kernel_rfl)
set_option maxRecDepth 100000 in
theorem reads (os : Os) {H : Type} (enc : TypeId × Value → H) : ∃ places, DataW.whole enc Tryd.prog ((laidWorld os).forCall (fun _ _ => 0) ⟨#[], #[.slice none 0 0], []⟩).memory Tryd.f7.params.toList Rows.fnAddrBackSpec.vars false #[Value.slice none 0 0].toList 8 = some ([.nil], [], places) :=
  ⟨[], by kernel_rfl⟩

set_option maxRecDepth 100000 in
theorem lifted (os : Os) (started : os.Started) (H : Type) (enc : TypeId × Value → H) (F : Stop.Interp) :
    ReturnsInHanded {} Tryd.checked os 7 .any ((OpenSpec.ofChange Rows.fnAddrBackSpec).preRow enc Tryd.prog Tryd.f7 Rows.fnAddrBackRow.domain false Rows.fnAddrBackRow.laid) (((OpenSpec.ofChange Rows.fnAddrBackSpec).at F).post enc Tryd.prog Tryd.f7 false true false false) := by
  obtain ⟨places, hx⟩ := reads os enc
  refine returnsInHanded_of_row (C := Tryd.checked) (s := OpenSpec.ofChange Rows.fnAddrBackSpec) own started (by kernel_rfl) Tryd.func7
    (witness_row_at (enc := enc) (C := Tryd.checked) false (laidWorld os) #[.slice none 0 0] rfl (by kernel_rfl) (by kernel_rfl) (by kernel_rfl)
      (OpenSpec.preRow_of_cond 8 hx (by kernel_rfl) (fun k hk => by cases hk) (by kernel_rfl) (laid_met os))) ?_
  intro W base args ds gs before hval hW _ _ _ hL hsh _
  exact contract H enc W base args ds gs before hval hW hL hsh

set_option maxRecDepth 100000 in
theorem said : Rows.FnAddrBackSaid :=
  OpenClaim.holds_of_cond 7 Tryd.f7 rfl rfl rfl rfl rfl rfl rfl ⟨rfl, rfl, rfl, rfl, rfl⟩ rfl rfl rfl rfl rfl (by kernel_rfl) Tryd.func7 (by kernel_rfl)
    (of_decide_eq_true (by kernel_rfl)) (by unfold Func.isWrapper; rw [if_neg (of_decide_eq_false (by kernel_rfl))]; exact ⟨rfl, rfl⟩)
    (fun os started H enc _ F => by rw [OpenClaim.pre_eq_preRow]; exact lifted os started H enc F)

set_option maxRecDepth 100000 in
theorem plain (f : FuncId) (fn : Func) (hf : Tryd.pinned.checked.prog.funcNamed "loop.example/g00655/laws.FnAddrBack" = some f) (hfn : Tryd.pinned.checked.prog.funcs[f]? = some fn) :
    false = Tryd.pinned.checked.prog.looks [] ∧ ∀ (j : Nat) t, fn.params[j]? = some t → Tryd.pinned.checked.prog.wantsStandIn t = false := by
  obtain rfl : f = 7 := Option.some.inj ((show Tryd.prog.funcNamed "loop.example/g00655/laws.FnAddrBack" = some 7 by kernel_rfl).symm.trans hf) |>.symm
  obtain rfl : fn = Tryd.f7 := (Option.some.inj (Tryd.func7.symm.trans hfn)).symm
  refine ⟨by kernel_rfl, fun j t ht => ?_⟩
  rw [Tryd.params7] at ht
  obtain rfl : t = 42 := by simpa using Array.mem_of_getElem? ht
  exact (show Tryd.prog.wantsStandIn 42 = false by kernel_rfl)

set_option maxRecDepth 100000 in
theorem proved : Rows.FnAddrBackCardSaid :=
  Claim7.holds_tied_plain_at .later [] _ _ _ _ said (fun _ h => by cases h) (by kernel_rfl) (fun _ h => by cases h) fnAddrBack_row_tie rfl ⟨rfl, rfl⟩ (by kernel_rfl) rfl plain (by kernel_rfl)
#print axioms proved
end fnAddrBack
end Go.Proofs.YtckakpcjbndijabDoor
