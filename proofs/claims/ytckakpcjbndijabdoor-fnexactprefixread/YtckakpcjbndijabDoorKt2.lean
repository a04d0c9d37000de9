/-
  Texts of the proof, joined: Shelf, NumImpl, Row, Ints, SumImpl, TextImpl, SplitImpl, TextImpl2, EqArr, AddrOf2, Cut, CutSpec, CutSpec2, Pfx, PfxSpec, PfxText, PfxReadLib, FourRead, GroupRead, SixRead, PfxRead, GroupSpec, ReadSpec, ReadSpec4, ReadSpec6, PfxReadSpec.
-/
import Derived.Shelf.Strings.Builder1
import Derived.Shelf.Strings.Builder2
import Derived.Shelf.Strings.OnBuilder
import Derived.Shelf.Strconv.Itoa0
import Derived.Shelf.Strconv.Itoa1
import Derived.Shelf.LaysM
import Derived.Shelf.Strconv.Itoa2
import Derived.Shelf.Strconv.Itoa3
import Derived.Test.YtckakpcjbndijabDoorProg
import Derived.WalkSmall
import Derived.Lib.LaidTab
import Derived.Deep.QuietTactic
import Derived.BigQuiet
import Derived.ProofKit
import Derived.OpenShut
import Derived.StillTailTactics
import Derived.DeepKeys
import Derived.Lib.QuietBelow
import Derived.Laws.DeepStrings4
import Derived.Test.YtckakpcjbndijabDoorKt1
namespace Go.Proofs
open Go.Shelf
def Tryd.lays156_ren : Go.Shelf.Ren := ⟨fun | 156 => 32 | 165 => 60 | 166 => 61 | 169 => 62 | 240 => 83 | 241 => 84 | 276 => 97 | 277 => 98 | n => n, fun | 31 => 51 | 9 => 9 | 3 => 3 | 4 => 4 | 0 => 0 | 20 => 20 | 72 => 78 | 76 => 82 | 70 => 76 | 37 => 42 | 75 => 81 | 127 => 99 | 164 => 112 | 5 => 5 | 80 => 84 | n => n, fun | n => n⟩
theorem Tryd.lays156 : Go.Proofs.Lays.n156 Tryd.prog Tryd.lays156_ren := {
  mixed := by kernel_rfl
  f156 := Tryd.func32.trans (congrArg some (by kernel_rfl))
  f165 := Tryd.func60.trans (congrArg some (by kernel_rfl))
  f166 := Tryd.func61.trans (congrArg some (by kernel_rfl))
  f169 := Tryd.func62.trans (congrArg some (by kernel_rfl))
  f240 := Tryd.func83.trans (congrArg some (by kernel_rfl))
  f241 := Tryd.func84.trans (congrArg some (by kernel_rfl))
  f276 := Tryd.func97.trans (congrArg some (by kernel_rfl))
  f277 := Tryd.func98.trans (congrArg some (by kernel_rfl))
  t0 := Tryd.underlying0
  a0 := Tryd.isAgg0
  z0 := Tryd.sizeOf0
  v0 := Tryd.zeroValue0
  t3 := Tryd.underlying3
  a3 := Tryd.isAgg3
  z3 := Tryd.sizeOf3
  v3 := Tryd.zeroValue3
  t4 := Tryd.underlying4
  a4 := Tryd.isAgg4
  z4 := Tryd.sizeOf4
  v4 := Tryd.zeroValue4
  t9 := Tryd.underlying9
  a9 := Tryd.isAgg9
  z9 := Tryd.sizeOf9
  v9 := Tryd.zeroValue9
  t20 := Tryd.underlying20
  a20 := Tryd.isAgg20
  z20 := Tryd.sizeOf20
  v20 := Tryd.zeroValue20
  t31 := Tryd.underlying51
  a31 := Tryd.isAgg51
  z31 := Tryd.sizeOf51
  v31 := Tryd.zeroValue51
  t37 := Tryd.underlying42
  a37 := Tryd.isAgg42
  z37 := Tryd.sizeOf42
  v37 := Tryd.zeroValue42
  t70 := Tryd.underlying76
  a70 := Tryd.isAgg76
  z70 := Tryd.sizeOf76
  v70 := Tryd.zeroValue76
  t72 := Tryd.underlying78
  a72 := Tryd.isAgg78
  z72 := Tryd.sizeOf78
  v72 := Tryd.zeroValue78
  t75 := Tryd.underlying81
  a75 := Tryd.isAgg81
  z75 := Tryd.sizeOf81
  v75 := Tryd.zeroValue81
  t76 := Tryd.underlying82
  a76 := Tryd.isAgg82
  z76 := Tryd.sizeOf82
  v76 := Tryd.zeroValue82
  t127 := Tryd.underlying99
  a127 := Tryd.isAgg99
  z127 := Tryd.sizeOf99
  v127 := Tryd.zeroValue99
  t164 := Tryd.underlying112
  a164 := Tryd.isAgg112
  z164 := Tryd.sizeOf112
  v164 := Tryd.zeroValue112 }
theorem Tryd.Builder_Extra_156 : Builder.Extra Tryd.prog Tryd.lays156_ren := {
  sizeBuilder := by kernel_rfl
  liesBuilder := by kernel_rfl
  t5 := Tryd.underlying5
  a5 := Tryd.isAgg5
  z5 := Tryd.sizeOf5
  v5 := Tryd.zeroValue5
  infoByte := by kernel_rfl
  cellsByte := by kernel_rfl
  sizeByte := by kernel_rfl
  neB5 := by decide }
open Go.RowKit in
theorem Tryd.strings_Join_none (a : Option Addr) (c : Nat) (sep : ByteArray) (w : World) :
    Calls Tryd.prog 32 #[.slice a 0 c, .string sep] w fun e w' => e = .returned (.string ⟨#[]⟩) ∧ w' = w := Any.strings_Join_none Tryd.lays156 Tryd.Builder_Extra_156 a c sep w
open Go.RowKit in
theorem Tryd.strings_Join (bk o c : Nat) (xs : List ByteArray) (sep : ByteArray) (w : World) (hcells : ∀ (j : Nat) x, xs[j]? = some x → w.cell? ⟨bk, o + j, none⟩ = some (.string x)) (hbk : bk < w.heap.size) (hN : xs.length ≤ 140737488355328) (hcap : xs.length ≤ c) (hlen : (Lib.join (xs.map (·.data.toList)) sep.data.toList).length ≤ 140737488355328) :
    Calls Tryd.prog 32 #[.slice (some ⟨bk, o, none⟩) xs.length c, .string sep] w fun e w' => e = .returned (.string ⟨(Lib.join (xs.map (·.data.toList)) sep.data.toList).toArray⟩) ∧ Below w.heap.size w w' := Any.strings_Join Tryd.lays156 Tryd.Builder_Extra_156 bk o c xs sep w hcells hbk hN hcap hlen
def Tryd.laysM171_ren : Go.Shelf.Ren := ⟨fun | 171 => 59 | 243 => 82 | 246 => 63 | 283 => 85 | 284 => 86 | 285 => 87 | 286 => 88 | 129 => 100 | 317 => 99 | 318 => 101 | 319 => 102 | 320 => 103 | 337 => 110 | 338 => 111 | n => n, fun | 3 => 3 | 9 => 9 | 2 => 2 | 4 => 4 | 171 => 100 | 0 => 0 | 53 => 101 | 37 => 42 | 5 => 5 | 173 => 104 | 212 => 115 | 51 => 116 | 20 => 20 | 213 => 117 | 46 => 85 | 232 => 127 | 233 => 128 | n => n, fun | 17 => 0 | 18 => 2 | 19 => 3 | n => n⟩
theorem Tryd.laysM171 : Go.Proofs.LaysM.n171 Tryd.prog Tryd.laysM171_ren := {
  mixed := by kernel_rfl
  f129 := Tryd.func100.trans (congrArg some (by kernel_rfl))
  f171 := Tryd.func59.trans (congrArg some (by kernel_rfl))
  f243 := Tryd.func82.trans (congrArg some (by kernel_rfl))
  f246 := Tryd.func63.trans (congrArg some (by kernel_rfl))
  f283 := Tryd.func85.trans (congrArg some (by kernel_rfl))
  f284 := Tryd.func86.trans (congrArg some (by kernel_rfl))
  f285 := Tryd.func87.trans (congrArg some (by kernel_rfl))
  f286 := Tryd.func88.trans (congrArg some (by kernel_rfl))
  f317 := Tryd.func99.trans (congrArg some (by kernel_rfl))
  f318 := Tryd.func101.trans (congrArg some (by kernel_rfl))
  f319 := Tryd.func102.trans (congrArg some (by kernel_rfl))
  f320 := Tryd.func103.trans (congrArg some (by kernel_rfl))
  f337 := Tryd.func110.trans (congrArg some (by kernel_rfl))
  f338 := Tryd.func111.trans (congrArg some (by kernel_rfl))
  t0 := Tryd.underlying0
  a0 := Tryd.isAgg0
  z0 := Tryd.sizeOf0
  v0 := Tryd.zeroValue0
  t2 := Tryd.underlying2
  a2 := Tryd.isAgg2
  z2 := Tryd.sizeOf2
  v2 := Tryd.zeroValue2
  t3 := Tryd.underlying3
  a3 := Tryd.isAgg3
  z3 := Tryd.sizeOf3
  v3 := Tryd.zeroValue3
  t4 := Tryd.underlying4
  a4 := Tryd.isAgg4
  z4 := Tryd.sizeOf4
  v4 := Tryd.zeroValue4
  t5 := Tryd.underlying5
  a5 := Tryd.isAgg5
  z5 := Tryd.sizeOf5
  v5 := Tryd.zeroValue5
  t9 := Tryd.underlying9
  a9 := Tryd.isAgg9
  z9 := Tryd.sizeOf9
  v9 := Tryd.zeroValue9
  t20 := Tryd.underlying20
  a20 := Tryd.isAgg20
  z20 := Tryd.sizeOf20
  v20 := Tryd.zeroValue20
  t37 := Tryd.underlying42
  a37 := Tryd.isAgg42
  z37 := Tryd.sizeOf42
  v37 := Tryd.zeroValue42
  t46 := Tryd.underlying85
  a46 := Tryd.isAgg85
  z46 := Tryd.sizeOf85
  v46 := Tryd.zeroValue85
  t51 := Tryd.underlying116
  a51 := Tryd.isAgg116
  z51 := Tryd.sizeOf116
  v51 := Tryd.zeroValue116
  t53 := Tryd.underlying101
  a53 := Tryd.isAgg101
  z53 := Tryd.sizeOf101
  v53 := Tryd.zeroValue101
  t171 := Tryd.underlying100
  a171 := Tryd.isAgg100
  z171 := Tryd.sizeOf100
  v171 := Tryd.zeroValue100
  t173 := Tryd.underlying104
  a173 := Tryd.isAgg104
  z173 := Tryd.sizeOf104
  v173 := Tryd.zeroValue104
  t212 := Tryd.underlying115
  a212 := Tryd.isAgg115
  z212 := Tryd.sizeOf115
  v212 := Tryd.zeroValue115
  t213 := Tryd.underlying117
  a213 := Tryd.isAgg117
  z213 := Tryd.sizeOf117
  t232 := Tryd.underlying127
  a232 := Tryd.isAgg127
  z232 := Tryd.sizeOf127
  v232 := Tryd.zeroValue127
  t233 := Tryd.underlying128
  a233 := Tryd.isAgg128
  z233 := Tryd.sizeOf128
  v233 := Tryd.zeroValue128
  g17 := by kernel_rfl
  g18 := by kernel_rfl
  g19 := by kernel_rfl
  i0 := by kernel_rfl
  i2 := by kernel_rfl
  i3 := by kernel_rfl
  i4 := by kernel_rfl
  i5 := by kernel_rfl
  i9 := by kernel_rfl
  i20 := by kernel_rfl
  i37 := by kernel_rfl
  i46 := by kernel_rfl
  i51 := by kernel_rfl
  i53 := by kernel_rfl
  i171 := by kernel_rfl
  i173 := by kernel_rfl
  i212 := by kernel_rfl
  i232 := by kernel_rfl
  i233 := by kernel_rfl
  m17 := by kernel_rfl
  m18 := by kernel_rfl
  m19 := by kernel_rfl }
open Go.RowKit Go.Sort Go.Lib in
theorem Tryd.strconv_Itoa (n : Int) (h0 : -9223372036854775808 ≤ n) (h1 : n ≤ 9223372036854775807) (w : World) (htab : Lib.TabIs Tryd.prog w "internal/strconv.uint64pow10" .u64 Lib.pow10Tab) :
    Calls Tryd.prog 59 #[.int .i64 n] w fun e w' => e = .returned (.string ⟨(Lib.itoa n).toArray⟩) ∧ ∃ k os, w' = grow (w.drewN k) os := Any.strconv_Itoa Tryd.laysM171 n h0 h1 w htab
end Go.Proofs
namespace Go.Proofs.YtckakpcjbndijabDoor
open Go.RowKit

set_option maxRecDepth 100000 in
theorem dec_digits (n : Nat) : n ≠ 0 → dec n = Lib.decDigits n := by
  induction n using Nat.strongRecOn with
  | ind n ih =>
    intro h
    rw [dec_pos n h, Lib.decDigits]
    by_cases h10 : n < 10
    · rw [dif_pos h10, show n / 10 = 0 by omega, dec_zero, show n % 10 = n by omega]
      rfl
    · rw [dif_neg h10, ih (n / 10) (by omega) (by omega)]

set_option maxRecDepth 100000 in
theorem numText_itoa (n : Int) : numText n = Lib.itoa n := by
  unfold numText Lib.itoa
  by_cases h0 : n = 0
  · subst h0
    rw [if_pos rfl, if_neg (by omega), Lib.decDigits, dif_pos (by decide)]
    rfl
  · rw [if_neg h0]
    by_cases hn : n < 0
    · rw [if_pos hn, if_pos hn, dec_digits _ (by omega)]
    · rw [if_neg hn, if_neg hn, dec_digits _ (by omega), show n.toNat = n.natAbs by omega]

set_option maxRecDepth 100000 in
theorem below_grow (w : World) (k : Nat) (os : Array Obj) : Below w.heap.size w (Sort.grow (w.drewN k) os) := by
  refine ⟨rfl, rfl, rfl, ?_, fun i hi => ?_⟩
  · simp [Sort.grow]
  · simp only [Sort.grow, World.heap_drewN]
    rw [Array.getElem?_append_left hi]

abbrev tabName : String := "internal/strconv.uint64pow10"
set_option maxRecDepth 100000 in
theorem gTab : Tryd.prog.globalNamed tabName = some 0 := by kernel_rfl
set_option maxRecDepth 100000 in
theorem gTabType : (Tryd.prog.globals[0]?).map (·.type) = some 115 := by kernel_rfl

set_option maxRecDepth 100000 in
set_option maxHeartbeats 400000 in
theorem implNumText (n : Int) (w : World) (h0 : -9223372036854775808 ≤ n) (h1 : n ≤ 9223372036854775807) (htab : Lib.TabIs Tryd.prog w tabName .u64 Lib.pow10Tab) :
    Calls Tryd.prog 31 #[.int .i64 n] w fun e w' => e = .returned (.string (strOf (numText n))) ∧ Below w.heap.size w w' := by
  have c := Tryd.strconv_Itoa n h0 h1 w htab
  rw [← numText_itoa] at c
  have C := Lib.hid c
  clear c
  go_enter Tryd.func31, Tryd.ntmps31
  go_wp2_with fail
  refine C.out.mono ?_
  rintro e w' ⟨rfl, k, os, rfl⟩
  go_wp2
  go_ret
  exact ⟨rfl, below_grow w k os⟩

end Go.Proofs.YtckakpcjbndijabDoor
namespace Go.Proofs.YtckakpcjbndijabDoor
open Go.RowKit

/-- The slice that begins at A reads as the cells vs, and lies below block number B. -/
def RV (w : World) (B : Nat) (A : Option Addr) (vs : List Value) : Prop :=
  0 < vs.length → ∃ g o, A = some ⟨g, o, none⟩ ∧ g < B ∧ ∀ j v, vs[j]? = some v → w.cell? ⟨g, o + j, none⟩ = some v

section
variable {w w' : World} {B B' : Nat} {A : Option Addr} {vs : List Value}

set_option maxRecDepth 100000 in
theorem RV.below (h : RV w B A vs) (hb : Below B w w') : RV w' B A vs := by
  intro hp
  obtain ⟨g, o, e, hg, hc⟩ := h hp
  exact ⟨g, o, e, hg, fun j u hu => (hb.cell (p := ⟨g, o + j, none⟩) hg).trans (hc j u hu)⟩

set_option maxRecDepth 100000 in
theorem RV.more (h : RV w B A vs) (hB : B ≤ B') : RV w B' A vs := by
  intro hp
  obtain ⟨g, o, e, hg, hc⟩ := h hp
  exact ⟨g, o, e, by omega, hc⟩

set_option maxRecDepth 100000 in
theorem RV.on (h : RV w w.heap.size A vs) (hb : Below w.heap.size w w') : RV w' w'.heap.size A vs := (h.below hb).more hb.size

set_option maxRecDepth 100000 in
theorem RV.nil_ (w : World) (B : Nat) (A : Option Addr) : RV w B A [] := fun h => absurd h (by simp)

set_option maxRecDepth 100000 in
theorem RV.of_own {base size : Nat} {e : TypeId} {n c : Nat} (h : w.ownsRow base e size (.slice A n c) n vs) : RV w w.heap.size A vs := by
  intro hp
  have hl := h.1
  rcases h.2 with ⟨h1, h2⟩ | ⟨g, cap, cur, hv, _, hg, _⟩
  · rw [h2, Nat.zero_mul] at hl
    omega
  · injection hv with hA hn hc
    subst hA
    subst hc
    refine ⟨g, 0, rfl, (Array.getElem?_eq_some_iff.1 hg).1, fun j u hu => ?_⟩
    have hj : j < vs.length := by
      rcases Nat.lt_or_ge j vs.length with h | h
      · exact h
      · rw [List.getElem?_eq_none h] at hu; cases hu
    rw [Nat.zero_add, h.cellAt j (by omega)]
    exact hu

set_option maxRecDepth 100000 in
theorem RV.at_ (h : RV w B A vs) {k : Nat} (hk : k < vs.length) : ∃ g o, A = some ⟨g, o, none⟩ ∧ g < B ∧ w.cell? ⟨g, o + k, none⟩ = some vs[k] := by
  obtain ⟨g, o, e, hg, hc⟩ := h (by omega)
  exact ⟨g, o, e, hg, hc k _ (List.getElem?_eq_getElem hk)⟩

set_option maxRecDepth 100000 in
/-- A new row reads as its cells. -/
theorem RV.new (w : World) (e : TypeId) (vs : List Value) : RV (w.alloc (.cells vs.toArray e)) (w.heap.size + 1) (some ⟨w.heap.size, 0, none⟩) vs := by
  intro hp
  refine ⟨w.heap.size, 0, rfl, by omega, fun j u hu => ?_⟩
  rw [cell_of_row _ w.heap.size (0 + j) _ e (0, 0) (heap_alloc_new w _)]
  simpa using hu
end

set_option maxRecDepth 100000 in
theorem run_append_v (w : World) (t ty e : TypeId) (i0 : TypeInfo) (z : Value) (size bytes : Nat) (ht : Tryd.prog.underlying t = some (.slice e)) (hi0 : Tryd.prog.info? e = some i0) (hz0 : i0.zero = some z) (hz1 : i0.size = size) (hz2 : i0.bytes = bytes) (hzs : z.cells.size = size) (hsz : 0 < size)
    (base : Nat) (v : Value) (n : Nat) (xs : List Value) (hown : w.ownsRow base e size v n xs) (B : Nat) (A : Option Addr) (m c : Nat) (ds : List Value) (hm : ds.length = m * size) (hr : RV w B A ds) (h1 : ∀ u ∈ ds, u.oneCell' = true)
    (h63 : n + m ≤ maxLen) (hby : (n + m) * bytes ≤ 140737488355328) (hbase : base ≤ w.heap.size) :
    ∃ v' w', (Builtin.append_ #[t, t] ty #[v, .slice A m c]).run Tryd.prog w = .ok v' w' ∧ w'.ownsRow base e size v' (n + m) (xs ++ ds) ∧ w.grownBy w' v.ownBlock ∧
      (v'.ownBlock = v.ownBlock ∨ v'.ownBlock = some w.heap.size) := by
  rcases A with _ | ad
  · have h0 : ds = [] := by
      rcases ds with _ | ⟨d, ds⟩
      · rfl
      · obtain ⟨g, o, h, _⟩ := hr (by simp)
        cases h
    subst h0
    have hm0 : m = 0 := by
      rcases Nat.mul_eq_zero.1 (show m * size = 0 from hm.symm) with h | h
      · exact h
      · omega
    subst hm0
    refine ⟨v, w, ?_, by simpa using hown, World.grownBy.refl _ _, .inl rfl⟩
    rcases hown.2 with ⟨rfl, h0⟩ | ⟨g, cap, cur, rfl, _, _, hnc, _⟩
    · simp [Builtin.append_, run_underlying ht, sizeOf, typeInfo, hi0, Builtin.lenOf, Builtin.firstCells]
    · simp [Builtin.append_, run_underlying ht, sizeOf, typeInfo, hi0, Builtin.lenOf, Builtin.firstCells, hnc, storeCells]
  · obtain ⟨v', w', g1, g2, g3, _, g5⟩ := run_append_own_at (P := Tryd.prog) w base t ty e i0 z size bytes ht hi0 hz0 hz1 hz2 hzs hsz v n xs hown ad m c ds hm (by
        intro j u hu
        have hj : j < ds.length := by
          rcases Nat.lt_or_ge j ds.length with h | h
          · exact h
          · rw [List.getElem?_eq_none h] at hu; cases hu
        obtain ⟨g, o, h, _, hc⟩ := hr (by omega)
        injection h with h
        subst h
        rw [addr_add]
        exact hc j u hu) h1 h63 hby hbase
    exact ⟨v', w', g1, g2, g3, g5⟩

/-- The cells of a list of integers. -/
def intsOf (xs : List Int) : List Value := xs.map fun n => .int .i64 n

set_option maxRecDepth 100000 in
theorem intsOf_length (xs : List Int) : (intsOf xs).length = xs.length := by simp [intsOf]
set_option maxRecDepth 100000 in
theorem intsOf_get (xs : List Int) (j : Nat) (u : Int) (h : xs[j]? = some u) : (intsOf xs)[j]? = some (.int .i64 u) := by simp [intsOf, h]
set_option maxRecDepth 100000 in
theorem intsOf_append (a b : List Int) : intsOf (a ++ b) = intsOf a ++ intsOf b := by simp [intsOf]
set_option maxRecDepth 100000 in
theorem intsOf_one (xs : List Int) : ∀ u ∈ intsOf xs, u.oneCell' = true := by
  intro u hu
  simp only [intsOf, List.mem_map] at hu
  obtain ⟨b, _, rfl⟩ := hu
  rfl
set_option maxRecDepth 100000 in
theorem RV.int {w : World} {B : Nat} {A : Option Addr} {xs : List Int} (h : RV w B A (intsOf xs)) {k : Nat} (hk : k < xs.length) : ∃ g o, A = some ⟨g, o, none⟩ ∧ g < B ∧ w.cell? ⟨g, o + k, none⟩ = some (.int .i64 xs[k]) := by
  obtain ⟨g, o, e, hg, hc⟩ := h (by rw [intsOf_length]; omega)
  exact ⟨g, o, e, hg, hc k _ (intsOf_get _ _ _ (List.getElem?_eq_getElem hk))⟩

set_option maxRecDepth 100000 in
theorem info_int : (Tryd.prog.info? 3).map (fun i => (i.zero, i.size, i.bytes)) = some (some (.int .i64 0), 1, 8) := by kernel_rfl

set_option maxRecDepth 100000 in
theorem run_append_i (w : World) (ty base : Nat) (v : Value) (n : Nat) (xs : List Int) (hown : w.ownsRow base 3 1 v n (intsOf xs)) (B : Nat) (A : Option Addr) (m c : Nat) (ds : List Int) (hm : ds.length = m) (hr : RV w B A (intsOf ds))
    (hn : n + m ≤ 67108864) (hbase : base ≤ w.heap.size) :
    ∃ v' w', (Builtin.append_ #[53, 53] ty #[v, .slice A m c]).run Tryd.prog w = .ok v' w' ∧ w'.ownsRow base 3 1 v' (n + m) (intsOf (xs ++ ds)) ∧ w.grownBy w' v.ownBlock ∧
      (v'.ownBlock = v.ownBlock ∨ v'.ownBlock = some w.heap.size) := by
  obtain ⟨i0, hi0, hz0, hz1, hz2⟩ := info_parts info_int
  rw [intsOf_append]
  exact run_append_v w 53 ty 3 i0 (.int .i64 0) 1 8 Tryd.underlying53 hi0 hz0 hz1 hz2 rfl (by omega) base v n _ hown B A m c _ (by rw [intsOf_length, hm, Nat.mul_one]) hr (intsOf_one ds) (by unfold maxLen; omega) (by omega) hbase

set_option maxRecDepth 100000 in
/-- 'append' onto a row of integers of the call's own, from whatever source of integers. -/
theorem wpList_append_i {w : World} {ops : Array Oper} {rest : List Oper} {o : Oper} {a : Act} {Q : Exit → Act → World → Prop} (hgd : o.guard = none) (s x : Operand)
    (ho : o.op = .call { callee := .builtin .append, args := #[s, x], argTypes := #[53, 53] }) (base : Nat) (v : Value) (n : Nat) (xs : List Int) (hs : a.eval s = v) (hown : w.ownsRow base 3 1 v n (intsOf xs))
    (B : Nat) (A : Option Addr) (m c : Nat) (ds : List Int) (hx : a.eval x = .slice A m c) (hm : ds.length = m) (hr : RV w B A (intsOf ds)) (hn : n + m ≤ 67108864) (hbase : base ≤ w.heap.size)
    (h : ∀ v' w', w'.ownsRow base 3 1 v' (n + m) (intsOf (xs ++ ds)) → w.grownBy w' v.ownBlock → (v'.ownBlock = v.ownBlock ∨ v'.ownBlock = some w.heap.size) → wpList Tryd.prog ops Q rest (a.put o.dst v') w') :
    wpList Tryd.prog ops Q (o :: rest) a w := by
  refine wpList_plain hgd fun K hK => ?_
  obtain ⟨v', w', hrun, h2, h3, h4⟩ := run_append_i w o.type base v n xs hown B A m c ds hm hr hn hbase
  unfold Oper.wp execOp
  simp only [ho, resolve, invoke, builtin, Sem.run_bind, Sem.run_pure, Result.andThen_ok, List.map_toArray, List.map_cons, List.map_nil, hs, hx, hrun]
  exact hK _ _ (h v' w' h2 h3 h4)

set_option maxRecDepth 100000 in
/-- The same, as one step of a region that draws its order. -/
theorem step_append_i {w : World} {ops : Array Oper} {o : Oper} {a : Act} {K : Act → World → Prop} {Q : Exit → Act → World → Prop} {E : Prop} (hgd : o.guard = none) (s x : Operand)
    (ho : o.op = .call { callee := .builtin .append, args := #[s, x], argTypes := #[53, 53] }) (base : Nat) (v : Value) (n : Nat) (xs : List Int) (hs : a.eval s = v) (hown : w.ownsRow base 3 1 v n (intsOf xs))
    (B : Nat) (A : Option Addr) (m c : Nat) (ds : List Int) (hx : a.eval x = .slice A m c) (hm : ds.length = m) (hr : RV w B A (intsOf ds)) (hn : n + m ≤ 67108864) (hbase : base ≤ w.heap.size)
    (h : ∀ v' w', w'.ownsRow base 3 1 v' (n + m) (intsOf (xs ++ ds)) → w.grownBy w' v.ownBlock → (v'.ownBlock = v.ownBlock ∨ v'.ownBlock = some w.heap.size) → K (a.put o.dst v') w') :
    if Region.wanted o (yielded ops a.tmps) = true then Oper.wp Tryd.prog o a w K Q else E := by
  have hw : Region.wanted o (yielded ops a.tmps) = true := by simp [Region.wanted, hgd]
  rw [if_pos hw]
  obtain ⟨v', w', hrun, h2, h3, h4⟩ := run_append_i w o.type base v n xs hown B A m c ds hm hr hn hbase
  unfold Oper.wp execOp
  simp only [ho, resolve, invoke, builtin, Sem.run_bind, Sem.run_pure, Result.andThen_ok, List.map_toArray, List.map_cons, List.map_nil, hs, hx, hrun]
  exact h v' w' h2 h3 h4
end Go.Proofs.YtckakpcjbndijabDoor
namespace Go.Proofs.YtckakpcjbndijabDoor
open Go.RowKit

set_option maxRecDepth 100000 in
theorem int_fill (pre tail : List Int) (x b : Int) (k : Nat) (hk : pre.length = k) : (intsOf (pre ++ x :: tail)).set k (.int .i64 b) = intsOf ((pre ++ [b]) ++ tail) := by
  have h := set_mid (intsOf pre) (.int .i64 x) (.int .i64 b) (intsOf tail) k (by rw [intsOf_length]; exact hk)
  simpa [intsOf] using h

set_option maxRecDepth 100000 in
theorem int_copy (xs : List Int) (k : Nat) (h : k < xs.length) :
    (intsOf (xs.take k ++ List.replicate (xs.length - k) 0)).set k (.int .i64 xs[k]) = intsOf (xs.take (k + 1) ++ List.replicate (xs.length - (k + 1)) 0) := by
  rw [show xs.length - k = (xs.length - (k + 1)) + 1 by omega, List.replicate_succ, int_fill _ _ _ _ k (by simp; omega), take_snoc xs k h]

/-- A slice of integers that came in: what the walk is told of it. -/
structure InI (w : World) (A : Option Addr) (n c : Nat) (xs : List Int) : Prop where
  len : xs.length = n
  cap : n ≤ c
  big : c ≤ maxLen
  rb : RV w w.heap.size A (intsOf xs)
  wf : ∀ x ∈ xs, (Lit.int .i64 x).wf = true

set_option maxRecDepth 100000 in
open Go.ChangeShapes Go.WideShapes Go.ChangeAt in
theorem ints_in {H : Type} {enc : TypeId × Value → H} {w : World} {A : Option Addr} {n c : Nat} {d : DataW H} {p : List MemPlace} (h : DataW.Trod enc Tryd.prog w 0 (fun _ => true) true 53 (.slice A n c) d p) :
    ∃ xs, InI w A n c xs := by
  obtain ⟨fuel, hf⟩ := h
  rcases open_ints Tryd.underlying53 Tryd.underlying3 (by kernel_rfl) hf with ⟨hcs, _⟩ | ⟨x, l, cp, zs, hcs, _, hl, hm, hz, _, hcell, hwz⟩
  · simp [Value.cells] at hcs
    obtain ⟨rfl, rfl, rfl⟩ := hcs
    exact ⟨[], rfl, Nat.le_refl _, Nat.zero_le _, RV.nil_ _ _ _, by simp⟩
  · simp [Value.cells] at hcs
    obtain ⟨rfl, rfl, rfl⟩ := hcs
    simp only [if_true] at hz
    refine ⟨zs.take n, by simp; omega, hl, hm, fun hp => ?_, fun x hx => hwz x (List.mem_of_mem_take hx)⟩
    simp only [intsOf_length, List.length_take] at hp
    obtain ⟨g, o, spot⟩ := x
    have h0 := hcell 0 (by omega)
    have hspot : spot = none := by simpa [Addr.add] using World.cell?_spot h0
    subst hspot
    refine ⟨g, o, rfl, ?_, fun j u hu => ?_⟩
    · have := World.block_lt_of_cell? w _ h0
      simpa [addr_add] using this
    · simp only [intsOf, List.getElem?_map, Option.map_eq_some_iff, List.getElem?_take] at hu
      obtain ⟨z, hz1, rfl⟩ := hu
      split at hz1
      · have hj : j < zs.length := by omega
        have hc := hcell j hj
        rw [addr_add] at hc
        rw [hc]
        have hzj : zs[j] = z := by rw [List.getElem?_eq_getElem hj] at hz1; simpa using hz1
        simp [hj, hzj]
      · cases hz1
end Go.Proofs.YtckakpcjbndijabDoor
namespace Go.Proofs.YtckakpcjbndijabDoor
open Go.RowKit

/-- The row of words as it is being filled. -/
def wRow (bs : List UInt8) (k : Nat) : List Int := wordsL (bs.take k) ++ List.replicate ((bs.length + 1) / 2 - (k + 1) / 2) 0
set_option maxRecDepth 100000 in
theorem wRow_zero (bs : List UInt8) : wRow bs 0 = List.replicate ((bs.length + 1) / 2) 0 := by simp [wRow, wordsL]
set_option maxRecDepth 100000 in
theorem wRow_full (bs : List UInt8) : wRow bs bs.length = wordsL bs := by simp [wRow]
set_option maxRecDepth 100000 in
theorem wRow_length (bs : List UInt8) (k : Nat) (h : k ≤ bs.length) : (wRow bs k).length = (bs.length + 1) / 2 := by
  rw [wRow, List.length_append, wordsL_length, List.length_replicate, List.length_take, Nat.min_eq_left h]
  omega
set_option maxRecDepth 100000 in
theorem wRow_even (bs : List UInt8) (k : Nat) (h : k < bs.length) (he : k % 2 = 0) :
    (intsOf (wRow bs k)).set (k / 2) (.int .i64 ((bs[k].toNat : Int) * 256)) = intsOf (wRow bs (k + 1)) := by
  rw [wRow, wRow, show (bs.length + 1) / 2 - (k + 1) / 2 = ((bs.length + 1) / 2 - (k + 1 + 1) / 2) + 1 by omega, List.replicate_succ, int_fill _ _ _ _ (k / 2) (by rw [wordsL_length, List.length_take]; omega), wordsL_even bs k h he, Int.mul_comm]
set_option maxRecDepth 100000 in
theorem wRow_get (bs : List UInt8) (k : Nat) (h : k < bs.length) (he : k % 2 = 1) : (wRow bs k)[k / 2]? = some (256 * (bs[k - 1].toNat : Int)) := by
  have e := wordsL_even bs (k - 1) (by omega) (by omega)
  rw [show k - 1 + 1 = k by omega] at e
  rw [wRow, e, List.append_assoc, List.getElem?_append_right (by rw [wordsL_length, List.length_take]; omega), wordsL_length, List.length_take, show k / 2 - (min (k - 1) bs.length + 1) / 2 = 0 by omega]
  rfl
set_option maxRecDepth 100000 in
theorem wRow_odd (bs : List UInt8) (k : Nat) (h : k < bs.length) (he : k % 2 = 1) :
    (intsOf (wRow bs k)).set (k / 2) (.int .i64 ((bs[k - 1].toNat : Int) * 256 + bs[k].toNat)) = intsOf (wRow bs (k + 1)) := by
  have e := wordsL_even bs (k - 1) (by omega) (by omega)
  have e2 := wordsL_odd bs (k - 1) (by omega) (by omega)
  have e3 : bs[k - 1 + 1]'(by omega) = bs[k] := by congr 1; omega
  rw [show k - 1 + 1 = k by omega] at e
  rw [e3, show k - 1 + 2 = k + 1 by omega] at e2
  rw [wRow, wRow, e, e2, show (k + 1 + 1) / 2 = (k + 1) / 2 by omega, List.append_assoc, List.singleton_append, int_fill _ _ _ _ (k / 2) (by rw [wordsL_length, List.length_take]; omega), Int.mul_comm]

set_option maxRecDepth 100000 in
set_option maxHeartbeats 1000000 in
theorem wordsOfC (A : Option Addr) (c : Nat) (bs : List UInt8) (w : World) (hr : RB w w.heap.size A bs) (hn : bs.length ≤ 1048576) :
    Calls Tryd.prog 33 #[.slice A bs.length c] w fun e w' => e = .returned (.slice (some ⟨w.heap.size, 0, none⟩) ((bs.length + 1) / 2) ((bs.length + 1) / 2)) ∧
      w'.ownsRow w.heap.size 3 1 (.slice (some ⟨w.heap.size, 0, none⟩) ((bs.length + 1) / 2) ((bs.length + 1) / 2)) ((bs.length + 1) / 2) (intsOf (wordsL bs)) ∧ Below w.heap.size w w' := by
  obtain ⟨i0, hi0, hz0, hz1, hz2⟩ := info_parts info_int
  go_enter Tryd.func33, Tryd.ntmps33
  go_wp2_with (at_make; refine wpList_make_full _ rfl _ _ 53 rfl w.heap.size 3 i0 (.int .i64 0) 1 Tryd.underlying53 hi0 hz0 hz1 _ _ _ _ ((bs.length + 1) / 2) rfl rfl (by omega) (by omega) (by rw [hz2]; omega) (by unfold maxLen; omega) (Nat.le_refl _) ?_; intro w1 hown hgrow)
  have hown0 : w1.ownsRow w.heap.size 3 1 (.slice (some ⟨w.heap.size, 0, none⟩) ((bs.length + 1) / 2) ((bs.length + 1) / 2)) ((bs.length + 1) / 2) (intsOf (wRow bs 0)) := by
    have e : (madeCells (Value.int IntKind.i64 0).cells ((bs.length + 1) / 2 * 1)).toList = intsOf (wRow bs 0) := by
      rw [wRow_zero]
      have := toList_madeCells_one (.int .i64 0) ((bs.length + 1) / 2)
      simpa [Value.cells, intsOf] using this
    rw [← e]; exact hown
  have hb1 : Below w.heap.size w w1 := (Below.refl _ _).grown hgrow (Nat.le_refl _) (by simp)
  clear hown hgrow
  go_loopw [13] (fun i wr => ∃ k : Nat, k ≤ bs.length ∧ i = .int .i64 k ∧ wr.ownsRow w.heap.size 3 1 (.slice (some ⟨w.heap.size, 0, none⟩) ((bs.length + 1) / 2) ((bs.length + 1) / 2)) ((bs.length + 1) / 2) (intsOf (wRow bs k)) ∧ Below w.heap.size w wr) (fun i _ => bs.length - (intOf i).toNat)
  case atStart => exact ⟨0, Nat.zero_le _, rfl, hown0, hb1⟩
  case round =>
    obtain ⟨k, hk, rfl, ho, hb⟩ := hrel
    clear hown0 hb1
    by_cases hlt : k < bs.length
    · obtain ⟨g, o, rfl, hg, hc0⟩ := hr.at_ hlt
      have hc : wr.cell? ⟨g, o + k, none⟩ = some (.int .u8 (bs[k].toNat : Int)) := (hb.cell (p := ⟨g, o + k, none⟩) hg).trans hc0
      have hb8 : bs[k].toNat < 256 := UInt8.toNat_lt _
      have hi2 : k / 2 < (bs.length + 1) / 2 := by omega
      have hfz := ho.frozenAt (k / 2)
      by_cases he : k % 2 = 0
      · have het : ((k : Int) % 2 == 0) = true := by simp; omega
        obtain ⟨u, hu⟩ : ∃ u, wr.cell? ⟨w.heap.size, k / 2, none⟩ = some u := by
          rw [ho.cellAt (k / 2) (by omega)]
          exact ⟨_, List.getElem?_eq_getElem (by rw [intsOf_length, wRow_length bs k hk]; omega)⟩
        have R := ho.stored (k / 2) (.int .i64 ((bs[k].toNat : Int) * 256))
        rw [wRow_even bs k hlt he] at R
        have R1 := Lib.hid R.1
        have R2 := Lib.hid (hb.setCell (p := ⟨w.heap.size, k / 2, none⟩) (Nat.le_refl _) (.int .i64 ((bs[k].toNat : Int) * 256)))
        clear R ho hc0 hr hb he
        go_wp2
        go_roundw
        case rel => exact ⟨k + 1, by omega, by go_num, R1.out, R2.out⟩
        case measure => simp [intOf]; omega
      · have hef : ((k : Int) % 2 == 0) = false := by simp; omega
        have hb7 : (bs[k - 1]'(by omega)).toNat < 256 := UInt8.toNat_lt _
        have hcell : wr.cell? ⟨w.heap.size, k / 2, none⟩ = some (.int .i64 ((bs[k - 1].toNat : Int) * 256)) := by
          rw [ho.cellAt (k / 2) (by omega), intsOf_get _ _ _ (wRow_get bs k hlt (by omega)), Int.mul_comm]
        have hor := or_byte (bs[k - 1]'(by omega)).toNat bs[k].toNat (by omega) hb8
        have R := ho.stored (k / 2) (.int .i64 ((bs[k - 1].toNat : Int) * 256 + bs[k].toNat))
        rw [wRow_odd bs k hlt (by omega)] at R
        have R1 := Lib.hid R.1
        have R2 := Lib.hid (hb.setCell (p := ⟨w.heap.size, k / 2, none⟩) (Nat.le_refl _) (.int .i64 ((bs[k - 1].toNat : Int) * 256 + bs[k].toNat)))
        clear R ho hc0 hr hb he
        go_wp2
        go_roundw
        case rel => exact ⟨k + 1, by omega, by go_num, R1.out, R2.out⟩
        case measure => simp [intOf]; omega
    · obtain rfl : k = bs.length := by omega
      rw [wRow_full] at ho
      have Ho := Lib.hid ho
      clear ho
      go_wp2
      go_ret
      exact ⟨rfl, Ho.out, hb⟩

end Go.Proofs.YtckakpcjbndijabDoor
namespace Go.Proofs.YtckakpcjbndijabDoor
open Go.RowKit

/-- The cells of a list of texts. -/
def strsOf (xs : List (List UInt8)) : List Value := xs.map fun l => .string (strOf l)
set_option maxRecDepth 100000 in
theorem strsOf_length (xs : List (List UInt8)) : (strsOf xs).length = xs.length := by simp [strsOf]
set_option maxRecDepth 100000 in
theorem strsOf_append (a b : List (List UInt8)) : strsOf (a ++ b) = strsOf a ++ strsOf b := by simp [strsOf]
set_option maxRecDepth 100000 in
theorem strsOf_one (xs : List (List UInt8)) : ∀ u ∈ strsOf xs, u.oneCell' = true := by
  intro u hu
  simp only [strsOf, List.mem_map] at hu
  obtain ⟨b, _, rfl⟩ := hu
  rfl
set_option maxRecDepth 100000 in
theorem info_str : (Tryd.prog.info? 9).map (fun i => (i.zero, i.size, i.bytes)) = some (some (.string ByteArray.empty), 1, 16) := by kernel_rfl

set_option maxRecDepth 100000 in
/-- 'append' of one text onto a row of texts of the call's own. -/
theorem wpList_append_s {w : World} {ops : Array Oper} {rest : List Oper} {o : Oper} {a : Act} {Q : Exit → Act → World → Prop} (hgd : o.guard = none) (s x : Operand)
    (ho : o.op = .call { callee := .builtin .append, args := #[s, x], argTypes := #[51, 51] }) (base : Nat) (v : Value) (n : Nat) (xs : List (List UInt8)) (hs : a.eval s = v) (hown : w.ownsRow base 9 1 v n (strsOf xs))
    (B : Nat) (A : Option Addr) (m c : Nat) (ds : List (List UInt8)) (hx : a.eval x = .slice A m c) (hm : ds.length = m) (hr : RV w B A (strsOf ds)) (hn : n + m ≤ 1048576) (hbase : base ≤ w.heap.size)
    (h : ∀ v' w', w'.ownsRow base 9 1 v' (n + m) (strsOf (xs ++ ds)) → w.grownBy w' v.ownBlock → wpList Tryd.prog ops Q rest (a.put o.dst v') w') :
    wpList Tryd.prog ops Q (o :: rest) a w := by
  refine wpList_plain hgd fun K hK => ?_
  obtain ⟨i0, hi0, hz0, hz1, hz2⟩ := info_parts info_str
  obtain ⟨v', w', hrun, h2, h3, h4⟩ := run_append_v w 51 o.type 9 i0 (.string ByteArray.empty) 1 16 Tryd.underlying51 hi0 hz0 hz1 hz2 rfl (by omega) base v n _ hown B A m c _ (by rw [strsOf_length, hm, Nat.mul_one]) hr (strsOf_one ds) (by unfold maxLen; omega) (by omega) hbase
  rw [← strsOf_append] at h2
  unfold Oper.wp execOp
  simp only [ho, resolve, invoke, builtin, Sem.run_bind, Sem.run_pure, Result.andThen_ok, List.map_toArray, List.map_cons, List.map_nil, hs, hx, hrun]
  exact hK _ _ (h v' w' h2 h3)

/-- What the two tables of the library hold. -/
structure Tabs (w : World) : Prop where
  ten : Lib.TabIs Tryd.prog w tabName .u64 Lib.pow10Tab
  lt : 0 < w.heap.size
  de : w.cell? ⟨3, 15, none⟩ = some (.int .u8 4)
set_option maxRecDepth 100000 in
theorem Tabs.on {w w' : World} (h : Tabs w) (hb : Below w.heap.size w w') : Tabs w' := ⟨var?_below hb gTab h.lt h.ten, Nat.lt_of_lt_of_le h.lt hb.size, cell_on hb h.de⟩

set_option maxRecDepth 100000 in
theorem joinText (c : UInt8) (ps : List (List UInt8)) (v : Value) (n : Nat) (base : Nat) (w : World) (ho : w.ownsRow base 9 1 v n (strsOf ps)) (hn : ps.length = n) (hs : (joinC c ps).length ≤ 1048576) (hN : n ≤ 1048576) :
    Calls Tryd.prog 32 #[v, .string ⟨#[c]⟩] w fun e w' => e = .returned (.string (strOf (joinC c ps))) ∧ Below w.heap.size w w' := by
  obtain ⟨D, k, rfl⟩ := own_form ho
  by_cases h0 : n = 0
  · subst h0
    obtain rfl : ps = [] := List.eq_nil_of_length_eq_zero hn
    exact (Tryd.strings_Join_none D k ⟨#[c]⟩ w).mono fun e w' ⟨he, hw⟩ => ⟨by rw [he]; rfl, by rw [hw]; exact Below.refl _ _⟩
  · obtain ⟨g, hD, hcap, hg⟩ : ∃ g, D = some ⟨g, 0, none⟩ ∧ n ≤ k ∧ g < w.heap.size := by
      rcases ho.2 with ⟨_, h2⟩ | ⟨g, cap, cur, hv, _, hg, hnc, _⟩
      · omega
      · injection hv with hA hB hC
        exact ⟨g, hA, by omega, row_lt hg⟩
    subst hD
    have hx : (ps.map strOf).map (·.data.toList) = ps := by simp [strOf, Function.comp_def]
    have h := Tryd.strings_Join g 0 k (ps.map strOf) ⟨#[c]⟩ w (fun j x hj => by
      rw [Nat.zero_add, ho.cellAt j (by
        have := (List.getElem?_eq_some_iff.1 hj).1
        simp at this
        omega)]
      simp only [strsOf, List.getElem?_map] at hj ⊢
      cases hp : ps[j]? with
      | none => rw [hp] at hj; cases hj
      | some l => rw [hp] at hj; simp at hj; simp [hj]) hg (by simp; omega) (by simp; omega) (by rw [hx]; exact Nat.le_trans hs (by omega))
    rw [hx, List.length_map, hn] at h
    exact h

def textK (x : Ad) : List UInt8 := if x.k = 4 then joinC 46 (x.bytes.map numB) else joinC 58 ((wordsL x.bytes).map hexW)
set_option maxRecDepth 100000 in
theorem textK_eq (x : Ad) : textK x = x.text := by
  unfold textK Ad.text Ad.bytes
  cases h : x.ok
  · simp [joinC_nil, wordsL]
  · rcases x.ok_kind h with hk | hk
    · simp [hk, text4]
    · simp [hk, text6]
set_option maxRecDepth 100000 in
theorem bytes_le (x : Ad) : x.bytes.length ≤ 16 := by
  unfold Ad.bytes
  split
  · split
    · simp [put32]
    · rw [x.whole_length]; omega
  · simp

set_option maxRecDepth 100000 in
set_option maxHeartbeats 1000000 in
theorem implText_four (x : Ad) (hk : x.k = 4) (w : World) (ht : Tabs w) : Calls Tryd.prog 11 #[.agg #[.int .i64 x.k, .int .i64 x.a, .int .i64 x.b, .int .i64 x.c, .int .i64 x.d]] w fun e w' => e = .returned (.string (strOf (joinC 46 (x.bytes.map numB)))) ∧ Below w.heap.size w w' := by
  obtain ⟨bs, hbs⟩ : ∃ bs, x.bytes = bs := ⟨_, rfl⟩
  obtain ⟨L, hL⟩ : ∃ L, bs.length = L := ⟨_, rfl⟩
  have hL16 : L ≤ 16 := by rw [← hL, ← hbs]; exact bytes_le x
  have so : ∀ v : World, Calls Tryd.prog 24 #[.agg #[.int .i64 x.k, .int .i64 x.a, .int .i64 x.b, .int .i64 x.c, .int .i64 x.d]] v fun e v' => ∃ A c, e = .returned (.slice A L c) ∧ v'.ownsRow v.heap.size 5 1 (.slice A L c) L (cellsOf bs) ∧ Below v.heap.size v v' := by
    intro v
    have hh := implAddrBytes x v
    unfold BytesOut at hh
    rwa [hbs, hL] at hh
  rw [hbs]
  have SO := Lib.hid so
  have HL := Lib.hid hL
  have HK := Lib.hid hk
  have HT := Lib.hid ht
  clear so hbs hL hk ht
  go_enter Tryd.func11, Tryd.ntmps11
  go_wp2_with fail
  refine (SO.out _).mono ?_
  rintro e w1 ⟨A, k1, rfl, o1, b1⟩
  obtain ⟨c0, c1, c2, c3, c4⟩ := ad_box b1
  have O1 := Lib.hid o1
  have B1 := Lib.hid (bthen (Joins.below_alloc1 w _) b1)
  have T1 := Lib.hid (HT.out.on B1.out)
  have hk := HK.out
  clear o1 b1
  go_wp2_with fail
  go_loopw [4, 16] (fun v q wr => ∃ i : Nat, i ≤ L ∧ q = .int .i64 i ∧ Hid (wr.ownsRow w1.heap.size 9 1 v i (strsOf ((bs.take i).map numB))) ∧ Hid (Below w1.heap.size w1 wr)) (fun _ q _ => L - (intOf q).toNat)
  case atStart => exact ⟨0, Nat.zero_le _, rfl, Lib.hid ⟨rfl, .inl ⟨rfl, rfl⟩⟩, Lib.hid (Below.refl _ _)⟩
  case round =>
    obtain ⟨i, hi, rfl, ho, hb⟩ := hrel
    by_cases hlt : i < L
    · have hltI : (i : Int) < (L : Int) := by omega
      have hil : i < bs.length := by rw [HL.out]; exact hlt
      obtain ⟨g, rfl⟩ : ∃ g, A = some ⟨g, 0, none⟩ := by
        rcases O1.out.2 with ⟨_, h2⟩ | ⟨g, cap, cur, hv, _⟩
        · omega
        · injection hv with hA
          exact ⟨g, hA⟩
      have hb256 := UInt8.toNat_lt bs[i]
      have hc1 : w1.cell? ⟨g, i, none⟩ = some (.int .u8 (bs[i].toNat : Int)) := by
        rw [O1.out.cellAt i (by omega), cellsOf_get bs i _ (List.getElem?_eq_getElem hil)]
      have hc : wr.cell? ⟨g, i, none⟩ = some (.int .u8 (bs[i].toNat : Int)) := cell_on hb.out hc1
      obtain ⟨b, hb0⟩ : ∃ b : UInt8, b = bs[i] := ⟨_, rfl⟩
      rw [← hb0] at hc hb256
      obtain ⟨N, hN⟩ : ∃ N, N = numB b := ⟨_, rfl⟩
      have nt : ∀ v, Tabs v → Calls Tryd.prog 31 #[.int .i64 (b.toNat : Int)] v fun e v' => e = .returned (.string (strOf N)) ∧ Below v.heap.size v v' := by
        intro v hv
        have := implNumText (b.toNat : Int) v (by omega) (by omega) hv.ten
        rwa [show numText (b.toNat : Int) = N from hN.symm] at this
      have NT := Lib.hid nt
      have E := Lib.hid (show (bs.take (i + 1)).map numB = (bs.take i).map numB ++ [N] by rw [take_snoc bs i hil, List.map_append, List.map_singleton, hN, hb0])
      clear hc1 hb0 hN nt c0 c1 c2 c3 c4 hk
      go_wp2_with fail
      refine (NT.out _ (T1.out.on hb.out)).mono ?_
      rintro e w2 ⟨rfl, b2⟩
      have hlo := fun u (hu : u4.ownBlock = some u) => (ho.out.lt u hu).1
      have HLO := Lib.hid hlo
      have o2 := Lib.hid (own_below (own_below ho.out b2) (Joins.below_alloc1 w2 (.cells #[.string (strOf N)] 9)))
      have B2 := Lib.hid (hb.out.trans (b2.mono hb.out.size))
      have hz := hb.out.size
      have hz2 := b2.size
      clear hlo
      go_wp2_with (at_builtin; refine wpList_append_s rfl (.tmp 20) (.tmp 24) rfl w1.heap.size u4 i ((bs.take i).map numB) rfl o2.out _ (some ⟨w2.heap.size, 0, none⟩) 1 1 [N] rfl rfl (RV.new w2 9 (strsOf [N])) (by omega) (by simp; omega) ?_; intro v3 w3 o3 g3)
      have R1 := Lib.hid (show w3.ownsRow w1.heap.size 9 1 v3 (i + 1) (strsOf ((bs.take (i + 1)).map numB)) by rw [E.out]; exact o3)
      have R2 := Lib.hid (show Below w1.heap.size w1 w3 from (B2.out.alloc (by omega) (.cells #[.string (strOf N)] 9)).grown g3 (by simp; omega) HLO.out)
      go_wp2
      go_roundw
      case rel => exact ⟨i + 1, by omega, by go_num, R1, R2⟩
      case measure => simp [intOf]; omega
    · obtain rfl : i = L := by omega
      have hltI : ¬ (i : Int) < (i : Int) := by omega
      have e4 : (bs.take i).map numB = bs.map numB := by rw [List.take_of_length_le (by rw [HL.out]; exact Nat.le_refl _)]
      have o5 := ho.out
      rw [e4] at o5
      have jt := Lib.hid (joinText 46 (bs.map numB) u4 i w1.heap.size wr o5 (by rw [List.length_map, HL.out]) (by
        have h1 := joinC_len 46 3 (bs.map numB) (fun x hx => by
          obtain ⟨b, _, rfl⟩ := List.mem_map.1 hx
          exact numB_len b)
        rw [List.length_map, HL.out] at h1
        omega) (by omega))
      clear o5 e4
      go_wp2_with fail
      refine jt.out.mono ?_
      rintro e w6 ⟨rfl, b6⟩
      go_wp2
      go_ret
      exact ⟨rfl, bthen (B1.out.trans (hb.out.mono B1.out.size)) b6⟩
end Go.Proofs.YtckakpcjbndijabDoor
namespace Go.Proofs.YtckakpcjbndijabDoor
open Go.RowKit

set_option maxRecDepth 100000 in
theorem index_one (c : UInt8) : ∀ l : List UInt8, (Lib.index l [c] = -1 ∧ c ∉ l) ∨ ∃ a r, l = a ++ c :: r ∧ c ∉ a ∧ Lib.index l [c] = (a.length : Int) := by
  intro l
  induction l with
  | nil => exact .inl ⟨by simp [Lib.index], by simp⟩
  | cons b l ih =>
    by_cases h : b = c
    · subst h
      exact .inr ⟨[], l, rfl, by simp, by simp [Lib.index]⟩
    · have hp : ([c] : List UInt8).isPrefixOf (b :: l) = false := by simp [List.isPrefixOf, Ne.symm h]
      rcases ih with ⟨h1, h2⟩ | ⟨a, r, rfl, h2, h3⟩
      · refine .inl ⟨?_, by simp [h2, Ne.symm h]⟩
        rw [Lib.index, hp, h1]
        rfl
      · refine .inr ⟨b :: a, r, rfl, by simp [h2, Ne.symm h], ?_⟩
        rw [Lib.index, hp, h3]
        have : ¬ (((a.length : Int) == -1) = true) := by simp
        rw [if_neg (by simp), if_neg this]
        simp
set_option maxRecDepth 100000 in
theorem indexByte_mem (c : UInt8) : ∀ l : List UInt8, decide (0 ≤ Lib.indexByte l c) = decide (c ∈ l) := by
  intro l
  induction l with
  | nil => simp [Lib.indexByte]
  | cons b l ih =>
    have hge := Lib.indexByte_ge l c
    have ih2 : (0 ≤ Lib.indexByte l c) ↔ c ∈ l := by simpa using ih
    rw [Lib.indexByte]
    by_cases h : b = c
    · subst h
      simp
    · rw [if_neg (by simpa using h)]
      by_cases h2 : Lib.indexByte l c = -1
      · have : ¬ c ∈ l := fun hm => by have := ih2.2 hm; omega
        simp [h2, this, Ne.symm h]
      · have h3 : c ∈ l := ih2.1 (by omega)
        rw [if_neg (by simpa using h2)]
        simp [h3]
        omega
set_option maxRecDepth 100000 in
theorem splitK_C (c : UInt8) : ∀ (n : Nat) (l : List UInt8), l.length ≤ n → Lib.splitK [c] 0 (Lib.count l [c]) l = splitC c l ∧ (splitC c l).length = Lib.count l [c] + 1 := by
  intro n
  induction n with
  | zero =>
    intro l h
    obtain rfl : l = [] := List.eq_nil_of_length_eq_zero (by omega)
    have e : Lib.count [] [c] = 0 := Lib.count_miss (by simp [Lib.index])
    rw [e]
    exact ⟨rfl, rfl⟩
  | succ n ih =>
    intro l h
    rcases index_one c l with ⟨h1, h2⟩ | ⟨a, r, rfl, h2, h3⟩
    · rw [Lib.count_miss h1, split_one c l h2]
      exact ⟨rfl, rfl⟩
    · have e := Lib.count_hit (by simp) h3
      have ed : (a ++ c :: r).drop (a.length + [c].length) = r := by simp
      have et : (a ++ c :: r).take (a.length + 0) = a := by simp
      rw [ed] at e
      obtain ⟨i1, i2⟩ := ih r (by simp at h; omega)
      rw [split_cut c r a h2, e, Nat.add_comm 1, Lib.splitK, h3]
      have hn : ¬ (((a.length : Int) == -1) = true) := by simp
      rw [if_neg hn, Int.toNat_natCast, ed, et, i1]
      exact ⟨rfl, by rw [List.length_cons, i2]⟩
set_option maxRecDepth 100000 in
theorem split_size (c : UInt8) (l : List UInt8) : ∀ p ∈ splitC c l, p.length ≤ l.length := by
  induction l with
  | nil => intro p hp; simp [splitC] at hp; simp [hp]
  | cons b l ih =>
    intro p hp
    by_cases h : b = c
    · subst h
      rw [splitC_hit] at hp
      rcases List.mem_cons.1 hp with h1 | h1
      · simp [h1]
      · have := ih p h1
        simp; omega
    · obtain ⟨q, qs, e⟩ := splitC_cons c l
      rw [splitC_other c b l q qs h e] at hp
      rw [e] at ih
      rcases List.mem_cons.1 hp with h1 | h1
      · have := ih q (by simp)
        rw [h1]; simp; omega
      · have := ih p (by simp [h1])
        simp; omega

/-- What the parts of a text lie in. -/
def SplitOut (ps : List (List UInt8)) (w : World) (e : Ending) (w' : World) : Prop :=
  ∃ g, e = .returned (.slice (some ⟨g, 0, none⟩) ps.length ps.length) ∧ (∀ (j : Nat) (p : List UInt8), ps[j]? = some p → w'.cell? ⟨g, j, none⟩ = some (.string (strOf p))) ∧ Below w.heap.size w w'
set_option maxRecDepth 100000 in
theorem splitCall (c : UInt8) (s : ByteArray) (m : Int) (w : World) (hs : s.size ≤ 1048576) (hm : w.cell? ⟨1, 0, none⟩ = some (.int .i64 m)) : Calls Tryd.prog 67 #[.string s, .string ⟨#[c]⟩] w (SplitOut (splitC c s.data.toList) w) := by
  refine (Tryd.strings_Split s ⟨#[c]⟩ m w (by omega) hm (by simp [ByteArray.size])).mono ?_
  rintro e w' ⟨rfl, rfl⟩
  obtain ⟨h1, h2⟩ := splitK_C c _ s.data.toList (Nat.le_refl _)
  have e1 : (Lib.splitB ⟨#[c]⟩ 0 (Lib.countB s ⟨#[c]⟩) s).map (·.data.toList) = splitC c s.data.toList := (Lib.splitB_data _ _ _ _).trans h1
  refine ⟨w.heap.size, by rw [h2], fun j p hp => ?_, Joins.below_alloc1 w _⟩
  rw [cell_of_row _ w.heap.size j _ 9 (0, 0) (heap_alloc_new w _)]
  rw [← e1, List.getElem?_map, Option.map_eq_some_iff] at hp
  obtain ⟨b, hb, rfl⟩ := hp
  rw [List.getElem?_toArray, List.getElem?_map, hb]
  rfl
set_option maxRecDepth 100000 in
theorem containsCall (c : UInt8) (s : ByteArray) (w : World) : Calls Tryd.prog 39 #[.string s, .string ⟨#[c]⟩] w fun e w' => e = .returned (.bool (decide (c ∈ s.data.toList))) ∧ w' = w := by
  rw [← indexByte_mem]
  exact Tryd.strings_Contains_one s c w

/-- What a reading of an address answers. -/
def ReadOut (r : Option Ad) (w : World) (e : Ending) (w' : World) : Prop := e = .returned (.tuple #[.agg #[.int .i64 (r.getD Ad.zero).k, .int .i64 (r.getD Ad.zero).a, .int .i64 (r.getD Ad.zero).b, .int .i64 (r.getD Ad.zero).c, .int .i64 (r.getD Ad.zero).d], .bool r.isSome]) ∧ Below w.heap.size w w'
set_option maxRecDepth 100000 in
theorem readOut_no {r : Option Ad} {w w' : World} (h : r = none) (hb : Below w.heap.size w w') : ReadOut r w (.returned (.tuple #[.agg #[.int .i64 0, .int .i64 0, .int .i64 0, .int .i64 0, .int .i64 0], .bool false])) w' := by
  subst h
  exact ⟨rfl, hb⟩
set_option maxRecDepth 100000 in
theorem readOut_yes {r : Option Ad} {y : Ad} {w w' : World} (h : r = some y) (hb : Below w.heap.size w w') : ReadOut r w (.returned (.tuple #[.agg #[.int .i64 y.k, .int .i64 y.a, .int .i64 y.b, .int .i64 y.c, .int .i64 y.d], .bool true])) w' := by
  subst h
  exact ⟨rfl, hb⟩
end Go.Proofs.YtckakpcjbndijabDoor
namespace Go.Proofs.YtckakpcjbndijabDoor
open Go.RowKit

set_option maxRecDepth 100000 in
set_option maxHeartbeats 1000000 in
theorem implText_six (x : Ad) (hk : ¬ x.k = 4) (w : World) (ht : Tabs w) : Calls Tryd.prog 11 #[.agg #[.int .i64 x.k, .int .i64 x.a, .int .i64 x.b, .int .i64 x.c, .int .i64 x.d]] w fun e w' => e = .returned (.string (strOf (joinC 58 ((wordsL x.bytes).map hexW)))) ∧ Below w.heap.size w w' := by
  obtain ⟨bs, hbs⟩ : ∃ bs, x.bytes = bs := ⟨_, rfl⟩
  obtain ⟨L, hL⟩ : ∃ L, bs.length = L := ⟨_, rfl⟩
  have hL16 : L ≤ 16 := by rw [← hL, ← hbs]; exact bytes_le x
  have so : ∀ v : World, Calls Tryd.prog 24 #[.agg #[.int .i64 x.k, .int .i64 x.a, .int .i64 x.b, .int .i64 x.c, .int .i64 x.d]] v fun e v' => ∃ A c, e = .returned (.slice A L c) ∧ v'.ownsRow v.heap.size 5 1 (.slice A L c) L (cellsOf bs) ∧ Below v.heap.size v v' := by
    intro v
    have hh := implAddrBytes x v
    unfold BytesOut at hh
    rwa [hbs, hL] at hh
  rw [hbs]
  obtain ⟨ws, hws⟩ : ∃ ws, ws = wordsL bs := ⟨_, rfl⟩
  obtain ⟨M, hM⟩ : ∃ M, M = (L + 1) / 2 := ⟨_, rfl⟩
  have hM8 : M ≤ 8 := by omega
  have hwl : ws.length = M := by rw [hws, wordsL_length, hL, hM]
  have wo : ∀ (v : World) (A : Option Addr) (c : Nat), RB v v.heap.size A bs → Calls Tryd.prog 33 #[.slice A L c] v fun e v' => e = .returned (.slice (some ⟨v.heap.size, 0, none⟩) M M) ∧ v'.ownsRow v.heap.size 3 1 (.slice (some ⟨v.heap.size, 0, none⟩) M M) M (intsOf ws) ∧ Below v.heap.size v v' := by
    intro v A c hr
    have hh := wordsOfC A c bs v hr (by omega)
    rwa [hL, ← hM, ← hws] at hh
  rw [← hws]
  have hwv : ∀ (j : Nat) (n : Int), ws[j]? = some n → 0 ≤ n ∧ n ≤ 65535 := fun j n h => wordsL_le bs j n (by rw [← hws]; exact h)
  have SO := Lib.hid so
  have WO := Lib.hid wo
  have HWL := Lib.hid hwl
  have HWV := Lib.hid hwv
  have HK := Lib.hid hk
  have HT := Lib.hid ht
  clear so wo hbs hL hk ht hws hM hwl hwv
  go_enter Tryd.func11, Tryd.ntmps11
  go_wp2_with fail
  refine (SO.out _).mono ?_
  rintro e w1 ⟨A, k1, rfl, o1, b1⟩
  obtain ⟨c0, c1, c2, c3, c4⟩ := ad_box b1
  have B1 := bthen (Joins.below_alloc1 w _) b1
  have hk := HK.out
  go_wp2_with fail
  refine (WO.out _ _ _ (RB.of_own o1)).mono ?_
  rintro e w2 ⟨rfl, o2, b2⟩
  have O2 := Lib.hid o2
  have B2 := Lib.hid (bthen B1 b2)
  have T2 := Lib.hid (HT.out.on B2.out)
  have hz12 := Lib.hid b2.size
  clear o1 o2 b1 b2 B1 c0 c1 c2 c3 c4
  go_wp2_with fail
  go_loopw [4, 32] (fun v q wr => ∃ i : Nat, i ≤ M ∧ q = .int .i64 i ∧ Hid (wr.ownsRow w2.heap.size 9 1 v i (strsOf ((ws.take i).map hexW))) ∧ Hid (Below w2.heap.size w2 wr)) (fun _ q _ => M - (intOf q).toNat)
  case atStart => exact ⟨0, Nat.zero_le _, rfl, Lib.hid ⟨rfl, .inl ⟨rfl, rfl⟩⟩, Lib.hid (Below.refl _ _)⟩
  case round =>
    obtain ⟨i, hi, rfl, ho, hb⟩ := hrel
    by_cases hlt : i < M
    · have hltI : (i : Int) < (M : Int) := by omega
      have hil : i < ws.length := by rw [HWL.out]; exact hlt
      have hc1 : w2.cell? ⟨w1.heap.size, i, none⟩ = some (.int .i64 ws[i]) := by
        rw [O2.out.cellAt i (by omega), intsOf_get ws i _ (List.getElem?_eq_getElem hil)]
      have hc : wr.cell? ⟨w1.heap.size, i, none⟩ = some (.int .i64 ws[i]) := cell_on hb.out hc1
      have hv := HWV.out i ws[i] (List.getElem?_eq_getElem hil)
      obtain ⟨n, hn⟩ : ∃ n : Nat, ws[i] = (n : Int) := ⟨ws[i].toNat, by omega⟩
      rw [hn] at hc hv
      have hn16 : n < 65536 := by omega
      obtain ⟨N, hN⟩ : ∃ N, N = hexN n := ⟨_, rfl⟩
      have nt : ∀ v, Tabs v → Calls Tryd.prog 34 #[.int .i64 (n : Int), .int .i64 16] v fun e v' => e = .returned (.string (strOf N)) ∧ Below v.heap.size v v' := by
        intro v hv
        rw [hN]
        exact formatInt16 n hn16 v hv.de
      have NT := Lib.hid nt
      have E := Lib.hid (show (ws.take (i + 1)).map hexW = (ws.take i).map hexW ++ [N] by rw [take_snoc ws i hil, List.map_append, List.map_singleton, hN, hn]; rfl)
      clear hc1 hn hN nt hk
      go_wp2_with fail
      refine (NT.out _ (T2.out.on hb.out)).mono ?_
      rintro e w5 ⟨rfl, b5⟩
      have hlo := fun u (hu : u4.ownBlock = some u) => (ho.out.lt u hu).1
      have HLO := Lib.hid hlo
      have o5 := Lib.hid (own_below (own_below ho.out b5) (Joins.below_alloc1 w5 (.cells #[.string (strOf N)] 9)))
      have B5 := Lib.hid (hb.out.trans (b5.mono hb.out.size))
      have hz := hb.out.size
      have hz2 := b5.size
      clear hlo
      go_wp2_with (at_builtin; refine wpList_append_s rfl (.tmp 36) (.tmp 39) rfl w2.heap.size u4 i ((ws.take i).map hexW) rfl o5.out _ (some ⟨w5.heap.size, 0, none⟩) 1 1 [N] rfl rfl (RV.new w5 9 (strsOf [N])) (by omega) (by simp; omega) ?_; intro v3 w3 o3 g3)
      have R1 := Lib.hid (show w3.ownsRow w2.heap.size 9 1 v3 (i + 1) (strsOf ((ws.take (i + 1)).map hexW)) by rw [E.out]; exact o3)
      have R2 := Lib.hid (show Below w2.heap.size w2 w3 from (B5.out.alloc (by omega) (.cells #[.string (strOf N)] 9)).grown g3 (by simp; omega) HLO.out)
      go_wp2
      go_roundw
      case rel => exact ⟨i + 1, by omega, by go_num, R1, R2⟩
      case measure => simp [intOf]; omega
    · obtain rfl : i = M := by omega
      have hltI : ¬ (i : Int) < (i : Int) := by omega
      have e4 : (ws.take i).map hexW = ws.map hexW := by rw [List.take_of_length_le (by rw [HWL.out]; exact Nat.le_refl _)]
      have o5 := ho.out
      rw [e4] at o5
      have jt := Lib.hid (joinText 58 (ws.map hexW) u4 i w2.heap.size wr o5 (by rw [List.length_map, HWL.out]) (by
        have h1 := joinC_len 58 4 (ws.map hexW) (fun x hx => by
          obtain ⟨n, hn, rfl⟩ := List.mem_map.1 hx
          obtain ⟨j, hj⟩ := List.getElem?_of_mem hn
          exact hexW_len n (HWV.out j n hj).2)
        rw [List.length_map, HWL.out] at h1
        omega) (by omega))
      clear o5 e4
      go_wp2_with fail
      refine jt.out.mono ?_
      rintro e w6 ⟨rfl, b6⟩
      go_wp2
      go_ret
      exact ⟨rfl, bthen (B2.out.trans (hb.out.mono B2.out.size)) b6⟩

set_option maxRecDepth 100000 in
theorem implAddrText (x : Ad) (w : World) (ht : Tabs w) : Calls Tryd.prog 11 #[.agg #[.int .i64 x.k, .int .i64 x.a, .int .i64 x.b, .int .i64 x.c, .int .i64 x.d]] w (TextOut x w) := by
  unfold TextOut
  rw [← textK_eq]
  by_cases hk : x.k = 4
  · rw [show textK x = joinC 46 (x.bytes.map numB) by simp [textK, hk]]
    exact implText_four x hk w ht
  · rw [show textK x = joinC 58 ((wordsL x.bytes).map hexW) by simp [textK, hk]]
    exact implText_six x hk w ht
end Go.Proofs.YtckakpcjbndijabDoor
namespace Go.Proofs.YtckakpcjbndijabDoor
open Go.RowKit

set_option maxRecDepth 100000 in
theorem mapM_some' {α β : Type} (l : List α) (f : α → Option β) (g : α → β) (h : ∀ a ∈ l, f a = some (g a)) : l.mapM f = some (l.map g) := by
  induction l with
  | nil => rfl
  | cons a l ih =>
    rw [List.mapM_cons, h a (by simp), ih (fun b hb => h b (by simp [hb]))]
    rfl
set_option maxRecDepth 100000 in
theorem flat_one {α β : Type} (l : List α) (g : α → β) : (l.map fun i => [g i]).flatten = l.map g := by
  induction l with
  | nil => rfl
  | cons a l ih => simp [ih]
def lits16 (a : List UInt8) : List Lit := (List.range 16).map fun i => Lit.int .u8 ((a.getD i 0).toNat : Int)
set_option maxRecDepth 100000 in
theorem lits16_eq (a b : List UInt8) (ha : a.length = 16) (hb : b.length = 16) : lits16 a = lits16 b ↔ a = b := by
  constructor
  · intro h
    unfold lits16 at h
    rw [List.map_inj_left] at h
    apply List.ext_getElem (by omega)
    intro i h1 h2
    have := h i (by simp; omega)
    simp only [Lit.int.injEq, true_and, Int.natCast_inj, UInt8.toNat_inj] at this
    simpa [List.getD, h1, h2] using this
  · rintro rfl
    rfl
set_option maxRecDepth 100000 in
theorem byte_lit (b : UInt8) : Tryd.prog.keyLits 2 5 [.int .u8 (b.toNat : Int)] = some [.int .u8 (b.toNat : Int)] := by
  have hb := UInt8.toNat_lt b
  unfold Program.keyLits
  rw [Tryd.underlying5]
  simp [Lit.wf, IntKind.min, IntKind.max, IntKind.signed, IntKind.bits]
  omega
set_option maxRecDepth 100000 in
theorem arr_lits (a : List UInt8) (ha : a.length = 16) : Tryd.prog.keyLits 3 68 (Value.agg (cellsOf a).toArray).cells.toList = some (lits16 a) := by
  have e1 : Tryd.prog.cellsOf 5 = 1 := by kernel_rfl
  have e2 : Tryd.prog.cellsOf 68 = 16 := by kernel_rfl
  unfold Program.keyLits
  rw [Tryd.underlying68]
  simp only [Value.cells, e1, e2]
  rw [if_pos (by simp [cellsOf, ha]), mapM_some' _ _ (fun i => [Lit.int .u8 ((a.getD i 0).toNat : Int)])]
  · rw [Option.map_some, flat_one]
    rfl
  · intro i hi
    have hi : i < 16 := by simpa using hi
    have hc : ((cellsOf a).drop (i * 1)).take 1 = [.int .u8 ((a.getD i 0).toNat : Int)] := by
      rw [Nat.mul_one, List.drop_eq_getElem_cons (by rw [cellsOf_length]; omega)]
      simp [cellsOf, List.getD, ha, hi]
    rw [hc]
    exact byte_lit _
set_option maxRecDepth 100000 in
theorem eq_arr (a b : List UInt8) (ha : a.length = 16) (hb : b.length = 16) (w : World) :
    (Op.equalIn 10000 68 (.agg (cellsOf a).toArray) (.agg (cellsOf b).toArray)).run Tryd.prog w = .ok (decide (a = b)) w := by
  obtain ⟨r, hr, hiff⟩ := run_equalIn_deep (P := Tryd.prog) 9998 2 68 (by kernel_rfl) w 3 3 (.agg (cellsOf a).toArray) (.agg (cellsOf b).toArray) (lits16 a) (lits16 b)
    (by simp only [Value.formed, Tryd.underlying68]; rw [cells_size, ha]; kernel_rfl) (by simp only [Value.formed, Tryd.underlying68]; rw [cells_size, hb]; kernel_rfl) (arr_lits a ha) (arr_lits b hb)
  rw [lits16_eq a b ha hb] at hiff
  have e : r = decide (a = b) := by
    by_cases h : a = b
    · rw [hiff.2 h]; simp [h]
    · have : r = false := by
        cases hrr : r
        · rfl
        · exact absurd (hiff.1 hrr) h
      rw [this]; simp [h]
  rw [← e]
  exact hr
end Go.Proofs.YtckakpcjbndijabDoor
namespace Go.Proofs.YtckakpcjbndijabDoor
open Go.RowKit

set_option maxRecDepth 100000 in
theorem splice_four (bs : List UInt8) (h : bs.length = 4) : splice (cellsOf (List.replicate 16 0)) 12 (cellsOf bs) = cellsOf (List.replicate 12 0 ++ bs) := by
  obtain ⟨p, q, r, s, rfl⟩ := len4 h
  simp [splice, cellsOf]
set_option maxRecDepth 100000 in
theorem splice_all (bs : List UInt8) (h : bs.length = 16) : splice (cellsOf (List.replicate 16 0)) 0 (cellsOf bs) = cellsOf bs := by
  simp [splice, cellsOf, h]
set_option maxRecDepth 100000 in
theorem unpacked4 (bs : List UInt8) (h : bs.length = 4) (w : World) : Calls Tryd.prog 53 #[.int .i64 4, .agg (cellsOf (List.replicate 12 0 ++ bs)).toArray] w fun e w' => e = .returned (.agg #[.int .i64 4, .int .i64 0, .int .i64 0, .int .i64 0, .int .i64 (be bs)]) ∧ Below w.heap.size w w' := by
  have hu := unpackedC 4 (List.replicate 12 0 ++ bs) (by simp [h]) w
  rwa [unw_four bs h] at hu

set_option maxRecDepth 100000 in
theorem slice_arr_all (g : Nat) (w : World) : (Instr.sliceAt 68 (.pointer (some ⟨g, 0, none⟩)) none none none).run Tryd.prog w = .ok (.slice (some ⟨g, 0, none⟩) 16 16) w := by
  obtain ⟨i0, hi0, hz0, hz1, hz2⟩ := info_parts info_u8
  have e : Tryd.prog.elem 68 = 5 := by kernel_rfl
  have el : Tryd.prog.arrayLen 68 = 16 := by kernel_rfl
  rw [run_sliceAt_array_all w _ _ (by kernel_rfl)]
  simp [e, el, sizeOf, typeInfo, hi0, slicedAt, hz1, addr_add]

set_option maxRecDepth 100000 in
set_option maxHeartbeats 400000 in
theorem implAddrOf_four (A : Option Addr) (c : Nat) (bs : List UInt8) (w : World) (hr : RB w w.heap.size A bs) (hl : bs.length = 4) : Calls Tryd.prog 25 #[.slice A 4 c] w (OfOut bs w) := by
  obtain ⟨g, o, rfl, hg, hcell⟩ := hr (by omega)
  have HO := Lib.hid (And.intro (ofA_four hl) (show okA bs = true by simp [okA, hl]))
  have HL := Lib.hid hl
  obtain ⟨Z, hZ⟩ : ∃ Z : List Value, Z = cellsOf (List.replicate 16 0) := ⟨_, rfl⟩
  have HZ := Lib.hid hZ
  obtain ⟨Y, hY⟩ : ∃ Y : List UInt8, Y = List.replicate 12 0 ++ bs := ⟨_, rfl⟩
  have HY := Lib.hid hY
  have hY16 : (cellsOf Y).toArray.size = 16 := by rw [cells_size, hY]; simp [hl]
  have HYS := Lib.hid hY16
  have hup := unpacked4 bs hl
  rw [← hY] at hup
  have HUP := Lib.hid hup
  have hsl := slice_arr (w.heap.size + 1) 12 (by omega)
  have hsrc := Lib.hid (show ∀ j v, (cellsOf bs)[j]? = some v → w.cell? ⟨g, o + j, none⟩ = some v from fun j v hv => by
    simp only [cellsOf, List.getElem?_map, Option.map_eq_some_iff] at hv
    obtain ⟨u, hu, rfl⟩ := hv
    exact hcell j u hu)
  clear hZ hY hY16 hup hl hcell hr
  go_enter Tryd.func25, Tryd.ntmps25
  go_wp2_with (with_reducible refine wpList_copy_splice rfl (.tmp 9) (.tmp 10) 42 42 rfl 5 Tryd.underlying42 info_u8s _ _ _ _ _ _ rfl rfl (w.heap.size + 1) 12 Z 68 ?_ (cellsOf bs) ?_ ?_ ?_ (cellsOf_one _) (w.heap.size + 1) _ (Below.refl _ _) (Nat.le_refl _) ?_)
  · rw [HZ.out]
    exact heap_alloc2_new w _ _
  · rw [cellsOf_length, HL.out]
    rfl
  · exact fun _ => hsrc.out
  · rw [HZ.out, cellsOf_length, cellsOf_length, HL.out]
    decide
  · intro w4 hg4 hb4
    have r4 : Hid (w4.heap[w.heap.size + 1]? = some (.cells (cellsOf Y).toArray 68 (0, 0))) := Lib.hid (by rw [HY.out, ← splice_four bs HL.out, ← HZ.out]; exact hg4.out)
    have q4 := Lib.hid (row_on hb4 (g := w.heap.size) (by omega) (heap_alloc2_old w _ _))
    have B4 : Below w.heap.size w w4 := (Joins.below_alloc2 w _ _).trans (hb4.mono (by omega))
    clear hg4 hb4
    go_wp2_with (with_reducible refine wpList_load_row rfl 68 (.tmp 4) rfl (w.heap.size + 1) rfl 68 (cellsOf Y).toArray (0, 0) _ r4.out Tryd.underlying68 rfl (by rw [HYS.out]; exact info_arr) ?_)
    refine (HUP.out _).mono ?_
    rintro e w5 ⟨rfl, b5⟩
    have q5 := Lib.hid (row_on b5 (row_lt q4.out) q4.out)
    obtain ⟨⟨c0, c1, c2, c3, c4⟩, f0, f1, f2, f3, f4⟩ := row5 q5.out
    have B5 := bthen B4 b5
    go_wp2
    (try simp only [Exit.inBlock, Exit.then])
    refine bodyPost_ret (v := .tuple #[.agg #[.int .i64 4, .int .i64 0, .int .i64 0, .int .i64 0, .int .i64 (be bs)], .bool true]) ?_ rfl (ofOut_of HO.out.1 HO.out.2 (by go_grown))
    refine res_cell_tmp Tryd.results25 _ _ _ w.heap.size _ ?_ (run_loadVar_row _ _ 25 25 _ (0, 0) _ (set5 _ _ _ _ _ q5.out) Tryd.underlying25 rfl info_addr)
    rfl

set_option maxRecDepth 100000 in
set_option maxHeartbeats 400000 in
theorem implAddrOf_six (A : Option Addr) (c : Nat) (bs : List UInt8) (w : World) (hr : RB w w.heap.size A bs) (hl : bs.length = 16) : Calls Tryd.prog 25 #[.slice A 16 c] w (OfOut bs w) := by
  obtain ⟨g, o, rfl, hg, hcell⟩ := hr (by omega)
  have HO := Lib.hid (And.intro (ofA_six hl) (show okA bs = true by simp [okA, hl]))
  have HL := Lib.hid hl
  obtain ⟨Z, hZ⟩ : ∃ Z : List Value, Z = cellsOf (List.replicate 16 0) := ⟨_, rfl⟩
  have HZ := Lib.hid hZ
  have HYS := Lib.hid ((cells_size bs).trans hl)
  have hsl := slice_arr_all (w.heap.size + 1)
  have hsrc := Lib.hid (show ∀ j v, (cellsOf bs)[j]? = some v → w.cell? ⟨g, o + j, none⟩ = some v from fun j v hv => by
    simp only [cellsOf, List.getElem?_map, Option.map_eq_some_iff] at hv
    obtain ⟨u, hu, rfl⟩ := hv
    exact hcell j u hu)
  clear hZ hl hcell hr
  go_enter Tryd.func25, Tryd.ntmps25
  go_wp2_with (with_reducible refine wpList_copy_splice rfl (.tmp 16) (.tmp 17) 42 42 rfl 5 Tryd.underlying42 info_u8s _ _ _ _ _ _ rfl rfl (w.heap.size + 1) 0 Z 68 ?_ (cellsOf bs) ?_ ?_ ?_ (cellsOf_one _) (w.heap.size + 1) _ (Below.refl _ _) (Nat.le_refl _) ?_)
  · rw [HZ.out]
    exact heap_alloc2_new w _ _
  · rw [cellsOf_length, HL.out]
    rfl
  · exact fun _ => hsrc.out
  · rw [HZ.out, cellsOf_length, cellsOf_length, HL.out]
    decide
  · intro w4 hg4 hb4
    have r4 : Hid (w4.heap[w.heap.size + 1]? = some (.cells (cellsOf bs).toArray 68 (0, 0))) := Lib.hid (by rw [← splice_all bs HL.out, ← HZ.out]; exact hg4.out)
    have q4 := Lib.hid (row_on hb4 (g := w.heap.size) (by omega) (heap_alloc2_old w _ _))
    have B4 : Below w.heap.size w w4 := (Joins.below_alloc2 w _ _).trans (hb4.mono (by omega))
    clear hg4 hb4
    go_wp2_with (with_reducible refine wpList_load_row rfl 68 (.tmp 4) rfl (w.heap.size + 1) rfl 68 (cellsOf bs).toArray (0, 0) _ r4.out Tryd.underlying68 rfl (by rw [HYS.out]; exact info_arr) ?_)
    refine (unpackedC 6 bs HL.out _).mono ?_
    rintro e w5 ⟨rfl, b5⟩
    have q5 := Lib.hid (row_on b5 (row_lt q4.out) q4.out)
    obtain ⟨⟨c0, c1, c2, c3, c4⟩, f0, f1, f2, f3, f4⟩ := row5 q5.out
    have B5 := bthen B4 b5
    go_wp2
    (try simp only [Exit.inBlock, Exit.then])
    refine bodyPost_ret (v := .tuple #[.agg #[.int .i64 (unw 6 bs).k, .int .i64 (unw 6 bs).a, .int .i64 (unw 6 bs).b, .int .i64 (unw 6 bs).c, .int .i64 (unw 6 bs).d], .bool true]) ?_ rfl (ofOut_of HO.out.1 HO.out.2 (by go_grown))
    refine res_cell_tmp Tryd.results25 _ _ _ w.heap.size _ ?_ (run_loadVar_row _ _ 25 25 _ (0, 0) _ (set5 _ _ _ _ _ q5.out) Tryd.underlying25 rfl info_addr)
    rfl

set_option maxRecDepth 100000 in
set_option maxHeartbeats 400000 in
theorem implAddrOf (A : Option Addr) (n c : Nat) (bs : List UInt8) (w : World) (hr : RB w w.heap.size A bs) (hl : bs.length = n) (hn : n ≤ 1048576) : Calls Tryd.prog 25 #[.slice A n c] w (OfOut bs w) := by
  by_cases h4 : n = 4
  · subst h4
    exact implAddrOf_four A c bs w hr hl
  · by_cases h16 : n = 16
    · subst h16
      exact implAddrOf_six A c bs w hr hl
    · have HO := Lib.hid (And.intro (show ofA bs = Ad.zero by simp [ofA, hl, h4, h16]) (show okA bs = false by simp [okA, hl, h4, h16]))
      clear hr hl
      go_enter Tryd.func25, Tryd.ntmps25
      go_wp2
      go_returns
      exact ofOut_of HO.out.1 HO.out.2 (by go_grown)
end Go.Proofs.YtckakpcjbndijabDoor
namespace Go.Proofs.YtckakpcjbndijabDoor
open Go.RowKit

set_option maxRecDepth 100000 in
theorem res_cell {fn : Func} {p : Tmp} {ty : TypeId} (h : fn.results = #[.cell p ty]) (tmps : Array Value) (P : Program) (w : World) (g : Nat) (cs : Array Value)
    (hp : tmps.getD p undef = .pointer (some ⟨g, 0, none⟩)) (hld : (loadVar ty ⟨g, 0, none⟩).run P w = .ok (.agg cs) w) :
    (results fn tmps).run P w = .ok (.agg cs) w := by
  have hp' : tmps[p]?.getD undef = .pointer (some ⟨g, 0, none⟩) := by simpa using hp
  simp [results, h, hp', asAddr, hld]

end Go.Proofs.YtckakpcjbndijabDoor
namespace Go.Proofs.YtckakpcjbndijabDoor
open Go.RowKit

set_option maxRecDepth 100000 in
set_option maxHeartbeats 400000 in
theorem specCut_no (x : Ad) (n : Int) (h : ¬ (x.ok = true ∧ 0 ≤ n ∧ n ≤ x.bits)) (w : World) :
    Calls Tryd.prog 56 #[.agg #[.int .i64 x.k, .int .i64 x.a, .int .i64 x.b, .int .i64 x.c, .int .i64 x.d], .int .i64 n] w fun e w' => e = .returned (.agg #[.int .i64 Ad.zero.k, .int .i64 Ad.zero.a, .int .i64 Ad.zero.b, .int .i64 Ad.zero.c, .int .i64 Ad.zero.d]) ∧ Below w.heap.size w w' := by
  cases hok : x.ok
  · have HO := Lib.hid hok
    clear h hok
    go_enter Tryd.func56, Tryd.ntmps56
    go_wp2_with fail
    refine (specAddrOk x _).mono ?_
    rintro e w1 ⟨rfl, b1⟩
    have hok := HO.out
    have q1 := Lib.hid (row_on b1 (g := w.heap.size + 1) (by simp) (heap_alloc2_new w _ _))
    obtain ⟨⟨d0, d1, d2, d3, d4⟩, f0, f1, f2, f3, f4⟩ := row5 q1.out
    have B1 := bthen (Joins.below_alloc2 w _ _) b1
    go_wp2
    (try simp only [Exit.inBlock, Exit.then])
    refine bodyPost_ret (v := .agg #[.int .i64 Ad.zero.k, .int .i64 Ad.zero.a, .int .i64 Ad.zero.b, .int .i64 Ad.zero.c, .int .i64 Ad.zero.d]) ?_ rfl ⟨rfl, by go_grown⟩
    refine res_cell Tryd.results56 _ _ _ (w.heap.size + 1) _ ?_ (run_loadVar_row _ _ 25 25 _ (0, 0) _ (set5 _ _ _ _ _ q1.out) Tryd.underlying25 rfl info_addr)
    rfl
  · have HN : n < 0 ∨ x.bits < n := by simp only [hok, true_and] at h; omega
    have HO := Lib.hid hok
    clear h hok
    rcases HN with hn | hn
    · go_enter Tryd.func56, Tryd.ntmps56
      go_wp2_with fail
      refine (specAddrOk x _).mono ?_
      rintro e w1 ⟨rfl, b1⟩
      have hok := HO.out
      have q1 := Lib.hid (row_on b1 (g := w.heap.size + 1) (by simp) (heap_alloc2_new w _ _))
      obtain ⟨⟨d0, d1, d2, d3, d4⟩, f0, f1, f2, f3, f4⟩ := row5 q1.out
      have B1 := bthen (Joins.below_alloc2 w _ _) b1
      go_wp2
      (try simp only [Exit.inBlock, Exit.then])
      refine bodyPost_ret (v := .agg #[.int .i64 Ad.zero.k, .int .i64 Ad.zero.a, .int .i64 Ad.zero.b, .int .i64 Ad.zero.c, .int .i64 Ad.zero.d]) ?_ rfl ⟨rfl, by go_grown⟩
      refine res_cell Tryd.results56 _ _ _ (w.heap.size + 1) _ ?_ (run_loadVar_row _ _ 25 25 _ (0, 0) _ (set5 _ _ _ _ _ q1.out) Tryd.underlying25 rfl info_addr)
      rfl
    · have hb := bits_bd x
      have hn0 : ¬ n < 0 := by omega
      go_enter Tryd.func56, Tryd.ntmps56
      go_wp2_with fail
      refine (specAddrOk x _).mono ?_
      rintro e w1 ⟨rfl, b1⟩
      have hok := HO.out
      have c0 : w1.cell? ⟨w.heap.size, 0, none⟩ = some (.int .i64 x.k) := cell_on b1 (by simp [go_sem])
      have c1 : w1.cell? ⟨w.heap.size, 1, none⟩ = some (.int .i64 x.a) := cell_on b1 (by simp [go_sem])
      have c2 : w1.cell? ⟨w.heap.size, 2, none⟩ = some (.int .i64 x.b) := cell_on b1 (by simp [go_sem])
      have c3 : w1.cell? ⟨w.heap.size, 3, none⟩ = some (.int .i64 x.c) := cell_on b1 (by simp [go_sem])
      have c4 : w1.cell? ⟨w.heap.size, 4, none⟩ = some (.int .i64 x.d) := cell_on b1 (by simp [go_sem])
      have q1 := Lib.hid (row_on b1 (g := w.heap.size + 1) (by simp) (heap_alloc2_new w _ _))
      have B1 := bthen (Joins.below_alloc2 w _ _) b1
      clear b1
      go_wp2_with fail
      refine (specBits x _).mono ?_
      rintro e w2 ⟨rfl, b2⟩
      have q2 := Lib.hid (row_on b2 (row_lt q1.out) q1.out)
      obtain ⟨⟨d0, d1, d2, d3, d4⟩, f0, f1, f2, f3, f4⟩ := row5 q2.out
      have B2 := bthen B1 b2
      clear c0 c1 c2 c3 c4
      go_wp2
      (try simp only [Exit.inBlock, Exit.then])
      refine bodyPost_ret (v := .agg #[.int .i64 Ad.zero.k, .int .i64 Ad.zero.a, .int .i64 Ad.zero.b, .int .i64 Ad.zero.c, .int .i64 Ad.zero.d]) ?_ rfl ⟨rfl, by go_grown⟩
      refine res_cell Tryd.results56 _ _ _ (w.heap.size + 1) _ ?_ (run_loadVar_row _ _ 25 25 _ (0, 0) _ (set5 _ _ _ _ _ q2.out) Tryd.underlying25 rfl info_addr)
      rfl
end Go.Proofs.YtckakpcjbndijabDoor
namespace Go.Proofs.YtckakpcjbndijabDoor
open Go.RowKit

set_option maxRecDepth 100000 in
theorem bytes_bits {x : Ad} (h : x.ok = true) : x.bits = 8 * (x.bytes.length : Int) := by
  rcases x.ok_kind h with hk | hk
  · rw [bytes_four h hk]; simp [Ad.bits, hk, put32]
  · rw [bytes_six h hk, x.whole_length]; simp [Ad.bits, hk]
set_option maxRecDepth 100000 in
theorem bytes_len {x : Ad} (h : x.ok = true) : x.bytes.length = 4 ∨ x.bytes.length = 16 := by
  rcases x.ok_kind h with hk | hk
  · rw [bytes_four h hk]; exact .inl rfl
  · rw [bytes_six h hk, x.whole_length]; exact .inr rfl
set_option maxRecDepth 100000 in
theorem cut_ofA {x : Ad} {n : Int} (h : x.ok = true) (h0 : 0 ≤ n) (h1 : n ≤ x.bits) : x.cut n = ofA (cutB n.toNat x.bytes) := by
  rcases x.ok_kind h with hk | hk
  · rw [Ad.cut_four h hk h0 (by simp [Ad.bits, hk] at h1; exact h1), bytes_four h hk, ofA_four (by rw [cutB_length]; rfl)]
  · rw [Ad.cut_six h hk h0 (by simp [Ad.bits, hk] at h1; exact h1), bytes_six h hk, ofA_six (by rw [cutB_length, x.whole_length])]
set_option maxRecDepth 100000 in
theorem cells_set (bs : List UInt8) (i : Nat) (b : UInt8) : (cellsOf bs).set i (.int .u8 (b.toNat : Int)) = cellsOf (bs.set i b) := by simp [cellsOf, List.map_set]

set_option maxRecDepth 100000 in
theorem bit_test (b t : Int) (h0 : 0 ≤ b) (h1 : b ≤ 255) (ht : 1 ≤ t) : ((wrap64 (b / t)).tmod 2 == 1) = decide (b / t % 2 = 1) := by
  have q0 : 0 ≤ b / t := Int.ediv_nonneg h0 (by omega)
  have q1 : b / t ≤ b := Int.ediv_le_self _ h0
  rw [IntWalk.wrap64_in _ (by omega), Int.tmod_eq_emod_of_nonneg q0]
  rfl

set_option maxHeartbeats 1000000 in
set_option maxRecDepth 100000 in
theorem specCut_yes (x : Ad) (n : Int) (h : x.ok = true ∧ 0 ≤ n ∧ n ≤ x.bits) (w : World) :
    Calls Tryd.prog 56 #[.agg #[.int .i64 x.k, .int .i64 x.a, .int .i64 x.b, .int .i64 x.c, .int .i64 x.d], .int .i64 n] w fun e w' => e = .returned (.agg #[.int .i64 (x.cut n).k, .int .i64 (x.cut n).a, .int .i64 (x.cut n).b, .int .i64 (x.cut n).c, .int .i64 (x.cut n).d]) ∧ Below w.heap.size w w' := by
  obtain ⟨hok, h0, h1⟩ := h
  have HC := Lib.hid (cut_ofA hok h0 h1)
  obtain ⟨bs, hbs⟩ : ∃ bs, x.bytes = bs := ⟨_, rfl⟩
  obtain ⟨L, hL⟩ : ∃ L, bs.length = L := ⟨_, rfl⟩
  have hL16 : L ≤ 16 := by have := bytes_len hok; rw [hbs, hL] at this; omega
  have hbits := bytes_bits hok
  rw [hbs, hL] at hbits
  obtain ⟨N, hN⟩ : ∃ N : Nat, n = N := ⟨n.toNat, by omega⟩
  subst hN
  rw [Int.toNat_natCast, hbs] at HC
  have hNL : N ≤ 8 * L := by omega
  have so : ∀ v : World, Calls Tryd.prog 28 #[.agg #[.int .i64 x.k, .int .i64 x.a, .int .i64 x.b, .int .i64 x.c, .int .i64 x.d]] v fun e v' => ∃ A c, e = .returned (.slice A L c) ∧ v'.ownsRow v.heap.size 5 1 (.slice A L c) L (cellsOf bs) ∧ Below v.heap.size v v' := by
    intro v
    have h := specAddrBytes x v
    unfold BytesOut at h
    rwa [hbs, hL] at h
  have SO := Lib.hid so
  have HO := Lib.hid hok
  have HB := Lib.hid hbits
  have HL := Lib.hid hL
  have hb := bits_bd x
  clear so hok hbits hbs hL
  go_enter Tryd.func56, Tryd.ntmps56
  go_wp2_with fail
  refine (specAddrOk x _).mono ?_
  rintro e w1 ⟨rfl, b1⟩
  have hok := HO.out
  have c0 : w1.cell? ⟨w.heap.size, 0, none⟩ = some (.int .i64 x.k) := cell_on b1 (by simp [go_sem])
  have c1 : w1.cell? ⟨w.heap.size, 1, none⟩ = some (.int .i64 x.a) := cell_on b1 (by simp [go_sem])
  have c2 : w1.cell? ⟨w.heap.size, 2, none⟩ = some (.int .i64 x.b) := cell_on b1 (by simp [go_sem])
  have c3 : w1.cell? ⟨w.heap.size, 3, none⟩ = some (.int .i64 x.c) := cell_on b1 (by simp [go_sem])
  have c4 : w1.cell? ⟨w.heap.size, 4, none⟩ = some (.int .i64 x.d) := cell_on b1 (by simp [go_sem])
  have q1 := Lib.hid (row_on b1 (g := w.heap.size + 1) (by simp) (heap_alloc2_new w _ _))
  have B1 := bthen (Joins.below_alloc2 w _ _) b1
  clear b1
  go_wp2_with fail
  refine (specBits x _).mono ?_
  rintro e w2 ⟨rfl, b2⟩
  have c0 := cell_on b2 c0
  have c1 := cell_on b2 c1
  have c2 := cell_on b2 c2
  have c3 := cell_on b2 c3
  have c4 := cell_on b2 c4
  have q2 := Lib.hid (row_on b2 (row_lt q1.out) q1.out)
  have B2 := bthen B1 b2
  clear b2 q1 B1
  go_wp2_with fail
  refine (SO.out _).mono ?_
  rintro e w3 ⟨A, k3, rfl, o3, b3⟩
  have C0 := Lib.hid c0
  have C1 := Lib.hid c1
  have C2 := Lib.hid c2
  have C3 := Lib.hid c3
  have C4 := Lib.hid c4
  clear c0 c1 c2 c3 c4 hok
  have O3 := Lib.hid o3
  have B3 := Lib.hid b3
  clear o3 b3
  go_wp2_with fail
  go_loopw [6] (fun s wr => ∃ i : Nat, N ≤ i ∧ i ≤ 8 * L ∧ s = .int .i64 i ∧ Hid (wr.ownsRow w2.heap.size 5 1 (.slice A L k3) L (cellsOf (midB N i bs))) ∧ Hid (Below w2.heap.size w2 wr)) (fun s _ => 8 * L - (intOf s).toNat)
  case atStart => exact ⟨N, Nat.le_refl _, hNL, rfl, Lib.hid (by rw [midB_start]; exact O3.out), B3⟩
  case round =>
    obtain ⟨i, hi0, hi1, rfl, ho, hbl⟩ := hrel
    have lt0 : w.heap.size < w2.heap.size := Nat.lt_of_lt_of_le (Nat.lt_succ_self _) (Nat.le_of_lt (row_lt q2.out))
    have d0 := (hbl.out.cell (p := ⟨w.heap.size, 0, none⟩) lt0).trans C0.out
    have d1 := (hbl.out.cell (p := ⟨w.heap.size, 1, none⟩) lt0).trans C1.out
    have d2 := (hbl.out.cell (p := ⟨w.heap.size, 2, none⟩) lt0).trans C2.out
    have d3 := (hbl.out.cell (p := ⟨w.heap.size, 3, none⟩) lt0).trans C3.out
    have d4 := (hbl.out.cell (p := ⟨w.heap.size, 4, none⟩) lt0).trans C4.out
    go_wp2_with fail
    refine (specBits x _).mono ?_
    rintro e w4 ⟨rfl, b4⟩
    clear d0 d1 d2 d3 d4
    have o4 := own_below ho.out b4
    have B4 := Lib.hid (hbl.out.trans (b4.mono hbl.out.size))
    by_cases hlt : i < 8 * L
    · have hltI : (i : Int) < x.bits := by have := HB.out; omega
      have O4 := Lib.hid o4
      have hs7 : i % 8 ≤ 7 := by omega
      clear o4 b4
      go_wp2_with fail
      go_loop [7, 8] (fun t s => ∃ m : Nat, m ≤ i % 8 ∧ s = .int .i64 ((i : Int) % 8 - m) ∧ t = .int .i64 (bitAt m)) (fun _ s => (intOf s).toNat)
      case atStart => exact ⟨0, Nat.zero_le _, by go_num, rfl⟩
      case round =>
        obtain ⟨m, hm, rfl, rfl⟩ := hrel
        obtain ⟨t1, t2⟩ := bitAt_bd m (by omega)
        by_cases hm7 : m < i % 8
        · have hp : (0 : Int) < (i : Int) % 8 - m := by omega
          have hh := Lib.hid (bitAt_half m (by omega))
          go_wp2
          go_round
          case rel => exact ⟨m + 1, by omega, by go_num, by rw [← hh.out]⟩
          case measure => simp [intOf]; omega
        · have hmi : m = i % 8 := by omega
          have hp : ¬ (0 : Int) < (i : Int) % 8 - m := by omega
          have hiL : i / 8 < bs.length := by rw [HL.out]; omega
          obtain ⟨g, rfl, hg⟩ : ∃ g, A = some ⟨g, 0, none⟩ ∧ w2.heap.size ≤ g := by
            rcases O4.out.2 with ⟨_, h2⟩ | ⟨g, cap, cur, hv, hbase, _⟩
            · omega
            · injection hv with hA
              exact ⟨g, hA, hbase⟩
          obtain ⟨j, hj⟩ : ∃ j : Nat, j = i / 8 := ⟨_, rfl⟩
          have hjI : (i : Int) / 8 = (j : Int) := by omega
          have hjL : j < L := by omega
          obtain ⟨lo, hlo⟩ : ∃ lo : Nat, lo = min 8 (N - 8 * (i / 8)) := ⟨_, rfl⟩
          have hls : lo ≤ m := by omega
          obtain ⟨b, hb0⟩ : ∃ b : UInt8, b = midByte bs[i / 8] lo m := ⟨_, rfl⟩
          have hcell : w4.cell? ⟨g, j, none⟩ = some (.int .u8 (b.toNat : Int)) := by
            have e := midB_at N i bs hiL
            rw [← hlo, ← hmi, ← hb0] at e
            rw [O4.out.cellAt j (by omega), cellsOf_get _ j b]
            rw [hj, List.getElem?_eq_getElem (by rw [midB_length]; exact hiL), e]
          have hfz := O4.out.frozenAt j
          have hb255 : b.toNat < 256 := UInt8.toNat_lt b
          by_cases hbit : (b.toNat : Int) / bitAt m % 2 = 1
          · obtain ⟨b2, hb2⟩ : ∃ b2 : UInt8, b2 = midByte bs[i / 8] lo (m + 1) := ⟨_, rfl⟩
            have hon := midByte_on bs[i / 8] lo m hls (by omega) (by rw [← hb0]; exact hbit)
            rw [← hb0, ← hb2] at hon
            have hb2n : b2.toNat < 256 := UInt8.toNat_lt b2
            have R := O4.out.stored j (.int .u8 (b2.toNat : Int))
            have hst := midB_step N i bs hiL
            rw [← hlo, ← hmi, ← hb2, ← hj] at hst
            rw [cells_set, ← hst] at R
            have R1 := Lib.hid R.1
            have R2 := Lib.hid (B4.out.setCell (p := ⟨g, j, none⟩) hg (.int .u8 (b2.toNat : Int)))
            have hq : ((wrap64 ((b.toNat : Int) / bitAt m)).tmod 2 == 1) = true := by rw [bit_test _ _ (by omega) (by omega) t1]; exact decide_eq_true hbit
            clear R hst hb2 hb0 hlo hj O4 B4 hmi hm7 hm hbit
            go_wp2
            exact ⟨⟨i + 1, by omega, by omega, by go_num, R1, R2⟩, by simp [intOf]; omega⟩
          · have hoff := midByte_off bs[i / 8] lo m hls (by omega) (by rw [← hb0]; exact hbit)
            have hst := midB_step N i bs hiL
            have hsame : midB N (i + 1) bs = midB N i bs := by
              rw [hst, ← hlo, ← hmi, hoff]
              have e := midB_at N i bs hiL
              rw [← hlo, ← hmi] at e
              rw [← e]
              exact List.set_getElem_self _
            have R1 := O4
            rw [← hsame] at R1
            have hq : ((wrap64 ((b.toNat : Int) / bitAt m)).tmod 2 == 1) = false := by rw [bit_test _ _ (by omega) (by omega) t1]; exact decide_eq_false hbit
            clear hst hb0 hlo hj O4 hmi hm7 hm hbit hoff hsame
            go_wp2
            exact ⟨⟨i + 1, by omega, by omega, by go_num, R1, B4⟩, by simp [intOf]; omega⟩
    · obtain rfl : i = 8 * L := by omega
      have hltI : ¬ ((8 * L : Nat) : Int) < x.bits := by have := HB.out; omega
      rw [midB_end N _ bs (by rw [HL.out]; exact Nat.le_refl _)] at o4
      have hlc : (cutB N bs).length = L := by rw [cutB_length, HL.out]
      have HLC := Lib.hid hlc
      have R4 := Lib.hid (RB.of_own o4)
      have q4 := Lib.hid (row_on B4.out (row_lt q2.out) q2.out)
      have b24 := Lib.hid (B2.trans (B4.out.mono B2.size))
      clear hlc o4 b4
      go_wp2_with fail
      refine (specAddrOf A L k3 (cutB N bs) _ R4.out HLC.out (by omega)).mono ?_
      rintro e w5 ⟨rfl, b5⟩
      have hcut := HC.out
      obtain ⟨y, hy⟩ : ∃ y, ofA (cutB N bs) = y := ⟨_, rfl⟩
      obtain ⟨ok, hok⟩ : ∃ ok, okA (cutB N bs) = ok := ⟨_, rfl⟩
      rw [hy] at hcut
      have HCC := Lib.hid hcut
      rw [hy, hok]
      clear hcut hy hok
      have q6 := Lib.hid (row_on (Joins.below_alloc1 w5 (.cells #[.int .i64 y.k, .int .i64 y.a, .int .i64 y.b, .int .i64 y.c, .int .i64 y.d] 25)) (row_lt (row_on b5 (row_lt q4.out) q4.out)) (row_on b5 (row_lt q4.out) q4.out))
      obtain ⟨⟨d0, d1, d2, d3, d4⟩, f0, f1, f2, f3, f4⟩ := row5 q6.out
      have B6 := bthen (bthen b24.out b5) (Joins.below_alloc1 w5 (.cells #[.int .i64 y.k, .int .i64 y.a, .int .i64 y.b, .int .i64 y.c, .int .i64 y.d] 25))
      go_wp2
      (try simp only [Exit.inBlock, Exit.then])
      refine bodyPost_ret (v := .agg #[.int .i64 y.k, .int .i64 y.a, .int .i64 y.b, .int .i64 y.c, .int .i64 y.d]) ?_ rfl ⟨by rw [HCC.out], by go_grown⟩
      refine res_cell Tryd.results56 _ _ _ (w.heap.size + 1) _ ?_ (run_loadVar_row _ _ 25 25 _ (0, 0) _ (set5 _ _ _ _ _ q6.out) Tryd.underlying25 rfl info_addr)
      rfl

set_option maxRecDepth 100000 in
theorem specCut (x : Ad) (n : Int) (w : World) : Calls Tryd.prog 56 #[.agg #[.int .i64 x.k, .int .i64 x.a, .int .i64 x.b, .int .i64 x.c, .int .i64 x.d], .int .i64 n] w fun e w' => e = .returned (.agg #[.int .i64 (x.cut n).k, .int .i64 (x.cut n).a, .int .i64 (x.cut n).b, .int .i64 (x.cut n).c, .int .i64 (x.cut n).d]) ∧ Below w.heap.size w w' := by
  by_cases h : x.ok = true ∧ 0 ≤ n ∧ n ≤ x.bits
  · exact specCut_yes x n h w
  · rw [Ad.cut_not h]
    exact specCut_no x n h w
end Go.Proofs.YtckakpcjbndijabDoor
namespace Go.Proofs.YtckakpcjbndijabDoor
open Go.RowKit

set_option maxRecDepth 100000 in
theorem Ad.ext_iff' (x y : Ad) : x = y ↔ x.k = y.k ∧ x.a = y.a ∧ x.b = y.b ∧ x.c = y.c ∧ x.d = y.d := by
  cases x
  cases y
  simp
set_option maxRecDepth 100000 in
theorem Pf.zero_iff (p : Pf) : p = Pf.zero ↔ (p.base.k = 0 ∧ p.base.a = 0 ∧ p.base.b = 0 ∧ p.base.c = 0 ∧ p.base.d = 0) ∧ p.len = 0 := by
  obtain ⟨⟨k, a, b, c, d⟩, n⟩ := p
  simp [Pf.zero, Ad.zero]

set_option maxRecDepth 100000 in
set_option maxHeartbeats 400000 in
theorem eq_ad (x y : Ad) (w : World) : (Op.equalIn 10000 25 (.agg #[.int .i64 x.k, .int .i64 x.a, .int .i64 x.b, .int .i64 x.c, .int .i64 x.d]) (.agg #[.int .i64 y.k, .int .i64 y.a, .int .i64 y.b, .int .i64 y.c, .int .i64 y.d])).run Tryd.prog w = .ok (decide (x = y)) w := by
  go_simp
  repeat' split
  all_goals simp [Ad.ext_iff', *]

set_option maxRecDepth 100000 in
set_option maxHeartbeats 400000 in
theorem eq_pf (p : Pf) (w : World) : (Op.equalIn 10000 36 (.agg #[.int .i64 p.base.k, .int .i64 p.base.a, .int .i64 p.base.b, .int .i64 p.base.c, .int .i64 p.base.d, .int .i64 p.len]) (.agg #[.int .i64 0, .int .i64 0, .int .i64 0, .int .i64 0, .int .i64 0, .int .i64 0])).run Tryd.prog w = .ok (decide (p = Pf.zero)) w := by
  go_simp
  repeat' split
  all_goals simp [Pf.zero_iff, *]

set_option maxRecDepth 100000 in
set_option maxHeartbeats 400000 in
theorem specAny (p : Pf) (w : World) : Calls Tryd.prog 42 #[.agg #[.int .i64 p.base.k, .int .i64 p.base.a, .int .i64 p.base.b, .int .i64 p.base.c, .int .i64 p.base.d, .int .i64 p.len]] w fun e w' => e = .returned (.bool (decide (p = Pf.zero))) ∧ Below w.heap.size w w' := by
  go_enter Tryd.func42, Tryd.ntmps42
  go_wp2
  all_goals (go_ret; exact ⟨ret_bool (by simp [Pf.zero_iff, *]), by go_grown⟩)

set_option maxRecDepth 100000 in
set_option maxHeartbeats 400000 in
theorem implPrefixOk_zero (p : Pf) (h : p = Pf.zero) (w : World) : Calls Tryd.prog 43 #[.agg #[.int .i64 p.base.k, .int .i64 p.base.a, .int .i64 p.base.b, .int .i64 p.base.c, .int .i64 p.base.d, .int .i64 p.len]] w fun e w' => e = .returned (.bool true) ∧ Below w.heap.size w w' := by
  have hq := eq_pf p
  subst h
  rw [decide_eq_true rfl] at hq
  go_enter Tryd.func43, Tryd.ntmps43
  go_wp2
  go_ret
  exact ⟨rfl, by go_grown⟩

set_option maxRecDepth 100000 in
/-- What a call that turns nothing old hands on in a region that only reads. -/
theorem regrown_same {P : Program} {f : FuncId} {args : Array Value} {w : World} {d : Nat} {os : Array Obj} {v : Value}
    (h : Calls P f args (Sort.grow (redrawn w d) os) fun e w' => e = .returned v ∧ Sort.grow (redrawn w d) os = w') : Calls P f args (Sort.grow (redrawn w d) os) fun e w'' => e = .returned v ∧ ∃ p : Regrown, w'' = Sort.grow (redrawn w p.d) p.os :=
  Calls.regrown_of (h.mono fun _ _ ⟨he, hw⟩ => ⟨he, by rw [← hw]; exact Below.refl _ _⟩)

set_option maxRecDepth 100000 in
/-- The six cells of a prefix that was boxed. -/
theorem pf_cells (w : World) (p : Pf) (t : TypeId) : (∀ d os, (Sort.grow (redrawn (w.alloc (.cells #[.int .i64 p.base.k, .int .i64 p.base.a, .int .i64 p.base.b, .int .i64 p.base.c, .int .i64 p.base.d, .int .i64 p.len] t)) d) os).cell? ⟨w.heap.size, 0, none⟩ = some (.int .i64 p.base.k)) ∧
    (∀ d os, (Sort.grow (redrawn (w.alloc (.cells #[.int .i64 p.base.k, .int .i64 p.base.a, .int .i64 p.base.b, .int .i64 p.base.c, .int .i64 p.base.d, .int .i64 p.len] t)) d) os).cell? ⟨w.heap.size, 1, none⟩ = some (.int .i64 p.base.a)) ∧
    (∀ d os, (Sort.grow (redrawn (w.alloc (.cells #[.int .i64 p.base.k, .int .i64 p.base.a, .int .i64 p.base.b, .int .i64 p.base.c, .int .i64 p.base.d, .int .i64 p.len] t)) d) os).cell? ⟨w.heap.size, 2, none⟩ = some (.int .i64 p.base.b)) ∧
    (∀ d os, (Sort.grow (redrawn (w.alloc (.cells #[.int .i64 p.base.k, .int .i64 p.base.a, .int .i64 p.base.b, .int .i64 p.base.c, .int .i64 p.base.d, .int .i64 p.len] t)) d) os).cell? ⟨w.heap.size, 3, none⟩ = some (.int .i64 p.base.c)) ∧
    (∀ d os, (Sort.grow (redrawn (w.alloc (.cells #[.int .i64 p.base.k, .int .i64 p.base.a, .int .i64 p.base.b, .int .i64 p.base.c, .int .i64 p.base.d, .int .i64 p.len] t)) d) os).cell? ⟨w.heap.size, 4, none⟩ = some (.int .i64 p.base.d)) ∧
    (∀ d os, (Sort.grow (redrawn (w.alloc (.cells #[.int .i64 p.base.k, .int .i64 p.base.a, .int .i64 p.base.b, .int .i64 p.base.c, .int .i64 p.base.d, .int .i64 p.len] t)) d) os).cell? ⟨w.heap.size, 5, none⟩ = some (.int .i64 p.len)) :=
  ⟨cell_regrown (by simp [go_sem]), cell_regrown (by simp [go_sem]), cell_regrown (by simp [go_sem]), cell_regrown (by simp [go_sem]), cell_regrown (by simp [go_sem]), cell_regrown (by simp [go_sem])⟩

set_option maxRecDepth 100000 in
set_option maxHeartbeats 400000 in
theorem implPrefixOk_bad (p : Pf) (h : ¬ p = Pf.zero) (hok : p.base.ok = false) (w : World) : Calls Tryd.prog 43 #[.agg #[.int .i64 p.base.k, .int .i64 p.base.a, .int .i64 p.base.b, .int .i64 p.base.c, .int .i64 p.base.d, .int .i64 p.len]] w fun e w' => e = .returned (.bool false) ∧ Below w.heap.size w w' := by
  have hq := eq_pf p
  rw [decide_eq_false h] at hq
  have ao := implAddrOk p.base
  rw [hok] at ao
  have AO := Lib.hid ao
  clear hok h ao
  obtain ⟨c0, c1, c2, c3, c4, c5⟩ := pf_cells w p 36
  go_enter Tryd.func43, Tryd.ntmps43
  go_wp2_with fail
  refine wp_region_quiet_below (by kernel_rfl) (by kernel_rfl) ?_
  repeat (go_big_quiet_step ((go_at_call 50; exact Calls.regrown_of (AO.out _))))
  refine wpQuiet_nil ?_
  intro w2 hw2
  obtain ⟨⟨dq, osq⟩, hw2⟩ := hw2
  have B := below_regrown (w.alloc (.cells #[.int .i64 p.base.k, .int .i64 p.base.a, .int .i64 p.base.b, .int .i64 p.base.c, .int .i64 p.base.d, .int .i64 p.len] 36)) dq osq
  rw [← hw2] at B
  clear hw2 c0 c1 c2 c3 c4 c5
  go_wp2
  go_ret
  exact ⟨rfl, bthen (Joins.below_alloc1 w _) B⟩

set_option maxRecDepth 100000 in
set_option maxHeartbeats 400000 in
theorem implPrefixOk_len (p : Pf) (h : ¬ p = Pf.zero) (hok : p.base.ok = true) (hl : p.len < 0 ∨ p.base.bits < p.len) (w : World) : Calls Tryd.prog 43 #[.agg #[.int .i64 p.base.k, .int .i64 p.base.a, .int .i64 p.base.b, .int .i64 p.base.c, .int .i64 p.base.d, .int .i64 p.len]] w fun e w' => e = .returned (.bool false) ∧ Below w.heap.size w w' := by
  have hq := eq_pf p
  rw [decide_eq_false h] at hq
  have ao := implAddrOk p.base
  rw [hok] at ao
  have AO := Lib.hid ao
  have HK := Lib.hid (bits_is p.base hok)
  have HN := Lib.hid hl
  clear hok h hl ao
  obtain ⟨c0, c1, c2, c3, c4, c5⟩ := pf_cells w p 36
  go_enter Tryd.func43, Tryd.ntmps43
  go_wp2_with fail
  refine wp_region_quiet_below (by kernel_rfl) (by kernel_rfl) ?_
  repeat (go_big_quiet_step (first | (go_at_call 50; exact Calls.regrown_of (AO.out _)) | (go_at_call 52; exact regrown_same (HK.out _)) | (go_at_call 70; exact regrown_same (within_no _ _ _ _ HN.out))))
  refine wpQuiet_nil ?_
  intro w2 hw2
  obtain ⟨⟨dq, osq⟩, hw2⟩ := hw2
  have B := below_regrown (w.alloc (.cells #[.int .i64 p.base.k, .int .i64 p.base.a, .int .i64 p.base.b, .int .i64 p.base.c, .int .i64 p.base.d, .int .i64 p.len] 36)) dq osq
  rw [← hw2] at B
  clear hw2 c0 c1 c2 c3 c4 c5
  go_wp2
  go_ret
  exact ⟨rfl, bthen (Joins.below_alloc1 w _) B⟩

set_option maxRecDepth 100000 in
set_option maxHeartbeats 400000 in
theorem implPrefixOk_in (p : Pf) (h : ¬ p = Pf.zero) (hok : p.base.ok = true) (h0 : 0 ≤ p.len) (h1 : p.len ≤ p.base.bits) (w : World) : Calls Tryd.prog 43 #[.agg #[.int .i64 p.base.k, .int .i64 p.base.a, .int .i64 p.base.b, .int .i64 p.base.c, .int .i64 p.base.d, .int .i64 p.len]] w fun e w' => e = .returned (.bool (decide (p.base.cut p.len = p.base))) ∧ Below w.heap.size w w' := by
  have hq := eq_pf p
  rw [decide_eq_false h] at hq
  have ao := implAddrOk p.base
  rw [hok] at ao
  have AO := Lib.hid ao
  have HK := Lib.hid (bits_is p.base hok)
  have fb := firstBitsC p.base p.len hok h0 h1
  have hl : (cutB (128 - p.base.bits + p.len).toNat p.base.whole).length = 16 := by rw [cutB_length, Ad.whole_length]
  have he := eq_arr _ _ hl p.base.whole_length
  have hd : decide (cutB (128 - p.base.bits + p.len).toNat p.base.whole = p.base.whole) = decide (p.base.cut p.len = p.base) := by
    rw [decide_eq_decide]
    exact (Ad.cut_eq ⟨hok, h0, h1⟩ hok rfl).symm
  rw [hd] at he
  obtain ⟨Y, hY⟩ : ∃ Y, Y = cutB (128 - p.base.bits + p.len).toNat p.base.whole := ⟨_, rfl⟩
  rw [← hY] at he fb
  obtain ⟨b, hb⟩ : ∃ b : Bool, b = decide (p.base.cut p.len = p.base) := ⟨_, rfl⟩
  rw [← hb] at he
  rw [← hb]
  have FB := Lib.hid fb
  have H0 := Lib.hid (And.intro h0 h1)
  clear hok h ao fb hl hd hY hb h0 h1
  obtain ⟨c0, c1, c2, c3, c4, c5⟩ := pf_cells w p 36
  go_enter Tryd.func43, Tryd.ntmps43
  go_wp2_with fail
  refine wp_region_quiet_below (by kernel_rfl) (by kernel_rfl) ?_
  repeat (go_big_quiet_step (first | (go_at_call 50; exact Calls.regrown_of (AO.out _)) | (go_at_call 52; exact regrown_same (HK.out _)) | (go_at_call 70; exact regrown_same (within_yes _ _ _ _ H0.out.1 H0.out.2)) | (go_at_call 71; exact Calls.regrown_of (FB.out _)) | (go_at_call 51; exact Calls.regrown_of (packedC p.base _))))
  refine wpQuiet_nil ?_
  intro w2 hw2
  obtain ⟨⟨dq, osq⟩, hw2⟩ := hw2
  have B := below_regrown (w.alloc (.cells #[.int .i64 p.base.k, .int .i64 p.base.a, .int .i64 p.base.b, .int .i64 p.base.c, .int .i64 p.base.d, .int .i64 p.len] 36)) dq osq
  rw [← hw2] at B
  clear hw2 c0 c1 c2 c3 c4 c5
  go_wp2
  go_ret
  exact ⟨rfl, bthen (Joins.below_alloc1 w _) B⟩

set_option maxRecDepth 100000 in
theorem implPrefixOk (p : Pf) (w : World) : Calls Tryd.prog 43 #[.agg #[.int .i64 p.base.k, .int .i64 p.base.a, .int .i64 p.base.b, .int .i64 p.base.c, .int .i64 p.base.d, .int .i64 p.len]] w fun e w' => e = .returned (.bool p.ok) ∧ Below w.heap.size w w' := by
  by_cases h : p = Pf.zero
  · rw [show p.ok = true by simp [Pf.ok, h]]
    exact implPrefixOk_zero p h w
  · cases hok : p.base.ok
    · rw [show p.ok = false by simp [Pf.ok, h, hok]]
      exact implPrefixOk_bad p h hok w
    · by_cases hl : 0 ≤ p.len ∧ p.len ≤ p.base.bits
      · rw [show p.ok = decide (p.base.cut p.len = p.base) by simp [Pf.ok, h, hok, hl]]
        exact implPrefixOk_in p h hok hl.1 hl.2 w
      · rw [show p.ok = false by simp [Pf.ok, h, hok, hl]]
        exact implPrefixOk_len p h hok (by omega) w
end Go.Proofs.YtckakpcjbndijabDoor
namespace Go.Proofs.YtckakpcjbndijabDoor
open Go.RowKit

set_option maxRecDepth 100000 in
set_option maxHeartbeats 400000 in
theorem specPrefixOk_zero (p : Pf) (h : p = Pf.zero) (w : World) : Calls Tryd.prog 27 #[.agg #[.int .i64 p.base.k, .int .i64 p.base.a, .int .i64 p.base.b, .int .i64 p.base.c, .int .i64 p.base.d, .int .i64 p.len]] w fun e w' => e = .returned (.bool true) ∧ Below w.heap.size w w' := by
  have an := specAny p
  rw [decide_eq_true h] at an
  have AN := Lib.hid an
  clear an h
  obtain ⟨c0, c1, c2, c3, c4, c5⟩ := pf_cells w p 36
  go_enter Tryd.func27, Tryd.ntmps27
  go_wp2_with fail
  refine wp_region_quiet_below (by kernel_rfl) (by kernel_rfl) ?_
  repeat (go_big_quiet_step (((go_at_call 42; exact Calls.regrown_of (AN.out _)))))
  refine wpQuiet_nil ?_
  intro w2 hw2
  obtain ⟨⟨dq, osq⟩, hw2⟩ := hw2
  have B := below_regrown (w.alloc (.cells #[.int .i64 p.base.k, .int .i64 p.base.a, .int .i64 p.base.b, .int .i64 p.base.c, .int .i64 p.base.d, .int .i64 p.len] 36)) dq osq
  rw [← hw2] at B
  clear hw2 c0 c1 c2 c3 c4 c5
  go_wp2
  go_ret
  exact ⟨rfl, bthen (Joins.below_alloc1 w _) B⟩

set_option maxRecDepth 100000 in
set_option maxHeartbeats 400000 in
theorem specPrefixOk_bad (p : Pf) (h : ¬ p = Pf.zero) (hok : p.base.ok = false) (w : World) : Calls Tryd.prog 27 #[.agg #[.int .i64 p.base.k, .int .i64 p.base.a, .int .i64 p.base.b, .int .i64 p.base.c, .int .i64 p.base.d, .int .i64 p.len]] w fun e w' => e = .returned (.bool false) ∧ Below w.heap.size w w' := by
  have an := specAny p
  rw [decide_eq_false h] at an
  have AN := Lib.hid an
  have ao := specAddrOk p.base
  rw [hok] at ao
  have AO := Lib.hid ao
  clear an ao h hok
  obtain ⟨c0, c1, c2, c3, c4, c5⟩ := pf_cells w p 36
  go_enter Tryd.func27, Tryd.ntmps27
  go_wp2_with fail
  refine wp_region_quiet_below (by kernel_rfl) (by kernel_rfl) ?_
  repeat (go_big_quiet_step (first | (go_at_call 42; exact Calls.regrown_of (AN.out _)) | (go_at_call 23; exact Calls.regrown_of (AO.out _))))
  refine wpQuiet_nil ?_
  intro w2 hw2
  obtain ⟨⟨dq, osq⟩, hw2⟩ := hw2
  have B := below_regrown (w.alloc (.cells #[.int .i64 p.base.k, .int .i64 p.base.a, .int .i64 p.base.b, .int .i64 p.base.c, .int .i64 p.base.d, .int .i64 p.len] 36)) dq osq
  rw [← hw2] at B
  clear hw2 c0 c1 c2 c3 c4 c5
  go_wp2
  go_ret
  exact ⟨rfl, bthen (Joins.below_alloc1 w _) B⟩

set_option maxRecDepth 100000 in
set_option maxHeartbeats 400000 in
theorem specPrefixOk_neg (p : Pf) (h : ¬ p = Pf.zero) (hok : p.base.ok = true) (hl : p.len < 0) (w : World) : Calls Tryd.prog 27 #[.agg #[.int .i64 p.base.k, .int .i64 p.base.a, .int .i64 p.base.b, .int .i64 p.base.c, .int .i64 p.base.d, .int .i64 p.len]] w fun e w' => e = .returned (.bool false) ∧ Below w.heap.size w w' := by
  have an := specAny p
  rw [decide_eq_false h] at an
  have AN := Lib.hid an
  have ao := specAddrOk p.base
  rw [hok] at ao
  have AO := Lib.hid ao
  clear an ao h hok
  have hd : decide (0 ≤ p.len) = false := decide_eq_false (by omega)
  clear hl
  obtain ⟨c0, c1, c2, c3, c4, c5⟩ := pf_cells w p 36
  go_enter Tryd.func27, Tryd.ntmps27
  go_wp2_with fail
  refine wp_region_quiet_below (by kernel_rfl) (by kernel_rfl) ?_
  repeat (go_big_quiet_step (first | (go_at_call 42; exact Calls.regrown_of (AN.out _)) | (go_at_call 23; exact Calls.regrown_of (AO.out _))))
  refine wpQuiet_nil ?_
  intro w2 hw2
  obtain ⟨⟨dq, osq⟩, hw2⟩ := hw2
  have B := below_regrown (w.alloc (.cells #[.int .i64 p.base.k, .int .i64 p.base.a, .int .i64 p.base.b, .int .i64 p.base.c, .int .i64 p.base.d, .int .i64 p.len] 36)) dq osq
  rw [← hw2] at B
  clear hw2 c0 c1 c2 c3 c4 c5
  go_wp2
  go_ret
  exact ⟨rfl, bthen (Joins.below_alloc1 w _) B⟩

set_option maxRecDepth 100000 in
set_option maxHeartbeats 400000 in
theorem specPrefixOk_far (p : Pf) (h : ¬ p = Pf.zero) (hok : p.base.ok = true) (h0 : 0 ≤ p.len) (hl : p.base.bits < p.len) (w : World) : Calls Tryd.prog 27 #[.agg #[.int .i64 p.base.k, .int .i64 p.base.a, .int .i64 p.base.b, .int .i64 p.base.c, .int .i64 p.base.d, .int .i64 p.len]] w fun e w' => e = .returned (.bool false) ∧ Below w.heap.size w w' := by
  have an := specAny p
  rw [decide_eq_false h] at an
  have AN := Lib.hid an
  have ao := specAddrOk p.base
  rw [hok] at ao
  have AO := Lib.hid ao
  clear an ao h hok
  have hd : decide (p.len ≤ p.base.bits) = false := decide_eq_false (by omega)
  clear hl
  obtain ⟨c0, c1, c2, c3, c4, c5⟩ := pf_cells w p 36
  go_enter Tryd.func27, Tryd.ntmps27
  go_wp2_with fail
  refine wp_region_quiet_below (by kernel_rfl) (by kernel_rfl) ?_
  repeat (go_big_quiet_step (first | (go_at_call 42; exact Calls.regrown_of (AN.out _)) | (go_at_call 23; exact Calls.regrown_of (AO.out _)) | (go_at_call 55; exact Calls.regrown_of (specBits p.base _))))
  refine wpQuiet_nil ?_
  intro w2 hw2
  obtain ⟨⟨dq, osq⟩, hw2⟩ := hw2
  have B := below_regrown (w.alloc (.cells #[.int .i64 p.base.k, .int .i64 p.base.a, .int .i64 p.base.b, .int .i64 p.base.c, .int .i64 p.base.d, .int .i64 p.len] 36)) dq osq
  rw [← hw2] at B
  clear hw2 c0 c1 c2 c3 c4 c5
  go_wp2
  go_ret
  exact ⟨rfl, bthen (Joins.below_alloc1 w _) B⟩

set_option maxRecDepth 100000 in
set_option maxHeartbeats 400000 in
theorem specPrefixOk_in (p : Pf) (h : ¬ p = Pf.zero) (hok : p.base.ok = true) (h0 : 0 ≤ p.len) (h1 : p.len ≤ p.base.bits) (w : World) : Calls Tryd.prog 27 #[.agg #[.int .i64 p.base.k, .int .i64 p.base.a, .int .i64 p.base.b, .int .i64 p.base.c, .int .i64 p.base.d, .int .i64 p.len]] w fun e w' => e = .returned (.bool (decide (p.base.cut p.len = p.base))) ∧ Below w.heap.size w w' := by
  have an := specAny p
  rw [decide_eq_false h] at an
  have AN := Lib.hid an
  have ao := specAddrOk p.base
  rw [hok] at ao
  have AO := Lib.hid ao
  clear an ao h hok
  have ct := specCut p.base p.len
  have he := eq_ad (p.base.cut p.len) p.base
  obtain ⟨y, hy⟩ : ∃ y, y = p.base.cut p.len := ⟨_, rfl⟩
  rw [← hy] at ct he
  rw [← hy]
  have CT := Lib.hid ct
  clear ct hy
  obtain ⟨c0, c1, c2, c3, c4, c5⟩ := pf_cells w p 36
  go_enter Tryd.func27, Tryd.ntmps27
  go_wp2_with fail
  refine wp_region_quiet_below (by kernel_rfl) (by kernel_rfl) ?_
  repeat (go_big_quiet_step (first | (go_at_call 42; exact Calls.regrown_of (AN.out _)) | (go_at_call 23; exact Calls.regrown_of (AO.out _)) | (go_at_call 55; exact Calls.regrown_of (specBits p.base _)) | (go_at_call 56; exact Calls.regrown_of (CT.out _))))
  refine wpQuiet_nil ?_
  intro w2 hw2
  obtain ⟨⟨dq, osq⟩, hw2⟩ := hw2
  have B := below_regrown (w.alloc (.cells #[.int .i64 p.base.k, .int .i64 p.base.a, .int .i64 p.base.b, .int .i64 p.base.c, .int .i64 p.base.d, .int .i64 p.len] 36)) dq osq
  rw [← hw2] at B
  clear hw2 c0 c1 c2 c3 c4 c5
  go_wp2
  go_ret
  exact ⟨rfl, bthen (Joins.below_alloc1 w _) B⟩

set_option maxRecDepth 100000 in
theorem specPrefixOk (p : Pf) (w : World) : Calls Tryd.prog 27 #[.agg #[.int .i64 p.base.k, .int .i64 p.base.a, .int .i64 p.base.b, .int .i64 p.base.c, .int .i64 p.base.d, .int .i64 p.len]] w fun e w' => e = .returned (.bool p.ok) ∧ Below w.heap.size w w' := by
  by_cases h : p = Pf.zero
  · rw [show p.ok = true by simp [Pf.ok, h]]
    exact specPrefixOk_zero p h w
  · cases hok : p.base.ok
    · rw [show p.ok = false by simp [Pf.ok, h, hok]]
      exact specPrefixOk_bad p h hok w
    · by_cases h0 : 0 ≤ p.len
      · by_cases h1 : p.len ≤ p.base.bits
        · rw [show p.ok = decide (p.base.cut p.len = p.base) by simp [Pf.ok, h, hok, h0, h1]]
          exact specPrefixOk_in p h hok h0 h1 w
        · rw [show p.ok = false by simp [Pf.ok, h, hok, h1]]
          exact specPrefixOk_far p h hok h0 (by omega) w
      · rw [show p.ok = false by simp [Pf.ok, h, hok, h0]]
        exact specPrefixOk_neg p h hok (by omega) w
end Go.Proofs.YtckakpcjbndijabDoor
namespace Go.Proofs.YtckakpcjbndijabDoor
open Go.RowKit

/-- The text of a prefix. -/
def Pf.text (p : Pf) : List UInt8 := if p.ok then (if p = Pf.zero then [97, 110, 121] else p.base.text ++ 47 :: numText p.len) else []
set_option maxRecDepth 100000 in
theorem Ad.text_len (x : Ad) : x.text.length ≤ 80 := by
  unfold Ad.text
  split
  · split
    · have := len4t (put32 x.d) 4 (by simp [put32])
      rw [List.take_of_length_le (by simp [put32])] at this
      unfold text4
      omega
    · have h8 : (wordsL x.whole).length = 8 := by rw [wordsL_length, x.whole_length]
      have := len6t (wordsL x.whole) 8 (by omega) (fun n hn => by
        obtain ⟨j, hj⟩ := List.getElem?_of_mem hn
        exact (wordsL_le x.whole j n hj).2)
      rw [List.take_of_length_le (by omega)] at this
      unfold text6
      omega
  · simp
set_option maxRecDepth 100000 in
theorem numText_len (n : Int) (h0 : 0 ≤ n) (h1 : n ≤ 128) : (numText n).length ≤ 3 := by
  have h := dec_len 3 n.natAbs (by omega)
  unfold numText
  split
  · simp
  · rw [if_neg (by omega)]
    exact h
set_option maxRecDepth 100000 in
theorem has_bits' {p : Pf} (hp : p.ok = true) (hz : ¬ p = Pf.zero) : 0 ≤ p.len ∧ p.len ≤ p.base.bits := by
  simp only [Pf.ok, hz, decide_false, Bool.false_or, Bool.and_eq_true, decide_eq_true_eq] at hp
  exact hp.1.2
set_option maxRecDepth 100000 in
theorem Pf.ok_len {p : Pf} (h : p.ok = true) : 0 ≤ p.len ∧ p.len ≤ 128 := by
  by_cases hz : p = Pf.zero
  · subst hz; decide
  · have := has_bits' h hz
    have := bits_bd p.base
    omega
def PTextOut (p : Pf) (w : World) (e : Ending) (w' : World) : Prop := e = .returned (.string (strOf p.text)) ∧ Below w.heap.size w w'
set_option maxRecDepth 100000 in
theorem ptext_no {p : Pf} (h : p.ok = false) : p.text = [] := by simp [Pf.text, h]
set_option maxRecDepth 100000 in
theorem ptext_all {p : Pf} (h : p.ok = true) (hz : p = Pf.zero) : p.text = [97, 110, 121] := by unfold Pf.text; rw [h, if_pos rfl, if_pos hz]
set_option maxRecDepth 100000 in
theorem ptext_in {p : Pf} (h : p.ok = true) (hz : ¬ p = Pf.zero) : p.text = p.base.text ++ 47 :: numText p.len := by simp [Pf.text, h, hz]

set_option maxRecDepth 100000 in
set_option maxHeartbeats 400000 in
theorem specPText_no (p : Pf) (hp : p.ok = false) (w : World) : Calls Tryd.prog 15 #[.agg #[.int .i64 p.base.k, .int .i64 p.base.a, .int .i64 p.base.b, .int .i64 p.base.c, .int .i64 p.base.d, .int .i64 p.len]] w (PTextOut p w) := by
  have pk := specPrefixOk p
  rw [hp] at pk
  have PK := Lib.hid pk
  clear pk
  have E := Lib.hid (ptext_no hp)
  clear hp
  go_enter Tryd.func15, Tryd.ntmps15
  go_wp2_with fail
  refine (PK.out _).mono ?_
  rintro e w1 ⟨rfl, b1⟩
  go_wp2
  go_ret
  unfold PTextOut
  rw [E.out]
  exact ⟨rfl, bthen (Joins.below_alloc1 w _) b1⟩

set_option maxRecDepth 100000 in
set_option maxHeartbeats 400000 in
theorem specPText_all (p : Pf) (hp : p.ok = true) (hz : p = Pf.zero) (w : World) : Calls Tryd.prog 15 #[.agg #[.int .i64 p.base.k, .int .i64 p.base.a, .int .i64 p.base.b, .int .i64 p.base.c, .int .i64 p.base.d, .int .i64 p.len]] w (PTextOut p w) := by
  have pk := specPrefixOk p
  rw [hp] at pk
  have PK := Lib.hid pk
  clear pk
  have an := specAny p
  rw [decide_eq_true hz] at an
  have AN := Lib.hid an
  clear an
  have E := Lib.hid (ptext_all hp hz)
  clear hp hz
  go_enter Tryd.func15, Tryd.ntmps15
  go_wp2_with fail
  refine (PK.out _).mono ?_
  rintro e w1 ⟨rfl, b1⟩
  obtain ⟨c0, c1, c2, c3, c4, c5⟩ := pf_box b1
  go_wp2_with fail
  refine (AN.out _).mono ?_
  rintro e w2 ⟨rfl, b2⟩
  have b12 := bthen b1 b2
  clear c0 c1 c2 c3 c4 c5
  go_wp2
  go_ret
  unfold PTextOut
  rw [E.out]
  exact ⟨rfl, bthen (Joins.below_alloc1 w _) b12⟩

set_option maxRecDepth 100000 in
set_option maxHeartbeats 400000 in
theorem specPText_in (p : Pf) (hp : p.ok = true) (hz : ¬ p = Pf.zero) (w : World) : Calls Tryd.prog 15 #[.agg #[.int .i64 p.base.k, .int .i64 p.base.a, .int .i64 p.base.b, .int .i64 p.base.c, .int .i64 p.base.d, .int .i64 p.len]] w (PTextOut p w) := by
  have pk := specPrefixOk p
  rw [hp] at pk
  have PK := Lib.hid pk
  clear pk
  have an := specAny p
  rw [decide_eq_false hz] at an
  have AN := Lib.hid an
  clear an
  have E := Lib.hid (ptext_in hp hz)
  obtain ⟨h0, h1⟩ := p.ok_len hp
  have hNl := numText_len p.len h0 h1
  have hPl := p.base.text_len
  obtain ⟨P, hP⟩ : ∃ P, P = p.base.text := ⟨_, rfl⟩
  obtain ⟨N, hN⟩ : ∃ N, N = numText p.len := ⟨_, rfl⟩
  have at_ : ∀ v, Calls Tryd.prog 9 #[.agg #[.int .i64 p.base.k, .int .i64 p.base.a, .int .i64 p.base.b, .int .i64 p.base.c, .int .i64 p.base.d]] v fun e v' => e = .returned (.string (strOf P)) ∧ Below v.heap.size v v' := by
    intro v
    have := specAddrText p.base v
    unfold TextOut at this
    rwa [← hP] at this
  have nt : ∀ v, Calls Tryd.prog 29 #[.int .i64 p.len] v fun e v' => e = .returned (.string (strOf N)) ∧ Below v.heap.size v v' := by
    intro v
    have := specNumText p.len v (by omega)
    rwa [← hN] at this
  rw [← hP, ← hN] at E
  rw [← hP] at hPl
  rw [← hN] at hNl
  have AT := Lib.hid at_
  have NT := Lib.hid nt
  have hz1 : ¬ 9223372036854775807 < (strOf P).size + 1 := by rw [strOf_size]; omega
  have hz2 : ¬ 9223372036854775807 < (strOf P).size + 1 + (strOf N).size := by rw [strOf_size, strOf_size]; omega
  clear hp hz at_ nt hP hN h0 h1
  go_enter Tryd.func15, Tryd.ntmps15
  go_wp2_with fail
  refine (PK.out _).mono ?_
  rintro e w1 ⟨rfl, b1⟩
  obtain ⟨c0, c1, c2, c3, c4, c5⟩ := pf_box b1
  go_wp2_with fail
  refine (AN.out _).mono ?_
  rintro e w2 ⟨rfl, b2⟩
  have b12 := bthen b1 b2
  clear c0 c1 c2 c3 c4 c5
  obtain ⟨c0, c1, c2, c3, c4, c5⟩ := pf_box b12
  have k0 := cell_regrown c0
  have k1 := cell_regrown c1
  have k2 := cell_regrown c2
  have k3 := cell_regrown c3
  have k4 := cell_regrown c4
  have k5 := cell_regrown c5
  go_wp2_with fail
  refine wp_region_quiet_below (by kernel_rfl) (by kernel_rfl) ?_
  repeat (go_big_quiet_step (first | (go_at_call 9; exact Calls.regrown_of (AT.out _)) | (go_at_call 29; exact Calls.regrown_of (NT.out _))))
  refine wpQuiet_nil ?_
  intro w3 hw3
  obtain ⟨⟨dq, osq⟩, hw3⟩ := hw3
  have b3 := below_regrown w2 dq osq
  rw [← hw3] at b3
  clear hw3 k0 k1 k2 k3 k4 k5 c0 c1 c2 c3 c4 c5
  go_wp2
  go_ret
  unfold PTextOut
  rw [E.out, show P ++ 47 :: N = (P ++ [47]) ++ N by simp, strOf_append, strOf_append]
  exact ⟨rfl, bthen (bthen (Joins.below_alloc1 w _) b12) b3⟩

set_option maxRecDepth 100000 in
theorem specPrefixText (p : Pf) (w : World) : Calls Tryd.prog 15 #[.agg #[.int .i64 p.base.k, .int .i64 p.base.a, .int .i64 p.base.b, .int .i64 p.base.c, .int .i64 p.base.d, .int .i64 p.len]] w (PTextOut p w) := by
  cases hp : p.ok
  · exact specPText_no p hp w
  · by_cases hz : p = Pf.zero
    · exact specPText_all p hp hz w
    · exact specPText_in p hp hz w

set_option maxRecDepth 100000 in
set_option maxHeartbeats 400000 in
theorem implPText_no (p : Pf) (hp : p.ok = false) (w : World) : Calls Tryd.prog 17 #[.agg #[.int .i64 p.base.k, .int .i64 p.base.a, .int .i64 p.base.b, .int .i64 p.base.c, .int .i64 p.base.d, .int .i64 p.len]] w (PTextOut p w) := by
  have pk := implPrefixOk p
  rw [hp] at pk
  have PK := Lib.hid pk
  clear pk
  have E := Lib.hid (ptext_no hp)
  clear hp
  go_enter Tryd.func17, Tryd.ntmps17
  go_wp2_with fail
  refine (PK.out _).mono ?_
  rintro e w1 ⟨rfl, b1⟩
  go_wp2
  go_ret
  unfold PTextOut
  rw [E.out]
  exact ⟨rfl, bthen (Joins.below_alloc1 w _) b1⟩

set_option maxRecDepth 100000 in
set_option maxHeartbeats 400000 in
theorem implPText_all (p : Pf) (hp : p.ok = true) (hz : p = Pf.zero) (w : World) : Calls Tryd.prog 17 #[.agg #[.int .i64 p.base.k, .int .i64 p.base.a, .int .i64 p.base.b, .int .i64 p.base.c, .int .i64 p.base.d, .int .i64 p.len]] w (PTextOut p w) := by
  have pk := implPrefixOk p
  rw [hp] at pk
  have PK := Lib.hid pk
  clear pk
  have hq := eq_pf p
  rw [decide_eq_true hz] at hq
  have E := Lib.hid (ptext_all hp hz)
  clear hp hz
  go_enter Tryd.func17, Tryd.ntmps17
  go_wp2_with fail
  refine (PK.out _).mono ?_
  rintro e w1 ⟨rfl, b1⟩
  have b12 := b1
  obtain ⟨c0, c1, c2, c3, c4, c5⟩ := pf_box b12
  go_wp2
  go_ret
  unfold PTextOut
  rw [E.out]
  exact ⟨rfl, bthen (Joins.below_alloc1 w _) b12⟩

set_option maxRecDepth 100000 in
set_option maxHeartbeats 400000 in
theorem implPText_in (p : Pf) (hp : p.ok = true) (hz : ¬ p = Pf.zero) (w : World) (ht : Tabs w) : Calls Tryd.prog 17 #[.agg #[.int .i64 p.base.k, .int .i64 p.base.a, .int .i64 p.base.b, .int .i64 p.base.c, .int .i64 p.base.d, .int .i64 p.len]] w (PTextOut p w) := by
  have pk := implPrefixOk p
  rw [hp] at pk
  have PK := Lib.hid pk
  clear pk
  have hq := eq_pf p
  rw [decide_eq_false hz] at hq
  have E := Lib.hid (ptext_in hp hz)
  obtain ⟨h0, h1⟩ := p.ok_len hp
  have hNl := numText_len p.len h0 h1
  have hPl := p.base.text_len
  obtain ⟨P, hP⟩ : ∃ P, P = p.base.text := ⟨_, rfl⟩
  obtain ⟨N, hN⟩ : ∃ N, N = numText p.len := ⟨_, rfl⟩
  have at_ : ∀ v, Tabs v → Calls Tryd.prog 11 #[.agg #[.int .i64 p.base.k, .int .i64 p.base.a, .int .i64 p.base.b, .int .i64 p.base.c, .int .i64 p.base.d]] v fun e v' => e = .returned (.string (strOf P)) ∧ Below v.heap.size v v' := by
    intro v hv
    have := implAddrText p.base v hv
    unfold TextOut at this
    rwa [← hP] at this
  have nt : ∀ v, Tabs v → Calls Tryd.prog 31 #[.int .i64 p.len] v fun e v' => e = .returned (.string (strOf N)) ∧ Below v.heap.size v v' := by
    intro v hv
    have := implNumText p.len v (by omega) (by omega) hv.ten
    rwa [← hN] at this
  have HT := Lib.hid ht
  clear ht
  rw [← hP, ← hN] at E
  rw [← hP] at hPl
  rw [← hN] at hNl
  have AT := Lib.hid at_
  have NT := Lib.hid nt
  have hz1 : ¬ 9223372036854775807 < (strOf P).size + 1 := by rw [strOf_size]; omega
  have hz2 : ¬ 9223372036854775807 < (strOf P).size + 1 + (strOf N).size := by rw [strOf_size, strOf_size]; omega
  clear hp hz at_ nt hP hN h0 h1
  go_enter Tryd.func17, Tryd.ntmps17
  go_wp2_with fail
  refine (PK.out _).mono ?_
  rintro e w1 ⟨rfl, b1⟩
  have b12 := b1
  have T2 := Lib.hid (HT.out.on (bthen (Joins.below_alloc1 w _) b12))
  obtain ⟨c0, c1, c2, c3, c4, c5⟩ := pf_box b12
  have k0 := cell_regrown c0
  have k1 := cell_regrown c1
  have k2 := cell_regrown c2
  have k3 := cell_regrown c3
  have k4 := cell_regrown c4
  have k5 := cell_regrown c5
  go_wp2_with fail
  refine wp_region_quiet_below (by kernel_rfl) (by kernel_rfl) ?_
  repeat (go_big_quiet_step (first | (go_at_call 11; exact Calls.regrown_of (AT.out _ (T2.out.on (below_regrown w1 _ _)))) | (go_at_call 31; exact Calls.regrown_of (NT.out _ (T2.out.on (below_regrown w1 _ _))))))
  refine wpQuiet_nil ?_
  intro w3 hw3
  obtain ⟨⟨dq, osq⟩, hw3⟩ := hw3
  have b3 := below_regrown w1 dq osq
  rw [← hw3] at b3
  clear hw3 k0 k1 k2 k3 k4 k5 c0 c1 c2 c3 c4 c5
  go_wp2
  go_ret
  unfold PTextOut
  rw [E.out, show P ++ 47 :: N = (P ++ [47]) ++ N by simp, strOf_append, strOf_append]
  exact ⟨rfl, bthen (bthen (Joins.below_alloc1 w _) b12) b3⟩

set_option maxRecDepth 100000 in
theorem implPrefixText (p : Pf) (w : World) (ht : Tabs w) : Calls Tryd.prog 17 #[.agg #[.int .i64 p.base.k, .int .i64 p.base.a, .int .i64 p.base.b, .int .i64 p.base.c, .int .i64 p.base.d, .int .i64 p.len]] w (PTextOut p w) := by
  cases hp : p.ok
  · exact implPText_no p hp w
  · by_cases hz : p = Pf.zero
    · exact implPText_all p hp hz w
    · exact implPText_in p hp hz w ht

end Go.Proofs.YtckakpcjbndijabDoor
namespace Go.Proofs.YtckakpcjbndijabDoor
open Go.RowKit

/-- What an address's text and a length's text are read as. -/
def pfOf (a r : List UInt8) : Pf := ⟨(rdA a).getD Ad.zero, numR r⟩
def rdQ (a r : List UInt8) : Option Pf := if (rdA a).isSome = true ∧ okNum r = true ∧ (pfOf a r).ok = true then some (pfOf a r) else none
def cutA (s : List UInt8) : List UInt8 := (Lib.cut s [47]).1
def cutR (s : List UInt8) : List UInt8 := (Lib.cut s [47]).2.1
/-- What a prefix's text is read as. -/
def rdP (s : List UInt8) : Option Pf := if s = [97, 110, 121] then some Pf.zero else rdQ (cutA s) (cutR s)
set_option maxRecDepth 100000 in
theorem rdQ_no1 {a r : List UInt8} (h : (rdA a).isSome = false) : rdQ a r = none := by simp [rdQ, h]
set_option maxRecDepth 100000 in
theorem rdQ_no2 {a r : List UInt8} (h : okNum r = false) : rdQ a r = none := by simp [rdQ, h]
set_option maxRecDepth 100000 in
theorem rdQ_no3 {a r : List UInt8} (h : (pfOf a r).ok = false) : rdQ a r = none := by simp [rdQ, h]
set_option maxRecDepth 100000 in
theorem rdQ_yes {a r : List UInt8} (h1 : (rdA a).isSome = true) (h2 : okNum r = true) (h3 : (pfOf a r).ok = true) : rdQ a r = some (pfOf a r) := by simp [rdQ, h1, h2, h3]
set_option maxRecDepth 100000 in
theorem cut_cases (s : List UInt8) : (47 ∉ s ∧ cutA s = s ∧ cutR s = []) ∨ ∃ a r, s = a ++ 47 :: r ∧ 47 ∉ a ∧ cutA s = a ∧ cutR s = r := by
  rcases index_one 47 s with ⟨h1, h2⟩ | ⟨a, r, rfl, h2, h3⟩
  · exact .inl ⟨h2, by simp [cutA, Lib.cut, h1], by simp [cutR, Lib.cut, h1]⟩
  · refine .inr ⟨a, r, rfl, h2, ?_, ?_⟩
    · simp [cutA, Lib.cut, h3]
    · simp [cutR, Lib.cut, h3]
set_option maxRecDepth 100000 in
theorem okNum_dig_all {r : List UInt8} (h : okNum r = true) : r.all isDig = true := by
  simp only [okNum, Bool.and_eq_true] at h
  exact h.1.2
set_option maxRecDepth 100000 in
theorem okNum_no47 {r : List UInt8} (h : (47 : UInt8) ∈ r) : okNum r = false := by
  cases e : okNum r
  · rfl
  · have := List.all_eq_true.1 (okNum_dig_all e) 47 h
    simp [isDig] at this
set_option maxRecDepth 100000 in
theorem okNum_nil : okNum [] = false := rfl
set_option maxRecDepth 100000 in
theorem rdQ_none_of {a r : List UInt8} (h : ∀ x, rdA a = some x → okNum r = true → (pfOf a r).ok = true → False) : rdQ a r = none := by
  cases e1 : rdA a with
  | none => exact rdQ_no1 (by rw [e1]; rfl)
  | some x =>
    cases e2 : okNum r
    · exact rdQ_no2 e2
    · cases e3 : (pfOf a r).ok
      · exact rdQ_no3 e3
      · exact (h x e1 e2 e3).elim
set_option maxRecDepth 100000 in
theorem rdA_len {a : List UInt8} {x : Ad} (h : rdA a = some x) : a.length ≤ 39 := by
  by_cases hl : 39 < a.length
  · rw [read_long hl] at h
    cases h
  · omega
set_option maxRecDepth 100000 in
theorem num_short {r : List UInt8} (h : okNum r = true) (hv : numR r ≤ 128) : r.length ≤ 3 := by
  have e : numR r = (val r : Int) := by rw [numR, h]; rfl
  rw [e] at hv
  simp only [okNum, Bool.and_eq_true, decide_eq_true_eq, Bool.or_eq_true, ne_eq] at h
  have e2 := numText_val r h.1.2 h.1.1.1 h.2
  have := numText_len (val r : Int) (by omega) hv
  rw [e2] at this
  exact this
set_option maxRecDepth 100000 in
theorem rdP_any {s : List UInt8} (h : s = [97, 110, 121]) : rdP s = some Pf.zero := if_pos h
set_option maxRecDepth 100000 in
theorem rdP_else {s : List UInt8} (h : ¬ s = [97, 110, 121]) : rdP s = rdQ (cutA s) (cutR s) := if_neg h
set_option maxRecDepth 100000 in
theorem rdP_long {s : List UInt8} (h : ¬ s = [97, 110, 121]) (hl : 43 < s.length) : rdP s = none := by
  rw [rdP_else h]
  refine rdQ_none_of fun x e1 e2 e3 => ?_
  have h1 := rdA_len e1
  have h2 := (Pf.ok_len e3).2
  have h3 := num_short e2 h2
  rcases cut_cases s with ⟨_, _, hr⟩ | ⟨a, r, rfl, _, ha, hr⟩
  · rw [hr, okNum_nil] at e2
    cases e2
  · rw [ha] at h1
    rw [hr] at h3
    simp at hl
    omega
set_option maxRecDepth 100000 in
theorem rdP_parts {s : List UInt8} (h : ¬ s = [97, 110, 121]) (hl : ¬ (splitC 47 s).length = 2) : rdP s = none := by
  rw [rdP_else h]
  rcases cut_cases s with ⟨_, _, hr⟩ | ⟨a, r, rfl, h2, ha, hr⟩
  · rw [hr]
    exact rdQ_no2 okNum_nil
  · rw [hr]
    refine rdQ_no2 (okNum_no47 ?_)
    rw [split_cut 47 r a h2] at hl
    by_cases hm : (47 : UInt8) ∈ r
    · exact hm
    · rw [split_one 47 r hm] at hl
      exact absurd rfl hl
set_option maxRecDepth 100000 in
theorem rdP_two {s : List UInt8} (hl : (splitC 47 s).length = 2) : splitC 47 s = [cutA s, cutR s] := by
  rcases cut_cases s with ⟨h2, _, _⟩ | ⟨a, r, rfl, h2, ha, hr⟩
  · rw [split_one 47 s h2] at hl
    cases hl
  · rw [split_cut 47 r a h2] at hl
    rw [split_cut 47 r a h2, ha, hr]
    by_cases hm : (47 : UInt8) ∈ r
    · obtain ⟨a2, r2, e, h3⟩ : ∃ a2 r2, r = a2 ++ 47 :: r2 ∧ 47 ∉ a2 := by
        rcases index_one 47 r with ⟨_, hn⟩ | ⟨a2, r2, e, h3, _⟩
        · exact absurd hm hn
        · exact ⟨a2, r2, e, h3⟩
      rw [e, split_cut 47 r2 a2 h3] at hl
      have := split_len_pos 47 r2
      simp only [List.length_cons] at hl
      omega
    · rw [split_one 47 r hm]
set_option maxRecDepth 100000 in
theorem cut_size (s : List UInt8) : (cutA s).length ≤ s.length ∧ (cutR s).length ≤ s.length := by
  rcases cut_cases s with ⟨_, ha, hr⟩ | ⟨a, r, rfl, _, ha, hr⟩
  · rw [ha, hr]; simp
  · rw [ha, hr]; simp; omega

def PReadOut (r : Option Pf) (w : World) (e : Ending) (w' : World) : Prop := e = .returned (.tuple #[.agg #[.int .i64 (r.getD Pf.zero).base.k, .int .i64 (r.getD Pf.zero).base.a, .int .i64 (r.getD Pf.zero).base.b, .int .i64 (r.getD Pf.zero).base.c, .int .i64 (r.getD Pf.zero).base.d, .int .i64 (r.getD Pf.zero).len], .bool r.isSome]) ∧ Below w.heap.size w w'
set_option maxRecDepth 100000 in
theorem preadOut_no {r : Option Pf} {w w' : World} (h : r = none) (hb : Below w.heap.size w w') : PReadOut r w (.returned (.tuple #[.agg #[.int .i64 0, .int .i64 0, .int .i64 0, .int .i64 0, .int .i64 0, .int .i64 0], .bool false])) w' := by
  subst h
  exact ⟨rfl, hb⟩
set_option maxRecDepth 100000 in
theorem preadOut_yes {r : Option Pf} {y : Pf} {w w' : World} (h : r = some y) (hb : Below w.heap.size w w') : PReadOut r w (.returned (.tuple #[.agg #[.int .i64 y.base.k, .int .i64 y.base.a, .int .i64 y.base.b, .int .i64 y.base.c, .int .i64 y.base.d, .int .i64 y.len], .bool true])) w' := by
  subst h
  exact ⟨rfl, hb⟩
set_option maxRecDepth 100000 in
theorem preadOut_any {r : Option Pf} {w w' : World} (h : r = some Pf.zero) (hb : Below w.heap.size w w') : PReadOut r w (.returned (.tuple #[.agg #[.int .i64 0, .int .i64 0, .int .i64 0, .int .i64 0, .int .i64 0, .int .i64 0], .bool true])) w' := by
  subst h
  exact ⟨rfl, hb⟩

set_option maxRecDepth 100000 in
/-- The cells of a block of six that may be written. -/
theorem row6 {w : World} {g : Nat} {v0 v1 v2 v3 v4 v5 : Value} {t : TypeId} (h : w.heap[g]? = some (.cells #[v0, v1, v2, v3, v4, v5] t (0, 0))) :
    (w.cell? ⟨g, 0, none⟩ = some v0 ∧ w.cell? ⟨g, 1, none⟩ = some v1 ∧ w.cell? ⟨g, 2, none⟩ = some v2 ∧ w.cell? ⟨g, 3, none⟩ = some v3 ∧ w.cell? ⟨g, 4, none⟩ = some v4 ∧ w.cell? ⟨g, 5, none⟩ = some v5) ∧
      (w.frozen? ⟨g, 0, none⟩ = false ∧ w.frozen? ⟨g, 1, none⟩ = false ∧ w.frozen? ⟨g, 2, none⟩ = false ∧ w.frozen? ⟨g, 3, none⟩ = false ∧ w.frozen? ⟨g, 4, none⟩ = false ∧ w.frozen? ⟨g, 5, none⟩ = false) :=
  ⟨⟨cell_of_row w g 0 _ _ _ h, cell_of_row w g 1 _ _ _ h, cell_of_row w g 2 _ _ _ h, cell_of_row w g 3 _ _ _ h, cell_of_row w g 4 _ _ _ h, cell_of_row w g 5 _ _ _ h⟩,
    ⟨frozen_of_row w g 0 _ _ h, frozen_of_row w g 1 _ _ h, frozen_of_row w g 2 _ _ h, frozen_of_row w g 3 _ _ h, frozen_of_row w g 4 _ _ h, frozen_of_row w g 5 _ _ h⟩⟩
set_option maxRecDepth 100000 in
theorem set6 {w : World} {g : Nat} {a0 a1 a2 a3 a4 a5 : Value} {t : TypeId} (v0 v1 v2 v3 v4 v5 : Value) (h : w.heap[g]? = some (.cells #[a0, a1, a2, a3, a4, a5] t (0, 0))) :
    ((((((w.setCell ⟨g, 0, none⟩ v0).setCell ⟨g, 1, none⟩ v1).setCell ⟨g, 2, none⟩ v2).setCell ⟨g, 3, none⟩ v3).setCell ⟨g, 4, none⟩ v4).setCell ⟨g, 5, none⟩ v5).heap[g]? = some (.cells #[v0, v1, v2, v3, v4, v5] t (0, 0)) :=
  heap_setCell_same _ g 5 #[v0, v1, v2, v3, v4, a5] t v5 (heap_setCell_same _ g 4 #[v0, v1, v2, v3, a4, a5] t v4 (heap_setCell_same _ g 3 #[v0, v1, v2, a3, a4, a5] t v3 (heap_setCell_same _ g 2 #[v0, v1, a2, a3, a4, a5] t v2 (heap_setCell_same _ g 1 #[v0, a1, a2, a3, a4, a5] t v1 (heap_setCell_same _ g 0 _ t v0 h)))))
set_option maxRecDepth 100000 in
theorem below6 {w a : World} {g : Nat} {v0 v1 v2 v3 v4 v5 : Value} (h : Below w.heap.size w a) (hg : w.heap.size ≤ g) : Below w.heap.size w ((((((a.setCell ⟨g, 0, none⟩ v0).setCell ⟨g, 1, none⟩ v1).setCell ⟨g, 2, none⟩ v2).setCell ⟨g, 3, none⟩ v3).setCell ⟨g, 4, none⟩ v4).setCell ⟨g, 5, none⟩ v5) :=
  (((((h.setCell (p := ⟨g, 0, none⟩) hg _).setCell (p := ⟨g, 1, none⟩) hg _).setCell (p := ⟨g, 2, none⟩) hg _).setCell (p := ⟨g, 3, none⟩) hg _).setCell (p := ⟨g, 4, none⟩) hg _).setCell (p := ⟨g, 5, none⟩) hg _
set_option maxRecDepth 100000 in
theorem info_pfx : (Tryd.prog.info? 36).map (·.size) = some 6 := by kernel_rfl
set_option maxRecDepth 100000 in
theorem cutCall (s : ByteArray) (m : Int) (w : World) (hs : s.size ≤ 1048576) (hm : w.cell? ⟨1, 0, none⟩ = some (.int .i64 m)) : Calls Tryd.prog 45 #[.string s, .string ⟨#[47]⟩] w fun e w' => ∃ b, e = .returned (.tuple #[.string (strOf (cutA s.data.toList)), .string (strOf (cutR s.data.toList)), .bool b]) ∧ Below w.heap.size w w' := by
  refine (Tryd.strings_Cut s ⟨#[47]⟩ m w (by omega) hm).mono ?_
  rintro e w' ⟨rfl, n, rfl⟩
  exact ⟨_, rfl, below_drewN (Below.refl _ _) _⟩
end Go.Proofs.YtckakpcjbndijabDoor
namespace Go.Proofs.YtckakpcjbndijabDoor
open Go.RowKit

set_option maxRecDepth 100000 in
theorem rd4_len {s : List UInt8} (h : ¬ (splitC 46 s).length = 4) : (rd4 s).map ofA = none := by simp [rd4, h]
set_option maxRecDepth 100000 in
theorem rd4_bad {s p : List UInt8} {i : Nat} (hp : (splitC 46 s)[i]? = some p) (h : part4 p = false) : (rd4 s).map ofA = none := by
  have : (splitC 46 s).all part4 = false := by
    rw [List.all_eq_false]
    exact ⟨p, List.mem_of_getElem? hp, by simp [h]⟩
  simp [rd4, this]
set_option maxRecDepth 100000 in
theorem rd4_all {s : List UInt8} (h : (splitC 46 s).length = 4) (ha : ∀ p ∈ splitC 46 s, part4 p = true) : (rd4 s).map ofA = some (ofA ((splitC 46 s).map byte4)) := by
  have : (splitC 46 s).all part4 = true := List.all_eq_true.2 ha
  simp [rd4, this, h]
set_option maxRecDepth 100000 in
theorem part4_cases (p : List UInt8) : (okNum p = false ∧ part4 p = false) ∨ (∃ V : Nat, okNum p = true ∧ val p = V ∧ 255 < V ∧ V ≤ 1000000000000 ∧ part4 p = false) ∨ (okNum p = true ∧ part4 p = true ∧ val p = (byte4 p).toNat) := by
  cases h : okNum p
  · exact .inl ⟨rfl, by simp [part4, h]⟩
  · right
    by_cases hv : val p ≤ 255
    · exact .inr ⟨rfl, by simp [part4, h, hv], by simp [byte4]; omega⟩
    · refine .inl ⟨val p, rfl, rfl, by omega, ?_, by simp [part4, h, hv]⟩
      simp only [okNum, Bool.and_eq_true, decide_eq_true_eq] at h
      have h1 := val_lt p h.1.2 h.1.1.2
      omega

set_option maxRecDepth 100000 in
set_option maxHeartbeats 1000000 in
theorem implFour_len (s : ByteArray) (m : Int) (w : World) (hs : s.size ≤ 1048576) (hm : w.cell? ⟨1, 0, none⟩ = some (.int .i64 m)) (h4 : ¬ (splitC 46 s.data.toList).length = 4) :
    Calls Tryd.prog 41 #[.string s] w (ReadOut ((rd4 s.data.toList).map ofA) w) := by
  have HN := Lib.hid (rd4_len h4)
  obtain ⟨ps, hps⟩ : ∃ ps, ps = splitC 46 s.data.toList := ⟨_, rfl⟩
  obtain ⟨N, hN⟩ : ∃ N, ps.length = N := ⟨_, rfl⟩
  have h5 : ((N : Int) == 4) = false := by rw [hps] at hN; simp; omega
  have h6 : ((N : Int) != 4) = true := by rw [hps] at hN; simp; omega
  have sp : ∀ v : World, v.cell? ⟨1, 0, none⟩ = some (.int .i64 m) → Calls Tryd.prog 67 #[.string s, .string ⟨#[46]⟩] v fun e w' => ∃ g, e = .returned (.slice (some ⟨g, 0, none⟩) N N) ∧ (∀ (j : Nat) (p : List UInt8), ps[j]? = some p → w'.cell? ⟨g, j, none⟩ = some (.string (strOf p))) ∧ Below v.heap.size v w' := by
    intro v hv
    have hh := splitCall 46 s m v hs hv
    unfold SplitOut at hh
    rwa [← hps, hN] at hh
  have SP := Lib.hid sp
  have HM := Lib.hid (fun o : Obj => cell_on (Joins.below_alloc1 w o) hm)
  clear h4 hps hN sp hm
  go_enter Tryd.func41, Tryd.ntmps41
  go_wp2_with fail
  refine (SP.out _ (HM.out _)).mono ?_
  rintro e w1 ⟨g, rfl, _, b1⟩
  obtain ⟨⟨c0, c1, c2, c3, c4⟩, f0, f1, f2, f3, f4⟩ := row5 (new_row b1)
  go_wp2
  (try simp only [Exit.inBlock, Exit.then])
  refine bodyPost_ret (v := .tuple #[.agg #[.int .i64 0, .int .i64 0, .int .i64 0, .int .i64 0, .int .i64 0], .bool false]) ?_ rfl (readOut_no HN.out (by have := bthen (Joins.below_alloc1 w _) b1; go_grown))
  refine res_cell_tmp Tryd.results41 _ _ _ w.heap.size _ ?_ (run_loadVar_row _ _ 25 25 _ (0, 0) _ (set5 _ _ _ _ _ (new_row b1)) Tryd.underlying25 rfl info_addr)
  rfl

set_option maxRecDepth 100000 in
set_option maxHeartbeats 2000000 in
theorem implFour_go (s : ByteArray) (m : Int) (w : World) (hs : s.size ≤ 1048576) (hm : w.cell? ⟨1, 0, none⟩ = some (.int .i64 m)) (h4 : (splitC 46 s.data.toList).length = 4) :
    Calls Tryd.prog 41 #[.string s] w (ReadOut ((rd4 s.data.toList).map ofA) w) := by
  have HB := Lib.hid (fun (i : Nat) (p : List UInt8) (hp : (splitC 46 s.data.toList)[i]? = some p) (h : part4 p = false) => rd4_bad hp h)
  have HA := Lib.hid (fun (ha : ∀ p ∈ splitC 46 s.data.toList, part4 p = true) => rd4_all h4 ha)
  have hsz := fun (p : List UInt8) (hp : p ∈ splitC 46 s.data.toList) => split_size 46 s.data.toList p hp
  obtain ⟨ps, hps⟩ : ∃ ps, ps = splitC 46 s.data.toList := ⟨_, rfl⟩
  have sp : ∀ v : World, v.cell? ⟨1, 0, none⟩ = some (.int .i64 m) → Calls Tryd.prog 67 #[.string s, .string ⟨#[46]⟩] v fun e w' => ∃ g, e = .returned (.slice (some ⟨g, 0, none⟩) 4 4) ∧ (∀ (j : Nat) (p : List UInt8), ps[j]? = some p → w'.cell? ⟨g, j, none⟩ = some (.string (strOf p))) ∧ Below v.heap.size v w' := by
    intro v hv
    have hh := splitCall 46 s m v hs hv
    unfold SplitOut at hh
    rwa [h4, ← hps] at hh
  rw [← hps] at HB HA hsz h4
  have HSZ := Lib.hid hsz
  have H4 := Lib.hid h4
  have HS := Lib.hid (show s.data.toList.length ≤ 1048576 from hs)
  obtain ⟨R, hR⟩ : ∃ R, R = (rd4 s.data.toList).map ofA := ⟨_, rfl⟩
  rw [← hR] at HB HA ⊢
  have SP := Lib.hid sp
  have HM := Lib.hid (fun o : Obj => cell_on (Joins.below_alloc1 w o) hm)
  clear h4 hps sp hm hsz hR
  go_enter Tryd.func41, Tryd.ntmps41
  go_wp2_with fail
  refine (SP.out _ (HM.out _)).mono ?_
  rintro e w1 ⟨g, rfl, hcs, b1⟩
  have HC := Lib.hid hcs
  have NR := Lib.hid (new_row b1)
  have hz1 : w.heap.size < w1.heap.size := by have := b1.size; simp at this; omega
  have B1 := Lib.hid (bthen (Joins.below_alloc1 w _) b1)
  clear hcs b1
  go_wp2_with fail
  go_loopw [5, 18] (fun v q wr => ∃ i : Nat, i ≤ 4 ∧ q = .int .i64 i ∧ Hid (∀ p ∈ ps.take i, part4 p = true) ∧ Hid (wr.ownsRow w1.heap.size 5 1 v ((ps.take i).map byte4).length (cellsOf ((ps.take i).map byte4))) ∧ Hid (Below w1.heap.size w1 wr)) (fun _ q _ => 4 - (intOf q).toNat)
  case atStart => exact ⟨0, Nat.zero_le _, rfl, Lib.hid (by simp), Lib.hid ⟨rfl, .inl ⟨rfl, rfl⟩⟩, Lib.hid (Below.refl _ _)⟩
  case round =>
    obtain ⟨i, hi, rfl, ha, ho, hb⟩ := hrel
    by_cases hlt : i < 4
    · have hltI : (i : Int) < 4 := by omega
      have hil : i < ps.length := by rw [H4.out]; exact hlt
      obtain ⟨p, hp⟩ : ∃ p, ps[i]? = some p := ⟨_, List.getElem?_eq_getElem hil⟩
      have hc : wr.cell? ⟨g, i, none⟩ = some (.string (strOf p)) := cell_on hb.out (HC.out i p hp)
      have hpl : (strOf p).size ≤ 1048576 := Nat.le_trans (HSZ.out p (List.mem_of_getElem? hp)) HS.out
      have nr := Lib.hid (fun v : World => implNumRead (strOf p) v hpl)
      have HP := Lib.hid hp
      have hrow := Lib.hid (row_on hb.out hz1 NR.out)
      obtain ⟨⟨c0, c1, c2, c3, c4⟩, f0, f1, f2, f3, f4⟩ := row5 hrow.out
      have B2 := Lib.hid (B1.out.trans (hb.out.mono B1.out.size))
      rcases part4_cases p with ⟨h1, h2⟩ | ⟨V, h1, h2, h3, h3b, h5⟩ | ⟨h1, h2, h3⟩
      · have nc := Lib.hid (show ∀ v : World, Calls Tryd.prog 46 #[.string (strOf p)] v fun e w' => e = .returned (.tuple #[.int .i64 0, .bool false]) ∧ Below v.heap.size v w' from fun v => by
          have hh := nr.out v
          unfold NumPost at hh
          rwa [show okNum (strOf p).data.toList = false from h1, numR, show okNum (strOf p).data.toList = false from h1] at hh)
        have HN := Lib.hid (HB.out i p hp h2)
        clear hp h1 h2 hpl
        go_wp2_with fail
        refine (nc.out _).mono ?_
        rintro e w2 ⟨rfl, b2⟩
        have hrow2 := row_on b2 (row_lt hrow.out) hrow.out
        obtain ⟨⟨c0, c1, c2, c3, c4⟩, f0, f1, f2, f3, f4⟩ := row5 hrow2
        have B3 := bthen B2.out b2
        go_wp2
        (try simp only [Exit.inBlock, Exit.then])
        refine bodyPost_ret (v := .tuple #[.agg #[.int .i64 0, .int .i64 0, .int .i64 0, .int .i64 0, .int .i64 0], .bool false]) ?_ rfl (readOut_no HN.out (by go_grown))
        refine res_cell_tmp Tryd.results41 _ _ _ w.heap.size _ ?_ (run_loadVar_row _ _ 25 25 _ (0, 0) _ (set5 _ _ _ _ _ hrow2) Tryd.underlying25 rfl info_addr)
        rfl
      · have nc := Lib.hid (show ∀ v : World, Calls Tryd.prog 46 #[.string (strOf p)] v fun e w' => e = .returned (.tuple #[.int .i64 (V : Int), .bool true]) ∧ Below v.heap.size v w' from fun v => by
          have hh := nr.out v
          unfold NumPost at hh
          rwa [show okNum (strOf p).data.toList = true from h1, numR, show okNum (strOf p).data.toList = true from h1, show val (strOf p).data.toList = V from h2] at hh)
        have HN := Lib.hid (HB.out i p hp h5)
        have h3I : (255 : Int) < (V : Int) := by omega
        clear hp h1 h2 h5 hpl
        go_wp2_with fail
        refine (nc.out _).mono ?_
        rintro e w2 ⟨rfl, b2⟩
        have hrow2 := row_on b2 (row_lt hrow.out) hrow.out
        obtain ⟨⟨c0, c1, c2, c3, c4⟩, f0, f1, f2, f3, f4⟩ := row5 hrow2
        have B3 := bthen B2.out b2
        go_wp2
        (try simp only [Exit.inBlock, Exit.then])
        refine bodyPost_ret (v := .tuple #[.agg #[.int .i64 0, .int .i64 0, .int .i64 0, .int .i64 0, .int .i64 0], .bool false]) ?_ rfl (readOut_no HN.out (by go_grown))
        refine res_cell_tmp Tryd.results41 _ _ _ w.heap.size _ ?_ (run_loadVar_row _ _ 25 25 _ (0, 0) _ (set5 _ _ _ _ _ hrow2) Tryd.underlying25 rfl info_addr)
        rfl
      · obtain ⟨b, hb0⟩ : ∃ b, b = byte4 p := ⟨_, rfl⟩
        rw [← hb0] at h3
        have nc := Lib.hid (show ∀ v : World, Calls Tryd.prog 46 #[.string (strOf p)] v fun e w' => e = .returned (.tuple #[.int .i64 (b.toNat : Int), .bool true]) ∧ Below v.heap.size v w' from fun v => by
          have hh := nr.out v
          unfold NumPost at hh
          rwa [show okNum (strOf p).data.toList = true from h1, numR, show okNum (strOf p).data.toList = true from h1, show val (strOf p).data.toList = b.toNat from h3] at hh)
        have hb256 := UInt8.toNat_lt b
        have hle : ¬ (255 : Int) < (b.toNat : Int) := by omega
        have E := Lib.hid (show (ps.take (i + 1)).map byte4 = (ps.take i).map byte4 ++ [b] by
          rw [take_snoc ps i hil, List.map_append, List.map_singleton, hb0]
          rw [List.getElem?_eq_getElem hil] at hp
          rw [Option.some.inj hp])
        have ha2 := Lib.hid (show ∀ q ∈ ps.take (i + 1), part4 q = true by
          intro q hq
          rw [take_snoc ps i hil] at hq
          rcases List.mem_append.1 hq with h | h
          · exact ha.out q h
          · rw [List.mem_singleton.1 h]
            rw [List.getElem?_eq_getElem hil] at hp
            rw [Option.some.inj hp]
            exact h2)
        have hlen := Lib.hid (show ((ps.take i).map byte4).length ≤ 4 by rw [List.length_map, List.length_take]; omega)
        obtain ⟨bs, hbs⟩ : ∃ bs, bs = (ps.take i).map byte4 := ⟨_, rfl⟩
        rw [← hbs] at ho E hlen
        clear hp h1 h2 h3 hpl hb0 hbs c0 c1 c2 c3 c4 f0 f1 f2 f3 f4
        go_wp2_with fail
        refine (nc.out _).mono ?_
        rintro e w2 ⟨rfl, b2⟩
        have hlo := fun u (hu : u5.ownBlock = some u) => (ho.out.lt u hu).1
        have HLO := Lib.hid hlo
        have o2 := Lib.hid (own_below (own_below ho.out b2) (Joins.below_alloc1 w2 (.cells #[.int .u8 (b.toNat : Int)] 5)))
        have B3 := Lib.hid (hb.out.trans (b2.mono hb.out.size))
        have hz := hb.out.size
        have hz2 := b2.size
        clear hlo
        go_wp2_with (at_builtin; refine wpList_append_b rfl (.tmp 34) (.tmp 37) rfl w1.heap.size u5 bs rfl o2.out _ (some ⟨w2.heap.size, 0, none⟩) 1 1 [b] rfl rfl (RB.new w2 5 [b]) (by have := hlen.out; simp; omega) (by simp; omega) ?_; intro v3 w3 o3 g3 _)
        have R1 := Lib.hid (show w3.ownsRow w1.heap.size 5 1 v3 ((ps.take (i + 1)).map byte4).length (cellsOf ((ps.take (i + 1)).map byte4)) by rw [E.out]; exact o3)
        have R2 := Lib.hid (show Below w1.heap.size w1 w3 from (B3.out.alloc (by omega) (.cells #[.int .u8 (b.toNat : Int)] 5)).grown g3 (by simp; omega) HLO.out)
        go_wp2
        go_roundw
        case rel => exact ⟨i + 1, by omega, by go_num, ha2, R1, R2⟩
        case measure => simp [intOf]; omega
    · obtain rfl : i = 4 := by omega
      have e4 : ps.take 4 = ps := List.take_of_length_le (by rw [H4.out]; exact Nat.le_refl _)
      have HY := Lib.hid (HA.out (by have := ha.out; rwa [e4] at this))
      have o4 := ho.out
      rw [e4] at o4
      obtain ⟨bs, hbs⟩ : ∃ bs, bs = ps.map byte4 := ⟨_, rfl⟩
      have hbl : bs.length = 4 := by rw [hbs, List.length_map, H4.out]
      rw [← hbs, hbl] at o4
      rw [← hbs] at HY
      obtain ⟨A, k, rfl⟩ := own_form o4
      have ao := Lib.hid (show Calls Tryd.prog 25 #[.slice A 4 k] wr fun e w' => e = .returned (.tuple #[.agg #[.int .i64 (ofA bs).k, .int .i64 (ofA bs).a, .int .i64 (ofA bs).b, .int .i64 (ofA bs).c, .int .i64 (ofA bs).d], .bool true]) ∧ Below wr.heap.size wr w' by
        have hh := implAddrOf A 4 k bs wr (RB.of_own o4) hbl (by omega)
        unfold OfOut at hh
        rwa [show okA bs = true by simp [okA, hbl]] at hh)
      have hrow := Lib.hid (row_on hb.out hz1 NR.out)
      have B2 := Lib.hid (B1.out.trans (hb.out.mono B1.out.size))
      obtain ⟨y, hy⟩ : ∃ y, y = ofA bs := ⟨_, rfl⟩
      rw [← hy] at ao HY
      clear e4 o4 hbs hbl hy
      go_wp2_with fail
      refine ao.out.mono ?_
      rintro e w2 ⟨rfl, b2⟩
      have hrow2 := row_on b2 (row_lt hrow.out) hrow.out
      obtain ⟨⟨c0, c1, c2, c3, c4⟩, f0, f1, f2, f3, f4⟩ := row5 hrow2
      have B3 := bthen B2.out b2
      go_wp2
      (try simp only [Exit.inBlock, Exit.then])
      refine bodyPost_ret (v := .tuple #[.agg #[.int .i64 y.k, .int .i64 y.a, .int .i64 y.b, .int .i64 y.c, .int .i64 y.d], .bool true]) ?_ rfl (readOut_yes HY.out (by go_grown))
      refine res_cell_tmp Tryd.results41 _ _ _ w.heap.size _ ?_ (run_loadVar_row _ _ 25 25 _ (0, 0) _ (set5 _ _ _ _ _ hrow2) Tryd.underlying25 rfl info_addr)
      rfl

set_option maxRecDepth 100000 in
theorem implFourRead (s : ByteArray) (m : Int) (w : World) (hs : s.size ≤ 1048576) (hm : w.cell? ⟨1, 0, none⟩ = some (.int .i64 m)) : Calls Tryd.prog 41 #[.string s] w (ReadOut ((rd4 s.data.toList).map ofA) w) := by
  by_cases h4 : (splitC 46 s.data.toList).length = 4
  · exact implFour_go s m w hs hm h4
  · exact implFour_len s m w hs hm h4
end Go.Proofs.YtckakpcjbndijabDoor
namespace Go.Proofs.YtckakpcjbndijabDoor
open Go.RowKit

set_option maxRecDepth 100000 in
theorem valG_snoc (l : List UInt8) (b : UInt8) : valG (l ++ [b]) = 16 * valG l + hexV b := by simp [valG]
set_option maxRecDepth 100000 in
theorem valG_take (l : List UInt8) (k : Nat) (h : k < l.length) : valG (l.take (k + 1)) = 16 * valG (l.take k) + hexV l[k] := by rw [take_snoc l k h, valG_snoc]
set_option maxRecDepth 100000 in
theorem valG_takeS (s : ByteArray) (k : Nat) (h : k < s.size) : valG (s.data.toList.take (k + 1)) = 16 * valG (s.data.toList.take k) + hexV (s[k]'h) := valG_take s.data.toList k h
def isHx (b : UInt8) : Bool := decide (hexV b < 16)
set_option maxRecDepth 100000 in
theorem valG_lt (l : List UInt8) (h : ∀ b ∈ l, hexV b < 16) : valG l < 16 ^ l.length := by
  obtain ⟨n, hn⟩ : ∃ n, l.length = n := ⟨_, rfl⟩
  induction n generalizing l with
  | zero =>
    obtain rfl : l = [] := List.eq_nil_of_length_eq_zero hn
    simp [valG]
  | succ n ih =>
    obtain ⟨i, b, rfl⟩ : ∃ i b, l = i ++ [b] := by
      rcases List.eq_nil_or_concat l with h | ⟨i, b, h⟩
      · rw [h] at hn; cases hn
      · exact ⟨i, b, by rw [h, List.concat_eq_append]⟩
    have h1 := ih i (fun c hc => h c (by simp [hc])) (by simp at hn; omega)
    have h2 := h b (by simp)
    rw [valG_snoc, List.length_append, List.length_singleton, Nat.pow_succ]
    omega
set_option maxRecDepth 100000 in
theorem okG_len (l : List UInt8) (h : ¬ (1 ≤ l.length ∧ l.length ≤ 4)) : okG l = false := by simp [okG, h]
set_option maxRecDepth 100000 in
theorem okG_zero (l : List UInt8) (h : 1 < l.length) (hh : l.head? = some 48) : okG l = false := by simp [okG, hh, show l.length ≠ 1 by omega]
set_option maxRecDepth 100000 in
theorem okG_bad (l : List UInt8) (k : Nat) (h : k < l.length) (hd : ¬ hexV l[k] < 16) : okG l = false := by
  have : (l.all fun b => decide (hexV b < 16)) = false := by
    rw [List.all_eq_false]
    exact ⟨l[k], List.getElem_mem h, by simpa using hd⟩
  simp [okG, this]
set_option maxRecDepth 100000 in
theorem okG_badS (s : ByteArray) (k : Nat) (h : k < s.size) (hd : ¬ hexV (s[k]'h) < 16) : okG s.data.toList = false := okG_bad s.data.toList k h hd
set_option maxRecDepth 100000 in
theorem okG_yes (l : List UInt8) (h1 : 1 ≤ l.length) (h2 : l.length ≤ 4) (hd : ∀ b ∈ l, hexV b < 16) (h3 : l.length = 1 ∨ l.head? ≠ some 48) : okG l = true := by
  simp only [okG, Bool.and_eq_true, Bool.or_eq_true, decide_eq_true_eq, List.all_eq_true]
  exact ⟨⟨⟨h1, h2⟩, hd⟩, h3⟩
set_option maxRecDepth 100000 in
theorem take_all (s : ByteArray) (k : Nat) (h : k < s.size) (ha : ∀ b ∈ s.data.toList.take k, hexV b < 16) (hd : hexV (s[k]'h) < 16) : ∀ b ∈ s.data.toList.take (k + 1), hexV b < 16 := by
  intro b hb
  rw [take_snoc s.data.toList k h] at hb
  rcases List.mem_append.1 hb with h1 | h1
  · exact ha b h1
  · rw [List.mem_singleton.1 h1]
    exact hd

def grpV (l : List UInt8) : Nat := if okG l then valG l else 0
def GroupPost (l : List UInt8) (w : World) (e : Ending) (w' : World) : Prop := e = .returned (.tuple #[.int .i64 (grpV l : Int), .bool (okG l)]) ∧ Below w.heap.size w w'
set_option maxRecDepth 100000 in
theorem groupPost_no {l : List UInt8} {w w' : World} (h : okG l = false) (hb : Below w.heap.size w w') : GroupPost l w (.returned (.tuple #[.int .i64 0, .bool false])) w' := by
  refine ⟨?_, hb⟩
  rw [grpV, h]
  rfl
set_option maxRecDepth 100000 in
theorem groupPost_yes {l : List UInt8} {w w' : World} (h : okG l = true) (hb : Below w.heap.size w w') : GroupPost l w (.returned (.tuple #[.int .i64 (valG l : Int), .bool true])) w' := by
  refine ⟨?_, hb⟩
  rw [grpV, h]
  rfl
set_option maxRecDepth 100000 in
theorem or_nib64 (x d : Nat) (hx : x < 4096) (hd : d < 16) : bits .or .i64 ((x : Int) * 16) (d : Int) = (x : Int) * 16 + d := by
  have e : ((x : Int) * 16) = ((16 * x : Nat) : Int) := by omega
  have ho : 16 * x ||| d = 16 * x + d := (Nat.two_pow_add_eq_or_of_lt (i := 4) (by simpa using hd) x).symm
  have t : ∀ n : Nat, n < 65536 → (BitVec.ofInt 64 (n : Int)).toNat = n := fun n hn => by
    rw [BitVec.ofInt_natCast, BitVec.toNat_ofNat]
    exact Nat.mod_eq_of_lt (by omega)
  rw [e]
  show IntKind.i64.wrap ((BitVec.ofInt 64 ((16 * x : Nat) : Int) ||| BitVec.ofInt 64 (d : Int)).toNat : Int) = _
  rw [BitVec.toNat_or, t _ (by omega), t d (by omega), ho, IntKind.wrap_i64]
  omega

set_option maxRecDepth 100000 in
set_option maxHeartbeats 1000000 in
theorem groupRead_len (s : ByteArray) (w : World) (hs : s.size ≤ 1048576) (h : ¬ (1 ≤ s.size ∧ s.size ≤ 4)) :
    Calls Tryd.prog 68 #[.string s] w (GroupPost s.data.toList w) := by
  have hno := Lib.hid (show (s.size : Int) < 1 ∨ (4 : Int) < s.size by omega)
  have hok := Lib.hid (okG_len s.data.toList h)
  clear h
  go_enter Tryd.func68, Tryd.ntmps68
  go_wp2_with (go_at_call 70; refine (within_no _ _ _ _ hno.out).mono ?_; rintro e w' ⟨rfl, rfl⟩)
  go_ret2
  exact groupPost_no hok.out (Below.refl _ _)

set_option maxRecDepth 100000 in
set_option maxHeartbeats 1000000 in
theorem groupRead_zero (s : ByteArray) (w : World) (h1 : 1 < s.size) (h2 : s.size ≤ 4) (h0 : s[0].toNat = 48) :
    Calls Tryd.prog 68 #[.string s] w (GroupPost s.data.toList w) := by
  have hok := Lib.hid (okG_zero s.data.toList h1 (by
    rw [List.head?_eq_getElem?, List.getElem?_eq_getElem (by simpa using (show 0 < s.size by omega))]
    have : s.data.toList[0]'(by simpa using (show 0 < s.size by omega)) = s[0] := rfl
    rw [this]
    have e : s[0] = 48 := UInt8.toNat_inj.1 h0
    rw [e]))
  have h48 : ((s[0].toNat : Int) == 48) = true := by simp; omega
  clear h0
  go_enter Tryd.func68, Tryd.ntmps68
  go_wp2_with (go_at_call 70; refine (within_yes _ _ _ _ (by omega) (by omega)).mono ?_; rintro e w' ⟨rfl, rfl⟩)
  go_ret2
  exact groupPost_no hok.out (Below.refl _ _)

set_option maxRecDepth 100000 in
set_option maxHeartbeats 2000000 in
theorem groupRead_loop (s : ByteArray) (w : World) (h1 : 1 ≤ s.size) (h2 : s.size ≤ 4) (h0 : s.size = 1 ∨ s[0].toNat ≠ 48) :
    Calls Tryd.prog 68 #[.string s] w (GroupPost s.data.toList w) := by
  have hhead := Lib.hid (show s.data.toList.length = 1 ∨ s.data.toList.head? ≠ some 48 by
    rcases h0 with h | h
    · exact .inl h
    · right
      intro e
      apply h
      rw [List.head?_eq_getElem?, List.getElem?_eq_getElem (by simpa using (show 0 < s.size by omega))] at e
      have e2 : s.data.toList[0]'(by simpa using (show 0 < s.size by omega)) = s[0] := rfl
      rw [e2] at e
      injection e with e
      rw [e]
      rfl)
  have hcase : (¬ (1 : Int) < s.size) ∨ ((1 : Int) < s.size ∧ ((s[0].toNat : Int) == 48) = false) := by
    rcases h0 with h | h
    · exact .inl (by omega)
    · by_cases hone : (1 : Int) < s.size
      · exact .inr ⟨hone, by simp; omega⟩
      · exact .inl hone
  clear h0
  rcases hcase with hgt | ⟨hgt, h48⟩
  all_goals
    go_enter Tryd.func68, Tryd.ntmps68
    go_wp2_with (go_at_call 70; refine (within_yes _ _ _ _ (by omega) (by omega)).mono ?_; rintro e w' ⟨rfl, rfl⟩)
    go_loopw [4] (fun q wr => ∃ k : Nat, k ≤ s.size ∧ q = .int .i64 (valG (s.data.toList.take k) : Int) ∧ Hid (∀ b ∈ s.data.toList.take k, hexV b < 16) ∧ wr.heap[w.heap.size]? = some (.stringIter s k) ∧ Below w.heap.size w wr) (fun _ wr => s.size - wr.iterPos w.heap.size)
    case atStart => exact ⟨0, Nat.zero_le _, rfl, Lib.hid (by simp), World.iter_heap _ _ _, (Below.refl _ _).alloc (Nat.le_refl _) _⟩
    case round =>
      obtain ⟨k, hk, rfl, hall, hit, hb⟩ := hrel
      have hsz : w.heap.size < wr.heap.size := (Array.getElem?_eq_some_iff.1 hit).1
      by_cases hlt : k < s.size
      · have hv4 : valG (s.data.toList.take k) < 4096 := by
          have h := valG_lt _ hall.out
          have hl : (s.data.toList.take k).length ≤ 3 := Nat.le_trans (List.length_take_le _ _) (by omega)
          have := Nat.pow_le_pow_right (show 0 < 16 by omega) hl
          omega
        by_cases hd : hexV (s[k]'hlt) < 16
        · have hlt256 : (s[k]'hlt).toNat < 128 := by
            unfold hexV at hd
            split at hd
            · omega
            · split at hd <;> omega
          have hnx : ∀ ty, (Instr.next (.pointer (some ⟨w.heap.size, 0, none⟩)) true ty).run Tryd.prog wr = _ := fun ty => Lib.run_next_ascii_at wr w.heap.size s k ty hit hlt hlt256
          have hit2 := Lib.hid (Lib.iterAt_heap wr w.heap.size s k (k + 1) hit)
          have hb2 := Lib.hid (Lib.below_iterAt hb (k := w.heap.size) (Nat.le_refl _) s (k + 1))
          have hvt := Lib.hid (valG_takeS s k hlt)
          have hat := Lib.hid (take_all s k hlt hall.out hd)
          have hor := or_nib64 _ (hexV (s[k]'hlt)) hv4 hd
          have hit := Lib.hid hit
          go_wp2_with (go_at_call 91; refine (implDigit _ _ hd).mono ?_; rintro e w' ⟨rfl, rfl⟩)
          go_roundw
          case rel => exact ⟨k + 1, by omega, by rw [hvt.out]; go_num, Lib.hid hat.out, hit2.out, hb2.out⟩
          case measure => simp only [World.iterPos, hit2.out, hit.out]; omega
        · have hok := Lib.hid (okG_badS s k hlt hd)
          have hno : ∃ r : Nat, (Utf8.decode s k).1 = r ∧ ((r < 48 ∨ 57 < r) ∧ (r < 97 ∨ 102 < r)) ∧ r ≤ 2147483647 := by
            refine ⟨_, rfl, ?_, decode_le s k⟩
            by_cases ha : (s[k]'hlt).toNat < 128
            · rw [decode_ascii s k hlt ha]
              unfold hexV at hd
              split at hd
              · omega
              · split at hd <;> omega
            · have := (decode_high s k hlt (by omega)).1
              omega
          obtain ⟨r, hr, hr2, hr3⟩ := hno
          have hnx : ∀ ty, (Instr.next (.pointer (some ⟨w.heap.size, 0, none⟩)) true ty).run Tryd.prog wr = .ok (.tuple #[.bool true, .int .i64 k, .int .i32 r]) (wr.iterAt w.heap.size s (k + (Utf8.decode s k).2)) := fun ty => by
            rw [← hr]
            exact Lib.run_next_any_at wr w.heap.size s k ty hit hlt
          have hb2 := Lib.hid (Lib.below_iterAt hb (k := w.heap.size) (Nat.le_refl _) s (k + (Utf8.decode s k).2))
          have hr4 := Lib.hid (show ((r : Int) < 48 ∨ (57 : Int) < r) ∧ ((r : Int) < 97 ∨ (102 : Int) < r) by omega)
          clear hr hr2 hit hd hall
          go_wp2_with (go_at_call 91; refine (implDigit_no _ _ hr4.out.1 hr4.out.2).mono ?_; rintro e w' ⟨rfl, rfl⟩)
          go_ret2
          exact groupPost_no hok.out hb2.out
      · obtain rfl : k = s.size := by omega
        have hnx : ∀ ty, (Instr.next (.pointer (some ⟨w.heap.size, 0, none⟩)) true ty).run Tryd.prog wr = _ := fun ty => Lib.run_next_end_at wr w.heap.size s s.size ty hit hlt
        have et : s.data.toList.take s.size = s.data.toList := List.take_of_length_le (by simp)
        have hok := Lib.hid (okG_yes s.data.toList h1 h2 (by have := hall.out; rwa [et] at this) hhead.out)
        rw [et]
        clear hall hit et
        go_wp2
        go_ret2
        exact groupPost_yes hok.out hb

set_option maxRecDepth 100000 in
theorem implGroupRead (s : ByteArray) (w : World) (hs : s.size ≤ 1048576) : Calls Tryd.prog 68 #[.string s] w (GroupPost s.data.toList w) := by
  by_cases h : 1 ≤ s.size ∧ s.size ≤ 4
  · by_cases h0 : s.size = 1 ∨ (s[0]'(by omega)).toNat ≠ 48
    · exact groupRead_loop s w h.1 h.2 h0
    · exact groupRead_zero s w (by omega) h.2 (by omega)
  · exact groupRead_len s w hs h
end Go.Proofs.YtckakpcjbndijabDoor
namespace Go.Proofs.YtckakpcjbndijabDoor
open Go.RowKit

set_option maxRecDepth 100000 in
theorem rd6_len {s : List UInt8} (h : ¬ (splitC 58 s).length = 8) : (rd6 s).map ofA = none := by simp [rd6, h]
set_option maxRecDepth 100000 in
theorem rd6_bad {s p : List UInt8} {i : Nat} (hp : (splitC 58 s)[i]? = some p) (h : okG p = false) : (rd6 s).map ofA = none := by
  have : (splitC 58 s).all okG = false := by
    rw [List.all_eq_false]
    exact ⟨p, List.mem_of_getElem? hp, by simp [h]⟩
  simp [rd6, this]
def six (ps : List (List UInt8)) : List UInt8 := (ps.map valG).flatMap put16N
set_option maxRecDepth 100000 in
theorem six_length (ps : List (List UInt8)) : (six ps).length = 2 * ps.length := by rw [six, put16_len, List.length_map]
set_option maxRecDepth 100000 in
theorem rd6_all {s : List UInt8} (h : (splitC 58 s).length = 8) (ha : ∀ p ∈ splitC 58 s, okG p = true) : (rd6 s).map ofA = some (ofA (six (splitC 58 s))) := by
  have : (splitC 58 s).all okG = true := List.all_eq_true.2 ha
  simp [rd6, this, h, six]

set_option maxRecDepth 100000 in
set_option maxHeartbeats 1000000 in
theorem implSix_len (s : ByteArray) (m : Int) (w : World) (hs : s.size ≤ 1048576) (hm : w.cell? ⟨1, 0, none⟩ = some (.int .i64 m)) (h8 : ¬ (splitC 58 s.data.toList).length = 8) :
    Calls Tryd.prog 40 #[.string s] w (ReadOut ((rd6 s.data.toList).map ofA) w) := by
  have HN := Lib.hid (rd6_len h8)
  obtain ⟨ps, hps⟩ : ∃ ps, ps = splitC 58 s.data.toList := ⟨_, rfl⟩
  obtain ⟨N, hN⟩ : ∃ N, ps.length = N := ⟨_, rfl⟩
  have h5 : ((N : Int) == 8) = false := by rw [hps] at hN; simp; omega
  have h6 : ((N : Int) != 8) = true := by rw [hps] at hN; simp; omega
  have sp : ∀ v : World, v.cell? ⟨1, 0, none⟩ = some (.int .i64 m) → Calls Tryd.prog 67 #[.string s, .string ⟨#[58]⟩] v fun e w' => ∃ g, e = .returned (.slice (some ⟨g, 0, none⟩) N N) ∧ (∀ (j : Nat) (p : List UInt8), ps[j]? = some p → w'.cell? ⟨g, j, none⟩ = some (.string (strOf p))) ∧ Below v.heap.size v w' := by
    intro v hv
    have hh := splitCall 58 s m v hs hv
    unfold SplitOut at hh
    rwa [← hps, hN] at hh
  have SP := Lib.hid sp
  have HM := Lib.hid (fun o : Obj => cell_on (Joins.below_alloc1 w o) hm)
  clear h8 hps hN sp hm
  go_enter Tryd.func40, Tryd.ntmps40
  go_wp2_with fail
  refine (SP.out _ (HM.out _)).mono ?_
  rintro e w1 ⟨g, rfl, _, b1⟩
  obtain ⟨⟨c0, c1, c2, c3, c4⟩, f0, f1, f2, f3, f4⟩ := row5 (new_row b1)
  go_wp2
  (try simp only [Exit.inBlock, Exit.then])
  refine bodyPost_ret (v := .tuple #[.agg #[.int .i64 0, .int .i64 0, .int .i64 0, .int .i64 0, .int .i64 0], .bool false]) ?_ rfl (readOut_no HN.out (by have := bthen (Joins.below_alloc1 w _) b1; go_grown))
  refine res_cell_tmp Tryd.results40 _ _ _ w.heap.size _ ?_ (run_loadVar_row _ _ 25 25 _ (0, 0) _ (set5 _ _ _ _ _ (new_row b1)) Tryd.underlying25 rfl info_addr)
  rfl

set_option maxRecDepth 100000 in
set_option maxHeartbeats 2000000 in
theorem implSix_go (s : ByteArray) (m : Int) (w : World) (hs : s.size ≤ 1048576) (hm : w.cell? ⟨1, 0, none⟩ = some (.int .i64 m)) (h8 : (splitC 58 s.data.toList).length = 8) :
    Calls Tryd.prog 40 #[.string s] w (ReadOut ((rd6 s.data.toList).map ofA) w) := by
  have HB := Lib.hid (fun (i : Nat) (p : List UInt8) (hp : (splitC 58 s.data.toList)[i]? = some p) (h : okG p = false) => rd6_bad hp h)
  have HA := Lib.hid (fun (ha : ∀ p ∈ splitC 58 s.data.toList, okG p = true) => rd6_all h8 ha)
  have hsz := fun (p : List UInt8) (hp : p ∈ splitC 58 s.data.toList) => split_size 58 s.data.toList p hp
  obtain ⟨ps, hps⟩ : ∃ ps, ps = splitC 58 s.data.toList := ⟨_, rfl⟩
  have sp : ∀ v : World, v.cell? ⟨1, 0, none⟩ = some (.int .i64 m) → Calls Tryd.prog 67 #[.string s, .string ⟨#[58]⟩] v fun e w' => ∃ g, e = .returned (.slice (some ⟨g, 0, none⟩) 8 8) ∧ (∀ (j : Nat) (p : List UInt8), ps[j]? = some p → w'.cell? ⟨g, j, none⟩ = some (.string (strOf p))) ∧ Below v.heap.size v w' := by
    intro v hv
    have hh := splitCall 58 s m v hs hv
    unfold SplitOut at hh
    rwa [h8, ← hps] at hh
  rw [← hps] at HB HA hsz h8
  have HSZ := Lib.hid hsz
  have H8 := Lib.hid h8
  have HS := Lib.hid (show s.data.toList.length ≤ 1048576 from hs)
  obtain ⟨R, hR⟩ : ∃ R, R = (rd6 s.data.toList).map ofA := ⟨_, rfl⟩
  rw [← hR] at HB HA ⊢
  have SP := Lib.hid sp
  have HM := Lib.hid (fun o : Obj => cell_on (Joins.below_alloc1 w o) hm)
  clear h8 hps sp hm hsz hR
  go_enter Tryd.func40, Tryd.ntmps40
  go_wp2_with fail
  refine (SP.out _ (HM.out _)).mono ?_
  rintro e w1 ⟨g, rfl, hcs, b1⟩
  have HC := Lib.hid hcs
  have NR := Lib.hid (new_row b1)
  have hz1 : w.heap.size < w1.heap.size := by have := b1.size; simp at this; omega
  have B1 := Lib.hid (bthen (Joins.below_alloc1 w _) b1)
  clear hcs b1
  go_wp2_with fail
  go_loopw [5, 18] (fun v q wr => ∃ i : Nat, i ≤ 8 ∧ q = .int .i64 i ∧ Hid (∀ p ∈ ps.take i, okG p = true) ∧ Hid (wr.ownsRow w1.heap.size 5 1 v (six (ps.take i)).length (cellsOf (six (ps.take i)))) ∧ Hid (Below w1.heap.size w1 wr)) (fun _ q _ => 8 - (intOf q).toNat)
  case atStart => exact ⟨0, Nat.zero_le _, rfl, Lib.hid (by simp), Lib.hid ⟨rfl, .inl ⟨rfl, rfl⟩⟩, Lib.hid (Below.refl _ _)⟩
  case round =>
    obtain ⟨i, hi, rfl, ha, ho, hb⟩ := hrel
    by_cases hlt : i < 8
    · have hltI : (i : Int) < 8 := by omega
      have hil : i < ps.length := by rw [H8.out]; exact hlt
      obtain ⟨p, hp⟩ : ∃ p, ps[i]? = some p := ⟨_, List.getElem?_eq_getElem hil⟩
      have hc : wr.cell? ⟨g, i, none⟩ = some (.string (strOf p)) := cell_on hb.out (HC.out i p hp)
      have hpl : (strOf p).size ≤ 1048576 := Nat.le_trans (HSZ.out p (List.mem_of_getElem? hp)) HS.out
      have nr := Lib.hid (fun v : World => implGroupRead (strOf p) v hpl)
      have HP := Lib.hid hp
      have hrow := Lib.hid (row_on hb.out hz1 NR.out)
      have B2 := Lib.hid (B1.out.trans (hb.out.mono B1.out.size))
      cases h1 : okG p
      · have nc := Lib.hid (show ∀ v : World, Calls Tryd.prog 68 #[.string (strOf p)] v fun e w' => e = .returned (.tuple #[.int .i64 0, .bool false]) ∧ Below v.heap.size v w' from fun v => by
          have hh := nr.out v
          unfold GroupPost at hh
          rwa [show okG (strOf p).data.toList = false from h1, grpV, show okG (strOf p).data.toList = false from h1] at hh)
        have HN := Lib.hid (HB.out i p hp h1)
        clear hp h1 hpl
        go_wp2_with fail
        refine (nc.out _).mono ?_
        rintro e w2 ⟨rfl, b2⟩
        have hrow2 := row_on b2 (row_lt hrow.out) hrow.out
        obtain ⟨⟨c0, c1, c2, c3, c4⟩, f0, f1, f2, f3, f4⟩ := row5 hrow2
        have B3 := bthen B2.out b2
        go_wp2
        (try simp only [Exit.inBlock, Exit.then])
        refine bodyPost_ret (v := .tuple #[.agg #[.int .i64 0, .int .i64 0, .int .i64 0, .int .i64 0, .int .i64 0], .bool false]) ?_ rfl (readOut_no HN.out (by go_grown))
        refine res_cell_tmp Tryd.results40 _ _ _ w.heap.size _ ?_ (run_loadVar_row _ _ 25 25 _ (0, 0) _ (set5 _ _ _ _ _ hrow2) Tryd.underlying25 rfl info_addr)
        rfl
      · obtain ⟨V, hV⟩ : ∃ V, V = valG p := ⟨_, rfl⟩
        have nc := Lib.hid (show ∀ v : World, Calls Tryd.prog 68 #[.string (strOf p)] v fun e w' => e = .returned (.tuple #[.int .i64 (V : Int), .bool true]) ∧ Below v.heap.size v w' from fun v => by
          have hh := nr.out v
          unfold GroupPost at hh
          rwa [show okG (strOf p).data.toList = true from h1, grpV, show okG (strOf p).data.toList = true from h1, if_pos rfl, show valG (strOf p).data.toList = V from hV.symm] at hh)
        have E := Lib.hid (show six (ps.take (i + 1)) = six (ps.take i) ++ put16 (V : Int) by
          rw [List.getElem?_eq_getElem hil] at hp
          rw [take_snoc ps i hil, six, List.map_append, List.flatMap_append, Option.some.inj hp, hV]
          simp [six, put16N])
        have ha2 := Lib.hid (show ∀ q ∈ ps.take (i + 1), okG q = true by
          intro q hq
          rw [take_snoc ps i hil] at hq
          rcases List.mem_append.1 hq with h | h
          · exact ha.out q h
          · rw [List.mem_singleton.1 h]
            rw [List.getElem?_eq_getElem hil] at hp
            rw [Option.some.inj hp]
            exact h1)
        have hlen := Lib.hid (show (six (ps.take i)).length ≤ 16 by rw [six_length, List.length_take]; omega)
        obtain ⟨bs, hbs⟩ : ∃ bs, bs = six (ps.take i) := ⟨_, rfl⟩
        rw [← hbs] at ho E hlen
        clear hp h1 hpl hV hbs
        go_wp2_with fail
        refine (nc.out _).mono ?_
        rintro e w2 ⟨rfl, b2⟩
        have hlo := fun u (hu : u5.ownBlock = some u) => (ho.out.lt u hu).1
        have HLO := Lib.hid hlo
        have o2 := Lib.hid (own_below ho.out b2)
        have B3 := Lib.hid (hb.out.trans (b2.mono hb.out.size))
        have hz := hb.out.size
        have hz2 := b2.size
        clear hlo b2
        go_wp2_with fail
        refine (implPut16 (V : Int) _).mono ?_
        rintro e w3 ⟨rfl, o3, b3⟩
        have o4 := Lib.hid (own_below o2.out b3)
        have r4 := Lib.hid (RB.of_own o3)
        have B4 := Lib.hid (B3.out.trans (b3.mono B3.out.size))
        have hz3 := b3.size
        clear o3 b3
        go_wp2_with (at_builtin; refine wpList_append_b rfl (.tmp 30) (.tmp 32) rfl w1.heap.size u5 bs rfl o4.out _ (some ⟨w2.heap.size, 0, none⟩) 2 2 (put16 (V : Int)) rfl rfl r4.out (by have := hlen.out; simp [put16]; omega) (by omega) ?_; intro v5 w5 o5 g5 _)
        have R1 := Lib.hid (show w5.ownsRow w1.heap.size 5 1 v5 (six (ps.take (i + 1))).length (cellsOf (six (ps.take (i + 1)))) by rw [E.out]; exact o5)
        have R2 := Lib.hid (show Below w1.heap.size w1 w5 from B4.out.grown g5 (by omega) HLO.out)
        go_wp2
        go_roundw
        case rel => exact ⟨i + 1, by omega, by go_num, ha2, R1, R2⟩
        case measure => simp [intOf]; omega
    · obtain rfl : i = 8 := by omega
      have e8 : ps.take 8 = ps := List.take_of_length_le (by rw [H8.out]; exact Nat.le_refl _)
      have HY := Lib.hid (HA.out (by have := ha.out; rwa [e8] at this))
      have o8 := ho.out
      rw [e8] at o8
      obtain ⟨bs, hbs⟩ : ∃ bs, bs = six ps := ⟨_, rfl⟩
      have hbl : bs.length = 16 := by rw [hbs, six_length, H8.out]
      rw [← hbs, hbl] at o8
      rw [← hbs] at HY
      obtain ⟨A, k, rfl⟩ := own_form o8
      have ao := Lib.hid (show Calls Tryd.prog 25 #[.slice A 16 k] wr fun e w' => e = .returned (.tuple #[.agg #[.int .i64 (ofA bs).k, .int .i64 (ofA bs).a, .int .i64 (ofA bs).b, .int .i64 (ofA bs).c, .int .i64 (ofA bs).d], .bool true]) ∧ Below wr.heap.size wr w' by
        have hh := implAddrOf A 16 k bs wr (RB.of_own o8) hbl (by omega)
        unfold OfOut at hh
        rwa [show okA bs = true by simp [okA, hbl]] at hh)
      have hrow := Lib.hid (row_on hb.out hz1 NR.out)
      have B2 := Lib.hid (B1.out.trans (hb.out.mono B1.out.size))
      obtain ⟨y, hy⟩ : ∃ y, y = ofA bs := ⟨_, rfl⟩
      rw [← hy] at ao HY
      clear e8 o8 hbs hbl hy
      go_wp2_with fail
      refine ao.out.mono ?_
      rintro e w2 ⟨rfl, b2⟩
      have hrow2 := row_on b2 (row_lt hrow.out) hrow.out
      obtain ⟨⟨c0, c1, c2, c3, c4⟩, f0, f1, f2, f3, f4⟩ := row5 hrow2
      have B3 := bthen B2.out b2
      go_wp2
      (try simp only [Exit.inBlock, Exit.then])
      refine bodyPost_ret (v := .tuple #[.agg #[.int .i64 y.k, .int .i64 y.a, .int .i64 y.b, .int .i64 y.c, .int .i64 y.d], .bool true]) ?_ rfl (readOut_yes HY.out (by go_grown))
      refine res_cell_tmp Tryd.results40 _ _ _ w.heap.size _ ?_ (run_loadVar_row _ _ 25 25 _ (0, 0) _ (set5 _ _ _ _ _ hrow2) Tryd.underlying25 rfl info_addr)
      rfl

set_option maxRecDepth 100000 in
theorem implSixRead (s : ByteArray) (m : Int) (w : World) (hs : s.size ≤ 1048576) (hm : w.cell? ⟨1, 0, none⟩ = some (.int .i64 m)) : Calls Tryd.prog 40 #[.string s] w (ReadOut ((rd6 s.data.toList).map ofA) w) := by
  by_cases h8 : (splitC 58 s.data.toList).length = 8
  · exact implSix_go s m w hs hm h8
  · exact implSix_len s m w hs hm h8

set_option maxRecDepth 100000 in
set_option maxHeartbeats 1000000 in
theorem implAddrRead (s : ByteArray) (m : Int) (w : World) (hs : s.size ≤ 1048576) (hm : w.cell? ⟨1, 0, none⟩ = some (.int .i64 m)) : Calls Tryd.prog 13 #[.string s] w (ReadOut (rdA s.data.toList) w) := by
  have HM := Lib.hid (fun o : Obj => cell_on (Joins.below_alloc1 w o) hm)
  have CC := Lib.hid (containsCall 58 s)
  by_cases h : (58 : UInt8) ∈ s.data.toList
  · have e : rdA s.data.toList = (rd6 s.data.toList).map ofA := if_pos h
    rw [e]
    have h2 : decide ((58 : UInt8) ∈ s.data.toList) = true := decide_eq_true h
    rw [h2] at CC
    have six := Lib.hid (fun (v : World) (hv : v.cell? ⟨1, 0, none⟩ = some (.int .i64 m)) => implSixRead s m v hs hv)
    obtain ⟨R, hR⟩ : ∃ R, R = (rd6 s.data.toList).map ofA := ⟨_, rfl⟩
    rw [← hR] at six ⊢
    clear hR h h2 e hm
    go_enter Tryd.func13, Tryd.ntmps13
    go_wp2_with fail
    refine (CC.out _).mono ?_
    rintro e w1 ⟨rfl, rfl⟩
    go_wp2_with fail
    refine (six.out _ (HM.out _)).mono ?_
    rintro e w2 ⟨rfl, b2⟩
    obtain ⟨⟨c0, c1, c2, c3, c4⟩, f0, f1, f2, f3, f4⟩ := row5 (new_row b2)
    have B3 := bthen (Joins.below_alloc1 w _) b2
    have N3 := Lib.hid (new_row b2)
    clear b2
    go_wp2
    (try simp only [Exit.inBlock, Exit.then])
    refine bodyPost_ret (v := .tuple #[.agg #[.int .i64 (R.getD Ad.zero).k, .int .i64 (R.getD Ad.zero).a, .int .i64 (R.getD Ad.zero).b, .int .i64 (R.getD Ad.zero).c, .int .i64 (R.getD Ad.zero).d], .bool R.isSome]) ?_ rfl ⟨rfl, by go_grown⟩
    refine res_cell_tmp Tryd.results13 _ _ _ w.heap.size _ ?_ (run_loadVar_row _ _ 25 25 _ (0, 0) _ (set5 _ _ _ _ _ N3.out) Tryd.underlying25 rfl info_addr)
    rfl
  · have e : rdA s.data.toList = (rd4 s.data.toList).map ofA := if_neg h
    rw [e]
    have h2 : decide ((58 : UInt8) ∈ s.data.toList) = false := decide_eq_false h
    rw [h2] at CC
    have four := Lib.hid (fun (v : World) (hv : v.cell? ⟨1, 0, none⟩ = some (.int .i64 m)) => implFourRead s m v hs hv)
    obtain ⟨R, hR⟩ : ∃ R, R = (rd4 s.data.toList).map ofA := ⟨_, rfl⟩
    rw [← hR] at four ⊢
    clear hR h h2 e hm
    go_enter Tryd.func13, Tryd.ntmps13
    go_wp2_with fail
    refine (CC.out _).mono ?_
    rintro e w1 ⟨rfl, rfl⟩
    go_wp2_with fail
    refine (four.out _ (HM.out _)).mono ?_
    rintro e w2 ⟨rfl, b2⟩
    obtain ⟨⟨c0, c1, c2, c3, c4⟩, f0, f1, f2, f3, f4⟩ := row5 (new_row b2)
    have B3 := bthen (Joins.below_alloc1 w _) b2
    have N3 := Lib.hid (new_row b2)
    clear b2
    go_wp2
    (try simp only [Exit.inBlock, Exit.then])
    refine bodyPost_ret (v := .tuple #[.agg #[.int .i64 (R.getD Ad.zero).k, .int .i64 (R.getD Ad.zero).a, .int .i64 (R.getD Ad.zero).b, .int .i64 (R.getD Ad.zero).c, .int .i64 (R.getD Ad.zero).d], .bool R.isSome]) ?_ rfl ⟨rfl, by go_grown⟩
    refine res_cell_tmp Tryd.results13 _ _ _ w.heap.size _ ?_ (run_loadVar_row _ _ 25 25 _ (0, 0) _ (set5 _ _ _ _ _ N3.out) Tryd.underlying25 rfl info_addr)
    rfl
end Go.Proofs.YtckakpcjbndijabDoor
namespace Go.Proofs.YtckakpcjbndijabDoor
open Go.RowKit

set_option maxRecDepth 100000 in
set_option maxHeartbeats 1000000 in
theorem implPRead_any (s : ByteArray) (w : World) (h : s.data.toList = [97, 110, 121]) : Calls Tryd.prog 19 #[.string s] w (PReadOut (rdP s.data.toList) w) := by
  have HN := Lib.hid (rdP_any h)
  have h2 : (s.toList == [97, 110, 121]) = true := by rw [ByteArray.toList_eq, h]; rfl
  clear h
  go_enter Tryd.func19, Tryd.ntmps19
  go_wp2
  go_returns
  exact preadOut_any HN.out (by go_grown)

set_option maxRecDepth 100000 in
set_option maxHeartbeats 1000000 in
theorem implPRead_addr (s : ByteArray) (m : Int) (w : World) (hs : s.size ≤ 1048576) (hm : w.cell? ⟨1, 0, none⟩ = some (.int .i64 m)) (h : ¬ s.data.toList = [97, 110, 121]) (h1 : (rdA (cutA s.data.toList)).isSome = false) (B : Bool) (h2 : okNum (cutR s.data.toList) = B) : Calls Tryd.prog 19 #[.string s] w (PReadOut (rdP s.data.toList) w) := by
  obtain ⟨A, hA⟩ : ∃ A, A = cutA s.data.toList := ⟨_, rfl⟩
  obtain ⟨Q, hQ⟩ : ∃ Q, Q = cutR s.data.toList := ⟨_, rfl⟩
  have hc := cut_size s.data.toList
  rw [← hA, ← hQ] at hc
  obtain ⟨p, hp⟩ : ∃ p, p = pfOf A Q := ⟨_, rfl⟩
  have hpb : (rdA A).getD Ad.zero = p.base := by rw [hp]; rfl
  have hpl : numR Q = p.len := by rw [hp]; rfl
  rw [← hA] at h1
  rw [← hQ] at h2
  have cu := fun (v : World) (hv : v.cell? ⟨1, 0, none⟩ = some (.int .i64 m)) => cutCall s m v hs hv
  rw [← hA, ← hQ] at cu
  have hsl : s.data.toList.length = s.size := rfl
  have ar := fun (v : World) (hv : v.cell? ⟨1, 0, none⟩ = some (.int .i64 m)) => implAddrRead (strOf A) m v (by rw [strOf_size]; omega) hv
  unfold ReadOut at ar
  rw [strOf_data, h1, hpb] at ar
  have nr := fun v : World => implNumRead (strOf Q) v (by rw [strOf_size]; omega)
  unfold NumPost at nr
  rw [strOf_data, h2, hpl] at nr
  rw [rdP_else h, ← hA, ← hQ]
  have HN := Lib.hid (rdQ_no1 (r := Q) h1)
  have CU := Lib.hid cu
  have AR := Lib.hid ar
  have NR := Lib.hid nr
  have HM := Lib.hid (fun o : Obj => cell_on (Joins.below_alloc1 w o) hm)
  have hany : (s.toList == [97, 110, 121]) = false := by
    simp only [beq_eq_false_iff_ne, ne_eq]
    rw [ByteArray.toList_eq]
    exact h
  obtain ⟨R, hR⟩ : ∃ R, R = rdQ A Q := ⟨_, rfl⟩
  rw [← hR] at HN ⊢
  clear cu ar nr hm h hA hQ hc hp hpb hpl h1 h2 hR hsl 
  go_enter Tryd.func19, Tryd.ntmps19
  go_wp2_with fail
  refine (CU.out _ (HM.out _)).mono ?_
  rintro e w1 ⟨bc, rfl, b1⟩
  have q1 := Lib.hid (new_row b1)
  have B1 := Lib.hid (bthen (Joins.below_alloc1 w _) b1)
  have HM1 := Lib.hid (cell_on b1 (HM.out _))
  clear b1
  go_wp2_with fail
  refine (AR.out _ HM1.out).mono ?_
  rintro e w2 ⟨rfl, b2⟩
  have q2 := Lib.hid (row_on b2 (row_lt q1.out) q1.out)
  have B2 := Lib.hid (bthen B1.out b2)
  clear b2
  go_wp2_with fail
  refine (NR.out _).mono ?_
  rintro e w3 ⟨rfl, b3⟩
  obtain ⟨c0, c1, c2, c3, c4⟩ := ad_box b3
  have q3 := row_on b3 (row_lt (row_on (Joins.below_alloc1 w2 _) (row_lt q2.out) q2.out)) (row_on (Joins.below_alloc1 w2 _) (row_lt q2.out) q2.out)
  have q4 := Lib.hid (row_on (Joins.below_alloc1 w3 (.cells #[.int .i64 p.base.k, .int .i64 p.base.a, .int .i64 p.base.b, .int .i64 p.base.c, .int .i64 p.base.d, .int .i64 p.len] 36)) (row_lt q3) q3)
  have B4 := Lib.hid (bthen (bthen (bthen B2.out (Joins.below_alloc1 w2 _)) b3) (Joins.below_alloc1 w3 (.cells #[.int .i64 p.base.k, .int .i64 p.base.a, .int .i64 p.base.b, .int .i64 p.base.c, .int .i64 p.base.d, .int .i64 p.len] 36)))
  clear b3 q3
  obtain ⟨⟨d0, d1, d2, d3, d4, d5⟩, f0, f1, f2, f3, f4, f5⟩ := row6 q4.out
  go_wp2
  (try simp only [Exit.inBlock, Exit.then])
  refine bodyPost_ret (v := .tuple #[.agg #[.int .i64 0, .int .i64 0, .int .i64 0, .int .i64 0, .int .i64 0, .int .i64 0], .bool false]) ?_ rfl (preadOut_no HN.out (below6 B4.out (Nat.le_refl _)))
  refine res_cell_tmp Tryd.results19 _ _ _ w.heap.size _ ?_ (run_loadVar_row _ _ 36 36 _ (0, 0) _ (set6 _ _ _ _ _ _ q4.out) Tryd.underlying36 rfl info_pfx)
  rfl

set_option maxRecDepth 100000 in
set_option maxHeartbeats 1000000 in
theorem implPRead_num (s : ByteArray) (m : Int) (w : World) (hs : s.size ≤ 1048576) (hm : w.cell? ⟨1, 0, none⟩ = some (.int .i64 m)) (h : ¬ s.data.toList = [97, 110, 121]) (h1 : (rdA (cutA s.data.toList)).isSome = true) (h2 : okNum (cutR s.data.toList) = false) : Calls Tryd.prog 19 #[.string s] w (PReadOut (rdP s.data.toList) w) := by
  obtain ⟨A, hA⟩ : ∃ A, A = cutA s.data.toList := ⟨_, rfl⟩
  obtain ⟨Q, hQ⟩ : ∃ Q, Q = cutR s.data.toList := ⟨_, rfl⟩
  have hc := cut_size s.data.toList
  rw [← hA, ← hQ] at hc
  obtain ⟨p, hp⟩ : ∃ p, p = pfOf A Q := ⟨_, rfl⟩
  have hpb : (rdA A).getD Ad.zero = p.base := by rw [hp]; rfl
  have hpl : numR Q = p.len := by rw [hp]; rfl
  rw [← hA] at h1
  rw [← hQ] at h2
  have cu := fun (v : World) (hv : v.cell? ⟨1, 0, none⟩ = some (.int .i64 m)) => cutCall s m v hs hv
  rw [← hA, ← hQ] at cu
  have hsl : s.data.toList.length = s.size := rfl
  have ar := fun (v : World) (hv : v.cell? ⟨1, 0, none⟩ = some (.int .i64 m)) => implAddrRead (strOf A) m v (by rw [strOf_size]; omega) hv
  unfold ReadOut at ar
  rw [strOf_data, h1, hpb] at ar
  have nr := fun v : World => implNumRead (strOf Q) v (by rw [strOf_size]; omega)
  unfold NumPost at nr
  rw [strOf_data, h2, hpl] at nr
  rw [rdP_else h, ← hA, ← hQ]
  have HN := Lib.hid (rdQ_no2 (a := A) h2)
  have CU := Lib.hid cu
  have AR := Lib.hid ar
  have NR := Lib.hid nr
  have HM := Lib.hid (fun o : Obj => cell_on (Joins.below_alloc1 w o) hm)
  have hany : (s.toList == [97, 110, 121]) = false := by
    simp only [beq_eq_false_iff_ne, ne_eq]
    rw [ByteArray.toList_eq]
    exact h
  obtain ⟨R, hR⟩ : ∃ R, R = rdQ A Q := ⟨_, rfl⟩
  rw [← hR] at HN ⊢
  clear cu ar nr hm h hA hQ hc hp hpb hpl h1 h2 hR hsl 
  go_enter Tryd.func19, Tryd.ntmps19
  go_wp2_with fail
  refine (CU.out _ (HM.out _)).mono ?_
  rintro e w1 ⟨bc, rfl, b1⟩
  have q1 := Lib.hid (new_row b1)
  have B1 := Lib.hid (bthen (Joins.below_alloc1 w _) b1)
  have HM1 := Lib.hid (cell_on b1 (HM.out _))
  clear b1
  go_wp2_with fail
  refine (AR.out _ HM1.out).mono ?_
  rintro e w2 ⟨rfl, b2⟩
  have q2 := Lib.hid (row_on b2 (row_lt q1.out) q1.out)
  have B2 := Lib.hid (bthen B1.out b2)
  clear b2
  go_wp2_with fail
  refine (NR.out _).mono ?_
  rintro e w3 ⟨rfl, b3⟩
  obtain ⟨c0, c1, c2, c3, c4⟩ := ad_box b3
  have q3 := row_on b3 (row_lt (row_on (Joins.below_alloc1 w2 _) (row_lt q2.out) q2.out)) (row_on (Joins.below_alloc1 w2 _) (row_lt q2.out) q2.out)
  have q4 := Lib.hid (row_on (Joins.below_alloc1 w3 (.cells #[.int .i64 p.base.k, .int .i64 p.base.a, .int .i64 p.base.b, .int .i64 p.base.c, .int .i64 p.base.d, .int .i64 p.len] 36)) (row_lt q3) q3)
  have B4 := Lib.hid (bthen (bthen (bthen B2.out (Joins.below_alloc1 w2 _)) b3) (Joins.below_alloc1 w3 (.cells #[.int .i64 p.base.k, .int .i64 p.base.a, .int .i64 p.base.b, .int .i64 p.base.c, .int .i64 p.base.d, .int .i64 p.len] 36)))
  clear b3 q3
  obtain ⟨⟨d0, d1, d2, d3, d4, d5⟩, f0, f1, f2, f3, f4, f5⟩ := row6 q4.out
  go_wp2
  (try simp only [Exit.inBlock, Exit.then])
  refine bodyPost_ret (v := .tuple #[.agg #[.int .i64 0, .int .i64 0, .int .i64 0, .int .i64 0, .int .i64 0, .int .i64 0], .bool false]) ?_ rfl (preadOut_no HN.out (below6 B4.out (Nat.le_refl _)))
  refine res_cell_tmp Tryd.results19 _ _ _ w.heap.size _ ?_ (run_loadVar_row _ _ 36 36 _ (0, 0) _ (set6 _ _ _ _ _ _ q4.out) Tryd.underlying36 rfl info_pfx)
  rfl

set_option maxRecDepth 100000 in
set_option maxHeartbeats 1000000 in
theorem implPRead_bad (s : ByteArray) (m : Int) (w : World) (hs : s.size ≤ 1048576) (hm : w.cell? ⟨1, 0, none⟩ = some (.int .i64 m)) (h : ¬ s.data.toList = [97, 110, 121]) (h1 : (rdA (cutA s.data.toList)).isSome = true) (h2 : okNum (cutR s.data.toList) = true) (h3 : (pfOf (cutA s.data.toList) (cutR s.data.toList)).ok = false) : Calls Tryd.prog 19 #[.string s] w (PReadOut (rdP s.data.toList) w) := by
  obtain ⟨A, hA⟩ : ∃ A, A = cutA s.data.toList := ⟨_, rfl⟩
  obtain ⟨Q, hQ⟩ : ∃ Q, Q = cutR s.data.toList := ⟨_, rfl⟩
  have hc := cut_size s.data.toList
  rw [← hA, ← hQ] at hc
  obtain ⟨p, hp⟩ : ∃ p, p = pfOf A Q := ⟨_, rfl⟩
  have hpb : (rdA A).getD Ad.zero = p.base := by rw [hp]; rfl
  have hpl : numR Q = p.len := by rw [hp]; rfl
  rw [← hA] at h1
  rw [← hQ] at h2
  have cu := fun (v : World) (hv : v.cell? ⟨1, 0, none⟩ = some (.int .i64 m)) => cutCall s m v hs hv
  rw [← hA, ← hQ] at cu
  have hsl : s.data.toList.length = s.size := rfl
  have ar := fun (v : World) (hv : v.cell? ⟨1, 0, none⟩ = some (.int .i64 m)) => implAddrRead (strOf A) m v (by rw [strOf_size]; omega) hv
  unfold ReadOut at ar
  rw [strOf_data, h1, hpb] at ar
  have nr := fun v : World => implNumRead (strOf Q) v (by rw [strOf_size]; omega)
  unfold NumPost at nr
  rw [strOf_data, h2, hpl] at nr
  rw [rdP_else h, ← hA, ← hQ]
  rw [← hA, ← hQ] at h3
  have HN := Lib.hid (rdQ_no3 h3)
  rw [← hp] at h3
  have pk := implPrefixOk p
  rw [h3] at pk
  have PK := Lib.hid pk
  have CU := Lib.hid cu
  have AR := Lib.hid ar
  have NR := Lib.hid nr
  have HM := Lib.hid (fun o : Obj => cell_on (Joins.below_alloc1 w o) hm)
  have hany : (s.toList == [97, 110, 121]) = false := by
    simp only [beq_eq_false_iff_ne, ne_eq]
    rw [ByteArray.toList_eq]
    exact h
  obtain ⟨R, hR⟩ : ∃ R, R = rdQ A Q := ⟨_, rfl⟩
  rw [← hR] at HN ⊢
  clear cu ar nr hm h hA hQ hc hp hpb hpl h1 h2 hR hsl pk h3
  go_enter Tryd.func19, Tryd.ntmps19
  go_wp2_with fail
  refine (CU.out _ (HM.out _)).mono ?_
  rintro e w1 ⟨bc, rfl, b1⟩
  have q1 := Lib.hid (new_row b1)
  have B1 := Lib.hid (bthen (Joins.below_alloc1 w _) b1)
  have HM1 := Lib.hid (cell_on b1 (HM.out _))
  clear b1
  go_wp2_with fail
  refine (AR.out _ HM1.out).mono ?_
  rintro e w2 ⟨rfl, b2⟩
  have q2 := Lib.hid (row_on b2 (row_lt q1.out) q1.out)
  have B2 := Lib.hid (bthen B1.out b2)
  clear b2
  go_wp2_with fail
  refine (NR.out _).mono ?_
  rintro e w3 ⟨rfl, b3⟩
  obtain ⟨c0, c1, c2, c3, c4⟩ := ad_box b3
  have q3 := row_on b3 (row_lt (row_on (Joins.below_alloc1 w2 _) (row_lt q2.out) q2.out)) (row_on (Joins.below_alloc1 w2 _) (row_lt q2.out) q2.out)
  have q4 := Lib.hid (row_on (Joins.below_alloc1 w3 (.cells #[.int .i64 p.base.k, .int .i64 p.base.a, .int .i64 p.base.b, .int .i64 p.base.c, .int .i64 p.base.d, .int .i64 p.len] 36)) (row_lt q3) q3)
  have B4 := Lib.hid (bthen (bthen (bthen B2.out (Joins.below_alloc1 w2 _)) b3) (Joins.below_alloc1 w3 (.cells #[.int .i64 p.base.k, .int .i64 p.base.a, .int .i64 p.base.b, .int .i64 p.base.c, .int .i64 p.base.d, .int .i64 p.len] 36)))
  clear b3 q3
  go_wp2_with fail
  refine (PK.out _).mono ?_
  rintro e w5 ⟨rfl, b5⟩
  obtain ⟨e0, e1, e2, e3, e4, e5⟩ := pf_box b5
  have q5 := Lib.hid (row_on b5 (row_lt q4.out) q4.out)
  obtain ⟨⟨d0, d1, d2, d3, d4, d5⟩, f0, f1, f2, f3, f4, f5⟩ := row6 q5.out
  have B5 := Lib.hid (bthen B4.out b5)
  clear b5
  go_wp2
  (try simp only [Exit.inBlock, Exit.then])
  refine bodyPost_ret (v := .tuple #[.agg #[.int .i64 0, .int .i64 0, .int .i64 0, .int .i64 0, .int .i64 0, .int .i64 0], .bool false]) ?_ rfl (preadOut_no HN.out (below6 B5.out (Nat.le_refl _)))
  refine res_cell_tmp Tryd.results19 _ _ _ w.heap.size _ ?_ (run_loadVar_row _ _ 36 36 _ (0, 0) _ (set6 _ _ _ _ _ _ q5.out) Tryd.underlying36 rfl info_pfx)
  rfl

set_option maxRecDepth 100000 in
set_option maxHeartbeats 1000000 in
theorem implPRead_yes (s : ByteArray) (m : Int) (w : World) (hs : s.size ≤ 1048576) (hm : w.cell? ⟨1, 0, none⟩ = some (.int .i64 m)) (h : ¬ s.data.toList = [97, 110, 121]) (h1 : (rdA (cutA s.data.toList)).isSome = true) (h2 : okNum (cutR s.data.toList) = true) (h3 : (pfOf (cutA s.data.toList) (cutR s.data.toList)).ok = true) : Calls Tryd.prog 19 #[.string s] w (PReadOut (rdP s.data.toList) w) := by
  obtain ⟨A, hA⟩ : ∃ A, A = cutA s.data.toList := ⟨_, rfl⟩
  obtain ⟨Q, hQ⟩ : ∃ Q, Q = cutR s.data.toList := ⟨_, rfl⟩
  have hc := cut_size s.data.toList
  rw [← hA, ← hQ] at hc
  obtain ⟨p, hp⟩ : ∃ p, p = pfOf A Q := ⟨_, rfl⟩
  have hpb : (rdA A).getD Ad.zero = p.base := by rw [hp]; rfl
  have hpl : numR Q = p.len := by rw [hp]; rfl
  rw [← hA] at h1
  rw [← hQ] at h2
  have cu := fun (v : World) (hv : v.cell? ⟨1, 0, none⟩ = some (.int .i64 m)) => cutCall s m v hs hv
  rw [← hA, ← hQ] at cu
  have hsl : s.data.toList.length = s.size := rfl
  have ar := fun (v : World) (hv : v.cell? ⟨1, 0, none⟩ = some (.int .i64 m)) => implAddrRead (strOf A) m v (by rw [strOf_size]; omega) hv
  unfold ReadOut at ar
  rw [strOf_data, h1, hpb] at ar
  have nr := fun v : World => implNumRead (strOf Q) v (by rw [strOf_size]; omega)
  unfold NumPost at nr
  rw [strOf_data, h2, hpl] at nr
  rw [rdP_else h, ← hA, ← hQ]
  rw [← hA, ← hQ] at h3
  have HN := Lib.hid (rdQ_yes h1 h2 h3)
  rw [← hp] at h3 HN
  have pk := implPrefixOk p
  rw [h3] at pk
  have PK := Lib.hid pk
  have CU := Lib.hid cu
  have AR := Lib.hid ar
  have NR := Lib.hid nr
  have HM := Lib.hid (fun o : Obj => cell_on (Joins.below_alloc1 w o) hm)
  have hany : (s.toList == [97, 110, 121]) = false := by
    simp only [beq_eq_false_iff_ne, ne_eq]
    rw [ByteArray.toList_eq]
    exact h
  obtain ⟨R, hR⟩ : ∃ R, R = rdQ A Q := ⟨_, rfl⟩
  rw [← hR] at HN ⊢
  clear cu ar nr hm h hA hQ hc hp hpb hpl h1 h2 hR hsl pk h3
  go_enter Tryd.func19, Tryd.ntmps19
  go_wp2_with fail
  refine (CU.out _ (HM.out _)).mono ?_
  rintro e w1 ⟨bc, rfl, b1⟩
  have q1 := Lib.hid (new_row b1)
  have B1 := Lib.hid (bthen (Joins.below_alloc1 w _) b1)
  have HM1 := Lib.hid (cell_on b1 (HM.out _))
  clear b1
  go_wp2_with fail
  refine (AR.out _ HM1.out).mono ?_
  rintro e w2 ⟨rfl, b2⟩
  have q2 := Lib.hid (row_on b2 (row_lt q1.out) q1.out)
  have B2 := Lib.hid (bthen B1.out b2)
  clear b2
  go_wp2_with fail
  refine (NR.out _).mono ?_
  rintro e w3 ⟨rfl, b3⟩
  obtain ⟨c0, c1, c2, c3, c4⟩ := ad_box b3
  have q3 := row_on b3 (row_lt (row_on (Joins.below_alloc1 w2 _) (row_lt q2.out) q2.out)) (row_on (Joins.below_alloc1 w2 _) (row_lt q2.out) q2.out)
  have q4 := Lib.hid (row_on (Joins.below_alloc1 w3 (.cells #[.int .i64 p.base.k, .int .i64 p.base.a, .int .i64 p.base.b, .int .i64 p.base.c, .int .i64 p.base.d, .int .i64 p.len] 36)) (row_lt q3) q3)
  have B4 := Lib.hid (bthen (bthen (bthen B2.out (Joins.below_alloc1 w2 _)) b3) (Joins.below_alloc1 w3 (.cells #[.int .i64 p.base.k, .int .i64 p.base.a, .int .i64 p.base.b, .int .i64 p.base.c, .int .i64 p.base.d, .int .i64 p.len] 36)))
  clear b3 q3
  go_wp2_with fail
  refine (PK.out _).mono ?_
  rintro e w5 ⟨rfl, b5⟩
  obtain ⟨e0, e1, e2, e3, e4, e5⟩ := pf_box b5
  have q5 := Lib.hid (row_on b5 (row_lt q4.out) q4.out)
  obtain ⟨⟨d0, d1, d2, d3, d4, d5⟩, f0, f1, f2, f3, f4, f5⟩ := row6 q5.out
  have B5 := Lib.hid (bthen B4.out b5)
  clear b5
  go_wp2
  (try simp only [Exit.inBlock, Exit.then])
  refine bodyPost_ret (v := .tuple #[.agg #[.int .i64 p.base.k, .int .i64 p.base.a, .int .i64 p.base.b, .int .i64 p.base.c, .int .i64 p.base.d, .int .i64 p.len], .bool true]) ?_ rfl (preadOut_yes HN.out (below6 B5.out (Nat.le_refl _)))
  refine res_cell_tmp Tryd.results19 _ _ _ w.heap.size _ ?_ (run_loadVar_row _ _ 36 36 _ (0, 0) _ (set6 _ _ _ _ _ _ q5.out) Tryd.underlying36 rfl info_pfx)
  rfl

set_option maxRecDepth 100000 in
theorem implPrefixRead (s : ByteArray) (m : Int) (w : World) (hs : s.size ≤ 1048576) (hm : w.cell? ⟨1, 0, none⟩ = some (.int .i64 m)) : Calls Tryd.prog 19 #[.string s] w (PReadOut (rdP s.data.toList) w) := by
  by_cases h : s.data.toList = [97, 110, 121]
  · exact implPRead_any s w h
  · cases h1 : (rdA (cutA s.data.toList)).isSome
    · exact implPRead_addr s m w hs hm h h1 _ rfl
    · cases h2 : okNum (cutR s.data.toList)
      · exact implPRead_num s m w hs hm h h1 h2
      · cases h3 : (pfOf (cutA s.data.toList) (cutR s.data.toList)).ok
        · exact implPRead_bad s m w hs hm h h1 h2 h3
        · exact implPRead_yes s m w hs hm h h1 h2 h3
end Go.Proofs.YtckakpcjbndijabDoor
namespace Go.Proofs.YtckakpcjbndijabDoor
open Go.RowKit

/-- What the parts of a text lie in, in the model. -/
def PartsOut (ps : List (List UInt8)) (w : World) (e : Ending) (w' : World) : Prop :=
  ∃ g k, e = .returned (.slice (some ⟨g, 0, none⟩) ps.length k) ∧ w.heap.size ≤ g ∧ (∀ (j : Nat) (p : List UInt8), ps[j]? = some p → w'.cell? ⟨g, j, none⟩ = some (.string (strOf p))) ∧ Below w.heap.size w w'
set_option maxRecDepth 100000 in
theorem strsOf_get (xs : List (List UInt8)) (j : Nat) (p : List UInt8) (h : xs[j]? = some p) : (strsOf xs)[j]? = some (.string (strOf p)) := by simp [strsOf, h]
set_option maxRecDepth 100000 in
theorem extract_one (s : ByteArray) (i : Nat) (h : i < s.size) : s.extract i (i + 1) = strOf [s[i]'h] := by
  have e : (s.extract i (i + 1)).data.toList = [s[i]'h] := by
    rw [Lib.extract_data]
    have hl : i < s.data.toList.length := h
    rw [Nat.add_sub_cancel_left, List.drop_eq_getElem_cons hl]
    simp
    rfl
  rw [← strOf_toList (s.extract i (i + 1)), e]
set_option maxRecDepth 100000 in
theorem set_last (a : List (List UInt8)) (x y : List UInt8) : (strsOf (a ++ [x])).set a.length (.string (strOf y)) = strsOf (a ++ [y]) := by
  simp [strsOf]

set_option maxRecDepth 100000 in
set_option maxHeartbeats 2000000 in
theorem specGroup (c : UInt8) (s : ByteArray) (w : World) (hs : s.size ≤ 1000) : Calls Tryd.prog 35 #[.string s, .int .u8 (c.toNat : Int)] w (PartsOut (splitC c s.data.toList) w) := by
  go_enter Tryd.func35, Tryd.ntmps35
  go_wp2
  go_loopw [5, 6] (fun v q wr => ∃ i n : Nat, i ≤ s.size ∧ q = .int .i64 (i : Int) ∧ 1 ≤ n ∧ n ≤ i + 1 ∧ Hid ((splitC c (s.data.toList.take i)).length = n) ∧ Hid (wr.ownsRow w.heap.size 9 1 v n (strsOf (splitC c (s.data.toList.take i)))) ∧ Hid (Below w.heap.size w wr)) (fun _ q _ => s.size - (intOf q).toNat)
  case atStart => exact ⟨0, 1, Nat.zero_le _, rfl, Nat.le_refl _, Nat.le_refl _, Lib.hid rfl, Lib.hid (World.ownsRow_lit w #[.string (strOf [])] 1 (Nat.le_refl _) (by unfold maxLen; omega) rfl), Lib.hid ((Below.refl _ _).alloc (Nat.le_refl _) _)⟩
  case round =>
    obtain ⟨i, n, hi, rfl, hn1, hn2, hlen, ho, hb⟩ := hrel
    by_cases hlt : i < s.size
    · have hltI : (i : Int) < (s.size : Int) := by omega
      obtain ⟨b, hb0⟩ : ∃ b : UInt8, b = s[i]'hlt := ⟨_, rfl⟩
      have hxa : ∀ w, (Instr.index 9 (.string s) (.int .i64 (i : Int))).run Tryd.prog w = .ok (.int .u8 (b.toNat : Int)) w := fun w => by rw [hb0]; exact index_strB s i hlt w
      obtain ⟨init, last, e1, e2⟩ := split_snoc c b (s.data.toList.take i)
      have et : s.data.toList.take i ++ [b] = s.data.toList.take (i + 1) := by
        rw [take_snoc s.data.toList i hlt, hb0]
        rfl
      rw [et] at e2
      have hz := hb.out.size
      by_cases hbc : b = c
      · have hbI : ((b.toNat : Int) == (c.toNat : Int)) = true := by simp [hbc]
        rw [if_pos hbc, ← e1] at e2
        have E2 := Lib.hid e2
        have hlo := fun u (hu : u5.ownBlock = some u) => (ho.out.lt u hu).1
        have HLO := Lib.hid hlo
        have o2 := Lib.hid (own_below ho.out (Joins.below_alloc1 wr (.cells #[.string (strOf [])] 9)))
        obtain ⟨ps, hps⟩ : ∃ ps, ps = splitC c (s.data.toList.take i) := ⟨_, rfl⟩
        rw [← hps] at o2 E2 hlen
        clear e1 e2 et hbc hb0 hlo hps
        go_wp2_with (at_builtin; refine wpList_append_s rfl (.tmp 19) (.tmp 20) rfl w.heap.size u5 n ps rfl o2.out _ (some ⟨wr.heap.size, 0, none⟩) 1 1 [[]] rfl rfl (RV.new wr 9 (strsOf [[]])) (by omega) (by simp; omega) ?_; intro v3 w3 o3 g3)
        have R1 := Lib.hid (show w3.ownsRow w.heap.size 9 1 v3 (n + 1) (strsOf (splitC c (s.data.toList.take (i + 1)))) by rw [E2.out]; exact o3)
        have R2 := Lib.hid (show Below w.heap.size w w3 from (hb.out.alloc hz (.cells #[.string (strOf [])] 9)).grown g3 (by simp; omega) HLO.out)
        have R3 := Lib.hid (show (splitC c (s.data.toList.take (i + 1))).length = n + 1 by rw [E2.out, List.length_append, hlen.out]; rfl)
        go_wp2
        go_roundw
        case rel => exact ⟨i + 1, n + 1, by omega, by go_num, by omega, by omega, R3, R1, R2⟩
        case measure => simp [intOf]; omega
      · have hbI : ((b.toNat : Int) == (c.toNat : Int)) = false := by
          simp
          intro h
          exact hbc (UInt8.toNat_inj.1 (by omega))
        rw [if_neg hbc] at e2
        have hlen2 : init.length + 1 = n := by have := hlen.out; rw [e1] at this; simpa using this
        obtain ⟨A, k, rfl⟩ := own_form ho.out
        obtain ⟨g, rfl⟩ : ∃ g, A = some ⟨g, 0, none⟩ := by
          rcases ho.out.2 with ⟨_, h2⟩ | ⟨g, cap, cur, hv, _⟩
          · omega
          · injection hv with hA
            exact ⟨g, hA⟩
        have hg := (ho.out.lt g rfl).1
        have hc0 : wr.cell? ⟨g, n - 1, none⟩ = some (.string (strOf last)) := by
          rw [ho.out.cellAt (n - 1) (by omega), e1]
          exact strsOf_get _ _ _ (by rw [List.getElem?_append_right (by omega)]; simp [show n - 1 - init.length = 0 by omega])
        obtain ⟨m, rfl⟩ : ∃ m, n = m + 1 := ⟨n - 1, by omega⟩
        have em : init.length = m := by omega
        have hc : wr.cell? ⟨g, m, none⟩ = some (.string (strOf last)) := hc0
        have hfz : wr.frozen? ⟨g, m, none⟩ = false := ho.out.frozenAt m
        have hll : last.length ≤ 1048576 := by
          have h1 := split_size c (s.data.toList.take i) last (by rw [e1]; simp)
          have h2 := List.length_take_le i s.data.toList
          omega
        have hsz : ¬ 9223372036854775807 < (strOf last).size + (strOf [b]).size := by
          rw [strOf_size, strOf_size]
          simp
          omega
        have hex : s.extract i (i + 1) = strOf [b] := by rw [hb0]; exact extract_one s i hlt
        have hsl : ∀ w, (Instr.sliceAt 9 (.string s) (some (.int .i64 (i : Int))) (some (.int .i64 ((i : Int) + 1))) none).run Tryd.prog w = .ok (.string (strOf [b])) w := fun w => by
          rw [run_sliceAt_string (h := Tryd.underlying9), run_slice_string_if (h := Tryd.underlying9), if_pos (by omega), if_pos (by omega), ← hex]
          congr 3
        have hap : strOf last ++ strOf [b] = strOf (last ++ [b]) := (strOf_append last [b]).symm
        have hcd : wr.drew.cell? ⟨g, m, none⟩ = some (.string (strOf last)) := hc
        have hfd : wr.drew.frozen? ⟨g, m, none⟩ = false := hfz
        have R := ho.out.drew.stored m (.string (strOf (last ++ [b])))
        rw [e1, ← em, set_last, ← e2, em] at R
        have R1 := Lib.hid R.1
        have R2 := Lib.hid ((show Below w.heap.size w wr.drew from ⟨hb.out.os, hb.out.tape, hb.out.output, hb.out.size, hb.out.block⟩).setCell (p := ⟨g, m, none⟩) hg (.string (strOf (last ++ [b]))))
        have R3 := Lib.hid (show (splitC c (s.data.toList.take (i + 1))).length = m + 1 by rw [e2, List.length_append, em]; rfl)
        have p1 : IntKind.i64.wrap (m : Int) = m := by rw [IntKind.wrap_i64]; omega
        have p2 : IntKind.i64.wrap ((i : Int) + 1) = (i : Int) + 1 := by rw [IntKind.wrap_i64]; omega
        have p3 : (m : Int) < (m : Int) + 1 := by omega
        clear R e1 e2 et hbc hb0 hlen2 em hc0 ho hex hll
        go_wp2
        go_still_tail 17, (by kernel_rfl)
        change wpList _ _ _ _ _ wr.drew
        clear hc hfz hsl hxa
        generalize wr.drew = w2 at *
        go_wp2
        go_roundw
        case rel => exact ⟨i + 1, m + 1, by omega, by go_num, by omega, by omega, R3, R1, R2⟩
        case measure => simp [intOf]; omega
    · obtain rfl : i = s.size := by omega
      have hltI : ¬ (s.size : Int) < (s.size : Int) := by omega
      have et : s.data.toList.take s.size = s.data.toList := List.take_of_length_le (by simp)
      have hl := hlen.out
      have ho2 := ho.out
      rw [et] at hl ho2
      obtain ⟨A, k, rfl⟩ := own_form ho2
      obtain ⟨g, rfl⟩ : ∃ g, A = some ⟨g, 0, none⟩ := by
        rcases ho2.2 with ⟨_, h2⟩ | ⟨g, cap, cur, hv, _⟩
        · omega
        · injection hv with hA
          exact ⟨g, hA⟩
      have F := Lib.hid (show PartsOut (splitC c s.data.toList) w (.returned (.slice (some ⟨g, 0, none⟩) n k)) wr from ⟨g, k, by rw [hl], (ho2.lt g rfl).1, fun j p hp => by
        rw [ho2.cellAt j (by have := (List.getElem?_eq_some_iff.1 hp).1; omega)]
        exact strsOf_get _ _ _ hp, hb.out⟩)
      clear et hl ho2
      go_wp2
      go_ret
      exact F.out
end Go.Proofs.YtckakpcjbndijabDoor
namespace Go.Proofs.YtckakpcjbndijabDoor
open Go.RowKit

set_option maxRecDepth 100000 in
set_option maxHeartbeats 1000000 in
theorem specRead_long (s : ByteArray) (w : World) (hs : s.size ≤ 1048576) (h : 39 < s.size) : Calls Tryd.prog 12 #[.string s] w (ReadOut (rdA s.data.toList) w) := by
  have HN := Lib.hid (read_long (s := s.data.toList) h)
  have hI : (39 : Int) < (s.size : Int) := by omega
  clear h
  go_enter Tryd.func12, Tryd.ntmps12
  go_wp2
  go_returns
  exact readOut_no HN.out (by go_grown)

set_option maxRecDepth 100000 in
/-- The parts by their numbers. -/
theorem groupC (c : UInt8) (s : ByteArray) (hs : s.size ≤ 39) (ps : List (List UInt8)) (N : Nat) (C : Int) (hps : splitC c s.data.toList = ps) (hN : ps.length = N) (hC : (c.toNat : Int) = C) (v : World) :
    Calls Tryd.prog 35 #[.string s, .int .u8 C] v fun e w' => ∃ g k, e = .returned (.slice (some ⟨g, 0, none⟩) N k) ∧ v.heap.size ≤ g ∧ (∀ (j : Nat) (p : List UInt8), ps[j]? = some p → w'.cell? ⟨g, j, none⟩ = some (.string (strOf p))) ∧ Below v.heap.size v w' := by
  subst hps hN hC
  exact specGroup c s v (by omega)

set_option maxRecDepth 100000 in
set_option maxHeartbeats 1000000 in
theorem specRead_none (s : ByteArray) (w : World) (hs : s.size ≤ 39) (h4 : ¬ (splitC 46 s.data.toList).length = 4) (h8 : ¬ (splitC 58 s.data.toList).length = 8) : Calls Tryd.prog 12 #[.string s] w (ReadOut (rdA s.data.toList) w) := by
  have HN := Lib.hid (read_none h4 h8)
  obtain ⟨ps, hps⟩ : ∃ ps, splitC 46 s.data.toList = ps := ⟨_, rfl⟩
  obtain ⟨qs, hqs⟩ : ∃ qs, splitC 58 s.data.toList = qs := ⟨_, rfl⟩
  obtain ⟨N, hN⟩ : ∃ N, ps.length = N := ⟨_, rfl⟩
  obtain ⟨M, hM⟩ : ∃ M, qs.length = M := ⟨_, rfl⟩
  have G4 := Lib.hid (groupC 46 s hs ps N 46 hps hN rfl)
  have G6 := Lib.hid (groupC 58 s hs qs M 58 hqs hM rfl)
  rw [hps, hN] at h4
  rw [hqs, hM] at h8
  have e4 : ((N : Int) == 4) = false := by simp; omega
  have e8 : ((M : Int) == 8) = false := by simp; omega
  have hI : ¬ (39 : Int) < (s.size : Int) := by omega
  clear h4 h8 hps hqs hN hM
  go_enter Tryd.func12, Tryd.ntmps12
  go_wp2_with fail
  refine (G4.out _).mono ?_
  rintro e w1 ⟨g4, k4, rfl, _, _, b1⟩
  go_wp2_with fail
  refine (G6.out _).mono ?_
  rintro e w2 ⟨g6, k6, rfl, _, _, b2⟩
  have q2 := Lib.hid (row_on b2 (row_lt (row_on b1 (g := w.heap.size) (by simp; omega) (heap_alloc2_old w _ _))) (row_on b1 (g := w.heap.size) (by simp; omega) (heap_alloc2_old w _ _)))
  have B2 := Lib.hid (bthen (bthen (Joins.below_alloc2 w _ _) b1) b2)
  have ao := Lib.hid (show Calls Tryd.prog 38 #[.slice (some ⟨w.heap.size + 1, 0, none⟩) 0 0] w2 fun e w' => e = .returned (.tuple #[.agg #[.int .i64 0, .int .i64 0, .int .i64 0, .int .i64 0, .int .i64 0], .bool false]) ∧ Below w2.heap.size w2 w' from specAddrOf (some ⟨w.heap.size + 1, 0, none⟩) 0 0 [] w2 (RB.nil_ _ _ _) rfl (by omega))
  clear b1 b2
  go_wp2_with fail
  refine ao.out.mono ?_
  rintro e w3 ⟨rfl, b3⟩
  have q3 := row_on b3 (row_lt q2.out) q2.out
  have q4 := Lib.hid (row_on (Joins.below_alloc1 w3 (.cells #[.int .i64 0, .int .i64 0, .int .i64 0, .int .i64 0, .int .i64 0] 25)) (row_lt q3) q3)
  obtain ⟨⟨c0, c1, c2, c3, c4⟩, f0, f1, f2, f3, f4⟩ := row5 q4.out
  have B3 := bthen B2.out b3
  have B4 := B3.alloc B3.size (.cells #[.int .i64 0, .int .i64 0, .int .i64 0, .int .i64 0, .int .i64 0] 25)
  clear q3 B3 b3
  go_wp2
  (try simp only [Exit.inBlock, Exit.then])
  refine bodyPost_ret (v := .tuple #[.agg #[.int .i64 0, .int .i64 0, .int .i64 0, .int .i64 0, .int .i64 0], .bool false]) ?_ rfl (readOut_no HN.out (((((B4.setCell (p := ⟨w.heap.size, 0, none⟩) (Nat.le_refl _) _).setCell (p := ⟨w.heap.size, 1, none⟩) (Nat.le_refl _) _).setCell (p := ⟨w.heap.size, 2, none⟩) (Nat.le_refl _) _).setCell (p := ⟨w.heap.size, 3, none⟩) (Nat.le_refl _) _).setCell (p := ⟨w.heap.size, 4, none⟩) (Nat.le_refl _) _))
  refine res_cell_tmp Tryd.results12 _ _ _ w.heap.size _ ?_ (run_loadVar_row _ _ 25 25 _ (0, 0) _ (set5 _ _ _ _ _ q4.out) Tryd.underlying25 rfl info_addr)
  rfl
end Go.Proofs.YtckakpcjbndijabDoor
namespace Go.Proofs.YtckakpcjbndijabDoor
open Go.RowKit

set_option maxRecDepth 100000 in
theorem below5 {w a : World} {g : Nat} {v0 v1 v2 v3 v4 : Value} (h : Below w.heap.size w a) (hg : w.heap.size ≤ g) : Below w.heap.size w (((((a.setCell ⟨g, 0, none⟩ v0).setCell ⟨g, 1, none⟩ v1).setCell ⟨g, 2, none⟩ v2).setCell ⟨g, 3, none⟩ v3).setCell ⟨g, 4, none⟩ v4) :=
  ((((h.setCell (p := ⟨g, 0, none⟩) hg _).setCell (p := ⟨g, 1, none⟩) hg _).setCell (p := ⟨g, 2, none⟩) hg _).setCell (p := ⟨g, 3, none⟩) hg _).setCell (p := ⟨g, 4, none⟩) hg _
set_option maxRecDepth 100000 in
theorem valC (B : Nat) (p : List UInt8) (V C : Int) (hpl : p.length ≤ 1048576) (hB : B ≤ 16) (hB1 : 1 ≤ B) (hV : vB B p = V) (hC : (B : Int) = C) (v : World) : Calls Tryd.prog 36 #[.string (strOf p), .int .i64 C] v fun e w' => e = .returned (.int .i64 V) ∧ Below v.heap.size v w' := by
  subst hV hC
  exact specValue B (strOf p) v (by rw [strOf_size]; exact hpl) hB hB1

set_option maxRecDepth 100000 in
set_option maxHeartbeats 4000000 in
theorem specRead_four (s : ByteArray) (w : World) (hs : s.size ≤ 39) (h4 : (splitC 46 s.data.toList).length = 4) : Calls Tryd.prog 12 #[.string s] w (ReadOut (rdA s.data.toList) w) := by
  have HB := Lib.hid (fun (i : Nat) (p : List UInt8) (hp : (splitC 46 s.data.toList)[i]? = some p) (h : vB 10 p < 0 ∨ 255 < vB 10 p) => read_bad4 h4 hp h)
  have HE := Lib.hid (read_end4 h4)
  have H1 := Lib.hid (fun (h : ∀ p ∈ splitC 46 s.data.toList, 0 ≤ vB 10 p) => read_four_one h)
  have hsz := fun (p : List UInt8) (hp : p ∈ splitC 46 s.data.toList) => split_size 46 s.data.toList p hp
  obtain ⟨ps, hps⟩ : ∃ ps, splitC 46 s.data.toList = ps := ⟨_, rfl⟩
  obtain ⟨qs, hqs⟩ : ∃ qs, splitC 58 s.data.toList = qs := ⟨_, rfl⟩
  obtain ⟨M, hM⟩ : ∃ M, qs.length = M := ⟨_, rfl⟩
  rw [hps] at HB HE H1 hsz h4
  rw [hqs, hM] at H1
  have G4 := Lib.hid (groupC 46 s hs ps 4 46 hps h4 rfl)
  have G6 := Lib.hid (groupC 58 s hs qs M 58 hqs hM rfl)
  have HSZ := Lib.hid (show ∀ p ∈ ps, p.length ≤ 1048576 from fun p hp => Nat.le_trans (hsz p hp) (show s.size ≤ 1048576 by omega))
  have H4 := Lib.hid h4
  obtain ⟨R, hR⟩ : ∃ R, R = rdA s.data.toList := ⟨_, rfl⟩
  rw [← hR] at HB HE ⊢
  have hI : ¬ (39 : Int) < (s.size : Int) := by omega
  clear h4 hps hqs hM hsz hR
  go_enter Tryd.func12, Tryd.ntmps12
  go_wp2_with fail
  refine (G4.out _).mono ?_
  rintro e w1 ⟨g4, k4, rfl, hg4, hc4, b1⟩
  go_wp2_with fail
  refine (G6.out _).mono ?_
  rintro e w2 ⟨g6, k6, rfl, _, _, b2⟩
  have q1 := row_on b1 (g := w.heap.size) (by simp; omega) (heap_alloc2_old w _ _)
  have NR := Lib.hid (row_on b2 (row_lt q1) q1)
  have B2 := Lib.hid (bthen (bthen (Joins.below_alloc2 w _ _) b1) b2)
  have O0 := Lib.hid (own_below (own_below (World.ownsRow_lit (e := 5) (size := 1) (base := w.heap.size + 1) (w.alloc (.cells #[.int .i64 0, .int .i64 0, .int .i64 0, .int .i64 0, .int .i64 0] 25)) #[] 0 (by simp) (Nat.zero_le _) rfl) b1) b2)
  have HC := Lib.hid (show ∀ (j : Nat) (p : List UInt8), ps[j]? = some p → w2.cell? ⟨g4, j, none⟩ = some (.string (strOf p)) from fun j p hp => cell_on b2 (hc4 j p hp))
  have hgl : w.heap.size + 1 < g4 := by simp at hg4; omega
  have hgh : g4 < w2.heap.size := by
    obtain ⟨p, hp⟩ : ∃ p, ps[0]? = some p := ⟨_, List.getElem?_eq_getElem (by rw [H4.out]; omega)⟩
    exact World.block_lt_of_cell? _ _ (HC.out 0 p hp)
  have HGL := Lib.hid hgl
  have HGH := Lib.hid hgh
  rw [show (w.alloc (.cells #[.int .i64 0, .int .i64 0, .int .i64 0, .int .i64 0, .int .i64 0] 25)).heap.size = w.heap.size + 1 by simp] at O0
  clear hg4 hc4 b1 b2 q1 hgl hgh
  go_wp2_with fail
  go_loopw [4, 7] (fun v q wr => ∃ i : Nat, i ≤ 4 ∧ q = .int .i64 i ∧ Hid (∀ p ∈ ps.take i, 0 ≤ vB 10 p ∧ vB 10 p ≤ 255) ∧ Hid (wr.ownsRow (w.heap.size + 1) 5 1 v ((ps.take i).map byteV).length (cellsOf ((ps.take i).map byteV))) ∧
      Hid (∀ u, v.ownBlock = some u → u = w.heap.size + 1 ∨ w2.heap.size ≤ u) ∧ Hid (∀ (j : Nat) (p : List UInt8), ps[j]? = some p → wr.cell? ⟨g4, j, none⟩ = some (.string (strOf p))) ∧ Hid (Below (w.heap.size + 1) w2 wr)) (fun _ q _ => 4 - (intOf q).toNat)
  case atStart => exact ⟨0, Nat.zero_le _, rfl, Lib.hid (by simp), O0, Lib.hid (fun u hu => .inl (by simpa [Value.ownBlock] using hu.symm)), HC, Lib.hid (Below.refl _ _)⟩
  case round =>
    obtain ⟨i, hi, rfl, ha, ho, hob, hcs, hb⟩ := hrel
    by_cases hlt : i < 4
    · have hltI : (i : Int) < 4 := by omega
      have hil : i < ps.length := by rw [H4.out]; exact hlt
      obtain ⟨p, hp⟩ : ∃ p, ps[i]? = some p := ⟨_, List.getElem?_eq_getElem hil⟩
      have hc : wr.cell? ⟨g4, i, none⟩ = some (.string (strOf p)) := hcs.out i p hp
      have hpl := HSZ.out p (List.mem_of_getElem? hp)
      obtain ⟨V, hV⟩ : ∃ V, vB 10 p = V := ⟨_, rfl⟩
      have nc := Lib.hid (valC 10 p V 10 hpl (by omega) (by omega) hV rfl)
      have hrow := Lib.hid (row_on hb.out (Nat.lt_succ_self _) NR.out)
      have B3 := Lib.hid (B2.out.trans (hb.out.mono (Nat.le_succ _)))
      by_cases hV0 : V < 0
      · have HN := Lib.hid (HB.out i p hp (.inl (by rw [hV]; exact hV0)))
        clear hp hpl hV
        go_wp2_with fail
        refine (nc.out _).mono ?_
        rintro e w3 ⟨rfl, b3⟩
        have hrow3 := row_on b3 (row_lt hrow.out) hrow.out
        obtain ⟨⟨c0, c1, c2, c3, c4⟩, f0, f1, f2, f3, f4⟩ := row5 hrow3
        have B4 := Lib.hid (bthen B3.out b3)
        go_wp2
        (try simp only [Exit.inBlock, Exit.then])
        refine bodyPost_ret (v := .tuple #[.agg #[.int .i64 0, .int .i64 0, .int .i64 0, .int .i64 0, .int .i64 0], .bool false]) ?_ rfl (readOut_no HN.out (below5 B4.out (Nat.le_refl _)))
        refine res_cell_tmp Tryd.results12 _ _ _ w.heap.size _ ?_ (run_loadVar_row _ _ 25 25 _ (0, 0) _ (set5 _ _ _ _ _ hrow3) Tryd.underlying25 rfl info_addr)
        rfl
      · by_cases hV1 : 255 < V
        · have HN := Lib.hid (HB.out i p hp (.inr (by rw [hV]; exact hV1)))
          have hVb : V ≤ 65536 := by
            have h5 : vB 10 p ≤ 65536 := by
              unfold vB
              split
              · rename_i hc
                have h6 := valB_lt 10 (by omega) p (fun b hb => by simpa using List.all_eq_true.1 hc.2.2 b hb)
                have h7 := Nat.pow_le_pow_right (show 0 < 16 by omega) hc.2.1
                omega
              · omega
            omega
          clear hp hpl hV
          go_wp2_with fail
          refine (nc.out _).mono ?_
          rintro e w3 ⟨rfl, b3⟩
          have hrow3 := row_on b3 (row_lt hrow.out) hrow.out
          obtain ⟨⟨c0, c1, c2, c3, c4⟩, f0, f1, f2, f3, f4⟩ := row5 hrow3
          have B4 := Lib.hid (bthen B3.out b3)
          go_wp2
          (try simp only [Exit.inBlock, Exit.then])
          refine bodyPost_ret (v := .tuple #[.agg #[.int .i64 0, .int .i64 0, .int .i64 0, .int .i64 0, .int .i64 0], .bool false]) ?_ rfl (readOut_no HN.out (below5 B4.out (Nat.le_refl _)))
          refine res_cell_tmp Tryd.results12 _ _ _ w.heap.size _ ?_ (run_loadVar_row _ _ 25 25 _ (0, 0) _ (set5 _ _ _ _ _ hrow3) Tryd.underlying25 rfl info_addr)
          rfl
        · obtain ⟨b, hb0⟩ : ∃ b, b = byteV p := ⟨_, rfl⟩
          obtain rfl : V = (b.toNat : Int) := by
            rw [hb0, byteV, hV]
            simp
            omega
          have hb256 := UInt8.toNat_lt b
          have E := Lib.hid (show (ps.take (i + 1)).map byteV = (ps.take i).map byteV ++ [b] by
            rw [List.getElem?_eq_getElem hil] at hp
            rw [take_snoc ps i hil, List.map_append, List.map_singleton, hb0, Option.some.inj hp])
          have ha2 := Lib.hid (show ∀ q ∈ ps.take (i + 1), 0 ≤ vB 10 q ∧ vB 10 q ≤ 255 by
            intro q hq
            rw [take_snoc ps i hil] at hq
            rcases List.mem_append.1 hq with h | h
            · exact ha.out q h
            · rw [List.getElem?_eq_getElem hil] at hp
              rw [List.mem_singleton.1 h, Option.some.inj hp, hV]
              omega)
          have hlen := Lib.hid (show ((ps.take i).map byteV).length ≤ 4 by rw [List.length_map, List.length_take]; omega)
          obtain ⟨bs, hbs⟩ : ∃ bs, bs = (ps.take i).map byteV := ⟨_, rfl⟩
          rw [← hbs] at ho E hlen
          clear hp hpl hV hb0 hbs
          go_wp2_with fail
          refine (nc.out _).mono ?_
          rintro e w3 ⟨rfl, b3⟩
          have HLO := Lib.hid (fun u (hu : u4.ownBlock = some u) => (ho.out.lt u hu).1)
          have o3 := Lib.hid (own_below (own_below ho.out b3) (Joins.below_alloc1 w3 (.cells #[.int .u8 (b.toNat : Int)] 5)))
          have c3 := Lib.hid (show ∀ (j : Nat) (p : List UInt8), ps[j]? = some p → (w3.alloc (.cells #[.int .u8 (b.toNat : Int)] 5)).cell? ⟨g4, j, none⟩ = some (.string (strOf p)) from fun j p hp => cell_on (Joins.below_alloc1 w3 _) (cell_on b3 (hcs.out j p hp)))
          have hz := hb.out.size
          have hz2 := B2.out.size
          have hz3 := b3.size
          have hzz : w.heap.size + 1 ≤ w2.heap.size := by have := HGL.out; have := HGH.out; omega
          have B4 := Lib.hid ((hb.out.trans (b3.mono (by omega))).alloc (by omega) (.cells #[.int .u8 (b.toNat : Int)] 5))
          clear b3 hc
          go_wp2_with (at_builtin; refine wpList_append_b rfl (.tmp 41) (.tmp 44) rfl (w.heap.size + 1) u4 bs rfl o3.out _ (some ⟨w3.heap.size, 0, none⟩) 1 1 [b] rfl rfl (RB.new w3 5 [b]) (by have := hlen.out; simp; omega) (by simp; omega) ?_; intro v5 w5 o5 g5 at5)
          have R1 := Lib.hid (show w5.ownsRow (w.heap.size + 1) 5 1 v5 ((ps.take (i + 1)).map byteV).length (cellsOf ((ps.take (i + 1)).map byteV)) by rw [E.out]; exact o5)
          have R2 := Lib.hid (show Below (w.heap.size + 1) w2 w5 from B4.out.grown g5 (by simp; omega) HLO.out)
          have R3 := Lib.hid (show ∀ u, v5.ownBlock = some u → u = w.heap.size + 1 ∨ w2.heap.size ≤ u from fun u hu => by
            rcases at5 with h | h
            · exact hob.out u (by rw [← h]; exact hu)
            · rw [h] at hu
              have := Option.some.inj hu
              simp at this
              omega)
          have R4 := Lib.hid (show ∀ (j : Nat) (p : List UInt8), ps[j]? = some p → w5.cell? ⟨g4, j, none⟩ = some (.string (strOf p)) from fun j p hp => g5.cell (c3.out j p hp) (fun e => by
            have h1 := hob.out g4 e.symm
            have := HGL.out
            have := HGH.out
            omega))
          go_wp2
          go_roundw
          case rel => exact ⟨i + 1, by omega, by go_num, ha2, R1, R3, R4, R2⟩
          case measure => simp [intOf]; omega
    · obtain rfl : i = 4 := by omega
      have e4 : ps.take 4 = ps := List.take_of_length_le (by rw [H4.out]; exact Nat.le_refl _)
      have hM1 : M = 1 := H1.out (fun p hp => by have := ha.out p (by rw [e4]; exact hp); omega)
      have eM : ((M : Int) == 8) = false := by rw [hM1]; rfl
      have o4 := ho.out
      rw [e4] at o4
      obtain ⟨bs, hbs⟩ : ∃ bs, bs = ps.map byteV := ⟨_, rfl⟩
      have hbl : bs.length = 4 := by rw [hbs, List.length_map, H4.out]
      rw [← hbs, hbl] at o4
      have HY := HE
      rw [← hbs] at HY
      clear hM1
      obtain ⟨A, k, rfl⟩ := own_form o4
      have ao := Lib.hid (show Calls Tryd.prog 38 #[.slice A 4 k] wr fun e w' => e = .returned (.tuple #[.agg #[.int .i64 (ofA bs).k, .int .i64 (ofA bs).a, .int .i64 (ofA bs).b, .int .i64 (ofA bs).c, .int .i64 (ofA bs).d], .bool true]) ∧ Below wr.heap.size wr w' by
        have hh := specAddrOf A 4 k bs wr (RB.of_own o4) hbl (by omega)
        unfold OfOut at hh
        rwa [show okA bs = true by simp [okA, hbl]] at hh)
      have hrow := Lib.hid (row_on hb.out (Nat.lt_succ_self _) NR.out)
      have B3 := Lib.hid (B2.out.trans (hb.out.mono (Nat.le_succ _)))
      obtain ⟨y, hy⟩ : ∃ y, y = ofA bs := ⟨_, rfl⟩
      rw [← hy] at ao HY
      obtain ⟨T, hT⟩ : ∃ T, T = y.text := ⟨_, rfl⟩
      have tx := Lib.hid (show ∀ v : World, Calls Tryd.prog 9 #[.agg #[.int .i64 y.k, .int .i64 y.a, .int .i64 y.b, .int .i64 y.c, .int .i64 y.d]] v fun e w' => e = .returned (.string (strOf T)) ∧ Below v.heap.size v w' from fun v => by
        rw [hT]
        exact specAddrText y v)
      rw [← hT] at HY
      clear e4 o4 hbs hbl hy hT
      go_wp2_with fail
      refine ao.out.mono ?_
      rintro e w5 ⟨rfl, b5⟩
      have q5 := row_on b5 (row_lt hrow.out) hrow.out
      have B5 := Lib.hid (bthen B3.out b5)
      have q6 := Lib.hid (row_on (Joins.below_alloc1 w5 (.cells #[.int .i64 y.k, .int .i64 y.a, .int .i64 y.b, .int .i64 y.c, .int .i64 y.d] 25)) (row_lt q5) q5)
      clear q5 b5
      go_wp2_with fail
      refine (tx.out _).mono ?_
      rintro e w6 ⟨rfl, b6⟩
      obtain ⟨d0, d1, d2, d3, d4⟩ := ad_box b6
      have q7 := Lib.hid (row_on b6 (row_lt q6.out) q6.out)
      obtain ⟨⟨c0, c1, c2, c3, c4⟩, f0, f1, f2, f3, f4⟩ := row5 q7.out
      have B7 := Lib.hid (bthen (bthen B5.out (Joins.below_alloc1 w5 _)) b6)
      clear b6
      by_cases ht : T = s.data.toList
      · have he : strOf T = s := by rw [ht]; exact strOf_toList s
        have HR := Lib.hid (show R = some y by rw [HY.out, if_pos ht])
        rw [he]
        clear ht he HY
        go_wp2
        (try simp only [Exit.inBlock, Exit.then])
        refine bodyPost_ret (v := .tuple #[.agg #[.int .i64 y.k, .int .i64 y.a, .int .i64 y.b, .int .i64 y.c, .int .i64 y.d], .bool true]) ?_ rfl (readOut_yes HR.out (below5 B7.out (Nat.le_refl _)))
        refine res_cell_tmp Tryd.results12 _ _ _ w.heap.size _ ?_ (run_loadVar_row _ _ 25 25 _ (0, 0) _ (set5 _ _ _ _ _ q7.out) Tryd.underlying25 rfl info_addr)
        rfl
      · have hne : (!(strOf T).toList == s.toList) = true := by
          simp only [Bool.not_eq_true', beq_eq_false_iff_ne, ne_eq]
          rw [ByteArray.toList_eq, ByteArray.toList_eq]
          exact ht
        have HR := Lib.hid (show R = none by rw [HY.out, if_neg ht])
        clear ht HY
        go_wp2
        (try simp only [Exit.inBlock, Exit.then])
        refine bodyPost_ret (v := .tuple #[.agg #[.int .i64 0, .int .i64 0, .int .i64 0, .int .i64 0, .int .i64 0], .bool false]) ?_ rfl (readOut_no HR.out (below5 B7.out (Nat.le_refl _)))
        refine res_cell_tmp Tryd.results12 _ _ _ w.heap.size _ ?_ (run_loadVar_row _ _ 25 25 _ (0, 0) _ (set5 _ _ _ _ _ q7.out) Tryd.underlying25 rfl info_addr)
        rfl
end Go.Proofs.YtckakpcjbndijabDoor
namespace Go.Proofs.YtckakpcjbndijabDoor
open Go.RowKit

def sixV (ps : List (List UInt8)) : List UInt8 := (ps.map natV).flatMap put16N
set_option maxRecDepth 100000 in
theorem sixV_length (ps : List (List UInt8)) : (sixV ps).length = 2 * ps.length := by rw [sixV, put16_len, List.length_map]

set_option maxRecDepth 100000 in
set_option maxHeartbeats 4000000 in
theorem specRead_six (s : ByteArray) (w : World) (hs : s.size ≤ 39) (h4 : ¬ (splitC 46 s.data.toList).length = 4) (h8 : (splitC 58 s.data.toList).length = 8) : Calls Tryd.prog 12 #[.string s] w (ReadOut (rdA s.data.toList) w) := by
  have HB := Lib.hid (fun (i : Nat) (p : List UInt8) (hp : (splitC 58 s.data.toList)[i]? = some p) (h : vB 16 p < 0) => read_bad6 h8 hp h)
  have HE := Lib.hid (read_end6 h8)
  have hsz := fun (p : List UInt8) (hp : p ∈ splitC 58 s.data.toList) => split_size 58 s.data.toList p hp
  obtain ⟨ps, hps⟩ : ∃ ps, splitC 58 s.data.toList = ps := ⟨_, rfl⟩
  obtain ⟨qs, hqs⟩ : ∃ qs, splitC 46 s.data.toList = qs := ⟨_, rfl⟩
  obtain ⟨M, hM⟩ : ∃ M, qs.length = M := ⟨_, rfl⟩
  rw [hps] at HB HE hsz h8
  rw [hqs, hM] at h4
  have eM : ((M : Int) == 4) = false := by simp; omega
  have G4 := Lib.hid (groupC 46 s hs qs M 46 hqs hM rfl)
  have G6 := Lib.hid (groupC 58 s hs ps 8 58 hps h8 rfl)
  have HSZ := Lib.hid (show ∀ p ∈ ps, p.length ≤ 1048576 from fun p hp => Nat.le_trans (hsz p hp) (show s.size ≤ 1048576 by omega))
  have H8 := Lib.hid h8
  obtain ⟨R, hR⟩ : ∃ R, R = rdA s.data.toList := ⟨_, rfl⟩
  rw [← hR] at HB HE ⊢
  have hI : ¬ (39 : Int) < (s.size : Int) := by omega
  clear h4 h8 hps hqs hM hsz hR
  go_enter Tryd.func12, Tryd.ntmps12
  go_wp2_with fail
  refine (G4.out _).mono ?_
  rintro e w1 ⟨g4, k4, rfl, _, _, b1⟩
  go_wp2_with fail
  refine (G6.out _).mono ?_
  rintro e w2 ⟨g6, k6, rfl, hg6, hc6, b2⟩
  have q1 := row_on b1 (g := w.heap.size) (by simp; omega) (heap_alloc2_old w _ _)
  have NR := Lib.hid (row_on b2 (row_lt q1) q1)
  have B2 := Lib.hid (bthen (bthen (Joins.below_alloc2 w _ _) b1) b2)
  have O0 := Lib.hid (own_below (own_below (World.ownsRow_lit (e := 5) (size := 1) (base := w.heap.size + 1) (w.alloc (.cells #[.int .i64 0, .int .i64 0, .int .i64 0, .int .i64 0, .int .i64 0] 25)) #[] 0 (by simp) (Nat.zero_le _) rfl) b1) b2)
  have HC := Lib.hid (show ∀ (j : Nat) (p : List UInt8), ps[j]? = some p → w2.cell? ⟨g6, j, none⟩ = some (.string (strOf p)) from hc6)
  have hgl : w.heap.size + 1 < g6 := by have := b1.size; simp at this; omega
  have hgh : g6 < w2.heap.size := by
    obtain ⟨p, hp⟩ : ∃ p, ps[0]? = some p := ⟨_, List.getElem?_eq_getElem (by rw [H8.out]; omega)⟩
    exact World.block_lt_of_cell? _ _ (HC.out 0 p hp)
  have HGL := Lib.hid hgl
  have HGH := Lib.hid hgh
  rw [show (w.alloc (.cells #[.int .i64 0, .int .i64 0, .int .i64 0, .int .i64 0, .int .i64 0] 25)).heap.size = w.heap.size + 1 by simp] at O0
  clear hg6 hc6 b1 b2 q1 hgl hgh
  go_wp2_with fail
  go_loopw [4, 9] (fun v q wr => ∃ i : Nat, i ≤ 8 ∧ q = .int .i64 i ∧ Hid (wr.ownsRow (w.heap.size + 1) 5 1 v (sixV (ps.take i)).length (cellsOf (sixV (ps.take i)))) ∧
      Hid (∀ u, v.ownBlock = some u → u = w.heap.size + 1 ∨ w2.heap.size ≤ u) ∧ Hid (∀ (j : Nat) (p : List UInt8), ps[j]? = some p → wr.cell? ⟨g6, j, none⟩ = some (.string (strOf p))) ∧ Hid (Below (w.heap.size + 1) w2 wr)) (fun _ q _ => 8 - (intOf q).toNat)
  case atStart => exact ⟨0, Nat.zero_le _, rfl, O0, Lib.hid (fun u hu => .inl (by simpa [Value.ownBlock] using hu.symm)), HC, Lib.hid (Below.refl _ _)⟩
  case round =>
    obtain ⟨i, hi, rfl, ho, hob, hcs, hb⟩ := hrel
    by_cases hlt : i < 8
    · have hltI : (i : Int) < 8 := by omega
      have hil : i < ps.length := by rw [H8.out]; exact hlt
      obtain ⟨p, hp⟩ : ∃ p, ps[i]? = some p := ⟨_, List.getElem?_eq_getElem hil⟩
      have hc : wr.cell? ⟨g6, i, none⟩ = some (.string (strOf p)) := hcs.out i p hp
      have hpl := HSZ.out p (List.mem_of_getElem? hp)
      obtain ⟨V, hV⟩ : ∃ V, vB 16 p = V := ⟨_, rfl⟩
      have nc := Lib.hid (valC 16 p V 16 hpl (by omega) (by omega) hV rfl)
      have hrow := Lib.hid (row_on hb.out (Nat.lt_succ_self _) NR.out)
      have B3 := Lib.hid (B2.out.trans (hb.out.mono (Nat.le_succ _)))
      by_cases hV0 : V < 0
      · have HN := Lib.hid (HB.out i p hp (by rw [hV]; exact hV0))
        clear hp hpl hV
        go_wp2_with fail
        refine (nc.out _).mono ?_
        rintro e w3 ⟨rfl, b3⟩
        have hrow3 := row_on b3 (row_lt hrow.out) hrow.out
        obtain ⟨⟨c0, c1, c2, c3, c4⟩, f0, f1, f2, f3, f4⟩ := row5 hrow3
        have B4 := Lib.hid (bthen B3.out b3)
        go_wp2
        (try simp only [Exit.inBlock, Exit.then])
        refine bodyPost_ret (v := .tuple #[.agg #[.int .i64 0, .int .i64 0, .int .i64 0, .int .i64 0, .int .i64 0], .bool false]) ?_ rfl (readOut_no HN.out (below5 B4.out (Nat.le_refl _)))
        refine res_cell_tmp Tryd.results12 _ _ _ w.heap.size _ ?_ (run_loadVar_row _ _ 25 25 _ (0, 0) _ (set5 _ _ _ _ _ hrow3) Tryd.underlying25 rfl info_addr)
        rfl
      · obtain ⟨n, rfl⟩ : ∃ n : Nat, V = (n : Int) := ⟨V.toNat, by omega⟩
        have E := Lib.hid (show sixV (ps.take (i + 1)) = sixV (ps.take i) ++ put16 (n : Int) by
          rw [List.getElem?_eq_getElem hil] at hp
          rw [take_snoc ps i hil, sixV, List.map_append, List.flatMap_append, Option.some.inj hp]
          simp [sixV, put16N, natV, hV])
        have hlen := Lib.hid (show (sixV (ps.take i)).length ≤ 16 by rw [sixV_length, List.length_take]; omega)
        obtain ⟨bs, hbs⟩ : ∃ bs, bs = sixV (ps.take i) := ⟨_, rfl⟩
        rw [← hbs] at ho E hlen
        clear hp hpl hV hbs
        go_wp2_with fail
        refine (nc.out _).mono ?_
        rintro e w3 ⟨rfl, b3⟩
        have HLO := Lib.hid (fun u (hu : u4.ownBlock = some u) => (ho.out.lt u hu).1)
        have o3 := Lib.hid (own_below ho.out b3)
        have c3 := Lib.hid (show ∀ (j : Nat) (p : List UInt8), ps[j]? = some p → w3.cell? ⟨g6, j, none⟩ = some (.string (strOf p)) from fun j p hp => cell_on b3 (hcs.out j p hp))
        have hz := hb.out.size
        have hz2 := B2.out.size
        have hz3 := b3.size
        have hzz : w.heap.size + 1 ≤ w2.heap.size := by have := HGL.out; have := HGH.out; omega
        have B4 := Lib.hid (hb.out.trans (b3.mono (by omega)))
        clear b3 hc
        go_wp2_with fail
        refine (specPut16 (n : Int) _).mono ?_
        rintro e w4 ⟨rfl, o4, b4⟩
        have o5 := Lib.hid (own_below o3.out b4)
        have r5 := Lib.hid (RB.of_own o4)
        have c5 := Lib.hid (show ∀ (j : Nat) (p : List UInt8), ps[j]? = some p → w4.cell? ⟨g6, j, none⟩ = some (.string (strOf p)) from fun j p hp => cell_on b4 (c3.out j p hp))
        have hz4 := b4.size
        have B5 := Lib.hid (B4.out.trans (b4.mono (by omega)))
        clear o4 b4
        go_wp2_with (at_builtin; refine wpList_append_b rfl (.tmp 61) (.tmp 63) rfl (w.heap.size + 1) u4 bs rfl o5.out _ (some ⟨w3.heap.size, 0, none⟩) 2 2 (put16 (n : Int)) rfl rfl r5.out (by have := hlen.out; simp [put16]; omega) (by omega) ?_; intro v6 w6 o6 g6' at6)
        have R1 := Lib.hid (show w6.ownsRow (w.heap.size + 1) 5 1 v6 (sixV (ps.take (i + 1))).length (cellsOf (sixV (ps.take (i + 1)))) by rw [E.out]; exact o6)
        have R2 := Lib.hid (show Below (w.heap.size + 1) w2 w6 from B5.out.grown g6' (by omega) HLO.out)
        have R3 := Lib.hid (show ∀ u, v6.ownBlock = some u → u = w.heap.size + 1 ∨ w2.heap.size ≤ u from fun u hu => by
          rcases at6 with h | h
          · exact hob.out u (by rw [← h]; exact hu)
          · rw [h] at hu
            have := Option.some.inj hu
            omega)
        have R4 := Lib.hid (show ∀ (j : Nat) (p : List UInt8), ps[j]? = some p → w6.cell? ⟨g6, j, none⟩ = some (.string (strOf p)) from fun j p hp => g6'.cell (c5.out j p hp) (fun e => by
          have h1 := hob.out g6 e.symm
          have := HGL.out
          have := HGH.out
          omega))
        go_wp2
        go_roundw
        case rel => exact ⟨i + 1, by omega, by go_num, R1, R3, R4, R2⟩
        case measure => simp [intOf]; omega
    · obtain rfl : i = 8 := by omega
      have e4 : ps.take 8 = ps := List.take_of_length_le (by rw [H8.out]; exact Nat.le_refl _)
      have o4 := ho.out
      rw [e4] at o4
      obtain ⟨bs, hbs⟩ : ∃ bs, bs = sixV ps := ⟨_, rfl⟩
      have hbl : bs.length = 16 := by rw [hbs, sixV_length, H8.out]
      rw [← hbs, hbl] at o4
      have HY := HE
      rw [show (ps.map natV).flatMap put16N = bs from hbs.symm] at HY
      obtain ⟨A, k, rfl⟩ := own_form o4
      have ao := Lib.hid (show Calls Tryd.prog 38 #[.slice A 16 k] wr fun e w' => e = .returned (.tuple #[.agg #[.int .i64 (ofA bs).k, .int .i64 (ofA bs).a, .int .i64 (ofA bs).b, .int .i64 (ofA bs).c, .int .i64 (ofA bs).d], .bool true]) ∧ Below wr.heap.size wr w' by
        have hh := specAddrOf A 16 k bs wr (RB.of_own o4) hbl (by omega)
        unfold OfOut at hh
        rwa [show okA bs = true by simp [okA, hbl]] at hh)
      have hrow := Lib.hid (row_on hb.out (Nat.lt_succ_self _) NR.out)
      have B3 := Lib.hid (B2.out.trans (hb.out.mono (Nat.le_succ _)))
      obtain ⟨y, hy⟩ : ∃ y, y = ofA bs := ⟨_, rfl⟩
      rw [← hy] at ao HY
      obtain ⟨T, hT⟩ : ∃ T, T = y.text := ⟨_, rfl⟩
      have tx := Lib.hid (show ∀ v : World, Calls Tryd.prog 9 #[.agg #[.int .i64 y.k, .int .i64 y.a, .int .i64 y.b, .int .i64 y.c, .int .i64 y.d]] v fun e w' => e = .returned (.string (strOf T)) ∧ Below v.heap.size v w' from fun v => by
        rw [hT]
        exact specAddrText y v)
      rw [← hT] at HY
      clear e4 o4 hbs hbl hy hT
      go_wp2_with fail
      refine ao.out.mono ?_
      rintro e w5 ⟨rfl, b5⟩
      have q5 := row_on b5 (row_lt hrow.out) hrow.out
      have B5 := Lib.hid (bthen B3.out b5)
      have q6 := Lib.hid (row_on (Joins.below_alloc1 w5 (.cells #[.int .i64 y.k, .int .i64 y.a, .int .i64 y.b, .int .i64 y.c, .int .i64 y.d] 25)) (row_lt q5) q5)
      clear q5 b5
      go_wp2_with fail
      refine (tx.out _).mono ?_
      rintro e w6 ⟨rfl, b6⟩
      obtain ⟨d0, d1, d2, d3, d4⟩ := ad_box b6
      have q7 := Lib.hid (row_on b6 (row_lt q6.out) q6.out)
      obtain ⟨⟨c0, c1, c2, c3, c4⟩, f0, f1, f2, f3, f4⟩ := row5 q7.out
      have B7 := Lib.hid (bthen (bthen B5.out (Joins.below_alloc1 w5 _)) b6)
      clear b6
      by_cases ht : T = s.data.toList
      · have he : strOf T = s := by rw [ht]; exact strOf_toList s
        have HR := Lib.hid (show R = some y by rw [HY.out, if_pos ht])
        rw [he]
        clear ht he HY
        go_wp2
        (try simp only [Exit.inBlock, Exit.then])
        refine bodyPost_ret (v := .tuple #[.agg #[.int .i64 y.k, .int .i64 y.a, .int .i64 y.b, .int .i64 y.c, .int .i64 y.d], .bool true]) ?_ rfl (readOut_yes HR.out (below5 B7.out (Nat.le_refl _)))
        refine res_cell_tmp Tryd.results12 _ _ _ w.heap.size _ ?_ (run_loadVar_row _ _ 25 25 _ (0, 0) _ (set5 _ _ _ _ _ q7.out) Tryd.underlying25 rfl info_addr)
        rfl
      · have hne : (!(strOf T).toList == s.toList) = true := by
          simp only [Bool.not_eq_true', beq_eq_false_iff_ne, ne_eq]
          rw [ByteArray.toList_eq, ByteArray.toList_eq]
          exact ht
        have HR := Lib.hid (show R = none by rw [HY.out, if_neg ht])
        clear ht HY
        go_wp2
        (try simp only [Exit.inBlock, Exit.then])
        refine bodyPost_ret (v := .tuple #[.agg #[.int .i64 0, .int .i64 0, .int .i64 0, .int .i64 0, .int .i64 0], .bool false]) ?_ rfl (readOut_no HR.out (below5 B7.out (Nat.le_refl _)))
        refine res_cell_tmp Tryd.results12 _ _ _ w.heap.size _ ?_ (run_loadVar_row _ _ 25 25 _ (0, 0) _ (set5 _ _ _ _ _ q7.out) Tryd.underlying25 rfl info_addr)
        rfl

set_option maxRecDepth 100000 in
theorem specAddrRead (s : ByteArray) (w : World) (hs : s.size ≤ 1048576) : Calls Tryd.prog 12 #[.string s] w (ReadOut (rdA s.data.toList) w) := by
  by_cases h : s.size ≤ 39
  · by_cases h4 : (splitC 46 s.data.toList).length = 4
    · exact specRead_four s w h h4
    · by_cases h8 : (splitC 58 s.data.toList).length = 8
      · exact specRead_six s w h h4 h8
      · exact specRead_none s w h h4 h8
  · exact specRead_long s w hs (by omega)
end Go.Proofs.YtckakpcjbndijabDoor
namespace Go.Proofs.YtckakpcjbndijabDoor
open Go.RowKit

set_option maxRecDepth 100000 in
theorem groupS (s : ByteArray) (hs : s.size ≤ 43) (ps : List (List UInt8)) (N : Nat) (hps : splitC 47 s.data.toList = ps) (hN : ps.length = N) (v : World) :
    Calls Tryd.prog 35 #[.string s, .int .u8 47] v fun e w' => ∃ g k, e = .returned (.slice (some ⟨g, 0, none⟩) N k) ∧ (∀ (j : Nat) (p : List UInt8), ps[j]? = some p → w'.cell? ⟨g, j, none⟩ = some (.string (strOf p))) ∧ Below v.heap.size v w' := by
  subst hps hN
  exact (specGroup 47 s v (by omega)).mono fun e w' ⟨g, k, h1, _, h3, h4⟩ => ⟨g, k, h1, h3, h4⟩

set_option maxRecDepth 100000 in
set_option maxHeartbeats 1000000 in
theorem specPRead_any (s : ByteArray) (w : World) (h : s.data.toList = [97, 110, 121]) : Calls Tryd.prog 18 #[.string s] w (PReadOut (rdP s.data.toList) w) := by
  have HN := Lib.hid (rdP_any h)
  have h2 : (s.toList == [97, 110, 121]) = true := by rw [ByteArray.toList_eq, h]; rfl
  clear h
  go_enter Tryd.func18, Tryd.ntmps18
  go_wp2
  go_returns
  exact preadOut_any HN.out (by go_grown)

set_option maxRecDepth 100000 in
theorem not_any {s : ByteArray} (h : ¬ s.data.toList = [97, 110, 121]) : (s.toList == [97, 110, 121]) = false := by
  simp only [beq_eq_false_iff_ne, ne_eq]
  rw [ByteArray.toList_eq]
  exact h

set_option maxRecDepth 100000 in
set_option maxHeartbeats 1000000 in
theorem specPRead_long (s : ByteArray) (w : World) (hs : s.size ≤ 1048576) (h : ¬ s.data.toList = [97, 110, 121]) (hl : 43 < s.size) : Calls Tryd.prog 18 #[.string s] w (PReadOut (rdP s.data.toList) w) := by
  have HN := Lib.hid (rdP_long h hl)
  have h2 := not_any h
  have h3 : (43 : Int) < (s.size : Int) := by omega
  clear h hl
  go_enter Tryd.func18, Tryd.ntmps18
  go_wp2
  go_returns
  exact preadOut_no HN.out (by go_grown)

set_option maxRecDepth 100000 in
set_option maxHeartbeats 1000000 in
theorem specPRead_parts (s : ByteArray) (w : World) (hl : s.size ≤ 43) (h : ¬ s.data.toList = [97, 110, 121]) (hp : ¬ (splitC 47 s.data.toList).length = 2) : Calls Tryd.prog 18 #[.string s] w (PReadOut (rdP s.data.toList) w) := by
  have HN := Lib.hid (rdP_parts h hp)
  have h2 := not_any h
  have h3 : ¬ (43 : Int) < (s.size : Int) := by omega
  obtain ⟨ps, hps⟩ : ∃ ps, splitC 47 s.data.toList = ps := ⟨_, rfl⟩
  obtain ⟨N, hN⟩ : ∃ N, ps.length = N := ⟨_, rfl⟩
  have G := Lib.hid (groupS s hl ps N hps hN)
  rw [hps, hN] at hp
  have h5 : ((N : Int) == 2) = false := by simp; omega
  have h6 : ((N : Int) != 2) = true := by simp; omega
  clear h hps hN hp
  go_enter Tryd.func18, Tryd.ntmps18
  go_wp2_with fail
  refine (G.out _).mono ?_
  rintro e w1 ⟨g, k, rfl, _, b1⟩
  have q1 := Lib.hid (new_row b1)
  obtain ⟨⟨d0, d1, d2, d3, d4, d5⟩, f0, f1, f2, f3, f4, f5⟩ := row6 q1.out
  have B1 := Lib.hid (bthen (Joins.below_alloc1 w _) b1)
  clear b1
  go_wp2
  (try simp only [Exit.inBlock, Exit.then])
  refine bodyPost_ret (v := .tuple #[.agg #[.int .i64 0, .int .i64 0, .int .i64 0, .int .i64 0, .int .i64 0, .int .i64 0], .bool false]) ?_ rfl (preadOut_no HN.out (below6 B1.out (Nat.le_refl _)))
  refine res_cell_tmp Tryd.results18 _ _ _ w.heap.size _ ?_ (run_loadVar_row _ _ 36 36 _ (0, 0) _ (set6 _ _ _ _ _ _ q1.out) Tryd.underlying36 rfl info_pfx)
  rfl

set_option maxRecDepth 100000 in
set_option maxHeartbeats 1000000 in
theorem specPRead_addr (s : ByteArray) (w : World) (hl : s.size ≤ 43) (h : ¬ s.data.toList = [97, 110, 121]) (h0 : (splitC 47 s.data.toList).length = 2) (h1 : (rdA (cutA s.data.toList)).isSome = false) (B : Bool) (h2 : okNum (cutR s.data.toList) = B) : Calls Tryd.prog 18 #[.string s] w (PReadOut (rdP s.data.toList) w) := by
  obtain ⟨A, hA⟩ : ∃ A, A = cutA s.data.toList := ⟨_, rfl⟩
  obtain ⟨Q, hQ⟩ : ∃ Q, Q = cutR s.data.toList := ⟨_, rfl⟩
  have hc := cut_size s.data.toList
  rw [← hA, ← hQ] at hc
  obtain ⟨p, hp⟩ : ∃ p, p = pfOf A Q := ⟨_, rfl⟩
  have hpb : (rdA A).getD Ad.zero = p.base := by rw [hp]; rfl
  have hpl : numR Q = p.len := by rw [hp]; rfl
  rw [← hA] at h1
  rw [← hQ] at h2
  have e0 := rdP_two h0
  rw [← hA, ← hQ] at e0
  have cu := groupS s hl [A, Q] 2 e0 rfl
  have hsl : s.data.toList.length = s.size := rfl
  have ar := fun v : World => specAddrRead (strOf A) v (by rw [strOf_size]; omega)
  unfold ReadOut at ar
  rw [strOf_data, h1, hpb] at ar
  have nr := fun v : World => specNumRead (strOf Q) v (by rw [strOf_size]; omega)
  unfold NumPost at nr
  rw [strOf_data, h2, hpl] at nr
  rw [rdP_else h, ← hA, ← hQ]
  have HN := Lib.hid (rdQ_no1 (r := Q) h1)
  have CU := Lib.hid cu
  have AR := Lib.hid ar
  have NR := Lib.hid nr
  have hlI : ¬ (43 : Int) < (s.size : Int) := by omega
  have hany : (s.toList == [97, 110, 121]) = false := by
    simp only [beq_eq_false_iff_ne, ne_eq]
    rw [ByteArray.toList_eq]
    exact h
  obtain ⟨R, hR⟩ : ∃ R, R = rdQ A Q := ⟨_, rfl⟩
  rw [← hR] at HN ⊢
  clear cu ar nr e0 h0 h hA hQ hc hp hpb hpl h1 h2 hR hsl 
  go_enter Tryd.func18, Tryd.ntmps18
  go_wp2_with fail
  refine (CU.out _).mono ?_
  rintro e w1 ⟨g, k, rfl, hcs, b1⟩
  have hc0 : w1.cell? ⟨g, 0, none⟩ = some (.string (strOf A)) := hcs 0 A rfl
  have HC1 := Lib.hid (hcs 1 Q rfl)
  have q1 := Lib.hid (new_row b1)
  have B1 := Lib.hid (bthen (Joins.below_alloc1 w _) b1)
  clear b1 hcs
  go_wp2_with fail
  refine (AR.out _).mono ?_
  rintro e w2 ⟨rfl, b2⟩
  have q2 := Lib.hid (row_on b2 (row_lt q1.out) q1.out)
  have B2 := Lib.hid (bthen B1.out b2)
  have hc1 : (w2.alloc (.cells #[.int .i64 p.base.k, .int .i64 p.base.a, .int .i64 p.base.b, .int .i64 p.base.c, .int .i64 p.base.d] 25)).cell? ⟨g, 1, none⟩ = some (.string (strOf Q)) := cell_on (Joins.below_alloc1 w2 _) (cell_on b2 HC1.out)
  clear b2 hc0
  go_wp2_with fail
  refine (NR.out _).mono ?_
  rintro e w3 ⟨rfl, b3⟩
  clear hc1
  obtain ⟨c0, c1, c2, c3, c4⟩ := ad_box b3
  have q3 := row_on b3 (row_lt (row_on (Joins.below_alloc1 w2 _) (row_lt q2.out) q2.out)) (row_on (Joins.below_alloc1 w2 _) (row_lt q2.out) q2.out)
  have q4 := Lib.hid (row_on (Joins.below_alloc1 w3 (.cells #[.int .i64 p.base.k, .int .i64 p.base.a, .int .i64 p.base.b, .int .i64 p.base.c, .int .i64 p.base.d, .int .i64 p.len] 36)) (row_lt q3) q3)
  have B4 := Lib.hid (bthen (bthen (bthen B2.out (Joins.below_alloc1 w2 _)) b3) (Joins.below_alloc1 w3 (.cells #[.int .i64 p.base.k, .int .i64 p.base.a, .int .i64 p.base.b, .int .i64 p.base.c, .int .i64 p.base.d, .int .i64 p.len] 36)))
  clear b3 q3
  obtain ⟨⟨d0, d1, d2, d3, d4, d5⟩, f0, f1, f2, f3, f4, f5⟩ := row6 q4.out
  go_wp2
  (try simp only [Exit.inBlock, Exit.then])
  refine bodyPost_ret (v := .tuple #[.agg #[.int .i64 0, .int .i64 0, .int .i64 0, .int .i64 0, .int .i64 0, .int .i64 0], .bool false]) ?_ rfl (preadOut_no HN.out (below6 B4.out (Nat.le_refl _)))
  refine res_cell_tmp Tryd.results18 _ _ _ w.heap.size _ ?_ (run_loadVar_row _ _ 36 36 _ (0, 0) _ (set6 _ _ _ _ _ _ q4.out) Tryd.underlying36 rfl info_pfx)
  rfl

set_option maxRecDepth 100000 in
set_option maxHeartbeats 1000000 in
theorem specPRead_num (s : ByteArray) (w : World) (hl : s.size ≤ 43) (h : ¬ s.data.toList = [97, 110, 121]) (h0 : (splitC 47 s.data.toList).length = 2) (h1 : (rdA (cutA s.data.toList)).isSome = true) (h2 : okNum (cutR s.data.toList) = false) : Calls Tryd.prog 18 #[.string s] w (PReadOut (rdP s.data.toList) w) := by
  obtain ⟨A, hA⟩ : ∃ A, A = cutA s.data.toList := ⟨_, rfl⟩
  obtain ⟨Q, hQ⟩ : ∃ Q, Q = cutR s.data.toList := ⟨_, rfl⟩
  have hc := cut_size s.data.toList
  rw [← hA, ← hQ] at hc
  obtain ⟨p, hp⟩ : ∃ p, p = pfOf A Q := ⟨_, rfl⟩
  have hpb : (rdA A).getD Ad.zero = p.base := by rw [hp]; rfl
  have hpl : numR Q = p.len := by rw [hp]; rfl
  rw [← hA] at h1
  rw [← hQ] at h2
  have e0 := rdP_two h0
  rw [← hA, ← hQ] at e0
  have cu := groupS s hl [A, Q] 2 e0 rfl
  have hsl : s.data.toList.length = s.size := rfl
  have ar := fun v : World => specAddrRead (strOf A) v (by rw [strOf_size]; omega)
  unfold ReadOut at ar
  rw [strOf_data, h1, hpb] at ar
  have nr := fun v : World => specNumRead (strOf Q) v (by rw [strOf_size]; omega)
  unfold NumPost at nr
  rw [strOf_data, h2, hpl] at nr
  rw [rdP_else h, ← hA, ← hQ]
  have HN := Lib.hid (rdQ_no2 (a := A) h2)
  have CU := Lib.hid cu
  have AR := Lib.hid ar
  have NR := Lib.hid nr
  have hlI : ¬ (43 : Int) < (s.size : Int) := by omega
  have hany : (s.toList == [97, 110, 121]) = false := by
    simp only [beq_eq_false_iff_ne, ne_eq]
    rw [ByteArray.toList_eq]
    exact h
  obtain ⟨R, hR⟩ : ∃ R, R = rdQ A Q := ⟨_, rfl⟩
  rw [← hR] at HN ⊢
  clear cu ar nr e0 h0 h hA hQ hc hp hpb hpl h1 h2 hR hsl 
  go_enter Tryd.func18, Tryd.ntmps18
  go_wp2_with fail
  refine (CU.out _).mono ?_
  rintro e w1 ⟨g, k, rfl, hcs, b1⟩
  have hc0 : w1.cell? ⟨g, 0, none⟩ = some (.string (strOf A)) := hcs 0 A rfl
  have HC1 := Lib.hid (hcs 1 Q rfl)
  have q1 := Lib.hid (new_row b1)
  have B1 := Lib.hid (bthen (Joins.below_alloc1 w _) b1)
  clear b1 hcs
  go_wp2_with fail
  refine (AR.out _).mono ?_
  rintro e w2 ⟨rfl, b2⟩
  have q2 := Lib.hid (row_on b2 (row_lt q1.out) q1.out)
  have B2 := Lib.hid (bthen B1.out b2)
  have hc1 : (w2.alloc (.cells #[.int .i64 p.base.k, .int .i64 p.base.a, .int .i64 p.base.b, .int .i64 p.base.c, .int .i64 p.base.d] 25)).cell? ⟨g, 1, none⟩ = some (.string (strOf Q)) := cell_on (Joins.below_alloc1 w2 _) (cell_on b2 HC1.out)
  clear b2 hc0
  go_wp2_with fail
  refine (NR.out _).mono ?_
  rintro e w3 ⟨rfl, b3⟩
  clear hc1
  obtain ⟨c0, c1, c2, c3, c4⟩ := ad_box b3
  have q3 := row_on b3 (row_lt (row_on (Joins.below_alloc1 w2 _) (row_lt q2.out) q2.out)) (row_on (Joins.below_alloc1 w2 _) (row_lt q2.out) q2.out)
  have q4 := Lib.hid (row_on (Joins.below_alloc1 w3 (.cells #[.int .i64 p.base.k, .int .i64 p.base.a, .int .i64 p.base.b, .int .i64 p.base.c, .int .i64 p.base.d, .int .i64 p.len] 36)) (row_lt q3) q3)
  have B4 := Lib.hid (bthen (bthen (bthen B2.out (Joins.below_alloc1 w2 _)) b3) (Joins.below_alloc1 w3 (.cells #[.int .i64 p.base.k, .int .i64 p.base.a, .int .i64 p.base.b, .int .i64 p.base.c, .int .i64 p.base.d, .int .i64 p.len] 36)))
  clear b3 q3
  obtain ⟨⟨d0, d1, d2, d3, d4, d5⟩, f0, f1, f2, f3, f4, f5⟩ := row6 q4.out
  go_wp2
  (try simp only [Exit.inBlock, Exit.then])
  refine bodyPost_ret (v := .tuple #[.agg #[.int .i64 0, .int .i64 0, .int .i64 0, .int .i64 0, .int .i64 0, .int .i64 0], .bool false]) ?_ rfl (preadOut_no HN.out (below6 B4.out (Nat.le_refl _)))
  refine res_cell_tmp Tryd.results18 _ _ _ w.heap.size _ ?_ (run_loadVar_row _ _ 36 36 _ (0, 0) _ (set6 _ _ _ _ _ _ q4.out) Tryd.underlying36 rfl info_pfx)
  rfl

set_option maxRecDepth 100000 in
set_option maxHeartbeats 1000000 in
theorem specPRead_bad (s : ByteArray) (w : World) (hl : s.size ≤ 43) (h : ¬ s.data.toList = [97, 110, 121]) (h0 : (splitC 47 s.data.toList).length = 2) (h1 : (rdA (cutA s.data.toList)).isSome = true) (h2 : okNum (cutR s.data.toList) = true) (h3 : (pfOf (cutA s.data.toList) (cutR s.data.toList)).ok = false) : Calls Tryd.prog 18 #[.string s] w (PReadOut (rdP s.data.toList) w) := by
  obtain ⟨A, hA⟩ : ∃ A, A = cutA s.data.toList := ⟨_, rfl⟩
  obtain ⟨Q, hQ⟩ : ∃ Q, Q = cutR s.data.toList := ⟨_, rfl⟩
  have hc := cut_size s.data.toList
  rw [← hA, ← hQ] at hc
  obtain ⟨p, hp⟩ : ∃ p, p = pfOf A Q := ⟨_, rfl⟩
  have hpb : (rdA A).getD Ad.zero = p.base := by rw [hp]; rfl
  have hpl : numR Q = p.len := by rw [hp]; rfl
  rw [← hA] at h1
  rw [← hQ] at h2
  have e0 := rdP_two h0
  rw [← hA, ← hQ] at e0
  have cu := groupS s hl [A, Q] 2 e0 rfl
  have hsl : s.data.toList.length = s.size := rfl
  have ar := fun v : World => specAddrRead (strOf A) v (by rw [strOf_size]; omega)
  unfold ReadOut at ar
  rw [strOf_data, h1, hpb] at ar
  have nr := fun v : World => specNumRead (strOf Q) v (by rw [strOf_size]; omega)
  unfold NumPost at nr
  rw [strOf_data, h2, hpl] at nr
  rw [rdP_else h, ← hA, ← hQ]
  rw [← hA, ← hQ] at h3
  have HN := Lib.hid (rdQ_no3 h3)
  rw [← hp] at h3
  have pk := specPrefixOk p
  rw [h3] at pk
  have PK := Lib.hid pk
  have CU := Lib.hid cu
  have AR := Lib.hid ar
  have NR := Lib.hid nr
  have hlI : ¬ (43 : Int) < (s.size : Int) := by omega
  have hany : (s.toList == [97, 110, 121]) = false := by
    simp only [beq_eq_false_iff_ne, ne_eq]
    rw [ByteArray.toList_eq]
    exact h
  obtain ⟨R, hR⟩ : ∃ R, R = rdQ A Q := ⟨_, rfl⟩
  rw [← hR] at HN ⊢
  clear cu ar nr e0 h0 h hA hQ hc hp hpb hpl h1 h2 hR hsl pk h3
  go_enter Tryd.func18, Tryd.ntmps18
  go_wp2_with fail
  refine (CU.out _).mono ?_
  rintro e w1 ⟨g, k, rfl, hcs, b1⟩
  have hc0 : w1.cell? ⟨g, 0, none⟩ = some (.string (strOf A)) := hcs 0 A rfl
  have HC1 := Lib.hid (hcs 1 Q rfl)
  have q1 := Lib.hid (new_row b1)
  have B1 := Lib.hid (bthen (Joins.below_alloc1 w _) b1)
  clear b1 hcs
  go_wp2_with fail
  refine (AR.out _).mono ?_
  rintro e w2 ⟨rfl, b2⟩
  have q2 := Lib.hid (row_on b2 (row_lt q1.out) q1.out)
  have B2 := Lib.hid (bthen B1.out b2)
  have hc1 : (w2.alloc (.cells #[.int .i64 p.base.k, .int .i64 p.base.a, .int .i64 p.base.b, .int .i64 p.base.c, .int .i64 p.base.d] 25)).cell? ⟨g, 1, none⟩ = some (.string (strOf Q)) := cell_on (Joins.below_alloc1 w2 _) (cell_on b2 HC1.out)
  clear b2 hc0
  go_wp2_with fail
  refine (NR.out _).mono ?_
  rintro e w3 ⟨rfl, b3⟩
  clear hc1
  obtain ⟨c0, c1, c2, c3, c4⟩ := ad_box b3
  have q3 := row_on b3 (row_lt (row_on (Joins.below_alloc1 w2 _) (row_lt q2.out) q2.out)) (row_on (Joins.below_alloc1 w2 _) (row_lt q2.out) q2.out)
  have q4 := Lib.hid (row_on (Joins.below_alloc1 w3 (.cells #[.int .i64 p.base.k, .int .i64 p.base.a, .int .i64 p.base.b, .int .i64 p.base.c, .int .i64 p.base.d, .int .i64 p.len] 36)) (row_lt q3) q3)
  have B4 := Lib.hid (bthen (bthen (bthen B2.out (Joins.below_alloc1 w2 _)) b3) (Joins.below_alloc1 w3 (.cells #[.int .i64 p.base.k, .int .i64 p.base.a, .int .i64 p.base.b, .int .i64 p.base.c, .int .i64 p.base.d, .int .i64 p.len] 36)))
  clear b3 q3
  go_wp2_with fail
  refine (PK.out _).mono ?_
  rintro e w5 ⟨rfl, b5⟩
  obtain ⟨e0, e1, e2, e3, e4, e5⟩ := pf_box b5
  have q5 := Lib.hid (row_on b5 (row_lt q4.out) q4.out)
  obtain ⟨⟨d0, d1, d2, d3, d4, d5⟩, f0, f1, f2, f3, f4, f5⟩ := row6 q5.out
  have B5 := Lib.hid (bthen B4.out b5)
  clear b5
  go_wp2
  (try simp only [Exit.inBlock, Exit.then])
  refine bodyPost_ret (v := .tuple #[.agg #[.int .i64 0, .int .i64 0, .int .i64 0, .int .i64 0, .int .i64 0, .int .i64 0], .bool false]) ?_ rfl (preadOut_no HN.out (below6 B5.out (Nat.le_refl _)))
  refine res_cell_tmp Tryd.results18 _ _ _ w.heap.size _ ?_ (run_loadVar_row _ _ 36 36 _ (0, 0) _ (set6 _ _ _ _ _ _ q5.out) Tryd.underlying36 rfl info_pfx)
  rfl

set_option maxRecDepth 100000 in
set_option maxHeartbeats 1000000 in
theorem specPRead_yes (s : ByteArray) (w : World) (hl : s.size ≤ 43) (h : ¬ s.data.toList = [97, 110, 121]) (h0 : (splitC 47 s.data.toList).length = 2) (h1 : (rdA (cutA s.data.toList)).isSome = true) (h2 : okNum (cutR s.data.toList) = true) (h3 : (pfOf (cutA s.data.toList) (cutR s.data.toList)).ok = true) : Calls Tryd.prog 18 #[.string s] w (PReadOut (rdP s.data.toList) w) := by
  obtain ⟨A, hA⟩ : ∃ A, A = cutA s.data.toList := ⟨_, rfl⟩
  obtain ⟨Q, hQ⟩ : ∃ Q, Q = cutR s.data.toList := ⟨_, rfl⟩
  have hc := cut_size s.data.toList
  rw [← hA, ← hQ] at hc
  obtain ⟨p, hp⟩ : ∃ p, p = pfOf A Q := ⟨_, rfl⟩
  have hpb : (rdA A).getD Ad.zero = p.base := by rw [hp]; rfl
  have hpl : numR Q = p.len := by rw [hp]; rfl
  rw [← hA] at h1
  rw [← hQ] at h2
  have e0 := rdP_two h0
  rw [← hA, ← hQ] at e0
  have cu := groupS s hl [A, Q] 2 e0 rfl
  have hsl : s.data.toList.length = s.size := rfl
  have ar := fun v : World => specAddrRead (strOf A) v (by rw [strOf_size]; omega)
  unfold ReadOut at ar
  rw [strOf_data, h1, hpb] at ar
  have nr := fun v : World => specNumRead (strOf Q) v (by rw [strOf_size]; omega)
  unfold NumPost at nr
  rw [strOf_data, h2, hpl] at nr
  rw [rdP_else h, ← hA, ← hQ]
  rw [← hA, ← hQ] at h3
  have HN := Lib.hid (rdQ_yes h1 h2 h3)
  rw [← hp] at h3 HN
  have pk := specPrefixOk p
  rw [h3] at pk
  have PK := Lib.hid pk
  have CU := Lib.hid cu
  have AR := Lib.hid ar
  have NR := Lib.hid nr
  have hlI : ¬ (43 : Int) < (s.size : Int) := by omega
  have hany : (s.toList == [97, 110, 121]) = false := by
    simp only [beq_eq_false_iff_ne, ne_eq]
    rw [ByteArray.toList_eq]
    exact h
  obtain ⟨R, hR⟩ : ∃ R, R = rdQ A Q := ⟨_, rfl⟩
  rw [← hR] at HN ⊢
  clear cu ar nr e0 h0 h hA hQ hc hp hpb hpl h1 h2 hR hsl pk h3
  go_enter Tryd.func18, Tryd.ntmps18
  go_wp2_with fail
  refine (CU.out _).mono ?_
  rintro e w1 ⟨g, k, rfl, hcs, b1⟩
  have hc0 : w1.cell? ⟨g, 0, none⟩ = some (.string (strOf A)) := hcs 0 A rfl
  have HC1 := Lib.hid (hcs 1 Q rfl)
  have q1 := Lib.hid (new_row b1)
  have B1 := Lib.hid (bthen (Joins.below_alloc1 w _) b1)
  clear b1 hcs
  go_wp2_with fail
  refine (AR.out _).mono ?_
  rintro e w2 ⟨rfl, b2⟩
  have q2 := Lib.hid (row_on b2 (row_lt q1.out) q1.out)
  have B2 := Lib.hid (bthen B1.out b2)
  have hc1 : (w2.alloc (.cells #[.int .i64 p.base.k, .int .i64 p.base.a, .int .i64 p.base.b, .int .i64 p.base.c, .int .i64 p.base.d] 25)).cell? ⟨g, 1, none⟩ = some (.string (strOf Q)) := cell_on (Joins.below_alloc1 w2 _) (cell_on b2 HC1.out)
  clear b2 hc0
  go_wp2_with fail
  refine (NR.out _).mono ?_
  rintro e w3 ⟨rfl, b3⟩
  clear hc1
  obtain ⟨c0, c1, c2, c3, c4⟩ := ad_box b3
  have q3 := row_on b3 (row_lt (row_on (Joins.below_alloc1 w2 _) (row_lt q2.out) q2.out)) (row_on (Joins.below_alloc1 w2 _) (row_lt q2.out) q2.out)
  have q4 := Lib.hid (row_on (Joins.below_alloc1 w3 (.cells #[.int .i64 p.base.k, .int .i64 p.base.a, .int .i64 p.base.b, .int .i64 p.base.c, .int .i64 p.base.d, .int .i64 p.len] 36)) (row_lt q3) q3)
  have B4 := Lib.hid (bthen (bthen (bthen B2.out (Joins.below_alloc1 w2 _)) b3) (Joins.below_alloc1 w3 (.cells #[.int .i64 p.base.k, .int .i64 p.base.a, .int .i64 p.base.b, .int .i64 p.base.c, .int .i64 p.base.d, .int .i64 p.len] 36)))
  clear b3 q3
  go_wp2_with fail
  refine (PK.out _).mono ?_
  rintro e w5 ⟨rfl, b5⟩
  obtain ⟨e0, e1, e2, e3, e4, e5⟩ := pf_box b5
  have q5 := Lib.hid (row_on b5 (row_lt q4.out) q4.out)
  obtain ⟨⟨d0, d1, d2, d3, d4, d5⟩, f0, f1, f2, f3, f4, f5⟩ := row6 q5.out
  have B5 := Lib.hid (bthen B4.out b5)
  clear b5
  go_wp2
  (try simp only [Exit.inBlock, Exit.then])
  refine bodyPost_ret (v := .tuple #[.agg #[.int .i64 p.base.k, .int .i64 p.base.a, .int .i64 p.base.b, .int .i64 p.base.c, .int .i64 p.base.d, .int .i64 p.len], .bool true]) ?_ rfl (preadOut_yes HN.out (below6 B5.out (Nat.le_refl _)))
  refine res_cell_tmp Tryd.results18 _ _ _ w.heap.size _ ?_ (run_loadVar_row _ _ 36 36 _ (0, 0) _ (set6 _ _ _ _ _ _ q5.out) Tryd.underlying36 rfl info_pfx)
  rfl

set_option maxRecDepth 100000 in
theorem specPrefixRead (s : ByteArray) (w : World) (hs : s.size ≤ 1048576) : Calls Tryd.prog 18 #[.string s] w (PReadOut (rdP s.data.toList) w) := by
  by_cases h : s.data.toList = [97, 110, 121]
  · exact specPRead_any s w h
  · by_cases hl : s.size ≤ 43
    · by_cases h0 : (splitC 47 s.data.toList).length = 2
      · cases h1 : (rdA (cutA s.data.toList)).isSome
        · exact specPRead_addr s w hl h h0 h1 _ rfl
        · cases h2 : okNum (cutR s.data.toList)
          · exact specPRead_num s w hl h h0 h1 h2
          · cases h3 : (pfOf (cutA s.data.toList) (cutR s.data.toList)).ok
            · exact specPRead_bad s w hl h h0 h1 h2 h3
            · exact specPRead_yes s w hl h h0 h1 h2 h3
      · exact specPRead_parts s w hl h h0
    · exact specPRead_long s w hs h (by omega)
end Go.Proofs.YtckakpcjbndijabDoor
