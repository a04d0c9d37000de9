/-
  AddrText in the program.
-/
import Derived.Test.YtckakpcjbndijabDoorHex16
import Derived.Test.YtckakpcjbndijabDoorNumImpl
import Derived.Test.YtckakpcjbndijabDoorAddrImpl
import Derived.Test.YtckakpcjbndijabDoorSumImpl
import Derived.Test.YtckakpcjbndijabDoorRow
namespace Go.Proofs.YtckakpcjbndijabDoor
open Go.RowKit

/-- The cells of a list of texts. -/
def strsOf (xs : List (List UInt8)) : List Value := xs.map fun l => .string (strOf l)
set_option maxRecDepth 100000 in
theorem strsOf_length (xs : List (List UInt8)) : (strsOf xs).length = xs.length := by simp [strsOf]
set_option maxRecDepth 100000 in
theorem strsOf_append (a b : List (List UInt8)) : strsOf (a ++ b) = strsOf a ++ strsOf b := by simp [strsOf]
set_option maxRecDepth 100000 in
theorem strsOf_one (xs : List (List UInt8)) : ∀ u ∈ strsOf xs, u.oneCell' = true := by
  intro u hu
  simp only [strsOf, List.mem_map] at hu
  obtain ⟨b, _, rfl⟩ := hu
  rfl
set_option maxRecDepth 100000 in
theorem info_str : (Tryd.prog.info? 9).map (fun i => (i.zero, i.size, i.bytes)) = some (some (.string ByteArray.empty), 1, 16) := by kernel_rfl

set_option maxRecDepth 100000 in
/-- 'append' of one text onto a row of texts of the call's own. -/
theorem wpList_append_s {w : World} {ops : Array Oper} {rest : List Oper} {o : Oper} {a : Act} {Q : Exit → Act → World → Prop} (hgd : o.guard = none) (s x : Operand)
    (ho : o.op = .call { callee := .builtin .append, args := #[s, x], argTypes := #[51, 51] }) (base : Nat) (v : Value) (n : Nat) (xs : List (List UInt8)) (hs : a.eval s = v) (hown : w.ownsRow base 9 1 v n (strsOf xs))
    (B : Nat) (A : Option Addr) (m c : Nat) (ds : List (List UInt8)) (hx : a.eval x = .slice A m c) (hm : ds.length = m) (hr : RV w B A (strsOf ds)) (hn : n + m ≤ 1048576) (hbase : base ≤ w.heap.size)
    (h : ∀ v' w', w'.ownsRow base 9 1 v' (n + m) (strsOf (xs ++ ds)) → w.grownBy w' v.ownBlock → wpList Tryd.prog ops Q rest (a.put o.dst v') w') :
    wpList Tryd.prog ops Q (o :: rest) a w := by
  refine wpList_plain hgd fun K hK => ?_
  obtain ⟨i0, hi0, hz0, hz1, hz2⟩ := info_parts info_str
  obtain ⟨v', w', hrun, h2, h3, h4⟩ := run_append_v w 51 o.type 9 i0 (.string ByteArray.empty) 1 16 Tryd.underlying51 hi0 hz0 hz1 hz2 rfl (by omega) base v n _ hown B A m c _ (by rw [strsOf_length, hm, Nat.mul_one]) hr (strsOf_one ds) (by unfold maxLen; omega) (by omega) hbase
  rw [← strsOf_append] at h2
  unfold Oper.wp execOp
  simp only [ho, resolve, invoke, builtin, Sem.run_bind, Sem.run_pure, Result.andThen_ok, List.map_toArray, List.map_cons, List.map_nil, hs, hx, hrun]
  exact hK _ _ (h v' w' h2 h3)

/-- What the two tables of the library hold. -/
structure Tabs (w : World) : Prop where
  ten : Lib.TabIs Tryd.prog w tabName .u64 Lib.pow10Tab
  lt : 0 < w.heap.size
  de : w.cell? ⟨3, 15, none⟩ = some (.int .u8 4)
set_option maxRecDepth 100000 in
theorem Tabs.on {w w' : World} (h : Tabs w) (hb : Below w.heap.size w w') : Tabs w' := ⟨var?_below hb gTab h.lt h.ten, Nat.lt_of_lt_of_le h.lt hb.size, cell_on hb h.de⟩

set_option maxRecDepth 100000 in
theorem joinText (c : UInt8) (ps : List (List UInt8)) (v : Value) (n : Nat) (base : Nat) (w : World) (ho : w.ownsRow base 9 1 v n (strsOf ps)) (hn : ps.length = n) (hs : (joinC c ps).length ≤ 1048576) (hN : n ≤ 1048576) :
    Calls Tryd.prog 32 #[v, .string ⟨#[c]⟩] w fun e w' => e = .returned (.string (strOf (joinC c ps))) ∧ Below w.heap.size w w' := by
  obtain ⟨D, k, rfl⟩ := own_form ho
  by_cases h0 : n = 0
  · subst h0
    obtain rfl : ps = [] := List.eq_nil_of_length_eq_zero hn
    exact (Tryd.strings_Join_none D k ⟨#[c]⟩ w).mono fun e w' ⟨he, hw⟩ => ⟨by rw [he]; rfl, by rw [hw]; exact Below.refl _ _⟩
  · obtain ⟨g, hD, hcap, hg⟩ : ∃ g, D = some ⟨g, 0, none⟩ ∧ n ≤ k ∧ g < w.heap.size := by
      rcases ho.2 with ⟨_, h2⟩ | ⟨g, cap, cur, hv, _, hg, hnc, _⟩
      · omega
      · injection hv with hA hB hC
        exact ⟨g, hA, by omega, row_lt hg⟩
    subst hD
    have hx : (ps.map strOf).map (·.data.toList) = ps := by simp [strOf, Function.comp_def]
    have h := Tryd.strings_Join g 0 k (ps.map strOf) ⟨#[c]⟩ w (fun j x hj => by
      rw [Nat.zero_add, ho.cellAt j (by
        have := (List.getElem?_eq_some_iff.1 hj).1
        simp at this
        omega)]
      simp only [strsOf, List.getElem?_map] at hj ⊢
      cases hp : ps[j]? with
      | none => rw [hp] at hj; cases hj
      | some l => rw [hp] at hj; simp at hj; simp [hj]) hg (by simp; omega) (by simp; omega) (by rw [hx]; exact Nat.le_trans hs (by omega))
    rw [hx, List.length_map, hn] at h
    exact h

def textK (x : Ad) : List UInt8 := if x.k = 4 then joinC 46 (x.bytes.map numB) else joinC 58 ((wordsL x.bytes).map hexW)
set_option maxRecDepth 100000 in
theorem textK_eq (x : Ad) : textK x = x.text := by
  unfold textK Ad.text Ad.bytes
  cases h : x.ok
  · simp [joinC_nil, wordsL]
  · rcases x.ok_kind h with hk | hk
    · simp [hk, text4]
    · simp [hk, text6]
set_option maxRecDepth 100000 in
theorem bytes_le (x : Ad) : x.bytes.length ≤ 16 := by
  unfold Ad.bytes
  split
  · split
    · simp [put32]
    · rw [x.whole_length]; omega
  · simp

set_option maxRecDepth 100000 in
set_option maxHeartbeats 1000000 in
theorem implText_four (x : Ad) (hk : x.k = 4) (w : World) (ht : Tabs w) : Calls Tryd.prog 11 #[.agg #[.int .i64 x.k, .int .i64 x.a, .int .i64 x.b, .int .i64 x.c, .int .i64 x.d]] w fun e w' => e = .returned (.string (strOf (joinC 46 (x.bytes.map numB)))) ∧ Below w.heap.size w w' := by
  obtain ⟨bs, hbs⟩ : ∃ bs, x.bytes = bs := ⟨_, rfl⟩
  obtain ⟨L, hL⟩ : ∃ L, bs.length = L := ⟨_, rfl⟩
  have hL16 : L ≤ 16 := by rw [← hL, ← hbs]; exact bytes_le x
  have so : ∀ v : World, Calls Tryd.prog 24 #[.agg #[.int .i64 x.k, .int .i64 x.a, .int .i64 x.b, .int .i64 x.c, .int .i64 x.d]] v fun e v' => ∃ A c, e = .returned (.slice A L c) ∧ v'.ownsRow v.heap.size 5 1 (.slice A L c) L (cellsOf bs) ∧ Below v.heap.size v v' := by
    intro v
    have hh := implAddrBytes x v
    unfold BytesOut at hh
    rwa [hbs, hL] at hh
  rw [hbs]
  have SO := Lib.hid so
  have HL := Lib.hid hL
  have HK := Lib.hid hk
  have HT := Lib.hid ht
  clear so hbs hL hk ht
  go_enter Tryd.func11, Tryd.ntmps11
  go_wp2_with fail
  refine (SO.out _).mono ?_
  rintro e w1 ⟨A, k1, rfl, o1, b1⟩
  obtain ⟨c0, c1, c2, c3, c4⟩ := ad_box b1
  have O1 := Lib.hid o1
  have B1 := Lib.hid (bthen (Joins.below_alloc1 w _) b1)
  have T1 := Lib.hid (HT.out.on B1.out)
  have hk := HK.out
  clear o1 b1
  go_wp2_with fail
  go_loopw [4, 16] (fun v q wr => ∃ i : Nat, i ≤ L ∧ q = .int .i64 i ∧ Hid (wr.ownsRow w1.heap.size 9 1 v i (strsOf ((bs.take i).map numB))) ∧ Hid (Below w1.heap.size w1 wr)) (fun _ q _ => L - (intOf q).toNat)
  case atStart => exact ⟨0, Nat.zero_le _, rfl, Lib.hid ⟨rfl, .inl ⟨rfl, rfl⟩⟩, Lib.hid (Below.refl _ _)⟩
  case round =>
    obtain ⟨i, hi, rfl, ho, hb⟩ := hrel
    by_cases hlt : i < L
    · have hltI : (i : Int) < (L : Int) := by omega
      have hil : i < bs.length := by rw [HL.out]; exact hlt
      obtain ⟨g, rfl⟩ : ∃ g, A = some ⟨g, 0, none⟩ := by
        rcases O1.out.2 with ⟨_, h2⟩ | ⟨g, cap, cur, hv, _⟩
        · omega
        · injection hv with hA
          exact ⟨g, hA⟩
      have hb256 := UInt8.toNat_lt bs[i]
      have hc1 : w1.cell? ⟨g, i, none⟩ = some (.int .u8 (bs[i].toNat : Int)) := by
        rw [O1.out.cellAt i (by omega), cellsOf_get bs i _ (List.getElem?_eq_getElem hil)]
      have hc : wr.cell? ⟨g, i, none⟩ = some (.int .u8 (bs[i].toNat : Int)) := cell_on hb.out hc1
      obtain ⟨b, hb0⟩ : ∃ b : UInt8, b = bs[i] := ⟨_, rfl⟩
      rw [← hb0] at hc hb256
      obtain ⟨N, hN⟩ : ∃ N, N = numB b := ⟨_, rfl⟩
      have nt : ∀ v, Tabs v → Calls Tryd.prog 31 #[.int .i64 (b.toNat : Int)] v fun e v' => e = .returned (.string (strOf N)) ∧ Below v.heap.size v v' := by
        intro v hv
        have := implNumText (b.toNat : Int) v (by omega) (by omega) hv.ten
        rwa [show numText (b.toNat : Int) = N from hN.symm] at this
      have NT := Lib.hid nt
      have E := Lib.hid (show (bs.take (i + 1)).map numB = (bs.take i).map numB ++ [N] by rw [take_snoc bs i hil, List.map_append, List.map_singleton, hN, hb0])
      clear hc1 hb0 hN nt c0 c1 c2 c3 c4 hk
      go_wp2_with fail
      refine (NT.out _ (T1.out.on hb.out)).mono ?_
      rintro e w2 ⟨rfl, b2⟩
      have hlo := fun u (hu : u4.ownBlock = some u) => (ho.out.lt u hu).1
      have HLO := Lib.hid hlo
      have o2 := Lib.hid (own_below (own_below ho.out b2) (Joins.below_alloc1 w2 (.cells #[.string (strOf N)] 9)))
      have B2 := Lib.hid (hb.out.trans (b2.mono hb.out.size))
      have hz := hb.out.size
      have hz2 := b2.size
      clear hlo
      go_wp2_with (at_builtin; refine wpList_append_s rfl (.tmp 20) (.tmp 24) rfl w1.heap.size u4 i ((bs.take i).map numB) rfl o2.out _ (some ⟨w2.heap.size, 0, none⟩) 1 1 [N] rfl rfl (RV.new w2 9 (strsOf [N])) (by omega) (by simp; omega) ?_; intro v3 w3 o3 g3)
      have R1 := Lib.hid (show w3.ownsRow w1.heap.size 9 1 v3 (i + 1) (strsOf ((bs.take (i + 1)).map numB)) by rw [E.out]; exact o3)
      have R2 := Lib.hid (show Below w1.heap.size w1 w3 from (B2.out.alloc (by omega) (.cells #[.string (strOf N)] 9)).grown g3 (by simp; omega) HLO.out)
      go_wp2
      go_roundw
      case rel => exact ⟨i + 1, by omega, by go_num, R1, R2⟩
      case measure => simp [intOf]; omega
    · obtain rfl : i = L := by omega
      have hltI : ¬ (i : Int) < (i : Int) := by omega
      have e4 : (bs.take i).map numB = bs.map numB := by rw [List.take_of_length_le (by rw [HL.out]; exact Nat.le_refl _)]
      have o5 := ho.out
      rw [e4] at o5
      have jt := Lib.hid (joinText 46 (bs.map numB) u4 i w1.heap.size wr o5 (by rw [List.length_map, HL.out]) (by
        have h1 := joinC_len 46 3 (bs.map numB) (fun x hx => by
          obtain ⟨b, _, rfl⟩ := List.mem_map.1 hx
          exact numB_len b)
        rw [List.length_map, HL.out] at h1
        omega) (by omega))
      clear o5 e4
      go_wp2_with fail
      refine jt.out.mono ?_
      rintro e w6 ⟨rfl, b6⟩
      go_wp2
      go_ret
      exact ⟨rfl, bthen (B1.out.trans (hb.out.mono B1.out.size)) b6⟩
end Go.Proofs.YtckakpcjbndijabDoor
