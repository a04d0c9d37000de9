/-
  Texts of the proof, joined: FourRead, GroupRead, SixRead, PfxRead, InBytes.
-/
import Derived.ProofKit
import Derived.OpenShut
import Derived.Test.YtckakpcjbndijabDoorKu2
namespace Go.Proofs.YtckakpcjbndijabDoor
open Go.RowKit

set_option maxRecDepth 100000 in
theorem rd4_len {s : List UInt8} (h : ¬ (splitC 46 s).length = 4) : (rd4 s).map ofA = none := by simp [rd4, h]
set_option maxRecDepth 100000 in
theorem rd4_bad {s p : List UInt8} {i : Nat} (hp : (splitC 46 s)[i]? = some p) (h : part4 p = false) : (rd4 s).map ofA = none := by
  have : (splitC 46 s).all part4 = false := by
    rw [List.all_eq_false]
    exact ⟨p, List.mem_of_getElem? hp, by simp [h]⟩
  simp [rd4, this]
set_option maxRecDepth 100000 in
theorem rd4_all {s : List UInt8} (h : (splitC 46 s).length = 4) (ha : ∀ p ∈ splitC 46 s, part4 p = true) : (rd4 s).map ofA = some (ofA ((splitC 46 s).map byte4)) := by
  have : (splitC 46 s).all part4 = true := List.all_eq_true.2 ha
  simp [rd4, this, h]
set_option maxRecDepth 100000 in
theorem part4_cases (p : List UInt8) : (okNum p = false ∧ part4 p = false) ∨ (∃ V : Nat, okNum p = true ∧ val p = V ∧ 255 < V ∧ V ≤ 1000000000000 ∧ part4 p = false) ∨ (okNum p = true ∧ part4 p = true ∧ val p = (byte4 p).toNat) := by
  cases h : okNum p
  · exact .inl ⟨rfl, by simp [part4, h]⟩
  · right
    by_cases hv : val p ≤ 255
    · exact .inr ⟨rfl, by simp [part4, h, hv], by simp [byte4]; omega⟩
    · refine .inl ⟨val p, rfl, rfl, by omega, ?_, by simp [part4, h, hv]⟩
      simp only [okNum, Bool.and_eq_true, decide_eq_true_eq] at h
      have h1 := val_lt p h.1.2 h.1.1.2
      omega

set_option maxRecDepth 100000 in
set_option maxHeartbeats 1000000 in
theorem implFour_len (s : ByteArray) (m : Int) (w : World) (hs : s.size ≤ 1048576) (hm : w.cell? ⟨1, 0, none⟩ = some (.int .i64 m)) (h4 : ¬ (splitC 46 s.data.toList).length = 4) :
    Calls Tryd.prog 41 #[.string s] w (ReadOut ((rd4 s.data.toList).map ofA) w) := by
  have HN := Lib.hid (rd4_len h4)
  obtain ⟨ps, hps⟩ : ∃ ps, ps = splitC 46 s.data.toList := ⟨_, rfl⟩
  obtain ⟨N, hN⟩ : ∃ N, ps.length = N := ⟨_, rfl⟩
  have h5 : ((N : Int) == 4) = false := by rw [hps] at hN; simp; omega
  have h6 : ((N : Int) != 4) = true := by rw [hps] at hN; simp; omega
  have sp : ∀ v : World, v.cell? ⟨1, 0, none⟩ = some (.int .i64 m) → Calls Tryd.prog 67 #[.string s, .string ⟨#[46]⟩] v fun e w' => ∃ g, e = .returned (.slice (some ⟨g, 0, none⟩) N N) ∧ (∀ (j : Nat) (p : List UInt8), ps[j]? = some p → w'.cell? ⟨g, j, none⟩ = some (.string (strOf p))) ∧ Below v.heap.size v w' := by
    intro v hv
    have hh := splitCall 46 s m v hs hv
    unfold SplitOut at hh
    rwa [← hps, hN] at hh
  have SP := Lib.hid sp
  have HM := Lib.hid (fun o : Obj => cell_on (Joins.below_alloc1 w o) hm)
  clear h4 hps hN sp hm
  go_enter Tryd.func41, Tryd.ntmps41
  go_wp2_with fail
  refine (SP.out _ (HM.out _)).mono ?_
  rintro e w1 ⟨g, rfl, _, b1⟩
  obtain ⟨⟨c0, c1, c2, c3, c4⟩, f0, f1, f2, f3, f4⟩ := row5 (new_row b1)
  go_wp2
  (try simp only [Exit.inBlock, Exit.then])
  refine bodyPost_ret (v := .tuple #[.agg #[.int .i64 0, .int .i64 0, .int .i64 0, .int .i64 0, .int .i64 0], .bool false]) ?_ rfl (readOut_no HN.out (by have := bthen (Joins.below_alloc1 w _) b1; go_grown))
  refine res_cell_tmp Tryd.results41 _ _ _ w.heap.size _ ?_ (run_loadVar_row _ _ 25 25 _ (0, 0) _ (set5 _ _ _ _ _ (new_row b1)) Tryd.underlying25 rfl info_addr)
  rfl

set_option maxRecDepth 100000 in
set_option maxHeartbeats 2000000 in
theorem implFour_go (s : ByteArray) (m : Int) (w : World) (hs : s.size ≤ 1048576) (hm : w.cell? ⟨1, 0, none⟩ = some (.int .i64 m)) (h4 : (splitC 46 s.data.toList).length = 4) :
    Calls Tryd.prog 41 #[.string s] w (ReadOut ((rd4 s.data.toList).map ofA) w) := by
  have HB := Lib.hid (fun (i : Nat) (p : List UInt8) (hp : (splitC 46 s.data.toList)[i]? = some p) (h : part4 p = false) => rd4_bad hp h)
  have HA := Lib.hid (fun (ha : ∀ p ∈ splitC 46 s.data.toList, part4 p = true) => rd4_all h4 ha)
  have hsz := fun (p : List UInt8) (hp : p ∈ splitC 46 s.data.toList) => split_size 46 s.data.toList p hp
  obtain ⟨ps, hps⟩ : ∃ ps, ps = splitC 46 s.data.toList := ⟨_, rfl⟩
  have sp : ∀ v : World, v.cell? ⟨1, 0, none⟩ = some (.int .i64 m) → Calls Tryd.prog 67 #[.string s, .string ⟨#[46]⟩] v fun e w' => ∃ g, e = .returned (.slice (some ⟨g, 0, none⟩) 4 4) ∧ (∀ (j : Nat) (p : List UInt8), ps[j]? = some p → w'.cell? ⟨g, j, none⟩ = some (.string (strOf p))) ∧ Below v.heap.size v w' := by
    intro v hv
    have hh := splitCall 46 s m v hs hv
    unfold SplitOut at hh
    rwa [h4, ← hps] at hh
  rw [← hps] at HB HA hsz h4
  have HSZ := Lib.hid hsz
  have H4 := Lib.hid h4
  have HS := Lib.hid (show s.data.toList.length ≤ 1048576 from hs)
  obtain ⟨R, hR⟩ : ∃ R, R = (rd4 s.data.toList).map ofA := ⟨_, rfl⟩
  rw [← hR] at HB HA ⊢
  have SP := Lib.hid sp
  have HM := Lib.hid (fun o : Obj => cell_on (Joins.below_alloc1 w o) hm)
  clear h4 hps sp hm hsz hR
  go_enter Tryd.func41, Tryd.ntmps41
  go_wp2_with fail
  refine (SP.out _ (HM.out _)).mono ?_
  rintro e w1 ⟨g, rfl, hcs, b1⟩
  have HC := Lib.hid hcs
  have NR := Lib.hid (new_row b1)
  have hz1 : w.heap.size < w1.heap.size := by have := b1.size; simp at this; omega
  have B1 := Lib.hid (bthen (Joins.below_alloc1 w _) b1)
  clear hcs b1
  go_wp2_with fail
  go_loopw [5, 18] (fun v q wr => ∃ i : Nat, i ≤ 4 ∧ q = .int .i64 i ∧ Hid (∀ p ∈ ps.take i, part4 p = true) ∧ Hid (wr.ownsRow w1.heap.size 5 1 v ((ps.take i).map byte4).length (cellsOf ((ps.take i).map byte4))) ∧ Hid (Below w1.heap.size w1 wr)) (fun _ q _ => 4 - (intOf q).toNat)
  case atStart => exact ⟨0, Nat.zero_le _, rfl, Lib.hid (by simp), Lib.hid ⟨rfl, .inl ⟨rfl, rfl⟩⟩, Lib.hid (Below.refl _ _)⟩
  case round =>
    obtain ⟨i, hi, rfl, ha, ho, hb⟩ := hrel
    by_cases hlt : i < 4
    · have hltI : (i : Int) < 4 := by omega
      have hil : i < ps.length := by rw [H4.out]; exact hlt
      obtain ⟨p, hp⟩ : ∃ p, ps[i]? = some p := ⟨_, List.getElem?_eq_getElem hil⟩
      have hc : wr.cell? ⟨g, i, none⟩ = some (.string (strOf p)) := cell_on hb.out (HC.out i p hp)
      have hpl : (strOf p).size ≤ 1048576 := Nat.le_trans (HSZ.out p (List.mem_of_getElem? hp)) HS.out
      have nr := Lib.hid (fun v : World => implNumRead (strOf p) v hpl)
      have HP := Lib.hid hp
      have hrow := Lib.hid (row_on hb.out hz1 NR.out)
      obtain ⟨⟨c0, c1, c2, c3, c4⟩, f0, f1, f2, f3, f4⟩ := row5 hrow.out
      have B2 := Lib.hid (B1.out.trans (hb.out.mono B1.out.size))
      rcases part4_cases p with ⟨h1, h2⟩ | ⟨V, h1, h2, h3, h3b, h5⟩ | ⟨h1, h2, h3⟩
      · have nc := Lib.hid (show ∀ v : World, Calls Tryd.prog 46 #[.string (strOf p)] v fun e w' => e = .returned (.tuple #[.int .i64 0, .bool false]) ∧ Below v.heap.size v w' from fun v => by
          have hh := nr.out v
          unfold NumPost at hh
          rwa [show okNum (strOf p).data.toList = false from h1, numR, show okNum (strOf p).data.toList = false from h1] at hh)
        have HN := Lib.hid (HB.out i p hp h2)
        clear hp h1 h2 hpl
        go_wp2_with fail
        refine (nc.out _).mono ?_
        rintro e w2 ⟨rfl, b2⟩
        have hrow2 := row_on b2 (row_lt hrow.out) hrow.out
        obtain ⟨⟨c0, c1, c2, c3, c4⟩, f0, f1, f2, f3, f4⟩ := row5 hrow2
        have B3 := bthen B2.out b2
        go_wp2
        (try simp only [Exit.inBlock, Exit.then])
        refine bodyPost_ret (v := .tuple #[.agg #[.int .i64 0, .int .i64 0, .int .i64 0, .int .i64 0, .int .i64 0], .bool false]) ?_ rfl (readOut_no HN.out (by go_grown))
        refine res_cell_tmp Tryd.results41 _ _ _ w.heap.size _ ?_ (run_loadVar_row _ _ 25 25 _ (0, 0) _ (set5 _ _ _ _ _ hrow2) Tryd.underlying25 rfl info_addr)
        rfl
      · have nc := Lib.hid (show ∀ v : World, Calls Tryd.prog 46 #[.string (strOf p)] v fun e w' => e = .returned (.tuple #[.int .i64 (V : Int), .bool true]) ∧ Below v.heap.size v w' from fun v => by
          have hh := nr.out v
          unfold NumPost at hh
          rwa [show okNum (strOf p).data.toList = true from h1, numR, show okNum (strOf p).data.toList = true from h1, show val (strOf p).data.toList = V from h2] at hh)
        have HN := Lib.hid (HB.out i p hp h5)
        have h3I : (255 : Int) < (V : Int) := by omega
        clear hp h1 h2 h5 hpl
        go_wp2_with fail
        refine (nc.out _).mono ?_
        rintro e w2 ⟨rfl, b2⟩
        have hrow2 := row_on b2 (row_lt hrow.out) hrow.out
        obtain ⟨⟨c0, c1, c2, c3, c4⟩, f0, f1, f2, f3, f4⟩ := row5 hrow2
        have B3 := bthen B2.out b2
        go_wp2
        (try simp only [Exit.inBlock, Exit.then])
        refine bodyPost_ret (v := .tuple #[.agg #[.int .i64 0, .int .i64 0, .int .i64 0, .int .i64 0, .int .i64 0], .bool false]) ?_ rfl (readOut_no HN.out (by go_grown))
        refine res_cell_tmp Tryd.results41 _ _ _ w.heap.size _ ?_ (run_loadVar_row _ _ 25 25 _ (0, 0) _ (set5 _ _ _ _ _ hrow2) Tryd.underlying25 rfl info_addr)
        rfl
      · obtain ⟨b, hb0⟩ : ∃ b, b = byte4 p := ⟨_, rfl⟩
        rw [← hb0] at h3
        have nc := Lib.hid (show ∀ v : World, Calls Tryd.prog 46 #[.string (strOf p)] v fun e w' => e = .returned (.tuple #[.int .i64 (b.toNat : Int), .bool true]) ∧ Below v.heap.size v w' from fun v => by
          have hh := nr.out v
          unfold NumPost at hh
          rwa [show okNum (strOf p).data.toList = true from h1, numR, show okNum (strOf p).data.toList = true from h1, show val (strOf p).data.toList = b.toNat from h3] at hh)
        have hb256 := UInt8.toNat_lt b
        have hle : ¬ (255 : Int) < (b.toNat : Int) := by omega
        have E := Lib.hid (show (ps.take (i + 1)).map byte4 = (ps.take i).map byte4 ++ [b] by
          rw [take_snoc ps i hil, List.map_append, List.map_singleton, hb0]
          rw [List.getElem?_eq_getElem hil] at hp
          rw [Option.some.inj hp])
        have ha2 := Lib.hid (show ∀ q ∈ ps.take (i + 1), part4 q = true by
          intro q hq
          rw [take_snoc ps i hil] at hq
          rcases List.mem_append.1 hq with h | h
          · exact ha.out q h
          · rw [List.mem_singleton.1 h]
            rw [List.getElem?_eq_getElem hil] at hp
            rw [Option.some.inj hp]
            exact h2)
        have hlen := Lib.hid (show ((ps.take i).map byte4).length ≤ 4 by rw [List.length_map, List.length_take]; omega)
        obtain ⟨bs, hbs⟩ : ∃ bs, bs = (ps.take i).map byte4 := ⟨_, rfl⟩
        rw [← hbs] at ho E hlen
        clear hp h1 h2 h3 hpl hb0 hbs c0 c1 c2 c3 c4 f0 f1 f2 f3 f4
        go_wp2_with fail
        refine (nc.out _).mono ?_
        rintro e w2 ⟨rfl, b2⟩
        have hlo := fun u (hu : u5.ownBlock = some u) => (ho.out.lt u hu).1
        have HLO := Lib.hid hlo
        have o2 := Lib.hid (own_below (own_below ho.out b2) (Joins.below_alloc1 w2 (.cells #[.int .u8 (b.toNat : Int)] 5)))
        have B3 := Lib.hid (hb.out.trans (b2.mono hb.out.size))
        have hz := hb.out.size
        have hz2 := b2.size
        clear hlo
        go_wp2_with (at_builtin; refine wpList_append_b rfl (.tmp 34) (.tmp 37) rfl w1.heap.size u5 bs rfl o2.out _ (some ⟨w2.heap.size, 0, none⟩) 1 1 [b] rfl rfl (RB.new w2 5 [b]) (by have := hlen.out; simp; omega) (by simp; omega) ?_; intro v3 w3 o3 g3 _)
        have R1 := Lib.hid (show w3.ownsRow w1.heap.size 5 1 v3 ((ps.take (i + 1)).map byte4).length (cellsOf ((ps.take (i + 1)).map byte4)) by rw [E.out]; exact o3)
        have R2 := Lib.hid (show Below w1.heap.size w1 w3 from (B3.out.alloc (by omega) (.cells #[.int .u8 (b.toNat : Int)] 5)).grown g3 (by simp; omega) HLO.out)
        go_wp2
        go_roundw
        case rel => exact ⟨i + 1, by omega, by go_num, ha2, R1, R2⟩
        case measure => simp [intOf]; omega
    · obtain rfl : i = 4 := by omega
      have e4 : ps.take 4 = ps := List.take_of_length_le (by rw [H4.out]; exact Nat.le_refl _)
      have HY := Lib.hid (HA.out (by have := ha.out; rwa [e4] at this))
      have o4 := ho.out
      rw [e4] at o4
      obtain ⟨bs, hbs⟩ : ∃ bs, bs = ps.map byte4 := ⟨_, rfl⟩
      have hbl : bs.length = 4 := by rw [hbs, List.length_map, H4.out]
      rw [← hbs, hbl] at o4
      rw [← hbs] at HY
      obtain ⟨A, k, rfl⟩ := own_form o4
      have ao := Lib.hid (show Calls Tryd.prog 25 #[.slice A 4 k] wr fun e w' => e = .returned (.tuple #[.agg #[.int .i64 (ofA bs).k, .int .i64 (ofA bs).a, .int .i64 (ofA bs).b, .int .i64 (ofA bs).c, .int .i64 (ofA bs).d], .bool true]) ∧ Below wr.heap.size wr w' by
        have hh := implAddrOf A 4 k bs wr (RB.of_own o4) hbl (by omega)
        unfold OfOut at hh
        rwa [show okA bs = true by simp [okA, hbl]] at hh)
      have hrow := Lib.hid (row_on hb.out hz1 NR.out)
      have B2 := Lib.hid (B1.out.trans (hb.out.mono B1.out.size))
      obtain ⟨y, hy⟩ : ∃ y, y = ofA bs := ⟨_, rfl⟩
      rw [← hy] at ao HY
      clear e4 o4 hbs hbl hy
      go_wp2_with fail
      refine ao.out.mono ?_
      rintro e w2 ⟨rfl, b2⟩
      have hrow2 := row_on b2 (row_lt hrow.out) hrow.out
      obtain ⟨⟨c0, c1, c2, c3, c4⟩, f0, f1, f2, f3, f4⟩ := row5 hrow2
      have B3 := bthen B2.out b2
      go_wp2
      (try simp only [Exit.inBlock, Exit.then])
      refine bodyPost_ret (v := .tuple #[.agg #[.int .i64 y.k, .int .i64 y.a, .int .i64 y.b, .int .i64 y.c, .int .i64 y.d], .bool true]) ?_ rfl (readOut_yes HY.out (by go_grown))
      refine res_cell_tmp Tryd.results41 _ _ _ w.heap.size _ ?_ (run_loadVar_row _ _ 25 25 _ (0, 0) _ (set5 _ _ _ _ _ hrow2) Tryd.underlying25 rfl info_addr)
      rfl

set_option maxRecDepth 100000 in
theorem implFourRead (s : ByteArray) (m : Int) (w : World) (hs : s.size ≤ 1048576) (hm : w.cell? ⟨1, 0, none⟩ = some (.int .i64 m)) : Calls Tryd.prog 41 #[.string s] w (ReadOut ((rd4 s.data.toList).map ofA) w) := by
  by_cases h4 : (splitC 46 s.data.toList).length = 4
  · exact implFour_go s m w hs hm h4
  · exact implFour_len s m w hs hm h4
end Go.Proofs.YtckakpcjbndijabDoor
namespace Go.Proofs.YtckakpcjbndijabDoor
open Go.RowKit

set_option maxRecDepth 100000 in
theorem valG_snoc (l : List UInt8) (b : UInt8) : valG (l ++ [b]) = 16 * valG l + hexV b := by simp [valG]
set_option maxRecDepth 100000 in
theorem valG_take (l : List UInt8) (k : Nat) (h : k < l.length) : valG (l.take (k + 1)) = 16 * valG (l.take k) + hexV l[k] := by rw [take_snoc l k h, valG_snoc]
set_option maxRecDepth 100000 in
theorem valG_takeS (s : ByteArray) (k : Nat) (h : k < s.size) : valG (s.data.toList.take (k + 1)) = 16 * valG (s.data.toList.take k) + hexV (s[k]'h) := valG_take s.data.toList k h
def isHx (b : UInt8) : Bool := decide (hexV b < 16)
set_option maxRecDepth 100000 in
theorem valG_lt (l : List UInt8) (h : ∀ b ∈ l, hexV b < 16) : valG l < 16 ^ l.length := by
  obtain ⟨n, hn⟩ : ∃ n, l.length = n := ⟨_, rfl⟩
  induction n generalizing l with
  | zero =>
    obtain rfl : l = [] := List.eq_nil_of_length_eq_zero hn
    simp [valG]
  | succ n ih =>
    obtain ⟨i, b, rfl⟩ : ∃ i b, l = i ++ [b] := by
      rcases List.eq_nil_or_concat l with h | ⟨i, b, h⟩
      · rw [h] at hn; cases hn
      · exact ⟨i, b, by rw [h, List.concat_eq_append]⟩
    have h1 := ih i (fun c hc => h c (by simp [hc])) (by simp at hn; omega)
    have h2 := h b (by simp)
    rw [valG_snoc, List.length_append, List.length_singleton, Nat.pow_succ]
    omega
set_option maxRecDepth 100000 in
theorem okG_len (l : List UInt8) (h : ¬ (1 ≤ l.length ∧ l.length ≤ 4)) : okG l = false := by simp [okG, h]
set_option maxRecDepth 100000 in
theorem okG_zero (l : List UInt8) (h : 1 < l.length) (hh : l.head? = some 48) : okG l = false := by simp [okG, hh, show l.length ≠ 1 by omega]
set_option maxRecDepth 100000 in
theorem okG_bad (l : List UInt8) (k : Nat) (h : k < l.length) (hd : ¬ hexV l[k] < 16) : okG l = false := by
  have : (l.all fun b => decide (hexV b < 16)) = false := by
    rw [List.all_eq_false]
    exact ⟨l[k], List.getElem_mem h, by simpa using hd⟩
  simp [okG, this]
set_option maxRecDepth 100000 in
theorem okG_badS (s : ByteArray) (k : Nat) (h : k < s.size) (hd : ¬ hexV (s[k]'h) < 16) : okG s.data.toList = false := okG_bad s.data.toList k h hd
set_option maxRecDepth 100000 in
theorem okG_yes (l : List UInt8) (h1 : 1 ≤ l.length) (h2 : l.length ≤ 4) (hd : ∀ b ∈ l, hexV b < 16) (h3 : l.length = 1 ∨ l.head? ≠ some 48) : okG l = true := by
  simp only [okG, Bool.and_eq_true, Bool.or_eq_true, decide_eq_true_eq, List.all_eq_true]
  exact ⟨⟨⟨h1, h2⟩, hd⟩, h3⟩
set_option maxRecDepth 100000 in
theorem take_all (s : ByteArray) (k : Nat) (h : k < s.size) (ha : ∀ b ∈ s.data.toList.take k, hexV b < 16) (hd : hexV (s[k]'h) < 16) : ∀ b ∈ s.data.toList.take (k + 1), hexV b < 16 := by
  intro b hb
  rw [take_snoc s.data.toList k h] at hb
  rcases List.mem_append.1 hb with h1 | h1
  · exact ha b h1
  · rw [List.mem_singleton.1 h1]
    exact hd

def grpV (l : List UInt8) : Nat := if okG l then valG l else 0
def GroupPost (l : List UInt8) (w : World) (e : Ending) (w' : World) : Prop := e = .returned (.tuple #[.int .i64 (grpV l : Int), .bool (okG l)]) ∧ Below w.heap.size w w'
set_option maxRecDepth 100000 in
theorem groupPost_no {l : List UInt8} {w w' : World} (h : okG l = false) (hb : Below w.heap.size w w') : GroupPost l w (.returned (.tuple #[.int .i64 0, .bool false])) w' := by
  refine ⟨?_, hb⟩
  rw [grpV, h]
  rfl
set_option maxRecDepth 100000 in
theorem groupPost_yes {l : List UInt8} {w w' : World} (h : okG l = true) (hb : Below w.heap.size w w') : GroupPost l w (.returned (.tuple #[.int .i64 (valG l : Int), .bool true])) w' := by
  refine ⟨?_, hb⟩
  rw [grpV, h]
  rfl
set_option maxRecDepth 100000 in
theorem or_nib64 (x d : Nat) (hx : x < 4096) (hd : d < 16) : bits .or .i64 ((x : Int) * 16) (d : Int) = (x : Int) * 16 + d := by
  have e : ((x : Int) * 16) = ((16 * x : Nat) : Int) := by omega
  have ho : 16 * x ||| d = 16 * x + d := (Nat.two_pow_add_eq_or_of_lt (i := 4) (by simpa using hd) x).symm
  have t : ∀ n : Nat, n < 65536 → (BitVec.ofInt 64 (n : Int)).toNat = n := fun n hn => by
    rw [BitVec.ofInt_natCast, BitVec.toNat_ofNat]
    exact Nat.mod_eq_of_lt (by omega)
  rw [e]
  show IntKind.i64.wrap ((BitVec.ofInt 64 ((16 * x : Nat) : Int) ||| BitVec.ofInt 64 (d : Int)).toNat : Int) = _
  rw [BitVec.toNat_or, t _ (by omega), t d (by omega), ho, IntKind.wrap_i64]
  omega

set_option maxRecDepth 100000 in
set_option maxHeartbeats 1000000 in
theorem groupRead_len (s : ByteArray) (w : World) (hs : s.size ≤ 1048576) (h : ¬ (1 ≤ s.size ∧ s.size ≤ 4)) :
    Calls Tryd.prog 68 #[.string s] w (GroupPost s.data.toList w) := by
  have hno := Lib.hid (show (s.size : Int) < 1 ∨ (4 : Int) < s.size by omega)
  have hok := Lib.hid (okG_len s.data.toList h)
  clear h
  go_enter Tryd.func68, Tryd.ntmps68
  go_wp2_with (go_at_call 70; refine (within_no _ _ _ _ hno.out).mono ?_; rintro e w' ⟨rfl, rfl⟩)
  go_ret2
  exact groupPost_no hok.out (Below.refl _ _)

set_option maxRecDepth 100000 in
set_option maxHeartbeats 1000000 in
theorem groupRead_zero (s : ByteArray) (w : World) (h1 : 1 < s.size) (h2 : s.size ≤ 4) (h0 : s[0].toNat = 48) :
    Calls Tryd.prog 68 #[.string s] w (GroupPost s.data.toList w) := by
  have hok := Lib.hid (okG_zero s.data.toList h1 (by
    rw [List.head?_eq_getElem?, List.getElem?_eq_getElem (by simpa using (show 0 < s.size by omega))]
    have : s.data.toList[0]'(by simpa using (show 0 < s.size by omega)) = s[0] := rfl
    rw [this]
    have e : s[0] = 48 := UInt8.toNat_inj.1 h0
    rw [e]))
  have h48 : ((s[0].toNat : Int) == 48) = true := by simp; omega
  clear h0
  go_enter Tryd.func68, Tryd.ntmps68
  go_wp2_with (go_at_call 70; refine (within_yes _ _ _ _ (by omega) (by omega)).mono ?_; rintro e w' ⟨rfl, rfl⟩)
  go_ret2
  exact groupPost_no hok.out (Below.refl _ _)

set_option maxRecDepth 100000 in
set_option maxHeartbeats 2000000 in
theorem groupRead_loop (s : ByteArray) (w : World) (h1 : 1 ≤ s.size) (h2 : s.size ≤ 4) (h0 : s.size = 1 ∨ s[0].toNat ≠ 48) :
    Calls Tryd.prog 68 #[.string s] w (GroupPost s.data.toList w) := by
  have hhead := Lib.hid (show s.data.toList.length = 1 ∨ s.data.toList.head? ≠ some 48 by
    rcases h0 with h | h
    · exact .inl h
    · right
      intro e
      apply h
      rw [List.head?_eq_getElem?, List.getElem?_eq_getElem (by simpa using (show 0 < s.size by omega))] at e
      have e2 : s.data.toList[0]'(by simpa using (show 0 < s.size by omega)) = s[0] := rfl
      rw [e2] at e
      injection e with e
      rw [e]
      rfl)
  have hcase : (¬ (1 : Int) < s.size) ∨ ((1 : Int) < s.size ∧ ((s[0].toNat : Int) == 48) = false) := by
    rcases h0 with h | h
    · exact .inl (by omega)
    · by_cases hone : (1 : Int) < s.size
      · exact .inr ⟨hone, by simp; omega⟩
      · exact .inl hone
  clear h0
  rcases hcase with hgt | ⟨hgt, h48⟩
  all_goals
    go_enter Tryd.func68, Tryd.ntmps68
    go_wp2_with (go_at_call 70; refine (within_yes _ _ _ _ (by omega) (by omega)).mono ?_; rintro e w' ⟨rfl, rfl⟩)
    go_loopw [4] (fun q wr => ∃ k : Nat, k ≤ s.size ∧ q = .int .i64 (valG (s.data.toList.take k) : Int) ∧ Hid (∀ b ∈ s.data.toList.take k, hexV b < 16) ∧ wr.heap[w.heap.size]? = some (.stringIter s k) ∧ Below w.heap.size w wr) (fun _ wr => s.size - wr.iterPos w.heap.size)
    case atStart => exact ⟨0, Nat.zero_le _, rfl, Lib.hid (by simp), World.iter_heap _ _ _, (Below.refl _ _).alloc (Nat.le_refl _) _⟩
    case round =>
      obtain ⟨k, hk, rfl, hall, hit, hb⟩ := hrel
      have hsz : w.heap.size < wr.heap.size := (Array.getElem?_eq_some_iff.1 hit).1
      by_cases hlt : k < s.size
      · have hv4 : valG (s.data.toList.take k) < 4096 := by
          have h := valG_lt _ hall.out
          have hl : (s.data.toList.take k).length ≤ 3 := Nat.le_trans (List.length_take_le _ _) (by omega)
          have := Nat.pow_le_pow_right (show 0 < 16 by omega) hl
          omega
        by_cases hd : hexV (s[k]'hlt) < 16
        · have hlt256 : (s[k]'hlt).toNat < 128 := by
            unfold hexV at hd
            split at hd
            · omega
            · split at hd <;> omega
          have hnx : ∀ ty, (Instr.next (.pointer (some ⟨w.heap.size, 0, none⟩)) true ty).run Tryd.prog wr = _ := fun ty => Lib.run_next_ascii_at wr w.heap.size s k ty hit hlt hlt256
          have hit2 := Lib.hid (Lib.iterAt_heap wr w.heap.size s k (k + 1) hit)
          have hb2 := Lib.hid (Lib.below_iterAt hb (k := w.heap.size) (Nat.le_refl _) s (k + 1))
          have hvt := Lib.hid (valG_takeS s k hlt)
          have hat := Lib.hid (take_all s k hlt hall.out hd)
          have hor := or_nib64 _ (hexV (s[k]'hlt)) hv4 hd
          have hit := Lib.hid hit
          go_wp2_with (go_at_call 91; refine (implDigit _ _ hd).mono ?_; rintro e w' ⟨rfl, rfl⟩)
          go_roundw
          case rel => exact ⟨k + 1, by omega, by rw [hvt.out]; go_num, Lib.hid hat.out, hit2.out, hb2.out⟩
          case measure => simp only [World.iterPos, hit2.out, hit.out]; omega
        · have hok := Lib.hid (okG_badS s k hlt hd)
          have hno : ∃ r : Nat, (Utf8.decode s k).1 = r ∧ ((r < 48 ∨ 57 < r) ∧ (r < 97 ∨ 102 < r)) ∧ r ≤ 2147483647 := by
            refine ⟨_, rfl, ?_, decode_le s k⟩
            by_cases ha : (s[k]'hlt).toNat < 128
            · rw [decode_ascii s k hlt ha]
              unfold hexV at hd
              split at hd
              · omega
              · split at hd <;> omega
            · have := (decode_high s k hlt (by omega)).1
              omega
          obtain ⟨r, hr, hr2, hr3⟩ := hno
          have hnx : ∀ ty, (Instr.next (.pointer (some ⟨w.heap.size, 0, none⟩)) true ty).run Tryd.prog wr = .ok (.tuple #[.bool true, .int .i64 k, .int .i32 r]) (wr.iterAt w.heap.size s (k + (Utf8.decode s k).2)) := fun ty => by
            rw [← hr]
            exact Lib.run_next_any_at wr w.heap.size s k ty hit hlt
          have hb2 := Lib.hid (Lib.below_iterAt hb (k := w.heap.size) (Nat.le_refl _) s (k + (Utf8.decode s k).2))
          have hr4 := Lib.hid (show ((r : Int) < 48 ∨ (57 : Int) < r) ∧ ((r : Int) < 97 ∨ (102 : Int) < r) by omega)
          clear hr hr2 hit hd hall
          go_wp2_with (go_at_call 91; refine (implDigit_no _ _ hr4.out.1 hr4.out.2).mono ?_; rintro e w' ⟨rfl, rfl⟩)
          go_ret2
          exact groupPost_no hok.out hb2.out
      · obtain rfl : k = s.size := by omega
        have hnx : ∀ ty, (Instr.next (.pointer (some ⟨w.heap.size, 0, none⟩)) true ty).run Tryd.prog wr = _ := fun ty => Lib.run_next_end_at wr w.heap.size s s.size ty hit hlt
        have et : s.data.toList.take s.size = s.data.toList := List.take_of_length_le (by simp)
        have hok := Lib.hid (okG_yes s.data.toList h1 h2 (by have := hall.out; rwa [et] at this) hhead.out)
        rw [et]
        clear hall hit et
        go_wp2
        go_ret2
        exact groupPost_yes hok.out hb

set_option maxRecDepth 100000 in
theorem implGroupRead (s : ByteArray) (w : World) (hs : s.size ≤ 1048576) : Calls Tryd.prog 68 #[.string s] w (GroupPost s.data.toList w) := by
  by_cases h : 1 ≤ s.size ∧ s.size ≤ 4
  · by_cases h0 : s.size = 1 ∨ (s[0]'(by omega)).toNat ≠ 48
    · exact groupRead_loop s w h.1 h.2 h0
    · exact groupRead_zero s w (by omega) h.2 (by omega)
  · exact groupRead_len s w hs h
end Go.Proofs.YtckakpcjbndijabDoor
namespace Go.Proofs.YtckakpcjbndijabDoor
open Go.RowKit

set_option maxRecDepth 100000 in
theorem rd6_len {s : List UInt8} (h : ¬ (splitC 58 s).length = 8) : (rd6 s).map ofA = none := by simp [rd6, h]
set_option maxRecDepth 100000 in
theorem rd6_bad {s p : List UInt8} {i : Nat} (hp : (splitC 58 s)[i]? = some p) (h : okG p = false) : (rd6 s).map ofA = none := by
  have : (splitC 58 s).all okG = false := by
    rw [List.all_eq_false]
    exact ⟨p, List.mem_of_getElem? hp, by simp [h]⟩
  simp [rd6, this]
def six (ps : List (List UInt8)) : List UInt8 := (ps.map valG).flatMap put16N
set_option maxRecDepth 100000 in
theorem six_length (ps : List (List UInt8)) : (six ps).length = 2 * ps.length := by rw [six, put16_len, List.length_map]
set_option maxRecDepth 100000 in
theorem rd6_all {s : List UInt8} (h : (splitC 58 s).length = 8) (ha : ∀ p ∈ splitC 58 s, okG p = true) : (rd6 s).map ofA = some (ofA (six (splitC 58 s))) := by
  have : (splitC 58 s).all okG = true := List.all_eq_true.2 ha
  simp [rd6, this, h, six]

set_option maxRecDepth 100000 in
set_option maxHeartbeats 1000000 in
theorem implSix_len (s : ByteArray) (m : Int) (w : World) (hs : s.size ≤ 1048576) (hm : w.cell? ⟨1, 0, none⟩ = some (.int .i64 m)) (h8 : ¬ (splitC 58 s.data.toList).length = 8) :
    Calls Tryd.prog 40 #[.string s] w (ReadOut ((rd6 s.data.toList).map ofA) w) := by
  have HN := Lib.hid (rd6_len h8)
  obtain ⟨ps, hps⟩ : ∃ ps, ps = splitC 58 s.data.toList := ⟨_, rfl⟩
  obtain ⟨N, hN⟩ : ∃ N, ps.length = N := ⟨_, rfl⟩
  have h5 : ((N : Int) == 8) = false := by rw [hps] at hN; simp; omega
  have h6 : ((N : Int) != 8) = true := by rw [hps] at hN; simp; omega
  have sp : ∀ v : World, v.cell? ⟨1, 0, none⟩ = some (.int .i64 m) → Calls Tryd.prog 67 #[.string s, .string ⟨#[58]⟩] v fun e w' => ∃ g, e = .returned (.slice (some ⟨g, 0, none⟩) N N) ∧ (∀ (j : Nat) (p : List UInt8), ps[j]? = some p → w'.cell? ⟨g, j, none⟩ = some (.string (strOf p))) ∧ Below v.heap.size v w' := by
    intro v hv
    have hh := splitCall 58 s m v hs hv
    unfold SplitOut at hh
    rwa [← hps, hN] at hh
  have SP := Lib.hid sp
  have HM := Lib.hid (fun o : Obj => cell_on (Joins.below_alloc1 w o) hm)
  clear h8 hps hN sp hm
  go_enter Tryd.func40, Tryd.ntmps40
  go_wp2_with fail
  refine (SP.out _ (HM.out _)).mono ?_
  rintro e w1 ⟨g, rfl, _, b1⟩
  obtain ⟨⟨c0, c1, c2, c3, c4⟩, f0, f1, f2, f3, f4⟩ := row5 (new_row b1)
  go_wp2
  (try simp only [Exit.inBlock, Exit.then])
  refine bodyPost_ret (v := .tuple #[.agg #[.int .i64 0, .int .i64 0, .int .i64 0, .int .i64 0, .int .i64 0], .bool false]) ?_ rfl (readOut_no HN.out (by have := bthen (Joins.below_alloc1 w _) b1; go_grown))
  refine res_cell_tmp Tryd.results40 _ _ _ w.heap.size _ ?_ (run_loadVar_row _ _ 25 25 _ (0, 0) _ (set5 _ _ _ _ _ (new_row b1)) Tryd.underlying25 rfl info_addr)
  rfl

set_option maxRecDepth 100000 in
set_option maxHeartbeats 2000000 in
theorem implSix_go (s : ByteArray) (m : Int) (w : World) (hs : s.size ≤ 1048576) (hm : w.cell? ⟨1, 0, none⟩ = some (.int .i64 m)) (h8 : (splitC 58 s.data.toList).length = 8) :
    Calls Tryd.prog 40 #[.string s] w (ReadOut ((rd6 s.data.toList).map ofA) w) := by
  have HB := Lib.hid (fun (i : Nat) (p : List UInt8) (hp : (splitC 58 s.data.toList)[i]? = some p) (h : okG p = false) => rd6_bad hp h)
  have HA := Lib.hid (fun (ha : ∀ p ∈ splitC 58 s.data.toList, okG p = true) => rd6_all h8 ha)
  have hsz := fun (p : List UInt8) (hp : p ∈ splitC 58 s.data.toList) => split_size 58 s.data.toList p hp
  obtain ⟨ps, hps⟩ : ∃ ps, ps = splitC 58 s.data.toList := ⟨_, rfl⟩
  have sp : ∀ v : World, v.cell? ⟨1, 0, none⟩ = some (.int .i64 m) → Calls Tryd.prog 67 #[.string s, .string ⟨#[58]⟩] v fun e w' => ∃ g, e = .returned (.slice (some ⟨g, 0, none⟩) 8 8) ∧ (∀ (j : Nat) (p : List UInt8), ps[j]? = some p → w'.cell? ⟨g, j, none⟩ = some (.string (strOf p))) ∧ Below v.heap.size v w' := by
    intro v hv
    have hh := splitCall 58 s m v hs hv
    unfold SplitOut at hh
    rwa [h8, ← hps] at hh
  rw [← hps] at HB HA hsz h8
  have HSZ := Lib.hid hsz
  have H8 := Lib.hid h8
  have HS := Lib.hid (show s.data.toList.length ≤ 1048576 from hs)
  obtain ⟨R, hR⟩ : ∃ R, R = (rd6 s.data.toList).map ofA := ⟨_, rfl⟩
  rw [← hR] at HB HA ⊢
  have SP := Lib.hid sp
  have HM := Lib.hid (fun o : Obj => cell_on (Joins.below_alloc1 w o) hm)
  clear h8 hps sp hm hsz hR
  go_enter Tryd.func40, Tryd.ntmps40
  go_wp2_with fail
  refine (SP.out _ (HM.out _)).mono ?_
  rintro e w1 ⟨g, rfl, hcs, b1⟩
  have HC := Lib.hid hcs
  have NR := Lib.hid (new_row b1)
  have hz1 : w.heap.size < w1.heap.size := by have := b1.size; simp at this; omega
  have B1 := Lib.hid (bthen (Joins.below_alloc1 w _) b1)
  clear hcs b1
  go_wp2_with fail
  go_loopw [5, 18] (fun v q wr => ∃ i : Nat, i ≤ 8 ∧ q = .int .i64 i ∧ Hid (∀ p ∈ ps.take i, okG p = true) ∧ Hid (wr.ownsRow w1.heap.size 5 1 v (six (ps.take i)).length (cellsOf (six (ps.take i)))) ∧ Hid (Below w1.heap.size w1 wr)) (fun _ q _ => 8 - (intOf q).toNat)
  case atStart => exact ⟨0, Nat.zero_le _, rfl, Lib.hid (by simp), Lib.hid ⟨rfl, .inl ⟨rfl, rfl⟩⟩, Lib.hid (Below.refl _ _)⟩
  case round =>
    obtain ⟨i, hi, rfl, ha, ho, hb⟩ := hrel
    by_cases hlt : i < 8
    · have hltI : (i : Int) < 8 := by omega
      have hil : i < ps.length := by rw [H8.out]; exact hlt
      obtain ⟨p, hp⟩ : ∃ p, ps[i]? = some p := ⟨_, List.getElem?_eq_getElem hil⟩
      have hc : wr.cell? ⟨g, i, none⟩ = some (.string (strOf p)) := cell_on hb.out (HC.out i p hp)
      have hpl : (strOf p).size ≤ 1048576 := Nat.le_trans (HSZ.out p (List.mem_of_getElem? hp)) HS.out
      have nr := Lib.hid (fun v : World => implGroupRead (strOf p) v hpl)
      have HP := Lib.hid hp
      have hrow := Lib.hid (row_on hb.out hz1 NR.out)
      have B2 := Lib.hid (B1.out.trans (hb.out.mono B1.out.size))
      cases h1 : okG p
      · have nc := Lib.hid (show ∀ v : World, Calls Tryd.prog 68 #[.string (strOf p)] v fun e w' => e = .returned (.tuple #[.int .i64 0, .bool false]) ∧ Below v.heap.size v w' from fun v => by
          have hh := nr.out v
          unfold GroupPost at hh
          rwa [show okG (strOf p).data.toList = false from h1, grpV, show okG (strOf p).data.toList = false from h1] at hh)
        have HN := Lib.hid (HB.out i p hp h1)
        clear hp h1 hpl
        go_wp2_with fail
        refine (nc.out _).mono ?_
        rintro e w2 ⟨rfl, b2⟩
        have hrow2 := row_on b2 (row_lt hrow.out) hrow.out
        obtain ⟨⟨c0, c1, c2, c3, c4⟩, f0, f1, f2, f3, f4⟩ := row5 hrow2
        have B3 := bthen B2.out b2
        go_wp2
        (try simp only [Exit.inBlock, Exit.then])
        refine bodyPost_ret (v := .tuple #[.agg #[.int .i64 0, .int .i64 0, .int .i64 0, .int .i64 0, .int .i64 0], .bool false]) ?_ rfl (readOut_no HN.out (by go_grown))
        refine res_cell_tmp Tryd.results40 _ _ _ w.heap.size _ ?_ (run_loadVar_row _ _ 25 25 _ (0, 0) _ (set5 _ _ _ _ _ hrow2) Tryd.underlying25 rfl info_addr)
        rfl
      · obtain ⟨V, hV⟩ : ∃ V, V = valG p := ⟨_, rfl⟩
        have nc := Lib.hid (show ∀ v : World, Calls Tryd.prog 68 #[.string (strOf p)] v fun e w' => e = .returned (.tuple #[.int .i64 (V : Int), .bool true]) ∧ Below v.heap.size v w' from fun v => by
          have hh := nr.out v
          unfold GroupPost at hh
          rwa [show okG (strOf p).data.toList = true from h1, grpV, show okG (strOf p).data.toList = true from h1, if_pos rfl, show valG (strOf p).data.toList = V from hV.symm] at hh)
        have E := Lib.hid (show six (ps.take (i + 1)) = six (ps.take i) ++ put16 (V : Int) by
          rw [List.getElem?_eq_getElem hil] at hp
          rw [take_snoc ps i hil, six, List.map_append, List.flatMap_append, Option.some.inj hp, hV]
          simp [six, put16N])
        have ha2 := Lib.hid (show ∀ q ∈ ps.take (i + 1), okG q = true by
          intro q hq
          rw [take_snoc ps i hil] at hq
          rcases List.mem_append.1 hq with h | h
          · exact ha.out q h
          · rw [List.mem_singleton.1 h]
            rw [List.getElem?_eq_getElem hil] at hp
            rw [Option.some.inj hp]
            exact h1)
        have hlen := Lib.hid (show (six (ps.take i)).length ≤ 16 by rw [six_length, List.length_take]; omega)
        obtain ⟨bs, hbs⟩ : ∃ bs, bs = six (ps.take i) := ⟨_, rfl⟩
        rw [← hbs] at ho E hlen
        clear hp h1 hpl hV hbs
        go_wp2_with fail
        refine (nc.out _).mono ?_
        rintro e w2 ⟨rfl, b2⟩
        have hlo := fun u (hu : u5.ownBlock = some u) => (ho.out.lt u hu).1
        have HLO := Lib.hid hlo
        have o2 := Lib.hid (own_below ho.out b2)
        have B3 := Lib.hid (hb.out.trans (b2.mono hb.out.size))
        have hz := hb.out.size
        have hz2 := b2.size
        clear hlo b2
        go_wp2_with fail
        refine (implPut16 (V : Int) _).mono ?_
        rintro e w3 ⟨rfl, o3, b3⟩
        have o4 := Lib.hid (own_below o2.out b3)
        have r4 := Lib.hid (RB.of_own o3)
        have B4 := Lib.hid (B3.out.trans (b3.mono B3.out.size))
        have hz3 := b3.size
        clear o3 b3
        go_wp2_with (at_builtin; refine wpList_append_b rfl (.tmp 30) (.tmp 32) rfl w1.heap.size u5 bs rfl o4.out _ (some ⟨w2.heap.size, 0, none⟩) 2 2 (put16 (V : Int)) rfl rfl r4.out (by have := hlen.out; simp [put16]; omega) (by omega) ?_; intro v5 w5 o5 g5 _)
        have R1 := Lib.hid (show w5.ownsRow w1.heap.size 5 1 v5 (six (ps.take (i + 1))).length (cellsOf (six (ps.take (i + 1)))) by rw [E.out]; exact o5)
        have R2 := Lib.hid (show Below w1.heap.size w1 w5 from B4.out.grown g5 (by omega) HLO.out)
        go_wp2
        go_roundw
        case rel => exact ⟨i + 1, by omega, by go_num, ha2, R1, R2⟩
        case measure => simp [intOf]; omega
    · obtain rfl : i = 8 := by omega
      have e8 : ps.take 8 = ps := List.take_of_length_le (by rw [H8.out]; exact Nat.le_refl _)
      have HY := Lib.hid (HA.out (by have := ha.out; rwa [e8] at this))
      have o8 := ho.out
      rw [e8] at o8
      obtain ⟨bs, hbs⟩ : ∃ bs, bs = six ps := ⟨_, rfl⟩
      have hbl : bs.length = 16 := by rw [hbs, six_length, H8.out]
      rw [← hbs, hbl] at o8
      rw [← hbs] at HY
      obtain ⟨A, k, rfl⟩ := own_form o8
      have ao := Lib.hid (show Calls Tryd.prog 25 #[.slice A 16 k] wr fun e w' => e = .returned (.tuple #[.agg #[.int .i64 (ofA bs).k, .int .i64 (ofA bs).a, .int .i64 (ofA bs).b, .int .i64 (ofA bs).c, .int .i64 (ofA bs).d], .bool true]) ∧ Below wr.heap.size wr w' by
        have hh := implAddrOf A 16 k bs wr (RB.of_own o8) hbl (by omega)
        unfold OfOut at hh
        rwa [show okA bs = true by simp [okA, hbl]] at hh)
      have hrow := Lib.hid (row_on hb.out hz1 NR.out)
      have B2 := Lib.hid (B1.out.trans (hb.out.mono B1.out.size))
      obtain ⟨y, hy⟩ : ∃ y, y = ofA bs := ⟨_, rfl⟩
      rw [← hy] at ao HY
      clear e8 o8 hbs hbl hy
      go_wp2_with fail
      refine ao.out.mono ?_
      rintro e w2 ⟨rfl, b2⟩
      have hrow2 := row_on b2 (row_lt hrow.out) hrow.out
      obtain ⟨⟨c0, c1, c2, c3, c4⟩, f0, f1, f2, f3, f4⟩ := row5 hrow2
      have B3 := bthen B2.out b2
      go_wp2
      (try simp only [Exit.inBlock, Exit.then])
      refine bodyPost_ret (v := .tuple #[.agg #[.int .i64 y.k, .int .i64 y.a, .int .i64 y.b, .int .i64 y.c, .int .i64 y.d], .bool true]) ?_ rfl (readOut_yes HY.out (by go_grown))
      refine res_cell_tmp Tryd.results40 _ _ _ w.heap.size _ ?_ (run_loadVar_row _ _ 25 25 _ (0, 0) _ (set5 _ _ _ _ _ hrow2) Tryd.underlying25 rfl info_addr)
      rfl

set_option maxRecDepth 100000 in
theorem implSixRead (s : ByteArray) (m : Int) (w : World) (hs : s.size ≤ 1048576) (hm : w.cell? ⟨1, 0, none⟩ = some (.int .i64 m)) : Calls Tryd.prog 40 #[.string s] w (ReadOut ((rd6 s.data.toList).map ofA) w) := by
  by_cases h8 : (splitC 58 s.data.toList).length = 8
  · exact implSix_go s m w hs hm h8
  · exact implSix_len s m w hs hm h8

set_option maxRecDepth 100000 in
set_option maxHeartbeats 1000000 in
theorem implAddrRead (s : ByteArray) (m : Int) (w : World) (hs : s.size ≤ 1048576) (hm : w.cell? ⟨1, 0, none⟩ = some (.int .i64 m)) : Calls Tryd.prog 13 #[.string s] w (ReadOut (rdA s.data.toList) w) := by
  have HM := Lib.hid (fun o : Obj => cell_on (Joins.below_alloc1 w o) hm)
  have CC := Lib.hid (containsCall 58 s)
  by_cases h : (58 : UInt8) ∈ s.data.toList
  · have e : rdA s.data.toList = (rd6 s.data.toList).map ofA := if_pos h
    rw [e]
    have h2 : decide ((58 : UInt8) ∈ s.data.toList) = true := decide_eq_true h
    rw [h2] at CC
    have six := Lib.hid (fun (v : World) (hv : v.cell? ⟨1, 0, none⟩ = some (.int .i64 m)) => implSixRead s m v hs hv)
    obtain ⟨R, hR⟩ : ∃ R, R = (rd6 s.data.toList).map ofA := ⟨_, rfl⟩
    rw [← hR] at six ⊢
    clear hR h h2 e hm
    go_enter Tryd.func13, Tryd.ntmps13
    go_wp2_with fail
    refine (CC.out _).mono ?_
    rintro e w1 ⟨rfl, rfl⟩
    go_wp2_with fail
    refine (six.out _ (HM.out _)).mono ?_
    rintro e w2 ⟨rfl, b2⟩
    obtain ⟨⟨c0, c1, c2, c3, c4⟩, f0, f1, f2, f3, f4⟩ := row5 (new_row b2)
    have B3 := bthen (Joins.below_alloc1 w _) b2
    have N3 := Lib.hid (new_row b2)
    clear b2
    go_wp2
    (try simp only [Exit.inBlock, Exit.then])
    refine bodyPost_ret (v := .tuple #[.agg #[.int .i64 (R.getD Ad.zero).k, .int .i64 (R.getD Ad.zero).a, .int .i64 (R.getD Ad.zero).b, .int .i64 (R.getD Ad.zero).c, .int .i64 (R.getD Ad.zero).d], .bool R.isSome]) ?_ rfl ⟨rfl, by go_grown⟩
    refine res_cell_tmp Tryd.results13 _ _ _ w.heap.size _ ?_ (run_loadVar_row _ _ 25 25 _ (0, 0) _ (set5 _ _ _ _ _ N3.out) Tryd.underlying25 rfl info_addr)
    rfl
  · have e : rdA s.data.toList = (rd4 s.data.toList).map ofA := if_neg h
    rw [e]
    have h2 : decide ((58 : UInt8) ∈ s.data.toList) = false := decide_eq_false h
    rw [h2] at CC
    have four := Lib.hid (fun (v : World) (hv : v.cell? ⟨1, 0, none⟩ = some (.int .i64 m)) => implFourRead s m v hs hv)
    obtain ⟨R, hR⟩ : ∃ R, R = (rd4 s.data.toList).map ofA := ⟨_, rfl⟩
    rw [← hR] at four ⊢
    clear hR h h2 e hm
    go_enter Tryd.func13, Tryd.ntmps13
    go_wp2_with fail
    refine (CC.out _).mono ?_
    rintro e w1 ⟨rfl, rfl⟩
    go_wp2_with fail
    refine (four.out _ (HM.out _)).mono ?_
    rintro e w2 ⟨rfl, b2⟩
    obtain ⟨⟨c0, c1, c2, c3, c4⟩, f0, f1, f2, f3, f4⟩ := row5 (new_row b2)
    have B3 := bthen (Joins.below_alloc1 w _) b2
    have N3 := Lib.hid (new_row b2)
    clear b2
    go_wp2
    (try simp only [Exit.inBlock, Exit.then])
    refine bodyPost_ret (v := .tuple #[.agg #[.int .i64 (R.getD Ad.zero).k, .int .i64 (R.getD Ad.zero).a, .int .i64 (R.getD Ad.zero).b, .int .i64 (R.getD Ad.zero).c, .int .i64 (R.getD Ad.zero).d], .bool R.isSome]) ?_ rfl ⟨rfl, by go_grown⟩
    refine res_cell_tmp Tryd.results13 _ _ _ w.heap.size _ ?_ (run_loadVar_row _ _ 25 25 _ (0, 0) _ (set5 _ _ _ _ _ N3.out) Tryd.underlying25 rfl info_addr)
    rfl
end Go.Proofs.YtckakpcjbndijabDoor
namespace Go.Proofs.YtckakpcjbndijabDoor
open Go.RowKit

set_option maxRecDepth 100000 in
set_option maxHeartbeats 1000000 in
theorem implPRead_any (s : ByteArray) (w : World) (h : s.data.toList = [97, 110, 121]) : Calls Tryd.prog 19 #[.string s] w (PReadOut (rdP s.data.toList) w) := by
  have HN := Lib.hid (rdP_any h)
  have h2 : (s.toList == [97, 110, 121]) = true := by rw [ByteArray.toList_eq, h]; rfl
  clear h
  go_enter Tryd.func19, Tryd.ntmps19
  go_wp2
  go_returns
  exact preadOut_any HN.out (by go_grown)

set_option maxRecDepth 100000 in
set_option maxHeartbeats 1000000 in
theorem implPRead_addr (s : ByteArray) (m : Int) (w : World) (hs : s.size ≤ 1048576) (hm : w.cell? ⟨1, 0, none⟩ = some (.int .i64 m)) (h : ¬ s.data.toList = [97, 110, 121]) (h1 : (rdA (cutA s.data.toList)).isSome = false) (B : Bool) (h2 : okNum (cutR s.data.toList) = B) : Calls Tryd.prog 19 #[.string s] w (PReadOut (rdP s.data.toList) w) := by
  obtain ⟨A, hA⟩ : ∃ A, A = cutA s.data.toList := ⟨_, rfl⟩
  obtain ⟨Q, hQ⟩ : ∃ Q, Q = cutR s.data.toList := ⟨_, rfl⟩
  have hc := cut_size s.data.toList
  rw [← hA, ← hQ] at hc
  obtain ⟨p, hp⟩ : ∃ p, p = pfOf A Q := ⟨_, rfl⟩
  have hpb : (rdA A).getD Ad.zero = p.base := by rw [hp]; rfl
  have hpl : numR Q = p.len := by rw [hp]; rfl
  rw [← hA] at h1
  rw [← hQ] at h2
  have cu := fun (v : World) (hv : v.cell? ⟨1, 0, none⟩ = some (.int .i64 m)) => cutCall s m v hs hv
  rw [← hA, ← hQ] at cu
  have hsl : s.data.toList.length = s.size := rfl
  have ar := fun (v : World) (hv : v.cell? ⟨1, 0, none⟩ = some (.int .i64 m)) => implAddrRead (strOf A) m v (by rw [strOf_size]; omega) hv
  unfold ReadOut at ar
  rw [strOf_data, h1, hpb] at ar
  have nr := fun v : World => implNumRead (strOf Q) v (by rw [strOf_size]; omega)
  unfold NumPost at nr
  rw [strOf_data, h2, hpl] at nr
  rw [rdP_else h, ← hA, ← hQ]
  have HN := Lib.hid (rdQ_no1 (r := Q) h1)
  have CU := Lib.hid cu
  have AR := Lib.hid ar
  have NR := Lib.hid nr
  have HM := Lib.hid (fun o : Obj => cell_on (Joins.below_alloc1 w o) hm)
  have hany : (s.toList == [97, 110, 121]) = false := by
    simp only [beq_eq_false_iff_ne, ne_eq]
    rw [ByteArray.toList_eq]
    exact h
  obtain ⟨R, hR⟩ : ∃ R, R = rdQ A Q := ⟨_, rfl⟩
  rw [← hR] at HN ⊢
  clear cu ar nr hm h hA hQ hc hp hpb hpl h1 h2 hR hsl 
  go_enter Tryd.func19, Tryd.ntmps19
  go_wp2_with fail
  refine (CU.out _ (HM.out _)).mono ?_
  rintro e w1 ⟨bc, rfl, b1⟩
  have q1 := Lib.hid (new_row b1)
  have B1 := Lib.hid (bthen (Joins.below_alloc1 w _) b1)
  have HM1 := Lib.hid (cell_on b1 (HM.out _))
  clear b1
  go_wp2_with fail
  refine (AR.out _ HM1.out).mono ?_
  rintro e w2 ⟨rfl, b2⟩
  have q2 := Lib.hid (row_on b2 (row_lt q1.out) q1.out)
  have B2 := Lib.hid (bthen B1.out b2)
  clear b2
  go_wp2_with fail
  refine (NR.out _).mono ?_
  rintro e w3 ⟨rfl, b3⟩
  obtain ⟨c0, c1, c2, c3, c4⟩ := ad_box b3
  have q3 := row_on b3 (row_lt (row_on (Joins.below_alloc1 w2 _) (row_lt q2.out) q2.out)) (row_on (Joins.below_alloc1 w2 _) (row_lt q2.out) q2.out)
  have q4 := Lib.hid (row_on (Joins.below_alloc1 w3 (.cells #[.int .i64 p.base.k, .int .i64 p.base.a, .int .i64 p.base.b, .int .i64 p.base.c, .int .i64 p.base.d, .int .i64 p.len] 36)) (row_lt q3) q3)
  have B4 := Lib.hid (bthen (bthen (bthen B2.out (Joins.below_alloc1 w2 _)) b3) (Joins.below_alloc1 w3 (.cells #[.int .i64 p.base.k, .int .i64 p.base.a, .int .i64 p.base.b, .int .i64 p.base.c, .int .i64 p.base.d, .int .i64 p.len] 36)))
  clear b3 q3
  obtain ⟨⟨d0, d1, d2, d3, d4, d5⟩, f0, f1, f2, f3, f4, f5⟩ := row6 q4.out
  go_wp2
  (try simp only [Exit.inBlock, Exit.then])
  refine bodyPost_ret (v := .tuple #[.agg #[.int .i64 0, .int .i64 0, .int .i64 0, .int .i64 0, .int .i64 0, .int .i64 0], .bool false]) ?_ rfl (preadOut_no HN.out (below6 B4.out (Nat.le_refl _)))
  refine res_cell_tmp Tryd.results19 _ _ _ w.heap.size _ ?_ (run_loadVar_row _ _ 36 36 _ (0, 0) _ (set6 _ _ _ _ _ _ q4.out) Tryd.underlying36 rfl info_pfx)
  rfl

set_option maxRecDepth 100000 in
set_option maxHeartbeats 1000000 in
theorem implPRead_num (s : ByteArray) (m : Int) (w : World) (hs : s.size ≤ 1048576) (hm : w.cell? ⟨1, 0, none⟩ = some (.int .i64 m)) (h : ¬ s.data.toList = [97, 110, 121]) (h1 : (rdA (cutA s.data.toList)).isSome = true) (h2 : okNum (cutR s.data.toList) = false) : Calls Tryd.prog 19 #[.string s] w (PReadOut (rdP s.data.toList) w) := by
  obtain ⟨A, hA⟩ : ∃ A, A = cutA s.data.toList := ⟨_, rfl⟩
  obtain ⟨Q, hQ⟩ : ∃ Q, Q = cutR s.data.toList := ⟨_, rfl⟩
  have hc := cut_size s.data.toList
  rw [← hA, ← hQ] at hc
  obtain ⟨p, hp⟩ : ∃ p, p = pfOf A Q := ⟨_, rfl⟩
  have hpb : (rdA A).getD Ad.zero = p.base := by rw [hp]; rfl
  have hpl : numR Q = p.len := by rw [hp]; rfl
  rw [← hA] at h1
  rw [← hQ] at h2
  have cu := fun (v : World) (hv : v.cell? ⟨1, 0, none⟩ = some (.int .i64 m)) => cutCall s m v hs hv
  rw [← hA, ← hQ] at cu
  have hsl : s.data.toList.length = s.size := rfl
  have ar := fun (v : World) (hv : v.cell? ⟨1, 0, none⟩ = some (.int .i64 m)) => implAddrRead (strOf A) m v (by rw [strOf_size]; omega) hv
  unfold ReadOut at ar
  rw [strOf_data, h1, hpb] at ar
  have nr := fun v : World => implNumRead (strOf Q) v (by rw [strOf_size]; omega)
  unfold NumPost at nr
  rw [strOf_data, h2, hpl] at nr
  rw [rdP_else h, ← hA, ← hQ]
  have HN := Lib.hid (rdQ_no2 (a := A) h2)
  have CU := Lib.hid cu
  have AR := Lib.hid ar
  have NR := Lib.hid nr
  have HM := Lib.hid (fun o : Obj => cell_on (Joins.below_alloc1 w o) hm)
  have hany : (s.toList == [97, 110, 121]) = false := by
    simp only [beq_eq_false_iff_ne, ne_eq]
    rw [ByteArray.toList_eq]
    exact h
  obtain ⟨R, hR⟩ : ∃ R, R = rdQ A Q := ⟨_, rfl⟩
  rw [← hR] at HN ⊢
  clear cu ar nr hm h hA hQ hc hp hpb hpl h1 h2 hR hsl 
  go_enter Tryd.func19, Tryd.ntmps19
  go_wp2_with fail
  refine (CU.out _ (HM.out _)).mono ?_
  rintro e w1 ⟨bc, rfl, b1⟩
  have q1 := Lib.hid (new_row b1)
  have B1 := Lib.hid (bthen (Joins.below_alloc1 w _) b1)
  have HM1 := Lib.hid (cell_on b1 (HM.out _))
  clear b1
  go_wp2_with fail
  refine (AR.out _ HM1.out).mono ?_
  rintro e w2 ⟨rfl, b2⟩
  have q2 := Lib.hid (row_on b2 (row_lt q1.out) q1.out)
  have B2 := Lib.hid (bthen B1.out b2)
  clear b2
  go_wp2_with fail
  refine (NR.out _).mono ?_
  rintro e w3 ⟨rfl, b3⟩
  obtain ⟨c0, c1, c2, c3, c4⟩ := ad_box b3
  have q3 := row_on b3 (row_lt (row_on (Joins.below_alloc1 w2 _) (row_lt q2.out) q2.out)) (row_on (Joins.below_alloc1 w2 _) (row_lt q2.out) q2.out)
  have q4 := Lib.hid (row_on (Joins.below_alloc1 w3 (.cells #[.int .i64 p.base.k, .int .i64 p.base.a, .int .i64 p.base.b, .int .i64 p.base.c, .int .i64 p.base.d, .int .i64 p.len] 36)) (row_lt q3) q3)
  have B4 := Lib.hid (bthen (bthen (bthen B2.out (Joins.below_alloc1 w2 _)) b3) (Joins.below_alloc1 w3 (.cells #[.int .i64 p.base.k, .int .i64 p.base.a, .int .i64 p.base.b, .int .i64 p.base.c, .int .i64 p.base.d, .int .i64 p.len] 36)))
  clear b3 q3
  obtain ⟨⟨d0, d1, d2, d3, d4, d5⟩, f0, f1, f2, f3, f4, f5⟩ := row6 q4.out
  go_wp2
  (try simp only [Exit.inBlock, Exit.then])
  refine bodyPost_ret (v := .tuple #[.agg #[.int .i64 0, .int .i64 0, .int .i64 0, .int .i64 0, .int .i64 0, .int .i64 0], .bool false]) ?_ rfl (preadOut_no HN.out (below6 B4.out (Nat.le_refl _)))
  refine res_cell_tmp Tryd.results19 _ _ _ w.heap.size _ ?_ (run_loadVar_row _ _ 36 36 _ (0, 0) _ (set6 _ _ _ _ _ _ q4.out) Tryd.underlying36 rfl info_pfx)
  rfl

set_option maxRecDepth 100000 in
set_option maxHeartbeats 1000000 in
theorem implPRead_bad (s : ByteArray) (m : Int) (w : World) (hs : s.size ≤ 1048576) (hm : w.cell? ⟨1, 0, none⟩ = some (.int .i64 m)) (h : ¬ s.data.toList = [97, 110, 121]) (h1 : (rdA (cutA s.data.toList)).isSome = true) (h2 : okNum (cutR s.data.toList) = true) (h3 : (pfOf (cutA s.data.toList) (cutR s.data.toList)).ok = false) : Calls Tryd.prog 19 #[.string s] w (PReadOut (rdP s.data.toList) w) := by
  obtain ⟨A, hA⟩ : ∃ A, A = cutA s.data.toList := ⟨_, rfl⟩
  obtain ⟨Q, hQ⟩ : ∃ Q, Q = cutR s.data.toList := ⟨_, rfl⟩
  have hc := cut_size s.data.toList
  rw [← hA, ← hQ] at hc
  obtain ⟨p, hp⟩ : ∃ p, p = pfOf A Q := ⟨_, rfl⟩
  have hpb : (rdA A).getD Ad.zero = p.base := by rw [hp]; rfl
  have hpl : numR Q = p.len := by rw [hp]; rfl
  rw [← hA] at h1
  rw [← hQ] at h2
  have cu := fun (v : World) (hv : v.cell? ⟨1, 0, none⟩ = some (.int .i64 m)) => cutCall s m v hs hv
  rw [← hA, ← hQ] at cu
  have hsl : s.data.toList.length = s.size := rfl
  have ar := fun (v : World) (hv : v.cell? ⟨1, 0, none⟩ = some (.int .i64 m)) => implAddrRead (strOf A) m v (by rw [strOf_size]; omega) hv
  unfold ReadOut at ar
  rw [strOf_data, h1, hpb] at ar
  have nr := fun v : World => implNumRead (strOf Q) v (by rw [strOf_size]; omega)
  unfold NumPost at nr
  rw [strOf_data, h2, hpl] at nr
  rw [rdP_else h, ← hA, ← hQ]
  rw [← hA, ← hQ] at h3
  have HN := Lib.hid (rdQ_no3 h3)
  rw [← hp] at h3
  have pk := implPrefixOk p
  rw [h3] at pk
  have PK := Lib.hid pk
  have CU := Lib.hid cu
  have AR := Lib.hid ar
  have NR := Lib.hid nr
  have HM := Lib.hid (fun o : Obj => cell_on (Joins.below_alloc1 w o) hm)
  have hany : (s.toList == [97, 110, 121]) = false := by
    simp only [beq_eq_false_iff_ne, ne_eq]
    rw [ByteArray.toList_eq]
    exact h
  obtain ⟨R, hR⟩ : ∃ R, R = rdQ A Q := ⟨_, rfl⟩
  rw [← hR] at HN ⊢
  clear cu ar nr hm h hA hQ hc hp hpb hpl h1 h2 hR hsl pk h3
  go_enter Tryd.func19, Tryd.ntmps19
  go_wp2_with fail
  refine (CU.out _ (HM.out _)).mono ?_
  rintro e w1 ⟨bc, rfl, b1⟩
  have q1 := Lib.hid (new_row b1)
  have B1 := Lib.hid (bthen (Joins.below_alloc1 w _) b1)
  have HM1 := Lib.hid (cell_on b1 (HM.out _))
  clear b1
  go_wp2_with fail
  refine (AR.out _ HM1.out).mono ?_
  rintro e w2 ⟨rfl, b2⟩
  have q2 := Lib.hid (row_on b2 (row_lt q1.out) q1.out)
  have B2 := Lib.hid (bthen B1.out b2)
  clear b2
  go_wp2_with fail
  refine (NR.out _).mono ?_
  rintro e w3 ⟨rfl, b3⟩
  obtain ⟨c0, c1, c2, c3, c4⟩ := ad_box b3
  have q3 := row_on b3 (row_lt (row_on (Joins.below_alloc1 w2 _) (row_lt q2.out) q2.out)) (row_on (Joins.below_alloc1 w2 _) (row_lt q2.out) q2.out)
  have q4 := Lib.hid (row_on (Joins.below_alloc1 w3 (.cells #[.int .i64 p.base.k, .int .i64 p.base.a, .int .i64 p.base.b, .int .i64 p.base.c, .int .i64 p.base.d, .int .i64 p.len] 36)) (row_lt q3) q3)
  have B4 := Lib.hid (bthen (bthen (bthen B2.out (Joins.below_alloc1 w2 _)) b3) (Joins.below_alloc1 w3 (.cells #[.int .i64 p.base.k, .int .i64 p.base.a, .int .i64 p.base.b, .int .i64 p.base.c, .int .i64 p.base.d, .int .i64 p.len] 36)))
  clear b3 q3
  go_wp2_with fail
  refine (PK.out _).mono ?_
  rintro e w5 ⟨rfl, b5⟩
  obtain ⟨e0, e1, e2, e3, e4, e5⟩ := pf_box b5
  have q5 := Lib.hid (row_on b5 (row_lt q4.out) q4.out)
  obtain ⟨⟨d0, d1, d2, d3, d4, d5⟩, f0, f1, f2, f3, f4, f5⟩ := row6 q5.out
  have B5 := Lib.hid (bthen B4.out b5)
  clear b5
  go_wp2
  (try simp only [Exit.inBlock, Exit.then])
  refine bodyPost_ret (v := .tuple #[.agg #[.int .i64 0, .int .i64 0, .int .i64 0, .int .i64 0, .int .i64 0, .int .i64 0], .bool false]) ?_ rfl (preadOut_no HN.out (below6 B5.out (Nat.le_refl _)))
  refine res_cell_tmp Tryd.results19 _ _ _ w.heap.size _ ?_ (run_loadVar_row _ _ 36 36 _ (0, 0) _ (set6 _ _ _ _ _ _ q5.out) Tryd.underlying36 rfl info_pfx)
  rfl

set_option maxRecDepth 100000 in
set_option maxHeartbeats 1000000 in
theorem implPRead_yes (s : ByteArray) (m : Int) (w : World) (hs : s.size ≤ 1048576) (hm : w.cell? ⟨1, 0, none⟩ = some (.int .i64 m)) (h : ¬ s.data.toList = [97, 110, 121]) (h1 : (rdA (cutA s.data.toList)).isSome = true) (h2 : okNum (cutR s.data.toList) = true) (h3 : (pfOf (cutA s.data.toList) (cutR s.data.toList)).ok = true) : Calls Tryd.prog 19 #[.string s] w (PReadOut (rdP s.data.toList) w) := by
  obtain ⟨A, hA⟩ : ∃ A, A = cutA s.data.toList := ⟨_, rfl⟩
  obtain ⟨Q, hQ⟩ : ∃ Q, Q = cutR s.data.toList := ⟨_, rfl⟩
  have hc := cut_size s.data.toList
  rw [← hA, ← hQ] at hc
  obtain ⟨p, hp⟩ : ∃ p, p = pfOf A Q := ⟨_, rfl⟩
  have hpb : (rdA A).getD Ad.zero = p.base := by rw [hp]; rfl
  have hpl : numR Q = p.len := by rw [hp]; rfl
  rw [← hA] at h1
  rw [← hQ] at h2
  have cu := fun (v : World) (hv : v.cell? ⟨1, 0, none⟩ = some (.int .i64 m)) => cutCall s m v hs hv
  rw [← hA, ← hQ] at cu
  have hsl : s.data.toList.length = s.size := rfl
  have ar := fun (v : World) (hv : v.cell? ⟨1, 0, none⟩ = some (.int .i64 m)) => implAddrRead (strOf A) m v (by rw [strOf_size]; omega) hv
  unfold ReadOut at ar
  rw [strOf_data, h1, hpb] at ar
  have nr := fun v : World => implNumRead (strOf Q) v (by rw [strOf_size]; omega)
  unfold NumPost at nr
  rw [strOf_data, h2, hpl] at nr
  rw [rdP_else h, ← hA, ← hQ]
  rw [← hA, ← hQ] at h3
  have HN := Lib.hid (rdQ_yes h1 h2 h3)
  rw [← hp] at h3 HN
  have pk := implPrefixOk p
  rw [h3] at pk
  have PK := Lib.hid pk
  have CU := Lib.hid cu
  have AR := Lib.hid ar
  have NR := Lib.hid nr
  have HM := Lib.hid (fun o : Obj => cell_on (Joins.below_alloc1 w o) hm)
  have hany : (s.toList == [97, 110, 121]) = false := by
    simp only [beq_eq_false_iff_ne, ne_eq]
    rw [ByteArray.toList_eq]
    exact h
  obtain ⟨R, hR⟩ : ∃ R, R = rdQ A Q := ⟨_, rfl⟩
  rw [← hR] at HN ⊢
  clear cu ar nr hm h hA hQ hc hp hpb hpl h1 h2 hR hsl pk h3
  go_enter Tryd.func19, Tryd.ntmps19
  go_wp2_with fail
  refine (CU.out _ (HM.out _)).mono ?_
  rintro e w1 ⟨bc, rfl, b1⟩
  have q1 := Lib.hid (new_row b1)
  have B1 := Lib.hid (bthen (Joins.below_alloc1 w _) b1)
  have HM1 := Lib.hid (cell_on b1 (HM.out _))
  clear b1
  go_wp2_with fail
  refine (AR.out _ HM1.out).mono ?_
  rintro e w2 ⟨rfl, b2⟩
  have q2 := Lib.hid (row_on b2 (row_lt q1.out) q1.out)
  have B2 := Lib.hid (bthen B1.out b2)
  clear b2
  go_wp2_with fail
  refine (NR.out _).mono ?_
  rintro e w3 ⟨rfl, b3⟩
  obtain ⟨c0, c1, c2, c3, c4⟩ := ad_box b3
  have q3 := row_on b3 (row_lt (row_on (Joins.below_alloc1 w2 _) (row_lt q2.out) q2.out)) (row_on (Joins.below_alloc1 w2 _) (row_lt q2.out) q2.out)
  have q4 := Lib.hid (row_on (Joins.below_alloc1 w3 (.cells #[.int .i64 p.base.k, .int .i64 p.base.a, .int .i64 p.base.b, .int .i64 p.base.c, .int .i64 p.base.d, .int .i64 p.len] 36)) (row_lt q3) q3)
  have B4 := Lib.hid (bthen (bthen (bthen B2.out (Joins.below_alloc1 w2 _)) b3) (Joins.below_alloc1 w3 (.cells #[.int .i64 p.base.k, .int .i64 p.base.a, .int .i64 p.base.b, .int .i64 p.base.c, .int .i64 p.base.d, .int .i64 p.len] 36)))
  clear b3 q3
  go_wp2_with fail
  refine (PK.out _).mono ?_
  rintro e w5 ⟨rfl, b5⟩
  obtain ⟨e0, e1, e2, e3, e4, e5⟩ := pf_box b5
  have q5 := Lib.hid (row_on b5 (row_lt q4.out) q4.out)
  obtain ⟨⟨d0, d1, d2, d3, d4, d5⟩, f0, f1, f2, f3, f4, f5⟩ := row6 q5.out
  have B5 := Lib.hid (bthen B4.out b5)
  clear b5
  go_wp2
  (try simp only [Exit.inBlock, Exit.then])
  refine bodyPost_ret (v := .tuple #[.agg #[.int .i64 p.base.k, .int .i64 p.base.a, .int .i64 p.base.b, .int .i64 p.base.c, .int .i64 p.base.d, .int .i64 p.len], .bool true]) ?_ rfl (preadOut_yes HN.out (below6 B5.out (Nat.le_refl _)))
  refine res_cell_tmp Tryd.results19 _ _ _ w.heap.size _ ?_ (run_loadVar_row _ _ 36 36 _ (0, 0) _ (set6 _ _ _ _ _ _ q5.out) Tryd.underlying36 rfl info_pfx)
  rfl

set_option maxRecDepth 100000 in
theorem implPrefixRead (s : ByteArray) (m : Int) (w : World) (hs : s.size ≤ 1048576) (hm : w.cell? ⟨1, 0, none⟩ = some (.int .i64 m)) : Calls Tryd.prog 19 #[.string s] w (PReadOut (rdP s.data.toList) w) := by
  by_cases h : s.data.toList = [97, 110, 121]
  · exact implPRead_any s w h
  · cases h1 : (rdA (cutA s.data.toList)).isSome
    · exact implPRead_addr s m w hs hm h h1 _ rfl
    · cases h2 : okNum (cutR s.data.toList)
      · exact implPRead_num s m w hs hm h h1 h2
      · cases h3 : (pfOf (cutA s.data.toList) (cutR s.data.toList)).ok
        · exact implPRead_bad s m w hs hm h h1 h2 h3
        · exact implPRead_yes s m w hs hm h h1 h2 h3
end Go.Proofs.YtckakpcjbndijabDoor
namespace Go.Proofs.YtckakpcjbndijabDoor
open Go.RowKit Go.ChangeShapes Go.WideShapes Go.ChangeAt

structure In (w : World) (A : Option Addr) (n c : Nat) (bs : List UInt8) : Prop where
  len : bs.length = n
  cap : n ≤ c
  big : c ≤ maxLen
  rb : RB w w.heap.size A bs

set_option maxRecDepth 100000 in
theorem byte_of_wf (z : Int) (h : (Lit.int .u8 z).wf = true) : ((UInt8.ofNat z.toNat).toNat : Int) = z := by
  have hb := bounds_u8 h
  simp
  omega

set_option maxRecDepth 100000 in
theorem bytes_in {H : Type} {enc : TypeId × Value → H} {w : World} {A : Option Addr} {n c : Nat} {d : DataW H} {p : List MemPlace} (h : DataW.Trod enc Tryd.prog w 0 (fun _ => true) true 42 (.slice A n c) d p) :
    ∃ bs, In w A n c bs := by
  obtain ⟨fuel, hf⟩ := h
  rcases open_ints Tryd.underlying42 Tryd.underlying5 (by kernel_rfl) hf with ⟨hcs, _⟩ | ⟨x, l, cp, zs, hcs, _, hl, hm, hz, _, hcell, hwz⟩
  · simp [Value.cells] at hcs
    obtain ⟨rfl, rfl, rfl⟩ := hcs
    exact ⟨[], rfl, Nat.le_refl _, Nat.zero_le _, RB.nil_ _ _ _⟩
  · simp [Value.cells] at hcs
    obtain ⟨rfl, rfl, rfl⟩ := hcs
    simp only [if_true] at hz
    refine ⟨(zs.take n).map fun z => UInt8.ofNat z.toNat, by simp; omega, hl, hm, fun hp => ?_⟩
    simp only [List.length_map, List.length_take] at hp
    obtain ⟨g, o, spot⟩ := x
    have h0 := hcell 0 (by omega)
    have hspot : spot = none := by simpa [Addr.add] using World.cell?_spot h0
    subst hspot
    refine ⟨g, o, rfl, ?_, fun j u hu => ?_⟩
    · have := World.block_lt_of_cell? w _ h0
      simpa [addr_add] using this
    · simp only [List.getElem?_map, Option.map_eq_some_iff, List.getElem?_take] at hu
      obtain ⟨z, hz1, rfl⟩ := hu
      split at hz1
      · have hj : j < zs.length := by omega
        have hc := hcell j hj
        rw [addr_add] at hc
        rw [hc]
        have hzj : zs[j] = z := by rw [List.getElem?_eq_getElem hj] at hz1; simpa using hz1
        rw [byte_of_wf z (hwz z (by rw [← hzj]; exact List.getElem_mem hj))]
        simp [hj, hzj]
      · cases hz1
end Go.Proofs.YtckakpcjbndijabDoor
