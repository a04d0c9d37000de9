/-
  AddrText in the program, of kind 6 and of no kind.
-/
import Derived.Test.YtckakpcjbndijabDoorTextImpl
namespace Go.Proofs.YtckakpcjbndijabDoor
open Go.RowKit

set_option maxRecDepth 100000 in
set_option maxHeartbeats 1000000 in
theorem implText_six (x : Ad) (hk : ¬ x.k = 4) (w : World) (ht : Tabs w) : Calls Tryd.prog 11 #[.agg #[.int .i64 x.k, .int .i64 x.a, .int .i64 x.b, .int .i64 x.c, .int .i64 x.d]] w fun e w' => e = .returned (.string (strOf (joinC 58 ((wordsL x.bytes).map hexW)))) ∧ Below w.heap.size w w' := by
  obtain ⟨bs, hbs⟩ : ∃ bs, x.bytes = bs := ⟨_, rfl⟩
  obtain ⟨L, hL⟩ : ∃ L, bs.length = L := ⟨_, rfl⟩
  have hL16 : L ≤ 16 := by rw [← hL, ← hbs]; exact bytes_le x
  have so : ∀ v : World, Calls Tryd.prog 24 #[.agg #[.int .i64 x.k, .int .i64 x.a, .int .i64 x.b, .int .i64 x.c, .int .i64 x.d]] v fun e v' => ∃ A c, e = .returned (.slice A L c) ∧ v'.ownsRow v.heap.size 5 1 (.slice A L c) L (cellsOf bs) ∧ Below v.heap.size v v' := by
    intro v
    have hh := implAddrBytes x v
    unfold BytesOut at hh
    rwa [hbs, hL] at hh
  rw [hbs]
  obtain ⟨ws, hws⟩ : ∃ ws, ws = wordsL bs := ⟨_, rfl⟩
  obtain ⟨M, hM⟩ : ∃ M, M = (L + 1) / 2 := ⟨_, rfl⟩
  have hM8 : M ≤ 8 := by omega
  have hwl : ws.length = M := by rw [hws, wordsL_length, hL, hM]
  have wo : ∀ (v : World) (A : Option Addr) (c : Nat), RB v v.heap.size A bs → Calls Tryd.prog 33 #[.slice A L c] v fun e v' => e = .returned (.slice (some ⟨v.heap.size, 0, none⟩) M M) ∧ v'.ownsRow v.heap.size 3 1 (.slice (some ⟨v.heap.size, 0, none⟩) M M) M (intsOf ws) ∧ Below v.heap.size v v' := by
    intro v A c hr
    have hh := wordsOfC A c bs v hr (by omega)
    rwa [hL, ← hM, ← hws] at hh
  rw [← hws]
  have hwv : ∀ (j : Nat) (n : Int), ws[j]? = some n → 0 ≤ n ∧ n ≤ 65535 := fun j n h => wordsL_le bs j n (by rw [← hws]; exact h)
  have SO := Lib.hid so
  have WO := Lib.hid wo
  have HWL := Lib.hid hwl
  have HWV := Lib.hid hwv
  have HK := Lib.hid hk
  have HT := Lib.hid ht
  clear so wo hbs hL hk ht hws hM hwl hwv
  go_enter Tryd.func11, Tryd.ntmps11
  go_wp2_with fail
  refine (SO.out _).mono ?_
  rintro e w1 ⟨A, k1, rfl, o1, b1⟩
  obtain ⟨c0, c1, c2, c3, c4⟩ := ad_box b1
  have B1 := bthen (Joins.below_alloc1 w _) b1
  have hk := HK.out
  go_wp2_with fail
  refine (WO.out _ _ _ (RB.of_own o1)).mono ?_
  rintro e w2 ⟨rfl, o2, b2⟩
  have O2 := Lib.hid o2
  have B2 := Lib.hid (bthen B1 b2)
  have T2 := Lib.hid (HT.out.on B2.out)
  have hz12 := Lib.hid b2.size
  clear o1 o2 b1 b2 B1 c0 c1 c2 c3 c4
  go_wp2_with fail
  go_loopw [4, 32] (fun v q wr => ∃ i : Nat, i ≤ M ∧ q = .int .i64 i ∧ Hid (wr.ownsRow w2.heap.size 9 1 v i (strsOf ((ws.take i).map hexW))) ∧ Hid (Below w2.heap.size w2 wr)) (fun _ q _ => M - (intOf q).toNat)
  case atStart => exact ⟨0, Nat.zero_le _, rfl, Lib.hid ⟨rfl, .inl ⟨rfl, rfl⟩⟩, Lib.hid (Below.refl _ _)⟩
  case round =>
    obtain ⟨i, hi, rfl, ho, hb⟩ := hrel
    by_cases hlt : i < M
    · have hltI : (i : Int) < (M : Int) := by omega
      have hil : i < ws.length := by rw [HWL.out]; exact hlt
      have hc1 : w2.cell? ⟨w1.heap.size, i, none⟩ = some (.int .i64 ws[i]) := by
        rw [O2.out.cellAt i (by omega), intsOf_get ws i _ (List.getElem?_eq_getElem hil)]
      have hc : wr.cell? ⟨w1.heap.size, i, none⟩ = some (.int .i64 ws[i]) := cell_on hb.out hc1
      have hv := HWV.out i ws[i] (List.getElem?_eq_getElem hil)
      obtain ⟨n, hn⟩ : ∃ n : Nat, ws[i] = (n : Int) := ⟨ws[i].toNat, by omega⟩
      rw [hn] at hc hv
      have hn16 : n < 65536 := by omega
      obtain ⟨N, hN⟩ : ∃ N, N = hexN n := ⟨_, rfl⟩
      have nt : ∀ v, Tabs v → Calls Tryd.prog 34 #[.int .i64 (n : Int), .int .i64 16] v fun e v' => e = .returned (.string (strOf N)) ∧ Below v.heap.size v v' := by
        intro v hv
        rw [hN]
        exact formatInt16 n hn16 v hv.de
      have NT := Lib.hid nt
      have E := Lib.hid (show (ws.take (i + 1)).map hexW = (ws.take i).map hexW ++ [N] by rw [take_snoc ws i hil, List.map_append, List.map_singleton, hN, hn]; rfl)
      clear hc1 hn hN nt hk
      go_wp2_with fail
      refine (NT.out _ (T2.out.on hb.out)).mono ?_
      rintro e w5 ⟨rfl, b5⟩
      have hlo := fun u (hu : u4.ownBlock = some u) => (ho.out.lt u hu).1
      have HLO := Lib.hid hlo
      have o5 := Lib.hid (own_below (own_below ho.out b5) (Joins.below_alloc1 w5 (.cells #[.string (strOf N)] 9)))
      have B5 := Lib.hid (hb.out.trans (b5.mono hb.out.size))
      have hz := hb.out.size
      have hz2 := b5.size
      clear hlo
      go_wp2_with (at_builtin; refine wpList_append_s rfl (.tmp 36) (.tmp 39) rfl w2.heap.size u4 i ((ws.take i).map hexW) rfl o5.out _ (some ⟨w5.heap.size, 0, none⟩) 1 1 [N] rfl rfl (RV.new w5 9 (strsOf [N])) (by omega) (by simp; omega) ?_; intro v3 w3 o3 g3)
      have R1 := Lib.hid (show w3.ownsRow w2.heap.size 9 1 v3 (i + 1) (strsOf ((ws.take (i + 1)).map hexW)) by rw [E.out]; exact o3)
      have R2 := Lib.hid (show Below w2.heap.size w2 w3 from (B5.out.alloc (by omega) (.cells #[.string (strOf N)] 9)).grown g3 (by simp; omega) HLO.out)
      go_wp2
      go_roundw
      case rel => exact ⟨i + 1, by omega, by go_num, R1, R2⟩
      case measure => simp [intOf]; omega
    · obtain rfl : i = M := by omega
      have hltI : ¬ (i : Int) < (i : Int) := by omega
      have e4 : (ws.take i).map hexW = ws.map hexW := by rw [List.take_of_length_le (by rw [HWL.out]; exact Nat.le_refl _)]
      have o5 := ho.out
      rw [e4] at o5
      have jt := Lib.hid (joinText 58 (ws.map hexW) u4 i w2.heap.size wr o5 (by rw [List.length_map, HWL.out]) (by
        have h1 := joinC_len 58 4 (ws.map hexW) (fun x hx => by
          obtain ⟨n, hn, rfl⟩ := List.mem_map.1 hx
          obtain ⟨j, hj⟩ := List.getElem?_of_mem hn
          exact hexW_len n (HWV.out j n hj).2)
        rw [List.length_map, HWL.out] at h1
        omega) (by omega))
      clear o5 e4
      go_wp2_with fail
      refine jt.out.mono ?_
      rintro e w6 ⟨rfl, b6⟩
      go_wp2
      go_ret
      exact ⟨rfl, bthen (B2.out.trans (hb.out.mono B2.out.size)) b6⟩

set_option maxRecDepth 100000 in
theorem implAddrText (x : Ad) (w : World) (ht : Tabs w) : Calls Tryd.prog 11 #[.agg #[.int .i64 x.k, .int .i64 x.a, .int .i64 x.b, .int .i64 x.c, .int .i64 x.d]] w (TextOut x w) := by
  unfold TextOut
  rw [← textK_eq]
  by_cases hk : x.k = 4
  · rw [show textK x = joinC 46 (x.bytes.map numB) by simp [textK, hk]]
    exact implText_four x hk w ht
  · rw [show textK x = joinC 58 ((wordsL x.bytes).map hexW) by simp [textK, hk]]
    exact implText_six x hk w ht
end Go.Proofs.YtckakpcjbndijabDoor
