/-
  AddrText in the model.
-/
import Derived.Test.YtckakpcjbndijabDoorTextLib
import Derived.Test.YtckakpcjbndijabDoorAddrBytes
import Derived.Test.YtckakpcjbndijabDoorNumText
import Derived.Test.YtckakpcjbndijabDoorHexText
import Derived.Lib.QuietBelow
namespace Go.Proofs.YtckakpcjbndijabDoor
open Go.RowKit

set_option maxRecDepth 100000 in
theorem strOf_append (a b : List UInt8) : strOf (a ++ b) = strOf a ++ strOf b := by
  apply ByteArray.ext
  simp [strOf]

set_option maxRecDepth 100000 in
set_option maxHeartbeats 400000 in
theorem specHexN (n : Nat) : n < 65536 → ∀ w : World, Calls Tryd.prog 30 #[.int .i64 (n : Int)] w fun e w' => e = .returned (.string (strOf (hexN n))) ∧ Below w.heap.size w w' := by
  induction n using Nat.strongRecOn with
  | ind n ih =>
    intro hn w
    by_cases h : n < 16
    · have hI : (n : Int) < 16 := by omega
      have hcv := conv_b (w.alloc (.cells #[.int .u8 ((hexDig n).toNat : Int)] 5)) _ (some ⟨w.heap.size, 0, none⟩) 1 1 [hexDig n] rfl (RB.new w 5 [hexDig n])
      have E := Lib.hid (hexN_small n h)
      clear ih
      go_enter Tryd.func30, Tryd.ntmps30
      go_wp2_with (go_at_call 58; refine (specDigitN n _ h).mono ?_; rintro e w' ⟨rfl, rfl⟩)
      go_ret
      rw [E.out]
      exact ⟨rfl, by go_grown⟩
    · have hI : ¬ (n : Int) < 16 := by omega
      have IH := Lib.hid (ih (n / 16) (by omega) (by omega))
      obtain ⟨q, hq⟩ : ∃ q : Nat, q = n / 16 := ⟨_, rfl⟩
      obtain ⟨r, hr⟩ : ∃ r : Nat, r = n % 16 := ⟨_, rfl⟩
      have hqI : (n : Int) / 16 = (q : Int) := by omega
      have hrI : (n : Int) % 16 = (r : Int) := by omega
      have hr16 : r < 16 := by omega
      have E := Lib.hid (show hexN n = hexN q ++ [hexDig r] by rw [hexN_big n h, hq, hr])
      have hsz : ¬ 9223372036854775807 < (strOf (hexN q)).size + (strOf [hexDig r]).size := by
        have := hexN_len 3 q (by omega)
        rw [strOf_size, strOf_size]
        simp
        omega
      rw [← hq] at IH
      clear ih h hq hr
      go_enter Tryd.func30, Tryd.ntmps30
      go_wp2_with fail
      refine (IH.out _).mono ?_
      rintro e w1 ⟨rfl, b1⟩
      have hcv := conv_b (w1.alloc (.cells #[.int .u8 ((hexDig r).toNat : Int)] 5)) _ (some ⟨w1.heap.size, 0, none⟩) 1 1 [hexDig r] rfl (RB.new w1 5 [hexDig r])
      go_wp2_with (go_at_call 58; refine (specDigitN r _ hr16).mono ?_; rintro e w' ⟨rfl, rfl⟩)
      go_ret
      rw [E.out, strOf_append]
      exact ⟨rfl, bthen b1 (Joins.below_alloc1 w1 _)⟩

set_option maxRecDepth 100000 in
theorem pre4 (bs : List UInt8) (i : Nat) (h : i < bs.length) : joinC 46 ((bs.take (i + 1)).map numB) = if i = 0 then numB bs[i] else joinC 46 ((bs.take i).map numB) ++ 46 :: numB bs[i] := by
  rw [take_snoc bs i h, List.map_append, List.map_singleton]
  split
  · rename_i h0
    subst h0
    rw [List.take_zero, List.map_nil, List.nil_append, joinC_one]
  · rename_i h0
    rw [joinC_snoc]
    intro e
    have := congrArg List.length e
    rw [List.length_map, List.length_take, List.length_nil] at this
    omega
set_option maxRecDepth 100000 in
theorem pre6 (ws : List Int) (i : Nat) (h : i < ws.length) : joinC 58 ((ws.take (i + 1)).map hexW) = if i = 0 then hexW ws[i] else joinC 58 ((ws.take i).map hexW) ++ 58 :: hexW ws[i] := by
  rw [take_snoc ws i h, List.map_append, List.map_singleton]
  split
  · rename_i h0
    subst h0
    rw [List.take_zero, List.map_nil, List.nil_append, joinC_one]
  · rename_i h0
    rw [joinC_snoc]
    intro e
    have := congrArg List.length e
    rw [List.length_map, List.length_take, List.length_nil] at this
    omega
set_option maxRecDepth 100000 in
theorem len4t (bs : List UInt8) (i : Nat) (h : bs.length ≤ 16) : (joinC 46 ((bs.take i).map numB)).length ≤ 64 := by
  have h1 := joinC_len 46 3 ((bs.take i).map numB) (fun x hx => by
    obtain ⟨b, _, rfl⟩ := List.mem_map.1 hx
    exact numB_len b)
  simp only [List.length_map, List.length_take] at h1
  omega
set_option maxRecDepth 100000 in
theorem len6t (ws : List Int) (i : Nat) (h : ws.length ≤ 8) (hw : ∀ n ∈ ws, n ≤ 65535) : (joinC 58 ((ws.take i).map hexW)).length ≤ 40 := by
  have h1 := joinC_len 58 4 ((ws.take i).map hexW) (fun x hx => by
    obtain ⟨n, hn, rfl⟩ := List.mem_map.1 hx
    exact hexW_len n (hw n (List.mem_of_mem_take hn)))
  simp only [List.length_map, List.length_take] at h1
  omega

def TextOut (x : Ad) (w : World) (e : Ending) (w' : World) : Prop := e = .returned (.string (strOf x.text)) ∧ Below w.heap.size w w'
set_option maxRecDepth 100000 in
theorem text_no {x : Ad} (h : x.ok = false) : x.text = [] := by simp [Ad.text, h]
set_option maxRecDepth 100000 in
theorem text_four {x : Ad} (h : x.ok = true) (hk : x.k = 4) : x.text = text4 (put32 x.d) := by simp [Ad.text, h, hk]
set_option maxRecDepth 100000 in
theorem text_six {x : Ad} (h : x.ok = true) (hk : x.k = 6) : x.text = text6 x.whole := by simp [Ad.text, h, hk]

set_option maxRecDepth 100000 in
set_option maxHeartbeats 400000 in
theorem specText_no (x : Ad) (h : x.ok = false) (w : World) : Calls Tryd.prog 9 #[.agg #[.int .i64 x.k, .int .i64 x.a, .int .i64 x.b, .int .i64 x.c, .int .i64 x.d]] w (TextOut x w) := by
  have so : ∀ v : World, Calls Tryd.prog 28 #[.agg #[.int .i64 x.k, .int .i64 x.a, .int .i64 x.b, .int .i64 x.c, .int .i64 x.d]] v fun e v' => ∃ A c, e = .returned (.slice A 0 c) ∧ v'.ownsRow v.heap.size 5 1 (.slice A 0 c) 0 (cellsOf []) ∧ Below v.heap.size v v' := by
    intro v
    have hh := specAddrBytes x v
    unfold BytesOut at hh
    rwa [show x.bytes = [] by simp [Ad.bytes, h]] at hh
  have SO := Lib.hid so
  have E := Lib.hid (text_no h)
  clear so h
  go_enter Tryd.func9, Tryd.ntmps9
  go_wp2_with fail
  refine (SO.out _).mono ?_
  rintro e w1 ⟨A, k1, rfl, o1, b1⟩
  go_wp2
  go_ret
  unfold TextOut
  rw [E.out]
  exact ⟨rfl, bthen (Joins.below_alloc1 w _) b1⟩

set_option maxRecDepth 100000 in
set_option maxHeartbeats 1000000 in
theorem specText_four (x : Ad) (h : x.ok = true) (hk : x.k = 4) (w : World) : Calls Tryd.prog 9 #[.agg #[.int .i64 x.k, .int .i64 x.a, .int .i64 x.b, .int .i64 x.c, .int .i64 x.d]] w (TextOut x w) := by
  obtain ⟨bs, hbs⟩ : ∃ bs, bs = put32 x.d := ⟨_, rfl⟩
  have hl : bs.length = 4 := by rw [hbs]; rfl
  have so : ∀ v : World, Calls Tryd.prog 28 #[.agg #[.int .i64 x.k, .int .i64 x.a, .int .i64 x.b, .int .i64 x.c, .int .i64 x.d]] v fun e v' => ∃ A c, e = .returned (.slice A 4 c) ∧ v'.ownsRow v.heap.size 5 1 (.slice A 4 c) 4 (cellsOf bs) ∧ Below v.heap.size v v' := by
    intro v
    have hh := specAddrBytes x v
    unfold BytesOut at hh
    rwa [bytes_four h hk, ← hbs, hl] at hh
  have SO := Lib.hid so
  have E := Lib.hid (show x.text = text4 bs by rw [text_four h hk, hbs])
  have HL := Lib.hid hl
  clear so h hk hbs hl
  go_enter Tryd.func9, Tryd.ntmps9
  go_wp2_with fail
  refine (SO.out _).mono ?_
  rintro e w1 ⟨A, k1, rfl, o1, b1⟩
  have O1 := Lib.hid o1
  have B1 := Lib.hid (bthen (Joins.below_alloc1 w _) b1)
  clear o1 b1
  go_wp2_with fail
  go_loopw [4, 5] (fun s q wr => ∃ i : Nat, i ≤ 4 ∧ q = .int .i64 i ∧ s = .string (strOf (joinC 46 ((bs.take i).map numB))) ∧ Hid (wr.ownsRow (w.heap.size + 1) 5 1 (.slice A 4 k1) 4 (cellsOf bs)) ∧ Hid (Below w.heap.size w wr)) (fun _ q _ => 4 - (intOf q).toNat)
  case atStart => exact ⟨0, by omega, rfl, rfl, Lib.hid (by simpa using O1.out), B1⟩
  case round =>
    obtain ⟨i, hi, rfl, rfl, ho, hb⟩ := hrel
    by_cases hlt : i < 4
    · have hil : i < bs.length := by rw [HL.out]; exact hlt
      obtain ⟨g, rfl⟩ : ∃ g, A = some ⟨g, 0, none⟩ := by
        rcases ho.out.2 with ⟨_, h2⟩ | ⟨g, cap, cur, hv, _⟩
        · omega
        · injection hv with hA
          exact ⟨g, hA⟩
      obtain ⟨b, hb0⟩ : ∃ b : UInt8, b = bs[i] := ⟨_, rfl⟩
      have hc : wr.cell? ⟨g, i, none⟩ = some (.int .u8 (b.toNat : Int)) := by
        rw [ho.out.cellAt i (by omega), cellsOf_get bs i b (by rw [hb0]; exact List.getElem?_eq_getElem hil)]
      have hb256 := UInt8.toNat_lt b
      have E4 := Lib.hid (show joinC 46 ((bs.take (i + 1)).map numB) = if i = 0 then numB b else joinC 46 ((bs.take i).map numB) ++ 46 :: numB b by rw [pre4 bs i hil, hb0])
      obtain ⟨P, hP⟩ : ∃ P, P = joinC 46 ((bs.take i).map numB) := ⟨_, rfl⟩
      have hPl : P.length ≤ 64 := by rw [hP]; exact len4t bs i (by rw [HL.out]; omega)
      have hPz : i = 0 → P = [] := fun h0 => by rw [hP, h0]; rfl
      rw [← hP] at E4
      rw [← hP]
      obtain ⟨N, hN⟩ : ∃ N, N = numB b := ⟨_, rfl⟩
      have hNl : N.length ≤ 3 := by rw [hN]; exact numB_len b
      have nt := specNumText (b.toNat : Int)
      rw [show numText (b.toNat : Int) = N from hN.symm] at nt
      have NT := Lib.hid nt
      rw [← hN] at E4
      clear hP hb0 hN nt
      by_cases hi0 : i = 0
      · subst hi0
        rw [hPz rfl]
        rw [hPz rfl, if_pos rfl] at E4
        have hz1 : ¬ 9223372036854775807 < (strOf []).size + (strOf N).size := by rw [strOf_size, strOf_size]; simp; omega
        clear hPz
        go_wp2_with fail
        refine (NT.out _ (by omega)).mono ?_
        rintro e w2 ⟨rfl, b2⟩
        have R1 := Lib.hid (own_below ho.out b2)
        have R2 := Lib.hid (bthen hb.out b2)
        go_wp2
        go_roundw
        case rel => exact ⟨1, by omega, by go_num, by rw [E4.out, ← strOf_append]; rfl, R1, R2⟩
        case measure => simp [intOf]
      · have hi0I : (0 : Int) < (i : Int) := by omega
        rw [if_neg hi0] at E4
        have hz1 : ¬ 9223372036854775807 < (strOf P).size + 1 := by rw [strOf_size]; omega
        have hz2 : ¬ 9223372036854775807 < (strOf P).size + 1 + (strOf N).size := by rw [strOf_size, strOf_size]; omega
        clear hPz
        go_wp2_with fail
        refine (NT.out _ (by omega)).mono ?_
        rintro e w2 ⟨rfl, b2⟩
        have R1 := Lib.hid (own_below ho.out b2)
        have R2 := Lib.hid (bthen hb.out b2)
        go_wp2
        go_roundw
        case rel => exact ⟨i + 1, by omega, by go_num, by rw [E4.out, show P ++ 46 :: N = (P ++ [46]) ++ N by simp, strOf_append, strOf_append]; rfl, R1, R2⟩
        case measure => simp [intOf]; omega
    · obtain rfl : i = 4 := by omega
      have e4 : (bs.take 4).map numB = bs.map numB := by rw [List.take_of_length_le (by rw [HL.out]; exact Nat.le_refl _)]
      have EE := Lib.hid (show x.text = joinC 46 ((bs.take 4).map numB) by rw [E.out, e4]; rfl)
      clear e4
      go_wp2
      go_ret
      unfold TextOut
      rw [EE.out]
      exact ⟨rfl, hb.out⟩

set_option maxRecDepth 100000 in
set_option maxHeartbeats 1000000 in
theorem specText_six (x : Ad) (h : x.ok = true) (hk : x.k = 6) (w : World) : Calls Tryd.prog 9 #[.agg #[.int .i64 x.k, .int .i64 x.a, .int .i64 x.b, .int .i64 x.c, .int .i64 x.d]] w (TextOut x w) := by
  obtain ⟨bs, hbs⟩ : ∃ bs, bs = x.whole := ⟨_, rfl⟩
  have hl : bs.length = 16 := by rw [hbs, x.whole_length]
  have so : ∀ v : World, Calls Tryd.prog 28 #[.agg #[.int .i64 x.k, .int .i64 x.a, .int .i64 x.b, .int .i64 x.c, .int .i64 x.d]] v fun e v' => ∃ A c, e = .returned (.slice A 16 c) ∧ v'.ownsRow v.heap.size 5 1 (.slice A 16 c) 16 (cellsOf bs) ∧ Below v.heap.size v v' := by
    intro v
    have hh := specAddrBytes x v
    unfold BytesOut at hh
    rwa [bytes_six h hk, ← hbs, hl] at hh
  have SO := Lib.hid so
  have E := Lib.hid (show x.text = text6 bs by rw [text_six h hk, hbs])
  have HL := Lib.hid hl
  obtain ⟨ws, hws⟩ : ∃ ws, ws = wordsL bs := ⟨_, rfl⟩
  have hwl : ws.length = 8 := by rw [hws, wordsL_length, hl]
  have HWL := Lib.hid hwl
  have HWS := Lib.hid hws
  clear so h hk hbs hl hws hwl
  go_enter Tryd.func9, Tryd.ntmps9
  go_wp2_with fail
  refine (SO.out _).mono ?_
  rintro e w1 ⟨A, k1, rfl, o1, b1⟩
  have O1 := Lib.hid o1
  have B1 := Lib.hid (bthen (Joins.below_alloc1 w _) b1)
  clear o1 b1
  go_wp2_with fail
  go_loopw [4, 6] (fun s q wr => ∃ i : Nat, i ≤ 8 ∧ q = .int .i64 i ∧ s = .string (strOf (joinC 58 ((ws.take i).map hexW))) ∧ Hid (wr.ownsRow (w.heap.size + 1) 5 1 (.slice A 16 k1) 16 (cellsOf bs)) ∧ Hid (Below w.heap.size w wr)) (fun _ q _ => 8 - (intOf q).toNat)
  case atStart => exact ⟨0, by omega, rfl, rfl, Lib.hid (by simpa using O1.out), B1⟩
  case round =>
    obtain ⟨i, hi, rfl, rfl, ho, hb⟩ := hrel
    by_cases hlt : i < 8
    · have hil : 2 * i + 1 < bs.length := by rw [HL.out]; omega
      have hiw : i < ws.length := by rw [HWL.out]; exact hlt
      obtain ⟨g, rfl⟩ : ∃ g, A = some ⟨g, 0, none⟩ := by
        rcases ho.out.2 with ⟨_, h2⟩ | ⟨g, cap, cur, hv, _⟩
        · omega
        · injection hv with hA
          exact ⟨g, hA⟩
      obtain ⟨a, ha0⟩ : ∃ a : UInt8, a = bs[2 * i] := ⟨_, rfl⟩
      obtain ⟨b, hb0⟩ : ∃ b : UInt8, b = bs[2 * i + 1] := ⟨_, rfl⟩
      have hca : wr.cell? ⟨g, 2 * i, none⟩ = some (.int .u8 (a.toNat : Int)) := by
        rw [ho.out.cellAt (2 * i) (by omega), cellsOf_get bs (2 * i) a (by rw [ha0]; exact List.getElem?_eq_getElem (by omega))]
      have hcb : wr.cell? ⟨g, 2 * i + 1, none⟩ = some (.int .u8 (b.toNat : Int)) := by
        rw [ho.out.cellAt (2 * i + 1) (by omega), cellsOf_get bs (2 * i + 1) b (by rw [hb0]; exact List.getElem?_eq_getElem hil)]
      have ha256 := UInt8.toNat_lt a
      have hb256 := UInt8.toNat_lt b
      obtain ⟨n, hn⟩ : ∃ n : Nat, n = 256 * a.toNat + b.toNat := ⟨_, rfl⟩
      have hn16 : n < 65536 := by omega
      have hwi : ws[i] = (n : Int) := by
        have h1 := wordsL_pair bs i hil
        rw [← HWS.out, List.getElem?_eq_getElem hiw, ← ha0, ← hb0] at h1
        have h2 := Option.some.inj h1
        rw [h2]
        omega
      have E6 := Lib.hid (show joinC 58 ((ws.take (i + 1)).map hexW) = if i = 0 then hexN n else joinC 58 ((ws.take i).map hexW) ++ 58 :: hexN n by rw [pre6 ws i hiw, hwi]; rfl)
      obtain ⟨P, hP⟩ : ∃ P, P = joinC 58 ((ws.take i).map hexW) := ⟨_, rfl⟩
      have hPl : P.length ≤ 40 := by
        rw [hP]
        refine len6t ws i (by rw [HWL.out]; exact Nat.le_refl _) (fun m hm => ?_)
        obtain ⟨j, hj⟩ := List.getElem?_of_mem hm
        rw [HWS.out] at hj
        exact (wordsL_le bs j m hj).2
      have hPz : i = 0 → P = [] := fun h0 => by rw [hP, h0]; rfl
      rw [← hP] at E6
      rw [← hP]
      obtain ⟨N, hN⟩ : ∃ N, N = hexN n := ⟨_, rfl⟩
      have hNl : N.length ≤ 4 := by rw [hN]; exact hexN_len 3 n (by omega)
      have nt := specHexN n hn16
      rw [← hN] at nt
      have NT := Lib.hid nt
      rw [← hN] at E6
      have hnI : 256 * (a.toNat : Int) + (b.toNat : Int) = (n : Int) := by omega
      have ka := cell_regrown hca
      have kb := cell_regrown hcb
      clear hP ha0 hb0 hN nt hn hwi hca hcb
      by_cases hi0 : i = 0
      · subst hi0
        rw [hPz rfl]
        rw [hPz rfl, if_pos rfl] at E6
        have hz1 : ¬ 9223372036854775807 < (strOf []).size + (strOf N).size := by rw [strOf_size, strOf_size]; simp; omega
        clear hPz
        go_wp2_with fail
        refine wp_region_quiet_below (by kernel_rfl) (by kernel_rfl) ?_
        repeat (go_big_quiet_step ((go_at_call 30; exact Calls.regrown_of (NT.out _))))
        refine wpQuiet_nil ?_
        intro w2 hw2
        obtain ⟨⟨dq, osq⟩, hw2⟩ := hw2
        have b2 := below_regrown wr dq osq
        rw [← hw2] at b2
        clear hw2 ka kb
        have R1 := Lib.hid (own_below ho.out b2)
        have R2 := Lib.hid (bthen hb.out b2)
        go_wp2
        go_roundw
        case rel => exact ⟨1, by omega, by go_num, by rw [E6.out, ← strOf_append]; rfl, R1, R2⟩
        case measure => simp [intOf]
      · have hi0I : (0 : Int) < (i : Int) := by omega
        rw [if_neg hi0] at E6
        have hz1 : ¬ 9223372036854775807 < (strOf P).size + 1 := by rw [strOf_size]; omega
        have hz2 : ¬ 9223372036854775807 < (strOf P).size + 1 + (strOf N).size := by rw [strOf_size, strOf_size]; omega
        clear hPz
        go_wp2_with fail
        refine wp_region_quiet_below (by kernel_rfl) (by kernel_rfl) ?_
        repeat (go_big_quiet_step ((go_at_call 30; exact Calls.regrown_of (NT.out _))))
        refine wpQuiet_nil ?_
        intro w2 hw2
        obtain ⟨⟨dq, osq⟩, hw2⟩ := hw2
        have b2 := below_regrown wr dq osq
        rw [← hw2] at b2
        clear hw2 ka kb
        have R1 := Lib.hid (own_below ho.out b2)
        have R2 := Lib.hid (bthen hb.out b2)
        go_wp2
        go_roundw
        case rel => exact ⟨i + 1, by omega, by go_num, by rw [E6.out, show P ++ 58 :: N = (P ++ [58]) ++ N by simp, strOf_append, strOf_append]; rfl, R1, R2⟩
        case measure => simp [intOf]; omega
    · obtain rfl : i = 8 := by omega
      have e8 : (ws.take 8).map hexW = ws.map hexW := by rw [List.take_of_length_le (by rw [HWL.out]; exact Nat.le_refl _)]
      have EE := Lib.hid (show x.text = joinC 58 ((ws.take 8).map hexW) by rw [E.out, e8, HWS.out]; rfl)
      clear e8
      go_wp2
      go_ret
      unfold TextOut
      rw [EE.out]
      exact ⟨rfl, hb.out⟩

set_option maxRecDepth 100000 in
theorem specAddrText (x : Ad) (w : World) : Calls Tryd.prog 9 #[.agg #[.int .i64 x.k, .int .i64 x.a, .int .i64 x.b, .int .i64 x.c, .int .i64 x.d]] w (TextOut x w) := by
  cases h : x.ok
  · exact specText_no x h w
  · rcases x.ok_kind h with hk | hk
    · exact specText_four x h hk w
    · exact specText_six x h hk w
end Go.Proofs.YtckakpcjbndijabDoor
