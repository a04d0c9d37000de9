/-
  PrefixText in the program and in the model.
-/
import Derived.Test.YtckakpcjbndijabDoorTextImpl2
import Derived.Test.YtckakpcjbndijabDoorPfxSpec
namespace Go.Proofs.YtckakpcjbndijabDoor
open Go.RowKit

/-- The text of a prefix. -/
def Pf.text (p : Pf) : List UInt8 := if p.ok then (if p = Pf.zero then [97, 110, 121] else p.base.text ++ 47 :: numText p.len) else []
set_option maxRecDepth 100000 in
theorem Ad.text_len (x : Ad) : x.text.length ≤ 80 := by
  unfold Ad.text
  split
  · split
    · have := len4t (put32 x.d) 4 (by simp [put32])
      rw [List.take_of_length_le (by simp [put32])] at this
      unfold text4
      omega
    · have h8 : (wordsL x.whole).length = 8 := by rw [wordsL_length, x.whole_length]
      have := len6t (wordsL x.whole) 8 (by omega) (fun n hn => by
        obtain ⟨j, hj⟩ := List.getElem?_of_mem hn
        exact (wordsL_le x.whole j n hj).2)
      rw [List.take_of_length_le (by omega)] at this
      unfold text6
      omega
  · simp
set_option maxRecDepth 100000 in
theorem numText_len (n : Int) (h0 : 0 ≤ n) (h1 : n ≤ 128) : (numText n).length ≤ 3 := by
  have h := dec_len 3 n.natAbs (by omega)
  unfold numText
  split
  · simp
  · rw [if_neg (by omega)]
    exact h
set_option maxRecDepth 100000 in
theorem has_bits' {p : Pf} (hp : p.ok = true) (hz : ¬ p = Pf.zero) : 0 ≤ p.len ∧ p.len ≤ p.base.bits := by
  simp only [Pf.ok, hz, decide_false, Bool.false_or, Bool.and_eq_true, decide_eq_true_eq] at hp
  exact hp.1.2
set_option maxRecDepth 100000 in
theorem Pf.ok_len {p : Pf} (h : p.ok = true) : 0 ≤ p.len ∧ p.len ≤ 128 := by
  by_cases hz : p = Pf.zero
  · subst hz; decide
  · have := has_bits' h hz
    have := bits_bd p.base
    omega
def PTextOut (p : Pf) (w : World) (e : Ending) (w' : World) : Prop := e = .returned (.string (strOf p.text)) ∧ Below w.heap.size w w'
set_option maxRecDepth 100000 in
theorem ptext_no {p : Pf} (h : p.ok = false) : p.text = [] := by simp [Pf.text, h]
set_option maxRecDepth 100000 in
theorem ptext_all {p : Pf} (h : p.ok = true) (hz : p = Pf.zero) : p.text = [97, 110, 121] := by unfold Pf.text; rw [h, if_pos rfl, if_pos hz]
set_option maxRecDepth 100000 in
theorem ptext_in {p : Pf} (h : p.ok = true) (hz : ¬ p = Pf.zero) : p.text = p.base.text ++ 47 :: numText p.len := by simp [Pf.text, h, hz]

set_option maxRecDepth 100000 in
set_option maxHeartbeats 400000 in
theorem specPText_no (p : Pf) (hp : p.ok = false) (w : World) : Calls Tryd.prog 15 #[.agg #[.int .i64 p.base.k, .int .i64 p.base.a, .int .i64 p.base.b, .int .i64 p.base.c, .int .i64 p.base.d, .int .i64 p.len]] w (PTextOut p w) := by
  have pk := specPrefixOk p
  rw [hp] at pk
  have PK := Lib.hid pk
  clear pk
  have E := Lib.hid (ptext_no hp)
  clear hp
  go_enter Tryd.func15, Tryd.ntmps15
  go_wp2_with fail
  refine (PK.out _).mono ?_
  rintro e w1 ⟨rfl, b1⟩
  go_wp2
  go_ret
  unfold PTextOut
  rw [E.out]
  exact ⟨rfl, bthen (Joins.below_alloc1 w _) b1⟩

set_option maxRecDepth 100000 in
set_option maxHeartbeats 400000 in
theorem specPText_all (p : Pf) (hp : p.ok = true) (hz : p = Pf.zero) (w : World) : Calls Tryd.prog 15 #[.agg #[.int .i64 p.base.k, .int .i64 p.base.a, .int .i64 p.base.b, .int .i64 p.base.c, .int .i64 p.base.d, .int .i64 p.len]] w (PTextOut p w) := by
  have pk := specPrefixOk p
  rw [hp] at pk
  have PK := Lib.hid pk
  clear pk
  have an := specAny p
  rw [decide_eq_true hz] at an
  have AN := Lib.hid an
  clear an
  have E := Lib.hid (ptext_all hp hz)
  clear hp hz
  go_enter Tryd.func15, Tryd.ntmps15
  go_wp2_with fail
  refine (PK.out _).mono ?_
  rintro e w1 ⟨rfl, b1⟩
  obtain ⟨c0, c1, c2, c3, c4, c5⟩ := pf_box b1
  go_wp2_with fail
  refine (AN.out _).mono ?_
  rintro e w2 ⟨rfl, b2⟩
  have b12 := bthen b1 b2
  clear c0 c1 c2 c3 c4 c5
  go_wp2
  go_ret
  unfold PTextOut
  rw [E.out]
  exact ⟨rfl, bthen (Joins.below_alloc1 w _) b12⟩

set_option maxRecDepth 100000 in
set_option maxHeartbeats 400000 in
theorem specPText_in (p : Pf) (hp : p.ok = true) (hz : ¬ p = Pf.zero) (w : World) : Calls Tryd.prog 15 #[.agg #[.int .i64 p.base.k, .int .i64 p.base.a, .int .i64 p.base.b, .int .i64 p.base.c, .int .i64 p.base.d, .int .i64 p.len]] w (PTextOut p w) := by
  have pk := specPrefixOk p
  rw [hp] at pk
  have PK := Lib.hid pk
  clear pk
  have an := specAny p
  rw [decide_eq_false hz] at an
  have AN := Lib.hid an
  clear an
  have E := Lib.hid (ptext_in hp hz)
  obtain ⟨h0, h1⟩ := p.ok_len hp
  have hNl := numText_len p.len h0 h1
  have hPl := p.base.text_len
  obtain ⟨P, hP⟩ : ∃ P, P = p.base.text := ⟨_, rfl⟩
  obtain ⟨N, hN⟩ : ∃ N, N = numText p.len := ⟨_, rfl⟩
  have at_ : ∀ v, Calls Tryd.prog 9 #[.agg #[.int .i64 p.base.k, .int .i64 p.base.a, .int .i64 p.base.b, .int .i64 p.base.c, .int .i64 p.base.d]] v fun e v' => e = .returned (.string (strOf P)) ∧ Below v.heap.size v v' := by
    intro v
    have := specAddrText p.base v
    unfold TextOut at this
    rwa [← hP] at this
  have nt : ∀ v, Calls Tryd.prog 29 #[.int .i64 p.len] v fun e v' => e = .returned (.string (strOf N)) ∧ Below v.heap.size v v' := by
    intro v
    have := specNumText p.len v (by omega)
    rwa [← hN] at this
  rw [← hP, ← hN] at E
  rw [← hP] at hPl
  rw [← hN] at hNl
  have AT := Lib.hid at_
  have NT := Lib.hid nt
  have hz1 : ¬ 9223372036854775807 < (strOf P).size + 1 := by rw [strOf_size]; omega
  have hz2 : ¬ 9223372036854775807 < (strOf P).size + 1 + (strOf N).size := by rw [strOf_size, strOf_size]; omega
  clear hp hz at_ nt hP hN h0 h1
  go_enter Tryd.func15, Tryd.ntmps15
  go_wp2_with fail
  refine (PK.out _).mono ?_
  rintro e w1 ⟨rfl, b1⟩
  obtain ⟨c0, c1, c2, c3, c4, c5⟩ := pf_box b1
  go_wp2_with fail
  refine (AN.out _).mono ?_
  rintro e w2 ⟨rfl, b2⟩
  have b12 := bthen b1 b2
  clear c0 c1 c2 c3 c4 c5
  obtain ⟨c0, c1, c2, c3, c4, c5⟩ := pf_box b12
  have k0 := cell_regrown c0
  have k1 := cell_regrown c1
  have k2 := cell_regrown c2
  have k3 := cell_regrown c3
  have k4 := cell_regrown c4
  have k5 := cell_regrown c5
  go_wp2_with fail
  refine wp_region_quiet_below (by kernel_rfl) (by kernel_rfl) ?_
  repeat (go_big_quiet_step (first | (go_at_call 9; exact Calls.regrown_of (AT.out _)) | (go_at_call 29; exact Calls.regrown_of (NT.out _))))
  refine wpQuiet_nil ?_
  intro w3 hw3
  obtain ⟨⟨dq, osq⟩, hw3⟩ := hw3
  have b3 := below_regrown w2 dq osq
  rw [← hw3] at b3
  clear hw3 k0 k1 k2 k3 k4 k5 c0 c1 c2 c3 c4 c5
  go_wp2
  go_ret
  unfold PTextOut
  rw [E.out, show P ++ 47 :: N = (P ++ [47]) ++ N by simp, strOf_append, strOf_append]
  exact ⟨rfl, bthen (bthen (Joins.below_alloc1 w _) b12) b3⟩

set_option maxRecDepth 100000 in
theorem specPrefixText (p : Pf) (w : World) : Calls Tryd.prog 15 #[.agg #[.int .i64 p.base.k, .int .i64 p.base.a, .int .i64 p.base.b, .int .i64 p.base.c, .int .i64 p.base.d, .int .i64 p.len]] w (PTextOut p w) := by
  cases hp : p.ok
  · exact specPText_no p hp w
  · by_cases hz : p = Pf.zero
    · exact specPText_all p hp hz w
    · exact specPText_in p hp hz w

set_option maxRecDepth 100000 in
set_option maxHeartbeats 400000 in
theorem implPText_no (p : Pf) (hp : p.ok = false) (w : World) : Calls Tryd.prog 17 #[.agg #[.int .i64 p.base.k, .int .i64 p.base.a, .int .i64 p.base.b, .int .i64 p.base.c, .int .i64 p.base.d, .int .i64 p.len]] w (PTextOut p w) := by
  have pk := implPrefixOk p
  rw [hp] at pk
  have PK := Lib.hid pk
  clear pk
  have E := Lib.hid (ptext_no hp)
  clear hp
  go_enter Tryd.func17, Tryd.ntmps17
  go_wp2_with fail
  refine (PK.out _).mono ?_
  rintro e w1 ⟨rfl, b1⟩
  go_wp2
  go_ret
  unfold PTextOut
  rw [E.out]
  exact ⟨rfl, bthen (Joins.below_alloc1 w _) b1⟩

set_option maxRecDepth 100000 in
set_option maxHeartbeats 400000 in
theorem implPText_all (p : Pf) (hp : p.ok = true) (hz : p = Pf.zero) (w : World) : Calls Tryd.prog 17 #[.agg #[.int .i64 p.base.k, .int .i64 p.base.a, .int .i64 p.base.b, .int .i64 p.base.c, .int .i64 p.base.d, .int .i64 p.len]] w (PTextOut p w) := by
  have pk := implPrefixOk p
  rw [hp] at pk
  have PK := Lib.hid pk
  clear pk
  have hq := eq_pf p
  rw [decide_eq_true hz] at hq
  have E := Lib.hid (ptext_all hp hz)
  clear hp hz
  go_enter Tryd.func17, Tryd.ntmps17
  go_wp2_with fail
  refine (PK.out _).mono ?_
  rintro e w1 ⟨rfl, b1⟩
  have b12 := b1
  obtain ⟨c0, c1, c2, c3, c4, c5⟩ := pf_box b12
  go_wp2
  go_ret
  unfold PTextOut
  rw [E.out]
  exact ⟨rfl, bthen (Joins.below_alloc1 w _) b12⟩

set_option maxRecDepth 100000 in
set_option maxHeartbeats 400000 in
theorem implPText_in (p : Pf) (hp : p.ok = true) (hz : ¬ p = Pf.zero) (w : World) (ht : Tabs w) : Calls Tryd.prog 17 #[.agg #[.int .i64 p.base.k, .int .i64 p.base.a, .int .i64 p.base.b, .int .i64 p.base.c, .int .i64 p.base.d, .int .i64 p.len]] w (PTextOut p w) := by
  have pk := implPrefixOk p
  rw [hp] at pk
  have PK := Lib.hid pk
  clear pk
  have hq := eq_pf p
  rw [decide_eq_false hz] at hq
  have E := Lib.hid (ptext_in hp hz)
  obtain ⟨h0, h1⟩ := p.ok_len hp
  have hNl := numText_len p.len h0 h1
  have hPl := p.base.text_len
  obtain ⟨P, hP⟩ : ∃ P, P = p.base.text := ⟨_, rfl⟩
  obtain ⟨N, hN⟩ : ∃ N, N = numText p.len := ⟨_, rfl⟩
  have at_ : ∀ v, Tabs v → Calls Tryd.prog 11 #[.agg #[.int .i64 p.base.k, .int .i64 p.base.a, .int .i64 p.base.b, .int .i64 p.base.c, .int .i64 p.base.d]] v fun e v' => e = .returned (.string (strOf P)) ∧ Below v.heap.size v v' := by
    intro v hv
    have := implAddrText p.base v hv
    unfold TextOut at this
    rwa [← hP] at this
  have nt : ∀ v, Tabs v → Calls Tryd.prog 31 #[.int .i64 p.len] v fun e v' => e = .returned (.string (strOf N)) ∧ Below v.heap.size v v' := by
    intro v hv
    have := implNumText p.len v (by omega) (by omega) hv.ten
    rwa [← hN] at this
  have HT := Lib.hid ht
  clear ht
  rw [← hP, ← hN] at E
  rw [← hP] at hPl
  rw [← hN] at hNl
  have AT := Lib.hid at_
  have NT := Lib.hid nt
  have hz1 : ¬ 9223372036854775807 < (strOf P).size + 1 := by rw [strOf_size]; omega
  have hz2 : ¬ 9223372036854775807 < (strOf P).size + 1 + (strOf N).size := by rw [strOf_size, strOf_size]; omega
  clear hp hz at_ nt hP hN h0 h1
  go_enter Tryd.func17, Tryd.ntmps17
  go_wp2_with fail
  refine (PK.out _).mono ?_
  rintro e w1 ⟨rfl, b1⟩
  have b12 := b1
  have T2 := Lib.hid (HT.out.on (bthen (Joins.below_alloc1 w _) b12))
  obtain ⟨c0, c1, c2, c3, c4, c5⟩ := pf_box b12
  have k0 := cell_regrown c0
  have k1 := cell_regrown c1
  have k2 := cell_regrown c2
  have k3 := cell_regrown c3
  have k4 := cell_regrown c4
  have k5 := cell_regrown c5
  go_wp2_with fail
  refine wp_region_quiet_below (by kernel_rfl) (by kernel_rfl) ?_
  repeat (go_big_quiet_step (first | (go_at_call 11; exact Calls.regrown_of (AT.out _ (T2.out.on (below_regrown w1 _ _)))) | (go_at_call 31; exact Calls.regrown_of (NT.out _ (T2.out.on (below_regrown w1 _ _))))))
  refine wpQuiet_nil ?_
  intro w3 hw3
  obtain ⟨⟨dq, osq⟩, hw3⟩ := hw3
  have b3 := below_regrown w1 dq osq
  rw [← hw3] at b3
  clear hw3 k0 k1 k2 k3 k4 k5 c0 c1 c2 c3 c4 c5
  go_wp2
  go_ret
  unfold PTextOut
  rw [E.out, show P ++ 47 :: N = (P ++ [47]) ++ N by simp, strOf_append, strOf_append]
  exact ⟨rfl, bthen (bthen (Joins.below_alloc1 w _) b12) b3⟩

set_option maxRecDepth 100000 in
theorem implPrefixText (p : Pf) (w : World) (ht : Tabs w) : Calls Tryd.prog 17 #[.agg #[.int .i64 p.base.k, .int .i64 p.base.a, .int .i64 p.base.b, .int .i64 p.base.c, .int .i64 p.base.d, .int .i64 p.len]] w (PTextOut p w) := by
  cases hp : p.ok
  · exact implPText_no p hp w
  · by_cases hz : p = Pf.zero
    · exact implPText_all p hp hz w
    · exact implPText_in p hp hz w ht

end Go.Proofs.YtckakpcjbndijabDoor
