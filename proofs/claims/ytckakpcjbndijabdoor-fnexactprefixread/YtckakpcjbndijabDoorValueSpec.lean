/-
  The value of a part of at most four digits, in the model.
-/
import Derived.Test.YtckakpcjbndijabDoorReadLib2
import Derived.Test.YtckakpcjbndijabDoorHexRead
import Derived.BigQuiet
namespace Go.Proofs.YtckakpcjbndijabDoor
open Go.RowKit

/-- The model's search: the digit below k that a is, or -1. -/
def seen (a : UInt8) (k : Nat) : Int := if hexV a < k ∧ hexV a < 16 then (hexV a : Int) else -1
set_option maxRecDepth 100000 in
theorem seen_zero (a : UInt8) : seen a 0 = -1 := by rw [seen, if_neg (by omega)]
set_option maxRecDepth 100000 in
theorem seen_hit (a : UInt8) (k : Nat) (h : k < 16) (e : a.toNat = (hexDig k).toNat) : seen a (k + 1) = k := by
  have e1 := (hexV_dig k h a).1 e
  rw [seen, if_pos (by omega), e1]
set_option maxRecDepth 100000 in
theorem seen_miss (a : UInt8) (k : Nat) (h : k < 16) (e : ¬ a.toNat = (hexDig k).toNat) : seen a (k + 1) = seen a k := by
  have e1 : ¬ hexV a = k := fun h1 => e ((hexV_dig k h a).2 h1)
  unfold seen
  by_cases hc : hexV a < k ∧ hexV a < 16
  · rw [if_pos hc, if_pos (by omega)]
  · rw [if_neg hc, if_neg (by omega)]

/-- The value of digits to a base. -/
def valB (B : Nat) (l : List UInt8) : Nat := l.foldl (fun n b => B * n + hexV b) 0
set_option maxRecDepth 100000 in
theorem valB_snoc (B : Nat) (l : List UInt8) (b : UInt8) : valB B (l ++ [b]) = B * valB B l + hexV b := by simp [valB]
set_option maxRecDepth 100000 in
theorem valB_takeS (B : Nat) (s : ByteArray) (k : Nat) (h : k < s.size) : valB B (s.data.toList.take (k + 1)) = B * valB B (s.data.toList.take k) + hexV (s[k]'h) := by
  rw [take_snoc s.data.toList k h, valB_snoc]
  rfl
set_option maxRecDepth 100000 in
theorem valB_lt (B : Nat) (hB : B ≤ 16) (l : List UInt8) (h : ∀ b ∈ l, hexV b < B) : valB B l < 16 ^ l.length := by
  obtain ⟨n, hn⟩ : ∃ n, l.length = n := ⟨_, rfl⟩
  induction n generalizing l with
  | zero =>
    obtain rfl : l = [] := List.eq_nil_of_length_eq_zero hn
    simp [valB]
  | succ n ih =>
    obtain ⟨i, b, rfl⟩ : ∃ i b, l = i ++ [b] := by
      rcases List.eq_nil_or_concat l with h | ⟨i, b, h⟩
      · rw [h] at hn; cases hn
      · exact ⟨i, b, by rw [h, List.concat_eq_append]⟩
    have h1 := ih i (fun c hc => h c (by simp [hc])) (by simp at hn; omega)
    have h2 := h b (by simp)
    rw [valB_snoc, List.length_append, List.length_singleton, Nat.pow_succ]
    have h3 : B * valB B i ≤ 16 * valB B i := Nat.mul_le_mul_right _ hB
    omega
def vB (B : Nat) (l : List UInt8) : Int := if 1 ≤ l.length ∧ l.length ≤ 4 ∧ l.all (fun b => decide (hexV b < B)) = true then (valB B l : Int) else -1
set_option maxRecDepth 100000 in
theorem vB_len (B : Nat) (l : List UInt8) (h : ¬ (1 ≤ l.length ∧ l.length ≤ 4)) : vB B l = -1 := by rw [vB, if_neg (fun c => h ⟨c.1, c.2.1⟩)]
set_option maxRecDepth 100000 in
theorem vB_bad (B : Nat) (s : ByteArray) (k : Nat) (h : k < s.size) (hd : ¬ hexV (s[k]'h) < B) : vB B s.data.toList = -1 := by
  have : (s.data.toList.all fun b => decide (hexV b < B)) = false := by
    rw [List.all_eq_false]
    exact ⟨s[k], List.getElem_mem (l := s.data.toList) h, by simpa using hd⟩
  rw [vB, this, if_neg (by simp)]
set_option maxRecDepth 100000 in
theorem vB_yes (B : Nat) (l : List UInt8) (h1 : 1 ≤ l.length) (h2 : l.length ≤ 4) (hd : ∀ b ∈ l, hexV b < B) : vB B l = valB B l := by
  rw [vB, if_pos ⟨h1, h2, List.all_eq_true.2 (fun b hb => by simpa using hd b hb)⟩]
set_option maxRecDepth 100000 in
theorem take_allB (B : Nat) (s : ByteArray) (k : Nat) (h : k < s.size) (ha : ∀ b ∈ s.data.toList.take k, hexV b < B) (hd : hexV (s[k]'h) < B) : ∀ b ∈ s.data.toList.take (k + 1), hexV b < B := by
  intro b hb
  rw [take_snoc s.data.toList k h] at hb
  rcases List.mem_append.1 hb with h1 | h1
  · exact ha b h1
  · rw [List.mem_singleton.1 h1]
    exact hd
set_option maxRecDepth 100000 in
theorem index_strB (s : ByteArray) (p : Nat) (h : p < s.size) (w : World) : (Instr.index 9 (.string s) (.int .i64 (p : Int))).run Tryd.prog w = .ok (.int .u8 ((s[p]'h).toNat : Int)) w := by
  rw [run_index_string _ _ _ _ _ Tryd.underlying9, dif_pos (by omega)]
  simp
set_option maxRecDepth 100000 in
theorem quiet_ownB {P : Program} {f : FuncId} {args : Array Value} {w : World} {n : Nat} {v : Value} (h : Calls P f args (w.drewN n) fun e w' => e = .returned v ∧ w.drewN n = w') :
    Calls P f args (w.drewN n) fun e w'' => e = .returned v ∧ ∃ m, w'' = w.drewN m := h.mono fun _ _ ⟨he, hm⟩ => ⟨he, n, hm.symm⟩
def ValOut (B : Nat) (l : List UInt8) (w : World) (e : Ending) (w' : World) : Prop := e = .returned (.int .i64 (vB B l)) ∧ Below w.heap.size w w'
set_option maxRecDepth 100000 in
theorem valOut_of {B : Nat} {l : List UInt8} {n : Int} {w w' : World} (h : vB B l = n) (hb : Below w.heap.size w w') : ValOut B l w (.returned (.int .i64 n)) w' := by
  subst h
  exact ⟨rfl, hb⟩

set_option maxRecDepth 100000 in
set_option maxHeartbeats 400000 in
theorem specValue_len (B : Nat) (s : ByteArray) (w : World) (hs : s.size ≤ 1048576) (h : ¬ (1 ≤ s.size ∧ s.size ≤ 4)) : Calls Tryd.prog 36 #[.string s, .int .i64 (B : Int)] w (ValOut B s.data.toList w) := by
  have hok := Lib.hid (vB_len B s.data.toList h)
  by_cases h1 : (s.size : Int) < 1
  · clear h
    go_enter Tryd.func36, Tryd.ntmps36
    go_wp2
    go_ret
    exact valOut_of hok.out (Below.refl _ _)
  · have h2 : (4 : Int) < (s.size : Int) := by omega
    clear h
    go_enter Tryd.func36, Tryd.ntmps36
    go_wp2
    go_ret
    exact valOut_of hok.out (Below.refl _ _)

set_option maxRecDepth 100000 in
set_option maxHeartbeats 2000000 in
theorem specValue_go (B : Nat) (s : ByteArray) (w : World) (hB : B ≤ 16) (hB1 : 1 ≤ B) (h1 : 1 ≤ s.size) (h4 : s.size ≤ 4) : Calls Tryd.prog 36 #[.string s, .int .i64 (B : Int)] w (ValOut B s.data.toList w) := by
  have g1 : ¬ (s.size : Int) < 1 := by omega
  have g2 : ¬ (4 : Int) < (s.size : Int) := by omega
  go_enter Tryd.func36, Tryd.ntmps36
  go_wp2
  go_loopw [5, 6] (fun v q wr => ∃ i V : Nat, i ≤ s.size ∧ q = .int .i64 (i : Int) ∧ v = .int .i64 (V : Int) ∧ Hid (V = valB B (s.data.toList.take i)) ∧ Hid (∀ b ∈ s.data.toList.take i, hexV b < B) ∧ Hid (Below w.heap.size w wr)) (fun _ q _ => s.size - (intOf q).toNat)
  case atStart => exact ⟨0, 0, Nat.zero_le _, rfl, rfl, Lib.hid rfl, Lib.hid (by simp), Lib.hid (Below.refl _ _)⟩
  case round =>
    obtain ⟨i, V, hi, rfl, rfl, hV, hall, hb⟩ := hrel
    by_cases hlt : i < s.size
    · have hltI : (i : Int) < (s.size : Int) := by omega
      have hV4 : V < 4096 := by
        have h := valB_lt B hB _ hall.out
        have hl : (s.data.toList.take i).length ≤ 3 := Nat.le_trans (List.length_take_le _ _) (by omega)
        have := Nat.pow_le_pow_right (show 0 < 16 by omega) hl
        rw [hV.out]
        omega
      obtain ⟨a, ha⟩ : ∃ a : UInt8, a = s[i]'hlt := ⟨_, rfl⟩
      have hxa : ∀ w, (Instr.index 9 (.string s) (.int .i64 (i : Int))).run Tryd.prog w = .ok (.int .u8 (a.toNat : Int)) w := fun w => by rw [ha]; exact index_strB s i hlt w
      have Ha := Lib.hid ha
      clear ha
      go_wp2
      go_loopw [7, 8] (fun nq kq wr => ∃ k : Nat, k ≤ B ∧ kq = .int .i64 (k : Int) ∧ nq = .int .i64 (seen a k) ∧ Hid (Below w.heap.size w wr)) (fun _ kq _ => B - (intOf kq).toNat)
      case atStart => exact ⟨0, Nat.zero_le _, rfl, by rw [seen_zero], hb⟩
      case round =>
        obtain ⟨k, hk, rfl, rfl, hbi⟩ := hrel
        clear hb
        by_cases hkB : k < B
        · have hkI : (k : Int) < (B : Int) := by omega
          have hk16 : k < 16 := by omega
          by_cases e1 : a.toNat = (hexDig k).toNat
          · have e1' : ((a.toNat : Int) == ((hexDig k).toNat : Int)) = true := by simp; omega
            have E := Lib.hid (seen_hit a k hk16 e1)
            clear e1
            go_wp2
            go_quiet ((go_at_call 58; with_reducible exact quiet_ownB (specDigitN k _ hk16)))
            go_wp2
            go_roundw
            case rel => exact ⟨k + 1, by omega, by go_num, by rw [E.out], Lib.hid (below_drewN hbi.out _)⟩
            case measure => simp [intOf]; omega
          · have e1' : ((a.toNat : Int) == ((hexDig k).toNat : Int)) = false := by simp; omega
            have E := Lib.hid (seen_miss a k hk16 e1)
            clear e1
            go_wp2
            go_quiet ((go_at_call 58; with_reducible exact quiet_ownB (specDigitN k _ hk16)))
            go_wp2
            go_roundw
            case rel => exact ⟨k + 1, by omega, by go_num, by rw [E.out], Lib.hid (below_drewN hbi.out _)⟩
            case measure => simp [intOf]; omega
        · obtain rfl : k = B := by omega
          have hkI : ¬ (k : Int) < (k : Int) := by omega
          by_cases hv : hexV a < k
          · obtain ⟨D, hD⟩ : ∃ D, D = hexV a := ⟨_, rfl⟩
            have es : seen a k = (D : Int) := by rw [seen, if_pos (by omega), hD]
            rw [es]
            have hD16 : D < 16 := by omega
            have hm := Nat.mul_le_mul hB (show V ≤ 4096 by omega)
            have eM : (k : Int) * (V : Int) = ((k * V : Nat) : Int) := by simp
            obtain ⟨M, hM⟩ : ∃ M, M = k * V := ⟨_, rfl⟩
            rw [← hM] at hm eM
            have R1 := Lib.hid (show M + D = valB k (s.data.toList.take (i + 1)) by rw [valB_takeS k s i hlt, ← hV.out, hM, hD, Ha.out])
            have R2 := Lib.hid (take_allB k s i hlt hall.out (by rw [← Ha.out]; exact hv))
            clear es hM hD hv
            go_wp2
            go_roundw
            case rel => exact ⟨i + 1, M + D, by omega, by go_num, by go_num, R1, R2, hbi⟩
            case measure => simp [intOf]; omega
          · have es : seen a k = -1 := by rw [seen, if_neg (by omega)]
            rw [es]
            have hok := Lib.hid (vB_bad k s i hlt (by rw [← Ha.out]; exact hv))
            clear es hv
            go_wp2
            go_ret
            exact valOut_of hok.out hbi.out
    · obtain rfl : i = s.size := by omega
      have hltI : ¬ (s.size : Int) < (s.size : Int) := by omega
      have et : s.data.toList.take s.size = s.data.toList := List.take_of_length_le (by simp)
      have hok := Lib.hid (show vB B s.data.toList = (V : Int) by
        rw [hV.out, et]
        exact vB_yes B _ h1 h4 (by have := hall.out; rwa [et] at this))
      clear et
      go_wp2
      go_ret
      exact valOut_of hok.out hb.out

set_option maxRecDepth 100000 in
theorem specValue (B : Nat) (s : ByteArray) (w : World) (hs : s.size ≤ 1048576) (hB : B ≤ 16) (hB1 : 1 ≤ B) : Calls Tryd.prog 36 #[.string s, .int .i64 (B : Int)] w (ValOut B s.data.toList w) := by
  by_cases h : 1 ≤ s.size ∧ s.size ≤ 4
  · exact specValue_go B s w hB hB1 h.1 h.2
  · exact specValue_len B s w hs h
end Go.Proofs.YtckakpcjbndijabDoor
