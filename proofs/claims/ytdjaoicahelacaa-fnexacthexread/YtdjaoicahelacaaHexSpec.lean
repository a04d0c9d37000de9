/-
  What the model's HexRead answers.
-/
import Derived.Test.YtdjaoicahelacaaHexRead
namespace Go.Proofs.Ytdjaoicahelacaa
open Go.RowKit

/-- The model's search: the number below k of which a and b are the two digits, or -1. -/
def found (a b : UInt8) (k : Nat) : Int := if hexV a < 16 ∧ hexV b < 16 ∧ 16 * hexV a + hexV b < k then ((16 * hexV a + hexV b : Nat) : Int) else -1
theorem found_zero (a b : UInt8) : found a b 0 = -1 := by rw [found, if_neg (by omega)]
theorem found_hit (a b : UInt8) (k : Nat) (h : k < 256) (h1 : a.toNat = (hexDig (k / 16)).toNat) (h2 : b.toNat = (hexDig (k % 16)).toNat) : found a b (k + 1) = k := by
  have e1 := (hexV_dig (k / 16) (by omega) a).1 h1
  have e2 := (hexV_dig (k % 16) (by omega) b).1 h2
  rw [found, if_pos (by omega)]
  omega
theorem found_miss (a b : UInt8) (k : Nat) (h : k < 256) (hn : ¬ (a.toNat = (hexDig (k / 16)).toNat ∧ b.toNat = (hexDig (k % 16)).toNat)) : found a b (k + 1) = found a b k := by
  have e1 := hexV_dig (k / 16) (by omega) a
  have e2 := hexV_dig (k % 16) (by omega) b
  rw [e1, e2] at hn
  unfold found
  by_cases hc : hexV a < 16 ∧ hexV b < 16 ∧ 16 * hexV a + hexV b < k
  · rw [if_pos hc, if_pos (by omega)]
  · rw [if_neg hc, if_neg (by omega)]
theorem found_end (a b : UInt8) (h1 : hexV a < 16) (h2 : hexV b < 16) : found a b 256 = ((16 * hexV a + hexV b : Nat) : Int) := by rw [found, if_pos (by omega)]
theorem found_no (a b : UInt8) (h : ¬ (hexV a < 16 ∧ hexV b < 16)) (k : Nat) : found a b k = -1 := by rw [found, if_neg (by omega)]

theorem hexBytes_next (l : List UInt8) (j : Nat) (h : 2 * j + 1 < l.length) : (hexBytes l).take (j + 1) = (hexBytes l).take j ++ [UInt8.ofNat (16 * hexAt l (2 * j) + hexAt l (2 * j + 1))] := by
  rw [take_snoc _ j (by rw [hexBytes_length]; omega)]
  simp [hexBytes]

theorem index_str (s : ByteArray) (p : Nat) (h : p < s.size) (w : World) : (Instr.index 9 (.string s) (.int .i64 (p : Int))).run Try.prog w = .ok (.int .u8 ((s[p]'h).toNat : Int)) w := by
  rw [run_index_string _ _ _ _ _ Try.underlying9, dif_pos (by omega)]
  simp

theorem quiet_own {P : Program} {f : FuncId} {args : Array Value} {w : World} {n : Nat} {v : Value} (h : Calls P f args (w.drewN n) fun e w' => e = .returned v ∧ w.drewN n = w') :
    Calls P f args (w.drewN n) fun e w'' => e = .returned v ∧ ∃ m, w'' = w.drewN m := h.mono fun _ _ ⟨he, hm⟩ => ⟨he, n, hm.symm⟩

set_option maxHeartbeats 400000 in
theorem specHexRead_odd (s : ByteArray) (w : World) (hs : s.size ≤ 1048576) (h : ¬ s.size % 2 = 0) : Calls Try.prog 36 #[.string s] w (HexPost s.data.toList w) := by
  have hok := Lib.hid (okHex_len s.data.toList (show ¬ (s.size % 2 = 0 ∧ s.size ≤ 8000) by omega))
  have h1 : ((s.size : Int) % 2 == 0) = false := by simp; omega
  have h2 : ((s.size : Int) % 2 != 0) = true := by simp; omega
  clear h
  go_enter Try.func36, Try.ntmps36
  go_wp2
  go_ret2
  exact hexPost_no hok.out (Below.refl _ _)

set_option maxHeartbeats 400000 in
theorem specHexRead_long (s : ByteArray) (w : World) (hs : s.size ≤ 1048576) (h0 : s.size % 2 = 0) (h : 8000 < s.size) : Calls Try.prog 36 #[.string s] w (HexPost s.data.toList w) := by
  have hok := Lib.hid (okHex_len s.data.toList (show ¬ (s.size % 2 = 0 ∧ s.size ≤ 8000) by omega))
  have h2 : ((s.size : Int) % 2 != 0) = false := by simp; omega
  clear h0
  go_enter Try.func36, Try.ntmps36
  go_wp2
  go_ret2
  exact hexPost_no hok.out (Below.refl _ _)

set_option maxRecDepth 100000 in
set_option maxHeartbeats 2000000 in
theorem specHexRead_go (s : ByteArray) (w : World) (h0 : s.size % 2 = 0) (h : s.size ≤ 8000) : Calls Try.prog 36 #[.string s] w (HexPost s.data.toList w) := by
  have h2 : ((s.size : Int) % 2 != 0) = false := by simp; omega
  have h8 : ¬ (8000 : Int) < (s.size : Int) := by omega
  have H0 := Lib.hid h0
  clear h0
  go_enter Try.func36, Try.ntmps36
  go_wp2
  go_loopw [4, 5] (fun v q wr => ∃ p j : Nat, Hid (p = 2 * j) ∧ p ≤ s.size ∧ q = .int .i64 (p : Int) ∧ (∀ t, t < p → hexAt s.data.toList t < 16) ∧
      wr.ownsRow w.heap.size 5 1 v ((hexBytes s.data.toList).take j).length (cellsOf ((hexBytes s.data.toList).take j)) ∧ Below w.heap.size w wr) (fun _ q _ => s.size - (intOf q).toNat)
  case atStart => exact ⟨0, 0, Lib.hid rfl, Nat.zero_le _, rfl, fun t ht => absurd ht (Nat.not_lt_zero _), World.ownsRow_lit w #[] 0 (Nat.le_refl _) (Nat.zero_le _) rfl, (Below.refl _ _).alloc (Nat.le_refl _) _⟩
  case round =>
    obtain ⟨p, j, hpj, hp, rfl, hall, ho, hb⟩ := hrel
    obtain ⟨D, dc, rfl⟩ := own_form ho
    by_cases hlt : p + 1 < s.size
    · have hltI : (p : Int) + 1 < (s.size : Int) := by omega
      have ho' := Lib.hid ho
      have hall' := Lib.hid hall
      have hb' := Lib.hid hb
      clear ho hall hb
      obtain ⟨a, ha⟩ : ∃ a : UInt8, a = s[p]'(by omega) := ⟨_, rfl⟩
      obtain ⟨b, hbb⟩ : ∃ b : UInt8, b = s[p + 1]'hlt := ⟨_, rfl⟩
      have hxa : ∀ w, (Instr.index 9 (.string s) (.int .i64 (p : Int))).run Try.prog w = .ok (.int .u8 (a.toNat : Int)) w := fun w => by rw [ha]; exact index_str s p (by omega) w
      have hxb : ∀ w, (Instr.index 9 (.string s) (.int .i64 ((p : Int) + 1))).run Try.prog w = .ok (.int .u8 (b.toNat : Int)) w := fun w => by rw [hbb]; exact index_str s (p + 1) hlt w
      have Ha := Lib.hid ha
      have Hb := Lib.hid hbb
      clear ha hbb
      go_wp2
      go_loopw [6, 7] (fun nq kq wr => ∃ k : Nat, k ≤ 256 ∧ kq = .int .i64 (k : Int) ∧ nq = .int .i64 (found a b k) ∧
          Hid (wr.ownsRow w.heap.size 5 1 (.slice D ((hexBytes s.data.toList).take j).length dc) ((hexBytes s.data.toList).take j).length (cellsOf ((hexBytes s.data.toList).take j))) ∧ Hid (Below w.heap.size w wr)) (fun _ kq _ => 256 - (intOf kq).toNat)
      case atStart => exact ⟨0, Nat.zero_le _, rfl, by rw [found_zero], ho', hb'⟩
      case round =>
        obtain ⟨k, hk, rfl, rfl, hoi, hbi⟩ := hrel
        clear ho' hb'
        by_cases hk256 : k < 256
        · obtain ⟨p1, p2, p3, p4⟩ := byte_parts k hk256
          obtain ⟨q, hq⟩ : ∃ q : Nat, q = k / 16 := ⟨_, rfl⟩
          obtain ⟨r, hr⟩ : ∃ r : Nat, r = k % 16 := ⟨_, rfl⟩
          have hq16 : q < 16 := by omega
          have hr16 : r < 16 := by omega
          rw [← hq] at p2
          rw [← hr] at p3 p4
          have p5 : IntKind.i64.wrap (r : Int) = r := by rw [← p4]; exact p3.trans p4.symm
          have p6 : IntKind.i64.wrap (q : Int) = q := by rw [IntKind.wrap_i64]; omega
          have p7 : IntKind.i64.wrap ((p : Int) + 1) = (p : Int) + 1 := by rw [IntKind.wrap_i64]; omega
          have hit := Lib.hid (found_hit a b k hk256)
          have hmiss := Lib.hid (found_miss a b k hk256)
          rw [← hq, ← hr] at hit hmiss
          clear hq hr
          by_cases e1 : a.toNat = (hexDig q).toNat
          · have e1' : ((a.toNat : Int) == ((hexDig q).toNat : Int)) = true := by simp; omega
            by_cases e2 : b.toNat = (hexDig r).toNat
            · have e2' : ((b.toNat : Int) == ((hexDig r).toNat : Int)) = true := by simp; omega
              have E := Lib.hid (hit.out e1 e2)
              clear e1 e2 hit hmiss
              go_wp2
              go_quiet (first | (go_at_call 50; with_reducible exact quiet_own (specDigitN q _ hq16)) | (go_at_call 50; with_reducible exact quiet_own (specDigitN r _ hr16)))
              go_wp2
              go_roundw
              case rel => exact ⟨k + 1, by omega, by go_num, by rw [E.out], hoi, Lib.hid (below_drewN hbi.out _)⟩
              case measure => simp [intOf]; omega
            · have e2' : ((b.toNat : Int) == ((hexDig r).toNat : Int)) = false := by simp; omega
              have E := Lib.hid (hmiss.out (fun h => e2 h.2))
              clear e1 e2 hit hmiss
              go_wp2
              go_quiet (first | (go_at_call 50; with_reducible exact quiet_own (specDigitN q _ hq16)) | (go_at_call 50; with_reducible exact quiet_own (specDigitN r _ hr16)))
              go_wp2
              go_roundw
              case rel => exact ⟨k + 1, by omega, by go_num, by rw [E.out], hoi, Lib.hid (below_drewN hbi.out _)⟩
              case measure => simp [intOf]; omega
          · have e1' : ((a.toNat : Int) == ((hexDig q).toNat : Int)) = false := by simp; omega
            have E := Lib.hid (hmiss.out (fun h => e1 h.1))
            clear e1 hit hmiss
            go_wp2
            go_quiet (first | (go_at_call 50; with_reducible exact quiet_own (specDigitN q _ hq16)) | (go_at_call 50; with_reducible exact quiet_own (specDigitN r _ hr16)))
            go_wp2
            go_roundw
            case rel => exact ⟨k + 1, by omega, by go_num, by rw [E.out], hoi, Lib.hid (below_drewN hbi.out _)⟩
            case measure => simp [intOf]; omega
        · obtain rfl : k = 256 := by omega
          by_cases hv : hexV a < 16 ∧ hexV b < 16
          · rw [found_end a b hv.1 hv.2]
            obtain ⟨t, ht⟩ : ∃ t : Nat, t = 16 * hexV a + hexV b := ⟨_, rfl⟩
            have ht256 : t < 256 := by omega
            rw [← ht]
            have hbz := hbi.out.size
            have o1 := own_byte wr w.heap.size hbi.out.size (t : Int) (UInt8.ofNat t) (cell_byte t ht256)
            have r1 := Lib.hid (RB.of_own o1)
            have hA := Lib.hid (show (hexBytes s.data.toList).take (j + 1) = (hexBytes s.data.toList).take j ++ [UInt8.ofNat t] by
              rw [hexBytes_next s.data.toList j (show 2 * j + 1 < s.size by have := hpj.out; omega), ht]
              have e1 : hexAt s.data.toList (2 * j) = hexV a := by rw [← hpj.out, hexAtS s p (by omega), Ha.out]
              have e2 : hexAt s.data.toList (2 * j + 1) = hexV b := by rw [← hpj.out, hexAtS s (p + 1) hlt, Hb.out]
              rw [e1, e2])
            have hall2 := Lib.hid (show ∀ u, u < p + 2 → hexAt s.data.toList u < 16 from fun u hu => by
              rcases (show u < p ∨ u = p ∨ u = p + 1 by omega) with h | h | h
              · exact hall'.out u h
              · rw [h, hexAtS s p (by omega), ← Ha.out]; exact hv.1
              · rw [h, hexAtS s (p + 1) hlt, ← Hb.out]; exact hv.2)
            have hlen := Lib.hid (show ((hexBytes s.data.toList).take j).length + 1 ≤ 67108864 by
              have h1 := List.length_take_le j (hexBytes s.data.toList)
              have h2 := hpj.out
              omega)
            have hb3 := Lib.hid (hbi.out.alloc hbi.out.size (.cells #[.int .u8 (t : Int)] 5))
            have hbl := Lib.hid (fun u (hu : (Value.slice D ((hexBytes s.data.toList).take j).length dc).ownBlock = some u) => (hoi.out.lt u hu).1)
            have ho2 := Lib.hid (hoi.out.alloc (.cells #[.int .u8 (t : Int)] 5))
            have hpj2 := Lib.hid (show p + 2 = 2 * (j + 1) by have := hpj.out; omega)
            clear ht hv o1 hall' hoi
            go_wp2_with (at_builtin; refine wpList_append_b rfl (.tmp 49) (.tmp 52) rfl w.heap.size (.slice D ((hexBytes s.data.toList).take j).length dc) ((hexBytes s.data.toList).take j) rfl ho2.out _ (some ⟨wr.heap.size, 0, none⟩) 1 1 [UInt8.ofNat t] rfl rfl r1.out hlen.out (by simp; omega) ?_; intro v3 w3 hown3 hg3 _)
            go_roundw
            case rel => exact ⟨p + 2, j + 1, hpj2, by omega, by go_num, hall2.out, by rw [hA.out]; exact hown3, hb3.out.grown hg3 (by simp; omega) hbl.out⟩
            case measure => simp [intOf]; omega
          · rw [found_no a b hv 256]
            have hok := Lib.hid (show okHex s.data.toList = false by
              by_cases h1 : hexV a < 16
              · exact okHex_badS s (p + 1) hlt (by rw [← Hb.out]; intro h; exact hv ⟨h1, h⟩)
              · exact okHex_badS s p (by omega) (by rw [← Ha.out]; exact h1))
            clear hv hall'
            go_wp2
            go_ret2
            exact hexPost_no hok.out hbi.out
    · have hltI : ¬ (p : Int) + 1 < (s.size : Int) := by omega
      have hps : p = s.size := by have := hpj.out; have := H0.out; omega
      have hj : j = s.size / 2 := by have := hpj.out; omega
      have hall2 : okHex s.data.toList = true := okHex_yes s.data.toList H0.out h (fun i hi => by
        have := hall i (by rw [hps]; exact hi)
        rwa [hexAt_get _ i hi] at this)
      have hok := Lib.hid hall2
      have e : (hexBytes s.data.toList).take j = hexBytes s.data.toList := List.take_of_length_le (by rw [hexBytes_length, hj]; exact Nat.le_refl _)
      rw [e] at ho
      rw [e]
      have ho' := Lib.hid ho
      have hl := Lib.hid (hexBytes_length s.data.toList)
      clear hall hall2 ho e hj hps
      go_wp2
      go_ret2
      exact hexPost_yes hok.out hl.out ho'.out hb

theorem specHexRead (s : ByteArray) (w : World) (hs : s.size ≤ 1048576) : Calls Try.prog 36 #[.string s] w (HexPost s.data.toList w) := by
  by_cases h0 : s.size % 2 = 0
  · by_cases h : s.size ≤ 8000
    · exact specHexRead_go s w h0 h
    · exact specHexRead_long s w hs h0 (by omega)
  · exact specHexRead_odd s w hs h0
end Go.Proofs.Ytdjaoicahelacaa
