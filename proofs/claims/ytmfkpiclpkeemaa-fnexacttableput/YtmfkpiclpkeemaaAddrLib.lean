/-
  Addresses as five integers and as sixteen bytes, the bits after the first n cleared. Plain: nothing here speaks of the program.
-/
import Derived.Test.YtmfkpiclpkeemaaPut
import Derived.Test.YtmfkpiclpkeemaaBe
namespace Go.Proofs.Ytmfkpiclpkeemaa
set_option maxRecDepth 100000
open Go.RowKit

/-- An address: Kind, A, B, C, D. -/
structure Ad where
  k : Int
  a : Int
  b : Int
  c : Int
  d : Int
deriving DecidableEq

def Ad.val (x : Ad) : Value := .agg #[.int .i64 x.k, .int .i64 x.a, .int .i64 x.b, .int .i64 x.c, .int .i64 x.d]
def Ad.zero : Ad := ⟨0, 0, 0, 0, 0⟩
def half (n : Int) : Bool := decide (0 ≤ n ∧ n ≤ 4294967295)
def Ad.ok (x : Ad) : Bool := (x.k == 4 && x.a == 0 && x.b == 0 && x.c == 0 && half x.d) || (x.k == 6 && half x.a && half x.b && half x.c && half x.d)
def Ad.bits (x : Ad) : Int := if x.k = 4 then 32 else 128

theorem half_iff (n : Int) : half n = true ↔ 0 ≤ n ∧ n ≤ 4294967295 := by simp [half]
theorem Ad.ok_iff (x : Ad) : x.ok = true ↔ (x.k = 4 ∧ x.a = 0 ∧ x.b = 0 ∧ x.c = 0 ∧ 0 ≤ x.d ∧ x.d ≤ 4294967295) ∨
    (x.k = 6 ∧ (0 ≤ x.a ∧ x.a ≤ 4294967295) ∧ (0 ≤ x.b ∧ x.b ≤ 4294967295) ∧ (0 ≤ x.c ∧ x.c ≤ 4294967295) ∧ 0 ≤ x.d ∧ x.d ≤ 4294967295) := by
  simp [Ad.ok, half, and_assoc]
theorem Ad.ok_kind {x : Ad} (h : x.ok = true) : x.k = 4 ∨ x.k = 6 := by
  rw [Ad.ok_iff] at h
  omega

/-- The sixteen bytes of A, B, C, D. -/
def Ad.whole (x : Ad) : List UInt8 := put32 x.a ++ put32 x.b ++ put32 x.c ++ put32 x.d
theorem Ad.whole_length (x : Ad) : x.whole.length = 16 := by simp [Ad.whole, put32]
/-- The bytes of an address: four or sixteen. -/
def Ad.bytes (x : Ad) : List UInt8 := if x.ok then (if x.k = 4 then put32 x.d else x.whole) else []
/-- The address of sixteen bytes. -/
def unw (k : Int) (bs : List UInt8) : Ad := ⟨k, be (bs.take 4), be ((bs.drop 4).take 4), be ((bs.drop 8).take 4), be ((bs.drop 12).take 4)⟩

theorem be_put32 (n : Int) (h : 0 ≤ n ∧ n ≤ 4294967295) : (be (put32 n) : Int) = n := by
  have e : be (put32 n) = 256 * (256 * (256 * (byteOf (n / 16777216)).toNat + (byteOf (n / 65536)).toNat) + (byteOf (n / 256)).toNat) + (byteOf n).toNat := by simp [be, put32]
  have h1 := byteOf_val (n / 16777216)
  have h2 := byteOf_val (n / 65536)
  have h3 := byteOf_val (n / 256)
  have h4 := byteOf_val n
  rw [e]
  omega
theorem byteOf_eq (n : Int) (b : UInt8) (h : n % 256 = b.toNat) : byteOf n = b := by
  apply UInt8.toNat_inj.1
  have := byteOf_val n
  omega
theorem put32_be (p q r s : UInt8) : put32 (be [p, q, r, s]) = [p, q, r, s] := by
  have e : (be [p, q, r, s] : Int) = 256 * (256 * (256 * (p.toNat : Int) + q.toNat) + r.toNat) + s.toNat := by simp [be]
  have hp := UInt8.toNat_lt p
  have hq := UInt8.toNat_lt q
  have hr := UInt8.toNat_lt r
  have hs := UInt8.toNat_lt s
  unfold put32
  rw [byteOf_eq _ p (by omega), byteOf_eq _ q (by omega), byteOf_eq _ r (by omega), byteOf_eq _ s (by omega)]

theorem len4 {l : List UInt8} (h : l.length = 4) : ∃ p q r s, l = [p, q, r, s] := by
  match l, h with
  | [p, q, r, s], _ => exact ⟨p, q, r, s, rfl⟩
theorem put32_be4 (l : List UInt8) (h : l.length = 4) : put32 (be l) = l := by
  obtain ⟨p, q, r, s, rfl⟩ := len4 h
  exact put32_be p q r s
theorem put32_length (n : Int) : (put32 n).length = 4 := rfl

theorem unw_whole (x : Ad) (k : Int) (ha : 0 ≤ x.a ∧ x.a ≤ 4294967295) (hb : 0 ≤ x.b ∧ x.b ≤ 4294967295) (hc : 0 ≤ x.c ∧ x.c ≤ 4294967295) (hd : 0 ≤ x.d ∧ x.d ≤ 4294967295) :
    unw k x.whole = ⟨k, x.a, x.b, x.c, x.d⟩ := by
  have e1 : x.whole.take 4 = put32 x.a := by simp [Ad.whole, put32]
  have e2 : (x.whole.drop 4).take 4 = put32 x.b := by simp [Ad.whole, put32]
  have e3 : (x.whole.drop 8).take 4 = put32 x.c := by simp [Ad.whole, put32]
  have e4 : (x.whole.drop 12).take 4 = put32 x.d := by simp [Ad.whole, put32]
  rw [unw, e1, e2, e3, e4, be_put32 _ ha, be_put32 _ hb, be_put32 _ hc, be_put32 _ hd]
theorem Ad.halves {x : Ad} (h : x.ok = true) : (0 ≤ x.a ∧ x.a ≤ 4294967295) ∧ (0 ≤ x.b ∧ x.b ≤ 4294967295) ∧ (0 ≤ x.c ∧ x.c ≤ 4294967295) ∧ 0 ≤ x.d ∧ x.d ≤ 4294967295 := by
  rw [Ad.ok_iff] at h
  omega
theorem unw_of_ok (x : Ad) (h : x.ok = true) : unw x.k x.whole = x := by
  obtain ⟨h1, h2, h3, h4⟩ := x.halves h
  rw [unw_whole x x.k h1 h2 h3 h4]
theorem whole_unw (k : Int) (bs : List UInt8) (h : bs.length = 16) : (unw k bs).whole = bs := by
  have h1 := put32_be4 (bs.take 4) (by simp; omega)
  have h2 := put32_be4 ((bs.drop 4).take 4) (by simp; omega)
  have h3 := put32_be4 ((bs.drop 8).take 4) (by simp; omega)
  have h4 := put32_be4 ((bs.drop 12).take 4) (by simp; omega)
  simp only [unw, Ad.whole]
  rw [h1, h2, h3, h4]
  have e1 : bs = bs.take 4 ++ bs.drop 4 := (List.take_append_drop 4 bs).symm
  have e2 : bs.drop 4 = (bs.drop 4).take 4 ++ bs.drop 8 := by
    have := (List.take_append_drop 4 (bs.drop 4)).symm
    simpa [List.drop_drop] using this
  have e3 : bs.drop 8 = (bs.drop 8).take 4 ++ bs.drop 12 := by
    have := (List.take_append_drop 4 (bs.drop 8)).symm
    simpa [List.drop_drop] using this
  have e4 : (bs.drop 12).take 4 = bs.drop 12 := List.take_of_length_le (by simp; omega)
  conv => rhs; rw [e1, e2, e3]
  rw [e4, List.append_assoc, List.append_assoc]
theorem whole_inj (x y : Ad) (hx : x.ok = true) (hy : y.ok = true) (hk : x.k = y.k) (h : x.whole = y.whole) : x = y := by
  rw [← unw_of_ok x hx, ← unw_of_ok y hy, h, hk]

/-- A byte with its first k bits kept. -/
def cutByte (b : UInt8) (k : Nat) : UInt8 := UInt8.ofNat (b.toNat - b.toNat % 2 ^ (8 - k))
theorem cutByte_val (b : UInt8) (k : Nat) : (cutByte b k).toNat = b.toNat - b.toNat % 2 ^ (8 - k) := by
  have := UInt8.toNat_lt b
  unfold cutByte
  rw [UInt8.toNat_ofNat_of_lt' (show b.toNat - b.toNat % 2 ^ (8 - k) < UInt8.size by simp [UInt8.size]; omega)]
theorem cutByte_zero (k : Nat) : cutByte 0 k = 0 := by
  apply UInt8.toNat_inj.1
  rw [cutByte_val]
  simp
theorem nine {k : Nat} (h : k ≤ 8) : k = 0 ∨ k = 1 ∨ k = 2 ∨ k = 3 ∨ k = 4 ∨ k = 5 ∨ k = 6 ∨ k = 7 ∨ k = 8 := by omega
theorem cutByte_cut (b : UInt8) (k j : Nat) (hk : k ≤ 8) (hj : j ≤ k) : cutByte (cutByte b k) j = cutByte b j := by
  apply UInt8.toNat_inj.1
  rw [cutByte_val, cutByte_val, cutByte_val]
  have hb := UInt8.toNat_lt b
  have hj' : j ≤ 8 := by omega
  rcases nine hk with rfl | rfl | rfl | rfl | rfl | rfl | rfl | rfl | rfl <;> rcases nine hj' with rfl | rfl | rfl | rfl | rfl | rfl | rfl | rfl | rfl <;> first | (exfalso; omega) | (simp; omega) | simp

/-- Bytes with their first n bits kept. -/
def cutB (n : Nat) (bs : List UInt8) : List UInt8 := bs.mapIdx fun i b => cutByte b (min 8 (n - 8 * i))
theorem cutB_length (n : Nat) (bs : List UInt8) : (cutB n bs).length = bs.length := by simp [cutB]
theorem cutB_get (n : Nat) (bs : List UInt8) (i : Nat) (h : i < bs.length) : (cutB n bs)[i]'(by rw [cutB_length]; exact h) = cutByte bs[i] (min 8 (n - 8 * i)) := by simp [cutB]
theorem cutB_cut (n m : Nat) (h : m ≤ n) (bs : List UInt8) : cutB m (cutB n bs) = cutB m bs := by
  apply List.ext_getElem (by simp [cutB_length])
  intro i h1 h2
  rw [cutB_get _ _ _ (by simpa [cutB_length] using h1), cutB_get _ _ _ (by simpa [cutB_length] using h1), cutB_get _ _ _ (by simpa [cutB_length] using h1)]
  exact cutByte_cut _ _ _ (by omega) (by omega)

/-- A byte whose bits lo to hi - 1 are cleared. -/
def midByte (b : UInt8) (lo hi : Nat) : UInt8 := UInt8.ofNat (b.toNat - b.toNat % 2 ^ (8 - lo) + b.toNat % 2 ^ (8 - hi))
theorem midByte_val (b : UInt8) (lo hi : Nat) (h : lo ≤ hi) : (midByte b lo hi).toNat = b.toNat - b.toNat % 2 ^ (8 - lo) + b.toNat % 2 ^ (8 - hi) := by
  have hb := UInt8.toNat_lt b
  have hle : b.toNat % 2 ^ (8 - hi) ≤ b.toNat % 2 ^ (8 - lo) := by
    have hd : 2 ^ (8 - hi) ∣ 2 ^ (8 - lo) := Nat.pow_dvd_pow 2 (by omega)
    rw [← Nat.mod_mod_of_dvd b.toNat hd]
    exact Nat.mod_le _ _
  have hm := Nat.mod_le b.toNat (2 ^ (8 - lo))
  unfold midByte
  rw [UInt8.toNat_ofNat_of_lt' (show _ < UInt8.size by simp [UInt8.size]; omega)]
theorem midByte_same (b : UInt8) (lo : Nat) : midByte b lo lo = b := by
  apply UInt8.toNat_inj.1
  rw [midByte_val _ _ _ (Nat.le_refl _)]
  have hm := Nat.mod_le b.toNat (2 ^ (8 - lo))
  omega
theorem midByte_end (b : UInt8) (lo : Nat) (h : lo ≤ 8) : midByte b lo 8 = cutByte b lo := by
  apply UInt8.toNat_inj.1
  rw [midByte_val _ _ _ h, cutByte_val]
  simp [Nat.mod_one]
/-- The bit at place s of a byte, counted from its first one. -/
def bitAt (s : Nat) : Int := ((2 ^ (7 - s) : Nat) : Int)
theorem eight {s : Nat} (h : s ≤ 7) : s = 0 ∨ s = 1 ∨ s = 2 ∨ s = 3 ∨ s = 4 ∨ s = 5 ∨ s = 6 ∨ s = 7 := by omega
theorem bitAt_bd (s : Nat) (h : s ≤ 7) : 1 ≤ bitAt s ∧ bitAt s ≤ 128 := by
  unfold bitAt
  rcases eight h with rfl | rfl | rfl | rfl | rfl | rfl | rfl | rfl <;> decide
theorem bitAt_half (s : Nat) (h : s + 1 ≤ 7) : bitAt s / 2 = bitAt (s + 1) := by
  unfold bitAt
  rcases eight (show s ≤ 7 by omega) with rfl | rfl | rfl | rfl | rfl | rfl | rfl | rfl <;> first | (exfalso; omega) | decide
/-- The bit at place s is set: it is taken off. -/
theorem midByte_on (b : UInt8) (lo s : Nat) (h : lo ≤ s) (hs : s ≤ 7) (h1 : ((midByte b lo s).toNat : Int) / bitAt s % 2 = 1) : ((midByte b lo s).toNat : Int) - bitAt s = ((midByte b lo (s + 1)).toNat : Int) := by
  rw [midByte_val _ _ _ h] at h1 ⊢
  rw [midByte_val _ _ _ (by omega)]
  have hb := UInt8.toNat_lt b
  unfold bitAt at h1 ⊢
  rcases eight hs with rfl | rfl | rfl | rfl | rfl | rfl | rfl | rfl <;> rcases eight (show lo ≤ 7 by omega) with rfl | rfl | rfl | rfl | rfl | rfl | rfl | rfl <;> first | (exfalso; omega) | (simp at h1 ⊢; omega)
theorem midByte_off (b : UInt8) (lo s : Nat) (h : lo ≤ s) (hs : s ≤ 7) (h1 : ¬ ((midByte b lo s).toNat : Int) / bitAt s % 2 = 1) : midByte b lo (s + 1) = midByte b lo s := by
  apply UInt8.toNat_inj.1
  rw [midByte_val _ _ _ h] at h1 ⊢
  rw [midByte_val _ _ _ (by omega)]
  have hb := UInt8.toNat_lt b
  unfold bitAt at h1
  rcases eight hs with rfl | rfl | rfl | rfl | rfl | rfl | rfl | rfl <;> rcases eight (show lo ≤ 7 by omega) with rfl | rfl | rfl | rfl | rfl | rfl | rfl | rfl <;> first | (exfalso; omega) | (simp at h1 ⊢; omega)
/-- Bytes whose bits n to i - 1 are cleared. -/
def midB (n i : Nat) (bs : List UInt8) : List UInt8 := bs.mapIdx fun j b => midByte b (min 8 (n - 8 * j)) (min 8 (i - 8 * j))
theorem midB_length (n i : Nat) (bs : List UInt8) : (midB n i bs).length = bs.length := by simp [midB]
theorem midB_get (n i : Nat) (bs : List UInt8) (j : Nat) (h : j < bs.length) : (midB n i bs)[j]'(by rw [midB_length]; exact h) = midByte bs[j] (min 8 (n - 8 * j)) (min 8 (i - 8 * j)) := by simp [midB]
theorem midB_start (n : Nat) (bs : List UInt8) : midB n n bs = bs := by
  apply List.ext_getElem (by simp [midB_length])
  intro i h1 h2
  rw [midB_get _ _ _ _ h2, midByte_same]
theorem midB_end (n i : Nat) (bs : List UInt8) (hi : 8 * bs.length ≤ i) : midB n i bs = cutB n bs := by
  apply List.ext_getElem (by simp [midB_length, cutB_length])
  intro j h1 h2
  rw [cutB_length] at h2
  rw [midB_get _ _ _ _ h2, cutB_get _ _ _ h2, show min 8 (i - 8 * j) = 8 by omega, midByte_end _ _ (by omega)]
theorem midB_step (n i : Nat) (bs : List UInt8) (h : i / 8 < bs.length) : midB n (i + 1) bs = (midB n i bs).set (i / 8) (midByte bs[i / 8] (min 8 (n - 8 * (i / 8))) (i % 8 + 1)) := by
  apply List.ext_getElem (by simp [midB_length])
  intro j h1 h2
  have hj : j < bs.length := by simpa [midB_length] using h1
  rw [midB_get _ _ _ _ hj, List.getElem_set]
  split
  · rename_i e
    subst e
    congr 1
    omega
  · rename_i e
    rw [midB_get _ _ _ _ hj]
    congr 1
    omega
theorem midB_at (n i : Nat) (bs : List UInt8) (h : i / 8 < bs.length) : (midB n i bs)[i / 8]'(by rw [midB_length]; exact h) = midByte bs[i / 8] (min 8 (n - 8 * (i / 8))) (i % 8) := by
  rw [midB_get _ _ _ _ h]
  congr 1
  omega

/-- An address with its first n bits kept. -/
def Ad.cut (x : Ad) (n : Int) : Ad := if x.ok = true ∧ 0 ≤ n ∧ n ≤ x.bits then unw x.k (cutB (128 - x.bits + n).toNat x.whole) else Ad.zero
theorem Ad.cut_of {x : Ad} {n : Int} (h : x.ok = true ∧ 0 ≤ n ∧ n ≤ x.bits) : x.cut n = unw x.k (cutB (128 - x.bits + n).toNat x.whole) := if_pos h
theorem Ad.cut_not {x : Ad} {n : Int} (h : ¬ (x.ok = true ∧ 0 ≤ n ∧ n ≤ x.bits)) : x.cut n = Ad.zero := if_neg h
theorem Ad.cut_whole {x : Ad} {n : Int} (h : x.ok = true ∧ 0 ≤ n ∧ n ≤ x.bits) : (x.cut n).whole = cutB (128 - x.bits + n).toNat x.whole := by
  rw [Ad.cut_of h, whole_unw _ _ (by rw [cutB_length, Ad.whole_length])]
theorem Ad.cut_kind {x : Ad} {n : Int} (h : x.ok = true ∧ 0 ≤ n ∧ n ≤ x.bits) : (x.cut n).k = x.k := by rw [Ad.cut_of h]; rfl
theorem be_le4 (l : List UInt8) (h : l.length ≤ 4) : (be l : Int) ≤ 4294967295 := by
  have h1 := be_lt l
  have h2 : 256 ^ l.length ≤ 256 ^ 4 := Nat.pow_le_pow_right (by omega) h
  omega
theorem put32_zero : put32 0 = [0, 0, 0, 0] := by decide
theorem cutB_append (n : Nat) (x y : List UInt8) : cutB n (x ++ y) = cutB n x ++ cutB (n - 8 * x.length) y := by
  unfold cutB
  rw [List.mapIdx_append]
  congr 1
  apply List.ext_getElem (by simp)
  intro i h1 h2
  simp only [List.getElem_mapIdx]
  congr 1
  omega
theorem cutB_zeros (n : Nat) : cutB n [0, 0, 0, 0, 0, 0, 0, 0, 0, 0, 0, 0] = [0, 0, 0, 0, 0, 0, 0, 0, 0, 0, 0, 0] := by
  simp [cutB, List.mapIdx_cons, cutByte_zero]
theorem whole_four {x : Ad} (h : x.a = 0 ∧ x.b = 0 ∧ x.c = 0) : x.whole = [0, 0, 0, 0, 0, 0, 0, 0, 0, 0, 0, 0] ++ put32 x.d := by
  obtain ⟨h1, h2, h3⟩ := h
  rw [Ad.whole, h1, h2, h3, put32_zero]
  rfl
theorem Ad.ok_four {x : Ad} (h : x.ok = true) (hk : x.k = 4) : x.a = 0 ∧ x.b = 0 ∧ x.c = 0 := by
  rw [Ad.ok_iff] at h
  omega
/-- What is cut of an address of kind 4: its own four bytes. -/
theorem Ad.cut_four {x : Ad} {n : Int} (h : x.ok = true) (hk : x.k = 4) (h0 : 0 ≤ n) (h1 : n ≤ 32) : x.cut n = ⟨4, 0, 0, 0, be (cutB n.toNat (put32 x.d))⟩ := by
  have hb : x.bits = 32 := by simp [Ad.bits, hk]
  rw [Ad.cut_of ⟨h, h0, by omega⟩, whole_four (x.ok_four h hk), hb, cutB_append, cutB_zeros, hk]
  have e : (128 - 32 + n).toNat - 8 * ([0, 0, 0, 0, 0, 0, 0, 0, 0, 0, 0, 0] : List UInt8).length = n.toNat := by simp; omega
  rw [e]
  have hl : (cutB n.toNat (put32 x.d)).length = 4 := by rw [cutB_length]; rfl
  obtain ⟨p, q, r, s, hl⟩ := len4 hl
  rw [hl]
  simp [unw, be]
theorem Ad.cut_six {x : Ad} {n : Int} (h : x.ok = true) (hk : x.k = 6) (h0 : 0 ≤ n) (h1 : n ≤ 128) : x.cut n = unw 6 (cutB n.toNat x.whole) := by
  have hb : x.bits = 128 := by simp [Ad.bits, hk]
  rw [Ad.cut_of ⟨h, h0, by omega⟩, hb, hk]
  congr 2
  omega
theorem Ad.cut_ok {x : Ad} {n : Int} (h : x.ok = true ∧ 0 ≤ n ∧ n ≤ x.bits) : (x.cut n).ok = true := by
  obtain ⟨h, h0, h1⟩ := h
  rcases x.ok_kind h with hk | hk
  · rw [x.cut_four h hk h0 (by simp [Ad.bits, hk] at h1; exact h1), Ad.ok_iff]
    have := be_le4 (cutB n.toNat (put32 x.d)) (by rw [cutB_length]; simp [put32])
    exact .inl ⟨rfl, rfl, rfl, rfl, by simp, this⟩
  · rw [x.cut_six h hk h0 (by simp [Ad.bits, hk] at h1; exact h1), Ad.ok_iff]
    exact .inr ⟨rfl, ⟨by simp [unw], be_le4 _ (List.length_take_le _ _)⟩, ⟨by simp [unw], be_le4 _ (List.length_take_le _ _)⟩, ⟨by simp [unw], be_le4 _ (List.length_take_le _ _)⟩, by simp [unw], be_le4 _ (List.length_take_le _ _)⟩
theorem Ad.cut_bits {x : Ad} {n : Int} (h : x.ok = true ∧ 0 ≤ n ∧ n ≤ x.bits) : (x.cut n).bits = x.bits := by simp [Ad.bits, Ad.cut_kind h]
/-- Cut to n bits is y exactly if the bytes are. -/
theorem Ad.cut_eq {x y : Ad} {n : Int} (h : x.ok = true ∧ 0 ≤ n ∧ n ≤ x.bits) (hy : y.ok = true) (hk : x.k = y.k) : x.cut n = y ↔ cutB (128 - x.bits + n).toNat x.whole = y.whole := by
  constructor
  · intro e
    rw [← Ad.cut_whole h, e]
  · intro e
    exact whole_inj _ _ (Ad.cut_ok h) hy (by rw [Ad.cut_kind h, hk]) (by rw [Ad.cut_whole h, e])
theorem Ad.cut_cut {x : Ad} {n m : Int} (h : x.ok = true ∧ 0 ≤ n ∧ n ≤ x.bits) (h0 : 0 ≤ m) (h1 : m ≤ n) : (x.cut n).cut m = x.cut m := by
  have hm : x.ok = true ∧ 0 ≤ m ∧ m ≤ x.bits := ⟨h.1, h0, by omega⟩
  have hb := Ad.cut_bits h
  have hx : (x.cut n).ok = true ∧ 0 ≤ m ∧ m ≤ (x.cut n).bits := ⟨Ad.cut_ok h, h0, by omega⟩
  rw [Ad.cut_of hx, Ad.cut_of hm, Ad.cut_whole h, hb, Ad.cut_kind h, cutB_cut _ _ (by omega)]

/-- A prefix: an address and a length. -/
structure Pf where
  base : Ad
  len : Int
deriving DecidableEq
def Pf.zero : Pf := ⟨Ad.zero, 0⟩
def Pf.val (p : Pf) : Value := .agg #[.int .i64 p.base.k, .int .i64 p.base.a, .int .i64 p.base.b, .int .i64 p.base.c, .int .i64 p.base.d, .int .i64 p.len]
def Pf.ok (p : Pf) : Bool := decide (p = Pf.zero) || (p.base.ok && decide (0 ≤ p.len ∧ p.len ≤ p.base.bits) && decide (p.base.cut p.len = p.base))
def Pf.has (p : Pf) (x : Ad) : Bool := p.ok && x.ok && (decide (p = Pf.zero) || (decide (p.base.k = x.k) && decide (x.cut p.len = p.base)))
def Pf.inn (p q : Pf) : Bool := p.ok && q.ok && (decide (q = Pf.zero) || (!decide (p = Pf.zero) && decide (p.base.k = q.base.k) && decide (q.len ≤ p.len) && q.has p.base))
theorem zero_not_ok : Ad.zero.ok = false := by decide
/-- Each address of a prefix that lies in another one is in the other one. -/
theorem Pf.holds (p q : Pf) (x : Ad) (h : p.inn q = true) (hx : p.has x = true) : q.has x = true := by
  simp only [Pf.inn, Pf.has, Bool.and_eq_true, Bool.or_eq_true, decide_eq_true_eq, Bool.not_eq_true', decide_eq_false_iff_not] at h hx ⊢
  obtain ⟨⟨hp, hq⟩, h⟩ := h
  obtain ⟨⟨_, hox⟩, hx⟩ := hx
  refine ⟨⟨hq, hox⟩, ?_⟩
  rcases h with h | ⟨⟨⟨hpz, hk⟩, hl⟩, ⟨_, hob⟩, hc⟩
  · exact .inl h
  · rcases hc with hc | ⟨_, hc⟩
    · exact .inl hc
    · rcases hx with hx | ⟨hxk, hxc⟩
      · exact absurd hx hpz
      · right
        refine ⟨by rw [← hk, hxk], ?_⟩
        simp only [Pf.ok, Bool.or_eq_true, Bool.and_eq_true, decide_eq_true_eq] at hp hq
        rcases hq with hq | ⟨⟨_, hq0, hq1⟩, _⟩
        · subst hq
          have hz := p.base.ok_kind hob
          rw [hk] at hz
          exact absurd hz (by decide)
        · rcases hp with hp | ⟨⟨_, hp0, hp1⟩, _⟩
          · exact absurd hp hpz
          · have hb : x.bits = p.base.bits := by simp [Ad.bits, hxk]
            rw [← hc, ← hxc]
            exact (Ad.cut_cut (x := x) (n := p.len) (m := q.len) ⟨hox, hp0, by omega⟩ hq0 hl).symm
end Go.Proofs.Ytmfkpiclpkeemaa
