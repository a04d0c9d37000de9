/-
  An IPv4 packet's bytes read back; a head in which one byte was changed. Plain: nothing here speaks of the program. A head in which one byte other than the first one was changed is not read. Plain: nothing here speaks of the program.
-/
import Derived.Test.YtegpaocoepcemaaFourRdLib
import Derived.Test.YtegpaocoepcemaaSumMath
namespace Go.Proofs.Ytegpaocoepcemaa
open Go.RowKit

theorem nums20 (b0 b1 b2 b3 b4 b5 b6 b7 b8 b9 b10 b11 b12 b13 b14 b15 b16 b17 b18 b19 : UInt8) (tl : List UInt8) : num (b0 :: b1 :: b2 :: b3 :: b4 :: b5 :: b6 :: b7 :: b8 :: b9 :: b10 :: b11 :: b12 :: b13 :: b14 :: b15 :: b16 :: b17 :: b18 :: b19 :: tl) 0 1 = b0.toNat ∧ num (b0 :: b1 :: b2 :: b3 :: b4 :: b5 :: b6 :: b7 :: b8 :: b9 :: b10 :: b11 :: b12 :: b13 :: b14 :: b15 :: b16 :: b17 :: b18 :: b19 :: tl) 1 1 = b1.toNat ∧ num (b0 :: b1 :: b2 :: b3 :: b4 :: b5 :: b6 :: b7 :: b8 :: b9 :: b10 :: b11 :: b12 :: b13 :: b14 :: b15 :: b16 :: b17 :: b18 :: b19 :: tl) 2 2 = 256 * b2.toNat + b3.toNat ∧ num (b0 :: b1 :: b2 :: b3 :: b4 :: b5 :: b6 :: b7 :: b8 :: b9 :: b10 :: b11 :: b12 :: b13 :: b14 :: b15 :: b16 :: b17 :: b18 :: b19 :: tl) 4 2 = 256 * b4.toNat + b5.toNat ∧ num (b0 :: b1 :: b2 :: b3 :: b4 :: b5 :: b6 :: b7 :: b8 :: b9 :: b10 :: b11 :: b12 :: b13 :: b14 :: b15 :: b16 :: b17 :: b18 :: b19 :: tl) 6 2 = 256 * b6.toNat + b7.toNat ∧ num (b0 :: b1 :: b2 :: b3 :: b4 :: b5 :: b6 :: b7 :: b8 :: b9 :: b10 :: b11 :: b12 :: b13 :: b14 :: b15 :: b16 :: b17 :: b18 :: b19 :: tl) 8 1 = b8.toNat ∧ num (b0 :: b1 :: b2 :: b3 :: b4 :: b5 :: b6 :: b7 :: b8 :: b9 :: b10 :: b11 :: b12 :: b13 :: b14 :: b15 :: b16 :: b17 :: b18 :: b19 :: tl) 9 1 = b9.toNat ∧ num (b0 :: b1 :: b2 :: b3 :: b4 :: b5 :: b6 :: b7 :: b8 :: b9 :: b10 :: b11 :: b12 :: b13 :: b14 :: b15 :: b16 :: b17 :: b18 :: b19 :: tl) 10 2 = 256 * b10.toNat + b11.toNat ∧
    num (b0 :: b1 :: b2 :: b3 :: b4 :: b5 :: b6 :: b7 :: b8 :: b9 :: b10 :: b11 :: b12 :: b13 :: b14 :: b15 :: b16 :: b17 :: b18 :: b19 :: tl) 12 4 = 256 * (256 * (256 * b12.toNat + b13.toNat) + b14.toNat) + b15.toNat ∧ num (b0 :: b1 :: b2 :: b3 :: b4 :: b5 :: b6 :: b7 :: b8 :: b9 :: b10 :: b11 :: b12 :: b13 :: b14 :: b15 :: b16 :: b17 :: b18 :: b19 :: tl) 16 4 = 256 * (256 * (256 * b16.toNat + b17.toNat) + b18.toNat) + b19.toNat := by
  refine ⟨?_, ?_, ?_, ?_, ?_, ?_, ?_, ?_, ?_, ?_⟩ <;> simp [num, be]
theorem head_cons (x : Fh) (s : Int) (os : List UInt8) (m : Nat) : x.head s os m = byteOf (69 + (os.length : Int) / 4) :: byteOf (4 * x.dscp + x.ecn) :: byteOf ((20 + os.length + m : Int) / 256) :: byteOf (20 + os.length + m) :: byteOf (x.id / 256) :: byteOf x.id :: byteOf ((8192 * x.flags + x.frag) / 256) :: byteOf (8192 * x.flags + x.frag) :: byteOf x.ttl :: byteOf x.proto :: byteOf (s / 256) :: byteOf s ::
    byteOf (x.src.d / 16777216) :: byteOf (x.src.d / 65536) :: byteOf (x.src.d / 256) :: byteOf x.src.d :: byteOf (x.dst.d / 16777216) :: byteOf (x.dst.d / 65536) :: byteOf (x.dst.d / 256) :: byteOf x.dst.d :: os := rfl
theorem sum_range {x : Fh} {os : List UInt8} {m : Nat} (hok : x.ok os.length m = true) : 0 ≤ x.sum os m ∧ x.sum os m ≤ 65535 := by
  have h1 : x.sum os m = checksum (x.head 0 os m) := by simp [Fh.sum, hok]
  have h2 := ((x.ok_iff os.length m).1 hok).2.2.2.1.1
  have h3 : isWord (checksum (x.head 0 os m)) = true := comp_word (onesSum_word (bs := x.head 0 os m) (by rw [Fh.head_length]; omega))
  rw [isWord_iff] at h3
  rw [h1]
  exact h3

/-- What an encoded packet is read as, with some bytes behind it. -/
theorem four_back {x : Fh} {os bs rest : List UInt8} (hok : x.ok os.length bs.length = true) (hr : rest.length ≤ 9) : ∀ D, D = x.bytes os bs ++ rest → frc D = 0 ∧ fx0 D = x ∧ fo0 D = os ∧ fb0 D = bs ∧ D.drop (num D 2 2) = rest := by
  intro D hD
  have hs := sum_range hok
  obtain ⟨S, hS⟩ : ∃ S, x.sum os bs.length = S := ⟨_, rfl⟩
  rw [hS] at hs
  have hb : x.bytes os bs = x.head S os bs.length ++ bs := by simp only [Fh.bytes, hok, if_true, hS]
  obtain ⟨⟨hd, he, hi, hf, hg, ht, hp⟩, h4, h4', ⟨ho, ho4⟩, hm⟩ := (x.ok_iff os.length bs.length).1 hok
  obtain ⟨k1, k2, k3, k4, k5⟩ := adOk4_iff.1 h4
  obtain ⟨j1, j2, j3, j4, j5⟩ := adOk4_iff.1 h4'
  rw [hb, head_cons] at hD
  have hlen : D.length = 20 + os.length + bs.length + rest.length := by rw [hD]; simp; omega
  have hD2 : D = _ :: _ :: _ :: _ :: _ :: _ :: _ :: _ :: _ :: _ :: _ :: _ :: _ :: _ :: _ :: _ :: _ :: _ :: _ :: _ :: (os ++ bs ++ rest) := hD
  obtain ⟨n0, n1, n2, n4, n6, n8, n9, n10, n12, n16⟩ := nums20 (byteOf (69 + (os.length : Int) / 4)) (byteOf (4 * x.dscp + x.ecn)) (byteOf ((20 + os.length + bs.length : Int) / 256)) (byteOf (20 + os.length + bs.length)) (byteOf (x.id / 256)) (byteOf x.id) (byteOf ((8192 * x.flags + x.frag) / 256)) (byteOf (8192 * x.flags + x.frag)) (byteOf x.ttl) (byteOf x.proto) (byteOf (S / 256)) (byteOf S) (byteOf (x.src.d / 16777216)) (byteOf (x.src.d / 65536)) (byteOf (x.src.d / 256)) (byteOf x.src.d) (byteOf (x.dst.d / 16777216)) (byteOf (x.dst.d / 65536)) (byteOf (x.dst.d / 256)) (byteOf x.dst.d) (os ++ bs ++ rest)
  rw [← hD2] at n0 n1 n2 n4 n6 n8 n9 n10 n12 n16
  have v : ∀ z : Int, ((byteOf z).toNat : Int) = z % 256 := byteOf_val
  have w0 : (num D 0 1 : Int) = 69 + (os.length : Int) / 4 := by have := v (69 + (os.length : Int) / 4); omega
  have w2 : num D 2 2 = 20 + os.length + bs.length := by have := v ((20 + os.length + bs.length : Int) / 256); have := v (20 + os.length + bs.length); omega
  have w10 : (num D 10 2 : Int) = S := by have := v (S / 256); have := v S; omega
  have wh : fHead D = 20 + os.length := by unfold fHead; omega
  have wx : fx0 D = x := by
    obtain ⟨xd, xe, xi, xf, xg, xt, xp, ⟨sk, sa, sb, sc, sd⟩, ⟨dk, da, db, dc, dd⟩⟩ := x
    simp only at *
    subst k1 k2 k3 k4 j1 j2 j3 j4
    have q1 := v (4 * xd + xe)
    have q4 := v (xi / 256)
    have q5 := v xi
    have q6 := v ((8192 * xf + xg) / 256)
    have q7 := v (8192 * xf + xg)
    have q8 := v xt
    have q9 := v xp
    have s1 := v (sd / 16777216)
    have s2 := v (sd / 65536)
    have s3 := v (sd / 256)
    have s4 := v sd
    have t1 := v (dd / 16777216)
    have t2 := v (dd / 65536)
    have t3 := v (dd / 256)
    have t4 := v dd
    unfold fx0
    simp only [Fh.mk.injEq, Ad.mk.injEq, true_and]
    refine ⟨by omega, by omega, by omega, by omega, by omega, by omega, by omega, by omega, by omega⟩
  have wo : fo0 D = os := by
    unfold fo0
    rw [wh, hD2]
    simp
  have wb : fb0 D = bs := by
    unfold fb0
    rw [wh, w2, show 20 + os.length + bs.length - (20 + os.length) = bs.length by omega, show 20 + os.length = os.length + 20 by omega, hD2]
    simp
  refine ⟨?_, wx, wo, wb, ?_⟩
  · unfold frc
    rw [if_neg (by omega), if_neg (by omega), if_neg (by omega), if_neg (by omega), if_neg (by omega), wx, wo, w2, wh, show 20 + os.length + bs.length - (20 + os.length) = bs.length by omega, hS, w10]
    simp
  · rw [w2, show 20 + os.length + bs.length = (os.length + bs.length) + 20 by omega, hD2]
    simp
end Go.Proofs.Ytegpaocoepcemaa

namespace Go.Proofs.Ytegpaocoepcemaa
open Go.RowKit

theorem uncons {D : List UInt8} {n : Nat} (h : n + 1 ≤ D.length) : ∃ a t, D = a :: t ∧ n ≤ t.length := by
  cases D with
  | nil => simp at h
  | cons a t => exact ⟨a, t, rfl, by simpa using h⟩
theorem split20 {D : List UInt8} (h : 20 ≤ D.length) : ∃ b0 b1 b2 b3 b4 b5 b6 b7 b8 b9 b10 b11 b12 b13 b14 b15 b16 b17 b18 b19 tl, D = b0 :: b1 :: b2 :: b3 :: b4 :: b5 :: b6 :: b7 :: b8 :: b9 :: b10 :: b11 :: b12 :: b13 :: b14 :: b15 :: b16 :: b17 :: b18 :: b19 :: tl := by
  obtain ⟨b0, t0, rfl, h0⟩ := uncons h
  obtain ⟨b1, t1, rfl, h1⟩ := uncons h0
  obtain ⟨b2, t2, rfl, h2⟩ := uncons h1
  obtain ⟨b3, t3, rfl, h3⟩ := uncons h2
  obtain ⟨b4, t4, rfl, h4⟩ := uncons h3
  obtain ⟨b5, t5, rfl, h5⟩ := uncons h4
  obtain ⟨b6, t6, rfl, h6⟩ := uncons h5
  obtain ⟨b7, t7, rfl, h7⟩ := uncons h6
  obtain ⟨b8, t8, rfl, h8⟩ := uncons h7
  obtain ⟨b9, t9, rfl, h9⟩ := uncons h8
  obtain ⟨b10, t10, rfl, h10⟩ := uncons h9
  obtain ⟨b11, t11, rfl, h11⟩ := uncons h10
  obtain ⟨b12, t12, rfl, h12⟩ := uncons h11
  obtain ⟨b13, t13, rfl, h13⟩ := uncons h12
  obtain ⟨b14, t14, rfl, h14⟩ := uncons h13
  obtain ⟨b15, t15, rfl, h15⟩ := uncons h14
  obtain ⟨b16, t16, rfl, h16⟩ := uncons h15
  obtain ⟨b17, t17, rfl, h17⟩ := uncons h16
  obtain ⟨b18, t18, rfl, h18⟩ := uncons h17
  obtain ⟨b19, t19, rfl, h19⟩ := uncons h18
  exact ⟨b0, b1, b2, b3, b4, b5, b6, b7, b8, b9, b10, b11, b12, b13, b14, b15, b16, b17, b18, b19, t19, rfl⟩

/-- What is read, encoded again, is the head that was read. -/
theorem again {D : List UInt8} (hl : 20 ≤ D.length) (h3 : num D 0 1 / 16 = 4) (h4 : 20 ≤ fHead D ∧ fHead D ≤ D.length) (h5 : fHead D ≤ num D 2 2) : (fx0 D).head (num D 10 2) (fo0 D) (num D 2 2 - fHead D) = D.take (fHead D) := by
  obtain ⟨b0, b1, b2, b3, b4, b5, b6, b7, b8, b9, b10, b11, b12, b13, b14, b15, b16, b17, b18, b19, tl, hD⟩ := split20 hl
  obtain ⟨n0, n1, n2, n4, n6, n8, n9, n10, n12, n16⟩ := nums20 b0 b1 b2 b3 b4 b5 b6 b7 b8 b9 b10 b11 b12 b13 b14 b15 b16 b17 b18 b19 tl
  rw [← hD] at n0 n1 n2 n4 n6 n8 n9 n10 n12 n16
  have u0 := UInt8.toNat_lt b0
  have u1 := UInt8.toNat_lt b1
  have u2 := UInt8.toNat_lt b2
  have u3 := UInt8.toNat_lt b3
  have u4 := UInt8.toNat_lt b4
  have u5 := UInt8.toNat_lt b5
  have u6 := UInt8.toNat_lt b6
  have u7 := UInt8.toNat_lt b7
  have u8 := UInt8.toNat_lt b8
  have u9 := UInt8.toNat_lt b9
  have u10 := UInt8.toNat_lt b10
  have u11 := UInt8.toNat_lt b11
  have u12 := UInt8.toNat_lt b12
  have u13 := UInt8.toNat_lt b13
  have u14 := UInt8.toNat_lt b14
  have u15 := UInt8.toNat_lt b15
  have u16 := UInt8.toNat_lt b16
  have u17 := UInt8.toNat_lt b17
  have u18 := UInt8.toNat_lt b18
  have u19 := UInt8.toNat_lt b19
  obtain ⟨p, hp⟩ : ∃ p, fHead D = 20 + p := ⟨fHead D - 20, by omega⟩
  have hlen : D.length = 20 + tl.length := by rw [hD]; simp; omega
  have ho : fo0 D = tl.take p := by
    unfold fo0
    rw [hp, show 20 + p - 20 = p by omega, hD]
    rfl
  have hol : (tl.take p).length = p := by rw [List.length_take]; omega
  have ht : D.take (fHead D) = b0 :: b1 :: b2 :: b3 :: b4 :: b5 :: b6 :: b7 :: b8 :: b9 :: b10 :: b11 :: b12 :: b13 :: b14 :: b15 :: b16 :: b17 :: b18 :: b19 :: tl.take p := by
    rw [hp, show 20 + p = p + 20 by omega, hD]
    rfl
  rw [ht, head_cons, ho, hol]
  have e0 : 4 * (num D 0 1 % 16) = 20 + p := by unfold fHead at hp; exact hp
  unfold fx0
  simp only [List.cons.injEq, and_true]
  refine ⟨byteOf_eq _ _ (by omega), byteOf_eq _ _ (by omega), byteOf_eq _ _ (by omega), byteOf_eq _ _ (by omega), byteOf_eq _ _ (by omega), byteOf_eq _ _ (by omega), byteOf_eq _ _ (by omega), byteOf_eq _ _ (by omega), byteOf_eq _ _ (by omega), byteOf_eq _ _ (by omega), byteOf_eq _ _ (by omega), byteOf_eq _ _ (by omega), byteOf_eq _ _ (by omega), byteOf_eq _ _ (by omega), byteOf_eq _ _ (by omega), byteOf_eq _ _ (by omega), byteOf_eq _ _ (by omega), byteOf_eq _ _ (by omega), byteOf_eq _ _ (by omega), byteOf_eq _ _ (by omega)⟩

theorem sum_zero {D : List UInt8} (h : frc D = 0) : 20 ≤ fHead D ∧ fHead D ≤ D.length ∧ D.length ≤ 1600 ∧ ∃ q : Int, total (wordsL (D.take (fHead D))) = 65535 * q := by
  unfold frc at h
  split at h
  · omega
  · split at h
    · omega
    · split at h
      · omega
      · split at h
        · omega
        · split at h
          · omega
          · split at h
            · omega
            · rename_i h1 h2 h3 h4 h5 h6
              refine ⟨by omega, by omega, by omega, ?_⟩
              have hh := again (D := D) (by omega) (by omega) (by omega) (by omega)
              have hs : (num D 10 2 : Int) = (fx0 D).sum (fo0 D) (num D 2 2 - fHead D) := by simpa using h6
              have hok : (fx0 D).ok (fo0 D).length (num D 2 2 - fHead D) = true := by
                cases hb : (fx0 D).ok (fo0 D).length (num D 2 2 - fHead D)
                · have : (fx0 D).sum (fo0 D) (num D 2 2 - fHead D) = -1 := by simp [Fh.sum, hb]
                  omega
                · rfl
              have hr := sum_range hok
              have hc : (fx0 D).sum (fo0 D) (num D 2 2 - fHead D) = checksum ((fx0 D).head 0 (fo0 D) (num D 2 2 - fHead D)) := by simp [Fh.sum, hok]
              have ho := ((Fh.ok_iff _ _ _).1 hok).2.2.2.1.1
              rw [← hh, hs]
              rw [hc] at hr
              obtain ⟨S, hS⟩ : ∃ S, checksum ((fx0 D).head 0 (fo0 D) (num D 2 2 - fHead D)) = S := ⟨_, rfl⟩
              rw [hc, hS]
              rw [hS] at hr
              have hlen : ((fx0 D).head 0 (fo0 D) (num D 2 2 - fHead D)).length ≤ 2000 := by rw [Fh.head_length]; omega
              have hw := onesSum_word hlen
              have ht := onesSum_total hlen
              have hn := total_nonneg _ (wordsL_word ((fx0 D).head 0 (fo0 D) (num D 2 2 - fHead D)))
              have hS2 : S = 65535 - red (total (wordsL ((fx0 D).head 0 (fo0 D) (num D 2 2 - fHead D)))) := by rw [← hS, checksum, comp_yes hw, ht]
              have hd : total (wordsL ((fx0 D).head S (fo0 D) (num D 2 2 - fHead D))) = total (wordsL ((fx0 D).head 0 (fo0 D) (num D 2 2 - fHead D))) + S := by
                have v1 := byteOf_val (S / 256)
                have v2 := byteOf_val S
                have v3 := byteOf_val (0 / 256)
                have v4 := byteOf_val 0
                rw [head_cons, head_cons]
                simp only [wordsL, total]
                omega
              rw [hd]
              generalize total (wordsL ((fx0 D).head 0 (fo0 D) (num D 2 2 - fHead D))) = n at hn hS2 ⊢
              unfold red at hS2
              split at hS2
              · exact ⟨1, by omega⟩
              · exact ⟨(n - 1) / 65535 + 1, by omega⟩

theorem four_told {x : Fh} {os bs : List UInt8} (hok : x.ok os.length bs.length = true) (i : Nat) (h1 : 1 ≤ i) (h2 : i < 20 + os.length) (b : UInt8) (hi : i < (x.bytes os bs).length) (hb : b ≠ (x.bytes os bs)[i]) : frc ((x.bytes os bs).set i b) ≠ 0 := by
  intro h
  obtain ⟨f1, f2, f3, f4, f5⟩ := four_back (rest := []) hok (by simp) _ rfl
  rw [List.append_nil] at f1 f2 f3 f4 f5
  obtain ⟨D, hD⟩ : ∃ D, x.bytes os bs = D := ⟨_, rfl⟩
  have hh : fHead D = 20 + os.length := by
    have g := sum_zero f1
    rw [hD] at g f3
    have := congrArg List.length f3
    unfold fo0 at this
    rw [List.length_take, List.length_drop] at this
    omega
  have hi' : i < D.length := hD ▸ hi
  have hb' : b ≠ D[i] := by subst hD; exact hb
  rw [hD] at f1 h
  obtain ⟨_, g2, g3, q, hq⟩ := sum_zero f1
  obtain ⟨_, k2, k3, r, hr⟩ := sum_zero h
  have e : fHead (D.set i b) = fHead D := by
    match D, i, h1 with
    | [], _, _ => rfl
    | a :: t, j + 1, _ => rfl
  rw [e, List.take_set, total_set _ i b (by rw [List.length_take]; omega), hq, List.getElem_take] at hr
  have u1 := UInt8.toNat_lt b
  have u2 := UInt8.toNat_lt D[i]
  have u3 : b.toNat ≠ D[i].toNat := fun h => hb' (UInt8.toNat_inj.1 h)
  unfold wt at hr
  split at hr <;> omega
end Go.Proofs.Ytegpaocoepcemaa
