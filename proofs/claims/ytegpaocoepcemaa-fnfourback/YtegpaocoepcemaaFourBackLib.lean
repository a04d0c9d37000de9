/-
  An IPv4 packet's bytes read back; a head in which one byte was changed. Plain: nothing here speaks of the program.
-/
import Derived.Test.YtegpaocoepcemaaFourRdLib
import Derived.Test.YtegpaocoepcemaaSumMath
namespace Go.Proofs.Ytegpaocoepcemaa
open Go.RowKit

theorem nums20 (b0 b1 b2 b3 b4 b5 b6 b7 b8 b9 b10 b11 b12 b13 b14 b15 b16 b17 b18 b19 : UInt8) (tl : List UInt8) : num (b0 :: b1 :: b2 :: b3 :: b4 :: b5 :: b6 :: b7 :: b8 :: b9 :: b10 :: b11 :: b12 :: b13 :: b14 :: b15 :: b16 :: b17 :: b18 :: b19 :: tl) 0 1 = b0.toNat ∧ num (b0 :: b1 :: b2 :: b3 :: b4 :: b5 :: b6 :: b7 :: b8 :: b9 :: b10 :: b11 :: b12 :: b13 :: b14 :: b15 :: b16 :: b17 :: b18 :: b19 :: tl) 1 1 = b1.toNat ∧ num (b0 :: b1 :: b2 :: b3 :: b4 :: b5 :: b6 :: b7 :: b8 :: b9 :: b10 :: b11 :: b12 :: b13 :: b14 :: b15 :: b16 :: b17 :: b18 :: b19 :: tl) 2 2 = 256 * b2.toNat + b3.toNat ∧ num (b0 :: b1 :: b2 :: b3 :: b4 :: b5 :: b6 :: b7 :: b8 :: b9 :: b10 :: b11 :: b12 :: b13 :: b14 :: b15 :: b16 :: b17 :: b18 :: b19 :: tl) 4 2 = 256 * b4.toNat + b5.toNat ∧ num (b0 :: b1 :: b2 :: b3 :: b4 :: b5 :: b6 :: b7 :: b8 :: b9 :: b10 :: b11 :: b12 :: b13 :: b14 :: b15 :: b16 :: b17 :: b18 :: b19 :: tl) 6 2 = 256 * b6.toNat + b7.toNat ∧ num (b0 :: b1 :: b2 :: b3 :: b4 :: b5 :: b6 :: b7 :: b8 :: b9 :: b10 :: b11 :: b12 :: b13 :: b14 :: b15 :: b16 :: b17 :: b18 :: b19 :: tl) 8 1 = b8.toNat ∧ num (b0 :: b1 :: b2 :: b3 :: b4 :: b5 :: b6 :: b7 :: b8 :: b9 :: b10 :: b11 :: b12 :: b13 :: b14 :: b15 :: b16 :: b17 :: b18 :: b19 :: tl) 9 1 = b9.toNat ∧ num (b0 :: b1 :: b2 :: b3 :: b4 :: b5 :: b6 :: b7 :: b8 :: b9 :: b10 :: b11 :: b12 :: b13 :: b14 :: b15 :: b16 :: b17 :: b18 :: b19 :: tl) 10 2 = 256 * b10.toNat + b11.toNat ∧
    num (b0 :: b1 :: b2 :: b3 :: b4 :: b5 :: b6 :: b7 :: b8 :: b9 :: b10 :: b11 :: b12 :: b13 :: b14 :: b15 :: b16 :: b17 :: b18 :: b19 :: tl) 12 4 = 256 * (256 * (256 * b12.toNat + b13.toNat) + b14.toNat) + b15.toNat ∧ num (b0 :: b1 :: b2 :: b3 :: b4 :: b5 :: b6 :: b7 :: b8 :: b9 :: b10 :: b11 :: b12 :: b13 :: b14 :: b15 :: b16 :: b17 :: b18 :: b19 :: tl) 16 4 = 256 * (256 * (256 * b16.toNat + b17.toNat) + b18.toNat) + b19.toNat := by
  refine ⟨?_, ?_, ?_, ?_, ?_, ?_, ?_, ?_, ?_, ?_⟩ <;> simp [num, be]
theorem head_cons (x : Fh) (s : Int) (os : List UInt8) (m : Nat) : x.head s os m = byteOf (69 + (os.length : Int) / 4) :: byteOf (4 * x.dscp + x.ecn) :: byteOf ((20 + os.length + m : Int) / 256) :: byteOf (20 + os.length + m) :: byteOf (x.id / 256) :: byteOf x.id :: byteOf ((8192 * x.flags + x.frag) / 256) :: byteOf (8192 * x.flags + x.frag) :: byteOf x.ttl :: byteOf x.proto :: byteOf (s / 256) :: byteOf s ::
    byteOf (x.src.d / 16777216) :: byteOf (x.src.d / 65536) :: byteOf (x.src.d / 256) :: byteOf x.src.d :: byteOf (x.dst.d / 16777216) :: byteOf (x.dst.d / 65536) :: byteOf (x.dst.d / 256) :: byteOf x.dst.d :: os := rfl
theorem sum_range {x : Fh} {os : List UInt8} {m : Nat} (hok : x.ok os.length m = true) : 0 ≤ x.sum os m ∧ x.sum os m ≤ 65535 := by
  have h1 : x.sum os m = checksum (x.head 0 os m) := by simp [Fh.sum, hok]
  have h2 := ((x.ok_iff os.length m).1 hok).2.2.2.1.1
  have h3 : isWord (checksum (x.head 0 os m)) = true := comp_word (onesSum_word (bs := x.head 0 os m) (by rw [Fh.head_length]; omega))
  rw [isWord_iff] at h3
  rw [h1]
  exact h3

/-- What an encoded packet is read as, with some bytes behind it. -/
theorem four_back {x : Fh} {os bs rest : List UInt8} (hok : x.ok os.length bs.length = true) (hr : rest.length ≤ 9) : ∀ D, D = x.bytes os bs ++ rest → frc D = 0 ∧ fx0 D = x ∧ fo0 D = os ∧ fb0 D = bs ∧ D.drop (num D 2 2) = rest := by
  intro D hD
  have hs := sum_range hok
  obtain ⟨S, hS⟩ : ∃ S, x.sum os bs.length = S := ⟨_, rfl⟩
  rw [hS] at hs
  have hb : x.bytes os bs = x.head S os bs.length ++ bs := by simp only [Fh.bytes, hok, if_true, hS]
  obtain ⟨⟨hd, he, hi, hf, hg, ht, hp⟩, h4, h4', ⟨ho, ho4⟩, hm⟩ := (x.ok_iff os.length bs.length).1 hok
  obtain ⟨k1, k2, k3, k4, k5⟩ := adOk4_iff.1 h4
  obtain ⟨j1, j2, j3, j4, j5⟩ := adOk4_iff.1 h4'
  rw [hb, head_cons] at hD
  have hlen : D.length = 20 + os.length + bs.length + rest.length := by rw [hD]; simp; omega
  have hD2 : D = _ :: _ :: _ :: _ :: _ :: _ :: _ :: _ :: _ :: _ :: _ :: _ :: _ :: _ :: _ :: _ :: _ :: _ :: _ :: _ :: (os ++ bs ++ rest) := hD
  obtain ⟨n0, n1, n2, n4, n6, n8, n9, n10, n12, n16⟩ := nums20 (byteOf (69 + (os.length : Int) / 4)) (byteOf (4 * x.dscp + x.ecn)) (byteOf ((20 + os.length + bs.length : Int) / 256)) (byteOf (20 + os.length + bs.length)) (byteOf (x.id / 256)) (byteOf x.id) (byteOf ((8192 * x.flags + x.frag) / 256)) (byteOf (8192 * x.flags + x.frag)) (byteOf x.ttl) (byteOf x.proto) (byteOf (S / 256)) (byteOf S) (byteOf (x.src.d / 16777216)) (byteOf (x.src.d / 65536)) (byteOf (x.src.d / 256)) (byteOf x.src.d) (byteOf (x.dst.d / 16777216)) (byteOf (x.dst.d / 65536)) (byteOf (x.dst.d / 256)) (byteOf x.dst.d) (os ++ bs ++ rest)
  rw [← hD2] at n0 n1 n2 n4 n6 n8 n9 n10 n12 n16
  have v : ∀ z : Int, ((byteOf z).toNat : Int) = z % 256 := byteOf_val
  have w0 : (num D 0 1 : Int) = 69 + (os.length : Int) / 4 := by have := v (69 + (os.length : Int) / 4); omega
  have w2 : num D 2 2 = 20 + os.length + bs.length := by have := v ((20 + os.length + bs.length : Int) / 256); have := v (20 + os.length + bs.length); omega
  have w10 : (num D 10 2 : Int) = S := by have := v (S / 256); have := v S; omega
  have wh : fHead D = 20 + os.length := by unfold fHead; omega
  have wx : fx0 D = x := by
    obtain ⟨xd, xe, xi, xf, xg, xt, xp, ⟨sk, sa, sb, sc, sd⟩, ⟨dk, da, db, dc, dd⟩⟩ := x
    simp only at *
    subst k1 k2 k3 k4 j1 j2 j3 j4
    have q1 := v (4 * xd + xe)
    have q4 := v (xi / 256)
    have q5 := v xi
    have q6 := v ((8192 * xf + xg) / 256)
    have q7 := v (8192 * xf + xg)
    have q8 := v xt
    have q9 := v xp
    have s1 := v (sd / 16777216)
    have s2 := v (sd / 65536)
    have s3 := v (sd / 256)
    have s4 := v sd
    have t1 := v (dd / 16777216)
    have t2 := v (dd / 65536)
    have t3 := v (dd / 256)
    have t4 := v dd
    unfold fx0
    simp only [Fh.mk.injEq, Ad.mk.injEq, true_and]
    refine ⟨by omega, by omega, by omega, by omega, by omega, by omega, by omega, by omega, by omega⟩
  have wo : fo0 D = os := by
    unfold fo0
    rw [wh, hD2]
    simp
  have wb : fb0 D = bs := by
    unfold fb0
    rw [wh, w2, show 20 + os.length + bs.length - (20 + os.length) = bs.length by omega, show 20 + os.length = os.length + 20 by omega, hD2]
    simp
  refine ⟨?_, wx, wo, wb, ?_⟩
  · unfold frc
    rw [if_neg (by omega), if_neg (by omega), if_neg (by omega), if_neg (by omega), if_neg (by omega), wx, wo, w2, wh, show 20 + os.length + bs.length - (20 + os.length) = bs.length by omega, hS, w10]
    simp
  · rw [w2, show 20 + os.length + bs.length = (os.length + bs.length) + 20 by omega, hD2]
    simp
end Go.Proofs.Ytegpaocoepcemaa
