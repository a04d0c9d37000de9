/-
  The translation of an address from one prefix to another, as plain data: by parts and by bytes. Nothing here speaks of the program.
-/
import Derived.Test.YtdndanbalmoklaaMoOkLib
import Derived.Test.YtdndanbalmoklaaCutSpec2
import Derived.Test.YtdndanbalmoklaaPfx
namespace Go.Proofs.Ytdndanbalmoklaa
set_option maxRecDepth 100000
open Go.RowKit

def natA (p q : Pf) (a : Ad) : Ad := if twins p q && p.has a then ⟨a.k, a.a - p.base.a + q.base.a, a.b - p.base.b + q.base.b, a.c - p.base.c + q.base.c, a.d - p.base.d + q.base.d⟩ else Ad.zero
theorem natA_no1 {p q : Pf} {a : Ad} (h : twins p q = false) : natA p q a = Ad.zero := by simp [natA, h]
theorem natA_no2 {p q : Pf} {a : Ad} (h : p.has a = false) : natA p q a = Ad.zero := by simp [natA, h]
theorem natA_yes {p q : Pf} {a : Ad} (h1 : twins p q = true) (h2 : p.has a = true) : natA p q a = ⟨a.k, a.a - p.base.a + q.base.a, a.b - p.base.b + q.base.b, a.c - p.base.c + q.base.c, a.d - p.base.d + q.base.d⟩ := by simp [natA, h1, h2]
def natB (xs cs bs : List UInt8) : List UInt8 := List.zipWith (fun b d => b + d) bs (List.zipWith (fun x c => x - c) xs cs)
theorem natB_length {xs cs bs : List UInt8} {n : Nat} (h1 : xs.length = n) (h2 : cs.length = n) (h3 : bs.length = n) : (natB xs cs bs).length = n := by
  simp [natB, h1, h2, h3]
theorem natB_get {xs cs bs : List UInt8} {n i : Nat} (h1 : xs.length = n) (h2 : cs.length = n) (h3 : bs.length = n) (hi : i < n) : (natB xs cs bs)[i]'(by rw [natB_length h1 h2 h3]; exact hi) = bs[i] + (xs[i] - cs[i]) := by
  simp [natB]
theorem nat_byte (x b : UInt8) (m : Nat) (hm : m ≤ 8) (hb : cutByte b m = b) : ((b + (x - cutByte x m)).toNat : Int) = x.toNat - (cutByte x m).toNat + b.toNat := by
  have hc := cutByte_val x m
  have hb2 := cutByte_val b m
  rw [hb] at hb2
  have hx := x.toNat_lt
  have hbb := b.toNat_lt
  have e : (b + (x - cutByte x m)).toNat = (b.toNat + (256 - (cutByte x m).toNat + x.toNat) % 256) % 256 := by
    rw [UInt8.toNat_add, UInt8.toNat_sub]
  rw [e, hc]
  rcases nine hm with rfl | rfl | rfl | rfl | rfl | rfl | rfl | rfl | rfl <;> simp only [Nat.sub_zero, Nat.reduceSub, Nat.reducePow, Nat.sub_self] at hb2 ⊢ <;> omega
theorem be_four (p q r s : UInt8) : (be [p, q, r, s] : Int) = 16777216 * p.toNat + 65536 * q.toNat + 256 * r.toNat + s.toNat := by
  simp [be]
  omega
theorem nat_four (x0 x1 x2 x3 b0 b1 b2 b3 : UInt8) (m0 m1 m2 m3 : Nat) (l0 : m0 ≤ 8) (l1 : m1 ≤ 8) (l2 : m2 ≤ 8) (l3 : m3 ≤ 8) (h0 : cutByte b0 m0 = b0) (h1 : cutByte b1 m1 = b1) (h2 : cutByte b2 m2 = b2) (h3 : cutByte b3 m3 = b3) :
    (be [b0 + (x0 - cutByte x0 m0), b1 + (x1 - cutByte x1 m1), b2 + (x2 - cutByte x2 m2), b3 + (x3 - cutByte x3 m3)] : Int) = be [x0, x1, x2, x3] - be [cutByte x0 m0, cutByte x1 m1, cutByte x2 m2, cutByte x3 m3] + be [b0, b1, b2, b3] := by
  rw [be_four, be_four, be_four, be_four, nat_byte x0 b0 m0 l0 h0, nat_byte x1 b1 m1 l1 h1, nat_byte x2 b2 m2 l2 h2, nat_byte x3 b3 m3 l3 h3]
  omega
theorem len16 {l : List UInt8} (h : l.length = 16) : ∃ a b c d e f g h i j k m n o p q, l = [a, b, c, d, e, f, g, h, i, j, k, m, n, o, p, q] := by
  match l, h with
  | [a, b, c, d, e, f, g, h, i, j, k, m, n, o, p, q], _ => exact ⟨a, b, c, d, e, f, g, h, i, j, k, m, n, o, p, q, rfl⟩
theorem min8 (a : Nat) : min 8 a ≤ 8 := Nat.min_le_left _ _
theorem nat_list4 (n : Nat) (xs bs : List UInt8) (hx : xs.length = 4) (hb : bs.length = 4) (hc : cutB n bs = bs) : (be (natB xs (cutB n xs) bs) : Int) = be xs - be (cutB n xs) + be bs := by
  obtain ⟨x0, x1, x2, x3, rfl⟩ := len4 hx
  obtain ⟨b0, b1, b2, b3, rfl⟩ := len4 hb
  simp only [cutB, List.mapIdx_cons, List.mapIdx_nil, List.cons.injEq, and_true, Nat.zero_add, Nat.reduceAdd] at hc
  exact nat_four x0 x1 x2 x3 b0 b1 b2 b3 _ _ _ _ (min8 _) (min8 _) (min8 _) (min8 _) hc.1 hc.2.1 hc.2.2.1 hc.2.2.2
theorem nat_list16 (n : Nat) (xs bs : List UInt8) (hx : xs.length = 16) (hb : bs.length = 16) (hc : cutB n bs = bs) :
    unw 6 (natB xs (cutB n xs) bs) = ⟨6, (unw 6 xs).a - (unw 6 (cutB n xs)).a + (unw 6 bs).a, (unw 6 xs).b - (unw 6 (cutB n xs)).b + (unw 6 bs).b, (unw 6 xs).c - (unw 6 (cutB n xs)).c + (unw 6 bs).c, (unw 6 xs).d - (unw 6 (cutB n xs)).d + (unw 6 bs).d⟩ := by
  obtain ⟨x0, x1, x2, x3, x4, x5, x6, x7, x8, x9, x10, x11, x12, x13, x14, x15, rfl⟩ := len16 hx
  obtain ⟨b0, b1, b2, b3, b4, b5, b6, b7, b8, b9, b10, b11, b12, b13, b14, b15, rfl⟩ := len16 hb
  simp only [cutB, List.mapIdx_cons, List.mapIdx_nil, List.cons.injEq, and_true, Nat.zero_add, Nat.reduceAdd] at hc
  obtain ⟨h0, h1, h2, h3, h4, h5, h6, h7, h8, h9, h10, h11, h12, h13, h14, h15⟩ := hc
  have e1 := nat_four x0 x1 x2 x3 b0 b1 b2 b3 _ _ _ _ (min8 _) (min8 _) (min8 _) (min8 _) h0 h1 h2 h3
  have e2 := nat_four x4 x5 x6 x7 b4 b5 b6 b7 _ _ _ _ (min8 _) (min8 _) (min8 _) (min8 _) h4 h5 h6 h7
  have e3 := nat_four x8 x9 x10 x11 b8 b9 b10 b11 _ _ _ _ (min8 _) (min8 _) (min8 _) (min8 _) h8 h9 h10 h11
  have e4 := nat_four x12 x13 x14 x15 b12 b13 b14 b15 _ _ _ _ (min8 _) (min8 _) (min8 _) (min8 _) h12 h13 h14 h15
  simp only [cutB, List.mapIdx_cons, List.mapIdx_nil, Nat.zero_add, Nat.reduceAdd, natB, List.zipWith_cons_cons, List.zipWith_nil_left, unw, List.take_succ_cons, List.take_zero, List.drop_succ_cons, List.drop_zero]
  rw [e1, e2, e3, e4]
theorem twins_parts {p q : Pf} (h : twins p q = true) : p.ok = true ∧ q.ok = true ∧ p.base.ok = true ∧ q.base.ok = true ∧ p.base.k = q.base.k ∧ p.len = q.len := by
  simp [twins, pairA] at h
  exact ⟨h.1.1.1, h.1.1.2, h.1.2.1.1, h.1.2.1.2, h.1.2.2, h.2⟩
theorem not_zero_base {p : Pf} (h : p.base.ok = true) : ¬ p = Pf.zero := by
  intro e
  rw [e] at h
  exact absurd h (by decide)
theorem base_parts {p : Pf} (h : p.ok = true) (hb : p.base.ok = true) : 0 ≤ p.len ∧ p.len ≤ p.base.bits ∧ p.base.cut p.len = p.base := by
  have hz := not_zero_base hb
  simp [Pf.ok, hz] at h
  exact ⟨h.1.2.1, h.1.2.2, h.2⟩
theorem has_parts {p : Pf} {a : Ad} (h : p.has a = true) (hb : p.base.ok = true) : a.ok = true ∧ p.base.k = a.k ∧ a.cut p.len = p.base := by
  have hz := not_zero_base hb
  simp [Pf.has, hz] at h
  exact ⟨h.1.2, h.2.1, h.2.2⟩
theorem ofA_bytesN {x : Ad} (h : x.ok = true) : ofA x.bytes = x := by
  rcases Ad.ok_kind h with hk | hk
  · have e := Ad.ok_four h hk
    have hh := (Ad.halves h).2.2.2
    rw [bytes_four h hk, ofA_four rfl, be_put32 _ hh]
    exact (Ad.ext_iff' _ _).2 ⟨hk.symm, e.1.symm, e.2.1.symm, e.2.2.symm, rfl⟩
  · rw [bytes_six h hk, ofA_six (Ad.whole_length x), ← hk]
    exact unw_of_ok x h
/-- The translated address, out of the bytes of the three addresses. -/
theorem nat_ofA {p q : Pf} {a : Ad} (h1 : twins p q = true) (h2 : p.has a = true) : natA p q a = ofA (natB a.bytes (a.cut p.len).bytes q.base.bytes) ∧ (a.cut p.len).bytes.length = a.bytes.length ∧ q.base.bytes.length = a.bytes.length := by
  obtain ⟨hp, hq, hpb, hqb, hk, hl⟩ := twins_parts h1
  obtain ⟨ha, hka, hcut⟩ := has_parts h2 hpb
  obtain ⟨l0, l1, l2⟩ := base_parts hp hpb
  obtain ⟨m0, m1, m2⟩ := base_parts hq hqb
  rw [natA_yes h1 h2, hcut]
  have hbits : p.base.bits = a.bits := by simp [Ad.bits, hka]
  have hbitq : q.base.bits = a.bits := by simp [Ad.bits, ← hk, hka]
  rw [← hl] at m2
  rcases Ad.ok_kind ha with h4 | h6
  · have hb32 : a.bits = 32 := by simp [Ad.bits, h4]
    have ea := Ad.ok_four ha h4
    have ep := Ad.ok_four hpb (hka.trans h4)
    have eq := Ad.ok_four hqb (hk.symm.trans (hka.trans h4))
    have c1 := Ad.cut_four (n := p.len) ha h4 l0 (by omega)
    have c2 := Ad.cut_four (n := p.len) hqb (hk.symm.trans (hka.trans h4)) l0 (by omega)
    rw [hcut] at c1
    rw [m2] at c2
    have d1 : p.base.d = be (cutB p.len.toNat (put32 a.d)) := congrArg Ad.d c1
    have d2 : q.base.d = be (cutB p.len.toNat (put32 q.base.d)) := congrArg Ad.d c2
    have b1 : p.base.bytes = cutB p.len.toNat (put32 a.d) := by
      rw [bytes_four hpb (hka.trans h4), d1]
      exact put32_be4 _ (by rw [cutB_length]; rfl)
    have b2 : q.base.bytes = put32 q.base.d := bytes_four hqb (hk.symm.trans (hka.trans h4))
    have b3 : a.bytes = put32 a.d := bytes_four ha h4
    have hc : cutB p.len.toNat (put32 q.base.d) = put32 q.base.d := by
      have := congrArg put32 d2
      rw [put32_be4 _ (by rw [cutB_length]; rfl)] at this
      exact this.symm
    refine ⟨?_, by rw [b1, b3, cutB_length], by rw [b2, b3]; rfl⟩
    have hN := nat_list4 p.len.toNat (put32 a.d) (put32 q.base.d) rfl rfl hc
    rw [b1, b2, b3, ofA_four (natB_length rfl (by rw [cutB_length]; rfl) rfl), hN, be_put32 _ (Ad.halves ha).2.2.2, be_put32 _ (Ad.halves hqb).2.2.2, ← d1]
    refine (Ad.ext_iff' _ _).2 ⟨h4, ?_, ?_, ?_, rfl⟩
    · rw [ea.1, ep.1, eq.1]; rfl
    · rw [ea.2.1, ep.2.1, eq.2.1]; rfl
    · rw [ea.2.2, ep.2.2, eq.2.2]; rfl
  · have hb128 : a.bits = 128 := by simp [Ad.bits, h6]
    have c1 := Ad.cut_six (n := p.len) ha h6 l0 (by omega)
    have c2 := Ad.cut_six (n := p.len) hqb (hk.symm.trans (hka.trans h6)) l0 (by omega)
    rw [hcut] at c1
    rw [m2] at c2
    have b1 : p.base.bytes = cutB p.len.toNat a.whole := by
      rw [bytes_six hpb (hka.trans h6), c1]
      exact whole_unw 6 _ (by rw [cutB_length]; exact Ad.whole_length a)
    have b2 : q.base.bytes = q.base.whole := bytes_six hqb (hk.symm.trans (hka.trans h6))
    have b3 : a.bytes = a.whole := bytes_six ha h6
    have hc : cutB p.len.toNat q.base.whole = q.base.whole := by
      have := congrArg Ad.whole c2
      rw [whole_unw 6 _ (by rw [cutB_length]; exact Ad.whole_length _)] at this
      exact this.symm
    have u1 : unw 6 a.whole = a := by rw [← h6]; exact unw_of_ok a ha
    have u2 : unw 6 q.base.whole = q.base := by
      have := unw_of_ok q.base hqb
      rwa [hk.symm.trans (hka.trans h6)] at this
    have hN := nat_list16 p.len.toNat a.whole q.base.whole (Ad.whole_length a) (Ad.whole_length _) hc
    rw [u1, u2, ← c1] at hN
    refine ⟨?_, by rw [b1, b3, cutB_length], by rw [b2, b3, Ad.whole_length, Ad.whole_length]⟩
    rw [b1, b2, b3, ofA_six (natB_length (Ad.whole_length a) (by rw [cutB_length]; exact Ad.whole_length a) (Ad.whole_length _)), hN]
    exact (Ad.ext_iff' _ _).2 ⟨h6, rfl, rfl, rfl, rfl⟩
theorem natA_ok {p q : Pf} {a : Ad} (h1 : twins p q = true) (h2 : p.has a = true) : (0 ≤ a.a ∧ a.a ≤ 4294967295) ∧ (0 ≤ p.base.a ∧ p.base.a ≤ 4294967295) ∧ (0 ≤ q.base.a ∧ q.base.a ≤ 4294967295) ∧ (0 ≤ a.b ∧ a.b ≤ 4294967295) ∧ (0 ≤ p.base.b ∧ p.base.b ≤ 4294967295) ∧ (0 ≤ q.base.b ∧ q.base.b ≤ 4294967295) ∧ (0 ≤ a.c ∧ a.c ≤ 4294967295) ∧ (0 ≤ p.base.c ∧ p.base.c ≤ 4294967295) ∧ (0 ≤ q.base.c ∧ q.base.c ≤ 4294967295) ∧ (0 ≤ a.d ∧ a.d ≤ 4294967295) ∧ (0 ≤ p.base.d ∧ p.base.d ≤ 4294967295) ∧ (0 ≤ q.base.d ∧ q.base.d ≤ 4294967295) := by
  obtain ⟨hp, hq, hpb, hqb, hk, hl⟩ := twins_parts h1
  obtain ⟨ha, hka, hcut⟩ := has_parts h2 hpb
  obtain ⟨a1, a2, a3, a4⟩ := Ad.halves ha
  obtain ⟨p1, p2, p3, p4⟩ := Ad.halves hpb
  obtain ⟨q1, q2, q3, q4⟩ := Ad.halves hqb
  exact ⟨a1, p1, q1, a2, p2, q2, a3, p3, q3, a4, p4, q4⟩
end Go.Proofs.Ytdndanbalmoklaa
