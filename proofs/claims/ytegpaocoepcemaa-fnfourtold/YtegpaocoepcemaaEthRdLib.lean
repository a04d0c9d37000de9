/-
  What bytes are read as: a head, a body, a code. Plain: nothing here speaks of the program.
-/
import Derived.Test.YtegpaocoepcemaaReader
namespace Go.Proofs.Ytegpaocoepcemaa
open Go.RowKit

/-- The number in the s bytes from place k on. -/
def num (bs : List UInt8) (k s : Nat) : Nat := be ((bs.drop k).take s)
def tagged (bs : List UInt8) : Bool := decide (num bs 12 2 = 33024)
def rdOff (bs : List UInt8) : Nat := if tagged bs then 18 else 14
def rdKind (bs : List UInt8) : Int := if tagged bs then num bs 16 2 else num bs 12 2
def rdTag (bs : List UInt8) : Int := if tagged bs then num bs 14 2 else -1
def rdc (bs : List UInt8) : Int := if 1600 < bs.length then 1 else if bs.length < 14 then 2 else if tagged bs && decide (bs.length < 18) then 3 else if kindOk (rdKind bs) then 0 else 4
def rdx (bs : List UInt8) : Eh := if rdc bs = 0 then ⟨num bs 0 6, num bs 6 6, rdTag bs, rdKind bs⟩ else Eh.zero
def rdb (bs : List UInt8) : List UInt8 := if rdc bs = 0 then bs.drop (rdOff bs) else []
theorem num_lt2 (bs : List UInt8) (k : Nat) : num bs k 2 < 65536 := by
  have h1 := be_lt ((bs.drop k).take 2)
  have h2 : 256 ^ ((bs.drop k).take 2).length ≤ 256 ^ 2 := Nat.pow_le_pow_right (by omega) (List.length_take_le _ _)
  unfold num
  omega
theorem num_lt4 (bs : List UInt8) (k : Nat) : num bs k 4 < 4294967296 := by
  have h1 := be_lt ((bs.drop k).take 4)
  have h2 : 256 ^ ((bs.drop k).take 4).length ≤ 256 ^ 4 := Nat.pow_le_pow_right (by omega) (List.length_take_le _ _)
  unfold num
  omega
theorem num_six (bs : List UInt8) (k : Nat) (h : k + 6 ≤ bs.length) : num bs k 6 = num bs k 2 * 4294967296 + num bs (k + 2) 4 := by
  have e : (bs.drop k).take 6 = (bs.drop k).take 2 ++ (bs.drop (k + 2)).take 4 := by
    rw [show 6 = 2 + 4 from rfl, List.take_add, List.drop_drop]
  have hl : ((bs.drop (k + 2)).take 4).length = 4 := by simp; omega
  unfold num
  rw [e, be_append, hl]
/-- What reading leaves: the frame, its body in memory of its own, the code. -/
def EROut (bs : List UInt8) (w : World) (e : Ending) (w' : World) : Prop :=
  ∃ A c, e = .returned (.tuple #[.agg #[.int .i64 (rdx bs).d, .int .i64 (rdx bs).s, .int .i64 (rdx bs).t, .int .i64 (rdx bs).k, .slice A (rdb bs).length c], .int .i64 (rdc bs)]) ∧ w'.ownsRow w.heap.size 5 1 (.slice A (rdb bs).length c) (rdb bs).length (cellsOf (rdb bs)) ∧ Below w.heap.size w w'
theorem erOut_no {bs : List UInt8} {k : Int} (h : rdc bs = k) (hk : k ≠ 0) {w w' : World} (hb : Below w.heap.size w w') : EROut bs w (.returned (.tuple #[.agg #[.int .i64 Eh.zero.d, .int .i64 Eh.zero.s, .int .i64 Eh.zero.t, .int .i64 Eh.zero.k, .slice none 0 0], .int .i64 k])) w' := by
  have e1 : rdx bs = Eh.zero := by simp [rdx, h, hk]
  have e2 : rdb bs = [] := by simp [rdb, h, hk]
  unfold EROut
  rw [e1, e2, h]
  exact ⟨none, 0, rfl, ⟨rfl, .inl ⟨rfl, rfl⟩⟩, hb⟩
theorem erOut_yes {bs : List UInt8} {x : Eh} {ds : List UInt8} {n : Nat} (h : rdc bs = 0) (hx : rdx bs = x) (hd : rdb bs = ds) (hn : ds.length = n) {w w' : World} {A : Option Addr} {c B : Nat} (ho : w'.ownsRow B 5 1 (.slice A n c) n (cellsOf ds)) (hB : w.heap.size ≤ B) (hb : Below w.heap.size w w') :
    EROut bs w (.returned (.tuple #[.agg #[.int .i64 x.d, .int .i64 x.s, .int .i64 x.t, .int .i64 x.k, .slice A n c], .int .i64 0])) w' := by
  unfold EROut
  rw [hx, hd, h, hn]
  exact ⟨A, c, rfl, own_base ho hB, hb⟩
theorem rdc_long {bs : List UInt8} (h : 1600 < bs.length) : rdc bs = 1 := by simp [rdc, h]
theorem rdc_short {bs : List UInt8} (h : bs.length < 14) : rdc bs = 2 := by simp [rdc, h, show ¬ 1600 < bs.length by omega]
theorem rdc_tag {bs : List UInt8} (h1 : bs.length ≤ 1600) (h2 : 14 ≤ bs.length) (ht : tagged bs = true) (h3 : bs.length < 18) : rdc bs = 3 := by
  simp [rdc, h3, ht, show ¬ 1600 < bs.length by omega, show ¬ bs.length < 14 by omega]
theorem rdc_rest {bs : List UInt8} (h1 : bs.length ≤ 1600) (h2 : 14 ≤ bs.length) (h3 : ¬ (tagged bs = true ∧ bs.length < 18)) : rdc bs = if kindOk (rdKind bs) then 0 else 4 := by
  have e : (tagged bs && decide (bs.length < 18)) = false := by
    cases h : tagged bs
    · simp
    · simp [h] at h3
      simp; omega
  simp [rdc, e, show ¬ 1600 < bs.length by omega, show ¬ bs.length < 14 by omega]
theorem kind_two (n : Nat) (h : n < 65536) : kindOk n = true ↔ 1536 ≤ (n : Int) ∧ (n : Int) ≠ 33024 := by
  simp [kindOk]
  omega
end Go.Proofs.Ytegpaocoepcemaa
