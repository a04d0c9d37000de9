/-
  What bytes are read as: an IPv4 head, options, a body, the rest, a code. Plain: nothing here speaks of the program.
-/
import Derived.Test.YtegpaocoepcemaaFourLib
import Derived.Test.YtegpaocoepcemaaEthRdLib
namespace Go.Proofs.Ytegpaocoepcemaa
open Go.RowKit

def fHead (bs : List UInt8) : Nat := 4 * (num bs 0 1 % 16)
def fx0 (bs : List UInt8) : Fh := ⟨(num bs 1 1 : Int) / 4, (num bs 1 1 : Int) % 4, num bs 4 2, (num bs 6 2 : Int) / 8192, (num bs 6 2 : Int) % 8192, num bs 8 1, num bs 9 1, ⟨4, 0, 0, 0, num bs 12 4⟩, ⟨4, 0, 0, 0, num bs 16 4⟩⟩
def fo0 (bs : List UInt8) : List UInt8 := (bs.drop 20).take (fHead bs - 20)
def fb0 (bs : List UInt8) : List UInt8 := (bs.drop (fHead bs)).take (num bs 2 2 - fHead bs)
def frc (bs : List UInt8) : Int :=
  if 1600 < bs.length then 1 else if bs.length < 20 then 2 else if num bs 0 1 / 16 ≠ 4 then 3 else if fHead bs < 20 ∨ bs.length < fHead bs then 4
  else if num bs 2 2 < fHead bs ∨ 1500 < num bs 2 2 ∨ bs.length < num bs 2 2 then 5 else if (num bs 10 2 : Int) ≠ (fx0 bs).sum (fo0 bs) (num bs 2 2 - fHead bs) then 6 else 0
def frx (bs : List UInt8) : Fh := if frc bs = 0 then fx0 bs else Fh.zero
def fro (bs : List UInt8) : List UInt8 := if frc bs = 0 then fo0 bs else []
def frb (bs : List UInt8) : List UInt8 := if frc bs = 0 then fb0 bs else []
def frr (bs : List UInt8) : List UInt8 := if frc bs = 0 then bs.drop (num bs 2 2) else []
theorem num_lt1 (bs : List UInt8) (k : Nat) : num bs k 1 < 256 := by
  have h1 := be_lt ((bs.drop k).take 1)
  have h2 : 256 ^ ((bs.drop k).take 1).length ≤ 256 ^ 1 := Nat.pow_le_pow_right (by omega) (List.length_take_le _ _)
  unfold num
  omega

/-- What reading leaves: the packet, its options and body, the rest, the code; all in memory of its own. -/
def FROut (bs : List UInt8) (w : World) (e : Ending) (w' : World) : Prop :=
  ∃ A c D d E g, e = .returned (.tuple #[.agg #[.int .i64 (frx bs).dscp, .int .i64 (frx bs).ecn, .int .i64 (frx bs).id, .int .i64 (frx bs).flags, .int .i64 (frx bs).frag, .int .i64 (frx bs).ttl, .int .i64 (frx bs).proto, .int .i64 (frx bs).src.k, .int .i64 (frx bs).src.a, .int .i64 (frx bs).src.b, .int .i64 (frx bs).src.c, .int .i64 (frx bs).src.d, .int .i64 (frx bs).dst.k, .int .i64 (frx bs).dst.a, .int .i64 (frx bs).dst.b, .int .i64 (frx bs).dst.c, .int .i64 (frx bs).dst.d, .slice A (fro bs).length c, .slice D (frb bs).length d], .slice E (frr bs).length g, .int .i64 (frc bs)]) ∧
    w'.ownsRow w.heap.size 5 1 (.slice A (fro bs).length c) (fro bs).length (cellsOf (fro bs)) ∧ w'.ownsRow w.heap.size 5 1 (.slice D (frb bs).length d) (frb bs).length (cellsOf (frb bs)) ∧
    w'.ownsRow w.heap.size 5 1 (.slice E (frr bs).length g) (frr bs).length (cellsOf (frr bs)) ∧
    (∀ k, (Value.slice A (fro bs).length c).ownBlock = some k → (Value.slice D (frb bs).length d).ownBlock ≠ some k) ∧ (∀ k, (Value.slice A (fro bs).length c).ownBlock = some k → (Value.slice E (frr bs).length g).ownBlock ≠ some k) ∧
    (∀ k, (Value.slice D (frb bs).length d).ownBlock = some k → (Value.slice E (frr bs).length g).ownBlock ≠ some k) ∧ Below w.heap.size w w'
theorem frOut_no {bs : List UInt8} {k : Int} (h : frc bs = k) (hk : k ≠ 0) {w w' : World} (hb : Below w.heap.size w w') : FROut bs w (.returned (.tuple #[.agg #[.int .i64 Fh.zero.dscp, .int .i64 Fh.zero.ecn, .int .i64 Fh.zero.id, .int .i64 Fh.zero.flags, .int .i64 Fh.zero.frag, .int .i64 Fh.zero.ttl, .int .i64 Fh.zero.proto, .int .i64 Fh.zero.src.k, .int .i64 Fh.zero.src.a, .int .i64 Fh.zero.src.b, .int .i64 Fh.zero.src.c, .int .i64 Fh.zero.src.d, .int .i64 Fh.zero.dst.k, .int .i64 Fh.zero.dst.a, .int .i64 Fh.zero.dst.b, .int .i64 Fh.zero.dst.c, .int .i64 Fh.zero.dst.d, .slice none 0 0, .slice none 0 0], .slice none 0 0, .int .i64 k])) w' := by
  have e1 : frx bs = Fh.zero := by simp [frx, h, hk]
  have e2 : fro bs = [] := by simp [fro, h, hk]
  have e3 : frb bs = [] := by simp [frb, h, hk]
  have e4 : frr bs = [] := by simp [frr, h, hk]
  unfold FROut
  rw [e1, e2, e3, e4, h]
  exact ⟨none, 0, none, 0, none, 0, rfl, ⟨rfl, .inl ⟨rfl, rfl⟩⟩, ⟨rfl, .inl ⟨rfl, rfl⟩⟩, ⟨rfl, .inl ⟨rfl, rfl⟩⟩, (fun _ h => by cases h), (fun _ h => by cases h), (fun _ h => by cases h), hb⟩
theorem frOut_yes {bs : List UInt8} {x : Fh} {os ds rs : List UInt8} {n m l : Nat} (h : frc bs = 0) (hx : fx0 bs = x) (ho : fo0 bs = os) (hd : fb0 bs = ds) (hr : bs.drop (num bs 2 2) = rs) (hn : os.length = n) (hm : ds.length = m) (hl : rs.length = l) {w w' : World} {A D E : Option Addr} {c d g : Nat}
    (oA : w'.ownsRow w.heap.size 5 1 (.slice A n c) n (cellsOf os)) (oD : w'.ownsRow w.heap.size 5 1 (.slice D m d) m (cellsOf ds)) (oE : w'.ownsRow w.heap.size 5 1 (.slice E l g) l (cellsOf rs))
    (h1 : ∀ k, (Value.slice A n c).ownBlock = some k → (Value.slice D m d).ownBlock ≠ some k) (h2 : ∀ k, (Value.slice A n c).ownBlock = some k → (Value.slice E l g).ownBlock ≠ some k) (h3 : ∀ k, (Value.slice D m d).ownBlock = some k → (Value.slice E l g).ownBlock ≠ some k)
    (hb : Below w.heap.size w w') : FROut bs w (.returned (.tuple #[.agg #[.int .i64 x.dscp, .int .i64 x.ecn, .int .i64 x.id, .int .i64 x.flags, .int .i64 x.frag, .int .i64 x.ttl, .int .i64 x.proto, .int .i64 x.src.k, .int .i64 x.src.a, .int .i64 x.src.b, .int .i64 x.src.c, .int .i64 x.src.d, .int .i64 x.dst.k, .int .i64 x.dst.a, .int .i64 x.dst.b, .int .i64 x.dst.c, .int .i64 x.dst.d, .slice A n c, .slice D m d], .slice E l g, .int .i64 0])) w' := by
  have e1 : frx bs = x := by simp [frx, h, hx]
  have e2 : fro bs = os := by simp [fro, h, ho]
  have e3 : frb bs = ds := by simp [frb, h, hd]
  have e4 : frr bs = rs := by simp [frr, h, hr]
  unfold FROut
  rw [e1, e2, e3, e4, h, hn, hm, hl]
  exact ⟨A, c, D, d, E, g, rfl, oA, oD, oE, h1, h2, h3, hb⟩
end Go.Proofs.Ytegpaocoepcemaa
