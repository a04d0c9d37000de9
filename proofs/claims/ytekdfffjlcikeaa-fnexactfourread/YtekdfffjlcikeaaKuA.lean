/-
  What bytes are read as: an IPv4 head, options, a body, the rest, a code. Plain: nothing here speaks of the program. What the program reads behind the length of an IPv4 head. An IPv4 packet is read by the program: what fourOf answers. An IPv4 packet is read by the program: its checksum.
-/
import Derived.Test.YtekdfffjlcikeaaFourLib
import Derived.Test.YtekdfffjlcikeaaEthRdLib
import Derived.Test.YtekdfffjlcikeaaPReader
import Derived.Test.YtekdfffjlcikeaaFourReg
import Derived.Deep.Cut
import Derived.Test.YtekdfffjlcikeaaFourSum
namespace Go.Proofs.Ytekdfffjlcikeaa
open Go.RowKit

def fHead (bs : List UInt8) : Nat := 4 * (num bs 0 1 % 16)
def fx0 (bs : List UInt8) : Fh := ⟨(num bs 1 1 : Int) / 4, (num bs 1 1 : Int) % 4, num bs 4 2, (num bs 6 2 : Int) / 8192, (num bs 6 2 : Int) % 8192, num bs 8 1, num bs 9 1, ⟨4, 0, 0, 0, num bs 12 4⟩, ⟨4, 0, 0, 0, num bs 16 4⟩⟩
def fo0 (bs : List UInt8) : List UInt8 := (bs.drop 20).take (fHead bs - 20)
def fb0 (bs : List UInt8) : List UInt8 := (bs.drop (fHead bs)).take (num bs 2 2 - fHead bs)
def frc (bs : List UInt8) : Int :=
  if 1600 < bs.length then 1 else if bs.length < 20 then 2 else if num bs 0 1 / 16 ≠ 4 then 3 else if fHead bs < 20 ∨ bs.length < fHead bs then 4
  else if num bs 2 2 < fHead bs ∨ 1500 < num bs 2 2 ∨ bs.length < num bs 2 2 then 5 else if (num bs 10 2 : Int) ≠ (fx0 bs).sum (fo0 bs) (num bs 2 2 - fHead bs) then 6 else 0
def frx (bs : List UInt8) : Fh := if frc bs = 0 then fx0 bs else Fh.zero
def fro (bs : List UInt8) : List UInt8 := if frc bs = 0 then fo0 bs else []
def frb (bs : List UInt8) : List UInt8 := if frc bs = 0 then fb0 bs else []
def frr (bs : List UInt8) : List UInt8 := if frc bs = 0 then bs.drop (num bs 2 2) else []
theorem num_lt1 (bs : List UInt8) (k : Nat) : num bs k 1 < 256 := by
  have h1 := be_lt ((bs.drop k).take 1)
  have h2 : 256 ^ ((bs.drop k).take 1).length ≤ 256 ^ 1 := Nat.pow_le_pow_right (by omega) (List.length_take_le _ _)
  unfold num
  omega

/-- What reading leaves: the packet, its options and body, the rest, the code; all in memory of its own. -/
def FROut (bs : List UInt8) (w : World) (e : Ending) (w' : World) : Prop :=
  ∃ A c D d E g, e = .returned (.tuple #[.agg #[.int .i64 (frx bs).dscp, .int .i64 (frx bs).ecn, .int .i64 (frx bs).id, .int .i64 (frx bs).flags, .int .i64 (frx bs).frag, .int .i64 (frx bs).ttl, .int .i64 (frx bs).proto, .int .i64 (frx bs).src.k, .int .i64 (frx bs).src.a, .int .i64 (frx bs).src.b, .int .i64 (frx bs).src.c, .int .i64 (frx bs).src.d, .int .i64 (frx bs).dst.k, .int .i64 (frx bs).dst.a, .int .i64 (frx bs).dst.b, .int .i64 (frx bs).dst.c, .int .i64 (frx bs).dst.d, .slice A (fro bs).length c, .slice D (frb bs).length d], .slice E (frr bs).length g, .int .i64 (frc bs)]) ∧
    w'.ownsRow w.heap.size 5 1 (.slice A (fro bs).length c) (fro bs).length (cellsOf (fro bs)) ∧ w'.ownsRow w.heap.size 5 1 (.slice D (frb bs).length d) (frb bs).length (cellsOf (frb bs)) ∧
    w'.ownsRow w.heap.size 5 1 (.slice E (frr bs).length g) (frr bs).length (cellsOf (frr bs)) ∧
    (∀ k, (Value.slice A (fro bs).length c).ownBlock = some k → (Value.slice D (frb bs).length d).ownBlock ≠ some k) ∧ (∀ k, (Value.slice A (fro bs).length c).ownBlock = some k → (Value.slice E (frr bs).length g).ownBlock ≠ some k) ∧
    (∀ k, (Value.slice D (frb bs).length d).ownBlock = some k → (Value.slice E (frr bs).length g).ownBlock ≠ some k) ∧ Below w.heap.size w w'
theorem frOut_no {bs : List UInt8} {k : Int} (h : frc bs = k) (hk : k ≠ 0) {w w' : World} (hb : Below w.heap.size w w') : FROut bs w (.returned (.tuple #[.agg #[.int .i64 Fh.zero.dscp, .int .i64 Fh.zero.ecn, .int .i64 Fh.zero.id, .int .i64 Fh.zero.flags, .int .i64 Fh.zero.frag, .int .i64 Fh.zero.ttl, .int .i64 Fh.zero.proto, .int .i64 Fh.zero.src.k, .int .i64 Fh.zero.src.a, .int .i64 Fh.zero.src.b, .int .i64 Fh.zero.src.c, .int .i64 Fh.zero.src.d, .int .i64 Fh.zero.dst.k, .int .i64 Fh.zero.dst.a, .int .i64 Fh.zero.dst.b, .int .i64 Fh.zero.dst.c, .int .i64 Fh.zero.dst.d, .slice none 0 0, .slice none 0 0], .slice none 0 0, .int .i64 k])) w' := by
  have e1 : frx bs = Fh.zero := by simp [frx, h, hk]
  have e2 : fro bs = [] := by simp [fro, h, hk]
  have e3 : frb bs = [] := by simp [frb, h, hk]
  have e4 : frr bs = [] := by simp [frr, h, hk]
  unfold FROut
  rw [e1, e2, e3, e4, h]
  exact ⟨none, 0, none, 0, none, 0, rfl, ⟨rfl, .inl ⟨rfl, rfl⟩⟩, ⟨rfl, .inl ⟨rfl, rfl⟩⟩, ⟨rfl, .inl ⟨rfl, rfl⟩⟩, (fun _ h => by cases h), (fun _ h => by cases h), (fun _ h => by cases h), hb⟩
theorem frOut_yes {bs : List UInt8} {x : Fh} {os ds rs : List UInt8} {n m l : Nat} (h : frc bs = 0) (hx : fx0 bs = x) (ho : fo0 bs = os) (hd : fb0 bs = ds) (hr : bs.drop (num bs 2 2) = rs) (hn : os.length = n) (hm : ds.length = m) (hl : rs.length = l) {w w' : World} {A D E : Option Addr} {c d g : Nat}
    (oA : w'.ownsRow w.heap.size 5 1 (.slice A n c) n (cellsOf os)) (oD : w'.ownsRow w.heap.size 5 1 (.slice D m d) m (cellsOf ds)) (oE : w'.ownsRow w.heap.size 5 1 (.slice E l g) l (cellsOf rs))
    (h1 : ∀ k, (Value.slice A n c).ownBlock = some k → (Value.slice D m d).ownBlock ≠ some k) (h2 : ∀ k, (Value.slice A n c).ownBlock = some k → (Value.slice E l g).ownBlock ≠ some k) (h3 : ∀ k, (Value.slice D m d).ownBlock = some k → (Value.slice E l g).ownBlock ≠ some k)
    (hb : Below w.heap.size w w') : FROut bs w (.returned (.tuple #[.agg #[.int .i64 x.dscp, .int .i64 x.ecn, .int .i64 x.id, .int .i64 x.flags, .int .i64 x.frag, .int .i64 x.ttl, .int .i64 x.proto, .int .i64 x.src.k, .int .i64 x.src.a, .int .i64 x.src.b, .int .i64 x.src.c, .int .i64 x.src.d, .int .i64 x.dst.k, .int .i64 x.dst.a, .int .i64 x.dst.b, .int .i64 x.dst.c, .int .i64 x.dst.d, .slice A n c, .slice D m d], .slice E l g, .int .i64 0])) w' := by
  have e1 : frx bs = x := by simp [frx, h, hx]
  have e2 : fro bs = os := by simp [fro, h, ho]
  have e3 : frb bs = ds := by simp [frb, h, hd]
  have e4 : frr bs = rs := by simp [frr, h, hr]
  unfold FROut
  rw [e1, e2, e3, e4, h, hn, hm, hl]
  exact ⟨A, c, D, d, E, g, rfl, oA, oD, oE, h1, h2, h3, hb⟩
end Go.Proofs.Ytekdfffjlcikeaa

namespace Go.Proofs.Ytekdfffjlcikeaa
open Go.RowKit

set_option maxRecDepth 100000 in
set_option maxHeartbeats 4000000 in
theorem afterC (w : World) (g : Nat) (a : Addr) (n c : Nat) (bs : List UInt8) (y : Fh) (A D : Option Addr) (n1 c1 m1 d1 : Nat) (v4 v6 v8 v9 v10 v12 v16 : Nat) (h : Rp w g (some a) n c bs 4) (hn : 20 ≤ n)
    (e4 : num bs 4 2 = v4) (e6 : num bs 6 2 = v6) (e8 : num bs 8 1 = v8) (e9 : num bs 9 1 = v9) (e10 : num bs 10 2 = v10) (e12 : num bs 12 4 = v12) (e16 : num bs 16 4 = v16) :
    Calls Try.prog 67 #[.pointer (some ⟨g, 0, none⟩), .agg #[.int .i64 y.dscp, .int .i64 y.ecn, .int .i64 y.id, .int .i64 y.flags, .int .i64 y.frag, .int .i64 y.ttl, .int .i64 y.proto, .int .i64 y.src.k, .int .i64 y.src.a, .int .i64 y.src.b, .int .i64 y.src.c, .int .i64 y.src.d, .int .i64 y.dst.k, .int .i64 y.dst.a, .int .i64 y.dst.b, .int .i64 y.dst.c, .int .i64 y.dst.d, .slice A n1 c1, .slice D m1 d1]] w fun e w' => e = .returned (.tuple #[.agg #[.int .i64 y.dscp, .int .i64 y.ecn, .int .i64 (v4 : Int), .int .i64 ((v6 : Int) / 8192), .int .i64 ((v6 : Int) % 8192), .int .i64 (v8 : Int), .int .i64 (v9 : Int), .int .i64 4, .int .i64 0, .int .i64 0, .int .i64 0, .int .i64 (v12 : Int), .int .i64 4, .int .i64 0, .int .i64 0, .int .i64 0, .int .i64 (v16 : Int), .slice A n1 c1, .slice D m1 d1], .int .i64 (v10 : Int)]) ∧ Rp w' g (some a) n c bs 20 ∧ w.grownBy w' (some g) := by
  have hb6 : v6 < 65536 := by rw [← e6]; exact num_lt2 bs 6
  have hgl := h.lt
  have h0 := Lib.hid (h.below (Joins.below_alloc2 w (.cells #[.int .i64 y.dscp, .int .i64 y.ecn, .int .i64 y.id, .int .i64 y.flags, .int .i64 y.frag, .int .i64 y.ttl, .int .i64 y.proto, .int .i64 y.src.k, .int .i64 y.src.a, .int .i64 y.src.b, .int .i64 y.src.c, .int .i64 y.src.d, .int .i64 y.dst.k, .int .i64 y.dst.a, .int .i64 y.dst.b, .int .i64 y.dst.c, .int .i64 y.dst.d, .slice A n1 c1, .slice D m1 d1] 31) (.cells #[.int .i64 0, .int .i64 0, .int .i64 0, .int .i64 0, .int .i64 0, .int .i64 0, .int .i64 0, .int .i64 0, .int .i64 0, .int .i64 0, .int .i64 0, .int .i64 0, .int .i64 0, .int .i64 0, .int .i64 0, .int .i64 0, .int .i64 0, .slice none 0 0, .slice none 0 0] 31)))
  have q0 := Lib.hid (show ((w.alloc (.cells #[.int .i64 y.dscp, .int .i64 y.ecn, .int .i64 y.id, .int .i64 y.flags, .int .i64 y.frag, .int .i64 y.ttl, .int .i64 y.proto, .int .i64 y.src.k, .int .i64 y.src.a, .int .i64 y.src.b, .int .i64 y.src.c, .int .i64 y.src.d, .int .i64 y.dst.k, .int .i64 y.dst.a, .int .i64 y.dst.b, .int .i64 y.dst.c, .int .i64 y.dst.d, .slice A n1 c1, .slice D m1 d1] 31)).alloc (.cells #[.int .i64 0, .int .i64 0, .int .i64 0, .int .i64 0, .int .i64 0, .int .i64 0, .int .i64 0, .int .i64 0, .int .i64 0, .int .i64 0, .int .i64 0, .int .i64 0, .int .i64 0, .int .i64 0, .int .i64 0, .int .i64 0, .int .i64 0, .slice none 0 0, .slice none 0 0] 31)).heap[w.heap.size]? = some (.cells #[.int .i64 y.dscp, .int .i64 y.ecn, .int .i64 y.id, .int .i64 y.flags, .int .i64 y.frag, .int .i64 y.ttl, .int .i64 y.proto, .int .i64 y.src.k, .int .i64 y.src.a, .int .i64 y.src.b, .int .i64 y.src.c, .int .i64 y.src.d, .int .i64 y.dst.k, .int .i64 y.dst.a, .int .i64 y.dst.b, .int .i64 y.dst.c, .int .i64 y.dst.d, .slice A n1 c1, .slice D m1 d1] 31 (0, 0)) from (by repeat (first | exact K.newAt (by first | rfl | (simp; done)) | refine K.oldAt (by first | (simp; done) | (simp; omega)) ?_)))
  have z0 := Lib.hid (show ((w.alloc (.cells #[.int .i64 y.dscp, .int .i64 y.ecn, .int .i64 y.id, .int .i64 y.flags, .int .i64 y.frag, .int .i64 y.ttl, .int .i64 y.proto, .int .i64 y.src.k, .int .i64 y.src.a, .int .i64 y.src.b, .int .i64 y.src.c, .int .i64 y.src.d, .int .i64 y.dst.k, .int .i64 y.dst.a, .int .i64 y.dst.b, .int .i64 y.dst.c, .int .i64 y.dst.d, .slice A n1 c1, .slice D m1 d1] 31)).alloc (.cells #[.int .i64 0, .int .i64 0, .int .i64 0, .int .i64 0, .int .i64 0, .int .i64 0, .int .i64 0, .int .i64 0, .int .i64 0, .int .i64 0, .int .i64 0, .int .i64 0, .int .i64 0, .int .i64 0, .int .i64 0, .int .i64 0, .int .i64 0, .slice none 0 0, .slice none 0 0] 31)).heap[w.heap.size + 1]? = some (.cells #[.int .i64 0, .int .i64 0, .int .i64 0, .int .i64 0, .int .i64 0, .int .i64 0, .int .i64 0, .int .i64 0, .int .i64 0, .int .i64 0, .int .i64 0, .int .i64 0, .int .i64 0, .int .i64 0, .int .i64 0, .int .i64 0, .int .i64 0, .slice none 0 0, .slice none 0 0] 31 (0, 0)) from (by repeat (first | exact K.newAt (by first | rfl | (simp; done)) | refine K.oldAt (by first | (simp; done) | (simp; omega)) ?_)))
  have G0 := Lib.hid (show w.grownBy ((w.alloc (.cells #[.int .i64 y.dscp, .int .i64 y.ecn, .int .i64 y.id, .int .i64 y.flags, .int .i64 y.frag, .int .i64 y.ttl, .int .i64 y.proto, .int .i64 y.src.k, .int .i64 y.src.a, .int .i64 y.src.b, .int .i64 y.src.c, .int .i64 y.src.d, .int .i64 y.dst.k, .int .i64 y.dst.a, .int .i64 y.dst.b, .int .i64 y.dst.c, .int .i64 y.dst.d, .slice A n1 c1, .slice D m1 d1] 31)).alloc (.cells #[.int .i64 0, .int .i64 0, .int .i64 0, .int .i64 0, .int .i64 0, .int .i64 0, .int .i64 0, .int .i64 0, .int .i64 0, .int .i64 0, .int .i64 0, .int .i64 0, .int .i64 0, .int .i64 0, .int .i64 0, .int .i64 0, .int .i64 0, .slice none 0 0, .slice none 0 0] 31)) (some g) from only_new (only_new (K.refl w _) _) _)
  have E := Lib.hid (And.intro e4 (And.intro e6 (And.intro e8 (And.intro e9 (And.intro e10 (And.intro e12 e16))))))
  clear h e4 e6 e8 e9 e10 e12 e16
  go_enter Try.func67, Try.ntmps67
  go_wp2_with fail
  refine Calls.mono (numberP _ g (some a) n c bs 4 2 v4 E.out.1 h0.out (by omega) (by omega) (by omega)) ?_
  rintro e w1 ⟨rfl, r1, g1⟩
  have p1 := Lib.hid (K.kept g1 q0.out (fun k hk => by cases hk; omega))
  have y1 := Lib.hid (K.kept g1 z0.out (fun k hk => by cases hk; omega))
  have F1 := Lib.hid (grownBy_trans G0.out g1)
  have S1 := Lib.hid r1
  clear r1 g1
  have u2 := K.cell p1.out 2 _ rfl
  have x2 := frozen_of_row _ _ 2 _ _ p1.out
  go_wp2_with fail
  clear u2 x2
  have GS1 := Lib.hid (K.setFrom_self [.int .i64 (v4 : Int)] w1 w.heap.size 2)
  have q1 : Hid ((K.setFrom w1 w.heap.size 2 [.int .i64 (v4 : Int)]).heap[w.heap.size]? = some (.cells #[.int .i64 y.dscp, .int .i64 y.ecn, .int .i64 (v4 : Int), .int .i64 y.flags, .int .i64 y.frag, .int .i64 y.ttl, .int .i64 y.proto, .int .i64 y.src.k, .int .i64 y.src.a, .int .i64 y.src.b, .int .i64 y.src.c, .int .i64 y.src.d, .int .i64 y.dst.k, .int .i64 y.dst.a, .int .i64 y.dst.b, .int .i64 y.dst.c, .int .i64 y.dst.d, .slice A n1 c1, .slice D m1 d1] 31 (0, 0))) := Lib.hid (K.set (p1.out) 2 (.int .i64 (v4 : Int)))
  have z1 := Lib.hid (K.setFrom_other [.int .i64 (v4 : Int)] 2 y1.out (show w.heap.size + 1 ≠ w.heap.size by omega))
  have G1 := Lib.hid (grown_other F1.out GS1.out (fun u hu => by cases hu; exact Nat.le_refl _))
  have h1 := Lib.hid (S1.out.away GS1.out (fun q hq => by cases hq; exact hgl))
  refine Calls.mono (splitP_13 _ g (some a) n c bs 6 2 v6 E.out.2.1 hb6 h1.out (by omega) (by omega) (by omega)) ?_
  rintro e w2 ⟨rfl, r2, g2⟩
  have p2 := Lib.hid (K.kept g2 q1.out (fun k hk => by cases hk; omega))
  have y2 := Lib.hid (K.kept g2 z1.out (fun k hk => by cases hk; omega))
  have F2 := Lib.hid (grownBy_trans G1.out g2)
  have S2 := Lib.hid r2
  clear r2 g2
  have u3 := K.cell p2.out 3 _ rfl
  have x3 := frozen_of_row _ _ 3 _ _ p2.out
  have u4 := K.cell p2.out 4 _ rfl
  have x4 := frozen_of_row _ _ 4 _ _ p2.out
  go_wp2_with fail
  clear u3 x3 u4 x4
  have GS2 := Lib.hid (K.setFrom_self [.int .i64 ((v6 : Int) / 8192), .int .i64 ((v6 : Int) % 8192)] w2 w.heap.size 3)
  have q2 : Hid ((K.setFrom w2 w.heap.size 3 [.int .i64 ((v6 : Int) / 8192), .int .i64 ((v6 : Int) % 8192)]).heap[w.heap.size]? = some (.cells #[.int .i64 y.dscp, .int .i64 y.ecn, .int .i64 (v4 : Int), .int .i64 ((v6 : Int) / 8192), .int .i64 ((v6 : Int) % 8192), .int .i64 y.ttl, .int .i64 y.proto, .int .i64 y.src.k, .int .i64 y.src.a, .int .i64 y.src.b, .int .i64 y.src.c, .int .i64 y.src.d, .int .i64 y.dst.k, .int .i64 y.dst.a, .int .i64 y.dst.b, .int .i64 y.dst.c, .int .i64 y.dst.d, .slice A n1 c1, .slice D m1 d1] 31 (0, 0))) := Lib.hid (K.set (K.set (p2.out) 3 (.int .i64 ((v6 : Int) / 8192))) 4 (.int .i64 ((v6 : Int) % 8192)))
  have z2 := Lib.hid (K.setFrom_other [.int .i64 ((v6 : Int) / 8192), .int .i64 ((v6 : Int) % 8192)] 3 y2.out (show w.heap.size + 1 ≠ w.heap.size by omega))
  have G2 := Lib.hid (grown_other F2.out GS2.out (fun u hu => by cases hu; exact Nat.le_refl _))
  have h2 := Lib.hid (S2.out.away GS2.out (fun q hq => by cases hq; exact hgl))
  refine Calls.mono (numberP _ g (some a) n c bs 8 1 v8 E.out.2.2.1 h2.out (by omega) (by omega) (by omega)) ?_
  rintro e w3 ⟨rfl, r3, g3⟩
  have p3 := Lib.hid (K.kept g3 q2.out (fun k hk => by cases hk; omega))
  have y3 := Lib.hid (K.kept g3 z2.out (fun k hk => by cases hk; omega))
  have F3 := Lib.hid (grownBy_trans G2.out g3)
  have S3 := Lib.hid r3
  clear r3 g3
  have u5 := K.cell p3.out 5 _ rfl
  have x5 := frozen_of_row _ _ 5 _ _ p3.out
  go_wp2_with fail
  clear u5 x5
  have GS3 := Lib.hid (K.setFrom_self [.int .i64 (v8 : Int)] w3 w.heap.size 5)
  have q3 : Hid ((K.setFrom w3 w.heap.size 5 [.int .i64 (v8 : Int)]).heap[w.heap.size]? = some (.cells #[.int .i64 y.dscp, .int .i64 y.ecn, .int .i64 (v4 : Int), .int .i64 ((v6 : Int) / 8192), .int .i64 ((v6 : Int) % 8192), .int .i64 (v8 : Int), .int .i64 y.proto, .int .i64 y.src.k, .int .i64 y.src.a, .int .i64 y.src.b, .int .i64 y.src.c, .int .i64 y.src.d, .int .i64 y.dst.k, .int .i64 y.dst.a, .int .i64 y.dst.b, .int .i64 y.dst.c, .int .i64 y.dst.d, .slice A n1 c1, .slice D m1 d1] 31 (0, 0))) := Lib.hid (K.set (p3.out) 5 (.int .i64 (v8 : Int)))
  have z3 := Lib.hid (K.setFrom_other [.int .i64 (v8 : Int)] 5 y3.out (show w.heap.size + 1 ≠ w.heap.size by omega))
  have G3 := Lib.hid (grown_other F3.out GS3.out (fun u hu => by cases hu; exact Nat.le_refl _))
  have h3 := Lib.hid (S3.out.away GS3.out (fun q hq => by cases hq; exact hgl))
  refine Calls.mono (numberP _ g (some a) n c bs 9 1 v9 E.out.2.2.2.1 h3.out (by omega) (by omega) (by omega)) ?_
  rintro e w4 ⟨rfl, r4, g4⟩
  have p4 := Lib.hid (K.kept g4 q3.out (fun k hk => by cases hk; omega))
  have y4 := Lib.hid (K.kept g4 z3.out (fun k hk => by cases hk; omega))
  have F4 := Lib.hid (grownBy_trans G3.out g4)
  have S4 := Lib.hid r4
  clear r4 g4
  have u6 := K.cell p4.out 6 _ rfl
  have x6 := frozen_of_row _ _ 6 _ _ p4.out
  go_wp2_with fail
  clear u6 x6
  have GS4 := Lib.hid (K.setFrom_self [.int .i64 (v9 : Int)] w4 w.heap.size 6)
  have q4 : Hid ((K.setFrom w4 w.heap.size 6 [.int .i64 (v9 : Int)]).heap[w.heap.size]? = some (.cells #[.int .i64 y.dscp, .int .i64 y.ecn, .int .i64 (v4 : Int), .int .i64 ((v6 : Int) / 8192), .int .i64 ((v6 : Int) % 8192), .int .i64 (v8 : Int), .int .i64 (v9 : Int), .int .i64 y.src.k, .int .i64 y.src.a, .int .i64 y.src.b, .int .i64 y.src.c, .int .i64 y.src.d, .int .i64 y.dst.k, .int .i64 y.dst.a, .int .i64 y.dst.b, .int .i64 y.dst.c, .int .i64 y.dst.d, .slice A n1 c1, .slice D m1 d1] 31 (0, 0))) := Lib.hid (K.set (p4.out) 6 (.int .i64 (v9 : Int)))
  have z4 := Lib.hid (K.setFrom_other [.int .i64 (v9 : Int)] 6 y4.out (show w.heap.size + 1 ≠ w.heap.size by omega))
  have G4 := Lib.hid (grown_other F4.out GS4.out (fun u hu => by cases hu; exact Nat.le_refl _))
  have h4 := Lib.hid (S4.out.away GS4.out (fun q hq => by cases hq; exact hgl))
  refine Calls.mono (numberP _ g (some a) n c bs 10 2 v10 E.out.2.2.2.2.1 h4.out (by omega) (by omega) (by omega)) ?_
  rintro e w5 ⟨rfl, r5, g5⟩
  have p5 := Lib.hid (K.kept g5 q4.out (fun k hk => by cases hk; omega))
  have y5 := Lib.hid (K.kept g5 z4.out (fun k hk => by cases hk; omega))
  have F5 := Lib.hid (grownBy_trans G4.out g5)
  have S5 := Lib.hid r5
  clear r5 g5
  have q5 := p5
  have z5 := y5
  have G5 := F5
  have h5 := S5
  go_wp2_with fail
  refine Calls.mono (addrP _ g a n c bs 12 v12 E.out.2.2.2.2.2.1 h5.out (by omega)) ?_
  rintro e w6 ⟨rfl, r6, g6⟩
  have p6 := Lib.hid (K.kept g6 q5.out (fun k hk => by cases hk; omega))
  have y6 := Lib.hid (K.kept g6 z5.out (fun k hk => by cases hk; omega))
  have F6 := Lib.hid (grownBy_trans G5.out g6)
  have S6 := Lib.hid r6
  clear r6 g6
  have u7 := K.cell p6.out 7 _ rfl
  have x7 := frozen_of_row _ _ 7 _ _ p6.out
  have u8 := K.cell p6.out 8 _ rfl
  have x8 := frozen_of_row _ _ 8 _ _ p6.out
  have u9 := K.cell p6.out 9 _ rfl
  have x9 := frozen_of_row _ _ 9 _ _ p6.out
  have u10 := K.cell p6.out 10 _ rfl
  have x10 := frozen_of_row _ _ 10 _ _ p6.out
  have u11 := K.cell p6.out 11 _ rfl
  have x11 := frozen_of_row _ _ 11 _ _ p6.out
  go_wp2_with fail
  clear u7 x7 u8 x8 u9 x9 u10 x10 u11 x11
  have GS6 := Lib.hid (K.setFrom_self [.int .i64 4, .int .i64 0, .int .i64 0, .int .i64 0, .int .i64 (v12 : Int)] w6 w.heap.size 7)
  have q6 : Hid ((K.setFrom w6 w.heap.size 7 [.int .i64 4, .int .i64 0, .int .i64 0, .int .i64 0, .int .i64 (v12 : Int)]).heap[w.heap.size]? = some (.cells #[.int .i64 y.dscp, .int .i64 y.ecn, .int .i64 (v4 : Int), .int .i64 ((v6 : Int) / 8192), .int .i64 ((v6 : Int) % 8192), .int .i64 (v8 : Int), .int .i64 (v9 : Int), .int .i64 4, .int .i64 0, .int .i64 0, .int .i64 0, .int .i64 (v12 : Int), .int .i64 y.dst.k, .int .i64 y.dst.a, .int .i64 y.dst.b, .int .i64 y.dst.c, .int .i64 y.dst.d, .slice A n1 c1, .slice D m1 d1] 31 (0, 0))) := Lib.hid (K.set (K.set (K.set (K.set (K.set (p6.out) 7 (.int .i64 4)) 8 (.int .i64 0)) 9 (.int .i64 0)) 10 (.int .i64 0)) 11 (.int .i64 (v12 : Int)))
  have z6 := Lib.hid (K.setFrom_other [.int .i64 4, .int .i64 0, .int .i64 0, .int .i64 0, .int .i64 (v12 : Int)] 7 y6.out (show w.heap.size + 1 ≠ w.heap.size by omega))
  have G6 := Lib.hid (grown_other F6.out GS6.out (fun u hu => by cases hu; exact Nat.le_refl _))
  have h6 := Lib.hid (S6.out.away GS6.out (fun q hq => by cases hq; exact hgl))
  refine Calls.mono (addrP _ g a n c bs 16 v16 E.out.2.2.2.2.2.2 h6.out (by omega)) ?_
  rintro e w7 ⟨rfl, r7, g7⟩
  have p7 := Lib.hid (K.kept g7 q6.out (fun k hk => by cases hk; omega))
  have y7 := Lib.hid (K.kept g7 z6.out (fun k hk => by cases hk; omega))
  have F7 := Lib.hid (grownBy_trans G6.out g7)
  have S7 := Lib.hid r7
  clear r7 g7
  have u12 := K.cell p7.out 12 _ rfl
  have x12 := frozen_of_row _ _ 12 _ _ p7.out
  have u13 := K.cell p7.out 13 _ rfl
  have x13 := frozen_of_row _ _ 13 _ _ p7.out
  have u14 := K.cell p7.out 14 _ rfl
  have x14 := frozen_of_row _ _ 14 _ _ p7.out
  have u15 := K.cell p7.out 15 _ rfl
  have x15 := frozen_of_row _ _ 15 _ _ p7.out
  have u16 := K.cell p7.out 16 _ rfl
  have x16 := frozen_of_row _ _ 16 _ _ p7.out
  have GS7 := Lib.hid (K.setFrom_self [.int .i64 4, .int .i64 0, .int .i64 0, .int .i64 0, .int .i64 (v16 : Int)] w7 w.heap.size 12)
  have q7 : Hid ((((((w7.setCell ⟨w.heap.size, 12, none⟩ (.int .i64 4)).setCell ⟨w.heap.size, 13, none⟩ (.int .i64 0)).setCell ⟨w.heap.size, 14, none⟩ (.int .i64 0)).setCell ⟨w.heap.size, 15, none⟩ (.int .i64 0)).setCell ⟨w.heap.size, 16, none⟩ (.int .i64 (v16 : Int))).heap[w.heap.size]? = some (.cells #[.int .i64 y.dscp, .int .i64 y.ecn, .int .i64 (v4 : Int), .int .i64 ((v6 : Int) / 8192), .int .i64 ((v6 : Int) % 8192), .int .i64 (v8 : Int), .int .i64 (v9 : Int), .int .i64 4, .int .i64 0, .int .i64 0, .int .i64 0, .int .i64 (v12 : Int), .int .i64 4, .int .i64 0, .int .i64 0, .int .i64 0, .int .i64 (v16 : Int), .slice A n1 c1, .slice D m1 d1] 31 (0, 0))) := Lib.hid (K.set (K.set (K.set (K.set (K.set (p7.out) 12 (.int .i64 4)) 13 (.int .i64 0)) 14 (.int .i64 0)) 15 (.int .i64 0)) 16 (.int .i64 (v16 : Int)))
  have z7 : Hid ((((((w7.setCell ⟨w.heap.size, 12, none⟩ (.int .i64 4)).setCell ⟨w.heap.size, 13, none⟩ (.int .i64 0)).setCell ⟨w.heap.size, 14, none⟩ (.int .i64 0)).setCell ⟨w.heap.size, 15, none⟩ (.int .i64 0)).setCell ⟨w.heap.size, 16, none⟩ (.int .i64 (v16 : Int))).heap[w.heap.size + 1]? = some (.cells #[.int .i64 0, .int .i64 0, .int .i64 0, .int .i64 0, .int .i64 0, .int .i64 0, .int .i64 0, .int .i64 0, .int .i64 0, .int .i64 0, .int .i64 0, .int .i64 0, .int .i64 0, .int .i64 0, .int .i64 0, .int .i64 0, .int .i64 0, .slice none 0 0, .slice none 0 0] 31 (0, 0))) := Lib.hid (K.setFrom_other [.int .i64 4, .int .i64 0, .int .i64 0, .int .i64 0, .int .i64 (v16 : Int)] 12 y7.out (show w.heap.size + 1 ≠ w.heap.size by omega))
  have G7 := Lib.hid (grown_other F7.out GS7.out (fun u hu => by cases hu; exact Nat.le_refl _))
  have h7 := Lib.hid (S7.out.away GS7.out (fun q hq => by cases hq; exact hgl))
  have h8 : Hid (Rp (((((w7.setCell ⟨w.heap.size, 12, none⟩ (.int .i64 4)).setCell ⟨w.heap.size, 13, none⟩ (.int .i64 0)).setCell ⟨w.heap.size, 14, none⟩ (.int .i64 0)).setCell ⟨w.heap.size, 15, none⟩ (.int .i64 0)).setCell ⟨w.heap.size, 16, none⟩ (.int .i64 (v16 : Int))) g (some a) n c bs 20) := h7
  have G8 : Hid (w.grownBy (((((w7.setCell ⟨w.heap.size, 12, none⟩ (.int .i64 4)).setCell ⟨w.heap.size, 13, none⟩ (.int .i64 0)).setCell ⟨w.heap.size, 14, none⟩ (.int .i64 0)).setCell ⟨w.heap.size, 15, none⟩ (.int .i64 0)).setCell ⟨w.heap.size, 16, none⟩ (.int .i64 (v16 : Int))) (some g)) := G7
  go_upto_region 8 with fail
  clear h7 G7 GS7 S7 F7 y7 p7 u12 u13 u14 u15 u16 x12 x13 x14 x15 x16
  generalize (((((w7.setCell ⟨w.heap.size, 12, none⟩ (.int .i64 4)).setCell ⟨w.heap.size, 13, none⟩ (.int .i64 0)).setCell ⟨w.heap.size, 14, none⟩ (.int .i64 0)).setCell ⟨w.heap.size, 15, none⟩ (.int .i64 0)).setCell ⟨w.heap.size, 16, none⟩ (.int .i64 (v16 : Int))) = W at q7 z7 h8 G8 ⊢
  go_wp2_with (first | (with_reducible refine loadF rfl _ rfl w.heap.size rfl q7.out ?_) | (with_reducible refine storeF rfl _ _ rfl (w.heap.size + 1) rfl rfl z7.out ?_))
  (try simp only [Exit.inBlock, Exit.then])
  refine bodyPost_ret (v := .tuple #[.agg #[.int .i64 y.dscp, .int .i64 y.ecn, .int .i64 (v4 : Int), .int .i64 ((v6 : Int) / 8192), .int .i64 ((v6 : Int) % 8192), .int .i64 (v8 : Int), .int .i64 (v9 : Int), .int .i64 4, .int .i64 0, .int .i64 0, .int .i64 0, .int .i64 (v12 : Int), .int .i64 4, .int .i64 0, .int .i64 0, .int .i64 0, .int .i64 (v16 : Int), .slice A n1 c1, .slice D m1 d1], .int .i64 (v10 : Int)]) ?_ rfl ⟨rfl, ?_, ?_⟩
  · exact K.resCellTmp Try.results67 _ _ _ (w.heap.size + 1) _ rfl (run_loadVar_row _ _ 31 31 _ (0, 0) _ (setRow_heap _ _ _ _ _ _ z7.out) Try.underlying31 rfl info_four)
  · exact h8.out.away (K.setRow_grown _ _ _) (fun q hq => by cases hq; omega)
  · exact grown_other G8.out (K.setRow_grown _ _ _) (fun u hu => by cases hu; omega)
end Go.Proofs.Ytekdfffjlcikeaa

namespace Go.Proofs.Ytekdfffjlcikeaa
open Go.RowKit

/-- A packet is not read. -/
def FoNo (k : Int) (g : Nat) (w : World) (e : Ending) (w' : World) : Prop := e = .returned (.tuple #[.agg #[.int .i64 0, .int .i64 0, .int .i64 0, .int .i64 0, .int .i64 0, .int .i64 0, .int .i64 0, .int .i64 0, .int .i64 0, .int .i64 0, .int .i64 0, .int .i64 0, .int .i64 0, .int .i64 0, .int .i64 0, .int .i64 0, .int .i64 0, .slice none 0 0, .slice none 0 0], .int .i64 k]) ∧ w.grownBy w' (some g)
/-- A packet is read. -/
def FoYes (x : Fh) (os ds : List UInt8) (p q t g : Nat) (a : Addr) (n c : Nat) (bs : List UInt8) (w : World) (e : Ending) (w' : World) : Prop :=
  ∃ A c1 D d1, e = .returned (.tuple #[.agg #[.int .i64 x.dscp, .int .i64 x.ecn, .int .i64 x.id, .int .i64 x.flags, .int .i64 x.frag, .int .i64 x.ttl, .int .i64 x.proto, .int .i64 x.src.k, .int .i64 x.src.a, .int .i64 x.src.b, .int .i64 x.src.c, .int .i64 x.src.d, .int .i64 x.dst.k, .int .i64 x.dst.a, .int .i64 x.dst.b, .int .i64 x.dst.c, .int .i64 x.dst.d, .slice A p c1, .slice D q d1], .int .i64 0]) ∧ w'.ownsRow w.heap.size 5 1 (.slice A p c1) p (cellsOf os) ∧ w'.ownsRow w.heap.size 5 1 (.slice D q d1) q (cellsOf ds) ∧
    (∀ k, (Value.slice A p c1).ownBlock = some k → (Value.slice D q d1).ownBlock ≠ some k) ∧ Rp w' g (some a) n c bs t ∧ w.grownBy w' (some g)
theorem afterC2 (w : World) (g : Nat) (a : Addr) (n c : Nat) (bs : List UInt8) (y0 y1 : Int) (v4 v6 v8 v9 v10 v12 v16 : Nat) (h : Rp w g (some a) n c bs 4) (hn : 20 ≤ n)
    (e4 : num bs 4 2 = v4) (e6 : num bs 6 2 = v6) (e8 : num bs 8 1 = v8) (e9 : num bs 9 1 = v9) (e10 : num bs 10 2 = v10) (e12 : num bs 12 4 = v12) (e16 : num bs 16 4 = v16) :
    Calls Try.prog 67 #[.pointer (some ⟨g, 0, none⟩), .agg #[.int .i64 y0, .int .i64 y1, .int .i64 0, .int .i64 0, .int .i64 0, .int .i64 0, .int .i64 0, .int .i64 0, .int .i64 0, .int .i64 0, .int .i64 0, .int .i64 0, .int .i64 0, .int .i64 0, .int .i64 0, .int .i64 0, .int .i64 0, .slice none 0 0, .slice none 0 0]] w fun e w' => e = .returned (.tuple #[.agg #[.int .i64 y0, .int .i64 y1, .int .i64 (v4 : Int), .int .i64 ((v6 : Int) / 8192), .int .i64 ((v6 : Int) % 8192), .int .i64 (v8 : Int), .int .i64 (v9 : Int), .int .i64 4, .int .i64 0, .int .i64 0, .int .i64 0, .int .i64 (v12 : Int), .int .i64 4, .int .i64 0, .int .i64 0, .int .i64 0, .int .i64 (v16 : Int), .slice none 0 0, .slice none 0 0], .int .i64 (v10 : Int)]) ∧ Rp w' g (some a) n c bs 20 ∧ w.grownBy w' (some g) :=
  afterC w g a n c bs ⟨y0, y1, 0, 0, 0, 0, 0, Ad.zero, Ad.zero⟩ none none 0 0 0 0 v4 v6 v8 v9 v10 v12 v16 h hn e4 e6 e8 e9 e10 e12 e16

set_option maxRecDepth 100000 in
set_option maxHeartbeats 4000000 in
theorem fourOf_3 (w : World) (g : Nat) (a : Addr) (n c : Nat) (bs : List UInt8) (b0 : Nat) (h : Rp w g (some a) n c bs 0) (hn : 20 ≤ n) (e0 : num bs 0 1 = b0) (hv : ¬ (b0 : Int) / 16 = 4) :
    Calls Try.prog 49 #[.pointer (some ⟨g, 0, none⟩)] w (FoNo 3 g w) := by
  have hb0 : b0 < 256 := by rw [← e0]; exact num_lt1 bs 0
  have hgl := h.lt
  have hsm := h.small
  have hln := Lib.hid h.len
  have h0 := Lib.hid (h.below (Joins.below_alloc1 w (.cells #[.int .i64 0, .int .i64 0, .int .i64 0, .int .i64 0, .int .i64 0, .int .i64 0, .int .i64 0, .int .i64 0, .int .i64 0, .int .i64 0, .int .i64 0, .int .i64 0, .int .i64 0, .int .i64 0, .int .i64 0, .int .i64 0, .int .i64 0, .slice none 0 0, .slice none 0 0] 31)))
  have z0 := Lib.hid (K.new w (.cells #[.int .i64 0, .int .i64 0, .int .i64 0, .int .i64 0, .int .i64 0, .int .i64 0, .int .i64 0, .int .i64 0, .int .i64 0, .int .i64 0, .int .i64 0, .int .i64 0, .int .i64 0, .int .i64 0, .int .i64 0, .int .i64 0, .int .i64 0, .slice none 0 0, .slice none 0 0] 31))
  have G0 := Lib.hid (show w.grownBy (w.alloc (.cells #[.int .i64 0, .int .i64 0, .int .i64 0, .int .i64 0, .int .i64 0, .int .i64 0, .int .i64 0, .int .i64 0, .int .i64 0, .int .i64 0, .int .i64 0, .int .i64 0, .int .i64 0, .int .i64 0, .int .i64 0, .int .i64 0, .int .i64 0, .slice none 0 0, .slice none 0 0] 31)) (some g) from only_new (K.refl w _) _)
  have E0 := Lib.hid e0
  clear h e0
  go_enter Try.func49, Try.ntmps49
  go_wp2_with fail
  refine Calls.mono (leftP _ g (some a) n c bs 0 n h0.out (by omega)) ?_
  rintro e w1 ⟨rfl, b1'⟩
  have h1 := Lib.hid (h0.out.below b1')
  have z1 := Lib.hid (K.below b1' z0.out)
  have G1 := Lib.hid (grownBy_trans G0.out (below_grown b1' _))
  clear b1'
  go_wp2_with fail
  refine Calls.mono (splitP_4 _ g (some a) n c bs 0 1 b0 E0.out (by omega) h1.out (by omega) (by omega) (by omega)) ?_
  rintro e w2 ⟨rfl, r2, g2⟩
  have h2 := Lib.hid r2
  have z2 := Lib.hid (K.kept g2 z1.out (fun k hk => by cases hk; omega))
  have G2 := Lib.hid (grownBy_trans G1.out g2)
  clear r2 g2
  go_wp2_with (with_reducible refine storeF rfl _ _ rfl w.heap.size rfl rfl z2.out ?_)
  (try simp only [Exit.inBlock, Exit.then])
  refine bodyPost_ret (v := .tuple #[.agg #[.int .i64 0, .int .i64 0, .int .i64 0, .int .i64 0, .int .i64 0, .int .i64 0, .int .i64 0, .int .i64 0, .int .i64 0, .int .i64 0, .int .i64 0, .int .i64 0, .int .i64 0, .int .i64 0, .int .i64 0, .int .i64 0, .int .i64 0, .slice none 0 0, .slice none 0 0], .int .i64 3]) ?_ rfl ⟨rfl, ?_⟩
  · exact K.resCellTmp Try.results49 _ _ _ w.heap.size _ rfl (run_loadVar_row _ _ 31 31 _ (0, 0) _ (setRow_heap _ _ _ _ _ _ z2.out) Try.underlying31 rfl info_four)
  · exact grown_other G2.out (K.setRow_grown _ _ _) (fun u hu => by cases hu; exact Nat.le_refl _)

set_option maxRecDepth 100000 in
set_option maxHeartbeats 4000000 in
theorem fourOf_4 (w : World) (g : Nat) (a : Addr) (n c : Nat) (bs : List UInt8) (b0 : Nat) (h : Rp w g (some a) n c bs 0) (hn : 20 ≤ n) (e0 : num bs 0 1 = b0) (hv : (b0 : Int) / 16 = 4) (hd : Nat) (ed : 4 * (b0 % 16) = hd) (hh : hd < 20 ∨ n < hd) :
    Calls Try.prog 49 #[.pointer (some ⟨g, 0, none⟩)] w (FoNo 4 g w) := by
  have hb0 : b0 < 256 := by rw [← e0]; exact num_lt1 bs 0
  have hgl := h.lt
  have hsm := h.small
  have hln := Lib.hid h.len
  have hwd : IntKind.i64.wrap (4 * ((b0 : Int) % 16)) = (hd : Int) := by rw [IntKind.wrap_i64]; omega
  have hwd2 : 4 * ((b0 : Int) % 16) = (hd : Int) := by omega
  have h0 := Lib.hid (h.below (Joins.below_alloc1 w (.cells #[.int .i64 0, .int .i64 0, .int .i64 0, .int .i64 0, .int .i64 0, .int .i64 0, .int .i64 0, .int .i64 0, .int .i64 0, .int .i64 0, .int .i64 0, .int .i64 0, .int .i64 0, .int .i64 0, .int .i64 0, .int .i64 0, .int .i64 0, .slice none 0 0, .slice none 0 0] 31)))
  have z0 := Lib.hid (K.new w (.cells #[.int .i64 0, .int .i64 0, .int .i64 0, .int .i64 0, .int .i64 0, .int .i64 0, .int .i64 0, .int .i64 0, .int .i64 0, .int .i64 0, .int .i64 0, .int .i64 0, .int .i64 0, .int .i64 0, .int .i64 0, .int .i64 0, .int .i64 0, .slice none 0 0, .slice none 0 0] 31))
  have G0 := Lib.hid (show w.grownBy (w.alloc (.cells #[.int .i64 0, .int .i64 0, .int .i64 0, .int .i64 0, .int .i64 0, .int .i64 0, .int .i64 0, .int .i64 0, .int .i64 0, .int .i64 0, .int .i64 0, .int .i64 0, .int .i64 0, .int .i64 0, .int .i64 0, .int .i64 0, .int .i64 0, .slice none 0 0, .slice none 0 0] 31)) (some g) from only_new (K.refl w _) _)
  have E0 := Lib.hid e0
  clear h e0
  have HD := Lib.hid ed
  clear ed
  go_enter Try.func49, Try.ntmps49
  go_wp2_with fail
  refine Calls.mono (leftP _ g (some a) n c bs 0 n h0.out (by omega)) ?_
  rintro e w1 ⟨rfl, b1'⟩
  have h1 := Lib.hid (h0.out.below b1')
  have z1 := Lib.hid (K.below b1' z0.out)
  have G1 := Lib.hid (grownBy_trans G0.out (below_grown b1' _))
  clear b1'
  go_wp2_with fail
  refine Calls.mono (splitP_4 _ g (some a) n c bs 0 1 b0 E0.out (by omega) h1.out (by omega) (by omega) (by omega)) ?_
  rintro e w2 ⟨rfl, r2, g2⟩
  have h2 := Lib.hid r2
  have z2 := Lib.hid (K.kept g2 z1.out (fun k hk => by cases hk; omega))
  have G2 := Lib.hid (grownBy_trans G1.out g2)
  clear r2 g2
  go_wp2_with fail
  refine Calls.mono (within_no _ _ _ _ (by omega)) ?_
  rintro e w3 ⟨rfl, rfl⟩
  go_wp2_with (with_reducible refine storeF rfl _ _ rfl w.heap.size rfl rfl z2.out ?_)
  (try simp only [Exit.inBlock, Exit.then])
  refine bodyPost_ret (v := .tuple #[.agg #[.int .i64 0, .int .i64 0, .int .i64 0, .int .i64 0, .int .i64 0, .int .i64 0, .int .i64 0, .int .i64 0, .int .i64 0, .int .i64 0, .int .i64 0, .int .i64 0, .int .i64 0, .int .i64 0, .int .i64 0, .int .i64 0, .int .i64 0, .slice none 0 0, .slice none 0 0], .int .i64 4]) ?_ rfl ⟨rfl, ?_⟩
  · exact K.resCellTmp Try.results49 _ _ _ w.heap.size _ rfl (run_loadVar_row _ _ 31 31 _ (0, 0) _ (setRow_heap _ _ _ _ _ _ z2.out) Try.underlying31 rfl info_four)
  · exact grown_other G2.out (K.setRow_grown _ _ _) (fun u hu => by cases hu; exact Nat.le_refl _)

set_option maxRecDepth 100000 in
set_option maxHeartbeats 4000000 in
theorem fourOf_5 (w : World) (g : Nat) (a : Addr) (n c : Nat) (bs : List UInt8) (b0 : Nat) (h : Rp w g (some a) n c bs 0) (hn : 20 ≤ n) (e0 : num bs 0 1 = b0) (hv : (b0 : Int) / 16 = 4) (hd : Nat) (ed : 4 * (b0 % 16) = hd) (hh : 20 ≤ hd ∧ hd ≤ n) (b1 t : Nat) (e1 : num bs 1 1 = b1) (et : num bs 2 2 = t) (ht : t < hd ∨ 1500 < t ∨ n < t) :
    Calls Try.prog 49 #[.pointer (some ⟨g, 0, none⟩)] w (FoNo 5 g w) := by
  have hb0 : b0 < 256 := by rw [← e0]; exact num_lt1 bs 0
  have hgl := h.lt
  have hsm := h.small
  have hln := Lib.hid h.len
  have hwd : IntKind.i64.wrap (4 * ((b0 : Int) % 16)) = (hd : Int) := by rw [IntKind.wrap_i64]; omega
  have hwd2 : 4 * ((b0 : Int) % 16) = (hd : Int) := by omega
  have h0 := Lib.hid (h.below (Joins.below_alloc1 w (.cells #[.int .i64 0, .int .i64 0, .int .i64 0, .int .i64 0, .int .i64 0, .int .i64 0, .int .i64 0, .int .i64 0, .int .i64 0, .int .i64 0, .int .i64 0, .int .i64 0, .int .i64 0, .int .i64 0, .int .i64 0, .int .i64 0, .int .i64 0, .slice none 0 0, .slice none 0 0] 31)))
  have z0 := Lib.hid (K.new w (.cells #[.int .i64 0, .int .i64 0, .int .i64 0, .int .i64 0, .int .i64 0, .int .i64 0, .int .i64 0, .int .i64 0, .int .i64 0, .int .i64 0, .int .i64 0, .int .i64 0, .int .i64 0, .int .i64 0, .int .i64 0, .int .i64 0, .int .i64 0, .slice none 0 0, .slice none 0 0] 31))
  have G0 := Lib.hid (show w.grownBy (w.alloc (.cells #[.int .i64 0, .int .i64 0, .int .i64 0, .int .i64 0, .int .i64 0, .int .i64 0, .int .i64 0, .int .i64 0, .int .i64 0, .int .i64 0, .int .i64 0, .int .i64 0, .int .i64 0, .int .i64 0, .int .i64 0, .int .i64 0, .int .i64 0, .slice none 0 0, .slice none 0 0] 31)) (some g) from only_new (K.refl w _) _)
  have E0 := Lib.hid e0
  clear h e0
  have HD := Lib.hid ed
  clear ed
  go_enter Try.func49, Try.ntmps49
  go_wp2_with fail
  refine Calls.mono (leftP _ g (some a) n c bs 0 n h0.out (by omega)) ?_
  rintro e w1 ⟨rfl, b1'⟩
  have h1 := Lib.hid (h0.out.below b1')
  have z1 := Lib.hid (K.below b1' z0.out)
  have G1 := Lib.hid (grownBy_trans G0.out (below_grown b1' _))
  clear b1'
  go_wp2_with fail
  refine Calls.mono (splitP_4 _ g (some a) n c bs 0 1 b0 E0.out (by omega) h1.out (by omega) (by omega) (by omega)) ?_
  rintro e w2 ⟨rfl, r2, g2⟩
  have h2 := Lib.hid r2
  have z2 := Lib.hid (K.kept g2 z1.out (fun k hk => by cases hk; omega))
  have G2 := Lib.hid (grownBy_trans G1.out g2)
  clear r2 g2
  go_wp2_with fail
  refine Calls.mono (within_yes _ _ _ _ (by omega) (by omega)) ?_
  rintro e w3 ⟨rfl, rfl⟩
  have hb1 : b1 < 256 := by rw [← e1]; exact num_lt1 bs 1
  have E1 := Lib.hid (And.intro e1 et)
  clear e1 et
  have q2 := Lib.hid (K.new w2 (.cells #[.int .i64 0, .int .i64 0, .int .i64 0, .int .i64 0, .int .i64 0, .int .i64 0, .int .i64 0, .int .i64 0, .int .i64 0, .int .i64 0, .int .i64 0, .int .i64 0, .int .i64 0, .int .i64 0, .int .i64 0, .int .i64 0, .int .i64 0, .slice none 0 0, .slice none 0 0] 31))
  have z3 := Lib.hid (K.old z2.out (.cells #[.int .i64 0, .int .i64 0, .int .i64 0, .int .i64 0, .int .i64 0, .int .i64 0, .int .i64 0, .int .i64 0, .int .i64 0, .int .i64 0, .int .i64 0, .int .i64 0, .int .i64 0, .int .i64 0, .int .i64 0, .int .i64 0, .int .i64 0, .slice none 0 0, .slice none 0 0] 31))
  have h3 := Lib.hid (h2.out.below (Joins.below_alloc1 w2 (.cells #[.int .i64 0, .int .i64 0, .int .i64 0, .int .i64 0, .int .i64 0, .int .i64 0, .int .i64 0, .int .i64 0, .int .i64 0, .int .i64 0, .int .i64 0, .int .i64 0, .int .i64 0, .int .i64 0, .int .i64 0, .int .i64 0, .int .i64 0, .slice none 0 0, .slice none 0 0] 31)))
  have G3 := Lib.hid (only_new G2.out (.cells #[.int .i64 0, .int .i64 0, .int .i64 0, .int .i64 0, .int .i64 0, .int .i64 0, .int .i64 0, .int .i64 0, .int .i64 0, .int .i64 0, .int .i64 0, .int .i64 0, .int .i64 0, .int .i64 0, .int .i64 0, .int .i64 0, .int .i64 0, .slice none 0 0, .slice none 0 0] 31))
  have lf := K.lt z2.out
  have lg := h2.out.lt
  go_wp2_with fail
  refine Calls.mono (splitP_2 _ g (some a) n c bs 1 1 b1 E1.out.1 (by omega) h3.out (by omega) (by omega) (by omega)) ?_
  rintro e w4 ⟨rfl, r4, g4⟩
  have q4 := Lib.hid (K.kept g4 q2.out (fun k hk => by cases hk; omega))
  have z4 := Lib.hid (K.kept g4 z3.out (fun k hk => by cases hk; omega))
  have G4 := Lib.hid (grownBy_trans G3.out g4)
  have S4 := Lib.hid r4
  clear r4 g4
  have u0 := K.cell q4.out 0 _ rfl
  have u1 := K.cell q4.out 1 _ rfl
  have x0 := frozen_of_row _ _ 0 _ _ q4.out
  have x1 := frozen_of_row _ _ 1 _ _ q4.out
  go_wp2_with fail
  clear u0 u1 x0 x1
  have GS := Lib.hid (K.setFrom_self [.int .i64 ((b1 : Int) / 4), .int .i64 ((b1 : Int) % 4)] w4 w2.heap.size 0)
  have q5 : Hid ((K.setFrom w4 w2.heap.size 0 [.int .i64 ((b1 : Int) / 4), .int .i64 ((b1 : Int) % 4)]).heap[w2.heap.size]? = some (.cells #[.int .i64 ((b1 : Int) / 4), .int .i64 ((b1 : Int) % 4), .int .i64 0, .int .i64 0, .int .i64 0, .int .i64 0, .int .i64 0, .int .i64 0, .int .i64 0, .int .i64 0, .int .i64 0, .int .i64 0, .int .i64 0, .int .i64 0, .int .i64 0, .int .i64 0, .int .i64 0, .slice none 0 0, .slice none 0 0] 31 (0, 0))) := Lib.hid (K.set (K.set q4.out 0 _) 1 _)
  have z5 := Lib.hid (K.setFrom_other [.int .i64 ((b1 : Int) / 4), .int .i64 ((b1 : Int) % 4)] 0 z4.out (show w.heap.size ≠ w2.heap.size by omega))
  have G5 := Lib.hid (grown_other G4.out GS.out (fun u hu => by cases hu; exact Nat.le_of_lt lf))
  have h5 := Lib.hid (S4.out.away GS.out (fun q hq => by cases hq; exact lg))
  refine Calls.mono (numberP _ g (some a) n c bs 2 2 t E1.out.2 h5.out (by omega) (by omega) (by omega)) ?_
  rintro e w6 ⟨rfl, r6, g6⟩
  have q6 := Lib.hid (K.kept g6 q5.out (fun k hk => by cases hk; omega))
  have z6 := Lib.hid (K.kept g6 z5.out (fun k hk => by cases hk; omega))
  have G6 := Lib.hid (grownBy_trans G5.out g6)
  have h6 := Lib.hid r6
  clear r6 g6 q2 z3 h3 G3 q4 z4 G4 S4 GS q5 z5 G5 h5
  go_wp2_with fail
  all_goals
    refine Calls.mono (within_no _ _ _ _ (by omega)) ?_
    rintro e w7 ⟨rfl, rfl⟩
    go_wp2_with (with_reducible refine storeF rfl _ _ rfl w.heap.size rfl rfl z6.out ?_)
    (try simp only [Exit.inBlock, Exit.then])
    refine bodyPost_ret (v := .tuple #[.agg #[.int .i64 0, .int .i64 0, .int .i64 0, .int .i64 0, .int .i64 0, .int .i64 0, .int .i64 0, .int .i64 0, .int .i64 0, .int .i64 0, .int .i64 0, .int .i64 0, .int .i64 0, .int .i64 0, .int .i64 0, .int .i64 0, .int .i64 0, .slice none 0 0, .slice none 0 0], .int .i64 5]) ?_ rfl ⟨rfl, ?_⟩
    · exact K.resCellTmp Try.results49 _ _ _ w.heap.size _ rfl (run_loadVar_row _ _ 31 31 _ (0, 0) _ (setRow_heap _ _ _ _ _ _ z6.out) Try.underlying31 rfl info_four)
    · exact grown_other G6.out (K.setRow_grown _ _ _) (fun u hu => by cases hu; exact Nat.le_refl _)
end Go.Proofs.Ytekdfffjlcikeaa

namespace Go.Proofs.Ytekdfffjlcikeaa
open Go.RowKit

set_option maxRecDepth 100000 in
set_option maxHeartbeats 4000000 in
theorem fourOf_6 (w : World) (g : Nat) (a : Addr) (n c : Nat) (bs : List UInt8) (b0 : Nat) (h : Rp w g (some a) n c bs 0) (hn : 20 ≤ n) (e0 : num bs 0 1 = b0) (hv : (b0 : Int) / 16 = 4) (hd : Nat) (ed : 4 * (b0 % 16) = hd) (hh : 20 ≤ hd ∧ hd ≤ n) (b1 t : Nat) (e1 : num bs 1 1 = b1) (et : num bs 2 2 = t) (ht : hd ≤ t ∧ t ≤ 1500 ∧ t ≤ n) (v4 v6 v8 v9 v10 v12 v16 : Nat) (e4 : num bs 4 2 = v4) (e6 : num bs 6 2 = v6) (e8 : num bs 8 1 = v8) (e9 : num bs 9 1 = v9) (e10 : num bs 10 2 = v10) (e12 : num bs 12 4 = v12) (e16 : num bs 16 4 = v16) (p q : Nat) (ep : hd = 20 + p) (eq : t = hd + q) (os ds : List UInt8) (eos : (bs.drop 20).take p = os) (eds : (bs.drop hd).take q = ds) (hs : ¬ (v10 : Int) = (⟨(b1 : Int) / 4, (b1 : Int) % 4, v4, (v6 : Int) / 8192, (v6 : Int) % 8192, v8, v9, ⟨4, 0, 0, 0, v12⟩, ⟨4, 0, 0, 0, v16⟩⟩ : Fh).sum os q) :
    Calls Try.prog 49 #[.pointer (some ⟨g, 0, none⟩)] w (FoNo 6 g w) := by
  have hb0 : b0 < 256 := by rw [← e0]; exact num_lt1 bs 0
  have hgl := h.lt
  have hsm := h.small
  have hln := Lib.hid h.len
  have E4 := Lib.hid (And.intro e4 (And.intro e6 (And.intro e8 (And.intro e9 (And.intro e10 (And.intro e12 e16))))))
  have hb6 : v6 < 65536 := by rw [← e6]; exact num_lt2 bs 6
  have EP := Lib.hid (And.intro ep eq)
  have ES := Lib.hid (And.intro eos eds)
  have HS := Lib.hid hs
  clear e4 e6 e8 e9 e10 e12 e16 ep eq eos eds hs
  have hwd : IntKind.i64.wrap (4 * ((b0 : Int) % 16)) = (hd : Int) := by rw [IntKind.wrap_i64]; omega
  have hwd2 : 4 * ((b0 : Int) % 16) = (hd : Int) := by omega
  have h0 := Lib.hid (h.below (Joins.below_alloc1 w (.cells #[.int .i64 0, .int .i64 0, .int .i64 0, .int .i64 0, .int .i64 0, .int .i64 0, .int .i64 0, .int .i64 0, .int .i64 0, .int .i64 0, .int .i64 0, .int .i64 0, .int .i64 0, .int .i64 0, .int .i64 0, .int .i64 0, .int .i64 0, .slice none 0 0, .slice none 0 0] 31)))
  have z0 := Lib.hid (K.new w (.cells #[.int .i64 0, .int .i64 0, .int .i64 0, .int .i64 0, .int .i64 0, .int .i64 0, .int .i64 0, .int .i64 0, .int .i64 0, .int .i64 0, .int .i64 0, .int .i64 0, .int .i64 0, .int .i64 0, .int .i64 0, .int .i64 0, .int .i64 0, .slice none 0 0, .slice none 0 0] 31))
  have G0 := Lib.hid (show w.grownBy (w.alloc (.cells #[.int .i64 0, .int .i64 0, .int .i64 0, .int .i64 0, .int .i64 0, .int .i64 0, .int .i64 0, .int .i64 0, .int .i64 0, .int .i64 0, .int .i64 0, .int .i64 0, .int .i64 0, .int .i64 0, .int .i64 0, .int .i64 0, .int .i64 0, .slice none 0 0, .slice none 0 0] 31)) (some g) from only_new (K.refl w _) _)
  have E0 := Lib.hid e0
  clear h e0
  have HD := Lib.hid ed
  clear ed
  go_enter Try.func49, Try.ntmps49
  go_wp2_with fail
  refine Calls.mono (leftP _ g (some a) n c bs 0 n h0.out (by omega)) ?_
  rintro e w1 ⟨rfl, b1'⟩
  have h1 := Lib.hid (h0.out.below b1')
  have z1 := Lib.hid (K.below b1' z0.out)
  have G1 := Lib.hid (grownBy_trans G0.out (below_grown b1' _))
  clear b1'
  go_wp2_with fail
  refine Calls.mono (splitP_4 _ g (some a) n c bs 0 1 b0 E0.out (by omega) h1.out (by omega) (by omega) (by omega)) ?_
  rintro e w2 ⟨rfl, r2, g2⟩
  have h2 := Lib.hid r2
  have z2 := Lib.hid (K.kept g2 z1.out (fun k hk => by cases hk; omega))
  have G2 := Lib.hid (grownBy_trans G1.out g2)
  clear r2 g2
  go_wp2_with fail
  refine Calls.mono (within_yes _ _ _ _ (by omega) (by omega)) ?_
  rintro e w3 ⟨rfl, rfl⟩
  have hb1 : b1 < 256 := by rw [← e1]; exact num_lt1 bs 1
  have E1 := Lib.hid (And.intro e1 et)
  clear e1 et
  have q2 := Lib.hid (K.new w2 (.cells #[.int .i64 0, .int .i64 0, .int .i64 0, .int .i64 0, .int .i64 0, .int .i64 0, .int .i64 0, .int .i64 0, .int .i64 0, .int .i64 0, .int .i64 0, .int .i64 0, .int .i64 0, .int .i64 0, .int .i64 0, .int .i64 0, .int .i64 0, .slice none 0 0, .slice none 0 0] 31))
  have z3 := Lib.hid (K.old z2.out (.cells #[.int .i64 0, .int .i64 0, .int .i64 0, .int .i64 0, .int .i64 0, .int .i64 0, .int .i64 0, .int .i64 0, .int .i64 0, .int .i64 0, .int .i64 0, .int .i64 0, .int .i64 0, .int .i64 0, .int .i64 0, .int .i64 0, .int .i64 0, .slice none 0 0, .slice none 0 0] 31))
  have h3 := Lib.hid (h2.out.below (Joins.below_alloc1 w2 (.cells #[.int .i64 0, .int .i64 0, .int .i64 0, .int .i64 0, .int .i64 0, .int .i64 0, .int .i64 0, .int .i64 0, .int .i64 0, .int .i64 0, .int .i64 0, .int .i64 0, .int .i64 0, .int .i64 0, .int .i64 0, .int .i64 0, .int .i64 0, .slice none 0 0, .slice none 0 0] 31)))
  have G3 := Lib.hid (only_new G2.out (.cells #[.int .i64 0, .int .i64 0, .int .i64 0, .int .i64 0, .int .i64 0, .int .i64 0, .int .i64 0, .int .i64 0, .int .i64 0, .int .i64 0, .int .i64 0, .int .i64 0, .int .i64 0, .int .i64 0, .int .i64 0, .int .i64 0, .int .i64 0, .slice none 0 0, .slice none 0 0] 31))
  have lf := K.lt z2.out
  have lg := h2.out.lt
  go_wp2_with fail
  refine Calls.mono (splitP_2 _ g (some a) n c bs 1 1 b1 E1.out.1 (by omega) h3.out (by omega) (by omega) (by omega)) ?_
  rintro e w4 ⟨rfl, r4, g4⟩
  have q4 := Lib.hid (K.kept g4 q2.out (fun k hk => by cases hk; omega))
  have z4 := Lib.hid (K.kept g4 z3.out (fun k hk => by cases hk; omega))
  have G4 := Lib.hid (grownBy_trans G3.out g4)
  have S4 := Lib.hid r4
  clear r4 g4
  have u0 := K.cell q4.out 0 _ rfl
  have u1 := K.cell q4.out 1 _ rfl
  have x0 := frozen_of_row _ _ 0 _ _ q4.out
  have x1 := frozen_of_row _ _ 1 _ _ q4.out
  go_wp2_with fail
  clear u0 u1 x0 x1
  have GS := Lib.hid (K.setFrom_self [.int .i64 ((b1 : Int) / 4), .int .i64 ((b1 : Int) % 4)] w4 w2.heap.size 0)
  have q5 : Hid ((K.setFrom w4 w2.heap.size 0 [.int .i64 ((b1 : Int) / 4), .int .i64 ((b1 : Int) % 4)]).heap[w2.heap.size]? = some (.cells #[.int .i64 ((b1 : Int) / 4), .int .i64 ((b1 : Int) % 4), .int .i64 0, .int .i64 0, .int .i64 0, .int .i64 0, .int .i64 0, .int .i64 0, .int .i64 0, .int .i64 0, .int .i64 0, .int .i64 0, .int .i64 0, .int .i64 0, .int .i64 0, .int .i64 0, .int .i64 0, .slice none 0 0, .slice none 0 0] 31 (0, 0))) := Lib.hid (K.set (K.set q4.out 0 _) 1 _)
  have z5 := Lib.hid (K.setFrom_other [.int .i64 ((b1 : Int) / 4), .int .i64 ((b1 : Int) % 4)] 0 z4.out (show w.heap.size ≠ w2.heap.size by omega))
  have G5 := Lib.hid (grown_other G4.out GS.out (fun u hu => by cases hu; exact Nat.le_of_lt lf))
  have h5 := Lib.hid (S4.out.away GS.out (fun q hq => by cases hq; exact lg))
  refine Calls.mono (numberP _ g (some a) n c bs 2 2 t E1.out.2 h5.out (by omega) (by omega) (by omega)) ?_
  rintro e w6 ⟨rfl, r6, g6⟩
  have q6 := Lib.hid (K.kept g6 q5.out (fun k hk => by cases hk; omega))
  have z6 := Lib.hid (K.kept g6 z5.out (fun k hk => by cases hk; omega))
  have G6 := Lib.hid (grownBy_trans G5.out g6)
  have h6 := Lib.hid r6
  clear r6 g6 q2 z3 h3 G3 q4 z4 G4 S4 GS q5 z5 G5 h5
  go_wp2_with fail
  all_goals
    refine Calls.mono (within_yes _ _ _ _ (by omega) (by omega)) ?_
    rintro e w7 ⟨rfl, rfl⟩
    have hp : (hd : Int) - 20 = (p : Int) := by have := EP.out; omega
    have hq : (t : Int) - (hd : Int) = (q : Int) := by have := EP.out; omega
    go_wp2_with (with_reducible refine loadF rfl _ rfl w2.heap.size rfl q6.out ?_)
    refine Calls.mono (afterC2 _ g a n c bs ((b1 : Int) / 4) ((b1 : Int) % 4) v4 v6 v8 v9 v10 v12 v16 h6.out hn E4.out.1 E4.out.2.1 E4.out.2.2.1 E4.out.2.2.2.1 E4.out.2.2.2.2.1 E4.out.2.2.2.2.2.1 E4.out.2.2.2.2.2.2) ?_
    rintro e w7 ⟨rfl, r7, g7⟩
    have q7 := Lib.hid (K.kept g7 q6.out (fun k hk => by cases hk; omega))
    have z7 := Lib.hid (K.kept g7 z6.out (fun k hk => by cases hk; omega))
    have G7 := Lib.hid (grownBy_trans G6.out g7)
    have h7 := Lib.hid r7
    clear r7 g7 q6 z6 G6 h6
    go_wp2_with (with_reducible refine storeF rfl _ _ rfl w2.heap.size rfl rfl q7.out ?_)
    have q7' := Lib.hid (setRow_heap w7 w2.heap.size _ #[.int .i64 ((b1 : Int) / 4), .int .i64 ((b1 : Int) % 4), .int .i64 (v4 : Int), .int .i64 ((v6 : Int) / 8192), .int .i64 ((v6 : Int) % 8192), .int .i64 (v8 : Int), .int .i64 (v9 : Int), .int .i64 4, .int .i64 0, .int .i64 0, .int .i64 0, .int .i64 (v12 : Int), .int .i64 4, .int .i64 0, .int .i64 0, .int .i64 0, .int .i64 (v16 : Int), .slice none 0 0, .slice none 0 0] _ _ q7.out)
    have z7' := Lib.hid (show (w7.setRow w2.heap.size #[.int .i64 ((b1 : Int) / 4), .int .i64 ((b1 : Int) % 4), .int .i64 (v4 : Int), .int .i64 ((v6 : Int) / 8192), .int .i64 ((v6 : Int) % 8192), .int .i64 (v8 : Int), .int .i64 (v9 : Int), .int .i64 4, .int .i64 0, .int .i64 0, .int .i64 0, .int .i64 (v12 : Int), .int .i64 4, .int .i64 0, .int .i64 0, .int .i64 0, .int .i64 (v16 : Int), .slice none 0 0, .slice none 0 0]).heap[w.heap.size]? = some (.cells #[.int .i64 0, .int .i64 0, .int .i64 0, .int .i64 0, .int .i64 0, .int .i64 0, .int .i64 0, .int .i64 0, .int .i64 0, .int .i64 0, .int .i64 0, .int .i64 0, .int .i64 0, .int .i64 0, .int .i64 0, .int .i64 0, .int .i64 0, .slice none 0 0, .slice none 0 0] 31 (0, 0)) by rw [setRow_other _ _ _ _ (by omega)]; exact z7.out)
    have G7' := Lib.hid (grown_other G7.out (K.setRow_grown w7 w2.heap.size #[.int .i64 ((b1 : Int) / 4), .int .i64 ((b1 : Int) % 4), .int .i64 (v4 : Int), .int .i64 ((v6 : Int) / 8192), .int .i64 ((v6 : Int) % 8192), .int .i64 (v8 : Int), .int .i64 (v9 : Int), .int .i64 4, .int .i64 0, .int .i64 0, .int .i64 0, .int .i64 (v12 : Int), .int .i64 4, .int .i64 0, .int .i64 0, .int .i64 0, .int .i64 (v16 : Int), .slice none 0 0, .slice none 0 0]) (fun u hu => by cases hu; exact Nat.le_of_lt lf))
    have h7' := Lib.hid (h7.out.away (K.setRow_grown w7 w2.heap.size #[.int .i64 ((b1 : Int) / 4), .int .i64 ((b1 : Int) % 4), .int .i64 (v4 : Int), .int .i64 ((v6 : Int) / 8192), .int .i64 ((v6 : Int) % 8192), .int .i64 (v8 : Int), .int .i64 (v9 : Int), .int .i64 4, .int .i64 0, .int .i64 0, .int .i64 0, .int .i64 (v12 : Int), .int .i64 4, .int .i64 0, .int .i64 0, .int .i64 0, .int .i64 (v16 : Int), .slice none 0 0, .slice none 0 0]) (fun q hq => by cases hq; exact lg))
    refine Calls.mono (takeP _ g a n c bs 20 p h7'.out (by have := EP.out; omega)) ?_
    rintro e w8 ⟨A8, c8, rfl, o8, r8, g8⟩
    rw [ES.out.1] at o8
    have hl8 : w2.heap.size < w7.heap.size := K.lt q7.out
    have O8 := Lib.hid (own_base o8 (show w2.heap.size + 1 ≤ _ by simp only [setRow_size]; exact hl8))
    have L8 := Lib.hid o8.lt
    have q8 := Lib.hid (K.kept g8 q7'.out (fun k hk => by cases hk; omega))
    have z8 := Lib.hid (K.kept g8 z7'.out (fun k hk => by cases hk; omega))
    have G8 := Lib.hid (grownBy_trans G7'.out g8)
    have h8 := Lib.hid (show Rp w8 g (some a) n c bs hd by rw [EP.out.1]; exact r8)
    clear o8 r8 g8 q7 z7 G7 h7 q7' z7' G7' h7'
    have u17 := K.cell q8.out 17 _ rfl
    have x17 := frozen_of_row _ _ 17 _ _ q8.out
    go_wp2_with fail
    clear u17 x17
    have GS := Lib.hid (grownBy_set w8 w2.heap.size 17 (.slice A8 p c8))
    have q8' : Hid ((w8.setCell ⟨w2.heap.size, 17, none⟩ (.slice A8 p c8)).heap[w2.heap.size]? = some (.cells #[.int .i64 ((b1 : Int) / 4), .int .i64 ((b1 : Int) % 4), .int .i64 (v4 : Int), .int .i64 ((v6 : Int) / 8192), .int .i64 ((v6 : Int) % 8192), .int .i64 (v8 : Int), .int .i64 (v9 : Int), .int .i64 4, .int .i64 0, .int .i64 0, .int .i64 0, .int .i64 (v12 : Int), .int .i64 4, .int .i64 0, .int .i64 0, .int .i64 0, .int .i64 (v16 : Int), .slice A8 p c8, .slice none 0 0] 31 (0, 0))) := Lib.hid (K.set q8.out 17 _)
    have z8' := Lib.hid (K.other z8.out w2.heap.size 17 (.slice A8 p c8) (by omega))
    have G8' := Lib.hid (grown_other G8.out GS.out (fun u hu => by cases hu; exact Nat.le_of_lt lf))
    have h8' := Lib.hid (h8.out.away GS.out (fun q hq => by cases hq; exact lg))
    have O8' := Lib.hid (own_set O8.out w2.heap.size 17 (.slice A8 p c8) (by omega))
    refine Calls.mono (takeP _ g a n c bs hd q h8'.out (by have := EP.out; omega)) ?_
    rintro e w9 ⟨D9, d9, rfl, o9, r9, g9⟩
    rw [ES.out.2] at o9
    have AP := Lib.hid (apart_of (fun k hk => O8'.out.lt k hk) (fun k hk => o9.lt k hk))
    have O9 := Lib.hid (own_grown O8'.out g9 (fun k hk e => by have := (O8'.out.lt k hk).1; injection e with e; omega))
    have P9 := Lib.hid (own_base o9 (show w2.heap.size + 1 ≤ _ from K.lt q8'.out))
    have q9 := Lib.hid (K.kept g9 q8'.out (fun k hk => by cases hk; omega))
    have z9 := Lib.hid (K.kept g9 z8'.out (fun k hk => by cases hk; omega))
    have G9 := Lib.hid (grownBy_trans G8'.out g9)
    have h9 := Lib.hid (show Rp w9 g (some a) n c bs t by rw [EP.out.2]; exact r9)
    clear o9 r9 g9 q8 z8 G8 h8 q8' z8' G8' h8' O8 O8' GS
    have u18 := K.cell q9.out 18 _ rfl
    have x18 := frozen_of_row _ _ 18 _ _ q9.out
    have GS := Lib.hid (grownBy_set w9 w2.heap.size 18 (.slice D9 q d9))
    have qa : Hid ((w9.setCell ⟨w2.heap.size, 18, none⟩ (.slice D9 q d9)).heap[w2.heap.size]? = some (.cells #[.int .i64 ((b1 : Int) / 4), .int .i64 ((b1 : Int) % 4), .int .i64 (v4 : Int), .int .i64 ((v6 : Int) / 8192), .int .i64 ((v6 : Int) % 8192), .int .i64 (v8 : Int), .int .i64 (v9 : Int), .int .i64 4, .int .i64 0, .int .i64 0, .int .i64 0, .int .i64 (v12 : Int), .int .i64 4, .int .i64 0, .int .i64 0, .int .i64 0, .int .i64 (v16 : Int), .slice A8 p c8, .slice D9 q d9] 31 (0, 0))) := Lib.hid (K.set q9.out 18 _)
    have za := Lib.hid (K.other z9.out w2.heap.size 18 (.slice D9 q d9) (by omega))
    have Ga := Lib.hid (grown_other G9.out GS.out (fun u hu => by cases hu; exact Nat.le_of_lt lf))
    have ha := Lib.hid (h9.out.away GS.out (fun q hq => by cases hq; exact lg))
    have Oa := Lib.hid (own_set O9.out w2.heap.size 18 (.slice D9 q d9) (by omega))
    have Pa := Lib.hid (own_set P9.out w2.heap.size 18 (.slice D9 q d9) (by omega))
    go_upto_region 16 with fail
    clear u18 x18 GS q9 z9 G9 h9 O9 P9
    generalize w9.setCell ⟨w2.heap.size, 18, none⟩ (.slice D9 q d9) = W at qa za Ga ha Oa Pa ⊢
    go_wp2_with (with_reducible refine loadF rfl _ rfl w2.heap.size rfl qa.out ?_)
    refine Calls.mono (sumIC (⟨(b1 : Int) / 4, (b1 : Int) % 4, v4, (v6 : Int) / 8192, (v6 : Int) % 8192, v8, v9, ⟨4, 0, 0, 0, v12⟩, ⟨4, 0, 0, 0, v16⟩⟩ : Fh) A8 D9 p c8 q d9 os _ (RB.of_own Oa.out) (by rw [← ES.out.1]; have := hln.out; have := EP.out; simp; omega)) ?_
    rintro e wb ⟨rfl, bb⟩
    have qb := Lib.hid (K.below bb qa.out)
    have zb := Lib.hid (K.below bb za.out)
    have Gb := Lib.hid (grownBy_trans Ga.out (below_grown bb _))
    have hb := Lib.hid (ha.out.below bb)
    have Ob := Lib.hid (own_below Oa.out bb)
    have Pb := Lib.hid (own_below Pa.out bb)
    clear bb qa za Ga ha Oa Pa
    have hs := HS.out
    generalize (⟨(b1 : Int) / 4, (b1 : Int) % 4, v4, (v6 : Int) / 8192, (v6 : Int) % 8192, v8, v9, ⟨4, 0, 0, 0, v12⟩, ⟨4, 0, 0, 0, v16⟩⟩ : Fh).sum os q = y at hs ⊢
    go_wp2_with (with_reducible refine storeF rfl _ _ rfl w.heap.size rfl rfl zb.out ?_)
    (try simp only [Exit.inBlock, Exit.then])
    refine bodyPost_ret (v := .tuple #[.agg #[.int .i64 0, .int .i64 0, .int .i64 0, .int .i64 0, .int .i64 0, .int .i64 0, .int .i64 0, .int .i64 0, .int .i64 0, .int .i64 0, .int .i64 0, .int .i64 0, .int .i64 0, .int .i64 0, .int .i64 0, .int .i64 0, .int .i64 0, .slice none 0 0, .slice none 0 0], .int .i64 6]) ?_ rfl ⟨rfl, ?_⟩
    · exact K.resCellTmp Try.results49 _ _ _ w.heap.size _ rfl (run_loadVar_row _ _ 31 31 _ (0, 0) _ (setRow_heap _ _ _ _ _ _ zb.out) Try.underlying31 rfl info_four)
    · exact grown_other Gb.out (K.setRow_grown _ _ _) (fun u hu => by cases hu; exact Nat.le_refl _)

set_option maxRecDepth 100000 in
set_option maxHeartbeats 4000000 in
theorem fourOf_0 (w : World) (g : Nat) (a : Addr) (n c : Nat) (bs : List UInt8) (b0 : Nat) (h : Rp w g (some a) n c bs 0) (hn : 20 ≤ n) (e0 : num bs 0 1 = b0) (hv : (b0 : Int) / 16 = 4) (hd : Nat) (ed : 4 * (b0 % 16) = hd) (hh : 20 ≤ hd ∧ hd ≤ n) (b1 t : Nat) (e1 : num bs 1 1 = b1) (et : num bs 2 2 = t) (ht : hd ≤ t ∧ t ≤ 1500 ∧ t ≤ n) (v4 v6 v8 v9 v10 v12 v16 : Nat) (e4 : num bs 4 2 = v4) (e6 : num bs 6 2 = v6) (e8 : num bs 8 1 = v8) (e9 : num bs 9 1 = v9) (e10 : num bs 10 2 = v10) (e12 : num bs 12 4 = v12) (e16 : num bs 16 4 = v16) (p q : Nat) (ep : hd = 20 + p) (eq : t = hd + q) (os ds : List UInt8) (eos : (bs.drop 20).take p = os) (eds : (bs.drop hd).take q = ds) (hs : (v10 : Int) = (⟨(b1 : Int) / 4, (b1 : Int) % 4, v4, (v6 : Int) / 8192, (v6 : Int) % 8192, v8, v9, ⟨4, 0, 0, 0, v12⟩, ⟨4, 0, 0, 0, v16⟩⟩ : Fh).sum os q) :
    Calls Try.prog 49 #[.pointer (some ⟨g, 0, none⟩)] w (FoYes (⟨(b1 : Int) / 4, (b1 : Int) % 4, v4, (v6 : Int) / 8192, (v6 : Int) % 8192, v8, v9, ⟨4, 0, 0, 0, v12⟩, ⟨4, 0, 0, 0, v16⟩⟩ : Fh) os ds p q t g a n c bs w) := by
  have hb0 : b0 < 256 := by rw [← e0]; exact num_lt1 bs 0
  have hgl := h.lt
  have hsm := h.small
  have hln := Lib.hid h.len
  have E4 := Lib.hid (And.intro e4 (And.intro e6 (And.intro e8 (And.intro e9 (And.intro e10 (And.intro e12 e16))))))
  have hb6 : v6 < 65536 := by rw [← e6]; exact num_lt2 bs 6
  have EP := Lib.hid (And.intro ep eq)
  have ES := Lib.hid (And.intro eos eds)
  have HS := Lib.hid hs
  clear e4 e6 e8 e9 e10 e12 e16 ep eq eos eds hs
  have hwd : IntKind.i64.wrap (4 * ((b0 : Int) % 16)) = (hd : Int) := by rw [IntKind.wrap_i64]; omega
  have hwd2 : 4 * ((b0 : Int) % 16) = (hd : Int) := by omega
  have h0 := Lib.hid (h.below (Joins.below_alloc1 w (.cells #[.int .i64 0, .int .i64 0, .int .i64 0, .int .i64 0, .int .i64 0, .int .i64 0, .int .i64 0, .int .i64 0, .int .i64 0, .int .i64 0, .int .i64 0, .int .i64 0, .int .i64 0, .int .i64 0, .int .i64 0, .int .i64 0, .int .i64 0, .slice none 0 0, .slice none 0 0] 31)))
  have z0 := Lib.hid (K.new w (.cells #[.int .i64 0, .int .i64 0, .int .i64 0, .int .i64 0, .int .i64 0, .int .i64 0, .int .i64 0, .int .i64 0, .int .i64 0, .int .i64 0, .int .i64 0, .int .i64 0, .int .i64 0, .int .i64 0, .int .i64 0, .int .i64 0, .int .i64 0, .slice none 0 0, .slice none 0 0] 31))
  have G0 := Lib.hid (show w.grownBy (w.alloc (.cells #[.int .i64 0, .int .i64 0, .int .i64 0, .int .i64 0, .int .i64 0, .int .i64 0, .int .i64 0, .int .i64 0, .int .i64 0, .int .i64 0, .int .i64 0, .int .i64 0, .int .i64 0, .int .i64 0, .int .i64 0, .int .i64 0, .int .i64 0, .slice none 0 0, .slice none 0 0] 31)) (some g) from only_new (K.refl w _) _)
  have E0 := Lib.hid e0
  clear h e0
  have HD := Lib.hid ed
  clear ed
  go_enter Try.func49, Try.ntmps49
  go_wp2_with fail
  refine Calls.mono (leftP _ g (some a) n c bs 0 n h0.out (by omega)) ?_
  rintro e w1 ⟨rfl, b1'⟩
  have h1 := Lib.hid (h0.out.below b1')
  have z1 := Lib.hid (K.below b1' z0.out)
  have G1 := Lib.hid (grownBy_trans G0.out (below_grown b1' _))
  clear b1'
  go_wp2_with fail
  refine Calls.mono (splitP_4 _ g (some a) n c bs 0 1 b0 E0.out (by omega) h1.out (by omega) (by omega) (by omega)) ?_
  rintro e w2 ⟨rfl, r2, g2⟩
  have h2 := Lib.hid r2
  have z2 := Lib.hid (K.kept g2 z1.out (fun k hk => by cases hk; omega))
  have G2 := Lib.hid (grownBy_trans G1.out g2)
  clear r2 g2
  go_wp2_with fail
  refine Calls.mono (within_yes _ _ _ _ (by omega) (by omega)) ?_
  rintro e w3 ⟨rfl, rfl⟩
  have hb1 : b1 < 256 := by rw [← e1]; exact num_lt1 bs 1
  have E1 := Lib.hid (And.intro e1 et)
  clear e1 et
  have q2 := Lib.hid (K.new w2 (.cells #[.int .i64 0, .int .i64 0, .int .i64 0, .int .i64 0, .int .i64 0, .int .i64 0, .int .i64 0, .int .i64 0, .int .i64 0, .int .i64 0, .int .i64 0, .int .i64 0, .int .i64 0, .int .i64 0, .int .i64 0, .int .i64 0, .int .i64 0, .slice none 0 0, .slice none 0 0] 31))
  have z3 := Lib.hid (K.old z2.out (.cells #[.int .i64 0, .int .i64 0, .int .i64 0, .int .i64 0, .int .i64 0, .int .i64 0, .int .i64 0, .int .i64 0, .int .i64 0, .int .i64 0, .int .i64 0, .int .i64 0, .int .i64 0, .int .i64 0, .int .i64 0, .int .i64 0, .int .i64 0, .slice none 0 0, .slice none 0 0] 31))
  have h3 := Lib.hid (h2.out.below (Joins.below_alloc1 w2 (.cells #[.int .i64 0, .int .i64 0, .int .i64 0, .int .i64 0, .int .i64 0, .int .i64 0, .int .i64 0, .int .i64 0, .int .i64 0, .int .i64 0, .int .i64 0, .int .i64 0, .int .i64 0, .int .i64 0, .int .i64 0, .int .i64 0, .int .i64 0, .slice none 0 0, .slice none 0 0] 31)))
  have G3 := Lib.hid (only_new G2.out (.cells #[.int .i64 0, .int .i64 0, .int .i64 0, .int .i64 0, .int .i64 0, .int .i64 0, .int .i64 0, .int .i64 0, .int .i64 0, .int .i64 0, .int .i64 0, .int .i64 0, .int .i64 0, .int .i64 0, .int .i64 0, .int .i64 0, .int .i64 0, .slice none 0 0, .slice none 0 0] 31))
  have lf := K.lt z2.out
  have lg := h2.out.lt
  go_wp2_with fail
  refine Calls.mono (splitP_2 _ g (some a) n c bs 1 1 b1 E1.out.1 (by omega) h3.out (by omega) (by omega) (by omega)) ?_
  rintro e w4 ⟨rfl, r4, g4⟩
  have q4 := Lib.hid (K.kept g4 q2.out (fun k hk => by cases hk; omega))
  have z4 := Lib.hid (K.kept g4 z3.out (fun k hk => by cases hk; omega))
  have G4 := Lib.hid (grownBy_trans G3.out g4)
  have S4 := Lib.hid r4
  clear r4 g4
  have u0 := K.cell q4.out 0 _ rfl
  have u1 := K.cell q4.out 1 _ rfl
  have x0 := frozen_of_row _ _ 0 _ _ q4.out
  have x1 := frozen_of_row _ _ 1 _ _ q4.out
  go_wp2_with fail
  clear u0 u1 x0 x1
  have GS := Lib.hid (K.setFrom_self [.int .i64 ((b1 : Int) / 4), .int .i64 ((b1 : Int) % 4)] w4 w2.heap.size 0)
  have q5 : Hid ((K.setFrom w4 w2.heap.size 0 [.int .i64 ((b1 : Int) / 4), .int .i64 ((b1 : Int) % 4)]).heap[w2.heap.size]? = some (.cells #[.int .i64 ((b1 : Int) / 4), .int .i64 ((b1 : Int) % 4), .int .i64 0, .int .i64 0, .int .i64 0, .int .i64 0, .int .i64 0, .int .i64 0, .int .i64 0, .int .i64 0, .int .i64 0, .int .i64 0, .int .i64 0, .int .i64 0, .int .i64 0, .int .i64 0, .int .i64 0, .slice none 0 0, .slice none 0 0] 31 (0, 0))) := Lib.hid (K.set (K.set q4.out 0 _) 1 _)
  have z5 := Lib.hid (K.setFrom_other [.int .i64 ((b1 : Int) / 4), .int .i64 ((b1 : Int) % 4)] 0 z4.out (show w.heap.size ≠ w2.heap.size by omega))
  have G5 := Lib.hid (grown_other G4.out GS.out (fun u hu => by cases hu; exact Nat.le_of_lt lf))
  have h5 := Lib.hid (S4.out.away GS.out (fun q hq => by cases hq; exact lg))
  refine Calls.mono (numberP _ g (some a) n c bs 2 2 t E1.out.2 h5.out (by omega) (by omega) (by omega)) ?_
  rintro e w6 ⟨rfl, r6, g6⟩
  have q6 := Lib.hid (K.kept g6 q5.out (fun k hk => by cases hk; omega))
  have z6 := Lib.hid (K.kept g6 z5.out (fun k hk => by cases hk; omega))
  have G6 := Lib.hid (grownBy_trans G5.out g6)
  have h6 := Lib.hid r6
  clear r6 g6 q2 z3 h3 G3 q4 z4 G4 S4 GS q5 z5 G5 h5
  go_wp2_with fail
  all_goals
    refine Calls.mono (within_yes _ _ _ _ (by omega) (by omega)) ?_
    rintro e w7 ⟨rfl, rfl⟩
    have hp : (hd : Int) - 20 = (p : Int) := by have := EP.out; omega
    have hq : (t : Int) - (hd : Int) = (q : Int) := by have := EP.out; omega
    go_wp2_with (with_reducible refine loadF rfl _ rfl w2.heap.size rfl q6.out ?_)
    refine Calls.mono (afterC2 _ g a n c bs ((b1 : Int) / 4) ((b1 : Int) % 4) v4 v6 v8 v9 v10 v12 v16 h6.out hn E4.out.1 E4.out.2.1 E4.out.2.2.1 E4.out.2.2.2.1 E4.out.2.2.2.2.1 E4.out.2.2.2.2.2.1 E4.out.2.2.2.2.2.2) ?_
    rintro e w7 ⟨rfl, r7, g7⟩
    have q7 := Lib.hid (K.kept g7 q6.out (fun k hk => by cases hk; omega))
    have z7 := Lib.hid (K.kept g7 z6.out (fun k hk => by cases hk; omega))
    have G7 := Lib.hid (grownBy_trans G6.out g7)
    have h7 := Lib.hid r7
    clear r7 g7 q6 z6 G6 h6
    go_wp2_with (with_reducible refine storeF rfl _ _ rfl w2.heap.size rfl rfl q7.out ?_)
    have q7' := Lib.hid (setRow_heap w7 w2.heap.size _ #[.int .i64 ((b1 : Int) / 4), .int .i64 ((b1 : Int) % 4), .int .i64 (v4 : Int), .int .i64 ((v6 : Int) / 8192), .int .i64 ((v6 : Int) % 8192), .int .i64 (v8 : Int), .int .i64 (v9 : Int), .int .i64 4, .int .i64 0, .int .i64 0, .int .i64 0, .int .i64 (v12 : Int), .int .i64 4, .int .i64 0, .int .i64 0, .int .i64 0, .int .i64 (v16 : Int), .slice none 0 0, .slice none 0 0] _ _ q7.out)
    have z7' := Lib.hid (show (w7.setRow w2.heap.size #[.int .i64 ((b1 : Int) / 4), .int .i64 ((b1 : Int) % 4), .int .i64 (v4 : Int), .int .i64 ((v6 : Int) / 8192), .int .i64 ((v6 : Int) % 8192), .int .i64 (v8 : Int), .int .i64 (v9 : Int), .int .i64 4, .int .i64 0, .int .i64 0, .int .i64 0, .int .i64 (v12 : Int), .int .i64 4, .int .i64 0, .int .i64 0, .int .i64 0, .int .i64 (v16 : Int), .slice none 0 0, .slice none 0 0]).heap[w.heap.size]? = some (.cells #[.int .i64 0, .int .i64 0, .int .i64 0, .int .i64 0, .int .i64 0, .int .i64 0, .int .i64 0, .int .i64 0, .int .i64 0, .int .i64 0, .int .i64 0, .int .i64 0, .int .i64 0, .int .i64 0, .int .i64 0, .int .i64 0, .int .i64 0, .slice none 0 0, .slice none 0 0] 31 (0, 0)) by rw [setRow_other _ _ _ _ (by omega)]; exact z7.out)
    have G7' := Lib.hid (grown_other G7.out (K.setRow_grown w7 w2.heap.size #[.int .i64 ((b1 : Int) / 4), .int .i64 ((b1 : Int) % 4), .int .i64 (v4 : Int), .int .i64 ((v6 : Int) / 8192), .int .i64 ((v6 : Int) % 8192), .int .i64 (v8 : Int), .int .i64 (v9 : Int), .int .i64 4, .int .i64 0, .int .i64 0, .int .i64 0, .int .i64 (v12 : Int), .int .i64 4, .int .i64 0, .int .i64 0, .int .i64 0, .int .i64 (v16 : Int), .slice none 0 0, .slice none 0 0]) (fun u hu => by cases hu; exact Nat.le_of_lt lf))
    have h7' := Lib.hid (h7.out.away (K.setRow_grown w7 w2.heap.size #[.int .i64 ((b1 : Int) / 4), .int .i64 ((b1 : Int) % 4), .int .i64 (v4 : Int), .int .i64 ((v6 : Int) / 8192), .int .i64 ((v6 : Int) % 8192), .int .i64 (v8 : Int), .int .i64 (v9 : Int), .int .i64 4, .int .i64 0, .int .i64 0, .int .i64 0, .int .i64 (v12 : Int), .int .i64 4, .int .i64 0, .int .i64 0, .int .i64 0, .int .i64 (v16 : Int), .slice none 0 0, .slice none 0 0]) (fun q hq => by cases hq; exact lg))
    refine Calls.mono (takeP _ g a n c bs 20 p h7'.out (by have := EP.out; omega)) ?_
    rintro e w8 ⟨A8, c8, rfl, o8, r8, g8⟩
    rw [ES.out.1] at o8
    have hl8 : w2.heap.size < w7.heap.size := K.lt q7.out
    have O8 := Lib.hid (own_base o8 (show w2.heap.size + 1 ≤ _ by simp only [setRow_size]; exact hl8))
    have L8 := Lib.hid o8.lt
    have q8 := Lib.hid (K.kept g8 q7'.out (fun k hk => by cases hk; omega))
    have z8 := Lib.hid (K.kept g8 z7'.out (fun k hk => by cases hk; omega))
    have G8 := Lib.hid (grownBy_trans G7'.out g8)
    have h8 := Lib.hid (show Rp w8 g (some a) n c bs hd by rw [EP.out.1]; exact r8)
    clear o8 r8 g8 q7 z7 G7 h7 q7' z7' G7' h7'
    have u17 := K.cell q8.out 17 _ rfl
    have x17 := frozen_of_row _ _ 17 _ _ q8.out
    go_wp2_with fail
    clear u17 x17
    have GS := Lib.hid (grownBy_set w8 w2.heap.size 17 (.slice A8 p c8))
    have q8' : Hid ((w8.setCell ⟨w2.heap.size, 17, none⟩ (.slice A8 p c8)).heap[w2.heap.size]? = some (.cells #[.int .i64 ((b1 : Int) / 4), .int .i64 ((b1 : Int) % 4), .int .i64 (v4 : Int), .int .i64 ((v6 : Int) / 8192), .int .i64 ((v6 : Int) % 8192), .int .i64 (v8 : Int), .int .i64 (v9 : Int), .int .i64 4, .int .i64 0, .int .i64 0, .int .i64 0, .int .i64 (v12 : Int), .int .i64 4, .int .i64 0, .int .i64 0, .int .i64 0, .int .i64 (v16 : Int), .slice A8 p c8, .slice none 0 0] 31 (0, 0))) := Lib.hid (K.set q8.out 17 _)
    have z8' := Lib.hid (K.other z8.out w2.heap.size 17 (.slice A8 p c8) (by omega))
    have G8' := Lib.hid (grown_other G8.out GS.out (fun u hu => by cases hu; exact Nat.le_of_lt lf))
    have h8' := Lib.hid (h8.out.away GS.out (fun q hq => by cases hq; exact lg))
    have O8' := Lib.hid (own_set O8.out w2.heap.size 17 (.slice A8 p c8) (by omega))
    refine Calls.mono (takeP _ g a n c bs hd q h8'.out (by have := EP.out; omega)) ?_
    rintro e w9 ⟨D9, d9, rfl, o9, r9, g9⟩
    rw [ES.out.2] at o9
    have AP := Lib.hid (apart_of (fun k hk => O8'.out.lt k hk) (fun k hk => o9.lt k hk))
    have O9 := Lib.hid (own_grown O8'.out g9 (fun k hk e => by have := (O8'.out.lt k hk).1; injection e with e; omega))
    have P9 := Lib.hid (own_base o9 (show w2.heap.size + 1 ≤ _ from K.lt q8'.out))
    have q9 := Lib.hid (K.kept g9 q8'.out (fun k hk => by cases hk; omega))
    have z9 := Lib.hid (K.kept g9 z8'.out (fun k hk => by cases hk; omega))
    have G9 := Lib.hid (grownBy_trans G8'.out g9)
    have h9 := Lib.hid (show Rp w9 g (some a) n c bs t by rw [EP.out.2]; exact r9)
    clear o9 r9 g9 q8 z8 G8 h8 q8' z8' G8' h8' O8 O8' GS
    have u18 := K.cell q9.out 18 _ rfl
    have x18 := frozen_of_row _ _ 18 _ _ q9.out
    have GS := Lib.hid (grownBy_set w9 w2.heap.size 18 (.slice D9 q d9))
    have qa : Hid ((w9.setCell ⟨w2.heap.size, 18, none⟩ (.slice D9 q d9)).heap[w2.heap.size]? = some (.cells #[.int .i64 ((b1 : Int) / 4), .int .i64 ((b1 : Int) % 4), .int .i64 (v4 : Int), .int .i64 ((v6 : Int) / 8192), .int .i64 ((v6 : Int) % 8192), .int .i64 (v8 : Int), .int .i64 (v9 : Int), .int .i64 4, .int .i64 0, .int .i64 0, .int .i64 0, .int .i64 (v12 : Int), .int .i64 4, .int .i64 0, .int .i64 0, .int .i64 0, .int .i64 (v16 : Int), .slice A8 p c8, .slice D9 q d9] 31 (0, 0))) := Lib.hid (K.set q9.out 18 _)
    have za := Lib.hid (K.other z9.out w2.heap.size 18 (.slice D9 q d9) (by omega))
    have Ga := Lib.hid (grown_other G9.out GS.out (fun u hu => by cases hu; exact Nat.le_of_lt lf))
    have ha := Lib.hid (h9.out.away GS.out (fun q hq => by cases hq; exact lg))
    have Oa := Lib.hid (own_set O9.out w2.heap.size 18 (.slice D9 q d9) (by omega))
    have Pa := Lib.hid (own_set P9.out w2.heap.size 18 (.slice D9 q d9) (by omega))
    go_upto_region 16 with fail
    clear u18 x18 GS q9 z9 G9 h9 O9 P9
    generalize w9.setCell ⟨w2.heap.size, 18, none⟩ (.slice D9 q d9) = W at qa za Ga ha Oa Pa ⊢
    go_wp2_with (with_reducible refine loadF rfl _ rfl w2.heap.size rfl qa.out ?_)
    refine Calls.mono (sumIC (⟨(b1 : Int) / 4, (b1 : Int) % 4, v4, (v6 : Int) / 8192, (v6 : Int) % 8192, v8, v9, ⟨4, 0, 0, 0, v12⟩, ⟨4, 0, 0, 0, v16⟩⟩ : Fh) A8 D9 p c8 q d9 os _ (RB.of_own Oa.out) (by rw [← ES.out.1]; have := hln.out; have := EP.out; simp; omega)) ?_
    rintro e wb ⟨rfl, bb⟩
    have qb := Lib.hid (K.below bb qa.out)
    have zb := Lib.hid (K.below bb za.out)
    have Gb := Lib.hid (grownBy_trans Ga.out (below_grown bb _))
    have hb := Lib.hid (ha.out.below bb)
    have Ob := Lib.hid (own_below Oa.out bb)
    have Pb := Lib.hid (own_below Pa.out bb)
    clear bb qa za Ga ha Oa Pa
    have hs := HS.out
    generalize (⟨(b1 : Int) / 4, (b1 : Int) % 4, v4, (v6 : Int) / 8192, (v6 : Int) % 8192, v8, v9, ⟨4, 0, 0, 0, v12⟩, ⟨4, 0, 0, 0, v16⟩⟩ : Fh).sum os q = y at hs ⊢
    go_wp2_with (first | (with_reducible refine loadF rfl _ rfl w2.heap.size rfl qb.out ?_) | (with_reducible refine storeF rfl _ _ rfl w.heap.size rfl rfl zb.out ?_))
    (try simp only [Exit.inBlock, Exit.then])
    refine bodyPost_ret (v := .tuple #[.agg #[.int .i64 ((b1 : Int) / 4), .int .i64 ((b1 : Int) % 4), .int .i64 (v4 : Int), .int .i64 ((v6 : Int) / 8192), .int .i64 ((v6 : Int) % 8192), .int .i64 (v8 : Int), .int .i64 (v9 : Int), .int .i64 4, .int .i64 0, .int .i64 0, .int .i64 0, .int .i64 (v12 : Int), .int .i64 4, .int .i64 0, .int .i64 0, .int .i64 0, .int .i64 (v16 : Int), .slice A8 p c8, .slice D9 q d9], .int .i64 0]) ?_ rfl ⟨A8, c8, D9, d9, rfl, own_base (K.setRow_own _ Ob.out (by omega)) (by omega), own_base (K.setRow_own _ Pb.out (by omega)) (by omega), AP.out, hb.out.away (K.setRow_grown _ _ _) (fun q hq => by cases hq; omega), grown_other Gb.out (K.setRow_grown _ _ _) (fun u hu => by cases hu; exact Nat.le_refl _)⟩
    exact K.resCellTmp Try.results49 _ _ _ w.heap.size _ rfl (run_loadVar_row _ _ 31 31 _ (0, 0) _ (setRow_heap _ _ _ _ _ _ zb.out) Try.underlying31 rfl info_four)
end Go.Proofs.Ytekdfffjlcikeaa
