/-
  Ethernet frames as four integers and a body. Plain: nothing here speaks of the program. The program's reader over bytes: the next number, what is left, a copy of the next bytes. What bytes are read as: a head, a body, a code. Plain: nothing here speaks of the program. AddrOf in the program. The program's reader of packets: it holds the reader of frames as its first field. IPv6 packets as four integers, two addresses, extension headers and a body; rows of extension headers in memory. Plain: nothing here speaks of the program's functions. What bytes are read as, as an IPv6 packet. Plain: nothing here speaks of the program. IPv6 packets in memory: whole loads and stores; the laws' own helpers on their extension headers: a size, a copy. The laws' own copy of an IPv6 packet. The program's reader of IPv6 packets: its first word, its addresses, one extension header. What SixOk calls, in the program and in the model. The program's reading of all extension headers.
-/
import Derived.Test.YthogonpjkngpjaaRb02
import Derived.Test.YthogonpjkngpjaaRb03
import Derived.Deep.QuietTactic
import Derived.BigQuiet
import Derived.StillTailTactics
import Derived.Lib.SliceRun
import Derived.Test.YthogonpjkngpjaaRb04
import Derived.Test.YthogonpjkngpjaaRb07
import Derived.Test.YthogonpjkngpjaaRb01
import Derived.Laws.MakeOwn
import Derived.Laws.OwnMore
import Derived.Laws.Tables
import Derived.Deep.WholeRow
import Derived.Test.YthogonpjkngpjaaRb06
namespace Go.Proofs.Ythogonpjkngpjaa
set_option maxRecDepth 100000
open Go.RowKit

/-- The head of a frame: Dst, Src, Tag, Kind. -/
structure Eh where
  d : Int
  s : Int
  t : Int
  k : Int
deriving DecidableEq

def Eh.zero : Eh := ⟨0, 0, 0, 0⟩
def Eh.head (x : Eh) : Int := if x.t = -1 then 14 else 18
def macOk (n : Int) : Bool := decide (0 ≤ n ∧ n ≤ 281474976710655)
def kindOk (n : Int) : Bool := decide (1536 ≤ n ∧ n ≤ 65535 ∧ n ≠ 33024)
def tagOk (n : Int) : Bool := decide (-1 ≤ n ∧ n ≤ 65535)
/-- Is a frame with this head and n bytes of a body valid? -/
def Eh.ok (x : Eh) (n : Nat) : Bool := macOk x.d && macOk x.s && tagOk x.t && kindOk x.k && decide ((n : Int) ≤ 1600 - x.head)
theorem Eh.ok_iff (x : Eh) (n : Nat) : x.ok n = true ↔ (0 ≤ x.d ∧ x.d ≤ 281474976710655) ∧ (0 ≤ x.s ∧ x.s ≤ 281474976710655) ∧ (-1 ≤ x.t ∧ x.t ≤ 65535) ∧ (1536 ≤ x.k ∧ x.k ≤ 65535 ∧ x.k ≠ 33024) ∧ (n : Int) ≤ 1600 - x.head := by
  simp only [Eh.ok, macOk, tagOk, kindOk, Bool.and_eq_true, decide_eq_true_eq, and_assoc]
/-- The six bytes of an address. -/
def mac (n : Int) : List UInt8 := put16 (n / 4294967296) ++ put32 n
/-- The bytes of a head. -/
def Eh.top (x : Eh) : List UInt8 := mac x.d ++ mac x.s ++ (if x.t = -1 then [] else put16 33024 ++ put16 x.t) ++ put16 x.k
def Eh.bytes (x : Eh) (bs : List UInt8) : List UInt8 := if x.ok bs.length then x.top ++ bs else []
end Go.Proofs.Ythogonpjkngpjaa

namespace Go.Proofs.Ythogonpjkngpjaa
set_option maxRecDepth 100000
open Go.RowKit

/-- The reader lies in block g: its bytes (they read as bs and lie below g) and its place k. -/
structure Rd (w : World) (g : Nat) (A : Option Addr) (n c : Nat) (bs : List UInt8) (k : Nat) : Prop where
  blk : w.heap[g]? = some (.cells #[.slice A n c, .int .i64 (k : Int)] 77 (0, 0))
  rb : RB w g A bs
  len : bs.length = n
  small : n ≤ 1048576
  cap : n ≤ c
section
variable {w w' : World} {g : Nat} {A : Option Addr} {n c : Nat} {bs : List UInt8} {k : Nat}
theorem Rd.lt (h : Rd w g A n c bs k) : g < w.heap.size := K.lt h.blk
theorem Rd.setAt (h : Rd w g A n c bs k) (m j : Nat) : Rd ((w.drewN m).setCell ⟨g, 1, none⟩ (.int .i64 (j : Int))) g A n c bs j ∧ w.grownBy ((w.drewN m).setCell ⟨g, 1, none⟩ (.int .i64 (j : Int))) (some g) := by
  have hg := step_grown w g 1 m (.int .i64 (j : Int))
  exact ⟨⟨K.set (w := w.drewN m) h.blk 1 _, h.rb.grownBy hg (Nat.le_refl _), h.len, h.small, h.cap⟩, hg⟩
theorem Rd.below (h : Rd w g A n c bs k) (hb : Below w.heap.size w w') : Rd w' g A n c bs k := ⟨K.below hb h.blk, h.rb.below (hb.mono (Nat.le_of_lt h.lt)), h.len, h.small, h.cap⟩
theorem Rd.drewN (h : Rd w g A n c bs k) (m : Nat) : Rd (w.drewN m) g A n c bs k := ⟨h.blk, h.rb, h.len, h.small, h.cap⟩
end

end Go.Proofs.Ythogonpjkngpjaa

namespace Go.Proofs.Ythogonpjkngpjaa
set_option maxRecDepth 100000
open Go.RowKit

end Go.Proofs.Ythogonpjkngpjaa

namespace Go.Proofs.Ythogonpjkngpjaa
set_option maxRecDepth 100000
open Go.RowKit

end Go.Proofs.Ythogonpjkngpjaa

namespace Go.Proofs.Ythogonpjkngpjaa
set_option maxRecDepth 100000
open Go.RowKit

/-- The reader lies in block g: its bytes (they read as bs and lie below g) and its place k. -/
structure Rp (w : World) (g : Nat) (A : Option Addr) (n c : Nat) (bs : List UInt8) (k : Nat) : Prop where
  blk : w.heap[g]? = some (.cells #[.slice A n c, .int .i64 (k : Int)] 79 (0, 0))
  rb : RB w g A bs
  len : bs.length = n
  small : n ≤ 1048576
  cap : n ≤ c
section
variable {w w' : World} {g : Nat} {A : Option Addr} {n c : Nat} {bs : List UInt8} {k : Nat}
theorem Rp.lt (h : Rp w g A n c bs k) : g < w.heap.size := K.lt h.blk
theorem Rp.setAt (h : Rp w g A n c bs k) (m j : Nat) : Rp ((w.drewN m).setCell ⟨g, 1, none⟩ (.int .i64 (j : Int))) g A n c bs j ∧ w.grownBy ((w.drewN m).setCell ⟨g, 1, none⟩ (.int .i64 (j : Int))) (some g) := by
  have hg := step_grown w g 1 m (.int .i64 (j : Int))
  exact ⟨⟨K.set (w := w.drewN m) h.blk 1 _, h.rb.grownBy hg (Nat.le_refl _), h.len, h.small, h.cap⟩, hg⟩
theorem Rp.below (h : Rp w g A n c bs k) (hb : Below w.heap.size w w') : Rp w' g A n c bs k := ⟨K.below hb h.blk, h.rb.below (hb.mono (Nat.le_of_lt h.lt)), h.len, h.small, h.cap⟩
theorem Rp.drewN (h : Rp w g A n c bs k) (m : Nat) : Rp (w.drewN m) g A n c bs k := ⟨h.blk, h.rb, h.len, h.small, h.cap⟩
end

end Go.Proofs.Ythogonpjkngpjaa

namespace Go.Proofs.Ythogonpjkngpjaa
set_option maxRecDepth 100000
open Go.RowKit

/-- An extension header, and where its body lies. -/
structure Ey where
  k : Int
  bs : List UInt8
  A : Option Addr
  c : Nat
def Ey.zero : Ey := ⟨0, [], none, 0⟩
def Ey.body (y : Ey) : Value := .slice y.A y.bs.length y.c
def Ey.cells (y : Ey) : List Value := [.int .i64 y.k, .slice y.A y.bs.length y.c]
/-- What it says. -/
def Ey.says (y : Ey) : Int × List UInt8 := (y.k, y.bs)
def xcells (ys : List Ey) : List Value := ys.flatMap Ey.cells

theorem xcells_cons (y : Ey) (ys : List Ey) : xcells (y :: ys) = .int .i64 y.k :: .slice y.A y.bs.length y.c :: xcells ys := by simp [xcells, Ey.cells]
theorem xcells_length (ys : List Ey) : (xcells ys).length = ys.length * 2 := by
  induction ys with
  | nil => rfl
  | cons y ys ih => rw [xcells_cons]; simp [ih]; omega
theorem xcells_get0 (ys : List Ey) (i : Nat) (h : i < ys.length) : (xcells ys)[i * 2]? = some (.int .i64 ys[i].k) := by
  induction ys generalizing i with
  | nil => simp at h
  | cons y ys ih =>
    rw [xcells_cons]
    cases i with
    | zero => simp
    | succ i => simp at h; simp [Nat.succ_mul, ih i h]
theorem xcells_get1 (ys : List Ey) (i : Nat) (h : i < ys.length) : (xcells ys)[i * 2 + 1]? = some (.slice ys[i].A ys[i].bs.length ys[i].c) := by
  induction ys generalizing i with
  | nil => simp at h
  | cons y ys ih =>
    rw [xcells_cons]
    cases i with
    | zero => simp
    | succ i => simp at h; rw [Nat.succ_mul]; simp [ih i h]
/-- The bytes of the bodies in all. -/
def bodies (ys : List Ey) : Nat := (ys.map fun y => y.bs.length).sum
/-- A row of extension headers that can be read, with its bodies. -/
structure XR (w : World) (B : Nat) (A : Option Addr) (ys : List Ey) : Prop where
  row : RV w B A (xcells ys)
  body : ∀ y ∈ ys, RB w B y.A y.bs
section
variable {w w' : World} {B B' : Nat} {A : Option Addr} {ys : List Ey}
theorem XR.below (h : XR w B A ys) (hb : Below B w w') : XR w' B A ys := ⟨h.row.below hb, fun y hy => (h.body y hy).below hb⟩
theorem XR.more (h : XR w B A ys) (hB : B ≤ B') : XR w B' A ys := ⟨h.row.more hB, fun y hy => (h.body y hy).more hB⟩
theorem XR.on (h : XR w w.heap.size A ys) (hb : Below w.heap.size w w') : XR w' w'.heap.size A ys := (h.below hb).more hb.size
theorem XR.at_ (h : XR w B A ys) {i : Nat} (hi : i < ys.length) : ∃ g o, A = some ⟨g, o, none⟩ ∧ g < B ∧ w.cell? ⟨g, o + i * 2, none⟩ = some (.int .i64 ys[i].k) ∧ w.cell? ⟨g, o + i * 2 + 1, none⟩ = some (.slice ys[i].A ys[i].bs.length ys[i].c) := by
  obtain ⟨g, o, e, hg, hc⟩ := h.row (by rw [xcells_length]; omega)
  exact ⟨g, o, e, hg, hc _ _ (xcells_get0 ys i hi), by rw [Nat.add_assoc]; exact hc _ _ (xcells_get1 ys i hi)⟩
end

/-- A row of extension headers that came in. -/
structure XIn (w : World) (A : Option Addr) (n c : Nat) (ys : List Ey) : Prop where
  len : ys.length = n
  cap : n ≤ c
  big : c ≤ maxLen
  row : RV w w.heap.size A (xcells ys)
  body : ∀ y ∈ ys, In w y.A y.bs.length y.c y.bs
/-- The head of a packet, but for its extension headers. -/
structure Sh where
  cls : Int
  label : Int
  hops : Int
  proto : Int
  src : Ad
  dst : Ad
deriving DecidableEq
def Sh.zero : Sh := ⟨0, 0, 0, 0, Ad.zero, Ad.zero⟩
def inner (k : Int) : Bool := decide (k = 0 ∨ k = 43 ∨ k = 60)
def adOk6 (x : Ad) : Bool := decide (x.k = 6) && x.ok
/-- May an extension header of this kind with n bytes of a body lie at place i? -/
def extOk (i : Nat) (e : Int × List UInt8) : Bool := inner e.1 && !(decide (e.1 = 0) && decide (0 < i)) && decide (e.2.length ≤ 62) && decide (e.2.length % 8 = 6)
def extsFrom : Nat → List (Int × List UInt8) → Bool
  | _, [] => true
  | i, e :: es => extOk i e && extsFrom (i + 1) es
def extsOk (es : List (Int × List UInt8)) : Bool := decide (es.length ≤ 3) && extsFrom 0 es
def extsSize (es : List (Int × List UInt8)) : Nat := (es.map fun e => 2 + e.2.length).sum
def Sh.small (x : Sh) : Bool := upTo x.cls 255 && upTo x.label 1048575 && upTo x.hops 255 && upTo x.proto 255 && !inner x.proto
def Sh.ok (x : Sh) (es : List (Int × List UInt8)) (m : Nat) : Bool := x.small && adOk6 x.src && adOk6 x.dst && extsOk es && decide ((m : Int) ≤ 1460 - extsSize es)
end Go.Proofs.Ythogonpjkngpjaa

namespace Go.Proofs.Ythogonpjkngpjaa
set_option maxRecDepth 100000
open Go.RowKit

end Go.Proofs.Ythogonpjkngpjaa

namespace Go.Proofs.Ythogonpjkngpjaa
set_option maxRecDepth 100000
open Go.RowKit

end Go.Proofs.Ythogonpjkngpjaa

namespace Go.Proofs.Ythogonpjkngpjaa
set_option maxRecDepth 100000
open Go.RowKit

/-- A row of extension headers of the call's own, with bodies of its own. -/
structure XO (w : World) (base : Nat) (A : Option Addr) (n c : Nat) (zs : List Ey) : Prop where
  len : zs.length = n
  row : w.ownsRow base 99 2 (.slice A n c) n (xcells zs)
  own : ∀ z ∈ zs, w.ownsRow base 5 1 z.body z.bs.length (cellsOf z.bs)
  apart : zs.Pairwise (fun a b => ∀ k, a.body.ownBlock = some k → b.body.ownBlock ≠ some k)
  off : ∀ z ∈ zs, ∀ k, z.body.ownBlock = some k → (Value.slice A n c).ownBlock ≠ some k
theorem XO.below {w w' : World} {base : Nat} {A : Option Addr} {n c : Nat} {zs : List Ey} (h : XO w base A n c zs) (hb : Below w.heap.size w w') : XO w' base A n c zs :=
  ⟨h.len, own_below h.row hb, fun z hz => own_below (h.own z hz) hb, h.apart, h.off⟩
theorem XO.base {w : World} {base base' : Nat} {A : Option Addr} {n c : Nat} {zs : List Ey} (h : XO w base A n c zs) (hb : base' ≤ base) : XO w base' A n c zs :=
  ⟨h.len, own_base h.row hb, fun z hz => own_base (h.own z hz) hb, h.apart, h.off⟩



theorem XO.set {w : World} {base : Nat} {A : Option Addr} {n c : Nat} {zs : List Ey} (h : XO w base A n c zs) (g j : Nat) (u : Value) (hg : g < base) : XO (w.setCell ⟨g, j, none⟩ u) base A n c zs :=
  ⟨h.len, own_set h.row g j u hg, fun z hz => own_set (h.own z hz) g j u hg, h.apart, h.off⟩
theorem XO.setRow {w : World} {base : Nat} {A : Option Addr} {n c : Nat} {zs : List Ey} (h : XO w base A n c zs) (g : Nat) (cs : Array Value) (hg : g < base) : XO (w.setRow g cs) base A n c zs :=
  ⟨h.len, K.setRow_own cs h.row hg, fun z hz => K.setRow_own cs (h.own z hz) hg, h.apart, h.off⟩
theorem XO.lt {w : World} {base : Nat} {A : Option Addr} {n c : Nat} {zs : List Ey} (h : XO w base A n c zs) : (∀ k, (Value.slice A n c).ownBlock = some k → base ≤ k ∧ k < w.heap.size) ∧ ∀ z ∈ zs, ∀ k, z.body.ownBlock = some k → base ≤ k ∧ k < w.heap.size :=
  ⟨fun k hk => h.row.lt k hk, fun z hz k hk => (h.own z hz).lt k hk⟩

end Go.Proofs.Ythogonpjkngpjaa

namespace Go.Proofs.Ythogonpjkngpjaa
set_option maxRecDepth 100000
open Go.RowKit

end Go.Proofs.Ythogonpjkngpjaa

namespace Go.Proofs.Ythogonpjkngpjaa
set_option maxRecDepth 100000
open Go.RowKit

end Go.Proofs.Ythogonpjkngpjaa

namespace Go.Proofs.Ythogonpjkngpjaa
set_option maxRecDepth 100000
open Go.RowKit

/-- A row of extension headers that grew by one at its end. -/
theorem XO.snoc {w w' : World} {base : Nat} {A : Option Addr} {n c : Nat} {ys : List Ey} {y : Ey} {A2 : Option Addr} {c2 : Nat} (h : XO w base A n c ys) (hg : w.grownBy w' (Value.slice A n c).ownBlock)
    (hr : w'.ownsRow base 99 2 (.slice A2 (n + 1) c2) (n + 1) (xcells (ys ++ [y]))) (hb : (Value.slice A2 (n + 1) c2).ownBlock = (Value.slice A n c).ownBlock ∨ (Value.slice A2 (n + 1) c2).ownBlock = some w.heap.size)
    (hy : w.ownsRow base 5 1 y.body y.bs.length (cellsOf y.bs)) (hap : ∀ z ∈ ys, ∀ k, z.body.ownBlock = some k → y.body.ownBlock ≠ some k) (hoff : ∀ k, y.body.ownBlock = some k → (Value.slice A n c).ownBlock ≠ some k) : XO w' base A2 (n + 1) c2 (ys ++ [y]) := by
  refine ⟨by simp [h.len], hr, fun z hz => ?_, ?_, fun z hz k hk => ?_⟩
  · rcases List.mem_append.1 hz with hz | hz
    · exact own_grown (h.own z hz) hg (fun k hk e => h.off z hz k hk e)
    · simp only [List.mem_singleton] at hz
      subst hz
      exact own_grown hy hg (fun k hk e => hoff k hk e)
  · rw [List.pairwise_append]
    refine ⟨h.apart, by simp, fun a ha b hb k hk => ?_⟩
    simp only [List.mem_singleton] at hb
    subst hb
    exact hap a ha k hk
  · have hlt : k < w.heap.size ∧ (Value.slice A n c).ownBlock ≠ some k := by
      rcases List.mem_append.1 hz with hz | hz
      · exact ⟨((h.own z hz).lt k hk).2, h.off z hz k hk⟩
      · simp only [List.mem_singleton] at hz
        subst hz
        exact ⟨(hy.lt k hk).2, hoff k hk⟩
    rcases hb with hb | hb
    · rw [hb]; exact hlt.2
    · rw [hb]
      intro e
      have := Option.some.inj e
      omega
theorem XO.kept {w w' : World} {base g : Nat} {A : Option Addr} {n c : Nat} {ys : List Ey} (h : XO w base A n c ys) (hg : w.grownBy w' (some g)) (hb : g < base) : XO w' base A n c ys :=
  ⟨h.len, own_grown h.row hg (fun k hk e => by have := (h.row.lt k hk).1; cases e; omega), fun z hz => own_grown (h.own z hz) hg (fun k hk e => by have := ((h.own z hz).lt k hk).1; cases e; omega), h.apart, h.off⟩
/-- One more extension header, read and appended. -/
theorem XO.next {w wr w1 w2 w3 : World} {g : Nat} {A : Option Addr} {q d : Nat} {ys : List Ey} {y : Ey} {A2 : Option Addr} {c2 : Nat} (h : XO wr w.heap.size A q d ys) (hgl : g < w.heap.size) (hw : w.heap.size ≤ wr.heap.size) (g1 : wr.grownBy w1 (some g))
    (hy : w1.ownsRow wr.heap.size 5 1 y.body y.bs.length (cellsOf y.bs)) (hb : Below w1.heap.size w1 w2) (hr : w3.ownsRow w.heap.size 99 2 (.slice A2 (q + 1) c2) (q + 1) (xcells (ys ++ [y]))) (hg : w2.grownBy w3 (Value.slice A q d).ownBlock)
    (hat : (Value.slice A2 (q + 1) c2).ownBlock = (Value.slice A q d).ownBlock ∨ (Value.slice A2 (q + 1) c2).ownBlock = some w2.heap.size) : XO w3 w.heap.size A2 (q + 1) c2 (ys ++ [y]) := by
  refine XO.snoc ((h.kept g1 hgl).below hb) hg hr hat (own_below (own_base hy hw) hb) (fun z hz k hk e => ?_) (fun k hk e => ?_)
  · have h1 := ((h.own z hz).lt k hk).2
    have h2 := (hy.lt k e).1
    omega
  · have h1 := (h.row.lt k e).2
    have h2 := (hy.lt k hk).1
    omega
end Go.Proofs.Ythogonpjkngpjaa
