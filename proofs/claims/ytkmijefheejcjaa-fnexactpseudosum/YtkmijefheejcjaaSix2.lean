/-
  The laws' own copy of an IPv6 packet.
-/
import Derived.Test.YtkmijefheejcjaaSix
namespace Go.Proofs.Ytkmijefheejcjaa
set_option maxRecDepth 100000
open Go.RowKit

theorem info_extn : (Try.prog.info? 74).map (·.size) = some 2 := by kernel_rfl
/-- A row of extension headers of the call's own, with bodies of its own. -/
structure XO (w : World) (base : Nat) (A : Option Addr) (n c : Nat) (zs : List Ey) : Prop where
  len : zs.length = n
  row : w.ownsRow base 74 2 (.slice A n c) n (xcells zs)
  own : ∀ z ∈ zs, w.ownsRow base 5 1 z.body z.bs.length (cellsOf z.bs)
  apart : zs.Pairwise (fun a b => ∀ k, a.body.ownBlock = some k → b.body.ownBlock ≠ some k)
  off : ∀ z ∈ zs, ∀ k, z.body.ownBlock = some k → (Value.slice A n c).ownBlock ≠ some k
theorem XO.xr {w : World} {base : Nat} {A : Option Addr} {n c : Nat} {zs : List Ey} (h : XO w base A n c zs) : XR w w.heap.size A zs := ⟨RV.of_own h.row, fun z hz => RB.of_own (h.own z hz)⟩
theorem XO.below {w w' : World} {base : Nat} {A : Option Addr} {n c : Nat} {zs : List Ey} (h : XO w base A n c zs) (hb : Below w.heap.size w w') : XO w' base A n c zs :=
  ⟨h.len, own_below h.row hb, fun z hz => own_below (h.own z hz) hb, h.apart, h.off⟩
theorem XO.base {w : World} {base base' : Nat} {A : Option Addr} {n c : Nat} {zs : List Ey} (h : XO w base A n c zs) (hb : base' ≤ base) : XO w base' A n c zs :=
  ⟨h.len, own_base h.row hb, fun z hz => own_base (h.own z hz) hb, h.apart, h.off⟩



/-- Bodies of a row that grew by one. -/
theorem pair_snoc {zs : List Ey} {z : Ey} {B : Nat} (h : zs.Pairwise (fun a b => ∀ k, a.body.ownBlock = some k → b.body.ownBlock ≠ some k)) (h1 : ∀ a ∈ zs, ∀ k, a.body.ownBlock = some k → k < B) (h2 : ∀ k, z.body.ownBlock = some k → B ≤ k) :
    (zs ++ [z]).Pairwise (fun a b => ∀ k, a.body.ownBlock = some k → b.body.ownBlock ≠ some k) := by
  rw [List.pairwise_append]
  refine ⟨h, by simp, fun a ha b hb k hk e => ?_⟩
  simp only [List.mem_singleton] at hb
  subst hb
  have := h1 a ha k hk
  have := h2 k e
  omega



/-- What a copy of a packet leaves. -/
def SixOut (x : Sh) (es : List (Int × List UInt8)) (bs : List UInt8) (n m : Nat) (w : World) (e : Ending) (w' : World) : Prop :=
  ∃ A c zs D d, e = .returned (.agg #[.int .i64 x.cls, .int .i64 x.label, .int .i64 x.hops, .int .i64 x.proto, .int .i64 x.src.k, .int .i64 x.src.a, .int .i64 x.src.b, .int .i64 x.src.c, .int .i64 x.src.d, .int .i64 x.dst.k, .int .i64 x.dst.a, .int .i64 x.dst.b, .int .i64 x.dst.c, .int .i64 x.dst.d, .slice A n c, .slice D m d]) ∧ XO w' w.heap.size A n c zs ∧ zs.map Ey.says = es ∧ w'.ownsRow w.heap.size 5 1 (.slice D m d) m (cellsOf bs) ∧
    (∀ k, (Value.slice D m d).ownBlock = some k → (Value.slice A n c).ownBlock ≠ some k ∧ ∀ z ∈ zs, z.body.ownBlock ≠ some k) ∧ Below w.heap.size w w'

theorem XO.set {w : World} {base : Nat} {A : Option Addr} {n c : Nat} {zs : List Ey} (h : XO w base A n c zs) (g j : Nat) (u : Value) (hg : g < base) : XO (w.setCell ⟨g, j, none⟩ u) base A n c zs :=
  ⟨h.len, own_set h.row g j u hg, fun z hz => own_set (h.own z hz) g j u hg, h.apart, h.off⟩
theorem XO.setRow {w : World} {base : Nat} {A : Option Addr} {n c : Nat} {zs : List Ey} (h : XO w base A n c zs) (g : Nat) (cs : Array Value) (hg : g < base) : XO (w.setRow g cs) base A n c zs :=
  ⟨h.len, K.setRow_own cs h.row hg, fun z hz => K.setRow_own cs (h.own z hz) hg, h.apart, h.off⟩
theorem XO.lt {w : World} {base : Nat} {A : Option Addr} {n c : Nat} {zs : List Ey} (h : XO w base A n c zs) : (∀ k, (Value.slice A n c).ownBlock = some k → base ≤ k ∧ k < w.heap.size) ∧ ∀ z ∈ zs, ∀ k, z.body.ownBlock = some k → base ≤ k ∧ k < w.heap.size :=
  ⟨fun k hk => h.row.lt k hk, fun z hz k hk => (h.own z hz).lt k hk⟩

end Go.Proofs.Ytkmijefheejcjaa
