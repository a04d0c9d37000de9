/-
  What reading an IPv6 packet leaves. Plain: nothing here walks the program.
-/
import Derived.Test.YtkmijefheejcjaaKq06
import Derived.Test.YtkmijefheejcjaaKq07
import Derived.Test.YtkmijefheejcjaaKq04
namespace Go.Proofs.Ytkmijefheejcjaa
set_option maxRecDepth 100000
open Go.RowKit

theorem num_take (bs : List UInt8) (e k s : Nat) (h : k + s ≤ e) : num (bs.take e) k s = num bs k s := by
  unfold num
  rw [List.drop_take, List.take_take, Nat.min_eq_left (by omega)]
theorem cut_take (bs : List UInt8) (e k s : Nat) (h : k + s ≤ e) : ((bs.take e).drop k).take s = (bs.drop k).take s := by
  rw [List.drop_take, List.take_take, Nat.min_eq_left (by omega)]
theorem noExt_take (bs : List UInt8) (e q k kind : Nat) : noExt (bs.take e) e q k kind = noExt bs e q k kind := by
  by_cases h : k + 2 ≤ e
  · simp only [noExt, num_take bs e (k + 1) 1 (by omega)]
  · simp only [noExt, show decide (e < k + 2) = true by simp; omega, Bool.or_true, Bool.true_or]
theorem walkX_take (bs : List UInt8) (e : Nat) : ∀ (f k kind : Nat) (acc : List (Int × List UInt8)), walkX (bs.take e) e f k kind acc = walkX bs e f k kind acc
  | 0, _, _, _ => rfl
  | f + 1, k, kind, acc => by
    cases hi : inner kind with
    | false => rw [walkX_end hi, walkX_end hi]
    | true =>
      cases hx : noExt bs e acc.length k kind with
      | true => rw [walkX_no hi (by rw [noExt_take]; exact hx), walkX_no hi hx]
      | false =>
        have hh := noExt_iff.1 hx
        rw [walkX_go hi (by rw [noExt_take]; exact hx), walkX_go hi hx, num_take bs e (k + 1) 1 (by omega), num_take bs e k 1 (by omega), cut_take bs e (k + 2) _ (by omega)]
        exact walkX_take bs e f _ _ _
/-- The place behind the last extension header does not lie behind the end; there are at most three; their bodies are short. -/
theorem walkX_some {bs : List UInt8} {e : Nat} : ∀ (f k kind : Nat) (acc : List (Int × List UInt8)) (acc' : List (Int × List UInt8)) (kind' k' : Nat), k ≤ e → acc.length ≤ 3 → walkX bs e f k kind acc = some (acc', kind', k') → k' ≤ e ∧ acc'.length ≤ 3 ∧ k ≤ k'
  | 0, _, _, _, _, _, _, _, _, h => by simp [walkX] at h
  | f + 1, k, kind, acc, acc', kind', k', hk, ha, h => by
    cases hi : inner kind with
    | false =>
      rw [walkX_end hi] at h
      simp only [Option.some.injEq, Prod.mk.injEq] at h
      obtain ⟨rfl, rfl, rfl⟩ := h
      exact ⟨hk, ha, Nat.le_refl _⟩
    | true =>
      cases hx : noExt bs e acc.length k kind with
      | true => rw [walkX_no hi hx] at h; cases h
      | false =>
        have hh := noExt_iff.1 hx
        rw [walkX_go hi hx] at h
        have := walkX_some f _ _ _ _ _ _ (by omega) (by simp; omega) h
        omega
def sx0 (bs : List UInt8) (kind : Nat) : Sh := ⟨((num bs 0 4 / 1048576 % 256 : Nat) : Int), (num bs 0 4 : Int) % 1048576, num bs 7 1, kind, ofA ((bs.drop 8).take 16), ofA ((bs.drop 24).take 16)⟩
/-- What is got: the extension headers, the kind behind them, their end. -/
def sGot (bs : List UInt8) : Option (List (Int × List UInt8) × Nat × Nat) := if src6 bs = 0 then sWalk bs else none
def srx (bs : List UInt8) : Sh := match sGot bs with | some (_, kind, _) => sx0 bs kind | none => Sh.zero
def sre (bs : List UInt8) : List (Int × List UInt8) := match sGot bs with | some (acc, _, _) => acc | none => []
def srb (bs : List UInt8) : List UInt8 := match sGot bs with | some (_, _, k) => (bs.drop k).take (sEnd bs - k) | none => []
def srr (bs : List UInt8) : List UInt8 := match sGot bs with | some _ => bs.drop (sEnd bs) | none => []

/-- What reading leaves: the packet, its extension headers and body, the rest, the code; all in memory of its own. -/
def SROut (bs : List UInt8) (w : World) (e : Ending) (w' : World) : Prop :=
  ∃ A c zs D d E g, e = .returned (.tuple #[.agg #[.int .i64 (srx bs).cls, .int .i64 (srx bs).label, .int .i64 (srx bs).hops, .int .i64 (srx bs).proto, .int .i64 (srx bs).src.k, .int .i64 (srx bs).src.a, .int .i64 (srx bs).src.b, .int .i64 (srx bs).src.c, .int .i64 (srx bs).src.d, .int .i64 (srx bs).dst.k, .int .i64 (srx bs).dst.a, .int .i64 (srx bs).dst.b, .int .i64 (srx bs).dst.c, .int .i64 (srx bs).dst.d, .slice A (sre bs).length c, .slice D (srb bs).length d], .slice E (srr bs).length g, .int .i64 (src6 bs)]) ∧
    XO w' w.heap.size A (sre bs).length c zs ∧ zs.map Ey.says = sre bs ∧ w'.ownsRow w.heap.size 5 1 (.slice D (srb bs).length d) (srb bs).length (cellsOf (srb bs)) ∧ w'.ownsRow w.heap.size 5 1 (.slice E (srr bs).length g) (srr bs).length (cellsOf (srr bs)) ∧
    (∀ k, (Value.slice D (srb bs).length d).ownBlock = some k → (Value.slice A (sre bs).length c).ownBlock ≠ some k ∧ ∀ z ∈ zs, z.body.ownBlock ≠ some k) ∧
    (∀ k, (Value.slice E (srr bs).length g).ownBlock = some k → (Value.slice D (srb bs).length d).ownBlock ≠ some k ∧ (Value.slice A (sre bs).length c).ownBlock ≠ some k ∧ ∀ z ∈ zs, z.body.ownBlock ≠ some k) ∧ Below w.heap.size w w'
theorem srOut_no {bs : List UInt8} {k : Int} (h : src6 bs = k) (hk : k ≠ 0) {w w' : World} (hb : Below w.heap.size w w') : SROut bs w (.returned (.tuple #[.agg #[.int .i64 Sh.zero.cls, .int .i64 Sh.zero.label, .int .i64 Sh.zero.hops, .int .i64 Sh.zero.proto, .int .i64 Sh.zero.src.k, .int .i64 Sh.zero.src.a, .int .i64 Sh.zero.src.b, .int .i64 Sh.zero.src.c, .int .i64 Sh.zero.src.d, .int .i64 Sh.zero.dst.k, .int .i64 Sh.zero.dst.a, .int .i64 Sh.zero.dst.b, .int .i64 Sh.zero.dst.c, .int .i64 Sh.zero.dst.d, .slice none 0 0, .slice none 0 0], .slice none 0 0, .int .i64 k])) w' := by
  have e0 : sGot bs = none := by simp [sGot, h, hk]
  have e1 : srx bs = Sh.zero := by simp [srx, e0]
  have e2 : sre bs = [] := by simp [sre, e0]
  have e3 : srb bs = [] := by simp [srb, e0]
  have e4 : srr bs = [] := by simp [srr, e0]
  unfold SROut
  rw [e1, e2, e3, e4, h]
  exact ⟨none, 0, [], none, 0, none, 0, rfl, ⟨rfl, ⟨rfl, .inl ⟨rfl, rfl⟩⟩, by simp, by simp, by simp⟩, rfl, ⟨rfl, .inl ⟨rfl, rfl⟩⟩, ⟨rfl, .inl ⟨rfl, rfl⟩⟩, (fun _ h => by cases h), (fun _ h => by cases h), hb⟩
theorem srOut_yes {bs : List UInt8} {acc : List (Int × List UInt8)} {kind k : Nat} (h : src6 bs = 0) (hw : sWalk bs = some (acc, kind, k)) {x : Sh} {ds rs : List UInt8} {n m l : Nat} (hx : sx0 bs kind = x) (hd : (bs.drop k).take (sEnd bs - k) = ds) (hr : bs.drop (sEnd bs) = rs) (hn : acc.length = n) (hm : ds.length = m) (hl : rs.length = l) {w w' : World} {A D E : Option Addr} {c d g : Nat} {zs : List Ey}
    (oA : XO w' w.heap.size A n c zs) (hz : zs.map Ey.says = acc) (oD : w'.ownsRow w.heap.size 5 1 (.slice D m d) m (cellsOf ds)) (oE : w'.ownsRow w.heap.size 5 1 (.slice E l g) l (cellsOf rs))
    (h1 : ∀ k, (Value.slice D m d).ownBlock = some k → (Value.slice A n c).ownBlock ≠ some k ∧ ∀ z ∈ zs, z.body.ownBlock ≠ some k) (h2 : ∀ k, (Value.slice E l g).ownBlock = some k → (Value.slice D m d).ownBlock ≠ some k ∧ (Value.slice A n c).ownBlock ≠ some k ∧ ∀ z ∈ zs, z.body.ownBlock ≠ some k)
    (hb : Below w.heap.size w w') : SROut bs w (.returned (.tuple #[.agg #[.int .i64 x.cls, .int .i64 x.label, .int .i64 x.hops, .int .i64 x.proto, .int .i64 x.src.k, .int .i64 x.src.a, .int .i64 x.src.b, .int .i64 x.src.c, .int .i64 x.src.d, .int .i64 x.dst.k, .int .i64 x.dst.a, .int .i64 x.dst.b, .int .i64 x.dst.c, .int .i64 x.dst.d, .slice A n c, .slice D m d], .slice E l g, .int .i64 0])) w' := by
  have e0 : sGot bs = some (acc, kind, k) := by simp [sGot, h, hw]
  have e1 : srx bs = x := by simp [srx, e0, hx]
  have e2 : sre bs = acc := by simp [sre, e0]
  have e3 : srb bs = ds := by simp [srb, e0, hd]
  have e4 : srr bs = rs := by simp [srr, e0, hr]
  unfold SROut
  rw [e1, e2, e3, e4, h, hn, hm, hl]
  exact ⟨A, c, zs, D, d, E, g, rfl, oA, hz, oD, oE, h1, h2, hb⟩
end Go.Proofs.Ytkmijefheejcjaa
