/-
  Flow keys, their hashes, cells and tables as plain data. Nothing here speaks of the program.
-/
import Derived.Test.YtmfkpiclpkeemaaCeLib
import Derived.Test.YtmfkpiclpkeemaaRuLib
import Derived.Test.YtmfkpiclpkeemaaProLib
namespace Go.Proofs.Ytmfkpiclpkeemaa
set_option maxRecDepth 100000
open Go.RowKit

def Fk.ok (k : Fk) : Bool := btw 1 k.tenant 8 && k.key.ok
/-- The bytes that are hashed. -/
def Fk.bytes (k : Fk) : List UInt8 := [byteOf k.tenant, byteOf k.key.src.k] ++ k.key.src.bytes ++ k.key.dst.bytes ++ [byteOf k.key.proto] ++ put16 k.key.sport ++ put16 k.key.dport
def mix (h : Nat) (b : UInt8) : Nat := (h ^^^ b.toNat) * 16777619 % 4294967296
def fin32 (h : Nat) : Nat := h ^^^ (h / 65536)
def mixed (s : Nat) (bs : List UInt8) : Nat := bs.foldl mix s
def hashN (s : Int) (k : Fk) : Nat := fin32 (mixed s.toNat k.bytes)
def hashOf (s : Int) (k : Fk) : Int := if upTo s 4294967295 && k.ok then (hashN s k : Int) else -1
theorem mix_lt (h : Nat) (b : UInt8) : mix h b < 4294967296 := by
  unfold mix
  exact Nat.mod_lt _ (by omega)
theorem xor_lt {h b : Nat} (hh : h < 4294967296) (hb : b < 4294967296) : h ^^^ b < 4294967296 := by
  have := Nat.xor_lt_two_pow (n := 32) (x := h) (y := b) (by omega) (by omega)
  omega
theorem mixed_lt {s : Nat} (h : s < 4294967296) (bs : List UInt8) : mixed s bs < 4294967296 := by
  unfold mixed
  induction bs generalizing s with
  | nil => exact h
  | cons b bs ih => exact ih (mix_lt s b)
theorem mixed_snoc (s : Nat) (bs : List UInt8) (b : UInt8) : mixed s (bs ++ [b]) = mix (mixed s bs) b := by
  unfold mixed
  rw [List.foldl_append, List.foldl_cons, List.foldl_nil]
theorem fin32_lt {h : Nat} (hh : h < 4294967296) : fin32 h < 4294967296 := by
  unfold fin32
  exact xor_lt hh (by omega)
theorem hashN_lt {s : Int} (h : upTo s 4294967295 = true) (k : Fk) : hashN s k < 4294967296 := by
  simp only [upTo, decide_eq_true_eq] at h
  exact fin32_lt (mixed_lt (by omega) _)
theorem hashOf_yes {s : Int} {k : Fk} (h : upTo s 4294967295 = true) (h2 : k.ok = true) : hashOf s k = (hashN s k : Int) := by simp [hashOf, h, h2]
theorem hashOf_no1 {s : Int} {k : Fk} (h : upTo s 4294967295 = false) : hashOf s k = -1 := by simp [hashOf, h]
theorem hashOf_no2 {s : Int} {k : Fk} (h : k.ok = false) : hashOf s k = -1 := by simp [hashOf, h]
theorem Fk.no1 {k : Fk} (h : btw 1 k.tenant 8 = false) : k.ok = false := by simp [Fk.ok, h]
theorem Fk.yes {k : Fk} (h : btw 1 k.tenant 8 = true) : k.ok = k.key.ok := by simp [Fk.ok, h]

/-- The cell at a place. -/
def ceAt (cs : List Ce) (i : Nat) : Ce := cs.getD i Ce.zero
theorem ceAt_get {cs : List Ce} {i : Nat} (h : i < cs.length) : ceAt cs i = cs[i] := by simp [ceAt, h]
def homeOf (s : Int) (n : Nat) (k : Fk) : Nat := hashN s k % n
theorem homeOf_lt (s : Int) {n : Nat} (h : 0 < n) (k : Fk) : homeOf s n k < n := Nat.mod_lt _ h
def probeT (s : Int) (cs : List Ce) (k : Fk) : Option Nat := probe Ce.used Ce.key (homeOf s cs.length) cs.length (ceAt cs) k
def placeT (cs : List Ce) (k : Fk) : Option Nat := place Ce.used Ce.key cs.length (ceAt cs) k
/-- A place, or -1. -/
def idx : Option Nat → Int
  | some p => p
  | none => -1
def Ce.fits (c : Ce) : Bool := if c.used then c.key.ok && btw 0 c.num 1000000000000 else decide (c = Ce.zero)
def usedN (cs : List Ce) : Nat := cs.countP Ce.used
def sizeOk (n : Nat) : Bool := n == 4 || n == 8 || n == 16 || n == 32 || n == 64
def cellFine (s : Int) (cs : List Ce) (i : Nat) : Bool := (ceAt cs i).fits && (!(ceAt cs i).used || decide (probeT s cs (ceAt cs i).key = some i))
def tabOk (s : Int) (cs : List Ce) : Bool := upTo s 4294967295 && sizeOk cs.length && decide (usedN cs ≤ cs.length / 4 * 3) && (List.range cs.length).all (cellFine s cs)
theorem sizeOk_iff (n : Nat) : sizeOk n = true ↔ n = 4 ∨ n = 8 ∨ n = 16 ∨ n = 32 ∨ n = 64 := by simp [sizeOk]; omega
theorem usedN_le (cs : List Ce) : usedN cs ≤ cs.length := List.countP_le_length
theorem usedN_succ {cs : List Ce} {k : Nat} (h : k < cs.length) : usedN (cs.take (k + 1)) = usedN (cs.take k) + (if cs[k].used then 1 else 0) := by
  rw [take_snoc cs k h, usedN, usedN, List.countP_append]
  cases hu : cs[k].used <;> simp [hu]
theorem tabOk_parts {s : Int} {cs : List Ce} (h : tabOk s cs = true) : upTo s 4294967295 = true ∧ sizeOk cs.length = true ∧ usedN cs ≤ cs.length / 4 * 3 ∧ ∀ i, i < cs.length → cellFine s cs i = true := by
  simpa [tabOk, and_assoc] using h
theorem tabOk_no1 {s : Int} {cs : List Ce} (h : upTo s 4294967295 = false) : tabOk s cs = false := by simp [tabOk, h]
theorem tabOk_no2 {s : Int} {cs : List Ce} (h : sizeOk cs.length = false) : tabOk s cs = false := by simp [tabOk, h]
theorem tabOk_no3 {s : Int} {cs : List Ce} (h : ¬ usedN cs ≤ cs.length / 4 * 3) : tabOk s cs = false := by simp [tabOk, h]
theorem tabOk_no4 {s : Int} {cs : List Ce} {i : Nat} (hi : i < cs.length) (h : cellFine s cs i = false) : tabOk s cs = false := by
  cases e : tabOk s cs with
  | false => rfl
  | true => rw [(tabOk_parts e).2.2.2 i hi] at h; cases h
theorem tabOk_yes {s : Int} {cs : List Ce} (h1 : upTo s 4294967295 = true) (h2 : sizeOk cs.length = true) (h3 : usedN cs ≤ cs.length / 4 * 3) (h4 : ∀ i, i < cs.length → cellFine s cs i = true) : tabOk s cs = true := by
  simp only [tabOk, h1, h2, h3, decide_true, Bool.and_self, Bool.true_and, List.all_eq_true, List.mem_range]
  exact h4
theorem size_pos {n : Nat} (h : sizeOk n = true) : 4 ≤ n ∧ n ≤ 64 := by
  rw [sizeOk_iff] at h
  omega
/-- A table that is not full has a free cell. -/
theorem free_cell {cs : List Ce} (h : usedN cs < cs.length) : ∃ q, q < cs.length ∧ (ceAt cs q).used = false := by
  rcases Classical.em (∃ q, q < cs.length ∧ (ceAt cs q).used = false) with h1 | h1
  · exact h1
  · exfalso
    have : usedN cs = cs.length := by
      rw [usedN, List.countP_eq_length]
      intro c hc
      obtain ⟨i, hi, rfl⟩ := List.mem_iff_getElem.1 hc
      cases hu : cs[i].used with
      | true => rfl
      | false => exact absurd ⟨i, hi, by rw [ceAt_get hi]; exact hu⟩ h1
    omega
theorem free_of_ok {cs : List Ce} (h2 : sizeOk cs.length = true) (h3 : usedN cs ≤ cs.length / 4 * 3) : ∃ q, q < cs.length ∧ (ceAt cs q).used = false := by
  rw [sizeOk_iff] at h2
  exact free_cell (by omega)
theorem tab_good {s : Int} {cs : List Ce} (h : tabOk s cs = true) : Good Ce.used Ce.key (homeOf s cs.length) cs.length (ceAt cs) := by
  intro i hi ui
  have := (tabOk_parts h).2.2.2 i hi
  simp only [cellFine, ui, Bool.not_true, Bool.false_or, Bool.and_eq_true, decide_eq_true_eq] at this
  exact this.2
theorem tab_probe {s : Int} {cs : List Ce} (h : tabOk s cs = true) (k : Fk) : ∃ p, p < cs.length ∧ probeT s cs k = some p := by
  obtain ⟨_, h2, h3, _⟩ := tabOk_parts h
  obtain ⟨q, hq, uq⟩ := free_of_ok h2 h3
  exact probe_ex (fun k => homeOf_lt s (by have := size_pos h2; omega) k) hq uq k
theorem tab_fits {s : Int} {cs : List Ce} (h : tabOk s cs = true) {i : Nat} (hi : i < cs.length) : (ceAt cs i).fits = true := by
  have := (tabOk_parts h).2.2.2 i hi
  simp only [cellFine, Bool.and_eq_true] at this
  exact this.1
theorem fits_0 {c : Ce} (hu : c.used = false) : c.fits = decide (c = Ce.zero) := by simp [Ce.fits, hu]
theorem fits_1 {c : Ce} (hu : c.used = true) (h : c.key.ok = false) : c.fits = false := by simp [Ce.fits, hu, h]
theorem fits_2 {c : Ce} (hu : c.used = true) (h : c.key.ok = true) : c.fits = btw 0 c.num 1000000000000 := by simp [Ce.fits, hu, h]
theorem fits_free {c : Ce} (h : c.fits = true) (hu : c.used = false) : c = Ce.zero := by
  simpa [Ce.fits, hu] using h
theorem fits_used {c : Ce} (h : c.fits = true) (hu : c.used = true) : c.key.ok = true ∧ btw 0 c.num 1000000000000 = true := by
  simpa [Ce.fits, hu] using h

/-- What TableFind answers. -/
def tabFind (s : Int) (cs : List Ce) (k : Fk) : Int × Bool :=
  if tabOk s cs && k.ok then match probeT s cs k with | some p => ((ceAt cs p).num, (ceAt cs p).used) | none => (0, false) else (0, false)
def tabUsed (s : Int) (cs : List Ce) : Int := if tabOk s cs then (usedN cs : Int) else -1
def keysOf (cs : List Ce) : List Fk := (cs.filter Ce.used).map Ce.key
def tabKeys (s : Int) (cs : List Ce) : List Fk := if tabOk s cs then keysOf cs else []
theorem keysOf_succ {cs : List Ce} {k : Nat} (h : k < cs.length) : keysOf (cs.take (k + 1)) = keysOf (cs.take k) ++ (if cs[k].used then [cs[k].key] else []) := by
  rw [take_snoc cs k h, keysOf, keysOf, List.filter_append, List.map_append]
  cases hu : cs[k].used <;> simp [hu]
theorem keysOf_length (cs : List Ce) : (keysOf cs).length ≤ cs.length := by
  rw [keysOf, List.length_map]
  exact List.length_filter_le _ _
theorem tabKeys_length (s : Int) (cs : List Ce) : (tabKeys s cs).length ≤ cs.length := by
  unfold tabKeys
  split
  · exact keysOf_length cs
  · simp
/-- What a put leaves where the probe ended at p. -/
def putAt (cs : List Ce) (p : Nat) (k : Fk) (v : Int) : List Ce := cs.set p ⟨true, k, v⟩
/-- A table as a result: its seed, its cells. -/
structure Tb where
  seed : Int
  cells : List Ce
def Tb.zero : Tb := ⟨0, []⟩
def tabPut (s : Int) (cs : List Ce) (k : Fk) (v : Int) : Tb × Int :=
  if tabOk s cs && k.ok && btw 0 v 1000000000000 then
    match probeT s cs k with
    | some p => if !(ceAt cs p).used && decide (usedN cs = cs.length / 4 * 3) then (Tb.zero, 2) else (⟨s, putAt cs p k v⟩, 0)
    | none => (Tb.zero, 1)
  else (Tb.zero, 1)
/-- A cell put again: where the probe for its key ends. -/
def putIn (s : Int) (cs : List Ce) (c : Ce) : List Ce :=
  match probeT s cs c.key with
  | some p => putAt cs p c.key c.num
  | none => cs
def tabNew (s : Int) (n : Int) : Tb := if upTo s 4294967295 && sizeOk n.toNat then ⟨s, List.replicate n.toNat Ce.zero⟩ else Tb.zero
def grown (s : Int) (cs : List Ce) : List Ce := (cs.filter Ce.used).foldl (putIn s) (List.replicate (2 * cs.length) Ce.zero)
def tabGrow (s : Int) (cs : List Ce) : Tb × Int :=
  if tabOk s cs then (if cs.length = 64 then (Tb.zero, 2) else (⟨s, grown s cs⟩, 0)) else (Tb.zero, 1)
end Go.Proofs.Ytmfkpiclpkeemaa
