/-
  The laws' own copy of bytes by 'append'; slices of rows of bytes.
-/
import Derived.Test.YtmfkpiclpkeemaaBytes
namespace Go.Proofs.Ytmfkpiclpkeemaa
set_option maxRecDepth 100000
open Go.RowKit



theorem own_cap {w : World} {base : Nat} {e : TypeId} {size n c : Nat} {A : Option Addr} {xs : List Value} (h : w.ownsRow base e size (.slice A n c) n xs) : n ≤ c := by
  rcases h.2 with ⟨h1, h2⟩ | ⟨g, cap, cur, hv, _, _, hn, _⟩
  · omega
  · injection hv with _ _ hc
    omega

theorem own_some {w : World} {base : Nat} {e : TypeId} {size n c : Nat} {A : Option Addr} {xs : List Value} (h : w.ownsRow base e size (.slice A n c) n xs) (hn : 0 < n) : ∃ g, A = some ⟨g, 0, none⟩ ∧ base ≤ g := by
  rcases h.2 with ⟨h1, h2⟩ | ⟨g, cap, cur, hv, hb, _⟩
  · omega
  · injection hv with hA
    exact ⟨g, hA, hb⟩

/-- The front of a row of bytes of the call's own. -/
theorem own_front {w : World} {base : Nat} {e : TypeId} {A : Option Addr} {n c : Nat} {bs : List UInt8} (h : w.ownsRow base e 1 (.slice A n c) n (cellsOf bs)) (m : Nat) (hm : m ≤ n) : w.ownsRow base e 1 (.slice A m c) m (cellsOf (bs.take m)) := by
  have hl := h.1
  rw [cellsOf_length] at hl
  refine ⟨by rw [cellsOf_length, List.length_take]; omega, ?_⟩
  rcases h.2 with ⟨h1, h2⟩ | ⟨g, cap, cur, hv, hb, hg, hn, hcap, hsz, htake⟩
  · left
    injection h1 with hA hn hc
    subst hA
    subst hc
    obtain rfl : m = 0 := by omega
    exact ⟨rfl, rfl⟩
  · right
    injection hv with hA _ hc
    subst hA
    subst hc
    refine ⟨g, c, cur, rfl, hb, hg, by omega, hcap, hsz, ?_⟩
    have h3 : (cur.toList.take (n * 1)).take (m * 1) = (cellsOf bs).take (m * 1) := by rw [htake]
    rw [List.take_take, Nat.min_eq_left (by omega)] at h3
    rw [h3, cellsOf, cellsOf, List.map_take, Nat.mul_one]

/-- A slice that reads as bytes: its front and its back read as these bytes' front and back. -/
theorem RB.front {w : World} {B : Nat} {A : Option Addr} {bs : List UInt8} (h : RB w B A bs) (m : Nat) : RB w B A (bs.take m) := by
  intro hp
  have hp' : 0 < bs.length := by rw [List.length_take] at hp; omega
  obtain ⟨g, o, e, hg, hc⟩ := h hp'
  refine ⟨g, o, e, hg, fun j u hu => hc j u ?_⟩
  rw [List.getElem?_take] at hu
  split at hu
  · exact hu
  · cases hu

theorem RB.back {w : World} {B : Nat} {A : Option Addr} {bs : List UInt8} (h : RB w B A bs) (m c : Nat) (hc : bs.length ≤ c) : RB w B (if c = m then A else A.map (·.add (m * 1))) (bs.drop m) := by
  intro hp
  rw [List.length_drop] at hp
  obtain ⟨g, o, e, hg, hcell⟩ := h (by omega)
  subst e
  rw [if_neg (by omega)]
  refine ⟨g, o + m, by simp [addr_add], hg, fun j u hu => ?_⟩
  rw [List.getElem?_drop] at hu
  rw [Nat.add_assoc]
  exact hcell _ _ hu

theorem cut_front (A : Option Addr) (n c m : Nat) (h : m ≤ c) (w : World) : (Instr.sliceAt 65 (.slice A n c) none (some (.int .i64 (m : Int))) none).run Try.prog w = .ok (.slice A m c) w := by
  obtain ⟨i0, hi0, hz0, hz1, hz2⟩ := info_parts info_u8
  rw [run_sliceAt_slice w _ _ _ _ _ (by kernel_rfl), run_slice_h w _ _ _ _ (by kernel_rfl) .i64 (m : Int) (by omega) (by omega)]
  have e : Try.prog.elem 65 = 5 := by kernel_rfl
  have hA : A.map (fun x => x.add 0) = A := by
    cases A with
    | none => rfl
    | some a =>
      obtain ⟨g, o, s⟩ := a
      cases s <;> simp [Addr.add]
  simp [e, sizeOf, typeInfo, hi0, sliced]
  exact fun _ => hA
theorem cut_back (A : Option Addr) (n c m : Nat) (h : m ≤ n) (w : World) : (Instr.sliceAt 65 (.slice A n c) (some (.int .i64 (m : Int))) none none).run Try.prog w = .ok (.slice (if c = m then A else A.map (·.add (m * 1))) (n - m) (c - m)) w := by
  obtain ⟨i0, hi0, hz0, hz1, hz2⟩ := info_parts info_u8
  rw [run_sliceAt_slice w _ _ _ _ _ (by kernel_rfl), run_slice_l w _ _ _ _ (by kernel_rfl) .i64 (m : Int) (by omega) (by omega)]
  have e : Try.prog.elem 65 = 5 := by kernel_rfl
  simp [e, sizeOf, typeInfo, hi0, sliced, hz1]
end Go.Proofs.Ytmfkpiclpkeemaa
