/-
  What the model draws for the laws of chapter 1.
-/
import Derived.Test.YtegpaocoepcemaaCur2
namespace Go.Proofs.Ytegpaocoepcemaa
open Go.RowKit

/-- One byte in a new block. -/
theorem own_byte1 (w : World) (base : Nat) (hb : base ≤ w.heap.size) (x : Int) (b : UInt8) (h : (b.toNat : Int) = x) :
    (w.alloc (.cells #[.int .u8 x] 5)).ownsRow base 5 1 (.slice (some ⟨w.heap.size, 0, none⟩) 1 1) [b].length (cellsOf [b]) := by
  subst h
  exact World.ownsRow_lit w #[.int .u8 (b.toNat : Int)] 1 hb (by decide) rfl

def BytesPost (w : World) (g : Nat) (A : Option Addr) (c : Nat) (bs : List UInt8) (t : Nat) (m : Nat) (e : Ending) (w' : World) : Prop :=
  ∃ (ds : List UInt8) (D : Option Addr) (d t' : Nat), e = .returned (.slice D ds.length d) ∧ ds.length ≤ m ∧ t' ≤ t + m + 1 ∧ w'.ownsRow w.heap.size 5 1 (.slice D ds.length d) ds.length (cellsOf ds) ∧ Cur w' g A c bs t' ∧ w.grownBy w' (some g)

set_option maxRecDepth 100000 in
set_option maxHeartbeats 1000000 in
theorem bytesC (w : World) (g : Nat) (A : Option Addr) (c : Nat) (bs : List UInt8) (t : Nat) (m : Nat) (hm : 1 ≤ m) (hmb : m ≤ 1048576) (hc : Cur w g A c bs t) (ht : t ≤ 1000000000000) :
    Calls Try.prog 95 #[.pointer (some ⟨g, 0, none⟩), .int .i64 (m : Int)] w (BytesPost w g A c bs t m) := by
  have hgl := hc.lt
  go_enter Try.func95, Try.ntmps95
  go_wp2_with fail
  have hb0 : Below w.heap.size w (w.alloc (.cells #[] 5)) := (Below.refl _ _).alloc (Nat.le_refl _) _
  have ho0 : (w.alloc (.cells #[] 5)).ownsRow w.heap.size 5 1 (.slice (some ⟨w.heap.size, 0, none⟩) 0 0) 0 (cellsOf []) := World.ownsRow_lit w #[] 0 (Nat.le_refl _) (Nat.zero_le _) rfl
  have hg0 : w.grownBy (w.alloc (.cells #[] 5)) (some g) := only_new (World.grownBy.refl _ _) _
  refine (sizeC _ g A c bs t (m : Int) (by omega) (by omega) (hc.below hb0) (by omega)).mono ?_
  rintro e w1 ⟨x, rfl, x0, x1, hc1, hg1⟩
  obtain ⟨k0, rfl⟩ : ∃ k : Nat, x = k := ⟨x.toNat, by omega⟩
  have ho1 := own_grown ho0 hg1 (by simp [Value.ownBlock]; omega)
  have hg01 := grownBy_trans hg0 hg1
  clear ho0 hg0 hg1 hb0 hc
  go_wp2
  go_loopw [5, 6] (fun v kq wr => ∃ (ds : List UInt8) (q t' : Nat), kq = .int .i64 (q : Int) ∧ q + ds.length ≤ m ∧ t' + q ≤ t + m + 1 ∧ wr.ownsRow w.heap.size 5 1 v ds.length (cellsOf ds) ∧ Cur wr g A c bs t' ∧ w.grownBy wr (some g)) (fun _ kq _ => (intOf kq).toNat)
  case atStart => exact ⟨[], k0, t + 1, rfl, by simp; omega, by omega, ho1, hc1, hg01⟩
  case round =>
    obtain ⟨ds, q, t', rfl, hq, htq, ho, hcr, hgr⟩ := hrel
    clear ho1 hc1 hg01
    obtain ⟨D, d, rfl⟩ := own_form ho
    by_cases hq0 : q = 0
    · subst hq0
      have Ho := Lib.hid ho
      clear ho
      go_wp2
      go_ret
      exact ⟨ds, D, d, t', rfl, by omega, by omega, Ho.out, hcr, hgr⟩
    · have hqI : (0 : Int) < (q : Int) := by omega
      go_wp2_with fail
      refine (pickC wr g A c bs t' 256 (by omega) (by omega) hcr (by omega)).mono ?_
      rintro e w2 ⟨y, rfl, y0, y1, hc2, hg2⟩
      obtain ⟨yk, rfl⟩ : ∃ k : Nat, y = k := ⟨y.toNat, by omega⟩
      have ho2 := own_grown ho hg2 (fun k hk => by have := (ho.lt k hk).1; simp; omega)
      have hsz : w.heap.size ≤ w2.heap.size := Nat.le_trans hgr.size hg2.size
      have o1 := own_byte1 w2 w.heap.size hsz (yk : Int) (UInt8.ofNat yk) (by simp; omega)
      have r1 := Lib.hid (RB.of_own o1)
      have ho3 := Lib.hid (ho2.alloc (.cells #[.int .u8 (yk : Int)] 5))
      have hbl := Lib.hid (fun u (hu : (Value.slice D ds.length d).ownBlock = some u) => (ho2.lt u hu).1)
      have hg3 := Lib.hid (only_new (grownBy_trans hgr hg2) (.cells #[.int .u8 (yk : Int)] 5))
      have hc3 := Lib.hid (hc2.below ((Below.refl _ _).alloc (Nat.le_refl _) (.cells #[.int .u8 (yk : Int)] 5)))
      clear ho ho2 hcr hgr hc2 hg2 o1
      go_wp2_with (at_builtin; refine wpList_append_b rfl (.tmp 15) (.tmp 19) rfl w.heap.size (.slice D ds.length d) ds rfl ho3.out _ (some ⟨w2.heap.size, 0, none⟩) 1 1 [UInt8.ofNat yk] rfl rfl r1.out (by simp; omega) (by simp; omega) ?_; intro v3 w3 hown3 hg4 _)
      go_roundw
      case rel => exact ⟨ds ++ [UInt8.ofNat yk], q - 1, t' + 1, by go_num, by simp; omega, by omega, hown3, hc3.out.grownBy hg4 (fun k hk => by have := hbl.out k hk; omega), grown_other hg3.out hg4 hbl.out⟩
      case measure => simp [intOf]; omega
end Go.Proofs.Ytegpaocoepcemaa
