/-
  The model's draws of a yes and of a kind of address, number by number.
-/
import Derived.Test.YtegpaocoepcemaaAddrE
namespace Go.Proofs.Ytegpaocoepcemaa
open Go.RowKit

set_option maxRecDepth 100000 in
set_option maxHeartbeats 1000000 in
theorem onceE (bs : List UInt8) (t s : Nat) (m : Int) (hm : 2 ≤ m) (hmb : m ≤ 1048576) (ht : t ≤ 900000000000) :
    ∃ (b : Bool) (s' : Nat), ∀ (w : World) (g : Nat) (A : Option Addr) (c : Nat), CurS w g A c bs t s → Calls Try.prog 110 #[.pointer (some ⟨g, 0, none⟩), .int .i64 m] w (GivesA w g A c bs (t + 1) s' (.bool b)) := by
  obtain ⟨x1, s1, l1, u1, h1⟩ := pickE bs t s m hm (by omega) (by omega)
  refine ⟨x1 == m - 1, s1, fun w g A c hc => ?_⟩
  have H1 := Lib.hid (h1 w g A c hc)
  clear h1 hc
  go_enter Try.func110, Try.ntmps110
  go_wp2_with fail
  refine Calls.mono H1.out ?_
  rintro e w1 ⟨rfl, c1, g1⟩
  have C1 := Lib.hid (And.intro c1 g1)
  clear c1 g1
  go_wp2
  go_ret
  exact ⟨rfl, C1.out⟩

set_option maxRecDepth 100000 in
set_option maxHeartbeats 1000000 in
theorem kindE (bs : List UInt8) (t s : Nat) (ht : t ≤ 900000000000) :
    ∃ (k : Int) (s' : Nat), (k = 4 ∨ k = 6) ∧ ∀ (w : World) (g : Nat) (A : Option Addr) (c : Nat), CurS w g A c bs t s → Calls Try.prog 112 #[.pointer (some ⟨g, 0, none⟩)] w (GivesA w g A c bs (t + 1) s' (.int .i64 k)) := by
  obtain ⟨x1, s1, l1, u1, h1⟩ := pickE bs t s 3 (by omega) (by omega) (by omega)
  obtain ⟨k, hk, hk2⟩ : ∃ k : Int, (x1 = 0 ∧ k = 4 ∨ x1 = 1 ∧ k = 4 ∨ x1 = 2 ∧ k = 6) ∧ (k = 4 ∨ k = 6) := by
    rcases (show x1 = 0 ∨ x1 = 1 ∨ x1 = 2 by omega) with h | h | h
    · exact ⟨4, .inl ⟨h, rfl⟩, .inl rfl⟩
    · exact ⟨4, .inr (.inl ⟨h, rfl⟩), .inl rfl⟩
    · exact ⟨6, .inr (.inr ⟨h, rfl⟩), .inr rfl⟩
  refine ⟨k, s1, hk2, fun w g A c hc => ?_⟩
  have hgl := hc.lt
  have H1 := Lib.hid (h1 _ g A c (hc.below (Joins.below_alloc1 w (.cells #[.int .i64 4, .int .i64 4, .int .i64 6] 3))))
  clear h1 hc hk2
  go_enter Try.func112, Try.ntmps112
  go_wp2_with fail
  refine Calls.mono H1.out ?_
  rintro e w1 ⟨rfl, c1, g1⟩
  have y1 := Lib.hid (K.kept g1 (K.new w (.cells #[.int .i64 4, .int .i64 4, .int .i64 6] 3)) (fun k hk => by cases hk; omega))
  have G1 := Lib.hid (grownBy_trans (only_new (K.refl w _) _) g1)
  have C1 := Lib.hid c1
  clear c1 g1
  have a0 := K.cell y1.out 0 _ rfl
  have a1 := K.cell y1.out 1 _ rfl
  have a2 := K.cell y1.out 2 _ rfl
  rcases hk with ⟨rfl, rfl⟩ | ⟨rfl, rfl⟩ | ⟨rfl, rfl⟩
  all_goals
    go_wp2
    go_ret
    exact ⟨rfl, C1.out, G1.out⟩
end Go.Proofs.Ytegpaocoepcemaa
