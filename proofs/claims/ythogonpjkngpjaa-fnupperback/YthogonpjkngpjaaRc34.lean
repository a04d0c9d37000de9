/-
  Upper layers are read by the program.
-/
import Derived.Test.YthogonpjkngpjaaRc33
import Derived.Test.YthogonpjkngpjaaRc29
import Derived.Deep.Cut
namespace Go.Proofs.Ythogonpjkngpjaa
set_option maxRecDepth 100000
open Go.RowKit
set_option maxHeartbeats 4000000 in
theorem urI_long (w : World) (A : Option Addr) (n c : Nat) (bs : List UInt8) (p : Int) (s t : Ad) (hl : bs.length = n) (hn : 1500 < n) (hn2 : n ≤ 1048576)  : Calls Try.prog 18 #[.slice A n c, .int .i64 p, .agg #[.int .i64 s.k, .int .i64 s.a, .int .i64 s.b, .int .i64 s.c, .int .i64 s.d], .agg #[.int .i64 t.k, .int .i64 t.a, .int .i64 t.b, .int .i64 t.c, .int .i64 t.d]] w (URead bs p s t w) := by
  have HF := Lib.hid (uhC_long (p := p) (s := s) (t := t) (show 1500 < bs.length by omega))
  clear hl
  have p0 : Hid ((((w.alloc (.cells #[.int .i64 s.k, .int .i64 s.a, .int .i64 s.b, .int .i64 s.c, .int .i64 s.d] 27)).alloc (.cells #[.int .i64 t.k, .int .i64 t.a, .int .i64 t.b, .int .i64 t.c, .int .i64 t.d] 27)).alloc (.cells #[.int .i64 0, .int .i64 0, .int .i64 0, .int .i64 0, .int .i64 0, .int .i64 0, .int .i64 0, .int .i64 0, .int .i64 0, .int .i64 0, .int .i64 0, .bool false, .slice none 0 0, .slice none 0 0] 36)).heap[w.heap.size]? = some (.cells #[.int .i64 s.k, .int .i64 s.a, .int .i64 s.b, .int .i64 s.c, .int .i64 s.d] 27)) := Lib.hid (by repeat (first | exact K.newAt (by first | rfl | (simp; done)) | refine K.oldAt (by first | (simp; done) | (simp; omega)) ?_))
  have r0 : Hid ((((w.alloc (.cells #[.int .i64 s.k, .int .i64 s.a, .int .i64 s.b, .int .i64 s.c, .int .i64 s.d] 27)).alloc (.cells #[.int .i64 t.k, .int .i64 t.a, .int .i64 t.b, .int .i64 t.c, .int .i64 t.d] 27)).alloc (.cells #[.int .i64 0, .int .i64 0, .int .i64 0, .int .i64 0, .int .i64 0, .int .i64 0, .int .i64 0, .int .i64 0, .int .i64 0, .int .i64 0, .int .i64 0, .bool false, .slice none 0 0, .slice none 0 0] 36)).heap[w.heap.size + 1]? = some (.cells #[.int .i64 t.k, .int .i64 t.a, .int .i64 t.b, .int .i64 t.c, .int .i64 t.d] 27)) := Lib.hid (by repeat (first | exact K.newAt (by first | rfl | (simp; done)) | refine K.oldAt (by first | (simp; done) | (simp; omega)) ?_))
  have z0 : Hid ((((w.alloc (.cells #[.int .i64 s.k, .int .i64 s.a, .int .i64 s.b, .int .i64 s.c, .int .i64 s.d] 27)).alloc (.cells #[.int .i64 t.k, .int .i64 t.a, .int .i64 t.b, .int .i64 t.c, .int .i64 t.d] 27)).alloc (.cells #[.int .i64 0, .int .i64 0, .int .i64 0, .int .i64 0, .int .i64 0, .int .i64 0, .int .i64 0, .int .i64 0, .int .i64 0, .int .i64 0, .int .i64 0, .bool false, .slice none 0 0, .slice none 0 0] 36)).heap[w.heap.size + 1 + 1]? = some (.cells #[.int .i64 0, .int .i64 0, .int .i64 0, .int .i64 0, .int .i64 0, .int .i64 0, .int .i64 0, .int .i64 0, .int .i64 0, .int .i64 0, .int .i64 0, .bool false, .slice none 0 0, .slice none 0 0] 36)) := Lib.hid (by repeat (first | exact K.newAt (by first | rfl | (simp; done)) | refine K.oldAt (by first | (simp; done) | (simp; omega)) ?_))
  have B0 : Hid (Below w.heap.size w (((w.alloc (.cells #[.int .i64 s.k, .int .i64 s.a, .int .i64 s.b, .int .i64 s.c, .int .i64 s.d] 27)).alloc (.cells #[.int .i64 t.k, .int .i64 t.a, .int .i64 t.b, .int .i64 t.c, .int .i64 t.d] 27)).alloc (.cells #[.int .i64 0, .int .i64 0, .int .i64 0, .int .i64 0, .int .i64 0, .int .i64 0, .int .i64 0, .int .i64 0, .int .i64 0, .int .i64 0, .int .i64 0, .bool false, .slice none 0 0, .slice none 0 0] 36))) := Lib.hid (by go_grown)
  have hI : (1500 : Int) < (n : Int) := by omega
  clear p0 r0
  go_enter Try.func18, Try.ntmps18
  go_wp2_with (with_reducible refine storeU rfl _ _ rfl (w.heap.size + 1 + 1) rfl rfl z0.out ?_)
  (try simp only [Exit.inBlock, Exit.then])
  refine bodyPost_ret (v := .tuple #[.agg #[.int .i64 0, .int .i64 0, .int .i64 0, .int .i64 0, .int .i64 0, .int .i64 0, .int .i64 0, .int .i64 0, .int .i64 0, .int .i64 0, .int .i64 0, .bool false, .slice none 0 0, .slice none 0 0], .int .i64 1]) ?_ rfl (uread_no HF.out (by omega) (K.setRow_below B0.out (by omega) _))
  exact K.resCellTmp Try.results18 _ _ _ (w.heap.size + 1 + 1) _ rfl (run_loadVar_row _ _ 36 36 _ (0, 0) _ (setRow_heap _ _ _ _ _ _ z0.out) Try.underlying36 rfl info_up)
set_option maxHeartbeats 4000000 in
theorem urI_addr1 (w : World) (A : Option Addr) (n c : Nat) (bs : List UInt8) (p : Int) (s t : Ad) (hl : bs.length = n) (hn : n ≤ 1500) (hp : pairA s t = false) : Calls Try.prog 18 #[.slice A n c, .int .i64 p, .agg #[.int .i64 s.k, .int .i64 s.a, .int .i64 s.b, .int .i64 s.c, .int .i64 s.d], .agg #[.int .i64 t.k, .int .i64 t.a, .int .i64 t.b, .int .i64 t.c, .int .i64 t.d]] w (URead bs p s t w) := by
  have HP := Lib.hid hp
  have HF := Lib.hid (uhC_addr (bs := bs) (show ¬ 1500 < bs.length by omega) (show (pairA s t && upTo p 255) = false by rw [hp]; rfl))
  clear hl hp
  have p0 : Hid ((((w.alloc (.cells #[.int .i64 s.k, .int .i64 s.a, .int .i64 s.b, .int .i64 s.c, .int .i64 s.d] 27)).alloc (.cells #[.int .i64 t.k, .int .i64 t.a, .int .i64 t.b, .int .i64 t.c, .int .i64 t.d] 27)).alloc (.cells #[.int .i64 0, .int .i64 0, .int .i64 0, .int .i64 0, .int .i64 0, .int .i64 0, .int .i64 0, .int .i64 0, .int .i64 0, .int .i64 0, .int .i64 0, .bool false, .slice none 0 0, .slice none 0 0] 36)).heap[w.heap.size]? = some (.cells #[.int .i64 s.k, .int .i64 s.a, .int .i64 s.b, .int .i64 s.c, .int .i64 s.d] 27)) := Lib.hid (by repeat (first | exact K.newAt (by first | rfl | (simp; done)) | refine K.oldAt (by first | (simp; done) | (simp; omega)) ?_))
  have r0 : Hid ((((w.alloc (.cells #[.int .i64 s.k, .int .i64 s.a, .int .i64 s.b, .int .i64 s.c, .int .i64 s.d] 27)).alloc (.cells #[.int .i64 t.k, .int .i64 t.a, .int .i64 t.b, .int .i64 t.c, .int .i64 t.d] 27)).alloc (.cells #[.int .i64 0, .int .i64 0, .int .i64 0, .int .i64 0, .int .i64 0, .int .i64 0, .int .i64 0, .int .i64 0, .int .i64 0, .int .i64 0, .int .i64 0, .bool false, .slice none 0 0, .slice none 0 0] 36)).heap[w.heap.size + 1]? = some (.cells #[.int .i64 t.k, .int .i64 t.a, .int .i64 t.b, .int .i64 t.c, .int .i64 t.d] 27)) := Lib.hid (by repeat (first | exact K.newAt (by first | rfl | (simp; done)) | refine K.oldAt (by first | (simp; done) | (simp; omega)) ?_))
  have z0 : Hid ((((w.alloc (.cells #[.int .i64 s.k, .int .i64 s.a, .int .i64 s.b, .int .i64 s.c, .int .i64 s.d] 27)).alloc (.cells #[.int .i64 t.k, .int .i64 t.a, .int .i64 t.b, .int .i64 t.c, .int .i64 t.d] 27)).alloc (.cells #[.int .i64 0, .int .i64 0, .int .i64 0, .int .i64 0, .int .i64 0, .int .i64 0, .int .i64 0, .int .i64 0, .int .i64 0, .int .i64 0, .int .i64 0, .bool false, .slice none 0 0, .slice none 0 0] 36)).heap[w.heap.size + 1 + 1]? = some (.cells #[.int .i64 0, .int .i64 0, .int .i64 0, .int .i64 0, .int .i64 0, .int .i64 0, .int .i64 0, .int .i64 0, .int .i64 0, .int .i64 0, .int .i64 0, .bool false, .slice none 0 0, .slice none 0 0] 36)) := Lib.hid (by repeat (first | exact K.newAt (by first | rfl | (simp; done)) | refine K.oldAt (by first | (simp; done) | (simp; omega)) ?_))
  have B0 : Hid (Below w.heap.size w (((w.alloc (.cells #[.int .i64 s.k, .int .i64 s.a, .int .i64 s.b, .int .i64 s.c, .int .i64 s.d] 27)).alloc (.cells #[.int .i64 t.k, .int .i64 t.a, .int .i64 t.b, .int .i64 t.c, .int .i64 t.d] 27)).alloc (.cells #[.int .i64 0, .int .i64 0, .int .i64 0, .int .i64 0, .int .i64 0, .int .i64 0, .int .i64 0, .int .i64 0, .int .i64 0, .int .i64 0, .int .i64 0, .bool false, .slice none 0 0, .slice none 0 0] 36))) := Lib.hid (by go_grown)
  have hI : ¬ (1500 : Int) < (n : Int) := by omega
  go_enter Try.func18, Try.ntmps18
  go_wp2_with (first | (with_reducible refine loadA rfl _ rfl w.heap.size rfl p0.out ?_) | (with_reducible refine loadA rfl _ rfl (w.heap.size + 1) rfl r0.out ?_))
  refine Calls.mono (pairIB s t false HP.out _) ?_
  rintro e w1 ⟨rfl, b1⟩
  have p1 := Lib.hid (K.below b1 p0.out)
  have r1 := Lib.hid (K.below b1 r0.out)
  have z1 := Lib.hid (K.below b1 z0.out)
  have B1 := Lib.hid (bthen B0.out b1)
  clear b1 p0 r0 z0 B0
  go_wp2_with (with_reducible refine storeU rfl _ _ rfl (w.heap.size + 1 + 1) rfl rfl z1.out ?_)
  (try simp only [Exit.inBlock, Exit.then])
  refine bodyPost_ret (v := .tuple #[.agg #[.int .i64 0, .int .i64 0, .int .i64 0, .int .i64 0, .int .i64 0, .int .i64 0, .int .i64 0, .int .i64 0, .int .i64 0, .int .i64 0, .int .i64 0, .bool false, .slice none 0 0, .slice none 0 0], .int .i64 2]) ?_ rfl (uread_no HF.out (by omega) (K.setRow_below B1.out (by omega) _))
  exact K.resCellTmp Try.results18 _ _ _ (w.heap.size + 1 + 1) _ rfl (run_loadVar_row _ _ 36 36 _ (0, 0) _ (setRow_heap _ _ _ _ _ _ z1.out) Try.underlying36 rfl info_up)
set_option maxHeartbeats 4000000 in
theorem urI_addr2 (w : World) (A : Option Addr) (n c : Nat) (bs : List UInt8) (p : Int) (s t : Ad) (hl : bs.length = n) (hn : n ≤ 1500) (hp : pairA s t = true) (hq : upTo p 255 = false) : Calls Try.prog 18 #[.slice A n c, .int .i64 p, .agg #[.int .i64 s.k, .int .i64 s.a, .int .i64 s.b, .int .i64 s.c, .int .i64 s.d], .agg #[.int .i64 t.k, .int .i64 t.a, .int .i64 t.b, .int .i64 t.c, .int .i64 t.d]] w (URead bs p s t w) := by
  have HP := Lib.hid hp
  have HQ := Lib.hid hq
  have HF := Lib.hid (uhC_addr (bs := bs) (show ¬ 1500 < bs.length by omega) (show (pairA s t && upTo p 255) = false by rw [hp, hq]; rfl))
  clear hl hp hq
  have p0 : Hid ((((w.alloc (.cells #[.int .i64 s.k, .int .i64 s.a, .int .i64 s.b, .int .i64 s.c, .int .i64 s.d] 27)).alloc (.cells #[.int .i64 t.k, .int .i64 t.a, .int .i64 t.b, .int .i64 t.c, .int .i64 t.d] 27)).alloc (.cells #[.int .i64 0, .int .i64 0, .int .i64 0, .int .i64 0, .int .i64 0, .int .i64 0, .int .i64 0, .int .i64 0, .int .i64 0, .int .i64 0, .int .i64 0, .bool false, .slice none 0 0, .slice none 0 0] 36)).heap[w.heap.size]? = some (.cells #[.int .i64 s.k, .int .i64 s.a, .int .i64 s.b, .int .i64 s.c, .int .i64 s.d] 27)) := Lib.hid (by repeat (first | exact K.newAt (by first | rfl | (simp; done)) | refine K.oldAt (by first | (simp; done) | (simp; omega)) ?_))
  have r0 : Hid ((((w.alloc (.cells #[.int .i64 s.k, .int .i64 s.a, .int .i64 s.b, .int .i64 s.c, .int .i64 s.d] 27)).alloc (.cells #[.int .i64 t.k, .int .i64 t.a, .int .i64 t.b, .int .i64 t.c, .int .i64 t.d] 27)).alloc (.cells #[.int .i64 0, .int .i64 0, .int .i64 0, .int .i64 0, .int .i64 0, .int .i64 0, .int .i64 0, .int .i64 0, .int .i64 0, .int .i64 0, .int .i64 0, .bool false, .slice none 0 0, .slice none 0 0] 36)).heap[w.heap.size + 1]? = some (.cells #[.int .i64 t.k, .int .i64 t.a, .int .i64 t.b, .int .i64 t.c, .int .i64 t.d] 27)) := Lib.hid (by repeat (first | exact K.newAt (by first | rfl | (simp; done)) | refine K.oldAt (by first | (simp; done) | (simp; omega)) ?_))
  have z0 : Hid ((((w.alloc (.cells #[.int .i64 s.k, .int .i64 s.a, .int .i64 s.b, .int .i64 s.c, .int .i64 s.d] 27)).alloc (.cells #[.int .i64 t.k, .int .i64 t.a, .int .i64 t.b, .int .i64 t.c, .int .i64 t.d] 27)).alloc (.cells #[.int .i64 0, .int .i64 0, .int .i64 0, .int .i64 0, .int .i64 0, .int .i64 0, .int .i64 0, .int .i64 0, .int .i64 0, .int .i64 0, .int .i64 0, .bool false, .slice none 0 0, .slice none 0 0] 36)).heap[w.heap.size + 1 + 1]? = some (.cells #[.int .i64 0, .int .i64 0, .int .i64 0, .int .i64 0, .int .i64 0, .int .i64 0, .int .i64 0, .int .i64 0, .int .i64 0, .int .i64 0, .int .i64 0, .bool false, .slice none 0 0, .slice none 0 0] 36)) := Lib.hid (by repeat (first | exact K.newAt (by first | rfl | (simp; done)) | refine K.oldAt (by first | (simp; done) | (simp; omega)) ?_))
  have B0 : Hid (Below w.heap.size w (((w.alloc (.cells #[.int .i64 s.k, .int .i64 s.a, .int .i64 s.b, .int .i64 s.c, .int .i64 s.d] 27)).alloc (.cells #[.int .i64 t.k, .int .i64 t.a, .int .i64 t.b, .int .i64 t.c, .int .i64 t.d] 27)).alloc (.cells #[.int .i64 0, .int .i64 0, .int .i64 0, .int .i64 0, .int .i64 0, .int .i64 0, .int .i64 0, .int .i64 0, .int .i64 0, .int .i64 0, .int .i64 0, .bool false, .slice none 0 0, .slice none 0 0] 36))) := Lib.hid (by go_grown)
  have hI : ¬ (1500 : Int) < (n : Int) := by omega
  go_enter Try.func18, Try.ntmps18
  go_wp2_with (first | (with_reducible refine loadA rfl _ rfl w.heap.size rfl p0.out ?_) | (with_reducible refine loadA rfl _ rfl (w.heap.size + 1) rfl r0.out ?_))
  refine Calls.mono (pairIB s t true HP.out _) ?_
  rintro e w1 ⟨rfl, b1⟩
  have p1 := Lib.hid (K.below b1 p0.out)
  have r1 := Lib.hid (K.below b1 r0.out)
  have z1 := Lib.hid (K.below b1 z0.out)
  have B1 := Lib.hid (bthen B0.out b1)
  clear b1 p0 r0 z0 B0
  go_wp2_with fail
  refine Calls.mono (protoB p false _ HQ.out) ?_
  rintro e w2 ⟨rfl, b2⟩
  have p2 := Lib.hid (K.below b2 p1.out)
  have r2 := Lib.hid (K.below b2 r1.out)
  have z2 := Lib.hid (K.below b2 z1.out)
  have B2 := Lib.hid (bthen B1.out b2)
  clear b2 p1 r1 z1 B1
  go_wp2_with (with_reducible refine storeU rfl _ _ rfl (w.heap.size + 1 + 1) rfl rfl z2.out ?_)
  (try simp only [Exit.inBlock, Exit.then])
  refine bodyPost_ret (v := .tuple #[.agg #[.int .i64 0, .int .i64 0, .int .i64 0, .int .i64 0, .int .i64 0, .int .i64 0, .int .i64 0, .int .i64 0, .int .i64 0, .int .i64 0, .int .i64 0, .bool false, .slice none 0 0, .slice none 0 0], .int .i64 2]) ?_ rfl (uread_no HF.out (by omega) (K.setRow_below B2.out (by omega) _))
  exact K.resCellTmp Try.results18 _ _ _ (w.heap.size + 1 + 1) _ rfl (run_loadVar_row _ _ 36 36 _ (0, 0) _ (setRow_heap _ _ _ _ _ _ z2.out) Try.underlying36 rfl info_up)
set_option maxHeartbeats 4000000 in
theorem urI_short1 (w : World) (A : Option Addr) (n c : Nat) (bs : List UInt8) (p : Int) (s t : Ad) (hr : RB w w.heap.size A bs) (hl : bs.length = n) (hn : n ≤ 1500) (hp : pairA s t = true) (hq : upTo p 255 = true) (hs : s.k = 4 ∨ s.k = 6) (hk : kindU p s.k = 1) (hf : uhC bs p s t = 3) (h3 : n < 20) : Calls Try.prog 18 #[.slice A n c, .int .i64 p, .agg #[.int .i64 s.k, .int .i64 s.a, .int .i64 s.b, .int .i64 s.c, .int .i64 s.d], .agg #[.int .i64 t.k, .int .i64 t.a, .int .i64 t.b, .int .i64 t.c, .int .i64 t.d]] w (URead bs p s t w) := by
  have HP := Lib.hid hp
  have HPR := Lib.hid hq
  have HQ := Lib.hid hq
  have HKQ := Lib.hid hk
  have HSK := Lib.hid hs
  have HF := Lib.hid hf
  have hI2 : (n : Int) < 20 := by omega
  clear hf
  have R0 := Lib.hid hr
  have HL := Lib.hid hl
  have hI : ¬ (1500 : Int) < (n : Int) := by omega
  clear hr hp hq hk hs hl
  have p0 : Hid ((((w.alloc (.cells #[.int .i64 s.k, .int .i64 s.a, .int .i64 s.b, .int .i64 s.c, .int .i64 s.d] 27)).alloc (.cells #[.int .i64 t.k, .int .i64 t.a, .int .i64 t.b, .int .i64 t.c, .int .i64 t.d] 27)).alloc (.cells #[.int .i64 0, .int .i64 0, .int .i64 0, .int .i64 0, .int .i64 0, .int .i64 0, .int .i64 0, .int .i64 0, .int .i64 0, .int .i64 0, .int .i64 0, .bool false, .slice none 0 0, .slice none 0 0] 36)).heap[w.heap.size]? = some (.cells #[.int .i64 s.k, .int .i64 s.a, .int .i64 s.b, .int .i64 s.c, .int .i64 s.d] 27)) := Lib.hid (by repeat (first | exact K.newAt (by first | rfl | (simp; done)) | refine K.oldAt (by first | (simp; done) | (simp; omega)) ?_))
  have r0 : Hid ((((w.alloc (.cells #[.int .i64 s.k, .int .i64 s.a, .int .i64 s.b, .int .i64 s.c, .int .i64 s.d] 27)).alloc (.cells #[.int .i64 t.k, .int .i64 t.a, .int .i64 t.b, .int .i64 t.c, .int .i64 t.d] 27)).alloc (.cells #[.int .i64 0, .int .i64 0, .int .i64 0, .int .i64 0, .int .i64 0, .int .i64 0, .int .i64 0, .int .i64 0, .int .i64 0, .int .i64 0, .int .i64 0, .bool false, .slice none 0 0, .slice none 0 0] 36)).heap[w.heap.size + 1]? = some (.cells #[.int .i64 t.k, .int .i64 t.a, .int .i64 t.b, .int .i64 t.c, .int .i64 t.d] 27)) := Lib.hid (by repeat (first | exact K.newAt (by first | rfl | (simp; done)) | refine K.oldAt (by first | (simp; done) | (simp; omega)) ?_))
  have z0 : Hid ((((w.alloc (.cells #[.int .i64 s.k, .int .i64 s.a, .int .i64 s.b, .int .i64 s.c, .int .i64 s.d] 27)).alloc (.cells #[.int .i64 t.k, .int .i64 t.a, .int .i64 t.b, .int .i64 t.c, .int .i64 t.d] 27)).alloc (.cells #[.int .i64 0, .int .i64 0, .int .i64 0, .int .i64 0, .int .i64 0, .int .i64 0, .int .i64 0, .int .i64 0, .int .i64 0, .int .i64 0, .int .i64 0, .bool false, .slice none 0 0, .slice none 0 0] 36)).heap[w.heap.size + 1 + 1]? = some (.cells #[.int .i64 0, .int .i64 0, .int .i64 0, .int .i64 0, .int .i64 0, .int .i64 0, .int .i64 0, .int .i64 0, .int .i64 0, .int .i64 0, .int .i64 0, .bool false, .slice none 0 0, .slice none 0 0] 36)) := Lib.hid (by repeat (first | exact K.newAt (by first | rfl | (simp; done)) | refine K.oldAt (by first | (simp; done) | (simp; omega)) ?_))
  have B0 : Hid (Below w.heap.size w (((w.alloc (.cells #[.int .i64 s.k, .int .i64 s.a, .int .i64 s.b, .int .i64 s.c, .int .i64 s.d] 27)).alloc (.cells #[.int .i64 t.k, .int .i64 t.a, .int .i64 t.b, .int .i64 t.c, .int .i64 t.d] 27)).alloc (.cells #[.int .i64 0, .int .i64 0, .int .i64 0, .int .i64 0, .int .i64 0, .int .i64 0, .int .i64 0, .int .i64 0, .int .i64 0, .int .i64 0, .int .i64 0, .bool false, .slice none 0 0, .slice none 0 0] 36))) := Lib.hid (by go_grown)
  go_enter Try.func18, Try.ntmps18
  go_wp2_with (first | (with_reducible refine loadA rfl _ rfl w.heap.size rfl p0.out ?_) | (with_reducible refine loadA rfl _ rfl (w.heap.size + 1) rfl r0.out ?_))
  refine Calls.mono (pairIB s t true HP.out _) ?_
  rintro e w1 ⟨rfl, b1⟩
  have p1 := Lib.hid (K.below b1 p0.out)
  have r1 := Lib.hid (K.below b1 r0.out)
  have z1 := Lib.hid (K.below b1 z0.out)
  have B1 := Lib.hid (bthen B0.out b1)
  clear b1 p0 r0 z0 B0
  go_wp2_with fail
  refine Calls.mono (protoB p true _ HQ.out) ?_
  rintro e w2 ⟨rfl, b2⟩
  have p2 := Lib.hid (K.below b2 p1.out)
  have r2 := Lib.hid (K.below b2 r1.out)
  have z2 := Lib.hid (K.below b2 z1.out)
  have B2 := Lib.hid (bthen B1.out b2)
  clear b2 p1 r1 z1 B1
  have d0 := K.cell p2.out 0 _ rfl
  go_wp2_with fail
  clear d0
  refine Calls.mono (kind_impl p s.k 1 _ HPR.out HSK.out HKQ.out) ?_
  rintro e w3 ⟨rfl, b3⟩
  have p3 := Lib.hid (K.below b3 p2.out)
  have r3 := Lib.hid (K.below b3 r2.out)
  have z3 := Lib.hid (K.below b3 z2.out)
  have B3 := Lib.hid (bthen B2.out b3)
  clear b3 p2 r2 z2 B2
  go_wp2_with fail
  refine Calls.mono (formatOfC (Uh.mk 1 0 0 0 0 0 0 0 0 0 0 false) none none 0 0 0 0 _) ?_
  rintro e w4 ⟨rfl, rfl⟩
  simp only [show ∀ v, fmtV 1 v = .iface 110 v from fun _ => rfl]
  have b4 := Joins.below_alloc1 w3 (.cells #[.int .i64 1, .int .i64 0, .int .i64 0, .int .i64 0, .int .i64 0, .int .i64 0, .int .i64 0, .int .i64 0, .int .i64 0, .int .i64 0, .int .i64 0, .bool false, .slice none 0 0, .slice none 0 0] 36)
  have p4 := Lib.hid (K.below b4 p3.out)
  have r4 := Lib.hid (K.below b4 r3.out)
  have z4 := Lib.hid (K.below b4 z3.out)
  have B4 := Lib.hid (bthen B3.out b4)
  clear b4 p3 r3 z3 B3
  generalize w3.alloc (.cells #[.int .i64 1, .int .i64 0, .int .i64 0, .int .i64 0, .int .i64 0, .int .i64 0, .int .i64 0, .int .i64 0, .int .i64 0, .int .i64 0, .int .i64 0, .bool false, .slice none 0 0, .slice none 0 0] 36) = w4 at p4 r4 z4 B4 ⊢
  go_wp2_with fail
  refine Calls.mono (head_tcp (Uh.mk 1 0 0 0 0 0 0 0 0 0 0 false) none none 0 0 0 0 _ (by omega)) ?_
  rintro e w5 ⟨rfl, b5⟩
  simp only [show (20 : Int) + ((0 : Nat) : Int) = 20 from rfl]
  have p5 := Lib.hid (K.below b5 p4.out)
  have r5 := Lib.hid (K.below b5 r4.out)
  have z5 := Lib.hid (K.below b5 z4.out)
  have B5 := Lib.hid (bthen B4.out b5)
  clear b5 p4 r4 z4 B4
  go_wp2_with (with_reducible refine storeU rfl _ _ rfl (w.heap.size + 1 + 1) rfl rfl z5.out ?_)
  (try simp only [Exit.inBlock, Exit.then])
  refine bodyPost_ret (v := .tuple #[.agg #[.int .i64 0, .int .i64 0, .int .i64 0, .int .i64 0, .int .i64 0, .int .i64 0, .int .i64 0, .int .i64 0, .int .i64 0, .int .i64 0, .int .i64 0, .bool false, .slice none 0 0, .slice none 0 0], .int .i64 3]) ?_ rfl (uread_no HF.out (by omega) (K.setRow_below B5.out (by omega) _))
  exact K.resCellTmp Try.results18 _ _ _ (w.heap.size + 1 + 1) _ rfl (run_loadVar_row _ _ 36 36 _ (0, 0) _ (setRow_heap _ _ _ _ _ _ z5.out) Try.underlying36 rfl info_up)
set_option maxHeartbeats 4000000 in
theorem urI_short2 (w : World) (A : Option Addr) (n c : Nat) (bs : List UInt8) (p : Int) (s t : Ad) (hr : RB w w.heap.size A bs) (hl : bs.length = n) (hn : n ≤ 1500) (hp : pairA s t = true) (hq : upTo p 255 = true) (hs : s.k = 4 ∨ s.k = 6) (hk : kindU p s.k = 2) (hf : uhC bs p s t = 3) (h3 : n < 8) : Calls Try.prog 18 #[.slice A n c, .int .i64 p, .agg #[.int .i64 s.k, .int .i64 s.a, .int .i64 s.b, .int .i64 s.c, .int .i64 s.d], .agg #[.int .i64 t.k, .int .i64 t.a, .int .i64 t.b, .int .i64 t.c, .int .i64 t.d]] w (URead bs p s t w) := by
  have HP := Lib.hid hp
  have HPR := Lib.hid hq
  have HQ := Lib.hid hq
  have HKQ := Lib.hid hk
  have HSK := Lib.hid hs
  have HF := Lib.hid hf
  have hI2 : (n : Int) < 8 := by omega
  clear hf
  have R0 := Lib.hid hr
  have HL := Lib.hid hl
  have hI : ¬ (1500 : Int) < (n : Int) := by omega
  clear hr hp hq hk hs hl
  have p0 : Hid ((((w.alloc (.cells #[.int .i64 s.k, .int .i64 s.a, .int .i64 s.b, .int .i64 s.c, .int .i64 s.d] 27)).alloc (.cells #[.int .i64 t.k, .int .i64 t.a, .int .i64 t.b, .int .i64 t.c, .int .i64 t.d] 27)).alloc (.cells #[.int .i64 0, .int .i64 0, .int .i64 0, .int .i64 0, .int .i64 0, .int .i64 0, .int .i64 0, .int .i64 0, .int .i64 0, .int .i64 0, .int .i64 0, .bool false, .slice none 0 0, .slice none 0 0] 36)).heap[w.heap.size]? = some (.cells #[.int .i64 s.k, .int .i64 s.a, .int .i64 s.b, .int .i64 s.c, .int .i64 s.d] 27)) := Lib.hid (by repeat (first | exact K.newAt (by first | rfl | (simp; done)) | refine K.oldAt (by first | (simp; done) | (simp; omega)) ?_))
  have r0 : Hid ((((w.alloc (.cells #[.int .i64 s.k, .int .i64 s.a, .int .i64 s.b, .int .i64 s.c, .int .i64 s.d] 27)).alloc (.cells #[.int .i64 t.k, .int .i64 t.a, .int .i64 t.b, .int .i64 t.c, .int .i64 t.d] 27)).alloc (.cells #[.int .i64 0, .int .i64 0, .int .i64 0, .int .i64 0, .int .i64 0, .int .i64 0, .int .i64 0, .int .i64 0, .int .i64 0, .int .i64 0, .int .i64 0, .bool false, .slice none 0 0, .slice none 0 0] 36)).heap[w.heap.size + 1]? = some (.cells #[.int .i64 t.k, .int .i64 t.a, .int .i64 t.b, .int .i64 t.c, .int .i64 t.d] 27)) := Lib.hid (by repeat (first | exact K.newAt (by first | rfl | (simp; done)) | refine K.oldAt (by first | (simp; done) | (simp; omega)) ?_))
  have z0 : Hid ((((w.alloc (.cells #[.int .i64 s.k, .int .i64 s.a, .int .i64 s.b, .int .i64 s.c, .int .i64 s.d] 27)).alloc (.cells #[.int .i64 t.k, .int .i64 t.a, .int .i64 t.b, .int .i64 t.c, .int .i64 t.d] 27)).alloc (.cells #[.int .i64 0, .int .i64 0, .int .i64 0, .int .i64 0, .int .i64 0, .int .i64 0, .int .i64 0, .int .i64 0, .int .i64 0, .int .i64 0, .int .i64 0, .bool false, .slice none 0 0, .slice none 0 0] 36)).heap[w.heap.size + 1 + 1]? = some (.cells #[.int .i64 0, .int .i64 0, .int .i64 0, .int .i64 0, .int .i64 0, .int .i64 0, .int .i64 0, .int .i64 0, .int .i64 0, .int .i64 0, .int .i64 0, .bool false, .slice none 0 0, .slice none 0 0] 36)) := Lib.hid (by repeat (first | exact K.newAt (by first | rfl | (simp; done)) | refine K.oldAt (by first | (simp; done) | (simp; omega)) ?_))
  have B0 : Hid (Below w.heap.size w (((w.alloc (.cells #[.int .i64 s.k, .int .i64 s.a, .int .i64 s.b, .int .i64 s.c, .int .i64 s.d] 27)).alloc (.cells #[.int .i64 t.k, .int .i64 t.a, .int .i64 t.b, .int .i64 t.c, .int .i64 t.d] 27)).alloc (.cells #[.int .i64 0, .int .i64 0, .int .i64 0, .int .i64 0, .int .i64 0, .int .i64 0, .int .i64 0, .int .i64 0, .int .i64 0, .int .i64 0, .int .i64 0, .bool false, .slice none 0 0, .slice none 0 0] 36))) := Lib.hid (by go_grown)
  go_enter Try.func18, Try.ntmps18
  go_wp2_with (first | (with_reducible refine loadA rfl _ rfl w.heap.size rfl p0.out ?_) | (with_reducible refine loadA rfl _ rfl (w.heap.size + 1) rfl r0.out ?_))
  refine Calls.mono (pairIB s t true HP.out _) ?_
  rintro e w1 ⟨rfl, b1⟩
  have p1 := Lib.hid (K.below b1 p0.out)
  have r1 := Lib.hid (K.below b1 r0.out)
  have z1 := Lib.hid (K.below b1 z0.out)
  have B1 := Lib.hid (bthen B0.out b1)
  clear b1 p0 r0 z0 B0
  go_wp2_with fail
  refine Calls.mono (protoB p true _ HQ.out) ?_
  rintro e w2 ⟨rfl, b2⟩
  have p2 := Lib.hid (K.below b2 p1.out)
  have r2 := Lib.hid (K.below b2 r1.out)
  have z2 := Lib.hid (K.below b2 z1.out)
  have B2 := Lib.hid (bthen B1.out b2)
  clear b2 p1 r1 z1 B1
  have d0 := K.cell p2.out 0 _ rfl
  go_wp2_with fail
  clear d0
  refine Calls.mono (kind_impl p s.k 2 _ HPR.out HSK.out HKQ.out) ?_
  rintro e w3 ⟨rfl, b3⟩
  have p3 := Lib.hid (K.below b3 p2.out)
  have r3 := Lib.hid (K.below b3 r2.out)
  have z3 := Lib.hid (K.below b3 z2.out)
  have B3 := Lib.hid (bthen B2.out b3)
  clear b3 p2 r2 z2 B2
  go_wp2_with fail
  refine Calls.mono (formatOfC (Uh.mk 2 0 0 0 0 0 0 0 0 0 0 false) none none 0 0 0 0 _) ?_
  rintro e w4 ⟨rfl, rfl⟩
  simp only [show ∀ v, fmtV 2 v = .iface 111 v from fun _ => rfl]
  have b4 := Joins.below_alloc1 w3 (.cells #[.int .i64 2, .int .i64 0, .int .i64 0, .int .i64 0, .int .i64 0, .int .i64 0, .int .i64 0, .int .i64 0, .int .i64 0, .int .i64 0, .int .i64 0, .bool false, .slice none 0 0, .slice none 0 0] 36)
  have p4 := Lib.hid (K.below b4 p3.out)
  have r4 := Lib.hid (K.below b4 r3.out)
  have z4 := Lib.hid (K.below b4 z3.out)
  have B4 := Lib.hid (bthen B3.out b4)
  clear b4 p3 r3 z3 B3
  generalize w3.alloc (.cells #[.int .i64 2, .int .i64 0, .int .i64 0, .int .i64 0, .int .i64 0, .int .i64 0, .int .i64 0, .int .i64 0, .int .i64 0, .int .i64 0, .int .i64 0, .bool false, .slice none 0 0, .slice none 0 0] 36) = w4 at p4 r4 z4 B4 ⊢
  go_wp2_with fail
  refine Calls.mono (head_udp (Uh.mk 2 0 0 0 0 0 0 0 0 0 0 false) none none 0 0 0 0 _ (by omega)) ?_
  rintro e w5 ⟨rfl, b5⟩
  have p5 := Lib.hid (K.below b5 p4.out)
  have r5 := Lib.hid (K.below b5 r4.out)
  have z5 := Lib.hid (K.below b5 z4.out)
  have B5 := Lib.hid (bthen B4.out b5)
  clear b5 p4 r4 z4 B4
  go_wp2_with (with_reducible refine storeU rfl _ _ rfl (w.heap.size + 1 + 1) rfl rfl z5.out ?_)
  (try simp only [Exit.inBlock, Exit.then])
  refine bodyPost_ret (v := .tuple #[.agg #[.int .i64 0, .int .i64 0, .int .i64 0, .int .i64 0, .int .i64 0, .int .i64 0, .int .i64 0, .int .i64 0, .int .i64 0, .int .i64 0, .int .i64 0, .bool false, .slice none 0 0, .slice none 0 0], .int .i64 3]) ?_ rfl (uread_no HF.out (by omega) (K.setRow_below B5.out (by omega) _))
  exact K.resCellTmp Try.results18 _ _ _ (w.heap.size + 1 + 1) _ rfl (run_loadVar_row _ _ 36 36 _ (0, 0) _ (setRow_heap _ _ _ _ _ _ z5.out) Try.underlying36 rfl info_up)
set_option maxHeartbeats 4000000 in
theorem urI_short3 (w : World) (A : Option Addr) (n c : Nat) (bs : List UInt8) (p : Int) (s t : Ad) (hr : RB w w.heap.size A bs) (hl : bs.length = n) (hn : n ≤ 1500) (hp : pairA s t = true) (hq : upTo p 255 = true) (hs : s.k = 4 ∨ s.k = 6) (hk : kindU p s.k = 3) (hf : uhC bs p s t = 3) (h3 : n < 8) : Calls Try.prog 18 #[.slice A n c, .int .i64 p, .agg #[.int .i64 s.k, .int .i64 s.a, .int .i64 s.b, .int .i64 s.c, .int .i64 s.d], .agg #[.int .i64 t.k, .int .i64 t.a, .int .i64 t.b, .int .i64 t.c, .int .i64 t.d]] w (URead bs p s t w) := by
  have HP := Lib.hid hp
  have HPR := Lib.hid hq
  have HQ := Lib.hid hq
  have HKQ := Lib.hid hk
  have HSK := Lib.hid hs
  have HF := Lib.hid hf
  have hI2 : (n : Int) < 8 := by omega
  clear hf
  have R0 := Lib.hid hr
  have HL := Lib.hid hl
  have hI : ¬ (1500 : Int) < (n : Int) := by omega
  clear hr hp hq hk hs hl
  have p0 : Hid ((((w.alloc (.cells #[.int .i64 s.k, .int .i64 s.a, .int .i64 s.b, .int .i64 s.c, .int .i64 s.d] 27)).alloc (.cells #[.int .i64 t.k, .int .i64 t.a, .int .i64 t.b, .int .i64 t.c, .int .i64 t.d] 27)).alloc (.cells #[.int .i64 0, .int .i64 0, .int .i64 0, .int .i64 0, .int .i64 0, .int .i64 0, .int .i64 0, .int .i64 0, .int .i64 0, .int .i64 0, .int .i64 0, .bool false, .slice none 0 0, .slice none 0 0] 36)).heap[w.heap.size]? = some (.cells #[.int .i64 s.k, .int .i64 s.a, .int .i64 s.b, .int .i64 s.c, .int .i64 s.d] 27)) := Lib.hid (by repeat (first | exact K.newAt (by first | rfl | (simp; done)) | refine K.oldAt (by first | (simp; done) | (simp; omega)) ?_))
  have r0 : Hid ((((w.alloc (.cells #[.int .i64 s.k, .int .i64 s.a, .int .i64 s.b, .int .i64 s.c, .int .i64 s.d] 27)).alloc (.cells #[.int .i64 t.k, .int .i64 t.a, .int .i64 t.b, .int .i64 t.c, .int .i64 t.d] 27)).alloc (.cells #[.int .i64 0, .int .i64 0, .int .i64 0, .int .i64 0, .int .i64 0, .int .i64 0, .int .i64 0, .int .i64 0, .int .i64 0, .int .i64 0, .int .i64 0, .bool false, .slice none 0 0, .slice none 0 0] 36)).heap[w.heap.size + 1]? = some (.cells #[.int .i64 t.k, .int .i64 t.a, .int .i64 t.b, .int .i64 t.c, .int .i64 t.d] 27)) := Lib.hid (by repeat (first | exact K.newAt (by first | rfl | (simp; done)) | refine K.oldAt (by first | (simp; done) | (simp; omega)) ?_))
  have z0 : Hid ((((w.alloc (.cells #[.int .i64 s.k, .int .i64 s.a, .int .i64 s.b, .int .i64 s.c, .int .i64 s.d] 27)).alloc (.cells #[.int .i64 t.k, .int .i64 t.a, .int .i64 t.b, .int .i64 t.c, .int .i64 t.d] 27)).alloc (.cells #[.int .i64 0, .int .i64 0, .int .i64 0, .int .i64 0, .int .i64 0, .int .i64 0, .int .i64 0, .int .i64 0, .int .i64 0, .int .i64 0, .int .i64 0, .bool false, .slice none 0 0, .slice none 0 0] 36)).heap[w.heap.size + 1 + 1]? = some (.cells #[.int .i64 0, .int .i64 0, .int .i64 0, .int .i64 0, .int .i64 0, .int .i64 0, .int .i64 0, .int .i64 0, .int .i64 0, .int .i64 0, .int .i64 0, .bool false, .slice none 0 0, .slice none 0 0] 36)) := Lib.hid (by repeat (first | exact K.newAt (by first | rfl | (simp; done)) | refine K.oldAt (by first | (simp; done) | (simp; omega)) ?_))
  have B0 : Hid (Below w.heap.size w (((w.alloc (.cells #[.int .i64 s.k, .int .i64 s.a, .int .i64 s.b, .int .i64 s.c, .int .i64 s.d] 27)).alloc (.cells #[.int .i64 t.k, .int .i64 t.a, .int .i64 t.b, .int .i64 t.c, .int .i64 t.d] 27)).alloc (.cells #[.int .i64 0, .int .i64 0, .int .i64 0, .int .i64 0, .int .i64 0, .int .i64 0, .int .i64 0, .int .i64 0, .int .i64 0, .int .i64 0, .int .i64 0, .bool false, .slice none 0 0, .slice none 0 0] 36))) := Lib.hid (by go_grown)
  go_enter Try.func18, Try.ntmps18
  go_wp2_with (first | (with_reducible refine loadA rfl _ rfl w.heap.size rfl p0.out ?_) | (with_reducible refine loadA rfl _ rfl (w.heap.size + 1) rfl r0.out ?_))
  refine Calls.mono (pairIB s t true HP.out _) ?_
  rintro e w1 ⟨rfl, b1⟩
  have p1 := Lib.hid (K.below b1 p0.out)
  have r1 := Lib.hid (K.below b1 r0.out)
  have z1 := Lib.hid (K.below b1 z0.out)
  have B1 := Lib.hid (bthen B0.out b1)
  clear b1 p0 r0 z0 B0
  go_wp2_with fail
  refine Calls.mono (protoB p true _ HQ.out) ?_
  rintro e w2 ⟨rfl, b2⟩
  have p2 := Lib.hid (K.below b2 p1.out)
  have r2 := Lib.hid (K.below b2 r1.out)
  have z2 := Lib.hid (K.below b2 z1.out)
  have B2 := Lib.hid (bthen B1.out b2)
  clear b2 p1 r1 z1 B1
  have d0 := K.cell p2.out 0 _ rfl
  go_wp2_with fail
  clear d0
  refine Calls.mono (kind_impl p s.k 3 _ HPR.out HSK.out HKQ.out) ?_
  rintro e w3 ⟨rfl, b3⟩
  have p3 := Lib.hid (K.below b3 p2.out)
  have r3 := Lib.hid (K.below b3 r2.out)
  have z3 := Lib.hid (K.below b3 z2.out)
  have B3 := Lib.hid (bthen B2.out b3)
  clear b3 p2 r2 z2 B2
  go_wp2_with fail
  refine Calls.mono (formatOfC (Uh.mk 3 0 0 0 0 0 0 0 0 0 0 false) none none 0 0 0 0 _) ?_
  rintro e w4 ⟨rfl, rfl⟩
  simp only [show ∀ v, fmtV 3 v = .iface 112 v from fun _ => rfl]
  have b4 := Joins.below_alloc1 w3 (.cells #[.int .i64 3, .int .i64 0, .int .i64 0, .int .i64 0, .int .i64 0, .int .i64 0, .int .i64 0, .int .i64 0, .int .i64 0, .int .i64 0, .int .i64 0, .bool false, .slice none 0 0, .slice none 0 0] 36)
  have p4 := Lib.hid (K.below b4 p3.out)
  have r4 := Lib.hid (K.below b4 r3.out)
  have z4 := Lib.hid (K.below b4 z3.out)
  have B4 := Lib.hid (bthen B3.out b4)
  clear b4 p3 r3 z3 B3
  generalize w3.alloc (.cells #[.int .i64 3, .int .i64 0, .int .i64 0, .int .i64 0, .int .i64 0, .int .i64 0, .int .i64 0, .int .i64 0, .int .i64 0, .int .i64 0, .int .i64 0, .bool false, .slice none 0 0, .slice none 0 0] 36) = w4 at p4 r4 z4 B4 ⊢
  go_wp2_with fail
  refine Calls.mono (head_icmp (Uh.mk 3 0 0 0 0 0 0 0 0 0 0 false) none none 0 0 0 0 _ (by omega)) ?_
  rintro e w5 ⟨rfl, b5⟩
  have p5 := Lib.hid (K.below b5 p4.out)
  have r5 := Lib.hid (K.below b5 r4.out)
  have z5 := Lib.hid (K.below b5 z4.out)
  have B5 := Lib.hid (bthen B4.out b5)
  clear b5 p4 r4 z4 B4
  go_wp2_with (with_reducible refine storeU rfl _ _ rfl (w.heap.size + 1 + 1) rfl rfl z5.out ?_)
  (try simp only [Exit.inBlock, Exit.then])
  refine bodyPost_ret (v := .tuple #[.agg #[.int .i64 0, .int .i64 0, .int .i64 0, .int .i64 0, .int .i64 0, .int .i64 0, .int .i64 0, .int .i64 0, .int .i64 0, .int .i64 0, .int .i64 0, .bool false, .slice none 0 0, .slice none 0 0], .int .i64 3]) ?_ rfl (uread_no HF.out (by omega) (K.setRow_below B5.out (by omega) _))
  exact K.resCellTmp Try.results18 _ _ _ (w.heap.size + 1 + 1) _ rfl (run_loadVar_row _ _ 36 36 _ (0, 0) _ (setRow_heap _ _ _ _ _ _ z5.out) Try.underlying36 rfl info_up)
set_option maxHeartbeats 4000000 in
theorem urI_code1 (w : World) (a : Addr) (n c : Nat) (bs : List UInt8) (p : Int) (s t : Ad) (hr : RB w w.heap.size (some a) bs) (hl : bs.length = n) (hc : n ≤ c) (hn : n ≤ 1500) (hp : pairA s t = true) (hq : upTo p 255 = true) (hs : s.k = 4 ∨ s.k = 6) (hk : kindU p s.k = 1) (hf : uhC bs p s t = 4) (h3 : 20 ≤ n) (hu : ∀ (v : World) (g : Nat), Rp v g (some a) n c bs 0 → Calls Try.prog 49 #[.iface 110 (.agg #[.int .i64 1, .int .i64 0, .int .i64 0, .int .i64 0, .int .i64 0, .int .i64 0, .int .i64 0, .int .i64 0, .int .i64 0, .int .i64 0, .int .i64 0, .bool false, .slice none 0 0, .slice none 0 0]), .pointer (some ⟨g, 0, none⟩)] v (TakeNo 4 g v)) : Calls Try.prog 18 #[.slice (some a) n c, .int .i64 p, .agg #[.int .i64 s.k, .int .i64 s.a, .int .i64 s.b, .int .i64 s.c, .int .i64 s.d], .agg #[.int .i64 t.k, .int .i64 t.a, .int .i64 t.b, .int .i64 t.c, .int .i64 t.d]] w (URead bs p s t w) := by
  have HP := Lib.hid hp
  have HPR := Lib.hid hq
  have HQ := Lib.hid hq
  have HKQ := Lib.hid hk
  have HSK := Lib.hid hs
  have HF := Lib.hid hf
  have HU := Lib.hid hu
  have hI2 : ¬ (n : Int) < 20 := by omega
  clear hf hu
  have R0 := Lib.hid hr
  have HL := Lib.hid hl
  have hI : ¬ (1500 : Int) < (n : Int) := by omega
  clear hr hp hq hk hs hl
  have p0 : Hid ((((w.alloc (.cells #[.int .i64 s.k, .int .i64 s.a, .int .i64 s.b, .int .i64 s.c, .int .i64 s.d] 27)).alloc (.cells #[.int .i64 t.k, .int .i64 t.a, .int .i64 t.b, .int .i64 t.c, .int .i64 t.d] 27)).alloc (.cells #[.int .i64 0, .int .i64 0, .int .i64 0, .int .i64 0, .int .i64 0, .int .i64 0, .int .i64 0, .int .i64 0, .int .i64 0, .int .i64 0, .int .i64 0, .bool false, .slice none 0 0, .slice none 0 0] 36)).heap[w.heap.size]? = some (.cells #[.int .i64 s.k, .int .i64 s.a, .int .i64 s.b, .int .i64 s.c, .int .i64 s.d] 27)) := Lib.hid (by repeat (first | exact K.newAt (by first | rfl | (simp; done)) | refine K.oldAt (by first | (simp; done) | (simp; omega)) ?_))
  have r0 : Hid ((((w.alloc (.cells #[.int .i64 s.k, .int .i64 s.a, .int .i64 s.b, .int .i64 s.c, .int .i64 s.d] 27)).alloc (.cells #[.int .i64 t.k, .int .i64 t.a, .int .i64 t.b, .int .i64 t.c, .int .i64 t.d] 27)).alloc (.cells #[.int .i64 0, .int .i64 0, .int .i64 0, .int .i64 0, .int .i64 0, .int .i64 0, .int .i64 0, .int .i64 0, .int .i64 0, .int .i64 0, .int .i64 0, .bool false, .slice none 0 0, .slice none 0 0] 36)).heap[w.heap.size + 1]? = some (.cells #[.int .i64 t.k, .int .i64 t.a, .int .i64 t.b, .int .i64 t.c, .int .i64 t.d] 27)) := Lib.hid (by repeat (first | exact K.newAt (by first | rfl | (simp; done)) | refine K.oldAt (by first | (simp; done) | (simp; omega)) ?_))
  have z0 : Hid ((((w.alloc (.cells #[.int .i64 s.k, .int .i64 s.a, .int .i64 s.b, .int .i64 s.c, .int .i64 s.d] 27)).alloc (.cells #[.int .i64 t.k, .int .i64 t.a, .int .i64 t.b, .int .i64 t.c, .int .i64 t.d] 27)).alloc (.cells #[.int .i64 0, .int .i64 0, .int .i64 0, .int .i64 0, .int .i64 0, .int .i64 0, .int .i64 0, .int .i64 0, .int .i64 0, .int .i64 0, .int .i64 0, .bool false, .slice none 0 0, .slice none 0 0] 36)).heap[w.heap.size + 1 + 1]? = some (.cells #[.int .i64 0, .int .i64 0, .int .i64 0, .int .i64 0, .int .i64 0, .int .i64 0, .int .i64 0, .int .i64 0, .int .i64 0, .int .i64 0, .int .i64 0, .bool false, .slice none 0 0, .slice none 0 0] 36)) := Lib.hid (by repeat (first | exact K.newAt (by first | rfl | (simp; done)) | refine K.oldAt (by first | (simp; done) | (simp; omega)) ?_))
  have B0 : Hid (Below w.heap.size w (((w.alloc (.cells #[.int .i64 s.k, .int .i64 s.a, .int .i64 s.b, .int .i64 s.c, .int .i64 s.d] 27)).alloc (.cells #[.int .i64 t.k, .int .i64 t.a, .int .i64 t.b, .int .i64 t.c, .int .i64 t.d] 27)).alloc (.cells #[.int .i64 0, .int .i64 0, .int .i64 0, .int .i64 0, .int .i64 0, .int .i64 0, .int .i64 0, .int .i64 0, .int .i64 0, .int .i64 0, .int .i64 0, .bool false, .slice none 0 0, .slice none 0 0] 36))) := Lib.hid (by go_grown)
  go_enter Try.func18, Try.ntmps18
  go_wp2_with (first | (with_reducible refine loadA rfl _ rfl w.heap.size rfl p0.out ?_) | (with_reducible refine loadA rfl _ rfl (w.heap.size + 1) rfl r0.out ?_))
  refine Calls.mono (pairIB s t true HP.out _) ?_
  rintro e w1 ⟨rfl, b1⟩
  have p1 := Lib.hid (K.below b1 p0.out)
  have r1 := Lib.hid (K.below b1 r0.out)
  have z1 := Lib.hid (K.below b1 z0.out)
  have B1 := Lib.hid (bthen B0.out b1)
  clear b1 p0 r0 z0 B0
  go_wp2_with fail
  refine Calls.mono (protoB p true _ HQ.out) ?_
  rintro e w2 ⟨rfl, b2⟩
  have p2 := Lib.hid (K.below b2 p1.out)
  have r2 := Lib.hid (K.below b2 r1.out)
  have z2 := Lib.hid (K.below b2 z1.out)
  have B2 := Lib.hid (bthen B1.out b2)
  clear b2 p1 r1 z1 B1
  have d0 := K.cell p2.out 0 _ rfl
  go_wp2_with fail
  clear d0
  refine Calls.mono (kind_impl p s.k 1 _ HPR.out HSK.out HKQ.out) ?_
  rintro e w3 ⟨rfl, b3⟩
  have p3 := Lib.hid (K.below b3 p2.out)
  have r3 := Lib.hid (K.below b3 r2.out)
  have z3 := Lib.hid (K.below b3 z2.out)
  have B3 := Lib.hid (bthen B2.out b3)
  clear b3 p2 r2 z2 B2
  go_wp2_with fail
  refine Calls.mono (formatOfC (Uh.mk 1 0 0 0 0 0 0 0 0 0 0 false) none none 0 0 0 0 _) ?_
  rintro e w4 ⟨rfl, rfl⟩
  simp only [show ∀ v, fmtV 1 v = .iface 110 v from fun _ => rfl]
  have b4 := Joins.below_alloc1 w3 (.cells #[.int .i64 1, .int .i64 0, .int .i64 0, .int .i64 0, .int .i64 0, .int .i64 0, .int .i64 0, .int .i64 0, .int .i64 0, .int .i64 0, .int .i64 0, .bool false, .slice none 0 0, .slice none 0 0] 36)
  have p4 := Lib.hid (K.below b4 p3.out)
  have r4 := Lib.hid (K.below b4 r3.out)
  have z4 := Lib.hid (K.below b4 z3.out)
  have B4 := Lib.hid (bthen B3.out b4)
  clear b4 p3 r3 z3 B3
  generalize w3.alloc (.cells #[.int .i64 1, .int .i64 0, .int .i64 0, .int .i64 0, .int .i64 0, .int .i64 0, .int .i64 0, .int .i64 0, .int .i64 0, .int .i64 0, .int .i64 0, .bool false, .slice none 0 0, .slice none 0 0] 36) = w4 at p4 r4 z4 B4 ⊢
  go_wp2_with fail
  refine Calls.mono (head_tcp (Uh.mk 1 0 0 0 0 0 0 0 0 0 0 false) none none 0 0 0 0 _ (by omega)) ?_
  rintro e w5 ⟨rfl, b5⟩
  simp only [show (20 : Int) + ((0 : Nat) : Int) = 20 from rfl]
  have p5 := Lib.hid (K.below b5 p4.out)
  have r5 := Lib.hid (K.below b5 r4.out)
  have z5 := Lib.hid (K.below b5 z4.out)
  have B5 := Lib.hid (bthen B4.out b5)
  clear b5 p4 r4 z4 B4
  have p6 := Lib.hid (K.old p5.out (.cells #[.slice (some a) n c, .int .i64 0] 79))
  have r6 := Lib.hid (K.old r5.out (.cells #[.slice (some a) n c, .int .i64 0] 79))
  have z6 := Lib.hid (K.old z5.out (.cells #[.slice (some a) n c, .int .i64 0] 79))
  have lw5 : w.heap.size + 1 + 1 < w5.heap.size := K.lt z5.out
  have B6 := Lib.hid (bthen B5.out (Joins.below_alloc1 w5 (.cells #[.slice (some a) n c, .int .i64 0] 79)))
  have RR : Hid (Rp (w5.alloc (.cells #[.slice (some a) n c, .int .i64 0] 79)) w5.heap.size (some a) n c bs 0) := Lib.hid ⟨K.new w5 _, (R0.out.below B6.out).more (by omega), HL.out, by omega, by omega⟩
  go_wp2_with fail
  clear p5 r5 z5 B5
  refine Calls.mono (HU.out _ _ RR.out) ?_
  rintro e w6 ⟨rfl, gg⟩
  simp only [Uh.zero]
  have p7 := Lib.hid (K.kept gg p6.out (fun u hu => by cases hu; omega))
  have r7 := Lib.hid (K.kept gg r6.out (fun u hu => by cases hu; omega))
  have z7 := Lib.hid (K.kept gg z6.out (fun u hu => by cases hu; omega))
  have B7 := Lib.hid (bgrown B6.out gg (fun u hu => by cases hu; omega))
  clear RR p6 r6 z6 B6
  have p8 := Lib.hid (K.old p7.out (.cells #[.int .i64 0, .int .i64 0, .int .i64 0, .int .i64 0, .int .i64 0, .int .i64 0, .int .i64 0, .int .i64 0, .int .i64 0, .int .i64 0, .int .i64 0, .bool false, .slice none 0 0, .slice none 0 0] 36))
  have r8 := Lib.hid (K.old r7.out (.cells #[.int .i64 0, .int .i64 0, .int .i64 0, .int .i64 0, .int .i64 0, .int .i64 0, .int .i64 0, .int .i64 0, .int .i64 0, .int .i64 0, .int .i64 0, .bool false, .slice none 0 0, .slice none 0 0] 36))
  have z8 := Lib.hid (K.old z7.out (.cells #[.int .i64 0, .int .i64 0, .int .i64 0, .int .i64 0, .int .i64 0, .int .i64 0, .int .i64 0, .int .i64 0, .int .i64 0, .int .i64 0, .int .i64 0, .bool false, .slice none 0 0, .slice none 0 0] 36))
  have B8 := Lib.hid (bthen B7.out (Joins.below_alloc1 w6 (.cells #[.int .i64 0, .int .i64 0, .int .i64 0, .int .i64 0, .int .i64 0, .int .i64 0, .int .i64 0, .int .i64 0, .int .i64 0, .int .i64 0, .int .i64 0, .bool false, .slice none 0 0, .slice none 0 0] 36)))
  go_wp2_with (first | (with_reducible refine storeNewU rfl _ _ rfl rfl rfl ?_) | (with_reducible refine storeU rfl _ _ rfl (w.heap.size + 1 + 1) rfl rfl z8.out ?_))
  (try simp only [Exit.inBlock, Exit.then])
  refine bodyPost_ret (v := .tuple #[.agg #[.int .i64 0, .int .i64 0, .int .i64 0, .int .i64 0, .int .i64 0, .int .i64 0, .int .i64 0, .int .i64 0, .int .i64 0, .int .i64 0, .int .i64 0, .bool false, .slice none 0 0, .slice none 0 0], .int .i64 4]) ?_ rfl (uread_no HF.out (by omega) (K.setRow_below B8.out (by omega) _))
  exact K.resCellTmp Try.results18 _ _ _ (w.heap.size + 1 + 1) _ rfl (run_loadVar_row _ _ 36 36 _ (0, 0) _ (setRow_heap _ _ _ _ _ _ z8.out) Try.underlying36 rfl info_up)
set_option maxHeartbeats 4000000 in
theorem urI_code2 (w : World) (a : Addr) (n c : Nat) (bs : List UInt8) (p : Int) (s t : Ad) (hr : RB w w.heap.size (some a) bs) (hl : bs.length = n) (hc : n ≤ c) (hn : n ≤ 1500) (hp : pairA s t = true) (hq : upTo p 255 = true) (hs : s.k = 4 ∨ s.k = 6) (hk : kindU p s.k = 2) (hf : uhC bs p s t = 5) (h3 : 8 ≤ n) (hu : ∀ (v : World) (g : Nat), Rp v g (some a) n c bs 0 → Calls Try.prog 49 #[.iface 111 (.agg #[.int .i64 2, .int .i64 0, .int .i64 0, .int .i64 0, .int .i64 0, .int .i64 0, .int .i64 0, .int .i64 0, .int .i64 0, .int .i64 0, .int .i64 0, .bool false, .slice none 0 0, .slice none 0 0]), .pointer (some ⟨g, 0, none⟩)] v (TakeNo 5 g v)) : Calls Try.prog 18 #[.slice (some a) n c, .int .i64 p, .agg #[.int .i64 s.k, .int .i64 s.a, .int .i64 s.b, .int .i64 s.c, .int .i64 s.d], .agg #[.int .i64 t.k, .int .i64 t.a, .int .i64 t.b, .int .i64 t.c, .int .i64 t.d]] w (URead bs p s t w) := by
  have HP := Lib.hid hp
  have HPR := Lib.hid hq
  have HQ := Lib.hid hq
  have HKQ := Lib.hid hk
  have HSK := Lib.hid hs
  have HF := Lib.hid hf
  have HU := Lib.hid hu
  have hI2 : ¬ (n : Int) < 8 := by omega
  clear hf hu
  have R0 := Lib.hid hr
  have HL := Lib.hid hl
  have hI : ¬ (1500 : Int) < (n : Int) := by omega
  clear hr hp hq hk hs hl
  have p0 : Hid ((((w.alloc (.cells #[.int .i64 s.k, .int .i64 s.a, .int .i64 s.b, .int .i64 s.c, .int .i64 s.d] 27)).alloc (.cells #[.int .i64 t.k, .int .i64 t.a, .int .i64 t.b, .int .i64 t.c, .int .i64 t.d] 27)).alloc (.cells #[.int .i64 0, .int .i64 0, .int .i64 0, .int .i64 0, .int .i64 0, .int .i64 0, .int .i64 0, .int .i64 0, .int .i64 0, .int .i64 0, .int .i64 0, .bool false, .slice none 0 0, .slice none 0 0] 36)).heap[w.heap.size]? = some (.cells #[.int .i64 s.k, .int .i64 s.a, .int .i64 s.b, .int .i64 s.c, .int .i64 s.d] 27)) := Lib.hid (by repeat (first | exact K.newAt (by first | rfl | (simp; done)) | refine K.oldAt (by first | (simp; done) | (simp; omega)) ?_))
  have r0 : Hid ((((w.alloc (.cells #[.int .i64 s.k, .int .i64 s.a, .int .i64 s.b, .int .i64 s.c, .int .i64 s.d] 27)).alloc (.cells #[.int .i64 t.k, .int .i64 t.a, .int .i64 t.b, .int .i64 t.c, .int .i64 t.d] 27)).alloc (.cells #[.int .i64 0, .int .i64 0, .int .i64 0, .int .i64 0, .int .i64 0, .int .i64 0, .int .i64 0, .int .i64 0, .int .i64 0, .int .i64 0, .int .i64 0, .bool false, .slice none 0 0, .slice none 0 0] 36)).heap[w.heap.size + 1]? = some (.cells #[.int .i64 t.k, .int .i64 t.a, .int .i64 t.b, .int .i64 t.c, .int .i64 t.d] 27)) := Lib.hid (by repeat (first | exact K.newAt (by first | rfl | (simp; done)) | refine K.oldAt (by first | (simp; done) | (simp; omega)) ?_))
  have z0 : Hid ((((w.alloc (.cells #[.int .i64 s.k, .int .i64 s.a, .int .i64 s.b, .int .i64 s.c, .int .i64 s.d] 27)).alloc (.cells #[.int .i64 t.k, .int .i64 t.a, .int .i64 t.b, .int .i64 t.c, .int .i64 t.d] 27)).alloc (.cells #[.int .i64 0, .int .i64 0, .int .i64 0, .int .i64 0, .int .i64 0, .int .i64 0, .int .i64 0, .int .i64 0, .int .i64 0, .int .i64 0, .int .i64 0, .bool false, .slice none 0 0, .slice none 0 0] 36)).heap[w.heap.size + 1 + 1]? = some (.cells #[.int .i64 0, .int .i64 0, .int .i64 0, .int .i64 0, .int .i64 0, .int .i64 0, .int .i64 0, .int .i64 0, .int .i64 0, .int .i64 0, .int .i64 0, .bool false, .slice none 0 0, .slice none 0 0] 36)) := Lib.hid (by repeat (first | exact K.newAt (by first | rfl | (simp; done)) | refine K.oldAt (by first | (simp; done) | (simp; omega)) ?_))
  have B0 : Hid (Below w.heap.size w (((w.alloc (.cells #[.int .i64 s.k, .int .i64 s.a, .int .i64 s.b, .int .i64 s.c, .int .i64 s.d] 27)).alloc (.cells #[.int .i64 t.k, .int .i64 t.a, .int .i64 t.b, .int .i64 t.c, .int .i64 t.d] 27)).alloc (.cells #[.int .i64 0, .int .i64 0, .int .i64 0, .int .i64 0, .int .i64 0, .int .i64 0, .int .i64 0, .int .i64 0, .int .i64 0, .int .i64 0, .int .i64 0, .bool false, .slice none 0 0, .slice none 0 0] 36))) := Lib.hid (by go_grown)
  go_enter Try.func18, Try.ntmps18
  go_wp2_with (first | (with_reducible refine loadA rfl _ rfl w.heap.size rfl p0.out ?_) | (with_reducible refine loadA rfl _ rfl (w.heap.size + 1) rfl r0.out ?_))
  refine Calls.mono (pairIB s t true HP.out _) ?_
  rintro e w1 ⟨rfl, b1⟩
  have p1 := Lib.hid (K.below b1 p0.out)
  have r1 := Lib.hid (K.below b1 r0.out)
  have z1 := Lib.hid (K.below b1 z0.out)
  have B1 := Lib.hid (bthen B0.out b1)
  clear b1 p0 r0 z0 B0
  go_wp2_with fail
  refine Calls.mono (protoB p true _ HQ.out) ?_
  rintro e w2 ⟨rfl, b2⟩
  have p2 := Lib.hid (K.below b2 p1.out)
  have r2 := Lib.hid (K.below b2 r1.out)
  have z2 := Lib.hid (K.below b2 z1.out)
  have B2 := Lib.hid (bthen B1.out b2)
  clear b2 p1 r1 z1 B1
  have d0 := K.cell p2.out 0 _ rfl
  go_wp2_with fail
  clear d0
  refine Calls.mono (kind_impl p s.k 2 _ HPR.out HSK.out HKQ.out) ?_
  rintro e w3 ⟨rfl, b3⟩
  have p3 := Lib.hid (K.below b3 p2.out)
  have r3 := Lib.hid (K.below b3 r2.out)
  have z3 := Lib.hid (K.below b3 z2.out)
  have B3 := Lib.hid (bthen B2.out b3)
  clear b3 p2 r2 z2 B2
  go_wp2_with fail
  refine Calls.mono (formatOfC (Uh.mk 2 0 0 0 0 0 0 0 0 0 0 false) none none 0 0 0 0 _) ?_
  rintro e w4 ⟨rfl, rfl⟩
  simp only [show ∀ v, fmtV 2 v = .iface 111 v from fun _ => rfl]
  have b4 := Joins.below_alloc1 w3 (.cells #[.int .i64 2, .int .i64 0, .int .i64 0, .int .i64 0, .int .i64 0, .int .i64 0, .int .i64 0, .int .i64 0, .int .i64 0, .int .i64 0, .int .i64 0, .bool false, .slice none 0 0, .slice none 0 0] 36)
  have p4 := Lib.hid (K.below b4 p3.out)
  have r4 := Lib.hid (K.below b4 r3.out)
  have z4 := Lib.hid (K.below b4 z3.out)
  have B4 := Lib.hid (bthen B3.out b4)
  clear b4 p3 r3 z3 B3
  generalize w3.alloc (.cells #[.int .i64 2, .int .i64 0, .int .i64 0, .int .i64 0, .int .i64 0, .int .i64 0, .int .i64 0, .int .i64 0, .int .i64 0, .int .i64 0, .int .i64 0, .bool false, .slice none 0 0, .slice none 0 0] 36) = w4 at p4 r4 z4 B4 ⊢
  go_wp2_with fail
  refine Calls.mono (head_udp (Uh.mk 2 0 0 0 0 0 0 0 0 0 0 false) none none 0 0 0 0 _ (by omega)) ?_
  rintro e w5 ⟨rfl, b5⟩
  have p5 := Lib.hid (K.below b5 p4.out)
  have r5 := Lib.hid (K.below b5 r4.out)
  have z5 := Lib.hid (K.below b5 z4.out)
  have B5 := Lib.hid (bthen B4.out b5)
  clear b5 p4 r4 z4 B4
  have p6 := Lib.hid (K.old p5.out (.cells #[.slice (some a) n c, .int .i64 0] 79))
  have r6 := Lib.hid (K.old r5.out (.cells #[.slice (some a) n c, .int .i64 0] 79))
  have z6 := Lib.hid (K.old z5.out (.cells #[.slice (some a) n c, .int .i64 0] 79))
  have lw5 : w.heap.size + 1 + 1 < w5.heap.size := K.lt z5.out
  have B6 := Lib.hid (bthen B5.out (Joins.below_alloc1 w5 (.cells #[.slice (some a) n c, .int .i64 0] 79)))
  have RR : Hid (Rp (w5.alloc (.cells #[.slice (some a) n c, .int .i64 0] 79)) w5.heap.size (some a) n c bs 0) := Lib.hid ⟨K.new w5 _, (R0.out.below B6.out).more (by omega), HL.out, by omega, by omega⟩
  go_wp2_with fail
  clear p5 r5 z5 B5
  refine Calls.mono (HU.out _ _ RR.out) ?_
  rintro e w6 ⟨rfl, gg⟩
  simp only [Uh.zero]
  have p7 := Lib.hid (K.kept gg p6.out (fun u hu => by cases hu; omega))
  have r7 := Lib.hid (K.kept gg r6.out (fun u hu => by cases hu; omega))
  have z7 := Lib.hid (K.kept gg z6.out (fun u hu => by cases hu; omega))
  have B7 := Lib.hid (bgrown B6.out gg (fun u hu => by cases hu; omega))
  clear RR p6 r6 z6 B6
  have p8 := Lib.hid (K.old p7.out (.cells #[.int .i64 0, .int .i64 0, .int .i64 0, .int .i64 0, .int .i64 0, .int .i64 0, .int .i64 0, .int .i64 0, .int .i64 0, .int .i64 0, .int .i64 0, .bool false, .slice none 0 0, .slice none 0 0] 36))
  have r8 := Lib.hid (K.old r7.out (.cells #[.int .i64 0, .int .i64 0, .int .i64 0, .int .i64 0, .int .i64 0, .int .i64 0, .int .i64 0, .int .i64 0, .int .i64 0, .int .i64 0, .int .i64 0, .bool false, .slice none 0 0, .slice none 0 0] 36))
  have z8 := Lib.hid (K.old z7.out (.cells #[.int .i64 0, .int .i64 0, .int .i64 0, .int .i64 0, .int .i64 0, .int .i64 0, .int .i64 0, .int .i64 0, .int .i64 0, .int .i64 0, .int .i64 0, .bool false, .slice none 0 0, .slice none 0 0] 36))
  have B8 := Lib.hid (bthen B7.out (Joins.below_alloc1 w6 (.cells #[.int .i64 0, .int .i64 0, .int .i64 0, .int .i64 0, .int .i64 0, .int .i64 0, .int .i64 0, .int .i64 0, .int .i64 0, .int .i64 0, .int .i64 0, .bool false, .slice none 0 0, .slice none 0 0] 36)))
  go_wp2_with (first | (with_reducible refine storeNewU rfl _ _ rfl rfl rfl ?_) | (with_reducible refine storeU rfl _ _ rfl (w.heap.size + 1 + 1) rfl rfl z8.out ?_))
  (try simp only [Exit.inBlock, Exit.then])
  refine bodyPost_ret (v := .tuple #[.agg #[.int .i64 0, .int .i64 0, .int .i64 0, .int .i64 0, .int .i64 0, .int .i64 0, .int .i64 0, .int .i64 0, .int .i64 0, .int .i64 0, .int .i64 0, .bool false, .slice none 0 0, .slice none 0 0], .int .i64 5]) ?_ rfl (uread_no HF.out (by omega) (K.setRow_below B8.out (by omega) _))
  exact K.resCellTmp Try.results18 _ _ _ (w.heap.size + 1 + 1) _ rfl (run_loadVar_row _ _ 36 36 _ (0, 0) _ (setRow_heap _ _ _ _ _ _ z8.out) Try.underlying36 rfl info_up)
end Go.Proofs.Ythogonpjkngpjaa
