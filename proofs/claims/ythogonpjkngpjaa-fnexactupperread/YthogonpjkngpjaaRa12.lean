/-
  Upper layers are read by the model. Upper layers are read by the model. Upper layers are read by the model. Upper layers are read by the model. Upper layers are read by the model, whatever the bytes, the protocol and the addresses. A region that draws its order and holds a new variable of a struct type (ia) and the store of a result into it (is). Plain: any program.
-/
import Derived.Test.YthogonpjkngpjaaRa11
import Derived.Test.YthogonpjkngpjaaRa08
import Derived.Test.YthogonpjkngpjaaRa07
import Derived.Deep.Cut
import Derived.Test.YthogonpjkngpjaaRa03
import Derived.Test.YthogonpjkngpjaaRa02
namespace Go.Proofs.Ythogonpjkngpjaa
set_option maxRecDepth 100000
open Go.RowKit

set_option maxHeartbeats 4000000 in
theorem urS_long (w : World) (A : Option Addr) (n c : Nat) (bs : List UInt8) (p : Int) (s t : Ad) (hl : bs.length = n) (hn : 1500 < n) (hn2 : n ≤ 1048576) : Calls Try.prog 15 #[.slice A n c, .int .i64 p, .agg #[.int .i64 s.k, .int .i64 s.a, .int .i64 s.b, .int .i64 s.c, .int .i64 s.d], .agg #[.int .i64 t.k, .int .i64 t.a, .int .i64 t.b, .int .i64 t.c, .int .i64 t.d]] w (URead bs p s t w) := by
  have HF := Lib.hid (uhC_long (p := p) (s := s) (t := t) (show 1500 < bs.length by omega))
  clear hl
  have p0 : Hid ((((w.alloc (.cells #[.int .i64 s.k, .int .i64 s.a, .int .i64 s.b, .int .i64 s.c, .int .i64 s.d] 27)).alloc (.cells #[.int .i64 t.k, .int .i64 t.a, .int .i64 t.b, .int .i64 t.c, .int .i64 t.d] 27)).alloc (.cells #[.int .i64 0, .int .i64 0, .int .i64 0, .int .i64 0, .int .i64 0, .int .i64 0, .int .i64 0, .int .i64 0, .int .i64 0, .int .i64 0, .int .i64 0, .bool false, .slice none 0 0, .slice none 0 0] 36)).heap[w.heap.size]? = some (.cells #[.int .i64 s.k, .int .i64 s.a, .int .i64 s.b, .int .i64 s.c, .int .i64 s.d] 27)) := Lib.hid (by repeat (first | exact K.newAt (by first | rfl | (simp; done)) | refine K.oldAt (by first | (simp; done) | (simp; omega)) ?_))
  have r0 : Hid ((((w.alloc (.cells #[.int .i64 s.k, .int .i64 s.a, .int .i64 s.b, .int .i64 s.c, .int .i64 s.d] 27)).alloc (.cells #[.int .i64 t.k, .int .i64 t.a, .int .i64 t.b, .int .i64 t.c, .int .i64 t.d] 27)).alloc (.cells #[.int .i64 0, .int .i64 0, .int .i64 0, .int .i64 0, .int .i64 0, .int .i64 0, .int .i64 0, .int .i64 0, .int .i64 0, .int .i64 0, .int .i64 0, .bool false, .slice none 0 0, .slice none 0 0] 36)).heap[w.heap.size + 1]? = some (.cells #[.int .i64 t.k, .int .i64 t.a, .int .i64 t.b, .int .i64 t.c, .int .i64 t.d] 27)) := Lib.hid (by repeat (first | exact K.newAt (by first | rfl | (simp; done)) | refine K.oldAt (by first | (simp; done) | (simp; omega)) ?_))
  have z0 : Hid ((((w.alloc (.cells #[.int .i64 s.k, .int .i64 s.a, .int .i64 s.b, .int .i64 s.c, .int .i64 s.d] 27)).alloc (.cells #[.int .i64 t.k, .int .i64 t.a, .int .i64 t.b, .int .i64 t.c, .int .i64 t.d] 27)).alloc (.cells #[.int .i64 0, .int .i64 0, .int .i64 0, .int .i64 0, .int .i64 0, .int .i64 0, .int .i64 0, .int .i64 0, .int .i64 0, .int .i64 0, .int .i64 0, .bool false, .slice none 0 0, .slice none 0 0] 36)).heap[w.heap.size + 1 + 1]? = some (.cells #[.int .i64 0, .int .i64 0, .int .i64 0, .int .i64 0, .int .i64 0, .int .i64 0, .int .i64 0, .int .i64 0, .int .i64 0, .int .i64 0, .int .i64 0, .bool false, .slice none 0 0, .slice none 0 0] 36)) := Lib.hid (by repeat (first | exact K.newAt (by first | rfl | (simp; done)) | refine K.oldAt (by first | (simp; done) | (simp; omega)) ?_))
  have B0 : Hid (Below w.heap.size w (((w.alloc (.cells #[.int .i64 s.k, .int .i64 s.a, .int .i64 s.b, .int .i64 s.c, .int .i64 s.d] 27)).alloc (.cells #[.int .i64 t.k, .int .i64 t.a, .int .i64 t.b, .int .i64 t.c, .int .i64 t.d] 27)).alloc (.cells #[.int .i64 0, .int .i64 0, .int .i64 0, .int .i64 0, .int .i64 0, .int .i64 0, .int .i64 0, .int .i64 0, .int .i64 0, .int .i64 0, .int .i64 0, .bool false, .slice none 0 0, .slice none 0 0] 36))) := Lib.hid (by go_grown)
  have hI : (1500 : Int) < (n : Int) := by omega
  clear p0 r0
  go_enter Try.func15, Try.ntmps15
  go_wp2_with (first | (with_reducible refine storeU rfl _ _ rfl (w.heap.size + 1 + 1) rfl rfl z0.out ?_))
  (try simp only [Exit.inBlock, Exit.then])
  refine bodyPost_ret (v := .tuple #[.agg #[.int .i64 0, .int .i64 0, .int .i64 0, .int .i64 0, .int .i64 0, .int .i64 0, .int .i64 0, .int .i64 0, .int .i64 0, .int .i64 0, .int .i64 0, .bool false, .slice none 0 0, .slice none 0 0], .int .i64 1]) ?_ rfl (uread_no HF.out (by omega) (K.setRow_below B0.out (by omega) _))
  exact K.resCellTmp Try.results15 _ _ _ (w.heap.size + 1 + 1) _ rfl (run_loadVar_row _ _ 36 36 _ (0, 0) _ (setRow_heap _ _ _ _ _ _ z0.out) Try.underlying36 rfl info_up)

set_option maxHeartbeats 4000000 in
theorem urS_addr1 (w : World) (A : Option Addr) (n c : Nat) (bs : List UInt8) (p : Int) (s t : Ad) (hl : bs.length = n) (hn : n ≤ 1500) (hp : pairA s t = false) : Calls Try.prog 15 #[.slice A n c, .int .i64 p, .agg #[.int .i64 s.k, .int .i64 s.a, .int .i64 s.b, .int .i64 s.c, .int .i64 s.d], .agg #[.int .i64 t.k, .int .i64 t.a, .int .i64 t.b, .int .i64 t.c, .int .i64 t.d]] w (URead bs p s t w) := by
  have HP := Lib.hid hp
  have HF := Lib.hid (uhC_addr (bs := bs) (show ¬ 1500 < bs.length by omega) (show (pairA s t && upTo p 255) = false by rw [hp]; rfl))
  clear hl hp
  have p0 : Hid ((((w.alloc (.cells #[.int .i64 s.k, .int .i64 s.a, .int .i64 s.b, .int .i64 s.c, .int .i64 s.d] 27)).alloc (.cells #[.int .i64 t.k, .int .i64 t.a, .int .i64 t.b, .int .i64 t.c, .int .i64 t.d] 27)).alloc (.cells #[.int .i64 0, .int .i64 0, .int .i64 0, .int .i64 0, .int .i64 0, .int .i64 0, .int .i64 0, .int .i64 0, .int .i64 0, .int .i64 0, .int .i64 0, .bool false, .slice none 0 0, .slice none 0 0] 36)).heap[w.heap.size]? = some (.cells #[.int .i64 s.k, .int .i64 s.a, .int .i64 s.b, .int .i64 s.c, .int .i64 s.d] 27)) := Lib.hid (by repeat (first | exact K.newAt (by first | rfl | (simp; done)) | refine K.oldAt (by first | (simp; done) | (simp; omega)) ?_))
  have r0 : Hid ((((w.alloc (.cells #[.int .i64 s.k, .int .i64 s.a, .int .i64 s.b, .int .i64 s.c, .int .i64 s.d] 27)).alloc (.cells #[.int .i64 t.k, .int .i64 t.a, .int .i64 t.b, .int .i64 t.c, .int .i64 t.d] 27)).alloc (.cells #[.int .i64 0, .int .i64 0, .int .i64 0, .int .i64 0, .int .i64 0, .int .i64 0, .int .i64 0, .int .i64 0, .int .i64 0, .int .i64 0, .int .i64 0, .bool false, .slice none 0 0, .slice none 0 0] 36)).heap[w.heap.size + 1]? = some (.cells #[.int .i64 t.k, .int .i64 t.a, .int .i64 t.b, .int .i64 t.c, .int .i64 t.d] 27)) := Lib.hid (by repeat (first | exact K.newAt (by first | rfl | (simp; done)) | refine K.oldAt (by first | (simp; done) | (simp; omega)) ?_))
  have z0 : Hid ((((w.alloc (.cells #[.int .i64 s.k, .int .i64 s.a, .int .i64 s.b, .int .i64 s.c, .int .i64 s.d] 27)).alloc (.cells #[.int .i64 t.k, .int .i64 t.a, .int .i64 t.b, .int .i64 t.c, .int .i64 t.d] 27)).alloc (.cells #[.int .i64 0, .int .i64 0, .int .i64 0, .int .i64 0, .int .i64 0, .int .i64 0, .int .i64 0, .int .i64 0, .int .i64 0, .int .i64 0, .int .i64 0, .bool false, .slice none 0 0, .slice none 0 0] 36)).heap[w.heap.size + 1 + 1]? = some (.cells #[.int .i64 0, .int .i64 0, .int .i64 0, .int .i64 0, .int .i64 0, .int .i64 0, .int .i64 0, .int .i64 0, .int .i64 0, .int .i64 0, .int .i64 0, .bool false, .slice none 0 0, .slice none 0 0] 36)) := Lib.hid (by repeat (first | exact K.newAt (by first | rfl | (simp; done)) | refine K.oldAt (by first | (simp; done) | (simp; omega)) ?_))
  have B0 : Hid (Below w.heap.size w (((w.alloc (.cells #[.int .i64 s.k, .int .i64 s.a, .int .i64 s.b, .int .i64 s.c, .int .i64 s.d] 27)).alloc (.cells #[.int .i64 t.k, .int .i64 t.a, .int .i64 t.b, .int .i64 t.c, .int .i64 t.d] 27)).alloc (.cells #[.int .i64 0, .int .i64 0, .int .i64 0, .int .i64 0, .int .i64 0, .int .i64 0, .int .i64 0, .int .i64 0, .int .i64 0, .int .i64 0, .int .i64 0, .bool false, .slice none 0 0, .slice none 0 0] 36))) := Lib.hid (by go_grown)
  have hI : ¬ (1500 : Int) < (n : Int) := by omega
  go_enter Try.func15, Try.ntmps15
  go_wp2_with (first | (with_reducible refine loadA rfl _ rfl w.heap.size rfl p0.out ?_) | (with_reducible refine loadA rfl _ rfl (w.heap.size + 1) rfl r0.out ?_))
  refine Calls.mono (pairSB s t false HP.out _) ?_
  rintro e w1 ⟨rfl, b1⟩
  have p1 := Lib.hid (K.below b1 p0.out)
  have r1 := Lib.hid (K.below b1 r0.out)
  have z1 := Lib.hid (K.below b1 z0.out)
  have B1 := Lib.hid (bthen B0.out b1)
  clear b1 p0 r0 z0 B0
  go_wp2_with (first | (with_reducible refine storeU rfl _ _ rfl (w.heap.size + 1 + 1) rfl rfl z1.out ?_))
  (try simp only [Exit.inBlock, Exit.then])
  refine bodyPost_ret (v := .tuple #[.agg #[.int .i64 0, .int .i64 0, .int .i64 0, .int .i64 0, .int .i64 0, .int .i64 0, .int .i64 0, .int .i64 0, .int .i64 0, .int .i64 0, .int .i64 0, .bool false, .slice none 0 0, .slice none 0 0], .int .i64 2]) ?_ rfl (uread_no HF.out (by omega) (K.setRow_below B1.out (by omega) _))
  exact K.resCellTmp Try.results15 _ _ _ (w.heap.size + 1 + 1) _ rfl (run_loadVar_row _ _ 36 36 _ (0, 0) _ (setRow_heap _ _ _ _ _ _ z1.out) Try.underlying36 rfl info_up)

set_option maxHeartbeats 4000000 in
theorem urS_addr2 (w : World) (A : Option Addr) (n c : Nat) (bs : List UInt8) (p : Int) (s t : Ad) (hl : bs.length = n) (hn : n ≤ 1500) (hp : pairA s t = true) (hq : upTo p 255 = false) : Calls Try.prog 15 #[.slice A n c, .int .i64 p, .agg #[.int .i64 s.k, .int .i64 s.a, .int .i64 s.b, .int .i64 s.c, .int .i64 s.d], .agg #[.int .i64 t.k, .int .i64 t.a, .int .i64 t.b, .int .i64 t.c, .int .i64 t.d]] w (URead bs p s t w) := by
  have HP := Lib.hid hp
  have HQ := Lib.hid hq
  have HF := Lib.hid (uhC_addr (bs := bs) (show ¬ 1500 < bs.length by omega) (show (pairA s t && upTo p 255) = false by rw [hp, hq]; rfl))
  clear hl hp hq
  have p0 : Hid ((((w.alloc (.cells #[.int .i64 s.k, .int .i64 s.a, .int .i64 s.b, .int .i64 s.c, .int .i64 s.d] 27)).alloc (.cells #[.int .i64 t.k, .int .i64 t.a, .int .i64 t.b, .int .i64 t.c, .int .i64 t.d] 27)).alloc (.cells #[.int .i64 0, .int .i64 0, .int .i64 0, .int .i64 0, .int .i64 0, .int .i64 0, .int .i64 0, .int .i64 0, .int .i64 0, .int .i64 0, .int .i64 0, .bool false, .slice none 0 0, .slice none 0 0] 36)).heap[w.heap.size]? = some (.cells #[.int .i64 s.k, .int .i64 s.a, .int .i64 s.b, .int .i64 s.c, .int .i64 s.d] 27)) := Lib.hid (by repeat (first | exact K.newAt (by first | rfl | (simp; done)) | refine K.oldAt (by first | (simp; done) | (simp; omega)) ?_))
  have r0 : Hid ((((w.alloc (.cells #[.int .i64 s.k, .int .i64 s.a, .int .i64 s.b, .int .i64 s.c, .int .i64 s.d] 27)).alloc (.cells #[.int .i64 t.k, .int .i64 t.a, .int .i64 t.b, .int .i64 t.c, .int .i64 t.d] 27)).alloc (.cells #[.int .i64 0, .int .i64 0, .int .i64 0, .int .i64 0, .int .i64 0, .int .i64 0, .int .i64 0, .int .i64 0, .int .i64 0, .int .i64 0, .int .i64 0, .bool false, .slice none 0 0, .slice none 0 0] 36)).heap[w.heap.size + 1]? = some (.cells #[.int .i64 t.k, .int .i64 t.a, .int .i64 t.b, .int .i64 t.c, .int .i64 t.d] 27)) := Lib.hid (by repeat (first | exact K.newAt (by first | rfl | (simp; done)) | refine K.oldAt (by first | (simp; done) | (simp; omega)) ?_))
  have z0 : Hid ((((w.alloc (.cells #[.int .i64 s.k, .int .i64 s.a, .int .i64 s.b, .int .i64 s.c, .int .i64 s.d] 27)).alloc (.cells #[.int .i64 t.k, .int .i64 t.a, .int .i64 t.b, .int .i64 t.c, .int .i64 t.d] 27)).alloc (.cells #[.int .i64 0, .int .i64 0, .int .i64 0, .int .i64 0, .int .i64 0, .int .i64 0, .int .i64 0, .int .i64 0, .int .i64 0, .int .i64 0, .int .i64 0, .bool false, .slice none 0 0, .slice none 0 0] 36)).heap[w.heap.size + 1 + 1]? = some (.cells #[.int .i64 0, .int .i64 0, .int .i64 0, .int .i64 0, .int .i64 0, .int .i64 0, .int .i64 0, .int .i64 0, .int .i64 0, .int .i64 0, .int .i64 0, .bool false, .slice none 0 0, .slice none 0 0] 36)) := Lib.hid (by repeat (first | exact K.newAt (by first | rfl | (simp; done)) | refine K.oldAt (by first | (simp; done) | (simp; omega)) ?_))
  have B0 : Hid (Below w.heap.size w (((w.alloc (.cells #[.int .i64 s.k, .int .i64 s.a, .int .i64 s.b, .int .i64 s.c, .int .i64 s.d] 27)).alloc (.cells #[.int .i64 t.k, .int .i64 t.a, .int .i64 t.b, .int .i64 t.c, .int .i64 t.d] 27)).alloc (.cells #[.int .i64 0, .int .i64 0, .int .i64 0, .int .i64 0, .int .i64 0, .int .i64 0, .int .i64 0, .int .i64 0, .int .i64 0, .int .i64 0, .int .i64 0, .bool false, .slice none 0 0, .slice none 0 0] 36))) := Lib.hid (by go_grown)
  have hI : ¬ (1500 : Int) < (n : Int) := by omega
  go_enter Try.func15, Try.ntmps15
  go_wp2_with (first | (with_reducible refine loadA rfl _ rfl w.heap.size rfl p0.out ?_) | (with_reducible refine loadA rfl _ rfl (w.heap.size + 1) rfl r0.out ?_))
  refine Calls.mono (pairSB s t true HP.out _) ?_
  rintro e w1 ⟨rfl, b1⟩
  have p1 := Lib.hid (K.below b1 p0.out)
  have r1 := Lib.hid (K.below b1 r0.out)
  have z1 := Lib.hid (K.below b1 z0.out)
  have B1 := Lib.hid (bthen B0.out b1)
  clear b1 p0 r0 z0 B0
  go_wp2_with fail
  refine Calls.mono (inSB p 255 false _ HQ.out) ?_
  rintro e w2 ⟨rfl, b2⟩
  have p2 := Lib.hid (K.below b2 p1.out)
  have r2 := Lib.hid (K.below b2 r1.out)
  have z2 := Lib.hid (K.below b2 z1.out)
  have B2 := Lib.hid (bthen B1.out b2)
  clear b2 p1 r1 z1 B1
  go_wp2_with (first | (with_reducible refine storeU rfl _ _ rfl (w.heap.size + 1 + 1) rfl rfl z2.out ?_))
  (try simp only [Exit.inBlock, Exit.then])
  refine bodyPost_ret (v := .tuple #[.agg #[.int .i64 0, .int .i64 0, .int .i64 0, .int .i64 0, .int .i64 0, .int .i64 0, .int .i64 0, .int .i64 0, .int .i64 0, .int .i64 0, .int .i64 0, .bool false, .slice none 0 0, .slice none 0 0], .int .i64 2]) ?_ rfl (uread_no HF.out (by omega) (K.setRow_below B2.out (by omega) _))
  exact K.resCellTmp Try.results15 _ _ _ (w.heap.size + 1 + 1) _ rfl (run_loadVar_row _ _ 36 36 _ (0, 0) _ (setRow_heap _ _ _ _ _ _ z2.out) Try.underlying36 rfl info_up)

set_option maxHeartbeats 4000000 in
theorem urS_short1a (w : World) (A : Option Addr) (n c : Nat) (bs : List UInt8) (p : Int) (s t : Ad) (hn : n ≤ 1500) (hp : pairA s t = true) (hq : upTo p 255 = true) (hs : s.k = 4 ∨ s.k = 6) (hk : kindU p s.k = 1) (hf : uhC bs p s t = 3) (h3 : n < 20) (h8 : n < 8) : Calls Try.prog 15 #[.slice A n c, .int .i64 p, .agg #[.int .i64 s.k, .int .i64 s.a, .int .i64 s.b, .int .i64 s.c, .int .i64 s.d], .agg #[.int .i64 t.k, .int .i64 t.a, .int .i64 t.b, .int .i64 t.c, .int .i64 t.d]] w (URead bs p s t w) := by
  have HP := Lib.hid hp
  have HPR := Lib.hid hq
  have HQ := Lib.hid hq
  have HKQ := Lib.hid hk
  have HSK := Lib.hid hs
  have HF := Lib.hid hf
  clear hf
  have hI2 : (n : Int) < 20 := by omega
  have hI3 : (n : Int) < 8 := by omega
  have hI : ¬ (1500 : Int) < (n : Int) := by omega
  clear hp hq hk hs
  have p0 : Hid ((((w.alloc (.cells #[.int .i64 s.k, .int .i64 s.a, .int .i64 s.b, .int .i64 s.c, .int .i64 s.d] 27)).alloc (.cells #[.int .i64 t.k, .int .i64 t.a, .int .i64 t.b, .int .i64 t.c, .int .i64 t.d] 27)).alloc (.cells #[.int .i64 0, .int .i64 0, .int .i64 0, .int .i64 0, .int .i64 0, .int .i64 0, .int .i64 0, .int .i64 0, .int .i64 0, .int .i64 0, .int .i64 0, .bool false, .slice none 0 0, .slice none 0 0] 36)).heap[w.heap.size]? = some (.cells #[.int .i64 s.k, .int .i64 s.a, .int .i64 s.b, .int .i64 s.c, .int .i64 s.d] 27)) := Lib.hid (by repeat (first | exact K.newAt (by first | rfl | (simp; done)) | refine K.oldAt (by first | (simp; done) | (simp; omega)) ?_))
  have r0 : Hid ((((w.alloc (.cells #[.int .i64 s.k, .int .i64 s.a, .int .i64 s.b, .int .i64 s.c, .int .i64 s.d] 27)).alloc (.cells #[.int .i64 t.k, .int .i64 t.a, .int .i64 t.b, .int .i64 t.c, .int .i64 t.d] 27)).alloc (.cells #[.int .i64 0, .int .i64 0, .int .i64 0, .int .i64 0, .int .i64 0, .int .i64 0, .int .i64 0, .int .i64 0, .int .i64 0, .int .i64 0, .int .i64 0, .bool false, .slice none 0 0, .slice none 0 0] 36)).heap[w.heap.size + 1]? = some (.cells #[.int .i64 t.k, .int .i64 t.a, .int .i64 t.b, .int .i64 t.c, .int .i64 t.d] 27)) := Lib.hid (by repeat (first | exact K.newAt (by first | rfl | (simp; done)) | refine K.oldAt (by first | (simp; done) | (simp; omega)) ?_))
  have z0 : Hid ((((w.alloc (.cells #[.int .i64 s.k, .int .i64 s.a, .int .i64 s.b, .int .i64 s.c, .int .i64 s.d] 27)).alloc (.cells #[.int .i64 t.k, .int .i64 t.a, .int .i64 t.b, .int .i64 t.c, .int .i64 t.d] 27)).alloc (.cells #[.int .i64 0, .int .i64 0, .int .i64 0, .int .i64 0, .int .i64 0, .int .i64 0, .int .i64 0, .int .i64 0, .int .i64 0, .int .i64 0, .int .i64 0, .bool false, .slice none 0 0, .slice none 0 0] 36)).heap[w.heap.size + 1 + 1]? = some (.cells #[.int .i64 0, .int .i64 0, .int .i64 0, .int .i64 0, .int .i64 0, .int .i64 0, .int .i64 0, .int .i64 0, .int .i64 0, .int .i64 0, .int .i64 0, .bool false, .slice none 0 0, .slice none 0 0] 36)) := Lib.hid (by repeat (first | exact K.newAt (by first | rfl | (simp; done)) | refine K.oldAt (by first | (simp; done) | (simp; omega)) ?_))
  have B0 : Hid (Below w.heap.size w (((w.alloc (.cells #[.int .i64 s.k, .int .i64 s.a, .int .i64 s.b, .int .i64 s.c, .int .i64 s.d] 27)).alloc (.cells #[.int .i64 t.k, .int .i64 t.a, .int .i64 t.b, .int .i64 t.c, .int .i64 t.d] 27)).alloc (.cells #[.int .i64 0, .int .i64 0, .int .i64 0, .int .i64 0, .int .i64 0, .int .i64 0, .int .i64 0, .int .i64 0, .int .i64 0, .int .i64 0, .int .i64 0, .bool false, .slice none 0 0, .slice none 0 0] 36))) := Lib.hid (by go_grown)
  go_enter Try.func15, Try.ntmps15
  go_wp2_with (first | (with_reducible refine loadA rfl _ rfl w.heap.size rfl p0.out ?_) | (with_reducible refine loadA rfl _ rfl (w.heap.size + 1) rfl r0.out ?_))
  refine Calls.mono (pairSB s t true HP.out _) ?_
  rintro e w1 ⟨rfl, b1⟩
  have p1 := Lib.hid (K.below b1 p0.out)
  have r1 := Lib.hid (K.below b1 r0.out)
  have z1 := Lib.hid (K.below b1 z0.out)
  have B1 := Lib.hid (bthen B0.out b1)
  clear b1 p0 r0 z0 B0
  go_wp2_with fail
  refine Calls.mono (inSB p 255 true _ HQ.out) ?_
  rintro e w2 ⟨rfl, b2⟩
  have p2 := Lib.hid (K.below b2 p1.out)
  have r2 := Lib.hid (K.below b2 r1.out)
  have z2 := Lib.hid (K.below b2 z1.out)
  have B2 := Lib.hid (bthen B1.out b2)
  clear b2 p1 r1 z1 B1
  have d0 := K.cell p2.out 0 _ rfl
  go_wp2_with fail
  clear d0
  refine Calls.mono (kind_spec p s.k 1 _ HPR.out HSK.out HKQ.out) ?_
  rintro e w3 ⟨rfl, b3⟩
  have p3 := Lib.hid (K.below b3 p2.out)
  have r3 := Lib.hid (K.below b3 r2.out)
  have z3 := Lib.hid (K.below b3 z2.out)
  have B3 := Lib.hid (bthen B2.out b3)
  clear b3 p2 r2 z2 B2
  have lw3 : w.heap.size + 1 + 1 < w3.heap.size := K.lt z3.out
  have p4 := Lib.hid (K.old p3.out (.cells #[.int .i64 1, .int .i64 0, .int .i64 0, .int .i64 0, .int .i64 0, .int .i64 0, .int .i64 0, .int .i64 0, .int .i64 0, .int .i64 0, .int .i64 0, .bool false, .slice none 0 0, .slice none 0 0] 36))
  have r4 := Lib.hid (K.old r3.out (.cells #[.int .i64 1, .int .i64 0, .int .i64 0, .int .i64 0, .int .i64 0, .int .i64 0, .int .i64 0, .int .i64 0, .int .i64 0, .int .i64 0, .int .i64 0, .bool false, .slice none 0 0, .slice none 0 0] 36))
  have z4 := Lib.hid (K.old z3.out (.cells #[.int .i64 1, .int .i64 0, .int .i64 0, .int .i64 0, .int .i64 0, .int .i64 0, .int .i64 0, .int .i64 0, .int .i64 0, .int .i64 0, .int .i64 0, .bool false, .slice none 0 0, .slice none 0 0] 36))
  have q4 := Lib.hid (K.new w3 (.cells #[.int .i64 1, .int .i64 0, .int .i64 0, .int .i64 0, .int .i64 0, .int .i64 0, .int .i64 0, .int .i64 0, .int .i64 0, .int .i64 0, .int .i64 0, .bool false, .slice none 0 0, .slice none 0 0] 36))
  have B4 := Lib.hid (bthen B3.out (Joins.below_alloc1 w3 (.cells #[.int .i64 1, .int .i64 0, .int .i64 0, .int .i64 0, .int .i64 0, .int .i64 0, .int .i64 0, .int .i64 0, .int .i64 0, .int .i64 0, .int .i64 0, .bool false, .slice none 0 0, .slice none 0 0] 36)))
  clear p3 r3 z3 B3
  have dk := K.cell q4.out 0 _ rfl
  go_wp2_with (first | (with_reducible refine storeU rfl _ _ rfl (w.heap.size + 1 + 1) rfl rfl z4.out ?_) | (with_reducible refine storeNewU rfl _ _ rfl rfl rfl ?_))
  (try simp only [Exit.inBlock, Exit.then])
  refine bodyPost_ret (v := .tuple #[.agg #[.int .i64 0, .int .i64 0, .int .i64 0, .int .i64 0, .int .i64 0, .int .i64 0, .int .i64 0, .int .i64 0, .int .i64 0, .int .i64 0, .int .i64 0, .bool false, .slice none 0 0, .slice none 0 0], .int .i64 3]) ?_ rfl (uread_no HF.out (by omega) (K.setRow_below B4.out (by omega) _))
  exact K.resCellTmp Try.results15 _ _ _ (w.heap.size + 1 + 1) _ rfl (run_loadVar_row _ _ 36 36 _ (0, 0) _ (setRow_heap _ _ _ _ _ _ z4.out) Try.underlying36 rfl info_up)

set_option maxHeartbeats 4000000 in
theorem urS_short1b (w : World) (A : Option Addr) (n c : Nat) (bs : List UInt8) (p : Int) (s t : Ad) (hn : n ≤ 1500) (hp : pairA s t = true) (hq : upTo p 255 = true) (hs : s.k = 4 ∨ s.k = 6) (hk : kindU p s.k = 1) (hf : uhC bs p s t = 3) (h3 : n < 20) (h8 : ¬ n < 8) : Calls Try.prog 15 #[.slice A n c, .int .i64 p, .agg #[.int .i64 s.k, .int .i64 s.a, .int .i64 s.b, .int .i64 s.c, .int .i64 s.d], .agg #[.int .i64 t.k, .int .i64 t.a, .int .i64 t.b, .int .i64 t.c, .int .i64 t.d]] w (URead bs p s t w) := by
  have HP := Lib.hid hp
  have HPR := Lib.hid hq
  have HQ := Lib.hid hq
  have HKQ := Lib.hid hk
  have HSK := Lib.hid hs
  have HF := Lib.hid hf
  clear hf
  have hI2 : (n : Int) < 20 := by omega
  have hI3 : ¬ (n : Int) < 8 := by omega
  have hI : ¬ (1500 : Int) < (n : Int) := by omega
  clear hp hq hk hs
  have p0 : Hid ((((w.alloc (.cells #[.int .i64 s.k, .int .i64 s.a, .int .i64 s.b, .int .i64 s.c, .int .i64 s.d] 27)).alloc (.cells #[.int .i64 t.k, .int .i64 t.a, .int .i64 t.b, .int .i64 t.c, .int .i64 t.d] 27)).alloc (.cells #[.int .i64 0, .int .i64 0, .int .i64 0, .int .i64 0, .int .i64 0, .int .i64 0, .int .i64 0, .int .i64 0, .int .i64 0, .int .i64 0, .int .i64 0, .bool false, .slice none 0 0, .slice none 0 0] 36)).heap[w.heap.size]? = some (.cells #[.int .i64 s.k, .int .i64 s.a, .int .i64 s.b, .int .i64 s.c, .int .i64 s.d] 27)) := Lib.hid (by repeat (first | exact K.newAt (by first | rfl | (simp; done)) | refine K.oldAt (by first | (simp; done) | (simp; omega)) ?_))
  have r0 : Hid ((((w.alloc (.cells #[.int .i64 s.k, .int .i64 s.a, .int .i64 s.b, .int .i64 s.c, .int .i64 s.d] 27)).alloc (.cells #[.int .i64 t.k, .int .i64 t.a, .int .i64 t.b, .int .i64 t.c, .int .i64 t.d] 27)).alloc (.cells #[.int .i64 0, .int .i64 0, .int .i64 0, .int .i64 0, .int .i64 0, .int .i64 0, .int .i64 0, .int .i64 0, .int .i64 0, .int .i64 0, .int .i64 0, .bool false, .slice none 0 0, .slice none 0 0] 36)).heap[w.heap.size + 1]? = some (.cells #[.int .i64 t.k, .int .i64 t.a, .int .i64 t.b, .int .i64 t.c, .int .i64 t.d] 27)) := Lib.hid (by repeat (first | exact K.newAt (by first | rfl | (simp; done)) | refine K.oldAt (by first | (simp; done) | (simp; omega)) ?_))
  have z0 : Hid ((((w.alloc (.cells #[.int .i64 s.k, .int .i64 s.a, .int .i64 s.b, .int .i64 s.c, .int .i64 s.d] 27)).alloc (.cells #[.int .i64 t.k, .int .i64 t.a, .int .i64 t.b, .int .i64 t.c, .int .i64 t.d] 27)).alloc (.cells #[.int .i64 0, .int .i64 0, .int .i64 0, .int .i64 0, .int .i64 0, .int .i64 0, .int .i64 0, .int .i64 0, .int .i64 0, .int .i64 0, .int .i64 0, .bool false, .slice none 0 0, .slice none 0 0] 36)).heap[w.heap.size + 1 + 1]? = some (.cells #[.int .i64 0, .int .i64 0, .int .i64 0, .int .i64 0, .int .i64 0, .int .i64 0, .int .i64 0, .int .i64 0, .int .i64 0, .int .i64 0, .int .i64 0, .bool false, .slice none 0 0, .slice none 0 0] 36)) := Lib.hid (by repeat (first | exact K.newAt (by first | rfl | (simp; done)) | refine K.oldAt (by first | (simp; done) | (simp; omega)) ?_))
  have B0 : Hid (Below w.heap.size w (((w.alloc (.cells #[.int .i64 s.k, .int .i64 s.a, .int .i64 s.b, .int .i64 s.c, .int .i64 s.d] 27)).alloc (.cells #[.int .i64 t.k, .int .i64 t.a, .int .i64 t.b, .int .i64 t.c, .int .i64 t.d] 27)).alloc (.cells #[.int .i64 0, .int .i64 0, .int .i64 0, .int .i64 0, .int .i64 0, .int .i64 0, .int .i64 0, .int .i64 0, .int .i64 0, .int .i64 0, .int .i64 0, .bool false, .slice none 0 0, .slice none 0 0] 36))) := Lib.hid (by go_grown)
  go_enter Try.func15, Try.ntmps15
  go_wp2_with (first | (with_reducible refine loadA rfl _ rfl w.heap.size rfl p0.out ?_) | (with_reducible refine loadA rfl _ rfl (w.heap.size + 1) rfl r0.out ?_))
  refine Calls.mono (pairSB s t true HP.out _) ?_
  rintro e w1 ⟨rfl, b1⟩
  have p1 := Lib.hid (K.below b1 p0.out)
  have r1 := Lib.hid (K.below b1 r0.out)
  have z1 := Lib.hid (K.below b1 z0.out)
  have B1 := Lib.hid (bthen B0.out b1)
  clear b1 p0 r0 z0 B0
  go_wp2_with fail
  refine Calls.mono (inSB p 255 true _ HQ.out) ?_
  rintro e w2 ⟨rfl, b2⟩
  have p2 := Lib.hid (K.below b2 p1.out)
  have r2 := Lib.hid (K.below b2 r1.out)
  have z2 := Lib.hid (K.below b2 z1.out)
  have B2 := Lib.hid (bthen B1.out b2)
  clear b2 p1 r1 z1 B1
  have d0 := K.cell p2.out 0 _ rfl
  go_wp2_with fail
  clear d0
  refine Calls.mono (kind_spec p s.k 1 _ HPR.out HSK.out HKQ.out) ?_
  rintro e w3 ⟨rfl, b3⟩
  have p3 := Lib.hid (K.below b3 p2.out)
  have r3 := Lib.hid (K.below b3 r2.out)
  have z3 := Lib.hid (K.below b3 z2.out)
  have B3 := Lib.hid (bthen B2.out b3)
  clear b3 p2 r2 z2 B2
  have lw3 : w.heap.size + 1 + 1 < w3.heap.size := K.lt z3.out
  have p4 := Lib.hid (K.old p3.out (.cells #[.int .i64 1, .int .i64 0, .int .i64 0, .int .i64 0, .int .i64 0, .int .i64 0, .int .i64 0, .int .i64 0, .int .i64 0, .int .i64 0, .int .i64 0, .bool false, .slice none 0 0, .slice none 0 0] 36))
  have r4 := Lib.hid (K.old r3.out (.cells #[.int .i64 1, .int .i64 0, .int .i64 0, .int .i64 0, .int .i64 0, .int .i64 0, .int .i64 0, .int .i64 0, .int .i64 0, .int .i64 0, .int .i64 0, .bool false, .slice none 0 0, .slice none 0 0] 36))
  have z4 := Lib.hid (K.old z3.out (.cells #[.int .i64 1, .int .i64 0, .int .i64 0, .int .i64 0, .int .i64 0, .int .i64 0, .int .i64 0, .int .i64 0, .int .i64 0, .int .i64 0, .int .i64 0, .bool false, .slice none 0 0, .slice none 0 0] 36))
  have q4 := Lib.hid (K.new w3 (.cells #[.int .i64 1, .int .i64 0, .int .i64 0, .int .i64 0, .int .i64 0, .int .i64 0, .int .i64 0, .int .i64 0, .int .i64 0, .int .i64 0, .int .i64 0, .bool false, .slice none 0 0, .slice none 0 0] 36))
  have B4 := Lib.hid (bthen B3.out (Joins.below_alloc1 w3 (.cells #[.int .i64 1, .int .i64 0, .int .i64 0, .int .i64 0, .int .i64 0, .int .i64 0, .int .i64 0, .int .i64 0, .int .i64 0, .int .i64 0, .int .i64 0, .bool false, .slice none 0 0, .slice none 0 0] 36)))
  clear p3 r3 z3 B3
  have dk := K.cell q4.out 0 _ rfl
  go_wp2_with (first | (with_reducible refine storeU rfl _ _ rfl (w.heap.size + 1 + 1) rfl rfl z4.out ?_) | (with_reducible refine storeNewU rfl _ _ rfl rfl rfl ?_))
  (try simp only [Exit.inBlock, Exit.then])
  refine bodyPost_ret (v := .tuple #[.agg #[.int .i64 0, .int .i64 0, .int .i64 0, .int .i64 0, .int .i64 0, .int .i64 0, .int .i64 0, .int .i64 0, .int .i64 0, .int .i64 0, .int .i64 0, .bool false, .slice none 0 0, .slice none 0 0], .int .i64 3]) ?_ rfl (uread_no HF.out (by omega) (K.setRow_below B4.out (by omega) _))
  exact K.resCellTmp Try.results15 _ _ _ (w.heap.size + 1 + 1) _ rfl (run_loadVar_row _ _ 36 36 _ (0, 0) _ (setRow_heap _ _ _ _ _ _ z4.out) Try.underlying36 rfl info_up)

set_option maxHeartbeats 4000000 in
theorem urS_short2 (w : World) (A : Option Addr) (n c : Nat) (bs : List UInt8) (p : Int) (s t : Ad) (hn : n ≤ 1500) (hp : pairA s t = true) (hq : upTo p 255 = true) (hs : s.k = 4 ∨ s.k = 6) (hk : kindU p s.k = 2) (hf : uhC bs p s t = 3) (h3 : n < 8) : Calls Try.prog 15 #[.slice A n c, .int .i64 p, .agg #[.int .i64 s.k, .int .i64 s.a, .int .i64 s.b, .int .i64 s.c, .int .i64 s.d], .agg #[.int .i64 t.k, .int .i64 t.a, .int .i64 t.b, .int .i64 t.c, .int .i64 t.d]] w (URead bs p s t w) := by
  have HP := Lib.hid hp
  have HPR := Lib.hid hq
  have HQ := Lib.hid hq
  have HKQ := Lib.hid hk
  have HSK := Lib.hid hs
  have HF := Lib.hid hf
  clear hf
  have hI2 : (n : Int) < 8 := by omega
  have hI : ¬ (1500 : Int) < (n : Int) := by omega
  clear hp hq hk hs
  have p0 : Hid ((((w.alloc (.cells #[.int .i64 s.k, .int .i64 s.a, .int .i64 s.b, .int .i64 s.c, .int .i64 s.d] 27)).alloc (.cells #[.int .i64 t.k, .int .i64 t.a, .int .i64 t.b, .int .i64 t.c, .int .i64 t.d] 27)).alloc (.cells #[.int .i64 0, .int .i64 0, .int .i64 0, .int .i64 0, .int .i64 0, .int .i64 0, .int .i64 0, .int .i64 0, .int .i64 0, .int .i64 0, .int .i64 0, .bool false, .slice none 0 0, .slice none 0 0] 36)).heap[w.heap.size]? = some (.cells #[.int .i64 s.k, .int .i64 s.a, .int .i64 s.b, .int .i64 s.c, .int .i64 s.d] 27)) := Lib.hid (by repeat (first | exact K.newAt (by first | rfl | (simp; done)) | refine K.oldAt (by first | (simp; done) | (simp; omega)) ?_))
  have r0 : Hid ((((w.alloc (.cells #[.int .i64 s.k, .int .i64 s.a, .int .i64 s.b, .int .i64 s.c, .int .i64 s.d] 27)).alloc (.cells #[.int .i64 t.k, .int .i64 t.a, .int .i64 t.b, .int .i64 t.c, .int .i64 t.d] 27)).alloc (.cells #[.int .i64 0, .int .i64 0, .int .i64 0, .int .i64 0, .int .i64 0, .int .i64 0, .int .i64 0, .int .i64 0, .int .i64 0, .int .i64 0, .int .i64 0, .bool false, .slice none 0 0, .slice none 0 0] 36)).heap[w.heap.size + 1]? = some (.cells #[.int .i64 t.k, .int .i64 t.a, .int .i64 t.b, .int .i64 t.c, .int .i64 t.d] 27)) := Lib.hid (by repeat (first | exact K.newAt (by first | rfl | (simp; done)) | refine K.oldAt (by first | (simp; done) | (simp; omega)) ?_))
  have z0 : Hid ((((w.alloc (.cells #[.int .i64 s.k, .int .i64 s.a, .int .i64 s.b, .int .i64 s.c, .int .i64 s.d] 27)).alloc (.cells #[.int .i64 t.k, .int .i64 t.a, .int .i64 t.b, .int .i64 t.c, .int .i64 t.d] 27)).alloc (.cells #[.int .i64 0, .int .i64 0, .int .i64 0, .int .i64 0, .int .i64 0, .int .i64 0, .int .i64 0, .int .i64 0, .int .i64 0, .int .i64 0, .int .i64 0, .bool false, .slice none 0 0, .slice none 0 0] 36)).heap[w.heap.size + 1 + 1]? = some (.cells #[.int .i64 0, .int .i64 0, .int .i64 0, .int .i64 0, .int .i64 0, .int .i64 0, .int .i64 0, .int .i64 0, .int .i64 0, .int .i64 0, .int .i64 0, .bool false, .slice none 0 0, .slice none 0 0] 36)) := Lib.hid (by repeat (first | exact K.newAt (by first | rfl | (simp; done)) | refine K.oldAt (by first | (simp; done) | (simp; omega)) ?_))
  have B0 : Hid (Below w.heap.size w (((w.alloc (.cells #[.int .i64 s.k, .int .i64 s.a, .int .i64 s.b, .int .i64 s.c, .int .i64 s.d] 27)).alloc (.cells #[.int .i64 t.k, .int .i64 t.a, .int .i64 t.b, .int .i64 t.c, .int .i64 t.d] 27)).alloc (.cells #[.int .i64 0, .int .i64 0, .int .i64 0, .int .i64 0, .int .i64 0, .int .i64 0, .int .i64 0, .int .i64 0, .int .i64 0, .int .i64 0, .int .i64 0, .bool false, .slice none 0 0, .slice none 0 0] 36))) := Lib.hid (by go_grown)
  go_enter Try.func15, Try.ntmps15
  go_wp2_with (first | (with_reducible refine loadA rfl _ rfl w.heap.size rfl p0.out ?_) | (with_reducible refine loadA rfl _ rfl (w.heap.size + 1) rfl r0.out ?_))
  refine Calls.mono (pairSB s t true HP.out _) ?_
  rintro e w1 ⟨rfl, b1⟩
  have p1 := Lib.hid (K.below b1 p0.out)
  have r1 := Lib.hid (K.below b1 r0.out)
  have z1 := Lib.hid (K.below b1 z0.out)
  have B1 := Lib.hid (bthen B0.out b1)
  clear b1 p0 r0 z0 B0
  go_wp2_with fail
  refine Calls.mono (inSB p 255 true _ HQ.out) ?_
  rintro e w2 ⟨rfl, b2⟩
  have p2 := Lib.hid (K.below b2 p1.out)
  have r2 := Lib.hid (K.below b2 r1.out)
  have z2 := Lib.hid (K.below b2 z1.out)
  have B2 := Lib.hid (bthen B1.out b2)
  clear b2 p1 r1 z1 B1
  have d0 := K.cell p2.out 0 _ rfl
  go_wp2_with fail
  clear d0
  refine Calls.mono (kind_spec p s.k 2 _ HPR.out HSK.out HKQ.out) ?_
  rintro e w3 ⟨rfl, b3⟩
  have p3 := Lib.hid (K.below b3 p2.out)
  have r3 := Lib.hid (K.below b3 r2.out)
  have z3 := Lib.hid (K.below b3 z2.out)
  have B3 := Lib.hid (bthen B2.out b3)
  clear b3 p2 r2 z2 B2
  have lw3 : w.heap.size + 1 + 1 < w3.heap.size := K.lt z3.out
  have p4 := Lib.hid (K.old p3.out (.cells #[.int .i64 2, .int .i64 0, .int .i64 0, .int .i64 0, .int .i64 0, .int .i64 0, .int .i64 0, .int .i64 0, .int .i64 0, .int .i64 0, .int .i64 0, .bool false, .slice none 0 0, .slice none 0 0] 36))
  have r4 := Lib.hid (K.old r3.out (.cells #[.int .i64 2, .int .i64 0, .int .i64 0, .int .i64 0, .int .i64 0, .int .i64 0, .int .i64 0, .int .i64 0, .int .i64 0, .int .i64 0, .int .i64 0, .bool false, .slice none 0 0, .slice none 0 0] 36))
  have z4 := Lib.hid (K.old z3.out (.cells #[.int .i64 2, .int .i64 0, .int .i64 0, .int .i64 0, .int .i64 0, .int .i64 0, .int .i64 0, .int .i64 0, .int .i64 0, .int .i64 0, .int .i64 0, .bool false, .slice none 0 0, .slice none 0 0] 36))
  have q4 := Lib.hid (K.new w3 (.cells #[.int .i64 2, .int .i64 0, .int .i64 0, .int .i64 0, .int .i64 0, .int .i64 0, .int .i64 0, .int .i64 0, .int .i64 0, .int .i64 0, .int .i64 0, .bool false, .slice none 0 0, .slice none 0 0] 36))
  have B4 := Lib.hid (bthen B3.out (Joins.below_alloc1 w3 (.cells #[.int .i64 2, .int .i64 0, .int .i64 0, .int .i64 0, .int .i64 0, .int .i64 0, .int .i64 0, .int .i64 0, .int .i64 0, .int .i64 0, .int .i64 0, .bool false, .slice none 0 0, .slice none 0 0] 36)))
  clear p3 r3 z3 B3
  have dk := K.cell q4.out 0 _ rfl
  go_wp2_with (first | (with_reducible refine storeU rfl _ _ rfl (w.heap.size + 1 + 1) rfl rfl z4.out ?_) | (with_reducible refine storeNewU rfl _ _ rfl rfl rfl ?_))
  (try simp only [Exit.inBlock, Exit.then])
  refine bodyPost_ret (v := .tuple #[.agg #[.int .i64 0, .int .i64 0, .int .i64 0, .int .i64 0, .int .i64 0, .int .i64 0, .int .i64 0, .int .i64 0, .int .i64 0, .int .i64 0, .int .i64 0, .bool false, .slice none 0 0, .slice none 0 0], .int .i64 3]) ?_ rfl (uread_no HF.out (by omega) (K.setRow_below B4.out (by omega) _))
  exact K.resCellTmp Try.results15 _ _ _ (w.heap.size + 1 + 1) _ rfl (run_loadVar_row _ _ 36 36 _ (0, 0) _ (setRow_heap _ _ _ _ _ _ z4.out) Try.underlying36 rfl info_up)

set_option maxHeartbeats 4000000 in
theorem urS_short3 (w : World) (A : Option Addr) (n c : Nat) (bs : List UInt8) (p : Int) (s t : Ad) (hn : n ≤ 1500) (hp : pairA s t = true) (hq : upTo p 255 = true) (hs : s.k = 4 ∨ s.k = 6) (hk : kindU p s.k = 3) (hf : uhC bs p s t = 3) (h3 : n < 8) : Calls Try.prog 15 #[.slice A n c, .int .i64 p, .agg #[.int .i64 s.k, .int .i64 s.a, .int .i64 s.b, .int .i64 s.c, .int .i64 s.d], .agg #[.int .i64 t.k, .int .i64 t.a, .int .i64 t.b, .int .i64 t.c, .int .i64 t.d]] w (URead bs p s t w) := by
  have HP := Lib.hid hp
  have HPR := Lib.hid hq
  have HQ := Lib.hid hq
  have HKQ := Lib.hid hk
  have HSK := Lib.hid hs
  have HF := Lib.hid hf
  clear hf
  have hI2 : (n : Int) < 8 := by omega
  have hI : ¬ (1500 : Int) < (n : Int) := by omega
  clear hp hq hk hs
  have p0 : Hid ((((w.alloc (.cells #[.int .i64 s.k, .int .i64 s.a, .int .i64 s.b, .int .i64 s.c, .int .i64 s.d] 27)).alloc (.cells #[.int .i64 t.k, .int .i64 t.a, .int .i64 t.b, .int .i64 t.c, .int .i64 t.d] 27)).alloc (.cells #[.int .i64 0, .int .i64 0, .int .i64 0, .int .i64 0, .int .i64 0, .int .i64 0, .int .i64 0, .int .i64 0, .int .i64 0, .int .i64 0, .int .i64 0, .bool false, .slice none 0 0, .slice none 0 0] 36)).heap[w.heap.size]? = some (.cells #[.int .i64 s.k, .int .i64 s.a, .int .i64 s.b, .int .i64 s.c, .int .i64 s.d] 27)) := Lib.hid (by repeat (first | exact K.newAt (by first | rfl | (simp; done)) | refine K.oldAt (by first | (simp; done) | (simp; omega)) ?_))
  have r0 : Hid ((((w.alloc (.cells #[.int .i64 s.k, .int .i64 s.a, .int .i64 s.b, .int .i64 s.c, .int .i64 s.d] 27)).alloc (.cells #[.int .i64 t.k, .int .i64 t.a, .int .i64 t.b, .int .i64 t.c, .int .i64 t.d] 27)).alloc (.cells #[.int .i64 0, .int .i64 0, .int .i64 0, .int .i64 0, .int .i64 0, .int .i64 0, .int .i64 0, .int .i64 0, .int .i64 0, .int .i64 0, .int .i64 0, .bool false, .slice none 0 0, .slice none 0 0] 36)).heap[w.heap.size + 1]? = some (.cells #[.int .i64 t.k, .int .i64 t.a, .int .i64 t.b, .int .i64 t.c, .int .i64 t.d] 27)) := Lib.hid (by repeat (first | exact K.newAt (by first | rfl | (simp; done)) | refine K.oldAt (by first | (simp; done) | (simp; omega)) ?_))
  have z0 : Hid ((((w.alloc (.cells #[.int .i64 s.k, .int .i64 s.a, .int .i64 s.b, .int .i64 s.c, .int .i64 s.d] 27)).alloc (.cells #[.int .i64 t.k, .int .i64 t.a, .int .i64 t.b, .int .i64 t.c, .int .i64 t.d] 27)).alloc (.cells #[.int .i64 0, .int .i64 0, .int .i64 0, .int .i64 0, .int .i64 0, .int .i64 0, .int .i64 0, .int .i64 0, .int .i64 0, .int .i64 0, .int .i64 0, .bool false, .slice none 0 0, .slice none 0 0] 36)).heap[w.heap.size + 1 + 1]? = some (.cells #[.int .i64 0, .int .i64 0, .int .i64 0, .int .i64 0, .int .i64 0, .int .i64 0, .int .i64 0, .int .i64 0, .int .i64 0, .int .i64 0, .int .i64 0, .bool false, .slice none 0 0, .slice none 0 0] 36)) := Lib.hid (by repeat (first | exact K.newAt (by first | rfl | (simp; done)) | refine K.oldAt (by first | (simp; done) | (simp; omega)) ?_))
  have B0 : Hid (Below w.heap.size w (((w.alloc (.cells #[.int .i64 s.k, .int .i64 s.a, .int .i64 s.b, .int .i64 s.c, .int .i64 s.d] 27)).alloc (.cells #[.int .i64 t.k, .int .i64 t.a, .int .i64 t.b, .int .i64 t.c, .int .i64 t.d] 27)).alloc (.cells #[.int .i64 0, .int .i64 0, .int .i64 0, .int .i64 0, .int .i64 0, .int .i64 0, .int .i64 0, .int .i64 0, .int .i64 0, .int .i64 0, .int .i64 0, .bool false, .slice none 0 0, .slice none 0 0] 36))) := Lib.hid (by go_grown)
  go_enter Try.func15, Try.ntmps15
  go_wp2_with (first | (with_reducible refine loadA rfl _ rfl w.heap.size rfl p0.out ?_) | (with_reducible refine loadA rfl _ rfl (w.heap.size + 1) rfl r0.out ?_))
  refine Calls.mono (pairSB s t true HP.out _) ?_
  rintro e w1 ⟨rfl, b1⟩
  have p1 := Lib.hid (K.below b1 p0.out)
  have r1 := Lib.hid (K.below b1 r0.out)
  have z1 := Lib.hid (K.below b1 z0.out)
  have B1 := Lib.hid (bthen B0.out b1)
  clear b1 p0 r0 z0 B0
  go_wp2_with fail
  refine Calls.mono (inSB p 255 true _ HQ.out) ?_
  rintro e w2 ⟨rfl, b2⟩
  have p2 := Lib.hid (K.below b2 p1.out)
  have r2 := Lib.hid (K.below b2 r1.out)
  have z2 := Lib.hid (K.below b2 z1.out)
  have B2 := Lib.hid (bthen B1.out b2)
  clear b2 p1 r1 z1 B1
  have d0 := K.cell p2.out 0 _ rfl
  go_wp2_with fail
  clear d0
  refine Calls.mono (kind_spec p s.k 3 _ HPR.out HSK.out HKQ.out) ?_
  rintro e w3 ⟨rfl, b3⟩
  have p3 := Lib.hid (K.below b3 p2.out)
  have r3 := Lib.hid (K.below b3 r2.out)
  have z3 := Lib.hid (K.below b3 z2.out)
  have B3 := Lib.hid (bthen B2.out b3)
  clear b3 p2 r2 z2 B2
  have lw3 : w.heap.size + 1 + 1 < w3.heap.size := K.lt z3.out
  have p4 := Lib.hid (K.old p3.out (.cells #[.int .i64 3, .int .i64 0, .int .i64 0, .int .i64 0, .int .i64 0, .int .i64 0, .int .i64 0, .int .i64 0, .int .i64 0, .int .i64 0, .int .i64 0, .bool false, .slice none 0 0, .slice none 0 0] 36))
  have r4 := Lib.hid (K.old r3.out (.cells #[.int .i64 3, .int .i64 0, .int .i64 0, .int .i64 0, .int .i64 0, .int .i64 0, .int .i64 0, .int .i64 0, .int .i64 0, .int .i64 0, .int .i64 0, .bool false, .slice none 0 0, .slice none 0 0] 36))
  have z4 := Lib.hid (K.old z3.out (.cells #[.int .i64 3, .int .i64 0, .int .i64 0, .int .i64 0, .int .i64 0, .int .i64 0, .int .i64 0, .int .i64 0, .int .i64 0, .int .i64 0, .int .i64 0, .bool false, .slice none 0 0, .slice none 0 0] 36))
  have q4 := Lib.hid (K.new w3 (.cells #[.int .i64 3, .int .i64 0, .int .i64 0, .int .i64 0, .int .i64 0, .int .i64 0, .int .i64 0, .int .i64 0, .int .i64 0, .int .i64 0, .int .i64 0, .bool false, .slice none 0 0, .slice none 0 0] 36))
  have B4 := Lib.hid (bthen B3.out (Joins.below_alloc1 w3 (.cells #[.int .i64 3, .int .i64 0, .int .i64 0, .int .i64 0, .int .i64 0, .int .i64 0, .int .i64 0, .int .i64 0, .int .i64 0, .int .i64 0, .int .i64 0, .bool false, .slice none 0 0, .slice none 0 0] 36)))
  clear p3 r3 z3 B3
  have dk := K.cell q4.out 0 _ rfl
  go_wp2_with (first | (with_reducible refine storeU rfl _ _ rfl (w.heap.size + 1 + 1) rfl rfl z4.out ?_) | (with_reducible refine storeNewU rfl _ _ rfl rfl rfl ?_))
  (try simp only [Exit.inBlock, Exit.then])
  refine bodyPost_ret (v := .tuple #[.agg #[.int .i64 0, .int .i64 0, .int .i64 0, .int .i64 0, .int .i64 0, .int .i64 0, .int .i64 0, .int .i64 0, .int .i64 0, .int .i64 0, .int .i64 0, .bool false, .slice none 0 0, .slice none 0 0], .int .i64 3]) ?_ rfl (uread_no HF.out (by omega) (K.setRow_below B4.out (by omega) _))
  exact K.resCellTmp Try.results15 _ _ _ (w.heap.size + 1 + 1) _ rfl (run_loadVar_row _ _ 36 36 _ (0, 0) _ (setRow_heap _ _ _ _ _ _ z4.out) Try.underlying36 rfl info_up)

set_option maxHeartbeats 4000000 in
theorem urS_0 (w : World) (A : Option Addr) (n c : Nat) (bs : List UInt8) (p : Int) (s t : Ad) (hl : bs.length = n) (hr : RB w w.heap.size A bs) (hn : n ≤ 1500) (hp : pairA s t = true) (hq : upTo p 255 = true) (hs : s.k = 4 ∨ s.k = 6) (hk : kindU p s.k = 0) : Calls Try.prog 15 #[.slice A n c, .int .i64 p, .agg #[.int .i64 s.k, .int .i64 s.a, .int .i64 s.b, .int .i64 s.c, .int .i64 s.d], .agg #[.int .i64 t.k, .int .i64 t.a, .int .i64 t.b, .int .i64 t.c, .int .i64 t.d]] w (URead bs p s t w) := by
  have hok : Uh.ok Uh.zero s.k 0 bs.length = true := by rcases hs with h | h <;> rw [h] <;> simp [Uh.ok, kindB, Uh.fields, Uh.zero, Uh.unused, noF, Uh.size] <;> omega
  have HS := Lib.hid (Uh.sum_zero (x := Uh.zero) (o := []) (bs := bs) (a := s) (b := t) (show (pairA s t && Uh.zero.ok s.k ([] : List UInt8).length bs.length) = true by rw [hp]; exact hok) (.inl rfl))
  clear hok
  have HF := Lib.hid (show uhC bs p s t = 0 by rw [uhC_far (by omega) (by rw [hp, hq]; rfl), hk, if_neg (by simp), if_neg (by simp), if_neg (by simp), if_neg (by simpa [uhS, uhX, uhO, uhB] using HS.out.symm)])
  have HX := Lib.hid (show uhX bs (kindU p s.k) s.k = Uh.zero ∧ uhO bs (kindU p s.k) = [] ∧ uhB bs (kindU p s.k) = bs by rw [hk]; exact ⟨rfl, rfl, rfl⟩)
  clear HS
  have HP := Lib.hid hp
  have HPR := Lib.hid hq
  have HQ := Lib.hid hq
  have HKQ := Lib.hid hk
  have HSK := Lib.hid hs
  have HDL := Lib.hid hl
  have HDR := Lib.hid (fun (v : World) (hb : Below w.heap.size w v) => hr.below hb)
  clear hl hr
  have hI : ¬ (1500 : Int) < (n : Int) := by omega
  clear hp hq hk hs
  have p0 : Hid ((((w.alloc (.cells #[.int .i64 s.k, .int .i64 s.a, .int .i64 s.b, .int .i64 s.c, .int .i64 s.d] 27)).alloc (.cells #[.int .i64 t.k, .int .i64 t.a, .int .i64 t.b, .int .i64 t.c, .int .i64 t.d] 27)).alloc (.cells #[.int .i64 0, .int .i64 0, .int .i64 0, .int .i64 0, .int .i64 0, .int .i64 0, .int .i64 0, .int .i64 0, .int .i64 0, .int .i64 0, .int .i64 0, .bool false, .slice none 0 0, .slice none 0 0] 36)).heap[w.heap.size]? = some (.cells #[.int .i64 s.k, .int .i64 s.a, .int .i64 s.b, .int .i64 s.c, .int .i64 s.d] 27)) := Lib.hid (by repeat (first | exact K.newAt (by first | rfl | (simp; done)) | refine K.oldAt (by first | (simp; done) | (simp; omega)) ?_))
  have r0 : Hid ((((w.alloc (.cells #[.int .i64 s.k, .int .i64 s.a, .int .i64 s.b, .int .i64 s.c, .int .i64 s.d] 27)).alloc (.cells #[.int .i64 t.k, .int .i64 t.a, .int .i64 t.b, .int .i64 t.c, .int .i64 t.d] 27)).alloc (.cells #[.int .i64 0, .int .i64 0, .int .i64 0, .int .i64 0, .int .i64 0, .int .i64 0, .int .i64 0, .int .i64 0, .int .i64 0, .int .i64 0, .int .i64 0, .bool false, .slice none 0 0, .slice none 0 0] 36)).heap[w.heap.size + 1]? = some (.cells #[.int .i64 t.k, .int .i64 t.a, .int .i64 t.b, .int .i64 t.c, .int .i64 t.d] 27)) := Lib.hid (by repeat (first | exact K.newAt (by first | rfl | (simp; done)) | refine K.oldAt (by first | (simp; done) | (simp; omega)) ?_))
  have z0 : Hid ((((w.alloc (.cells #[.int .i64 s.k, .int .i64 s.a, .int .i64 s.b, .int .i64 s.c, .int .i64 s.d] 27)).alloc (.cells #[.int .i64 t.k, .int .i64 t.a, .int .i64 t.b, .int .i64 t.c, .int .i64 t.d] 27)).alloc (.cells #[.int .i64 0, .int .i64 0, .int .i64 0, .int .i64 0, .int .i64 0, .int .i64 0, .int .i64 0, .int .i64 0, .int .i64 0, .int .i64 0, .int .i64 0, .bool false, .slice none 0 0, .slice none 0 0] 36)).heap[w.heap.size + 1 + 1]? = some (.cells #[.int .i64 0, .int .i64 0, .int .i64 0, .int .i64 0, .int .i64 0, .int .i64 0, .int .i64 0, .int .i64 0, .int .i64 0, .int .i64 0, .int .i64 0, .bool false, .slice none 0 0, .slice none 0 0] 36)) := Lib.hid (by repeat (first | exact K.newAt (by first | rfl | (simp; done)) | refine K.oldAt (by first | (simp; done) | (simp; omega)) ?_))
  have B0 : Hid (Below w.heap.size w (((w.alloc (.cells #[.int .i64 s.k, .int .i64 s.a, .int .i64 s.b, .int .i64 s.c, .int .i64 s.d] 27)).alloc (.cells #[.int .i64 t.k, .int .i64 t.a, .int .i64 t.b, .int .i64 t.c, .int .i64 t.d] 27)).alloc (.cells #[.int .i64 0, .int .i64 0, .int .i64 0, .int .i64 0, .int .i64 0, .int .i64 0, .int .i64 0, .int .i64 0, .int .i64 0, .int .i64 0, .int .i64 0, .bool false, .slice none 0 0, .slice none 0 0] 36))) := Lib.hid (by go_grown)
  go_enter Try.func15, Try.ntmps15
  go_wp2_with (first | (with_reducible refine loadA rfl _ rfl w.heap.size rfl p0.out ?_) | (with_reducible refine loadA rfl _ rfl (w.heap.size + 1) rfl r0.out ?_))
  refine Calls.mono (pairSB s t true HP.out _) ?_
  rintro e w1 ⟨rfl, b1⟩
  have p1 := Lib.hid (K.below b1 p0.out)
  have r1 := Lib.hid (K.below b1 r0.out)
  have z1 := Lib.hid (K.below b1 z0.out)
  have B1 := Lib.hid (bthen B0.out b1)
  clear b1 p0 r0 z0 B0
  go_wp2_with fail
  refine Calls.mono (inSB p 255 true _ HQ.out) ?_
  rintro e w2 ⟨rfl, b2⟩
  have p2 := Lib.hid (K.below b2 p1.out)
  have r2 := Lib.hid (K.below b2 r1.out)
  have z2 := Lib.hid (K.below b2 z1.out)
  have B2 := Lib.hid (bthen B1.out b2)
  clear b2 p1 r1 z1 B1
  have d0 := K.cell p2.out 0 _ rfl
  go_wp2_with fail
  clear d0
  refine Calls.mono (kind_spec p s.k 0 _ HPR.out HSK.out HKQ.out) ?_
  rintro e w3 ⟨rfl, b3⟩
  have p3 := Lib.hid (K.below b3 p2.out)
  have r3 := Lib.hid (K.below b3 r2.out)
  have z3 := Lib.hid (K.below b3 z2.out)
  have B3 := Lib.hid (bthen B2.out b3)
  clear b3 p2 r2 z2 B2
  have lw3 : w.heap.size + 1 + 1 < w3.heap.size := K.lt z3.out
  have p4 := Lib.hid (K.old p3.out (.cells #[.int .i64 0, .int .i64 0, .int .i64 0, .int .i64 0, .int .i64 0, .int .i64 0, .int .i64 0, .int .i64 0, .int .i64 0, .int .i64 0, .int .i64 0, .bool false, .slice none 0 0, .slice none 0 0] 36))
  have r4 := Lib.hid (K.old r3.out (.cells #[.int .i64 0, .int .i64 0, .int .i64 0, .int .i64 0, .int .i64 0, .int .i64 0, .int .i64 0, .int .i64 0, .int .i64 0, .int .i64 0, .int .i64 0, .bool false, .slice none 0 0, .slice none 0 0] 36))
  have z4 := Lib.hid (K.old z3.out (.cells #[.int .i64 0, .int .i64 0, .int .i64 0, .int .i64 0, .int .i64 0, .int .i64 0, .int .i64 0, .int .i64 0, .int .i64 0, .int .i64 0, .int .i64 0, .bool false, .slice none 0 0, .slice none 0 0] 36))
  have q4 := Lib.hid (K.new w3 (.cells #[.int .i64 0, .int .i64 0, .int .i64 0, .int .i64 0, .int .i64 0, .int .i64 0, .int .i64 0, .int .i64 0, .int .i64 0, .int .i64 0, .int .i64 0, .bool false, .slice none 0 0, .slice none 0 0] 36))
  have B4 := Lib.hid (bthen B3.out (Joins.below_alloc1 w3 (.cells #[.int .i64 0, .int .i64 0, .int .i64 0, .int .i64 0, .int .i64 0, .int .i64 0, .int .i64 0, .int .i64 0, .int .i64 0, .int .i64 0, .int .i64 0, .bool false, .slice none 0 0, .slice none 0 0] 36)))
  clear p3 r3 z3 B3
  have dk := K.cell q4.out 0 _ rfl
  go_upto_region 7 with (with_reducible refine storeNewU rfl _ _ rfl rfl rfl ?_)
  clear dk
  generalize (w3.alloc (.cells #[.int .i64 0, .int .i64 0, .int .i64 0, .int .i64 0, .int .i64 0, .int .i64 0, .int .i64 0, .int .i64 0, .int .i64 0, .int .i64 0, .int .i64 0, .bool false, .slice none 0 0, .slice none 0 0] 36)) = w4 at p4 r4 z4 B4 q4 ⊢
  have NEW0 : Hid ((w4.alloc (.cells #[] 5)).heap[w4.heap.size]? = some (.cells #[] 5 (0, 0))) := Lib.hid (K.new w4 _)
  have lc : w3.heap.size < w4.heap.size := K.lt q4.out
  have p5 := Lib.hid (K.old p4.out (.cells #[] 5))
  have r5 := Lib.hid (K.old r4.out (.cells #[] 5))
  have z5 := Lib.hid (K.old z4.out (.cells #[] 5))
  have q5 := Lib.hid (K.old q4.out (.cells #[] 5))
  have B5 := Lib.hid (bthen B4.out (Joins.below_alloc1 w4 (.cells #[] 5)))
  clear p4 r4 z4 B4 q4
  go_upto_region 8 with (at_builtin; (refine wpList_append_new rfl (.tmp 39) (.tmp 40) rfl w4.heap.size w4.heap.size rfl (Nat.le_refl _) NEW0.out (by simp) w.heap.size A n c bs rfl HDL.out (HDR.out _ B5.out) (by rw [HDL.out]; omega) ?_); intro D d w5 oo6 bb; have qa := Lib.hid (K.below bb q5.out); have uu := K.cell qa.out 13 _ rfl; have yy := frozen_of_row _ _ 13 _ _ qa.out)
  have oo7 := own_base oo6 (show w3.heap.size + 1 ≤ w4.heap.size from lc)
  clear NEW0 uu yy qa oo6
  have OW_ := Lib.hid oo7
  clear oo7
  have p6 := Lib.hid (K.below bb p5.out)
  have r6 := Lib.hid (K.below bb r5.out)
  have z6 := Lib.hid (K.below bb z5.out)
  have q6 := Lib.hid (K.below bb q5.out)
  have B6 := Lib.hid (bthen B5.out bb)
  clear bb p5 r5 z5 B5 q5
  have D6 := OW_
  clear OW_
  have q7 : Hid ((w5.setCell ⟨w3.heap.size, 13, none⟩ (.slice D n d)).heap[w3.heap.size]? = some (.cells #[.int .i64 0, .int .i64 0, .int .i64 0, .int .i64 0, .int .i64 0, .int .i64 0, .int .i64 0, .int .i64 0, .int .i64 0, .int .i64 0, .int .i64 0, .bool false, .slice none 0 0, .slice D n d] 36 (0, 0))) := Lib.hid (K.set q6.out 13 _)
  have p7 := Lib.hid (K.other p6.out w3.heap.size 13 (.slice D n d) (by omega))
  have r7 := Lib.hid (K.other r6.out w3.heap.size 13 (.slice D n d) (by omega))
  have z7 := Lib.hid (K.other z6.out w3.heap.size 13 (.slice D n d) (by omega))
  have B7 : Hid (Below w.heap.size w (w5.setCell ⟨w3.heap.size, 13, none⟩ (.slice D n d))) := Lib.hid (B6.out.setCell (p := ⟨w3.heap.size, 13, none⟩) (show w.heap.size ≤ w3.heap.size by omega) (.slice D n d))
  have D7 := Lib.hid (own_set D6.out w3.heap.size 13 (.slice D n d) (by omega))
  clear lc p6 r6 z6 B6 q6 D6
  generalize (w5.setCell ⟨w3.heap.size, 13, none⟩ (.slice D n d)) = w6 at p7 r7 z7 B7 q7 D7 ⊢
  go_wp2_with (first | (with_reducible refine loadU rfl _ rfl w3.heap.size rfl q7.out ?_) | (with_reducible refine storeU rfl _ _ rfl (w.heap.size + 1 + 1) rfl rfl z7.out ?_))
  (try simp only [Exit.inBlock, Exit.then])
  have hsz : w.heap.size + 1 + 1 < w3.heap.size + 1 := by omega
  refine bodyPost_ret (v := .tuple #[.agg #[.int .i64 0, .int .i64 0, .int .i64 0, .int .i64 0, .int .i64 0, .int .i64 0, .int .i64 0, .int .i64 0, .int .i64 0, .int .i64 0, .int .i64 0, .bool false, .slice none 0 0, .slice D n d], .int .i64 0]) ?_ rfl (uread_yes (x := Uh.zero) (A := none) (c := 0) HF.out HX.out.1 HX.out.2.1 HX.out.2.2 rfl HDL.out ⟨rfl, .inl ⟨rfl, rfl⟩⟩ (own_base (K.setRow_own _ D7.out hsz) (by omega)) (fun _ h => by cases h) (K.setRow_below B7.out (by omega) _))
  exact K.resCellTmp Try.results15 _ _ _ (w.heap.size + 1 + 1) _ rfl (run_loadVar_row _ _ 36 36 _ (0, 0) _ (setRow_heap _ _ _ _ _ _ z7.out) Try.underlying36 rfl info_up)
end Go.Proofs.Ythogonpjkngpjaa

namespace Go.Proofs.Ythogonpjkngpjaa
set_option maxRecDepth 100000
open Go.RowKit

set_option maxHeartbeats 4000000 in
theorem urS_code1a (w : World) (gg oo n c : Nat) (bs : List UInt8) (p : Int) (s t : Ad) (hr : RB w w.heap.size (some ⟨gg, oo, none⟩) bs) (hl : bs.length = n) (b12 hd_ : Nat) (eb : num bs 12 1 = b12) (h4 : 4 * (b12 / 16) = hd_) (h20 : 20 ≤ n) (hh : hd_ < 20) (hn : n ≤ 1500) (hp : pairA s t = true) (hq : upTo p 255 = true) (hs : s.k = 4 ∨ s.k = 6) (hk : kindU p s.k = 1) (hf : uhC bs p s t = 4) : Calls Try.prog 15 #[.slice (some ⟨gg, oo, none⟩) n c, .int .i64 p, .agg #[.int .i64 s.k, .int .i64 s.a, .int .i64 s.b, .int .i64 s.c, .int .i64 s.d], .agg #[.int .i64 t.k, .int .i64 t.a, .int .i64 t.b, .int .i64 t.c, .int .i64 t.d]] w (URead bs p s t w) := by
  have HP := Lib.hid hp
  have HPR := Lib.hid hq
  have HQ := Lib.hid hq
  have HKQ := Lib.hid hk
  have HSK := Lib.hid hs
  obtain ⟨g12, o12, ea12, _, c12⟩ := hr.at_ (k := 12) (by omega)
  obtain ⟨rfl, rfl⟩ : gg = g12 ∧ oo = o12 := by injection ea12 with ea1; injection ea1 with h1 h2; exact ⟨h1, h2⟩
  rw [← num_oneU bs 12 (by omega), eb] at c12
  have HC12 := Lib.hid c12
  have hb12 : b12 < 256 := by rw [← eb]; exact num_lt1 bs 12
  clear c12 ea12
  have HF := Lib.hid hf
  have hI2 : ¬ (n : Int) < 8 := by omega
  have hI3 : ¬ (n : Int) < 20 := by omega
  obtain ⟨wq, hwq⟩ : ∃ q : Nat, (b12 : Int) / 16 = q := ⟨b12 / 16, by omega⟩
  have hwd : IntKind.i64.wrap (4 * (wq : Int)) = (hd_ : Int) := by rw [IntKind.wrap_i64]; omega
  have hwd2 : 4 * (wq : Int) = (hd_ : Int) := by omega
  have hwq2 : IntKind.i64.wrap (wq : Int) = (wq : Int) := by rw [IntKind.wrap_i64]; omega
  have hI4 : (hd_ : Int) < 20 := by omega
  clear hr hl hf eb
  have hI : ¬ (1500 : Int) < (n : Int) := by omega
  clear hp hq hk hs
  have p0 : Hid ((((w.alloc (.cells #[.int .i64 s.k, .int .i64 s.a, .int .i64 s.b, .int .i64 s.c, .int .i64 s.d] 27)).alloc (.cells #[.int .i64 t.k, .int .i64 t.a, .int .i64 t.b, .int .i64 t.c, .int .i64 t.d] 27)).alloc (.cells #[.int .i64 0, .int .i64 0, .int .i64 0, .int .i64 0, .int .i64 0, .int .i64 0, .int .i64 0, .int .i64 0, .int .i64 0, .int .i64 0, .int .i64 0, .bool false, .slice none 0 0, .slice none 0 0] 36)).heap[w.heap.size]? = some (.cells #[.int .i64 s.k, .int .i64 s.a, .int .i64 s.b, .int .i64 s.c, .int .i64 s.d] 27)) := Lib.hid (by repeat (first | exact K.newAt (by first | rfl | (simp; done)) | refine K.oldAt (by first | (simp; done) | (simp; omega)) ?_))
  have r0 : Hid ((((w.alloc (.cells #[.int .i64 s.k, .int .i64 s.a, .int .i64 s.b, .int .i64 s.c, .int .i64 s.d] 27)).alloc (.cells #[.int .i64 t.k, .int .i64 t.a, .int .i64 t.b, .int .i64 t.c, .int .i64 t.d] 27)).alloc (.cells #[.int .i64 0, .int .i64 0, .int .i64 0, .int .i64 0, .int .i64 0, .int .i64 0, .int .i64 0, .int .i64 0, .int .i64 0, .int .i64 0, .int .i64 0, .bool false, .slice none 0 0, .slice none 0 0] 36)).heap[w.heap.size + 1]? = some (.cells #[.int .i64 t.k, .int .i64 t.a, .int .i64 t.b, .int .i64 t.c, .int .i64 t.d] 27)) := Lib.hid (by repeat (first | exact K.newAt (by first | rfl | (simp; done)) | refine K.oldAt (by first | (simp; done) | (simp; omega)) ?_))
  have z0 : Hid ((((w.alloc (.cells #[.int .i64 s.k, .int .i64 s.a, .int .i64 s.b, .int .i64 s.c, .int .i64 s.d] 27)).alloc (.cells #[.int .i64 t.k, .int .i64 t.a, .int .i64 t.b, .int .i64 t.c, .int .i64 t.d] 27)).alloc (.cells #[.int .i64 0, .int .i64 0, .int .i64 0, .int .i64 0, .int .i64 0, .int .i64 0, .int .i64 0, .int .i64 0, .int .i64 0, .int .i64 0, .int .i64 0, .bool false, .slice none 0 0, .slice none 0 0] 36)).heap[w.heap.size + 1 + 1]? = some (.cells #[.int .i64 0, .int .i64 0, .int .i64 0, .int .i64 0, .int .i64 0, .int .i64 0, .int .i64 0, .int .i64 0, .int .i64 0, .int .i64 0, .int .i64 0, .bool false, .slice none 0 0, .slice none 0 0] 36)) := Lib.hid (by repeat (first | exact K.newAt (by first | rfl | (simp; done)) | refine K.oldAt (by first | (simp; done) | (simp; omega)) ?_))
  have B0 : Hid (Below w.heap.size w (((w.alloc (.cells #[.int .i64 s.k, .int .i64 s.a, .int .i64 s.b, .int .i64 s.c, .int .i64 s.d] 27)).alloc (.cells #[.int .i64 t.k, .int .i64 t.a, .int .i64 t.b, .int .i64 t.c, .int .i64 t.d] 27)).alloc (.cells #[.int .i64 0, .int .i64 0, .int .i64 0, .int .i64 0, .int .i64 0, .int .i64 0, .int .i64 0, .int .i64 0, .int .i64 0, .int .i64 0, .int .i64 0, .bool false, .slice none 0 0, .slice none 0 0] 36))) := Lib.hid (by go_grown)
  go_enter Try.func15, Try.ntmps15
  go_wp2_with (first | (with_reducible refine loadA rfl _ rfl w.heap.size rfl p0.out ?_) | (with_reducible refine loadA rfl _ rfl (w.heap.size + 1) rfl r0.out ?_))
  refine Calls.mono (pairSB s t true HP.out _) ?_
  rintro e w1 ⟨rfl, b1⟩
  have p1 := Lib.hid (K.below b1 p0.out)
  have r1 := Lib.hid (K.below b1 r0.out)
  have z1 := Lib.hid (K.below b1 z0.out)
  have B1 := Lib.hid (bthen B0.out b1)
  clear b1 p0 r0 z0 B0
  go_wp2_with fail
  refine Calls.mono (inSB p 255 true _ HQ.out) ?_
  rintro e w2 ⟨rfl, b2⟩
  have p2 := Lib.hid (K.below b2 p1.out)
  have r2 := Lib.hid (K.below b2 r1.out)
  have z2 := Lib.hid (K.below b2 z1.out)
  have B2 := Lib.hid (bthen B1.out b2)
  clear b2 p1 r1 z1 B1
  have d0 := K.cell p2.out 0 _ rfl
  go_wp2_with fail
  clear d0
  refine Calls.mono (kind_spec p s.k 1 _ HPR.out HSK.out HKQ.out) ?_
  rintro e w3 ⟨rfl, b3⟩
  have p3 := Lib.hid (K.below b3 p2.out)
  have r3 := Lib.hid (K.below b3 r2.out)
  have z3 := Lib.hid (K.below b3 z2.out)
  have B3 := Lib.hid (bthen B2.out b3)
  clear b3 p2 r2 z2 B2
  have lw3 : w.heap.size + 1 + 1 < w3.heap.size := K.lt z3.out
  have p4 := Lib.hid (K.old p3.out (.cells #[.int .i64 1, .int .i64 0, .int .i64 0, .int .i64 0, .int .i64 0, .int .i64 0, .int .i64 0, .int .i64 0, .int .i64 0, .int .i64 0, .int .i64 0, .bool false, .slice none 0 0, .slice none 0 0] 36))
  have r4 := Lib.hid (K.old r3.out (.cells #[.int .i64 1, .int .i64 0, .int .i64 0, .int .i64 0, .int .i64 0, .int .i64 0, .int .i64 0, .int .i64 0, .int .i64 0, .int .i64 0, .int .i64 0, .bool false, .slice none 0 0, .slice none 0 0] 36))
  have z4 := Lib.hid (K.old z3.out (.cells #[.int .i64 1, .int .i64 0, .int .i64 0, .int .i64 0, .int .i64 0, .int .i64 0, .int .i64 0, .int .i64 0, .int .i64 0, .int .i64 0, .int .i64 0, .bool false, .slice none 0 0, .slice none 0 0] 36))
  have q4 := Lib.hid (K.new w3 (.cells #[.int .i64 1, .int .i64 0, .int .i64 0, .int .i64 0, .int .i64 0, .int .i64 0, .int .i64 0, .int .i64 0, .int .i64 0, .int .i64 0, .int .i64 0, .bool false, .slice none 0 0, .slice none 0 0] 36))
  have B4 := Lib.hid (bthen B3.out (Joins.below_alloc1 w3 (.cells #[.int .i64 1, .int .i64 0, .int .i64 0, .int .i64 0, .int .i64 0, .int .i64 0, .int .i64 0, .int .i64 0, .int .i64 0, .int .i64 0, .int .i64 0, .bool false, .slice none 0 0, .slice none 0 0] 36)))
  clear p3 r3 z3 B3
  have dk := K.cell q4.out 0 _ rfl
  have c12 := cell_on (B4.out.mono (Nat.le_refl _)) HC12.out
  go_wp2_with (first | (with_reducible refine storeU rfl _ _ rfl (w.heap.size + 1 + 1) rfl rfl z4.out ?_) | (with_reducible refine storeNewU rfl _ _ rfl rfl rfl ?_))
  (try simp only [Exit.inBlock, Exit.then])
  refine bodyPost_ret (v := .tuple #[.agg #[.int .i64 0, .int .i64 0, .int .i64 0, .int .i64 0, .int .i64 0, .int .i64 0, .int .i64 0, .int .i64 0, .int .i64 0, .int .i64 0, .int .i64 0, .bool false, .slice none 0 0, .slice none 0 0], .int .i64 4]) ?_ rfl (uread_no HF.out (by omega) (K.setRow_below B4.out (by omega) _))
  exact K.resCellTmp Try.results15 _ _ _ (w.heap.size + 1 + 1) _ rfl (run_loadVar_row _ _ 36 36 _ (0, 0) _ (setRow_heap _ _ _ _ _ _ z4.out) Try.underlying36 rfl info_up)

set_option maxHeartbeats 4000000 in
theorem urS_code1b (w : World) (gg oo n c : Nat) (bs : List UInt8) (p : Int) (s t : Ad) (hr : RB w w.heap.size (some ⟨gg, oo, none⟩) bs) (hl : bs.length = n) (b12 hd_ : Nat) (eb : num bs 12 1 = b12) (h4 : 4 * (b12 / 16) = hd_) (h20 : 20 ≤ n) (hh : 20 ≤ hd_ ∧ n < hd_) (hn : n ≤ 1500) (hp : pairA s t = true) (hq : upTo p 255 = true) (hs : s.k = 4 ∨ s.k = 6) (hk : kindU p s.k = 1) (hf : uhC bs p s t = 4) : Calls Try.prog 15 #[.slice (some ⟨gg, oo, none⟩) n c, .int .i64 p, .agg #[.int .i64 s.k, .int .i64 s.a, .int .i64 s.b, .int .i64 s.c, .int .i64 s.d], .agg #[.int .i64 t.k, .int .i64 t.a, .int .i64 t.b, .int .i64 t.c, .int .i64 t.d]] w (URead bs p s t w) := by
  have HP := Lib.hid hp
  have HPR := Lib.hid hq
  have HQ := Lib.hid hq
  have HKQ := Lib.hid hk
  have HSK := Lib.hid hs
  obtain ⟨g12, o12, ea12, _, c12⟩ := hr.at_ (k := 12) (by omega)
  obtain ⟨rfl, rfl⟩ : gg = g12 ∧ oo = o12 := by injection ea12 with ea1; injection ea1 with h1 h2; exact ⟨h1, h2⟩
  rw [← num_oneU bs 12 (by omega), eb] at c12
  have HC12 := Lib.hid c12
  have hb12 : b12 < 256 := by rw [← eb]; exact num_lt1 bs 12
  clear c12 ea12
  have HF := Lib.hid hf
  have hI2 : ¬ (n : Int) < 8 := by omega
  have hI3 : ¬ (n : Int) < 20 := by omega
  obtain ⟨wq, hwq⟩ : ∃ q : Nat, (b12 : Int) / 16 = q := ⟨b12 / 16, by omega⟩
  have hwd : IntKind.i64.wrap (4 * (wq : Int)) = (hd_ : Int) := by rw [IntKind.wrap_i64]; omega
  have hwd2 : 4 * (wq : Int) = (hd_ : Int) := by omega
  have hwq2 : IntKind.i64.wrap (wq : Int) = (wq : Int) := by rw [IntKind.wrap_i64]; omega
  have hI4 : ¬ (hd_ : Int) < 20 := by omega
  have hI5 : (n : Int) < (hd_ : Int) := by omega
  clear hr hl hf eb
  have hI : ¬ (1500 : Int) < (n : Int) := by omega
  clear hp hq hk hs
  have p0 : Hid ((((w.alloc (.cells #[.int .i64 s.k, .int .i64 s.a, .int .i64 s.b, .int .i64 s.c, .int .i64 s.d] 27)).alloc (.cells #[.int .i64 t.k, .int .i64 t.a, .int .i64 t.b, .int .i64 t.c, .int .i64 t.d] 27)).alloc (.cells #[.int .i64 0, .int .i64 0, .int .i64 0, .int .i64 0, .int .i64 0, .int .i64 0, .int .i64 0, .int .i64 0, .int .i64 0, .int .i64 0, .int .i64 0, .bool false, .slice none 0 0, .slice none 0 0] 36)).heap[w.heap.size]? = some (.cells #[.int .i64 s.k, .int .i64 s.a, .int .i64 s.b, .int .i64 s.c, .int .i64 s.d] 27)) := Lib.hid (by repeat (first | exact K.newAt (by first | rfl | (simp; done)) | refine K.oldAt (by first | (simp; done) | (simp; omega)) ?_))
  have r0 : Hid ((((w.alloc (.cells #[.int .i64 s.k, .int .i64 s.a, .int .i64 s.b, .int .i64 s.c, .int .i64 s.d] 27)).alloc (.cells #[.int .i64 t.k, .int .i64 t.a, .int .i64 t.b, .int .i64 t.c, .int .i64 t.d] 27)).alloc (.cells #[.int .i64 0, .int .i64 0, .int .i64 0, .int .i64 0, .int .i64 0, .int .i64 0, .int .i64 0, .int .i64 0, .int .i64 0, .int .i64 0, .int .i64 0, .bool false, .slice none 0 0, .slice none 0 0] 36)).heap[w.heap.size + 1]? = some (.cells #[.int .i64 t.k, .int .i64 t.a, .int .i64 t.b, .int .i64 t.c, .int .i64 t.d] 27)) := Lib.hid (by repeat (first | exact K.newAt (by first | rfl | (simp; done)) | refine K.oldAt (by first | (simp; done) | (simp; omega)) ?_))
  have z0 : Hid ((((w.alloc (.cells #[.int .i64 s.k, .int .i64 s.a, .int .i64 s.b, .int .i64 s.c, .int .i64 s.d] 27)).alloc (.cells #[.int .i64 t.k, .int .i64 t.a, .int .i64 t.b, .int .i64 t.c, .int .i64 t.d] 27)).alloc (.cells #[.int .i64 0, .int .i64 0, .int .i64 0, .int .i64 0, .int .i64 0, .int .i64 0, .int .i64 0, .int .i64 0, .int .i64 0, .int .i64 0, .int .i64 0, .bool false, .slice none 0 0, .slice none 0 0] 36)).heap[w.heap.size + 1 + 1]? = some (.cells #[.int .i64 0, .int .i64 0, .int .i64 0, .int .i64 0, .int .i64 0, .int .i64 0, .int .i64 0, .int .i64 0, .int .i64 0, .int .i64 0, .int .i64 0, .bool false, .slice none 0 0, .slice none 0 0] 36)) := Lib.hid (by repeat (first | exact K.newAt (by first | rfl | (simp; done)) | refine K.oldAt (by first | (simp; done) | (simp; omega)) ?_))
  have B0 : Hid (Below w.heap.size w (((w.alloc (.cells #[.int .i64 s.k, .int .i64 s.a, .int .i64 s.b, .int .i64 s.c, .int .i64 s.d] 27)).alloc (.cells #[.int .i64 t.k, .int .i64 t.a, .int .i64 t.b, .int .i64 t.c, .int .i64 t.d] 27)).alloc (.cells #[.int .i64 0, .int .i64 0, .int .i64 0, .int .i64 0, .int .i64 0, .int .i64 0, .int .i64 0, .int .i64 0, .int .i64 0, .int .i64 0, .int .i64 0, .bool false, .slice none 0 0, .slice none 0 0] 36))) := Lib.hid (by go_grown)
  go_enter Try.func15, Try.ntmps15
  go_wp2_with (first | (with_reducible refine loadA rfl _ rfl w.heap.size rfl p0.out ?_) | (with_reducible refine loadA rfl _ rfl (w.heap.size + 1) rfl r0.out ?_))
  refine Calls.mono (pairSB s t true HP.out _) ?_
  rintro e w1 ⟨rfl, b1⟩
  have p1 := Lib.hid (K.below b1 p0.out)
  have r1 := Lib.hid (K.below b1 r0.out)
  have z1 := Lib.hid (K.below b1 z0.out)
  have B1 := Lib.hid (bthen B0.out b1)
  clear b1 p0 r0 z0 B0
  go_wp2_with fail
  refine Calls.mono (inSB p 255 true _ HQ.out) ?_
  rintro e w2 ⟨rfl, b2⟩
  have p2 := Lib.hid (K.below b2 p1.out)
  have r2 := Lib.hid (K.below b2 r1.out)
  have z2 := Lib.hid (K.below b2 z1.out)
  have B2 := Lib.hid (bthen B1.out b2)
  clear b2 p1 r1 z1 B1
  have d0 := K.cell p2.out 0 _ rfl
  go_wp2_with fail
  clear d0
  refine Calls.mono (kind_spec p s.k 1 _ HPR.out HSK.out HKQ.out) ?_
  rintro e w3 ⟨rfl, b3⟩
  have p3 := Lib.hid (K.below b3 p2.out)
  have r3 := Lib.hid (K.below b3 r2.out)
  have z3 := Lib.hid (K.below b3 z2.out)
  have B3 := Lib.hid (bthen B2.out b3)
  clear b3 p2 r2 z2 B2
  have lw3 : w.heap.size + 1 + 1 < w3.heap.size := K.lt z3.out
  have p4 := Lib.hid (K.old p3.out (.cells #[.int .i64 1, .int .i64 0, .int .i64 0, .int .i64 0, .int .i64 0, .int .i64 0, .int .i64 0, .int .i64 0, .int .i64 0, .int .i64 0, .int .i64 0, .bool false, .slice none 0 0, .slice none 0 0] 36))
  have r4 := Lib.hid (K.old r3.out (.cells #[.int .i64 1, .int .i64 0, .int .i64 0, .int .i64 0, .int .i64 0, .int .i64 0, .int .i64 0, .int .i64 0, .int .i64 0, .int .i64 0, .int .i64 0, .bool false, .slice none 0 0, .slice none 0 0] 36))
  have z4 := Lib.hid (K.old z3.out (.cells #[.int .i64 1, .int .i64 0, .int .i64 0, .int .i64 0, .int .i64 0, .int .i64 0, .int .i64 0, .int .i64 0, .int .i64 0, .int .i64 0, .int .i64 0, .bool false, .slice none 0 0, .slice none 0 0] 36))
  have q4 := Lib.hid (K.new w3 (.cells #[.int .i64 1, .int .i64 0, .int .i64 0, .int .i64 0, .int .i64 0, .int .i64 0, .int .i64 0, .int .i64 0, .int .i64 0, .int .i64 0, .int .i64 0, .bool false, .slice none 0 0, .slice none 0 0] 36))
  have B4 := Lib.hid (bthen B3.out (Joins.below_alloc1 w3 (.cells #[.int .i64 1, .int .i64 0, .int .i64 0, .int .i64 0, .int .i64 0, .int .i64 0, .int .i64 0, .int .i64 0, .int .i64 0, .int .i64 0, .int .i64 0, .bool false, .slice none 0 0, .slice none 0 0] 36)))
  clear p3 r3 z3 B3
  have dk := K.cell q4.out 0 _ rfl
  have c12 := cell_on (B4.out.mono (Nat.le_refl _)) HC12.out
  go_wp2_with (first | (with_reducible refine storeU rfl _ _ rfl (w.heap.size + 1 + 1) rfl rfl z4.out ?_) | (with_reducible refine storeNewU rfl _ _ rfl rfl rfl ?_))
  (try simp only [Exit.inBlock, Exit.then])
  refine bodyPost_ret (v := .tuple #[.agg #[.int .i64 0, .int .i64 0, .int .i64 0, .int .i64 0, .int .i64 0, .int .i64 0, .int .i64 0, .int .i64 0, .int .i64 0, .int .i64 0, .int .i64 0, .bool false, .slice none 0 0, .slice none 0 0], .int .i64 4]) ?_ rfl (uread_no HF.out (by omega) (K.setRow_below B4.out (by omega) _))
  exact K.resCellTmp Try.results15 _ _ _ (w.heap.size + 1 + 1) _ rfl (run_loadVar_row _ _ 36 36 _ (0, 0) _ (setRow_heap _ _ _ _ _ _ z4.out) Try.underlying36 rfl info_up)

set_option maxHeartbeats 4000000 in
theorem urS_1 (w : World) (gg oo n c : Nat) (bs : List UInt8) (p : Int) (s t : Ad) (hr : RB w w.heap.size (some ⟨gg, oo, none⟩) bs) (hl : bs.length = n) (hc : n ≤ c) (sport dport seq ack mx window sm urgent b12 hd_ P Q : Nat) (S : Int) (os ds : List UInt8) (e0 : num bs 0 2 = sport) (e2 : num bs 2 2 = dport) (e4 : num bs 4 4 = seq) (e8 : num bs 8 4 = ack) (e12 : num bs 12 2 = mx) (e14 : num bs 14 2 = window) (e16 : num bs 16 2 = sm) (e18 : num bs 18 2 = urgent) (eb : num bs 12 1 = b12) (h4 : 4 * (b12 / 16) = hd_) (hP : 20 + P = hd_) (hQ : hd_ + Q = n) (hos : (bs.drop 20).take P = os) (hds : bs.drop hd_ = ds) (hn : n ≤ 1500) (hp : pairA s t = true) (hq : upTo p 255 = true) (hs : s.k = 4 ∨ s.k = 6) (hk : kindU p s.k = 1) (ho : os.length = P) (hd : ds.length = Q) (hsum : (Uh.mk 1 sport dport seq ack ((mx : Int) % 4096) window urgent 0 0 0 false).sum os ds s t = S) (hf0 : (sm : Int) = S → uhC bs p s t = 0) (hf6 : ¬ (sm : Int) = S → uhC bs p s t = 6) (hx1 : uhX bs (kindU p s.k) s.k = (Uh.mk 1 sport dport seq ack ((mx : Int) % 4096) window urgent 0 0 0 false)) (hx2 : uhO bs (kindU p s.k) = os) (hx3 : uhB bs (kindU p s.k) = ds) : Calls Try.prog 15 #[.slice (some ⟨gg, oo, none⟩) n c, .int .i64 p, .agg #[.int .i64 s.k, .int .i64 s.a, .int .i64 s.b, .int .i64 s.c, .int .i64 s.d], .agg #[.int .i64 t.k, .int .i64 t.a, .int .i64 t.b, .int .i64 t.c, .int .i64 t.d]] w (URead bs p s t w) := by
  have HP := Lib.hid hp
  have HPR := Lib.hid hq
  have HQ := Lib.hid hq
  have HKQ := Lib.hid hk
  have HSK := Lib.hid hs
  obtain ⟨g12, o12, ea12, _, c12⟩ := hr.at_ (k := 12) (by omega)
  obtain ⟨rfl, rfl⟩ : gg = g12 ∧ oo = o12 := by injection ea12 with ea1; injection ea1 with h1 h2; exact ⟨h1, h2⟩
  rw [← num_oneU bs 12 (by omega), eb] at c12
  have HC12 := Lib.hid c12
  have hb12 : b12 < 256 := by rw [← eb]; exact num_lt1 bs 12
  clear c12 ea12
  have HF := Lib.hid (And.intro hf0 hf6)
  have HS := Lib.hid hsum
  have HO := Lib.hid ho
  have HD := Lib.hid hd
  have R0 := Lib.hid hr
  have HL := Lib.hid hl
  have HX := Lib.hid (And.intro hx1 (And.intro hx2 hx3))
  clear hx1 hx2 hx3
  have hI2 : ¬ (n : Int) < 8 := by omega
  have hI3 : ¬ (n : Int) < 20 := by omega
  obtain ⟨wq, hwq⟩ : ∃ q : Nat, (b12 : Int) / 16 = q := ⟨b12 / 16, by omega⟩
  have hwd : IntKind.i64.wrap (4 * (wq : Int)) = (hd_ : Int) := by rw [IntKind.wrap_i64]; omega
  have hwd2 : 4 * (wq : Int) = (hd_ : Int) := by omega
  have hwq2 : IntKind.i64.wrap (wq : Int) = (wq : Int) := by rw [IntKind.wrap_i64]; omega
  have hI4 : ¬ (hd_ : Int) < 20 := by omega
  have hI5 : ¬ (n : Int) < (hd_ : Int) := by omega
  obtain ⟨X20, y20, h20, hX20⟩ := cut_midU ⟨gg, oo, none⟩ n c 20 P hd_ (by omega) (by omega) hc
  obtain ⟨Xh, yh, hh, hXh⟩ := cut_atU ⟨gg, oo, none⟩ n c hd_ Q (by omega)
  have H20 := Lib.hid (show ∀ w, (Instr.sliceAt 34 (.slice (some ⟨gg, oo, none⟩) n c) (some (.int .i64 20)) (some (.int .i64 (hd_ : Int))) none).run Try.prog w = .ok (.slice (some X20) P y20) w from h20)
  have HH := Lib.hid hh
  have HR20 := Lib.hid (fun (v : World) (hb : Below w.heap.size w v) => show RB v w.heap.size (some X20) os from hos ▸ hX20 (hr.below hb) hl)
  have HRH := Lib.hid (fun (v : World) (hb : Below w.heap.size w v) => show RB v w.heap.size (some Xh) ds from hds ▸ hXh (hr.below hb) hl hc)
  have hmx : mx < 65536 := by rw [← e12]; exact num_lt2 bs 12
  have hrm : IntKind.i64.wrap ((mx : Int) % 4096) = (mx : Int) % 4096 := by rw [IntKind.wrap_i64]; omega
  have HE0 := Lib.hid e0
  have HE2 := Lib.hid e2
  have HE4 := Lib.hid e4
  have HE8 := Lib.hid e8
  have HE12 := Lib.hid e12
  have HE14 := Lib.hid e14
  have HE16 := Lib.hid e16
  have HE18 := Lib.hid e18
  clear e0 e2 e4 e8 e12 e14 e16 e18
  clear h20 hh hX20 hXh hr hl hf0 hf6 hsum ho hd hos hds eb
  have hI : ¬ (1500 : Int) < (n : Int) := by omega
  clear hp hq hk hs
  have p0 : Hid ((((w.alloc (.cells #[.int .i64 s.k, .int .i64 s.a, .int .i64 s.b, .int .i64 s.c, .int .i64 s.d] 27)).alloc (.cells #[.int .i64 t.k, .int .i64 t.a, .int .i64 t.b, .int .i64 t.c, .int .i64 t.d] 27)).alloc (.cells #[.int .i64 0, .int .i64 0, .int .i64 0, .int .i64 0, .int .i64 0, .int .i64 0, .int .i64 0, .int .i64 0, .int .i64 0, .int .i64 0, .int .i64 0, .bool false, .slice none 0 0, .slice none 0 0] 36)).heap[w.heap.size]? = some (.cells #[.int .i64 s.k, .int .i64 s.a, .int .i64 s.b, .int .i64 s.c, .int .i64 s.d] 27)) := Lib.hid (by repeat (first | exact K.newAt (by first | rfl | (simp; done)) | refine K.oldAt (by first | (simp; done) | (simp; omega)) ?_))
  have r0 : Hid ((((w.alloc (.cells #[.int .i64 s.k, .int .i64 s.a, .int .i64 s.b, .int .i64 s.c, .int .i64 s.d] 27)).alloc (.cells #[.int .i64 t.k, .int .i64 t.a, .int .i64 t.b, .int .i64 t.c, .int .i64 t.d] 27)).alloc (.cells #[.int .i64 0, .int .i64 0, .int .i64 0, .int .i64 0, .int .i64 0, .int .i64 0, .int .i64 0, .int .i64 0, .int .i64 0, .int .i64 0, .int .i64 0, .bool false, .slice none 0 0, .slice none 0 0] 36)).heap[w.heap.size + 1]? = some (.cells #[.int .i64 t.k, .int .i64 t.a, .int .i64 t.b, .int .i64 t.c, .int .i64 t.d] 27)) := Lib.hid (by repeat (first | exact K.newAt (by first | rfl | (simp; done)) | refine K.oldAt (by first | (simp; done) | (simp; omega)) ?_))
  have z0 : Hid ((((w.alloc (.cells #[.int .i64 s.k, .int .i64 s.a, .int .i64 s.b, .int .i64 s.c, .int .i64 s.d] 27)).alloc (.cells #[.int .i64 t.k, .int .i64 t.a, .int .i64 t.b, .int .i64 t.c, .int .i64 t.d] 27)).alloc (.cells #[.int .i64 0, .int .i64 0, .int .i64 0, .int .i64 0, .int .i64 0, .int .i64 0, .int .i64 0, .int .i64 0, .int .i64 0, .int .i64 0, .int .i64 0, .bool false, .slice none 0 0, .slice none 0 0] 36)).heap[w.heap.size + 1 + 1]? = some (.cells #[.int .i64 0, .int .i64 0, .int .i64 0, .int .i64 0, .int .i64 0, .int .i64 0, .int .i64 0, .int .i64 0, .int .i64 0, .int .i64 0, .int .i64 0, .bool false, .slice none 0 0, .slice none 0 0] 36)) := Lib.hid (by repeat (first | exact K.newAt (by first | rfl | (simp; done)) | refine K.oldAt (by first | (simp; done) | (simp; omega)) ?_))
  have B0 : Hid (Below w.heap.size w (((w.alloc (.cells #[.int .i64 s.k, .int .i64 s.a, .int .i64 s.b, .int .i64 s.c, .int .i64 s.d] 27)).alloc (.cells #[.int .i64 t.k, .int .i64 t.a, .int .i64 t.b, .int .i64 t.c, .int .i64 t.d] 27)).alloc (.cells #[.int .i64 0, .int .i64 0, .int .i64 0, .int .i64 0, .int .i64 0, .int .i64 0, .int .i64 0, .int .i64 0, .int .i64 0, .int .i64 0, .int .i64 0, .bool false, .slice none 0 0, .slice none 0 0] 36))) := Lib.hid (by go_grown)
  go_enter Try.func15, Try.ntmps15
  go_wp2_with (first | (with_reducible refine loadA rfl _ rfl w.heap.size rfl p0.out ?_) | (with_reducible refine loadA rfl _ rfl (w.heap.size + 1) rfl r0.out ?_))
  refine Calls.mono (pairSB s t true HP.out _) ?_
  rintro e w1 ⟨rfl, b1⟩
  have p1 := Lib.hid (K.below b1 p0.out)
  have r1 := Lib.hid (K.below b1 r0.out)
  have z1 := Lib.hid (K.below b1 z0.out)
  have B1 := Lib.hid (bthen B0.out b1)
  clear b1 p0 r0 z0 B0
  go_wp2_with fail
  refine Calls.mono (inSB p 255 true _ HQ.out) ?_
  rintro e w2 ⟨rfl, b2⟩
  have p2 := Lib.hid (K.below b2 p1.out)
  have r2 := Lib.hid (K.below b2 r1.out)
  have z2 := Lib.hid (K.below b2 z1.out)
  have B2 := Lib.hid (bthen B1.out b2)
  clear b2 p1 r1 z1 B1
  have d0 := K.cell p2.out 0 _ rfl
  go_wp2_with fail
  clear d0
  refine Calls.mono (kind_spec p s.k 1 _ HPR.out HSK.out HKQ.out) ?_
  rintro e w3 ⟨rfl, b3⟩
  have p3 := Lib.hid (K.below b3 p2.out)
  have r3 := Lib.hid (K.below b3 r2.out)
  have z3 := Lib.hid (K.below b3 z2.out)
  have B3 := Lib.hid (bthen B2.out b3)
  clear b3 p2 r2 z2 B2
  have lw3 : w.heap.size + 1 + 1 < w3.heap.size := K.lt z3.out
  have p4 := Lib.hid (K.old p3.out (.cells #[.int .i64 1, .int .i64 0, .int .i64 0, .int .i64 0, .int .i64 0, .int .i64 0, .int .i64 0, .int .i64 0, .int .i64 0, .int .i64 0, .int .i64 0, .bool false, .slice none 0 0, .slice none 0 0] 36))
  have r4 := Lib.hid (K.old r3.out (.cells #[.int .i64 1, .int .i64 0, .int .i64 0, .int .i64 0, .int .i64 0, .int .i64 0, .int .i64 0, .int .i64 0, .int .i64 0, .int .i64 0, .int .i64 0, .bool false, .slice none 0 0, .slice none 0 0] 36))
  have z4 := Lib.hid (K.old z3.out (.cells #[.int .i64 1, .int .i64 0, .int .i64 0, .int .i64 0, .int .i64 0, .int .i64 0, .int .i64 0, .int .i64 0, .int .i64 0, .int .i64 0, .int .i64 0, .bool false, .slice none 0 0, .slice none 0 0] 36))
  have q4 := Lib.hid (K.new w3 (.cells #[.int .i64 1, .int .i64 0, .int .i64 0, .int .i64 0, .int .i64 0, .int .i64 0, .int .i64 0, .int .i64 0, .int .i64 0, .int .i64 0, .int .i64 0, .bool false, .slice none 0 0, .slice none 0 0] 36))
  have B4 := Lib.hid (bthen B3.out (Joins.below_alloc1 w3 (.cells #[.int .i64 1, .int .i64 0, .int .i64 0, .int .i64 0, .int .i64 0, .int .i64 0, .int .i64 0, .int .i64 0, .int .i64 0, .int .i64 0, .int .i64 0, .bool false, .slice none 0 0, .slice none 0 0] 36)))
  clear p3 r3 z3 B3
  have dk := K.cell q4.out 0 _ rfl
  have c12 := cell_on (B4.out.mono (Nat.le_refl _)) HC12.out
  go_wp2_with (with_reducible refine storeNewU rfl _ _ rfl rfl rfl ?_)
  clear dk c12 hwd hwd2 hwq hwq2
  generalize (w3.alloc (.cells #[.int .i64 1, .int .i64 0, .int .i64 0, .int .i64 0, .int .i64 0, .int .i64 0, .int .i64 0, .int .i64 0, .int .i64 0, .int .i64 0, .int .i64 0, .bool false, .slice none 0 0, .slice none 0 0] 36)) = w4 at p4 r4 z4 B4 q4 ⊢
  refine Calls.mono (be16U (some ⟨gg, oo, none⟩) n c bs 0 sport _ ((R0.out.below B4.out).more B4.out.size) HL.out (by omega) (by omega) HE0.out) ?_
  rintro e w5 ⟨rfl, bb⟩
  have p5 := Lib.hid (K.below bb p4.out)
  have r5 := Lib.hid (K.below bb r4.out)
  have z5 := Lib.hid (K.below bb z4.out)
  have q5 := Lib.hid (K.below bb q4.out)
  have B5 := Lib.hid (bthen B4.out bb)
  clear bb p4 r4 z4 B4 q4
  have uu := K.cell q5.out 1 _ rfl
  have yy := frozen_of_row _ _ 1 _ _ q5.out
  have q6 : Hid ((w5.setCell ⟨w3.heap.size, 1, none⟩ (.int .i64 (sport : Int))).heap[w3.heap.size]? = some (.cells #[.int .i64 1, .int .i64 (sport : Int), .int .i64 0, .int .i64 0, .int .i64 0, .int .i64 0, .int .i64 0, .int .i64 0, .int .i64 0, .int .i64 0, .int .i64 0, .bool false, .slice none 0 0, .slice none 0 0] 36 (0, 0))) := Lib.hid (K.set q5.out 1 _)
  have p6 := Lib.hid (K.other p5.out w3.heap.size 1 (.int .i64 (sport : Int)) (by omega))
  have r6 := Lib.hid (K.other r5.out w3.heap.size 1 (.int .i64 (sport : Int)) (by omega))
  have z6 := Lib.hid (K.other z5.out w3.heap.size 1 (.int .i64 (sport : Int)) (by omega))
  have B6 : Hid (Below w.heap.size w (w5.setCell ⟨w3.heap.size, 1, none⟩ (.int .i64 (sport : Int)))) := Lib.hid (B5.out.setCell (p := ⟨w3.heap.size, 1, none⟩) (show w.heap.size ≤ w3.heap.size by omega) (.int .i64 (sport : Int)))
  go_upto_region 19 with fail
  clear uu yy p5 r5 z5 B5 q5
  generalize (w5.setCell ⟨w3.heap.size, 1, none⟩ (.int .i64 (sport : Int))) = w6 at p6 r6 z6 B6 q6 ⊢
  go_wp2_with fail
  refine Calls.mono (be16U (some ⟨gg, oo, none⟩) n c bs 2 dport _ ((R0.out.below B6.out).more B6.out.size) HL.out (by omega) (by omega) HE2.out) ?_
  rintro e w7 ⟨rfl, bb⟩
  have p7 := Lib.hid (K.below bb p6.out)
  have r7 := Lib.hid (K.below bb r6.out)
  have z7 := Lib.hid (K.below bb z6.out)
  have q7 := Lib.hid (K.below bb q6.out)
  have B7 := Lib.hid (bthen B6.out bb)
  clear bb p6 r6 z6 B6 q6
  have uu := K.cell q7.out 2 _ rfl
  have yy := frozen_of_row _ _ 2 _ _ q7.out
  have q8 : Hid ((w7.setCell ⟨w3.heap.size, 2, none⟩ (.int .i64 (dport : Int))).heap[w3.heap.size]? = some (.cells #[.int .i64 1, .int .i64 (sport : Int), .int .i64 (dport : Int), .int .i64 0, .int .i64 0, .int .i64 0, .int .i64 0, .int .i64 0, .int .i64 0, .int .i64 0, .int .i64 0, .bool false, .slice none 0 0, .slice none 0 0] 36 (0, 0))) := Lib.hid (K.set q7.out 2 _)
  have p8 := Lib.hid (K.other p7.out w3.heap.size 2 (.int .i64 (dport : Int)) (by omega))
  have r8 := Lib.hid (K.other r7.out w3.heap.size 2 (.int .i64 (dport : Int)) (by omega))
  have z8 := Lib.hid (K.other z7.out w3.heap.size 2 (.int .i64 (dport : Int)) (by omega))
  have B8 : Hid (Below w.heap.size w (w7.setCell ⟨w3.heap.size, 2, none⟩ (.int .i64 (dport : Int)))) := Lib.hid (B7.out.setCell (p := ⟨w3.heap.size, 2, none⟩) (show w.heap.size ≤ w3.heap.size by omega) (.int .i64 (dport : Int)))
  go_upto_region 20 with fail
  clear uu yy p7 r7 z7 B7 q7
  generalize (w7.setCell ⟨w3.heap.size, 2, none⟩ (.int .i64 (dport : Int))) = w8 at p8 r8 z8 B8 q8 ⊢
  go_wp2_with fail
  refine Calls.mono (be32U (some ⟨gg, oo, none⟩) n c bs 4 seq _ ((R0.out.below B8.out).more B8.out.size) HL.out (by omega) (by omega) HE4.out) ?_
  rintro e w9 ⟨rfl, bb⟩
  have p9 := Lib.hid (K.below bb p8.out)
  have r9 := Lib.hid (K.below bb r8.out)
  have z9 := Lib.hid (K.below bb z8.out)
  have q9 := Lib.hid (K.below bb q8.out)
  have B9 := Lib.hid (bthen B8.out bb)
  clear bb p8 r8 z8 B8 q8
  have uu := K.cell q9.out 3 _ rfl
  have yy := frozen_of_row _ _ 3 _ _ q9.out
  have q10 : Hid ((w9.setCell ⟨w3.heap.size, 3, none⟩ (.int .i64 (seq : Int))).heap[w3.heap.size]? = some (.cells #[.int .i64 1, .int .i64 (sport : Int), .int .i64 (dport : Int), .int .i64 (seq : Int), .int .i64 0, .int .i64 0, .int .i64 0, .int .i64 0, .int .i64 0, .int .i64 0, .int .i64 0, .bool false, .slice none 0 0, .slice none 0 0] 36 (0, 0))) := Lib.hid (K.set q9.out 3 _)
  have p10 := Lib.hid (K.other p9.out w3.heap.size 3 (.int .i64 (seq : Int)) (by omega))
  have r10 := Lib.hid (K.other r9.out w3.heap.size 3 (.int .i64 (seq : Int)) (by omega))
  have z10 := Lib.hid (K.other z9.out w3.heap.size 3 (.int .i64 (seq : Int)) (by omega))
  have B10 : Hid (Below w.heap.size w (w9.setCell ⟨w3.heap.size, 3, none⟩ (.int .i64 (seq : Int)))) := Lib.hid (B9.out.setCell (p := ⟨w3.heap.size, 3, none⟩) (show w.heap.size ≤ w3.heap.size by omega) (.int .i64 (seq : Int)))
  go_upto_region 21 with fail
  clear uu yy p9 r9 z9 B9 q9
  generalize (w9.setCell ⟨w3.heap.size, 3, none⟩ (.int .i64 (seq : Int))) = w10 at p10 r10 z10 B10 q10 ⊢
  go_wp2_with fail
  refine Calls.mono (be32U (some ⟨gg, oo, none⟩) n c bs 8 ack _ ((R0.out.below B10.out).more B10.out.size) HL.out (by omega) (by omega) HE8.out) ?_
  rintro e w11 ⟨rfl, bb⟩
  have p11 := Lib.hid (K.below bb p10.out)
  have r11 := Lib.hid (K.below bb r10.out)
  have z11 := Lib.hid (K.below bb z10.out)
  have q11 := Lib.hid (K.below bb q10.out)
  have B11 := Lib.hid (bthen B10.out bb)
  clear bb p10 r10 z10 B10 q10
  have uu := K.cell q11.out 4 _ rfl
  have yy := frozen_of_row _ _ 4 _ _ q11.out
  have q12 : Hid ((w11.setCell ⟨w3.heap.size, 4, none⟩ (.int .i64 (ack : Int))).heap[w3.heap.size]? = some (.cells #[.int .i64 1, .int .i64 (sport : Int), .int .i64 (dport : Int), .int .i64 (seq : Int), .int .i64 (ack : Int), .int .i64 0, .int .i64 0, .int .i64 0, .int .i64 0, .int .i64 0, .int .i64 0, .bool false, .slice none 0 0, .slice none 0 0] 36 (0, 0))) := Lib.hid (K.set q11.out 4 _)
  have p12 := Lib.hid (K.other p11.out w3.heap.size 4 (.int .i64 (ack : Int)) (by omega))
  have r12 := Lib.hid (K.other r11.out w3.heap.size 4 (.int .i64 (ack : Int)) (by omega))
  have z12 := Lib.hid (K.other z11.out w3.heap.size 4 (.int .i64 (ack : Int)) (by omega))
  have B12 : Hid (Below w.heap.size w (w11.setCell ⟨w3.heap.size, 4, none⟩ (.int .i64 (ack : Int)))) := Lib.hid (B11.out.setCell (p := ⟨w3.heap.size, 4, none⟩) (show w.heap.size ≤ w3.heap.size by omega) (.int .i64 (ack : Int)))
  go_upto_region 22 with fail
  clear uu yy p11 r11 z11 B11 q11
  generalize (w11.setCell ⟨w3.heap.size, 4, none⟩ (.int .i64 (ack : Int))) = w12 at p12 r12 z12 B12 q12 ⊢
  go_wp2_with fail
  refine Calls.mono (be16U (some ⟨gg, oo, none⟩) n c bs 12 mx _ ((R0.out.below B12.out).more B12.out.size) HL.out (by omega) (by omega) HE12.out) ?_
  rintro e w13 ⟨rfl, bb⟩
  have p13 := Lib.hid (K.below bb p12.out)
  have r13 := Lib.hid (K.below bb r12.out)
  have z13 := Lib.hid (K.below bb z12.out)
  have q13 := Lib.hid (K.below bb q12.out)
  have B13 := Lib.hid (bthen B12.out bb)
  clear bb p12 r12 z12 B12 q12
  have uu := K.cell q13.out 5 _ rfl
  have yy := frozen_of_row _ _ 5 _ _ q13.out
  have q14 : Hid ((w13.setCell ⟨w3.heap.size, 5, none⟩ (.int .i64 ((mx : Int) % 4096))).heap[w3.heap.size]? = some (.cells #[.int .i64 1, .int .i64 (sport : Int), .int .i64 (dport : Int), .int .i64 (seq : Int), .int .i64 (ack : Int), .int .i64 ((mx : Int) % 4096), .int .i64 0, .int .i64 0, .int .i64 0, .int .i64 0, .int .i64 0, .bool false, .slice none 0 0, .slice none 0 0] 36 (0, 0))) := Lib.hid (K.set q13.out 5 _)
  have p14 := Lib.hid (K.other p13.out w3.heap.size 5 (.int .i64 ((mx : Int) % 4096)) (by omega))
  have r14 := Lib.hid (K.other r13.out w3.heap.size 5 (.int .i64 ((mx : Int) % 4096)) (by omega))
  have z14 := Lib.hid (K.other z13.out w3.heap.size 5 (.int .i64 ((mx : Int) % 4096)) (by omega))
  have B14 : Hid (Below w.heap.size w (w13.setCell ⟨w3.heap.size, 5, none⟩ (.int .i64 ((mx : Int) % 4096)))) := Lib.hid (B13.out.setCell (p := ⟨w3.heap.size, 5, none⟩) (show w.heap.size ≤ w3.heap.size by omega) (.int .i64 ((mx : Int) % 4096)))
  go_upto_region 24 with fail
  clear uu yy p13 r13 z13 B13 q13
  generalize (w13.setCell ⟨w3.heap.size, 5, none⟩ (.int .i64 ((mx : Int) % 4096))) = w14 at p14 r14 z14 B14 q14 ⊢
  go_wp2_with fail
  refine Calls.mono (be16U (some ⟨gg, oo, none⟩) n c bs 14 window _ ((R0.out.below B14.out).more B14.out.size) HL.out (by omega) (by omega) HE14.out) ?_
  rintro e w15 ⟨rfl, bb⟩
  have p15 := Lib.hid (K.below bb p14.out)
  have r15 := Lib.hid (K.below bb r14.out)
  have z15 := Lib.hid (K.below bb z14.out)
  have q15 := Lib.hid (K.below bb q14.out)
  have B15 := Lib.hid (bthen B14.out bb)
  clear bb p14 r14 z14 B14 q14
  have uu := K.cell q15.out 6 _ rfl
  have yy := frozen_of_row _ _ 6 _ _ q15.out
  have q16 : Hid ((w15.setCell ⟨w3.heap.size, 6, none⟩ (.int .i64 (window : Int))).heap[w3.heap.size]? = some (.cells #[.int .i64 1, .int .i64 (sport : Int), .int .i64 (dport : Int), .int .i64 (seq : Int), .int .i64 (ack : Int), .int .i64 ((mx : Int) % 4096), .int .i64 (window : Int), .int .i64 0, .int .i64 0, .int .i64 0, .int .i64 0, .bool false, .slice none 0 0, .slice none 0 0] 36 (0, 0))) := Lib.hid (K.set q15.out 6 _)
  have p16 := Lib.hid (K.other p15.out w3.heap.size 6 (.int .i64 (window : Int)) (by omega))
  have r16 := Lib.hid (K.other r15.out w3.heap.size 6 (.int .i64 (window : Int)) (by omega))
  have z16 := Lib.hid (K.other z15.out w3.heap.size 6 (.int .i64 (window : Int)) (by omega))
  have B16 : Hid (Below w.heap.size w (w15.setCell ⟨w3.heap.size, 6, none⟩ (.int .i64 (window : Int)))) := Lib.hid (B15.out.setCell (p := ⟨w3.heap.size, 6, none⟩) (show w.heap.size ≤ w3.heap.size by omega) (.int .i64 (window : Int)))
  go_upto_region 25 with fail
  clear uu yy p15 r15 z15 B15 q15
  generalize (w15.setCell ⟨w3.heap.size, 6, none⟩ (.int .i64 (window : Int))) = w16 at p16 r16 z16 B16 q16 ⊢
  go_wp2_with fail
  refine Calls.mono (be16U (some ⟨gg, oo, none⟩) n c bs 16 sm _ ((R0.out.below B16.out).more B16.out.size) HL.out (by omega) (by omega) HE16.out) ?_
  rintro e w17 ⟨rfl, bb⟩
  have p17 := Lib.hid (K.below bb p16.out)
  have r17 := Lib.hid (K.below bb r16.out)
  have z17 := Lib.hid (K.below bb z16.out)
  have q17 := Lib.hid (K.below bb q16.out)
  have B17 := Lib.hid (bthen B16.out bb)
  clear bb p16 r16 z16 B16 q16
  go_wp2_with fail
  refine Calls.mono (be16U (some ⟨gg, oo, none⟩) n c bs 18 urgent _ ((R0.out.below B17.out).more B17.out.size) HL.out (by omega) (by omega) HE18.out) ?_
  rintro e w18 ⟨rfl, bb⟩
  have p18 := Lib.hid (K.below bb p17.out)
  have r18 := Lib.hid (K.below bb r17.out)
  have z18 := Lib.hid (K.below bb z17.out)
  have q18 := Lib.hid (K.below bb q17.out)
  have B18 := Lib.hid (bthen B17.out bb)
  clear bb p17 r17 z17 B17 q17
  have uu := K.cell q18.out 7 _ rfl
  have yy := frozen_of_row _ _ 7 _ _ q18.out
  have q19 : Hid ((w18.setCell ⟨w3.heap.size, 7, none⟩ (.int .i64 (urgent : Int))).heap[w3.heap.size]? = some (.cells #[.int .i64 1, .int .i64 (sport : Int), .int .i64 (dport : Int), .int .i64 (seq : Int), .int .i64 (ack : Int), .int .i64 ((mx : Int) % 4096), .int .i64 (window : Int), .int .i64 (urgent : Int), .int .i64 0, .int .i64 0, .int .i64 0, .bool false, .slice none 0 0, .slice none 0 0] 36 (0, 0))) := Lib.hid (K.set q18.out 7 _)
  have p19 := Lib.hid (K.other p18.out w3.heap.size 7 (.int .i64 (urgent : Int)) (by omega))
  have r19 := Lib.hid (K.other r18.out w3.heap.size 7 (.int .i64 (urgent : Int)) (by omega))
  have z19 := Lib.hid (K.other z18.out w3.heap.size 7 (.int .i64 (urgent : Int)) (by omega))
  have B19 : Hid (Below w.heap.size w (w18.setCell ⟨w3.heap.size, 7, none⟩ (.int .i64 (urgent : Int)))) := Lib.hid (B18.out.setCell (p := ⟨w3.heap.size, 7, none⟩) (show w.heap.size ≤ w3.heap.size by omega) (.int .i64 (urgent : Int)))
  go_upto_region 27 with fail
  clear uu yy p18 r18 z18 B18 q18
  generalize (w18.setCell ⟨w3.heap.size, 7, none⟩ (.int .i64 (urgent : Int))) = w19 at p19 r19 z19 B19 q19 ⊢
  have h20 := H20.out
  have NEW0 : Hid ((w19.alloc (.cells #[] 5)).heap[w19.heap.size]? = some (.cells #[] 5 (0, 0))) := Lib.hid (K.new w19 _)
  have lc : w3.heap.size < w19.heap.size := K.lt q19.out
  have p20 := Lib.hid (K.old p19.out (.cells #[] 5))
  have r20 := Lib.hid (K.old r19.out (.cells #[] 5))
  have z20 := Lib.hid (K.old z19.out (.cells #[] 5))
  have q20 := Lib.hid (K.old q19.out (.cells #[] 5))
  have B20 := Lib.hid (bthen B19.out (Joins.below_alloc1 w19 (.cells #[] 5)))
  clear p19 r19 z19 B19 q19
  go_upto_region 41 with (at_builtin; (refine wpList_append_new rfl (.tmp 126) (.tmp 129) rfl w19.heap.size w19.heap.size rfl (Nat.le_refl _) NEW0.out (by simp) w.heap.size (some X20) P y20 os rfl HO.out (HR20.out _ B20.out) (by rw [HO.out]; omega) ?_); intro O o w20 oo6 bb; have qa := Lib.hid (K.below bb q20.out); have uu := K.cell qa.out 12 _ rfl; have yy := frozen_of_row _ _ 12 _ _ qa.out)
  have oo7 := own_base oo6 (show w3.heap.size + 1 ≤ w19.heap.size from lc)
  clear NEW0 uu yy qa oo6
  have OW_ := Lib.hid oo7
  clear oo7
  have p21 := Lib.hid (K.below bb p20.out)
  have r21 := Lib.hid (K.below bb r20.out)
  have z21 := Lib.hid (K.below bb z20.out)
  have q21 := Lib.hid (K.below bb q20.out)
  have B21 := Lib.hid (bthen B20.out bb)
  clear bb p20 r20 z20 B20 q20
  have O21 := OW_
  clear OW_
  have q22 : Hid ((w20.setCell ⟨w3.heap.size, 12, none⟩ (.slice O P o)).heap[w3.heap.size]? = some (.cells #[.int .i64 1, .int .i64 (sport : Int), .int .i64 (dport : Int), .int .i64 (seq : Int), .int .i64 (ack : Int), .int .i64 ((mx : Int) % 4096), .int .i64 (window : Int), .int .i64 (urgent : Int), .int .i64 0, .int .i64 0, .int .i64 0, .bool false, .slice O P o, .slice none 0 0] 36 (0, 0))) := Lib.hid (K.set q21.out 12 _)
  have p22 := Lib.hid (K.other p21.out w3.heap.size 12 (.slice O P o) (by omega))
  have r22 := Lib.hid (K.other r21.out w3.heap.size 12 (.slice O P o) (by omega))
  have z22 := Lib.hid (K.other z21.out w3.heap.size 12 (.slice O P o) (by omega))
  have B22 : Hid (Below w.heap.size w (w20.setCell ⟨w3.heap.size, 12, none⟩ (.slice O P o))) := Lib.hid (B21.out.setCell (p := ⟨w3.heap.size, 12, none⟩) (show w.heap.size ≤ w3.heap.size by omega) (.slice O P o))
  have O22 := Lib.hid (own_set O21.out w3.heap.size 12 (.slice O P o) (by omega))
  clear lc p21 r21 z21 B21 q21 O21
  generalize (w20.setCell ⟨w3.heap.size, 12, none⟩ (.slice O P o)) = w21 at p22 r22 z22 B22 q22 O22 ⊢
  clear h20
  have hh := HH.out
  have NEW0 : Hid ((w21.alloc (.cells #[] 5)).heap[w21.heap.size]? = some (.cells #[] 5 (0, 0))) := Lib.hid (K.new w21 _)
  have lc : w3.heap.size < w21.heap.size := K.lt q22.out
  have LOX := Lib.hid (fun k hk => (O22.out.lt k hk).2)
  have p23 := Lib.hid (K.old p22.out (.cells #[] 5))
  have r23 := Lib.hid (K.old r22.out (.cells #[] 5))
  have z23 := Lib.hid (K.old z22.out (.cells #[] 5))
  have q23 := Lib.hid (K.old q22.out (.cells #[] 5))
  have B23 := Lib.hid (bthen B22.out (Joins.below_alloc1 w21 (.cells #[] 5)))
  have O23 := Lib.hid (World.ownsRow.alloc O22.out (.cells #[] 5))
  clear p22 r22 z22 B22 q22 O22
  go_upto_region 42 with (at_builtin; (refine wpList_append_new rfl (.tmp 192) (.tmp 195) rfl w21.heap.size w21.heap.size rfl (Nat.le_refl _) NEW0.out (by simp) w.heap.size (some Xh) Q yh ds rfl HD.out (HRH.out _ B23.out) (by rw [HD.out]; omega) ?_); intro D d w22 oo6 bb; have qa := Lib.hid (K.below bb q23.out); have uu := K.cell qa.out 13 _ rfl; have yy := frozen_of_row _ _ 13 _ _ qa.out)
  have LDX := Lib.hid (fun k hk => (oo6.lt k hk).1)
  have oo7 := own_base oo6 (show w3.heap.size + 1 ≤ w21.heap.size from lc)
  clear NEW0 uu yy qa oo6
  have OW_ := Lib.hid oo7
  clear oo7
  have p24 := Lib.hid (K.below bb p23.out)
  have r24 := Lib.hid (K.below bb r23.out)
  have z24 := Lib.hid (K.below bb z23.out)
  have q24 := Lib.hid (K.below bb q23.out)
  have B24 := Lib.hid (bthen B23.out bb)
  have O24 := Lib.hid (own_below O23.out bb)
  clear bb p23 r23 z23 B23 q23 O23
  have D24 := OW_
  clear OW_
  have q25 : Hid ((w22.setCell ⟨w3.heap.size, 13, none⟩ (.slice D Q d)).heap[w3.heap.size]? = some (.cells #[.int .i64 1, .int .i64 (sport : Int), .int .i64 (dport : Int), .int .i64 (seq : Int), .int .i64 (ack : Int), .int .i64 ((mx : Int) % 4096), .int .i64 (window : Int), .int .i64 (urgent : Int), .int .i64 0, .int .i64 0, .int .i64 0, .bool false, .slice O P o, .slice D Q d] 36 (0, 0))) := Lib.hid (K.set q24.out 13 _)
  have p25 := Lib.hid (K.other p24.out w3.heap.size 13 (.slice D Q d) (by omega))
  have r25 := Lib.hid (K.other r24.out w3.heap.size 13 (.slice D Q d) (by omega))
  have z25 := Lib.hid (K.other z24.out w3.heap.size 13 (.slice D Q d) (by omega))
  have B25 : Hid (Below w.heap.size w (w22.setCell ⟨w3.heap.size, 13, none⟩ (.slice D Q d))) := Lib.hid (B24.out.setCell (p := ⟨w3.heap.size, 13, none⟩) (show w.heap.size ≤ w3.heap.size by omega) (.slice D Q d))
  have O25 := Lib.hid (own_set O24.out w3.heap.size 13 (.slice D Q d) (by omega))
  have D25 := Lib.hid (own_set D24.out w3.heap.size 13 (.slice D Q d) (by omega))
  clear lc p24 r24 z24 B24 q24 O24 D24
  generalize (w22.setCell ⟨w3.heap.size, 13, none⟩ (.slice D Q d)) = w23 at p25 r25 z25 B25 q25 O25 D25 ⊢
  clear hh
  go_wp2_with (first | (with_reducible refine loadU rfl _ rfl w3.heap.size rfl q25.out ?_) | (with_reducible refine loadA rfl _ rfl w.heap.size rfl p25.out ?_) | (with_reducible refine loadA rfl _ rfl (w.heap.size + 1) rfl r25.out ?_))
  refine Calls.mono (usS (Uh.mk 1 sport dport seq ack ((mx : Int) % 4096) window urgent 0 0 0 false) s t O D P o Q d os ds _ (RB.of_own O25.out) HO.out (RB.of_own D25.out) HD.out (by omega) (by omega)) ?_
  rintro e wz ⟨rfl, bz⟩
  rw [HS.out]
  have p26 := Lib.hid (K.below bz p25.out)
  have r26 := Lib.hid (K.below bz r25.out)
  have z26 := Lib.hid (K.below bz z25.out)
  have q26 := Lib.hid (K.below bz q25.out)
  have B26 := Lib.hid (bthen B25.out bz)
  have O26 := Lib.hid (own_below O25.out bz)
  have D26 := Lib.hid (own_below D25.out bz)
  clear bz p25 r25 z25 B25 q25 O25 D25
  by_cases hS : (sm : Int) = S
  · have HFG := Lib.hid (HF.out.1 hS)
    have hX : ((sm : Int) != S) = false := by simp [hS]
    go_wp2_with (first | (with_reducible refine loadU rfl _ rfl w3.heap.size rfl q26.out ?_) | (with_reducible refine storeU rfl _ _ rfl (w.heap.size + 1 + 1) rfl rfl z26.out ?_))
    (try simp only [Exit.inBlock, Exit.then])
    have hsz : w.heap.size + 1 + 1 < w3.heap.size + 1 := by omega
    refine bodyPost_ret (v := .tuple #[.agg #[.int .i64 1, .int .i64 (sport : Int), .int .i64 (dport : Int), .int .i64 (seq : Int), .int .i64 (ack : Int), .int .i64 ((mx : Int) % 4096), .int .i64 (window : Int), .int .i64 (urgent : Int), .int .i64 0, .int .i64 0, .int .i64 0, .bool false, .slice O P o, .slice D Q d], .int .i64 0]) ?_ rfl (uread_yes (x := (Uh.mk 1 sport dport seq ack ((mx : Int) % 4096) window urgent 0 0 0 false)) HFG.out HX.out.1 HX.out.2.1 HX.out.2.2 HO.out HD.out (own_base (K.setRow_own _ O26.out hsz) (by omega)) (own_base (K.setRow_own _ D26.out hsz) (by omega)) (fun k h1 h2 => by have := LOX.out k h1; have := LDX.out k h2; omega) (K.setRow_below B26.out (by omega) _))
    exact K.resCellTmp Try.results15 _ _ _ (w.heap.size + 1 + 1) _ rfl (run_loadVar_row _ _ 36 36 _ (0, 0) _ (setRow_heap _ _ _ _ _ _ z26.out) Try.underlying36 rfl info_up)
  · have HFB := Lib.hid (HF.out.2 hS)
    have hX : ((sm : Int) != S) = true := by simpa using hS
    go_wp2_with (first | (with_reducible refine storeU rfl _ _ rfl (w.heap.size + 1 + 1) rfl rfl z26.out ?_))
    (try simp only [Exit.inBlock, Exit.then])
    refine bodyPost_ret (v := .tuple #[.agg #[.int .i64 0, .int .i64 0, .int .i64 0, .int .i64 0, .int .i64 0, .int .i64 0, .int .i64 0, .int .i64 0, .int .i64 0, .int .i64 0, .int .i64 0, .bool false, .slice none 0 0, .slice none 0 0], .int .i64 6]) ?_ rfl (uread_no HFB.out (by omega) (K.setRow_below B26.out (by omega) _))
    exact K.resCellTmp Try.results15 _ _ _ (w.heap.size + 1 + 1) _ rfl (run_loadVar_row _ _ 36 36 _ (0, 0) _ (setRow_heap _ _ _ _ _ _ z26.out) Try.underlying36 rfl info_up)
end Go.Proofs.Ythogonpjkngpjaa

namespace Go.Proofs.Ythogonpjkngpjaa
set_option maxRecDepth 100000
open Go.RowKit

set_option maxHeartbeats 4000000 in
theorem urS_code2 (w : World) (gg oo n c : Nat) (bs : List UInt8) (p : Int) (s t : Ad) (hr : RB w w.heap.size (some ⟨gg, oo, none⟩) bs) (hl : bs.length = n) (sz : Nat) (e4 : num bs 4 2 = sz) (h8 : 8 ≤ n) (hz : ¬ sz = n) (hn : n ≤ 1500) (hp : pairA s t = true) (hq : upTo p 255 = true) (hs : s.k = 4 ∨ s.k = 6) (hk : kindU p s.k = 2) (hf : uhC bs p s t = 5) : Calls Try.prog 15 #[.slice (some ⟨gg, oo, none⟩) n c, .int .i64 p, .agg #[.int .i64 s.k, .int .i64 s.a, .int .i64 s.b, .int .i64 s.c, .int .i64 s.d], .agg #[.int .i64 t.k, .int .i64 t.a, .int .i64 t.b, .int .i64 t.c, .int .i64 t.d]] w (URead bs p s t w) := by
  have HP := Lib.hid hp
  have HPR := Lib.hid hq
  have HQ := Lib.hid hq
  have HKQ := Lib.hid hk
  have HSK := Lib.hid hs
  have HF := Lib.hid hf
  have R0 := Lib.hid hr
  have HL := Lib.hid hl
  have hI2 : ¬ (n : Int) < 8 := by omega
  have hne : ((sz : Int) != (n : Int)) = true := by simp; omega
  have hne2 : ¬ (sz : Int) = (n : Int) := by omega
  have HE4 := Lib.hid e4
  clear e4
  clear hr hl hf
  have hI : ¬ (1500 : Int) < (n : Int) := by omega
  clear hp hq hk hs
  have p0 : Hid ((((w.alloc (.cells #[.int .i64 s.k, .int .i64 s.a, .int .i64 s.b, .int .i64 s.c, .int .i64 s.d] 27)).alloc (.cells #[.int .i64 t.k, .int .i64 t.a, .int .i64 t.b, .int .i64 t.c, .int .i64 t.d] 27)).alloc (.cells #[.int .i64 0, .int .i64 0, .int .i64 0, .int .i64 0, .int .i64 0, .int .i64 0, .int .i64 0, .int .i64 0, .int .i64 0, .int .i64 0, .int .i64 0, .bool false, .slice none 0 0, .slice none 0 0] 36)).heap[w.heap.size]? = some (.cells #[.int .i64 s.k, .int .i64 s.a, .int .i64 s.b, .int .i64 s.c, .int .i64 s.d] 27)) := Lib.hid (by repeat (first | exact K.newAt (by first | rfl | (simp; done)) | refine K.oldAt (by first | (simp; done) | (simp; omega)) ?_))
  have r0 : Hid ((((w.alloc (.cells #[.int .i64 s.k, .int .i64 s.a, .int .i64 s.b, .int .i64 s.c, .int .i64 s.d] 27)).alloc (.cells #[.int .i64 t.k, .int .i64 t.a, .int .i64 t.b, .int .i64 t.c, .int .i64 t.d] 27)).alloc (.cells #[.int .i64 0, .int .i64 0, .int .i64 0, .int .i64 0, .int .i64 0, .int .i64 0, .int .i64 0, .int .i64 0, .int .i64 0, .int .i64 0, .int .i64 0, .bool false, .slice none 0 0, .slice none 0 0] 36)).heap[w.heap.size + 1]? = some (.cells #[.int .i64 t.k, .int .i64 t.a, .int .i64 t.b, .int .i64 t.c, .int .i64 t.d] 27)) := Lib.hid (by repeat (first | exact K.newAt (by first | rfl | (simp; done)) | refine K.oldAt (by first | (simp; done) | (simp; omega)) ?_))
  have z0 : Hid ((((w.alloc (.cells #[.int .i64 s.k, .int .i64 s.a, .int .i64 s.b, .int .i64 s.c, .int .i64 s.d] 27)).alloc (.cells #[.int .i64 t.k, .int .i64 t.a, .int .i64 t.b, .int .i64 t.c, .int .i64 t.d] 27)).alloc (.cells #[.int .i64 0, .int .i64 0, .int .i64 0, .int .i64 0, .int .i64 0, .int .i64 0, .int .i64 0, .int .i64 0, .int .i64 0, .int .i64 0, .int .i64 0, .bool false, .slice none 0 0, .slice none 0 0] 36)).heap[w.heap.size + 1 + 1]? = some (.cells #[.int .i64 0, .int .i64 0, .int .i64 0, .int .i64 0, .int .i64 0, .int .i64 0, .int .i64 0, .int .i64 0, .int .i64 0, .int .i64 0, .int .i64 0, .bool false, .slice none 0 0, .slice none 0 0] 36)) := Lib.hid (by repeat (first | exact K.newAt (by first | rfl | (simp; done)) | refine K.oldAt (by first | (simp; done) | (simp; omega)) ?_))
  have B0 : Hid (Below w.heap.size w (((w.alloc (.cells #[.int .i64 s.k, .int .i64 s.a, .int .i64 s.b, .int .i64 s.c, .int .i64 s.d] 27)).alloc (.cells #[.int .i64 t.k, .int .i64 t.a, .int .i64 t.b, .int .i64 t.c, .int .i64 t.d] 27)).alloc (.cells #[.int .i64 0, .int .i64 0, .int .i64 0, .int .i64 0, .int .i64 0, .int .i64 0, .int .i64 0, .int .i64 0, .int .i64 0, .int .i64 0, .int .i64 0, .bool false, .slice none 0 0, .slice none 0 0] 36))) := Lib.hid (by go_grown)
  go_enter Try.func15, Try.ntmps15
  go_wp2_with (first | (with_reducible refine loadA rfl _ rfl w.heap.size rfl p0.out ?_) | (with_reducible refine loadA rfl _ rfl (w.heap.size + 1) rfl r0.out ?_))
  refine Calls.mono (pairSB s t true HP.out _) ?_
  rintro e w1 ⟨rfl, b1⟩
  have p1 := Lib.hid (K.below b1 p0.out)
  have r1 := Lib.hid (K.below b1 r0.out)
  have z1 := Lib.hid (K.below b1 z0.out)
  have B1 := Lib.hid (bthen B0.out b1)
  clear b1 p0 r0 z0 B0
  go_wp2_with fail
  refine Calls.mono (inSB p 255 true _ HQ.out) ?_
  rintro e w2 ⟨rfl, b2⟩
  have p2 := Lib.hid (K.below b2 p1.out)
  have r2 := Lib.hid (K.below b2 r1.out)
  have z2 := Lib.hid (K.below b2 z1.out)
  have B2 := Lib.hid (bthen B1.out b2)
  clear b2 p1 r1 z1 B1
  have d0 := K.cell p2.out 0 _ rfl
  go_wp2_with fail
  clear d0
  refine Calls.mono (kind_spec p s.k 2 _ HPR.out HSK.out HKQ.out) ?_
  rintro e w3 ⟨rfl, b3⟩
  have p3 := Lib.hid (K.below b3 p2.out)
  have r3 := Lib.hid (K.below b3 r2.out)
  have z3 := Lib.hid (K.below b3 z2.out)
  have B3 := Lib.hid (bthen B2.out b3)
  clear b3 p2 r2 z2 B2
  have lw3 : w.heap.size + 1 + 1 < w3.heap.size := K.lt z3.out
  have p4 := Lib.hid (K.old p3.out (.cells #[.int .i64 2, .int .i64 0, .int .i64 0, .int .i64 0, .int .i64 0, .int .i64 0, .int .i64 0, .int .i64 0, .int .i64 0, .int .i64 0, .int .i64 0, .bool false, .slice none 0 0, .slice none 0 0] 36))
  have r4 := Lib.hid (K.old r3.out (.cells #[.int .i64 2, .int .i64 0, .int .i64 0, .int .i64 0, .int .i64 0, .int .i64 0, .int .i64 0, .int .i64 0, .int .i64 0, .int .i64 0, .int .i64 0, .bool false, .slice none 0 0, .slice none 0 0] 36))
  have z4 := Lib.hid (K.old z3.out (.cells #[.int .i64 2, .int .i64 0, .int .i64 0, .int .i64 0, .int .i64 0, .int .i64 0, .int .i64 0, .int .i64 0, .int .i64 0, .int .i64 0, .int .i64 0, .bool false, .slice none 0 0, .slice none 0 0] 36))
  have q4 := Lib.hid (K.new w3 (.cells #[.int .i64 2, .int .i64 0, .int .i64 0, .int .i64 0, .int .i64 0, .int .i64 0, .int .i64 0, .int .i64 0, .int .i64 0, .int .i64 0, .int .i64 0, .bool false, .slice none 0 0, .slice none 0 0] 36))
  have B4 := Lib.hid (bthen B3.out (Joins.below_alloc1 w3 (.cells #[.int .i64 2, .int .i64 0, .int .i64 0, .int .i64 0, .int .i64 0, .int .i64 0, .int .i64 0, .int .i64 0, .int .i64 0, .int .i64 0, .int .i64 0, .bool false, .slice none 0 0, .slice none 0 0] 36)))
  clear p3 r3 z3 B3
  have dk := K.cell q4.out 0 _ rfl
  go_wp2_with (with_reducible refine storeNewU rfl _ _ rfl rfl rfl ?_)
  clear dk
  generalize (w3.alloc (.cells #[.int .i64 2, .int .i64 0, .int .i64 0, .int .i64 0, .int .i64 0, .int .i64 0, .int .i64 0, .int .i64 0, .int .i64 0, .int .i64 0, .int .i64 0, .bool false, .slice none 0 0, .slice none 0 0] 36)) = w4 at p4 r4 z4 B4 q4 ⊢
  refine Calls.mono (be16U (some ⟨gg, oo, none⟩) n c bs 4 sz _ ((R0.out.below B4.out).more B4.out.size) HL.out (by omega) (by omega) HE4.out) ?_
  rintro e w5 ⟨rfl, bb⟩
  have p5 := Lib.hid (K.below bb p4.out)
  have r5 := Lib.hid (K.below bb r4.out)
  have z5 := Lib.hid (K.below bb z4.out)
  have q5 := Lib.hid (K.below bb q4.out)
  have B5 := Lib.hid (bthen B4.out bb)
  clear bb p4 r4 z4 B4 q4
  go_wp2_with (first | (with_reducible refine storeU rfl _ _ rfl (w.heap.size + 1 + 1) rfl rfl z5.out ?_))
  (try simp only [Exit.inBlock, Exit.then])
  refine bodyPost_ret (v := .tuple #[.agg #[.int .i64 0, .int .i64 0, .int .i64 0, .int .i64 0, .int .i64 0, .int .i64 0, .int .i64 0, .int .i64 0, .int .i64 0, .int .i64 0, .int .i64 0, .bool false, .slice none 0 0, .slice none 0 0], .int .i64 5]) ?_ rfl (uread_no HF.out (by omega) (K.setRow_below B5.out (by omega) _))
  exact K.resCellTmp Try.results15 _ _ _ (w.heap.size + 1 + 1) _ rfl (run_loadVar_row _ _ 36 36 _ (0, 0) _ (setRow_heap _ _ _ _ _ _ z5.out) Try.underlying36 rfl info_up)

set_option maxHeartbeats 4000000 in
theorem urS_2a (w : World) (gg oo n c : Nat) (bs : List UInt8) (p : Int) (s t : Ad) (hr : RB w w.heap.size (some ⟨gg, oo, none⟩) bs) (hl : bs.length = n) (hc : n ≤ c) (sport dport sm Q : Nat) (S : Int) (ds : List UInt8) (e0 : num bs 0 2 = sport) (e2 : num bs 2 2 = dport) (e4 : num bs 4 2 = n) (e6 : num bs 6 2 = sm) (hQ : 8 + Q = n) (hds : bs.drop 8 = ds) (h0 : sm = 0) (h4 : s.k = 4) (hn : n ≤ 1500) (hp : pairA s t = true) (hq : upTo p 255 = true) (hs : s.k = 4 ∨ s.k = 6) (hk : kindU p s.k = 2) (hd : ds.length = Q) (hsum : (Uh.mk 2 sport dport 0 0 0 0 0 0 0 0 true).sum [] ds s t = S) (hf0 : (sm : Int) = S → uhC bs p s t = 0) (hf6 : ¬ (sm : Int) = S → uhC bs p s t = 6) (hx1 : uhX bs (kindU p s.k) s.k = (Uh.mk 2 sport dport 0 0 0 0 0 0 0 0 true)) (hx2 : uhO bs (kindU p s.k) = []) (hx3 : uhB bs (kindU p s.k) = ds) : Calls Try.prog 15 #[.slice (some ⟨gg, oo, none⟩) n c, .int .i64 p, .agg #[.int .i64 s.k, .int .i64 s.a, .int .i64 s.b, .int .i64 s.c, .int .i64 s.d], .agg #[.int .i64 t.k, .int .i64 t.a, .int .i64 t.b, .int .i64 t.c, .int .i64 t.d]] w (URead bs p s t w) := by
  have HP := Lib.hid hp
  have HPR := Lib.hid hq
  have HQ := Lib.hid hq
  have HKQ := Lib.hid hk
  have HSK := Lib.hid hs
  have HF := Lib.hid (And.intro hf0 hf6)
  have HS := Lib.hid hsum
  have HO := Lib.hid (show ([] : List UInt8).length = 0 from rfl)
  have HD := Lib.hid hd
  have R0 := Lib.hid hr
  have HL := Lib.hid hl
  have HX := Lib.hid (And.intro hx1 (And.intro hx2 hx3))
  clear hx1 hx2 hx3
  have hI2 : ¬ (n : Int) < 8 := by omega
  have hne : ((n : Int) != (n : Int)) = false := by simp
  have hne2 : (n : Int) = (n : Int) := rfl
  obtain ⟨Xh, yh, hh, hXh⟩ := cut_atU ⟨gg, oo, none⟩ n c 8 Q (by omega)
  have HH := Lib.hid (show ∀ w, (Instr.sliceAt 34 (.slice (some ⟨gg, oo, none⟩) n c) (some (.int .i64 8)) none none).run Try.prog w = .ok (.slice (some Xh) Q yh) w from hh)
  have HRH := Lib.hid (fun (v : World) (hb : Below w.heap.size w v) => show RB v w.heap.size (some Xh) ds from hds ▸ hXh (hr.below hb) hl hc)
  have g0 : ((sm : Int) == 0) = true := by simp; omega
  have g4 : (s.k == 4) = true := by simp; omega
  clear h4
  clear h0
  have HE0 := Lib.hid e0
  have HE2 := Lib.hid e2
  have HE4 := Lib.hid e4
  have HE6 := Lib.hid e6
  clear e0 e2 e4 e6
  clear hh hXh hr hl hf0 hf6 hsum hd hds
  have hI : ¬ (1500 : Int) < (n : Int) := by omega
  clear hp hq hk hs
  have p0 : Hid ((((w.alloc (.cells #[.int .i64 s.k, .int .i64 s.a, .int .i64 s.b, .int .i64 s.c, .int .i64 s.d] 27)).alloc (.cells #[.int .i64 t.k, .int .i64 t.a, .int .i64 t.b, .int .i64 t.c, .int .i64 t.d] 27)).alloc (.cells #[.int .i64 0, .int .i64 0, .int .i64 0, .int .i64 0, .int .i64 0, .int .i64 0, .int .i64 0, .int .i64 0, .int .i64 0, .int .i64 0, .int .i64 0, .bool false, .slice none 0 0, .slice none 0 0] 36)).heap[w.heap.size]? = some (.cells #[.int .i64 s.k, .int .i64 s.a, .int .i64 s.b, .int .i64 s.c, .int .i64 s.d] 27)) := Lib.hid (by repeat (first | exact K.newAt (by first | rfl | (simp; done)) | refine K.oldAt (by first | (simp; done) | (simp; omega)) ?_))
  have r0 : Hid ((((w.alloc (.cells #[.int .i64 s.k, .int .i64 s.a, .int .i64 s.b, .int .i64 s.c, .int .i64 s.d] 27)).alloc (.cells #[.int .i64 t.k, .int .i64 t.a, .int .i64 t.b, .int .i64 t.c, .int .i64 t.d] 27)).alloc (.cells #[.int .i64 0, .int .i64 0, .int .i64 0, .int .i64 0, .int .i64 0, .int .i64 0, .int .i64 0, .int .i64 0, .int .i64 0, .int .i64 0, .int .i64 0, .bool false, .slice none 0 0, .slice none 0 0] 36)).heap[w.heap.size + 1]? = some (.cells #[.int .i64 t.k, .int .i64 t.a, .int .i64 t.b, .int .i64 t.c, .int .i64 t.d] 27)) := Lib.hid (by repeat (first | exact K.newAt (by first | rfl | (simp; done)) | refine K.oldAt (by first | (simp; done) | (simp; omega)) ?_))
  have z0 : Hid ((((w.alloc (.cells #[.int .i64 s.k, .int .i64 s.a, .int .i64 s.b, .int .i64 s.c, .int .i64 s.d] 27)).alloc (.cells #[.int .i64 t.k, .int .i64 t.a, .int .i64 t.b, .int .i64 t.c, .int .i64 t.d] 27)).alloc (.cells #[.int .i64 0, .int .i64 0, .int .i64 0, .int .i64 0, .int .i64 0, .int .i64 0, .int .i64 0, .int .i64 0, .int .i64 0, .int .i64 0, .int .i64 0, .bool false, .slice none 0 0, .slice none 0 0] 36)).heap[w.heap.size + 1 + 1]? = some (.cells #[.int .i64 0, .int .i64 0, .int .i64 0, .int .i64 0, .int .i64 0, .int .i64 0, .int .i64 0, .int .i64 0, .int .i64 0, .int .i64 0, .int .i64 0, .bool false, .slice none 0 0, .slice none 0 0] 36)) := Lib.hid (by repeat (first | exact K.newAt (by first | rfl | (simp; done)) | refine K.oldAt (by first | (simp; done) | (simp; omega)) ?_))
  have B0 : Hid (Below w.heap.size w (((w.alloc (.cells #[.int .i64 s.k, .int .i64 s.a, .int .i64 s.b, .int .i64 s.c, .int .i64 s.d] 27)).alloc (.cells #[.int .i64 t.k, .int .i64 t.a, .int .i64 t.b, .int .i64 t.c, .int .i64 t.d] 27)).alloc (.cells #[.int .i64 0, .int .i64 0, .int .i64 0, .int .i64 0, .int .i64 0, .int .i64 0, .int .i64 0, .int .i64 0, .int .i64 0, .int .i64 0, .int .i64 0, .bool false, .slice none 0 0, .slice none 0 0] 36))) := Lib.hid (by go_grown)
  go_enter Try.func15, Try.ntmps15
  go_wp2_with (first | (with_reducible refine loadA rfl _ rfl w.heap.size rfl p0.out ?_) | (with_reducible refine loadA rfl _ rfl (w.heap.size + 1) rfl r0.out ?_))
  refine Calls.mono (pairSB s t true HP.out _) ?_
  rintro e w1 ⟨rfl, b1⟩
  have p1 := Lib.hid (K.below b1 p0.out)
  have r1 := Lib.hid (K.below b1 r0.out)
  have z1 := Lib.hid (K.below b1 z0.out)
  have B1 := Lib.hid (bthen B0.out b1)
  clear b1 p0 r0 z0 B0
  go_wp2_with fail
  refine Calls.mono (inSB p 255 true _ HQ.out) ?_
  rintro e w2 ⟨rfl, b2⟩
  have p2 := Lib.hid (K.below b2 p1.out)
  have r2 := Lib.hid (K.below b2 r1.out)
  have z2 := Lib.hid (K.below b2 z1.out)
  have B2 := Lib.hid (bthen B1.out b2)
  clear b2 p1 r1 z1 B1
  have d0 := K.cell p2.out 0 _ rfl
  go_wp2_with fail
  clear d0
  refine Calls.mono (kind_spec p s.k 2 _ HPR.out HSK.out HKQ.out) ?_
  rintro e w3 ⟨rfl, b3⟩
  have p3 := Lib.hid (K.below b3 p2.out)
  have r3 := Lib.hid (K.below b3 r2.out)
  have z3 := Lib.hid (K.below b3 z2.out)
  have B3 := Lib.hid (bthen B2.out b3)
  clear b3 p2 r2 z2 B2
  have lw3 : w.heap.size + 1 + 1 < w3.heap.size := K.lt z3.out
  have p4 := Lib.hid (K.old p3.out (.cells #[.int .i64 2, .int .i64 0, .int .i64 0, .int .i64 0, .int .i64 0, .int .i64 0, .int .i64 0, .int .i64 0, .int .i64 0, .int .i64 0, .int .i64 0, .bool false, .slice none 0 0, .slice none 0 0] 36))
  have r4 := Lib.hid (K.old r3.out (.cells #[.int .i64 2, .int .i64 0, .int .i64 0, .int .i64 0, .int .i64 0, .int .i64 0, .int .i64 0, .int .i64 0, .int .i64 0, .int .i64 0, .int .i64 0, .bool false, .slice none 0 0, .slice none 0 0] 36))
  have z4 := Lib.hid (K.old z3.out (.cells #[.int .i64 2, .int .i64 0, .int .i64 0, .int .i64 0, .int .i64 0, .int .i64 0, .int .i64 0, .int .i64 0, .int .i64 0, .int .i64 0, .int .i64 0, .bool false, .slice none 0 0, .slice none 0 0] 36))
  have q4 := Lib.hid (K.new w3 (.cells #[.int .i64 2, .int .i64 0, .int .i64 0, .int .i64 0, .int .i64 0, .int .i64 0, .int .i64 0, .int .i64 0, .int .i64 0, .int .i64 0, .int .i64 0, .bool false, .slice none 0 0, .slice none 0 0] 36))
  have B4 := Lib.hid (bthen B3.out (Joins.below_alloc1 w3 (.cells #[.int .i64 2, .int .i64 0, .int .i64 0, .int .i64 0, .int .i64 0, .int .i64 0, .int .i64 0, .int .i64 0, .int .i64 0, .int .i64 0, .int .i64 0, .bool false, .slice none 0 0, .slice none 0 0] 36)))
  clear p3 r3 z3 B3
  have dk := K.cell q4.out 0 _ rfl
  go_wp2_with (with_reducible refine storeNewU rfl _ _ rfl rfl rfl ?_)
  clear dk
  generalize (w3.alloc (.cells #[.int .i64 2, .int .i64 0, .int .i64 0, .int .i64 0, .int .i64 0, .int .i64 0, .int .i64 0, .int .i64 0, .int .i64 0, .int .i64 0, .int .i64 0, .bool false, .slice none 0 0, .slice none 0 0] 36)) = w4 at p4 r4 z4 B4 q4 ⊢
  refine Calls.mono (be16U (some ⟨gg, oo, none⟩) n c bs 4 n _ ((R0.out.below B4.out).more B4.out.size) HL.out (by omega) (by omega) HE4.out) ?_
  rintro e w5 ⟨rfl, bb⟩
  have p5 := Lib.hid (K.below bb p4.out)
  have r5 := Lib.hid (K.below bb r4.out)
  have z5 := Lib.hid (K.below bb z4.out)
  have q5 := Lib.hid (K.below bb q4.out)
  have B5 := Lib.hid (bthen B4.out bb)
  clear bb p4 r4 z4 B4 q4
  go_wp2_with fail
  refine Calls.mono (be16U (some ⟨gg, oo, none⟩) n c bs 0 sport _ ((R0.out.below B5.out).more B5.out.size) HL.out (by omega) (by omega) HE0.out) ?_
  rintro e w6 ⟨rfl, bb⟩
  have p6 := Lib.hid (K.below bb p5.out)
  have r6 := Lib.hid (K.below bb r5.out)
  have z6 := Lib.hid (K.below bb z5.out)
  have q6 := Lib.hid (K.below bb q5.out)
  have B6 := Lib.hid (bthen B5.out bb)
  clear bb p5 r5 z5 B5 q5
  have uu := K.cell q6.out 1 _ rfl
  have yy := frozen_of_row _ _ 1 _ _ q6.out
  have q7 : Hid ((w6.setCell ⟨w3.heap.size, 1, none⟩ (.int .i64 (sport : Int))).heap[w3.heap.size]? = some (.cells #[.int .i64 2, .int .i64 (sport : Int), .int .i64 0, .int .i64 0, .int .i64 0, .int .i64 0, .int .i64 0, .int .i64 0, .int .i64 0, .int .i64 0, .int .i64 0, .bool false, .slice none 0 0, .slice none 0 0] 36 (0, 0))) := Lib.hid (K.set q6.out 1 _)
  have p7 := Lib.hid (K.other p6.out w3.heap.size 1 (.int .i64 (sport : Int)) (by omega))
  have r7 := Lib.hid (K.other r6.out w3.heap.size 1 (.int .i64 (sport : Int)) (by omega))
  have z7 := Lib.hid (K.other z6.out w3.heap.size 1 (.int .i64 (sport : Int)) (by omega))
  have B7 : Hid (Below w.heap.size w (w6.setCell ⟨w3.heap.size, 1, none⟩ (.int .i64 (sport : Int)))) := Lib.hid (B6.out.setCell (p := ⟨w3.heap.size, 1, none⟩) (show w.heap.size ≤ w3.heap.size by omega) (.int .i64 (sport : Int)))
  go_upto_region 33 with fail
  clear uu yy p6 r6 z6 B6 q6
  generalize (w6.setCell ⟨w3.heap.size, 1, none⟩ (.int .i64 (sport : Int))) = w7 at p7 r7 z7 B7 q7 ⊢
  go_wp2_with fail
  refine Calls.mono (be16U (some ⟨gg, oo, none⟩) n c bs 2 dport _ ((R0.out.below B7.out).more B7.out.size) HL.out (by omega) (by omega) HE2.out) ?_
  rintro e w8 ⟨rfl, bb⟩
  have p8 := Lib.hid (K.below bb p7.out)
  have r8 := Lib.hid (K.below bb r7.out)
  have z8 := Lib.hid (K.below bb z7.out)
  have q8 := Lib.hid (K.below bb q7.out)
  have B8 := Lib.hid (bthen B7.out bb)
  clear bb p7 r7 z7 B7 q7
  have uu := K.cell q8.out 2 _ rfl
  have yy := frozen_of_row _ _ 2 _ _ q8.out
  have q9 : Hid ((w8.setCell ⟨w3.heap.size, 2, none⟩ (.int .i64 (dport : Int))).heap[w3.heap.size]? = some (.cells #[.int .i64 2, .int .i64 (sport : Int), .int .i64 (dport : Int), .int .i64 0, .int .i64 0, .int .i64 0, .int .i64 0, .int .i64 0, .int .i64 0, .int .i64 0, .int .i64 0, .bool false, .slice none 0 0, .slice none 0 0] 36 (0, 0))) := Lib.hid (K.set q8.out 2 _)
  have p9 := Lib.hid (K.other p8.out w3.heap.size 2 (.int .i64 (dport : Int)) (by omega))
  have r9 := Lib.hid (K.other r8.out w3.heap.size 2 (.int .i64 (dport : Int)) (by omega))
  have z9 := Lib.hid (K.other z8.out w3.heap.size 2 (.int .i64 (dport : Int)) (by omega))
  have B9 : Hid (Below w.heap.size w (w8.setCell ⟨w3.heap.size, 2, none⟩ (.int .i64 (dport : Int)))) := Lib.hid (B8.out.setCell (p := ⟨w3.heap.size, 2, none⟩) (show w.heap.size ≤ w3.heap.size by omega) (.int .i64 (dport : Int)))
  go_upto_region 34 with fail
  clear uu yy p8 r8 z8 B8 q8
  generalize (w8.setCell ⟨w3.heap.size, 2, none⟩ (.int .i64 (dport : Int))) = w9 at p9 r9 z9 B9 q9 ⊢
  go_wp2_with fail
  refine Calls.mono (be16U (some ⟨gg, oo, none⟩) n c bs 6 sm _ ((R0.out.below B9.out).more B9.out.size) HL.out (by omega) (by omega) HE6.out) ?_
  rintro e w10 ⟨rfl, bb⟩
  have p10 := Lib.hid (K.below bb p9.out)
  have r10 := Lib.hid (K.below bb r9.out)
  have z10 := Lib.hid (K.below bb z9.out)
  have q10 := Lib.hid (K.below bb q9.out)
  have B10 := Lib.hid (bthen B9.out bb)
  clear bb p9 r9 z9 B9 q9
  have d4 := K.cell p10.out 0 _ rfl
  have uu := K.cell q10.out 11 _ rfl
  have yy := frozen_of_row _ _ 11 _ _ q10.out
  have q11 : Hid ((w10.setCell ⟨w3.heap.size, 11, none⟩ (.bool true)).heap[w3.heap.size]? = some (.cells #[.int .i64 2, .int .i64 (sport : Int), .int .i64 (dport : Int), .int .i64 0, .int .i64 0, .int .i64 0, .int .i64 0, .int .i64 0, .int .i64 0, .int .i64 0, .int .i64 0, .bool true, .slice none 0 0, .slice none 0 0] 36 (0, 0))) := Lib.hid (K.set q10.out 11 _)
  have p11 := Lib.hid (K.other p10.out w3.heap.size 11 (.bool true) (by omega))
  have r11 := Lib.hid (K.other r10.out w3.heap.size 11 (.bool true) (by omega))
  have z11 := Lib.hid (K.other z10.out w3.heap.size 11 (.bool true) (by omega))
  have B11 : Hid (Below w.heap.size w (w10.setCell ⟨w3.heap.size, 11, none⟩ (.bool true))) := Lib.hid (B10.out.setCell (p := ⟨w3.heap.size, 11, none⟩) (show w.heap.size ≤ w3.heap.size by omega) (.bool true))
  go_upto_region 41 with fail
  clear uu yy d4 p10 r10 z10 B10 q10
  generalize (w10.setCell ⟨w3.heap.size, 11, none⟩ (.bool true)) = w11 at p11 r11 z11 B11 q11 ⊢
  have hh := HH.out
  have NEW0 : Hid ((w11.alloc (.cells #[] 5)).heap[w11.heap.size]? = some (.cells #[] 5 (0, 0))) := Lib.hid (K.new w11 _)
  have lc : w3.heap.size < w11.heap.size := K.lt q11.out
  have p12 := Lib.hid (K.old p11.out (.cells #[] 5))
  have r12 := Lib.hid (K.old r11.out (.cells #[] 5))
  have z12 := Lib.hid (K.old z11.out (.cells #[] 5))
  have q12 := Lib.hid (K.old q11.out (.cells #[] 5))
  have B12 := Lib.hid (bthen B11.out (Joins.below_alloc1 w11 (.cells #[] 5)))
  clear p11 r11 z11 B11 q11
  go_upto_region 42 with (at_builtin; (refine wpList_append_new rfl (.tmp 192) (.tmp 195) rfl w11.heap.size w11.heap.size rfl (Nat.le_refl _) NEW0.out (by simp) w.heap.size (some Xh) Q yh ds rfl HD.out (HRH.out _ B12.out) (by rw [HD.out]; omega) ?_); intro D d w12 oo6 bb; have qa := Lib.hid (K.below bb q12.out); have uu := K.cell qa.out 13 _ rfl; have yy := frozen_of_row _ _ 13 _ _ qa.out)
  have oo7 := own_base oo6 (show w3.heap.size + 1 ≤ w11.heap.size from lc)
  clear NEW0 uu yy qa oo6
  have OW_ := Lib.hid oo7
  clear oo7
  have p13 := Lib.hid (K.below bb p12.out)
  have r13 := Lib.hid (K.below bb r12.out)
  have z13 := Lib.hid (K.below bb z12.out)
  have q13 := Lib.hid (K.below bb q12.out)
  have B13 := Lib.hid (bthen B12.out bb)
  clear bb p12 r12 z12 B12 q12
  have D13 := OW_
  clear OW_
  have q14 : Hid ((w12.setCell ⟨w3.heap.size, 13, none⟩ (.slice D Q d)).heap[w3.heap.size]? = some (.cells #[.int .i64 2, .int .i64 (sport : Int), .int .i64 (dport : Int), .int .i64 0, .int .i64 0, .int .i64 0, .int .i64 0, .int .i64 0, .int .i64 0, .int .i64 0, .int .i64 0, .bool true, .slice none 0 0, .slice D Q d] 36 (0, 0))) := Lib.hid (K.set q13.out 13 _)
  have p14 := Lib.hid (K.other p13.out w3.heap.size 13 (.slice D Q d) (by omega))
  have r14 := Lib.hid (K.other r13.out w3.heap.size 13 (.slice D Q d) (by omega))
  have z14 := Lib.hid (K.other z13.out w3.heap.size 13 (.slice D Q d) (by omega))
  have B14 : Hid (Below w.heap.size w (w12.setCell ⟨w3.heap.size, 13, none⟩ (.slice D Q d))) := Lib.hid (B13.out.setCell (p := ⟨w3.heap.size, 13, none⟩) (show w.heap.size ≤ w3.heap.size by omega) (.slice D Q d))
  have D14 := Lib.hid (own_set D13.out w3.heap.size 13 (.slice D Q d) (by omega))
  clear lc p13 r13 z13 B13 q13 D13
  generalize (w12.setCell ⟨w3.heap.size, 13, none⟩ (.slice D Q d)) = w13 at p14 r14 z14 B14 q14 D14 ⊢
  clear hh
  go_wp2_with (first | (with_reducible refine loadU rfl _ rfl w3.heap.size rfl q14.out ?_) | (with_reducible refine loadA rfl _ rfl w.heap.size rfl p14.out ?_) | (with_reducible refine loadA rfl _ rfl (w.heap.size + 1) rfl r14.out ?_))
  refine Calls.mono (usS (Uh.mk 2 sport dport 0 0 0 0 0 0 0 0 true) s t none D 0 0 Q d [] ds _ (rb_nilU _ _) HO.out (RB.of_own D14.out) HD.out (by omega) (by omega)) ?_
  rintro e wz ⟨rfl, bz⟩
  rw [HS.out]
  have p15 := Lib.hid (K.below bz p14.out)
  have r15 := Lib.hid (K.below bz r14.out)
  have z15 := Lib.hid (K.below bz z14.out)
  have q15 := Lib.hid (K.below bz q14.out)
  have B15 := Lib.hid (bthen B14.out bz)
  have D15 := Lib.hid (own_below D14.out bz)
  clear bz p14 r14 z14 B14 q14 D14
  by_cases hS : (sm : Int) = S
  · have HFG := Lib.hid (HF.out.1 hS)
    have hX : ((sm : Int) != S) = false := by simp [hS]
    go_wp2_with (first | (with_reducible refine loadU rfl _ rfl w3.heap.size rfl q15.out ?_) | (with_reducible refine storeU rfl _ _ rfl (w.heap.size + 1 + 1) rfl rfl z15.out ?_))
    (try simp only [Exit.inBlock, Exit.then])
    have hsz : w.heap.size + 1 + 1 < w3.heap.size + 1 := by omega
    refine bodyPost_ret (v := .tuple #[.agg #[.int .i64 2, .int .i64 (sport : Int), .int .i64 (dport : Int), .int .i64 0, .int .i64 0, .int .i64 0, .int .i64 0, .int .i64 0, .int .i64 0, .int .i64 0, .int .i64 0, .bool true, .slice none 0 0, .slice D Q d], .int .i64 0]) ?_ rfl (uread_yes (x := (Uh.mk 2 sport dport 0 0 0 0 0 0 0 0 true)) (A := none) (c := 0) HFG.out HX.out.1 HX.out.2.1 HX.out.2.2 HO.out HD.out ⟨rfl, .inl ⟨rfl, rfl⟩⟩ (own_base (K.setRow_own _ D15.out hsz) (by omega)) (fun _ h => by cases h) (K.setRow_below B15.out (by omega) _))
    exact K.resCellTmp Try.results15 _ _ _ (w.heap.size + 1 + 1) _ rfl (run_loadVar_row _ _ 36 36 _ (0, 0) _ (setRow_heap _ _ _ _ _ _ z15.out) Try.underlying36 rfl info_up)
  · have HFB := Lib.hid (HF.out.2 hS)
    have hX : ((sm : Int) != S) = true := by simpa using hS
    go_wp2_with (first | (with_reducible refine storeU rfl _ _ rfl (w.heap.size + 1 + 1) rfl rfl z15.out ?_))
    (try simp only [Exit.inBlock, Exit.then])
    refine bodyPost_ret (v := .tuple #[.agg #[.int .i64 0, .int .i64 0, .int .i64 0, .int .i64 0, .int .i64 0, .int .i64 0, .int .i64 0, .int .i64 0, .int .i64 0, .int .i64 0, .int .i64 0, .bool false, .slice none 0 0, .slice none 0 0], .int .i64 6]) ?_ rfl (uread_no HFB.out (by omega) (K.setRow_below B15.out (by omega) _))
    exact K.resCellTmp Try.results15 _ _ _ (w.heap.size + 1 + 1) _ rfl (run_loadVar_row _ _ 36 36 _ (0, 0) _ (setRow_heap _ _ _ _ _ _ z15.out) Try.underlying36 rfl info_up)

set_option maxHeartbeats 4000000 in
theorem urS_2b (w : World) (gg oo n c : Nat) (bs : List UInt8) (p : Int) (s t : Ad) (hr : RB w w.heap.size (some ⟨gg, oo, none⟩) bs) (hl : bs.length = n) (hc : n ≤ c) (sport dport sm Q : Nat) (S : Int) (ds : List UInt8) (e0 : num bs 0 2 = sport) (e2 : num bs 2 2 = dport) (e4 : num bs 4 2 = n) (e6 : num bs 6 2 = sm) (hQ : 8 + Q = n) (hds : bs.drop 8 = ds) (h0 : ¬ sm = 0) (hn : n ≤ 1500) (hp : pairA s t = true) (hq : upTo p 255 = true) (hs : s.k = 4 ∨ s.k = 6) (hk : kindU p s.k = 2) (hd : ds.length = Q) (hsum : (Uh.mk 2 sport dport 0 0 0 0 0 0 0 0 false).sum [] ds s t = S) (hf0 : (sm : Int) = S → uhC bs p s t = 0) (hf6 : ¬ (sm : Int) = S → uhC bs p s t = 6) (hx1 : uhX bs (kindU p s.k) s.k = (Uh.mk 2 sport dport 0 0 0 0 0 0 0 0 false)) (hx2 : uhO bs (kindU p s.k) = []) (hx3 : uhB bs (kindU p s.k) = ds) : Calls Try.prog 15 #[.slice (some ⟨gg, oo, none⟩) n c, .int .i64 p, .agg #[.int .i64 s.k, .int .i64 s.a, .int .i64 s.b, .int .i64 s.c, .int .i64 s.d], .agg #[.int .i64 t.k, .int .i64 t.a, .int .i64 t.b, .int .i64 t.c, .int .i64 t.d]] w (URead bs p s t w) := by
  have HP := Lib.hid hp
  have HPR := Lib.hid hq
  have HQ := Lib.hid hq
  have HKQ := Lib.hid hk
  have HSK := Lib.hid hs
  have HF := Lib.hid (And.intro hf0 hf6)
  have HS := Lib.hid hsum
  have HO := Lib.hid (show ([] : List UInt8).length = 0 from rfl)
  have HD := Lib.hid hd
  have R0 := Lib.hid hr
  have HL := Lib.hid hl
  have HX := Lib.hid (And.intro hx1 (And.intro hx2 hx3))
  clear hx1 hx2 hx3
  have hI2 : ¬ (n : Int) < 8 := by omega
  have hne : ((n : Int) != (n : Int)) = false := by simp
  have hne2 : (n : Int) = (n : Int) := rfl
  obtain ⟨Xh, yh, hh, hXh⟩ := cut_atU ⟨gg, oo, none⟩ n c 8 Q (by omega)
  have HH := Lib.hid (show ∀ w, (Instr.sliceAt 34 (.slice (some ⟨gg, oo, none⟩) n c) (some (.int .i64 8)) none none).run Try.prog w = .ok (.slice (some Xh) Q yh) w from hh)
  have HRH := Lib.hid (fun (v : World) (hb : Below w.heap.size w v) => show RB v w.heap.size (some Xh) ds from hds ▸ hXh (hr.below hb) hl hc)
  have g0 : ((sm : Int) == 0) = false := by simp; omega
  clear h0
  have HE0 := Lib.hid e0
  have HE2 := Lib.hid e2
  have HE4 := Lib.hid e4
  have HE6 := Lib.hid e6
  clear e0 e2 e4 e6
  clear hh hXh hr hl hf0 hf6 hsum hd hds
  have hI : ¬ (1500 : Int) < (n : Int) := by omega
  clear hp hq hk hs
  have p0 : Hid ((((w.alloc (.cells #[.int .i64 s.k, .int .i64 s.a, .int .i64 s.b, .int .i64 s.c, .int .i64 s.d] 27)).alloc (.cells #[.int .i64 t.k, .int .i64 t.a, .int .i64 t.b, .int .i64 t.c, .int .i64 t.d] 27)).alloc (.cells #[.int .i64 0, .int .i64 0, .int .i64 0, .int .i64 0, .int .i64 0, .int .i64 0, .int .i64 0, .int .i64 0, .int .i64 0, .int .i64 0, .int .i64 0, .bool false, .slice none 0 0, .slice none 0 0] 36)).heap[w.heap.size]? = some (.cells #[.int .i64 s.k, .int .i64 s.a, .int .i64 s.b, .int .i64 s.c, .int .i64 s.d] 27)) := Lib.hid (by repeat (first | exact K.newAt (by first | rfl | (simp; done)) | refine K.oldAt (by first | (simp; done) | (simp; omega)) ?_))
  have r0 : Hid ((((w.alloc (.cells #[.int .i64 s.k, .int .i64 s.a, .int .i64 s.b, .int .i64 s.c, .int .i64 s.d] 27)).alloc (.cells #[.int .i64 t.k, .int .i64 t.a, .int .i64 t.b, .int .i64 t.c, .int .i64 t.d] 27)).alloc (.cells #[.int .i64 0, .int .i64 0, .int .i64 0, .int .i64 0, .int .i64 0, .int .i64 0, .int .i64 0, .int .i64 0, .int .i64 0, .int .i64 0, .int .i64 0, .bool false, .slice none 0 0, .slice none 0 0] 36)).heap[w.heap.size + 1]? = some (.cells #[.int .i64 t.k, .int .i64 t.a, .int .i64 t.b, .int .i64 t.c, .int .i64 t.d] 27)) := Lib.hid (by repeat (first | exact K.newAt (by first | rfl | (simp; done)) | refine K.oldAt (by first | (simp; done) | (simp; omega)) ?_))
  have z0 : Hid ((((w.alloc (.cells #[.int .i64 s.k, .int .i64 s.a, .int .i64 s.b, .int .i64 s.c, .int .i64 s.d] 27)).alloc (.cells #[.int .i64 t.k, .int .i64 t.a, .int .i64 t.b, .int .i64 t.c, .int .i64 t.d] 27)).alloc (.cells #[.int .i64 0, .int .i64 0, .int .i64 0, .int .i64 0, .int .i64 0, .int .i64 0, .int .i64 0, .int .i64 0, .int .i64 0, .int .i64 0, .int .i64 0, .bool false, .slice none 0 0, .slice none 0 0] 36)).heap[w.heap.size + 1 + 1]? = some (.cells #[.int .i64 0, .int .i64 0, .int .i64 0, .int .i64 0, .int .i64 0, .int .i64 0, .int .i64 0, .int .i64 0, .int .i64 0, .int .i64 0, .int .i64 0, .bool false, .slice none 0 0, .slice none 0 0] 36)) := Lib.hid (by repeat (first | exact K.newAt (by first | rfl | (simp; done)) | refine K.oldAt (by first | (simp; done) | (simp; omega)) ?_))
  have B0 : Hid (Below w.heap.size w (((w.alloc (.cells #[.int .i64 s.k, .int .i64 s.a, .int .i64 s.b, .int .i64 s.c, .int .i64 s.d] 27)).alloc (.cells #[.int .i64 t.k, .int .i64 t.a, .int .i64 t.b, .int .i64 t.c, .int .i64 t.d] 27)).alloc (.cells #[.int .i64 0, .int .i64 0, .int .i64 0, .int .i64 0, .int .i64 0, .int .i64 0, .int .i64 0, .int .i64 0, .int .i64 0, .int .i64 0, .int .i64 0, .bool false, .slice none 0 0, .slice none 0 0] 36))) := Lib.hid (by go_grown)
  go_enter Try.func15, Try.ntmps15
  go_wp2_with (first | (with_reducible refine loadA rfl _ rfl w.heap.size rfl p0.out ?_) | (with_reducible refine loadA rfl _ rfl (w.heap.size + 1) rfl r0.out ?_))
  refine Calls.mono (pairSB s t true HP.out _) ?_
  rintro e w1 ⟨rfl, b1⟩
  have p1 := Lib.hid (K.below b1 p0.out)
  have r1 := Lib.hid (K.below b1 r0.out)
  have z1 := Lib.hid (K.below b1 z0.out)
  have B1 := Lib.hid (bthen B0.out b1)
  clear b1 p0 r0 z0 B0
  go_wp2_with fail
  refine Calls.mono (inSB p 255 true _ HQ.out) ?_
  rintro e w2 ⟨rfl, b2⟩
  have p2 := Lib.hid (K.below b2 p1.out)
  have r2 := Lib.hid (K.below b2 r1.out)
  have z2 := Lib.hid (K.below b2 z1.out)
  have B2 := Lib.hid (bthen B1.out b2)
  clear b2 p1 r1 z1 B1
  have d0 := K.cell p2.out 0 _ rfl
  go_wp2_with fail
  clear d0
  refine Calls.mono (kind_spec p s.k 2 _ HPR.out HSK.out HKQ.out) ?_
  rintro e w3 ⟨rfl, b3⟩
  have p3 := Lib.hid (K.below b3 p2.out)
  have r3 := Lib.hid (K.below b3 r2.out)
  have z3 := Lib.hid (K.below b3 z2.out)
  have B3 := Lib.hid (bthen B2.out b3)
  clear b3 p2 r2 z2 B2
  have lw3 : w.heap.size + 1 + 1 < w3.heap.size := K.lt z3.out
  have p4 := Lib.hid (K.old p3.out (.cells #[.int .i64 2, .int .i64 0, .int .i64 0, .int .i64 0, .int .i64 0, .int .i64 0, .int .i64 0, .int .i64 0, .int .i64 0, .int .i64 0, .int .i64 0, .bool false, .slice none 0 0, .slice none 0 0] 36))
  have r4 := Lib.hid (K.old r3.out (.cells #[.int .i64 2, .int .i64 0, .int .i64 0, .int .i64 0, .int .i64 0, .int .i64 0, .int .i64 0, .int .i64 0, .int .i64 0, .int .i64 0, .int .i64 0, .bool false, .slice none 0 0, .slice none 0 0] 36))
  have z4 := Lib.hid (K.old z3.out (.cells #[.int .i64 2, .int .i64 0, .int .i64 0, .int .i64 0, .int .i64 0, .int .i64 0, .int .i64 0, .int .i64 0, .int .i64 0, .int .i64 0, .int .i64 0, .bool false, .slice none 0 0, .slice none 0 0] 36))
  have q4 := Lib.hid (K.new w3 (.cells #[.int .i64 2, .int .i64 0, .int .i64 0, .int .i64 0, .int .i64 0, .int .i64 0, .int .i64 0, .int .i64 0, .int .i64 0, .int .i64 0, .int .i64 0, .bool false, .slice none 0 0, .slice none 0 0] 36))
  have B4 := Lib.hid (bthen B3.out (Joins.below_alloc1 w3 (.cells #[.int .i64 2, .int .i64 0, .int .i64 0, .int .i64 0, .int .i64 0, .int .i64 0, .int .i64 0, .int .i64 0, .int .i64 0, .int .i64 0, .int .i64 0, .bool false, .slice none 0 0, .slice none 0 0] 36)))
  clear p3 r3 z3 B3
  have dk := K.cell q4.out 0 _ rfl
  go_wp2_with (with_reducible refine storeNewU rfl _ _ rfl rfl rfl ?_)
  clear dk
  generalize (w3.alloc (.cells #[.int .i64 2, .int .i64 0, .int .i64 0, .int .i64 0, .int .i64 0, .int .i64 0, .int .i64 0, .int .i64 0, .int .i64 0, .int .i64 0, .int .i64 0, .bool false, .slice none 0 0, .slice none 0 0] 36)) = w4 at p4 r4 z4 B4 q4 ⊢
  refine Calls.mono (be16U (some ⟨gg, oo, none⟩) n c bs 4 n _ ((R0.out.below B4.out).more B4.out.size) HL.out (by omega) (by omega) HE4.out) ?_
  rintro e w5 ⟨rfl, bb⟩
  have p5 := Lib.hid (K.below bb p4.out)
  have r5 := Lib.hid (K.below bb r4.out)
  have z5 := Lib.hid (K.below bb z4.out)
  have q5 := Lib.hid (K.below bb q4.out)
  have B5 := Lib.hid (bthen B4.out bb)
  clear bb p4 r4 z4 B4 q4
  go_wp2_with fail
  refine Calls.mono (be16U (some ⟨gg, oo, none⟩) n c bs 0 sport _ ((R0.out.below B5.out).more B5.out.size) HL.out (by omega) (by omega) HE0.out) ?_
  rintro e w6 ⟨rfl, bb⟩
  have p6 := Lib.hid (K.below bb p5.out)
  have r6 := Lib.hid (K.below bb r5.out)
  have z6 := Lib.hid (K.below bb z5.out)
  have q6 := Lib.hid (K.below bb q5.out)
  have B6 := Lib.hid (bthen B5.out bb)
  clear bb p5 r5 z5 B5 q5
  have uu := K.cell q6.out 1 _ rfl
  have yy := frozen_of_row _ _ 1 _ _ q6.out
  have q7 : Hid ((w6.setCell ⟨w3.heap.size, 1, none⟩ (.int .i64 (sport : Int))).heap[w3.heap.size]? = some (.cells #[.int .i64 2, .int .i64 (sport : Int), .int .i64 0, .int .i64 0, .int .i64 0, .int .i64 0, .int .i64 0, .int .i64 0, .int .i64 0, .int .i64 0, .int .i64 0, .bool false, .slice none 0 0, .slice none 0 0] 36 (0, 0))) := Lib.hid (K.set q6.out 1 _)
  have p7 := Lib.hid (K.other p6.out w3.heap.size 1 (.int .i64 (sport : Int)) (by omega))
  have r7 := Lib.hid (K.other r6.out w3.heap.size 1 (.int .i64 (sport : Int)) (by omega))
  have z7 := Lib.hid (K.other z6.out w3.heap.size 1 (.int .i64 (sport : Int)) (by omega))
  have B7 : Hid (Below w.heap.size w (w6.setCell ⟨w3.heap.size, 1, none⟩ (.int .i64 (sport : Int)))) := Lib.hid (B6.out.setCell (p := ⟨w3.heap.size, 1, none⟩) (show w.heap.size ≤ w3.heap.size by omega) (.int .i64 (sport : Int)))
  go_upto_region 33 with fail
  clear uu yy p6 r6 z6 B6 q6
  generalize (w6.setCell ⟨w3.heap.size, 1, none⟩ (.int .i64 (sport : Int))) = w7 at p7 r7 z7 B7 q7 ⊢
  go_wp2_with fail
  refine Calls.mono (be16U (some ⟨gg, oo, none⟩) n c bs 2 dport _ ((R0.out.below B7.out).more B7.out.size) HL.out (by omega) (by omega) HE2.out) ?_
  rintro e w8 ⟨rfl, bb⟩
  have p8 := Lib.hid (K.below bb p7.out)
  have r8 := Lib.hid (K.below bb r7.out)
  have z8 := Lib.hid (K.below bb z7.out)
  have q8 := Lib.hid (K.below bb q7.out)
  have B8 := Lib.hid (bthen B7.out bb)
  clear bb p7 r7 z7 B7 q7
  have uu := K.cell q8.out 2 _ rfl
  have yy := frozen_of_row _ _ 2 _ _ q8.out
  have q9 : Hid ((w8.setCell ⟨w3.heap.size, 2, none⟩ (.int .i64 (dport : Int))).heap[w3.heap.size]? = some (.cells #[.int .i64 2, .int .i64 (sport : Int), .int .i64 (dport : Int), .int .i64 0, .int .i64 0, .int .i64 0, .int .i64 0, .int .i64 0, .int .i64 0, .int .i64 0, .int .i64 0, .bool false, .slice none 0 0, .slice none 0 0] 36 (0, 0))) := Lib.hid (K.set q8.out 2 _)
  have p9 := Lib.hid (K.other p8.out w3.heap.size 2 (.int .i64 (dport : Int)) (by omega))
  have r9 := Lib.hid (K.other r8.out w3.heap.size 2 (.int .i64 (dport : Int)) (by omega))
  have z9 := Lib.hid (K.other z8.out w3.heap.size 2 (.int .i64 (dport : Int)) (by omega))
  have B9 : Hid (Below w.heap.size w (w8.setCell ⟨w3.heap.size, 2, none⟩ (.int .i64 (dport : Int)))) := Lib.hid (B8.out.setCell (p := ⟨w3.heap.size, 2, none⟩) (show w.heap.size ≤ w3.heap.size by omega) (.int .i64 (dport : Int)))
  go_upto_region 34 with fail
  clear uu yy p8 r8 z8 B8 q8
  generalize (w8.setCell ⟨w3.heap.size, 2, none⟩ (.int .i64 (dport : Int))) = w9 at p9 r9 z9 B9 q9 ⊢
  go_wp2_with fail
  refine Calls.mono (be16U (some ⟨gg, oo, none⟩) n c bs 6 sm _ ((R0.out.below B9.out).more B9.out.size) HL.out (by omega) (by omega) HE6.out) ?_
  rintro e w10 ⟨rfl, bb⟩
  have p10 := Lib.hid (K.below bb p9.out)
  have r10 := Lib.hid (K.below bb r9.out)
  have z10 := Lib.hid (K.below bb z9.out)
  have q10 := Lib.hid (K.below bb q9.out)
  have B10 := Lib.hid (bthen B9.out bb)
  clear bb p9 r9 z9 B9 q9
  have uu := K.cell q10.out 11 _ rfl
  have yy := frozen_of_row _ _ 11 _ _ q10.out
  have q11 : Hid ((w10.setCell ⟨w3.heap.size, 11, none⟩ (.bool false)).heap[w3.heap.size]? = some (.cells #[.int .i64 2, .int .i64 (sport : Int), .int .i64 (dport : Int), .int .i64 0, .int .i64 0, .int .i64 0, .int .i64 0, .int .i64 0, .int .i64 0, .int .i64 0, .int .i64 0, .bool false, .slice none 0 0, .slice none 0 0] 36 (0, 0))) := Lib.hid (K.set q10.out 11 _)
  have p11 := Lib.hid (K.other p10.out w3.heap.size 11 (.bool false) (by omega))
  have r11 := Lib.hid (K.other r10.out w3.heap.size 11 (.bool false) (by omega))
  have z11 := Lib.hid (K.other z10.out w3.heap.size 11 (.bool false) (by omega))
  have B11 : Hid (Below w.heap.size w (w10.setCell ⟨w3.heap.size, 11, none⟩ (.bool false))) := Lib.hid (B10.out.setCell (p := ⟨w3.heap.size, 11, none⟩) (show w.heap.size ≤ w3.heap.size by omega) (.bool false))
  go_upto_region 41 with fail
  clear uu yy p10 r10 z10 B10 q10
  generalize (w10.setCell ⟨w3.heap.size, 11, none⟩ (.bool false)) = w11 at p11 r11 z11 B11 q11 ⊢
  have hh := HH.out
  have NEW0 : Hid ((w11.alloc (.cells #[] 5)).heap[w11.heap.size]? = some (.cells #[] 5 (0, 0))) := Lib.hid (K.new w11 _)
  have lc : w3.heap.size < w11.heap.size := K.lt q11.out
  have p12 := Lib.hid (K.old p11.out (.cells #[] 5))
  have r12 := Lib.hid (K.old r11.out (.cells #[] 5))
  have z12 := Lib.hid (K.old z11.out (.cells #[] 5))
  have q12 := Lib.hid (K.old q11.out (.cells #[] 5))
  have B12 := Lib.hid (bthen B11.out (Joins.below_alloc1 w11 (.cells #[] 5)))
  clear p11 r11 z11 B11 q11
  go_upto_region 42 with (at_builtin; (refine wpList_append_new rfl (.tmp 192) (.tmp 195) rfl w11.heap.size w11.heap.size rfl (Nat.le_refl _) NEW0.out (by simp) w.heap.size (some Xh) Q yh ds rfl HD.out (HRH.out _ B12.out) (by rw [HD.out]; omega) ?_); intro D d w12 oo6 bb; have qa := Lib.hid (K.below bb q12.out); have uu := K.cell qa.out 13 _ rfl; have yy := frozen_of_row _ _ 13 _ _ qa.out)
  have oo7 := own_base oo6 (show w3.heap.size + 1 ≤ w11.heap.size from lc)
  clear NEW0 uu yy qa oo6
  have OW_ := Lib.hid oo7
  clear oo7
  have p13 := Lib.hid (K.below bb p12.out)
  have r13 := Lib.hid (K.below bb r12.out)
  have z13 := Lib.hid (K.below bb z12.out)
  have q13 := Lib.hid (K.below bb q12.out)
  have B13 := Lib.hid (bthen B12.out bb)
  clear bb p12 r12 z12 B12 q12
  have D13 := OW_
  clear OW_
  have q14 : Hid ((w12.setCell ⟨w3.heap.size, 13, none⟩ (.slice D Q d)).heap[w3.heap.size]? = some (.cells #[.int .i64 2, .int .i64 (sport : Int), .int .i64 (dport : Int), .int .i64 0, .int .i64 0, .int .i64 0, .int .i64 0, .int .i64 0, .int .i64 0, .int .i64 0, .int .i64 0, .bool false, .slice none 0 0, .slice D Q d] 36 (0, 0))) := Lib.hid (K.set q13.out 13 _)
  have p14 := Lib.hid (K.other p13.out w3.heap.size 13 (.slice D Q d) (by omega))
  have r14 := Lib.hid (K.other r13.out w3.heap.size 13 (.slice D Q d) (by omega))
  have z14 := Lib.hid (K.other z13.out w3.heap.size 13 (.slice D Q d) (by omega))
  have B14 : Hid (Below w.heap.size w (w12.setCell ⟨w3.heap.size, 13, none⟩ (.slice D Q d))) := Lib.hid (B13.out.setCell (p := ⟨w3.heap.size, 13, none⟩) (show w.heap.size ≤ w3.heap.size by omega) (.slice D Q d))
  have D14 := Lib.hid (own_set D13.out w3.heap.size 13 (.slice D Q d) (by omega))
  clear lc p13 r13 z13 B13 q13 D13
  generalize (w12.setCell ⟨w3.heap.size, 13, none⟩ (.slice D Q d)) = w13 at p14 r14 z14 B14 q14 D14 ⊢
  clear hh
  go_wp2_with (first | (with_reducible refine loadU rfl _ rfl w3.heap.size rfl q14.out ?_) | (with_reducible refine loadA rfl _ rfl w.heap.size rfl p14.out ?_) | (with_reducible refine loadA rfl _ rfl (w.heap.size + 1) rfl r14.out ?_))
  refine Calls.mono (usS (Uh.mk 2 sport dport 0 0 0 0 0 0 0 0 false) s t none D 0 0 Q d [] ds _ (rb_nilU _ _) HO.out (RB.of_own D14.out) HD.out (by omega) (by omega)) ?_
  rintro e wz ⟨rfl, bz⟩
  rw [HS.out]
  have p15 := Lib.hid (K.below bz p14.out)
  have r15 := Lib.hid (K.below bz r14.out)
  have z15 := Lib.hid (K.below bz z14.out)
  have q15 := Lib.hid (K.below bz q14.out)
  have B15 := Lib.hid (bthen B14.out bz)
  have D15 := Lib.hid (own_below D14.out bz)
  clear bz p14 r14 z14 B14 q14 D14
  by_cases hS : (sm : Int) = S
  · have HFG := Lib.hid (HF.out.1 hS)
    have hX : ((sm : Int) != S) = false := by simp [hS]
    go_wp2_with (first | (with_reducible refine loadU rfl _ rfl w3.heap.size rfl q15.out ?_) | (with_reducible refine storeU rfl _ _ rfl (w.heap.size + 1 + 1) rfl rfl z15.out ?_))
    (try simp only [Exit.inBlock, Exit.then])
    have hsz : w.heap.size + 1 + 1 < w3.heap.size + 1 := by omega
    refine bodyPost_ret (v := .tuple #[.agg #[.int .i64 2, .int .i64 (sport : Int), .int .i64 (dport : Int), .int .i64 0, .int .i64 0, .int .i64 0, .int .i64 0, .int .i64 0, .int .i64 0, .int .i64 0, .int .i64 0, .bool false, .slice none 0 0, .slice D Q d], .int .i64 0]) ?_ rfl (uread_yes (x := (Uh.mk 2 sport dport 0 0 0 0 0 0 0 0 false)) (A := none) (c := 0) HFG.out HX.out.1 HX.out.2.1 HX.out.2.2 HO.out HD.out ⟨rfl, .inl ⟨rfl, rfl⟩⟩ (own_base (K.setRow_own _ D15.out hsz) (by omega)) (fun _ h => by cases h) (K.setRow_below B15.out (by omega) _))
    exact K.resCellTmp Try.results15 _ _ _ (w.heap.size + 1 + 1) _ rfl (run_loadVar_row _ _ 36 36 _ (0, 0) _ (setRow_heap _ _ _ _ _ _ z15.out) Try.underlying36 rfl info_up)
  · have HFB := Lib.hid (HF.out.2 hS)
    have hX : ((sm : Int) != S) = true := by simpa using hS
    go_wp2_with (first | (with_reducible refine storeU rfl _ _ rfl (w.heap.size + 1 + 1) rfl rfl z15.out ?_))
    (try simp only [Exit.inBlock, Exit.then])
    refine bodyPost_ret (v := .tuple #[.agg #[.int .i64 0, .int .i64 0, .int .i64 0, .int .i64 0, .int .i64 0, .int .i64 0, .int .i64 0, .int .i64 0, .int .i64 0, .int .i64 0, .int .i64 0, .bool false, .slice none 0 0, .slice none 0 0], .int .i64 6]) ?_ rfl (uread_no HFB.out (by omega) (K.setRow_below B15.out (by omega) _))
    exact K.resCellTmp Try.results15 _ _ _ (w.heap.size + 1 + 1) _ rfl (run_loadVar_row _ _ 36 36 _ (0, 0) _ (setRow_heap _ _ _ _ _ _ z15.out) Try.underlying36 rfl info_up)

set_option maxHeartbeats 4000000 in
theorem urS_2c (w : World) (gg oo n c : Nat) (bs : List UInt8) (p : Int) (s t : Ad) (hr : RB w w.heap.size (some ⟨gg, oo, none⟩) bs) (hl : bs.length = n) (hc : n ≤ c) (sport dport sm Q : Nat) (S : Int) (ds : List UInt8) (e0 : num bs 0 2 = sport) (e2 : num bs 2 2 = dport) (e4 : num bs 4 2 = n) (e6 : num bs 6 2 = sm) (hQ : 8 + Q = n) (hds : bs.drop 8 = ds) (h0 : sm = 0) (h4 : ¬ s.k = 4) (hn : n ≤ 1500) (hp : pairA s t = true) (hq : upTo p 255 = true) (hs : s.k = 4 ∨ s.k = 6) (hk : kindU p s.k = 2) (hd : ds.length = Q) (hsum : (Uh.mk 2 sport dport 0 0 0 0 0 0 0 0 false).sum [] ds s t = S) (hf0 : (sm : Int) = S → uhC bs p s t = 0) (hf6 : ¬ (sm : Int) = S → uhC bs p s t = 6) (hx1 : uhX bs (kindU p s.k) s.k = (Uh.mk 2 sport dport 0 0 0 0 0 0 0 0 false)) (hx2 : uhO bs (kindU p s.k) = []) (hx3 : uhB bs (kindU p s.k) = ds) : Calls Try.prog 15 #[.slice (some ⟨gg, oo, none⟩) n c, .int .i64 p, .agg #[.int .i64 s.k, .int .i64 s.a, .int .i64 s.b, .int .i64 s.c, .int .i64 s.d], .agg #[.int .i64 t.k, .int .i64 t.a, .int .i64 t.b, .int .i64 t.c, .int .i64 t.d]] w (URead bs p s t w) := by
  have HP := Lib.hid hp
  have HPR := Lib.hid hq
  have HQ := Lib.hid hq
  have HKQ := Lib.hid hk
  have HSK := Lib.hid hs
  have HF := Lib.hid (And.intro hf0 hf6)
  have HS := Lib.hid hsum
  have HO := Lib.hid (show ([] : List UInt8).length = 0 from rfl)
  have HD := Lib.hid hd
  have R0 := Lib.hid hr
  have HL := Lib.hid hl
  have HX := Lib.hid (And.intro hx1 (And.intro hx2 hx3))
  clear hx1 hx2 hx3
  have hI2 : ¬ (n : Int) < 8 := by omega
  have hne : ((n : Int) != (n : Int)) = false := by simp
  have hne2 : (n : Int) = (n : Int) := rfl
  obtain ⟨Xh, yh, hh, hXh⟩ := cut_atU ⟨gg, oo, none⟩ n c 8 Q (by omega)
  have HH := Lib.hid (show ∀ w, (Instr.sliceAt 34 (.slice (some ⟨gg, oo, none⟩) n c) (some (.int .i64 8)) none none).run Try.prog w = .ok (.slice (some Xh) Q yh) w from hh)
  have HRH := Lib.hid (fun (v : World) (hb : Below w.heap.size w v) => show RB v w.heap.size (some Xh) ds from hds ▸ hXh (hr.below hb) hl hc)
  have g0 : ((sm : Int) == 0) = true := by simp; omega
  have g4 : (s.k == 4) = false := by simp; omega
  clear h4
  clear h0
  have HE0 := Lib.hid e0
  have HE2 := Lib.hid e2
  have HE4 := Lib.hid e4
  have HE6 := Lib.hid e6
  clear e0 e2 e4 e6
  clear hh hXh hr hl hf0 hf6 hsum hd hds
  have hI : ¬ (1500 : Int) < (n : Int) := by omega
  clear hp hq hk hs
  have p0 : Hid ((((w.alloc (.cells #[.int .i64 s.k, .int .i64 s.a, .int .i64 s.b, .int .i64 s.c, .int .i64 s.d] 27)).alloc (.cells #[.int .i64 t.k, .int .i64 t.a, .int .i64 t.b, .int .i64 t.c, .int .i64 t.d] 27)).alloc (.cells #[.int .i64 0, .int .i64 0, .int .i64 0, .int .i64 0, .int .i64 0, .int .i64 0, .int .i64 0, .int .i64 0, .int .i64 0, .int .i64 0, .int .i64 0, .bool false, .slice none 0 0, .slice none 0 0] 36)).heap[w.heap.size]? = some (.cells #[.int .i64 s.k, .int .i64 s.a, .int .i64 s.b, .int .i64 s.c, .int .i64 s.d] 27)) := Lib.hid (by repeat (first | exact K.newAt (by first | rfl | (simp; done)) | refine K.oldAt (by first | (simp; done) | (simp; omega)) ?_))
  have r0 : Hid ((((w.alloc (.cells #[.int .i64 s.k, .int .i64 s.a, .int .i64 s.b, .int .i64 s.c, .int .i64 s.d] 27)).alloc (.cells #[.int .i64 t.k, .int .i64 t.a, .int .i64 t.b, .int .i64 t.c, .int .i64 t.d] 27)).alloc (.cells #[.int .i64 0, .int .i64 0, .int .i64 0, .int .i64 0, .int .i64 0, .int .i64 0, .int .i64 0, .int .i64 0, .int .i64 0, .int .i64 0, .int .i64 0, .bool false, .slice none 0 0, .slice none 0 0] 36)).heap[w.heap.size + 1]? = some (.cells #[.int .i64 t.k, .int .i64 t.a, .int .i64 t.b, .int .i64 t.c, .int .i64 t.d] 27)) := Lib.hid (by repeat (first | exact K.newAt (by first | rfl | (simp; done)) | refine K.oldAt (by first | (simp; done) | (simp; omega)) ?_))
  have z0 : Hid ((((w.alloc (.cells #[.int .i64 s.k, .int .i64 s.a, .int .i64 s.b, .int .i64 s.c, .int .i64 s.d] 27)).alloc (.cells #[.int .i64 t.k, .int .i64 t.a, .int .i64 t.b, .int .i64 t.c, .int .i64 t.d] 27)).alloc (.cells #[.int .i64 0, .int .i64 0, .int .i64 0, .int .i64 0, .int .i64 0, .int .i64 0, .int .i64 0, .int .i64 0, .int .i64 0, .int .i64 0, .int .i64 0, .bool false, .slice none 0 0, .slice none 0 0] 36)).heap[w.heap.size + 1 + 1]? = some (.cells #[.int .i64 0, .int .i64 0, .int .i64 0, .int .i64 0, .int .i64 0, .int .i64 0, .int .i64 0, .int .i64 0, .int .i64 0, .int .i64 0, .int .i64 0, .bool false, .slice none 0 0, .slice none 0 0] 36)) := Lib.hid (by repeat (first | exact K.newAt (by first | rfl | (simp; done)) | refine K.oldAt (by first | (simp; done) | (simp; omega)) ?_))
  have B0 : Hid (Below w.heap.size w (((w.alloc (.cells #[.int .i64 s.k, .int .i64 s.a, .int .i64 s.b, .int .i64 s.c, .int .i64 s.d] 27)).alloc (.cells #[.int .i64 t.k, .int .i64 t.a, .int .i64 t.b, .int .i64 t.c, .int .i64 t.d] 27)).alloc (.cells #[.int .i64 0, .int .i64 0, .int .i64 0, .int .i64 0, .int .i64 0, .int .i64 0, .int .i64 0, .int .i64 0, .int .i64 0, .int .i64 0, .int .i64 0, .bool false, .slice none 0 0, .slice none 0 0] 36))) := Lib.hid (by go_grown)
  go_enter Try.func15, Try.ntmps15
  go_wp2_with (first | (with_reducible refine loadA rfl _ rfl w.heap.size rfl p0.out ?_) | (with_reducible refine loadA rfl _ rfl (w.heap.size + 1) rfl r0.out ?_))
  refine Calls.mono (pairSB s t true HP.out _) ?_
  rintro e w1 ⟨rfl, b1⟩
  have p1 := Lib.hid (K.below b1 p0.out)
  have r1 := Lib.hid (K.below b1 r0.out)
  have z1 := Lib.hid (K.below b1 z0.out)
  have B1 := Lib.hid (bthen B0.out b1)
  clear b1 p0 r0 z0 B0
  go_wp2_with fail
  refine Calls.mono (inSB p 255 true _ HQ.out) ?_
  rintro e w2 ⟨rfl, b2⟩
  have p2 := Lib.hid (K.below b2 p1.out)
  have r2 := Lib.hid (K.below b2 r1.out)
  have z2 := Lib.hid (K.below b2 z1.out)
  have B2 := Lib.hid (bthen B1.out b2)
  clear b2 p1 r1 z1 B1
  have d0 := K.cell p2.out 0 _ rfl
  go_wp2_with fail
  clear d0
  refine Calls.mono (kind_spec p s.k 2 _ HPR.out HSK.out HKQ.out) ?_
  rintro e w3 ⟨rfl, b3⟩
  have p3 := Lib.hid (K.below b3 p2.out)
  have r3 := Lib.hid (K.below b3 r2.out)
  have z3 := Lib.hid (K.below b3 z2.out)
  have B3 := Lib.hid (bthen B2.out b3)
  clear b3 p2 r2 z2 B2
  have lw3 : w.heap.size + 1 + 1 < w3.heap.size := K.lt z3.out
  have p4 := Lib.hid (K.old p3.out (.cells #[.int .i64 2, .int .i64 0, .int .i64 0, .int .i64 0, .int .i64 0, .int .i64 0, .int .i64 0, .int .i64 0, .int .i64 0, .int .i64 0, .int .i64 0, .bool false, .slice none 0 0, .slice none 0 0] 36))
  have r4 := Lib.hid (K.old r3.out (.cells #[.int .i64 2, .int .i64 0, .int .i64 0, .int .i64 0, .int .i64 0, .int .i64 0, .int .i64 0, .int .i64 0, .int .i64 0, .int .i64 0, .int .i64 0, .bool false, .slice none 0 0, .slice none 0 0] 36))
  have z4 := Lib.hid (K.old z3.out (.cells #[.int .i64 2, .int .i64 0, .int .i64 0, .int .i64 0, .int .i64 0, .int .i64 0, .int .i64 0, .int .i64 0, .int .i64 0, .int .i64 0, .int .i64 0, .bool false, .slice none 0 0, .slice none 0 0] 36))
  have q4 := Lib.hid (K.new w3 (.cells #[.int .i64 2, .int .i64 0, .int .i64 0, .int .i64 0, .int .i64 0, .int .i64 0, .int .i64 0, .int .i64 0, .int .i64 0, .int .i64 0, .int .i64 0, .bool false, .slice none 0 0, .slice none 0 0] 36))
  have B4 := Lib.hid (bthen B3.out (Joins.below_alloc1 w3 (.cells #[.int .i64 2, .int .i64 0, .int .i64 0, .int .i64 0, .int .i64 0, .int .i64 0, .int .i64 0, .int .i64 0, .int .i64 0, .int .i64 0, .int .i64 0, .bool false, .slice none 0 0, .slice none 0 0] 36)))
  clear p3 r3 z3 B3
  have dk := K.cell q4.out 0 _ rfl
  go_wp2_with (with_reducible refine storeNewU rfl _ _ rfl rfl rfl ?_)
  clear dk
  generalize (w3.alloc (.cells #[.int .i64 2, .int .i64 0, .int .i64 0, .int .i64 0, .int .i64 0, .int .i64 0, .int .i64 0, .int .i64 0, .int .i64 0, .int .i64 0, .int .i64 0, .bool false, .slice none 0 0, .slice none 0 0] 36)) = w4 at p4 r4 z4 B4 q4 ⊢
  refine Calls.mono (be16U (some ⟨gg, oo, none⟩) n c bs 4 n _ ((R0.out.below B4.out).more B4.out.size) HL.out (by omega) (by omega) HE4.out) ?_
  rintro e w5 ⟨rfl, bb⟩
  have p5 := Lib.hid (K.below bb p4.out)
  have r5 := Lib.hid (K.below bb r4.out)
  have z5 := Lib.hid (K.below bb z4.out)
  have q5 := Lib.hid (K.below bb q4.out)
  have B5 := Lib.hid (bthen B4.out bb)
  clear bb p4 r4 z4 B4 q4
  go_wp2_with fail
  refine Calls.mono (be16U (some ⟨gg, oo, none⟩) n c bs 0 sport _ ((R0.out.below B5.out).more B5.out.size) HL.out (by omega) (by omega) HE0.out) ?_
  rintro e w6 ⟨rfl, bb⟩
  have p6 := Lib.hid (K.below bb p5.out)
  have r6 := Lib.hid (K.below bb r5.out)
  have z6 := Lib.hid (K.below bb z5.out)
  have q6 := Lib.hid (K.below bb q5.out)
  have B6 := Lib.hid (bthen B5.out bb)
  clear bb p5 r5 z5 B5 q5
  have uu := K.cell q6.out 1 _ rfl
  have yy := frozen_of_row _ _ 1 _ _ q6.out
  have q7 : Hid ((w6.setCell ⟨w3.heap.size, 1, none⟩ (.int .i64 (sport : Int))).heap[w3.heap.size]? = some (.cells #[.int .i64 2, .int .i64 (sport : Int), .int .i64 0, .int .i64 0, .int .i64 0, .int .i64 0, .int .i64 0, .int .i64 0, .int .i64 0, .int .i64 0, .int .i64 0, .bool false, .slice none 0 0, .slice none 0 0] 36 (0, 0))) := Lib.hid (K.set q6.out 1 _)
  have p7 := Lib.hid (K.other p6.out w3.heap.size 1 (.int .i64 (sport : Int)) (by omega))
  have r7 := Lib.hid (K.other r6.out w3.heap.size 1 (.int .i64 (sport : Int)) (by omega))
  have z7 := Lib.hid (K.other z6.out w3.heap.size 1 (.int .i64 (sport : Int)) (by omega))
  have B7 : Hid (Below w.heap.size w (w6.setCell ⟨w3.heap.size, 1, none⟩ (.int .i64 (sport : Int)))) := Lib.hid (B6.out.setCell (p := ⟨w3.heap.size, 1, none⟩) (show w.heap.size ≤ w3.heap.size by omega) (.int .i64 (sport : Int)))
  go_upto_region 33 with fail
  clear uu yy p6 r6 z6 B6 q6
  generalize (w6.setCell ⟨w3.heap.size, 1, none⟩ (.int .i64 (sport : Int))) = w7 at p7 r7 z7 B7 q7 ⊢
  go_wp2_with fail
  refine Calls.mono (be16U (some ⟨gg, oo, none⟩) n c bs 2 dport _ ((R0.out.below B7.out).more B7.out.size) HL.out (by omega) (by omega) HE2.out) ?_
  rintro e w8 ⟨rfl, bb⟩
  have p8 := Lib.hid (K.below bb p7.out)
  have r8 := Lib.hid (K.below bb r7.out)
  have z8 := Lib.hid (K.below bb z7.out)
  have q8 := Lib.hid (K.below bb q7.out)
  have B8 := Lib.hid (bthen B7.out bb)
  clear bb p7 r7 z7 B7 q7
  have uu := K.cell q8.out 2 _ rfl
  have yy := frozen_of_row _ _ 2 _ _ q8.out
  have q9 : Hid ((w8.setCell ⟨w3.heap.size, 2, none⟩ (.int .i64 (dport : Int))).heap[w3.heap.size]? = some (.cells #[.int .i64 2, .int .i64 (sport : Int), .int .i64 (dport : Int), .int .i64 0, .int .i64 0, .int .i64 0, .int .i64 0, .int .i64 0, .int .i64 0, .int .i64 0, .int .i64 0, .bool false, .slice none 0 0, .slice none 0 0] 36 (0, 0))) := Lib.hid (K.set q8.out 2 _)
  have p9 := Lib.hid (K.other p8.out w3.heap.size 2 (.int .i64 (dport : Int)) (by omega))
  have r9 := Lib.hid (K.other r8.out w3.heap.size 2 (.int .i64 (dport : Int)) (by omega))
  have z9 := Lib.hid (K.other z8.out w3.heap.size 2 (.int .i64 (dport : Int)) (by omega))
  have B9 : Hid (Below w.heap.size w (w8.setCell ⟨w3.heap.size, 2, none⟩ (.int .i64 (dport : Int)))) := Lib.hid (B8.out.setCell (p := ⟨w3.heap.size, 2, none⟩) (show w.heap.size ≤ w3.heap.size by omega) (.int .i64 (dport : Int)))
  go_upto_region 34 with fail
  clear uu yy p8 r8 z8 B8 q8
  generalize (w8.setCell ⟨w3.heap.size, 2, none⟩ (.int .i64 (dport : Int))) = w9 at p9 r9 z9 B9 q9 ⊢
  go_wp2_with fail
  refine Calls.mono (be16U (some ⟨gg, oo, none⟩) n c bs 6 sm _ ((R0.out.below B9.out).more B9.out.size) HL.out (by omega) (by omega) HE6.out) ?_
  rintro e w10 ⟨rfl, bb⟩
  have p10 := Lib.hid (K.below bb p9.out)
  have r10 := Lib.hid (K.below bb r9.out)
  have z10 := Lib.hid (K.below bb z9.out)
  have q10 := Lib.hid (K.below bb q9.out)
  have B10 := Lib.hid (bthen B9.out bb)
  clear bb p9 r9 z9 B9 q9
  have d4 := K.cell p10.out 0 _ rfl
  have uu := K.cell q10.out 11 _ rfl
  have yy := frozen_of_row _ _ 11 _ _ q10.out
  have q11 : Hid ((w10.setCell ⟨w3.heap.size, 11, none⟩ (.bool false)).heap[w3.heap.size]? = some (.cells #[.int .i64 2, .int .i64 (sport : Int), .int .i64 (dport : Int), .int .i64 0, .int .i64 0, .int .i64 0, .int .i64 0, .int .i64 0, .int .i64 0, .int .i64 0, .int .i64 0, .bool false, .slice none 0 0, .slice none 0 0] 36 (0, 0))) := Lib.hid (K.set q10.out 11 _)
  have p11 := Lib.hid (K.other p10.out w3.heap.size 11 (.bool false) (by omega))
  have r11 := Lib.hid (K.other r10.out w3.heap.size 11 (.bool false) (by omega))
  have z11 := Lib.hid (K.other z10.out w3.heap.size 11 (.bool false) (by omega))
  have B11 : Hid (Below w.heap.size w (w10.setCell ⟨w3.heap.size, 11, none⟩ (.bool false))) := Lib.hid (B10.out.setCell (p := ⟨w3.heap.size, 11, none⟩) (show w.heap.size ≤ w3.heap.size by omega) (.bool false))
  go_upto_region 41 with fail
  clear uu yy d4 p10 r10 z10 B10 q10
  generalize (w10.setCell ⟨w3.heap.size, 11, none⟩ (.bool false)) = w11 at p11 r11 z11 B11 q11 ⊢
  have hh := HH.out
  have NEW0 : Hid ((w11.alloc (.cells #[] 5)).heap[w11.heap.size]? = some (.cells #[] 5 (0, 0))) := Lib.hid (K.new w11 _)
  have lc : w3.heap.size < w11.heap.size := K.lt q11.out
  have p12 := Lib.hid (K.old p11.out (.cells #[] 5))
  have r12 := Lib.hid (K.old r11.out (.cells #[] 5))
  have z12 := Lib.hid (K.old z11.out (.cells #[] 5))
  have q12 := Lib.hid (K.old q11.out (.cells #[] 5))
  have B12 := Lib.hid (bthen B11.out (Joins.below_alloc1 w11 (.cells #[] 5)))
  clear p11 r11 z11 B11 q11
  go_upto_region 42 with (at_builtin; (refine wpList_append_new rfl (.tmp 192) (.tmp 195) rfl w11.heap.size w11.heap.size rfl (Nat.le_refl _) NEW0.out (by simp) w.heap.size (some Xh) Q yh ds rfl HD.out (HRH.out _ B12.out) (by rw [HD.out]; omega) ?_); intro D d w12 oo6 bb; have qa := Lib.hid (K.below bb q12.out); have uu := K.cell qa.out 13 _ rfl; have yy := frozen_of_row _ _ 13 _ _ qa.out)
  have oo7 := own_base oo6 (show w3.heap.size + 1 ≤ w11.heap.size from lc)
  clear NEW0 uu yy qa oo6
  have OW_ := Lib.hid oo7
  clear oo7
  have p13 := Lib.hid (K.below bb p12.out)
  have r13 := Lib.hid (K.below bb r12.out)
  have z13 := Lib.hid (K.below bb z12.out)
  have q13 := Lib.hid (K.below bb q12.out)
  have B13 := Lib.hid (bthen B12.out bb)
  clear bb p12 r12 z12 B12 q12
  have D13 := OW_
  clear OW_
  have q14 : Hid ((w12.setCell ⟨w3.heap.size, 13, none⟩ (.slice D Q d)).heap[w3.heap.size]? = some (.cells #[.int .i64 2, .int .i64 (sport : Int), .int .i64 (dport : Int), .int .i64 0, .int .i64 0, .int .i64 0, .int .i64 0, .int .i64 0, .int .i64 0, .int .i64 0, .int .i64 0, .bool false, .slice none 0 0, .slice D Q d] 36 (0, 0))) := Lib.hid (K.set q13.out 13 _)
  have p14 := Lib.hid (K.other p13.out w3.heap.size 13 (.slice D Q d) (by omega))
  have r14 := Lib.hid (K.other r13.out w3.heap.size 13 (.slice D Q d) (by omega))
  have z14 := Lib.hid (K.other z13.out w3.heap.size 13 (.slice D Q d) (by omega))
  have B14 : Hid (Below w.heap.size w (w12.setCell ⟨w3.heap.size, 13, none⟩ (.slice D Q d))) := Lib.hid (B13.out.setCell (p := ⟨w3.heap.size, 13, none⟩) (show w.heap.size ≤ w3.heap.size by omega) (.slice D Q d))
  have D14 := Lib.hid (own_set D13.out w3.heap.size 13 (.slice D Q d) (by omega))
  clear lc p13 r13 z13 B13 q13 D13
  generalize (w12.setCell ⟨w3.heap.size, 13, none⟩ (.slice D Q d)) = w13 at p14 r14 z14 B14 q14 D14 ⊢
  clear hh
  go_wp2_with (first | (with_reducible refine loadU rfl _ rfl w3.heap.size rfl q14.out ?_) | (with_reducible refine loadA rfl _ rfl w.heap.size rfl p14.out ?_) | (with_reducible refine loadA rfl _ rfl (w.heap.size + 1) rfl r14.out ?_))
  refine Calls.mono (usS (Uh.mk 2 sport dport 0 0 0 0 0 0 0 0 false) s t none D 0 0 Q d [] ds _ (rb_nilU _ _) HO.out (RB.of_own D14.out) HD.out (by omega) (by omega)) ?_
  rintro e wz ⟨rfl, bz⟩
  rw [HS.out]
  have p15 := Lib.hid (K.below bz p14.out)
  have r15 := Lib.hid (K.below bz r14.out)
  have z15 := Lib.hid (K.below bz z14.out)
  have q15 := Lib.hid (K.below bz q14.out)
  have B15 := Lib.hid (bthen B14.out bz)
  have D15 := Lib.hid (own_below D14.out bz)
  clear bz p14 r14 z14 B14 q14 D14
  by_cases hS : (sm : Int) = S
  · have HFG := Lib.hid (HF.out.1 hS)
    have hX : ((sm : Int) != S) = false := by simp [hS]
    go_wp2_with (first | (with_reducible refine loadU rfl _ rfl w3.heap.size rfl q15.out ?_) | (with_reducible refine storeU rfl _ _ rfl (w.heap.size + 1 + 1) rfl rfl z15.out ?_))
    (try simp only [Exit.inBlock, Exit.then])
    have hsz : w.heap.size + 1 + 1 < w3.heap.size + 1 := by omega
    refine bodyPost_ret (v := .tuple #[.agg #[.int .i64 2, .int .i64 (sport : Int), .int .i64 (dport : Int), .int .i64 0, .int .i64 0, .int .i64 0, .int .i64 0, .int .i64 0, .int .i64 0, .int .i64 0, .int .i64 0, .bool false, .slice none 0 0, .slice D Q d], .int .i64 0]) ?_ rfl (uread_yes (x := (Uh.mk 2 sport dport 0 0 0 0 0 0 0 0 false)) (A := none) (c := 0) HFG.out HX.out.1 HX.out.2.1 HX.out.2.2 HO.out HD.out ⟨rfl, .inl ⟨rfl, rfl⟩⟩ (own_base (K.setRow_own _ D15.out hsz) (by omega)) (fun _ h => by cases h) (K.setRow_below B15.out (by omega) _))
    exact K.resCellTmp Try.results15 _ _ _ (w.heap.size + 1 + 1) _ rfl (run_loadVar_row _ _ 36 36 _ (0, 0) _ (setRow_heap _ _ _ _ _ _ z15.out) Try.underlying36 rfl info_up)
  · have HFB := Lib.hid (HF.out.2 hS)
    have hX : ((sm : Int) != S) = true := by simpa using hS
    go_wp2_with (first | (with_reducible refine storeU rfl _ _ rfl (w.heap.size + 1 + 1) rfl rfl z15.out ?_))
    (try simp only [Exit.inBlock, Exit.then])
    refine bodyPost_ret (v := .tuple #[.agg #[.int .i64 0, .int .i64 0, .int .i64 0, .int .i64 0, .int .i64 0, .int .i64 0, .int .i64 0, .int .i64 0, .int .i64 0, .int .i64 0, .int .i64 0, .bool false, .slice none 0 0, .slice none 0 0], .int .i64 6]) ?_ rfl (uread_no HFB.out (by omega) (K.setRow_below B15.out (by omega) _))
    exact K.resCellTmp Try.results15 _ _ _ (w.heap.size + 1 + 1) _ rfl (run_loadVar_row _ _ 36 36 _ (0, 0) _ (setRow_heap _ _ _ _ _ _ z15.out) Try.underlying36 rfl info_up)
end Go.Proofs.Ythogonpjkngpjaa

namespace Go.Proofs.Ythogonpjkngpjaa
set_option maxRecDepth 100000
open Go.RowKit

set_option maxHeartbeats 4000000 in
theorem urS_3 (w : World) (gg oo n c : Nat) (bs : List UInt8) (p : Int) (s t : Ad) (hr : RB w w.heap.size (some ⟨gg, oo, none⟩) bs) (hl : bs.length = n) (hc : n ≤ c) (ty code sm rest Q : Nat) (S : Int) (ds : List UInt8) (ea : num bs 0 1 = ty) (eb : num bs 1 1 = code) (e2 : num bs 2 2 = sm) (e4 : num bs 4 4 = rest) (hQ : 8 + Q = n) (hds : bs.drop 8 = ds) (hn : n ≤ 1500) (hp : pairA s t = true) (hq : upTo p 255 = true) (hs : s.k = 4 ∨ s.k = 6) (hk : kindU p s.k = 3) (hd : ds.length = Q) (hsum : (Uh.mk 3 0 0 0 0 0 0 0 ty code rest false).sum [] ds s t = S) (hf0 : (sm : Int) = S → uhC bs p s t = 0) (hf6 : ¬ (sm : Int) = S → uhC bs p s t = 6) (hx1 : uhX bs (kindU p s.k) s.k = (Uh.mk 3 0 0 0 0 0 0 0 ty code rest false)) (hx2 : uhO bs (kindU p s.k) = []) (hx3 : uhB bs (kindU p s.k) = ds) : Calls Try.prog 15 #[.slice (some ⟨gg, oo, none⟩) n c, .int .i64 p, .agg #[.int .i64 s.k, .int .i64 s.a, .int .i64 s.b, .int .i64 s.c, .int .i64 s.d], .agg #[.int .i64 t.k, .int .i64 t.a, .int .i64 t.b, .int .i64 t.c, .int .i64 t.d]] w (URead bs p s t w) := by
  have HP := Lib.hid hp
  have HPR := Lib.hid hq
  have HQ := Lib.hid hq
  have HKQ := Lib.hid hk
  have HSK := Lib.hid hs
  obtain ⟨g0, o0, ea0, _, c0⟩ := hr.at_ (k := 0) (by omega)
  obtain ⟨rfl, rfl⟩ : gg = g0 ∧ oo = o0 := by injection ea0 with ea1; injection ea1 with h1 h2; exact ⟨h1, h2⟩
  rw [← num_oneU bs 0 (by omega), ea, Nat.add_zero] at c0
  have HC0 := Lib.hid c0
  have hb0 : ty < 256 := by rw [← ea]; exact num_lt1 bs 0
  clear c0 ea0
  obtain ⟨g1, o1, ea1, _, c1⟩ := hr.at_ (k := 1) (by omega)
  obtain ⟨rfl, rfl⟩ : gg = g1 ∧ oo = o1 := by injection ea1 with ea1; injection ea1 with h1 h2; exact ⟨h1, h2⟩
  rw [← num_oneU bs 1 (by omega), eb] at c1
  have HC1 := Lib.hid c1
  have hb1 : code < 256 := by rw [← eb]; exact num_lt1 bs 1
  clear c1 ea1
  have HF := Lib.hid (And.intro hf0 hf6)
  have HS := Lib.hid hsum
  have HO := Lib.hid (show ([] : List UInt8).length = 0 from rfl)
  have HD := Lib.hid hd
  have R0 := Lib.hid hr
  have HL := Lib.hid hl
  have HX := Lib.hid (And.intro hx1 (And.intro hx2 hx3))
  clear hx1 hx2 hx3
  have hI2 : ¬ (n : Int) < 8 := by omega
  have hI6 : (0 : Int) < n := by omega
  have hI7 : (1 : Int) < n := by omega
  obtain ⟨Xh, yh, hh, hXh⟩ := cut_atU ⟨gg, oo, none⟩ n c 8 Q (by omega)
  have HH := Lib.hid (show ∀ w, (Instr.sliceAt 34 (.slice (some ⟨gg, oo, none⟩) n c) (some (.int .i64 8)) none none).run Try.prog w = .ok (.slice (some Xh) Q yh) w from hh)
  have HRH := Lib.hid (fun (v : World) (hb : Below w.heap.size w v) => show RB v w.heap.size (some Xh) ds from hds ▸ hXh (hr.below hb) hl hc)
  have HE2 := Lib.hid e2
  have HE4 := Lib.hid e4
  clear e2 e4
  clear hh hXh hr hl hf0 hf6 hsum hd hds ea eb
  have hI : ¬ (1500 : Int) < (n : Int) := by omega
  clear hp hq hk hs
  have p0 : Hid ((((w.alloc (.cells #[.int .i64 s.k, .int .i64 s.a, .int .i64 s.b, .int .i64 s.c, .int .i64 s.d] 27)).alloc (.cells #[.int .i64 t.k, .int .i64 t.a, .int .i64 t.b, .int .i64 t.c, .int .i64 t.d] 27)).alloc (.cells #[.int .i64 0, .int .i64 0, .int .i64 0, .int .i64 0, .int .i64 0, .int .i64 0, .int .i64 0, .int .i64 0, .int .i64 0, .int .i64 0, .int .i64 0, .bool false, .slice none 0 0, .slice none 0 0] 36)).heap[w.heap.size]? = some (.cells #[.int .i64 s.k, .int .i64 s.a, .int .i64 s.b, .int .i64 s.c, .int .i64 s.d] 27)) := Lib.hid (by repeat (first | exact K.newAt (by first | rfl | (simp; done)) | refine K.oldAt (by first | (simp; done) | (simp; omega)) ?_))
  have r0 : Hid ((((w.alloc (.cells #[.int .i64 s.k, .int .i64 s.a, .int .i64 s.b, .int .i64 s.c, .int .i64 s.d] 27)).alloc (.cells #[.int .i64 t.k, .int .i64 t.a, .int .i64 t.b, .int .i64 t.c, .int .i64 t.d] 27)).alloc (.cells #[.int .i64 0, .int .i64 0, .int .i64 0, .int .i64 0, .int .i64 0, .int .i64 0, .int .i64 0, .int .i64 0, .int .i64 0, .int .i64 0, .int .i64 0, .bool false, .slice none 0 0, .slice none 0 0] 36)).heap[w.heap.size + 1]? = some (.cells #[.int .i64 t.k, .int .i64 t.a, .int .i64 t.b, .int .i64 t.c, .int .i64 t.d] 27)) := Lib.hid (by repeat (first | exact K.newAt (by first | rfl | (simp; done)) | refine K.oldAt (by first | (simp; done) | (simp; omega)) ?_))
  have z0 : Hid ((((w.alloc (.cells #[.int .i64 s.k, .int .i64 s.a, .int .i64 s.b, .int .i64 s.c, .int .i64 s.d] 27)).alloc (.cells #[.int .i64 t.k, .int .i64 t.a, .int .i64 t.b, .int .i64 t.c, .int .i64 t.d] 27)).alloc (.cells #[.int .i64 0, .int .i64 0, .int .i64 0, .int .i64 0, .int .i64 0, .int .i64 0, .int .i64 0, .int .i64 0, .int .i64 0, .int .i64 0, .int .i64 0, .bool false, .slice none 0 0, .slice none 0 0] 36)).heap[w.heap.size + 1 + 1]? = some (.cells #[.int .i64 0, .int .i64 0, .int .i64 0, .int .i64 0, .int .i64 0, .int .i64 0, .int .i64 0, .int .i64 0, .int .i64 0, .int .i64 0, .int .i64 0, .bool false, .slice none 0 0, .slice none 0 0] 36)) := Lib.hid (by repeat (first | exact K.newAt (by first | rfl | (simp; done)) | refine K.oldAt (by first | (simp; done) | (simp; omega)) ?_))
  have B0 : Hid (Below w.heap.size w (((w.alloc (.cells #[.int .i64 s.k, .int .i64 s.a, .int .i64 s.b, .int .i64 s.c, .int .i64 s.d] 27)).alloc (.cells #[.int .i64 t.k, .int .i64 t.a, .int .i64 t.b, .int .i64 t.c, .int .i64 t.d] 27)).alloc (.cells #[.int .i64 0, .int .i64 0, .int .i64 0, .int .i64 0, .int .i64 0, .int .i64 0, .int .i64 0, .int .i64 0, .int .i64 0, .int .i64 0, .int .i64 0, .bool false, .slice none 0 0, .slice none 0 0] 36))) := Lib.hid (by go_grown)
  go_enter Try.func15, Try.ntmps15
  go_wp2_with (first | (with_reducible refine loadA rfl _ rfl w.heap.size rfl p0.out ?_) | (with_reducible refine loadA rfl _ rfl (w.heap.size + 1) rfl r0.out ?_))
  refine Calls.mono (pairSB s t true HP.out _) ?_
  rintro e w1 ⟨rfl, b1⟩
  have p1 := Lib.hid (K.below b1 p0.out)
  have r1 := Lib.hid (K.below b1 r0.out)
  have z1 := Lib.hid (K.below b1 z0.out)
  have B1 := Lib.hid (bthen B0.out b1)
  clear b1 p0 r0 z0 B0
  go_wp2_with fail
  refine Calls.mono (inSB p 255 true _ HQ.out) ?_
  rintro e w2 ⟨rfl, b2⟩
  have p2 := Lib.hid (K.below b2 p1.out)
  have r2 := Lib.hid (K.below b2 r1.out)
  have z2 := Lib.hid (K.below b2 z1.out)
  have B2 := Lib.hid (bthen B1.out b2)
  clear b2 p1 r1 z1 B1
  have d0 := K.cell p2.out 0 _ rfl
  go_wp2_with fail
  clear d0
  refine Calls.mono (kind_spec p s.k 3 _ HPR.out HSK.out HKQ.out) ?_
  rintro e w3 ⟨rfl, b3⟩
  have p3 := Lib.hid (K.below b3 p2.out)
  have r3 := Lib.hid (K.below b3 r2.out)
  have z3 := Lib.hid (K.below b3 z2.out)
  have B3 := Lib.hid (bthen B2.out b3)
  clear b3 p2 r2 z2 B2
  have lw3 : w.heap.size + 1 + 1 < w3.heap.size := K.lt z3.out
  have p4 := Lib.hid (K.old p3.out (.cells #[.int .i64 3, .int .i64 0, .int .i64 0, .int .i64 0, .int .i64 0, .int .i64 0, .int .i64 0, .int .i64 0, .int .i64 0, .int .i64 0, .int .i64 0, .bool false, .slice none 0 0, .slice none 0 0] 36))
  have r4 := Lib.hid (K.old r3.out (.cells #[.int .i64 3, .int .i64 0, .int .i64 0, .int .i64 0, .int .i64 0, .int .i64 0, .int .i64 0, .int .i64 0, .int .i64 0, .int .i64 0, .int .i64 0, .bool false, .slice none 0 0, .slice none 0 0] 36))
  have z4 := Lib.hid (K.old z3.out (.cells #[.int .i64 3, .int .i64 0, .int .i64 0, .int .i64 0, .int .i64 0, .int .i64 0, .int .i64 0, .int .i64 0, .int .i64 0, .int .i64 0, .int .i64 0, .bool false, .slice none 0 0, .slice none 0 0] 36))
  have q4 := Lib.hid (K.new w3 (.cells #[.int .i64 3, .int .i64 0, .int .i64 0, .int .i64 0, .int .i64 0, .int .i64 0, .int .i64 0, .int .i64 0, .int .i64 0, .int .i64 0, .int .i64 0, .bool false, .slice none 0 0, .slice none 0 0] 36))
  have B4 := Lib.hid (bthen B3.out (Joins.below_alloc1 w3 (.cells #[.int .i64 3, .int .i64 0, .int .i64 0, .int .i64 0, .int .i64 0, .int .i64 0, .int .i64 0, .int .i64 0, .int .i64 0, .int .i64 0, .int .i64 0, .bool false, .slice none 0 0, .slice none 0 0] 36)))
  clear p3 r3 z3 B3
  have dk := K.cell q4.out 0 _ rfl
  have c0 := cell_on (B4.out.mono (Nat.le_refl _)) HC0.out
  have c1 := cell_on (B4.out.mono (Nat.le_refl _)) HC1.out
  go_upto_region 37 with (with_reducible refine storeNewU rfl _ _ rfl rfl rfl ?_)
  clear dk c0 c1
  generalize (w3.alloc (.cells #[.int .i64 3, .int .i64 0, .int .i64 0, .int .i64 0, .int .i64 0, .int .i64 0, .int .i64 0, .int .i64 0, .int .i64 0, .int .i64 0, .int .i64 0, .bool false, .slice none 0 0, .slice none 0 0] 36)) = w4 at p4 r4 z4 B4 q4 ⊢
  have c0 := cell_on (B4.out.mono (Nat.le_refl _)) HC0.out
  have uu := K.cell q4.out 8 _ rfl
  have yy := frozen_of_row _ _ 8 _ _ q4.out
  have q5 : Hid ((w4.setCell ⟨w3.heap.size, 8, none⟩ (.int .i64 (ty : Int))).heap[w3.heap.size]? = some (.cells #[.int .i64 3, .int .i64 0, .int .i64 0, .int .i64 0, .int .i64 0, .int .i64 0, .int .i64 0, .int .i64 0, .int .i64 (ty : Int), .int .i64 0, .int .i64 0, .bool false, .slice none 0 0, .slice none 0 0] 36 (0, 0))) := Lib.hid (K.set q4.out 8 _)
  have p5 := Lib.hid (K.other p4.out w3.heap.size 8 (.int .i64 (ty : Int)) (by omega))
  have r5 := Lib.hid (K.other r4.out w3.heap.size 8 (.int .i64 (ty : Int)) (by omega))
  have z5 := Lib.hid (K.other z4.out w3.heap.size 8 (.int .i64 (ty : Int)) (by omega))
  have B5 : Hid (Below w.heap.size w (w4.setCell ⟨w3.heap.size, 8, none⟩ (.int .i64 (ty : Int)))) := Lib.hid (B4.out.setCell (p := ⟨w3.heap.size, 8, none⟩) (show w.heap.size ≤ w3.heap.size by omega) (.int .i64 (ty : Int)))
  go_upto_region 38 with fail
  clear c0 uu yy p4 r4 z4 B4 q4
  generalize (w4.setCell ⟨w3.heap.size, 8, none⟩ (.int .i64 (ty : Int))) = w5 at p5 r5 z5 B5 q5 ⊢
  have c1 := cell_on (B5.out.mono (Nat.le_refl _)) HC1.out
  have uu := K.cell q5.out 9 _ rfl
  have yy := frozen_of_row _ _ 9 _ _ q5.out
  have q6 : Hid ((w5.setCell ⟨w3.heap.size, 9, none⟩ (.int .i64 (code : Int))).heap[w3.heap.size]? = some (.cells #[.int .i64 3, .int .i64 0, .int .i64 0, .int .i64 0, .int .i64 0, .int .i64 0, .int .i64 0, .int .i64 0, .int .i64 (ty : Int), .int .i64 (code : Int), .int .i64 0, .bool false, .slice none 0 0, .slice none 0 0] 36 (0, 0))) := Lib.hid (K.set q5.out 9 _)
  have p6 := Lib.hid (K.other p5.out w3.heap.size 9 (.int .i64 (code : Int)) (by omega))
  have r6 := Lib.hid (K.other r5.out w3.heap.size 9 (.int .i64 (code : Int)) (by omega))
  have z6 := Lib.hid (K.other z5.out w3.heap.size 9 (.int .i64 (code : Int)) (by omega))
  have B6 : Hid (Below w.heap.size w (w5.setCell ⟨w3.heap.size, 9, none⟩ (.int .i64 (code : Int)))) := Lib.hid (B5.out.setCell (p := ⟨w3.heap.size, 9, none⟩) (show w.heap.size ≤ w3.heap.size by omega) (.int .i64 (code : Int)))
  go_upto_region 39 with fail
  clear c1 uu yy p5 r5 z5 B5 q5
  generalize (w5.setCell ⟨w3.heap.size, 9, none⟩ (.int .i64 (code : Int))) = w6 at p6 r6 z6 B6 q6 ⊢
  go_wp2_with fail
  refine Calls.mono (be16U (some ⟨gg, oo, none⟩) n c bs 2 sm _ ((R0.out.below B6.out).more B6.out.size) HL.out (by omega) (by omega) HE2.out) ?_
  rintro e w7 ⟨rfl, bb⟩
  have p7 := Lib.hid (K.below bb p6.out)
  have r7 := Lib.hid (K.below bb r6.out)
  have z7 := Lib.hid (K.below bb z6.out)
  have q7 := Lib.hid (K.below bb q6.out)
  have B7 := Lib.hid (bthen B6.out bb)
  clear bb p6 r6 z6 B6 q6
  go_wp2_with fail
  refine Calls.mono (be32U (some ⟨gg, oo, none⟩) n c bs 4 rest _ ((R0.out.below B7.out).more B7.out.size) HL.out (by omega) (by omega) HE4.out) ?_
  rintro e w8 ⟨rfl, bb⟩
  have p8 := Lib.hid (K.below bb p7.out)
  have r8 := Lib.hid (K.below bb r7.out)
  have z8 := Lib.hid (K.below bb z7.out)
  have q8 := Lib.hid (K.below bb q7.out)
  have B8 := Lib.hid (bthen B7.out bb)
  clear bb p7 r7 z7 B7 q7
  have uu := K.cell q8.out 10 _ rfl
  have yy := frozen_of_row _ _ 10 _ _ q8.out
  have q9 : Hid ((w8.setCell ⟨w3.heap.size, 10, none⟩ (.int .i64 (rest : Int))).heap[w3.heap.size]? = some (.cells #[.int .i64 3, .int .i64 0, .int .i64 0, .int .i64 0, .int .i64 0, .int .i64 0, .int .i64 0, .int .i64 0, .int .i64 (ty : Int), .int .i64 (code : Int), .int .i64 (rest : Int), .bool false, .slice none 0 0, .slice none 0 0] 36 (0, 0))) := Lib.hid (K.set q8.out 10 _)
  have p9 := Lib.hid (K.other p8.out w3.heap.size 10 (.int .i64 (rest : Int)) (by omega))
  have r9 := Lib.hid (K.other r8.out w3.heap.size 10 (.int .i64 (rest : Int)) (by omega))
  have z9 := Lib.hid (K.other z8.out w3.heap.size 10 (.int .i64 (rest : Int)) (by omega))
  have B9 : Hid (Below w.heap.size w (w8.setCell ⟨w3.heap.size, 10, none⟩ (.int .i64 (rest : Int)))) := Lib.hid (B8.out.setCell (p := ⟨w3.heap.size, 10, none⟩) (show w.heap.size ≤ w3.heap.size by omega) (.int .i64 (rest : Int)))
  go_upto_region 41 with fail
  clear uu yy p8 r8 z8 B8 q8
  generalize (w8.setCell ⟨w3.heap.size, 10, none⟩ (.int .i64 (rest : Int))) = w9 at p9 r9 z9 B9 q9 ⊢
  have hh := HH.out
  have NEW0 : Hid ((w9.alloc (.cells #[] 5)).heap[w9.heap.size]? = some (.cells #[] 5 (0, 0))) := Lib.hid (K.new w9 _)
  have lc : w3.heap.size < w9.heap.size := K.lt q9.out
  have p10 := Lib.hid (K.old p9.out (.cells #[] 5))
  have r10 := Lib.hid (K.old r9.out (.cells #[] 5))
  have z10 := Lib.hid (K.old z9.out (.cells #[] 5))
  have q10 := Lib.hid (K.old q9.out (.cells #[] 5))
  have B10 := Lib.hid (bthen B9.out (Joins.below_alloc1 w9 (.cells #[] 5)))
  clear p9 r9 z9 B9 q9
  go_upto_region 42 with (at_builtin; (refine wpList_append_new rfl (.tmp 192) (.tmp 195) rfl w9.heap.size w9.heap.size rfl (Nat.le_refl _) NEW0.out (by simp) w.heap.size (some Xh) Q yh ds rfl HD.out (HRH.out _ B10.out) (by rw [HD.out]; omega) ?_); intro D d w10 oo6 bb; have qa := Lib.hid (K.below bb q10.out); have uu := K.cell qa.out 13 _ rfl; have yy := frozen_of_row _ _ 13 _ _ qa.out)
  have oo7 := own_base oo6 (show w3.heap.size + 1 ≤ w9.heap.size from lc)
  clear NEW0 uu yy qa oo6
  have OW_ := Lib.hid oo7
  clear oo7
  have p11 := Lib.hid (K.below bb p10.out)
  have r11 := Lib.hid (K.below bb r10.out)
  have z11 := Lib.hid (K.below bb z10.out)
  have q11 := Lib.hid (K.below bb q10.out)
  have B11 := Lib.hid (bthen B10.out bb)
  clear bb p10 r10 z10 B10 q10
  have D11 := OW_
  clear OW_
  have q12 : Hid ((w10.setCell ⟨w3.heap.size, 13, none⟩ (.slice D Q d)).heap[w3.heap.size]? = some (.cells #[.int .i64 3, .int .i64 0, .int .i64 0, .int .i64 0, .int .i64 0, .int .i64 0, .int .i64 0, .int .i64 0, .int .i64 (ty : Int), .int .i64 (code : Int), .int .i64 (rest : Int), .bool false, .slice none 0 0, .slice D Q d] 36 (0, 0))) := Lib.hid (K.set q11.out 13 _)
  have p12 := Lib.hid (K.other p11.out w3.heap.size 13 (.slice D Q d) (by omega))
  have r12 := Lib.hid (K.other r11.out w3.heap.size 13 (.slice D Q d) (by omega))
  have z12 := Lib.hid (K.other z11.out w3.heap.size 13 (.slice D Q d) (by omega))
  have B12 : Hid (Below w.heap.size w (w10.setCell ⟨w3.heap.size, 13, none⟩ (.slice D Q d))) := Lib.hid (B11.out.setCell (p := ⟨w3.heap.size, 13, none⟩) (show w.heap.size ≤ w3.heap.size by omega) (.slice D Q d))
  have D12 := Lib.hid (own_set D11.out w3.heap.size 13 (.slice D Q d) (by omega))
  clear lc p11 r11 z11 B11 q11 D11
  generalize (w10.setCell ⟨w3.heap.size, 13, none⟩ (.slice D Q d)) = w11 at p12 r12 z12 B12 q12 D12 ⊢
  clear hh
  go_wp2_with (first | (with_reducible refine loadU rfl _ rfl w3.heap.size rfl q12.out ?_) | (with_reducible refine loadA rfl _ rfl w.heap.size rfl p12.out ?_) | (with_reducible refine loadA rfl _ rfl (w.heap.size + 1) rfl r12.out ?_))
  refine Calls.mono (usS (Uh.mk 3 0 0 0 0 0 0 0 ty code rest false) s t none D 0 0 Q d [] ds _ (rb_nilU _ _) HO.out (RB.of_own D12.out) HD.out (by omega) (by omega)) ?_
  rintro e wz ⟨rfl, bz⟩
  rw [HS.out]
  have p13 := Lib.hid (K.below bz p12.out)
  have r13 := Lib.hid (K.below bz r12.out)
  have z13 := Lib.hid (K.below bz z12.out)
  have q13 := Lib.hid (K.below bz q12.out)
  have B13 := Lib.hid (bthen B12.out bz)
  have D13 := Lib.hid (own_below D12.out bz)
  clear bz p12 r12 z12 B12 q12 D12
  by_cases hS : (sm : Int) = S
  · have HFG := Lib.hid (HF.out.1 hS)
    have hX : ((sm : Int) != S) = false := by simp [hS]
    go_wp2_with (first | (with_reducible refine loadU rfl _ rfl w3.heap.size rfl q13.out ?_) | (with_reducible refine storeU rfl _ _ rfl (w.heap.size + 1 + 1) rfl rfl z13.out ?_))
    (try simp only [Exit.inBlock, Exit.then])
    have hsz : w.heap.size + 1 + 1 < w3.heap.size + 1 := by omega
    refine bodyPost_ret (v := .tuple #[.agg #[.int .i64 3, .int .i64 0, .int .i64 0, .int .i64 0, .int .i64 0, .int .i64 0, .int .i64 0, .int .i64 0, .int .i64 (ty : Int), .int .i64 (code : Int), .int .i64 (rest : Int), .bool false, .slice none 0 0, .slice D Q d], .int .i64 0]) ?_ rfl (uread_yes (x := (Uh.mk 3 0 0 0 0 0 0 0 ty code rest false)) (A := none) (c := 0) HFG.out HX.out.1 HX.out.2.1 HX.out.2.2 HO.out HD.out ⟨rfl, .inl ⟨rfl, rfl⟩⟩ (own_base (K.setRow_own _ D13.out hsz) (by omega)) (fun _ h => by cases h) (K.setRow_below B13.out (by omega) _))
    exact K.resCellTmp Try.results15 _ _ _ (w.heap.size + 1 + 1) _ rfl (run_loadVar_row _ _ 36 36 _ (0, 0) _ (setRow_heap _ _ _ _ _ _ z13.out) Try.underlying36 rfl info_up)
  · have HFB := Lib.hid (HF.out.2 hS)
    have hX : ((sm : Int) != S) = true := by simpa using hS
    go_wp2_with (first | (with_reducible refine storeU rfl _ _ rfl (w.heap.size + 1 + 1) rfl rfl z13.out ?_))
    (try simp only [Exit.inBlock, Exit.then])
    refine bodyPost_ret (v := .tuple #[.agg #[.int .i64 0, .int .i64 0, .int .i64 0, .int .i64 0, .int .i64 0, .int .i64 0, .int .i64 0, .int .i64 0, .int .i64 0, .int .i64 0, .int .i64 0, .bool false, .slice none 0 0, .slice none 0 0], .int .i64 6]) ?_ rfl (uread_no HFB.out (by omega) (K.setRow_below B13.out (by omega) _))
    exact K.resCellTmp Try.results15 _ _ _ (w.heap.size + 1 + 1) _ rfl (run_loadVar_row _ _ 36 36 _ (0, 0) _ (setRow_heap _ _ _ _ _ _ z13.out) Try.underlying36 rfl info_up)
end Go.Proofs.Ythogonpjkngpjaa

namespace Go.Proofs.Ythogonpjkngpjaa
set_option maxRecDepth 100000
open Go.RowKit

theorem pairA_kS {s t : Ad} (h : pairA s t = true) : s.k = 4 ∨ s.k = 6 := by
  have hxy : (s.ok = true ∧ t.ok = true) ∧ s.k = t.k := by simpa [pairA] using h
  exact Ad.ok_kind hxy.1.1

set_option maxHeartbeats 1000000 in
theorem urS_all (w : World) (A : Option Addr) (n c : Nat) (bs : List UInt8) (p : Int) (s t : Ad) (hr : RB w w.heap.size A bs) (hl : bs.length = n) (hc : n ≤ c) (hn : n ≤ 1500) (hp : pairA s t = true) (hq : upTo p 255 = true) : Calls Try.prog 15 #[.slice A n c, .int .i64 p, .agg #[.int .i64 s.k, .int .i64 s.a, .int .i64 s.b, .int .i64 s.c, .int .i64 s.d], .agg #[.int .i64 t.k, .int .i64 t.a, .int .i64 t.b, .int .i64 t.c, .int .i64 t.d]] w (URead bs p s t w) := by
  have hs := pairA_kS hp
  have hfar : uhC bs p s t = _ := uhC_far (by omega) (by rw [hp, hq]; rfl)
  have hsome : 0 < n → ∃ gg oo, A = some ⟨gg, oo, none⟩ := fun h => by
    obtain ⟨gg, oo, e, _, _⟩ := hr (by omega)
    exact ⟨gg, oo, e⟩
  rcases kindU_cases p s.k with hk | hk | hk | hk
  · exact urS_0 w A n c bs p s t hl hr hn hp hq hs hk
  · rw [hk] at hfar
    by_cases h3 : n < 20
    · rw [if_pos (.inl ⟨rfl, by omega⟩)] at hfar
      by_cases h8 : n < 8
      · exact urS_short1a w A n c bs p s t hn hp hq hs hk hfar h3 h8
      · exact urS_short1b w A n c bs p s t hn hp hq hs hk hfar h3 h8
    · rw [if_neg (by simp; omega)] at hfar
      obtain ⟨gg, oo, rfl⟩ := hsome (by omega)
      have hb := tHead_byte bs (by omega)
      by_cases h4 : tHead bs < 20 ∨ bs.length < tHead bs
      · rw [if_pos ⟨rfl, h4⟩] at hfar
        by_cases h5 : tHead bs < 20
        · exact urS_code1a w gg oo n c bs p s t hr hl _ (tHead bs) rfl hb.symm (by omega) h5 hn hp hq hs hk hfar
        · exact urS_code1b w gg oo n c bs p s t hr hl _ (tHead bs) rfl hb.symm (by omega) (by omega) hn hp hq hs hk hfar
      · rw [if_neg (by simpa using h4), if_neg (by simp)] at hfar
        have hlo : (uhO bs 1).length = tHead bs - 20 := by simp [uhO, List.length_take, List.length_drop]; omega
        have hlb : (uhB bs 1).length = n - tHead bs := by simp [uhB, List.length_drop]; omega
        exact urS_1 w gg oo n c bs p s t hr hl hc _ _ _ _ _ _ (num bs 16 2) _ _ (tHead bs) (tHead bs - 20) (n - tHead bs) _ (uhO bs 1) (uhB bs 1) rfl rfl rfl rfl rfl rfl rfl rfl rfl hb.symm (by omega) (by omega) rfl rfl hn hp hq hs hk hlo hlb rfl (fun h6 => by rw [hfar]; exact if_neg (fun h => h h6)) (fun h6 => by rw [hfar]; exact if_pos h6) (by rw [hk]; rfl) (by rw [hk]) (by rw [hk])
  · rw [hk] at hfar
    by_cases h3 : n < 8
    · rw [if_pos (.inr ⟨by simp, by omega⟩)] at hfar
      exact urS_short2 w A n c bs p s t hn hp hq hs hk hfar h3
    · rw [if_neg (by simp; omega), if_neg (by simp)] at hfar
      obtain ⟨gg, oo, rfl⟩ := hsome (by omega)
      by_cases h5 : num bs 4 2 = bs.length
      · rw [if_neg (by simpa using h5)] at hfar
        have hlb : (uhB bs 2).length = n - 8 := by simp [uhB, List.length_drop]; omega
        by_cases h0 : num bs 6 2 = 0
        · by_cases h4 : s.k = 4
          · have hx : uhX bs 2 s.k = ⟨2, num bs 0 2, num bs 2 2, 0, 0, 0, 0, 0, 0, 0, 0, true⟩ := by simp [uhX, h4, h0]
            rw [hx] at hfar
            exact urS_2a w gg oo n c bs p s t hr hl hc _ _ (num bs 6 2) (n - 8) _ (uhB bs 2) rfl rfl (h5.trans hl) rfl (by omega) rfl h0 h4 hn hp hq hs hk hlb rfl (fun h6 => by rw [hfar]; exact if_neg (fun h => h h6)) (fun h6 => by rw [hfar]; exact if_pos h6) (by rw [hk]; exact hx) (by rw [hk]; rfl) (by rw [hk])
          · have hx : uhX bs 2 s.k = ⟨2, num bs 0 2, num bs 2 2, 0, 0, 0, 0, 0, 0, 0, 0, false⟩ := by simp [uhX, h4]
            rw [hx] at hfar
            exact urS_2c w gg oo n c bs p s t hr hl hc _ _ (num bs 6 2) (n - 8) _ (uhB bs 2) rfl rfl (h5.trans hl) rfl (by omega) rfl h0 h4 hn hp hq hs hk hlb rfl (fun h6 => by rw [hfar]; exact if_neg (fun h => h h6)) (fun h6 => by rw [hfar]; exact if_pos h6) (by rw [hk]; exact hx) (by rw [hk]; rfl) (by rw [hk])
        · have hx : uhX bs 2 s.k = ⟨2, num bs 0 2, num bs 2 2, 0, 0, 0, 0, 0, 0, 0, 0, false⟩ := by simp [uhX, h0]
          rw [hx] at hfar
          exact urS_2b w gg oo n c bs p s t hr hl hc _ _ (num bs 6 2) (n - 8) _ (uhB bs 2) rfl rfl (h5.trans hl) rfl (by omega) rfl h0 hn hp hq hs hk hlb rfl (fun h6 => by rw [hfar]; exact if_neg (fun h => h h6)) (fun h6 => by rw [hfar]; exact if_pos h6) (by rw [hk]; exact hx) (by rw [hk]; rfl) (by rw [hk])
      · rw [if_pos ⟨rfl, h5⟩] at hfar
        exact urS_code2 w gg oo n c bs p s t hr hl _ rfl (by omega) (by omega) hn hp hq hs hk hfar
  · rw [hk] at hfar
    by_cases h3 : n < 8
    · rw [if_pos (.inr ⟨by simp, by omega⟩)] at hfar
      exact urS_short3 w A n c bs p s t hn hp hq hs hk hfar h3
    · rw [if_neg (by simp; omega), if_neg (by simp), if_neg (by simp)] at hfar
      obtain ⟨gg, oo, rfl⟩ := hsome (by omega)
      have hlb : (uhB bs 3).length = n - 8 := by simp [uhB, List.length_drop]; omega
      exact urS_3 w gg oo n c bs p s t hr hl hc _ _ (num bs 2 2) _ (n - 8) _ (uhB bs 3) rfl rfl rfl rfl (by omega) rfl hn hp hq hs hk hlb rfl (fun h6 => by rw [hfar]; exact if_neg (fun h => h h6)) (fun h6 => by rw [hfar]; exact if_pos h6) (by rw [hk]; rfl) (by rw [hk]; rfl) (by rw [hk])

theorem specUpperRead (A : Option Addr) (n c : Nat) (bs : List UInt8) (p : Int) (s t : Ad) (w : World) (hr : RB w w.heap.size A bs) (hl : bs.length = n) (hn : n ≤ 1048576) (hc : n ≤ c) : Calls Try.prog 15 #[.slice A n c, .int .i64 p, .agg #[.int .i64 s.k, .int .i64 s.a, .int .i64 s.b, .int .i64 s.c, .int .i64 s.d], .agg #[.int .i64 t.k, .int .i64 t.a, .int .i64 t.b, .int .i64 t.c, .int .i64 t.d]] w (URead bs p s t w) := by
  by_cases h1 : 1500 < n
  · exact urS_long w A n c bs p s t hl h1 hn
  · cases hp : pairA s t with
    | false => exact urS_addr1 w A n c bs p s t hl (by omega) hp
    | true =>
      cases hq : upTo p 255 with
      | false => exact urS_addr2 w A n c bs p s t hl (by omega) hp hq
      | true => exact urS_all w A n c bs p s t hr hl hc (by omega) hp hq
end Go.Proofs.Ythogonpjkngpjaa

namespace Go.Proofs.Ythogonpjkngpjaa
set_option maxRecDepth 100000
open Go.RowKit

/-- What an operation leaves: a value; something that holds on while nothing old is turned, and beside the store into a new block that holds the cells Z; anything. -/
inductive Fr (T : TypeId) (Z : Array Value) where
  | val (v : Value)
  | pr (f : World → Value → Prop) (h1 : ∀ w w' v, Below w.heap.size w w' → f w v → f w' v) (h2 : ∀ (w w' : World) (v : Value) (b : Nat), w.heap[b]? = some (.cells Z T (0, 0)) → w.grownBy w' (some b) → f w v → f w' v)
  | any
def Fr.holds {T : TypeId} {Z : Array Value} : Fr T Z → World → Value → Prop
  | .val u, _, v => v = u
  | .pr f _ _, w, v => f w v
  | .any, _, _ => True
theorem Fr.on {T : TypeId} {Z : Array Value} {w w' : World} (hb : Below w.heap.size w w') (f : Fr T Z) (v : Value) (h : f.holds w v) : f.holds w' v := by
  cases f with
  | val u => exact h
  | pr f k _ => exact k w w' v hb h
  | any => trivial
theorem Fr.grown {T : TypeId} {Z : Array Value} {w w' : World} {b : Nat} (hz : w.heap[b]? = some (.cells Z T (0, 0))) (hb : w.grownBy w' (some b)) (f : Fr T Z) (v : Value) (h : f.holds w v) : f.holds w' v := by
  cases f with
  | val u => exact h
  | pr f _ k => exact k w w' v b hz hb h
  | any => trivial

section
variable {P : Program} {ops : Array Oper} {Q : Exit → Act → World → Prop}
theorem wp_region_new {id : Nat} {a : Act} {w : World} (T : TypeId) (Z : Array Value) (hmx : P.follows .mixedOrders = true) (out : List Nat) (n : Nat) (L : List (Nat × Nat)) (F : List (Fr T Z)) (ia is da : Nat) (hne : ia ≠ is)
    (hf : formB ops n out = true) (hch : chainB ops [ia, is] = true) (hL : dstsOf ops ops.size = L) (hda : (ops[ia]?).bind (·.dst) = some da) (hneed : (needOf ops is).contains (ia, da) = true) (hFi : F.getD is .any = .any) (hn : a.tmps.size = n)
    (G : Nat → World → Prop) (hG : ∀ b v v', Below v.heap.size v v' → G b v → G b v')
    (hal : ∀ o, ops[ia]? = some o → ∀ a' v K, K (a'.put o.dst (.pointer (some ⟨v.heap.size, 0, none⟩))) (v.alloc (.cells Z T)) → o.wp P a' v K Q)
    (hst : ∀ o, ops[is]? = some o → ∀ a' v K b, (∀ t ∈ out, a'.tmps.getD t undef = a.tmps.getD t undef) → a'.tmps.getD da undef = .pointer (some ⟨b, 0, none⟩) → v.heap[b]? = some (.cells Z T (0, 0)) → (∀ p ∈ needOf ops is, p.1 ≠ ia → (F.getD p.1 .any).holds v (a'.tmps.getD p.2 undef)) → Below w.heap.size w v →
      (∀ u v', G b v' → v.grownBy v' (some b) → K (a'.put o.dst u) v') → o.wp P a' v K Q)
    (hop : ∀ (j : Nat) o, j ≠ ia → j ≠ is → ops[j]? = some o → ∀ a' v K, (∀ t ∈ out, a'.tmps.getD t undef = a.tmps.getD t undef) → (∀ p ∈ needOf ops j, p.1 ≠ ia → (F.getD p.1 .any).holds v (a'.tmps.getD p.2 undef)) → Below w.heap.size w v →
      (∀ u v', (F.getD j .any).holds v' u → Below v.heap.size v v' → K (a'.put o.dst u) v') → o.wp P a' v K Q)
    (hend : ∀ (f : Nat → Value) v b, (∀ p ∈ L, p.1 ≠ ia → (F.getD p.1 .any).holds v (f p.1)) → f ia = .pointer (some ⟨b, 0, none⟩) → w.heap.size ≤ b → G b v → Below w.heap.size w v → Q .normal (L.foldl (fun b p => b.put (some p.2) (f p.1)) a) v) : (Code.region id ops true).wp P Q a w := by
  subst hL
  refine wp_region_stage2 hmx (fun j m v u => if j = ia then (∃ b, u = .pointer (some ⟨b, 0, none⟩) ∧ w.heap.size ≤ b ∧ (m ≤ 1 → v.heap[b]? = some (.cells Z T (0, 0))) ∧ (2 ≤ m → G b v)) else (F.getD j .any).holds v u) out [ia, is] (fun _ v => Below w.heap.size w v) n hf hch hn ⟨rfl, rfl, rfl, Nat.le_refl _, fun _ _ => rfl⟩ ?_ ?_
  · intro j o ho m a' v K' hx hnd hm hI hK
    by_cases hja : j = ia
    · subst hja
      have hm0 : 0 = m := hm 0 rfl
      subst hm0
      have hnx : nextOf [j, is] j 0 = 1 := by simp [nextOf]
      refine hal o ho a' v K' (hK _ _ ?_ ?_ (bthen hI (Joins.below_alloc1 v _)))
      · rw [if_pos rfl, hnx]
        exact ⟨_, rfl, hI.size, fun _ => K.new v _, fun h => absurd h (by omega)⟩
      · intro i oi d hi _ _ h
        rw [if_neg hi] at h ⊢
        exact Fr.on (Joins.below_alloc1 v _) _ _ h
    · by_cases hjs : j = is
      · subst hjs
        have hm1 : 1 = m := hm 1 rfl
        subst hm1
        have hnx : nextOf [ia, j] j 1 = 2 := by simp [nextOf]
        have hb := hnd (ia, da) (by simpa using hneed)
        rw [if_pos rfl] at hb
        obtain ⟨b, e, lb, hz, _⟩ := hb
        refine hst o ho a' v K' b hx e (hz (by omega)) (fun p hp hpa => by have := hnd p hp; rwa [if_neg hpa] at this) hI (fun u v' hg hgr => hK u v' ?_ ?_ (bgrown hI hgr (fun k hk => by cases hk; exact lb)))
        · rw [if_neg hja, hFi]
          trivial
        · intro i oi d hi hoi hd h
          by_cases hia : i = ia
          · subst hia
            rw [if_pos rfl, hnx]
            have hd' : d = da := by
              rw [hoi] at hda
              simp only [Option.bind_some] at hda
              rw [hd] at hda
              exact Option.some.inj hda
            subst hd'
            exact ⟨b, e, lb, fun h => absurd h (by omega), fun _ => hg⟩
          · rw [if_neg hia] at h ⊢
            exact Fr.grown (hz (by omega)) hgr _ _ h
      · have hnx : nextOf [ia, is] j m = m := by simp [nextOf, hja, hjs]
        refine hop j o hja hjs ho a' v K' hx (fun p hp hpa => by have := hnd p hp; rwa [if_neg hpa] at this) hI (fun u v' hu hb => hK u v' ?_ ?_ (bthen hI hb))
        · rw [if_neg hja]
          exact hu
        · intro i oi d hi _ _ h
          rw [hnx]
          by_cases hia : i = ia
          · subst hia
            rw [if_pos rfl] at h ⊢
            obtain ⟨b, e, lb, h1, h2⟩ := h
            exact ⟨b, e, lb, fun k => K.below hb (h1 k), fun k => hG b v v' hb (h2 k)⟩
          · rw [if_neg hia] at h ⊢
            exact Fr.on hb _ _ h
  · intro a' w' hsz hdf hout hrest hs hI
    have hda2 : ∃ oa, ops[ia]? = some oa ∧ oa.dst = some da := by
      cases ho : ops[ia]? with
      | none => rw [ho] at hda; cases hda
      | some oa => rw [ho] at hda; exact ⟨oa, rfl, hda⟩
    obtain ⟨oa, hoa, hod⟩ := hda2
    have hΓ := hs ia oa da hoa hod
    rw [if_pos rfl] at hΓ
    obtain ⟨b, e, lb, _, hg⟩ := hΓ
    have hdst : ∀ p ∈ dstsOf ops ops.size, (p.1 ≠ ia → (F.getD p.1 .any).holds w' (a'.tmps.getD p.2 undef)) ∧ p.2 < n := by
      intro p hp
      obtain ⟨_, o, h2, h3⟩ := dstsOf_mem.1 hp
      refine ⟨fun hpa => by have := hs p.1 o p.2 h2 h3; rwa [if_neg hpa] at this, ?_⟩
      have h4 := (formB_at hf h2).2.2
      exact (h4 p.2 h3).1
    obtain ⟨f, hfv⟩ : ∃ f : Nat → Value, ∀ p ∈ dstsOf ops ops.size, f p.1 = a'.tmps.getD p.2 undef := by
      refine ⟨fun j => match (ops[j]?).bind (·.dst) with | some d => a'.tmps.getD d undef | none => undef, fun p hp => ?_⟩
      obtain ⟨_, o, h2, h3⟩ := dstsOf_mem.1 hp
      simp [h2, h3]
    have hmem : (ia, da) ∈ dstsOf ops ops.size := dstsOf_mem.2 ⟨(Array.getElem?_eq_some_iff.1 hoa).1, oa, hoa, hod⟩
    have E := act_eqT hsz hdf (dstsOf ops ops.size) f a hn rfl (fun p hp => ⟨(hdst p hp).2, (hfv p hp).symm⟩) (fun t ht => hrest t (fun j o ho hd => ht (j, t) (dstsOf_mem.2 ⟨(Array.getElem?_eq_some_iff.1 ho).1, o, ho, hd⟩) rfl))
    rw [E]
    exact hend f w' b (fun p hp hpa => by rw [hfv p hp]; exact (hdst p hp).1 hpa) (by rw [hfv (ia, da) hmem]; exact e) lb (hg (by simp)) hI
theorem new_of {T : TypeId} {Z : Array Value} {j ia : Nat} {F : List (Fr T Z)} {v : World} {a' : Act} (hnd : ∀ p ∈ needOf ops j, p.1 ≠ ia → (F.getD p.1 .any).holds v (a'.tmps.getD p.2 undef)) (i t : Nat) (h : (needOf ops j).contains (i, t) = true) (hi : i ≠ ia) : (F.getD i .any).holds v (a'.eval (.tmp t)) :=
  hnd (i, t) (by simpa using h) hi
end
end Go.Proofs.Ythogonpjkngpjaa
