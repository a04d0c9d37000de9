/-
  Upper layers are read by the program. Upper layers are read by the program. Upper layers are read by the program. Upper layers are read by the program. Upper layers are read by the program, whatever the bytes, the protocol and the addresses. Numbers and parts of bytes, for the model's reading of upper layers. The checksum of an upper layer in the model.
-/
import Derived.Test.YthogonpjkngpjaaRa08
import Derived.Test.YthogonpjkngpjaaRa10
import Derived.Deep.Cut
import Derived.Test.YthogonpjkngpjaaRa05
namespace Go.Proofs.Ythogonpjkngpjaa
set_option maxRecDepth 100000
open Go.RowKit

set_option maxHeartbeats 4000000 in
theorem urI_long (w : World) (A : Option Addr) (n c : Nat) (bs : List UInt8) (p : Int) (s t : Ad) (hl : bs.length = n) (hn : 1500 < n) (hn2 : n ≤ 1048576)  : Calls Try.prog 18 #[.slice A n c, .int .i64 p, .agg #[.int .i64 s.k, .int .i64 s.a, .int .i64 s.b, .int .i64 s.c, .int .i64 s.d], .agg #[.int .i64 t.k, .int .i64 t.a, .int .i64 t.b, .int .i64 t.c, .int .i64 t.d]] w (URead bs p s t w) := by
  have HF := Lib.hid (uhC_long (p := p) (s := s) (t := t) (show 1500 < bs.length by omega))
  clear hl
  have p0 : Hid ((((w.alloc (.cells #[.int .i64 s.k, .int .i64 s.a, .int .i64 s.b, .int .i64 s.c, .int .i64 s.d] 27)).alloc (.cells #[.int .i64 t.k, .int .i64 t.a, .int .i64 t.b, .int .i64 t.c, .int .i64 t.d] 27)).alloc (.cells #[.int .i64 0, .int .i64 0, .int .i64 0, .int .i64 0, .int .i64 0, .int .i64 0, .int .i64 0, .int .i64 0, .int .i64 0, .int .i64 0, .int .i64 0, .bool false, .slice none 0 0, .slice none 0 0] 36)).heap[w.heap.size]? = some (.cells #[.int .i64 s.k, .int .i64 s.a, .int .i64 s.b, .int .i64 s.c, .int .i64 s.d] 27)) := Lib.hid (by repeat (first | exact K.newAt (by first | rfl | (simp; done)) | refine K.oldAt (by first | (simp; done) | (simp; omega)) ?_))
  have r0 : Hid ((((w.alloc (.cells #[.int .i64 s.k, .int .i64 s.a, .int .i64 s.b, .int .i64 s.c, .int .i64 s.d] 27)).alloc (.cells #[.int .i64 t.k, .int .i64 t.a, .int .i64 t.b, .int .i64 t.c, .int .i64 t.d] 27)).alloc (.cells #[.int .i64 0, .int .i64 0, .int .i64 0, .int .i64 0, .int .i64 0, .int .i64 0, .int .i64 0, .int .i64 0, .int .i64 0, .int .i64 0, .int .i64 0, .bool false, .slice none 0 0, .slice none 0 0] 36)).heap[w.heap.size + 1]? = some (.cells #[.int .i64 t.k, .int .i64 t.a, .int .i64 t.b, .int .i64 t.c, .int .i64 t.d] 27)) := Lib.hid (by repeat (first | exact K.newAt (by first | rfl | (simp; done)) | refine K.oldAt (by first | (simp; done) | (simp; omega)) ?_))
  have z0 : Hid ((((w.alloc (.cells #[.int .i64 s.k, .int .i64 s.a, .int .i64 s.b, .int .i64 s.c, .int .i64 s.d] 27)).alloc (.cells #[.int .i64 t.k, .int .i64 t.a, .int .i64 t.b, .int .i64 t.c, .int .i64 t.d] 27)).alloc (.cells #[.int .i64 0, .int .i64 0, .int .i64 0, .int .i64 0, .int .i64 0, .int .i64 0, .int .i64 0, .int .i64 0, .int .i64 0, .int .i64 0, .int .i64 0, .bool false, .slice none 0 0, .slice none 0 0] 36)).heap[w.heap.size + 1 + 1]? = some (.cells #[.int .i64 0, .int .i64 0, .int .i64 0, .int .i64 0, .int .i64 0, .int .i64 0, .int .i64 0, .int .i64 0, .int .i64 0, .int .i64 0, .int .i64 0, .bool false, .slice none 0 0, .slice none 0 0] 36)) := Lib.hid (by repeat (first | exact K.newAt (by first | rfl | (simp; done)) | refine K.oldAt (by first | (simp; done) | (simp; omega)) ?_))
  have B0 : Hid (Below w.heap.size w (((w.alloc (.cells #[.int .i64 s.k, .int .i64 s.a, .int .i64 s.b, .int .i64 s.c, .int .i64 s.d] 27)).alloc (.cells #[.int .i64 t.k, .int .i64 t.a, .int .i64 t.b, .int .i64 t.c, .int .i64 t.d] 27)).alloc (.cells #[.int .i64 0, .int .i64 0, .int .i64 0, .int .i64 0, .int .i64 0, .int .i64 0, .int .i64 0, .int .i64 0, .int .i64 0, .int .i64 0, .int .i64 0, .bool false, .slice none 0 0, .slice none 0 0] 36))) := Lib.hid (by go_grown)
  have hI : (1500 : Int) < (n : Int) := by omega
  clear p0 r0
  go_enter Try.func18, Try.ntmps18
  go_wp2_with (with_reducible refine storeU rfl _ _ rfl (w.heap.size + 1 + 1) rfl rfl z0.out ?_)
  (try simp only [Exit.inBlock, Exit.then])
  refine bodyPost_ret (v := .tuple #[.agg #[.int .i64 0, .int .i64 0, .int .i64 0, .int .i64 0, .int .i64 0, .int .i64 0, .int .i64 0, .int .i64 0, .int .i64 0, .int .i64 0, .int .i64 0, .bool false, .slice none 0 0, .slice none 0 0], .int .i64 1]) ?_ rfl (uread_no HF.out (by omega) (K.setRow_below B0.out (by omega) _))
  exact K.resCellTmp Try.results18 _ _ _ (w.heap.size + 1 + 1) _ rfl (run_loadVar_row _ _ 36 36 _ (0, 0) _ (setRow_heap _ _ _ _ _ _ z0.out) Try.underlying36 rfl info_up)

set_option maxHeartbeats 4000000 in
theorem urI_addr1 (w : World) (A : Option Addr) (n c : Nat) (bs : List UInt8) (p : Int) (s t : Ad) (hl : bs.length = n) (hn : n ≤ 1500) (hp : pairA s t = false) : Calls Try.prog 18 #[.slice A n c, .int .i64 p, .agg #[.int .i64 s.k, .int .i64 s.a, .int .i64 s.b, .int .i64 s.c, .int .i64 s.d], .agg #[.int .i64 t.k, .int .i64 t.a, .int .i64 t.b, .int .i64 t.c, .int .i64 t.d]] w (URead bs p s t w) := by
  have HP := Lib.hid hp
  have HF := Lib.hid (uhC_addr (bs := bs) (show ¬ 1500 < bs.length by omega) (show (pairA s t && upTo p 255) = false by rw [hp]; rfl))
  clear hl hp
  have p0 : Hid ((((w.alloc (.cells #[.int .i64 s.k, .int .i64 s.a, .int .i64 s.b, .int .i64 s.c, .int .i64 s.d] 27)).alloc (.cells #[.int .i64 t.k, .int .i64 t.a, .int .i64 t.b, .int .i64 t.c, .int .i64 t.d] 27)).alloc (.cells #[.int .i64 0, .int .i64 0, .int .i64 0, .int .i64 0, .int .i64 0, .int .i64 0, .int .i64 0, .int .i64 0, .int .i64 0, .int .i64 0, .int .i64 0, .bool false, .slice none 0 0, .slice none 0 0] 36)).heap[w.heap.size]? = some (.cells #[.int .i64 s.k, .int .i64 s.a, .int .i64 s.b, .int .i64 s.c, .int .i64 s.d] 27)) := Lib.hid (by repeat (first | exact K.newAt (by first | rfl | (simp; done)) | refine K.oldAt (by first | (simp; done) | (simp; omega)) ?_))
  have r0 : Hid ((((w.alloc (.cells #[.int .i64 s.k, .int .i64 s.a, .int .i64 s.b, .int .i64 s.c, .int .i64 s.d] 27)).alloc (.cells #[.int .i64 t.k, .int .i64 t.a, .int .i64 t.b, .int .i64 t.c, .int .i64 t.d] 27)).alloc (.cells #[.int .i64 0, .int .i64 0, .int .i64 0, .int .i64 0, .int .i64 0, .int .i64 0, .int .i64 0, .int .i64 0, .int .i64 0, .int .i64 0, .int .i64 0, .bool false, .slice none 0 0, .slice none 0 0] 36)).heap[w.heap.size + 1]? = some (.cells #[.int .i64 t.k, .int .i64 t.a, .int .i64 t.b, .int .i64 t.c, .int .i64 t.d] 27)) := Lib.hid (by repeat (first | exact K.newAt (by first | rfl | (simp; done)) | refine K.oldAt (by first | (simp; done) | (simp; omega)) ?_))
  have z0 : Hid ((((w.alloc (.cells #[.int .i64 s.k, .int .i64 s.a, .int .i64 s.b, .int .i64 s.c, .int .i64 s.d] 27)).alloc (.cells #[.int .i64 t.k, .int .i64 t.a, .int .i64 t.b, .int .i64 t.c, .int .i64 t.d] 27)).alloc (.cells #[.int .i64 0, .int .i64 0, .int .i64 0, .int .i64 0, .int .i64 0, .int .i64 0, .int .i64 0, .int .i64 0, .int .i64 0, .int .i64 0, .int .i64 0, .bool false, .slice none 0 0, .slice none 0 0] 36)).heap[w.heap.size + 1 + 1]? = some (.cells #[.int .i64 0, .int .i64 0, .int .i64 0, .int .i64 0, .int .i64 0, .int .i64 0, .int .i64 0, .int .i64 0, .int .i64 0, .int .i64 0, .int .i64 0, .bool false, .slice none 0 0, .slice none 0 0] 36)) := Lib.hid (by repeat (first | exact K.newAt (by first | rfl | (simp; done)) | refine K.oldAt (by first | (simp; done) | (simp; omega)) ?_))
  have B0 : Hid (Below w.heap.size w (((w.alloc (.cells #[.int .i64 s.k, .int .i64 s.a, .int .i64 s.b, .int .i64 s.c, .int .i64 s.d] 27)).alloc (.cells #[.int .i64 t.k, .int .i64 t.a, .int .i64 t.b, .int .i64 t.c, .int .i64 t.d] 27)).alloc (.cells #[.int .i64 0, .int .i64 0, .int .i64 0, .int .i64 0, .int .i64 0, .int .i64 0, .int .i64 0, .int .i64 0, .int .i64 0, .int .i64 0, .int .i64 0, .bool false, .slice none 0 0, .slice none 0 0] 36))) := Lib.hid (by go_grown)
  have hI : ¬ (1500 : Int) < (n : Int) := by omega
  go_enter Try.func18, Try.ntmps18
  go_wp2_with (first | (with_reducible refine loadA rfl _ rfl w.heap.size rfl p0.out ?_) | (with_reducible refine loadA rfl _ rfl (w.heap.size + 1) rfl r0.out ?_))
  refine Calls.mono (pairIB s t false HP.out _) ?_
  rintro e w1 ⟨rfl, b1⟩
  have p1 := Lib.hid (K.below b1 p0.out)
  have r1 := Lib.hid (K.below b1 r0.out)
  have z1 := Lib.hid (K.below b1 z0.out)
  have B1 := Lib.hid (bthen B0.out b1)
  clear b1 p0 r0 z0 B0
  go_wp2_with (with_reducible refine storeU rfl _ _ rfl (w.heap.size + 1 + 1) rfl rfl z1.out ?_)
  (try simp only [Exit.inBlock, Exit.then])
  refine bodyPost_ret (v := .tuple #[.agg #[.int .i64 0, .int .i64 0, .int .i64 0, .int .i64 0, .int .i64 0, .int .i64 0, .int .i64 0, .int .i64 0, .int .i64 0, .int .i64 0, .int .i64 0, .bool false, .slice none 0 0, .slice none 0 0], .int .i64 2]) ?_ rfl (uread_no HF.out (by omega) (K.setRow_below B1.out (by omega) _))
  exact K.resCellTmp Try.results18 _ _ _ (w.heap.size + 1 + 1) _ rfl (run_loadVar_row _ _ 36 36 _ (0, 0) _ (setRow_heap _ _ _ _ _ _ z1.out) Try.underlying36 rfl info_up)

set_option maxHeartbeats 4000000 in
theorem urI_addr2 (w : World) (A : Option Addr) (n c : Nat) (bs : List UInt8) (p : Int) (s t : Ad) (hl : bs.length = n) (hn : n ≤ 1500) (hp : pairA s t = true) (hq : upTo p 255 = false) : Calls Try.prog 18 #[.slice A n c, .int .i64 p, .agg #[.int .i64 s.k, .int .i64 s.a, .int .i64 s.b, .int .i64 s.c, .int .i64 s.d], .agg #[.int .i64 t.k, .int .i64 t.a, .int .i64 t.b, .int .i64 t.c, .int .i64 t.d]] w (URead bs p s t w) := by
  have HP := Lib.hid hp
  have HQ := Lib.hid hq
  have HF := Lib.hid (uhC_addr (bs := bs) (show ¬ 1500 < bs.length by omega) (show (pairA s t && upTo p 255) = false by rw [hp, hq]; rfl))
  clear hl hp hq
  have p0 : Hid ((((w.alloc (.cells #[.int .i64 s.k, .int .i64 s.a, .int .i64 s.b, .int .i64 s.c, .int .i64 s.d] 27)).alloc (.cells #[.int .i64 t.k, .int .i64 t.a, .int .i64 t.b, .int .i64 t.c, .int .i64 t.d] 27)).alloc (.cells #[.int .i64 0, .int .i64 0, .int .i64 0, .int .i64 0, .int .i64 0, .int .i64 0, .int .i64 0, .int .i64 0, .int .i64 0, .int .i64 0, .int .i64 0, .bool false, .slice none 0 0, .slice none 0 0] 36)).heap[w.heap.size]? = some (.cells #[.int .i64 s.k, .int .i64 s.a, .int .i64 s.b, .int .i64 s.c, .int .i64 s.d] 27)) := Lib.hid (by repeat (first | exact K.newAt (by first | rfl | (simp; done)) | refine K.oldAt (by first | (simp; done) | (simp; omega)) ?_))
  have r0 : Hid ((((w.alloc (.cells #[.int .i64 s.k, .int .i64 s.a, .int .i64 s.b, .int .i64 s.c, .int .i64 s.d] 27)).alloc (.cells #[.int .i64 t.k, .int .i64 t.a, .int .i64 t.b, .int .i64 t.c, .int .i64 t.d] 27)).alloc (.cells #[.int .i64 0, .int .i64 0, .int .i64 0, .int .i64 0, .int .i64 0, .int .i64 0, .int .i64 0, .int .i64 0, .int .i64 0, .int .i64 0, .int .i64 0, .bool false, .slice none 0 0, .slice none 0 0] 36)).heap[w.heap.size + 1]? = some (.cells #[.int .i64 t.k, .int .i64 t.a, .int .i64 t.b, .int .i64 t.c, .int .i64 t.d] 27)) := Lib.hid (by repeat (first | exact K.newAt (by first | rfl | (simp; done)) | refine K.oldAt (by first | (simp; done) | (simp; omega)) ?_))
  have z0 : Hid ((((w.alloc (.cells #[.int .i64 s.k, .int .i64 s.a, .int .i64 s.b, .int .i64 s.c, .int .i64 s.d] 27)).alloc (.cells #[.int .i64 t.k, .int .i64 t.a, .int .i64 t.b, .int .i64 t.c, .int .i64 t.d] 27)).alloc (.cells #[.int .i64 0, .int .i64 0, .int .i64 0, .int .i64 0, .int .i64 0, .int .i64 0, .int .i64 0, .int .i64 0, .int .i64 0, .int .i64 0, .int .i64 0, .bool false, .slice none 0 0, .slice none 0 0] 36)).heap[w.heap.size + 1 + 1]? = some (.cells #[.int .i64 0, .int .i64 0, .int .i64 0, .int .i64 0, .int .i64 0, .int .i64 0, .int .i64 0, .int .i64 0, .int .i64 0, .int .i64 0, .int .i64 0, .bool false, .slice none 0 0, .slice none 0 0] 36)) := Lib.hid (by repeat (first | exact K.newAt (by first | rfl | (simp; done)) | refine K.oldAt (by first | (simp; done) | (simp; omega)) ?_))
  have B0 : Hid (Below w.heap.size w (((w.alloc (.cells #[.int .i64 s.k, .int .i64 s.a, .int .i64 s.b, .int .i64 s.c, .int .i64 s.d] 27)).alloc (.cells #[.int .i64 t.k, .int .i64 t.a, .int .i64 t.b, .int .i64 t.c, .int .i64 t.d] 27)).alloc (.cells #[.int .i64 0, .int .i64 0, .int .i64 0, .int .i64 0, .int .i64 0, .int .i64 0, .int .i64 0, .int .i64 0, .int .i64 0, .int .i64 0, .int .i64 0, .bool false, .slice none 0 0, .slice none 0 0] 36))) := Lib.hid (by go_grown)
  have hI : ¬ (1500 : Int) < (n : Int) := by omega
  go_enter Try.func18, Try.ntmps18
  go_wp2_with (first | (with_reducible refine loadA rfl _ rfl w.heap.size rfl p0.out ?_) | (with_reducible refine loadA rfl _ rfl (w.heap.size + 1) rfl r0.out ?_))
  refine Calls.mono (pairIB s t true HP.out _) ?_
  rintro e w1 ⟨rfl, b1⟩
  have p1 := Lib.hid (K.below b1 p0.out)
  have r1 := Lib.hid (K.below b1 r0.out)
  have z1 := Lib.hid (K.below b1 z0.out)
  have B1 := Lib.hid (bthen B0.out b1)
  clear b1 p0 r0 z0 B0
  go_wp2_with fail
  refine Calls.mono (protoB p false _ HQ.out) ?_
  rintro e w2 ⟨rfl, b2⟩
  have p2 := Lib.hid (K.below b2 p1.out)
  have r2 := Lib.hid (K.below b2 r1.out)
  have z2 := Lib.hid (K.below b2 z1.out)
  have B2 := Lib.hid (bthen B1.out b2)
  clear b2 p1 r1 z1 B1
  go_wp2_with (with_reducible refine storeU rfl _ _ rfl (w.heap.size + 1 + 1) rfl rfl z2.out ?_)
  (try simp only [Exit.inBlock, Exit.then])
  refine bodyPost_ret (v := .tuple #[.agg #[.int .i64 0, .int .i64 0, .int .i64 0, .int .i64 0, .int .i64 0, .int .i64 0, .int .i64 0, .int .i64 0, .int .i64 0, .int .i64 0, .int .i64 0, .bool false, .slice none 0 0, .slice none 0 0], .int .i64 2]) ?_ rfl (uread_no HF.out (by omega) (K.setRow_below B2.out (by omega) _))
  exact K.resCellTmp Try.results18 _ _ _ (w.heap.size + 1 + 1) _ rfl (run_loadVar_row _ _ 36 36 _ (0, 0) _ (setRow_heap _ _ _ _ _ _ z2.out) Try.underlying36 rfl info_up)

set_option maxHeartbeats 4000000 in
theorem urI_short1 (w : World) (A : Option Addr) (n c : Nat) (bs : List UInt8) (p : Int) (s t : Ad) (hr : RB w w.heap.size A bs) (hl : bs.length = n) (hn : n ≤ 1500) (hp : pairA s t = true) (hq : upTo p 255 = true) (hs : s.k = 4 ∨ s.k = 6) (hk : kindU p s.k = 1) (hf : uhC bs p s t = 3) (h3 : n < 20) : Calls Try.prog 18 #[.slice A n c, .int .i64 p, .agg #[.int .i64 s.k, .int .i64 s.a, .int .i64 s.b, .int .i64 s.c, .int .i64 s.d], .agg #[.int .i64 t.k, .int .i64 t.a, .int .i64 t.b, .int .i64 t.c, .int .i64 t.d]] w (URead bs p s t w) := by
  have HP := Lib.hid hp
  have HPR := Lib.hid hq
  have HQ := Lib.hid hq
  have HKQ := Lib.hid hk
  have HSK := Lib.hid hs
  have HF := Lib.hid hf
  have hI2 : (n : Int) < 20 := by omega
  clear hf
  have R0 := Lib.hid hr
  have HL := Lib.hid hl
  have hI : ¬ (1500 : Int) < (n : Int) := by omega
  clear hr hp hq hk hs hl
  have p0 : Hid ((((w.alloc (.cells #[.int .i64 s.k, .int .i64 s.a, .int .i64 s.b, .int .i64 s.c, .int .i64 s.d] 27)).alloc (.cells #[.int .i64 t.k, .int .i64 t.a, .int .i64 t.b, .int .i64 t.c, .int .i64 t.d] 27)).alloc (.cells #[.int .i64 0, .int .i64 0, .int .i64 0, .int .i64 0, .int .i64 0, .int .i64 0, .int .i64 0, .int .i64 0, .int .i64 0, .int .i64 0, .int .i64 0, .bool false, .slice none 0 0, .slice none 0 0] 36)).heap[w.heap.size]? = some (.cells #[.int .i64 s.k, .int .i64 s.a, .int .i64 s.b, .int .i64 s.c, .int .i64 s.d] 27)) := Lib.hid (by repeat (first | exact K.newAt (by first | rfl | (simp; done)) | refine K.oldAt (by first | (simp; done) | (simp; omega)) ?_))
  have r0 : Hid ((((w.alloc (.cells #[.int .i64 s.k, .int .i64 s.a, .int .i64 s.b, .int .i64 s.c, .int .i64 s.d] 27)).alloc (.cells #[.int .i64 t.k, .int .i64 t.a, .int .i64 t.b, .int .i64 t.c, .int .i64 t.d] 27)).alloc (.cells #[.int .i64 0, .int .i64 0, .int .i64 0, .int .i64 0, .int .i64 0, .int .i64 0, .int .i64 0, .int .i64 0, .int .i64 0, .int .i64 0, .int .i64 0, .bool false, .slice none 0 0, .slice none 0 0] 36)).heap[w.heap.size + 1]? = some (.cells #[.int .i64 t.k, .int .i64 t.a, .int .i64 t.b, .int .i64 t.c, .int .i64 t.d] 27)) := Lib.hid (by repeat (first | exact K.newAt (by first | rfl | (simp; done)) | refine K.oldAt (by first | (simp; done) | (simp; omega)) ?_))
  have z0 : Hid ((((w.alloc (.cells #[.int .i64 s.k, .int .i64 s.a, .int .i64 s.b, .int .i64 s.c, .int .i64 s.d] 27)).alloc (.cells #[.int .i64 t.k, .int .i64 t.a, .int .i64 t.b, .int .i64 t.c, .int .i64 t.d] 27)).alloc (.cells #[.int .i64 0, .int .i64 0, .int .i64 0, .int .i64 0, .int .i64 0, .int .i64 0, .int .i64 0, .int .i64 0, .int .i64 0, .int .i64 0, .int .i64 0, .bool false, .slice none 0 0, .slice none 0 0] 36)).heap[w.heap.size + 1 + 1]? = some (.cells #[.int .i64 0, .int .i64 0, .int .i64 0, .int .i64 0, .int .i64 0, .int .i64 0, .int .i64 0, .int .i64 0, .int .i64 0, .int .i64 0, .int .i64 0, .bool false, .slice none 0 0, .slice none 0 0] 36)) := Lib.hid (by repeat (first | exact K.newAt (by first | rfl | (simp; done)) | refine K.oldAt (by first | (simp; done) | (simp; omega)) ?_))
  have B0 : Hid (Below w.heap.size w (((w.alloc (.cells #[.int .i64 s.k, .int .i64 s.a, .int .i64 s.b, .int .i64 s.c, .int .i64 s.d] 27)).alloc (.cells #[.int .i64 t.k, .int .i64 t.a, .int .i64 t.b, .int .i64 t.c, .int .i64 t.d] 27)).alloc (.cells #[.int .i64 0, .int .i64 0, .int .i64 0, .int .i64 0, .int .i64 0, .int .i64 0, .int .i64 0, .int .i64 0, .int .i64 0, .int .i64 0, .int .i64 0, .bool false, .slice none 0 0, .slice none 0 0] 36))) := Lib.hid (by go_grown)
  go_enter Try.func18, Try.ntmps18
  go_wp2_with (first | (with_reducible refine loadA rfl _ rfl w.heap.size rfl p0.out ?_) | (with_reducible refine loadA rfl _ rfl (w.heap.size + 1) rfl r0.out ?_))
  refine Calls.mono (pairIB s t true HP.out _) ?_
  rintro e w1 ⟨rfl, b1⟩
  have p1 := Lib.hid (K.below b1 p0.out)
  have r1 := Lib.hid (K.below b1 r0.out)
  have z1 := Lib.hid (K.below b1 z0.out)
  have B1 := Lib.hid (bthen B0.out b1)
  clear b1 p0 r0 z0 B0
  go_wp2_with fail
  refine Calls.mono (protoB p true _ HQ.out) ?_
  rintro e w2 ⟨rfl, b2⟩
  have p2 := Lib.hid (K.below b2 p1.out)
  have r2 := Lib.hid (K.below b2 r1.out)
  have z2 := Lib.hid (K.below b2 z1.out)
  have B2 := Lib.hid (bthen B1.out b2)
  clear b2 p1 r1 z1 B1
  have d0 := K.cell p2.out 0 _ rfl
  go_wp2_with fail
  clear d0
  refine Calls.mono (kind_impl p s.k 1 _ HPR.out HSK.out HKQ.out) ?_
  rintro e w3 ⟨rfl, b3⟩
  have p3 := Lib.hid (K.below b3 p2.out)
  have r3 := Lib.hid (K.below b3 r2.out)
  have z3 := Lib.hid (K.below b3 z2.out)
  have B3 := Lib.hid (bthen B2.out b3)
  clear b3 p2 r2 z2 B2
  go_wp2_with fail
  refine Calls.mono (formatOfC (Uh.mk 1 0 0 0 0 0 0 0 0 0 0 false) none none 0 0 0 0 _) ?_
  rintro e w4 ⟨rfl, rfl⟩
  simp only [show ∀ v, fmtV 1 v = .iface 110 v from fun _ => rfl]
  have b4 := Joins.below_alloc1 w3 (.cells #[.int .i64 1, .int .i64 0, .int .i64 0, .int .i64 0, .int .i64 0, .int .i64 0, .int .i64 0, .int .i64 0, .int .i64 0, .int .i64 0, .int .i64 0, .bool false, .slice none 0 0, .slice none 0 0] 36)
  have p4 := Lib.hid (K.below b4 p3.out)
  have r4 := Lib.hid (K.below b4 r3.out)
  have z4 := Lib.hid (K.below b4 z3.out)
  have B4 := Lib.hid (bthen B3.out b4)
  clear b4 p3 r3 z3 B3
  generalize w3.alloc (.cells #[.int .i64 1, .int .i64 0, .int .i64 0, .int .i64 0, .int .i64 0, .int .i64 0, .int .i64 0, .int .i64 0, .int .i64 0, .int .i64 0, .int .i64 0, .bool false, .slice none 0 0, .slice none 0 0] 36) = w4 at p4 r4 z4 B4 ⊢
  go_wp2_with fail
  refine Calls.mono (head_tcp (Uh.mk 1 0 0 0 0 0 0 0 0 0 0 false) none none 0 0 0 0 _ (by omega)) ?_
  rintro e w5 ⟨rfl, b5⟩
  simp only [show (20 : Int) + ((0 : Nat) : Int) = 20 from rfl]
  have p5 := Lib.hid (K.below b5 p4.out)
  have r5 := Lib.hid (K.below b5 r4.out)
  have z5 := Lib.hid (K.below b5 z4.out)
  have B5 := Lib.hid (bthen B4.out b5)
  clear b5 p4 r4 z4 B4
  go_wp2_with (with_reducible refine storeU rfl _ _ rfl (w.heap.size + 1 + 1) rfl rfl z5.out ?_)
  (try simp only [Exit.inBlock, Exit.then])
  refine bodyPost_ret (v := .tuple #[.agg #[.int .i64 0, .int .i64 0, .int .i64 0, .int .i64 0, .int .i64 0, .int .i64 0, .int .i64 0, .int .i64 0, .int .i64 0, .int .i64 0, .int .i64 0, .bool false, .slice none 0 0, .slice none 0 0], .int .i64 3]) ?_ rfl (uread_no HF.out (by omega) (K.setRow_below B5.out (by omega) _))
  exact K.resCellTmp Try.results18 _ _ _ (w.heap.size + 1 + 1) _ rfl (run_loadVar_row _ _ 36 36 _ (0, 0) _ (setRow_heap _ _ _ _ _ _ z5.out) Try.underlying36 rfl info_up)

set_option maxHeartbeats 4000000 in
theorem urI_short2 (w : World) (A : Option Addr) (n c : Nat) (bs : List UInt8) (p : Int) (s t : Ad) (hr : RB w w.heap.size A bs) (hl : bs.length = n) (hn : n ≤ 1500) (hp : pairA s t = true) (hq : upTo p 255 = true) (hs : s.k = 4 ∨ s.k = 6) (hk : kindU p s.k = 2) (hf : uhC bs p s t = 3) (h3 : n < 8) : Calls Try.prog 18 #[.slice A n c, .int .i64 p, .agg #[.int .i64 s.k, .int .i64 s.a, .int .i64 s.b, .int .i64 s.c, .int .i64 s.d], .agg #[.int .i64 t.k, .int .i64 t.a, .int .i64 t.b, .int .i64 t.c, .int .i64 t.d]] w (URead bs p s t w) := by
  have HP := Lib.hid hp
  have HPR := Lib.hid hq
  have HQ := Lib.hid hq
  have HKQ := Lib.hid hk
  have HSK := Lib.hid hs
  have HF := Lib.hid hf
  have hI2 : (n : Int) < 8 := by omega
  clear hf
  have R0 := Lib.hid hr
  have HL := Lib.hid hl
  have hI : ¬ (1500 : Int) < (n : Int) := by omega
  clear hr hp hq hk hs hl
  have p0 : Hid ((((w.alloc (.cells #[.int .i64 s.k, .int .i64 s.a, .int .i64 s.b, .int .i64 s.c, .int .i64 s.d] 27)).alloc (.cells #[.int .i64 t.k, .int .i64 t.a, .int .i64 t.b, .int .i64 t.c, .int .i64 t.d] 27)).alloc (.cells #[.int .i64 0, .int .i64 0, .int .i64 0, .int .i64 0, .int .i64 0, .int .i64 0, .int .i64 0, .int .i64 0, .int .i64 0, .int .i64 0, .int .i64 0, .bool false, .slice none 0 0, .slice none 0 0] 36)).heap[w.heap.size]? = some (.cells #[.int .i64 s.k, .int .i64 s.a, .int .i64 s.b, .int .i64 s.c, .int .i64 s.d] 27)) := Lib.hid (by repeat (first | exact K.newAt (by first | rfl | (simp; done)) | refine K.oldAt (by first | (simp; done) | (simp; omega)) ?_))
  have r0 : Hid ((((w.alloc (.cells #[.int .i64 s.k, .int .i64 s.a, .int .i64 s.b, .int .i64 s.c, .int .i64 s.d] 27)).alloc (.cells #[.int .i64 t.k, .int .i64 t.a, .int .i64 t.b, .int .i64 t.c, .int .i64 t.d] 27)).alloc (.cells #[.int .i64 0, .int .i64 0, .int .i64 0, .int .i64 0, .int .i64 0, .int .i64 0, .int .i64 0, .int .i64 0, .int .i64 0, .int .i64 0, .int .i64 0, .bool false, .slice none 0 0, .slice none 0 0] 36)).heap[w.heap.size + 1]? = some (.cells #[.int .i64 t.k, .int .i64 t.a, .int .i64 t.b, .int .i64 t.c, .int .i64 t.d] 27)) := Lib.hid (by repeat (first | exact K.newAt (by first | rfl | (simp; done)) | refine K.oldAt (by first | (simp; done) | (simp; omega)) ?_))
  have z0 : Hid ((((w.alloc (.cells #[.int .i64 s.k, .int .i64 s.a, .int .i64 s.b, .int .i64 s.c, .int .i64 s.d] 27)).alloc (.cells #[.int .i64 t.k, .int .i64 t.a, .int .i64 t.b, .int .i64 t.c, .int .i64 t.d] 27)).alloc (.cells #[.int .i64 0, .int .i64 0, .int .i64 0, .int .i64 0, .int .i64 0, .int .i64 0, .int .i64 0, .int .i64 0, .int .i64 0, .int .i64 0, .int .i64 0, .bool false, .slice none 0 0, .slice none 0 0] 36)).heap[w.heap.size + 1 + 1]? = some (.cells #[.int .i64 0, .int .i64 0, .int .i64 0, .int .i64 0, .int .i64 0, .int .i64 0, .int .i64 0, .int .i64 0, .int .i64 0, .int .i64 0, .int .i64 0, .bool false, .slice none 0 0, .slice none 0 0] 36)) := Lib.hid (by repeat (first | exact K.newAt (by first | rfl | (simp; done)) | refine K.oldAt (by first | (simp; done) | (simp; omega)) ?_))
  have B0 : Hid (Below w.heap.size w (((w.alloc (.cells #[.int .i64 s.k, .int .i64 s.a, .int .i64 s.b, .int .i64 s.c, .int .i64 s.d] 27)).alloc (.cells #[.int .i64 t.k, .int .i64 t.a, .int .i64 t.b, .int .i64 t.c, .int .i64 t.d] 27)).alloc (.cells #[.int .i64 0, .int .i64 0, .int .i64 0, .int .i64 0, .int .i64 0, .int .i64 0, .int .i64 0, .int .i64 0, .int .i64 0, .int .i64 0, .int .i64 0, .bool false, .slice none 0 0, .slice none 0 0] 36))) := Lib.hid (by go_grown)
  go_enter Try.func18, Try.ntmps18
  go_wp2_with (first | (with_reducible refine loadA rfl _ rfl w.heap.size rfl p0.out ?_) | (with_reducible refine loadA rfl _ rfl (w.heap.size + 1) rfl r0.out ?_))
  refine Calls.mono (pairIB s t true HP.out _) ?_
  rintro e w1 ⟨rfl, b1⟩
  have p1 := Lib.hid (K.below b1 p0.out)
  have r1 := Lib.hid (K.below b1 r0.out)
  have z1 := Lib.hid (K.below b1 z0.out)
  have B1 := Lib.hid (bthen B0.out b1)
  clear b1 p0 r0 z0 B0
  go_wp2_with fail
  refine Calls.mono (protoB p true _ HQ.out) ?_
  rintro e w2 ⟨rfl, b2⟩
  have p2 := Lib.hid (K.below b2 p1.out)
  have r2 := Lib.hid (K.below b2 r1.out)
  have z2 := Lib.hid (K.below b2 z1.out)
  have B2 := Lib.hid (bthen B1.out b2)
  clear b2 p1 r1 z1 B1
  have d0 := K.cell p2.out 0 _ rfl
  go_wp2_with fail
  clear d0
  refine Calls.mono (kind_impl p s.k 2 _ HPR.out HSK.out HKQ.out) ?_
  rintro e w3 ⟨rfl, b3⟩
  have p3 := Lib.hid (K.below b3 p2.out)
  have r3 := Lib.hid (K.below b3 r2.out)
  have z3 := Lib.hid (K.below b3 z2.out)
  have B3 := Lib.hid (bthen B2.out b3)
  clear b3 p2 r2 z2 B2
  go_wp2_with fail
  refine Calls.mono (formatOfC (Uh.mk 2 0 0 0 0 0 0 0 0 0 0 false) none none 0 0 0 0 _) ?_
  rintro e w4 ⟨rfl, rfl⟩
  simp only [show ∀ v, fmtV 2 v = .iface 111 v from fun _ => rfl]
  have b4 := Joins.below_alloc1 w3 (.cells #[.int .i64 2, .int .i64 0, .int .i64 0, .int .i64 0, .int .i64 0, .int .i64 0, .int .i64 0, .int .i64 0, .int .i64 0, .int .i64 0, .int .i64 0, .bool false, .slice none 0 0, .slice none 0 0] 36)
  have p4 := Lib.hid (K.below b4 p3.out)
  have r4 := Lib.hid (K.below b4 r3.out)
  have z4 := Lib.hid (K.below b4 z3.out)
  have B4 := Lib.hid (bthen B3.out b4)
  clear b4 p3 r3 z3 B3
  generalize w3.alloc (.cells #[.int .i64 2, .int .i64 0, .int .i64 0, .int .i64 0, .int .i64 0, .int .i64 0, .int .i64 0, .int .i64 0, .int .i64 0, .int .i64 0, .int .i64 0, .bool false, .slice none 0 0, .slice none 0 0] 36) = w4 at p4 r4 z4 B4 ⊢
  go_wp2_with fail
  refine Calls.mono (head_udp (Uh.mk 2 0 0 0 0 0 0 0 0 0 0 false) none none 0 0 0 0 _ (by omega)) ?_
  rintro e w5 ⟨rfl, b5⟩
  have p5 := Lib.hid (K.below b5 p4.out)
  have r5 := Lib.hid (K.below b5 r4.out)
  have z5 := Lib.hid (K.below b5 z4.out)
  have B5 := Lib.hid (bthen B4.out b5)
  clear b5 p4 r4 z4 B4
  go_wp2_with (with_reducible refine storeU rfl _ _ rfl (w.heap.size + 1 + 1) rfl rfl z5.out ?_)
  (try simp only [Exit.inBlock, Exit.then])
  refine bodyPost_ret (v := .tuple #[.agg #[.int .i64 0, .int .i64 0, .int .i64 0, .int .i64 0, .int .i64 0, .int .i64 0, .int .i64 0, .int .i64 0, .int .i64 0, .int .i64 0, .int .i64 0, .bool false, .slice none 0 0, .slice none 0 0], .int .i64 3]) ?_ rfl (uread_no HF.out (by omega) (K.setRow_below B5.out (by omega) _))
  exact K.resCellTmp Try.results18 _ _ _ (w.heap.size + 1 + 1) _ rfl (run_loadVar_row _ _ 36 36 _ (0, 0) _ (setRow_heap _ _ _ _ _ _ z5.out) Try.underlying36 rfl info_up)

set_option maxHeartbeats 4000000 in
theorem urI_short3 (w : World) (A : Option Addr) (n c : Nat) (bs : List UInt8) (p : Int) (s t : Ad) (hr : RB w w.heap.size A bs) (hl : bs.length = n) (hn : n ≤ 1500) (hp : pairA s t = true) (hq : upTo p 255 = true) (hs : s.k = 4 ∨ s.k = 6) (hk : kindU p s.k = 3) (hf : uhC bs p s t = 3) (h3 : n < 8) : Calls Try.prog 18 #[.slice A n c, .int .i64 p, .agg #[.int .i64 s.k, .int .i64 s.a, .int .i64 s.b, .int .i64 s.c, .int .i64 s.d], .agg #[.int .i64 t.k, .int .i64 t.a, .int .i64 t.b, .int .i64 t.c, .int .i64 t.d]] w (URead bs p s t w) := by
  have HP := Lib.hid hp
  have HPR := Lib.hid hq
  have HQ := Lib.hid hq
  have HKQ := Lib.hid hk
  have HSK := Lib.hid hs
  have HF := Lib.hid hf
  have hI2 : (n : Int) < 8 := by omega
  clear hf
  have R0 := Lib.hid hr
  have HL := Lib.hid hl
  have hI : ¬ (1500 : Int) < (n : Int) := by omega
  clear hr hp hq hk hs hl
  have p0 : Hid ((((w.alloc (.cells #[.int .i64 s.k, .int .i64 s.a, .int .i64 s.b, .int .i64 s.c, .int .i64 s.d] 27)).alloc (.cells #[.int .i64 t.k, .int .i64 t.a, .int .i64 t.b, .int .i64 t.c, .int .i64 t.d] 27)).alloc (.cells #[.int .i64 0, .int .i64 0, .int .i64 0, .int .i64 0, .int .i64 0, .int .i64 0, .int .i64 0, .int .i64 0, .int .i64 0, .int .i64 0, .int .i64 0, .bool false, .slice none 0 0, .slice none 0 0] 36)).heap[w.heap.size]? = some (.cells #[.int .i64 s.k, .int .i64 s.a, .int .i64 s.b, .int .i64 s.c, .int .i64 s.d] 27)) := Lib.hid (by repeat (first | exact K.newAt (by first | rfl | (simp; done)) | refine K.oldAt (by first | (simp; done) | (simp; omega)) ?_))
  have r0 : Hid ((((w.alloc (.cells #[.int .i64 s.k, .int .i64 s.a, .int .i64 s.b, .int .i64 s.c, .int .i64 s.d] 27)).alloc (.cells #[.int .i64 t.k, .int .i64 t.a, .int .i64 t.b, .int .i64 t.c, .int .i64 t.d] 27)).alloc (.cells #[.int .i64 0, .int .i64 0, .int .i64 0, .int .i64 0, .int .i64 0, .int .i64 0, .int .i64 0, .int .i64 0, .int .i64 0, .int .i64 0, .int .i64 0, .bool false, .slice none 0 0, .slice none 0 0] 36)).heap[w.heap.size + 1]? = some (.cells #[.int .i64 t.k, .int .i64 t.a, .int .i64 t.b, .int .i64 t.c, .int .i64 t.d] 27)) := Lib.hid (by repeat (first | exact K.newAt (by first | rfl | (simp; done)) | refine K.oldAt (by first | (simp; done) | (simp; omega)) ?_))
  have z0 : Hid ((((w.alloc (.cells #[.int .i64 s.k, .int .i64 s.a, .int .i64 s.b, .int .i64 s.c, .int .i64 s.d] 27)).alloc (.cells #[.int .i64 t.k, .int .i64 t.a, .int .i64 t.b, .int .i64 t.c, .int .i64 t.d] 27)).alloc (.cells #[.int .i64 0, .int .i64 0, .int .i64 0, .int .i64 0, .int .i64 0, .int .i64 0, .int .i64 0, .int .i64 0, .int .i64 0, .int .i64 0, .int .i64 0, .bool false, .slice none 0 0, .slice none 0 0] 36)).heap[w.heap.size + 1 + 1]? = some (.cells #[.int .i64 0, .int .i64 0, .int .i64 0, .int .i64 0, .int .i64 0, .int .i64 0, .int .i64 0, .int .i64 0, .int .i64 0, .int .i64 0, .int .i64 0, .bool false, .slice none 0 0, .slice none 0 0] 36)) := Lib.hid (by repeat (first | exact K.newAt (by first | rfl | (simp; done)) | refine K.oldAt (by first | (simp; done) | (simp; omega)) ?_))
  have B0 : Hid (Below w.heap.size w (((w.alloc (.cells #[.int .i64 s.k, .int .i64 s.a, .int .i64 s.b, .int .i64 s.c, .int .i64 s.d] 27)).alloc (.cells #[.int .i64 t.k, .int .i64 t.a, .int .i64 t.b, .int .i64 t.c, .int .i64 t.d] 27)).alloc (.cells #[.int .i64 0, .int .i64 0, .int .i64 0, .int .i64 0, .int .i64 0, .int .i64 0, .int .i64 0, .int .i64 0, .int .i64 0, .int .i64 0, .int .i64 0, .bool false, .slice none 0 0, .slice none 0 0] 36))) := Lib.hid (by go_grown)
  go_enter Try.func18, Try.ntmps18
  go_wp2_with (first | (with_reducible refine loadA rfl _ rfl w.heap.size rfl p0.out ?_) | (with_reducible refine loadA rfl _ rfl (w.heap.size + 1) rfl r0.out ?_))
  refine Calls.mono (pairIB s t true HP.out _) ?_
  rintro e w1 ⟨rfl, b1⟩
  have p1 := Lib.hid (K.below b1 p0.out)
  have r1 := Lib.hid (K.below b1 r0.out)
  have z1 := Lib.hid (K.below b1 z0.out)
  have B1 := Lib.hid (bthen B0.out b1)
  clear b1 p0 r0 z0 B0
  go_wp2_with fail
  refine Calls.mono (protoB p true _ HQ.out) ?_
  rintro e w2 ⟨rfl, b2⟩
  have p2 := Lib.hid (K.below b2 p1.out)
  have r2 := Lib.hid (K.below b2 r1.out)
  have z2 := Lib.hid (K.below b2 z1.out)
  have B2 := Lib.hid (bthen B1.out b2)
  clear b2 p1 r1 z1 B1
  have d0 := K.cell p2.out 0 _ rfl
  go_wp2_with fail
  clear d0
  refine Calls.mono (kind_impl p s.k 3 _ HPR.out HSK.out HKQ.out) ?_
  rintro e w3 ⟨rfl, b3⟩
  have p3 := Lib.hid (K.below b3 p2.out)
  have r3 := Lib.hid (K.below b3 r2.out)
  have z3 := Lib.hid (K.below b3 z2.out)
  have B3 := Lib.hid (bthen B2.out b3)
  clear b3 p2 r2 z2 B2
  go_wp2_with fail
  refine Calls.mono (formatOfC (Uh.mk 3 0 0 0 0 0 0 0 0 0 0 false) none none 0 0 0 0 _) ?_
  rintro e w4 ⟨rfl, rfl⟩
  simp only [show ∀ v, fmtV 3 v = .iface 112 v from fun _ => rfl]
  have b4 := Joins.below_alloc1 w3 (.cells #[.int .i64 3, .int .i64 0, .int .i64 0, .int .i64 0, .int .i64 0, .int .i64 0, .int .i64 0, .int .i64 0, .int .i64 0, .int .i64 0, .int .i64 0, .bool false, .slice none 0 0, .slice none 0 0] 36)
  have p4 := Lib.hid (K.below b4 p3.out)
  have r4 := Lib.hid (K.below b4 r3.out)
  have z4 := Lib.hid (K.below b4 z3.out)
  have B4 := Lib.hid (bthen B3.out b4)
  clear b4 p3 r3 z3 B3
  generalize w3.alloc (.cells #[.int .i64 3, .int .i64 0, .int .i64 0, .int .i64 0, .int .i64 0, .int .i64 0, .int .i64 0, .int .i64 0, .int .i64 0, .int .i64 0, .int .i64 0, .bool false, .slice none 0 0, .slice none 0 0] 36) = w4 at p4 r4 z4 B4 ⊢
  go_wp2_with fail
  refine Calls.mono (head_icmp (Uh.mk 3 0 0 0 0 0 0 0 0 0 0 false) none none 0 0 0 0 _ (by omega)) ?_
  rintro e w5 ⟨rfl, b5⟩
  have p5 := Lib.hid (K.below b5 p4.out)
  have r5 := Lib.hid (K.below b5 r4.out)
  have z5 := Lib.hid (K.below b5 z4.out)
  have B5 := Lib.hid (bthen B4.out b5)
  clear b5 p4 r4 z4 B4
  go_wp2_with (with_reducible refine storeU rfl _ _ rfl (w.heap.size + 1 + 1) rfl rfl z5.out ?_)
  (try simp only [Exit.inBlock, Exit.then])
  refine bodyPost_ret (v := .tuple #[.agg #[.int .i64 0, .int .i64 0, .int .i64 0, .int .i64 0, .int .i64 0, .int .i64 0, .int .i64 0, .int .i64 0, .int .i64 0, .int .i64 0, .int .i64 0, .bool false, .slice none 0 0, .slice none 0 0], .int .i64 3]) ?_ rfl (uread_no HF.out (by omega) (K.setRow_below B5.out (by omega) _))
  exact K.resCellTmp Try.results18 _ _ _ (w.heap.size + 1 + 1) _ rfl (run_loadVar_row _ _ 36 36 _ (0, 0) _ (setRow_heap _ _ _ _ _ _ z5.out) Try.underlying36 rfl info_up)

set_option maxHeartbeats 4000000 in
theorem urI_code1 (w : World) (a : Addr) (n c : Nat) (bs : List UInt8) (p : Int) (s t : Ad) (hr : RB w w.heap.size (some a) bs) (hl : bs.length = n) (hc : n ≤ c) (hn : n ≤ 1500) (hp : pairA s t = true) (hq : upTo p 255 = true) (hs : s.k = 4 ∨ s.k = 6) (hk : kindU p s.k = 1) (hf : uhC bs p s t = 4) (h3 : 20 ≤ n) (hu : ∀ (v : World) (g : Nat), Rp v g (some a) n c bs 0 → Calls Try.prog 49 #[.iface 110 (.agg #[.int .i64 1, .int .i64 0, .int .i64 0, .int .i64 0, .int .i64 0, .int .i64 0, .int .i64 0, .int .i64 0, .int .i64 0, .int .i64 0, .int .i64 0, .bool false, .slice none 0 0, .slice none 0 0]), .pointer (some ⟨g, 0, none⟩)] v (TakeNo 4 g v)) : Calls Try.prog 18 #[.slice (some a) n c, .int .i64 p, .agg #[.int .i64 s.k, .int .i64 s.a, .int .i64 s.b, .int .i64 s.c, .int .i64 s.d], .agg #[.int .i64 t.k, .int .i64 t.a, .int .i64 t.b, .int .i64 t.c, .int .i64 t.d]] w (URead bs p s t w) := by
  have HP := Lib.hid hp
  have HPR := Lib.hid hq
  have HQ := Lib.hid hq
  have HKQ := Lib.hid hk
  have HSK := Lib.hid hs
  have HF := Lib.hid hf
  have HU := Lib.hid hu
  have hI2 : ¬ (n : Int) < 20 := by omega
  clear hf hu
  have R0 := Lib.hid hr
  have HL := Lib.hid hl
  have hI : ¬ (1500 : Int) < (n : Int) := by omega
  clear hr hp hq hk hs hl
  have p0 : Hid ((((w.alloc (.cells #[.int .i64 s.k, .int .i64 s.a, .int .i64 s.b, .int .i64 s.c, .int .i64 s.d] 27)).alloc (.cells #[.int .i64 t.k, .int .i64 t.a, .int .i64 t.b, .int .i64 t.c, .int .i64 t.d] 27)).alloc (.cells #[.int .i64 0, .int .i64 0, .int .i64 0, .int .i64 0, .int .i64 0, .int .i64 0, .int .i64 0, .int .i64 0, .int .i64 0, .int .i64 0, .int .i64 0, .bool false, .slice none 0 0, .slice none 0 0] 36)).heap[w.heap.size]? = some (.cells #[.int .i64 s.k, .int .i64 s.a, .int .i64 s.b, .int .i64 s.c, .int .i64 s.d] 27)) := Lib.hid (by repeat (first | exact K.newAt (by first | rfl | (simp; done)) | refine K.oldAt (by first | (simp; done) | (simp; omega)) ?_))
  have r0 : Hid ((((w.alloc (.cells #[.int .i64 s.k, .int .i64 s.a, .int .i64 s.b, .int .i64 s.c, .int .i64 s.d] 27)).alloc (.cells #[.int .i64 t.k, .int .i64 t.a, .int .i64 t.b, .int .i64 t.c, .int .i64 t.d] 27)).alloc (.cells #[.int .i64 0, .int .i64 0, .int .i64 0, .int .i64 0, .int .i64 0, .int .i64 0, .int .i64 0, .int .i64 0, .int .i64 0, .int .i64 0, .int .i64 0, .bool false, .slice none 0 0, .slice none 0 0] 36)).heap[w.heap.size + 1]? = some (.cells #[.int .i64 t.k, .int .i64 t.a, .int .i64 t.b, .int .i64 t.c, .int .i64 t.d] 27)) := Lib.hid (by repeat (first | exact K.newAt (by first | rfl | (simp; done)) | refine K.oldAt (by first | (simp; done) | (simp; omega)) ?_))
  have z0 : Hid ((((w.alloc (.cells #[.int .i64 s.k, .int .i64 s.a, .int .i64 s.b, .int .i64 s.c, .int .i64 s.d] 27)).alloc (.cells #[.int .i64 t.k, .int .i64 t.a, .int .i64 t.b, .int .i64 t.c, .int .i64 t.d] 27)).alloc (.cells #[.int .i64 0, .int .i64 0, .int .i64 0, .int .i64 0, .int .i64 0, .int .i64 0, .int .i64 0, .int .i64 0, .int .i64 0, .int .i64 0, .int .i64 0, .bool false, .slice none 0 0, .slice none 0 0] 36)).heap[w.heap.size + 1 + 1]? = some (.cells #[.int .i64 0, .int .i64 0, .int .i64 0, .int .i64 0, .int .i64 0, .int .i64 0, .int .i64 0, .int .i64 0, .int .i64 0, .int .i64 0, .int .i64 0, .bool false, .slice none 0 0, .slice none 0 0] 36)) := Lib.hid (by repeat (first | exact K.newAt (by first | rfl | (simp; done)) | refine K.oldAt (by first | (simp; done) | (simp; omega)) ?_))
  have B0 : Hid (Below w.heap.size w (((w.alloc (.cells #[.int .i64 s.k, .int .i64 s.a, .int .i64 s.b, .int .i64 s.c, .int .i64 s.d] 27)).alloc (.cells #[.int .i64 t.k, .int .i64 t.a, .int .i64 t.b, .int .i64 t.c, .int .i64 t.d] 27)).alloc (.cells #[.int .i64 0, .int .i64 0, .int .i64 0, .int .i64 0, .int .i64 0, .int .i64 0, .int .i64 0, .int .i64 0, .int .i64 0, .int .i64 0, .int .i64 0, .bool false, .slice none 0 0, .slice none 0 0] 36))) := Lib.hid (by go_grown)
  go_enter Try.func18, Try.ntmps18
  go_wp2_with (first | (with_reducible refine loadA rfl _ rfl w.heap.size rfl p0.out ?_) | (with_reducible refine loadA rfl _ rfl (w.heap.size + 1) rfl r0.out ?_))
  refine Calls.mono (pairIB s t true HP.out _) ?_
  rintro e w1 ⟨rfl, b1⟩
  have p1 := Lib.hid (K.below b1 p0.out)
  have r1 := Lib.hid (K.below b1 r0.out)
  have z1 := Lib.hid (K.below b1 z0.out)
  have B1 := Lib.hid (bthen B0.out b1)
  clear b1 p0 r0 z0 B0
  go_wp2_with fail
  refine Calls.mono (protoB p true _ HQ.out) ?_
  rintro e w2 ⟨rfl, b2⟩
  have p2 := Lib.hid (K.below b2 p1.out)
  have r2 := Lib.hid (K.below b2 r1.out)
  have z2 := Lib.hid (K.below b2 z1.out)
  have B2 := Lib.hid (bthen B1.out b2)
  clear b2 p1 r1 z1 B1
  have d0 := K.cell p2.out 0 _ rfl
  go_wp2_with fail
  clear d0
  refine Calls.mono (kind_impl p s.k 1 _ HPR.out HSK.out HKQ.out) ?_
  rintro e w3 ⟨rfl, b3⟩
  have p3 := Lib.hid (K.below b3 p2.out)
  have r3 := Lib.hid (K.below b3 r2.out)
  have z3 := Lib.hid (K.below b3 z2.out)
  have B3 := Lib.hid (bthen B2.out b3)
  clear b3 p2 r2 z2 B2
  go_wp2_with fail
  refine Calls.mono (formatOfC (Uh.mk 1 0 0 0 0 0 0 0 0 0 0 false) none none 0 0 0 0 _) ?_
  rintro e w4 ⟨rfl, rfl⟩
  simp only [show ∀ v, fmtV 1 v = .iface 110 v from fun _ => rfl]
  have b4 := Joins.below_alloc1 w3 (.cells #[.int .i64 1, .int .i64 0, .int .i64 0, .int .i64 0, .int .i64 0, .int .i64 0, .int .i64 0, .int .i64 0, .int .i64 0, .int .i64 0, .int .i64 0, .bool false, .slice none 0 0, .slice none 0 0] 36)
  have p4 := Lib.hid (K.below b4 p3.out)
  have r4 := Lib.hid (K.below b4 r3.out)
  have z4 := Lib.hid (K.below b4 z3.out)
  have B4 := Lib.hid (bthen B3.out b4)
  clear b4 p3 r3 z3 B3
  generalize w3.alloc (.cells #[.int .i64 1, .int .i64 0, .int .i64 0, .int .i64 0, .int .i64 0, .int .i64 0, .int .i64 0, .int .i64 0, .int .i64 0, .int .i64 0, .int .i64 0, .bool false, .slice none 0 0, .slice none 0 0] 36) = w4 at p4 r4 z4 B4 ⊢
  go_wp2_with fail
  refine Calls.mono (head_tcp (Uh.mk 1 0 0 0 0 0 0 0 0 0 0 false) none none 0 0 0 0 _ (by omega)) ?_
  rintro e w5 ⟨rfl, b5⟩
  simp only [show (20 : Int) + ((0 : Nat) : Int) = 20 from rfl]
  have p5 := Lib.hid (K.below b5 p4.out)
  have r5 := Lib.hid (K.below b5 r4.out)
  have z5 := Lib.hid (K.below b5 z4.out)
  have B5 := Lib.hid (bthen B4.out b5)
  clear b5 p4 r4 z4 B4
  have p6 := Lib.hid (K.old p5.out (.cells #[.slice (some a) n c, .int .i64 0] 79))
  have r6 := Lib.hid (K.old r5.out (.cells #[.slice (some a) n c, .int .i64 0] 79))
  have z6 := Lib.hid (K.old z5.out (.cells #[.slice (some a) n c, .int .i64 0] 79))
  have lw5 : w.heap.size + 1 + 1 < w5.heap.size := K.lt z5.out
  have B6 := Lib.hid (bthen B5.out (Joins.below_alloc1 w5 (.cells #[.slice (some a) n c, .int .i64 0] 79)))
  have RR : Hid (Rp (w5.alloc (.cells #[.slice (some a) n c, .int .i64 0] 79)) w5.heap.size (some a) n c bs 0) := Lib.hid ⟨K.new w5 _, (R0.out.below B6.out).more (by omega), HL.out, by omega, by omega⟩
  go_wp2_with fail
  clear p5 r5 z5 B5
  refine Calls.mono (HU.out _ _ RR.out) ?_
  rintro e w6 ⟨rfl, gg⟩
  simp only [Uh.zero]
  have p7 := Lib.hid (K.kept gg p6.out (fun u hu => by cases hu; omega))
  have r7 := Lib.hid (K.kept gg r6.out (fun u hu => by cases hu; omega))
  have z7 := Lib.hid (K.kept gg z6.out (fun u hu => by cases hu; omega))
  have B7 := Lib.hid (bgrown B6.out gg (fun u hu => by cases hu; omega))
  clear RR p6 r6 z6 B6
  have p8 := Lib.hid (K.old p7.out (.cells #[.int .i64 0, .int .i64 0, .int .i64 0, .int .i64 0, .int .i64 0, .int .i64 0, .int .i64 0, .int .i64 0, .int .i64 0, .int .i64 0, .int .i64 0, .bool false, .slice none 0 0, .slice none 0 0] 36))
  have r8 := Lib.hid (K.old r7.out (.cells #[.int .i64 0, .int .i64 0, .int .i64 0, .int .i64 0, .int .i64 0, .int .i64 0, .int .i64 0, .int .i64 0, .int .i64 0, .int .i64 0, .int .i64 0, .bool false, .slice none 0 0, .slice none 0 0] 36))
  have z8 := Lib.hid (K.old z7.out (.cells #[.int .i64 0, .int .i64 0, .int .i64 0, .int .i64 0, .int .i64 0, .int .i64 0, .int .i64 0, .int .i64 0, .int .i64 0, .int .i64 0, .int .i64 0, .bool false, .slice none 0 0, .slice none 0 0] 36))
  have B8 := Lib.hid (bthen B7.out (Joins.below_alloc1 w6 (.cells #[.int .i64 0, .int .i64 0, .int .i64 0, .int .i64 0, .int .i64 0, .int .i64 0, .int .i64 0, .int .i64 0, .int .i64 0, .int .i64 0, .int .i64 0, .bool false, .slice none 0 0, .slice none 0 0] 36)))
  go_wp2_with (first | (with_reducible refine storeNewU rfl _ _ rfl rfl rfl ?_) | (with_reducible refine storeU rfl _ _ rfl (w.heap.size + 1 + 1) rfl rfl z8.out ?_))
  (try simp only [Exit.inBlock, Exit.then])
  refine bodyPost_ret (v := .tuple #[.agg #[.int .i64 0, .int .i64 0, .int .i64 0, .int .i64 0, .int .i64 0, .int .i64 0, .int .i64 0, .int .i64 0, .int .i64 0, .int .i64 0, .int .i64 0, .bool false, .slice none 0 0, .slice none 0 0], .int .i64 4]) ?_ rfl (uread_no HF.out (by omega) (K.setRow_below B8.out (by omega) _))
  exact K.resCellTmp Try.results18 _ _ _ (w.heap.size + 1 + 1) _ rfl (run_loadVar_row _ _ 36 36 _ (0, 0) _ (setRow_heap _ _ _ _ _ _ z8.out) Try.underlying36 rfl info_up)

set_option maxHeartbeats 4000000 in
theorem urI_code2 (w : World) (a : Addr) (n c : Nat) (bs : List UInt8) (p : Int) (s t : Ad) (hr : RB w w.heap.size (some a) bs) (hl : bs.length = n) (hc : n ≤ c) (hn : n ≤ 1500) (hp : pairA s t = true) (hq : upTo p 255 = true) (hs : s.k = 4 ∨ s.k = 6) (hk : kindU p s.k = 2) (hf : uhC bs p s t = 5) (h3 : 8 ≤ n) (hu : ∀ (v : World) (g : Nat), Rp v g (some a) n c bs 0 → Calls Try.prog 49 #[.iface 111 (.agg #[.int .i64 2, .int .i64 0, .int .i64 0, .int .i64 0, .int .i64 0, .int .i64 0, .int .i64 0, .int .i64 0, .int .i64 0, .int .i64 0, .int .i64 0, .bool false, .slice none 0 0, .slice none 0 0]), .pointer (some ⟨g, 0, none⟩)] v (TakeNo 5 g v)) : Calls Try.prog 18 #[.slice (some a) n c, .int .i64 p, .agg #[.int .i64 s.k, .int .i64 s.a, .int .i64 s.b, .int .i64 s.c, .int .i64 s.d], .agg #[.int .i64 t.k, .int .i64 t.a, .int .i64 t.b, .int .i64 t.c, .int .i64 t.d]] w (URead bs p s t w) := by
  have HP := Lib.hid hp
  have HPR := Lib.hid hq
  have HQ := Lib.hid hq
  have HKQ := Lib.hid hk
  have HSK := Lib.hid hs
  have HF := Lib.hid hf
  have HU := Lib.hid hu
  have hI2 : ¬ (n : Int) < 8 := by omega
  clear hf hu
  have R0 := Lib.hid hr
  have HL := Lib.hid hl
  have hI : ¬ (1500 : Int) < (n : Int) := by omega
  clear hr hp hq hk hs hl
  have p0 : Hid ((((w.alloc (.cells #[.int .i64 s.k, .int .i64 s.a, .int .i64 s.b, .int .i64 s.c, .int .i64 s.d] 27)).alloc (.cells #[.int .i64 t.k, .int .i64 t.a, .int .i64 t.b, .int .i64 t.c, .int .i64 t.d] 27)).alloc (.cells #[.int .i64 0, .int .i64 0, .int .i64 0, .int .i64 0, .int .i64 0, .int .i64 0, .int .i64 0, .int .i64 0, .int .i64 0, .int .i64 0, .int .i64 0, .bool false, .slice none 0 0, .slice none 0 0] 36)).heap[w.heap.size]? = some (.cells #[.int .i64 s.k, .int .i64 s.a, .int .i64 s.b, .int .i64 s.c, .int .i64 s.d] 27)) := Lib.hid (by repeat (first | exact K.newAt (by first | rfl | (simp; done)) | refine K.oldAt (by first | (simp; done) | (simp; omega)) ?_))
  have r0 : Hid ((((w.alloc (.cells #[.int .i64 s.k, .int .i64 s.a, .int .i64 s.b, .int .i64 s.c, .int .i64 s.d] 27)).alloc (.cells #[.int .i64 t.k, .int .i64 t.a, .int .i64 t.b, .int .i64 t.c, .int .i64 t.d] 27)).alloc (.cells #[.int .i64 0, .int .i64 0, .int .i64 0, .int .i64 0, .int .i64 0, .int .i64 0, .int .i64 0, .int .i64 0, .int .i64 0, .int .i64 0, .int .i64 0, .bool false, .slice none 0 0, .slice none 0 0] 36)).heap[w.heap.size + 1]? = some (.cells #[.int .i64 t.k, .int .i64 t.a, .int .i64 t.b, .int .i64 t.c, .int .i64 t.d] 27)) := Lib.hid (by repeat (first | exact K.newAt (by first | rfl | (simp; done)) | refine K.oldAt (by first | (simp; done) | (simp; omega)) ?_))
  have z0 : Hid ((((w.alloc (.cells #[.int .i64 s.k, .int .i64 s.a, .int .i64 s.b, .int .i64 s.c, .int .i64 s.d] 27)).alloc (.cells #[.int .i64 t.k, .int .i64 t.a, .int .i64 t.b, .int .i64 t.c, .int .i64 t.d] 27)).alloc (.cells #[.int .i64 0, .int .i64 0, .int .i64 0, .int .i64 0, .int .i64 0, .int .i64 0, .int .i64 0, .int .i64 0, .int .i64 0, .int .i64 0, .int .i64 0, .bool false, .slice none 0 0, .slice none 0 0] 36)).heap[w.heap.size + 1 + 1]? = some (.cells #[.int .i64 0, .int .i64 0, .int .i64 0, .int .i64 0, .int .i64 0, .int .i64 0, .int .i64 0, .int .i64 0, .int .i64 0, .int .i64 0, .int .i64 0, .bool false, .slice none 0 0, .slice none 0 0] 36)) := Lib.hid (by repeat (first | exact K.newAt (by first | rfl | (simp; done)) | refine K.oldAt (by first | (simp; done) | (simp; omega)) ?_))
  have B0 : Hid (Below w.heap.size w (((w.alloc (.cells #[.int .i64 s.k, .int .i64 s.a, .int .i64 s.b, .int .i64 s.c, .int .i64 s.d] 27)).alloc (.cells #[.int .i64 t.k, .int .i64 t.a, .int .i64 t.b, .int .i64 t.c, .int .i64 t.d] 27)).alloc (.cells #[.int .i64 0, .int .i64 0, .int .i64 0, .int .i64 0, .int .i64 0, .int .i64 0, .int .i64 0, .int .i64 0, .int .i64 0, .int .i64 0, .int .i64 0, .bool false, .slice none 0 0, .slice none 0 0] 36))) := Lib.hid (by go_grown)
  go_enter Try.func18, Try.ntmps18
  go_wp2_with (first | (with_reducible refine loadA rfl _ rfl w.heap.size rfl p0.out ?_) | (with_reducible refine loadA rfl _ rfl (w.heap.size + 1) rfl r0.out ?_))
  refine Calls.mono (pairIB s t true HP.out _) ?_
  rintro e w1 ⟨rfl, b1⟩
  have p1 := Lib.hid (K.below b1 p0.out)
  have r1 := Lib.hid (K.below b1 r0.out)
  have z1 := Lib.hid (K.below b1 z0.out)
  have B1 := Lib.hid (bthen B0.out b1)
  clear b1 p0 r0 z0 B0
  go_wp2_with fail
  refine Calls.mono (protoB p true _ HQ.out) ?_
  rintro e w2 ⟨rfl, b2⟩
  have p2 := Lib.hid (K.below b2 p1.out)
  have r2 := Lib.hid (K.below b2 r1.out)
  have z2 := Lib.hid (K.below b2 z1.out)
  have B2 := Lib.hid (bthen B1.out b2)
  clear b2 p1 r1 z1 B1
  have d0 := K.cell p2.out 0 _ rfl
  go_wp2_with fail
  clear d0
  refine Calls.mono (kind_impl p s.k 2 _ HPR.out HSK.out HKQ.out) ?_
  rintro e w3 ⟨rfl, b3⟩
  have p3 := Lib.hid (K.below b3 p2.out)
  have r3 := Lib.hid (K.below b3 r2.out)
  have z3 := Lib.hid (K.below b3 z2.out)
  have B3 := Lib.hid (bthen B2.out b3)
  clear b3 p2 r2 z2 B2
  go_wp2_with fail
  refine Calls.mono (formatOfC (Uh.mk 2 0 0 0 0 0 0 0 0 0 0 false) none none 0 0 0 0 _) ?_
  rintro e w4 ⟨rfl, rfl⟩
  simp only [show ∀ v, fmtV 2 v = .iface 111 v from fun _ => rfl]
  have b4 := Joins.below_alloc1 w3 (.cells #[.int .i64 2, .int .i64 0, .int .i64 0, .int .i64 0, .int .i64 0, .int .i64 0, .int .i64 0, .int .i64 0, .int .i64 0, .int .i64 0, .int .i64 0, .bool false, .slice none 0 0, .slice none 0 0] 36)
  have p4 := Lib.hid (K.below b4 p3.out)
  have r4 := Lib.hid (K.below b4 r3.out)
  have z4 := Lib.hid (K.below b4 z3.out)
  have B4 := Lib.hid (bthen B3.out b4)
  clear b4 p3 r3 z3 B3
  generalize w3.alloc (.cells #[.int .i64 2, .int .i64 0, .int .i64 0, .int .i64 0, .int .i64 0, .int .i64 0, .int .i64 0, .int .i64 0, .int .i64 0, .int .i64 0, .int .i64 0, .bool false, .slice none 0 0, .slice none 0 0] 36) = w4 at p4 r4 z4 B4 ⊢
  go_wp2_with fail
  refine Calls.mono (head_udp (Uh.mk 2 0 0 0 0 0 0 0 0 0 0 false) none none 0 0 0 0 _ (by omega)) ?_
  rintro e w5 ⟨rfl, b5⟩
  have p5 := Lib.hid (K.below b5 p4.out)
  have r5 := Lib.hid (K.below b5 r4.out)
  have z5 := Lib.hid (K.below b5 z4.out)
  have B5 := Lib.hid (bthen B4.out b5)
  clear b5 p4 r4 z4 B4
  have p6 := Lib.hid (K.old p5.out (.cells #[.slice (some a) n c, .int .i64 0] 79))
  have r6 := Lib.hid (K.old r5.out (.cells #[.slice (some a) n c, .int .i64 0] 79))
  have z6 := Lib.hid (K.old z5.out (.cells #[.slice (some a) n c, .int .i64 0] 79))
  have lw5 : w.heap.size + 1 + 1 < w5.heap.size := K.lt z5.out
  have B6 := Lib.hid (bthen B5.out (Joins.below_alloc1 w5 (.cells #[.slice (some a) n c, .int .i64 0] 79)))
  have RR : Hid (Rp (w5.alloc (.cells #[.slice (some a) n c, .int .i64 0] 79)) w5.heap.size (some a) n c bs 0) := Lib.hid ⟨K.new w5 _, (R0.out.below B6.out).more (by omega), HL.out, by omega, by omega⟩
  go_wp2_with fail
  clear p5 r5 z5 B5
  refine Calls.mono (HU.out _ _ RR.out) ?_
  rintro e w6 ⟨rfl, gg⟩
  simp only [Uh.zero]
  have p7 := Lib.hid (K.kept gg p6.out (fun u hu => by cases hu; omega))
  have r7 := Lib.hid (K.kept gg r6.out (fun u hu => by cases hu; omega))
  have z7 := Lib.hid (K.kept gg z6.out (fun u hu => by cases hu; omega))
  have B7 := Lib.hid (bgrown B6.out gg (fun u hu => by cases hu; omega))
  clear RR p6 r6 z6 B6
  have p8 := Lib.hid (K.old p7.out (.cells #[.int .i64 0, .int .i64 0, .int .i64 0, .int .i64 0, .int .i64 0, .int .i64 0, .int .i64 0, .int .i64 0, .int .i64 0, .int .i64 0, .int .i64 0, .bool false, .slice none 0 0, .slice none 0 0] 36))
  have r8 := Lib.hid (K.old r7.out (.cells #[.int .i64 0, .int .i64 0, .int .i64 0, .int .i64 0, .int .i64 0, .int .i64 0, .int .i64 0, .int .i64 0, .int .i64 0, .int .i64 0, .int .i64 0, .bool false, .slice none 0 0, .slice none 0 0] 36))
  have z8 := Lib.hid (K.old z7.out (.cells #[.int .i64 0, .int .i64 0, .int .i64 0, .int .i64 0, .int .i64 0, .int .i64 0, .int .i64 0, .int .i64 0, .int .i64 0, .int .i64 0, .int .i64 0, .bool false, .slice none 0 0, .slice none 0 0] 36))
  have B8 := Lib.hid (bthen B7.out (Joins.below_alloc1 w6 (.cells #[.int .i64 0, .int .i64 0, .int .i64 0, .int .i64 0, .int .i64 0, .int .i64 0, .int .i64 0, .int .i64 0, .int .i64 0, .int .i64 0, .int .i64 0, .bool false, .slice none 0 0, .slice none 0 0] 36)))
  go_wp2_with (first | (with_reducible refine storeNewU rfl _ _ rfl rfl rfl ?_) | (with_reducible refine storeU rfl _ _ rfl (w.heap.size + 1 + 1) rfl rfl z8.out ?_))
  (try simp only [Exit.inBlock, Exit.then])
  refine bodyPost_ret (v := .tuple #[.agg #[.int .i64 0, .int .i64 0, .int .i64 0, .int .i64 0, .int .i64 0, .int .i64 0, .int .i64 0, .int .i64 0, .int .i64 0, .int .i64 0, .int .i64 0, .bool false, .slice none 0 0, .slice none 0 0], .int .i64 5]) ?_ rfl (uread_no HF.out (by omega) (K.setRow_below B8.out (by omega) _))
  exact K.resCellTmp Try.results18 _ _ _ (w.heap.size + 1 + 1) _ rfl (run_loadVar_row _ _ 36 36 _ (0, 0) _ (setRow_heap _ _ _ _ _ _ z8.out) Try.underlying36 rfl info_up)
end Go.Proofs.Ythogonpjkngpjaa

namespace Go.Proofs.Ythogonpjkngpjaa
set_option maxRecDepth 100000
open Go.RowKit

set_option maxHeartbeats 4000000 in
theorem urI_1 (w : World) (a : Addr) (n c : Nat) (bs : List UInt8) (p : Int) (s t : Ad) (hr : RB w w.heap.size (some a) bs) (hl : bs.length = n) (hc : n ≤ c) (hn : n ≤ 1500) (hp : pairA s t = true) (hq : upTo p 255 = true) (hs : s.k = 4 ∨ s.k = 6) (hk : kindU p s.k = 1) (sport dport seq ack bits window urgent ty code rest : Int) (os ds : List UInt8) (P Q sm : Nat) (S : Int) (ho : os.length = P) (hd : ds.length = Q) (hP : P ≤ 1500) (hQ : Q ≤ 1500) (h3 : 20 ≤ n) (hsum : (Uh.mk 1 sport dport seq ack bits window urgent ty code rest false).sum os ds s t = S)  (hf0 : (sm : Int) = S → uhC bs p s t = 0) (hf6 : ¬ (sm : Int) = S → uhC bs p s t = 6) (hx1 : uhX bs (kindU p s.k) s.k = (Uh.mk 1 sport dport seq ack bits window urgent ty code rest false)) (hx2 : uhO bs (kindU p s.k) = os) (hx3 : uhB bs (kindU p s.k) = ds) (hu : ∀ (v : World) (g : Nat), Rp v g (some a) n c bs 0 → Calls Try.prog 49 #[.iface 110 (.agg #[.int .i64 1, .int .i64 0, .int .i64 0, .int .i64 0, .int .i64 0, .int .i64 0, .int .i64 0, .int .i64 0, .int .i64 0, .int .i64 0, .int .i64 0, .bool false, .slice none 0 0, .slice none 0 0]), .pointer (some ⟨g, 0, none⟩)] v (TakeOut (Uh.mk 1 sport dport seq ack bits window urgent ty code rest false) os ds P Q sm g v)) : Calls Try.prog 18 #[.slice (some a) n c, .int .i64 p, .agg #[.int .i64 s.k, .int .i64 s.a, .int .i64 s.b, .int .i64 s.c, .int .i64 s.d], .agg #[.int .i64 t.k, .int .i64 t.a, .int .i64 t.b, .int .i64 t.c, .int .i64 t.d]] w (URead bs p s t w) := by
  have HX := Lib.hid (And.intro hx1 (And.intro hx2 hx3))
  clear hx1 hx2 hx3
  have HP := Lib.hid hp
  have HPR := Lib.hid hq
  have HQ := Lib.hid hq
  have HKQ := Lib.hid hk
  have HSK := Lib.hid hs
  have HF := Lib.hid (And.intro hf0 hf6)
  have HU := Lib.hid hu
  have HS := Lib.hid hsum
  have HO := Lib.hid ho
  have HD := Lib.hid hd
  have hI2 : ¬ (n : Int) < 20 := by omega
  clear hf0 hf6 hu hsum ho hd
  have R0 := Lib.hid hr
  have HL := Lib.hid hl
  have hI : ¬ (1500 : Int) < (n : Int) := by omega
  clear hr hp hq hk hs hl
  have p0 : Hid ((((w.alloc (.cells #[.int .i64 s.k, .int .i64 s.a, .int .i64 s.b, .int .i64 s.c, .int .i64 s.d] 27)).alloc (.cells #[.int .i64 t.k, .int .i64 t.a, .int .i64 t.b, .int .i64 t.c, .int .i64 t.d] 27)).alloc (.cells #[.int .i64 0, .int .i64 0, .int .i64 0, .int .i64 0, .int .i64 0, .int .i64 0, .int .i64 0, .int .i64 0, .int .i64 0, .int .i64 0, .int .i64 0, .bool false, .slice none 0 0, .slice none 0 0] 36)).heap[w.heap.size]? = some (.cells #[.int .i64 s.k, .int .i64 s.a, .int .i64 s.b, .int .i64 s.c, .int .i64 s.d] 27)) := Lib.hid (by repeat (first | exact K.newAt (by first | rfl | (simp; done)) | refine K.oldAt (by first | (simp; done) | (simp; omega)) ?_))
  have r0 : Hid ((((w.alloc (.cells #[.int .i64 s.k, .int .i64 s.a, .int .i64 s.b, .int .i64 s.c, .int .i64 s.d] 27)).alloc (.cells #[.int .i64 t.k, .int .i64 t.a, .int .i64 t.b, .int .i64 t.c, .int .i64 t.d] 27)).alloc (.cells #[.int .i64 0, .int .i64 0, .int .i64 0, .int .i64 0, .int .i64 0, .int .i64 0, .int .i64 0, .int .i64 0, .int .i64 0, .int .i64 0, .int .i64 0, .bool false, .slice none 0 0, .slice none 0 0] 36)).heap[w.heap.size + 1]? = some (.cells #[.int .i64 t.k, .int .i64 t.a, .int .i64 t.b, .int .i64 t.c, .int .i64 t.d] 27)) := Lib.hid (by repeat (first | exact K.newAt (by first | rfl | (simp; done)) | refine K.oldAt (by first | (simp; done) | (simp; omega)) ?_))
  have z0 : Hid ((((w.alloc (.cells #[.int .i64 s.k, .int .i64 s.a, .int .i64 s.b, .int .i64 s.c, .int .i64 s.d] 27)).alloc (.cells #[.int .i64 t.k, .int .i64 t.a, .int .i64 t.b, .int .i64 t.c, .int .i64 t.d] 27)).alloc (.cells #[.int .i64 0, .int .i64 0, .int .i64 0, .int .i64 0, .int .i64 0, .int .i64 0, .int .i64 0, .int .i64 0, .int .i64 0, .int .i64 0, .int .i64 0, .bool false, .slice none 0 0, .slice none 0 0] 36)).heap[w.heap.size + 1 + 1]? = some (.cells #[.int .i64 0, .int .i64 0, .int .i64 0, .int .i64 0, .int .i64 0, .int .i64 0, .int .i64 0, .int .i64 0, .int .i64 0, .int .i64 0, .int .i64 0, .bool false, .slice none 0 0, .slice none 0 0] 36)) := Lib.hid (by repeat (first | exact K.newAt (by first | rfl | (simp; done)) | refine K.oldAt (by first | (simp; done) | (simp; omega)) ?_))
  have B0 : Hid (Below w.heap.size w (((w.alloc (.cells #[.int .i64 s.k, .int .i64 s.a, .int .i64 s.b, .int .i64 s.c, .int .i64 s.d] 27)).alloc (.cells #[.int .i64 t.k, .int .i64 t.a, .int .i64 t.b, .int .i64 t.c, .int .i64 t.d] 27)).alloc (.cells #[.int .i64 0, .int .i64 0, .int .i64 0, .int .i64 0, .int .i64 0, .int .i64 0, .int .i64 0, .int .i64 0, .int .i64 0, .int .i64 0, .int .i64 0, .bool false, .slice none 0 0, .slice none 0 0] 36))) := Lib.hid (by go_grown)
  go_enter Try.func18, Try.ntmps18
  go_wp2_with (first | (with_reducible refine loadA rfl _ rfl w.heap.size rfl p0.out ?_) | (with_reducible refine loadA rfl _ rfl (w.heap.size + 1) rfl r0.out ?_))
  refine Calls.mono (pairIB s t true HP.out _) ?_
  rintro e w1 ⟨rfl, b1⟩
  have p1 := Lib.hid (K.below b1 p0.out)
  have r1 := Lib.hid (K.below b1 r0.out)
  have z1 := Lib.hid (K.below b1 z0.out)
  have B1 := Lib.hid (bthen B0.out b1)
  clear b1 p0 r0 z0 B0
  go_wp2_with fail
  refine Calls.mono (protoB p true _ HQ.out) ?_
  rintro e w2 ⟨rfl, b2⟩
  have p2 := Lib.hid (K.below b2 p1.out)
  have r2 := Lib.hid (K.below b2 r1.out)
  have z2 := Lib.hid (K.below b2 z1.out)
  have B2 := Lib.hid (bthen B1.out b2)
  clear b2 p1 r1 z1 B1
  have d0 := K.cell p2.out 0 _ rfl
  go_wp2_with fail
  clear d0
  refine Calls.mono (kind_impl p s.k 1 _ HPR.out HSK.out HKQ.out) ?_
  rintro e w3 ⟨rfl, b3⟩
  have p3 := Lib.hid (K.below b3 p2.out)
  have r3 := Lib.hid (K.below b3 r2.out)
  have z3 := Lib.hid (K.below b3 z2.out)
  have B3 := Lib.hid (bthen B2.out b3)
  clear b3 p2 r2 z2 B2
  go_wp2_with fail
  refine Calls.mono (formatOfC (Uh.mk 1 0 0 0 0 0 0 0 0 0 0 false) none none 0 0 0 0 _) ?_
  rintro e w4 ⟨rfl, rfl⟩
  simp only [show ∀ v, fmtV 1 v = .iface 110 v from fun _ => rfl]
  have b4 := Joins.below_alloc1 w3 (.cells #[.int .i64 1, .int .i64 0, .int .i64 0, .int .i64 0, .int .i64 0, .int .i64 0, .int .i64 0, .int .i64 0, .int .i64 0, .int .i64 0, .int .i64 0, .bool false, .slice none 0 0, .slice none 0 0] 36)
  have p4 := Lib.hid (K.below b4 p3.out)
  have r4 := Lib.hid (K.below b4 r3.out)
  have z4 := Lib.hid (K.below b4 z3.out)
  have B4 := Lib.hid (bthen B3.out b4)
  clear b4 p3 r3 z3 B3
  generalize w3.alloc (.cells #[.int .i64 1, .int .i64 0, .int .i64 0, .int .i64 0, .int .i64 0, .int .i64 0, .int .i64 0, .int .i64 0, .int .i64 0, .int .i64 0, .int .i64 0, .bool false, .slice none 0 0, .slice none 0 0] 36) = w4 at p4 r4 z4 B4 ⊢
  go_wp2_with fail
  refine Calls.mono (head_tcp (Uh.mk 1 0 0 0 0 0 0 0 0 0 0 false) none none 0 0 0 0 _ (by omega)) ?_
  rintro e w5 ⟨rfl, b5⟩
  simp only [show (20 : Int) + ((0 : Nat) : Int) = 20 from rfl]
  have p5 := Lib.hid (K.below b5 p4.out)
  have r5 := Lib.hid (K.below b5 r4.out)
  have z5 := Lib.hid (K.below b5 z4.out)
  have B5 := Lib.hid (bthen B4.out b5)
  clear b5 p4 r4 z4 B4
  have p6 := Lib.hid (K.old p5.out (.cells #[.slice (some a) n c, .int .i64 0] 79))
  have r6 := Lib.hid (K.old r5.out (.cells #[.slice (some a) n c, .int .i64 0] 79))
  have z6 := Lib.hid (K.old z5.out (.cells #[.slice (some a) n c, .int .i64 0] 79))
  have lw5 : w.heap.size + 1 + 1 < w5.heap.size := K.lt z5.out
  have B6 := Lib.hid (bthen B5.out (Joins.below_alloc1 w5 (.cells #[.slice (some a) n c, .int .i64 0] 79)))
  have RR : Hid (Rp (w5.alloc (.cells #[.slice (some a) n c, .int .i64 0] 79)) w5.heap.size (some a) n c bs 0) := Lib.hid ⟨K.new w5 _, (R0.out.below B6.out).more (by omega), HL.out, by omega, by omega⟩
  go_wp2_with fail
  clear p5 r5 z5 B5
  refine Calls.mono (HU.out _ _ RR.out) ?_
  rintro e w6 ⟨O, o, D, d, rfl, oo, od, ap, gg⟩
  try simp only
  have p7 := Lib.hid (K.kept gg p6.out (fun u hu => by cases hu; omega))
  have r7 := Lib.hid (K.kept gg r6.out (fun u hu => by cases hu; omega))
  have z7 := Lib.hid (K.kept gg z6.out (fun u hu => by cases hu; omega))
  have B7 := Lib.hid (bgrown B6.out gg (fun u hu => by cases hu; omega))
  clear RR p6 r6 z6 B6
  have lw6 : w5.heap.size + 1 ≤ w6.heap.size := by have := gg.size; simpa using this
  have d1 := K.cell (K.new w6 (.cells #[.int .i64 1, .int .i64 sport, .int .i64 dport, .int .i64 seq, .int .i64 ack, .int .i64 bits, .int .i64 window, .int .i64 urgent, .int .i64 ty, .int .i64 code, .int .i64 rest, .bool false, .slice O P o, .slice D Q d] 36)) 0 _ rfl
  have d2 := K.cell (K.old p7.out (.cells #[.int .i64 1, .int .i64 sport, .int .i64 dport, .int .i64 seq, .int .i64 ack, .int .i64 bits, .int .i64 window, .int .i64 urgent, .int .i64 ty, .int .i64 code, .int .i64 rest, .bool false, .slice O P o, .slice D Q d] 36)) 0 _ rfl
  have d3 := K.cell (K.new w6 (.cells #[.int .i64 1, .int .i64 sport, .int .i64 dport, .int .i64 seq, .int .i64 ack, .int .i64 bits, .int .i64 window, .int .i64 urgent, .int .i64 ty, .int .i64 code, .int .i64 rest, .bool false, .slice O P o, .slice D Q d] 36)) 11 _ rfl
  have f3 := frozen_of_row _ _ 11 _ _ (K.new w6 (.cells #[.int .i64 1, .int .i64 sport, .int .i64 dport, .int .i64 seq, .int .i64 ack, .int .i64 bits, .int .i64 window, .int .i64 urgent, .int .i64 ty, .int .i64 code, .int .i64 rest, .bool false, .slice O P o, .slice D Q d] 36))
  have p8 := Lib.hid (K.old p7.out (.cells #[.int .i64 1, .int .i64 sport, .int .i64 dport, .int .i64 seq, .int .i64 ack, .int .i64 bits, .int .i64 window, .int .i64 urgent, .int .i64 ty, .int .i64 code, .int .i64 rest, .bool false, .slice O P o, .slice D Q d] 36))
  have r8 := Lib.hid (K.old r7.out (.cells #[.int .i64 1, .int .i64 sport, .int .i64 dport, .int .i64 seq, .int .i64 ack, .int .i64 bits, .int .i64 window, .int .i64 urgent, .int .i64 ty, .int .i64 code, .int .i64 rest, .bool false, .slice O P o, .slice D Q d] 36))
  have z8 := Lib.hid (K.old z7.out (.cells #[.int .i64 1, .int .i64 sport, .int .i64 dport, .int .i64 seq, .int .i64 ack, .int .i64 bits, .int .i64 window, .int .i64 urgent, .int .i64 ty, .int .i64 code, .int .i64 rest, .bool false, .slice O P o, .slice D Q d] 36))
  have q8 := Lib.hid (K.new w6 (.cells #[.int .i64 1, .int .i64 sport, .int .i64 dport, .int .i64 seq, .int .i64 ack, .int .i64 bits, .int .i64 window, .int .i64 urgent, .int .i64 ty, .int .i64 code, .int .i64 rest, .bool false, .slice O P o, .slice D Q d] 36))
  have B8 := Lib.hid (bthen B7.out (Joins.below_alloc1 w6 (.cells #[.int .i64 1, .int .i64 sport, .int .i64 dport, .int .i64 seq, .int .i64 ack, .int .i64 bits, .int .i64 window, .int .i64 urgent, .int .i64 ty, .int .i64 code, .int .i64 rest, .bool false, .slice O P o, .slice D Q d] 36)))
  have O8 := Lib.hid (World.ownsRow.alloc (own_base oo (show w5.heap.size + 1 ≤ _ by simp)) (.cells #[.int .i64 1, .int .i64 sport, .int .i64 dport, .int .i64 seq, .int .i64 ack, .int .i64 bits, .int .i64 window, .int .i64 urgent, .int .i64 ty, .int .i64 code, .int .i64 rest, .bool false, .slice O P o, .slice D Q d] 36))
  have D8 := Lib.hid (World.ownsRow.alloc (own_base od (show w5.heap.size + 1 ≤ _ by simp)) (.cells #[.int .i64 1, .int .i64 sport, .int .i64 dport, .int .i64 seq, .int .i64 ack, .int .i64 bits, .int .i64 window, .int .i64 urgent, .int .i64 ty, .int .i64 code, .int .i64 rest, .bool false, .slice O P o, .slice D Q d] 36))
  have AP := Lib.hid ap
  clear oo od ap gg p7 r7 z7 B7
  go_upto_region 12 with (with_reducible refine storeNewU rfl _ _ rfl rfl rfl ?_)
  clear d1 d2 d3 f3
  generalize (w6.alloc (.cells #[.int .i64 1, .int .i64 sport, .int .i64 dport, .int .i64 seq, .int .i64 ack, .int .i64 bits, .int .i64 window, .int .i64 urgent, .int .i64 ty, .int .i64 code, .int .i64 rest, .bool false, .slice O P o, .slice D Q d] 36)) = w7 at p8 r8 z8 B8 q8 O8 D8 ⊢
  go_wp2_with (first | (with_reducible refine loadU rfl _ rfl w6.heap.size rfl q8.out ?_) | (with_reducible refine loadA rfl _ rfl w.heap.size rfl p8.out ?_) | (with_reducible refine loadA rfl _ rfl (w.heap.size + 1) rfl r8.out ?_))
  refine Calls.mono (usI (Uh.mk 1 sport dport seq ack bits window urgent ty code rest false) s t O D P o Q d os ds _ (RB.of_own O8.out) HO.out (RB.of_own D8.out) HD.out (by omega) (by omega)) ?_
  rintro e w8 ⟨rfl, b8⟩
  rw [HS.out]
  have p9 := Lib.hid (K.below b8 p8.out)
  have r9 := Lib.hid (K.below b8 r8.out)
  have z9 := Lib.hid (K.below b8 z8.out)
  have q9 := Lib.hid (K.below b8 q8.out)
  have B9 := Lib.hid (bthen B8.out b8)
  have O9 := Lib.hid (own_below O8.out b8)
  have D9 := Lib.hid (own_below D8.out b8)
  clear b8 p8 r8 z8 B8 q8 O8 D8
  by_cases hS : (sm : Int) = S
  · have HFG := Lib.hid (HF.out.1 hS)
    have hX : ((sm : Int) != S) = false := by simp [hS]
    go_wp2_with (first | (with_reducible refine loadU rfl _ rfl w6.heap.size rfl q9.out ?_) | (with_reducible refine storeU rfl _ _ rfl (w.heap.size + 1 + 1) rfl rfl z9.out ?_))
    (try simp only [Exit.inBlock, Exit.then])
    have hsz : w.heap.size + 1 + 1 < w5.heap.size + 1 := by omega
    refine bodyPost_ret (v := .tuple #[.agg #[.int .i64 1, .int .i64 sport, .int .i64 dport, .int .i64 seq, .int .i64 ack, .int .i64 bits, .int .i64 window, .int .i64 urgent, .int .i64 ty, .int .i64 code, .int .i64 rest, .bool false, .slice O P o, .slice D Q d], .int .i64 0]) ?_ rfl (uread_yes (x := (Uh.mk 1 sport dport seq ack bits window urgent ty code rest false)) HFG.out HX.out.1 HX.out.2.1 HX.out.2.2 HO.out HD.out (own_base (K.setRow_own _ O9.out hsz) (by omega)) (own_base (K.setRow_own _ D9.out hsz) (by omega)) AP.out (K.setRow_below B9.out (by omega) _))
    exact K.resCellTmp Try.results18 _ _ _ (w.heap.size + 1 + 1) _ rfl (run_loadVar_row _ _ 36 36 _ (0, 0) _ (setRow_heap _ _ _ _ _ _ z9.out) Try.underlying36 rfl info_up)
  · have HFB := Lib.hid (HF.out.2 hS)
    have hX : ((sm : Int) != S) = true := by simpa using hS
    go_wp2_with (with_reducible refine storeU rfl _ _ rfl (w.heap.size + 1 + 1) rfl rfl z9.out ?_)
    (try simp only [Exit.inBlock, Exit.then])
    refine bodyPost_ret (v := .tuple #[.agg #[.int .i64 0, .int .i64 0, .int .i64 0, .int .i64 0, .int .i64 0, .int .i64 0, .int .i64 0, .int .i64 0, .int .i64 0, .int .i64 0, .int .i64 0, .bool false, .slice none 0 0, .slice none 0 0], .int .i64 6]) ?_ rfl (uread_no HFB.out (by omega) (K.setRow_below B9.out (by omega) _))
    exact K.resCellTmp Try.results18 _ _ _ (w.heap.size + 1 + 1) _ rfl (run_loadVar_row _ _ 36 36 _ (0, 0) _ (setRow_heap _ _ _ _ _ _ z9.out) Try.underlying36 rfl info_up)

set_option maxHeartbeats 4000000 in
theorem urI_0 (w : World) (a : Addr) (n c : Nat) (bs : List UInt8) (p : Int) (s t : Ad) (hr : RB w w.heap.size (some a) bs) (hl : bs.length = n) (hc : n ≤ c) (hn : n ≤ 1500) (hp : pairA s t = true) (hq : upTo p 255 = true) (hs : s.k = 4 ∨ s.k = 6) (hk : kindU p s.k = 0) (hu : ∀ (v : World) (g : Nat), Rp v g (some a) n c bs 0 → Calls Try.prog 49 #[.iface 109 (.agg #[.int .i64 0, .int .i64 0, .int .i64 0, .int .i64 0, .int .i64 0, .int .i64 0, .int .i64 0, .int .i64 0, .int .i64 0, .int .i64 0, .int .i64 0, .bool false, .slice none 0 0, .slice none 0 0]), .pointer (some ⟨g, 0, none⟩)] v (TakeOut Uh.zero [] bs 0 n 0 g v)) : Calls Try.prog 18 #[.slice (some a) n c, .int .i64 p, .agg #[.int .i64 s.k, .int .i64 s.a, .int .i64 s.b, .int .i64 s.c, .int .i64 s.d], .agg #[.int .i64 t.k, .int .i64 t.a, .int .i64 t.b, .int .i64 t.c, .int .i64 t.d]] w (URead bs p s t w) := by
  have HX := Lib.hid (show uhX bs (kindU p s.k) s.k = Uh.zero ∧ uhO bs (kindU p s.k) = [] ∧ uhB bs (kindU p s.k) = bs by rw [hk]; exact ⟨rfl, rfl, rfl⟩)
  have hok : Uh.ok Uh.zero s.k 0 bs.length = true := by rcases hs with h | h <;> rw [h] <;> simp [Uh.ok, kindB, Uh.fields, Uh.zero, Uh.unused, noF, Uh.size] <;> omega
  have HS := Lib.hid (Uh.sum_zero (x := Uh.zero) (o := []) (bs := bs) (a := s) (b := t) (show (pairA s t && Uh.zero.ok s.k ([] : List UInt8).length bs.length) = true by rw [hp]; exact hok) (.inl rfl))
  clear hok
  have HF := Lib.hid (show uhC bs p s t = 0 by rw [uhC_far (by omega) (by rw [hp, hq]; rfl), hk, if_neg (by simp), if_neg (by simp), if_neg (by simp), if_neg (by simpa [uhS, uhX, uhO, uhB] using HS.out.symm)])
  have HO : Hid (([] : List UInt8).length = 0) := Lib.hid rfl
  have HD : Hid (bs.length = n) := Lib.hid hl
  have HP := Lib.hid hp
  have HPR := Lib.hid hq
  have HQ := Lib.hid hq
  have HKQ := Lib.hid hk
  have HSK := Lib.hid hs
  have HU := Lib.hid hu
  have hI2 : ¬ ((n : Int) : Int) < 0 := by omega
  clear hu
  have R0 := Lib.hid hr
  have HL := Lib.hid hl
  have hI : ¬ (1500 : Int) < (n : Int) := by omega
  clear hr hp hq hk hs hl
  have p0 : Hid ((((w.alloc (.cells #[.int .i64 s.k, .int .i64 s.a, .int .i64 s.b, .int .i64 s.c, .int .i64 s.d] 27)).alloc (.cells #[.int .i64 t.k, .int .i64 t.a, .int .i64 t.b, .int .i64 t.c, .int .i64 t.d] 27)).alloc (.cells #[.int .i64 0, .int .i64 0, .int .i64 0, .int .i64 0, .int .i64 0, .int .i64 0, .int .i64 0, .int .i64 0, .int .i64 0, .int .i64 0, .int .i64 0, .bool false, .slice none 0 0, .slice none 0 0] 36)).heap[w.heap.size]? = some (.cells #[.int .i64 s.k, .int .i64 s.a, .int .i64 s.b, .int .i64 s.c, .int .i64 s.d] 27)) := Lib.hid (by repeat (first | exact K.newAt (by first | rfl | (simp; done)) | refine K.oldAt (by first | (simp; done) | (simp; omega)) ?_))
  have r0 : Hid ((((w.alloc (.cells #[.int .i64 s.k, .int .i64 s.a, .int .i64 s.b, .int .i64 s.c, .int .i64 s.d] 27)).alloc (.cells #[.int .i64 t.k, .int .i64 t.a, .int .i64 t.b, .int .i64 t.c, .int .i64 t.d] 27)).alloc (.cells #[.int .i64 0, .int .i64 0, .int .i64 0, .int .i64 0, .int .i64 0, .int .i64 0, .int .i64 0, .int .i64 0, .int .i64 0, .int .i64 0, .int .i64 0, .bool false, .slice none 0 0, .slice none 0 0] 36)).heap[w.heap.size + 1]? = some (.cells #[.int .i64 t.k, .int .i64 t.a, .int .i64 t.b, .int .i64 t.c, .int .i64 t.d] 27)) := Lib.hid (by repeat (first | exact K.newAt (by first | rfl | (simp; done)) | refine K.oldAt (by first | (simp; done) | (simp; omega)) ?_))
  have z0 : Hid ((((w.alloc (.cells #[.int .i64 s.k, .int .i64 s.a, .int .i64 s.b, .int .i64 s.c, .int .i64 s.d] 27)).alloc (.cells #[.int .i64 t.k, .int .i64 t.a, .int .i64 t.b, .int .i64 t.c, .int .i64 t.d] 27)).alloc (.cells #[.int .i64 0, .int .i64 0, .int .i64 0, .int .i64 0, .int .i64 0, .int .i64 0, .int .i64 0, .int .i64 0, .int .i64 0, .int .i64 0, .int .i64 0, .bool false, .slice none 0 0, .slice none 0 0] 36)).heap[w.heap.size + 1 + 1]? = some (.cells #[.int .i64 0, .int .i64 0, .int .i64 0, .int .i64 0, .int .i64 0, .int .i64 0, .int .i64 0, .int .i64 0, .int .i64 0, .int .i64 0, .int .i64 0, .bool false, .slice none 0 0, .slice none 0 0] 36)) := Lib.hid (by repeat (first | exact K.newAt (by first | rfl | (simp; done)) | refine K.oldAt (by first | (simp; done) | (simp; omega)) ?_))
  have B0 : Hid (Below w.heap.size w (((w.alloc (.cells #[.int .i64 s.k, .int .i64 s.a, .int .i64 s.b, .int .i64 s.c, .int .i64 s.d] 27)).alloc (.cells #[.int .i64 t.k, .int .i64 t.a, .int .i64 t.b, .int .i64 t.c, .int .i64 t.d] 27)).alloc (.cells #[.int .i64 0, .int .i64 0, .int .i64 0, .int .i64 0, .int .i64 0, .int .i64 0, .int .i64 0, .int .i64 0, .int .i64 0, .int .i64 0, .int .i64 0, .bool false, .slice none 0 0, .slice none 0 0] 36))) := Lib.hid (by go_grown)
  go_enter Try.func18, Try.ntmps18
  go_wp2_with (first | (with_reducible refine loadA rfl _ rfl w.heap.size rfl p0.out ?_) | (with_reducible refine loadA rfl _ rfl (w.heap.size + 1) rfl r0.out ?_))
  refine Calls.mono (pairIB s t true HP.out _) ?_
  rintro e w1 ⟨rfl, b1⟩
  have p1 := Lib.hid (K.below b1 p0.out)
  have r1 := Lib.hid (K.below b1 r0.out)
  have z1 := Lib.hid (K.below b1 z0.out)
  have B1 := Lib.hid (bthen B0.out b1)
  clear b1 p0 r0 z0 B0
  go_wp2_with fail
  refine Calls.mono (protoB p true _ HQ.out) ?_
  rintro e w2 ⟨rfl, b2⟩
  have p2 := Lib.hid (K.below b2 p1.out)
  have r2 := Lib.hid (K.below b2 r1.out)
  have z2 := Lib.hid (K.below b2 z1.out)
  have B2 := Lib.hid (bthen B1.out b2)
  clear b2 p1 r1 z1 B1
  have d0 := K.cell p2.out 0 _ rfl
  go_wp2_with fail
  clear d0
  refine Calls.mono (kind_impl p s.k 0 _ HPR.out HSK.out HKQ.out) ?_
  rintro e w3 ⟨rfl, b3⟩
  have p3 := Lib.hid (K.below b3 p2.out)
  have r3 := Lib.hid (K.below b3 r2.out)
  have z3 := Lib.hid (K.below b3 z2.out)
  have B3 := Lib.hid (bthen B2.out b3)
  clear b3 p2 r2 z2 B2
  go_wp2_with fail
  refine Calls.mono (formatOfC (Uh.mk 0 0 0 0 0 0 0 0 0 0 0 false) none none 0 0 0 0 _) ?_
  rintro e w4 ⟨rfl, rfl⟩
  simp only [show ∀ v, fmtV 0 v = .iface 109 v from fun _ => rfl]
  have b4 := Joins.below_alloc1 w3 (.cells #[.int .i64 0, .int .i64 0, .int .i64 0, .int .i64 0, .int .i64 0, .int .i64 0, .int .i64 0, .int .i64 0, .int .i64 0, .int .i64 0, .int .i64 0, .bool false, .slice none 0 0, .slice none 0 0] 36)
  have p4 := Lib.hid (K.below b4 p3.out)
  have r4 := Lib.hid (K.below b4 r3.out)
  have z4 := Lib.hid (K.below b4 z3.out)
  have B4 := Lib.hid (bthen B3.out b4)
  clear b4 p3 r3 z3 B3
  generalize w3.alloc (.cells #[.int .i64 0, .int .i64 0, .int .i64 0, .int .i64 0, .int .i64 0, .int .i64 0, .int .i64 0, .int .i64 0, .int .i64 0, .int .i64 0, .int .i64 0, .bool false, .slice none 0 0, .slice none 0 0] 36) = w4 at p4 r4 z4 B4 ⊢
  go_wp2_with fail
  refine Calls.mono (head_other (Uh.mk 0 0 0 0 0 0 0 0 0 0 0 false) none none 0 0 0 0 _ (by omega)) ?_
  rintro e w5 ⟨rfl, b5⟩
  have p5 := Lib.hid (K.below b5 p4.out)
  have r5 := Lib.hid (K.below b5 r4.out)
  have z5 := Lib.hid (K.below b5 z4.out)
  have B5 := Lib.hid (bthen B4.out b5)
  clear b5 p4 r4 z4 B4
  have p6 := Lib.hid (K.old p5.out (.cells #[.slice (some a) n c, .int .i64 0] 79))
  have r6 := Lib.hid (K.old r5.out (.cells #[.slice (some a) n c, .int .i64 0] 79))
  have z6 := Lib.hid (K.old z5.out (.cells #[.slice (some a) n c, .int .i64 0] 79))
  have lw5 : w.heap.size + 1 + 1 < w5.heap.size := K.lt z5.out
  have B6 := Lib.hid (bthen B5.out (Joins.below_alloc1 w5 (.cells #[.slice (some a) n c, .int .i64 0] 79)))
  have RR : Hid (Rp (w5.alloc (.cells #[.slice (some a) n c, .int .i64 0] 79)) w5.heap.size (some a) n c bs 0) := Lib.hid ⟨K.new w5 _, (R0.out.below B6.out).more (by omega), HL.out, by omega, by omega⟩
  go_wp2_with fail
  clear p5 r5 z5 B5
  refine Calls.mono (HU.out _ _ RR.out) ?_
  rintro e w6 ⟨O, o, D, d, rfl, oo, od, ap, gg⟩
  try simp only
  simp only [Uh.zero]
  have p7 := Lib.hid (K.kept gg p6.out (fun u hu => by cases hu; omega))
  have r7 := Lib.hid (K.kept gg r6.out (fun u hu => by cases hu; omega))
  have z7 := Lib.hid (K.kept gg z6.out (fun u hu => by cases hu; omega))
  have B7 := Lib.hid (bgrown B6.out gg (fun u hu => by cases hu; omega))
  clear RR p6 r6 z6 B6
  have lw6 : w5.heap.size + 1 ≤ w6.heap.size := by have := gg.size; simpa using this
  have d1 := K.cell (K.new w6 (.cells #[.int .i64 0, .int .i64 0, .int .i64 0, .int .i64 0, .int .i64 0, .int .i64 0, .int .i64 0, .int .i64 0, .int .i64 0, .int .i64 0, .int .i64 0, .bool false, .slice O 0 o, .slice D n d] 36)) 0 _ rfl
  have d2 := K.cell (K.old p7.out (.cells #[.int .i64 0, .int .i64 0, .int .i64 0, .int .i64 0, .int .i64 0, .int .i64 0, .int .i64 0, .int .i64 0, .int .i64 0, .int .i64 0, .int .i64 0, .bool false, .slice O 0 o, .slice D n d] 36)) 0 _ rfl
  have d3 := K.cell (K.new w6 (.cells #[.int .i64 0, .int .i64 0, .int .i64 0, .int .i64 0, .int .i64 0, .int .i64 0, .int .i64 0, .int .i64 0, .int .i64 0, .int .i64 0, .int .i64 0, .bool false, .slice O 0 o, .slice D n d] 36)) 11 _ rfl
  have f3 := frozen_of_row _ _ 11 _ _ (K.new w6 (.cells #[.int .i64 0, .int .i64 0, .int .i64 0, .int .i64 0, .int .i64 0, .int .i64 0, .int .i64 0, .int .i64 0, .int .i64 0, .int .i64 0, .int .i64 0, .bool false, .slice O 0 o, .slice D n d] 36))
  have p8 := Lib.hid (K.old p7.out (.cells #[.int .i64 0, .int .i64 0, .int .i64 0, .int .i64 0, .int .i64 0, .int .i64 0, .int .i64 0, .int .i64 0, .int .i64 0, .int .i64 0, .int .i64 0, .bool false, .slice O 0 o, .slice D n d] 36))
  have r8 := Lib.hid (K.old r7.out (.cells #[.int .i64 0, .int .i64 0, .int .i64 0, .int .i64 0, .int .i64 0, .int .i64 0, .int .i64 0, .int .i64 0, .int .i64 0, .int .i64 0, .int .i64 0, .bool false, .slice O 0 o, .slice D n d] 36))
  have z8 := Lib.hid (K.old z7.out (.cells #[.int .i64 0, .int .i64 0, .int .i64 0, .int .i64 0, .int .i64 0, .int .i64 0, .int .i64 0, .int .i64 0, .int .i64 0, .int .i64 0, .int .i64 0, .bool false, .slice O 0 o, .slice D n d] 36))
  have q8 := Lib.hid (K.new w6 (.cells #[.int .i64 0, .int .i64 0, .int .i64 0, .int .i64 0, .int .i64 0, .int .i64 0, .int .i64 0, .int .i64 0, .int .i64 0, .int .i64 0, .int .i64 0, .bool false, .slice O 0 o, .slice D n d] 36))
  have B8 := Lib.hid (bthen B7.out (Joins.below_alloc1 w6 (.cells #[.int .i64 0, .int .i64 0, .int .i64 0, .int .i64 0, .int .i64 0, .int .i64 0, .int .i64 0, .int .i64 0, .int .i64 0, .int .i64 0, .int .i64 0, .bool false, .slice O 0 o, .slice D n d] 36)))
  have O8 := Lib.hid (World.ownsRow.alloc (own_base oo (show w5.heap.size + 1 ≤ _ by simp)) (.cells #[.int .i64 0, .int .i64 0, .int .i64 0, .int .i64 0, .int .i64 0, .int .i64 0, .int .i64 0, .int .i64 0, .int .i64 0, .int .i64 0, .int .i64 0, .bool false, .slice O 0 o, .slice D n d] 36))
  have D8 := Lib.hid (World.ownsRow.alloc (own_base od (show w5.heap.size + 1 ≤ _ by simp)) (.cells #[.int .i64 0, .int .i64 0, .int .i64 0, .int .i64 0, .int .i64 0, .int .i64 0, .int .i64 0, .int .i64 0, .int .i64 0, .int .i64 0, .int .i64 0, .bool false, .slice O 0 o, .slice D n d] 36))
  have AP := Lib.hid ap
  clear oo od ap gg p7 r7 z7 B7
  go_upto_region 12 with (with_reducible refine storeNewU rfl _ _ rfl rfl rfl ?_)
  clear d1 d2 d3 f3
  generalize (w6.alloc (.cells #[.int .i64 0, .int .i64 0, .int .i64 0, .int .i64 0, .int .i64 0, .int .i64 0, .int .i64 0, .int .i64 0, .int .i64 0, .int .i64 0, .int .i64 0, .bool false, .slice O 0 o, .slice D n d] 36)) = w7 at p8 r8 z8 B8 q8 O8 D8 ⊢
  go_wp2_with (first | (with_reducible refine loadU rfl _ rfl w6.heap.size rfl q8.out ?_) | (with_reducible refine loadA rfl _ rfl w.heap.size rfl p8.out ?_) | (with_reducible refine loadA rfl _ rfl (w.heap.size + 1) rfl r8.out ?_))
  refine Calls.mono (usI Uh.zero s t O D 0 o n d [] bs _ (RB.of_own O8.out) HO.out (RB.of_own D8.out) HD.out (by omega) (by omega)) ?_
  rintro e w8 ⟨rfl, b8⟩
  rw [HS.out]
  have p9 := Lib.hid (K.below b8 p8.out)
  have r9 := Lib.hid (K.below b8 r8.out)
  have z9 := Lib.hid (K.below b8 z8.out)
  have q9 := Lib.hid (K.below b8 q8.out)
  have B9 := Lib.hid (bthen B8.out b8)
  have O9 := Lib.hid (own_below O8.out b8)
  have D9 := Lib.hid (own_below D8.out b8)
  clear b8 p8 r8 z8 B8 q8 O8 D8
  go_wp2_with (first | (with_reducible refine loadU rfl _ rfl w6.heap.size rfl q9.out ?_) | (with_reducible refine storeU rfl _ _ rfl (w.heap.size + 1 + 1) rfl rfl z9.out ?_))
  (try simp only [Exit.inBlock, Exit.then])
  have hsz : w.heap.size + 1 + 1 < w5.heap.size + 1 := by omega
  refine bodyPost_ret (v := .tuple #[.agg #[.int .i64 0, .int .i64 0, .int .i64 0, .int .i64 0, .int .i64 0, .int .i64 0, .int .i64 0, .int .i64 0, .int .i64 0, .int .i64 0, .int .i64 0, .bool false, .slice O 0 o, .slice D n d], .int .i64 0]) ?_ rfl (uread_yes (x := Uh.zero) HF.out HX.out.1 HX.out.2.1 HX.out.2.2 HO.out HD.out (own_base (K.setRow_own _ O9.out hsz) (by omega)) (own_base (K.setRow_own _ D9.out hsz) (by omega)) AP.out (K.setRow_below B9.out (by omega) _))
  exact K.resCellTmp Try.results18 _ _ _ (w.heap.size + 1 + 1) _ rfl (run_loadVar_row _ _ 36 36 _ (0, 0) _ (setRow_heap _ _ _ _ _ _ z9.out) Try.underlying36 rfl info_up)

set_option maxHeartbeats 4000000 in
theorem urI_0n (w : World) (p : Int) (s t : Ad) (hr : RB w w.heap.size none ([] : List UInt8)) (hp : pairA s t = true) (hq : upTo p 255 = true) (hs : s.k = 4 ∨ s.k = 6) (hk : kindU p s.k = 0) (hu : ∀ (v : World) (g : Nat), Rp v g none 0 0 [] 0 → Calls Try.prog 49 #[.iface 109 (.agg #[.int .i64 0, .int .i64 0, .int .i64 0, .int .i64 0, .int .i64 0, .int .i64 0, .int .i64 0, .int .i64 0, .int .i64 0, .int .i64 0, .int .i64 0, .bool false, .slice none 0 0, .slice none 0 0]), .pointer (some ⟨g, 0, none⟩)] v (TakeOut Uh.zero [] [] 0 0 0 g v)) : Calls Try.prog 18 #[.slice none 0 0, .int .i64 p, .agg #[.int .i64 s.k, .int .i64 s.a, .int .i64 s.b, .int .i64 s.c, .int .i64 s.d], .agg #[.int .i64 t.k, .int .i64 t.a, .int .i64 t.b, .int .i64 t.c, .int .i64 t.d]] w (URead [] p s t w) := by
  have HX := Lib.hid (show uhX [] (kindU p s.k) s.k = Uh.zero ∧ uhO [] (kindU p s.k) = [] ∧ uhB [] (kindU p s.k) = [] by rw [hk]; exact ⟨rfl, rfl, rfl⟩)
  have hok : Uh.ok Uh.zero s.k 0 ([] : List UInt8).length = true := by rcases hs with h | h <;> rw [h] <;> simp [Uh.ok, kindB, Uh.fields, Uh.zero, Uh.unused, noF, Uh.size] <;> omega
  have HS := Lib.hid (Uh.sum_zero (x := Uh.zero) (o := []) (bs := []) (a := s) (b := t) (show (pairA s t && Uh.zero.ok s.k ([] : List UInt8).length ([] : List UInt8).length) = true by rw [hp]; exact hok) (.inl rfl))
  clear hok
  have HF := Lib.hid (show uhC [] p s t = 0 by rw [uhC_far (by simp) (by rw [hp, hq]; rfl), hk, if_neg (by simp), if_neg (by simp), if_neg (by simp), if_neg (by simpa [uhS, uhX, uhO, uhB] using HS.out.symm)])
  have HO : Hid (([] : List UInt8).length = 0) := Lib.hid rfl
  have HD : Hid (([] : List UInt8).length = 0) := Lib.hid rfl
  have HP := Lib.hid hp
  have HPR := Lib.hid hq
  have HQ := Lib.hid hq
  have HKQ := Lib.hid hk
  have HSK := Lib.hid hs
  have HU := Lib.hid hu
  have hI2 : ¬ (0 : Int) < 0 := by omega
  clear hu
  have R0 := Lib.hid hr
  have HL : Hid (([] : List UInt8).length = 0) := Lib.hid rfl
  clear hr hp hq hk hs
  have p0 : Hid ((((w.alloc (.cells #[.int .i64 s.k, .int .i64 s.a, .int .i64 s.b, .int .i64 s.c, .int .i64 s.d] 27)).alloc (.cells #[.int .i64 t.k, .int .i64 t.a, .int .i64 t.b, .int .i64 t.c, .int .i64 t.d] 27)).alloc (.cells #[.int .i64 0, .int .i64 0, .int .i64 0, .int .i64 0, .int .i64 0, .int .i64 0, .int .i64 0, .int .i64 0, .int .i64 0, .int .i64 0, .int .i64 0, .bool false, .slice none 0 0, .slice none 0 0] 36)).heap[w.heap.size]? = some (.cells #[.int .i64 s.k, .int .i64 s.a, .int .i64 s.b, .int .i64 s.c, .int .i64 s.d] 27)) := Lib.hid (by repeat (first | exact K.newAt (by first | rfl | (simp; done)) | refine K.oldAt (by first | (simp; done) | (simp; omega)) ?_))
  have r0 : Hid ((((w.alloc (.cells #[.int .i64 s.k, .int .i64 s.a, .int .i64 s.b, .int .i64 s.c, .int .i64 s.d] 27)).alloc (.cells #[.int .i64 t.k, .int .i64 t.a, .int .i64 t.b, .int .i64 t.c, .int .i64 t.d] 27)).alloc (.cells #[.int .i64 0, .int .i64 0, .int .i64 0, .int .i64 0, .int .i64 0, .int .i64 0, .int .i64 0, .int .i64 0, .int .i64 0, .int .i64 0, .int .i64 0, .bool false, .slice none 0 0, .slice none 0 0] 36)).heap[w.heap.size + 1]? = some (.cells #[.int .i64 t.k, .int .i64 t.a, .int .i64 t.b, .int .i64 t.c, .int .i64 t.d] 27)) := Lib.hid (by repeat (first | exact K.newAt (by first | rfl | (simp; done)) | refine K.oldAt (by first | (simp; done) | (simp; omega)) ?_))
  have z0 : Hid ((((w.alloc (.cells #[.int .i64 s.k, .int .i64 s.a, .int .i64 s.b, .int .i64 s.c, .int .i64 s.d] 27)).alloc (.cells #[.int .i64 t.k, .int .i64 t.a, .int .i64 t.b, .int .i64 t.c, .int .i64 t.d] 27)).alloc (.cells #[.int .i64 0, .int .i64 0, .int .i64 0, .int .i64 0, .int .i64 0, .int .i64 0, .int .i64 0, .int .i64 0, .int .i64 0, .int .i64 0, .int .i64 0, .bool false, .slice none 0 0, .slice none 0 0] 36)).heap[w.heap.size + 1 + 1]? = some (.cells #[.int .i64 0, .int .i64 0, .int .i64 0, .int .i64 0, .int .i64 0, .int .i64 0, .int .i64 0, .int .i64 0, .int .i64 0, .int .i64 0, .int .i64 0, .bool false, .slice none 0 0, .slice none 0 0] 36)) := Lib.hid (by repeat (first | exact K.newAt (by first | rfl | (simp; done)) | refine K.oldAt (by first | (simp; done) | (simp; omega)) ?_))
  have B0 : Hid (Below w.heap.size w (((w.alloc (.cells #[.int .i64 s.k, .int .i64 s.a, .int .i64 s.b, .int .i64 s.c, .int .i64 s.d] 27)).alloc (.cells #[.int .i64 t.k, .int .i64 t.a, .int .i64 t.b, .int .i64 t.c, .int .i64 t.d] 27)).alloc (.cells #[.int .i64 0, .int .i64 0, .int .i64 0, .int .i64 0, .int .i64 0, .int .i64 0, .int .i64 0, .int .i64 0, .int .i64 0, .int .i64 0, .int .i64 0, .bool false, .slice none 0 0, .slice none 0 0] 36))) := Lib.hid (by go_grown)
  go_enter Try.func18, Try.ntmps18
  go_wp2_with (first | (with_reducible refine loadA rfl _ rfl w.heap.size rfl p0.out ?_) | (with_reducible refine loadA rfl _ rfl (w.heap.size + 1) rfl r0.out ?_))
  refine Calls.mono (pairIB s t true HP.out _) ?_
  rintro e w1 ⟨rfl, b1⟩
  have p1 := Lib.hid (K.below b1 p0.out)
  have r1 := Lib.hid (K.below b1 r0.out)
  have z1 := Lib.hid (K.below b1 z0.out)
  have B1 := Lib.hid (bthen B0.out b1)
  clear b1 p0 r0 z0 B0
  go_wp2_with fail
  refine Calls.mono (protoB p true _ HQ.out) ?_
  rintro e w2 ⟨rfl, b2⟩
  have p2 := Lib.hid (K.below b2 p1.out)
  have r2 := Lib.hid (K.below b2 r1.out)
  have z2 := Lib.hid (K.below b2 z1.out)
  have B2 := Lib.hid (bthen B1.out b2)
  clear b2 p1 r1 z1 B1
  have d0 := K.cell p2.out 0 _ rfl
  go_wp2_with fail
  clear d0
  refine Calls.mono (kind_impl p s.k 0 _ HPR.out HSK.out HKQ.out) ?_
  rintro e w3 ⟨rfl, b3⟩
  have p3 := Lib.hid (K.below b3 p2.out)
  have r3 := Lib.hid (K.below b3 r2.out)
  have z3 := Lib.hid (K.below b3 z2.out)
  have B3 := Lib.hid (bthen B2.out b3)
  clear b3 p2 r2 z2 B2
  go_wp2_with fail
  refine Calls.mono (formatOfC (Uh.mk 0 0 0 0 0 0 0 0 0 0 0 false) none none 0 0 0 0 _) ?_
  rintro e w4 ⟨rfl, rfl⟩
  simp only [show ∀ v, fmtV 0 v = .iface 109 v from fun _ => rfl]
  have b4 := Joins.below_alloc1 w3 (.cells #[.int .i64 0, .int .i64 0, .int .i64 0, .int .i64 0, .int .i64 0, .int .i64 0, .int .i64 0, .int .i64 0, .int .i64 0, .int .i64 0, .int .i64 0, .bool false, .slice none 0 0, .slice none 0 0] 36)
  have p4 := Lib.hid (K.below b4 p3.out)
  have r4 := Lib.hid (K.below b4 r3.out)
  have z4 := Lib.hid (K.below b4 z3.out)
  have B4 := Lib.hid (bthen B3.out b4)
  clear b4 p3 r3 z3 B3
  generalize w3.alloc (.cells #[.int .i64 0, .int .i64 0, .int .i64 0, .int .i64 0, .int .i64 0, .int .i64 0, .int .i64 0, .int .i64 0, .int .i64 0, .int .i64 0, .int .i64 0, .bool false, .slice none 0 0, .slice none 0 0] 36) = w4 at p4 r4 z4 B4 ⊢
  go_wp2_with fail
  refine Calls.mono (head_other (Uh.mk 0 0 0 0 0 0 0 0 0 0 0 false) none none 0 0 0 0 _ (by omega)) ?_
  rintro e w5 ⟨rfl, b5⟩
  have p5 := Lib.hid (K.below b5 p4.out)
  have r5 := Lib.hid (K.below b5 r4.out)
  have z5 := Lib.hid (K.below b5 z4.out)
  have B5 := Lib.hid (bthen B4.out b5)
  clear b5 p4 r4 z4 B4
  have p6 := Lib.hid (K.old p5.out (.cells #[.slice none 0 0, .int .i64 0] 79))
  have r6 := Lib.hid (K.old r5.out (.cells #[.slice none 0 0, .int .i64 0] 79))
  have z6 := Lib.hid (K.old z5.out (.cells #[.slice none 0 0, .int .i64 0] 79))
  have lw5 : w.heap.size + 1 + 1 < w5.heap.size := K.lt z5.out
  have B6 := Lib.hid (bthen B5.out (Joins.below_alloc1 w5 (.cells #[.slice none 0 0, .int .i64 0] 79)))
  have RR : Hid (Rp (w5.alloc (.cells #[.slice none 0 0, .int .i64 0] 79)) w5.heap.size none 0 0 [] 0) := Lib.hid ⟨K.new w5 _, (R0.out.below B6.out).more (by omega), HL.out, by omega, by omega⟩
  go_wp2_with fail
  clear p5 r5 z5 B5
  refine Calls.mono (HU.out _ _ RR.out) ?_
  rintro e w6 ⟨O, o, D, d, rfl, oo, od, ap, gg⟩
  try simp only
  simp only [Uh.zero]
  have p7 := Lib.hid (K.kept gg p6.out (fun u hu => by cases hu; omega))
  have r7 := Lib.hid (K.kept gg r6.out (fun u hu => by cases hu; omega))
  have z7 := Lib.hid (K.kept gg z6.out (fun u hu => by cases hu; omega))
  have B7 := Lib.hid (bgrown B6.out gg (fun u hu => by cases hu; omega))
  clear RR p6 r6 z6 B6
  have lw6 : w5.heap.size + 1 ≤ w6.heap.size := by have := gg.size; simpa using this
  have d1 := K.cell (K.new w6 (.cells #[.int .i64 0, .int .i64 0, .int .i64 0, .int .i64 0, .int .i64 0, .int .i64 0, .int .i64 0, .int .i64 0, .int .i64 0, .int .i64 0, .int .i64 0, .bool false, .slice O 0 o, .slice D 0 d] 36)) 0 _ rfl
  have d2 := K.cell (K.old p7.out (.cells #[.int .i64 0, .int .i64 0, .int .i64 0, .int .i64 0, .int .i64 0, .int .i64 0, .int .i64 0, .int .i64 0, .int .i64 0, .int .i64 0, .int .i64 0, .bool false, .slice O 0 o, .slice D 0 d] 36)) 0 _ rfl
  have d3 := K.cell (K.new w6 (.cells #[.int .i64 0, .int .i64 0, .int .i64 0, .int .i64 0, .int .i64 0, .int .i64 0, .int .i64 0, .int .i64 0, .int .i64 0, .int .i64 0, .int .i64 0, .bool false, .slice O 0 o, .slice D 0 d] 36)) 11 _ rfl
  have f3 := frozen_of_row _ _ 11 _ _ (K.new w6 (.cells #[.int .i64 0, .int .i64 0, .int .i64 0, .int .i64 0, .int .i64 0, .int .i64 0, .int .i64 0, .int .i64 0, .int .i64 0, .int .i64 0, .int .i64 0, .bool false, .slice O 0 o, .slice D 0 d] 36))
  have p8 := Lib.hid (K.old p7.out (.cells #[.int .i64 0, .int .i64 0, .int .i64 0, .int .i64 0, .int .i64 0, .int .i64 0, .int .i64 0, .int .i64 0, .int .i64 0, .int .i64 0, .int .i64 0, .bool false, .slice O 0 o, .slice D 0 d] 36))
  have r8 := Lib.hid (K.old r7.out (.cells #[.int .i64 0, .int .i64 0, .int .i64 0, .int .i64 0, .int .i64 0, .int .i64 0, .int .i64 0, .int .i64 0, .int .i64 0, .int .i64 0, .int .i64 0, .bool false, .slice O 0 o, .slice D 0 d] 36))
  have z8 := Lib.hid (K.old z7.out (.cells #[.int .i64 0, .int .i64 0, .int .i64 0, .int .i64 0, .int .i64 0, .int .i64 0, .int .i64 0, .int .i64 0, .int .i64 0, .int .i64 0, .int .i64 0, .bool false, .slice O 0 o, .slice D 0 d] 36))
  have q8 := Lib.hid (K.new w6 (.cells #[.int .i64 0, .int .i64 0, .int .i64 0, .int .i64 0, .int .i64 0, .int .i64 0, .int .i64 0, .int .i64 0, .int .i64 0, .int .i64 0, .int .i64 0, .bool false, .slice O 0 o, .slice D 0 d] 36))
  have B8 := Lib.hid (bthen B7.out (Joins.below_alloc1 w6 (.cells #[.int .i64 0, .int .i64 0, .int .i64 0, .int .i64 0, .int .i64 0, .int .i64 0, .int .i64 0, .int .i64 0, .int .i64 0, .int .i64 0, .int .i64 0, .bool false, .slice O 0 o, .slice D 0 d] 36)))
  have O8 := Lib.hid (World.ownsRow.alloc (own_base oo (show w5.heap.size + 1 ≤ _ by simp)) (.cells #[.int .i64 0, .int .i64 0, .int .i64 0, .int .i64 0, .int .i64 0, .int .i64 0, .int .i64 0, .int .i64 0, .int .i64 0, .int .i64 0, .int .i64 0, .bool false, .slice O 0 o, .slice D 0 d] 36))
  have D8 := Lib.hid (World.ownsRow.alloc (own_base od (show w5.heap.size + 1 ≤ _ by simp)) (.cells #[.int .i64 0, .int .i64 0, .int .i64 0, .int .i64 0, .int .i64 0, .int .i64 0, .int .i64 0, .int .i64 0, .int .i64 0, .int .i64 0, .int .i64 0, .bool false, .slice O 0 o, .slice D 0 d] 36))
  have AP := Lib.hid ap
  clear oo od ap gg p7 r7 z7 B7
  go_upto_region 12 with (with_reducible refine storeNewU rfl _ _ rfl rfl rfl ?_)
  clear d1 d2 d3 f3
  generalize (w6.alloc (.cells #[.int .i64 0, .int .i64 0, .int .i64 0, .int .i64 0, .int .i64 0, .int .i64 0, .int .i64 0, .int .i64 0, .int .i64 0, .int .i64 0, .int .i64 0, .bool false, .slice O 0 o, .slice D 0 d] 36)) = w7 at p8 r8 z8 B8 q8 O8 D8 ⊢
  go_wp2_with (first | (with_reducible refine loadU rfl _ rfl w6.heap.size rfl q8.out ?_) | (with_reducible refine loadA rfl _ rfl w.heap.size rfl p8.out ?_) | (with_reducible refine loadA rfl _ rfl (w.heap.size + 1) rfl r8.out ?_))
  refine Calls.mono (usI Uh.zero s t O D 0 o 0 d [] [] _ (RB.of_own O8.out) HO.out (RB.of_own D8.out) HD.out (by omega) (by omega)) ?_
  rintro e w8 ⟨rfl, b8⟩
  rw [HS.out]
  have p9 := Lib.hid (K.below b8 p8.out)
  have r9 := Lib.hid (K.below b8 r8.out)
  have z9 := Lib.hid (K.below b8 z8.out)
  have q9 := Lib.hid (K.below b8 q8.out)
  have B9 := Lib.hid (bthen B8.out b8)
  have O9 := Lib.hid (own_below O8.out b8)
  have D9 := Lib.hid (own_below D8.out b8)
  clear b8 p8 r8 z8 B8 q8 O8 D8
  go_wp2_with (first | (with_reducible refine loadU rfl _ rfl w6.heap.size rfl q9.out ?_) | (with_reducible refine storeU rfl _ _ rfl (w.heap.size + 1 + 1) rfl rfl z9.out ?_))
  (try simp only [Exit.inBlock, Exit.then])
  have hsz : w.heap.size + 1 + 1 < w5.heap.size + 1 := by omega
  refine bodyPost_ret (v := .tuple #[.agg #[.int .i64 0, .int .i64 0, .int .i64 0, .int .i64 0, .int .i64 0, .int .i64 0, .int .i64 0, .int .i64 0, .int .i64 0, .int .i64 0, .int .i64 0, .bool false, .slice O 0 o, .slice D 0 d], .int .i64 0]) ?_ rfl (uread_yes (x := Uh.zero) HF.out HX.out.1 HX.out.2.1 HX.out.2.2 HO.out HD.out (own_base (K.setRow_own _ O9.out hsz) (by omega)) (own_base (K.setRow_own _ D9.out hsz) (by omega)) AP.out (K.setRow_below B9.out (by omega) _))
  exact K.resCellTmp Try.results18 _ _ _ (w.heap.size + 1 + 1) _ rfl (run_loadVar_row _ _ 36 36 _ (0, 0) _ (setRow_heap _ _ _ _ _ _ z9.out) Try.underlying36 rfl info_up)
end Go.Proofs.Ythogonpjkngpjaa

namespace Go.Proofs.Ythogonpjkngpjaa
set_option maxRecDepth 100000
open Go.RowKit

set_option maxHeartbeats 4000000 in
theorem urI_2a (w : World) (a : Addr) (n c : Nat) (bs : List UInt8) (p : Int) (s t : Ad) (hr : RB w w.heap.size (some a) bs) (hl : bs.length = n) (hc : n ≤ c) (hn : n ≤ 1500) (hp : pairA s t = true) (hq : upTo p 255 = true) (hs : s.k = 4 ∨ s.k = 6) (hk : kindU p s.k = 2) (sport dport seq ack bits window urgent ty code rest : Int) (os ds : List UInt8) (P Q sm : Nat) (S : Int) (ho : os.length = P) (hd : ds.length = Q) (hP : P ≤ 1500) (hQ : Q ≤ 1500) (h3 : 8 ≤ n) (h4 : s.k = 4) (h0 : sm = 0) (hsum : (Uh.mk 2 sport dport seq ack bits window urgent ty code rest true).sum os ds s t = S)  (hf0 : (sm : Int) = S → uhC bs p s t = 0) (hf6 : ¬ (sm : Int) = S → uhC bs p s t = 6) (hx1 : uhX bs (kindU p s.k) s.k = (Uh.mk 2 sport dport seq ack bits window urgent ty code rest true)) (hx2 : uhO bs (kindU p s.k) = os) (hx3 : uhB bs (kindU p s.k) = ds) (hu : ∀ (v : World) (g : Nat), Rp v g (some a) n c bs 0 → Calls Try.prog 49 #[.iface 111 (.agg #[.int .i64 2, .int .i64 0, .int .i64 0, .int .i64 0, .int .i64 0, .int .i64 0, .int .i64 0, .int .i64 0, .int .i64 0, .int .i64 0, .int .i64 0, .bool false, .slice none 0 0, .slice none 0 0]), .pointer (some ⟨g, 0, none⟩)] v (TakeOut (Uh.mk 2 sport dport seq ack bits window urgent ty code rest false) os ds P Q sm g v)) : Calls Try.prog 18 #[.slice (some a) n c, .int .i64 p, .agg #[.int .i64 s.k, .int .i64 s.a, .int .i64 s.b, .int .i64 s.c, .int .i64 s.d], .agg #[.int .i64 t.k, .int .i64 t.a, .int .i64 t.b, .int .i64 t.c, .int .i64 t.d]] w (URead bs p s t w) := by
  have HX := Lib.hid (And.intro hx1 (And.intro hx2 hx3))
  clear hx1 hx2 hx3
  have HP := Lib.hid hp
  have HPR := Lib.hid hq
  have HQ := Lib.hid hq
  have HKQ := Lib.hid hk
  have HSK := Lib.hid hs
  have HF := Lib.hid (And.intro hf0 hf6)
  have HU := Lib.hid hu
  have HS := Lib.hid hsum
  have HO := Lib.hid ho
  have HD := Lib.hid hd
  have hI2 : ¬ (n : Int) < 8 := by omega
  clear hf0 hf6 hu hsum ho hd
  have g4 : (s.k == 4) = true := by simp; omega
  have g0 : ((sm : Int) == 0) = true := by simp; omega
  clear h4 h0
  have R0 := Lib.hid hr
  have HL := Lib.hid hl
  have hI : ¬ (1500 : Int) < (n : Int) := by omega
  clear hr hp hq hk hs hl
  have p0 : Hid ((((w.alloc (.cells #[.int .i64 s.k, .int .i64 s.a, .int .i64 s.b, .int .i64 s.c, .int .i64 s.d] 27)).alloc (.cells #[.int .i64 t.k, .int .i64 t.a, .int .i64 t.b, .int .i64 t.c, .int .i64 t.d] 27)).alloc (.cells #[.int .i64 0, .int .i64 0, .int .i64 0, .int .i64 0, .int .i64 0, .int .i64 0, .int .i64 0, .int .i64 0, .int .i64 0, .int .i64 0, .int .i64 0, .bool false, .slice none 0 0, .slice none 0 0] 36)).heap[w.heap.size]? = some (.cells #[.int .i64 s.k, .int .i64 s.a, .int .i64 s.b, .int .i64 s.c, .int .i64 s.d] 27)) := Lib.hid (by repeat (first | exact K.newAt (by first | rfl | (simp; done)) | refine K.oldAt (by first | (simp; done) | (simp; omega)) ?_))
  have r0 : Hid ((((w.alloc (.cells #[.int .i64 s.k, .int .i64 s.a, .int .i64 s.b, .int .i64 s.c, .int .i64 s.d] 27)).alloc (.cells #[.int .i64 t.k, .int .i64 t.a, .int .i64 t.b, .int .i64 t.c, .int .i64 t.d] 27)).alloc (.cells #[.int .i64 0, .int .i64 0, .int .i64 0, .int .i64 0, .int .i64 0, .int .i64 0, .int .i64 0, .int .i64 0, .int .i64 0, .int .i64 0, .int .i64 0, .bool false, .slice none 0 0, .slice none 0 0] 36)).heap[w.heap.size + 1]? = some (.cells #[.int .i64 t.k, .int .i64 t.a, .int .i64 t.b, .int .i64 t.c, .int .i64 t.d] 27)) := Lib.hid (by repeat (first | exact K.newAt (by first | rfl | (simp; done)) | refine K.oldAt (by first | (simp; done) | (simp; omega)) ?_))
  have z0 : Hid ((((w.alloc (.cells #[.int .i64 s.k, .int .i64 s.a, .int .i64 s.b, .int .i64 s.c, .int .i64 s.d] 27)).alloc (.cells #[.int .i64 t.k, .int .i64 t.a, .int .i64 t.b, .int .i64 t.c, .int .i64 t.d] 27)).alloc (.cells #[.int .i64 0, .int .i64 0, .int .i64 0, .int .i64 0, .int .i64 0, .int .i64 0, .int .i64 0, .int .i64 0, .int .i64 0, .int .i64 0, .int .i64 0, .bool false, .slice none 0 0, .slice none 0 0] 36)).heap[w.heap.size + 1 + 1]? = some (.cells #[.int .i64 0, .int .i64 0, .int .i64 0, .int .i64 0, .int .i64 0, .int .i64 0, .int .i64 0, .int .i64 0, .int .i64 0, .int .i64 0, .int .i64 0, .bool false, .slice none 0 0, .slice none 0 0] 36)) := Lib.hid (by repeat (first | exact K.newAt (by first | rfl | (simp; done)) | refine K.oldAt (by first | (simp; done) | (simp; omega)) ?_))
  have B0 : Hid (Below w.heap.size w (((w.alloc (.cells #[.int .i64 s.k, .int .i64 s.a, .int .i64 s.b, .int .i64 s.c, .int .i64 s.d] 27)).alloc (.cells #[.int .i64 t.k, .int .i64 t.a, .int .i64 t.b, .int .i64 t.c, .int .i64 t.d] 27)).alloc (.cells #[.int .i64 0, .int .i64 0, .int .i64 0, .int .i64 0, .int .i64 0, .int .i64 0, .int .i64 0, .int .i64 0, .int .i64 0, .int .i64 0, .int .i64 0, .bool false, .slice none 0 0, .slice none 0 0] 36))) := Lib.hid (by go_grown)
  go_enter Try.func18, Try.ntmps18
  go_wp2_with (first | (with_reducible refine loadA rfl _ rfl w.heap.size rfl p0.out ?_) | (with_reducible refine loadA rfl _ rfl (w.heap.size + 1) rfl r0.out ?_))
  refine Calls.mono (pairIB s t true HP.out _) ?_
  rintro e w1 ⟨rfl, b1⟩
  have p1 := Lib.hid (K.below b1 p0.out)
  have r1 := Lib.hid (K.below b1 r0.out)
  have z1 := Lib.hid (K.below b1 z0.out)
  have B1 := Lib.hid (bthen B0.out b1)
  clear b1 p0 r0 z0 B0
  go_wp2_with fail
  refine Calls.mono (protoB p true _ HQ.out) ?_
  rintro e w2 ⟨rfl, b2⟩
  have p2 := Lib.hid (K.below b2 p1.out)
  have r2 := Lib.hid (K.below b2 r1.out)
  have z2 := Lib.hid (K.below b2 z1.out)
  have B2 := Lib.hid (bthen B1.out b2)
  clear b2 p1 r1 z1 B1
  have d0 := K.cell p2.out 0 _ rfl
  go_wp2_with fail
  clear d0
  refine Calls.mono (kind_impl p s.k 2 _ HPR.out HSK.out HKQ.out) ?_
  rintro e w3 ⟨rfl, b3⟩
  have p3 := Lib.hid (K.below b3 p2.out)
  have r3 := Lib.hid (K.below b3 r2.out)
  have z3 := Lib.hid (K.below b3 z2.out)
  have B3 := Lib.hid (bthen B2.out b3)
  clear b3 p2 r2 z2 B2
  go_wp2_with fail
  refine Calls.mono (formatOfC (Uh.mk 2 0 0 0 0 0 0 0 0 0 0 false) none none 0 0 0 0 _) ?_
  rintro e w4 ⟨rfl, rfl⟩
  simp only [show ∀ v, fmtV 2 v = .iface 111 v from fun _ => rfl]
  have b4 := Joins.below_alloc1 w3 (.cells #[.int .i64 2, .int .i64 0, .int .i64 0, .int .i64 0, .int .i64 0, .int .i64 0, .int .i64 0, .int .i64 0, .int .i64 0, .int .i64 0, .int .i64 0, .bool false, .slice none 0 0, .slice none 0 0] 36)
  have p4 := Lib.hid (K.below b4 p3.out)
  have r4 := Lib.hid (K.below b4 r3.out)
  have z4 := Lib.hid (K.below b4 z3.out)
  have B4 := Lib.hid (bthen B3.out b4)
  clear b4 p3 r3 z3 B3
  generalize w3.alloc (.cells #[.int .i64 2, .int .i64 0, .int .i64 0, .int .i64 0, .int .i64 0, .int .i64 0, .int .i64 0, .int .i64 0, .int .i64 0, .int .i64 0, .int .i64 0, .bool false, .slice none 0 0, .slice none 0 0] 36) = w4 at p4 r4 z4 B4 ⊢
  go_wp2_with fail
  refine Calls.mono (head_udp (Uh.mk 2 0 0 0 0 0 0 0 0 0 0 false) none none 0 0 0 0 _ (by omega)) ?_
  rintro e w5 ⟨rfl, b5⟩
  have p5 := Lib.hid (K.below b5 p4.out)
  have r5 := Lib.hid (K.below b5 r4.out)
  have z5 := Lib.hid (K.below b5 z4.out)
  have B5 := Lib.hid (bthen B4.out b5)
  clear b5 p4 r4 z4 B4
  have p6 := Lib.hid (K.old p5.out (.cells #[.slice (some a) n c, .int .i64 0] 79))
  have r6 := Lib.hid (K.old r5.out (.cells #[.slice (some a) n c, .int .i64 0] 79))
  have z6 := Lib.hid (K.old z5.out (.cells #[.slice (some a) n c, .int .i64 0] 79))
  have lw5 : w.heap.size + 1 + 1 < w5.heap.size := K.lt z5.out
  have B6 := Lib.hid (bthen B5.out (Joins.below_alloc1 w5 (.cells #[.slice (some a) n c, .int .i64 0] 79)))
  have RR : Hid (Rp (w5.alloc (.cells #[.slice (some a) n c, .int .i64 0] 79)) w5.heap.size (some a) n c bs 0) := Lib.hid ⟨K.new w5 _, (R0.out.below B6.out).more (by omega), HL.out, by omega, by omega⟩
  go_wp2_with fail
  clear p5 r5 z5 B5
  refine Calls.mono (HU.out _ _ RR.out) ?_
  rintro e w6 ⟨O, o, D, d, rfl, oo, od, ap, gg⟩
  try simp only
  have p7 := Lib.hid (K.kept gg p6.out (fun u hu => by cases hu; omega))
  have r7 := Lib.hid (K.kept gg r6.out (fun u hu => by cases hu; omega))
  have z7 := Lib.hid (K.kept gg z6.out (fun u hu => by cases hu; omega))
  have B7 := Lib.hid (bgrown B6.out gg (fun u hu => by cases hu; omega))
  clear RR p6 r6 z6 B6
  have lw6 : w5.heap.size + 1 ≤ w6.heap.size := by have := gg.size; simpa using this
  have d1 := K.cell (K.new w6 (.cells #[.int .i64 2, .int .i64 sport, .int .i64 dport, .int .i64 seq, .int .i64 ack, .int .i64 bits, .int .i64 window, .int .i64 urgent, .int .i64 ty, .int .i64 code, .int .i64 rest, .bool false, .slice O P o, .slice D Q d] 36)) 0 _ rfl
  have d2 := K.cell (K.old p7.out (.cells #[.int .i64 2, .int .i64 sport, .int .i64 dport, .int .i64 seq, .int .i64 ack, .int .i64 bits, .int .i64 window, .int .i64 urgent, .int .i64 ty, .int .i64 code, .int .i64 rest, .bool false, .slice O P o, .slice D Q d] 36)) 0 _ rfl
  have d3 := K.cell (K.new w6 (.cells #[.int .i64 2, .int .i64 sport, .int .i64 dport, .int .i64 seq, .int .i64 ack, .int .i64 bits, .int .i64 window, .int .i64 urgent, .int .i64 ty, .int .i64 code, .int .i64 rest, .bool false, .slice O P o, .slice D Q d] 36)) 11 _ rfl
  have f3 := frozen_of_row _ _ 11 _ _ (K.new w6 (.cells #[.int .i64 2, .int .i64 sport, .int .i64 dport, .int .i64 seq, .int .i64 ack, .int .i64 bits, .int .i64 window, .int .i64 urgent, .int .i64 ty, .int .i64 code, .int .i64 rest, .bool false, .slice O P o, .slice D Q d] 36))
  have p8 := Lib.hid (K.old p7.out (.cells #[.int .i64 2, .int .i64 sport, .int .i64 dport, .int .i64 seq, .int .i64 ack, .int .i64 bits, .int .i64 window, .int .i64 urgent, .int .i64 ty, .int .i64 code, .int .i64 rest, .bool true, .slice O P o, .slice D Q d] 36))
  have r8 := Lib.hid (K.old r7.out (.cells #[.int .i64 2, .int .i64 sport, .int .i64 dport, .int .i64 seq, .int .i64 ack, .int .i64 bits, .int .i64 window, .int .i64 urgent, .int .i64 ty, .int .i64 code, .int .i64 rest, .bool true, .slice O P o, .slice D Q d] 36))
  have z8 := Lib.hid (K.old z7.out (.cells #[.int .i64 2, .int .i64 sport, .int .i64 dport, .int .i64 seq, .int .i64 ack, .int .i64 bits, .int .i64 window, .int .i64 urgent, .int .i64 ty, .int .i64 code, .int .i64 rest, .bool true, .slice O P o, .slice D Q d] 36))
  have q8 := Lib.hid (K.new w6 (.cells #[.int .i64 2, .int .i64 sport, .int .i64 dport, .int .i64 seq, .int .i64 ack, .int .i64 bits, .int .i64 window, .int .i64 urgent, .int .i64 ty, .int .i64 code, .int .i64 rest, .bool true, .slice O P o, .slice D Q d] 36))
  have B8 := Lib.hid (bthen B7.out (Joins.below_alloc1 w6 (.cells #[.int .i64 2, .int .i64 sport, .int .i64 dport, .int .i64 seq, .int .i64 ack, .int .i64 bits, .int .i64 window, .int .i64 urgent, .int .i64 ty, .int .i64 code, .int .i64 rest, .bool true, .slice O P o, .slice D Q d] 36)))
  have O8 := Lib.hid (World.ownsRow.alloc (own_base oo (show w5.heap.size + 1 ≤ _ by simp)) (.cells #[.int .i64 2, .int .i64 sport, .int .i64 dport, .int .i64 seq, .int .i64 ack, .int .i64 bits, .int .i64 window, .int .i64 urgent, .int .i64 ty, .int .i64 code, .int .i64 rest, .bool true, .slice O P o, .slice D Q d] 36))
  have D8 := Lib.hid (World.ownsRow.alloc (own_base od (show w5.heap.size + 1 ≤ _ by simp)) (.cells #[.int .i64 2, .int .i64 sport, .int .i64 dport, .int .i64 seq, .int .i64 ack, .int .i64 bits, .int .i64 window, .int .i64 urgent, .int .i64 ty, .int .i64 code, .int .i64 rest, .bool true, .slice O P o, .slice D Q d] 36))
  have AP := Lib.hid ap
  clear oo od ap gg p7 r7 z7 B7
  go_upto_region 12 with (with_reducible refine storeNewU rfl _ _ rfl rfl rfl ?_)
  clear d1 d2 d3 f3
  generalize (w6.alloc (.cells #[.int .i64 2, .int .i64 sport, .int .i64 dport, .int .i64 seq, .int .i64 ack, .int .i64 bits, .int .i64 window, .int .i64 urgent, .int .i64 ty, .int .i64 code, .int .i64 rest, .bool true, .slice O P o, .slice D Q d] 36)) = w7 at p8 r8 z8 B8 q8 O8 D8 ⊢
  go_wp2_with (first | (with_reducible refine loadU rfl _ rfl w6.heap.size rfl q8.out ?_) | (with_reducible refine loadA rfl _ rfl w.heap.size rfl p8.out ?_) | (with_reducible refine loadA rfl _ rfl (w.heap.size + 1) rfl r8.out ?_))
  refine Calls.mono (usI (Uh.mk 2 sport dport seq ack bits window urgent ty code rest true) s t O D P o Q d os ds _ (RB.of_own O8.out) HO.out (RB.of_own D8.out) HD.out (by omega) (by omega)) ?_
  rintro e w8 ⟨rfl, b8⟩
  rw [HS.out]
  have p9 := Lib.hid (K.below b8 p8.out)
  have r9 := Lib.hid (K.below b8 r8.out)
  have z9 := Lib.hid (K.below b8 z8.out)
  have q9 := Lib.hid (K.below b8 q8.out)
  have B9 := Lib.hid (bthen B8.out b8)
  have O9 := Lib.hid (own_below O8.out b8)
  have D9 := Lib.hid (own_below D8.out b8)
  clear b8 p8 r8 z8 B8 q8 O8 D8
  by_cases hS : (sm : Int) = S
  · have HFG := Lib.hid (HF.out.1 hS)
    have hX : ((sm : Int) != S) = false := by simp [hS]
    go_wp2_with (first | (with_reducible refine loadU rfl _ rfl w6.heap.size rfl q9.out ?_) | (with_reducible refine storeU rfl _ _ rfl (w.heap.size + 1 + 1) rfl rfl z9.out ?_))
    (try simp only [Exit.inBlock, Exit.then])
    have hsz : w.heap.size + 1 + 1 < w5.heap.size + 1 := by omega
    refine bodyPost_ret (v := .tuple #[.agg #[.int .i64 2, .int .i64 sport, .int .i64 dport, .int .i64 seq, .int .i64 ack, .int .i64 bits, .int .i64 window, .int .i64 urgent, .int .i64 ty, .int .i64 code, .int .i64 rest, .bool true, .slice O P o, .slice D Q d], .int .i64 0]) ?_ rfl (uread_yes (x := (Uh.mk 2 sport dport seq ack bits window urgent ty code rest true)) HFG.out HX.out.1 HX.out.2.1 HX.out.2.2 HO.out HD.out (own_base (K.setRow_own _ O9.out hsz) (by omega)) (own_base (K.setRow_own _ D9.out hsz) (by omega)) AP.out (K.setRow_below B9.out (by omega) _))
    exact K.resCellTmp Try.results18 _ _ _ (w.heap.size + 1 + 1) _ rfl (run_loadVar_row _ _ 36 36 _ (0, 0) _ (setRow_heap _ _ _ _ _ _ z9.out) Try.underlying36 rfl info_up)
  · have HFB := Lib.hid (HF.out.2 hS)
    have hX : ((sm : Int) != S) = true := by simpa using hS
    go_wp2_with (with_reducible refine storeU rfl _ _ rfl (w.heap.size + 1 + 1) rfl rfl z9.out ?_)
    (try simp only [Exit.inBlock, Exit.then])
    refine bodyPost_ret (v := .tuple #[.agg #[.int .i64 0, .int .i64 0, .int .i64 0, .int .i64 0, .int .i64 0, .int .i64 0, .int .i64 0, .int .i64 0, .int .i64 0, .int .i64 0, .int .i64 0, .bool false, .slice none 0 0, .slice none 0 0], .int .i64 6]) ?_ rfl (uread_no HFB.out (by omega) (K.setRow_below B9.out (by omega) _))
    exact K.resCellTmp Try.results18 _ _ _ (w.heap.size + 1 + 1) _ rfl (run_loadVar_row _ _ 36 36 _ (0, 0) _ (setRow_heap _ _ _ _ _ _ z9.out) Try.underlying36 rfl info_up)

set_option maxHeartbeats 4000000 in
theorem urI_2b (w : World) (a : Addr) (n c : Nat) (bs : List UInt8) (p : Int) (s t : Ad) (hr : RB w w.heap.size (some a) bs) (hl : bs.length = n) (hc : n ≤ c) (hn : n ≤ 1500) (hp : pairA s t = true) (hq : upTo p 255 = true) (hs : s.k = 4 ∨ s.k = 6) (hk : kindU p s.k = 2) (sport dport seq ack bits window urgent ty code rest : Int) (os ds : List UInt8) (P Q sm : Nat) (S : Int) (ho : os.length = P) (hd : ds.length = Q) (hP : P ≤ 1500) (hQ : Q ≤ 1500) (h3 : 8 ≤ n) (h4 : s.k = 4) (h0 : ¬ sm = 0) (hsum : (Uh.mk 2 sport dport seq ack bits window urgent ty code rest false).sum os ds s t = S)  (hf0 : (sm : Int) = S → uhC bs p s t = 0) (hf6 : ¬ (sm : Int) = S → uhC bs p s t = 6) (hx1 : uhX bs (kindU p s.k) s.k = (Uh.mk 2 sport dport seq ack bits window urgent ty code rest false)) (hx2 : uhO bs (kindU p s.k) = os) (hx3 : uhB bs (kindU p s.k) = ds) (hu : ∀ (v : World) (g : Nat), Rp v g (some a) n c bs 0 → Calls Try.prog 49 #[.iface 111 (.agg #[.int .i64 2, .int .i64 0, .int .i64 0, .int .i64 0, .int .i64 0, .int .i64 0, .int .i64 0, .int .i64 0, .int .i64 0, .int .i64 0, .int .i64 0, .bool false, .slice none 0 0, .slice none 0 0]), .pointer (some ⟨g, 0, none⟩)] v (TakeOut (Uh.mk 2 sport dport seq ack bits window urgent ty code rest false) os ds P Q sm g v)) : Calls Try.prog 18 #[.slice (some a) n c, .int .i64 p, .agg #[.int .i64 s.k, .int .i64 s.a, .int .i64 s.b, .int .i64 s.c, .int .i64 s.d], .agg #[.int .i64 t.k, .int .i64 t.a, .int .i64 t.b, .int .i64 t.c, .int .i64 t.d]] w (URead bs p s t w) := by
  have HX := Lib.hid (And.intro hx1 (And.intro hx2 hx3))
  clear hx1 hx2 hx3
  have HP := Lib.hid hp
  have HPR := Lib.hid hq
  have HQ := Lib.hid hq
  have HKQ := Lib.hid hk
  have HSK := Lib.hid hs
  have HF := Lib.hid (And.intro hf0 hf6)
  have HU := Lib.hid hu
  have HS := Lib.hid hsum
  have HO := Lib.hid ho
  have HD := Lib.hid hd
  have hI2 : ¬ (n : Int) < 8 := by omega
  clear hf0 hf6 hu hsum ho hd
  have g4 : (s.k == 4) = true := by simp; omega
  have g0 : ((sm : Int) == 0) = false := by simp; omega
  clear h4 h0
  have R0 := Lib.hid hr
  have HL := Lib.hid hl
  have hI : ¬ (1500 : Int) < (n : Int) := by omega
  clear hr hp hq hk hs hl
  have p0 : Hid ((((w.alloc (.cells #[.int .i64 s.k, .int .i64 s.a, .int .i64 s.b, .int .i64 s.c, .int .i64 s.d] 27)).alloc (.cells #[.int .i64 t.k, .int .i64 t.a, .int .i64 t.b, .int .i64 t.c, .int .i64 t.d] 27)).alloc (.cells #[.int .i64 0, .int .i64 0, .int .i64 0, .int .i64 0, .int .i64 0, .int .i64 0, .int .i64 0, .int .i64 0, .int .i64 0, .int .i64 0, .int .i64 0, .bool false, .slice none 0 0, .slice none 0 0] 36)).heap[w.heap.size]? = some (.cells #[.int .i64 s.k, .int .i64 s.a, .int .i64 s.b, .int .i64 s.c, .int .i64 s.d] 27)) := Lib.hid (by repeat (first | exact K.newAt (by first | rfl | (simp; done)) | refine K.oldAt (by first | (simp; done) | (simp; omega)) ?_))
  have r0 : Hid ((((w.alloc (.cells #[.int .i64 s.k, .int .i64 s.a, .int .i64 s.b, .int .i64 s.c, .int .i64 s.d] 27)).alloc (.cells #[.int .i64 t.k, .int .i64 t.a, .int .i64 t.b, .int .i64 t.c, .int .i64 t.d] 27)).alloc (.cells #[.int .i64 0, .int .i64 0, .int .i64 0, .int .i64 0, .int .i64 0, .int .i64 0, .int .i64 0, .int .i64 0, .int .i64 0, .int .i64 0, .int .i64 0, .bool false, .slice none 0 0, .slice none 0 0] 36)).heap[w.heap.size + 1]? = some (.cells #[.int .i64 t.k, .int .i64 t.a, .int .i64 t.b, .int .i64 t.c, .int .i64 t.d] 27)) := Lib.hid (by repeat (first | exact K.newAt (by first | rfl | (simp; done)) | refine K.oldAt (by first | (simp; done) | (simp; omega)) ?_))
  have z0 : Hid ((((w.alloc (.cells #[.int .i64 s.k, .int .i64 s.a, .int .i64 s.b, .int .i64 s.c, .int .i64 s.d] 27)).alloc (.cells #[.int .i64 t.k, .int .i64 t.a, .int .i64 t.b, .int .i64 t.c, .int .i64 t.d] 27)).alloc (.cells #[.int .i64 0, .int .i64 0, .int .i64 0, .int .i64 0, .int .i64 0, .int .i64 0, .int .i64 0, .int .i64 0, .int .i64 0, .int .i64 0, .int .i64 0, .bool false, .slice none 0 0, .slice none 0 0] 36)).heap[w.heap.size + 1 + 1]? = some (.cells #[.int .i64 0, .int .i64 0, .int .i64 0, .int .i64 0, .int .i64 0, .int .i64 0, .int .i64 0, .int .i64 0, .int .i64 0, .int .i64 0, .int .i64 0, .bool false, .slice none 0 0, .slice none 0 0] 36)) := Lib.hid (by repeat (first | exact K.newAt (by first | rfl | (simp; done)) | refine K.oldAt (by first | (simp; done) | (simp; omega)) ?_))
  have B0 : Hid (Below w.heap.size w (((w.alloc (.cells #[.int .i64 s.k, .int .i64 s.a, .int .i64 s.b, .int .i64 s.c, .int .i64 s.d] 27)).alloc (.cells #[.int .i64 t.k, .int .i64 t.a, .int .i64 t.b, .int .i64 t.c, .int .i64 t.d] 27)).alloc (.cells #[.int .i64 0, .int .i64 0, .int .i64 0, .int .i64 0, .int .i64 0, .int .i64 0, .int .i64 0, .int .i64 0, .int .i64 0, .int .i64 0, .int .i64 0, .bool false, .slice none 0 0, .slice none 0 0] 36))) := Lib.hid (by go_grown)
  go_enter Try.func18, Try.ntmps18
  go_wp2_with (first | (with_reducible refine loadA rfl _ rfl w.heap.size rfl p0.out ?_) | (with_reducible refine loadA rfl _ rfl (w.heap.size + 1) rfl r0.out ?_))
  refine Calls.mono (pairIB s t true HP.out _) ?_
  rintro e w1 ⟨rfl, b1⟩
  have p1 := Lib.hid (K.below b1 p0.out)
  have r1 := Lib.hid (K.below b1 r0.out)
  have z1 := Lib.hid (K.below b1 z0.out)
  have B1 := Lib.hid (bthen B0.out b1)
  clear b1 p0 r0 z0 B0
  go_wp2_with fail
  refine Calls.mono (protoB p true _ HQ.out) ?_
  rintro e w2 ⟨rfl, b2⟩
  have p2 := Lib.hid (K.below b2 p1.out)
  have r2 := Lib.hid (K.below b2 r1.out)
  have z2 := Lib.hid (K.below b2 z1.out)
  have B2 := Lib.hid (bthen B1.out b2)
  clear b2 p1 r1 z1 B1
  have d0 := K.cell p2.out 0 _ rfl
  go_wp2_with fail
  clear d0
  refine Calls.mono (kind_impl p s.k 2 _ HPR.out HSK.out HKQ.out) ?_
  rintro e w3 ⟨rfl, b3⟩
  have p3 := Lib.hid (K.below b3 p2.out)
  have r3 := Lib.hid (K.below b3 r2.out)
  have z3 := Lib.hid (K.below b3 z2.out)
  have B3 := Lib.hid (bthen B2.out b3)
  clear b3 p2 r2 z2 B2
  go_wp2_with fail
  refine Calls.mono (formatOfC (Uh.mk 2 0 0 0 0 0 0 0 0 0 0 false) none none 0 0 0 0 _) ?_
  rintro e w4 ⟨rfl, rfl⟩
  simp only [show ∀ v, fmtV 2 v = .iface 111 v from fun _ => rfl]
  have b4 := Joins.below_alloc1 w3 (.cells #[.int .i64 2, .int .i64 0, .int .i64 0, .int .i64 0, .int .i64 0, .int .i64 0, .int .i64 0, .int .i64 0, .int .i64 0, .int .i64 0, .int .i64 0, .bool false, .slice none 0 0, .slice none 0 0] 36)
  have p4 := Lib.hid (K.below b4 p3.out)
  have r4 := Lib.hid (K.below b4 r3.out)
  have z4 := Lib.hid (K.below b4 z3.out)
  have B4 := Lib.hid (bthen B3.out b4)
  clear b4 p3 r3 z3 B3
  generalize w3.alloc (.cells #[.int .i64 2, .int .i64 0, .int .i64 0, .int .i64 0, .int .i64 0, .int .i64 0, .int .i64 0, .int .i64 0, .int .i64 0, .int .i64 0, .int .i64 0, .bool false, .slice none 0 0, .slice none 0 0] 36) = w4 at p4 r4 z4 B4 ⊢
  go_wp2_with fail
  refine Calls.mono (head_udp (Uh.mk 2 0 0 0 0 0 0 0 0 0 0 false) none none 0 0 0 0 _ (by omega)) ?_
  rintro e w5 ⟨rfl, b5⟩
  have p5 := Lib.hid (K.below b5 p4.out)
  have r5 := Lib.hid (K.below b5 r4.out)
  have z5 := Lib.hid (K.below b5 z4.out)
  have B5 := Lib.hid (bthen B4.out b5)
  clear b5 p4 r4 z4 B4
  have p6 := Lib.hid (K.old p5.out (.cells #[.slice (some a) n c, .int .i64 0] 79))
  have r6 := Lib.hid (K.old r5.out (.cells #[.slice (some a) n c, .int .i64 0] 79))
  have z6 := Lib.hid (K.old z5.out (.cells #[.slice (some a) n c, .int .i64 0] 79))
  have lw5 : w.heap.size + 1 + 1 < w5.heap.size := K.lt z5.out
  have B6 := Lib.hid (bthen B5.out (Joins.below_alloc1 w5 (.cells #[.slice (some a) n c, .int .i64 0] 79)))
  have RR : Hid (Rp (w5.alloc (.cells #[.slice (some a) n c, .int .i64 0] 79)) w5.heap.size (some a) n c bs 0) := Lib.hid ⟨K.new w5 _, (R0.out.below B6.out).more (by omega), HL.out, by omega, by omega⟩
  go_wp2_with fail
  clear p5 r5 z5 B5
  refine Calls.mono (HU.out _ _ RR.out) ?_
  rintro e w6 ⟨O, o, D, d, rfl, oo, od, ap, gg⟩
  try simp only
  have p7 := Lib.hid (K.kept gg p6.out (fun u hu => by cases hu; omega))
  have r7 := Lib.hid (K.kept gg r6.out (fun u hu => by cases hu; omega))
  have z7 := Lib.hid (K.kept gg z6.out (fun u hu => by cases hu; omega))
  have B7 := Lib.hid (bgrown B6.out gg (fun u hu => by cases hu; omega))
  clear RR p6 r6 z6 B6
  have lw6 : w5.heap.size + 1 ≤ w6.heap.size := by have := gg.size; simpa using this
  have d1 := K.cell (K.new w6 (.cells #[.int .i64 2, .int .i64 sport, .int .i64 dport, .int .i64 seq, .int .i64 ack, .int .i64 bits, .int .i64 window, .int .i64 urgent, .int .i64 ty, .int .i64 code, .int .i64 rest, .bool false, .slice O P o, .slice D Q d] 36)) 0 _ rfl
  have d2 := K.cell (K.old p7.out (.cells #[.int .i64 2, .int .i64 sport, .int .i64 dport, .int .i64 seq, .int .i64 ack, .int .i64 bits, .int .i64 window, .int .i64 urgent, .int .i64 ty, .int .i64 code, .int .i64 rest, .bool false, .slice O P o, .slice D Q d] 36)) 0 _ rfl
  have d3 := K.cell (K.new w6 (.cells #[.int .i64 2, .int .i64 sport, .int .i64 dport, .int .i64 seq, .int .i64 ack, .int .i64 bits, .int .i64 window, .int .i64 urgent, .int .i64 ty, .int .i64 code, .int .i64 rest, .bool false, .slice O P o, .slice D Q d] 36)) 11 _ rfl
  have f3 := frozen_of_row _ _ 11 _ _ (K.new w6 (.cells #[.int .i64 2, .int .i64 sport, .int .i64 dport, .int .i64 seq, .int .i64 ack, .int .i64 bits, .int .i64 window, .int .i64 urgent, .int .i64 ty, .int .i64 code, .int .i64 rest, .bool false, .slice O P o, .slice D Q d] 36))
  have p8 := Lib.hid (K.old p7.out (.cells #[.int .i64 2, .int .i64 sport, .int .i64 dport, .int .i64 seq, .int .i64 ack, .int .i64 bits, .int .i64 window, .int .i64 urgent, .int .i64 ty, .int .i64 code, .int .i64 rest, .bool false, .slice O P o, .slice D Q d] 36))
  have r8 := Lib.hid (K.old r7.out (.cells #[.int .i64 2, .int .i64 sport, .int .i64 dport, .int .i64 seq, .int .i64 ack, .int .i64 bits, .int .i64 window, .int .i64 urgent, .int .i64 ty, .int .i64 code, .int .i64 rest, .bool false, .slice O P o, .slice D Q d] 36))
  have z8 := Lib.hid (K.old z7.out (.cells #[.int .i64 2, .int .i64 sport, .int .i64 dport, .int .i64 seq, .int .i64 ack, .int .i64 bits, .int .i64 window, .int .i64 urgent, .int .i64 ty, .int .i64 code, .int .i64 rest, .bool false, .slice O P o, .slice D Q d] 36))
  have q8 := Lib.hid (K.new w6 (.cells #[.int .i64 2, .int .i64 sport, .int .i64 dport, .int .i64 seq, .int .i64 ack, .int .i64 bits, .int .i64 window, .int .i64 urgent, .int .i64 ty, .int .i64 code, .int .i64 rest, .bool false, .slice O P o, .slice D Q d] 36))
  have B8 := Lib.hid (bthen B7.out (Joins.below_alloc1 w6 (.cells #[.int .i64 2, .int .i64 sport, .int .i64 dport, .int .i64 seq, .int .i64 ack, .int .i64 bits, .int .i64 window, .int .i64 urgent, .int .i64 ty, .int .i64 code, .int .i64 rest, .bool false, .slice O P o, .slice D Q d] 36)))
  have O8 := Lib.hid (World.ownsRow.alloc (own_base oo (show w5.heap.size + 1 ≤ _ by simp)) (.cells #[.int .i64 2, .int .i64 sport, .int .i64 dport, .int .i64 seq, .int .i64 ack, .int .i64 bits, .int .i64 window, .int .i64 urgent, .int .i64 ty, .int .i64 code, .int .i64 rest, .bool false, .slice O P o, .slice D Q d] 36))
  have D8 := Lib.hid (World.ownsRow.alloc (own_base od (show w5.heap.size + 1 ≤ _ by simp)) (.cells #[.int .i64 2, .int .i64 sport, .int .i64 dport, .int .i64 seq, .int .i64 ack, .int .i64 bits, .int .i64 window, .int .i64 urgent, .int .i64 ty, .int .i64 code, .int .i64 rest, .bool false, .slice O P o, .slice D Q d] 36))
  have AP := Lib.hid ap
  clear oo od ap gg p7 r7 z7 B7
  go_upto_region 12 with (with_reducible refine storeNewU rfl _ _ rfl rfl rfl ?_)
  clear d1 d2 d3 f3
  generalize (w6.alloc (.cells #[.int .i64 2, .int .i64 sport, .int .i64 dport, .int .i64 seq, .int .i64 ack, .int .i64 bits, .int .i64 window, .int .i64 urgent, .int .i64 ty, .int .i64 code, .int .i64 rest, .bool false, .slice O P o, .slice D Q d] 36)) = w7 at p8 r8 z8 B8 q8 O8 D8 ⊢
  go_wp2_with (first | (with_reducible refine loadU rfl _ rfl w6.heap.size rfl q8.out ?_) | (with_reducible refine loadA rfl _ rfl w.heap.size rfl p8.out ?_) | (with_reducible refine loadA rfl _ rfl (w.heap.size + 1) rfl r8.out ?_))
  refine Calls.mono (usI (Uh.mk 2 sport dport seq ack bits window urgent ty code rest false) s t O D P o Q d os ds _ (RB.of_own O8.out) HO.out (RB.of_own D8.out) HD.out (by omega) (by omega)) ?_
  rintro e w8 ⟨rfl, b8⟩
  rw [HS.out]
  have p9 := Lib.hid (K.below b8 p8.out)
  have r9 := Lib.hid (K.below b8 r8.out)
  have z9 := Lib.hid (K.below b8 z8.out)
  have q9 := Lib.hid (K.below b8 q8.out)
  have B9 := Lib.hid (bthen B8.out b8)
  have O9 := Lib.hid (own_below O8.out b8)
  have D9 := Lib.hid (own_below D8.out b8)
  clear b8 p8 r8 z8 B8 q8 O8 D8
  by_cases hS : (sm : Int) = S
  · have HFG := Lib.hid (HF.out.1 hS)
    have hX : ((sm : Int) != S) = false := by simp [hS]
    go_wp2_with (first | (with_reducible refine loadU rfl _ rfl w6.heap.size rfl q9.out ?_) | (with_reducible refine storeU rfl _ _ rfl (w.heap.size + 1 + 1) rfl rfl z9.out ?_))
    (try simp only [Exit.inBlock, Exit.then])
    have hsz : w.heap.size + 1 + 1 < w5.heap.size + 1 := by omega
    refine bodyPost_ret (v := .tuple #[.agg #[.int .i64 2, .int .i64 sport, .int .i64 dport, .int .i64 seq, .int .i64 ack, .int .i64 bits, .int .i64 window, .int .i64 urgent, .int .i64 ty, .int .i64 code, .int .i64 rest, .bool false, .slice O P o, .slice D Q d], .int .i64 0]) ?_ rfl (uread_yes (x := (Uh.mk 2 sport dport seq ack bits window urgent ty code rest false)) HFG.out HX.out.1 HX.out.2.1 HX.out.2.2 HO.out HD.out (own_base (K.setRow_own _ O9.out hsz) (by omega)) (own_base (K.setRow_own _ D9.out hsz) (by omega)) AP.out (K.setRow_below B9.out (by omega) _))
    exact K.resCellTmp Try.results18 _ _ _ (w.heap.size + 1 + 1) _ rfl (run_loadVar_row _ _ 36 36 _ (0, 0) _ (setRow_heap _ _ _ _ _ _ z9.out) Try.underlying36 rfl info_up)
  · have HFB := Lib.hid (HF.out.2 hS)
    have hX : ((sm : Int) != S) = true := by simpa using hS
    go_wp2_with (with_reducible refine storeU rfl _ _ rfl (w.heap.size + 1 + 1) rfl rfl z9.out ?_)
    (try simp only [Exit.inBlock, Exit.then])
    refine bodyPost_ret (v := .tuple #[.agg #[.int .i64 0, .int .i64 0, .int .i64 0, .int .i64 0, .int .i64 0, .int .i64 0, .int .i64 0, .int .i64 0, .int .i64 0, .int .i64 0, .int .i64 0, .bool false, .slice none 0 0, .slice none 0 0], .int .i64 6]) ?_ rfl (uread_no HFB.out (by omega) (K.setRow_below B9.out (by omega) _))
    exact K.resCellTmp Try.results18 _ _ _ (w.heap.size + 1 + 1) _ rfl (run_loadVar_row _ _ 36 36 _ (0, 0) _ (setRow_heap _ _ _ _ _ _ z9.out) Try.underlying36 rfl info_up)

set_option maxHeartbeats 4000000 in
theorem urI_2c (w : World) (a : Addr) (n c : Nat) (bs : List UInt8) (p : Int) (s t : Ad) (hr : RB w w.heap.size (some a) bs) (hl : bs.length = n) (hc : n ≤ c) (hn : n ≤ 1500) (hp : pairA s t = true) (hq : upTo p 255 = true) (hs : s.k = 4 ∨ s.k = 6) (hk : kindU p s.k = 2) (sport dport seq ack bits window urgent ty code rest : Int) (os ds : List UInt8) (P Q sm : Nat) (S : Int) (ho : os.length = P) (hd : ds.length = Q) (hP : P ≤ 1500) (hQ : Q ≤ 1500) (h3 : 8 ≤ n) (h4 : ¬ s.k = 4) (hsum : (Uh.mk 2 sport dport seq ack bits window urgent ty code rest false).sum os ds s t = S)  (hf0 : (sm : Int) = S → uhC bs p s t = 0) (hf6 : ¬ (sm : Int) = S → uhC bs p s t = 6) (hx1 : uhX bs (kindU p s.k) s.k = (Uh.mk 2 sport dport seq ack bits window urgent ty code rest false)) (hx2 : uhO bs (kindU p s.k) = os) (hx3 : uhB bs (kindU p s.k) = ds) (hu : ∀ (v : World) (g : Nat), Rp v g (some a) n c bs 0 → Calls Try.prog 49 #[.iface 111 (.agg #[.int .i64 2, .int .i64 0, .int .i64 0, .int .i64 0, .int .i64 0, .int .i64 0, .int .i64 0, .int .i64 0, .int .i64 0, .int .i64 0, .int .i64 0, .bool false, .slice none 0 0, .slice none 0 0]), .pointer (some ⟨g, 0, none⟩)] v (TakeOut (Uh.mk 2 sport dport seq ack bits window urgent ty code rest false) os ds P Q sm g v)) : Calls Try.prog 18 #[.slice (some a) n c, .int .i64 p, .agg #[.int .i64 s.k, .int .i64 s.a, .int .i64 s.b, .int .i64 s.c, .int .i64 s.d], .agg #[.int .i64 t.k, .int .i64 t.a, .int .i64 t.b, .int .i64 t.c, .int .i64 t.d]] w (URead bs p s t w) := by
  have HX := Lib.hid (And.intro hx1 (And.intro hx2 hx3))
  clear hx1 hx2 hx3
  have HP := Lib.hid hp
  have HPR := Lib.hid hq
  have HQ := Lib.hid hq
  have HKQ := Lib.hid hk
  have HSK := Lib.hid hs
  have HF := Lib.hid (And.intro hf0 hf6)
  have HU := Lib.hid hu
  have HS := Lib.hid hsum
  have HO := Lib.hid ho
  have HD := Lib.hid hd
  have hI2 : ¬ (n : Int) < 8 := by omega
  clear hf0 hf6 hu hsum ho hd
  have g4 : (s.k == 4) = false := by simp; omega
  clear h4
  have R0 := Lib.hid hr
  have HL := Lib.hid hl
  have hI : ¬ (1500 : Int) < (n : Int) := by omega
  clear hr hp hq hk hs hl
  have p0 : Hid ((((w.alloc (.cells #[.int .i64 s.k, .int .i64 s.a, .int .i64 s.b, .int .i64 s.c, .int .i64 s.d] 27)).alloc (.cells #[.int .i64 t.k, .int .i64 t.a, .int .i64 t.b, .int .i64 t.c, .int .i64 t.d] 27)).alloc (.cells #[.int .i64 0, .int .i64 0, .int .i64 0, .int .i64 0, .int .i64 0, .int .i64 0, .int .i64 0, .int .i64 0, .int .i64 0, .int .i64 0, .int .i64 0, .bool false, .slice none 0 0, .slice none 0 0] 36)).heap[w.heap.size]? = some (.cells #[.int .i64 s.k, .int .i64 s.a, .int .i64 s.b, .int .i64 s.c, .int .i64 s.d] 27)) := Lib.hid (by repeat (first | exact K.newAt (by first | rfl | (simp; done)) | refine K.oldAt (by first | (simp; done) | (simp; omega)) ?_))
  have r0 : Hid ((((w.alloc (.cells #[.int .i64 s.k, .int .i64 s.a, .int .i64 s.b, .int .i64 s.c, .int .i64 s.d] 27)).alloc (.cells #[.int .i64 t.k, .int .i64 t.a, .int .i64 t.b, .int .i64 t.c, .int .i64 t.d] 27)).alloc (.cells #[.int .i64 0, .int .i64 0, .int .i64 0, .int .i64 0, .int .i64 0, .int .i64 0, .int .i64 0, .int .i64 0, .int .i64 0, .int .i64 0, .int .i64 0, .bool false, .slice none 0 0, .slice none 0 0] 36)).heap[w.heap.size + 1]? = some (.cells #[.int .i64 t.k, .int .i64 t.a, .int .i64 t.b, .int .i64 t.c, .int .i64 t.d] 27)) := Lib.hid (by repeat (first | exact K.newAt (by first | rfl | (simp; done)) | refine K.oldAt (by first | (simp; done) | (simp; omega)) ?_))
  have z0 : Hid ((((w.alloc (.cells #[.int .i64 s.k, .int .i64 s.a, .int .i64 s.b, .int .i64 s.c, .int .i64 s.d] 27)).alloc (.cells #[.int .i64 t.k, .int .i64 t.a, .int .i64 t.b, .int .i64 t.c, .int .i64 t.d] 27)).alloc (.cells #[.int .i64 0, .int .i64 0, .int .i64 0, .int .i64 0, .int .i64 0, .int .i64 0, .int .i64 0, .int .i64 0, .int .i64 0, .int .i64 0, .int .i64 0, .bool false, .slice none 0 0, .slice none 0 0] 36)).heap[w.heap.size + 1 + 1]? = some (.cells #[.int .i64 0, .int .i64 0, .int .i64 0, .int .i64 0, .int .i64 0, .int .i64 0, .int .i64 0, .int .i64 0, .int .i64 0, .int .i64 0, .int .i64 0, .bool false, .slice none 0 0, .slice none 0 0] 36)) := Lib.hid (by repeat (first | exact K.newAt (by first | rfl | (simp; done)) | refine K.oldAt (by first | (simp; done) | (simp; omega)) ?_))
  have B0 : Hid (Below w.heap.size w (((w.alloc (.cells #[.int .i64 s.k, .int .i64 s.a, .int .i64 s.b, .int .i64 s.c, .int .i64 s.d] 27)).alloc (.cells #[.int .i64 t.k, .int .i64 t.a, .int .i64 t.b, .int .i64 t.c, .int .i64 t.d] 27)).alloc (.cells #[.int .i64 0, .int .i64 0, .int .i64 0, .int .i64 0, .int .i64 0, .int .i64 0, .int .i64 0, .int .i64 0, .int .i64 0, .int .i64 0, .int .i64 0, .bool false, .slice none 0 0, .slice none 0 0] 36))) := Lib.hid (by go_grown)
  go_enter Try.func18, Try.ntmps18
  go_wp2_with (first | (with_reducible refine loadA rfl _ rfl w.heap.size rfl p0.out ?_) | (with_reducible refine loadA rfl _ rfl (w.heap.size + 1) rfl r0.out ?_))
  refine Calls.mono (pairIB s t true HP.out _) ?_
  rintro e w1 ⟨rfl, b1⟩
  have p1 := Lib.hid (K.below b1 p0.out)
  have r1 := Lib.hid (K.below b1 r0.out)
  have z1 := Lib.hid (K.below b1 z0.out)
  have B1 := Lib.hid (bthen B0.out b1)
  clear b1 p0 r0 z0 B0
  go_wp2_with fail
  refine Calls.mono (protoB p true _ HQ.out) ?_
  rintro e w2 ⟨rfl, b2⟩
  have p2 := Lib.hid (K.below b2 p1.out)
  have r2 := Lib.hid (K.below b2 r1.out)
  have z2 := Lib.hid (K.below b2 z1.out)
  have B2 := Lib.hid (bthen B1.out b2)
  clear b2 p1 r1 z1 B1
  have d0 := K.cell p2.out 0 _ rfl
  go_wp2_with fail
  clear d0
  refine Calls.mono (kind_impl p s.k 2 _ HPR.out HSK.out HKQ.out) ?_
  rintro e w3 ⟨rfl, b3⟩
  have p3 := Lib.hid (K.below b3 p2.out)
  have r3 := Lib.hid (K.below b3 r2.out)
  have z3 := Lib.hid (K.below b3 z2.out)
  have B3 := Lib.hid (bthen B2.out b3)
  clear b3 p2 r2 z2 B2
  go_wp2_with fail
  refine Calls.mono (formatOfC (Uh.mk 2 0 0 0 0 0 0 0 0 0 0 false) none none 0 0 0 0 _) ?_
  rintro e w4 ⟨rfl, rfl⟩
  simp only [show ∀ v, fmtV 2 v = .iface 111 v from fun _ => rfl]
  have b4 := Joins.below_alloc1 w3 (.cells #[.int .i64 2, .int .i64 0, .int .i64 0, .int .i64 0, .int .i64 0, .int .i64 0, .int .i64 0, .int .i64 0, .int .i64 0, .int .i64 0, .int .i64 0, .bool false, .slice none 0 0, .slice none 0 0] 36)
  have p4 := Lib.hid (K.below b4 p3.out)
  have r4 := Lib.hid (K.below b4 r3.out)
  have z4 := Lib.hid (K.below b4 z3.out)
  have B4 := Lib.hid (bthen B3.out b4)
  clear b4 p3 r3 z3 B3
  generalize w3.alloc (.cells #[.int .i64 2, .int .i64 0, .int .i64 0, .int .i64 0, .int .i64 0, .int .i64 0, .int .i64 0, .int .i64 0, .int .i64 0, .int .i64 0, .int .i64 0, .bool false, .slice none 0 0, .slice none 0 0] 36) = w4 at p4 r4 z4 B4 ⊢
  go_wp2_with fail
  refine Calls.mono (head_udp (Uh.mk 2 0 0 0 0 0 0 0 0 0 0 false) none none 0 0 0 0 _ (by omega)) ?_
  rintro e w5 ⟨rfl, b5⟩
  have p5 := Lib.hid (K.below b5 p4.out)
  have r5 := Lib.hid (K.below b5 r4.out)
  have z5 := Lib.hid (K.below b5 z4.out)
  have B5 := Lib.hid (bthen B4.out b5)
  clear b5 p4 r4 z4 B4
  have p6 := Lib.hid (K.old p5.out (.cells #[.slice (some a) n c, .int .i64 0] 79))
  have r6 := Lib.hid (K.old r5.out (.cells #[.slice (some a) n c, .int .i64 0] 79))
  have z6 := Lib.hid (K.old z5.out (.cells #[.slice (some a) n c, .int .i64 0] 79))
  have lw5 : w.heap.size + 1 + 1 < w5.heap.size := K.lt z5.out
  have B6 := Lib.hid (bthen B5.out (Joins.below_alloc1 w5 (.cells #[.slice (some a) n c, .int .i64 0] 79)))
  have RR : Hid (Rp (w5.alloc (.cells #[.slice (some a) n c, .int .i64 0] 79)) w5.heap.size (some a) n c bs 0) := Lib.hid ⟨K.new w5 _, (R0.out.below B6.out).more (by omega), HL.out, by omega, by omega⟩
  go_wp2_with fail
  clear p5 r5 z5 B5
  refine Calls.mono (HU.out _ _ RR.out) ?_
  rintro e w6 ⟨O, o, D, d, rfl, oo, od, ap, gg⟩
  try simp only
  have p7 := Lib.hid (K.kept gg p6.out (fun u hu => by cases hu; omega))
  have r7 := Lib.hid (K.kept gg r6.out (fun u hu => by cases hu; omega))
  have z7 := Lib.hid (K.kept gg z6.out (fun u hu => by cases hu; omega))
  have B7 := Lib.hid (bgrown B6.out gg (fun u hu => by cases hu; omega))
  clear RR p6 r6 z6 B6
  have lw6 : w5.heap.size + 1 ≤ w6.heap.size := by have := gg.size; simpa using this
  have d1 := K.cell (K.new w6 (.cells #[.int .i64 2, .int .i64 sport, .int .i64 dport, .int .i64 seq, .int .i64 ack, .int .i64 bits, .int .i64 window, .int .i64 urgent, .int .i64 ty, .int .i64 code, .int .i64 rest, .bool false, .slice O P o, .slice D Q d] 36)) 0 _ rfl
  have d2 := K.cell (K.old p7.out (.cells #[.int .i64 2, .int .i64 sport, .int .i64 dport, .int .i64 seq, .int .i64 ack, .int .i64 bits, .int .i64 window, .int .i64 urgent, .int .i64 ty, .int .i64 code, .int .i64 rest, .bool false, .slice O P o, .slice D Q d] 36)) 0 _ rfl
  have d3 := K.cell (K.new w6 (.cells #[.int .i64 2, .int .i64 sport, .int .i64 dport, .int .i64 seq, .int .i64 ack, .int .i64 bits, .int .i64 window, .int .i64 urgent, .int .i64 ty, .int .i64 code, .int .i64 rest, .bool false, .slice O P o, .slice D Q d] 36)) 11 _ rfl
  have f3 := frozen_of_row _ _ 11 _ _ (K.new w6 (.cells #[.int .i64 2, .int .i64 sport, .int .i64 dport, .int .i64 seq, .int .i64 ack, .int .i64 bits, .int .i64 window, .int .i64 urgent, .int .i64 ty, .int .i64 code, .int .i64 rest, .bool false, .slice O P o, .slice D Q d] 36))
  have p8 := Lib.hid (K.old p7.out (.cells #[.int .i64 2, .int .i64 sport, .int .i64 dport, .int .i64 seq, .int .i64 ack, .int .i64 bits, .int .i64 window, .int .i64 urgent, .int .i64 ty, .int .i64 code, .int .i64 rest, .bool false, .slice O P o, .slice D Q d] 36))
  have r8 := Lib.hid (K.old r7.out (.cells #[.int .i64 2, .int .i64 sport, .int .i64 dport, .int .i64 seq, .int .i64 ack, .int .i64 bits, .int .i64 window, .int .i64 urgent, .int .i64 ty, .int .i64 code, .int .i64 rest, .bool false, .slice O P o, .slice D Q d] 36))
  have z8 := Lib.hid (K.old z7.out (.cells #[.int .i64 2, .int .i64 sport, .int .i64 dport, .int .i64 seq, .int .i64 ack, .int .i64 bits, .int .i64 window, .int .i64 urgent, .int .i64 ty, .int .i64 code, .int .i64 rest, .bool false, .slice O P o, .slice D Q d] 36))
  have q8 := Lib.hid (K.new w6 (.cells #[.int .i64 2, .int .i64 sport, .int .i64 dport, .int .i64 seq, .int .i64 ack, .int .i64 bits, .int .i64 window, .int .i64 urgent, .int .i64 ty, .int .i64 code, .int .i64 rest, .bool false, .slice O P o, .slice D Q d] 36))
  have B8 := Lib.hid (bthen B7.out (Joins.below_alloc1 w6 (.cells #[.int .i64 2, .int .i64 sport, .int .i64 dport, .int .i64 seq, .int .i64 ack, .int .i64 bits, .int .i64 window, .int .i64 urgent, .int .i64 ty, .int .i64 code, .int .i64 rest, .bool false, .slice O P o, .slice D Q d] 36)))
  have O8 := Lib.hid (World.ownsRow.alloc (own_base oo (show w5.heap.size + 1 ≤ _ by simp)) (.cells #[.int .i64 2, .int .i64 sport, .int .i64 dport, .int .i64 seq, .int .i64 ack, .int .i64 bits, .int .i64 window, .int .i64 urgent, .int .i64 ty, .int .i64 code, .int .i64 rest, .bool false, .slice O P o, .slice D Q d] 36))
  have D8 := Lib.hid (World.ownsRow.alloc (own_base od (show w5.heap.size + 1 ≤ _ by simp)) (.cells #[.int .i64 2, .int .i64 sport, .int .i64 dport, .int .i64 seq, .int .i64 ack, .int .i64 bits, .int .i64 window, .int .i64 urgent, .int .i64 ty, .int .i64 code, .int .i64 rest, .bool false, .slice O P o, .slice D Q d] 36))
  have AP := Lib.hid ap
  clear oo od ap gg p7 r7 z7 B7
  go_upto_region 12 with (with_reducible refine storeNewU rfl _ _ rfl rfl rfl ?_)
  clear d1 d2 d3 f3
  generalize (w6.alloc (.cells #[.int .i64 2, .int .i64 sport, .int .i64 dport, .int .i64 seq, .int .i64 ack, .int .i64 bits, .int .i64 window, .int .i64 urgent, .int .i64 ty, .int .i64 code, .int .i64 rest, .bool false, .slice O P o, .slice D Q d] 36)) = w7 at p8 r8 z8 B8 q8 O8 D8 ⊢
  go_wp2_with (first | (with_reducible refine loadU rfl _ rfl w6.heap.size rfl q8.out ?_) | (with_reducible refine loadA rfl _ rfl w.heap.size rfl p8.out ?_) | (with_reducible refine loadA rfl _ rfl (w.heap.size + 1) rfl r8.out ?_))
  refine Calls.mono (usI (Uh.mk 2 sport dport seq ack bits window urgent ty code rest false) s t O D P o Q d os ds _ (RB.of_own O8.out) HO.out (RB.of_own D8.out) HD.out (by omega) (by omega)) ?_
  rintro e w8 ⟨rfl, b8⟩
  rw [HS.out]
  have p9 := Lib.hid (K.below b8 p8.out)
  have r9 := Lib.hid (K.below b8 r8.out)
  have z9 := Lib.hid (K.below b8 z8.out)
  have q9 := Lib.hid (K.below b8 q8.out)
  have B9 := Lib.hid (bthen B8.out b8)
  have O9 := Lib.hid (own_below O8.out b8)
  have D9 := Lib.hid (own_below D8.out b8)
  clear b8 p8 r8 z8 B8 q8 O8 D8
  by_cases hS : (sm : Int) = S
  · have HFG := Lib.hid (HF.out.1 hS)
    have hX : ((sm : Int) != S) = false := by simp [hS]
    go_wp2_with (first | (with_reducible refine loadU rfl _ rfl w6.heap.size rfl q9.out ?_) | (with_reducible refine storeU rfl _ _ rfl (w.heap.size + 1 + 1) rfl rfl z9.out ?_))
    (try simp only [Exit.inBlock, Exit.then])
    have hsz : w.heap.size + 1 + 1 < w5.heap.size + 1 := by omega
    refine bodyPost_ret (v := .tuple #[.agg #[.int .i64 2, .int .i64 sport, .int .i64 dport, .int .i64 seq, .int .i64 ack, .int .i64 bits, .int .i64 window, .int .i64 urgent, .int .i64 ty, .int .i64 code, .int .i64 rest, .bool false, .slice O P o, .slice D Q d], .int .i64 0]) ?_ rfl (uread_yes (x := (Uh.mk 2 sport dport seq ack bits window urgent ty code rest false)) HFG.out HX.out.1 HX.out.2.1 HX.out.2.2 HO.out HD.out (own_base (K.setRow_own _ O9.out hsz) (by omega)) (own_base (K.setRow_own _ D9.out hsz) (by omega)) AP.out (K.setRow_below B9.out (by omega) _))
    exact K.resCellTmp Try.results18 _ _ _ (w.heap.size + 1 + 1) _ rfl (run_loadVar_row _ _ 36 36 _ (0, 0) _ (setRow_heap _ _ _ _ _ _ z9.out) Try.underlying36 rfl info_up)
  · have HFB := Lib.hid (HF.out.2 hS)
    have hX : ((sm : Int) != S) = true := by simpa using hS
    go_wp2_with (with_reducible refine storeU rfl _ _ rfl (w.heap.size + 1 + 1) rfl rfl z9.out ?_)
    (try simp only [Exit.inBlock, Exit.then])
    refine bodyPost_ret (v := .tuple #[.agg #[.int .i64 0, .int .i64 0, .int .i64 0, .int .i64 0, .int .i64 0, .int .i64 0, .int .i64 0, .int .i64 0, .int .i64 0, .int .i64 0, .int .i64 0, .bool false, .slice none 0 0, .slice none 0 0], .int .i64 6]) ?_ rfl (uread_no HFB.out (by omega) (K.setRow_below B9.out (by omega) _))
    exact K.resCellTmp Try.results18 _ _ _ (w.heap.size + 1 + 1) _ rfl (run_loadVar_row _ _ 36 36 _ (0, 0) _ (setRow_heap _ _ _ _ _ _ z9.out) Try.underlying36 rfl info_up)
end Go.Proofs.Ythogonpjkngpjaa

namespace Go.Proofs.Ythogonpjkngpjaa
set_option maxRecDepth 100000
open Go.RowKit

set_option maxHeartbeats 4000000 in
theorem urI_3 (w : World) (a : Addr) (n c : Nat) (bs : List UInt8) (p : Int) (s t : Ad) (hr : RB w w.heap.size (some a) bs) (hl : bs.length = n) (hc : n ≤ c) (hn : n ≤ 1500) (hp : pairA s t = true) (hq : upTo p 255 = true) (hs : s.k = 4 ∨ s.k = 6) (hk : kindU p s.k = 3) (sport dport seq ack bits window urgent ty code rest : Int) (os ds : List UInt8) (P Q sm : Nat) (S : Int) (ho : os.length = P) (hd : ds.length = Q) (hP : P ≤ 1500) (hQ : Q ≤ 1500) (h3 : 8 ≤ n) (hsum : (Uh.mk 3 sport dport seq ack bits window urgent ty code rest false).sum os ds s t = S)  (hf0 : (sm : Int) = S → uhC bs p s t = 0) (hf6 : ¬ (sm : Int) = S → uhC bs p s t = 6) (hx1 : uhX bs (kindU p s.k) s.k = (Uh.mk 3 sport dport seq ack bits window urgent ty code rest false)) (hx2 : uhO bs (kindU p s.k) = os) (hx3 : uhB bs (kindU p s.k) = ds) (hu : ∀ (v : World) (g : Nat), Rp v g (some a) n c bs 0 → Calls Try.prog 49 #[.iface 112 (.agg #[.int .i64 3, .int .i64 0, .int .i64 0, .int .i64 0, .int .i64 0, .int .i64 0, .int .i64 0, .int .i64 0, .int .i64 0, .int .i64 0, .int .i64 0, .bool false, .slice none 0 0, .slice none 0 0]), .pointer (some ⟨g, 0, none⟩)] v (TakeOut (Uh.mk 3 sport dport seq ack bits window urgent ty code rest false) os ds P Q sm g v)) : Calls Try.prog 18 #[.slice (some a) n c, .int .i64 p, .agg #[.int .i64 s.k, .int .i64 s.a, .int .i64 s.b, .int .i64 s.c, .int .i64 s.d], .agg #[.int .i64 t.k, .int .i64 t.a, .int .i64 t.b, .int .i64 t.c, .int .i64 t.d]] w (URead bs p s t w) := by
  have HX := Lib.hid (And.intro hx1 (And.intro hx2 hx3))
  clear hx1 hx2 hx3
  have HP := Lib.hid hp
  have HPR := Lib.hid hq
  have HQ := Lib.hid hq
  have HKQ := Lib.hid hk
  have HSK := Lib.hid hs
  have HF := Lib.hid (And.intro hf0 hf6)
  have HU := Lib.hid hu
  have HS := Lib.hid hsum
  have HO := Lib.hid ho
  have HD := Lib.hid hd
  have hI2 : ¬ (n : Int) < 8 := by omega
  clear hf0 hf6 hu hsum ho hd
  have R0 := Lib.hid hr
  have HL := Lib.hid hl
  have hI : ¬ (1500 : Int) < (n : Int) := by omega
  clear hr hp hq hk hs hl
  have p0 : Hid ((((w.alloc (.cells #[.int .i64 s.k, .int .i64 s.a, .int .i64 s.b, .int .i64 s.c, .int .i64 s.d] 27)).alloc (.cells #[.int .i64 t.k, .int .i64 t.a, .int .i64 t.b, .int .i64 t.c, .int .i64 t.d] 27)).alloc (.cells #[.int .i64 0, .int .i64 0, .int .i64 0, .int .i64 0, .int .i64 0, .int .i64 0, .int .i64 0, .int .i64 0, .int .i64 0, .int .i64 0, .int .i64 0, .bool false, .slice none 0 0, .slice none 0 0] 36)).heap[w.heap.size]? = some (.cells #[.int .i64 s.k, .int .i64 s.a, .int .i64 s.b, .int .i64 s.c, .int .i64 s.d] 27)) := Lib.hid (by repeat (first | exact K.newAt (by first | rfl | (simp; done)) | refine K.oldAt (by first | (simp; done) | (simp; omega)) ?_))
  have r0 : Hid ((((w.alloc (.cells #[.int .i64 s.k, .int .i64 s.a, .int .i64 s.b, .int .i64 s.c, .int .i64 s.d] 27)).alloc (.cells #[.int .i64 t.k, .int .i64 t.a, .int .i64 t.b, .int .i64 t.c, .int .i64 t.d] 27)).alloc (.cells #[.int .i64 0, .int .i64 0, .int .i64 0, .int .i64 0, .int .i64 0, .int .i64 0, .int .i64 0, .int .i64 0, .int .i64 0, .int .i64 0, .int .i64 0, .bool false, .slice none 0 0, .slice none 0 0] 36)).heap[w.heap.size + 1]? = some (.cells #[.int .i64 t.k, .int .i64 t.a, .int .i64 t.b, .int .i64 t.c, .int .i64 t.d] 27)) := Lib.hid (by repeat (first | exact K.newAt (by first | rfl | (simp; done)) | refine K.oldAt (by first | (simp; done) | (simp; omega)) ?_))
  have z0 : Hid ((((w.alloc (.cells #[.int .i64 s.k, .int .i64 s.a, .int .i64 s.b, .int .i64 s.c, .int .i64 s.d] 27)).alloc (.cells #[.int .i64 t.k, .int .i64 t.a, .int .i64 t.b, .int .i64 t.c, .int .i64 t.d] 27)).alloc (.cells #[.int .i64 0, .int .i64 0, .int .i64 0, .int .i64 0, .int .i64 0, .int .i64 0, .int .i64 0, .int .i64 0, .int .i64 0, .int .i64 0, .int .i64 0, .bool false, .slice none 0 0, .slice none 0 0] 36)).heap[w.heap.size + 1 + 1]? = some (.cells #[.int .i64 0, .int .i64 0, .int .i64 0, .int .i64 0, .int .i64 0, .int .i64 0, .int .i64 0, .int .i64 0, .int .i64 0, .int .i64 0, .int .i64 0, .bool false, .slice none 0 0, .slice none 0 0] 36)) := Lib.hid (by repeat (first | exact K.newAt (by first | rfl | (simp; done)) | refine K.oldAt (by first | (simp; done) | (simp; omega)) ?_))
  have B0 : Hid (Below w.heap.size w (((w.alloc (.cells #[.int .i64 s.k, .int .i64 s.a, .int .i64 s.b, .int .i64 s.c, .int .i64 s.d] 27)).alloc (.cells #[.int .i64 t.k, .int .i64 t.a, .int .i64 t.b, .int .i64 t.c, .int .i64 t.d] 27)).alloc (.cells #[.int .i64 0, .int .i64 0, .int .i64 0, .int .i64 0, .int .i64 0, .int .i64 0, .int .i64 0, .int .i64 0, .int .i64 0, .int .i64 0, .int .i64 0, .bool false, .slice none 0 0, .slice none 0 0] 36))) := Lib.hid (by go_grown)
  go_enter Try.func18, Try.ntmps18
  go_wp2_with (first | (with_reducible refine loadA rfl _ rfl w.heap.size rfl p0.out ?_) | (with_reducible refine loadA rfl _ rfl (w.heap.size + 1) rfl r0.out ?_))
  refine Calls.mono (pairIB s t true HP.out _) ?_
  rintro e w1 ⟨rfl, b1⟩
  have p1 := Lib.hid (K.below b1 p0.out)
  have r1 := Lib.hid (K.below b1 r0.out)
  have z1 := Lib.hid (K.below b1 z0.out)
  have B1 := Lib.hid (bthen B0.out b1)
  clear b1 p0 r0 z0 B0
  go_wp2_with fail
  refine Calls.mono (protoB p true _ HQ.out) ?_
  rintro e w2 ⟨rfl, b2⟩
  have p2 := Lib.hid (K.below b2 p1.out)
  have r2 := Lib.hid (K.below b2 r1.out)
  have z2 := Lib.hid (K.below b2 z1.out)
  have B2 := Lib.hid (bthen B1.out b2)
  clear b2 p1 r1 z1 B1
  have d0 := K.cell p2.out 0 _ rfl
  go_wp2_with fail
  clear d0
  refine Calls.mono (kind_impl p s.k 3 _ HPR.out HSK.out HKQ.out) ?_
  rintro e w3 ⟨rfl, b3⟩
  have p3 := Lib.hid (K.below b3 p2.out)
  have r3 := Lib.hid (K.below b3 r2.out)
  have z3 := Lib.hid (K.below b3 z2.out)
  have B3 := Lib.hid (bthen B2.out b3)
  clear b3 p2 r2 z2 B2
  go_wp2_with fail
  refine Calls.mono (formatOfC (Uh.mk 3 0 0 0 0 0 0 0 0 0 0 false) none none 0 0 0 0 _) ?_
  rintro e w4 ⟨rfl, rfl⟩
  simp only [show ∀ v, fmtV 3 v = .iface 112 v from fun _ => rfl]
  have b4 := Joins.below_alloc1 w3 (.cells #[.int .i64 3, .int .i64 0, .int .i64 0, .int .i64 0, .int .i64 0, .int .i64 0, .int .i64 0, .int .i64 0, .int .i64 0, .int .i64 0, .int .i64 0, .bool false, .slice none 0 0, .slice none 0 0] 36)
  have p4 := Lib.hid (K.below b4 p3.out)
  have r4 := Lib.hid (K.below b4 r3.out)
  have z4 := Lib.hid (K.below b4 z3.out)
  have B4 := Lib.hid (bthen B3.out b4)
  clear b4 p3 r3 z3 B3
  generalize w3.alloc (.cells #[.int .i64 3, .int .i64 0, .int .i64 0, .int .i64 0, .int .i64 0, .int .i64 0, .int .i64 0, .int .i64 0, .int .i64 0, .int .i64 0, .int .i64 0, .bool false, .slice none 0 0, .slice none 0 0] 36) = w4 at p4 r4 z4 B4 ⊢
  go_wp2_with fail
  refine Calls.mono (head_icmp (Uh.mk 3 0 0 0 0 0 0 0 0 0 0 false) none none 0 0 0 0 _ (by omega)) ?_
  rintro e w5 ⟨rfl, b5⟩
  have p5 := Lib.hid (K.below b5 p4.out)
  have r5 := Lib.hid (K.below b5 r4.out)
  have z5 := Lib.hid (K.below b5 z4.out)
  have B5 := Lib.hid (bthen B4.out b5)
  clear b5 p4 r4 z4 B4
  have p6 := Lib.hid (K.old p5.out (.cells #[.slice (some a) n c, .int .i64 0] 79))
  have r6 := Lib.hid (K.old r5.out (.cells #[.slice (some a) n c, .int .i64 0] 79))
  have z6 := Lib.hid (K.old z5.out (.cells #[.slice (some a) n c, .int .i64 0] 79))
  have lw5 : w.heap.size + 1 + 1 < w5.heap.size := K.lt z5.out
  have B6 := Lib.hid (bthen B5.out (Joins.below_alloc1 w5 (.cells #[.slice (some a) n c, .int .i64 0] 79)))
  have RR : Hid (Rp (w5.alloc (.cells #[.slice (some a) n c, .int .i64 0] 79)) w5.heap.size (some a) n c bs 0) := Lib.hid ⟨K.new w5 _, (R0.out.below B6.out).more (by omega), HL.out, by omega, by omega⟩
  go_wp2_with fail
  clear p5 r5 z5 B5
  refine Calls.mono (HU.out _ _ RR.out) ?_
  rintro e w6 ⟨O, o, D, d, rfl, oo, od, ap, gg⟩
  try simp only
  have p7 := Lib.hid (K.kept gg p6.out (fun u hu => by cases hu; omega))
  have r7 := Lib.hid (K.kept gg r6.out (fun u hu => by cases hu; omega))
  have z7 := Lib.hid (K.kept gg z6.out (fun u hu => by cases hu; omega))
  have B7 := Lib.hid (bgrown B6.out gg (fun u hu => by cases hu; omega))
  clear RR p6 r6 z6 B6
  have lw6 : w5.heap.size + 1 ≤ w6.heap.size := by have := gg.size; simpa using this
  have d1 := K.cell (K.new w6 (.cells #[.int .i64 3, .int .i64 sport, .int .i64 dport, .int .i64 seq, .int .i64 ack, .int .i64 bits, .int .i64 window, .int .i64 urgent, .int .i64 ty, .int .i64 code, .int .i64 rest, .bool false, .slice O P o, .slice D Q d] 36)) 0 _ rfl
  have d2 := K.cell (K.old p7.out (.cells #[.int .i64 3, .int .i64 sport, .int .i64 dport, .int .i64 seq, .int .i64 ack, .int .i64 bits, .int .i64 window, .int .i64 urgent, .int .i64 ty, .int .i64 code, .int .i64 rest, .bool false, .slice O P o, .slice D Q d] 36)) 0 _ rfl
  have d3 := K.cell (K.new w6 (.cells #[.int .i64 3, .int .i64 sport, .int .i64 dport, .int .i64 seq, .int .i64 ack, .int .i64 bits, .int .i64 window, .int .i64 urgent, .int .i64 ty, .int .i64 code, .int .i64 rest, .bool false, .slice O P o, .slice D Q d] 36)) 11 _ rfl
  have f3 := frozen_of_row _ _ 11 _ _ (K.new w6 (.cells #[.int .i64 3, .int .i64 sport, .int .i64 dport, .int .i64 seq, .int .i64 ack, .int .i64 bits, .int .i64 window, .int .i64 urgent, .int .i64 ty, .int .i64 code, .int .i64 rest, .bool false, .slice O P o, .slice D Q d] 36))
  have p8 := Lib.hid (K.old p7.out (.cells #[.int .i64 3, .int .i64 sport, .int .i64 dport, .int .i64 seq, .int .i64 ack, .int .i64 bits, .int .i64 window, .int .i64 urgent, .int .i64 ty, .int .i64 code, .int .i64 rest, .bool false, .slice O P o, .slice D Q d] 36))
  have r8 := Lib.hid (K.old r7.out (.cells #[.int .i64 3, .int .i64 sport, .int .i64 dport, .int .i64 seq, .int .i64 ack, .int .i64 bits, .int .i64 window, .int .i64 urgent, .int .i64 ty, .int .i64 code, .int .i64 rest, .bool false, .slice O P o, .slice D Q d] 36))
  have z8 := Lib.hid (K.old z7.out (.cells #[.int .i64 3, .int .i64 sport, .int .i64 dport, .int .i64 seq, .int .i64 ack, .int .i64 bits, .int .i64 window, .int .i64 urgent, .int .i64 ty, .int .i64 code, .int .i64 rest, .bool false, .slice O P o, .slice D Q d] 36))
  have q8 := Lib.hid (K.new w6 (.cells #[.int .i64 3, .int .i64 sport, .int .i64 dport, .int .i64 seq, .int .i64 ack, .int .i64 bits, .int .i64 window, .int .i64 urgent, .int .i64 ty, .int .i64 code, .int .i64 rest, .bool false, .slice O P o, .slice D Q d] 36))
  have B8 := Lib.hid (bthen B7.out (Joins.below_alloc1 w6 (.cells #[.int .i64 3, .int .i64 sport, .int .i64 dport, .int .i64 seq, .int .i64 ack, .int .i64 bits, .int .i64 window, .int .i64 urgent, .int .i64 ty, .int .i64 code, .int .i64 rest, .bool false, .slice O P o, .slice D Q d] 36)))
  have O8 := Lib.hid (World.ownsRow.alloc (own_base oo (show w5.heap.size + 1 ≤ _ by simp)) (.cells #[.int .i64 3, .int .i64 sport, .int .i64 dport, .int .i64 seq, .int .i64 ack, .int .i64 bits, .int .i64 window, .int .i64 urgent, .int .i64 ty, .int .i64 code, .int .i64 rest, .bool false, .slice O P o, .slice D Q d] 36))
  have D8 := Lib.hid (World.ownsRow.alloc (own_base od (show w5.heap.size + 1 ≤ _ by simp)) (.cells #[.int .i64 3, .int .i64 sport, .int .i64 dport, .int .i64 seq, .int .i64 ack, .int .i64 bits, .int .i64 window, .int .i64 urgent, .int .i64 ty, .int .i64 code, .int .i64 rest, .bool false, .slice O P o, .slice D Q d] 36))
  have AP := Lib.hid ap
  clear oo od ap gg p7 r7 z7 B7
  go_upto_region 12 with (with_reducible refine storeNewU rfl _ _ rfl rfl rfl ?_)
  clear d1 d2 d3 f3
  generalize (w6.alloc (.cells #[.int .i64 3, .int .i64 sport, .int .i64 dport, .int .i64 seq, .int .i64 ack, .int .i64 bits, .int .i64 window, .int .i64 urgent, .int .i64 ty, .int .i64 code, .int .i64 rest, .bool false, .slice O P o, .slice D Q d] 36)) = w7 at p8 r8 z8 B8 q8 O8 D8 ⊢
  go_wp2_with (first | (with_reducible refine loadU rfl _ rfl w6.heap.size rfl q8.out ?_) | (with_reducible refine loadA rfl _ rfl w.heap.size rfl p8.out ?_) | (with_reducible refine loadA rfl _ rfl (w.heap.size + 1) rfl r8.out ?_))
  refine Calls.mono (usI (Uh.mk 3 sport dport seq ack bits window urgent ty code rest false) s t O D P o Q d os ds _ (RB.of_own O8.out) HO.out (RB.of_own D8.out) HD.out (by omega) (by omega)) ?_
  rintro e w8 ⟨rfl, b8⟩
  rw [HS.out]
  have p9 := Lib.hid (K.below b8 p8.out)
  have r9 := Lib.hid (K.below b8 r8.out)
  have z9 := Lib.hid (K.below b8 z8.out)
  have q9 := Lib.hid (K.below b8 q8.out)
  have B9 := Lib.hid (bthen B8.out b8)
  have O9 := Lib.hid (own_below O8.out b8)
  have D9 := Lib.hid (own_below D8.out b8)
  clear b8 p8 r8 z8 B8 q8 O8 D8
  by_cases hS : (sm : Int) = S
  · have HFG := Lib.hid (HF.out.1 hS)
    have hX : ((sm : Int) != S) = false := by simp [hS]
    go_wp2_with (first | (with_reducible refine loadU rfl _ rfl w6.heap.size rfl q9.out ?_) | (with_reducible refine storeU rfl _ _ rfl (w.heap.size + 1 + 1) rfl rfl z9.out ?_))
    (try simp only [Exit.inBlock, Exit.then])
    have hsz : w.heap.size + 1 + 1 < w5.heap.size + 1 := by omega
    refine bodyPost_ret (v := .tuple #[.agg #[.int .i64 3, .int .i64 sport, .int .i64 dport, .int .i64 seq, .int .i64 ack, .int .i64 bits, .int .i64 window, .int .i64 urgent, .int .i64 ty, .int .i64 code, .int .i64 rest, .bool false, .slice O P o, .slice D Q d], .int .i64 0]) ?_ rfl (uread_yes (x := (Uh.mk 3 sport dport seq ack bits window urgent ty code rest false)) HFG.out HX.out.1 HX.out.2.1 HX.out.2.2 HO.out HD.out (own_base (K.setRow_own _ O9.out hsz) (by omega)) (own_base (K.setRow_own _ D9.out hsz) (by omega)) AP.out (K.setRow_below B9.out (by omega) _))
    exact K.resCellTmp Try.results18 _ _ _ (w.heap.size + 1 + 1) _ rfl (run_loadVar_row _ _ 36 36 _ (0, 0) _ (setRow_heap _ _ _ _ _ _ z9.out) Try.underlying36 rfl info_up)
  · have HFB := Lib.hid (HF.out.2 hS)
    have hX : ((sm : Int) != S) = true := by simpa using hS
    go_wp2_with (with_reducible refine storeU rfl _ _ rfl (w.heap.size + 1 + 1) rfl rfl z9.out ?_)
    (try simp only [Exit.inBlock, Exit.then])
    refine bodyPost_ret (v := .tuple #[.agg #[.int .i64 0, .int .i64 0, .int .i64 0, .int .i64 0, .int .i64 0, .int .i64 0, .int .i64 0, .int .i64 0, .int .i64 0, .int .i64 0, .int .i64 0, .bool false, .slice none 0 0, .slice none 0 0], .int .i64 6]) ?_ rfl (uread_no HFB.out (by omega) (K.setRow_below B9.out (by omega) _))
    exact K.resCellTmp Try.results18 _ _ _ (w.heap.size + 1 + 1) _ rfl (run_loadVar_row _ _ 36 36 _ (0, 0) _ (setRow_heap _ _ _ _ _ _ z9.out) Try.underlying36 rfl info_up)
end Go.Proofs.Ythogonpjkngpjaa

namespace Go.Proofs.Ythogonpjkngpjaa
set_option maxRecDepth 100000
open Go.RowKit

theorem pairA_k {s t : Ad} (h : pairA s t = true) : s.k = 4 ∨ s.k = 6 := by
  have hxy : (s.ok = true ∧ t.ok = true) ∧ s.k = t.k := by simpa [pairA] using h
  exact Ad.ok_kind hxy.1.1

set_option maxHeartbeats 1000000 in
theorem urI_some (w : World) (a : Addr) (n c : Nat) (bs : List UInt8) (p : Int) (s t : Ad) (hr : RB w w.heap.size (some a) bs) (hl : bs.length = n) (hc : n ≤ c) (hn : n ≤ 1500) (hp : pairA s t = true) (hq : upTo p 255 = true) : Calls Try.prog 18 #[.slice (some a) n c, .int .i64 p, .agg #[.int .i64 s.k, .int .i64 s.a, .int .i64 s.b, .int .i64 s.c, .int .i64 s.d], .agg #[.int .i64 t.k, .int .i64 t.a, .int .i64 t.b, .int .i64 t.c, .int .i64 t.d]] w (URead bs p s t w) := by
  have hs := pairA_k hp
  have hfar : uhC bs p s t = _ := uhC_far (by omega) (by rw [hp, hq]; rfl)
  rcases kindU_cases p s.k with hk | hk | hk | hk
  · exact urI_0 w a n c bs p s t hr hl hc hn hp hq hs hk (fun v g r => upperOf_0 v g a n c bs _ r)
  · rw [hk] at hfar
    by_cases h3 : n < 20
    · rw [if_pos (.inl ⟨rfl, by omega⟩)] at hfar
      exact urI_short1 w (some a) n c bs p s t hr hl hn hp hq hs hk hfar h3
    · rw [if_neg (by simp; omega)] at hfar
      by_cases h4 : tHead bs < 20 ∨ bs.length < tHead bs
      · rw [if_pos ⟨rfl, h4⟩] at hfar
        exact urI_code1 w a n c bs p s t hr hl hc hn hp hq hs hk hfar (by omega) (fun v g r => upperOf_1no v g a n c bs _ _ _ _ _ _ _ r (by omega) rfl rfl rfl rfl rfl rfl (by rw [← hl]; exact h4))
      · rw [if_neg (by simpa using h4), if_neg (by simp)] at hfar
        have hlo : (uhO bs 1).length = tHead bs - 20 := by simp [uhO, List.length_take, List.length_drop]; omega
        have hlb : (uhB bs 1).length = n - tHead bs := by simp [uhB, List.length_drop]; omega
        have ht60 := tHead_le bs
        have hu : ∀ (v : World) (g : Nat), Rp v g (some a) n c bs 0 → _ := fun v g r => upperOf_1 v g a n c bs (.agg #[.int .i64 1, .int .i64 0, .int .i64 0, .int .i64 0, .int .i64 0, .int .i64 0, .int .i64 0, .int .i64 0, .int .i64 0, .int .i64 0, .int .i64 0, .bool false, .slice none 0 0, .slice none 0 0]) (n - tHead bs) (tHead bs - 20) _ _ _ _ _ (tHead bs) _ _ _ r (by omega) rfl rfl rfl rfl rfl rfl (by omega) (by omega) rfl rfl rfl
        exact urI_1 w a n c bs p s t hr hl hc hn hp hq hs hk _ _ _ _ _ _ _ _ _ _ (uhO bs 1) (uhB bs 1) _ _ (num bs 16 2) _ hlo hlb (by omega) (by omega) (by omega) rfl (fun h6 => by rw [hfar]; exact if_neg (fun h => h h6)) (fun h6 => by rw [hfar]; exact if_pos h6) (by rw [hk]; rfl) (by rw [hk]) (by rw [hk]) hu
  · rw [hk] at hfar
    by_cases h3 : n < 8
    · rw [if_pos (.inr ⟨by simp, by omega⟩)] at hfar
      exact urI_short2 w (some a) n c bs p s t hr hl hn hp hq hs hk hfar h3
    · rw [if_neg (by simp; omega), if_neg (by simp)] at hfar
      by_cases h5 : num bs 4 2 = bs.length
      · rw [if_neg (by simpa using h5)] at hfar
        have hlb : (uhB bs 2).length = n - 8 := by simp [uhB, List.length_drop]; omega
        have hu : ∀ (v : World) (g : Nat), Rp v g (some a) n c bs 0 → _ := fun v g r => upperOf_2 v g a n c bs (.agg #[.int .i64 2, .int .i64 0, .int .i64 0, .int .i64 0, .int .i64 0, .int .i64 0, .int .i64 0, .int .i64 0, .int .i64 0, .int .i64 0, .int .i64 0, .bool false, .slice none 0 0, .slice none 0 0]) (n - 8) _ _ _ r (by omega) rfl rfl (h5.trans hl) rfl
        by_cases h4 : s.k = 4
        · by_cases h0 : num bs 6 2 = 0
          · have hx : uhX bs 2 s.k = ⟨2, num bs 0 2, num bs 2 2, 0, 0, 0, 0, 0, 0, 0, 0, true⟩ := by simp [uhX, h4, h0]
            rw [hx] at hfar
            exact urI_2a w a n c bs p s t hr hl hc hn hp hq hs hk _ _ _ _ _ _ _ _ _ _ (uhO bs 2) (uhB bs 2) 0 _ (num bs 6 2) _ rfl hlb (by omega) (by omega) (by omega) h4 h0 rfl (fun h6 => by rw [hfar]; exact if_neg (fun h => h h6)) (fun h6 => by rw [hfar]; exact if_pos h6) (by rw [hk]; exact hx) (by rw [hk]) (by rw [hk]) hu
          · have hx : uhX bs 2 s.k = ⟨2, num bs 0 2, num bs 2 2, 0, 0, 0, 0, 0, 0, 0, 0, false⟩ := by simp [uhX, h0]
            rw [hx] at hfar
            exact urI_2b w a n c bs p s t hr hl hc hn hp hq hs hk _ _ _ _ _ _ _ _ _ _ (uhO bs 2) (uhB bs 2) 0 _ (num bs 6 2) _ rfl hlb (by omega) (by omega) (by omega) h4 h0 rfl (fun h6 => by rw [hfar]; exact if_neg (fun h => h h6)) (fun h6 => by rw [hfar]; exact if_pos h6) (by rw [hk]; exact hx) (by rw [hk]) (by rw [hk]) hu
        · have hx : uhX bs 2 s.k = ⟨2, num bs 0 2, num bs 2 2, 0, 0, 0, 0, 0, 0, 0, 0, false⟩ := by simp [uhX, h4]
          rw [hx] at hfar
          exact urI_2c w a n c bs p s t hr hl hc hn hp hq hs hk _ _ _ _ _ _ _ _ _ _ (uhO bs 2) (uhB bs 2) 0 _ (num bs 6 2) _ rfl hlb (by omega) (by omega) (by omega) h4 rfl (fun h6 => by rw [hfar]; exact if_neg (fun h => h h6)) (fun h6 => by rw [hfar]; exact if_pos h6) (by rw [hk]; exact hx) (by rw [hk]) (by rw [hk]) hu
      · rw [if_pos ⟨rfl, h5⟩] at hfar
        exact urI_code2 w a n c bs p s t hr hl hc hn hp hq hs hk hfar (by omega) (fun v g r => upperOf_2no v g a n c bs _ _ _ _ r (by omega) rfl rfl rfl (by rw [← hl]; exact h5))
  · rw [hk] at hfar
    by_cases h3 : n < 8
    · rw [if_pos (.inr ⟨by simp, by omega⟩)] at hfar
      exact urI_short3 w (some a) n c bs p s t hr hl hn hp hq hs hk hfar h3
    · rw [if_neg (by simp; omega), if_neg (by simp), if_neg (by simp)] at hfar
      have hlb : (uhB bs 3).length = n - 8 := by simp [uhB, List.length_drop]; omega
      have hu : ∀ (v : World) (g : Nat), Rp v g (some a) n c bs 0 → _ := fun v g r => upperOf_3 v g a n c bs (.agg #[.int .i64 3, .int .i64 0, .int .i64 0, .int .i64 0, .int .i64 0, .int .i64 0, .int .i64 0, .int .i64 0, .int .i64 0, .int .i64 0, .int .i64 0, .bool false, .slice none 0 0, .slice none 0 0]) (n - 8) _ _ _ _ r (by omega) rfl rfl rfl rfl
      exact urI_3 w a n c bs p s t hr hl hc hn hp hq hs hk _ _ _ _ _ _ _ _ _ _ (uhO bs 3) (uhB bs 3) 0 _ (num bs 2 2) _ rfl hlb (by omega) (by omega) (by omega) rfl (fun h6 => by rw [hfar]; exact if_neg (fun h => h h6)) (fun h6 => by rw [hfar]; exact if_pos h6) (by rw [hk]; rfl) (by rw [hk]) (by rw [hk]) hu

set_option maxHeartbeats 1000000 in
theorem urI_none (w : World) (p : Int) (s t : Ad) (hr : RB w w.heap.size none ([] : List UInt8)) (hp : pairA s t = true) (hq : upTo p 255 = true) : Calls Try.prog 18 #[.slice none 0 0, .int .i64 p, .agg #[.int .i64 s.k, .int .i64 s.a, .int .i64 s.b, .int .i64 s.c, .int .i64 s.d], .agg #[.int .i64 t.k, .int .i64 t.a, .int .i64 t.b, .int .i64 t.c, .int .i64 t.d]] w (URead [] p s t w) := by
  have hs := pairA_k hp
  have hfar : uhC [] p s t = _ := uhC_far (by simp) (by rw [hp, hq]; rfl)
  rcases kindU_cases p s.k with hk | hk | hk | hk
  · exact urI_0n w p s t hr hp hq hs hk (fun v g r => upperOf_0n v g _ r)
  · rw [hk, if_pos (.inl ⟨rfl, by simp⟩)] at hfar
    exact urI_short1 w none 0 0 [] p s t hr rfl (by omega) hp hq hs hk hfar (by omega)
  · rw [hk, if_pos (.inr ⟨by simp, by simp⟩)] at hfar
    exact urI_short2 w none 0 0 [] p s t hr rfl (by omega) hp hq hs hk hfar (by omega)
  · rw [hk, if_pos (.inr ⟨by simp, by simp⟩)] at hfar
    exact urI_short3 w none 0 0 [] p s t hr rfl (by omega) hp hq hs hk hfar (by omega)

theorem implUpperRead (A : Option Addr) (n c : Nat) (bs : List UInt8) (p : Int) (s t : Ad) (w : World) (hr : RB w w.heap.size A bs) (hl : bs.length = n) (hn : n ≤ 1048576) (hc : n ≤ c) (h0 : A = none → c = 0) : Calls Try.prog 18 #[.slice A n c, .int .i64 p, .agg #[.int .i64 s.k, .int .i64 s.a, .int .i64 s.b, .int .i64 s.c, .int .i64 s.d], .agg #[.int .i64 t.k, .int .i64 t.a, .int .i64 t.b, .int .i64 t.c, .int .i64 t.d]] w (URead bs p s t w) := by
  by_cases h1 : 1500 < n
  · exact urI_long w A n c bs p s t hl h1 hn
  · cases hp : pairA s t with
    | false => exact urI_addr1 w A n c bs p s t hl (by omega) hp
    | true =>
      cases hq : upTo p 255 with
      | false => exact urI_addr2 w A n c bs p s t hl (by omega) hp hq
      | true =>
        rcases A with _ | a
        · obtain rfl := h0 rfl
          obtain rfl : n = 0 := by omega
          obtain rfl : bs = [] := List.eq_nil_of_length_eq_zero hl
          exact urI_none w p s t hr hp hq
        · exact urI_some w a n c bs p s t hr hl hc (by omega) hp hq
end Go.Proofs.Ythogonpjkngpjaa

namespace Go.Proofs.Ythogonpjkngpjaa
set_option maxRecDepth 100000
open Go.RowKit

theorem num_oneU (bs : List UInt8) (k : Nat) (h : k < bs.length) : num bs k 1 = bs[k].toNat := by
  have e : (bs.drop k).take 1 = [bs[k]] := by
    rw [List.drop_eq_getElem_cons h]
    rfl
  unfold num
  rw [e]
  simp [be]
theorem rb_nilU (w : World) (B : Nat) : RB w B none [] := by
  intro h
  simp at h
theorem be16U (A : Option Addr) (n c : Nat) (bs : List UInt8) (k v : Nat) (w : World) (hr : RB w w.heap.size A bs) (hl : bs.length = n) (hn : n ≤ 1048576) (h : k + 2 ≤ n) (hv : num bs k 2 = v) :
    Calls Try.prog 45 #[.slice A n c, .int .i64 (k : Int)] w fun e w' => e = .returned (.tuple #[.int .i64 (v : Int), .bool true]) ∧ Below w.heap.size w w' := by
  subst hv
  exact specBe16 A n c bs k w hr hl hn h
theorem be32U (A : Option Addr) (n c : Nat) (bs : List UInt8) (k v : Nat) (w : World) (hr : RB w w.heap.size A bs) (hl : bs.length = n) (hn : n ≤ 1048576) (h : k + 4 ≤ n) (hv : num bs k 4 = v) :
    Calls Try.prog 46 #[.slice A n c, .int .i64 (k : Int)] w fun e w' => e = .returned (.tuple #[.int .i64 (v : Int), .bool true]) ∧ Below w.heap.size w w' := by
  subst hv
  exact specBe32 A n c bs k w hr hl hn h
theorem cut_atU (a : Addr) (n c j l : Nat) (hj : j + l = n) : ∃ X d, (∀ w, (Instr.sliceAt 34 (.slice (some a) n c) (some (.int .i64 (j : Int))) none none).run Try.prog w = .ok (.slice (some X) l d) w) ∧ ∀ {w : World} {B : Nat} {bs : List UInt8}, RB w B (some a) bs → bs.length = n → n ≤ c → RB w B (some X) (bs.drop j) := by
  have e : (if c = j then some a else (some a).map (·.add (j * 1))) = some (if c = j then a else a.add (j * 1)) := by split <;> rfl
  refine ⟨if c = j then a else a.add (j * 1), c - j, fun w => ?_, fun h hl hc => ?_⟩
  · rw [cut_back (some a) n c j (by omega) w, show n - j = l by omega, e]
  · rw [← e]
    exact h.back j c (by omega)
theorem cut_midU (a : Addr) (n c k s j : Nat) (hj : k + s = j) (h : j ≤ n) (hc : n ≤ c) : ∃ X d, (∀ w, (Instr.sliceAt 34 (.slice (some a) n c) (some (.int .i64 (k : Int))) (some (.int .i64 (j : Int))) none).run Try.prog w = .ok (.slice (some X) s d) w) ∧ ∀ {w : World} {B : Nat} {bs : List UInt8}, RB w B (some a) bs → bs.length = n → RB w B (some X) ((bs.drop k).take s) := by
  have e : (if c = k then some a else (some a).map (·.add (k * 1))) = some (if c = k then a else a.add (k * 1)) := by split <;> rfl
  refine ⟨if c = k then a else a.add (k * 1), c - k, fun w => ?_, fun h hl => ?_⟩
  · rw [cut_mid (some a) n c k s j hj (by omega) w, e]
  · rw [← e]
    exact (h.back k c (by omega)).front s
end Go.Proofs.Ythogonpjkngpjaa

namespace Go.Proofs.Ythogonpjkngpjaa
set_option maxRecDepth 100000
open Go.RowKit

set_option maxHeartbeats 4000000 in
theorem usS_no1 (x : Uh) (s t : Ad) (A D : Option Addr) (n c m d : Nat) (os bs : List UInt8) (w : World) (hp : pairA s t = false) : Calls Try.prog 26 #[.agg #[.int .i64 x.kind, .int .i64 x.sport, .int .i64 x.dport, .int .i64 x.seq, .int .i64 x.ack, .int .i64 x.bits, .int .i64 x.window, .int .i64 x.urgent, .int .i64 x.ty, .int .i64 x.code, .int .i64 x.rest, .bool x.nosum, .slice A n c, .slice D m d], .agg #[.int .i64 s.k, .int .i64 s.a, .int .i64 s.b, .int .i64 s.c, .int .i64 s.d], .agg #[.int .i64 t.k, .int .i64 t.a, .int .i64 t.b, .int .i64 t.c, .int .i64 t.d]] w fun e w' => e = .returned (.int .i64 (Uh.sum x os bs s t)) ∧ Below w.heap.size w w' := by
  have HP := Lib.hid hp
  have HR := Lib.hid (Uh.sum_no (x := x) (o := os) (bs := bs) (a := s) (b := t) (by simp [hp]))
  clear hp
  have q0 : Hid ((((w.alloc (.cells #[.int .i64 x.kind, .int .i64 x.sport, .int .i64 x.dport, .int .i64 x.seq, .int .i64 x.ack, .int .i64 x.bits, .int .i64 x.window, .int .i64 x.urgent, .int .i64 x.ty, .int .i64 x.code, .int .i64 x.rest, .bool x.nosum, .slice A n c, .slice D m d] 36)).alloc (.cells #[.int .i64 s.k, .int .i64 s.a, .int .i64 s.b, .int .i64 s.c, .int .i64 s.d] 27)).alloc (.cells #[.int .i64 t.k, .int .i64 t.a, .int .i64 t.b, .int .i64 t.c, .int .i64 t.d] 27)).heap[w.heap.size]? = some (.cells #[.int .i64 x.kind, .int .i64 x.sport, .int .i64 x.dport, .int .i64 x.seq, .int .i64 x.ack, .int .i64 x.bits, .int .i64 x.window, .int .i64 x.urgent, .int .i64 x.ty, .int .i64 x.code, .int .i64 x.rest, .bool x.nosum, .slice A n c, .slice D m d] 36)) := Lib.hid (by repeat (first | exact K.newAt (by first | rfl | (simp; done)) | refine K.oldAt (by first | (simp; done) | (simp; omega)) ?_))
  have q1 : Hid ((((w.alloc (.cells #[.int .i64 x.kind, .int .i64 x.sport, .int .i64 x.dport, .int .i64 x.seq, .int .i64 x.ack, .int .i64 x.bits, .int .i64 x.window, .int .i64 x.urgent, .int .i64 x.ty, .int .i64 x.code, .int .i64 x.rest, .bool x.nosum, .slice A n c, .slice D m d] 36)).alloc (.cells #[.int .i64 s.k, .int .i64 s.a, .int .i64 s.b, .int .i64 s.c, .int .i64 s.d] 27)).alloc (.cells #[.int .i64 t.k, .int .i64 t.a, .int .i64 t.b, .int .i64 t.c, .int .i64 t.d] 27)).heap[w.heap.size + 1]? = some (.cells #[.int .i64 s.k, .int .i64 s.a, .int .i64 s.b, .int .i64 s.c, .int .i64 s.d] 27)) := Lib.hid (by repeat (first | exact K.newAt (by first | rfl | (simp; done)) | refine K.oldAt (by first | (simp; done) | (simp; omega)) ?_))
  have q2 : Hid ((((w.alloc (.cells #[.int .i64 x.kind, .int .i64 x.sport, .int .i64 x.dport, .int .i64 x.seq, .int .i64 x.ack, .int .i64 x.bits, .int .i64 x.window, .int .i64 x.urgent, .int .i64 x.ty, .int .i64 x.code, .int .i64 x.rest, .bool x.nosum, .slice A n c, .slice D m d] 36)).alloc (.cells #[.int .i64 s.k, .int .i64 s.a, .int .i64 s.b, .int .i64 s.c, .int .i64 s.d] 27)).alloc (.cells #[.int .i64 t.k, .int .i64 t.a, .int .i64 t.b, .int .i64 t.c, .int .i64 t.d] 27)).heap[w.heap.size + 1 + 1]? = some (.cells #[.int .i64 t.k, .int .i64 t.a, .int .i64 t.b, .int .i64 t.c, .int .i64 t.d] 27)) := Lib.hid (by repeat (first | exact K.newAt (by first | rfl | (simp; done)) | refine K.oldAt (by first | (simp; done) | (simp; omega)) ?_))
  (try simp only at q0 q1 q2)
  have HB : Hid (Below w.heap.size w (((w.alloc (.cells #[.int .i64 x.kind, .int .i64 x.sport, .int .i64 x.dport, .int .i64 x.seq, .int .i64 x.ack, .int .i64 x.bits, .int .i64 x.window, .int .i64 x.urgent, .int .i64 x.ty, .int .i64 x.code, .int .i64 x.rest, .bool x.nosum, .slice A n c, .slice D m d] 36)).alloc (.cells #[.int .i64 s.k, .int .i64 s.a, .int .i64 s.b, .int .i64 s.c, .int .i64 s.d] 27)).alloc (.cells #[.int .i64 t.k, .int .i64 t.a, .int .i64 t.b, .int .i64 t.c, .int .i64 t.d] 27))) := Lib.hid (by go_grown)
  (try simp only at HB)
  go_enter Try.func26, Try.ntmps26
  go_wp2_with (first | (with_reducible refine loadA rfl _ rfl (w.heap.size + 1) rfl q1.out ?_) | (with_reducible refine loadA rfl _ rfl (w.heap.size + 2) rfl q2.out ?_))
  refine Calls.mono (pairSB s t false HP.out _) ?_
  rintro e w1 ⟨rfl, b1⟩
  have B1 := Lib.hid (bthen HB.out b1)
  have p0 := Lib.hid (K.below b1 q0.out)
  have p1 := Lib.hid (K.below b1 q1.out)
  have p2 := Lib.hid (K.below b1 q2.out)
  clear b1 q0 q1 q2 HB
  go_wp2
  go_ret
  exact ⟨ret_int HR.out.symm, B1.out⟩

set_option maxHeartbeats 4000000 in
theorem usS_no2 (x : Uh) (s t : Ad) (A D : Option Addr) (n c m d : Nat) (os bs : List UInt8) (w : World) (hl : os.length = n) (hm : bs.length = m) (hp : pairA s t = true) (hk : x.ok s.k n m = false) (hn : n ≤ 1048576) (hm2 : m ≤ 1048576) : Calls Try.prog 26 #[.agg #[.int .i64 x.kind, .int .i64 x.sport, .int .i64 x.dport, .int .i64 x.seq, .int .i64 x.ack, .int .i64 x.bits, .int .i64 x.window, .int .i64 x.urgent, .int .i64 x.ty, .int .i64 x.code, .int .i64 x.rest, .bool x.nosum, .slice A n c, .slice D m d], .agg #[.int .i64 s.k, .int .i64 s.a, .int .i64 s.b, .int .i64 s.c, .int .i64 s.d], .agg #[.int .i64 t.k, .int .i64 t.a, .int .i64 t.b, .int .i64 t.c, .int .i64 t.d]] w fun e w' => e = .returned (.int .i64 (Uh.sum x os bs s t)) ∧ Below w.heap.size w w' := by
  have HP := Lib.hid hp
  have HK := Lib.hid hk
  have HR := Lib.hid (Uh.sum_no (x := x) (o := os) (bs := bs) (a := s) (b := t) (by rw [hl, hm, hk]; simp))
  clear hp hk hl hm
  have q0 : Hid ((((w.alloc (.cells #[.int .i64 x.kind, .int .i64 x.sport, .int .i64 x.dport, .int .i64 x.seq, .int .i64 x.ack, .int .i64 x.bits, .int .i64 x.window, .int .i64 x.urgent, .int .i64 x.ty, .int .i64 x.code, .int .i64 x.rest, .bool x.nosum, .slice A n c, .slice D m d] 36)).alloc (.cells #[.int .i64 s.k, .int .i64 s.a, .int .i64 s.b, .int .i64 s.c, .int .i64 s.d] 27)).alloc (.cells #[.int .i64 t.k, .int .i64 t.a, .int .i64 t.b, .int .i64 t.c, .int .i64 t.d] 27)).heap[w.heap.size]? = some (.cells #[.int .i64 x.kind, .int .i64 x.sport, .int .i64 x.dport, .int .i64 x.seq, .int .i64 x.ack, .int .i64 x.bits, .int .i64 x.window, .int .i64 x.urgent, .int .i64 x.ty, .int .i64 x.code, .int .i64 x.rest, .bool x.nosum, .slice A n c, .slice D m d] 36)) := Lib.hid (by repeat (first | exact K.newAt (by first | rfl | (simp; done)) | refine K.oldAt (by first | (simp; done) | (simp; omega)) ?_))
  have q1 : Hid ((((w.alloc (.cells #[.int .i64 x.kind, .int .i64 x.sport, .int .i64 x.dport, .int .i64 x.seq, .int .i64 x.ack, .int .i64 x.bits, .int .i64 x.window, .int .i64 x.urgent, .int .i64 x.ty, .int .i64 x.code, .int .i64 x.rest, .bool x.nosum, .slice A n c, .slice D m d] 36)).alloc (.cells #[.int .i64 s.k, .int .i64 s.a, .int .i64 s.b, .int .i64 s.c, .int .i64 s.d] 27)).alloc (.cells #[.int .i64 t.k, .int .i64 t.a, .int .i64 t.b, .int .i64 t.c, .int .i64 t.d] 27)).heap[w.heap.size + 1]? = some (.cells #[.int .i64 s.k, .int .i64 s.a, .int .i64 s.b, .int .i64 s.c, .int .i64 s.d] 27)) := Lib.hid (by repeat (first | exact K.newAt (by first | rfl | (simp; done)) | refine K.oldAt (by first | (simp; done) | (simp; omega)) ?_))
  have q2 : Hid ((((w.alloc (.cells #[.int .i64 x.kind, .int .i64 x.sport, .int .i64 x.dport, .int .i64 x.seq, .int .i64 x.ack, .int .i64 x.bits, .int .i64 x.window, .int .i64 x.urgent, .int .i64 x.ty, .int .i64 x.code, .int .i64 x.rest, .bool x.nosum, .slice A n c, .slice D m d] 36)).alloc (.cells #[.int .i64 s.k, .int .i64 s.a, .int .i64 s.b, .int .i64 s.c, .int .i64 s.d] 27)).alloc (.cells #[.int .i64 t.k, .int .i64 t.a, .int .i64 t.b, .int .i64 t.c, .int .i64 t.d] 27)).heap[w.heap.size + 1 + 1]? = some (.cells #[.int .i64 t.k, .int .i64 t.a, .int .i64 t.b, .int .i64 t.c, .int .i64 t.d] 27)) := Lib.hid (by repeat (first | exact K.newAt (by first | rfl | (simp; done)) | refine K.oldAt (by first | (simp; done) | (simp; omega)) ?_))
  (try simp only at q0 q1 q2)
  have HB : Hid (Below w.heap.size w (((w.alloc (.cells #[.int .i64 x.kind, .int .i64 x.sport, .int .i64 x.dport, .int .i64 x.seq, .int .i64 x.ack, .int .i64 x.bits, .int .i64 x.window, .int .i64 x.urgent, .int .i64 x.ty, .int .i64 x.code, .int .i64 x.rest, .bool x.nosum, .slice A n c, .slice D m d] 36)).alloc (.cells #[.int .i64 s.k, .int .i64 s.a, .int .i64 s.b, .int .i64 s.c, .int .i64 s.d] 27)).alloc (.cells #[.int .i64 t.k, .int .i64 t.a, .int .i64 t.b, .int .i64 t.c, .int .i64 t.d] 27))) := Lib.hid (by go_grown)
  (try simp only at HB)
  go_enter Try.func26, Try.ntmps26
  go_wp2_with (first | (with_reducible refine loadA rfl _ rfl (w.heap.size + 1) rfl q1.out ?_) | (with_reducible refine loadA rfl _ rfl (w.heap.size + 2) rfl q2.out ?_))
  refine Calls.mono (pairSB s t true HP.out _) ?_
  rintro e w1 ⟨rfl, b1⟩
  have B1 := Lib.hid (bthen HB.out b1)
  have p0 := Lib.hid (K.below b1 q0.out)
  have p1 := Lib.hid (K.below b1 q1.out)
  have p2 := Lib.hid (K.below b1 q2.out)
  clear b1 q0 q1 q2 HB
  obtain ⟨c_0, c_1, c_2, c_3, c_4, c_5, c_6, c_7, c_8, c_9, c_10, c_11, c_12, c_13⟩ := K.cells14 p0.out
  have d_0 := K.cell p1.out 0 _ rfl
  go_wp2_with fail
  clear c_0 c_1 c_2 c_3 c_4 c_5 c_6 c_7 c_8 c_9 c_10 c_11 c_12 c_13
  clear d_0
  refine Calls.mono (okSB x A D n c m d s.k false HK.out hn hm2 _) ?_
  rintro e w2 ⟨rfl, b2⟩
  have B2 := Lib.hid (bthen B1.out b2)
  have r0 := Lib.hid (K.below b2 p0.out)
  have r1 := Lib.hid (K.below b2 p1.out)
  have r2 := Lib.hid (K.below b2 p2.out)
  clear b2 p0 p1 p2 B1
  go_wp2
  go_ret
  exact ⟨ret_int HR.out.symm, B2.out⟩

set_option maxHeartbeats 4000000 in
theorem usS_z0 (sport dport seq ack bits window urgent ty code rest : Int) (nosum : Bool) (s t : Ad) (A D : Option Addr) (n c m d : Nat) (os bs : List UInt8) (w : World) (hl : os.length = n) (hm : bs.length = m) (hp : pairA s t = true) (hk : Uh.ok (Uh.mk 0 sport dport seq ack bits window urgent ty code rest nosum) s.k n m = true) (hn : n ≤ 1048576) (hm2 : m ≤ 1048576) : Calls Try.prog 26 #[.agg #[.int .i64 0, .int .i64 sport, .int .i64 dport, .int .i64 seq, .int .i64 ack, .int .i64 bits, .int .i64 window, .int .i64 urgent, .int .i64 ty, .int .i64 code, .int .i64 rest, .bool nosum, .slice A n c, .slice D m d], .agg #[.int .i64 s.k, .int .i64 s.a, .int .i64 s.b, .int .i64 s.c, .int .i64 s.d], .agg #[.int .i64 t.k, .int .i64 t.a, .int .i64 t.b, .int .i64 t.c, .int .i64 t.d]] w fun e w' => e = .returned (.int .i64 (Uh.sum (Uh.mk 0 sport dport seq ack bits window urgent ty code rest nosum) os bs s t)) ∧ Below w.heap.size w w' := by
  have HP := Lib.hid hp
  have HK := Lib.hid hk
  have HR := Lib.hid (Uh.sum_zero (x := (Uh.mk 0 sport dport seq ack bits window urgent ty code rest nosum)) (o := os) (bs := bs) (a := s) (b := t) (by rw [hl, hm, hk, hp]; rfl) (by simp))
  clear hp hk hl hm
  have q0 : Hid ((((w.alloc (.cells #[.int .i64 0, .int .i64 sport, .int .i64 dport, .int .i64 seq, .int .i64 ack, .int .i64 bits, .int .i64 window, .int .i64 urgent, .int .i64 ty, .int .i64 code, .int .i64 rest, .bool nosum, .slice A n c, .slice D m d] 36)).alloc (.cells #[.int .i64 s.k, .int .i64 s.a, .int .i64 s.b, .int .i64 s.c, .int .i64 s.d] 27)).alloc (.cells #[.int .i64 t.k, .int .i64 t.a, .int .i64 t.b, .int .i64 t.c, .int .i64 t.d] 27)).heap[w.heap.size]? = some (.cells #[.int .i64 0, .int .i64 sport, .int .i64 dport, .int .i64 seq, .int .i64 ack, .int .i64 bits, .int .i64 window, .int .i64 urgent, .int .i64 ty, .int .i64 code, .int .i64 rest, .bool nosum, .slice A n c, .slice D m d] 36)) := Lib.hid (by repeat (first | exact K.newAt (by first | rfl | (simp; done)) | refine K.oldAt (by first | (simp; done) | (simp; omega)) ?_))
  have q1 : Hid ((((w.alloc (.cells #[.int .i64 0, .int .i64 sport, .int .i64 dport, .int .i64 seq, .int .i64 ack, .int .i64 bits, .int .i64 window, .int .i64 urgent, .int .i64 ty, .int .i64 code, .int .i64 rest, .bool nosum, .slice A n c, .slice D m d] 36)).alloc (.cells #[.int .i64 s.k, .int .i64 s.a, .int .i64 s.b, .int .i64 s.c, .int .i64 s.d] 27)).alloc (.cells #[.int .i64 t.k, .int .i64 t.a, .int .i64 t.b, .int .i64 t.c, .int .i64 t.d] 27)).heap[w.heap.size + 1]? = some (.cells #[.int .i64 s.k, .int .i64 s.a, .int .i64 s.b, .int .i64 s.c, .int .i64 s.d] 27)) := Lib.hid (by repeat (first | exact K.newAt (by first | rfl | (simp; done)) | refine K.oldAt (by first | (simp; done) | (simp; omega)) ?_))
  have q2 : Hid ((((w.alloc (.cells #[.int .i64 0, .int .i64 sport, .int .i64 dport, .int .i64 seq, .int .i64 ack, .int .i64 bits, .int .i64 window, .int .i64 urgent, .int .i64 ty, .int .i64 code, .int .i64 rest, .bool nosum, .slice A n c, .slice D m d] 36)).alloc (.cells #[.int .i64 s.k, .int .i64 s.a, .int .i64 s.b, .int .i64 s.c, .int .i64 s.d] 27)).alloc (.cells #[.int .i64 t.k, .int .i64 t.a, .int .i64 t.b, .int .i64 t.c, .int .i64 t.d] 27)).heap[w.heap.size + 1 + 1]? = some (.cells #[.int .i64 t.k, .int .i64 t.a, .int .i64 t.b, .int .i64 t.c, .int .i64 t.d] 27)) := Lib.hid (by repeat (first | exact K.newAt (by first | rfl | (simp; done)) | refine K.oldAt (by first | (simp; done) | (simp; omega)) ?_))
  (try simp only at q0 q1 q2)
  have HB : Hid (Below w.heap.size w (((w.alloc (.cells #[.int .i64 0, .int .i64 sport, .int .i64 dport, .int .i64 seq, .int .i64 ack, .int .i64 bits, .int .i64 window, .int .i64 urgent, .int .i64 ty, .int .i64 code, .int .i64 rest, .bool nosum, .slice A n c, .slice D m d] 36)).alloc (.cells #[.int .i64 s.k, .int .i64 s.a, .int .i64 s.b, .int .i64 s.c, .int .i64 s.d] 27)).alloc (.cells #[.int .i64 t.k, .int .i64 t.a, .int .i64 t.b, .int .i64 t.c, .int .i64 t.d] 27))) := Lib.hid (by go_grown)
  (try simp only at HB)
  go_enter Try.func26, Try.ntmps26
  go_wp2_with (first | (with_reducible refine loadA rfl _ rfl (w.heap.size + 1) rfl q1.out ?_) | (with_reducible refine loadA rfl _ rfl (w.heap.size + 2) rfl q2.out ?_))
  refine Calls.mono (pairSB s t true HP.out _) ?_
  rintro e w1 ⟨rfl, b1⟩
  have B1 := Lib.hid (bthen HB.out b1)
  have p0 := Lib.hid (K.below b1 q0.out)
  have p1 := Lib.hid (K.below b1 q1.out)
  have p2 := Lib.hid (K.below b1 q2.out)
  clear b1 q0 q1 q2 HB
  obtain ⟨c_0, c_1, c_2, c_3, c_4, c_5, c_6, c_7, c_8, c_9, c_10, c_11, c_12, c_13⟩ := K.cells14 p0.out
  have d_0 := K.cell p1.out 0 _ rfl
  go_wp2_with fail
  clear c_0 c_1 c_2 c_3 c_4 c_5 c_6 c_7 c_8 c_9 c_10 c_11 c_12 c_13
  clear d_0
  refine Calls.mono (okSB (Uh.mk 0 sport dport seq ack bits window urgent ty code rest nosum) A D n c m d s.k true HK.out hn hm2 _) ?_
  rintro e w2 ⟨rfl, b2⟩
  have B2 := Lib.hid (bthen B1.out b2)
  have r0 := Lib.hid (K.below b2 p0.out)
  have r1 := Lib.hid (K.below b2 p1.out)
  have r2 := Lib.hid (K.below b2 p2.out)
  clear b2 p0 p1 p2 B1
  have e0 := K.cell r0.out 0 _ rfl
  go_wp2
  go_ret
  exact ⟨ret_int HR.out.symm, B2.out⟩

set_option maxHeartbeats 4000000 in
theorem usS_z1 (kind sport dport seq ack bits window urgent ty code rest : Int) (s t : Ad) (A D : Option Addr) (n c m d : Nat) (os bs : List UInt8) (w : World) (hl : os.length = n) (hm : bs.length = m) (hp : pairA s t = true) (hk : Uh.ok (Uh.mk kind sport dport seq ack bits window urgent ty code rest true) s.k n m = true) (k0 : ¬ kind = 0) (hn : n ≤ 1048576) (hm2 : m ≤ 1048576) : Calls Try.prog 26 #[.agg #[.int .i64 kind, .int .i64 sport, .int .i64 dport, .int .i64 seq, .int .i64 ack, .int .i64 bits, .int .i64 window, .int .i64 urgent, .int .i64 ty, .int .i64 code, .int .i64 rest, .bool true, .slice A n c, .slice D m d], .agg #[.int .i64 s.k, .int .i64 s.a, .int .i64 s.b, .int .i64 s.c, .int .i64 s.d], .agg #[.int .i64 t.k, .int .i64 t.a, .int .i64 t.b, .int .i64 t.c, .int .i64 t.d]] w fun e w' => e = .returned (.int .i64 (Uh.sum (Uh.mk kind sport dport seq ack bits window urgent ty code rest true) os bs s t)) ∧ Below w.heap.size w w' := by
  have HP := Lib.hid hp
  have HK := Lib.hid hk
  have HR := Lib.hid (Uh.sum_zero (x := (Uh.mk kind sport dport seq ack bits window urgent ty code rest true)) (o := os) (bs := bs) (a := s) (b := t) (by rw [hl, hm, hk, hp]; rfl) (by simp))
  clear hp hk hl hm
  have q0 : Hid ((((w.alloc (.cells #[.int .i64 kind, .int .i64 sport, .int .i64 dport, .int .i64 seq, .int .i64 ack, .int .i64 bits, .int .i64 window, .int .i64 urgent, .int .i64 ty, .int .i64 code, .int .i64 rest, .bool true, .slice A n c, .slice D m d] 36)).alloc (.cells #[.int .i64 s.k, .int .i64 s.a, .int .i64 s.b, .int .i64 s.c, .int .i64 s.d] 27)).alloc (.cells #[.int .i64 t.k, .int .i64 t.a, .int .i64 t.b, .int .i64 t.c, .int .i64 t.d] 27)).heap[w.heap.size]? = some (.cells #[.int .i64 kind, .int .i64 sport, .int .i64 dport, .int .i64 seq, .int .i64 ack, .int .i64 bits, .int .i64 window, .int .i64 urgent, .int .i64 ty, .int .i64 code, .int .i64 rest, .bool true, .slice A n c, .slice D m d] 36)) := Lib.hid (by repeat (first | exact K.newAt (by first | rfl | (simp; done)) | refine K.oldAt (by first | (simp; done) | (simp; omega)) ?_))
  have q1 : Hid ((((w.alloc (.cells #[.int .i64 kind, .int .i64 sport, .int .i64 dport, .int .i64 seq, .int .i64 ack, .int .i64 bits, .int .i64 window, .int .i64 urgent, .int .i64 ty, .int .i64 code, .int .i64 rest, .bool true, .slice A n c, .slice D m d] 36)).alloc (.cells #[.int .i64 s.k, .int .i64 s.a, .int .i64 s.b, .int .i64 s.c, .int .i64 s.d] 27)).alloc (.cells #[.int .i64 t.k, .int .i64 t.a, .int .i64 t.b, .int .i64 t.c, .int .i64 t.d] 27)).heap[w.heap.size + 1]? = some (.cells #[.int .i64 s.k, .int .i64 s.a, .int .i64 s.b, .int .i64 s.c, .int .i64 s.d] 27)) := Lib.hid (by repeat (first | exact K.newAt (by first | rfl | (simp; done)) | refine K.oldAt (by first | (simp; done) | (simp; omega)) ?_))
  have q2 : Hid ((((w.alloc (.cells #[.int .i64 kind, .int .i64 sport, .int .i64 dport, .int .i64 seq, .int .i64 ack, .int .i64 bits, .int .i64 window, .int .i64 urgent, .int .i64 ty, .int .i64 code, .int .i64 rest, .bool true, .slice A n c, .slice D m d] 36)).alloc (.cells #[.int .i64 s.k, .int .i64 s.a, .int .i64 s.b, .int .i64 s.c, .int .i64 s.d] 27)).alloc (.cells #[.int .i64 t.k, .int .i64 t.a, .int .i64 t.b, .int .i64 t.c, .int .i64 t.d] 27)).heap[w.heap.size + 1 + 1]? = some (.cells #[.int .i64 t.k, .int .i64 t.a, .int .i64 t.b, .int .i64 t.c, .int .i64 t.d] 27)) := Lib.hid (by repeat (first | exact K.newAt (by first | rfl | (simp; done)) | refine K.oldAt (by first | (simp; done) | (simp; omega)) ?_))
  (try simp only at q0 q1 q2)
  have HB : Hid (Below w.heap.size w (((w.alloc (.cells #[.int .i64 kind, .int .i64 sport, .int .i64 dport, .int .i64 seq, .int .i64 ack, .int .i64 bits, .int .i64 window, .int .i64 urgent, .int .i64 ty, .int .i64 code, .int .i64 rest, .bool true, .slice A n c, .slice D m d] 36)).alloc (.cells #[.int .i64 s.k, .int .i64 s.a, .int .i64 s.b, .int .i64 s.c, .int .i64 s.d] 27)).alloc (.cells #[.int .i64 t.k, .int .i64 t.a, .int .i64 t.b, .int .i64 t.c, .int .i64 t.d] 27))) := Lib.hid (by go_grown)
  (try simp only at HB)
  go_enter Try.func26, Try.ntmps26
  go_wp2_with (first | (with_reducible refine loadA rfl _ rfl (w.heap.size + 1) rfl q1.out ?_) | (with_reducible refine loadA rfl _ rfl (w.heap.size + 2) rfl q2.out ?_))
  refine Calls.mono (pairSB s t true HP.out _) ?_
  rintro e w1 ⟨rfl, b1⟩
  have B1 := Lib.hid (bthen HB.out b1)
  have p0 := Lib.hid (K.below b1 q0.out)
  have p1 := Lib.hid (K.below b1 q1.out)
  have p2 := Lib.hid (K.below b1 q2.out)
  clear b1 q0 q1 q2 HB
  obtain ⟨c_0, c_1, c_2, c_3, c_4, c_5, c_6, c_7, c_8, c_9, c_10, c_11, c_12, c_13⟩ := K.cells14 p0.out
  have d_0 := K.cell p1.out 0 _ rfl
  go_wp2_with fail
  clear c_0 c_1 c_2 c_3 c_4 c_5 c_6 c_7 c_8 c_9 c_10 c_11 c_12 c_13
  clear d_0
  refine Calls.mono (okSB (Uh.mk kind sport dport seq ack bits window urgent ty code rest true) A D n c m d s.k true HK.out hn hm2 _) ?_
  rintro e w2 ⟨rfl, b2⟩
  have B2 := Lib.hid (bthen B1.out b2)
  have r0 := Lib.hid (K.below b2 p0.out)
  have r1 := Lib.hid (K.below b2 p1.out)
  have r2 := Lib.hid (K.below b2 p2.out)
  clear b2 p0 p1 p2 B1
  have e0 := K.cell r0.out 0 _ rfl
  have e1 := K.cell r0.out 11 _ rfl
  go_wp2
  go_ret
  exact ⟨ret_int HR.out.symm, B2.out⟩

set_option maxHeartbeats 4000000 in
theorem usS_y1 (sport dport seq ack bits window urgent ty code rest : Int) (s t : Ad) (A D : Option Addr) (n c m d : Nat) (os bs : List UInt8) (w : World) (hr : RB w w.heap.size A os) (hl : os.length = n) (hs : RB w w.heap.size D bs) (hm : bs.length = m) (hp : pairA s t = true) (hk : Uh.ok (Uh.mk 1 sport dport seq ack bits window urgent ty code rest false) s.k n m = true) : Calls Try.prog 26 #[.agg #[.int .i64 1, .int .i64 sport, .int .i64 dport, .int .i64 seq, .int .i64 ack, .int .i64 bits, .int .i64 window, .int .i64 urgent, .int .i64 ty, .int .i64 code, .int .i64 rest, .bool false, .slice A n c, .slice D m d], .agg #[.int .i64 s.k, .int .i64 s.a, .int .i64 s.b, .int .i64 s.c, .int .i64 s.d], .agg #[.int .i64 t.k, .int .i64 t.a, .int .i64 t.b, .int .i64 t.c, .int .i64 t.d]] w fun e w' => e = .returned (.int .i64 (Uh.sum (Uh.mk 1 sport dport seq ack bits window urgent ty code rest false) os bs s t)) ∧ Below w.heap.size w w' := by
  have HP := Lib.hid hp
  have HK := Lib.hid hk
  obtain ⟨hn, _, hm3, hz0, hz1⟩ := Uh.ok_room hk
  have hm2 : m ≤ 1048576 := by omega
  have hn4 : n ≤ 40 := hn
  replace hn : n ≤ 1048576 := by omega
  have HW1 := Lib.hid (Uh.top_word hp hk)
  have HW2 : Hid (isWord (onesSum (Uh.enc (Uh.mk 1 sport dport seq ack bits window urgent ty code rest false) os bs 0)) = true) := Lib.hid (Uh.enc_word (x := (Uh.mk 1 sport dport seq ack bits window urgent ty code rest false)) (k := s.k) (o := os) (bs := bs) (by rw [hl, hm]; exact hk) 0)
  have HR := Lib.hid (Uh.sum_yes (x := (Uh.mk 1 sport dport seq ack bits window urgent ty code rest false)) (o := os) (bs := bs) (a := s) (b := t) (by rw [hl, hm, hk, hp]; rfl) (by simp))
  rw [hl, hm] at HR
  have HLE := Lib.hid (Uh.enc_len (Uh.mk 1 sport dport seq ack bits window urgent ty code rest false) os bs 0 (by simp))
  rw [hl, hm] at HLE
  have HA := Lib.hid hr
  have HD := Lib.hid hs
  have HL := Lib.hid hl
  have HM := Lib.hid hm
  have hsz : Uh.size (Uh.mk 1 sport dport seq ack bits window urgent ty code rest false) n m = 20 + (n : Int) + m := rfl
  rw [hsz] at hz0 hz1 HLE
  have HT := Lib.hid (show Uh.top (Uh.mk 1 sport dport seq ack bits window urgent ty code rest false) n m s t = psSum s t 6 (20 + (n : Int) + m) by simp [Uh.top, Uh.size])
  have HS := Lib.hid (And.intro hz0 hz1)
  obtain ⟨L, hL⟩ : ∃ L, Uh.enc (Uh.mk 1 sport dport seq ack bits window urgent ty code rest false) os bs 0 = L := ⟨_, rfl⟩
  rw [hL] at HW2 HR HLE
  have HEN := Lib.hid hL
  obtain ⟨T, hT⟩ : ∃ T, Uh.top (Uh.mk 1 sport dport seq ack bits window urgent ty code rest false) n m s t = T := ⟨_, rfl⟩
  rw [hT] at HW1 HR HT
  have HTT := Lib.hid hT
  obtain ⟨O, hO⟩ : ∃ O, onesSum L = O := ⟨_, rfl⟩
  rw [hO] at HW2 HR
  have HO := Lib.hid hO
  clear hp hk hl hm hr hs hz0 hz1 hsz hL hT hO
  have q0 : Hid ((((w.alloc (.cells #[.int .i64 1, .int .i64 sport, .int .i64 dport, .int .i64 seq, .int .i64 ack, .int .i64 bits, .int .i64 window, .int .i64 urgent, .int .i64 ty, .int .i64 code, .int .i64 rest, .bool false, .slice A n c, .slice D m d] 36)).alloc (.cells #[.int .i64 s.k, .int .i64 s.a, .int .i64 s.b, .int .i64 s.c, .int .i64 s.d] 27)).alloc (.cells #[.int .i64 t.k, .int .i64 t.a, .int .i64 t.b, .int .i64 t.c, .int .i64 t.d] 27)).heap[w.heap.size]? = some (.cells #[.int .i64 1, .int .i64 sport, .int .i64 dport, .int .i64 seq, .int .i64 ack, .int .i64 bits, .int .i64 window, .int .i64 urgent, .int .i64 ty, .int .i64 code, .int .i64 rest, .bool false, .slice A n c, .slice D m d] 36)) := Lib.hid (by repeat (first | exact K.newAt (by first | rfl | (simp; done)) | refine K.oldAt (by first | (simp; done) | (simp; omega)) ?_))
  have q1 : Hid ((((w.alloc (.cells #[.int .i64 1, .int .i64 sport, .int .i64 dport, .int .i64 seq, .int .i64 ack, .int .i64 bits, .int .i64 window, .int .i64 urgent, .int .i64 ty, .int .i64 code, .int .i64 rest, .bool false, .slice A n c, .slice D m d] 36)).alloc (.cells #[.int .i64 s.k, .int .i64 s.a, .int .i64 s.b, .int .i64 s.c, .int .i64 s.d] 27)).alloc (.cells #[.int .i64 t.k, .int .i64 t.a, .int .i64 t.b, .int .i64 t.c, .int .i64 t.d] 27)).heap[w.heap.size + 1]? = some (.cells #[.int .i64 s.k, .int .i64 s.a, .int .i64 s.b, .int .i64 s.c, .int .i64 s.d] 27)) := Lib.hid (by repeat (first | exact K.newAt (by first | rfl | (simp; done)) | refine K.oldAt (by first | (simp; done) | (simp; omega)) ?_))
  have q2 : Hid ((((w.alloc (.cells #[.int .i64 1, .int .i64 sport, .int .i64 dport, .int .i64 seq, .int .i64 ack, .int .i64 bits, .int .i64 window, .int .i64 urgent, .int .i64 ty, .int .i64 code, .int .i64 rest, .bool false, .slice A n c, .slice D m d] 36)).alloc (.cells #[.int .i64 s.k, .int .i64 s.a, .int .i64 s.b, .int .i64 s.c, .int .i64 s.d] 27)).alloc (.cells #[.int .i64 t.k, .int .i64 t.a, .int .i64 t.b, .int .i64 t.c, .int .i64 t.d] 27)).heap[w.heap.size + 1 + 1]? = some (.cells #[.int .i64 t.k, .int .i64 t.a, .int .i64 t.b, .int .i64 t.c, .int .i64 t.d] 27)) := Lib.hid (by repeat (first | exact K.newAt (by first | rfl | (simp; done)) | refine K.oldAt (by first | (simp; done) | (simp; omega)) ?_))
  (try simp only at q0 q1 q2)
  have HB : Hid (Below w.heap.size w (((w.alloc (.cells #[.int .i64 1, .int .i64 sport, .int .i64 dport, .int .i64 seq, .int .i64 ack, .int .i64 bits, .int .i64 window, .int .i64 urgent, .int .i64 ty, .int .i64 code, .int .i64 rest, .bool false, .slice A n c, .slice D m d] 36)).alloc (.cells #[.int .i64 s.k, .int .i64 s.a, .int .i64 s.b, .int .i64 s.c, .int .i64 s.d] 27)).alloc (.cells #[.int .i64 t.k, .int .i64 t.a, .int .i64 t.b, .int .i64 t.c, .int .i64 t.d] 27))) := Lib.hid (by go_grown)
  (try simp only at HB)
  go_enter Try.func26, Try.ntmps26
  go_wp2_with (first | (with_reducible refine loadA rfl _ rfl (w.heap.size + 1) rfl q1.out ?_) | (with_reducible refine loadA rfl _ rfl (w.heap.size + 2) rfl q2.out ?_))
  refine Calls.mono (pairSB s t true HP.out _) ?_
  rintro e w1 ⟨rfl, b1⟩
  have B1 := Lib.hid (bthen HB.out b1)
  have p0 := Lib.hid (K.below b1 q0.out)
  have p1 := Lib.hid (K.below b1 q1.out)
  have p2 := Lib.hid (K.below b1 q2.out)
  clear b1 q0 q1 q2 HB
  obtain ⟨c_0, c_1, c_2, c_3, c_4, c_5, c_6, c_7, c_8, c_9, c_10, c_11, c_12, c_13⟩ := K.cells14 p0.out
  have d_0 := K.cell p1.out 0 _ rfl
  go_wp2_with fail
  clear c_0 c_1 c_2 c_3 c_4 c_5 c_6 c_7 c_8 c_9 c_10 c_11 c_12 c_13
  clear d_0
  refine Calls.mono (okSB (Uh.mk 1 sport dport seq ack bits window urgent ty code rest false) A D n c m d s.k true HK.out hn hm2 _) ?_
  rintro e w2 ⟨rfl, b2⟩
  have B2 := Lib.hid (bthen B1.out b2)
  have r0 := Lib.hid (K.below b2 p0.out)
  have r1 := Lib.hid (K.below b2 p1.out)
  have r2 := Lib.hid (K.below b2 p2.out)
  clear b2 p0 p1 p2 B1
  have e0 := K.cell r0.out 0 _ rfl
  have e1 := K.cell r0.out 11 _ rfl
  have f_k := K.cell r1.out 0 _ rfl
  go_wp2_with fail
  clear e0 e1 f_k
  refine wp_region_owns (by kernel_rfl) 5 68 [(0, 31), (1, 32), (2, 33), (3, 34), (4, 35)] _ ([.val (.agg #[.int .i64 s.k, .int .i64 s.a, .int .i64 s.b, .int .i64 s.c, .int .i64 s.d]), .val (.agg #[.int .i64 t.k, .int .i64 t.a, .int .i64 t.b, .int .i64 t.c, .int .i64 t.d]), .val (.agg #[.int .i64 1, .int .i64 sport, .int .i64 dport, .int .i64 seq, .int .i64 ack, .int .i64 bits, .int .i64 window, .int .i64 urgent, .int .i64 ty, .int .i64 code, .int .i64 rest, .bool false, .slice A n c, .slice D m d]), .val (.int .i64 (20 + (n : Int) + m)), .val (.int .i64 T)]) (by kernel_rfl) (by kernel_rfl) rfl rfl ?_ ?_
  · intro j o hj ho a' v K' hx hnd hB hK
    match j, hj, ho with
    | 0, _, ho =>
      obtain rfl := Option.some.inj ho
      have h0 : a'.eval (.tmp 4) = .pointer (some ⟨w.heap.size + 1, 0, none⟩) := (hx 4 (by decide)).trans rfl
      exact wp_load_row 27 _ rfl (w.heap.size + 1) h0 _ _ (0, 0) _ (K.below hB r1.out) Try.underlying27 rfl info_addrP (hK _ _ rfl (Below.refl _ _))
    | 1, _, ho =>
      obtain rfl := Option.some.inj ho
      have h0 : a'.eval (.tmp 5) = .pointer (some ⟨w.heap.size + 2, 0, none⟩) := (hx 5 (by decide)).trans rfl
      exact wp_load_row 27 _ rfl (w.heap.size + 2) h0 _ _ (0, 0) _ (K.below hB r2.out) Try.underlying27 rfl info_addrP (hK _ _ rfl (Below.refl _ _))
    | 2, _, ho =>
      obtain rfl := Option.some.inj ho
      have h0 : a'.eval (.tmp 3) = .pointer (some ⟨w.heap.size, 0, none⟩) := (hx 3 (by decide)).trans rfl
      exact wp_load_row 36 _ rfl (w.heap.size) h0 _ _ (0, 0) _ (K.below hB r0.out) Try.underlying36 rfl info_up (hK _ _ rfl (Below.refl _ _))
    | 3, _, ho =>
      obtain rfl := Option.some.inj ho
      have h0 : a'.eval (.tmp 33) = .agg #[.int .i64 1, .int .i64 sport, .int .i64 dport, .int .i64 seq, .int .i64 ack, .int .i64 bits, .int .i64 window, .int .i64 urgent, .int .i64 ty, .int .i64 code, .int .i64 rest, .bool false, .slice A n c, .slice D m d] := (owns_of hnd 2 33 (by kernel_rfl) :)
      refine u_upSizeS _ _ _ rfl h0 (Calls.mono (specUpSize (Uh.mk 1 sport dport seq ack bits window urgent ty code rest false) A D n c m d v (by omega) (by omega)) ?_)
      rintro e' v' ⟨rfl, b6⟩
      exact ⟨_, rfl, hK _ _ rfl b6⟩
    | 4, _, ho =>
      obtain rfl := Option.some.inj ho
      have h0 : a'.eval (.tmp 31) = .agg #[.int .i64 s.k, .int .i64 s.a, .int .i64 s.b, .int .i64 s.c, .int .i64 s.d] := (owns_of hnd 0 31 (by kernel_rfl) :)
      have h1 : a'.eval (.tmp 32) = .agg #[.int .i64 t.k, .int .i64 t.a, .int .i64 t.b, .int .i64 t.c, .int .i64 t.d] := (owns_of hnd 1 32 (by kernel_rfl) :)
      have h2 : a'.eval (.tmp 34) = .int .i64 (20 + (n : Int) + m) := (owns_of hnd 3 34 (by kernel_rfl) :)
      refine u_psS4 _ _ _ _ _ _ _ _ _ rfl h0 h1 rfl h2 (Calls.mono (psS s t 6 (20 + (n : Int) + m) v) ?_)
      rintro e' v' ⟨rfl, b6⟩
      exact ⟨_, rfl, hK _ _ (by rw [← HT.out]; rfl) b6⟩
    | j + 5, hj, _ => omega
  · intro f v hf hB
    have e0 : f 0 = (.agg #[.int .i64 s.k, .int .i64 s.a, .int .i64 s.b, .int .i64 s.c, .int .i64 s.d]) := hf (0, 31) (by decide)
    have e1 : f 1 = (.agg #[.int .i64 t.k, .int .i64 t.a, .int .i64 t.b, .int .i64 t.c, .int .i64 t.d]) := hf (1, 32) (by decide)
    have e2 : f 2 = (.agg #[.int .i64 1, .int .i64 sport, .int .i64 dport, .int .i64 seq, .int .i64 ack, .int .i64 bits, .int .i64 window, .int .i64 urgent, .int .i64 ty, .int .i64 code, .int .i64 rest, .bool false, .slice A n c, .slice D m d]) := hf (2, 33) (by decide)
    have e3 : f 3 = (.int .i64 (20 + (n : Int) + m)) := hf (3, 34) (by decide)
    have e4 : f 4 = (.int .i64 T) := hf (4, 35) (by decide)
    simp only [List.foldl_cons, List.foldl_nil, List.drop_succ_cons, List.drop_zero, e0, e1, e2, e3, e4]
    clear e0 e1 e2 e3 e4 hf
    go_simp
    have B3 := Lib.hid (bthen B2.out hB)
    have r3 := Lib.hid (K.below hB r0.out)
    clear hB
    go_wp2_with (with_reducible refine loadU rfl _ rfl w.heap.size rfl r3.out ?_)
    refine Calls.mono (encS (Uh.mk 1 sport dport seq ack bits window urgent ty code rest false) s.k 0 A D n c m d os bs _ ((HA.out.below B3.out).more B3.out.size) HL.out ((HD.out.below B3.out).more B3.out.size) HM.out HK.out) ?_
    rintro e w4 ⟨X4, y4, rfl, o4, b4⟩
    rw [HEN.out] at o4 ⊢
    have R4 := Lib.hid (RB.of_own o4)
    have B4 := Lib.hid (bthen B3.out b4)
    have r4 := Lib.hid (K.below b4 r3.out)
    clear o4 b4 r3
    go_wp2_with fail
    refine Calls.mono (specOnes X4 L.length y4 L _ R4.out rfl (by have := HLE.out; have := HS.out; omega)) ?_
    rintro e w5 ⟨rfl, rfl⟩
    rw [HO.out]
    go_wp2_with fail
    refine Calls.mono (specAddW T O _ HW1.out HW2.out) ?_
    rintro e w5 ⟨rfl, rfl⟩
    have f0 := K.cell r4.out 0 _ rfl
    have hw := isWord_iff.1 (sadd_word HW1.out HW2.out)
    have HU := Lib.hid (HR.out)
    generalize sadd T O = z at hw HU ⊢
    have HB9 := B4
    by_cases hz : 65535 - z = 0
    · have HV := Lib.hid (show Uh.sum (Uh.mk 1 sport dport seq ack bits window urgent ty code rest false) os bs s t = 0 by rw [HU.out]; simp [udp0, hz])
      clear HU
      go_wp2
      go_ret
      exact ⟨ret_int HV.out.symm, HB9.out⟩
    · have HV := Lib.hid (show Uh.sum (Uh.mk 1 sport dport seq ack bits window urgent ty code rest false) os bs s t = 65535 - z by rw [HU.out]; simp [udp0])
      clear HU
      go_wp2
      go_ret
      exact ⟨ret_int HV.out.symm, HB9.out⟩

set_option maxHeartbeats 4000000 in
theorem usS_y2 (sport dport seq ack bits window urgent ty code rest : Int) (s t : Ad) (A D : Option Addr) (n c m d : Nat) (os bs : List UInt8) (w : World) (hr : RB w w.heap.size A os) (hl : os.length = n) (hs : RB w w.heap.size D bs) (hm : bs.length = m) (hp : pairA s t = true) (hk : Uh.ok (Uh.mk 2 sport dport seq ack bits window urgent ty code rest false) s.k n m = true) : Calls Try.prog 26 #[.agg #[.int .i64 2, .int .i64 sport, .int .i64 dport, .int .i64 seq, .int .i64 ack, .int .i64 bits, .int .i64 window, .int .i64 urgent, .int .i64 ty, .int .i64 code, .int .i64 rest, .bool false, .slice A n c, .slice D m d], .agg #[.int .i64 s.k, .int .i64 s.a, .int .i64 s.b, .int .i64 s.c, .int .i64 s.d], .agg #[.int .i64 t.k, .int .i64 t.a, .int .i64 t.b, .int .i64 t.c, .int .i64 t.d]] w fun e w' => e = .returned (.int .i64 (Uh.sum (Uh.mk 2 sport dport seq ack bits window urgent ty code rest false) os bs s t)) ∧ Below w.heap.size w w' := by
  have HP := Lib.hid hp
  have HK := Lib.hid hk
  obtain ⟨hn, _, hm3, hz0, hz1⟩ := Uh.ok_room hk
  have hm2 : m ≤ 1048576 := by omega
  have hn4 : n ≤ 40 := hn
  replace hn : n ≤ 1048576 := by omega
  have HW1 := Lib.hid (Uh.top_word hp hk)
  have HW2 : Hid (isWord (onesSum (Uh.enc (Uh.mk 2 sport dport seq ack bits window urgent ty code rest false) os bs 0)) = true) := Lib.hid (Uh.enc_word (x := (Uh.mk 2 sport dport seq ack bits window urgent ty code rest false)) (k := s.k) (o := os) (bs := bs) (by rw [hl, hm]; exact hk) 0)
  have HR := Lib.hid (Uh.sum_yes (x := (Uh.mk 2 sport dport seq ack bits window urgent ty code rest false)) (o := os) (bs := bs) (a := s) (b := t) (by rw [hl, hm, hk, hp]; rfl) (by simp))
  rw [hl, hm] at HR
  have HLE := Lib.hid (Uh.enc_len (Uh.mk 2 sport dport seq ack bits window urgent ty code rest false) os bs 0 (by simp))
  rw [hl, hm] at HLE
  have HA := Lib.hid hr
  have HD := Lib.hid hs
  have HL := Lib.hid hl
  have HM := Lib.hid hm
  have hsz : Uh.size (Uh.mk 2 sport dport seq ack bits window urgent ty code rest false) n m = 8 + (m : Int) := rfl
  rw [hsz] at hz0 hz1 HLE
  have HT := Lib.hid (show Uh.top (Uh.mk 2 sport dport seq ack bits window urgent ty code rest false) n m s t = psSum s t 17 (8 + (m : Int)) by simp [Uh.top, Uh.size])
  have HS := Lib.hid (And.intro hz0 hz1)
  obtain ⟨L, hL⟩ : ∃ L, Uh.enc (Uh.mk 2 sport dport seq ack bits window urgent ty code rest false) os bs 0 = L := ⟨_, rfl⟩
  rw [hL] at HW2 HR HLE
  have HEN := Lib.hid hL
  obtain ⟨T, hT⟩ : ∃ T, Uh.top (Uh.mk 2 sport dport seq ack bits window urgent ty code rest false) n m s t = T := ⟨_, rfl⟩
  rw [hT] at HW1 HR HT
  have HTT := Lib.hid hT
  obtain ⟨O, hO⟩ : ∃ O, onesSum L = O := ⟨_, rfl⟩
  rw [hO] at HW2 HR
  have HO := Lib.hid hO
  clear hp hk hl hm hr hs hz0 hz1 hsz hL hT hO
  have q0 : Hid ((((w.alloc (.cells #[.int .i64 2, .int .i64 sport, .int .i64 dport, .int .i64 seq, .int .i64 ack, .int .i64 bits, .int .i64 window, .int .i64 urgent, .int .i64 ty, .int .i64 code, .int .i64 rest, .bool false, .slice A n c, .slice D m d] 36)).alloc (.cells #[.int .i64 s.k, .int .i64 s.a, .int .i64 s.b, .int .i64 s.c, .int .i64 s.d] 27)).alloc (.cells #[.int .i64 t.k, .int .i64 t.a, .int .i64 t.b, .int .i64 t.c, .int .i64 t.d] 27)).heap[w.heap.size]? = some (.cells #[.int .i64 2, .int .i64 sport, .int .i64 dport, .int .i64 seq, .int .i64 ack, .int .i64 bits, .int .i64 window, .int .i64 urgent, .int .i64 ty, .int .i64 code, .int .i64 rest, .bool false, .slice A n c, .slice D m d] 36)) := Lib.hid (by repeat (first | exact K.newAt (by first | rfl | (simp; done)) | refine K.oldAt (by first | (simp; done) | (simp; omega)) ?_))
  have q1 : Hid ((((w.alloc (.cells #[.int .i64 2, .int .i64 sport, .int .i64 dport, .int .i64 seq, .int .i64 ack, .int .i64 bits, .int .i64 window, .int .i64 urgent, .int .i64 ty, .int .i64 code, .int .i64 rest, .bool false, .slice A n c, .slice D m d] 36)).alloc (.cells #[.int .i64 s.k, .int .i64 s.a, .int .i64 s.b, .int .i64 s.c, .int .i64 s.d] 27)).alloc (.cells #[.int .i64 t.k, .int .i64 t.a, .int .i64 t.b, .int .i64 t.c, .int .i64 t.d] 27)).heap[w.heap.size + 1]? = some (.cells #[.int .i64 s.k, .int .i64 s.a, .int .i64 s.b, .int .i64 s.c, .int .i64 s.d] 27)) := Lib.hid (by repeat (first | exact K.newAt (by first | rfl | (simp; done)) | refine K.oldAt (by first | (simp; done) | (simp; omega)) ?_))
  have q2 : Hid ((((w.alloc (.cells #[.int .i64 2, .int .i64 sport, .int .i64 dport, .int .i64 seq, .int .i64 ack, .int .i64 bits, .int .i64 window, .int .i64 urgent, .int .i64 ty, .int .i64 code, .int .i64 rest, .bool false, .slice A n c, .slice D m d] 36)).alloc (.cells #[.int .i64 s.k, .int .i64 s.a, .int .i64 s.b, .int .i64 s.c, .int .i64 s.d] 27)).alloc (.cells #[.int .i64 t.k, .int .i64 t.a, .int .i64 t.b, .int .i64 t.c, .int .i64 t.d] 27)).heap[w.heap.size + 1 + 1]? = some (.cells #[.int .i64 t.k, .int .i64 t.a, .int .i64 t.b, .int .i64 t.c, .int .i64 t.d] 27)) := Lib.hid (by repeat (first | exact K.newAt (by first | rfl | (simp; done)) | refine K.oldAt (by first | (simp; done) | (simp; omega)) ?_))
  (try simp only at q0 q1 q2)
  have HB : Hid (Below w.heap.size w (((w.alloc (.cells #[.int .i64 2, .int .i64 sport, .int .i64 dport, .int .i64 seq, .int .i64 ack, .int .i64 bits, .int .i64 window, .int .i64 urgent, .int .i64 ty, .int .i64 code, .int .i64 rest, .bool false, .slice A n c, .slice D m d] 36)).alloc (.cells #[.int .i64 s.k, .int .i64 s.a, .int .i64 s.b, .int .i64 s.c, .int .i64 s.d] 27)).alloc (.cells #[.int .i64 t.k, .int .i64 t.a, .int .i64 t.b, .int .i64 t.c, .int .i64 t.d] 27))) := Lib.hid (by go_grown)
  (try simp only at HB)
  go_enter Try.func26, Try.ntmps26
  go_wp2_with (first | (with_reducible refine loadA rfl _ rfl (w.heap.size + 1) rfl q1.out ?_) | (with_reducible refine loadA rfl _ rfl (w.heap.size + 2) rfl q2.out ?_))
  refine Calls.mono (pairSB s t true HP.out _) ?_
  rintro e w1 ⟨rfl, b1⟩
  have B1 := Lib.hid (bthen HB.out b1)
  have p0 := Lib.hid (K.below b1 q0.out)
  have p1 := Lib.hid (K.below b1 q1.out)
  have p2 := Lib.hid (K.below b1 q2.out)
  clear b1 q0 q1 q2 HB
  obtain ⟨c_0, c_1, c_2, c_3, c_4, c_5, c_6, c_7, c_8, c_9, c_10, c_11, c_12, c_13⟩ := K.cells14 p0.out
  have d_0 := K.cell p1.out 0 _ rfl
  go_wp2_with fail
  clear c_0 c_1 c_2 c_3 c_4 c_5 c_6 c_7 c_8 c_9 c_10 c_11 c_12 c_13
  clear d_0
  refine Calls.mono (okSB (Uh.mk 2 sport dport seq ack bits window urgent ty code rest false) A D n c m d s.k true HK.out hn hm2 _) ?_
  rintro e w2 ⟨rfl, b2⟩
  have B2 := Lib.hid (bthen B1.out b2)
  have r0 := Lib.hid (K.below b2 p0.out)
  have r1 := Lib.hid (K.below b2 p1.out)
  have r2 := Lib.hid (K.below b2 p2.out)
  clear b2 p0 p1 p2 B1
  have e0 := K.cell r0.out 0 _ rfl
  have e1 := K.cell r0.out 11 _ rfl
  have f_k := K.cell r1.out 0 _ rfl
  go_wp2_with fail
  clear e0 e1 f_k
  refine wp_region_owns (by kernel_rfl) 5 68 [(0, 40), (1, 41), (2, 42), (3, 43), (4, 44)] _ ([.val (.agg #[.int .i64 s.k, .int .i64 s.a, .int .i64 s.b, .int .i64 s.c, .int .i64 s.d]), .val (.agg #[.int .i64 t.k, .int .i64 t.a, .int .i64 t.b, .int .i64 t.c, .int .i64 t.d]), .val (.agg #[.int .i64 2, .int .i64 sport, .int .i64 dport, .int .i64 seq, .int .i64 ack, .int .i64 bits, .int .i64 window, .int .i64 urgent, .int .i64 ty, .int .i64 code, .int .i64 rest, .bool false, .slice A n c, .slice D m d]), .val (.int .i64 (8 + (m : Int))), .val (.int .i64 T)]) (by kernel_rfl) (by kernel_rfl) rfl rfl ?_ ?_
  · intro j o hj ho a' v K' hx hnd hB hK
    match j, hj, ho with
    | 0, _, ho =>
      obtain rfl := Option.some.inj ho
      have h0 : a'.eval (.tmp 4) = .pointer (some ⟨w.heap.size + 1, 0, none⟩) := (hx 4 (by decide)).trans rfl
      exact wp_load_row 27 _ rfl (w.heap.size + 1) h0 _ _ (0, 0) _ (K.below hB r1.out) Try.underlying27 rfl info_addrP (hK _ _ rfl (Below.refl _ _))
    | 1, _, ho =>
      obtain rfl := Option.some.inj ho
      have h0 : a'.eval (.tmp 5) = .pointer (some ⟨w.heap.size + 2, 0, none⟩) := (hx 5 (by decide)).trans rfl
      exact wp_load_row 27 _ rfl (w.heap.size + 2) h0 _ _ (0, 0) _ (K.below hB r2.out) Try.underlying27 rfl info_addrP (hK _ _ rfl (Below.refl _ _))
    | 2, _, ho =>
      obtain rfl := Option.some.inj ho
      have h0 : a'.eval (.tmp 3) = .pointer (some ⟨w.heap.size, 0, none⟩) := (hx 3 (by decide)).trans rfl
      exact wp_load_row 36 _ rfl (w.heap.size) h0 _ _ (0, 0) _ (K.below hB r0.out) Try.underlying36 rfl info_up (hK _ _ rfl (Below.refl _ _))
    | 3, _, ho =>
      obtain rfl := Option.some.inj ho
      have h0 : a'.eval (.tmp 42) = .agg #[.int .i64 2, .int .i64 sport, .int .i64 dport, .int .i64 seq, .int .i64 ack, .int .i64 bits, .int .i64 window, .int .i64 urgent, .int .i64 ty, .int .i64 code, .int .i64 rest, .bool false, .slice A n c, .slice D m d] := (owns_of hnd 2 42 (by kernel_rfl) :)
      refine u_upSizeS _ _ _ rfl h0 (Calls.mono (specUpSize (Uh.mk 2 sport dport seq ack bits window urgent ty code rest false) A D n c m d v (by omega) (by omega)) ?_)
      rintro e' v' ⟨rfl, b6⟩
      exact ⟨_, rfl, hK _ _ rfl b6⟩
    | 4, _, ho =>
      obtain rfl := Option.some.inj ho
      have h0 : a'.eval (.tmp 40) = .agg #[.int .i64 s.k, .int .i64 s.a, .int .i64 s.b, .int .i64 s.c, .int .i64 s.d] := (owns_of hnd 0 40 (by kernel_rfl) :)
      have h1 : a'.eval (.tmp 41) = .agg #[.int .i64 t.k, .int .i64 t.a, .int .i64 t.b, .int .i64 t.c, .int .i64 t.d] := (owns_of hnd 1 41 (by kernel_rfl) :)
      have h2 : a'.eval (.tmp 43) = .int .i64 (8 + (m : Int)) := (owns_of hnd 3 43 (by kernel_rfl) :)
      refine u_psS4 _ _ _ _ _ _ _ _ _ rfl h0 h1 rfl h2 (Calls.mono (psS s t 17 (8 + (m : Int)) v) ?_)
      rintro e' v' ⟨rfl, b6⟩
      exact ⟨_, rfl, hK _ _ (by rw [← HT.out]; rfl) b6⟩
    | j + 5, hj, _ => omega
  · intro f v hf hB
    have e0 : f 0 = (.agg #[.int .i64 s.k, .int .i64 s.a, .int .i64 s.b, .int .i64 s.c, .int .i64 s.d]) := hf (0, 40) (by decide)
    have e1 : f 1 = (.agg #[.int .i64 t.k, .int .i64 t.a, .int .i64 t.b, .int .i64 t.c, .int .i64 t.d]) := hf (1, 41) (by decide)
    have e2 : f 2 = (.agg #[.int .i64 2, .int .i64 sport, .int .i64 dport, .int .i64 seq, .int .i64 ack, .int .i64 bits, .int .i64 window, .int .i64 urgent, .int .i64 ty, .int .i64 code, .int .i64 rest, .bool false, .slice A n c, .slice D m d]) := hf (2, 42) (by decide)
    have e3 : f 3 = (.int .i64 (8 + (m : Int))) := hf (3, 43) (by decide)
    have e4 : f 4 = (.int .i64 T) := hf (4, 44) (by decide)
    simp only [List.foldl_cons, List.foldl_nil, List.drop_succ_cons, List.drop_zero, e0, e1, e2, e3, e4]
    clear e0 e1 e2 e3 e4 hf
    go_simp
    have B3 := Lib.hid (bthen B2.out hB)
    have r3 := Lib.hid (K.below hB r0.out)
    clear hB
    go_wp2_with (with_reducible refine loadU rfl _ rfl w.heap.size rfl r3.out ?_)
    refine Calls.mono (encS (Uh.mk 2 sport dport seq ack bits window urgent ty code rest false) s.k 0 A D n c m d os bs _ ((HA.out.below B3.out).more B3.out.size) HL.out ((HD.out.below B3.out).more B3.out.size) HM.out HK.out) ?_
    rintro e w4 ⟨X4, y4, rfl, o4, b4⟩
    rw [HEN.out] at o4 ⊢
    have R4 := Lib.hid (RB.of_own o4)
    have B4 := Lib.hid (bthen B3.out b4)
    have r4 := Lib.hid (K.below b4 r3.out)
    clear o4 b4 r3
    go_wp2_with fail
    refine Calls.mono (specOnes X4 L.length y4 L _ R4.out rfl (by have := HLE.out; have := HS.out; omega)) ?_
    rintro e w5 ⟨rfl, rfl⟩
    rw [HO.out]
    go_wp2_with fail
    refine Calls.mono (specAddW T O _ HW1.out HW2.out) ?_
    rintro e w5 ⟨rfl, rfl⟩
    have f0 := K.cell r4.out 0 _ rfl
    have hw := isWord_iff.1 (sadd_word HW1.out HW2.out)
    have HU := Lib.hid (HR.out)
    generalize sadd T O = z at hw HU ⊢
    have HB9 := B4
    by_cases hz : 65535 - z = 0
    · have HV := Lib.hid (show Uh.sum (Uh.mk 2 sport dport seq ack bits window urgent ty code rest false) os bs s t = 65535 by rw [HU.out]; simp [udp0, hz])
      clear HU
      go_wp2
      go_ret
      exact ⟨ret_int HV.out.symm, HB9.out⟩
    · have HV := Lib.hid (show Uh.sum (Uh.mk 2 sport dport seq ack bits window urgent ty code rest false) os bs s t = 65535 - z by rw [HU.out]; simp [udp0, hz])
      clear HU
      go_wp2
      go_ret
      exact ⟨ret_int HV.out.symm, HB9.out⟩

set_option maxHeartbeats 4000000 in
theorem usS_y3_4 (sport dport seq ack bits window urgent ty code rest : Int) (sa sb sc sd : Int) (t : Ad) (A D : Option Addr) (n c m d : Nat) (os bs : List UInt8) (w : World) (hr : RB w w.heap.size A os) (hl : os.length = n) (hs : RB w w.heap.size D bs) (hm : bs.length = m) (hp : pairA (Ad.mk 4 sa sb sc sd) t = true) (hk : Uh.ok (Uh.mk 3 sport dport seq ack bits window urgent ty code rest false) (Ad.mk 4 sa sb sc sd).k n m = true) : Calls Try.prog 26 #[.agg #[.int .i64 3, .int .i64 sport, .int .i64 dport, .int .i64 seq, .int .i64 ack, .int .i64 bits, .int .i64 window, .int .i64 urgent, .int .i64 ty, .int .i64 code, .int .i64 rest, .bool false, .slice A n c, .slice D m d], .agg #[.int .i64 (Ad.mk 4 sa sb sc sd).k, .int .i64 (Ad.mk 4 sa sb sc sd).a, .int .i64 (Ad.mk 4 sa sb sc sd).b, .int .i64 (Ad.mk 4 sa sb sc sd).c, .int .i64 (Ad.mk 4 sa sb sc sd).d], .agg #[.int .i64 t.k, .int .i64 t.a, .int .i64 t.b, .int .i64 t.c, .int .i64 t.d]] w fun e w' => e = .returned (.int .i64 (Uh.sum (Uh.mk 3 sport dport seq ack bits window urgent ty code rest false) os bs (Ad.mk 4 sa sb sc sd) t)) ∧ Below w.heap.size w w' := by
  have HP := Lib.hid hp
  have HK := Lib.hid hk
  obtain ⟨hn, _, hm3, hz0, hz1⟩ := Uh.ok_room hk
  have hm2 : m ≤ 1048576 := by omega
  have hn4 : n ≤ 40 := hn
  replace hn : n ≤ 1048576 := by omega
  have HW1 := Lib.hid (Uh.top_word hp hk)
  have HW2 : Hid (isWord (onesSum (Uh.enc (Uh.mk 3 sport dport seq ack bits window urgent ty code rest false) os bs 0)) = true) := Lib.hid (Uh.enc_word (x := (Uh.mk 3 sport dport seq ack bits window urgent ty code rest false)) (k := (Ad.mk 4 sa sb sc sd).k) (o := os) (bs := bs) (by rw [hl, hm]; exact hk) 0)
  have HR := Lib.hid (Uh.sum_yes (x := (Uh.mk 3 sport dport seq ack bits window urgent ty code rest false)) (o := os) (bs := bs) (a := (Ad.mk 4 sa sb sc sd)) (b := t) (by rw [hl, hm, hk, hp]; rfl) (by simp))
  rw [hl, hm] at HR
  have HLE := Lib.hid (Uh.enc_len (Uh.mk 3 sport dport seq ack bits window urgent ty code rest false) os bs 0 (by simp))
  rw [hl, hm] at HLE
  have HA := Lib.hid hr
  have HD := Lib.hid hs
  have HL := Lib.hid hl
  have HM := Lib.hid hm
  have hsz : Uh.size (Uh.mk 3 sport dport seq ack bits window urgent ty code rest false) n m = 8 + (m : Int) := rfl
  rw [hsz] at hz0 hz1 HLE
  have HT := Lib.hid (show Uh.top (Uh.mk 3 sport dport seq ack bits window urgent ty code rest false) n m (Ad.mk 4 sa sb sc sd) t = 0 by simp [Uh.top])
  have HS := Lib.hid (And.intro hz0 hz1)
  obtain ⟨L, hL⟩ : ∃ L, Uh.enc (Uh.mk 3 sport dport seq ack bits window urgent ty code rest false) os bs 0 = L := ⟨_, rfl⟩
  rw [hL] at HW2 HR HLE
  have HEN := Lib.hid hL
  obtain ⟨T, hT⟩ : ∃ T, Uh.top (Uh.mk 3 sport dport seq ack bits window urgent ty code rest false) n m (Ad.mk 4 sa sb sc sd) t = T := ⟨_, rfl⟩
  rw [hT] at HW1 HR HT
  have HTT := Lib.hid hT
  obtain ⟨O, hO⟩ : ∃ O, onesSum L = O := ⟨_, rfl⟩
  rw [hO] at HW2 HR
  have HO := Lib.hid hO
  clear hp hk hl hm hr hs hz0 hz1 hsz hL hT hO
  have q0 : Hid ((((w.alloc (.cells #[.int .i64 3, .int .i64 sport, .int .i64 dport, .int .i64 seq, .int .i64 ack, .int .i64 bits, .int .i64 window, .int .i64 urgent, .int .i64 ty, .int .i64 code, .int .i64 rest, .bool false, .slice A n c, .slice D m d] 36)).alloc (.cells #[.int .i64 (Ad.mk 4 sa sb sc sd).k, .int .i64 (Ad.mk 4 sa sb sc sd).a, .int .i64 (Ad.mk 4 sa sb sc sd).b, .int .i64 (Ad.mk 4 sa sb sc sd).c, .int .i64 (Ad.mk 4 sa sb sc sd).d] 27)).alloc (.cells #[.int .i64 t.k, .int .i64 t.a, .int .i64 t.b, .int .i64 t.c, .int .i64 t.d] 27)).heap[w.heap.size]? = some (.cells #[.int .i64 3, .int .i64 sport, .int .i64 dport, .int .i64 seq, .int .i64 ack, .int .i64 bits, .int .i64 window, .int .i64 urgent, .int .i64 ty, .int .i64 code, .int .i64 rest, .bool false, .slice A n c, .slice D m d] 36)) := Lib.hid (by repeat (first | exact K.newAt (by first | rfl | (simp; done)) | refine K.oldAt (by first | (simp; done) | (simp; omega)) ?_))
  have q1 : Hid ((((w.alloc (.cells #[.int .i64 3, .int .i64 sport, .int .i64 dport, .int .i64 seq, .int .i64 ack, .int .i64 bits, .int .i64 window, .int .i64 urgent, .int .i64 ty, .int .i64 code, .int .i64 rest, .bool false, .slice A n c, .slice D m d] 36)).alloc (.cells #[.int .i64 (Ad.mk 4 sa sb sc sd).k, .int .i64 (Ad.mk 4 sa sb sc sd).a, .int .i64 (Ad.mk 4 sa sb sc sd).b, .int .i64 (Ad.mk 4 sa sb sc sd).c, .int .i64 (Ad.mk 4 sa sb sc sd).d] 27)).alloc (.cells #[.int .i64 t.k, .int .i64 t.a, .int .i64 t.b, .int .i64 t.c, .int .i64 t.d] 27)).heap[w.heap.size + 1]? = some (.cells #[.int .i64 (Ad.mk 4 sa sb sc sd).k, .int .i64 (Ad.mk 4 sa sb sc sd).a, .int .i64 (Ad.mk 4 sa sb sc sd).b, .int .i64 (Ad.mk 4 sa sb sc sd).c, .int .i64 (Ad.mk 4 sa sb sc sd).d] 27)) := Lib.hid (by repeat (first | exact K.newAt (by first | rfl | (simp; done)) | refine K.oldAt (by first | (simp; done) | (simp; omega)) ?_))
  have q2 : Hid ((((w.alloc (.cells #[.int .i64 3, .int .i64 sport, .int .i64 dport, .int .i64 seq, .int .i64 ack, .int .i64 bits, .int .i64 window, .int .i64 urgent, .int .i64 ty, .int .i64 code, .int .i64 rest, .bool false, .slice A n c, .slice D m d] 36)).alloc (.cells #[.int .i64 (Ad.mk 4 sa sb sc sd).k, .int .i64 (Ad.mk 4 sa sb sc sd).a, .int .i64 (Ad.mk 4 sa sb sc sd).b, .int .i64 (Ad.mk 4 sa sb sc sd).c, .int .i64 (Ad.mk 4 sa sb sc sd).d] 27)).alloc (.cells #[.int .i64 t.k, .int .i64 t.a, .int .i64 t.b, .int .i64 t.c, .int .i64 t.d] 27)).heap[w.heap.size + 1 + 1]? = some (.cells #[.int .i64 t.k, .int .i64 t.a, .int .i64 t.b, .int .i64 t.c, .int .i64 t.d] 27)) := Lib.hid (by repeat (first | exact K.newAt (by first | rfl | (simp; done)) | refine K.oldAt (by first | (simp; done) | (simp; omega)) ?_))
  (try simp only at q0 q1 q2)
  have HB : Hid (Below w.heap.size w (((w.alloc (.cells #[.int .i64 3, .int .i64 sport, .int .i64 dport, .int .i64 seq, .int .i64 ack, .int .i64 bits, .int .i64 window, .int .i64 urgent, .int .i64 ty, .int .i64 code, .int .i64 rest, .bool false, .slice A n c, .slice D m d] 36)).alloc (.cells #[.int .i64 (Ad.mk 4 sa sb sc sd).k, .int .i64 (Ad.mk 4 sa sb sc sd).a, .int .i64 (Ad.mk 4 sa sb sc sd).b, .int .i64 (Ad.mk 4 sa sb sc sd).c, .int .i64 (Ad.mk 4 sa sb sc sd).d] 27)).alloc (.cells #[.int .i64 t.k, .int .i64 t.a, .int .i64 t.b, .int .i64 t.c, .int .i64 t.d] 27))) := Lib.hid (by go_grown)
  (try simp only at HB)
  go_enter Try.func26, Try.ntmps26
  go_wp2_with (first | (with_reducible refine loadA rfl _ rfl (w.heap.size + 1) rfl q1.out ?_) | (with_reducible refine loadA rfl _ rfl (w.heap.size + 2) rfl q2.out ?_))
  refine Calls.mono (pairSB (Ad.mk 4 sa sb sc sd) t true HP.out _) ?_
  rintro e w1 ⟨rfl, b1⟩
  have B1 := Lib.hid (bthen HB.out b1)
  have p0 := Lib.hid (K.below b1 q0.out)
  have p1 := Lib.hid (K.below b1 q1.out)
  have p2 := Lib.hid (K.below b1 q2.out)
  clear b1 q0 q1 q2 HB
  obtain ⟨c_0, c_1, c_2, c_3, c_4, c_5, c_6, c_7, c_8, c_9, c_10, c_11, c_12, c_13⟩ := K.cells14 p0.out
  have d_0 := K.cell p1.out 0 _ rfl
  go_wp2_with fail
  clear c_0 c_1 c_2 c_3 c_4 c_5 c_6 c_7 c_8 c_9 c_10 c_11 c_12 c_13
  clear d_0
  refine Calls.mono (okSB (Uh.mk 3 sport dport seq ack bits window urgent ty code rest false) A D n c m d (Ad.mk 4 sa sb sc sd).k true HK.out hn hm2 _) ?_
  rintro e w2 ⟨rfl, b2⟩
  have B2 := Lib.hid (bthen B1.out b2)
  have r0 := Lib.hid (K.below b2 p0.out)
  have r1 := Lib.hid (K.below b2 p1.out)
  have r2 := Lib.hid (K.below b2 p2.out)
  clear b2 p0 p1 p2 B1
  have e0 := K.cell r0.out 0 _ rfl
  have e1 := K.cell r0.out 11 _ rfl
  have f_k := K.cell r1.out 0 _ rfl
  go_wp2_with (with_reducible refine loadU rfl _ rfl w.heap.size rfl r0.out ?_)
  clear e0 e1 f_k
  have B3 := B2
  have r3 := r0
  refine Calls.mono (encS (Uh.mk 3 sport dport seq ack bits window urgent ty code rest false) (Ad.mk 4 sa sb sc sd).k 0 A D n c m d os bs _ ((HA.out.below B3.out).more B3.out.size) HL.out ((HD.out.below B3.out).more B3.out.size) HM.out HK.out) ?_
  rintro e w4 ⟨X4, y4, rfl, o4, b4⟩
  rw [HEN.out] at o4 ⊢
  have R4 := Lib.hid (RB.of_own o4)
  have B4 := Lib.hid (bthen B3.out b4)
  have r4 := Lib.hid (K.below b4 r3.out)
  clear o4 b4 r3
  go_wp2_with fail
  refine Calls.mono (specOnes X4 L.length y4 L _ R4.out rfl (by have := HLE.out; have := HS.out; omega)) ?_
  rintro e w5 ⟨rfl, rfl⟩
  rw [HO.out]
  go_wp2_with fail
  refine Calls.mono (specAddW 0 O _ (by rfl) HW2.out) ?_
  rintro e w5 ⟨rfl, rfl⟩
  have f0 := K.cell r4.out 0 _ rfl
  rw [show (0 : Int) = T from HT.out.symm]
  have hw := isWord_iff.1 (sadd_word HW1.out HW2.out)
  have HU := Lib.hid (HR.out)
  generalize sadd T O = z at hw HU ⊢
  have HB9 := B4
  by_cases hz : 65535 - z = 0
  · have HV := Lib.hid (show Uh.sum (Uh.mk 3 sport dport seq ack bits window urgent ty code rest false) os bs (Ad.mk 4 sa sb sc sd) t = 0 by rw [HU.out]; simp [udp0, hz])
    clear HU
    go_wp2
    go_ret
    exact ⟨ret_int HV.out.symm, HB9.out⟩
  · have HV := Lib.hid (show Uh.sum (Uh.mk 3 sport dport seq ack bits window urgent ty code rest false) os bs (Ad.mk 4 sa sb sc sd) t = 65535 - z by rw [HU.out]; simp [udp0])
    clear HU
    go_wp2
    go_ret
    exact ⟨ret_int HV.out.symm, HB9.out⟩

set_option maxHeartbeats 4000000 in
theorem usS_y3_6 (sport dport seq ack bits window urgent ty code rest : Int) (sa sb sc sd : Int) (t : Ad) (A D : Option Addr) (n c m d : Nat) (os bs : List UInt8) (w : World) (hr : RB w w.heap.size A os) (hl : os.length = n) (hs : RB w w.heap.size D bs) (hm : bs.length = m) (hp : pairA (Ad.mk 6 sa sb sc sd) t = true) (hk : Uh.ok (Uh.mk 3 sport dport seq ack bits window urgent ty code rest false) (Ad.mk 6 sa sb sc sd).k n m = true) : Calls Try.prog 26 #[.agg #[.int .i64 3, .int .i64 sport, .int .i64 dport, .int .i64 seq, .int .i64 ack, .int .i64 bits, .int .i64 window, .int .i64 urgent, .int .i64 ty, .int .i64 code, .int .i64 rest, .bool false, .slice A n c, .slice D m d], .agg #[.int .i64 (Ad.mk 6 sa sb sc sd).k, .int .i64 (Ad.mk 6 sa sb sc sd).a, .int .i64 (Ad.mk 6 sa sb sc sd).b, .int .i64 (Ad.mk 6 sa sb sc sd).c, .int .i64 (Ad.mk 6 sa sb sc sd).d], .agg #[.int .i64 t.k, .int .i64 t.a, .int .i64 t.b, .int .i64 t.c, .int .i64 t.d]] w fun e w' => e = .returned (.int .i64 (Uh.sum (Uh.mk 3 sport dport seq ack bits window urgent ty code rest false) os bs (Ad.mk 6 sa sb sc sd) t)) ∧ Below w.heap.size w w' := by
  have HP := Lib.hid hp
  have HK := Lib.hid hk
  obtain ⟨hn, _, hm3, hz0, hz1⟩ := Uh.ok_room hk
  have hm2 : m ≤ 1048576 := by omega
  have hn4 : n ≤ 40 := hn
  replace hn : n ≤ 1048576 := by omega
  have HW1 := Lib.hid (Uh.top_word hp hk)
  have HW2 : Hid (isWord (onesSum (Uh.enc (Uh.mk 3 sport dport seq ack bits window urgent ty code rest false) os bs 0)) = true) := Lib.hid (Uh.enc_word (x := (Uh.mk 3 sport dport seq ack bits window urgent ty code rest false)) (k := (Ad.mk 6 sa sb sc sd).k) (o := os) (bs := bs) (by rw [hl, hm]; exact hk) 0)
  have HR := Lib.hid (Uh.sum_yes (x := (Uh.mk 3 sport dport seq ack bits window urgent ty code rest false)) (o := os) (bs := bs) (a := (Ad.mk 6 sa sb sc sd)) (b := t) (by rw [hl, hm, hk, hp]; rfl) (by simp))
  rw [hl, hm] at HR
  have HLE := Lib.hid (Uh.enc_len (Uh.mk 3 sport dport seq ack bits window urgent ty code rest false) os bs 0 (by simp))
  rw [hl, hm] at HLE
  have HA := Lib.hid hr
  have HD := Lib.hid hs
  have HL := Lib.hid hl
  have HM := Lib.hid hm
  have hsz : Uh.size (Uh.mk 3 sport dport seq ack bits window urgent ty code rest false) n m = 8 + (m : Int) := rfl
  rw [hsz] at hz0 hz1 HLE
  have HT := Lib.hid (show Uh.top (Uh.mk 3 sport dport seq ack bits window urgent ty code rest false) n m (Ad.mk 6 sa sb sc sd) t = psSum (Ad.mk 6 sa sb sc sd) t 58 (8 + (m : Int)) by simp [Uh.top, Uh.size])
  have HS := Lib.hid (And.intro hz0 hz1)
  obtain ⟨L, hL⟩ : ∃ L, Uh.enc (Uh.mk 3 sport dport seq ack bits window urgent ty code rest false) os bs 0 = L := ⟨_, rfl⟩
  rw [hL] at HW2 HR HLE
  have HEN := Lib.hid hL
  obtain ⟨T, hT⟩ : ∃ T, Uh.top (Uh.mk 3 sport dport seq ack bits window urgent ty code rest false) n m (Ad.mk 6 sa sb sc sd) t = T := ⟨_, rfl⟩
  rw [hT] at HW1 HR HT
  have HTT := Lib.hid hT
  obtain ⟨O, hO⟩ : ∃ O, onesSum L = O := ⟨_, rfl⟩
  rw [hO] at HW2 HR
  have HO := Lib.hid hO
  clear hp hk hl hm hr hs hz0 hz1 hsz hL hT hO
  have q0 : Hid ((((w.alloc (.cells #[.int .i64 3, .int .i64 sport, .int .i64 dport, .int .i64 seq, .int .i64 ack, .int .i64 bits, .int .i64 window, .int .i64 urgent, .int .i64 ty, .int .i64 code, .int .i64 rest, .bool false, .slice A n c, .slice D m d] 36)).alloc (.cells #[.int .i64 (Ad.mk 6 sa sb sc sd).k, .int .i64 (Ad.mk 6 sa sb sc sd).a, .int .i64 (Ad.mk 6 sa sb sc sd).b, .int .i64 (Ad.mk 6 sa sb sc sd).c, .int .i64 (Ad.mk 6 sa sb sc sd).d] 27)).alloc (.cells #[.int .i64 t.k, .int .i64 t.a, .int .i64 t.b, .int .i64 t.c, .int .i64 t.d] 27)).heap[w.heap.size]? = some (.cells #[.int .i64 3, .int .i64 sport, .int .i64 dport, .int .i64 seq, .int .i64 ack, .int .i64 bits, .int .i64 window, .int .i64 urgent, .int .i64 ty, .int .i64 code, .int .i64 rest, .bool false, .slice A n c, .slice D m d] 36)) := Lib.hid (by repeat (first | exact K.newAt (by first | rfl | (simp; done)) | refine K.oldAt (by first | (simp; done) | (simp; omega)) ?_))
  have q1 : Hid ((((w.alloc (.cells #[.int .i64 3, .int .i64 sport, .int .i64 dport, .int .i64 seq, .int .i64 ack, .int .i64 bits, .int .i64 window, .int .i64 urgent, .int .i64 ty, .int .i64 code, .int .i64 rest, .bool false, .slice A n c, .slice D m d] 36)).alloc (.cells #[.int .i64 (Ad.mk 6 sa sb sc sd).k, .int .i64 (Ad.mk 6 sa sb sc sd).a, .int .i64 (Ad.mk 6 sa sb sc sd).b, .int .i64 (Ad.mk 6 sa sb sc sd).c, .int .i64 (Ad.mk 6 sa sb sc sd).d] 27)).alloc (.cells #[.int .i64 t.k, .int .i64 t.a, .int .i64 t.b, .int .i64 t.c, .int .i64 t.d] 27)).heap[w.heap.size + 1]? = some (.cells #[.int .i64 (Ad.mk 6 sa sb sc sd).k, .int .i64 (Ad.mk 6 sa sb sc sd).a, .int .i64 (Ad.mk 6 sa sb sc sd).b, .int .i64 (Ad.mk 6 sa sb sc sd).c, .int .i64 (Ad.mk 6 sa sb sc sd).d] 27)) := Lib.hid (by repeat (first | exact K.newAt (by first | rfl | (simp; done)) | refine K.oldAt (by first | (simp; done) | (simp; omega)) ?_))
  have q2 : Hid ((((w.alloc (.cells #[.int .i64 3, .int .i64 sport, .int .i64 dport, .int .i64 seq, .int .i64 ack, .int .i64 bits, .int .i64 window, .int .i64 urgent, .int .i64 ty, .int .i64 code, .int .i64 rest, .bool false, .slice A n c, .slice D m d] 36)).alloc (.cells #[.int .i64 (Ad.mk 6 sa sb sc sd).k, .int .i64 (Ad.mk 6 sa sb sc sd).a, .int .i64 (Ad.mk 6 sa sb sc sd).b, .int .i64 (Ad.mk 6 sa sb sc sd).c, .int .i64 (Ad.mk 6 sa sb sc sd).d] 27)).alloc (.cells #[.int .i64 t.k, .int .i64 t.a, .int .i64 t.b, .int .i64 t.c, .int .i64 t.d] 27)).heap[w.heap.size + 1 + 1]? = some (.cells #[.int .i64 t.k, .int .i64 t.a, .int .i64 t.b, .int .i64 t.c, .int .i64 t.d] 27)) := Lib.hid (by repeat (first | exact K.newAt (by first | rfl | (simp; done)) | refine K.oldAt (by first | (simp; done) | (simp; omega)) ?_))
  (try simp only at q0 q1 q2)
  have HB : Hid (Below w.heap.size w (((w.alloc (.cells #[.int .i64 3, .int .i64 sport, .int .i64 dport, .int .i64 seq, .int .i64 ack, .int .i64 bits, .int .i64 window, .int .i64 urgent, .int .i64 ty, .int .i64 code, .int .i64 rest, .bool false, .slice A n c, .slice D m d] 36)).alloc (.cells #[.int .i64 (Ad.mk 6 sa sb sc sd).k, .int .i64 (Ad.mk 6 sa sb sc sd).a, .int .i64 (Ad.mk 6 sa sb sc sd).b, .int .i64 (Ad.mk 6 sa sb sc sd).c, .int .i64 (Ad.mk 6 sa sb sc sd).d] 27)).alloc (.cells #[.int .i64 t.k, .int .i64 t.a, .int .i64 t.b, .int .i64 t.c, .int .i64 t.d] 27))) := Lib.hid (by go_grown)
  (try simp only at HB)
  go_enter Try.func26, Try.ntmps26
  go_wp2_with (first | (with_reducible refine loadA rfl _ rfl (w.heap.size + 1) rfl q1.out ?_) | (with_reducible refine loadA rfl _ rfl (w.heap.size + 2) rfl q2.out ?_))
  refine Calls.mono (pairSB (Ad.mk 6 sa sb sc sd) t true HP.out _) ?_
  rintro e w1 ⟨rfl, b1⟩
  have B1 := Lib.hid (bthen HB.out b1)
  have p0 := Lib.hid (K.below b1 q0.out)
  have p1 := Lib.hid (K.below b1 q1.out)
  have p2 := Lib.hid (K.below b1 q2.out)
  clear b1 q0 q1 q2 HB
  obtain ⟨c_0, c_1, c_2, c_3, c_4, c_5, c_6, c_7, c_8, c_9, c_10, c_11, c_12, c_13⟩ := K.cells14 p0.out
  have d_0 := K.cell p1.out 0 _ rfl
  go_wp2_with fail
  clear c_0 c_1 c_2 c_3 c_4 c_5 c_6 c_7 c_8 c_9 c_10 c_11 c_12 c_13
  clear d_0
  refine Calls.mono (okSB (Uh.mk 3 sport dport seq ack bits window urgent ty code rest false) A D n c m d (Ad.mk 6 sa sb sc sd).k true HK.out hn hm2 _) ?_
  rintro e w2 ⟨rfl, b2⟩
  have B2 := Lib.hid (bthen B1.out b2)
  have r0 := Lib.hid (K.below b2 p0.out)
  have r1 := Lib.hid (K.below b2 p1.out)
  have r2 := Lib.hid (K.below b2 p2.out)
  clear b2 p0 p1 p2 B1
  have e0 := K.cell r0.out 0 _ rfl
  have e1 := K.cell r0.out 11 _ rfl
  have f_k := K.cell r1.out 0 _ rfl
  go_wp2_with fail
  clear e0 e1 f_k
  refine wp_region_owns (by kernel_rfl) 5 68 [(0, 49), (1, 50), (2, 51), (3, 52), (4, 53)] _ ([.val (.agg #[.int .i64 (Ad.mk 6 sa sb sc sd).k, .int .i64 (Ad.mk 6 sa sb sc sd).a, .int .i64 (Ad.mk 6 sa sb sc sd).b, .int .i64 (Ad.mk 6 sa sb sc sd).c, .int .i64 (Ad.mk 6 sa sb sc sd).d]), .val (.agg #[.int .i64 t.k, .int .i64 t.a, .int .i64 t.b, .int .i64 t.c, .int .i64 t.d]), .val (.agg #[.int .i64 3, .int .i64 sport, .int .i64 dport, .int .i64 seq, .int .i64 ack, .int .i64 bits, .int .i64 window, .int .i64 urgent, .int .i64 ty, .int .i64 code, .int .i64 rest, .bool false, .slice A n c, .slice D m d]), .val (.int .i64 (8 + (m : Int))), .val (.int .i64 T)]) (by kernel_rfl) (by kernel_rfl) rfl rfl ?_ ?_
  · intro j o hj ho a' v K' hx hnd hB hK
    match j, hj, ho with
    | 0, _, ho =>
      obtain rfl := Option.some.inj ho
      have h0 : a'.eval (.tmp 4) = .pointer (some ⟨w.heap.size + 1, 0, none⟩) := (hx 4 (by decide)).trans rfl
      exact wp_load_row 27 _ rfl (w.heap.size + 1) h0 _ _ (0, 0) _ (K.below hB r1.out) Try.underlying27 rfl info_addrP (hK _ _ rfl (Below.refl _ _))
    | 1, _, ho =>
      obtain rfl := Option.some.inj ho
      have h0 : a'.eval (.tmp 5) = .pointer (some ⟨w.heap.size + 2, 0, none⟩) := (hx 5 (by decide)).trans rfl
      exact wp_load_row 27 _ rfl (w.heap.size + 2) h0 _ _ (0, 0) _ (K.below hB r2.out) Try.underlying27 rfl info_addrP (hK _ _ rfl (Below.refl _ _))
    | 2, _, ho =>
      obtain rfl := Option.some.inj ho
      have h0 : a'.eval (.tmp 3) = .pointer (some ⟨w.heap.size, 0, none⟩) := (hx 3 (by decide)).trans rfl
      exact wp_load_row 36 _ rfl (w.heap.size) h0 _ _ (0, 0) _ (K.below hB r0.out) Try.underlying36 rfl info_up (hK _ _ rfl (Below.refl _ _))
    | 3, _, ho =>
      obtain rfl := Option.some.inj ho
      have h0 : a'.eval (.tmp 51) = .agg #[.int .i64 3, .int .i64 sport, .int .i64 dport, .int .i64 seq, .int .i64 ack, .int .i64 bits, .int .i64 window, .int .i64 urgent, .int .i64 ty, .int .i64 code, .int .i64 rest, .bool false, .slice A n c, .slice D m d] := (owns_of hnd 2 51 (by kernel_rfl) :)
      refine u_upSizeS _ _ _ rfl h0 (Calls.mono (specUpSize (Uh.mk 3 sport dport seq ack bits window urgent ty code rest false) A D n c m d v (by omega) (by omega)) ?_)
      rintro e' v' ⟨rfl, b6⟩
      exact ⟨_, rfl, hK _ _ rfl b6⟩
    | 4, _, ho =>
      obtain rfl := Option.some.inj ho
      have h0 : a'.eval (.tmp 49) = .agg #[.int .i64 (Ad.mk 6 sa sb sc sd).k, .int .i64 (Ad.mk 6 sa sb sc sd).a, .int .i64 (Ad.mk 6 sa sb sc sd).b, .int .i64 (Ad.mk 6 sa sb sc sd).c, .int .i64 (Ad.mk 6 sa sb sc sd).d] := (owns_of hnd 0 49 (by kernel_rfl) :)
      have h1 : a'.eval (.tmp 50) = .agg #[.int .i64 t.k, .int .i64 t.a, .int .i64 t.b, .int .i64 t.c, .int .i64 t.d] := (owns_of hnd 1 50 (by kernel_rfl) :)
      have h2 : a'.eval (.tmp 52) = .int .i64 (8 + (m : Int)) := (owns_of hnd 3 52 (by kernel_rfl) :)
      refine u_psS4 _ _ _ _ _ _ _ _ _ rfl h0 h1 rfl h2 (Calls.mono (psS (Ad.mk 6 sa sb sc sd) t 58 (8 + (m : Int)) v) ?_)
      rintro e' v' ⟨rfl, b6⟩
      exact ⟨_, rfl, hK _ _ (by rw [← HT.out]; rfl) b6⟩
    | j + 5, hj, _ => omega
  · intro f v hf hB
    have e0 : f 0 = (.agg #[.int .i64 (Ad.mk 6 sa sb sc sd).k, .int .i64 (Ad.mk 6 sa sb sc sd).a, .int .i64 (Ad.mk 6 sa sb sc sd).b, .int .i64 (Ad.mk 6 sa sb sc sd).c, .int .i64 (Ad.mk 6 sa sb sc sd).d]) := hf (0, 49) (by decide)
    have e1 : f 1 = (.agg #[.int .i64 t.k, .int .i64 t.a, .int .i64 t.b, .int .i64 t.c, .int .i64 t.d]) := hf (1, 50) (by decide)
    have e2 : f 2 = (.agg #[.int .i64 3, .int .i64 sport, .int .i64 dport, .int .i64 seq, .int .i64 ack, .int .i64 bits, .int .i64 window, .int .i64 urgent, .int .i64 ty, .int .i64 code, .int .i64 rest, .bool false, .slice A n c, .slice D m d]) := hf (2, 51) (by decide)
    have e3 : f 3 = (.int .i64 (8 + (m : Int))) := hf (3, 52) (by decide)
    have e4 : f 4 = (.int .i64 T) := hf (4, 53) (by decide)
    simp only [List.foldl_cons, List.foldl_nil, List.drop_succ_cons, List.drop_zero, e0, e1, e2, e3, e4]
    clear e0 e1 e2 e3 e4 hf
    go_simp
    have B3 := Lib.hid (bthen B2.out hB)
    have r3 := Lib.hid (K.below hB r0.out)
    clear hB
    go_wp2_with (with_reducible refine loadU rfl _ rfl w.heap.size rfl r3.out ?_)
    refine Calls.mono (encS (Uh.mk 3 sport dport seq ack bits window urgent ty code rest false) (Ad.mk 6 sa sb sc sd).k 0 A D n c m d os bs _ ((HA.out.below B3.out).more B3.out.size) HL.out ((HD.out.below B3.out).more B3.out.size) HM.out HK.out) ?_
    rintro e w4 ⟨X4, y4, rfl, o4, b4⟩
    rw [HEN.out] at o4 ⊢
    have R4 := Lib.hid (RB.of_own o4)
    have B4 := Lib.hid (bthen B3.out b4)
    have r4 := Lib.hid (K.below b4 r3.out)
    clear o4 b4 r3
    go_wp2_with fail
    refine Calls.mono (specOnes X4 L.length y4 L _ R4.out rfl (by have := HLE.out; have := HS.out; omega)) ?_
    rintro e w5 ⟨rfl, rfl⟩
    rw [HO.out]
    go_wp2_with fail
    refine Calls.mono (specAddW T O _ HW1.out HW2.out) ?_
    rintro e w5 ⟨rfl, rfl⟩
    have f0 := K.cell r4.out 0 _ rfl
    have hw := isWord_iff.1 (sadd_word HW1.out HW2.out)
    have HU := Lib.hid (HR.out)
    generalize sadd T O = z at hw HU ⊢
    have HB9 := B4
    by_cases hz : 65535 - z = 0
    · have HV := Lib.hid (show Uh.sum (Uh.mk 3 sport dport seq ack bits window urgent ty code rest false) os bs (Ad.mk 6 sa sb sc sd) t = 0 by rw [HU.out]; simp [udp0, hz])
      clear HU
      go_wp2
      go_ret
      exact ⟨ret_int HV.out.symm, HB9.out⟩
    · have HV := Lib.hid (show Uh.sum (Uh.mk 3 sport dport seq ack bits window urgent ty code rest false) os bs (Ad.mk 6 sa sb sc sd) t = 65535 - z by rw [HU.out]; simp [udp0])
      clear HU
      go_wp2
      go_ret
      exact ⟨ret_int HV.out.symm, HB9.out⟩

theorem usS (x : Uh) (s t : Ad) (A D : Option Addr) (n c m d : Nat) (os bs : List UInt8) (w : World) (hr : RB w w.heap.size A os) (hl : os.length = n) (hs : RB w w.heap.size D bs) (hm : bs.length = m) (hn : n ≤ 1048576) (hm2 : m ≤ 1048576) : Calls Try.prog 26 #[.agg #[.int .i64 x.kind, .int .i64 x.sport, .int .i64 x.dport, .int .i64 x.seq, .int .i64 x.ack, .int .i64 x.bits, .int .i64 x.window, .int .i64 x.urgent, .int .i64 x.ty, .int .i64 x.code, .int .i64 x.rest, .bool x.nosum, .slice A n c, .slice D m d], .agg #[.int .i64 s.k, .int .i64 s.a, .int .i64 s.b, .int .i64 s.c, .int .i64 s.d], .agg #[.int .i64 t.k, .int .i64 t.a, .int .i64 t.b, .int .i64 t.c, .int .i64 t.d]] w fun e w' => e = .returned (.int .i64 (x.sum os bs s t)) ∧ Below w.heap.size w w' := by
  cases hp : pairA s t with
  | false => exact usS_no1 x s t A D n c m d os bs w hp
  | true =>
    cases hk : x.ok s.k n m with
    | false => exact usS_no2 x s t A D n c m d os bs w hl hm hp hk hn hm2
    | true =>
      have hkk := Uh.ok_kind hk
      have hsk : s.k = 4 ∨ s.k = 6 := by have := (Uh.ok_facts hk).1; simpa [kindB] using this
      obtain ⟨kind, sport, dport, seq, ack, bits, window, urgent, ty, code, rest, nosum⟩ := x
      try simp only at hkk
      by_cases h0 : kind = 0
      · subst h0
        exact usS_z0 sport dport seq ack bits window urgent ty code rest nosum s t A D n c m d os bs w hl hm hp hk hn hm2
      · cases nosum with
        | true => exact usS_z1 kind sport dport seq ack bits window urgent ty code rest s t A D n c m d os bs w hl hm hp hk h0 hn hm2
        | false =>
          rcases hkk with rfl | rfl | rfl | rfl
          · exact absurd rfl h0
          · exact usS_y1 sport dport seq ack bits window urgent ty code rest s t A D n c m d os bs w hr hl hs hm hp hk
          · exact usS_y2 sport dport seq ack bits window urgent ty code rest s t A D n c m d os bs w hr hl hs hm hp hk
          · obtain ⟨sk, sa, sb, sc, sd⟩ := s
            try simp only at hsk
            rcases hsk with rfl | rfl
            · exact usS_y3_4 sport dport seq ack bits window urgent ty code rest sa sb sc sd t A D n c m d os bs w hr hl hs hm hp hk
            · exact usS_y3_6 sport dport seq ack bits window urgent ty code rest sa sb sc sd t A D n c m d os bs w hr hl hs hm hp hk
end Go.Proofs.Ythogonpjkngpjaa
