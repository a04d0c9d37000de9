/-
  Upper layers are read by the program. Upper layers are read by the program, whatever the bytes, the protocol and the addresses. What the bytes of a valid frame are read as: the frame. Plain: nothing here speaks of the program. What the bytes of a valid upper layer are read as: the upper layer. Plain: nothing here speaks of the program. Bytes as a string: the conversion of a slice that reads as a list of bytes. The laws' own comparison of two upper layers by their texts.
-/
import Derived.Test.YthogonpjkngpjaaRc33
import Derived.Test.YthogonpjkngpjaaRc29
import Derived.Deep.Cut
import Derived.Test.YthogonpjkngpjaaRc34
import Derived.Test.YthogonpjkngpjaaRc35
import Derived.Test.YthogonpjkngpjaaRc36
import Derived.Test.YthogonpjkngpjaaRc31
import Derived.Test.YthogonpjkngpjaaRc01
import Derived.Laws.BytesArg
import Derived.Test.YthogonpjkngpjaaRc04
namespace Go.Proofs.Ythogonpjkngpjaa
set_option maxRecDepth 100000
open Go.RowKit
set_option maxHeartbeats 4000000 in
theorem urI_3 (w : World) (a : Addr) (n c : Nat) (bs : List UInt8) (p : Int) (s t : Ad) (hr : RB w w.heap.size (some a) bs) (hl : bs.length = n) (hc : n ≤ c) (hn : n ≤ 1500) (hp : pairA s t = true) (hq : upTo p 255 = true) (hs : s.k = 4 ∨ s.k = 6) (hk : kindU p s.k = 3) (sport dport seq ack bits window urgent ty code rest : Int) (os ds : List UInt8) (P Q sm : Nat) (S : Int) (ho : os.length = P) (hd : ds.length = Q) (hP : P ≤ 1500) (hQ : Q ≤ 1500) (h3 : 8 ≤ n) (hsum : (Uh.mk 3 sport dport seq ack bits window urgent ty code rest false).sum os ds s t = S)  (hf0 : (sm : Int) = S → uhC bs p s t = 0) (hf6 : ¬ (sm : Int) = S → uhC bs p s t = 6) (hx1 : uhX bs (kindU p s.k) s.k = (Uh.mk 3 sport dport seq ack bits window urgent ty code rest false)) (hx2 : uhO bs (kindU p s.k) = os) (hx3 : uhB bs (kindU p s.k) = ds) (hu : ∀ (v : World) (g : Nat), Rp v g (some a) n c bs 0 → Calls Try.prog 49 #[.iface 112 (.agg #[.int .i64 3, .int .i64 0, .int .i64 0, .int .i64 0, .int .i64 0, .int .i64 0, .int .i64 0, .int .i64 0, .int .i64 0, .int .i64 0, .int .i64 0, .bool false, .slice none 0 0, .slice none 0 0]), .pointer (some ⟨g, 0, none⟩)] v (TakeOut (Uh.mk 3 sport dport seq ack bits window urgent ty code rest false) os ds P Q sm g v)) : Calls Try.prog 18 #[.slice (some a) n c, .int .i64 p, .agg #[.int .i64 s.k, .int .i64 s.a, .int .i64 s.b, .int .i64 s.c, .int .i64 s.d], .agg #[.int .i64 t.k, .int .i64 t.a, .int .i64 t.b, .int .i64 t.c, .int .i64 t.d]] w (URead bs p s t w) := by
  have HX := Lib.hid (And.intro hx1 (And.intro hx2 hx3))
  clear hx1 hx2 hx3
  have HP := Lib.hid hp
  have HPR := Lib.hid hq
  have HQ := Lib.hid hq
  have HKQ := Lib.hid hk
  have HSK := Lib.hid hs
  have HF := Lib.hid (And.intro hf0 hf6)
  have HU := Lib.hid hu
  have HS := Lib.hid hsum
  have HO := Lib.hid ho
  have HD := Lib.hid hd
  have hI2 : ¬ (n : Int) < 8 := by omega
  clear hf0 hf6 hu hsum ho hd
  have R0 := Lib.hid hr
  have HL := Lib.hid hl
  have hI : ¬ (1500 : Int) < (n : Int) := by omega
  clear hr hp hq hk hs hl
  have p0 : Hid ((((w.alloc (.cells #[.int .i64 s.k, .int .i64 s.a, .int .i64 s.b, .int .i64 s.c, .int .i64 s.d] 27)).alloc (.cells #[.int .i64 t.k, .int .i64 t.a, .int .i64 t.b, .int .i64 t.c, .int .i64 t.d] 27)).alloc (.cells #[.int .i64 0, .int .i64 0, .int .i64 0, .int .i64 0, .int .i64 0, .int .i64 0, .int .i64 0, .int .i64 0, .int .i64 0, .int .i64 0, .int .i64 0, .bool false, .slice none 0 0, .slice none 0 0] 36)).heap[w.heap.size]? = some (.cells #[.int .i64 s.k, .int .i64 s.a, .int .i64 s.b, .int .i64 s.c, .int .i64 s.d] 27)) := Lib.hid (by repeat (first | exact K.newAt (by first | rfl | (simp; done)) | refine K.oldAt (by first | (simp; done) | (simp; omega)) ?_))
  have r0 : Hid ((((w.alloc (.cells #[.int .i64 s.k, .int .i64 s.a, .int .i64 s.b, .int .i64 s.c, .int .i64 s.d] 27)).alloc (.cells #[.int .i64 t.k, .int .i64 t.a, .int .i64 t.b, .int .i64 t.c, .int .i64 t.d] 27)).alloc (.cells #[.int .i64 0, .int .i64 0, .int .i64 0, .int .i64 0, .int .i64 0, .int .i64 0, .int .i64 0, .int .i64 0, .int .i64 0, .int .i64 0, .int .i64 0, .bool false, .slice none 0 0, .slice none 0 0] 36)).heap[w.heap.size + 1]? = some (.cells #[.int .i64 t.k, .int .i64 t.a, .int .i64 t.b, .int .i64 t.c, .int .i64 t.d] 27)) := Lib.hid (by repeat (first | exact K.newAt (by first | rfl | (simp; done)) | refine K.oldAt (by first | (simp; done) | (simp; omega)) ?_))
  have z0 : Hid ((((w.alloc (.cells #[.int .i64 s.k, .int .i64 s.a, .int .i64 s.b, .int .i64 s.c, .int .i64 s.d] 27)).alloc (.cells #[.int .i64 t.k, .int .i64 t.a, .int .i64 t.b, .int .i64 t.c, .int .i64 t.d] 27)).alloc (.cells #[.int .i64 0, .int .i64 0, .int .i64 0, .int .i64 0, .int .i64 0, .int .i64 0, .int .i64 0, .int .i64 0, .int .i64 0, .int .i64 0, .int .i64 0, .bool false, .slice none 0 0, .slice none 0 0] 36)).heap[w.heap.size + 1 + 1]? = some (.cells #[.int .i64 0, .int .i64 0, .int .i64 0, .int .i64 0, .int .i64 0, .int .i64 0, .int .i64 0, .int .i64 0, .int .i64 0, .int .i64 0, .int .i64 0, .bool false, .slice none 0 0, .slice none 0 0] 36)) := Lib.hid (by repeat (first | exact K.newAt (by first | rfl | (simp; done)) | refine K.oldAt (by first | (simp; done) | (simp; omega)) ?_))
  have B0 : Hid (Below w.heap.size w (((w.alloc (.cells #[.int .i64 s.k, .int .i64 s.a, .int .i64 s.b, .int .i64 s.c, .int .i64 s.d] 27)).alloc (.cells #[.int .i64 t.k, .int .i64 t.a, .int .i64 t.b, .int .i64 t.c, .int .i64 t.d] 27)).alloc (.cells #[.int .i64 0, .int .i64 0, .int .i64 0, .int .i64 0, .int .i64 0, .int .i64 0, .int .i64 0, .int .i64 0, .int .i64 0, .int .i64 0, .int .i64 0, .bool false, .slice none 0 0, .slice none 0 0] 36))) := Lib.hid (by go_grown)
  go_enter Try.func18, Try.ntmps18
  go_wp2_with (first | (with_reducible refine loadA rfl _ rfl w.heap.size rfl p0.out ?_) | (with_reducible refine loadA rfl _ rfl (w.heap.size + 1) rfl r0.out ?_))
  refine Calls.mono (pairIB s t true HP.out _) ?_
  rintro e w1 ⟨rfl, b1⟩
  have p1 := Lib.hid (K.below b1 p0.out)
  have r1 := Lib.hid (K.below b1 r0.out)
  have z1 := Lib.hid (K.below b1 z0.out)
  have B1 := Lib.hid (bthen B0.out b1)
  clear b1 p0 r0 z0 B0
  go_wp2_with fail
  refine Calls.mono (protoB p true _ HQ.out) ?_
  rintro e w2 ⟨rfl, b2⟩
  have p2 := Lib.hid (K.below b2 p1.out)
  have r2 := Lib.hid (K.below b2 r1.out)
  have z2 := Lib.hid (K.below b2 z1.out)
  have B2 := Lib.hid (bthen B1.out b2)
  clear b2 p1 r1 z1 B1
  have d0 := K.cell p2.out 0 _ rfl
  go_wp2_with fail
  clear d0
  refine Calls.mono (kind_impl p s.k 3 _ HPR.out HSK.out HKQ.out) ?_
  rintro e w3 ⟨rfl, b3⟩
  have p3 := Lib.hid (K.below b3 p2.out)
  have r3 := Lib.hid (K.below b3 r2.out)
  have z3 := Lib.hid (K.below b3 z2.out)
  have B3 := Lib.hid (bthen B2.out b3)
  clear b3 p2 r2 z2 B2
  go_wp2_with fail
  refine Calls.mono (formatOfC (Uh.mk 3 0 0 0 0 0 0 0 0 0 0 false) none none 0 0 0 0 _) ?_
  rintro e w4 ⟨rfl, rfl⟩
  simp only [show ∀ v, fmtV 3 v = .iface 112 v from fun _ => rfl]
  have b4 := Joins.below_alloc1 w3 (.cells #[.int .i64 3, .int .i64 0, .int .i64 0, .int .i64 0, .int .i64 0, .int .i64 0, .int .i64 0, .int .i64 0, .int .i64 0, .int .i64 0, .int .i64 0, .bool false, .slice none 0 0, .slice none 0 0] 36)
  have p4 := Lib.hid (K.below b4 p3.out)
  have r4 := Lib.hid (K.below b4 r3.out)
  have z4 := Lib.hid (K.below b4 z3.out)
  have B4 := Lib.hid (bthen B3.out b4)
  clear b4 p3 r3 z3 B3
  generalize w3.alloc (.cells #[.int .i64 3, .int .i64 0, .int .i64 0, .int .i64 0, .int .i64 0, .int .i64 0, .int .i64 0, .int .i64 0, .int .i64 0, .int .i64 0, .int .i64 0, .bool false, .slice none 0 0, .slice none 0 0] 36) = w4 at p4 r4 z4 B4 ⊢
  go_wp2_with fail
  refine Calls.mono (head_icmp (Uh.mk 3 0 0 0 0 0 0 0 0 0 0 false) none none 0 0 0 0 _ (by omega)) ?_
  rintro e w5 ⟨rfl, b5⟩
  have p5 := Lib.hid (K.below b5 p4.out)
  have r5 := Lib.hid (K.below b5 r4.out)
  have z5 := Lib.hid (K.below b5 z4.out)
  have B5 := Lib.hid (bthen B4.out b5)
  clear b5 p4 r4 z4 B4
  have p6 := Lib.hid (K.old p5.out (.cells #[.slice (some a) n c, .int .i64 0] 79))
  have r6 := Lib.hid (K.old r5.out (.cells #[.slice (some a) n c, .int .i64 0] 79))
  have z6 := Lib.hid (K.old z5.out (.cells #[.slice (some a) n c, .int .i64 0] 79))
  have lw5 : w.heap.size + 1 + 1 < w5.heap.size := K.lt z5.out
  have B6 := Lib.hid (bthen B5.out (Joins.below_alloc1 w5 (.cells #[.slice (some a) n c, .int .i64 0] 79)))
  have RR : Hid (Rp (w5.alloc (.cells #[.slice (some a) n c, .int .i64 0] 79)) w5.heap.size (some a) n c bs 0) := Lib.hid ⟨K.new w5 _, (R0.out.below B6.out).more (by omega), HL.out, by omega, by omega⟩
  go_wp2_with fail
  clear p5 r5 z5 B5
  refine Calls.mono (HU.out _ _ RR.out) ?_
  rintro e w6 ⟨O, o, D, d, rfl, oo, od, ap, gg⟩
  try simp only
  have p7 := Lib.hid (K.kept gg p6.out (fun u hu => by cases hu; omega))
  have r7 := Lib.hid (K.kept gg r6.out (fun u hu => by cases hu; omega))
  have z7 := Lib.hid (K.kept gg z6.out (fun u hu => by cases hu; omega))
  have B7 := Lib.hid (bgrown B6.out gg (fun u hu => by cases hu; omega))
  clear RR p6 r6 z6 B6
  have lw6 : w5.heap.size + 1 ≤ w6.heap.size := by have := gg.size; simpa using this
  have d1 := K.cell (K.new w6 (.cells #[.int .i64 3, .int .i64 sport, .int .i64 dport, .int .i64 seq, .int .i64 ack, .int .i64 bits, .int .i64 window, .int .i64 urgent, .int .i64 ty, .int .i64 code, .int .i64 rest, .bool false, .slice O P o, .slice D Q d] 36)) 0 _ rfl
  have d2 := K.cell (K.old p7.out (.cells #[.int .i64 3, .int .i64 sport, .int .i64 dport, .int .i64 seq, .int .i64 ack, .int .i64 bits, .int .i64 window, .int .i64 urgent, .int .i64 ty, .int .i64 code, .int .i64 rest, .bool false, .slice O P o, .slice D Q d] 36)) 0 _ rfl
  have d3 := K.cell (K.new w6 (.cells #[.int .i64 3, .int .i64 sport, .int .i64 dport, .int .i64 seq, .int .i64 ack, .int .i64 bits, .int .i64 window, .int .i64 urgent, .int .i64 ty, .int .i64 code, .int .i64 rest, .bool false, .slice O P o, .slice D Q d] 36)) 11 _ rfl
  have f3 := frozen_of_row _ _ 11 _ _ (K.new w6 (.cells #[.int .i64 3, .int .i64 sport, .int .i64 dport, .int .i64 seq, .int .i64 ack, .int .i64 bits, .int .i64 window, .int .i64 urgent, .int .i64 ty, .int .i64 code, .int .i64 rest, .bool false, .slice O P o, .slice D Q d] 36))
  have p8 := Lib.hid (K.old p7.out (.cells #[.int .i64 3, .int .i64 sport, .int .i64 dport, .int .i64 seq, .int .i64 ack, .int .i64 bits, .int .i64 window, .int .i64 urgent, .int .i64 ty, .int .i64 code, .int .i64 rest, .bool false, .slice O P o, .slice D Q d] 36))
  have r8 := Lib.hid (K.old r7.out (.cells #[.int .i64 3, .int .i64 sport, .int .i64 dport, .int .i64 seq, .int .i64 ack, .int .i64 bits, .int .i64 window, .int .i64 urgent, .int .i64 ty, .int .i64 code, .int .i64 rest, .bool false, .slice O P o, .slice D Q d] 36))
  have z8 := Lib.hid (K.old z7.out (.cells #[.int .i64 3, .int .i64 sport, .int .i64 dport, .int .i64 seq, .int .i64 ack, .int .i64 bits, .int .i64 window, .int .i64 urgent, .int .i64 ty, .int .i64 code, .int .i64 rest, .bool false, .slice O P o, .slice D Q d] 36))
  have q8 := Lib.hid (K.new w6 (.cells #[.int .i64 3, .int .i64 sport, .int .i64 dport, .int .i64 seq, .int .i64 ack, .int .i64 bits, .int .i64 window, .int .i64 urgent, .int .i64 ty, .int .i64 code, .int .i64 rest, .bool false, .slice O P o, .slice D Q d] 36))
  have B8 := Lib.hid (bthen B7.out (Joins.below_alloc1 w6 (.cells #[.int .i64 3, .int .i64 sport, .int .i64 dport, .int .i64 seq, .int .i64 ack, .int .i64 bits, .int .i64 window, .int .i64 urgent, .int .i64 ty, .int .i64 code, .int .i64 rest, .bool false, .slice O P o, .slice D Q d] 36)))
  have O8 := Lib.hid (World.ownsRow.alloc (own_base oo (show w5.heap.size + 1 ≤ _ by simp)) (.cells #[.int .i64 3, .int .i64 sport, .int .i64 dport, .int .i64 seq, .int .i64 ack, .int .i64 bits, .int .i64 window, .int .i64 urgent, .int .i64 ty, .int .i64 code, .int .i64 rest, .bool false, .slice O P o, .slice D Q d] 36))
  have D8 := Lib.hid (World.ownsRow.alloc (own_base od (show w5.heap.size + 1 ≤ _ by simp)) (.cells #[.int .i64 3, .int .i64 sport, .int .i64 dport, .int .i64 seq, .int .i64 ack, .int .i64 bits, .int .i64 window, .int .i64 urgent, .int .i64 ty, .int .i64 code, .int .i64 rest, .bool false, .slice O P o, .slice D Q d] 36))
  have AP := Lib.hid ap
  clear oo od ap gg p7 r7 z7 B7
  go_upto_region 12 with (with_reducible refine storeNewU rfl _ _ rfl rfl rfl ?_)
  clear d1 d2 d3 f3
  generalize (w6.alloc (.cells #[.int .i64 3, .int .i64 sport, .int .i64 dport, .int .i64 seq, .int .i64 ack, .int .i64 bits, .int .i64 window, .int .i64 urgent, .int .i64 ty, .int .i64 code, .int .i64 rest, .bool false, .slice O P o, .slice D Q d] 36)) = w7 at p8 r8 z8 B8 q8 O8 D8 ⊢
  go_wp2_with (first | (with_reducible refine loadU rfl _ rfl w6.heap.size rfl q8.out ?_) | (with_reducible refine loadA rfl _ rfl w.heap.size rfl p8.out ?_) | (with_reducible refine loadA rfl _ rfl (w.heap.size + 1) rfl r8.out ?_))
  refine Calls.mono (usI (Uh.mk 3 sport dport seq ack bits window urgent ty code rest false) s t O D P o Q d os ds _ (RB.of_own O8.out) HO.out (RB.of_own D8.out) HD.out (by omega) (by omega)) ?_
  rintro e w8 ⟨rfl, b8⟩
  rw [HS.out]
  have p9 := Lib.hid (K.below b8 p8.out)
  have r9 := Lib.hid (K.below b8 r8.out)
  have z9 := Lib.hid (K.below b8 z8.out)
  have q9 := Lib.hid (K.below b8 q8.out)
  have B9 := Lib.hid (bthen B8.out b8)
  have O9 := Lib.hid (own_below O8.out b8)
  have D9 := Lib.hid (own_below D8.out b8)
  clear b8 p8 r8 z8 B8 q8 O8 D8
  by_cases hS : (sm : Int) = S
  · have HFG := Lib.hid (HF.out.1 hS)
    have hX : ((sm : Int) != S) = false := by simp [hS]
    go_wp2_with (first | (with_reducible refine loadU rfl _ rfl w6.heap.size rfl q9.out ?_) | (with_reducible refine storeU rfl _ _ rfl (w.heap.size + 1 + 1) rfl rfl z9.out ?_))
    (try simp only [Exit.inBlock, Exit.then])
    have hsz : w.heap.size + 1 + 1 < w5.heap.size + 1 := by omega
    refine bodyPost_ret (v := .tuple #[.agg #[.int .i64 3, .int .i64 sport, .int .i64 dport, .int .i64 seq, .int .i64 ack, .int .i64 bits, .int .i64 window, .int .i64 urgent, .int .i64 ty, .int .i64 code, .int .i64 rest, .bool false, .slice O P o, .slice D Q d], .int .i64 0]) ?_ rfl (uread_yes (x := (Uh.mk 3 sport dport seq ack bits window urgent ty code rest false)) HFG.out HX.out.1 HX.out.2.1 HX.out.2.2 HO.out HD.out (own_base (K.setRow_own _ O9.out hsz) (by omega)) (own_base (K.setRow_own _ D9.out hsz) (by omega)) AP.out (K.setRow_below B9.out (by omega) _))
    exact K.resCellTmp Try.results18 _ _ _ (w.heap.size + 1 + 1) _ rfl (run_loadVar_row _ _ 36 36 _ (0, 0) _ (setRow_heap _ _ _ _ _ _ z9.out) Try.underlying36 rfl info_up)
  · have HFB := Lib.hid (HF.out.2 hS)
    have hX : ((sm : Int) != S) = true := by simpa using hS
    go_wp2_with (with_reducible refine storeU rfl _ _ rfl (w.heap.size + 1 + 1) rfl rfl z9.out ?_)
    (try simp only [Exit.inBlock, Exit.then])
    refine bodyPost_ret (v := .tuple #[.agg #[.int .i64 0, .int .i64 0, .int .i64 0, .int .i64 0, .int .i64 0, .int .i64 0, .int .i64 0, .int .i64 0, .int .i64 0, .int .i64 0, .int .i64 0, .bool false, .slice none 0 0, .slice none 0 0], .int .i64 6]) ?_ rfl (uread_no HFB.out (by omega) (K.setRow_below B9.out (by omega) _))
    exact K.resCellTmp Try.results18 _ _ _ (w.heap.size + 1 + 1) _ rfl (run_loadVar_row _ _ 36 36 _ (0, 0) _ (setRow_heap _ _ _ _ _ _ z9.out) Try.underlying36 rfl info_up)
theorem pairA_k {s t : Ad} (h : pairA s t = true) : s.k = 4 ∨ s.k = 6 := by
  have hxy : (s.ok = true ∧ t.ok = true) ∧ s.k = t.k := by simpa [pairA] using h
  exact Ad.ok_kind hxy.1.1
set_option maxHeartbeats 1000000 in
theorem urI_some (w : World) (a : Addr) (n c : Nat) (bs : List UInt8) (p : Int) (s t : Ad) (hr : RB w w.heap.size (some a) bs) (hl : bs.length = n) (hc : n ≤ c) (hn : n ≤ 1500) (hp : pairA s t = true) (hq : upTo p 255 = true) : Calls Try.prog 18 #[.slice (some a) n c, .int .i64 p, .agg #[.int .i64 s.k, .int .i64 s.a, .int .i64 s.b, .int .i64 s.c, .int .i64 s.d], .agg #[.int .i64 t.k, .int .i64 t.a, .int .i64 t.b, .int .i64 t.c, .int .i64 t.d]] w (URead bs p s t w) := by
  have hs := pairA_k hp
  have hfar : uhC bs p s t = _ := uhC_far (by omega) (by rw [hp, hq]; rfl)
  rcases kindU_cases p s.k with hk | hk | hk | hk
  · exact urI_0 w a n c bs p s t hr hl hc hn hp hq hs hk (fun v g r => upperOf_0 v g a n c bs _ r)
  · rw [hk] at hfar
    by_cases h3 : n < 20
    · rw [if_pos (.inl ⟨rfl, by omega⟩)] at hfar
      exact urI_short1 w (some a) n c bs p s t hr hl hn hp hq hs hk hfar h3
    · rw [if_neg (by simp; omega)] at hfar
      by_cases h4 : tHead bs < 20 ∨ bs.length < tHead bs
      · rw [if_pos ⟨rfl, h4⟩] at hfar
        exact urI_code1 w a n c bs p s t hr hl hc hn hp hq hs hk hfar (by omega) (fun v g r => upperOf_1no v g a n c bs _ _ _ _ _ _ _ r (by omega) rfl rfl rfl rfl rfl rfl (by rw [← hl]; exact h4))
      · rw [if_neg (by simpa using h4), if_neg (by simp)] at hfar
        have hlo : (uhO bs 1).length = tHead bs - 20 := by simp [uhO, List.length_take, List.length_drop]; omega
        have hlb : (uhB bs 1).length = n - tHead bs := by simp [uhB, List.length_drop]; omega
        have ht60 := tHead_le bs
        have hu : ∀ (v : World) (g : Nat), Rp v g (some a) n c bs 0 → _ := fun v g r => upperOf_1 v g a n c bs (.agg #[.int .i64 1, .int .i64 0, .int .i64 0, .int .i64 0, .int .i64 0, .int .i64 0, .int .i64 0, .int .i64 0, .int .i64 0, .int .i64 0, .int .i64 0, .bool false, .slice none 0 0, .slice none 0 0]) (n - tHead bs) (tHead bs - 20) _ _ _ _ _ (tHead bs) _ _ _ r (by omega) rfl rfl rfl rfl rfl rfl (by omega) (by omega) rfl rfl rfl
        exact urI_1 w a n c bs p s t hr hl hc hn hp hq hs hk _ _ _ _ _ _ _ _ _ _ (uhO bs 1) (uhB bs 1) _ _ (num bs 16 2) _ hlo hlb (by omega) (by omega) (by omega) rfl (fun h6 => by rw [hfar]; exact if_neg (fun h => h h6)) (fun h6 => by rw [hfar]; exact if_pos h6) (by rw [hk]; rfl) (by rw [hk]) (by rw [hk]) hu
  · rw [hk] at hfar
    by_cases h3 : n < 8
    · rw [if_pos (.inr ⟨by simp, by omega⟩)] at hfar
      exact urI_short2 w (some a) n c bs p s t hr hl hn hp hq hs hk hfar h3
    · rw [if_neg (by simp; omega), if_neg (by simp)] at hfar
      by_cases h5 : num bs 4 2 = bs.length
      · rw [if_neg (by simpa using h5)] at hfar
        have hlb : (uhB bs 2).length = n - 8 := by simp [uhB, List.length_drop]; omega
        have hu : ∀ (v : World) (g : Nat), Rp v g (some a) n c bs 0 → _ := fun v g r => upperOf_2 v g a n c bs (.agg #[.int .i64 2, .int .i64 0, .int .i64 0, .int .i64 0, .int .i64 0, .int .i64 0, .int .i64 0, .int .i64 0, .int .i64 0, .int .i64 0, .int .i64 0, .bool false, .slice none 0 0, .slice none 0 0]) (n - 8) _ _ _ r (by omega) rfl rfl (h5.trans hl) rfl
        by_cases h4 : s.k = 4
        · by_cases h0 : num bs 6 2 = 0
          · have hx : uhX bs 2 s.k = ⟨2, num bs 0 2, num bs 2 2, 0, 0, 0, 0, 0, 0, 0, 0, true⟩ := by simp [uhX, h4, h0]
            rw [hx] at hfar
            exact urI_2a w a n c bs p s t hr hl hc hn hp hq hs hk _ _ _ _ _ _ _ _ _ _ (uhO bs 2) (uhB bs 2) 0 _ (num bs 6 2) _ rfl hlb (by omega) (by omega) (by omega) h4 h0 rfl (fun h6 => by rw [hfar]; exact if_neg (fun h => h h6)) (fun h6 => by rw [hfar]; exact if_pos h6) (by rw [hk]; exact hx) (by rw [hk]) (by rw [hk]) hu
          · have hx : uhX bs 2 s.k = ⟨2, num bs 0 2, num bs 2 2, 0, 0, 0, 0, 0, 0, 0, 0, false⟩ := by simp [uhX, h0]
            rw [hx] at hfar
            exact urI_2b w a n c bs p s t hr hl hc hn hp hq hs hk _ _ _ _ _ _ _ _ _ _ (uhO bs 2) (uhB bs 2) 0 _ (num bs 6 2) _ rfl hlb (by omega) (by omega) (by omega) h4 h0 rfl (fun h6 => by rw [hfar]; exact if_neg (fun h => h h6)) (fun h6 => by rw [hfar]; exact if_pos h6) (by rw [hk]; exact hx) (by rw [hk]) (by rw [hk]) hu
        · have hx : uhX bs 2 s.k = ⟨2, num bs 0 2, num bs 2 2, 0, 0, 0, 0, 0, 0, 0, 0, false⟩ := by simp [uhX, h4]
          rw [hx] at hfar
          exact urI_2c w a n c bs p s t hr hl hc hn hp hq hs hk _ _ _ _ _ _ _ _ _ _ (uhO bs 2) (uhB bs 2) 0 _ (num bs 6 2) _ rfl hlb (by omega) (by omega) (by omega) h4 rfl (fun h6 => by rw [hfar]; exact if_neg (fun h => h h6)) (fun h6 => by rw [hfar]; exact if_pos h6) (by rw [hk]; exact hx) (by rw [hk]) (by rw [hk]) hu
      · rw [if_pos ⟨rfl, h5⟩] at hfar
        exact urI_code2 w a n c bs p s t hr hl hc hn hp hq hs hk hfar (by omega) (fun v g r => upperOf_2no v g a n c bs _ _ _ _ r (by omega) rfl rfl rfl (by rw [← hl]; exact h5))
  · rw [hk] at hfar
    by_cases h3 : n < 8
    · rw [if_pos (.inr ⟨by simp, by omega⟩)] at hfar
      exact urI_short3 w (some a) n c bs p s t hr hl hn hp hq hs hk hfar h3
    · rw [if_neg (by simp; omega), if_neg (by simp), if_neg (by simp)] at hfar
      have hlb : (uhB bs 3).length = n - 8 := by simp [uhB, List.length_drop]; omega
      have hu : ∀ (v : World) (g : Nat), Rp v g (some a) n c bs 0 → _ := fun v g r => upperOf_3 v g a n c bs (.agg #[.int .i64 3, .int .i64 0, .int .i64 0, .int .i64 0, .int .i64 0, .int .i64 0, .int .i64 0, .int .i64 0, .int .i64 0, .int .i64 0, .int .i64 0, .bool false, .slice none 0 0, .slice none 0 0]) (n - 8) _ _ _ _ r (by omega) rfl rfl rfl rfl
      exact urI_3 w a n c bs p s t hr hl hc hn hp hq hs hk _ _ _ _ _ _ _ _ _ _ (uhO bs 3) (uhB bs 3) 0 _ (num bs 2 2) _ rfl hlb (by omega) (by omega) (by omega) rfl (fun h6 => by rw [hfar]; exact if_neg (fun h => h h6)) (fun h6 => by rw [hfar]; exact if_pos h6) (by rw [hk]; rfl) (by rw [hk]) (by rw [hk]) hu
set_option maxHeartbeats 1000000 in
theorem urI_none (w : World) (p : Int) (s t : Ad) (hr : RB w w.heap.size none ([] : List UInt8)) (hp : pairA s t = true) (hq : upTo p 255 = true) : Calls Try.prog 18 #[.slice none 0 0, .int .i64 p, .agg #[.int .i64 s.k, .int .i64 s.a, .int .i64 s.b, .int .i64 s.c, .int .i64 s.d], .agg #[.int .i64 t.k, .int .i64 t.a, .int .i64 t.b, .int .i64 t.c, .int .i64 t.d]] w (URead [] p s t w) := by
  have hs := pairA_k hp
  have hfar : uhC [] p s t = _ := uhC_far (by simp) (by rw [hp, hq]; rfl)
  rcases kindU_cases p s.k with hk | hk | hk | hk
  · exact urI_0n w p s t hr hp hq hs hk (fun v g r => upperOf_0n v g _ r)
  · rw [hk, if_pos (.inl ⟨rfl, by simp⟩)] at hfar
    exact urI_short1 w none 0 0 [] p s t hr rfl (by omega) hp hq hs hk hfar (by omega)
  · rw [hk, if_pos (.inr ⟨by simp, by simp⟩)] at hfar
    exact urI_short2 w none 0 0 [] p s t hr rfl (by omega) hp hq hs hk hfar (by omega)
  · rw [hk, if_pos (.inr ⟨by simp, by simp⟩)] at hfar
    exact urI_short3 w none 0 0 [] p s t hr rfl (by omega) hp hq hs hk hfar (by omega)
theorem implUpperRead (A : Option Addr) (n c : Nat) (bs : List UInt8) (p : Int) (s t : Ad) (w : World) (hr : RB w w.heap.size A bs) (hl : bs.length = n) (hn : n ≤ 1048576) (hc : n ≤ c) (h0 : A = none → c = 0) : Calls Try.prog 18 #[.slice A n c, .int .i64 p, .agg #[.int .i64 s.k, .int .i64 s.a, .int .i64 s.b, .int .i64 s.c, .int .i64 s.d], .agg #[.int .i64 t.k, .int .i64 t.a, .int .i64 t.b, .int .i64 t.c, .int .i64 t.d]] w (URead bs p s t w) := by
  by_cases h1 : 1500 < n
  · exact urI_long w A n c bs p s t hl h1 hn
  · cases hp : pairA s t with
    | false => exact urI_addr1 w A n c bs p s t hl (by omega) hp
    | true =>
      cases hq : upTo p 255 with
      | false => exact urI_addr2 w A n c bs p s t hl (by omega) hp hq
      | true =>
        rcases A with _ | a
        · obtain rfl := h0 rfl
          obtain rfl : n = 0 := by omega
          obtain rfl : bs = [] := List.eq_nil_of_length_eq_zero hl
          exact urI_none w p s t hr hp hq
        · exact urI_some w a n c bs p s t hr hl hc (by omega) hp hq
theorem be_put16 (n : Int) (h : 0 ≤ n ∧ n ≤ 65535) : (be (put16 n) : Int) = n := by
  have e : be (put16 n) = 256 * (byteOf (n / 256)).toNat + (byteOf n).toNat := by simp [be, put16]
  have h1 := byteOf_val (n / 256)
  have h2 := byteOf_val n
  rw [e]
  omega
theorem be_put32W (n : Int) : (be (put32 n) : Int) = n % 4294967296 := by
  have e : be (put32 n) = 256 * (256 * (256 * (byteOf (n / 16777216)).toNat + (byteOf (n / 65536)).toNat) + (byteOf (n / 256)).toNat) + (byteOf n).toNat := by simp [be, put32]
  have h1 := byteOf_val (n / 16777216)
  have h2 := byteOf_val (n / 65536)
  have h3 := byteOf_val (n / 256)
  have h4 := byteOf_val n
  rw [e]
  omega
theorem num_at (a b c : List UInt8) (k s : Nat) (ha : a.length = k) (hb : b.length = s) : num (a ++ (b ++ c)) k s = be b := by
  unfold num
  rw [List.drop_left' ha, List.take_left' hb]
theorem up_sum_range {x : Uh} {o bs : List UInt8} {a b : Ad} (h : (pairA a b && x.ok a.k o.length bs.length) = true) : 0 ≤ x.sum o bs a b ∧ x.sum o bs a b ≤ 65535 := by
  have hp : pairA a b = true := by simp at h; exact h.1
  have hk : x.ok a.k o.length bs.length = true := by simp at h; exact h.2
  by_cases k : x.kind = 0 ∨ x.nosum = true
  · rw [Uh.sum_zero h k]; omega
  · rw [Uh.sum_yes h k]
    have h1 := sadd_word (Uh.top_word hp hk) (Uh.enc_word hk 0)
    rw [isWord_iff] at h1
    unfold udp0
    split <;> omega
theorem up_sum_udp {x : Uh} {o bs : List UInt8} {a b : Ad} (h : (pairA a b && x.ok a.k o.length bs.length) = true) (hk : x.kind = 2) : x.sum o bs a b = 0 ↔ x.nosum = true := by
  constructor
  · intro h0
    by_cases k : x.nosum = true
    · exact k
    · rw [Uh.sum_yes h (by simp [hk, k]), hk] at h0
      unfold udp0 at h0
      split at h0 <;> omega
  · intro k
    exact Uh.sum_zero h (.inr k)
theorem num_atU (D a b c : List UInt8) (k s : Nat) (e : D = a ++ (b ++ c)) (ha : a.length = k) (hb : b.length = s) : num D k s = be b := e ▸ num_at a b c k s ha hb
theorem be_one (n : Int) (h : 0 ≤ n ∧ n ≤ 255) : (be [byteOf n] : Int) = n := by
  have h1 := byteOf_val n
  simp [be]
  omega
theorem be_long (n : Int) (h : 0 ≤ n ∧ n ≤ 4294967295) : (be (put32 n) : Int) = n := by
  rw [be_put32W]
  omega
theorem up_back {x : Uh} {os ds : List UInt8} {s t : Ad} (h : (pairA s t && x.ok s.k os.length ds.length) = true) (p : Int) (hp : kindU p s.k = x.kind) (hq : upTo p 255 = true) :
    ∀ D, D = x.enc os ds (x.sum os ds s t) → uhC D p s t = 0 ∧ uhX D (kindU p s.k) s.k = x ∧ uhO D (kindU p s.k) = os ∧ uhB D (kindU p s.k) = ds := by
  intro D hD
  have hpa : pairA s t = true := by simp at h; exact h.1
  have hok : x.ok s.k os.length ds.length = true := by simp at h; exact h.2
  have hsr := up_sum_range h
  have hsu := up_sum_udp h
  obtain ⟨hkb, hfi, hno, hsz⟩ := Uh.ok_facts hok
  obtain ⟨ho40, ho4, hd15, hz0, hz1⟩ := Uh.ok_room hok
  have hDl : (D.length : Int) = x.size os.length ds.length := by rw [hD]; exact Uh.enc_len x os ds _ (Uh.ok_kind hok)
  have hfar := uhC_far (bs := D) (p := p) (s := s) (t := t) (by omega) (by rw [hpa, hq]; rfl)
  obtain ⟨S, hS⟩ : ∃ S, x.sum os ds s t = S := ⟨_, rfl⟩
  rw [hS] at hD hsr hsu
  rw [hp] at hfar ⊢
  obtain ⟨kind, sport, dport, seq, ack, bits, window, urgent, ty, code, rest, nosum⟩ := x
  rcases Uh.ok_kind hok with e | e | e | e
  · simp only at e
    subst e
    simp [noF, Uh.unused] at hno
    obtain ⟨⟨⟨⟨⟨⟨⟨⟨⟨⟨⟨rfl, rfl⟩, rfl⟩, rfl⟩, rfl⟩, rfl⟩, rfl⟩, rfl⟩, rfl⟩, rfl⟩, rfl⟩, ho⟩ := hno
    have ho2 : os = [] := by first | exact ho | exact List.eq_nil_of_length_eq_zero ho
    subst ho2
    have e2 : D = ds := by rw [hD]; simp [Uh.enc]
    subst e2
    have hx : uhX D 0 s.k = Uh.mk 0 0 0 0 0 0 0 0 0 0 0 false := rfl
    refine ⟨?_, hx, rfl, rfl⟩
    rw [hfar, if_neg (by simp), if_neg (by simp), if_neg (by simp), if_neg]
    intro hc
    apply hc
    rw [hx]
    show (0 : Int) = Uh.sum _ [] D s t
    rw [Uh.sum_zero h (.inl rfl)]
  · simp only at e
    subst e
    simp [Uh.fields, optOk] at hfi
    simp [noF, Uh.unused] at hno
    obtain ⟨⟨⟨⟨⟨⟨⟨h1, h2⟩, h3⟩, h4⟩, h5⟩, h6⟩, h7⟩, _⟩ := hfi
    rw [upTo_iff] at h1 h2 h5 h6 h7
    rw [half_iff] at h3 h4
    obtain ⟨⟨⟨rfl, rfl⟩, rfl⟩, rfl⟩ := hno
    have e2 : D = put16 sport ++ (put16 dport ++ (put32 seq ++ (put32 ack ++ (put16 (4096 * (5 + (os.length : Int) / 4) + bits) ++ (put16 window ++ (put16 S ++ (put16 urgent ++ (os ++ ds)))))))) := by rw [hD]; simp [Uh.enc, tcpH]
    have n0 : ((num D 0 2 : Nat) : Int) = sport := by rw [num_atU D [] (put16 sport) (put16 dport ++ (put32 seq ++ (put32 ack ++ (put16 (4096 * (5 + (os.length : Int) / 4) + bits) ++ (put16 window ++ (put16 S ++ (put16 urgent ++ (os ++ (ds))))))))) 0 2 (by rw [e2]; simp only [List.nil_append]) rfl rfl]; exact be_put16 _ h1
    have n2 : ((num D 2 2 : Nat) : Int) = dport := by rw [num_atU D (put16 sport) (put16 dport) (put32 seq ++ (put32 ack ++ (put16 (4096 * (5 + (os.length : Int) / 4) + bits) ++ (put16 window ++ (put16 S ++ (put16 urgent ++ (os ++ (ds)))))))) 2 2 e2 rfl rfl]; exact be_put16 _ h2
    have n4 : ((num D 4 4 : Nat) : Int) = seq := by rw [num_atU D (put16 sport ++ (put16 dport)) (put32 seq) (put32 ack ++ (put16 (4096 * (5 + (os.length : Int) / 4) + bits) ++ (put16 window ++ (put16 S ++ (put16 urgent ++ (os ++ (ds))))))) 4 4 (by rw [e2]; simp only [List.append_assoc]) rfl rfl]; exact be_long _ h3
    have n8 : ((num D 8 4 : Nat) : Int) = ack := by rw [num_atU D (put16 sport ++ (put16 dport ++ (put32 seq))) (put32 ack) (put16 (4096 * (5 + (os.length : Int) / 4) + bits) ++ (put16 window ++ (put16 S ++ (put16 urgent ++ (os ++ (ds)))))) 8 4 (by rw [e2]; simp only [List.append_assoc]) rfl rfl]; exact be_long _ h4
    have n12 : ((num D 12 2 : Nat) : Int) = 4096 * (5 + (os.length : Int) / 4) + bits := by rw [num_atU D (put16 sport ++ (put16 dport ++ (put32 seq ++ (put32 ack)))) (put16 (4096 * (5 + (os.length : Int) / 4) + bits)) (put16 window ++ (put16 S ++ (put16 urgent ++ (os ++ (ds))))) 12 2 (by rw [e2]; simp only [List.append_assoc]) rfl rfl]; exact be_put16 _ (by omega)
    have n14 : ((num D 14 2 : Nat) : Int) = window := by rw [num_atU D (put16 sport ++ (put16 dport ++ (put32 seq ++ (put32 ack ++ (put16 (4096 * (5 + (os.length : Int) / 4) + bits)))))) (put16 window) (put16 S ++ (put16 urgent ++ (os ++ (ds)))) 14 2 (by rw [e2]; simp only [List.append_assoc]) rfl rfl]; exact be_put16 _ h6
    have n16 : ((num D 16 2 : Nat) : Int) = S := by rw [num_atU D (put16 sport ++ (put16 dport ++ (put32 seq ++ (put32 ack ++ (put16 (4096 * (5 + (os.length : Int) / 4) + bits) ++ (put16 window)))))) (put16 S) (put16 urgent ++ (os ++ (ds))) 16 2 (by rw [e2]; simp only [List.append_assoc]) rfl rfl]; exact be_put16 _ hsr
    have n18 : ((num D 18 2 : Nat) : Int) = urgent := by rw [num_atU D (put16 sport ++ (put16 dport ++ (put32 seq ++ (put32 ack ++ (put16 (4096 * (5 + (os.length : Int) / 4) + bits) ++ (put16 window ++ (put16 S))))))) (put16 urgent) (os ++ (ds)) 18 2 (by rw [e2]; simp only [List.append_assoc]) rfl rfl]; exact be_put16 _ h7
    have ht : tHead D = 20 + os.length := by unfold tHead; omega
    have d20 : D.drop 20 = os ++ ds := by
      rw [show D = (put16 sport ++ (put16 dport ++ (put32 seq ++ (put32 ack ++ (put16 (4096 * (5 + (os.length : Int) / 4) + bits) ++ (put16 window ++ (put16 S ++ put16 urgent))))))) ++ (os ++ ds) by rw [e2]; simp only [List.append_assoc]]
      exact List.drop_left' rfl
    have ho : uhO D 1 = os := by
      show (D.drop 20).take (tHead D - 20) = os
      rw [d20, ht, Nat.add_sub_cancel_left]
      exact List.take_left' rfl
    have hb : uhB D 1 = ds := by
      show D.drop (tHead D) = ds
      rw [ht, ← List.drop_drop, d20]
      exact List.drop_left' rfl
    have hx : uhX D 1 s.k = Uh.mk 1 sport dport seq ack bits window urgent 0 0 0 false := by
      show Uh.mk 1 _ _ _ _ _ _ _ _ _ _ _ = _
      rw [n0, n2, n4, n8, n12, n14, n18]
      congr 1
      omega
    have hl : D.length = 20 + os.length + ds.length := by simp [Uh.size] at hDl; omega
    refine ⟨?_, hx, ho, hb⟩
    rw [hfar, if_neg (by simp; omega), if_neg (by simp; omega), if_neg (by simp), if_neg]
    intro hc
    apply hc
    rw [hx, ho, hb, hS]
    exact n16
  · simp only at e
    subst e
    simp [Uh.fields] at hfi
    simp [noF, Uh.unused] at hno
    obtain ⟨⟨h1, h2⟩, h3⟩ := hfi
    rw [upTo_iff] at h1 h2
    obtain ⟨⟨⟨⟨⟨⟨⟨⟨rfl, rfl⟩, rfl⟩, rfl⟩, rfl⟩, rfl⟩, rfl⟩, rfl⟩, ho⟩ := hno
    have ho2 : os = [] := by first | exact ho | exact List.eq_nil_of_length_eq_zero ho
    subst ho2
    have hns := hsu rfl
    try simp only at hns h3
    have e2 : D = put16 sport ++ (put16 dport ++ (put16 (8 + (ds.length : Int)) ++ (put16 S ++ ds))) := by rw [hD]; simp [Uh.enc, udpH]
    have hl : D.length = 8 + ds.length := by simp [Uh.size] at hDl; omega
    have n0 : ((num D 0 2 : Nat) : Int) = sport := by rw [num_atU D [] (put16 sport) (put16 dport ++ (put16 (8 + (ds.length : Int)) ++ (put16 S ++ (ds)))) 0 2 (by rw [e2]; simp only [List.nil_append]) rfl rfl]; exact be_put16 _ h1
    have n2 : ((num D 2 2 : Nat) : Int) = dport := by rw [num_atU D (put16 sport) (put16 dport) (put16 (8 + (ds.length : Int)) ++ (put16 S ++ (ds))) 2 2 e2 rfl rfl]; exact be_put16 _ h2
    have n4 : ((num D 4 2 : Nat) : Int) = 8 + (ds.length : Int) := by rw [num_atU D (put16 sport ++ (put16 dport)) (put16 (8 + (ds.length : Int))) (put16 S ++ (ds)) 4 2 (by rw [e2]; simp only [List.append_assoc]) rfl rfl]; exact be_put16 _ (by omega)
    have n6 : ((num D 6 2 : Nat) : Int) = S := by rw [num_atU D (put16 sport ++ (put16 dport ++ (put16 (8 + (ds.length : Int))))) (put16 S) (ds) 6 2 (by rw [e2]; simp only [List.append_assoc]) rfl rfl]; exact be_put16 _ hsr
    have hb : uhB D 2 = ds := by
      show D.drop 8 = ds
      rw [show D = (put16 sport ++ (put16 dport ++ (put16 (8 + (ds.length : Int)) ++ put16 S))) ++ ds by rw [e2]; simp only [List.append_assoc]]
      exact List.drop_left' rfl
    have hn : (decide (num D 6 2 = 0) && decide (s.k = 4)) = nosum := by
      cases nosum with
      | true =>
        have h0 := hns.2 rfl
        have hk4 : s.k = 4 := by simpa using h3
        have : num D 6 2 = 0 := by omega
        simp [this, hk4]
      | false =>
        have h0 : ¬ S = 0 := fun h => by have := hns.1 h; cases this
        have : ¬ num D 6 2 = 0 := by omega
        simp [this]
    have hx : uhX D 2 s.k = Uh.mk 2 sport dport 0 0 0 0 0 0 0 0 nosum := by
      show Uh.mk 2 _ _ _ _ _ _ _ _ _ _ _ = _
      rw [n0, n2, hn]
    refine ⟨?_, hx, rfl, hb⟩
    rw [hfar, if_neg (by simp; omega), if_neg (by simp), if_neg (by simp; omega), if_neg]
    intro hc
    apply hc
    rw [hx, hb]
    show ((num D 6 2 : Nat) : Int) = Uh.sum _ [] ds s t
    rw [hS]
    exact n6
  · simp only at e
    subst e
    simp [Uh.fields] at hfi
    simp [noF, Uh.unused] at hno
    obtain ⟨⟨h1, h2⟩, h3⟩ := hfi
    rw [upTo_iff] at h1 h2
    rw [half_iff] at h3
    obtain ⟨⟨⟨⟨⟨⟨⟨⟨rfl, rfl⟩, rfl⟩, rfl⟩, rfl⟩, rfl⟩, rfl⟩, rfl⟩, ho⟩ := hno
    have ho2 : os = [] := by first | exact ho | exact List.eq_nil_of_length_eq_zero ho
    subst ho2
    have e2 : D = [byteOf ty] ++ ([byteOf code] ++ (put16 S ++ (put32 rest ++ ds))) := by rw [hD]; simp [Uh.enc, icmpH]
    have hl : D.length = 8 + ds.length := by simp [Uh.size] at hDl; omega
    have n0 : ((num D 0 1 : Nat) : Int) = ty := by rw [num_atU D [] ([byteOf ty]) ([byteOf code] ++ (put16 S ++ (put32 rest ++ (ds)))) 0 1 (by rw [e2]; simp only [List.nil_append]) rfl rfl]; exact be_one _ h1
    have n1 : ((num D 1 1 : Nat) : Int) = code := by rw [num_atU D ([byteOf ty]) ([byteOf code]) (put16 S ++ (put32 rest ++ (ds))) 1 1 e2 rfl rfl]; exact be_one _ h2
    have n2 : ((num D 2 2 : Nat) : Int) = S := by rw [num_atU D ([byteOf ty] ++ ([byteOf code])) (put16 S) (put32 rest ++ (ds)) 2 2 (by rw [e2]; simp only [List.append_assoc]) rfl rfl]; exact be_put16 _ hsr
    have n4 : ((num D 4 4 : Nat) : Int) = rest := by rw [num_atU D ([byteOf ty] ++ ([byteOf code] ++ (put16 S))) (put32 rest) (ds) 4 4 (by rw [e2]; simp only [List.append_assoc]) rfl rfl]; exact be_long _ h3
    have hb : uhB D 3 = ds := by
      show D.drop 8 = ds
      rw [show D = ([byteOf ty] ++ ([byteOf code] ++ (put16 S ++ put32 rest))) ++ ds by rw [e2]; simp only [List.append_assoc]]
      exact List.drop_left' rfl
    have hx : uhX D 3 s.k = Uh.mk 3 0 0 0 0 0 0 0 ty code rest false := by
      show Uh.mk 3 _ _ _ _ _ _ _ _ _ _ _ = _
      rw [n0, n1, n4]
    refine ⟨?_, hx, rfl, hb⟩
    rw [hfar, if_neg (by simp; omega), if_neg (by simp), if_neg (by simp), if_neg]
    intro hc
    apply hc
    rw [hx, hb]
    show ((num D 2 2 : Nat) : Int) = Uh.sum _ [] ds s t
    rw [hS]
    exact n2
def strOf (bs : List UInt8) : ByteArray := ⟨bs.toArray⟩
theorem conv_b (w : World) (B : Nat) (A : Option Addr) (n c : Nat) (bs : List UInt8) (hl : bs.length = n) (hr : RB w B A bs) :
    (convert 34 9 (.slice A n c)).run Try.prog w = .ok (.string (strOf bs)) w := by
  subst hl
  rcases bs with _ | ⟨b, bs⟩
  · rcases A with _ | a
    · exact run_convert_bytes_nil w 34 5 Try.underlying34 Try.underlying5 _ c 9 Try.underlying9
    · rw [run_convert_bytes_string w 34 9 5 _ _ c Try.underlying34 Try.underlying5 Try.underlying9]
      have h := run_bytesToString (P := Try.prog) w a 0 c [] (by
        have := run_loadCells_list (P := Try.prog) w a [] (fun j v hj => by simp at hj)
        simpa using this)
      exact h
  · generalize hbs : b :: bs = l at *
    obtain ⟨g, o, rfl, _, hc⟩ := hr (by rw [← hbs]; simp)
    have h := run_convert_bytes_arg (P := Try.prog) w 34 5 Try.underlying34 Try.underlying5 g o l.length c (l.map fun u => (u.toNat : Int)) (by simp) (fun i hi => by
      rw [hc i _ (List.getElem?_eq_getElem hi)]
      simp [hi]) 9 Try.underlying9
    rw [h]
    have e : strOfNums (l.map fun u => (u.toNat : Int)) = strOf l := by simp [strOfNums, strOf, Function.comp_def]
    rw [e]
set_option maxRecDepth 100000 in
set_option maxHeartbeats 2000000 in
theorem sameUpC (x : Uh) (A D E G : Option Addr) (n c m d e g : Nat) (os bs : List UInt8) (w : World) (hx : RB w w.heap.size A os) (hy : RB w w.heap.size E os) (hl : os.length = n) (hz : RB w w.heap.size D bs) (hu : RB w w.heap.size G bs) (hm : bs.length = m) :
    Calls Try.prog 30 #[.agg #[.int .i64 x.kind, .int .i64 x.sport, .int .i64 x.dport, .int .i64 x.seq, .int .i64 x.ack, .int .i64 x.bits, .int .i64 x.window, .int .i64 x.urgent, .int .i64 x.ty, .int .i64 x.code, .int .i64 x.rest, .bool x.nosum, .slice A n c, .slice D m d], .agg #[.int .i64 x.kind, .int .i64 x.sport, .int .i64 x.dport, .int .i64 x.seq, .int .i64 x.ack, .int .i64 x.bits, .int .i64 x.window, .int .i64 x.urgent, .int .i64 x.ty, .int .i64 x.code, .int .i64 x.rest, .bool x.nosum, .slice E n e, .slice G m g]] w fun e w' => e = .returned (.bool true) ∧ Below w.heap.size w w' := by
  have hA := conv_b ((w.alloc (.cells #[.int .i64 x.kind, .int .i64 x.sport, .int .i64 x.dport, .int .i64 x.seq, .int .i64 x.ack, .int .i64 x.bits, .int .i64 x.window, .int .i64 x.urgent, .int .i64 x.ty, .int .i64 x.code, .int .i64 x.rest, .bool x.nosum, .slice A n c, .slice D m d] 36)).alloc (.cells #[.int .i64 x.kind, .int .i64 x.sport, .int .i64 x.dport, .int .i64 x.seq, .int .i64 x.ack, .int .i64 x.bits, .int .i64 x.window, .int .i64 x.urgent, .int .i64 x.ty, .int .i64 x.code, .int .i64 x.rest, .bool x.nosum, .slice E n e, .slice G m g] 36)) w.heap.size A n c os hl (hx.below (Joins.below_alloc2 w _ _))
  have hE := conv_b ((w.alloc (.cells #[.int .i64 x.kind, .int .i64 x.sport, .int .i64 x.dport, .int .i64 x.seq, .int .i64 x.ack, .int .i64 x.bits, .int .i64 x.window, .int .i64 x.urgent, .int .i64 x.ty, .int .i64 x.code, .int .i64 x.rest, .bool x.nosum, .slice A n c, .slice D m d] 36)).alloc (.cells #[.int .i64 x.kind, .int .i64 x.sport, .int .i64 x.dport, .int .i64 x.seq, .int .i64 x.ack, .int .i64 x.bits, .int .i64 x.window, .int .i64 x.urgent, .int .i64 x.ty, .int .i64 x.code, .int .i64 x.rest, .bool x.nosum, .slice E n e, .slice G m g] 36)) w.heap.size E n e os hl (hy.below (Joins.below_alloc2 w _ _))
  have hD := conv_b ((w.alloc (.cells #[.int .i64 x.kind, .int .i64 x.sport, .int .i64 x.dport, .int .i64 x.seq, .int .i64 x.ack, .int .i64 x.bits, .int .i64 x.window, .int .i64 x.urgent, .int .i64 x.ty, .int .i64 x.code, .int .i64 x.rest, .bool x.nosum, .slice A n c, .slice D m d] 36)).alloc (.cells #[.int .i64 x.kind, .int .i64 x.sport, .int .i64 x.dport, .int .i64 x.seq, .int .i64 x.ack, .int .i64 x.bits, .int .i64 x.window, .int .i64 x.urgent, .int .i64 x.ty, .int .i64 x.code, .int .i64 x.rest, .bool x.nosum, .slice E n e, .slice G m g] 36)) w.heap.size D m d bs hm (hz.below (Joins.below_alloc2 w _ _))
  have hG := conv_b ((w.alloc (.cells #[.int .i64 x.kind, .int .i64 x.sport, .int .i64 x.dport, .int .i64 x.seq, .int .i64 x.ack, .int .i64 x.bits, .int .i64 x.window, .int .i64 x.urgent, .int .i64 x.ty, .int .i64 x.code, .int .i64 x.rest, .bool x.nosum, .slice A n c, .slice D m d] 36)).alloc (.cells #[.int .i64 x.kind, .int .i64 x.sport, .int .i64 x.dport, .int .i64 x.seq, .int .i64 x.ack, .int .i64 x.bits, .int .i64 x.window, .int .i64 x.urgent, .int .i64 x.ty, .int .i64 x.code, .int .i64 x.rest, .bool x.nosum, .slice E n e, .slice G m g] 36)) w.heap.size G m g bs hm (hu.below (Joins.below_alloc2 w _ _))
  clear hx hy hl hz hu hm
  go_enter Try.func30, Try.ntmps30
  go_wp2
  go_ret
  exact ⟨rfl, by go_grown⟩
end Go.Proofs.Ythogonpjkngpjaa
