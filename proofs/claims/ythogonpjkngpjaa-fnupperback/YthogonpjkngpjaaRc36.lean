/-
  Upper layers are read by the program.
-/
import Derived.Test.YthogonpjkngpjaaRc33
import Derived.Test.YthogonpjkngpjaaRc29
import Derived.Deep.Cut
namespace Go.Proofs.Ythogonpjkngpjaa
set_option maxRecDepth 100000
open Go.RowKit
set_option maxHeartbeats 4000000 in
theorem urI_2a (w : World) (a : Addr) (n c : Nat) (bs : List UInt8) (p : Int) (s t : Ad) (hr : RB w w.heap.size (some a) bs) (hl : bs.length = n) (hc : n ≤ c) (hn : n ≤ 1500) (hp : pairA s t = true) (hq : upTo p 255 = true) (hs : s.k = 4 ∨ s.k = 6) (hk : kindU p s.k = 2) (sport dport seq ack bits window urgent ty code rest : Int) (os ds : List UInt8) (P Q sm : Nat) (S : Int) (ho : os.length = P) (hd : ds.length = Q) (hP : P ≤ 1500) (hQ : Q ≤ 1500) (h3 : 8 ≤ n) (h4 : s.k = 4) (h0 : sm = 0) (hsum : (Uh.mk 2 sport dport seq ack bits window urgent ty code rest true).sum os ds s t = S)  (hf0 : (sm : Int) = S → uhC bs p s t = 0) (hf6 : ¬ (sm : Int) = S → uhC bs p s t = 6) (hx1 : uhX bs (kindU p s.k) s.k = (Uh.mk 2 sport dport seq ack bits window urgent ty code rest true)) (hx2 : uhO bs (kindU p s.k) = os) (hx3 : uhB bs (kindU p s.k) = ds) (hu : ∀ (v : World) (g : Nat), Rp v g (some a) n c bs 0 → Calls Try.prog 49 #[.iface 111 (.agg #[.int .i64 2, .int .i64 0, .int .i64 0, .int .i64 0, .int .i64 0, .int .i64 0, .int .i64 0, .int .i64 0, .int .i64 0, .int .i64 0, .int .i64 0, .bool false, .slice none 0 0, .slice none 0 0]), .pointer (some ⟨g, 0, none⟩)] v (TakeOut (Uh.mk 2 sport dport seq ack bits window urgent ty code rest false) os ds P Q sm g v)) : Calls Try.prog 18 #[.slice (some a) n c, .int .i64 p, .agg #[.int .i64 s.k, .int .i64 s.a, .int .i64 s.b, .int .i64 s.c, .int .i64 s.d], .agg #[.int .i64 t.k, .int .i64 t.a, .int .i64 t.b, .int .i64 t.c, .int .i64 t.d]] w (URead bs p s t w) := by
  have HX := Lib.hid (And.intro hx1 (And.intro hx2 hx3))
  clear hx1 hx2 hx3
  have HP := Lib.hid hp
  have HPR := Lib.hid hq
  have HQ := Lib.hid hq
  have HKQ := Lib.hid hk
  have HSK := Lib.hid hs
  have HF := Lib.hid (And.intro hf0 hf6)
  have HU := Lib.hid hu
  have HS := Lib.hid hsum
  have HO := Lib.hid ho
  have HD := Lib.hid hd
  have hI2 : ¬ (n : Int) < 8 := by omega
  clear hf0 hf6 hu hsum ho hd
  have g4 : (s.k == 4) = true := by simp; omega
  have g0 : ((sm : Int) == 0) = true := by simp; omega
  clear h4 h0
  have R0 := Lib.hid hr
  have HL := Lib.hid hl
  have hI : ¬ (1500 : Int) < (n : Int) := by omega
  clear hr hp hq hk hs hl
  have p0 : Hid ((((w.alloc (.cells #[.int .i64 s.k, .int .i64 s.a, .int .i64 s.b, .int .i64 s.c, .int .i64 s.d] 27)).alloc (.cells #[.int .i64 t.k, .int .i64 t.a, .int .i64 t.b, .int .i64 t.c, .int .i64 t.d] 27)).alloc (.cells #[.int .i64 0, .int .i64 0, .int .i64 0, .int .i64 0, .int .i64 0, .int .i64 0, .int .i64 0, .int .i64 0, .int .i64 0, .int .i64 0, .int .i64 0, .bool false, .slice none 0 0, .slice none 0 0] 36)).heap[w.heap.size]? = some (.cells #[.int .i64 s.k, .int .i64 s.a, .int .i64 s.b, .int .i64 s.c, .int .i64 s.d] 27)) := Lib.hid (by repeat (first | exact K.newAt (by first | rfl | (simp; done)) | refine K.oldAt (by first | (simp; done) | (simp; omega)) ?_))
  have r0 : Hid ((((w.alloc (.cells #[.int .i64 s.k, .int .i64 s.a, .int .i64 s.b, .int .i64 s.c, .int .i64 s.d] 27)).alloc (.cells #[.int .i64 t.k, .int .i64 t.a, .int .i64 t.b, .int .i64 t.c, .int .i64 t.d] 27)).alloc (.cells #[.int .i64 0, .int .i64 0, .int .i64 0, .int .i64 0, .int .i64 0, .int .i64 0, .int .i64 0, .int .i64 0, .int .i64 0, .int .i64 0, .int .i64 0, .bool false, .slice none 0 0, .slice none 0 0] 36)).heap[w.heap.size + 1]? = some (.cells #[.int .i64 t.k, .int .i64 t.a, .int .i64 t.b, .int .i64 t.c, .int .i64 t.d] 27)) := Lib.hid (by repeat (first | exact K.newAt (by first | rfl | (simp; done)) | refine K.oldAt (by first | (simp; done) | (simp; omega)) ?_))
  have z0 : Hid ((((w.alloc (.cells #[.int .i64 s.k, .int .i64 s.a, .int .i64 s.b, .int .i64 s.c, .int .i64 s.d] 27)).alloc (.cells #[.int .i64 t.k, .int .i64 t.a, .int .i64 t.b, .int .i64 t.c, .int .i64 t.d] 27)).alloc (.cells #[.int .i64 0, .int .i64 0, .int .i64 0, .int .i64 0, .int .i64 0, .int .i64 0, .int .i64 0, .int .i64 0, .int .i64 0, .int .i64 0, .int .i64 0, .bool false, .slice none 0 0, .slice none 0 0] 36)).heap[w.heap.size + 1 + 1]? = some (.cells #[.int .i64 0, .int .i64 0, .int .i64 0, .int .i64 0, .int .i64 0, .int .i64 0, .int .i64 0, .int .i64 0, .int .i64 0, .int .i64 0, .int .i64 0, .bool false, .slice none 0 0, .slice none 0 0] 36)) := Lib.hid (by repeat (first | exact K.newAt (by first | rfl | (simp; done)) | refine K.oldAt (by first | (simp; done) | (simp; omega)) ?_))
  have B0 : Hid (Below w.heap.size w (((w.alloc (.cells #[.int .i64 s.k, .int .i64 s.a, .int .i64 s.b, .int .i64 s.c, .int .i64 s.d] 27)).alloc (.cells #[.int .i64 t.k, .int .i64 t.a, .int .i64 t.b, .int .i64 t.c, .int .i64 t.d] 27)).alloc (.cells #[.int .i64 0, .int .i64 0, .int .i64 0, .int .i64 0, .int .i64 0, .int .i64 0, .int .i64 0, .int .i64 0, .int .i64 0, .int .i64 0, .int .i64 0, .bool false, .slice none 0 0, .slice none 0 0] 36))) := Lib.hid (by go_grown)
  go_enter Try.func18, Try.ntmps18
  go_wp2_with (first | (with_reducible refine loadA rfl _ rfl w.heap.size rfl p0.out ?_) | (with_reducible refine loadA rfl _ rfl (w.heap.size + 1) rfl r0.out ?_))
  refine Calls.mono (pairIB s t true HP.out _) ?_
  rintro e w1 ⟨rfl, b1⟩
  have p1 := Lib.hid (K.below b1 p0.out)
  have r1 := Lib.hid (K.below b1 r0.out)
  have z1 := Lib.hid (K.below b1 z0.out)
  have B1 := Lib.hid (bthen B0.out b1)
  clear b1 p0 r0 z0 B0
  go_wp2_with fail
  refine Calls.mono (protoB p true _ HQ.out) ?_
  rintro e w2 ⟨rfl, b2⟩
  have p2 := Lib.hid (K.below b2 p1.out)
  have r2 := Lib.hid (K.below b2 r1.out)
  have z2 := Lib.hid (K.below b2 z1.out)
  have B2 := Lib.hid (bthen B1.out b2)
  clear b2 p1 r1 z1 B1
  have d0 := K.cell p2.out 0 _ rfl
  go_wp2_with fail
  clear d0
  refine Calls.mono (kind_impl p s.k 2 _ HPR.out HSK.out HKQ.out) ?_
  rintro e w3 ⟨rfl, b3⟩
  have p3 := Lib.hid (K.below b3 p2.out)
  have r3 := Lib.hid (K.below b3 r2.out)
  have z3 := Lib.hid (K.below b3 z2.out)
  have B3 := Lib.hid (bthen B2.out b3)
  clear b3 p2 r2 z2 B2
  go_wp2_with fail
  refine Calls.mono (formatOfC (Uh.mk 2 0 0 0 0 0 0 0 0 0 0 false) none none 0 0 0 0 _) ?_
  rintro e w4 ⟨rfl, rfl⟩
  simp only [show ∀ v, fmtV 2 v = .iface 111 v from fun _ => rfl]
  have b4 := Joins.below_alloc1 w3 (.cells #[.int .i64 2, .int .i64 0, .int .i64 0, .int .i64 0, .int .i64 0, .int .i64 0, .int .i64 0, .int .i64 0, .int .i64 0, .int .i64 0, .int .i64 0, .bool false, .slice none 0 0, .slice none 0 0] 36)
  have p4 := Lib.hid (K.below b4 p3.out)
  have r4 := Lib.hid (K.below b4 r3.out)
  have z4 := Lib.hid (K.below b4 z3.out)
  have B4 := Lib.hid (bthen B3.out b4)
  clear b4 p3 r3 z3 B3
  generalize w3.alloc (.cells #[.int .i64 2, .int .i64 0, .int .i64 0, .int .i64 0, .int .i64 0, .int .i64 0, .int .i64 0, .int .i64 0, .int .i64 0, .int .i64 0, .int .i64 0, .bool false, .slice none 0 0, .slice none 0 0] 36) = w4 at p4 r4 z4 B4 ⊢
  go_wp2_with fail
  refine Calls.mono (head_udp (Uh.mk 2 0 0 0 0 0 0 0 0 0 0 false) none none 0 0 0 0 _ (by omega)) ?_
  rintro e w5 ⟨rfl, b5⟩
  have p5 := Lib.hid (K.below b5 p4.out)
  have r5 := Lib.hid (K.below b5 r4.out)
  have z5 := Lib.hid (K.below b5 z4.out)
  have B5 := Lib.hid (bthen B4.out b5)
  clear b5 p4 r4 z4 B4
  have p6 := Lib.hid (K.old p5.out (.cells #[.slice (some a) n c, .int .i64 0] 79))
  have r6 := Lib.hid (K.old r5.out (.cells #[.slice (some a) n c, .int .i64 0] 79))
  have z6 := Lib.hid (K.old z5.out (.cells #[.slice (some a) n c, .int .i64 0] 79))
  have lw5 : w.heap.size + 1 + 1 < w5.heap.size := K.lt z5.out
  have B6 := Lib.hid (bthen B5.out (Joins.below_alloc1 w5 (.cells #[.slice (some a) n c, .int .i64 0] 79)))
  have RR : Hid (Rp (w5.alloc (.cells #[.slice (some a) n c, .int .i64 0] 79)) w5.heap.size (some a) n c bs 0) := Lib.hid ⟨K.new w5 _, (R0.out.below B6.out).more (by omega), HL.out, by omega, by omega⟩
  go_wp2_with fail
  clear p5 r5 z5 B5
  refine Calls.mono (HU.out _ _ RR.out) ?_
  rintro e w6 ⟨O, o, D, d, rfl, oo, od, ap, gg⟩
  try simp only
  have p7 := Lib.hid (K.kept gg p6.out (fun u hu => by cases hu; omega))
  have r7 := Lib.hid (K.kept gg r6.out (fun u hu => by cases hu; omega))
  have z7 := Lib.hid (K.kept gg z6.out (fun u hu => by cases hu; omega))
  have B7 := Lib.hid (bgrown B6.out gg (fun u hu => by cases hu; omega))
  clear RR p6 r6 z6 B6
  have lw6 : w5.heap.size + 1 ≤ w6.heap.size := by have := gg.size; simpa using this
  have d1 := K.cell (K.new w6 (.cells #[.int .i64 2, .int .i64 sport, .int .i64 dport, .int .i64 seq, .int .i64 ack, .int .i64 bits, .int .i64 window, .int .i64 urgent, .int .i64 ty, .int .i64 code, .int .i64 rest, .bool false, .slice O P o, .slice D Q d] 36)) 0 _ rfl
  have d2 := K.cell (K.old p7.out (.cells #[.int .i64 2, .int .i64 sport, .int .i64 dport, .int .i64 seq, .int .i64 ack, .int .i64 bits, .int .i64 window, .int .i64 urgent, .int .i64 ty, .int .i64 code, .int .i64 rest, .bool false, .slice O P o, .slice D Q d] 36)) 0 _ rfl
  have d3 := K.cell (K.new w6 (.cells #[.int .i64 2, .int .i64 sport, .int .i64 dport, .int .i64 seq, .int .i64 ack, .int .i64 bits, .int .i64 window, .int .i64 urgent, .int .i64 ty, .int .i64 code, .int .i64 rest, .bool false, .slice O P o, .slice D Q d] 36)) 11 _ rfl
  have f3 := frozen_of_row _ _ 11 _ _ (K.new w6 (.cells #[.int .i64 2, .int .i64 sport, .int .i64 dport, .int .i64 seq, .int .i64 ack, .int .i64 bits, .int .i64 window, .int .i64 urgent, .int .i64 ty, .int .i64 code, .int .i64 rest, .bool false, .slice O P o, .slice D Q d] 36))
  have p8 := Lib.hid (K.old p7.out (.cells #[.int .i64 2, .int .i64 sport, .int .i64 dport, .int .i64 seq, .int .i64 ack, .int .i64 bits, .int .i64 window, .int .i64 urgent, .int .i64 ty, .int .i64 code, .int .i64 rest, .bool true, .slice O P o, .slice D Q d] 36))
  have r8 := Lib.hid (K.old r7.out (.cells #[.int .i64 2, .int .i64 sport, .int .i64 dport, .int .i64 seq, .int .i64 ack, .int .i64 bits, .int .i64 window, .int .i64 urgent, .int .i64 ty, .int .i64 code, .int .i64 rest, .bool true, .slice O P o, .slice D Q d] 36))
  have z8 := Lib.hid (K.old z7.out (.cells #[.int .i64 2, .int .i64 sport, .int .i64 dport, .int .i64 seq, .int .i64 ack, .int .i64 bits, .int .i64 window, .int .i64 urgent, .int .i64 ty, .int .i64 code, .int .i64 rest, .bool true, .slice O P o, .slice D Q d] 36))
  have q8 := Lib.hid (K.new w6 (.cells #[.int .i64 2, .int .i64 sport, .int .i64 dport, .int .i64 seq, .int .i64 ack, .int .i64 bits, .int .i64 window, .int .i64 urgent, .int .i64 ty, .int .i64 code, .int .i64 rest, .bool true, .slice O P o, .slice D Q d] 36))
  have B8 := Lib.hid (bthen B7.out (Joins.below_alloc1 w6 (.cells #[.int .i64 2, .int .i64 sport, .int .i64 dport, .int .i64 seq, .int .i64 ack, .int .i64 bits, .int .i64 window, .int .i64 urgent, .int .i64 ty, .int .i64 code, .int .i64 rest, .bool true, .slice O P o, .slice D Q d] 36)))
  have O8 := Lib.hid (World.ownsRow.alloc (own_base oo (show w5.heap.size + 1 ≤ _ by simp)) (.cells #[.int .i64 2, .int .i64 sport, .int .i64 dport, .int .i64 seq, .int .i64 ack, .int .i64 bits, .int .i64 window, .int .i64 urgent, .int .i64 ty, .int .i64 code, .int .i64 rest, .bool true, .slice O P o, .slice D Q d] 36))
  have D8 := Lib.hid (World.ownsRow.alloc (own_base od (show w5.heap.size + 1 ≤ _ by simp)) (.cells #[.int .i64 2, .int .i64 sport, .int .i64 dport, .int .i64 seq, .int .i64 ack, .int .i64 bits, .int .i64 window, .int .i64 urgent, .int .i64 ty, .int .i64 code, .int .i64 rest, .bool true, .slice O P o, .slice D Q d] 36))
  have AP := Lib.hid ap
  clear oo od ap gg p7 r7 z7 B7
  go_upto_region 12 with (with_reducible refine storeNewU rfl _ _ rfl rfl rfl ?_)
  clear d1 d2 d3 f3
  generalize (w6.alloc (.cells #[.int .i64 2, .int .i64 sport, .int .i64 dport, .int .i64 seq, .int .i64 ack, .int .i64 bits, .int .i64 window, .int .i64 urgent, .int .i64 ty, .int .i64 code, .int .i64 rest, .bool true, .slice O P o, .slice D Q d] 36)) = w7 at p8 r8 z8 B8 q8 O8 D8 ⊢
  go_wp2_with (first | (with_reducible refine loadU rfl _ rfl w6.heap.size rfl q8.out ?_) | (with_reducible refine loadA rfl _ rfl w.heap.size rfl p8.out ?_) | (with_reducible refine loadA rfl _ rfl (w.heap.size + 1) rfl r8.out ?_))
  refine Calls.mono (usI (Uh.mk 2 sport dport seq ack bits window urgent ty code rest true) s t O D P o Q d os ds _ (RB.of_own O8.out) HO.out (RB.of_own D8.out) HD.out (by omega) (by omega)) ?_
  rintro e w8 ⟨rfl, b8⟩
  rw [HS.out]
  have p9 := Lib.hid (K.below b8 p8.out)
  have r9 := Lib.hid (K.below b8 r8.out)
  have z9 := Lib.hid (K.below b8 z8.out)
  have q9 := Lib.hid (K.below b8 q8.out)
  have B9 := Lib.hid (bthen B8.out b8)
  have O9 := Lib.hid (own_below O8.out b8)
  have D9 := Lib.hid (own_below D8.out b8)
  clear b8 p8 r8 z8 B8 q8 O8 D8
  by_cases hS : (sm : Int) = S
  · have HFG := Lib.hid (HF.out.1 hS)
    have hX : ((sm : Int) != S) = false := by simp [hS]
    go_wp2_with (first | (with_reducible refine loadU rfl _ rfl w6.heap.size rfl q9.out ?_) | (with_reducible refine storeU rfl _ _ rfl (w.heap.size + 1 + 1) rfl rfl z9.out ?_))
    (try simp only [Exit.inBlock, Exit.then])
    have hsz : w.heap.size + 1 + 1 < w5.heap.size + 1 := by omega
    refine bodyPost_ret (v := .tuple #[.agg #[.int .i64 2, .int .i64 sport, .int .i64 dport, .int .i64 seq, .int .i64 ack, .int .i64 bits, .int .i64 window, .int .i64 urgent, .int .i64 ty, .int .i64 code, .int .i64 rest, .bool true, .slice O P o, .slice D Q d], .int .i64 0]) ?_ rfl (uread_yes (x := (Uh.mk 2 sport dport seq ack bits window urgent ty code rest true)) HFG.out HX.out.1 HX.out.2.1 HX.out.2.2 HO.out HD.out (own_base (K.setRow_own _ O9.out hsz) (by omega)) (own_base (K.setRow_own _ D9.out hsz) (by omega)) AP.out (K.setRow_below B9.out (by omega) _))
    exact K.resCellTmp Try.results18 _ _ _ (w.heap.size + 1 + 1) _ rfl (run_loadVar_row _ _ 36 36 _ (0, 0) _ (setRow_heap _ _ _ _ _ _ z9.out) Try.underlying36 rfl info_up)
  · have HFB := Lib.hid (HF.out.2 hS)
    have hX : ((sm : Int) != S) = true := by simpa using hS
    go_wp2_with (with_reducible refine storeU rfl _ _ rfl (w.heap.size + 1 + 1) rfl rfl z9.out ?_)
    (try simp only [Exit.inBlock, Exit.then])
    refine bodyPost_ret (v := .tuple #[.agg #[.int .i64 0, .int .i64 0, .int .i64 0, .int .i64 0, .int .i64 0, .int .i64 0, .int .i64 0, .int .i64 0, .int .i64 0, .int .i64 0, .int .i64 0, .bool false, .slice none 0 0, .slice none 0 0], .int .i64 6]) ?_ rfl (uread_no HFB.out (by omega) (K.setRow_below B9.out (by omega) _))
    exact K.resCellTmp Try.results18 _ _ _ (w.heap.size + 1 + 1) _ rfl (run_loadVar_row _ _ 36 36 _ (0, 0) _ (setRow_heap _ _ _ _ _ _ z9.out) Try.underlying36 rfl info_up)
set_option maxHeartbeats 4000000 in
theorem urI_2b (w : World) (a : Addr) (n c : Nat) (bs : List UInt8) (p : Int) (s t : Ad) (hr : RB w w.heap.size (some a) bs) (hl : bs.length = n) (hc : n ≤ c) (hn : n ≤ 1500) (hp : pairA s t = true) (hq : upTo p 255 = true) (hs : s.k = 4 ∨ s.k = 6) (hk : kindU p s.k = 2) (sport dport seq ack bits window urgent ty code rest : Int) (os ds : List UInt8) (P Q sm : Nat) (S : Int) (ho : os.length = P) (hd : ds.length = Q) (hP : P ≤ 1500) (hQ : Q ≤ 1500) (h3 : 8 ≤ n) (h4 : s.k = 4) (h0 : ¬ sm = 0) (hsum : (Uh.mk 2 sport dport seq ack bits window urgent ty code rest false).sum os ds s t = S)  (hf0 : (sm : Int) = S → uhC bs p s t = 0) (hf6 : ¬ (sm : Int) = S → uhC bs p s t = 6) (hx1 : uhX bs (kindU p s.k) s.k = (Uh.mk 2 sport dport seq ack bits window urgent ty code rest false)) (hx2 : uhO bs (kindU p s.k) = os) (hx3 : uhB bs (kindU p s.k) = ds) (hu : ∀ (v : World) (g : Nat), Rp v g (some a) n c bs 0 → Calls Try.prog 49 #[.iface 111 (.agg #[.int .i64 2, .int .i64 0, .int .i64 0, .int .i64 0, .int .i64 0, .int .i64 0, .int .i64 0, .int .i64 0, .int .i64 0, .int .i64 0, .int .i64 0, .bool false, .slice none 0 0, .slice none 0 0]), .pointer (some ⟨g, 0, none⟩)] v (TakeOut (Uh.mk 2 sport dport seq ack bits window urgent ty code rest false) os ds P Q sm g v)) : Calls Try.prog 18 #[.slice (some a) n c, .int .i64 p, .agg #[.int .i64 s.k, .int .i64 s.a, .int .i64 s.b, .int .i64 s.c, .int .i64 s.d], .agg #[.int .i64 t.k, .int .i64 t.a, .int .i64 t.b, .int .i64 t.c, .int .i64 t.d]] w (URead bs p s t w) := by
  have HX := Lib.hid (And.intro hx1 (And.intro hx2 hx3))
  clear hx1 hx2 hx3
  have HP := Lib.hid hp
  have HPR := Lib.hid hq
  have HQ := Lib.hid hq
  have HKQ := Lib.hid hk
  have HSK := Lib.hid hs
  have HF := Lib.hid (And.intro hf0 hf6)
  have HU := Lib.hid hu
  have HS := Lib.hid hsum
  have HO := Lib.hid ho
  have HD := Lib.hid hd
  have hI2 : ¬ (n : Int) < 8 := by omega
  clear hf0 hf6 hu hsum ho hd
  have g4 : (s.k == 4) = true := by simp; omega
  have g0 : ((sm : Int) == 0) = false := by simp; omega
  clear h4 h0
  have R0 := Lib.hid hr
  have HL := Lib.hid hl
  have hI : ¬ (1500 : Int) < (n : Int) := by omega
  clear hr hp hq hk hs hl
  have p0 : Hid ((((w.alloc (.cells #[.int .i64 s.k, .int .i64 s.a, .int .i64 s.b, .int .i64 s.c, .int .i64 s.d] 27)).alloc (.cells #[.int .i64 t.k, .int .i64 t.a, .int .i64 t.b, .int .i64 t.c, .int .i64 t.d] 27)).alloc (.cells #[.int .i64 0, .int .i64 0, .int .i64 0, .int .i64 0, .int .i64 0, .int .i64 0, .int .i64 0, .int .i64 0, .int .i64 0, .int .i64 0, .int .i64 0, .bool false, .slice none 0 0, .slice none 0 0] 36)).heap[w.heap.size]? = some (.cells #[.int .i64 s.k, .int .i64 s.a, .int .i64 s.b, .int .i64 s.c, .int .i64 s.d] 27)) := Lib.hid (by repeat (first | exact K.newAt (by first | rfl | (simp; done)) | refine K.oldAt (by first | (simp; done) | (simp; omega)) ?_))
  have r0 : Hid ((((w.alloc (.cells #[.int .i64 s.k, .int .i64 s.a, .int .i64 s.b, .int .i64 s.c, .int .i64 s.d] 27)).alloc (.cells #[.int .i64 t.k, .int .i64 t.a, .int .i64 t.b, .int .i64 t.c, .int .i64 t.d] 27)).alloc (.cells #[.int .i64 0, .int .i64 0, .int .i64 0, .int .i64 0, .int .i64 0, .int .i64 0, .int .i64 0, .int .i64 0, .int .i64 0, .int .i64 0, .int .i64 0, .bool false, .slice none 0 0, .slice none 0 0] 36)).heap[w.heap.size + 1]? = some (.cells #[.int .i64 t.k, .int .i64 t.a, .int .i64 t.b, .int .i64 t.c, .int .i64 t.d] 27)) := Lib.hid (by repeat (first | exact K.newAt (by first | rfl | (simp; done)) | refine K.oldAt (by first | (simp; done) | (simp; omega)) ?_))
  have z0 : Hid ((((w.alloc (.cells #[.int .i64 s.k, .int .i64 s.a, .int .i64 s.b, .int .i64 s.c, .int .i64 s.d] 27)).alloc (.cells #[.int .i64 t.k, .int .i64 t.a, .int .i64 t.b, .int .i64 t.c, .int .i64 t.d] 27)).alloc (.cells #[.int .i64 0, .int .i64 0, .int .i64 0, .int .i64 0, .int .i64 0, .int .i64 0, .int .i64 0, .int .i64 0, .int .i64 0, .int .i64 0, .int .i64 0, .bool false, .slice none 0 0, .slice none 0 0] 36)).heap[w.heap.size + 1 + 1]? = some (.cells #[.int .i64 0, .int .i64 0, .int .i64 0, .int .i64 0, .int .i64 0, .int .i64 0, .int .i64 0, .int .i64 0, .int .i64 0, .int .i64 0, .int .i64 0, .bool false, .slice none 0 0, .slice none 0 0] 36)) := Lib.hid (by repeat (first | exact K.newAt (by first | rfl | (simp; done)) | refine K.oldAt (by first | (simp; done) | (simp; omega)) ?_))
  have B0 : Hid (Below w.heap.size w (((w.alloc (.cells #[.int .i64 s.k, .int .i64 s.a, .int .i64 s.b, .int .i64 s.c, .int .i64 s.d] 27)).alloc (.cells #[.int .i64 t.k, .int .i64 t.a, .int .i64 t.b, .int .i64 t.c, .int .i64 t.d] 27)).alloc (.cells #[.int .i64 0, .int .i64 0, .int .i64 0, .int .i64 0, .int .i64 0, .int .i64 0, .int .i64 0, .int .i64 0, .int .i64 0, .int .i64 0, .int .i64 0, .bool false, .slice none 0 0, .slice none 0 0] 36))) := Lib.hid (by go_grown)
  go_enter Try.func18, Try.ntmps18
  go_wp2_with (first | (with_reducible refine loadA rfl _ rfl w.heap.size rfl p0.out ?_) | (with_reducible refine loadA rfl _ rfl (w.heap.size + 1) rfl r0.out ?_))
  refine Calls.mono (pairIB s t true HP.out _) ?_
  rintro e w1 ⟨rfl, b1⟩
  have p1 := Lib.hid (K.below b1 p0.out)
  have r1 := Lib.hid (K.below b1 r0.out)
  have z1 := Lib.hid (K.below b1 z0.out)
  have B1 := Lib.hid (bthen B0.out b1)
  clear b1 p0 r0 z0 B0
  go_wp2_with fail
  refine Calls.mono (protoB p true _ HQ.out) ?_
  rintro e w2 ⟨rfl, b2⟩
  have p2 := Lib.hid (K.below b2 p1.out)
  have r2 := Lib.hid (K.below b2 r1.out)
  have z2 := Lib.hid (K.below b2 z1.out)
  have B2 := Lib.hid (bthen B1.out b2)
  clear b2 p1 r1 z1 B1
  have d0 := K.cell p2.out 0 _ rfl
  go_wp2_with fail
  clear d0
  refine Calls.mono (kind_impl p s.k 2 _ HPR.out HSK.out HKQ.out) ?_
  rintro e w3 ⟨rfl, b3⟩
  have p3 := Lib.hid (K.below b3 p2.out)
  have r3 := Lib.hid (K.below b3 r2.out)
  have z3 := Lib.hid (K.below b3 z2.out)
  have B3 := Lib.hid (bthen B2.out b3)
  clear b3 p2 r2 z2 B2
  go_wp2_with fail
  refine Calls.mono (formatOfC (Uh.mk 2 0 0 0 0 0 0 0 0 0 0 false) none none 0 0 0 0 _) ?_
  rintro e w4 ⟨rfl, rfl⟩
  simp only [show ∀ v, fmtV 2 v = .iface 111 v from fun _ => rfl]
  have b4 := Joins.below_alloc1 w3 (.cells #[.int .i64 2, .int .i64 0, .int .i64 0, .int .i64 0, .int .i64 0, .int .i64 0, .int .i64 0, .int .i64 0, .int .i64 0, .int .i64 0, .int .i64 0, .bool false, .slice none 0 0, .slice none 0 0] 36)
  have p4 := Lib.hid (K.below b4 p3.out)
  have r4 := Lib.hid (K.below b4 r3.out)
  have z4 := Lib.hid (K.below b4 z3.out)
  have B4 := Lib.hid (bthen B3.out b4)
  clear b4 p3 r3 z3 B3
  generalize w3.alloc (.cells #[.int .i64 2, .int .i64 0, .int .i64 0, .int .i64 0, .int .i64 0, .int .i64 0, .int .i64 0, .int .i64 0, .int .i64 0, .int .i64 0, .int .i64 0, .bool false, .slice none 0 0, .slice none 0 0] 36) = w4 at p4 r4 z4 B4 ⊢
  go_wp2_with fail
  refine Calls.mono (head_udp (Uh.mk 2 0 0 0 0 0 0 0 0 0 0 false) none none 0 0 0 0 _ (by omega)) ?_
  rintro e w5 ⟨rfl, b5⟩
  have p5 := Lib.hid (K.below b5 p4.out)
  have r5 := Lib.hid (K.below b5 r4.out)
  have z5 := Lib.hid (K.below b5 z4.out)
  have B5 := Lib.hid (bthen B4.out b5)
  clear b5 p4 r4 z4 B4
  have p6 := Lib.hid (K.old p5.out (.cells #[.slice (some a) n c, .int .i64 0] 79))
  have r6 := Lib.hid (K.old r5.out (.cells #[.slice (some a) n c, .int .i64 0] 79))
  have z6 := Lib.hid (K.old z5.out (.cells #[.slice (some a) n c, .int .i64 0] 79))
  have lw5 : w.heap.size + 1 + 1 < w5.heap.size := K.lt z5.out
  have B6 := Lib.hid (bthen B5.out (Joins.below_alloc1 w5 (.cells #[.slice (some a) n c, .int .i64 0] 79)))
  have RR : Hid (Rp (w5.alloc (.cells #[.slice (some a) n c, .int .i64 0] 79)) w5.heap.size (some a) n c bs 0) := Lib.hid ⟨K.new w5 _, (R0.out.below B6.out).more (by omega), HL.out, by omega, by omega⟩
  go_wp2_with fail
  clear p5 r5 z5 B5
  refine Calls.mono (HU.out _ _ RR.out) ?_
  rintro e w6 ⟨O, o, D, d, rfl, oo, od, ap, gg⟩
  try simp only
  have p7 := Lib.hid (K.kept gg p6.out (fun u hu => by cases hu; omega))
  have r7 := Lib.hid (K.kept gg r6.out (fun u hu => by cases hu; omega))
  have z7 := Lib.hid (K.kept gg z6.out (fun u hu => by cases hu; omega))
  have B7 := Lib.hid (bgrown B6.out gg (fun u hu => by cases hu; omega))
  clear RR p6 r6 z6 B6
  have lw6 : w5.heap.size + 1 ≤ w6.heap.size := by have := gg.size; simpa using this
  have d1 := K.cell (K.new w6 (.cells #[.int .i64 2, .int .i64 sport, .int .i64 dport, .int .i64 seq, .int .i64 ack, .int .i64 bits, .int .i64 window, .int .i64 urgent, .int .i64 ty, .int .i64 code, .int .i64 rest, .bool false, .slice O P o, .slice D Q d] 36)) 0 _ rfl
  have d2 := K.cell (K.old p7.out (.cells #[.int .i64 2, .int .i64 sport, .int .i64 dport, .int .i64 seq, .int .i64 ack, .int .i64 bits, .int .i64 window, .int .i64 urgent, .int .i64 ty, .int .i64 code, .int .i64 rest, .bool false, .slice O P o, .slice D Q d] 36)) 0 _ rfl
  have d3 := K.cell (K.new w6 (.cells #[.int .i64 2, .int .i64 sport, .int .i64 dport, .int .i64 seq, .int .i64 ack, .int .i64 bits, .int .i64 window, .int .i64 urgent, .int .i64 ty, .int .i64 code, .int .i64 rest, .bool false, .slice O P o, .slice D Q d] 36)) 11 _ rfl
  have f3 := frozen_of_row _ _ 11 _ _ (K.new w6 (.cells #[.int .i64 2, .int .i64 sport, .int .i64 dport, .int .i64 seq, .int .i64 ack, .int .i64 bits, .int .i64 window, .int .i64 urgent, .int .i64 ty, .int .i64 code, .int .i64 rest, .bool false, .slice O P o, .slice D Q d] 36))
  have p8 := Lib.hid (K.old p7.out (.cells #[.int .i64 2, .int .i64 sport, .int .i64 dport, .int .i64 seq, .int .i64 ack, .int .i64 bits, .int .i64 window, .int .i64 urgent, .int .i64 ty, .int .i64 code, .int .i64 rest, .bool false, .slice O P o, .slice D Q d] 36))
  have r8 := Lib.hid (K.old r7.out (.cells #[.int .i64 2, .int .i64 sport, .int .i64 dport, .int .i64 seq, .int .i64 ack, .int .i64 bits, .int .i64 window, .int .i64 urgent, .int .i64 ty, .int .i64 code, .int .i64 rest, .bool false, .slice O P o, .slice D Q d] 36))
  have z8 := Lib.hid (K.old z7.out (.cells #[.int .i64 2, .int .i64 sport, .int .i64 dport, .int .i64 seq, .int .i64 ack, .int .i64 bits, .int .i64 window, .int .i64 urgent, .int .i64 ty, .int .i64 code, .int .i64 rest, .bool false, .slice O P o, .slice D Q d] 36))
  have q8 := Lib.hid (K.new w6 (.cells #[.int .i64 2, .int .i64 sport, .int .i64 dport, .int .i64 seq, .int .i64 ack, .int .i64 bits, .int .i64 window, .int .i64 urgent, .int .i64 ty, .int .i64 code, .int .i64 rest, .bool false, .slice O P o, .slice D Q d] 36))
  have B8 := Lib.hid (bthen B7.out (Joins.below_alloc1 w6 (.cells #[.int .i64 2, .int .i64 sport, .int .i64 dport, .int .i64 seq, .int .i64 ack, .int .i64 bits, .int .i64 window, .int .i64 urgent, .int .i64 ty, .int .i64 code, .int .i64 rest, .bool false, .slice O P o, .slice D Q d] 36)))
  have O8 := Lib.hid (World.ownsRow.alloc (own_base oo (show w5.heap.size + 1 ≤ _ by simp)) (.cells #[.int .i64 2, .int .i64 sport, .int .i64 dport, .int .i64 seq, .int .i64 ack, .int .i64 bits, .int .i64 window, .int .i64 urgent, .int .i64 ty, .int .i64 code, .int .i64 rest, .bool false, .slice O P o, .slice D Q d] 36))
  have D8 := Lib.hid (World.ownsRow.alloc (own_base od (show w5.heap.size + 1 ≤ _ by simp)) (.cells #[.int .i64 2, .int .i64 sport, .int .i64 dport, .int .i64 seq, .int .i64 ack, .int .i64 bits, .int .i64 window, .int .i64 urgent, .int .i64 ty, .int .i64 code, .int .i64 rest, .bool false, .slice O P o, .slice D Q d] 36))
  have AP := Lib.hid ap
  clear oo od ap gg p7 r7 z7 B7
  go_upto_region 12 with (with_reducible refine storeNewU rfl _ _ rfl rfl rfl ?_)
  clear d1 d2 d3 f3
  generalize (w6.alloc (.cells #[.int .i64 2, .int .i64 sport, .int .i64 dport, .int .i64 seq, .int .i64 ack, .int .i64 bits, .int .i64 window, .int .i64 urgent, .int .i64 ty, .int .i64 code, .int .i64 rest, .bool false, .slice O P o, .slice D Q d] 36)) = w7 at p8 r8 z8 B8 q8 O8 D8 ⊢
  go_wp2_with (first | (with_reducible refine loadU rfl _ rfl w6.heap.size rfl q8.out ?_) | (with_reducible refine loadA rfl _ rfl w.heap.size rfl p8.out ?_) | (with_reducible refine loadA rfl _ rfl (w.heap.size + 1) rfl r8.out ?_))
  refine Calls.mono (usI (Uh.mk 2 sport dport seq ack bits window urgent ty code rest false) s t O D P o Q d os ds _ (RB.of_own O8.out) HO.out (RB.of_own D8.out) HD.out (by omega) (by omega)) ?_
  rintro e w8 ⟨rfl, b8⟩
  rw [HS.out]
  have p9 := Lib.hid (K.below b8 p8.out)
  have r9 := Lib.hid (K.below b8 r8.out)
  have z9 := Lib.hid (K.below b8 z8.out)
  have q9 := Lib.hid (K.below b8 q8.out)
  have B9 := Lib.hid (bthen B8.out b8)
  have O9 := Lib.hid (own_below O8.out b8)
  have D9 := Lib.hid (own_below D8.out b8)
  clear b8 p8 r8 z8 B8 q8 O8 D8
  by_cases hS : (sm : Int) = S
  · have HFG := Lib.hid (HF.out.1 hS)
    have hX : ((sm : Int) != S) = false := by simp [hS]
    go_wp2_with (first | (with_reducible refine loadU rfl _ rfl w6.heap.size rfl q9.out ?_) | (with_reducible refine storeU rfl _ _ rfl (w.heap.size + 1 + 1) rfl rfl z9.out ?_))
    (try simp only [Exit.inBlock, Exit.then])
    have hsz : w.heap.size + 1 + 1 < w5.heap.size + 1 := by omega
    refine bodyPost_ret (v := .tuple #[.agg #[.int .i64 2, .int .i64 sport, .int .i64 dport, .int .i64 seq, .int .i64 ack, .int .i64 bits, .int .i64 window, .int .i64 urgent, .int .i64 ty, .int .i64 code, .int .i64 rest, .bool false, .slice O P o, .slice D Q d], .int .i64 0]) ?_ rfl (uread_yes (x := (Uh.mk 2 sport dport seq ack bits window urgent ty code rest false)) HFG.out HX.out.1 HX.out.2.1 HX.out.2.2 HO.out HD.out (own_base (K.setRow_own _ O9.out hsz) (by omega)) (own_base (K.setRow_own _ D9.out hsz) (by omega)) AP.out (K.setRow_below B9.out (by omega) _))
    exact K.resCellTmp Try.results18 _ _ _ (w.heap.size + 1 + 1) _ rfl (run_loadVar_row _ _ 36 36 _ (0, 0) _ (setRow_heap _ _ _ _ _ _ z9.out) Try.underlying36 rfl info_up)
  · have HFB := Lib.hid (HF.out.2 hS)
    have hX : ((sm : Int) != S) = true := by simpa using hS
    go_wp2_with (with_reducible refine storeU rfl _ _ rfl (w.heap.size + 1 + 1) rfl rfl z9.out ?_)
    (try simp only [Exit.inBlock, Exit.then])
    refine bodyPost_ret (v := .tuple #[.agg #[.int .i64 0, .int .i64 0, .int .i64 0, .int .i64 0, .int .i64 0, .int .i64 0, .int .i64 0, .int .i64 0, .int .i64 0, .int .i64 0, .int .i64 0, .bool false, .slice none 0 0, .slice none 0 0], .int .i64 6]) ?_ rfl (uread_no HFB.out (by omega) (K.setRow_below B9.out (by omega) _))
    exact K.resCellTmp Try.results18 _ _ _ (w.heap.size + 1 + 1) _ rfl (run_loadVar_row _ _ 36 36 _ (0, 0) _ (setRow_heap _ _ _ _ _ _ z9.out) Try.underlying36 rfl info_up)
set_option maxHeartbeats 4000000 in
theorem urI_2c (w : World) (a : Addr) (n c : Nat) (bs : List UInt8) (p : Int) (s t : Ad) (hr : RB w w.heap.size (some a) bs) (hl : bs.length = n) (hc : n ≤ c) (hn : n ≤ 1500) (hp : pairA s t = true) (hq : upTo p 255 = true) (hs : s.k = 4 ∨ s.k = 6) (hk : kindU p s.k = 2) (sport dport seq ack bits window urgent ty code rest : Int) (os ds : List UInt8) (P Q sm : Nat) (S : Int) (ho : os.length = P) (hd : ds.length = Q) (hP : P ≤ 1500) (hQ : Q ≤ 1500) (h3 : 8 ≤ n) (h4 : ¬ s.k = 4) (hsum : (Uh.mk 2 sport dport seq ack bits window urgent ty code rest false).sum os ds s t = S)  (hf0 : (sm : Int) = S → uhC bs p s t = 0) (hf6 : ¬ (sm : Int) = S → uhC bs p s t = 6) (hx1 : uhX bs (kindU p s.k) s.k = (Uh.mk 2 sport dport seq ack bits window urgent ty code rest false)) (hx2 : uhO bs (kindU p s.k) = os) (hx3 : uhB bs (kindU p s.k) = ds) (hu : ∀ (v : World) (g : Nat), Rp v g (some a) n c bs 0 → Calls Try.prog 49 #[.iface 111 (.agg #[.int .i64 2, .int .i64 0, .int .i64 0, .int .i64 0, .int .i64 0, .int .i64 0, .int .i64 0, .int .i64 0, .int .i64 0, .int .i64 0, .int .i64 0, .bool false, .slice none 0 0, .slice none 0 0]), .pointer (some ⟨g, 0, none⟩)] v (TakeOut (Uh.mk 2 sport dport seq ack bits window urgent ty code rest false) os ds P Q sm g v)) : Calls Try.prog 18 #[.slice (some a) n c, .int .i64 p, .agg #[.int .i64 s.k, .int .i64 s.a, .int .i64 s.b, .int .i64 s.c, .int .i64 s.d], .agg #[.int .i64 t.k, .int .i64 t.a, .int .i64 t.b, .int .i64 t.c, .int .i64 t.d]] w (URead bs p s t w) := by
  have HX := Lib.hid (And.intro hx1 (And.intro hx2 hx3))
  clear hx1 hx2 hx3
  have HP := Lib.hid hp
  have HPR := Lib.hid hq
  have HQ := Lib.hid hq
  have HKQ := Lib.hid hk
  have HSK := Lib.hid hs
  have HF := Lib.hid (And.intro hf0 hf6)
  have HU := Lib.hid hu
  have HS := Lib.hid hsum
  have HO := Lib.hid ho
  have HD := Lib.hid hd
  have hI2 : ¬ (n : Int) < 8 := by omega
  clear hf0 hf6 hu hsum ho hd
  have g4 : (s.k == 4) = false := by simp; omega
  clear h4
  have R0 := Lib.hid hr
  have HL := Lib.hid hl
  have hI : ¬ (1500 : Int) < (n : Int) := by omega
  clear hr hp hq hk hs hl
  have p0 : Hid ((((w.alloc (.cells #[.int .i64 s.k, .int .i64 s.a, .int .i64 s.b, .int .i64 s.c, .int .i64 s.d] 27)).alloc (.cells #[.int .i64 t.k, .int .i64 t.a, .int .i64 t.b, .int .i64 t.c, .int .i64 t.d] 27)).alloc (.cells #[.int .i64 0, .int .i64 0, .int .i64 0, .int .i64 0, .int .i64 0, .int .i64 0, .int .i64 0, .int .i64 0, .int .i64 0, .int .i64 0, .int .i64 0, .bool false, .slice none 0 0, .slice none 0 0] 36)).heap[w.heap.size]? = some (.cells #[.int .i64 s.k, .int .i64 s.a, .int .i64 s.b, .int .i64 s.c, .int .i64 s.d] 27)) := Lib.hid (by repeat (first | exact K.newAt (by first | rfl | (simp; done)) | refine K.oldAt (by first | (simp; done) | (simp; omega)) ?_))
  have r0 : Hid ((((w.alloc (.cells #[.int .i64 s.k, .int .i64 s.a, .int .i64 s.b, .int .i64 s.c, .int .i64 s.d] 27)).alloc (.cells #[.int .i64 t.k, .int .i64 t.a, .int .i64 t.b, .int .i64 t.c, .int .i64 t.d] 27)).alloc (.cells #[.int .i64 0, .int .i64 0, .int .i64 0, .int .i64 0, .int .i64 0, .int .i64 0, .int .i64 0, .int .i64 0, .int .i64 0, .int .i64 0, .int .i64 0, .bool false, .slice none 0 0, .slice none 0 0] 36)).heap[w.heap.size + 1]? = some (.cells #[.int .i64 t.k, .int .i64 t.a, .int .i64 t.b, .int .i64 t.c, .int .i64 t.d] 27)) := Lib.hid (by repeat (first | exact K.newAt (by first | rfl | (simp; done)) | refine K.oldAt (by first | (simp; done) | (simp; omega)) ?_))
  have z0 : Hid ((((w.alloc (.cells #[.int .i64 s.k, .int .i64 s.a, .int .i64 s.b, .int .i64 s.c, .int .i64 s.d] 27)).alloc (.cells #[.int .i64 t.k, .int .i64 t.a, .int .i64 t.b, .int .i64 t.c, .int .i64 t.d] 27)).alloc (.cells #[.int .i64 0, .int .i64 0, .int .i64 0, .int .i64 0, .int .i64 0, .int .i64 0, .int .i64 0, .int .i64 0, .int .i64 0, .int .i64 0, .int .i64 0, .bool false, .slice none 0 0, .slice none 0 0] 36)).heap[w.heap.size + 1 + 1]? = some (.cells #[.int .i64 0, .int .i64 0, .int .i64 0, .int .i64 0, .int .i64 0, .int .i64 0, .int .i64 0, .int .i64 0, .int .i64 0, .int .i64 0, .int .i64 0, .bool false, .slice none 0 0, .slice none 0 0] 36)) := Lib.hid (by repeat (first | exact K.newAt (by first | rfl | (simp; done)) | refine K.oldAt (by first | (simp; done) | (simp; omega)) ?_))
  have B0 : Hid (Below w.heap.size w (((w.alloc (.cells #[.int .i64 s.k, .int .i64 s.a, .int .i64 s.b, .int .i64 s.c, .int .i64 s.d] 27)).alloc (.cells #[.int .i64 t.k, .int .i64 t.a, .int .i64 t.b, .int .i64 t.c, .int .i64 t.d] 27)).alloc (.cells #[.int .i64 0, .int .i64 0, .int .i64 0, .int .i64 0, .int .i64 0, .int .i64 0, .int .i64 0, .int .i64 0, .int .i64 0, .int .i64 0, .int .i64 0, .bool false, .slice none 0 0, .slice none 0 0] 36))) := Lib.hid (by go_grown)
  go_enter Try.func18, Try.ntmps18
  go_wp2_with (first | (with_reducible refine loadA rfl _ rfl w.heap.size rfl p0.out ?_) | (with_reducible refine loadA rfl _ rfl (w.heap.size + 1) rfl r0.out ?_))
  refine Calls.mono (pairIB s t true HP.out _) ?_
  rintro e w1 ⟨rfl, b1⟩
  have p1 := Lib.hid (K.below b1 p0.out)
  have r1 := Lib.hid (K.below b1 r0.out)
  have z1 := Lib.hid (K.below b1 z0.out)
  have B1 := Lib.hid (bthen B0.out b1)
  clear b1 p0 r0 z0 B0
  go_wp2_with fail
  refine Calls.mono (protoB p true _ HQ.out) ?_
  rintro e w2 ⟨rfl, b2⟩
  have p2 := Lib.hid (K.below b2 p1.out)
  have r2 := Lib.hid (K.below b2 r1.out)
  have z2 := Lib.hid (K.below b2 z1.out)
  have B2 := Lib.hid (bthen B1.out b2)
  clear b2 p1 r1 z1 B1
  have d0 := K.cell p2.out 0 _ rfl
  go_wp2_with fail
  clear d0
  refine Calls.mono (kind_impl p s.k 2 _ HPR.out HSK.out HKQ.out) ?_
  rintro e w3 ⟨rfl, b3⟩
  have p3 := Lib.hid (K.below b3 p2.out)
  have r3 := Lib.hid (K.below b3 r2.out)
  have z3 := Lib.hid (K.below b3 z2.out)
  have B3 := Lib.hid (bthen B2.out b3)
  clear b3 p2 r2 z2 B2
  go_wp2_with fail
  refine Calls.mono (formatOfC (Uh.mk 2 0 0 0 0 0 0 0 0 0 0 false) none none 0 0 0 0 _) ?_
  rintro e w4 ⟨rfl, rfl⟩
  simp only [show ∀ v, fmtV 2 v = .iface 111 v from fun _ => rfl]
  have b4 := Joins.below_alloc1 w3 (.cells #[.int .i64 2, .int .i64 0, .int .i64 0, .int .i64 0, .int .i64 0, .int .i64 0, .int .i64 0, .int .i64 0, .int .i64 0, .int .i64 0, .int .i64 0, .bool false, .slice none 0 0, .slice none 0 0] 36)
  have p4 := Lib.hid (K.below b4 p3.out)
  have r4 := Lib.hid (K.below b4 r3.out)
  have z4 := Lib.hid (K.below b4 z3.out)
  have B4 := Lib.hid (bthen B3.out b4)
  clear b4 p3 r3 z3 B3
  generalize w3.alloc (.cells #[.int .i64 2, .int .i64 0, .int .i64 0, .int .i64 0, .int .i64 0, .int .i64 0, .int .i64 0, .int .i64 0, .int .i64 0, .int .i64 0, .int .i64 0, .bool false, .slice none 0 0, .slice none 0 0] 36) = w4 at p4 r4 z4 B4 ⊢
  go_wp2_with fail
  refine Calls.mono (head_udp (Uh.mk 2 0 0 0 0 0 0 0 0 0 0 false) none none 0 0 0 0 _ (by omega)) ?_
  rintro e w5 ⟨rfl, b5⟩
  have p5 := Lib.hid (K.below b5 p4.out)
  have r5 := Lib.hid (K.below b5 r4.out)
  have z5 := Lib.hid (K.below b5 z4.out)
  have B5 := Lib.hid (bthen B4.out b5)
  clear b5 p4 r4 z4 B4
  have p6 := Lib.hid (K.old p5.out (.cells #[.slice (some a) n c, .int .i64 0] 79))
  have r6 := Lib.hid (K.old r5.out (.cells #[.slice (some a) n c, .int .i64 0] 79))
  have z6 := Lib.hid (K.old z5.out (.cells #[.slice (some a) n c, .int .i64 0] 79))
  have lw5 : w.heap.size + 1 + 1 < w5.heap.size := K.lt z5.out
  have B6 := Lib.hid (bthen B5.out (Joins.below_alloc1 w5 (.cells #[.slice (some a) n c, .int .i64 0] 79)))
  have RR : Hid (Rp (w5.alloc (.cells #[.slice (some a) n c, .int .i64 0] 79)) w5.heap.size (some a) n c bs 0) := Lib.hid ⟨K.new w5 _, (R0.out.below B6.out).more (by omega), HL.out, by omega, by omega⟩
  go_wp2_with fail
  clear p5 r5 z5 B5
  refine Calls.mono (HU.out _ _ RR.out) ?_
  rintro e w6 ⟨O, o, D, d, rfl, oo, od, ap, gg⟩
  try simp only
  have p7 := Lib.hid (K.kept gg p6.out (fun u hu => by cases hu; omega))
  have r7 := Lib.hid (K.kept gg r6.out (fun u hu => by cases hu; omega))
  have z7 := Lib.hid (K.kept gg z6.out (fun u hu => by cases hu; omega))
  have B7 := Lib.hid (bgrown B6.out gg (fun u hu => by cases hu; omega))
  clear RR p6 r6 z6 B6
  have lw6 : w5.heap.size + 1 ≤ w6.heap.size := by have := gg.size; simpa using this
  have d1 := K.cell (K.new w6 (.cells #[.int .i64 2, .int .i64 sport, .int .i64 dport, .int .i64 seq, .int .i64 ack, .int .i64 bits, .int .i64 window, .int .i64 urgent, .int .i64 ty, .int .i64 code, .int .i64 rest, .bool false, .slice O P o, .slice D Q d] 36)) 0 _ rfl
  have d2 := K.cell (K.old p7.out (.cells #[.int .i64 2, .int .i64 sport, .int .i64 dport, .int .i64 seq, .int .i64 ack, .int .i64 bits, .int .i64 window, .int .i64 urgent, .int .i64 ty, .int .i64 code, .int .i64 rest, .bool false, .slice O P o, .slice D Q d] 36)) 0 _ rfl
  have d3 := K.cell (K.new w6 (.cells #[.int .i64 2, .int .i64 sport, .int .i64 dport, .int .i64 seq, .int .i64 ack, .int .i64 bits, .int .i64 window, .int .i64 urgent, .int .i64 ty, .int .i64 code, .int .i64 rest, .bool false, .slice O P o, .slice D Q d] 36)) 11 _ rfl
  have f3 := frozen_of_row _ _ 11 _ _ (K.new w6 (.cells #[.int .i64 2, .int .i64 sport, .int .i64 dport, .int .i64 seq, .int .i64 ack, .int .i64 bits, .int .i64 window, .int .i64 urgent, .int .i64 ty, .int .i64 code, .int .i64 rest, .bool false, .slice O P o, .slice D Q d] 36))
  have p8 := Lib.hid (K.old p7.out (.cells #[.int .i64 2, .int .i64 sport, .int .i64 dport, .int .i64 seq, .int .i64 ack, .int .i64 bits, .int .i64 window, .int .i64 urgent, .int .i64 ty, .int .i64 code, .int .i64 rest, .bool false, .slice O P o, .slice D Q d] 36))
  have r8 := Lib.hid (K.old r7.out (.cells #[.int .i64 2, .int .i64 sport, .int .i64 dport, .int .i64 seq, .int .i64 ack, .int .i64 bits, .int .i64 window, .int .i64 urgent, .int .i64 ty, .int .i64 code, .int .i64 rest, .bool false, .slice O P o, .slice D Q d] 36))
  have z8 := Lib.hid (K.old z7.out (.cells #[.int .i64 2, .int .i64 sport, .int .i64 dport, .int .i64 seq, .int .i64 ack, .int .i64 bits, .int .i64 window, .int .i64 urgent, .int .i64 ty, .int .i64 code, .int .i64 rest, .bool false, .slice O P o, .slice D Q d] 36))
  have q8 := Lib.hid (K.new w6 (.cells #[.int .i64 2, .int .i64 sport, .int .i64 dport, .int .i64 seq, .int .i64 ack, .int .i64 bits, .int .i64 window, .int .i64 urgent, .int .i64 ty, .int .i64 code, .int .i64 rest, .bool false, .slice O P o, .slice D Q d] 36))
  have B8 := Lib.hid (bthen B7.out (Joins.below_alloc1 w6 (.cells #[.int .i64 2, .int .i64 sport, .int .i64 dport, .int .i64 seq, .int .i64 ack, .int .i64 bits, .int .i64 window, .int .i64 urgent, .int .i64 ty, .int .i64 code, .int .i64 rest, .bool false, .slice O P o, .slice D Q d] 36)))
  have O8 := Lib.hid (World.ownsRow.alloc (own_base oo (show w5.heap.size + 1 ≤ _ by simp)) (.cells #[.int .i64 2, .int .i64 sport, .int .i64 dport, .int .i64 seq, .int .i64 ack, .int .i64 bits, .int .i64 window, .int .i64 urgent, .int .i64 ty, .int .i64 code, .int .i64 rest, .bool false, .slice O P o, .slice D Q d] 36))
  have D8 := Lib.hid (World.ownsRow.alloc (own_base od (show w5.heap.size + 1 ≤ _ by simp)) (.cells #[.int .i64 2, .int .i64 sport, .int .i64 dport, .int .i64 seq, .int .i64 ack, .int .i64 bits, .int .i64 window, .int .i64 urgent, .int .i64 ty, .int .i64 code, .int .i64 rest, .bool false, .slice O P o, .slice D Q d] 36))
  have AP := Lib.hid ap
  clear oo od ap gg p7 r7 z7 B7
  go_upto_region 12 with (with_reducible refine storeNewU rfl _ _ rfl rfl rfl ?_)
  clear d1 d2 d3 f3
  generalize (w6.alloc (.cells #[.int .i64 2, .int .i64 sport, .int .i64 dport, .int .i64 seq, .int .i64 ack, .int .i64 bits, .int .i64 window, .int .i64 urgent, .int .i64 ty, .int .i64 code, .int .i64 rest, .bool false, .slice O P o, .slice D Q d] 36)) = w7 at p8 r8 z8 B8 q8 O8 D8 ⊢
  go_wp2_with (first | (with_reducible refine loadU rfl _ rfl w6.heap.size rfl q8.out ?_) | (with_reducible refine loadA rfl _ rfl w.heap.size rfl p8.out ?_) | (with_reducible refine loadA rfl _ rfl (w.heap.size + 1) rfl r8.out ?_))
  refine Calls.mono (usI (Uh.mk 2 sport dport seq ack bits window urgent ty code rest false) s t O D P o Q d os ds _ (RB.of_own O8.out) HO.out (RB.of_own D8.out) HD.out (by omega) (by omega)) ?_
  rintro e w8 ⟨rfl, b8⟩
  rw [HS.out]
  have p9 := Lib.hid (K.below b8 p8.out)
  have r9 := Lib.hid (K.below b8 r8.out)
  have z9 := Lib.hid (K.below b8 z8.out)
  have q9 := Lib.hid (K.below b8 q8.out)
  have B9 := Lib.hid (bthen B8.out b8)
  have O9 := Lib.hid (own_below O8.out b8)
  have D9 := Lib.hid (own_below D8.out b8)
  clear b8 p8 r8 z8 B8 q8 O8 D8
  by_cases hS : (sm : Int) = S
  · have HFG := Lib.hid (HF.out.1 hS)
    have hX : ((sm : Int) != S) = false := by simp [hS]
    go_wp2_with (first | (with_reducible refine loadU rfl _ rfl w6.heap.size rfl q9.out ?_) | (with_reducible refine storeU rfl _ _ rfl (w.heap.size + 1 + 1) rfl rfl z9.out ?_))
    (try simp only [Exit.inBlock, Exit.then])
    have hsz : w.heap.size + 1 + 1 < w5.heap.size + 1 := by omega
    refine bodyPost_ret (v := .tuple #[.agg #[.int .i64 2, .int .i64 sport, .int .i64 dport, .int .i64 seq, .int .i64 ack, .int .i64 bits, .int .i64 window, .int .i64 urgent, .int .i64 ty, .int .i64 code, .int .i64 rest, .bool false, .slice O P o, .slice D Q d], .int .i64 0]) ?_ rfl (uread_yes (x := (Uh.mk 2 sport dport seq ack bits window urgent ty code rest false)) HFG.out HX.out.1 HX.out.2.1 HX.out.2.2 HO.out HD.out (own_base (K.setRow_own _ O9.out hsz) (by omega)) (own_base (K.setRow_own _ D9.out hsz) (by omega)) AP.out (K.setRow_below B9.out (by omega) _))
    exact K.resCellTmp Try.results18 _ _ _ (w.heap.size + 1 + 1) _ rfl (run_loadVar_row _ _ 36 36 _ (0, 0) _ (setRow_heap _ _ _ _ _ _ z9.out) Try.underlying36 rfl info_up)
  · have HFB := Lib.hid (HF.out.2 hS)
    have hX : ((sm : Int) != S) = true := by simpa using hS
    go_wp2_with (with_reducible refine storeU rfl _ _ rfl (w.heap.size + 1 + 1) rfl rfl z9.out ?_)
    (try simp only [Exit.inBlock, Exit.then])
    refine bodyPost_ret (v := .tuple #[.agg #[.int .i64 0, .int .i64 0, .int .i64 0, .int .i64 0, .int .i64 0, .int .i64 0, .int .i64 0, .int .i64 0, .int .i64 0, .int .i64 0, .int .i64 0, .bool false, .slice none 0 0, .slice none 0 0], .int .i64 6]) ?_ rfl (uread_no HFB.out (by omega) (K.setRow_below B9.out (by omega) _))
    exact K.resCellTmp Try.results18 _ _ _ (w.heap.size + 1 + 1) _ rfl (run_loadVar_row _ _ 36 36 _ (0, 0) _ (setRow_heap _ _ _ _ _ _ z9.out) Try.underlying36 rfl info_up)
end Go.Proofs.Ythogonpjkngpjaa
