/-
  EtherRead in the model.
-/
import Derived.Test.YtaemonjiejgciaaEthRdLib
import Derived.Test.YtaemonjiejgciaaEth
namespace Go.Proofs.Ytaemonjiejgciaa
open Go.RowKit

set_option maxHeartbeats 400000 in
theorem specER_long (A : Option Addr) (n c : Nat) (bs : List UInt8) (w : World) (hl : bs.length = n) (hn : n ≤ 1048576) (h : 1600 < n) : Calls Try.prog 21 #[.slice A n c] w (EROut bs w) := by
  have H := Lib.hid (rdc_long (bs := bs) (by omega))
  have hI : (1600 : Int) < (n : Int) := by omega
  go_enter Try.func21, Try.ntmps21
  go_wp2
  go_returns
  exact erOut_no H.out (by omega) (by go_grown)

set_option maxHeartbeats 400000 in
theorem specER_short (A : Option Addr) (n c : Nat) (bs : List UInt8) (w : World) (hl : bs.length = n) (h : n < 14) : Calls Try.prog 21 #[.slice A n c] w (EROut bs w) := by
  have H := Lib.hid (rdc_short (bs := bs) (by omega))
  have hI : ¬ (1600 : Int) < (n : Int) := by omega
  have hJ : (n : Int) < 14 := by omega
  go_enter Try.func21, Try.ntmps21
  go_wp2
  go_returns
  exact erOut_no H.out (by omega) (by go_grown)

theorem own_fresh (w : World) (g j : Nat) (v : Value) (base : Nat) (h : base ≤ w.heap.size) : ((w.setCell ⟨g, j, none⟩ v).alloc (.cells #[] 5)).ownsRow base 5 1 (.slice (some ⟨w.heap.size, 0, none⟩) 0 0) ([] : List UInt8).length (cellsOf []) := by
  have e0 : (w.setCell ⟨g, j, none⟩ v).heap.size = w.heap.size := by simp
  have o0 := World.ownsRow_lit (base := base) (e := 5) (size := 1) (w.setCell ⟨g, j, none⟩ v) #[] 0 (by rw [e0]; exact h) (Nat.zero_le _) rfl
  rw [e0] at o0
  exact o0
theorem cut_at (A : Option Addr) (n c j l : Nat) (hj : j + l = n) : ∃ X d, (∀ w, (Instr.sliceAt 22 (.slice A n c) (some (.int .i64 (j : Int))) none none).run Try.prog w = .ok (.slice X l d) w) ∧ ∀ {w : World} {B : Nat} {bs : List UInt8}, RB w B A bs → bs.length = n → n ≤ c → RB w B X (bs.drop j) := by
  refine ⟨if c = j then A else A.map (·.add (j * 1)), c - j, fun w => ?_, fun h hl hc => h.back j c (by omega)⟩
  rw [cut_back A n c j (by omega) w, show n - j = l by omega]

set_option maxRecDepth 100000 in
set_option maxHeartbeats 2000000 in
theorem specER_plain_no (A : Option Addr) (n c : Nat) (bs : List UInt8) (w : World) (hr : RB w w.heap.size A bs) (hl : bs.length = n) (h1600 : n ≤ 1600) (h14 : 14 ≤ n) (k : Nat) (hk : num bs 12 2 = k) (hk1 : (k : Int) < 1536) (hk2 : ((k : Int) == 33024) = false) (hrc : rdc bs = 4) : Calls Try.prog 21 #[.slice A n c] w (EROut bs w) := by
  have HQ := Lib.hid hrc
  have HK := Lib.hid hk
  clear hk
  obtain ⟨a1, ha1⟩ : ∃ a : Nat, num bs 0 2 = a := ⟨_, rfl⟩
  obtain ⟨b1, hb1⟩ : ∃ a : Nat, num bs 2 4 = a := ⟨_, rfl⟩
  obtain ⟨a2, ha2⟩ : ∃ a : Nat, num bs 6 2 = a := ⟨_, rfl⟩
  obtain ⟨b2, hb2⟩ : ∃ a : Nat, num bs 8 4 = a := ⟨_, rfl⟩
  have la1 : a1 < 65536 := by rw [← ha1]; exact num_lt2 bs 0
  have lb1 : b1 < 4294967296 := by rw [← hb1]; exact num_lt4 bs 2
  have la2 : a2 < 65536 := by rw [← ha2]; exact num_lt2 bs 6
  have lb2 : b2 < 4294967296 := by rw [← hb2]; exact num_lt4 bs 8
  obtain ⟨dst, hdst⟩ : ∃ d : Int, (a1 : Int) * 4294967296 + (b1 : Int) = d := ⟨_, rfl⟩
  obtain ⟨src, hsrc⟩ : ∃ d : Int, (a2 : Int) * 4294967296 + (b2 : Int) = d := ⟨_, rfl⟩
  have HD := Lib.hid (show ((num bs 0 6 : Nat) : Int) = dst by rw [num_six bs 0 (by omega), ha1, hb1]; omega)
  have HS := Lib.hid (show ((num bs 6 6 : Nat) : Int) = src by rw [num_six bs 6 (by omega), ha2, hb2]; omega)
  have HN := Lib.hid (And.intro (And.intro ha1 hb1) (And.intro ha2 hb2))
  have hlI : ¬ (1600 : Int) < (n : Int) := by omega
  have hsI : ¬ (n : Int) < 14 := by omega
  have HL := Lib.hid hl
  have R0 := Lib.hid hr
  clear hl hr ha1 hb1 ha2 hb2
  have B0 : Hid (Below w.heap.size w ((w.alloc (.cells #[.int .i64 0, .int .i64 0, .int .i64 0, .int .i64 0, .slice none 0 0] 27)).alloc (.cells #[.int .i64 0, .int .i64 0, .int .i64 (-1), .int .i64 0, .slice none 0 0] 27))) := Lib.hid (Joins.below_alloc2 w _ _)
  have z0 : Hid (((w.alloc (.cells #[.int .i64 0, .int .i64 0, .int .i64 0, .int .i64 0, .slice none 0 0] 27)).alloc (.cells #[.int .i64 0, .int .i64 0, .int .i64 (-1), .int .i64 0, .slice none 0 0] 27)).heap[w.heap.size]? = some (.cells #[.int .i64 0, .int .i64 0, .int .i64 0, .int .i64 0, .slice none 0 0] 27)) := Lib.hid (K.old (K.new w _) _)
  have q0 : Hid (((w.alloc (.cells #[.int .i64 0, .int .i64 0, .int .i64 0, .int .i64 0, .slice none 0 0] 27)).alloc (.cells #[.int .i64 0, .int .i64 0, .int .i64 (-1), .int .i64 0, .slice none 0 0] 27)).heap[w.heap.size + 1]? = some (.cells #[.int .i64 0, .int .i64 0, .int .i64 (-1), .int .i64 0, .slice none 0 0] 27)) := Lib.hid (by have := K.new (w.alloc (.cells #[.int .i64 0, .int .i64 0, .int .i64 0, .int .i64 0, .slice none 0 0] 27)) (.cells #[.int .i64 0, .int .i64 0, .int .i64 (-1), .int .i64 0, .slice none 0 0] 27); simpa using this)
  go_enter Try.func21, Try.ntmps21
  go_wp2_with fail
  refine (specBe16 A n c bs 0 _ ((R0.out.below B0.out).more B0.out.size) HL.out (by omega) (by omega)).mono ?_
  rintro e w1 ⟨rfl, b1⟩
  rw [show be ((bs.drop 0).take 2) = a1 from HN.out.1.1]
  have q1 : Hid (w1.heap[w.heap.size + 1]? = some (.cells #[.int .i64 0, .int .i64 0, .int .i64 (-1), .int .i64 0, .slice none 0 0] 27)) := Lib.hid (K.below b1 q0.out)
  have z1 := Lib.hid (K.below b1 z0.out)
  have B1 := Lib.hid (bthen B0.out b1)
  clear b1
  go_wp2_with fail
  refine (specBe32 A n c bs 2 _ ((R0.out.below B1.out).more B1.out.size) HL.out (by omega) (by omega)).mono ?_
  rintro e w2 ⟨rfl, b2⟩
  rw [show be ((bs.drop 2).take 4) = b1 from HN.out.1.2]
  have q2 : Hid (w2.heap[w.heap.size + 1]? = some (.cells #[.int .i64 0, .int .i64 0, .int .i64 (-1), .int .i64 0, .slice none 0 0] 27)) := Lib.hid (K.below b2 q1.out)
  have z2 := Lib.hid (K.below b2 z1.out)
  have B2 := Lib.hid (bthen B1.out b2)
  clear b2
  obtain ⟨⟨c0, c1, c2, c3, c4⟩, f0, f1, f2, f3, f4⟩ := K.row5 q2.out
  go_wp2_with fail
  clear c0 c1 c2 c3 c4 f0 f1 f2 f3 f4
  have q3 : Hid ((w2.setCell ⟨w.heap.size + 1, 0, none⟩ (.int .i64 dst)).heap[w.heap.size + 1]? = some (.cells #[.int .i64 dst, .int .i64 0, .int .i64 (-1), .int .i64 0, .slice none 0 0] 27)) := Lib.hid (K.set q2.out 0 _)
  have z3 : Hid ((w2.setCell ⟨w.heap.size + 1, 0, none⟩ (.int .i64 dst)).heap[w.heap.size]? = some (.cells #[.int .i64 0, .int .i64 0, .int .i64 0, .int .i64 0, .slice none 0 0] 27)) := Lib.hid (K.other z2.out _ _ _ (by omega))
  have B3 : Hid (Below w.heap.size w (w2.setCell ⟨w.heap.size + 1, 0, none⟩ (.int .i64 dst))) := Lib.hid (B2.out.setCell (p := ⟨w.heap.size + 1, 0, none⟩) (Nat.le_succ _) _)
  refine (specBe16 A n c bs 6 _ ((R0.out.below B3.out).more B3.out.size) HL.out (by omega) (by omega)).mono ?_
  rintro e w4 ⟨rfl, b4⟩
  rw [show be ((bs.drop 6).take 2) = a2 from HN.out.2.1]
  have q4 : Hid (w4.heap[w.heap.size + 1]? = some (.cells #[.int .i64 dst, .int .i64 0, .int .i64 (-1), .int .i64 0, .slice none 0 0] 27)) := Lib.hid (K.below b4 q3.out)
  have z4 := Lib.hid (K.below b4 z3.out)
  have B4 := Lib.hid (bthen B3.out b4)
  clear b4
  go_wp2_with fail
  refine (specBe32 A n c bs 8 _ ((R0.out.below B4.out).more B4.out.size) HL.out (by omega) (by omega)).mono ?_
  rintro e w5 ⟨rfl, b5⟩
  rw [show be ((bs.drop 8).take 4) = b2 from HN.out.2.2]
  have q5 : Hid (w5.heap[w.heap.size + 1]? = some (.cells #[.int .i64 dst, .int .i64 0, .int .i64 (-1), .int .i64 0, .slice none 0 0] 27)) := Lib.hid (K.below b5 q4.out)
  have z5 := Lib.hid (K.below b5 z4.out)
  have B5 := Lib.hid (bthen B4.out b5)
  clear b5
  obtain ⟨⟨c0, c1, c2, c3, c4⟩, f0, f1, f2, f3, f4⟩ := K.row5 q5.out
  go_wp2_with fail
  clear c0 c1 c2 c3 c4 f0 f1 f2 f3 f4
  have q6 : Hid ((w5.setCell ⟨w.heap.size + 1, 1, none⟩ (.int .i64 src)).heap[w.heap.size + 1]? = some (.cells #[.int .i64 dst, .int .i64 src, .int .i64 (-1), .int .i64 0, .slice none 0 0] 27)) := Lib.hid (K.set q5.out 1 _)
  have z6 : Hid ((w5.setCell ⟨w.heap.size + 1, 1, none⟩ (.int .i64 src)).heap[w.heap.size]? = some (.cells #[.int .i64 0, .int .i64 0, .int .i64 0, .int .i64 0, .slice none 0 0] 27)) := Lib.hid (K.other z5.out _ _ _ (by omega))
  have B6 : Hid (Below w.heap.size w (w5.setCell ⟨w.heap.size + 1, 1, none⟩ (.int .i64 src))) := Lib.hid (B5.out.setCell (p := ⟨w.heap.size + 1, 1, none⟩) (Nat.le_succ _) _)
  refine (specBe16 A n c bs 12 _ ((R0.out.below B6.out).more B6.out.size) HL.out (by omega) (by omega)).mono ?_
  rintro e w7 ⟨rfl, b7⟩
  rw [show be ((bs.drop 12).take 2) = k from HK.out]
  have q7 : Hid (w7.heap[w.heap.size + 1]? = some (.cells #[.int .i64 dst, .int .i64 src, .int .i64 (-1), .int .i64 0, .slice none 0 0] 27)) := Lib.hid (K.below b7 q6.out)
  have z7 := Lib.hid (K.below b7 z6.out)
  have B7 := Lib.hid (bthen B6.out b7)
  clear b7
  obtain ⟨⟨c0, c1, c2, c3, c4⟩, f0, f1, f2, f3, f4⟩ := K.row5 z7.out
  go_wp2
  (try simp only [Exit.inBlock, Exit.then])
  refine bodyPost_ret (v := .tuple #[.agg #[.int .i64 Eh.zero.d, .int .i64 Eh.zero.s, .int .i64 Eh.zero.t, .int .i64 Eh.zero.k, .slice none 0 0], .int .i64 4]) ?_ rfl (erOut_no HQ.out (by omega) (by have := B7.out; go_grown))
  refine K.resCellTmp Try.results21 _ _ _ w.heap.size _ ?_ (run_loadVar_row _ _ 27 27 _ (0, 0) _ (K.set5 _ _ _ _ _ z7.out) Try.underlying27 rfl info_eth)
  rfl

set_option maxRecDepth 100000 in
set_option maxHeartbeats 2000000 in
theorem specER_plain_yes (A : Option Addr) (n c : Nat) (bs : List UInt8) (w : World) (hr : RB w w.heap.size A bs) (hl : bs.length = n) (hc : n ≤ c) (h1600 : n ≤ 1600) (h14 : 14 ≤ n) (k : Nat) (hk : num bs 12 2 = k) (hk1 : ¬ (k : Int) < 1536) (hk2 : ((k : Int) == 33024) = false) (hrc : rdc bs = 0) (hrt : rdTag bs = -1) (hrk : rdKind bs = k) (hro : rdOff bs = 14) : Calls Try.prog 21 #[.slice A n c] w (EROut bs w) := by
  obtain ⟨l, hll⟩ : ∃ l, 14 + l = n := ⟨n - 14, by omega⟩
  obtain ⟨ds, hds⟩ : ∃ ds, bs.drop 14 = ds := ⟨_, rfl⟩
  have HDL := Lib.hid (show ds.length = l by rw [← hds, List.length_drop]; omega)
  have HB := Lib.hid (show rdb bs = ds by rw [rdb, if_pos hrc, hro, hds])
  obtain ⟨X, dd, hsl, hX⟩ := cut_at A n c 14 l hll
  have HSL := Lib.hid (show ∀ v : World, (Instr.sliceAt 22 (.slice A n c) (some (.int .i64 14)) none none).run Try.prog v = .ok (.slice X l dd) v from hsl)
  have HRX := Lib.hid (show ∀ (v : World) (B : Nat), RB v B A bs → RB v B X ds from fun v B h => by rw [← hds]; exact hX h hl hc)
  have hl16 : l ≤ 1600 := by omega
  clear hsl hX hds hll
  have HQ := Lib.hid hrc
  have HK := Lib.hid hk
  clear hk
  obtain ⟨a1, ha1⟩ : ∃ a : Nat, num bs 0 2 = a := ⟨_, rfl⟩
  obtain ⟨b1, hb1⟩ : ∃ a : Nat, num bs 2 4 = a := ⟨_, rfl⟩
  obtain ⟨a2, ha2⟩ : ∃ a : Nat, num bs 6 2 = a := ⟨_, rfl⟩
  obtain ⟨b2, hb2⟩ : ∃ a : Nat, num bs 8 4 = a := ⟨_, rfl⟩
  have la1 : a1 < 65536 := by rw [← ha1]; exact num_lt2 bs 0
  have lb1 : b1 < 4294967296 := by rw [← hb1]; exact num_lt4 bs 2
  have la2 : a2 < 65536 := by rw [← ha2]; exact num_lt2 bs 6
  have lb2 : b2 < 4294967296 := by rw [← hb2]; exact num_lt4 bs 8
  obtain ⟨dst, hdst⟩ : ∃ d : Int, (a1 : Int) * 4294967296 + (b1 : Int) = d := ⟨_, rfl⟩
  obtain ⟨src, hsrc⟩ : ∃ d : Int, (a2 : Int) * 4294967296 + (b2 : Int) = d := ⟨_, rfl⟩
  have HD := Lib.hid (show ((num bs 0 6 : Nat) : Int) = dst by rw [num_six bs 0 (by omega), ha1, hb1]; omega)
  have HS := Lib.hid (show ((num bs 6 6 : Nat) : Int) = src by rw [num_six bs 6 (by omega), ha2, hb2]; omega)
  have HXX := Lib.hid (show rdx bs = ⟨dst, src, (-1), (k : Int)⟩ by simp [rdx, hrc, hrt, hrk, HD.out, HS.out])
  clear hrc hrt hrk hro
  have HN := Lib.hid (And.intro (And.intro ha1 hb1) (And.intro ha2 hb2))
  have hlI : ¬ (1600 : Int) < (n : Int) := by omega
  have hsI : ¬ (n : Int) < 14 := by omega
  have HL := Lib.hid hl
  have R0 := Lib.hid hr
  clear hl hr ha1 hb1 ha2 hb2
  have B0 : Hid (Below w.heap.size w ((w.alloc (.cells #[.int .i64 0, .int .i64 0, .int .i64 0, .int .i64 0, .slice none 0 0] 27)).alloc (.cells #[.int .i64 0, .int .i64 0, .int .i64 (-1), .int .i64 0, .slice none 0 0] 27))) := Lib.hid (Joins.below_alloc2 w _ _)
  have z0 : Hid (((w.alloc (.cells #[.int .i64 0, .int .i64 0, .int .i64 0, .int .i64 0, .slice none 0 0] 27)).alloc (.cells #[.int .i64 0, .int .i64 0, .int .i64 (-1), .int .i64 0, .slice none 0 0] 27)).heap[w.heap.size]? = some (.cells #[.int .i64 0, .int .i64 0, .int .i64 0, .int .i64 0, .slice none 0 0] 27)) := Lib.hid (K.old (K.new w _) _)
  have q0 : Hid (((w.alloc (.cells #[.int .i64 0, .int .i64 0, .int .i64 0, .int .i64 0, .slice none 0 0] 27)).alloc (.cells #[.int .i64 0, .int .i64 0, .int .i64 (-1), .int .i64 0, .slice none 0 0] 27)).heap[w.heap.size + 1]? = some (.cells #[.int .i64 0, .int .i64 0, .int .i64 (-1), .int .i64 0, .slice none 0 0] 27)) := Lib.hid (by have := K.new (w.alloc (.cells #[.int .i64 0, .int .i64 0, .int .i64 0, .int .i64 0, .slice none 0 0] 27)) (.cells #[.int .i64 0, .int .i64 0, .int .i64 (-1), .int .i64 0, .slice none 0 0] 27); simpa using this)
  go_enter Try.func21, Try.ntmps21
  go_wp2_with fail
  refine (specBe16 A n c bs 0 _ ((R0.out.below B0.out).more B0.out.size) HL.out (by omega) (by omega)).mono ?_
  rintro e w1 ⟨rfl, b1⟩
  rw [show be ((bs.drop 0).take 2) = a1 from HN.out.1.1]
  have q1 : Hid (w1.heap[w.heap.size + 1]? = some (.cells #[.int .i64 0, .int .i64 0, .int .i64 (-1), .int .i64 0, .slice none 0 0] 27)) := Lib.hid (K.below b1 q0.out)
  have z1 := Lib.hid (K.below b1 z0.out)
  have B1 := Lib.hid (bthen B0.out b1)
  clear b1
  go_wp2_with fail
  refine (specBe32 A n c bs 2 _ ((R0.out.below B1.out).more B1.out.size) HL.out (by omega) (by omega)).mono ?_
  rintro e w2 ⟨rfl, b2⟩
  rw [show be ((bs.drop 2).take 4) = b1 from HN.out.1.2]
  have q2 : Hid (w2.heap[w.heap.size + 1]? = some (.cells #[.int .i64 0, .int .i64 0, .int .i64 (-1), .int .i64 0, .slice none 0 0] 27)) := Lib.hid (K.below b2 q1.out)
  have z2 := Lib.hid (K.below b2 z1.out)
  have B2 := Lib.hid (bthen B1.out b2)
  clear b2
  obtain ⟨⟨c0, c1, c2, c3, c4⟩, f0, f1, f2, f3, f4⟩ := K.row5 q2.out
  go_wp2_with fail
  clear c0 c1 c2 c3 c4 f0 f1 f2 f3 f4
  have q3 : Hid ((w2.setCell ⟨w.heap.size + 1, 0, none⟩ (.int .i64 dst)).heap[w.heap.size + 1]? = some (.cells #[.int .i64 dst, .int .i64 0, .int .i64 (-1), .int .i64 0, .slice none 0 0] 27)) := Lib.hid (K.set q2.out 0 _)
  have z3 : Hid ((w2.setCell ⟨w.heap.size + 1, 0, none⟩ (.int .i64 dst)).heap[w.heap.size]? = some (.cells #[.int .i64 0, .int .i64 0, .int .i64 0, .int .i64 0, .slice none 0 0] 27)) := Lib.hid (K.other z2.out _ _ _ (by omega))
  have B3 : Hid (Below w.heap.size w (w2.setCell ⟨w.heap.size + 1, 0, none⟩ (.int .i64 dst))) := Lib.hid (B2.out.setCell (p := ⟨w.heap.size + 1, 0, none⟩) (Nat.le_succ _) _)
  refine (specBe16 A n c bs 6 _ ((R0.out.below B3.out).more B3.out.size) HL.out (by omega) (by omega)).mono ?_
  rintro e w4 ⟨rfl, b4⟩
  rw [show be ((bs.drop 6).take 2) = a2 from HN.out.2.1]
  have q4 : Hid (w4.heap[w.heap.size + 1]? = some (.cells #[.int .i64 dst, .int .i64 0, .int .i64 (-1), .int .i64 0, .slice none 0 0] 27)) := Lib.hid (K.below b4 q3.out)
  have z4 := Lib.hid (K.below b4 z3.out)
  have B4 := Lib.hid (bthen B3.out b4)
  clear b4
  go_wp2_with fail
  refine (specBe32 A n c bs 8 _ ((R0.out.below B4.out).more B4.out.size) HL.out (by omega) (by omega)).mono ?_
  rintro e w5 ⟨rfl, b5⟩
  rw [show be ((bs.drop 8).take 4) = b2 from HN.out.2.2]
  have q5 : Hid (w5.heap[w.heap.size + 1]? = some (.cells #[.int .i64 dst, .int .i64 0, .int .i64 (-1), .int .i64 0, .slice none 0 0] 27)) := Lib.hid (K.below b5 q4.out)
  have z5 := Lib.hid (K.below b5 z4.out)
  have B5 := Lib.hid (bthen B4.out b5)
  clear b5
  obtain ⟨⟨c0, c1, c2, c3, c4⟩, f0, f1, f2, f3, f4⟩ := K.row5 q5.out
  go_wp2_with fail
  clear c0 c1 c2 c3 c4 f0 f1 f2 f3 f4
  have q6 : Hid ((w5.setCell ⟨w.heap.size + 1, 1, none⟩ (.int .i64 src)).heap[w.heap.size + 1]? = some (.cells #[.int .i64 dst, .int .i64 src, .int .i64 (-1), .int .i64 0, .slice none 0 0] 27)) := Lib.hid (K.set q5.out 1 _)
  have z6 : Hid ((w5.setCell ⟨w.heap.size + 1, 1, none⟩ (.int .i64 src)).heap[w.heap.size]? = some (.cells #[.int .i64 0, .int .i64 0, .int .i64 0, .int .i64 0, .slice none 0 0] 27)) := Lib.hid (K.other z5.out _ _ _ (by omega))
  have B6 : Hid (Below w.heap.size w (w5.setCell ⟨w.heap.size + 1, 1, none⟩ (.int .i64 src))) := Lib.hid (B5.out.setCell (p := ⟨w.heap.size + 1, 1, none⟩) (Nat.le_succ _) _)
  refine (specBe16 A n c bs 12 _ ((R0.out.below B6.out).more B6.out.size) HL.out (by omega) (by omega)).mono ?_
  rintro e w7 ⟨rfl, b7⟩
  rw [show be ((bs.drop 12).take 2) = k from HK.out]
  have q7 : Hid (w7.heap[w.heap.size + 1]? = some (.cells #[.int .i64 dst, .int .i64 src, .int .i64 (-1), .int .i64 0, .slice none 0 0] 27)) := Lib.hid (K.below b7 q6.out)
  have z7 := Lib.hid (K.below b7 z6.out)
  have B7 := Lib.hid (bthen B6.out b7)
  clear b7
  obtain ⟨⟨c0, c1, c2, c3, c4⟩, f0, f1, f2, f3, f4⟩ := K.row5 q7.out
  have lt0 : w.heap.size + 2 ≤ w7.heap.size := K.lt q7.out
  have O0 := Lib.hid (own_fresh w7 (w.heap.size + 1) 3 (.int .i64 (k : Int)) (w.heap.size + 2) lt0)
  have q98 : Hid (((w7.setCell ⟨w.heap.size + 1, 3, none⟩ (.int .i64 (k : Int))).alloc (.cells #[] 5)).heap[w.heap.size + 1]? = some (.cells #[.int .i64 dst, .int .i64 src, .int .i64 (-1), .int .i64 (k : Int), .slice none 0 0] 27)) := Lib.hid (K.old (K.set q7.out 3 _) _)
  have z98 : Hid (((w7.setCell ⟨w.heap.size + 1, 3, none⟩ (.int .i64 (k : Int))).alloc (.cells #[] 5)).heap[w.heap.size]? = some (.cells #[.int .i64 0, .int .i64 0, .int .i64 0, .int .i64 0, .slice none 0 0] 27)) := Lib.hid (K.old (K.other z7.out _ _ _ (by omega)) _)
  have B98 : Hid (Below w.heap.size w ((w7.setCell ⟨w.heap.size + 1, 3, none⟩ (.int .i64 (k : Int))).alloc (.cells #[] 5))) := Lib.hid (bthen (B7.out.setCell (p := ⟨w.heap.size + 1, 3, none⟩) (Nat.le_succ _) _) (Joins.below_alloc1 _ _))
  have s98 : w.heap.size + 2 ≤ ((w7.setCell ⟨w.heap.size + 1, 3, none⟩ (.int .i64 (k : Int))).alloc (.cells #[] 5)).heap.size := by simp; omega
  have hsl := HSL.out
  go_wp2_with (at_builtin; (refine wpList_append_b rfl (.tmp 82) (.tmp 85) rfl (w.heap.size + 2) (.slice (some ⟨w7.heap.size, 0, none⟩) 0 0) [] rfl O0.out _ X l dd ds rfl HDL.out (HRX.out _ _ (R0.out.below B98.out)) (by simp [HDL.out]; omega) s98 ?_); intro v99 w99 o99 g99 a99; rw [List.nil_append, HDL.out] at o99; have q99 := Lib.hid (K.kept g99 q98.out (fun k hk => by simp [Value.ownBlock] at hk; omega)); have z99 := Lib.hid (K.kept g99 z98.out (fun k hk => by simp [Value.ownBlock] at hk; omega)); have B99 := Lib.hid (bgrown B98.out g99 (fun k hk => by simp [Value.ownBlock] at hk; omega)); have O99 := Lib.hid o99; clear g99 a99 c0 c1 c2 c3 c4 f0 f1 f2 f3 f4; obtain ⟨D, d, rfl⟩ := own_form o99; clear o99; obtain ⟨⟨c0, c1, c2, c3, c4⟩, f0, f1, f2, f3, f4⟩ := K.row5 q99.out; obtain ⟨⟨d0, d1, d2, d3, d4⟩, g0, g1, g2, g3, g4⟩ := K.row5 z99.out)
  (try simp only [Exit.inBlock, Exit.then])
  refine bodyPost_ret (v := .tuple #[.agg #[.int .i64 dst, .int .i64 src, .int .i64 (-1), .int .i64 (k : Int), .slice D l d], .int .i64 0]) ?_ rfl (erOut_yes (x := ⟨dst, src, (-1), (k : Int)⟩) HQ.out HXX.out HB.out HDL.out (own_set5 (own_set O99.out _ 4 _ (by omega)) _ _ _ _ _ _ (by omega)) (by omega) (by have := B99.out; go_grown))
  refine K.resCellTmp Try.results21 _ _ _ w.heap.size _ ?_ (run_loadVar_row _ _ 27 27 _ (0, 0) _ (K.set5 _ _ _ _ _ (K.other z99.out _ _ _ (by omega))) Try.underlying27 rfl info_eth)
  rfl

set_option maxRecDepth 100000 in
set_option maxHeartbeats 2000000 in
theorem specER_tag_short (A : Option Addr) (n c : Nat) (bs : List UInt8) (w : World) (hr : RB w w.heap.size A bs) (hl : bs.length = n) (h1600 : n ≤ 1600) (h14 : 14 ≤ n) (h18 : (n : Int) < 18) (hk : num bs 12 2 = 33024) (hrc : rdc bs = 3) : Calls Try.prog 21 #[.slice A n c] w (EROut bs w) := by
  have HQ := Lib.hid hrc
  have HK := Lib.hid hk
  have hbb : ((33024 : Int) == 33024) = true := by decide
  clear hk
  obtain ⟨a1, ha1⟩ : ∃ a : Nat, num bs 0 2 = a := ⟨_, rfl⟩
  obtain ⟨b1, hb1⟩ : ∃ a : Nat, num bs 2 4 = a := ⟨_, rfl⟩
  obtain ⟨a2, ha2⟩ : ∃ a : Nat, num bs 6 2 = a := ⟨_, rfl⟩
  obtain ⟨b2, hb2⟩ : ∃ a : Nat, num bs 8 4 = a := ⟨_, rfl⟩
  have la1 : a1 < 65536 := by rw [← ha1]; exact num_lt2 bs 0
  have lb1 : b1 < 4294967296 := by rw [← hb1]; exact num_lt4 bs 2
  have la2 : a2 < 65536 := by rw [← ha2]; exact num_lt2 bs 6
  have lb2 : b2 < 4294967296 := by rw [← hb2]; exact num_lt4 bs 8
  obtain ⟨dst, hdst⟩ : ∃ d : Int, (a1 : Int) * 4294967296 + (b1 : Int) = d := ⟨_, rfl⟩
  obtain ⟨src, hsrc⟩ : ∃ d : Int, (a2 : Int) * 4294967296 + (b2 : Int) = d := ⟨_, rfl⟩
  have HD := Lib.hid (show ((num bs 0 6 : Nat) : Int) = dst by rw [num_six bs 0 (by omega), ha1, hb1]; omega)
  have HS := Lib.hid (show ((num bs 6 6 : Nat) : Int) = src by rw [num_six bs 6 (by omega), ha2, hb2]; omega)
  have HN := Lib.hid (And.intro (And.intro ha1 hb1) (And.intro ha2 hb2))
  have hlI : ¬ (1600 : Int) < (n : Int) := by omega
  have hsI : ¬ (n : Int) < 14 := by omega
  have HL := Lib.hid hl
  have R0 := Lib.hid hr
  clear hl hr ha1 hb1 ha2 hb2
  have B0 : Hid (Below w.heap.size w ((w.alloc (.cells #[.int .i64 0, .int .i64 0, .int .i64 0, .int .i64 0, .slice none 0 0] 27)).alloc (.cells #[.int .i64 0, .int .i64 0, .int .i64 (-1), .int .i64 0, .slice none 0 0] 27))) := Lib.hid (Joins.below_alloc2 w _ _)
  have z0 : Hid (((w.alloc (.cells #[.int .i64 0, .int .i64 0, .int .i64 0, .int .i64 0, .slice none 0 0] 27)).alloc (.cells #[.int .i64 0, .int .i64 0, .int .i64 (-1), .int .i64 0, .slice none 0 0] 27)).heap[w.heap.size]? = some (.cells #[.int .i64 0, .int .i64 0, .int .i64 0, .int .i64 0, .slice none 0 0] 27)) := Lib.hid (K.old (K.new w _) _)
  have q0 : Hid (((w.alloc (.cells #[.int .i64 0, .int .i64 0, .int .i64 0, .int .i64 0, .slice none 0 0] 27)).alloc (.cells #[.int .i64 0, .int .i64 0, .int .i64 (-1), .int .i64 0, .slice none 0 0] 27)).heap[w.heap.size + 1]? = some (.cells #[.int .i64 0, .int .i64 0, .int .i64 (-1), .int .i64 0, .slice none 0 0] 27)) := Lib.hid (by have := K.new (w.alloc (.cells #[.int .i64 0, .int .i64 0, .int .i64 0, .int .i64 0, .slice none 0 0] 27)) (.cells #[.int .i64 0, .int .i64 0, .int .i64 (-1), .int .i64 0, .slice none 0 0] 27); simpa using this)
  go_enter Try.func21, Try.ntmps21
  go_wp2_with fail
  refine (specBe16 A n c bs 0 _ ((R0.out.below B0.out).more B0.out.size) HL.out (by omega) (by omega)).mono ?_
  rintro e w1 ⟨rfl, b1⟩
  rw [show be ((bs.drop 0).take 2) = a1 from HN.out.1.1]
  have q1 : Hid (w1.heap[w.heap.size + 1]? = some (.cells #[.int .i64 0, .int .i64 0, .int .i64 (-1), .int .i64 0, .slice none 0 0] 27)) := Lib.hid (K.below b1 q0.out)
  have z1 := Lib.hid (K.below b1 z0.out)
  have B1 := Lib.hid (bthen B0.out b1)
  clear b1
  go_wp2_with fail
  refine (specBe32 A n c bs 2 _ ((R0.out.below B1.out).more B1.out.size) HL.out (by omega) (by omega)).mono ?_
  rintro e w2 ⟨rfl, b2⟩
  rw [show be ((bs.drop 2).take 4) = b1 from HN.out.1.2]
  have q2 : Hid (w2.heap[w.heap.size + 1]? = some (.cells #[.int .i64 0, .int .i64 0, .int .i64 (-1), .int .i64 0, .slice none 0 0] 27)) := Lib.hid (K.below b2 q1.out)
  have z2 := Lib.hid (K.below b2 z1.out)
  have B2 := Lib.hid (bthen B1.out b2)
  clear b2
  obtain ⟨⟨c0, c1, c2, c3, c4⟩, f0, f1, f2, f3, f4⟩ := K.row5 q2.out
  go_wp2_with fail
  clear c0 c1 c2 c3 c4 f0 f1 f2 f3 f4
  have q3 : Hid ((w2.setCell ⟨w.heap.size + 1, 0, none⟩ (.int .i64 dst)).heap[w.heap.size + 1]? = some (.cells #[.int .i64 dst, .int .i64 0, .int .i64 (-1), .int .i64 0, .slice none 0 0] 27)) := Lib.hid (K.set q2.out 0 _)
  have z3 : Hid ((w2.setCell ⟨w.heap.size + 1, 0, none⟩ (.int .i64 dst)).heap[w.heap.size]? = some (.cells #[.int .i64 0, .int .i64 0, .int .i64 0, .int .i64 0, .slice none 0 0] 27)) := Lib.hid (K.other z2.out _ _ _ (by omega))
  have B3 : Hid (Below w.heap.size w (w2.setCell ⟨w.heap.size + 1, 0, none⟩ (.int .i64 dst))) := Lib.hid (B2.out.setCell (p := ⟨w.heap.size + 1, 0, none⟩) (Nat.le_succ _) _)
  refine (specBe16 A n c bs 6 _ ((R0.out.below B3.out).more B3.out.size) HL.out (by omega) (by omega)).mono ?_
  rintro e w4 ⟨rfl, b4⟩
  rw [show be ((bs.drop 6).take 2) = a2 from HN.out.2.1]
  have q4 : Hid (w4.heap[w.heap.size + 1]? = some (.cells #[.int .i64 dst, .int .i64 0, .int .i64 (-1), .int .i64 0, .slice none 0 0] 27)) := Lib.hid (K.below b4 q3.out)
  have z4 := Lib.hid (K.below b4 z3.out)
  have B4 := Lib.hid (bthen B3.out b4)
  clear b4
  go_wp2_with fail
  refine (specBe32 A n c bs 8 _ ((R0.out.below B4.out).more B4.out.size) HL.out (by omega) (by omega)).mono ?_
  rintro e w5 ⟨rfl, b5⟩
  rw [show be ((bs.drop 8).take 4) = b2 from HN.out.2.2]
  have q5 : Hid (w5.heap[w.heap.size + 1]? = some (.cells #[.int .i64 dst, .int .i64 0, .int .i64 (-1), .int .i64 0, .slice none 0 0] 27)) := Lib.hid (K.below b5 q4.out)
  have z5 := Lib.hid (K.below b5 z4.out)
  have B5 := Lib.hid (bthen B4.out b5)
  clear b5
  obtain ⟨⟨c0, c1, c2, c3, c4⟩, f0, f1, f2, f3, f4⟩ := K.row5 q5.out
  go_wp2_with fail
  clear c0 c1 c2 c3 c4 f0 f1 f2 f3 f4
  have q6 : Hid ((w5.setCell ⟨w.heap.size + 1, 1, none⟩ (.int .i64 src)).heap[w.heap.size + 1]? = some (.cells #[.int .i64 dst, .int .i64 src, .int .i64 (-1), .int .i64 0, .slice none 0 0] 27)) := Lib.hid (K.set q5.out 1 _)
  have z6 : Hid ((w5.setCell ⟨w.heap.size + 1, 1, none⟩ (.int .i64 src)).heap[w.heap.size]? = some (.cells #[.int .i64 0, .int .i64 0, .int .i64 0, .int .i64 0, .slice none 0 0] 27)) := Lib.hid (K.other z5.out _ _ _ (by omega))
  have B6 : Hid (Below w.heap.size w (w5.setCell ⟨w.heap.size + 1, 1, none⟩ (.int .i64 src))) := Lib.hid (B5.out.setCell (p := ⟨w.heap.size + 1, 1, none⟩) (Nat.le_succ _) _)
  refine (specBe16 A n c bs 12 _ ((R0.out.below B6.out).more B6.out.size) HL.out (by omega) (by omega)).mono ?_
  rintro e w7 ⟨rfl, b7⟩
  rw [show be ((bs.drop 12).take 2) = 33024 from HK.out]
  have q7 : Hid (w7.heap[w.heap.size + 1]? = some (.cells #[.int .i64 dst, .int .i64 src, .int .i64 (-1), .int .i64 0, .slice none 0 0] 27)) := Lib.hid (K.below b7 q6.out)
  have z7 := Lib.hid (K.below b7 z6.out)
  have B7 := Lib.hid (bthen B6.out b7)
  clear b7
  obtain ⟨⟨c0, c1, c2, c3, c4⟩, f0, f1, f2, f3, f4⟩ := K.row5 z7.out
  go_wp2
  (try simp only [Exit.inBlock, Exit.then])
  refine bodyPost_ret (v := .tuple #[.agg #[.int .i64 Eh.zero.d, .int .i64 Eh.zero.s, .int .i64 Eh.zero.t, .int .i64 Eh.zero.k, .slice none 0 0], .int .i64 3]) ?_ rfl (erOut_no HQ.out (by omega) (by have := B7.out; go_grown))
  refine K.resCellTmp Try.results21 _ _ _ w.heap.size _ ?_ (run_loadVar_row _ _ 27 27 _ (0, 0) _ (K.set5 _ _ _ _ _ z7.out) Try.underlying27 rfl info_eth)
  rfl

set_option maxRecDepth 100000 in
set_option maxHeartbeats 2000000 in
theorem specER_tag_low (A : Option Addr) (n c : Nat) (bs : List UInt8) (w : World) (hr : RB w w.heap.size A bs) (hl : bs.length = n) (h1600 : n ≤ 1600) (h14 : 14 ≤ n) (h18 : ¬ (n : Int) < 18) (hk : num bs 12 2 = 33024) (tt : Nat) (htt : num bs 14 2 = tt) (k : Nat) (hkk : num bs 16 2 = k) (hk1 : (k : Int) < 1536) (hrc : rdc bs = 4) : Calls Try.prog 21 #[.slice A n c] w (EROut bs w) := by
  have HQ := Lib.hid hrc
  have HK := Lib.hid hk
  have HTT := Lib.hid htt
  have HKK := Lib.hid hkk
  have hbb : ((33024 : Int) == 33024) = true := by decide
  clear hk htt hkk
  obtain ⟨a1, ha1⟩ : ∃ a : Nat, num bs 0 2 = a := ⟨_, rfl⟩
  obtain ⟨b1, hb1⟩ : ∃ a : Nat, num bs 2 4 = a := ⟨_, rfl⟩
  obtain ⟨a2, ha2⟩ : ∃ a : Nat, num bs 6 2 = a := ⟨_, rfl⟩
  obtain ⟨b2, hb2⟩ : ∃ a : Nat, num bs 8 4 = a := ⟨_, rfl⟩
  have la1 : a1 < 65536 := by rw [← ha1]; exact num_lt2 bs 0
  have lb1 : b1 < 4294967296 := by rw [← hb1]; exact num_lt4 bs 2
  have la2 : a2 < 65536 := by rw [← ha2]; exact num_lt2 bs 6
  have lb2 : b2 < 4294967296 := by rw [← hb2]; exact num_lt4 bs 8
  obtain ⟨dst, hdst⟩ : ∃ d : Int, (a1 : Int) * 4294967296 + (b1 : Int) = d := ⟨_, rfl⟩
  obtain ⟨src, hsrc⟩ : ∃ d : Int, (a2 : Int) * 4294967296 + (b2 : Int) = d := ⟨_, rfl⟩
  have HD := Lib.hid (show ((num bs 0 6 : Nat) : Int) = dst by rw [num_six bs 0 (by omega), ha1, hb1]; omega)
  have HS := Lib.hid (show ((num bs 6 6 : Nat) : Int) = src by rw [num_six bs 6 (by omega), ha2, hb2]; omega)
  have HN := Lib.hid (And.intro (And.intro ha1 hb1) (And.intro ha2 hb2))
  have hlI : ¬ (1600 : Int) < (n : Int) := by omega
  have hsI : ¬ (n : Int) < 14 := by omega
  have HL := Lib.hid hl
  have R0 := Lib.hid hr
  clear hl hr ha1 hb1 ha2 hb2
  have B0 : Hid (Below w.heap.size w ((w.alloc (.cells #[.int .i64 0, .int .i64 0, .int .i64 0, .int .i64 0, .slice none 0 0] 27)).alloc (.cells #[.int .i64 0, .int .i64 0, .int .i64 (-1), .int .i64 0, .slice none 0 0] 27))) := Lib.hid (Joins.below_alloc2 w _ _)
  have z0 : Hid (((w.alloc (.cells #[.int .i64 0, .int .i64 0, .int .i64 0, .int .i64 0, .slice none 0 0] 27)).alloc (.cells #[.int .i64 0, .int .i64 0, .int .i64 (-1), .int .i64 0, .slice none 0 0] 27)).heap[w.heap.size]? = some (.cells #[.int .i64 0, .int .i64 0, .int .i64 0, .int .i64 0, .slice none 0 0] 27)) := Lib.hid (K.old (K.new w _) _)
  have q0 : Hid (((w.alloc (.cells #[.int .i64 0, .int .i64 0, .int .i64 0, .int .i64 0, .slice none 0 0] 27)).alloc (.cells #[.int .i64 0, .int .i64 0, .int .i64 (-1), .int .i64 0, .slice none 0 0] 27)).heap[w.heap.size + 1]? = some (.cells #[.int .i64 0, .int .i64 0, .int .i64 (-1), .int .i64 0, .slice none 0 0] 27)) := Lib.hid (by have := K.new (w.alloc (.cells #[.int .i64 0, .int .i64 0, .int .i64 0, .int .i64 0, .slice none 0 0] 27)) (.cells #[.int .i64 0, .int .i64 0, .int .i64 (-1), .int .i64 0, .slice none 0 0] 27); simpa using this)
  go_enter Try.func21, Try.ntmps21
  go_wp2_with fail
  refine (specBe16 A n c bs 0 _ ((R0.out.below B0.out).more B0.out.size) HL.out (by omega) (by omega)).mono ?_
  rintro e w1 ⟨rfl, b1⟩
  rw [show be ((bs.drop 0).take 2) = a1 from HN.out.1.1]
  have q1 : Hid (w1.heap[w.heap.size + 1]? = some (.cells #[.int .i64 0, .int .i64 0, .int .i64 (-1), .int .i64 0, .slice none 0 0] 27)) := Lib.hid (K.below b1 q0.out)
  have z1 := Lib.hid (K.below b1 z0.out)
  have B1 := Lib.hid (bthen B0.out b1)
  clear b1
  go_wp2_with fail
  refine (specBe32 A n c bs 2 _ ((R0.out.below B1.out).more B1.out.size) HL.out (by omega) (by omega)).mono ?_
  rintro e w2 ⟨rfl, b2⟩
  rw [show be ((bs.drop 2).take 4) = b1 from HN.out.1.2]
  have q2 : Hid (w2.heap[w.heap.size + 1]? = some (.cells #[.int .i64 0, .int .i64 0, .int .i64 (-1), .int .i64 0, .slice none 0 0] 27)) := Lib.hid (K.below b2 q1.out)
  have z2 := Lib.hid (K.below b2 z1.out)
  have B2 := Lib.hid (bthen B1.out b2)
  clear b2
  obtain ⟨⟨c0, c1, c2, c3, c4⟩, f0, f1, f2, f3, f4⟩ := K.row5 q2.out
  go_wp2_with fail
  clear c0 c1 c2 c3 c4 f0 f1 f2 f3 f4
  have q3 : Hid ((w2.setCell ⟨w.heap.size + 1, 0, none⟩ (.int .i64 dst)).heap[w.heap.size + 1]? = some (.cells #[.int .i64 dst, .int .i64 0, .int .i64 (-1), .int .i64 0, .slice none 0 0] 27)) := Lib.hid (K.set q2.out 0 _)
  have z3 : Hid ((w2.setCell ⟨w.heap.size + 1, 0, none⟩ (.int .i64 dst)).heap[w.heap.size]? = some (.cells #[.int .i64 0, .int .i64 0, .int .i64 0, .int .i64 0, .slice none 0 0] 27)) := Lib.hid (K.other z2.out _ _ _ (by omega))
  have B3 : Hid (Below w.heap.size w (w2.setCell ⟨w.heap.size + 1, 0, none⟩ (.int .i64 dst))) := Lib.hid (B2.out.setCell (p := ⟨w.heap.size + 1, 0, none⟩) (Nat.le_succ _) _)
  refine (specBe16 A n c bs 6 _ ((R0.out.below B3.out).more B3.out.size) HL.out (by omega) (by omega)).mono ?_
  rintro e w4 ⟨rfl, b4⟩
  rw [show be ((bs.drop 6).take 2) = a2 from HN.out.2.1]
  have q4 : Hid (w4.heap[w.heap.size + 1]? = some (.cells #[.int .i64 dst, .int .i64 0, .int .i64 (-1), .int .i64 0, .slice none 0 0] 27)) := Lib.hid (K.below b4 q3.out)
  have z4 := Lib.hid (K.below b4 z3.out)
  have B4 := Lib.hid (bthen B3.out b4)
  clear b4
  go_wp2_with fail
  refine (specBe32 A n c bs 8 _ ((R0.out.below B4.out).more B4.out.size) HL.out (by omega) (by omega)).mono ?_
  rintro e w5 ⟨rfl, b5⟩
  rw [show be ((bs.drop 8).take 4) = b2 from HN.out.2.2]
  have q5 : Hid (w5.heap[w.heap.size + 1]? = some (.cells #[.int .i64 dst, .int .i64 0, .int .i64 (-1), .int .i64 0, .slice none 0 0] 27)) := Lib.hid (K.below b5 q4.out)
  have z5 := Lib.hid (K.below b5 z4.out)
  have B5 := Lib.hid (bthen B4.out b5)
  clear b5
  obtain ⟨⟨c0, c1, c2, c3, c4⟩, f0, f1, f2, f3, f4⟩ := K.row5 q5.out
  go_wp2_with fail
  clear c0 c1 c2 c3 c4 f0 f1 f2 f3 f4
  have q6 : Hid ((w5.setCell ⟨w.heap.size + 1, 1, none⟩ (.int .i64 src)).heap[w.heap.size + 1]? = some (.cells #[.int .i64 dst, .int .i64 src, .int .i64 (-1), .int .i64 0, .slice none 0 0] 27)) := Lib.hid (K.set q5.out 1 _)
  have z6 : Hid ((w5.setCell ⟨w.heap.size + 1, 1, none⟩ (.int .i64 src)).heap[w.heap.size]? = some (.cells #[.int .i64 0, .int .i64 0, .int .i64 0, .int .i64 0, .slice none 0 0] 27)) := Lib.hid (K.other z5.out _ _ _ (by omega))
  have B6 : Hid (Below w.heap.size w (w5.setCell ⟨w.heap.size + 1, 1, none⟩ (.int .i64 src))) := Lib.hid (B5.out.setCell (p := ⟨w.heap.size + 1, 1, none⟩) (Nat.le_succ _) _)
  refine (specBe16 A n c bs 12 _ ((R0.out.below B6.out).more B6.out.size) HL.out (by omega) (by omega)).mono ?_
  rintro e w7 ⟨rfl, b7⟩
  rw [show be ((bs.drop 12).take 2) = 33024 from HK.out]
  have q7 : Hid (w7.heap[w.heap.size + 1]? = some (.cells #[.int .i64 dst, .int .i64 src, .int .i64 (-1), .int .i64 0, .slice none 0 0] 27)) := Lib.hid (K.below b7 q6.out)
  have z7 := Lib.hid (K.below b7 z6.out)
  have B7 := Lib.hid (bthen B6.out b7)
  clear b7
  go_wp2_with fail
  refine (specBe16 A n c bs 14 _ ((R0.out.below B7.out).more B7.out.size) HL.out (by omega) (by omega)).mono ?_
  rintro e w8 ⟨rfl, b8⟩
  rw [show be ((bs.drop 14).take 2) = tt from HTT.out]
  have q8 : Hid (w8.heap[w.heap.size + 1]? = some (.cells #[.int .i64 dst, .int .i64 src, .int .i64 (-1), .int .i64 0, .slice none 0 0] 27)) := Lib.hid (K.below b8 q7.out)
  have z8 := Lib.hid (K.below b8 z7.out)
  have B8 := Lib.hid (bthen B7.out b8)
  clear b8
  obtain ⟨⟨c0, c1, c2, c3, c4⟩, f0, f1, f2, f3, f4⟩ := K.row5 q8.out
  go_wp2_with fail
  clear c0 c1 c2 c3 c4 f0 f1 f2 f3 f4
  have q9 : Hid ((w8.setCell ⟨w.heap.size + 1, 2, none⟩ (.int .i64 (tt : Int))).heap[w.heap.size + 1]? = some (.cells #[.int .i64 dst, .int .i64 src, .int .i64 (tt : Int), .int .i64 0, .slice none 0 0] 27)) := Lib.hid (K.set q8.out 2 _)
  have z9 : Hid ((w8.setCell ⟨w.heap.size + 1, 2, none⟩ (.int .i64 (tt : Int))).heap[w.heap.size]? = some (.cells #[.int .i64 0, .int .i64 0, .int .i64 0, .int .i64 0, .slice none 0 0] 27)) := Lib.hid (K.other z8.out _ _ _ (by omega))
  have B9 : Hid (Below w.heap.size w (w8.setCell ⟨w.heap.size + 1, 2, none⟩ (.int .i64 (tt : Int)))) := Lib.hid (B8.out.setCell (p := ⟨w.heap.size + 1, 2, none⟩) (Nat.le_succ _) _)
  refine (specBe16 A n c bs 16 _ ((R0.out.below B9.out).more B9.out.size) HL.out (by omega) (by omega)).mono ?_
  rintro e w10 ⟨rfl, b10⟩
  rw [show be ((bs.drop 16).take 2) = k from HKK.out]
  have q10 : Hid (w10.heap[w.heap.size + 1]? = some (.cells #[.int .i64 dst, .int .i64 src, .int .i64 (tt : Int), .int .i64 0, .slice none 0 0] 27)) := Lib.hid (K.below b10 q9.out)
  have z10 := Lib.hid (K.below b10 z9.out)
  have B10 := Lib.hid (bthen B9.out b10)
  clear b10
  obtain ⟨⟨c0, c1, c2, c3, c4⟩, f0, f1, f2, f3, f4⟩ := K.row5 z10.out
  go_wp2
  (try simp only [Exit.inBlock, Exit.then])
  refine bodyPost_ret (v := .tuple #[.agg #[.int .i64 Eh.zero.d, .int .i64 Eh.zero.s, .int .i64 Eh.zero.t, .int .i64 Eh.zero.k, .slice none 0 0], .int .i64 4]) ?_ rfl (erOut_no HQ.out (by omega) (by have := B10.out; go_grown))
  refine K.resCellTmp Try.results21 _ _ _ w.heap.size _ ?_ (run_loadVar_row _ _ 27 27 _ (0, 0) _ (K.set5 _ _ _ _ _ z10.out) Try.underlying27 rfl info_eth)
  rfl

set_option maxRecDepth 100000 in
set_option maxHeartbeats 2000000 in
theorem specER_tag_two (A : Option Addr) (n c : Nat) (bs : List UInt8) (w : World) (hr : RB w w.heap.size A bs) (hl : bs.length = n) (h1600 : n ≤ 1600) (h14 : 14 ≤ n) (h18 : ¬ (n : Int) < 18) (hk : num bs 12 2 = 33024) (tt : Nat) (htt : num bs 14 2 = tt) (k : Nat) (hkk : num bs 16 2 = k) (hk1 : ¬ (k : Int) < 1536) (hk2 : ((k : Int) == 33024) = true) (hrc : rdc bs = 4) : Calls Try.prog 21 #[.slice A n c] w (EROut bs w) := by
  have HQ := Lib.hid hrc
  have HK := Lib.hid hk
  have HTT := Lib.hid htt
  have HKK := Lib.hid hkk
  have hbb : ((33024 : Int) == 33024) = true := by decide
  clear hk htt hkk
  obtain ⟨a1, ha1⟩ : ∃ a : Nat, num bs 0 2 = a := ⟨_, rfl⟩
  obtain ⟨b1, hb1⟩ : ∃ a : Nat, num bs 2 4 = a := ⟨_, rfl⟩
  obtain ⟨a2, ha2⟩ : ∃ a : Nat, num bs 6 2 = a := ⟨_, rfl⟩
  obtain ⟨b2, hb2⟩ : ∃ a : Nat, num bs 8 4 = a := ⟨_, rfl⟩
  have la1 : a1 < 65536 := by rw [← ha1]; exact num_lt2 bs 0
  have lb1 : b1 < 4294967296 := by rw [← hb1]; exact num_lt4 bs 2
  have la2 : a2 < 65536 := by rw [← ha2]; exact num_lt2 bs 6
  have lb2 : b2 < 4294967296 := by rw [← hb2]; exact num_lt4 bs 8
  obtain ⟨dst, hdst⟩ : ∃ d : Int, (a1 : Int) * 4294967296 + (b1 : Int) = d := ⟨_, rfl⟩
  obtain ⟨src, hsrc⟩ : ∃ d : Int, (a2 : Int) * 4294967296 + (b2 : Int) = d := ⟨_, rfl⟩
  have HD := Lib.hid (show ((num bs 0 6 : Nat) : Int) = dst by rw [num_six bs 0 (by omega), ha1, hb1]; omega)
  have HS := Lib.hid (show ((num bs 6 6 : Nat) : Int) = src by rw [num_six bs 6 (by omega), ha2, hb2]; omega)
  have HN := Lib.hid (And.intro (And.intro ha1 hb1) (And.intro ha2 hb2))
  have hlI : ¬ (1600 : Int) < (n : Int) := by omega
  have hsI : ¬ (n : Int) < 14 := by omega
  have HL := Lib.hid hl
  have R0 := Lib.hid hr
  clear hl hr ha1 hb1 ha2 hb2
  have B0 : Hid (Below w.heap.size w ((w.alloc (.cells #[.int .i64 0, .int .i64 0, .int .i64 0, .int .i64 0, .slice none 0 0] 27)).alloc (.cells #[.int .i64 0, .int .i64 0, .int .i64 (-1), .int .i64 0, .slice none 0 0] 27))) := Lib.hid (Joins.below_alloc2 w _ _)
  have z0 : Hid (((w.alloc (.cells #[.int .i64 0, .int .i64 0, .int .i64 0, .int .i64 0, .slice none 0 0] 27)).alloc (.cells #[.int .i64 0, .int .i64 0, .int .i64 (-1), .int .i64 0, .slice none 0 0] 27)).heap[w.heap.size]? = some (.cells #[.int .i64 0, .int .i64 0, .int .i64 0, .int .i64 0, .slice none 0 0] 27)) := Lib.hid (K.old (K.new w _) _)
  have q0 : Hid (((w.alloc (.cells #[.int .i64 0, .int .i64 0, .int .i64 0, .int .i64 0, .slice none 0 0] 27)).alloc (.cells #[.int .i64 0, .int .i64 0, .int .i64 (-1), .int .i64 0, .slice none 0 0] 27)).heap[w.heap.size + 1]? = some (.cells #[.int .i64 0, .int .i64 0, .int .i64 (-1), .int .i64 0, .slice none 0 0] 27)) := Lib.hid (by have := K.new (w.alloc (.cells #[.int .i64 0, .int .i64 0, .int .i64 0, .int .i64 0, .slice none 0 0] 27)) (.cells #[.int .i64 0, .int .i64 0, .int .i64 (-1), .int .i64 0, .slice none 0 0] 27); simpa using this)
  go_enter Try.func21, Try.ntmps21
  go_wp2_with fail
  refine (specBe16 A n c bs 0 _ ((R0.out.below B0.out).more B0.out.size) HL.out (by omega) (by omega)).mono ?_
  rintro e w1 ⟨rfl, b1⟩
  rw [show be ((bs.drop 0).take 2) = a1 from HN.out.1.1]
  have q1 : Hid (w1.heap[w.heap.size + 1]? = some (.cells #[.int .i64 0, .int .i64 0, .int .i64 (-1), .int .i64 0, .slice none 0 0] 27)) := Lib.hid (K.below b1 q0.out)
  have z1 := Lib.hid (K.below b1 z0.out)
  have B1 := Lib.hid (bthen B0.out b1)
  clear b1
  go_wp2_with fail
  refine (specBe32 A n c bs 2 _ ((R0.out.below B1.out).more B1.out.size) HL.out (by omega) (by omega)).mono ?_
  rintro e w2 ⟨rfl, b2⟩
  rw [show be ((bs.drop 2).take 4) = b1 from HN.out.1.2]
  have q2 : Hid (w2.heap[w.heap.size + 1]? = some (.cells #[.int .i64 0, .int .i64 0, .int .i64 (-1), .int .i64 0, .slice none 0 0] 27)) := Lib.hid (K.below b2 q1.out)
  have z2 := Lib.hid (K.below b2 z1.out)
  have B2 := Lib.hid (bthen B1.out b2)
  clear b2
  obtain ⟨⟨c0, c1, c2, c3, c4⟩, f0, f1, f2, f3, f4⟩ := K.row5 q2.out
  go_wp2_with fail
  clear c0 c1 c2 c3 c4 f0 f1 f2 f3 f4
  have q3 : Hid ((w2.setCell ⟨w.heap.size + 1, 0, none⟩ (.int .i64 dst)).heap[w.heap.size + 1]? = some (.cells #[.int .i64 dst, .int .i64 0, .int .i64 (-1), .int .i64 0, .slice none 0 0] 27)) := Lib.hid (K.set q2.out 0 _)
  have z3 : Hid ((w2.setCell ⟨w.heap.size + 1, 0, none⟩ (.int .i64 dst)).heap[w.heap.size]? = some (.cells #[.int .i64 0, .int .i64 0, .int .i64 0, .int .i64 0, .slice none 0 0] 27)) := Lib.hid (K.other z2.out _ _ _ (by omega))
  have B3 : Hid (Below w.heap.size w (w2.setCell ⟨w.heap.size + 1, 0, none⟩ (.int .i64 dst))) := Lib.hid (B2.out.setCell (p := ⟨w.heap.size + 1, 0, none⟩) (Nat.le_succ _) _)
  refine (specBe16 A n c bs 6 _ ((R0.out.below B3.out).more B3.out.size) HL.out (by omega) (by omega)).mono ?_
  rintro e w4 ⟨rfl, b4⟩
  rw [show be ((bs.drop 6).take 2) = a2 from HN.out.2.1]
  have q4 : Hid (w4.heap[w.heap.size + 1]? = some (.cells #[.int .i64 dst, .int .i64 0, .int .i64 (-1), .int .i64 0, .slice none 0 0] 27)) := Lib.hid (K.below b4 q3.out)
  have z4 := Lib.hid (K.below b4 z3.out)
  have B4 := Lib.hid (bthen B3.out b4)
  clear b4
  go_wp2_with fail
  refine (specBe32 A n c bs 8 _ ((R0.out.below B4.out).more B4.out.size) HL.out (by omega) (by omega)).mono ?_
  rintro e w5 ⟨rfl, b5⟩
  rw [show be ((bs.drop 8).take 4) = b2 from HN.out.2.2]
  have q5 : Hid (w5.heap[w.heap.size + 1]? = some (.cells #[.int .i64 dst, .int .i64 0, .int .i64 (-1), .int .i64 0, .slice none 0 0] 27)) := Lib.hid (K.below b5 q4.out)
  have z5 := Lib.hid (K.below b5 z4.out)
  have B5 := Lib.hid (bthen B4.out b5)
  clear b5
  obtain ⟨⟨c0, c1, c2, c3, c4⟩, f0, f1, f2, f3, f4⟩ := K.row5 q5.out
  go_wp2_with fail
  clear c0 c1 c2 c3 c4 f0 f1 f2 f3 f4
  have q6 : Hid ((w5.setCell ⟨w.heap.size + 1, 1, none⟩ (.int .i64 src)).heap[w.heap.size + 1]? = some (.cells #[.int .i64 dst, .int .i64 src, .int .i64 (-1), .int .i64 0, .slice none 0 0] 27)) := Lib.hid (K.set q5.out 1 _)
  have z6 : Hid ((w5.setCell ⟨w.heap.size + 1, 1, none⟩ (.int .i64 src)).heap[w.heap.size]? = some (.cells #[.int .i64 0, .int .i64 0, .int .i64 0, .int .i64 0, .slice none 0 0] 27)) := Lib.hid (K.other z5.out _ _ _ (by omega))
  have B6 : Hid (Below w.heap.size w (w5.setCell ⟨w.heap.size + 1, 1, none⟩ (.int .i64 src))) := Lib.hid (B5.out.setCell (p := ⟨w.heap.size + 1, 1, none⟩) (Nat.le_succ _) _)
  refine (specBe16 A n c bs 12 _ ((R0.out.below B6.out).more B6.out.size) HL.out (by omega) (by omega)).mono ?_
  rintro e w7 ⟨rfl, b7⟩
  rw [show be ((bs.drop 12).take 2) = 33024 from HK.out]
  have q7 : Hid (w7.heap[w.heap.size + 1]? = some (.cells #[.int .i64 dst, .int .i64 src, .int .i64 (-1), .int .i64 0, .slice none 0 0] 27)) := Lib.hid (K.below b7 q6.out)
  have z7 := Lib.hid (K.below b7 z6.out)
  have B7 := Lib.hid (bthen B6.out b7)
  clear b7
  go_wp2_with fail
  refine (specBe16 A n c bs 14 _ ((R0.out.below B7.out).more B7.out.size) HL.out (by omega) (by omega)).mono ?_
  rintro e w8 ⟨rfl, b8⟩
  rw [show be ((bs.drop 14).take 2) = tt from HTT.out]
  have q8 : Hid (w8.heap[w.heap.size + 1]? = some (.cells #[.int .i64 dst, .int .i64 src, .int .i64 (-1), .int .i64 0, .slice none 0 0] 27)) := Lib.hid (K.below b8 q7.out)
  have z8 := Lib.hid (K.below b8 z7.out)
  have B8 := Lib.hid (bthen B7.out b8)
  clear b8
  obtain ⟨⟨c0, c1, c2, c3, c4⟩, f0, f1, f2, f3, f4⟩ := K.row5 q8.out
  go_wp2_with fail
  clear c0 c1 c2 c3 c4 f0 f1 f2 f3 f4
  have q9 : Hid ((w8.setCell ⟨w.heap.size + 1, 2, none⟩ (.int .i64 (tt : Int))).heap[w.heap.size + 1]? = some (.cells #[.int .i64 dst, .int .i64 src, .int .i64 (tt : Int), .int .i64 0, .slice none 0 0] 27)) := Lib.hid (K.set q8.out 2 _)
  have z9 : Hid ((w8.setCell ⟨w.heap.size + 1, 2, none⟩ (.int .i64 (tt : Int))).heap[w.heap.size]? = some (.cells #[.int .i64 0, .int .i64 0, .int .i64 0, .int .i64 0, .slice none 0 0] 27)) := Lib.hid (K.other z8.out _ _ _ (by omega))
  have B9 : Hid (Below w.heap.size w (w8.setCell ⟨w.heap.size + 1, 2, none⟩ (.int .i64 (tt : Int)))) := Lib.hid (B8.out.setCell (p := ⟨w.heap.size + 1, 2, none⟩) (Nat.le_succ _) _)
  refine (specBe16 A n c bs 16 _ ((R0.out.below B9.out).more B9.out.size) HL.out (by omega) (by omega)).mono ?_
  rintro e w10 ⟨rfl, b10⟩
  rw [show be ((bs.drop 16).take 2) = k from HKK.out]
  have q10 : Hid (w10.heap[w.heap.size + 1]? = some (.cells #[.int .i64 dst, .int .i64 src, .int .i64 (tt : Int), .int .i64 0, .slice none 0 0] 27)) := Lib.hid (K.below b10 q9.out)
  have z10 := Lib.hid (K.below b10 z9.out)
  have B10 := Lib.hid (bthen B9.out b10)
  clear b10
  obtain ⟨⟨c0, c1, c2, c3, c4⟩, f0, f1, f2, f3, f4⟩ := K.row5 z10.out
  go_wp2
  (try simp only [Exit.inBlock, Exit.then])
  refine bodyPost_ret (v := .tuple #[.agg #[.int .i64 Eh.zero.d, .int .i64 Eh.zero.s, .int .i64 Eh.zero.t, .int .i64 Eh.zero.k, .slice none 0 0], .int .i64 4]) ?_ rfl (erOut_no HQ.out (by omega) (by have := B10.out; go_grown))
  refine K.resCellTmp Try.results21 _ _ _ w.heap.size _ ?_ (run_loadVar_row _ _ 27 27 _ (0, 0) _ (K.set5 _ _ _ _ _ z10.out) Try.underlying27 rfl info_eth)
  rfl

set_option maxRecDepth 100000 in
set_option maxHeartbeats 2000000 in
theorem specER_tag_yes (A : Option Addr) (n c : Nat) (bs : List UInt8) (w : World) (hr : RB w w.heap.size A bs) (hl : bs.length = n) (hc : n ≤ c) (h1600 : n ≤ 1600) (h14 : 14 ≤ n) (h18 : ¬ (n : Int) < 18) (hk : num bs 12 2 = 33024) (tt : Nat) (htt : num bs 14 2 = tt) (k : Nat) (hkk : num bs 16 2 = k) (hk1 : ¬ (k : Int) < 1536) (hk2 : ((k : Int) == 33024) = false) (hrc : rdc bs = 0) (hrt : rdTag bs = tt) (hrk : rdKind bs = k) (hro : rdOff bs = 18) : Calls Try.prog 21 #[.slice A n c] w (EROut bs w) := by
  obtain ⟨l, hll⟩ : ∃ l, 18 + l = n := ⟨n - 18, by omega⟩
  obtain ⟨ds, hds⟩ : ∃ ds, bs.drop 18 = ds := ⟨_, rfl⟩
  have HDL := Lib.hid (show ds.length = l by rw [← hds, List.length_drop]; omega)
  have HB := Lib.hid (show rdb bs = ds by rw [rdb, if_pos hrc, hro, hds])
  obtain ⟨X, dd, hsl, hX⟩ := cut_at A n c 18 l hll
  have HSL := Lib.hid (show ∀ v : World, (Instr.sliceAt 22 (.slice A n c) (some (.int .i64 18)) none none).run Try.prog v = .ok (.slice X l dd) v from hsl)
  have HRX := Lib.hid (show ∀ (v : World) (B : Nat), RB v B A bs → RB v B X ds from fun v B h => by rw [← hds]; exact hX h hl hc)
  have hl16 : l ≤ 1600 := by omega
  clear hsl hX hds hll
  have HQ := Lib.hid hrc
  have HK := Lib.hid hk
  have HTT := Lib.hid htt
  have HKK := Lib.hid hkk
  have hbb : ((33024 : Int) == 33024) = true := by decide
  clear hk htt hkk
  obtain ⟨a1, ha1⟩ : ∃ a : Nat, num bs 0 2 = a := ⟨_, rfl⟩
  obtain ⟨b1, hb1⟩ : ∃ a : Nat, num bs 2 4 = a := ⟨_, rfl⟩
  obtain ⟨a2, ha2⟩ : ∃ a : Nat, num bs 6 2 = a := ⟨_, rfl⟩
  obtain ⟨b2, hb2⟩ : ∃ a : Nat, num bs 8 4 = a := ⟨_, rfl⟩
  have la1 : a1 < 65536 := by rw [← ha1]; exact num_lt2 bs 0
  have lb1 : b1 < 4294967296 := by rw [← hb1]; exact num_lt4 bs 2
  have la2 : a2 < 65536 := by rw [← ha2]; exact num_lt2 bs 6
  have lb2 : b2 < 4294967296 := by rw [← hb2]; exact num_lt4 bs 8
  obtain ⟨dst, hdst⟩ : ∃ d : Int, (a1 : Int) * 4294967296 + (b1 : Int) = d := ⟨_, rfl⟩
  obtain ⟨src, hsrc⟩ : ∃ d : Int, (a2 : Int) * 4294967296 + (b2 : Int) = d := ⟨_, rfl⟩
  have HD := Lib.hid (show ((num bs 0 6 : Nat) : Int) = dst by rw [num_six bs 0 (by omega), ha1, hb1]; omega)
  have HS := Lib.hid (show ((num bs 6 6 : Nat) : Int) = src by rw [num_six bs 6 (by omega), ha2, hb2]; omega)
  have HXX := Lib.hid (show rdx bs = ⟨dst, src, (tt : Int), (k : Int)⟩ by simp [rdx, hrc, hrt, hrk, HD.out, HS.out])
  clear hrc hrt hrk hro
  have HN := Lib.hid (And.intro (And.intro ha1 hb1) (And.intro ha2 hb2))
  have hlI : ¬ (1600 : Int) < (n : Int) := by omega
  have hsI : ¬ (n : Int) < 14 := by omega
  have HL := Lib.hid hl
  have R0 := Lib.hid hr
  clear hl hr ha1 hb1 ha2 hb2
  have B0 : Hid (Below w.heap.size w ((w.alloc (.cells #[.int .i64 0, .int .i64 0, .int .i64 0, .int .i64 0, .slice none 0 0] 27)).alloc (.cells #[.int .i64 0, .int .i64 0, .int .i64 (-1), .int .i64 0, .slice none 0 0] 27))) := Lib.hid (Joins.below_alloc2 w _ _)
  have z0 : Hid (((w.alloc (.cells #[.int .i64 0, .int .i64 0, .int .i64 0, .int .i64 0, .slice none 0 0] 27)).alloc (.cells #[.int .i64 0, .int .i64 0, .int .i64 (-1), .int .i64 0, .slice none 0 0] 27)).heap[w.heap.size]? = some (.cells #[.int .i64 0, .int .i64 0, .int .i64 0, .int .i64 0, .slice none 0 0] 27)) := Lib.hid (K.old (K.new w _) _)
  have q0 : Hid (((w.alloc (.cells #[.int .i64 0, .int .i64 0, .int .i64 0, .int .i64 0, .slice none 0 0] 27)).alloc (.cells #[.int .i64 0, .int .i64 0, .int .i64 (-1), .int .i64 0, .slice none 0 0] 27)).heap[w.heap.size + 1]? = some (.cells #[.int .i64 0, .int .i64 0, .int .i64 (-1), .int .i64 0, .slice none 0 0] 27)) := Lib.hid (by have := K.new (w.alloc (.cells #[.int .i64 0, .int .i64 0, .int .i64 0, .int .i64 0, .slice none 0 0] 27)) (.cells #[.int .i64 0, .int .i64 0, .int .i64 (-1), .int .i64 0, .slice none 0 0] 27); simpa using this)
  go_enter Try.func21, Try.ntmps21
  go_wp2_with fail
  refine (specBe16 A n c bs 0 _ ((R0.out.below B0.out).more B0.out.size) HL.out (by omega) (by omega)).mono ?_
  rintro e w1 ⟨rfl, b1⟩
  rw [show be ((bs.drop 0).take 2) = a1 from HN.out.1.1]
  have q1 : Hid (w1.heap[w.heap.size + 1]? = some (.cells #[.int .i64 0, .int .i64 0, .int .i64 (-1), .int .i64 0, .slice none 0 0] 27)) := Lib.hid (K.below b1 q0.out)
  have z1 := Lib.hid (K.below b1 z0.out)
  have B1 := Lib.hid (bthen B0.out b1)
  clear b1
  go_wp2_with fail
  refine (specBe32 A n c bs 2 _ ((R0.out.below B1.out).more B1.out.size) HL.out (by omega) (by omega)).mono ?_
  rintro e w2 ⟨rfl, b2⟩
  rw [show be ((bs.drop 2).take 4) = b1 from HN.out.1.2]
  have q2 : Hid (w2.heap[w.heap.size + 1]? = some (.cells #[.int .i64 0, .int .i64 0, .int .i64 (-1), .int .i64 0, .slice none 0 0] 27)) := Lib.hid (K.below b2 q1.out)
  have z2 := Lib.hid (K.below b2 z1.out)
  have B2 := Lib.hid (bthen B1.out b2)
  clear b2
  obtain ⟨⟨c0, c1, c2, c3, c4⟩, f0, f1, f2, f3, f4⟩ := K.row5 q2.out
  go_wp2_with fail
  clear c0 c1 c2 c3 c4 f0 f1 f2 f3 f4
  have q3 : Hid ((w2.setCell ⟨w.heap.size + 1, 0, none⟩ (.int .i64 dst)).heap[w.heap.size + 1]? = some (.cells #[.int .i64 dst, .int .i64 0, .int .i64 (-1), .int .i64 0, .slice none 0 0] 27)) := Lib.hid (K.set q2.out 0 _)
  have z3 : Hid ((w2.setCell ⟨w.heap.size + 1, 0, none⟩ (.int .i64 dst)).heap[w.heap.size]? = some (.cells #[.int .i64 0, .int .i64 0, .int .i64 0, .int .i64 0, .slice none 0 0] 27)) := Lib.hid (K.other z2.out _ _ _ (by omega))
  have B3 : Hid (Below w.heap.size w (w2.setCell ⟨w.heap.size + 1, 0, none⟩ (.int .i64 dst))) := Lib.hid (B2.out.setCell (p := ⟨w.heap.size + 1, 0, none⟩) (Nat.le_succ _) _)
  refine (specBe16 A n c bs 6 _ ((R0.out.below B3.out).more B3.out.size) HL.out (by omega) (by omega)).mono ?_
  rintro e w4 ⟨rfl, b4⟩
  rw [show be ((bs.drop 6).take 2) = a2 from HN.out.2.1]
  have q4 : Hid (w4.heap[w.heap.size + 1]? = some (.cells #[.int .i64 dst, .int .i64 0, .int .i64 (-1), .int .i64 0, .slice none 0 0] 27)) := Lib.hid (K.below b4 q3.out)
  have z4 := Lib.hid (K.below b4 z3.out)
  have B4 := Lib.hid (bthen B3.out b4)
  clear b4
  go_wp2_with fail
  refine (specBe32 A n c bs 8 _ ((R0.out.below B4.out).more B4.out.size) HL.out (by omega) (by omega)).mono ?_
  rintro e w5 ⟨rfl, b5⟩
  rw [show be ((bs.drop 8).take 4) = b2 from HN.out.2.2]
  have q5 : Hid (w5.heap[w.heap.size + 1]? = some (.cells #[.int .i64 dst, .int .i64 0, .int .i64 (-1), .int .i64 0, .slice none 0 0] 27)) := Lib.hid (K.below b5 q4.out)
  have z5 := Lib.hid (K.below b5 z4.out)
  have B5 := Lib.hid (bthen B4.out b5)
  clear b5
  obtain ⟨⟨c0, c1, c2, c3, c4⟩, f0, f1, f2, f3, f4⟩ := K.row5 q5.out
  go_wp2_with fail
  clear c0 c1 c2 c3 c4 f0 f1 f2 f3 f4
  have q6 : Hid ((w5.setCell ⟨w.heap.size + 1, 1, none⟩ (.int .i64 src)).heap[w.heap.size + 1]? = some (.cells #[.int .i64 dst, .int .i64 src, .int .i64 (-1), .int .i64 0, .slice none 0 0] 27)) := Lib.hid (K.set q5.out 1 _)
  have z6 : Hid ((w5.setCell ⟨w.heap.size + 1, 1, none⟩ (.int .i64 src)).heap[w.heap.size]? = some (.cells #[.int .i64 0, .int .i64 0, .int .i64 0, .int .i64 0, .slice none 0 0] 27)) := Lib.hid (K.other z5.out _ _ _ (by omega))
  have B6 : Hid (Below w.heap.size w (w5.setCell ⟨w.heap.size + 1, 1, none⟩ (.int .i64 src))) := Lib.hid (B5.out.setCell (p := ⟨w.heap.size + 1, 1, none⟩) (Nat.le_succ _) _)
  refine (specBe16 A n c bs 12 _ ((R0.out.below B6.out).more B6.out.size) HL.out (by omega) (by omega)).mono ?_
  rintro e w7 ⟨rfl, b7⟩
  rw [show be ((bs.drop 12).take 2) = 33024 from HK.out]
  have q7 : Hid (w7.heap[w.heap.size + 1]? = some (.cells #[.int .i64 dst, .int .i64 src, .int .i64 (-1), .int .i64 0, .slice none 0 0] 27)) := Lib.hid (K.below b7 q6.out)
  have z7 := Lib.hid (K.below b7 z6.out)
  have B7 := Lib.hid (bthen B6.out b7)
  clear b7
  go_wp2_with fail
  refine (specBe16 A n c bs 14 _ ((R0.out.below B7.out).more B7.out.size) HL.out (by omega) (by omega)).mono ?_
  rintro e w8 ⟨rfl, b8⟩
  rw [show be ((bs.drop 14).take 2) = tt from HTT.out]
  have q8 : Hid (w8.heap[w.heap.size + 1]? = some (.cells #[.int .i64 dst, .int .i64 src, .int .i64 (-1), .int .i64 0, .slice none 0 0] 27)) := Lib.hid (K.below b8 q7.out)
  have z8 := Lib.hid (K.below b8 z7.out)
  have B8 := Lib.hid (bthen B7.out b8)
  clear b8
  obtain ⟨⟨c0, c1, c2, c3, c4⟩, f0, f1, f2, f3, f4⟩ := K.row5 q8.out
  go_wp2_with fail
  clear c0 c1 c2 c3 c4 f0 f1 f2 f3 f4
  have q9 : Hid ((w8.setCell ⟨w.heap.size + 1, 2, none⟩ (.int .i64 (tt : Int))).heap[w.heap.size + 1]? = some (.cells #[.int .i64 dst, .int .i64 src, .int .i64 (tt : Int), .int .i64 0, .slice none 0 0] 27)) := Lib.hid (K.set q8.out 2 _)
  have z9 : Hid ((w8.setCell ⟨w.heap.size + 1, 2, none⟩ (.int .i64 (tt : Int))).heap[w.heap.size]? = some (.cells #[.int .i64 0, .int .i64 0, .int .i64 0, .int .i64 0, .slice none 0 0] 27)) := Lib.hid (K.other z8.out _ _ _ (by omega))
  have B9 : Hid (Below w.heap.size w (w8.setCell ⟨w.heap.size + 1, 2, none⟩ (.int .i64 (tt : Int)))) := Lib.hid (B8.out.setCell (p := ⟨w.heap.size + 1, 2, none⟩) (Nat.le_succ _) _)
  refine (specBe16 A n c bs 16 _ ((R0.out.below B9.out).more B9.out.size) HL.out (by omega) (by omega)).mono ?_
  rintro e w10 ⟨rfl, b10⟩
  rw [show be ((bs.drop 16).take 2) = k from HKK.out]
  have q10 : Hid (w10.heap[w.heap.size + 1]? = some (.cells #[.int .i64 dst, .int .i64 src, .int .i64 (tt : Int), .int .i64 0, .slice none 0 0] 27)) := Lib.hid (K.below b10 q9.out)
  have z10 := Lib.hid (K.below b10 z9.out)
  have B10 := Lib.hid (bthen B9.out b10)
  clear b10
  obtain ⟨⟨c0, c1, c2, c3, c4⟩, f0, f1, f2, f3, f4⟩ := K.row5 q10.out
  have lt0 : w.heap.size + 2 ≤ w10.heap.size := K.lt q10.out
  have O0 := Lib.hid (own_fresh w10 (w.heap.size + 1) 3 (.int .i64 (k : Int)) (w.heap.size + 2) lt0)
  have q98 : Hid (((w10.setCell ⟨w.heap.size + 1, 3, none⟩ (.int .i64 (k : Int))).alloc (.cells #[] 5)).heap[w.heap.size + 1]? = some (.cells #[.int .i64 dst, .int .i64 src, .int .i64 (tt : Int), .int .i64 (k : Int), .slice none 0 0] 27)) := Lib.hid (K.old (K.set q10.out 3 _) _)
  have z98 : Hid (((w10.setCell ⟨w.heap.size + 1, 3, none⟩ (.int .i64 (k : Int))).alloc (.cells #[] 5)).heap[w.heap.size]? = some (.cells #[.int .i64 0, .int .i64 0, .int .i64 0, .int .i64 0, .slice none 0 0] 27)) := Lib.hid (K.old (K.other z10.out _ _ _ (by omega)) _)
  have B98 : Hid (Below w.heap.size w ((w10.setCell ⟨w.heap.size + 1, 3, none⟩ (.int .i64 (k : Int))).alloc (.cells #[] 5))) := Lib.hid (bthen (B10.out.setCell (p := ⟨w.heap.size + 1, 3, none⟩) (Nat.le_succ _) _) (Joins.below_alloc1 _ _))
  have s98 : w.heap.size + 2 ≤ ((w10.setCell ⟨w.heap.size + 1, 3, none⟩ (.int .i64 (k : Int))).alloc (.cells #[] 5)).heap.size := by simp; omega
  have hsl := HSL.out
  go_wp2_with (at_builtin; (refine wpList_append_b rfl (.tmp 82) (.tmp 85) rfl (w.heap.size + 2) (.slice (some ⟨w10.heap.size, 0, none⟩) 0 0) [] rfl O0.out _ X l dd ds rfl HDL.out (HRX.out _ _ (R0.out.below B98.out)) (by simp [HDL.out]; omega) s98 ?_); intro v99 w99 o99 g99 a99; rw [List.nil_append, HDL.out] at o99; have q99 := Lib.hid (K.kept g99 q98.out (fun k hk => by simp [Value.ownBlock] at hk; omega)); have z99 := Lib.hid (K.kept g99 z98.out (fun k hk => by simp [Value.ownBlock] at hk; omega)); have B99 := Lib.hid (bgrown B98.out g99 (fun k hk => by simp [Value.ownBlock] at hk; omega)); have O99 := Lib.hid o99; clear g99 a99 c0 c1 c2 c3 c4 f0 f1 f2 f3 f4; obtain ⟨D, d, rfl⟩ := own_form o99; clear o99; obtain ⟨⟨c0, c1, c2, c3, c4⟩, f0, f1, f2, f3, f4⟩ := K.row5 q99.out; obtain ⟨⟨d0, d1, d2, d3, d4⟩, g0, g1, g2, g3, g4⟩ := K.row5 z99.out)
  (try simp only [Exit.inBlock, Exit.then])
  refine bodyPost_ret (v := .tuple #[.agg #[.int .i64 dst, .int .i64 src, .int .i64 (tt : Int), .int .i64 (k : Int), .slice D l d], .int .i64 0]) ?_ rfl (erOut_yes (x := ⟨dst, src, (tt : Int), (k : Int)⟩) HQ.out HXX.out HB.out HDL.out (own_set5 (own_set O99.out _ 4 _ (by omega)) _ _ _ _ _ _ (by omega)) (by omega) (by have := B99.out; go_grown))
  refine K.resCellTmp Try.results21 _ _ _ w.heap.size _ ?_ (run_loadVar_row _ _ 27 27 _ (0, 0) _ (K.set5 _ _ _ _ _ (K.other z99.out _ _ _ (by omega))) Try.underlying27 rfl info_eth)
  rfl

theorem specER (A : Option Addr) (n c : Nat) (bs : List UInt8) (w : World) (hr : RB w w.heap.size A bs) (hl : bs.length = n) (hn : n ≤ 1048576) (hc : n ≤ c) : Calls Try.prog 21 #[.slice A n c] w (EROut bs w) := by
  by_cases h1 : n ≤ 1600
  · by_cases h2 : 14 ≤ n
    · cases ht : tagged bs
      · have hne : num bs 12 2 ≠ 33024 := by simpa [tagged] using ht
        have hrk : rdKind bs = num bs 12 2 := by simp [rdKind, ht]
        have hb : (((num bs 12 2 : Nat) : Int) == 33024) = false := by simp; omega
        have hrr := rdc_rest (bs := bs) (by omega) (by omega) (by simp [ht])
        have h2b := num_lt2 bs 12
        have hkk := kind_two _ h2b
        by_cases hk : ((num bs 12 2 : Nat) : Int) < 1536
        · rw [hrk, show kindOk (num bs 12 2) = false by cases h : kindOk (num bs 12 2) <;> simp_all; omega] at hrr
          exact specER_plain_no A n c bs w hr hl h1 h2 _ rfl hk hb hrr
        · rw [hrk, show kindOk (num bs 12 2) = true from hkk.2 ⟨by omega, by omega⟩] at hrr
          exact specER_plain_yes A n c bs w hr hl hc h1 h2 _ rfl hk hb hrr (by simp [rdTag, ht]) hrk (by simp [rdOff, ht])
      · have he : num bs 12 2 = 33024 := by simpa [tagged] using ht
        by_cases h3 : n < 18
        · exact specER_tag_short A n c bs w hr hl h1 h2 (by omega) he (rdc_tag (by omega) (by omega) ht (by omega))
        · have hrk : rdKind bs = num bs 16 2 := by simp [rdKind, ht]
          have hrr := rdc_rest (bs := bs) (by omega) (by omega) (by omega)
          have h2b := num_lt2 bs 16
          have hkk := kind_two _ h2b
          by_cases hk : ((num bs 16 2 : Nat) : Int) < 1536
          · rw [hrk, show kindOk (num bs 16 2) = false by cases h : kindOk (num bs 16 2) <;> simp_all; omega] at hrr
            exact specER_tag_low A n c bs w hr hl h1 h2 (by omega) he _ rfl _ rfl hk hrr
          · by_cases hk2 : ((num bs 16 2 : Nat) : Int) = 33024
            · rw [hrk, show kindOk (num bs 16 2) = false by cases h : kindOk (num bs 16 2) <;> simp_all] at hrr
              exact specER_tag_two A n c bs w hr hl h1 h2 (by omega) he _ rfl _ rfl hk (by simpa using hk2) hrr
            · rw [hrk, show kindOk (num bs 16 2) = true from hkk.2 ⟨by omega, hk2⟩] at hrr
              exact specER_tag_yes A n c bs w hr hl hc h1 h2 (by omega) he _ rfl _ rfl hk (by simpa using hk2) hrr (by simp [rdTag, ht]) hrk (by simp [rdOff, ht])
    · exact specER_short A n c bs w hl (by omega)
  · exact specER_long A n c bs w hl hn (by omega)
end Go.Proofs.Ytaemonjiejgciaa
