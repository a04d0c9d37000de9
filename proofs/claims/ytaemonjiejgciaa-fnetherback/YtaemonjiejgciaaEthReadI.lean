/-
  EtherRead in the program.
-/
import Derived.Test.YtaemonjiejgciaaEthRdLib
import Derived.Test.YtaemonjiejgciaaEthOk
namespace Go.Proofs.Ytaemonjiejgciaa
open Go.RowKit

def TKOut (g : Nat) (A : Option Addr) (n c : Nat) (bs : List UInt8) (t k q : Int) (j : Nat) (w : World) (e : Ending) (w' : World) : Prop :=
  e = .returned (.tuple #[.int .i64 t, .int .i64 k, .int .i64 q]) ∧ Rd w' g A n c bs j ∧ w.grownBy w' (some g)

set_option maxHeartbeats 1000000 in
theorem tk_short (w : World) (g : Nat) (A : Option Addr) (n c : Nat) (bs : List UInt8) (h : Rd w g A n c bs 12) (h14 : 14 ≤ n) (h18 : n < 18) (ht : num bs 12 2 = 33024) :
    Calls Try.prog 40 #[.pointer (some ⟨g, 0, none⟩)] w (TKOut g A n c bs 0 0 3 14 w) := by
  obtain ⟨l, hl⟩ : ∃ l, 14 + l = n := ⟨n - 14, by omega⟩
  have hl4 : (l : Int) < 4 := by omega
  have HL := Lib.hid hl
  have HT := Lib.hid ht
  have hb : ((33024 : Int) == 33024) = true := by decide
  clear hl ht
  go_enter Try.func40, Try.ntmps40
  go_wp2_with fail
  refine (numberC w g A n c bs 12 2 h (by omega) (by omega) (by omega)).mono ?_
  rintro e w1 ⟨rfl, h1, g1⟩
  rw [show be ((bs.drop 12).take 2) = 33024 from HT.out]
  go_wp2_with fail
  refine (leftC w1 g A n c bs 14 l h1 HL.out).mono ?_
  rintro e w2 ⟨rfl, b2⟩
  have h2 := Lib.hid (h1.below b2)
  have g2 := Lib.hid (grownBy_trans g1 (below_grown b2 (some g)))
  clear h1 g1 b2
  go_wp2
  go_returns
  exact ⟨rfl, h2.out, g2.out⟩

set_option maxHeartbeats 1000000 in
theorem tk_plain_yes (w : World) (g : Nat) (A : Option Addr) (n c : Nat) (bs : List UInt8) (h : Rd w g A n c bs 12) (h14 : 14 ≤ n) (k : Int) (hk : ((num bs 12 2 : Nat) : Int) = k) (ht : (k == 33024) = false) (hb : kindOk k = true) :
    Calls Try.prog 40 #[.pointer (some ⟨g, 0, none⟩)] w (TKOut g A n c bs (-1) k 0 14 w) := by
  have kc := kindOkC k
  rw [hb] at kc
  have KC := Lib.hid kc
  have HK := Lib.hid hk
  clear kc hk hb
  go_enter Try.func40, Try.ntmps40
  go_wp2_with fail
  refine (numberC w g A n c bs 12 2 h (by omega) (by omega) (by omega)).mono ?_
  rintro e w1 ⟨rfl, h1, g1⟩
  rw [show ((be ((bs.drop 12).take 2) : Nat) : Int) = k from HK.out]
  go_wp2_with fail
  refine (KC.out _).mono ?_
  rintro e w2 ⟨rfl, rfl⟩
  go_wp2
  go_returns
  exact ⟨rfl, h1, g1⟩

set_option maxHeartbeats 1000000 in
theorem tk_plain_no (w : World) (g : Nat) (A : Option Addr) (n c : Nat) (bs : List UInt8) (h : Rd w g A n c bs 12) (h14 : 14 ≤ n) (k : Int) (hk : ((num bs 12 2 : Nat) : Int) = k) (ht : (k == 33024) = false) (hb : kindOk k = false) :
    Calls Try.prog 40 #[.pointer (some ⟨g, 0, none⟩)] w (TKOut g A n c bs 0 0 4 14 w) := by
  have kc := kindOkC k
  rw [hb] at kc
  have KC := Lib.hid kc
  have HK := Lib.hid hk
  clear kc hk hb
  go_enter Try.func40, Try.ntmps40
  go_wp2_with fail
  refine (numberC w g A n c bs 12 2 h (by omega) (by omega) (by omega)).mono ?_
  rintro e w1 ⟨rfl, h1, g1⟩
  rw [show ((be ((bs.drop 12).take 2) : Nat) : Int) = k from HK.out]
  go_wp2_with fail
  refine (KC.out _).mono ?_
  rintro e w2 ⟨rfl, rfl⟩
  go_wp2
  go_returns
  exact ⟨rfl, h1, g1⟩

set_option maxHeartbeats 1000000 in
theorem tk_tag_yes (w : World) (g : Nat) (A : Option Addr) (n c : Nat) (bs : List UInt8) (h : Rd w g A n c bs 12) (h18 : 18 ≤ n) (ht : num bs 12 2 = 33024) (t k : Int) (hkt : ((num bs 14 2 : Nat) : Int) = t) (hk : ((num bs 16 2 : Nat) : Int) = k) (hb : kindOk k = true) :
    Calls Try.prog 40 #[.pointer (some ⟨g, 0, none⟩)] w (TKOut g A n c bs t k 0 18 w) := by
  have kc := kindOkC k
  rw [hb] at kc
  have KC := Lib.hid kc
  have HK := Lib.hid hk
  have HKT := Lib.hid hkt
  have HT := Lib.hid ht
  obtain ⟨l, hl⟩ : ∃ l, 14 + l = n := ⟨n - 14, by omega⟩
  have hl4 : ¬ (l : Int) < 4 := by omega
  have hbb : ((33024 : Int) == 33024) = true := by decide
  have HL := Lib.hid hl
  clear kc hk hb hkt ht hl
  go_enter Try.func40, Try.ntmps40
  go_wp2_with fail
  refine (numberC w g A n c bs 12 2 h (by omega) (by omega) (by omega)).mono ?_
  rintro e w1 ⟨rfl, h1, g1⟩
  rw [show be ((bs.drop 12).take 2) = 33024 from HT.out]
  go_wp2_with fail
  refine (leftC w1 g A n c bs 14 l h1 HL.out).mono ?_
  rintro e w2 ⟨rfl, b2⟩
  have h2 := h1.below b2
  have g2 := Lib.hid (grownBy_trans g1 (below_grown b2 (some g)))
  clear h1 g1 b2
  go_wp2_with fail
  refine (numberC w2 g A n c bs 14 2 h2 (by omega) (by omega) (by omega)).mono ?_
  rintro e w3 ⟨rfl, h3, g3⟩
  rw [show ((be ((bs.drop 14).take 2) : Nat) : Int) = t from HKT.out]
  have G3 := Lib.hid (grownBy_trans g2.out g3)
  clear h2 g2 g3
  go_wp2_with fail
  refine (numberC w3 g A n c bs 16 2 h3 (by omega) (by omega) (by omega)).mono ?_
  rintro e w4 ⟨rfl, h4, g4⟩
  rw [show ((be ((bs.drop 16).take 2) : Nat) : Int) = k from HK.out]
  have G4 := Lib.hid (grownBy_trans G3.out g4)
  have H4 := Lib.hid h4
  clear h3 G3 g4 h4
  go_wp2_with fail
  refine (KC.out _).mono ?_
  rintro e w5 ⟨rfl, rfl⟩
  go_wp2
  go_returns
  exact ⟨rfl, H4.out, G4.out⟩

set_option maxHeartbeats 1000000 in
theorem tk_tag_no (w : World) (g : Nat) (A : Option Addr) (n c : Nat) (bs : List UInt8) (h : Rd w g A n c bs 12) (h18 : 18 ≤ n) (ht : num bs 12 2 = 33024) (t k : Int) (hkt : ((num bs 14 2 : Nat) : Int) = t) (hk : ((num bs 16 2 : Nat) : Int) = k) (hb : kindOk k = false) :
    Calls Try.prog 40 #[.pointer (some ⟨g, 0, none⟩)] w (TKOut g A n c bs 0 0 4 18 w) := by
  have kc := kindOkC k
  rw [hb] at kc
  have KC := Lib.hid kc
  have HK := Lib.hid hk
  have HKT := Lib.hid hkt
  have HT := Lib.hid ht
  obtain ⟨l, hl⟩ : ∃ l, 14 + l = n := ⟨n - 14, by omega⟩
  have hl4 : ¬ (l : Int) < 4 := by omega
  have hbb : ((33024 : Int) == 33024) = true := by decide
  have HL := Lib.hid hl
  clear kc hk hb hkt ht hl
  go_enter Try.func40, Try.ntmps40
  go_wp2_with fail
  refine (numberC w g A n c bs 12 2 h (by omega) (by omega) (by omega)).mono ?_
  rintro e w1 ⟨rfl, h1, g1⟩
  rw [show be ((bs.drop 12).take 2) = 33024 from HT.out]
  go_wp2_with fail
  refine (leftC w1 g A n c bs 14 l h1 HL.out).mono ?_
  rintro e w2 ⟨rfl, b2⟩
  have h2 := h1.below b2
  have g2 := Lib.hid (grownBy_trans g1 (below_grown b2 (some g)))
  clear h1 g1 b2
  go_wp2_with fail
  refine (numberC w2 g A n c bs 14 2 h2 (by omega) (by omega) (by omega)).mono ?_
  rintro e w3 ⟨rfl, h3, g3⟩
  rw [show ((be ((bs.drop 14).take 2) : Nat) : Int) = t from HKT.out]
  have G3 := Lib.hid (grownBy_trans g2.out g3)
  clear h2 g2 g3
  go_wp2_with fail
  refine (numberC w3 g A n c bs 16 2 h3 (by omega) (by omega) (by omega)).mono ?_
  rintro e w4 ⟨rfl, h4, g4⟩
  rw [show ((be ((bs.drop 16).take 2) : Nat) : Int) = k from HK.out]
  have G4 := Lib.hid (grownBy_trans G3.out g4)
  have H4 := Lib.hid h4
  clear h3 G3 g4 h4
  go_wp2_with fail
  refine (KC.out _).mono ?_
  rintro e w5 ⟨rfl, rfl⟩
  go_wp2
  go_returns
  exact ⟨rfl, H4.out, G4.out⟩

set_option maxHeartbeats 400000 in
theorem implER_long (A : Option Addr) (n c : Nat) (bs : List UInt8) (w : World) (hl : bs.length = n) (hn : n ≤ 1048576) (h : 1600 < n) : Calls Try.prog 23 #[.slice A n c] w (EROut bs w) := by
  have H := Lib.hid (rdc_long (bs := bs) (by omega))
  have hI : (1600 : Int) < (n : Int) := by omega
  go_enter Try.func23, Try.ntmps23
  go_wp2
  go_returns
  exact erOut_no H.out (by omega) (by go_grown)

set_option maxHeartbeats 400000 in
theorem implER_short (A : Option Addr) (n c : Nat) (bs : List UInt8) (w : World) (hl : bs.length = n) (h : n < 14) : Calls Try.prog 23 #[.slice A n c] w (EROut bs w) := by
  have H := Lib.hid (rdc_short (bs := bs) (by omega))
  have hI : ¬ (1600 : Int) < (n : Int) := by omega
  have hJ : (n : Int) < 14 := by omega
  go_enter Try.func23, Try.ntmps23
  go_wp2
  go_returns
  exact erOut_no H.out (by omega) (by go_grown)

set_option maxRecDepth 100000 in
set_option maxHeartbeats 1000000 in
theorem implER_bad (A : Option Addr) (n c : Nat) (bs : List UInt8) (w : World) (hr : RB w w.heap.size A bs) (hl : bs.length = n) (hc : n ≤ c) (h1 : n ≤ 1600) (h2 : 14 ≤ n) (q : Int) (j : Nat) (hq : (q != 0) = true) (hrc : rdc bs = q)
    (tk : ∀ v g, Rd v g A n c bs 12 → Calls Try.prog 40 #[.pointer (some ⟨g, 0, none⟩)] v (TKOut g A n c bs 0 0 q j v)) : Calls Try.prog 23 #[.slice A n c] w (EROut bs w) := by
  have HQ := Lib.hid hrc
  have hq0 : q ≠ 0 := by simpa using hq
  have HN := Lib.hid hq0
  have TK := Lib.hid tk
  clear hrc tk hq0
  have HA := Lib.hid hr
  have hpos : 0 < bs.length := by omega
  obtain ⟨g0, o0, rfl, -, -⟩ := hr hpos
  have R1 : Hid (Rd ((w.alloc (.cells #[.int .i64 0, .int .i64 0, .int .i64 0, .int .i64 0, .slice none 0 0] 27)).alloc (.cells #[.slice (some ⟨g0, o0, none⟩) n c, .int .i64 0] 50)) (w.heap.size + 1) (some ⟨g0, o0, none⟩) n c bs 0) := Lib.hid ⟨by have := K.new (w.alloc (.cells #[.int .i64 0, .int .i64 0, .int .i64 0, .int .i64 0, .slice none 0 0] 27)) (.cells #[.slice (some ⟨g0, o0, none⟩) n c, .int .i64 0] 50); simpa using this, (HA.out.below (Joins.below_alloc2 w _ _)).more (by omega), hl, by omega, hc⟩
  have Q1 : Hid (((w.alloc (.cells #[.int .i64 0, .int .i64 0, .int .i64 0, .int .i64 0, .slice none 0 0] 27)).alloc (.cells #[.slice (some ⟨g0, o0, none⟩) n c, .int .i64 0] 50)).heap[w.heap.size]? = some (.cells #[.int .i64 0, .int .i64 0, .int .i64 0, .int .i64 0, .slice none 0 0] 27)) := Lib.hid (K.old (K.new w _) _)
  have hlI : ¬ (1600 : Int) < (n : Int) := by omega
  have hsI : ¬ (n : Int) < 14 := by omega
  have HL := Lib.hid hl
  clear hl hpos HA
  go_enter Try.func23, Try.ntmps23
  go_wp2_with fail
  refine (numberC _ _ _ n c bs 0 6 R1.out (by omega) (by omega) (by omega)).mono ?_
  rintro e w1 ⟨rfl, h1, g1⟩
  have q1 := Lib.hid (K.kept g1 Q1.out (fun k hk => by cases hk; omega))
  have G1 := Lib.hid (bgrown (Joins.below_alloc2 w _ _) g1 (fun k hk => by cases hk; omega))
  clear g1
  go_wp2_with fail
  refine (numberC w1 _ _ n c bs 6 6 h1 (by omega) (by omega) (by omega)).mono ?_
  rintro e w2 ⟨rfl, h2, g2⟩
  have q2 := Lib.hid (K.kept g2 q1.out (fun k hk => by cases hk; omega))
  have G2 := Lib.hid (bgrown G1.out g2 (fun k hk => by cases hk; omega))
  clear g2 h1
  go_wp2_with fail
  refine (TK.out w2 _ h2).mono ?_
  rintro e w3 ⟨rfl, h3, g3⟩
  have q3 := Lib.hid (K.kept g3 q2.out (fun k hk => by cases hk; omega))
  have G3 := Lib.hid (bgrown G2.out g3 (fun k hk => by cases hk; omega))
  have H3 := Lib.hid h3
  clear g3 h2 h3
  obtain ⟨⟨c0, c1, c2, c3, c4⟩, f0, f1, f2, f3, f4⟩ := K.row5 q3.out
  go_wp2
  (try simp only [Exit.inBlock, Exit.then])
  refine bodyPost_ret (v := .tuple #[.agg #[.int .i64 Eh.zero.d, .int .i64 Eh.zero.s, .int .i64 Eh.zero.t, .int .i64 Eh.zero.k, .slice none 0 0], .int .i64 q]) ?_ rfl (erOut_no HQ.out HN.out (by have := G3.out; go_grown))
  refine K.resCellTmp Try.results23 _ _ _ w.heap.size _ ?_ (run_loadVar_row _ _ 27 27 _ (0, 0) _ (K.set5 _ _ _ _ _ q3.out) Try.underlying27 rfl info_eth)
  rfl

set_option maxRecDepth 100000 in
set_option maxHeartbeats 1000000 in
theorem implER_good (A : Option Addr) (n c : Nat) (bs : List UInt8) (w : World) (hr : RB w w.heap.size A bs) (hl : bs.length = n) (hc : n ≤ c) (h1 : n ≤ 1600) (h2 : 14 ≤ n) (t k : Int) (j : Nat) (hjn : j ≤ n) (hrc : rdc bs = 0) (hrt : rdTag bs = t) (hrk : rdKind bs = k) (hrj : rdOff bs = j)
    (tk : ∀ v g, Rd v g A n c bs 12 → Calls Try.prog 40 #[.pointer (some ⟨g, 0, none⟩)] v (TKOut g A n c bs t k 0 j v)) : Calls Try.prog 23 #[.slice A n c] w (EROut bs w) := by
  obtain ⟨dst, hdst⟩ : ∃ d : Int, ((num bs 0 6 : Nat) : Int) = d := ⟨_, rfl⟩
  obtain ⟨src, hsrc⟩ : ∃ d : Int, ((num bs 6 6 : Nat) : Int) = d := ⟨_, rfl⟩
  obtain ⟨l, hll⟩ : ∃ l, j + l = n := ⟨n - j, by omega⟩
  have HX := Lib.hid (show rdx bs = ⟨dst, src, t, k⟩ by simp [rdx, hrc, hrt, hrk, hdst, hsrc])
  have HB := Lib.hid (show rdb bs = (bs.drop j).take l by rw [rdb, if_pos hrc, hrj, List.take_of_length_le]; simp; omega)
  have HBL := Lib.hid (show ((bs.drop j).take l).length = l by simp; omega)
  have HQ := Lib.hid hrc
  have HJ := Lib.hid hll
  have HD := Lib.hid (And.intro hdst hsrc)
  have TK := Lib.hid tk
  clear hrc hrt hrk hrj hll hdst hsrc tk
  have HA := Lib.hid hr
  have hpos : 0 < bs.length := by omega
  obtain ⟨g0, o0, rfl, -, -⟩ := hr hpos
  have R1 : Hid (Rd ((w.alloc (.cells #[.int .i64 0, .int .i64 0, .int .i64 0, .int .i64 0, .slice none 0 0] 27)).alloc (.cells #[.slice (some ⟨g0, o0, none⟩) n c, .int .i64 0] 50)) (w.heap.size + 1) (some ⟨g0, o0, none⟩) n c bs 0) := Lib.hid ⟨by have := K.new (w.alloc (.cells #[.int .i64 0, .int .i64 0, .int .i64 0, .int .i64 0, .slice none 0 0] 27)) (.cells #[.slice (some ⟨g0, o0, none⟩) n c, .int .i64 0] 50); simpa using this, (HA.out.below (Joins.below_alloc2 w _ _)).more (by omega), hl, by omega, hc⟩
  have Q1 : Hid (((w.alloc (.cells #[.int .i64 0, .int .i64 0, .int .i64 0, .int .i64 0, .slice none 0 0] 27)).alloc (.cells #[.slice (some ⟨g0, o0, none⟩) n c, .int .i64 0] 50)).heap[w.heap.size]? = some (.cells #[.int .i64 0, .int .i64 0, .int .i64 0, .int .i64 0, .slice none 0 0] 27)) := Lib.hid (K.old (K.new w _) _)
  have hlI : ¬ (1600 : Int) < (n : Int) := by omega
  have hsI : ¬ (n : Int) < 14 := by omega
  have HL := Lib.hid hl
  clear hl hpos HA
  go_enter Try.func23, Try.ntmps23
  go_wp2_with fail
  refine (numberC _ _ _ n c bs 0 6 R1.out (by omega) (by omega) (by omega)).mono ?_
  rintro e w1 ⟨rfl, h1, g1⟩
  have q1 := Lib.hid (K.kept g1 Q1.out (fun k hk => by cases hk; omega))
  have G1 := Lib.hid (bgrown (Joins.below_alloc2 w _ _) g1 (fun k hk => by cases hk; omega))
  clear g1
  rw [show ((be ((bs.drop 0).take 6) : Nat) : Int) = dst from HD.out.1]
  go_wp2_with fail
  refine (numberC w1 _ _ n c bs 6 6 h1 (by omega) (by omega) (by omega)).mono ?_
  rintro e w2 ⟨rfl, h2, g2⟩
  have q2 := Lib.hid (K.kept g2 q1.out (fun k hk => by cases hk; omega))
  have G2 := Lib.hid (bgrown G1.out g2 (fun k hk => by cases hk; omega))
  clear g2 h1
  rw [show ((be ((bs.drop 6).take 6) : Nat) : Int) = src from HD.out.2]
  go_wp2_with fail
  refine (TK.out w2 _ h2).mono ?_
  rintro e w3 ⟨rfl, h3, g3⟩
  have q3 := Lib.hid (K.kept g3 q2.out (fun k hk => by cases hk; omega))
  have G3 := Lib.hid (bgrown G2.out g3 (fun k hk => by cases hk; omega))
  have H3 := Lib.hid h3
  clear g3 h2 h3
  go_wp2_with fail
  refine (leftC w3 _ _ n c bs j l H3.out HJ.out).mono ?_
  rintro e w4 ⟨rfl, b4⟩
  have H4 := Lib.hid (H3.out.below b4)
  have q4 := Lib.hid (K.below b4 q3.out)
  have G4 := Lib.hid (bthen G3.out b4)
  have lt4 := H4.out.lt
  clear b4
  go_wp2_with fail
  refine (takeC w4 _ _ n c bs j l H4.out (Nat.le_of_eq HJ.out)).mono ?_
  rintro e w5 ⟨D, d, rfl, o5, g5⟩
  have q5 := Lib.hid (K.kept g5 q4.out (fun k hk => by cases hk; omega))
  have G5 := Lib.hid (bgrown G4.out g5 (fun k hk => by cases hk; omega))
  have O5 := Lib.hid o5
  clear g5 o5
  obtain ⟨⟨c0, c1, c2, c3, c4⟩, f0, f1, f2, f3, f4⟩ := K.row5 q5.out
  go_wp2
  (try simp only [Exit.inBlock, Exit.then])
  refine bodyPost_ret (v := .tuple #[.agg #[.int .i64 dst, .int .i64 src, .int .i64 t, .int .i64 k, .slice D l d], .int .i64 0]) ?_ rfl (erOut_yes (x := ⟨dst, src, t, k⟩) HQ.out HX.out HB.out HBL.out (own_set5 O5.out _ _ _ _ _ _ (by omega)) (by omega) (by have := G5.out; go_grown))
  refine K.resCellTmp Try.results23 _ _ _ w.heap.size _ ?_ (run_loadVar_row _ _ 27 27 _ (0, 0) _ (K.set5 _ _ _ _ _ q5.out) Try.underlying27 rfl info_eth)
  rfl

theorem implER (A : Option Addr) (n c : Nat) (bs : List UInt8) (w : World) (hr : RB w w.heap.size A bs) (hl : bs.length = n) (hn : n ≤ 1048576) (hc : n ≤ c) : Calls Try.prog 23 #[.slice A n c] w (EROut bs w) := by
  by_cases h1 : n ≤ 1600
  · by_cases h2 : 14 ≤ n
    · cases ht : tagged bs
      · have hne : num bs 12 2 ≠ 33024 := by simpa [tagged] using ht
        have hrk : rdKind bs = num bs 12 2 := by simp [rdKind, ht]
        have hb : (((num bs 12 2 : Nat) : Int) == 33024) = false := by simp; omega
        have hrr := rdc_rest (bs := bs) (by omega) (by omega) (by simp [ht])
        cases hk : kindOk (num bs 12 2)
        · rw [hrk, hk] at hrr
          exact implER_bad A n c bs w hr hl hc h1 h2 4 14 (by decide) hrr (fun v g h => tk_plain_no v g A n c bs h h2 _ rfl hb hk)
        · rw [hrk, hk] at hrr
          exact implER_good A n c bs w hr hl hc h1 h2 (-1) _ 14 h2 hrr (by simp [rdTag, ht]) hrk (by simp [rdOff, ht]) (fun v g h => tk_plain_yes v g A n c bs h h2 _ rfl hb hk)
      · have he : num bs 12 2 = 33024 := by simpa [tagged] using ht
        by_cases h3 : n < 18
        · exact implER_bad A n c bs w hr hl hc h1 h2 3 14 (by decide) (rdc_tag (by omega) (by omega) ht (by omega)) (fun v g h => tk_short v g A n c bs h h2 h3 he)
        · have hrk : rdKind bs = num bs 16 2 := by simp [rdKind, ht]
          have hrr := rdc_rest (bs := bs) (by omega) (by omega) (by omega)
          cases hk : kindOk (num bs 16 2)
          · rw [hrk, hk] at hrr
            exact implER_bad A n c bs w hr hl hc h1 h2 4 18 (by decide) hrr (fun v g h => tk_tag_no v g A n c bs h (by omega) he _ _ rfl rfl hk)
          · rw [hrk, hk] at hrr
            exact implER_good A n c bs w hr hl hc h1 h2 _ _ 18 (by omega) hrr (by simp [rdTag, ht]) hrk (by simp [rdOff, ht]) (fun v g h => tk_tag_yes v g A n c bs h (by omega) he _ _ rfl rfl hk)
    · exact implER_short A n c bs w hl (by omega)
  · exact implER_long A n c bs w hl hn (by omega)
end Go.Proofs.Ytaemonjiejgciaa
