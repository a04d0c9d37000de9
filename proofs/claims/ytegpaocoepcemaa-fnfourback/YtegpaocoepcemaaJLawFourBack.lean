/-
  For all bytes as a code the law FnFourBack returns true: the packet that the model draws from the code, encoded by impl.FourBytes, is decoded by impl.FourRead as that packet, and what is behind it is left over; a packet that is not valid is encoded as no bytes. No condition; the argument reads afterwards as before.
-/
import Derived.Test.YtegpaocoepcemaaKdA
import Derived.Test.YtegpaocoepcemaaFourBackLib
import Derived.Test.YtegpaocoepcemaaKdD
import Derived.Test.YtegpaocoepcemaaFourOkS
import Derived.Test.YtegpaocoepcemaaKdF
import Derived.Test.YtegpaocoepcemaaBytesOf
import Derived.Test.YtegpaocoepcemaaRows
import Derived.ShutString
namespace Go.Proofs.Ytegpaocoepcemaa
set_option maxRecDepth 100000
open Go.RowKit

set_option maxHeartbeats 400000 in
theorem lawFB_big {w : World} (A : Option Addr) (n c : Nat) (h : (1048576 : Int) < n) : Calls Try.prog 9 #[.slice A n c] w fun e w' => e = .returned (.bool true) ∧ Below w.heap.size w w' := by
  have H := Lib.hid (fun v => bigF A n c true v (by simpa using h))
  go_enter Try.func9, Try.ntmps9
  go_wp2_with fail
  refine (H.out _).mono ?_
  rintro e w1 ⟨rfl, rfl⟩
  go_wp2
  go_ret
  exact ⟨rfl, Below.refl _ _⟩

theorem rb_grown {w w' : World} {g o : Nat} {bs : List UInt8} {row : Option Nat} (h : RB w w.heap.size (some ⟨g, o, none⟩) bs) (hg : w.grownBy w' row) (hne : ∀ k, row = some k → g ≠ k) : RB w' w'.heap.size (some ⟨g, o, none⟩) bs := by
  intro hp
  obtain ⟨g', o', e, hl, hc⟩ := h hp
  injection e with e
  injection e with e1 e2
  subst e1 e2
  exact ⟨g, o, rfl, Nat.lt_of_lt_of_le hl hg.size, fun j u hu => hg.cell (hc j u hu) (fun e => hne _ e.symm rfl)⟩
def nineB : List UInt8 := [1, 2, 3, 4, 5, 6, 7, 8, 9]
theorem nine_cells (w : World) : RB (w.alloc (.cells #[.int .u8 1, .int .u8 2, .int .u8 3, .int .u8 4, .int .u8 5, .int .u8 6, .int .u8 7, .int .u8 8, .int .u8 9] 5)) (w.heap.size + 1) (some ⟨w.heap.size, 0, none⟩) nineB := RB.new w 5 nineB

set_option maxHeartbeats 4000000 in
theorem lawFB_small {w : World} (A : Option Addr) (n c : Nat) (bs : List UInt8) (hr : RB w w.heap.size A bs) (hl : bs.length = n) (hn : n ≤ 1048576) : Calls Try.prog 9 #[.slice A n c] w fun e w' => e = .returned (.bool true) ∧ Below w.heap.size w w' := by
  obtain ⟨x, os, ds, hos, hds, hd⟩ := drawFourE bs (by omega)
  obtain ⟨a, ha⟩ : ∃ a, os.length = a := ⟨_, rfl⟩
  obtain ⟨m, hm⟩ : ∃ m, ds.length = m := ⟨_, rfl⟩
  rw [ha, hm] at hd
  rw [ha] at hos
  rw [hm] at hds
  obtain ⟨es, hes⟩ : ∃ es, x.bytes os ds = es := ⟨_, rfl⟩
  obtain ⟨q, hq⟩ : ∃ q, es.length = q := ⟨_, rfl⟩
  have hq2 : q ≤ 1500 := by rw [← hq, ← hes]; exact x.bytes_length os ds
  have DR := Lib.hid hd
  have BG := Lib.hid (fun v => bigF A n c false v (by simp; omega))
  have HL := Lib.hid hl
  have HA := Lib.hid ha
  have HM := Lib.hid hm
  have HS := Lib.hid hes
  have HQ := Lib.hid hq
  have R0 := Lib.hid hr
  clear hd hr hl
  cases hok : x.ok a m
  · have SO := Lib.hid (fun (D E : Option Addr) (d e : Nat) (v : World) => by have h := specFourOk x D E a d m e v (by omega); rw [hok] at h; exact h)
    have hq0 : q = 0 := by rw [← hq, ← hes, Fh.bytes, ha, hm, hok]; rfl
    subst hq0
    clear hok hes hq hm ha
    go_enter Try.func9, Try.ntmps9
    go_wp2_with fail
    refine (BG.out _).mono ?_
    rintro e w0 ⟨rfl, rfl⟩
    go_wp2_with fail
    refine (DR.out w A n c R0.out HL.out).mono ?_
    rintro e w1 ⟨O1, p1, D1, t1, rfl, o1, d1, b1⟩
    have r1 := Lib.hid (K.new w1 (.cells #[.int .i64 x.dscp, .int .i64 x.ecn, .int .i64 x.id, .int .i64 x.flags, .int .i64 x.frag, .int .i64 x.ttl, .int .i64 x.proto, .int .i64 x.src.k, .int .i64 x.src.a, .int .i64 x.src.b, .int .i64 x.src.c, .int .i64 x.src.d, .int .i64 x.dst.k, .int .i64 x.dst.a, .int .i64 x.dst.b, .int .i64 x.dst.c, .int .i64 x.dst.d, .slice O1 a p1, .slice D1 m t1] 52))
    have B1 := Lib.hid (bthen b1 (Joins.below_alloc1 w1 (.cells #[.int .i64 x.dscp, .int .i64 x.ecn, .int .i64 x.id, .int .i64 x.flags, .int .i64 x.frag, .int .i64 x.ttl, .int .i64 x.proto, .int .i64 x.src.k, .int .i64 x.src.a, .int .i64 x.src.b, .int .i64 x.src.c, .int .i64 x.src.d, .int .i64 x.dst.k, .int .i64 x.dst.a, .int .i64 x.dst.b, .int .i64 x.dst.c, .int .i64 x.dst.d, .slice O1 a p1, .slice D1 m t1] 52)))
    clear b1 o1 d1
    go_wp2_with (with_reducible refine storeNewF rfl _ _ rfl rfl rfl ?_)
    refine (DR.out _ A n c ((R0.out.below B1.out).more B1.out.size) HL.out).mono ?_
    rintro e w2 ⟨O2, p2, D2, t2, rfl, o2, d2, b2⟩
    have r2 := Lib.hid (K.below b2 r1.out)
    have B2 := Lib.hid (bthen B1.out b2)
    have E2 := Lib.hid (And.intro (RB.of_own o2) (RB.of_own d2))
    clear b2 o2 d2
    go_wp2_with fail
    refine (fbI2 x O2 D2 a p2 m t2 os ds es 0 _ E2.out.1 HA.out E2.out.2 HM.out HS.out HQ.out).mono ?_
    rintro e w3 ⟨G3, g3, rfl, o3, b3⟩
    have r3 := Lib.hid (K.below b3 r2.out)
    have B3 := Lib.hid (bthen B2.out b3)
    clear b3 o3 E2
    go_wp2_with (with_reducible refine loadF rfl _ rfl w1.heap.size rfl r3.out ?_)
    refine (SO.out O1 D1 p1 t1 _).mono ?_
    rintro e w4 ⟨rfl, b4⟩
    have B4 := Lib.hid (bthen B3.out b4)
    clear b4
    go_wp2
    go_ret
    exact ⟨rfl, B4.out⟩
  · have SO := Lib.hid (fun (D E : Option Addr) (d e : Nat) (v : World) => by have h := specFourOk x D E a d m e v (by omega); rw [hok] at h; exact h)
    have hpr := pickV_rangeW bs 3 10 (by omega)
    obtain ⟨y, hy⟩ : ∃ y : Nat, pickVW bs 3 10 = y := ⟨(pickVW bs 3 10).toNat, by omega⟩
    have PK := Lib.hid (fun v (hv : RB v v.heap.size A bs) => by have h := pickLW A n c bs 3 10 v hv HL.out (by omega) (by omega) (by omega) (by omega) (by omega); rw [hy] at h; exact h)
    rw [hy] at hpr
    clear hy
    obtain ⟨rest, hrest⟩ : ∃ rest, nineB.take y = rest := ⟨_, rfl⟩
    have hrl : rest.length = y := by rw [← hrest, List.length_take]; simp [nineB]; omega
    obtain ⟨F, hF⟩ : ∃ F, es ++ rest = F := ⟨_, rfl⟩
    have hFl : F.length = q + y := by rw [← hF, List.length_append, hq, hrl]
    obtain ⟨f1, f2, f3, f4, f5⟩ := four_back (x := x) (os := os) (bs := ds) (rest := rest) (by rw [ha, hm]; exact hok) (by omega) F (by rw [hes]; exact hF.symm)
    have ro : ∀ (D : Option Addr) (d : Nat) (v : World), RB v v.heap.size D F → q + y ≤ d → Calls Try.prog 38 #[.slice D (q + y) d] v fun e v' => ∃ A2 c2 D2 d2 E2 g2, e = .returned (.tuple #[.agg #[.int .i64 x.dscp, .int .i64 x.ecn, .int .i64 x.id, .int .i64 x.flags, .int .i64 x.frag, .int .i64 x.ttl, .int .i64 x.proto, .int .i64 x.src.k, .int .i64 x.src.a, .int .i64 x.src.b, .int .i64 x.src.c, .int .i64 x.src.d, .int .i64 x.dst.k, .int .i64 x.dst.a, .int .i64 x.dst.b, .int .i64 x.dst.c, .int .i64 x.dst.d, .slice A2 a c2, .slice D2 m d2], .slice E2 y g2, .int .i64 0]) ∧ v'.ownsRow v.heap.size 5 1 (.slice A2 a c2) a (cellsOf os) ∧ v'.ownsRow v.heap.size 5 1 (.slice D2 m d2) m (cellsOf ds) ∧ v'.ownsRow v.heap.size 5 1 (.slice E2 y g2) y (cellsOf rest) ∧ Below v.heap.size v v' := by
      intro D d v h hd
      have h := implFourRead D (q + y) d F v h hFl (by omega) hd
      have e1 : frx F = x := by simp [frx, f1, f2]
      have e2 : fro F = os := by simp [fro, f1, f3]
      have e3 : frb F = ds := by simp [frb, f1, f4]
      have e4 : frr F = rest := by simp [frr, f1, f5]
      unfold FROut at h
      rw [e1, e2, e3, e4, f1, ha, hm, hrl] at h
      exact h.mono fun e v' ⟨A2, c2, D2, d2, E2, g2, he, o1, o2, o3, _, _, _, hb⟩ => ⟨A2, c2, D2, d2, E2, g2, he, o1, o2, o3, hb⟩
    have RO := Lib.hid ro
    have HRS := Lib.hid hrest
    have HRL := Lib.hid hrl
    have HF := Lib.hid hF
    have HFL := Lib.hid hFl
    clear ro f1 f2 f3 f4 f5 hok hes hq hm ha hrest hrl hF hFl
    go_enter Try.func9, Try.ntmps9
    go_wp2_with fail
    refine (BG.out _).mono ?_
    rintro e w0 ⟨rfl, rfl⟩
    go_wp2_with fail
    refine (DR.out w A n c R0.out HL.out).mono ?_
    rintro e w1 ⟨O1, p1, D1, t1, rfl, o1, d1, b1⟩
    have r1 := Lib.hid (K.new w1 (.cells #[.int .i64 x.dscp, .int .i64 x.ecn, .int .i64 x.id, .int .i64 x.flags, .int .i64 x.frag, .int .i64 x.ttl, .int .i64 x.proto, .int .i64 x.src.k, .int .i64 x.src.a, .int .i64 x.src.b, .int .i64 x.src.c, .int .i64 x.src.d, .int .i64 x.dst.k, .int .i64 x.dst.a, .int .i64 x.dst.b, .int .i64 x.dst.c, .int .i64 x.dst.d, .slice O1 a p1, .slice D1 m t1] 52))
    have S1 := Lib.hid (World.ownsRow.alloc o1 (.cells #[.int .i64 x.dscp, .int .i64 x.ecn, .int .i64 x.id, .int .i64 x.flags, .int .i64 x.frag, .int .i64 x.ttl, .int .i64 x.proto, .int .i64 x.src.k, .int .i64 x.src.a, .int .i64 x.src.b, .int .i64 x.src.c, .int .i64 x.src.d, .int .i64 x.dst.k, .int .i64 x.dst.a, .int .i64 x.dst.b, .int .i64 x.dst.c, .int .i64 x.dst.d, .slice O1 a p1, .slice D1 m t1] 52))
    have T1 := Lib.hid (World.ownsRow.alloc d1 (.cells #[.int .i64 x.dscp, .int .i64 x.ecn, .int .i64 x.id, .int .i64 x.flags, .int .i64 x.frag, .int .i64 x.ttl, .int .i64 x.proto, .int .i64 x.src.k, .int .i64 x.src.a, .int .i64 x.src.b, .int .i64 x.src.c, .int .i64 x.src.d, .int .i64 x.dst.k, .int .i64 x.dst.a, .int .i64 x.dst.b, .int .i64 x.dst.c, .int .i64 x.dst.d, .slice O1 a p1, .slice D1 m t1] 52))
    have B1 := Lib.hid (bthen b1 (Joins.below_alloc1 w1 (.cells #[.int .i64 x.dscp, .int .i64 x.ecn, .int .i64 x.id, .int .i64 x.flags, .int .i64 x.frag, .int .i64 x.ttl, .int .i64 x.proto, .int .i64 x.src.k, .int .i64 x.src.a, .int .i64 x.src.b, .int .i64 x.src.c, .int .i64 x.src.d, .int .i64 x.dst.k, .int .i64 x.dst.a, .int .i64 x.dst.b, .int .i64 x.dst.c, .int .i64 x.dst.d, .slice O1 a p1, .slice D1 m t1] 52)))
    have LS := Lib.hid (fun k hk => (o1.lt k hk).2)
    have LT := Lib.hid (fun k hk => (d1.lt k hk).2)
    clear b1 o1 d1
    go_wp2_with (with_reducible refine storeNewF rfl _ _ rfl rfl rfl ?_)
    refine (DR.out _ A n c ((R0.out.below B1.out).more B1.out.size) HL.out).mono ?_
    rintro e w2 ⟨O2, p2, D2, t2, rfl, o2, d2, b2⟩
    have r2 := Lib.hid (K.below b2 r1.out)
    have S2 := Lib.hid (own_below S1.out b2)
    have T2 := Lib.hid (own_below T1.out b2)
    have B2 := Lib.hid (bthen B1.out b2)
    have E2 := Lib.hid (And.intro (RB.of_own o2) (RB.of_own d2))
    clear b2 o2 d2 S1 T1
    go_wp2_with fail
    refine (fbI2 x O2 D2 a p2 m t2 os ds es q _ E2.out.1 HA.out E2.out.2 HM.out HS.out HQ.out).mono ?_
    rintro e w3 ⟨G3, g3, rfl, o3, b3⟩
    have r3 := Lib.hid (K.below b3 r2.out)
    have S3 := Lib.hid (own_below S2.out b3)
    have T3 := Lib.hid (own_below T2.out b3)
    have O3 := Lib.hid o3
    have B3 := Lib.hid (bthen B2.out b3)
    clear b3 o3 E2 S2 T2
    go_wp2_with (with_reducible refine loadF rfl _ rfl w1.heap.size rfl r3.out ?_)
    refine (SO.out O1 D1 p1 t1 _).mono ?_
    rintro e w4 ⟨rfl, b4⟩
    have r4 := Lib.hid (K.below b4 r3.out)
    have S4 := Lib.hid (own_below S3.out b4)
    have T4 := Lib.hid (own_below T3.out b4)
    have O4 := Lib.hid (own_below O3.out b4)
    have B4 := Lib.hid (bthen B3.out b4)
    clear b4 S3 T3 O3
    have N4 := Lib.hid (nine_cells w4)
    have L4 := Lib.hid (Joins.below_alloc1 w4 (.cells #[.int .u8 1, .int .u8 2, .int .u8 3, .int .u8 4, .int .u8 5, .int .u8 6, .int .u8 7, .int .u8 8, .int .u8 9] 5))
    go_wp2_with fail
    refine (PK.out _ ((R0.out.below (bthen B4.out L4.out)).more (bthen B4.out L4.out).size)).mono ?_
    rintro e w5 ⟨rfl, rfl⟩
    have ct := fun v => cut_front (some ⟨w4.heap.size, 0, none⟩) 9 9 y (by omega) v
    have r5 := Lib.hid (K.below L4.out r4.out)
    have S5 := Lib.hid (own_below S4.out L4.out)
    have T5 := Lib.hid (own_below T4.out L4.out)
    have O5 := Lib.hid (own_below O4.out L4.out)
    have B5 := Lib.hid (bthen B4.out L4.out)
    have N5 := Lib.hid (show RB (w4.alloc (.cells #[.int .u8 1, .int .u8 2, .int .u8 3, .int .u8 4, .int .u8 5, .int .u8 6, .int .u8 7, .int .u8 8, .int .u8 9] 5)) (w4.alloc (.cells #[.int .u8 1, .int .u8 2, .int .u8 3, .int .u8 4, .int .u8 5, .int .u8 6, .int .u8 7, .int .u8 8, .int .u8 9] 5)).heap.size (some ⟨w4.heap.size, 0, none⟩) rest by have := N4.out.front y; rw [HRS.out] at this; simpa using this)
    clear N4 S4 T4 O4
    go_wp2_with fail
    refine (bytesOfC G3 q g3 es _ (RB.of_own O5.out) HQ.out (by omega)).mono ?_
    rintro e w6 ⟨A6, c6, rfl, o6, b6⟩
    have r6 := Lib.hid (K.below b6 r5.out)
    have S6 := Lib.hid (own_below S5.out b6)
    have T6 := Lib.hid (own_below T5.out b6)
    have N6 := Lib.hid ((N5.out.below b6).more b6.size)
    have O6 := Lib.hid o6
    have B6 := Lib.hid (bthen B5.out b6)
    have K6 := Lib.hid (fun k hk => (o6.lt k hk).1)
    have Z6 := Lib.hid (b6.size)
    clear b6 o6 S5 T5 O5 N5
    clear ct
    go_wp2_with (at_builtin; refine wpList_append_b rfl (.tmp 28) (.tmp 29) rfl (w4.heap.size + 1) (.slice A6 q c6) es rfl (by rw [HQ.out]; exact own_base O6.out (by simp)) _ (some ⟨w4.heap.size, 0, none⟩) y 9 rest rfl HRL.out N6.out (by rw [HQ.out, HRL.out]; omega) (by have := Z6.out; simp at this; omega) ?_; intro v7 w7 o7 g7 _; rw [HF.out, HFL.out] at o7; obtain ⟨A7, c7, rfl⟩ := own_form o7; have O7 := Lib.hid o7; have r7 := Lib.hid (K.kept g7 r6.out (fun k hk => by have h3 := K6.out k hk; have := K.lt r4.out; simp at h3; omega)); have S7 := Lib.hid (own_grown S6.out g7 (fun k h1 h2 => by have h3 := K6.out k h2; have := LS.out k h1; have := K.lt r4.out; simp at h3; omega)); have T7 := Lib.hid (own_grown T6.out g7 (fun k h1 h2 => by have h3 := K6.out k h2; have := LT.out k h1; have := K.lt r4.out; simp at h3; omega)); have N7 := Lib.hid (rb_grown N6.out g7 (fun k hk => by have h3 := K6.out k hk; simp at h3; omega)); have B7 := Lib.hid (bgrown B6.out g7 (fun k hk => by have := K6.out k hk; have := B5.out.size; omega)); clear o7 g7)
    refine (RO.out A7 c7 _ (RB.of_own O7.out) (own_cap O7.out)).mono ?_
    rintro e w8 ⟨A8, c8, D8, d8, E8, g8, rfl, o8, p8, q8, b8⟩
    have Y8 := Lib.hid (K.new w8 (.cells #[.int .i64 x.dscp, .int .i64 x.ecn, .int .i64 x.id, .int .i64 x.flags, .int .i64 x.frag, .int .i64 x.ttl, .int .i64 x.proto, .int .i64 x.src.k, .int .i64 x.src.a, .int .i64 x.src.b, .int .i64 x.src.c, .int .i64 x.src.d, .int .i64 x.dst.k, .int .i64 x.dst.a, .int .i64 x.dst.b, .int .i64 x.dst.c, .int .i64 x.dst.d, .slice A8 a c8, .slice D8 m d8] 52))
    have L8 := Lib.hid (Joins.below_alloc1 w8 (.cells #[.int .i64 x.dscp, .int .i64 x.ecn, .int .i64 x.id, .int .i64 x.flags, .int .i64 x.frag, .int .i64 x.ttl, .int .i64 x.proto, .int .i64 x.src.k, .int .i64 x.src.a, .int .i64 x.src.b, .int .i64 x.src.c, .int .i64 x.src.d, .int .i64 x.dst.k, .int .i64 x.dst.a, .int .i64 x.dst.b, .int .i64 x.dst.c, .int .i64 x.dst.d, .slice A8 a c8, .slice D8 m d8] 52))
    have r8 := Lib.hid (K.below L8.out (K.below b8 r7.out))
    have S8 := Lib.hid (RB.of_own (own_below (own_below S7.out b8) L8.out))
    have T8 := Lib.hid (RB.of_own (own_below (own_below T7.out b8) L8.out))
    have U8 := Lib.hid (RB.of_own (own_below o8 L8.out))
    have V8 := Lib.hid (RB.of_own (own_below p8 L8.out))
    have X8 := Lib.hid (RB.of_own (own_below q8 L8.out))
    have N8 := Lib.hid ((N7.out.below (bthen b8 L8.out)).more (bthen b8 L8.out).size)
    have B8 := Lib.hid (bthen (bthen B7.out b8) L8.out)
    clear b8 o8 p8 q8 S7 T7 O7 N7
    go_wp2_with (first | (with_reducible refine storeNewF rfl _ _ rfl rfl rfl ?_) | (refine loadFGd _ rfl w8.heap.size rfl (by rfl) Y8.out ?_) | (refine loadFGd _ rfl w1.heap.size rfl (by rfl) r8.out ?_))
    refine Calls.mono (sameFourC x A8 D8 O1 D1 a c8 m d8 p1 t1 os ds _ U8.out S8.out HA.out V8.out T8.out HM.out) ?_
    rintro e w9 ⟨rfl, b9⟩
    have hE := conv_b w9 _ E8 y g8 rest HRL.out ((X8.out.below b9).more b9.size)
    have hN := conv_b w9 _ (some ⟨w4.heap.size, 0, none⟩) y 9 rest HRL.out ((N8.out.below b9).more b9.size)
    have B9 := Lib.hid (bthen B8.out b9)
    clear b9
    go_wp2
    go_ret
    exact ⟨rfl, B9.out⟩

theorem lawFourBack {w : World} (A : Option Addr) (n c : Nat) (bs : List UInt8) (h : In w A n c bs) : Calls Try.prog 9 #[.slice A n c] w fun e w' => e = .returned (.bool true) ∧ Below w.heap.size w w' := by
  by_cases hb : n ≤ 1048576
  · exact lawFB_small A n c bs h.rb h.len hb
  · exact lawFB_big A n c (by omega)

namespace fnFourBack
open Go.ChangeShapes Go.WideShapes Go.ChangeAt Go.RowKit
open Go.ChangeMaps (open_string shut_string)
theorem own : ownKnob Try.prog.godebug = none := by kernel_rfl
theorem laidOut : laidOutB Try.prog = true := by kernel_rfl

set_option maxRecDepth 100000 in
theorem lifted (os : Os) (started : os.Started) (H : Type) (enc : TypeId × Value → H) :
    ReturnsInHanded {} Try.checked os 9 .any (Rows.fnFourBackSpec.pre6 enc Try.prog Try.f9 Rows.fnFourBackRow.domain false) (Rows.fnFourBackSpec.post enc Try.prog Try.f9 false true false false) := by
  refine returnsInHanded_of_change (C := Try.checked) own started (by kernel_rfl) Try.func9
    (ChangeSpec.witness6 (enc := enc) (C := Try.checked) false ⟨#[], #[.slice none 0 0], []⟩ 8 (by kernel_rfl) (by kernel_rfl) (by kernel_rfl) (by kernel_rfl)) ?_
  intro W base args ds gs before hval0 hW _ _
  have hval : ∀ (j : Nat) t v, Try.f9.params[j]? = some t → args[j]? = some v → Value.okWide Try.prog W .any base t v := hval0
  have hW' := hW
  obtain ⟨p, q, hA0, hV, rfl, _, _⟩ := hW
  have hA : DataW.TrodAll enc Try.prog W 0 (fun _ => true) true Try.f9.params.toList args.toList ds p := hA0
  rw [Try.params9] at hA hval
  obtain ⟨v0, vs0, d0, ds0, p0, q0, hargs, rfl, rfl, h0, r0⟩ := trodAll_cons hA
  obtain ⟨rfl, rfl, rfl⟩ := trodAll_nil r0
  obtain rfl : args = #[v0] := by cases args; simp_all
  obtain ⟨rfl, rfl⟩ := trodVars_none hV
  obtain ⟨a0, n0, c0, rfl⟩ := okWide_slice Try.underlying28 (hval 0 28 v0 rfl rfl)
  have k0 := h0
  have lt0 : ∀ x ∈ p0, x.block < W.heap.size := by obtain ⟨m, hm⟩ := k0; exact DataW.trod_lt m _ _ _ hm
  obtain ⟨b0, w0⟩ := bytes_in h0
  clear hA0 hval0
  refine (lawFourBack a0 n0 c0 b0 w0).mono fun e W' ⟨he, bel⟩ => ?_
  subst he
  exact ⟨_, rfl, _, _, _, [], _, [], hW', trodAll_mk1 (shut_bool Try.underlying4 _), (trodAll_cons_mk (Below.trod laidOut (by kernel_rfl) (of_decide_eq_true (by kernel_rfl)) k0 bel lt0) trodAll_mk0), rfl, bel.frame _, fun h => by cases h⟩

theorem proved : Rows.FnFourBackSaid :=
  OpenClaim.holds_of_wide 9 Try.f9 rfl rfl rfl rfl rfl rfl rfl ⟨rfl, rfl, rfl, rfl, rfl⟩ rfl rfl rfl rfl rfl (by kernel_rfl) Try.func9 (by kernel_rfl)
    (of_decide_eq_true (by kernel_rfl)) (by unfold Func.isWrapper; rw [if_neg (of_decide_eq_false (by kernel_rfl))]; exact ⟨rfl, rfl⟩)
    (fun os started H enc _ => lifted os started H enc)
#print axioms proved
end fnFourBack
end Go.Proofs.Ytegpaocoepcemaa
