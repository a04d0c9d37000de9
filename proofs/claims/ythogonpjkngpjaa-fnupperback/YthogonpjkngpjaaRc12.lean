/-
  The sum of the pseudo header, in the program and in the model.
-/
import Derived.Test.YthogonpjkngpjaaRc09
namespace Go.Proofs.Ythogonpjkngpjaa
set_option maxRecDepth 100000
open Go.RowKit
theorem pairIB (x y : Ad) (b : Bool) (h : pairA x y = b) (w : World) : Calls Try.prog 40 #[.agg #[.int .i64 x.k, .int .i64 x.a, .int .i64 x.b, .int .i64 x.c, .int .i64 x.d], .agg #[.int .i64 y.k, .int .i64 y.a, .int .i64 y.b, .int .i64 y.c, .int .i64 y.d]] w fun e w' => e = .returned (.bool b) ∧ Below w.heap.size w w' := h ▸ pairI x y w
theorem pairSB (x y : Ad) (b : Bool) (h : pairA x y = b) (w : World) : Calls Try.prog 38 #[.agg #[.int .i64 x.k, .int .i64 x.a, .int .i64 x.b, .int .i64 x.c, .int .i64 x.d], .agg #[.int .i64 y.k, .int .i64 y.a, .int .i64 y.b, .int .i64 y.c, .int .i64 y.d]] w fun e w' => e = .returned (.bool b) ∧ Below w.heap.size w w' := h ▸ pairS x y w
set_option maxHeartbeats 400000 in
theorem protoB (p : Int) (b : Bool) (w : World) (h : upTo p 255 = b) : Calls Try.prog 41 #[.int .i64 p] w fun e w' => e = .returned (.bool b) ∧ Below w.heap.size w w' := by
  have H := Lib.hid h
  clear h
  go_enter Try.func41, Try.ntmps41
  go_wp2_with fail
  refine Calls.mono (withinU p 255 b _ H.out) ?_
  rintro e w1 ⟨rfl, b1⟩
  go_wp2
  go_ret
  exact ⟨rfl, b1⟩
theorem put32S (n : Int) (w : World) : Calls Try.prog 99 #[.int .i64 n] w (TwoOut (put32 n) 4 w) := (specPut32 n w).mono fun _ _ ⟨D, d, h, o, b⟩ => ⟨D, d, h, o, b⟩
theorem inSB (n hi : Int) (b : Bool) (w : World) (h : upTo n hi = b) : Calls Try.prog 39 #[.int .i64 n, .int .i64 hi] w fun e w' => e = .returned (.bool b) ∧ Below w.heap.size w w' := (specInB n hi b w h).mono fun _ _ ⟨he, hw⟩ => ⟨he, hw ▸ Below.refl _ _⟩
theorem bytesNI (x : Ad) (l : Nat) (h : x.bytes.length = l) (w : World) : Calls Try.prog 77 #[.agg #[.int .i64 x.k, .int .i64 x.a, .int .i64 x.b, .int .i64 x.c, .int .i64 x.d]] w fun e w' => ∃ A c, e = .returned (.slice A l c) ∧ w'.ownsRow w.heap.size 5 1 (.slice A l c) l (cellsOf x.bytes) ∧ Below w.heap.size w w' := h ▸ implAddrBytes x w
theorem bytesNS (x : Ad) (l : Nat) (h : x.bytes.length = l) (w : World) : Calls Try.prog 98 #[.agg #[.int .i64 x.k, .int .i64 x.a, .int .i64 x.b, .int .i64 x.c, .int .i64 x.d]] w fun e w' => ∃ A c, e = .returned (.slice A l c) ∧ w'.ownsRow w.heap.size 5 1 (.slice A l c) l (cellsOf x.bytes) ∧ Below w.heap.size w w' := h ▸ specAddrBytes x w
set_option maxHeartbeats 1000000 in
theorem psI_no1 (x y : Ad) (p s : Int) (w : World) (h1 : pairA x y = false) : Calls Try.prog 103 #[.agg #[.int .i64 x.k, .int .i64 x.a, .int .i64 x.b, .int .i64 x.c, .int .i64 x.d], .agg #[.int .i64 y.k, .int .i64 y.a, .int .i64 y.b, .int .i64 y.c, .int .i64 y.d], .int .i64 p, .int .i64 s] w fun e w' => e = .returned (.int .i64 (psSum x y p s)) ∧ Below w.heap.size w w' := by
  have HR := Lib.hid (psSum_no (x := x) (y := y) (p := p) (s := s) (by simp [*]))
  have H1 := Lib.hid h1
  clear h1
  have q0 : Hid (((w.alloc (.cells #[.int .i64 x.k, .int .i64 x.a, .int .i64 x.b, .int .i64 x.c, .int .i64 x.d] 27)).alloc (.cells #[.int .i64 y.k, .int .i64 y.a, .int .i64 y.b, .int .i64 y.c, .int .i64 y.d] 27)).heap[w.heap.size]? = some (.cells #[.int .i64 x.k, .int .i64 x.a, .int .i64 x.b, .int .i64 x.c, .int .i64 x.d] 27)) := Lib.hid (by repeat (first | exact K.newAt (by first | rfl | (simp; done)) | refine K.oldAt (by first | (simp; done) | (simp; omega)) ?_))
  have q1 : Hid (((w.alloc (.cells #[.int .i64 x.k, .int .i64 x.a, .int .i64 x.b, .int .i64 x.c, .int .i64 x.d] 27)).alloc (.cells #[.int .i64 y.k, .int .i64 y.a, .int .i64 y.b, .int .i64 y.c, .int .i64 y.d] 27)).heap[w.heap.size + 1]? = some (.cells #[.int .i64 y.k, .int .i64 y.a, .int .i64 y.b, .int .i64 y.c, .int .i64 y.d] 27)) := Lib.hid (by repeat (first | exact K.newAt (by first | rfl | (simp; done)) | refine K.oldAt (by first | (simp; done) | (simp; omega)) ?_))
  go_enter Try.func103, Try.ntmps103
  go_wp2_with (first | (with_reducible refine loadA rfl _ rfl w.heap.size rfl q0.out ?_) | (with_reducible refine loadA rfl _ rfl (w.heap.size + 1) rfl q1.out ?_))
  refine Calls.mono (pairIB x y false H1.out _) ?_
  rintro e w1 ⟨rfl, b1⟩
  have B1 := Lib.hid (bthen (Joins.below_alloc2 w _ _) b1)
  clear b1
  go_wp2
  go_ret
  exact ⟨ret_int HR.out.symm, B1.out⟩
set_option maxHeartbeats 1000000 in
theorem psI_no2 (x y : Ad) (p s : Int) (w : World) (h1 : pairA x y = true) (h2 : upTo p 255 = false) : Calls Try.prog 103 #[.agg #[.int .i64 x.k, .int .i64 x.a, .int .i64 x.b, .int .i64 x.c, .int .i64 x.d], .agg #[.int .i64 y.k, .int .i64 y.a, .int .i64 y.b, .int .i64 y.c, .int .i64 y.d], .int .i64 p, .int .i64 s] w fun e w' => e = .returned (.int .i64 (psSum x y p s)) ∧ Below w.heap.size w w' := by
  have HR := Lib.hid (psSum_no (x := x) (y := y) (p := p) (s := s) (by simp [*]))
  have H1 := Lib.hid h1
  have H2 := Lib.hid h2
  clear h1 h2
  have q0 : Hid (((w.alloc (.cells #[.int .i64 x.k, .int .i64 x.a, .int .i64 x.b, .int .i64 x.c, .int .i64 x.d] 27)).alloc (.cells #[.int .i64 y.k, .int .i64 y.a, .int .i64 y.b, .int .i64 y.c, .int .i64 y.d] 27)).heap[w.heap.size]? = some (.cells #[.int .i64 x.k, .int .i64 x.a, .int .i64 x.b, .int .i64 x.c, .int .i64 x.d] 27)) := Lib.hid (by repeat (first | exact K.newAt (by first | rfl | (simp; done)) | refine K.oldAt (by first | (simp; done) | (simp; omega)) ?_))
  have q1 : Hid (((w.alloc (.cells #[.int .i64 x.k, .int .i64 x.a, .int .i64 x.b, .int .i64 x.c, .int .i64 x.d] 27)).alloc (.cells #[.int .i64 y.k, .int .i64 y.a, .int .i64 y.b, .int .i64 y.c, .int .i64 y.d] 27)).heap[w.heap.size + 1]? = some (.cells #[.int .i64 y.k, .int .i64 y.a, .int .i64 y.b, .int .i64 y.c, .int .i64 y.d] 27)) := Lib.hid (by repeat (first | exact K.newAt (by first | rfl | (simp; done)) | refine K.oldAt (by first | (simp; done) | (simp; omega)) ?_))
  go_enter Try.func103, Try.ntmps103
  go_wp2_with (first | (with_reducible refine loadA rfl _ rfl w.heap.size rfl q0.out ?_) | (with_reducible refine loadA rfl _ rfl (w.heap.size + 1) rfl q1.out ?_))
  refine Calls.mono (pairIB x y true H1.out _) ?_
  rintro e w1 ⟨rfl, b1⟩
  have B1 := Lib.hid (bthen (Joins.below_alloc2 w _ _) b1)
  clear b1
  go_wp2_with fail
  refine Calls.mono (protoB p false _ H2.out) ?_
  rintro e w2 ⟨rfl, b2⟩
  have B2 := Lib.hid (bthen B1.out b2)
  clear b2
  go_wp2
  go_ret
  exact ⟨ret_int HR.out.symm, B2.out⟩
set_option maxHeartbeats 1000000 in
theorem psI_no3 (x y : Ad) (p s : Int) (w : World) (h1 : pairA x y = true) (h2 : upTo p 255 = true) (h3 : upTo s 1500 = false) : Calls Try.prog 103 #[.agg #[.int .i64 x.k, .int .i64 x.a, .int .i64 x.b, .int .i64 x.c, .int .i64 x.d], .agg #[.int .i64 y.k, .int .i64 y.a, .int .i64 y.b, .int .i64 y.c, .int .i64 y.d], .int .i64 p, .int .i64 s] w fun e w' => e = .returned (.int .i64 (psSum x y p s)) ∧ Below w.heap.size w w' := by
  have HR := Lib.hid (psSum_no (x := x) (y := y) (p := p) (s := s) (by simp [*]))
  have H1 := Lib.hid h1
  have H2 := Lib.hid h2
  have H3 := Lib.hid h3
  clear h1 h2 h3
  have q0 : Hid (((w.alloc (.cells #[.int .i64 x.k, .int .i64 x.a, .int .i64 x.b, .int .i64 x.c, .int .i64 x.d] 27)).alloc (.cells #[.int .i64 y.k, .int .i64 y.a, .int .i64 y.b, .int .i64 y.c, .int .i64 y.d] 27)).heap[w.heap.size]? = some (.cells #[.int .i64 x.k, .int .i64 x.a, .int .i64 x.b, .int .i64 x.c, .int .i64 x.d] 27)) := Lib.hid (by repeat (first | exact K.newAt (by first | rfl | (simp; done)) | refine K.oldAt (by first | (simp; done) | (simp; omega)) ?_))
  have q1 : Hid (((w.alloc (.cells #[.int .i64 x.k, .int .i64 x.a, .int .i64 x.b, .int .i64 x.c, .int .i64 x.d] 27)).alloc (.cells #[.int .i64 y.k, .int .i64 y.a, .int .i64 y.b, .int .i64 y.c, .int .i64 y.d] 27)).heap[w.heap.size + 1]? = some (.cells #[.int .i64 y.k, .int .i64 y.a, .int .i64 y.b, .int .i64 y.c, .int .i64 y.d] 27)) := Lib.hid (by repeat (first | exact K.newAt (by first | rfl | (simp; done)) | refine K.oldAt (by first | (simp; done) | (simp; omega)) ?_))
  go_enter Try.func103, Try.ntmps103
  go_wp2_with (first | (with_reducible refine loadA rfl _ rfl w.heap.size rfl q0.out ?_) | (with_reducible refine loadA rfl _ rfl (w.heap.size + 1) rfl q1.out ?_))
  refine Calls.mono (pairIB x y true H1.out _) ?_
  rintro e w1 ⟨rfl, b1⟩
  have B1 := Lib.hid (bthen (Joins.below_alloc2 w _ _) b1)
  clear b1
  go_wp2_with fail
  refine Calls.mono (protoB p true _ H2.out) ?_
  rintro e w2 ⟨rfl, b2⟩
  have B2 := Lib.hid (bthen B1.out b2)
  clear b2
  go_wp2_with fail
  refine Calls.mono (withinU s 1500 false _ H3.out) ?_
  rintro e w3 ⟨rfl, b3⟩
  have B3 := Lib.hid (bthen B2.out b3)
  clear b3
  go_wp2
  go_ret
  exact ⟨ret_int HR.out.symm, B3.out⟩
set_option maxHeartbeats 4000000 in
theorem psI_four (x y : Ad) (p s : Int) (w : World) (h1 : pairA x y = true) (h2 : upTo p 255 = true) (h3 : upTo s 1500 = true) (hk : x.k = 4) : Calls Try.prog 103 #[.agg #[.int .i64 x.k, .int .i64 x.a, .int .i64 x.b, .int .i64 x.c, .int .i64 x.d], .agg #[.int .i64 y.k, .int .i64 y.a, .int .i64 y.b, .int .i64 y.c, .int .i64 y.d], .int .i64 p, .int .i64 s] w fun e w' => e = .returned (.int .i64 (psSum x y p s)) ∧ Below w.heap.size w w' := by
  have hxy : (x.ok = true ∧ y.ok = true) ∧ x.k = y.k := by simpa [pairA] using h1
  have hp : 0 ≤ p ∧ p ≤ 255 := upTo_iff.1 h2
  have hpw : IntKind.u8.wrap p = p := by rw [IntKind.wrap_u8]; omega
  have EL0 := Lib.hid (show (x.bytes).length = 4 from Ad.len4 hxy.1.1 hk)
  have ELY := Lib.hid (show y.bytes.length = 4 from Ad.len4 hxy.1.2 (by rw [← hxy.2]; exact hk))
  have EL1 := Lib.hid (show (x.bytes ++ y.bytes).length = 8 by rw [List.length_append, EL0.out, ELY.out])
  have EL2 := Lib.hid (show (x.bytes ++ y.bytes ++ [0, byteOf p]).length = 10 by rw [List.length_append, EL1.out]; rfl)
  have EL3 := Lib.hid (show (x.bytes ++ y.bytes ++ [0, byteOf p] ++ put16 s).length = 12 by rw [List.length_append, EL2.out]; rfl)
  have HR := Lib.hid (show psSum x y p s = onesSum (x.bytes ++ y.bytes ++ [0, byteOf p] ++ put16 s) by rw [psSum_yes (by simp [h1, h2, h3])]; simp [psBytes, hk])
  have H1 := Lib.hid h1
  have H2 := Lib.hid h2
  have H3 := Lib.hid h3
  have HK := Lib.hid hk
  clear h1 h2 h3 hk hxy
  have q0 : Hid (((w.alloc (.cells #[.int .i64 x.k, .int .i64 x.a, .int .i64 x.b, .int .i64 x.c, .int .i64 x.d] 27)).alloc (.cells #[.int .i64 y.k, .int .i64 y.a, .int .i64 y.b, .int .i64 y.c, .int .i64 y.d] 27)).heap[w.heap.size]? = some (.cells #[.int .i64 x.k, .int .i64 x.a, .int .i64 x.b, .int .i64 x.c, .int .i64 x.d] 27)) := Lib.hid (by repeat (first | exact K.newAt (by first | rfl | (simp; done)) | refine K.oldAt (by first | (simp; done) | (simp; omega)) ?_))
  have q1 : Hid (((w.alloc (.cells #[.int .i64 x.k, .int .i64 x.a, .int .i64 x.b, .int .i64 x.c, .int .i64 x.d] 27)).alloc (.cells #[.int .i64 y.k, .int .i64 y.a, .int .i64 y.b, .int .i64 y.c, .int .i64 y.d] 27)).heap[w.heap.size + 1]? = some (.cells #[.int .i64 y.k, .int .i64 y.a, .int .i64 y.b, .int .i64 y.c, .int .i64 y.d] 27)) := Lib.hid (by repeat (first | exact K.newAt (by first | rfl | (simp; done)) | refine K.oldAt (by first | (simp; done) | (simp; omega)) ?_))
  go_enter Try.func103, Try.ntmps103
  go_wp2_with (first | (with_reducible refine loadA rfl _ rfl w.heap.size rfl q0.out ?_) | (with_reducible refine loadA rfl _ rfl (w.heap.size + 1) rfl q1.out ?_))
  refine Calls.mono (pairIB x y true H1.out _) ?_
  rintro e w1 ⟨rfl, b1⟩
  have B1 := Lib.hid (bthen (Joins.below_alloc2 w _ _) b1)
  have q0_1 := Lib.hid (K.below b1 q0.out)
  have q1_1 := Lib.hid (K.below b1 q1.out)
  clear b1
  go_wp2_with fail
  refine Calls.mono (protoB p true _ H2.out) ?_
  rintro e w2 ⟨rfl, b2⟩
  have B2 := Lib.hid (bthen B1.out b2)
  have q0_2 := Lib.hid (K.below b2 q0_1.out)
  have q1_2 := Lib.hid (K.below b2 q1_1.out)
  clear b2
  go_wp2_with fail
  refine Calls.mono (withinU s 1500 true _ H3.out) ?_
  rintro e w3 ⟨rfl, b3⟩
  have B3 := Lib.hid (bthen B2.out b3)
  have q0_3 := Lib.hid (K.below b3 q0_2.out)
  have q1_3 := Lib.hid (K.below b3 q1_2.out)
  clear b3
  clear q0 q1 q0_1 q1_1 q0_2 q1_2 B1 B2
  have LZ : w.heap.size + 2 ≤ w3.heap.size := by have := K.lt q1_3.out; omega
  go_wp2_with fail
  refine wp_region_owns (by kernel_rfl) 4 52 [(0, 24), (1, 25), (2, 26), (3, 27)] _ ([.val (.agg #[.int .i64 x.k, .int .i64 x.a, .int .i64 x.b, .int .i64 x.c, .int .i64 x.d]), .own (w.heap.size + 2) 4 x.bytes, .val (.agg #[.int .i64 y.k, .int .i64 y.a, .int .i64 y.b, .int .i64 y.c, .int .i64 y.d]), .rb 4 y.bytes]) (by kernel_rfl) (by kernel_rfl) rfl rfl ?_ ?_
  · intro j o hj ho a' v K' hx hnd hB hK
    match j, hj, ho with
    | 0, _, ho =>
      obtain rfl := Option.some.inj ho
      have h0 : a'.eval (.tmp 4) = .pointer (some ⟨w.heap.size, 0, none⟩) := (hx 4 (by decide)).trans rfl
      exact wp_load_row 27 _ rfl w.heap.size h0 _ _ (0, 0) _ (K.below hB q0_3.out) Try.underlying27 rfl info_addrP (hK _ _ rfl (Below.refl _ _))
    | 1, _, ho =>
      obtain rfl := Option.some.inj ho
      have h0 : a'.eval (.tmp 24) = .agg #[.int .i64 x.k, .int .i64 x.a, .int .i64 x.b, .int .i64 x.c, .int .i64 x.d] := (owns_of hnd 0 24 (by kernel_rfl) :)
      refine u_addrBytesI _ _ _ rfl h0 (Calls.mono (bytesNI x 4 EL0.out v) ?_)
      rintro e' v' ⟨X, y, rfl, o6, b6⟩
      exact ⟨_, rfl, hK _ _ ⟨X, y, rfl, own_base o6 (Nat.le_trans LZ hB.size)⟩ b6⟩
    | 2, _, ho =>
      obtain rfl := Option.some.inj ho
      have h0 : a'.eval (.tmp 5) = .pointer (some ⟨w.heap.size + 1, 0, none⟩) := (hx 5 (by decide)).trans rfl
      exact wp_load_row 27 _ rfl (w.heap.size + 1) h0 _ _ (0, 0) _ (K.below hB q1_3.out) Try.underlying27 rfl info_addrP (hK _ _ rfl (Below.refl _ _))
    | 3, _, ho =>
      obtain rfl := Option.some.inj ho
      have h0 : a'.eval (.tmp 26) = .agg #[.int .i64 y.k, .int .i64 y.a, .int .i64 y.b, .int .i64 y.c, .int .i64 y.d] := (owns_of hnd 2 26 (by kernel_rfl) :)
      refine u_addrBytesI _ _ _ rfl h0 (Calls.mono (bytesNI y 4 ELY.out v) ?_)
      rintro e' v' ⟨X, z, rfl, o6, b6⟩
      exact ⟨_, rfl, hK _ _ ⟨X, z, rfl, RB.of_own o6⟩ b6⟩
    | j + 4, hj, _ => omega
  · intro f v hf hB
    have e0 : f 0 = (.agg #[.int .i64 x.k, .int .i64 x.a, .int .i64 x.b, .int .i64 x.c, .int .i64 x.d]) := hf (0, 24) (by decide)
    obtain ⟨X25, y25, e1, r1⟩ := hf (1, 25) (by decide)
    have R25 := Lib.hid r1
    clear r1
    have e2 : f 2 = (.agg #[.int .i64 y.k, .int .i64 y.a, .int .i64 y.b, .int .i64 y.c, .int .i64 y.d]) := hf (2, 26) (by decide)
    obtain ⟨X27, y27, e3, r3⟩ := hf (3, 27) (by decide)
    have R27 := Lib.hid r3
    clear r3
    simp only [List.foldl_cons, List.foldl_nil, List.drop_succ_cons, List.drop_zero, e0, e1, e2, e3]
    clear e0 e1 e2 e3 hf
    go_simp
    have B4 := Lib.hid (bthen B3.out hB)
    have q0_4 := Lib.hid (K.below hB q0_3.out)
    have LY4 : w.heap.size + 2 ≤ v.heap.size := Nat.le_trans LZ hB.size
    clear B3 q0_3 q1_3 hB
    refine wpList_append_b rfl (.tmp 25) (.tmp 27) rfl (w.heap.size + 2) (.slice X25 4 y25) x.bytes rfl (by rw [EL0.out]; exact R25.out) _ X27 4 y27 y.bytes rfl ELY.out R27.out (by rw [EL0.out, ELY.out]; omega) LY4 ?_
    intro v5 w5 o5 g5 _
    rw [EL1.out] at o5
    obtain ⟨A5, c5, rfl⟩ := own_form o5
    have O5 := Lib.hid o5
    clear o5
    have q0_5 := Lib.hid (K.kept g5 q0_4.out (fun k hk => by have := (World.ownsRow.lt R25.out k hk).1; omega))
    have B5 := Lib.hid (bgrown B4.out g5 (fun k hk => by have := (World.ownsRow.lt R25.out k hk).1; omega))
    have L5 : w.heap.size + 2 ≤ w5.heap.size := by have := g5.size; have := LY4; omega
    clear g5 B4 q0_4 R25 R27
    have hk := HK.out
    have c0 := K.cell q0_5.out 0 _ rfl
    go_wp2_with (at_builtin; (refine wpList_append_b rfl (.tmp 32) (.tmp 35) rfl (w.heap.size + 2) (.slice A5 8 c5) (x.bytes ++ y.bytes) rfl (by rw [EL1.out]; exact (O5.out.alloc (.cells #[.int .u8 0, .int .u8 p] 5))) _ _ 2 _ ([0, byteOf p]) rfl rfl (rb_lit2 w5 p hp) (Nat.le_trans (Nat.le_of_eq (congrArg (· + _) EL1.out)) (show 8 + 2 ≤ 67108864 by omega)) (by first | (simp; done) | (simp; omega)) ?_); intro v6 w6 o6 g6 _; rw [EL2.out] at o6; obtain ⟨A6, c6, rfl⟩ := own_form o6; have O6 := Lib.hid o6; clear o6; have B6 := Lib.hid (bgrown (bthen B5.out (Joins.below_alloc1 w5 _)) g6 (fun k hk => by have := (World.ownsRow.lt (O5.out.alloc (.cells #[.int .u8 0, .int .u8 p] 5)) k hk).1; omega)); have L6 : w.heap.size + 2 ≤ w6.heap.size := (by (have := g6.size; simp at this; omega)); clear g6)
    refine Calls.mono (implPut16 s _) ?_
    rintro e w7 ⟨rfl, p7, b7⟩
    have O7 := Lib.hid (own_below O6.out b7)
    have B7 := Lib.hid (bthen B6.out b7)
    have L7 : w.heap.size + 2 ≤ w7.heap.size := Nat.le_trans L6 b7.size
    have P7 := Lib.hid (RB.of_own p7)
    clear b7 p7
    go_wp2_with (at_builtin; (refine wpList_append_b rfl (.tmp 37) (.tmp 39) rfl (w.heap.size + 2) (.slice A6 10 c6) (x.bytes ++ y.bytes ++ [0, byteOf p]) rfl (by rw [EL2.out]; exact O7.out) _ _ 2 _ (put16 s) rfl rfl P7.out (Nat.le_trans (Nat.le_of_eq (congrArg (· + _) EL2.out)) (show 10 + 2 ≤ 67108864 by omega)) L7 ?_); intro v8 w8 o8 g8 _; rw [EL3.out] at o8; obtain ⟨A8, c8, rfl⟩ := own_form o8; have O8 := Lib.hid o8; clear o8; have B8 := Lib.hid (bgrown B7.out g8 (fun k hk => by have := (World.ownsRow.lt O7.out k hk).1; omega)); have L8 : w.heap.size + 2 ≤ w8.heap.size := (by (have := g8.size; omega)); clear g8)
    refine Calls.mono (implOnes A8 12 c8 _ _ (RB.of_own O8.out) EL3.out (by omega)) ?_
    rintro e w9 ⟨rfl, b9⟩
    have B9 := Lib.hid (bthen B8.out b9)
    clear b9
    clear hk c0 hp hpw
    go_wp2
    go_ret
    exact ⟨ret_int (by rw [HR.out]; simp), B9.out⟩
set_option maxHeartbeats 4000000 in
theorem psI_six (x y : Ad) (p s : Int) (w : World) (h1 : pairA x y = true) (h2 : upTo p 255 = true) (h3 : upTo s 1500 = true) (hk : ¬ x.k = 4) : Calls Try.prog 103 #[.agg #[.int .i64 x.k, .int .i64 x.a, .int .i64 x.b, .int .i64 x.c, .int .i64 x.d], .agg #[.int .i64 y.k, .int .i64 y.a, .int .i64 y.b, .int .i64 y.c, .int .i64 y.d], .int .i64 p, .int .i64 s] w fun e w' => e = .returned (.int .i64 (psSum x y p s)) ∧ Below w.heap.size w w' := by
  have hxy : (x.ok = true ∧ y.ok = true) ∧ x.k = y.k := by simpa [pairA] using h1
  have hp : 0 ≤ p ∧ p ≤ 255 := upTo_iff.1 h2
  have hpw : IntKind.u8.wrap p = p := by rw [IntKind.wrap_u8]; omega
  have EL0 := Lib.hid (show (x.bytes).length = 16 from Ad.len6 hxy.1.1 hk)
  have ELY := Lib.hid (show y.bytes.length = 16 from Ad.len6 hxy.1.2 (by rw [← hxy.2]; exact hk))
  have EL1 := Lib.hid (show (x.bytes ++ y.bytes).length = 32 by rw [List.length_append, EL0.out, ELY.out])
  have EL2 := Lib.hid (show (x.bytes ++ y.bytes ++ put32 s).length = 36 by rw [List.length_append, EL1.out]; rfl)
  have EL3 := Lib.hid (show (x.bytes ++ y.bytes ++ put32 s ++ [0, 0, 0, byteOf p]).length = 40 by rw [List.length_append, EL2.out]; rfl)
  have HR := Lib.hid (show psSum x y p s = onesSum (x.bytes ++ y.bytes ++ put32 s ++ [0, 0, 0, byteOf p]) by rw [psSum_yes (by simp [h1, h2, h3])]; simp [psBytes, hk])
  have H1 := Lib.hid h1
  have H2 := Lib.hid h2
  have H3 := Lib.hid h3
  have HK := Lib.hid hk
  clear h1 h2 h3 hk hxy
  have q0 : Hid (((w.alloc (.cells #[.int .i64 x.k, .int .i64 x.a, .int .i64 x.b, .int .i64 x.c, .int .i64 x.d] 27)).alloc (.cells #[.int .i64 y.k, .int .i64 y.a, .int .i64 y.b, .int .i64 y.c, .int .i64 y.d] 27)).heap[w.heap.size]? = some (.cells #[.int .i64 x.k, .int .i64 x.a, .int .i64 x.b, .int .i64 x.c, .int .i64 x.d] 27)) := Lib.hid (by repeat (first | exact K.newAt (by first | rfl | (simp; done)) | refine K.oldAt (by first | (simp; done) | (simp; omega)) ?_))
  have q1 : Hid (((w.alloc (.cells #[.int .i64 x.k, .int .i64 x.a, .int .i64 x.b, .int .i64 x.c, .int .i64 x.d] 27)).alloc (.cells #[.int .i64 y.k, .int .i64 y.a, .int .i64 y.b, .int .i64 y.c, .int .i64 y.d] 27)).heap[w.heap.size + 1]? = some (.cells #[.int .i64 y.k, .int .i64 y.a, .int .i64 y.b, .int .i64 y.c, .int .i64 y.d] 27)) := Lib.hid (by repeat (first | exact K.newAt (by first | rfl | (simp; done)) | refine K.oldAt (by first | (simp; done) | (simp; omega)) ?_))
  go_enter Try.func103, Try.ntmps103
  go_wp2_with (first | (with_reducible refine loadA rfl _ rfl w.heap.size rfl q0.out ?_) | (with_reducible refine loadA rfl _ rfl (w.heap.size + 1) rfl q1.out ?_))
  refine Calls.mono (pairIB x y true H1.out _) ?_
  rintro e w1 ⟨rfl, b1⟩
  have B1 := Lib.hid (bthen (Joins.below_alloc2 w _ _) b1)
  have q0_1 := Lib.hid (K.below b1 q0.out)
  have q1_1 := Lib.hid (K.below b1 q1.out)
  clear b1
  go_wp2_with fail
  refine Calls.mono (protoB p true _ H2.out) ?_
  rintro e w2 ⟨rfl, b2⟩
  have B2 := Lib.hid (bthen B1.out b2)
  have q0_2 := Lib.hid (K.below b2 q0_1.out)
  have q1_2 := Lib.hid (K.below b2 q1_1.out)
  clear b2
  go_wp2_with fail
  refine Calls.mono (withinU s 1500 true _ H3.out) ?_
  rintro e w3 ⟨rfl, b3⟩
  have B3 := Lib.hid (bthen B2.out b3)
  have q0_3 := Lib.hid (K.below b3 q0_2.out)
  have q1_3 := Lib.hid (K.below b3 q1_2.out)
  clear b3
  clear q0 q1 q0_1 q1_1 q0_2 q1_2 B1 B2
  have LZ : w.heap.size + 2 ≤ w3.heap.size := by have := K.lt q1_3.out; omega
  go_wp2_with fail
  refine wp_region_owns (by kernel_rfl) 4 52 [(0, 24), (1, 25), (2, 26), (3, 27)] _ ([.val (.agg #[.int .i64 x.k, .int .i64 x.a, .int .i64 x.b, .int .i64 x.c, .int .i64 x.d]), .own (w.heap.size + 2) 16 x.bytes, .val (.agg #[.int .i64 y.k, .int .i64 y.a, .int .i64 y.b, .int .i64 y.c, .int .i64 y.d]), .rb 16 y.bytes]) (by kernel_rfl) (by kernel_rfl) rfl rfl ?_ ?_
  · intro j o hj ho a' v K' hx hnd hB hK
    match j, hj, ho with
    | 0, _, ho =>
      obtain rfl := Option.some.inj ho
      have h0 : a'.eval (.tmp 4) = .pointer (some ⟨w.heap.size, 0, none⟩) := (hx 4 (by decide)).trans rfl
      exact wp_load_row 27 _ rfl w.heap.size h0 _ _ (0, 0) _ (K.below hB q0_3.out) Try.underlying27 rfl info_addrP (hK _ _ rfl (Below.refl _ _))
    | 1, _, ho =>
      obtain rfl := Option.some.inj ho
      have h0 : a'.eval (.tmp 24) = .agg #[.int .i64 x.k, .int .i64 x.a, .int .i64 x.b, .int .i64 x.c, .int .i64 x.d] := (owns_of hnd 0 24 (by kernel_rfl) :)
      refine u_addrBytesI _ _ _ rfl h0 (Calls.mono (bytesNI x 16 EL0.out v) ?_)
      rintro e' v' ⟨X, y, rfl, o6, b6⟩
      exact ⟨_, rfl, hK _ _ ⟨X, y, rfl, own_base o6 (Nat.le_trans LZ hB.size)⟩ b6⟩
    | 2, _, ho =>
      obtain rfl := Option.some.inj ho
      have h0 : a'.eval (.tmp 5) = .pointer (some ⟨w.heap.size + 1, 0, none⟩) := (hx 5 (by decide)).trans rfl
      exact wp_load_row 27 _ rfl (w.heap.size + 1) h0 _ _ (0, 0) _ (K.below hB q1_3.out) Try.underlying27 rfl info_addrP (hK _ _ rfl (Below.refl _ _))
    | 3, _, ho =>
      obtain rfl := Option.some.inj ho
      have h0 : a'.eval (.tmp 26) = .agg #[.int .i64 y.k, .int .i64 y.a, .int .i64 y.b, .int .i64 y.c, .int .i64 y.d] := (owns_of hnd 2 26 (by kernel_rfl) :)
      refine u_addrBytesI _ _ _ rfl h0 (Calls.mono (bytesNI y 16 ELY.out v) ?_)
      rintro e' v' ⟨X, z, rfl, o6, b6⟩
      exact ⟨_, rfl, hK _ _ ⟨X, z, rfl, RB.of_own o6⟩ b6⟩
    | j + 4, hj, _ => omega
  · intro f v hf hB
    have e0 : f 0 = (.agg #[.int .i64 x.k, .int .i64 x.a, .int .i64 x.b, .int .i64 x.c, .int .i64 x.d]) := hf (0, 24) (by decide)
    obtain ⟨X25, y25, e1, r1⟩ := hf (1, 25) (by decide)
    have R25 := Lib.hid r1
    clear r1
    have e2 : f 2 = (.agg #[.int .i64 y.k, .int .i64 y.a, .int .i64 y.b, .int .i64 y.c, .int .i64 y.d]) := hf (2, 26) (by decide)
    obtain ⟨X27, y27, e3, r3⟩ := hf (3, 27) (by decide)
    have R27 := Lib.hid r3
    clear r3
    simp only [List.foldl_cons, List.foldl_nil, List.drop_succ_cons, List.drop_zero, e0, e1, e2, e3]
    clear e0 e1 e2 e3 hf
    go_simp
    have B4 := Lib.hid (bthen B3.out hB)
    have q0_4 := Lib.hid (K.below hB q0_3.out)
    have LY4 : w.heap.size + 2 ≤ v.heap.size := Nat.le_trans LZ hB.size
    clear B3 q0_3 q1_3 hB
    refine wpList_append_b rfl (.tmp 25) (.tmp 27) rfl (w.heap.size + 2) (.slice X25 16 y25) x.bytes rfl (by rw [EL0.out]; exact R25.out) _ X27 16 y27 y.bytes rfl ELY.out R27.out (by rw [EL0.out, ELY.out]; omega) LY4 ?_
    intro v5 w5 o5 g5 _
    rw [EL1.out] at o5
    obtain ⟨A5, c5, rfl⟩ := own_form o5
    have O5 := Lib.hid o5
    clear o5
    have q0_5 := Lib.hid (K.kept g5 q0_4.out (fun k hk => by have := (World.ownsRow.lt R25.out k hk).1; omega))
    have B5 := Lib.hid (bgrown B4.out g5 (fun k hk => by have := (World.ownsRow.lt R25.out k hk).1; omega))
    have L5 : w.heap.size + 2 ≤ w5.heap.size := by have := g5.size; have := LY4; omega
    clear g5 B4 q0_4 R25 R27
    have hk := HK.out
    have c0 := K.cell q0_5.out 0 _ rfl
    go_wp2_with fail
    refine Calls.mono (implPut32 s _) ?_
    rintro e w6 ⟨rfl, p6, b6⟩
    have O6 := Lib.hid (own_below O5.out b6)
    have B6 := Lib.hid (bthen B5.out b6)
    have L6 : w.heap.size + 2 ≤ w6.heap.size := Nat.le_trans L5 b6.size
    have P6 := Lib.hid (RB.of_own p6)
    clear b6 p6
    go_wp2_with (first | (at_builtin; (refine wpList_append_b rfl (.tmp 42) (.tmp 44) rfl (w.heap.size + 2) (.slice A5 32 c5) (x.bytes ++ y.bytes) rfl (by rw [EL1.out]; exact O6.out) _ _ 4 _ (put32 s) rfl rfl P6.out (Nat.le_trans (Nat.le_of_eq (congrArg (· + _) EL1.out)) (show 32 + 4 ≤ 67108864 by omega)) L6 ?_); intro v7 w7 o7 g7 _; rw [EL2.out] at o7; obtain ⟨A7, c7, rfl⟩ := own_form o7; have O7 := Lib.hid o7; clear o7; have B7 := Lib.hid (bgrown B6.out g7 (fun k hk => by have := (World.ownsRow.lt O6.out k hk).1; omega)); have L7 : w.heap.size + 2 ≤ w7.heap.size := (by (have := g7.size; omega)); clear g7) | (at_builtin; (refine wpList_append_b rfl (.tmp 46) (.tmp 49) rfl (w.heap.size + 2) (.slice A7 36 c7) (x.bytes ++ y.bytes ++ put32 s) rfl (by rw [EL2.out]; exact (O7.out.alloc (.cells #[.int .u8 0, .int .u8 0, .int .u8 0, .int .u8 p] 5))) _ _ 4 _ ([0, 0, 0, byteOf p]) rfl rfl (rb_lit4 w7 p hp) (Nat.le_trans (Nat.le_of_eq (congrArg (· + _) EL2.out)) (show 36 + 4 ≤ 67108864 by omega)) (by first | (simp; done) | (simp; omega)) ?_); intro v8 w8 o8 g8 _; rw [EL3.out] at o8; obtain ⟨A8, c8, rfl⟩ := own_form o8; have O8 := Lib.hid o8; clear o8; have B8 := Lib.hid (bgrown (bthen B7.out (Joins.below_alloc1 w7 _)) g8 (fun k hk => by have := (World.ownsRow.lt (O7.out.alloc (.cells #[.int .u8 0, .int .u8 0, .int .u8 0, .int .u8 p] 5)) k hk).1; omega)); have L8 : w.heap.size + 2 ≤ w8.heap.size := (by (have := g8.size; simp at this; omega)); clear g8))
    refine Calls.mono (implOnes A8 40 c8 _ _ (RB.of_own O8.out) EL3.out (by omega)) ?_
    rintro e w9 ⟨rfl, b9⟩
    have B9 := Lib.hid (bthen B8.out b9)
    clear b9
    clear hk c0 hp hpw
    go_wp2
    go_ret
    exact ⟨ret_int (by rw [HR.out]; simp), B9.out⟩
theorem psI (x y : Ad) (p s : Int) (w : World) : Calls Try.prog 103 #[.agg #[.int .i64 x.k, .int .i64 x.a, .int .i64 x.b, .int .i64 x.c, .int .i64 x.d], .agg #[.int .i64 y.k, .int .i64 y.a, .int .i64 y.b, .int .i64 y.c, .int .i64 y.d], .int .i64 p, .int .i64 s] w fun e w' => e = .returned (.int .i64 (psSum x y p s)) ∧ Below w.heap.size w w' := by
  cases h1 : pairA x y with
  | false => exact psI_no1 x y p s w h1
  | true =>
    cases h2 : upTo p 255 with
    | false => exact psI_no2 x y p s w h1 h2
    | true =>
      cases h3 : upTo s 1500 with
      | false => exact psI_no3 x y p s w h1 h2 h3
      | true =>
        by_cases hk : x.k = 4
        · exact psI_four x y p s w h1 h2 h3 hk
        · exact psI_six x y p s w h1 h2 h3 hk
set_option maxHeartbeats 1000000 in
theorem psS_no1 (x y : Ad) (p s : Int) (w : World) (h1 : pairA x y = false) : Calls Try.prog 60 #[.agg #[.int .i64 x.k, .int .i64 x.a, .int .i64 x.b, .int .i64 x.c, .int .i64 x.d], .agg #[.int .i64 y.k, .int .i64 y.a, .int .i64 y.b, .int .i64 y.c, .int .i64 y.d], .int .i64 p, .int .i64 s] w fun e w' => e = .returned (.int .i64 (psSum x y p s)) ∧ Below w.heap.size w w' := by
  have HR := Lib.hid (psSum_no (x := x) (y := y) (p := p) (s := s) (by simp [*]))
  have H1 := Lib.hid h1
  clear h1
  have q0 : Hid (((w.alloc (.cells #[.int .i64 x.k, .int .i64 x.a, .int .i64 x.b, .int .i64 x.c, .int .i64 x.d] 27)).alloc (.cells #[.int .i64 y.k, .int .i64 y.a, .int .i64 y.b, .int .i64 y.c, .int .i64 y.d] 27)).heap[w.heap.size]? = some (.cells #[.int .i64 x.k, .int .i64 x.a, .int .i64 x.b, .int .i64 x.c, .int .i64 x.d] 27)) := Lib.hid (by repeat (first | exact K.newAt (by first | rfl | (simp; done)) | refine K.oldAt (by first | (simp; done) | (simp; omega)) ?_))
  have q1 : Hid (((w.alloc (.cells #[.int .i64 x.k, .int .i64 x.a, .int .i64 x.b, .int .i64 x.c, .int .i64 x.d] 27)).alloc (.cells #[.int .i64 y.k, .int .i64 y.a, .int .i64 y.b, .int .i64 y.c, .int .i64 y.d] 27)).heap[w.heap.size + 1]? = some (.cells #[.int .i64 y.k, .int .i64 y.a, .int .i64 y.b, .int .i64 y.c, .int .i64 y.d] 27)) := Lib.hid (by repeat (first | exact K.newAt (by first | rfl | (simp; done)) | refine K.oldAt (by first | (simp; done) | (simp; omega)) ?_))
  go_enter Try.func60, Try.ntmps60
  go_wp2_with (first | (with_reducible refine loadA rfl _ rfl w.heap.size rfl q0.out ?_) | (with_reducible refine loadA rfl _ rfl (w.heap.size + 1) rfl q1.out ?_))
  refine Calls.mono (pairSB x y false H1.out _) ?_
  rintro e w1 ⟨rfl, b1⟩
  have B1 := Lib.hid (bthen (Joins.below_alloc2 w _ _) b1)
  clear b1
  go_wp2
  go_ret
  exact ⟨ret_int HR.out.symm, B1.out⟩
set_option maxHeartbeats 1000000 in
theorem psS_no2 (x y : Ad) (p s : Int) (w : World) (h1 : pairA x y = true) (h2 : upTo p 255 = false) : Calls Try.prog 60 #[.agg #[.int .i64 x.k, .int .i64 x.a, .int .i64 x.b, .int .i64 x.c, .int .i64 x.d], .agg #[.int .i64 y.k, .int .i64 y.a, .int .i64 y.b, .int .i64 y.c, .int .i64 y.d], .int .i64 p, .int .i64 s] w fun e w' => e = .returned (.int .i64 (psSum x y p s)) ∧ Below w.heap.size w w' := by
  have HR := Lib.hid (psSum_no (x := x) (y := y) (p := p) (s := s) (by simp [*]))
  have H1 := Lib.hid h1
  have H2 := Lib.hid h2
  clear h1 h2
  have q0 : Hid (((w.alloc (.cells #[.int .i64 x.k, .int .i64 x.a, .int .i64 x.b, .int .i64 x.c, .int .i64 x.d] 27)).alloc (.cells #[.int .i64 y.k, .int .i64 y.a, .int .i64 y.b, .int .i64 y.c, .int .i64 y.d] 27)).heap[w.heap.size]? = some (.cells #[.int .i64 x.k, .int .i64 x.a, .int .i64 x.b, .int .i64 x.c, .int .i64 x.d] 27)) := Lib.hid (by repeat (first | exact K.newAt (by first | rfl | (simp; done)) | refine K.oldAt (by first | (simp; done) | (simp; omega)) ?_))
  have q1 : Hid (((w.alloc (.cells #[.int .i64 x.k, .int .i64 x.a, .int .i64 x.b, .int .i64 x.c, .int .i64 x.d] 27)).alloc (.cells #[.int .i64 y.k, .int .i64 y.a, .int .i64 y.b, .int .i64 y.c, .int .i64 y.d] 27)).heap[w.heap.size + 1]? = some (.cells #[.int .i64 y.k, .int .i64 y.a, .int .i64 y.b, .int .i64 y.c, .int .i64 y.d] 27)) := Lib.hid (by repeat (first | exact K.newAt (by first | rfl | (simp; done)) | refine K.oldAt (by first | (simp; done) | (simp; omega)) ?_))
  go_enter Try.func60, Try.ntmps60
  go_wp2_with (first | (with_reducible refine loadA rfl _ rfl w.heap.size rfl q0.out ?_) | (with_reducible refine loadA rfl _ rfl (w.heap.size + 1) rfl q1.out ?_))
  refine Calls.mono (pairSB x y true H1.out _) ?_
  rintro e w1 ⟨rfl, b1⟩
  have B1 := Lib.hid (bthen (Joins.below_alloc2 w _ _) b1)
  clear b1
  go_wp2_with fail
  refine Calls.mono (inSB p 255 false _ H2.out) ?_
  rintro e w2 ⟨rfl, b2⟩
  have B2 := Lib.hid (bthen B1.out b2)
  clear b2
  go_wp2
  go_ret
  exact ⟨ret_int HR.out.symm, B2.out⟩
set_option maxHeartbeats 1000000 in
theorem psS_no3 (x y : Ad) (p s : Int) (w : World) (h1 : pairA x y = true) (h2 : upTo p 255 = true) (h3 : upTo s 1500 = false) : Calls Try.prog 60 #[.agg #[.int .i64 x.k, .int .i64 x.a, .int .i64 x.b, .int .i64 x.c, .int .i64 x.d], .agg #[.int .i64 y.k, .int .i64 y.a, .int .i64 y.b, .int .i64 y.c, .int .i64 y.d], .int .i64 p, .int .i64 s] w fun e w' => e = .returned (.int .i64 (psSum x y p s)) ∧ Below w.heap.size w w' := by
  have HR := Lib.hid (psSum_no (x := x) (y := y) (p := p) (s := s) (by simp [*]))
  have H1 := Lib.hid h1
  have H2 := Lib.hid h2
  have H3 := Lib.hid h3
  clear h1 h2 h3
  have q0 : Hid (((w.alloc (.cells #[.int .i64 x.k, .int .i64 x.a, .int .i64 x.b, .int .i64 x.c, .int .i64 x.d] 27)).alloc (.cells #[.int .i64 y.k, .int .i64 y.a, .int .i64 y.b, .int .i64 y.c, .int .i64 y.d] 27)).heap[w.heap.size]? = some (.cells #[.int .i64 x.k, .int .i64 x.a, .int .i64 x.b, .int .i64 x.c, .int .i64 x.d] 27)) := Lib.hid (by repeat (first | exact K.newAt (by first | rfl | (simp; done)) | refine K.oldAt (by first | (simp; done) | (simp; omega)) ?_))
  have q1 : Hid (((w.alloc (.cells #[.int .i64 x.k, .int .i64 x.a, .int .i64 x.b, .int .i64 x.c, .int .i64 x.d] 27)).alloc (.cells #[.int .i64 y.k, .int .i64 y.a, .int .i64 y.b, .int .i64 y.c, .int .i64 y.d] 27)).heap[w.heap.size + 1]? = some (.cells #[.int .i64 y.k, .int .i64 y.a, .int .i64 y.b, .int .i64 y.c, .int .i64 y.d] 27)) := Lib.hid (by repeat (first | exact K.newAt (by first | rfl | (simp; done)) | refine K.oldAt (by first | (simp; done) | (simp; omega)) ?_))
  go_enter Try.func60, Try.ntmps60
  go_wp2_with (first | (with_reducible refine loadA rfl _ rfl w.heap.size rfl q0.out ?_) | (with_reducible refine loadA rfl _ rfl (w.heap.size + 1) rfl q1.out ?_))
  refine Calls.mono (pairSB x y true H1.out _) ?_
  rintro e w1 ⟨rfl, b1⟩
  have B1 := Lib.hid (bthen (Joins.below_alloc2 w _ _) b1)
  clear b1
  go_wp2_with fail
  refine Calls.mono (inSB p 255 true _ H2.out) ?_
  rintro e w2 ⟨rfl, b2⟩
  have B2 := Lib.hid (bthen B1.out b2)
  clear b2
  go_wp2_with fail
  refine Calls.mono (inSB s 1500 false _ H3.out) ?_
  rintro e w3 ⟨rfl, b3⟩
  have B3 := Lib.hid (bthen B2.out b3)
  clear b3
  go_wp2
  go_ret
  exact ⟨ret_int HR.out.symm, B3.out⟩
set_option maxHeartbeats 4000000 in
theorem psS_four (x y : Ad) (p s : Int) (w : World) (h1 : pairA x y = true) (h2 : upTo p 255 = true) (h3 : upTo s 1500 = true) (hk : x.k = 4) : Calls Try.prog 60 #[.agg #[.int .i64 x.k, .int .i64 x.a, .int .i64 x.b, .int .i64 x.c, .int .i64 x.d], .agg #[.int .i64 y.k, .int .i64 y.a, .int .i64 y.b, .int .i64 y.c, .int .i64 y.d], .int .i64 p, .int .i64 s] w fun e w' => e = .returned (.int .i64 (psSum x y p s)) ∧ Below w.heap.size w w' := by
  have hxy : (x.ok = true ∧ y.ok = true) ∧ x.k = y.k := by simpa [pairA] using h1
  have hp : 0 ≤ p ∧ p ≤ 255 := upTo_iff.1 h2
  have hpw : IntKind.u8.wrap p = p := by rw [IntKind.wrap_u8]; omega
  have EL0 := Lib.hid (show (x.bytes).length = 4 from Ad.len4 hxy.1.1 hk)
  have ELY := Lib.hid (show y.bytes.length = 4 from Ad.len4 hxy.1.2 (by rw [← hxy.2]; exact hk))
  have EL1 := Lib.hid (show (x.bytes ++ y.bytes).length = 8 by rw [List.length_append, EL0.out, ELY.out])
  have EL2 := Lib.hid (show (x.bytes ++ y.bytes ++ [0, byteOf p]).length = 10 by rw [List.length_append, EL1.out]; rfl)
  have EL3 := Lib.hid (show (x.bytes ++ y.bytes ++ [0, byteOf p] ++ put16 s).length = 12 by rw [List.length_append, EL2.out]; rfl)
  have HR := Lib.hid (show psSum x y p s = onesSum (x.bytes ++ y.bytes ++ [0, byteOf p] ++ put16 s) by rw [psSum_yes (by simp [h1, h2, h3])]; simp [psBytes, hk])
  have H1 := Lib.hid h1
  have H2 := Lib.hid h2
  have H3 := Lib.hid h3
  have HK := Lib.hid hk
  clear h1 h2 h3 hk hxy
  have q0 : Hid (((w.alloc (.cells #[.int .i64 x.k, .int .i64 x.a, .int .i64 x.b, .int .i64 x.c, .int .i64 x.d] 27)).alloc (.cells #[.int .i64 y.k, .int .i64 y.a, .int .i64 y.b, .int .i64 y.c, .int .i64 y.d] 27)).heap[w.heap.size]? = some (.cells #[.int .i64 x.k, .int .i64 x.a, .int .i64 x.b, .int .i64 x.c, .int .i64 x.d] 27)) := Lib.hid (by repeat (first | exact K.newAt (by first | rfl | (simp; done)) | refine K.oldAt (by first | (simp; done) | (simp; omega)) ?_))
  have q1 : Hid (((w.alloc (.cells #[.int .i64 x.k, .int .i64 x.a, .int .i64 x.b, .int .i64 x.c, .int .i64 x.d] 27)).alloc (.cells #[.int .i64 y.k, .int .i64 y.a, .int .i64 y.b, .int .i64 y.c, .int .i64 y.d] 27)).heap[w.heap.size + 1]? = some (.cells #[.int .i64 y.k, .int .i64 y.a, .int .i64 y.b, .int .i64 y.c, .int .i64 y.d] 27)) := Lib.hid (by repeat (first | exact K.newAt (by first | rfl | (simp; done)) | refine K.oldAt (by first | (simp; done) | (simp; omega)) ?_))
  go_enter Try.func60, Try.ntmps60
  go_wp2_with (first | (with_reducible refine loadA rfl _ rfl w.heap.size rfl q0.out ?_) | (with_reducible refine loadA rfl _ rfl (w.heap.size + 1) rfl q1.out ?_))
  refine Calls.mono (pairSB x y true H1.out _) ?_
  rintro e w1 ⟨rfl, b1⟩
  have B1 := Lib.hid (bthen (Joins.below_alloc2 w _ _) b1)
  have q0_1 := Lib.hid (K.below b1 q0.out)
  have q1_1 := Lib.hid (K.below b1 q1.out)
  clear b1
  go_wp2_with fail
  refine Calls.mono (inSB p 255 true _ H2.out) ?_
  rintro e w2 ⟨rfl, b2⟩
  have B2 := Lib.hid (bthen B1.out b2)
  have q0_2 := Lib.hid (K.below b2 q0_1.out)
  have q1_2 := Lib.hid (K.below b2 q1_1.out)
  clear b2
  go_wp2_with fail
  refine Calls.mono (inSB s 1500 true _ H3.out) ?_
  rintro e w3 ⟨rfl, b3⟩
  have B3 := Lib.hid (bthen B2.out b3)
  have q0_3 := Lib.hid (K.below b3 q0_2.out)
  have q1_3 := Lib.hid (K.below b3 q1_2.out)
  clear b3
  clear q0 q1 q0_1 q1_1 q0_2 q1_2 B1 B2
  have LZ : w.heap.size + 2 ≤ w3.heap.size := by have := K.lt q1_3.out; omega
  go_wp2_with fail
  refine wp_region_owns (by kernel_rfl) 4 52 [(0, 24), (1, 25), (2, 26), (3, 27)] _ ([.val (.agg #[.int .i64 x.k, .int .i64 x.a, .int .i64 x.b, .int .i64 x.c, .int .i64 x.d]), .own (w.heap.size + 2) 4 x.bytes, .val (.agg #[.int .i64 y.k, .int .i64 y.a, .int .i64 y.b, .int .i64 y.c, .int .i64 y.d]), .rb 4 y.bytes]) (by kernel_rfl) (by kernel_rfl) rfl rfl ?_ ?_
  · intro j o hj ho a' v K' hx hnd hB hK
    match j, hj, ho with
    | 0, _, ho =>
      obtain rfl := Option.some.inj ho
      have h0 : a'.eval (.tmp 4) = .pointer (some ⟨w.heap.size, 0, none⟩) := (hx 4 (by decide)).trans rfl
      exact wp_load_row 27 _ rfl w.heap.size h0 _ _ (0, 0) _ (K.below hB q0_3.out) Try.underlying27 rfl info_addrP (hK _ _ rfl (Below.refl _ _))
    | 1, _, ho =>
      obtain rfl := Option.some.inj ho
      have h0 : a'.eval (.tmp 24) = .agg #[.int .i64 x.k, .int .i64 x.a, .int .i64 x.b, .int .i64 x.c, .int .i64 x.d] := (owns_of hnd 0 24 (by kernel_rfl) :)
      refine u_addrBytesS _ _ _ rfl h0 (Calls.mono (bytesNS x 4 EL0.out v) ?_)
      rintro e' v' ⟨X, y, rfl, o6, b6⟩
      exact ⟨_, rfl, hK _ _ ⟨X, y, rfl, own_base o6 (Nat.le_trans LZ hB.size)⟩ b6⟩
    | 2, _, ho =>
      obtain rfl := Option.some.inj ho
      have h0 : a'.eval (.tmp 5) = .pointer (some ⟨w.heap.size + 1, 0, none⟩) := (hx 5 (by decide)).trans rfl
      exact wp_load_row 27 _ rfl (w.heap.size + 1) h0 _ _ (0, 0) _ (K.below hB q1_3.out) Try.underlying27 rfl info_addrP (hK _ _ rfl (Below.refl _ _))
    | 3, _, ho =>
      obtain rfl := Option.some.inj ho
      have h0 : a'.eval (.tmp 26) = .agg #[.int .i64 y.k, .int .i64 y.a, .int .i64 y.b, .int .i64 y.c, .int .i64 y.d] := (owns_of hnd 2 26 (by kernel_rfl) :)
      refine u_addrBytesS _ _ _ rfl h0 (Calls.mono (bytesNS y 4 ELY.out v) ?_)
      rintro e' v' ⟨X, z, rfl, o6, b6⟩
      exact ⟨_, rfl, hK _ _ ⟨X, z, rfl, RB.of_own o6⟩ b6⟩
    | j + 4, hj, _ => omega
  · intro f v hf hB
    have e0 : f 0 = (.agg #[.int .i64 x.k, .int .i64 x.a, .int .i64 x.b, .int .i64 x.c, .int .i64 x.d]) := hf (0, 24) (by decide)
    obtain ⟨X25, y25, e1, r1⟩ := hf (1, 25) (by decide)
    have R25 := Lib.hid r1
    clear r1
    have e2 : f 2 = (.agg #[.int .i64 y.k, .int .i64 y.a, .int .i64 y.b, .int .i64 y.c, .int .i64 y.d]) := hf (2, 26) (by decide)
    obtain ⟨X27, y27, e3, r3⟩ := hf (3, 27) (by decide)
    have R27 := Lib.hid r3
    clear r3
    simp only [List.foldl_cons, List.foldl_nil, List.drop_succ_cons, List.drop_zero, e0, e1, e2, e3]
    clear e0 e1 e2 e3 hf
    go_simp
    have B4 := Lib.hid (bthen B3.out hB)
    have q0_4 := Lib.hid (K.below hB q0_3.out)
    have LY4 : w.heap.size + 2 ≤ v.heap.size := Nat.le_trans LZ hB.size
    clear B3 q0_3 q1_3 hB
    refine wpList_append_b rfl (.tmp 25) (.tmp 27) rfl (w.heap.size + 2) (.slice X25 4 y25) x.bytes rfl (by rw [EL0.out]; exact R25.out) _ X27 4 y27 y.bytes rfl ELY.out R27.out (by rw [EL0.out, ELY.out]; omega) LY4 ?_
    intro v5 w5 o5 g5 _
    rw [EL1.out] at o5
    obtain ⟨A5, c5, rfl⟩ := own_form o5
    have O5 := Lib.hid o5
    clear o5
    have q0_5 := Lib.hid (K.kept g5 q0_4.out (fun k hk => by have := (World.ownsRow.lt R25.out k hk).1; omega))
    have B5 := Lib.hid (bgrown B4.out g5 (fun k hk => by have := (World.ownsRow.lt R25.out k hk).1; omega))
    have L5 : w.heap.size + 2 ≤ w5.heap.size := by have := g5.size; have := LY4; omega
    clear g5 B4 q0_4 R25 R27
    have hk := HK.out
    have c0 := K.cell q0_5.out 0 _ rfl
    go_wp2_with (at_builtin; (refine wpList_append_b rfl (.tmp 32) (.tmp 35) rfl (w.heap.size + 2) (.slice A5 8 c5) (x.bytes ++ y.bytes) rfl (by rw [EL1.out]; exact (O5.out.alloc (.cells #[.int .u8 0, .int .u8 p] 5))) _ _ 2 _ ([0, byteOf p]) rfl rfl (rb_lit2 w5 p hp) (Nat.le_trans (Nat.le_of_eq (congrArg (· + _) EL1.out)) (show 8 + 2 ≤ 67108864 by omega)) (by first | (simp; done) | (simp; omega)) ?_); intro v6 w6 o6 g6 _; rw [EL2.out] at o6; obtain ⟨A6, c6, rfl⟩ := own_form o6; have O6 := Lib.hid o6; clear o6; have B6 := Lib.hid (bgrown (bthen B5.out (Joins.below_alloc1 w5 _)) g6 (fun k hk => by have := (World.ownsRow.lt (O5.out.alloc (.cells #[.int .u8 0, .int .u8 p] 5)) k hk).1; omega)); have L6 : w.heap.size + 2 ≤ w6.heap.size := (by (have := g6.size; simp at this; omega)); clear g6)
    refine Calls.mono (put16S s _) ?_
    rintro e w7 ⟨X7, y7, rfl, p7, b7⟩
    have O7 := Lib.hid (own_below O6.out b7)
    have B7 := Lib.hid (bthen B6.out b7)
    have L7 : w.heap.size + 2 ≤ w7.heap.size := Nat.le_trans L6 b7.size
    have P7 := Lib.hid (RB.of_own p7)
    clear b7 p7
    go_wp2_with (at_builtin; (refine wpList_append_b rfl (.tmp 37) (.tmp 39) rfl (w.heap.size + 2) (.slice A6 10 c6) (x.bytes ++ y.bytes ++ [0, byteOf p]) rfl (by rw [EL2.out]; exact O7.out) _ _ 2 _ (put16 s) rfl rfl P7.out (Nat.le_trans (Nat.le_of_eq (congrArg (· + _) EL2.out)) (show 10 + 2 ≤ 67108864 by omega)) L7 ?_); intro v8 w8 o8 g8 _; rw [EL3.out] at o8; obtain ⟨A8, c8, rfl⟩ := own_form o8; have O8 := Lib.hid o8; clear o8; have B8 := Lib.hid (bgrown B7.out g8 (fun k hk => by have := (World.ownsRow.lt O7.out k hk).1; omega)); have L8 : w.heap.size + 2 ≤ w8.heap.size := (by (have := g8.size; omega)); clear g8)
    refine Calls.mono (specOnes A8 12 c8 _ _ (RB.of_own O8.out) EL3.out (by omega)) ?_
    rintro e w9 ⟨rfl, rfl⟩
    have B9 := B8
    clear hk c0 hp hpw
    go_wp2
    go_ret
    exact ⟨ret_int (by rw [HR.out]; simp), B9.out⟩
set_option maxHeartbeats 4000000 in
theorem psS_six (x y : Ad) (p s : Int) (w : World) (h1 : pairA x y = true) (h2 : upTo p 255 = true) (h3 : upTo s 1500 = true) (hk : ¬ x.k = 4) : Calls Try.prog 60 #[.agg #[.int .i64 x.k, .int .i64 x.a, .int .i64 x.b, .int .i64 x.c, .int .i64 x.d], .agg #[.int .i64 y.k, .int .i64 y.a, .int .i64 y.b, .int .i64 y.c, .int .i64 y.d], .int .i64 p, .int .i64 s] w fun e w' => e = .returned (.int .i64 (psSum x y p s)) ∧ Below w.heap.size w w' := by
  have hxy : (x.ok = true ∧ y.ok = true) ∧ x.k = y.k := by simpa [pairA] using h1
  have hp : 0 ≤ p ∧ p ≤ 255 := upTo_iff.1 h2
  have hpw : IntKind.u8.wrap p = p := by rw [IntKind.wrap_u8]; omega
  have EL0 := Lib.hid (show (x.bytes).length = 16 from Ad.len6 hxy.1.1 hk)
  have ELY := Lib.hid (show y.bytes.length = 16 from Ad.len6 hxy.1.2 (by rw [← hxy.2]; exact hk))
  have EL1 := Lib.hid (show (x.bytes ++ y.bytes).length = 32 by rw [List.length_append, EL0.out, ELY.out])
  have EL2 := Lib.hid (show (x.bytes ++ y.bytes ++ put32 s).length = 36 by rw [List.length_append, EL1.out]; rfl)
  have EL3 := Lib.hid (show (x.bytes ++ y.bytes ++ put32 s ++ [0, 0, 0, byteOf p]).length = 40 by rw [List.length_append, EL2.out]; rfl)
  have HR := Lib.hid (show psSum x y p s = onesSum (x.bytes ++ y.bytes ++ put32 s ++ [0, 0, 0, byteOf p]) by rw [psSum_yes (by simp [h1, h2, h3])]; simp [psBytes, hk])
  have H1 := Lib.hid h1
  have H2 := Lib.hid h2
  have H3 := Lib.hid h3
  have HK := Lib.hid hk
  clear h1 h2 h3 hk hxy
  have q0 : Hid (((w.alloc (.cells #[.int .i64 x.k, .int .i64 x.a, .int .i64 x.b, .int .i64 x.c, .int .i64 x.d] 27)).alloc (.cells #[.int .i64 y.k, .int .i64 y.a, .int .i64 y.b, .int .i64 y.c, .int .i64 y.d] 27)).heap[w.heap.size]? = some (.cells #[.int .i64 x.k, .int .i64 x.a, .int .i64 x.b, .int .i64 x.c, .int .i64 x.d] 27)) := Lib.hid (by repeat (first | exact K.newAt (by first | rfl | (simp; done)) | refine K.oldAt (by first | (simp; done) | (simp; omega)) ?_))
  have q1 : Hid (((w.alloc (.cells #[.int .i64 x.k, .int .i64 x.a, .int .i64 x.b, .int .i64 x.c, .int .i64 x.d] 27)).alloc (.cells #[.int .i64 y.k, .int .i64 y.a, .int .i64 y.b, .int .i64 y.c, .int .i64 y.d] 27)).heap[w.heap.size + 1]? = some (.cells #[.int .i64 y.k, .int .i64 y.a, .int .i64 y.b, .int .i64 y.c, .int .i64 y.d] 27)) := Lib.hid (by repeat (first | exact K.newAt (by first | rfl | (simp; done)) | refine K.oldAt (by first | (simp; done) | (simp; omega)) ?_))
  go_enter Try.func60, Try.ntmps60
  go_wp2_with (first | (with_reducible refine loadA rfl _ rfl w.heap.size rfl q0.out ?_) | (with_reducible refine loadA rfl _ rfl (w.heap.size + 1) rfl q1.out ?_))
  refine Calls.mono (pairSB x y true H1.out _) ?_
  rintro e w1 ⟨rfl, b1⟩
  have B1 := Lib.hid (bthen (Joins.below_alloc2 w _ _) b1)
  have q0_1 := Lib.hid (K.below b1 q0.out)
  have q1_1 := Lib.hid (K.below b1 q1.out)
  clear b1
  go_wp2_with fail
  refine Calls.mono (inSB p 255 true _ H2.out) ?_
  rintro e w2 ⟨rfl, b2⟩
  have B2 := Lib.hid (bthen B1.out b2)
  have q0_2 := Lib.hid (K.below b2 q0_1.out)
  have q1_2 := Lib.hid (K.below b2 q1_1.out)
  clear b2
  go_wp2_with fail
  refine Calls.mono (inSB s 1500 true _ H3.out) ?_
  rintro e w3 ⟨rfl, b3⟩
  have B3 := Lib.hid (bthen B2.out b3)
  have q0_3 := Lib.hid (K.below b3 q0_2.out)
  have q1_3 := Lib.hid (K.below b3 q1_2.out)
  clear b3
  clear q0 q1 q0_1 q1_1 q0_2 q1_2 B1 B2
  have LZ : w.heap.size + 2 ≤ w3.heap.size := by have := K.lt q1_3.out; omega
  go_wp2_with fail
  refine wp_region_owns (by kernel_rfl) 4 52 [(0, 24), (1, 25), (2, 26), (3, 27)] _ ([.val (.agg #[.int .i64 x.k, .int .i64 x.a, .int .i64 x.b, .int .i64 x.c, .int .i64 x.d]), .own (w.heap.size + 2) 16 x.bytes, .val (.agg #[.int .i64 y.k, .int .i64 y.a, .int .i64 y.b, .int .i64 y.c, .int .i64 y.d]), .rb 16 y.bytes]) (by kernel_rfl) (by kernel_rfl) rfl rfl ?_ ?_
  · intro j o hj ho a' v K' hx hnd hB hK
    match j, hj, ho with
    | 0, _, ho =>
      obtain rfl := Option.some.inj ho
      have h0 : a'.eval (.tmp 4) = .pointer (some ⟨w.heap.size, 0, none⟩) := (hx 4 (by decide)).trans rfl
      exact wp_load_row 27 _ rfl w.heap.size h0 _ _ (0, 0) _ (K.below hB q0_3.out) Try.underlying27 rfl info_addrP (hK _ _ rfl (Below.refl _ _))
    | 1, _, ho =>
      obtain rfl := Option.some.inj ho
      have h0 : a'.eval (.tmp 24) = .agg #[.int .i64 x.k, .int .i64 x.a, .int .i64 x.b, .int .i64 x.c, .int .i64 x.d] := (owns_of hnd 0 24 (by kernel_rfl) :)
      refine u_addrBytesS _ _ _ rfl h0 (Calls.mono (bytesNS x 16 EL0.out v) ?_)
      rintro e' v' ⟨X, y, rfl, o6, b6⟩
      exact ⟨_, rfl, hK _ _ ⟨X, y, rfl, own_base o6 (Nat.le_trans LZ hB.size)⟩ b6⟩
    | 2, _, ho =>
      obtain rfl := Option.some.inj ho
      have h0 : a'.eval (.tmp 5) = .pointer (some ⟨w.heap.size + 1, 0, none⟩) := (hx 5 (by decide)).trans rfl
      exact wp_load_row 27 _ rfl (w.heap.size + 1) h0 _ _ (0, 0) _ (K.below hB q1_3.out) Try.underlying27 rfl info_addrP (hK _ _ rfl (Below.refl _ _))
    | 3, _, ho =>
      obtain rfl := Option.some.inj ho
      have h0 : a'.eval (.tmp 26) = .agg #[.int .i64 y.k, .int .i64 y.a, .int .i64 y.b, .int .i64 y.c, .int .i64 y.d] := (owns_of hnd 2 26 (by kernel_rfl) :)
      refine u_addrBytesS _ _ _ rfl h0 (Calls.mono (bytesNS y 16 ELY.out v) ?_)
      rintro e' v' ⟨X, z, rfl, o6, b6⟩
      exact ⟨_, rfl, hK _ _ ⟨X, z, rfl, RB.of_own o6⟩ b6⟩
    | j + 4, hj, _ => omega
  · intro f v hf hB
    have e0 : f 0 = (.agg #[.int .i64 x.k, .int .i64 x.a, .int .i64 x.b, .int .i64 x.c, .int .i64 x.d]) := hf (0, 24) (by decide)
    obtain ⟨X25, y25, e1, r1⟩ := hf (1, 25) (by decide)
    have R25 := Lib.hid r1
    clear r1
    have e2 : f 2 = (.agg #[.int .i64 y.k, .int .i64 y.a, .int .i64 y.b, .int .i64 y.c, .int .i64 y.d]) := hf (2, 26) (by decide)
    obtain ⟨X27, y27, e3, r3⟩ := hf (3, 27) (by decide)
    have R27 := Lib.hid r3
    clear r3
    simp only [List.foldl_cons, List.foldl_nil, List.drop_succ_cons, List.drop_zero, e0, e1, e2, e3]
    clear e0 e1 e2 e3 hf
    go_simp
    have B4 := Lib.hid (bthen B3.out hB)
    have q0_4 := Lib.hid (K.below hB q0_3.out)
    have LY4 : w.heap.size + 2 ≤ v.heap.size := Nat.le_trans LZ hB.size
    clear B3 q0_3 q1_3 hB
    refine wpList_append_b rfl (.tmp 25) (.tmp 27) rfl (w.heap.size + 2) (.slice X25 16 y25) x.bytes rfl (by rw [EL0.out]; exact R25.out) _ X27 16 y27 y.bytes rfl ELY.out R27.out (by rw [EL0.out, ELY.out]; omega) LY4 ?_
    intro v5 w5 o5 g5 _
    rw [EL1.out] at o5
    obtain ⟨A5, c5, rfl⟩ := own_form o5
    have O5 := Lib.hid o5
    clear o5
    have q0_5 := Lib.hid (K.kept g5 q0_4.out (fun k hk => by have := (World.ownsRow.lt R25.out k hk).1; omega))
    have B5 := Lib.hid (bgrown B4.out g5 (fun k hk => by have := (World.ownsRow.lt R25.out k hk).1; omega))
    have L5 : w.heap.size + 2 ≤ w5.heap.size := by have := g5.size; have := LY4; omega
    clear g5 B4 q0_4 R25 R27
    have hk := HK.out
    have c0 := K.cell q0_5.out 0 _ rfl
    go_wp2_with fail
    refine Calls.mono (put32S s _) ?_
    rintro e w6 ⟨X6, y6, rfl, p6, b6⟩
    have O6 := Lib.hid (own_below O5.out b6)
    have B6 := Lib.hid (bthen B5.out b6)
    have L6 : w.heap.size + 2 ≤ w6.heap.size := Nat.le_trans L5 b6.size
    have P6 := Lib.hid (RB.of_own p6)
    clear b6 p6
    go_wp2_with (first | (at_builtin; (refine wpList_append_b rfl (.tmp 41) (.tmp 43) rfl (w.heap.size + 2) (.slice A5 32 c5) (x.bytes ++ y.bytes) rfl (by rw [EL1.out]; exact O6.out) _ _ 4 _ (put32 s) rfl rfl P6.out (Nat.le_trans (Nat.le_of_eq (congrArg (· + _) EL1.out)) (show 32 + 4 ≤ 67108864 by omega)) L6 ?_); intro v7 w7 o7 g7 _; rw [EL2.out] at o7; obtain ⟨A7, c7, rfl⟩ := own_form o7; have O7 := Lib.hid o7; clear o7; have B7 := Lib.hid (bgrown B6.out g7 (fun k hk => by have := (World.ownsRow.lt O6.out k hk).1; omega)); have L7 : w.heap.size + 2 ≤ w7.heap.size := (by (have := g7.size; omega)); clear g7) | (at_builtin; (refine wpList_append_b rfl (.tmp 45) (.tmp 48) rfl (w.heap.size + 2) (.slice A7 36 c7) (x.bytes ++ y.bytes ++ put32 s) rfl (by rw [EL2.out]; exact (O7.out.alloc (.cells #[.int .u8 0, .int .u8 0, .int .u8 0, .int .u8 p] 5))) _ _ 4 _ ([0, 0, 0, byteOf p]) rfl rfl (rb_lit4 w7 p hp) (Nat.le_trans (Nat.le_of_eq (congrArg (· + _) EL2.out)) (show 36 + 4 ≤ 67108864 by omega)) (by first | (simp; done) | (simp; omega)) ?_); intro v8 w8 o8 g8 _; rw [EL3.out] at o8; obtain ⟨A8, c8, rfl⟩ := own_form o8; have O8 := Lib.hid o8; clear o8; have B8 := Lib.hid (bgrown (bthen B7.out (Joins.below_alloc1 w7 _)) g8 (fun k hk => by have := (World.ownsRow.lt (O7.out.alloc (.cells #[.int .u8 0, .int .u8 0, .int .u8 0, .int .u8 p] 5)) k hk).1; omega)); have L8 : w.heap.size + 2 ≤ w8.heap.size := (by (have := g8.size; simp at this; omega)); clear g8))
    refine Calls.mono (specOnes A8 40 c8 _ _ (RB.of_own O8.out) EL3.out (by omega)) ?_
    rintro e w9 ⟨rfl, rfl⟩
    have B9 := B8
    clear hk c0 hp hpw
    go_wp2
    go_ret
    exact ⟨ret_int (by rw [HR.out]; simp), B9.out⟩
theorem psS (x y : Ad) (p s : Int) (w : World) : Calls Try.prog 60 #[.agg #[.int .i64 x.k, .int .i64 x.a, .int .i64 x.b, .int .i64 x.c, .int .i64 x.d], .agg #[.int .i64 y.k, .int .i64 y.a, .int .i64 y.b, .int .i64 y.c, .int .i64 y.d], .int .i64 p, .int .i64 s] w fun e w' => e = .returned (.int .i64 (psSum x y p s)) ∧ Below w.heap.size w w' := by
  cases h1 : pairA x y with
  | false => exact psS_no1 x y p s w h1
  | true =>
    cases h2 : upTo p 255 with
    | false => exact psS_no2 x y p s w h1 h2
    | true =>
      cases h3 : upTo s 1500 with
      | false => exact psS_no3 x y p s w h1 h2 h3
      | true =>
        by_cases hk : x.k = 4
        · exact psS_four x y p s w h1 h2 h3 hk
        · exact psS_six x y p s w h1 h2 h3 hk
end Go.Proofs.Ythogonpjkngpjaa
