/-
  SixBytes in the model. SixBytes in the program. Worlds that differ only in some blocks, and in what was made since. Plain: any program. The marking of an IPv4 packet whose options take up all the room that the laws allow. The laws' own marking of IPv6 packets, and a look at the marks.
-/
import Derived.Test.YtegpaocoepcemaaSixBLib
import Derived.Test.YtegpaocoepcemaaKuA
import Derived.Test.YtegpaocoepcemaaBytes
import Derived.Test.YtegpaocoepcemaaFour3
import Derived.Test.YtegpaocoepcemaaSix3
namespace Go.Proofs.Ytegpaocoepcemaa
set_option maxRecDepth 100000
open Go.RowKit

def SBOut (x : Sh) (es : List (Int × List UInt8)) (bs : List UInt8) (w : World) (e : Ending) (w' : World) : Prop := ∃ A c, e = .returned (.slice A (x.bytes es bs).length c) ∧ w'.ownsRow w.heap.size 5 1 (.slice A (x.bytes es bs).length c) (x.bytes es bs).length (cellsOf (x.bytes es bs)) ∧ Below w.heap.size w w'
theorem sbOut_no {x : Sh} {es : List (Int × List UInt8)} {bs : List UInt8} (h : x.ok es bs.length = false) {w w' : World} (hb : Below w.heap.size w w') : SBOut x es bs w (.returned (.slice none 0 0)) w' := by
  have e : x.bytes es bs = [] := by simp [Sh.bytes, h]
  unfold SBOut
  rw [e]
  exact ⟨none, 0, rfl, ⟨rfl, .inl ⟨rfl, rfl⟩⟩, hb⟩
theorem sbOut_yes {x : Sh} {es : List (Int × List UInt8)} {bs L : List UInt8} (h : x.bytes es bs = L) {w w' : World} {A : Option Addr} {N c : Nat} (hN : L.length = N) (ho : w'.ownsRow (w.heap.size + 1) 5 1 (.slice A N c) N (cellsOf L)) (hb : Below w.heap.size w w') : SBOut x es bs w (.returned (.slice A N c)) w' := by
  subst h
  subst hN
  exact ⟨A, c, rfl, own_base ho (by omega), hb⟩

theorem sizeSB (x : Sh) (A D : Option Addr) (n c m d : Nat) (ys : List Ey) (w : World) (hx : XR w w.heap.size A ys) (hl : ys.length = n) (hb : bodies ys ≤ 1048576) (ho : x.ok (ys.map Ey.says) m = true) (z : Nat) (hz : extsSize (ys.map Ey.says) = z) : Calls Try.prog 14 #[.agg #[.int .i64 x.cls, .int .i64 x.label, .int .i64 x.hops, .int .i64 x.proto, .int .i64 x.src.k, .int .i64 x.src.a, .int .i64 x.src.b, .int .i64 x.src.c, .int .i64 x.src.d, .int .i64 x.dst.k, .int .i64 x.dst.a, .int .i64 x.dst.b, .int .i64 x.dst.c, .int .i64 x.dst.d, .slice A n c, .slice D m d]] w fun e w' => e = .returned (.int .i64 (z : Int)) ∧ Below w.heap.size w w' :=
  (sizeS x A D n c m d ys w hx hl hb).mono fun _ _ ⟨he, hb⟩ => ⟨by rw [he, ← hz]; simp [Sh.size, ho], hb⟩
theorem addr6S (x : Ad) (h : x.bytes.length = 16) (w : World) : Calls Try.prog 57 #[.agg #[.int .i64 x.k, .int .i64 x.a, .int .i64 x.b, .int .i64 x.c, .int .i64 x.d]] w (TwoOut x.bytes 16 w) :=
  (specAddrBytes x w).mono fun _ _ ⟨A, c, he, o, b⟩ => by rw [h] at he o; exact ⟨A, c, he, o, b⟩

set_option maxHeartbeats 1000000 in
theorem sbS_no (x : Sh) (A D : Option Addr) (n c m d : Nat) (ys : List Ey) (bs : List UInt8) (w : World) (hx : XR w w.heap.size A ys) (hl : ys.length = n) (hb : bodies ys ≤ 1048576) (hm : bs.length = m) (hok : x.ok (ys.map Ey.says) m = false) : Calls Try.prog 20 #[.agg #[.int .i64 x.cls, .int .i64 x.label, .int .i64 x.hops, .int .i64 x.proto, .int .i64 x.src.k, .int .i64 x.src.a, .int .i64 x.src.b, .int .i64 x.src.c, .int .i64 x.src.d, .int .i64 x.dst.k, .int .i64 x.dst.a, .int .i64 x.dst.b, .int .i64 x.dst.c, .int .i64 x.dst.d, .slice A n c, .slice D m d]] w (SBOut x (ys.map Ey.says) bs w) := by
  have SO := Lib.hid (fun w (hx : XR w w.heap.size A ys) => show Calls Try.prog 18 #[.agg #[.int .i64 x.cls, .int .i64 x.label, .int .i64 x.hops, .int .i64 x.proto, .int .i64 x.src.k, .int .i64 x.src.a, .int .i64 x.src.b, .int .i64 x.src.c, .int .i64 x.src.d, .int .i64 x.dst.k, .int .i64 x.dst.a, .int .i64 x.dst.b, .int .i64 x.dst.c, .int .i64 x.dst.d, .slice A n c, .slice D m d]] w fun e w' => e = .returned (.bool false) ∧ Below w.heap.size w w' from hok ▸ specSixOk x A D n c m d ys w hx hl hb)
  have H := Lib.hid (show x.ok (ys.map Ey.says) bs.length = false by rw [hm]; exact hok)
  have HX := Lib.hid (hx.on (Joins.below_alloc1 w (.cells #[.int .i64 x.cls, .int .i64 x.label, .int .i64 x.hops, .int .i64 x.proto, .int .i64 x.src.k, .int .i64 x.src.a, .int .i64 x.src.b, .int .i64 x.src.c, .int .i64 x.src.d, .int .i64 x.dst.k, .int .i64 x.dst.a, .int .i64 x.dst.b, .int .i64 x.dst.c, .int .i64 x.dst.d, .slice A n c, .slice D m d] 36)))
  clear hok hl hm hx hb
  have q := Lib.hid (K.new w (.cells #[.int .i64 x.cls, .int .i64 x.label, .int .i64 x.hops, .int .i64 x.proto, .int .i64 x.src.k, .int .i64 x.src.a, .int .i64 x.src.b, .int .i64 x.src.c, .int .i64 x.src.d, .int .i64 x.dst.k, .int .i64 x.dst.a, .int .i64 x.dst.b, .int .i64 x.dst.c, .int .i64 x.dst.d, .slice A n c, .slice D m d] 36))
  go_enter Try.func20, Try.ntmps20
  go_wp2_with (with_reducible refine loadS rfl _ rfl w.heap.size rfl q.out ?_)
  refine Calls.mono (SO.out _ HX.out) ?_
  rintro e w1 ⟨rfl, b1⟩
  have B := Lib.hid (bthen (Joins.below_alloc1 w _) b1)
  clear b1
  go_wp2
  go_ret
  exact sbOut_no H.out B.out

set_option maxHeartbeats 4000000 in
theorem sbS_yes (x : Sh) (A D : Option Addr) (n c m d : Nat) (ys : List Ey) (bs : List UInt8) (w : World) (hx : XR w w.heap.size A ys) (hl : ys.length = n) (hb : bodies ys ≤ 1048576) (hs : RB w w.heap.size D bs) (hm : bs.length = m) (hok : x.ok (ys.map Ey.says) m = true) : Calls Try.prog 20 #[.agg #[.int .i64 x.cls, .int .i64 x.label, .int .i64 x.hops, .int .i64 x.proto, .int .i64 x.src.k, .int .i64 x.src.a, .int .i64 x.src.b, .int .i64 x.src.c, .int .i64 x.src.d, .int .i64 x.dst.k, .int .i64 x.dst.a, .int .i64 x.dst.b, .int .i64 x.dst.c, .int .i64 x.dst.d, .slice A n c, .slice D m d]] w (SBOut x (ys.map Ey.says) bs w) := by
  obtain ⟨⟨⟨hc0, hc1⟩, ⟨hf0, hf1⟩, ⟨hh0, hh1⟩, hp, _⟩, hsrc, hdst, ⟨hn3, hfrom⟩, hroom⟩ := (x.ok_iff _ m).1 hok
  have SO := Lib.hid (fun w (hx : XR w w.heap.size A ys) => show Calls Try.prog 18 #[.agg #[.int .i64 x.cls, .int .i64 x.label, .int .i64 x.hops, .int .i64 x.proto, .int .i64 x.src.k, .int .i64 x.src.a, .int .i64 x.src.b, .int .i64 x.src.c, .int .i64 x.src.d, .int .i64 x.dst.k, .int .i64 x.dst.a, .int .i64 x.dst.b, .int .i64 x.dst.c, .int .i64 x.dst.d, .slice A n c, .slice D m d]] w fun e w' => e = .returned (.bool true) ∧ Below w.heap.size w w' from hok ▸ specSixOk x A D n c m d ys w hx hl hb)
  obtain ⟨es, hes⟩ : ∃ es, ys.map Ey.says = es := ⟨_, rfl⟩
  obtain ⟨z, hz⟩ : ∃ z, extsSize es = z := ⟨_, rfl⟩
  obtain ⟨k0, hk0⟩ : ∃ k, nextKind es x.proto 0 = k := ⟨_, rfl⟩
  rw [hes] at hok hn3 hfrom hroom
  have hel : es.length = n := by rw [← hes, List.length_map, hl]
  have hk1 := nextKind_small hfrom hp 0
  rw [hk0] at hk1
  have hz2 : z + m ≤ 1460 := by rw [← hz]; omega
  have hb1 : bs.length = m := hm
  have ea : x.src.bytes.length = 16 := adOk6_bytes hsrc
  have eb : x.dst.bytes.length = 16 := adOk6_bytes hdst
  rw [hel] at hn3
  have HOUT := Lib.hid (show x.bytes es bs = put32 (1610612736 + x.cls * 1048576 + x.label) ++ put16 ((z : Int) + m) ++ [byteOf k0, byteOf x.hops] ++ x.src.bytes ++ x.dst.bytes ++ extsAcc es x.proto n ++ bs by simp only [Sh.bytes, hb1, hok, if_true, Sh.head, hz, hk0, hel])
  have EL0 := Lib.hid (show (put32 (1610612736 + x.cls * 1048576 + x.label)).length = 4 from rfl)
  have EL1 := Lib.hid (show (put32 (1610612736 + x.cls * 1048576 + x.label) ++ put16 ((z : Int) + m)).length = 6 from rfl)
  have EL2 := Lib.hid (show (put32 (1610612736 + x.cls * 1048576 + x.label) ++ put16 ((z : Int) + m) ++ [byteOf k0, byteOf x.hops]).length = 8 from rfl)
  have EL3 := Lib.hid (show (put32 (1610612736 + x.cls * 1048576 + x.label) ++ put16 ((z : Int) + m) ++ [byteOf k0, byteOf x.hops] ++ x.src.bytes).length = 24 by rw [List.length_append, EL2.out, ea])
  have EL4 := Lib.hid (show (put32 (1610612736 + x.cls * 1048576 + x.label) ++ put16 ((z : Int) + m) ++ [byteOf k0, byteOf x.hops] ++ x.src.bytes ++ x.dst.bytes).length = 40 by rw [List.length_append, EL3.out, eb])
  have EA := Lib.hid (fun k (hk : k ≤ n) => show (extsAcc es x.proto k).length = extsSize (es.take k) from extsAcc_length (by omega))
  have HE := Lib.hid hes
  have HZ := Lib.hid hz
  have HK := Lib.hid hk0
  have HEL := Lib.hid hel
  have HO := Lib.hid (show x.ok (ys.map Ey.says) m = true by rw [hes]; exact hok)
  have HX := Lib.hid hx
  have HL := Lib.hid hl
  have HB := Lib.hid hb
  have HS := Lib.hid hs
  have HM := Lib.hid hb1
  have HF := Lib.hid (And.intro hfrom hp)
  have HAS := Lib.hid (And.intro ea eb)
  clear hok hx hl hb hs hm hz hfrom hsrc hdst hroom hes hk0 hel hb1 ea eb hp
  have q := Lib.hid (K.new w (.cells #[.int .i64 x.cls, .int .i64 x.label, .int .i64 x.hops, .int .i64 x.proto, .int .i64 x.src.k, .int .i64 x.src.a, .int .i64 x.src.b, .int .i64 x.src.c, .int .i64 x.src.d, .int .i64 x.dst.k, .int .i64 x.dst.a, .int .i64 x.dst.b, .int .i64 x.dst.c, .int .i64 x.dst.d, .slice A n c, .slice D m d] 36))
  go_enter Try.func20, Try.ntmps20
  go_wp2_with (with_reducible refine loadS rfl _ rfl w.heap.size rfl q.out ?_)
  refine Calls.mono (SO.out _ (HX.out.on (Joins.below_alloc1 w _))) ?_
  rintro e w1 ⟨rfl, b1⟩
  have q1 := K.below b1 q.out
  have z0 := K.cell q1 0 _ rfl
  have z1 := K.cell q1 1 _ rfl
  have Q1 := Lib.hid q1
  have B1 := Lib.hid (bthen (Joins.below_alloc1 w _) b1)
  clear b1 q1
  go_wp2_with fail
  refine Calls.mono (specPut32 _ _) ?_
  rintro e w2 ⟨A0, c0, rfl, o2, b2⟩
  have Q2 := Lib.hid (K.below b2 Q1.out)
  have B2 := Lib.hid (bthen B1.out b2)
  have O2 := Lib.hid (own_base o2 (show w.heap.size + 1 ≤ _ from K.lt Q1.out))
  clear b2 o2 Q1 B1 z0 z1 q SO
  go_wp2_with fail
  refine wp_region_facts (by kernel_rfl) 8 80 [(0, 16), (1, 17), (2, 18), (3, 19), (4, 20), (5, 21), (6, 22), (7, 23)] _ ([.val (.slice A0 4 c0), .val (.agg #[.int .i64 x.cls, .int .i64 x.label, .int .i64 x.hops, .int .i64 x.proto, .int .i64 x.src.k, .int .i64 x.src.a, .int .i64 x.src.b, .int .i64 x.src.c, .int .i64 x.src.d, .int .i64 x.dst.k, .int .i64 x.dst.a, .int .i64 x.dst.b, .int .i64 x.dst.c, .int .i64 x.dst.d, .slice A n c, .slice D m d]), .val (.int .i64 (z : Int)), .val (.pointer (some ⟨w.heap.size, 15, none⟩)), .val (.slice D m d), .val (.int .i64 (m : Int)), .val (.int .i64 ((z : Int) + m)), .rb 2 (put16 ((z : Int) + m))]) (by kernel_rfl) (by kernel_rfl) rfl rfl ?_ ?_
  · intro j o hj ho a' v K' hx hnd hB hK
    have hq := K.below hB Q2.out
    have k15 := K.cell hq 15 _ rfl
    match j, hj, ho with
    | 0, _, ho =>
      obtain rfl := Option.some.inj ho
      have h0 : a'.eval (.tmp 3) = .slice A0 4 c0 := (hx 3 (by decide)).trans rfl
      exact u_move _ _ rfl h0 (hK _ _ rfl (Below.refl _ _))
    | 1, _, ho =>
      obtain rfl := Option.some.inj ho
      have h0 : a'.eval (.tmp 1) = .pointer (some ⟨w.heap.size, 0, none⟩) := (hx 1 (by decide)).trans rfl
      exact wp_load_row 36 _ rfl w.heap.size h0 _ _ (0, 0) _ hq Try.underlying36 rfl info_six (hK _ _ rfl (Below.refl _ _))
    | 2, _, ho =>
      obtain rfl := Option.some.inj ho
      have h0 : a'.eval (.tmp 17) = .agg #[.int .i64 x.cls, .int .i64 x.label, .int .i64 x.hops, .int .i64 x.proto, .int .i64 x.src.k, .int .i64 x.src.a, .int .i64 x.src.b, .int .i64 x.src.c, .int .i64 x.src.d, .int .i64 x.dst.k, .int .i64 x.dst.a, .int .i64 x.dst.b, .int .i64 x.dst.c, .int .i64 x.dst.d, .slice A n c, .slice D m d] := (fact_of hnd 1 17 (by kernel_rfl) :)
      refine u_size _ _ _ rfl h0 (Calls.mono (sizeSB x A D n c m d ys v (HX.out.on (bthen B2.out hB)) HL.out HB.out HO.out z (by rw [HE.out]; exact HZ.out)) ?_)
      rintro e' v' ⟨rfl, b6⟩
      exact ⟨_, rfl, hK _ _ rfl b6⟩
    | 3, _, ho =>
      obtain rfl := Option.some.inj ho
      have h0 : a'.eval (.tmp 1) = .pointer (some ⟨w.heap.size, 0, none⟩) := (hx 1 (by decide)).trans rfl
      exact u_fldS7 _ _ rfl h0 (hK _ _ rfl (Below.refl _ _))
    | 4, _, ho =>
      obtain rfl := Option.some.inj ho
      have h0 : a'.eval (.tmp 19) = .pointer (some ⟨w.heap.size, 15, none⟩) := (fact_of hnd 3 19 (by kernel_rfl) :)
      exact u_bytes _ _ _ _ rfl h0 k15 (hK _ _ rfl (Below.refl _ _))
    | 5, _, ho =>
      obtain rfl := Option.some.inj ho
      have h0 : a'.eval (.tmp 20) = .slice D m d := (fact_of hnd 4 20 (by kernel_rfl) :)
      exact u_lenB _ _ _ _ rfl h0 (hK _ _ rfl (Below.refl _ _))
    | 6, _, ho =>
      obtain rfl := Option.some.inj ho
      have h0 : a'.eval (.tmp 18) = .int .i64 (z : Int) := (fact_of hnd 2 18 (by kernel_rfl) :)
      have h1 : a'.eval (.tmp 21) = .int .i64 (m : Int) := (fact_of hnd 5 21 (by kernel_rfl) :)
      exact u_add _ _ _ _ rfl h0 h1 (by omega) (by omega) (by omega) (by omega) (hK _ _ rfl (Below.refl _ _))
    | 7, _, ho =>
      obtain rfl := Option.some.inj ho
      have h0 : a'.eval (.tmp 22) = .int .i64 ((z : Int) + m) := (fact_of hnd 6 22 (by kernel_rfl) :)
      refine u_put16s _ _ _ rfl h0 (Calls.mono (put16S _ v) ?_)
      rintro e' v' ⟨X, y, rfl, o6, b6⟩
      exact ⟨_, rfl, hK _ _ ⟨X, y, rfl, RB.of_own o6⟩ b6⟩
    | j + 8, hj, _ => omega
  · intro f v hf hB
    have e0 : f 0 = (.slice A0 4 c0) := hf (0, 16) (by decide)
    have e1 : f 1 = (.agg #[.int .i64 x.cls, .int .i64 x.label, .int .i64 x.hops, .int .i64 x.proto, .int .i64 x.src.k, .int .i64 x.src.a, .int .i64 x.src.b, .int .i64 x.src.c, .int .i64 x.src.d, .int .i64 x.dst.k, .int .i64 x.dst.a, .int .i64 x.dst.b, .int .i64 x.dst.c, .int .i64 x.dst.d, .slice A n c, .slice D m d]) := hf (1, 17) (by decide)
    have e2 : f 2 = (.int .i64 (z : Int)) := hf (2, 18) (by decide)
    have e3 : f 3 = (.pointer (some ⟨w.heap.size, 15, none⟩)) := hf (3, 19) (by decide)
    have e4 : f 4 = (.slice D m d) := hf (4, 20) (by decide)
    have e5 : f 5 = (.int .i64 (m : Int)) := hf (5, 21) (by decide)
    have e6 : f 6 = (.int .i64 ((z : Int) + m)) := hf (6, 22) (by decide)
    obtain ⟨X23, y23, e7, r7⟩ := hf (7, 23) (by decide)
    have R23 := Lib.hid r7
    clear r7
    simp only [List.foldl_cons, List.foldl_nil, List.drop_succ_cons, List.drop_zero, e0, e1, e2, e3, e4, e5, e6, e7]
    clear e0 e1 e2 e3 e4 e5 e6 e7 hf
    go_simp
    have P2 := Lib.hid (own_below O2.out hB)
    have T2 := Lib.hid (K.below hB Q2.out)
    have D2 := Lib.hid (bthen B2.out hB)
    clear hB O2 Q2 B2
    go_wp2_with ((at_builtin; (refine wpList_append_b rfl (.tmp 16) (.tmp 23) rfl (w.heap.size + 1) (.slice A0 4 c0) (put32 (1610612736 + x.cls * 1048576 + x.label)) rfl (by rw [EL0.out]; exact P2.out) _ X23 2 y23 (put16 ((z : Int) + m)) rfl rfl R23.out (by have := EL1.out; rw [List.length_append] at this; omega) (K.lt T2.out) ?_); intro v3 w3 o3 g3 _; rw [EL1.out] at o3; obtain ⟨A3, c3, rfl⟩ := own_form o3; have O3 := Lib.hid o3; clear o3; have Q3 := Lib.hid (K.kept g3 T2.out (fun k hk => by have := (World.ownsRow.lt P2.out k hk).1; omega)); have B3 := Lib.hid (bgrown D2.out g3 (fun k hk => by have := (World.ownsRow.lt P2.out k hk).1; omega)); clear g3))
    refine wp_region_facts (by kernel_rfl) 7 80 [(0, 25), (1, 26), (2, 27), (3, 28), (4, 29), (5, 30), (6, 31)] _ ([.val (.slice A3 6 c3), .val (.agg #[.int .i64 x.cls, .int .i64 x.label, .int .i64 x.hops, .int .i64 x.proto, .int .i64 x.src.k, .int .i64 x.src.a, .int .i64 x.src.b, .int .i64 x.src.c, .int .i64 x.src.d, .int .i64 x.dst.k, .int .i64 x.dst.a, .int .i64 x.dst.b, .int .i64 x.dst.c, .int .i64 x.dst.d, .slice A n c, .slice D m d]), .val (.int .u8 k0), .val (.pointer (some ⟨w.heap.size, 2, none⟩)), .val (.int .i64 x.hops), .val (.int .u8 x.hops), .rb 2 [byteOf k0, byteOf x.hops]]) (by kernel_rfl) (by kernel_rfl) rfl rfl ?_ ?_
    · intro j o hj ho a' v K' hx hnd hB hK
      have hq := K.below hB Q3.out
      have k2 := K.cell hq 2 _ rfl
      match j, hj, ho with
      | 0, _, ho =>
        obtain rfl := Option.some.inj ho
        have h0 : a'.eval (.tmp 3) = .slice A3 6 c3 := (hx 3 (by decide)).trans rfl
        exact u_move _ _ rfl h0 (hK _ _ rfl (Below.refl _ _))
      | 1, _, ho =>
        obtain rfl := Option.some.inj ho
        have h0 : a'.eval (.tmp 1) = .pointer (some ⟨w.heap.size, 0, none⟩) := (hx 1 (by decide)).trans rfl
        exact wp_load_row 36 _ rfl w.heap.size h0 _ _ (0, 0) _ hq Try.underlying36 rfl info_six (hK _ _ rfl (Below.refl _ _))
      | 2, _, ho =>
        obtain rfl := Option.some.inj ho
        have h0 : a'.eval (.tmp 26) = .agg #[.int .i64 x.cls, .int .i64 x.label, .int .i64 x.hops, .int .i64 x.proto, .int .i64 x.src.k, .int .i64 x.src.a, .int .i64 x.src.b, .int .i64 x.src.c, .int .i64 x.src.d, .int .i64 x.dst.k, .int .i64 x.dst.a, .int .i64 x.dst.b, .int .i64 x.dst.c, .int .i64 x.dst.d, .slice A n c, .slice D m d] := (fact_of hnd 1 26 (by kernel_rfl) :)
        refine u_nexts _ _ _ _ _ rfl h0 rfl (Calls.mono (nextS x A D n c m d ys 0 0 rfl v (HX.out.on (bthen B3.out hB)) HL.out k0 (by rw [HE.out]; exact HK.out) hk1.1 hk1.2) ?_)
        rintro e' v' ⟨rfl, b6⟩
        exact ⟨_, rfl, hK _ _ rfl b6⟩
      | 3, _, ho =>
        obtain rfl := Option.some.inj ho
        have h0 : a'.eval (.tmp 1) = .pointer (some ⟨w.heap.size, 0, none⟩) := (hx 1 (by decide)).trans rfl
        exact u_fldS2 _ _ rfl h0 (hK _ _ rfl (Below.refl _ _))
      | 4, _, ho =>
        obtain rfl := Option.some.inj ho
        have h0 : a'.eval (.tmp 28) = .pointer (some ⟨w.heap.size, 2, none⟩) := (fact_of hnd 3 28 (by kernel_rfl) :)
        exact u_int _ _ _ _ rfl h0 k2 (hK _ _ rfl (Below.refl _ _))
      | 5, _, ho =>
        obtain rfl := Option.some.inj ho
        have h0 : a'.eval (.tmp 29) = .int .i64 x.hops := (fact_of hnd 4 29 (by kernel_rfl) :)
        exact u_byte _ _ rfl h0 hh0 hh1 (hK _ _ rfl (Below.refl _ _))
      | 6, _, ho =>
        obtain rfl := Option.some.inj ho
        have h0 : a'.eval (.tmp 27) = .int .u8 k0 := (fact_of hnd 2 27 (by kernel_rfl) :)
        have h1 : a'.eval (.tmp 30) = .int .u8 x.hops := (fact_of hnd 5 30 (by kernel_rfl) :)
        exact u_two _ _ _ _ rfl h0 h1 ⟨hk1.1, by omega⟩ ⟨hh0, by omega⟩ hK
      | j + 7, hj, _ => omega
    · intro f v hf hB
      have e0 : f 0 = (.slice A3 6 c3) := hf (0, 25) (by decide)
      have e1 : f 1 = (.agg #[.int .i64 x.cls, .int .i64 x.label, .int .i64 x.hops, .int .i64 x.proto, .int .i64 x.src.k, .int .i64 x.src.a, .int .i64 x.src.b, .int .i64 x.src.c, .int .i64 x.src.d, .int .i64 x.dst.k, .int .i64 x.dst.a, .int .i64 x.dst.b, .int .i64 x.dst.c, .int .i64 x.dst.d, .slice A n c, .slice D m d]) := hf (1, 26) (by decide)
      have e2 : f 2 = (.int .u8 k0) := hf (2, 27) (by decide)
      have e3 : f 3 = (.pointer (some ⟨w.heap.size, 2, none⟩)) := hf (3, 28) (by decide)
      have e4 : f 4 = (.int .i64 x.hops) := hf (4, 29) (by decide)
      have e5 : f 5 = (.int .u8 x.hops) := hf (5, 30) (by decide)
      obtain ⟨X31, y31, e6, r6⟩ := hf (6, 31) (by decide)
      have R31 := Lib.hid r6
      clear r6
      simp only [List.foldl_cons, List.foldl_nil, List.drop_succ_cons, List.drop_zero, e0, e1, e2, e3, e4, e5, e6]
      clear e0 e1 e2 e3 e4 e5 e6 hf
      go_simp
      have P3 := Lib.hid (own_below O3.out hB)
      have T3 := Lib.hid (K.below hB Q3.out)
      have D3 := Lib.hid (bthen B3.out hB)
      clear hB O3 Q3 B3
      go_wp2_with (first | (at_builtin; (refine wpList_append_b rfl (.tmp 25) (.tmp 31) rfl (w.heap.size + 1) (.slice A3 6 c3) (put32 (1610612736 + x.cls * 1048576 + x.label) ++ put16 ((z : Int) + m)) rfl (by rw [EL1.out]; exact P3.out) _ X31 2 y31 ([byteOf k0, byteOf x.hops]) rfl rfl R31.out (by have := EL2.out; rw [List.length_append] at this; omega) (K.lt T3.out) ?_); intro v4 w4 o4 g4 _; rw [EL2.out] at o4; obtain ⟨A4, c4, rfl⟩ := own_form o4; have O4 := Lib.hid o4; clear o4; have Q4 := Lib.hid (K.kept g4 T3.out (fun k hk => by have := (World.ownsRow.lt P3.out k hk).1; omega)); have B4 := Lib.hid (bgrown D3.out g4 (fun k hk => by have := (World.ownsRow.lt P3.out k hk).1; omega)); clear g4; have z4 := K.cell Q4.out 4 _ rfl; have z5 := K.cell Q4.out 5 _ rfl; have z6 := K.cell Q4.out 6 _ rfl; have z7 := K.cell Q4.out 7 _ rfl; have z8 := K.cell Q4.out 8 _ rfl))
      refine Calls.mono (addr6S x.src HAS.out.1 _) ?_
      rintro e u5 ⟨X5, y5, rfl, p5, b5⟩
      have P5 := Lib.hid (own_below O4.out b5)
      have T5 := Lib.hid (K.below b5 Q4.out)
      have D5 := Lib.hid (bthen B4.out b5)
      have R5 := Lib.hid (RB.of_own p5)
      clear p5 b5 z4 z5 z6 z7 z8 O4 Q4 B4
      go_wp2_with (first | (at_builtin; (refine wpList_append_b rfl (.tmp 33) (.tmp 36) rfl (w.heap.size + 1) (.slice A4 8 c4) (put32 (1610612736 + x.cls * 1048576 + x.label) ++ put16 ((z : Int) + m) ++ [byteOf k0, byteOf x.hops]) rfl (by rw [EL2.out]; exact P5.out) _ X5 16 y5 (x.src.bytes) rfl HAS.out.1 R5.out (by have := EL3.out; rw [List.length_append] at this; omega) (K.lt T5.out) ?_); intro v6 w6 o6 g6 _; rw [EL3.out] at o6; obtain ⟨A6, c6, rfl⟩ := own_form o6; have O6 := Lib.hid o6; clear o6; have Q6 := Lib.hid (K.kept g6 T5.out (fun k hk => by have := (World.ownsRow.lt P5.out k hk).1; omega)); have B6 := Lib.hid (bgrown D5.out g6 (fun k hk => by have := (World.ownsRow.lt P5.out k hk).1; omega)); clear g6; have z9 := K.cell Q6.out 9 _ rfl; have z10 := K.cell Q6.out 10 _ rfl; have z11 := K.cell Q6.out 11 _ rfl; have z12 := K.cell Q6.out 12 _ rfl; have z13 := K.cell Q6.out 13 _ rfl))
      refine Calls.mono (addr6S x.dst HAS.out.2 _) ?_
      rintro e u7 ⟨X7, y7, rfl, p7, b7⟩
      have P7 := Lib.hid (own_below O6.out b7)
      have T7 := Lib.hid (K.below b7 Q6.out)
      have D7 := Lib.hid (bthen B6.out b7)
      have R7 := Lib.hid (RB.of_own p7)
      clear p7 b7 z9 z10 z11 z12 z13 O6 Q6 B6
      go_wp2_with (first | (at_builtin; (refine wpList_append_b rfl (.tmp 38) (.tmp 41) rfl (w.heap.size + 1) (.slice A6 24 c6) (put32 (1610612736 + x.cls * 1048576 + x.label) ++ put16 ((z : Int) + m) ++ [byteOf k0, byteOf x.hops] ++ x.src.bytes) rfl (by rw [EL3.out]; exact P7.out) _ X7 16 y7 (x.dst.bytes) rfl HAS.out.2 R7.out (by have := EL4.out; rw [List.length_append] at this; omega) (K.lt T7.out) ?_); intro v8 w8 o8 g8 _; rw [EL4.out] at o8; obtain ⟨A8, c8, rfl⟩ := own_form o8; have O8 := Lib.hid o8; clear o8; have Q8 := Lib.hid (K.kept g8 T7.out (fun k hk => by have := (World.ownsRow.lt P7.out k hk).1; omega)); have B8 := Lib.hid (bgrown D7.out g8 (fun k hk => by have := (World.ownsRow.lt P7.out k hk).1; omega)); clear g8))
      go_loopw [3, 4] (fun r i wr => ∃ (k N : Nat) (Ak : Option Addr) (ck : Nat), k ≤ n ∧ i = .int .i64 k ∧ r = .slice Ak N ck ∧ Hid ((put32 (1610612736 + x.cls * 1048576 + x.label) ++ put16 ((z : Int) + m) ++ [byteOf k0, byteOf x.hops] ++ x.src.bytes ++ x.dst.bytes ++ extsAcc es x.proto k).length = N) ∧ N ≤ 40 + 64 * k ∧ Hid (wr.ownsRow (w.heap.size + 1) 5 1 (.slice Ak N ck) N (cellsOf (put32 (1610612736 + x.cls * 1048576 + x.label) ++ put16 ((z : Int) + m) ++ [byteOf k0, byteOf x.hops] ++ x.src.bytes ++ x.dst.bytes ++ extsAcc es x.proto k))) ∧ Hid (wr.heap[w.heap.size]? = some (.cells #[.int .i64 x.cls, .int .i64 x.label, .int .i64 x.hops, .int .i64 x.proto, .int .i64 x.src.k, .int .i64 x.src.a, .int .i64 x.src.b, .int .i64 x.src.c, .int .i64 x.src.d, .int .i64 x.dst.k, .int .i64 x.dst.a, .int .i64 x.dst.b, .int .i64 x.dst.c, .int .i64 x.dst.d, .slice A n c, .slice D m d] 36 (0, 0))) ∧ Hid (Below w.heap.size w wr)) (fun r i _ => n - (intOf i).toNat)
      case atStart => exact ⟨0, 40, _, _, Nat.zero_le _, rfl, rfl, Lib.hid (by rw [show extsAcc es x.proto 0 = [] from rfl, List.append_nil]; exact EL4.out), by omega, Lib.hid (by rw [show extsAcc es x.proto 0 = [] from rfl, List.append_nil]; exact O8.out), Q8, B8⟩
      case round =>
        obtain ⟨k, N, Ak, ck, hk, rfl, rfl, EN, hNb, OK, QK, BK⟩ := hrel
        by_cases hlt : k < n
        · have hk2 : k < ys.length := by rw [HL.out]; exact hlt
          have hke : k < es.length := by rw [HEL.out]; exact hlt
          obtain ⟨g, of, rfl, hg, _, _⟩ := HX.out.at_ hk2
          have e1 : ∀ v, Below w.heap.size w v → v.cell? ⟨g, of + k * 2, none⟩ = some (.int .i64 ys[k].k) ∧ v.cell? ⟨g, of + k * 2 + 1, none⟩ = some (.slice ys[k].A ys[k].bs.length ys[k].c) := by
            intro v hv
            obtain ⟨g', of', e, _, h1, h2⟩ := (HX.out.on hv).at_ hk2
            injection e with e
            injection e with e1 e2
            subst e1 e2
            exact ⟨h1, h2⟩
          have HE1 := Lib.hid e1
          have hext : extOk k es[k] = true := by
            have h := extsFrom_prefix (k + 1) 0 HF.out.1
            rw [extsFrom_take hke, Bool.and_eq_true] at h
            exact h.2
          have hsay : es[k] = ys[k].says := by
            have := HE.out
            subst this
            simp
          rw [hsay] at hext
          have hlen : ys[k].bs.length ≤ 62 ∧ ys[k].bs.length % 8 = 6 := by
            simp only [extOk, Bool.and_eq_true, Ey.says] at hext
            exact ⟨of_decide_eq_true hext.1.2, of_decide_eq_true hext.2⟩
          obtain ⟨kn, hkn0⟩ : ∃ q, nextKind es x.proto (k + 1) = q := ⟨_, rfl⟩
          have hkn := nextKind_small HF.out.1 HF.out.2 (k + 1)
          rw [hkn0] at hkn
          have HKN := Lib.hid hkn0
          have HACC := Lib.hid (show extsAcc es x.proto (k + 1) = extsAcc es x.proto k ++ [byteOf kn, byteOf ((2 + (ys[k].bs.length : Int)) / 8 - 1)] ++ ys[k].bs by rw [extsAcc_succ hke, hkn0, hsay]; rfl)
          have HR := Lib.hid (fun v (hv : Below w.heap.size w v) => (HX.out.on hv).body ys[k] (List.getElem_mem hk2))
          clear e1 hext hsay hkn0
          generalize ys[k] = y at *
          have EN1 := Lib.hid (show ((put32 (1610612736 + x.cls * 1048576 + x.label) ++ put16 ((z : Int) + m) ++ [byteOf k0, byteOf x.hops] ++ x.src.bytes ++ x.dst.bytes ++ extsAcc es x.proto k) ++ [byteOf kn, byteOf ((2 + (y.bs.length : Int)) / 8 - 1)]).length = N + 2 by rw [List.length_append, EN.out]; rfl)
          have EN2 := Lib.hid (show ((put32 (1610612736 + x.cls * 1048576 + x.label) ++ put16 ((z : Int) + m) ++ [byteOf k0, byteOf x.hops] ++ x.src.bytes ++ x.dst.bytes ++ extsAcc es x.proto k) ++ [byteOf kn, byteOf ((2 + (y.bs.length : Int)) / 8 - 1)] ++ y.bs).length = N + 2 + y.bs.length by rw [List.length_append, EN1.out])
          have z14 := K.cell QK.out 14 _ rfl
          go_wp2_with fail
          refine wp_region_facts (by kernel_rfl) 17 80 [(0, 50), (1, 51), (2, 52), (3, 53), (4, 54), (5, 55), (6, 56), (7, 57), (8, 58), (9, 59), (10, 60), (11, 61), (12, 62), (13, 63), (14, 64), (15, 65), (16, 66)] _ ([.val (.slice Ak N ck), .val (.agg #[.int .i64 x.cls, .int .i64 x.label, .int .i64 x.hops, .int .i64 x.proto, .int .i64 x.src.k, .int .i64 x.src.a, .int .i64 x.src.b, .int .i64 x.src.c, .int .i64 x.src.d, .int .i64 x.dst.k, .int .i64 x.dst.a, .int .i64 x.dst.b, .int .i64 x.dst.c, .int .i64 x.dst.d, .slice (some ⟨g, of, none⟩) n c, .slice D m d]), .val (.int .i64 (k : Int)), .val (.int .i64 ((k : Int) + 1)), .val (.int .u8 kn), .val (.pointer (some ⟨w.heap.size, 14, none⟩)), .val (.slice (some ⟨g, of, none⟩) n c), .val (.int .i64 (k : Int)), .val (.pointer (some ⟨g, of + k * 2, none⟩)), .val (.pointer (some ⟨g, of + k * 2 + 1, none⟩)), .val (.slice y.A y.bs.length y.c), .val (.int .i64 (y.bs.length : Int)), .val (.int .i64 (2 + (y.bs.length : Int))), .val (.int .i64 ((2 + (y.bs.length : Int)) / 8)), .val (.int .i64 ((2 + (y.bs.length : Int)) / 8 - 1)), .val (.int .u8 ((2 + (y.bs.length : Int)) / 8 - 1)), .rb 2 [byteOf kn, byteOf ((2 + (y.bs.length : Int)) / 8 - 1)]]) (by kernel_rfl) (by kernel_rfl) rfl rfl ?_ ?_
          · intro j o hj ho a' v K' hx hnd hB hK
            have hq := K.below hB QK.out
            have k14 := K.cell hq 14 _ rfl
            have kE := (HE1.out v (bthen BK.out hB)).2
            match j, hj, ho with
            | 0, _, ho =>
              obtain rfl := Option.some.inj ho
              have h0 : a'.eval (.tmp 3) = .slice Ak N ck := (hx 3 (by decide)).trans rfl
              exact u_move _ _ rfl h0 (hK _ _ rfl (Below.refl _ _))
            | 1, _, ho =>
              obtain rfl := Option.some.inj ho
              have h0 : a'.eval (.tmp 1) = .pointer (some ⟨w.heap.size, 0, none⟩) := (hx 1 (by decide)).trans rfl
              exact wp_load_row 36 _ rfl w.heap.size h0 _ _ (0, 0) _ hq Try.underlying36 rfl info_six (hK _ _ rfl (Below.refl _ _))
            | 2, _, ho =>
              obtain rfl := Option.some.inj ho
              have h0 : a'.eval (.tmp 4) = .int .i64 (k : Int) := (hx 4 (by decide)).trans rfl
              exact u_move _ _ rfl h0 (hK _ _ rfl (Below.refl _ _))
            | 3, _, ho =>
              obtain rfl := Option.some.inj ho
              have h0 : a'.eval (.tmp 52) = .int .i64 (k : Int) := (fact_of hnd 2 52 (by kernel_rfl) :)
              exact u_add _ _ _ _ rfl h0 rfl (by omega) (by omega) (by omega) (by omega) (hK _ _ rfl (Below.refl _ _))
            | 4, _, ho =>
              obtain rfl := Option.some.inj ho
              have h0 : a'.eval (.tmp 51) = .agg #[.int .i64 x.cls, .int .i64 x.label, .int .i64 x.hops, .int .i64 x.proto, .int .i64 x.src.k, .int .i64 x.src.a, .int .i64 x.src.b, .int .i64 x.src.c, .int .i64 x.src.d, .int .i64 x.dst.k, .int .i64 x.dst.a, .int .i64 x.dst.b, .int .i64 x.dst.c, .int .i64 x.dst.d, .slice (some ⟨g, of, none⟩) n c, .slice D m d] := (fact_of hnd 1 51 (by kernel_rfl) :)
              have h1 : a'.eval (.tmp 53) = .int .i64 ((k : Int) + 1) := (fact_of hnd 3 53 (by kernel_rfl) :)
              refine u_nexts _ _ _ _ _ rfl h0 h1 (Calls.mono (nextS x (some ⟨g, of, none⟩) D n c m d ys (k + 1) _ (by omega) v (HX.out.on (bthen BK.out hB)) HL.out kn (by rw [HE.out]; exact HKN.out) hkn.1 hkn.2) ?_)
              rintro e' v' ⟨rfl, b6⟩
              exact ⟨_, rfl, hK _ _ rfl b6⟩
            | 5, _, ho =>
              obtain rfl := Option.some.inj ho
              have h0 : a'.eval (.tmp 1) = .pointer (some ⟨w.heap.size, 0, none⟩) := (hx 1 (by decide)).trans rfl
              exact u_fldS6 _ _ rfl h0 (hK _ _ rfl (Below.refl _ _))
            | 6, _, ho =>
              obtain rfl := Option.some.inj ho
              have h0 : a'.eval (.tmp 55) = .pointer (some ⟨w.heap.size, 14, none⟩) := (fact_of hnd 5 55 (by kernel_rfl) :)
              exact u_exts _ _ _ _ rfl h0 k14 (hK _ _ rfl (Below.refl _ _))
            | 7, _, ho =>
              obtain rfl := Option.some.inj ho
              have h0 : a'.eval (.tmp 4) = .int .i64 (k : Int) := (hx 4 (by decide)).trans rfl
              exact u_move _ _ rfl h0 (hK _ _ rfl (Below.refl _ _))
            | 8, _, ho =>
              obtain rfl := Option.some.inj ho
              have h0 : a'.eval (.tmp 56) = .slice (some ⟨g, of, none⟩) n c := (fact_of hnd 6 56 (by kernel_rfl) :)
              have h1 : a'.eval (.tmp 57) = .int .i64 (k : Int) := (fact_of hnd 7 57 (by kernel_rfl) :)
              exact u_idxE _ _ _ _ _ _ _ rfl h0 h1 hlt (hK _ _ rfl (Below.refl _ _))
            | 9, _, ho =>
              obtain rfl := Option.some.inj ho
              have h0 : a'.eval (.tmp 58) = .pointer (some ⟨g, of + k * 2, none⟩) := (fact_of hnd 8 58 (by kernel_rfl) :)
              exact u_fldE1 _ _ _ rfl h0 (hK _ _ rfl (Below.refl _ _))
            | 10, _, ho =>
              obtain rfl := Option.some.inj ho
              have h0 : a'.eval (.tmp 59) = .pointer (some ⟨g, of + k * 2 + 1, none⟩) := (fact_of hnd 9 59 (by kernel_rfl) :)
              exact u_bytes _ _ _ _ rfl h0 kE (hK _ _ rfl (Below.refl _ _))
            | 11, _, ho =>
              obtain rfl := Option.some.inj ho
              have h0 : a'.eval (.tmp 60) = .slice y.A y.bs.length y.c := (fact_of hnd 10 60 (by kernel_rfl) :)
              exact u_lenB _ _ _ _ rfl h0 (hK _ _ rfl (Below.refl _ _))
            | 12, _, ho =>
              obtain rfl := Option.some.inj ho
              have h0 : a'.eval (.tmp 61) = .int .i64 (y.bs.length : Int) := (fact_of hnd 11 61 (by kernel_rfl) :)
              exact u_add _ _ _ _ rfl rfl h0 (by omega) (by omega) (by omega) (by omega) (hK _ _ rfl (Below.refl _ _))
            | 13, _, ho =>
              obtain rfl := Option.some.inj ho
              have h0 : a'.eval (.tmp 62) = .int .i64 (2 + (y.bs.length : Int)) := (fact_of hnd 12 62 (by kernel_rfl) :)
              exact u_quo8 _ _ _ rfl h0 rfl (by omega) (by omega) (hK _ _ rfl (Below.refl _ _))
            | 14, _, ho =>
              obtain rfl := Option.some.inj ho
              have h0 : a'.eval (.tmp 63) = .int .i64 ((2 + (y.bs.length : Int)) / 8) := (fact_of hnd 13 63 (by kernel_rfl) :)
              exact u_sub _ _ _ _ rfl h0 rfl (by omega) (by omega) (by omega) (by omega) (hK _ _ rfl (Below.refl _ _))
            | 15, _, ho =>
              obtain rfl := Option.some.inj ho
              have h0 : a'.eval (.tmp 64) = .int .i64 ((2 + (y.bs.length : Int)) / 8 - 1) := (fact_of hnd 14 64 (by kernel_rfl) :)
              exact u_byte _ _ rfl h0 (by omega) (by omega) (hK _ _ rfl (Below.refl _ _))
            | 16, _, ho =>
              obtain rfl := Option.some.inj ho
              have h0 : a'.eval (.tmp 54) = .int .u8 kn := (fact_of hnd 4 54 (by kernel_rfl) :)
              have h1 : a'.eval (.tmp 65) = .int .u8 ((2 + (y.bs.length : Int)) / 8 - 1) := (fact_of hnd 15 65 (by kernel_rfl) :)
              exact u_two _ _ _ _ rfl h0 h1 ⟨hkn.1, by omega⟩ ⟨by omega, by omega⟩ hK
            | j + 17, hj, _ => omega
          · intro f v hf hB
            have e0 : f 0 = (.slice Ak N ck) := hf (0, 50) (by decide)
            have e1 : f 1 = (.agg #[.int .i64 x.cls, .int .i64 x.label, .int .i64 x.hops, .int .i64 x.proto, .int .i64 x.src.k, .int .i64 x.src.a, .int .i64 x.src.b, .int .i64 x.src.c, .int .i64 x.src.d, .int .i64 x.dst.k, .int .i64 x.dst.a, .int .i64 x.dst.b, .int .i64 x.dst.c, .int .i64 x.dst.d, .slice (some ⟨g, of, none⟩) n c, .slice D m d]) := hf (1, 51) (by decide)
            have e2 : f 2 = (.int .i64 (k : Int)) := hf (2, 52) (by decide)
            have e3 : f 3 = (.int .i64 ((k : Int) + 1)) := hf (3, 53) (by decide)
            have e4 : f 4 = (.int .u8 kn) := hf (4, 54) (by decide)
            have e5 : f 5 = (.pointer (some ⟨w.heap.size, 14, none⟩)) := hf (5, 55) (by decide)
            have e6 : f 6 = (.slice (some ⟨g, of, none⟩) n c) := hf (6, 56) (by decide)
            have e7 : f 7 = (.int .i64 (k : Int)) := hf (7, 57) (by decide)
            have e8 : f 8 = (.pointer (some ⟨g, of + k * 2, none⟩)) := hf (8, 58) (by decide)
            have e9 : f 9 = (.pointer (some ⟨g, of + k * 2 + 1, none⟩)) := hf (9, 59) (by decide)
            have e10 : f 10 = (.slice y.A y.bs.length y.c) := hf (10, 60) (by decide)
            have e11 : f 11 = (.int .i64 (y.bs.length : Int)) := hf (11, 61) (by decide)
            have e12 : f 12 = (.int .i64 (2 + (y.bs.length : Int))) := hf (12, 62) (by decide)
            have e13 : f 13 = (.int .i64 ((2 + (y.bs.length : Int)) / 8)) := hf (13, 63) (by decide)
            have e14 : f 14 = (.int .i64 ((2 + (y.bs.length : Int)) / 8 - 1)) := hf (14, 64) (by decide)
            have e15 : f 15 = (.int .u8 ((2 + (y.bs.length : Int)) / 8 - 1)) := hf (15, 65) (by decide)
            obtain ⟨X66, y66, e16, r16⟩ := hf (16, 66) (by decide)
            have R66 := Lib.hid r16
            clear r16
            simp only [List.foldl_cons, List.foldl_nil, List.drop_succ_cons, List.drop_zero, e0, e1, e2, e3, e4, e5, e6, e7, e8, e9, e10, e11, e12, e13, e14, e15, e16]
            clear e0 e1 e2 e3 e4 e5 e6 e7 e8 e9 e10 e11 e12 e13 e14 e15 e16 hf
            go_simp
            have P9 := Lib.hid (own_below OK.out hB)
            have T9 := Lib.hid (K.below hB QK.out)
            have D9 := Lib.hid (bthen BK.out hB)
            clear hB OK QK BK z14
            go_wp2_with (first | (at_builtin; (refine wpList_append_b rfl (.tmp 50) (.tmp 66) rfl (w.heap.size + 1) (.slice Ak N ck) ((put32 (1610612736 + x.cls * 1048576 + x.label) ++ put16 ((z : Int) + m) ++ [byteOf k0, byteOf x.hops] ++ x.src.bytes ++ x.dst.bytes ++ extsAcc es x.proto k)) rfl (by rw [EN.out]; exact P9.out) _ X66 2 y66 ([byteOf kn, byteOf ((2 + (y.bs.length : Int)) / 8 - 1)]) rfl rfl R66.out (by have := EN1.out; rw [List.length_append] at this; omega) (K.lt T9.out) ?_); intro v9 w9 o9 g9 _; rw [EN1.out] at o9; obtain ⟨A9, c9, rfl⟩ := own_form o9; have O9 := Lib.hid o9; clear o9; have Q9 := Lib.hid (K.kept g9 T9.out (fun k hk => by have := (World.ownsRow.lt P9.out k hk).1; omega)); have B9 := Lib.hid (bgrown D9.out g9 (fun k hk => by have := (World.ownsRow.lt P9.out k hk).1; omega)); clear g9; have z14 := K.cell Q9.out 14 _ rfl; have zE := (HE1.out _ B9.out).2) | (at_builtin; (refine wpList_append_b rfl (.tmp 68) (.tmp 74) rfl (w.heap.size + 1) (.slice A9 (N + 2) c9) ((put32 (1610612736 + x.cls * 1048576 + x.label) ++ put16 ((z : Int) + m) ++ [byteOf k0, byteOf x.hops] ++ x.src.bytes ++ x.dst.bytes ++ extsAcc es x.proto k) ++ [byteOf kn, byteOf ((2 + (y.bs.length : Int)) / 8 - 1)]) rfl (by rw [EN1.out]; exact O9.out) _ y.A y.bs.length y.c (y.bs) rfl rfl (HR.out _ B9.out) (by have := EN2.out; rw [List.length_append] at this; omega) (K.lt Q9.out) ?_); intro v10 w10 o10 g10 _; rw [EN2.out] at o10; obtain ⟨A10, c10, rfl⟩ := own_form o10; have O10 := Lib.hid o10; clear o10; have Q10 := Lib.hid (K.kept g10 Q9.out (fun k hk => by have := (World.ownsRow.lt O9.out k hk).1; omega)); have B10 := Lib.hid (bgrown B9.out g10 (fun k hk => by have := (World.ownsRow.lt O9.out k hk).1; omega)); clear g10))
            go_roundw
            case rel =>
              have EN3 : (put32 (1610612736 + x.cls * 1048576 + x.label) ++ put16 ((z : Int) + m) ++ [byteOf k0, byteOf x.hops] ++ x.src.bytes ++ x.dst.bytes ++ extsAcc es x.proto (k + 1)).length = N + 2 + y.bs.length := by rw [HACC.out, ← List.append_assoc, ← List.append_assoc]; exact EN2.out
              refine ⟨k + 1, N + 2 + y.bs.length, _, _, by omega, by go_num, rfl, Lib.hid EN3, by omega, Lib.hid ?_, Q10, B10⟩
              rw [HACC.out, ← List.append_assoc, ← List.append_assoc]
              exact O10.out
            case measure => simp [intOf]; omega
        · obtain rfl : k = n := by omega
          have z14 := K.cell QK.out 14 _ rfl
          have z15 := K.cell QK.out 15 _ rfl
          have EF := Lib.hid (show ((put32 (1610612736 + x.cls * 1048576 + x.label) ++ put16 ((z : Int) + m) ++ [byteOf k0, byteOf x.hops] ++ x.src.bytes ++ x.dst.bytes ++ extsAcc es x.proto k) ++ bs).length = N + m by rw [List.length_append, EN.out, HM.out])
          go_wp2_with (first | (at_builtin; (refine wpList_append_b rfl (.tmp 76) (.tmp 78) rfl (w.heap.size + 1) (.slice Ak N ck) ((put32 (1610612736 + x.cls * 1048576 + x.label) ++ put16 ((z : Int) + m) ++ [byteOf k0, byteOf x.hops] ++ x.src.bytes ++ x.dst.bytes ++ extsAcc es x.proto k)) rfl (by rw [EN.out]; exact OK.out) _ D m d (bs) rfl HM.out ((HS.out.below BK.out).more BK.out.size) (by have := EF.out; rw [List.length_append] at this; omega) (K.lt QK.out) ?_); intro v11 w11 o11 g11 _; rw [EF.out] at o11; obtain ⟨A11, c11, rfl⟩ := own_form o11; have O11 := Lib.hid o11; clear o11; have Q11 := Lib.hid (K.kept g11 QK.out (fun k hk => by have := (World.ownsRow.lt OK.out k hk).1; omega)); have B11 := Lib.hid (bgrown BK.out g11 (fun k hk => by have := (World.ownsRow.lt OK.out k hk).1; omega)); clear g11))
          go_ret
          exact sbOut_yes (by rw [HE.out]; exact HOUT.out) EF.out O11.out B11.out
end Go.Proofs.Ytegpaocoepcemaa

namespace Go.Proofs.Ytegpaocoepcemaa
set_option maxRecDepth 100000
open Go.RowKit

theorem extsSizeB (A : Option Addr) (n c : Nat) (ys : List Ey) (w : World) (hx : XR w w.heap.size A ys) (hl : ys.length = n) (hn : n ≤ 1048576) (hb : bodies ys ≤ 1048576) (z : Nat) (hz : extsSize (ys.map Ey.says) = z) : Calls Try.prog 46 #[.slice A n c] w fun e w' => e = .returned (.int .i64 (z : Int)) ∧ Below w.heap.size w w' := hz ▸ extsSizeI A n c ys w hx hl hn hb
theorem nextIB (x : Sh) (A D : Option Addr) (n c m d : Nat) (ys : List Ey) (i : Nat) (z : Int) (hz : z = i) (w : World) (hx : XR w w.heap.size A ys) (hl : ys.length = n) (K : Int) (hk : nextKind (ys.map Ey.says) x.proto i = K) : Calls Try.prog 60 #[.agg #[.int .i64 x.cls, .int .i64 x.label, .int .i64 x.hops, .int .i64 x.proto, .int .i64 x.src.k, .int .i64 x.src.a, .int .i64 x.src.b, .int .i64 x.src.c, .int .i64 x.src.d, .int .i64 x.dst.k, .int .i64 x.dst.a, .int .i64 x.dst.b, .int .i64 x.dst.c, .int .i64 x.dst.d, .slice A n c, .slice D m d], .int .i64 z] w fun e w' => e = .returned (.int .i64 K) ∧ Below w.heap.size w w' := hk ▸ nextI x A D n c m d ys i z hz w hx hl
theorem put32I (n : Int) (w : World) : Calls Try.prog 58 #[.int .i64 n] w (TwoOut (put32 n) 4 w) := (implPut32 n w).mono fun _ _ ⟨h, o, b⟩ => ⟨_, _, h, o, b⟩
theorem addr6I (x : Ad) (h : x.bytes.length = 16) (w : World) : Calls Try.prog 61 #[.agg #[.int .i64 x.k, .int .i64 x.a, .int .i64 x.b, .int .i64 x.c, .int .i64 x.d]] w (TwoOut x.bytes 16 w) :=
  (implAddrBytes x w).mono fun _ _ ⟨A, c, he, o, b⟩ => by rw [h] at he o; exact ⟨A, c, he, o, b⟩
theorem or_six (a : Int) (ha : 0 ≤ a ∧ a ≤ 255) : bits .or .i64 1610612736 (a * 1048576) = 1610612736 + a * 1048576 := by
  obtain ⟨k, rfl⟩ := Int.eq_ofNat_of_zero_le ha.1
  have := or_mul 6 (k * 1048576) 28 (by omega) (by omega)
  rw [show (1610612736 : Int) = ((2 ^ 28 * 6 : Nat) : Int) by omega, show (k : Int) * 1048576 = ((k * 1048576 : Nat) : Int) by omega, this]
  omega
theorem or_label (a b : Int) (ha : 0 ≤ a ∧ a ≤ 255) (hb : 0 ≤ b ∧ b ≤ 1048575) : bits .or .i64 (1610612736 + a * 1048576) b = 1610612736 + a * 1048576 + b := by
  obtain ⟨k, rfl⟩ := Int.eq_ofNat_of_zero_le ha.1
  obtain ⟨l, rfl⟩ := Int.eq_ofNat_of_zero_le hb.1
  have := or_mul (1536 + k) l 20 (by omega) (by omega)
  rw [show 1610612736 + (k : Int) * 1048576 = ((2 ^ 20 * (1536 + k) : Nat) : Int) by omega, this]
  omega

section
variable {o : Oper} {a : Act} {w : World} {K : Act → World → Prop} {Q : Exit → Act → World → Prop}
theorem u_sizei (x : Operand) (u : Value) (ts : Array TypeId) (ho : o.op = .call { callee := .value (.func 46), args := #[x], argTypes := ts }) (hx : a.eval x = u)
    (h : Calls Try.prog 46 #[u] w fun e w' => ∃ v, e = .returned v ∧ K (a.put o.dst v) w') : o.wp Try.prog a w K Q := by
  unfold Oper.wp execOp
  simp only [ho, resolve, List.map_toArray, List.map_cons, List.map_nil, hx, show ∀ f, a.eval (.func f) = .func (.func f) #[] #[] from fun _ => rfl]
  go_simp
  exact h.mono fun e w' ⟨u, he, hk⟩ => by subst he; exact hk
end

set_option maxHeartbeats 1000000 in
theorem sbI_no (x : Sh) (A D : Option Addr) (n c m d : Nat) (ys : List Ey) (bs : List UInt8) (w : World) (hx : XR w w.heap.size A ys) (hl : ys.length = n) (hb : bodies ys ≤ 1048576) (hm : bs.length = m) (hn : n ≤ 1048576) (hok : x.ok (ys.map Ey.says) m = false) : Calls Try.prog 21 #[.agg #[.int .i64 x.cls, .int .i64 x.label, .int .i64 x.hops, .int .i64 x.proto, .int .i64 x.src.k, .int .i64 x.src.a, .int .i64 x.src.b, .int .i64 x.src.c, .int .i64 x.src.d, .int .i64 x.dst.k, .int .i64 x.dst.a, .int .i64 x.dst.b, .int .i64 x.dst.c, .int .i64 x.dst.d, .slice A n c, .slice D m d]] w (SBOut x (ys.map Ey.says) bs w) := by
  have SO := Lib.hid (fun w (hx : XR w w.heap.size A ys) => show Calls Try.prog 19 #[.agg #[.int .i64 x.cls, .int .i64 x.label, .int .i64 x.hops, .int .i64 x.proto, .int .i64 x.src.k, .int .i64 x.src.a, .int .i64 x.src.b, .int .i64 x.src.c, .int .i64 x.src.d, .int .i64 x.dst.k, .int .i64 x.dst.a, .int .i64 x.dst.b, .int .i64 x.dst.c, .int .i64 x.dst.d, .slice A n c, .slice D m d]] w fun e w' => e = .returned (.bool false) ∧ Below w.heap.size w w' from hok ▸ implSixOk x A D n c m d ys w hx hl hn hb)
  have H := Lib.hid (show x.ok (ys.map Ey.says) bs.length = false by rw [hm]; exact hok)
  have HX := Lib.hid (hx.on (Joins.below_alloc1 w (.cells #[.int .i64 x.cls, .int .i64 x.label, .int .i64 x.hops, .int .i64 x.proto, .int .i64 x.src.k, .int .i64 x.src.a, .int .i64 x.src.b, .int .i64 x.src.c, .int .i64 x.src.d, .int .i64 x.dst.k, .int .i64 x.dst.a, .int .i64 x.dst.b, .int .i64 x.dst.c, .int .i64 x.dst.d, .slice A n c, .slice D m d] 36)))
  clear hok hl hm hx hb
  have q := Lib.hid (K.new w (.cells #[.int .i64 x.cls, .int .i64 x.label, .int .i64 x.hops, .int .i64 x.proto, .int .i64 x.src.k, .int .i64 x.src.a, .int .i64 x.src.b, .int .i64 x.src.c, .int .i64 x.src.d, .int .i64 x.dst.k, .int .i64 x.dst.a, .int .i64 x.dst.b, .int .i64 x.dst.c, .int .i64 x.dst.d, .slice A n c, .slice D m d] 36))
  go_enter Try.func21, Try.ntmps21
  go_wp2_with (with_reducible refine loadS rfl _ rfl w.heap.size rfl q.out ?_)
  refine Calls.mono (SO.out _ HX.out) ?_
  rintro e w1 ⟨rfl, b1⟩
  have B := Lib.hid (bthen (Joins.below_alloc1 w _) b1)
  clear b1
  go_wp2
  go_ret
  exact sbOut_no H.out B.out

set_option maxHeartbeats 4000000 in
theorem sbI_yes (x : Sh) (A D : Option Addr) (n c m d : Nat) (ys : List Ey) (bs : List UInt8) (w : World) (hx : XR w w.heap.size A ys) (hl : ys.length = n) (hb : bodies ys ≤ 1048576) (hs : RB w w.heap.size D bs) (hm : bs.length = m) (hn : n ≤ 1048576) (hok : x.ok (ys.map Ey.says) m = true) : Calls Try.prog 21 #[.agg #[.int .i64 x.cls, .int .i64 x.label, .int .i64 x.hops, .int .i64 x.proto, .int .i64 x.src.k, .int .i64 x.src.a, .int .i64 x.src.b, .int .i64 x.src.c, .int .i64 x.src.d, .int .i64 x.dst.k, .int .i64 x.dst.a, .int .i64 x.dst.b, .int .i64 x.dst.c, .int .i64 x.dst.d, .slice A n c, .slice D m d]] w (SBOut x (ys.map Ey.says) bs w) := by
  obtain ⟨⟨⟨hc0, hc1⟩, ⟨hf0, hf1⟩, ⟨hh0, hh1⟩, hp, _⟩, hsrc, hdst, ⟨hn3, hfrom⟩, hroom⟩ := (x.ok_iff _ m).1 hok
  have SO := Lib.hid (fun w (hx : XR w w.heap.size A ys) => show Calls Try.prog 19 #[.agg #[.int .i64 x.cls, .int .i64 x.label, .int .i64 x.hops, .int .i64 x.proto, .int .i64 x.src.k, .int .i64 x.src.a, .int .i64 x.src.b, .int .i64 x.src.c, .int .i64 x.src.d, .int .i64 x.dst.k, .int .i64 x.dst.a, .int .i64 x.dst.b, .int .i64 x.dst.c, .int .i64 x.dst.d, .slice A n c, .slice D m d]] w fun e w' => e = .returned (.bool true) ∧ Below w.heap.size w w' from hok ▸ implSixOk x A D n c m d ys w hx hl hn hb)
  obtain ⟨es, hes⟩ : ∃ es, ys.map Ey.says = es := ⟨_, rfl⟩
  obtain ⟨z, hz⟩ : ∃ z, extsSize es = z := ⟨_, rfl⟩
  obtain ⟨k0, hk0⟩ : ∃ k, nextKind es x.proto 0 = k := ⟨_, rfl⟩
  rw [hes] at hok hn3 hfrom hroom
  have hel : es.length = n := by rw [← hes, List.length_map, hl]
  have hk1 := nextKind_small hfrom hp 0
  rw [hk0] at hk1
  have hz2 : z + m ≤ 1460 := by rw [← hz]; omega
  have hb1 : bs.length = m := hm
  have ea : x.src.bytes.length = 16 := adOk6_bytes hsrc
  have eb : x.dst.bytes.length = 16 := adOk6_bytes hdst
  rw [hel] at hn3
  have HOUT := Lib.hid (show x.bytes es bs = put32 (1610612736 + x.cls * 1048576 + x.label) ++ put16 ((z : Int) + m) ++ [byteOf k0, byteOf x.hops] ++ x.src.bytes ++ x.dst.bytes ++ extsAcc es x.proto n ++ bs by simp only [Sh.bytes, hb1, hok, if_true, Sh.head, hz, hk0, hel])
  have EL0 := Lib.hid (show (put32 (1610612736 + x.cls * 1048576 + x.label)).length = 4 from rfl)
  have EL0b := Lib.hid (show (([] : List UInt8) ++ put32 (1610612736 + x.cls * 1048576 + x.label)).length = 4 from rfl)
  have EL1 := Lib.hid (show (put32 (1610612736 + x.cls * 1048576 + x.label) ++ put16 ((z : Int) + m)).length = 6 from rfl)
  have EL2 := Lib.hid (show (put32 (1610612736 + x.cls * 1048576 + x.label) ++ put16 ((z : Int) + m) ++ [byteOf k0, byteOf x.hops]).length = 8 from rfl)
  have EL3 := Lib.hid (show (put32 (1610612736 + x.cls * 1048576 + x.label) ++ put16 ((z : Int) + m) ++ [byteOf k0, byteOf x.hops] ++ x.src.bytes).length = 24 by rw [List.length_append, EL2.out, ea])
  have EL4 := Lib.hid (show (put32 (1610612736 + x.cls * 1048576 + x.label) ++ put16 ((z : Int) + m) ++ [byteOf k0, byteOf x.hops] ++ x.src.bytes ++ x.dst.bytes).length = 40 by rw [List.length_append, EL3.out, eb])
  have EA := Lib.hid (fun k (hk : k ≤ n) => show (extsAcc es x.proto k).length = extsSize (es.take k) from extsAcc_length (by omega))
  have HE := Lib.hid hes
  have HZ := Lib.hid hz
  have HK := Lib.hid hk0
  have HEL := Lib.hid hel
  have HO := Lib.hid (show x.ok (ys.map Ey.says) m = true by rw [hes]; exact hok)
  have HX := Lib.hid hx
  have HL := Lib.hid hl
  have HB := Lib.hid hb
  have HS := Lib.hid hs
  have HM := Lib.hid hb1
  have HF := Lib.hid (And.intro hfrom hp)
  have HAS := Lib.hid (And.intro ea eb)
  clear hok hx hl hb hs hm hz hfrom hsrc hdst hroom hes hk0 hel hb1 ea eb hp
  have q := Lib.hid (K.new w (.cells #[.int .i64 x.cls, .int .i64 x.label, .int .i64 x.hops, .int .i64 x.proto, .int .i64 x.src.k, .int .i64 x.src.a, .int .i64 x.src.b, .int .i64 x.src.c, .int .i64 x.src.d, .int .i64 x.dst.k, .int .i64 x.dst.a, .int .i64 x.dst.b, .int .i64 x.dst.c, .int .i64 x.dst.d, .slice A n c, .slice D m d] 36))
  clear hn
  have oa := or_six x.cls ⟨hc0, hc1⟩
  have ob := or_label x.cls x.label ⟨hc0, hc1⟩ ⟨hf0, hf1⟩
  obtain ⟨M, hM⟩ : ∃ M : Nat, 40 + ((z : Int) + m) = M := ⟨40 + (z + m), by omega⟩
  have hM2 : M ≤ 1048576 := by omega
  have mk := run_make_z (40 + ((z : Int) + m)) M hM hM2
  have HMM := Lib.hid hM
  clear hM
  go_enter Try.func21, Try.ntmps21
  go_wp2_with (with_reducible refine loadS rfl _ rfl w.heap.size rfl q.out ?_)
  refine Calls.mono (SO.out _ (HX.out.on (Joins.below_alloc1 w _))) ?_
  rintro e w1 ⟨rfl, b1⟩
  have Q1 := Lib.hid (K.below b1 q.out)
  have B1 := Lib.hid (bthen (Joins.below_alloc1 w _) b1)
  clear b1 SO q
  go_wp2_with fail
  refine wp_region_facts (by kernel_rfl) 7 83 [(0, 10), (1, 11), (2, 12), (3, 13), (4, 14), (5, 15), (6, 16)] _ ([.val (.pointer (some ⟨w.heap.size, 14, none⟩)), .val (.slice A n c), .val (.int .i64 (z : Int)), .val (.pointer (some ⟨w.heap.size, 15, none⟩)), .val (.slice D m d), .val (.int .i64 (m : Int)), .val (.int .i64 ((z : Int) + m))]) (by kernel_rfl) (by kernel_rfl) rfl rfl ?_ ?_
  · intro j o hj ho a' v K' hx hnd hB hK
    have hq := K.below hB Q1.out
    have k14 := K.cell hq 14 _ rfl
    have k15 := K.cell hq 15 _ rfl
    match j, hj, ho with
    | 0, _, ho =>
      obtain rfl := Option.some.inj ho
      have h0 : a'.eval (.tmp 1) = .pointer (some ⟨w.heap.size, 0, none⟩) := (hx 1 (by decide)).trans rfl
      exact u_fldS6 _ _ rfl h0 (hK _ _ rfl (Below.refl _ _))
    | 1, _, ho =>
      obtain rfl := Option.some.inj ho
      have h0 : a'.eval (.tmp 10) = .pointer (some ⟨w.heap.size, 14, none⟩) := (fact_of hnd 0 10 (by kernel_rfl) :)
      exact u_exts _ _ _ _ rfl h0 k14 (hK _ _ rfl (Below.refl _ _))
    | 2, _, ho =>
      obtain rfl := Option.some.inj ho
      have h0 : a'.eval (.tmp 11) = .slice A n c := (fact_of hnd 1 11 (by kernel_rfl) :)
      refine u_sizei _ _ _ rfl h0 (Calls.mono (extsSizeB A n c ys v (HX.out.on (bthen B1.out hB)) HL.out (by omega) HB.out z (by rw [HE.out]; exact HZ.out)) ?_)
      rintro e' v' ⟨rfl, b6⟩
      exact ⟨_, rfl, hK _ _ rfl b6⟩
    | 3, _, ho =>
      obtain rfl := Option.some.inj ho
      have h0 : a'.eval (.tmp 1) = .pointer (some ⟨w.heap.size, 0, none⟩) := (hx 1 (by decide)).trans rfl
      exact u_fldS7 _ _ rfl h0 (hK _ _ rfl (Below.refl _ _))
    | 4, _, ho =>
      obtain rfl := Option.some.inj ho
      have h0 : a'.eval (.tmp 13) = .pointer (some ⟨w.heap.size, 15, none⟩) := (fact_of hnd 3 13 (by kernel_rfl) :)
      exact u_bytes _ _ _ _ rfl h0 k15 (hK _ _ rfl (Below.refl _ _))
    | 5, _, ho =>
      obtain rfl := Option.some.inj ho
      have h0 : a'.eval (.tmp 14) = .slice D m d := (fact_of hnd 4 14 (by kernel_rfl) :)
      exact u_lenB _ _ _ _ rfl h0 (hK _ _ rfl (Below.refl _ _))
    | 6, _, ho =>
      obtain rfl := Option.some.inj ho
      have h0 : a'.eval (.tmp 12) = .int .i64 (z : Int) := (fact_of hnd 2 12 (by kernel_rfl) :)
      have h1 : a'.eval (.tmp 15) = .int .i64 (m : Int) := (fact_of hnd 5 15 (by kernel_rfl) :)
      exact u_add _ _ _ _ rfl h0 h1 (by omega) (by omega) (by omega) (by omega) (hK _ _ rfl (Below.refl _ _))
    | j + 7, hj, _ => omega
  · intro f v hf hB
    have e0 : f 0 = (.pointer (some ⟨w.heap.size, 14, none⟩)) := hf (0, 10) (by decide)
    have e1 : f 1 = (.slice A n c) := hf (1, 11) (by decide)
    have e2 : f 2 = (.int .i64 (z : Int)) := hf (2, 12) (by decide)
    have e3 : f 3 = (.pointer (some ⟨w.heap.size, 15, none⟩)) := hf (3, 13) (by decide)
    have e4 : f 4 = (.slice D m d) := hf (4, 14) (by decide)
    have e5 : f 5 = (.int .i64 (m : Int)) := hf (5, 15) (by decide)
    have e6 : f 6 = (.int .i64 ((z : Int) + m)) := hf (6, 16) (by decide)
    simp only [List.foldl_cons, List.foldl_nil, List.drop_succ_cons, List.drop_zero, e0, e1, e2, e3, e4, e5, e6]
    clear e0 e1 e2 e3 e4 e5 e6 hf
    go_simp
    have T1 := Lib.hid (K.below hB Q1.out)
    have D1 := Lib.hid (bthen B1.out hB)
    clear hB Q1 B1
    have OM := Lib.hid (own_made_b v (w.heap.size + 1) M (K.lt T1.out) hM2)
    have Qm := Lib.hid (K.old T1.out (.cells (madeCells #[.int .u8 0] M) 5))
    have Bm := Lib.hid (bthen D1.out (Joins.below_alloc1 v (.cells (madeCells #[.int .u8 0] M) 5)))
    have z0 := K.cell Qm.out 0 _ rfl
    have z1 := K.cell Qm.out 1 _ rfl
    go_wp2_with fail
    refine Calls.mono (put32I _ _) ?_
    rintro e u2 ⟨X2, y2, rfl, p2, b2⟩
    have P2 := Lib.hid (own_below OM.out b2)
    have T2 := Lib.hid (K.below b2 Qm.out)
    have D2 := Lib.hid (bthen Bm.out b2)
    have R2 := Lib.hid (RB.of_own p2)
    clear p2 b2 z0 z1 OM Qm Bm T1 D1
    go_wp2_with (first | (at_builtin; (refine wpList_append_b rfl (.tmp 20) (.tmp 28) rfl (w.heap.size + 1) (.slice (some ⟨v.heap.size, 0, none⟩) 0 M) ([]) rfl (by rw [show ([] : List UInt8).length = 0 from rfl]; exact P2.out) _ X2 4 y2 (put32 (1610612736 + x.cls * 1048576 + x.label)) rfl rfl R2.out (by have := EL0b.out; rw [List.length_append] at this; omega) (K.lt T2.out) ?_); intro v3 w3 o3 g3 _; rw [EL0b.out] at o3; obtain ⟨A3, c3, rfl⟩ := own_form o3; have O3 := Lib.hid o3; clear o3; have Q3 := Lib.hid (K.kept g3 T2.out (fun k hk => by have := (World.ownsRow.lt P2.out k hk).1; omega)); have B3 := Lib.hid (bgrown D2.out g3 (fun k hk => by have := (World.ownsRow.lt P2.out k hk).1; omega)); clear g3))
    refine Calls.mono (put16I _ _) ?_
    rintro e u3 ⟨X3, y3, rfl, p3, b3⟩
    have P3 := Lib.hid (own_below O3.out b3)
    have T3 := Lib.hid (K.below b3 Q3.out)
    have D3 := Lib.hid (bthen B3.out b3)
    have R3 := Lib.hid (RB.of_own p3)
    clear p3 b3 O3 Q3 B3
    go_wp2_with (first | (at_builtin; (refine wpList_append_b rfl (.tmp 30) (.tmp 32) rfl (w.heap.size + 1) (.slice A3 4 c3) (put32 (1610612736 + x.cls * 1048576 + x.label)) rfl (by rw [EL0.out]; exact P3.out) _ X3 2 y3 (put16 ((z : Int) + m)) rfl rfl R3.out (by have := EL1.out; rw [List.length_append] at this; omega) (K.lt T3.out) ?_); intro v4 w4 o4 g4 _; rw [EL1.out] at o4; obtain ⟨A4, c4, rfl⟩ := own_form o4; have O4 := Lib.hid o4; clear o4; have Q4 := Lib.hid (K.kept g4 T3.out (fun k hk => by have := (World.ownsRow.lt P3.out k hk).1; omega)); have B4 := Lib.hid (bgrown D3.out g4 (fun k hk => by have := (World.ownsRow.lt P3.out k hk).1; omega)); clear g4))
    refine wp_region_facts (by kernel_rfl) 8 83 [(0, 34), (1, 35), (2, 36), (3, 37), (4, 38), (5, 39), (6, 40), (7, 41)] _ ([.val (.slice A4 6 c4), .val (.agg #[.int .i64 x.cls, .int .i64 x.label, .int .i64 x.hops, .int .i64 x.proto, .int .i64 x.src.k, .int .i64 x.src.a, .int .i64 x.src.b, .int .i64 x.src.c, .int .i64 x.src.d, .int .i64 x.dst.k, .int .i64 x.dst.a, .int .i64 x.dst.b, .int .i64 x.dst.c, .int .i64 x.dst.d, .slice A n c, .slice D m d]), .val (.int .i64 k0), .val (.int .u8 k0), .val (.pointer (some ⟨w.heap.size, 2, none⟩)), .val (.int .i64 x.hops), .val (.int .u8 x.hops), .rb 2 [byteOf k0, byteOf x.hops]]) (by kernel_rfl) (by kernel_rfl) rfl rfl ?_ ?_
    · intro j o hj ho a' v K' hx hnd hB hK
      have hq := K.below hB Q4.out
      have k2 := K.cell hq 2 _ rfl
      match j, hj, ho with
      | 0, _, ho =>
        obtain rfl := Option.some.inj ho
        have h0 : a'.eval (.tmp 4) = .slice A4 6 c4 := (hx 4 (by decide)).trans rfl
        exact u_move _ _ rfl h0 (hK _ _ rfl (Below.refl _ _))
      | 1, _, ho =>
        obtain rfl := Option.some.inj ho
        have h0 : a'.eval (.tmp 1) = .pointer (some ⟨w.heap.size, 0, none⟩) := (hx 1 (by decide)).trans rfl
        exact wp_load_row 36 _ rfl w.heap.size h0 _ _ (0, 0) _ hq Try.underlying36 rfl info_six (hK _ _ rfl (Below.refl _ _))
      | 2, _, ho =>
        obtain rfl := Option.some.inj ho
        have h0 : a'.eval (.tmp 35) = .agg #[.int .i64 x.cls, .int .i64 x.label, .int .i64 x.hops, .int .i64 x.proto, .int .i64 x.src.k, .int .i64 x.src.a, .int .i64 x.src.b, .int .i64 x.src.c, .int .i64 x.src.d, .int .i64 x.dst.k, .int .i64 x.dst.a, .int .i64 x.dst.b, .int .i64 x.dst.c, .int .i64 x.dst.d, .slice A n c, .slice D m d] := (fact_of hnd 1 35 (by kernel_rfl) :)
        refine u_nexti _ _ _ _ _ rfl h0 rfl (Calls.mono (nextIB x A D n c m d ys 0 0 rfl v (HX.out.on (bthen B4.out hB)) HL.out k0 (by rw [HE.out]; exact HK.out)) ?_)
        rintro e' v' ⟨rfl, b6⟩
        exact ⟨_, rfl, hK _ _ rfl b6⟩
      | 3, _, ho =>
        obtain rfl := Option.some.inj ho
        have h0 : a'.eval (.tmp 36) = .int .i64 k0 := (fact_of hnd 2 36 (by kernel_rfl) :)
        exact u_byte _ _ rfl h0 hk1.1 hk1.2 (hK _ _ rfl (Below.refl _ _))
      | 4, _, ho =>
        obtain rfl := Option.some.inj ho
        have h0 : a'.eval (.tmp 1) = .pointer (some ⟨w.heap.size, 0, none⟩) := (hx 1 (by decide)).trans rfl
        exact u_fldS2 _ _ rfl h0 (hK _ _ rfl (Below.refl _ _))
      | 5, _, ho =>
        obtain rfl := Option.some.inj ho
        have h0 : a'.eval (.tmp 38) = .pointer (some ⟨w.heap.size, 2, none⟩) := (fact_of hnd 4 38 (by kernel_rfl) :)
        exact u_int _ _ _ _ rfl h0 k2 (hK _ _ rfl (Below.refl _ _))
      | 6, _, ho =>
        obtain rfl := Option.some.inj ho
        have h0 : a'.eval (.tmp 39) = .int .i64 x.hops := (fact_of hnd 5 39 (by kernel_rfl) :)
        exact u_byte _ _ rfl h0 hh0 hh1 (hK _ _ rfl (Below.refl _ _))
      | 7, _, ho =>
        obtain rfl := Option.some.inj ho
        have h0 : a'.eval (.tmp 37) = .int .u8 k0 := (fact_of hnd 3 37 (by kernel_rfl) :)
        have h1 : a'.eval (.tmp 40) = .int .u8 x.hops := (fact_of hnd 6 40 (by kernel_rfl) :)
        exact u_two _ _ _ _ rfl h0 h1 ⟨hk1.1, by omega⟩ ⟨hh0, by omega⟩ hK
      | j + 8, hj, _ => omega
    · intro f v hf hB
      have e0 : f 0 = (.slice A4 6 c4) := hf (0, 34) (by decide)
      have e1 : f 1 = (.agg #[.int .i64 x.cls, .int .i64 x.label, .int .i64 x.hops, .int .i64 x.proto, .int .i64 x.src.k, .int .i64 x.src.a, .int .i64 x.src.b, .int .i64 x.src.c, .int .i64 x.src.d, .int .i64 x.dst.k, .int .i64 x.dst.a, .int .i64 x.dst.b, .int .i64 x.dst.c, .int .i64 x.dst.d, .slice A n c, .slice D m d]) := hf (1, 35) (by decide)
      have e2 : f 2 = (.int .i64 k0) := hf (2, 36) (by decide)
      have e3 : f 3 = (.int .u8 k0) := hf (3, 37) (by decide)
      have e4 : f 4 = (.pointer (some ⟨w.heap.size, 2, none⟩)) := hf (4, 38) (by decide)
      have e5 : f 5 = (.int .i64 x.hops) := hf (5, 39) (by decide)
      have e6 : f 6 = (.int .u8 x.hops) := hf (6, 40) (by decide)
      obtain ⟨X41, y41, e7, r7⟩ := hf (7, 41) (by decide)
      have R41 := Lib.hid r7
      clear r7
      simp only [List.foldl_cons, List.foldl_nil, List.drop_succ_cons, List.drop_zero, e0, e1, e2, e3, e4, e5, e6, e7]
      clear e0 e1 e2 e3 e4 e5 e6 e7 hf
      go_simp
      have P4 := Lib.hid (own_below O4.out hB)
      have T4 := Lib.hid (K.below hB Q4.out)
      have D4 := Lib.hid (bthen B4.out hB)
      clear hB O4 Q4 B4
      go_wp2_with (first | (at_builtin; (refine wpList_append_b rfl (.tmp 34) (.tmp 41) rfl (w.heap.size + 1) (.slice A4 6 c4) (put32 (1610612736 + x.cls * 1048576 + x.label) ++ put16 ((z : Int) + m)) rfl (by rw [EL1.out]; exact P4.out) _ X41 2 y41 ([byteOf k0, byteOf x.hops]) rfl rfl R41.out (by have := EL2.out; rw [List.length_append] at this; omega) (K.lt T4.out) ?_); intro v5 w5 o5 g5 _; rw [EL2.out] at o5; obtain ⟨A5, c5, rfl⟩ := own_form o5; have O5 := Lib.hid o5; clear o5; have Q5 := Lib.hid (K.kept g5 T4.out (fun k hk => by have := (World.ownsRow.lt P4.out k hk).1; omega)); have B5 := Lib.hid (bgrown D4.out g5 (fun k hk => by have := (World.ownsRow.lt P4.out k hk).1; omega)); clear g5; have z4 := K.cell Q5.out 4 _ rfl; have z5 := K.cell Q5.out 5 _ rfl; have z6 := K.cell Q5.out 6 _ rfl; have z7 := K.cell Q5.out 7 _ rfl; have z8 := K.cell Q5.out 8 _ rfl))
      refine Calls.mono (addr6I x.src HAS.out.1 _) ?_
      rintro e u6 ⟨X6, y6, rfl, p6, b6⟩
      have P6 := Lib.hid (own_below O5.out b6)
      have T6 := Lib.hid (K.below b6 Q5.out)
      have D6 := Lib.hid (bthen B5.out b6)
      have R6 := Lib.hid (RB.of_own p6)
      clear p6 b6 z4 z5 z6 z7 z8 O5 Q5 B5
      go_wp2_with (first | (at_builtin; (refine wpList_append_b rfl (.tmp 43) (.tmp 46) rfl (w.heap.size + 1) (.slice A5 8 c5) (put32 (1610612736 + x.cls * 1048576 + x.label) ++ put16 ((z : Int) + m) ++ [byteOf k0, byteOf x.hops]) rfl (by rw [EL2.out]; exact P6.out) _ X6 16 y6 (x.src.bytes) rfl HAS.out.1 R6.out (by have := EL3.out; rw [List.length_append] at this; omega) (K.lt T6.out) ?_); intro v7 w7 o7 g7 _; rw [EL3.out] at o7; obtain ⟨A7, c7, rfl⟩ := own_form o7; have O7 := Lib.hid o7; clear o7; have Q7 := Lib.hid (K.kept g7 T6.out (fun k hk => by have := (World.ownsRow.lt P6.out k hk).1; omega)); have B7 := Lib.hid (bgrown D6.out g7 (fun k hk => by have := (World.ownsRow.lt P6.out k hk).1; omega)); clear g7; have z9 := K.cell Q7.out 9 _ rfl; have z10 := K.cell Q7.out 10 _ rfl; have z11 := K.cell Q7.out 11 _ rfl; have z12 := K.cell Q7.out 12 _ rfl; have z13 := K.cell Q7.out 13 _ rfl))
      refine Calls.mono (addr6I x.dst HAS.out.2 _) ?_
      rintro e u8 ⟨X8, y8, rfl, p8, b8⟩
      have P8 := Lib.hid (own_below O7.out b8)
      have T8 := Lib.hid (K.below b8 Q7.out)
      have D8 := Lib.hid (bthen B7.out b8)
      have R8 := Lib.hid (RB.of_own p8)
      clear p8 b8 z9 z10 z11 z12 z13 O7 Q7 B7
      go_wp2_with (first | (at_builtin; (refine wpList_append_b rfl (.tmp 48) (.tmp 51) rfl (w.heap.size + 1) (.slice A7 24 c7) (put32 (1610612736 + x.cls * 1048576 + x.label) ++ put16 ((z : Int) + m) ++ [byteOf k0, byteOf x.hops] ++ x.src.bytes) rfl (by rw [EL3.out]; exact P8.out) _ X8 16 y8 (x.dst.bytes) rfl HAS.out.2 R8.out (by have := EL4.out; rw [List.length_append] at this; omega) (K.lt T8.out) ?_); intro v9 w9 o9 g9 _; rw [EL4.out] at o9; obtain ⟨A9, c9, rfl⟩ := own_form o9; have O9 := Lib.hid o9; clear o9; have Q9 := Lib.hid (K.kept g9 T8.out (fun k hk => by have := (World.ownsRow.lt P8.out k hk).1; omega)); have B9 := Lib.hid (bgrown D8.out g9 (fun k hk => by have := (World.ownsRow.lt P8.out k hk).1; omega)); clear g9; have z14 := K.cell Q9.out 14 _ rfl))
      clear z14
      go_loopw [4, 56] (fun r i wr => ∃ (k N : Nat) (Ak : Option Addr) (ck : Nat), k ≤ n ∧ i = .int .i64 k ∧ r = .slice Ak N ck ∧ Hid ((put32 (1610612736 + x.cls * 1048576 + x.label) ++ put16 ((z : Int) + m) ++ [byteOf k0, byteOf x.hops] ++ x.src.bytes ++ x.dst.bytes ++ extsAcc es x.proto k).length = N) ∧ N ≤ 40 + 64 * k ∧ Hid (wr.ownsRow (w.heap.size + 1) 5 1 (.slice Ak N ck) N (cellsOf (put32 (1610612736 + x.cls * 1048576 + x.label) ++ put16 ((z : Int) + m) ++ [byteOf k0, byteOf x.hops] ++ x.src.bytes ++ x.dst.bytes ++ extsAcc es x.proto k))) ∧ Hid (wr.heap[w.heap.size]? = some (.cells #[.int .i64 x.cls, .int .i64 x.label, .int .i64 x.hops, .int .i64 x.proto, .int .i64 x.src.k, .int .i64 x.src.a, .int .i64 x.src.b, .int .i64 x.src.c, .int .i64 x.src.d, .int .i64 x.dst.k, .int .i64 x.dst.a, .int .i64 x.dst.b, .int .i64 x.dst.c, .int .i64 x.dst.d, .slice A n c, .slice D m d] 36 (0, 0))) ∧ Hid (Below w.heap.size w wr)) (fun r i _ => n - (intOf i).toNat)
      case atStart => exact ⟨0, 40, _, _, Nat.zero_le _, rfl, rfl, Lib.hid (by rw [show extsAcc es x.proto 0 = [] from rfl, List.append_nil]; exact EL4.out), by omega, Lib.hid (by rw [show extsAcc es x.proto 0 = [] from rfl, List.append_nil]; exact O9.out), Q9, B9⟩
      case round =>
        obtain ⟨k, N, Ak, ck, hk, rfl, rfl, EN, hNb, OK, QK, BK⟩ := hrel
        by_cases hlt : k < n
        · have hk2 : k < ys.length := by rw [HL.out]; exact hlt
          have hke : k < es.length := by rw [HEL.out]; exact hlt
          obtain ⟨g, of, rfl, hg, _, _⟩ := HX.out.at_ hk2
          have e1 : ∀ v, Below w.heap.size w v → v.cell? ⟨g, of + k * 2, none⟩ = some (.int .i64 ys[k].k) ∧ v.cell? ⟨g, of + k * 2 + 1, none⟩ = some (.slice ys[k].A ys[k].bs.length ys[k].c) := by
            intro v hv
            obtain ⟨g', of', e, _, h1, h2⟩ := (HX.out.on hv).at_ hk2
            injection e with e
            injection e with e1 e2
            subst e1 e2
            exact ⟨h1, h2⟩
          have HE1 := Lib.hid e1
          have hext : extOk k es[k] = true := by
            have h := extsFrom_prefix (k + 1) 0 HF.out.1
            rw [extsFrom_take hke, Bool.and_eq_true] at h
            exact h.2
          have hsay : es[k] = ys[k].says := by
            have := HE.out
            subst this
            simp
          rw [hsay] at hext
          have hlen : ys[k].bs.length ≤ 62 ∧ ys[k].bs.length % 8 = 6 := by
            simp only [extOk, Bool.and_eq_true, Ey.says] at hext
            exact ⟨of_decide_eq_true hext.1.2, of_decide_eq_true hext.2⟩
          obtain ⟨kn, hkn0⟩ : ∃ q, nextKind es x.proto (k + 1) = q := ⟨_, rfl⟩
          have hkn := nextKind_small HF.out.1 HF.out.2 (k + 1)
          rw [hkn0] at hkn
          have HKN := Lib.hid hkn0
          have HACC := Lib.hid (show extsAcc es x.proto (k + 1) = extsAcc es x.proto k ++ [byteOf kn, byteOf ((2 + (ys[k].bs.length : Int)) / 8 - 1)] ++ ys[k].bs by rw [extsAcc_succ hke, hkn0, hsay]; rfl)
          have HR := Lib.hid (fun v (hv : Below w.heap.size w v) => (HX.out.on hv).body ys[k] (List.getElem_mem hk2))
          clear e1 hext hsay hkn0
          generalize ys[k] = y at *
          have EN1 := Lib.hid (show ((put32 (1610612736 + x.cls * 1048576 + x.label) ++ put16 ((z : Int) + m) ++ [byteOf k0, byteOf x.hops] ++ x.src.bytes ++ x.dst.bytes ++ extsAcc es x.proto k) ++ [byteOf kn, byteOf ((2 + (y.bs.length : Int)) / 8 - 1)]).length = N + 2 by rw [List.length_append, EN.out]; rfl)
          have EN2 := Lib.hid (show ((put32 (1610612736 + x.cls * 1048576 + x.label) ++ put16 ((z : Int) + m) ++ [byteOf k0, byteOf x.hops] ++ x.src.bytes ++ x.dst.bytes ++ extsAcc es x.proto k) ++ [byteOf kn, byteOf ((2 + (y.bs.length : Int)) / 8 - 1)] ++ y.bs).length = N + 2 + y.bs.length by rw [List.length_append, EN1.out])
          have cE0 := (HE1.out _ BK.out).1
          have cE1 := (HE1.out _ BK.out).2
          have QW := Lib.hid (show (wr.alloc (.cells #[.int .i64 y.k, .slice y.A y.bs.length y.c] 63)).heap[w.heap.size]? = _ from K.old QK.out _)
          have QE := Lib.hid (show (wr.alloc (.cells #[.int .i64 y.k, .slice y.A y.bs.length y.c] 63)).heap[wr.heap.size]? = some (.cells #[.int .i64 y.k, .slice y.A y.bs.length y.c] 63 (0, 0)) from K.new wr _)
          have BWR := Lib.hid (show Below wr.heap.size wr (wr.alloc (.cells #[.int .i64 y.k, .slice y.A y.bs.length y.c] 63)) from Joins.below_alloc1 wr _)
          have APART := Lib.hid (show ∀ k, (Value.slice Ak N ck).ownBlock = some k → wr.heap.size ≠ k from fun k hk => by have := (OK.out.lt k hk).2; omega)
          have BW := Lib.hid (bthen BK.out BWR.out)
          have OW := Lib.hid (own_below OK.out BWR.out)
          go_wp2_with fail
          refine wp_region_facts (by kernel_rfl) 12 83 [(0, 61), (1, 62), (2, 63), (3, 64), (4, 65), (5, 66), (6, 67), (7, 68), (8, 69), (9, 70), (10, 71), (11, 72)] _ ([.val (.slice Ak N ck), .val (.agg #[.int .i64 x.cls, .int .i64 x.label, .int .i64 x.hops, .int .i64 x.proto, .int .i64 x.src.k, .int .i64 x.src.a, .int .i64 x.src.b, .int .i64 x.src.c, .int .i64 x.src.d, .int .i64 x.dst.k, .int .i64 x.dst.a, .int .i64 x.dst.b, .int .i64 x.dst.c, .int .i64 x.dst.d, .slice (some ⟨g, of, none⟩) n c, .slice D m d]), .val (.int .i64 (k : Int)), .val (.int .i64 ((k : Int) + 1)), .val (.int .i64 kn), .val (.int .u8 kn), .val (.agg #[.int .i64 y.k, .slice y.A y.bs.length y.c]), .val (.int .i64 (2 + (y.bs.length : Int))), .val (.int .i64 ((2 + (y.bs.length : Int)) / 8)), .val (.int .i64 ((2 + (y.bs.length : Int)) / 8 - 1)), .val (.int .u8 ((2 + (y.bs.length : Int)) / 8 - 1)), .rb 2 [byteOf kn, byteOf ((2 + (y.bs.length : Int)) / 8 - 1)]]) (by kernel_rfl) (by kernel_rfl) rfl rfl ?_ ?_
          · intro j o hj ho a' v K' hx hnd hB hK
            have hq := K.below hB QW.out
            have hqe := K.below hB QE.out
            match j, hj, ho with
            | 0, _, ho =>
              obtain rfl := Option.some.inj ho
              have h0 : a'.eval (.tmp 4) = .slice Ak N ck := (hx 4 (by decide)).trans rfl
              exact u_move _ _ rfl h0 (hK _ _ rfl (Below.refl _ _))
            | 1, _, ho =>
              obtain rfl := Option.some.inj ho
              have h0 : a'.eval (.tmp 1) = .pointer (some ⟨w.heap.size, 0, none⟩) := (hx 1 (by decide)).trans rfl
              exact wp_load_row 36 _ rfl w.heap.size h0 _ _ (0, 0) _ hq Try.underlying36 rfl info_six (hK _ _ rfl (Below.refl _ _))
            | 2, _, ho =>
              obtain rfl := Option.some.inj ho
              have h0 : a'.eval (.tmp 5) = .int .i64 (k : Int) := (hx 5 (by decide)).trans rfl
              exact u_move _ _ rfl h0 (hK _ _ rfl (Below.refl _ _))
            | 3, _, ho =>
              obtain rfl := Option.some.inj ho
              have h0 : a'.eval (.tmp 63) = .int .i64 (k : Int) := (fact_of hnd 2 63 (by kernel_rfl) :)
              exact u_add _ _ _ _ rfl h0 rfl (by omega) (by omega) (by omega) (by omega) (hK _ _ rfl (Below.refl _ _))
            | 4, _, ho =>
              obtain rfl := Option.some.inj ho
              have h0 : a'.eval (.tmp 62) = .agg #[.int .i64 x.cls, .int .i64 x.label, .int .i64 x.hops, .int .i64 x.proto, .int .i64 x.src.k, .int .i64 x.src.a, .int .i64 x.src.b, .int .i64 x.src.c, .int .i64 x.src.d, .int .i64 x.dst.k, .int .i64 x.dst.a, .int .i64 x.dst.b, .int .i64 x.dst.c, .int .i64 x.dst.d, .slice (some ⟨g, of, none⟩) n c, .slice D m d] := (fact_of hnd 1 62 (by kernel_rfl) :)
              have h1 : a'.eval (.tmp 64) = .int .i64 ((k : Int) + 1) := (fact_of hnd 3 64 (by kernel_rfl) :)
              refine u_nexti _ _ _ _ _ rfl h0 h1 (Calls.mono (nextIB x (some ⟨g, of, none⟩) D n c m d ys (k + 1) _ (by omega) v (HX.out.on (bthen BW.out hB)) HL.out kn (by rw [HE.out]; exact HKN.out)) ?_)
              rintro e' v' ⟨rfl, b6⟩
              exact ⟨_, rfl, hK _ _ rfl b6⟩
            | 5, _, ho =>
              obtain rfl := Option.some.inj ho
              have h0 : a'.eval (.tmp 65) = .int .i64 kn := (fact_of hnd 4 65 (by kernel_rfl) :)
              exact u_byte _ _ rfl h0 hkn.1 hkn.2 (hK _ _ rfl (Below.refl _ _))
            | 6, _, ho =>
              obtain rfl := Option.some.inj ho
              have h0 : a'.eval (.tmp 6) = .pointer (some ⟨wr.heap.size, 0, none⟩) := (hx 6 (by decide)).trans rfl
              exact wp_load_row 63 _ rfl wr.heap.size h0 _ _ (0, 0) _ hqe Try.underlying63 rfl info_extn (hK _ _ rfl (Below.refl _ _))
            | 7, _, ho =>
              obtain rfl := Option.some.inj ho
              have h0 : a'.eval (.tmp 67) = .agg #[.int .i64 y.k, .slice y.A y.bs.length y.c] := (fact_of hnd 6 67 (by kernel_rfl) :)
              refine u_extsize _ _ _ rfl h0 (Calls.mono (extSizeC y v (by omega)) ?_)
              rintro e' v' ⟨rfl, b6⟩
              exact ⟨_, rfl, hK _ _ rfl b6⟩
            | 8, _, ho =>
              obtain rfl := Option.some.inj ho
              have h0 : a'.eval (.tmp 68) = .int .i64 (2 + (y.bs.length : Int)) := (fact_of hnd 7 68 (by kernel_rfl) :)
              exact u_quo8 _ _ _ rfl h0 rfl (by omega) (by omega) (hK _ _ rfl (Below.refl _ _))
            | 9, _, ho =>
              obtain rfl := Option.some.inj ho
              have h0 : a'.eval (.tmp 69) = .int .i64 ((2 + (y.bs.length : Int)) / 8) := (fact_of hnd 8 69 (by kernel_rfl) :)
              exact u_sub _ _ _ _ rfl h0 rfl (by omega) (by omega) (by omega) (by omega) (hK _ _ rfl (Below.refl _ _))
            | 10, _, ho =>
              obtain rfl := Option.some.inj ho
              have h0 : a'.eval (.tmp 70) = .int .i64 ((2 + (y.bs.length : Int)) / 8 - 1) := (fact_of hnd 9 70 (by kernel_rfl) :)
              exact u_byte _ _ rfl h0 (by omega) (by omega) (hK _ _ rfl (Below.refl _ _))
            | 11, _, ho =>
              obtain rfl := Option.some.inj ho
              have h0 : a'.eval (.tmp 66) = .int .u8 kn := (fact_of hnd 5 66 (by kernel_rfl) :)
              have h1 : a'.eval (.tmp 71) = .int .u8 ((2 + (y.bs.length : Int)) / 8 - 1) := (fact_of hnd 10 71 (by kernel_rfl) :)
              exact u_two _ _ _ _ rfl h0 h1 ⟨hkn.1, by omega⟩ ⟨by omega, by omega⟩ hK
            | j + 12, hj, _ => omega
          · intro f v hf hB
            have e0 : f 0 = (.slice Ak N ck) := hf (0, 61) (by decide)
            have e1 : f 1 = (.agg #[.int .i64 x.cls, .int .i64 x.label, .int .i64 x.hops, .int .i64 x.proto, .int .i64 x.src.k, .int .i64 x.src.a, .int .i64 x.src.b, .int .i64 x.src.c, .int .i64 x.src.d, .int .i64 x.dst.k, .int .i64 x.dst.a, .int .i64 x.dst.b, .int .i64 x.dst.c, .int .i64 x.dst.d, .slice (some ⟨g, of, none⟩) n c, .slice D m d]) := hf (1, 62) (by decide)
            have e2 : f 2 = (.int .i64 (k : Int)) := hf (2, 63) (by decide)
            have e3 : f 3 = (.int .i64 ((k : Int) + 1)) := hf (3, 64) (by decide)
            have e4 : f 4 = (.int .i64 kn) := hf (4, 65) (by decide)
            have e5 : f 5 = (.int .u8 kn) := hf (5, 66) (by decide)
            have e6 : f 6 = (.agg #[.int .i64 y.k, .slice y.A y.bs.length y.c]) := hf (6, 67) (by decide)
            have e7 : f 7 = (.int .i64 (2 + (y.bs.length : Int))) := hf (7, 68) (by decide)
            have e8 : f 8 = (.int .i64 ((2 + (y.bs.length : Int)) / 8)) := hf (8, 69) (by decide)
            have e9 : f 9 = (.int .i64 ((2 + (y.bs.length : Int)) / 8 - 1)) := hf (9, 70) (by decide)
            have e10 : f 10 = (.int .u8 ((2 + (y.bs.length : Int)) / 8 - 1)) := hf (10, 71) (by decide)
            obtain ⟨X72, y72, e11, r11⟩ := hf (11, 72) (by decide)
            have R72 := Lib.hid r11
            clear r11
            simp only [List.foldl_cons, List.foldl_nil, List.drop_succ_cons, List.drop_zero, e0, e1, e2, e3, e4, e5, e6, e7, e8, e9, e10, e11]
            clear e0 e1 e2 e3 e4 e5 e6 e7 e8 e9 e10 e11 hf
            go_simp
            have P9 := Lib.hid (own_below OW.out hB)
            have T9 := Lib.hid (K.below hB QW.out)
            have S9 := Lib.hid (K.below hB QE.out)
            have D9 := Lib.hid (bthen BW.out hB)
            clear hB OK QK BK OW QW QE BW cE0 cE1
            go_wp2_with (first | (at_builtin; (refine wpList_append_b rfl (.tmp 61) (.tmp 72) rfl (w.heap.size + 1) (.slice Ak N ck) ((put32 (1610612736 + x.cls * 1048576 + x.label) ++ put16 ((z : Int) + m) ++ [byteOf k0, byteOf x.hops] ++ x.src.bytes ++ x.dst.bytes ++ extsAcc es x.proto k)) rfl (by rw [EN.out]; exact P9.out) _ X72 2 y72 ([byteOf kn, byteOf ((2 + (y.bs.length : Int)) / 8 - 1)]) rfl rfl R72.out (by have := EN1.out; rw [List.length_append] at this; omega) (K.lt T9.out) ?_); intro v10 w10 o10 g10 _; rw [EN1.out] at o10; obtain ⟨A10, c10, rfl⟩ := own_form o10; have O10 := Lib.hid o10; clear o10; have Q10 := Lib.hid (K.kept g10 T9.out (fun k hk => by have := (World.ownsRow.lt P9.out k hk).1; omega)); have B10 := Lib.hid (bgrown D9.out g10 (fun k hk => by have := (World.ownsRow.lt P9.out k hk).1; omega)); have S10 := Lib.hid (K.kept g10 S9.out APART.out); clear g10; have zE := K.cell S10.out 1 _ rfl) | (at_builtin; (refine wpList_append_b rfl (.tmp 74) (.tmp 76) rfl (w.heap.size + 1) (.slice A10 (N + 2) c10) ((put32 (1610612736 + x.cls * 1048576 + x.label) ++ put16 ((z : Int) + m) ++ [byteOf k0, byteOf x.hops] ++ x.src.bytes ++ x.dst.bytes ++ extsAcc es x.proto k) ++ [byteOf kn, byteOf ((2 + (y.bs.length : Int)) / 8 - 1)]) rfl (by rw [EN1.out]; exact O10.out) _ y.A y.bs.length y.c (y.bs) rfl rfl (HR.out _ B10.out) (by have := EN2.out; rw [List.length_append] at this; omega) (K.lt Q10.out) ?_); intro v11 w11 o11 g11 _; rw [EN2.out] at o11; obtain ⟨A11, c11, rfl⟩ := own_form o11; have O11 := Lib.hid o11; clear o11; have Q11 := Lib.hid (K.kept g11 Q10.out (fun k hk => by have := (World.ownsRow.lt O10.out k hk).1; omega)); have B11 := Lib.hid (bgrown B10.out g11 (fun k hk => by have := (World.ownsRow.lt O10.out k hk).1; omega)); clear g11))
            go_roundw
            case rel =>
              have EN3 : (put32 (1610612736 + x.cls * 1048576 + x.label) ++ put16 ((z : Int) + m) ++ [byteOf k0, byteOf x.hops] ++ x.src.bytes ++ x.dst.bytes ++ extsAcc es x.proto (k + 1)).length = N + 2 + y.bs.length := by rw [HACC.out, ← List.append_assoc, ← List.append_assoc]; exact EN2.out
              refine ⟨k + 1, N + 2 + y.bs.length, _, _, by omega, by go_num, rfl, Lib.hid EN3, by omega, Lib.hid ?_, Q11, B11⟩
              rw [HACC.out, ← List.append_assoc, ← List.append_assoc]
              exact O11.out
            case measure => simp [intOf]; omega
        · obtain rfl : k = n := by omega
          have z15 := K.cell QK.out 15 _ rfl
          have EF := Lib.hid (show ((put32 (1610612736 + x.cls * 1048576 + x.label) ++ put16 ((z : Int) + m) ++ [byteOf k0, byteOf x.hops] ++ x.src.bytes ++ x.dst.bytes ++ extsAcc es x.proto k) ++ bs).length = N + m by rw [List.length_append, EN.out, HM.out])
          go_wp2_with (first | (at_builtin; (refine wpList_append_b rfl (.tmp 79) (.tmp 81) rfl (w.heap.size + 1) (.slice Ak N ck) ((put32 (1610612736 + x.cls * 1048576 + x.label) ++ put16 ((z : Int) + m) ++ [byteOf k0, byteOf x.hops] ++ x.src.bytes ++ x.dst.bytes ++ extsAcc es x.proto k)) rfl (by rw [EN.out]; exact OK.out) _ D m d (bs) rfl HM.out ((HS.out.below BK.out).more BK.out.size) (by have := EF.out; rw [List.length_append] at this; omega) (K.lt QK.out) ?_); intro v12 w12 o12 g12 _; rw [EF.out] at o12; obtain ⟨A12, c12, rfl⟩ := own_form o12; have O12 := Lib.hid o12; clear o12; have Q12 := Lib.hid (K.kept g12 QK.out (fun k hk => by have := (World.ownsRow.lt OK.out k hk).1; omega)); have B12 := Lib.hid (bgrown BK.out g12 (fun k hk => by have := (World.ownsRow.lt OK.out k hk).1; omega)); clear g12))
          go_ret
          exact sbOut_yes (by rw [HE.out]; exact HOUT.out) EF.out O12.out B12.out
end Go.Proofs.Ytegpaocoepcemaa

namespace Go.Proofs.Ytegpaocoepcemaa
set_option maxRecDepth 100000
open Go.RowKit

/-- Only blocks of S were written, and new ones made. -/
structure Touch (S : Nat → Prop) (w w' : World) : Prop where
  os : w'.os = w.os
  tape : w'.tape = w.tape
  output : w'.output = w.output
  size : w.heap.size ≤ w'.heap.size
  block : ∀ g, g < w.heap.size → ¬ S g → w'.heap[g]? = w.heap[g]?
section
variable {w w' w'' : World} {S : Nat → Prop}
theorem Touch.refl (S : Nat → Prop) (w : World) : Touch S w w := ⟨rfl, rfl, rfl, Nat.le_refl _, fun _ _ _ => rfl⟩
theorem Touch.trans (h : Touch S w w') (k : Touch S w' w'') : Touch S w w'' :=
  ⟨k.os.trans h.os, k.tape.trans h.tape, k.output.trans h.output, Nat.le_trans h.size k.size, fun g hg ho => (k.block g (Nat.lt_of_lt_of_le hg h.size) ho).trans (h.block g hg ho)⟩
theorem Touch.of_grown {row : Option Nat} (h : w.grownBy w' row) (hr : ∀ k, row = some k → S k) : Touch S w w' :=
  ⟨h.os, h.tape, h.output, h.size, fun g hg ho => h.block g hg (fun e => ho (hr g e.symm))⟩
theorem Touch.of_below (h : Below w.heap.size w w') : Touch S w w' := ⟨h.os, h.tape, h.output, h.size, fun g hg _ => h.block g hg⟩
theorem Touch.wide {T : Nat → Prop} (h : Touch S w w') (hs : ∀ g, S g → T g) : Touch T w w' := ⟨h.os, h.tape, h.output, h.size, fun g hg ho => h.block g hg (fun e => ho (hs g e))⟩
theorem Touch.kept {g : Nat} {o : Obj} (h : Touch S w w') (hr : w.heap[g]? = some o) (hg : ¬ S g) : w'.heap[g]? = some o := (h.block g (Array.getElem?_eq_some_iff.1 hr).1 hg).trans hr
theorem Touch.own {base : Nat} {e : TypeId} {size n : Nat} {v : Value} {xs : List Value} (h : Touch S w w') (ho : w.ownsRow base e size v n xs) (hv : ∀ k, v.ownBlock = some k → ¬ S k) : w'.ownsRow base e size v n xs := by
  refine ⟨ho.1, ?_⟩
  rcases ho.2 with h1 | ⟨g, cap, cur, hv', hb, hg, h2⟩
  · exact .inl h1
  · refine .inr ⟨g, cap, cur, hv', hb, ?_, h2⟩
    exact h.kept hg (hv g (by rw [hv']; rfl))
theorem Touch.below {W : World} (h : Touch S w w') (hb : Below W.heap.size W w) (hlo : ∀ g, S g → W.heap.size ≤ g) : Below W.heap.size W w' :=
  ⟨h.os.trans hb.os, h.tape.trans hb.tape, h.output.trans hb.output, Nat.le_trans hb.size h.size, fun g hg => (h.block g (Nat.lt_of_lt_of_le hg hb.size) (fun e => by have := hlo g e; omega)).trans (hb.block g hg)⟩
end
end Go.Proofs.Ytegpaocoepcemaa

namespace Go.Proofs.Ytegpaocoepcemaa
set_option maxRecDepth 100000
open Go.RowKit

set_option maxHeartbeats 400000 in
theorem markB0 (A : Option Addr) (c : Nat) (k : Int) (w : World) : Calls Try.prog 24 #[.slice A 0 c, .int .i64 k] w fun e w' => e = .returned (.int .i64 k) ∧ w = w' := by
  go_enter Try.func24, Try.ntmps24
  go_wp2
  go_loop [1, 5] (fun q i => i = .int .i64 0 ∧ q = .int .i64 k) (fun _ _ => 0)
  case atStart => exact ⟨rfl, rfl⟩
  case round =>
    obtain ⟨rfl, rfl⟩ := hrel
    go_wp2
    go_ret
    exact ⟨rfl, rfl⟩



end Go.Proofs.Ytegpaocoepcemaa

namespace Go.Proofs.Ytegpaocoepcemaa
set_option maxRecDepth 100000
open Go.RowKit

theorem marks_nil (k : Nat) : marks k 0 = [] := rfl
theorem markBz (A : Option Addr) (n c base : Nat) (bs : List UInt8) (k : Nat) (w : World) (hown : w.ownsRow base 5 1 (.slice A n c) n (cellsOf bs)) (hl : bs.length = n) (hn : n ≤ 1048576) (hk : n = 0 ∨ k ≤ 1048576) :
    Calls Try.prog 24 #[.slice A n c, .int .i64 (k : Int)] w fun e w' => e = .returned (.int .i64 ((k + n : Nat) : Int)) ∧ w'.ownsRow base 5 1 (.slice A n c) n (cellsOf (marks k n)) ∧ w.grownBy w' (Value.slice A n c).ownBlock := by
  rcases hk with rfl | hk
  · have e : bs = [] := List.length_eq_zero_iff.1 hl
    subst e
    exact (markB0 A c k w).mono fun _ _ ⟨he, hw⟩ => ⟨he, hw ▸ hown, hw ▸ K.refl _ _⟩
  · refine (markBn A n c base bs (k : Int) w hown hn (by omega) (by omega)).mono fun _ _ ⟨he, ho, hg⟩ => ⟨?_, ?_, hg⟩
    · rw [he]
      simp
    · simpa using ho

set_option maxHeartbeats 400000 in
theorem heldB0 (A : Option Addr) (c : Nat) (k : Int) (w : World) : Calls Try.prog 25 #[.slice A 0 c, .int .i64 k] w fun e w' => e = .returned (.int .i64 k) ∧ w = w' := by
  go_enter Try.func25, Try.ntmps25
  go_wp2
  go_loop [1, 5] (fun q i => i = .int .i64 0 ∧ q = .int .i64 k) (fun _ _ => 0)
  case atStart => exact ⟨rfl, rfl⟩
  case round =>
    obtain ⟨rfl, rfl⟩ := hrel
    go_wp2
    go_ret
    exact ⟨rfl, rfl⟩

/-- The blocks of a row of extension headers and of its bodies. -/
def xblocks (A : Option Addr) (n c : Nat) (ys : List Ey) (g : Nat) : Prop := (Value.slice A n c).ownBlock = some g ∨ ∃ z ∈ ys, z.body.ownBlock = some g
/-- What a marking from k on leaves. -/
def markedE : Nat → List Ey → List Ey
  | _, [] => []
  | k, y :: ys => ⟨k, marks (k + 1) y.bs.length, y.A, y.c⟩ :: markedE (k + 1 + y.bs.length) ys
theorem markedE_length (ys : List Ey) : ∀ k, (markedE k ys).length = ys.length := by
  induction ys with
  | nil => intro k; rfl
  | cons y ys ih => intro k; simp [markedE, ih]
theorem markedE_bodies (ys : List Ey) : ∀ k, bodies (markedE k ys) = bodies ys := by
  induction ys with
  | nil => intro k; rfl
  | cons y ys ih =>
    intro k
    have := ih (k + 1 + y.bs.length)
    simp only [bodies, markedE, List.map_cons, List.sum_cons, marks_length] at this ⊢
    omega
theorem markedE_snoc (ys : List Ey) (y : Ey) : ∀ k, markedE k (ys ++ [y]) = markedE k ys ++ [⟨((k + ys.length + bodies ys : Nat) : Int), marks (k + ys.length + bodies ys + 1) y.bs.length, y.A, y.c⟩] := by
  induction ys with
  | nil => intro k; simp [markedE, bodies]
  | cons x ys ih =>
    intro k
    have h := ih (k + 1 + x.bs.length)
    have e : k + 1 + x.bs.length + ys.length + bodies ys = k + (x :: ys).length + bodies (x :: ys) := by
      simp only [bodies, List.map_cons, List.sum_cons, List.length_cons]
      omega
    rw [List.cons_append, markedE, h, e]
    rfl
theorem marked_block (ys : List Ey) : ∀ (k : Nat) (z : Ey), z ∈ markedE k ys → ∃ y ∈ ys, z.body.ownBlock = y.body.ownBlock := by
  induction ys with
  | nil => intro k z hz; cases hz
  | cons y ys ih =>
    intro k z hz
    rcases List.mem_cons.1 hz with rfl | hz
    · exact ⟨y, by simp, by simp only [Ey.body, marks_length]⟩
    · obtain ⟨y', h1, h2⟩ := ih _ z hz
      exact ⟨y', by simp [h1], h2⟩
theorem xcells_kind (ys : List Ey) (y : Ey) (zs : List Ey) (k : Int) (ms : List UInt8) (hms : ms.length = y.bs.length) : (xcells (ys ++ y :: zs)).set (ys.length * 2) (.int .i64 k) = xcells (ys ++ ⟨k, ms, y.A, y.c⟩ :: zs) := by
  rw [xcells_append, xcells_append, xcells_cons, xcells_cons, set_mid _ _ _ _ _ (xcells_length ys)]
  simp only [hms]
theorem body_same (k : Int) (ms : List UInt8) (y : Ey) (h : ms.length = y.bs.length) : (⟨k, ms, y.A, y.c⟩ : Ey).body = y.body := by simp [Ey.body, h]

theorem XO.mark {w w2 : World} {base n c g : Nat} {pre post : List Ey} {y : Ey} {k : Int} {ms : List UInt8} (h : XO w base (some ⟨g, 0, none⟩) n c (pre ++ y :: post)) (hms : ms.length = y.bs.length)
    (hg : (w.setCell ⟨g, pre.length * 2, none⟩ (.int .i64 k)).grownBy w2 y.body.ownBlock) (ho : w2.ownsRow base 5 1 y.body y.bs.length (cellsOf ms)) : XO w2 base (some ⟨g, 0, none⟩) n c (pre ++ ⟨k, ms, y.A, y.c⟩ :: post) := by
  have hy : y ∈ pre ++ y :: post := by simp
  have hap := List.pairwise_append.1 h.apart
  have hap2 := List.pairwise_cons.1 hap.2.1
  have hgb : (Value.slice (some ⟨g, 0, none⟩) n c).ownBlock = some g := rfl
  have keep : ∀ z ∈ pre ++ y :: post, (∀ k, z.body.ownBlock = some k → y.body.ownBlock ≠ some k) → w2.ownsRow base 5 1 z.body z.bs.length (cellsOf z.bs) := by
    intro z hz hne
    refine own_grown (own_grown (h.own z hz) (grownBy_set w g _ _) (fun k hk e => h.off z hz k hk ?_)) hg hne
    rw [hgb]
    exact e
  refine ⟨by have := h.len; simpa using this, ?_, ?_, ?_, ?_⟩
  · have R := (h.row.stored (pre.length * 2) (.int .i64 k)).1
    rw [xcells_kind pre y post k ms hms] at R
    exact own_grown R hg (fun j hj e => h.off y hy j e hj)
  · intro z hz
    rcases List.mem_append.1 hz with hz | hz
    · exact keep z (by simp [hz]) (fun k hk => hap.2.2 z hz y (by simp) k hk)
    · rcases List.mem_cons.1 hz with rfl | hz
      · rw [body_same k ms y hms]
        simpa [hms] using ho
      · exact keep z (by simp [hz]) (fun k hk e => hap2.1 z hz k e hk)
  · rw [List.pairwise_append]
    refine ⟨hap.1, ?_, ?_⟩
    · rw [List.pairwise_cons]
      refine ⟨fun z hz => ?_, hap2.2⟩
      rw [body_same k ms y hms]
      exact hap2.1 z hz
    · intro a ha b hb
      rcases List.mem_cons.1 hb with rfl | hb
      · rw [body_same k ms y hms]
        exact hap.2.2 a ha y (by simp)
      · exact hap.2.2 a ha b (by simp [hb])
  · intro z hz
    rcases List.mem_append.1 hz with hz | hz
    · exact h.off z (by simp [hz])
    · rcases List.mem_cons.1 hz with rfl | hz
      · rw [body_same k ms y hms]
        exact h.off y hy
      · exact h.off z (by simp [hz])

theorem XO.alloc {w : World} {base : Nat} {A : Option Addr} {n c : Nat} {zs : List Ey} (h : XO w base A n c zs) (o : Obj) : XO (w.alloc o) base A n c zs := h.below (Joins.below_alloc1 w o)

set_option maxHeartbeats 1000000 in
theorem markExtS_C (A : Option Addr) (n c base : Nat) (ys : List Ey) (k0 : Nat) (w : World) (h : XO w base A n c ys) (hk : k0 + n + bodies ys ≤ 1048577) (hn : n ≤ 1048576) :
    Calls Try.prog 63 #[.slice A n c, .int .i64 (k0 : Int)] w fun e w' => e = .returned (.int .i64 ((k0 + n + bodies ys : Nat) : Int)) ∧ XO w' base A n c (markedE k0 ys) ∧ Touch (xblocks A n c ys) w w' := by
  have HL := Lib.hid h.len
  have H0 := Lib.hid h
  clear h
  go_enter Try.func63, Try.ntmps63
  go_wp2
  go_loopw [1, 5] (fun q i wr => ∃ j : Nat, j ≤ n ∧ i = .int .i64 j ∧ q = .int .i64 ((k0 + j + bodies (ys.take j) : Nat) : Int) ∧ Hid (XO wr base A n c (markedE k0 (ys.take j) ++ ys.drop j)) ∧ Hid (Touch (xblocks A n c ys) w wr)) (fun _ i _ => n - (intOf i).toNat)
  case atStart => exact ⟨0, Nat.zero_le _, rfl, by simp [bodies], Lib.hid (by simpa [markedE] using H0.out), Lib.hid (Touch.refl _ _)⟩
  case round =>
    obtain ⟨j, hj, rfl, rfl, hxo, ht⟩ := hrel
    by_cases hlt : j < n
    · have hj2 : j < ys.length := by rw [HL.out]; exact hlt
      obtain ⟨g, rfl, hgb⟩ := own_some hxo.out.row (by omega)
      have hd : ys.drop j = ys[j] :: ys.drop (j + 1) := List.drop_eq_getElem_cons hj2
      have hbt := bodies_take ys j hj2
      have hble := bodies_le ys (j + 1)
      have hsn : Hid (markedE k0 (ys.take (j + 1)) = markedE k0 (ys.take j) ++ [⟨((k0 + j + bodies (ys.take j) : Nat) : Int), marks (k0 + j + bodies (ys.take j) + 1) ys[j].bs.length, ys[j].A, ys[j].c⟩]) := Lib.hid (by
        rw [take_snoc ys j hj2, markedE_snoc]
        simp [Nat.min_eq_left (Nat.le_of_lt hj2)])
      obtain ⟨post, hpost⟩ : ∃ p, ys.drop (j + 1) = p := ⟨_, rfl⟩
      rw [hpost] at hd
      have HPO := Lib.hid hpost
      have HX := hxo.out
      rw [hd] at HX
      clear hd hpost
      have hpl : (markedE k0 (ys.take j)).length = j := by rw [markedE_length]; simp; omega
      have c0 := HX.row.cellAt (j * 2) (by omega)
      have f0 := HX.row.frozenAt (j * 2)
      obtain ⟨t0, ht0⟩ : ∃ t, (xcells (markedE k0 (ys.take j) ++ ys[j] :: post))[j * 2]? = some t := ⟨_, List.getElem?_eq_getElem (show j * 2 < (xcells (markedE k0 (ys.take j) ++ ys[j] :: post)).length by rw [xcells_length, List.length_append, hpl, List.length_cons]; omega)⟩
      rw [ht0] at c0
      have RS := (HX.row.stored (j * 2) (.int .i64 ((k0 + j + bodies (ys.take j) : Nat) : Int))).1
      have c1 := RS.cellAt (j * 2 + 1) (by omega)
      have e1 : ((xcells (markedE k0 (ys.take j) ++ ys[j] :: post)).set (j * 2) (.int .i64 ((k0 + j + bodies (ys.take j) : Nat) : Int)))[j * 2 + 1]? = some (.slice ys[j].A ys[j].bs.length ys[j].c) := by
        rw [List.getElem?_set_ne (by omega), xcells_get1 _ _ (by simp [hpl])]
        simp [hpl]
      rw [e1] at c1
      have HBO := Lib.hid (own_grown (HX.own ys[j] (by simp)) (grownBy_set wr g (j * 2) (.int .i64 ((k0 + j + bodies (ys.take j) : Nat) : Int))) (fun q hq e => HX.off ys[j] (by simp) q hq e))
      have HMK := Lib.hid (fun (w2 : World) (ms : List UInt8) (hms : ms.length = ys[j].bs.length) (hg : (wr.setCell ⟨g, j * 2, none⟩ (.int .i64 ((k0 + j + bodies (ys.take j) : Nat) : Int))).grownBy w2 ys[j].body.ownBlock) (ho : w2.ownsRow base 5 1 ys[j].body ys[j].bs.length (cellsOf ms)) => HX.mark (k := ((k0 + j + bodies (ys.take j) : Nat) : Int)) hms (by rw [hpl]; exact hg) ho)
      have HYL := Lib.hid (show ∀ q, ys[j].body.ownBlock = some q → xblocks (some ⟨g, 0, none⟩) n c ys q from fun q hq => .inr ⟨ys[j], List.getElem_mem hj2, hq⟩)
      have HGL := Lib.hid (show xblocks (some ⟨g, 0, none⟩) n c ys g from .inl rfl)
      obtain ⟨K1, hK1⟩ : ∃ K1, k0 + j + bodies (ys.take j) = K1 := ⟨_, rfl⟩
      rw [hK1] at c1 hsn HBO HMK
      have hKb : Hid (k0 + (j + 1) + bodies (ys.take (j + 1)) = K1 + 1 + ys[j].bs.length) := Lib.hid (by omega)
      have hz : ys[j].bs.length = 0 ∨ K1 + 1 ≤ 1048576 := by omega
      have hK2 : K1 ≤ 1048577 := by omega
      have hb2 : ys[j].bs.length ≤ 1048577 := by omega
      have hb3 : ys[j].bs.length ≤ 1048576 := by omega
      rw [hK1]
      clear RS e1 ht0 hbt hble HX hpl hgb hK1
      generalize ys[j] = y at *
      have hz' := Lib.hid hz
      clear hz
      go_wp2_with fail
      have MB := markBz y.A y.bs.length y.c base y.bs (K1 + 1) _ HBO.out rfl hb3 hz'.out
      refine Calls.mono MB ?_
      rintro e w2 ⟨rfl, o2, g2⟩
      have X2 := Lib.hid (HMK.out w2 _ (marks_length _ _) g2 o2)
      have T2 := Lib.hid ((ht.out.trans (Touch.of_grown (grownBy_set wr g (j * 2) _) (fun q hq => by cases hq; exact HGL.out))).trans (Touch.of_grown g2 HYL.out))
      clear o2 g2 MB
      go_wp2
      go_roundw
      case rel =>
        refine ⟨j + 1, by omega, by go_num, by rw [hKb.out]; congr 1, Lib.hid ?_, T2⟩
        rw [hsn.out, List.append_assoc, HPO.out]
        exact X2.out
      case measure => simp [intOf]; omega
    · obtain rfl : j = n := by omega
      have e1 : ys.take j = ys := List.take_of_length_le (by rw [HL.out]; exact Nat.le_refl _)
      have e2 : ys.drop j = [] := List.drop_eq_nil_of_le (by rw [HL.out]; exact Nat.le_refl _)
      have HX := hxo.out
      rw [e1, e2, List.append_nil] at HX
      have HX2 := Lib.hid HX
      rw [e1]
      clear e1 e2 HX hxo
      go_wp2
      go_ret
      exact ⟨rfl, HX2.out, ht.out⟩

theorem markedE_take (ys : List Ey) (k i : Nat) (h : i < ys.length) : (markedE k ys)[i]'(by rw [markedE_length]; exact h) = ⟨((k + i + bodies (ys.take i) : Nat) : Int), marks (k + i + bodies (ys.take i) + 1) ys[i].bs.length, ys[i].A, ys[i].c⟩ := by
  induction ys generalizing k i with
  | nil => simp at h
  | cons y ys ih =>
    cases i with
    | zero => simp [markedE, bodies]
    | succ i =>
      simp at h
      have e : k + 1 + y.bs.length + i + bodies (ys.take i) = k + (i + 1) + bodies ((y :: ys).take (i + 1)) := by
        simp only [bodies, List.take_succ_cons, List.map_cons, List.sum_cons]
        omega
      have := ih (k + 1 + y.bs.length) i h
      rw [e] at this
      simpa [markedE] using this

theorem heldBz (A : Option Addr) (n c : Nat) (k : Nat) (w : World) (hr : RB w w.heap.size A (marks k n)) (hn : n ≤ 1048576) (hk : n = 0 ∨ k ≤ 1048576) :
    Calls Try.prog 25 #[.slice A n c, .int .i64 (k : Int)] w fun e w' => e = .returned (.int .i64 ((k + n : Nat) : Int)) ∧ w = w' := by
  rcases hk with rfl | hk
  · exact (heldB0 A c k w).mono fun _ _ ⟨he, hw⟩ => ⟨he, hw⟩
  · refine (heldBn A n c (k : Int) w (by simpa using hr) hn (by omega) (by omega)).mono fun _ _ ⟨he, hw⟩ => ⟨?_, hw⟩
    rw [he]
    simp

set_option maxHeartbeats 1000000 in
theorem heldExtS_C (A : Option Addr) (n c : Nat) (ys : List Ey) (k0 : Nat) (w : World) (h : XR w w.heap.size A (markedE k0 ys)) (hl : ys.length = n) (hk : k0 + n + bodies ys ≤ 1048577) (hn : n ≤ 1048576) :
    Calls Try.prog 70 #[.slice A n c, .int .i64 (k0 : Int)] w fun e w' => e = .returned (.int .i64 ((k0 + n + bodies ys : Nat) : Int)) ∧ w = w' := by
  have HL := Lib.hid hl
  have H0 := Lib.hid h
  clear h hl
  go_enter Try.func70, Try.ntmps70
  go_wp2
  go_loopw [1, 5] (fun q i wr => ∃ j : Nat, j ≤ n ∧ i = .int .i64 j ∧ q = .int .i64 ((k0 + j + bodies (ys.take j) : Nat) : Int) ∧ wr = w) (fun _ i _ => n - (intOf i).toNat)
  case atStart => exact ⟨0, Nat.zero_le _, rfl, by simp [bodies], rfl⟩
  case round =>
    obtain ⟨j, hj, rfl, rfl, rfl⟩ := hrel
    by_cases hlt : j < n
    · have hj2 : j < ys.length := by rw [HL.out]; exact hlt
      have hj3 : j < (markedE k0 ys).length := by rw [markedE_length]; exact hj2
      have hbt := bodies_take ys j hj2
      have hble := bodies_le ys (j + 1)
      obtain ⟨g, o, rfl, hg, c0, c1⟩ := H0.out.at_ hj3
      have HR := Lib.hid (H0.out.body _ (List.getElem_mem hj3))
      rw [markedE_take ys k0 j hj2] at c0 c1 HR
      simp only [marks_length] at c0 c1 HR
      obtain ⟨K1, hK1⟩ : ∃ K1, k0 + j + bodies (ys.take j) = K1 := ⟨_, rfl⟩
      rw [hK1] at c0 HR
      have hKb : Hid (k0 + (j + 1) + bodies (ys.take (j + 1)) = K1 + 1 + ys[j].bs.length) := Lib.hid (by omega)
      have hz : Hid (ys[j].bs.length = 0 ∨ K1 + 1 ≤ 1048576) := Lib.hid (by omega)
      have hK2 : K1 ≤ 1048577 := by omega
      have hb2 : ys[j].bs.length ≤ 1048577 := by omega
      have hb3 : ys[j].bs.length ≤ 1048576 := by omega
      rw [hK1]
      clear hbt hble hK1
      generalize ys[j] = y at *
      go_wp2_with fail
      have MB := heldBz y.A y.bs.length y.c (K1 + 1) _ HR.out hb3 hz.out
      refine Calls.mono MB ?_
      rintro e w2 ⟨rfl, rfl⟩
      clear MB
      go_wp2
      go_roundw
      case rel => exact ⟨j + 1, by omega, by go_num, by rw [hKb.out]; congr 1, (by first | rfl | trivial)⟩
      case measure => simp [intOf]; omega
    · obtain rfl : j = n := by omega
      have e1 : ys.take j = ys := List.take_of_length_le (by rw [HL.out]; exact Nat.le_refl _)
      rw [e1]
      clear e1
      go_wp2
      go_ret
      exact ⟨rfl, rfl⟩

/-- The blocks of a packet. -/
def sblocks (A D : Option Addr) (n c m d : Nat) (ys : List Ey) (g : Nat) : Prop := xblocks A n c ys g ∨ (Value.slice D m d).ownBlock = some g

set_option maxHeartbeats 1000000 in
theorem markSixC (x : Sh) (A D : Option Addr) (n c m d base : Nat) (ys : List Ey) (bs : List UInt8) (w : World) (h : XO w base A n c ys) (ho : w.ownsRow base 5 1 (.slice D m d) m (cellsOf bs)) (hm : bs.length = m) (hap : ∀ k, (Value.slice D m d).ownBlock = some k → (Value.slice A n c).ownBlock ≠ some k ∧ ∀ z ∈ ys, z.body.ownBlock ≠ some k) (hn : n + bodies ys + m ≤ 1048576) :
    Calls Try.prog 23 #[.agg #[.int .i64 x.cls, .int .i64 x.label, .int .i64 x.hops, .int .i64 x.proto, .int .i64 x.src.k, .int .i64 x.src.a, .int .i64 x.src.b, .int .i64 x.src.c, .int .i64 x.src.d, .int .i64 x.dst.k, .int .i64 x.dst.a, .int .i64 x.dst.b, .int .i64 x.dst.c, .int .i64 x.dst.d, .slice A n c, .slice D m d], .int .i64 1] w fun e w' => e = .returned (.int .i64 ((1 + n + bodies ys + m : Nat) : Int)) ∧ XO w' base A n c (markedE 1 ys) ∧ w'.ownsRow base 5 1 (.slice D m d) m (cellsOf (marks (1 + n + bodies ys) m)) ∧ Touch (sblocks A D n c m d ys) w w' := by
  have HX := Lib.hid (fun o : Obj => h.alloc o)
  have HO := Lib.hid (fun o : Obj => ho.alloc o)
  have HM := Lib.hid hm
  have HAP := Lib.hid hap
  have HLT := Lib.hid h.lt
  have HOL := Lib.hid (fun k hk => (ho.lt k hk).2)
  clear h ho hm hap
  go_enter Try.func23, Try.ntmps23
  go_wp2_with fail
  refine Calls.mono (markExtS_C A n c base ys 1 _ (HX.out _) (by omega) (by omega)) ?_
  rintro e w1 ⟨rfl, x1, t1⟩
  have q1 := t1.kept (K.new w _) (fun hs => by
    rcases hs with hs | ⟨z, hz, hs⟩
    · have := (HLT.out.1 _ hs).2; omega
    · have := (HLT.out.2 z hz _ hs).2; omega)
  have d15 := K.cell q1 15 _ rfl
  have O1 := Lib.hid (t1.own (HO.out _) (fun k hk hs => by
    rcases hs with hs | ⟨z, hz, hs⟩
    · exact (HAP.out k hk).1 hs
    · exact (HAP.out k hk).2 z hz hs))
  have X1 := Lib.hid x1
  have T1 := Lib.hid ((Touch.of_below (S := sblocks A D n c m d ys) (Joins.below_alloc1 w _)).trans (t1.wide (fun g hg => .inl hg)))
  clear x1 t1 q1
  obtain ⟨K1, hK1⟩ : ∃ K1, 1 + n + bodies ys = K1 := ⟨_, rfl⟩
  have hKz : Hid (m = 0 ∨ K1 ≤ 1048576) := Lib.hid (by omega)
  have hK2 : K1 ≤ 1048577 := by omega
  have hm2 : m ≤ 1048576 := by omega
  have HK1 := Lib.hid hK1
  rw [hK1]
  clear hK1
  go_wp2_with fail
  refine Calls.mono (markBz D m d base bs K1 _ O1.out HM.out hm2 hKz.out) ?_
  rintro e w2 ⟨rfl, o2, g2⟩
  have X2 : Hid (XO w2 base A n c (markedE 1 ys)) := Lib.hid ⟨X1.out.len, own_grown X1.out.row g2 (fun k h1 h2 => (HAP.out k h2).1 h1), fun z hz => own_grown (X1.out.own z hz) g2 (fun k h1 h2 => by
    obtain ⟨y, hy, e⟩ := marked_block ys 1 z hz
    exact (HAP.out k h2).2 y hy (by rw [← e]; exact h1)), X1.out.apart, X1.out.off⟩
  have T2 := Lib.hid (T1.out.trans (Touch.of_grown g2 (fun k hk => .inr hk)))
  have O2 := Lib.hid o2
  clear o2 g2
  go_wp2
  go_ret
  exact ⟨ret_int (by have := HK1.out; omega), X2.out, by rw [HK1.out]; exact O2.out, T2.out⟩

set_option maxHeartbeats 1000000 in
theorem heldSixC (x : Sh) (A D : Option Addr) (n c m d : Nat) (ys : List Ey) (w : World) (h : XR w w.heap.size A (markedE 1 ys)) (hl : ys.length = n) (hr : RB w w.heap.size D (marks (1 + n + bodies ys) m)) (hn : n + bodies ys + m ≤ 1048576) :
    Calls Try.prog 29 #[.agg #[.int .i64 x.cls, .int .i64 x.label, .int .i64 x.hops, .int .i64 x.proto, .int .i64 x.src.k, .int .i64 x.src.a, .int .i64 x.src.b, .int .i64 x.src.c, .int .i64 x.src.d, .int .i64 x.dst.k, .int .i64 x.dst.a, .int .i64 x.dst.b, .int .i64 x.dst.c, .int .i64 x.dst.d, .slice A n c, .slice D m d], .int .i64 1] w fun e w' => e = .returned (.int .i64 ((1 + n + bodies ys + m : Nat) : Int)) ∧ Below w.heap.size w w' := by
  have HX := Lib.hid (fun o : Obj => h.on (Joins.below_alloc1 w o))
  have HR := Lib.hid (fun o : Obj => (hr.below (Joins.below_alloc1 w o)).more (show w.heap.size ≤ (w.alloc o).heap.size by simp))
  have HL := Lib.hid hl
  clear h hr hl
  go_enter Try.func29, Try.ntmps29
  go_wp2_with fail
  refine Calls.mono (heldExtS_C A n c ys 1 _ (HX.out _) HL.out (by omega) (by omega)) ?_
  rintro e w1 ⟨rfl, rfl⟩
  obtain ⟨K1, hK1⟩ : ∃ K1, 1 + n + bodies ys = K1 := ⟨_, rfl⟩
  have hKz : Hid (m = 0 ∨ K1 ≤ 1048576) := Lib.hid (by omega)
  have hK2 : K1 ≤ 1048577 := by omega
  have hm2 : m ≤ 1048576 := by omega
  have HK1 := Lib.hid hK1
  rw [hK1] at HR ⊢
  clear hK1
  go_wp2_with fail
  refine Calls.mono (heldBz D m d K1 _ (HR.out _) hm2 hKz.out) ?_
  rintro e w2 ⟨rfl, rfl⟩
  go_wp2
  go_ret
  exact ⟨ret_int (by have := HK1.out; omega), Joins.below_alloc1 w _⟩
end Go.Proofs.Ytegpaocoepcemaa
