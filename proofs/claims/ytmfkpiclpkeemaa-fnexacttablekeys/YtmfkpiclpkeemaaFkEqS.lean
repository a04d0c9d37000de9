/-
  The laws' own comparison of lists of structs.
-/
import Derived.Test.YtmfkpiclpkeemaaFkEq
import Derived.Test.YtmfkpiclpkeemaaRegFacts
namespace Go.Proofs.Ytmfkpiclpkeemaa
set_option maxRecDepth 100000
open Go.RowKit

set_option maxHeartbeats 1000000 in
theorem eqFlowKeyS_C (A D : Option Addr) (n c d : Nat) (rs : List Fk) (w : World) (hx : RV w w.heap.size A (fl Fk.cells rs)) (hy : RV w w.heap.size D (fl Fk.cells rs)) (hl : rs.length = n) (hn : n ≤ 1048576) :
    Calls Try.prog 37 #[.slice A n c, .slice D n d] w fun e w' => e = .returned (.bool true) ∧ Below w.heap.size w w' := by
  have HX := Lib.hid hx
  have HY := Lib.hid hy
  have HL := Lib.hid hl
  clear hx hy hl
  go_enter Try.func37, Try.ntmps37
  go_wp2
  go_loopw [5] (fun i wr => ∃ k : Nat, k ≤ n ∧ i = .int .i64 k ∧ Below w.heap.size w wr) (fun i _ => n - (intOf i).toNat)
  case atStart => exact ⟨0, Nat.zero_le _, rfl, Below.refl _ _⟩
  case round =>
    obtain ⟨k, hk, rfl, hb⟩ := hrel
    by_cases hlt : k < n
    · have hk1 : k < rs.length := by rw [HL.out]; exact hlt
      obtain ⟨g, o, rfl, hg, hc0⟩ := HX.out.flat Fk.cells_length (by omega) hk1
      obtain ⟨g', o', rfl, hg', hd0⟩ := HY.out.flat Fk.cells_length (by omega) hk1
      have hcc := Lib.hid (fun (v : World) (hv : Below wr.heap.size wr v) => (show v.rangeAt g (o + k * 14) rs[k].cells from fun j u hu => ((bthen hb hv).cell (p := ⟨g, o + k * 14 + j, none⟩) hg).trans (hc0 j u hu)))
      have hdd := Lib.hid (fun (v : World) (hv : Below wr.heap.size wr v) => (show v.rangeAt g' (o' + k * 14) rs[k].cells from fun j u hu => ((bthen hb hv).cell (p := ⟨g', o' + k * 14 + j, none⟩) hg').trans (hd0 j u hu)))
      clear hc0 hd0 hg hg'
      generalize rs[k] = y at *
      have HB := Lib.hid hb
      clear hb
      go_wp2_with fail
      refine wp_region_facts (by kernel_rfl) 9 27 [(0, 17), (1, 18), (2, 19), (3, 20), (4, 21), (5, 22), (6, 23), (7, 24), (8, 25)] _ ([.val (.slice (some ⟨g, o, none⟩) n c), .val (.int .i64 (k : Int)), .val (.pointer (some ⟨g, o + k * 14, none⟩)), .val (.agg #[.int .i64 y.tenant, .int .i64 y.key.src.k, .int .i64 y.key.src.a, .int .i64 y.key.src.b, .int .i64 y.key.src.c, .int .i64 y.key.src.d, .int .i64 y.key.dst.k, .int .i64 y.key.dst.a, .int .i64 y.key.dst.b, .int .i64 y.key.dst.c, .int .i64 y.key.dst.d, .int .i64 y.key.proto, .int .i64 y.key.sport, .int .i64 y.key.dport]), .val (.slice (some ⟨g', o', none⟩) n d), .val (.int .i64 (k : Int)), .val (.pointer (some ⟨g', o' + k * 14, none⟩)), .val (.agg #[.int .i64 y.tenant, .int .i64 y.key.src.k, .int .i64 y.key.src.a, .int .i64 y.key.src.b, .int .i64 y.key.src.c, .int .i64 y.key.src.d, .int .i64 y.key.dst.k, .int .i64 y.key.dst.a, .int .i64 y.key.dst.b, .int .i64 y.key.dst.c, .int .i64 y.key.dst.d, .int .i64 y.key.proto, .int .i64 y.key.sport, .int .i64 y.key.dport]), .val (.bool true)]) (by kernel_rfl) (by kernel_rfl) rfl rfl ?_ ?_
      · intro j o hj ho a' v K' hx hnd hB hK
        match j, hj, ho with
        | 0, _, ho =>
          obtain rfl := Option.some.inj ho
          have h0 : a'.eval (.tmp 0) = .slice (some ⟨g, o, none⟩) n c := (hx 0 (by decide)).trans rfl
          exact move_fk _ _ rfl h0 (hK _ _ rfl (Below.refl _ _))
        | 1, _, ho =>
          obtain rfl := Option.some.inj ho
          have h0 : a'.eval (.tmp 5) = .int .i64 (k : Int) := (hx 5 (by decide)).trans rfl
          exact move_fk _ _ rfl h0 (hK _ _ rfl (Below.refl _ _))
        | 2, _, ho =>
          obtain rfl := Option.some.inj ho
          have h0 : a'.eval (.tmp 17) = .slice (some ⟨g, o, none⟩) n c := (fact_of hnd 0 17 (by kernel_rfl) :)
          have h1 : a'.eval (.tmp 18) = .int .i64 (k : Int) := (fact_of hnd 1 18 (by kernel_rfl) :)
          exact idx_fk _ _ _ _ _ _ _ rfl h0 h1 hlt (hK _ _ rfl (Below.refl _ _))
        | 3, _, ho =>
          obtain rfl := Option.some.inj ho
          have h0 : a'.eval (.tmp 19) = .pointer (some ⟨g, o + k * 14, none⟩) := (fact_of hnd 2 19 (by kernel_rfl) :)
          exact ld_fk _ _ _ y rfl h0 (hcc.out _ hB) (hK _ _ rfl (Below.refl _ _))
        | 4, _, ho =>
          obtain rfl := Option.some.inj ho
          have h0 : a'.eval (.tmp 1) = .slice (some ⟨g', o', none⟩) n d := (hx 1 (by decide)).trans rfl
          exact move_fk _ _ rfl h0 (hK _ _ rfl (Below.refl _ _))
        | 5, _, ho =>
          obtain rfl := Option.some.inj ho
          have h0 : a'.eval (.tmp 5) = .int .i64 (k : Int) := (hx 5 (by decide)).trans rfl
          exact move_fk _ _ rfl h0 (hK _ _ rfl (Below.refl _ _))
        | 6, _, ho =>
          obtain rfl := Option.some.inj ho
          have h0 : a'.eval (.tmp 21) = .slice (some ⟨g', o', none⟩) n d := (fact_of hnd 4 21 (by kernel_rfl) :)
          have h1 : a'.eval (.tmp 22) = .int .i64 (k : Int) := (fact_of hnd 5 22 (by kernel_rfl) :)
          exact idx_fk _ _ _ _ _ _ _ rfl h0 h1 hlt (hK _ _ rfl (Below.refl _ _))
        | 7, _, ho =>
          obtain rfl := Option.some.inj ho
          have h0 : a'.eval (.tmp 23) = .pointer (some ⟨g', o' + k * 14, none⟩) := (fact_of hnd 6 23 (by kernel_rfl) :)
          exact ld_fk _ _ _ y rfl h0 (hdd.out _ hB) (hK _ _ rfl (Below.refl _ _))
        | 8, _, ho =>
          obtain rfl := Option.some.inj ho
          have h0 : a'.eval (.tmp 20) = .agg #[.int .i64 y.tenant, .int .i64 y.key.src.k, .int .i64 y.key.src.a, .int .i64 y.key.src.b, .int .i64 y.key.src.c, .int .i64 y.key.src.d, .int .i64 y.key.dst.k, .int .i64 y.key.dst.a, .int .i64 y.key.dst.b, .int .i64 y.key.dst.c, .int .i64 y.key.dst.d, .int .i64 y.key.proto, .int .i64 y.key.sport, .int .i64 y.key.dport] := (fact_of hnd 3 20 (by kernel_rfl) :)
          have h1 : a'.eval (.tmp 24) = .agg #[.int .i64 y.tenant, .int .i64 y.key.src.k, .int .i64 y.key.src.a, .int .i64 y.key.src.b, .int .i64 y.key.src.c, .int .i64 y.key.src.d, .int .i64 y.key.dst.k, .int .i64 y.key.dst.a, .int .i64 y.key.dst.b, .int .i64 y.key.dst.c, .int .i64 y.key.dst.d, .int .i64 y.key.proto, .int .i64 y.key.sport, .int .i64 y.key.dport] := (fact_of hnd 7 24 (by kernel_rfl) :)
          refine ceq_fk _ _ _ _ _ rfl h0 h1 (Calls.mono (eqFlowKeyC y _) ?_)
          rintro e' v' ⟨rfl, b6⟩
          exact ⟨_, rfl, hK _ _ rfl b6⟩
        | j + 9, hj, _ => omega
      · intro f v hf hB
        have e0 : f 0 = (.slice (some ⟨g, o, none⟩) n c) := hf (0, 17) (by decide)
        have e1 : f 1 = (.int .i64 (k : Int)) := hf (1, 18) (by decide)
        have e2 : f 2 = (.pointer (some ⟨g, o + k * 14, none⟩)) := hf (2, 19) (by decide)
        have e3 : f 3 = (.agg #[.int .i64 y.tenant, .int .i64 y.key.src.k, .int .i64 y.key.src.a, .int .i64 y.key.src.b, .int .i64 y.key.src.c, .int .i64 y.key.src.d, .int .i64 y.key.dst.k, .int .i64 y.key.dst.a, .int .i64 y.key.dst.b, .int .i64 y.key.dst.c, .int .i64 y.key.dst.d, .int .i64 y.key.proto, .int .i64 y.key.sport, .int .i64 y.key.dport]) := hf (3, 20) (by decide)
        have e4 : f 4 = (.slice (some ⟨g', o', none⟩) n d) := hf (4, 21) (by decide)
        have e5 : f 5 = (.int .i64 (k : Int)) := hf (5, 22) (by decide)
        have e6 : f 6 = (.pointer (some ⟨g', o' + k * 14, none⟩)) := hf (6, 23) (by decide)
        have e7 : f 7 = (.agg #[.int .i64 y.tenant, .int .i64 y.key.src.k, .int .i64 y.key.src.a, .int .i64 y.key.src.b, .int .i64 y.key.src.c, .int .i64 y.key.src.d, .int .i64 y.key.dst.k, .int .i64 y.key.dst.a, .int .i64 y.key.dst.b, .int .i64 y.key.dst.c, .int .i64 y.key.dst.d, .int .i64 y.key.proto, .int .i64 y.key.sport, .int .i64 y.key.dport]) := hf (7, 24) (by decide)
        have e8 : f 8 = (.bool true) := hf (8, 25) (by decide)
        simp only [List.foldl_cons, List.foldl_nil, List.drop_succ_cons, List.drop_zero, e0, e1, e2, e3, e4, e5, e6, e7, e8]
        clear e0 e1 e2 e3 e4 e5 e6 e7 e8 hf
        go_simp
        have B2 := Lib.hid (bthen HB.out hB)
        clear hB
        go_wp2
        go_roundw
        case rel => exact ⟨k + 1, by omega, by go_num, B2.out⟩
        case measure => simp [intOf]; omega
    · go_wp2
      go_ret
      exact ⟨rfl, hb⟩
end Go.Proofs.Ytmfkpiclpkeemaa
