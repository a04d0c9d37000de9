/-
  The laws' own comparison of IPv6 packets.
-/
import Derived.Test.YtkmijefheejcjaaSix2
import Derived.Lib.QuietBelow
import Derived.Deep.QuietTactic
import Derived.BigQuiet
namespace Go.Proofs.Ytkmijefheejcjaa
set_option maxRecDepth 100000
open Go.RowKit

set_option maxHeartbeats 400000 in
theorem eqExtC (y z : Ey) (w : World) (he : y.says = z.says) (hy : RB w w.heap.size y.A y.bs) (hz : RB w w.heap.size z.A z.bs) (hn : y.bs.length ≤ 1048576) :
    Calls Try.prog 130 #[.agg #[.int .i64 y.k, .slice y.A y.bs.length y.c], .agg #[.int .i64 z.k, .slice z.A z.bs.length z.c]] w fun e w' => e = .returned (.bool true) ∧ Below w.heap.size w w' := by
  obtain ⟨yk, ys, yA, yc⟩ := y
  obtain ⟨zk, zs, zA, zc⟩ := z
  simp only [Ey.says, Prod.mk.injEq] at he
  obtain ⟨rfl, rfl⟩ := he
  simp only at hy hz hn
  have HY := Lib.hid hy
  have HZ := Lib.hid hz
  clear hy hz
  go_enter Try.func130, Try.ntmps130
  go_wp2_with fail
  refine Calls.mono (eqBn yA zA ys.length yc zc ys _ ((HY.out.below (by go_grown)).more (by first | (simp; done) | (simp; omega))) ((HZ.out.below (by go_grown)).more (by first | (simp; done) | (simp; omega))) rfl hn) ?_
  rintro e1 w1 ⟨rfl, b1⟩
  go_wp2
  go_ret
  exact ⟨rfl, bthen (by go_grown) b1⟩

set_option maxHeartbeats 1000000 in
theorem eqExtS_C (A D : Option Addr) (n c d : Nat) (ys zs : List Ey) (w : World) (he : ys.map Ey.says = zs.map Ey.says) (hx : XR w w.heap.size A ys) (hy : XR w w.heap.size D zs) (hl : ys.length = n) (hn : n ≤ 1048576) (hb : bodies ys ≤ 1048576) :
    Calls Try.prog 93 #[.slice A n c, .slice D n d] w fun e w' => e = .returned (.bool true) ∧ Below w.heap.size w w' := by
  have HX := Lib.hid hx
  have HY := Lib.hid hy
  have HL := Lib.hid hl
  have HE := Lib.hid he
  have HL2 := Lib.hid (show zs.length = n by have := congrArg List.length he; simp at this; omega)
  have HB := Lib.hid hb
  clear hx hy hl he hb
  go_enter Try.func93, Try.ntmps93
  go_wp2
  go_loopw [5] (fun i wr => ∃ k : Nat, k ≤ n ∧ i = .int .i64 k ∧ Below w.heap.size w wr) (fun i _ => n - (intOf i).toNat)
  case atStart => exact ⟨0, Nat.zero_le _, rfl, Below.refl _ _⟩
  case round =>
    obtain ⟨k, hk, rfl, hb⟩ := hrel
    by_cases hlt : k < n
    · have hk1 : k < ys.length := by rw [HL.out]; exact hlt
      have hk2 : k < zs.length := by rw [HL2.out]; exact hlt
      obtain ⟨g, o, rfl, hg, hc0, hc1⟩ := HX.out.at_ hk1
      obtain ⟨g', o', rfl, hg', hd0, hd1⟩ := HY.out.at_ hk2
      have c0 := (hb.cell (p := ⟨g, o + k * 2, none⟩) hg).trans hc0
      have c1 := (hb.cell (p := ⟨g, o + k * 2 + 1, none⟩) hg).trans hc1
      have d0 := (hb.cell (p := ⟨g', o' + k * 2, none⟩) hg').trans hd0
      have d1 := (hb.cell (p := ⟨g', o' + k * 2 + 1, none⟩) hg').trans hd1
      have hr1 := Lib.hid (HX.out.body ys[k] (List.getElem_mem hk1))
      have hr2 := Lib.hid (HY.out.body zs[k] (List.getElem_mem hk2))
      have hlen := Nat.le_trans (bodies_at ys k hk1) HB.out
      have hsy : Hid (ys[k].says = zs[k].says) := Lib.hid (by
        have h := congrArg (fun l => l[k]?) HE.out
        simpa [List.getElem?_map, hk1, hk2] using h)
      clear hc0 hc1 hd0 hd1
      generalize ys[k] = y at *
      generalize zs[k] = z at *
      have R1 := Lib.hid ((hr1.out.below hb).more hb.size)
      have R2 := Lib.hid ((hr2.out.below hb).more hb.size)
      have C := Lib.hid (fun dr os => eqExtC y z (Go.Sort.grow (redrawn wr dr) os) hsy.out ((R1.out.below (below_regrown wr dr os)).more (below_regrown wr dr os).size) ((R2.out.below (below_regrown wr dr os)).more (below_regrown wr dr os).size) hlen)
      have HBB := Lib.hid hb
      have k0 := cell_regrown c0
      have k1 := cell_regrown c1
      have k2 := cell_regrown d0
      have k3 := cell_regrown d1
      clear hb hg hg' c0 c1 d0 d1 hr1 hr2 R1 R2
      go_wp2_with fail
      refine wp_region_quiet_below (by kernel_rfl) (by kernel_rfl) ?_
      repeat (go_big_quiet_step ((go_at_call 130; with_reducible exact Calls.regrown_of (C.out _ _))))
      refine wpQuiet_nil ?_
      intro w3 hw3
      obtain ⟨⟨dq, osq⟩, hw3⟩ := hw3
      have B := below_regrown wr dq osq
      rw [← hw3] at B
      clear hw3 k0 k1 k2 k3
      go_wp2
      go_roundw
      case rel => exact ⟨k + 1, by omega, by go_num, bthen HBB.out B⟩
      case measure => simp [intOf]; omega
    · go_wp2
      go_ret
      exact ⟨rfl, hb⟩

set_option maxHeartbeats 2000000 in
theorem eqSixC (x : Sh) (A D E G : Option Addr) (n c m d e g : Nat) (ys zs : List Ey) (bs : List UInt8) (w : World) (he : ys.map Ey.says = zs.map Ey.says) (hx : XR w w.heap.size A ys) (hy : XR w w.heap.size E zs) (hl : ys.length = n) (hn : n ≤ 1048576) (hb : bodies ys ≤ 1048576)
    (hz : RB w w.heap.size D bs) (hu : RB w w.heap.size G bs) (hm : bs.length = m) (hm2 : m ≤ 1048576) :
    Calls Try.prog 31 #[.agg #[.int .i64 x.cls, .int .i64 x.label, .int .i64 x.hops, .int .i64 x.proto, .int .i64 x.src.k, .int .i64 x.src.a, .int .i64 x.src.b, .int .i64 x.src.c, .int .i64 x.src.d, .int .i64 x.dst.k, .int .i64 x.dst.a, .int .i64 x.dst.b, .int .i64 x.dst.c, .int .i64 x.dst.d, .slice A n c, .slice D m d], .agg #[.int .i64 x.cls, .int .i64 x.label, .int .i64 x.hops, .int .i64 x.proto, .int .i64 x.src.k, .int .i64 x.src.a, .int .i64 x.src.b, .int .i64 x.src.c, .int .i64 x.src.d, .int .i64 x.dst.k, .int .i64 x.dst.a, .int .i64 x.dst.b, .int .i64 x.dst.c, .int .i64 x.dst.d, .slice E n e, .slice G m g]] w fun e w' => e = .returned (.bool true) ∧ Below w.heap.size w w' := by
  have HL := Lib.hid hl
  have HM := Lib.hid hm
  have HX := Lib.hid hx
  have HY := Lib.hid hy
  have HZ := Lib.hid hz
  have HU := Lib.hid hu
  have HE := Lib.hid he
  have HB := Lib.hid hb
  clear hl hx hy hm hz hu he hb
  go_enter Try.func31, Try.ntmps31
  go_wp2_with (go_at_call 92; go_in)
  refine Calls.mono (eqExtS_C A E n c e ys zs _ HE.out ((HX.out.below (by go_grown)).more (by first | (simp; done) | (simp; omega))) ((HY.out.below (by go_grown)).more (by first | (simp; done) | (simp; omega))) HL.out hn HB.out) ?_
  rintro e1 w1 ⟨rfl, b1⟩
  have q1 := Lib.hid (K.on b1 (g := w.heap.size) (by first | (simp; done) | (simp; omega)) (o := .cells #[.int .i64 x.cls, .int .i64 x.label, .int .i64 x.hops, .int .i64 x.proto, .int .i64 x.src.k, .int .i64 x.src.a, .int .i64 x.src.b, .int .i64 x.src.c, .int .i64 x.src.d, .int .i64 x.dst.k, .int .i64 x.dst.a, .int .i64 x.dst.b, .int .i64 x.dst.c, .int .i64 x.dst.d, .slice A n c, .slice D m d] 28) (by repeat (first | exact K.newAt (by first | rfl | (simp; done)) | refine K.oldAt (by first | (simp; done) | (simp; omega)) ?_)))
  have q2 := Lib.hid (K.on b1 (g := w.heap.size + 1) (by first | (simp; done) | (simp; omega)) (o := .cells #[.int .i64 x.cls, .int .i64 x.label, .int .i64 x.hops, .int .i64 x.proto, .int .i64 x.src.k, .int .i64 x.src.a, .int .i64 x.src.b, .int .i64 x.src.c, .int .i64 x.src.d, .int .i64 x.dst.k, .int .i64 x.dst.a, .int .i64 x.dst.b, .int .i64 x.dst.c, .int .i64 x.dst.d, .slice E n e, .slice G m g] 28) (by repeat (first | exact K.newAt (by first | rfl | (simp; done)) | refine K.oldAt (by first | (simp; done) | (simp; omega)) ?_)))
  have B1 := Lib.hid (show Below w.heap.size w w1 from bthen (by go_grown) b1)
  clear b1
  have d1 := K.cell q1.out 15 _ rfl
  have d2 := K.cell q2.out 15 _ rfl
  go_wp2_with fail
  refine Calls.mono (eqBn D G m d g bs _ ((HZ.out.below B1.out).more B1.out.size) ((HU.out.below B1.out).more B1.out.size) HM.out hm2) ?_
  rintro e2 w2 ⟨rfl, b2⟩
  have B2 := Lib.hid (bthen B1.out b2)
  clear b2 d1 d2 q1 q2
  go_wp2
  go_ret
  exact ⟨rfl, B2.out⟩
end Go.Proofs.Ytkmijefheejcjaa
