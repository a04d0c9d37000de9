/-
  The laws' own comparison of IPv6 packets. What the laws on IPv6 packets share: whole loads of an argument, a variable that is made and stored, the comparison with a new copy. How long an IPv6 packet is, by its header, in the program. An IPv4 packet is read by the model: the codes ahead of its checksum. Single operations of a region, each by what it leaves.
-/
import Derived.Test.YtkmijefheejcjaaKq07
import Derived.Lib.QuietBelow
import Derived.Deep.QuietTactic
import Derived.BigQuiet
import Derived.Test.YtkmijefheejcjaaKq10
import Derived.Test.YtkmijefheejcjaaKq09
namespace Go.Proofs.Ytkmijefheejcjaa
set_option maxRecDepth 100000
open Go.RowKit

set_option maxHeartbeats 400000 in
theorem eqExtC (y z : Ey) (w : World) (he : y.says = z.says) (hy : RB w w.heap.size y.A y.bs) (hz : RB w w.heap.size z.A z.bs) (hn : y.bs.length ≤ 1048576) :
    Calls Try.prog 130 #[.agg #[.int .i64 y.k, .slice y.A y.bs.length y.c], .agg #[.int .i64 z.k, .slice z.A z.bs.length z.c]] w fun e w' => e = .returned (.bool true) ∧ Below w.heap.size w w' := by
  obtain ⟨yk, ys, yA, yc⟩ := y
  obtain ⟨zk, zs, zA, zc⟩ := z
  simp only [Ey.says, Prod.mk.injEq] at he
  obtain ⟨rfl, rfl⟩ := he
  simp only at hy hz hn
  have HY := Lib.hid hy
  have HZ := Lib.hid hz
  clear hy hz
  go_enter Try.func130, Try.ntmps130
  go_wp2_with fail
  refine Calls.mono (eqBn yA zA ys.length yc zc ys _ ((HY.out.below (by go_grown)).more (by first | (simp; done) | (simp; omega))) ((HZ.out.below (by go_grown)).more (by first | (simp; done) | (simp; omega))) rfl hn) ?_
  rintro e1 w1 ⟨rfl, b1⟩
  go_wp2
  go_ret
  exact ⟨rfl, bthen (by go_grown) b1⟩

set_option maxHeartbeats 1000000 in
theorem eqExtS_C (A D : Option Addr) (n c d : Nat) (ys zs : List Ey) (w : World) (he : ys.map Ey.says = zs.map Ey.says) (hx : XR w w.heap.size A ys) (hy : XR w w.heap.size D zs) (hl : ys.length = n) (hn : n ≤ 1048576) (hb : bodies ys ≤ 1048576) :
    Calls Try.prog 93 #[.slice A n c, .slice D n d] w fun e w' => e = .returned (.bool true) ∧ Below w.heap.size w w' := by
  have HX := Lib.hid hx
  have HY := Lib.hid hy
  have HL := Lib.hid hl
  have HE := Lib.hid he
  have HL2 := Lib.hid (show zs.length = n by have := congrArg List.length he; simp at this; omega)
  have HB := Lib.hid hb
  clear hx hy hl he hb
  go_enter Try.func93, Try.ntmps93
  go_wp2
  go_loopw [5] (fun i wr => ∃ k : Nat, k ≤ n ∧ i = .int .i64 k ∧ Below w.heap.size w wr) (fun i _ => n - (intOf i).toNat)
  case atStart => exact ⟨0, Nat.zero_le _, rfl, Below.refl _ _⟩
  case round =>
    obtain ⟨k, hk, rfl, hb⟩ := hrel
    by_cases hlt : k < n
    · have hk1 : k < ys.length := by rw [HL.out]; exact hlt
      have hk2 : k < zs.length := by rw [HL2.out]; exact hlt
      obtain ⟨g, o, rfl, hg, hc0, hc1⟩ := HX.out.at_ hk1
      obtain ⟨g', o', rfl, hg', hd0, hd1⟩ := HY.out.at_ hk2
      have c0 := (hb.cell (p := ⟨g, o + k * 2, none⟩) hg).trans hc0
      have c1 := (hb.cell (p := ⟨g, o + k * 2 + 1, none⟩) hg).trans hc1
      have d0 := (hb.cell (p := ⟨g', o' + k * 2, none⟩) hg').trans hd0
      have d1 := (hb.cell (p := ⟨g', o' + k * 2 + 1, none⟩) hg').trans hd1
      have hr1 := Lib.hid (HX.out.body ys[k] (List.getElem_mem hk1))
      have hr2 := Lib.hid (HY.out.body zs[k] (List.getElem_mem hk2))
      have hlen := Nat.le_trans (bodies_at ys k hk1) HB.out
      have hsy : Hid (ys[k].says = zs[k].says) := Lib.hid (by
        have h := congrArg (fun l => l[k]?) HE.out
        simpa [List.getElem?_map, hk1, hk2] using h)
      clear hc0 hc1 hd0 hd1
      generalize ys[k] = y at *
      generalize zs[k] = z at *
      have R1 := Lib.hid ((hr1.out.below hb).more hb.size)
      have R2 := Lib.hid ((hr2.out.below hb).more hb.size)
      have C := Lib.hid (fun dr os => eqExtC y z (Go.Sort.grow (redrawn wr dr) os) hsy.out ((R1.out.below (below_regrown wr dr os)).more (below_regrown wr dr os).size) ((R2.out.below (below_regrown wr dr os)).more (below_regrown wr dr os).size) hlen)
      have HBB := Lib.hid hb
      have k0 := cell_regrown c0
      have k1 := cell_regrown c1
      have k2 := cell_regrown d0
      have k3 := cell_regrown d1
      clear hb hg hg' c0 c1 d0 d1 hr1 hr2 R1 R2
      go_wp2_with fail
      refine wp_region_quiet_below (by kernel_rfl) (by kernel_rfl) ?_
      repeat (go_big_quiet_step ((go_at_call 130; with_reducible exact Calls.regrown_of (C.out _ _))))
      refine wpQuiet_nil ?_
      intro w3 hw3
      obtain ⟨⟨dq, osq⟩, hw3⟩ := hw3
      have B := below_regrown wr dq osq
      rw [← hw3] at B
      clear hw3 k0 k1 k2 k3
      go_wp2
      go_roundw
      case rel => exact ⟨k + 1, by omega, by go_num, bthen HBB.out B⟩
      case measure => simp [intOf]; omega
    · go_wp2
      go_ret
      exact ⟨rfl, hb⟩

set_option maxHeartbeats 2000000 in
theorem eqSixC (x : Sh) (A D E G : Option Addr) (n c m d e g : Nat) (ys zs : List Ey) (bs : List UInt8) (w : World) (he : ys.map Ey.says = zs.map Ey.says) (hx : XR w w.heap.size A ys) (hy : XR w w.heap.size E zs) (hl : ys.length = n) (hn : n ≤ 1048576) (hb : bodies ys ≤ 1048576)
    (hz : RB w w.heap.size D bs) (hu : RB w w.heap.size G bs) (hm : bs.length = m) (hm2 : m ≤ 1048576) :
    Calls Try.prog 31 #[.agg #[.int .i64 x.cls, .int .i64 x.label, .int .i64 x.hops, .int .i64 x.proto, .int .i64 x.src.k, .int .i64 x.src.a, .int .i64 x.src.b, .int .i64 x.src.c, .int .i64 x.src.d, .int .i64 x.dst.k, .int .i64 x.dst.a, .int .i64 x.dst.b, .int .i64 x.dst.c, .int .i64 x.dst.d, .slice A n c, .slice D m d], .agg #[.int .i64 x.cls, .int .i64 x.label, .int .i64 x.hops, .int .i64 x.proto, .int .i64 x.src.k, .int .i64 x.src.a, .int .i64 x.src.b, .int .i64 x.src.c, .int .i64 x.src.d, .int .i64 x.dst.k, .int .i64 x.dst.a, .int .i64 x.dst.b, .int .i64 x.dst.c, .int .i64 x.dst.d, .slice E n e, .slice G m g]] w fun e w' => e = .returned (.bool true) ∧ Below w.heap.size w w' := by
  have HL := Lib.hid hl
  have HM := Lib.hid hm
  have HX := Lib.hid hx
  have HY := Lib.hid hy
  have HZ := Lib.hid hz
  have HU := Lib.hid hu
  have HE := Lib.hid he
  have HB := Lib.hid hb
  clear hl hx hy hm hz hu he hb
  go_enter Try.func31, Try.ntmps31
  go_wp2_with (go_at_call 92; go_in)
  refine Calls.mono (eqExtS_C A E n c e ys zs _ HE.out ((HX.out.below (by go_grown)).more (by first | (simp; done) | (simp; omega))) ((HY.out.below (by go_grown)).more (by first | (simp; done) | (simp; omega))) HL.out hn HB.out) ?_
  rintro e1 w1 ⟨rfl, b1⟩
  have q1 := Lib.hid (K.on b1 (g := w.heap.size) (by first | (simp; done) | (simp; omega)) (o := .cells #[.int .i64 x.cls, .int .i64 x.label, .int .i64 x.hops, .int .i64 x.proto, .int .i64 x.src.k, .int .i64 x.src.a, .int .i64 x.src.b, .int .i64 x.src.c, .int .i64 x.src.d, .int .i64 x.dst.k, .int .i64 x.dst.a, .int .i64 x.dst.b, .int .i64 x.dst.c, .int .i64 x.dst.d, .slice A n c, .slice D m d] 28) (by repeat (first | exact K.newAt (by first | rfl | (simp; done)) | refine K.oldAt (by first | (simp; done) | (simp; omega)) ?_)))
  have q2 := Lib.hid (K.on b1 (g := w.heap.size + 1) (by first | (simp; done) | (simp; omega)) (o := .cells #[.int .i64 x.cls, .int .i64 x.label, .int .i64 x.hops, .int .i64 x.proto, .int .i64 x.src.k, .int .i64 x.src.a, .int .i64 x.src.b, .int .i64 x.src.c, .int .i64 x.src.d, .int .i64 x.dst.k, .int .i64 x.dst.a, .int .i64 x.dst.b, .int .i64 x.dst.c, .int .i64 x.dst.d, .slice E n e, .slice G m g] 28) (by repeat (first | exact K.newAt (by first | rfl | (simp; done)) | refine K.oldAt (by first | (simp; done) | (simp; omega)) ?_)))
  have B1 := Lib.hid (show Below w.heap.size w w1 from bthen (by go_grown) b1)
  clear b1
  have d1 := K.cell q1.out 15 _ rfl
  have d2 := K.cell q2.out 15 _ rfl
  go_wp2_with fail
  refine Calls.mono (eqBn D G m d g bs _ ((HZ.out.below B1.out).more B1.out.size) ((HU.out.below B1.out).more B1.out.size) HM.out hm2) ?_
  rintro e2 w2 ⟨rfl, b2⟩
  have B2 := Lib.hid (bthen B1.out b2)
  clear b2 d1 d2 q1 q2
  go_wp2
  go_ret
  exact ⟨rfl, B2.out⟩
end Go.Proofs.Ytkmijefheejcjaa

namespace Go.Proofs.Ytkmijefheejcjaa
set_option maxRecDepth 100000
open Go.RowKit

/-- A packet is stored into a variable that was just made. -/
theorem storeNewS {ops : Array Oper} {rest : List Oper} {o : Oper} {a : Act} {w : World} {Q : Exit → Act → World → Prop} (hgd : o.guard = none) (x y : Operand) (ho : o.op = .store 28 x y) {n0 n1 n2 n3 n4 n5 n6 n7 n8 n9 n10 n11 n12 n13 : Int} {A D : Option Addr} {l c m d : Nat} (hx : a.eval x = .pointer (some ⟨w.heap.size, 0, none⟩)) (hy : a.eval y = .agg #[.int .i64 n0, .int .i64 n1, .int .i64 n2, .int .i64 n3, .int .i64 n4, .int .i64 n5, .int .i64 n6, .int .i64 n7, .int .i64 n8, .int .i64 n9, .int .i64 n10, .int .i64 n11, .int .i64 n12, .int .i64 n13, .slice A l c, .slice D m d])
    (h : wpList Try.prog ops Q rest (a.put o.dst undef) (w.alloc (.cells #[.int .i64 n0, .int .i64 n1, .int .i64 n2, .int .i64 n3, .int .i64 n4, .int .i64 n5, .int .i64 n6, .int .i64 n7, .int .i64 n8, .int .i64 n9, .int .i64 n10, .int .i64 n11, .int .i64 n12, .int .i64 n13, .slice A l c, .slice D m d] 28))) : wpList Try.prog ops Q (o :: rest) a (w.alloc (.cells #[.int .i64 0, .int .i64 0, .int .i64 0, .int .i64 0, .int .i64 0, .int .i64 0, .int .i64 0, .int .i64 0, .int .i64 0, .int .i64 0, .int .i64 0, .int .i64 0, .int .i64 0, .int .i64 0, .slice none 0 0, .slice none 0 0] 28)) := by
  refine storeS hgd x y ho w.heap.size hx hy (K.new w _) ?_
  rw [World.setRow_alloc_new]
  exact h

theorem eqSix_steps : Steps2 31 := by
  intro o a w K Q t s u v ts ho ht hs h
  unfold Oper.wp execOp
  simp only [ho, resolve, List.map_toArray, List.map_cons, List.map_nil, ht, hs, show ∀ f, a.eval (.func f) = .func (.func f) #[] #[] from fun _ => rfl]
  go_simp
  exact h.mono fun e w' ⟨u, he, hk⟩ => by subst he; exact hk

/-- A copy of a packet, as the comparison wants it. -/
def SixCp (x : Sh) (es : List (Int × List UInt8)) (bs : List UInt8) (n m : Nat) (w : World) (u : Value) : Prop :=
  ∃ A c zs D d, u = .agg #[.int .i64 x.cls, .int .i64 x.label, .int .i64 x.hops, .int .i64 x.proto, .int .i64 x.src.k, .int .i64 x.src.a, .int .i64 x.src.b, .int .i64 x.src.c, .int .i64 x.src.d, .int .i64 x.dst.k, .int .i64 x.dst.a, .int .i64 x.dst.b, .int .i64 x.dst.c, .int .i64 x.dst.d, .slice A n c, .slice D m d] ∧ XR w w.heap.size A zs ∧ zs.map Ey.says = es ∧ RB w w.heap.size D bs
theorem SixCp.on {x : Sh} {es : List (Int × List UInt8)} {bs : List UInt8} {n m : Nat} (w w' : World) (u : Value) (hb : Below w.heap.size w w') (h : SixCp x es bs n m w u) : SixCp x es bs n m w' u := by
  obtain ⟨A, c, zs, D, d, e, r, hz, s⟩ := h
  exact ⟨A, c, zs, D, d, e, r.on hb, hz, (s.below hb).more hb.size⟩

end Go.Proofs.Ytkmijefheejcjaa

namespace Go.Proofs.Ytkmijefheejcjaa
set_option maxRecDepth 100000
open Go.RowKit

/-- The code of a packet's fixed part. -/
def tot6 (bs : List UInt8) : Int := if 1600 < bs.length then 1 else if bs.length < 40 then 2 else if num bs 0 1 / 16 ≠ 6 then 3 else if 1500 < sEnd bs ∨ bs.length < sEnd bs then 4 else 0
theorem src6_tot {bs : List UInt8} : src6 bs = if tot6 bs ≠ 0 then tot6 bs else if (sWalk bs).isNone then 5 else 0 := by
  unfold src6 tot6
  repeat' split
  all_goals first | rfl | omega | simp_all

theorem num_oneI (bs : List UInt8) (k : Nat) (h : k < bs.length) : num bs k 1 = bs[k].toNat := by
  have e : (bs.drop k).take 1 = [bs[k]] := by
    rw [List.drop_eq_getElem_cons h]
    rfl
  unfold num
  rw [e]
  simp [be]
theorem be16I (A : Option Addr) (n c : Nat) (bs : List UInt8) (k v : Nat) (w : World) (hr : RB w w.heap.size A bs) (hl : bs.length = n) (hn : n ≤ 1048576) (hc : n ≤ c) (h : k + 2 ≤ n) (hv : num bs k 2 = v) :
    Calls Try.prog 112 #[.slice A n c, .int .i64 (k : Int)] w fun e w' => e = .returned (.tuple #[.int .i64 (v : Int), .bool true]) ∧ w = w' := by
  subst hv
  exact implBe16 A n c bs k w hr hl hn hc h

set_option maxHeartbeats 1000000 in
theorem sixTotalC (A : Option Addr) (n c : Nat) (bs : List UInt8) (w : World) (hr : RB w w.heap.size A bs) (hl : bs.length = n) (hs : n ≤ 1048576) (hc : n ≤ c) :
    Calls Try.prog 65 #[.slice A n c] w fun e w' => e = .returned (.tuple #[.int .i64 (if tot6 bs = 0 then (sEnd bs : Int) else 0), .int .i64 (tot6 bs)]) ∧ w = w' := by
  by_cases h1 : 1600 < n
  · rw [show tot6 bs = 1 by simp [tot6, hl, h1]]
    clear hr hl
    go_enter Try.func65, Try.ntmps65
    go_wp2
    go_ret2
    exact ⟨rfl, rfl⟩
  · by_cases h2 : n < 40
    · rw [show tot6 bs = 2 by simp [tot6, hl, h1, h2]]
      clear hr hl
      go_enter Try.func65, Try.ntmps65
      go_wp2
      go_ret2
      exact ⟨rfl, rfl⟩
    · obtain ⟨g, o, rfl, hg, c0⟩ := hr.at_ (k := 0) (by omega)
      have eb : num bs 0 1 = (bs[0]'(by omega)).toNat := num_oneI bs 0 (by omega)
      have hb := num_lt1 bs 0
      generalize bs[0]'(by omega) = b at c0 eb
      have T3 : tot6 bs = if num bs 0 1 / 16 ≠ 6 then 3 else if 1500 < sEnd bs ∨ bs.length < sEnd bs then 4 else 0 := by
        unfold tot6
        rw [if_neg (by omega), if_neg (by omega)]
      rw [eb] at hb T3
      have HB := Lib.hid (be16I (some ⟨g, o, none⟩) n c bs 4 _ w hr hl hs hc (by omega) rfl)
      have hv := num_lt2 bs 4
      have HE : sEnd bs = 40 + num bs 4 2 := rfl
      rw [HE, hl] at T3
      rw [HE]
      clear hr hl HE eb
      generalize tot6 bs = T at T3 ⊢
      generalize num bs 4 2 = v at *
      generalize hq : b.toNat = q at *
      rw [Nat.add_zero] at c0
      by_cases h3 : (q : Int) / 16 = 6
      · rw [if_neg (by omega)] at T3
        by_cases h4 : 1500 < 40 + v ∨ n < 40 + v
        · rw [if_pos h4] at T3
          subst T3
          have hm : ¬ ((40 : Int) + v ≤ (if (n : Int) ≤ 1500 then (n : Int) else 1500)) := by split <;> omega
          go_enter Try.func65, Try.ntmps65
          go_wp2_with fail
          refine Calls.mono HB.out ?_
          rintro e w1 ⟨rfl, rfl⟩
          go_wp2
          all_goals
            go_ret2
            exact ⟨rfl, rfl⟩
        · rw [if_neg h4] at T3
          subst T3
          go_enter Try.func65, Try.ntmps65
          go_wp2_with fail
          refine Calls.mono HB.out ?_
          rintro e w1 ⟨rfl, rfl⟩
          go_wp2
          all_goals
            go_ret2
            exact ⟨by simp, rfl⟩
      · rw [if_pos (by omega)] at T3
        subst T3
        clear HB
        go_enter Try.func65, Try.ntmps65
        go_wp2
        go_ret2
        exact ⟨rfl, rfl⟩
end Go.Proofs.Ytkmijefheejcjaa

namespace Go.Proofs.Ytkmijefheejcjaa
set_option maxRecDepth 100000
open Go.RowKit

theorem num_one (bs : List UInt8) (k : Nat) (h : k < bs.length) : num bs k 1 = bs[k].toNat := by
  have e : (bs.drop k).take 1 = [bs[k]] := by
    rw [List.drop_eq_getElem_cons h]
    rfl
  unfold num
  rw [e]
  simp [be]
theorem be16L (A : Option Addr) (n c : Nat) (bs : List UInt8) (k v : Nat) (w : World) (hr : RB w w.heap.size A bs) (hl : bs.length = n) (hn : n ≤ 1048576) (h : k + 2 ≤ n) (hv : num bs k 2 = v) :
    Calls Try.prog 89 #[.slice A n c, .int .i64 (k : Int)] w fun e w' => e = .returned (.tuple #[.int .i64 (v : Int), .bool true]) ∧ Below w.heap.size w w' := by
  subst hv
  exact specBe16 A n c bs k w hr hl hn h

section
variable {a a' : Act} {n : Nat}
/-- A frame of which all slots but some are known is the old one with these written. -/
theorem act_eqL (hsz : a'.tmps.size = n) (hdf : a'.defers = a.defers) (hn : a.tmps.size = n) : ∀ (l : List (Nat × Value)) (b : Act), b.tmps.size = n → b.defers = a.defers → (∀ p ∈ l, p.1 < n ∧ a'.tmps.getD p.1 undef = p.2) → (∀ t, (∀ p ∈ l, p.1 ≠ t) → a'.tmps.getD t undef = b.tmps.getD t undef) → a' = l.foldl (fun b p => b.put (some p.1) p.2) b
  | [], b, hb, hbd, _, h => by
    obtain ⟨tm, df⟩ := a'
    obtain ⟨tb, db⟩ := b
    simp only at hsz hb hbd hdf h
    subst hbd
    subst hdf
    have : tm = tb := ext_getD (by omega) (fun i => h i (by simp))
    subst this
    rfl
  | (d, v) :: l, b, hb, hbd, hl, h => by
    have hd := hl (d, v) (by simp)
    refine act_eqL hsz hdf hn l (b.put (some d) v) (by show (b.tmps.setIfInBounds d v).size = n; simp only [Array.size_setIfInBounds]; exact hb) hbd (fun p hp => hl p (by simp [hp])) (fun t ht => ?_)
    show _ = (b.tmps.setIfInBounds d v).getD t undef
    rw [getD_set _ _ _ _ (by omega)]
    by_cases e : t = d
    · rw [if_pos e, e]
      exact hd.2
    · rw [if_neg e]
      refine h t (fun p hp => ?_)
      rcases List.mem_cons.1 hp with rfl | hp
      · exact Ne.symm e
      · exact ht p hp
end









end Go.Proofs.Ytkmijefheejcjaa

namespace Go.Proofs.Ytkmijefheejcjaa
set_option maxRecDepth 100000
open Go.RowKit

section
variable {o : Oper} {a : Act} {w : World} {K : Act → World → Prop} {Q : Exit → Act → World → Prop}
theorem u_move (x : Operand) (v : Value) (ho : o.op = .move x) (hx : a.eval x = v) (hK : K (a.put o.dst v) w) : o.wp Try.prog a w K Q := by
  unfold Oper.wp execOp
  simp only [ho, hx]
  go_simp
  exact hK
theorem u_assign (x : Operand) (v : Value) (ho : o.op = .assign x) (hx : a.eval x = v) (hK : K (a.put o.dst v) w) : o.wp Try.prog a w K Q := by
  unfold Oper.wp execOp
  simp only [ho, hx]
  go_simp
  exact hK
theorem u_lenB (x : Operand) (A : Option Addr) (n c : Nat) (ho : o.op = .call { callee := .builtin .len, args := #[x], argTypes := #[22] }) (hx : a.eval x = .slice A n c) (hK : K (a.put o.dst (.int .i64 (n : Int))) w) : o.wp Try.prog a w K Q := by
  unfold Oper.wp execOp
  simp only [ho, resolve, invoke, builtin, List.map_toArray, List.map_cons, List.map_nil, hx]
  go_simp
  exact hK
theorem u_lenX (x : Operand) (A : Option Addr) (n c : Nat) (ho : o.op = .call { callee := .builtin .len, args := #[x], argTypes := #[26] }) (hx : a.eval x = .slice A n c) (hK : K (a.put o.dst (.int .i64 (n : Int))) w) : o.wp Try.prog a w K Q := by
  unfold Oper.wp execOp
  simp only [ho, resolve, invoke, builtin, List.map_toArray, List.map_cons, List.map_nil, hx]
  go_simp
  exact hK
theorem u_add (x y : Operand) (m n : Int) (ho : o.op = .binOp .add 3 x y 3) (hx : a.eval x = .int .i64 m) (hy : a.eval y = .int .i64 n) (h0 : -4611686018427387904 ≤ m) (h1 : m ≤ 4611686018427387904) (h2 : -4611686018427387904 < n) (h3 : n < 4611686018427387904) (hK : K (a.put o.dst (.int .i64 (m + n))) w) : o.wp Try.prog a w K Q := by
  unfold Oper.wp execOp
  simp only [ho, hx, hy]
  go_simp
  rw [show IntKind.i64.wrap (m + n) = m + n by rw [IntKind.wrap_i64]; omega]
  exact hK
theorem u_sub (x y : Operand) (m n : Int) (ho : o.op = .binOp .sub 3 x y 3) (hx : a.eval x = .int .i64 m) (hy : a.eval y = .int .i64 n) (h0 : -4611686018427387904 ≤ m) (h1 : m ≤ 4611686018427387904) (h2 : -4611686018427387904 < n) (h3 : n < 4611686018427387904) (hK : K (a.put o.dst (.int .i64 (m - n))) w) : o.wp Try.prog a w K Q := by
  unfold Oper.wp execOp
  simp only [ho, hx, hy]
  go_simp
  rw [show IntKind.i64.wrap (m - n) = m - n by rw [IntKind.wrap_i64]; omega]
  exact hK
theorem u_quo8 (x y : Operand) (m : Int) (ho : o.op = .binOp .quo 3 x y 3) (hx : a.eval x = .int .i64 m) (hy : a.eval y = .int .i64 8) (h0 : 0 ≤ m) (h1 : m ≤ 4611686018427387904) (hK : K (a.put o.dst (.int .i64 (m / 8))) w) : o.wp Try.prog a w K Q := by
  unfold Oper.wp execOp
  simp only [ho, hx, hy]
  go_simp
  rw [show IntKind.i64.wrap (m.tdiv 8) = m / 8 by rw [IntKind.wrap_i64, Int.tdiv_eq_ediv_of_nonneg h0]; omega]
  exact hK
theorem u_byte (x : Operand) (m : Int) (ho : o.op = .convert 3 5 x) (hx : a.eval x = .int .i64 m) (h0 : 0 ≤ m) (h1 : m ≤ 255) (hK : K (a.put o.dst (.int .u8 m)) w) : o.wp Try.prog a w K Q := by
  unfold Oper.wp execOp
  simp only [ho, hx]
  go_simp
  rw [show IntKind.u8.wrap m = m by rw [IntKind.wrap_u8]; omega]
  exact hK
theorem u_int (x : Operand) (g j : Nat) (v : Value) (ho : o.op = .load 3 x) (hx : a.eval x = .pointer (some ⟨g, j, none⟩)) (hc : w.cell? ⟨g, j, none⟩ = some v) (hK : K (a.put o.dst v) w) : o.wp Try.prog a w K Q := by
  unfold Oper.wp execOp
  simp only [ho, hx]
  go_simp
  exact hK
theorem u_bytes (x : Operand) (g j : Nat) (v : Value) (ho : o.op = .load 22 x) (hx : a.eval x = .pointer (some ⟨g, j, none⟩)) (hc : w.cell? ⟨g, j, none⟩ = some v) (hK : K (a.put o.dst v) w) : o.wp Try.prog a w K Q := by
  unfold Oper.wp execOp
  simp only [ho, hx]
  go_simp
  exact hK
theorem u_exts (x : Operand) (g j : Nat) (v : Value) (ho : o.op = .load 26 x) (hx : a.eval x = .pointer (some ⟨g, j, none⟩)) (hc : w.cell? ⟨g, j, none⟩ = some v) (hK : K (a.put o.dst v) w) : o.wp Try.prog a w K Q := by
  unfold Oper.wp execOp
  simp only [ho, hx]
  go_simp
  exact hK
theorem u_two (x y : Operand) (m n : Int) (ho : o.op = .buildSlice 22 2 #[(0, x), (1, y)]) (hx : a.eval x = .int .u8 m) (hy : a.eval y = .int .u8 n) (hm : 0 ≤ m ∧ m < 256) (hn : 0 ≤ n ∧ n < 256)
    (hK : ∀ v w', (∃ A c, v = .slice A 2 c ∧ RB w' w'.heap.size A [byteOf m, byteOf n]) → Below w.heap.size w w' → K (a.put o.dst v) w') : o.wp Try.prog a w K Q := by
  unfold Oper.wp execOp
  simp only [ho, List.map_toArray, List.map_cons, List.map_nil, hx, hy]
  go_simp
  exact hK _ _ ⟨_, _, rfl, by have := rb_twos w m n hm hn; simpa using this⟩ (Joins.below_alloc1 w _)
theorem u_idxE (x y : Operand) (g of n c k : Nat) (ho : o.op = .indexAddr 26 x y) (hx : a.eval x = .slice (some ⟨g, of, none⟩) n c) (hy : a.eval y = .int .i64 (k : Int)) (hk : k < n) (hK : K (a.put o.dst (.pointer (some ⟨g, of + k * 2, none⟩))) w) : o.wp Try.prog a w K Q := by
  unfold Oper.wp execOp
  simp only [ho, hx, hy]
  go_simp
  exact hK
theorem u_fldS0 (x : Operand) (g : Nat) (ho : o.op = .fieldAddr 28 x 0) (hx : a.eval x = .pointer (some ⟨g, 0, none⟩)) (hK : K (a.put o.dst (.pointer (some ⟨g, 0, none⟩))) w) : o.wp Try.prog a w K Q := by
  unfold Oper.wp execOp
  simp only [ho, hx]
  go_simp
  exact hK
theorem u_fldS1 (x : Operand) (g : Nat) (ho : o.op = .fieldAddr 28 x 1) (hx : a.eval x = .pointer (some ⟨g, 0, none⟩)) (hK : K (a.put o.dst (.pointer (some ⟨g, 1, none⟩))) w) : o.wp Try.prog a w K Q := by
  unfold Oper.wp execOp
  simp only [ho, hx]
  go_simp
  exact hK
theorem u_fldS2 (x : Operand) (g : Nat) (ho : o.op = .fieldAddr 28 x 2) (hx : a.eval x = .pointer (some ⟨g, 0, none⟩)) (hK : K (a.put o.dst (.pointer (some ⟨g, 2, none⟩))) w) : o.wp Try.prog a w K Q := by
  unfold Oper.wp execOp
  simp only [ho, hx]
  go_simp
  exact hK
theorem u_fldS4 (x : Operand) (g : Nat) (ho : o.op = .fieldAddr 28 x 4) (hx : a.eval x = .pointer (some ⟨g, 0, none⟩)) (hK : K (a.put o.dst (.pointer (some ⟨g, 4, none⟩))) w) : o.wp Try.prog a w K Q := by
  unfold Oper.wp execOp
  simp only [ho, hx]
  go_simp
  exact hK
theorem u_fldS5 (x : Operand) (g : Nat) (ho : o.op = .fieldAddr 28 x 5) (hx : a.eval x = .pointer (some ⟨g, 0, none⟩)) (hK : K (a.put o.dst (.pointer (some ⟨g, 9, none⟩))) w) : o.wp Try.prog a w K Q := by
  unfold Oper.wp execOp
  simp only [ho, hx]
  go_simp
  exact hK
theorem u_fldS6 (x : Operand) (g : Nat) (ho : o.op = .fieldAddr 28 x 6) (hx : a.eval x = .pointer (some ⟨g, 0, none⟩)) (hK : K (a.put o.dst (.pointer (some ⟨g, 14, none⟩))) w) : o.wp Try.prog a w K Q := by
  unfold Oper.wp execOp
  simp only [ho, hx]
  go_simp
  exact hK
theorem u_fldS7 (x : Operand) (g : Nat) (ho : o.op = .fieldAddr 28 x 7) (hx : a.eval x = .pointer (some ⟨g, 0, none⟩)) (hK : K (a.put o.dst (.pointer (some ⟨g, 15, none⟩))) w) : o.wp Try.prog a w K Q := by
  unfold Oper.wp execOp
  simp only [ho, hx]
  go_simp
  exact hK
theorem u_fldE1 (x : Operand) (g j : Nat) (ho : o.op = .fieldAddr 74 x 1) (hx : a.eval x = .pointer (some ⟨g, j, none⟩)) (hK : K (a.put o.dst (.pointer (some ⟨g, j + 1, none⟩))) w) : o.wp Try.prog a w K Q := by
  unfold Oper.wp execOp
  simp only [ho, hx]
  go_simp
  exact hK
theorem u_put16s (x : Operand) (u : Value) (ts : Array TypeId) (ho : o.op = .call { callee := .value (.func 84), args := #[x], argTypes := ts }) (hx : a.eval x = u)
    (h : Calls Try.prog 84 #[u] w fun e w' => ∃ v, e = .returned v ∧ K (a.put o.dst v) w') : o.wp Try.prog a w K Q := by
  unfold Oper.wp execOp
  simp only [ho, resolve, List.map_toArray, List.map_cons, List.map_nil, hx, show ∀ f, a.eval (.func f) = .func (.func f) #[] #[] from fun _ => rfl]
  go_simp
  exact h.mono fun e w' ⟨u, he, hk⟩ => by subst he; exact hk
theorem u_nexti (x y : Operand) (u v : Value) (ts : Array TypeId) (ho : o.op = .call { callee := .value (.func 59), args := #[x, y], argTypes := ts }) (hx : a.eval x = u) (hy : a.eval y = v)
    (h : Calls Try.prog 59 #[u, v] w fun e w' => ∃ v, e = .returned v ∧ K (a.put o.dst v) w') : o.wp Try.prog a w K Q := by
  unfold Oper.wp execOp
  simp only [ho, resolve, List.map_toArray, List.map_cons, List.map_nil, hx, hy, show ∀ f, a.eval (.func f) = .func (.func f) #[] #[] from fun _ => rfl]
  go_simp
  exact h.mono fun e w' ⟨u, he, hk⟩ => by subst he; exact hk
theorem u_extsize (x : Operand) (u : Value) (ts : Array TypeId) (ho : o.op = .call { callee := .value (.func 61), args := #[x], argTypes := ts }) (hx : a.eval x = u)
    (h : Calls Try.prog 61 #[u] w fun e w' => ∃ v, e = .returned v ∧ K (a.put o.dst v) w') : o.wp Try.prog a w K Q := by
  unfold Oper.wp execOp
  simp only [ho, resolve, List.map_toArray, List.map_cons, List.map_nil, hx, show ∀ f, a.eval (.func f) = .func (.func f) #[] #[] from fun _ => rfl]
  go_simp
  exact h.mono fun e w' ⟨u, he, hk⟩ => by subst he; exact hk
end
end Go.Proofs.Ytkmijefheejcjaa
