/-
  An IPv6 packet is read by the program.
-/
import Derived.Test.YtkmijefheejcjaaKq12
import Derived.Test.YtkmijefheejcjaaKq13
namespace Go.Proofs.Ytkmijefheejcjaa
set_option maxRecDepth 100000
open Go.RowKit

theorem tot6_zero {bs : List UInt8} (h : tot6 bs = 0) : bs.length ≤ 1600 ∧ 40 ≤ bs.length ∧ sEnd bs ≤ 1500 ∧ sEnd bs ≤ bs.length ∧ 40 ≤ sEnd bs := by
  unfold tot6 at h
  have : sEnd bs = 40 + num bs 4 2 := rfl
  split at h
  · cases h
  · split at h
    · cases h
    · split at h
      · cases h
      · split at h
        · cases h
        · omega
theorem cut_atI (a : Addr) (n c j l : Nat) (hj : j + l = n) : ∃ X d, (∀ w, (Instr.sliceAt 22 (.slice (some a) n c) (some (.int .i64 (j : Int))) none none).run Try.prog w = .ok (.slice (some X) l d) w) ∧ ∀ {w : World} {B : Nat} {bs : List UInt8}, RB w B (some a) bs → bs.length = n → n ≤ c → RB w B (some X) (bs.drop j) := by
  have e : (if c = j then some a else (some a).map (·.add (j * 1))) = some (if c = j then a else a.add (j * 1)) := by split <;> rfl
  refine ⟨if c = j then a else a.add (j * 1), c - j, fun w => ?_, fun h hl hc => ?_⟩
  · rw [cut_back (some a) n c j (by omega) w, show n - j = l by omega, e]
  · have := h.back j c (by omega)
    rwa [e] at this
section
variable {o : Oper} {a : Act} {w : World} {K : Act → World → Prop} {Q : Exit → Act → World → Prop}
theorem u_cut (t s : Nat) (u v x : Value) (ho : o.op = .slice 22 (.tmp t) (some (.tmp s)) none none) (ht : a.eval (.tmp t) = u) (hs : a.eval (.tmp s) = v) (h : ∀ w, (Instr.sliceAt 22 u (some v) none none).run Try.prog w = .ok x w) (hK : K (a.put o.dst x) w) : o.wp Try.prog a w K Q := by
  unfold Oper.wp execOp
  simp only [ho, Option.map, ht, hs, Sem.run_bind, Sem.run_pure, h, Result.andThen_ok]
  exact hK
theorem u_clone (t : Nat) (u : Value) (ts : Array TypeId) (ho : o.op = .call { callee := .value (.func 67), args := #[.tmp t], argTypes := ts }) (ht : a.eval (.tmp t) = u)
    (h : Calls Try.prog 67 #[u] w fun e w' => ∃ v, e = .returned v ∧ K (a.put o.dst v) w') : o.wp Try.prog a w K Q := by
  unfold Oper.wp execOp
  simp only [ho, resolve, List.map_toArray, List.map_cons, List.map_nil, ht, show ∀ f, a.eval (.func f) = .func (.func f) #[] #[] from fun _ => rfl]
  go_simp
  exact h.mono fun e w' ⟨u, he, hk⟩ => by subst he; exact hk
end

set_option maxRecDepth 100000 in
set_option maxHeartbeats 2000000 in
theorem readI6_no (A : Option Addr) (n c : Nat) (bs : List UInt8) (w : World) (hr : RB w w.heap.size A bs) (hl : bs.length = n) (hs : n ≤ 1048576) (hc : n ≤ c) (hT : tot6 bs ≠ 0) : Calls Try.prog 19 #[.slice A n c] w (SROut bs w) := by
  have HO := Lib.hid (show src6 bs = tot6 bs by rw [src6_tot, if_pos hT])
  have HC := Lib.hid (fun o => sixTotalC A n c bs (w.alloc o) ((hr.below (Joins.below_alloc1 w o)).more (by simp)) hl hs hc)
  obtain ⟨T, hTe⟩ : ∃ T, tot6 bs = T := ⟨_, rfl⟩
  have HT := Lib.hid hTe
  rw [hTe] at hT HO HC
  have HT2 := Lib.hid hT
  have z0 := Lib.hid (K.new w (.cells #[.int .i64 0, .int .i64 0, .int .i64 0, .int .i64 0, .int .i64 0, .int .i64 0, .int .i64 0, .int .i64 0, .int .i64 0, .int .i64 0, .int .i64 0, .int .i64 0, .int .i64 0, .int .i64 0, .slice none 0 0, .slice none 0 0] 28))
  clear hr hl hc hTe
  go_enter Try.func19, Try.ntmps19
  go_wp2_with fail
  refine Calls.mono (HC.out _) ?_
  rintro e w1 ⟨rfl, rfl⟩
  go_wp2_with (with_reducible refine storeS rfl _ _ rfl w.heap.size rfl rfl z0.out ?_)
  (try simp only [Exit.inBlock, Exit.then])
  refine bodyPost_ret (v := .tuple #[.agg #[.int .i64 0, .int .i64 0, .int .i64 0, .int .i64 0, .int .i64 0, .int .i64 0, .int .i64 0, .int .i64 0, .int .i64 0, .int .i64 0, .int .i64 0, .int .i64 0, .int .i64 0, .int .i64 0, .slice none 0 0, .slice none 0 0], .slice none 0 0, .int .i64 T]) ?_ rfl (srOut_no HO.out HT2.out (K.setRow_below (Joins.below_alloc1 w _) (Nat.le_refl _) _))
  exact K.resCell3 Try.results19 _ _ _ w.heap.size _ rfl (run_loadVar_row _ _ 28 28 _ (0, 0) _ (setRow_heap _ _ _ _ _ _ z0.out) Try.underlying28 rfl info_six)

/-- What the operations of the last region leave. -/
def GSr (x : Sh) (A D : Option Addr) (q d l d1 : Nat) (X a : Addr) (n c t r cc base : Nat) (rs : List UInt8) (j : Nat) (w : World) (v : Value) : Prop :=
  if j = 4 ∨ j = 6 then ∃ E k, v = .slice E r k ∧ w.ownsRow base 5 1 (.slice E r k) r (cellsOf rs)
  else if j = 0 then v = .agg #[.int .i64 x.cls, .int .i64 x.label, .int .i64 x.hops, .int .i64 x.proto, .int .i64 x.src.k, .int .i64 x.src.a, .int .i64 x.src.b, .int .i64 x.src.c, .int .i64 x.src.d, .int .i64 x.dst.k, .int .i64 x.dst.a, .int .i64 x.dst.b, .int .i64 x.dst.c, .int .i64 x.dst.d, .slice A q d, .slice D l d1]
  else if j = 1 then v = .slice (some a) n c
  else if j = 2 then v = .int .i64 (t : Int)
  else if j = 3 then v = .slice (some X) r cc
  else if j = 7 then v = .int .i64 0
  else True
theorem gSr_on {x : Sh} {A D : Option Addr} {q d l d1 : Nat} {X a : Addr} {n c t r cc base : Nat} {rs : List UInt8} (j : Nat) (w w' : World) (v : Value) (h : ROwn r base rs w w') (hv : GSr x A D q d l d1 X a n c t r cc base rs j w v) : GSr x A D q d l d1 X a n c t r cc base rs j w' v := by
  unfold GSr at *
  split
  · rename_i h0
    rw [if_pos h0] at hv
    obtain ⟨E, k, e, o⟩ := hv
    exact ⟨E, k, e, h E k o⟩
  · rename_i h0
    rw [if_neg h0] at hv
    exact hv
/-- What stands while it runs. -/
structure ISr (x : Sh) (A D : Option Addr) (q d l d1 : Nat) (ds : List UInt8) (ys : List Ey) (W : World) (r b7 base : Nat) (m : Nat) (w : World) : Prop where
  below : Below W.heap.size W w
  low : base ≤ w.heap.size
  row : w.heap[b7]? = some (.cells #[.int .i64 x.cls, .int .i64 x.label, .int .i64 x.hops, .int .i64 x.proto, .int .i64 x.src.k, .int .i64 x.src.a, .int .i64 x.src.b, .int .i64 x.src.c, .int .i64 x.src.d, .int .i64 x.dst.k, .int .i64 x.dst.a, .int .i64 x.dst.b, .int .i64 x.dst.c, .int .i64 x.dst.d, .slice A q d, .slice D l d1] 28 (0, 0))
  res : m ≤ 1 → w.heap[r]? = some (.cells #[.int .i64 0, .int .i64 0, .int .i64 0, .int .i64 0, .int .i64 0, .int .i64 0, .int .i64 0, .int .i64 0, .int .i64 0, .int .i64 0, .int .i64 0, .int .i64 0, .int .i64 0, .int .i64 0, .slice none 0 0, .slice none 0 0] 28 (0, 0))
  done : 2 ≤ m → w.heap[r]? = some (.cells #[.int .i64 x.cls, .int .i64 x.label, .int .i64 x.hops, .int .i64 x.proto, .int .i64 x.src.k, .int .i64 x.src.a, .int .i64 x.src.b, .int .i64 x.src.c, .int .i64 x.src.d, .int .i64 x.dst.k, .int .i64 x.dst.a, .int .i64 x.dst.b, .int .i64 x.dst.c, .int .i64 x.dst.d, .slice A q d, .slice D l d1] 28 (0, 0))
  xo : XO w (W.heap.size + 1) A q d ys
  own : w.ownsRow (W.heap.size + 1) 5 1 (.slice D l d1) l (cellsOf ds)

set_option maxRecDepth 100000 in
set_option maxHeartbeats 4000000 in
theorem readI6_yes (a : Addr) (n c : Nat) (bs : List UInt8) (w : World) (hr : RB w w.heap.size (some a) bs) (hl : bs.length = n) (hs : n ≤ 1048576) (hc : n ≤ c) (hT : tot6 bs = 0) : Calls Try.prog 19 #[.slice (some a) n c] w (SROut bs w) := by
  obtain ⟨f1, f2, f3, f4, f5⟩ := tot6_zero hT
  rw [hl] at f1 f2 f4
  obtain ⟨t, ht⟩ : ∃ t, sEnd bs = t := ⟨_, rfl⟩
  obtain ⟨r, hrn⟩ : ∃ r, t + r = n := ⟨n - t, by omega⟩
  rw [ht] at f3 f4 f5
  obtain ⟨X, cc, hcut, hX⟩ := cut_atI a n c t r hrn
  have hc2 : t ≤ c := by omega
  have HCUT := Lib.hid hcut
  have HSL := Lib.hid (fun v : World => cut_front (some a) n c t hc2 v)
  obtain ⟨rs, hrs⟩ : ∃ rs, bs.drop t = rs := ⟨_, rfl⟩
  have hrl : rs.length = r := by rw [← hrs]; simp; omega
  have HX := Lib.hid (show RB w w.heap.size (some X) rs from hrs ▸ hX hr hl hc)
  have HRL := Lib.hid hrl
  have HC := Lib.hid (fun o => sixTotalC (some a) n c bs (w.alloc o) ((hr.below (Joins.below_alloc1 w o)).more (by simp)) hl hs hc)
  rw [hT, ht, if_pos rfl] at HC
  obtain ⟨R, hR⟩ : ∃ R, sWalk bs = R := ⟨_, rfl⟩
  have hR2 : walkX (bs.take t) t 4 40 (num (bs.take t) 6 1) [] = R := by rw [walkX_take, num_take bs t 6 1 (by omega), ← hR, ← ht]; rfl
  have r0 : Hid (Rp ((w.alloc (.cells #[.int .i64 0, .int .i64 0, .int .i64 0, .int .i64 0, .int .i64 0, .int .i64 0, .int .i64 0, .int .i64 0, .int .i64 0, .int .i64 0, .int .i64 0, .int .i64 0, .int .i64 0, .int .i64 0, .slice none 0 0, .slice none 0 0] 28)).alloc (.cells #[.slice (some a) t c, .int .i64 0] 86)) (w.heap.size + 1) (some a) t c (bs.take t) 0) := by
    refine Lib.hid ⟨(by repeat (first | exact K.newAt (by first | rfl | (simp; done)) | refine K.oldAt (by first | (simp; done) | (simp; omega)) ?_)), ?_, by simp; omega, by omega, hc2⟩
    exact ((RB.front hr t).below (Joins.below_alloc2 w _ _)).more (by omega)
  have HS := Lib.hid (sixOfC _ (w.heap.size + 1) a t c (bs.take t) _ _ _ _ _ _ _ r0.out f5 rfl rfl rfl rfl rfl rfl rfl)
  rw [hR2] at HS
  have FN := Lib.hid (fun (hn : R = none) => show src6 bs = 5 by rw [src6_tot, hT, hR, hn]; rfl)
  have FY := Lib.hid (fun (hn : R ≠ none) => show src6 bs = 0 by rw [src6_tot, hT, hR]; cases R with | none => exact absurd rfl hn | some _ => rfl)
  have e1 : num (bs.take t) 0 4 = num bs 0 4 := num_take bs t 0 4 (by omega)
  have e2 : num (bs.take t) 7 1 = num bs 7 1 := num_take bs t 7 1 (by omega)
  have e3 := cut_take bs t 8 16 (by omega)
  have e4 := cut_take bs t 24 16 (by omega)
  rw [e1, e2, e3, e4] at HS
  have HS2 : Hid (Calls Try.prog 66 #[.pointer (some ⟨w.heap.size + 1, 0, none⟩)] ((w.alloc (.cells #[.int .i64 0, .int .i64 0, .int .i64 0, .int .i64 0, .int .i64 0, .int .i64 0, .int .i64 0, .int .i64 0, .int .i64 0, .int .i64 0, .int .i64 0, .int .i64 0, .int .i64 0, .int .i64 0, .slice none 0 0, .slice none 0 0] 28)).alloc (.cells #[.slice (some a) t c, .int .i64 0] 86)) fun e w' =>
      ((w.alloc (.cells #[.int .i64 0, .int .i64 0, .int .i64 0, .int .i64 0, .int .i64 0, .int .i64 0, .int .i64 0, .int .i64 0, .int .i64 0, .int .i64 0, .int .i64 0, .int .i64 0, .int .i64 0, .int .i64 0, .slice none 0 0, .slice none 0 0] 28)).alloc (.cells #[.slice (some a) t c, .int .i64 0] 86)).grownBy w' (some (w.heap.size + 1)) ∧ ((R = none ∧ e = .returned (.tuple #[.agg #[.int .i64 0, .int .i64 0, .int .i64 0, .int .i64 0, .int .i64 0, .int .i64 0, .int .i64 0, .int .i64 0, .int .i64 0, .int .i64 0, .int .i64 0, .int .i64 0, .int .i64 0, .int .i64 0, .slice none 0 0, .slice none 0 0], .bool false])) ∨
      ∃ (acc : List (Int × List UInt8)) (kind k l : Nat) (A : Option Addr) (d : Nat) (ys : List Ey) (D : Option Addr) (d1 : Nat), R = some (acc, kind, k) ∧ k + l = t ∧ e = .returned (.tuple #[.agg #[.int .i64 (sx0 bs kind).cls, .int .i64 (sx0 bs kind).label, .int .i64 (sx0 bs kind).hops, .int .i64 (sx0 bs kind).proto, .int .i64 (sx0 bs kind).src.k, .int .i64 (sx0 bs kind).src.a, .int .i64 (sx0 bs kind).src.b, .int .i64 (sx0 bs kind).src.c, .int .i64 (sx0 bs kind).src.d, .int .i64 (sx0 bs kind).dst.k, .int .i64 (sx0 bs kind).dst.a, .int .i64 (sx0 bs kind).dst.b, .int .i64 (sx0 bs kind).dst.c, .int .i64 (sx0 bs kind).dst.d, .slice A acc.length d, .slice D l d1], .bool true]) ∧ XO w' (w.heap.size + 2) A acc.length d ys ∧ ys.map Ey.says = acc ∧
        w'.ownsRow (w.heap.size + 2) 5 1 (.slice D l d1) l (cellsOf (((bs.take t).drop k).take l)) ∧ (∀ k, (Value.slice D l d1).ownBlock = some k → (Value.slice A acc.length d).ownBlock ≠ some k ∧ ∀ z ∈ ys, z.body.ownBlock ≠ some k))) := Lib.hid (HS.out.mono fun e w' h => by
    obtain ⟨h1, h2 | ⟨acc, kind, k, l, A, d, ys, D, d1, p1, p2, p3, p4, p5, p6, p7⟩⟩ := h
    · exact ⟨h1, .inl h2⟩
    · exact ⟨h1, .inr ⟨acc, kind, k, l, A, d, ys, D, d1, p1, p2, p3, p4.base (by simp), p5, own_base p6 (by simp), p7⟩⟩)
  have HR := Lib.hid (And.intro hR (And.intro ht hrs))
  have z0 := Lib.hid (K.old (K.new w (.cells #[.int .i64 0, .int .i64 0, .int .i64 0, .int .i64 0, .int .i64 0, .int .i64 0, .int .i64 0, .int .i64 0, .int .i64 0, .int .i64 0, .int .i64 0, .int .i64 0, .int .i64 0, .int .i64 0, .slice none 0 0, .slice none 0 0] 28)) (.cells #[.slice (some a) t c, .int .i64 0] 86))
  have HCT := Lib.hid (fun k l (h : k + l = t) => show ((bs.take t).drop k).take l = (bs.drop k).take (sEnd bs - k) by rw [cut_take bs t k l (by omega), ht, show t - k = l by omega])
  have HLT := Lib.hid (fun k l (h : k + l = t) => show ((bs.drop k).take (sEnd bs - k)).length = l by rw [ht]; simp; omega)
  clear hr hT ht hR hR2 hrs hrl hX hcut r0 e1 e2 e3 e4 HS
  have hsl := HSL.out
  go_enter Try.func19, Try.ntmps19
  go_wp2_with fail
  refine Calls.mono (HC.out _) ?_
  rintro e w0 ⟨rfl, rfl⟩
  go_wp2_with fail
  clear hsl
  refine Calls.mono HS2.out ?_
  rintro e w1 ⟨g1, ⟨hno, rfl⟩ | ⟨acc, kind, k, l, A, d, ys, D, d1, hsome, hkl, rfl, x1, hys, o1, ap⟩⟩
  · have z1 := Lib.hid (K.old (K.kept g1 z0.out (fun k hk => by cases hk; omega)) (.cells #[.int .i64 0, .int .i64 0, .int .i64 0, .int .i64 0, .int .i64 0, .int .i64 0, .int .i64 0, .int .i64 0, .int .i64 0, .int .i64 0, .int .i64 0, .int .i64 0, .int .i64 0, .int .i64 0, .slice none 0 0, .slice none 0 0] 28))
    have B1 := Lib.hid (bthen (bgrown (Joins.below_alloc2 w _ _) g1 (fun k hk => by cases hk; omega)) (Joins.below_alloc1 w1 (.cells #[.int .i64 0, .int .i64 0, .int .i64 0, .int .i64 0, .int .i64 0, .int .i64 0, .int .i64 0, .int .i64 0, .int .i64 0, .int .i64 0, .int .i64 0, .int .i64 0, .int .i64 0, .int .i64 0, .slice none 0 0, .slice none 0 0] 28)))
    have HN := Lib.hid (FN.out hno)
    clear g1 hno
    go_wp2_with (first | (with_reducible refine storeNewS rfl _ _ rfl rfl rfl ?_) | (with_reducible refine storeS rfl _ _ rfl w.heap.size rfl rfl z1.out ?_))
    (try simp only [Exit.inBlock, Exit.then])
    refine bodyPost_ret (v := .tuple #[.agg #[.int .i64 0, .int .i64 0, .int .i64 0, .int .i64 0, .int .i64 0, .int .i64 0, .int .i64 0, .int .i64 0, .int .i64 0, .int .i64 0, .int .i64 0, .int .i64 0, .int .i64 0, .int .i64 0, .slice none 0 0, .slice none 0 0], .slice none 0 0, .int .i64 5]) ?_ rfl (srOut_no HN.out (by omega) (K.setRow_below B1.out (Nat.le_refl _) _))
    exact K.resCell3 Try.results19 _ _ _ w.heap.size _ rfl (run_loadVar_row _ _ 28 28 _ (0, 0) _ (setRow_heap _ _ _ _ _ _ z1.out) Try.underlying28 rfl info_six)
  · obtain ⟨q, hq⟩ : ∃ q, acc.length = q := ⟨_, rfl⟩
    obtain ⟨x, hx⟩ : ∃ x, sx0 bs kind = x := ⟨_, rfl⟩
    obtain ⟨ds, hds⟩ : ∃ ds, (bs.drop k).take (sEnd bs - k) = ds := ⟨_, rfl⟩
    rw [hq] at x1 ap ⊢
    rw [hx]
    rw [HCT.out k l hkl, hds] at o1
    have FIN := Lib.hid (fun (w' : World) (E : Option Addr) (g : Nat) oA oD oE h1 h2 hb => srOut_yes (m := l) (w := w) (w' := w') (A := A) (D := D) (E := E) (c := d) (d := d1) (g := g) (zs := ys) (FY.out (by simp [hsome])) (HR.out.1.trans hsome) hx hds (show bs.drop (sEnd bs) = rs by rw [HR.out.2.1, HR.out.2.2]) hq (show ds.length = l from hds ▸ HLT.out k l hkl) HRL.out oA hys oD oE h1 h2 hb)
    have z1 := Lib.hid (K.kept g1 z0.out (fun k hk => by cases hk; omega))
    have B1 := Lib.hid (bgrown (Joins.below_alloc2 w _ _) g1 (fun k hk => by cases hk; omega))
    have lw : w.heap.size + 2 ≤ w1.heap.size := by have := g1.size; simpa using this
    have X1 := Lib.hid (x1.base (show w.heap.size + 1 ≤ _ by omega))
    have O1 := Lib.hid (own_base o1 (show w.heap.size + 1 ≤ _ by omega))
    have LX := Lib.hid x1.lt
    have LD := Lib.hid o1.lt
    have AP := Lib.hid ap
    clear g1 x1 o1 ap hsome hys hq hx hds hkl
    have I0 : Hid (ISr x A D q d l d1 ds ys w w.heap.size w1.heap.size (w1.heap.size + 1) 0 (w1.alloc (.cells #[.int .i64 x.cls, .int .i64 x.label, .int .i64 x.hops, .int .i64 x.proto, .int .i64 x.src.k, .int .i64 x.src.a, .int .i64 x.src.b, .int .i64 x.src.c, .int .i64 x.src.d, .int .i64 x.dst.k, .int .i64 x.dst.a, .int .i64 x.dst.b, .int .i64 x.dst.c, .int .i64 x.dst.d, .slice A q d, .slice D l d1] 28)).drew) := Lib.hid
      ⟨⟨B1.out.os, B1.out.tape, B1.out.output, by have := B1.out.size; show _ ≤ (w1.alloc _).heap.size; simp; omega, fun k hk => (Below.heap_alloc w1 _ k (by omega)).trans (B1.out.block k hk)⟩, by show _ ≤ (w1.alloc _).heap.size; simp, K.new w1 _, fun _ => K.old z1.out _, fun h => by omega, have h := X1.out.below (Joins.below_alloc1 w1 (.cells #[.int .i64 x.cls, .int .i64 x.label, .int .i64 x.hops, .int .i64 x.proto, .int .i64 x.src.k, .int .i64 x.src.a, .int .i64 x.src.b, .int .i64 x.src.c, .int .i64 x.src.d, .int .i64 x.dst.k, .int .i64 x.dst.a, .int .i64 x.dst.b, .int .i64 x.dst.c, .int .i64 x.dst.d, .slice A q d, .slice D l d1] 28)); ⟨h.len, h.row, h.own, h.apart, h.off⟩, O1.out.alloc _⟩
    go_wp2_with (with_reducible refine storeNewS rfl _ _ rfl rfl rfl ?_)
    refine wp_region_chain (by kernel_rfl) (GSr x A D q d l d1 X a n c t r cc (w1.heap.size + 1) rs) [0, 2, 5, 7] [4, 5, 6, 7] (ISr x A D q d l d1 ds ys w w.heap.size w1.heap.size (w1.heap.size + 1)) (ROwn r (w1.heap.size + 1) rs) 36 (by kernel_rfl) (by kernel_rfl) rfl I0.out (fun j v v' u hb hv => gSr_on j v v' u hb hv) ?_ ?_
    · intro j o ho m a' v K' hx hnd hm hI hK
      have idR : ROwn r (w1.heap.size + 1) rs v v := fun _ _ h => h
      match j, ho with
      | 0, ho =>
        obtain rfl := Option.some.inj ho
        exact wp_load_row 28 _ rfl w1.heap.size (out_of hx 7 (by simp) rfl) _ _ (0, 0) _ hI.row Try.underlying28 rfl info_six (hK _ _ rfl idR hI)
      | 1, ho =>
        obtain rfl := Option.some.inj ho
        exact s_move 0 _ rfl (out_of hx 0 (by simp) rfl) (hK _ _ rfl idR hI)
      | 2, ho =>
        obtain rfl := Option.some.inj ho
        exact s_move 5 _ rfl (out_of hx 5 (by simp) rfl) (hK _ _ rfl idR hI)
      | 3, ho =>
        obtain rfl := Option.some.inj ho
        have h1 : a'.eval (.tmp 32) = .slice (some a) n c := (need_of (Γ := GSr x A D q d l d1 X a n c t r cc (w1.heap.size + 1) rs) (w := v) hnd 1 32 (by kernel_rfl) :)
        have h2 : a'.eval (.tmp 33) = .int .i64 (t : Int) := (need_of (Γ := GSr x A D q d l d1 X a n c t r cc (w1.heap.size + 1) rs) (w := v) hnd 2 33 (by kernel_rfl) :)
        exact u_cut _ _ _ _ _ rfl h1 h2 HCUT.out (hK _ _ rfl idR hI)
      | 4, ho =>
        obtain rfl := Option.some.inj ho
        have h1 : a'.eval (.tmp 34) = .slice (some X) r cc := (need_of (Γ := GSr x A D q d l d1 X a n c t r cc (w1.heap.size + 1) rs) (w := v) hnd 3 34 (by kernel_rfl) :)
        obtain rfl : 0 = m := hm 0 rfl
        refine u_clone _ _ _ rfl h1 ((cloneC X r cc rs _ v (HX.out.below hI.below) hI.below.size HRL.out (by omega)).mono ?_)
        rintro e' v' ⟨E', k', rfl, o8, b⟩
        exact ⟨_, rfl, hK _ _ ⟨E', k', rfl, own_base o8 hI.low⟩ (fun _ _ h => own_below h b) ⟨bthen hI.below b, Nat.le_trans hI.low b.size, K.below b hI.row, fun _ => K.below b (hI.res (by omega)), fun h => absurd h (by decide), hI.xo.below b, own_below hI.own b⟩⟩
      | 5, ho =>
        obtain rfl := Option.some.inj ho
        have h1 : a'.eval (.tmp 31) = .agg #[.int .i64 x.cls, .int .i64 x.label, .int .i64 x.hops, .int .i64 x.proto, .int .i64 x.src.k, .int .i64 x.src.a, .int .i64 x.src.b, .int .i64 x.src.c, .int .i64 x.src.d, .int .i64 x.dst.k, .int .i64 x.dst.a, .int .i64 x.dst.b, .int .i64 x.dst.c, .int .i64 x.dst.d, .slice A q d, .slice D l d1] := (need_of (Γ := GSr x A D q d l d1 X a n c t r cc (w1.heap.size + 1) rs) (w := v) hnd 0 31 (by kernel_rfl) :)
        obtain rfl : 1 = m := hm 1 rfl
        refine wp_store_row 28 _ _ rfl w.heap.size _ (out_of hx 2 (by simp) rfl) h1 _ _ (hI.res (by omega)) info_six rfl (by simp [Value.oneCell']) (hK _ _ trivial (fun _ _ h => K.setRow_own _ h (by omega)) ⟨K.setRow_below hI.below (Nat.le_refl _) _, by rw [setRow_size]; exact hI.low, by rw [setRow_other _ _ _ _ (by omega)]; exact hI.row, fun h => absurd h (by decide), fun _ => setRow_heap _ _ _ _ _ _ (hI.res (by omega)), hI.xo.setRow _ _ (by omega), K.setRow_own _ hI.own (by omega)⟩)
      | 6, ho =>
        obtain rfl := Option.some.inj ho
        obtain ⟨E', k', h1, h2⟩ : ∃ E k, a'.eval (.tmp 35) = .slice E r k ∧ v.ownsRow (w1.heap.size + 1) 5 1 (.slice E r k) r (cellsOf rs) := (need_of (Γ := GSr x A D q d l d1 X a n c t r cc (w1.heap.size + 1) rs) (w := v) hnd 4 35 (by kernel_rfl) :)
        obtain rfl : 2 = m := hm 2 rfl
        exact t_assign _ _ rfl h1 (hK _ _ ⟨E', k', rfl, h2⟩ idR ⟨hI.below, hI.low, hI.row, fun h => absurd h (by decide), fun _ => hI.done (by omega), hI.xo, hI.own⟩)
      | 7, ho =>
        obtain rfl := Option.some.inj ho
        obtain rfl : 3 = m := hm 3 rfl
        exact t_const _ rfl (hK _ _ rfl idR ⟨hI.below, hI.low, hI.row, fun h => absurd h (by decide), fun _ => hI.done (by omega), hI.xo, hI.own⟩)
      | j + 8, ho => simp at ho
    · intro a' w' hsz hdf hout hrest hG hI
      have g2 : a'.tmps.getD 2 undef = .pointer (some ⟨w.heap.size, 0, none⟩) := hout 2 (by simp)
      obtain ⟨E', k', g3, oE⟩ : ∃ E k, a'.tmps.getD 3 undef = .slice E r k ∧ w'.ownsRow (w1.heap.size + 1) 5 1 (.slice E r k) r (cellsOf rs) := hG 6 _ 3 rfl rfl
      have g4 : a'.tmps.getD 4 undef = .int .i64 0 := hG 7 _ 4 rfl rfl
      have D0 := Lib.hid (And.intro hdf (And.intro g2 (And.intro g3 g4)))
      have HI := Lib.hid (And.intro hI oE)
      clear hout hrest hG oE hsz hdf g2 g3 g4 hI
      go_wp2
      (try simp only [Exit.inBlock, Exit.then])
      obtain ⟨hI, oE⟩ := HI.out
      refine bodyPost_ret (v := .tuple #[.agg #[.int .i64 x.cls, .int .i64 x.label, .int .i64 x.hops, .int .i64 x.proto, .int .i64 x.src.k, .int .i64 x.src.a, .int .i64 x.src.b, .int .i64 x.src.c, .int .i64 x.src.d, .int .i64 x.dst.k, .int .i64 x.dst.a, .int .i64 x.dst.b, .int .i64 x.dst.c, .int .i64 x.dst.d, .slice A q d, .slice D l d1], .slice E' r k', .int .i64 0]) ?_ D0.out.1 (FIN.out _ _ _ (hI.xo.base (by omega)) (own_base hI.own (by omega)) (own_base oE (by omega)) AP.out (fun u hu => ⟨fun e => by have := LD.out u e; have := (oE.lt u hu).1; omega, fun e => by have := LX.out.1 u e; have := (oE.lt u hu).1; omega, fun z hz e => by have := LX.out.2 z hz u e; have := (oE.lt u hu).1; omega⟩) hI.below)
      rw [K.resCell3 Try.results19 _ _ _ w.heap.size _ D0.out.2.1 (run_loadVar_row _ _ 28 28 _ (0, 0) _ (hI.done (by decide)) Try.underlying28 rfl info_six), D0.out.2.2.1, D0.out.2.2.2]

theorem implSixRead (A : Option Addr) (n c : Nat) (bs : List UInt8) (w : World) (hr : RB w w.heap.size A bs) (hl : bs.length = n) (hs : n ≤ 1048576) (hc : n ≤ c) : Calls Try.prog 19 #[.slice A n c] w (SROut bs w) := by
  by_cases hT : tot6 bs = 0
  · obtain ⟨g, o, rfl, _, _⟩ := hr.at_ (k := 0) (by have := tot6_zero hT; omega)
    exact readI6_yes _ n c bs w hr hl hs hc hT
  · exact readI6_no A n c bs w hr hl hs hc hT
end Go.Proofs.Ytkmijefheejcjaa
