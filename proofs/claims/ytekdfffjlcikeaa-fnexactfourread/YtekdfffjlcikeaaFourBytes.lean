/-
  FourBytes, in the model and in the program: its last region draws its order.
-/
import Derived.Test.YtekdfffjlcikeaaFourSum
import Derived.Test.YtekdfffjlcikeaaFourReg
import Derived.Test.YtekdfffjlcikeaaRegStage
namespace Go.Proofs.Ytekdfffjlcikeaa
open Go.RowKit

section
variable {o : Oper} {a : Act} {w : World} {K : Act → World → Prop} {Q : Exit → Act → World → Prop}
theorem t_fld18 (t : Nat) (g : Nat) (ho : o.op = .fieldAddr 31 (.tmp t) 10) (ht : a.eval (.tmp t) = .pointer (some ⟨g, 0, none⟩)) (hK : K (a.put o.dst (.pointer (some ⟨g, 18, none⟩))) w) : o.wp Try.prog a w K Q := by
  unfold Oper.wp execOp
  simp only [ho, ht]
  go_simp
  exact hK
theorem t_loadB (t g j : Nat) (v : Value) (ho : o.op = .load 24 (.tmp t)) (ht : a.eval (.tmp t) = .pointer (some ⟨g, j, none⟩)) (hc : w.cell? ⟨g, j, none⟩ = some v) (hK : K (a.put o.dst v) w) : o.wp Try.prog a w K Q := by
  unfold Oper.wp execOp
  simp only [ho, ht]
  go_simp
  exact hK
theorem t_assign (t : Nat) (v : Value) (ho : o.op = .assign (.tmp t)) (ht : a.eval (.tmp t) = v) (hK : K (a.put o.dst v) w) : o.wp Try.prog a w K Q := by
  unfold Oper.wp execOp
  simp only [ho, ht]
  go_simp
  exact hK
theorem t_sum (t : Nat) (u : Value) (ts : Array TypeId) (ho : o.op = .call { callee := .value (.func 17), args := #[.tmp t], argTypes := ts }) (ht : a.eval (.tmp t) = u)
    (h : Calls Try.prog 17 #[u] w fun e w' => ∃ v, e = .returned v ∧ K (a.put o.dst v) w') : o.wp Try.prog a w K Q := by
  unfold Oper.wp execOp
  simp only [ho, resolve, List.map_toArray, List.map_cons, List.map_nil, ht, show ∀ f, a.eval (.func f) = .func (.func f) #[] #[] from fun _ => rfl]
  go_simp
  exact h.mono fun e w' ⟨u, he, hk⟩ => by subst he; exact hk
theorem t_headS (t s : Nat) (u v : Value) (ts : Array TypeId) (ho : o.op = .call { callee := .value (.func 44), args := #[.tmp t, .tmp s], argTypes := ts }) (ht : a.eval (.tmp t) = u) (hs : a.eval (.tmp s) = v)
    (h : Calls Try.prog 44 #[u, v] w fun e w' => ∃ v, e = .returned v ∧ K (a.put o.dst v) w') : o.wp Try.prog a w K Q := by
  unfold Oper.wp execOp
  simp only [ho, resolve, List.map_toArray, List.map_cons, List.map_nil, ht, hs, show ∀ f, a.eval (.func f) = .func (.func f) #[] #[] from fun _ => rfl]
  go_simp
  exact h.mono fun e w' ⟨u, he, hk⟩ => by subst he; exact hk
theorem t_headI (t s : Nat) (u v : Value) (ts : Array TypeId) (ho : o.op = .call { callee := .value (.func 46), args := #[.tmp t, .tmp s], argTypes := ts }) (ht : a.eval (.tmp t) = u) (hs : a.eval (.tmp s) = v)
    (h : Calls Try.prog 46 #[u, v] w fun e w' => ∃ v, e = .returned v ∧ K (a.put o.dst v) w') : o.wp Try.prog a w K Q := by
  unfold Oper.wp execOp
  simp only [ho, resolve, List.map_toArray, List.map_cons, List.map_nil, ht, hs, show ∀ f, a.eval (.func f) = .func (.func f) #[] #[] from fun _ => rfl]
  go_simp
  exact h.mono fun e w' ⟨u, he, hk⟩ => by subst he; exact hk
theorem t_append (s x : Nat) (ho : o.op = .call { callee := .builtin .append, args := #[.tmp s, .tmp x], argTypes := #[24, 24] }) (base : Nat) (v : Value) (bs : List UInt8) (hs : a.eval (.tmp s) = v) (hown : w.ownsRow base 5 1 v bs.length (cellsOf bs))
    (B : Nat) (A : Option Addr) (m c : Nat) (ds : List UInt8) (hx : a.eval (.tmp x) = .slice A m c) (hm : ds.length = m) (hr : RB w B A ds) (hn : bs.length + ds.length ≤ 67108864) (hbase : base ≤ w.heap.size)
    (h : ∀ v' w', w'.ownsRow base 5 1 v' (bs ++ ds).length (cellsOf (bs ++ ds)) → w.grownBy w' v.ownBlock → K (a.put o.dst v') w') : o.wp Try.prog a w K Q := by
  obtain ⟨v', w', hrun, h2, h3, h4⟩ := run_append_b w o.type base v bs hown B A m c ds hm hr hn hbase
  unfold Oper.wp execOp
  simp only [ho, resolve, invoke, builtin, Sem.run_bind, Sem.run_pure, Result.andThen_ok, List.map_toArray, List.map_cons, List.map_nil, hs, hx, hrun]
  exact h v' w' h2 h3
end

def FBOut (x : Fh) (os bs : List UInt8) (w : World) (e : Ending) (w' : World) : Prop := ∃ A c, e = .returned (.slice A (x.bytes os bs).length c) ∧ w'.ownsRow w.heap.size 5 1 (.slice A (x.bytes os bs).length c) (x.bytes os bs).length (cellsOf (x.bytes os bs)) ∧ Below w.heap.size w w'
theorem fbOut_no {x : Fh} {os bs : List UInt8} (h : x.ok os.length bs.length = false) {w w' : World} (hb : Below w.heap.size w w') : FBOut x os bs w (.returned (.slice none 0 0)) w' := by
  have e : x.bytes os bs = [] := by simp [Fh.bytes, h]
  unfold FBOut
  rw [e]
  exact ⟨none, 0, rfl, ⟨rfl, .inl ⟨rfl, rfl⟩⟩, hb⟩

/-- What the operations leave: L is the number of the call that makes the head, P the link of the chain at which the bytes are appended. -/
def GFB (x : Fh) (A D : Option Addr) (n c m d g base L P : Nat) (s : Int) (hd all : List UInt8) (j k : Nat) (w : World) (v : Value) : Prop :=
  if j = L then ∃ A2 c2, v = .slice A2 (20 + n) c2 ∧ (k ≤ P → w.ownsRow base 5 1 (.slice A2 (20 + n) c2) (20 + n) (cellsOf hd))
  else if j = L + 1 then v = .pointer (some ⟨g, 18, none⟩)
  else if j = L + 2 then v = .slice D m d
  else if j = L + 3 then P < k ∧ w.ownsRow base 5 1 v all.length (cellsOf all)
  else if j = L + 4 then P + 1 < k ∧ w.ownsRow base 5 1 v all.length (cellsOf all)
  else if j = L - 1 then v = .int .i64 s
  else v = .agg #[.int .i64 x.dscp, .int .i64 x.ecn, .int .i64 x.id, .int .i64 x.flags, .int .i64 x.frag, .int .i64 x.ttl, .int .i64 x.proto, .int .i64 x.src.k, .int .i64 x.src.a, .int .i64 x.src.b, .int .i64 x.src.c, .int .i64 x.src.d, .int .i64 x.dst.k, .int .i64 x.dst.a, .int .i64 x.dst.b, .int .i64 x.dst.c, .int .i64 x.dst.d, .slice A n c, .slice D m d]

theorem gfb_on {x : Fh} {A D : Option Addr} {n c m d g base L P : Nat} {s : Int} {hd all : List UInt8} {i k k' : Nat} {w w' : World} {u : Value} (hk : k' = k ∨ k' = k + 1) (hb : Below w.heap.size w w') (h : GFB x A D n c m d g base L P s hd all i k w u) : GFB x A D n c m d g base L P s hd all i k' w' u := by
  unfold GFB at *
  split
  · rename_i h1
    rw [if_pos h1] at h
    obtain ⟨A2, c2, e, o⟩ := h
    exact ⟨A2, c2, e, fun hk' => own_below (o (by omega)) hb⟩
  · rename_i h1
    rw [if_neg h1] at h
    split
    · rename_i h2; rw [if_pos h2] at h; exact h
    · rename_i h2
      rw [if_neg h2] at h
      split
      · rename_i h3; rw [if_pos h3] at h; exact h
      · rename_i h3
        rw [if_neg h3] at h
        split
        · rename_i h4; rw [if_pos h4] at h; exact ⟨by omega, own_below h.2 hb⟩
        · rename_i h4
          rw [if_neg h4] at h
          split
          · rename_i h5; rw [if_pos h5] at h; exact ⟨by omega, own_below h.2 hb⟩
          · rename_i h5; rw [if_neg h5] at h; exact h
theorem gfb_app {x : Fh} {A D : Option Addr} {n c m d g base L P : Nat} {s : Int} {hd all : List UInt8} {i : Nat} {w w' : World} {u : Value} (hi : i ≠ L + 3) (h : GFB x A D n c m d g base L P s hd all i P w u) : GFB x A D n c m d g base L P s hd all i (P + 1) w' u := by
  unfold GFB at *
  split
  · rename_i h1
    rw [if_pos h1] at h
    obtain ⟨A2, c2, e, o⟩ := h
    exact ⟨A2, c2, e, fun hk' => by omega⟩
  · rename_i h1
    rw [if_neg h1] at h
    split
    · rename_i h2; rw [if_pos h2] at h; exact h
    · rename_i h2
      rw [if_neg h2] at h
      split
      · rename_i h3; rw [if_pos h3] at h; exact h
      · rename_i h3
        rw [if_neg h3, if_neg hi] at h
        split
        · rename_i h5; rw [if_pos h5] at h; have := h.1; omega
        · rename_i h5; rw [if_neg h5] at h; exact h
theorem sum_word {x : Fh} {os : List UInt8} {n m : Nat} (hok : x.ok n m = true) (hl : os.length = n) : ¬ x.sum os m = -1 := by
  have h1 : x.sum os m = checksum (x.head 0 os m) := by simp [Fh.sum, hl, hok]
  have h2 := ((x.ok_iff n m).1 hok).2.2.2.1.1
  have h3 := comp_word (onesSum_word (bs := x.head 0 os m) (by rw [Fh.head_length]; omega))
  have h4 : isWord (checksum (x.head 0 os m)) = true := h3
  rw [isWord_iff] at h4
  omega

set_option maxRecDepth 100000 in
set_option maxHeartbeats 1000000 in
theorem fbS_no (x : Fh) (A D : Option Addr) (n c m d : Nat) (os bs : List UInt8) (w : World) (hn : n ≤ 1048576) (hr : RB w w.heap.size A os) (hl : os.length = n) (hm : bs.length = m) (hok : x.ok n m = false) : Calls Try.prog 19 #[.agg #[.int .i64 x.dscp, .int .i64 x.ecn, .int .i64 x.id, .int .i64 x.flags, .int .i64 x.frag, .int .i64 x.ttl, .int .i64 x.proto, .int .i64 x.src.k, .int .i64 x.src.a, .int .i64 x.src.b, .int .i64 x.src.c, .int .i64 x.src.d, .int .i64 x.dst.k, .int .i64 x.dst.a, .int .i64 x.dst.b, .int .i64 x.dst.c, .int .i64 x.dst.d, .slice A n c, .slice D m d]] w (FBOut x os bs w) := by
  have SO := Lib.hid (fun w => show Calls Try.prog 15 #[.agg #[.int .i64 x.dscp, .int .i64 x.ecn, .int .i64 x.id, .int .i64 x.flags, .int .i64 x.frag, .int .i64 x.ttl, .int .i64 x.proto, .int .i64 x.src.k, .int .i64 x.src.a, .int .i64 x.src.b, .int .i64 x.src.c, .int .i64 x.src.d, .int .i64 x.dst.k, .int .i64 x.dst.a, .int .i64 x.dst.b, .int .i64 x.dst.c, .int .i64 x.dst.d, .slice A n c, .slice D m d]] w fun e w' => e = .returned (.bool false) ∧ Below w.heap.size w w' from hok ▸ specFourOk x A D n c m d _ hn)
  have H := Lib.hid (show x.ok os.length bs.length = false by rw [hl, hm]; exact hok)
  have HR := Lib.hid hr
  clear hok hl hm hr
  have q := Lib.hid (K.new w (.cells #[.int .i64 x.dscp, .int .i64 x.ecn, .int .i64 x.id, .int .i64 x.flags, .int .i64 x.frag, .int .i64 x.ttl, .int .i64 x.proto, .int .i64 x.src.k, .int .i64 x.src.a, .int .i64 x.src.b, .int .i64 x.src.c, .int .i64 x.src.d, .int .i64 x.dst.k, .int .i64 x.dst.a, .int .i64 x.dst.b, .int .i64 x.dst.c, .int .i64 x.dst.d, .slice A n c, .slice D m d] 31))
  go_enter Try.func19, Try.ntmps19
  go_wp2_with (with_reducible refine loadF rfl _ rfl w.heap.size rfl q.out ?_)
  refine Calls.mono (SO.out _) ?_
  rintro e w1 ⟨rfl, b1⟩
  have B := Lib.hid (bthen (Joins.below_alloc1 w _) b1)
  clear b1
  go_wp2
  go_ret
  exact fbOut_no H.out B.out

set_option maxRecDepth 100000 in
set_option maxHeartbeats 2000000 in
theorem fbS_yes (x : Fh) (A D : Option Addr) (n c m d : Nat) (os bs : List UInt8) (w : World) (hn : n ≤ 1048576) (hr : RB w w.heap.size A os) (hl : os.length = n) (hs : RB w w.heap.size D bs) (hm : bs.length = m) (hok : x.ok n m = true) : Calls Try.prog 19 #[.agg #[.int .i64 x.dscp, .int .i64 x.ecn, .int .i64 x.id, .int .i64 x.flags, .int .i64 x.frag, .int .i64 x.ttl, .int .i64 x.proto, .int .i64 x.src.k, .int .i64 x.src.a, .int .i64 x.src.b, .int .i64 x.src.c, .int .i64 x.src.d, .int .i64 x.dst.k, .int .i64 x.dst.a, .int .i64 x.dst.b, .int .i64 x.dst.c, .int .i64 x.dst.d, .slice A n c, .slice D m d]] w (FBOut x os bs w) := by
  have SO := Lib.hid (fun w => show Calls Try.prog 15 #[.agg #[.int .i64 x.dscp, .int .i64 x.ecn, .int .i64 x.id, .int .i64 x.flags, .int .i64 x.frag, .int .i64 x.ttl, .int .i64 x.proto, .int .i64 x.src.k, .int .i64 x.src.a, .int .i64 x.src.b, .int .i64 x.src.c, .int .i64 x.src.d, .int .i64 x.dst.k, .int .i64 x.dst.a, .int .i64 x.dst.b, .int .i64 x.dst.c, .int .i64 x.dst.d, .slice A n c, .slice D m d]] w fun e w' => e = .returned (.bool true) ∧ Below w.heap.size w w' from hok ▸ specFourOk x A D n c m d _ hn)
  have H := Lib.hid (show x.bytes os bs = x.head (x.sum os m) os m ++ bs by subst hl hm; simp only [Fh.bytes, hok, if_true])
  have EL := Lib.hid (show (x.head (x.sum os m) os m).length = 20 + n by rw [Fh.head_length, hl])
  have HO := Lib.hid hok
  have HN := Lib.hid ((x.ok_iff n m).1 hok).2.2.2
  have HR := Lib.hid hr
  have HL := Lib.hid hl
  have HS := Lib.hid hs
  have HM := Lib.hid hm
  clear hok hr hl hs hm
  have q := Lib.hid (K.new w (.cells #[.int .i64 x.dscp, .int .i64 x.ecn, .int .i64 x.id, .int .i64 x.flags, .int .i64 x.frag, .int .i64 x.ttl, .int .i64 x.proto, .int .i64 x.src.k, .int .i64 x.src.a, .int .i64 x.src.b, .int .i64 x.src.c, .int .i64 x.src.d, .int .i64 x.dst.k, .int .i64 x.dst.a, .int .i64 x.dst.b, .int .i64 x.dst.c, .int .i64 x.dst.d, .slice A n c, .slice D m d] 31))
  go_enter Try.func19, Try.ntmps19
  go_wp2_with (with_reducible refine loadF rfl _ rfl w.heap.size rfl q.out ?_)
  refine Calls.mono (SO.out _) ?_
  rintro e w1 ⟨rfl, b1⟩
  have q1 := Lib.hid (K.below b1 q.out)
  have B := Lib.hid (bthen (Joins.below_alloc1 w _) b1)
  clear b1
  go_wp2_with fail
  refine wp_region_stage (by kernel_rfl) (GFB x A D n c m d w.heap.size (w.heap.size + 1) 3 2 (x.sum os m) (x.head (x.sum os m) os m) (x.head (x.sum os m) os m ++ bs)) [1] [2, 3, 6, 7] (fun _ v => Below w.heap.size w v ∧ v.heap[w.heap.size]? = some (.cells #[.int .i64 x.dscp, .int .i64 x.ecn, .int .i64 x.id, .int .i64 x.flags, .int .i64 x.frag, .int .i64 x.ttl, .int .i64 x.proto, .int .i64 x.src.k, .int .i64 x.src.a, .int .i64 x.src.b, .int .i64 x.src.c, .int .i64 x.src.d, .int .i64 x.dst.k, .int .i64 x.dst.a, .int .i64 x.dst.b, .int .i64 x.dst.c, .int .i64 x.dst.d, .slice A n c, .slice D m d] 31 (0, 0))) 13 (by kernel_rfl) (by kernel_rfl) rfl ⟨⟨B.out.os, B.out.tape, B.out.output, B.out.size, B.out.block⟩, q1.out⟩ ?_ ?_
  · intro j o ho k a' v K' hx hnd hk hI hK
    obtain ⟨hB, hq⟩ := id hI
    have up : ∀ {v' : World} (k' : Nat) (hk' : k' = k ∨ k' = k + 1), Below v.heap.size v v' → ∀ i u, i ≠ j → (GFB x A D n c m d w.heap.size (w.heap.size + 1) 3 2 (x.sum os m) (x.head (x.sum os m) os m) (x.head (x.sum os m) os m ++ bs)) i k v u → (GFB x A D n c m d w.heap.size (w.heap.size + 1) 3 2 (x.sum os m) (x.head (x.sum os m) os m) (x.head (x.sum os m) os m ++ bs)) i k' v' u := fun k' hk' hb i u _ h => gfb_on hk' hb h
    match j, ho with
    | 0, ho =>
      obtain rfl := Option.some.inj ho
      exact wp_load_row 31 _ rfl w.heap.size (out_of hx 1 (by simp) rfl) _ _ (0, 0) _ hq Try.underlying31 rfl info_four (hK _ _ rfl (up _ (.inl rfl) (Below.refl _ _)) hI)
    | 1, ho =>
      obtain rfl := Option.some.inj ho
      exact wp_load_row 31 _ rfl w.heap.size (out_of hx 1 (by simp) rfl) _ _ (0, 0) _ hq Try.underlying31 rfl info_four (hK _ _ rfl (up _ (.inl rfl) (Below.refl _ _)) hI)
    | 2, ho =>
      obtain rfl := Option.some.inj ho
      have h1 : a'.eval (.tmp 7) = .agg #[.int .i64 x.dscp, .int .i64 x.ecn, .int .i64 x.id, .int .i64 x.flags, .int .i64 x.frag, .int .i64 x.ttl, .int .i64 x.proto, .int .i64 x.src.k, .int .i64 x.src.a, .int .i64 x.src.b, .int .i64 x.src.c, .int .i64 x.src.d, .int .i64 x.dst.k, .int .i64 x.dst.a, .int .i64 x.dst.b, .int .i64 x.dst.c, .int .i64 x.dst.d, .slice A n c, .slice D m d] := (need_of (Γ := fun j => (GFB x A D n c m d w.heap.size (w.heap.size + 1) 3 2 (x.sum os m) (x.head (x.sum os m) os m) (x.head (x.sum os m) os m ++ bs)) j k) (w := v) hnd 1 7 (by kernel_rfl) :)
      refine t_sum _ _ _ rfl h1 ((sumSC x A D n c m d os v hn ((HR.out.below hB).more hB.size) HL.out).mono ?_)
      rintro e' v' ⟨rfl, b6⟩
      exact ⟨_, rfl, hK _ _ rfl (up _ (.inr rfl) b6) ⟨bthen hB b6, K.below b6 hq⟩⟩
    | 3, ho =>
      obtain rfl := Option.some.inj ho
      have h1 : a'.eval (.tmp 6) = .agg #[.int .i64 x.dscp, .int .i64 x.ecn, .int .i64 x.id, .int .i64 x.flags, .int .i64 x.frag, .int .i64 x.ttl, .int .i64 x.proto, .int .i64 x.src.k, .int .i64 x.src.a, .int .i64 x.src.b, .int .i64 x.src.c, .int .i64 x.src.d, .int .i64 x.dst.k, .int .i64 x.dst.a, .int .i64 x.dst.b, .int .i64 x.dst.c, .int .i64 x.dst.d, .slice A n c, .slice D m d] := (need_of (Γ := fun j => (GFB x A D n c m d w.heap.size (w.heap.size + 1) 3 2 (x.sum os m) (x.head (x.sum os m) os m) (x.head (x.sum os m) os m ++ bs)) j k) (w := v) hnd 0 6 (by kernel_rfl) :)
      have h2 : a'.eval (.tmp 8) = .int .i64 (x.sum os m) := (need_of (Γ := fun j => (GFB x A D n c m d w.heap.size (w.heap.size + 1) 3 2 (x.sum os m) (x.head (x.sum os m) os m) (x.head (x.sum os m) os m ++ bs)) j k) (w := v) hnd 2 8 (by kernel_rfl) :)
      refine t_headS _ _ _ _ _ rfl h1 h2 ((headSC x A D n c m d os (x.sum os m) v ((HR.out.below hB).more hB.size) HL.out HO.out).mono ?_)
      rintro e' v' ⟨A2, c2, rfl, o2, b6⟩
      exact ⟨_, rfl, hK _ _ ⟨A2, c2, rfl, fun _ => own_base o2 (K.lt hq)⟩ (up _ (.inr rfl) b6) ⟨bthen hB b6, K.below b6 hq⟩⟩
    | 4, ho =>
      obtain rfl := Option.some.inj ho
      exact t_fld18 _ _ rfl (out_of hx 1 (by simp) rfl) (hK _ _ rfl (up _ (.inl rfl) (Below.refl _ _)) hI)
    | 5, ho =>
      obtain rfl := Option.some.inj ho
      have h1 : a'.eval (.tmp 10) = .pointer (some ⟨w.heap.size, 18, none⟩) := (need_of (Γ := fun j => (GFB x A D n c m d w.heap.size (w.heap.size + 1) 3 2 (x.sum os m) (x.head (x.sum os m) os m) (x.head (x.sum os m) os m ++ bs)) j k) (w := v) hnd 4 10 (by kernel_rfl) :)
      exact t_loadB _ _ _ _ rfl h1 (K.cell hq 18 _ rfl) (hK _ _ rfl (up _ (.inl rfl) (Below.refl _ _)) hI)
    | 6, ho =>
      obtain rfl := Option.some.inj ho
      have hk2 : 2 = k := hk 2 rfl
      obtain ⟨A2, c2, h1, h3⟩ : ∃ A2 c2, a'.eval (.tmp 9) = .slice A2 (20 + n) c2 ∧ (k ≤ 2 → v.ownsRow (w.heap.size + 1) 5 1 (.slice A2 (20 + n) c2) (20 + n) (cellsOf (x.head (x.sum os m) os m))) := (need_of (Γ := fun j => (GFB x A D n c m d w.heap.size (w.heap.size + 1) 3 2 (x.sum os m) (x.head (x.sum os m) os m) (x.head (x.sum os m) os m ++ bs)) j k) (w := v) hnd 3 9 (by kernel_rfl) :)
      have h2 : a'.eval (.tmp 11) = .slice D m d := (need_of (Γ := fun j => (GFB x A D n c m d w.heap.size (w.heap.size + 1) 3 2 (x.sum os m) (x.head (x.sum os m) os m) (x.head (x.sum os m) os m ++ bs)) j k) (w := v) hnd 5 11 (by kernel_rfl) :)
      have h4 := h3 (by omega)
      refine t_append _ _ rfl (w.heap.size + 1) _ (x.head (x.sum os m) os m) h1 (by rw [EL.out]; exact h4) v.heap.size D m d bs h2 HM.out ((HS.out.below hB).more hB.size) (by rw [EL.out, HM.out]; have := HN.out; omega) (K.lt hq) ?_
      intro v' w' o6 g6
      subst hk2
      exact hK _ _ ⟨by decide, o6⟩ (fun i u hi h => gfb_app hi h) ⟨bgrown hB g6 (fun k' hk' => by have := (h4.lt k' hk').1; omega), K.kept g6 hq (fun k' hk' => by have := (h4.lt k' hk').1; omega)⟩
    | 7, ho =>
      obtain rfl := Option.some.inj ho
      have hk2 := hk (2 + 1) rfl
      have h1 : v.ownsRow (w.heap.size + 1) 5 1 (a'.eval (.tmp 12)) (x.head (x.sum os m) os m ++ bs).length (cellsOf (x.head (x.sum os m) os m ++ bs)) := And.right (need_of (Γ := fun j => (GFB x A D n c m d w.heap.size (w.heap.size + 1) 3 2 (x.sum os m) (x.head (x.sum os m) os m) (x.head (x.sum os m) os m ++ bs)) j k) (w := v) hnd 6 12 (by kernel_rfl) :)
      exact t_assign _ _ rfl rfl (hK _ _ ⟨by show 2 + 1 < k + 1; omega, h1⟩ (up _ (.inr rfl) (Below.refl _ _)) hI)
    | j + 8, ho => simp at ho
  · intro a' w' hsz hdf hout hrest hG hI
    have o2 : w'.ownsRow (w.heap.size + 1) 5 1 (a'.tmps.getD 2 undef) (x.head (x.sum os m) os m ++ bs).length (cellsOf (x.head (x.sum os m) os m ++ bs)) := And.right (hG 7 _ 2 rfl rfl)
    have B2 := Lib.hid hI.1
    rw [← H.out] at o2
    obtain ⟨A7, c7, h7⟩ := own_form o2
    rw [h7] at o2
    have O2 := Lib.hid (own_base o2 (Nat.le_succ _))
    have D0 := Lib.hid hdf
    have H7 := Lib.hid h7
    clear hout hrest hG o2 h7 hsz hdf
    go_wp2
    (try simp only [Exit.inBlock, Exit.then])
    refine bodyPost_ret (v := .slice A7 (x.bytes os bs).length c7) ?_ D0.out ⟨A7, c7, rfl, O2.out, B2.out⟩
    rw [results_tmp Try.results19, H7.out]

set_option maxRecDepth 100000 in
set_option maxHeartbeats 1000000 in
theorem fbI_no (x : Fh) (A D : Option Addr) (n c m d : Nat) (os bs : List UInt8) (w : World) (hr : RB w w.heap.size A os) (hl : os.length = n) (hm : bs.length = m) (hok : x.ok n m = false) : Calls Try.prog 20 #[.agg #[.int .i64 x.dscp, .int .i64 x.ecn, .int .i64 x.id, .int .i64 x.flags, .int .i64 x.frag, .int .i64 x.ttl, .int .i64 x.proto, .int .i64 x.src.k, .int .i64 x.src.a, .int .i64 x.src.b, .int .i64 x.src.c, .int .i64 x.src.d, .int .i64 x.dst.k, .int .i64 x.dst.a, .int .i64 x.dst.b, .int .i64 x.dst.c, .int .i64 x.dst.d, .slice A n c, .slice D m d]] w (FBOut x os bs w) := by
  have SO := Lib.hid (fun (v : World) (h : RB v v.heap.size A os) => show Calls Try.prog 18 #[.agg #[.int .i64 x.dscp, .int .i64 x.ecn, .int .i64 x.id, .int .i64 x.flags, .int .i64 x.frag, .int .i64 x.ttl, .int .i64 x.proto, .int .i64 x.src.k, .int .i64 x.src.a, .int .i64 x.src.b, .int .i64 x.src.c, .int .i64 x.src.d, .int .i64 x.dst.k, .int .i64 x.dst.a, .int .i64 x.dst.b, .int .i64 x.dst.c, .int .i64 x.dst.d, .slice A n c, .slice D m d]] v fun e w' => e = .returned (.int .i64 (-1)) ∧ Below v.heap.size v w' from (show x.sum os m = -1 by simp [Fh.sum, hl, hok]) ▸ sumIC x A D n c m d os v h hl)
  have H := Lib.hid (show x.ok os.length bs.length = false by rw [hl, hm]; exact hok)
  have HR := Lib.hid hr
  clear hok hl hm hr
  have q := Lib.hid (K.new w (.cells #[.int .i64 x.dscp, .int .i64 x.ecn, .int .i64 x.id, .int .i64 x.flags, .int .i64 x.frag, .int .i64 x.ttl, .int .i64 x.proto, .int .i64 x.src.k, .int .i64 x.src.a, .int .i64 x.src.b, .int .i64 x.src.c, .int .i64 x.src.d, .int .i64 x.dst.k, .int .i64 x.dst.a, .int .i64 x.dst.b, .int .i64 x.dst.c, .int .i64 x.dst.d, .slice A n c, .slice D m d] 31))
  go_enter Try.func20, Try.ntmps20
  go_wp2_with (with_reducible refine loadF rfl _ rfl w.heap.size rfl q.out ?_)
  refine Calls.mono (SO.out _ ((HR.out.below (Joins.below_alloc1 w _)).more (by simp))) ?_
  rintro e w1 ⟨rfl, b1⟩
  have B := Lib.hid (bthen (Joins.below_alloc1 w _) b1)
  clear b1
  go_wp2
  go_ret
  exact fbOut_no H.out B.out

set_option maxRecDepth 100000 in
set_option maxHeartbeats 2000000 in
theorem fbI_yes (x : Fh) (A D : Option Addr) (n c m d : Nat) (os bs : List UInt8) (w : World) (hr : RB w w.heap.size A os) (hl : os.length = n) (hs : RB w w.heap.size D bs) (hm : bs.length = m) (hok : x.ok n m = true) : Calls Try.prog 20 #[.agg #[.int .i64 x.dscp, .int .i64 x.ecn, .int .i64 x.id, .int .i64 x.flags, .int .i64 x.frag, .int .i64 x.ttl, .int .i64 x.proto, .int .i64 x.src.k, .int .i64 x.src.a, .int .i64 x.src.b, .int .i64 x.src.c, .int .i64 x.src.d, .int .i64 x.dst.k, .int .i64 x.dst.a, .int .i64 x.dst.b, .int .i64 x.dst.c, .int .i64 x.dst.d, .slice A n c, .slice D m d]] w (FBOut x os bs w) := by
  have hne := sum_word hok hl
  have SO := Lib.hid (fun (v : World) (h : RB v v.heap.size A os) => sumIC x A D n c m d os v h hl)
  obtain ⟨y, hy⟩ : ∃ y, x.sum os m = y := ⟨_, rfl⟩
  rw [hy] at SO hne
  have HY := Lib.hid hy
  clear hy
  have H := Lib.hid (show x.bytes os bs = x.head (x.sum os m) os m ++ bs by subst hl hm; simp only [Fh.bytes, hok, if_true])
  have EL := Lib.hid (show (x.head (x.sum os m) os m).length = 20 + n by rw [Fh.head_length, hl])
  have HO := Lib.hid hok
  have HN := Lib.hid ((x.ok_iff n m).1 hok).2.2.2
  have HR := Lib.hid hr
  have HL := Lib.hid hl
  have HS := Lib.hid hs
  have HM := Lib.hid hm
  clear hok hr hl hs hm
  have q := Lib.hid (K.new w (.cells #[.int .i64 x.dscp, .int .i64 x.ecn, .int .i64 x.id, .int .i64 x.flags, .int .i64 x.frag, .int .i64 x.ttl, .int .i64 x.proto, .int .i64 x.src.k, .int .i64 x.src.a, .int .i64 x.src.b, .int .i64 x.src.c, .int .i64 x.src.d, .int .i64 x.dst.k, .int .i64 x.dst.a, .int .i64 x.dst.b, .int .i64 x.dst.c, .int .i64 x.dst.d, .slice A n c, .slice D m d] 31))
  go_enter Try.func20, Try.ntmps20
  go_wp2_with (with_reducible refine loadF rfl _ rfl w.heap.size rfl q.out ?_)
  refine Calls.mono (SO.out _ ((HR.out.below (Joins.below_alloc1 w _)).more (by simp))) ?_
  rintro e w1 ⟨rfl, b1⟩
  have q1 := Lib.hid (K.below b1 q.out)
  have B := Lib.hid (bthen (Joins.below_alloc1 w _) b1)
  clear b1
  go_wp2_with fail
  refine wp_region_stage (by kernel_rfl) (GFB x A D n c m d w.heap.size (w.heap.size + 1) 2 1 (x.sum os m) (x.head (x.sum os m) os m) (x.head (x.sum os m) os m ++ bs)) [1, 3] [2, 5, 6] (fun _ v => Below w.heap.size w v ∧ v.heap[w.heap.size]? = some (.cells #[.int .i64 x.dscp, .int .i64 x.ecn, .int .i64 x.id, .int .i64 x.flags, .int .i64 x.frag, .int .i64 x.ttl, .int .i64 x.proto, .int .i64 x.src.k, .int .i64 x.src.a, .int .i64 x.src.b, .int .i64 x.src.c, .int .i64 x.src.d, .int .i64 x.dst.k, .int .i64 x.dst.a, .int .i64 x.dst.b, .int .i64 x.dst.c, .int .i64 x.dst.d, .slice A n c, .slice D m d] 31 (0, 0))) 14 (by kernel_rfl) (by kernel_rfl) rfl ⟨⟨B.out.os, B.out.tape, B.out.output, B.out.size, B.out.block⟩, q1.out⟩ ?_ ?_
  · intro j o ho k a' v K' hx hnd hk hI hK
    obtain ⟨hB, hq⟩ := id hI
    have up : ∀ {v' : World} (k' : Nat) (hk' : k' = k ∨ k' = k + 1), Below v.heap.size v v' → ∀ i u, i ≠ j → (GFB x A D n c m d w.heap.size (w.heap.size + 1) 2 1 (x.sum os m) (x.head (x.sum os m) os m) (x.head (x.sum os m) os m ++ bs)) i k v u → (GFB x A D n c m d w.heap.size (w.heap.size + 1) 2 1 (x.sum os m) (x.head (x.sum os m) os m) (x.head (x.sum os m) os m ++ bs)) i k' v' u := fun k' hk' hb i u _ h => gfb_on hk' hb h
    match j, ho with
    | 0, ho =>
      obtain rfl := Option.some.inj ho
      exact wp_load_row 31 _ rfl w.heap.size (out_of hx 1 (by simp) rfl) _ _ (0, 0) _ hq Try.underlying31 rfl info_four (hK _ _ rfl (up _ (.inl rfl) (Below.refl _ _)) hI)
    | 1, ho =>
      obtain rfl := Option.some.inj ho
      have hy : a'.eval (.tmp 3) = .int .i64 (x.sum os m) := by rw [HY.out]; exact out_of hx 3 (by simp) rfl
      exact s_move 3 _ rfl hy (hK _ _ rfl (up _ (.inl rfl) (Below.refl _ _)) hI)
    | 2, ho =>
      obtain rfl := Option.some.inj ho
      have h1 : a'.eval (.tmp 8) = .agg #[.int .i64 x.dscp, .int .i64 x.ecn, .int .i64 x.id, .int .i64 x.flags, .int .i64 x.frag, .int .i64 x.ttl, .int .i64 x.proto, .int .i64 x.src.k, .int .i64 x.src.a, .int .i64 x.src.b, .int .i64 x.src.c, .int .i64 x.src.d, .int .i64 x.dst.k, .int .i64 x.dst.a, .int .i64 x.dst.b, .int .i64 x.dst.c, .int .i64 x.dst.d, .slice A n c, .slice D m d] := (need_of (Γ := fun j => (GFB x A D n c m d w.heap.size (w.heap.size + 1) 2 1 (x.sum os m) (x.head (x.sum os m) os m) (x.head (x.sum os m) os m ++ bs)) j k) (w := v) hnd 0 8 (by kernel_rfl) :)
      have h2 : a'.eval (.tmp 9) = .int .i64 (x.sum os m) := (need_of (Γ := fun j => (GFB x A D n c m d w.heap.size (w.heap.size + 1) 2 1 (x.sum os m) (x.head (x.sum os m) os m) (x.head (x.sum os m) os m ++ bs)) j k) (w := v) hnd 1 9 (by kernel_rfl) :)
      refine t_headI _ _ _ _ _ rfl h1 h2 ((headIC x A D n c m d os (x.sum os m) v ((HR.out.below hB).more hB.size) HL.out HO.out).mono ?_)
      rintro e' v' ⟨A2, c2, rfl, o2, b6⟩
      exact ⟨_, rfl, hK _ _ ⟨A2, c2, rfl, fun _ => own_base o2 (K.lt hq)⟩ (up _ (.inr rfl) b6) ⟨bthen hB b6, K.below b6 hq⟩⟩
    | 3, ho =>
      obtain rfl := Option.some.inj ho
      exact t_fld18 _ _ rfl (out_of hx 1 (by simp) rfl) (hK _ _ rfl (up _ (.inl rfl) (Below.refl _ _)) hI)
    | 4, ho =>
      obtain rfl := Option.some.inj ho
      have h1 : a'.eval (.tmp 11) = .pointer (some ⟨w.heap.size, 18, none⟩) := (need_of (Γ := fun j => (GFB x A D n c m d w.heap.size (w.heap.size + 1) 2 1 (x.sum os m) (x.head (x.sum os m) os m) (x.head (x.sum os m) os m ++ bs)) j k) (w := v) hnd 3 11 (by kernel_rfl) :)
      exact t_loadB _ _ _ _ rfl h1 (K.cell hq 18 _ rfl) (hK _ _ rfl (up _ (.inl rfl) (Below.refl _ _)) hI)
    | 5, ho =>
      obtain rfl := Option.some.inj ho
      have hk2 : 1 = k := hk 1 rfl
      obtain ⟨A2, c2, h1, h3⟩ : ∃ A2 c2, a'.eval (.tmp 10) = .slice A2 (20 + n) c2 ∧ (k ≤ 1 → v.ownsRow (w.heap.size + 1) 5 1 (.slice A2 (20 + n) c2) (20 + n) (cellsOf (x.head (x.sum os m) os m))) := (need_of (Γ := fun j => (GFB x A D n c m d w.heap.size (w.heap.size + 1) 2 1 (x.sum os m) (x.head (x.sum os m) os m) (x.head (x.sum os m) os m ++ bs)) j k) (w := v) hnd 2 10 (by kernel_rfl) :)
      have h2 : a'.eval (.tmp 12) = .slice D m d := (need_of (Γ := fun j => (GFB x A D n c m d w.heap.size (w.heap.size + 1) 2 1 (x.sum os m) (x.head (x.sum os m) os m) (x.head (x.sum os m) os m ++ bs)) j k) (w := v) hnd 4 12 (by kernel_rfl) :)
      have h4 := h3 (by omega)
      refine t_append _ _ rfl (w.heap.size + 1) _ (x.head (x.sum os m) os m) h1 (by rw [EL.out]; exact h4) v.heap.size D m d bs h2 HM.out ((HS.out.below hB).more hB.size) (by rw [EL.out, HM.out]; have := HN.out; omega) (K.lt hq) ?_
      intro v' w' o6 g6
      subst hk2
      exact hK _ _ ⟨by decide, o6⟩ (fun i u hi h => gfb_app hi h) ⟨bgrown hB g6 (fun k' hk' => by have := (h4.lt k' hk').1; omega), K.kept g6 hq (fun k' hk' => by have := (h4.lt k' hk').1; omega)⟩
    | 6, ho =>
      obtain rfl := Option.some.inj ho
      have hk2 := hk (1 + 1) rfl
      have h1 : v.ownsRow (w.heap.size + 1) 5 1 (a'.eval (.tmp 13)) (x.head (x.sum os m) os m ++ bs).length (cellsOf (x.head (x.sum os m) os m ++ bs)) := And.right (need_of (Γ := fun j => (GFB x A D n c m d w.heap.size (w.heap.size + 1) 2 1 (x.sum os m) (x.head (x.sum os m) os m) (x.head (x.sum os m) os m ++ bs)) j k) (w := v) hnd 5 13 (by kernel_rfl) :)
      exact t_assign _ _ rfl rfl (hK _ _ ⟨by show 1 + 1 < k + 1; omega, h1⟩ (up _ (.inr rfl) (Below.refl _ _)) hI)
    | j + 7, ho => simp at ho
  · intro a' w' hsz hdf hout hrest hG hI
    have o2 : w'.ownsRow (w.heap.size + 1) 5 1 (a'.tmps.getD 2 undef) (x.head (x.sum os m) os m ++ bs).length (cellsOf (x.head (x.sum os m) os m ++ bs)) := And.right (hG 6 _ 2 rfl rfl)
    have B2 := Lib.hid hI.1
    rw [← H.out] at o2
    obtain ⟨A7, c7, h7⟩ := own_form o2
    rw [h7] at o2
    have O2 := Lib.hid (own_base o2 (Nat.le_succ _))
    have D0 := Lib.hid hdf
    have H7 := Lib.hid h7
    clear hout hrest hG o2 h7 hsz hdf
    go_wp2
    (try simp only [Exit.inBlock, Exit.then])
    refine bodyPost_ret (v := .slice A7 (x.bytes os bs).length c7) ?_ D0.out ⟨A7, c7, rfl, O2.out, B2.out⟩
    rw [results_tmp Try.results20, H7.out]

theorem fbS2 (x : Fh) (A D : Option Addr) (n c m d : Nat) (os bs ds : List UInt8) (L : Nat) (w : World) (hn : n ≤ 1048576) (hr : RB w w.heap.size A os) (hl : os.length = n) (hs : RB w w.heap.size D bs) (hm : bs.length = m) (h1 : x.bytes os bs = ds) (h2 : ds.length = L) : Calls Try.prog 19 #[.agg #[.int .i64 x.dscp, .int .i64 x.ecn, .int .i64 x.id, .int .i64 x.flags, .int .i64 x.frag, .int .i64 x.ttl, .int .i64 x.proto, .int .i64 x.src.k, .int .i64 x.src.a, .int .i64 x.src.b, .int .i64 x.src.c, .int .i64 x.src.d, .int .i64 x.dst.k, .int .i64 x.dst.a, .int .i64 x.dst.b, .int .i64 x.dst.c, .int .i64 x.dst.d, .slice A n c, .slice D m d]] w (TwoOut ds L w) := by
  subst h1 h2
  cases hok : x.ok n m
  · exact fbS_no x A D n c m d os bs w hn hr hl hm hok
  · exact fbS_yes x A D n c m d os bs w hn hr hl hs hm hok
theorem fbI2 (x : Fh) (A D : Option Addr) (n c m d : Nat) (os bs ds : List UInt8) (L : Nat) (w : World) (hr : RB w w.heap.size A os) (hl : os.length = n) (hs : RB w w.heap.size D bs) (hm : bs.length = m) (h1 : x.bytes os bs = ds) (h2 : ds.length = L) : Calls Try.prog 20 #[.agg #[.int .i64 x.dscp, .int .i64 x.ecn, .int .i64 x.id, .int .i64 x.flags, .int .i64 x.frag, .int .i64 x.ttl, .int .i64 x.proto, .int .i64 x.src.k, .int .i64 x.src.a, .int .i64 x.src.b, .int .i64 x.src.c, .int .i64 x.src.d, .int .i64 x.dst.k, .int .i64 x.dst.a, .int .i64 x.dst.b, .int .i64 x.dst.c, .int .i64 x.dst.d, .slice A n c, .slice D m d]] w (TwoOut ds L w) := by
  subst h1 h2
  cases hok : x.ok n m
  · exact fbI_no x A D n c m d os bs w hr hl hm hok
  · exact fbI_yes x A D n c m d os bs w hr hl hs hm hok
end Go.Proofs.Ytekdfffjlcikeaa
