/-
  ModuleOk in the program: all kinds.
-/
import Derived.Test.YtdndanbalmoklaaMoOkI1
import Derived.Test.YtdndanbalmoklaaMoOkI2
namespace Go.Proofs.Ytdndanbalmoklaa
set_option maxRecDepth 100000
open Go.RowKit

theorem moOkI (m : Mo) (w : World) : Calls Try.prog 17 #[.agg #[.int .i64 m.kind, .int .i64 m.frm.base.k, .int .i64 m.frm.base.a, .int .i64 m.frm.base.b, .int .i64 m.frm.base.c, .int .i64 m.frm.base.d, .int .i64 m.frm.len, .int .i64 m.to.base.k, .int .i64 m.to.base.a, .int .i64 m.to.base.b, .int .i64 m.to.base.c, .int .i64 m.to.base.d, .int .i64 m.to.len, .int .i64 m.proto, .int .i64 m.lo, .int .i64 m.hi, .int .i64 m.n]] w fun e w' => e = .returned (.bool m.ok) ∧ Below w.heap.size w w' := by
  by_cases k1 : m.kind = 1
  · have hk : (m.kind == 1) = true := by simp [k1]
    have e := Mo.ok1 k1
    cases h1 : m.frm.ok with
    | false => exact (moOkI_1a m w hk h1).mono fun _ _ ⟨a, b⟩ => ⟨a.trans (ret_bool (by simp [e, h1])), b⟩
    | true =>
      cases h2 : m.to.ok with
      | false => exact (moOkI_1b m w hk h1 h2).mono fun _ _ ⟨a, b⟩ => ⟨a.trans (ret_bool (by simp [e, h2])), b⟩
      | true =>
        cases hm : (m.proto == -1) with
        | true =>
          cases h4 : portsB m.lo m.hi with
          | false => exact (moOkI_1dany m w hk h1 h2 hm h4).mono fun _ _ ⟨a, b⟩ => ⟨a.trans (ret_bool (by simp [e, h4])), b⟩
          | true => exact (moOkI_1eany m w hk h1 h2 hm h4).mono fun _ _ ⟨a, b⟩ => ⟨a.trans (ret_bool (by rw [e, h1, h2, hm, h4]; rfl)), b⟩
        | false =>
          cases h3 : upTo m.proto 255 with
          | false => exact (moOkI_1c m w hk h1 h2 hm h3).mono fun _ _ ⟨a, b⟩ => ⟨a.trans (ret_bool (by rw [e, h1, h2, hm, h3]; rfl)), b⟩
          | true =>
            cases h4 : portsB m.lo m.hi with
            | false => exact (moOkI_1dnum m w hk h1 h2 hm h3 h4).mono fun _ _ ⟨a, b⟩ => ⟨a.trans (ret_bool (by simp [e, h4])), b⟩
            | true => exact (moOkI_1enum m w hk h1 h2 hm h3 h4).mono fun _ _ ⟨a, b⟩ => ⟨a.trans (ret_bool (by rw [e, h1, h2, hm, h3, h4]; rfl)), b⟩
  have k1b : (m.kind == 1) = false := by simp [k1]
  by_cases k2 : m.kind = 2
  · have e := Mo.ok2 (.inl k2)
    cases h1 : twins m.frm m.to with
    | false => exact (moOkI_2a m w k1b (by simp [k2]) h1).mono fun _ _ ⟨a, b⟩ => ⟨a.trans (ret_bool (by rw [e, h1]; rfl)), b⟩
    | true => exact (moOkI_2b m w k1b (by simp [k2]) h1).mono fun _ _ ⟨a, b⟩ => ⟨a.trans (ret_bool (by rw [e, h1]; rfl)), b⟩
  have k2b : (m.kind == 2) = false := by simp [k2]
  by_cases k3 : m.kind = 3
  · have e := Mo.ok2 (.inr k3)
    cases h1 : twins m.frm m.to with
    | false => exact (moOkI_3a m w k1b k2b (by simp [k3]) h1).mono fun _ _ ⟨a, b⟩ => ⟨a.trans (ret_bool (by rw [e, h1]; rfl)), b⟩
    | true => exact (moOkI_3b m w k1b k2b (by simp [k3]) h1).mono fun _ _ ⟨a, b⟩ => ⟨a.trans (ret_bool (by rw [e, h1]; rfl)), b⟩
  have k3b : (m.kind == 3) = false := by simp [k3]
  by_cases k4 : m.kind = 4
  · exact (moOkI_4 m w k1b k2b k3b (by simp [k4])).mono fun _ _ ⟨a, b⟩ => ⟨a.trans (ret_bool (by rw [Mo.ok4 (.inl k4)])), b⟩
  have k4b : (m.kind == 4) = false := by simp [k4]
  by_cases k6 : m.kind = 6
  · exact (moOkI_6 m w k1b k2b k3b k4b (by simp [k6])).mono fun _ _ ⟨a, b⟩ => ⟨a.trans (ret_bool (by rw [Mo.ok4 (.inr k6)])), b⟩
  have k6b : (m.kind == 6) = false := by simp [k6]
  by_cases k5 : m.kind = 5
  · have e := Mo.ok5 k5
    cases h1 : btw 0 m.n 63 with
    | false => exact (moOkI_5a m w k1b k2b k3b k4b k6b (by simp [k5]) h1).mono fun _ _ ⟨a, b⟩ => ⟨a.trans (ret_bool (by rw [e, h1]; rfl)), b⟩
    | true => exact (moOkI_5b m w k1b k2b k3b k4b k6b (by simp [k5]) h1).mono fun _ _ ⟨a, b⟩ => ⟨a.trans (ret_bool (by rw [e, h1]; rfl)), b⟩
  have k5b : (m.kind == 5) = false := by simp [k5]
  by_cases k7 : m.kind = 7
  · have e := Mo.ok7 k7
    cases h1 : btw 1 m.n 4 with
    | false => exact (moOkI_7a m w k1b k2b k3b k4b k6b k5b (by simp [k7]) h1).mono fun _ _ ⟨a, b⟩ => ⟨a.trans (ret_bool (by rw [e, h1]; rfl)), b⟩
    | true => exact (moOkI_7b m w k1b k2b k3b k4b k6b k5b (by simp [k7]) h1).mono fun _ _ ⟨a, b⟩ => ⟨a.trans (ret_bool (by rw [e, h1]; rfl)), b⟩
  have k7b : (m.kind == 7) = false := by simp [k7]
  exact (moOkI_0 m w k1b k2b k3b k4b k5b k6b k7b).mono fun _ _ ⟨a, b⟩ => ⟨a.trans (ret_bool (by rw [Mo.ok0 (by omega)])), b⟩
theorem moOkIB (m : Mo) (b : Bool) (h : m.ok = b) (w : World) : Calls Try.prog 17 #[.agg #[.int .i64 m.kind, .int .i64 m.frm.base.k, .int .i64 m.frm.base.a, .int .i64 m.frm.base.b, .int .i64 m.frm.base.c, .int .i64 m.frm.base.d, .int .i64 m.frm.len, .int .i64 m.to.base.k, .int .i64 m.to.base.a, .int .i64 m.to.base.b, .int .i64 m.to.base.c, .int .i64 m.to.base.d, .int .i64 m.to.len, .int .i64 m.proto, .int .i64 m.lo, .int .i64 m.hi, .int .i64 m.n]] w fun e w' => e = .returned (.bool b) ∧ Below w.heap.size w w' := h ▸ moOkI m w
end Go.Proofs.Ytdndanbalmoklaa
