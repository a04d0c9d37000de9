/-
  ModuleOk in the model: all kinds.
-/
import Derived.Test.YtdndanbalmoklaaMoOkS1
import Derived.Test.YtdndanbalmoklaaMoOkS2
import Derived.Test.YtdndanbalmoklaaMoOkS3
namespace Go.Proofs.Ytdndanbalmoklaa
set_option maxRecDepth 100000
open Go.RowKit

theorem moOkS (m : Mo) (w : World) : Calls Try.prog 15 #[.agg #[.int .i64 m.kind, .int .i64 m.frm.base.k, .int .i64 m.frm.base.a, .int .i64 m.frm.base.b, .int .i64 m.frm.base.c, .int .i64 m.frm.base.d, .int .i64 m.frm.len, .int .i64 m.to.base.k, .int .i64 m.to.base.a, .int .i64 m.to.base.b, .int .i64 m.to.base.c, .int .i64 m.to.base.d, .int .i64 m.to.len, .int .i64 m.proto, .int .i64 m.lo, .int .i64 m.hi, .int .i64 m.n]] w fun e w' => e = .returned (.bool m.ok) ∧ Below w.heap.size w w' := by
  obtain ⟨kind, frm, to, proto, lo, hi, n⟩ := m
  show Calls Try.prog 15 #[.agg #[.int .i64 kind, .int .i64 frm.base.k, .int .i64 frm.base.a, .int .i64 frm.base.b, .int .i64 frm.base.c, .int .i64 frm.base.d, .int .i64 frm.len, .int .i64 to.base.k, .int .i64 to.base.a, .int .i64 to.base.b, .int .i64 to.base.c, .int .i64 to.base.d, .int .i64 to.len, .int .i64 proto, .int .i64 lo, .int .i64 hi, .int .i64 n]] w _
  by_cases lt : kind < 1
  · exact (moS_0a frm to kind proto lo hi n w lt).mono fun _ _ ⟨a, b⟩ => ⟨a.trans (ret_bool (by rw [Mo.ok0 (.inl lt)])), b⟩
  by_cases gt : 7 < kind
  · exact (moS_0b frm to kind proto lo hi n w gt).mono fun _ _ ⟨a, b⟩ => ⟨a.trans (ret_bool (by rw [Mo.ok0 (.inr gt)])), b⟩
  by_cases k1 : kind = 1
  · subst k1
    have e := Mo.ok1 (m := ⟨1, frm, to, proto, lo, hi, n⟩) rfl
    by_cases en : n = 0
    case neg => exact (moS_1n frm to proto lo hi n w en).mono fun _ _ ⟨a, b⟩ => ⟨a.trans (ret_bool (by rw [e]; simp [en])), b⟩
    subst en
    cases h1 : frm.ok with
    | false => exact (moS_1a frm to proto lo hi w h1).mono fun _ _ ⟨a, b⟩ => ⟨a.trans (ret_bool (by rw [e]; simp [h1])), b⟩
    | true =>
      cases h2 : to.ok with
      | false => exact (moS_1b frm to proto lo hi w h1 h2).mono fun _ _ ⟨a, b⟩ => ⟨a.trans (ret_bool (by rw [e]; simp [h2])), b⟩
      | true =>
        by_cases p1 : proto < -1
        · exact (moS_1c frm to proto lo hi w h1 h2 p1).mono fun _ _ ⟨a, b⟩ => ⟨a.trans (ret_bool (by rw [e]; simp [h1, h2, upTo, show ¬ proto = -1 by omega, show ¬ 0 ≤ proto by omega])), b⟩
        · by_cases p2 : 255 < proto
          · exact (moS_1d frm to proto lo hi w h1 h2 (by omega) p2).mono fun _ _ ⟨a, b⟩ => ⟨a.trans (ret_bool (by rw [e]; simp [h1, h2, upTo, show ¬ proto = -1 by omega, show ¬ proto ≤ 255 by omega])), b⟩
          · have e3 : (proto == -1 || upTo proto 255) = true := by simp [upTo]; omega
            exact (moS_1e frm to proto lo hi _ w h1 h2 (by omega) (by omega) rfl).mono fun _ _ ⟨a, b⟩ => ⟨a.trans (ret_bool (by rw [e]; simp only [h1, h2, e3]; simp)), b⟩
  by_cases k2 : kind = 2
  · subst k2
    have e := Mo.ok2 (m := ⟨2, frm, to, proto, lo, hi, n⟩) (.inl rfl)
    by_cases ep : proto = 0
    case neg => exact (moS_2p frm to proto lo hi n w ep).mono fun _ _ ⟨a, b⟩ => ⟨a.trans (ret_bool (by rw [e]; simp [Mo.bare, ep])), b⟩
    subst ep
    by_cases el : lo = 0
    case neg => exact (moS_2l frm to lo hi n w el).mono fun _ _ ⟨a, b⟩ => ⟨a.trans (ret_bool (by rw [e]; simp [Mo.bare, el])), b⟩
    subst el
    by_cases eh : hi = 0
    case neg => exact (moS_2h frm to hi n w eh).mono fun _ _ ⟨a, b⟩ => ⟨a.trans (ret_bool (by rw [e]; simp [Mo.bare, eh])), b⟩
    subst eh
    by_cases en : n = 0
    case neg => exact (moS_2n frm to n w en).mono fun _ _ ⟨a, b⟩ => ⟨a.trans (ret_bool (by rw [e]; simp [en])), b⟩
    subst en
    exact (moS_2t frm to _ w rfl).mono fun _ _ ⟨a, b⟩ => ⟨a.trans (ret_bool (by rw [e]; simp [Mo.bare])), b⟩
  by_cases k3 : kind = 3
  · subst k3
    have e := Mo.ok2 (m := ⟨3, frm, to, proto, lo, hi, n⟩) (.inr rfl)
    by_cases ep : proto = 0
    case neg => exact (moS_3p frm to proto lo hi n w ep).mono fun _ _ ⟨a, b⟩ => ⟨a.trans (ret_bool (by rw [e]; simp [Mo.bare, ep])), b⟩
    subst ep
    by_cases el : lo = 0
    case neg => exact (moS_3l frm to lo hi n w el).mono fun _ _ ⟨a, b⟩ => ⟨a.trans (ret_bool (by rw [e]; simp [Mo.bare, el])), b⟩
    subst el
    by_cases eh : hi = 0
    case neg => exact (moS_3h frm to hi n w eh).mono fun _ _ ⟨a, b⟩ => ⟨a.trans (ret_bool (by rw [e]; simp [Mo.bare, eh])), b⟩
    subst eh
    by_cases en : n = 0
    case neg => exact (moS_3n frm to n w en).mono fun _ _ ⟨a, b⟩ => ⟨a.trans (ret_bool (by rw [e]; simp [en])), b⟩
    subst en
    exact (moS_3t frm to _ w rfl).mono fun _ _ ⟨a, b⟩ => ⟨a.trans (ret_bool (by rw [e]; simp [Mo.bare])), b⟩
  by_cases k4 : kind = 4
  · subst k4
    have e := Mo.ok4 (m := ⟨4, frm, to, proto, lo, hi, n⟩) (.inl rfl)
    by_cases ep : proto = 0
    case neg => exact (moS_4p frm to proto lo hi n w ep).mono fun _ _ ⟨a, b⟩ => ⟨a.trans (ret_bool (by rw [e]; simp [Mo.bare, ep])), b⟩
    subst ep
    by_cases el : lo = 0
    case neg => exact (moS_4l frm to lo hi n w el).mono fun _ _ ⟨a, b⟩ => ⟨a.trans (ret_bool (by rw [e]; simp [Mo.bare, el])), b⟩
    subst el
    by_cases eh : hi = 0
    case neg => exact (moS_4h frm to hi n w eh).mono fun _ _ ⟨a, b⟩ => ⟨a.trans (ret_bool (by rw [e]; simp [Mo.bare, eh])), b⟩
    subst eh
    by_cases en : n = 0
    case neg => exact (moS_4n frm to n w en).mono fun _ _ ⟨a, b⟩ => ⟨a.trans (ret_bool (by rw [e]; simp [en])), b⟩
    subst en
    by_cases z1 : frm = Pf.zero
    case neg => exact (moS_4a frm to w (decide_eq_false z1)).mono fun _ _ ⟨a, b⟩ => ⟨a.trans (ret_bool (by rw [e]; simp [Mo.anys, z1])), b⟩
    by_cases z2 : to = Pf.zero
    case neg => exact (moS_4b frm to w (decide_eq_true z1) (decide_eq_false z2)).mono fun _ _ ⟨a, b⟩ => ⟨a.trans (ret_bool (by rw [e]; simp [Mo.anys, z2])), b⟩
    exact (moS_4c frm to w (decide_eq_true z1) (decide_eq_true z2)).mono fun _ _ ⟨a, b⟩ => ⟨a.trans (ret_bool (by rw [e]; simp [Mo.anys, Mo.bare, z1, z2])), b⟩
  by_cases k6 : kind = 6
  · subst k6
    have e := Mo.ok4 (m := ⟨6, frm, to, proto, lo, hi, n⟩) (.inr rfl)
    by_cases ep : proto = 0
    case neg => exact (moS_6p frm to proto lo hi n w ep).mono fun _ _ ⟨a, b⟩ => ⟨a.trans (ret_bool (by rw [e]; simp [Mo.bare, ep])), b⟩
    subst ep
    by_cases el : lo = 0
    case neg => exact (moS_6l frm to lo hi n w el).mono fun _ _ ⟨a, b⟩ => ⟨a.trans (ret_bool (by rw [e]; simp [Mo.bare, el])), b⟩
    subst el
    by_cases eh : hi = 0
    case neg => exact (moS_6h frm to hi n w eh).mono fun _ _ ⟨a, b⟩ => ⟨a.trans (ret_bool (by rw [e]; simp [Mo.bare, eh])), b⟩
    subst eh
    by_cases en : n = 0
    case neg => exact (moS_6n frm to n w en).mono fun _ _ ⟨a, b⟩ => ⟨a.trans (ret_bool (by rw [e]; simp [en])), b⟩
    subst en
    by_cases z1 : frm = Pf.zero
    case neg => exact (moS_6a frm to w (decide_eq_false z1)).mono fun _ _ ⟨a, b⟩ => ⟨a.trans (ret_bool (by rw [e]; simp [Mo.anys, z1])), b⟩
    by_cases z2 : to = Pf.zero
    case neg => exact (moS_6b frm to w (decide_eq_true z1) (decide_eq_false z2)).mono fun _ _ ⟨a, b⟩ => ⟨a.trans (ret_bool (by rw [e]; simp [Mo.anys, z2])), b⟩
    exact (moS_6c frm to w (decide_eq_true z1) (decide_eq_true z2)).mono fun _ _ ⟨a, b⟩ => ⟨a.trans (ret_bool (by rw [e]; simp [Mo.anys, Mo.bare, z1, z2])), b⟩
  by_cases k5 : kind = 5
  · subst k5
    have e := Mo.ok5 (m := ⟨5, frm, to, proto, lo, hi, n⟩) rfl
    by_cases ep : proto = 0
    case neg => exact (moS_5p frm to proto lo hi n w ep).mono fun _ _ ⟨a, b⟩ => ⟨a.trans (ret_bool (by rw [e]; simp [Mo.bare, ep])), b⟩
    subst ep
    by_cases el : lo = 0
    case neg => exact (moS_5l frm to lo hi n w el).mono fun _ _ ⟨a, b⟩ => ⟨a.trans (ret_bool (by rw [e]; simp [Mo.bare, el])), b⟩
    subst el
    by_cases eh : hi = 0
    case neg => exact (moS_5h frm to hi n w eh).mono fun _ _ ⟨a, b⟩ => ⟨a.trans (ret_bool (by rw [e]; simp [Mo.bare, eh])), b⟩
    subst eh
    by_cases z1 : frm = Pf.zero
    case neg => exact (moS_5a frm to n w (decide_eq_false z1)).mono fun _ _ ⟨a, b⟩ => ⟨a.trans (ret_bool (by rw [e]; simp [Mo.anys, z1])), b⟩
    by_cases z2 : to = Pf.zero
    case neg => exact (moS_5b frm to n w (decide_eq_true z1) (decide_eq_false z2)).mono fun _ _ ⟨a, b⟩ => ⟨a.trans (ret_bool (by rw [e]; simp [Mo.anys, z2])), b⟩
    exact (moS_5c frm to n _ w (decide_eq_true z1) (decide_eq_true z2) rfl).mono fun _ _ ⟨a, b⟩ => ⟨a.trans (ret_bool (by rw [e]; simp [Mo.anys, Mo.bare, z1, z2, btw, upTo])), b⟩
  by_cases k7 : kind = 7
  · subst k7
    have e := Mo.ok7 (m := ⟨7, frm, to, proto, lo, hi, n⟩) rfl
    by_cases ep : proto = 0
    case neg => exact (moS_7p frm to proto lo hi n w ep).mono fun _ _ ⟨a, b⟩ => ⟨a.trans (ret_bool (by rw [e]; simp [Mo.bare, ep])), b⟩
    subst ep
    by_cases el : lo = 0
    case neg => exact (moS_7l frm to lo hi n w el).mono fun _ _ ⟨a, b⟩ => ⟨a.trans (ret_bool (by rw [e]; simp [Mo.bare, el])), b⟩
    subst el
    by_cases eh : hi = 0
    case neg => exact (moS_7h frm to hi n w eh).mono fun _ _ ⟨a, b⟩ => ⟨a.trans (ret_bool (by rw [e]; simp [Mo.bare, eh])), b⟩
    subst eh
    by_cases z1 : frm = Pf.zero
    case neg => exact (moS_7a frm to n w (decide_eq_false z1)).mono fun _ _ ⟨a, b⟩ => ⟨a.trans (ret_bool (by rw [e]; simp [Mo.anys, z1])), b⟩
    by_cases z2 : to = Pf.zero
    case neg => exact (moS_7b frm to n w (decide_eq_true z1) (decide_eq_false z2)).mono fun _ _ ⟨a, b⟩ => ⟨a.trans (ret_bool (by rw [e]; simp [Mo.anys, z2])), b⟩
    exact (moS_7c frm to n w (decide_eq_true z1) (decide_eq_true z2)).mono fun _ _ ⟨a, b⟩ => ⟨a.trans (ret_bool (by rw [e]; simp [Mo.anys, Mo.bare, z1, z2])), b⟩
  omega
theorem moOkSB (m : Mo) (b : Bool) (h : m.ok = b) (w : World) : Calls Try.prog 15 #[.agg #[.int .i64 m.kind, .int .i64 m.frm.base.k, .int .i64 m.frm.base.a, .int .i64 m.frm.base.b, .int .i64 m.frm.base.c, .int .i64 m.frm.base.d, .int .i64 m.frm.len, .int .i64 m.to.base.k, .int .i64 m.to.base.a, .int .i64 m.to.base.b, .int .i64 m.to.base.c, .int .i64 m.to.base.d, .int .i64 m.to.len, .int .i64 m.proto, .int .i64 m.lo, .int .i64 m.hi, .int .i64 m.n]] w fun e w' => e = .returned (.bool b) ∧ Below w.heap.size w w' := h ▸ moOkS m w
end Go.Proofs.Ytdndanbalmoklaa
