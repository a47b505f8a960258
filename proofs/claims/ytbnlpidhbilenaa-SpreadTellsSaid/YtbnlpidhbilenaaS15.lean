/-
  The frame of a fanlightlaw15.Sent: what is told of it whatever it is. Conditions stand in each theorem.
-/
import Derived.Test.YtbnlpidhbilenaaRRight2
import Derived.Test.YtbnlpidhbilenaaRFix
import Derived.Test.YtbnlpidhbilenaaSp8
import Derived.Test.YtbnlpidhbilenaaLdc
import Derived.Deep.RegionHeld3
import Derived.Deep.CutBlock
import Derived.BigQuiet
import Derived.BigRegion
namespace Go.Proofs.Ytbnlpidhbilenaa
open Go.RowKit Plain
set_option linter.unusedVariables false
set_option linter.unusedSimpArgs false
set_option maxRecDepth 100000
theorem rright_got (zs : List Int) (hby : By zs) (hg : gtE zs = 0) (A : Option Addr) (n c : Nat) (ys : List Int) (w : World) (hn : ys.length = n) (hl : n ≤ 1000) (hzn : zs.length = n) (hR : Rd w A ys) :
    Calls Try.prog 45 #[(gtH zs).val, .slice A n c] w (RightOk n w) := by
  have G := got_of zs hby hg
  have hr := gtH_rng zs hby
  have z1 := G.sz
  have z2 := G.ln
  rw [← G.hd] at z1 z2
  generalize gtH zs = h at *
  obtain ⟨h0, h1, h2, h3, h4, h5⟩ := h
  simp only at z1 z2 hr
  obtain ⟨sz, rfl⟩ : ∃ sz : Nat, h0 = (sz : Int) := ⟨h0.toNat, by omega⟩
  obtain ⟨q, rfl⟩ : ∃ q : Nat, h1 = (sz : Int) + (q : Int) := ⟨(h1 - sz).toNat, by omega⟩
  rw [show (Hd.mk (sz : Int) ((sz : Int) + (q : Int)) h2 h3 h4 h5).val = .agg #[.int .i64 (sz : Int), .int .i64 ((sz : Int) + (q : Int)), .int .i64 h2, .int .i64 h3, .int .u32 h4, .int .u32 h5] from rfl]
  by_cases p17 : h3 = 17
  · subst p17
    exact rightg_17 sz q (by omega) (by omega) h2 h4 h5 A n c ys w hn hl (by omega) hR hr.1 hr.2.1 hr.2.2.1 hr.2.2.2
  by_cases p6 : h3 = 6
  · subst p6
    exact rightg_6 sz q (by omega) (by omega) h2 h4 h5 A n c ys w hn hl (by omega) hR hr.1 hr.2.1 hr.2.2.1 hr.2.2.2
  by_cases p1 : h3 = 1
  · subst p1
    exact rightg_1 sz q (by omega) (by omega) h2 h4 h5 A n c ys w hn hl (by omega) hR hr.1 hr.2.1 hr.2.2.1 hr.2.2.2
  exact rightg_no sz q h3 p17 p6 p1 (by omega) (by omega) h2 h4 h5 A n c ys w hn hl (by omega) hR hr.1 hr.2.1 hr.2.2.1 hr.2.2.2
end Go.Proofs.Ytbnlpidhbilenaa
