/-
  A head is got (fanlightlaw02.heads tells true), and a head told as the reference's (From). No condition.
-/
import Derived.Test.YtgoenjoojejghaaPutY
import Derived.Test.YtgoenjoojejghaaGet
namespace Go.Proofs.Ytgoenjoojejghaa
open Go.RowKit Plain
set_option linter.unusedVariables false
set_option maxRecDepth 100000

set_option maxHeartbeats 1000000 in
theorem from_any (h : Hd) (w : World) :
    Calls Try.prog 21 #[h.val] w fun e w' => e = .returned h.val ∧ Below w.heap.size w w' := by
  obtain ⟨d0, d1, d2, d3, d4, d5⟩ := h
  rw [show (Hd.mk d0 d1 d2 d3 d4 d5).val = .agg #[.int .i64 d0, .int .i64 d1, .int .i64 d2, .int .i64 d3, .int .u32 d4, .int .u32 d5] from rfl]
  go_enter Try.func21, Try.ntmps21
  go_wp2
  refine bodyPost_ret (v := .agg #[.int .i64 d0, .int .i64 d1, .int .i64 d2, .int .i64 d3, .int .u32 d4, .int .u32 d5]) (by simp [results, Try.results21, go_sem]) rfl ⟨rfl, ?_⟩
  exact ((Below.refl _ _).alloc (Nat.le_refl _) _).alloc (by simp) _

def hL : List Int := frm 64 17 167772161 167772162 []
theorem hL_e : gtE hL = 0 := by decide
theorem hL_h : gtH hL = ⟨20, 20, 64, 17, 167772161, 167772162⟩ := by unfold gtH; rw [hL_e, if_pos rfl]; rfl

end Go.Proofs.Ytgoenjoojejghaa
