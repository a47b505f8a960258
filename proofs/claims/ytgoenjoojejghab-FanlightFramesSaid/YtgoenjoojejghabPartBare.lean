/-
  PartBare: its walk.
-/
import Derived.Test.YtgoenjoojejghabFrame
import Derived.Test.YtgoenjoojejghabParts
import Derived.Test.YtgoenjoojejghabPFrom
namespace Go.Proofs.Ytgoenjoojejghab
open Go.RowKit Plain
set_option linter.unusedVariables false
set_option linter.unusedSimpArgs false
set_option maxRecDepth 100000

/-- what getUdp tells of a datagram whose sum is another one -/
theorem bare_ud (s d f t v : Int) (L : List Int) (hl : L.length ≤ 1400) (hby : By L) (s0 : 0 ≤ s) (d0 : 0 ≤ d) (f0 : 0 ≤ f) (f1 : f ≤ 65535) (t0 : 0 ≤ t) (t1 : t ≤ 65535) (v0 : 0 ≤ v) (v1 : v ≤ 65535) :
    udE s d (P16 (udL s d f t L) 6 v) = (if v = 0 ∨ v = G16 (udL s d f t L) 6 then 0 else 4) ∧
    ((v = 0 ∨ v = G16 (udL s d f t L) 6) → udP s d (P16 (udL s d f t L) 6 v) = ⟨17, f, t, 0, 0, 0, false, hd0, 0, v == 0⟩) := by
  have e : P16 (udL s d f t L) 6 v = P16 (ud0 f t L) 6 v := by unfold udL; rw [P16_P16]
  have hlen := ud0_len f t L
  obtain ⟨g0, g2, g4, g6⟩ := ud0_g f t L f0 f1 t0 t1 hl
  have eg : G16 (udL s d f t L) 6 = no0 (65535 - F (Px s d 17 (ud0 f t L).length + tot (ud0 f t L))) := by
    unfold udL; rw [P16_g16 _ _ _ (by omega), Ps_px]
  have hX := Px_pos s d 17 (ud0 f t L).length s0 d0 (by decide)
  have hT := tot_nonneg _ (ud0_by f t hby)
  have hPs := Ps_P16 s d 17 (ud0 f t L) 6 v (by decide) (by omega) g6
  have hE : udE s d (P16 (ud0 f t L) 6 v) = (if v = 0 ∨ v = G16 (udL s d f t L) 6 then 0 else 4) := by
    unfold udE
    rw [P16_len, hlen, if_neg (by omega), P16_g16_ne _ 6 4 v (by decide) (by decide) (by decide), g4, if_neg (by omega), P16_g16 _ _ _ (by omega), hPs, eg]
    by_cases hv : v = 0
    · rw [if_neg (by rw [hv]; simp), if_pos (Or.inl hv)]
    · have ri := right_iff (Px s d 17 (ud0 f t L).length + tot (ud0 f t L)) v (by omega) (by omega) v1
      by_cases hw : v = no0 (65535 - F (Px s d 17 (ud0 f t L).length + tot (ud0 f t L)))
      · have := ri.2 hw
        rw [if_neg (by rw [this]; simp), if_pos (Or.inr hw)]
      · have hne : F (Px s d 17 (ud0 f t L).length + tot (ud0 f t L) + v) ≠ 65535 := fun h => hw (ri.1 h)
        rw [if_pos ⟨hv, by omega⟩, if_neg (by rintro (h | h); exact hv h; exact hw h)]
  rw [e]
  refine ⟨hE, fun h => ?_⟩
  unfold udP
  rw [hE, if_pos h, if_pos rfl, P16_g16 _ _ _ (by omega), P16_g16_ne _ 6 0 v (by decide) (by decide) (by decide), P16_g16_ne _ 6 2 v (by decide) (by decide) (by decide), g0, g2]

theorem pt_fields {p : Pt} {e0 e1 e2 e3 e4 e5 : Int} {e6 : Bool} {e7 e8 e9 e10 e11 e12 e13 : Int} {e14 : Bool} (h : p.val = .agg #[.int .i64 e0, .int .u16 e1, .int .u16 e2, .int .i64 e3, .int .i64 e4, .int .i64 e5, .bool e6, .int .i64 e7, .int .i64 e8, .int .i64 e9, .int .i64 e10, .int .u32 e11, .int .u32 e12, .int .i64 e13, .bool e14]) :
    e0 = p.proto ∧ e1 = p.sp ∧ e2 = p.dp ∧ e14 = p.bare := by
  simp only [Pt.val, Value.agg.injEq, Array.mk.injEq, List.cons.injEq, Value.int.injEq, Value.bool.injEq, true_and] at h
  exact ⟨h.1.symm, h.2.1.symm, h.2.2.1.symm, h.2.2.2.2.2.2.2.2.2.2.2.2.2.2.1.symm⟩

end Go.Proofs.Ytgoenjoojejghab
