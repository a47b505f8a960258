/-
  HistoryNotes: what is looked at behind each step. Conditions stand in each theorem.
-/
import Derived.Test.YtbnlpidhbilenaaHnu
import Derived.Test.YtbnlpidhbilenaaHsm
import Derived.Test.YtbnlpidhbilenaaHn
namespace Go.Proofs.Ytbnlpidhbilenaa
open Go.RowKit Go.Deep Plain
set_option linter.unusedVariables false
set_option linter.unusedSimpArgs false
set_option maxRecDepth 100000
theorem same_both (x y z : En) (f a : List Int) (w : World) (hy : x.like y) (hz : x.like z) (fy : FrS w y f a) (fz : FrS w z f a) : Calls Try.prog 22 #[y.val, z.val] w fun e w' => e = .returned (.bool true) ∧ Below w.heap.size w w' := by
  have ey := like_eq hy
  have ez := like_eq hz
  obtain ⟨y0, y1, y2, y3, y4, y5, y6, y7, y8, y9, y10, y11, y12, y13, y14⟩ := y
  obtain ⟨z0, z1, z2, z3, z4, z5, z6, z7, z8, z9, z10, z11, z12, z13, z14⟩ := z
  simp only at ey ez
  have h1 := fy.fr
  have h2 := fy.fl
  have h3 := fy.ar
  have h4 := fy.al
  have h5 := fz.fr
  have h6 := fz.ar
  rw [ey] at h1 h2 h3 h4
  rw [ez] at h5 h6
  rw [ey, ez]
  unfold En.val En.cs
  exact same_yes x.b x.e x.ends x.out y4 z4 y9 z9 x.fn x.an y6 z6 y11 z11 x.tick x.port x.err x.pr x.po f a w h2 h4 h1 h5 h3 h6
theorem own_rdv {w : World} {base n m c : Nat} {A : Option Addr} {L : List En} (h : w.ownsRow base 47 11 (.slice A m c) n (enC L)) (hn : L.length = n) : RdE w A L := fun hp => by
  rcases h.2 with ⟨_, e2⟩ | ⟨g, cap, cur, hv, hg, hh, hnc, hcm, hcs, htk⟩
  · omega
  · have hv' := hv
    injection hv with e1 e2 e3
    subst e1 e2 e3
    refine ⟨g, 0, rfl, (Array.getElem?_eq_some_iff.1 hh).1, fun i hi j v hvj => ?_⟩
    have hj : j < 11 := (List.getElem?_eq_some_iff.1 hvj).1
    rw [addr_add, Nat.zero_add, h.cellAt (i * 11 + j) (by omega), enC_at L i j hi hj, hvj]
theorem pl_rgt {es : List En} {now : Nat} (h : ∀ j, j < es.length → PlE now (es.getD j en0)) : rgt (es.map En.t3) = true := by
  unfold rgt
  rw [List.all_eq_true]
  intro p hp
  obtain ⟨x, hx, rfl⟩ := List.mem_map.1 hp
  obtain ⟨j, hj, rfl⟩ := List.mem_iff_getElem.1 hx
  have := h j hj
  rw [show es.getD j en0 = es[j] by simp [List.getD, hj]] at this
  obtain ⟨h1, h2, h3⟩ := this
  unfold rg1 En.t3
  simp only [Bool.and_eq_true, decide_eq_true_eq]
  refine ⟨h1, ?_⟩
  rcases h3 with ⟨q1, q2⟩ | ⟨q1, q2⟩
  · rw [if_pos q1, q2]; rfl
  · rw [if_neg (by omega)]; simpa using q1
theorem pl_wf {es : List En} {now : Nat} (h : ∀ j, j < es.length → PlE now (es.getD j en0)) (hn : now ≤ 1000) : ∀ x ∈ es, x.wf := fun x hx => by
  obtain ⟨j, hj, rfl⟩ := List.mem_iff_getElem.1 hx
  have := h j hj
  rw [show es.getD j en0 = es[j] by simp [List.getD, hj]] at this
  obtain ⟨h1, h2, h3⟩ := this
  exact ⟨wf64 _ (by omega) (by omega), wf64 _ (by omega) (by omega)⟩
end Go.Proofs.Ytbnlpidhbilenaa
