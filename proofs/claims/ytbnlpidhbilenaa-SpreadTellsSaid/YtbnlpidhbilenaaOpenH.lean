/-
  A reference head that came in by value, opened; and what a laid frame's bytes tell. Conditions stand in each theorem.
-/
import Derived.Test.YtbnlpidhbilenaaOpen
import Derived.Test.YtbnlpidhbilenaaHeads
import Derived.Test.YtbnlpidhbilenaaRPut
import Derived.Lib.SmallJoins
namespace Go.Proofs.Ytbnlpidhbilenaa
open Go.ChangeShapes Go.WideShapes Go.ChangeAt Go.RowKit Plain
set_option linter.unusedVariables false
set_option maxRecDepth 100000

/-- a head whose numbers fit -/
structure Hok (h : Hd) : Prop where
  t0 : -9223372036854775808 ≤ h.ttl
  t1 : h.ttl ≤ 9223372036854775807
  p0 : -9223372036854775808 ≤ h.proto
  p1 : h.proto ≤ 9223372036854775807
  s0 : 0 ≤ h.src
  s1 : h.src ≤ 4294967295
  d0 : 0 ≤ h.dst
  d1 : h.dst ≤ 4294967295
  z0 : -9223372036854775808 ≤ h.size
  z1 : h.size ≤ 9223372036854775807
  l0 : -9223372036854775808 ≤ h.len
  l1 : h.len ≤ 9223372036854775807

theorem open_head {H : Type} {enc : TypeId × Value → H} {W : World} {r : Reach} {b0 : Nat} {v : Value} {d : DataW H} {p : List MemPlace}
    (hv : Value.okWide Try.prog W r b0 84 v) (h : DataW.Trod enc Try.prog W 0 (fun _ => true) true 84 v d p) :
    ∃ hd : Hd, v = hd.val ∧ Hok hd := by
  obtain ⟨cs, rfl, hsz⟩ := okWide_struct Try.underlying84 hv
  have hC : Try.prog.cellsOf 84 = 6 := by kernel_rfl
  have ci : Try.prog.cellsOf 3 = 1 := by kernel_rfl
  have cu : Try.prog.cellsOf 64 = 1 := by kernel_rfl
  obtain ⟨l⟩ := cs
  match l, hsz.trans hC with
  | [c0, c1, c2, c3, c4, c5], _ =>
    obtain ⟨fuel, hf⟩ := h
    obtain ⟨xs, n, _, hx, _, hlen, hg⟩ := DataW.trod_struct Try.underlying84 hf
    match xs, hlen with
    | [y0, y1, y2, y3, y4, y5], _ =>
      have g0 : DataW.trod enc Try.prog W 0 (fun _ => true) true n 3 [c0] = some y0 := by simpa [Value.cells, ci] using hg 0 _ rfl
      have g1 : DataW.trod enc Try.prog W 0 (fun _ => true) true n 3 [c1] = some y1 := by simpa [Value.cells, ci] using hg 1 _ rfl
      have g2 : DataW.trod enc Try.prog W 0 (fun _ => true) true n 3 [c2] = some y2 := by simpa [Value.cells, ci] using hg 2 _ rfl
      have g3 : DataW.trod enc Try.prog W 0 (fun _ => true) true n 3 [c3] = some y3 := by simpa [Value.cells, ci] using hg 3 _ rfl
      have g4 : DataW.trod enc Try.prog W 0 (fun _ => true) true n 64 [c4] = some y4 := by simpa [Value.cells, cu] using hg 4 _ rfl
      have g5 : DataW.trod enc Try.prog W 0 (fun _ => true) true n 64 [c5] = some y5 := by simpa [Value.cells, cu] using hg 5 _ rfl
      obtain ⟨a0, e0, _, w0⟩ := DataW.trod_int Try.underlying3 g0
      obtain ⟨a1, e1, _, w1⟩ := DataW.trod_int Try.underlying3 g1
      obtain ⟨a2, e2, _, w2⟩ := DataW.trod_int Try.underlying3 g2
      obtain ⟨a3, e3, _, w3⟩ := DataW.trod_int Try.underlying3 g3
      obtain ⟨a4, e4, _, w4⟩ := DataW.trod_int Try.underlying64 g4
      obtain ⟨a5, e5, _, w5⟩ := DataW.trod_int Try.underlying64 g5
      simp at e0 e1 e2 e3 e4 e5
      subst e0 e1 e2 e3 e4 e5
      have z0 := bounds_i64 w0
      have z1 := bounds_i64 w1
      have z2 := bounds_i64 w2
      have z3 := bounds_i64 w3
      have z4 := bounds_u32 w4
      have z5 := bounds_u32 w5
      exact ⟨⟨a0, a1, a2, a3, a4, a5⟩, rfl, ⟨z2.1, z2.2, z3.1, z3.2, z4.1, z4.2, z5.1, z5.2, z0.1, z0.2, z1.1, z1.2⟩⟩

/-- is it a head that can be laid? -/
def Fit (h : Hd) : Prop := (0 ≤ h.ttl ∧ h.ttl ≤ 255) ∧ 0 ≤ h.proto ∧ h.proto ≤ 255

theorem frm_by (t p s d : Int) (ys : List Int) (hy : By ys) (hl : ys.length ≤ 1480) (t0 : 0 ≤ t) (t1 : t ≤ 255) (p0 : 0 ≤ p) (p1 : p ≤ 255) (s0 : 0 ≤ s) (s1 : s ≤ 4294967295) (d0 : 0 ≤ d) (d1 : d ≤ 4294967295) :
    By (hb1 t p s d (20 + (ys.length : Int))) ∧ tot (hb1 t p s d (20 + (ys.length : Int))) % 65535 = 0 := by
  have hb := hb0_by t p s d (20 + (ys.length : Int)) t0 t1 p0 p1 s0 s1 d0 d1 (by omega) (by omega)
  have hc := Cs_range _ hb
  refine ⟨?_, ?_⟩
  · unfold hb1 P16
    exact (hb.set 10 _ (by omega) (by omega)).set 11 _ (by omega) (by omega)
  · unfold hb1 P16
    have e1 := tot_set (hb0 t p s d (20 + (ys.length : Int))) 10 (Cs (hb0 t p s d (20 + (ys.length : Int))) / 256) (by rw [hb0_len]; omega)
    have e2 := tot_set ((hb0 t p s d (20 + (ys.length : Int))).set 10 (Cs (hb0 t p s d (20 + (ys.length : Int))) / 256)) 11 (Cs (hb0 t p s d (20 + (ys.length : Int))) % 256) (by rw [List.length_set, hb0_len]; omega)
    have z10 : (hb0 t p s d (20 + (ys.length : Int))).getD 10 0 = 0 := rfl
    have z11 : ((hb0 t p s d (20 + (ys.length : Int))).set 10 (Cs (hb0 t p s d (20 + (ys.length : Int))) / 256)).getD 11 0 = 0 := rfl
    rw [z10, if_pos (by decide)] at e1
    rw [z11, if_neg (by decide)] at e2
    rw [e2, e1]
    have hF := F_mod _ (tot_nonneg _ hb)
    unfold Cs at hc ⊢
    generalize F (tot (hb0 t p s d (20 + (ys.length : Int)))) = f at *
    generalize tot (hb0 t p s d (20 + (ys.length : Int))) = T at *
    omega
theorem frm_head (t p s d : Int) (ys : List Int) : (frm t p s d ys).getD 0 0 = 69 ∧ (fld (frm t p s d ys)).size = 20 ∧ (fld (frm t p s d ys)).len = 20 + (ys.length : Int) := by
  refine ⟨rfl, rfl, ?_⟩
  show (20 + (ys.length : Int)) / 256 * 256 + (20 + (ys.length : Int)) % 256 = _
  omega
theorem getD_take' (l : List Int) (n k : Nat) (h : k < n) : (l.take n).getD k 0 = l.getD k 0 := getD_take l n k h
/-- a frame that is cut is short -/
theorem cut_short (t p s d : Int) (ys : List Int) (K : Nat) (hl : ys.length ≤ 1480) (hK : K < 20 + ys.length) : gtE ((frm t p s d ys).take K) = 2 ∧ gtH ((frm t p s d ys).take K) = hd0 := by
  have hlen : ((frm t p s d ys).take K).length = K := by rw [List.length_take, frm_len]; omega
  obtain ⟨h0, h1, h2⟩ := frm_head t p s d ys
  have he : gtE ((frm t p s d ys).take K) = 2 := by
    by_cases h20 : K < 20
    · have hr : rdE ((frm t p s d ys).take K) 1500 = 2 := by unfold rdE; rw [if_pos (by omega)]
      unfold gtE; rw [hr, if_pos (by decide)]
    · have z0 : ((frm t p s d ys).take K).getD 0 0 = 69 := by rw [getD_take _ _ _ (by omega)]; exact h0
      have zs : (fld ((frm t p s d ys).take K)).size = 20 := by
        show ((frm t p s d ys).take K).getD 0 0 % 16 * 4 = 20
        rw [z0]; decide
      have zl : (fld ((frm t p s d ys).take K)).len = 20 + (ys.length : Int) := by
        rw [← h2]
        show G16 ((frm t p s d ys).take K) 2 = G16 (frm t p s d ys) 2
        unfold G16
        rw [getD_take _ _ _ (by omega), getD_take _ _ _ (by omega)]
      have hr : rdE ((frm t p s d ys).take K) 1500 = 0 := by
        unfold rdE
        rw [if_neg (by omega), z0, if_neg (by decide), zs, if_neg (by decide), hlen, if_neg (by omega), zl, if_neg (by omega), if_neg (by omega)]
      unfold gtE
      rw [hr, if_neg (by decide), hlen, zl, if_pos (by omega)]
  exact ⟨he, by unfold gtH; rw [he, if_neg (by decide)]⟩
/-- a frame with one bit of its head turned (but the first byte's) isn't got -/
theorem turned_bad (t p s d : Int) (ys : List Int) (j : Nat) (y : Int) (hy : By ys) (hl : ys.length ≤ 1480) (t0 : 0 ≤ t) (t1 : t ≤ 255) (p0 : 0 ≤ p) (p1 : p ≤ 255) (s0 : 0 ≤ s) (s1 : s ≤ 4294967295) (d0 : 0 ≤ d) (d1 : d ≤ 4294967295)
    (hj0 : 1 ≤ j) (hj1 : j < 20) (ht : Turned ((frm t p s d ys).getD j 0) y) : gtE ((frm t p s d ys).set j y) ≠ 0 := by
  obtain ⟨hb, hm⟩ := frm_by t p s d ys hy hl t0 t1 p0 p1 s0 s1 d0 d1
  have hgd : (frm t p s d ys).getD j 0 = (hb1 t p s d (20 + (ys.length : Int))).getD j 0 := by
    unfold frm
    simp only [List.getD]
    rw [List.getElem?_append_left (by rw [hb1_len]; exact hj1)]
  rw [hgd] at ht
  have hF := turned_sum _ j y (by rw [hb1_len]; exact hj1) hb hm ht
  have hset : ((frm t p s d ys).set j y).take 20 = (hb1 t p s d (20 + (ys.length : Int))).set j y := by
    unfold frm
    rw [List.set_append_left _ _ (by rw [hb1_len]; exact hj1), List.take_append_of_le_length (by rw [List.length_set, hb1_len]; omega), List.take_of_length_le (by rw [List.length_set, hb1_len]; omega)]
  have z0 : ((frm t p s d ys).set j y).getD 0 0 = 69 := by
    have : ((frm t p s d ys).set j y).getD 0 0 = (frm t p s d ys).getD 0 0 := by simp [List.getD, show j ≠ 0 by omega]
    rw [this]; rfl
  have zs : (fld ((frm t p s d ys).set j y)).size = 20 := by
    show ((frm t p s d ys).set j y).getD 0 0 % 16 * 4 = 20
    rw [z0]; decide
  intro hc
  unfold gtE at hc
  split at hc
  · rename_i h; exact h hc
  split at hc
  · omega
  split at hc
  · omega
  · rename_i h
    rw [zs, show (20 : Int).toNat = 20 from rfl, hset] at h
    unfold Cs at h
    omega
end Go.Proofs.Ytbnlpidhbilenaa
