/-
  A frame that goes out, and back to what it was: its bytes, as lists. Conditions stand in each theorem.
-/
import Derived.Test.YtdkjipfemnfckaaRwS
import Derived.Test.YtdkjipfemnfckaaRwW
namespace Go.Proofs.Ytdkjipfemnfckaa
open Go.RowKit Plain
set_option linter.unusedVariables false
set_option maxRecDepth 100000

theorem pg_nat (zs : List Int) (hby : By zs) (hg : Got zs) (h : pgE (fld zs) zs = 0) : ∃ S N pos isz : Nat, (fld zs).size = (S : Int) ∧ (fld zs).len = (N : Int) ∧ (pgP (fld zs) zs).pos = (pos : Int) ∧ (pgP (fld zs) zs).inn.size = (isz : Int) ∧ 20 ≤ S ∧ S ≤ 60 ∧ 20 ≤ N ∧ N ≤ zs.length ∧
    ((pgP (fld zs) zs).er = true → pos = S + 8 ∧ 20 ≤ isz ∧ isz ≤ 60 ∧ pos + isz ≤ N) := by
  have hs := hg.sz
  have hl := hg.ln
  refine ⟨(fld zs).size.toNat, (fld zs).len.toNat, (pgP (fld zs) zs).pos.toNat, (pgP (fld zs) zs).inn.size.toNat, by omega, by omega, ?_⟩
  rcases pg_fact zs hby hg h with ⟨h1, h2⟩ | ⟨h1, h2, h3, h4, h5, h6⟩
  · have hp : (pgP (fld zs) zs).pos = 0 ∧ (pgP (fld zs) zs).inn.size = 0 := by
      rcases pg_cases zs hg h with ⟨_, q1, q2⟩ | ⟨_, q1, q2⟩ | ⟨_, q1, _, q2⟩ | ⟨_, q1, _, q3, q2⟩
      · rw [q2]; unfold udP; rw [if_pos q1]; exact ⟨rfl, rfl⟩
      · rw [q2]; unfold tcP; rw [if_pos q1]; exact ⟨rfl, rfl⟩
      · rw [q2]; exact ⟨rfl, rfl⟩
      · exfalso
        rw [q2] at h1
        unfold erP at h1
        rw [if_pos q3] at h1
        split at h1 <;> simp at h1
    refine ⟨by omega, by omega, by omega, by omega, by omega, by omega, fun he => ?_⟩
    rw [h1] at he; cases he
  · exact ⟨by omega, by omega, by omega, by omega, by omega, by omega, fun _ => by omega⟩
theorem G16_bytes {L M : List Int} (hL : By L) (hM : By M) (i j : Nat) (h : G16 L i = G16 M i) (hj : i ≤ j ∧ j < i + 2) : L.getD j 0 = M.getD j 0 := by
  have a := hL.getD i
  have b := hL.getD (i + 1)
  have c := hM.getD i
  have d := hM.getD (i + 1)
  unfold G16 at h
  rcases (by omega : j = i ∨ j = i + 1) with rfl | rfl <;> omega
theorem G32_bytes {L M : List Int} (hL : By L) (hM : By M) (i j : Nat) (h : G32 L i = G32 M i) (hj : i ≤ j ∧ j < i + 4) : L.getD j 0 = M.getD j 0 := by
  have a := hL.getD i
  have b := hL.getD (i + 1)
  have a2 := hL.getD (i + 2)
  have b2 := hL.getD (i + 3)
  have c := hM.getD i
  have d := hM.getD (i + 1)
  have c2 := hM.getD (i + 2)
  have d2 := hM.getD (i + 3)
  have h : (L.getD i 0 * 256 + L.getD (i + 1) 0) * 65536 + (L.getD (i + 2) 0 * 256 + L.getD (i + 3) 0) = (M.getD i 0 * 256 + M.getD (i + 1) 0) * 65536 + (M.getD (i + 2) 0 * 256 + M.getD (i + 3) 0) := h
  rcases (by omega : j = i ∨ j = i + 1 ∨ j = i + 2 ∨ j = i + 3) with rfl | rfl | rfl | rfl <;> omega
theorem bod_getD (zs : List Int) (N S j : Nat) (hN : (fld zs).len = (N : Int)) (hS : (fld zs).size = (S : Int)) (hj : S + j < N) (hn : N ≤ zs.length) : (bod zs).getD j 0 = zs.getD (S + j) 0 := by
  rw [bod_eq zs N S hN hS]
  simp [List.getD, hj]
theorem bod_G16 (zs : List Int) (N S j : Nat) (hN : (fld zs).len = (N : Int)) (hS : (fld zs).size = (S : Int)) (hj : S + j + 1 < N) (hn : N ≤ zs.length) : G16 (bod zs) j = G16 zs (S + j) := by
  unfold G16
  rw [bod_getD zs N S j hN hS (by omega) hn, bod_getD zs N S (j + 1) hN hS (by omega) hn, Nat.add_assoc]
/-- the ports that a frame tells, as bytes of it -/
structure PtB (zs : List Int) (N S pos isz : Nat) (p : Pt) : Prop where
  low : p.er = false → ((fld zs).proto = 17 ∨ (fld zs).proto = 6) → p.sp = G16 zs S ∧ S + 2 ≤ N
  ec : p.er = false → (fld zs).proto = 1 → p.sp = G16 zs (S + 4) ∧ S + 6 ≤ N
  pr : (fld zs).proto = 17 ∨ (fld zs).proto = 6 ∨ (fld zs).proto = 1
  er : p.er = true → (fld zs).proto = 1 ∧ pos + isz + 8 ≤ N ∧ p.inn.dst = G32 zs (pos + 16) ∧ (p.inn.proto = 17 ∨ p.inn.proto = 6 ∨ p.inn.proto = 1) ∧ (p.inn.proto ≠ 1 → p.dp = G16 zs (pos + isz + 2)) ∧ (p.inn.proto = 1 → p.sp = G16 zs (pos + isz + 4) ∧ p.dp = p.sp)
theorem ptB (zs : List Int) (hby : By zs) (hg : Got zs) (h : pgE (fld zs) zs = 0) (S N pos isz : Nat) (eS : (fld zs).size = (S : Int)) (eN : (fld zs).len = (N : Int)) (eP : (pgP (fld zs) zs).pos = (pos : Int)) (eI : (pgP (fld zs) zs).inn.size = (isz : Int)) :
    PtB zs N S pos isz (pgP (fld zs) zs) := by
  have hl := hg.ln
  have hs := hg.sz
  have hn : N ≤ zs.length := by omega
  have hbl := bod_len zs hg
  rcases pg_cases zs hg h with ⟨q0, q1, q2⟩ | ⟨q0, q1, q2⟩ | ⟨q0, q1, _, q2⟩ | ⟨q0, q1, _, q3, q2⟩
  · have hu := udE_len _ _ _ q1
    rw [q2]
    unfold udP
    rw [if_pos q1]
    exact ⟨fun _ _ => ⟨bod_G16 zs N S 0 eN eS (by omega) hn, by omega⟩, fun _ e => by omega, Or.inl q0, fun e => by simp at e⟩
  · have hu := tcE_len _ _ _ q1
    rw [q2]
    unfold tcP
    rw [if_pos q1]
    exact ⟨fun _ _ => ⟨bod_G16 zs N S 0 eN eS (by omega) hn, by omega⟩, fun _ e => by omega, Or.inr (Or.inl q0), fun e => by simp at e⟩
  · have hu := icE_len _ q1
    rw [q2]
    exact ⟨fun _ e => by omega, fun _ _ => ⟨bod_G16 zs N S 4 eN eS (by omega) hn, by omega⟩, Or.inr (Or.inr q0), fun e => by simp at e⟩
  · have hu := icE_len _ q1
    have hbi : By ((bod zs).drop 8) := (bod_by hby).drop 8
    have gi := gotI_of _ hbi q3
    have hpp := q2
    unfold erP at hpp
    rw [if_pos q3, gi.hd] at hpp
    have hinn : (pgP (fld zs) zs).inn = fld ((bod zs).drop 8) := by rw [hpp]; split <;> rfl
    have hpos : (pgP (fld zs) zs).pos = (fld zs).size + 8 := by rw [hpp]; split <;> rfl
    have her : (pgP (fld zs) zs).er = true := by rw [hpp]; split <;> rfl
    rw [hinn] at eI
    have hdl : ((bod zs).drop 8).length = (bod zs).length - 8 := List.length_drop
    have g2 := gi.ln
    have g1 := gi.sz
    have hp8 : pos = S + 8 := by omega
    have hgd : ∀ j, S + 8 + j < N → ((bod zs).drop 8).getD j 0 = zs.getD (pos + j) 0 := fun j hj => by
      rw [show pos + j = S + (8 + j) by omega, ← bod_getD zs N S (8 + j) eN eS (by omega) hn]
      simp only [List.getD_eq_getElem?_getD, List.getElem?_drop]
    have hge : ∀ j, S + 8 + isz + j + 1 < N → G16 (erC ((bod zs).drop 8)) j = G16 zs (pos + isz + j) := fun j hj => by
      unfold erC
      rw [gi.hd, eI, Int.toNat_natCast]
      unfold G16
      have e1 : ∀ q, (((bod zs).drop 8).drop isz).getD q 0 = ((bod zs).drop 8).getD (isz + q) 0 := fun q => by simp only [List.getD_eq_getElem?_getD, List.getElem?_drop]
      rw [e1, e1, hgd _ (by omega), hgd _ (by omega), show pos + (isz + j) = pos + isz + j by omega, show pos + (isz + (j + 1)) = pos + isz + j + 1 by omega]
    refine ⟨fun e => (by rw [her] at e; cases e), fun e => (by rw [her] at e; cases e), Or.inr (Or.inr q0), fun _ => ⟨q0, by omega, ?_, ?_, ?_, ?_⟩⟩
    · rw [hinn]
      show G32 ((bod zs).drop 8) 16 = _
      unfold G32 G16
      rw [hgd 16 (by omega), hgd 17 (by omega), hgd 18 (by omega), hgd 19 (by omega)]
    · rw [hinn]
      rcases gi.pr with h | h | h
      · exact Or.inl h
      · exact Or.inr (Or.inl h)
      · exact Or.inr (Or.inr h.1)
    · rw [hinn]
      intro hq
      rw [hpp, if_neg hq]
      exact hge 2 (by omega)
    · rw [hinn]
      intro hq
      rw [hpp, if_pos hq]
      exact ⟨hge 4 (by omega), rfl⟩
end Go.Proofs.Ytdkjipfemnfckaa
