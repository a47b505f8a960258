/-
  Plain facts on workers who load a cell, and then would put their number there. No condition beyond those that each theorem names.
-/
import Derived.Test.YtaoookahpbalaaaTurnP
namespace Go.Proofs.Ytaoookahpbalaaa
open Go.RowKit Plain
set_option linter.unusedVariables false
set_option maxRecDepth 100000

def swOs (i : Nat) : List OpV := [⟨0, 0, 0, 0, false⟩, ⟨2, 0, 0, (i : Int) + 1, true⟩]
/-- who looks at what was told: which number stands there, what each one got, whether one has tried -/
structure Ck where
  now : Int
  got : Nat → Int
  tried : Bool
def ck1 (n : Nat) (c : Ck) (x : Nat × Nat × Int) : Option Ck :=
  if x.1 < n ∧ x.2.1 = 0 ∧ x.2.2 = c.now then some ⟨c.now, upd c.got x.1 x.2.2, c.tried⟩
  else if x.1 < n ∧ x.2.1 ≠ 0 ∧ c.got x.1 = c.now ∧ x.2.2 = 1 then some ⟨(x.1 : Int) + 1, c.got, true⟩
  else if x.1 < n ∧ x.2.1 ≠ 0 ∧ c.got x.1 ≠ c.now ∧ x.2.2 = 0 ∧ c.tried = true then some ⟨c.now, c.got, true⟩
  else none
def ckL (n : Nat) : Option Ck → List (Nat × Nat × Int) → Option Ck
  | c, [] => c
  | none, _ => none
  | some c, x :: xs => ckL n (ck1 n c x) xs
theorem ckL_none (n : Nat) : ∀ xs, ckL n none xs = none
  | [] => rfl
  | _ :: _ => rfl
theorem ckL_snoc (n : Nat) (x : Nat × Nat × Int) : ∀ (xs : List (Nat × Nat × Int)) (c : Option Ck), ckL n c (xs ++ [x]) = (ckL n c xs).bind fun c => ck1 n c x
  | [], none => rfl
  | [], some c => by simp [ckL]
  | y :: ys, none => by simp [ckL_none]
  | y :: ys, some c => by
      show ckL n (ck1 n c y) (ys ++ [x]) = (ckL n (ck1 n c y) ys).bind _
      exact ckL_snoc n x ys _
theorem ckL_take (n : Nat) : ∀ (xs : List (Nat × Nat × Int)) (c : Option Ck) (r : Ck), ckL n c xs = some r → ∀ j, j < xs.length → ∃ c1 c2, ckL n c (xs.take j) = some c1 ∧ ck1 n c1 (xs.getD j default) = some c2 ∧ ckL n c (xs.take (j + 1)) = some c2
  | [], c, r, h, j, hj => absurd hj (by simp)
  | x :: xs, none, r, h, j, hj => by simp [ckL] at h
  | x :: xs, some c, r, h, 0, hj => by
      have h' : ckL n (ck1 n c x) xs = some r := h
      cases hc : ck1 n c x with
      | none => rw [hc, ckL_none] at h'; cases h'
      | some c2 => exact ⟨c, c2, rfl, by simpa using hc, by show ckL n (ck1 n c x) (xs.take 0) = _; rw [hc]; rfl⟩
  | x :: xs, some c, r, h, j + 1, hj => by
      have h' : ckL n (ck1 n c x) xs = some r := h
      obtain ⟨c1, c2, e1, e2, e3⟩ := ckL_take n xs (ck1 n c x) r h' j (by simpa using hj)
      exact ⟨c1, c2, e1, by simpa using e2, e3⟩
def ck0 : Ck := ⟨0, fun _ => 0, false⟩
/-- what holds behind each turn -/
def SwI (n : Nat) (t : TS) : Prop := ∃ c, ckL n (some ck0) t.out = some c ∧ t.l = [c.now] ∧ (∀ i, i < n → t.D i ≤ 2) ∧ (∀ i, i < n → 1 ≤ t.D i → c.got i = t.K i) ∧ (c.tried = false → c.now = 0 ∧ ∀ i, i < n → 1 ≤ t.D i → t.K i = 0)
theorem swI_one (n : Nat) (t : TS) (i : Nat) (hi : i < n) (h : SwI n t) : SwI n (one swOs t i) := by
  obtain ⟨c, h1, h2, h3, h4, h5⟩ := h
  by_cases hd : t.D i < (swOs i).length
  · rw [one_yes swOs t i hd]
    have hd2 : t.D i < 2 := hd
    have key : t.D i = 0 ∨ t.D i = 1 := by omega
    rcases key with h0 | h0
    · rw [h0]
      have eo : (swOs i).getD 0 default = ⟨0, 0, 0, 0, false⟩ := rfl
      rw [eo, h2]
      have eg : stG [c.now] ⟨0, 0, 0, 0, false⟩ (t.K i) = c.now := rfl
      have el : stL [c.now] ⟨0, 0, 0, 0, false⟩ (t.K i) = [c.now] := rfl
      have ek : stK [c.now] ⟨0, 0, 0, 0, false⟩ (t.K i) = c.now := rfl
      rw [eg, el, ek]
      refine ⟨⟨c.now, upd c.got i c.now, c.tried⟩, ?_, rfl, ?_, ?_, ?_⟩
      · rw [ckL_snoc, h1]
        show ck1 n c (i, 0, c.now) = _
        unfold ck1; rw [if_pos ⟨hi, rfl, rfl⟩]
      · intro j hj
        show upd t.D i 1 j ≤ 2
        unfold upd; split
        · omega
        · exact h3 j hj
      · intro j hj hj1
        show upd c.got i c.now j = upd t.K i c.now j
        by_cases e : j = i
        · subst e; rw [upd_same, upd_same]
        · have hj1' : 1 ≤ t.D j := by
            have : upd t.D i (0 + 1) j = t.D j := by unfold upd; rw [if_neg e]
            rw [← this]; exact hj1
          unfold upd; rw [if_neg e, if_neg e]; exact h4 j hj hj1'
      · intro ht
        obtain ⟨hn, hk⟩ := h5 ht
        refine ⟨hn, fun j hj hj1 => ?_⟩
        show upd t.K i c.now j = 0
        by_cases e : j = i
        · subst e; rw [upd_same]; exact hn
        · have hj1' : 1 ≤ t.D j := by
            have : upd t.D i (0 + 1) j = t.D j := by unfold upd; rw [if_neg e]
            rw [← this]; exact hj1
          unfold upd; rw [if_neg e]; exact hk j hj hj1'
    · rw [h0]
      have eo : (swOs i).getD 1 default = ⟨2, 0, 0, (i : Int) + 1, true⟩ := rfl
      have hg := h4 i hi (by omega)
      rw [eo, h2]
      have hD : ∀ j, upd t.D i (1 + 1) j ≤ 2 ∨ ¬ j < n := by
        intro j
        by_cases hj : j < n
        · left; unfold upd; split
          · omega
          · exact h3 j hj
        · exact .inr hj
      have hK : upd t.K i (t.K i) = t.K := by funext j; unfold upd; split; (rename_i e; rw [e]); rfl
      have ek : stK [c.now] ⟨2, 0, 0, (i : Int) + 1, true⟩ (t.K i) = t.K i := rfl
      rw [ek, hK]
      have h4' : ∀ j, j < n → 1 ≤ upd t.D i (1 + 1) j → c.got j = t.K j := by
        intro j hj hj1
        by_cases e : j = i
        · subst e; exact hg
        · refine h4 j hj ?_
          have : upd t.D i (1 + 1) j = t.D j := by unfold upd; rw [if_neg e]
          rw [← this]; exact hj1
      by_cases hw : c.now = t.K i
      · have eg : stG [c.now] ⟨2, 0, 0, (i : Int) + 1, true⟩ (t.K i) = 1 := by
          show (if [c.now].getD 0 0 = t.K i then (1 : Int) else 0) = 1
          rw [if_pos (by simpa using hw)]
        have el : stL [c.now] ⟨2, 0, 0, (i : Int) + 1, true⟩ (t.K i) = [(i : Int) + 1] := by
          show (if [c.now].getD 0 0 = t.K i then [c.now].set 0 ((i : Int) + 1) else [c.now]) = _
          rw [if_pos (by simpa using hw)]; rfl
        rw [eg, el]
        refine ⟨⟨(i : Int) + 1, c.got, true⟩, ?_, rfl, fun j hj => (hD j).resolve_right (fun h => h hj), h4', fun h => by cases h⟩
        rw [ckL_snoc, h1]
        show ck1 n c (i, 1, 1) = _
        unfold ck1
        rw [if_neg (by simp), if_pos ⟨hi, by simp, by rw [hg, hw], rfl⟩]
      · have eg : stG [c.now] ⟨2, 0, 0, (i : Int) + 1, true⟩ (t.K i) = 0 := by
          show (if [c.now].getD 0 0 = t.K i then (1 : Int) else 0) = 0
          rw [if_neg (by simpa using hw)]
        have el : stL [c.now] ⟨2, 0, 0, (i : Int) + 1, true⟩ (t.K i) = [c.now] := by
          show (if [c.now].getD 0 0 = t.K i then [c.now].set 0 ((i : Int) + 1) else [c.now]) = _
          rw [if_neg (by simpa using hw)]
        have htr : c.tried = true := by
          cases ht : c.tried with
          | true => rfl
          | false =>
            obtain ⟨hn, hk⟩ := h5 ht
            exact absurd (by rw [hn, hk i hi (by omega)]) hw
        rw [eg, el]
        refine ⟨⟨c.now, c.got, true⟩, ?_, rfl, fun j hj => (hD j).resolve_right (fun h => h hj), h4', fun h => by cases h⟩
        rw [ckL_snoc, h1]
        show ck1 n c (i, 1, 0) = _
        unfold ck1
        rw [if_neg (by simp), if_neg (by simp), if_pos ⟨hi, by simp, by rw [hg]; exact fun h => hw h.symm, rfl, htr⟩]
  · rw [one_no swOs t i hd]; exact ⟨c, h1, h2, h3, h4, h5⟩
/-- in the end -/
theorem sw_all (n : Nat) (zs : List Int) (h : 0 < n) (h2 : n ≤ 64) : ∃ c, ckL n (some ck0) (many swOs (ts0 [0]) (zs.map (pk n) ++ restL swOs n)).out = some c ∧ (many swOs (ts0 [0]) (zs.map (pk n) ++ restL swOs n)).l = [c.now] ∧ (many swOs (ts0 [0]) (zs.map (pk n) ++ restL swOs n)).out.length = n * 2 := by
  obtain ⟨hD, hO⟩ := rest_done swOs [0] n zs h h2
  have hI : SwI n (many swOs (ts0 [0]) (zs.map (pk n) ++ restL swOs n)) :=
    many_keep swOs (SwI n) (fun i => i < n) (fun t i hi ht => swI_one n t i hi ht) _ _ (fun i hi => by
      rcases List.mem_append.1 hi with hi | hi
      · exact pk_lt_all n zs h h2 i hi
      · exact restL_lt swOs n i hi) ⟨ck0, rfl, rfl, fun _ _ => Nat.zero_le _, fun i hi h1 => absurd h1 (by show ¬ 1 ≤ 0; omega), fun _ => ⟨rfl, fun i hi h1 => absurd h1 (by show ¬ 1 ≤ 0; omega)⟩⟩
  obtain ⟨c, h1, h3, _⟩ := hI
  exact ⟨c, h1, h3, by rw [hO]; exact sumD_const _ 2 n (fun i hi => hD i hi)⟩
end Go.Proofs.Ytaoookahpbalaaa
