/-
  Plain facts on workers who add, and on such who load and then would store. No condition beyond those that each theorem names.
-/
import Derived.Test.YtgengboaoniogaaTurnP
namespace Go.Proofs.Ytgengboaoniogaa
open Go.RowKit Plain
set_option linter.unusedVariables false
set_option maxRecDepth 100000
set_option linter.unusedSimpArgs false

def adO : OpV := ⟨3, 0, 1, 0, false⟩
def adOs (k : Nat) (_ : Nat) : List OpV := List.replicate k adO
def ldO : OpV := ⟨0, 0, 0, 0, false⟩
def csO (b : Int) : OpV := ⟨2, 0, 0, b, true⟩
/-- so many pairs of worker i -/
def stL2 (k i : Nat) : Nat → List OpV
  | 0 => []
  | t + 1 => stL2 k i t ++ [ldO, csO (((i * k + t + 1 : Nat)) : Int)]
def stOs (k i : Nat) : List OpV := stL2 k i k
theorem stL2_len (k i : Nat) : ∀ t, (stL2 k i t).length = 2 * t
  | 0 => rfl
  | t + 1 => by rw [stL2, List.length_append, stL2_len k i t]; simp; omega
theorem stL2_at (k i : Nat) : ∀ t d, d < 2 * t → (stL2 k i t).getD d default = if d % 2 = 0 then ldO else csO (((i * k + d / 2 + 1 : Nat)) : Int)
  | 0, d, h => absurd h (by omega)
  | t + 1, d, h => by
      have hl := stL2_len k i t
      rw [stL2]
      by_cases hd : d < 2 * t
      · rw [← stL2_at k i t d hd]
        simp [List.getD, List.getElem?_append_left (by omega : d < (stL2 k i t).length)]
      · have e : d = 2 * t ∨ d = 2 * t + 1 := by omega
        rcases e with rfl | rfl
        · rw [if_pos (by omega)]
          simp [List.getD, List.getElem?_append_right (by omega : (stL2 k i t).length ≤ 2 * t), hl]
        · rw [if_neg (by omega), show (2 * t + 1) / 2 = t by omega]
          simp [List.getD, List.getElem?_append_right (by omega : (stL2 k i t).length ≤ 2 * t + 1), hl]
theorem adOs_ok (k i : Nat) : ∀ o ∈ adOs k i, o.ok := by
  intro o ho
  rw [List.eq_of_mem_replicate ho]; simp [adO, OpV.ok, U64]
theorem stOs_ok (k i : Nat) (h : i * k + k ≤ 1000000) : ∀ t, t ≤ k → ∀ o ∈ stL2 k i t, o.ok
  | 0, _, o, ho => by simp [stL2] at ho
  | t + 1, ht, o, ho => by
      rw [stL2] at ho
      rcases List.mem_append.1 ho with ho | ho
      · exact stOs_ok k i h t (by omega) o ho
      · simp at ho
        rcases ho with rfl | rfl
        · simp [ldO, OpV.ok, U64]
        · simp [csO, OpV.ok, U64]; omega

/-- adds: the cell is how many were told -/
theorem ad_one (k : Nat) (t : TS) (i : Nat) (h : t.l = [(t.out.length : Int)]) (hn : t.out.length < 1000000) : (one (adOs k) t i).l = [((one (adOs k) t i).out.length : Int)] := by
  by_cases hd : t.D i < (adOs k i).length
  · rw [one_yes _ t i hd]
    have eo : (adOs k i).getD (t.D i) default = adO := by
      have : t.D i < k := by simpa [adOs] using hd
      simp [adOs, List.getD, this]
    rw [eo, h]
    show [m64 ((t.out.length : Int) + 1)] = [((t.out ++ _).length : Int)]
    rw [List.length_append, List.length_singleton]
    unfold m64
    congr 1
    omega
  · rw [one_no _ t i hd]; exact h
theorem one_len (os : Nat → List OpV) (t : TS) (i : Nat) : (one os t i).out.length ≤ t.out.length + 1 := by
  by_cases hd : t.D i < (os i).length
  · rw [one_yes _ t i hd]; simp
  · rw [one_no _ t i hd]; omega
theorem ad_many (k : Nat) : ∀ (is : List Nat) (t : TS), t.l = [(t.out.length : Int)] → t.out.length + is.length ≤ 1000000 → (many (adOs k) t is).l = [((many (adOs k) t is).out.length : Int)]
  | [], t, h, _ => h
  | i :: is, t, h, hn => by
      have h1 := one_len (adOs k) t i
      simp only [List.length_cons] at hn
      exact ad_many k is (one (adOs k) t i) (ad_one k t i h (by omega)) (by omega)
theorem restL_len (os : Nat → List OpV) (b : Nat) (h : ∀ i, (os i).length = b) : ∀ m, (restL os m).length = m * b
  | 0 => by simp [restL]
  | m + 1 => by rw [restL_succ, List.length_append, restL_len os b h m, List.length_replicate, h, Nat.succ_mul]
theorem ad_all (n k : Nat) (zs : List Int) (h0 : 0 < n) (hn : n ≤ 8) (hk : k ≤ 8) (hz : zs.length ≤ 100) : (many (adOs k) (ts0 [0]) (zs.map (pk n) ++ restL (adOs k) n)).l = [((n * k : Nat) : Int)] := by
  have hl : ∀ i, (adOs k i).length = k := fun i => by simp [adOs]
  have hd := rest_done (adOs k) [0] n zs h0 (by omega)
  have h1 : (restL (adOs k) n).length = n * k := restL_len _ k hl n
  have h2 : n * k ≤ 8 * 8 := Nat.mul_le_mul hn hk
  rw [ad_many k _ (ts0 [0]) rfl (by show 0 + _ ≤ _; rw [List.length_append, List.length_map, h1]; omega), hd.2]
  rw [sumD_const _ k n (fun i hi => by rw [hd.1 i hi, hl])]

/-- who won last has its number there -/
def la1 (k : Nat) (c : Int) (x : Nat × Nat × Int) : Int := if x.2.1 % 2 = 1 ∧ x.2.2 = 1 then ((x.1 * k + x.2.1 / 2 + 1 : Nat) : Int) else c
def laL (k : Nat) (out : List (Nat × Nat × Int)) : Int := out.foldl (la1 k) 0
theorem laL_snoc (k : Nat) (out : List (Nat × Nat × Int)) (x : Nat × Nat × Int) : laL k (out ++ [x]) = la1 k (laL k out) x := by unfold laL; rw [List.foldl_append]; rfl
theorem st_one (k : Nat) (t : TS) (i : Nat) (h : t.l = [laL k t.out]) : (one (stOs k) t i).l = [laL k (one (stOs k) t i).out] := by
  by_cases hd : t.D i < (stOs k i).length
  · rw [one_yes _ t i hd]
    have hd' : t.D i < 2 * k := by rw [stOs, stL2_len] at hd; exact hd
    have eo := stL2_at k i k (t.D i) hd'
    rw [show (stOs k i).getD (t.D i) default = (stL2 k i k).getD (t.D i) default from rfl, eo, h]
    show stL [laL k t.out] _ _ = [laL k (t.out ++ [(i, t.D i, stG [laL k t.out] _ _)])]
    rw [laL_snoc]
    by_cases he : t.D i % 2 = 0
    · rw [if_pos he]
      have el : stL [laL k t.out] ldO (t.K i) = [laL k t.out] := rfl
      rw [el]
      unfold la1; rw [if_neg (by simp; omega)]
    · rw [if_neg he]
      by_cases hw : laL k t.out = t.K i
      · have el : stL [laL k t.out] (csO (((i * k + t.D i / 2 + 1 : Nat)) : Int)) (t.K i) = [(((i * k + t.D i / 2 + 1 : Nat)) : Int)] := by
          show (if [laL k t.out].getD 0 0 = t.K i then [laL k t.out].set 0 _ else [laL k t.out]) = _
          rw [if_pos (by simpa using hw)]; rfl
        have eg : stG [laL k t.out] (csO (((i * k + t.D i / 2 + 1 : Nat)) : Int)) (t.K i) = 1 := by
          show (if [laL k t.out].getD 0 0 = t.K i then (1 : Int) else 0) = 1
          rw [if_pos (by simpa using hw)]
        rw [el, eg]
        unfold la1; rw [if_pos ⟨by simp; omega, rfl⟩]
      · have el : stL [laL k t.out] (csO (((i * k + t.D i / 2 + 1 : Nat)) : Int)) (t.K i) = [laL k t.out] := by
          show (if [laL k t.out].getD 0 0 = t.K i then [laL k t.out].set 0 _ else [laL k t.out]) = _
          rw [if_neg (by simpa using hw)]
        have eg : stG [laL k t.out] (csO (((i * k + t.D i / 2 + 1 : Nat)) : Int)) (t.K i) = 0 := by
          show (if [laL k t.out].getD 0 0 = t.K i then (1 : Int) else 0) = 0
          rw [if_neg (by simpa using hw)]
        rw [el, eg]
        unfold la1; rw [if_neg (by simp)]
  · rw [one_no _ t i hd]; exact h
theorem st_many (k : Nat) : ∀ (is : List Nat) (t : TS), t.l = [laL k t.out] → (many (stOs k) t is).l = [laL k (many (stOs k) t is).out]
  | [], t, h => h
  | i :: is, t, h => st_many k is (one (stOs k) t i) (st_one k t i h)
/-- each step that was told is one of a worker's -/
theorem one_mem (os : Nat → List OpV) (m : Nat) (t : TS) (i : Nat) (hi : i < m) (h : ∀ x ∈ t.out, x.1 < m ∧ x.2.1 < (os x.1).length) : ∀ x ∈ (one os t i).out, x.1 < m ∧ x.2.1 < (os x.1).length := by
  by_cases hd : t.D i < (os i).length
  · rw [one_yes _ t i hd]
    intro x hx
    rcases List.mem_append.1 hx with hx | hx
    · exact h x hx
    · simp at hx
      subst hx
      exact ⟨hi, hd⟩
  · rw [one_no _ t i hd]; exact h
theorem many_mem (os : Nat → List OpV) (m : Nat) : ∀ (is : List Nat) (t : TS), (∀ i ∈ is, i < m) → (∀ x ∈ t.out, x.1 < m ∧ x.2.1 < (os x.1).length) → ∀ x ∈ (many os t is).out, x.1 < m ∧ x.2.1 < (os x.1).length
  | [], t, _, h => h
  | i :: is, t, hi, h => many_mem os m is (one os t i) (fun j hj => hi j (by simp [hj])) (one_mem os m t i (hi i (by simp)) h)
theorem st_all (n k : Nat) (zs : List Int) (h0 : 0 < n) (hn : n ≤ 8) : (many (stOs k) (ts0 [0]) (zs.map (pk n) ++ restL (stOs k) n)).l = [laL k (many (stOs k) (ts0 [0]) (zs.map (pk n) ++ restL (stOs k) n)).out] ∧ (many (stOs k) (ts0 [0]) (zs.map (pk n) ++ restL (stOs k) n)).out.length = n * (2 * k) ∧ (∀ x ∈ (many (stOs k) (ts0 [0]) (zs.map (pk n) ++ restL (stOs k) n)).out, x.1 < n ∧ x.2.1 < 2 * k) := by
  have hl : ∀ i, (stOs k i).length = 2 * k := fun i => stL2_len k i k
  have hd := rest_done (stOs k) [0] n zs h0 (by omega)
  refine ⟨st_many k _ _ rfl, ?_, ?_⟩
  · rw [hd.2, sumD_const _ (2 * k) n (fun i hi => by rw [hd.1 i hi, hl])]
  · intro x hx
    have := many_mem (stOs k) n _ (ts0 [0]) (fun i hi => by
      rcases List.mem_append.1 hi with hi | hi
      · exact pk_lt_all n zs h0 (by omega) i hi
      · exact restL_lt _ n i hi) (fun x hx => by cases hx) x hx
    rw [hl] at this; exact this
end Go.Proofs.Ytgengboaoniogaa
