/-
  Plain numbers, without any program: what folding to 16 bits comes to ('F'), and the sum of a list of bytes taken as words of two ('tot'). Conditions: bytes are from 0 to 255 wherever a lemma says so.
-/
namespace Go.Proofs.Ytmbceafeonjffaa.Plain
set_option linter.unusedVariables false
set_option maxRecDepth 100000

theorem getD_lt (l : List Int) (k : Nat) (h : k < l.length) : l.getD k 0 = l[k] := by simp [List.getD, h]
theorem getD_ge (l : List Int) (k : Nat) (h : l.length ≤ k) : l.getD k 0 = 0 := by simp [List.getD, h]

/-- folding carries: nought stays nought, all else comes to 1 .. 65535 -/
def F (n : Int) : Int := if n = 0 then 0 else (n - 1) % 65535 + 1

theorem F_range (n : Int) (h : 0 ≤ n) : 0 ≤ F n ∧ F n ≤ 65535 := by unfold F; split <;> omega
theorem F_small (n : Int) (h : 0 ≤ n) (h' : n ≤ 65535) : F n = n := by unfold F; split <;> omega
theorem F_step (n : Int) (h : 65535 < n) : F (n / 65536 + n % 65536) = F n := by unfold F; split <;> split <;> omega
theorem F_add (a b : Int) (ha : 0 ≤ a) (hb : 0 ≤ b) : F (F a + b) = F (a + b) := by unfold F; split <;> split <;> split <;> omega
theorem F_add' (a b : Int) (ha : 0 ≤ a) (hb : 0 ≤ b) : F (a + F b) = F (a + b) := by rw [Int.add_comm, F_add b a hb ha, Int.add_comm]
theorem F_mod (n : Int) (h : 0 ≤ n) : F n % 65535 = n % 65535 := by unfold F; split <;> omega
theorem F_zero (n : Int) (h : 0 ≤ n) (hz : F n = 0) : n = 0 := by unfold F at hz; split at hz <;> omega
theorem F_idem (n : Int) (h : 0 ≤ n) : F (F n) = F n := F_small _ (F_range n h).1 (F_range n h).2

/-- all are bytes -/
def By (l : List Int) : Prop := ∀ x ∈ l, 0 ≤ x ∧ x ≤ 255

theorem By.nil : By [] := by intro x h; cases h
theorem By.cons {a : Int} {l : List Int} (h : By (a :: l)) : 0 ≤ a ∧ a ≤ 255 := h a (by simp)
theorem By.tail {a : Int} {l : List Int} (h : By (a :: l)) : By l := fun x hx => h x (by simp [hx])
theorem By.mk {a : Int} {l : List Int} (h0 : 0 ≤ a) (h1 : a ≤ 255) (h : By l) : By (a :: l) := by
  intro x hx
  rcases List.mem_cons.1 hx with rfl | hx
  · exact ⟨h0, h1⟩
  · exact h x hx
theorem By.take {l : List Int} (h : By l) (k : Nat) : By (l.take k) := fun x hx => h x (List.mem_of_mem_take hx)
theorem By.drop {l : List Int} (h : By l) (k : Nat) : By (l.drop k) := fun x hx => h x (List.mem_of_mem_drop hx)
theorem By.app {l r : List Int} (h : By l) (h' : By r) : By (l ++ r) := by
  intro x hx
  rcases List.mem_append.1 hx with hx | hx
  · exact h x hx
  · exact h' x hx
theorem By.getD {l : List Int} (h : By l) (k : Nat) : 0 ≤ l.getD k 0 ∧ l.getD k 0 ≤ 255 := by
  rcases Nat.lt_or_ge k l.length with hk | hk
  · rw [getD_lt _ _ hk]; exact h _ (List.getElem_mem hk)
  · rw [getD_ge _ _ hk]; omega
theorem By.set {l : List Int} (h : By l) (k : Nat) (x : Int) (h0 : 0 ≤ x) (h1 : x ≤ 255) : By (l.set k x) := by
  intro y hy
  rcases List.mem_or_eq_of_mem_set hy with hy | rfl
  · exact h y hy
  · exact ⟨h0, h1⟩

/-- the sum of the words of two bytes; a last single byte is a word's high one -/
def tot : List Int → Int
  | a :: b :: r => a * 256 + b + tot r
  | [a] => a * 256
  | [] => 0

theorem tot_nonneg : ∀ (l : List Int), By l → 0 ≤ tot l
  | a :: b :: r, h => by have := tot_nonneg r h.tail.tail; have := h.cons; have := h.tail.cons; simp only [tot]; omega
  | [a], h => by have := h.cons; simp only [tot]; omega
  | [], _ => by simp [tot]

theorem tot_le : ∀ (l : List Int), By l → tot l ≤ 65535 * (l.length : Int)
  | a :: b :: r, h => by have := tot_le r h.tail.tail; have := h.cons; have := h.tail.cons; simp only [tot, List.length_cons]; omega
  | [a], h => by have := h.cons; simp only [tot, List.length_cons, List.length_nil]; omega
  | [], _ => by simp [tot]

theorem tot_append : ∀ (l r : List Int), l.length % 2 = 0 → tot (l ++ r) = tot l + tot r
  | a :: b :: l, r, h => by
      have := tot_append l r (by simp only [List.length_cons] at h; omega)
      simp only [List.cons_append, tot, this]; omega
  | [a], _, h => by simp at h
  | [], _, _ => by simp [tot]

theorem take_two (l : List Int) (k : Nat) (h : k + 1 < l.length) : l.take (k + 2) = l.take k ++ [l.getD k 0, l.getD (k + 1) 0] := by
  rw [getD_lt _ _ (by omega), getD_lt _ _ h]
  have e1 := List.take_succ_eq_append_getElem (i := k + 1) h
  have e2 := List.take_succ_eq_append_getElem (i := k) (l := l) (by omega)
  rw [e2, List.append_assoc] at e1
  exact e1

theorem take_one (l : List Int) (k : Nat) (h : k < l.length) : l.take (k + 1) = l.take k ++ [l.getD k 0] := by
  rw [getD_lt _ _ h, List.take_succ_eq_append_getElem h]

theorem tot_two (l : List Int) (k : Nat) (he : k % 2 = 0) (h : k + 1 < l.length) : tot (l.take (k + 2)) = tot (l.take k) + (l.getD k 0 * 256 + l.getD (k + 1) 0) := by
  rw [take_two l k h, tot_append _ _ (by rw [List.length_take, Nat.min_eq_left (by omega)]; exact he)]
  simp [tot]

theorem tot_last (l : List Int) (k : Nat) (he : k % 2 = 0) (h : k + 1 = l.length) : tot l = tot (l.take k) + l.getD k 0 * 256 := by
  have e : l = l.take k ++ [l.getD k 0] := by
    rw [← take_one l k (by omega), h, List.take_length]
  have e2 := tot_append (l.take k) [l.getD k 0] (by rw [List.length_take, Nat.min_eq_left (by omega)]; exact he)
  rw [← e] at e2
  rw [e2]
  simp [tot]

theorem tot_set : ∀ (l : List Int) (k : Nat) (x : Int), k < l.length → tot (l.set k x) = tot l + (x - l.getD k 0) * (if k % 2 = 0 then 256 else 1)
  | a :: b :: r, 0, x, _ => by simp [tot, List.getD]; omega
  | a :: b :: r, 1, x, _ => by simp [tot, List.getD]; omega
  | a :: b :: r, k + 2, x, h => by
      have := tot_set r k x (by simp only [List.length_cons] at h; omega)
      simp only [List.set_cons_succ, tot, this]
      have e1 : (a :: b :: r).getD (k + 2) 0 = r.getD k 0 := by simp [List.getD]
      have e2 : (k + 2) % 2 = k % 2 := by omega
      rw [e1, e2]; omega
  | [a], 0, x, _ => by simp [tot, List.getD]; omega
  | [a], k + 1, x, h => by simp at h
  | [], k, x, h => by simp at h

/-- one bit of a byte turned -/
def Turned (x y : Int) : Prop := 0 ≤ y ∧ y ≤ 255 ∧ y ≠ x ∧ y - x ≤ 128 ∧ x - y ≤ 128
theorem turned_nat : ∀ x, x < 256 → ∀ j, j < 8 → (x ^^^ 2 ^ j) < 256 ∧ (x ^^^ 2 ^ j) ≠ x ∧ (x ^^^ 2 ^ j) ≤ x + 128 ∧ x ≤ (x ^^^ 2 ^ j) + 128 := by decide +kernel
theorem turned (x j : Nat) (hx : x < 256) (hj : j < 8) : Turned (x : Int) ((x ^^^ 2 ^ j : Nat) : Int) := by
  have := turned_nat x hx j hj
  unfold Turned; omega

/-- one byte of bytes whose sum is nought has one bit turned: the sum isn't nought -/
theorem turned_sum (l : List Int) (k : Nat) (y : Int) (hk : k < l.length) (hl : By l) (h0 : tot l % 65535 = 0) (ht : Turned (l.getD k 0) y) : F (tot (l.set k y)) ≠ 65535 := by
  have hy := tot_nonneg (l.set k y) (hl.set k y ht.1 ht.2.1)
  have e := tot_set l k y hk
  unfold Turned at ht
  generalize l.getD k 0 = x at *
  have hF := F_mod _ hy
  intro hc
  rw [hc] at hF
  split at e <;> omega

/-- bytes with their sum behind them -/
theorem whole_sum (l : List Int) (hl : By l) (he : l.length % 2 = 0) (s : Int) (hs : s = 65535 - F (tot l)) : F (tot (l ++ [s / 256, s % 256])) = 65535 := by
  have t0 := tot_nonneg l hl
  have fr := F_range _ t0
  rw [tot_append l _ he]
  simp only [tot]
  have e : s / 256 * 256 + s % 256 + 0 = s := by omega
  rw [e, ← F_add _ _ t0 (by omega)]
  rw [show F (tot l) + s = 65535 from by omega]
  rfl

end Go.Proofs.Ytmbceafeonjffaa.Plain
