/-
  Slices of words of 16 bits that came in, and two rows of one's own side by side. Conditions stand in each theorem.
-/
import Derived.Test.YtnaopekljknlaaaOpen
import Derived.Test.YtnaopekljknlaaaCut
namespace Go.Proofs.Ytnaopekljknlaaa
open Go.ChangeShapes Go.WideShapes Go.ChangeAt Go.RowKit Plain
set_option linter.unusedVariables false

/-- a slice of words that reads as a list -/
def RdW (w : World) (A : Option Addr) (zs : List Int) : Prop :=
  (∀ x ∈ zs, 0 ≤ x ∧ x ≤ 65535) ∧ (0 < zs.length → ∃ b off, A = some ⟨b, off, none⟩ ∧ b < w.heap.size ∧ ∀ k, k < zs.length → w.cell? ⟨b, off + k, none⟩ = some (.int .u16 (zs.getD k 0)))

theorem open_words {H : Type} {enc : TypeId × Value → H} {W : World} {a : Option Addr} {len cap : Nat} {d : DataW H} {p : List MemPlace} (h : DataW.Trod enc Try.prog W 0 (fun _ => true) true 38 (.slice a len cap) d p) :
    ∃ zs : List Int, zs.length = len ∧ len ≤ cap ∧ cap ≤ maxLen ∧ RdW W a zs := by
  obtain ⟨fuel, hf⟩ := h
  rcases open_ints Try.underlying38 Try.underlying26 (by kernel_rfl) hf with ⟨hcs, _⟩ | ⟨x, l, c, zs, hcs, _, hl, hm, hz, _, hcell, hwz⟩
  · simp [Value.cells] at hcs
    obtain ⟨rfl, rfl, rfl⟩ := hcs
    exact ⟨[], rfl, Nat.le_refl _, Nat.zero_le _, by simp, fun h => absurd h (by simp)⟩
  · simp [Value.cells] at hcs
    obtain ⟨rfl, rfl, rfl⟩ := hcs
    have hz' : zs.length = cap := by simpa using hz
    have hlen : (zs.take len).length = len := by rw [List.length_take]; omega
    refine ⟨zs.take len, hlen, hl, hm, ?_, ?_⟩
    · intro y hy
      exact bounds_u16 (hwz y (List.mem_of_mem_take hy))
    · intro hpos
      rw [hlen] at hpos
      obtain ⟨b, off, spot⟩ := x
      have hc := hcell 0 (by omega)
      have hspot : spot = none := by simpa [Addr.add] using World.cell?_spot hc
      subst hspot
      refine ⟨b, off, rfl, ?_, ?_⟩
      · have hc0 : W.cell? ⟨b, off, none⟩ = some (.int .u16 (zs.getD 0 0)) := by simpa [Addr.add] using hc
        exact block_lt_of_cell hc0
      · intro k hk
        rw [hlen] at hk
        have h1 := hcell k (by omega)
        rw [getD_take _ _ _ hk, ← h1]
        rcases Nat.eq_zero_or_pos k with rfl | hk0
        · simp [Addr.add]
        · simp [Addr.add, Nat.pos_iff_ne_zero.1 hk0]

theorem RdW.take {w : World} {A : Option Addr} {zs : List Int} (h : RdW w A zs) (n : Nat) : RdW w A (zs.take n) :=
  ⟨fun x hx => h.1 x (List.mem_of_mem_take hx), fun hp => by
    rw [List.length_take] at hp
    obtain ⟨b, off, e, hb, hc⟩ := h.2 (by omega)
    refine ⟨b, off, e, hb, fun k hk => ?_⟩
    rw [List.length_take] at hk
    rw [getD_take _ _ _ (by omega)]
    exact hc k (by omega)⟩

/-- two rows that share no block -/
def Dis (A B : Option Addr) : Prop := ∀ g, A = some ⟨g, 0, none⟩ → B = some ⟨g, 0, none⟩ → False
theorem Dis.symm {A B : Option Addr} (h : Dis A B) : Dis B A := fun g a b => h g b a

theorem Own.apart {w w' : World} {base n c m d : Nat} {A B : Option Addr} {zs ys : List Int} (h : Own w base A n c zs) (hB : Own w base B m d ys) (hg : w.grownBy w' (Value.slice B m d).ownBlock) (hd : Dis A B) : Own w' base A n c zs := by
  refine ⟨h.len, h.byt, h.row.kept hg ?_⟩
  rcases h.form with ⟨rfl, _⟩ | ⟨g, rfl, _⟩
  · exact .inl rfl
  · refine .inr ?_
    rcases hB.form with ⟨rfl, _⟩ | ⟨g', rfl, _⟩
    · simp [Value.ownBlock]
    · simp only [Value.ownBlock]
      intro e
      injection e with e
      subst e
      exact hd g rfl rfl
/-- behind an append onto B -/
theorem Dis.grown {w : World} {base n c : Nat} {A B B' : Option Addr} {zs : List Int} (hd : Dis A B) (h : Own w base A n c zs) {m : Nat} (hB : B' = B ∨ B' = some ⟨m, 0, none⟩) (hm : w.heap.size ≤ m) : Dis A B' := by
  intro g ha hb
  rcases hB with rfl | rfl
  · exact hd g ha hb
  · rcases h.form with ⟨rfl, _⟩ | ⟨g', rfl, _, hlt⟩
    · cases ha
    · injection ha with ha; injection ha with ha
      injection hb with hb; injection hb with hb
      omega

/-- words as bytes, the high one first; and with the two changed about -/
def W1 (ws : List Int) : List Int := ws.flatMap fun x => [x / 256, x % 256]
def W2 (ws : List Int) : List Int := ws.flatMap fun x => [x % 256, x / 256]
def wsum : List Int → Int
  | [] => 0
  | a :: r => a + wsum r
theorem wsum_append : ∀ (a b : List Int), wsum (a ++ b) = wsum a + wsum b
  | [], b => by simp [wsum]
  | x :: a, b => by simp [wsum, wsum_append a b]; omega
theorem wsum_nonneg : ∀ (ws : List Int), (∀ x ∈ ws, 0 ≤ x ∧ x ≤ 65535) → 0 ≤ wsum ws
  | [], _ => by simp [wsum]
  | a :: r, h => by have := wsum_nonneg r (fun x hx => h x (by simp [hx])); have := h a (by simp); simp only [wsum]; omega
theorem tot_W1 : ∀ (ws : List Int), tot (W1 ws) = wsum ws
  | [] => rfl
  | a :: r => by
      have := tot_W1 r
      unfold W1 at this ⊢
      simp only [List.flatMap_cons, List.cons_append, List.nil_append, tot, wsum, this]
      omega
theorem tot_W2 : ∀ (ws : List Int), (∀ x ∈ ws, 0 ≤ x ∧ x ≤ 65535) → ∃ q : Int, 0 ≤ q ∧ tot (W2 ws) = 256 * wsum ws - 65535 * q ∧ (wsum ws = 0 ↔ tot (W2 ws) = 0) ∧ 0 ≤ tot (W2 ws)
  | [], _ => ⟨0, by omega, by simp [W2, tot, wsum], by simp [W2, tot, wsum], by simp [W2, tot]⟩
  | a :: r, h => by
      obtain ⟨q, q0, hq, hz, hn⟩ := tot_W2 r (fun x hx => h x (by simp [hx]))
      have ha := h a (by simp)
      have hw := wsum_nonneg r (fun x hx => h x (by simp [hx]))
      refine ⟨q + a / 256, by omega, ?_⟩
      unfold W2 at hq hz hn ⊢
      simp only [List.flatMap_cons, List.cons_append, List.nil_append, tot, wsum]
      generalize tot (r.flatMap fun x => [x % 256, x / 256]) = T at *
      generalize wsum r = S at *
      refine ⟨by omega, ⟨fun h0 => by omega, fun h0 => by omega⟩, by omega⟩
theorem F_swap (S T q : Int) (h0 : 0 ≤ S) (h1 : T = 256 * S - 65535 * q) (h2 : S = 0 ↔ T = 0) (h3 : 0 ≤ T) : F T = F S % 256 * 256 + F S / 256 := by
  have a := F_range S h0
  have b := F_range T h3
  have c := F_mod S h0
  have d := F_mod T h3
  by_cases hS : S = 0
  · have hT := h2.1 hS
    subst hS; rw [hT]; decide
  · have hF : F S ≠ 0 := fun e => hS (F_zero S h0 e)
    have hT : T ≠ 0 := fun e => hS (h2.2 e)
    have hG : F T ≠ 0 := fun e => hT (F_zero T h3 e)
    generalize F S = u at *
    generalize F T = v at *
    omega
theorem W1_snoc (ws : List Int) (k : Nat) (h : k < ws.length) : W1 (ws.take (k + 1)) = W1 (ws.take k) ++ [ws.getD k 0 / 256, ws.getD k 0 % 256] := by
  rw [take_one ws k h]; simp [W1]
theorem W2_snoc (ws : List Int) (k : Nat) (h : k < ws.length) : W2 (ws.take (k + 1)) = W2 (ws.take k) ++ [ws.getD k 0 % 256, ws.getD k 0 / 256] := by
  rw [take_one ws k h]; simp [W2]
theorem words_getD {ws : List Int} (h : ∀ x ∈ ws, 0 ≤ x ∧ x ≤ 65535) (k : Nat) : 0 ≤ ws.getD k 0 ∧ ws.getD k 0 ≤ 65535 := by
  rcases Nat.lt_or_ge k ws.length with hk | hk
  · rw [getD_lt _ _ hk]; exact h _ (List.getElem_mem hk)
  · rw [getD_ge _ _ hk]; omega
end Go.Proofs.Ytnaopekljknlaaa
