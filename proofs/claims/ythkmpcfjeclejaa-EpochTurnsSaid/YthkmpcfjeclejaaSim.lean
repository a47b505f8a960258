/-
  Package epoch against the document's: a Step and the document's step go side by side. Conditions stand in each theorem.
-/
import Derived.Test.YthkmpcfjeclejaaReDo
import Derived.Test.YthkmpcfjeclejaaRg
namespace Go.Proofs.Ythkmpcfjeclejaa
open Go.RowKit Go.Deep Plain
set_option linter.unusedVariables false
set_option maxRecDepth 100000

/-- a Step that goes on, and the document's step -/
def SimS (n k : Nat) (s : Sv) (t : Tv) : Prop :=
  t.on = true ∧ s.won = false ∧ (0 ≤ t.seen ∧ t.seen ≤ 100000) ∧
  ((s.nx = 1 ∧ t.adv = false ∧ t.pl = 0 ∧ s.ce = k + 1) ∨ (s.nx = 2 ∧ t.adv = false ∧ t.pl = 1 ∧ s.ce = k + 1 ∧ t.seen = s.ep) ∨ (s.nx = 3 ∧ t.adv = false ∧ t.pl = 2 ∧ s.ce = k + 1 ∧ t.seen = s.ep) ∨
   (s.nx = 4 ∧ t.adv = true ∧ t.pl = 0 ∧ s.ce = 1) ∨ (s.nx = 5 ∧ t.adv = true ∧ 1 ≤ s.ce ∧ s.ce ≤ n ∧ t.pl = (s.ce : Int) ∧ t.seen = s.ep) ∨ (s.nx = 6 ∧ t.adv = true ∧ t.pl = (n : Int) + 1 ∧ t.seen = s.ep))
/-- cells and pins tell the same -/
def SimL (n : Nat) (l : List Int) (now : Int) (pins : List Int) : Prop := l.length = n + 1 ∧ pins.length = n ∧ l.getD 0 0 = now ∧ ∀ j, j < n → pins.getD j 0 = l.getD (j + 1) 0
theorem gets (l : List Int) (i j : Nat) (v : Int) (hi : i < l.length) : (l.set i v).getD j 0 = if j = i then v else l.getD j 0 := by
  by_cases e : j = i
  · subst e; simp [List.getD, hi]
  · rw [if_neg e]; simp [List.getD, Ne.symm e]
theorem SimL.pin {n k : Nat} {l pins : List Int} {now : Int} (h : SimL n l now pins) (hk : k < n) (x : Int) : SimL n (l.set (k + 1) x) now (pins.set k x) := by
  obtain ⟨a, b, c, d⟩ := h
  refine ⟨by rw [List.length_set]; exact a, by rw [List.length_set]; exact b, by rw [gets _ _ _ _ (by omega), if_neg (by omega)]; exact c, fun j hj => ?_⟩
  rw [gets _ _ _ _ (by omega), gets _ _ _ _ (by omega)]
  by_cases e : j = k
  · rw [if_pos e, if_pos (by omega)]
  · rw [if_neg e, if_neg (by omega)]; exact d j hj
theorem SimL.up {n : Nat} {l pins : List Int} {now : Int} (h : SimL n l now pins) (x : Int) : SimL n (l.set 0 x) x pins := by
  obtain ⟨a, b, c, d⟩ := h
  refine ⟨by rw [List.length_set]; exact a, b, by rw [gets _ _ _ _ (by omega), if_pos rfl], fun j hj => ?_⟩
  rw [gets _ _ _ _ (by omega), if_neg (by omega)]; exact d j hj
theorem m64_small {x : Int} (h0 : 0 ≤ x) (h1 : x ≤ 100001) : m64 x = x := by unfold m64; omega

/-- what the document's Do comes to, beside a Step's -/
def DoT (w : World) (gr gp gs gv n k : Nat) (l : List Int) (s : Sv) (T : Nat → Tv) (e : Ending) (w' : World) : Prop :=
  ∃ (now' : Int) (pins' : List Int) (t' : Tv), e = .returned (.tuple #[.bool ((stp n l s).2.nx == 0), .bool (stp n l s).2.won, .bool (s.nx == 3 && (stp n l s).2.nx == 0)]) ∧ ReB w' gr gp gs gv n now' pins' (upE T k t') ∧ SimL n (stp n l s).1 now' pins' ∧ ((stp n l s).2.nx ≠ 0 → SimS n k (stp n l s).2 t') ∧ ((stp n l s).2.nx = 0 → t'.on = false) ∧ Keep [gr, gp, gs] w w'
set_option maxHeartbeats 4000000 in
theorem sim_do {w : World} {gr gp gs gv n k : Nat} {now : Int} {pins l : List Int} {T : Nat → Tv} {s : Sv} (h : ReB w gr gp gs gv n now pins T) (hk : k < n) (hs : SimS n k s (T k)) (hl : SimL n l now pins) (hn : 0 ≤ now ∧ now ≤ 100000) :
    Calls Try.prog 27 #[.pointer (some ⟨gr, 0, none⟩), .int .i64 k] w (DoT w gr gp gs gv n k l s T) := by
  obtain ⟨nx, ep, ce, won⟩ := s
  obtain ⟨t, ht⟩ : ∃ t, t = T k := ⟨_, rfl⟩
  rw [← ht] at hs
  obtain ⟨on, adv, pl, seen⟩ := t
  obtain ⟨h1, h2, ⟨b0, b1⟩, hc⟩ := hs
  simp only at h1 h2 b0 b1 hc
  subst h1 h2
  have l0 := hl.2.2.1
  rcases hc with ⟨rfl, rfl, rfl, rfl⟩ | ⟨rfl, rfl, rfl, rfl, rfl⟩ | ⟨rfl, rfl, rfl, rfl, rfl⟩ | ⟨rfl, rfl, rfl, rfl⟩ | ⟨rfl, rfl, c1, c2, rfl, rfl⟩ | ⟨rfl, rfl, rfl, rfl⟩
  · refine (rdo1 h k hk ht.symm).mono ?_
    rintro e w' ⟨rfl, h', hk'⟩
    refine ⟨now, pins, _, rfl, h', hl, fun _ => ⟨rfl, rfl, hn, .inr (.inl ⟨rfl, rfl, rfl, rfl, l0.symm⟩)⟩, fun h0 => (by cases h0), hk'⟩
  · refine (rdo2 h k hk ⟨b0, b1⟩ ht.symm).mono ?_
    rintro e w' ⟨rfl, h', hk'⟩
    have hm := m64_small (show 0 ≤ seen + 1 by omega) (by omega)
    refine ⟨now, _, _, rfl, h', ?_, fun _ => ⟨rfl, rfl, ⟨b0, b1⟩, .inr (.inr (.inl ⟨rfl, rfl, rfl, rfl, rfl⟩))⟩, fun h0 => (by cases h0), hk'⟩
    show SimL n (l.set (k + 1) (m64 (seen + 1))) now _
    rw [hm]
    exact hl.pin hk _
  · by_cases he : now = seen
    · have es : stp n l ⟨3, seen, k + 1, false⟩ = (l, ⟨0, seen, k + 1, false⟩) := by unfold stp; simp only [stepF]; rw [if_pos (by rw [l0]; exact he)]
      refine (rdo3y h k hk he ht.symm).mono ?_
      rintro e w' ⟨rfl, h', hk'⟩
      unfold DoT
      rw [es]
      exact ⟨now, pins, _, rfl, h', hl, fun h0 => absurd rfl h0, fun _ => rfl, hk'⟩
    · have es : stp n l ⟨3, seen, k + 1, false⟩ = (l, ⟨1, seen, k + 1, false⟩) := by unfold stp; simp only [stepF]; rw [if_neg (by rw [l0]; exact he)]
      refine (rdo3n h k hk he ht.symm).mono ?_
      rintro e w' ⟨rfl, h', hk'⟩
      unfold DoT
      rw [es]
      exact ⟨now, pins, _, rfl, h', hl, fun _ => ⟨rfl, rfl, ⟨b0, b1⟩, .inl ⟨rfl, rfl, rfl, rfl⟩⟩, fun h0 => (by cases h0), hk'⟩
  · refine (rdo4 h k hk ht.symm).mono ?_
    rintro e w' ⟨rfl, h', hk'⟩
    refine ⟨now, pins, _, rfl, h', hl, fun _ => ⟨rfl, rfl, hn, .inr (.inr (.inr (.inr (.inl ⟨rfl, rfl, Nat.le_refl 1, by show 1 ≤ n; omega, rfl, l0.symm⟩))))⟩, fun h0 => (by cases h0), hk'⟩
  · obtain ⟨q, rfl⟩ : ∃ q, ce = q + 1 := ⟨ce - 1, by omega⟩
    have hq : q < n := by omega
    have hp := hl.2.2.2 q hq
    have hm := m64_small (show 0 ≤ seen + 1 by omega) (by omega)
    by_cases hx : pins.getD q 0 ≠ 0 ∧ pins.getD q 0 ≠ seen + 1
    · have es : stp n l ⟨5, seen, q + 1, false⟩ = (l, ⟨0, seen, q + 1 + 1, false⟩) := by unfold stp; simp only [stepF]; rw [if_pos (by rw [← hp, hm]; exact hx)]
      refine (rdo5z h k hk q hq hx ⟨b0, b1⟩ (by rw [← ht]; simp)).mono ?_
      rintro e w' ⟨rfl, h', hk'⟩
      unfold DoT
      rw [es]
      exact ⟨now, pins, _, rfl, h', hl, fun h0 => absurd rfl h0, fun _ => rfl, hk'⟩
    · refine (rdo5g h k hk q hq hx ⟨b0, b1⟩ (by rw [← ht]; simp)).mono ?_
      rintro e w' ⟨rfl, h', hk'⟩
      by_cases e2 : n + 1 ≤ q + 1 + 1
      · have es : stp n l ⟨5, seen, q + 1, false⟩ = (l, ⟨6, seen, q + 1 + 1, false⟩) := by unfold stp; simp only [stepF]; rw [if_neg (by rw [← hp, hm]; exact hx), if_pos e2]
        unfold DoT
        rw [es]
        exact ⟨now, pins, _, rfl, h', hl, fun _ => ⟨rfl, rfl, ⟨b0, b1⟩, .inr (.inr (.inr (.inr (.inr ⟨rfl, rfl, by show (q : Int) + 1 + 1 = (n : Int) + 1; omega, rfl⟩))))⟩, fun h0 => (by cases h0), hk'⟩
      · have es : stp n l ⟨5, seen, q + 1, false⟩ = (l, ⟨5, seen, q + 1 + 1, false⟩) := by unfold stp; simp only [stepF]; rw [if_neg (by rw [← hp, hm]; exact hx), if_neg e2]
        unfold DoT
        rw [es]
        exact ⟨now, pins, _, rfl, h', hl, fun _ => ⟨rfl, rfl, ⟨b0, b1⟩, .inr (.inr (.inr (.inr (.inl ⟨rfl, rfl, by show 1 ≤ q + 1 + 1; omega, by show q + 1 + 1 ≤ n; omega, by show (q : Int) + 1 + 1 = ((q + 1 + 1 : Nat) : Int); omega, rfl⟩))))⟩, fun h0 => (by cases h0), hk'⟩
  · by_cases he : now = seen
    · have hm := m64_small (show 0 ≤ seen + 1 by omega) (by omega)
      have es : stp n l ⟨6, seen, ce, false⟩ = (l.set 0 (m64 (seen + 1)), ⟨0, seen, ce, true⟩) := by unfold stp; simp only [stepF]; rw [if_pos (by rw [l0]; exact he)]
      refine (rdo6y h k hk he hn ht.symm).mono ?_
      rintro e w' ⟨rfl, h', hk'⟩
      unfold DoT
      rw [es]
      refine ⟨now + 1, pins, _, rfl, h', ?_, fun h0 => absurd rfl h0, fun _ => rfl, hk'⟩
      rw [hm, ← he]
      exact hl.up _
    · have es : stp n l ⟨6, seen, ce, false⟩ = (l, ⟨0, seen, ce, false⟩) := by unfold stp; simp only [stepF]; rw [if_neg (by rw [l0]; exact he)]
      refine (rdo6n h k hk he ht.symm).mono ?_
      rintro e w' ⟨rfl, h', hk'⟩
      unfold DoT
      rw [es]
      exact ⟨now, pins, _, rfl, h', hl, fun h0 => absurd rfl h0, fun _ => rfl, hk'⟩

/-- rows in order of their epochs: what is ripe stands in front -/
def Srt (gl : List (Int × Int)) : Prop := gl.Pairwise fun x y => x.2 ≤ y.2
theorem srt_take (now : Int) : ∀ gl : List (Int × Int), Srt gl → outT now gl = gl.take (ripeN gl now) ∧ leftT now gl = gl.drop (ripeN gl now)
  | [], _ => ⟨rfl, rfl⟩
  | x :: r, h => by
    have hr : Srt r := (List.pairwise_cons.1 h).2
    have hx := (List.pairwise_cons.1 h).1
    obtain ⟨i1, i2⟩ := srt_take now r hr
    by_cases hle : x.2 + 2 ≤ now
    · have e : ripeN (x :: r) now = ripeN r now + 1 := by unfold ripeN; rw [List.takeWhile_cons, if_pos (by simpa using hle)]; rfl
      rw [e, List.take_succ_cons, List.drop_succ_cons, ← i1, ← i2]
      unfold outT leftT
      simp [hle]
    · have e : ripeN (x :: r) now = 0 := by unfold ripeN; rw [List.takeWhile_cons, if_neg (by simpa using hle)]; rfl
      have hall : ∀ y ∈ x :: r, ¬ y.2 + 2 ≤ now := by
        intro y hy
        rcases List.mem_cons.1 hy with rfl | hy
        · exact hle
        · have := hx y hy; omega
      rw [e, List.take_zero, List.drop_zero]
      unfold outT leftT
      refine ⟨List.filter_eq_nil_iff.2 fun y hy => by simpa using hall y hy, List.filter_eq_self.2 fun y hy => by simpa using hall y hy⟩
end Go.Proofs.Ythkmpcfjeclejaa
