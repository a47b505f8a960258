/-
  A frame that goes out, and back to what it was, is as it was, but for sums. Conditions stand in each theorem.
-/
import Derived.Test.YtdkjipfemnfckaaRwV
namespace Go.Proofs.Ytdkjipfemnfckaa
open Go.RowKit Plain
set_option linter.unusedVariables false
set_option maxRecDepth 100000

theorem mem_sq {a n : Nat} {v' x v : Int} (h : (x, v) ∈ sq a n v') : v = v' ∧ ∃ i, i < n ∧ x = ((a + i : Nat) : Int) := by
  obtain ⟨i, hi, he⟩ := List.mem_map.1 h
  injection he with h1 h2
  exact ⟨h2.symm, i, List.mem_range.1 hi, h1.symm⟩
theorem frK_nz (h : Hd) (p : Pt) (e : Nat) : ∀ q ∈ frK h p e, q.2 ≠ 0 := by
  unfold frK
  refine nz_app (nz_app (by simp) (sq_nz _ _ _ (by omega))) ?_
  repeat' split
  all_goals (repeat' (first | refine nz_app ?_ ?_ | exact sq_nz _ _ _ (by omega) | (intro q hq; simp at hq; done)))
theorem frK_same (h h' : Hd) (p p' : Pt) (e : Nat) (a1 : h'.size = h.size) (a2 : h'.proto = h.proto) (b1 : p'.bare = p.bare) (b2 : p'.er = p.er) (c : p.er = true → p'.pos = p.pos ∧ p'.inn.size = p.inn.size ∧ p'.inn.proto = p.inn.proto) : frK h' p' e = frK h p e := by
  unfold frK
  rw [a1, a2, b1, b2]
  cases he : p.er with
  | false => simp
  | true =>
    obtain ⟨c1, c2, c3⟩ := c he
    rw [c1, c2, c3]
theorem back_list (zs ys xs : List Int) (A P was : Int) (hz : By zs) (hy : By ys) (hx : By xs) (h1 : SameF zs ys 0 A P) (h2 : SameF ys xs 0 (fld zs).src was)
    (hw : was = if (pgP (fld zs) zs).er = true then (pgP (fld zs) zs).dp else (pgP (fld zs) zs).sp) (hd : (pgP (fld zs) zs).er = true → (pgP (fld zs) zs).inn.dst = (fld zs).src)
    (k : Nat) (hk : k < xs.length) (h3 : lkV (frK (fld zs) (pgP (fld zs) zs) 0) (k : Int) ≠ 3) : xs.getD k 0 = zs.getD k 0 := by
  obtain ⟨S, N, pos, isz, eS, eN, eP, eI, hS0, hS1, hN20, hNl, her⟩ := pg_nat zs hz h1.gz h1.pz
  have ey := h1.hd
  have ex := h2.hd
  have lx := h2.len
  have hex : fld xs = fld zs := by
    rw [ex, ey]
    generalize fld zs = f
    obtain ⟨f0, f1, f2, f3, f4, f5⟩ := f
    rfl
  have sy : (fld ys).size = (fld zs).size ∧ (fld ys).len = (fld zs).len ∧ (fld ys).ttl = (fld zs).ttl ∧ (fld ys).proto = (fld zs).proto := by rw [ey]; exact hdA_size _ _ _
  have ery := h1.er
  have erx := h2.er
  have hfr : frK (fld ys) (pgP (fld ys) ys) 0 = frK (fld zs) (pgP (fld zs) zs) 0 := by
    refine frK_same _ _ _ _ 0 sy.1 sy.2.2.2 h1.bare h1.er fun e => ?_
    obtain ⟨_, q2, q3, _⟩ := h1.err e
    have q4 := hdA_size (pgP (fld zs) zs).inn (1 - 0) A
    rw [q3]
    exact ⟨q2, q4.1, q4.2.2.2⟩
  have ly : (ys.length : Int) = (fld zs).len := h1.len
  have lxy : xs.length = ys.length := by have := sy.2.1; omega
  by_cases hno : noK (frK (fld zs) (pgP (fld zs) zs) 0) k
  · rw [h2.oth k hk (by rw [hfr]; exact hno), h1.oth k (by omega) hno]
  have hv0 : lkV (frK (fld zs) (pgP (fld zs) zs) 0) (k : Int) ≠ 0 := fun h0 => hno (lkV_zero (frK_nz _ _ _) k h0)
  have hm := lkV_mem (k : Int) hv0
  generalize lkV (frK (fld zs) (pgP (fld zs) zs) 0) (k : Int) = v at *
  have pz := ptB zs hz h1.gz h1.pz S N pos isz eS eN eP eI
  have hpx : (pgP (fld zs) zs).er = true → (pgP (fld xs) xs).pos = (pos : Int) ∧ (pgP (fld xs) xs).inn.size = (isz : Int) ∧ (pgP (fld xs) xs).inn.proto = (pgP (fld zs) zs).inn.proto ∧ (pgP (fld xs) xs).inn.dst = (fld zs).src := fun e => by
    obtain ⟨_, q2, q3, _⟩ := h1.err e
    obtain ⟨_, r2, r3, _⟩ := h2.err (by rw [ery]; exact e)
    have q4 := hdA_size (pgP (fld zs) zs).inn (1 - 0) A
    have r4 := hdA_size (pgP (fld ys) ys).inn (1 - 0) (fld zs).src
    rw [r3]
    refine ⟨by rw [r2, q2]; exact eP, by rw [r4.1, q3, q4.1]; exact eI, by rw [r4.2.2.2, q3, q4.2.2.2], rfl⟩
  have eSx : (fld xs).size = (S : Int) := by rw [hex]; exact eS
  have eNx : (fld xs).len = (N : Int) := by rw [hex]; exact eN
  obtain ⟨S', N', pos', isz', eS', eN', eP', eI', _⟩ := pg_nat xs hx h2.gy h2.py
  have px := ptB xs hx h2.gy h2.py S N pos' isz' eSx eNx eP' eI'
  have hpxx := px.pr
  unfold frK at hm
  rw [eS, Int.toNat_natCast] at hm
  rcases List.mem_append.1 hm with hm | hm
  · rcases List.mem_append.1 hm with hm | hm
    · exfalso
      simp at hm
      rcases hm with ⟨_, h⟩ | ⟨_, h⟩ <;> exact h3 h
    · obtain ⟨_, i, hi, he⟩ := mem_sq hm
      have hki : k = 12 + i := by
        have : (k : Int) = ((12 + i : Nat) : Int) := he
        omega
      refine G32_bytes hx hz 12 k ?_ (by omega)
      have q1 : (fld xs).src = G32 xs 12 := rfl
      have q2 : (fld zs).src = G32 zs 12 := rfl
      rw [← q1, ← q2, hex]
  · -- what it carries
    have hpt : ∀ a, (k : Int) = ((a : Nat) : Int) → k = a := fun a h => by omega
    cases hE : (pgP (fld zs) zs).er with
    | false =>
      have hEx : (pgP (fld xs) xs).er = false := by rw [erx, ery]; exact hE
      rw [hE, if_neg (by simp)] at hw
      have hsp : (pgP (fld xs) xs).sp = (pgP (fld zs) zs).sp := by
        have := (h2.plain (by rw [ery]; exact hE)).1
        rw [hw] at this
        exact this
      split at hm
      · rename_i hp
        rcases List.mem_append.1 hm with hm | hm
        · obtain ⟨_, i, hi, he⟩ := mem_sq hm
          have hki := hpt _ he
          have hki' : k = S + i := hki
          obtain ⟨z1, z2⟩ := pz.low hE (Or.inl hp)
          obtain ⟨x1, _⟩ := px.low hEx (Or.inl (by rw [hex]; exact hp))
          exact G16_bytes hx hz S k (by rw [← z1, ← x1, hsp]) (by omega)
        · split at hm
          · simp at hm
          · exact absurd (mem_sq hm).1 h3
      · split at hm
        · rename_i hp
          rcases List.mem_append.1 hm with hm | hm
          · obtain ⟨_, i, hi, he⟩ := mem_sq hm
            have hki := hpt _ he
            have hki' : k = S + i := hki
            obtain ⟨z1, z2⟩ := pz.low hE (Or.inr hp)
            obtain ⟨x1, _⟩ := px.low hEx (Or.inr (by rw [hex]; exact hp))
            exact G16_bytes hx hz S k (by rw [← z1, ← x1, hsp]) (by omega)
          · exact absurd (mem_sq hm).1 h3
        · rename_i hp1 hp2
          rcases List.mem_append.1 hm with hm | hm
          · obtain ⟨_, i, hi, he⟩ := mem_sq hm
            have hki := hpt _ he
            have hp : (fld zs).proto = 1 := by rcases pz.pr with h | h | h <;> first | exact absurd h hp1 | exact absurd h hp2 | exact h
            obtain ⟨z1, z2⟩ := pz.ec hE hp
            obtain ⟨x1, _⟩ := px.ec hEx (by rw [hex]; exact hp)
            exact G16_bytes hx hz (S + 4) k (by rw [← z1, ← x1, hsp]) (by omega)
          · exact absurd (mem_sq hm).1 h3
    | true =>
      obtain ⟨z0, z1, z2, z3, z4, z5⟩ := pz.er hE
      have hEx : (pgP (fld xs) xs).er = true := by rw [erx, ery]; exact hE
      obtain ⟨p1, p2, p3, p4⟩ := hpx hE
      obtain rfl : pos' = pos := by omega
      obtain rfl : isz' = isz := by omega
      obtain ⟨x0, x1, x2, x3, x4, x5⟩ := px.er hEx
      rw [hE, if_pos rfl] at hw
      obtain ⟨_, _, r3, _, r5, r6⟩ := h2.err (by rw [ery]; exact hE)
      have hiy : (pgP (fld ys) ys).inn.proto = (pgP (fld zs) zs).inn.proto := by
        obtain ⟨_, _, q3, _⟩ := h1.err hE
        rw [q3]; exact (hdA_size _ _ _).2.2.2
      rw [if_neg (by omega), if_neg (by omega), if_neg (by rw [hE]; simp), eP, eI, Int.toNat_natCast, Int.toNat_natCast] at hm
      rcases List.mem_append.1 hm with hm | hm
      · rcases List.mem_append.1 hm with hm | hm
        · rcases List.mem_append.1 hm with hm | hm
          · exact absurd (mem_sq hm).1 h3
          · obtain ⟨_, i, hi, he⟩ := mem_sq hm
            have hki := hpt _ he
            have hki' : k = pos' + 16 + i := hki
            refine G32_bytes hx hz (pos' + 16) k ?_ (by omega)
            rw [← x2, ← z2, p4, hd hE]
        · exact absurd (mem_sq hm).1 h3
      · by_cases hi1 : (pgP (fld zs) zs).inn.proto = 1
        · rw [if_neg (by omega), if_neg (by omega), if_pos hi1] at hm
          rcases List.mem_append.1 hm with hm | hm
          · obtain ⟨_, i, hi, he⟩ := mem_sq hm
            have hki := hpt _ he
            have e1 := (z5 hi1).1
            have e2 := (x5 (by rw [p3]; exact hi1)).1
            have e3 := (r5 (by rw [hiy]; exact hi1)).1
            refine G16_bytes hx hz (pos' + isz' + 4) k ?_ (by omega)
            rw [← e1, ← e2, e3, hw, (z5 hi1).2]
          · exact absurd (mem_sq hm).1 h3
        · have e1 := z4 hi1
          have e2 := x4 (by rw [p3]; exact hi1)
          have e3 := (r6 (by rw [hiy]; exact hi1)).1
          have e4 : (pgP (fld xs) xs).dp = was := e3
          have hG : G16 xs (pos' + isz' + 2) = G16 zs (pos' + isz' + 2) := by rw [← e1, ← e2, e4, hw]
          split at hm
          · rcases List.mem_append.1 hm with hm | hm
            · obtain ⟨_, i, hi, he⟩ := mem_sq hm
              have hki := hpt _ he
              have hki' : k = pos' + isz' + 2 + i := hki
              exact G16_bytes hx hz (pos' + isz' + 2) k hG (by omega)
            · exact absurd (mem_sq hm).1 h3
          · split at hm
            · rcases List.mem_append.1 hm with hm | hm
              · obtain ⟨_, i, hi, he⟩ := mem_sq hm
                have hki := hpt _ he
                have hki' : k = pos' + isz' + 2 + i := hki
                exact G16_bytes hx hz (pos' + isz' + 2) k hG (by omega)
              · exact absurd (mem_sq hm).1 h3
            · simp at hm
end Go.Proofs.Ytdkjipfemnfckaa
