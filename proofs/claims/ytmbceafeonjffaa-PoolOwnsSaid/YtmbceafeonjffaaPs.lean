/-
  PoolOwns: whose each number is, as plain lists. Conditions stand in each theorem.
-/
import Derived.Test.YtmbceafeonjffaaPrA
namespace Go.Proofs.Ytmbceafeonjffaa
open Go.RowKit Plain
set_option linter.unusedVariables false
set_option linter.unusedSimpArgs false
/-- a worker's Step, by what it owns -/
structure StO (k : Nat) (own : List Int) (v : Nat) (b : Bool) (s : Ps) : Prop where
  tk : s.tk = 0
  ta : b = false → s.gi = [] ∧ (s.nx = 1 ∨ s.nx = 2)
  bk : b = true → (s.nx = 0 ∨ s.nx = 4 ∨ s.nx = 5) ∧ (s.nx = 0 → s.gi = []) ∧ (s.gi.map Prod.fst).Nodup
  ow : ∀ y, inG s.gi y → y < k ∧ own.getD y 0 = (v : Int) + 1
def upS {α : Type} (f : Nat → α) (v : Nat) (x : α) : Nat → α := fun u => if u = v then x else f u
theorem upS_same {α : Type} (f : Nat → α) (v : Nat) (x : α) : upS f v x v = x := if_pos rfl
theorem upS_ne {α : Type} (f : Nat → α) {v u : Nat} (x : α) (h : u ≠ v) : upS f v x u = f u := if_neg h
structure OwP (N k : Nat) (l own : List Int) (st : Nat → Option Ps) (bk : Nat → Bool) : Prop where
  len : own.length = k
  tk : ∀ y, y < 32 * N → (tkn l y = true ↔ (k ≤ y ∨ own.getD y 0 ≠ 0))
  st : ∀ v, v < 4 → ∀ s, st v = some s → StO k own v (bk v) s
theorem inG_nil (y : Nat) : ¬ inG [] y := fun ⟨g, hg, _⟩ => by simp at hg
theorem leftF_nil : leftF [] = [] := by
  refine List.eq_nil_iff_forall_not_mem.2 fun x hx => ?_
  obtain ⟨y, _, h⟩ := (mem_leftF _ _).1 hx
  exact inG_nil y h
theorem mem_left (gi : List (Nat × Int)) (y : Nat) : (y : Int) ∈ leftF gi ↔ inG gi y := by
  rw [mem_leftF]
  constructor
  · rintro ⟨z, e, h⟩
    have : y = z := by omega
    rw [this]; exact h
  · intro h; exact ⟨y, rfl, h⟩
theorem mem_nums (k : Nat) (s : Int) (y : Nat) : (y : Int) ∈ numsF k s ↔ y / 32 = k ∧ s.toNat.testBit (y % 32) = true := by
  rw [mem_numsF]
  constructor
  · rintro ⟨z, e, h1, h2⟩
    have : y = z := by omega
    rw [this]; exact ⟨h1, h2⟩
  · rintro ⟨h1, h2⟩; exact ⟨y, rfl, h1, h2⟩
theorem numsF_zero (k : Nat) : numsF k 0 = [] := List.length_eq_zero_iff.1 ((numsF_nil k 0 (by omega) (by omega)).2 rfl)
/-- the first of a Back's words, and the others -/
theorem inG_cons (g : Nat × Int) (gi : List (Nat × Int)) (y : Nat) : inG (g :: gi) y ↔ (g.1 = y / 32 ∧ g.2.toNat.testBit (y % 32) = true) ∨ inG gi y := by
  unfold inG
  constructor
  · rintro ⟨a, ha, h1, h2⟩
    rcases List.mem_cons.1 ha with e | e
    · left; rw [← e]; exact ⟨h1, h2⟩
    · exact .inr ⟨a, e, h1, h2⟩
  · rintro (⟨h1, h2⟩ | ⟨a, ha, h⟩)
    · exact ⟨g, by simp, h1, h2⟩
    · exact ⟨a, List.mem_cons_of_mem _ ha, h⟩
theorem tail_ne {g : Nat × Int} {gi : List (Nat × Int)} (h : ((g :: gi).map Prod.fst).Nodup) (y : Nat) (hy : inG gi y) : g.1 ≠ y / 32 := by
  obtain ⟨a, ha, h1, _⟩ := hy
  rw [List.map_cons, List.nodup_cons] at h
  intro e
  exact h.1 (by rw [e, ← h1]; exact List.mem_map.2 ⟨a, ha, rfl⟩)
section
variable {N k v : Nat} {l own : List Int} {st : Nat → Option Ps} {bk : Nat → Bool} {s : Ps}
/-- what a step of a worker's makes of whose each number is -/
theorem OwP.after (h : OwP N k l own st bk) (hv : v < 4) {l2 own2 : List Int} {s2 : Option Ps} (ho : own2.length = k)
    (h1 : ∀ y, y < 32 * N → (tkn l2 y = true ↔ (k ≤ y ∨ own2.getD y 0 ≠ 0)))
    (h2 : ∀ y, y < k → own2.getD y 0 = own.getD y 0 ∨ own.getD y 0 = 0 ∨ own.getD y 0 = (v : Int) + 1)
    (h3 : ∀ x, s2 = some x → StO k own2 v (bk v) x) : OwP N k l2 own2 (upS st v s2) bk := by
  refine ⟨ho, h1, fun u hu x hx => ?_⟩
  by_cases e : u = v
  · subst e
    rw [upS_same] at hx
    exact h3 x hx
  · rw [upS_ne _ _ e] at hx
    obtain ⟨q1, q2, q3, q4⟩ := h.st u hu x hx
    refine ⟨q1, q2, q3, fun y hy => ?_⟩
    obtain ⟨r1, r2⟩ := q4 y hy
    refine ⟨r1, ?_⟩
    rcases h2 y r1 with q | q | q
    · rw [q]; exact r2
    · omega
    · omega
/-- what a step of a worker's tells -/
structure OwT (N k v : Nat) (l own : List Int) (st : Nat → Option Ps) (bk : Nat → Bool) (s : Ps) (l2 : List Int) (s2 : Ps) : Prop where
  c0 : bk v = false → leftF s.gi = []
  c1 : ∀ y : Nat, (y : Int) ∈ leftF s.gi → y < k
  c2 : s2.nx = 0 → ∀ y : Nat, (y : Int) ∈ numsF s2.wd s2.tk → y < k ∧ own.getD y 0 = 0 ∧ leftF s.gi = []
  c3 : s2.nx = 0 → bk v = true → numsF s2.wd s2.tk = []
  c4 : ∀ own2 : List Int, own2.length = k → (∀ y : Nat, y < k → own2.getD y 0 = if s2.nx = 0 ∧ (y : Int) ∈ numsF s2.wd s2.tk then (v : Int) + 1 else if (y : Int) ∈ leftF s.gi ∧ (y : Int) ∉ leftF s2.gi then 0 else own.getD y 0) → OwP N k l2 own2 (upS st v (if s2.nx = 0 then none else some s2)) bk
theorem OwP.same (h : OwP N k l own st bk) (hv : v < 4) {own2 : List Int} {s2 : Option Ps} (ho : own2.length = k) (he : ∀ y, y < k → own2.getD y 0 = own.getD y 0) (h3 : ∀ x, s2 = some x → StO k own v (bk v) x) : OwP N k l own2 (upS st v s2) bk := by
  have e : own2 = own := by
    refine List.ext_getElem? fun i => ?_
    by_cases hi : i < k
    · have := he i hi
      have h1 : i < own2.length := by omega
      have h2 : i < own.length := by rw [h.len]; exact hi
      simp [List.getD, h1, h2] at this
      simp [h1, h2, this]
    · rw [List.getElem?_eq_none (by omega), List.getElem?_eq_none (by rw [h.len]; omega)]
  subst e
  exact h.after hv ho h.tk (fun y _ => .inl rfl) h3
theorem StO.up {a b : List Int} {t : Bool} {u : Ps} (h : StO k a v t u) (he : ∀ y, inG u.gi y → b.getD y 0 = a.getD y 0) : StO k b v t u := ⟨h.tk, h.ta, h.bk, fun y hy => ⟨(h.ow y hy).1, (he y hy).trans (h.ow y hy).2⟩⟩
/-- nothing was given back, nothing was taken, and it goes on, or not -/
theorem OwP.rest (h : OwP N k l own st bk) (hv : v < 4) (hs : st v = some s) {s2 : Ps} (hg : s2.gi = s.gi) (ht : s2.tk = 0) (h3 : s2.nx ≠ 0 → StO k own v (bk v) s2) : OwT N k v l own st bk s l s2 := by
  have ho := h.st v hv s hs
  refine ⟨fun e => by rw [(ho.ta e).1, leftF_nil], fun y hy => (ho.ow y ((mem_left _ _).1 hy)).1, fun _ y hy => by rw [ht, numsF_zero] at hy; simp at hy, fun _ _ => by rw [ht, numsF_zero], fun own2 hl he => ?_⟩
  refine h.same hv hl (fun y hy => ?_) (fun x hx => ?_)
  · have q := he y hy
    rw [ht, numsF_zero, hg, if_neg (by simp), if_neg (fun q => q.2 q.1)] at q
    exact q
  · by_cases e : s2.nx = 0
    · rw [if_pos e] at hx; cases hx
    · rw [if_neg e] at hx; cases hx; exact h3 e
theorem OwP.step (h : OwP N k l own st bk) (hv : v < 4) (hs : st v = some s) (hok : OkS N s) (hu : ∀ j, U64 (l.getD j 0)) (hk : k ≤ 32 * N) (hl : l.length = N) : OwT N k v l own st bk s (stpP N l s).1 (stpP N l s).2 := by
  have ho := h.st v hv s hs
  have hb : bk v = false ∨ bk v = true := by cases bk v <;> simp
  have hcase : s.nx = 0 ∨ s.nx = 1 ∨ s.nx = 2 ∨ s.nx = 3 ∨ s.nx = 4 ∨ s.nx = 5 := by have := hok.nx; omega
  rcases hcase with e | e | e | e | e | e
  · have e1 : stpP N l s = (l, s) := by unfold stpP; rw [e]; rfl
    rw [e1]
    exact h.rest hv hs rfl ho.tk (fun _ => ho)
  · have hbk : bk v = false := by
      rcases hb with q | q
      · exact q
      · have := (ho.bk q).1; omega
    obtain ⟨q1, q2⟩ := ho.ta hbk
    have hl2 : (stpP N l s).1 = l ∧ (stpP N l s).2.gi = s.gi ∧ (stpP N l s).2.tk = s.tk ∧ ((stpP N l s).2.nx ≠ 0 → (stpP N l s).2.nx = 1 ∨ (stpP N l s).2.nx = 2) := by
      unfold stpP
      rw [e]
      simp only
      split
      · exact ⟨rfl, rfl, rfl, fun _ => .inr rfl⟩
      · split
        · exact ⟨rfl, rfl, rfl, fun q => absurd rfl q⟩
        · exact ⟨rfl, rfl, rfl, fun _ => .inl rfl⟩
    obtain ⟨a1, a2, a3, a4⟩ := hl2
    rw [a1]
    exact h.rest hv hs a2 (by rw [a3, ho.tk]) (fun q => ⟨by rw [a3, ho.tk], fun _ => ⟨by rw [a2, q1], a4 q⟩, (fun q => by rw [hbk] at q; cases q), fun y hy => by rw [a2] at hy; exact ho.ow y hy⟩)
  · have hbk : bk v = false := by
      rcases hb with q | q
      · exact q
      · have := (ho.bk q).1; omega
    obtain ⟨q1, q2⟩ := ho.ta hbk
    have hwd := hok.wd
    unfold stpP
    rw [e]
    simp only
    by_cases q : l.getD s.wd 0 = s.rd.getD s.wd 0
    · rw [if_pos q, ← q]
      obtain ⟨S, hS⟩ : ∃ S, lowF (freeF (l.getD s.wd 0)) s.mo = S := ⟨_, rfl⟩
      rw [hS]
      have hfree : ∀ y : Nat, y / 32 = s.wd → S.toNat.testBit (y % 32) = true → tkn l y = false := fun y y1 y2 => by
        rw [← hS] at y2
        have z := low_bit _ _ _ y2
        rw [free_bit _ (hu s.wd).1 _ (Nat.mod_lt _ (by decide))] at z
        unfold tkn
        rw [y1]
        simpa using z
      have hmem : ∀ y : Nat, (y : Int) ∈ numsF s.wd S → y < 32 * N ∧ tkn l y = false := fun y hy => by
        obtain ⟨y1, y2⟩ := (mem_nums _ _ _).1 hy
        exact ⟨by omega, hfree y y1 y2⟩
      have hfr : ∀ y : Nat, (y : Int) ∈ numsF s.wd S → y < k ∧ own.getD y 0 = 0 := fun y hy => by
        obtain ⟨y1, y2⟩ := hmem y hy
        have y3 := h.tk y y1
        rw [y2] at y3
        have y4 : ¬ (k ≤ y ∨ own.getD y 0 ≠ 0) := fun z => by have := y3.2 z; cases this
        exact ⟨by omega, Classical.byContradiction fun z => y4 (.inr z)⟩
      refine ⟨fun _ => by rw [q1, leftF_nil], fun y hy => by rw [q1, leftF_nil] at hy; simp at hy, fun _ y hy => ⟨(hfr y hy).1, (hfr y hy).2, by rw [q1, leftF_nil]⟩, (fun _ z => (by rw [hbk] at z; cases z)), fun own2 hl2 he => ?_⟩
      simp only at he
      rw [if_pos rfl]
      have he2 : ∀ y : Nat, y < k → own2.getD y 0 = if (y : Int) ∈ numsF s.wd S then (v : Int) + 1 else own.getD y 0 := fun y hy => by
        have z := he y hy
        rw [q1, leftF_nil] at z
        simpa using z
      refine h.after hv hl2 (fun y hy => ?_) (fun y hy => ?_) (fun x hx => by cases hx)
      · rw [tkn_took _ _ _ _ (by omega), Bool.or_eq_true, h.tk y hy]
        by_cases hyk : k ≤ y
        · simp [hyk]
        · rw [he2 y (by omega)]
          by_cases hm : (y : Int) ∈ numsF s.wd S
          · obtain ⟨y1, y2⟩ := (mem_nums _ _ _).1 hm
            rw [if_pos hm]
            simp [y1, y2]
            omega
          · rw [if_neg hm]
            have : ¬ (y / 32 = s.wd ∧ S.toNat.testBit (y % 32) = true) := fun z => hm ((mem_nums _ _ _).2 z)
            simp only [Bool.and_eq_true, decide_eq_true_eq]
            constructor
            · rintro (z | z)
              · exact z
              · exact absurd z this
            · exact .inl
      · rw [he2 y hy]
        by_cases hm : (y : Int) ∈ numsF s.wd S
        · rw [if_pos hm]; exact .inr (.inl (hfr y hm).2)
        · rw [if_neg hm]; exact .inl rfl
    · rw [if_neg q]
      exact h.rest hv hs rfl ho.tk (fun _ => ⟨ho.tk, fun _ => ⟨q1, .inl rfl⟩, (fun q => by rw [hbk] at q; cases q), ho.ow⟩)
  · exfalso
    rcases hb with q | q
    · have := (ho.ta q).2; omega
    · have := (ho.bk q).1; omega
  · have hbk : bk v = true := by
      rcases hb with q | q
      · have := (ho.ta q).2; omega
      · exact q
    obtain ⟨q1, q2, q3⟩ := ho.bk hbk
    have h0 := hok.gv (.inl e)
    obtain ⟨g, gi, hgi⟩ : ∃ g gi, s.gi = g :: gi := by
      cases hh : s.gi with
      | nil => rw [hh] at h0; simp at h0
      | cons g gi => exact ⟨g, gi, rfl⟩
    obtain ⟨r1, r2, r3⟩ := hok.gi g (by rw [hgi]; simp)
    -- its first word holds one of its numbers
    obtain ⟨i, hi, hbit⟩ := nz_bit g.2 (by omega) r3 (by omega)
    have hin : inG s.gi (32 * g.1 + i) := by
      rw [hgi, inG_cons]
      left
      rw [show (32 * g.1 + i) / 32 = g.1 by omega, show (32 * g.1 + i) % 32 = i by omega]
      exact ⟨rfl, hbit⟩
    obtain ⟨o1, o2⟩ := ho.ow _ hin
    have ht : tkn l (32 * g.1 + i) = true := (h.tk _ (by omega)).2 (.inr (by omega))
    unfold tkn at ht
    rw [show (32 * g.1 + i) / 32 = g.1 by omega, show (32 * g.1 + i) % 32 = i by omega] at ht
    have hne : ((l.getD g.1 0) % 4294967296).toNat &&& g.2.toNat ≠ 0 := fun z => by
      have z2 : (((l.getD g.1 0) % 4294967296).toNat &&& g.2.toNat).testBit i = true := by
        rw [Nat.testBit_and, hbit, Bool.and_true]
        have hx := (hu g.1).1
        have e3 : ((l.getD g.1 0) % 4294967296).toNat % 4294967296 = (l.getD g.1 0).toNat % 4294967296 := by omega
        rw [bit_low _ _ i hi e3]
        exact ht
      rw [z] at z2
      simp at z2
    have hg0 : s.gi.getD 0 (0, 0) = g := by rw [hgi]; rfl
    unfold stpP
    rw [e]
    simp only
    rw [hg0, if_neg hne]
    exact h.rest hv hs rfl ho.tk (fun _ => ⟨ho.tk, (fun z => by rw [hbk] at z; cases z), fun _ => ⟨.inr (.inr rfl), fun z => by simp at z, q3⟩, ho.ow⟩)
  · have hbk : bk v = true := by
      rcases hb with q | q
      · have := (ho.ta q).2; omega
      · exact q
    obtain ⟨q1, q2, q3⟩ := ho.bk hbk
    have h0 := hok.gv (.inr e)
    obtain ⟨g, gi, hgi⟩ : ∃ g gi, s.gi = g :: gi := by
      cases hh : s.gi with
      | nil => rw [hh] at h0; simp at h0
      | cons g gi => exact ⟨g, gi, rfl⟩
    obtain ⟨r1, r2, r3⟩ := hok.gi g (by rw [hgi]; simp)
    have hg0 : s.gi.getD 0 (0, 0) = g := by rw [hgi]; rfl
    unfold stpP
    rw [e]
    simp only
    rw [hg0]
    by_cases q : l.getD g.1 0 = s.rd.getD g.1 0
    · rw [if_pos q, ← q]
      have hcg : s.close.gi = gi := by unfold Ps.close; rw [hgi]; rfl
      have hct : s.close.tk = 0 := ho.tk
      have hout : ∀ y : Nat, ((y : Int) ∈ leftF s.gi ∧ (y : Int) ∉ leftF s.close.gi) ↔ (y / 32 = g.1 ∧ g.2.toNat.testBit (y % 32) = true) := fun y => by
        rw [mem_left, mem_left, hcg, hgi, inG_cons]
        constructor
        · rintro ⟨z | z, z2⟩
          · exact ⟨z.1.symm, z.2⟩
          · exact absurd z z2
        · rintro ⟨z1, z2⟩
          rw [hgi] at q3
          exact ⟨.inl ⟨z1.symm, z2⟩, fun z => tail_ne q3 y z z1.symm⟩
      refine ⟨(fun z => (by rw [hbk] at z; cases z)), fun y hy => (ho.ow y ((mem_left _ _).1 hy)).1, fun _ y hy => by rw [hct, numsF_zero] at hy; simp at hy, fun _ _ => by rw [hct, numsF_zero], fun own2 hl2 he => ?_⟩
      have he2 : ∀ y : Nat, y < k → own2.getD y 0 = if (y / 32 = g.1 ∧ g.2.toNat.testBit (y % 32) = true) then 0 else own.getD y 0 := fun y hy => by
        have z := he y hy
        rw [hct, numsF_zero, if_neg (by simp)] at z
        rw [z]
        by_cases c : (y / 32 = g.1 ∧ g.2.toNat.testBit (y % 32) = true)
        · rw [if_pos c, if_pos ((hout y).2 c)]
        · rw [if_neg c, if_neg (fun z => c ((hout y).1 z))]
      have how : ∀ y : Nat, (y / 32 = g.1 ∧ g.2.toNat.testBit (y % 32) = true) → y < k ∧ own.getD y 0 = (v : Int) + 1 := fun y c => ho.ow y (by rw [hgi, inG_cons]; exact .inl ⟨c.1.symm, c.2⟩)
      refine h.after hv hl2 (fun y hy => ?_) (fun y hy => ?_) (fun x hx => ?_)
      · rw [tkn_gave _ _ _ _ (by omega) (by omega), Bool.and_eq_true, h.tk y hy]
        by_cases c : (y / 32 = g.1 ∧ g.2.toNat.testBit (y % 32) = true)
        · obtain ⟨y1, y2⟩ := how y c
          rw [he2 y y1, if_pos c]
          simp [c.1, c.2]
          omega
        · have c2 : (decide (y / 32 = g.1) && g.2.toNat.testBit (y % 32)) = false := by
            cases hh : (decide (y / 32 = g.1) && g.2.toNat.testBit (y % 32)) with
            | false => rfl
            | true => exact absurd (by simpa using hh) c
          rw [c2]
          by_cases hyk : k ≤ y
          · simp [hyk]
          · rw [he2 y (by omega), if_neg c]; simp
      · rw [he2 y hy]
        by_cases c : (y / 32 = g.1 ∧ g.2.toNat.testBit (y % 32) = true)
        · exact .inr (.inr (how y c).2)
        · rw [if_neg c]; exact .inl rfl
      · by_cases ec : s.close.nx = 0
        · rw [if_pos ec] at hx; cases hx
        · rw [if_neg ec] at hx
          cases hx
          have hnx : s.close.nx = 4 := by
            show (if s.gi.length ≤ 1 then 0 else 4) = 4
            have : s.close.nx = if s.gi.length ≤ 1 then 0 else 4 := rfl
            rw [this] at ec
            by_cases z : s.gi.length ≤ 1
            · rw [if_pos z] at ec; exact absurd rfl ec
            · rw [if_neg z]
          refine ⟨hct, (fun z => by rw [hbk] at z; cases z), fun _ => ⟨.inr (.inl hnx), (fun z => absurd z ec), ?_⟩, fun y hy => ?_⟩
          · rw [hcg]; rw [hgi, List.map_cons, List.nodup_cons] at q3; exact q3.2
          · rw [hcg] at hy
            obtain ⟨y1, y2⟩ := ho.ow y (by rw [hgi, inG_cons]; exact .inr hy)
            refine ⟨y1, ?_⟩
            rw [he2 y y1, if_neg (fun c => ?_)]
            · exact y2
            · rw [hgi] at q3; exact tail_ne q3 y hy c.1.symm
    · rw [if_neg q]
      exact h.rest hv hs rfl ho.tk (fun _ => ⟨ho.tk, (fun z => by rw [hbk] at z; cases z), fun _ => ⟨.inr (.inl rfl), fun z => by simp at z, q3⟩, ho.ow⟩)
theorem OwP.setB (h : OwP N k l own st bk) (hs : st v = none) (b : Bool) : OwP N k l own st (upS bk v b) :=
  ⟨h.len, h.tk, fun u hu x hx => by
    have : u ≠ v := fun e => by rw [e, hs] at hx; cases hx
    rw [upS_ne _ _ this]
    exact h.st u hu x hx⟩
theorem OwP.begin (h : OwP N k l own st bk) (hv : v < 4) (hs : StO k own v (bk v) s) : OwP N k l own (upS st v (some s)) bk :=
  h.after hv h.len h.tk (fun y _ => .inl rfl) (fun x hx => by cases hx; exact hs)
theorem StO.take (own : List Int) (wd n mo : Nat) : StO k own v false ⟨1, wd, n, mo, List.replicate 32 0, 0, false, false, []⟩ :=
  ⟨rfl, fun _ => ⟨rfl, .inl rfl⟩, (fun q => by cases q), fun y hy => absurd hy (inG_nil y)⟩
theorem StO.back {own zs : List Int} (hn : N ≤ 32) (hk : (k : Int) ≤ 32 * (N : Int)) (hz : ∀ y : Nat, (y : Int) ∈ zs → y < k → own.getD y 0 = (v : Int) + 1) : StO k own v true (backP (giftsF (k : Int) zs)) := by
  refine ⟨rfl, (fun q => by cases q), fun _ => ⟨?_, fun q => ?_, gifts_nodup hn hk zs⟩, fun y hy => ?_⟩
  · show (if (giftsF (k : Int) zs).length = 0 then 0 else 4) = 0 ∨ (if (giftsF (k : Int) zs).length = 0 then 0 else 4) = 4 ∨ (if (giftsF (k : Int) zs).length = 0 then 0 else 4) = 5
    split
    · exact .inl rfl
    · exact .inr (.inl rfl)
  · have q2 : (if (giftsF (k : Int) zs).length = 0 then 0 else 4) = 0 := q
    by_cases e : (giftsF (k : Int) zs).length = 0
    · exact List.length_eq_zero_iff.1 e
    · rw [if_neg e] at q2; omega
  · obtain ⟨y1, y2⟩ := (inG_gifts hn hk zs y).1 hy
    exact ⟨by omega, hz y y1 (by omega)⟩
theorem OwP.start (h1 : 1 ≤ k) : OwP (wdsN k) k (newL k) (List.replicate k 0) (fun _ => none) (fun _ => false) :=
  ⟨by simp, fun y hy => by rw [newL_tkn k h1 y hy, rep0]; simp, fun _ _ _ q => by cases q⟩
end
end Go.Proofs.Ytmbceafeonjffaa
