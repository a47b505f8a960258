/-
  Several small texts in one: CbC, CbD. Conditions stand in each theorem.
-/
import Derived.Test.YtmbceafeonjffaaGU
namespace Go.Proofs.Ytmbceafeonjffaa
open Go.RowKit Go.Deep Plain
set_option linter.unusedVariables false
set_option linter.unusedSimpArgs false
set_option maxRecDepth 100000
theorem left_nodup : ∀ gi : List (Nat × Int), (gi.map Prod.fst).Nodup → (gi.flatMap fun g => numsF g.1 g.2).Nodup
  | [], _ => by simp
  | g :: gi, h => by
    rw [List.flatMap_cons, List.nodup_append]
    refine ⟨numsF_nodup _ _, left_nodup gi (List.nodup_cons.1 (by simpa using h)).2, fun a ha b hb q => ?_⟩
    subst q
    obtain ⟨g2, hg2, hb⟩ := List.mem_flatMap.1 hb
    obtain ⟨y, rfl, h1, _⟩ := (mem_numsF _ _ _).1 ha
    obtain ⟨y2, e, h2, h3⟩ := (mem_numsF _ _ _).1 hb
    have e' : y = y2 := by omega
    subst e'
    exact tail_ne h y ⟨g2, hg2, h2.symm, h3⟩ h1.symm
theorem leftF_nodup {gi : List (Nat × Int)} (h : (gi.map Prod.fst).Nodup) : (leftF gi).Nodup := (left_nodup gi h).perm (srt_perm _).symm
/-- the pool's Step of a Step -/
def pO (s : Sv) : Option Ps := match s with
  | some (_, some (_, p)) => some p
  | _ => none
def pS (S : Nat → Sv) (v : Nat) : Option Ps := pO (S v)
theorem pO_some {s : Sv} {p : Ps} (h : pO s = some p) : ∃ a b, s = some (a, some (b, p)) := by
  rcases s with _ | ⟨a, _ | ⟨b, q⟩⟩
  · cases h
  · cases h
  · cases h; exact ⟨a, b, rfl⟩
/-- what goes back by it -/
def lfS (s : Sv) : List Int := match s with
  | some (_, some (_, p)) => leftF p.gi
  | _ => []
def bkS (s : Sv) (b : Bool) : Option Nat := match s with
  | some (_, some (g, _)) => if b = true then some g else none
  | _ => none
theorem pS_up (S : Nat → Sv) (v : Nat) (t : Sv) : pS (upS S v t) = upS (pS S) v (pS (fun _ => t) 0) := by
  funext u
  unfold pS upS
  split <;> rfl
structure OwC (N k : Nat) (l own : List Int) (M : Nat) (C : Nat → Cv) (S : Nat → Sv) (bk : Nat → Bool) (out : List Int) : Prop where
  ow : OwP N k l own (pS S) bk
  kb : ∀ v, v < M → (C v).bk = bkS (S v) (bk v)
  z : ∀ v, v < M → ∀ y : Nat, (y : Int) ∈ (C v).Z ↔ y < k ∧ own.getD y 0 = (v : Int) + 1 ∧ (y : Int) ∉ lfS (S v)
  o : ∀ y : Nat, (y : Int) ∈ out ↔ y < k ∧ own.getD y 0 = 5
  rg : ∀ y, y < k → own.getD y 0 = 0 ∨ own.getD y 0 = 5 ∨ ∃ v, v < M ∧ own.getD y 0 = (v : Int) + 1
  nz : ∀ v, v < M → (C v).Z.Nodup ∧ ∀ x ∈ (C v).Z, 0 ≤ x
  no : out.Nodup ∧ ∀ x ∈ out, 0 ≤ x
  sm : ∀ v, M ≤ v → S v = none
section
variable {N k M v : Nat} {l own out : List Int} {C : Nat → Cv} {S : Nat → Sv} {bk : Nat → Bool} {x : Int}
theorem nat_of (h : 0 ≤ x) : ((x.toNat : Nat) : Int) = x := Int.toNat_of_nonneg h
theorem OwC.zr (h : OwC N k l own M C S bk out) (hv : v < M) (hx : x ∈ (C v).Z) : 0 ≤ x ∧ x < k ∧ own.getD x.toNat 0 = (v : Int) + 1 ∧ x ∉ lfS (S v) := by
  have h0 := (h.nz v hv).2 x hx
  have := (h.z v hv x.toNat).1 (by rwa [nat_of h0])
  rw [nat_of h0] at this
  exact ⟨h0, by omega, this.2⟩
theorem OwC.or (h : OwC N k l own M C S bk out) (hx : x ∈ out) : 0 ≤ x ∧ x < k ∧ own.getD x.toNat 0 = 5 := by
  have h0 := h.no.2 x hx
  have := (h.o x.toNat).1 (by rwa [nat_of h0])
  exact ⟨h0, by omega, this.2⟩
theorem OwC.zlen (h : OwC N k l own M C S bk out) (hv : v < M) : (C v).Z.length ≤ k := pigeon k _ (h.nz v hv).1 fun x hx => ⟨(h.zr hv hx).1, (h.zr hv hx).2.1⟩
theorem OwC.olen (h : OwC N k l own M C S bk out) : out.length ≤ k := pigeon k _ h.no.1 fun x hx => ⟨(h.or hx).1, (h.or hx).2.1⟩
/-- what goes back is its worker's -/
theorem OwC.lr (h : OwC N k l own M C S bk out) (hv : v < M) (hM : M ≤ 4) : (lfS (S v)).Nodup ∧ ∀ x ∈ lfS (S v), 0 ≤ x ∧ x < k ∧ own.getD x.toNat 0 = (v : Int) + 1 := by
  unfold lfS
  split
  · rename_i a b p e
    have hst := h.ow.st v (by omega) p (by unfold pS; rw [e]; rfl)
    refine ⟨leftF_nodup ?_, fun x hx => ?_⟩
    · cases hb : bk v
      · rw [(hst.ta hb).1]; simp
      · exact (hst.bk hb).2.2
    · obtain ⟨y, rfl, hy⟩ := (mem_leftF _ _).1 hx
      have := hst.ow y hy
      rw [Int.toNat_natCast]
      exact ⟨by omega, by omega, this.2⟩
  · exact ⟨List.nodup_nil, by simp⟩
/-- a number that is no Step's is another one's -/
theorem OwP.mark2 {st : Nat → Option Ps} (h : OwP N k l own st bk) {x : Nat} {c : Int} (hx : own.getD x 0 ≠ 0) (hc : c ≠ 0) (hn : ∀ u, u < 4 → ∀ s, st u = some s → ¬ inG s.gi x) : OwP N k l (own.set x c) st bk := by
  refine ⟨by simp [h.len], fun y hy => ?_, fun u hu s hs => ?_⟩
  · rw [h.tk y hy]
    by_cases q : x < own.length
    · rw [own_set _ _ _ _ q]
      by_cases e : y = x
      · subst e; rw [if_pos rfl]; exact ⟨fun _ => .inr hc, fun _ => .inr hx⟩
      · rw [if_neg e]
    · rw [List.set_eq_of_length_le (by omega)]
  · refine (h.st u hu s hs).up fun y hy => ?_
    by_cases q : x < own.length
    · rw [own_set _ _ _ _ q, if_neg]
      intro e
      subst e
      exact hn u hu s hs hy
    · rw [List.set_eq_of_length_le (by omega)]
theorem OwC.start (hk : 1 ≤ k) {C : Nat → Cv} (hz : ∀ v, v < M → (C v).Z = [] ∧ (C v).bk = none) : OwC (wdsN k) k (newL k) (List.replicate k 0) M C (fun _ => none) (fun _ => false) [] := by
  have e0 : pS (fun _ => none) = fun _ => none := rfl
  refine ⟨by rw [e0]; obtain ⟨a, b, c⟩ := OwP.start hk; exact ⟨a, b, fun _ _ _ q => by cases q⟩, fun v hv => (hz v hv).2, fun v hv y => ?_, fun y => ?_, fun y hy => .inl (by rw [rep0]), fun v hv => ?_, ⟨List.nodup_nil, by simp⟩, fun _ _ => rfl⟩
  · rw [(hz v hv).1, rep0]
    exact ⟨fun q => by simp at q, fun q => by have := q.2.1; omega⟩
  · rw [rep0]
    exact ⟨fun q => by simp at q, fun q => by have := q.2; omega⟩
  · rw [(hz v hv).1]; exact ⟨List.nodup_nil, by simp⟩
theorem pS_at {gt gs : Nat} {p : Ps} (e : S v = some (gt, some (gs, p))) : pS S v = some p := by unfold pS; rw [e]; rfl
/-- a Step goes on -/
theorem OwC.goes (h : OwC N k l own M C S bk out) (hv : v < M) (hM : M ≤ 4) {gt gs : Nat} {p : Ps} (hS : S v = some (gt, some (gs, p))) (hok : OkS N p) (hu : ∀ j, U64 (l.getD j 0)) (hk : k ≤ 32 * N) (hl : l.length = N) (hx : (stpP N l p).2.nx ≠ 0) :
    ∃ own2, OwC N k (stpP N l p).1 own2 M C (upS S v (some (gt, some (gs, (stpP N l p).2)))) bk out := by
  have hs := h.ow.step (v := v) (by omega) (pS_at hS) hok hu hk hl
  have hc := hs.c4 (midO own p.gi (stpP N l p).2.gi k) (midO_len _ _ _ _) (fun y hy => by
    rw [midO_at _ _ _ _ _ hy, if_neg (show ¬ ((stpP N l p).2.nx = 0 ∧ _) from fun q => hx q.1)])
  rw [if_neg hx] at hc
  have hlf : lfS (S v) = leftF p.gi := by unfold lfS; rw [hS]
  have hlr := h.lr hv hM
  rw [hlf] at hlr
  have hat := fun y hy => midO_at own p.gi (stpP N l p).2.gi k y hy
  have hsub : ∀ x, x ∈ leftF (stpP N l p).2.gi → x ∈ leftF p.gi := fun x q => stp_left _ _ _ _ q
  refine ⟨_, by rw [pS_up]; exact hc, fun u hu => ?_, fun u hu y => ?_, fun y => ?_, fun y hy => ?_, h.nz, h.no, fun u hu => ?_⟩
  · rw [h.kb u hu]
    by_cases e : u = v
    · subst e; rw [upS_same, hS]; rfl
    · rw [upS_ne _ _ e]
  · rw [h.z u hu y]
    by_cases hy : y < k
    · rw [hat y hy]
      by_cases e : u = v
      · subst e
        rw [upS_same, hlf]
        show _ ↔ y < k ∧ _ ∧ (y : Int) ∉ leftF (stpP N l p).2.gi
        by_cases a : (y : Int) ∈ leftF p.gi
        · by_cases b : (y : Int) ∈ leftF (stpP N l p).2.gi
          · exact ⟨fun q => absurd a q.2.2, fun q => absurd b q.2.2⟩
          · rw [if_pos ⟨a, b⟩]
            exact ⟨fun q => absurd a q.2.2, fun q => by have := q.2.1; omega⟩
        · rw [if_neg (fun q => a q.1)]
          exact ⟨fun q => ⟨q.1, q.2.1, fun b => a (hsub _ b)⟩, fun q => ⟨q.1, q.2.1, a⟩⟩
      · rw [upS_ne _ _ e]
        by_cases a : (y : Int) ∈ leftF p.gi ∧ (y : Int) ∉ leftF (stpP N l p).2.gi
        · rw [if_pos a]
          have := (hlr.2 y a.1).2.2
          rw [Int.toNat_natCast] at this
          exact ⟨fun q => by have := q.2.1; omega, fun q => by have := q.2.1; omega⟩
        · rw [if_neg a]
    · exact ⟨fun q => absurd q.1 hy, fun q => absurd q.1 hy⟩
  · rw [h.o y]
    by_cases hy : y < k
    · rw [hat y hy]
      by_cases a : (y : Int) ∈ leftF p.gi ∧ (y : Int) ∉ leftF (stpP N l p).2.gi
      · rw [if_pos a]
        have := (hlr.2 y a.1).2.2
        rw [Int.toNat_natCast] at this
        exact ⟨fun q => by have := q.2; omega, fun q => by have := q.2; omega⟩
      · rw [if_neg a]
    · exact ⟨fun q => absurd q.1 hy, fun q => absurd q.1 hy⟩
  · rw [hat y hy]
    split
    · exact .inl rfl
    · exact h.rg y hy
  · rw [upS_ne _ _ (by omega)]; exact h.sm u hu
/-- a Step is done -/
theorem OwC.done (h : OwC N k l own M C S bk out) (hv : v < M) (hM : M ≤ 4) {gt gs : Nat} {p : Ps} (hS : S v = some (gt, some (gs, p))) (hok : OkS N p) (hu : ∀ j, U64 (l.getD j 0)) (hk : k ≤ 32 * N) (hl : l.length = N) (hx : (stpP N l p).2.nx = 0)
    {x : Cv} (hz : x.Z = (C v).Z ++ gotF (stpP N l p).2) (hb : x.bk = if (C v).bk = some gs then none else (C v).bk) :
    ∃ own2, OwC N k (stpP N l p).1 own2 M (upS C v x) (upS S v none) bk out := by
  have hst := h.ow.st v (by omega) p (pS_at hS)
  have hs := h.ow.step (v := v) (by omega) (pS_at hS) hok hu hk hl
  have hlf : lfS (S v) = leftF p.gi := by unfold lfS; rw [hS]
  have hlr := h.lr hv hM
  rw [hlf] at hlr
  have hxb : x.bk = none := by
    rw [hb, h.kb v hv, hS]
    unfold bkS
    cases bk v <;> simp
  -- nothing goes back any more
  have hgi : leftF (stpP N l p).2.gi = [] := by
    cases hbv : bk v
    · refine List.eq_nil_iff_forall_not_mem.2 fun y hy => ?_
      have := stp_left _ _ _ _ hy
      rw [hs.c0 hbv] at this
      simp at this
    · obtain ⟨b1, b2, _⟩ := hst.bk hbv
      rcases b1 with q | q
      · have e : stpP N l p = (l, p) := by unfold stpP; rw [q]; rfl
        rw [e]
        show leftF p.gi = []
        rw [b2 q, leftF_nil]
      · rw [stp_over _ _ _ q hx, leftF_nil]
  have hgot : gotF (stpP N l p).2 = (numsF (stpP N l p).2.wd (stpP N l p).2.tk).reverse := by
    unfold gotF
    split
    · rename_i q; rw [q, numsF_zero]; rfl
    · rfl
  have hc2 := hs.c2 hx
  have hnd := numsF_nodup (stpP N l p).2.wd (stpP N l p).2.tk
  have hnp : ∀ x ∈ numsF (stpP N l p).2.wd (stpP N l p).2.tk, 0 ≤ x := fun x q => by
    obtain ⟨y, rfl, _⟩ := (mem_numsF _ _ _).1 q
    omega
  obtain ⟨G, hG⟩ : ∃ G, numsF (stpP N l p).2.wd (stpP N l p).2.tk = G := ⟨_, rfl⟩
  have hc4 := hs.c4 ((List.range k).map fun y : Nat => if (y : Int) ∈ G then (v : Int) + 1 else if (y : Int) ∈ leftF p.gi then 0 else own.getD y 0) (by simp) (fun y hy => by
    rw [hG, hgi]
    simp [List.getD, hy, hx])
  rw [if_pos hx] at hc4
  rw [hG] at hc2 hnd hnp hgot
  have hat : ∀ y, y < k → ((List.range k).map fun y : Nat => if (y : Int) ∈ G then (v : Int) + 1 else if (y : Int) ∈ leftF p.gi then 0 else own.getD y 0).getD y 0 = if (y : Int) ∈ G then (v : Int) + 1 else if (y : Int) ∈ leftF p.gi then 0 else own.getD y 0 := fun y hy => by simp [List.getD, hy]
  refine ⟨_, by rw [pS_up]; exact hc4, fun u hu => ?_, fun u hu y => ?_, fun y => ?_, fun y hy => ?_, fun u hu => ?_, h.no, fun u hu => ?_⟩
  · by_cases e : u = v
    · subst e; rw [upS_same, upS_same, hxb]; rfl
    · rw [upS_ne _ _ e, upS_ne _ _ e]; exact h.kb u hu
  · by_cases e : u = v
    · subst e
      rw [upS_same, upS_same, hz, hgot, List.mem_append, List.mem_reverse, h.z u hu y, hlf]
      show _ ↔ y < k ∧ _ ∧ (y : Int) ∉ ([] : List Int)
      by_cases hy : y < k
      · rw [hat y hy]
        by_cases a : (y : Int) ∈ G
        · rw [if_pos a]; exact ⟨fun _ => ⟨hy, rfl, by simp⟩, fun _ => .inr a⟩
        · rw [if_neg a]
          by_cases b : (y : Int) ∈ leftF p.gi
          · rw [if_pos b]
            exact ⟨fun q => by rcases q with q | q; exact absurd b q.2.2; exact absurd q a, fun q => by have := q.2.1; omega⟩
          · rw [if_neg b]
            exact ⟨fun q => by rcases q with q | q; exact ⟨hy, q.2.1, by simp⟩; exact absurd q a, fun q => .inl ⟨hy, q.2.1, b⟩⟩
      · exact ⟨fun q => by rcases q with q | q; exact absurd q.1 hy; exact absurd (hc2 y q).1 hy, fun q => absurd q.1 hy⟩
    · rw [upS_ne _ _ e, upS_ne _ _ e, h.z u hu y]
      by_cases hy : y < k
      · rw [hat y hy]
        by_cases a : (y : Int) ∈ G
        · rw [if_pos a]
          have := (hc2 y a).2.1
          exact ⟨fun q => by have := q.2.1; omega, fun q => by have := q.2.1; omega⟩
        · rw [if_neg a]
          by_cases b : (y : Int) ∈ leftF p.gi
          · rw [if_pos b]
            have := (hlr.2 y b).2.2
            rw [Int.toNat_natCast] at this
            exact ⟨fun q => by have := q.2.1; omega, fun q => by have := q.2.1; omega⟩
          · rw [if_neg b]
      · exact ⟨fun q => absurd q.1 hy, fun q => absurd q.1 hy⟩
  · rw [h.o y]
    by_cases hy : y < k
    · rw [hat y hy]
      by_cases a : (y : Int) ∈ G
      · rw [if_pos a]
        have := (hc2 y a).2.1
        exact ⟨fun q => by have := q.2; omega, fun q => by have := q.2; omega⟩
      · rw [if_neg a]
        by_cases b : (y : Int) ∈ leftF p.gi
        · rw [if_pos b]
          have := (hlr.2 y b).2.2
          rw [Int.toNat_natCast] at this
          exact ⟨fun q => by have := q.2; omega, fun q => by have := q.2; omega⟩
        · rw [if_neg b]
    · exact ⟨fun q => absurd q.1 hy, fun q => absurd q.1 hy⟩
  · rw [hat y hy]
    split
    · exact .inr (.inr ⟨v, hv, rfl⟩)
    · split
      · exact .inl rfl
      · exact h.rg y hy
  · by_cases e : u = v
    · subst e
      rw [upS_same, hz, hgot]
      refine ⟨List.nodup_append.2 ⟨(h.nz u hu).1, hnd.perm (List.reverse_perm _).symm, fun a ha b hb q => ?_⟩, fun y hy => ?_⟩
      · subst q
        have h1 := h.zr hu ha
        have h2 := hc2 a.toNat (by rw [nat_of h1.1]; exact List.mem_reverse.1 hb)
        omega
      · rcases List.mem_append.1 hy with q | q
        · exact (h.nz u hu).2 y q
        · exact hnp y (List.mem_reverse.1 q)
    · rw [upS_ne _ _ e]; exact h.nz u hu
  · rw [upS_ne _ _ (by omega)]; exact h.sm u hu
/-- what a Step without one of the pool's does to none -/
theorem OwC.put0 (h : OwC N k l own M C S bk out) (hv : v < M) (hS : pS S v = none) (hl : lfS (S v) = []) (hb : bkS (S v) (bk v) = none) {t : Sv} (h1 : pS (fun _ => t) 0 = none) (h2 : lfS t = []) (h3 : bkS t (bk v) = none) : OwC N k l own M C (upS S v t) bk out := by
  refine ⟨?_, fun u hu => ?_, fun u hu y => ?_, h.o, h.rg, h.nz, h.no, fun u hu => ?_⟩
  · rw [pS_up, h1, ← hS, upS_self]; exact h.ow
  · by_cases e : u = v
    · subst e; rw [upS_same, h3, h.kb u hu, hb]
    · rw [upS_ne _ _ e]; exact h.kb u hu
  · by_cases e : u = v
    · subst e; rw [upS_same, h2, h.z u hu y, hl]
    · rw [upS_ne _ _ e]; exact h.z u hu y
  · rw [upS_ne _ _ (by omega)]; exact h.sm u hu
/-- a Fill begins to take -/
theorem OwC.take (h : OwC N k l own M C S bk out) (hv : v < M) (hM : M ≤ 4) (hS : S v = none) (gt gs wd : Nat) : OwC N k l own M C (upS S v (some (gt, some (gs, tkP wd N)))) (upS bk v false) out := by
  have hps : pS S v = none := by unfold pS; rw [hS]; rfl
  have h1 := h.ow.setB (v := v) hps false
  have h2 := h1.begin (v := v) (s := tkP wd N) (by omega) (by rw [upS_same]; exact StO.take own wd N 8)
  have hlf : lfS (S v) = [] := by unfold lfS; rw [hS]
  refine ⟨?_, fun u hu => ?_, fun u hu y => ?_, h.o, h.rg, h.nz, h.no, fun u hu => ?_⟩
  · rw [pS_up]; exact h2
  · by_cases e : u = v
    · subst e; rw [upS_same, upS_same, h.kb u hu, hS]; rfl
    · rw [upS_ne _ _ e, upS_ne _ _ e]; exact h.kb u hu
  · by_cases e : u = v
    · subst e
      rw [upS_same, h.z u hu y, hlf]
      have : lfS (some (gt, some (gs, tkP wd N))) = [] := leftF_nil
      rw [this]
    · rw [upS_ne _ _ e]; exact h.z u hu y
  · rw [upS_ne _ _ (by omega)]; exact h.sm u hu
/-- all of a cache's begin to go back -/
theorem OwC.back (h : OwC N k l own M C S bk out) (hv : v < M) (hM : M ≤ 4) (hS : S v = none) (h1 : 1 ≤ N) (hN : N ≤ 32) (hk : k ≤ 32 * N) {x : Cv} (gt gs : Nat) (hz : x.Z = []) (hb : x.bk = some gs) : OwC N k l own M (upS C v x) (upS S v (some (gt, some (gs, backP (giftsF (k : Int) (C v).Z))))) (upS bk v true) out := by
  have hk' : (k : Int) ≤ 32 * (N : Int) := by omega
  have hps : pS S v = none := by unfold pS; rw [hS]; rfl
  have hlf : lfS (S v) = [] := by unfold lfS; rw [hS]
  have h2 := h.ow.setB (v := v) hps true
  have h3 := h2.begin (v := v) (s := backP (giftsF (k : Int) (C v).Z)) (by omega) (by rw [upS_same]; exact StO.back hN hk' (fun y hy hy2 => ((h.z v hv y).1 hy).2.1))
  have hin : ∀ y : Nat, (y : Int) ∈ leftF (giftsF (k : Int) (C v).Z) ↔ (y : Int) ∈ (C v).Z := fun y => by
    rw [mem_left, inG_gifts hN hk' _ y]
    exact ⟨fun q => q.1, fun q => ⟨q, (h.zr hv q).2.1⟩⟩
  refine ⟨?_, fun u hu => ?_, fun u hu y => ?_, h.o, h.rg, fun u hu => ?_, h.no, fun u hu => ?_⟩
  · rw [pS_up]; exact h3
  · by_cases e : u = v
    · subst e; rw [upS_same, upS_same, upS_same, hb]; rfl
    · rw [upS_ne _ _ e, upS_ne _ _ e, upS_ne _ _ e]; exact h.kb u hu
  · by_cases e : u = v
    · subst e
      rw [upS_same, upS_same, hz]
      show _ ↔ y < k ∧ _ ∧ (y : Int) ∉ leftF (giftsF (k : Int) (C u).Z)
      rw [hin y, h.z u hu y, hlf]
      exact ⟨fun q => by simp at q, fun q => absurd ⟨q.1, q.2.1, by simp⟩ q.2.2⟩
    · rw [upS_ne _ _ e, upS_ne _ _ e]; exact h.z u hu y
  · by_cases e : u = v
    · subst e; rw [upS_same, hz]; exact ⟨List.nodup_nil, by simp⟩
    · rw [upS_ne _ _ e]; exact h.nz u hu
  · rw [upS_ne _ _ (by omega)]; exact h.sm u hu
/-- nobody's Step holds it -/
theorem OwC.nog (h : OwC N k l own M C S bk out) {y : Nat} {c : Int} (hy : own.getD y 0 = c) (hne : ∀ u, u < 4 → (∃ p, pS S u = some p ∧ inG p.gi y) → c ≠ (u : Int) + 1) : ∀ u, u < 4 → ∀ s, pS S u = some s → ¬ inG s.gi y := fun u hu s hs hg => by
  have := (h.ow.st u hu s hs).ow y hg
  exact hne u hu ⟨s, hs, hg⟩ (by omega)
/-- the newest one is popped -/
theorem OwC.pop (h : OwC N k l own M C S bk out) (hv : v < M) (hM : M ≤ 4) {Z : List Int} {y : Int} (hZ : (C v).Z = Z ++ [y]) {x : Cv} (hz : x.Z = Z) (hb : x.bk = (C v).bk) : OwC N k l (own.set y.toNat 5) M (upS C v x) S bk (out ++ [y]) := by
  have hy : y ∈ (C v).Z := by rw [hZ]; simp
  obtain ⟨h0, h1, h2, h3⟩ := h.zr hv hy
  have hlen := h.ow.len
  have hl : y.toNat < own.length := by omega
  have hnz := (h.nz v hv).1
  rw [hZ] at hnz
  have hnz := List.nodup_append.1 hnz
  have hyz : y ∉ Z := fun q => hnz.2.2 y q y (by simp) rfl
  have hyo : y ∉ out := fun q => by have := (h.or q).2.2; omega
  have hng : ∀ u, u < 4 → ∀ s, pS S u = some s → ¬ inG s.gi y.toNat := fun u hu s hs hg => by
    have hq := ((h.ow.st u hu s hs).ow y.toNat hg).2
    have : u = v := by omega
    subst this
    refine h3 ?_
    obtain ⟨a, b, e⟩ := pO_some hs
    rw [e]
    show y ∈ leftF s.gi
    rw [← nat_of h0, mem_left]
    exact hg
  refine ⟨h.ow.mark2 (by omega) (by omega) hng, fun u hu => ?_, fun u hu z => ?_, fun z => ?_, fun z hz2 => ?_, fun u hu => ?_, ⟨?_, ?_⟩, h.sm⟩
  · by_cases e : u = v
    · subst e; rw [upS_same, hb]; exact h.kb u hu
    · rw [upS_ne _ _ e]; exact h.kb u hu
  · rw [own_set _ _ _ _ hl]
    by_cases e : u = v
    · subst e
      rw [upS_same, hz]
      by_cases e2 : z = y.toNat
      · rw [if_pos e2]
        have : (z : Int) = y := by omega
        rw [this]
        exact ⟨fun q => absurd q hyz, fun q => by have := q.2.1; omega⟩
      · rw [if_neg e2, ← h.z u hu z, hZ]
        have : (z : Int) ≠ y := by omega
        simp [this]
    · rw [upS_ne _ _ e, h.z u hu z]
      by_cases e2 : z = y.toNat
      · rw [if_pos e2]
        subst e2
        exact ⟨fun q => by have := q.2.1; omega, fun q => by have := q.2.1; omega⟩
      · rw [if_neg e2]
  · rw [own_set _ _ _ _ hl, List.mem_append, h.o z]
    by_cases e2 : z = y.toNat
    · rw [if_pos e2]
      have : (z : Int) = y := by omega
      rw [this]
      exact ⟨fun _ => ⟨by omega, rfl⟩, fun _ => .inr (by simp)⟩
    · rw [if_neg e2]
      have : (z : Int) ≠ y := by omega
      simp [this]
  · rw [own_set _ _ _ _ hl]
    by_cases e2 : z = y.toNat
    · rw [if_pos e2]; exact .inr (.inl rfl)
    · rw [if_neg e2]; exact h.rg z hz2
  · by_cases e : u = v
    · subst e
      rw [upS_same, hz]
      exact ⟨hnz.1, fun a ha => (h.nz u hu).2 a (by rw [hZ]; simp [ha])⟩
    · rw [upS_ne _ _ e]; exact h.nz u hu
  · exact List.nodup_append.2 ⟨h.no.1, by simp, fun a ha b hb q => by
      have hb' : b = y := by simpa using hb
      subst q; subst hb'; exact hyo ha⟩
  · intro a ha
    rcases List.mem_append.1 ha with q | q
    · exact h.no.2 a q
    · have : a = y := by simpa using q
      omega
/-- one that was handed out is put -/
theorem OwC.put (h : OwC N k l own M C S bk out) (hv : v < M) (hM : M ≤ 4) (hS : S v = none) {X Y : List Int} {y : Int} (ho : out = X ++ y :: Y) {x : Cv} (hz : x.Z = (C v).Z ++ [y]) (hb : x.bk = (C v).bk) : OwC N k l (own.set y.toNat ((v : Int) + 1)) M (upS C v x) S bk (X ++ Y) := by
  have hy : y ∈ out := by rw [ho]; simp
  obtain ⟨h0, h1, h2⟩ := h.or hy
  have hlen := h.ow.len
  have hl : y.toNat < own.length := by omega
  have hno := h.no.1
  rw [ho] at hno
  have hno2 : (y :: (X ++ Y)).Nodup := hno.perm List.perm_middle
  rw [List.nodup_cons] at hno2
  have hyz : ∀ u, u < M → y ∉ (C u).Z := fun u hu q => by have := (h.zr hu q).2.2; omega
  have hlf : lfS (S v) = [] := by unfold lfS; rw [hS]
  have hng : ∀ u, u < 4 → ∀ s, pS S u = some s → ¬ inG s.gi y.toNat := fun u hu s hs hg => by
    have hq := ((h.ow.st u hu s hs).ow y.toNat hg).2
    omega
  refine ⟨h.ow.mark2 (by omega) (by omega) hng, fun u hu => ?_, fun u hu z => ?_, fun z => ?_, fun z hz2 => ?_, fun u hu => ?_, ⟨hno2.2, fun a ha => h.no.2 a (by rw [ho]; rcases List.mem_append.1 ha with q | q <;> simp [q])⟩, h.sm⟩
  · by_cases e : u = v
    · subst e; rw [upS_same, hb]; exact h.kb u hu
    · rw [upS_ne _ _ e]; exact h.kb u hu
  · rw [own_set _ _ _ _ hl]
    by_cases e : u = v
    · subst e
      rw [upS_same, hz, List.mem_append, h.z u hu z, hlf]
      by_cases e2 : z = y.toNat
      · rw [if_pos e2]
        have : (z : Int) = y := by omega
        rw [this]
        exact ⟨fun _ => ⟨by omega, rfl, by simp⟩, fun _ => .inr (by simp)⟩
      · rw [if_neg e2]
        have : (z : Int) ≠ y := by omega
        simp [this]
    · rw [upS_ne _ _ e, h.z u hu z]
      by_cases e2 : z = y.toNat
      · rw [if_pos e2]
        subst e2
        exact ⟨fun q => by have := q.2.1; omega, fun q => by have := q.2.1; omega⟩
      · rw [if_neg e2]
  · rw [own_set _ _ _ _ hl]
    by_cases e2 : z = y.toNat
    · rw [if_pos e2]
      have : (z : Int) = y := by omega
      rw [this]
      exact ⟨fun q => absurd q hno2.1, fun q => by have := q.2; omega⟩
    · rw [if_neg e2, ← h.o z, ho]
      have : (z : Int) ≠ y := by omega
      simp [this]
  · rw [own_set _ _ _ _ hl]
    by_cases e2 : z = y.toNat
    · rw [if_pos e2]; exact .inr (.inr ⟨v, hv, rfl⟩)
    · rw [if_neg e2]; exact h.rg z hz2
  · by_cases e : u = v
    · subst e
      rw [upS_same, hz]
      refine ⟨List.nodup_append.2 ⟨(h.nz u hu).1, by simp, fun a ha b hb q => ?_⟩, fun a ha => ?_⟩
      · have hb' : b = y := by simpa using hb
        subst q; subst hb'; exact hyz u hu ha
      · rcases List.mem_append.1 ha with q | q
        · exact (h.nz u hu).2 a q
        · have : a = y := by simpa using q
          omega
    · rw [upS_ne _ _ e]; exact h.nz u hu
end
end Go.Proofs.Ytmbceafeonjffaa

namespace Go.Proofs.Ytmbceafeonjffaa
open Go.RowKit Go.Deep Plain
set_option linter.unusedVariables false
set_option linter.unusedSimpArgs false
set_option maxRecDepth 100000
/-- what the first i caches have, and what leaves them -/
def ctI (C : Nat → Cv) (S : Nat → Sv) : Nat → List Int
  | 0 => []
  | i + 1 => ctI C S i ++ (C i).Z ++ lfS (S i)
section
variable {N k M v : Nat} {l own out : List Int} {C : Nat → Cv} {S : Nat → Sv} {bk : Nat → Bool}
theorem OwC.ct (h : OwC N k l own M C S bk out) (hM : M ≤ 4) : ∀ i, i ≤ M → (ctI C S i).Nodup ∧ (∀ x ∈ ctI C S i, 0 ≤ x ∧ x < k ∧ ∃ u, u < i ∧ own.getD x.toNat 0 = (u : Int) + 1) ∧ ∀ y u : Nat, u < i → y < k → own.getD y 0 = (u : Int) + 1 → (y : Int) ∈ ctI C S i
  | 0, _ => ⟨List.nodup_nil, by simp [ctI], fun _ _ q => by omega⟩
  | i + 1, hi => by
    obtain ⟨h1, h2, h3⟩ := h.ct hM i (by omega)
    obtain ⟨z1, z2⟩ := h.nz i (by omega)
    obtain ⟨f1, f2⟩ := h.lr (v := i) (by omega) hM
    have hz := fun {x : Int} (hx : x ∈ (C i).Z) => h.zr (v := i) (by omega) hx
    refine ⟨?_, fun x hx => ?_, fun y u hu hy e => ?_⟩
    · show (ctI C S i ++ (C i).Z ++ lfS (S i)).Nodup
      refine List.nodup_append.2 ⟨List.nodup_append.2 ⟨h1, z1, fun a ha b hb q => ?_⟩, f1, fun a ha b hb q => ?_⟩
      · subst q
        obtain ⟨_, _, u, hu, e⟩ := h2 a ha
        have := (hz hb).2.2.1
        omega
      · subst q
        have hb2 := (f2 a hb).2.2
        rcases List.mem_append.1 ha with q | q
        · obtain ⟨_, _, u, hu, e⟩ := h2 a q
          omega
        · exact (hz q).2.2.2 hb
    · rcases List.mem_append.1 (show x ∈ (ctI C S i ++ (C i).Z) ++ lfS (S i) from hx) with q | q
      · rcases List.mem_append.1 q with q | q
        · obtain ⟨a, b, u, hu, e⟩ := h2 x q
          exact ⟨a, b, u, by omega, e⟩
        · obtain ⟨a, b, e, _⟩ := hz q
          exact ⟨a, b, i, by omega, e⟩
      · obtain ⟨a, b, e⟩ := f2 x q
        exact ⟨a, b, i, by omega, e⟩
    · show (y : Int) ∈ (ctI C S i ++ (C i).Z) ++ lfS (S i)
      by_cases q : u < i
      · exact List.mem_append.2 (.inl (List.mem_append.2 (.inl (h3 y u q hy e))))
      · obtain rfl : u = i := by omega
        by_cases b : (y : Int) ∈ lfS (S u)
        · exact List.mem_append.2 (.inr b)
        · exact List.mem_append.2 (.inl (List.mem_append.2 (.inr ((h.z u (by omega) y).2 ⟨hy, e, b⟩))))
/-- all numbers, each once -/
structure AllT (k : Nat) (T : List Int) : Prop where
  nd : T.Nodup
  rg : ∀ x ∈ T, 0 ≤ x ∧ x < (k : Int)
  len : T.length = k
theorem OwC.all (h : OwC N k l own M C S bk out) (hM : M ≤ 4) (hu : ∀ j, U64 (l.getD j 0)) (hk : k ≤ 32 * N) : AllT k (freeL N l ++ out ++ ctI C S M) := by
  rw [free_zz h.ow hu hk]
  obtain ⟨h1, h2, h3⟩ := h.ct hM M (Nat.le_refl _)
  have hm : ∀ x, x ∈ zz own k ↔ ∃ y : Nat, x = y ∧ y < k ∧ own.getD y 0 = 0 := fun x => by
    unfold zz
    rw [List.mem_map]
    refine ⟨fun ⟨y, hy, q⟩ => ?_, fun ⟨y, q, h1, h2⟩ => ⟨y, ?_, q.symm⟩⟩
    · rw [List.mem_filter] at hy
      exact ⟨y, q.symm, by simpa using hy.1, by simpa using hy.2⟩
    · rw [List.mem_filter]
      exact ⟨by simpa using h1, by simpa using h2⟩
  have hzn : (zz own k).Nodup := by
    unfold zz
    refine List.Pairwise.map _ (R := (· ≠ ·)) (fun a b hab => by omega) ?_
    exact (List.nodup_range).filter _
  have hz0 : ∀ x ∈ zz own k, 0 ≤ x ∧ x < k ∧ own.getD x.toNat 0 = 0 := fun x hx => by
    obtain ⟨y, rfl, y1, y2⟩ := (hm x).1 hx
    rw [Int.toNat_natCast]
    exact ⟨by omega, by omega, y2⟩
  have hn : (zz own k ++ out ++ ctI C S M).Nodup := by
    refine List.nodup_append.2 ⟨List.nodup_append.2 ⟨hzn, h.no.1, fun a ha b hb q => ?_⟩, h1, fun a ha b hb q => ?_⟩
    · subst q
      have := (hz0 a ha).2.2; have := (h.or hb).2.2; omega
    · subst q
      obtain ⟨_, _, u, hu, e⟩ := h2 a hb
      rcases List.mem_append.1 ha with q | q
      · have := (hz0 a q).2.2; omega
      · have := (h.or q).2.2; omega
  have hr : ∀ x ∈ zz own k ++ out ++ ctI C S M, 0 ≤ x ∧ x < (k : Int) := fun x hx => by
    rcases List.mem_append.1 hx with q | q
    · rcases List.mem_append.1 q with q | q
      · exact ⟨(hz0 x q).1, (hz0 x q).2.1⟩
      · exact ⟨(h.or q).1, (h.or q).2.1⟩
    · exact ⟨(h2 x q).1, (h2 x q).2.1⟩
  refine ⟨hn, hr, cover_len k _ hn hr fun y hy => ?_⟩
  rcases h.rg y hy with q | q | ⟨u, hu', q⟩
  · exact List.mem_append.2 (.inl (List.mem_append.2 (.inl ((hm _).2 ⟨y, rfl, hy, q⟩))))
  · exact List.mem_append.2 (.inl (List.mem_append.2 (.inr ((h.o y).2 ⟨hy, q⟩))))
  · exact List.mem_append.2 (.inr (h3 y u hu' hy q))
end
/-- what Leaving tells -/
def LvOk (zs : List Int) (w : World) (e : Ending) (w' : World) : Prop := ∃ A n c, e = .returned (.slice A n c) ∧ OwJ w.heap.size w' A n c zs ∧ Below w.heap.size w w'
section
variable {w0 w w' w1 : World} {gp gc gn N k M J v : Nat} {l own out : List Int} {C : Nat → Cv} {o : Nat → Nat} {S : Nat → Sv} {bk : Nat → Bool}
theorem CoM.leaving (h : CoM w0 w gp gc gn N (k : Int) l M J C o S) (hq : OwC N k l own M C S bk out) (hv : v < M) (hM : M ≤ 4) (hj : v < J) (hN : N ≤ 32) :
    Calls Try.prog 37 #[.pointer (some ⟨(C v).ga, 0, none⟩)] w (LvOk (lfS (S v)) w) := by
  have hc := h.ca v hv
  rw [hq.kb v hv] at hc
  rcases hS : S v with _ | ⟨gt, _ | ⟨gs, p⟩⟩
  · rw [hS] at hc
    refine (leaving_none hc).mono ?_
    rintro e w' ⟨rfl, rfl⟩
    exact ⟨none, 0, 0, rfl, OwJ.nil _ _, Below.refl _ _⟩
  · rw [hS] at hc
    refine (leaving_none hc).mono ?_
    rintro e w' ⟨rfl, rfl⟩
    exact ⟨none, 0, 0, rfl, OwJ.nil _ _, Below.refl _ _⟩
  · rw [hS] at hc
    cases hb : bk v
    · rw [hb] at hc
      have hl : lfS (some (gt, some (gs, p))) = [] := by
        show leftF p.gi = []
        rw [((hq.ow.st v (by omega) p (pS_at hS)).ta hb).1, leftF_nil]
      rw [hl]
      refine (leaving_none (show CaS w (C v).ga gp (C v).home (C v).A (C v).n (C v).c (C v).Z none w0.heap.size from hc)).mono ?_
      rintro e w' ⟨rfl, rfl⟩
      exact ⟨none, 0, 0, rfl, OwJ.nil _ _, Below.refl _ _⟩
    · rw [hb] at hc
      have hs := ((h.ss v hj gt _ hS).2.2 gs p rfl).2
      refine (leaving_some (show CaS w (C v).ga gp (C v).home (C v).A (C v).n (C v).c (C v).Z (some gs) w0.heap.size from hc) hs hN).mono ?_
      rintro e w' ⟨A, n, c, rfl, hr, hb2⟩
      exact ⟨A, n, c, rfl, hr.j, hb2⟩
end
/-- many more at a row's end, in a region that draws -/
theorem step_joinJ {w : World} {base n m c2 : Nat} {A A2 : Option Addr} {c : Nat} {zs ys : List Int} {ops : Array Oper} {o : Oper} {a : Act} {K : Act → World → Prop} {Q : Exit → Act → World → Prop} {E : Prop} (hgd : o.guard = none) (sx xx : Operand)
    (ho : o.op = .call { callee := .builtin .append, args := #[sx, xx], argTypes := #[29, 29] })
    (hs : a.eval sx = .slice A n c) (hI : OwJ base w A n c zs) (hx : a.eval xx = .slice A2 m c2) (hJ : RdJ w A2 m c2 ys) (hbase : base ≤ w.heap.size) (hn : n + m ≤ 1000000)
    (h : ∀ A' c' w', OwJ base w' A' (n + m) c' (zs ++ ys) → Keep (ownLs (.slice A n c)) w w' → (∀ g, (Value.slice A' (n + m) c').ownBlock = some g → (Value.slice A n c).ownBlock = some g ∨ w.heap.size ≤ g) → K (a.put o.dst (.slice A' (n + m : Nat) c')) w') :
    if Region.wanted o (yielded ops a.tmps) = true then Oper.wp Try.prog o a w K Q else E := by
  have hw : Region.wanted o (yielded ops a.tmps) = true := by simp [Region.wanted, hgd]
  rw [if_pos hw]
  obtain ⟨i, hi, hz, hsz, hb⟩ := info_parts infoInt
  rcases A2 with _ | ad
  · obtain rfl := hJ.nil rfl
    have hy : ys = [] := by
      rcases Nat.eq_zero_or_pos ys.length with h0 | h0
      · exact List.length_eq_zero_iff.1 h0
      · obtain ⟨_, _, e, _⟩ := hJ.rd h0
        cases e
    subst hy
    obtain rfl : m = 0 := by have := hJ.len; simpa using this.symm
    have hrun := run_append_owned_none (P := Try.prog) (w := w) base 29 o.type 3 i 1 Try.underlying29 hi _ n (iv zs) hI
    unfold Oper.wp
    simp [execOp, ho, resolve, invoke, builtin, hs, hx, hrun, Result.andThen]
    exact h A c w (by simpa using hI) (Keep.refl _ _) (fun g q => .inl q)
  · have hlen := hJ.len
    have hcells : ∀ j u, (iv ys)[j]? = some u → w.cell? (ad.add j) = some u := by
      intro j u hu
      have hj : j < ys.length := by have := (List.getElem?_eq_some_iff.1 hu).1; simpa [iv] using this
      obtain ⟨b, off, e, _, hc⟩ := hJ.rd (by omega)
      injection e with e
      subst e
      rw [addr_add, hc j hj, ← hu]
      simp [iv, hj, List.getD]
    obtain ⟨v', w', hr, how, hg, hnil, hat⟩ := run_append_own_at (P := Try.prog) w base 29 o.type 3 i (.int .i64 0) 1 8 Try.underlying29 hi hz hsz hb rfl (by decide) _ n (iv zs) hI ad m c2 (iv ys) (by simp [iv, hlen]) hcells (by intro u hu; obtain ⟨x, _, rfl⟩ := List.mem_map.1 hu; rfl) (by unfold maxLen; omega) (by omega) hbase
    unfold Oper.wp execOp
    simp only [ho, resolve, invoke, builtin, Sem.run_bind, Sem.run_pure, Result.andThen_ok, List.map_toArray, List.map_cons, List.map_nil, hs, hx, hr]
    have hk : Keep (ownLs (.slice A n c)) w w' := Keep.owns hg
    rw [← iv_app] at how
    have hown : ∀ g, v'.ownBlock = some g → (Value.slice A n c).ownBlock = some g ∨ w.heap.size ≤ g := fun g q => by
      rcases hat with z | z
      · left; rw [← z]; exact q
      · right; rw [z] at q; injection q with q; omega
    rcases how.2 with ⟨e, hn0⟩ | ⟨g', cap, cur, e, _⟩
    · subst e
      have hn : n + m = 0 := by simpa using hn0
      have := h none 0 w' (by rw [hn]; rw [hn] at how; exact how) hk (by rw [hn]; exact hown)
      rw [hn] at this
      exact this
    · subst e
      exact h (some ⟨g', 0, none⟩) cap w' how hk hown
end Go.Proofs.Ytmbceafeonjffaa
