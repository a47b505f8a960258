/-
  CacheOwns: its arrays; caches made one behind the other. Conditions stand in each theorem.
-/
import Derived.Test.YtmbceafeonjffaaCbE
import Derived.Test.YtmbceafeonjffaaGQ
namespace Go.Proofs.Ytmbceafeonjffaa
open Go.RowKit Go.Deep Plain
set_option linter.unusedVariables false
set_option linter.unusedSimpArgs false
set_option maxRecDepth 100000
theorem lt3 {v : Nat} (h : v < 3) : v = 0 ∨ v = 1 ∨ v = 2 := by omega
def gaO (i v : Nat) (C : Nat → Cv) : Value := if v < i then .pointer (some ⟨(C v).ga, 0, none⟩) else .pointer none
def glA (i : Nat) (C : Nat → Cv) : Array Value := #[gaO i 0 C, gaO i 1 C, gaO i 2 C]
def sgV' (s : Sv) : Value := ptP (s.map Prod.fst)
def sgA (S : Nat → Sv) : Array Value := #[sgV' (S 0), sgV' (S 1), sgV' (S 2)]
theorem glA_all (C : Nat → Cv) : glA 3 C = gaA C := rfl
theorem gaA_at (C : Nat → Cv) {v : Nat} (h : v < 3) : (gaA C)[v]? = some (.pointer (some ⟨(C v).ga, 0, none⟩)) := by rcases lt3 h with rfl | rfl | rfl <;> rfl
theorem sgA_at (S : Nat → Sv) {v : Nat} (h : v < 3) : (sgA S)[v]? = some (sgV' (S v)) := by rcases lt3 h with rfl | rfl | rfl <;> rfl
theorem sgA_set (S : Nat → Sv) {v : Nat} (h : v < 3) (t : Sv) : (sgA S).setIfInBounds v (sgV' t) = sgA (upS S v t) := by rcases lt3 h with rfl | rfl | rfl <;> simp [sgA, upS]
theorem sgA_same (S : Nat → Sv) {v : Nat} (h : v < 3) (t : Sv) (he : sgV' t = sgV' (S v)) : sgA (upS S v t) = sgA S := by
  rw [← sgA_set S h, he]
  rcases lt3 h with rfl | rfl | rfl <;> simp [sgA]
theorem gaA_same (C : Nat → Cv) (v : Nat) (x : Cv) (h : x.ga = (C v).ga) : gaA (upS C v x) = gaA C := by
  have : ∀ u, (upS C v x u).ga = (C u).ga := fun u => by
    by_cases e : u = v
    · subst e; rw [upS_same]; exact h
    · rw [upS_ne _ _ e]
  unfold gaA
  rw [this, this, this]
theorem glA_set (C : Nat → Cv) {i : Nat} (h : i < 3) (x : Cv) : (glA i C).setIfInBounds i (.pointer (some ⟨x.ga, 0, none⟩)) = glA (i + 1) (upS C i x) := by
  rcases lt3 h with rfl | rfl | rfl <;> simp [glA, gaO, upS]
section
variable {w0 w w' : World} {gp gc gn N M J : Nat} {size : Int} {l : List Int} {C : Nat → Cv} {o : Nat → Nat} {S : Nat → Sv}
theorem CoM.start (hp : PoS w gp gc gn N size l) (hb : Below w0.heap.size w0 w) (hn : w0.heap.size ≤ gn) : CoM w0 w gp gc gn N size l 0 0 C o S :=
  ⟨hp, fun _ h => by omega, fun _ h => by omega, fun _ h => by omega, fun _ _ h => by omega, fun _ _ h => by omega, fun _ _ h => by omega, hb, fun _ h => by omega, hn, fun _ h => by omega⟩
/-- one cache more -/
theorem CoM.add (h : CoM w0 w gp gc gn N size l M 0 C o S) {ga K : Nat} (hb : Below w.heap.size w w') (h1 : w.heap.size ≤ ga) (hc : ∀ base, CaS w' ga gp K none 0 0 [] none base) (hK : K < 100000) :
    CoM w0 w' gp gc gn N size l (M + 1) 0 (upS C M ⟨ga, K, none, 0, 0, [], none⟩) o S := by
  have h2 := h.below hb
  have hz := h.be.size
  refine ⟨h2.po, fun v hv => ?_, fun v hv g e => ?_, fun _ h => by omega, fun u v hu hv hne => ?_, fun u v hu hv hne g a b => ?_, fun _ _ h => by omega, h2.be, fun v hv => ?_, h.bn, fun _ h => by omega⟩
  · by_cases e : v = M
    · subst e; rw [upS_same]; exact hc _
    · rw [upS_ne _ _ e]; exact h2.ca v (by omega)
  · by_cases e2 : v = M
    · subst e2; rw [upS_same] at e; cases e
    · rw [upS_ne _ _ e2] at e; exact h2.bs v (by omega) g e
  · have key : ∀ x, x < M → (C x).ga ≠ ga := fun x hx => by have := (h.ca x hx).st.lt; omega
    by_cases e : u = M
    · subst e
      rw [upS_same, upS_ne _ _ (Ne.symm hne)]
      exact (key v (by omega)).symm
    · rw [upS_ne _ _ e]
      by_cases e2 : v = M
      · subst e2; rw [upS_same]; exact key u (by omega)
      · rw [upS_ne _ _ e2]; exact h.dg u v (by omega) (by omega) hne
  · by_cases e : u = M
    · subst e; rw [upS_same] at a; cases a
    · rw [upS_ne _ _ e] at a
      by_cases e2 : v = M
      · subst e2; rw [upS_same] at b; cases b
      · rw [upS_ne _ _ e2] at b; exact h.dr u v (by omega) (by omega) hne g a b
  · by_cases e : v = M
    · subst e; rw [upS_same]; exact ⟨by show w0.heap.size ≤ ga; omega, hK⟩
    · rw [upS_ne _ _ e]; exact h.bg v (by omega)
/-- no Steps yet -/
theorem CoM.steps (h : CoM w0 w gp gc gn N size l M 0 C o S) (J : Nat) (o' : Nat → Nat) (ho : ∀ j, j < J → o' j < M) : CoM w0 w gp gc gn N size l M J C o' (fun _ => none) :=
  ⟨h.po, h.ca, h.bs, fun _ _ => SvW.nil _ _ _ _ _, h.dg, h.dr, fun _ _ _ _ _ => (SvN.nil _).1, h.be, h.bg, h.bn, ho⟩
/-- a block of another type is written -/
theorem CoM.one (h : CoM w0 w gp gc gn N size l M J C o S) {b : Nat} {t : TypeId} {cs : Array Value} (hb : Blk w b t cs) (h1 : t ≠ 108) (h2 : t ≠ 87) (h3 : t ≠ 3) (h4 : t ≠ 89) (h5 : t ≠ 78) (h6 : t ≠ 73) (h7 : t ≠ 104) (h8 : t ≠ 81) (hbb : w0.heap.size ≤ b) (hk : Keep [b] w w') : CoM w0 w' gp gc gn N size l M J C o S := by
  refine ⟨h.po.oneK hb h6 h7 h1 hk, fun v hv => (h.ca v hv).keep hk (by simpa using fun q => blkT hb (h.ca v hv).st h2 q.symm) ((h.ca v hv).row.off hb h3), fun v hv g e => ?_, fun j hj => (h.ss j hj).keep hk (fun gt o' e => by simpa using fun q => blkT hb ((h.ss j hj gt o' e).2.1) h4 q.symm) (fun gt gs p e => by simpa using fun q => ((h.ss j hj gt _ e).2.2 gs p rfl).2.typ hb h5 q.symm) (fun g hg => by rw [List.mem_singleton] at hg; rw [hg]; exact NoG.typ hb h8), h.dg, h.dr, h.ds, hk.below h.be (Nat.le_refl _) (fun x hx => by rw [List.mem_singleton] at hx; omega), h.bg, h.bn, h.om⟩
  obtain ⟨cs', q⟩ := h.bs v hv g e
  exact ⟨cs', hk.blk q (by simpa using fun z => blkT hb q h5 z.symm)⟩
end
/-- what lies there at CacheOwns' loop's head -/
structure OwnV (w0 w : World) (gp gc gn N k gl g9 : Nat) (l own : List Int) (C : Nat → Cv) (S : Nat → Sv) (bk : Nat → Bool) (A : Option Addr) (n c : Nat) (out : List Int) : Prop where
  co : CoM w0 w gp gc gn N (k : Int) l 3 3 C id S
  ow : OwC N k l own 3 C S bk out
  ro : CoR w w0.heap.size 3 C A n c out
  bl : Blk w gl 48 (gaA C)
  b9 : Blk w g9 50 (sgA S)
  hl : w0.heap.size ≤ gl
  h9 : w0.heap.size ≤ g9
section
variable {w0 w w' : World} {gp gc gn N k gl g9 v n c : Nat} {l l' own own' : List Int} {C : Nat → Cv} {S : Nat → Sv} {bk bk' : Nat → Bool} {A : Option Addr} {out : List Int} {x : Cv} {t : Sv}
theorem OwnV.below (h : OwnV w0 w gp gc gn N k gl g9 l own C S bk A n c out) (hb : Below w.heap.size w w') : OwnV w0 w' gp gc gn N k gl g9 l own C S bk A n c out :=
  ⟨h.co.below hb, h.ow, h.ro.below hb, h.bl.below hb, h.b9.below hb, h.hl, h.h9⟩
/-- a call on the cache v: its Step keeps its place -/
theorem OwnV.call (h : OwnV w0 w gp gc gn N k gl g9 l own C S bk A n c out) (hv : v < 3) (hc : CoM w0 w' gp gc gn N (k : Int) l' 3 3 (upS C v x) id (upS S v t)) (hk : CoK w w' gc gn N (C v) x (S v)) (hx : x.ga = (C v).ga) (ho : OwC N k l' own' 3 (upS C v x) (upS S v t) bk' out) :
    CoM w0 w' gp gc gn N (k : Int) l' 3 3 (upS C v x) id (upS S v t) ∧ OwC N k l' own' 3 (upS C v x) (upS S v t) bk' out ∧ CoR w' w0.heap.size 3 (upS C v x) A n c out ∧ Blk w' gl 48 (gaA (upS C v x)) ∧ Blk w' g9 50 (sgA S) := by
  rw [gaA_same C v x hx]
  exact ⟨hc, ho, h.co.rowK hv rfl hk h.ro, h.co.blkK hv rfl hk h.bl (by decide) (by decide) (by decide) (by decide) (by decide), h.co.blkK hv rfl hk h.b9 (by decide) (by decide) (by decide) (by decide) (by decide)⟩
/-- its Step is laid in its place -/
theorem own_lay (hc : CoM w0 w gp gc gn N (k : Int) l 3 3 C id (upS S v t)) (ho : OwC N k l own 3 C (upS S v t) bk out) (hr : CoR w w0.heap.size 3 C A n c out) (hl : Blk w gl 48 (gaA C)) (h9 : Blk w g9 50 (sgA S)) (hv : v < 3) (b1 : w0.heap.size ≤ gl) (b2 : w0.heap.size ≤ g9) :
    OwnV w0 (w.setCell ⟨g9, v, none⟩ (sgV' t)) gp gc gn N k gl g9 l own C (upS S v t) bk A n c out := by
  have hk := (Keep.refl [g9] w).setCell (p := ⟨g9, v, none⟩) (.inl (by simp)) (sgV' t)
  have q := h9.set v (sgV' t)
  rw [sgA_set S hv] at q
  exact ⟨hc.one h9 (by decide) (by decide) (by decide) (by decide) (by decide) (by decide) (by decide) (by decide) b2 hk, ho, ⟨hr.row.keep hk (hr.row.off h9 (by decide)), hr.ap⟩, hk.blk hl (by simpa using blkT hl h9 (by decide)), q, b1, b2⟩
/-- its Step stands in its place -/
theorem own_stay (hc : CoM w0 w gp gc gn N (k : Int) l 3 3 C id (upS S v t)) (ho : OwC N k l own 3 C (upS S v t) bk out) (hr : CoR w w0.heap.size 3 C A n c out) (hl : Blk w gl 48 (gaA C)) (h9 : Blk w g9 50 (sgA S)) (hv : v < 3) (he : sgV' t = sgV' (S v)) (b1 : w0.heap.size ≤ gl) (b2 : w0.heap.size ≤ g9) :
    OwnV w0 w gp gc gn N k gl g9 l own C (upS S v t) bk A n c out :=
  ⟨hc, ho, hr, hl, by rw [sgA_same S hv t he]; exact h9, b1, b2⟩
end
end Go.Proofs.Ytmbceafeonjffaa
