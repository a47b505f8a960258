/-
  Several small texts in one: CbA, CbB. Conditions stand in each theorem.
-/
import Derived.Test.YtmbceafeonjffaaGT
import Derived.Test.YtmbceafeonjffaaGQ
namespace Go.Proofs.Ytmbceafeonjffaa
open Go.RowKit Go.Deep Plain
set_option linter.unusedVariables false
set_option linter.unusedSimpArgs false
set_option maxRecDepth 100000
/-- a Cache -/
structure Cv where
  ga : Nat
  home : Nat
  A : Option Addr
  n : Nat
  c : Nat
  Z : List Int
  bk : Option Nat
def Cv.row (x : Cv) : Value := .slice x.A x.n x.c
/-- a Step that goes on, of a cache; and the pool's -/
abbrev Sv := Option (Nat × Option (Nat × Ps))
def SvW (w : World) (base gc N ga : Nat) (s : Sv) : Prop := ∀ gt o, s = some (gt, o) → base ≤ gt ∧ CsB w gt (some ga) (o.map Prod.fst) ∧ ∀ gs p, o = some (gs, p) → base ≤ gs ∧ StW w gs gc N p
/-- two Steps lie apart -/
def SvN (a b : Sv) : Prop := ∀ gt o gt' o', a = some (gt, o) → b = some (gt', o') → gt ≠ gt' ∧ ∀ gs p gs' p', o = some (gs, p) → o' = some (gs', p') → gs ≠ gs'
structure CoM (w0 w : World) (gp gc gn N : Nat) (size : Int) (l : List Int) (M J : Nat) (C : Nat → Cv) (o : Nat → Nat) (S : Nat → Sv) : Prop where
  po : PoS w gp gc gn N size l
  ca : ∀ v, v < M → CaS w (C v).ga gp (C v).home (C v).A (C v).n (C v).c (C v).Z (C v).bk w0.heap.size
  bs : ∀ v, v < M → ∀ g, (C v).bk = some g → ∃ cs, Blk w g 78 cs
  ss : ∀ j, j < J → SvW w w0.heap.size gc N (C (o j)).ga (S j)
  dg : ∀ u v, u < M → v < M → u ≠ v → (C u).ga ≠ (C v).ga
  dr : ∀ u v, u < M → v < M → u ≠ v → ApR (C u).A (C u).n (C u).c (C v).A (C v).n (C v).c
  ds : ∀ i j, i < J → j < J → i ≠ j → SvN (S i) (S j)
  be : Below w0.heap.size w0 w
  bg : ∀ v, v < M → w0.heap.size ≤ (C v).ga ∧ (C v).home < 100000
  bn : w0.heap.size ≤ gn
  om : ∀ j, j < J → o j < M
section
variable {w0 w w' w1 : World} {gp gc gn N M J v j base : Nat} {size : Int} {l l' : List Int} {C : Nat → Cv} {o : Nat → Nat} {S : Nat → Sv} {bs : List Nat}
theorem SvW.nil (w : World) (base gc N ga : Nat) : SvW w base gc N ga none := fun _ _ e => by cases e
theorem SvW.keep {ga : Nat} {s : Sv} (h : SvW w base gc N ga s) (hk : Keep bs w w') (h1 : ∀ gt o, s = some (gt, o) → gt ∉ bs) (h2 : ∀ gt gs p, s = some (gt, some (gs, p)) → gs ∉ bs) (h3 : ∀ g ∈ bs, NoG w g) : SvW w' base gc N ga s := fun gt o e => by
  obtain ⟨q1, q2, q3⟩ := h gt o e
  exact ⟨q1, hk.blk q2 (h1 gt o e), fun gs p e2 => ⟨(q3 gs p e2).1, (q3 gs p e2).2.keep hk (h2 gt gs p (by rw [e, e2])) h3⟩⟩
theorem SvW.below {ga : Nat} {s : Sv} (h : SvW w base gc N ga s) (hb : Below w.heap.size w w') : SvW w' base gc N ga s := h.keep (Keep.of_below (bs := []) hb) (by simp) (by simp) (by simp)
theorem SvW.lt {ga gt : Nat} {o : Option (Nat × Ps)} {s : Sv} (h : SvW w base gc N ga s) (e : s = some (gt, o)) : gt < w.heap.size ∧ ∀ gs p, o = some (gs, p) → gs < w.heap.size :=
  ⟨(h gt o e).2.1.lt, fun gs p e2 => ((h gt o e).2.2 gs p e2).2.lt⟩
theorem SvN.nil (a : Sv) : SvN none a ∧ SvN a none := ⟨fun _ _ _ _ e => (by cases e), fun _ _ _ _ _ e => (by cases e)⟩
theorem SvN.symm {a b : Sv} (h : SvN a b) : SvN b a := fun gt o gt' o' e e' => ⟨fun q => (h gt' o' gt o e' e).1 q.symm, fun gs p gs' p' q q' z => (h gt' o' gt o e' e).2 gs' p' gs p q' q z.symm⟩
/-- new ones lie apart from old ones -/
theorem SvN.fresh {ga : Nat} {s t : Sv} (h : SvW w base gc N ga s) (hn : ∀ gt o, t = some (gt, o) → w.heap.size ≤ gt ∧ ∀ gs p, o = some (gs, p) → w.heap.size ≤ gs) : SvN s t := fun gt o gt' o' e e' => by
  obtain ⟨q1, q2⟩ := h.lt e
  obtain ⟨q3, q4⟩ := hn gt' o' e'
  exact ⟨by omega, fun gs p gs' p' z z' => by have := q2 gs p z; have := q4 gs' p' z'; omega⟩
theorem CoM.below (h : CoM w0 w gp gc gn N size l M J C o S) (hb : Below w.heap.size w w') : CoM w0 w' gp gc gn N size l M J C o S :=
  ⟨h.po.below hb, fun v hv => (h.ca v hv).below hb, fun v hv g e => by obtain ⟨cs, q⟩ := h.bs v hv g e; exact ⟨cs, q.below hb⟩, fun j hj => (h.ss j hj).below hb, h.dg, h.dr, h.ds, bthen h.be hb, h.bg, h.bn, h.om⟩
/-- what a call may write: what is new, the pool's words, the cache v, its row, a Step -/
def CoT (w : World) (gc gn N : Nat) (x : Cv) (s : Sv) (g : Nat) : Prop := w.heap.size ≤ g ∨ g = gn ∨ g = x.ga ∨ x.row.ownBlock = some g ∨ (∃ o, s = some (g, o)) ∨ ∃ gt p, s = some (gt, some (g, p))
/-- a cache's row, or another row of ints apart from it, isn't written -/
theorem CoM.rowT (h : CoM w0 w gp gc gn N size l M J C o S) (hv : v < M) (hj : j < J) {A : Option Addr} {n c : Nat} {zs : List Int} (hr : OwJ base w A n c zs) (ha : ApR (C v).A (C v).n (C v).c A n c) (hbs : ∀ g ∈ bs, CoT w gc gn N (C v) (S j) g) : ∀ g, (Value.slice A n c).ownBlock = some g → g ∉ bs := fun g hg hm => by
  obtain ⟨_, _, cur, q0⟩ := own_blk hr hg
  have q : Blk w g 3 cur := q0
  rcases hbs g hm with z | z | z | z | ⟨o', z⟩ | ⟨gt, p, z⟩
  · have := q.lt; omega
  · subst z; exact blkT q h.po.cl.nu (by decide) rfl
  · subst z; exact blkT q (h.ca v hv).st (by decide) rfl
  · exact ha g z hg
  · exact blkT q (h.ss j hj g o' z).2.1 (by decide) rfl
  · exact ((h.ss j hj gt _ z).2.2 g p rfl).2.typ q (by decide) rfl
/-- a block of a type that is none of theirs isn't written -/
theorem CoM.typT (h : CoM w0 w gp gc gn N size l M J C o S) (hv : v < M) (hj : j < J) {b : Nat} {t : TypeId} {cs : Array Value} (hb : Blk w b t cs) (h1 : t ≠ 108) (h2 : t ≠ 87) (h3 : t ≠ 3) (h4 : t ≠ 89) (h5 : t ≠ 78) (hbs : ∀ g ∈ bs, CoT w gc gn N (C v) (S j) g) : b ∉ bs := fun hm => by
  rcases hbs b hm with z | z | z | z | ⟨o', z⟩ | ⟨gt, p, z⟩
  · have := hb.lt; omega
  · subst z; exact blkT hb h.po.cl.nu h1 rfl
  · subst z; exact blkT hb (h.ca v hv).st h2 rfl
  · obtain ⟨_, _, cur, q⟩ := own_blk (h.ca v hv).row z
    exact blkT hb (show Blk w b 3 cur from q) h3 rfl
  · exact blkT hb (h.ss j hj b o' z).2.1 h4 rfl
  · exact ((h.ss j hj gt _ z).2.2 b p rfl).2.typ hb h5 rfl
theorem CoM.nogT (h : CoM w0 w gp gc gn N size l M J C o S) (hv : v < M) (hj : j < J) (hbs : ∀ g ∈ bs, CoT w gc gn N (C v) (S j) g) : ∀ g ∈ bs, NoG w g := fun b hm => by
  rcases hbs b hm with z | z | z | z | ⟨o', z⟩ | ⟨gt, p, z⟩
  · exact NoG.new z
  · rw [z]; exact NoG.cl h.po.cl
  · rw [z]; exact NoG.typ (h.ca v hv).st (by decide)
  · obtain ⟨_, _, cur, q⟩ := own_blk (h.ca v hv).row z
    exact NoG.typ (show Blk w b 3 cur from q) (by decide)
  · exact NoG.typ (h.ss j hj b o' z).2.1 (by decide)
  · exact ((h.ss j hj gt _ z).2.2 b p rfl).2.nog
/-- the cache v and the Step j are others now -/
theorem CoM.upd (h : CoM w0 w gp gc gn N size l M J C o S) (hj : j < J) (ho : o j = v) {x : Cv} {t : Sv} (hx : x.ga = (C v).ga) (hp : PoS w' gp gc gn N size l') (hc : CaS w' (C v).ga gp x.home x.A x.n x.c x.Z x.bk w0.heap.size) (hh : x.home < 100000)
    (hk : Keep bs w w') (hbs : ∀ g ∈ bs, CoT w gc gn N (C v) (S j) g) (hown : ∀ g, x.row.ownBlock = some g → (C v).row.ownBlock = some g ∨ w.heap.size ≤ g)
    (hsb : ∀ gt gs p, S j = some (gt, some (gs, p)) → gs ∈ bs → ∃ cs, Blk w' gs 78 cs)
    (hb : ∀ g, x.bk = some g → ∃ cs, Blk w' g 78 cs) (ht : SvW w' w0.heap.size gc N (C v).ga t)
    (htn : ∀ i, i < J → i ≠ j → SvN (S i) t) :
    CoM w0 w' gp gc gn N size l' M J (upS C v x) o (upS S j t) := by
  have hv : v < M := ho ▸ h.om j hj
  have hnog := h.nogT hv hj hbs
  have hcu : ∀ u, u < M → u ≠ v → CaS w' (C u).ga gp (C u).home (C u).A (C u).n (C u).c (C u).Z (C u).bk w0.heap.size := fun u hu hne => by
    refine (h.ca u hu).keep hk (fun hm => ?_) (h.rowT hv hj (h.ca u hu).row (h.dr v u hv hu (Ne.symm hne)) hbs)
    rcases hbs _ hm with z | z | z | z | ⟨o', z⟩ | ⟨gt, p, z⟩
    · have := (h.ca u hu).st.lt; omega
    · exact blkT (h.ca u hu).st h.po.cl.nu (by decide) z
    · exact h.dg u v hu hv hne z
    · obtain ⟨_, _, cur, q⟩ := own_blk (h.ca v hv).row z
      exact blkT (h.ca u hu).st (show Blk w _ 3 cur from q) (by decide) rfl
    · exact blkT (h.ca u hu).st (h.ss j hj _ o' z).2.1 (by decide) rfl
    · exact ((h.ss j hj gt _ z).2.2 _ p rfl).2.typ (h.ca u hu).st (by decide) rfl
  have hss : ∀ i, i < J → i ≠ j → SvW w' w0.heap.size gc N (C (o i)).ga (S i) := fun i hi hne => by
    refine (h.ss i hi).keep hk (fun gt o' e hm => ?_) (fun gt gs p e hm => ?_) hnog
    · have q := (h.ss i hi gt o' e).2.1
      rcases hbs _ hm with z | z | z | z | ⟨o2, z⟩ | ⟨gt2, p, z⟩
      · have := q.lt; omega
      · exact blkT q h.po.cl.nu (by decide) z
      · exact blkT q (h.ca v hv).st (by decide) z
      · obtain ⟨_, _, cur, q2⟩ := own_blk (h.ca v hv).row z
        exact blkT q (show Blk w _ 3 cur from q2) (by decide) rfl
      · exact (h.ds i j hi hj hne gt o' gt o2 e z).1 rfl
      · exact ((h.ss j hj gt2 _ z).2.2 _ p rfl).2.typ q (by decide) rfl
    · have q := ((h.ss i hi gt _ e).2.2 gs p rfl).2
      rcases hbs _ hm with z | z | z | z | ⟨o2, z⟩ | ⟨gt2, p2, z⟩
      · have := q.lt; omega
      · exact q.typ h.po.cl.nu (by decide) z.symm
      · exact q.typ (h.ca v hv).st (by decide) z.symm
      · obtain ⟨_, _, cur, q2⟩ := own_blk (h.ca v hv).row z
        exact q.typ (show Blk w gs 3 cur from q2) (by decide) rfl
      · exact q.typ (h.ss j hj gs o2 z).2.1 (by decide) rfl
      · exact (h.ds i j hi hj hne gt _ gt2 _ e z).2 gs p gs p2 rfl rfl rfl
  have hga : ∀ u, (upS C v x u).ga = (C u).ga := fun u => by
    by_cases e : u = v
    · subst e; rw [upS_same]; exact hx
    · rw [upS_ne _ _ e]
  refine ⟨hp, fun u hu => ?_, fun u hu g e => ?_, fun i hi => ?_, fun u z hu hz hne => ?_, fun u z hu hz hne => ?_, fun i k hi hk' hne => ?_, ?_, fun u hu => ?_, h.bn, h.om⟩
  · rw [hga]
    by_cases e : u = v
    · subst e; rw [upS_same]; exact hc
    · rw [upS_ne _ _ e]; exact hcu u hu e
  · by_cases eu : u = v
    · subst eu; rw [upS_same] at e; exact hb g e
    · rw [upS_ne _ _ eu] at e
      obtain ⟨cs, q⟩ := h.bs u hu g e
      by_cases hm : g ∈ bs
      · rcases hbs _ hm with z | z | z | z | ⟨o2, z⟩ | ⟨gt2, p2, z⟩
        · have := q.lt; omega
        · exact absurd z (blkT q h.po.cl.nu (by decide))
        · exact absurd z (blkT q (h.ca v hv).st (by decide))
        · obtain ⟨_, _, cur, q2⟩ := own_blk (h.ca v hv).row z
          exact absurd rfl (blkT q (show Blk w g 3 cur from q2) (by decide))
        · exact absurd rfl (blkT q (h.ss j hj g o2 z).2.1 (by decide))
        · exact hsb gt2 g p2 z hm
      · exact ⟨cs, hk.blk q hm⟩
  · rw [hga]
    by_cases e : i = j
    · subst e; rw [upS_same, ho]; exact ht
    · rw [upS_ne _ _ e]; exact hss i hi e
  · rw [hga, hga]; exact h.dg u z hu hz hne
  · have key : ∀ y, y < M → y ≠ v → ApR x.A x.n x.c (C y).A (C y).n (C y).c := fun y hy hyv g q1 q2 => by
      rcases hown g q1 with r | r
      · exact h.dr v y hv hy (Ne.symm hyv) g r q2
      · have := (h.ca y hy).row.own_lt g q2; omega
    by_cases e : u = v
    · subst e
      rw [upS_same, upS_ne _ _ (Ne.symm hne)]
      exact key z hz (Ne.symm hne)
    · rw [upS_ne _ _ e]
      by_cases e2 : z = v
      · subst e2; rw [upS_same]; exact (key u hu e).symm
      · rw [upS_ne _ _ e2]; exact h.dr u z hu hz hne
  · by_cases e : i = j
    · subst e
      rw [upS_same, upS_ne _ _ (Ne.symm hne)]
      exact (htn k hk' (Ne.symm hne)).symm
    · rw [upS_ne _ _ e]
      by_cases e2 : k = j
      · subst e2; rw [upS_same]; exact htn i hi e
      · rw [upS_ne _ _ e2]; exact h.ds i k hi hk' hne
  · refine hk.below h.be (Nat.le_refl _) fun g hm => ?_
    have hz := h.be.size
    rcases hbs _ hm with z | z | z | z | ⟨o2, z⟩ | ⟨gt2, p2, z⟩
    · omega
    · have := h.bn; omega
    · have := (h.bg v hv).1; omega
    · exact (own_blk (h.ca v hv).row z).1
    · exact (h.ss j hj g o2 z).1
    · exact ((h.ss j hj gt2 _ z).2.2 g p2 rfl).1
  · rw [hga]
    refine ⟨(h.bg u hu).1, ?_⟩
    by_cases e : u = v
    · subst e; rw [upS_same]; exact hh
    · rw [upS_ne _ _ e]; exact (h.bg u hu).2
end
end Go.Proofs.Ytmbceafeonjffaa

namespace Go.Proofs.Ytmbceafeonjffaa
open Go.RowKit Go.Deep Plain
set_option linter.unusedVariables false
set_option linter.unusedSimpArgs false
set_option maxRecDepth 100000
/-- what a call left of all else -/
def CoK (w w' : World) (gc gn N : Nat) (x x' : Cv) (s : Sv) : Prop := ∃ bs, Keep bs w w' ∧ (∀ g ∈ bs, CoT w gc gn N x s g) ∧ ∀ g, x'.row.ownBlock = some g → x.row.ownBlock = some g ∨ w.heap.size ≤ g
theorem upS_self {α : Type} (f : Nat → α) (v : Nat) : upS f v (f v) = f := by
  funext u
  unfold upS
  split
  · rename_i e; rw [e]
  · rfl
section
variable {w0 w w' w1 : World} {gp gc gn N M J v j base : Nat} {size : Int} {l l' : List Int} {C : Nat → Cv} {o : Nat → Nat} {S : Nat → Sv} {bs : List Nat} {e : Ending} {x : Cv}
/-- another row of ints, apart from all caches' -/
structure CoR (w : World) (base M : Nat) (C : Nat → Cv) (A : Option Addr) (n c : Nat) (zs : List Int) : Prop where
  row : OwJ base w A n c zs
  ap : ∀ u, u < M → ApR (C u).A (C u).n (C u).c A n c
theorem CoR.below {A : Option Addr} {n c : Nat} {zs : List Int} (h : CoR w base M C A n c zs) (hb : Below w.heap.size w w') : CoR w' base M C A n c zs := ⟨h.row.below hb, h.ap⟩
theorem CoM.rowK (h : CoM w0 w gp gc gn N size l M J C o S) (hj : j < J) (ho : o j = v) (hk : CoK w w' gc gn N (C v) x (S j)) {A : Option Addr} {n c : Nat} {zs : List Int} (hr : CoR w base M C A n c zs) : CoR w' base M (upS C v x) A n c zs := by
  have hv : v < M := ho ▸ h.om j hj
  obtain ⟨bs, k, q, r⟩ := hk
  refine ⟨hr.row.keep k (h.rowT hv hj hr.row (hr.ap v hv) q), fun u hu g a b => ?_⟩
  by_cases e : u = v
  · subst e
    rw [upS_same] at a
    rcases r g a with z | z
    · exact hr.ap u hu g z b
    · have := hr.row.own_lt g b; omega
  · rw [upS_ne _ _ e] at a
    exact hr.ap u hu g a b
theorem CoM.blkK (h : CoM w0 w gp gc gn N size l M J C o S) (hj : j < J) (ho : o j = v) (hk : CoK w w' gc gn N (C v) x (S j)) {b : Nat} {t : TypeId} {cs : Array Value} (hb : Blk w b t cs) (h1 : t ≠ 108) (h2 : t ≠ 87) (h3 : t ≠ 3) (h4 : t ≠ 89) (h5 : t ≠ 78) : Blk w' b t cs := by
  have hv : v < M := ho ▸ h.om j hj
  obtain ⟨bs, k, q, r⟩ := hk
  exact k.blk hb (h.typT hv hj hb h1 h2 h3 h4 h5 q)
/-- what a Do of a Step with one of the pool's leaves -/
def CoD (w0 : World) (gp gc gn N : Nat) (size : Int) (l : List Int) (M J : Nat) (C : Nat → Cv) (o : Nat → Nat) (S : Nat → Sv) (v j gt gs : Nat) (p : Ps) (w : World) (e : Ending) (w' : World) : Prop :=
  (e = .returned (.bool false) ∧ (stpP N l p).2.nx ≠ 0 ∧ CoM w0 w' gp gc gn N size (stpP N l p).1 M J C o (upS S j (some (gt, some (gs, (stpP N l p).2)))) ∧ CoK w w' gc gn N (C v) (C v) (S j)) ∨
  (e = .returned (.bool true) ∧ (stpP N l p).2.nx = 0 ∧ ∃ A' n' c', CoM w0 w' gp gc gn N size (stpP N l p).1 M J (upS C v ⟨(C v).ga, homF (C v).home (stpP N l p).2, A', n', c', (C v).Z ++ gotF (stpP N l p).2, if (C v).bk = some gs then none else (C v).bk⟩) o (upS S j none) ∧
    CoK w w' gc gn N (C v) ⟨(C v).ga, homF (C v).home (stpP N l p).2, A', n', c', (C v).Z ++ gotF (stpP N l p).2, if (C v).bk = some gs then none else (C v).bk⟩ (S j) ∧ CsB w' gt none (some gs) ∧ StW w' gs gc N (stpP N l p).2)
theorem CoM.doS {g0 gt gs : Nat} {p : Ps} (h : CoM w0 w gp gc gn N size l M J C o S) (hj : j < J) (ho : o j = v) (hS : S j = some (gt, some (gs, p))) (hN : N ≤ 32) (hn : (C v).n ≤ 100000) :
    Calls Try.prog 25 #[.pointer (some ⟨g0, 0, none⟩), .pointer (some ⟨gt, 0, none⟩)] w (CoD w0 gp gc gn N size l M J C o S v j gt gs p w) := by
  have hv : v < M := ho ▸ h.om j hj
  obtain ⟨s1, s2, s3⟩ := h.ss j hj gt _ hS
  rw [ho] at s2
  obtain ⟨s4, s5⟩ := s3 gs p rfl
  have hz := h.be.size
  have hwd := s5.ok.wd
  refine (cDo_some (g0 := g0) (h.ca v hv) h.po s2 s5 hN hn hz (h.bs v hv)).mono ?_
  rintro e w' (⟨rfl, hx, hc, hp, ht, hs, hk⟩ | ⟨rfl, hx, hp, ht, hs, hk, A', c', n', hc, hown⟩)
  · have hbs : ∀ g ∈ [gn, gs], CoT w gc gn N (C v) (S j) g := fun g hg => by
      simp only [List.mem_cons, List.not_mem_nil, or_false] at hg
      rcases hg with q | q
      · exact .inr (.inl q)
      · rw [q]; exact .inr (.inr (.inr (.inr (.inr ⟨gt, p, hS⟩))))
    refine .inl ⟨rfl, hx, ?_, [gn, gs], hk, hbs, fun g q => .inl q⟩
    have := h.upd (v := v) (x := C v) (t := some (gt, some (gs, (stpP N l p).2))) hj ho rfl hp hc (h.bg v hv).2 hk hbs (fun g q => .inl q) (fun gt' gs' p' e _ => by rw [hS] at e; cases e; exact hs.isb)
      (bk_keep h.po (h.bs v hv) hs hk) (fun gt' o' e => by cases e; exact ⟨s1, ht, fun gs' p' e2 => by cases e2; exact ⟨s4, hs⟩⟩)
      (fun i hi hne gt' o' gt2 o2 e1 e2 => by
        cases e2
        obtain ⟨q1, q2⟩ := h.ds i j hi hj hne gt' o' gt _ e1 hS
        exact ⟨q1, fun a b c d z1 z2 => by cases z2; exact q2 a b gs p z1 rfl⟩)
    rwa [upS_self] at this
  · have hbs : ∀ g ∈ (gt :: gn :: gs :: (C v).ga :: ownLs (.slice (C v).A (C v).n (C v).c)), CoT w gc gn N (C v) (S j) g := fun g hg => by
      simp only [List.mem_cons] at hg
      rcases hg with q | q | q | q | q
      · rw [q]; exact .inr (.inr (.inr (.inr (.inl ⟨_, hS⟩))))
      · exact .inr (.inl q)
      · rw [q]; exact .inr (.inr (.inr (.inr (.inr ⟨gt, p, hS⟩))))
      · exact .inr (.inr (.inl q))
      · exact .inr (.inr (.inr (.inl (mem_ownLs q))))
    refine .inr ⟨rfl, hx, A', n', c', ?_, ⟨_, hk, hbs, hown⟩, ht, hs⟩
    refine h.upd (v := v) (t := none) hj ho rfl hp hc (homF_lt (h.bg v hv).2 (by have := hs.ok.wd; omega)) hk hbs hown (fun gt' gs' p' e _ => by rw [hS] at e; cases e; exact hs.isb) (fun g e => ?_) (SvW.nil _ _ _ _ _) (fun i _ _ => (SvN.nil _).2)
    by_cases q : (C v).bk = some gs
    · simp only [q, if_true] at e; cases e
    · simp only [q, if_false] at e
      obtain ⟨cs, hcs⟩ := h.bs v hv g e
      by_cases eg : g = gs
      · subst eg; exact hs.isb
      · refine ⟨cs, hk.blk hcs fun hm => ?_⟩
        simp only [List.mem_cons] at hm
        rcases hm with z | z | z | z | z
        · exact blkT hcs s2 (by decide) z
        · exact blkT hcs h.po.cl.nu (by decide) z
        · exact eg z
        · exact blkT hcs (h.ca v hv).st (by decide) z
        · obtain ⟨_, _, cur, q2⟩ := own_blk (h.ca v hv).row (mem_ownLs z)
          exact blkT hcs (show Blk w g 3 cur from q2) (by decide) rfl
/-- a Do of a Step that has none of the pool's -/
def CoE (w0 : World) (gp gc gn N : Nat) (size : Int) (l : List Int) (M J : Nat) (C : Nat → Cv) (o : Nat → Nat) (S : Nat → Sv) (v j gt : Nat) (w : World) (e : Ending) (w' : World) : Prop :=
  e = .returned (.bool true) ∧ CoM w0 w' gp gc gn N size l M J C o (upS S j none) ∧ CoK w w' gc gn N (C v) (C v) (S j) ∧ CsB w' gt none none
theorem CoM.doR {g0 gt : Nat} (h : CoM w0 w gp gc gn N size l M J C o S) (hj : j < J) (ho : o j = v) (hS : S j = some (gt, none)) :
    Calls Try.prog 25 #[.pointer (some ⟨g0, 0, none⟩), .pointer (some ⟨gt, 0, none⟩)] w (CoE w0 gp gc gn N size l M J C o S v j gt w) := by
  have hv : v < M := ho ▸ h.om j hj
  obtain ⟨s1, s2, s3⟩ := h.ss j hj gt _ hS
  rw [ho] at s2
  refine (cDo_rest (g0 := g0) (h.ca v hv) s2).mono ?_
  rintro e w' ⟨rfl, ht, hk⟩
  have hbs : ∀ g ∈ [gt], CoT w gc gn N (C v) (S j) g := fun g hg => by
    rw [List.mem_singleton] at hg
    rw [hg]; exact .inr (.inr (.inr (.inr (.inl ⟨_, hS⟩))))
  refine ⟨rfl, ?_, ⟨_, hk, hbs, fun g q => .inl q⟩, ht⟩
  have := h.upd (v := v) (x := C v) (t := none) hj ho rfl (h.po.oneK s2 (by decide) (by decide) (by decide) hk) ((h.ca v hv).keep hk (by simpa using fun q => blkT s2 (h.ca v hv).st (by decide) q.symm) ((h.ca v hv).row.off s2 (by decide))) (h.bg v hv).2 hk hbs (fun g q => .inl q)
    (fun gt' gs' p' e _ => by rw [hS] at e; cases e) (fun g e => by obtain ⟨cs, q⟩ := h.bs v hv g e; exact ⟨cs, hk.blk q (by simpa using fun z => blkT q s2 (by decide) z)⟩) (SvW.nil _ _ _ _ _) (fun i _ _ => (SvN.nil _).2)
  rwa [upS_self] at this
/-- a new Step -/
theorem CoM.reg {gt : Nat} {q : Option (Nat × Ps)} (h : CoM w0 w gp gc gn N size l M J C o S) (hj : j < J) (ho : o j = v) (hb : Below w.heap.size w w') (h1 : w.heap.size ≤ gt) (h2 : CsB w' gt (some (C v).ga) (q.map Prod.fst)) (h3 : ∀ gs p, q = some (gs, p) → w.heap.size ≤ gs ∧ StW w' gs gc N p) :
    CoM w0 w' gp gc gn N size l M J C o (upS S j (some (gt, q))) := by
  have hv : v < M := ho ▸ h.om j hj
  have hz := h.be.size
  have := h.upd (v := v) (x := C v) (t := some (gt, q)) (bs := []) hj ho rfl (h.po.below hb) ((h.ca v hv).below hb) (h.bg v hv).2 (Keep.of_below hb) (by simp) (fun g q => .inl q) (fun _ _ _ _ q => by simp at q)
    (fun g e => by obtain ⟨cs, q⟩ := h.bs v hv g e; exact ⟨cs, q.below hb⟩) (fun gt' o' e => by cases e; exact ⟨by omega, h2, fun gs p e => ⟨by have := (h3 gs p e).1; omega, (h3 gs p e).2⟩⟩)
    (fun i hi _ => SvN.fresh (h.ss i hi) (fun gt' o' e => by cases e; exact ⟨h1, fun gs p e => (h3 gs p e).1⟩))
  rwa [upS_self] at this
/-- what a Fill begins -/
def tkP (wd N : Nat) : Ps := ⟨1, wd, N, 8, List.replicate 32 0, 0, false, false, []⟩
def CoF (w0 : World) (gp gc gn N : Nat) (size : Int) (l : List Int) (M J : Nat) (C : Nat → Cv) (o : Nat → Nat) (S : Nat → Sv) (v j : Nat) (w : World) (e : Ending) (w' : World) : Prop :=
  ∃ gt q, e = .returned (.pointer (some ⟨gt, 0, none⟩)) ∧ CoM w0 w' gp gc gn N size l M J C o (upS S j (some (gt, q))) ∧ Below w.heap.size w w' ∧ (q = none ∨ ((C v).bk = none ∧ (C v).n = 0 ∧ ∃ gs wd, wd < N ∧ q = some (gs, tkP wd N)))
theorem CoM.fill (h : CoM w0 w gp gc gn N size l M J C o S) (hj : j < J) (ho : o j = v) (h1 : 1 ≤ N) (hN : N ≤ 32) :
    Calls Try.prog 26 #[.pointer (some ⟨(C v).ga, 0, none⟩)] w (CoF w0 gp gc gn N size l M J C o S v j w) := by
  have hv : v < M := ho ▸ h.om j hj
  by_cases hm : (C v).bk ≠ none ∨ 0 < (C v).n
  · refine (fill_rest (h.ca v hv) hm).mono ?_
    rintro e w' ⟨gt, rfl, hgt, ht, hb⟩
    exact ⟨gt, none, rfl, h.reg hj ho hb hgt ht (fun _ _ e => by cases e), hb, .inl rfl⟩
  · have e1 : (C v).bk = none := Classical.byContradiction fun q => hm (.inl q)
    have e2 : (C v).n = 0 := Nat.eq_zero_of_not_pos fun q => hm (.inr q)
    have hc := h.ca v hv
    rw [e1, e2] at hc
    refine (fill_take hc h.po h1 hN (h.bg v hv).2).mono ?_
    rintro e w' ⟨gt, gs, wd, rfl, hgt, hgs, hwd, _, ht, hs, hb⟩
    exact ⟨gt, some (gs, tkP wd N), rfl, h.reg hj ho hb hgt ht (fun gs' p e => by cases e; exact ⟨hgs, hs⟩), hb, .inr ⟨e1, e2, gs, wd, hwd, rfl⟩⟩
/-- what a Put, or a Flush, leaves: its Step noted, or not -/
def CoV (w0 : World) (gp gc gn N : Nat) (size : Int) (l : List Int) (M J : Nat) (C : Nat → Cv) (o : Nat → Nat) (S : Nat → Sv) (v j : Nat) (Z2 : List Int) (m : Nat) (w : World) (e : Ending) (w' : World) : Prop :=
  ∃ gt q x, e = .returned (.pointer (some ⟨gt, 0, none⟩)) ∧ (∀ t, (t = none ∨ t = some (gt, q)) → CoM w0 w' gp gc gn N size l M J (upS C v x) o (upS S j t)) ∧ CoK w w' gc gn N (C v) x (S j) ∧ x.ga = (C v).ga ∧
    ((((C v).bk ≠ none ∨ m = 0) ∧ q = none ∧ x.Z = Z2 ∧ x.bk = (C v).bk) ∨ ((C v).bk = none ∧ 0 < m ∧ x.Z = Z2.drop m ∧ ∃ gb, x.bk = some gb ∧ q = some (gb, backP (giftsF size (Z2.take m)))))
theorem CoM.mv {Z2 : List Int} {m : Nat} (h : CoM w0 w gp gc gn N size l M J C o S) (hj : j < J) (ho : o j = v) (hm : MvOk (C v).ga gp gc gn N (C v).home size (C v).A (C v).n (C v).c Z2 m (C v).bk w0.heap.size w e w') :
    CoV w0 gp gc gn N size l M J C o S v j Z2 m w e w' := by
  have hv : v < M := ho ▸ h.om j hj
  have hc0 := h.ca v hv
  have hz := h.be.size
  obtain ⟨gt, A', c', n', rfl, hgt, hk, hown, hcase⟩ := hm
  have hbs : ∀ g ∈ ((C v).ga :: ownLs (.slice (C v).A (C v).n (C v).c)), CoT w gc gn N (C v) (S j) g := fun g hg => by
    rcases List.mem_cons.1 hg with q | q
    · exact .inr (.inr (.inl q))
    · exact .inr (.inr (.inr (.inl (mem_ownLs q))))
  have hno : ∀ {gs : Nat} {cs : Array Value}, Blk w gs 78 cs → gs ∉ ((C v).ga :: ownLs (.slice (C v).A (C v).n (C v).c)) := fun hb => hc0.nin hb (by decide) (by decide)
  have hp := h.po.keepC hc0 hk
  rcases hcase with ⟨hz0, ht, hc⟩ | ⟨hb0, hm0, gb, hgb, ht, hc, hs⟩
  · refine ⟨gt, none, ⟨(C v).ga, (C v).home, A', n', c', Z2, (C v).bk⟩, rfl, fun t e => ?_, ⟨_, hk, hbs, hown⟩, rfl, .inl ⟨hz0, rfl, rfl, rfl⟩⟩
    refine h.upd (v := v) hj ho rfl hp hc (h.bg v hv).2 hk hbs hown (fun gt' gs' p' e' q => ?_) (fun g e' => ?_) (fun gt' o' e' => ?_) (fun i hi _ => ?_)
    · exact absurd q (hno ((h.ss j hj gt' _ e').2.2 gs' p' rfl).2.isb.choose_spec)
    · obtain ⟨cs, q⟩ := h.bs v hv g e'; exact ⟨cs, hk.blk q (hno q)⟩
    · rcases e with e | e
      · rw [e] at e'; cases e'
      · rw [e] at e'; cases e'; exact ⟨by omega, ht, fun _ _ z => by cases z⟩
    · rcases e with e | e
      · rw [e]; exact (SvN.nil _).2
      · rw [e]; exact SvN.fresh (h.ss i hi) (fun gt' o' e' => by cases e'; exact ⟨hgt, fun _ _ z => by cases z⟩)
  · refine ⟨gt, some (gb, backP (giftsF size (Z2.take m))), ⟨(C v).ga, (C v).home, A', n', c', Z2.drop m, some gb⟩, rfl, fun t e => ?_, ⟨_, hk, hbs, hown⟩, rfl, .inr ⟨hb0, hm0, rfl, gb, rfl, rfl⟩⟩
    refine h.upd (v := v) hj ho rfl hp hc (h.bg v hv).2 hk hbs hown (fun gt' gs' p' e' q => ?_) (fun g e' => ?_) (fun gt' o' e' => ?_) (fun i hi _ => ?_)
    · exact absurd q (hno ((h.ss j hj gt' _ e').2.2 gs' p' rfl).2.isb.choose_spec)
    · cases e'; exact hs.isb
    · rcases e with e | e
      · rw [e] at e'; cases e'
      · rw [e] at e'; cases e'; exact ⟨by omega, ht, fun gs p z => by cases z; exact ⟨by omega, hs⟩⟩
    · rcases e with e | e
      · rw [e]; exact (SvN.nil _).2
      · rw [e]; exact SvN.fresh (h.ss i hi) (fun gt' o' e' => by cases e'; exact ⟨hgt, fun gs p z => by cases z; exact hgb⟩)
theorem CoM.put (h : CoM w0 w gp gc gn N size l M J C o S) (hj : j < J) (ho : o j = v) (h1 : 1 ≤ N) (hN : N ≤ 32) (hs : size ≤ 32 * (N : Int)) (hn : (C v).n ≤ 10000) (x : Int) :
    Calls Try.prog 28 #[.pointer (some ⟨(C v).ga, 0, none⟩), .int .i64 x] w (CoV w0 gp gc gn N size l M J C o S v j ((C v).Z ++ [x]) (if (C v).n + 1 ≤ 16 then 0 else 8) w) :=
  (put_any (h.ca v (ho ▸ h.om j hj)) h.po h1 hN hs hn h.be.size x).mono fun _ _ q => h.mv hj ho q
theorem CoM.flush (h : CoM w0 w gp gc gn N size l M J C o S) (hj : j < J) (ho : o j = v) (h1 : 1 ≤ N) (hN : N ≤ 32) (hs : size ≤ 32 * (N : Int)) (hn : (C v).n ≤ 10000) :
    Calls Try.prog 29 #[.pointer (some ⟨(C v).ga, 0, none⟩)] w (CoV w0 gp gc gn N size l M J C o S v j (C v).Z (C v).n w) :=
  (flush_any (h.ca v (ho ▸ h.om j hj)) h.po h1 hN hs hn).mono fun _ _ q => h.mv hj ho q
/-- what a Pop leaves -/
def CoP (w0 : World) (gp gc gn N : Nat) (size : Int) (l : List Int) (M J : Nat) (C : Nat → Cv) (o : Nat → Nat) (S : Nat → Sv) (v : Nat) (w : World) (e : Ending) (w' : World) : Prop :=
  e = .returned (.tuple #[.int .i64 (topF (C v).Z), .bool (decide (0 < (C v).n))]) ∧ CoM w0 w' gp gc gn N size l M J (upS C v { C v with n := (C v).n - 1, Z := (C v).Z.take ((C v).n - 1) }) o S ∧ CoK w w' gc gn N (C v) { C v with n := (C v).n - 1, Z := (C v).Z.take ((C v).n - 1) } none
theorem CoM.pop (h : CoM w0 w gp gc gn N size l M J C o S) (hj : j < J) (ho : o j = v) (hn : (C v).n ≤ 100000) :
    Calls Try.prog 27 #[.pointer (some ⟨(C v).ga, 0, none⟩)] w (CoP w0 gp gc gn N size l M J C o S v w) := by
  have hv : v < M := ho ▸ h.om j hj
  have hc0 := h.ca v hv
  refine (pop_any hc0 hn).mono ?_
  rintro e w' ⟨rfl, hc, hk⟩
  have hbs : ∀ (s : Sv), ∀ g ∈ [(C v).ga], CoT w gc gn N (C v) s g := fun s g hg => by
    rw [List.mem_singleton] at hg; exact .inr (.inr (.inl hg))
  have hown : ∀ g, (Cv.row { C v with n := (C v).n - 1, Z := (C v).Z.take ((C v).n - 1) }).ownBlock = some g → (C v).row.ownBlock = some g ∨ w.heap.size ≤ g := fun g q => .inl (by
    unfold Cv.row at q ⊢; rw [own_any_len ((C v).n - 1) (C v).c (C v).A (C v).n (C v).c] at q; exact q)
  refine ⟨rfl, ?_, [(C v).ga], hk, hbs none, hown⟩
  have hno : ∀ {gs : Nat} {cs : Array Value}, Blk w gs 78 cs → gs ∉ [(C v).ga] := fun hb => by simpa using blkT hb hc0.st (by decide)
  have := h.upd (v := v) (x := { C v with n := (C v).n - 1, Z := (C v).Z.take ((C v).n - 1) }) (t := S j) hj ho rfl (h.po.oneK hc0.st (by decide) (by decide) (by decide) hk) hc (h.bg v hv).2 hk (hbs _) hown
    (fun gt' gs' p' e' q => absurd q (hno ((h.ss j hj gt' _ e').2.2 gs' p' rfl).2.isb.choose_spec))
    (fun g e' => by obtain ⟨cs, q⟩ := h.bs v hv g e'; exact ⟨cs, hk.blk q (hno q)⟩)
    (by rw [← ho]; rw [ho]; exact (ho ▸ h.ss j hj : SvW w w0.heap.size gc N (C v).ga (S j)).keep hk (fun gt o' e' => by simpa using blkT ((h.ss j hj gt o' e').2.1) hc0.st (by decide)) (fun gt gs p e' => by simpa using fun q => ((h.ss j hj gt _ e').2.2 gs p rfl).2.typ hc0.st (by decide) q.symm) (fun g hg => by rw [List.mem_singleton] at hg; rw [hg]; exact NoG.typ hc0.st (by decide)))
    (fun i hi hne => h.ds i j hi hj hne)
  rwa [upS_self] at this
end
end Go.Proofs.Ytmbceafeonjffaa
