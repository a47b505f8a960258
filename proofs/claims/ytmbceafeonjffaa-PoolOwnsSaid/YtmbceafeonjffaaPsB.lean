/-
  PoolOwns: what lies there, and what each of its steps makes of that. Conditions stand in each theorem.
-/
import Derived.Test.YtmbceafeonjffaaPsA
namespace Go.Proofs.Ytmbceafeonjffaa
open Go.RowKit Go.Deep Plain
set_option linter.unusedVariables false
set_option linter.unusedSimpArgs false
set_option maxRecDepth 100000
def sarr (st : Nat → Sg) : Array Value := #[sgV (st 0), sgV (st 1), sgV (st 2), sgV (st 3)]
def barr (bk : Nat → Bool) : Array Value := #[.bool (bk 0), .bool (bk 1), .bool (bk 2), .bool (bk 3)]
theorem lt4 {v : Nat} (h : v < 4) : v = 0 ∨ v = 1 ∨ v = 2 ∨ v = 3 := by omega
theorem sarr_at (st : Nat → Sg) {v : Nat} (h : v < 4) : (sarr st)[v]? = some (sgV (st v)) := by rcases lt4 h with rfl | rfl | rfl | rfl <;> rfl
theorem barr_at (bk : Nat → Bool) {v : Nat} (h : v < 4) : (barr bk)[v]? = some (.bool (bk v)) := by rcases lt4 h with rfl | rfl | rfl | rfl <;> rfl
theorem sarr_set (st : Nat → Sg) {v : Nat} (h : v < 4) (o : Sg) : (sarr st).setIfInBounds v (sgV o) = sarr (upS st v o) := by rcases lt4 h with rfl | rfl | rfl | rfl <;> simp [sarr, upS]
theorem barr_set (bk : Nat → Bool) {v : Nat} (h : v < 4) (b : Bool) : (barr bk).setIfInBounds v (.bool b) = barr (upS bk v b) := by rcases lt4 h with rfl | rfl | rfl | rfl <;> simp [barr, upS]
theorem sarr_same (st : Nat → Sg) {v : Nat} (h : v < 4) (o : Sg) (he : sgV o = sgV (st v)) : sarr (upS st v o) = sarr st := by
  rw [← sarr_set st h, he]
  rcases lt4 h with rfl | rfl | rfl | rfl <;> simp [sarr]
structure OwV (w0 w : World) (gp gc gn N : Nat) (k : Nat) (g8 g9 gb : Nat) (l own : List Int) (st : Nat → Sg) (bk : Nat → Bool) : Prop where
  po : PoS w gp gc gn N (k : Int) l
  ow : Row .i64 3 w g8 own
  sb : Blk w g9 31 (sarr st)
  bb : Blk w gb 32 (barr bk)
  ss : ∀ v, v < 4 → SgW w w0.heap.size gc N (st v)
  ap : ∀ u v, u < 4 → v < 4 → u ≠ v → SgN (st u) (st v)
  be : Below w0.heap.size w0 w
  b8 : w0.heap.size ≤ g8
  b9 : w0.heap.size ≤ g9
  bg : w0.heap.size ≤ gb
section
variable {w0 w w' : World} {gp gc gn N k g8 g9 gb v : Nat} {l own : List Int} {st : Nat → Sg} {bk : Nat → Bool}
theorem OwV.below (h : OwV w0 w gp gc gn N k g8 g9 gb l own st bk) (hb : Below w.heap.size w w') : OwV w0 w' gp gc gn N k g8 g9 gb l own st bk :=
  ⟨h.po.below hb, h.ow.below hb, h.sb.below hb, h.bb.below hb, fun u hu => (h.ss u hu).below hb, h.ap, below2 hb h.be, h.b8, h.b9, h.bg⟩
theorem OwV.cs (h : OwV w0 w gp gc gn N k g8 g9 gb l own st bk) (hv : v < 4) : w.cell? ⟨g9, v, none⟩ = some (sgV (st v)) := by rw [h.sb.cell, sarr_at st hv]
theorem OwV.cb (h : OwV w0 w gp gc gn N k g8 g9 gb l own st bk) (hv : v < 4) : w.cell? ⟨gb, v, none⟩ = some (.bool (bk v)) := by rw [h.bb.cell, barr_at bk hv]
/-- a block that none of it lies in is written -/
theorem OwV.kept (h : OwV w0 w gp gc gn N k g8 g9 gb l own st bk) {g : Nat} {t : TypeId} {cs : Array Value} (hg : Blk w g t cs) (hn : NoG w g) (h1 : t ≠ 73) (h2 : t ≠ 104) (h3 : t ≠ 108) (h4 : t ≠ 78) (hk : Keep [g] w w') (hb : w0.heap.size ≤ g) :
    PoS w' gp gc gn N (k : Int) l ∧ (∀ v, v < 4 → SgW w' w0.heap.size gc N (st v)) ∧ Below w0.heap.size w0 w' :=
  ⟨h.po.keep hk (by simpa using fun e => blkT hg h.po.ps h1 e.symm) (by simpa using fun e => blkT hg h.po.cl.st h2 e.symm) (by simpa using fun e => blkT hg h.po.cl.nu h3 e.symm),
   fun u hu => (h.ss u hu).keep hk (fun a b e => by simpa using fun q => (h.ss u hu a b e).1.typ hg h4 q.symm) (fun a ha => by rw [List.mem_singleton] at ha; rw [ha]; exact hn),
   hk.below h.be (Nat.le_refl _) (fun x hx => by rw [List.mem_singleton] at hx; omega)⟩
theorem NoG.ptrs {g : Nat} (h : Blk w g 31 (sarr st)) : NoG w g := fun o u v e _ => by
  rw [h.cell] at e
  rcases Nat.lt_or_ge o 4 with ho | ho
  · rw [sarr_at st ho] at e; cases e
  · rw [Array.getElem?_eq_none (by simpa [sarr] using ho)] at e; cases e
theorem NoG.bools {g : Nat} (h : Blk w g 32 (barr bk)) : NoG w g := fun o u v e _ => by
  rw [h.cell] at e
  rcases Nat.lt_or_ge o 4 with ho | ho
  · rw [barr_at bk ho] at e; cases e
  · rw [Array.getElem?_eq_none (by simpa [barr] using ho)] at e; cases e
/-- a Step is put in its worker's place -/
theorem OwV.setS (h : OwV w0 w gp gc gn N k g8 g9 gb l own st bk) (hv : v < 4) (o : Sg) (ho : SgW w w0.heap.size gc N o) (ha : ∀ u, u < 4 → u ≠ v → SgN o (st u)) : OwV w0 (w.setCell ⟨g9, v, none⟩ (sgV o)) gp gc gn N k g8 g9 gb l own (upS st v o) bk := by
  have hk := (Keep.refl [g9] w).setCell (p := ⟨g9, v, none⟩) (.inl (by simp)) (sgV o)
  obtain ⟨q1, q2, q3⟩ := h.kept h.sb (NoG.ptrs h.sb) (by decide) (by decide) (by decide) (by decide) hk h.b9
  have q4 := (h.sb).set v (sgV o)
  rw [sarr_set st hv] at q4
  refine ⟨q1, h.ow.ne (p := ⟨g9, v, none⟩) (blkT h.sb h.ow (by decide)) _, q4, h.bb.ne (p := ⟨g9, v, none⟩) (blkT h.sb h.bb (by decide)) _, fun u hu => ?_, fun u x hu hx hne => ?_, q3, h.b8, h.b9, h.bg⟩
  · by_cases e : u = v
    · rw [e, upS_same]
      exact ho.keep hk (fun a b e => by simpa using fun q => (ho a b e).1.typ h.sb (by decide) q.symm) (fun a ha => by rw [List.mem_singleton] at ha; rw [ha]; exact NoG.ptrs h.sb)
    · rw [upS_ne _ _ e]; exact q2 u hu
  · by_cases e : u = v
    · subst e
      rw [upS_same, upS_ne _ _ (Ne.symm hne)]
      exact ha x hx (Ne.symm hne)
    · rw [upS_ne _ _ e]
      by_cases e2 : x = v
      · subst e2
        rw [upS_same]
        exact fun a b c d e3 e4 q => ha u hu e c d a b e4 e3 q.symm
      · rw [upS_ne _ _ e2]; exact h.ap u x hu hx hne
theorem OwV.setB (h : OwV w0 w gp gc gn N k g8 g9 gb l own st bk) (hv : v < 4) (b : Bool) : OwV w0 (w.setCell ⟨gb, v, none⟩ (.bool b)) gp gc gn N k g8 g9 gb l own st (upS bk v b) := by
  have hk := (Keep.refl [gb] w).setCell (p := ⟨gb, v, none⟩) (.inl (by simp)) (.bool b)
  obtain ⟨q1, q2, q3⟩ := h.kept h.bb (NoG.bools h.bb) (by decide) (by decide) (by decide) (by decide) hk h.bg
  have q4 := (h.bb).set v (.bool b)
  rw [barr_set bk hv] at q4
  exact ⟨q1, h.ow.ne (p := ⟨gb, v, none⟩) (blkT h.bb h.ow (by decide)) _, h.sb.ne (p := ⟨gb, v, none⟩) (blkT h.bb h.sb (by decide)) _, q4, q2, h.ap, q3, h.b8, h.b9, h.bg⟩
theorem OwV.setO (h : OwV w0 w gp gc gn N k g8 g9 gb l own st bk) (y : Nat) (x : Int) : OwV w0 (w.setCell ⟨g8, y, none⟩ (.int .i64 x)) gp gc gn N k g8 g9 gb l (own.set y x) st bk := by
  have hk := (Keep.refl [g8] w).setCell (p := ⟨g8, y, none⟩) (.inl (by simp)) (.int .i64 x)
  obtain ⟨q1, q2, q3⟩ := h.kept h.ow (NoG.row h.ow) (by decide) (by decide) (by decide) (by decide) hk h.b8
  exact ⟨q1, h.ow.set y x, h.sb.ne (p := ⟨g8, y, none⟩) (blkT h.ow h.sb (by decide)) _, h.bb.ne (p := ⟨g8, y, none⟩) (blkT h.ow h.bb (by decide)) _, q2, h.ap, q3, h.b8, h.b9, h.bg⟩
theorem OwV.doS (h : OwV w0 w gp gc gn N k g8 g9 gb l own st bk) (hv : v < 4) {g : Nat} {s s2 : Ps} {l2 : List Int} (hs : st v = some (g, s)) (hp : PoS w' gp gc gn N (k : Int) l2) (h2 : StW w' g gc N s2) (hk : Keep [gn, g] w w') (hgn : w0.heap.size ≤ gn) : OwV w0 w' gp gc gn N k g8 g9 gb l2 own (upS st v (some (g, s2))) bk := by
  obtain ⟨hu, hg⟩ := h.ss v hv g s hs
  have hn : ∀ {b : Nat} {t : TypeId} {cs : Array Value}, Blk w b t cs → t ≠ 108 → t ≠ 78 → b ∉ [gn, g] := fun hb z1 z2 => by
    have y1 := blkT hb h.po.cl.nu z1
    have y2 := hu.typ hb z2
    simp
    exact ⟨y1, y2⟩
  have he : sgV (some (g, s2)) = sgV (st v) := by rw [hs]; rfl
  refine ⟨hp, hk.row h.ow (hn h.ow (by decide) (by decide)), ?_, hk.blk h.bb (hn h.bb (by decide) (by decide)), fun u hu' => ?_, fun u x hu' hx hne => ?_, hk.below h.be (Nat.le_refl _) (fun x hx => by simp at hx; omega), h.b8, h.b9, h.bg⟩
  · rw [sarr_same st hv _ he]
    exact hk.blk h.sb (hn h.sb (by decide) (by decide))
  · by_cases e : u = v
    · rw [e, upS_same]; exact SgW.one h2 hg
    · rw [upS_ne _ _ e]
      refine (h.ss u hu').keep hk (fun a b e3 => ?_) (fun a ha => ?_)
      · have y1 := (h.ss u hu' a b e3).1.typ h.po.cl.nu (by decide)
        have y2 := h.ap u v hu' hv e a b g s e3 hs
        simp
        exact ⟨fun q => y1 q.symm, y2⟩
      · rcases List.mem_cons.1 ha with z | z
        · rw [z]; exact NoG.cl h.po.cl
        · rw [List.mem_singleton] at z; rw [z]; exact hu.nog
  · by_cases e : u = v
    · subst e
      rw [upS_same, upS_ne _ _ (Ne.symm hne)]
      exact fun a b c d e3 e4 => by cases e3; exact h.ap u x hu' hx hne g s c d hs e4
    · rw [upS_ne _ _ e]
      by_cases e2 : x = v
      · subst e2
        rw [upS_same]
        exact fun a b c d e3 e4 => by cases e4; exact h.ap u x hu' hx hne a b g s e3 hs
      · rw [upS_ne _ _ e2]; exact h.ap u x hu' hx hne
theorem OwI.keepB {base n c : Nat} {A : Option Addr} {zs : List Int} {bs : List Nat} (h : OwI base w A n c zs) (hk : Keep bs w w') (hb : ∀ g ∈ bs, g < base) : OwI base w' A n c zs :=
  ⟨own_keep h.row hk (fun g hg hm => by have := (own_blk h.row hg).1; have := hb g hm; omega), h.emp⟩
theorem left_len {w : World} {gs gc n : Nat} {s : Ps} (h : StW w gs gc n s) : (leftF s.gi).length ≤ 32000 := by
  obtain ⟨⟨gv, _, hg⟩, _⟩ := h
  obtain ⟨A, m, c, _, h1, h2, h3, _⟩ := hg
  have := leftI_len s.gi s.gi.length
  unfold leftI at this
  rw [List.take_length] at this
  unfold leftF
  rw [srt_len]
  omega
/-- the Steps alone -/
def stP (st : Nat → Sg) : Nat → Option Ps := fun v => (st v).map Prod.snd
theorem stP_up (st : Nat → Sg) (v : Nat) (o : Sg) : stP (upS st v o) = upS (stP st) v (o.map Prod.snd) := by
  funext u
  unfold stP upS
  split <;> rfl
theorem upS_twice {α : Type} (f : Nat → α) (v : Nat) (x y : α) : upS (upS f v x) v y = upS f v y := by
  funext u
  unfold upS
  split <;> rfl
end
/-- what holds of PoolOwns' slots at its loop's head -/
def OwR (w0 : World) (gp gc gn N k g8 g9 gb len : Nat) (s4 s11 : Value) (wr : World) : Prop :=
  ∃ l own st bk, ∃ i : Nat, s4 = .bool false ∧ s11 = .int .i64 i ∧ i ≤ len ∧ i ≤ 200 ∧ OwV w0 wr gp gc gn N k g8 g9 gb l own st bk ∧ OwP N k l own (stP st) bk
end Go.Proofs.Ytmbceafeonjffaa
