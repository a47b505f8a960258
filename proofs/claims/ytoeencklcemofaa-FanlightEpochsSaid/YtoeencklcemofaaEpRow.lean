/-
  Package epoch: Steps and what was given up, in rows: what they are whatever is done. Conditions stand in each theorem.
-/
import Derived.Test.YtoeencklcemofaaEpTake
namespace Go.Proofs.Ytoeencklcemofaa
open Go.RowKit Go.Deep Plain
set_option linter.unusedVariables false
set_option maxRecDepth 100000

def upE {α : Type} (f : Nat → α) (i : Nat) (x : α) (j : Nat) : α := if j = i then x else f j
theorem upE_same {α : Type} (f : Nat → α) (i : Nat) (x : α) : upE f i x i = x := if_pos rfl
theorem upE_ne {α : Type} (f : Nat → α) {i j : Nat} (x : α) (h : j ≠ i) : upE f i x j = f j := if_neg h

/-- a Step -/
structure Sv where
  nx : Nat
  ep : Int
  ce : Nat
  won : Bool
def StV (w : World) (gs gc : Nat) (s : Sv) : Prop := St w gs gc s.nx s.ep s.ce s.won
def stp (n : Nat) (l : List Int) (s : Sv) : List Int × Sv := ((stepF n l s.nx s.ep s.ce s.won).1, ⟨(stepF n l s.nx s.ep s.ce s.won).2.1, (stepF n l s.nx s.ep s.ce s.won).2.2.1, (stepF n l s.nx s.ep s.ce s.won).2.2.2.1, (stepF n l s.nx s.ep s.ce s.won).2.2.2.2⟩)
def SvOk (n : Nat) (s : Sv) : Prop := s.nx ≤ 6 ∧ (1 ≤ s.nx ∧ s.nx ≤ 5 → s.ce < n + 1)

theorem stp_any {w : World} {ge gc gn gg n gs : Nat} {l : List Int} {s : Sv} (h : EpB w ge gc gn gg n l) (hs : StV w gs gc s) (ho : SvOk n s) (n1 : ge ≠ gs) (n2 : gc ≠ gs) (n3 : gn ≠ gs) :
    Calls Try.prog 51 #[.pointer (some ⟨ge, 0, none⟩), .pointer (some ⟨gs, 0, none⟩)] w fun e w' => e = .returned (.bool ((stp n l s).2.nx == 0)) ∧ EpB w' ge gc gn gg n (stp n l s).1 ∧ StV w' gs gc (stp n l s).2 ∧ Keep [gn, gs] w w' := by
  by_cases h0 : s.nx = 0
  · obtain ⟨nx, ep, ce, won⟩ := s
    simp only at h0
    subst h0
    refine (do0 (w := w) (ge := ge) hs).mono ?_
    rintro e w' ⟨rfl, rfl⟩
    exact ⟨rfl, h, hs, Keep.refl _ _⟩
  · exact do_any s.nx h hs n1 n2 n3 ⟨by omega, ho.1⟩ (fun hc => ho.2 (by omega))
theorem stp_ok {n : Nat} {l : List Int} {s : Sv} (h : SvOk n s) : SvOk n (stp n l s).2 := by
  obtain ⟨nx, ep, ce, won⟩ := s
  obtain ⟨h1, h2⟩ := h
  simp only at h1 h2
  have key : nx = 0 ∨ nx = 1 ∨ nx = 2 ∨ nx = 3 ∨ nx = 4 ∨ nx = 5 ∨ nx = 6 := by omega
  unfold SvOk stp stepF
  rcases key with rfl | rfl | rfl | rfl | rfl | rfl | rfl <;> simp only <;> repeat' split
  all_goals first | omega | (simp only; omega)
theorem stp_len (n : Nat) (l : List Int) (s : Sv) : (stp n l s).1.length = l.length := by
  unfold stp stepF
  simp only
  split <;> repeat' split
  all_goals simp

/-- blocks of unlike types are apart -/
theorem blk_types {w : World} {b c : Nat} {t u : TypeId} {cs ds : Array Value} (h : Blk w b t cs) (h' : Blk w c u ds) (hne : t ≠ u) : b ≠ c := by
  rintro rfl
  unfold Blk at h h'
  rw [h] at h'
  injection h' with h'
  injection h' with _ h'
  exact hne h'
theorem own_not {w : World} {base : Nat} {e : TypeId} {size : Nat} {v : Value} {n : Nat} {xs : List Value} {b : Nat} {t : TypeId} {cs : Array Value} (h : w.ownsRow base e size v n xs) (hb : Blk w b t cs) (hne : t ≠ e) : v.ownBlock ≠ some b := by
  intro hg
  obtain ⟨_, _, cur, hq⟩ := own_blk h hg
  exact blk_types hb (show Blk w b e cur from hq) hne rfl
theorem ownL_not {w : World} {base : Nat} {e : TypeId} {size : Nat} {v : Value} {n : Nat} {xs : List Value} {b : Nat} {t : TypeId} {cs : Array Value} (h : w.ownsRow base e size v n xs) (hb : Blk w b t cs) (hne : t ≠ e) : b ∉ ownL v := by
  intro hx
  unfold ownL at hx
  split at hx
  · rename_i g hg
    obtain rfl : b = g := by simpa using hx
    exact own_not h hb hne hg
  · simp at hx
theorem ownL_mem {v : Value} {g : Nat} : g ∈ ownL v ↔ v.ownBlock = some g := by
  unfold ownL
  split
  · rename_i b hb
    rw [hb]; simp; exact eq_comm
  · rename_i hb
    rw [hb]; simp

/-- a row of Steps, or of none: which block each has, and what it is -/
structure Sts (w : World) (gl gc n : Nat) (P : Nat → Option Nat) (S : Nat → Sv) : Prop where
  bl : ∃ cs, Blk w gl 83 cs
  cell : ∀ i, i < n → w.cell? ⟨gl, i, none⟩ = some (.pointer ((P i).map fun g => ⟨g, 0, none⟩))
  st : ∀ i g, i < n → P i = some g → StV w g gc (S i)
  inj : ∀ i j g, i < n → j < n → P i = some g → P j = some g → i = j
section
variable {w w' : World} {gl gc n : Nat} {P : Nat → Option Nat} {S : Nat → Sv}
theorem Sts.free (h : Sts w gl gc n P S) (i : Nat) : w.frozen? ⟨gl, i, none⟩ = false := by obtain ⟨cs, hb⟩ := h.bl; exact hb.frozen i
theorem Sts.lt (h : Sts w gl gc n P S) : gl < w.heap.size := by obtain ⟨cs, hb⟩ := h.bl; exact hb.lt
theorem StV.lt {gs : Nat} {s : Sv} (h : StV w gs gc s) : gs < w.heap.size := Blk.lt h
theorem StV.keep {gs : Nat} {s : Sv} {bs : List Nat} (h : StV w gs gc s) (hk : Keep bs w w') (hg : gs ∉ bs) : StV w' gs gc s := hk.blk h hg
theorem Sts.ne (h : Sts w gl gc n P S) (i g : Nat) (hi : i < n) (hp : P i = some g) : g ≠ gl := by
  obtain ⟨cs, hb⟩ := h.bl
  exact blk_types (h.st i g hi hp) hb (by decide)
theorem Sts.keep {bs : List Nat} (h : Sts w gl gc n P S) (hk : Keep bs w w') (h1 : gl ∉ bs) (h2 : ∀ i g, i < n → P i = some g → g ∉ bs) : Sts w' gl gc n P S := by
  obtain ⟨cs, hb⟩ := h.bl
  exact ⟨⟨cs, hk.blk hb h1⟩, fun i hi => (hk.cell (p := ⟨gl, i, none⟩) h.lt h1).trans (h.cell i hi), fun i g hi hp => (h.st i g hi hp).keep hk (h2 i g hi hp), h.inj⟩
theorem Sts.below (h : Sts w gl gc n P S) (hb : Below w.heap.size w w') : Sts w' gl gc n P S := h.keep (Keep.of_below (bs := []) hb) (by simp) (by simp)
theorem Sts.drewN (h : Sts w gl gc n P S) (q : Nat) : Sts (w.drewN q) gl gc n P S := ⟨h.bl, h.cell, h.st, h.inj⟩
/-- one Step has gone on -/
theorem Sts.one (h : Sts w gl gc n P S) {i g gn : Nat} (hi : i < n) (hp : P i = some g) {s : Sv} (hk : Keep [gn, g] w w') (hs : StV w' g gc s) (h1 : gl ≠ gn) (h2 : ∀ j b, j < n → P j = some b → b ≠ gn) : Sts w' gl gc n P (upE S i s) := by
  obtain ⟨cs, hb⟩ := h.bl
  have hgl : gl ∉ [gn, g] := by simp; exact ⟨h1, Ne.symm (h.ne i g hi hp)⟩
  refine ⟨⟨cs, hk.blk hb hgl⟩, fun j hj => (hk.cell (p := ⟨gl, j, none⟩) h.lt hgl).trans (h.cell j hj), fun j b hj hpj => ?_, h.inj⟩
  by_cases e : j = i
  · subst e
    rw [upE_same]
    obtain rfl : b = g := by rw [hp] at hpj; injection hpj with e; exact e.symm
    exact hs
  · rw [upE_ne _ _ e]
    refine (h.st j b hj hpj).keep hk ?_
    simp only [List.mem_cons, List.not_mem_nil, or_false, not_or]
    exact ⟨h2 j b hj hpj, fun e' => e (h.inj j i b hj hi hpj (e' ▸ hp))⟩
/-- another Step, or none, in one's place -/
theorem Sts.put (h : Sts w gl gc n P S) {i : Nat} (hi : i < n) (o : Option Nat) (s : Sv) (hs : ∀ g, o = some g → StV w g gc s ∧ ∀ j, j < n → P j ≠ some g) : Sts (w.setCell ⟨gl, i, none⟩ (.pointer (o.map fun g => ⟨g, 0, none⟩))) gl gc n (upE P i o) (upE S i s) := by
  obtain ⟨cs, hb⟩ := h.bl
  refine ⟨⟨_, hb.set i _⟩, fun j hj => ?_, fun j b hj hpj => ?_, fun j k g hj hk hpj hpk => ?_⟩
  · by_cases e : j = i
    · subst e; rw [upE_same]; exact World.cell?_setCell_same _ _ _ (h.cell j hj)
    · rw [upE_ne _ _ e, World.cell?_setCell_other _ _ _ _ (by simp <;> omega)]; exact h.cell j hj
  · by_cases e : j = i
    · subst e
      rw [upE_same] at hpj ⊢
      have hv := (hs b hpj).1
      exact Blk.ne (p := ⟨gl, j, none⟩) hv (Ne.symm (blk_types hv hb (by decide))) _
    · rw [upE_ne _ _ e] at hpj ⊢
      exact Blk.ne (p := ⟨gl, i, none⟩) (h.st j b hj hpj) (Ne.symm (h.ne j b hj hpj)) _
  · by_cases e : j = i
    · by_cases e' : k = i
      · omega
      · subst e
        rw [upE_same] at hpj
        rw [upE_ne _ _ e'] at hpk
        exact absurd hpk ((hs g hpj).2 k hk)
    · by_cases e' : k = i
      · subst e'
        rw [upE_same] at hpk
        rw [upE_ne _ _ e] at hpj
        exact absurd hpj ((hs g hpk).2 j hj)
      · rw [upE_ne _ _ e] at hpj
        rw [upE_ne _ _ e'] at hpk
        exact h.inj j k g hj hk hpj hpk
end

theorem infoSp : (Try.prog.info? 83).map (fun i => (i.zero, i.size, i.bytes)) = some (some (.pointer none), 1, 8) := by kernel_rfl
theorem run_mkS (n : Nat) (hn : n ≤ 64) (w : World) : (Instr.makeSlice 82 (.int .i64 n) (.int .i64 n)).run Try.prog w = .ok (.slice (some ⟨w.heap.size, 0, none⟩) n n) (w.alloc (.cells (List.replicate n (Value.pointer none)).toArray 83)) := by
  obtain ⟨i, hi, hz, hs, hb⟩ := info_parts infoSp
  have h := run_make (P := Try.prog) w 82 83 i _ Try.underlying82 hi hz .i64 .i64 n n (by omega) (by omega) (by rw [hb]; omega) (by omega)
  have e1 : madeCells (Value.pointer none).cells (n * 1) = (List.replicate n (Value.pointer none)).toArray := by
    apply Array.ext'
    rw [show (Value.pointer none).cells = #[Value.pointer none] from rfl, toList_madeCells_one, Nat.mul_one]
  rw [hs, Int.toNat_natCast, e1] at h
  exact h
theorem Sts.made (gc n : Nat) (w : World) (s : Sv) : Sts (w.alloc (.cells (List.replicate n (Value.pointer none)).toArray 83)) w.heap.size gc n (fun _ => none) (fun _ => s) := by
  have hb := Blk.new w 83 (List.replicate n (Value.pointer none)).toArray
  refine ⟨⟨_, hb⟩, fun i hi => ?_, (by simp), (by simp)⟩
  rw [hb.cell]
  simp [hi]

/-- what each worker gave up: rows of one's own, apart from one another -/
structure Gv (w : World) (base gg n : Nat) (V : Nat → Option Addr × Nat) (G : Nat → List (Int × Int)) : Prop where
  hb : base ≤ gg
  bl : ∃ cs, Blk w gg 140 cs
  cell : ∀ i, i < n → w.cell? ⟨gg, i, none⟩ = some (.slice (V i).1 (G i).length (V i).2)
  own : ∀ i, i < n → w.ownsRow base 142 2 (.slice (V i).1 (G i).length (V i).2) (G i).length (giC (G i))
  ap : ∀ i j g, i < n → j < n → (V i).1.map (·.block) = some g → (V j).1.map (·.block) = some g → i = j
def Gs (w : World) (base gg n : Nat) (G : Nat → List (Int × Int)) : Prop := ∃ V, Gv w base gg n V G
theorem ownB (A : Option Addr) (k c : Nat) : (Value.slice A k c).ownBlock = A.map (·.block) := by cases A <;> rfl
/-- only what was given up is another one -/
def KeepG (base gg : Nat) (w w' : World) : Prop := ∃ bs, Keep bs w w' ∧ ∀ b ∈ bs, b = gg ∨ (base ≤ b ∧ ∃ cs, Blk w b 142 cs)
section
variable {w w' : World} {base gg n : Nat} {G : Nat → List (Int × Int)}
theorem KeepG.blk {b : Nat} {t : TypeId} {cs : Array Value} (h : KeepG base gg w w') (hb : Blk w b t cs) (h1 : t ≠ 142) (h2 : b ≠ gg) : Blk w' b t cs := by
  obtain ⟨bs, hk, ha⟩ := h
  refine hk.blk hb fun hx => ?_
  rcases ha b hx with e | ⟨_, ds, e⟩
  · exact h2 e
  · exact blk_types hb e h1 rfl
theorem KeepG.below {B : Nat} {w0 : World} (h : KeepG base gg w w') (hb : Below B w0 w) (h0 : B ≤ w0.heap.size) (h1 : B ≤ base) (h2 : base ≤ gg) : Below B w0 w' := by
  obtain ⟨bs, hk, ha⟩ := h
  refine hk.below hb h0 fun x hx => ?_
  rcases ha x hx with e | ⟨e, _⟩ <;> omega
theorem KeepG.size (h : KeepG base gg w w') : w.heap.size ≤ w'.heap.size := by obtain ⟨bs, hk, _⟩ := h; exact hk.size
theorem KeepG.ep {ge gc gn : Nat} {l : List Int} (h : KeepG base gg w w') (he : EpB w ge gc gn gg n l) (hg : ∃ cs, Blk w gg 140 cs) : EpB w' ge gc gn gg n l := by
  obtain ⟨ds, hg⟩ := hg
  exact ⟨h.blk he.es (by decide) (blk_types he.es hg (by decide)), ⟨he.cl.len, h.blk he.cl.st (by decide) (blk_types he.cl.st hg (by decide)), h.blk he.cl.nu (by decide) (blk_types he.cl.nu hg (by decide)), he.cl.ne, he.cl.rg⟩, he.n1, he.n2, he.ne⟩
theorem KeepG.sts {gl gc m : Nat} {P : Nat → Option Nat} {S : Nat → Sv} (h : KeepG base gg w w') (hs : Sts w gl gc m P S) (hg : ∃ cs, Blk w gg 140 cs) : Sts w' gl gc m P S := by
  obtain ⟨ds, hg⟩ := hg
  obtain ⟨cs, hb⟩ := hs.bl
  have hb' := h.blk hb (by decide) (blk_types hb hg (by decide))
  refine ⟨⟨cs, hb'⟩, fun i hi => ?_, fun i g hi hp => h.blk (hs.st i g hi hp) (by decide) (blk_types (hs.st i g hi hp) hg (by decide)), hs.inj⟩
  have := hs.cell i hi
  rw [hb.cell] at this
  rw [hb'.cell]
  exact this
theorem Gs.blk (h : Gs w base gg n G) : ∃ cs, Blk w gg 140 cs := by obtain ⟨V, h⟩ := h; exact h.bl
theorem Gs.le (h : Gs w base gg n G) : base ≤ gg := by obtain ⟨V, h⟩ := h; exact h.hb
theorem Gs.keep {bs : List Nat} (h : Gs w base gg n G) (hk : Keep bs w w') (hn : gg ∉ bs) (ht : ∀ b ∈ bs, ∃ t cs, Blk w b t cs ∧ t ≠ 142) : Gs w' base gg n G := by
  obtain ⟨V, h⟩ := h
  obtain ⟨cs, hb⟩ := h.bl
  refine ⟨V, h.hb, ⟨cs, hk.blk hb hn⟩, fun i hi => (hk.cell (p := ⟨gg, i, none⟩) hb.lt hn).trans (h.cell i hi), fun i hi => own_keep (h.own i hi) hk fun g hg hx => ?_, h.ap⟩
  obtain ⟨t, ds, hd, hne⟩ := ht g hx
  exact own_not (h.own i hi) hd hne hg
theorem Gs.below (h : Gs w base gg n G) (hb : Below w.heap.size w w') : Gs w' base gg n G := h.keep (Keep.of_below (bs := []) hb) (by simp) (by simp)
theorem Gs.drewN (h : Gs w base gg n G) (q : Nat) : Gs (w.drewN q) base gg n G := h.below (bdrewN w q)
theorem Gs.made (hb : Blk w gg 140 (List.replicate n (Value.slice none 0 0)).toArray) (h : base ≤ gg) : Gs w base gg n (fun _ => []) :=
  ⟨fun _ => (none, 0), h, ⟨_, hb⟩, fun i hi => by rw [hb.cell]; simp [hi], fun i hi => World.ownsRow_nil _ _ _ _, fun i j g _ _ h1 _ => by simp at h1⟩

/-- one row is another one -/
theorem Gv.row {V : Nat → Option Addr × Nat} (h : Gv w base gg n V G) {i : Nat} (hi : i < n) {cs : Array Value} (hbl : Blk w gg 140 cs) (A : Option Addr) (c : Nat) (g' : List (Int × Int))
    (hk : Keep (gg :: ownL (.slice (V i).1 (G i).length (V i).2)) w w') (ho : w'.ownsRow base 142 2 (.slice A g'.length c) g'.length (giC g')) (hB : Blk w' gg 140 (cs.setIfInBounds i (.slice A g'.length c)))
    (ha : ∀ b, A.map (·.block) = some b → (V i).1.map (·.block) = some b ∨ w.heap.size ≤ b) : Gs w' base gg n (upE G i g') := by
  have new : ∀ j b, j < n → j ≠ i → A.map (·.block) = some b → (V j).1.map (·.block) ≠ some b := by
    intro j b hj hne hA hV
    rcases ha b hA with e | e
    · exact hne (h.ap j i b hj hi hV e)
    · have := (h.own j hj).lt b (by rw [ownB]; exact hV)
      omega
  refine ⟨upE V i (A, c), h.hb, ⟨_, hB⟩, fun j hj => ?_, fun j hj => ?_, fun j k b hj hk' h1 h2 => ?_⟩
  · by_cases e : j = i
    · subst e
      rw [upE_same, upE_same, hB.cell]
      have := h.cell j hj
      rw [hbl.cell] at this
      have hlt : j < cs.size := by
        rcases Nat.lt_or_ge j cs.size with q | q
        · exact q
        · rw [Array.getElem?_eq_none q] at this; cases this
      rw [Array.getElem?_setIfInBounds_self_of_lt hlt]
    · rw [upE_ne _ _ e, upE_ne _ _ e, hB.cell, Array.getElem?_setIfInBounds_ne (Ne.symm e), ← hbl.cell]
      exact h.cell j hj
  · by_cases e : j = i
    · subst e; rw [upE_same, upE_same]; exact ho
    · rw [upE_ne _ _ e, upE_ne _ _ e]
      refine own_keep (h.own j hj) hk fun b hb hx => ?_
      rcases List.mem_cons.1 hx with rfl | hx
      · exact own_not (h.own j hj) hbl (by decide) hb
      · rw [ownL_mem, ownB] at hx
        rw [ownB] at hb
        exact e (h.ap j i b hj hi hb hx)
  · by_cases e : j = i
    · by_cases e' : k = i
      · omega
      · subst e
        rw [upE_same] at h1
        rw [upE_ne _ _ e'] at h2
        exact absurd h2 (new k b hk' e' h1)
    · by_cases e' : k = i
      · subst e'
        rw [upE_same] at h2
        rw [upE_ne _ _ e] at h1
        exact absurd h1 (new j b hj e h2)
      · rw [upE_ne _ _ e] at h1
        rw [upE_ne _ _ e'] at h2
        exact h.ap j k b hj hk' h1 h2
theorem Gv.kept {V : Nat → Option Addr × Nat} (h : Gv w base gg n V G) {i : Nat} (hi : i < n) (hk : Keep (gg :: ownL (.slice (V i).1 (G i).length (V i).2)) w w') : KeepG base gg w w' := by
  refine ⟨_, hk, fun b hb => ?_⟩
  rcases List.mem_cons.1 hb with e | e
  · exact .inl e
  · obtain ⟨h1, _, cur, h3⟩ := own_blk (h.own i hi) (ownL_mem.1 e)
    exact .inr ⟨h1, cur, h3⟩

theorem gsGive {ge gc gn : Nat} {l : List Int} (h : EpB w ge gc gn gg n l) (hg : Gs w base gg n G) (i : Nat) (hi : i < n) (what : Int) (hm : (G i).length ≤ 99999) (hbase : base ≤ w.heap.size) :
    Calls Try.prog 59 #[.pointer (some ⟨ge, 0, none⟩), .int .i64 i, .int .u64 what] w fun e w' => e = .returned (.int .i64 0) ∧ Gs w' base gg n (upE G i (G i ++ [(what, l.getD 0 0)])) ∧ KeepG base gg w w' := by
  obtain ⟨V, hv⟩ := hg
  obtain ⟨cs, hbl⟩ := hv.bl
  refine (eGive_any h i hi what (V i).1 (G i).length (V i).2 (G i) rfl (by omega) cs hbl (hv.cell i hi) (hv.own i hi) hbase (fun b hb => ⟨fun e => own_not (hv.own i hi) h.es (by decide) (e ▸ hb), fun e => own_not (hv.own i hi) hbl (by decide) (e ▸ hb)⟩)).mono ?_
  rintro e w' ⟨rfl, gx, cap, ho, hB, hk, hx⟩
  refine ⟨rfl, hv.row hi hbl (some ⟨gx, 0, none⟩) cap _ hk (by rw [List.length_append]; exact ho) (by rw [List.length_append]; exact hB) ?_, hv.kept hi hk⟩
  intro b hb
  simp at hb
  subst hb
  rw [ownB] at hx
  exact hx
theorem gsTake {ge gc gn : Nat} {l : List Int} (h : EpB w ge gc gn gg n l) (hg : Gs w base gg n G) (i : Nat) (hi : i < n) (hm : (G i).length ≤ 99999) (hG : GOk (G i)) (r : Nat) (hr : r = ripeN (G i) (l.getD 0 0)) :
    Calls Try.prog 61 #[.pointer (some ⟨ge, 0, none⟩), .int .i64 i] w fun e w' => e = .returned (.slice (some ⟨w.heap.size, 0, none⟩) r r) ∧ Row .u64 24 w' w.heap.size (((G i).take r).map (·.1)) ∧ Gs w' base gg n (upE G i ((G i).drop r)) ∧ KeepG base gg w w' := by
  obtain ⟨V, hv⟩ := hg
  obtain ⟨cs, hbl⟩ := hv.bl
  have hrk : r ≤ (G i).length := by rw [hr]; exact ripeN_le _ _
  refine (eTake_any h i hi (V i).1 (G i).length (V i).2 (G i) rfl (by omega) cs hbl (hv.cell i hi) (hv.own i hi) hG (fun b hb => ⟨fun e => own_not (hv.own i hi) h.es (by decide) (e ▸ hb), fun e => own_not (hv.own i hi) hbl (by decide) (e ▸ hb)⟩) r hr).mono ?_
  rintro e w' ⟨rfl, hrow, ho, hB, hk⟩
  exact ⟨rfl, hrow, hv.row hi hbl (V i).1 (V i).2 _ hk (by rw [List.length_drop]; exact ho) (by rw [List.length_drop]; exact hB) (fun b hb => .inl hb), hv.kept hi hk⟩
end
end Go.Proofs.Ytoeencklcemofaa
