/-
  The document's epochs (fanlightref07): what each worker gave up, in rows; and a frame by types. Conditions stand in each theorem.
-/
import Derived.Test.YthkmpcfjeclejaaRt
import Derived.Test.YthkmpcfjeclejaaRn
namespace Go.Proofs.Ythkmpcfjeclejaa
open Go.RowKit Go.Deep Plain
set_option linter.unusedVariables false
set_option maxRecDepth 100000

/-- what each worker gave up: rows of one's own, apart from one another -/
structure Tr (w : World) (base gg n : Nat) (V : Nat → Option Addr × Nat) (G : Nat → List (Int × Int)) : Prop where
  hb : base ≤ gg
  bl : ∃ cs, Blk w gg 116 cs
  cell : ∀ i, i < n → w.cell? ⟨gg, i, none⟩ = some (.slice (V i).1 (G i).length (V i).2)
  own : ∀ i, i < n → w.ownsRow base 118 2 (.slice (V i).1 (G i).length (V i).2) (G i).length (thC (G i))
  ap : ∀ i j g, i < n → j < n → (V i).1.map (·.block) = some g → (V j).1.map (·.block) = some g → i = j
def Ts (w : World) (base gg n : Nat) (G : Nat → List (Int × Int)) : Prop := ∃ V, Tr w base gg n V G
/-- only what was given up is another one -/
def KeepT (base gg : Nat) (w w' : World) : Prop := ∃ bs, Keep bs w w' ∧ ∀ b ∈ bs, b = gg ∨ (base ≤ b ∧ ∃ cs, Blk w b 118 cs)
section
variable {w w' : World} {base gg n : Nat} {G : Nat → List (Int × Int)}
theorem KeepT.blk {b : Nat} {t : TypeId} {cs : Array Value} (h : KeepT base gg w w') (hb : Blk w b t cs) (h1 : t ≠ 118) (h2 : b ≠ gg) : Blk w' b t cs := by
  obtain ⟨bs, hk, ha⟩ := h
  refine hk.blk hb fun hx => ?_
  rcases ha b hx with e | ⟨_, ds, e⟩
  · exact h2 e
  · exact blk_types hb e h1 rfl
theorem KeepT.below {B : Nat} {w0 : World} (h : KeepT base gg w w') (hb : Below B w0 w) (h0 : B ≤ w0.heap.size) (h1 : B ≤ base) (h2 : base ≤ gg) : Below B w0 w' := by
  obtain ⟨bs, hk, ha⟩ := h
  refine hk.below hb h0 fun x hx => ?_
  rcases ha x hx with e | ⟨e, _⟩ <;> omega
theorem KeepT.size (h : KeepT base gg w w') : w.heap.size ≤ w'.heap.size := by obtain ⟨bs, hk, _⟩ := h; exact hk.size
theorem Ts.blk (h : Ts w base gg n G) : ∃ cs, Blk w gg 116 cs := by obtain ⟨V, h⟩ := h; exact h.bl
theorem Ts.le (h : Ts w base gg n G) : base ≤ gg := by obtain ⟨V, h⟩ := h; exact h.hb
theorem Ts.keep {bs : List Nat} (h : Ts w base gg n G) (hk : Keep bs w w') (hn : gg ∉ bs) (ht : ∀ b ∈ bs, ∃ t cs, Blk w b t cs ∧ t ≠ 118) : Ts w' base gg n G := by
  obtain ⟨V, h⟩ := h
  obtain ⟨cs, hb⟩ := h.bl
  refine ⟨V, h.hb, ⟨cs, hk.blk hb hn⟩, fun i hi => (hk.cell (p := ⟨gg, i, none⟩) hb.lt hn).trans (h.cell i hi), fun i hi => own_keep (h.own i hi) hk fun g hg hx => ?_, h.ap⟩
  obtain ⟨t, ds, hd, hne⟩ := ht g hx
  exact own_not (h.own i hi) hd hne hg
theorem Ts.below (h : Ts w base gg n G) (hb : Below w.heap.size w w') : Ts w' base gg n G := h.keep (Keep.of_below (bs := []) hb) (by simp) (by simp)
theorem Ts.drewN (h : Ts w base gg n G) (q : Nat) : Ts (w.drewN q) base gg n G := h.below (bdrewN w q)
theorem Ts.made (hb : Blk w gg 116 (List.replicate n (Value.slice none 0 0)).toArray) (h : base ≤ gg) : Ts w base gg n (fun _ => []) :=
  ⟨fun _ => (none, 0), h, ⟨_, hb⟩, fun i hi => by rw [hb.cell]; simp [hi], fun i hi => World.ownsRow_nil _ _ _ _, fun i j g _ _ h1 _ => by simp at h1⟩

/-- one row is another one -/
theorem Tr.row {V : Nat → Option Addr × Nat} (h : Tr w base gg n V G) {i : Nat} (hi : i < n) {cs : Array Value} (hbl : Blk w gg 116 cs) (A : Option Addr) (c : Nat) (g' : List (Int × Int))
    (hk : Keep (gg :: ownL (.slice (V i).1 (G i).length (V i).2)) w w') (ho : w'.ownsRow base 118 2 (.slice A g'.length c) g'.length (thC g')) (hB : Blk w' gg 116 (cs.setIfInBounds i (.slice A g'.length c)))
    (ha : ∀ b, A.map (·.block) = some b → (V i).1.map (·.block) = some b ∨ w.heap.size ≤ b) : Ts w' base gg n (upE G i g') := by
  have new : ∀ j b, j < n → j ≠ i → A.map (·.block) = some b → (V j).1.map (·.block) ≠ some b := by
    intro j b hj hne hA hV
    rcases ha b hA with e | e
    · exact hne (h.ap j i b hj hi hV e)
    · have := (h.own j hj).lt b (by rw [ownB]; exact hV)
      omega
  refine ⟨upE V i (A, c), h.hb, ⟨_, hB⟩, fun j hj => ?_, fun j hj => ?_, fun j k b hj hk' h1 h2 => ?_⟩
  · by_cases e : j = i
    · subst e
      rw [upE_same, upE_same, hB.cell]
      have := h.cell j hj
      rw [hbl.cell] at this
      have hlt : j < cs.size := by
        rcases Nat.lt_or_ge j cs.size with q | q
        · exact q
        · rw [Array.getElem?_eq_none q] at this; cases this
      rw [Array.getElem?_setIfInBounds_self_of_lt hlt]
    · rw [upE_ne _ _ e, upE_ne _ _ e, hB.cell, Array.getElem?_setIfInBounds_ne (Ne.symm e), ← hbl.cell]
      exact h.cell j hj
  · by_cases e : j = i
    · subst e; rw [upE_same, upE_same]; exact ho
    · rw [upE_ne _ _ e, upE_ne _ _ e]
      refine own_keep (h.own j hj) hk fun b hb hx => ?_
      rcases List.mem_cons.1 hx with rfl | hx
      · exact own_not (h.own j hj) hbl (by decide) hb
      · rw [ownL_mem, ownB] at hx
        rw [ownB] at hb
        exact e (h.ap j i b hj hi hb hx)
  · by_cases e : j = i
    · by_cases e' : k = i
      · omega
      · subst e
        rw [upE_same] at h1
        rw [upE_ne _ _ e'] at h2
        exact absurd h2 (new k b hk' e' h1)
    · by_cases e' : k = i
      · subst e'
        rw [upE_same] at h2
        rw [upE_ne _ _ e] at h1
        exact absurd h1 (new j b hj e h2)
      · rw [upE_ne _ _ e] at h1
        rw [upE_ne _ _ e'] at h2
        exact h.ap j k b hj hk' h1 h2
theorem Tr.kept {V : Nat → Option Addr × Nat} (h : Tr w base gg n V G) {i : Nat} (hi : i < n) (hk : Keep (gg :: ownL (.slice (V i).1 (G i).length (V i).2)) w w') : KeepT base gg w w' := by
  refine ⟨_, hk, fun b hb => ?_⟩
  rcases List.mem_cons.1 hb with e | e
  · exact .inl e
  · obtain ⟨h1, _, cur, h3⟩ := own_blk (h.own i hi) (ownL_mem.1 e)
    exact .inr ⟨h1, cur, h3⟩

theorem tsGive {gr gp gs : Nat} {now : Int} {pins : List Int} {T : Nat → Tv} (h : ReB w gr gp gs gg n now pins T) (hg : Ts w base gg n G) (i : Nat) (hi : i < n) (what : Int) (hm : (G i).length ≤ 99999) (hbase : base ≤ w.heap.size) :
    Calls Try.prog 29 #[.pointer (some ⟨gr, 0, none⟩), .int .i64 i, .int .u64 what] w fun e w' => e = .returned (.tuple #[]) ∧ Ts w' base gg n (upE G i (G i ++ [(what, now)])) ∧ KeepT base gg w w' := by
  obtain ⟨V, hv⟩ := hg
  obtain ⟨cs, hbl⟩ := hv.bl
  refine (rGive_any h i hi what (V i).1 (G i).length (V i).2 (G i) rfl (by omega) cs hbl (hv.cell i hi) (hv.own i hi) hbase (fun b hb => ⟨fun e => own_not (hv.own i hi) h.st (by decide) (e ▸ hb), fun e => own_not (hv.own i hi) hbl (by decide) (e ▸ hb)⟩)).mono ?_
  rintro e w' ⟨rfl, gx, cap, ho, hB, hk, hx⟩
  refine ⟨rfl, hv.row hi hbl (some ⟨gx, 0, none⟩) cap _ hk (by rw [List.length_append]; exact ho) (by rw [List.length_append]; exact hB) ?_, hv.kept hi hk⟩
  intro b hb
  simp at hb
  subst hb
  rw [ownB] at hx
  exact hx
theorem tsTake {gr gp gs : Nat} {now : Int} {pins : List Int} {T : Nat → Tv} (h : ReB w gr gp gs gg n now pins T) (hg : Ts w base gg n G) (i : Nat) (hi : i < n) (hm : (G i).length ≤ 99999) (hG : GOk (G i)) (hbase : base ≤ w.heap.size) :
    Calls Try.prog 30 #[.pointer (some ⟨gr, 0, none⟩), .int .i64 i] w fun e w' => ∃ A1 n1 c1, e = .returned (.slice A1 n1 c1) ∧ n1 = (outT now (G i)).length ∧ w'.ownsRow w.heap.size 33 1 (.slice A1 n1 c1) n1 (uC ((outT now (G i)).map (·.1))) ∧ Ts w' base gg n (upE G i (leftT now (G i))) ∧ Keep [gg] w w' := by
  obtain ⟨V, hv⟩ := hg
  obtain ⟨cs, hbl⟩ := hv.bl
  refine (rTake_any h i hi (V i).1 (G i).length (V i).2 (G i) rfl (by omega) cs hbl (hv.cell i hi) (hv.own i hi) hG).mono ?_
  rintro e w' ⟨A1, A2, n1, c1, n2, c2, rfl, hn1, hn2, ho1, ho2, hB, hk⟩
  refine ⟨A1, n1, c1, rfl, hn1, ho1, ?_, hk⟩
  subst hn2
  refine hv.row hi hbl A2 c2 _ (hk.mono (fun x hx => ?_)) (own_base ho2 hbase) hB (fun b hb => .inr ?_)
  · simp at hx; subst hx; simp
  · exact (ho2.lt b (by rw [ownB]; exact hb)).1
theorem tsWaiting {gr gp gs : Nat} {now : Int} {pins : List Int} {T : Nat → Tv} (h : ReB w gr gp gs gg n now pins T) (hg : Ts w base gg n G) (i : Nat) (hi : i < n) :
    Calls Try.prog 31 #[.pointer (some ⟨gr, 0, none⟩), .int .i64 i] w fun e w' => e = .returned (.int .i64 (G i).length) ∧ w = w' := by
  obtain ⟨V, hv⟩ := hg
  exact rWaiting_any h i hi (V i).1 (G i).length (V i).2 (hv.cell i hi)
theorem tsGiven {gr gp gs : Nat} {now : Int} {pins : List Int} {T : Nat → Tv} (h : ReB w gr gp gs gg n now pins T) (hg : Ts w base gg n G) (i : Nat) (hi : i < n) (hm : (G i).length ≤ 99999) :
    Calls Try.prog 32 #[.pointer (some ⟨gr, 0, none⟩), .int .i64 i] w fun e w' => ∃ A' c', e = .returned (.slice A' (G i).length c') ∧ w'.ownsRow w.heap.size 33 1 (.slice A' (G i).length c') (G i).length (uC ((G i).map (·.1))) ∧ Below w.heap.size w w' := by
  obtain ⟨V, hv⟩ := hg
  obtain ⟨cs, hbl⟩ := hv.bl
  exact rGiven_any h i hi (V i).1 (G i).length (V i).2 (G i) rfl (by omega) hbl.lt (hv.cell i hi) (hv.own i hi)
end

/-- blocks of all types but these are as they were -/
def Fr (T : List TypeId) (w w' : World) : Prop := w.heap.size ≤ w'.heap.size ∧ ∀ b t cs, Blk w b t cs → t ∉ T → Blk w' b t cs
theorem Fr.of_keep {T : List TypeId} {bs : List Nat} {w w' : World} (hk : Keep bs w w') (h : ∀ b ∈ bs, ∃ t cs, Blk w b t cs ∧ t ∈ T) : Fr T w w' :=
  ⟨hk.size, fun b t cs hb ht => hk.blk hb fun hx => by
    obtain ⟨t', cs', hb', ht'⟩ := h b hx
    by_cases e : t = t'
    · subst e; exact ht ht'
    · exact blk_types hb hb' e rfl⟩
theorem Fr.below {T : List TypeId} {w w' : World} (hb : Below w.heap.size w w') : Fr T w w' := Fr.of_keep (bs := []) (Keep.of_below hb) (by simp)
theorem Fr.trans {T : List TypeId} {w w' w'' : World} (h : Fr T w w') (k : Fr T w' w'') : Fr T w w'' := ⟨Nat.le_trans h.1 k.1, fun b t cs hb ht => k.2 b t cs (h.2 b t cs hb ht) ht⟩
theorem Fr.cell {T : List TypeId} {w w' : World} (f : Fr T w w') {b i : Nat} {t : TypeId} {v : Value} (hb : ∃ cs, Blk w b t cs) (ht : t ∉ T) (hc : w.cell? ⟨b, i, none⟩ = some v) : w'.cell? ⟨b, i, none⟩ = some v := by
  obtain ⟨cs, hb⟩ := hb
  rw [hb.cell] at hc
  rw [(f.2 b t cs hb ht).cell]
  exact hc
theorem Fr.own {T : List TypeId} {w w' : World} (f : Fr T w w') {base size n : Nat} {e : TypeId} {v : Value} {xs : List Value} (h : w.ownsRow base e size v n xs) (ht : e ∉ T) : w'.ownsRow base e size v n xs := by
  refine ⟨h.1, ?_⟩
  rcases h.2 with q | ⟨g, cap, cur, q, hb, hg, r⟩
  · exact .inl q
  · exact .inr ⟨g, cap, cur, q, hb, f.2 g e cur hg ht, r⟩
section
variable {L : List TypeId} {w w' : World}
theorem EpB.fr {ge gc gn gg n : Nat} {l : List Int} (h : EpB w ge gc gn gg n l) (f : Fr L w w') (h1 : 102 ∉ L) (h2 : 141 ∉ L) (h3 : 144 ∉ L) : EpB w' ge gc gn gg n l :=
  ⟨f.2 _ _ _ h.es h1, ⟨h.cl.len, f.2 _ _ _ h.cl.st h2, f.2 _ _ _ h.cl.nu h3, h.cl.ne, h.cl.rg⟩, h.n1, h.n2, h.ne⟩
theorem Sts.fr {gl gc n : Nat} {P : Nat → Option Nat} {S : Nat → Sv} (h : Sts w gl gc n P S) (f : Fr L w w') (h1 : 24 ∉ L) (h2 : 112 ∉ L) : Sts w' gl gc n P S := by
  have hb := h.bl
  obtain ⟨cs, hb'⟩ := h.bl
  exact ⟨⟨cs, f.2 _ _ _ hb' h1⟩, fun i hi => f.cell hb h1 (h.cell i hi), fun i g hi hp => f.2 _ _ _ (h.st i g hi hp) h2, h.inj⟩
theorem Gs.fr {base gg n : Nat} {G : Nat → List (Int × Int)} (h : Gs w base gg n G) (f : Fr L w w') (h1 : 104 ∉ L) (h2 : 106 ∉ L) : Gs w' base gg n G := by
  obtain ⟨V, h⟩ := h
  have hb := h.bl
  obtain ⟨cs, hb'⟩ := h.bl
  exact ⟨V, h.hb, ⟨cs, f.2 _ _ _ hb' h1⟩, fun i hi => f.cell hb h1 (h.cell i hi), fun i hi => f.own (h.own i hi) h2, h.ap⟩
theorem Ts.fr {base gg n : Nat} {G : Nat → List (Int × Int)} (h : Ts w base gg n G) (f : Fr L w w') (h1 : 116 ∉ L) (h2 : 118 ∉ L) : Ts w' base gg n G := by
  obtain ⟨V, h⟩ := h
  have hb := h.bl
  obtain ⟨cs, hb'⟩ := h.bl
  exact ⟨V, h.hb, ⟨cs, f.2 _ _ _ hb' h1⟩, fun i hi => f.cell hb h1 (h.cell i hi), fun i hi => f.own (h.own i hi) h2, h.ap⟩
theorem ReB.fr {gr gp gs gv n : Nat} {now : Int} {pins : List Int} {T : Nat → Tv} (h : ReB w gr gp gs gv n now pins T) (f : Fr L w w') (h1 : 57 ∉ L) (h2 : 3 ∉ L) (h3 : 114 ∉ L) : ReB w' gr gp gs gv n now pins T := by
  have hb := h.sb
  obtain ⟨cs, hb'⟩ := h.sb
  refine ⟨f.2 _ _ _ h.st h1, f.2 _ _ _ h.pin h2, h.len, ⟨cs, f.2 _ _ _ hb' h3⟩, fun i hi => ?_, h.n1, h.n2⟩
  obtain ⟨a, b, c, d⟩ := h.sc i hi
  exact ⟨f.cell hb h3 a, f.cell hb h3 b, f.cell hb h3 c, f.cell hb h3 d⟩
/-- what each call changes -/
theorem fr_do {ge gc gn gg n gs : Nat} {l : List Int} {s : Sv} (h : EpB w ge gc gn gg n l) (hs : StV w gs gc s) (hk : Keep [gn, gs] w w') : Fr [144, 112] w w' :=
  Fr.of_keep hk fun b hb => by
    simp only [List.mem_cons, List.not_mem_nil, or_false] at hb
    rcases hb with rfl | rfl
    · exact ⟨_, _, h.cl.nu, by simp⟩
    · exact ⟨_, _, hs, by simp⟩
theorem fr_unpin {ge gc gn gg n : Nat} {l : List Int} (h : EpB w ge gc gn gg n l) (hk : Keep [gn] w w') : Fr [144] w w' :=
  Fr.of_keep hk fun b hb => by
    simp only [List.mem_cons, List.not_mem_nil, or_false] at hb
    subst hb
    exact ⟨_, _, h.cl.nu, by simp⟩
theorem fr_give {base gg : Nat} (hg : ∃ cs, Blk w gg 104 cs) (hk : KeepG base gg w w') : Fr [104, 106] w w' := by
  obtain ⟨bs, hk, ha⟩ := hk
  obtain ⟨cs, hg⟩ := hg
  refine Fr.of_keep hk fun b hb => ?_
  rcases ha b hb with rfl | ⟨_, ds, e⟩
  · exact ⟨_, _, hg, by simp⟩
  · exact ⟨_, _, e, by simp⟩
theorem fr_rgive {base gg : Nat} (hg : ∃ cs, Blk w gg 116 cs) (hk : KeepT base gg w w') : Fr [116, 118] w w' := by
  obtain ⟨bs, hk, ha⟩ := hk
  obtain ⟨cs, hg⟩ := hg
  refine Fr.of_keep hk fun b hb => ?_
  rcases ha b hb with rfl | ⟨_, ds, e⟩
  · exact ⟨_, _, hg, by simp⟩
  · exact ⟨_, _, e, by simp⟩
theorem fr_rtake {gg : Nat} (hg : ∃ cs, Blk w gg 116 cs) (hk : Keep [gg] w w') : Fr [116] w w' := by
  obtain ⟨cs, hg⟩ := hg
  refine Fr.of_keep hk fun b hb => ?_
  simp only [List.mem_cons, List.not_mem_nil, or_false] at hb
  subst hb
  exact ⟨_, _, hg, by simp⟩
theorem fr_rdo {gr gp gs gv n : Nat} {now : Int} {pins : List Int} {T : Nat → Tv} (h : ReB w gr gp gs gv n now pins T) {bs : List Nat} (hk : Keep bs w w') (hb : ∀ b ∈ bs, b ∈ [gr, gp, gs]) : Fr [57, 3, 114] w w' :=
  Fr.of_keep hk fun b hx => by
    obtain ⟨cs, hs⟩ := h.sb
    have := hb b hx
    simp only [List.mem_cons, List.not_mem_nil, or_false] at this
    rcases this with rfl | rfl | rfl
    · exact ⟨_, _, h.st, by simp⟩
    · exact ⟨_, _, h.pin, by simp⟩
    · exact ⟨_, _, hs, by simp⟩
end
end Go.Proofs.Ythkmpcfjeclejaa
