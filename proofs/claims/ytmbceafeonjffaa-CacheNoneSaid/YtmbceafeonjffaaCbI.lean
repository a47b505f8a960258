/-
  Rows of ints that are cut at their front, and grow at their end. Conditions stand in each theorem.
-/
import Derived.Test.YtmbceafeonjffaaGU
import Derived.Maps.AppendAt
namespace Go.Proofs.Ytmbceafeonjffaa
open Go.RowKit Go.Deep Plain
set_option linter.unusedVariables false
set_option linter.unusedSimpArgs false
set_option maxRecDepth 100000
/-- a row of ints of one's own, from somewhere in its block on -/
structure OwK (base : Nat) (w : World) (A : Option Addr) (n c : Nat) (zs : List Int) : Prop where
  len : zs.length = n
  nc : n ≤ c
  cm : c ≤ maxLen
  ex : (A = none ∧ c = 0) ∨ ∃ g off cur, A = some ⟨g, off, none⟩ ∧ base ≤ g ∧ Blk w g 3 cur ∧ off + c ≤ cur.size ∧ (cur.toList.drop off).take n = iv zs
section
variable {w w' w0 : World} {base n c m : Nat} {A : Option Addr} {zs : List Int} {bs : List Nat}
theorem OwJ.k (h : OwJ base w A n c zs) : OwK base w A n c zs := by
  have hl := h.len
  have hnc := h.nc
  rcases h.shape with ⟨rfl, rfl, rfl⟩ | ⟨g, cur, rfl, hb, hh, h1, h2, hcs, htk⟩
  · exact ⟨hl, Nat.le_refl _, Nat.zero_le _, .inl ⟨rfl, rfl⟩⟩
  · exact ⟨hl, h1, h2, .inr ⟨g, 0, cur, rfl, hb, hh, by omega, by simpa using htk⟩⟩
theorem OwK.nil (base : Nat) (w : World) : OwK base w none 0 0 [] := (OwJ.nil base w).k
theorem OwK.blk (h : OwK base w A n c zs) {g : Nat} (hg : (Value.slice A n c).ownBlock = some g) : base ≤ g ∧ ∃ cur, Blk w g 3 cur := by
  rcases h.ex with ⟨e, _⟩ | ⟨g', off, cur, rfl, hb, hh, _⟩
  · rw [e] at hg; cases hg
  · have : g = g' := by simpa [Value.ownBlock] using hg.symm
    subst this
    exact ⟨hb, cur, hh⟩
theorem OwK.keep (h : OwK base w A n c zs) (hk : Keep bs w w') (hb : ∀ g, (Value.slice A n c).ownBlock = some g → g ∉ bs) : OwK base w' A n c zs := by
  refine ⟨h.len, h.nc, h.cm, ?_⟩
  rcases h.ex with ⟨e, e2⟩ | ⟨g, off, cur, rfl, h1, h2, h3, h4⟩
  · exact .inl ⟨e, e2⟩
  · exact .inr ⟨g, off, cur, rfl, h1, hk.blk h2 (hb g (by simp [Value.ownBlock])), h3, h4⟩
theorem OwK.below (h : OwK base w A n c zs) (hb : Below w.heap.size w w') : OwK base w' A n c zs := h.keep (Keep.of_below (bs := []) hb) (by simp)
/-- the first one is left out -/
theorem OwK.tail {g off : Nat} {x : Int} (h : OwK base w (some ⟨g, off, none⟩) (n + 1) c (x :: zs)) : OwK base w (some ⟨g, if c = 1 then off else off + 1, none⟩) n (c - 1) zs := by
  have hl := h.len
  have hnc := h.nc
  have hcm := h.cm
  refine ⟨by simpa using hl, by omega, by omega, .inr ?_⟩
  rcases h.ex with ⟨e, _⟩ | ⟨g', off', cur, e, h1, h2, h3, h4⟩
  · cases e
  · cases e
    by_cases q : c = 1
    · rw [if_pos q]
      have hn : n = 0 := by omega
      subst hn
      have hz : zs = [] := List.length_eq_zero_iff.1 (by simpa using hl)
      subst hz
      exact ⟨g, off, cur, rfl, h1, h2, by omega, by simp [iv]⟩
    · rw [if_neg q]
      refine ⟨g, off + 1, cur, rfl, h1, h2, by omega, ?_⟩
      have e1 : cur.toList.drop (off + 1) = (cur.toList.drop off).drop 1 := by rw [List.drop_drop]
      have h5 : ((cur.toList.drop off).take (n + 1)).drop 1 = (iv (x :: zs)).drop 1 := by rw [h4]
      rw [List.drop_take, show n + 1 - 1 = n by omega] at h5
      rw [e1, h5]
      simp [iv]
/-- its elements -/
theorem OwK.at (h : OwK base w A n c zs) {i : Nat} (hi : i < n) : ∃ g off, A = some ⟨g, off, none⟩ ∧ w.cell? ⟨g, off + i, none⟩ = some (.int .i64 (zs.getD i 0)) := by
  have hl := h.len
  rcases h.ex with ⟨_, e⟩ | ⟨g, off, cur, rfl, h1, h2, h3, h4⟩
  · have := h.nc; omega
  · refine ⟨g, off, rfl, ?_⟩
    rw [h2.cell]
    have h5 : ((cur.toList.drop off).take n)[i]? = (iv zs)[i]? := by rw [h4]
    rw [List.getElem?_take_of_lt hi, List.getElem?_drop] at h5
    have h6 : (iv zs)[i]? = some (.int .i64 (zs.getD i 0)) := by simp [iv, show i < zs.length by omega, List.getD]
    rw [h6] at h5
    simpa using h5
theorem nextcap_fit {n c bytes : Nat} (h : n ≤ 1000000) (hb : bytes = 8) (hc : c < n) : Builtin.nextslicecap n c * bytes ≤ 281474976710656 := growslice_fits hc (by subst hb; omega)
/-- one more at its end -/
theorem wpList_addK {ops : Array Oper} {rest : List Oper} {o : Oper} {a : Act} {Q : Exit → Act → World → Prop} (hgd : o.guard = none) (sx xx : Operand)
    (ho : o.op = .call { callee := .builtin .append, args := #[sx, xx], argTypes := #[29, 29] })
    (hs : a.eval sx = .slice A n c) (hI : OwK base w A n c zs) (hbase : base ≤ w.heap.size) (v : Int) (hn : n ≤ 900000)
    (H : Nat) (hx : a.eval xx = .slice (some ⟨H, 0, none⟩) 1 1) (hH : w.heap.size = H)
    (h : ∀ A' c' w', OwK base w' A' (n + 1) c' (zs ++ [v]) → Keep (ownLs (.slice A n c)) w w' → (∀ g, (Value.slice A' (n + 1) c').ownBlock = some g → (Value.slice A n c).ownBlock = some g ∨ w.heap.size ≤ g) → wpList Try.prog ops Q rest (a.put o.dst (.slice A' (n + 1) c')) w') :
    wpList Try.prog ops Q (o :: rest) a (w.alloc (.cells #[.int .i64 v] 3)) := by
  have hal := ball w (.cells #[.int .i64 v] 3)
  have hbk := Blk.new w 3 #[.int .i64 v]
  rw [hH] at hbk
  have hl := hI.len
  obtain ⟨i, hi, hz, hsz, hb⟩ := info_parts infoInt
  have hnews : ∀ j u, ([Value.int .i64 v] : List Value)[j]? = some u → (w.alloc (.cells #[.int .i64 v] 3)).cell? ((⟨H, 0, none⟩ : Addr).add j) = some u := World.news_of_block (cs := #[.int .i64 v]) hbk
  rcases hI.ex with ⟨rfl, rfl⟩ | ⟨g, off, cur, rfl, hg1, hg2, hg3, hg4⟩
  · obtain rfl : n = 0 := by have := hI.nc; omega
    obtain rfl : zs = [] := List.length_eq_zero_iff.1 hl
    refine wpList_addJ hgd sx xx ho hs (OwJ.nil base w) (Below.refl _ _) hbase v (by omega) H hx hH ?_
    intro A' c' w' h1 h2 h3 h4
    exact h A' c' w' h1.k h3 h4
  · have hg2' := hg2.below hal
    refine wpList_plain hgd fun K hK => ?_
    by_cases hroom : n + 1 ≤ c
    · have hf := run_firstCells_some (P := Try.prog) (w.alloc (.cells #[.int .i64 v] 3)) i.size 1 ⟨H, 0, none⟩ 1 1 [.int .i64 v] (by rw [hsz]; rfl) hnews
      have hst := run_storeCells_at (P := Try.prog) g (off + n) 3 [.int .i64 v] 0 cur (w.alloc (.cells #[.int .i64 v] 3)) hg2' (by simp; omega) (by intro u hu; simp at hu; subst hu; rfl)
      simp only [Nat.add_zero, List.length_singleton] at hst
      have hrun : (Builtin.append_ #[29, 29] o.type #[.slice (some ⟨g, off, none⟩) n c, .slice (some ⟨H, 0, none⟩) 1 1]).run Try.prog (w.alloc (.cells #[.int .i64 v] 3)) = .ok (.slice (some ⟨g, off, none⟩) (n + 1) c) ((w.alloc (.cells #[.int .i64 v] 3)).setRow g (cur.toList.take (off + n) ++ [Value.int .i64 v] ++ cur.toList.drop (off + n + 1)).toArray) := by
        simp [Builtin.append_, run_underlying Try.underlying29, sizeOf, typeInfo, hi, hsz, Builtin.lenOf, hroom, hsz ▸ hf, Addr.add_lit, hst]
      unfold Oper.wp execOp
      simp only [ho, resolve, invoke, builtin, Sem.run_bind, Sem.run_pure, Result.andThen_ok, List.map_toArray, List.map_cons, List.map_nil, hs, hx, hrun]
      refine hK _ _ (h _ _ _ ⟨by simp [hl], hroom, hI.cm, .inr ⟨g, off, _, rfl, hg1, hg2'.setRow _, by simp; omega, ?_⟩⟩ ((Keep.of_below (bs := ownLs (.slice (some ⟨g, off, none⟩) n c)) hal).trans (Keep.of_grown (grown_setRow _ g _) (by simp [ownLs, Value.ownBlock]))) (fun q hq => .inl hq))
      have hcl : off + n < cur.toList.length := by simp; omega
      have e1 : (cur.toList.take (off + n) ++ [Value.int .i64 v] ++ cur.toList.drop (off + n + 1)) = cur.toList.set (off + n) (.int .i64 v) := by
        rw [List.set_eq_take_append_cons_drop, if_pos hcl]; simp
      show ((cur.toList.take (off + n) ++ [Value.int .i64 v] ++ cur.toList.drop (off + n + 1)).drop off).take (n + 1) = _
      rw [e1, List.drop_set, if_neg (by omega), show off + n - off = n by omega, iv_app, ← hg4]
      have e2 : n < (cur.toList.drop off).length := by simp; omega
      rw [List.take_set, List.take_succ_eq_append_getElem e2]
      rw [List.set_append_right _ _ (by simp; omega)]
      simp [iv]
      rw [show n - min n (cur.size - off) = 0 by omega]
      rfl
    · have hnc := hI.nc
      have hcells : ∀ j u, (iv zs)[j]? = some u → (w.alloc (.cells #[.int .i64 v] 3)).cell? ((⟨g, off, none⟩ : Addr).add j) = some u := by
        intro j u hu
        have hj : j < n := by have := (List.getElem?_eq_some_iff.1 hu).1; simp [iv] at this; omega
        rw [addr_add, hg2'.cell, ← hu, ← hg4, List.getElem?_take_of_lt hj, List.getElem?_drop]
        simp
      have hrun := run_append_grow (P := Try.prog) (w.alloc (.cells #[.int .i64 v] 3)) 29 o.type 3 i (.int .i64 0) Try.underlying29 hi hz ⟨g, off, none⟩ n c (iv zs) (by rw [hsz]; simp [iv, hl]) hcells ⟨H, 0, none⟩ 1 1 [.int .i64 v] (by rw [hsz]; rfl) hnews (by omega) (by omega) (nextcap_fit (by omega) hb (by omega))
      unfold Oper.wp execOp
      simp only [ho, resolve, invoke, builtin, Sem.run_bind, Sem.run_pure, Result.andThen_ok, List.map_toArray, List.map_cons, List.map_nil, hs, hx, hrun]
      have hge := grownCap_ge (w.alloc (.cells #[.int .i64 v] 3)) (n + 1) c 3
      have hcm := grownCap_le_maxLen (w.alloc (.cells #[.int .i64 v] 3)) (n + 1) c 3 (by unfold maxLen; omega)
      have hb2 := bthen hal (bthen (bdrew (w.alloc (.cells #[.int .i64 v] 3))) (ball _ (.cells ((iv zs).toArray ++ [Value.int .i64 v].toArray ++ Builtin.zeroCells (Value.int .i64 0).cells (grownCap (w.alloc (.cells #[.int .i64 v] 3)) (n + 1) c 3 - (n + 1))) 3)))
      refine hK _ _ (h _ _ _ ⟨by simp [hl], hge, hcm, .inr ⟨_, 0, _, rfl, by rw [World.size_alloc]; omega, heap_alloc_new _ _, ?_, ?_⟩⟩ (Keep.of_below hb2) (fun q hq => ?_))
      · simp [iv, hl, size_zeroCells, Value.cells]
        omega
      · simp only [Array.toList_append, List.drop_zero, List.append_assoc]
        rw [iv_app, ← List.append_assoc]
        have e : (iv zs ++ iv [v]).length = n + 1 := by simp [iv, hl]
        rw [show ([Value.int .i64 v] : List Value) = iv [v] from rfl, ← e]
        exact List.take_left
      · right
        have : q = (w.alloc (.cells #[.int .i64 v] 3)).heap.size := by simpa [Value.ownBlock] using hq.symm
        rw [this, World.size_alloc]; omega
end
end Go.Proofs.Ytmbceafeonjffaa
