/-
  Programs in blocks of their own, and the row of them. Conditions stand in each theorem.
-/
import Derived.Test.YtgengboaoniogaaTurnP
import Derived.Test.YtgengboaoniogaaGoes
namespace Go.Proofs.Ytgengboaoniogaa
open Go.RowKit Plain
set_option linter.unusedVariables false
set_option maxRecDepth 100000

theorem infoPr : (Try.prog.info? 25).map (fun i => (i.zero, i.size, i.bytes)) = some (some (.slice none 0 0), 1, 24) := by kernel_rfl
theorem blk_ne {w : World} {a g : Nat} {t t' : TypeId} {cs cur : Array Value} {fr : Nat × Nat} (h : Blk w a t cs) (hg : w.heap[g]? = some (.cells cur t' fr)) (hne : t ≠ t') : a ≠ g := by
  rintro rfl
  unfold Blk at h
  rw [h] at hg
  injection hg with hg
  injection hg with h1 h2
  exact hne h2
theorem blk_own {w : World} {a base size n : Nat} {t t' : TypeId} {cs : Array Value} {v : Value} {xs : List Value} (h : Blk w a t cs) (how : w.ownsRow base t' size v n xs) (hne : t ≠ t') : v.ownBlock ≠ some a := by
  rcases how.2 with ⟨e, _⟩ | ⟨g, cap, cur, e, _, hg, _⟩
  · rw [e]; exact fun h => by cases h
  · rw [e]
    intro hx
    simp [Value.ownBlock] at hx
    exact blk_ne h hg hne hx.symm
theorem Blk.grownO {w w' : World} {g : Nat} {t : TypeId} {cs : Array Value} {o : Option Nat} (h : Blk w g t cs) (hg : w.grownBy w' o) (hne : o ≠ some g) : Blk w' g t cs := (hg.block g h.lt (fun e => hne e.symm)).trans h

/-- programs in blocks of their own, and the row of them -/
structure Progs (w : World) (base : Nat) (v : Value) (n : Nat) (pb : Nat → Nat) (os : Nat → List OpV) : Prop where
  row : w.ownsRow base 25 1 v n ((List.range n).map fun i => .slice (some ⟨pb i, 0, none⟩) (os i).length (os i).length)
  blk : ∀ i, i < n → Blk w (pb i) 27 (opC (os i)).toArray ∧ base ≤ pb i
theorem Progs.below {w w' : World} {base n : Nat} {v : Value} {pb : Nat → Nat} {os : Nat → List OpV} (h : Progs w base v n pb os) (hb : Below w.heap.size w w') : Progs w' base v n pb os :=
  ⟨ownsRow_keep h.row (bs := []) (Keep.of_below hb) (fun x hx => absurd hx (by simp)), fun i hi => ⟨(h.blk i hi).1.below hb, (h.blk i hi).2⟩⟩

/-- append of one program that was just made -/
theorem wpList_prog {w w0 : World} {base n : Nat} {A : Option Addr} {c : Nat} {pb : Nat → Nat} {os : Nat → List OpV} {ops : Array Oper} {rest : List Oper} {o : Oper} {a : Act} {Q : Exit → Act → World → Prop} (hgd : o.guard = none) (sx xx : Operand)
    (ho : o.op = .call { callee := .builtin .append, args := #[sx, xx], argTypes := #[24, 24] })
    (hs : a.eval sx = .slice A n c) (hP : Progs w base (.slice A n c) n pb os) (B : Below base w0 w) (hbase : base ≤ w.heap.size) (pv : List Value) (hpv : pv.length < 1000000) (l : Nat) (hl : (os n).length = l) (hpo : pv = opC (os n)) (hn : n ≤ 1000000)
    (G H : Nat) (hG : w.heap.size = G) (hx : a.eval xx = .slice (some ⟨H, 0, none⟩) 1 1) (hH : w.heap.size + 1 = H)
    (h : ∀ A' c' w' pb', Progs w' base (.slice A' (n + 1) c') (n + 1) pb' os → Below base w0 w' → wpList Try.prog ops Q rest (a.put o.dst (.slice A' (n + 1) c')) w') :
    wpList Try.prog ops Q (o :: rest) a ((w.alloc (.cells pv.toArray 27)).alloc (.cells #[.slice (some ⟨G, 0, none⟩) l l] 25)) := by
  obtain ⟨i, hi, hz, hsz, hb⟩ := info_parts infoPr
  have hP1 := hP.below (ball w (.cells pv.toArray 27))
  have hP2 := hP1.below (ball _ (.cells #[.slice (some ⟨G, 0, none⟩) l l] 25))
  have hbk := Blk.new (w.alloc (.cells pv.toArray 27)) 25 #[.slice (some ⟨G, 0, none⟩) l l]
  have hop := (Blk.new w 27 pv.toArray).alloc (.cells #[.slice (some ⟨G, 0, none⟩) l l] 25)
  have hsz1 : (w.alloc (.cells pv.toArray 27)).heap.size = w.heap.size + 1 := by simp
  rw [hsz1, hH] at hbk
  rw [hG] at hop
  refine wpList_append_lies (P := Try.prog) (w := (w.alloc (.cells pv.toArray 27)).alloc (.cells #[.slice (some ⟨G, 0, none⟩) l l] 25)) hgd sx xx 24 ho base 25 i _ 1 24 Try.underlying24 hi hz hsz hb rfl (by omega) _ n _ hs hP2.row ⟨H, 0, none⟩ 1 1 [.slice (some ⟨G, 0, none⟩) l l] hx rfl ?_ ?_ (by omega) (by unfold maxLen; omega) (by omega) (by simp; omega) _ rfl ?_
  · intro j u hu
    rw [addr_add, Nat.zero_add, hbk.cell]
    simpa using hu
  · intro u hu
    simp at hu
    subst hu; rfl
  · intro g cap w' how hg hgo hlt
    refine h _ _ _ (upd pb n G) ⟨?_, fun j hj => ?_⟩ ?_
    · have e : ((List.range (n + 1)).map fun j => Value.slice (some ⟨upd pb n G j, 0, none⟩) (os j).length (os j).length) = ((List.range n).map fun j => Value.slice (some ⟨pb j, 0, none⟩) (os j).length (os j).length) ++ [.slice (some ⟨G, 0, none⟩) l l] := by
        rw [List.range_succ, List.map_append]
        congr 1
        · apply List.map_congr_left
          intro j hj
          have : j ≠ n := by have := List.mem_range.1 hj; omega
          unfold upd; rw [if_neg this]
        · simp [upd_same, hl]
      rw [e]; exact how
    · by_cases e : j = n
      · subst e
        rw [upd_same, ← hpo]
        exact ⟨hop.grownO hg (blk_own hop hP2.row (by decide)), by omega⟩
      · have := hP2.blk j (by omega)
        unfold upd; rw [if_neg e]
        exact ⟨this.1.grownO hg (blk_own this.1 hP2.row (by decide)), this.2⟩
    · have hB2 := (B.alloc hbase (.cells pv.toArray 27)).alloc (by simp; omega) (.cells #[.slice (some ⟨G, 0, none⟩) l l] 25)
      exact hB2.grown hg (by simp; omega) (fun k hk => by have := hP2.row.lt k hk; omega)

/-- programs and picks, as they are handed to Run and Rest -/
theorem Progs.tin {w : World} {base gc gn n np : Nat} {A : Option Addr} {c : Nat} {l : List Int} {pb : Nat → Nat} {os : Nat → List OpV} (hP : Progs w base (.slice A np c) np pb os) (hC : Cl w gc gn n l) (hne : ∀ i, i < np → pb i ≠ gn) (h0 : 0 < np) (h64 : np ≤ 64) (hlen : ∀ i, i < np → (os i).length ≤ 1000000) (hok : ∀ i, i < np → ∀ o ∈ os i, o.ok)
    {B : Option Addr} {nz cz : Nat} {zs : List Int} (hz : zs.length = nz) (hR : RdN .i64 w B zs) (hB : 0 < nz → ∀ b off, B = some ⟨b, off, none⟩ → b < w.heap.size ∧ b ≠ gn) (hzn : nz ≤ cz) (hzc : cz ≤ maxLen) :
    TIn w gc gn n l A np c np (fun i => (some ⟨pb i, 0, none⟩, (os i).length, (os i).length)) os B nz cz zs := by
  rcases hP.row.2 with ⟨_, e⟩ | ⟨g, cap, cur, e, hg, hh, hnc, hcm, hcs, ht⟩
  · omega
  · injection e with e1 e2 e3
    subst e1 e3
    refine ⟨hC, fun _ => ⟨g, 0, rfl, (Array.getElem?_eq_some_iff.1 hh).1, fun i hi => ?_⟩, fun i hi => RdP.of_blk (hP.blk i hi).1 ?_ (hok i hi), fun i hi b off e => ?_, fun i hi => ⟨rfl, hlen i hi⟩, by omega, h0, hcm, hnc, hz, hR, hB, hzn, hzc⟩
    · rw [Nat.zero_add, cell_of_row w g _ cur _ _ hh, ← Array.getElem?_toList, ← List.getElem?_take_of_lt (show i < np * 1 by omega), ht]
      simp [hi]
    · have : (opC (os i)).length = (os i).length * 5 := by
        unfold opC
        induction os i with
        | nil => rfl
        | cons o l ih => simp only [List.flatMap_cons, List.length_append, ih]; simp; omega
      show (opC (os i)).take _ = _
      exact List.take_of_length_le (by omega)
    · injection e with e; injection e with e1 e2
      subst e1
      exact ⟨(hP.blk i hi).1.lt, hne i hi⟩
end Go.Proofs.Ytgengboaoniogaa
