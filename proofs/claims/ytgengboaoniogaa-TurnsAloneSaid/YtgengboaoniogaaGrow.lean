/-
  Rows that grow by append, side by side: programs of Ops, and the rows of programs. Conditions stand in each theorem.
-/
import Derived.Test.YtgengboaoniogaaPrgs
namespace Go.Proofs.Ytgengboaoniogaa
open Go.RowKit Plain
set_option linter.unusedVariables false
set_option maxRecDepth 100000

theorem infoOp : (Try.prog.info? 27).map (fun i => (i.zero, i.size, i.bytes)) = some (some (.agg #[.int .i64 0, .int .i64 0, .int .u64 0, .int .u64 0, .bool false]), 5, 40) := by kernel_rfl
theorem opC_len (os : List OpV) : (opC os).length = os.length * 5 := by
  unfold opC
  induction os with
  | nil => rfl
  | cons o l ih => simp only [List.flatMap_cons, List.length_append, ih]; simp; omega
theorem opC_app (a b : List OpV) : opC (a ++ b) = opC a ++ opC b := by unfold opC; simp
theorem opC_one (os : List OpV) : ∀ u ∈ opC os, u.oneCell' = true := by
  intro u hu
  unfold opC at hu
  obtain ⟨o, _, hu⟩ := List.mem_flatMap.1 hu
  simp at hu
  rcases hu with rfl | rfl | rfl | rfl | rfl <;> rfl

section
variable {w w' : World} {base base' size size' n m : Nat} {e e' : TypeId} {v v' : Value} {xs ys : List Value} {o : Option Nat}
theorem own_base (h : w.ownsRow base e size v n xs) (hb : base' ≤ base) : w.ownsRow base' e size v n xs := by
  refine ⟨h.1, ?_⟩
  rcases h.2 with q | ⟨g, cap, cur, q, hg, r⟩
  · exact .inl q
  · exact .inr ⟨g, cap, cur, q, Nat.le_trans hb hg, r⟩
theorem own_blk (h : w.ownsRow base e size v n xs) {g : Nat} (hg : v.ownBlock = some g) : base ≤ g ∧ g < w.heap.size ∧ ∃ cur, w.heap[g]? = some (.cells cur e (0, 0)) := by
  rcases h.2 with ⟨q, _⟩ | ⟨g', cap, cur, q, hb, hh, _⟩
  · rw [q] at hg; cases hg
  · rw [q] at hg
    simp [Value.ownBlock] at hg
    subst hg
    exact ⟨hb, (Array.getElem?_eq_some_iff.1 hh).1, cur, hh⟩
theorem own_grown (h : w.ownsRow base e size v n xs) (hg : w.grownBy w' o) (hne : ∀ g, v.ownBlock = some g → o ≠ some g) : w'.ownsRow base e size v n xs := by
  refine ⟨h.1, ?_⟩
  rcases h.2 with q | ⟨g, cap, cur, q, hb, hh, r⟩
  · exact .inl q
  · refine .inr ⟨g, cap, cur, q, hb, ?_, r⟩
    have hlt : g < w.heap.size := (Array.getElem?_eq_some_iff.1 hh).1
    rw [hg.block g hlt (fun x => hne g (by rw [q]; rfl) x.symm)]; exact hh
theorem own_keep {bs : List Nat} (h : w.ownsRow base e size v n xs) (hk : Keep bs w w') (hne : ∀ g, v.ownBlock = some g → g ∉ bs) : w'.ownsRow base e size v n xs := by
  refine ⟨h.1, ?_⟩
  rcases h.2 with q | ⟨g, cap, cur, q, hb, hh, r⟩
  · exact .inl q
  · refine .inr ⟨g, cap, cur, q, hb, ?_, r⟩
    have hlt : g < w.heap.size := (Array.getElem?_eq_some_iff.1 hh).1
    rw [hk.block g hlt (hne g (by rw [q]; rfl))]; exact hh
theorem own_below (h : w.ownsRow base e size v n xs) (hb : Below w.heap.size w w') : w'.ownsRow base e size v n xs := own_keep h (Keep.of_below (bs := []) hb) (fun _ _ => by simp)
/-- rows of unlike elements are apart -/
theorem own_types (h : w.ownsRow base e size v n xs) (h' : w.ownsRow base' e' size' v' m ys) (hne : e ≠ e') {g : Nat} (hg : v.ownBlock = some g) : v'.ownBlock ≠ some g := by
  intro hg'
  obtain ⟨_, _, c1, q1⟩ := own_blk h hg
  obtain ⟨_, _, c2, q2⟩ := own_blk h' hg'
  rw [q1] at q2
  injection q2 with q2
  injection q2 with _ q2
  exact hne q2
end

/-- two programs that grow -/
structure In2 (w : World) (base na nb : Nat) (va vb : Value) (oa ob : List OpV) : Prop where
  ra : w.ownsRow base 27 5 va na (opC oa)
  rb : w.ownsRow base 27 5 vb nb (opC ob)
  ap : ∀ g, va.ownBlock = some g → vb.ownBlock ≠ some g
theorem In2.swap {w : World} {base na nb : Nat} {va vb : Value} {oa ob : List OpV} (h : In2 w base na nb va vb oa ob) : In2 w base nb na vb va ob oa := ⟨h.rb, h.ra, fun g h1 h2 => h.ap g h2 h1⟩
theorem In2.nil (w : World) (base : Nat) : In2 w base 0 0 (.slice none 0 0) (.slice none 0 0) [] [] := ⟨World.ownsRow_nil _ _ _ _, World.ownsRow_nil _ _ _ _, fun g h => by cases h⟩

theorem wpList_ops {w w0 : World} {base na nb : Nat} {A : Option Addr} {c : Nat} {vb : Value} {oa ob : List OpV} {ops : Array Oper} {rest : List Oper} {o : Oper} {a : Act} {Q : Exit → Act → World → Prop} (hgd : o.guard = none) (sx xx : Operand)
    (ho : o.op = .call { callee := .builtin .append, args := #[sx, xx], argTypes := #[25, 25] })
    (hs : a.eval sx = .slice A na c) (hI : In2 w base na nb (.slice A na c) vb oa ob) (B : Below base w0 w) (hbase : base ≤ w.heap.size) (new : List OpV) (pv : List Value) (hpv : pv = opC new) (m : Nat) (hm : new.length = m) (hm0 : 0 < m) (hn : na + m ≤ 1000000)
    (H : Nat) (hx : a.eval xx = .slice (some ⟨H, 0, none⟩) m m) (hH : w.heap.size = H)
    (h : ∀ A' c' w', In2 w' base (na + m) nb (.slice A' (na + m) c') vb (oa ++ new) ob → Below base w0 w' → wpList Try.prog ops Q rest (a.put o.dst (.slice A' (na + m) c')) w') :
    wpList Try.prog ops Q (o :: rest) a (w.alloc (.cells pv.toArray 27)) := by
  obtain ⟨i, hi, hz, hsz, hb⟩ := info_parts infoOp
  have hal := ball w (.cells pv.toArray 27)
  have ra1 := own_below hI.ra hal
  have rb1 := own_below hI.rb hal
  have hbk := Blk.new w 27 pv.toArray
  rw [hH] at hbk
  refine wpList_append_lies (P := Try.prog) (w := w.alloc (.cells pv.toArray 27)) hgd sx xx 25 ho base 27 i _ 5 40 Try.underlying25 hi hz hsz hb rfl (by omega) _ na (opC oa) hs ra1 ⟨H, 0, none⟩ m m pv hx (by rw [hpv, opC_len, hm]) ?_ ?_ hm0 (by unfold maxLen; omega) (by omega) (by simp; omega) _ rfl ?_
  · intro j u hu
    rw [addr_add, Nat.zero_add, hbk.cell]
    simpa using hu
  · intro u hu
    rw [hpv] at hu
    exact opC_one _ u hu
  · intro g cap w' how hg hgo hlt
    refine h (some ⟨g, 0, none⟩) cap w' ⟨?_, own_grown rb1 hg (fun g1 h1 h2 => hI.ap g1 h2 h1), ?_⟩ ?_
    · rw [opC_app, ← hpv]; exact how
    · intro g1 h1 h2
      simp [Value.ownBlock] at h1
      subst h1
      rcases hgo with hgo | hgo
      · exact hI.ap g hgo h2
      · have := (own_blk hI.rb h2).2.1
        rw [World.size_alloc] at hgo
        omega
    · exact (B.alloc hbase _).grown hg (by simp; omega) (fun k hk => (own_blk ra1 hk).1)

/-- two rows of programs -/
structure Two (w : World) (base k1 k2 : Nat) (v1 v2 : Value) (p1 p2 : Nat → Value) (o1 o2 : Nat → List OpV) : Prop where
  r1 : w.ownsRow base 25 1 v1 k1 ((List.range k1).map p1)
  r2 : w.ownsRow base 25 1 v2 k2 ((List.range k2).map p2)
  ap : ∀ g, v1.ownBlock = some g → v2.ownBlock ≠ some g
  q1 : ∀ i, i < k1 → w.ownsRow base 27 5 (p1 i) (o1 i).length (opC (o1 i))
  q2 : ∀ i, i < k2 → w.ownsRow base 27 5 (p2 i) (o2 i).length (opC (o2 i))
theorem Two.swap {w : World} {base k1 k2 : Nat} {v1 v2 : Value} {p1 p2 : Nat → Value} {o1 o2 : Nat → List OpV} (h : Two w base k1 k2 v1 v2 p1 p2 o1 o2) : Two w base k2 k1 v2 v1 p2 p1 o2 o1 := ⟨h.r2, h.r1, fun g h1 h2 => h.ap g h2 h1, h.q2, h.q1⟩
theorem Two.below {w w' : World} {base k1 k2 : Nat} {v1 v2 : Value} {p1 p2 : Nat → Value} {o1 o2 : Nat → List OpV} (h : Two w base k1 k2 v1 v2 p1 p2 o1 o2) (hb : Below w.heap.size w w') : Two w' base k1 k2 v1 v2 p1 p2 o1 o2 :=
  ⟨own_below h.r1 hb, own_below h.r2 hb, h.ap, fun i hi => own_below (h.q1 i hi) hb, fun i hi => own_below (h.q2 i hi) hb⟩
theorem Two.keep {w w' : World} {base k1 k2 : Nat} {v1 v2 : Value} {p1 p2 : Nat → Value} {o1 o2 : Nat → List OpV} {gn : Nat} (h : Two w base k1 k2 v1 v2 p1 p2 o1 o2) (hk : Keep [gn] w w') (hr : ∃ cs, Blk w gn 114 cs) : Two w' base k1 k2 v1 v2 p1 p2 o1 o2 := by
  obtain ⟨cs, hr⟩ := hr
  have key : ∀ {b s k : Nat} {e : TypeId} {v : Value} {xs : List Value}, w.ownsRow b e s v k xs → e ≠ 114 → ∀ g, v.ownBlock = some g → g ∉ [gn] := by
    intro b s k e v xs ho hne g hg hx
    rw [List.mem_singleton] at hx
    subst hx
    obtain ⟨_, _, cur, q⟩ := own_blk ho hg
    unfold Blk at hr
    rw [hr] at q
    injection q with q
    injection q with _ q
    exact hne q.symm
  exact ⟨own_keep h.r1 hk (key h.r1 (by decide)), own_keep h.r2 hk (key h.r2 (by decide)), h.ap, fun i hi => own_keep (h.q1 i hi) hk (key (h.q1 i hi) (by decide)), fun i hi => own_keep (h.q2 i hi) hk (key (h.q2 i hi) (by decide))⟩
theorem Two.nil (w : World) (base : Nat) (p1 p2 : Nat → Value) (o1 o2 : Nat → List OpV) : Two w base 0 0 (.slice none 0 0) (.slice none 0 0) p1 p2 o1 o2 := ⟨World.ownsRow_nil _ _ _ _, World.ownsRow_nil _ _ _ _, (fun g h => by cases h), (fun i hi => absurd hi (by omega)), (fun i hi => absurd hi (by omega))⟩

theorem wpList_two {w w0 : World} {base k1 k2 : Nat} {A : Option Addr} {c : Nat} {v2 : Value} {p1 p2 : Nat → Value} {o1 o2 : Nat → List OpV} {ops : Array Oper} {rest : List Oper} {o : Oper} {a : Act} {Q : Exit → Act → World → Prop} (hgd : o.guard = none) (sx xx : Operand)
    (ho : o.op = .call { callee := .builtin .append, args := #[sx, xx], argTypes := #[24, 24] })
    (hs : a.eval sx = .slice A k1 c) (hT : Two w base k1 k2 (.slice A k1 c) v2 p1 p2 o1 o2) (B : Below base w0 w) (hbase : base ≤ w.heap.size) (A1 : Option Addr) (n1 c1 : Nat) (hav : w.ownsRow base 27 5 (.slice A1 n1 c1) (o1 k1).length (opC (o1 k1))) (hk : k1 ≤ 1000000)
    (H : Nat) (hx : a.eval xx = .slice (some ⟨H, 0, none⟩) 1 1) (hH : w.heap.size = H)
    (h : ∀ A' c' w' p1', Two w' base (k1 + 1) k2 (.slice A' (k1 + 1) c') v2 p1' p2 o1 o2 → Below base w0 w' → (∀ vb nb xb, w.ownsRow base 27 5 vb nb xb → w'.ownsRow base 27 5 vb nb xb) → wpList Try.prog ops Q rest (a.put o.dst (.slice A' (k1 + 1) c')) w') :
    wpList Try.prog ops Q (o :: rest) a (w.alloc (.cells #[.slice A1 n1 c1] 25)) := by
  obtain ⟨i, hi, hz, hsz, hb⟩ := info_parts infoPr
  have hal := ball w (.cells #[.slice A1 n1 c1] 25)
  have hT1 := hT.below hal
  have hbk := Blk.new w 25 #[.slice A1 n1 c1]
  rw [hH] at hbk
  refine wpList_append_lies (P := Try.prog) (w := w.alloc (.cells #[.slice A1 n1 c1] 25)) hgd sx xx 24 ho base 25 i _ 1 24 Try.underlying24 hi hz hsz hb rfl (by omega) _ k1 _ hs hT1.r1 ⟨H, 0, none⟩ 1 1 [.slice A1 n1 c1] hx rfl ?_ ?_ (by omega) (by unfold maxLen; omega) (by omega) (by simp; omega) _ rfl ?_
  · intro j u hu
    rw [addr_add, Nat.zero_add, hbk.cell]
    simpa using hu
  · intro u hu
    simp at hu
    subst hu; rfl
  · intro g cap w' how hg hgo hlt
    have keepO : ∀ vb nb xb, (w.alloc (.cells #[.slice A1 n1 c1] 25)).ownsRow base 27 5 vb nb xb → w'.ownsRow base 27 5 vb nb xb := fun vb nb xb hv => own_grown hv hg (fun g1 h1 h2 => own_types hv hT1.r1 (by decide) h1 h2)
    refine h (some ⟨g, 0, none⟩) cap w' (upd p1 k1 (.slice A1 n1 c1)) ⟨?_, own_grown hT1.r2 hg (fun g1 h1 h2 => hT.ap g1 h2 h1), ?_, fun j hj => ?_, fun j hj => keepO _ _ _ (hT1.q2 j hj)⟩ ?_ (fun vb nb xb hv => keepO _ _ _ (own_below hv hal))
    · have e : ((List.range (k1 + 1)).map (upd p1 k1 (.slice A1 n1 c1))) = (List.range k1).map p1 ++ [.slice A1 n1 c1] := by
        rw [List.range_succ, List.map_append]
        congr 1
        · apply List.map_congr_left
          intro j hj
          have : j ≠ k1 := by have := List.mem_range.1 hj; omega
          unfold upd; rw [if_neg this]
        · simp [upd_same]
      rw [e]; exact how
    · intro g1 h1 h2
      simp [Value.ownBlock] at h1
      subst h1
      rcases hgo with hgo | hgo
      · exact hT.ap g hgo h2
      · have := (own_blk hT.r2 h2).2.1
        rw [World.size_alloc] at hgo
        omega
    · by_cases e : j = k1
      · subst e
        rw [upd_same]
        exact keepO _ _ _ (own_below hav hal)
      · unfold upd; rw [if_neg e]
        exact keepO _ _ _ (hT1.q1 j (by omega))
    · exact (B.alloc hbase _).grown hg (by simp; omega) (fun k hk => (own_blk hT1.r1 hk).1)

def slP : Value → Option Addr × Nat × Nat
  | .slice a n c => (a, n, c)
  | _ => (none, 0, 0)
/-- a program that was grown, as it is read -/
theorem own_prog {w : World} {base : Nat} {v : Value} {os : List OpV} (h : w.ownsRow base 27 5 v os.length (opC os)) (h0 : 0 < os.length) (hok : ∀ o ∈ os, o.ok) :
    ∃ g c, v = .slice (some ⟨g, 0, none⟩) os.length c ∧ base ≤ g ∧ g < w.heap.size ∧ RdP w (some ⟨g, 0, none⟩) os := by
  rcases h.2 with ⟨_, e⟩ | ⟨g, cap, cur, e, hg, hh, hnc, hcm, hcs, ht⟩
  · omega
  · refine ⟨g, cap, e, hg, (Array.getElem?_eq_some_iff.1 hh).1, hok, fun hp => ⟨g, 0, rfl, (Array.getElem?_eq_some_iff.1 hh).1, fun i hi => ?_⟩⟩
    obtain ⟨h0, h1, h2, h3, h4⟩ := opC_at os i hi
    have e : ∀ j, j < 5 → w.cell? ⟨g, i * 5 + j, none⟩ = (opC os)[i * 5 + j]? := by
      intro j hj
      rw [cell_of_row w g _ cur _ _ hh, ← ht, List.getElem?_take_of_lt (by omega), Array.getElem?_toList]
    have e0 := e 0 (by omega)
    simp only [Nat.add_zero] at e0
    simp only [Nat.zero_add]
    rw [e0, e 1 (by omega), e 2 (by omega), e 3 (by omega), e 4 (by omega)]
    exact ⟨h0, h1, h2, h3, h4⟩
/-- programs and picks, as they are handed to Rest -/
theorem Two.tin {w : World} {base gc gn n np k2 : Nat} {A : Option Addr} {c : Nat} {v2 : Value} {l : List Int} {p1 p2 : Nat → Value} {o1 o2 : Nat → List OpV} (hT : Two w base np k2 (.slice A np c) v2 p1 p2 o1 o2) (hC : Cl w gc gn n l) (h0 : 0 < np) (h64 : np ≤ 64) (hl0 : ∀ i, i < np → 0 < (o1 i).length) (hlen : ∀ i, i < np → (o1 i).length ≤ 1000000) (hok : ∀ i, i < np → ∀ o ∈ o1 i, o.ok)
    {B : Option Addr} {nz cz : Nat} {zs : List Int} (hz : zs.length = nz) (hR : RdN .i64 w B zs) (hB : 0 < nz → ∀ b off, B = some ⟨b, off, none⟩ → b < w.heap.size ∧ b ≠ gn) (hzn : nz ≤ cz) (hzc : cz ≤ maxLen) :
    TIn w gc gn n l A np c np (fun i => slP (p1 i)) o1 B nz cz zs := by
  rcases hT.r1.2 with ⟨_, e⟩ | ⟨g, cap, cur, e, hg, hh, hnc, hcm, hcs, ht⟩
  · omega
  · injection e with e1 e2 e3
    subst e1 e3
    have key := fun i (hi : i < np) => own_prog (hT.q1 i hi) (hl0 i hi) (hok i hi)
    refine ⟨hC, fun _ => ⟨g, 0, rfl, (Array.getElem?_eq_some_iff.1 hh).1, fun i hi => ?_⟩, fun i hi => ?_, fun i hi b off e => ?_, fun i hi => ?_, by omega, h0, hcm, hnc, hz, hR, hB, hzn, hzc⟩
    · obtain ⟨gi, ci, ep, _⟩ := key i hi
      rw [Nat.zero_add, cell_of_row w g _ cur _ _ hh, ← Array.getElem?_toList, ← List.getElem?_take_of_lt (show i < np * 1 by omega), ht]
      simp [hi, ep, slP]
    · obtain ⟨gi, ci, ep, _, _, hr⟩ := key i hi
      simp only [ep, slP]
      exact hr
    · obtain ⟨gi, ci, ep, hgi, hgl, hr⟩ := key i hi
      simp only [ep, slP] at e
      injection e with e; injection e with e1 e2
      subst e1
      refine ⟨hgl, fun he => ?_⟩
      subst he
      obtain ⟨_, _, cur', q⟩ := own_blk (hT.q1 i hi) (g := gi) (by rw [ep]; rfl)
      have hb := hC.nu
      unfold Blk at hb
      rw [hb] at q
      injection q with q
      injection q with _ q
      exact absurd q (by decide)
    · obtain ⟨gi, ci, ep, _⟩ := key i hi
      simp only [ep, slP]
      exact ⟨trivial, hlen i hi⟩
end Go.Proofs.Ytgengboaoniogaa
