/-
  EpochEach: each thing that was given up is told once, in order; what is not told yet waits. Conditions stand in each theorem.
-/
import Derived.Test.YtkiiofaemladcaaEpochRests
import Derived.Deep.CutBlock
namespace Go.Proofs.Ytkiiofaemladcaa
open Go.RowKit Go.Deep Plain
set_option linter.unusedVariables false
set_option maxRecDepth 100000

/-- one worker's: so many were told, the others wait in order; their epochs are not above one number -/
structure OneE (x t : Nat) (gs : List (Int × Int)) : Prop where
  vals : ∀ j, j < gs.length → (gs.getD j default).1 = ((t + j : Nat) : Int)
  eps : ∀ j, j < gs.length → 0 ≤ (gs.getD j default).2 ∧ (gs.getD j default).2 ≤ x
def EachC (n i x : Nat) (G : Nat → List (Int × Int)) (gv td : List Int) : Prop :=
  gv.length = n ∧ td.length = n ∧ ∀ k, k < n → ∃ t : Nat, td.getD k 0 = (t : Int) ∧ gv.getD k 0 = ((t + (G k).length : Nat) : Int) ∧ t + (G k).length ≤ i ∧ OneE x t (G k)
def EachR (w : World) (ge gc gn gg n gr gt i : Nat) (wr : World) : Prop :=
  ∃ (x : Nat) (G : Nat → List (Int × Int)) (gv td : List Int), x ≤ i ∧ EpB wr ge gc gn gg n (l1 n x) ∧ Gs wr w.heap.size gg n G ∧ Row .i64 3 wr gr gv ∧ Row .i64 3 wr gt td ∧ Below w.heap.size w wr ∧ EachC n i x G gv td
theorem OneE.gok {x t : Nat} {gs : List (Int × Int)} (h : OneE x t gs) (hx : x ≤ 1000) : GOk gs := fun i hi => by have := h.eps i hi; omega
theorem getD_app {gs : List (Int × Int)} {y : Int × Int} (j : Nat) : (gs ++ [y]).getD j default = if j < gs.length then gs.getD j default else if j = gs.length then y else default := by
  simp only [List.getD]
  by_cases h : j < gs.length
  · rw [if_pos h, List.getElem?_append_left h]
  · rw [if_neg h, List.getElem?_append_right (by omega)]
    by_cases e : j = gs.length
    · rw [if_pos e, e]; simp
    · rw [if_neg e, List.getElem?_eq_none (by simp; omega)]; rfl
theorem OneE.give {x t : Nat} {gs : List (Int × Int)} (h : OneE x t gs) : OneE x t (gs ++ [(((t + gs.length : Nat) : Int), (x : Int))]) := by
  constructor
  · intro j hj
    rw [getD_app]
    rw [List.length_append] at hj
    by_cases e : j < gs.length
    · rw [if_pos e]; exact h.vals j e
    · rw [if_neg e, if_pos (by simp at hj; omega)]
      have : j = gs.length := by simp at hj; omega
      rw [this]
  · intro j hj
    rw [getD_app]
    rw [List.length_append] at hj
    by_cases e : j < gs.length
    · rw [if_pos e]; exact h.eps j e
    · rw [if_neg e, if_pos (by simp at hj; omega)]; simp
theorem OneE.take {x t : Nat} {gs : List (Int × Int)} (h : OneE x t gs) (r : Nat) : OneE x (t + r) (gs.drop r) := by
  have e : ∀ j, j < (gs.drop r).length → (gs.drop r).getD j default = gs.getD (r + j) default := fun j hj => by
    simp [List.getD, List.getElem?_drop]
  constructor
  · intro j hj
    rw [e j hj, h.vals (r + j) (by rw [List.length_drop] at hj; omega)]
    omega
  · intro j hj
    rw [e j hj]
    exact h.eps (r + j) (by rw [List.length_drop] at hj; omega)
theorem OneE.up {x t : Nat} {gs : List (Int × Int)} (h : OneE x t gs) : OneE (x + 1) t gs := ⟨h.vals, fun j hj => by have := h.eps j hj; omega⟩
theorem EachC.up {n i x : Nat} {G : Nat → List (Int × Int)} {gv td : List Int} (h : EachC n i x G gv td) : EachC n (i + 1) (x + 1) G gv td :=
  ⟨h.1, h.2.1, fun k hk => by obtain ⟨t, a, b, c, d⟩ := h.2.2 k hk; exact ⟨t, a, b, by omega, d.up⟩⟩
theorem EachC.mono {n i x : Nat} {G : Nat → List (Int × Int)} {gv td : List Int} (h : EachC n i x G gv td) : EachC n (i + 1) x G gv td :=
  ⟨h.1, h.2.1, fun k hk => by obtain ⟨t, a, b, c, d⟩ := h.2.2 k hk; exact ⟨t, a, b, by omega, d⟩⟩
theorem getD_set (l : List Int) (i j : Nat) (v : Int) (hi : i < l.length) : (l.set i v).getD j 0 = if j = i then v else l.getD j 0 := by
  by_cases e : j = i
  · subst e; simp [List.getD, hi]
  · rw [if_neg e]; simp [List.getD, Ne.symm e]
theorem EachC.give {n i x K t : Nat} {G : Nat → List (Int × Int)} {gv td : List Int} (h : EachC n i x G gv td) (hK : K < n) (ht : td.getD K 0 = (t : Int)) :
    EachC n (i + 1) x (upE G K (G K ++ [(((t + (G K).length : Nat) : Int), (x : Int))])) (gv.set K (((t + (G K).length : Nat) : Int) + 1)) td := by
  refine ⟨by rw [List.length_set]; exact h.1, h.2.1, fun k hk => ?_⟩
  obtain ⟨t', a, b, c, d⟩ := h.2.2 k hk
  refine ⟨t', a, ?_, ?_, ?_⟩
  · rw [getD_set _ _ _ _ (by rw [h.1]; exact hK)]
    by_cases e : k = K
    · subst e
      rw [if_pos rfl, upE_same, List.length_append]
      have : t' = t := by have := a.symm.trans ht; omega
      subst this
      simp; omega
    · rw [if_neg e, upE_ne _ _ e]; exact b
  · by_cases e : k = K
    · subst e; rw [upE_same, List.length_append]; simp; omega
    · rw [upE_ne _ _ e]; omega
  · by_cases e : k = K
    · subst e
      have : t' = t := by have := a.symm.trans ht; omega
      subst this
      rw [upE_same]; exact d.give
    · rw [upE_ne _ _ e]; exact d
theorem EachC.take {n i x K t r : Nat} {G : Nat → List (Int × Int)} {gv td : List Int} (h : EachC n i x G gv td) (hK : K < n) (ht : td.getD K 0 = (t : Int)) (hr : r ≤ (G K).length) :
    EachC n (i + 1) x (upE G K ((G K).drop r)) gv (td.set K ((t + r : Nat) : Int)) := by
  refine ⟨h.1, by rw [List.length_set]; exact h.2.1, fun k hk => ?_⟩
  obtain ⟨t', a, b, c, d⟩ := h.2.2 k hk
  by_cases e : k = K
  · subst e
    have : t' = t := by have := a.symm.trans ht; omega
    subst this
    refine ⟨t' + r, by rw [getD_set _ _ _ _ (by rw [h.2.1]; exact hK), if_pos rfl], ?_, ?_, by rw [upE_same]; exact d.take r⟩
    · rw [upE_same, List.length_drop, b]; congr 1; omega
    · rw [upE_same, List.length_drop]; omega
  · exact ⟨t', by rw [getD_set _ _ _ _ (by rw [h.2.1]; exact hK), if_neg e]; exact a, by rw [upE_ne _ _ e]; exact b, by rw [upE_ne _ _ e]; omega, by rw [upE_ne _ _ e]; exact d⟩

/-- an Advance goes on beside what was given up -/
def AdvR (w : World) (ge gc gn gg n gr gt gs x : Nat) (G : Nat → List (Int × Int)) (gv td : List Int) (t : Nat) (wt : World) : Prop :=
  t ≤ n + 1 ∧ EpB wt ge gc gn gg n (l1 n x) ∧ StV wt gs gc (adv n x t) ∧ Gs wt w.heap.size gg n G ∧ Row .i64 3 wt gr gv ∧ Row .i64 3 wt gt td ∧ Below w.heap.size w wt
/-- what was taken is looked at -/
def TakR (w : World) (ge gc gn gg n gr gt gz x K t r : Nat) (G : Nat → List (Int × Int)) (gv td zr : List Int) (j : Nat) (wt : World) : Prop :=
  j ≤ r ∧ EpB wt ge gc gn gg n (l1 n x) ∧ Gs wt w.heap.size gg n G ∧ Row .i64 3 wt gr gv ∧ Row .i64 3 wt gt (td.set K ((t + j : Nat) : Int)) ∧ Row .u64 33 wt gz zr ∧ Below w.heap.size w wt
theorem EachR.drewN {w wr : World} {ge gc gn gg n gr gt i : Nat} (h : EachR w ge gc gn gg n gr gt i wr) (q : Nat) : EachR w ge gc gn gg n gr gt i (wr.drewN q) := by
  obtain ⟨x, G, gv, td, hx, he, hg, hwr, hwt, hB, hc⟩ := h
  exact ⟨x, G, gv, td, hx, he.drewN q, hg.drewN q, hwr, hwt, below_drewN hB q, hc⟩
/-- what waits is looked at -/
def LookR (w : World) (ge gc gn gg n gr gt gz i K t m : Nat) (zr : List Int) (j : Nat) (wt : World) : Prop :=
  j ≤ m ∧ EachR w ge gc gn gg n gr gt (i + 1) wt ∧ Row .u64 33 wt gz zr ∧ wt.cell? ⟨gt, K, none⟩ = some (.int .i64 t)
set_option maxHeartbeats 80000000 in
theorem epochEach_walk (n0 : Int) (A : Option Addr) (nz cz : Nat) (zs : List Int) (w : World) (hz : zs.length = nz) (hnc : nz ≤ cz) (hm : cz ≤ maxLen) (hR : RdN .i64 w A zs) :
    Calls Try.prog 7 #[.int .i64 n0, .slice A nz cz] w fun e w' => e = .returned (.bool true) ∧ Below w.heap.size w w' := by
  have HM := Lib.hid hm
  unfold maxLen at hm
  have HZ := Lib.hid hz
  have HR := Lib.hid hR
  clear hz hR
  obtain ⟨K, hK, hKl⟩ := pickN n0 6 (by omega) (by omega)
  go_enter Try.func7, Try.ntmps7
  go_upto_region 2 with fail
  obtain ⟨n, hn⟩ : ∃ n : Nat, (n : Int) = 1 + (K : Int) := ⟨K + 1, by omega⟩
  rw [← hn]
  have hn1 : 1 ≤ n := by omega
  have hn2 : n ≤ 6 := by omega
  clear hK hn hKl
  go_upto_region 3 with (go_at_call 21; refine (eNew_any n hn1 (by omega) w).mono ?_; rintro e w1 ⟨ge, gc, gn, gg, rfl, he, hbg, hB, s1, s2, s3, s4⟩)
  have HE := Lib.hid he
  have HG := Lib.hid (Gs.made hbg s4)
  have HB := Lib.hid hB
  have z1 := hB.size
  clear he hbg hB
  go_upto_region 5 with (go_at_call 12; refine (moves_any _).mono ?_; rintro e w2 ⟨rfl, hb⟩)
  have HE2 := Lib.hid (HE.out.below hb)
  have HG2 := Lib.hid (HG.out.below hb)
  have HB2 := Lib.hid (HB.out.trans (hb.mono z1))
  have z2 := HB2.out.size
  clear HE HB HG hb z1
  have hmk := fun W => mkInts n (by omega) W
  have er : ((List.replicate n (0 : Int)).map (Value.int .i64)).toArray = Array.replicate n (Value.int .i64 0) := by simp
  have key : ∀ gr gt, (gr = w2.heap.size ∧ gt = w2.heap.size + 1) ∨ (gr = w2.heap.size + 1 ∧ gt = w2.heap.size) → EachR w ge gc gn gg n gr gt 0 ((w2.alloc (.cells (Array.replicate n (Value.int .i64 0)) 3)).alloc (.cells (Array.replicate n (Value.int .i64 0)) 3)).drew := by
    intro gr gt hor
    rw [← er]
    have r1 : Row .i64 3 (w2.alloc (.cells ((List.replicate n (0 : Int)).map (Value.int .i64)).toArray 3)) w2.heap.size (List.replicate n 0) := Row.made .i64 3 w2 n
    have r2 := Row.made .i64 3 (w2.alloc (.cells ((List.replicate n (0 : Int)).map (Value.int .i64)).toArray 3)) n
    rw [World.size_alloc] at r2
    have b1 := ball w2 (.cells ((List.replicate n (0 : Int)).map (Value.int .i64)).toArray 3)
    have b2 := ball (w2.alloc (.cells ((List.replicate n (0 : Int)).map (Value.int .i64)).toArray 3)) (.cells ((List.replicate n (0 : Int)).map (Value.int .i64)).toArray 3)
    have bb := bthen b1 b2
    have r1' := Row.below r1 b2
    have hc : EachC n 0 0 (fun _ => []) (List.replicate n 0) (List.replicate n 0) := ⟨List.length_replicate, List.length_replicate, fun k hk => ⟨0, by simp [List.getD, hk], by simp [List.getD, hk], by simp, ⟨by simp, by simp⟩⟩⟩
    have he := (HE2.out.below bb).drewN 1
    have hg := (HG2.out.below bb).drewN 1
    have hb := below_drewN (HB2.out.trans (bb.mono z2)) 1
    rcases hor with ⟨rfl, rfl⟩ | ⟨rfl, rfl⟩
    · exact ⟨0, _, _, _, Nat.le_refl _, he, hg, r1', r2, hb, hc⟩
    · exact ⟨0, _, _, _, Nat.le_refl _, he, hg, r2, r1', hb, hc⟩
  have HKY := Lib.hid key
  clear key er
  go_cut [8, 9] (fun s8 s9 wx => ∃ gr gt : Nat, s8 = .slice (some ⟨gr, 0, none⟩) n n ∧ s9 = .slice (some ⟨gt, 0, none⟩) n n ∧ gr ≠ gt ∧ w.heap.size ≤ gr ∧ w.heap.size ≤ gt ∧ EachR w ge gc gn gg n gr gt 0 wx)
  case first =>
    go_region
    all_goals
      generalize hww : ((w2.alloc (.cells (Array.replicate n (Value.int .i64 0)) 3)).alloc (.cells (Array.replicate n (Value.int .i64 0)) 3)).drew = w7 at *
      go_wp2
      go_meet
      first
        | exact ⟨_, _, rfl, rfl, by omega, by omega, by omega, HKY.out _ _ (.inl ⟨rfl, rfl⟩)⟩
        | exact ⟨_, _, rfl, rfl, by omega, by omega, by omega, HKY.out _ _ (.inr ⟨rfl, rfl⟩)⟩
  case rest =>
    obtain ⟨gr, gt, rfl, rfl, hrt, sr, st, hr0⟩ := hcut
    have HR0 := Lib.hid hr0
    clear hr0 hmk HE2 HG2 HB2 z2
    go_wp2
    go_loopw [10, 11, 12, 13, 14, 15, 16, 17] (fun s10 s11 s12 s13 s14 s15 s16 s17 wr => ∃ i : Nat, s10 = .int .i64 i ∧ i ≤ nz ∧ i ≤ 100 ∧ EachR w ge gc gn gg n gr gt i wr) (fun i _ _ _ _ _ _ _ _ => 100 - (intOf i).toNat)
    case atStart => exact ⟨0, rfl, by omega, by omega, HR0.out⟩
    case round =>
      obtain ⟨i, rfl, hi, hi1, hr⟩ := hrel
      have HR1 := Lib.hid hr
      clear hr HR0
      by_cases hlt : i < nz ∧ i < 100
      · obtain ⟨hl1, hl2⟩ := hlt
        obtain ⟨bk, off, rfl, hbl, hcell⟩ := HR.out.2 (by rw [HZ.out]; omega)
        have cj0 := hcell i (by rw [HZ.out]; exact hl1)
        have cj := (show Below w.heap.size w wr by obtain ⟨x, G, gv, td, _, _, _, _, _, hB, _⟩ := HR1.out; exact hB).cell (p := ⟨bk, off + i, none⟩) hbl |>.trans cj0
        clear hcell cj0
        generalize zs.getD i 0 = pk at *
        obtain ⟨K, hK, hKl⟩ := pickN ((IntKind.u64.wrap pk).tdiv 4) n (by omega) (by omega)
        obtain ⟨q, hq, hql⟩ := pickN pk 4 (by omega) (by omega)
        have hKn : K < n := by omega
        go_upto_block 2 with fail
        rw [hK, hq]
        clear hK hq hKl cj
        go_cut [12] (fun s12 wx => EachR w ge gc gn gg n gr gt (i + 1) wx)
        case first => as_aux_lemma =>
          obtain ⟨x, G, gv, td, hx, he, hg, hwr, hwt, hB, hc⟩ := HR1.out
          have HE := Lib.hid he
          have HG := Lib.hid hg
          have HWR := Lib.hid hwr
          have HWT := Lib.hid hwt
          have HB := Lib.hid hB
          have HC := Lib.hid hc
          have z4 := hB.size
          obtain ⟨t, ht, hgt, htl, hone⟩ := hc.2.2 K hKn
          have HT := Lib.hid ht
          have HO := Lib.hid hone
          obtain ⟨m, hm'⟩ : ∃ m, m = (G K).length := ⟨_, rfl⟩
          rw [← hm'] at hgt htl
          have HM1 := Lib.hid hm'
          have HGT := Lib.hid hgt
          obtain ⟨g0, hg0⟩ : ∃ g0 : Nat, g0 = t + m := ⟨_, rfl⟩
          rw [← hg0] at hgt htl
          have c1 := hwr.at (i := K) (by rw [hc.1]; exact hKn)
          rw [hgt] at c1
          have HG0 := Lib.hid hg0
          clear he hg hwr hwt hB hc ht hgt hone hm' hg0 HR1
          by_cases hq1 : q ≤ 1
          · have HGV := Lib.hid (gsGive HE.out HG.out K hKn g0 (by rw [← HM1.out]; have := HG0.out; omega) z4)
            have q01 : q = 0 ∨ q = 1 := by omega
            clear hql hq1
            rcases q01 with rfl | rfl
            all_goals
              go_upto_region 15 with (go_at_call 15; refine (HGV.out).mono ?_; rintro e w4 ⟨rfl, hg4, hk4⟩)
              have HE4 := Lib.hid (hk4.ep HE.out HG.out.blk)
              have HWR4 := Lib.hid (hk4.row HWR.out HG.out.blk)
              have HWT4 := Lib.hid (hk4.row HWT.out HG.out.blk)
              have HB4 := Lib.hid (hk4.below HB.out (Nat.le_refl _) (Nat.le_refl _) s4)
              have HG4 := Lib.hid hg4
              have c4 := HWR4.out.at (i := K) (by rw [HC.out.1]; exact hKn)
              have f4 := HWR4.out.free K
              rw [HGT.out, ← HG0.out] at c4
              clear hg4 hk4 HE HWR HWT HB HG HGV c1
              go_wp2
              go_meet
              have hcg := HC.out.give hKn HT.out
              rw [← HM1.out, ← HG0.out] at hcg
              exact ⟨x, _, _, td, by omega, HE4.out.putR HWR4.out K _, HG4.out.putR HWR4.out K _, HWR4.out.set K _, Row.ne HWT4.out (p := ⟨gr, K, none⟩) hrt _, HB4.out.setCell (p := ⟨gr, K, none⟩) sr _, hcg⟩
          · by_cases hq2 : q = 2
            · subst hq2
              clear hql hq1 c1 HO
              go_upto_region 18 with (go_at_call 26; refine (eAdvance_any HE.out).mono ?_; rintro e w5 ⟨rfl, hs, hb⟩)
              have HE3 := Lib.hid (HE.out.below hb)
              have HG3 := Lib.hid (HG.out.below hb)
              have HWR3 := Lib.hid (show Row .i64 3 w5 gr gv from Row.below HWR.out hb)
              have HWT3 := Lib.hid (show Row .i64 3 w5 gt td from Row.below HWT.out hb)
              have HB3 := Lib.hid (HB.out.trans (hb.mono z4))
              have HS3 := Lib.hid (show StV w5 wr.heap.size gc (adv n x 0) from hs)
              clear hs hb HE HG HB HWR HWT
              generalize wr.heap.size = gs at *
              go_wp2
              go_loopw [13] (fun s13 wt => ∃ t : Nat, s13 = .int .i64 t ∧ AdvR w ge gc gn gg n gr gt gs x G gv td t wt) (fun t _ => n + 2 - (intOf t).toNat)
              case atStart => exact ⟨0, rfl, by omega, HE3.out, HS3.out, HG3.out, HWR3.out, HWT3.out, HB3.out⟩
              case round =>
                obtain ⟨t, rfl, ht, he, hs, hg, hwr, hwt, hB⟩ := hrel
                have HE := Lib.hid he
                have HS := Lib.hid hs
                have HG := Lib.hid hg
                have HWR := Lib.hid hwr
                have HWT := Lib.hid hwt
                have HB := Lib.hid hB
                have HL := Lib.hid (show ∀ k, 1 ≤ k → k ≤ n → (l1 n x).getD k 0 = 0 ∨ (l1 n x).getD k 0 = m64 ((x : Int) + 1) from fun k h1 h2 => .inl (l1_at n x k h1))
                clear he hs hg hwr hwt hB HE3 HS3 HG3 HB3 HWR3 HWT3
                have t5 : (t : Int) < (n : Int) + 5 := by omega
                by_cases h1 : t ≤ n
                · go_wp2_with (go_at_call 19; refine (adv_do HE.out t HS.out rfl HL.out h1).mono ?_; rintro e w6 ⟨rfl, he4, hs4, hk4⟩)
                  have HG4 := Lib.hid (HG.out.done HE.out HS.out hk4)
                  have HWR4 := Lib.hid (Row.done HWR.out HE.out HS.out hk4)
                  have HWT4 := Lib.hid (Row.done HWT.out HE.out HS.out hk4)
                  have HB4 := Lib.hid (hk4.two HB.out (Nat.le_refl _) s3 z4)
                  go_roundw
                  case rel => exact ⟨t + 1, by go_num, by omega, he4, hs4, HG4.out, HWR4.out, HWT4.out, HB4.out⟩
                  case measure => simp [intOf]; omega
                · obtain rfl : t = n + 1 := by omega
                  go_wp2_with (go_at_call 19; refine (adv_fin HE.out HS.out rfl).mono ?_; rintro e w6 ⟨rfl, he4, hs4, hk4⟩)
                  have HG4 := Lib.hid (HG.out.done HE.out HS.out hk4)
                  have HWR4 := Lib.hid (Row.done HWR.out HE.out HS.out hk4)
                  have HWT4 := Lib.hid (Row.done HWT.out HE.out HS.out hk4)
                  have HB4 := Lib.hid (hk4.two HB.out (Nat.le_refl _) s3 z4)
                  have el : (l1 n x).set 0 (m64 ((x : Int) + 1)) = l1 n (x + 1) := by
                    have e : m64 ((x : Int) + 1) = ((x + 1 : Nat) : Int) := by unfold m64; omega
                    rw [e]; rfl
                  rw [el] at he4
                  go_meet
                  exact ⟨x + 1, G, gv, td, by omega, he4, HG4.out, HWR4.out, HWT4.out, HB4.out, HC.out.up⟩
            · obtain rfl : q = 3 := by omega
              clear hql hq1 hq2 c1
              obtain ⟨r, hr⟩ : ∃ r, r = ripeN (G K) ((l1 n x).getD 0 0) := ⟨_, rfl⟩
              have hrm : r ≤ m := by rw [HM1.out, hr]; exact ripeN_le _ _
              have hm1 : m ≤ 101 := by have := HG0.out; omega
              have HTK := Lib.hid (gsTake HE.out HG.out K hKn (by rw [← HM1.out]; omega) (HO.out.gok (by omega)) r hr)
              have HZS := Lib.hid (show ∀ j, j < r → (((G K).take r).map (·.1)).getD j 0 = ((t + j : Nat) : Int) from fun j hj => by
                rw [← HO.out.vals j (by rw [← HM1.out]; omega)]
                have h1 : j < (G K).length := by rw [← HM1.out]; omega
                simp [List.getD, h1, hj])
              have HZL := Lib.hid (show (((G K).take r).map (·.1)).length = r by rw [List.length_map, List.length_take, ← HM1.out]; omega)
              have zz := hrm
              clear hr
              go_upto_region 23 with (go_at_call 16; refine (HTK.out).mono ?_; rintro e w5 ⟨rfl, hrow, hg5, hk5⟩)
              have HE5 := Lib.hid (hk5.ep HE.out HG.out.blk)
              have HWR5 := Lib.hid (hk5.row HWR.out HG.out.blk)
              have HWT5 := Lib.hid (hk5.row HWT.out HG.out.blk)
              have HB5 := Lib.hid (hk5.below HB.out (Nat.le_refl _) (Nat.le_refl _) s4)
              have HG5 := Lib.hid hg5
              have HZ5 := Lib.hid hrow
              clear hrow hg5 hk5 HE HG HWR HWT HB HTK
              generalize ((G K).take r).map (·.1) = zr at *
              generalize wr.heap.size = gz at *
              have etd : td = td.set K ((t + 0 : Nat) : Int) := by
                apply List.ext_getElem?
                intro j
                rw [List.getElem?_set]
                have hl : K < td.length := by rw [HC.out.2.1]; exact hKn
                split
                · rename_i e
                  subst e
                  have := HT.out
                  simp only [List.getD, List.getElem?_eq_getElem hl, Option.getD_some] at this
                  rw [List.getElem?_eq_getElem hl, this]; rfl
                · rfl
              rw [etd] at HWT5
              clear etd
              go_wp2
              go_loopw [15] (fun s15 wt => ∃ j : Nat, s15 = .int .i64 j ∧ TakR w ge gc gn gg n gr gt gz x K t r (upE G K ((G K).drop r)) gv td zr j wt) (fun j _ => r - (intOf j).toNat)
              case atStart => exact ⟨0, rfl, by omega, HE5.out, HG5.out, HWR5.out, HWT5.out, HZ5.out, HB5.out⟩
              case round =>
                obtain ⟨j, rfl, hj, he, hg, hwr, hwt, hzr, hB⟩ := hrel
                have HE := Lib.hid he
                have HG := Lib.hid hg
                have HWR := Lib.hid hwr
                have HWT := Lib.hid hwt
                have HZR := Lib.hid hzr
                have HB := Lib.hid hB
                have lt1 := hwt.lt
                have lz1 := hzr.lt
                by_cases hjr : j < r
                · have cz1 := hzr.at (i := j) (by rw [HZL.out]; exact hjr)
                  have ct1 := hwt.at (i := K) (by rw [List.length_set, HC.out.2.1]; exact hKn)
                  have ft1 := hwt.free K
                  rw [HZS.out j hjr] at cz1
                  rw [getD_set _ _ _ _ (by rw [HC.out.2.1]; exact hKn), if_pos rfl] at ct1
                  obtain ⟨u, hu⟩ : ∃ u, u = t + j := ⟨_, rfl⟩
                  rw [← hu] at cz1 ct1
                  have hu1 : u ≤ 1000 := by have := HG0.out; omega
                  have HU := Lib.hid hu
                  clear he hg hwr hwt hzr hB hu HE5 HG5 HWR5 HWT5 HZ5 HB5
                  go_upto_region 26 with fail
                  go_quiet (fail)
                  go_wp2
                  go_roundw
                  case rel =>
                    refine ⟨j + 1, by go_num, by omega, (HE.out.drewN _).putR (HWT.out) K _, (HG.out.drewN _).putR (HWT.out) K _, Row.ne HWR.out (p := ⟨gt, K, none⟩) (Ne.symm hrt) _, ?_, ?_, (below_drewN HB.out _).setCell (p := ⟨gt, K, none⟩) st _⟩
                    · have hs := Row.set (w := wr.drewN nq) HWT.out K ((u : Int) + 1)
                      have e : ((u : Int) + 1) = ((t + (j + 1) : Nat) : Int) := by rw [HU.out]; omega
                      rw [List.set_set] at hs
                      rw [← e]
                      exact hs
                    · have hne : gt ≠ gz := blk_types HWT.out HZR.out (by decide)
                      exact Row.ne HZR.out (p := ⟨gt, K, none⟩) hne _
                  case measure => simp [intOf]; omega
                · obtain rfl : j = r := by omega
                  clear he hg hwr hwt hzr hB HE5 HG5 HWR5 HWT5 HZ5 HB5
                  go_wp2
                  go_meet
                  exact ⟨x, _, gv, _, by omega, HE.out, HG.out, HWR.out, HWT.out, HB.out, HC.out.take hKn HT.out (by rw [← HM1.out]; exact hrm)⟩
        case rest =>
          obtain ⟨x, G, gv, td, hx, he, hg, hwr, hwt, hB, hc⟩ := hcut
          obtain ⟨t, ht, hgt, htl, hone⟩ := hc.2.2 K hKn
          obtain ⟨m, hm'⟩ : ∃ m, m = (G K).length := ⟨_, rfl⟩
          rw [← hm'] at hgt htl
          obtain ⟨g0, hg0⟩ : ∃ g0 : Nat, g0 = t + m := ⟨_, rfl⟩
          rw [← hg0] at hgt htl
          have c1 := hwr.at (i := K) (by rw [hc.1]; exact hKn)
          rw [hgt] at c1
          have c2 := hwt.at (i := K) (by rw [hc.2.1]; exact hKn)
          rw [ht] at c2
          have HE := Lib.hid he
          have HG := Lib.hid hg
          have HWR := Lib.hid hwr
          have HWT := Lib.hid hwt
          have HB := Lib.hid hB
          have HC := Lib.hid hc
          have z4 := hB.size
          have HGN := Lib.hid (show Calls Try.prog 18 #[.pointer (some ⟨ge, 0, none⟩), .int .i64 K] wc fun e w' => e = .returned (.slice (some ⟨wc.heap.size, 0, none⟩) m m) ∧ Row .u64 33 w' wc.heap.size ((G K).map (·.1)) ∧ Below wc.heap.size wc w' from by
            have h := gsGiven he hg K hKn (by rw [← hm']; omega)
            rw [← hm'] at h
            exact h)
          have HWTG := Lib.hid (fun W (hW : EpB W ge gc gn gg n (l1 n x)) (hg : Gs W w.heap.size gg n G) => show Calls Try.prog 17 #[.pointer (some ⟨ge, 0, none⟩), .int .i64 K] W fun e w' => e = .returned (.int .i64 m) ∧ W = w' from by
            have h := gsWaiting hW hg K hKn
            rw [← hm'] at h
            exact h)
          have HZS := Lib.hid (show ∀ j, j < m → ((G K).map (·.1)).getD j 0 = ((t + j : Nat) : Int) from fun j hj => by
            rw [← hone.vals j (by rw [← hm']; omega)]
            have h1 : j < (G K).length := by rw [← hm']; omega
            simp [List.getD, h1])
          have HZL := Lib.hid (show ((G K).map (·.1)).length = m by rw [List.length_map, hm'])
          have hxi := hx
          have d1 : decide ((g0 : Int) < (t : Int)) = false := decide_eq_false (by omega)
          have d1' : decide (g0 < t) = false := decide_eq_false (by omega)
          have d2 : (g0 : Int) - (t : Int) = (m : Int) := by omega
          have d3 : ((m : Int) != (g0 : Int) - (t : Int)) = false := by rw [d2]; simp
          have g0m : g0 ≤ 101 := by omega
          have t0m : t ≤ 101 := by omega
          have m0m : m ≤ 101 := by omega
          have d4 : ((m : Int) != IntKind.i64.wrap (m : Int)) = false := by
            rw [show IntKind.i64.wrap (m : Int) = (m : Int) by rw [IntKind.wrap_i64]; omega]; simp
          clear hx he hg hwr hwt hB hc ht hgt htl hone hm' hg0 HR1
          go_upto_region 30 with (go_at_call 18; refine (HGN.out).mono ?_; rintro e w5 ⟨rfl, hrow, hb⟩)
          have HE5 := Lib.hid (HE.out.below hb)
          have HG5 := Lib.hid (HG.out.below hb)
          have HWR5 := Lib.hid (show Row .i64 3 w5 gr gv from Row.below HWR.out hb)
          have HWT5 := Lib.hid (show Row .i64 3 w5 gt td from Row.below HWT.out hb)
          have HB5 := Lib.hid (HB.out.trans (hb.mono z4))
          have HZ5 := Lib.hid hrow
          have c1' := (hb.cell (p := ⟨gr, K, none⟩) HWR.out.lt).trans c1
          have c2' := (hb.cell (p := ⟨gt, K, none⟩) HWT.out.lt).trans c2
          clear hrow hb c1 c2 HGN HE HG HWR HWT HB
          generalize ((G K).map (·.1)) = zr at *
          generalize wc.heap.size = gz at *
          go_quiet ((go_at_call 17; exact quietB (HWTG.out _ (HE5.out.drewN _) (HG5.out.drewN _))))
          have HR3 := Lib.hid (show EachR w ge gc gn gg n gr gt (i + 1) (w5.drewN nq) from ⟨x, G, gv, td, hxi, HE5.out.drewN _, HG5.out.drewN _, HWR5.out, HWT5.out, below_drewN HB5.out _, HC.out⟩)
          have HZ6 := Lib.hid (show Row .u64 33 (w5.drewN nq) gz zr from HZ5.out)
          have HC2 := Lib.hid (show (w5.drewN nq).cell? ⟨gt, K, none⟩ = some (.int .i64 t) from c2')
          clear HE5 HG5 HWR5 HWT5 HB5 HZ5 c1' c2' HWTG
          generalize w5.drewN nq = w6 at *
          clear d1 d1' d2 d3 d4
          go_wp2
          go_loopw [17] (fun s17 wt => ∃ j : Nat, s17 = .int .i64 j ∧ LookR w ge gc gn gg n gr gt gz i K t m zr j wt) (fun j _ => m - (intOf j).toNat)
          case atStart => exact ⟨0, rfl, by omega, HR3.out, HZ6.out, HC2.out⟩
          case round =>
            obtain ⟨j, rfl, hj, hr, hz, hc⟩ := hrel
            have HR4 := Lib.hid hr
            have HZ7 := Lib.hid hz
            have HC7 := Lib.hid hc
            clear HR3 HZ6 HC2
            by_cases hjm : j < m
            · have cz1 := hz.at (i := j) (by rw [HZL.out]; exact hjm)
              rw [HZS.out j hjm, show ((t + j : Nat) : Int) = (t : Int) + (j : Int) by omega] at cz1
              have d5 : IntKind.i64.wrap ((t : Int) + (j : Int)) = (t : Int) + (j : Int) := by rw [IntKind.wrap_i64]; omega
              have d6 : IntKind.u64.wrap ((t : Int) + (j : Int)) = (t : Int) + (j : Int) := by rw [IntKind.wrap_u64]; omega
              clear hr hz
              go_upto_region 35 with fail
              go_quiet (fail)
              have HR8 := Lib.hid (show EachR w ge gc gn gg n gr gt (i + 1) (wr.drewN nq) from HR4.out.drewN nq)
              go_wp2
              go_roundw
              case rel => exact ⟨j + 1, by go_num, by omega, HR8.out, HZ7.out, HC7.out⟩
              case measure => simp [intOf]; omega
            · clear hr hz hc
              go_wp2
              go_roundw
              case rel => exact ⟨i + 1, by go_num, by omega, by omega, HR4.out⟩
              case measure => simp [intOf]; omega
      · have HB : Below w.heap.size w wr := by obtain ⟨x, G, gv, td, _, _, _, _, _, hB, _⟩ := HR1.out; exact hB
        have HB1 := Lib.hid HB
        clear HB
        go_wp2
        all_goals
          go_ret
          exact ⟨rfl, HB1.out⟩
end Go.Proofs.Ytkiiofaemladcaa
