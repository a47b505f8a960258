/-
  What was done, laid anew (fanlightlaw06.from), and held against another one (fanlightref06.Same). Conditions stand in each theorem.
-/
import Derived.Test.YtgengboaoniogaaGrow
import Derived.Deep.RegionHeld3
import Derived.WalkSpells
namespace Go.Proofs.Ytgengboaoniogaa
open Go.ChangeShapes Go.WideShapes Go.ChangeAt Go.RowKit Go.Deep Plain
set_option linter.unusedVariables false
set_option maxRecDepth 100000

theorem infoRD : (Try.prog.info? 117).map (fun i => (i.zero, i.size, i.bytes)) = some (some (.agg #[.int .i64 0, .int .i64 0, .int .u64 0]), 3, 24) := by kernel_rfl
/-- steps that lie one behind the other -/
def RdO (w : World) (A : Option Addr) (out : List (Nat × Nat × Int)) : Prop :=
  0 < out.length → ∃ g, A = some ⟨g, 0, none⟩ ∧ g < w.heap.size ∧ ∀ i, i < out.length → w.cell? ⟨g, i * 3, none⟩ = some (.int .i64 (out.getD i default).1) ∧ w.cell? ⟨g, i * 3 + 1, none⟩ = some (.int .i64 (out.getD i default).2.1) ∧ w.cell? ⟨g, i * 3 + 2, none⟩ = some (.int .u64 (out.getD i default).2.2)
theorem RdO.below {w w' : World} {A : Option Addr} {out : List (Nat × Nat × Int)} (h : RdO w A out) (hb : Below w.heap.size w w') : RdO w' A out := fun hp => by
  obtain ⟨g, e, hg, hc⟩ := h hp
  refine ⟨g, e, Nat.lt_of_lt_of_le hg hb.size, fun i hi => ?_⟩
  obtain ⟨h0, h1, h2⟩ := hc i hi
  exact ⟨(hb.cell (p := ⟨g, i * 3, none⟩) hg).trans h0, (hb.cell (p := ⟨g, i * 3 + 1, none⟩) hg).trans h1, (hb.cell (p := ⟨g, i * 3 + 2, none⟩) hg).trans h2⟩
theorem RdO.of_own {w : World} {base : Nat} {A : Option Addr} {c : Nat} {e : TypeId} {out : List (Nat × Nat × Int)} (h : w.ownsRow base e 3 (.slice A out.length c) out.length (outC out)) : RdO w A out := fun hp => by
  rcases h.2 with ⟨_, h0⟩ | ⟨g, cap, cur, e, hg, hh, hnc, _, hcs, ht⟩
  · omega
  · injection e with e1 e2 e3
    subst e1
    refine ⟨g, rfl, (Array.getElem?_eq_some_iff.1 hh).1, fun i hi => ?_⟩
    obtain ⟨h0, h1, h2⟩ := outC_at out i hi
    have e : ∀ j, j < 3 → w.cell? ⟨g, i * 3 + j, none⟩ = (outC out)[i * 3 + j]? := by
      intro j hj
      rw [cell_of_row w g _ cur _ _ hh, ← ht, List.getElem?_take_of_lt (by omega), Array.getElem?_toList]
    have e0 := e 0 (by omega)
    simp only [Nat.add_zero] at e0
    rw [e0, e 1 (by omega), e 2 (by omega)]
    exact ⟨h0, h1, h2⟩
theorem take_oneO (out : List (Nat × Nat × Int)) (k : Nat) (h : k < out.length) : out.take (k + 1) = out.take k ++ [out.getD k default] := by
  rw [List.take_succ_eq_append_getElem h]; simp [List.getD, h]

set_option maxHeartbeats 4000000 in
theorem tfrom_any (A : Option Addr) (nl c : Nat) (out : List (Nat × Nat × Int)) (w : World) (hl : out.length = nl) (hnl : nl ≤ 100000) (hR : RdO w A out) :
    Calls Try.prog 18 #[.slice A nl c] w fun e w' => ∃ A' c', e = .returned (.slice A' nl c') ∧ RdO w' A' out ∧ Below w.heap.size w w' := by
  have HL := Lib.hid hl
  have HR := Lib.hid hR
  clear hl hR
  obtain ⟨iD, hiD, hzD, hsD, hbD⟩ := info_parts infoRD
  go_enter Try.func18, Try.ntmps18
  go_wp2
  go_loopw [3, 4] (fun s3 s4 wr => ∃ (k c' : Nat) (A' : Option Addr), s3 = .slice A' k c' ∧ s4 = .int .i64 k ∧ k ≤ nl ∧ wr.ownsRow w.heap.size 117 3 (.slice A' k c') k (outC (out.take k)) ∧ Below w.heap.size w wr) (fun _ i _ => nl - (intOf i).toNat)
  case atStart => exact ⟨0, 0, none, rfl, rfl, by omega, World.ownsRow_nil _ _ _ _, Below.refl _ _⟩
  case round =>
    obtain ⟨k, c', A', rfl, rfl, hk, how, hB⟩ := hrel
    have HO := Lib.hid how
    have HB := Lib.hid hB
    have hsz := hB.size
    clear how hB
    by_cases hlt : k < nl
    · obtain ⟨b, rfl, hbl, hcell⟩ := HR.out (by rw [HL.out]; omega)
      obtain ⟨q0, q1, q2⟩ := hcell k (by rw [HL.out]; exact hlt)
      have p0 := (HB.out.cell (p := ⟨b, k * 3, none⟩) hbl).trans q0
      have p1 := (HB.out.cell (p := ⟨b, k * 3 + 1, none⟩) hbl).trans q1
      have p2 := (HB.out.cell (p := ⟨b, k * 3 + 2, none⟩) hbl).trans q2
      have HT := Lib.hid (take_oneO out k (by rw [HL.out]; exact hlt))
      clear hcell q0 q1 q2
      generalize out.getD k default = x at *
      have j0 : (k : Int) < (nl : Int) := by omega
      have hob : (Value.slice A' k c').ownBlock ≠ some b := by
        intro e
        have := HO.out.lt b e
        omega
      have hl0 : b < wr.heap.size := by omega
      have HOB := Lib.hid hob
      obtain ⟨x0, x1, x2⟩ := x
      simp only at p0 p1 p2
      clear hob
      go_upto_region 5 with fail
      go_region_held3 (fun w' => w'.cell? ⟨b, k * 3, none⟩ = some (.int .i64 (x0 : Int)) ∧ w'.cell? ⟨b, k * 3 + 1, none⟩ = some (.int .i64 (x1 : Int)) ∧ w'.cell? ⟨b, k * 3 + 2, none⟩ = some (.int .u64 x2))
        (first
          | go_keep
          | (go_split_ands
             refine ⟨?_, ?_, ?_⟩
             · (rw [hgrow.cell_far _ (by simp; omega) (Ne.symm HOB.out)]; assumption)
             · (rw [hgrow.cell_far _ (by simp; omega) (Ne.symm HOB.out)]; assumption)
             · (rw [hgrow.cell_far _ (by simp; omega) (Ne.symm HOB.out)]; assumption)))
        ((refine step_append_lies _ (by rfl) _ _ _ (by rfl) w.heap.size 117 iD _ 3 24 Try.underlying44 hiD hzD hsD hbD rfl (by omega) (.slice A' k c') k (outC (out.take k)) (by rfl) ((HO.out.alloc _).drew)
              ⟨wr.heap.size, 0, none⟩ 1 1 [.int .i64 (x0 : Int), .int .i64 (x1 : Int), .int .u64 x2] (by rfl) (by rfl) (World.news_of_block (cs := #[.int .i64 (x0 : Int), .int .i64 (x1 : Int), .int .u64 x2]) (t := 117) (fr := (0, 0)) (heap_alloc_new wr _)) (by simp [Value.oneCell'])
              (by omega) (by unfold maxLen; omega) (by omega) (by simp; omega) (wr.heap.size + 1) (by simp) ?_; intro gg cap w1 hown1 hgrow hat hlt1))
      have HO2 := Lib.hid (show w1.ownsRow w.heap.size 117 3 (.slice (some ⟨gg, 0, none⟩) (k + 1) cap) (k + 1) (outC (out.take (k + 1))) by rw [HT.out, outC_snoc]; exact hown1)
      have HB2 := Lib.hid (show Below w.heap.size w w1 from ((HB.out.alloc hsz (.cells #[.int .i64 (x0 : Int), .int .i64 (x1 : Int), .int .u64 x2] 117)).drew).grown hgrow (by simp; omega) (fun j hj => by have := HO.out.lt j hj; omega))
      clear hown1 hgrow hat
      go_wp2
      go_roundw
      case rel => exact ⟨k + 1, cap, some ⟨gg, 0, none⟩, rfl, by go_num, by omega, HO2.out, HB2.out⟩
      case measure => simp [intOf]; omega
    · obtain rfl : k = nl := by omega
      have HOW := Lib.hid (show RdO wr A' out by
        have := HO.out
        rw [List.take_of_length_le (by rw [HL.out]; omega)] at this
        rw [← HL.out] at this
        exact RdO.of_own this)
      clear HO
      go_wp2
      go_ret
      exact ⟨A', c', rfl, HOW.out, HB.out⟩

set_option maxHeartbeats 4000000 in
theorem tsame_any (A B : Option Addr) (nl c d : Nat) (out : List (Nat × Nat × Int)) (w : World) (hl : out.length = nl) (hnl : nl ≤ 100000) (hA : RdO w A out) (hB : RdO w B out) :
    Calls Try.prog 17 #[.slice A nl c, .slice B nl d] w fun e w' => e = .returned (.bool true) ∧ ∃ q, w' = w.drewN q := by
  have HL := Lib.hid hl
  have HA := Lib.hid hA
  have HB := Lib.hid hB
  clear hl hA hB
  go_enter Try.func17, Try.ntmps17
  go_wp2
  go_loopw [5] (fun s5 wr => ∃ k q : Nat, s5 = .int .i64 k ∧ k ≤ nl ∧ wr = w.drewN q) (fun i _ => nl - (intOf i).toNat)
  case atStart => exact ⟨0, 0, rfl, by omega, rfl⟩
  case round =>
    obtain ⟨k, q, rfl, hk, rfl⟩ := hrel
    by_cases hlt : k < nl
    · obtain ⟨b, rfl, hbl, hcell⟩ := HA.out (by rw [HL.out]; omega)
      obtain ⟨b', rfl, hbl', hcell'⟩ := HB.out (by rw [HL.out]; omega)
      obtain ⟨p0, p1, p2⟩ := hcell k (by rw [HL.out]; exact hlt)
      obtain ⟨r0, r1, r2⟩ := hcell' k (by rw [HL.out]; exact hlt)
      clear hcell hcell'
      generalize out.getD k default = x at *
      obtain ⟨x0, x1, x2⟩ := x
      simp only at p0 p1 p2 r0 r1 r2
      have j0 : (k : Int) < (nl : Int) := by omega
      go_upto_region 6 with fail
      go_quiet (fail)
      go_wp2
      go_roundw
      case rel => exact ⟨k + 1, _, by go_num, by omega, rfl⟩
      case measure => simp [intOf]; omega
    · obtain rfl : k = nl := by omega
      go_wp2
      go_ret
      exact ⟨rfl, q, rfl⟩
end Go.Proofs.Ytgengboaoniogaa
