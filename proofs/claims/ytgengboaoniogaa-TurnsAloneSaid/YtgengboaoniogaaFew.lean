/-
  The first ones of programs (fanlightlaw06.few); a program that came in. Conditions stand in each theorem.
-/
import Derived.Test.YtgengboaoniogaaToF
namespace Go.Proofs.Ytgengboaoniogaa
open Go.ChangeShapes Go.WideShapes Go.ChangeAt Go.RowKit Go.Deep Plain
set_option linter.unusedVariables false
set_option maxRecDepth 100000
set_option linter.unusedSimpArgs false

theorem infoRP : (Try.prog.info? 39).map (fun i => (i.zero, i.size, i.bytes)) = some (some (.slice none 0 0), 1, 24) := by kernel_rfl
def fewV (V : Nat → Option Addr × Nat × Nat) (i : Nat) : Option Addr × Nat × Nat := ((V i).1, min (V i).2.1 20, (V i).2.2)

set_option maxHeartbeats 4000000 in
theorem tfew_any (A0 : Option Addr) (m c0 : Nat) (V : Nat → Option Addr × Nat × Nat) (w : World) (hm : m ≤ 66) (hV : RdV w A0 m V) (hP : ∀ i, i < m → (V i).2.1 ≤ (V i).2.2 ∧ (V i).2.2 ≤ maxLen) :
    Calls Try.prog 15 #[.slice A0 m c0] w fun e w' => ∃ A' c', e = .returned (.slice A' m c') ∧ m ≤ c' ∧ RdV w' A' m (fewV V) ∧ Below w.heap.size w w' := by
  have HV := Lib.hid hV
  have HP := Lib.hid hP
  clear hV hP
  obtain ⟨iD, hiD, hzD, hsD, hbD⟩ := info_parts infoRP
  go_enter Try.func15, Try.ntmps15
  go_wp2
  go_loopw [3, 4] (fun s3 s4 wr => ∃ (k c' : Nat) (A' : Option Addr), s3 = .slice A' k c' ∧ s4 = .int .i64 k ∧ k ≤ m ∧ wr.ownsRow w.heap.size 39 1 (.slice A' k c') k ((List.range k).map fun i => slV (fewV V i)) ∧ Below w.heap.size w wr) (fun _ i _ => m - (intOf i).toNat)
  case atStart => exact ⟨0, 0, none, rfl, rfl, by omega, World.ownsRow_nil _ _ _ _, Below.refl _ _⟩
  case round =>
    obtain ⟨k, c', A', rfl, rfl, hk, how, hB⟩ := hrel
    have HO := Lib.hid how
    have HB := Lib.hid hB
    have hsz := hB.size
    clear how hB
    by_cases hlt : k < m
    · have j0 : (k : Int) < (m : Int) := by omega
      have j1 : (k : Int) < 66 := by omega
      obtain ⟨b, off, rfl, hbl, hcell⟩ := HV.out (by omega)
      have p0 := (HB.out.cell (p := ⟨b, off + k, none⟩) hbl).trans (hcell k hlt)
      obtain ⟨h1, h2⟩ := HP.out k hlt
      unfold maxLen at h2
      have HE := Lib.hid (show (List.range (k + 1)).map (fun i => slV (fewV V i)) = (List.range k).map (fun i => slV (fewV V i)) ++ [.slice (V k).1 (min (V k).2.1 20) (V k).2.2] by rw [List.range_succ, List.map_append]; rfl)
      generalize V k = vk at *
      obtain ⟨Ak, nk, ck⟩ := vk
      simp only at p0 h1 h2 HE
      have hob : (Value.slice A' k c').ownBlock ≠ some b := by
        intro e
        have := HO.out.lt b e
        omega
      have hl0 : b < wr.heap.size := by omega
      have HOB := Lib.hid hob
      clear hob hcell
      by_cases h20 : nk ≤ 20
      · have h21 : (nk : Int) ≤ 20 := by omega
        have h22 : (if (20 : Int) < (nk : Int) then (20 : Int) else (nk : Int)) = (nk : Int) := by rw [if_neg (by omega)]
        have h23 : min nk 20 = nk := by omega
        have i5 : (nk : Int) ≤ (ck : Int) := by omega
        rw [h23] at HE
        clear h23
        go_upto_region 5 with fail
        go_region_held3 (fun w' => w'.cell? ⟨b, off + k, none⟩ = some (.slice Ak nk ck))
          (first
            | go_keep
            | (rw [hgrow.cell_far _ (by simp; omega) (Ne.symm HOB.out)]; assumption))
          ((refine step_append_lies _ (by rfl) _ _ _ (by rfl) w.heap.size 39 iD _ 1 24 Try.underlying40 hiD hzD hsD hbD rfl (by omega) (.slice A' k c') k ((List.range k).map fun i => slV (fewV V i)) (by rfl) ((HO.out.alloc _).drew)
                ⟨wr.heap.size, 0, none⟩ 1 1 [.slice Ak nk ck] (by rfl) (by rfl) (World.news_of_block (cs := #[.slice Ak nk ck]) (t := 39) (fr := (0, 0)) (heap_alloc_new wr _)) (by simp [Value.oneCell'])
                (by omega) (by unfold maxLen; omega) (by omega) (by simp; omega) (wr.heap.size + 1) (by simp) ?_; intro gg cap w1 hown1 hgrow hat hlt1))
        have HO2 := Lib.hid (show w1.ownsRow w.heap.size 39 1 (.slice (some ⟨gg, 0, none⟩) (k + 1) cap) (k + 1) ((List.range (k + 1)).map fun i => slV (fewV V i)) by rw [HE.out]; exact hown1)
        have HB2 := Lib.hid (show Below w.heap.size w w1 from ((HB.out.alloc hsz (.cells #[.slice Ak nk ck] 39)).drew).grown hgrow (by simp; omega) (fun j hj => by have := HO.out.lt j hj; omega))
        clear hown1 hgrow hat
        go_wp2
        go_roundw
        case rel => exact ⟨k + 1, cap, some ⟨gg, 0, none⟩, rfl, by go_num, by omega, HO2.out, HB2.out⟩
        case measure => simp [intOf]; omega
      · have h21 : (20 : Int) < (nk : Int) := by omega
        have h22 : (if (20 : Int) < (nk : Int) then (20 : Int) else (nk : Int)) = 20 := by rw [if_pos h21]
        have h23 : min nk 20 = 20 := by omega
        have i5 : (20 : Int) ≤ (ck : Int) := by omega
        have i6 : 20 ≤ ck := by omega
        rw [h23] at HE
        clear h23
        go_upto_region 5 with fail
        go_region_held3 (fun w' => w'.cell? ⟨b, off + k, none⟩ = some (.slice Ak nk ck))
          (first
            | go_keep
            | (rw [hgrow.cell_far _ (by simp; omega) (Ne.symm HOB.out)]; assumption))
          ((refine step_append_lies _ (by rfl) _ _ _ (by rfl) w.heap.size 39 iD _ 1 24 Try.underlying40 hiD hzD hsD hbD rfl (by omega) (.slice A' k c') k ((List.range k).map fun i => slV (fewV V i)) (by rfl) ((HO.out.alloc _).drew)
                ⟨wr.heap.size, 0, none⟩ 1 1 [.slice Ak 20 ck] (by rfl) (by rfl) (World.news_of_block (cs := #[.slice Ak 20 ck]) (t := 39) (fr := (0, 0)) (heap_alloc_new wr _)) (by simp [Value.oneCell'])
                (by omega) (by unfold maxLen; omega) (by omega) (by simp; omega) (wr.heap.size + 1) (by simp) ?_; intro gg cap w1 hown1 hgrow hat hlt1))
        have HO2 := Lib.hid (show w1.ownsRow w.heap.size 39 1 (.slice (some ⟨gg, 0, none⟩) (k + 1) cap) (k + 1) ((List.range (k + 1)).map fun i => slV (fewV V i)) by rw [HE.out]; exact hown1)
        have HB2 := Lib.hid (show Below w.heap.size w w1 from ((HB.out.alloc hsz (.cells #[.slice Ak 20 ck] 39)).drew).grown hgrow (by simp; omega) (fun j hj => by have := HO.out.lt j hj; omega))
        clear hown1 hgrow hat
        go_wp2
        go_roundw
        case rel => exact ⟨k + 1, cap, some ⟨gg, 0, none⟩, rfl, by go_num, by omega, HO2.out, HB2.out⟩
        case measure => simp [intOf]; omega
    · obtain rfl : k = m := by omega
      have HRV := Lib.hid (show k ≤ c' ∧ RdV wr A' k (fewV V) by
        rcases HO.out.2 with ⟨e, h0⟩ | ⟨g, cap, cur, e, hg, hh, hnc, _, hcs, ht⟩
        · exact ⟨by omega, fun hp => absurd hp (by omega)⟩
        · injection e with e1 e2 e3
          subst e1 e3
          refine ⟨hnc, fun hp => ⟨g, 0, rfl, (Array.getElem?_eq_some_iff.1 hh).1, fun i hi => ?_⟩⟩
          rw [Nat.zero_add, cell_of_row wr g _ cur _ _ hh, ← Array.getElem?_toList, ← List.getElem?_take_of_lt (show i < k * 1 by omega), ht]
          simp [hi, slV])
      clear HO
      go_wp2
      go_ret
      exact ⟨A', c', rfl, HRV.out.1, HRV.out.2, HB.out⟩

def opK : List FK := [.num .i64, .num .i64, .num .u64, .num .u64, .bol]
def boolOf : Value → Bool
  | .bool b => b
  | _ => false
/-- a program that came in -/
theorem open_prog {H : Type} {enc : TypeId × Value → H} {W : World} {a : Option Addr} {len cap : Nat} {d : DataW H} {p : List MemPlace} (h : DataW.Trod enc Try.prog W 0 (fun _ => true) true 39 (.slice a len cap) d p) :
    ∃ os : List OpV, os.length = len ∧ len ≤ cap ∧ cap ≤ maxLen ∧ RdP W a os := by
  obtain ⟨h1, h2, V, h3⟩ := open_structs opK Try.underlying39 Try.underlying116 (by kernel_rfl) rfl (by kernel_rfl) (by decide) (fun j f hj => by
    match j, hj with
    | 0, hj => injection hj with hj; subst hj; exact ⟨_, rfl, Try.underlying3⟩
    | 1, hj => injection hj with hj; subst hj; exact ⟨_, rfl, Try.underlying3⟩
    | 2, hj => injection hj with hj; subst hj; exact ⟨_, rfl, Try.underlying23⟩
    | 3, hj => injection hj with hj; subst hj; exact ⟨_, rfl, Try.underlying23⟩
    | 4, hj => injection hj with hj; subst hj; exact ⟨_, rfl, Try.underlying4⟩
    | n + 5, hj => simp at hj) h
  have key : ∀ i, i < len → ∃ x0 x1 x2 x3 : Int, ∃ x4 : Bool, V i 0 = .int .i64 x0 ∧ V i 1 = .int .i64 x1 ∧ V i 2 = .int .u64 x2 ∧ V i 3 = .int .u64 x3 ∧ V i 4 = .bool x4 ∧ (OpV.mk x0 x1 x2 x3 x4).ok := by
    intro i hi
    obtain ⟨b, off, e, hb, hc⟩ := h3 (by omega)
    obtain ⟨_, x0, e0, w0⟩ := hc i hi 0 (.num .i64) rfl
    obtain ⟨_, x1, e1, w1⟩ := hc i hi 1 (.num .i64) rfl
    obtain ⟨_, x2, e2, w2⟩ := hc i hi 2 (.num .u64) rfl
    obtain ⟨_, x3, e3, w3⟩ := hc i hi 3 (.num .u64) rfl
    obtain ⟨_, x4, e4⟩ := hc i hi 4 .bol rfl
    exact ⟨x0, x1, x2, x3, x4, e0, e1, e2, e3, e4, bounds_i64 w0, bounds_i64 w1, bounds_u64 w2, bounds_u64 w3⟩
  refine ⟨(List.range len).map fun i => ⟨intOf (V i 0), intOf (V i 1), intOf (V i 2), intOf (V i 3), boolOf (V i 4)⟩, by simp, h1, h2, ?_, fun hp => ?_⟩
  · intro o ho
    obtain ⟨i, hi, rfl⟩ := List.mem_map.1 ho
    obtain ⟨x0, x1, x2, x3, x4, e0, e1, e2, e3, e4, hok⟩ := key i (List.mem_range.1 hi)
    rw [e0, e1, e2, e3, e4]
    exact hok
  · have hp' : 0 < len := by simpa using hp
    obtain ⟨b, off, e, hb, hc⟩ := h3 hp'
    refine ⟨b, off, e, hb, fun i hi => ?_⟩
    have hi' : i < len := by simpa using hi
    obtain ⟨x0, x1, x2, x3, x4, e0, e1, e2, e3, e4, hok⟩ := key i hi'
    have q0 := (hc i hi' 0 (.num .i64) rfl).1
    have q1 := (hc i hi' 1 (.num .i64) rfl).1
    have q2 := (hc i hi' 2 (.num .u64) rfl).1
    have q3 := (hc i hi' 3 (.num .u64) rfl).1
    have q4 := (hc i hi' 4 .bol rfl).1
    have eg : ((List.range len).map fun i => (⟨intOf (V i 0), intOf (V i 1), intOf (V i 2), intOf (V i 3), boolOf (V i 4)⟩ : OpV)).getD i default = ⟨x0, x1, x2, x3, x4⟩ := by
      simp [List.getD, hi', e0, e1, e2, e3, e4, intOf, boolOf]
    rw [eg]
    rw [e0] at q0
    rw [e1] at q1
    rw [e2] at q2
    rw [e3] at q3
    rw [e4] at q4
    exact ⟨q0, q1, q2, q3, q4⟩
end Go.Proofs.Ytgengboaoniogaa
