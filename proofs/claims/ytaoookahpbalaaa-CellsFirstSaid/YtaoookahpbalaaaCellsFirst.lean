/-
  CellsFirst: its walk.
-/
import Derived.Test.YtaoookahpbalaaaCellsN
import Derived.Test.YtaoookahpbalaaaNums
namespace Go.Proofs.Ytaoookahpbalaaa
open Go.RowKit Plain
set_option linter.unusedVariables false
set_option maxRecDepth 100000

set_option maxHeartbeats 2000000 in
theorem cellsFirst_walk (was : Int) (A : Option Addr) (n c : Nat) (zs : List Int) (w : World) (hw0 : 0 ≤ was) (hw1 : was < 18446744073709551616) (hn : zs.length = n) (hnc : n ≤ c) (hm : c ≤ maxLen) (hR : RdN .u64 w A zs) :
    Calls Try.prog 5 #[.int .u64 was, .slice A n c] w fun e w' => e = .returned (.bool true) ∧ Below w.heap.size w w' := by
  unfold maxLen at hm
  have Hn := Lib.hid hn
  have HR := Lib.hid hR
  clear hn hR
  go_enter Try.func5, Try.ntmps5
  go_wp2_with fail
  refine (new_any 1 (by omega) (by omega) w).mono ?_
  rintro e w1 ⟨rfl, hc, hb, hs⟩
  have Hc := Lib.hid hc
  have Hb := Lib.hid hb
  clear hc hb hs
  go_wp2_with fail
  refine (store_any Hc.out 0 (by omega) was).mono ?_
  rintro e w2 ⟨rfl, hw⟩
  have Hc2 := Lib.hid (show Cl w2 (w.heap.size + 1) w.heap.size 1 [was] by rw [hw]; exact Hc.out.set 0 was ⟨hw0, hw1⟩)
  have Hb2 := Lib.hid (show Below w.heap.size w w2 by rw [hw]; exact Hb.out.setCell (Nat.le_refl _) _)
  clear hw Hc Hb
  go_wp2
  go_loopw [7, 8, 9] (fun s7 s8 s9 wr => ∃ (x : Int) (d k : Nat), s7 = .int .u64 x ∧ s8 = .int .i64 d ∧ s9 = .int .i64 k ∧ k ≤ n ∧ d ≤ k ∧ k ≤ 50 ∧ (k = 0 → x = was) ∧ (0 < k → 0 < d) ∧ Cl wr (w.heap.size + 1) w.heap.size 1 [x] ∧ Below w.heap.size w wr) (fun _ _ i _ => 50 - (intOf i).toNat)
  case atStart => exact ⟨was, 0, 0, rfl, rfl, rfl, by omega, by omega, by omega, fun _ => rfl, (fun h => absurd h (by omega)), Hc2.out, Hb2.out⟩
  case round =>
    obtain ⟨x, d, k, rfl, rfl, rfl, hk, hd, h50, hx0, hd0, hC, hB⟩ := hrel
    have HC := Lib.hid hC
    have HB := Lib.hid hB
    have HX := Lib.hid hx0
    have HD := Lib.hid hd0
    clear hC hB hx0 hd0 Hc2 Hb2
    by_cases hlt : k < n
    · by_cases hlt2 : k < 50
      · obtain ⟨b, off, rfl, hbl, hcell⟩ := HR.out.2 (by rw [Hn.out]; omega)
        have c0 := (HB.out.cell (p := ⟨b, off + k, none⟩) hbl).trans (hcell k (by rw [Hn.out]; exact hlt))
        have by_ := bounds_u64 (HR.out.wf k (by rw [Hn.out]; exact hlt))
        generalize zs.getD k 0 = y at *
        clear hcell
        by_cases hx : x = was
        · subst hx
          go_wp2_with fail
          refine (cas_yes HC.out 0 (by omega) x y rfl).mono ?_
          rintro e w3 ⟨rfl, hw⟩
          have HC3 := Lib.hid (show Cl w3 (w.heap.size + 1) w.heap.size 1 [y] by rw [hw]; exact HC.out.set 0 y by_)
          have HB3 := Lib.hid (show Below w.heap.size w w3 by rw [hw]; exact HB.out.setCell (Nat.le_refl _) _)
          have c1 := (HB3.out.cell (p := ⟨b, off + k, none⟩) hbl).trans ((HB.out.cell (p := ⟨b, off + k, none⟩) hbl).symm.trans c0)
          clear hw HC HB c0
          go_wp2_with fail
          refine (load_any HC3.out 0 (by omega)).mono ?_
          rintro e w4 ⟨rfl, rfl⟩
          rw [show [y].getD 0 0 = y from rfl]
          go_wp2
          go_roundw
          case rel => exact ⟨y, d + 1, k + 1, rfl, by go_num, by go_num, by omega, by omega, by omega, (fun h => absurd h (by omega)), (fun _ => by omega), HC3.out, HB3.out⟩
          case measure => simp [intOf]; omega
        · have hxb : (x == was) = false := by simpa using hx
          have hk0 : 0 < k := by
            rcases Nat.eq_zero_or_pos k with h | h
            · exact absurd (HX.out h) hx
            · exact h
          have HN := Lib.hid hx
          clear hx
          go_wp2_with fail
          refine (cas_miss HC.out 0 (by omega) was y HN.out).mono ?_
          rintro e w3 ⟨rfl, rfl⟩
          go_wp2_with fail
          refine (load_any HC.out 0 (by omega)).mono ?_
          rintro e w4 ⟨rfl, rfl⟩
          rw [show [x].getD 0 0 = x from rfl]
          go_wp2
          go_roundw
          case rel => exact ⟨x, d, k + 1, rfl, rfl, by go_num, by omega, by omega, by omega, (fun h => absurd h (by omega)), (fun _ => HD.out hk0), HC.out, HB.out⟩
          case measure => simp [intOf]; omega
      · have hn0 : 0 < d := HD.out (by omega)
        have e1 : decide ((0 : Int) < (d : Int)) = true := by simp; omega
        have e2 : ((n : Int) == 0) = false := by simp; omega
        go_wp2_with fail
        refine (swaps_any _).mono ?_
        rintro e w3 ⟨rfl, hb3⟩
        go_wp2
        go_ret
        exact ⟨rfl, HB.out.trans (hb3.mono HB.out.size)⟩
    · obtain rfl : k = n := by omega
      by_cases hz : k = 0
      · subst hz
        go_wp2_with fail
        refine (swaps_any _).mono ?_
        rintro e w3 ⟨rfl, hb3⟩
        go_wp2
        go_ret
        exact ⟨rfl, HB.out.trans (hb3.mono HB.out.size)⟩
      · have hn0 : 0 < d := HD.out (by omega)
        have e1 : decide ((0 : Int) < (d : Int)) = true := by simp; omega
        have e2 : ((k : Int) == 0) = false := by simp; omega
        go_wp2_with fail
        refine (swaps_any _).mono ?_
        rintro e w3 ⟨rfl, hb3⟩
        go_wp2
        go_ret
        exact ⟨rfl, HB.out.trans (hb3.mono HB.out.size)⟩
end Go.Proofs.Ytaoookahpbalaaa
