/-
  CellsAdds: its walk.
-/
import Derived.Test.YtaoookahpbalaaaCellsC
import Derived.Deep.DeepCutAuto
namespace Go.Proofs.Ytaoookahpbalaaa
open Go.RowKit Plain
set_option linter.unusedVariables false
set_option maxRecDepth 100000

def addL (zs : List Int) : Int := m64 (zs.foldl (· + ·) 0)
theorem addL_snoc (zs : List Int) (k : Nat) (hk : k < zs.length) : addL (zs.take (k + 1)) = m64 (addL (zs.take k) + zs.getD k 0) := by
  have e : zs.take (k + 1) = zs.take k ++ [zs.getD k 0] := by
    rw [List.take_succ_eq_append_getElem hk]; simp [List.getD, hk]
  unfold addL m64
  rw [e, List.foldl_append]
  simp only [List.foldl_cons, List.foldl_nil]
  omega
theorem addL_u64 (zs : List Int) : U64 (addL zs) := by unfold addL m64 U64; omega
theorem getD_rep_set (n a j : Nat) (x : Int) (ha : a < n) : ((List.replicate n (0 : Int)).set a x).getD j 0 = if j = a then x else 0 := by
  by_cases h : j = a
  · subst h; simp [List.getD, ha]
  · rw [if_neg h]
    rcases Nat.lt_or_ge j n with hj | hj
    · simp [List.getD, Ne.symm h, hj]
    · simp [List.getD, hj]

set_option maxHeartbeats 2000000 in
theorem cellsAdds_walk (n0 i0 : Int) (A : Option Addr) (n c : Nat) (zs : List Int) (w : World) (hn : zs.length = n) (hnc : n ≤ c) (hm : c ≤ maxLen) (hR : RdN .u64 w A zs) :
    Calls Try.prog 4 #[.int .i64 n0, .int .i64 i0, .slice A n c] w fun e w' => e = .returned (.bool true) ∧ Below w.heap.size w w' := by
  unfold maxLen at hm
  have Hn := Lib.hid hn
  have HR := Lib.hid hR
  clear hn hR
  obtain ⟨K, hK, hKl⟩ := pickN n0 100 (by omega) (by omega)
  obtain ⟨a, ha, hal⟩ := pickN i0 (1 + (K : Int)) (by omega) (by omega)
  go_enter Try.func4, Try.ntmps4
  go_upto_region 3 with fail
  rw [ha]
  obtain ⟨k, hk⟩ : ∃ k : Nat, (k : Int) = 1 + (K : Int) := ⟨K + 1, by omega⟩
  rw [← hk]
  have hk1 : 1 ≤ k := by omega
  have hk2 : k ≤ 100 := by omega
  have hak : a < k := by omega
  clear hK ha hal hk hKl
  go_wp2_with fail
  refine (new_any k (by omega) (by omega) w).mono ?_
  rintro e w1 ⟨rfl, hc, hb, hs⟩
  have Hc := Lib.hid hc
  have Hb := Lib.hid hb
  clear hc hb hs
  go_wp2
  go_loopw [11, 12] (fun s11 s12 wr => ∃ (x : Int) (j : Nat) (l : List Int), s11 = .int .u64 x ∧ s12 = .int .i64 j ∧ j ≤ n ∧ j ≤ 50 ∧ x = addL (zs.take j) ∧ l = (List.replicate k 0).set a x ∧ Cl wr (w.heap.size + 1) w.heap.size k l ∧ Below w.heap.size w wr) (fun _ i _ => 50 - (intOf i).toNat)
  case atStart =>
    refine ⟨0, 0, _, rfl, rfl, by omega, by omega, rfl, rfl, ?_, Hb.out⟩
    have : (List.replicate k (0 : Int)).set a 0 = List.replicate k 0 := by
      apply List.ext_getElem (by simp)
      intro i h1 h2
      by_cases e : a = i
      · subst e; simp
      · simp
    rw [this]; exact Hc.out
  case round =>
    obtain ⟨x, j, l, rfl, rfl, hj, h50, hx, hl, hC, hB⟩ := hrel
    have HX := Lib.hid hx
    have HL := Lib.hid hl
    have HC := Lib.hid hC
    have HB := Lib.hid hB
    have hu : U64 x := by rw [hx]; exact addL_u64 _
    unfold U64 at hu
    clear hx hl hC hB Hc Hb
    by_cases hlt : j < n ∧ j < 50
    · obtain ⟨hlt, hlt2⟩ := hlt
      obtain ⟨b, off, rfl, hbl, hcell⟩ := HR.out.2 (by rw [Hn.out]; omega)
      have c0 := (HB.out.cell (p := ⟨b, off + j, none⟩) hbl).trans (hcell j (by rw [Hn.out]; exact hlt))
      have by_ := bounds_u64 (HR.out.wf j (by rw [Hn.out]; exact hlt))
      have HS := Lib.hid (addL_snoc zs j (by rw [Hn.out]; exact hlt))
      have HS2 := Lib.hid (show addL (zs.take (j + 1)) = m64 (x + zs.getD j 0) by rw [HS.out, HX.out])
      clear HS hcell
      generalize zs.getD j 0 = y at *
      have hg : l.getD a 0 = x := by rw [HL.out, getD_rep_set _ _ _ _ hak, if_pos rfl]
      have HG := Lib.hid hg
      clear hg
      go_upto_region 9 with fail
      rw [show IntKind.u64.wrap (x + y) = m64 (x + y) from IntKind.wrap_u64 _]
      obtain ⟨z, hz⟩ : ∃ z, m64 (x + y) = z := ⟨_, rfl⟩
      rw [hz]
      have hzu : U64 z := by rw [← hz]; exact m64_u _
      have HZ := Lib.hid hz
      rw [hz] at HS2
      clear hz
      go_wp2_with fail
      refine (add_eq HC.out a hak x y z HG.out HZ.out).mono ?_
      rintro e w3 ⟨rfl, hw⟩
      have HC3 := Lib.hid (show Cl w3 (w.heap.size + 1) w.heap.size k (l.set a z) by rw [hw]; exact HC.out.set a z hzu)
      have HB3 := Lib.hid (show Below w.heap.size w w3 by rw [hw]; exact HB.out.setCell (Nat.le_refl _) _)
      have HL3 := Lib.hid (show l.set a z = (List.replicate k 0).set a z by rw [HL.out, List.set_set])
      clear hw HC HB c0
      go_wp2_with fail
      refine (load_eq HC3.out a hak z (by rw [HL3.out, getD_rep_set _ _ _ _ hak, if_pos rfl])).mono ?_
      rintro e w4 ⟨rfl, rfl⟩
      go_wp2
      go_roundw
      case rel => exact ⟨z, j + 1, l.set a z, rfl, by go_num, by omega, by omega, HS2.out.symm, HL3.out, HC3.out, HB3.out⟩
      case measure => simp [intOf]; omega
    · have hex : decide ((j : Int) < (n : Int)) = false ∨ (decide ((j : Int) < (n : Int)) = true ∧ decide ((j : Int) < 50) = false) := by
        by_cases h : j < n
        · right; exact ⟨by simpa using h, by simp; omega⟩
        · left; simp; omega
      go_upto_region 11 with fail
      all_goals
        go_wp2_with fail
        refine (copy_any HC.out (by omega)).mono ?_
        rintro e w3 ⟨rfl, hr3, hb3⟩
        have HR3 := Lib.hid hr3
        have HB3 := Lib.hid (HB.out.trans (hb3.mono HB.out.size))
        have HLn := Lib.hid HC.out.len
        generalize wr.heap.size = g at *
        clear hr3 hb3 hex hlt HB HC
        go_wp2
        go_loop [14] (fun s14 => ∃ q : Nat, s14 = .int .i64 q ∧ q ≤ k) (fun i => k - (intOf i).toNat)
        case atStart => exact ⟨0, rfl, by omega⟩
        case round =>
          obtain ⟨q, rfl, hq⟩ := hrel
          by_cases hqk : q < k
          · have c0 := HR3.out.at (i := q) (by rw [HLn.out]; exact hqk)
            rw [HL.out, getD_rep_set _ _ _ _ hak] at c0
            by_cases hqa : q = a
            · subst hqa
              rw [if_pos rfl] at c0
              go_wp2
              go_round
              case rel => exact ⟨q + 1, by go_num, by omega⟩
              case measure => simp [intOf]; omega
            · rw [if_neg hqa] at c0
              have e1 : ((q : Int) == (a : Int)) = false := by rw [beq_eq_false_iff_ne]; omega
              have e2 : ((q : Int) != (a : Int)) = true := by rw [bne_iff_ne]; omega
              go_wp2
              go_round
              case rel => exact ⟨q + 1, by go_num, by omega⟩
              case measure => simp [intOf]; omega
          · obtain rfl : q = k := by omega
            go_wp2_with fail
            refine (swaps_any _).mono ?_
            rintro e w5 ⟨rfl, hb5⟩
            go_wp2
            go_ret
            exact ⟨rfl, HB3.out.trans (hb5.mono HB3.out.size)⟩
end Go.Proofs.Ytaoookahpbalaaa
