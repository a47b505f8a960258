/-
  SumParts: its walk.
-/
import Derived.Test.YtnaopekljknlaaaOpenP
namespace Go.Proofs.Ytnaopekljknlaaa
open Go.RowKit Plain
set_option linter.unusedVariables false

set_option maxHeartbeats 4000000 in
theorem sumParts_walk (A : Option Addr) (n c : Nat) (w : World) (hnc : n ≤ c) (hm : c ≤ maxLen) (hR : RdP w A n) :
    Calls Try.prog 8 #[.slice A n c] w fun e w' => e = .returned (.bool true) ∧ Below w.heap.size w w' := by
  unfold maxLen at hm
  have HR := Lib.hid hR
  clear hR
  go_enter Try.func8, Try.ntmps8
  go_wp2
  go_loopw [3, 4, 5] (fun s3 s4 i wr => ∃ (j c1 m : Nat) (A1 : Option Addr) (al : List Int), s3 = .slice A1 m c1 ∧ s4 = .int .u32 (F (tot al)) ∧ i = .int .i64 j ∧ j ≤ n ∧ j ≤ 10 ∧
      Own wr w.heap.size A1 m c1 al ∧ m % 2 = 0 ∧ m ≤ 60 * j ∧ Below w.heap.size w wr) (fun _ _ i _ => n - (intOf i).toNat)
  case atStart =>
    exact ⟨0, 0, 0, none, [], rfl, rfl, rfl, Nat.zero_le _, Nat.zero_le _, Own.nil _ _, rfl, by omega, Below.refl _ _⟩
  case round =>
    obtain ⟨j, c1, m, A1, al, rfl, rfl, rfl, hjn, hj10, ho, hm2, hml, hbel⟩ := hrel
    have hsz := hbel.size
    have t0 := tot_nonneg al ho.byt
    have fr := F_range _ t0
    by_cases hlt : j < n ∧ j < 10
    · obtain ⟨hlt, hlt10⟩ := hlt
      obtain ⟨b, off, rfl, hb, hc⟩ := HR.out (by omega)
      obtain ⟨Ak, lk, ck, zk, hcell, hzl, hlc, hcm, hRk⟩ := hc j hlt
      have c0 := (hbel.cell (p := ⟨b, off + j, none⟩) hb).trans hcell
      unfold maxLen at hcm
      have Ho := Lib.hid ho
      have Hb := Lib.hid hbel
      have HRk := Lib.hid hRk
      have Hzl := Lib.hid hzl
      clear ho hbel hc hcell hRk hzl
      have i0 : (j : Int) < (n : Int) := by omega
      have d0 : decide ((j : Int) < (n : Int)) = true := by simp; omega
      have d1 : decide ((j : Int) < 10) = true := by simp; omega
      go_upto_region 6 with fail
      go_cut [6] (fun s6 wx => ∃ (l : Nat) (ys : List Int) (q : Nat), s6 = .slice Ak l ck ∧ ys.length = l ∧ l % 2 = 0 ∧ l ≤ 60 ∧ Rd w Ak ys ∧ wx = wr.drewN q)
      case first =>
        by_cases h60 : lk ≤ 60
        · have i1 : (lk : Int) ≤ 60 := by omega
          go_quiet (fail)
          go_wp2_with fail
          go_meet
          exact ⟨_, zk.take (lk / 2 * 2), nq, rfl, by rw [List.length_take, Hzl.out]; omega, by omega, by omega, HRk.out.take _, rfl⟩
        · have i1 : (60 : Int) < (lk : Int) := by omega
          go_quiet (fail)
          go_wp2_with fail
          go_meet
          exact ⟨_, zk.take 60, nq, rfl, by rw [List.length_take, Hzl.out]; omega, by omega, by omega, HRk.out.take _, rfl⟩
      case rest =>
        obtain ⟨l, ys, q, rfl, hyl, hl2, hl60, hry, rfl⟩ := hcut
        have HRy := Lib.hid hry
        have Hyl := Lib.hid hyl
        clear hry hyl HRk Hzl c0
        have t1 := tot_nonneg ys HRy.out.1
        have hap := Lib.hid (show F (F (tot al) + tot ys) = F (tot (al ++ ys)) by
          rw [F_add _ _ t0 t1, tot_append _ _ (by rw [Ho.out.len]; exact hm2)])
        go_wp2_with (at_builtin; refine wpList_app rfl (.tmp 30) (.tmp 31) rfl rfl (Ho.out.drewN q) ys rfl ((HRy.out.below Hb.out).drewN q) Hyl.out (by omega) (by simpa using hsz) ?_)
        intro A2 c2 w2 ho2 hg2 _
        have hb2 := below_app (below_drewN Hb.out q) hg2 (Ho.out.drewN q) (Nat.le_refl _) (by simpa using hsz)
        have Ho2 := Lib.hid ho2
        have Hb2 := Lib.hid hb2
        clear ho2 hb2 hg2 Ho Hb
        go_wp2_with fail
        refine (more_n _ _ _ _ ys _ fr.1 (by omega) Hyl.out (by omega) (HRy.out.below Hb2.out)).mono ?_
        rintro e w' ⟨rfl, q2, rfl⟩
        rw [hap.out]
        go_wp2
        go_roundw
        case rel => exact ⟨j + 1, c2, _, A2, _, rfl, rfl, by go_num, by omega, by omega, Ho2.out.drewN q2, by omega, by omega, below_drewN Hb2.out q2⟩
        case measure => simp [intOf]; omega
    · have Ho := Lib.hid ho
      have Hb := Lib.hid hbel
      have f0 : (F (tot al) == F (0 + tot al)) = true := by simp
      have f1 : (65535 - F (F (tot al)) == Cs al) = true := by rw [F_idem _ t0]; unfold Cs; simp
      clear ho hbel
      by_cases hjn' : j < n
      · have hj : (10 : Int) ≤ (j : Int) := by omega
        have d0 : decide ((j : Int) < (n : Int)) = true := by simp; omega
        have d1 : decide ((j : Int) < 10) = false := by simp; omega
        clear hlt
        go_wp2_with fail
        refine (sums_any _).mono ?_
        rintro e w3 ⟨rfl, hb3⟩
        have Ho3 := Lib.hid (Ho.out.below hb3)
        have Hb3 := Lib.hid (Hb.out.trans (hb3.mono hsz))
        clear hb3
        go_wp2_with fail
        refine (more_n 0 _ _ _ al _ (by omega) (by omega) Ho3.out.len (by omega) Ho3.out.rd).mono ?_
        rintro e w' ⟨rfl, q1, rfl⟩
        go_wp2_with fail
        refine (done_any _ _ fr.1 (by omega)).mono ?_
        rintro e w' ⟨rfl, rfl⟩
        go_wp2_with fail
        refine (of_n _ _ _ al _ Ho3.out.len (by omega) (Ho3.out.drewN q1).rd).mono ?_
        rintro e w' ⟨rfl, q2, rfl⟩
        go_wp2
        go_ret
        exact ⟨rfl, below_drewN Hb3.out _⟩
      · have d0 : decide ((j : Int) < (n : Int)) = false := by simp; omega
        clear hlt
        go_wp2_with fail
        refine (sums_any _).mono ?_
        rintro e w3 ⟨rfl, hb3⟩
        have Ho3 := Lib.hid (Ho.out.below hb3)
        have Hb3 := Lib.hid (Hb.out.trans (hb3.mono hsz))
        clear hb3
        go_wp2_with fail
        refine (more_n 0 _ _ _ al _ (by omega) (by omega) Ho3.out.len (by omega) Ho3.out.rd).mono ?_
        rintro e w' ⟨rfl, q1, rfl⟩
        go_wp2_with fail
        refine (done_any _ _ fr.1 (by omega)).mono ?_
        rintro e w' ⟨rfl, rfl⟩
        go_wp2_with fail
        refine (of_n _ _ _ al _ Ho3.out.len (by omega) (Ho3.out.drewN q1).rd).mono ?_
        rintro e w' ⟨rfl, q2, rfl⟩
        go_wp2
        go_ret
        exact ⟨rfl, below_drewN Hb3.out _⟩
end Go.Proofs.Ytnaopekljknlaaa
