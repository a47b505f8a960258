/-
  law08: takes, a closed run. Conditions stand in each theorem.
-/
import Derived.Test.YtmbceafeonjffaaPpI
namespace Go.Proofs.Ytmbceafeonjffaa
open Go.RowKit Go.Deep Plain
set_option linter.unusedVariables false
set_option linter.unusedSimpArgs false
set_option maxRecDepth 100000
def tk0 : Ps := ⟨1, 0, 2, 2, List.replicate 32 0, 0, false, false, []⟩
def tk1 : List Int × Ps := stpP 2 (newL 40) tk0
def tk2 : List Int × Ps := stpP 2 tk1.1 tk1.2
def tb0 : Ps := backP (giftsF 40 [1])
theorem tk1_nx : tk1.2.nx = 2 := by decide +kernel
theorem tk2_nx : tk2.2.nx = 0 := by decide +kernel
theorem tk2_got : numsF tk2.2.wd tk2.2.tk = [0, 1] := by decide +kernel
theorem tk2_free : (freeL 2 tk2.1).length = 38 := by decide +kernel
theorem tb1_nx : (itP 2 tk2.1 tb0 1).2.nx ≠ 0 := by decide +kernel
theorem tb2_nx : (itP 2 tk2.1 tb0 2).2.nx = 0 := by decide +kernel
theorem tb2_free : (freeL 2 (itP 2 tk2.1 tb0 2).1).length = 39 := by decide +kernel
theorem run2 {gp gc gn gs : Nat} {size : Int} {w w' : World} {e : Ending} (h : RunOk 2 gp gc gn gs size tk2.1 tb0 w e w') : e = .returned (.int .i64 2) ∧ PoS w' gp gc gn 2 size (itP 2 tk2.1 tb0 2).1 ∧ Keep [gn, gs] w w' := by
  obtain ⟨k, hk, hp, _, hkp, hnd, hq⟩ := h
  have h2 : k = 2 := by
    rcases Nat.lt_trichotomy k 2 with q | q | q
    · rcases hq with ⟨q1, q2, _⟩ | ⟨q1, _⟩
      · obtain rfl : k = 1 := by omega
        exact absurd q2 tb1_nx
      · omega
    · exact q
    · exact absurd tb2_nx (hnd 2 (by omega) q)
  subst h2
  rcases hq with ⟨_, _, q3⟩ | ⟨q1, _⟩
  · exact ⟨q3, hp, hkp⟩
  · omega
set_option maxHeartbeats 4000000 in
theorem takes_any (w : World) : Calls Try.prog 10 #[] w fun e w' => e = .returned (.bool true) ∧ Below w.heap.size w w' := by
  have HN := Lib.hid (pnew_any 40 (by omega) (by omega) w)
  go_enter Try.func10, Try.ntmps10
  go_upto_region 2 with (go_at_call 9; refine (HN.out).mono ?_; rintro e w1 ⟨gp, gc, gn, rfl, hp, hb, hgp, hgc, hgn⟩; have HP := Lib.hid hp; have HB := Lib.hid hb; clear hp hb)
  have HT := Lib.hid (pTake_any HP.out (by decide) (by decide) 0 2 (by omega) (by omega))
  go_upto_region 3 with (go_at_call 11; refine (HT.out).mono ?_; rintro e w2 ⟨wd, mo, hwd, hm1, hm2, hwx, hmx, rfl, hst, hb2⟩; have HST := Lib.hid hst; have HB2 := Lib.hid hb2; have HWX := Lib.hid hwx; have HMX := Lib.hid hmx; clear hst hb2 hwx hmx)
  obtain rfl : wd = 0 := by have := HWX.out 0 (by omega) rfl; simpa using this
  obtain rfl : mo = 2 := HMX.out 2 (by omega) (by omega) rfl
  have hg1 : w.heap.size ≤ w1.heap.size := HB.out.size
  have HW := Lib.hid (show StW w2 w1.heap.size gc 2 tk0 from ⟨⟨_, HST.out, ⟨none, 0, 0, rfl, rfl, Nat.le_refl _, by omega, fun h => absurd h (by omega)⟩⟩, takeP_ok (by omega) (by omega)⟩)
  have HP2 := Lib.hid (HP.out.below HB2.out)
  have HBB := Lib.hid (bthen HB.out HB2.out)
  generalize w1.heap.size = gs at *
  have hd1 := pDo_any HP2.out HW.out (by decide)
  have e1 : stpP 2 (newL 40) tk0 = tk1 := rfl
  rw [show wdsN 40 = 2 from rfl, e1, decide_eq_false (show ¬ tk1.2.nx = 0 by rw [tk1_nx]; decide)] at hd1
  have HD1 := Lib.hid hd1
  clear hd1 e1 HP HB HST HB2 HWX HMX HT HN HP2 HW
  have hkb : ∀ W W', Below w.heap.size w W → Keep [gn, gs] W W' → Below w.heap.size w W' := fun W W' hb hk => hk.below hb (Nat.le_refl _) (fun x hx => by simp at hx; omega)
  go_upto_region 4 with (first | (with_reducible (go_at_call 14; refine (HD1.out).mono ?_; rintro e w3 ⟨rfl, h3, s3, k3⟩; have HB3 := Lib.hid (hkb _ _ HBB.out k3); have hd2 := pDo_any h3 s3 (by omega); have e2 : stpP 2 tk1.1 tk1.2 = tk2 := rfl; rw [e2, decide_eq_true tk2_nx] at hd2; have HD2 := Lib.hid hd2; clear hd2 e2 h3 s3 k3)) | (go_at_call 14; refine (HD2.out).mono ?_; rintro e w4 ⟨rfl, h4, s4, k4⟩; have HB4 := Lib.hid (hkb _ _ HB3.out k4); have HP4 := Lib.hid h4; have HS4 := Lib.hid s4; clear h4 s4 k4))
  have hgo := got_any HS4.out (by decide)
  rw [tk2_got] at hgo
  have HG := Lib.hid hgo
  clear hgo HD1 HBB HB3
  go_upto_region 5 with (go_at_call 15; refine (HG.out).mono ?_; rintro e w5 ⟨A, m, c, rfl, ho, hb⟩; have HO := Lib.hid ho; have HB5 := Lib.hid (bthen HB4.out hb); have HP5 := Lib.hid (HP4.out.below hb); clear ho hb)
  obtain rfl : 2 = m := HO.out.len
  have hal := ball w5 (.cells #[.int .i64 1] 3)
  have hrd : RdI (w5.alloc (.cells #[.int .i64 1] 3)) (some ⟨w5.heap.size, 0, none⟩) [1] := fun _ => ⟨w5.heap.size, 0, rfl, (Blk.new w5 3 #[.int .i64 1]).lt, fun j hj => by
    obtain rfl : j = 0 := by simpa using hj
    exact (Blk.new w5 3 #[.int .i64 1]).cell 0⟩
  have HBK := Lib.hid (pBack_any (len := 1) (cap := 1) (HP5.out.below hal) (by decide) (by decide) (by decide) hrd rfl (by omega))
  have HP6 := Lib.hid (HP5.out.below hal)
  have HB6 := Lib.hid (bthen HB5.out hal)
  have HO6 := Lib.hid (HO.out.below hal)
  clear hrd hal HG HS4 HP4
  go_upto_region 6 with (go_at_call 12; refine (HBK.out).mono ?_; rintro e w6 ⟨gb, rfl, hgb, hsb, hb⟩; have HS7 := Lib.hid hsb; have HB7 := Lib.hid (bthen HB6.out hb); have HP7 := Lib.hid (HP6.out.below hb); have HO7 := Lib.hid (HO6.out.below hb); clear hsb hb)
  obtain ⟨hc2, ga, rfl, hga, _, hco⟩ := HO7.out.rd (by omega)
  have k0 : w6.cell? ⟨ga, 0, none⟩ = some (.int .i64 0) := hco 0 (by omega)
  have k1 : w6.cell? ⟨ga, 1, none⟩ = some (.int .i64 1) := hco 1 (by omega)
  have hgb2 : w.heap.size ≤ gb := by have := HB6.out.size; omega
  have hkb2 : ∀ W W', Below w.heap.size w W → Keep [gn, gb] W W' → Below w.heap.size w W' := fun W W' hb hk => hk.below hb (Nat.le_refl _) (fun x hx => by simp at hx; omega)
  have HF1 := Lib.hid (free_any HP7.out (by decide))
  have e3 : tb0 = backP (giftsF ((40 : Nat) : Int) [1]) := rfl
  rw [← e3] at HS7
  clear hco e3 HBK HP6 HB6 HO6 HO7 HP5 HB5 HO
  go_wp2_with (first | (go_at_call 16; (with_reducible refine (HF1.out).mono ?_); rintro e w7 ⟨A7, m7, c7, rfl, ho, hb⟩; have hm7 := ho.len; rw [tk2_free] at hm7; subst hm7; have HB8 := Lib.hid (bthen HB7.out hb); have HR := Lib.hid (run8_any (HP7.out.below hb) (HS7.out.below hb) (by decide)); clear ho hb) | (go_at_call 17; refine (HR.out).mono ?_; rintro e w8 hrun; obtain ⟨rfl, h8, k8⟩ := run2 hrun; have HB9 := Lib.hid (hkb2 _ _ HB8.out k8); have HF2 := Lib.hid (free_any h8 (by decide)); clear hrun h8 k8) | (go_at_call 16; refine (HF2.out).mono ?_; rintro e w9 ⟨A9, m9, c9, rfl, ho, hb⟩; have hm9 := ho.len; rw [tb2_free] at hm9; subst hm9; have HB10 := Lib.hid (bthen HB9.out hb); clear ho hb))
  go_ret
  exact ⟨rfl, HB10.out⟩
end Go.Proofs.Ytmbceafeonjffaa
