/-
  The document's Far (fanlightref21). Conditions stand in each theorem.
-/
import Derived.Test.YtbnlpidhbilenaaSp2
import Derived.BigQuiet
namespace Go.Proofs.Ytbnlpidhbilenaa
open Go.RowKit Plain
set_option linter.unusedVariables false
set_option maxRecDepth 100000
theorem rFlow : Sty 70 3 := ⟨⟨_, Try.underlying70, rfl⟩, by unfold Siz; kernel_rfl⟩
set_option maxHeartbeats 8000000 in
theorem rfar_any (out : Bool) (A : Option Addr) (n c : Nat) (zs : List Int) (w : World) (hn : zs.length = n) (hnc : n ≤ c) (hl : n ≤ 100000) (hR : Rd w A zs) :
    Calls Try.prog 28 #[.bool out, .slice A n c] w fun e w' => e = .returned (.tuple #[(farF out zs).val, .int .i64 (farE zs)]) ∧ Below w.heap.size w w' := by
  have HR := Lib.hid hR
  have Hn := Lib.hid hn
  have HG := Lib.hid (refGet_any A n c zs (w.alloc (.cells #[.int .i64 0, .int .u32 0, .int .u16 0] 70)) hn hnc (by omega) (hR.alloc _))
  have hrg := gtH_rng zs hR.1
  obtain ⟨er0, her⟩ : ∃ e, e = gtE zs := ⟨_, rfl⟩
  obtain ⟨hv, hhv⟩ : ∃ h, h = gtH zs := ⟨_, rfl⟩
  rw [← her, ← hhv] at HG
  rw [← hhv] at hrg
  have HER := Lib.hid her
  have HHV := Lib.hid hhv
  clear her hhv hR hn
  obtain ⟨d0, d1, d2, d3, d4, d5⟩ := hv
  simp only at hrg
  obtain ⟨s0, s1, s2, s3⟩ := hrg
  go_enter Try.func28, Try.ntmps28
  go_wp2_with fail
  refine HG.out.mono ?_
  rintro e w1 ⟨rfl, hb1⟩
  rw [show (Hd.mk d0 d1 d2 d3 d4 d5).val = .agg #[.int .i64 d0, .int .i64 d1, .int .i64 d2, .int .i64 d3, .int .u32 d4, .int .u32 d5] from rfl]
  have HK := Lib.hid ((Blk.new w 70 #[.int .i64 0, .int .u32 0, .int .u16 0]).below hb1)
  have hs1 : w.heap.size + 1 ≤ w1.heap.size := by have := hb1.size; simpa using this
  have HB1 := Lib.hid (show Below w.heap.size w w1 from ((Below.refl _ _).alloc (Nat.le_refl _) _).trans (hb1.mono (by simp)))
  clear hb1 HG
  go_upto_region 2 with fail
  obtain ⟨w2, hw2⟩ : ∃ w2, w2 = w1.alloc (.cells #[.int .i64 d0, .int .i64 d1, .int .i64 d2, .int .i64 d3, .int .u32 d4, .int .u32 d5] 84) := ⟨_, rfl⟩
  rw [← hw2]
  have HK2 := Lib.hid (show Blk w2 w.heap.size 70 #[.int .i64 0, .int .u32 0, .int .u16 0] by rw [hw2]; exact HK.out.alloc _)
  have HH2 := Lib.hid (show Blk w2 w1.heap.size 84 #[.int .i64 d0, .int .i64 d1, .int .i64 d2, .int .i64 d3, .int .u32 d4, .int .u32 d5] by rw [hw2]; exact Blk.new w1 _ _)
  have HB2 := Lib.hid (show Below w.heap.size w w2 by rw [hw2]; exact HB1.out.alloc HB1.out.size _)
  have hz2 : w2.heap.size = w1.heap.size + 1 := by rw [hw2]; simp
  have hne : w.heap.size ≠ w1.heap.size := by omega
  clear hw2 HK HB1
  generalize w1.heap.size = gh at *
  by_cases hz : er0 = 0
  · obtain rfl : er0 = 0 := hz
    have HP := Lib.hid (rget_any d0 d1 d2 d3 d4 d5 A n c zs w2 Hn.out hnc (by omega) (HR.out.below HB2.out) s0 s1 s2 s3)
    obtain ⟨er1, her⟩ : ∃ e, e = pgE ⟨d0, d1, d2, d3, d4, d5⟩ zs := ⟨_, rfl⟩
    obtain ⟨pv, hpv⟩ : ∃ p, p = pgP ⟨d0, d1, d2, d3, d4, d5⟩ zs := ⟨_, rfl⟩
    rw [← her, ← hpv] at HP
    have HPV := Lib.hid hpv
    have HER1 := Lib.hid her
    clear hpv her
    obtain ⟨p0, p1, p2, p3, p4, p5, er, ⟨e0, e1, e2, e3, e4, e5⟩, p7, p8⟩ := pv
    go_upto_region 5 with (first | ((with_reducible refine gd_ld 84 6 ?_); refine wpList_ld rfl 84 (.tmp 6) rfl _ rfl (HH2.out) sRHead ?_) | (go_at_call 53; refine (HP.out).mono ?_; rintro e w3 ⟨rfl, hb3⟩; rw [show (Pt.mk p0 p1 p2 p3 p4 p5 er (Hd.mk e0 e1 e2 e3 e4 e5) p7 p8).val = .agg #[.int .i64 p0, .int .u16 p1, .int .u16 p2, .int .i64 p3, .int .i64 p4, .int .i64 p5, .bool er, .int .i64 e0, .int .i64 e1, .int .i64 e2, .int .i64 e3, .int .u32 e4, .int .u32 e5, .int .i64 p7, .bool p8] from rfl]) | fail)
    obtain ⟨w4, hw4⟩ : ∃ w4, w4 = w3.alloc (.cells #[.int .i64 p0, .int .u16 p1, .int .u16 p2, .int .i64 p3, .int .i64 p4, .int .i64 p5, .bool er, .int .i64 e0, .int .i64 e1, .int .i64 e2, .int .i64 e3, .int .u32 e4, .int .u32 e5, .int .i64 p7, .bool p8] 112) := ⟨_, rfl⟩
    rw [← hw4]
    have z3 := hb3.size
    have HB4 := Lib.hid (show Below w.heap.size w w4 by rw [hw4]; exact bthen HB2.out (hb3.alloc hb3.size _))
    have HK4 := Lib.hid (show Blk w4 w.heap.size 70 #[.int .i64 0, .int .u32 0, .int .u16 0] by rw [hw4]; exact (HK2.out.below hb3).alloc _)
    have HH4 := Lib.hid (show Blk w4 gh 84 #[.int .i64 d0, .int .i64 d1, .int .i64 d2, .int .i64 d3, .int .u32 d4, .int .u32 d5] by rw [hw4]; exact (HH2.out.below hb3).alloc _)
    have HP4 := Lib.hid (show Blk w4 w3.heap.size 112 #[.int .i64 p0, .int .u16 p1, .int .u16 p2, .int .i64 p3, .int .i64 p4, .int .i64 p5, .bool er, .int .i64 e0, .int .i64 e1, .int .i64 e2, .int .i64 e3, .int .u32 e4, .int .u32 e5, .int .i64 p7, .bool p8] by rw [hw4]; exact Blk.new w3 _ _)
    have z4 : w4.heap.size = w3.heap.size + 1 := by rw [hw4]; simp
    have hlp : w.heap.size < w3.heap.size := by omega
    clear hw4 hb3 HP HK2 HH2 HB2
    generalize w3.heap.size = gp at *
    by_cases hz1 : er1 = 0
    · obtain rfl : er1 = 0 := hz1
      obtain ⟨fo, hfo⟩ : ∃ f, f = ofF out ⟨d0, d1, d2, d3, d4, d5⟩ ⟨p0, p1, p2, p3, p4, p5, er, ⟨e0, e1, e2, e3, e4, e5⟩, p7, p8⟩ := ⟨_, rfl⟩
      have HF := Lib.hid (show farF out zs = (if fo.pr = 1 then { fo with po := 0 } else fo) by
        unfold farF
        rw [← HER.out, ← HHV.out, ← HER1.out, if_neg (by decide), if_neg (by decide), ← HPV.out, ← hfo])
      have HE := Lib.hid (show farE zs = 0 by unfold farE; rw [← HER.out, if_neg (by decide), ← HHV.out, ← HER1.out])
      have k3 : w4.cell? ⟨gh, 3, none⟩ = some (.int .i64 d3) := HH4.out.cell 3
      have k4 : w4.cell? ⟨gh, 4, none⟩ = some (.int .u32 d4) := HH4.out.cell 4
      have k5 : w4.cell? ⟨gh, 5, none⟩ = some (.int .u32 d5) := HH4.out.cell 5
      have m1 : w4.cell? ⟨gp, 1, none⟩ = some (.int .u16 p1) := HP4.out.cell 1
      have m2 : w4.cell? ⟨gp, 2, none⟩ = some (.int .u16 p2) := HP4.out.cell 2
      have m6 : w4.cell? ⟨gp, 6, none⟩ = some (.bool er) := HP4.out.cell 6
      have m10 : w4.cell? ⟨gp, 10, none⟩ = some (.int .i64 e3) := HP4.out.cell 10
      have m11 : w4.cell? ⟨gp, 11, none⟩ = some (.int .u32 e4) := HP4.out.cell 11
      have m12 : w4.cell? ⟨gp, 12, none⟩ = some (.int .u32 e5) := HP4.out.cell 12
      subst hfo
      clear hz2
      go_upto_region 7 with fail
      cases er with
      | false =>
        cases out with
        | false =>
          go_quiet (fail)
          obtain ⟨n0, hq0⟩ : ∃ x, x = nq := ⟨_, rfl⟩
          rw [← hq0]
          clear hq0
          have HKQ := Lib.hid (show Blk (w4.drewN n0) w.heap.size 70 #[.int .i64 0, .int .u32 0, .int .u16 0] from HK4.out)
          have HBQ := Lib.hid (bthen HB4.out (bdrewN w4 n0))
          have HF2 := Lib.hid (show farF false zs = if d3 = 1 then ⟨d3, d4, 0⟩ else ⟨d3, d4, p1⟩ from HF.out)
          clear HF
          have m6q : (w4.drewN n0).cell? ⟨gp, 6, none⟩ = some (.bool false) := HP4.out.cell 6
          generalize w4.drewN n0 = wq at *
          by_cases ha : d3 = 1
          · obtain rfl : d3 = 1 := ha
            go_wp2_with (first | ((with_reducible refine gd_st 70 4 ?_); refine wpList_st rfl 70 (.tmp 4) _ rfl _ _ rfl _ rfl (HKQ.out) rFlow.2 (#[.int .i64 1, .int .u32 d4, .int .u16 0]) rfl (Nat.le_of_ble_eq_true rfl) rfl ?_; intro w4x hb4 hg4 hs4) | fail)
            refine bodyPost_ret (res_cell2 Try.results28 _ _ _ rfl rfl hb4 rFlow) rfl ⟨?_, bgrown HBQ.out hg4 (Nat.le_refl _)⟩
            rw [HF2.out, HE.out]
            rfl
          · have b3 : (d3 == 1) = false := by simp [ha]
            go_wp2_with (first | ((with_reducible refine gd_st 70 4 ?_); refine wpList_st rfl 70 (.tmp 4) _ rfl _ _ rfl _ rfl (HKQ.out) rFlow.2 (#[.int .i64 d3, .int .u32 d4, .int .u16 p1]) rfl (Nat.le_of_ble_eq_true rfl) rfl ?_; intro w4x hb4 hg4 hs4) | fail)
            refine bodyPost_ret (res_cell2 Try.results28 _ _ _ rfl rfl hb4 rFlow) rfl ⟨?_, bgrown HBQ.out hg4 (Nat.le_refl _)⟩
            rw [HF2.out, HE.out, if_neg ha]
            rfl
        | true =>
          go_quiet (fail)
          obtain ⟨n0, hq0⟩ : ∃ x, x = nq := ⟨_, rfl⟩
          rw [← hq0]
          clear hq0
          go_upto_region 9 with fail
          go_quiet (fail)
          obtain ⟨n1, hq1⟩ : ∃ x, x = nq := ⟨_, rfl⟩
          rw [← hq1]
          clear hq1
          have HKQ := Lib.hid (show Blk ((w4.drewN n0).drewN n1) w.heap.size 70 #[.int .i64 0, .int .u32 0, .int .u16 0] from HK4.out)
          have HBQ := Lib.hid (bthen (bthen HB4.out (bdrewN w4 n0)) (bdrewN (w4.drewN n0) n1))
          have HF2 := Lib.hid (show farF true zs = if d3 = 1 then ⟨d3, d5, 0⟩ else ⟨d3, d5, p2⟩ from HF.out)
          clear HF
          have m6q : ((w4.drewN n0).drewN n1).cell? ⟨gp, 6, none⟩ = some (.bool false) := HP4.out.cell 6
          generalize (w4.drewN n0).drewN n1 = wq at *
          by_cases ha : d3 = 1
          · obtain rfl : d3 = 1 := ha
            go_wp2_with (first | ((with_reducible refine gd_st 70 4 ?_); refine wpList_st rfl 70 (.tmp 4) _ rfl _ _ rfl _ rfl (HKQ.out) rFlow.2 (#[.int .i64 1, .int .u32 d5, .int .u16 0]) rfl (Nat.le_of_ble_eq_true rfl) rfl ?_; intro w4x hb4 hg4 hs4) | fail)
            refine bodyPost_ret (res_cell2 Try.results28 _ _ _ rfl rfl hb4 rFlow) rfl ⟨?_, bgrown HBQ.out hg4 (Nat.le_refl _)⟩
            rw [HF2.out, HE.out]
            rfl
          · have b3 : (d3 == 1) = false := by simp [ha]
            go_wp2_with (first | ((with_reducible refine gd_st 70 4 ?_); refine wpList_st rfl 70 (.tmp 4) _ rfl _ _ rfl _ rfl (HKQ.out) rFlow.2 (#[.int .i64 d3, .int .u32 d5, .int .u16 p2]) rfl (Nat.le_of_ble_eq_true rfl) rfl ?_; intro w4x hb4 hg4 hs4) | fail)
            refine bodyPost_ret (res_cell2 Try.results28 _ _ _ rfl rfl hb4 rFlow) rfl ⟨?_, bgrown HBQ.out hg4 (Nat.le_refl _)⟩
            rw [HF2.out, HE.out, if_neg ha]
            rfl
      | true =>
        cases out with
        | false =>
          go_quiet (fail)
          obtain ⟨n0, hq0⟩ : ∃ x, x = nq := ⟨_, rfl⟩
          rw [← hq0]
          clear hq0
          go_upto_region 11 with fail
          go_quiet (fail)
          obtain ⟨n1, hq1⟩ : ∃ x, x = nq := ⟨_, rfl⟩
          rw [← hq1]
          clear hq1
          have HKQ := Lib.hid (show Blk ((w4.drewN n0).drewN n1) w.heap.size 70 #[.int .i64 0, .int .u32 0, .int .u16 0] from HK4.out)
          have HBQ := Lib.hid (bthen (bthen HB4.out (bdrewN w4 n0)) (bdrewN (w4.drewN n0) n1))
          have HF2 := Lib.hid (show farF false zs = if e3 = 1 then ⟨e3, e5, 0⟩ else ⟨e3, e5, p2⟩ from HF.out)
          clear HF
          have m6q : ((w4.drewN n0).drewN n1).cell? ⟨gp, 6, none⟩ = some (.bool true) := HP4.out.cell 6
          generalize (w4.drewN n0).drewN n1 = wq at *
          by_cases ha : e3 = 1
          · obtain rfl : e3 = 1 := ha
            go_wp2_with (first | ((with_reducible refine gd_st 70 4 ?_); refine wpList_st rfl 70 (.tmp 4) _ rfl _ _ rfl _ rfl (HKQ.out) rFlow.2 (#[.int .i64 1, .int .u32 e5, .int .u16 0]) rfl (Nat.le_of_ble_eq_true rfl) rfl ?_; intro w4x hb4 hg4 hs4) | fail)
            refine bodyPost_ret (res_cell2 Try.results28 _ _ _ rfl rfl hb4 rFlow) rfl ⟨?_, bgrown HBQ.out hg4 (Nat.le_refl _)⟩
            rw [HF2.out, HE.out]
            rfl
          · have b3 : (e3 == 1) = false := by simp [ha]
            go_wp2_with (first | ((with_reducible refine gd_st 70 4 ?_); refine wpList_st rfl 70 (.tmp 4) _ rfl _ _ rfl _ rfl (HKQ.out) rFlow.2 (#[.int .i64 e3, .int .u32 e5, .int .u16 p2]) rfl (Nat.le_of_ble_eq_true rfl) rfl ?_; intro w4x hb4 hg4 hs4) | fail)
            refine bodyPost_ret (res_cell2 Try.results28 _ _ _ rfl rfl hb4 rFlow) rfl ⟨?_, bgrown HBQ.out hg4 (Nat.le_refl _)⟩
            rw [HF2.out, HE.out, if_neg ha]
            rfl
        | true =>
          go_quiet (fail)
          obtain ⟨n0, hq0⟩ : ∃ x, x = nq := ⟨_, rfl⟩
          rw [← hq0]
          clear hq0
          go_upto_region 9 with fail
          go_quiet (fail)
          obtain ⟨n1, hq1⟩ : ∃ x, x = nq := ⟨_, rfl⟩
          rw [← hq1]
          clear hq1
          go_upto_region 11 with fail
          go_quiet (fail)
          obtain ⟨n2, hq2⟩ : ∃ x, x = nq := ⟨_, rfl⟩
          rw [← hq2]
          clear hq2
          go_upto_region 13 with fail
          go_quiet (fail)
          obtain ⟨n3, hq3⟩ : ∃ x, x = nq := ⟨_, rfl⟩
          rw [← hq3]
          clear hq3
          have HKQ := Lib.hid (show Blk (w4.drewN (n0 + n1 + (n2 + n3))) w.heap.size 70 #[.int .i64 0, .int .u32 0, .int .u16 0] from HK4.out)
          have HBQ := Lib.hid (bthen HB4.out (bdrewN w4 (n0 + n1 + (n2 + n3))))
          have HF2 := Lib.hid (show farF true zs = if e3 = 1 then ⟨e3, e4, 0⟩ else ⟨e3, e4, p1⟩ from HF.out)
          clear HF
          have m6q : (w4.drewN (n0 + n1 + (n2 + n3))).cell? ⟨gp, 6, none⟩ = some (.bool true) := HP4.out.cell 6
          rw [World.drewN_drewN, World.drewN_drewN]
          generalize w4.drewN (n0 + n1 + (n2 + n3)) = wq at *
          by_cases ha : e3 = 1
          · obtain rfl : e3 = 1 := ha
            go_wp2_with (first | ((with_reducible refine gd_st 70 4 ?_); refine wpList_st rfl 70 (.tmp 4) _ rfl _ _ rfl _ rfl (HKQ.out) rFlow.2 (#[.int .i64 1, .int .u32 e4, .int .u16 0]) rfl (Nat.le_of_ble_eq_true rfl) rfl ?_; intro w4x hb4 hg4 hs4) | fail)
            refine bodyPost_ret (res_cell2 Try.results28 _ _ _ rfl rfl hb4 rFlow) rfl ⟨?_, bgrown HBQ.out hg4 (Nat.le_refl _)⟩
            rw [HF2.out, HE.out]
            rfl
          · have b3 : (e3 == 1) = false := by simp [ha]
            go_wp2_with (first | ((with_reducible refine gd_st 70 4 ?_); refine wpList_st rfl 70 (.tmp 4) _ rfl _ _ rfl _ rfl (HKQ.out) rFlow.2 (#[.int .i64 e3, .int .u32 e4, .int .u16 p1]) rfl (Nat.le_of_ble_eq_true rfl) rfl ?_; intro w4x hb4 hg4 hs4) | fail)
            refine bodyPost_ret (res_cell2 Try.results28 _ _ _ rfl rfl hb4 rFlow) rfl ⟨?_, bgrown HBQ.out hg4 (Nat.le_refl _)⟩
            rw [HF2.out, HE.out, if_neg ha]
            rfl
    · have b1 : (er1 == 0) = false := by simp [hz1]
      have b2 : (er1 != 0) = true := by simp [hz1]
      go_wp2_with (first | ((with_reducible refine gd_st 70 4 ?_); refine wpList_st rfl 70 (.tmp 4) _ rfl _ _ rfl _ rfl (HK4.out) rFlow.2 (#[.int .i64 0, .int .u32 0, .int .u16 0]) rfl (Nat.le_of_ble_eq_true rfl) rfl ?_; intro w4 hb4 hg4 hs4) | fail)
      refine bodyPost_ret (res_cell2 Try.results28 _ _ _ rfl rfl hb4 rFlow) rfl ⟨?_, bgrown HB4.out hg4 (Nat.le_refl _)⟩
      have hq : ¬ gtE zs ≠ 0 := by rw [← HER.out]; decide
      have hq1 : pgE (gtH zs) zs ≠ 0 := by rw [← HHV.out, ← HER1.out]; exact hz1
      unfold farF farE
      rw [if_neg hq, if_pos hq1, if_neg hq, ← HHV.out, ← HER1.out]
      rfl
  · have b1 : (er0 == 0) = false := by simp [hz]
    have b2 : (er0 != 0) = true := by simp [hz]
    go_wp2_with (first | ((with_reducible refine gd_st 70 4 ?_); refine wpList_st rfl 70 (.tmp 4) _ rfl _ _ rfl _ rfl (HK2.out) rFlow.2 (#[.int .i64 0, .int .u32 0, .int .u16 0]) rfl (Nat.le_of_ble_eq_true rfl) rfl ?_; intro w4 hb4 hg4 hs4) | fail)
    refine bodyPost_ret (res_cell2 Try.results28 _ _ _ rfl rfl hb4 rFlow) rfl ⟨?_, bgrown HB2.out hg4 (Nat.le_refl _)⟩
    have hq : gtE zs ≠ 0 := by rw [← HER.out]; exact hz
    unfold farF farE
    rw [if_pos hq, if_pos hq, ← HER.out]
    rfl
end Go.Proofs.Ytbnlpidhbilenaa
