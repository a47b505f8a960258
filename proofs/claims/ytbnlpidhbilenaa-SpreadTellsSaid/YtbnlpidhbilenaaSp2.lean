/-
  spread: Far. Conditions stand in each theorem.
-/
import Derived.Test.YtbnlpidhbilenaaSp
namespace Go.Proofs.Ytbnlpidhbilenaa
open Go.RowKit Plain
set_option linter.unusedVariables false
set_option maxRecDepth 100000
theorem gtH_rng (zs : List Int) (h : By zs) : 0 ≤ (gtH zs).src ∧ (gtH zs).src ≤ 4294967295 ∧ 0 ≤ (gtH zs).dst ∧ (gtH zs).dst ≤ 4294967295 := by
  have r12 := G32_range zs h 12
  have r16 := G32_range zs h 16
  unfold gtH
  split
  · unfold fld; simp only; omega
  · unfold hd0; simp
set_option maxHeartbeats 8000000 in
theorem far_any (out : Bool) (A : Option Addr) (n c : Nat) (zs : List Int) (w : World) (hn : zs.length = n) (hnc : n ≤ c) (hl : n ≤ 100000) (hR : Rd w A zs) :
    Calls Try.prog 27 #[.bool out, .slice A n c] w fun e w' => e = .returned (.tuple #[(farF out zs).val, .int .i64 (farE zs)]) ∧ Below w.heap.size w w' := by
  have HR := Lib.hid hR
  have Hn := Lib.hid hn
  have HG := Lib.hid (get_any A n c zs (w.alloc (.cells #[.int .i64 0, .int .u32 0, .int .u16 0] 67)) hn hnc (by omega) (hR.alloc _))
  have hrg := gtH_rng zs hR.1
  obtain ⟨er0, her⟩ : ∃ e, e = gtE zs := ⟨_, rfl⟩
  obtain ⟨hv, hhv⟩ : ∃ h, h = gtH zs := ⟨_, rfl⟩
  rw [← her, ← hhv] at HG
  rw [← hhv] at hrg
  have HER := Lib.hid her
  have HHV := Lib.hid hhv
  clear her hhv hR hn
  obtain ⟨d0, d1, d2, d3, d4, d5⟩ := hv
  simp only at hrg
  obtain ⟨s0, s1, s2, s3⟩ := hrg
  go_enter Try.func27, Try.ntmps27
  go_wp2_with fail
  refine HG.out.mono ?_
  rintro e w1 ⟨rfl, hb1⟩
  rw [show (Hd.mk d0 d1 d2 d3 d4 d5).val = .agg #[.int .i64 d0, .int .i64 d1, .int .i64 d2, .int .i64 d3, .int .u32 d4, .int .u32 d5] from rfl]
  have HK := Lib.hid ((Blk.new w 67 #[.int .i64 0, .int .u32 0, .int .u16 0]).below hb1)
  have hs1 : w.heap.size + 1 ≤ w1.heap.size := by have := hb1.size; simpa using this
  have HB1 := Lib.hid (show Below w.heap.size w w1 from ((Below.refl _ _).alloc (Nat.le_refl _) _).trans (hb1.mono (by simp)))
  clear hb1 HG
  go_upto_region 2 with fail
  obtain ⟨w2, hw2⟩ : ∃ w2, w2 = w1.alloc (.cells #[.int .i64 d0, .int .i64 d1, .int .i64 d2, .int .i64 d3, .int .u32 d4, .int .u32 d5] 103) := ⟨_, rfl⟩
  rw [← hw2]
  have HK2 := Lib.hid (show Blk w2 w.heap.size 67 #[.int .i64 0, .int .u32 0, .int .u16 0] by rw [hw2]; exact HK.out.alloc _)
  have HH2 := Lib.hid (show Blk w2 w1.heap.size 103 #[.int .i64 d0, .int .i64 d1, .int .i64 d2, .int .i64 d3, .int .u32 d4, .int .u32 d5] by rw [hw2]; exact Blk.new w1 _ _)
  have HB2 := Lib.hid (show Below w.heap.size w w2 by rw [hw2]; exact HB1.out.alloc HB1.out.size _)
  have hz2 : w2.heap.size = w1.heap.size + 1 := by rw [hw2]; simp
  have hne : w.heap.size ≠ w1.heap.size := by omega
  clear hw2 HK HB1
  generalize w1.heap.size = gh at *
  by_cases hz : er0 = 0
  · obtain rfl : er0 = 0 := hz
    have HP := Lib.hid (pget_any d0 d1 d2 d3 d4 d5 A n c zs w2 Hn.out hnc (by omega) (HR.out.below HB2.out) s0 s1 s2 s3)
    obtain ⟨er1, her⟩ : ∃ e, e = pgE ⟨d0, d1, d2, d3, d4, d5⟩ zs := ⟨_, rfl⟩
    obtain ⟨pv, hpv⟩ : ∃ p, p = pgP ⟨d0, d1, d2, d3, d4, d5⟩ zs := ⟨_, rfl⟩
    rw [← her, ← hpv] at HP
    have HPV := Lib.hid hpv
    have HER1 := Lib.hid her
    clear hpv her
    obtain ⟨p0, p1, p2, p3, p4, p5, er, ⟨e0, e1, e2, e3, e4, e5⟩, p7, p8⟩ := pv
    go_upto_region 5 with (first | ((with_reducible refine gd_ld 103 6 ?_); refine wpList_ld rfl 103 (.tmp 6) rfl _ rfl (HH2.out) sHead ?_) | (go_at_call 51; refine (HP.out).mono ?_; rintro e w3 ⟨rfl, hb3⟩; rw [show (Pt.mk p0 p1 p2 p3 p4 p5 er (Hd.mk e0 e1 e2 e3 e4 e5) p7 p8).val = .agg #[.int .i64 p0, .int .u16 p1, .int .u16 p2, .int .i64 p3, .int .i64 p4, .int .i64 p5, .bool er, .int .i64 e0, .int .i64 e1, .int .i64 e2, .int .i64 e3, .int .u32 e4, .int .u32 e5, .int .i64 p7, .bool p8] from rfl]) | fail)
    obtain ⟨w4, hw4⟩ : ∃ w4, w4 = w3.alloc (.cells #[.int .i64 p0, .int .u16 p1, .int .u16 p2, .int .i64 p3, .int .i64 p4, .int .i64 p5, .bool er, .int .i64 e0, .int .i64 e1, .int .i64 e2, .int .i64 e3, .int .u32 e4, .int .u32 e5, .int .i64 p7, .bool p8] 107) := ⟨_, rfl⟩
    rw [← hw4]
    have z3 := hb3.size
    have HB4 := Lib.hid (show Below w.heap.size w w4 by rw [hw4]; exact bthen HB2.out (hb3.alloc hb3.size _))
    have HK4 := Lib.hid (show Blk w4 w.heap.size 67 #[.int .i64 0, .int .u32 0, .int .u16 0] by rw [hw4]; exact (HK2.out.below hb3).alloc _)
    have HH4 := Lib.hid (show Blk w4 gh 103 #[.int .i64 d0, .int .i64 d1, .int .i64 d2, .int .i64 d3, .int .u32 d4, .int .u32 d5] by rw [hw4]; exact (HH2.out.below hb3).alloc _)
    have HP4 := Lib.hid (show Blk w4 w3.heap.size 107 #[.int .i64 p0, .int .u16 p1, .int .u16 p2, .int .i64 p3, .int .i64 p4, .int .i64 p5, .bool er, .int .i64 e0, .int .i64 e1, .int .i64 e2, .int .i64 e3, .int .u32 e4, .int .u32 e5, .int .i64 p7, .bool p8] by rw [hw4]; exact Blk.new w3 _ _)
    have z4 : w4.heap.size = w3.heap.size + 1 := by rw [hw4]; simp
    have hlp : w.heap.size < w3.heap.size := by omega
    clear hw4 hb3 HP HK2 HH2 HB2
    generalize w3.heap.size = gp at *
    by_cases hz1 : er1 = 0
    · obtain rfl : er1 = 0 := hz1
      obtain ⟨fo, hfo⟩ : ∃ f, f = ofF out ⟨d0, d1, d2, d3, d4, d5⟩ ⟨p0, p1, p2, p3, p4, p5, er, ⟨e0, e1, e2, e3, e4, e5⟩, p7, p8⟩ := ⟨_, rfl⟩
      have hof := farOf_any out ⟨d0, d1, d2, d3, d4, d5⟩ ⟨p0, p1, p2, p3, p4, p5, er, ⟨e0, e1, e2, e3, e4, e5⟩, p7, p8⟩ w4
      rw [← hfo] at hof
      have HOF := Lib.hid hof
      have HFO := Lib.hid hfo
      clear hof hfo
      obtain ⟨a0, a1, a2⟩ := fo
      have HF := Lib.hid (show farF out zs = if a0 = 1 then ⟨a0, a1, 0⟩ else ⟨a0, a1, a2⟩ by
        unfold farF
        rw [← HER.out, ← HHV.out, ← HER1.out, if_neg (by decide), if_neg (by decide), ← HPV.out, ← HFO.out])
      have HE := Lib.hid (show farE zs = 0 by unfold farE; rw [← HER.out, if_neg (by decide), ← HHV.out, ← HER1.out])
      go_upto_region 8 with (first | ((with_reducible refine gd_ld 103 6 ?_); refine wpList_ld rfl 103 (.tmp 6) rfl _ rfl (HH4.out) sHead ?_) | ((with_reducible refine gd_ld 107 8 ?_); refine wpList_ld rfl 107 (.tmp 8) rfl _ rfl (HP4.out) sPart ?_) | (go_at_call 52; refine (HOF.out).mono ?_; rintro e w5 ⟨rfl, hb5⟩; rw [show (Fo.mk a0 a1 a2).val = .agg #[.int .i64 a0, .int .u32 a1, .int .u16 a2] from rfl]) | fail)
      obtain ⟨w6, hw6⟩ : ∃ w6, w6 = w5.alloc (.cells #[.int .i64 a0, .int .u32 a1, .int .u16 a2] 67) := ⟨_, rfl⟩
      rw [← hw6]
      have z5 := hb5.size
      have HB6 := Lib.hid (show Below w.heap.size w w6 by rw [hw6]; exact bthen HB4.out (hb5.alloc hb5.size _))
      have HK6 := Lib.hid (show Blk w6 w.heap.size 67 #[.int .i64 0, .int .u32 0, .int .u16 0] by rw [hw6]; exact (HK4.out.below hb5).alloc _)
      have h9 : Blk w6 w5.heap.size 67 #[.int .i64 a0, .int .u32 a1, .int .u16 a2] := by rw [hw6]; exact Blk.new w5 _ _
      have hl9 : w.heap.size < w5.heap.size := by omega
      have hl10 : w.heap.size ≤ w5.heap.size := by omega
      have hne9 : w5.heap.size ≠ w.heap.size := by omega
      clear hw6 hb5 HOF HK4 HH4 HP4 HB4
      generalize w5.heap.size = g9 at *
      have k0 : w6.cell? ⟨g9, 0, none⟩ = some (.int .i64 a0) := h9.cell 0
      have k2 : w6.cell? ⟨g9, 2, none⟩ = some (.int .u16 a2) := h9.cell 2
      have f2 := h9.frozen 2
      have H9 := Lib.hid h9
      clear h9
      by_cases ha : a0 = 1
      · obtain rfl := ha
        go_upto_region 10 with fail
        have hk9 := H9.out.set 2 (.int .u16 0)
        have hkk := HK6.out.ne (p := ⟨g9, 2, none⟩) hne9 (.int .u16 0)
        have hbb := HB6.out.setCell (p := ⟨g9, 2, none⟩) hl10 (.int .u16 0)
        have H9' := Lib.hid (show Blk (w6.setCell ⟨g9, 2, none⟩ (.int .u16 0)) g9 67 #[.int .i64 1, .int .u32 a1, .int .u16 0] from hk9)
        have HK9 := Lib.hid hkk
        have HB9 := Lib.hid hbb
        clear hk9 hkk hbb k0 k2 f2 H9 HK6 HB6
        generalize w6.setCell ⟨g9, 2, none⟩ (.int .u16 0) = w7 at *
        go_wp2_with (first | ((with_reducible refine gd_ld 67 9 ?_); refine wpList_ld rfl 67 (.tmp 9) rfl _ rfl (H9'.out) sFlow ?_) | ((with_reducible refine gd_st 67 4 ?_); refine wpList_st rfl 67 (.tmp 4) _ rfl _ _ rfl _ rfl (HK9.out) sFlow.2 (#[.int .i64 1, .int .u32 a1, .int .u16 0]) rfl (Nat.le_of_ble_eq_true rfl) rfl ?_; intro w4 hb4 hg4 hs4) | fail)
        refine bodyPost_ret (res_cell2 Try.results27 _ _ _ rfl rfl hb4 sFlow) rfl ⟨?_, bgrown HB9.out hg4 (Nat.le_refl _)⟩
        rw [HF.out, HE.out]
        rfl
      · have b3 : (a0 == 1) = false := by simp [ha]
        go_wp2_with (first | ((with_reducible refine gd_ld 67 9 ?_); refine wpList_ld rfl 67 (.tmp 9) rfl _ rfl (H9.out) sFlow ?_) | ((with_reducible refine gd_st 67 4 ?_); refine wpList_st rfl 67 (.tmp 4) _ rfl _ _ rfl _ rfl (HK6.out) sFlow.2 (#[.int .i64 a0, .int .u32 a1, .int .u16 a2]) rfl (Nat.le_of_ble_eq_true rfl) rfl ?_; intro w4 hb4 hg4 hs4) | fail)
        refine bodyPost_ret (res_cell2 Try.results27 _ _ _ rfl rfl hb4 sFlow) rfl ⟨?_, bgrown HB6.out hg4 (Nat.le_refl _)⟩
        rw [HF.out, HE.out, if_neg ha]
        rfl
    · have b1 : (er1 == 0) = false := by simp [hz1]
      have b2 : (er1 != 0) = true := by simp [hz1]
      go_wp2_with (first | ((with_reducible refine gd_st 67 4 ?_); refine wpList_st rfl 67 (.tmp 4) _ rfl _ _ rfl _ rfl (HK4.out) sFlow.2 (#[.int .i64 0, .int .u32 0, .int .u16 0]) rfl (Nat.le_of_ble_eq_true rfl) rfl ?_; intro w4 hb4 hg4 hs4) | fail)
      refine bodyPost_ret (res_cell2 Try.results27 _ _ _ rfl rfl hb4 sFlow) rfl ⟨?_, bgrown HB4.out hg4 (Nat.le_refl _)⟩
      have hq : ¬ gtE zs ≠ 0 := by rw [← HER.out]; decide
      have hq1 : pgE (gtH zs) zs ≠ 0 := by rw [← HHV.out, ← HER1.out]; exact hz1
      unfold farF farE
      rw [if_neg hq, if_pos hq1, if_neg hq, ← HHV.out, ← HER1.out]
      rfl
  · have b1 : (er0 == 0) = false := by simp [hz]
    have b2 : (er0 != 0) = true := by simp [hz]
    go_wp2_with (first | ((with_reducible refine gd_st 67 4 ?_); refine wpList_st rfl 67 (.tmp 4) _ rfl _ _ rfl _ rfl (HK2.out) sFlow.2 (#[.int .i64 0, .int .u32 0, .int .u16 0]) rfl (Nat.le_of_ble_eq_true rfl) rfl ?_; intro w4 hb4 hg4 hs4) | fail)
    refine bodyPost_ret (res_cell2 Try.results27 _ _ _ rfl rfl hb4 sFlow) rfl ⟨?_, bgrown HB2.out hg4 (Nat.le_refl _)⟩
    have hq : gtE zs ≠ 0 := by rw [← HER.out]; exact hz
    unfold farF farE
    rw [if_pos hq, if_pos hq, ← HER.out]
    rfl
end Go.Proofs.Ytbnlpidhbilenaa
