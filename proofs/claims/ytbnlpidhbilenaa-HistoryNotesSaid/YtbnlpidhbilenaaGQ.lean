/-
  Several small texts in one: Hs, Ho. Conditions stand in each theorem.
-/
import Derived.Test.YtbnlpidhbilenaaGP
namespace Go.Proofs.Ytbnlpidhbilenaa
open Go.RowKit Plain
set_option linter.unusedVariables false
set_option linter.unusedSimpArgs false
set_option maxRecDepth 100000
def srcF (zs : List Int) : Int := if gtE zs ≠ 0 then 0 else if pgE (gtH zs) zs ≠ 0 then 0 else (pgP (gtH zs) zs).sp
set_option maxHeartbeats 2000000 in
theorem source_any (A : Option Addr) (n c : Nat) (zs : List Int) (w : World) (hn : zs.length = n) (hnc : n ≤ c) (hl : n ≤ 100000) (hR : Rd w A zs) :
    Calls Try.prog 57 #[.slice A n c] w fun e w' => e = .returned (.int .i64 (srcF zs)) ∧ Below w.heap.size w w' := by
  have hpr := pgP_R (gtH zs) zs hR.1
  have HR := Lib.hid hR
  have Hn := Lib.hid hn
  have HG := Lib.hid (get_any A n c zs w hn hnc (by omega) hR)
  have hrg := gtH_rng zs hR.1
  obtain ⟨er0, her⟩ : ∃ e, e = gtE zs := ⟨_, rfl⟩
  obtain ⟨hv, hhv⟩ : ∃ h, h = gtH zs := ⟨_, rfl⟩
  rw [← her, ← hhv] at HG
  rw [← hhv] at hrg hpr
  have HER := Lib.hid her
  have HHV := Lib.hid hhv
  clear her hhv hR hn
  obtain ⟨d0, d1, d2, d3, d4, d5⟩ := hv
  simp only at hrg
  obtain ⟨s0, s1, s2, s3⟩ := hrg
  go_enter Try.func57, Try.ntmps57
  go_wp2_with fail
  refine HG.out.mono ?_
  rintro e w1 ⟨rfl, hb1⟩
  rw [show (Hd.mk d0 d1 d2 d3 d4 d5).val = .agg #[.int .i64 d0, .int .i64 d1, .int .i64 d2, .int .i64 d3, .int .u32 d4, .int .u32 d5] from rfl]
  have HB1 := Lib.hid hb1
  clear hb1 HG
  go_upto_region 2 with fail
  obtain ⟨w2, hw2⟩ : ∃ w2, w2 = w1.alloc (.cells #[.int .i64 d0, .int .i64 d1, .int .i64 d2, .int .i64 d3, .int .u32 d4, .int .u32 d5] 103) := ⟨_, rfl⟩
  rw [← hw2]
  have HH2 := Lib.hid (show Blk w2 w1.heap.size 103 #[.int .i64 d0, .int .i64 d1, .int .i64 d2, .int .i64 d3, .int .u32 d4, .int .u32 d5] by rw [hw2]; exact Blk.new w1 _ _)
  have HB2 := Lib.hid (show Below w.heap.size w w2 by rw [hw2]; exact HB1.out.alloc HB1.out.size _)
  clear hw2 HB1
  generalize w1.heap.size = gh at *
  by_cases hz : er0 = 0
  · obtain rfl : er0 = 0 := hz
    have HP := Lib.hid (pget_any d0 d1 d2 d3 d4 d5 A n c zs w2 Hn.out hnc (by omega) (HR.out.below HB2.out) s0 s1 s2 s3)
    obtain ⟨er1, her⟩ : ∃ e, e = pgE ⟨d0, d1, d2, d3, d4, d5⟩ zs := ⟨_, rfl⟩
    obtain ⟨pv, hpv⟩ : ∃ p, p = pgP ⟨d0, d1, d2, d3, d4, d5⟩ zs := ⟨_, rfl⟩
    rw [← her, ← hpv] at HP
    rw [← hpv] at hpr
    have HPV := Lib.hid hpv
    have HER1 := Lib.hid her
    clear hpv her
    obtain ⟨p0, p1, p2, p3, p4, p5, er, ⟨e0, e1, e2, e3, e4, e5⟩, p7, p8⟩ := pv
    have hb1 : 0 ≤ p1 ∧ p1 ≤ 65535 := ⟨hpr.s0, hpr.s1⟩
    go_upto_region 5 with (first | ((with_reducible refine gd_ld 103 3 ?_); refine wpList_ld rfl 103 (.tmp 3) rfl _ rfl (HH2.out) sHead ?_) | (go_at_call 51; refine (HP.out).mono ?_; rintro e w3 ⟨rfl, hb3⟩; rw [show (Pt.mk p0 p1 p2 p3 p4 p5 er (Hd.mk e0 e1 e2 e3 e4 e5) p7 p8).val = .agg #[.int .i64 p0, .int .u16 p1, .int .u16 p2, .int .i64 p3, .int .i64 p4, .int .i64 p5, .bool er, .int .i64 e0, .int .i64 e1, .int .i64 e2, .int .i64 e3, .int .u32 e4, .int .u32 e5, .int .i64 p7, .bool p8] from rfl]) | fail)
    obtain ⟨w4, hw4⟩ : ∃ w4, w4 = w3.alloc (.cells #[.int .i64 p0, .int .u16 p1, .int .u16 p2, .int .i64 p3, .int .i64 p4, .int .i64 p5, .bool er, .int .i64 e0, .int .i64 e1, .int .i64 e2, .int .i64 e3, .int .u32 e4, .int .u32 e5, .int .i64 p7, .bool p8] 107) := ⟨_, rfl⟩
    rw [← hw4]
    have HB4 := Lib.hid (show Below w.heap.size w w4 by rw [hw4]; exact bthen HB2.out (hb3.alloc hb3.size _))
    have hp4 : Blk w4 w3.heap.size 107 #[.int .i64 p0, .int .u16 p1, .int .u16 p2, .int .i64 p3, .int .i64 p4, .int .i64 p5, .bool er, .int .i64 e0, .int .i64 e1, .int .i64 e2, .int .i64 e3, .int .u32 e4, .int .u32 e5, .int .i64 p7, .bool p8] := by rw [hw4]; exact Blk.new w3 _ _
    have k1 : w4.cell? ⟨w3.heap.size, 1, none⟩ = some (.int .u16 p1) := hp4.cell 1
    clear hw4 hb3 HP HB2 hp4
    generalize w3.heap.size = gp at *
    by_cases hz1 : er1 = 0
    · obtain rfl : er1 = 0 := hz1
      have HF := Lib.hid (show srcF zs = p1 by
        unfold srcF
        rw [← HER.out, ← HHV.out, ← HER1.out, if_neg (by decide), if_neg (by decide), ← HPV.out])
      have ec : IntKind.i64.wrap p1 = p1 := IntWalk.i64_in _ (by omega)
      go_wp2
      go_ret
      exact ⟨by rw [HF.out]; rfl, HB4.out⟩
    · have b1 : (er1 == 0) = false := by simp [hz1]
      have b2 : (er1 != 0) = true := by simp [hz1]
      have HF := Lib.hid (show srcF zs = 0 by
        unfold srcF
        rw [← HER.out, ← HHV.out, ← HER1.out, if_neg (by decide), if_pos hz1])
      go_wp2
      go_ret
      exact ⟨by rw [HF.out]; rfl, HB4.out⟩
  · have b1 : (er0 == 0) = false := by simp [hz]
    have b2 : (er0 != 0) = true := by simp [hz]
    have HF := Lib.hid (show srcF zs = 0 by
      unfold srcF
      rw [← HER.out, if_pos hz])
    go_wp2
    go_ret
    exact ⟨by rw [HF.out]; rfl, HB2.out⟩
end Go.Proofs.Ytbnlpidhbilenaa

namespace Go.Proofs.Ytbnlpidhbilenaa
open Go.RowKit Plain
set_option linter.unusedVariables false
set_option linter.unusedSimpArgs false
set_option maxRecDepth 100000
def paF (zs : List Int) : Pt := if gtE zs ≠ 0 then pt0 else pgP (gtH zs) zs
def paO (zs : List Int) : Bool := if gtE zs ≠ 0 then false else (pgE (gtH zs) zs == 0)
theorem srcF_pa (zs : List Int) : srcF zs = if paO zs = true then (paF zs).sp else 0 := by
  unfold srcF paO paF
  by_cases h : gtE zs ≠ 0
  · rw [if_pos h, if_pos h]; rfl
  · rw [if_neg h, if_neg h, if_neg h]
    by_cases h2 : pgE (gtH zs) zs = 0
    · rw [if_neg (by simpa using h2), h2]; rfl
    · rw [if_pos h2, if_neg (by simpa using h2)]
theorem paF_R (zs : List Int) (h : By zs) : 0 ≤ (paF zs).sp ∧ (paF zs).sp ≤ 65535 := by
  unfold paF
  split
  · exact ⟨by decide, by decide⟩
  · have := pgP_R (gtH zs) zs h
    exact ⟨this.s0, this.s1⟩
set_option maxHeartbeats 4000000 in
theorem rpart_any (A : Option Addr) (n c : Nat) (zs : List Int) (w : World) (hn : zs.length = n) (hnc : n ≤ c) (hl : n ≤ 100000) (hR : Rd w A zs) :
    Calls Try.prog 60 #[.slice A n c] w fun e w' => e = .returned (.tuple #[(paF zs).val, .bool (paO zs)]) ∧ Below w.heap.size w w' := by
  have HR := Lib.hid hR
  have Hn := Lib.hid hn
  have HG := Lib.hid (refGet_any A n c zs (w.alloc (.cells #[.int .i64 0, .int .u16 0, .int .u16 0, .int .i64 0, .int .i64 0, .int .i64 0, .bool false, .int .i64 0, .int .i64 0, .int .i64 0, .int .i64 0, .int .u32 0, .int .u32 0, .int .i64 0, .bool false] 112)) hn hnc (by omega) (hR.alloc _))
  have hrg := gtH_rng zs hR.1
  obtain ⟨er0, her⟩ : ∃ e, e = gtE zs := ⟨_, rfl⟩
  obtain ⟨hv, hhv⟩ : ∃ h, h = gtH zs := ⟨_, rfl⟩
  rw [← her, ← hhv] at HG
  rw [← hhv] at hrg
  have HER := Lib.hid her
  have HHV := Lib.hid hhv
  clear her hhv hR hn
  obtain ⟨d0, d1, d2, d3, d4, d5⟩ := hv
  simp only at hrg
  obtain ⟨s0, s1, s2, s3⟩ := hrg
  go_enter Try.func60, Try.ntmps60
  go_wp2_with fail
  refine HG.out.mono ?_
  rintro e w1 ⟨rfl, hb1⟩
  rw [show (Hd.mk d0 d1 d2 d3 d4 d5).val = .agg #[.int .i64 d0, .int .i64 d1, .int .i64 d2, .int .i64 d3, .int .u32 d4, .int .u32 d5] from rfl]
  have HK := Lib.hid ((Blk.new w 112 #[.int .i64 0, .int .u16 0, .int .u16 0, .int .i64 0, .int .i64 0, .int .i64 0, .bool false, .int .i64 0, .int .i64 0, .int .i64 0, .int .i64 0, .int .u32 0, .int .u32 0, .int .i64 0, .bool false]).below hb1)
  have hs1 : w.heap.size + 1 ≤ w1.heap.size := by have := hb1.size; simpa using this
  have HB1 := Lib.hid (show Below w.heap.size w w1 from ((Below.refl _ _).alloc (Nat.le_refl _) _).trans (hb1.mono (by simp)))
  clear hb1 HG
  go_upto_region 2 with fail
  obtain ⟨w2, hw2⟩ : ∃ w2, w2 = w1.alloc (.cells #[.int .i64 d0, .int .i64 d1, .int .i64 d2, .int .i64 d3, .int .u32 d4, .int .u32 d5] 84) := ⟨_, rfl⟩
  rw [← hw2]
  have HK2 := Lib.hid (show Blk w2 w.heap.size 112 #[.int .i64 0, .int .u16 0, .int .u16 0, .int .i64 0, .int .i64 0, .int .i64 0, .bool false, .int .i64 0, .int .i64 0, .int .i64 0, .int .i64 0, .int .u32 0, .int .u32 0, .int .i64 0, .bool false] by rw [hw2]; exact HK.out.alloc _)
  have HH2 := Lib.hid (show Blk w2 w1.heap.size 84 #[.int .i64 d0, .int .i64 d1, .int .i64 d2, .int .i64 d3, .int .u32 d4, .int .u32 d5] by rw [hw2]; exact Blk.new w1 _ _)
  have HB2 := Lib.hid (show Below w.heap.size w w2 by rw [hw2]; exact HB1.out.alloc HB1.out.size _)
  clear hw2 HK HB1
  generalize w1.heap.size = gh at *
  by_cases hz : er0 = 0
  · obtain rfl : er0 = 0 := hz
    have HP := Lib.hid (rget_any d0 d1 d2 d3 d4 d5 A n c zs w2 Hn.out hnc (by omega) (HR.out.below HB2.out) s0 s1 s2 s3)
    obtain ⟨er1, her⟩ : ∃ e, e = pgE ⟨d0, d1, d2, d3, d4, d5⟩ zs := ⟨_, rfl⟩
    obtain ⟨pv, hpv⟩ : ∃ p, p = pgP ⟨d0, d1, d2, d3, d4, d5⟩ zs := ⟨_, rfl⟩
    rw [← her, ← hpv] at HP
    have HF := Lib.hid (show paF zs = pv ∧ paO zs = (er1 == 0) by
      unfold paF paO
      rw [← HER.out, ← HHV.out, ← her, ← hpv, if_neg (by decide), if_neg (by decide)]
      exact ⟨rfl, rfl⟩)
    clear hpv her
    obtain ⟨p0, p1, p2, p3, p4, p5, er, ⟨e0, e1, e2, e3, e4, e5⟩, p7, p8⟩ := pv
    obtain ⟨ob, hob⟩ : ∃ b, (er1 == 0) = b := ⟨_, rfl⟩
    go_upto_region 5 with (first | ((with_reducible refine gd_ld 84 4 ?_); refine wpList_ld rfl 84 (.tmp 4) rfl _ rfl (HH2.out) sRHead ?_) | (go_at_call 53; refine (HP.out).mono ?_; rintro e w3 ⟨rfl, hb3⟩; rw [show (Pt.mk p0 p1 p2 p3 p4 p5 er (Hd.mk e0 e1 e2 e3 e4 e5) p7 p8).val = .agg #[.int .i64 p0, .int .u16 p1, .int .u16 p2, .int .i64 p3, .int .i64 p4, .int .i64 p5, .bool er, .int .i64 e0, .int .i64 e1, .int .i64 e2, .int .i64 e3, .int .u32 e4, .int .u32 e5, .int .i64 p7, .bool p8] from rfl]) | fail)
    obtain ⟨w4, hw4⟩ : ∃ w4, w4 = w3.alloc (.cells #[.int .i64 p0, .int .u16 p1, .int .u16 p2, .int .i64 p3, .int .i64 p4, .int .i64 p5, .bool er, .int .i64 e0, .int .i64 e1, .int .i64 e2, .int .i64 e3, .int .u32 e4, .int .u32 e5, .int .i64 p7, .bool p8] 112) := ⟨_, rfl⟩
    rw [← hw4]
    have z3 := hb3.size
    have HB4 := Lib.hid (show Below w.heap.size w w4 by rw [hw4]; exact bthen HB2.out (hb3.alloc hb3.size _))
    have HK4 := Lib.hid (show Blk w4 w.heap.size 112 #[.int .i64 0, .int .u16 0, .int .u16 0, .int .i64 0, .int .i64 0, .int .i64 0, .bool false, .int .i64 0, .int .i64 0, .int .i64 0, .int .i64 0, .int .u32 0, .int .u32 0, .int .i64 0, .bool false] by rw [hw4]; exact (HK2.out.below hb3).alloc _)
    have HP4 := Lib.hid (show Blk w4 w3.heap.size 112 #[.int .i64 p0, .int .u16 p1, .int .u16 p2, .int .i64 p3, .int .i64 p4, .int .i64 p5, .bool er, .int .i64 e0, .int .i64 e1, .int .i64 e2, .int .i64 e3, .int .u32 e4, .int .u32 e5, .int .i64 p7, .bool p8] by rw [hw4]; exact Blk.new w3 _ _)
    clear hw4 hb3 HP HB2 HK2
    generalize w3.heap.size = gp at *
    go_wp2_with (first | ((with_reducible refine gd_ld 112 6 ?_); refine wpList_ld rfl 112 (.tmp 6) rfl _ rfl (HP4.out) sRPart ?_) | ((with_reducible refine gd_st 112 2 ?_); refine wpList_st rfl 112 (.tmp 2) _ rfl _ _ rfl _ rfl (HK4.out) sRPart.2 (#[.int .i64 p0, .int .u16 p1, .int .u16 p2, .int .i64 p3, .int .i64 p4, .int .i64 p5, .bool er, .int .i64 e0, .int .i64 e1, .int .i64 e2, .int .i64 e3, .int .u32 e4, .int .u32 e5, .int .i64 p7, .bool p8]) rfl (Nat.le_of_ble_eq_true rfl) rfl ?_; intro w5 hb5 hg5 hs5) | fail)
    refine bodyPost_ret (res_cell2 Try.results60 _ _ _ rfl rfl hb5 sRPart) rfl ⟨?_, bgrown HB4.out hg5 (Nat.le_refl _)⟩
    rw [HF.out.1, HF.out.2, hob]
    rfl
  · have b1 : (er0 == 0) = false := by simp [hz]
    have b2 : (er0 != 0) = true := by simp [hz]
    have HF := Lib.hid (show paF zs = pt0 ∧ paO zs = false by
      unfold paF paO
      rw [← HER.out, if_pos hz, if_pos hz]
      exact ⟨rfl, rfl⟩)
    go_wp2_with (first | ((with_reducible refine gd_st 112 2 ?_); refine wpList_st rfl 112 (.tmp 2) _ rfl _ _ rfl _ rfl (HK2.out) sRPart.2 (#[.int .i64 0, .int .u16 0, .int .u16 0, .int .i64 0, .int .i64 0, .int .i64 0, .bool false, .int .i64 0, .int .i64 0, .int .i64 0, .int .i64 0, .int .u32 0, .int .u32 0, .int .i64 0, .bool false]) rfl (Nat.le_of_ble_eq_true rfl) rfl ?_; intro w5 hb5 hg5 hs5) | fail)
    refine bodyPost_ret (res_cell2 Try.results60 _ _ _ rfl rfl hb5 sRPart) rfl ⟨?_, bgrown HB2.out hg5 (Nat.le_refl _)⟩
    rw [HF.out.1, HF.out.2]
    rfl
set_option maxHeartbeats 4000000 in
theorem own16_any (A : Option Addr) (n c : Nat) (zs : List Int) (w : World) (hn : zs.length = n) (hnc : n ≤ c) (hl : n ≤ 100000) (hR : Rd w A zs) :
    Calls Try.prog 46 #[.slice A n c] w fun e w' => e = .returned (.int .i64 (srcF zs)) ∧ Below w.heap.size w w' := by
  have HP := Lib.hid (rpart_any A n c zs w hn hnc hl hR)
  have hb := paF_R zs hR.1
  have hs := srcF_pa zs
  generalize paF zs = pv at *
  generalize paO zs = ob at *
  have HS := Lib.hid hs
  obtain ⟨p0, p1, p2, p3, p4, p5, er, ⟨e0, e1, e2, e3, e4, e5⟩, p7, p8⟩ := pv
  simp only at hb
  have ec : IntKind.i64.wrap p1 = p1 := IntWalk.i64_in _ (by omega)
  clear hs hn hR
  go_enter Try.func46, Try.ntmps46
  go_upto_region 2 with (go_at_call 60; refine (HP.out).mono ?_; rintro e w3 ⟨rfl, hb3⟩; rw [show (Pt.mk p0 p1 p2 p3 p4 p5 er (Hd.mk e0 e1 e2 e3 e4 e5) p7 p8).val = .agg #[.int .i64 p0, .int .u16 p1, .int .u16 p2, .int .i64 p3, .int .i64 p4, .int .i64 p5, .bool er, .int .i64 e0, .int .i64 e1, .int .i64 e2, .int .i64 e3, .int .u32 e4, .int .u32 e5, .int .i64 p7, .bool p8] from rfl])
  have HB4 := Lib.hid (bthen hb3 (ball w3 (.cells #[.int .i64 p0, .int .u16 p1, .int .u16 p2, .int .i64 p3, .int .i64 p4, .int .i64 p5, .bool er, .int .i64 e0, .int .i64 e1, .int .i64 e2, .int .i64 e3, .int .u32 e4, .int .u32 e5, .int .i64 p7, .bool p8] 112)))
  have k1 : (w3.alloc (.cells #[.int .i64 p0, .int .u16 p1, .int .u16 p2, .int .i64 p3, .int .i64 p4, .int .i64 p5, .bool er, .int .i64 e0, .int .i64 e1, .int .i64 e2, .int .i64 e3, .int .u32 e4, .int .u32 e5, .int .i64 p7, .bool p8] 112)).cell? ⟨w3.heap.size, 1, none⟩ = some (.int .u16 p1) := (Blk.new w3 112 #[.int .i64 p0, .int .u16 p1, .int .u16 p2, .int .i64 p3, .int .i64 p4, .int .i64 p5, .bool er, .int .i64 e0, .int .i64 e1, .int .i64 e2, .int .i64 e3, .int .u32 e4, .int .u32 e5, .int .i64 p7, .bool p8]).cell 1
  generalize w3.alloc (.cells #[.int .i64 p0, .int .u16 p1, .int .u16 p2, .int .i64 p3, .int .i64 p4, .int .i64 p5, .bool er, .int .i64 e0, .int .i64 e1, .int .i64 e2, .int .i64 e3, .int .u32 e4, .int .u32 e5, .int .i64 p7, .bool p8] 112) = w4 at *
  generalize w3.heap.size = gp at *
  cases ob with
  | true =>
    go_wp2
    go_ret
    exact ⟨by rw [HS.out]; rfl, HB4.out⟩
  | false =>
    go_wp2
    go_ret
    exact ⟨by rw [HS.out]; rfl, HB4.out⟩
end Go.Proofs.Ytbnlpidhbilenaa
