/-
  Several small texts in one: Sp, Sp2, Sp3. Conditions stand in each theorem.
-/
import Derived.Test.YtbnlpidhbilenaaRGet
import Derived.Test.YtbnlpidhbilenaaRef2
import Derived.Test.YtbnlpidhbilenaaGN
import Derived.Test.YtbnlpidhbilenaaSentH
import Derived.BigQuiet
namespace Go.Proofs.Ytbnlpidhbilenaa
open Go.RowKit Plain
set_option linter.unusedVariables false
set_option maxRecDepth 100000
structure Fo where
  pr : Int
  ad : Int
  po : Int
def Fo.val (f : Fo) : Value := .agg #[.int .i64 f.pr, .int .u32 f.ad, .int .u16 f.po]
def ofF (out : Bool) (h : Hd) (p : Pt) : Fo :=
  if p.er = true then (if out = true then ⟨p.inn.proto, p.inn.src, p.sp⟩ else ⟨p.inn.proto, p.inn.dst, p.dp⟩)
  else (if out = true then ⟨h.proto, h.dst, p.dp⟩ else ⟨h.proto, h.src, p.sp⟩)
def farF (out : Bool) (zs : List Int) : Fo :=
  if gtE zs ≠ 0 then ⟨0, 0, 0⟩ else if pgE (gtH zs) zs ≠ 0 then ⟨0, 0, 0⟩ else
    (if (ofF out (gtH zs) (pgP (gtH zs) zs)).pr = 1 then { ofF out (gtH zs) (pgP (gtH zs) zs) with po := 0 } else ofF out (gtH zs) (pgP (gtH zs) zs))
def farE (zs : List Int) : Int := if gtE zs ≠ 0 then gtE zs else pgE (gtH zs) zs
theorem sFlow : Sty 67 3 := ⟨⟨_, Try.underlying67, rfl⟩, by unfold Siz; kernel_rfl⟩
set_option maxHeartbeats 2000000 in
theorem farOf_any (out : Bool) (h : Hd) (p : Pt) (w : World) :
    Calls Try.prog 52 #[.bool out, h.val, p.val] w fun e w' => e = .returned (ofF out h p).val ∧ Below w.heap.size w w' := by
  obtain ⟨h0, h1, h2, h3, h4, h5⟩ := h
  obtain ⟨p0, p1, p2, p3, p4, p5, er, ⟨d0, d1, d2, d3, d4, d5⟩, p7, p8⟩ := p
  rw [show (Hd.mk h0 h1 h2 h3 h4 h5).val = .agg #[.int .i64 h0, .int .i64 h1, .int .i64 h2, .int .i64 h3, .int .u32 h4, .int .u32 h5] from rfl]
  rw [show (Pt.mk p0 p1 p2 p3 p4 p5 er (Hd.mk d0 d1 d2 d3 d4 d5) p7 p8).val = .agg #[.int .i64 p0, .int .u16 p1, .int .u16 p2, .int .i64 p3, .int .i64 p4, .int .i64 p5, .bool er, .int .i64 d0, .int .i64 d1, .int .i64 d2, .int .i64 d3, .int .u32 d4, .int .u32 d5, .int .i64 p7, .bool p8] from rfl]
  go_enter Try.func52, Try.ntmps52
  go_upto_region 1 with fail
  obtain ⟨w3, hw3⟩ : ∃ w3, w3 = ((w.alloc (.cells #[.int .i64 h0, .int .i64 h1, .int .i64 h2, .int .i64 h3, .int .u32 h4, .int .u32 h5] 103)).alloc (.cells #[.int .i64 p0, .int .u16 p1, .int .u16 p2, .int .i64 p3, .int .i64 p4, .int .i64 p5, .bool er, .int .i64 d0, .int .i64 d1, .int .i64 d2, .int .i64 d3, .int .u32 d4, .int .u32 d5, .int .i64 p7, .bool p8] 107)).alloc (.cells #[.int .i64 0, .int .u32 0, .int .u16 0] 67) := ⟨_, rfl⟩
  have hh : Blk w3 w.heap.size 103 #[.int .i64 h0, .int .i64 h1, .int .i64 h2, .int .i64 h3, .int .u32 h4, .int .u32 h5] := by rw [hw3]; exact ((Blk.new w _ _).alloc _).alloc _
  have hp : Blk w3 (w.heap.size + 1) 107 #[.int .i64 p0, .int .u16 p1, .int .u16 p2, .int .i64 p3, .int .i64 p4, .int .i64 p5, .bool er, .int .i64 d0, .int .i64 d1, .int .i64 d2, .int .i64 d3, .int .u32 d4, .int .u32 d5, .int .i64 p7, .bool p8] := by
    rw [hw3]
    have := (Blk.new (w.alloc (.cells #[.int .i64 h0, .int .i64 h1, .int .i64 h2, .int .i64 h3, .int .u32 h4, .int .u32 h5] 103)) 107 #[.int .i64 p0, .int .u16 p1, .int .u16 p2, .int .i64 p3, .int .i64 p4, .int .i64 p5, .bool er, .int .i64 d0, .int .i64 d1, .int .i64 d2, .int .i64 d3, .int .u32 d4, .int .u32 d5, .int .i64 p7, .bool p8]).alloc (.cells #[.int .i64 0, .int .u32 0, .int .u16 0] 67)
    rwa [World.size_alloc] at this
  have hr : Blk w3 (w.heap.size + 1 + 1) 67 #[.int .i64 0, .int .u32 0, .int .u16 0] := by
    rw [hw3]
    have := Blk.new ((w.alloc (.cells #[.int .i64 h0, .int .i64 h1, .int .i64 h2, .int .i64 h3, .int .u32 h4, .int .u32 h5] 103)).alloc (.cells #[.int .i64 p0, .int .u16 p1, .int .u16 p2, .int .i64 p3, .int .i64 p4, .int .i64 p5, .bool er, .int .i64 d0, .int .i64 d1, .int .i64 d2, .int .i64 d3, .int .u32 d4, .int .u32 d5, .int .i64 p7, .bool p8] 107)) 67 #[.int .i64 0, .int .u32 0, .int .u16 0]
    rwa [World.size_alloc, World.size_alloc] at this
  have HB := Lib.hid (show Below w.heap.size w w3 by rw [hw3]; exact bthen (bthen (ball _ _) (ball _ _)) (ball _ _))
  rw [← hw3]
  clear hw3
  have HZ := Lib.hid (show w.heap.size ≤ w.heap.size ∧ w.heap.size ≤ w.heap.size + 1 + 1 by omega)
  have n1 : w.heap.size + 1 + 1 ≠ w.heap.size := by omega
  have n2 : w.heap.size + 1 ≠ w.heap.size := by omega
  generalize w.heap.size + 1 + 1 = gr at *
  generalize w.heap.size + 1 = gp at *
  have HH := Lib.hid hh
  have HP := Lib.hid hp
  have HR := Lib.hid hr
  clear hh hp hr
  have m6 : w3.cell? ⟨gp, 6, none⟩ = some (.bool er) := HP.out.cell 6
  have m1 : w3.cell? ⟨gp, 1, none⟩ = some (.int .u16 p1) := HP.out.cell 1
  have m2 : w3.cell? ⟨gp, 2, none⟩ = some (.int .u16 p2) := HP.out.cell 2
  cases er with
  | true =>
    have m7 : w3.cell? ⟨gp, 7, none⟩ = some (.int .i64 d0) := HP.out.cell 7
    have m8 : w3.cell? ⟨gp, 8, none⟩ = some (.int .i64 d1) := HP.out.cell 8
    have m9 : w3.cell? ⟨gp, 9, none⟩ = some (.int .i64 d2) := HP.out.cell 9
    have m10 : w3.cell? ⟨gp, 10, none⟩ = some (.int .i64 d3) := HP.out.cell 10
    have m11 : w3.cell? ⟨gp, 11, none⟩ = some (.int .u32 d4) := HP.out.cell 11
    have m12 : w3.cell? ⟨gp, 12, none⟩ = some (.int .u32 d5) := HP.out.cell 12
    go_upto_region 3 with (first | ((with_reducible refine gd_st 103 4 ?_); refine wpList_st rfl 103 (.tmp 4) _ rfl _ _ rfl _ rfl (HH.out) sHead.2 (#[.int .i64 d0, .int .i64 d1, .int .i64 d2, .int .i64 d3, .int .u32 d4, .int .u32 d5]) rfl (Nat.le_of_ble_eq_true rfl) rfl ?_; intro w5 hb5 hg5 hs5) | fail)
    have HP5 := Lib.hid (HP.out.grown hg5 n2)
    have HR5 := Lib.hid (HR.out.grown hg5 n1)
    have HH5 := Lib.hid hb5
    have HB5 := Lib.hid (bgrown HB.out hg5 HZ.out.1)
    clear m1 m2 m6 m7 m8 m9 m10 m11 m12 hg5 hs5 hb5 HP HR HH HB
    have q1 : w5.cell? ⟨gp, 1, none⟩ = some (.int .u16 p1) := HP5.out.cell 1
    have q2 : w5.cell? ⟨gp, 2, none⟩ = some (.int .u16 p2) := HP5.out.cell 2
    have k3 : w5.cell? ⟨w.heap.size, 3, none⟩ = some (.int .i64 d3) := HH5.out.cell 3
    have k4 : w5.cell? ⟨w.heap.size, 4, none⟩ = some (.int .u32 d4) := HH5.out.cell 4
    have k5 : w5.cell? ⟨w.heap.size, 5, none⟩ = some (.int .u32 d5) := HH5.out.cell 5
    cases out with
    | true =>
      go_wp2_with (first | ((with_reducible refine gd_st 67 6 ?_); refine wpList_st rfl 67 (.tmp 6) _ rfl _ _ rfl _ rfl (HR5.out) sFlow.2 (#[.int .i64 d3, .int .u32 d4, .int .u16 p1]) rfl (Nat.le_of_ble_eq_true rfl) rfl ?_; intro w4 hb4 hg4 hs4) | fail)
      exact bodyPost_ret (res_cell1 Try.results52 _ _ rfl hb4 sFlow) rfl ⟨rfl, bgrown HB5.out hg4 HZ.out.2⟩
    | false =>
      go_wp2_with (first | ((with_reducible refine gd_st 67 6 ?_); refine wpList_st rfl 67 (.tmp 6) _ rfl _ _ rfl _ rfl (HR5.out) sFlow.2 (#[.int .i64 d3, .int .u32 d5, .int .u16 p2]) rfl (Nat.le_of_ble_eq_true rfl) rfl ?_; intro w4 hb4 hg4 hs4) | fail)
      exact bodyPost_ret (res_cell1 Try.results52 _ _ rfl hb4 sFlow) rfl ⟨rfl, bgrown HB5.out hg4 HZ.out.2⟩
  | false =>
    have k3 : w3.cell? ⟨w.heap.size, 3, none⟩ = some (.int .i64 h3) := HH.out.cell 3
    have k4 : w3.cell? ⟨w.heap.size, 4, none⟩ = some (.int .u32 h4) := HH.out.cell 4
    have k5 : w3.cell? ⟨w.heap.size, 5, none⟩ = some (.int .u32 h5) := HH.out.cell 5
    cases out with
    | true =>
      go_wp2_with (first | ((with_reducible refine gd_st 67 6 ?_); refine wpList_st rfl 67 (.tmp 6) _ rfl _ _ rfl _ rfl (HR.out) sFlow.2 (#[.int .i64 h3, .int .u32 h5, .int .u16 p2]) rfl (Nat.le_of_ble_eq_true rfl) rfl ?_; intro w4 hb4 hg4 hs4) | fail)
      exact bodyPost_ret (res_cell1 Try.results52 _ _ rfl hb4 sFlow) rfl ⟨rfl, bgrown HB.out hg4 HZ.out.2⟩
    | false =>
      go_wp2_with (first | ((with_reducible refine gd_st 67 6 ?_); refine wpList_st rfl 67 (.tmp 6) _ rfl _ _ rfl _ rfl (HR.out) sFlow.2 (#[.int .i64 h3, .int .u32 h4, .int .u16 p1]) rfl (Nat.le_of_ble_eq_true rfl) rfl ?_; intro w4 hb4 hg4 hs4) | fail)
      exact bodyPost_ret (res_cell1 Try.results52 _ _ rfl hb4 sFlow) rfl ⟨rfl, bgrown HB.out hg4 HZ.out.2⟩
end Go.Proofs.Ytbnlpidhbilenaa

namespace Go.Proofs.Ytbnlpidhbilenaa
open Go.RowKit Plain
set_option linter.unusedVariables false
set_option maxRecDepth 100000
theorem gtH_rng (zs : List Int) (h : By zs) : 0 ≤ (gtH zs).src ∧ (gtH zs).src ≤ 4294967295 ∧ 0 ≤ (gtH zs).dst ∧ (gtH zs).dst ≤ 4294967295 := by
  have r12 := G32_range zs h 12
  have r16 := G32_range zs h 16
  unfold gtH
  split
  · unfold fld; simp only; omega
  · unfold hd0; simp
set_option maxHeartbeats 8000000 in
theorem far_any (out : Bool) (A : Option Addr) (n c : Nat) (zs : List Int) (w : World) (hn : zs.length = n) (hnc : n ≤ c) (hl : n ≤ 100000) (hR : Rd w A zs) :
    Calls Try.prog 27 #[.bool out, .slice A n c] w fun e w' => e = .returned (.tuple #[(farF out zs).val, .int .i64 (farE zs)]) ∧ Below w.heap.size w w' := by
  have HR := Lib.hid hR
  have Hn := Lib.hid hn
  have HG := Lib.hid (get_any A n c zs (w.alloc (.cells #[.int .i64 0, .int .u32 0, .int .u16 0] 67)) hn hnc (by omega) (hR.alloc _))
  have hrg := gtH_rng zs hR.1
  obtain ⟨er0, her⟩ : ∃ e, e = gtE zs := ⟨_, rfl⟩
  obtain ⟨hv, hhv⟩ : ∃ h, h = gtH zs := ⟨_, rfl⟩
  rw [← her, ← hhv] at HG
  rw [← hhv] at hrg
  have HER := Lib.hid her
  have HHV := Lib.hid hhv
  clear her hhv hR hn
  obtain ⟨d0, d1, d2, d3, d4, d5⟩ := hv
  simp only at hrg
  obtain ⟨s0, s1, s2, s3⟩ := hrg
  go_enter Try.func27, Try.ntmps27
  go_wp2_with fail
  refine HG.out.mono ?_
  rintro e w1 ⟨rfl, hb1⟩
  rw [show (Hd.mk d0 d1 d2 d3 d4 d5).val = .agg #[.int .i64 d0, .int .i64 d1, .int .i64 d2, .int .i64 d3, .int .u32 d4, .int .u32 d5] from rfl]
  have HK := Lib.hid ((Blk.new w 67 #[.int .i64 0, .int .u32 0, .int .u16 0]).below hb1)
  have hs1 : w.heap.size + 1 ≤ w1.heap.size := by have := hb1.size; simpa using this
  have HB1 := Lib.hid (show Below w.heap.size w w1 from ((Below.refl _ _).alloc (Nat.le_refl _) _).trans (hb1.mono (by simp)))
  clear hb1 HG
  go_upto_region 2 with fail
  obtain ⟨w2, hw2⟩ : ∃ w2, w2 = w1.alloc (.cells #[.int .i64 d0, .int .i64 d1, .int .i64 d2, .int .i64 d3, .int .u32 d4, .int .u32 d5] 103) := ⟨_, rfl⟩
  rw [← hw2]
  have HK2 := Lib.hid (show Blk w2 w.heap.size 67 #[.int .i64 0, .int .u32 0, .int .u16 0] by rw [hw2]; exact HK.out.alloc _)
  have HH2 := Lib.hid (show Blk w2 w1.heap.size 103 #[.int .i64 d0, .int .i64 d1, .int .i64 d2, .int .i64 d3, .int .u32 d4, .int .u32 d5] by rw [hw2]; exact Blk.new w1 _ _)
  have HB2 := Lib.hid (show Below w.heap.size w w2 by rw [hw2]; exact HB1.out.alloc HB1.out.size _)
  have hz2 : w2.heap.size = w1.heap.size + 1 := by rw [hw2]; simp
  have hne : w.heap.size ≠ w1.heap.size := by omega
  clear hw2 HK HB1
  generalize w1.heap.size = gh at *
  by_cases hz : er0 = 0
  · obtain rfl : er0 = 0 := hz
    have HP := Lib.hid (pget_any d0 d1 d2 d3 d4 d5 A n c zs w2 Hn.out hnc (by omega) (HR.out.below HB2.out) s0 s1 s2 s3)
    obtain ⟨er1, her⟩ : ∃ e, e = pgE ⟨d0, d1, d2, d3, d4, d5⟩ zs := ⟨_, rfl⟩
    obtain ⟨pv, hpv⟩ : ∃ p, p = pgP ⟨d0, d1, d2, d3, d4, d5⟩ zs := ⟨_, rfl⟩
    rw [← her, ← hpv] at HP
    have HPV := Lib.hid hpv
    have HER1 := Lib.hid her
    clear hpv her
    obtain ⟨p0, p1, p2, p3, p4, p5, er, ⟨e0, e1, e2, e3, e4, e5⟩, p7, p8⟩ := pv
    go_upto_region 5 with (first | ((with_reducible refine gd_ld 103 6 ?_); refine wpList_ld rfl 103 (.tmp 6) rfl _ rfl (HH2.out) sHead ?_) | (go_at_call 51; refine (HP.out).mono ?_; rintro e w3 ⟨rfl, hb3⟩; rw [show (Pt.mk p0 p1 p2 p3 p4 p5 er (Hd.mk e0 e1 e2 e3 e4 e5) p7 p8).val = .agg #[.int .i64 p0, .int .u16 p1, .int .u16 p2, .int .i64 p3, .int .i64 p4, .int .i64 p5, .bool er, .int .i64 e0, .int .i64 e1, .int .i64 e2, .int .i64 e3, .int .u32 e4, .int .u32 e5, .int .i64 p7, .bool p8] from rfl]) | fail)
    obtain ⟨w4, hw4⟩ : ∃ w4, w4 = w3.alloc (.cells #[.int .i64 p0, .int .u16 p1, .int .u16 p2, .int .i64 p3, .int .i64 p4, .int .i64 p5, .bool er, .int .i64 e0, .int .i64 e1, .int .i64 e2, .int .i64 e3, .int .u32 e4, .int .u32 e5, .int .i64 p7, .bool p8] 107) := ⟨_, rfl⟩
    rw [← hw4]
    have z3 := hb3.size
    have HB4 := Lib.hid (show Below w.heap.size w w4 by rw [hw4]; exact bthen HB2.out (hb3.alloc hb3.size _))
    have HK4 := Lib.hid (show Blk w4 w.heap.size 67 #[.int .i64 0, .int .u32 0, .int .u16 0] by rw [hw4]; exact (HK2.out.below hb3).alloc _)
    have HH4 := Lib.hid (show Blk w4 gh 103 #[.int .i64 d0, .int .i64 d1, .int .i64 d2, .int .i64 d3, .int .u32 d4, .int .u32 d5] by rw [hw4]; exact (HH2.out.below hb3).alloc _)
    have HP4 := Lib.hid (show Blk w4 w3.heap.size 107 #[.int .i64 p0, .int .u16 p1, .int .u16 p2, .int .i64 p3, .int .i64 p4, .int .i64 p5, .bool er, .int .i64 e0, .int .i64 e1, .int .i64 e2, .int .i64 e3, .int .u32 e4, .int .u32 e5, .int .i64 p7, .bool p8] by rw [hw4]; exact Blk.new w3 _ _)
    have z4 : w4.heap.size = w3.heap.size + 1 := by rw [hw4]; simp
    have hlp : w.heap.size < w3.heap.size := by omega
    clear hw4 hb3 HP HK2 HH2 HB2
    generalize w3.heap.size = gp at *
    by_cases hz1 : er1 = 0
    · obtain rfl : er1 = 0 := hz1
      obtain ⟨fo, hfo⟩ : ∃ f, f = ofF out ⟨d0, d1, d2, d3, d4, d5⟩ ⟨p0, p1, p2, p3, p4, p5, er, ⟨e0, e1, e2, e3, e4, e5⟩, p7, p8⟩ := ⟨_, rfl⟩
      have hof := farOf_any out ⟨d0, d1, d2, d3, d4, d5⟩ ⟨p0, p1, p2, p3, p4, p5, er, ⟨e0, e1, e2, e3, e4, e5⟩, p7, p8⟩ w4
      rw [← hfo] at hof
      have HOF := Lib.hid hof
      have HFO := Lib.hid hfo
      clear hof hfo
      obtain ⟨a0, a1, a2⟩ := fo
      have HF := Lib.hid (show farF out zs = if a0 = 1 then ⟨a0, a1, 0⟩ else ⟨a0, a1, a2⟩ by
        unfold farF
        rw [← HER.out, ← HHV.out, ← HER1.out, if_neg (by decide), if_neg (by decide), ← HPV.out, ← HFO.out])
      have HE := Lib.hid (show farE zs = 0 by unfold farE; rw [← HER.out, if_neg (by decide), ← HHV.out, ← HER1.out])
      go_upto_region 8 with (first | ((with_reducible refine gd_ld 103 6 ?_); refine wpList_ld rfl 103 (.tmp 6) rfl _ rfl (HH4.out) sHead ?_) | ((with_reducible refine gd_ld 107 8 ?_); refine wpList_ld rfl 107 (.tmp 8) rfl _ rfl (HP4.out) sPart ?_) | (go_at_call 52; refine (HOF.out).mono ?_; rintro e w5 ⟨rfl, hb5⟩; rw [show (Fo.mk a0 a1 a2).val = .agg #[.int .i64 a0, .int .u32 a1, .int .u16 a2] from rfl]) | fail)
      obtain ⟨w6, hw6⟩ : ∃ w6, w6 = w5.alloc (.cells #[.int .i64 a0, .int .u32 a1, .int .u16 a2] 67) := ⟨_, rfl⟩
      rw [← hw6]
      have z5 := hb5.size
      have HB6 := Lib.hid (show Below w.heap.size w w6 by rw [hw6]; exact bthen HB4.out (hb5.alloc hb5.size _))
      have HK6 := Lib.hid (show Blk w6 w.heap.size 67 #[.int .i64 0, .int .u32 0, .int .u16 0] by rw [hw6]; exact (HK4.out.below hb5).alloc _)
      have h9 : Blk w6 w5.heap.size 67 #[.int .i64 a0, .int .u32 a1, .int .u16 a2] := by rw [hw6]; exact Blk.new w5 _ _
      have hl9 : w.heap.size < w5.heap.size := by omega
      have hl10 : w.heap.size ≤ w5.heap.size := by omega
      have hne9 : w5.heap.size ≠ w.heap.size := by omega
      clear hw6 hb5 HOF HK4 HH4 HP4 HB4
      generalize w5.heap.size = g9 at *
      have k0 : w6.cell? ⟨g9, 0, none⟩ = some (.int .i64 a0) := h9.cell 0
      have k2 : w6.cell? ⟨g9, 2, none⟩ = some (.int .u16 a2) := h9.cell 2
      have f2 := h9.frozen 2
      have H9 := Lib.hid h9
      clear h9
      by_cases ha : a0 = 1
      · obtain rfl := ha
        go_upto_region 10 with fail
        have hk9 := H9.out.set 2 (.int .u16 0)
        have hkk := HK6.out.ne (p := ⟨g9, 2, none⟩) hne9 (.int .u16 0)
        have hbb := HB6.out.setCell (p := ⟨g9, 2, none⟩) hl10 (.int .u16 0)
        have H9' := Lib.hid (show Blk (w6.setCell ⟨g9, 2, none⟩ (.int .u16 0)) g9 67 #[.int .i64 1, .int .u32 a1, .int .u16 0] from hk9)
        have HK9 := Lib.hid hkk
        have HB9 := Lib.hid hbb
        clear hk9 hkk hbb k0 k2 f2 H9 HK6 HB6
        generalize w6.setCell ⟨g9, 2, none⟩ (.int .u16 0) = w7 at *
        go_wp2_with (first | ((with_reducible refine gd_ld 67 9 ?_); refine wpList_ld rfl 67 (.tmp 9) rfl _ rfl (H9'.out) sFlow ?_) | ((with_reducible refine gd_st 67 4 ?_); refine wpList_st rfl 67 (.tmp 4) _ rfl _ _ rfl _ rfl (HK9.out) sFlow.2 (#[.int .i64 1, .int .u32 a1, .int .u16 0]) rfl (Nat.le_of_ble_eq_true rfl) rfl ?_; intro w4 hb4 hg4 hs4) | fail)
        refine bodyPost_ret (res_cell2 Try.results27 _ _ _ rfl rfl hb4 sFlow) rfl ⟨?_, bgrown HB9.out hg4 (Nat.le_refl _)⟩
        rw [HF.out, HE.out]
        rfl
      · have b3 : (a0 == 1) = false := by simp [ha]
        go_wp2_with (first | ((with_reducible refine gd_ld 67 9 ?_); refine wpList_ld rfl 67 (.tmp 9) rfl _ rfl (H9.out) sFlow ?_) | ((with_reducible refine gd_st 67 4 ?_); refine wpList_st rfl 67 (.tmp 4) _ rfl _ _ rfl _ rfl (HK6.out) sFlow.2 (#[.int .i64 a0, .int .u32 a1, .int .u16 a2]) rfl (Nat.le_of_ble_eq_true rfl) rfl ?_; intro w4 hb4 hg4 hs4) | fail)
        refine bodyPost_ret (res_cell2 Try.results27 _ _ _ rfl rfl hb4 sFlow) rfl ⟨?_, bgrown HB6.out hg4 (Nat.le_refl _)⟩
        rw [HF.out, HE.out, if_neg ha]
        rfl
    · have b1 : (er1 == 0) = false := by simp [hz1]
      have b2 : (er1 != 0) = true := by simp [hz1]
      go_wp2_with (first | ((with_reducible refine gd_st 67 4 ?_); refine wpList_st rfl 67 (.tmp 4) _ rfl _ _ rfl _ rfl (HK4.out) sFlow.2 (#[.int .i64 0, .int .u32 0, .int .u16 0]) rfl (Nat.le_of_ble_eq_true rfl) rfl ?_; intro w4 hb4 hg4 hs4) | fail)
      refine bodyPost_ret (res_cell2 Try.results27 _ _ _ rfl rfl hb4 sFlow) rfl ⟨?_, bgrown HB4.out hg4 (Nat.le_refl _)⟩
      have hq : ¬ gtE zs ≠ 0 := by rw [← HER.out]; decide
      have hq1 : pgE (gtH zs) zs ≠ 0 := by rw [← HHV.out, ← HER1.out]; exact hz1
      unfold farF farE
      rw [if_neg hq, if_pos hq1, if_neg hq, ← HHV.out, ← HER1.out]
      rfl
  · have b1 : (er0 == 0) = false := by simp [hz]
    have b2 : (er0 != 0) = true := by simp [hz]
    go_wp2_with (first | ((with_reducible refine gd_st 67 4 ?_); refine wpList_st rfl 67 (.tmp 4) _ rfl _ _ rfl _ rfl (HK2.out) sFlow.2 (#[.int .i64 0, .int .u32 0, .int .u16 0]) rfl (Nat.le_of_ble_eq_true rfl) rfl ?_; intro w4 hb4 hg4 hs4) | fail)
    refine bodyPost_ret (res_cell2 Try.results27 _ _ _ rfl rfl hb4 sFlow) rfl ⟨?_, bgrown HB2.out hg4 (Nat.le_refl _)⟩
    have hq : gtE zs ≠ 0 := by rw [← HER.out]; exact hz
    unfold farF farE
    rw [if_pos hq, if_pos hq, ← HER.out]
    rfl
end Go.Proofs.Ytbnlpidhbilenaa

namespace Go.Proofs.Ytbnlpidhbilenaa
open Go.RowKit Plain
set_option linter.unusedVariables false
set_option maxRecDepth 100000
theorem rFlow : Sty 70 3 := ⟨⟨_, Try.underlying70, rfl⟩, by unfold Siz; kernel_rfl⟩
set_option maxHeartbeats 8000000 in
theorem rfar_any (out : Bool) (A : Option Addr) (n c : Nat) (zs : List Int) (w : World) (hn : zs.length = n) (hnc : n ≤ c) (hl : n ≤ 100000) (hR : Rd w A zs) :
    Calls Try.prog 28 #[.bool out, .slice A n c] w fun e w' => e = .returned (.tuple #[(farF out zs).val, .int .i64 (farE zs)]) ∧ Below w.heap.size w w' := by
  have HR := Lib.hid hR
  have Hn := Lib.hid hn
  have HG := Lib.hid (refGet_any A n c zs (w.alloc (.cells #[.int .i64 0, .int .u32 0, .int .u16 0] 70)) hn hnc (by omega) (hR.alloc _))
  have hrg := gtH_rng zs hR.1
  obtain ⟨er0, her⟩ : ∃ e, e = gtE zs := ⟨_, rfl⟩
  obtain ⟨hv, hhv⟩ : ∃ h, h = gtH zs := ⟨_, rfl⟩
  rw [← her, ← hhv] at HG
  rw [← hhv] at hrg
  have HER := Lib.hid her
  have HHV := Lib.hid hhv
  clear her hhv hR hn
  obtain ⟨d0, d1, d2, d3, d4, d5⟩ := hv
  simp only at hrg
  obtain ⟨s0, s1, s2, s3⟩ := hrg
  go_enter Try.func28, Try.ntmps28
  go_wp2_with fail
  refine HG.out.mono ?_
  rintro e w1 ⟨rfl, hb1⟩
  rw [show (Hd.mk d0 d1 d2 d3 d4 d5).val = .agg #[.int .i64 d0, .int .i64 d1, .int .i64 d2, .int .i64 d3, .int .u32 d4, .int .u32 d5] from rfl]
  have HK := Lib.hid ((Blk.new w 70 #[.int .i64 0, .int .u32 0, .int .u16 0]).below hb1)
  have hs1 : w.heap.size + 1 ≤ w1.heap.size := by have := hb1.size; simpa using this
  have HB1 := Lib.hid (show Below w.heap.size w w1 from ((Below.refl _ _).alloc (Nat.le_refl _) _).trans (hb1.mono (by simp)))
  clear hb1 HG
  go_upto_region 2 with fail
  obtain ⟨w2, hw2⟩ : ∃ w2, w2 = w1.alloc (.cells #[.int .i64 d0, .int .i64 d1, .int .i64 d2, .int .i64 d3, .int .u32 d4, .int .u32 d5] 84) := ⟨_, rfl⟩
  rw [← hw2]
  have HK2 := Lib.hid (show Blk w2 w.heap.size 70 #[.int .i64 0, .int .u32 0, .int .u16 0] by rw [hw2]; exact HK.out.alloc _)
  have HH2 := Lib.hid (show Blk w2 w1.heap.size 84 #[.int .i64 d0, .int .i64 d1, .int .i64 d2, .int .i64 d3, .int .u32 d4, .int .u32 d5] by rw [hw2]; exact Blk.new w1 _ _)
  have HB2 := Lib.hid (show Below w.heap.size w w2 by rw [hw2]; exact HB1.out.alloc HB1.out.size _)
  have hz2 : w2.heap.size = w1.heap.size + 1 := by rw [hw2]; simp
  have hne : w.heap.size ≠ w1.heap.size := by omega
  clear hw2 HK HB1
  generalize w1.heap.size = gh at *
  by_cases hz : er0 = 0
  · obtain rfl : er0 = 0 := hz
    have HP := Lib.hid (rget_any d0 d1 d2 d3 d4 d5 A n c zs w2 Hn.out hnc (by omega) (HR.out.below HB2.out) s0 s1 s2 s3)
    obtain ⟨er1, her⟩ : ∃ e, e = pgE ⟨d0, d1, d2, d3, d4, d5⟩ zs := ⟨_, rfl⟩
    obtain ⟨pv, hpv⟩ : ∃ p, p = pgP ⟨d0, d1, d2, d3, d4, d5⟩ zs := ⟨_, rfl⟩
    rw [← her, ← hpv] at HP
    have HPV := Lib.hid hpv
    have HER1 := Lib.hid her
    clear hpv her
    obtain ⟨p0, p1, p2, p3, p4, p5, er, ⟨e0, e1, e2, e3, e4, e5⟩, p7, p8⟩ := pv
    go_upto_region 5 with (first | ((with_reducible refine gd_ld 84 6 ?_); refine wpList_ld rfl 84 (.tmp 6) rfl _ rfl (HH2.out) sRHead ?_) | (go_at_call 53; refine (HP.out).mono ?_; rintro e w3 ⟨rfl, hb3⟩; rw [show (Pt.mk p0 p1 p2 p3 p4 p5 er (Hd.mk e0 e1 e2 e3 e4 e5) p7 p8).val = .agg #[.int .i64 p0, .int .u16 p1, .int .u16 p2, .int .i64 p3, .int .i64 p4, .int .i64 p5, .bool er, .int .i64 e0, .int .i64 e1, .int .i64 e2, .int .i64 e3, .int .u32 e4, .int .u32 e5, .int .i64 p7, .bool p8] from rfl]) | fail)
    obtain ⟨w4, hw4⟩ : ∃ w4, w4 = w3.alloc (.cells #[.int .i64 p0, .int .u16 p1, .int .u16 p2, .int .i64 p3, .int .i64 p4, .int .i64 p5, .bool er, .int .i64 e0, .int .i64 e1, .int .i64 e2, .int .i64 e3, .int .u32 e4, .int .u32 e5, .int .i64 p7, .bool p8] 112) := ⟨_, rfl⟩
    rw [← hw4]
    have z3 := hb3.size
    have HB4 := Lib.hid (show Below w.heap.size w w4 by rw [hw4]; exact bthen HB2.out (hb3.alloc hb3.size _))
    have HK4 := Lib.hid (show Blk w4 w.heap.size 70 #[.int .i64 0, .int .u32 0, .int .u16 0] by rw [hw4]; exact (HK2.out.below hb3).alloc _)
    have HH4 := Lib.hid (show Blk w4 gh 84 #[.int .i64 d0, .int .i64 d1, .int .i64 d2, .int .i64 d3, .int .u32 d4, .int .u32 d5] by rw [hw4]; exact (HH2.out.below hb3).alloc _)
    have HP4 := Lib.hid (show Blk w4 w3.heap.size 112 #[.int .i64 p0, .int .u16 p1, .int .u16 p2, .int .i64 p3, .int .i64 p4, .int .i64 p5, .bool er, .int .i64 e0, .int .i64 e1, .int .i64 e2, .int .i64 e3, .int .u32 e4, .int .u32 e5, .int .i64 p7, .bool p8] by rw [hw4]; exact Blk.new w3 _ _)
    have z4 : w4.heap.size = w3.heap.size + 1 := by rw [hw4]; simp
    have hlp : w.heap.size < w3.heap.size := by omega
    clear hw4 hb3 HP HK2 HH2 HB2
    generalize w3.heap.size = gp at *
    by_cases hz1 : er1 = 0
    · obtain rfl : er1 = 0 := hz1
      obtain ⟨fo, hfo⟩ : ∃ f, f = ofF out ⟨d0, d1, d2, d3, d4, d5⟩ ⟨p0, p1, p2, p3, p4, p5, er, ⟨e0, e1, e2, e3, e4, e5⟩, p7, p8⟩ := ⟨_, rfl⟩
      have HF := Lib.hid (show farF out zs = (if fo.pr = 1 then { fo with po := 0 } else fo) by
        unfold farF
        rw [← HER.out, ← HHV.out, ← HER1.out, if_neg (by decide), if_neg (by decide), ← HPV.out, ← hfo])
      have HE := Lib.hid (show farE zs = 0 by unfold farE; rw [← HER.out, if_neg (by decide), ← HHV.out, ← HER1.out])
      have k3 : w4.cell? ⟨gh, 3, none⟩ = some (.int .i64 d3) := HH4.out.cell 3
      have k4 : w4.cell? ⟨gh, 4, none⟩ = some (.int .u32 d4) := HH4.out.cell 4
      have k5 : w4.cell? ⟨gh, 5, none⟩ = some (.int .u32 d5) := HH4.out.cell 5
      have m1 : w4.cell? ⟨gp, 1, none⟩ = some (.int .u16 p1) := HP4.out.cell 1
      have m2 : w4.cell? ⟨gp, 2, none⟩ = some (.int .u16 p2) := HP4.out.cell 2
      have m6 : w4.cell? ⟨gp, 6, none⟩ = some (.bool er) := HP4.out.cell 6
      have m10 : w4.cell? ⟨gp, 10, none⟩ = some (.int .i64 e3) := HP4.out.cell 10
      have m11 : w4.cell? ⟨gp, 11, none⟩ = some (.int .u32 e4) := HP4.out.cell 11
      have m12 : w4.cell? ⟨gp, 12, none⟩ = some (.int .u32 e5) := HP4.out.cell 12
      subst hfo
      clear hz2
      go_upto_region 7 with fail
      cases er with
      | false =>
        cases out with
        | false =>
          go_quiet (fail)
          obtain ⟨n0, hq0⟩ : ∃ x, x = nq := ⟨_, rfl⟩
          rw [← hq0]
          clear hq0
          have HKQ := Lib.hid (show Blk (w4.drewN n0) w.heap.size 70 #[.int .i64 0, .int .u32 0, .int .u16 0] from HK4.out)
          have HBQ := Lib.hid (bthen HB4.out (bdrewN w4 n0))
          have HF2 := Lib.hid (show farF false zs = if d3 = 1 then ⟨d3, d4, 0⟩ else ⟨d3, d4, p1⟩ from HF.out)
          clear HF
          have m6q : (w4.drewN n0).cell? ⟨gp, 6, none⟩ = some (.bool false) := HP4.out.cell 6
          generalize w4.drewN n0 = wq at *
          by_cases ha : d3 = 1
          · obtain rfl : d3 = 1 := ha
            go_wp2_with (first | ((with_reducible refine gd_st 70 4 ?_); refine wpList_st rfl 70 (.tmp 4) _ rfl _ _ rfl _ rfl (HKQ.out) rFlow.2 (#[.int .i64 1, .int .u32 d4, .int .u16 0]) rfl (Nat.le_of_ble_eq_true rfl) rfl ?_; intro w4x hb4 hg4 hs4) | fail)
            refine bodyPost_ret (res_cell2 Try.results28 _ _ _ rfl rfl hb4 rFlow) rfl ⟨?_, bgrown HBQ.out hg4 (Nat.le_refl _)⟩
            rw [HF2.out, HE.out]
            rfl
          · have b3 : (d3 == 1) = false := by simp [ha]
            go_wp2_with (first | ((with_reducible refine gd_st 70 4 ?_); refine wpList_st rfl 70 (.tmp 4) _ rfl _ _ rfl _ rfl (HKQ.out) rFlow.2 (#[.int .i64 d3, .int .u32 d4, .int .u16 p1]) rfl (Nat.le_of_ble_eq_true rfl) rfl ?_; intro w4x hb4 hg4 hs4) | fail)
            refine bodyPost_ret (res_cell2 Try.results28 _ _ _ rfl rfl hb4 rFlow) rfl ⟨?_, bgrown HBQ.out hg4 (Nat.le_refl _)⟩
            rw [HF2.out, HE.out, if_neg ha]
            rfl
        | true =>
          go_quiet (fail)
          obtain ⟨n0, hq0⟩ : ∃ x, x = nq := ⟨_, rfl⟩
          rw [← hq0]
          clear hq0
          go_upto_region 9 with fail
          go_quiet (fail)
          obtain ⟨n1, hq1⟩ : ∃ x, x = nq := ⟨_, rfl⟩
          rw [← hq1]
          clear hq1
          have HKQ := Lib.hid (show Blk ((w4.drewN n0).drewN n1) w.heap.size 70 #[.int .i64 0, .int .u32 0, .int .u16 0] from HK4.out)
          have HBQ := Lib.hid (bthen (bthen HB4.out (bdrewN w4 n0)) (bdrewN (w4.drewN n0) n1))
          have HF2 := Lib.hid (show farF true zs = if d3 = 1 then ⟨d3, d5, 0⟩ else ⟨d3, d5, p2⟩ from HF.out)
          clear HF
          have m6q : ((w4.drewN n0).drewN n1).cell? ⟨gp, 6, none⟩ = some (.bool false) := HP4.out.cell 6
          generalize (w4.drewN n0).drewN n1 = wq at *
          by_cases ha : d3 = 1
          · obtain rfl : d3 = 1 := ha
            go_wp2_with (first | ((with_reducible refine gd_st 70 4 ?_); refine wpList_st rfl 70 (.tmp 4) _ rfl _ _ rfl _ rfl (HKQ.out) rFlow.2 (#[.int .i64 1, .int .u32 d5, .int .u16 0]) rfl (Nat.le_of_ble_eq_true rfl) rfl ?_; intro w4x hb4 hg4 hs4) | fail)
            refine bodyPost_ret (res_cell2 Try.results28 _ _ _ rfl rfl hb4 rFlow) rfl ⟨?_, bgrown HBQ.out hg4 (Nat.le_refl _)⟩
            rw [HF2.out, HE.out]
            rfl
          · have b3 : (d3 == 1) = false := by simp [ha]
            go_wp2_with (first | ((with_reducible refine gd_st 70 4 ?_); refine wpList_st rfl 70 (.tmp 4) _ rfl _ _ rfl _ rfl (HKQ.out) rFlow.2 (#[.int .i64 d3, .int .u32 d5, .int .u16 p2]) rfl (Nat.le_of_ble_eq_true rfl) rfl ?_; intro w4x hb4 hg4 hs4) | fail)
            refine bodyPost_ret (res_cell2 Try.results28 _ _ _ rfl rfl hb4 rFlow) rfl ⟨?_, bgrown HBQ.out hg4 (Nat.le_refl _)⟩
            rw [HF2.out, HE.out, if_neg ha]
            rfl
      | true =>
        cases out with
        | false =>
          go_quiet (fail)
          obtain ⟨n0, hq0⟩ : ∃ x, x = nq := ⟨_, rfl⟩
          rw [← hq0]
          clear hq0
          go_upto_region 11 with fail
          go_quiet (fail)
          obtain ⟨n1, hq1⟩ : ∃ x, x = nq := ⟨_, rfl⟩
          rw [← hq1]
          clear hq1
          have HKQ := Lib.hid (show Blk ((w4.drewN n0).drewN n1) w.heap.size 70 #[.int .i64 0, .int .u32 0, .int .u16 0] from HK4.out)
          have HBQ := Lib.hid (bthen (bthen HB4.out (bdrewN w4 n0)) (bdrewN (w4.drewN n0) n1))
          have HF2 := Lib.hid (show farF false zs = if e3 = 1 then ⟨e3, e5, 0⟩ else ⟨e3, e5, p2⟩ from HF.out)
          clear HF
          have m6q : ((w4.drewN n0).drewN n1).cell? ⟨gp, 6, none⟩ = some (.bool true) := HP4.out.cell 6
          generalize (w4.drewN n0).drewN n1 = wq at *
          by_cases ha : e3 = 1
          · obtain rfl : e3 = 1 := ha
            go_wp2_with (first | ((with_reducible refine gd_st 70 4 ?_); refine wpList_st rfl 70 (.tmp 4) _ rfl _ _ rfl _ rfl (HKQ.out) rFlow.2 (#[.int .i64 1, .int .u32 e5, .int .u16 0]) rfl (Nat.le_of_ble_eq_true rfl) rfl ?_; intro w4x hb4 hg4 hs4) | fail)
            refine bodyPost_ret (res_cell2 Try.results28 _ _ _ rfl rfl hb4 rFlow) rfl ⟨?_, bgrown HBQ.out hg4 (Nat.le_refl _)⟩
            rw [HF2.out, HE.out]
            rfl
          · have b3 : (e3 == 1) = false := by simp [ha]
            go_wp2_with (first | ((with_reducible refine gd_st 70 4 ?_); refine wpList_st rfl 70 (.tmp 4) _ rfl _ _ rfl _ rfl (HKQ.out) rFlow.2 (#[.int .i64 e3, .int .u32 e5, .int .u16 p2]) rfl (Nat.le_of_ble_eq_true rfl) rfl ?_; intro w4x hb4 hg4 hs4) | fail)
            refine bodyPost_ret (res_cell2 Try.results28 _ _ _ rfl rfl hb4 rFlow) rfl ⟨?_, bgrown HBQ.out hg4 (Nat.le_refl _)⟩
            rw [HF2.out, HE.out, if_neg ha]
            rfl
        | true =>
          go_quiet (fail)
          obtain ⟨n0, hq0⟩ : ∃ x, x = nq := ⟨_, rfl⟩
          rw [← hq0]
          clear hq0
          go_upto_region 9 with fail
          go_quiet (fail)
          obtain ⟨n1, hq1⟩ : ∃ x, x = nq := ⟨_, rfl⟩
          rw [← hq1]
          clear hq1
          go_upto_region 11 with fail
          go_quiet (fail)
          obtain ⟨n2, hq2⟩ : ∃ x, x = nq := ⟨_, rfl⟩
          rw [← hq2]
          clear hq2
          go_upto_region 13 with fail
          go_quiet (fail)
          obtain ⟨n3, hq3⟩ : ∃ x, x = nq := ⟨_, rfl⟩
          rw [← hq3]
          clear hq3
          have HKQ := Lib.hid (show Blk (w4.drewN (n0 + n1 + (n2 + n3))) w.heap.size 70 #[.int .i64 0, .int .u32 0, .int .u16 0] from HK4.out)
          have HBQ := Lib.hid (bthen HB4.out (bdrewN w4 (n0 + n1 + (n2 + n3))))
          have HF2 := Lib.hid (show farF true zs = if e3 = 1 then ⟨e3, e4, 0⟩ else ⟨e3, e4, p1⟩ from HF.out)
          clear HF
          have m6q : (w4.drewN (n0 + n1 + (n2 + n3))).cell? ⟨gp, 6, none⟩ = some (.bool true) := HP4.out.cell 6
          rw [World.drewN_drewN, World.drewN_drewN]
          generalize w4.drewN (n0 + n1 + (n2 + n3)) = wq at *
          by_cases ha : e3 = 1
          · obtain rfl : e3 = 1 := ha
            go_wp2_with (first | ((with_reducible refine gd_st 70 4 ?_); refine wpList_st rfl 70 (.tmp 4) _ rfl _ _ rfl _ rfl (HKQ.out) rFlow.2 (#[.int .i64 1, .int .u32 e4, .int .u16 0]) rfl (Nat.le_of_ble_eq_true rfl) rfl ?_; intro w4x hb4 hg4 hs4) | fail)
            refine bodyPost_ret (res_cell2 Try.results28 _ _ _ rfl rfl hb4 rFlow) rfl ⟨?_, bgrown HBQ.out hg4 (Nat.le_refl _)⟩
            rw [HF2.out, HE.out]
            rfl
          · have b3 : (e3 == 1) = false := by simp [ha]
            go_wp2_with (first | ((with_reducible refine gd_st 70 4 ?_); refine wpList_st rfl 70 (.tmp 4) _ rfl _ _ rfl _ rfl (HKQ.out) rFlow.2 (#[.int .i64 e3, .int .u32 e4, .int .u16 p1]) rfl (Nat.le_of_ble_eq_true rfl) rfl ?_; intro w4x hb4 hg4 hs4) | fail)
            refine bodyPost_ret (res_cell2 Try.results28 _ _ _ rfl rfl hb4 rFlow) rfl ⟨?_, bgrown HBQ.out hg4 (Nat.le_refl _)⟩
            rw [HF2.out, HE.out, if_neg ha]
            rfl
    · have b1 : (er1 == 0) = false := by simp [hz1]
      have b2 : (er1 != 0) = true := by simp [hz1]
      go_wp2_with (first | ((with_reducible refine gd_st 70 4 ?_); refine wpList_st rfl 70 (.tmp 4) _ rfl _ _ rfl _ rfl (HK4.out) rFlow.2 (#[.int .i64 0, .int .u32 0, .int .u16 0]) rfl (Nat.le_of_ble_eq_true rfl) rfl ?_; intro w4 hb4 hg4 hs4) | fail)
      refine bodyPost_ret (res_cell2 Try.results28 _ _ _ rfl rfl hb4 rFlow) rfl ⟨?_, bgrown HB4.out hg4 (Nat.le_refl _)⟩
      have hq : ¬ gtE zs ≠ 0 := by rw [← HER.out]; decide
      have hq1 : pgE (gtH zs) zs ≠ 0 := by rw [← HHV.out, ← HER1.out]; exact hz1
      unfold farF farE
      rw [if_neg hq, if_pos hq1, if_neg hq, ← HHV.out, ← HER1.out]
      rfl
  · have b1 : (er0 == 0) = false := by simp [hz]
    have b2 : (er0 != 0) = true := by simp [hz]
    go_wp2_with (first | ((with_reducible refine gd_st 70 4 ?_); refine wpList_st rfl 70 (.tmp 4) _ rfl _ _ rfl _ rfl (HK2.out) rFlow.2 (#[.int .i64 0, .int .u32 0, .int .u16 0]) rfl (Nat.le_of_ble_eq_true rfl) rfl ?_; intro w4 hb4 hg4 hs4) | fail)
    refine bodyPost_ret (res_cell2 Try.results28 _ _ _ rfl rfl hb4 rFlow) rfl ⟨?_, bgrown HB2.out hg4 (Nat.le_refl _)⟩
    have hq : gtE zs ≠ 0 := by rw [← HER.out]; exact hz
    unfold farF farE
    rw [if_pos hq, if_pos hq, ← HER.out]
    rfl
end Go.Proofs.Ytbnlpidhbilenaa
