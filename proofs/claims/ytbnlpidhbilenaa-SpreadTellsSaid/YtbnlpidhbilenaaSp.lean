/-
  spread: the far end of a frame, and its number. Conditions stand in each theorem.
-/
import Derived.Test.YtbnlpidhbilenaaRGet
import Derived.Test.YtbnlpidhbilenaaRef2
import Derived.Test.YtbnlpidhbilenaaLowQ
import Derived.Test.YtbnlpidhbilenaaSentH
import Derived.Test.YtbnlpidhbilenaaRwF
namespace Go.Proofs.Ytbnlpidhbilenaa
open Go.RowKit Plain
set_option linter.unusedVariables false
set_option maxRecDepth 100000
structure Fo where
  pr : Int
  ad : Int
  po : Int
def Fo.val (f : Fo) : Value := .agg #[.int .i64 f.pr, .int .u32 f.ad, .int .u16 f.po]
def ofF (out : Bool) (h : Hd) (p : Pt) : Fo :=
  if p.er = true then (if out = true then ⟨p.inn.proto, p.inn.src, p.sp⟩ else ⟨p.inn.proto, p.inn.dst, p.dp⟩)
  else (if out = true then ⟨h.proto, h.dst, p.dp⟩ else ⟨h.proto, h.src, p.sp⟩)
def farF (out : Bool) (zs : List Int) : Fo :=
  if gtE zs ≠ 0 then ⟨0, 0, 0⟩ else if pgE (gtH zs) zs ≠ 0 then ⟨0, 0, 0⟩ else
    (if (ofF out (gtH zs) (pgP (gtH zs) zs)).pr = 1 then { ofF out (gtH zs) (pgP (gtH zs) zs) with po := 0 } else ofF out (gtH zs) (pgP (gtH zs) zs))
def farE (zs : List Int) : Int := if gtE zs ≠ 0 then gtE zs else pgE (gtH zs) zs
theorem sFlow : Sty 67 3 := ⟨⟨_, Try.underlying67, rfl⟩, by unfold Siz; kernel_rfl⟩
set_option maxHeartbeats 2000000 in
theorem farOf_any (out : Bool) (h : Hd) (p : Pt) (w : World) :
    Calls Try.prog 52 #[.bool out, h.val, p.val] w fun e w' => e = .returned (ofF out h p).val ∧ Below w.heap.size w w' := by
  obtain ⟨h0, h1, h2, h3, h4, h5⟩ := h
  obtain ⟨p0, p1, p2, p3, p4, p5, er, ⟨d0, d1, d2, d3, d4, d5⟩, p7, p8⟩ := p
  rw [show (Hd.mk h0 h1 h2 h3 h4 h5).val = .agg #[.int .i64 h0, .int .i64 h1, .int .i64 h2, .int .i64 h3, .int .u32 h4, .int .u32 h5] from rfl]
  rw [show (Pt.mk p0 p1 p2 p3 p4 p5 er (Hd.mk d0 d1 d2 d3 d4 d5) p7 p8).val = .agg #[.int .i64 p0, .int .u16 p1, .int .u16 p2, .int .i64 p3, .int .i64 p4, .int .i64 p5, .bool er, .int .i64 d0, .int .i64 d1, .int .i64 d2, .int .i64 d3, .int .u32 d4, .int .u32 d5, .int .i64 p7, .bool p8] from rfl]
  go_enter Try.func52, Try.ntmps52
  go_upto_region 1 with fail
  obtain ⟨w3, hw3⟩ : ∃ w3, w3 = ((w.alloc (.cells #[.int .i64 h0, .int .i64 h1, .int .i64 h2, .int .i64 h3, .int .u32 h4, .int .u32 h5] 103)).alloc (.cells #[.int .i64 p0, .int .u16 p1, .int .u16 p2, .int .i64 p3, .int .i64 p4, .int .i64 p5, .bool er, .int .i64 d0, .int .i64 d1, .int .i64 d2, .int .i64 d3, .int .u32 d4, .int .u32 d5, .int .i64 p7, .bool p8] 107)).alloc (.cells #[.int .i64 0, .int .u32 0, .int .u16 0] 67) := ⟨_, rfl⟩
  have hh : Blk w3 w.heap.size 103 #[.int .i64 h0, .int .i64 h1, .int .i64 h2, .int .i64 h3, .int .u32 h4, .int .u32 h5] := by rw [hw3]; exact ((Blk.new w _ _).alloc _).alloc _
  have hp : Blk w3 (w.heap.size + 1) 107 #[.int .i64 p0, .int .u16 p1, .int .u16 p2, .int .i64 p3, .int .i64 p4, .int .i64 p5, .bool er, .int .i64 d0, .int .i64 d1, .int .i64 d2, .int .i64 d3, .int .u32 d4, .int .u32 d5, .int .i64 p7, .bool p8] := by
    rw [hw3]
    have := (Blk.new (w.alloc (.cells #[.int .i64 h0, .int .i64 h1, .int .i64 h2, .int .i64 h3, .int .u32 h4, .int .u32 h5] 103)) 107 #[.int .i64 p0, .int .u16 p1, .int .u16 p2, .int .i64 p3, .int .i64 p4, .int .i64 p5, .bool er, .int .i64 d0, .int .i64 d1, .int .i64 d2, .int .i64 d3, .int .u32 d4, .int .u32 d5, .int .i64 p7, .bool p8]).alloc (.cells #[.int .i64 0, .int .u32 0, .int .u16 0] 67)
    rwa [World.size_alloc] at this
  have hr : Blk w3 (w.heap.size + 1 + 1) 67 #[.int .i64 0, .int .u32 0, .int .u16 0] := by
    rw [hw3]
    have := Blk.new ((w.alloc (.cells #[.int .i64 h0, .int .i64 h1, .int .i64 h2, .int .i64 h3, .int .u32 h4, .int .u32 h5] 103)).alloc (.cells #[.int .i64 p0, .int .u16 p1, .int .u16 p2, .int .i64 p3, .int .i64 p4, .int .i64 p5, .bool er, .int .i64 d0, .int .i64 d1, .int .i64 d2, .int .i64 d3, .int .u32 d4, .int .u32 d5, .int .i64 p7, .bool p8] 107)) 67 #[.int .i64 0, .int .u32 0, .int .u16 0]
    rwa [World.size_alloc, World.size_alloc] at this
  have HB := Lib.hid (show Below w.heap.size w w3 by rw [hw3]; exact bthen (bthen (ball _ _) (ball _ _)) (ball _ _))
  rw [← hw3]
  clear hw3
  have HZ := Lib.hid (show w.heap.size ≤ w.heap.size ∧ w.heap.size ≤ w.heap.size + 1 + 1 by omega)
  have n1 : w.heap.size + 1 + 1 ≠ w.heap.size := by omega
  have n2 : w.heap.size + 1 ≠ w.heap.size := by omega
  generalize w.heap.size + 1 + 1 = gr at *
  generalize w.heap.size + 1 = gp at *
  have HH := Lib.hid hh
  have HP := Lib.hid hp
  have HR := Lib.hid hr
  clear hh hp hr
  have m6 : w3.cell? ⟨gp, 6, none⟩ = some (.bool er) := HP.out.cell 6
  have m1 : w3.cell? ⟨gp, 1, none⟩ = some (.int .u16 p1) := HP.out.cell 1
  have m2 : w3.cell? ⟨gp, 2, none⟩ = some (.int .u16 p2) := HP.out.cell 2
  cases er with
  | true =>
    have m7 : w3.cell? ⟨gp, 7, none⟩ = some (.int .i64 d0) := HP.out.cell 7
    have m8 : w3.cell? ⟨gp, 8, none⟩ = some (.int .i64 d1) := HP.out.cell 8
    have m9 : w3.cell? ⟨gp, 9, none⟩ = some (.int .i64 d2) := HP.out.cell 9
    have m10 : w3.cell? ⟨gp, 10, none⟩ = some (.int .i64 d3) := HP.out.cell 10
    have m11 : w3.cell? ⟨gp, 11, none⟩ = some (.int .u32 d4) := HP.out.cell 11
    have m12 : w3.cell? ⟨gp, 12, none⟩ = some (.int .u32 d5) := HP.out.cell 12
    go_upto_region 3 with (first | ((with_reducible refine gd_st 103 4 ?_); refine wpList_st rfl 103 (.tmp 4) _ rfl _ _ rfl _ rfl (HH.out) sHead.2 (#[.int .i64 d0, .int .i64 d1, .int .i64 d2, .int .i64 d3, .int .u32 d4, .int .u32 d5]) rfl (Nat.le_of_ble_eq_true rfl) rfl ?_; intro w5 hb5 hg5 hs5) | fail)
    have HP5 := Lib.hid (HP.out.grown hg5 n2)
    have HR5 := Lib.hid (HR.out.grown hg5 n1)
    have HH5 := Lib.hid hb5
    have HB5 := Lib.hid (bgrown HB.out hg5 HZ.out.1)
    clear m1 m2 m6 m7 m8 m9 m10 m11 m12 hg5 hs5 hb5 HP HR HH HB
    have q1 : w5.cell? ⟨gp, 1, none⟩ = some (.int .u16 p1) := HP5.out.cell 1
    have q2 : w5.cell? ⟨gp, 2, none⟩ = some (.int .u16 p2) := HP5.out.cell 2
    have k3 : w5.cell? ⟨w.heap.size, 3, none⟩ = some (.int .i64 d3) := HH5.out.cell 3
    have k4 : w5.cell? ⟨w.heap.size, 4, none⟩ = some (.int .u32 d4) := HH5.out.cell 4
    have k5 : w5.cell? ⟨w.heap.size, 5, none⟩ = some (.int .u32 d5) := HH5.out.cell 5
    cases out with
    | true =>
      go_wp2_with (first | ((with_reducible refine gd_st 67 6 ?_); refine wpList_st rfl 67 (.tmp 6) _ rfl _ _ rfl _ rfl (HR5.out) sFlow.2 (#[.int .i64 d3, .int .u32 d4, .int .u16 p1]) rfl (Nat.le_of_ble_eq_true rfl) rfl ?_; intro w4 hb4 hg4 hs4) | fail)
      exact bodyPost_ret (res_cell1 Try.results52 _ _ rfl hb4 sFlow) rfl ⟨rfl, bgrown HB5.out hg4 HZ.out.2⟩
    | false =>
      go_wp2_with (first | ((with_reducible refine gd_st 67 6 ?_); refine wpList_st rfl 67 (.tmp 6) _ rfl _ _ rfl _ rfl (HR5.out) sFlow.2 (#[.int .i64 d3, .int .u32 d5, .int .u16 p2]) rfl (Nat.le_of_ble_eq_true rfl) rfl ?_; intro w4 hb4 hg4 hs4) | fail)
      exact bodyPost_ret (res_cell1 Try.results52 _ _ rfl hb4 sFlow) rfl ⟨rfl, bgrown HB5.out hg4 HZ.out.2⟩
  | false =>
    have k3 : w3.cell? ⟨w.heap.size, 3, none⟩ = some (.int .i64 h3) := HH.out.cell 3
    have k4 : w3.cell? ⟨w.heap.size, 4, none⟩ = some (.int .u32 h4) := HH.out.cell 4
    have k5 : w3.cell? ⟨w.heap.size, 5, none⟩ = some (.int .u32 h5) := HH.out.cell 5
    cases out with
    | true =>
      go_wp2_with (first | ((with_reducible refine gd_st 67 6 ?_); refine wpList_st rfl 67 (.tmp 6) _ rfl _ _ rfl _ rfl (HR.out) sFlow.2 (#[.int .i64 h3, .int .u32 h5, .int .u16 p2]) rfl (Nat.le_of_ble_eq_true rfl) rfl ?_; intro w4 hb4 hg4 hs4) | fail)
      exact bodyPost_ret (res_cell1 Try.results52 _ _ rfl hb4 sFlow) rfl ⟨rfl, bgrown HB.out hg4 HZ.out.2⟩
    | false =>
      go_wp2_with (first | ((with_reducible refine gd_st 67 6 ?_); refine wpList_st rfl 67 (.tmp 6) _ rfl _ _ rfl _ rfl (HR.out) sFlow.2 (#[.int .i64 h3, .int .u32 h4, .int .u16 p1]) rfl (Nat.le_of_ble_eq_true rfl) rfl ?_; intro w4 hb4 hg4 hs4) | fail)
      exact bodyPost_ret (res_cell1 Try.results52 _ _ rfl hb4 sFlow) rfl ⟨rfl, bgrown HB.out hg4 HZ.out.2⟩
end Go.Proofs.Ytbnlpidhbilenaa
