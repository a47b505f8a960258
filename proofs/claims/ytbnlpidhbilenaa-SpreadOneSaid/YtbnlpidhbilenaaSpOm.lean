/-
  Several small texts in one: Sp7, Sp9, OpenS15, SpO. Conditions stand in each theorem.
-/
import Derived.Test.YtbnlpidhbilenaaSp8
import Derived.BigQuiet
import Derived.Test.YtbnlpidhbilenaaLdc
import Derived.Test.YtbnlpidhbilenaaSent
import Derived.Test.YtbnlpidhbilenaaOpen
import Derived.Lib.SmallJoins
import Derived.Test.YtbnlpidhbilenaaS15F
namespace Go.Proofs.Ytbnlpidhbilenaa
open Go.RowKit Plain
set_option linter.unusedVariables false
set_option maxRecDepth 100000
theorem sSn : Sty 80 7 := ⟨⟨_, Try.underlying80, rfl⟩, by unfold Siz; kernel_rfl⟩
def sn0 : Sn := ⟨0, 167772161, 134744065, 5, 53, 0, none, 0, 0, []⟩
set_option maxHeartbeats 4000000 in
theorem first_any (w : World) :
    Calls Try.prog 17 #[.agg #[.bool true, .int .i64 0, .int .i64 0, .int .i64 0, .int .i64 0, .slice none 0 0, .int .i64 0, .int .u8 0, .int .i64 0]] w (FrameOk sn0 0 w) := by
  go_enter Try.func17, Try.ntmps17
  go_upto_region 1 with fail
  go_quiet (fail)
  go_upto_region 2 with fail
  have hs1 : Blk ((w.alloc (.cells #[.bool true, .int .i64 0, .int .i64 0, .int .i64 0, .int .i64 0, .slice none 0 0, .int .i64 0, .int .u8 0, .int .i64 0] 40)).drewN nq) w.heap.size 40 #[.bool true, .int .i64 0, .int .i64 0, .int .i64 0, .int .i64 0, .slice none 0 0, .int .i64 0, .int .u8 0, .int .i64 0] := Blk.new w _ _
  have hb1 := bthen (ball w (.cells #[.bool true, .int .i64 0, .int .i64 0, .int .i64 0, .int .i64 0, .slice none 0 0, .int .i64 0, .int .u8 0, .int .i64 0] 40)) (bdrewN (w.alloc (.cells #[.bool true, .int .i64 0, .int .i64 0, .int .i64 0, .int .i64 0, .slice none 0 0, .int .i64 0, .int .u8 0, .int .i64 0] 40)) nq)
  generalize (w.alloc (.cells #[.bool true, .int .i64 0, .int .i64 0, .int .i64 0, .int .i64 0, .slice none 0 0, .int .i64 0, .int .u8 0, .int .i64 0] 40)).drewN nq = w1 at *
  have hz := hs1.lt
  have q0 : w1.cell? ⟨w.heap.size, 0, none⟩ = some (.bool true) := hs1.cell 0
  have q1 : w1.cell? ⟨w.heap.size, 1, none⟩ = some (.int .i64 0) := hs1.cell 1
  have q3 : w1.cell? ⟨w.heap.size, 3, none⟩ = some (.int .i64 0) := hs1.cell 3
  have q4 : w1.cell? ⟨w.heap.size, 4, none⟩ = some (.int .i64 0) := hs1.cell 4
  have q5 : w1.cell? ⟨w.heap.size, 5, none⟩ = some (.slice none 0 0) := hs1.cell 5
  have q7 : w1.cell? ⟨w.heap.size, 7, none⟩ = some (.int .u8 0) := hs1.cell 7
  have HS := Lib.hid hs1
  have HB := Lib.hid hb1
  clear hs1 hb1
  have hn0 := World.new_ne w1 ⟨w.heap.size, 0, none⟩ q0
  have hn1 := World.new_ne w1 ⟨w.heap.size, 1, none⟩ q1
  have hn7 := World.new_ne w1 ⟨w.heap.size, 7, none⟩ q7
  go_region
  have hx : Blk (w1.alloc (.cells #[.int .i64 0, .int .u32 167772161, .int .u32 134744065, .int .u16 5, .int .u16 53, .int .i64 0, .slice none 0 0] 80)).drew w1.heap.size 80 #[.int .i64 0, .int .u32 167772161, .int .u32 134744065, .int .u16 5, .int .u16 53, .int .i64 0, .slice none 0 0] := Blk.new w1 _ _
  have hs2 : Blk (w1.alloc (.cells #[.int .i64 0, .int .u32 167772161, .int .u32 134744065, .int .u16 5, .int .u16 53, .int .i64 0, .slice none 0 0] 80)).drew w.heap.size 40 #[.bool true, .int .i64 0, .int .i64 0, .int .i64 0, .int .i64 0, .slice none 0 0, .int .i64 0, .int .u8 0, .int .i64 0] := HS.out.alloc _
  have hb2 := bthen HB.out (bthen (ball w1 (.cells #[.int .i64 0, .int .u32 167772161, .int .u32 134744065, .int .u16 5, .int .u16 53, .int .i64 0, .slice none 0 0] 80)) (bdrew (w1.alloc (.cells #[.int .i64 0, .int .u32 167772161, .int .u32 134744065, .int .u16 5, .int .u16 53, .int .i64 0, .slice none 0 0] 80))))
  clear q0 q1 q3 q4 q5 q7 hn0 hn1 hn7 HS HB
  generalize (w1.alloc (.cells #[.int .i64 0, .int .u32 167772161, .int .u32 134744065, .int .u16 5, .int .u16 53, .int .i64 0, .slice none 0 0] 80)).drew = w2 at *
  generalize w1.heap.size = gx at *
  have q0 : w2.cell? ⟨w.heap.size, 0, none⟩ = some (.bool true) := hs2.cell 0
  have q1 : w2.cell? ⟨w.heap.size, 1, none⟩ = some (.int .i64 0) := hs2.cell 1
  have HX := Lib.hid hx
  have HS := Lib.hid hs2
  have HB := Lib.hid hb2
  have HF := Lib.hid (frame_any sn0 0 (by omega) w2 ⟨by decide, by decide, by decide, by decide, by decide, by decide, by decide, by decide, rfl, by decide, by decide, ⟨(fun x hx => by cases hx), (fun h => absurd h (by decide))⟩⟩ (by show wrap64 ((IntKind.u64.wrap 0).tmod 7) = 0; rw [IntKind.wrap_u64]; unfold wrap64; decide))
  have HLE := Lib.hid (show w.heap.size ≤ w2.heap.size from hb2.size)
  clear hx hs2 hb2
  go_upto_region 12 with (first | ((with_reducible refine gd_ld 80 5 ?_); refine wpList_ld rfl 80 (.tmp 5) rfl _ rfl (HX.out) sSn ?_) | (go_at_call 36; refine (HF.out).mono ?_; rintro e w3 ⟨g, m, cc, rfl, hm, hm100, ho, hb3⟩; have HM := Lib.hid hm; clear hm))
  have hs3 := HS.out.below hb3
  have q7 : w3.cell? ⟨w.heap.size, 7, none⟩ = some (.int .u8 0) := hs3.cell 7
  have HO := Lib.hid ho
  have HB3 := Lib.hid (bthen HB.out hb3)
  clear ho hs3 hb3 q0 q1
  go_wp2
  go_ret
  refine ⟨g, m, cc, rfl, HM.out, hm100, HO.out.mono HLE.out, HB3.out⟩
end Go.Proofs.Ytbnlpidhbilenaa

namespace Go.Proofs.Ytbnlpidhbilenaa
open Go.RowKit Plain
set_option linter.unusedVariables false
set_option maxRecDepth 100000
theorem sn0_ok (w : World) : sn0.ok w := ⟨by decide, by decide, by decide, by decide, by decide, by decide, by decide, by decide, rfl, by decide, by decide, ⟨(fun x hx => by cases hx), (fun h => absurd h (by decide))⟩⟩
set_option maxHeartbeats 4000000 in
theorem tells_any (w : World) : Calls Try.prog 32 #[] w fun e w' => e = .returned (.bool true) ∧ Below w.heap.size w w' := by
  have h1 := far_low sn0 0 (by omega) w (sn0_ok w) true
  have HE := Lib.hid h1.1
  have HO := Lib.hid (show farF true (frL sn0 0) = ⟨17, 134744065, 53⟩ from h1.2)
  clear h1
  have HL := Lib.hid (show (frL sn0 0).length = 28 by unfold frL; rw [frm_len]; show 20 + (udL _ _ _ _ _).length = 28; rw [udL_len]; rfl)
  have HH := Lib.hid (fun W => hash_any 17 134744065 53 (by omega) (by omega) (by omega) (by omega) W)
  have HR := Lib.hid (fun W => rhash_any 17 134744065 53 (by omega) (by omega) (by omega) (by omega) W)
  have H0 := Lib.hid (fun W => hash_any 0 0 0 (by omega) (by omega) (by omega) (by omega) W)
  have e0 : hF 0 0 0 = 0 := by decide
  rw [e0] at H0
  clear e0
  generalize hF 17 134744065 53 = hv at *
  have hq : ∀ W, (binOp .eql 67 (.agg #[.int .i64 17, .int .u32 134744065, .int .u16 53]) (.agg #[.int .i64 17, .int .u32 134744065, .int .u16 53])).run Try.prog W = .ok (.bool true) W := fun W => by kernel_rfl
  go_enter Try.func32, Try.ntmps32
  go_upto_region 2 with (first
    | (go_at_call 17; refine (first_any _).mono ?_; rintro e w1 ⟨g, m, cc, rfl, hm, hm1, ho, hb1⟩; have HM := Lib.hid hm; have HOw := Lib.hid ho; have HB1 := Lib.hid hb1; have HC := Lib.hid (far_any true (some ⟨g, 0, none⟩) (20 + m) cc (frL sn0 0) w1 ho.len ho.cap (by omega) ho.rd); clear hm ho hb1)
    | (go_at_call 27; refine (HC.out).mono ?_; rintro e w2 ⟨rfl, hb2⟩; rw [HE.out, HO.out, show (Fo.mk 17 134744065 53).val = .agg #[.int .i64 17, .int .u32 134744065, .int .u16 53] from rfl]; have HB2 := Lib.hid (bthen HB1.out hb2); clear hb2))
  have HX := Lib.hid (Blk.new w2 67 #[.int .i64 17, .int .u32 134744065, .int .u16 53])
  have hBc := bthen HB2.out (ball w2 (.cells #[.int .i64 17, .int .u32 134744065, .int .u16 53] 67))
  generalize w2.alloc (.cells #[.int .i64 17, .int .u32 134744065, .int .u16 53] 67) = w3 at *
  generalize w2.heap.size = gx at *
  have c0 : Below w3.heap.size w3 w3 := Below.refl _ _
  go_wp2_with (first
    | ((with_reducible refine gd_ldt 67 1 ?_); refine wpList_ldw (by rfl) 67 (.tmp 1) rfl _ rfl _ (Blk.at (HX.out.below c0)) sFlow ?_)
    | (go_at_call 33; first | ((with_reducible refine (H0.out _).mono ?_); rintro e w4 ⟨rfl, hx⟩; have c0 := bthen c0 hx; clear hx) | ((with_reducible refine (HH.out _).mono ?_); rintro e w4 ⟨rfl, hx⟩; have c0 := bthen c0 hx; clear hx))
    | (go_at_call 35; refine (HR.out _).mono ?_; rintro e w4 ⟨rfl, hx⟩; have c0 := bthen c0 hx; clear hx))
  go_ret
  exact ⟨rfl, bthen hBc c0⟩
end Go.Proofs.Ytbnlpidhbilenaa

namespace Go.Proofs.Ytbnlpidhbilenaa
open Go.ChangeShapes Go.WideShapes Go.ChangeAt Go.RowKit Plain
set_option linter.unusedVariables false
set_option maxRecDepth 100000
theorem list9 {α : Type} {l : List α} (h : l.length = 9) : ∃ a b c d e f g i j, l = [a, b, c, d, e, f, g, i, j] := by
  rcases l with _ | ⟨a, l⟩
  · cases h
  rcases l with _ | ⟨b, l⟩
  · simp at h
  rcases l with _ | ⟨c, l⟩
  · simp at h
  rcases l with _ | ⟨d, l⟩
  · simp at h
  rcases l with _ | ⟨e, l⟩
  · simp at h
  rcases l with _ | ⟨f, l⟩
  · simp at h
  rcases l with _ | ⟨g, l⟩
  · simp at h
  rcases l with _ | ⟨i, l⟩
  · simp at h
  rcases l with _ | ⟨j, l⟩
  · simp at h
  rcases l with _ | ⟨k, l⟩
  · exact ⟨a, b, c, d, e, f, g, i, j, rfl⟩
  · simp at h
/-- its parts -/
structure S15V where
  out : Bool
  what : Int
  who : Int
  port : Int
  fl : Int
  A : Option Addr
  n : Nat
  c : Nat
  ys : List Int
  bend : Int
  byv : Int
  tick : Int
def S15V.cs (x : S15V) : List Value := [.bool x.out, .int .i64 x.what, .int .i64 x.who, .int .i64 x.port, .int .i64 x.fl, .slice x.A x.n x.c, .int .i64 x.bend, .int .u8 x.byv, .int .i64 x.tick]
structure S15V.ok (x : S15V) (w : World) : Prop where
  len : x.ys.length = x.n
  cap : x.n ≤ x.c
  max : x.c ≤ 9223372036854775807
  rd : Rd w x.A x.ys
  b0 : 0 ≤ x.byv
  b1 : x.byv ≤ 255
  tw : (Lit.int .i64 x.tick).wf = true
  ww : (Lit.int .i64 x.what).wf = true
theorem trod_s15 {H : Type} {enc : TypeId × Value → H} {W : World} {m : Nat} {l : List Value} {y : DataW H × List MemPlace} (hl : l.length = 9)
    (h : DataW.trod enc Try.prog W 0 (fun _ => true) true m 40 l = some y) : ∃ x : S15V, l = x.cs ∧ x.ok W := by
  have ci : Try.prog.cellsOf 3 = 1 := by kernel_rfl
  have cb : Try.prog.cellsOf 4 = 1 := by kernel_rfl
  have c8 : Try.prog.cellsOf 5 = 1 := by kernel_rfl
  have cs : Try.prog.cellsOf 27 = 1 := by kernel_rfl
  obtain ⟨c0, c1, c2, c3, c4, c5, c6, c7, c8', rfl⟩ := list9 hl
  obtain ⟨xs, n, _, hx, _, hlen, hg⟩ := DataW.trod_struct Try.underlying40 h
  obtain ⟨y0, y1, y2, y3, y4, y5, y6, y7, y8, rfl⟩ := list9 hlen
  have g0 : DataW.trod enc Try.prog W 0 (fun _ => true) true n 4 [c0] = some y0 := by simpa [Value.cells, ci, cb, c8, cs] using hg 0 _ rfl
  have g1 : DataW.trod enc Try.prog W 0 (fun _ => true) true n 3 [c1] = some y1 := by simpa [Value.cells, ci, cb, c8, cs] using hg 1 _ rfl
  have g2 : DataW.trod enc Try.prog W 0 (fun _ => true) true n 3 [c2] = some y2 := by simpa [Value.cells, ci, cb, c8, cs] using hg 2 _ rfl
  have g3 : DataW.trod enc Try.prog W 0 (fun _ => true) true n 3 [c3] = some y3 := by simpa [Value.cells, ci, cb, c8, cs] using hg 3 _ rfl
  have g4 : DataW.trod enc Try.prog W 0 (fun _ => true) true n 3 [c4] = some y4 := by simpa [Value.cells, ci, cb, c8, cs] using hg 4 _ rfl
  have g5 : DataW.trod enc Try.prog W 0 (fun _ => true) true n 27 [c5] = some y5 := by simpa [Value.cells, ci, cb, c8, cs] using hg 5 _ rfl
  have g6 : DataW.trod enc Try.prog W 0 (fun _ => true) true n 3 [c6] = some y6 := by simpa [Value.cells, ci, cb, c8, cs] using hg 6 _ rfl
  have g7 : DataW.trod enc Try.prog W 0 (fun _ => true) true n 5 [c7] = some y7 := by simpa [Value.cells, ci, cb, c8, cs] using hg 7 _ rfl
  have g8 : DataW.trod enc Try.prog W 0 (fun _ => true) true n 3 [c8'] = some y8 := by simpa [Value.cells, ci, cb, c8, cs] using hg 8 _ rfl
  obtain ⟨a0, e0, _⟩ := DataW.trod_bool Try.underlying4 g0
  obtain ⟨a1, e1, _, w1⟩ := DataW.trod_int Try.underlying3 g1
  obtain ⟨a2, e2, _, w2⟩ := DataW.trod_int Try.underlying3 g2
  obtain ⟨a3, e3, _, w3⟩ := DataW.trod_int Try.underlying3 g3
  obtain ⟨a4, e4, _, w4⟩ := DataW.trod_int Try.underlying3 g4
  obtain ⟨a6, e6, _, w6⟩ := DataW.trod_int Try.underlying3 g6
  obtain ⟨a7, e7, _, w7⟩ := DataW.trod_int Try.underlying5 g7
  obtain ⟨a8, e8, _, w8⟩ := DataW.trod_int Try.underlying3 g8
  have hs : ∃ (a : Option Addr) (len cap : Nat), c5 = .slice a len cap := by
    rcases open_ints Try.underlying27 Try.underlying5 (by kernel_rfl) g5 with ⟨hcs, _⟩ | ⟨x, l, c, zs, hcs, _⟩
    · injection hcs with hcs; exact ⟨_, _, _, hcs⟩
    · injection hcs with hcs; exact ⟨_, _, _, hcs⟩
  obtain ⟨a, len, cap, rfl⟩ := hs
  obtain ⟨ys, h1, h2, h3, h4⟩ := open_rd (d := y5.1) (p := y5.2) ⟨n, g5⟩
  simp at e0 e1 e2 e3 e4 e6 e7 e8
  subst e0 e1 e2 e3 e4 e6 e7 e8
  have z7 := bounds_u8 w7
  unfold maxLen at h3
  exact ⟨⟨a0, a1, a2, a3, a4, a, len, cap, ys, a6, a7, a8⟩, rfl, ⟨h1, h2, by simpa using h3, h4, z7.1, by show a7 ≤ 255; omega, w8, w1⟩⟩
theorem open_s15 {H : Type} {enc : TypeId × Value → H} {W : World} {r : Reach} {b0 : Nat} {v : Value} {d : DataW H} {p : List MemPlace}
    (hv : Value.okWide Try.prog W r b0 40 v) (h : DataW.Trod enc Try.prog W 0 (fun _ => true) true 40 v d p) :
    ∃ x : S15V, v = .agg x.cs.toArray ∧ x.ok W := by
  obtain ⟨cs, rfl, hsz⟩ := okWide_struct Try.underlying40 hv
  have hC : Try.prog.cellsOf 40 = 9 := by kernel_rfl
  obtain ⟨l⟩ := cs
  obtain ⟨fuel, hf⟩ := h
  obtain ⟨x, e, hok⟩ := trod_s15 (l := l) (by simpa using hsz.trans hC) hf
  exact ⟨x, by rw [e], hok⟩
end Go.Proofs.Ytbnlpidhbilenaa

namespace Go.Proofs.Ytbnlpidhbilenaa
open Go.RowKit Plain
set_option linter.unusedVariables false
set_option linter.unusedSimpArgs false
set_option maxRecDepth 100000
theorem worker_nil (ws : Int) (hw0 : -9223372036854775808 ≤ ws) (hw1 : ws ≤ 9223372036854775807) (out : Bool) (A : Option Addr) (n c : Nat) (zs : List Int) (w : World) (hn : zs.length = n) (hnc : n ≤ c) (hl : n ≤ 100000) (hR : Rd w A zs) (h : wkF ws out zs = 0) :
    Calls Try.prog 30 #[.int .i64 ws, .bool out, .slice A n c] w fun e w' => e = .returned (.int .i64 0) ∧ Below w.heap.size w w' := by
  have q := worker_any ws hw0 hw1 out A n c zs w hn hnc hl hR (farF_ok out zs hR.1)
  rw [h] at q
  exact q
theorem wkF_one (out : Bool) (zs : List Int) : wkF 1 out zs = 0 := by
  unfold wkF
  split
  · rfl
  · rw [if_neg (by decide)]; omega
theorem wkF_low (ws : Int) (h : ws < 1) (out : Bool) (zs : List Int) : wkF ws out zs = 0 := by
  unfold wkF
  split
  · rfl
  · first | rfl | rw [if_pos h]
theorem wkF_short (ws : Int) (out : Bool) (zs : List Int) (h : zs.length < 20) : wkF ws out zs = 0 := by
  have hr : rdE zs 1500 = 2 := by unfold rdE; rw [if_pos (by omega)]
  have hg : gtE zs ≠ 0 := by unfold gtE; rw [hr, if_pos (by decide)]; decide
  unfold wkF farE
  rw [if_pos hg, if_pos hg]
set_option maxHeartbeats 8000000 in
theorem spreadOne_walk (x : S15V) (B : Option Addr) (m mc : Nat) (raw : List Int) (ws : Int) (w : World) (ok : x.ok w) (hm : raw.length = m) (hmc : m ≤ mc) (hmm : mc ≤ maxLen) (hR : Rd w B raw) (hw0 : -9223372036854775808 ≤ ws) (hw1 : ws ≤ 9223372036854775807) :
    Calls Try.prog 8 #[.agg x.cs.toArray, .slice B m mc, .int .i64 ws] w fun e w' => e = .returned (.bool true) ∧ Below w.heap.size w w' := by
  unfold maxLen at hmm
  obtain ⟨out, what, who, port, fl, A, n, c, ys, bend, byv, tick⟩ := x
  have HFr := Lib.hid (show ∀ W, Below w.heap.size w W → Calls Try.prog 17 #[.agg #[.bool out, .int .i64 what, .int .i64 who, .int .i64 port, .int .i64 fl, .slice A n c, .int .i64 bend, .int .u8 byv, .int .i64 tick]] W (F15 W) from fun W hW =>
    sent15_any out what who port fl A n c ys bend byv tick W ok.len ok.cap ok.max (ok.rd.below hW) ok.b0 ok.b1)
  unfold S15V.cs
  simp only
  have HB1 := Lib.hid (ball w (.cells #[.bool out, .int .i64 what, .int .i64 who, .int .i64 port, .int .i64 fl, .slice A n c, .int .i64 bend, .int .u8 byv, .int .i64 tick] 40))
  have hs1 := Blk.new w 40 #[.bool out, .int .i64 what, .int .i64 who, .int .i64 port, .int .i64 fl, .slice A n c, .int .i64 bend, .int .u8 byv, .int .i64 tick]
  obtain ⟨w1, hw1'⟩ : ∃ w1, w1 = w.alloc (.cells #[.bool out, .int .i64 what, .int .i64 who, .int .i64 port, .int .i64 fl, .slice A n c, .int .i64 bend, .int .u8 byv, .int .i64 tick] 40) := ⟨_, rfl⟩
  rw [← hw1'] at HB1 hs1
  have HW := Lib.hid hw1'
  have HS := Lib.hid hs1
  have hlt := hs1.lt
  have HR := Lib.hid hR
  have Hm := Lib.hid hm
  clear hw1' hs1 hR hm ok
  obtain ⟨u, hu⟩ : ∃ u, u = min m 19 := ⟨_, rfl⟩
  have hu19 : u ≤ 19 := by omega
  have hum : u ≤ m := by omega
  have HWr := Lib.hid (show ∀ W, Below w.heap.size w W → Calls Try.prog 30 #[.int .i64 ws, .bool out, .slice B u mc] W (fun e w' => e = .returned (.int .i64 0) ∧ Below W.heap.size W w') from fun W hW => by
    have hl : (raw.take u).length = u := by rw [List.length_take, Hm.out]; omega
    exact worker_nil ws hw0 hw1 out B u mc (raw.take u) W hl (by omega) (by omega) ((HR.out.take u).below hW) (wkF_short ws out _ (by omega)))
  have HW1 := Lib.hid (show ∀ (W : World) (g m2 c2 : Nat) (L : List Int), L.length = m2 → m2 ≤ c2 → m2 ≤ 1000 → Rd W (some ⟨g, 0, none⟩) L → Calls Try.prog 30 #[.int .i64 1, .bool out, .slice (some ⟨g, 0, none⟩) m2 c2] W (fun e w' => e = .returned (.int .i64 0) ∧ Below W.heap.size W w') from fun W g m2 c2 L h1 h2 h3 h4 =>
    worker_nil 1 (by omega) (by omega) out _ m2 c2 L W h1 h2 (by omega) h4 (wkF_one out L))
  obtain ⟨wl, hwl⟩ : ∃ wl, wl = min ws 0 := ⟨_, rfl⟩
  have HW2 := Lib.hid (show ∀ (W : World) (g m2 c2 : Nat) (L : List Int), L.length = m2 → m2 ≤ c2 → m2 ≤ 1000 → Rd W (some ⟨g, 0, none⟩) L → Calls Try.prog 30 #[.int .i64 wl, .bool out, .slice (some ⟨g, 0, none⟩) m2 c2] W (fun e w' => e = .returned (.int .i64 0) ∧ Below W.heap.size W w') from fun W g m2 c2 L h1 h2 h3 h4 =>
    worker_nil wl (by omega) (by omega) out _ m2 c2 L W h1 h2 (by omega) h4 (wkF_low wl (by omega) out L))
  have HU := Lib.hid hu
  have HWL := Lib.hid hwl
  clear hu hwl
  have hmin : (if 0 < ws then 0 else ws) = wl := by have := HWL.out; split <;> omega
  have hmin2 : (if ws < 0 then ws else 0) = wl := by have := HWL.out; split <;> omega
  go_enter Try.func8, Try.ntmps8
  go_upto_region 1 with fail
  rw [← HW.out]
  go_cut [1] (fun s1 wx => s1 = .slice B u mc ∧ w1 = wx)
  case first =>
    by_cases h : m ≤ 19
    · have h' : (m : Int) ≤ 19 := by omega
      have i1 : (m : Int) ≤ (mc : Int) := by omega
      have e : u = m := by have := HU.out; omega
      have HE := Lib.hid e
      clear e
      go_wp2
      go_meet
      exact ⟨by rw [HE.out], rfl⟩
    · have h' : (19 : Int) < (m : Int) := by omega
      have i1 : (19 : Int) ≤ (mc : Int) := by omega
      have i2 : 19 ≤ mc := by omega
      have e : u = 19 := by have := HU.out; omega
      have HE := Lib.hid e
      clear e
      go_wp2
      go_meet
      exact ⟨by rw [HE.out], rfl⟩
  case rest =>
  obtain ⟨rfl, rfl⟩ := hcut
  go_upto_region 2 with fail
  have S0 : Below w1.heap.size w1 w1 := Below.refl _ _
  have r0 : ∀ W, Below w1.heap.size w1 W → W.cell? ⟨w.heap.size, 0, none⟩ = some (.bool out) := fun W h => (HS.out.below h).cell 0
  have r1 : ∀ W, Below w1.heap.size w1 W → W.cell? ⟨w.heap.size, 1, none⟩ = some (.int .i64 what) := fun W h => (HS.out.below h).cell 1
  have r2 : ∀ W, Below w1.heap.size w1 W → W.cell? ⟨w.heap.size, 2, none⟩ = some (.int .i64 who) := fun W h => (HS.out.below h).cell 2
  have r3 : ∀ W, Below w1.heap.size w1 W → W.cell? ⟨w.heap.size, 3, none⟩ = some (.int .i64 port) := fun W h => (HS.out.below h).cell 3
  have r4 : ∀ W, Below w1.heap.size w1 W → W.cell? ⟨w.heap.size, 4, none⟩ = some (.int .i64 fl) := fun W h => (HS.out.below h).cell 4
  have r5 : ∀ W, Below w1.heap.size w1 W → W.cell? ⟨w.heap.size, 5, none⟩ = some (.slice A n c) := fun W h => (HS.out.below h).cell 5
  have r6 : ∀ W, Below w1.heap.size w1 W → W.cell? ⟨w.heap.size, 6, none⟩ = some (.int .i64 bend) := fun W h => (HS.out.below h).cell 6
  have r7 : ∀ W, Below w1.heap.size w1 W → W.cell? ⟨w.heap.size, 7, none⟩ = some (.int .u8 byv) := fun W h => (HS.out.below h).cell 7
  have r8 : ∀ W, Below w1.heap.size w1 W → W.cell? ⟨w.heap.size, 8, none⟩ = some (.int .i64 tick) := fun W h => (HS.out.below h).cell 8
  go_region_held3 (fun W => Below w1.heap.size w1 W)
    (first | (with_reducible exact Below.drew S0) | (with_reducible exact bthen (by assumption) (by assumption)) | (with_reducible assumption))
    (first
      | (go_at_call 32; refine (tells_any _).mono ?_; rintro e W1 ⟨rfl, hy1⟩)
      | (go_at_call 17; refine (HFr.out _ (bthen HB1.out (by assumption))).mono ?_; rintro e W2 ⟨g2, m2, c2, L2, rfl, h20, h120, ho2, hy2⟩)
      | (go_at_call 30; first
          | ((with_reducible refine (HWr.out _ (bthen HB1.out (by assumption))).mono ?_); rintro e W3 ⟨rfl, hy3⟩)
          | ((with_reducible refine (HW1.out _ _ _ _ _ ho2.len ho2.cap (by omega) ho2.rd).mono ?_); rintro e W3 ⟨rfl, hy3⟩)
          | ((with_reducible refine (HW2.out _ _ _ _ _ ho2.len ho2.cap (by omega) ho2.rd).mono ?_); rintro e W3 ⟨rfl, hy3⟩)))
  all_goals
    have HF := bthen HB1.out (by assumption)
    go_wp2
    go_ret
    exact ⟨rfl, HF⟩
end Go.Proofs.Ytbnlpidhbilenaa
