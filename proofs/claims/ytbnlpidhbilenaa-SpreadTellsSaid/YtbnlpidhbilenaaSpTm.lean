/-
  Several small texts in one: Sp7, Sp9, OpenS15, SpTl. Conditions stand in each theorem.
-/
import Derived.Test.YtbnlpidhbilenaaSp8
import Derived.BigQuiet
import Derived.Test.YtbnlpidhbilenaaLdc
import Derived.Test.YtbnlpidhbilenaaSent
import Derived.Test.YtbnlpidhbilenaaOpen
import Derived.Lib.SmallJoins
import Derived.Test.YtbnlpidhbilenaaS15F
import Derived.Laws.BytesArg
import Derived.Laws.StructEq
namespace Go.Proofs.Ytbnlpidhbilenaa
open Go.RowKit Plain
set_option linter.unusedVariables false
set_option maxRecDepth 100000
theorem sSn : Sty 80 7 := ⟨⟨_, Try.underlying80, rfl⟩, by unfold Siz; kernel_rfl⟩
def sn0 : Sn := ⟨0, 167772161, 134744065, 5, 53, 0, none, 0, 0, []⟩
set_option maxHeartbeats 4000000 in
theorem first_any (w : World) :
    Calls Try.prog 17 #[.agg #[.bool true, .int .i64 0, .int .i64 0, .int .i64 0, .int .i64 0, .slice none 0 0, .int .i64 0, .int .u8 0, .int .i64 0]] w (FrameOk sn0 0 w) := by
  go_enter Try.func17, Try.ntmps17
  go_upto_region 1 with fail
  go_quiet (fail)
  go_upto_region 2 with fail
  have hs1 : Blk ((w.alloc (.cells #[.bool true, .int .i64 0, .int .i64 0, .int .i64 0, .int .i64 0, .slice none 0 0, .int .i64 0, .int .u8 0, .int .i64 0] 40)).drewN nq) w.heap.size 40 #[.bool true, .int .i64 0, .int .i64 0, .int .i64 0, .int .i64 0, .slice none 0 0, .int .i64 0, .int .u8 0, .int .i64 0] := Blk.new w _ _
  have hb1 := bthen (ball w (.cells #[.bool true, .int .i64 0, .int .i64 0, .int .i64 0, .int .i64 0, .slice none 0 0, .int .i64 0, .int .u8 0, .int .i64 0] 40)) (bdrewN (w.alloc (.cells #[.bool true, .int .i64 0, .int .i64 0, .int .i64 0, .int .i64 0, .slice none 0 0, .int .i64 0, .int .u8 0, .int .i64 0] 40)) nq)
  generalize (w.alloc (.cells #[.bool true, .int .i64 0, .int .i64 0, .int .i64 0, .int .i64 0, .slice none 0 0, .int .i64 0, .int .u8 0, .int .i64 0] 40)).drewN nq = w1 at *
  have hz := hs1.lt
  have q0 : w1.cell? ⟨w.heap.size, 0, none⟩ = some (.bool true) := hs1.cell 0
  have q1 : w1.cell? ⟨w.heap.size, 1, none⟩ = some (.int .i64 0) := hs1.cell 1
  have q3 : w1.cell? ⟨w.heap.size, 3, none⟩ = some (.int .i64 0) := hs1.cell 3
  have q4 : w1.cell? ⟨w.heap.size, 4, none⟩ = some (.int .i64 0) := hs1.cell 4
  have q5 : w1.cell? ⟨w.heap.size, 5, none⟩ = some (.slice none 0 0) := hs1.cell 5
  have q7 : w1.cell? ⟨w.heap.size, 7, none⟩ = some (.int .u8 0) := hs1.cell 7
  have HS := Lib.hid hs1
  have HB := Lib.hid hb1
  clear hs1 hb1
  have hn0 := World.new_ne w1 ⟨w.heap.size, 0, none⟩ q0
  have hn1 := World.new_ne w1 ⟨w.heap.size, 1, none⟩ q1
  have hn7 := World.new_ne w1 ⟨w.heap.size, 7, none⟩ q7
  go_region
  have hx : Blk (w1.alloc (.cells #[.int .i64 0, .int .u32 167772161, .int .u32 134744065, .int .u16 5, .int .u16 53, .int .i64 0, .slice none 0 0] 80)).drew w1.heap.size 80 #[.int .i64 0, .int .u32 167772161, .int .u32 134744065, .int .u16 5, .int .u16 53, .int .i64 0, .slice none 0 0] := Blk.new w1 _ _
  have hs2 : Blk (w1.alloc (.cells #[.int .i64 0, .int .u32 167772161, .int .u32 134744065, .int .u16 5, .int .u16 53, .int .i64 0, .slice none 0 0] 80)).drew w.heap.size 40 #[.bool true, .int .i64 0, .int .i64 0, .int .i64 0, .int .i64 0, .slice none 0 0, .int .i64 0, .int .u8 0, .int .i64 0] := HS.out.alloc _
  have hb2 := bthen HB.out (bthen (ball w1 (.cells #[.int .i64 0, .int .u32 167772161, .int .u32 134744065, .int .u16 5, .int .u16 53, .int .i64 0, .slice none 0 0] 80)) (bdrew (w1.alloc (.cells #[.int .i64 0, .int .u32 167772161, .int .u32 134744065, .int .u16 5, .int .u16 53, .int .i64 0, .slice none 0 0] 80))))
  clear q0 q1 q3 q4 q5 q7 hn0 hn1 hn7 HS HB
  generalize (w1.alloc (.cells #[.int .i64 0, .int .u32 167772161, .int .u32 134744065, .int .u16 5, .int .u16 53, .int .i64 0, .slice none 0 0] 80)).drew = w2 at *
  generalize w1.heap.size = gx at *
  have q0 : w2.cell? ⟨w.heap.size, 0, none⟩ = some (.bool true) := hs2.cell 0
  have q1 : w2.cell? ⟨w.heap.size, 1, none⟩ = some (.int .i64 0) := hs2.cell 1
  have HX := Lib.hid hx
  have HS := Lib.hid hs2
  have HB := Lib.hid hb2
  have HF := Lib.hid (frame_any sn0 0 (by omega) w2 ⟨by decide, by decide, by decide, by decide, by decide, by decide, by decide, by decide, rfl, by decide, by decide, ⟨(fun x hx => by cases hx), (fun h => absurd h (by decide))⟩⟩ (by show wrap64 ((IntKind.u64.wrap 0).tmod 7) = 0; rw [IntKind.wrap_u64]; unfold wrap64; decide))
  have HLE := Lib.hid (show w.heap.size ≤ w2.heap.size from hb2.size)
  clear hx hs2 hb2
  go_upto_region 12 with (first | ((with_reducible refine gd_ld 80 5 ?_); refine wpList_ld rfl 80 (.tmp 5) rfl _ rfl (HX.out) sSn ?_) | (go_at_call 36; refine (HF.out).mono ?_; rintro e w3 ⟨g, m, cc, rfl, hm, hm100, ho, hb3⟩; have HM := Lib.hid hm; clear hm))
  have hs3 := HS.out.below hb3
  have q7 : w3.cell? ⟨w.heap.size, 7, none⟩ = some (.int .u8 0) := hs3.cell 7
  have HO := Lib.hid ho
  have HB3 := Lib.hid (bthen HB.out hb3)
  clear ho hs3 hb3 q0 q1
  go_wp2
  go_ret
  refine ⟨g, m, cc, rfl, HM.out, hm100, HO.out.mono HLE.out, HB3.out⟩
end Go.Proofs.Ytbnlpidhbilenaa

namespace Go.Proofs.Ytbnlpidhbilenaa
open Go.RowKit Plain
set_option linter.unusedVariables false
set_option maxRecDepth 100000
theorem sn0_ok (w : World) : sn0.ok w := ⟨by decide, by decide, by decide, by decide, by decide, by decide, by decide, by decide, rfl, by decide, by decide, ⟨(fun x hx => by cases hx), (fun h => absurd h (by decide))⟩⟩
set_option maxHeartbeats 4000000 in
theorem tells_any (w : World) : Calls Try.prog 32 #[] w fun e w' => e = .returned (.bool true) ∧ Below w.heap.size w w' := by
  have h1 := far_low sn0 0 (by omega) w (sn0_ok w) true
  have HE := Lib.hid h1.1
  have HO := Lib.hid (show farF true (frL sn0 0) = ⟨17, 134744065, 53⟩ from h1.2)
  clear h1
  have HL := Lib.hid (show (frL sn0 0).length = 28 by unfold frL; rw [frm_len]; show 20 + (udL _ _ _ _ _).length = 28; rw [udL_len]; rfl)
  have HH := Lib.hid (fun W => hash_any 17 134744065 53 (by omega) (by omega) (by omega) (by omega) W)
  have HR := Lib.hid (fun W => rhash_any 17 134744065 53 (by omega) (by omega) (by omega) (by omega) W)
  have H0 := Lib.hid (fun W => hash_any 0 0 0 (by omega) (by omega) (by omega) (by omega) W)
  have e0 : hF 0 0 0 = 0 := by decide
  rw [e0] at H0
  clear e0
  generalize hF 17 134744065 53 = hv at *
  have hq : ∀ W, (binOp .eql 67 (.agg #[.int .i64 17, .int .u32 134744065, .int .u16 53]) (.agg #[.int .i64 17, .int .u32 134744065, .int .u16 53])).run Try.prog W = .ok (.bool true) W := fun W => by kernel_rfl
  go_enter Try.func32, Try.ntmps32
  go_upto_region 2 with (first
    | (go_at_call 17; refine (first_any _).mono ?_; rintro e w1 ⟨g, m, cc, rfl, hm, hm1, ho, hb1⟩; have HM := Lib.hid hm; have HOw := Lib.hid ho; have HB1 := Lib.hid hb1; have HC := Lib.hid (far_any true (some ⟨g, 0, none⟩) (20 + m) cc (frL sn0 0) w1 ho.len ho.cap (by omega) ho.rd); clear hm ho hb1)
    | (go_at_call 27; refine (HC.out).mono ?_; rintro e w2 ⟨rfl, hb2⟩; rw [HE.out, HO.out, show (Fo.mk 17 134744065 53).val = .agg #[.int .i64 17, .int .u32 134744065, .int .u16 53] from rfl]; have HB2 := Lib.hid (bthen HB1.out hb2); clear hb2))
  have HX := Lib.hid (Blk.new w2 67 #[.int .i64 17, .int .u32 134744065, .int .u16 53])
  have hBc := bthen HB2.out (ball w2 (.cells #[.int .i64 17, .int .u32 134744065, .int .u16 53] 67))
  generalize w2.alloc (.cells #[.int .i64 17, .int .u32 134744065, .int .u16 53] 67) = w3 at *
  generalize w2.heap.size = gx at *
  have c0 : Below w3.heap.size w3 w3 := Below.refl _ _
  go_wp2_with (first
    | ((with_reducible refine gd_ldt 67 1 ?_); refine wpList_ldw (by rfl) 67 (.tmp 1) rfl _ rfl _ (Blk.at (HX.out.below c0)) sFlow ?_)
    | (go_at_call 33; first | ((with_reducible refine (H0.out _).mono ?_); rintro e w4 ⟨rfl, hx⟩; have c0 := bthen c0 hx; clear hx) | ((with_reducible refine (HH.out _).mono ?_); rintro e w4 ⟨rfl, hx⟩; have c0 := bthen c0 hx; clear hx))
    | (go_at_call 35; refine (HR.out _).mono ?_; rintro e w4 ⟨rfl, hx⟩; have c0 := bthen c0 hx; clear hx))
  go_ret
  exact ⟨rfl, bthen hBc c0⟩
end Go.Proofs.Ytbnlpidhbilenaa

namespace Go.Proofs.Ytbnlpidhbilenaa
open Go.ChangeShapes Go.WideShapes Go.ChangeAt Go.RowKit Plain
set_option linter.unusedVariables false
set_option maxRecDepth 100000
theorem list9 {α : Type} {l : List α} (h : l.length = 9) : ∃ a b c d e f g i j, l = [a, b, c, d, e, f, g, i, j] := by
  rcases l with _ | ⟨a, l⟩
  · cases h
  rcases l with _ | ⟨b, l⟩
  · simp at h
  rcases l with _ | ⟨c, l⟩
  · simp at h
  rcases l with _ | ⟨d, l⟩
  · simp at h
  rcases l with _ | ⟨e, l⟩
  · simp at h
  rcases l with _ | ⟨f, l⟩
  · simp at h
  rcases l with _ | ⟨g, l⟩
  · simp at h
  rcases l with _ | ⟨i, l⟩
  · simp at h
  rcases l with _ | ⟨j, l⟩
  · simp at h
  rcases l with _ | ⟨k, l⟩
  · exact ⟨a, b, c, d, e, f, g, i, j, rfl⟩
  · simp at h
/-- its parts -/
structure S15V where
  out : Bool
  what : Int
  who : Int
  port : Int
  fl : Int
  A : Option Addr
  n : Nat
  c : Nat
  ys : List Int
  bend : Int
  byv : Int
  tick : Int
def S15V.cs (x : S15V) : List Value := [.bool x.out, .int .i64 x.what, .int .i64 x.who, .int .i64 x.port, .int .i64 x.fl, .slice x.A x.n x.c, .int .i64 x.bend, .int .u8 x.byv, .int .i64 x.tick]
structure S15V.ok (x : S15V) (w : World) : Prop where
  len : x.ys.length = x.n
  cap : x.n ≤ x.c
  max : x.c ≤ 9223372036854775807
  rd : Rd w x.A x.ys
  b0 : 0 ≤ x.byv
  b1 : x.byv ≤ 255
  tw : (Lit.int .i64 x.tick).wf = true
  ww : (Lit.int .i64 x.what).wf = true
theorem trod_s15 {H : Type} {enc : TypeId × Value → H} {W : World} {m : Nat} {l : List Value} {y : DataW H × List MemPlace} (hl : l.length = 9)
    (h : DataW.trod enc Try.prog W 0 (fun _ => true) true m 40 l = some y) : ∃ x : S15V, l = x.cs ∧ x.ok W := by
  have ci : Try.prog.cellsOf 3 = 1 := by kernel_rfl
  have cb : Try.prog.cellsOf 4 = 1 := by kernel_rfl
  have c8 : Try.prog.cellsOf 5 = 1 := by kernel_rfl
  have cs : Try.prog.cellsOf 27 = 1 := by kernel_rfl
  obtain ⟨c0, c1, c2, c3, c4, c5, c6, c7, c8', rfl⟩ := list9 hl
  obtain ⟨xs, n, _, hx, _, hlen, hg⟩ := DataW.trod_struct Try.underlying40 h
  obtain ⟨y0, y1, y2, y3, y4, y5, y6, y7, y8, rfl⟩ := list9 hlen
  have g0 : DataW.trod enc Try.prog W 0 (fun _ => true) true n 4 [c0] = some y0 := by simpa [Value.cells, ci, cb, c8, cs] using hg 0 _ rfl
  have g1 : DataW.trod enc Try.prog W 0 (fun _ => true) true n 3 [c1] = some y1 := by simpa [Value.cells, ci, cb, c8, cs] using hg 1 _ rfl
  have g2 : DataW.trod enc Try.prog W 0 (fun _ => true) true n 3 [c2] = some y2 := by simpa [Value.cells, ci, cb, c8, cs] using hg 2 _ rfl
  have g3 : DataW.trod enc Try.prog W 0 (fun _ => true) true n 3 [c3] = some y3 := by simpa [Value.cells, ci, cb, c8, cs] using hg 3 _ rfl
  have g4 : DataW.trod enc Try.prog W 0 (fun _ => true) true n 3 [c4] = some y4 := by simpa [Value.cells, ci, cb, c8, cs] using hg 4 _ rfl
  have g5 : DataW.trod enc Try.prog W 0 (fun _ => true) true n 27 [c5] = some y5 := by simpa [Value.cells, ci, cb, c8, cs] using hg 5 _ rfl
  have g6 : DataW.trod enc Try.prog W 0 (fun _ => true) true n 3 [c6] = some y6 := by simpa [Value.cells, ci, cb, c8, cs] using hg 6 _ rfl
  have g7 : DataW.trod enc Try.prog W 0 (fun _ => true) true n 5 [c7] = some y7 := by simpa [Value.cells, ci, cb, c8, cs] using hg 7 _ rfl
  have g8 : DataW.trod enc Try.prog W 0 (fun _ => true) true n 3 [c8'] = some y8 := by simpa [Value.cells, ci, cb, c8, cs] using hg 8 _ rfl
  obtain ⟨a0, e0, _⟩ := DataW.trod_bool Try.underlying4 g0
  obtain ⟨a1, e1, _, w1⟩ := DataW.trod_int Try.underlying3 g1
  obtain ⟨a2, e2, _, w2⟩ := DataW.trod_int Try.underlying3 g2
  obtain ⟨a3, e3, _, w3⟩ := DataW.trod_int Try.underlying3 g3
  obtain ⟨a4, e4, _, w4⟩ := DataW.trod_int Try.underlying3 g4
  obtain ⟨a6, e6, _, w6⟩ := DataW.trod_int Try.underlying3 g6
  obtain ⟨a7, e7, _, w7⟩ := DataW.trod_int Try.underlying5 g7
  obtain ⟨a8, e8, _, w8⟩ := DataW.trod_int Try.underlying3 g8
  have hs : ∃ (a : Option Addr) (len cap : Nat), c5 = .slice a len cap := by
    rcases open_ints Try.underlying27 Try.underlying5 (by kernel_rfl) g5 with ⟨hcs, _⟩ | ⟨x, l, c, zs, hcs, _⟩
    · injection hcs with hcs; exact ⟨_, _, _, hcs⟩
    · injection hcs with hcs; exact ⟨_, _, _, hcs⟩
  obtain ⟨a, len, cap, rfl⟩ := hs
  obtain ⟨ys, h1, h2, h3, h4⟩ := open_rd (d := y5.1) (p := y5.2) ⟨n, g5⟩
  simp at e0 e1 e2 e3 e4 e6 e7 e8
  subst e0 e1 e2 e3 e4 e6 e7 e8
  have z7 := bounds_u8 w7
  unfold maxLen at h3
  exact ⟨⟨a0, a1, a2, a3, a4, a, len, cap, ys, a6, a7, a8⟩, rfl, ⟨h1, h2, by simpa using h3, h4, z7.1, by show a7 ≤ 255; omega, w8, w1⟩⟩
theorem open_s15 {H : Type} {enc : TypeId × Value → H} {W : World} {r : Reach} {b0 : Nat} {v : Value} {d : DataW H} {p : List MemPlace}
    (hv : Value.okWide Try.prog W r b0 40 v) (h : DataW.Trod enc Try.prog W 0 (fun _ => true) true 40 v d p) :
    ∃ x : S15V, v = .agg x.cs.toArray ∧ x.ok W := by
  obtain ⟨cs, rfl, hsz⟩ := okWide_struct Try.underlying40 hv
  have hC : Try.prog.cellsOf 40 = 9 := by kernel_rfl
  obtain ⟨l⟩ := cs
  obtain ⟨fuel, hf⟩ := h
  obtain ⟨x, e, hok⟩ := trod_s15 (l := l) (by simpa using hsz.trans hC) hf
  exact ⟨x, by rw [e], hok⟩
end Go.Proofs.Ytbnlpidhbilenaa

namespace Go.Proofs.Ytbnlpidhbilenaa
open Go.RowKit Plain
set_option linter.unusedVariables false
set_option linter.unusedSimpArgs false
set_option maxRecDepth 100000
theorem run_str (W : World) (A : Option Addr) (n c : Nat) (zs : List Int) (hn : zs.length = n) (hR : Rd W A zs) :
    (convert 27 9 (.slice A n c)).run Try.prog W = .ok (.string (strOfNums zs)) W := by
  rcases Nat.eq_zero_or_pos n with h0 | h0
  · subst h0
    have hz : zs = [] := List.eq_nil_of_length_eq_zero hn
    subst hz
    rcases A with _ | ⟨b, off, sp⟩
    · exact run_convert_bytes_nil W 27 5 Try.underlying27 Try.underlying5 0 c 9 Try.underlying9
    · rw [run_convert_bytes_string W 27 9 5 _ 0 c Try.underlying27 Try.underlying5 Try.underlying9]
      have hl : (loadCells ⟨b, off, sp⟩ 0).run Try.prog W = .ok ([].map (Value.int .u8)).toArray W := by
        simpa using run_loadCells_list (P := Try.prog) W ⟨b, off, sp⟩ [] (fun j v hj => by simp at hj)
      rw [run_bytesToString W _ 0 c [] hl]
      rfl
  · obtain ⟨b, off, rfl, hc⟩ := hR.2 (by omega)
    exact run_convert_bytes_arg W 27 5 Try.underlying27 Try.underlying5 b off n c zs hn (fun i hi => hc i (by omega)) 9 Try.underlying9

theorem neq_flow (a b c : Int) (W : World) : (binOp .neq 70 (.agg #[.int .i64 a, .int .u32 b, .int .u16 c]) (.agg #[.int .i64 a, .int .u32 b, .int .u16 c])).run Try.prog W = .ok (.bool false) W := by
  simp [go_sem]
theorem fromKey_any (a b c : Int) (w : World) : Calls Try.prog 29 #[.agg #[.int .i64 a, .int .u32 b, .int .u16 c]] w fun e w' => e = .returned (.agg #[.int .i64 a, .int .u32 b, .int .u16 c]) ∧ Below w.heap.size w w' := by
  go_enter Try.func29, Try.ntmps29
  go_wp2
  refine bodyPost_ret (v := .agg #[.int .i64 a, .int .u32 b, .int .u16 c]) (by simp [results, Try.results29, go_sem]) rfl ⟨rfl, ?_⟩
  exact ((Below.refl _ _).alloc (Nat.le_refl _) _).alloc (by simp) _
theorem key_any (a b c : Int) (w : World) : Calls Try.prog 34 #[.agg #[.int .i64 a, .int .u32 b, .int .u16 c]] w fun e w' => e = .returned (.agg #[.int .i64 a, .int .u32 b, .int .u16 c]) ∧ Below w.heap.size w w' := by
  go_enter Try.func34, Try.ntmps34
  go_wp2
  refine bodyPost_ret (v := .agg #[.int .i64 a, .int .u32 b, .int .u16 c]) (by simp [results, Try.results34, go_sem]) rfl ⟨rfl, ?_⟩
  exact ((Below.refl _ _).alloc (Nat.le_refl _) _).alloc (by simp) _
set_option maxHeartbeats 8000000 in
theorem spreadTells_walk (x : S15V) (B : Option Addr) (m mc : Nat) (raw : List Int) (wa wb : Int) (w : World) (ok : x.ok w) (hm : raw.length = m) (hmc : m ≤ mc) (hmm : mc ≤ maxLen) (hR : Rd w B raw) (ha0 : -9223372036854775808 ≤ wa) (ha1 : wa ≤ 9223372036854775807) :
    Calls Try.prog 6 #[.agg x.cs.toArray, .slice B m mc, .agg #[.int .i64 wa, .int .i64 wb]] w fun e w' => e = .returned (.bool true) ∧ Below w.heap.size w w' := by
  unfold maxLen at hmm
  obtain ⟨out, what, who, port, fl, A, n, c, ys, bend, byv, tick⟩ := x
  have HFr := Lib.hid (show ∀ W, Below w.heap.size w W → Calls Try.prog 17 #[.agg #[.bool out, .int .i64 what, .int .i64 who, .int .i64 port, .int .i64 fl, .slice A n c, .int .i64 bend, .int .u8 byv, .int .i64 tick]] W (F15 W) from fun W hW =>
    sent15_any out what who port fl A n c ys bend byv tick W ok.len ok.cap ok.max (ok.rd.below hW) ok.b0 ok.b1)
  unfold S15V.cs
  simp only
  have HB1 := Lib.hid (show Below w.heap.size w ((w.alloc (.cells #[.bool out, .int .i64 what, .int .i64 who, .int .i64 port, .int .i64 fl, .slice A n c, .int .i64 bend, .int .u8 byv, .int .i64 tick] 40)).alloc (.cells #[.int .i64 wa, .int .i64 wb] 60)) from ((Below.refl _ _).alloc (Nat.le_refl _) _).alloc (by simp) _)
  have hs1 : Blk ((w.alloc (.cells #[.bool out, .int .i64 what, .int .i64 who, .int .i64 port, .int .i64 fl, .slice A n c, .int .i64 bend, .int .u8 byv, .int .i64 tick] 40)).alloc (.cells #[.int .i64 wa, .int .i64 wb] 60)) w.heap.size 40 #[.bool out, .int .i64 what, .int .i64 who, .int .i64 port, .int .i64 fl, .slice A n c, .int .i64 bend, .int .u8 byv, .int .i64 tick] := (Blk.new w 40 #[.bool out, .int .i64 what, .int .i64 who, .int .i64 port, .int .i64 fl, .slice A n c, .int .i64 bend, .int .u8 byv, .int .i64 tick]).alloc _
  have hs2 : Blk ((w.alloc (.cells #[.bool out, .int .i64 what, .int .i64 who, .int .i64 port, .int .i64 fl, .slice A n c, .int .i64 bend, .int .u8 byv, .int .i64 tick] 40)).alloc (.cells #[.int .i64 wa, .int .i64 wb] 60)) (w.heap.size + 1) 60 #[.int .i64 wa, .int .i64 wb] := by
    have := Blk.new (w.alloc (.cells #[.bool out, .int .i64 what, .int .i64 who, .int .i64 port, .int .i64 fl, .slice A n c, .int .i64 bend, .int .u8 byv, .int .i64 tick] 40)) 60 #[.int .i64 wa, .int .i64 wb]
    simpa using this
  have hsz : (w.alloc (.cells #[.bool out, .int .i64 what, .int .i64 who, .int .i64 port, .int .i64 fl, .slice A n c, .int .i64 bend, .int .u8 byv, .int .i64 tick] 40)).heap.size = w.heap.size + 1 := by simp
  obtain ⟨w1, hw1'⟩ : ∃ w1, w1 = (w.alloc (.cells #[.bool out, .int .i64 what, .int .i64 who, .int .i64 port, .int .i64 fl, .slice A n c, .int .i64 bend, .int .u8 byv, .int .i64 tick] 40)).alloc (.cells #[.int .i64 wa, .int .i64 wb] 60) := ⟨_, rfl⟩
  rw [← hw1'] at HB1 hs1 hs2
  obtain ⟨gx, hgx⟩ : ∃ gx, gx = w.heap.size + 1 := ⟨_, rfl⟩
  rw [← hgx] at hs2
  have HW := Lib.hid hw1'
  have HG := Lib.hid hgx
  have HS := Lib.hid hs1
  have HS2 := Lib.hid hs2
  have HRw := Lib.hid (hR.below HB1.out)
  have Hm := Lib.hid hm
  clear hw1' hs1 hs2 hR hm ok hgx hsz
  go_enter Try.func6, Try.ntmps6
  go_upto_region 2 with fail
  rw [← HW.out, ← HG.out]
  have p0 : ∀ W, Below w1.heap.size w1 W → W.cell? ⟨gx, 0, none⟩ = some (.int .i64 wa) := fun W h => (HS2.out.below h).cell 0
  have p1 : ∀ W, Below w1.heap.size w1 W → W.cell? ⟨gx, 1, none⟩ = some (.int .i64 wb) := fun W h => (HS2.out.below h).cell 1
  have r0 : ∀ W, Below w1.heap.size w1 W → W.cell? ⟨w.heap.size, 0, none⟩ = some (.bool out) := fun W h => (HS.out.below h).cell 0
  have r1 : ∀ W, Below w1.heap.size w1 W → W.cell? ⟨w.heap.size, 1, none⟩ = some (.int .i64 what) := fun W h => (HS.out.below h).cell 1
  have r2 : ∀ W, Below w1.heap.size w1 W → W.cell? ⟨w.heap.size, 2, none⟩ = some (.int .i64 who) := fun W h => (HS.out.below h).cell 2
  have r3 : ∀ W, Below w1.heap.size w1 W → W.cell? ⟨w.heap.size, 3, none⟩ = some (.int .i64 port) := fun W h => (HS.out.below h).cell 3
  have r4 : ∀ W, Below w1.heap.size w1 W → W.cell? ⟨w.heap.size, 4, none⟩ = some (.int .i64 fl) := fun W h => (HS.out.below h).cell 4
  have r5 : ∀ W, Below w1.heap.size w1 W → W.cell? ⟨w.heap.size, 5, none⟩ = some (.slice A n c) := fun W h => (HS.out.below h).cell 5
  have r6 : ∀ W, Below w1.heap.size w1 W → W.cell? ⟨w.heap.size, 6, none⟩ = some (.int .i64 bend) := fun W h => (HS.out.below h).cell 6
  have r7 : ∀ W, Below w1.heap.size w1 W → W.cell? ⟨w.heap.size, 7, none⟩ = some (.int .u8 byv) := fun W h => (HS.out.below h).cell 7
  have r8 : ∀ W, Below w1.heap.size w1 W → W.cell? ⟨w.heap.size, 8, none⟩ = some (.int .i64 tick) := fun W h => (HS.out.below h).cell 8
  go_loopw [7] (fun s7 wt => ∃ i : Nat, s7 = .int .i64 i ∧ i ≤ 4 ∧ Below w1.heap.size w1 wt) (fun i _ => 4 - (intOf i).toNat)
  case atStart => exact ⟨0, rfl, by omega, Below.refl _ _⟩
  case round =>
    obtain ⟨i, rfl, hi, hb⟩ := hrel
    have S0 := hb
    clear hb
    by_cases hlt : i < 4
    · have di1 : decide ((i : Int) < 4) = true := decide_eq_true (by omega)
      obtain ⟨bi, hbi⟩ : ∃ b, decide ((1 : Int) < (i : Int)) = b := ⟨_, rfl⟩
      go_upto_if 22 with (go_at_call 17; refine (HFr.out _ (bthen HB1.out S0)).mono ?_; rintro e W2 ⟨g2, m2, c2, L2, rfl, h20, h120, ho2, hy2⟩)
      have S2 := bthen S0 hy2
      have HO2 := Lib.hid ho2
      have hc2 := ho2.cap
      have hn2 := ho2.len
      clear ho2 hy2
      go_cut [8] (fun s8 wx => ∃ (X : Option Addr) (nx cx : Nat) (xs : List Int), s8 = .slice X nx cx ∧ xs.length = nx ∧ nx ≤ cx ∧ nx ≤ 120 ∧ Rd wx X xs ∧ Below w1.heap.size w1 wx)
      case first =>
        cases bi with
        | true =>
          have hRw := Lib.hid (HRw.out.below S2)
          by_cases h100 : m ≤ 100
          · have i1 : (m : Int) ≤ 100 := by omega
            have i2 : (m : Int) ≤ (mc : Int) := by omega
            go_wp2
            go_meet
            exact ⟨_, _, _, raw, rfl, Hm.out, hmc, by omega, hRw.out, S2⟩
          · have i1 : (100 : Int) < (m : Int) := by omega
            have i2 : (100 : Int) ≤ (mc : Int) := by omega
            have i3 : 100 ≤ mc := by omega
            go_wp2
            go_meet
            exact ⟨_, _, _, raw.take 100, rfl, by rw [List.length_take, Hm.out]; omega, i3, by omega, hRw.out.take 100, S2⟩
        | false =>
          go_wp2
          go_meet
          exact ⟨_, _, _, L2, rfl, hn2, hc2, h120, HO2.out.rd, S2⟩
      case rest =>
        clear S2 hc2 hn2 h20 h120 HO2 S0 hbi
        obtain ⟨X, nx, cx, xs, rfl, hxl, hcx, hnx, hR, S2⟩ := hcut
        have HXL := Lib.hid hxl
        have HXR := Lib.hid hR
        have hxb := hR.1
        have hcv : ∀ W, Below wc.heap.size wc W → (convert 27 9 (.slice X nx cx)).run Try.prog W = .ok (.string (strOfNums xs)) W := fun W h => run_str W X nx cx xs HXL.out (HXR.out.below h)
        generalize strOfNums xs = us at *
        have S3 : Below wc.heap.size wc wc := Below.refl _ _
        have hcv0 := hcv wc S3
        have HCV := Lib.hid hcv
        obtain ⟨r, hr⟩ : ∃ r : Int, (i : Int).tmod 2 = r := ⟨_, rfl⟩
        obtain ⟨pb, hpb⟩ : ∃ b : Bool, (r == 0) = b := ⟨_, rfl⟩
        have HFa := Lib.hid (show ∀ W, Below wc.heap.size wc W → Calls Try.prog 27 #[.bool pb, .slice X nx cx] W fun e w' => e = .returned (.tuple #[(farF pb xs).val, .int .i64 (farE xs)]) ∧ Below W.heap.size W w' from fun W h => far_any pb X nx cx xs W HXL.out hcx (by omega) (HXR.out.below h))
        have HRa := Lib.hid (show ∀ W, Below wc.heap.size wc W → Calls Try.prog 28 #[.bool pb, .slice X nx cx] W fun e w' => e = .returned (.tuple #[(farF pb xs).val, .int .i64 (farE xs)]) ∧ Below W.heap.size W w' from fun W h => rfar_any pb X nx cx xs W HXL.out hcx (by omega) (HXR.out.below h))
        have hok := farF_ok pb xs hxb
        have HWk := Lib.hid (show ∀ W, Below wc.heap.size wc W → Calls Try.prog 30 #[.int .i64 wa, .bool pb, .slice X nx cx] W fun e w' => e = .returned (.int .i64 (wkF wa pb xs)) ∧ Below W.heap.size W w' from fun W h => worker_any wa ha0 ha1 pb X nx cx xs W HXL.out hcx (by omega) (HXR.out.below h) hok)
        have HRk := Lib.hid (show ∀ W, Below wc.heap.size wc W → Calls Try.prog 31 #[.int .i64 wa, .bool pb, .slice X nx cx] W fun e w' => e = .returned (.int .i64 (wkF wa pb xs)) ∧ Below W.heap.size W w' from fun W h => rworker_any wa ha0 ha1 pb X nx cx xs W HXL.out hcx (by omega) (HXR.out.below h) hok)
        generalize farF pb xs = fo at HFa HRa
        generalize farE xs = er at HFa HRa
        generalize wkF wa pb xs = wk at HWk HRk
        obtain ⟨a0, a1, a2⟩ := fo
        rw [show (Fo.mk a0 a1 a2).val = .agg #[.int .i64 a0, .int .u32 a1, .int .u16 a2] from rfl] at HFa HRa
        clear hok hxb hcv hR hxl
        go_upto_region 10 with (first
          | (go_at_call 27; refine (HFa.out _ S3).mono ?_; rintro e W3 ⟨rfl, hy3⟩)
          | (go_at_call 28; refine (HRa.out _ (bthen hy3 (ball W3 _))).mono ?_; rintro e W4 ⟨rfl, hy4⟩)
          | fail)
        have hbA : Blk (W4.alloc (.cells #[.int .i64 a0, .int .u32 a1, .int .u16 a2] 70)) W3.heap.size 67 #[.int .i64 a0, .int .u32 a1, .int .u16 a2] := ((Blk.new W3 67 #[.int .i64 a0, .int .u32 a1, .int .u16 a2]).below hy4).alloc _
        have hbB := Blk.new W4 70 #[.int .i64 a0, .int .u32 a1, .int .u16 a2]
        have S5 : Below wc.heap.size wc (W4.alloc (.cells #[.int .i64 a0, .int .u32 a1, .int .u16 a2] 70)) := bthen (bthen (bthen hy3 (ball W3 _)) hy4) (ball W4 _)
        obtain ⟨w5, hw5⟩ : ∃ w5, w5 = W4.alloc (.cells #[.int .i64 a0, .int .u32 a1, .int .u16 a2] 70) := ⟨_, rfl⟩
        rw [← hw5] at hbA hbB S5
        rw [← hw5]
        clear hw5 hy3 hy4
        generalize W3.heap.size = ga at *
        generalize W4.heap.size = gb at *
        have S6 := bthen S2 S5
        have HA5 := Lib.hid hbA
        have HB5 := Lib.hid hbB
        have HS5 := Lib.hid S5
        have HS6 := Lib.hid S6
        clear hbA hbB S3 S5 S6
        have S : Below w5.heap.size w5 w5 := Below.refl _ _
        have q0 : ∀ W, Below w5.heap.size w5 W → W.cell? ⟨ga, 0, none⟩ = some (.int .i64 a0) := fun W h => (HA5.out.below h).cell 0
        have q1 : ∀ W, Below w5.heap.size w5 W → W.cell? ⟨ga, 1, none⟩ = some (.int .u32 a1) := fun W h => (HA5.out.below h).cell 1
        have q2 : ∀ W, Below w5.heap.size w5 W → W.cell? ⟨ga, 2, none⟩ = some (.int .u16 a2) := fun W h => (HA5.out.below h).cell 2
        have q3 : ∀ W, Below w5.heap.size w5 W → W.cell? ⟨gb, 0, none⟩ = some (.int .i64 a0) := fun W h => (HB5.out.below h).cell 0
        have q4 : ∀ W, Below w5.heap.size w5 W → W.cell? ⟨gb, 1, none⟩ = some (.int .u32 a1) := fun W h => (HB5.out.below h).cell 1
        have q5 : ∀ W, Below w5.heap.size w5 W → W.cell? ⟨gb, 2, none⟩ = some (.int .u16 a2) := fun W h => (HB5.out.below h).cell 2
        have q6 : ∀ W, Below w5.heap.size w5 W → W.cell? ⟨gx, 0, none⟩ = some (.int .i64 wa) := fun W h => (HS2.out.below (bthen HS6.out h)).cell 0
        have hcv : ∀ W, Below w5.heap.size w5 W → (convert 27 9 (.slice X nx cx)).run Try.prog W = .ok (.string us) W := fun W h => HCV.out W (bthen HS5.out h)
        have hnf := neq_flow a0 a1 a2
        have hee : (er != er) = false := by simp
        have hkk : (wk != wk) = false := by simp
        have huu : (us.toList == us.toList) = true := by simp
        have hid : (i : Int) % 2 = r := by rw [← hr, Int.tmod_eq_emod_of_nonneg (by omega)]
        go_region_held3 (fun W => Below w5.heap.size w5 W)
          (first | (with_reducible exact Below.drew S) | (with_reducible exact bthen (by assumption) (by assumption)) | (with_reducible assumption))
          (first
            | (go_at_call 29; refine (fromKey_any a0 a1 a2 _).mono ?_; rintro e W6 ⟨rfl, hy6⟩)
            | (go_at_call 30; refine (HWk.out _ (bthen HS5.out (by assumption))).mono ?_; rintro e W7 ⟨rfl, hy7⟩)
            | (go_at_call 31; refine (HRk.out _ (bthen HS5.out (by assumption))).mono ?_; rintro e W8 ⟨rfl, hy8⟩))
        all_goals
          have HF := bthen HS6.out (by assumption)
          go_wp2
          go_roundw
          case rel => exact ⟨i + 1, by go_num, by omega, HF⟩
          case measure => simp [intOf]; omega
    · obtain rfl : i = 4 := by omega
      have k0 := p0 _ S0
      have k1 := p1 _ S0
      obtain ⟨x1, hx1⟩ : ∃ y : Int, IntKind.u32.wrap wa = y := ⟨_, rfl⟩
      obtain ⟨x2, hx2⟩ : ∃ y : Int, IntKind.u16.wrap wb = y := ⟨_, rfl⟩
      have b1 : 0 ≤ x1 ∧ x1 ≤ 4294967295 := by rw [← hx1, IntKind.wrap_u32]; omega
      have b2 : 0 ≤ x2 ∧ x2 ≤ 65535 := by rw [← hx2, IntKind.wrap_u16]; omega
      go_upto_region 13 with fail
      have hbC := Blk.new wr 70 #[.int .i64 wb, .int .u32 x1, .int .u16 x2]
      have S5 := bthen S0 (ball wr (.cells #[.int .i64 wb, .int .u32 x1, .int .u16 x2] 70))
      generalize wr.alloc (.cells #[.int .i64 wb, .int .u32 x1, .int .u16 x2] 70) = w5 at *
      generalize wr.heap.size = gc at *
      have HC5 := Lib.hid hbC
      have HS5 := Lib.hid (bthen HB1.out S5)
      have HH := Lib.hid (fun W => hash_any wb x1 x2 b1.1 b1.2 b2.1 b2.2 W)
      have HRH := Lib.hid (fun W => rhash_any wb x1 x2 b1.1 b1.2 b2.1 b2.2 W)
      generalize hF wb x1 x2 = hv at *
      clear hbC k0 k1 S5 S0
      have S : Below w5.heap.size w5 w5 := Below.refl _ _
      have q0 : ∀ W, Below w5.heap.size w5 W → W.cell? ⟨gc, 0, none⟩ = some (.int .i64 wb) := fun W h => (HC5.out.below h).cell 0
      have q1 : ∀ W, Below w5.heap.size w5 W → W.cell? ⟨gc, 1, none⟩ = some (.int .u32 x1) := fun W h => (HC5.out.below h).cell 1
      have q2 : ∀ W, Below w5.heap.size w5 W → W.cell? ⟨gc, 2, none⟩ = some (.int .u16 x2) := fun W h => (HC5.out.below h).cell 2
      have hvv : (hv == hv) = true := by simp
      go_region_held3 (fun W => Below w5.heap.size w5 W)
        (first | (with_reducible exact Below.drew S) | (with_reducible exact bthen (by assumption) (by assumption)) | (with_reducible assumption))
        (first
          | (go_at_call 32; refine (tells_any _).mono ?_; rintro e W6 ⟨rfl, hy6⟩)
          | (go_at_call 34; refine (key_any wb x1 x2 _).mono ?_; rintro e W7 ⟨rfl, hy7⟩)
          | (go_at_call 33; refine (HH.out _).mono ?_; rintro e W8 ⟨rfl, hy8⟩)
          | (go_at_call 35; refine (HRH.out _).mono ?_; rintro e W9 ⟨rfl, hy9⟩))
      all_goals
        have HF := bthen HS5.out (by assumption)
        go_wp2
        go_ret
        exact ⟨rfl, HF⟩
end Go.Proofs.Ytbnlpidhbilenaa
