/-
  HeadRaw: its walk.
-/
import Derived.Test.YtnaopekljknlaaaHeads
import Derived.Test.YtnaopekljknlaaaRef2
namespace Go.Proofs.Ytnaopekljknlaaa
open Go.RowKit Plain
set_option linter.unusedVariables false

/-- a head's cells -/
def hcs (h : Hd) : Array Value := #[.int .i64 h.size, .int .i64 h.len, .int .i64 h.ttl, .int .i64 h.proto, .int .u32 h.src, .int .u32 h.dst]
/-- four heads that lie there, and what was there -/
structure SH (w0 : World) (p3 p5 p7 p9 : Nat) (a b : Hd) (w : World) : Prop where
  b3 : Blk w p3 51 (hcs a)
  b5 : Blk w p5 47 (hcs a)
  b7 : Blk w p7 51 (hcs b)
  b9 : Blk w p9 47 (hcs b)
  bel : Below w0.heap.size w0 w
theorem SH.below {w0 w w' : World} {p3 p5 p7 p9 : Nat} {a b : Hd} (h : SH w0 p3 p5 p7 p9 a b w) (hb : Below w.heap.size w w') : SH w0 p3 p5 p7 p9 a b w' :=
  ⟨h.b3.below hb, h.b5.below hb, h.b7.below hb, h.b9.below hb, h.bel.trans (hb.mono h.bel.size)⟩
theorem SH.drew {w0 w : World} {p3 p5 p7 p9 : Nat} {a b : Hd} (h : SH w0 p3 p5 p7 p9 a b w) : SH w0 p3 p5 p7 p9 a b w.drew := ⟨h.b3, h.b5, h.b7, h.b9, h.bel.drew⟩

theorem fromA (d0 d1 d2 d3 d4 d5 : Int) (w : World) :
    Calls Try.prog 33 #[.agg #[.int .i64 d0, .int .i64 d1, .int .i64 d2, .int .i64 d3, .int .u32 d4, .int .u32 d5]] w fun e w' => e = .returned (.agg #[.int .i64 d0, .int .i64 d1, .int .i64 d2, .int .i64 d3, .int .u32 d4, .int .u32 d5]) ∧ Below w.heap.size w w' :=
  from_any ⟨d0, d1, d2, d3, d4, d5⟩ w

set_option maxHeartbeats 4000000 in
theorem headRaw_walk (A : Option Addr) (n c : Nat) (zs : List Int) (w : World) (hn : zs.length = n) (hnc : n ≤ c) (hm : c ≤ maxLen) (hR : Rd w A zs) :
    Calls Try.prog 12 #[.slice A n c] w fun e w' => e = .returned (.bool true) ∧ Below w.heap.size w w' := by
  unfold maxLen at hm
  have Hn := Lib.hid hn
  clear hn
  go_enter Try.func12, Try.ntmps12
  go_upto_region 1 with fail
  go_cut [0] (fun s0 wx => ∃ (k : Nat) (ys : List Int), s0 = .slice A k c ∧ ys.length = k ∧ k ≤ 100 ∧ k ≤ c ∧ Rd w A ys ∧ wx = w)
  case first =>
    by_cases h100 : n ≤ 100
    · go_wp2
      go_meet
      exact ⟨n, zs, rfl, Hn.out, h100, hnc, hR, rfl⟩
    · go_wp2
      go_meet
      exact ⟨100, zs.take 100, rfl, by rw [List.length_take, Hn.out]; omega, Nat.le_refl _, by omega, hR.take 100, rfl⟩
  case rest =>
    obtain ⟨k, ys, rfl, hk, hk100, hkc, hW, rfl⟩ := hcut
    have HW := Lib.hid hW
    have Hk := Lib.hid hk
    clear hR hW hk
    obtain ⟨ha, hha⟩ : ∃ h, h = gtH ys := ⟨_, rfl⟩
    obtain ⟨hb, hhb⟩ : ∃ h, h = ptH ys := ⟨_, rfl⟩
    have Hha := Lib.hid hha
    have Hhb := Lib.hid hhb
    clear hha hhb
    obtain ⟨a0, a1, a2, a3, a4, a5⟩ := ha
    obtain ⟨b0, b1, b2, b3, b4, b5⟩ := hb
    go_wp2_with fail
    refine (get_any A k c ys _ Hk.out hkc (by omega) HW.out).mono ?_
    rintro e w1 ⟨rfl, hb1⟩
    rw [← Hha.out, show (Hd.mk a0 a1 a2 a3 a4 a5).val = .agg #[.int .i64 a0, .int .i64 a1, .int .i64 a2, .int .i64 a3, .int .u32 a4, .int .u32 a5] from rfl]
    have Hb1 := Lib.hid hb1
    clear hb1
    go_upto_region 3 with fail
    obtain ⟨w2, hw2⟩ : ∃ w2, w2 = w1.alloc (.cells #[.int .i64 a0, .int .i64 a1, .int .i64 a2, .int .i64 a3, .int .u32 a4, .int .u32 a5] 51) := ⟨_, rfl⟩
    have h3 : Blk w2 w1.heap.size 51 (hcs ⟨a0, a1, a2, a3, a4, a5⟩) := by rw [hw2]; exact Blk.new w1 _ _
    have Hb2 := Lib.hid (show Below wc.heap.size wc w2 by rw [hw2]; exact Hb1.out.alloc Hb1.out.size _)
    have H3 := Lib.hid h3
    rw [← hw2]
    clear hw2 h3
    generalize w1.heap.size = p3 at *
    go_wp2_with fail
    refine (refGet_any A k c ys _ Hk.out hkc (by omega) (HW.out.below Hb2.out)).mono ?_
    rintro e w3 ⟨rfl, hb3⟩
    rw [← Hha.out, show (Hd.mk a0 a1 a2 a3 a4 a5).val = .agg #[.int .i64 a0, .int .i64 a1, .int .i64 a2, .int .i64 a3, .int .u32 a4, .int .u32 a5] from rfl]
    have H3' := Lib.hid (H3.out.below hb3)
    have Hb3 := Lib.hid (Hb2.out.trans (hb3.mono Hb2.out.size))
    clear hb3
    go_upto_region 4 with fail
    obtain ⟨w4, hw4⟩ : ∃ w4, w4 = w3.alloc (.cells #[.int .i64 a0, .int .i64 a1, .int .i64 a2, .int .i64 a3, .int .u32 a4, .int .u32 a5] 47) := ⟨_, rfl⟩
    have h5 : Blk w4 w3.heap.size 47 (hcs ⟨a0, a1, a2, a3, a4, a5⟩) := by rw [hw4]; exact Blk.new w3 _ _
    have H34 := Lib.hid (show Blk w4 p3 51 (hcs ⟨a0, a1, a2, a3, a4, a5⟩) by rw [hw4]; exact H3'.out.alloc _)
    have Hb4 := Lib.hid (show Below wc.heap.size wc w4 by rw [hw4]; exact Hb3.out.alloc Hb3.out.size _)
    have H5 := Lib.hid h5
    rw [← hw4]
    clear hw4 h5
    generalize w3.heap.size = p5 at *
    go_wp2_with fail
    refine (part_any A k c ys _ Hk.out (by omega) (HW.out.below Hb4.out)).mono ?_
    rintro e w5 ⟨rfl, hb5⟩
    rw [← Hhb.out, show (Hd.mk b0 b1 b2 b3 b4 b5).val = .agg #[.int .i64 b0, .int .i64 b1, .int .i64 b2, .int .i64 b3, .int .u32 b4, .int .u32 b5] from rfl]
    have H35 := Lib.hid (H34.out.below hb5)
    have H55 := Lib.hid (H5.out.below hb5)
    have Hb5 := Lib.hid (Hb4.out.trans (hb5.mono Hb4.out.size))
    clear hb5
    go_upto_region 5 with fail
    obtain ⟨w6, hw6⟩ : ∃ w6, w6 = w5.alloc (.cells #[.int .i64 b0, .int .i64 b1, .int .i64 b2, .int .i64 b3, .int .u32 b4, .int .u32 b5] 51) := ⟨_, rfl⟩
    have H7 := Lib.hid (show Blk w6 w5.heap.size 51 (hcs ⟨b0, b1, b2, b3, b4, b5⟩) by rw [hw6]; exact Blk.new w5 _ _)
    have H36 := Lib.hid (show Blk w6 p3 51 (hcs ⟨a0, a1, a2, a3, a4, a5⟩) by rw [hw6]; exact H35.out.alloc _)
    have H56 := Lib.hid (show Blk w6 p5 47 (hcs ⟨a0, a1, a2, a3, a4, a5⟩) by rw [hw6]; exact H55.out.alloc _)
    have Hb6 := Lib.hid (show Below wc.heap.size wc w6 by rw [hw6]; exact Hb5.out.alloc Hb5.out.size _)
    rw [← hw6]
    clear hw6
    generalize w5.heap.size = p7 at *
    go_wp2_with fail
    refine (refPart_any A k c ys _ Hk.out hkc (by omega) (HW.out.below Hb6.out)).mono ?_
    rintro e w7 ⟨rfl, hb7⟩
    rw [← Hhb.out, show (Hd.mk b0 b1 b2 b3 b4 b5).val = .agg #[.int .i64 b0, .int .i64 b1, .int .i64 b2, .int .i64 b3, .int .u32 b4, .int .u32 b5] from rfl]
    have H37 := Lib.hid (H36.out.below hb7)
    have H57 := Lib.hid (H56.out.below hb7)
    have H77 := Lib.hid (H7.out.below hb7)
    have Hb7 := Lib.hid (Hb6.out.trans (hb7.mono Hb6.out.size))
    clear hb7
    go_upto_region 6 with fail
    obtain ⟨w8, hw8⟩ : ∃ w8, w8 = w7.alloc (.cells #[.int .i64 b0, .int .i64 b1, .int .i64 b2, .int .i64 b3, .int .u32 b4, .int .u32 b5] 47) := ⟨_, rfl⟩
    have HS : SH wc p3 p5 p7 w7.heap.size ⟨a0, a1, a2, a3, a4, a5⟩ ⟨b0, b1, b2, b3, b4, b5⟩ w8 := by
      rw [hw8]
      exact ⟨H37.out.alloc _, H57.out.alloc _, H77.out.alloc _, Blk.new w7 _ _, Hb7.out.alloc Hb7.out.size _⟩
    rw [← hw8]
    clear hw8
    generalize w7.heap.size = p9 at *
    generalize gtE ys = ge at *
    generalize ptE ys = pe at *
    have g3 := fun (W : World) (h : SH wc p3 p5 p7 p9 ⟨a0, a1, a2, a3, a4, a5⟩ ⟨b0, b1, b2, b3, b4, b5⟩ W) => h.b3.cell
    have g5 := fun (W : World) (h : SH wc p3 p5 p7 p9 ⟨a0, a1, a2, a3, a4, a5⟩ ⟨b0, b1, b2, b3, b4, b5⟩ W) => h.b5.cell
    have g7 := fun (W : World) (h : SH wc p3 p5 p7 p9 ⟨a0, a1, a2, a3, a4, a5⟩ ⟨b0, b1, b2, b3, b4, b5⟩ W) => h.b7.cell
    have g9 := fun (W : World) (h : SH wc p3 p5 p7 p9 ⟨a0, a1, a2, a3, a4, a5⟩ ⟨b0, b1, b2, b3, b4, b5⟩ W) => h.b9.cell
    have r30 : ∀ W, SH wc p3 p5 p7 p9 ⟨a0, a1, a2, a3, a4, a5⟩ ⟨b0, b1, b2, b3, b4, b5⟩ W → W.cell? ⟨p3, 0, none⟩ = some (.int .i64 a0) := fun W h => g3 W h 0
    have r31 : ∀ W, SH wc p3 p5 p7 p9 ⟨a0, a1, a2, a3, a4, a5⟩ ⟨b0, b1, b2, b3, b4, b5⟩ W → W.cell? ⟨p3, 1, none⟩ = some (.int .i64 a1) := fun W h => g3 W h 1
    have r32 : ∀ W, SH wc p3 p5 p7 p9 ⟨a0, a1, a2, a3, a4, a5⟩ ⟨b0, b1, b2, b3, b4, b5⟩ W → W.cell? ⟨p3, 2, none⟩ = some (.int .i64 a2) := fun W h => g3 W h 2
    have r33 : ∀ W, SH wc p3 p5 p7 p9 ⟨a0, a1, a2, a3, a4, a5⟩ ⟨b0, b1, b2, b3, b4, b5⟩ W → W.cell? ⟨p3, 3, none⟩ = some (.int .i64 a3) := fun W h => g3 W h 3
    have r34 : ∀ W, SH wc p3 p5 p7 p9 ⟨a0, a1, a2, a3, a4, a5⟩ ⟨b0, b1, b2, b3, b4, b5⟩ W → W.cell? ⟨p3, 4, none⟩ = some (.int .u32 a4) := fun W h => g3 W h 4
    have r35 : ∀ W, SH wc p3 p5 p7 p9 ⟨a0, a1, a2, a3, a4, a5⟩ ⟨b0, b1, b2, b3, b4, b5⟩ W → W.cell? ⟨p3, 5, none⟩ = some (.int .u32 a5) := fun W h => g3 W h 5
    have r50 : ∀ W, SH wc p3 p5 p7 p9 ⟨a0, a1, a2, a3, a4, a5⟩ ⟨b0, b1, b2, b3, b4, b5⟩ W → W.cell? ⟨p5, 0, none⟩ = some (.int .i64 a0) := fun W h => g5 W h 0
    have r51 : ∀ W, SH wc p3 p5 p7 p9 ⟨a0, a1, a2, a3, a4, a5⟩ ⟨b0, b1, b2, b3, b4, b5⟩ W → W.cell? ⟨p5, 1, none⟩ = some (.int .i64 a1) := fun W h => g5 W h 1
    have r52 : ∀ W, SH wc p3 p5 p7 p9 ⟨a0, a1, a2, a3, a4, a5⟩ ⟨b0, b1, b2, b3, b4, b5⟩ W → W.cell? ⟨p5, 2, none⟩ = some (.int .i64 a2) := fun W h => g5 W h 2
    have r53 : ∀ W, SH wc p3 p5 p7 p9 ⟨a0, a1, a2, a3, a4, a5⟩ ⟨b0, b1, b2, b3, b4, b5⟩ W → W.cell? ⟨p5, 3, none⟩ = some (.int .i64 a3) := fun W h => g5 W h 3
    have r54 : ∀ W, SH wc p3 p5 p7 p9 ⟨a0, a1, a2, a3, a4, a5⟩ ⟨b0, b1, b2, b3, b4, b5⟩ W → W.cell? ⟨p5, 4, none⟩ = some (.int .u32 a4) := fun W h => g5 W h 4
    have r55 : ∀ W, SH wc p3 p5 p7 p9 ⟨a0, a1, a2, a3, a4, a5⟩ ⟨b0, b1, b2, b3, b4, b5⟩ W → W.cell? ⟨p5, 5, none⟩ = some (.int .u32 a5) := fun W h => g5 W h 5
    have r70 : ∀ W, SH wc p3 p5 p7 p9 ⟨a0, a1, a2, a3, a4, a5⟩ ⟨b0, b1, b2, b3, b4, b5⟩ W → W.cell? ⟨p7, 0, none⟩ = some (.int .i64 b0) := fun W h => g7 W h 0
    have r71 : ∀ W, SH wc p3 p5 p7 p9 ⟨a0, a1, a2, a3, a4, a5⟩ ⟨b0, b1, b2, b3, b4, b5⟩ W → W.cell? ⟨p7, 1, none⟩ = some (.int .i64 b1) := fun W h => g7 W h 1
    have r72 : ∀ W, SH wc p3 p5 p7 p9 ⟨a0, a1, a2, a3, a4, a5⟩ ⟨b0, b1, b2, b3, b4, b5⟩ W → W.cell? ⟨p7, 2, none⟩ = some (.int .i64 b2) := fun W h => g7 W h 2
    have r73 : ∀ W, SH wc p3 p5 p7 p9 ⟨a0, a1, a2, a3, a4, a5⟩ ⟨b0, b1, b2, b3, b4, b5⟩ W → W.cell? ⟨p7, 3, none⟩ = some (.int .i64 b3) := fun W h => g7 W h 3
    have r74 : ∀ W, SH wc p3 p5 p7 p9 ⟨a0, a1, a2, a3, a4, a5⟩ ⟨b0, b1, b2, b3, b4, b5⟩ W → W.cell? ⟨p7, 4, none⟩ = some (.int .u32 b4) := fun W h => g7 W h 4
    have r75 : ∀ W, SH wc p3 p5 p7 p9 ⟨a0, a1, a2, a3, a4, a5⟩ ⟨b0, b1, b2, b3, b4, b5⟩ W → W.cell? ⟨p7, 5, none⟩ = some (.int .u32 b5) := fun W h => g7 W h 5
    have r90 : ∀ W, SH wc p3 p5 p7 p9 ⟨a0, a1, a2, a3, a4, a5⟩ ⟨b0, b1, b2, b3, b4, b5⟩ W → W.cell? ⟨p9, 0, none⟩ = some (.int .i64 b0) := fun W h => g9 W h 0
    have r91 : ∀ W, SH wc p3 p5 p7 p9 ⟨a0, a1, a2, a3, a4, a5⟩ ⟨b0, b1, b2, b3, b4, b5⟩ W → W.cell? ⟨p9, 1, none⟩ = some (.int .i64 b1) := fun W h => g9 W h 1
    have r92 : ∀ W, SH wc p3 p5 p7 p9 ⟨a0, a1, a2, a3, a4, a5⟩ ⟨b0, b1, b2, b3, b4, b5⟩ W → W.cell? ⟨p9, 2, none⟩ = some (.int .i64 b2) := fun W h => g9 W h 2
    have r93 : ∀ W, SH wc p3 p5 p7 p9 ⟨a0, a1, a2, a3, a4, a5⟩ ⟨b0, b1, b2, b3, b4, b5⟩ W → W.cell? ⟨p9, 3, none⟩ = some (.int .i64 b3) := fun W h => g9 W h 3
    have r94 : ∀ W, SH wc p3 p5 p7 p9 ⟨a0, a1, a2, a3, a4, a5⟩ ⟨b0, b1, b2, b3, b4, b5⟩ W → W.cell? ⟨p9, 4, none⟩ = some (.int .u32 b4) := fun W h => g9 W h 4
    have r95 : ∀ W, SH wc p3 p5 p7 p9 ⟨a0, a1, a2, a3, a4, a5⟩ ⟨b0, b1, b2, b3, b4, b5⟩ W → W.cell? ⟨p9, 5, none⟩ = some (.int .u32 b5) := fun W h => g9 W h 5
    clear g3 g5 g7 g9
    have t1 : (ge == ge) = true := by simp
    have t2 : (pe == pe) = true := by simp
    go_region_held3 (fun w' => SH wc p3 p5 p7 p9 ⟨a0, a1, a2, a3, a4, a5⟩ ⟨b0, b1, b2, b3, b4, b5⟩ w')
      (first | (with_reducible exact HS.drew) | (with_reducible exact SH.below (by assumption) (by assumption)))
      (first
        | (go_at_call 28; refine (heads_any _).mono ?_; rintro e w' ⟨rfl, hbh⟩)
        | (go_at_call 33; (with_reducible refine (fromA a0 a1 a2 a3 a4 a5 _).mono ?_); rintro e w' ⟨rfl, hbh⟩)
        | (go_at_call 33; (with_reducible refine (fromA b0 b1 b2 b3 b4 b5 _).mono ?_); rintro e w' ⟨rfl, hbh⟩))
    go_wp2
    go_ret
    exact ⟨rfl, SH.bel (by assumption)⟩
end Go.Proofs.Ytnaopekljknlaaa
