/-
  PartRaw: its walk.
-/
import Derived.Test.YtdlamafmljopiaaRGet
import Derived.Test.YtdlamafmljopiaaPFrom
import Derived.Test.YtdlamafmljopiaaParts
import Derived.Test.YtdlamafmljopiaaOpenH
namespace Go.Proofs.Ytdlamafmljopiaa
open Go.RowKit Plain
set_option linter.unusedVariables false
set_option linter.unusedSimpArgs false
set_option maxRecDepth 100000

/-- two parts that lie there, and what was there -/
structure SP (w0 : World) (p5 p7 : Nat) (cs : Array Value) (w : World) : Prop where
  b5 : Blk w p5 38 cs
  b7 : Blk w p7 43 cs
  bel : Below w0.heap.size w0 w
theorem SP.below {w0 w w' : World} {p5 p7 : Nat} {cs : Array Value} (h : SP w0 p5 p7 cs w) (hb : Below w.heap.size w w') : SP w0 p5 p7 cs w' := ⟨h.b5.below hb, h.b7.below hb, bthen h.bel hb⟩
theorem SP.drew {w0 w : World} {p5 p7 : Nat} {cs : Array Value} (h : SP w0 p5 p7 cs w) : SP w0 p5 p7 cs w.drew := ⟨h.b5, h.b7, h.bel.drew⟩
theorem SP.redrewN {w0 w : World} {p5 p7 a : Nat} {cs : Array Value} (h : SP w0 p5 p7 cs (w.drewN a)) (b : Nat) : SP w0 p5 p7 cs (w.drewN b) := ⟨h.b5, h.b7, ⟨h.bel.os, h.bel.tape, h.bel.output, h.bel.size, h.bel.block⟩⟩

set_option maxHeartbeats 8000000 in
theorem partRaw_walk (h : Hd) (A : Option Addr) (n c : Nat) (zs : List Int) (w : World) (hok : Hok h) (hn : zs.length = n) (hnc : n ≤ c) (hm : c ≤ maxLen) (hR : Rd w A zs) :
    Calls Try.prog 5 #[h.val, .slice A n c] w fun e w' => e = .returned (.bool true) ∧ Below w.heap.size w w' := by
  unfold maxLen at hm
  obtain ⟨d0, d1, d2, d3, d4, d5⟩ := h
  rw [show (Hd.mk d0 d1 d2 d3 d4 d5).val = .agg #[.int .i64 d0, .int .i64 d1, .int .i64 d2, .int .i64 d3, .int .u32 d4, .int .u32 d5] from rfl]
  have Hn := Lib.hid hn
  have HR := Lib.hid hR
  have HOK := Lib.hid hok
  clear hn hR hok
  go_enter Try.func5, Try.ntmps5
  go_upto_region 1 with fail
  have HH := Lib.hid (Blk.new w 41 #[.int .i64 d0, .int .i64 d1, .int .i64 d2, .int .i64 d3, .int .u32 d4, .int .u32 d5])
  have HB0 := Lib.hid (ball w (.cells #[.int .i64 d0, .int .i64 d1, .int .i64 d2, .int .i64 d3, .int .u32 d4, .int .u32 d5] 41))
  generalize w.alloc (.cells #[.int .i64 d0, .int .i64 d1, .int .i64 d2, .int .i64 d3, .int .u32 d4, .int .u32 d5] 41) = w0 at *
  obtain ⟨gh, hgh⟩ : ∃ g, g = w.heap.size := ⟨_, rfl⟩
  rw [← hgh] at HH
  rw [← hgh]
  clear hgh
  go_cut [1] (fun s1 wx => ∃ (k : Nat) (ys : List Int), s1 = .slice A k c ∧ ys.length = k ∧ k ≤ 150 ∧ k ≤ c ∧ Rd w A ys ∧ w0 = wx)
  case first =>
    by_cases h100 : n ≤ 150
    · go_wp2
      go_meet
      exact ⟨n, zs, rfl, Hn.out, h100, hnc, HR.out, rfl⟩
    · go_wp2
      go_meet
      exact ⟨150, zs.take 150, rfl, by rw [List.length_take, Hn.out]; omega, Nat.le_refl _, by omega, HR.out.take 150, rfl⟩
  case rest =>
    obtain ⟨k, ys, rfl, hk, hk150, hkc, hW, rfl⟩ := hcut
    have HW := Lib.hid hW
    have Hk := Lib.hid hk
    clear hW hk HR Hn
    obtain ⟨e0, e1, e2, e3, e4, e5, e6, e7, e8, e9, e10, e11, e12, e13, e14, hev⟩ := Pt.mk_val (pgP ⟨d0, d1, d2, d3, d4, d5⟩ ys)
    have Hev := Lib.hid hev
    have sd := HOK.out
    clear hev
    have k0 := HH.out.cell 0
    have k1 := HH.out.cell 1
    have k2 := HH.out.cell 2
    have k3 := HH.out.cell 3
    have k4 := HH.out.cell 4
    have k5 := HH.out.cell 5
    simp only [List.getElem?_toArray, List.getElem?_cons_zero, List.getElem?_cons_succ] at k0 k1 k2 k3 k4 k5
    have q1 : 0 ≤ d4 ∧ d4 ≤ 4294967295 ∧ 0 ≤ d5 ∧ d5 ≤ 4294967295 := ⟨sd.s0, sd.s1, sd.d0, sd.d1⟩
    clear sd
    go_wp2_with fail
    refine (pget_any d0 d1 d2 d3 d4 d5 A k c ys _ Hk.out hkc (by omega) (HW.out.below HB0.out) q1.1 q1.2.1 q1.2.2.1 q1.2.2.2).mono ?_
    rintro e w1 ⟨rfl, hb1⟩
    rw [Hev.out]
    have HH1 := Lib.hid (HH.out.below hb1)
    have HB1 := Lib.hid (bthen HB0.out hb1)
    clear hb1 k0 k1 k2 k3 k4 k5 HH HB0
    go_upto_region 3 with fail
    have H5 := Lib.hid (Blk.new w1 38 #[.int .i64 e0, .int .u16 e1, .int .u16 e2, .int .i64 e3, .int .i64 e4, .int .i64 e5, .bool e6, .int .i64 e7, .int .i64 e8, .int .i64 e9, .int .i64 e10, .int .u32 e11, .int .u32 e12, .int .i64 e13, .bool e14])
    have HH2 := Lib.hid (HH1.out.alloc (.cells #[.int .i64 e0, .int .u16 e1, .int .u16 e2, .int .i64 e3, .int .i64 e4, .int .i64 e5, .bool e6, .int .i64 e7, .int .i64 e8, .int .i64 e9, .int .i64 e10, .int .u32 e11, .int .u32 e12, .int .i64 e13, .bool e14] 38))
    have HB2 := Lib.hid (bthen HB1.out (ball w1 (.cells #[.int .i64 e0, .int .u16 e1, .int .u16 e2, .int .i64 e3, .int .i64 e4, .int .i64 e5, .bool e6, .int .i64 e7, .int .i64 e8, .int .i64 e9, .int .i64 e10, .int .u32 e11, .int .u32 e12, .int .i64 e13, .bool e14] 38)))
    generalize w1.alloc (.cells #[.int .i64 e0, .int .u16 e1, .int .u16 e2, .int .i64 e3, .int .i64 e4, .int .i64 e5, .bool e6, .int .i64 e7, .int .i64 e8, .int .i64 e9, .int .i64 e10, .int .u32 e11, .int .u32 e12, .int .i64 e13, .bool e14] 38) = w2 at *
    generalize w1.heap.size = p5 at *
    clear HH1 HB1
    go_wp2_with (first | ((with_reducible refine gd_ld 41 2 ?_); refine wpList_ld rfl 41 (.tmp 2) rfl _ rfl (HH2.out) sRHead ?_) | fail)
    refine (rget_any d0 d1 d2 d3 d4 d5 A k c ys _ Hk.out hkc (by omega) (HW.out.below HB2.out) q1.1 q1.2.1 q1.2.2.1 q1.2.2.2).mono ?_
    rintro e w3 ⟨rfl, hb3⟩
    rw [Hev.out]
    have H53 := Lib.hid (H5.out.below hb3)
    have HB3 := Lib.hid (bthen HB2.out hb3)
    clear hb3 H5 HH2 HB2
    go_upto_region 4 with fail
    have HS : SP w p5 w3.heap.size #[.int .i64 e0, .int .u16 e1, .int .u16 e2, .int .i64 e3, .int .i64 e4, .int .i64 e5, .bool e6, .int .i64 e7, .int .i64 e8, .int .i64 e9, .int .i64 e10, .int .u32 e11, .int .u32 e12, .int .i64 e13, .bool e14] (w3.alloc (.cells #[.int .i64 e0, .int .u16 e1, .int .u16 e2, .int .i64 e3, .int .i64 e4, .int .i64 e5, .bool e6, .int .i64 e7, .int .i64 e8, .int .i64 e9, .int .i64 e10, .int .u32 e11, .int .u32 e12, .int .i64 e13, .bool e14] 43)) := ⟨H53.out.alloc _, Blk.new w3 _ _, bthen HB3.out (ball w3 _)⟩
    generalize w3.alloc (.cells #[.int .i64 e0, .int .u16 e1, .int .u16 e2, .int .i64 e3, .int .i64 e4, .int .i64 e5, .bool e6, .int .i64 e7, .int .i64 e8, .int .i64 e9, .int .i64 e10, .int .u32 e11, .int .u32 e12, .int .i64 e13, .bool e14] 43) = w4 at *
    generalize w3.heap.size = p7 at *
    generalize pgE ⟨d0, d1, d2, d3, d4, d5⟩ ys = pe at *
    clear H53 HB3
    have t1 : (pe == pe) = true := by simp
    have r0 : ∀ W, SP w p5 p7 #[.int .i64 e0, .int .u16 e1, .int .u16 e2, .int .i64 e3, .int .i64 e4, .int .i64 e5, .bool e6, .int .i64 e7, .int .i64 e8, .int .i64 e9, .int .i64 e10, .int .u32 e11, .int .u32 e12, .int .i64 e13, .bool e14] W → W.cell? ⟨p5, 0, none⟩ = some (.int .i64 e0) := fun W h => h.b5.cell 0
    have r1 : ∀ W, SP w p5 p7 #[.int .i64 e0, .int .u16 e1, .int .u16 e2, .int .i64 e3, .int .i64 e4, .int .i64 e5, .bool e6, .int .i64 e7, .int .i64 e8, .int .i64 e9, .int .i64 e10, .int .u32 e11, .int .u32 e12, .int .i64 e13, .bool e14] W → W.cell? ⟨p5, 1, none⟩ = some (.int .u16 e1) := fun W h => h.b5.cell 1
    have r2 : ∀ W, SP w p5 p7 #[.int .i64 e0, .int .u16 e1, .int .u16 e2, .int .i64 e3, .int .i64 e4, .int .i64 e5, .bool e6, .int .i64 e7, .int .i64 e8, .int .i64 e9, .int .i64 e10, .int .u32 e11, .int .u32 e12, .int .i64 e13, .bool e14] W → W.cell? ⟨p5, 2, none⟩ = some (.int .u16 e2) := fun W h => h.b5.cell 2
    have r3 : ∀ W, SP w p5 p7 #[.int .i64 e0, .int .u16 e1, .int .u16 e2, .int .i64 e3, .int .i64 e4, .int .i64 e5, .bool e6, .int .i64 e7, .int .i64 e8, .int .i64 e9, .int .i64 e10, .int .u32 e11, .int .u32 e12, .int .i64 e13, .bool e14] W → W.cell? ⟨p5, 3, none⟩ = some (.int .i64 e3) := fun W h => h.b5.cell 3
    have r4 : ∀ W, SP w p5 p7 #[.int .i64 e0, .int .u16 e1, .int .u16 e2, .int .i64 e3, .int .i64 e4, .int .i64 e5, .bool e6, .int .i64 e7, .int .i64 e8, .int .i64 e9, .int .i64 e10, .int .u32 e11, .int .u32 e12, .int .i64 e13, .bool e14] W → W.cell? ⟨p5, 4, none⟩ = some (.int .i64 e4) := fun W h => h.b5.cell 4
    have r5 : ∀ W, SP w p5 p7 #[.int .i64 e0, .int .u16 e1, .int .u16 e2, .int .i64 e3, .int .i64 e4, .int .i64 e5, .bool e6, .int .i64 e7, .int .i64 e8, .int .i64 e9, .int .i64 e10, .int .u32 e11, .int .u32 e12, .int .i64 e13, .bool e14] W → W.cell? ⟨p5, 5, none⟩ = some (.int .i64 e5) := fun W h => h.b5.cell 5
    have r6 : ∀ W, SP w p5 p7 #[.int .i64 e0, .int .u16 e1, .int .u16 e2, .int .i64 e3, .int .i64 e4, .int .i64 e5, .bool e6, .int .i64 e7, .int .i64 e8, .int .i64 e9, .int .i64 e10, .int .u32 e11, .int .u32 e12, .int .i64 e13, .bool e14] W → W.cell? ⟨p5, 6, none⟩ = some (.bool e6) := fun W h => h.b5.cell 6
    have r7 : ∀ W, SP w p5 p7 #[.int .i64 e0, .int .u16 e1, .int .u16 e2, .int .i64 e3, .int .i64 e4, .int .i64 e5, .bool e6, .int .i64 e7, .int .i64 e8, .int .i64 e9, .int .i64 e10, .int .u32 e11, .int .u32 e12, .int .i64 e13, .bool e14] W → W.cell? ⟨p5, 7, none⟩ = some (.int .i64 e7) := fun W h => h.b5.cell 7
    have r8 : ∀ W, SP w p5 p7 #[.int .i64 e0, .int .u16 e1, .int .u16 e2, .int .i64 e3, .int .i64 e4, .int .i64 e5, .bool e6, .int .i64 e7, .int .i64 e8, .int .i64 e9, .int .i64 e10, .int .u32 e11, .int .u32 e12, .int .i64 e13, .bool e14] W → W.cell? ⟨p5, 8, none⟩ = some (.int .i64 e8) := fun W h => h.b5.cell 8
    have r9 : ∀ W, SP w p5 p7 #[.int .i64 e0, .int .u16 e1, .int .u16 e2, .int .i64 e3, .int .i64 e4, .int .i64 e5, .bool e6, .int .i64 e7, .int .i64 e8, .int .i64 e9, .int .i64 e10, .int .u32 e11, .int .u32 e12, .int .i64 e13, .bool e14] W → W.cell? ⟨p5, 9, none⟩ = some (.int .i64 e9) := fun W h => h.b5.cell 9
    have r10 : ∀ W, SP w p5 p7 #[.int .i64 e0, .int .u16 e1, .int .u16 e2, .int .i64 e3, .int .i64 e4, .int .i64 e5, .bool e6, .int .i64 e7, .int .i64 e8, .int .i64 e9, .int .i64 e10, .int .u32 e11, .int .u32 e12, .int .i64 e13, .bool e14] W → W.cell? ⟨p5, 10, none⟩ = some (.int .i64 e10) := fun W h => h.b5.cell 10
    have r11 : ∀ W, SP w p5 p7 #[.int .i64 e0, .int .u16 e1, .int .u16 e2, .int .i64 e3, .int .i64 e4, .int .i64 e5, .bool e6, .int .i64 e7, .int .i64 e8, .int .i64 e9, .int .i64 e10, .int .u32 e11, .int .u32 e12, .int .i64 e13, .bool e14] W → W.cell? ⟨p5, 11, none⟩ = some (.int .u32 e11) := fun W h => h.b5.cell 11
    have r12 : ∀ W, SP w p5 p7 #[.int .i64 e0, .int .u16 e1, .int .u16 e2, .int .i64 e3, .int .i64 e4, .int .i64 e5, .bool e6, .int .i64 e7, .int .i64 e8, .int .i64 e9, .int .i64 e10, .int .u32 e11, .int .u32 e12, .int .i64 e13, .bool e14] W → W.cell? ⟨p5, 12, none⟩ = some (.int .u32 e12) := fun W h => h.b5.cell 12
    have r13 : ∀ W, SP w p5 p7 #[.int .i64 e0, .int .u16 e1, .int .u16 e2, .int .i64 e3, .int .i64 e4, .int .i64 e5, .bool e6, .int .i64 e7, .int .i64 e8, .int .i64 e9, .int .i64 e10, .int .u32 e11, .int .u32 e12, .int .i64 e13, .bool e14] W → W.cell? ⟨p5, 13, none⟩ = some (.int .i64 e13) := fun W h => h.b5.cell 13
    have r14 : ∀ W, SP w p5 p7 #[.int .i64 e0, .int .u16 e1, .int .u16 e2, .int .i64 e3, .int .i64 e4, .int .i64 e5, .bool e6, .int .i64 e7, .int .i64 e8, .int .i64 e9, .int .i64 e10, .int .u32 e11, .int .u32 e12, .int .i64 e13, .bool e14] W → W.cell? ⟨p5, 14, none⟩ = some (.bool e14) := fun W h => h.b5.cell 14
    have s0 : ∀ W, SP w p5 p7 #[.int .i64 e0, .int .u16 e1, .int .u16 e2, .int .i64 e3, .int .i64 e4, .int .i64 e5, .bool e6, .int .i64 e7, .int .i64 e8, .int .i64 e9, .int .i64 e10, .int .u32 e11, .int .u32 e12, .int .i64 e13, .bool e14] W → W.cell? ⟨p7, 0, none⟩ = some (.int .i64 e0) := fun W h => h.b7.cell 0
    have s1 : ∀ W, SP w p5 p7 #[.int .i64 e0, .int .u16 e1, .int .u16 e2, .int .i64 e3, .int .i64 e4, .int .i64 e5, .bool e6, .int .i64 e7, .int .i64 e8, .int .i64 e9, .int .i64 e10, .int .u32 e11, .int .u32 e12, .int .i64 e13, .bool e14] W → W.cell? ⟨p7, 1, none⟩ = some (.int .u16 e1) := fun W h => h.b7.cell 1
    have s2 : ∀ W, SP w p5 p7 #[.int .i64 e0, .int .u16 e1, .int .u16 e2, .int .i64 e3, .int .i64 e4, .int .i64 e5, .bool e6, .int .i64 e7, .int .i64 e8, .int .i64 e9, .int .i64 e10, .int .u32 e11, .int .u32 e12, .int .i64 e13, .bool e14] W → W.cell? ⟨p7, 2, none⟩ = some (.int .u16 e2) := fun W h => h.b7.cell 2
    have s3 : ∀ W, SP w p5 p7 #[.int .i64 e0, .int .u16 e1, .int .u16 e2, .int .i64 e3, .int .i64 e4, .int .i64 e5, .bool e6, .int .i64 e7, .int .i64 e8, .int .i64 e9, .int .i64 e10, .int .u32 e11, .int .u32 e12, .int .i64 e13, .bool e14] W → W.cell? ⟨p7, 3, none⟩ = some (.int .i64 e3) := fun W h => h.b7.cell 3
    have s4 : ∀ W, SP w p5 p7 #[.int .i64 e0, .int .u16 e1, .int .u16 e2, .int .i64 e3, .int .i64 e4, .int .i64 e5, .bool e6, .int .i64 e7, .int .i64 e8, .int .i64 e9, .int .i64 e10, .int .u32 e11, .int .u32 e12, .int .i64 e13, .bool e14] W → W.cell? ⟨p7, 4, none⟩ = some (.int .i64 e4) := fun W h => h.b7.cell 4
    have s5 : ∀ W, SP w p5 p7 #[.int .i64 e0, .int .u16 e1, .int .u16 e2, .int .i64 e3, .int .i64 e4, .int .i64 e5, .bool e6, .int .i64 e7, .int .i64 e8, .int .i64 e9, .int .i64 e10, .int .u32 e11, .int .u32 e12, .int .i64 e13, .bool e14] W → W.cell? ⟨p7, 5, none⟩ = some (.int .i64 e5) := fun W h => h.b7.cell 5
    have s6 : ∀ W, SP w p5 p7 #[.int .i64 e0, .int .u16 e1, .int .u16 e2, .int .i64 e3, .int .i64 e4, .int .i64 e5, .bool e6, .int .i64 e7, .int .i64 e8, .int .i64 e9, .int .i64 e10, .int .u32 e11, .int .u32 e12, .int .i64 e13, .bool e14] W → W.cell? ⟨p7, 6, none⟩ = some (.bool e6) := fun W h => h.b7.cell 6
    have s7 : ∀ W, SP w p5 p7 #[.int .i64 e0, .int .u16 e1, .int .u16 e2, .int .i64 e3, .int .i64 e4, .int .i64 e5, .bool e6, .int .i64 e7, .int .i64 e8, .int .i64 e9, .int .i64 e10, .int .u32 e11, .int .u32 e12, .int .i64 e13, .bool e14] W → W.cell? ⟨p7, 7, none⟩ = some (.int .i64 e7) := fun W h => h.b7.cell 7
    have s8 : ∀ W, SP w p5 p7 #[.int .i64 e0, .int .u16 e1, .int .u16 e2, .int .i64 e3, .int .i64 e4, .int .i64 e5, .bool e6, .int .i64 e7, .int .i64 e8, .int .i64 e9, .int .i64 e10, .int .u32 e11, .int .u32 e12, .int .i64 e13, .bool e14] W → W.cell? ⟨p7, 8, none⟩ = some (.int .i64 e8) := fun W h => h.b7.cell 8
    have s9 : ∀ W, SP w p5 p7 #[.int .i64 e0, .int .u16 e1, .int .u16 e2, .int .i64 e3, .int .i64 e4, .int .i64 e5, .bool e6, .int .i64 e7, .int .i64 e8, .int .i64 e9, .int .i64 e10, .int .u32 e11, .int .u32 e12, .int .i64 e13, .bool e14] W → W.cell? ⟨p7, 9, none⟩ = some (.int .i64 e9) := fun W h => h.b7.cell 9
    have s10 : ∀ W, SP w p5 p7 #[.int .i64 e0, .int .u16 e1, .int .u16 e2, .int .i64 e3, .int .i64 e4, .int .i64 e5, .bool e6, .int .i64 e7, .int .i64 e8, .int .i64 e9, .int .i64 e10, .int .u32 e11, .int .u32 e12, .int .i64 e13, .bool e14] W → W.cell? ⟨p7, 10, none⟩ = some (.int .i64 e10) := fun W h => h.b7.cell 10
    have s11 : ∀ W, SP w p5 p7 #[.int .i64 e0, .int .u16 e1, .int .u16 e2, .int .i64 e3, .int .i64 e4, .int .i64 e5, .bool e6, .int .i64 e7, .int .i64 e8, .int .i64 e9, .int .i64 e10, .int .u32 e11, .int .u32 e12, .int .i64 e13, .bool e14] W → W.cell? ⟨p7, 11, none⟩ = some (.int .u32 e11) := fun W h => h.b7.cell 11
    have s12 : ∀ W, SP w p5 p7 #[.int .i64 e0, .int .u16 e1, .int .u16 e2, .int .i64 e3, .int .i64 e4, .int .i64 e5, .bool e6, .int .i64 e7, .int .i64 e8, .int .i64 e9, .int .i64 e10, .int .u32 e11, .int .u32 e12, .int .i64 e13, .bool e14] W → W.cell? ⟨p7, 12, none⟩ = some (.int .u32 e12) := fun W h => h.b7.cell 12
    have s13 : ∀ W, SP w p5 p7 #[.int .i64 e0, .int .u16 e1, .int .u16 e2, .int .i64 e3, .int .i64 e4, .int .i64 e5, .bool e6, .int .i64 e7, .int .i64 e8, .int .i64 e9, .int .i64 e10, .int .u32 e11, .int .u32 e12, .int .i64 e13, .bool e14] W → W.cell? ⟨p7, 13, none⟩ = some (.int .i64 e13) := fun W h => h.b7.cell 13
    have s14 : ∀ W, SP w p5 p7 #[.int .i64 e0, .int .u16 e1, .int .u16 e2, .int .i64 e3, .int .i64 e4, .int .i64 e5, .bool e6, .int .i64 e7, .int .i64 e8, .int .i64 e9, .int .i64 e10, .int .u32 e11, .int .u32 e12, .int .i64 e13, .bool e14] W → W.cell? ⟨p7, 14, none⟩ = some (.bool e14) := fun W h => h.b7.cell 14
    go_region_held3 (fun W => SP w p5 p7 #[.int .i64 e0, .int .u16 e1, .int .u16 e2, .int .i64 e3, .int .i64 e4, .int .i64 e5, .bool e6, .int .i64 e7, .int .i64 e8, .int .i64 e9, .int .i64 e10, .int .u32 e11, .int .u32 e12, .int .i64 e13, .bool e14] W)
      (first | (with_reducible exact HS.drew) | (with_reducible exact SP.below (by assumption) (by assumption)) | (with_reducible exact SP.redrewN (by assumption) _) | (with_reducible assumption))
      (first
        | (go_at_call 27; refine (parts_any _).mono ?_; rintro e w' ⟨rfl, hb⟩)
        | (go_at_call 28; refine (pfrom_any e0 e1 e2 e3 e4 e5 e6 e7 e8 e9 e10 e11 e12 e13 e14 _).mono ?_; rintro e w' ⟨rfl, hb⟩))
    go_wp2
    go_ret
    exact ⟨rfl, SP.bel (by assumption)⟩
end Go.Proofs.Ytdlamafmljopiaa
