/-
  Contract of the reference fanlightref02.Put. Conditions stand in each theorem.
-/
import Derived.Test.YtbnlpidhbilenaaPutY
import Derived.RegionTactic
namespace Go.Proofs.Ytbnlpidhbilenaa
open Go.RowKit Plain
set_option linter.unusedVariables false
set_option maxRecDepth 100000

set_option maxHeartbeats 2000000 in
theorem rput_no (hs hln t p s d : Int) (B : Option Addr) (m bc : Nat) (w : World) (hm : m ≤ 1000000) (hno : ¬ (0 ≤ t ∧ t ≤ 255) ∨ ¬ (0 ≤ p ∧ p ≤ 255) ∨ 1480 < m) :
    Calls Try.prog 37 #[(Hd.mk hs hln t p s d).val, .slice B m bc] w fun e w' => e = .returned (.tuple #[.slice none 0 0, .bool false]) ∧ Below w.heap.size w w' := by
  rw [show (Hd.mk hs hln t p s d).val = .agg #[.int .i64 hs, .int .i64 hln, .int .i64 t, .int .i64 p, .int .u32 s, .int .u32 d] from rfl]
  by_cases a1 : t < 0
  · have x1 : decide (t < 0) = true := by simp [a1]
    clear hno
    go_enter Try.func37, Try.ntmps37
    go_wp2
    go_ret2
    exact ⟨rfl, (Below.refl _ _).alloc (Nat.le_refl _) _⟩
  have x1 : decide (t < 0) = false := by simp; omega
  by_cases a2 : 255 < t
  · have x2 : decide (255 < t) = true := by simp [a2]
    clear hno
    go_enter Try.func37, Try.ntmps37
    go_wp2
    go_ret2
    exact ⟨rfl, (Below.refl _ _).alloc (Nat.le_refl _) _⟩
  have x2 : decide (255 < t) = false := by simp; omega
  by_cases a3 : p < 0
  · have x3 : decide (p < 0) = true := by simp [a3]
    clear hno
    go_enter Try.func37, Try.ntmps37
    go_wp2
    go_ret2
    exact ⟨rfl, (Below.refl _ _).alloc (Nat.le_refl _) _⟩
  have x3 : decide (p < 0) = false := by simp; omega
  by_cases a4 : 255 < p
  · have x4 : decide (255 < p) = true := by simp [a4]
    clear hno
    go_enter Try.func37, Try.ntmps37
    go_wp2
    go_ret2
    exact ⟨rfl, (Below.refl _ _).alloc (Nat.le_refl _) _⟩
  have x4 : decide (255 < p) = false := by simp; omega
  have a5 : (1480 : Int) < (m : Int) := by omega
  have x5 : decide ((1480 : Int) < (m : Int)) = true := by simp; omega
  clear hno
  go_enter Try.func37, Try.ntmps37
  go_wp2
  go_ret2
  exact ⟨rfl, (Below.refl _ _).alloc (Nat.le_refl _) _⟩

set_option maxHeartbeats 4000000 in
theorem rput_yes (hs hln t p s d : Int) (B : Option Addr) (m bc : Nat) (ys : List Int) (w : World) (hm : m ≤ 1480) (hy : ys.length = m) (hR : Rd w B ys) (t0 : 0 ≤ t) (t1 : t ≤ 255) (p0 : 0 ≤ p) (p1 : p ≤ 255) (s0 : 0 ≤ s) (s1 : s ≤ 4294967295) (d0 : 0 ≤ d) (d1 : d ≤ 4294967295) :
    Calls Try.prog 37 #[(Hd.mk hs hln t p s d).val, .slice B m bc] w fun e w' => ∃ g c, e = .returned (.tuple #[.slice (some ⟨g, 0, none⟩) (20 + m) c, .bool true]) ∧ Own w' w.heap.size (some ⟨g, 0, none⟩) (20 + m) c (frm t p s d ys) ∧ Below w.heap.size w w' := by
  rw [show (Hd.mk hs hln t p s d).val = .agg #[.int .i64 hs, .int .i64 hln, .int .i64 t, .int .i64 p, .int .u32 s, .int .u32 d] from rfl]
  have x1 : decide (t < 0) = false := by simp; omega
  have x2 : decide (255 < t) = false := by simp; omega
  have x3 : decide (p < 0) = false := by simp; omega
  have x4 : decide (255 < p) = false := by simp; omega
  have x5 : decide ((1480 : Int) < (m : Int)) = false := by simp; omega
  have i1 : ¬ (1480 : Int) < (m : Int) := by omega
  have HR := Lib.hid hR
  have Hy := Lib.hid hy
  clear hR hy
  go_enter Try.func37, Try.ntmps37
  go_wp2_with fail
  obtain ⟨w2, hw2⟩ : ∃ w2, w2 = (w.alloc (.cells #[.int .i64 hs, .int .i64 hln, .int .i64 t, .int .i64 p, .int .u32 s, .int .u32 d] 84)).alloc (.cells #[.int .u8 69, .int .u8 0, .int .u8 ((20 + (m : Int)) / 256), .int .u8 ((20 + (m : Int)) % 256), .int .u8 0, .int .u8 0, .int .u8 64, .int .u8 0, .int .u8 t, .int .u8 p, .int .u8 0, .int .u8 0, .int .u8 (s / 16777216), .int .u8 (s / 65536 % 256), .int .u8 (s / 256 % 256), .int .u8 (s % 256), .int .u8 (d / 16777216), .int .u8 (d / 65536 % 256), .int .u8 (d / 256 % 256), .int .u8 (d % 256)] 5) := ⟨_, rfl⟩
  have hby0 : By (hb0 t p s d (20 + (m : Int))) := hb0_by t p s d _ t0 t1 p0 p1 s0 s1 d0 d1 (by omega) (by omega)
  have hlist : hb0 t p s d (20 + (m : Int)) = [69, 0, (20 + (m : Int)) / 256, (20 + (m : Int)) % 256, 0, 0, 64, 0, t, p, 0, 0, s / 16777216, s / 65536 % 256, s / 256 % 256, s % 256, d / 16777216, d / 65536 % 256, d / 256 % 256, d % 256] := by
    unfold hb0
    rw [show s / 65536 / 256 = s / 16777216 by omega, show s % 65536 / 256 = s / 256 % 256 by omega, show s % 65536 % 256 = s % 256 by omega, show d / 65536 / 256 = d / 16777216 by omega, show d % 65536 / 256 = d / 256 % 256 by omega, show d % 65536 % 256 = d % 256 by omega]
  have ho2 : Own w2 w.heap.size (some ⟨w.heap.size + 1, 0, none⟩) 20 20 (hb0 t p s d (20 + (m : Int))) := by
    rw [hw2]
    have := Own.lit (base := w.heap.size) (w.alloc (.cells #[.int .i64 hs, .int .i64 hln, .int .i64 t, .int .i64 p, .int .u32 s, .int .u32 d] 84)) (by simp) (hb0 t p s d (20 + (m : Int))) hby0 20 (hb0_len _ _ _ _ _) (by decide) _ rfl
    rw [World.size_alloc] at this
    rw [hlist] at this ⊢
    exact this
  have hb2 : Below w.heap.size w w2 := by rw [hw2]; exact ((Below.refl _ _).alloc (Nat.le_refl _) _).alloc (by simp) _
  have hcs := Cs_range _ hby0
  rw [← hw2]
  have Ho2 := Lib.hid ho2
  have Hb2 := Lib.hid hb2
  clear hw2 ho2 hb2 hlist hby0
  obtain ⟨g, hg⟩ : ∃ g, g = w.heap.size + 1 := ⟨_, rfl⟩
  rw [← hg] at Ho2
  rw [← hg]
  have hg0 : w.heap.size ≤ g := by omega
  clear hg
  refine (refOf_n _ 20 20 (hb0 t p s d (20 + (m : Int))) _ (hb0_len _ _ _ _ _) (by omega) Ho2.out.rd).mono ?_
  rintro e w' ⟨rfl, rfl⟩
  have c10 := Ho2.out.at (k := 10) (by omega)
  have c11 := Ho2.out.at (k := 11) (by omega)
  have f10 := Ho2.out.free 10
  have f11 := Ho2.out.free 11
  obtain ⟨cs, hcseq⟩ : ∃ cs, cs = Cs (hb0 t p s d (20 + (m : Int))) := ⟨_, rfl⟩
  rw [← hcseq]
  rw [← hcseq] at hcs
  have Hcseq := Lib.hid hcseq
  clear hcseq
  go_upto_region 7 with fail
  obtain ⟨w3, hw3⟩ : ∃ w3, w3 = (w2.setCell ⟨g, 10, none⟩ (.int .u8 (cs / 256))).setCell ⟨g, 11, none⟩ (.int .u8 (cs % 256)) := ⟨_, rfl⟩
  have ho3 : Own w3 w.heap.size (some ⟨g, 0, none⟩) 20 20 (hb1 t p s d (20 + (m : Int))) := by
    rw [hw3]; unfold hb1 P16; rw [← Hcseq.out]
    exact (Ho2.out.set 10 (cs / 256) (by omega) (by omega)).set 11 (cs % 256) (by omega) (by omega)
  have hb3 : Below w.heap.size w w3 := by
    rw [hw3]; exact (Hb2.out.setCell (p := ⟨g, 10, none⟩) hg0 _).setCell (p := ⟨g, 11, none⟩) hg0 _
  have Ho3 := Lib.hid ho3
  have Hb3 := Lib.hid hb3
  have hsz3 := hb3.size
  rw [← hw3]
  clear hw3 ho3 hb3 c10 c11 f10 f11 Ho2 Hb2
  go_wp2_with (at_builtin; refine wpList_app rfl (.tmp 88) (.tmp 89) rfl rfl Ho3.out ys rfl (HR.out.below Hb3.out) Hy.out (by omega) hsz3 ?_)
  intro A' c' w4 ho4 hg4 hA
  have hb4 := below_app Hb3.out hg4 Ho3.out (Nat.le_refl _) hsz3
  obtain ⟨g', rfl⟩ : ∃ g', A' = some ⟨g', 0, none⟩ := by rcases hA with h | h <;> exact ⟨_, h⟩
  have HO := Lib.hid (show Own w4 w.heap.size (some ⟨g', 0, none⟩) (20 + m) c' (frm t p s d ys) by unfold frm; rw [Hy.out]; exact ho4)
  have HB := Lib.hid hb4
  clear ho4 hg4 hA hb4
  go_wp2
  go_ret2
  exact ⟨g', c', rfl, HO.out, HB.out⟩
end Go.Proofs.Ytbnlpidhbilenaa
