/-
  Several small texts in one: RPut, RLay, Open, Heads, OpenH, Frm, Sent, OpenS15, HAo. Conditions stand in each theorem.
-/
import Derived.Test.YtbnlpidhbilenaaGK
import Derived.RegionTactic
import Derived.Deep.DeepCutAuto
import Derived.Test.YtbnlpidhbilenaaGA
import Derived.Test.YtbnlpidhbilenaaGI
import Derived.Lib.SmallJoins
import Derived.Deep.Slices
namespace Go.Proofs.Ytbnlpidhbilenaa
open Go.RowKit Plain
set_option linter.unusedVariables false
set_option maxRecDepth 100000

set_option maxHeartbeats 2000000 in
theorem rput_no (hs hln t p s d : Int) (B : Option Addr) (m bc : Nat) (w : World) (hm : m ≤ 1000000) (hno : ¬ (0 ≤ t ∧ t ≤ 255) ∨ ¬ (0 ≤ p ∧ p ≤ 255) ∨ 1480 < m) :
    Calls Try.prog 37 #[(Hd.mk hs hln t p s d).val, .slice B m bc] w fun e w' => e = .returned (.tuple #[.slice none 0 0, .bool false]) ∧ Below w.heap.size w w' := by
  rw [show (Hd.mk hs hln t p s d).val = .agg #[.int .i64 hs, .int .i64 hln, .int .i64 t, .int .i64 p, .int .u32 s, .int .u32 d] from rfl]
  by_cases a1 : t < 0
  · have x1 : decide (t < 0) = true := by simp [a1]
    clear hno
    go_enter Try.func37, Try.ntmps37
    go_wp2
    go_ret2
    exact ⟨rfl, (Below.refl _ _).alloc (Nat.le_refl _) _⟩
  have x1 : decide (t < 0) = false := by simp; omega
  by_cases a2 : 255 < t
  · have x2 : decide (255 < t) = true := by simp [a2]
    clear hno
    go_enter Try.func37, Try.ntmps37
    go_wp2
    go_ret2
    exact ⟨rfl, (Below.refl _ _).alloc (Nat.le_refl _) _⟩
  have x2 : decide (255 < t) = false := by simp; omega
  by_cases a3 : p < 0
  · have x3 : decide (p < 0) = true := by simp [a3]
    clear hno
    go_enter Try.func37, Try.ntmps37
    go_wp2
    go_ret2
    exact ⟨rfl, (Below.refl _ _).alloc (Nat.le_refl _) _⟩
  have x3 : decide (p < 0) = false := by simp; omega
  by_cases a4 : 255 < p
  · have x4 : decide (255 < p) = true := by simp [a4]
    clear hno
    go_enter Try.func37, Try.ntmps37
    go_wp2
    go_ret2
    exact ⟨rfl, (Below.refl _ _).alloc (Nat.le_refl _) _⟩
  have x4 : decide (255 < p) = false := by simp; omega
  have a5 : (1480 : Int) < (m : Int) := by omega
  have x5 : decide ((1480 : Int) < (m : Int)) = true := by simp; omega
  clear hno
  go_enter Try.func37, Try.ntmps37
  go_wp2
  go_ret2
  exact ⟨rfl, (Below.refl _ _).alloc (Nat.le_refl _) _⟩

set_option maxHeartbeats 4000000 in
theorem rput_yes (hs hln t p s d : Int) (B : Option Addr) (m bc : Nat) (ys : List Int) (w : World) (hm : m ≤ 1480) (hy : ys.length = m) (hR : Rd w B ys) (t0 : 0 ≤ t) (t1 : t ≤ 255) (p0 : 0 ≤ p) (p1 : p ≤ 255) (s0 : 0 ≤ s) (s1 : s ≤ 4294967295) (d0 : 0 ≤ d) (d1 : d ≤ 4294967295) :
    Calls Try.prog 37 #[(Hd.mk hs hln t p s d).val, .slice B m bc] w fun e w' => ∃ g c, e = .returned (.tuple #[.slice (some ⟨g, 0, none⟩) (20 + m) c, .bool true]) ∧ Own w' w.heap.size (some ⟨g, 0, none⟩) (20 + m) c (frm t p s d ys) ∧ Below w.heap.size w w' := by
  rw [show (Hd.mk hs hln t p s d).val = .agg #[.int .i64 hs, .int .i64 hln, .int .i64 t, .int .i64 p, .int .u32 s, .int .u32 d] from rfl]
  have x1 : decide (t < 0) = false := by simp; omega
  have x2 : decide (255 < t) = false := by simp; omega
  have x3 : decide (p < 0) = false := by simp; omega
  have x4 : decide (255 < p) = false := by simp; omega
  have x5 : decide ((1480 : Int) < (m : Int)) = false := by simp; omega
  have i1 : ¬ (1480 : Int) < (m : Int) := by omega
  have HR := Lib.hid hR
  have Hy := Lib.hid hy
  clear hR hy
  go_enter Try.func37, Try.ntmps37
  go_wp2_with fail
  obtain ⟨w2, hw2⟩ : ∃ w2, w2 = (w.alloc (.cells #[.int .i64 hs, .int .i64 hln, .int .i64 t, .int .i64 p, .int .u32 s, .int .u32 d] 84)).alloc (.cells #[.int .u8 69, .int .u8 0, .int .u8 ((20 + (m : Int)) / 256), .int .u8 ((20 + (m : Int)) % 256), .int .u8 0, .int .u8 0, .int .u8 64, .int .u8 0, .int .u8 t, .int .u8 p, .int .u8 0, .int .u8 0, .int .u8 (s / 16777216), .int .u8 (s / 65536 % 256), .int .u8 (s / 256 % 256), .int .u8 (s % 256), .int .u8 (d / 16777216), .int .u8 (d / 65536 % 256), .int .u8 (d / 256 % 256), .int .u8 (d % 256)] 5) := ⟨_, rfl⟩
  have hby0 : By (hb0 t p s d (20 + (m : Int))) := hb0_by t p s d _ t0 t1 p0 p1 s0 s1 d0 d1 (by omega) (by omega)
  have hlist : hb0 t p s d (20 + (m : Int)) = [69, 0, (20 + (m : Int)) / 256, (20 + (m : Int)) % 256, 0, 0, 64, 0, t, p, 0, 0, s / 16777216, s / 65536 % 256, s / 256 % 256, s % 256, d / 16777216, d / 65536 % 256, d / 256 % 256, d % 256] := by
    unfold hb0
    rw [show s / 65536 / 256 = s / 16777216 by omega, show s % 65536 / 256 = s / 256 % 256 by omega, show s % 65536 % 256 = s % 256 by omega, show d / 65536 / 256 = d / 16777216 by omega, show d % 65536 / 256 = d / 256 % 256 by omega, show d % 65536 % 256 = d % 256 by omega]
  have ho2 : Own w2 w.heap.size (some ⟨w.heap.size + 1, 0, none⟩) 20 20 (hb0 t p s d (20 + (m : Int))) := by
    rw [hw2]
    have := Own.lit (base := w.heap.size) (w.alloc (.cells #[.int .i64 hs, .int .i64 hln, .int .i64 t, .int .i64 p, .int .u32 s, .int .u32 d] 84)) (by simp) (hb0 t p s d (20 + (m : Int))) hby0 20 (hb0_len _ _ _ _ _) (by decide) _ rfl
    rw [World.size_alloc] at this
    rw [hlist] at this ⊢
    exact this
  have hb2 : Below w.heap.size w w2 := by rw [hw2]; exact ((Below.refl _ _).alloc (Nat.le_refl _) _).alloc (by simp) _
  have hcs := Cs_range _ hby0
  rw [← hw2]
  have Ho2 := Lib.hid ho2
  have Hb2 := Lib.hid hb2
  clear hw2 ho2 hb2 hlist hby0
  obtain ⟨g, hg⟩ : ∃ g, g = w.heap.size + 1 := ⟨_, rfl⟩
  rw [← hg] at Ho2
  rw [← hg]
  have hg0 : w.heap.size ≤ g := by omega
  clear hg
  refine (refOf_n _ 20 20 (hb0 t p s d (20 + (m : Int))) _ (hb0_len _ _ _ _ _) (by omega) Ho2.out.rd).mono ?_
  rintro e w' ⟨rfl, rfl⟩
  have c10 := Ho2.out.at (k := 10) (by omega)
  have c11 := Ho2.out.at (k := 11) (by omega)
  have f10 := Ho2.out.free 10
  have f11 := Ho2.out.free 11
  obtain ⟨cs, hcseq⟩ : ∃ cs, cs = Cs (hb0 t p s d (20 + (m : Int))) := ⟨_, rfl⟩
  rw [← hcseq]
  rw [← hcseq] at hcs
  have Hcseq := Lib.hid hcseq
  clear hcseq
  go_upto_region 7 with fail
  obtain ⟨w3, hw3⟩ : ∃ w3, w3 = (w2.setCell ⟨g, 10, none⟩ (.int .u8 (cs / 256))).setCell ⟨g, 11, none⟩ (.int .u8 (cs % 256)) := ⟨_, rfl⟩
  have ho3 : Own w3 w.heap.size (some ⟨g, 0, none⟩) 20 20 (hb1 t p s d (20 + (m : Int))) := by
    rw [hw3]; unfold hb1 P16; rw [← Hcseq.out]
    exact (Ho2.out.set 10 (cs / 256) (by omega) (by omega)).set 11 (cs % 256) (by omega) (by omega)
  have hb3 : Below w.heap.size w w3 := by
    rw [hw3]; exact (Hb2.out.setCell (p := ⟨g, 10, none⟩) hg0 _).setCell (p := ⟨g, 11, none⟩) hg0 _
  have Ho3 := Lib.hid ho3
  have Hb3 := Lib.hid hb3
  have hsz3 := hb3.size
  rw [← hw3]
  clear hw3 ho3 hb3 c10 c11 f10 f11 Ho2 Hb2
  go_wp2_with (at_builtin; refine wpList_app rfl (.tmp 88) (.tmp 89) rfl rfl Ho3.out ys rfl (HR.out.below Hb3.out) Hy.out (by omega) hsz3 ?_)
  intro A' c' w4 ho4 hg4 hA
  have hb4 := below_app Hb3.out hg4 Ho3.out (Nat.le_refl _) hsz3
  obtain ⟨g', rfl⟩ : ∃ g', A' = some ⟨g', 0, none⟩ := by rcases hA with h | h <;> exact ⟨_, h⟩
  have HO := Lib.hid (show Own w4 w.heap.size (some ⟨g', 0, none⟩) (20 + m) c' (frm t p s d ys) by unfold frm; rw [Hy.out]; exact ho4)
  have HB := Lib.hid hb4
  clear ho4 hg4 hA hb4
  go_wp2
  go_ret2
  exact ⟨g', c', rfl, HO.out, HB.out⟩
end Go.Proofs.Ytbnlpidhbilenaa

namespace Go.Proofs.Ytbnlpidhbilenaa
open Go.RowKit Plain
set_option linter.unusedVariables false
set_option linter.unusedSimpArgs false
set_option maxRecDepth 100000

theorem few_any (A : Option Addr) (n c : Nat) (w : World) (hnc : n ≤ c) (hl : n ≤ 1000000) :
    Calls Try.prog 56 #[.slice A n c] w fun e w' => ∃ u, e = .returned (.slice A u c) ∧ u = min n 1400 ∧ w = w' := by
  by_cases h : n ≤ 1400
  · have h' : (n : Int) ≤ 1400 := by omega
    have i1 : (n : Int) ≤ (c : Int) := by omega
    go_enter Try.func56, Try.ntmps56
    go_wp2
    go_ret
    exact ⟨n, rfl, by omega, rfl⟩
  · have h' : (1400 : Int) < (n : Int) := by omega
    have i1 : (1400 : Int) ≤ (c : Int) := by omega
    have i2 : 1400 ≤ c := by omega
    go_enter Try.func56, Try.ntmps56
    go_wp2
    go_ret
    exact ⟨1400, rfl, by omega, rfl⟩

theorem own_some {w : World} {base n c : Nat} {A : Option Addr} {zs : List Int} (h : Own w base A n c zs) (hn : 0 < n) : ∃ g, A = some ⟨g, 0, none⟩ ∧ base ≤ g := by
  rcases h.form with ⟨_, h0, _⟩ | ⟨g, h1, h2, _⟩
  · omega
  · exact ⟨g, h1, h2⟩

theorem ic0_lit (k c id : Int) : ic0 k c id [] = [k, c, 0, 0, id / 256 % 256, id % 256, 0, 0] := rfl
theorem ic0_app (k c id : Int) (L : List Int) : [k, c, 0, 0, id / 256 % 256, id % 256, 0, 0] ++ L = ic0 k c id L := by unfold ic0 w2l; simp

set_option maxHeartbeats 2000000 in
theorem rfault_any (k c : Int) (A : Option Addr) (n cp : Nat) (ys : List Int) (w : World) (hn : ys.length = n) (hnc : n ≤ cp) (hl : n ≤ 1000000) (hR : Rd w A ys) :
    Calls Try.prog 38 #[.int .i64 k, .int .i64 c, .slice A n cp] w fun e w' => ∃ g m cc, e = .returned (.slice (some ⟨g, 0, none⟩) (8 + m) cc) ∧ m = min n 1400 ∧ Own w' w.heap.size (some ⟨g, 0, none⟩) (8 + m) cc (icL (k % 256) (c % 256) 0 (ys.take 1400)) ∧ Below w.heap.size w w' := by
  have HR := Lib.hid hR
  have Hn := Lib.hid hn
  have e1 : IntKind.u8.wrap k = k % 256 := IntKind.wrap_u8 _
  have e2 : IntKind.u8.wrap c = c % 256 := IntKind.wrap_u8 _
  clear hR hn
  go_enter Try.func38, Try.ntmps38
  go_wp2_with fail
  refine (few_any A n cp _ hnc hl).mono ?_
  rintro e w1 ⟨u, rfl, hu, rfl⟩
  clear e1 e2
  have hby0 : By (ic0 (k % 256) (c % 256) 0 []) := ic0_by _ _ _ By.nil (by omega) (by omega) (by omega) (by omega)
  have HO1 := Lib.hid (Own.lit w (Nat.le_refl _) (ic0 (k % 256) (c % 256) 0 []) hby0 8 rfl (by omega) #[.int .u8 (k % 256), .int .u8 (c % 256), .int .u8 0, .int .u8 0, .int .u8 0, .int .u8 0, .int .u8 0, .int .u8 0] rfl)
  have HB1 := Lib.hid (ball w (.cells #[.int .u8 (k % 256), .int .u8 (c % 256), .int .u8 0, .int .u8 0, .int .u8 0, .int .u8 0, .int .u8 0, .int .u8 0] 5))
  have hu2 : u ≤ 1400 := by omega
  have Hl := Lib.hid (show (ys.take 1400).length = u by rw [List.length_take, Hn.out, hu]; omega)
  have HU := Lib.hid hu
  clear hu hby0
  generalize w.alloc (.cells #[.int .u8 (k % 256), .int .u8 (c % 256), .int .u8 0, .int .u8 0, .int .u8 0, .int .u8 0, .int .u8 0, .int .u8 0] 5) = w1 at *
  have hs1 := HB1.out.size
  go_wp2_with (at_builtin; refine wpList_app rfl (.tmp 13) (.tmp 15) rfl rfl HO1.out (ys.take 1400) rfl ((HR.out.take 1400).below HB1.out) Hl.out (by omega) hs1 ?_; intro A2 c2 w2 ho2 hg2 hA2; have HO2 := Lib.hid ho2; have HB2 := Lib.hid (below_app HB1.out hg2 HO1.out (Nat.le_refl _) hs1); clear ho2 hg2 hA2)
  obtain ⟨L, hL⟩ : ∃ L, L = ic0 (k % 256) (c % 256) 0 (ys.take 1400) := ⟨_, rfl⟩
  have HO3 := Lib.hid (show Own w2 w.heap.size A2 (8 + u) c2 L by
    have := HO2.out
    rw [hL, ← ic0_app]; exact this)
  have HL := Lib.hid hL
  clear HO1 HB1 hs1 HO2 hL
  obtain ⟨g, hg, hgb⟩ := own_some HO3.out (by omega)
  subst hg
  refine (refOf_n _ (8 + u) c2 _ _ HO3.out.len (by omega) HO3.out.rd).mono ?_
  rintro e w' ⟨rfl, rfl⟩
  have hcs := Cs_range _ HO3.out.byt
  obtain ⟨x, hx⟩ : ∃ x, x = Cs L := ⟨_, rfl⟩
  rw [← hx] at hcs
  rw [← hx]
  have HX := Lib.hid hx
  clear hx
  have c0 := HO3.out.at (k := 2) (by omega)
  have c1 := HO3.out.at (k := 3) (by omega)
  have f0 := HO3.out.free 2
  have f1 := HO3.out.free 3
  go_wp2
  go_ret
  refine ⟨g, u, c2, rfl, HU.out, ?_, (HB2.out.setCell (p := ⟨g, 2, none⟩) hgb _).setCell (p := ⟨g, 3, none⟩) hgb _⟩
  have := (HO3.out.set 2 (x / 256) (by omega) (by omega)).set 3 (x % 256) (by omega) (by omega)
  unfold icL
  rw [← HL.out, ← HX.out]
  exact this
theorem w2l_u16 (x : Int) (h0 : 0 ≤ x) (h1 : x ≤ 65535) : x / 256 % 256 = x / 256 := by omega

set_option maxHeartbeats 2000000 in
theorem recho_any (reply : Bool) (k : Int) (hk : k = if reply then 0 else 8) (id : Int) (h0 : 0 ≤ id) (h1 : id ≤ 65535) (A : Option Addr) (n cp : Nat) (ys : List Int) (w : World) (hn : ys.length = n) (hnc : n ≤ cp) (hl : n ≤ 1000000) (hR : Rd w A ys) :
    Calls Try.prog 72 #[.bool reply, .int .u16 id, .slice A n cp] w fun e w' => ∃ g m cc, e = .returned (.slice (some ⟨g, 0, none⟩) (8 + m) cc) ∧ m = min n 1400 ∧ Own w' w.heap.size (some ⟨g, 0, none⟩) (8 + m) cc (icL k 0 id (ys.take 1400)) ∧ Below w.heap.size w w' := by
  have HR := Lib.hid hR
  have Hn := Lib.hid hn
  have hk2 : 0 ≤ k ∧ k ≤ 8 := by rw [hk]; cases reply <;> simp
  have HK := Lib.hid hk
  clear hR hn hk
  go_enter Try.func72, Try.ntmps72
  go_upto_if 10 with fail
  go_cut [7] (fun s7 wx => s7 = .int .u8 k ∧ w = wx)
  case first =>
    cases reply
    · go_wp2
      go_meet
      exact ⟨by rw [HK.out]; rfl, rfl⟩
    · go_wp2
      go_meet
      exact ⟨by rw [HK.out]; rfl, rfl⟩
  case rest =>
  obtain ⟨rfl, rfl⟩ := hcut
  go_wp2_with fail
  refine (few_any A n cp _ hnc hl).mono ?_
  rintro e w1 ⟨u, rfl, hu, rfl⟩
  have hby0 : By (ic0 k 0 id []) := ic0_by _ _ _ By.nil (by omega) (by omega) (by omega) (by omega)
  have hlit : ic0 k 0 id [] = [k, 0, 0, 0, id / 256, id % 256, 0, 0] := by rw [ic0_lit, w2l_u16 id h0 h1]
  rw [hlit] at hby0
  have HO1 := Lib.hid (Own.lit w (Nat.le_refl _) [k, 0, 0, 0, id / 256, id % 256, 0, 0] hby0 8 rfl (by omega) #[.int .u8 k, .int .u8 0, .int .u8 0, .int .u8 0, .int .u8 (id / 256), .int .u8 (id % 256), .int .u8 0, .int .u8 0] rfl)
  have HB1 := Lib.hid (ball w (.cells #[.int .u8 k, .int .u8 0, .int .u8 0, .int .u8 0, .int .u8 (id / 256), .int .u8 (id % 256), .int .u8 0, .int .u8 0] 5))
  have hu2 : u ≤ 1400 := by omega
  have Hl := Lib.hid (show (ys.take 1400).length = u by rw [List.length_take, Hn.out, hu]; omega)
  have HU := Lib.hid hu
  have Hlit := Lib.hid hlit
  clear hu hby0 hlit
  generalize w.alloc (.cells #[.int .u8 k, .int .u8 0, .int .u8 0, .int .u8 0, .int .u8 (id / 256), .int .u8 (id % 256), .int .u8 0, .int .u8 0] 5) = w1 at *
  have hs1 := HB1.out.size
  go_wp2_with (at_builtin; refine wpList_app rfl (.tmp 17) (.tmp 19) rfl rfl HO1.out (ys.take 1400) rfl ((HR.out.take 1400).below HB1.out) Hl.out (by omega) hs1 ?_; intro A2 c2 w2 ho2 hg2 hA2; have HO2 := Lib.hid ho2; have HB2 := Lib.hid (below_app HB1.out hg2 HO1.out (Nat.le_refl _) hs1); clear ho2 hg2 hA2)
  obtain ⟨L, hL⟩ : ∃ L, L = ic0 k 0 id (ys.take 1400) := ⟨_, rfl⟩
  have HO3 := Lib.hid (show Own w2 w.heap.size A2 (8 + u) c2 L by
    have := HO2.out
    rw [← Hlit.out, ic0_lit] at this
    rw [hL, ← ic0_app]; exact this)
  have HL := Lib.hid hL
  clear HO1 HB1 hs1 HO2 hL
  obtain ⟨g, hg, hgb⟩ := own_some HO3.out (by omega)
  subst hg
  refine (refOf_n _ (8 + u) c2 _ _ HO3.out.len (by omega) HO3.out.rd).mono ?_
  rintro e w' ⟨rfl, rfl⟩
  have hcs := Cs_range _ HO3.out.byt
  obtain ⟨x, hx⟩ : ∃ x, x = Cs L := ⟨_, rfl⟩
  rw [← hx] at hcs
  rw [← hx]
  have HX := Lib.hid hx
  clear hx
  have c0 := HO3.out.at (k := 2) (by omega)
  have c1 := HO3.out.at (k := 3) (by omega)
  have f0 := HO3.out.free 2
  have f1 := HO3.out.free 3
  go_wp2
  go_ret
  refine ⟨g, u, c2, rfl, HU.out, ?_, (HB2.out.setCell (p := ⟨g, 2, none⟩) hgb _).setCell (p := ⟨g, 3, none⟩) hgb _⟩
  have := (HO3.out.set 2 (x / 256) (by omega) (by omega)).set 3 (x % 256) (by omega) (by omega)
  unfold icL
  rw [← HL.out, ← HX.out]
  exact this

set_option maxHeartbeats 4000000 in
theorem rudp_any (s d f t : Int) (A : Option Addr) (n cp : Nat) (ys : List Int) (w : World) (hn : ys.length = n) (hnc : n ≤ cp) (hl : n ≤ 1000000) (hR : Rd w A ys)
    (s0 : 0 ≤ s) (s1 : s ≤ 4294967295) (d0 : 0 ≤ d) (d1 : d ≤ 4294967295) (f0 : 0 ≤ f) (f1 : f ≤ 65535) (t0 : 0 ≤ t) (t1 : t ≤ 65535) :
    Calls Try.prog 70 #[.int .u32 s, .int .u32 d, .int .u16 f, .int .u16 t, .slice A n cp] w fun e w' => ∃ g m cc, e = .returned (.slice (some ⟨g, 0, none⟩) (8 + m) cc) ∧ m = min n 1400 ∧ Own w' w.heap.size (some ⟨g, 0, none⟩) (8 + m) cc (udL s d f t (ys.take 1400)) ∧ Below w.heap.size w w' := by
  have HR := Lib.hid hR
  have Hn := Lib.hid hn
  clear hR hn
  go_enter Try.func70, Try.ntmps70
  go_wp2_with fail
  refine (few_any A n cp _ hnc hl).mono ?_
  rintro e w1 ⟨u, rfl, hu, rfl⟩
  have hu2 : u ≤ 1400 := by omega
  have Hl := Lib.hid (show (ys.take 1400).length = u by rw [List.length_take, Hn.out, hu]; omega)
  have HU := Lib.hid hu
  clear hu
  go_wp2_with fail
  refine (word_any f _ f0 (by omega)).mono ?_
  rintro e w1 ⟨rfl, ho1, hb1⟩
  have HB1 := Lib.hid hb1
  have HO1 := Lib.hid ho1
  clear ho1 hb1
  go_wp2_with fail
  refine (word_any t _ t0 (by omega)).mono ?_
  rintro e w2 ⟨rfl, ho2, hb2⟩
  have HB2 := Lib.hid (bthen HB1.out hb2)
  have HO2 := Lib.hid (HO1.out.below hb2)
  have HR2 := Lib.hid ho2.rd
  have hs2 := HB2.out.size
  clear ho2 hb2 HB1 HO1
  generalize w1.heap.size = p1' at *
  go_wp2_with (at_builtin; refine wpList_app rfl (.tmp 17) (.tmp 20) rfl rfl HO2.out (w2l t) rfl HR2.out rfl (by omega) hs2 ?_; intro A3 c3 w3 ho3 hg3 hA3; have HO3 := Lib.hid ho3; have HB3 := Lib.hid (below_app HB2.out hg3 HO2.out (Nat.le_refl _) hs2); have hs3 := HB3.out.size; clear ho3 hg3 hA3)
  clear HO2 HB2 HR2 hs2
  refine (word_any (8 + (u : Int)) _ (by omega) (by omega)).mono ?_
  rintro e w4 ⟨rfl, ho4, hb4⟩
  have HB4 := Lib.hid (bthen HB3.out hb4)
  have HO4 := Lib.hid (HO3.out.below hb4)
  have HR4 := Lib.hid ho4.rd
  have hs4 := HB4.out.size
  clear ho4 hb4 HO3 HB3 hs3
  generalize w3.heap.size = p3' at *
  go_wp2_with (first | (at_builtin; refine wpList_app rfl (.tmp 21) (.tmp 25) rfl rfl HO4.out (w2l (8 + (u : Int))) rfl HR4.out rfl (by omega) hs4 ?_; intro A5 c5 w5 ho5 hg5 hA5; have HO5 := Lib.hid ho5; have HB5 := Lib.hid (below_app HB4.out hg5 HO4.out (Nat.le_refl _) hs4); have hs5 := HB5.out.size; clear ho5 hg5 hA5) | (at_builtin; refine wpList_app rfl (.tmp 26) (.tmp 27) rfl rfl (HO5.out.alloc _) [0, 0] rfl (Rd.newM w5 _ _ [0, 0] (By.mk (by omega) (by omega) (By.mk (by omega) (by omega) By.nil)) _ rfl) rfl (by omega) (bthen HB5.out (ball w5 _)).size ?_; intro A6 c6 w6 ho6 hg6 hA6; have HO6 := Lib.hid ho6; have HB6 := Lib.hid (below_app (bthen HB5.out (ball w5 _)) hg6 (HO5.out.alloc _) (Nat.le_refl _) (bthen HB5.out (ball w5 _)).size); have hs6 := HB6.out.size; clear ho6 hg6 hA6) | (at_builtin; refine wpList_app rfl (.tmp 29) (.tmp 30) rfl rfl HO6.out (ys.take 1400) rfl ((HR.out.take 1400).below HB6.out) Hl.out (by omega) hs6 ?_; intro A7 c7 w7 ho7 hg7 hA7; have HO7 := Lib.hid ho7; have HB7 := Lib.hid (below_app HB6.out hg7 HO6.out (Nat.le_refl _) hs6); have hs7 := HB7.out.size; clear ho7 hg7 hA7))
  obtain ⟨L, hL⟩ : ∃ L, L = ud0 f t (ys.take 1400) := ⟨_, rfl⟩
  have HO8 := Lib.hid (show Own w7 w.heap.size A7 (2 + 2 + 2 + 2 + u) c7 L by
    have := HO7.out
    rw [hL]; unfold ud0; rw [Hl.out]; exact this)
  have HL := Lib.hid hL
  clear hL HO7 HO6 HO5 HO4 HB4 HB5 HB6 HR4 hs4 hs5 hs6
  obtain ⟨g, hg, hgb⟩ := own_some HO8.out (by omega)
  subst hg
  refine (pseudo_any s d 17 _ (2 + 2 + 2 + 2 + u) c7 L _ HO8.out.len (by omega) HO8.out.rd s0 s1 d0 d1 (by omega) (by omega)).mono ?_
  rintro e w8 ⟨rfl, hb8⟩
  have HB8 := Lib.hid (bthen HB7.out hb8)
  have HO9 := Lib.hid (HO8.out.below hb8)
  have hcs := Ps_range s d 17 L HO8.out.byt s0 d0 (by decide)
  clear hb8 HB7 HO8
  obtain ⟨x, hx⟩ : ∃ x, x = Ps s d 17 L := ⟨_, rfl⟩
  rw [← hx] at hcs
  rw [← hx]
  have HX := Lib.hid hx
  clear hx
  obtain ⟨y, hy⟩ : ∃ y, y = no0 x := ⟨_, rfl⟩
  have hyr := no0_range x hcs.1 hcs.2
  rw [← hy] at hyr
  have HY := Lib.hid hy
  clear hy
  go_upto_if 37 with fail
  go_cut [12] (fun s12 wx => s12 = .int .u16 y ∧ w8 = wx)
  case first =>
    by_cases hz : x = 0
    · subst hz
      go_wp2
      go_meet
      exact ⟨by rw [HY.out]; rfl, rfl⟩
    · have hz' : (x == 0) = false := by simpa using hz
      go_wp2
      go_meet
      exact ⟨by rw [HY.out]; unfold no0; rw [if_neg hz], rfl⟩
  case rest =>
  obtain ⟨rfl, rfl⟩ := hcut
  have c0 := HO9.out.at (k := 6) (by omega)
  have c1 := HO9.out.at (k := 7) (by omega)
  have f0 := HO9.out.free 6
  have f1 := HO9.out.free 7
  have q6 : 6 < 2 + 2 + 2 + 2 + u := by omega
  have q7 : 7 < 2 + 2 + 2 + 2 + u := by omega
  go_wp2
  go_ret
  refine ⟨g, u, c7, rfl, HU.out, ?_, (HB8.out.setCell (p := ⟨g, 6, none⟩) hgb _).setCell (p := ⟨g, 7, none⟩) hgb _⟩
  have := (HO9.out.set 6 (y / 256) (by omega) (by omega)).set 7 (y % 256) (by omega) (by omega)
  unfold udL
  rw [← HL.out, ← HX.out, ← HY.out]
  exact this

set_option maxHeartbeats 4000000 in
theorem rtcp_any (s d f t fl : Int) (A : Option Addr) (n cp : Nat) (ys : List Int) (w : World) (hn : ys.length = n) (hnc : n ≤ cp) (hl : n ≤ 1000000) (hR : Rd w A ys)
    (s0 : 0 ≤ s) (s1 : s ≤ 4294967295) (d0 : 0 ≤ d) (d1 : d ≤ 4294967295) (f0 : 0 ≤ f) (f1 : f ≤ 65535) (t0 : 0 ≤ t) (t1 : t ≤ 65535) :
    Calls Try.prog 71 #[.int .u32 s, .int .u32 d, .int .u16 f, .int .u16 t, .int .i64 fl, .slice A n cp] w fun e w' => ∃ g m cc, e = .returned (.slice (some ⟨g, 0, none⟩) (20 + m) cc) ∧ m = min n 1400 ∧ Own w' w.heap.size (some ⟨g, 0, none⟩) (20 + m) cc (tcL s d f t (fl % 256) (ys.take 1400)) ∧ Below w.heap.size w w' := by
  have HR := Lib.hid hR
  have Hn := Lib.hid hn
  clear hR hn
  have e1 : IntKind.u8.wrap fl = fl % 256 := IntKind.wrap_u8 _
  have v0 : 0 ≤ fl % 256 := by omega
  have v1 : fl % 256 ≤ 255 := by omega
  go_enter Try.func71, Try.ntmps71
  go_wp2_with fail
  refine (word_any f _ f0 (by omega)).mono ?_
  rintro e w1 ⟨rfl, ho1, hb1⟩
  have HB1 := Lib.hid hb1
  have HO1 := Lib.hid ho1
  clear ho1 hb1
  go_wp2_with fail
  refine (word_any t _ t0 (by omega)).mono ?_
  rintro e w2 ⟨rfl, ho2, hb2⟩
  have HB2 := Lib.hid (bthen HB1.out hb2)
  have HO2 := Lib.hid (HO1.out.below hb2)
  have HR2 := Lib.hid ho2.rd
  have hs2 := HB2.out.size
  clear ho2 hb2 HB1 HO1
  generalize w1.heap.size = p1' at *
  obtain ⟨fv, hfv⟩ : ∃ v, v = fl % 256 := ⟨_, rfl⟩
  rw [← hfv] at e1 v0 v1
  have HF := Lib.hid hfv
  clear hfv
  have Hb16 := Lib.hid (show By [0, 0, 0, 0, 0, 0, 0, 0, 80, fv, 32, 0, 0, 0, 0, 0] from fun x hx => by simp at hx; omega)
  go_wp2_with (first | (at_builtin; refine wpList_app rfl (.tmp 17) (.tmp 20) rfl rfl HO2.out (w2l t) rfl HR2.out rfl (by omega) hs2 ?_; intro A3 c3 w3 ho3 hg3 hA3; have HO3 := Lib.hid ho3; have HB3 := Lib.hid (below_app HB2.out hg3 HO2.out (Nat.le_refl _) hs2); have hs3 := HB3.out.size; clear ho3 hg3 hA3) | (at_builtin; refine wpList_app rfl (.tmp 21) (.tmp 24) rfl rfl (HO3.out.alloc _) [0, 0, 0, 0, 0, 0, 0, 0, 80, fv, 32, 0, 0, 0, 0, 0] rfl (Rd.newM w3 _ _ [0, 0, 0, 0, 0, 0, 0, 0, 80, fv, 32, 0, 0, 0, 0, 0] Hb16.out _ rfl) rfl (by omega) (bthen HB3.out (ball w3 _)).size ?_; intro A6 c6 w6 ho6 hg6 hA6; have HO6 := Lib.hid ho6; have HB6 := Lib.hid (below_app (bthen HB3.out (ball w3 _)) hg6 (HO3.out.alloc _) (Nat.le_refl _) (bthen HB3.out (ball w3 _)).size); have hs6 := HB6.out.size; clear ho6 hg6 hA6))
  refine (few_any A n cp _ hnc hl).mono ?_
  rintro e w1 ⟨u, rfl, hu, rfl⟩
  have hu2 : u ≤ 1400 := by omega
  have Hl := Lib.hid (show (ys.take 1400).length = u by rw [List.length_take, Hn.out, hu]; omega)
  have HU := Lib.hid hu
  clear hu
  go_wp2_with (at_builtin; refine wpList_app rfl (.tmp 26) (.tmp 28) rfl rfl HO6.out (ys.take 1400) rfl ((HR.out.take 1400).below HB6.out) Hl.out (by omega) hs6 ?_; intro A7 c7 w7 ho7 hg7 hA7; have HO7 := Lib.hid ho7; have HB7 := Lib.hid (below_app HB6.out hg7 HO6.out (Nat.le_refl _) hs6); have hs7 := HB7.out.size; clear ho7 hg7 hA7)
  obtain ⟨L, hL⟩ : ∃ L, L = tc0 f t fv (ys.take 1400) := ⟨_, rfl⟩
  have HO8 := Lib.hid (show Own w7 w.heap.size A7 (2 + 2 + 16 + u) c7 L by
    have := HO7.out
    rw [hL]; unfold tc0; exact this)
  have HL := Lib.hid hL
  clear hL HO7 HO6 HB6 hs6 HO3 HB3 HO2 HB2
  obtain ⟨g, hg, hgb⟩ := own_some HO8.out (by omega)
  subst hg
  refine (pseudo_any s d 6 _ (2 + 2 + 16 + u) c7 L _ HO8.out.len (by omega) HO8.out.rd s0 s1 d0 d1 (by omega) (by omega)).mono ?_
  rintro e w8 ⟨rfl, hb8⟩
  have HB8 := Lib.hid (bthen HB7.out hb8)
  have HO9 := Lib.hid (HO8.out.below hb8)
  have hcs := Ps_range s d 6 L HO8.out.byt s0 d0 (by decide)
  clear hb8 HB7 HO8
  obtain ⟨x, hx⟩ : ∃ x, x = Ps s d 6 L := ⟨_, rfl⟩
  rw [← hx] at hcs
  rw [← hx]
  have HX := Lib.hid hx
  clear hx
  have c0 := HO9.out.at (k := 16) (by omega)
  have c1 := HO9.out.at (k := 17) (by omega)
  have f0 := HO9.out.free 16
  have f1 := HO9.out.free 17
  have q6 : 16 < 2 + 2 + 16 + u := by omega
  have q7 : 17 < 2 + 2 + 16 + u := by omega
  go_wp2
  go_ret
  refine ⟨g, u, c7, rfl, HU.out, ?_, (HB8.out.setCell (p := ⟨g, 16, none⟩) hgb _).setCell (p := ⟨g, 17, none⟩) hgb _⟩
  have := (HO9.out.set 16 (x / 256) (by omega) (by omega)).set 17 (x % 256) (by omega) (by omega)
  unfold tcL
  rw [← HF.out, ← HL.out, ← HX.out]
  exact this
end Go.Proofs.Ytbnlpidhbilenaa

namespace Go.Proofs.Ytbnlpidhbilenaa
open Go.ChangeShapes Go.WideShapes Go.ChangeAt Go.RowKit Plain
set_option linter.unusedVariables false
set_option maxRecDepth 100000

theorem open_rd {H : Type} {enc : TypeId × Value → H} {W : World} {a : Option Addr} {len cap : Nat} {d : DataW H} {p : List MemPlace} (h : DataW.Trod enc Try.prog W 0 (fun _ => true) true 27 (.slice a len cap) d p) :
    ∃ zs : List Int, zs.length = len ∧ len ≤ cap ∧ cap ≤ maxLen ∧ Rd W a zs := by
  obtain ⟨zs, hl, hc, hm, hby, hx⟩ := open_bytes h
  refine ⟨zs, hl, hc, hm, hby, fun hp => ?_⟩
  obtain ⟨b, off, e, _, hk⟩ := hx (by omega)
  exact ⟨b, off, e, fun k hk' => hk k (by omega)⟩
end Go.Proofs.Ytbnlpidhbilenaa

namespace Go.Proofs.Ytbnlpidhbilenaa
open Go.RowKit Plain
set_option linter.unusedVariables false
set_option maxRecDepth 100000


def hL : List Int := frm 64 17 167772161 167772162 []
theorem hL_e : gtE hL = 0 := by decide
theorem hL_h : gtH hL = ⟨20, 20, 64, 17, 167772161, 167772162⟩ := by unfold gtH; rw [hL_e, if_pos rfl]; rfl

end Go.Proofs.Ytbnlpidhbilenaa

namespace Go.Proofs.Ytbnlpidhbilenaa
open Go.ChangeShapes Go.WideShapes Go.ChangeAt Go.RowKit Plain
set_option linter.unusedVariables false
set_option maxRecDepth 100000

/-- a head whose numbers fit -/
structure Hok (h : Hd) : Prop where
  t0 : -9223372036854775808 ≤ h.ttl
  t1 : h.ttl ≤ 9223372036854775807
  p0 : -9223372036854775808 ≤ h.proto
  p1 : h.proto ≤ 9223372036854775807
  s0 : 0 ≤ h.src
  s1 : h.src ≤ 4294967295
  d0 : 0 ≤ h.dst
  d1 : h.dst ≤ 4294967295
  z0 : -9223372036854775808 ≤ h.size
  z1 : h.size ≤ 9223372036854775807
  l0 : -9223372036854775808 ≤ h.len
  l1 : h.len ≤ 9223372036854775807

theorem open_head {H : Type} {enc : TypeId × Value → H} {W : World} {r : Reach} {b0 : Nat} {v : Value} {d : DataW H} {p : List MemPlace}
    (hv : Value.okWide Try.prog W r b0 84 v) (h : DataW.Trod enc Try.prog W 0 (fun _ => true) true 84 v d p) :
    ∃ hd : Hd, v = hd.val ∧ Hok hd := by
  obtain ⟨cs, rfl, hsz⟩ := okWide_struct Try.underlying84 hv
  have hC : Try.prog.cellsOf 84 = 6 := by kernel_rfl
  have ci : Try.prog.cellsOf 3 = 1 := by kernel_rfl
  have cu : Try.prog.cellsOf 64 = 1 := by kernel_rfl
  obtain ⟨l⟩ := cs
  match l, hsz.trans hC with
  | [c0, c1, c2, c3, c4, c5], _ =>
    obtain ⟨fuel, hf⟩ := h
    obtain ⟨xs, n, _, hx, _, hlen, hg⟩ := DataW.trod_struct Try.underlying84 hf
    match xs, hlen with
    | [y0, y1, y2, y3, y4, y5], _ =>
      have g0 : DataW.trod enc Try.prog W 0 (fun _ => true) true n 3 [c0] = some y0 := by simpa [Value.cells, ci] using hg 0 _ rfl
      have g1 : DataW.trod enc Try.prog W 0 (fun _ => true) true n 3 [c1] = some y1 := by simpa [Value.cells, ci] using hg 1 _ rfl
      have g2 : DataW.trod enc Try.prog W 0 (fun _ => true) true n 3 [c2] = some y2 := by simpa [Value.cells, ci] using hg 2 _ rfl
      have g3 : DataW.trod enc Try.prog W 0 (fun _ => true) true n 3 [c3] = some y3 := by simpa [Value.cells, ci] using hg 3 _ rfl
      have g4 : DataW.trod enc Try.prog W 0 (fun _ => true) true n 64 [c4] = some y4 := by simpa [Value.cells, cu] using hg 4 _ rfl
      have g5 : DataW.trod enc Try.prog W 0 (fun _ => true) true n 64 [c5] = some y5 := by simpa [Value.cells, cu] using hg 5 _ rfl
      obtain ⟨a0, e0, _, w0⟩ := DataW.trod_int Try.underlying3 g0
      obtain ⟨a1, e1, _, w1⟩ := DataW.trod_int Try.underlying3 g1
      obtain ⟨a2, e2, _, w2⟩ := DataW.trod_int Try.underlying3 g2
      obtain ⟨a3, e3, _, w3⟩ := DataW.trod_int Try.underlying3 g3
      obtain ⟨a4, e4, _, w4⟩ := DataW.trod_int Try.underlying64 g4
      obtain ⟨a5, e5, _, w5⟩ := DataW.trod_int Try.underlying64 g5
      simp at e0 e1 e2 e3 e4 e5
      subst e0 e1 e2 e3 e4 e5
      have z0 := bounds_i64 w0
      have z1 := bounds_i64 w1
      have z2 := bounds_i64 w2
      have z3 := bounds_i64 w3
      have z4 := bounds_u32 w4
      have z5 := bounds_u32 w5
      exact ⟨⟨a0, a1, a2, a3, a4, a5⟩, rfl, ⟨z2.1, z2.2, z3.1, z3.2, z4.1, z4.2, z5.1, z5.2, z0.1, z0.2, z1.1, z1.2⟩⟩

/-- is it a head that can be laid? -/
def Fit (h : Hd) : Prop := (0 ≤ h.ttl ∧ h.ttl ≤ 255) ∧ 0 ≤ h.proto ∧ h.proto ≤ 255

theorem frm_by (t p s d : Int) (ys : List Int) (hy : By ys) (hl : ys.length ≤ 1480) (t0 : 0 ≤ t) (t1 : t ≤ 255) (p0 : 0 ≤ p) (p1 : p ≤ 255) (s0 : 0 ≤ s) (s1 : s ≤ 4294967295) (d0 : 0 ≤ d) (d1 : d ≤ 4294967295) :
    By (hb1 t p s d (20 + (ys.length : Int))) ∧ tot (hb1 t p s d (20 + (ys.length : Int))) % 65535 = 0 := by
  have hb := hb0_by t p s d (20 + (ys.length : Int)) t0 t1 p0 p1 s0 s1 d0 d1 (by omega) (by omega)
  have hc := Cs_range _ hb
  refine ⟨?_, ?_⟩
  · unfold hb1 P16
    exact (hb.set 10 _ (by omega) (by omega)).set 11 _ (by omega) (by omega)
  · unfold hb1 P16
    have e1 := tot_set (hb0 t p s d (20 + (ys.length : Int))) 10 (Cs (hb0 t p s d (20 + (ys.length : Int))) / 256) (by rw [hb0_len]; omega)
    have e2 := tot_set ((hb0 t p s d (20 + (ys.length : Int))).set 10 (Cs (hb0 t p s d (20 + (ys.length : Int))) / 256)) 11 (Cs (hb0 t p s d (20 + (ys.length : Int))) % 256) (by rw [List.length_set, hb0_len]; omega)
    have z10 : (hb0 t p s d (20 + (ys.length : Int))).getD 10 0 = 0 := rfl
    have z11 : ((hb0 t p s d (20 + (ys.length : Int))).set 10 (Cs (hb0 t p s d (20 + (ys.length : Int))) / 256)).getD 11 0 = 0 := rfl
    rw [z10, if_pos (by decide)] at e1
    rw [z11, if_neg (by decide)] at e2
    rw [e2, e1]
    have hF := F_mod _ (tot_nonneg _ hb)
    unfold Cs at hc ⊢
    generalize F (tot (hb0 t p s d (20 + (ys.length : Int)))) = f at *
    generalize tot (hb0 t p s d (20 + (ys.length : Int))) = T at *
    omega
theorem frm_head (t p s d : Int) (ys : List Int) : (frm t p s d ys).getD 0 0 = 69 ∧ (fld (frm t p s d ys)).size = 20 ∧ (fld (frm t p s d ys)).len = 20 + (ys.length : Int) := by
  refine ⟨rfl, rfl, ?_⟩
  show (20 + (ys.length : Int)) / 256 * 256 + (20 + (ys.length : Int)) % 256 = _
  omega
theorem getD_take' (l : List Int) (n k : Nat) (h : k < n) : (l.take n).getD k 0 = l.getD k 0 := getD_take l n k h
/-- a frame that is cut is short -/
theorem cut_short (t p s d : Int) (ys : List Int) (K : Nat) (hl : ys.length ≤ 1480) (hK : K < 20 + ys.length) : gtE ((frm t p s d ys).take K) = 2 ∧ gtH ((frm t p s d ys).take K) = hd0 := by
  have hlen : ((frm t p s d ys).take K).length = K := by rw [List.length_take, frm_len]; omega
  obtain ⟨h0, h1, h2⟩ := frm_head t p s d ys
  have he : gtE ((frm t p s d ys).take K) = 2 := by
    by_cases h20 : K < 20
    · have hr : rdE ((frm t p s d ys).take K) 1500 = 2 := by unfold rdE; rw [if_pos (by omega)]
      unfold gtE; rw [hr, if_pos (by decide)]
    · have z0 : ((frm t p s d ys).take K).getD 0 0 = 69 := by rw [getD_take _ _ _ (by omega)]; exact h0
      have zs : (fld ((frm t p s d ys).take K)).size = 20 := by
        show ((frm t p s d ys).take K).getD 0 0 % 16 * 4 = 20
        rw [z0]; decide
      have zl : (fld ((frm t p s d ys).take K)).len = 20 + (ys.length : Int) := by
        rw [← h2]
        show G16 ((frm t p s d ys).take K) 2 = G16 (frm t p s d ys) 2
        unfold G16
        rw [getD_take _ _ _ (by omega), getD_take _ _ _ (by omega)]
      have hr : rdE ((frm t p s d ys).take K) 1500 = 0 := by
        unfold rdE
        rw [if_neg (by omega), z0, if_neg (by decide), zs, if_neg (by decide), hlen, if_neg (by omega), zl, if_neg (by omega), if_neg (by omega)]
      unfold gtE
      rw [hr, if_neg (by decide), hlen, zl, if_pos (by omega)]
  exact ⟨he, by unfold gtH; rw [he, if_neg (by decide)]⟩
/-- a frame with one bit of its head turned (but the first byte's) isn't got -/
theorem turned_bad (t p s d : Int) (ys : List Int) (j : Nat) (y : Int) (hy : By ys) (hl : ys.length ≤ 1480) (t0 : 0 ≤ t) (t1 : t ≤ 255) (p0 : 0 ≤ p) (p1 : p ≤ 255) (s0 : 0 ≤ s) (s1 : s ≤ 4294967295) (d0 : 0 ≤ d) (d1 : d ≤ 4294967295)
    (hj0 : 1 ≤ j) (hj1 : j < 20) (ht : Turned ((frm t p s d ys).getD j 0) y) : gtE ((frm t p s d ys).set j y) ≠ 0 := by
  obtain ⟨hb, hm⟩ := frm_by t p s d ys hy hl t0 t1 p0 p1 s0 s1 d0 d1
  have hgd : (frm t p s d ys).getD j 0 = (hb1 t p s d (20 + (ys.length : Int))).getD j 0 := by
    unfold frm
    simp only [List.getD]
    rw [List.getElem?_append_left (by rw [hb1_len]; exact hj1)]
  rw [hgd] at ht
  have hF := turned_sum _ j y (by rw [hb1_len]; exact hj1) hb hm ht
  have hset : ((frm t p s d ys).set j y).take 20 = (hb1 t p s d (20 + (ys.length : Int))).set j y := by
    unfold frm
    rw [List.set_append_left _ _ (by rw [hb1_len]; exact hj1), List.take_append_of_le_length (by rw [List.length_set, hb1_len]; omega), List.take_of_length_le (by rw [List.length_set, hb1_len]; omega)]
  have z0 : ((frm t p s d ys).set j y).getD 0 0 = 69 := by
    have : ((frm t p s d ys).set j y).getD 0 0 = (frm t p s d ys).getD 0 0 := by simp [List.getD, show j ≠ 0 by omega]
    rw [this]; rfl
  have zs : (fld ((frm t p s d ys).set j y)).size = 20 := by
    show ((frm t p s d ys).set j y).getD 0 0 % 16 * 4 = 20
    rw [z0]; decide
  intro hc
  unfold gtE at hc
  split at hc
  · rename_i h; exact h hc
  split at hc
  · omega
  split at hc
  · omega
  · rename_i h
    rw [zs, show (20 : Int).toNat = 20 from rfl, hset] at h
    unfold Cs at h
    omega
end Go.Proofs.Ytbnlpidhbilenaa

namespace Go.Proofs.Ytbnlpidhbilenaa
open Go.RowKit Plain
set_option linter.unusedVariables false
set_option linter.unusedSimpArgs false
set_option maxRecDepth 100000

theorem frm_got (t p s d : Int) (ys ms : List Int) (hl : ys.length ≤ 1480) (hy : By ys) (t0 : 0 ≤ t) (t1 : t ≤ 255) (p0 : 0 ≤ p) (p1 : p ≤ 255) (s0 : 0 ≤ s) (s1 : s ≤ 4294967295) (d0 : 0 ≤ d) (d1 : d ≤ 4294967295) :
    gtE (frm t p s d ys ++ ms) = 0 ∧ gtH (frm t p s d ys ++ ms) = ⟨20, 20 + (ys.length : Int), t, p, s, d⟩ := by
  obtain ⟨hb, hm⟩ := frm_by t p s d ys hy hl t0 t1 p0 p1 s0 s1 d0 d1
  have hlen : (frm t p s d ys ++ ms).length = 20 + ys.length + ms.length := by rw [List.length_append, frm_len]
  have e16 : ∀ i, i + 1 < 20 → G16 (frm t p s d ys ++ ms) i = G16 (hb1 t p s d (20 + (ys.length : Int))) i := fun i hi => by
    unfold G16 frm
    simp only [List.getD]
    rw [List.append_assoc, List.getElem?_append_left (by rw [hb1_len]; omega), List.getElem?_append_left (by rw [hb1_len]; omega)]
  have e1 : ∀ i, i < 20 → (frm t p s d ys ++ ms).getD i 0 = (hb1 t p s d (20 + (ys.length : Int))).getD i 0 := fun i hi => by
    unfold frm
    simp only [List.getD]
    rw [List.append_assoc, List.getElem?_append_left (by rw [hb1_len]; omega)]
  have hfl : fld (frm t p s d ys ++ ms) = ⟨20, 20 + (ys.length : Int), t, p, s, d⟩ := by
    unfold fld G32
    rw [e1 0 (by omega), e1 8 (by omega), e1 9 (by omega), e16 2 (by omega), e16 12 (by omega), e16 14 (by omega), e16 16 (by omega), e16 18 (by omega)]
    show Hd.mk (69 % 16 * 4) ((20 + (ys.length : Int)) / 256 * 256 + (20 + (ys.length : Int)) % 256) t p ((s / 65536 / 256 * 256 + s / 65536 % 256) * 65536 + (s % 65536 / 256 * 256 + s % 65536 % 256)) ((d / 65536 / 256 * 256 + d / 65536 % 256) * 65536 + (d % 65536 / 256 * 256 + d % 65536 % 256)) = _
    congr 1 <;> omega
  have hr : rdE (frm t p s d ys ++ ms) 1500 = 0 := by
    unfold rdE
    rw [if_neg (by omega), e1 0 (by omega), if_neg (by show ¬ ((69 : Int) / 16 ≠ 4); decide), hfl]
    rw [if_neg (by show ¬ ((20 : Int) < 20); decide), if_neg (by rw [hlen]; show ¬ ((_ : Int) < 20); omega), if_neg (by show ¬ ((20 + (ys.length : Int)) < 20); omega), if_neg (by show ¬ (1500 < (20 + (ys.length : Int))); omega)]
  have htk : (frm t p s d ys ++ ms).take 20 = hb1 t p s d (20 + (ys.length : Int)) := by
    unfold frm
    rw [List.append_assoc, List.take_append_of_le_length (by rw [hb1_len]; omega), List.take_of_length_le (by rw [hb1_len]; omega)]
  have hcs : Cs (hb1 t p s d (20 + (ys.length : Int))) = 0 := by
    have h0 := tot_nonneg _ hb
    have hF := F_mod _ h0
    have hr2 := F_range _ h0
    have hz : F (tot (hb1 t p s d (20 + (ys.length : Int)))) ≠ 0 := fun e => by
      have hz := F_zero _ h0 e
      have hp : 17664 ≤ tot (hb1 t p s d (20 + (ys.length : Int))) := by
        have h2 : tot (hb1 t p s d (20 + (ys.length : Int))) = 69 * 256 + 0 + tot ((hb1 t p s d (20 + (ys.length : Int))).drop 2) := rfl
        have h3 := tot_nonneg _ (hb.drop 2)
        omega
      omega
    unfold Cs
    omega
  have hpc : G16 (frm t p s d ys ++ ms) 6 % 16384 = 0 := by
    rw [e16 6 (by omega)]; show ((64 : Int) * 256 + 0) % 16384 = 0; decide
  have he : gtE (frm t p s d ys ++ ms) = 0 := by
    unfold gtE
    rw [hr, if_neg (by decide), hfl, if_neg (by rw [hlen]; show ¬ ((_ : Int) < 20 + (ys.length : Int)); omega)]
    rw [show (Hd.mk 20 (20 + (ys.length : Int)) t p s d).size.toNat = 20 from rfl, htk, hcs, if_neg (by decide), hpc, if_neg (by decide)]
  exact ⟨he, by unfold gtH; rw [he, if_pos rfl, hfl]⟩


theorem set_app (a b : List Int) (j : Nat) (y : Int) : (a ++ b).set (a.length + j) y = a ++ b.set j y := by
  rw [List.set_append_right _ _ (by omega)]; congr 2; omega
theorem frm_set (t p s d : Int) (ys : List Int) (j : Nat) (y : Int) : (frm t p s d ys).set (20 + j) y = frm t p s d (ys.set j y) := by
  unfold frm
  rw [List.length_set]
  have := set_app (hb1 t p s d (20 + (ys.length : Int))) ys j y
  rw [hb1_len] at this
  exact this
theorem frm_P16 (t p s d : Int) (ys : List Int) (j : Nat) (v : Int) : P16 (frm t p s d ys) (20 + j) v = frm t p s d (P16 ys j v) := by
  unfold P16
  rw [frm_set, show 20 + j + 1 = 20 + (j + 1) by omega, frm_set]
theorem frm_getD (t p s d : Int) (ys : List Int) (j : Nat) : (frm t p s d ys).getD (20 + j) 0 = ys.getD j 0 := by
  unfold frm
  simp only [List.getD]
  rw [List.getElem?_append_right (by rw [hb1_len]; omega), hb1_len]
  congr 2
  omega
theorem frm_body (t p s d a b c e : Int) (ys : List Int) (n : Nat) (hn : ys.length = n) : bodyOf ⟨20, 20 + (n : Int), a, b, c, e⟩ (frm t p s d ys) = ys := by
  unfold bodyOf
  rw [show ((⟨20, 20 + (n : Int), a, b, c, e⟩ : Hd).size).toNat = 20 from rfl]
  rw [show ((⟨20, 20 + (n : Int), a, b, c, e⟩ : Hd).len - (⟨20, 20 + (n : Int), a, b, c, e⟩ : Hd).size).toNat = n by show (20 + (n : Int) - 20).toNat = n; omega]
  unfold frm
  rw [List.drop_append_of_le_length (by rw [hb1_len]; omega), List.drop_of_length_le (by rw [hb1_len]; omega), List.nil_append, List.take_of_length_le (by omega)]
/-- what part.Get tells of a frame, by what it carries -/
theorem frm_pg (t p s d : Int) (ys : List Int) (n : Nat) (hn : ys.length = n) (a c e : Int) (pr : Int) :
    pgE ⟨20, 20 + (n : Int), a, pr, c, e⟩ (frm t p s d ys) = (if pr = 17 then udE c e ys else if pr = 6 then tcE c e ys else if pr = 1 then icE ys else 6) ∧
    pgP ⟨20, 20 + (n : Int), a, pr, c, e⟩ (frm t p s d ys) = (if pr = 17 then udP c e ys else if pr = 6 then tcP c e ys else if pr = 1 then icP 20 ys else pt0) := by
  have hc : ¬ ((20 : Int) < 20 ∨ (60 : Int) < 20 ∨ 20 + (n : Int) < 20 ∨ ((frm t p s d ys).length : Int) < 20 + (n : Int)) := by
    rw [frm_len, hn]; omega
  unfold pgE pgP
  rw [frm_body t p s d a pr c e ys n hn]
  exact ⟨if_neg hc, if_neg hc⟩
end Go.Proofs.Ytbnlpidhbilenaa

namespace Go.Proofs.Ytbnlpidhbilenaa
open Go.RowKit Plain
set_option linter.unusedVariables false
set_option linter.unusedSimpArgs false
set_option maxRecDepth 100000

/-- a Sent: its numbers, and its bytes -/
structure Sn where
  what : Int
  s : Int
  d : Int
  f : Int
  t : Int
  fl : Int
  A : Option Addr
  n : Nat
  c : Nat
  ys : List Int
def Sn.val (x : Sn) : Value := .agg #[.int .i64 x.what, .int .u32 x.s, .int .u32 x.d, .int .u16 x.f, .int .u16 x.t, .int .i64 x.fl, .slice x.A x.n x.c]
structure Sn.ok (x : Sn) (w : World) : Prop where
  s0 : 0 ≤ x.s
  s1 : x.s ≤ 4294967295
  d0 : 0 ≤ x.d
  d1 : x.d ≤ 4294967295
  f0 : 0 ≤ x.f
  f1 : x.f ≤ 65535
  t0 : 0 ≤ x.t
  t1 : x.t ≤ 65535
  len : x.ys.length = x.n
  cap : x.n ≤ x.c
  max : x.c ≤ 9223372036854775807
  rd : Rd w x.A x.ys

def carL (K : Nat) (s d f t fl : Int) (L : List Int) : List Int :=
  match K with
  | 0 => udL s d f t L
  | 1 => tcL s d f t (fl % 256) L
  | 2 => icL 8 0 f L
  | 3 => icL 0 0 f L
  | 4 => icL 3 (fl.tmod 16 % 256) 0 (frm 9 17 d s (udL d s t f L))
  | 5 => icL 11 0 0 ((frm 9 6 d s (tcL d s t f 2 L)).take (28 + L.length / 2))
  | _ => icL 3 1 0 (frm 9 1 d s (icL 8 0 t L))
def carP (K : Nat) : Int := match K with
  | 0 => 17
  | 1 => 6
  | _ => 1
def CarOk (x : Sn) (K : Nat) (w : World) (e : Ending) (w' : World) : Prop :=
  ∃ g m cc, e = .returned (.tuple #[.slice (some ⟨g, 0, none⟩) m cc, .int .i64 (carP K)]) ∧ Own w' w.heap.size (some ⟨g, 0, none⟩) m cc (carL K x.s x.d x.f x.t x.fl (x.ys.take 40)) ∧ Below w.heap.size w w'

theorem take_40 (ys : List Int) : (ys.take 40).take 1400 = ys.take 40 := by rw [List.take_take]; congr 1

set_option maxHeartbeats 4000000 in
theorem carried_low (x : Sn) (K : Nat) (hK4 : K < 4) (w : World) (ok : x.ok w) (hK : wrap64 ((IntKind.u64.wrap x.what).tmod 7) = (K : Int)) :
    Calls Try.prog 54 #[x.val] w (CarOk x K w) := by
  obtain ⟨what, s, d, f, t, fl, A, n, c, ys⟩ := x
  obtain ⟨s0, s1, d0, d1, f0, f1, t0, t1, hn, hnc, hcm, hR⟩ := ok
  simp only at s0 s1 d0 d1 f0 f1 t0 t1 hn hnc hcm hR hK
  rw [show (Sn.mk what s d f t fl A n c ys).val = .agg #[.int .i64 what, .int .u32 s, .int .u32 d, .int .u16 f, .int .u16 t, .int .i64 fl, .slice A n c] from rfl]
  have HR := Lib.hid hR
  have Hn := Lib.hid hn
  have HK := Lib.hid hK
  clear hR hn hK
  obtain ⟨u, hu⟩ : ∃ u, u = min n 40 := ⟨_, rfl⟩
  have hu1 : u ≤ n := by omega
  have hu2 : u ≤ 40 := by omega
  have Hl := Lib.hid (show (ys.take 40).length = u by rw [List.length_take, Hn.out, hu]; omega)
  have HU := Lib.hid hu
  clear hu
  go_enter Try.func54, Try.ntmps54
  go_upto_region 1 with fail
  have HB1 := Lib.hid (ball w (.cells #[.int .i64 what, .int .u32 s, .int .u32 d, .int .u16 f, .int .u16 t, .int .i64 fl, .slice A n c] 80))
  have HK1 := Lib.hid (Blk.new w 80 #[.int .i64 what, .int .u32 s, .int .u32 d, .int .u16 f, .int .u16 t, .int .i64 fl, .slice A n c])
  generalize w.alloc (.cells #[.int .i64 what, .int .u32 s, .int .u32 d, .int .u16 f, .int .u16 t, .int .i64 fl, .slice A n c] 80) = w1 at *
  have hs1 := HB1.out.size
  obtain ⟨g, hg⟩ : ∃ g, g = w.heap.size := ⟨_, rfl⟩
  have HG := Lib.hid hg
  rw [← hg] at HK1
  rw [← hg]
  clear hg
  have k0 : w1.cell? ⟨g, 0, none⟩ = some (.int .i64 what) := HK1.out.cell 0
  have k1 : w1.cell? ⟨g, 1, none⟩ = some (.int .u32 s) := HK1.out.cell 1
  have k2 : w1.cell? ⟨g, 2, none⟩ = some (.int .u32 d) := HK1.out.cell 2
  have k3 : w1.cell? ⟨g, 3, none⟩ = some (.int .u16 f) := HK1.out.cell 3
  have k4 : w1.cell? ⟨g, 4, none⟩ = some (.int .u16 t) := HK1.out.cell 4
  have k5 : w1.cell? ⟨g, 5, none⟩ = some (.int .i64 fl) := HK1.out.cell 5
  have k6 : w1.cell? ⟨g, 6, none⟩ = some (.slice A n c) := HK1.out.cell 6
  go_cut [4] (fun s4 wx => s4 = .slice A u c ∧ w1 = wx)
  case first =>
    by_cases h : n ≤ 40
    · have h' : (n : Int) ≤ 40 := by omega
      have i1 : (n : Int) ≤ (c : Int) := by omega
      have e : u = n := by have := HU.out; omega
      have HE := Lib.hid e
      clear e
      go_wp2
      go_meet
      exact ⟨by rw [HE.out], rfl⟩
    · have h' : (40 : Int) < (n : Int) := by omega
      have i1 : (40 : Int) ≤ (c : Int) := by omega
      have i2 : 40 ≤ c := by omega
      have e : u = 40 := by have := HU.out; omega
      have HE := Lib.hid e
      clear e
      go_wp2
      go_meet
      exact ⟨by rw [HE.out], rfl⟩
  case rest =>
  obtain ⟨rfl, rfl⟩ := hcut
  have hK := HK.out
  have HR1 := Lib.hid ((HR.out.take 40).below HB1.out)
  have huc : u ≤ c := by omega
  obtain rfl | rfl | rfl | rfl : K = 0 ∨ K = 1 ∨ K = 2 ∨ K = 3 := by omega
  · go_wp2_with fail
    refine (rudp_any s d f t A u c (ys.take 40) _ Hl.out huc (by omega) HR1.out s0 s1 d0 d1 f0 f1 t0 t1).mono ?_
    rintro e w2 ⟨g2, m, cc, rfl, hm, ho, hb⟩
    have HO := Lib.hid ho
    have HB2 := Lib.hid (bthen HB1.out hb)
    clear ho hb hm
    go_wp2
    go_ret2
    refine ⟨g2, 8 + m, cc, rfl, ?_, HB2.out⟩
    have := HO.out.mono hs1
    rw [take_40] at this
    exact this
  · go_wp2_with fail
    refine (rtcp_any s d f t fl A u c (ys.take 40) _ Hl.out huc (by omega) HR1.out s0 s1 d0 d1 f0 f1 t0 t1).mono ?_
    rintro e w2 ⟨g2, m, cc, rfl, hm, ho, hb⟩
    have HO := Lib.hid ho
    have HB2 := Lib.hid (bthen HB1.out hb)
    clear ho hb hm
    go_wp2
    go_ret2
    refine ⟨g2, 20 + m, cc, rfl, ?_, HB2.out⟩
    have := HO.out.mono hs1
    rw [take_40] at this
    exact this
  · go_wp2_with fail
    refine (recho_any false 8 rfl f f0 f1 A u c (ys.take 40) _ Hl.out huc (by omega) HR1.out).mono ?_
    rintro e w2 ⟨g2, m, cc, rfl, hm, ho, hb⟩
    have HO := Lib.hid ho
    have HB2 := Lib.hid (bthen HB1.out hb)
    clear ho hb hm
    go_wp2
    go_ret2
    refine ⟨g2, 8 + m, cc, rfl, ?_, HB2.out⟩
    have := HO.out.mono hs1
    rw [take_40] at this
    exact this
  · go_wp2_with fail
    refine (recho_any true 0 rfl f f0 f1 A u c (ys.take 40) _ Hl.out huc (by omega) HR1.out).mono ?_
    rintro e w2 ⟨g2, m, cc, rfl, hm, ho, hb⟩
    have HO := Lib.hid ho
    have HB2 := Lib.hid (bthen HB1.out hb)
    clear ho hb hm
    go_wp2
    go_ret2
    refine ⟨g2, 8 + m, cc, rfl, ?_, HB2.out⟩
    have := HO.out.mono hs1
    rw [take_40] at this
    exact this
end Go.Proofs.Ytbnlpidhbilenaa

namespace Go.Proofs.Ytbnlpidhbilenaa
open Go.ChangeShapes Go.WideShapes Go.ChangeAt Go.RowKit Plain
set_option linter.unusedVariables false
set_option maxRecDepth 100000
theorem list9 {α : Type} {l : List α} (h : l.length = 9) : ∃ a b c d e f g i j, l = [a, b, c, d, e, f, g, i, j] := by
  rcases l with _ | ⟨a, l⟩
  · cases h
  rcases l with _ | ⟨b, l⟩
  · simp at h
  rcases l with _ | ⟨c, l⟩
  · simp at h
  rcases l with _ | ⟨d, l⟩
  · simp at h
  rcases l with _ | ⟨e, l⟩
  · simp at h
  rcases l with _ | ⟨f, l⟩
  · simp at h
  rcases l with _ | ⟨g, l⟩
  · simp at h
  rcases l with _ | ⟨i, l⟩
  · simp at h
  rcases l with _ | ⟨j, l⟩
  · simp at h
  rcases l with _ | ⟨k, l⟩
  · exact ⟨a, b, c, d, e, f, g, i, j, rfl⟩
  · simp at h
/-- its parts -/
structure S15V where
  out : Bool
  what : Int
  who : Int
  port : Int
  fl : Int
  A : Option Addr
  n : Nat
  c : Nat
  ys : List Int
  bend : Int
  byv : Int
  tick : Int
def S15V.cs (x : S15V) : List Value := [.bool x.out, .int .i64 x.what, .int .i64 x.who, .int .i64 x.port, .int .i64 x.fl, .slice x.A x.n x.c, .int .i64 x.bend, .int .u8 x.byv, .int .i64 x.tick]
structure S15V.ok (x : S15V) (w : World) : Prop where
  len : x.ys.length = x.n
  cap : x.n ≤ x.c
  max : x.c ≤ 9223372036854775807
  rd : Rd w x.A x.ys
  b0 : 0 ≤ x.byv
  b1 : x.byv ≤ 255
  tw : (Lit.int .i64 x.tick).wf = true
  ww : (Lit.int .i64 x.what).wf = true
theorem trod_s15 {H : Type} {enc : TypeId × Value → H} {W : World} {m : Nat} {l : List Value} {y : DataW H × List MemPlace} (hl : l.length = 9)
    (h : DataW.trod enc Try.prog W 0 (fun _ => true) true m 40 l = some y) : ∃ x : S15V, l = x.cs ∧ x.ok W := by
  have ci : Try.prog.cellsOf 3 = 1 := by kernel_rfl
  have cb : Try.prog.cellsOf 4 = 1 := by kernel_rfl
  have c8 : Try.prog.cellsOf 5 = 1 := by kernel_rfl
  have cs : Try.prog.cellsOf 27 = 1 := by kernel_rfl
  obtain ⟨c0, c1, c2, c3, c4, c5, c6, c7, c8', rfl⟩ := list9 hl
  obtain ⟨xs, n, _, hx, _, hlen, hg⟩ := DataW.trod_struct Try.underlying40 h
  obtain ⟨y0, y1, y2, y3, y4, y5, y6, y7, y8, rfl⟩ := list9 hlen
  have g0 : DataW.trod enc Try.prog W 0 (fun _ => true) true n 4 [c0] = some y0 := by simpa [Value.cells, ci, cb, c8, cs] using hg 0 _ rfl
  have g1 : DataW.trod enc Try.prog W 0 (fun _ => true) true n 3 [c1] = some y1 := by simpa [Value.cells, ci, cb, c8, cs] using hg 1 _ rfl
  have g2 : DataW.trod enc Try.prog W 0 (fun _ => true) true n 3 [c2] = some y2 := by simpa [Value.cells, ci, cb, c8, cs] using hg 2 _ rfl
  have g3 : DataW.trod enc Try.prog W 0 (fun _ => true) true n 3 [c3] = some y3 := by simpa [Value.cells, ci, cb, c8, cs] using hg 3 _ rfl
  have g4 : DataW.trod enc Try.prog W 0 (fun _ => true) true n 3 [c4] = some y4 := by simpa [Value.cells, ci, cb, c8, cs] using hg 4 _ rfl
  have g5 : DataW.trod enc Try.prog W 0 (fun _ => true) true n 27 [c5] = some y5 := by simpa [Value.cells, ci, cb, c8, cs] using hg 5 _ rfl
  have g6 : DataW.trod enc Try.prog W 0 (fun _ => true) true n 3 [c6] = some y6 := by simpa [Value.cells, ci, cb, c8, cs] using hg 6 _ rfl
  have g7 : DataW.trod enc Try.prog W 0 (fun _ => true) true n 5 [c7] = some y7 := by simpa [Value.cells, ci, cb, c8, cs] using hg 7 _ rfl
  have g8 : DataW.trod enc Try.prog W 0 (fun _ => true) true n 3 [c8'] = some y8 := by simpa [Value.cells, ci, cb, c8, cs] using hg 8 _ rfl
  obtain ⟨a0, e0, _⟩ := DataW.trod_bool Try.underlying4 g0
  obtain ⟨a1, e1, _, w1⟩ := DataW.trod_int Try.underlying3 g1
  obtain ⟨a2, e2, _, w2⟩ := DataW.trod_int Try.underlying3 g2
  obtain ⟨a3, e3, _, w3⟩ := DataW.trod_int Try.underlying3 g3
  obtain ⟨a4, e4, _, w4⟩ := DataW.trod_int Try.underlying3 g4
  obtain ⟨a6, e6, _, w6⟩ := DataW.trod_int Try.underlying3 g6
  obtain ⟨a7, e7, _, w7⟩ := DataW.trod_int Try.underlying5 g7
  obtain ⟨a8, e8, _, w8⟩ := DataW.trod_int Try.underlying3 g8
  have hs : ∃ (a : Option Addr) (len cap : Nat), c5 = .slice a len cap := by
    rcases open_ints Try.underlying27 Try.underlying5 (by kernel_rfl) g5 with ⟨hcs, _⟩ | ⟨x, l, c, zs, hcs, _⟩
    · injection hcs with hcs; exact ⟨_, _, _, hcs⟩
    · injection hcs with hcs; exact ⟨_, _, _, hcs⟩
  obtain ⟨a, len, cap, rfl⟩ := hs
  obtain ⟨ys, h1, h2, h3, h4⟩ := open_rd (d := y5.1) (p := y5.2) ⟨n, g5⟩
  simp at e0 e1 e2 e3 e4 e6 e7 e8
  subst e0 e1 e2 e3 e4 e6 e7 e8
  have z7 := bounds_u8 w7
  unfold maxLen at h3
  exact ⟨⟨a0, a1, a2, a3, a4, a, len, cap, ys, a6, a7, a8⟩, rfl, ⟨h1, h2, by simpa using h3, h4, z7.1, by show a7 ≤ 255; omega, w8, w1⟩⟩
theorem open_s15 {H : Type} {enc : TypeId × Value → H} {W : World} {r : Reach} {b0 : Nat} {v : Value} {d : DataW H} {p : List MemPlace}
    (hv : Value.okWide Try.prog W r b0 40 v) (h : DataW.Trod enc Try.prog W 0 (fun _ => true) true 40 v d p) :
    ∃ x : S15V, v = .agg x.cs.toArray ∧ x.ok W := by
  obtain ⟨cs, rfl, hsz⟩ := okWide_struct Try.underlying40 hv
  have hC : Try.prog.cellsOf 40 = 9 := by kernel_rfl
  obtain ⟨l⟩ := cs
  obtain ⟨fuel, hf⟩ := h
  obtain ⟨x, e, hok⟩ := trod_s15 (l := l) (by simpa using hsz.trans hC) hf
  exact ⟨x, by rw [e], hok⟩
end Go.Proofs.Ytbnlpidhbilenaa

namespace Go.Proofs.Ytbnlpidhbilenaa
open Go.ChangeShapes Go.WideShapes Go.ChangeAt Go.RowKit Go.Deep Plain
set_option linter.unusedVariables false
set_option linter.unusedSimpArgs false
set_option maxRecDepth 100000
theorem lst5 {α : Type} {l : List α} (h : l.length = 5) : ∃ a0 a1 a2 a3 a4, l = [a0, a1, a2, a3, a4] := by
  rcases l with _ | ⟨a0, l⟩
  · simp at h
  rcases l with _ | ⟨a1, l⟩
  · simp at h
  rcases l with _ | ⟨a2, l⟩
  · simp at h
  rcases l with _ | ⟨a3, l⟩
  · simp at h
  rcases l with _ | ⟨a4, l⟩
  · simp at h
  rcases l with _ | ⟨b, l⟩
  · exact ⟨a0, a1, a2, a3, a4, rfl⟩
  · simp at h
theorem lst13 {α : Type} {l : List α} (h : l.length = 13) : ∃ a0 a1 a2 a3 a4 a5 a6 a7 a8 a9 a10 a11 a12, l = [a0, a1, a2, a3, a4, a5, a6, a7, a8, a9, a10, a11, a12] := by
  rcases l with _ | ⟨a0, l⟩
  · simp at h
  rcases l with _ | ⟨a1, l⟩
  · simp at h
  rcases l with _ | ⟨a2, l⟩
  · simp at h
  rcases l with _ | ⟨a3, l⟩
  · simp at h
  rcases l with _ | ⟨a4, l⟩
  · simp at h
  rcases l with _ | ⟨a5, l⟩
  · simp at h
  rcases l with _ | ⟨a6, l⟩
  · simp at h
  rcases l with _ | ⟨a7, l⟩
  · simp at h
  rcases l with _ | ⟨a8, l⟩
  · simp at h
  rcases l with _ | ⟨a9, l⟩
  · simp at h
  rcases l with _ | ⟨a10, l⟩
  · simp at h
  rcases l with _ | ⟨a11, l⟩
  · simp at h
  rcases l with _ | ⟨a12, l⟩
  · simp at h
  rcases l with _ | ⟨b, l⟩
  · exact ⟨a0, a1, a2, a3, a4, a5, a6, a7, a8, a9, a10, a11, a12, rfl⟩
  · simp at h

structure A18 where
  what : Int
  i : Int
  s : S15V
  err : Int
  port : Int
def A18.cs (x : A18) : List Value := [.int .i64 x.what, .int .i64 x.i] ++ x.s.cs ++ [.int .i64 x.err, .int .i64 x.port]
structure A18.ok (x : A18) (w : World) : Prop where
  ww : (Lit.int .i64 x.what).wf = true
  wi : (Lit.int .i64 x.i).wf = true
  we : (Lit.int .i64 x.err).wf = true
  wp : (Lit.int .i64 x.port).wf = true
  sk : x.s.ok w
def s150 : S15V := ⟨false, 0, 0, 0, 0, none, 0, 0, [], 0, 0, 0⟩
def a180 : A18 := ⟨0, 0, s150, 0, 0⟩
/-- a row of Acts reads as a list -/
def RdA (w : World) (A : Option Addr) (L : List A18) : Prop :=
  0 < L.length → ∃ b off, A = some ⟨b, off, none⟩ ∧ b < w.heap.size ∧ ∀ i, i < L.length → At w ⟨b, off + i * 13, none⟩ (L.getD i a180).cs
set_option maxHeartbeats 2000000 in
theorem trod_a18 {H : Type} {enc : TypeId × Value → H} {W : World} {m : Nat} {l : List Value} {y : DataW H × List MemPlace} (hl : l.length = 13) (h : DataW.trod enc Try.prog W 0 (fun _ => true) true m 42 l = some y) : ∃ x : A18, l = x.cs ∧ x.ok W := by
  have ci : Try.prog.cellsOf 3 = 1 := by kernel_rfl
  have ck : Try.prog.cellsOf 40 = 9 := by kernel_rfl
  obtain ⟨c0, c1, c2, c3, c4, c5, c6, c7, c8, c9, c10, c11, c12, rfl⟩ := lst13 hl
  obtain ⟨xs, n, _, hx, _, hlen, hg⟩ := DataW.trod_struct Try.underlying42 h
  obtain ⟨y0, y1, y2, y3, y4, rfl⟩ := lst5 hlen
  have g0 : DataW.trod enc Try.prog W 0 (fun _ => true) true n 3 [c0] = some y0 := by simpa [Value.cells, ci, ck] using hg 0 _ rfl
  have g1 : DataW.trod enc Try.prog W 0 (fun _ => true) true n 3 [c1] = some y1 := by simpa [Value.cells, ci, ck] using hg 1 _ rfl
  have g2 : DataW.trod enc Try.prog W 0 (fun _ => true) true n 40 [c2, c3, c4, c5, c6, c7, c8, c9, c10] = some y2 := by simpa [Value.cells, ci, ck] using hg 2 _ rfl
  have g3 : DataW.trod enc Try.prog W 0 (fun _ => true) true n 3 [c11] = some y3 := by simpa [Value.cells, ci, ck] using hg 3 _ rfl
  have g4 : DataW.trod enc Try.prog W 0 (fun _ => true) true n 3 [c12] = some y4 := by simpa [Value.cells, ci, ck] using hg 4 _ rfl
  obtain ⟨a0, e0, _, w0⟩ := DataW.trod_int Try.underlying3 g0
  obtain ⟨a1, e1, _, w1⟩ := DataW.trod_int Try.underlying3 g1
  obtain ⟨s, e2, ok⟩ := trod_s15 rfl g2
  obtain ⟨a3, e3, _, w3⟩ := DataW.trod_int Try.underlying3 g3
  obtain ⟨a4, e4, _, w4⟩ := DataW.trod_int Try.underlying3 g4
  simp at e0 e1 e3 e4
  subst e0 e1 e3 e4
  refine ⟨⟨a0, a1, s, a3, a4⟩, ?_, ⟨w0, w1, w3, w4, ok⟩⟩
  unfold A18.cs
  simp only
  rw [← e2]
  rfl
theorem open_acts18 {H : Type} {enc : TypeId × Value → H} {W : World} {a : Option Addr} {len cap : Nat} {d : DataW H} {p : List MemPlace} (h : DataW.Trod enc Try.prog W 0 (fun _ => true) true 22 (.slice a len cap) d p) :
    ∃ L : List A18, L.length = len ∧ len ≤ cap ∧ cap ≤ maxLen ∧ RdA W a L ∧ ∀ x ∈ L, x.ok W := by
  have hC : Try.prog.cellsOf 42 = 13 := by kernel_rfl
  obtain ⟨fuel, hf⟩ := h
  rcases Go.Deep.open_slice Try.underlying22 hf with ⟨hcs, _⟩ | ⟨x, l, c, m, n, D, Pl, hcs, _, hl, hm, hmm, hx, hi⟩
  · simp [Value.cells] at hcs
    obtain ⟨rfl, rfl, rfl⟩ := hcs
    exact ⟨[], rfl, Nat.le_refl _, Nat.zero_le _, fun h => absurd h (by simp), fun x hx => (by cases hx)⟩
  · simp [Value.cells] at hcs
    obtain ⟨rfl, rfl, rfl⟩ := hcs
    have hmc : m = cap := by simpa using hmm
    subst hmc
    have key : ∀ i, ∃ t : A18, i < len → (∀ j v, t.cs[j]? = some v → W.cell? ((x.add (i * 13)).add j) = some v) ∧ t.ok W := by
      intro i
      by_cases hil : i < len
      · obtain ⟨cs', hc, ht'⟩ := hi i (by omega)
        rw [hC] at hc
        obtain ⟨_, hcl, hat⟩ := World.cells?_some hc
        obtain ⟨y, rfl, hok⟩ := trod_a18 hcl ht'
        refine ⟨y, fun _ => ⟨fun j v hv => ?_, hok⟩⟩
        have hj : j < 13 := (List.getElem?_eq_some_iff.1 hv).1
        rw [hat j hj]; exact hv
      · exact ⟨a180, fun h => absurd h hil⟩
    obtain ⟨T, hT⟩ := Classical.axiomOfChoice key
    refine ⟨(List.range len).map T, by simp, hl, hm, fun hp => ?_, fun y hy => ?_⟩
    · rw [List.length_map, List.length_range] at hp
      obtain ⟨b, off, spot⟩ := x
      have h0 := (hT 0 hp).1 0 _ rfl
      have hspot : spot = none := by simpa [Addr.add] using World.cell?_spot h0
      subst hspot
      refine ⟨b, off, rfl, ?_, fun i hi j v hv => ?_⟩
      · have e : ((⟨b, off, none⟩ : Addr).add (0 * 13)).add 0 = ⟨b, off, none⟩ := by simp [Addr.add]
        rw [e] at h0
        exact block_lt_of_cell h0
      · rw [List.length_map, List.length_range] at hi
        have e : ((List.range len).map T).getD i a180 = T i := by simp [List.getD, hi]
        rw [e] at hv
        have := (hT i hi).1 j v hv
        rw [addr_add] at this
        exact this
    · obtain ⟨i, hi, rfl⟩ := List.mem_map.1 hy
      exact (hT i (by simpa using hi)).2
end Go.Proofs.Ytbnlpidhbilenaa
