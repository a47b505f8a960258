/-
  SumFixes: its walk.
-/
import Derived.Test.YtnaopekljknlaaaCut
import Derived.BigRegion
namespace Go.Proofs.Ytnaopekljknlaaa
open Go.RowKit Plain
set_option linter.unusedVariables false

theorem Own.cut {w : World} {base n c k : Nat} {A : Option Addr} {zs : List Int} (h : Own w base A n c zs) (hk : k ≤ n) : Own w base A k c (zs.take k) := by
  refine ⟨by rw [List.length_take, h.len]; omega, h.byt.take k, by simp [List.length_take, h.len]; omega, ?_⟩
  rcases h.row.2 with ⟨e, h0⟩ | ⟨g, cap, cur, e, hb, hg, hnc, hcm, hcs, ht⟩
  · injection e with e1 e2 e3
    subst e1 e2 e3
    exact .inl ⟨by rw [show k = 0 by omega], by omega⟩
  · injection e with e1 e2 e3
    subst e1 e3
    refine .inr ⟨g, c, cur, rfl, hb, hg, by omega, hcm, hcs, ?_⟩
    rw [List.map_take, ← ht, List.take_take, Nat.mul_one, Nat.mul_one, Nat.min_eq_left hk]

theorem or_b16 (x y : Int) (h0 : 0 ≤ x) (h1 : x ≤ 255) (h2 : 0 ≤ y) (h3 : y ≤ 255) : bits .or .u16 (x * 256) y = x * 256 + y := by go_bits2
theorem or_b32 (x y : Int) (h0 : 0 ≤ x) (h1 : x ≤ 65535) (h2 : 0 ≤ y) (h3 : y ≤ 65535) : bits .or .u32 (x * 65536) y = x * 65536 + y := by go_bits2

/-- a sum s that stands for bytes whose total is T; mended, it stands for the changed total -/
theorem fx_mod (s T o n : Int) (s0 : 0 ≤ s) (s1 : s ≤ 65535) (o0 : 0 ≤ o) (o1 : o ≤ 65535) (n0 : 0 ≤ n) (n1 : n ≤ 65535) (hT : 0 ≤ T) (hT' : 0 ≤ T - o + n) (h : (s + T) % 65535 = 0) :
    (Fx s o n + (T - o + n)) % 65535 = 0 ∧ Fx s o n % 65535 = (65535 - F (T - o + n)) % 65535 := by
  have a := F_range (65535 - s + (65535 - o) + n) (by omega)
  have b := F_mod (65535 - s + (65535 - o) + n) (by omega)
  have c := F_range (T - o + n) hT'
  have d := F_mod (T - o + n) hT'
  unfold Fx
  generalize F (65535 - s + (65535 - o) + n) = u at *
  generalize F (T - o + n) = v at *
  omega
theorem tot_word (l : List Int) (i : Nat) (v0 v1 a0 a1 : Int) (hi : i % 2 = 0) (h : i + 1 < l.length) (ha0 : a0 = l.getD i 0) (ha1 : a1 = l.getD (i + 1) 0) :
    tot ((l.set i v0).set (i + 1) v1) = tot l - (a0 * 256 + a1) + (v0 * 256 + v1) := by
  have e1 := tot_set l i v0 (by omega)
  have e2 := tot_set (l.set i v0) (i + 1) v1 (by rw [List.length_set]; exact h)
  have e3 : (l.set i v0).getD (i + 1) 0 = l.getD (i + 1) 0 := by simp [List.getD]
  rw [e3, if_neg (by omega)] at e2
  rw [if_pos hi] at e1
  rw [e2, e1, ← ha0, ← ha1]
  omega
theorem getD_set_ne (l : List Int) (i j : Nat) (v : Int) (h : i ≠ j) : (l.set i v).getD j 0 = l.getD j 0 := by simp [List.getD, h]

set_option maxRecDepth 100000 in
set_option maxHeartbeats 8000000 in
theorem sumFixes_walk (A : Option Addr) (n c : Nat) (zs : List Int) (at_ x y : Int) (w : World) (hn : zs.length = n) (hnc : n ≤ c) (hm : c ≤ maxLen) (hR : Rd w A zs) (hb0 : -9223372036854775808 ≤ at_) (hb1 : at_ ≤ 9223372036854775807)
    (x0 : 0 ≤ x) (x1 : x ≤ 65535) (y0 : 0 ≤ y) (y1 : y ≤ 65535) :
    Calls Try.prog 4 #[.slice A n c, .int .i64 at_, .agg #[.int .u16 x, .int .u16 y]] w fun e w' => e = .returned (.bool true) ∧ Below w.heap.size w w' := by
  unfold maxLen at hm
  have Hn := Lib.hid hn
  clear hn
  go_enter Try.func4, Try.ntmps4
  go_upto_region 1 with fail
  obtain ⟨wb, hwb⟩ : ∃ wb, wb = w.alloc (.cells #[.int .u16 x, .int .u16 y] 33) := ⟨_, rfl⟩
  have hbb : Below w.heap.size w wb := by rw [hwb]; exact (Below.refl _ _).alloc (Nat.le_refl _) _
  have hblk : Blk wb w.heap.size 33 #[.int .u16 x, .int .u16 y] := by rw [hwb]; exact Blk.new w _ _
  have hszb : wb.heap.size = w.heap.size + 1 := by rw [hwb]; simp
  rw [← hwb]
  have hRb := hR.below hbb
  have Hbb := Lib.hid hbb
  have Hblk := Lib.hid hblk
  have Hszb := Lib.hid hszb
  clear hwb hR hbb hblk hszb
  go_cut [0] (fun s0 wx => ∃ (g k c' : Nat) (ys : List Int), s0 = .slice (some ⟨g, 0, none⟩) k c' ∧ Own wx wb.heap.size (some ⟨g, 0, none⟩) k c' ys ∧ k ≤ 200 ∧ Below wb.heap.size wb wx)
  case first =>
    have r1 := Lib.hid hRb
    have r2 := Lib.hid (hRb.take 200)
    clear hRb
    by_cases h200 : n ≤ 200
    · go_wp2_with (at_builtin; refine wpList_app rfl (.tmp 14) (.tmp 19) rfl rfl (Own.empty wb (Nat.le_refl _)) zs rfl (r1.out.alloc _) Hn.out (by omega) (by simp) ?_)
      intro A' c' w' hown hg hA
      have hbe := below_app ((Below.refl _ _).alloc (Nat.le_refl _) _) hg (Own.empty wb (Nat.le_refl _)) (Nat.le_refl _) (by simp)
      obtain ⟨g, rfl⟩ : ∃ g, A' = some ⟨g, 0, none⟩ := by rcases hA with h | h <;> exact ⟨_, h⟩
      clear hA hg
      go_wp2
      go_meet
      exact ⟨g, _, c', _, rfl, hown, by omega, hbe⟩
    · go_wp2_with (at_builtin; refine wpList_app rfl (.tmp 14) (.tmp 19) rfl rfl (Own.empty wb (Nat.le_refl _)) (zs.take 200) rfl (r2.out.alloc _) (by rw [List.length_take, Hn.out]; omega) (by omega) (by simp) ?_)
      intro A' c' w' hown hg hA
      have hbe := below_app ((Below.refl _ _).alloc (Nat.le_refl _) _) hg (Own.empty wb (Nat.le_refl _)) (Nat.le_refl _) (by simp)
      obtain ⟨g, rfl⟩ : ∃ g, A' = some ⟨g, 0, none⟩ := by rcases hA with h | h <;> exact ⟨_, h⟩
      clear hA hg
      go_wp2
      go_meet
      exact ⟨g, _, c', _, rfl, hown, by omega, hbe⟩
  case rest =>
    obtain ⟨g, k, c', ys, rfl, hown, hk, hbel⟩ := hcut
    have hkc := hown.cap
    have Hown := Lib.hid hown
    have Hbel := Lib.hid hbel
    clear hown hbel hRb
    go_upto_if 24 with fail
    go_cut [0] (fun s0 wx => ∃ (k2 : Nat) (l : List Int), s0 = .slice (some ⟨g, 0, none⟩) k2 c' ∧ Own wx wb.heap.size (some ⟨g, 0, none⟩) k2 c' l ∧ k2 ≤ 200 ∧ k2 % 2 = 0 ∧ Below wb.heap.size wb wx)
    case first =>
      by_cases hodd : k % 2 = 1
      · have i0 : ((k : Int) % 2 == 1) = true := by simp; omega
        have i1 : (0 : Int) ≤ (k : Int) - 1 := by omega
        have i2 : ((k : Int) - 1).toNat = k - 1 := by omega
        go_wp2
        go_meet
        exact ⟨k - 1, _, rfl, Hown.out.cut (by omega), by omega, by omega, Hbel.out⟩
      · have i0 : ((k : Int) % 2 == 1) = false := by simp; omega
        go_wp2
        go_meet
        exact ⟨k, ys, rfl, Hown.out, by omega, by omega, Hbel.out⟩
    case rest =>
      obtain ⟨k2, l, rfl, hown2, hk200, hk2, hbel2⟩ := hcut
      have hsz2 := hbel2.size
      have hgl := hown2.form
      have hkc2 := hown2.cap
      have Hown2 := Lib.hid hown2
      have Hbel2 := Lib.hid hbel2
      clear hown2 hbel2 Hown Hbel hkc hk
      go_wp2_with fail
      refine (sums_any _).mono ?_
      rintro e w3 ⟨rfl, hb3⟩
      have Hown3 := Lib.hid (Hown2.out.below hb3)
      have Hbel3 := Lib.hid (Hbel2.out.trans (hb3.mono hsz2))
      clear hb3 Hown2 Hbel2
      by_cases h4 : k2 < 4
      · have i0 : (k2 : Int) < 4 := by omega
        go_wp2_with (go_at_call 15; refine (sums_any _).mono ?_; rintro e w4 ⟨rfl, hb4⟩)
        have hs3 := Hbel3.out.size
        go_ret
        exact ⟨rfl, (Hbb.out.trans (Hbel3.out.mono Hbb.out.size)).trans (hb4.mono (Nat.le_trans Hbb.out.size hs3))⟩
      · have i0 : ¬ (k2 : Int) < 4 := by omega
        rcases hgl with ⟨h, _⟩ | ⟨g', hg', hg0, hg1⟩
        · cases h
        obtain rfl : g = g' := by injection hg' with h; injection h
        clear hg'
        obtain ⟨K, hK, hKl⟩ := pick_any at_ ((k2 : Int) / 2 - 1) (by omega) (by omega)
        have hC := Cs_range l Hown3.out.byt
        go_wp2_with fail
        refine (of_n _ _ _ l _ Hown3.out.len (by omega) Hown3.out.rd).mono ?_
        rintro e w' ⟨rfl, q1, rfl⟩
        go_upto_region 8 with fail
        clear hK
        obtain ⟨i, hi⟩ : ∃ i : Nat, (i : Int) = (K : Int) * 2 := ⟨K * 2, by omega⟩
        rw [← hi]
        have hi2 : i % 2 = 0 := by omega
        have hi3 : i + 3 < k2 := by omega
        clear hi hKl
        obtain ⟨a0, ha0⟩ : ∃ a, a = l.getD i 0 := ⟨_, rfl⟩
        obtain ⟨a1, ha1⟩ : ∃ a, a = l.getD (i + 1) 0 := ⟨_, rfl⟩
        obtain ⟨a2, ha2⟩ : ∃ a, a = l.getD (i + 2) 0 := ⟨_, rfl⟩
        obtain ⟨a3, ha3⟩ : ∃ a, a = l.getD (i + 3) 0 := ⟨_, rfl⟩
        have b0 := Hown3.out.byt.getD i
        have b1 := Hown3.out.byt.getD (i + 1)
        have b2 := Hown3.out.byt.getD (i + 2)
        have b3 := Hown3.out.byt.getD (i + 3)
        have c0 := Hown3.out.at (k := i) (by omega)
        have c1 := Hown3.out.at (k := i + 1) (by omega)
        have c2 := Hown3.out.at (k := i + 2) (by omega)
        have c3 := Hown3.out.at (k := i + 3) (by omega)
        rw [← ha0] at b0 c0
        rw [← ha1] at b1 c1
        rw [← ha2] at b2 c2
        rw [← ha3] at b3 c3
        have HA := Lib.hid (And.intro ha0 (And.intro ha1 (And.intro ha2 ha3)))
        clear ha0 ha1 ha2 ha3
        go_cut [9] (fun s9 wx => ∃ p, s9 = .pointer (some ⟨p, 0, none⟩) ∧ Blk wx p 33 #[.int .u16 (a0 * 256 + a1), .int .u16 (a2 * 256 + a3)] ∧ wb.heap.size ≤ p ∧ p ≠ g ∧ Own wx wb.heap.size (some ⟨g, 0, none⟩) k2 c' l ∧ Below wb.heap.size wb wx)
        case first =>
          have j0 : (0 : Int) ≤ (i : Int) := by omega
          have j1 : (i : Int) < (k2 : Int) := by omega
          have j2 : (i : Int) + 1 < (k2 : Int) := by omega
          have j3 : (i : Int) + 2 < (k2 : Int) := by omega
          have j4 : (i : Int) + 3 < (k2 : Int) := by omega
          have v1 : IntKind.i64.wrap ((i : Int) + 1) = (i : Int) + 1 := by rw [IntKind.wrap_i64]; omega
          have v2 : IntKind.i64.wrap ((i : Int) + 2) = (i : Int) + 2 := by rw [IntKind.wrap_i64]; omega
          have v3 : IntKind.i64.wrap ((i : Int) + 3) = (i : Int) + 3 := by rw [IntKind.wrap_i64]; omega
          have o1 := or_b16 a0 a1 b0.1 b0.2 b1.1 b1.2
          have o2 := or_b16 a2 a3 b2.1 b2.2 b3.1 b3.2
          have x0 : IntKind.u16.wrap (a0 * 256) = a0 * 256 := by rw [IntKind.wrap_u16]; omega
          have x2 : IntKind.u16.wrap (a2 * 256) = a2 * 256 := by rw [IntKind.wrap_u16]; omega
          have n1 : (0 : Int) ≤ (i : Int) + 1 := by omega
          have n2 : (0 : Int) ≤ (i : Int) + 2 := by omega
          have n3 : (0 : Int) ≤ (i : Int) + 3 := by omega
          have t1 : ((i : Int) + 1).toNat = i + 1 := by omega
          have t2 : ((i : Int) + 2).toNat = i + 2 := by omega
          have t3 : ((i : Int) + 3).toNat = i + 3 := by omega
          have ng : ¬ w3.heap.size = g := by have := Hown3.out.form; rcases this with ⟨h, _⟩ | ⟨g2, h, _, h2⟩; cases h; injection h with h; injection h with h; omega
          generalize hww : w3.drewN q1 = ww
          have c0' : ww.cell? ⟨g, i, none⟩ = some (.int .u8 a0) := by rw [← hww]; exact c0
          have c1' : ww.cell? ⟨g, i + 1, none⟩ = some (.int .u8 a1) := by rw [← hww]; exact c1
          have c2' : ww.cell? ⟨g, i + 2, none⟩ = some (.int .u8 a2) := by rw [← hww]; exact c2
          have c3' : ww.cell? ⟨g, i + 3, none⟩ = some (.int .u8 a3) := by rw [← hww]; exact c3
          have ng' : ¬ ww.heap.size = g := by rw [← hww]; exact ng
          have ng2 : ¬ g = ww.heap.size := fun h => ng' h.symm
          have hgl : g < ww.heap.size := by have := block_lt_of_cell c0'; simpa using this
          have d0' := (World.cell?_alloc_lt ww (.cells #[.int .u16 0, .int .u16 0] 33) ⟨g, i, none⟩ hgl).trans c0'
          have d1' := (World.cell?_alloc_lt ww (.cells #[.int .u16 0, .int .u16 0] 33) ⟨g, i + 1, none⟩ hgl).trans c1'
          have d2' := (World.cell?_alloc_lt ww (.cells #[.int .u16 0, .int .u16 0] 33) ⟨g, i + 2, none⟩ hgl).trans c2'
          have d3' := (World.cell?_alloc_lt ww (.cells #[.int .u16 0, .int .u16 0] 33) ⟨g, i + 3, none⟩ hgl).trans c3'
          have HWW := Lib.hid hww
          clear c0 c1 c2 c3 ng hww
          go_region
          go_wp2_with fail
          go_meet
          have hO : Own ww wb.heap.size (some ⟨g, 0, none⟩) k2 c' l := by rw [← HWW.out]; exact Hown3.out.drewN q1
          have hB : Below wb.heap.size wb ww := by rw [← HWW.out]; exact below_drewN Hbel3.out q1
          have hn := Blk.new ww 33 #[.int .u16 (a0 * 256 + a1), .int .u16 (a2 * 256 + a3)]
          exact ⟨ww.heap.size, rfl, hn, hB.size, ng', (hO.alloc _).drewN 1, (hB.alloc hB.size _).drew⟩
        case rest =>
          obtain ⟨p, rfl, hblk, hp0, hpg, hown4, hbel4⟩ := hcut
          have hsz4 := hbel4.size
          have cp0 := hblk.cell 0
          have cp1 := hblk.cell 1
          have hwlt : w.heap.size < wb.heap.size := by rw [Hszb.out]; omega
          have hblkn := fun (W : World) (hW : Below wb.heap.size wb W) => (show Blk W w.heap.size 33 #[.int .u16 x, .int .u16 y] from (hW.block _ hwlt).trans Hblk.out)
          have cn0 := (hblkn _ hbel4).cell 0
          have cn1 := (hblkn _ hbel4).cell 1
          simp only [List.getElem?_toArray, List.getElem?_cons_zero, List.getElem?_cons_succ] at cp0 cp1 cn0 cn1
          obtain ⟨o0, ho0⟩ : ∃ o, o = a0 * 256 + a1 := ⟨_, rfl⟩
          obtain ⟨o1, ho1⟩ : ∃ o, o = a2 * 256 + a3 := ⟨_, rfl⟩
          rw [← ho0] at cp0 hblk
          rw [← ho1] at cp1 hblk
          have oo0 : 0 ≤ o0 ∧ o0 ≤ 65535 := by omega
          have oo1 : 0 ≤ o1 ∧ o1 ≤ 65535 := by omega
          have r1 := Fx_range (Cs l) o0 x hC.1 hC.2 oo0.1 oo0.2 x0 x1
          have r2 := Fx_range (Fx (Cs l) o0 x) o1 y r1.1 r1.2 oo1.1 oo1.2 y0 y1
          have or1 := or_b32 o0 o1 oo0.1 oo0.2 oo1.1 oo1.2
          have or2 := or_b32 x y x0 x1 y0 y1
          have HO := Lib.hid (And.intro ho0 ho1)
          have Hown4 := Lib.hid hown4
          have Hbel4 := Lib.hid hbel4
          have Hblkn := Lib.hid hblkn
          clear ho0 ho1 hown4 hbel4 hblkn Hown3 Hbel3 c0 c1 c2 c3 hblk
          go_wp2_with fail
          refine (fix_fx (Cs l) o0 x _ hC.1 hC.2 oo0.1 oo0.2 x0 x1).mono ?_
          rintro e w' ⟨rfl, rfl⟩
          go_wp2_with fail
          refine (fixWide_any (Cs l) (o0 * 65536 + o1) (x * 65536 + y) _ hC.1 hC.2 (by omega) (by omega) (by omega) (by omega)).mono ?_
          rintro e w' ⟨rfl, rfl⟩
          rw [show (o0 * 65536 + o1) / 65536 = o0 by omega, show (o0 * 65536 + o1) % 65536 = o1 by omega, show (x * 65536 + y) / 65536 = x by omega, show (x * 65536 + y) % 65536 = y by omega]
          go_wp2_with fail
          refine (refFix_any (Cs l) o0 x _ hC.1 hC.2 oo0.1 oo0.2 x0 x1).mono ?_
          rintro e w' ⟨rfl, rfl⟩
          go_wp2_with fail
          refine (refFix_any _ o1 y _ r1.1 r1.2 oo1.1 oo1.2 y0 y1).mono ?_
          rintro e w' ⟨rfl, rfl⟩
          go_upto_region 13 with fail
          have e0 := Hown4.out.at (k := i) (by omega)
          have e1 := Hown4.out.at (k := i + 1) (by omega)
          have f0 := Hown4.out.free i
          have f1 := Hown4.out.free (i + 1)
          have j0 : (0 : Int) ≤ (i : Int) := by omega
          have j1 : (i : Int) < (k2 : Int) := by omega
          have j2 : (i : Int) + 1 < (k2 : Int) := by omega
          have n1 : (0 : Int) ≤ (i : Int) + 1 := by omega
          have t1 : ((i : Int) + 1).toNat = i + 1 := by omega
          have ng : ¬ w.heap.size = g := by omega
          have ng2 : ¬ g = w.heap.size := by omega
          go_region
          go_wp2_with fail
          have HX := Lib.hid (show 0 ≤ x / 256 ∧ x / 256 ≤ 255 ∧ 0 ≤ x % 256 ∧ x % 256 ≤ 255 by omega)
          have HY := Lib.hid (show 0 ≤ y / 256 ∧ y / 256 ≤ 255 ∧ 0 ≤ y % 256 ∧ y % 256 ≤ 255 by omega)
          obtain ⟨w5, hw5⟩ : ∃ w5, w5 = ((wc.setCell ⟨g, i, none⟩ (Value.int .u8 (x / 256))).setCell ⟨g, i + 1, none⟩ (Value.int .u8 (x % 256))).drew := ⟨_, rfl⟩
          obtain ⟨l1, hl1⟩ : ∃ l1, l1 = (l.set i (x / 256)).set (i + 1) (x % 256) := ⟨_, rfl⟩
          have hown5 : Own w5 wb.heap.size (some ⟨g, 0, none⟩) k2 c' l1 := by
            rw [hw5, hl1]; exact ((Hown4.out.set i _ HX.out.1 HX.out.2.1).set (i + 1) _ HX.out.2.2.1 HX.out.2.2.2).drewN 1
          have hbel5 : Below wb.heap.size wb w5 := by
            rw [hw5]; exact ((Hbel4.out.setCell (p := ⟨g, i, none⟩) hg0 _).setCell (p := ⟨g, i + 1, none⟩) hg0 _).drew
          have hsz5 := hbel5.size
          have tl1 : tot l1 = tot l - o0 + x := by
            rw [hl1, tot_word l i _ _ a0 a1 hi2 (by rw [Hown4.out.len]; omega) HA.out.1 HA.out.2.1, HO.out.1]; omega
          have hb1' := Hown4.out.byt
          have T0 := tot_nonneg l hb1'
          have T1 := tot_nonneg l1 hown5.byt
          have hm0 : (Cs l + tot l) % 65535 = 0 := by
            have := F_mod _ T0
            unfold Cs; omega
          have M1 := fx_mod (Cs l) (tot l) o0 x hC.1 hC.2 oo0.1 oo0.2 x0 x1 T0 (by omega) hm0
          rw [← tl1] at M1
          have a2' : a2 = l1.getD (i + 2) 0 := by rw [hl1, getD_set_ne _ _ _ _ (by omega), getD_set_ne _ _ _ _ (by omega)]; exact HA.out.2.2.1
          have a3' : a3 = l1.getD (i + 3) 0 := by rw [hl1, getD_set_ne _ _ _ _ (by omega), getD_set_ne _ _ _ _ (by omega)]; exact HA.out.2.2.2
          have HA' := Lib.hid (And.intro a2' a3')
          rw [← hw5]
          have Hown5 := Lib.hid hown5
          have Hbel5 := Lib.hid hbel5
          have HM1 := Lib.hid M1
          have cm0 := (Hblkn.out _ hbel5).cell 0
          have cm1 := (Hblkn.out _ hbel5).cell 1
          simp only [List.getElem?_toArray, List.getElem?_cons_zero, List.getElem?_cons_succ] at cm0 cm1
          clear hown5 hbel5 M1 hm0 tl1 hl1 hw5 a2' a3' hb1' Hown4 Hbel4 e0 e1 f0 f1 t1 cp0 cp1 cn0 cn1 or1 or2
          refine (refOf_n _ _ _ l1 _ Hown5.out.len (by omega) Hown5.out.rd).mono ?_
          rintro e w' ⟨rfl, rfl⟩
          go_upto_region 15 with fail
          have e2 := Hown5.out.at (k := i + 2) (by omega)
          have e3 := Hown5.out.at (k := i + 3) (by omega)
          have f2 := Hown5.out.free (i + 2)
          have f3 := Hown5.out.free (i + 3)
          have j3 : (i : Int) + 2 < (k2 : Int) := by omega
          have j4 : (i : Int) + 3 < (k2 : Int) := by omega
          have n2 : (0 : Int) ≤ (i : Int) + 2 := by omega
          have n3 : (0 : Int) ≤ (i : Int) + 3 := by omega
          have t2 : ((i : Int) + 2).toNat = i + 2 := by omega
          have t3 : ((i : Int) + 3).toNat = i + 3 := by omega
          go_region
          go_wp2_with fail
          obtain ⟨w6, hw6⟩ : ∃ w6, w6 = ((w5.setCell ⟨g, i + 2, none⟩ (Value.int .u8 (y / 256))).setCell ⟨g, i + 3, none⟩ (Value.int .u8 (y % 256))).drew := ⟨_, rfl⟩
          obtain ⟨l2, hl2⟩ : ∃ l2, l2 = (l1.set (i + 2) (y / 256)).set (i + 3) (y % 256) := ⟨_, rfl⟩
          have hown6 : Own w6 wb.heap.size (some ⟨g, 0, none⟩) k2 c' l2 := by
            rw [hw6, hl2]; exact ((Hown5.out.set (i + 2) _ HY.out.1 HY.out.2.1).set (i + 3) _ HY.out.2.2.1 HY.out.2.2.2).drewN 1
          have hbel6 : Below wb.heap.size wb w6 := by
            rw [hw6]; exact ((Hbel5.out.setCell (p := ⟨g, i + 2, none⟩) hg0 _).setCell (p := ⟨g, i + 3, none⟩) hg0 _).drew
          have tl2 : tot l2 = tot l1 - o1 + y := by
            rw [hl2, tot_word l1 (i + 2) _ _ a2 a3 (by omega) (by rw [Hown5.out.len]; omega) HA'.out.1 HA'.out.2, HO.out.2]; omega
          have T2 := tot_nonneg l2 hown6.byt
          have M2 := fx_mod _ (tot l1) o1 y r1.1 r1.2 oo1.1 oo1.2 y0 y1 T1 (by omega) HM1.out.1
          rw [← tl2] at M2
          rw [← hw6]
          have m1 : (Fx (Cs l) o0 x % 65535 == Cs l1 % 65535) = true := by rw [beq_iff_eq]; exact HM1.out.2
          have m2 : (Fx (Fx (Cs l) o0 x) o1 y % 65535 == Cs l2 % 65535) = true := by rw [beq_iff_eq]; exact M2.2
          have hC1 := Cs_range l1 Hown5.out.byt
          have hC2 := Cs_range l2 hown6.byt
          have Hown6 := Lib.hid hown6
          have Hbel6 := Lib.hid hbel6
          clear hown6 hbel6 M2 tl2 hl2 hw6 Hown5 Hbel5 e2 e3 f2 f3 t2 t3 cm0 cm1
          refine (refOf_n _ _ _ l2 _ Hown6.out.len (by omega) Hown6.out.rd).mono ?_
          rintro e w' ⟨rfl, rfl⟩
          go_wp2
          go_ret
          exact ⟨rfl, Hbb.out.trans (Hbel6.out.mono Hbb.out.size)⟩
end Go.Proofs.Ytnaopekljknlaaa
