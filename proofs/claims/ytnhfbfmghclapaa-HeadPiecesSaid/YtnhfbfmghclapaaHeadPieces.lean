/-
  HeadPieces: its walk.
-/
import Derived.Test.YtnhfbfmghclapaaOpenH
import Derived.Test.YtnhfbfmghclapaaCut
import Derived.Test.YtnhfbfmghclapaaRight
namespace Go.Proofs.Ytnhfbfmghclapaa
open Go.RowKit Plain
set_option linter.unusedVariables false
set_option maxRecDepth 100000

set_option maxHeartbeats 4000000 in
theorem headPieces_walk (h : Hd) (A : Option Addr) (n c : Nat) (zs : List Int) (bit : Int) (w : World) (ok : Hok h) (hn : zs.length = n) (hnc : n ≤ c) (hm : c ≤ maxLen) (hR : Rd w A zs) (hb0 : 0 ≤ bit) (hb1' : bit ≤ 65535) :
    Calls Try.prog 4 #[h.val, .slice A n c, .int .u16 bit] w fun e w' => e = .returned (.bool true) ∧ Below w.heap.size w w' := by
  unfold maxLen at hm
  have Hn := Lib.hid hn
  clear hn
  obtain ⟨hs, hln, t, p, s, d⟩ := h
  obtain ⟨ot0, ot1, op0, op1, s0, s1, d0, d1, _, _, _, _⟩ := ok
  simp only at ot0 ot1 op0 op1 s0 s1 d0 d1
  rw [show (Hd.mk hs hln t p s d).val = .agg #[.int .i64 hs, .int .i64 hln, .int .i64 t, .int .i64 p, .int .u32 s, .int .u32 d] from rfl]
  go_enter Try.func4, Try.ntmps4
  go_upto_region 1 with fail
  obtain ⟨w1, hw1⟩ : ∃ w1, w1 = w.alloc (.cells #[.int .i64 hs, .int .i64 hln, .int .i64 t, .int .i64 p, .int .u32 s, .int .u32 d] 24) := ⟨_, rfl⟩
  have bk : Blk w1 w.heap.size 24 #[.int .i64 hs, .int .i64 hln, .int .i64 t, .int .i64 p, .int .u32 s, .int .u32 d] := by rw [hw1]; exact Blk.new w _ _
  have hbw : Below w.heap.size w w1 := by rw [hw1]; exact (Below.refl _ _).alloc (Nat.le_refl _) _
  have Hbw := Lib.hid hbw
  have HR1 := Lib.hid (hR.below hbw)
  have k0 := bk.cell 0
  have k1 := bk.cell 1
  have k2 := bk.cell 2
  have k3 := bk.cell 3
  have k4 := bk.cell 4
  have k5 := bk.cell 5
  simp only [List.getElem?_toArray, List.getElem?_cons_zero, List.getElem?_cons_succ] at k0 k1 k2 k3 k4 k5
  rw [← hw1]
  clear hw1 bk hR hbw
  by_cases fit : (0 ≤ t ∧ t ≤ 255) ∧ 0 ≤ p ∧ p ≤ 255
  · obtain ⟨⟨t0, t1⟩, p0, p1⟩ := fit
    go_cut [7, 8] (fun s7 s8 wx => ∃ (g k c' : Nat) (ys : List Int), s7 = .slice (some ⟨g, 0, none⟩) (20 + k) c' ∧ s8 = .bool true ∧ ys.length = k ∧ k ≤ 100 ∧ By ys ∧ Own wx w.heap.size (some ⟨g, 0, none⟩) (20 + k) c' (frm t p s d ys) ∧ Below w.heap.size w wx)
    case first =>
      by_cases h100 : n ≤ 100
      · have i1 : (n : Int) ≤ 100 := by omega
        have i2 : (n : Int) ≤ (c : Int) := by omega
        go_region_with (first
            | (go_at_call 16; refine (rput_yes hs hln t p s d A n c zs _ (by omega) Hn.out HR1.out.drew t0 t1 p0 p1 s0 s1 d0 d1).mono ?_; rintro e w' ⟨g, cc, rfl, ho, hbl⟩))
        all_goals
          have HO := Lib.hid (ho.mono (base' := w.heap.size) Hbw.out.size)
          have HB := Lib.hid (Hbw.out.drew.trans (hbl.mono Hbw.out.size))
          clear ho hbl
          go_wp2_with fail
          go_meet
          exact ⟨g, n, cc, zs, rfl, rfl, Hn.out, h100, HR1.out.1, HO.out, HB.out⟩
      · have i1 : (100 : Int) < (n : Int) := by omega
        have i2 : (100 : Int) ≤ (c : Int) := by omega
        have i3 : 100 ≤ c := by omega
        go_region_with (first
            | (go_at_call 16; refine (rput_yes hs hln t p s d A 100 c (zs.take 100) _ (by omega) (by rw [List.length_take, Hn.out]; omega) (HR1.out.drew.take 100) t0 t1 p0 p1 s0 s1 d0 d1).mono ?_; rintro e w' ⟨g, cc, rfl, ho, hbl⟩))
        all_goals
          have HO := Lib.hid (ho.mono (base' := w.heap.size) Hbw.out.size)
          have HB := Lib.hid (Hbw.out.drew.trans (hbl.mono Hbw.out.size))
          clear ho hbl
          go_wp2_with fail
          go_meet
          exact ⟨g, 100, cc, zs.take 100, rfl, rfl, by rw [List.length_take, Hn.out]; omega, Nat.le_refl _, HR1.out.1.take 100, HO.out, HB.out⟩
    case rest =>
      obtain ⟨g, k, cc, ys, rfl, rfl, hyl, hk, hyb, ho, hbel⟩ := hcut
      have hsz := hbel.size
      have Hyl := Lib.hid hyl
      have Hyb := Lib.hid hyb
      have Ho := Lib.hid ho
      have Hbel := Lib.hid hbel
      clear hyl hyb ho hbel k0 k1 k2 k3 k4 k5
      go_wp2_with fail
      refine (heads_any _).mono ?_
      rintro e w2 ⟨rfl, hbh⟩
      have Ho2 := Lib.hid (Ho.out.below hbh)
      have Hb2 := Lib.hid (Hbel.out.trans (hbh.mono hsz))
      clear hbh Ho Hbel
      have hcap := Ho2.out.cap
      have hgl : w.heap.size ≤ g := by rcases Ho2.out.form with ⟨h, _⟩ | ⟨g2, h, hg, _⟩; cases h; injection h with h; injection h with h; omega
      have c6 := Ho2.out.at (k := 6) (by omega)
      have c7 := Ho2.out.at (k := 7) (by omega)
      have f6 := Ho2.out.free 6
      have f7 := Ho2.out.free 7
      have i6 : (6 : Int) < 20 + (k : Int) := by omega
      have i7 : (7 : Int) < 20 + (k : Int) := by omega
      have pg := piece_got t p s d ys bit Hyb.out (by rw [Hyl.out]; omega) t0 t1 p0 p1 s0 s1 d0 d1 hb0 hb1'
      have Hpg := Lib.hid pg
      have an := and3fff bit hb0 hb1'
      clear pg
      go_wp2_with fail
      obtain ⟨w3, hw3⟩ : ∃ w3, w3 = (w2.setCell ⟨g, 6, none⟩ (.int .u8 (bit / 256))).setCell ⟨g, 7, none⟩ (.int .u8 (bit % 256)) := ⟨_, rfl⟩
      have Ho3 := Lib.hid (show Own w3 w.heap.size (some ⟨g, 0, none⟩) (20 + k) cc (P16 (frm t p s d ys) 6 bit) by
        rw [hw3]; unfold P16; exact (Ho2.out.set 6 (bit / 256) (by omega) (by omega)).set 7 (bit % 256) (by omega) (by omega))
      have Hb3 := Lib.hid (show Below w.heap.size w w3 by rw [hw3]; exact (Hb2.out.setCell (p := ⟨g, 6, none⟩) hgl _).setCell (p := ⟨g, 7, none⟩) hgl _)
      rw [← hw3]
      clear hw3 c6 c7 f6 f7 Ho2 Hb2
      refine (rfix_any _ (20 + k) cc (P16 (frm t p s d ys) 6 bit) _ Ho3.out.len (by omega) (by omega) Ho3.out.rd).mono ?_
      rintro e w4 ⟨g2, c2, rfl, ho4, hb4⟩
      obtain ⟨l, hl⟩ : ∃ l, l = fixL (P16 (frm t p s d ys) 6 bit) := ⟨_, rfl⟩
      rw [← hl] at Hpg ho4
      have Ho4 := Lib.hid ho4
      have Hb4 := Lib.hid (Hb3.out.trans (hb4.mono Hb3.out.size))
      have hcap4 := ho4.cap
      clear ho4 hb4 Hb3 Ho3 hl
      go_wp2_with fail
      refine (get_any _ (20 + k) c2 l _ Ho4.out.len hcap4 (by omega) Ho4.out.rd).mono ?_
      rintro e w5 ⟨rfl, hb5⟩
      have Ho5 := Lib.hid (Ho4.out.below hb5)
      have Hb5 := Lib.hid (Hb4.out.trans (hb5.mono Hb4.out.size))
      clear hb5 Ho4 Hb4
      obtain ⟨a0, a1, a2, a3, a4, a5⟩ := gtH l
      rw [show (Hd.mk a0 a1 a2 a3 a4 a5).val = .agg #[.int .i64 a0, .int .i64 a1, .int .i64 a2, .int .i64 a3, .int .u32 a4, .int .u32 a5] from rfl]
      go_wp2_with fail
      refine (part_any _ (20 + k) c2 l _ Ho5.out.len (by omega) (Ho5.out.alloc _).rd).mono ?_
      rintro e w6 ⟨rfl, hb6⟩
      have Hb6 := Lib.hid ((Hb5.out.alloc Hb5.out.size _).trans (hb6.mono (Hb5.out.alloc Hb5.out.size _).size))
      clear hb6 Ho5 Hb5
      obtain ⟨b0, b1, b2, b3, b4, b5⟩ := ptH l
      rw [show (Hd.mk b0 b1 b2 b3 b4 b5).val = .agg #[.int .i64 b0, .int .i64 b1, .int .i64 b2, .int .i64 b3, .int .u32 b4, .int .u32 b5] from rfl]
      rw [Hpg.out.1, Hpg.out.2]
      clear Hpg
      by_cases hbit : bit % 16384 = 0
      · rw [if_neg (by simp [hbit])]
        have tb : (bit % 16384 != 0) = false := by simp [hbit]
        have Hbit := Lib.hid hbit
        clear hbit
        go_wp2
        go_ret
        exact ⟨rfl, Hb6.out.alloc Hb6.out.size _⟩
      · rw [if_pos (by simp [hbit])]
        have tb : (bit % 16384 != 0) = true := by simp [hbit]
        have Hbit := Lib.hid hbit
        clear hbit
        go_wp2
        go_ret
        exact ⟨rfl, Hb6.out.alloc Hb6.out.size _⟩
  · go_cut [7, 8] (fun s7 s8 wx => s7 = .slice none 0 0 ∧ s8 = .bool false ∧ Below w.heap.size w wx)
    case first =>
      have hno : ∀ m : Nat, ¬ (0 ≤ t ∧ t ≤ 255) ∨ ¬ (0 ≤ p ∧ p ≤ 255) ∨ 1480 < m := fun m => by
        by_cases h1 : 0 ≤ t ∧ t ≤ 255
        · exact .inr (.inl fun h2 => fit ⟨h1, h2⟩)
        · exact .inl h1
      have Hno := Lib.hid hno
      clear hno fit
      by_cases h100 : n ≤ 100
      · have i1 : (n : Int) ≤ 100 := by omega
        have i2 : (n : Int) ≤ (c : Int) := by omega
        go_region_with (first
            | (go_at_call 16; refine (rput_no hs hln t p s d A n c _ (by omega) (Hno.out n)).mono ?_; rintro e w' ⟨rfl, hbl⟩))
        all_goals
          have HB := Lib.hid (Hbw.out.drew.trans (hbl.mono Hbw.out.size))
          clear hbl
          go_wp2_with fail
          go_meet
          exact ⟨rfl, rfl, HB.out⟩
      · have i1 : (100 : Int) < (n : Int) := by omega
        have i2 : (100 : Int) ≤ (c : Int) := by omega
        have i3 : 100 ≤ c := by omega
        go_region_with (first
            | (go_at_call 16; refine (rput_no hs hln t p s d A 100 c _ (by omega) (Hno.out 100)).mono ?_; rintro e w' ⟨rfl, hbl⟩))
        all_goals
          have HB := Lib.hid (Hbw.out.drew.trans (hbl.mono Hbw.out.size))
          clear hbl
          go_wp2_with fail
          go_meet
          exact ⟨rfl, rfl, HB.out⟩
    case rest =>
      obtain ⟨rfl, rfl, hbel⟩ := hcut
      have Hbel := Lib.hid hbel
      clear hbel fit
      go_wp2_with fail
      refine (heads_any _).mono ?_
      rintro e w2 ⟨rfl, hbh⟩
      have Hb2 := Lib.hid (Hbel.out.trans (hbh.mono Hbel.out.size))
      clear hbh
      go_wp2_with fail
      refine (heads_any _).mono ?_
      rintro e w3 ⟨rfl, hbh⟩
      have Hb3 := Lib.hid (Hb2.out.trans (hbh.mono Hb2.out.size))
      clear hbh
      go_wp2
      go_ret
      exact ⟨rfl, Hb3.out⟩
end Go.Proofs.Ytnhfbfmghclapaa
