/-
  HeadBits: its walk.
-/
import Derived.Test.YtnaopekljknlaaaOpenH
import Derived.Test.YtnaopekljknlaaaCut
namespace Go.Proofs.Ytnaopekljknlaaa
open Go.RowKit Plain
set_option linter.unusedVariables false

set_option maxHeartbeats 4000000 in
theorem headBits_walk (h : Hd) (A : Option Addr) (n c : Nat) (zs : List Int) (bit : Int) (w : World) (ok : Hok h) (hn : zs.length = n) (hnc : n ≤ c) (hm : c ≤ maxLen) (hR : Rd w A zs) (hb0 : -9223372036854775808 ≤ bit) (hb1' : bit ≤ 9223372036854775807) :
    Calls Try.prog 14 #[h.val, .slice A n c, .int .i64 bit] w fun e w' => e = .returned (.bool true) ∧ Below w.heap.size w w' := by
  unfold maxLen at hm
  have Hn := Lib.hid hn
  clear hn
  obtain ⟨hs, hln, t, p, s, d⟩ := h
  obtain ⟨ot0, ot1, op0, op1, s0, s1, d0, d1, _, _, _, _⟩ := ok
  simp only at ot0 ot1 op0 op1 s0 s1 d0 d1
  rw [show (Hd.mk hs hln t p s d).val = .agg #[.int .i64 hs, .int .i64 hln, .int .i64 t, .int .i64 p, .int .u32 s, .int .u32 d] from rfl]
  go_enter Try.func14, Try.ntmps14
  go_upto_region 1 with fail
  obtain ⟨w1, hw1⟩ : ∃ w1, w1 = w.alloc (.cells #[.int .i64 hs, .int .i64 hln, .int .i64 t, .int .i64 p, .int .u32 s, .int .u32 d] 47) := ⟨_, rfl⟩
  have bk : Blk w1 w.heap.size 47 #[.int .i64 hs, .int .i64 hln, .int .i64 t, .int .i64 p, .int .u32 s, .int .u32 d] := by rw [hw1]; exact Blk.new w _ _
  have hbw : Below w.heap.size w w1 := by rw [hw1]; exact (Below.refl _ _).alloc (Nat.le_refl _) _
  have Hbw := Lib.hid hbw
  have HR1 := Lib.hid (hR.below hbw)
  have k0 := bk.cell 0
  have k1 := bk.cell 1
  have k2 := bk.cell 2
  have k3 := bk.cell 3
  have k4 := bk.cell 4
  have k5 := bk.cell 5
  simp only [List.getElem?_toArray, List.getElem?_cons_zero, List.getElem?_cons_succ] at k0 k1 k2 k3 k4 k5
  rw [← hw1]
  clear hw1 bk hR hbw
  by_cases fit : (0 ≤ t ∧ t ≤ 255) ∧ 0 ≤ p ∧ p ≤ 255
  · obtain ⟨⟨t0, t1⟩, p0, p1⟩ := fit
    go_cut [7, 8] (fun s7 s8 wx => ∃ (g k c' : Nat) (ys : List Int), s7 = .slice (some ⟨g, 0, none⟩) (20 + k) c' ∧ s8 = .bool true ∧ ys.length = k ∧ k ≤ 100 ∧ By ys ∧ Own wx w.heap.size (some ⟨g, 0, none⟩) (20 + k) c' (frm t p s d ys) ∧ Below w.heap.size w wx)
    case first =>
      by_cases h100 : n ≤ 100
      · have i1 : (n : Int) ≤ 100 := by omega
        have i2 : (n : Int) ≤ (c : Int) := by omega
        go_region_with (first
            | (go_at_call 27; refine (rput_yes hs hln t p s d A n c zs _ (by omega) Hn.out HR1.out.drew t0 t1 p0 p1 s0 s1 d0 d1).mono ?_; rintro e w' ⟨g, cc, rfl, ho, hbl⟩))
        all_goals
          have HO := Lib.hid (ho.mono (base' := w.heap.size) Hbw.out.size)
          have HB := Lib.hid (Hbw.out.drew.trans (hbl.mono Hbw.out.size))
          clear ho hbl
          go_wp2_with fail
          go_meet
          exact ⟨g, n, cc, zs, rfl, rfl, Hn.out, h100, HR1.out.1, HO.out, HB.out⟩
      · have i1 : (100 : Int) < (n : Int) := by omega
        have i2 : (100 : Int) ≤ (c : Int) := by omega
        have i3 : 100 ≤ c := by omega
        go_region_with (first
            | (go_at_call 27; refine (rput_yes hs hln t p s d A 100 c (zs.take 100) _ (by omega) (by rw [List.length_take, Hn.out]; omega) (HR1.out.drew.take 100) t0 t1 p0 p1 s0 s1 d0 d1).mono ?_; rintro e w' ⟨g, cc, rfl, ho, hbl⟩))
        all_goals
          have HO := Lib.hid (ho.mono (base' := w.heap.size) Hbw.out.size)
          have HB := Lib.hid (Hbw.out.drew.trans (hbl.mono Hbw.out.size))
          clear ho hbl
          go_wp2_with fail
          go_meet
          exact ⟨g, 100, cc, zs.take 100, rfl, rfl, by rw [List.length_take, Hn.out]; omega, Nat.le_refl _, HR1.out.1.take 100, HO.out, HB.out⟩
    case rest =>
      obtain ⟨g, k, cc, ys, rfl, rfl, hyl, hk, hyb, ho, hbel⟩ := hcut
      have hsz := hbel.size
      have Hyl := Lib.hid hyl
      have Hyb := Lib.hid hyb
      have Ho := Lib.hid ho
      have Hbel := Lib.hid hbel
      clear hyl hyb ho hbel k0 k1 k2 k3 k4 k5
      go_wp2_with fail
      refine (heads_any _).mono ?_
      rintro e w2 ⟨rfl, hbh⟩
      have Ho2 := Lib.hid (Ho.out.below hbh)
      have Hb2 := Lib.hid (Hbel.out.trans (hbh.mono hsz))
      clear hbh Ho Hbel
      obtain ⟨K0, hK, hKl⟩ := pick_any bit 152 (by omega) (by omega)
      go_upto_region 5 with fail
      clear hK
      obtain ⟨K, hKK⟩ : ∃ K : Nat, (K : Int) = 8 + (K0 : Int) := ⟨8 + K0, by omega⟩
      rw [← hKK]
      have hK8 : 8 ≤ K ∧ K < 160 := by omega
      clear hKK hKl
      have hc := Ho2.out.at (k := K / 8) (by omega)
      have hf := Ho2.out.free (K / 8)
      have bx := Ho2.out.byt.getD (K / 8)
      obtain ⟨x, hx⟩ : ∃ x, x = (frm t p s d ys).getD (K / 8) 0 := ⟨_, rfl⟩
      rw [← hx] at hc bx
      have Hx := Lib.hid hx
      clear hx
      have i0 : (K : Int) / 8 < 20 + (k : Int) := by omega
      have i1 : 0 ≤ (K : Int) / 8 := by omega
      have i2 : ((K : Int) / 8).toNat = K / 8 := by omega
      have i3 : 0 ≤ (K : Int) % 8 := by omega
      generalize hww : w2 = ww at *
      have hgl : w.heap.size ≤ g := by rcases Ho2.out.form with ⟨h, _⟩ | ⟨g2, h, hg, _⟩; cases h; injection h with h; injection h with h; omega
      go_region
      have ht := turned_bits x K bx.1 bx.2
      obtain ⟨y, hy⟩ : ∃ y, y = bits .xor .u8 x (2 ^ (K % 8) % 256) := ⟨_, rfl⟩
      rw [← hy] at ht
      rw [← hy]
      have hbad := turned_bad t p s d ys (K / 8) y Hyb.out (by rw [Hyl.out]; omega) t0 t1 p0 p1 s0 s1 d0 d1 (by omega) (by omega) (by rw [← Hx.out]; exact ht)
      have Ho3 := Lib.hid ((Ho2.out.set (K / 8) y ht.1 ht.2.1).drewN 1)
      have Hb3 := Lib.hid ((Hb2.out.setCell (p := ⟨g, K / 8, none⟩) hgl (Value.int .u8 y)).drew)
      have hgh : gtH ((frm t p s d ys).set (K / 8) y) = hd0 := by unfold gtH; rw [if_neg hbad]
      have tb : (gtE ((frm t p s d ys).set (K / 8) y) != 0) = true := by rw [bne_iff_ne]; exact hbad
      have Hgh := Lib.hid hgh
      have hcap := Ho3.out.cap
      obtain ⟨l, hl⟩ : ∃ l, l = (frm t p s d ys).set (K / 8) y := ⟨_, rfl⟩
      rw [← hl] at Ho3 Hgh tb
      clear hc hf hbad ht hgh hy i2 hww Ho2 Hb2 hl
      obtain ⟨w5, hw5⟩ : ∃ w5, w5 = (ww.setCell ⟨g, K / 8, none⟩ (Value.int .u8 y)).drew := ⟨_, rfl⟩
      have Ho5 := Lib.hid (show Own w5 w.heap.size (some ⟨g, 0, none⟩) (20 + k) cc l by rw [hw5]; exact Ho3.out)
      have Hb5 := Lib.hid (show Below w.heap.size w w5 by rw [hw5]; exact Hb3.out)
      rw [← hw5]
      clear hw5 Ho3 Hb3
      go_wp2_with fail
      refine (get_any _ (20 + k) cc l _ Ho5.out.len hcap (by omega) Ho5.out.rd).mono ?_
      rintro e w6 ⟨rfl, hb6⟩
      rw [Hgh.out, show hd0.val = .agg #[.int .i64 0, .int .i64 0, .int .i64 0, .int .i64 0, .int .u32 0, .int .u32 0] from rfl]
      have Hb6 := Lib.hid (Hb5.out.trans (hb6.mono Hb5.out.size))
      clear hb6
      generalize gtE l = ge at *
      go_wp2
      go_ret
      exact ⟨rfl, Hb6.out.alloc Hb6.out.size _⟩
  · go_cut [7, 8] (fun s7 s8 wx => s7 = .slice none 0 0 ∧ s8 = .bool false ∧ Below w.heap.size w wx)
    case first =>
      have hno : ∀ m : Nat, ¬ (0 ≤ t ∧ t ≤ 255) ∨ ¬ (0 ≤ p ∧ p ≤ 255) ∨ 1480 < m := fun m => by
        by_cases h1 : 0 ≤ t ∧ t ≤ 255
        · exact .inr (.inl fun h2 => fit ⟨h1, h2⟩)
        · exact .inl h1
      have Hno := Lib.hid hno
      clear hno fit
      by_cases h100 : n ≤ 100
      · have i1 : (n : Int) ≤ 100 := by omega
        have i2 : (n : Int) ≤ (c : Int) := by omega
        go_region_with (first
            | (go_at_call 27; refine (rput_no hs hln t p s d A n c _ (by omega) (Hno.out n)).mono ?_; rintro e w' ⟨rfl, hbl⟩))
        all_goals
          have HB := Lib.hid (Hbw.out.drew.trans (hbl.mono Hbw.out.size))
          clear hbl
          go_wp2_with fail
          go_meet
          exact ⟨rfl, rfl, HB.out⟩
      · have i1 : (100 : Int) < (n : Int) := by omega
        have i2 : (100 : Int) ≤ (c : Int) := by omega
        have i3 : 100 ≤ c := by omega
        go_region_with (first
            | (go_at_call 27; refine (rput_no hs hln t p s d A 100 c _ (by omega) (Hno.out 100)).mono ?_; rintro e w' ⟨rfl, hbl⟩))
        all_goals
          have HB := Lib.hid (Hbw.out.drew.trans (hbl.mono Hbw.out.size))
          clear hbl
          go_wp2_with fail
          go_meet
          exact ⟨rfl, rfl, HB.out⟩
    case rest =>
      obtain ⟨rfl, rfl, hbel⟩ := hcut
      have Hbel := Lib.hid hbel
      clear hbel fit
      go_wp2_with fail
      refine (heads_any _).mono ?_
      rintro e w2 ⟨rfl, hbh⟩
      have Hb2 := Lib.hid (Hbel.out.trans (hbh.mono Hbel.out.size))
      clear hbh
      go_wp2_with fail
      refine (heads_any _).mono ?_
      rintro e w3 ⟨rfl, hbh⟩
      have Hb3 := Lib.hid (Hb2.out.trans (hbh.mono Hb2.out.size))
      clear hbh
      go_wp2
      go_ret
      exact ⟨rfl, Hb3.out⟩
end Go.Proofs.Ytnaopekljknlaaa
