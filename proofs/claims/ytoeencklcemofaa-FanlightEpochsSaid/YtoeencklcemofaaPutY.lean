/-
  Contract of head.Put where the packet can be. Conditions: the head's ttl and protocol are bytes, at most 1480 bytes are handed in.
-/
import Derived.Test.YtoeencklcemofaaPut
namespace Go.Proofs.Ytoeencklcemofaa
open Go.RowKit Plain
set_option linter.unusedVariables false
set_option maxRecDepth 100000

theorem put_list (t p s d : Int) (m : Nat) :
    P32 (P32 (((P16 (P16 ((List.replicate (20 + m) (0 : Int)).set 0 69) 2 (20 + (m : Int))) 6 16384).set 8 t).set 9 p) 12 s) 16 d = hb0 t p s d (20 + (m : Int)) ++ List.replicate m 0 := by
  have e : List.replicate (20 + m) (0 : Int) = [0, 0, 0, 0, 0, 0, 0, 0, 0, 0, 0, 0, 0, 0, 0, 0, 0, 0, 0, 0] ++ List.replicate m 0 := by
    rw [← List.replicate_append_replicate]; rfl
  rw [e, List.set_append_left _ _ (by decide), P16_app _ _ _ _ (by simp), P16_app _ _ _ _ (by simp [P16]), List.set_append_left _ _ (by simp [P16]), List.set_append_left _ _ (by simp [P16]), P32_app _ _ _ _ (by simp [P16]), P32_app _ _ _ _ (by simp [P16, P32])]
  rfl

theorem frm_len (t p s d : Int) (ys : List Int) : (frm t p s d ys).length = 20 + ys.length := by unfold frm; rw [List.length_append, hb1_len]

set_option maxHeartbeats 4000000 in
theorem put_yes (hs hln t p s d : Int) (B : Option Addr) (m bc : Nat) (ys : List Int) (w : World) (hm : m ≤ 1480) (hy : ys.length = m) (hR : Rd w B ys) (t0 : 0 ≤ t) (t1 : t ≤ 255) (p0 : 0 ≤ p) (p1 : p ≤ 255) (s0 : 0 ≤ s) (s1 : s ≤ 4294967295) (d0 : 0 ≤ d) (d1 : d ≤ 4294967295) :
    Calls Try.prog 25 #[(Hd.mk hs hln t p s d).val, .slice B m bc] w fun e w' => ∃ g, e = .returned (.tuple #[.slice (some ⟨g, 0, none⟩) (20 + m) (20 + m), .int .i64 0]) ∧ Own w' w.heap.size (some ⟨g, 0, none⟩) (20 + m) (20 + m) (frm t p s d ys) ∧ Below w.heap.size w w' := by
  rw [show (Hd.mk hs hln t p s d).val = .agg #[.int .i64 hs, .int .i64 hln, .int .i64 t, .int .i64 p, .int .u32 s, .int .u32 d] from rfl]
  have e1 : decide (0 ≤ t ∧ t ≤ 255) = true := by simp only [decide_eq_true_eq]; exact ⟨t0, t1⟩
  have e2 : decide (0 ≤ p ∧ p ≤ 255) = true := by simp only [decide_eq_true_eq]; exact ⟨p0, p1⟩
  have H1 := Lib.hid e1
  have H2 := Lib.hid e2
  have i1 : ¬ (1480 : Int) < (m : Int) := by omega
  have HR := Lib.hid hR
  have Hy := Lib.hid hy
  clear e1 e2 hR hy
  go_enter Try.func25, Try.ntmps25
  go_wp2_with fail
  refine (isByte_any t _).mono ?_
  rintro e w' ⟨rfl, rfl⟩
  rw [H1.out]
  go_wp2_with fail
  refine (isByte_any p _).mono ?_
  rintro e w' ⟨rfl, rfl⟩
  rw [H2.out]
  go_upto_region 3 with fail
  obtain ⟨w1, hw1⟩ : ∃ w1, w1 = w.alloc (.cells #[.int .i64 hs, .int .i64 hln, .int .i64 t, .int .i64 p, .int .u32 s, .int .u32 d] 43) := ⟨_, rfl⟩
  rw [← hw1]
  have hs1 : w1.heap.size = w.heap.size + 1 := by rw [hw1]; simp
  have bk1 : Blk w1 w.heap.size 43 #[.int .i64 hs, .int .i64 hln, .int .i64 t, .int .i64 p, .int .u32 s, .int .u32 d] := by rw [hw1]; exact Blk.new w _ _
  have Hbw := Lib.hid (show Below w.heap.size w w1 by rw [hw1]; exact (Below.refl _ _).alloc (Nat.le_refl _) _)
  have cells : ∀ W, Below w1.heap.size w1 W → (W.cell? ⟨w.heap.size, 2, none⟩ = some (.int .i64 t) ∧ W.cell? ⟨w.heap.size, 3, none⟩ = some (.int .i64 p)) ∧ (W.cell? ⟨w.heap.size, 4, none⟩ = some (.int .u32 s) ∧ W.cell? ⟨w.heap.size, 5, none⟩ = some (.int .u32 d)) := fun W hW => by
    have bW := bk1.below hW
    exact ⟨⟨bW.cell 2, bW.cell 3⟩, ⟨bW.cell 4, bW.cell 5⟩⟩
  have Hc := Lib.hid cells
  have Hs1 := Lib.hid hs1
  clear hw1 hs1 bk1 cells
  go_wp2_with (refine wpList_mk rfl (.tmp 24) (.tmp 24) rfl w1.heap.size (20 + (m : Int)) (20 + (m : Int)) (20 + m) rfl rfl (by omega) (by omega) (by omega) (Nat.le_refl _) ?_)
  intro w2 ho2 hg2
  have hb2 : Below w1.heap.size w1 w2 := ⟨hg2.os, hg2.tape, hg2.output, hg2.size, fun k hk => hg2.block k hk (by simp)⟩
  clear hg2
  generalize hgg : w1.heap.size = g at *
  have Hgg := Lib.hid hgg
  clear hgg
  have Ho2 := Lib.hid ho2
  have Hb2 := Lib.hid hb2
  have c0 := ho2.at (k := 0) (by omega)
  have f0 := ho2.free 0
  have i0 : 0 < 20 + m := by omega
  have im : (20 : Int) + (m : Int) ≤ 1500 := by omega
  clear ho2 hb2
  go_wp2_with fail
  obtain ⟨w3, hw3⟩ : ∃ w3, w3 = w2.setCell ⟨g, 0, none⟩ (.int .u8 69) := ⟨_, rfl⟩
  have Ho3 := Lib.hid (show Own w3 g (some ⟨g, 0, none⟩) (20 + m) (20 + m) ((List.replicate (20 + m) 0).set 0 69) by rw [hw3]; exact Ho2.out.set 0 69 (by decide) (by decide))
  have Hb3 := Lib.hid (show Below g w1 w3 by rw [hw3]; exact Hb2.out.setCell (p := ⟨g, 0, none⟩) (Nat.le_refl _) _)
  rw [← hw3]
  clear hw3 c0 f0 Ho2 Hb2
  refine (put16_any g _ _ g _ 2 (20 + (m : Int)) 2 _ rfl (by omega) (by omega) (by omega) (by omega) Ho3.out).mono ?_
  rintro e w4 ⟨rfl, hL⟩
  have Ho4 := Lib.hid hL.own
  have Hb4 := Lib.hid (hL.below Hb3.out (Nat.le_refl _) (by have := Hb3.out.size; rw [Hgg.out] at this; exact this))
  clear hL Ho3 Hb3
  go_wp2_with fail
  refine (put16_any g _ _ g _ 6 16384 6 _ rfl (by omega) (by omega) (by omega) (by omega) Ho4.out).mono ?_
  rintro e w5 ⟨rfl, hL⟩
  have Ho5 := Lib.hid hL.own
  have Hb5 := Lib.hid (hL.below Hb4.out (Nat.le_refl _) (by have := Hb4.out.size; rw [Hgg.out] at this; exact this))
  clear hL Ho4 Hb4
  obtain ⟨⟨q2, q3⟩, _, _⟩ := Hc.out _ Hb5.out
  have c8 := Ho5.out.at (k := 8) (by omega)
  have c9 := Ho5.out.at (k := 9) (by omega)
  have f8 := Ho5.out.free 8
  have f9 := Ho5.out.free 9
  have i8 : (8 : Int) < 20 + (m : Int) := by omega
  have i9 : (9 : Int) < 20 + (m : Int) := by omega
  have ngw : ¬ w.heap.size = g := by have := Hs1.out; omega
  have ngw2 : ¬ g = w.heap.size := fun h => ngw h.symm
  have q3' : (w5.setCell ⟨g, 8, none⟩ (.int .u8 t)).cell? ⟨w.heap.size, 3, none⟩ = some (.int .i64 p) := (World.cell?_setCell_other w5 ⟨g, 8, none⟩ ⟨w.heap.size, 3, none⟩ _ (fun e => ngw2 (by injection e))).trans q3
  go_upto_region 9 with fail
  obtain ⟨w6, hw6⟩ : ∃ w6, w6 = (w5.setCell ⟨g, 8, none⟩ (.int .u8 t)).setCell ⟨g, 9, none⟩ (.int .u8 p) := ⟨_, rfl⟩
  have Ho6 := Lib.hid (show Own w6 g (some ⟨g, 0, none⟩) (20 + m) (20 + m) (((P16 (P16 ((List.replicate (20 + m) 0).set 0 69) 2 (20 + (m : Int))) 6 16384).set 8 t).set 9 p) by rw [hw6]; exact (Ho5.out.set 8 t t0 t1).set 9 p p0 p1)
  have Hb6 := Lib.hid (show Below g w1 w6 by rw [hw6]; exact (Hb5.out.setCell (p := ⟨g, 8, none⟩) (Nat.le_refl _) _).setCell (p := ⟨g, 9, none⟩) (Nat.le_refl _) _)
  obtain ⟨_, q4, q5⟩ := Hc.out _ Hb6.out
  rw [← hw6]
  clear hw6 c8 c9 f8 f9 q2 q3 q3' Ho5 Hb5
  go_wp2_with fail
  refine (put32_any g _ _ g _ 12 s 12 _ rfl (by omega) (by omega) s0 s1 Ho6.out).mono ?_
  rintro e w7 ⟨rfl, hL⟩
  have Ho7 := Lib.hid hL.own
  have Hb7 := Lib.hid (hL.below Hb6.out (Nat.le_refl _) (by have := Hb6.out.size; rw [Hgg.out] at this; exact this))
  clear hL Ho6 Hb6 q4 q5
  obtain ⟨_, _, q5⟩ := Hc.out _ Hb7.out
  go_wp2_with fail
  refine (put32_any g _ _ g _ 16 d 16 _ rfl (by omega) (by omega) d0 d1 Ho7.out).mono ?_
  rintro e w8 ⟨rfl, hL⟩
  have ho8 := hL.own
  rw [put_list] at ho8
  have Ho8 := Lib.hid ho8
  have Hb8 := Lib.hid (hL.below Hb7.out (Nat.le_refl _) (by have := Hb7.out.size; rw [Hgg.out] at this; exact this))
  clear hL ho8 Ho7 Hb7 q5
  have hby0 : By (hb0 t p s d (20 + (m : Int))) := hb0_by t p s d _ t0 t1 p0 p1 s0 s1 d0 d1 (by omega) (by omega)
  have htk : (hb0 t p s d (20 + (m : Int)) ++ List.replicate m 0).take 20 = hb0 t p s d (20 + (m : Int)) := by
    rw [List.take_append_of_le_length (by rw [hb0_len]; omega), List.take_of_length_le (by rw [hb0_len]; omega)]
  have hcs := Cs_range _ hby0
  have ic : (20 : Int) ≤ 20 + (m : Int) := by omega
  go_wp2_with fail
  refine (of_n _ 20 _ (hb0 t p s d (20 + (m : Int))) _ (hb0_len _ _ _ _ _) (by omega) (by rw [← htk]; exact Ho8.out.rd.take 20)).mono ?_
  rintro e w' ⟨rfl, q, rfl⟩
  go_wp2_with fail
  refine (put16_any g _ _ g _ 10 (Cs (hb0 t p s d (20 + (m : Int)))) 10 _ rfl (by omega) (by omega) hcs.1 hcs.2 (Ho8.out.drewN q)).mono ?_
  rintro e w9 ⟨rfl, hL⟩
  have ho9 := hL.own
  rw [P16_app _ _ _ _ (by rw [hb0_len]; omega)] at ho9
  have Ho9 := Lib.hid (show Own w9 g (some ⟨g, 0, none⟩) (20 + m) (20 + m) (hb1 t p s d (20 + (m : Int)) ++ List.replicate m 0) from ho9)
  have Hb9 := Lib.hid (hL.below (below_drewN Hb8.out q) (Nat.le_refl _) (by have := Hb8.out.size; rw [Hgg.out] at this; simpa using this))
  clear hL ho9 Ho8 Hb8 htk
  have hwg : w.heap.size ≤ g := by have := Hs1.out; omega
  have Hbf := fun (W : World) (h : Below g w1 W) => (show Below w.heap.size w W from Hbw.out.trans (h.mono hwg))
  have HR9 := Lib.hid (HR.out.below (Hbf _ Hb9.out))
  have HBf := Lib.hid Hbf
  clear Hbf
  have HF := Lib.hid (show (hb1 t p s d (20 + (m : Int)) ++ List.replicate m 0).take 20 ++ ys = frm t p s d ys by
    unfold frm; rw [Hy.out, List.take_append_of_le_length (by rw [hb1_len]; omega), List.take_of_length_le (by rw [hb1_len]; omega)])
  by_cases hm0 : m = 0
  · have hfin : ∀ W, Own W g (some ⟨g, 0, none⟩) (20 + m) (20 + m) (frm t p s d ys) → Own W w.heap.size (some ⟨g, 0, none⟩) (20 + m) (20 + m) (frm t p s d ys) := fun W h => h.mono hwg
    have Hfin := Lib.hid hfin
    clear hfin
    subst hm0
    go_wp2_with (with_reducible refine wpList_cpy rfl (.tmp 59) (.tmp 60) rfl g g 20 20 _ ys Ho9.out (some ⟨g, 0, none⟩) B _ 0 bc rfl rfl (by omega) (fun h => absurd h (by omega)) HR9.out Hy.out g w1 Hb9.out (Nat.le_refl _) ?_)
    intro w10 ho10 hb10
    have ho11 := Hfin.out w10 (by rw [← HF.out]; exact ho10)
    have HO := Lib.hid ho11
    have HB := Lib.hid (HBf.out _ hb10)
    clear ho10 ho11 hb10
    go_wp2
    go_ret2
    exact ⟨g, rfl, HO.out, HB.out⟩
  · have cm : ¬ 20 + m = 20 := by omega
    go_wp2_with (with_reducible refine wpList_cpy rfl (.tmp 59) (.tmp 60) rfl g g (20 + m) 20 _ ys Ho9.out (some ⟨g, 20, none⟩) B _ m bc rfl rfl (by omega) (fun _ => rfl) HR9.out Hy.out g w1 Hb9.out (Nat.le_refl _) ?_)
    intro w10 ho10 hb10
    rw [HF.out] at ho10
    have HO := Lib.hid (ho10.mono hwg)
    have HB := Lib.hid (HBf.out _ hb10)
    clear ho10 hb10
    go_wp2
    go_ret2
    exact ⟨g, rfl, HO.out, HB.out⟩
end Go.Proofs.Ytoeencklcemofaa
