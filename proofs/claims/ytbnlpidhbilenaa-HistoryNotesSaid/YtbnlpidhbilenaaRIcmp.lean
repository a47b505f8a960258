/-
  Contract of the reference fanlightref03.icmp. Conditions stand in each theorem.
-/
import Derived.Test.YtbnlpidhbilenaaIcmp
import Derived.Test.YtbnlpidhbilenaaGK
import Derived.Test.YtbnlpidhbilenaaRef2
import Derived.Deep.DeepCutAuto
import Derived.RegionTactic
import Derived.Deep.RegionHeld3
namespace Go.Proofs.Ytbnlpidhbilenaa
open Go.RowKit Plain
set_option linter.unusedVariables false
set_option linter.unusedSimpArgs false
set_option maxRecDepth 100000

set_option maxHeartbeats 8000000 in
theorem ricmp_any (d0 d1 d2 d3 d4 d5 : Int) (A : Option Addr) (n c : Nat) (zs : List Int) (w : World) (hn : zs.length = n) (hnc : n ≤ c) (hl : n ≤ 1000000) (hR : Rd w A zs) (s0 : 0 ≤ d0) (s1 : d0 ≤ 60) :
    Calls Try.prog 69 #[.agg #[.int .i64 1, .int .u16 0, .int .u16 0, .int .i64 0, .int .i64 0, .int .i64 0, .bool false, .int .i64 0, .int .i64 0, .int .i64 0, .int .i64 0, .int .u32 0, .int .u32 0, .int .i64 0, .bool false], .agg #[.int .i64 d0, .int .i64 d1, .int .i64 d2, .int .i64 d3, .int .u32 d4, .int .u32 d5], .slice A n c] w fun e w' => e = .returned (.tuple #[(icP d0 zs).val, .int .i64 (icE zs)]) ∧ Below w.heap.size w w' := by
  have HR := Lib.hid hR
  have Hn := Lib.hid hn
  have rc := Cs_range zs hR.1
  have b0 := hR.1.getD 0
  have b1 := hR.1.getD 1
  have rg := G16_range zs hR.1 4
  have HP0 := Lib.hid (fun (hh : icE zs ≠ 0) => show (icP d0 zs).val = .agg #[.int .i64 0, .int .u16 0, .int .u16 0, .int .i64 0, .int .i64 0, .int .i64 0, .bool false, .int .i64 0, .int .i64 0, .int .i64 0, .int .i64 0, .int .u32 0, .int .u32 0, .int .i64 0, .bool false] by unfold icP; rw [if_neg hh]; rfl)
  clear hR hn
  go_enter Try.func69, Try.ntmps69
  go_upto_region 1 with fail
  obtain ⟨w1, hw1⟩ : ∃ w1, w1 = ((w.alloc (.cells #[.int .i64 1, .int .u16 0, .int .u16 0, .int .i64 0, .int .i64 0, .int .i64 0, .bool false, .int .i64 0, .int .i64 0, .int .i64 0, .int .i64 0, .int .u32 0, .int .u32 0, .int .i64 0, .bool false] 112)).alloc (.cells #[.int .i64 d0, .int .i64 d1, .int .i64 d2, .int .i64 d3, .int .u32 d4, .int .u32 d5] 84)).alloc (.cells #[.int .i64 0, .int .u16 0, .int .u16 0, .int .i64 0, .int .i64 0, .int .i64 0, .bool false, .int .i64 0, .int .i64 0, .int .i64 0, .int .i64 0, .int .u32 0, .int .u32 0, .int .i64 0, .bool false] 112) := ⟨_, rfl⟩
  have h3 : Blk w1 w.heap.size 112 #[.int .i64 1, .int .u16 0, .int .u16 0, .int .i64 0, .int .i64 0, .int .i64 0, .bool false, .int .i64 0, .int .i64 0, .int .i64 0, .int .i64 0, .int .u32 0, .int .u32 0, .int .i64 0, .bool false] := by rw [hw1]; exact ((Blk.new w _ _).alloc _).alloc _
  have h4 : Blk w1 (w.heap.size + 1) 84 #[.int .i64 d0, .int .i64 d1, .int .i64 d2, .int .i64 d3, .int .u32 d4, .int .u32 d5] := by rw [hw1]; have := (Blk.new (w.alloc (.cells #[.int .i64 1, .int .u16 0, .int .u16 0, .int .i64 0, .int .i64 0, .int .i64 0, .bool false, .int .i64 0, .int .i64 0, .int .i64 0, .int .i64 0, .int .u32 0, .int .u32 0, .int .i64 0, .bool false] 112)) 84 #[.int .i64 d0, .int .i64 d1, .int .i64 d2, .int .i64 d3, .int .u32 d4, .int .u32 d5]).alloc (.cells #[.int .i64 0, .int .u16 0, .int .u16 0, .int .i64 0, .int .i64 0, .int .i64 0, .bool false, .int .i64 0, .int .i64 0, .int .i64 0, .int .i64 0, .int .u32 0, .int .u32 0, .int .i64 0, .bool false] 112); rwa [World.size_alloc] at this
  have h6 : Blk w1 (w.heap.size + 1 + 1) 112 #[.int .i64 0, .int .u16 0, .int .u16 0, .int .i64 0, .int .i64 0, .int .i64 0, .bool false, .int .i64 0, .int .i64 0, .int .i64 0, .int .i64 0, .int .u32 0, .int .u32 0, .int .i64 0, .bool false] := by rw [hw1]; have := Blk.new ((w.alloc (.cells #[.int .i64 1, .int .u16 0, .int .u16 0, .int .i64 0, .int .i64 0, .int .i64 0, .bool false, .int .i64 0, .int .i64 0, .int .i64 0, .int .i64 0, .int .u32 0, .int .u32 0, .int .i64 0, .bool false] 112)).alloc (.cells #[.int .i64 d0, .int .i64 d1, .int .i64 d2, .int .i64 d3, .int .u32 d4, .int .u32 d5] 84)) 112 #[.int .i64 0, .int .u16 0, .int .u16 0, .int .i64 0, .int .i64 0, .int .i64 0, .bool false, .int .i64 0, .int .i64 0, .int .i64 0, .int .i64 0, .int .u32 0, .int .u32 0, .int .i64 0, .bool false]; rwa [World.size_alloc, World.size_alloc] at this
  have HB1 := Lib.hid (show Below w.heap.size w w1 by rw [hw1]; exact bthen (bthen (ball _ _) (ball _ _)) (ball _ _))
  rw [← hw1]
  clear hw1
  obtain ⟨g3, hg3⟩ : ∃ g, g = w.heap.size := ⟨_, rfl⟩
  obtain ⟨g4, hg4⟩ : ∃ g, g = w.heap.size + 1 := ⟨_, rfl⟩
  obtain ⟨g6, hg6⟩ : ∃ g, g = w.heap.size + 1 + 1 := ⟨_, rfl⟩
  have hg3l : w.heap.size ≤ g3 := by omega
  have hg6l : w.heap.size ≤ g6 := by omega
  have n36 : g3 ≠ g6 := by omega
  have n63 : g6 ≠ g3 := by omega
  have n43 : g4 ≠ g3 := by omega
  have n46 : g4 ≠ g6 := by omega
  rw [← hg3] at h3
  rw [← hg4] at h4
  rw [← hg6] at h6
  rw [show w.heap.size + 2 = g6 by omega, ← hg4, ← hg3]
  have H3 := Lib.hid h3
  have H4 := Lib.hid h4
  have H6 := Lib.hid h6
  have hrl := Lib.hid HR.out.lt
  have l3 := h3.lt
  have l4 := h4.lt
  have l6 := h6.lt
  clear hg3 hg4 hg6 h3 h4 h6
  by_cases h8 : n < 8
  · have i8 : (n : Int) < 8 := by omega
    have he := Lib.hid (show icE zs = 2 by unfold icE; rw [if_pos (by rw [Hn.out]; exact h8)])
    have hh := Lib.hid (HP0.out (by rw [he.out]; decide))
    go_wp2_with (first | ((with_reducible refine gd_st 112 6 ?_); refine wpList_st rfl 112 (.tmp 6) _ rfl _ _ rfl _ rfl (H6.out) sRPart.2 (#[.int .i64 0, .int .u16 0, .int .u16 0, .int .i64 0, .int .i64 0, .int .i64 0, .bool false, .int .i64 0, .int .i64 0, .int .i64 0, .int .i64 0, .int .u32 0, .int .u32 0, .int .i64 0, .bool false]) rfl (Nat.le_of_ble_eq_true rfl) rfl ?_; intro w9 hb9 hg9 hs9))
    rw [he.out, hh.out]
    exact bodyPost_ret (res_cell2 Try.results69 _ _ _ rfl rfl hb9 sRPart) rfl ⟨rfl, bgrown (HB1.out) hg9 hg6l⟩
  · have i8 : ¬ (n : Int) < 8 := by omega
    go_wp2_with fail
    refine (refOf_n A n c zs _ Hn.out hl (HR.out.below HB1.out)).mono ?_
    rintro e w' ⟨rfl, rfl⟩
    by_cases hcs : Cs zs = 0
    · have ecs : (Cs zs != 0) = false := by simp [hcs]
      have HE := Lib.hid (show icE zs = if zs.getD 0 0 = 0 ∨ zs.getD 0 0 = 8 then (if zs.getD 1 0 ≠ 0 then 3 else 0) else if zs.getD 0 0 = 3 ∨ zs.getD 0 0 = 11 ∨ zs.getD 0 0 = 12 then erE (zs.drop 8) else 6 by
        unfold icE; rw [if_neg (by rw [Hn.out]; exact h8), if_neg (by simp [hcs])])
      have HP := Lib.hid (fun (hh : icE zs = 0) => show icP d0 zs = if zs.getD 0 0 = 0 ∨ zs.getD 0 0 = 8 then ⟨1, G16 zs 4, G16 zs 4, 0, zs.getD 0 0, zs.getD 1 0, false, hd0, 0, false⟩ else erP ⟨1, 0, 0, 0, zs.getD 0 0, zs.getD 1 0, false, hd0, d0 + 8, false⟩ (zs.drop 8) by unfold icP; rw [if_pos hh])
      obtain ⟨b, off, rfl, hc⟩ := (HR.out.below HB1.out).2 (by rw [Hn.out]; omega)
      have c0 : w1.cell? ⟨b, off, none⟩ = some (.int .u8 (zs.getD 0 0)) := hc 0 (by rw [Hn.out]; omega)
      have c1 := hc 1 (by rw [Hn.out]; omega)
      have hbl : b < w.heap.size := hrl.out b off (by rw [Hn.out]; omega) rfl
      have nb3 : ¬ b = g3 := by omega
      have nb3' : ¬ g3 = b := by omega
      have i0 : 0 < n := by omega
      have i1 : (1 : Int) < (n : Int) := by omega
      have i4 : (6 : Int) ≤ (c : Int) := by omega
      generalize zs.getD 0 0 = x0 at *
      generalize zs.getD 1 0 = x1 at *
      have v0 : IntKind.i64.wrap x0 = x0 := by rw [IntKind.wrap_i64]; omega
      have v1 : IntKind.i64.wrap x1 = x1 := by rw [IntKind.wrap_i64]; omega
      have k4 : w1.cell? ⟨g3, 4, none⟩ = some (.int .i64 0) := H3.out.cell 4
      have k5 : w1.cell? ⟨g3, 5, none⟩ = some (.int .i64 0) := H3.out.cell 5
      have f4 := H3.out.frozen 4
      have f5 := H3.out.frozen 5
      clear hcs hc
      go_upto_region 5 with fail
      go_cut [] (fun wx => Blk wx g3 112 #[.int .i64 1, .int .u16 0, .int .u16 0, .int .i64 0, .int .i64 x0, .int .i64 x1, .bool false, .int .i64 0, .int .i64 0, .int .i64 0, .int .i64 0, .int .u32 0, .int .u32 0, .int .i64 0, .bool false] ∧ w1.grownBy wx (some g3))
      case first =>
        go_region
        go_wp2
        go_meet
        exact ⟨((H3.out.set 4 _).set 5 _).drew, grown_drew ((grown_setCell w1 g3 4 _).trans (grown_setCell _ g3 5 _))⟩
      case rest =>
        obtain ⟨h3c, hgc⟩ := hcut
        have H3c := Lib.hid h3c
        have H4c := Lib.hid (H4.out.grown hgc n43)
        have H6c := Lib.hid (H6.out.grown hgc n63)
        have HBc := Lib.hid (bgrown HB1.out hgc hg3l)
        clear h3c hgc c0 c1 k4 k5 f4 f5
        go_wp2_with fail
        refine (num16_any b off n (c - 4) zs 4 _ Hn.out (by omega) (HR.out.below HBc.out)).mono ?_
        rintro e w' ⟨rfl, rfl⟩
        have m4 : wc.cell? ⟨g3, 4, none⟩ = some (.int .i64 x0) := H3c.out.cell 4
        have m5 : wc.cell? ⟨g3, 5, none⟩ = some (.int .i64 x1) := H3c.out.cell 5
        have h0c : wc.cell? ⟨g4, 0, none⟩ = some (.int .i64 d0) := H4c.out.cell 0
        go_upto_if 36 with fail
        go_cut [36] (fun s wx => ∃ tb : Bool, s = .bool tb ∧ (tb = true ↔ (x0 = 0 ∨ x0 = 8)) ∧ wx = wc)
        case first =>
          by_cases yx00 : x0 = 0
          · have tx00 : (x0 == 0) = true := by simp [yx00]
            have TT := Lib.hid (show x0 = 0 ∨ x0 = 8 by simp [yx00])
            clear yx00
            go_wp2
            go_meet
            exact ⟨true, congrArg Value.bool (by first | rfl | assumption), ⟨fun _ => TT.out, fun _ => rfl⟩, rfl⟩
          · have tx00 : (x0 == 0) = false := by simp [yx00]
            by_cases yx08 : x0 = 8
            · have tx08 : (x0 == 8) = true := by simp [yx08]
              have TT := Lib.hid (show x0 = 0 ∨ x0 = 8 by simp [yx08])
              clear yx00 yx08
              go_wp2
              go_meet
              exact ⟨true, congrArg Value.bool (by first | rfl | assumption), ⟨fun _ => TT.out, fun _ => rfl⟩, rfl⟩
            · have tx08 : (x0 == 8) = false := by simp [yx08]
              have TT := Lib.hid (show ¬ (x0 = 0 ∨ x0 = 8) by simp [yx00, yx08])
              clear yx00 yx08
              go_wp2
              go_meet
              exact ⟨false, congrArg Value.bool (by first | rfl | assumption), ⟨fun h => Bool.noConfusion h, fun h => absurd h TT.out⟩, rfl⟩
        case rest =>
          obtain ⟨tb, rfl, htb, rfl⟩ := hcut
          cases tb
          rotate_left
          · have hk : x0 = 0 ∨ x0 = 8 := htb.1 rfl
            clear htb
            by_cases hx1 : x1 = 0
            · have tx : (x1 != 0) = false := by simp [hx1]
              have he := Lib.hid (show icE zs = 0 by rw [HE.out, if_pos hk, if_neg (by simp [hx1])])
              have hh := Lib.hid (show (icP d0 zs).val = .agg #[.int .i64 1, .int .u16 (G16 zs 4), .int .u16 (G16 zs 4), .int .i64 0, .int .i64 x0, .int .i64 x1, .bool false, .int .i64 0, .int .i64 0, .int .i64 0, .int .i64 0, .int .u32 0, .int .u32 0, .int .i64 0, .bool false] by rw [HP.out he.out, if_pos hk]; rfl)
              clear hx1 hk
              go_wp2_with (first | ((with_reducible refine gd_st 65 45 ?_); refine wpList_st rfl 65 (.tmp 45) _ rfl _ _ rfl _ rfl (H3c.out) sU16 (#[.int .i64 1, .int .u16 (G16 zs 4), .int .u16 0, .int .i64 0, .int .i64 x0, .int .i64 x1, .bool false, .int .i64 0, .int .i64 0, .int .i64 0, .int .i64 0, .int .u32 0, .int .u32 0, .int .i64 0, .bool false]) rfl (Nat.le_of_ble_eq_true rfl) rfl ?_; intro wa hba hga hsa) | ((with_reducible refine gd_st 65 46 ?_); refine wpList_st rfl 65 (.tmp 46) _ rfl _ _ rfl _ rfl (hba) sU16 (#[.int .i64 1, .int .u16 (G16 zs 4), .int .u16 (G16 zs 4), .int .i64 0, .int .i64 x0, .int .i64 x1, .bool false, .int .i64 0, .int .i64 0, .int .i64 0, .int .i64 0, .int .u32 0, .int .u32 0, .int .i64 0, .bool false]) rfl (Nat.le_of_ble_eq_true rfl) rfl ?_; intro wb hbb hgb hsb) | ((with_reducible refine gd_ld 112 3 ?_); refine wpList_ld rfl 112 (.tmp 3) rfl _ rfl (hbb) sRPart ?_) | ((with_reducible refine gd_st 112 6 ?_); refine wpList_st rfl 112 (.tmp 6) _ rfl _ _ rfl _ rfl ((H6c.out.grown hga n63).grown hgb n63) sRPart.2 (#[.int .i64 1, .int .u16 (G16 zs 4), .int .u16 (G16 zs 4), .int .i64 0, .int .i64 x0, .int .i64 x1, .bool false, .int .i64 0, .int .i64 0, .int .i64 0, .int .i64 0, .int .u32 0, .int .u32 0, .int .i64 0, .bool false]) rfl (Nat.le_of_ble_eq_true rfl) rfl ?_; intro w9 hb9 hg9 hs9))
              rw [he.out, hh.out]
              exact bodyPost_ret (res_cell2 Try.results69 _ _ _ rfl rfl hb9 sRPart) rfl ⟨rfl, bgrown (bgrown (bgrown HBc.out hga hg3l) hgb hg3l) hg9 hg6l⟩
            · have tx : (x1 != 0) = true := by simp [hx1]
              have he := Lib.hid (show icE zs = 3 by rw [HE.out, if_pos hk, if_pos hx1])
              have hh := Lib.hid (HP0.out (by rw [he.out]; decide))
              clear hx1 hk
              go_wp2_with (first | ((with_reducible refine gd_st 112 6 ?_); refine wpList_st rfl 112 (.tmp 6) _ rfl _ _ rfl _ rfl (H6c.out) sRPart.2 (#[.int .i64 0, .int .u16 0, .int .u16 0, .int .i64 0, .int .i64 0, .int .i64 0, .bool false, .int .i64 0, .int .i64 0, .int .i64 0, .int .i64 0, .int .u32 0, .int .u32 0, .int .i64 0, .bool false]) rfl (Nat.le_of_ble_eq_true rfl) rfl ?_; intro w9 hb9 hg9 hs9))
              rw [he.out, hh.out]
              exact bodyPost_ret (res_cell2 Try.results69 _ _ _ rfl rfl hb9 sRPart) rfl ⟨rfl, bgrown (HBc.out) hg9 hg6l⟩
          · have hk : ¬ (x0 = 0 ∨ x0 = 8) := fun h => by have := htb.2 h; cases this
            clear htb
            have HE2 := Lib.hid (show icE zs = if x0 = 3 ∨ x0 = 11 ∨ x0 = 12 then erE (zs.drop 8) else 6 by rw [HE.out, if_neg hk])
            have HP2 := Lib.hid (fun hh => (HP.out hh).trans (if_neg hk))
            clear hk
            go_upto_if 48 with fail
            go_cut [48] (fun s wx => ∃ tb : Bool, s = .bool tb ∧ (tb = true ↔ (x0 = 3 ∨ x0 = 11 ∨ x0 = 12)) ∧ wx = wc)
            case first =>
              by_cases yx03 : x0 = 3
              · have tx03 : (x0 == 3) = true := by simp [yx03]
                have TT := Lib.hid (show x0 = 3 ∨ x0 = 11 ∨ x0 = 12 by simp [yx03])
                clear yx03
                go_wp2
                go_meet
                exact ⟨true, congrArg Value.bool (by first | rfl | assumption), ⟨fun _ => TT.out, fun _ => rfl⟩, rfl⟩
              · have tx03 : (x0 == 3) = false := by simp [yx03]
                by_cases yx011 : x0 = 11
                · have tx011 : (x0 == 11) = true := by simp [yx011]
                  have TT := Lib.hid (show x0 = 3 ∨ x0 = 11 ∨ x0 = 12 by simp [yx011])
                  clear yx03 yx011
                  go_wp2
                  go_meet
                  exact ⟨true, congrArg Value.bool (by first | rfl | assumption), ⟨fun _ => TT.out, fun _ => rfl⟩, rfl⟩
                · have tx011 : (x0 == 11) = false := by simp [yx011]
                  by_cases yx012 : x0 = 12
                  · have tx012 : (x0 == 12) = true := by simp [yx012]
                    have TT := Lib.hid (show x0 = 3 ∨ x0 = 11 ∨ x0 = 12 by simp [yx012])
                    clear yx03 yx011 yx012
                    go_wp2
                    go_meet
                    exact ⟨true, congrArg Value.bool (by first | rfl | assumption), ⟨fun _ => TT.out, fun _ => rfl⟩, rfl⟩
                  · have tx012 : (x0 == 12) = false := by simp [yx012]
                    have TT := Lib.hid (show ¬ (x0 = 3 ∨ x0 = 11 ∨ x0 = 12) by simp [yx03, yx011, yx012])
                    clear yx03 yx011 yx012
                    go_wp2
                    go_meet
                    exact ⟨false, congrArg Value.bool (by first | rfl | assumption), ⟨fun h => Bool.noConfusion h, fun h => absurd h TT.out⟩, rfl⟩
            case rest =>
              obtain ⟨tb, rfl, htb, rfl⟩ := hcut
              cases tb
              rotate_left
              · have hk : x0 = 3 ∨ x0 = 11 ∨ x0 = 12 := htb.1 rfl
                clear htb
                have HE3 := Lib.hid (show icE zs = erE (zs.drop 8) by rw [HE2.out, if_pos hk])
                clear hk
                by_cases c8 : c = 8
                · subst c8
                  obtain rfl : n = 8 := by omega
                  have hys : zs.drop 8 = [] := List.drop_eq_nil_of_le (by rw [Hn.out]; omega)
                  have he := Lib.hid (show icE zs = 2 by rw [HE3.out, hys]; rfl)
                  have hh := Lib.hid (HP0.out (by rw [he.out]; decide))
                  go_wp2_with fail
                  refine (refPart_any (some ⟨b, off, none⟩) 0 0 [] _ rfl (by omega) (by omega) (Rd.nil _ _)).mono ?_
                  rintro e w2 ⟨rfl, hb2⟩
                  rw [show ptE [] = 2 from rfl, show (ptH []).val = .agg #[.int .i64 0, .int .i64 0, .int .i64 0, .int .i64 0, .int .u32 0, .int .u32 0] from rfl]
                  have HB2 := Lib.hid (bthen HBc.out hb2)
                  have H62 := Lib.hid (H6c.out.below hb2)
                  clear hb2 hys
                  go_wp2_with (first | ((with_reducible refine gd_st 112 6 ?_); refine wpList_st rfl 112 (.tmp 6) _ rfl _ _ rfl _ rfl (H62.out.alloc _) sRPart.2 (#[.int .i64 0, .int .u16 0, .int .u16 0, .int .i64 0, .int .i64 0, .int .i64 0, .bool false, .int .i64 0, .int .i64 0, .int .i64 0, .int .i64 0, .int .u32 0, .int .u32 0, .int .i64 0, .bool false]) rfl (Nat.le_of_ble_eq_true rfl) rfl ?_; intro w9 hb9 hg9 hs9))
                  rw [he.out, hh.out]
                  exact bodyPost_ret (res_cell2 Try.results69 _ _ _ rfl rfl hb9 sRPart) rfl ⟨rfl, bgrown (bthen HB2.out (ball _ _)) hg9 hg6l⟩
                have HR8 := Lib.hid (HR.out.dropAt 8)
                have Hl8 := Lib.hid (show (zs.drop 8).length = n - 8 by rw [List.length_drop, Hn.out])
                have i8c : (8 : Int) ≤ (n : Int) := by omega
                have rE := ptE_range (zs.drop 8)
                obtain ⟨ys, hys⟩ : ∃ ys, ys = zs.drop 8 := ⟨_, rfl⟩
                rw [← hys] at HR8 Hl8 rE HE3 HP2
                go_wp2_with fail
                refine (refPart_any (some ⟨b, off + 8, none⟩) (n - 8) (c - 8) ys _ Hl8.out (by omega) (by omega) (HR8.out.below HBc.out)).mono ?_
                rintro e w2 ⟨rfl, hb2⟩
                obtain ⟨hd, hhd⟩ : ∃ hd, hd = ptH ys := ⟨_, rfl⟩
                obtain ⟨pe, hpe⟩ : ∃ pe, pe = ptE ys := ⟨_, rfl⟩
                rw [← hhd, ← hpe]
                rw [← hpe] at rE
                obtain ⟨i0', i1', i2, i3, i4', i5⟩ := hd
                rw [show (Hd.mk i0' i1' i2 i3 i4' i5).val = .agg #[.int .i64 i0', .int .i64 i1', .int .i64 i2, .int .i64 i3, .int .u32 i4', .int .u32 i5] from rfl]
                have HB2 := Lib.hid (bthen HBc.out hb2)
                have H32 := Lib.hid (H3c.out.below hb2)
                have H42 := Lib.hid (H4c.out.below hb2)
                have H62 := Lib.hid (H6c.out.below hb2)
                have Hh := Lib.hid hhd
                have Hp := Lib.hid hpe
                have l32 := H32.out.lt
                have l42 := H42.out.lt
                have l62 := H62.out.lt
                clear hb2 hhd hpe m4 m5 h0c
                by_cases hz : pe = 0
                · have ez : (pe != 0) = false := by simp [hz]
                  have hpz : ptE ys = 0 := by rw [← Hp.out]; exact hz
                  obtain ⟨hrd, hfl⟩ := ptE_zero ys hpz
                  obtain ⟨q0, q1, q2, q3, q4, q5⟩ := rdE_zero ys 65535 hrd
                  rw [← hfl, ← Hh.out] at q2 q3 q4 q5
                  rw [Hl8.out] at q0 q3
                  simp only at q2 q3 q4 q5
                  obtain ⟨sz, rfl⟩ : ∃ sz : Nat, i0' = (sz : Int) := ⟨i0'.toNat, by omega⟩
                  have HEr := Lib.hid (show erE ys = if ((n - 8 : Nat) : Int) - (sz : Int) < 8 ∨ i1' - (sz : Int) < 8 then 3 else if i3 = 17 ∨ i3 = 6 then 0 else if i3 = 1 ∧ ((ys.drop sz).getD 0 0 = 0 ∨ (ys.drop sz).getD 0 0 = 8) then 0 else 6 by
                    unfold erE erC; rw [hpz, if_neg (by decide), Hl8.out, ← Hh.out]; rfl)
                  have HPr := Lib.hid (fun (hh : erE ys = 0) => show erP ⟨1, 0, 0, 0, x0, x1, false, hd0, d0 + 8, false⟩ ys = if i3 = 1 then ⟨1, G16 (ys.drop sz) 4, G16 (ys.drop sz) 4, 0, x0, x1, true, ⟨sz, i1', i2, i3, i4', i5⟩, d0 + 8, false⟩ else ⟨1, G16 (ys.drop sz) 0, G16 (ys.drop sz) 2, 0, x0, x1, true, ⟨sz, i1', i2, i3, i4', i5⟩, d0 + 8, false⟩ by
                    unfold erP erC; rw [if_pos hh, ← Hh.out]; rfl)
                  obtain rfl : pe = 0 := hz
                  clear hpz hrd hfl
                  go_upto_region 20 with fail
                  have H9 := Lib.hid (Blk.new w2 84 #[.int .i64 (sz : Int), .int .i64 i1', .int .i64 i2, .int .i64 i3, .int .u32 i4', .int .u32 i5])
                  have H33 := Lib.hid (H32.out.alloc (.cells #[.int .i64 (sz : Int), .int .i64 i1', .int .i64 i2, .int .i64 i3, .int .u32 i4', .int .u32 i5] 84))
                  have H43 := Lib.hid (H42.out.alloc (.cells #[.int .i64 (sz : Int), .int .i64 i1', .int .i64 i2, .int .i64 i3, .int .u32 i4', .int .u32 i5] 84))
                  have H63 := Lib.hid (H62.out.alloc (.cells #[.int .i64 (sz : Int), .int .i64 i1', .int .i64 i2, .int .i64 i3, .int .u32 i4', .int .u32 i5] 84))
                  have HB3 := Lib.hid (bthen HB2.out (ball w2 (.cells #[.int .i64 (sz : Int), .int .i64 i1', .int .i64 i2, .int .i64 i3, .int .u32 i4', .int .u32 i5] 84)))
                  have n93 : w2.heap.size ≠ g3 := by omega
                  have n96 : w2.heap.size ≠ g6 := by omega
                  generalize w2.alloc (.cells #[.int .i64 (sz : Int), .int .i64 i1', .int .i64 i2, .int .i64 i3, .int .u32 i4', .int .u32 i5] 84) = w3 at *
                  generalize w2.heap.size = g9 at *
                  have k0 : w3.cell? ⟨g9, 0, none⟩ = some (.int .i64 (sz : Int)) := H9.out.cell 0
                  have k1 : w3.cell? ⟨g9, 1, none⟩ = some (.int .i64 i1') := H9.out.cell 1
                  have isz : 8 + (sz : Int) ≤ (n : Int) := by omega
                  go_upto_region 21 with fail
                  obtain ⟨A11, hA11⟩ : ∃ A11 : Option Addr, A11 = if c = 8 + sz then some ⟨b, off, none⟩ else some ⟨b, off + (8 + sz), none⟩ := ⟨_, rfl⟩
                  rw [← hA11]
                  obtain ⟨m, hm⟩ : ∃ m, m = n - (8 + sz) := ⟨_, rfl⟩
                  obtain ⟨cm, hcm⟩ : ∃ m, m = c - (8 + sz) := ⟨_, rfl⟩
                  rw [← hm, ← hcm]
                  have im1 : ((n - 8 : Nat) : Int) - (sz : Int) = (m : Int) := by omega
                  have im2 : m + (8 + sz) ≤ n ∧ n ≤ m + (8 + sz) ∧ cm + (8 + sz) ≤ c ∧ c ≤ cm + (8 + sz) := by omega
                  have HA11 := Lib.hid hA11
                  clear hm hcm hA11
                  rw [im1] at HEr
                  clear im1
                  by_cases hm8 : (m : Int) < 8
                  · have dm8 : decide ((m : Int) < 8) = true := by simp; omega
                    have he := Lib.hid (show icE zs = 3 by rw [HE3.out, HEr.out, if_pos (.inl hm8)])
                    have hh := Lib.hid (HP0.out (by rw [he.out]; decide))
                    go_wp2_with (first | ((with_reducible refine gd_st 112 6 ?_); refine wpList_st rfl 112 (.tmp 6) _ rfl _ _ rfl _ rfl (H63.out) sRPart.2 (#[.int .i64 0, .int .u16 0, .int .u16 0, .int .i64 0, .int .i64 0, .int .i64 0, .bool false, .int .i64 0, .int .i64 0, .int .i64 0, .int .i64 0, .int .u32 0, .int .u32 0, .int .i64 0, .bool false]) rfl (Nat.le_of_ble_eq_true rfl) rfl ?_; intro w9 hb9 hg9 hs9))
                    rw [he.out, hh.out]
                    exact bodyPost_ret (res_cell2 Try.results69 _ _ _ rfl rfl hb9 sRPart) rfl ⟨rfl, bgrown (HB3.out) hg9 hg6l⟩
                  have dm8 : decide ((m : Int) < 8) = false := by simp; omega
                  by_cases hl8 : i1' < (sz : Int) + 8
                  · have dl8 : decide (i1' < (sz : Int) + 8) = true := by simp; omega
                    have he := Lib.hid (show icE zs = 3 by rw [HE3.out, HEr.out, if_pos (.inr (by omega))])
                    have hh := Lib.hid (HP0.out (by rw [he.out]; decide))
                    go_wp2_with (first | ((with_reducible refine gd_st 112 6 ?_); refine wpList_st rfl 112 (.tmp 6) _ rfl _ _ rfl _ rfl (H63.out) sRPart.2 (#[.int .i64 0, .int .u16 0, .int .u16 0, .int .i64 0, .int .i64 0, .int .i64 0, .bool false, .int .i64 0, .int .i64 0, .int .i64 0, .int .i64 0, .int .u32 0, .int .u32 0, .int .i64 0, .bool false]) rfl (Nat.le_of_ble_eq_true rfl) rfl ?_; intro w9 hb9 hg9 hs9))
                    rw [he.out, hh.out]
                    exact bodyPost_ret (res_cell2 Try.results69 _ _ _ rfl rfl hb9 sRPart) rfl ⟨rfl, bgrown (HB3.out) hg9 hg6l⟩
                  have dl8 : decide (i1' < (sz : Int) + 8) = false := by simp; omega
                  have HEs := Lib.hid (show erE ys = if i3 = 17 ∨ i3 = 6 then 0 else if i3 = 1 ∧ ((ys.drop sz).getD 0 0 = 0 ∨ (ys.drop sz).getD 0 0 = 8) then 0 else 6 by rw [HEr.out, if_neg (by omega)])
                  have hA11 := HA11.out
                  rw [if_neg (by omega)] at hA11
                  clear HA11
                  go_upto_region 23 with fail
                  subst hA11
                  have HRu := Lib.hid (show Rd w (some ⟨b, off + (8 + sz), none⟩) (ys.drop sz) by have := HR8.out.dropAt sz; rwa [Nat.add_assoc] at this)
                  have Hul := Lib.hid (show (ys.drop sz).length = m by rw [List.length_drop, Hl8.out]; omega)
                  have hm8' : 8 ≤ m := by omega
                  have hmc : m ≤ cm := by omega
                  have icm6 : (6 : Int) ≤ (cm : Int) := by omega
                  have icm4 : (4 : Int) ≤ (cm : Int) := by omega
                  have icm2 : (2 : Int) ≤ (cm : Int) := by omega
                  have im0 : 0 < m := by omega
                  have HP2' := Lib.hid HP2.out
                  obtain ⟨us, hus⟩ : ∃ us, us = ys.drop sz := ⟨_, rfl⟩
                  rw [← hus] at HRu Hul HEs HPr
                  have ub := HRu.out.1.getD 0
                  have ur0 := G16_range us HRu.out.1 0
                  have ur2 := G16_range us HRu.out.1 2
                  have ur4 := G16_range us HRu.out.1 4
                  have nb39 : ¬ b = g9 := by
                    intro h; have := HRu.out.lt b (off + (8 + sz)) (by rw [Hul.out]; omega) rfl; omega
                  clear hus HEr k0 k1 dm8 dl8
                  generalize off + (8 + sz) = ou at *
                  have kn0 := H9.out.cell 0
                  have kn1 := H9.out.cell 1
                  have kn2 := H9.out.cell 2
                  have kn3 := H9.out.cell 3
                  have kn4 := H9.out.cell 4
                  have kn5 := H9.out.cell 5
                  simp only [List.getElem?_toArray, List.getElem?_cons_zero, List.getElem?_cons_succ] at kn0 kn1 kn2 kn3 kn4 kn5
                  have h0c : w3.cell? ⟨g4, 0, none⟩ = some (.int .i64 d0) := H43.out.cell 0
                  have v8 : IntKind.i64.wrap (d0 + 8) = d0 + 8 := by rw [IntKind.wrap_i64]; omega
                  have kt6 := H33.out.cell 6
                  have kt7 := H33.out.cell 7
                  have kt8 := H33.out.cell 8
                  have kt9 := H33.out.cell 9
                  have kt10 := H33.out.cell 10
                  have kt11 := H33.out.cell 11
                  have kt12 := H33.out.cell 12
                  have kt13 := H33.out.cell 13
                  simp only [List.getElem?_toArray, List.getElem?_cons_zero, List.getElem?_cons_succ] at kt6 kt7 kt8 kt9 kt10 kt11 kt12 kt13
                  have ktf6 := H33.out.frozen 6
                  have ktf7 := H33.out.frozen 7
                  have ktf8 := H33.out.frozen 8
                  have ktf9 := H33.out.frozen 9
                  have ktf10 := H33.out.frozen 10
                  have ktf11 := H33.out.frozen 11
                  have ktf12 := H33.out.frozen 12
                  have ktf13 := H33.out.frozen 13
                  go_cut [] (fun wx => Blk wx g3 112 #[.int .i64 1, .int .u16 0, .int .u16 0, .int .i64 0, .int .i64 x0, .int .i64 x1, .bool true, .int .i64 (sz : Int), .int .i64 i1', .int .i64 i2, .int .i64 i3, .int .u32 i4', .int .u32 i5, .int .i64 (d0 + 8), .bool false] ∧ w3.grownBy wx (some g3))
                  case first =>
                    go_region
                    go_wp2
                    go_meet
                    have q6 : Blk _ g3 112 #[.int .i64 1, .int .u16 0, .int .u16 0, .int .i64 0, .int .i64 x0, .int .i64 x1, .bool true, .int .i64 0, .int .i64 0, .int .i64 0, .int .i64 0, .int .u32 0, .int .u32 0, .int .i64 0, .bool false] := H33.out.set 6 (.bool true)
                    have t6 := grown_setCell w3 g3 6 (.bool true)
                    have q7 : Blk _ g3 112 #[.int .i64 1, .int .u16 0, .int .u16 0, .int .i64 0, .int .i64 x0, .int .i64 x1, .bool true, .int .i64 (sz : Int), .int .i64 0, .int .i64 0, .int .i64 0, .int .u32 0, .int .u32 0, .int .i64 0, .bool false] := q6.set 7 (.int .i64 (sz : Int))
                    have t7 := t6.trans (grown_setCell _ g3 7 (.int .i64 (sz : Int)))
                    have q8 : Blk _ g3 112 #[.int .i64 1, .int .u16 0, .int .u16 0, .int .i64 0, .int .i64 x0, .int .i64 x1, .bool true, .int .i64 (sz : Int), .int .i64 i1', .int .i64 0, .int .i64 0, .int .u32 0, .int .u32 0, .int .i64 0, .bool false] := q7.set 8 (.int .i64 i1')
                    have t8 := t7.trans (grown_setCell _ g3 8 (.int .i64 i1'))
                    have q9 : Blk _ g3 112 #[.int .i64 1, .int .u16 0, .int .u16 0, .int .i64 0, .int .i64 x0, .int .i64 x1, .bool true, .int .i64 (sz : Int), .int .i64 i1', .int .i64 i2, .int .i64 0, .int .u32 0, .int .u32 0, .int .i64 0, .bool false] := q8.set 9 (.int .i64 i2)
                    have t9 := t8.trans (grown_setCell _ g3 9 (.int .i64 i2))
                    have q10 : Blk _ g3 112 #[.int .i64 1, .int .u16 0, .int .u16 0, .int .i64 0, .int .i64 x0, .int .i64 x1, .bool true, .int .i64 (sz : Int), .int .i64 i1', .int .i64 i2, .int .i64 i3, .int .u32 0, .int .u32 0, .int .i64 0, .bool false] := q9.set 10 (.int .i64 i3)
                    have t10 := t9.trans (grown_setCell _ g3 10 (.int .i64 i3))
                    have q11 : Blk _ g3 112 #[.int .i64 1, .int .u16 0, .int .u16 0, .int .i64 0, .int .i64 x0, .int .i64 x1, .bool true, .int .i64 (sz : Int), .int .i64 i1', .int .i64 i2, .int .i64 i3, .int .u32 i4', .int .u32 0, .int .i64 0, .bool false] := q10.set 11 (.int .u32 i4')
                    have t11 := t10.trans (grown_setCell _ g3 11 (.int .u32 i4'))
                    have q12 : Blk _ g3 112 #[.int .i64 1, .int .u16 0, .int .u16 0, .int .i64 0, .int .i64 x0, .int .i64 x1, .bool true, .int .i64 (sz : Int), .int .i64 i1', .int .i64 i2, .int .i64 i3, .int .u32 i4', .int .u32 i5, .int .i64 0, .bool false] := q11.set 12 (.int .u32 i5)
                    have t12 := t11.trans (grown_setCell _ g3 12 (.int .u32 i5))
                    have q13 : Blk _ g3 112 #[.int .i64 1, .int .u16 0, .int .u16 0, .int .i64 0, .int .i64 x0, .int .i64 x1, .bool true, .int .i64 (sz : Int), .int .i64 i1', .int .i64 i2, .int .i64 i3, .int .u32 i4', .int .u32 i5, .int .i64 (d0 + 8), .bool false] := q12.set 13 (.int .i64 (d0 + 8))
                    have t13 := t12.trans (grown_setCell _ g3 13 (.int .i64 (d0 + 8)))
                    exact ⟨q13.drew, grown_drew t13⟩
                  case rest =>
                    obtain ⟨h3d, hgd⟩ := hcut
                    have H3d := Lib.hid h3d
                    have H9d := Lib.hid (H9.out.grown hgd n93)
                    have H6d := Lib.hid (H63.out.grown hgd n63)
                    have HBd := Lib.hid (bgrown HB3.out hgd hg3l)
                    clear h3d hgd kn0 kn1 kn2 kn3 kn4 kn5 kt6 ktf6 kt7 ktf7 kt8 ktf8 kt9 ktf9 kt10 ktf10 kt11 ktf11 kt12 ktf12 kt13 ktf13 h0c
                    have p3 : wc.cell? ⟨g9, 3, none⟩ = some (.int .i64 i3) := H9d.out.cell 3
                    have k1 : wc.cell? ⟨g3, 1, none⟩ = some (.int .u16 0) := H3d.out.cell 1
                    have k2 : wc.cell? ⟨g3, 2, none⟩ = some (.int .u16 0) := H3d.out.cell 2
                    have kf1 := H3d.out.frozen 1
                    have kf2 := H3d.out.frozen 2
                    have HRd := Lib.hid (HRu.out.below HBd.out)
                    have hltu := Lib.hid (show ∀ b' off', 0 < us.length → (some ⟨b, ou, none⟩ : Option Addr) = some ⟨b', off', none⟩ → b' < g3 from fun b' off' h1 h2 => Nat.lt_of_lt_of_le (HRu.out.lt b' off' h1 h2) hg3l)
                    have hc4 : ¬ cm = 4 := by omega
                    have hc2 : ¬ cm = 2 := by omega
                    have wr0 : IntKind.u16.wrap (G16 us 0) = G16 us 0 := by rw [IntKind.wrap_u16]; omega
                    have wr2 : IntKind.u16.wrap (G16 us 2) = G16 us 2 := by rw [IntKind.wrap_u16]; omega
                    have wr4 : IntKind.u16.wrap (G16 us 4) = G16 us 4 := by rw [IntKind.wrap_u16]; omega
                    have Hn0 := Lib.hid (fun (W : World) (h : Rd W (some ⟨b, ou, none⟩) us) => num16_any b ou m cm us 0 W Hul.out (by omega) h)
                    have Hn2 := Lib.hid (fun (W : World) (h : Rd W (some ⟨b, ou, none⟩) us) => num16_any b ou m (cm - 2) us 2 W Hul.out (by omega) h)
                    have Hn4 := Lib.hid (fun (W : World) (h : Rd W (some ⟨b, ou, none⟩) us) => num16_any b ou m (cm - 4) us 4 W Hul.out (by omega) h)
                    go_upto_if 89 with fail
                    go_cut [89] (fun s wx => ∃ tb : Bool, s = .bool tb ∧ (tb = true ↔ (i3 = 6 ∨ i3 = 17)) ∧ wx = wc)
                    case first =>
                      by_cases yi36 : i3 = 6
                      · have ti36 : (i3 == 6) = true := by simp [yi36]
                        have TT := Lib.hid (show i3 = 6 ∨ i3 = 17 by simp [yi36])
                        clear yi36
                        go_wp2
                        go_meet
                        exact ⟨true, congrArg Value.bool (by first | rfl | assumption), ⟨fun _ => TT.out, fun _ => rfl⟩, rfl⟩
                      · have ti36 : (i3 == 6) = false := by simp [yi36]
                        by_cases yi317 : i3 = 17
                        · have ti317 : (i3 == 17) = true := by simp [yi317]
                          have TT := Lib.hid (show i3 = 6 ∨ i3 = 17 by simp [yi317])
                          clear yi36 yi317
                          go_wp2
                          go_meet
                          exact ⟨true, congrArg Value.bool (by first | rfl | assumption), ⟨fun _ => TT.out, fun _ => rfl⟩, rfl⟩
                        · have ti317 : (i3 == 17) = false := by simp [yi317]
                          have TT := Lib.hid (show ¬ (i3 = 6 ∨ i3 = 17) by simp [yi36, yi317])
                          clear yi36 yi317
                          go_wp2
                          go_meet
                          exact ⟨false, congrArg Value.bool (by first | rfl | assumption), ⟨fun h => Bool.noConfusion h, fun h => absurd h TT.out⟩, rfl⟩
                    case rest =>
                      obtain ⟨tb, rfl, htb, rfl⟩ := hcut
                      cases tb
                      rotate_left
                      · have hk : i3 = 6 ∨ i3 = 17 := htb.1 rfl
                        clear htb
                        have her : erE ys = 0 := by rw [HEs.out, if_pos (by omega)]
                        have he := Lib.hid (show icE zs = 0 by rw [HE3.out, her])
                        have hh := Lib.hid (show (icP d0 zs).val = .agg #[.int .i64 1, .int .u16 (G16 us 0), .int .u16 (G16 us 2), .int .i64 0, .int .i64 x0, .int .i64 x1, .bool true, .int .i64 (sz : Int), .int .i64 i1', .int .i64 i2, .int .i64 i3, .int .u32 i4', .int .u32 i5, .int .i64 (d0 + 8), .bool false] by rw [HP2.out he.out, HPr.out her, if_neg (by omega)]; rfl)
                        clear hk her
                        go_upto_region 28 with fail
                        go_region_held3 (fun W => Rd W (some ⟨b, ou, none⟩) us)
                          (first | (with_reducible exact HRd.out.drew) | (with_reducible exact (HRd.out.neq (p := ⟨g3, 1, none⟩) hltu.out _).drew) | (with_reducible exact ((HRd.out.neq (p := ⟨g3, 1, none⟩) hltu.out _).neq (p := ⟨g3, 2, none⟩) hltu.out _).drew))
                          (first | (go_at_call 58; (with_reducible refine (Hn2.out _ (by assumption)).mono ?_); rintro e w' ⟨rfl, rfl⟩) | (go_at_call 58; refine (Hn0.out _ (by assumption)).mono ?_; rintro e w' ⟨rfl, rfl⟩))
                        have q1 : Blk _ g3 112 #[.int .i64 1, .int .u16 (G16 us 0), .int .u16 0, .int .i64 0, .int .i64 x0, .int .i64 x1, .bool true, .int .i64 (sz : Int), .int .i64 i1', .int .i64 i2, .int .i64 i3, .int .u32 i4', .int .u32 i5, .int .i64 (d0 + 8), .bool false] := H3d.out.set 1 (.int .u16 (G16 us 0))
                        have q2 : Blk _ g3 112 #[.int .i64 1, .int .u16 (G16 us 0), .int .u16 (G16 us 2), .int .i64 0, .int .i64 x0, .int .i64 x1, .bool true, .int .i64 (sz : Int), .int .i64 i1', .int .i64 i2, .int .i64 i3, .int .u32 i4', .int .u32 i5, .int .i64 (d0 + 8), .bool false] := q1.set 2 (.int .u16 (G16 us 2))
                        have s1 := grown_setCell wc g3 1 (.int .u16 (G16 us 0))
                        have s2 := grown_drew (s1.trans (grown_setCell _ g3 2 (.int .u16 (G16 us 2))))
                        go_wp2_with (first | ((with_reducible refine gd_ld 112 3 ?_); refine wpList_ld rfl 112 (.tmp 3) rfl _ rfl (q2.drew) sRPart ?_) | ((with_reducible refine gd_st 112 6 ?_); refine wpList_st rfl 112 (.tmp 6) _ rfl _ _ rfl _ rfl (H6d.out.grown s2 n63) sRPart.2 (#[.int .i64 1, .int .u16 (G16 us 0), .int .u16 (G16 us 2), .int .i64 0, .int .i64 x0, .int .i64 x1, .bool true, .int .i64 (sz : Int), .int .i64 i1', .int .i64 i2, .int .i64 i3, .int .u32 i4', .int .u32 i5, .int .i64 (d0 + 8), .bool false]) rfl (Nat.le_of_ble_eq_true rfl) rfl ?_; intro w9 hb9 hg9 hs9))
                        rw [he.out, hh.out]
                        exact bodyPost_ret (res_cell2 Try.results69 _ _ _ rfl rfl hb9 sRPart) rfl ⟨rfl, bgrown (bgrown HBd.out s2 hg3l) hg9 hg6l⟩
                      · have hk : ¬ (i3 = 6 ∨ i3 = 17) := fun h => by have := htb.2 h; cases this
                        clear htb
                        by_cases h1 : i3 = 1
                        · have e1 : (i3 == 1) = true := by simp [h1]
                          have cz : wc.cell? ⟨b, ou, none⟩ = some (.int .u8 (us.getD 0 0)) := by
                            obtain ⟨b', off', e, hc'⟩ := HRd.out.2 (by rw [Hul.out]; omega)
                            injection e with e; injection e with e1 e2; subst e1 e2
                            exact hc' 0 (by rw [Hul.out]; omega)
                          have HEt := Lib.hid (show erE ys = if us.getD 0 0 = 0 ∨ us.getD 0 0 = 8 then 0 else 6 by
                            rw [HEs.out, if_neg (by omega)]; simp only [h1, true_and])
                          have H1 := Lib.hid h1
                          generalize us.getD 0 0 = u0 at *
                          clear h1 hk
                          by_cases z0 : u0 = 0
                          · have t0 : (u0 != 0) = false := by simp [z0]
                            have her : erE ys = 0 := by rw [HEt.out, if_pos (.inl z0)]
                            have he := Lib.hid (show icE zs = 0 by rw [HE3.out, her])
                            have hh := Lib.hid (show (icP d0 zs).val = .agg #[.int .i64 1, .int .u16 (G16 us 4), .int .u16 (G16 us 4), .int .i64 0, .int .i64 x0, .int .i64 x1, .bool true, .int .i64 (sz : Int), .int .i64 i1', .int .i64 i2, .int .i64 i3, .int .u32 i4', .int .u32 i5, .int .i64 (d0 + 8), .bool false] by rw [HP2.out he.out, HPr.out her, if_pos H1.out]; rfl)
                            clear z0 her
                            go_upto_region 32 with fail
                            go_region_held3 (fun W => Rd W (some ⟨b, ou, none⟩) us)
                              (first | (with_reducible exact HRd.out.drew) | (with_reducible exact (HRd.out.neq (p := ⟨g3, 1, none⟩) hltu.out _).drew) | (with_reducible exact ((HRd.out.neq (p := ⟨g3, 1, none⟩) hltu.out _).neq (p := ⟨g3, 2, none⟩) hltu.out _).drew))
                              (first | (go_at_call 58; (with_reducible refine (Hn4.out _ (by assumption)).mono ?_); rintro e w' ⟨rfl, rfl⟩))
                            have q1 : Blk _ g3 112 #[.int .i64 1, .int .u16 (G16 us 4), .int .u16 0, .int .i64 0, .int .i64 x0, .int .i64 x1, .bool true, .int .i64 (sz : Int), .int .i64 i1', .int .i64 i2, .int .i64 i3, .int .u32 i4', .int .u32 i5, .int .i64 (d0 + 8), .bool false] := H3d.out.set 1 (.int .u16 (G16 us 4))
                            have q2 : Blk _ g3 112 #[.int .i64 1, .int .u16 (G16 us 4), .int .u16 (G16 us 4), .int .i64 0, .int .i64 x0, .int .i64 x1, .bool true, .int .i64 (sz : Int), .int .i64 i1', .int .i64 i2, .int .i64 i3, .int .u32 i4', .int .u32 i5, .int .i64 (d0 + 8), .bool false] := q1.set 2 (.int .u16 (G16 us 4))
                            have s1 := grown_setCell wc g3 1 (.int .u16 (G16 us 4))
                            have s2 := grown_drew (s1.trans (grown_setCell _ g3 2 (.int .u16 (G16 us 4))))
                            go_wp2_with (first | ((with_reducible refine gd_ld 112 3 ?_); refine wpList_ld rfl 112 (.tmp 3) rfl _ rfl (q2.drew) sRPart ?_) | ((with_reducible refine gd_st 112 6 ?_); refine wpList_st rfl 112 (.tmp 6) _ rfl _ _ rfl _ rfl (H6d.out.grown s2 n63) sRPart.2 (#[.int .i64 1, .int .u16 (G16 us 4), .int .u16 (G16 us 4), .int .i64 0, .int .i64 x0, .int .i64 x1, .bool true, .int .i64 (sz : Int), .int .i64 i1', .int .i64 i2, .int .i64 i3, .int .u32 i4', .int .u32 i5, .int .i64 (d0 + 8), .bool false]) rfl (Nat.le_of_ble_eq_true rfl) rfl ?_; intro w9 hb9 hg9 hs9))
                            rw [he.out, hh.out]
                            exact bodyPost_ret (res_cell2 Try.results69 _ _ _ rfl rfl hb9 sRPart) rfl ⟨rfl, bgrown (bgrown HBd.out s2 hg3l) hg9 hg6l⟩
                          · have t0 : (u0 != 0) = true := by simp [z0]
                            by_cases z8 : u0 = 8
                            · have t8 : (u0 != 8) = false := by simp [z8]
                              have her : erE ys = 0 := by rw [HEt.out, if_pos (.inr z8)]
                              have he := Lib.hid (show icE zs = 0 by rw [HE3.out, her])
                              have hh := Lib.hid (show (icP d0 zs).val = .agg #[.int .i64 1, .int .u16 (G16 us 4), .int .u16 (G16 us 4), .int .i64 0, .int .i64 x0, .int .i64 x1, .bool true, .int .i64 (sz : Int), .int .i64 i1', .int .i64 i2, .int .i64 i3, .int .u32 i4', .int .u32 i5, .int .i64 (d0 + 8), .bool false] by rw [HP2.out he.out, HPr.out her, if_pos H1.out]; rfl)
                              clear z0 z8 her
                              go_upto_region 32 with fail
                              go_region_held3 (fun W => Rd W (some ⟨b, ou, none⟩) us)
                                (first | (with_reducible exact HRd.out.drew) | (with_reducible exact (HRd.out.neq (p := ⟨g3, 1, none⟩) hltu.out _).drew) | (with_reducible exact ((HRd.out.neq (p := ⟨g3, 1, none⟩) hltu.out _).neq (p := ⟨g3, 2, none⟩) hltu.out _).drew))
                                (first | (go_at_call 58; (with_reducible refine (Hn4.out _ (by assumption)).mono ?_); rintro e w' ⟨rfl, rfl⟩))
                              have q1 : Blk _ g3 112 #[.int .i64 1, .int .u16 (G16 us 4), .int .u16 0, .int .i64 0, .int .i64 x0, .int .i64 x1, .bool true, .int .i64 (sz : Int), .int .i64 i1', .int .i64 i2, .int .i64 i3, .int .u32 i4', .int .u32 i5, .int .i64 (d0 + 8), .bool false] := H3d.out.set 1 (.int .u16 (G16 us 4))
                              have q2 : Blk _ g3 112 #[.int .i64 1, .int .u16 (G16 us 4), .int .u16 (G16 us 4), .int .i64 0, .int .i64 x0, .int .i64 x1, .bool true, .int .i64 (sz : Int), .int .i64 i1', .int .i64 i2, .int .i64 i3, .int .u32 i4', .int .u32 i5, .int .i64 (d0 + 8), .bool false] := q1.set 2 (.int .u16 (G16 us 4))
                              have s1 := grown_setCell wc g3 1 (.int .u16 (G16 us 4))
                              have s2 := grown_drew (s1.trans (grown_setCell _ g3 2 (.int .u16 (G16 us 4))))
                              go_wp2_with (first | ((with_reducible refine gd_ld 112 3 ?_); refine wpList_ld rfl 112 (.tmp 3) rfl _ rfl (q2.drew) sRPart ?_) | ((with_reducible refine gd_st 112 6 ?_); refine wpList_st rfl 112 (.tmp 6) _ rfl _ _ rfl _ rfl (H6d.out.grown s2 n63) sRPart.2 (#[.int .i64 1, .int .u16 (G16 us 4), .int .u16 (G16 us 4), .int .i64 0, .int .i64 x0, .int .i64 x1, .bool true, .int .i64 (sz : Int), .int .i64 i1', .int .i64 i2, .int .i64 i3, .int .u32 i4', .int .u32 i5, .int .i64 (d0 + 8), .bool false]) rfl (Nat.le_of_ble_eq_true rfl) rfl ?_; intro w9 hb9 hg9 hs9))
                              rw [he.out, hh.out]
                              exact bodyPost_ret (res_cell2 Try.results69 _ _ _ rfl rfl hb9 sRPart) rfl ⟨rfl, bgrown (bgrown HBd.out s2 hg3l) hg9 hg6l⟩
                            · have t8 : (u0 != 8) = true := by simp [z8]
                              have he := Lib.hid (show icE zs = 6 by rw [HE3.out, HEt.out, if_neg (by omega)])
                              have hh := Lib.hid (HP0.out (by rw [he.out]; decide))
                              clear z0 z8
                              go_wp2_with (first | ((with_reducible refine gd_st 112 6 ?_); refine wpList_st rfl 112 (.tmp 6) _ rfl _ _ rfl _ rfl (H6d.out) sRPart.2 (#[.int .i64 0, .int .u16 0, .int .u16 0, .int .i64 0, .int .i64 0, .int .i64 0, .bool false, .int .i64 0, .int .i64 0, .int .i64 0, .int .i64 0, .int .u32 0, .int .u32 0, .int .i64 0, .bool false]) rfl (Nat.le_of_ble_eq_true rfl) rfl ?_; intro w9 hb9 hg9 hs9))
                              rw [he.out, hh.out]
                              exact bodyPost_ret (res_cell2 Try.results69 _ _ _ rfl rfl hb9 sRPart) rfl ⟨rfl, bgrown (HBd.out) hg9 hg6l⟩
                        · have e1 : (i3 == 1) = false := by simp [h1]
                          have he := Lib.hid (show icE zs = 6 by rw [HE3.out, HEs.out, if_neg (by omega), if_neg (fun h => h1 h.1)])
                          have hh := Lib.hid (HP0.out (by rw [he.out]; decide))
                          clear h1 hk
                          go_wp2_with (first | ((with_reducible refine gd_st 112 6 ?_); refine wpList_st rfl 112 (.tmp 6) _ rfl _ _ rfl _ rfl (H6d.out) sRPart.2 (#[.int .i64 0, .int .u16 0, .int .u16 0, .int .i64 0, .int .i64 0, .int .i64 0, .bool false, .int .i64 0, .int .i64 0, .int .i64 0, .int .i64 0, .int .u32 0, .int .u32 0, .int .i64 0, .bool false]) rfl (Nat.le_of_ble_eq_true rfl) rfl ?_; intro w9 hb9 hg9 hs9))
                          rw [he.out, hh.out]
                          exact bodyPost_ret (res_cell2 Try.results69 _ _ _ rfl rfl hb9 sRPart) rfl ⟨rfl, bgrown (HBd.out) hg9 hg6l⟩
                · have ez : (pe != 0) = true := by simp [hz]
                  have he := Lib.hid (show icE zs = pe by rw [HE3.out]; unfold erE; rw [if_pos (by rw [← Hp.out]; exact hz), Hp.out])
                  have hh := Lib.hid (HP0.out (by rw [he.out]; exact hz))
                  go_wp2_with (first | ((with_reducible refine gd_st 112 6 ?_); refine wpList_st rfl 112 (.tmp 6) _ rfl _ _ rfl _ rfl (H62.out.alloc _) sRPart.2 (#[.int .i64 0, .int .u16 0, .int .u16 0, .int .i64 0, .int .i64 0, .int .i64 0, .bool false, .int .i64 0, .int .i64 0, .int .i64 0, .int .i64 0, .int .u32 0, .int .u32 0, .int .i64 0, .bool false]) rfl (Nat.le_of_ble_eq_true rfl) rfl ?_; intro w9 hb9 hg9 hs9))
                  rw [he.out, hh.out]
                  exact bodyPost_ret (res_cell2 Try.results69 _ _ _ rfl rfl hb9 sRPart) rfl ⟨rfl, bgrown (bthen HB2.out (ball _ _)) hg9 hg6l⟩
              · have hk : ¬ (x0 = 3 ∨ x0 = 11 ∨ x0 = 12) := fun h => by have := htb.2 h; cases this
                clear htb
                have he := Lib.hid (show icE zs = 6 by rw [HE2.out, if_neg hk])
                have hh := Lib.hid (HP0.out (by rw [he.out]; decide))
                clear hk
                go_wp2_with (first | ((with_reducible refine gd_st 112 6 ?_); refine wpList_st rfl 112 (.tmp 6) _ rfl _ _ rfl _ rfl (H6c.out) sRPart.2 (#[.int .i64 0, .int .u16 0, .int .u16 0, .int .i64 0, .int .i64 0, .int .i64 0, .bool false, .int .i64 0, .int .i64 0, .int .i64 0, .int .i64 0, .int .u32 0, .int .u32 0, .int .i64 0, .bool false]) rfl (Nat.le_of_ble_eq_true rfl) rfl ?_; intro w9 hb9 hg9 hs9))
                rw [he.out, hh.out]
                exact bodyPost_ret (res_cell2 Try.results69 _ _ _ rfl rfl hb9 sRPart) rfl ⟨rfl, bgrown (HBc.out) hg9 hg6l⟩
    · have ecs : (Cs zs != 0) = true := by simp [hcs]
      have he := Lib.hid (show icE zs = 4 by unfold icE; rw [if_neg (by rw [Hn.out]; exact h8), if_pos hcs])
      have hh := Lib.hid (HP0.out (by rw [he.out]; decide))
      go_wp2_with (first | ((with_reducible refine gd_st 112 6 ?_); refine wpList_st rfl 112 (.tmp 6) _ rfl _ _ rfl _ rfl (H6.out) sRPart.2 (#[.int .i64 0, .int .u16 0, .int .u16 0, .int .i64 0, .int .i64 0, .int .i64 0, .bool false, .int .i64 0, .int .i64 0, .int .i64 0, .int .i64 0, .int .u32 0, .int .u32 0, .int .i64 0, .bool false]) rfl (Nat.le_of_ble_eq_true rfl) rfl ?_; intro w9 hb9 hg9 hs9))
      rw [he.out, hh.out]
      exact bodyPost_ret (res_cell2 Try.results69 _ _ _ rfl rfl hb9 sRPart) rfl ⟨rfl, bgrown (HB1.out) hg9 hg6l⟩
end Go.Proofs.Ytbnlpidhbilenaa
