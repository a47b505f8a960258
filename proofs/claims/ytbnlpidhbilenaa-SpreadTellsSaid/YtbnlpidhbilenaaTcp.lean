/-
  Contract of part.getTcp. Conditions stand in each theorem.
-/
import Derived.Test.YtbnlpidhbilenaaUdp
namespace Go.Proofs.Ytbnlpidhbilenaa
open Go.RowKit Plain
set_option linter.unusedVariables false
set_option linter.unusedSimpArgs false
set_option maxRecDepth 100000

set_option maxHeartbeats 4000000 in
theorem getTcp_any (d0 d1 d2 d3 d4 d5 : Int) (A : Option Addr) (n c : Nat) (zs : List Int) (w : World) (hn : zs.length = n) (hl : n ≤ 1000000) (hR : Rd w A zs) (s0 : 0 ≤ d4) (s1 : d4 ≤ 4294967295) (t0 : 0 ≤ d5) (t1 : d5 ≤ 4294967295) :
    Calls Try.prog 67 #[.agg #[.int .i64 d0, .int .i64 d1, .int .i64 d2, .int .i64 d3, .int .u32 d4, .int .u32 d5], .slice A n c] w fun e w' => e = .returned (.tuple #[(tcP d4 d5 zs).val, .int .i64 (tcE d4 d5 zs)]) ∧ Below w.heap.size w w' := by
  have HR := Lib.hid hR
  have Hn := Lib.hid hn
  have rp := Ps_range d4 d5 6 zs hR.1 s0 t0 (by decide)
  have z12b := hR.1.getD 12
  have z13b := hR.1.getD 13
  clear hR hn
  go_enter Try.func67, Try.ntmps67
  go_upto_region 1 with fail
  obtain ⟨w1, hw1⟩ : ∃ w1, w1 = (w.alloc (.cells #[.int .i64 d0, .int .i64 d1, .int .i64 d2, .int .i64 d3, .int .u32 d4, .int .u32 d5] 103)).alloc (.cells #[.int .i64 0, .int .u16 0, .int .u16 0, .int .i64 0, .int .i64 0, .int .i64 0, .bool false, .int .i64 0, .int .i64 0, .int .i64 0, .int .i64 0, .int .u32 0, .int .u32 0, .int .i64 0, .bool false] 107) := ⟨_, rfl⟩
  have HBh := Lib.hid (show Blk w1 w.heap.size 103 #[.int .i64 d0, .int .i64 d1, .int .i64 d2, .int .i64 d3, .int .u32 d4, .int .u32 d5] by rw [hw1]; exact (Blk.new w _ _).alloc _)
  have hbr : Blk w1 (w.heap.size + 1) 107 #[.int .i64 0, .int .u16 0, .int .u16 0, .int .i64 0, .int .i64 0, .int .i64 0, .bool false, .int .i64 0, .int .i64 0, .int .i64 0, .int .i64 0, .int .u32 0, .int .u32 0, .int .i64 0, .bool false] := by rw [hw1]; have := Blk.new (w.alloc (.cells #[.int .i64 d0, .int .i64 d1, .int .i64 d2, .int .i64 d3, .int .u32 d4, .int .u32 d5] 103)) 107 #[.int .i64 0, .int .u16 0, .int .u16 0, .int .i64 0, .int .i64 0, .int .i64 0, .bool false, .int .i64 0, .int .i64 0, .int .i64 0, .int .i64 0, .int .u32 0, .int .u32 0, .int .i64 0, .bool false]; rwa [World.size_alloc] at this
  have HB1 := Lib.hid (show Below w.heap.size w w1 by rw [hw1]; exact bthen (ball _ _) (ball _ _))
  have HR1 := Lib.hid (HR.out.below HB1.out)
  rw [← hw1]
  clear hw1
  obtain ⟨gr, hgr⟩ : ∃ gr, gr = w.heap.size + 1 := ⟨_, rfl⟩
  have hgl : w.heap.size ≤ gr := by omega
  have hgn : ¬ w.heap.size = gr := by omega
  have hgn2 : ¬ gr = w.heap.size := by omega
  rw [← hgr] at hbr
  rw [← hgr]
  have HBr := Lib.hid hbr
  have hgw := hbr.lt
  clear hgr hbr
  by_cases h20 : n < 20
  · have i20 : (n : Int) < 20 := by omega
    have he := Lib.hid (show tcE d4 d5 zs = 2 by unfold tcE; rw [if_pos (by rw [Hn.out]; exact h20)])
    have hh := Lib.hid (show (tcP d4 d5 zs).val = .agg #[.int .i64 0, .int .u16 0, .int .u16 0, .int .i64 0, .int .i64 0, .int .i64 0, .bool false, .int .i64 0, .int .i64 0, .int .i64 0, .int .i64 0, .int .u32 0, .int .u32 0, .int .i64 0, .bool false] by unfold tcP; rw [if_neg (by rw [he.out]; decide)]; rfl)
    go_wp2_with (first | ((with_reducible refine gd_st 107 4 ?_); refine wpList_st rfl 107 (.tmp 4) _ rfl _ _ rfl _ rfl (HBr.out) sPart.2 (#[.int .i64 0, .int .u16 0, .int .u16 0, .int .i64 0, .int .i64 0, .int .i64 0, .bool false, .int .i64 0, .int .i64 0, .int .i64 0, .int .i64 0, .int .u32 0, .int .u32 0, .int .i64 0, .bool false]) rfl (Nat.le_of_ble_eq_true rfl) rfl ?_; intro w9 hb9 hg9 hs9))
    rw [he.out, hh.out]
    exact bodyPost_ret (res_cell2 Try.results67 _ _ _ rfl rfl hb9 sPart) rfl ⟨rfl, bgrown (HB1.out) hg9 hgl⟩
  · have i20 : ¬ (n : Int) < 20 := by omega
    obtain ⟨b, off, rfl, hc⟩ := HR1.out.2 (by rw [Hn.out]; omega)
    have c12 := hc 12 (by rw [Hn.out]; omega)
    have c13 := hc 13 (by rw [Hn.out]; omega)
    have i12 : (12 : Int) < (n : Int) := by omega
    have i13 : (13 : Int) < (n : Int) := by omega
    obtain ⟨x12, hx12⟩ : ∃ x, x = zs.getD 12 0 := ⟨_, rfl⟩
    obtain ⟨x13, hx13⟩ : ∃ x, x = zs.getD 13 0 := ⟨_, rfl⟩
    rw [← hx12] at c12 z12b
    rw [← hx13] at c13 z13b
    have HX := Lib.hid (And.intro hx12 hx13)
    clear hc hx12 hx13
    have hE := Lib.hid (show tcE d4 d5 zs = if x12 / 16 * 4 < 20 ∨ (n : Int) < x12 / 16 * 4 then 3 else if Ps d4 d5 6 zs ≠ 0 then 4 else 0 by unfold tcE; rw [if_neg (by rw [Hn.out]; exact h20), Hn.out, ← HX.out.1])
    by_cases hsm : x12 / 16 * 4 < 20
    · have dsm : decide (x12 / 16 * 4 < 20) = true := by simp; omega
      have he := Lib.hid (show tcE d4 d5 zs = 3 by rw [hE.out, if_pos (.inl hsm)])
      have hh := Lib.hid (show (tcP d4 d5 zs).val = .agg #[.int .i64 0, .int .u16 0, .int .u16 0, .int .i64 0, .int .i64 0, .int .i64 0, .bool false, .int .i64 0, .int .i64 0, .int .i64 0, .int .i64 0, .int .u32 0, .int .u32 0, .int .i64 0, .bool false] by unfold tcP; rw [if_neg (by rw [he.out]; decide)]; rfl)
      go_wp2_with (first | ((with_reducible refine gd_st 107 4 ?_); refine wpList_st rfl 107 (.tmp 4) _ rfl _ _ rfl _ rfl (HBr.out) sPart.2 (#[.int .i64 0, .int .u16 0, .int .u16 0, .int .i64 0, .int .i64 0, .int .i64 0, .bool false, .int .i64 0, .int .i64 0, .int .i64 0, .int .i64 0, .int .u32 0, .int .u32 0, .int .i64 0, .bool false]) rfl (Nat.le_of_ble_eq_true rfl) rfl ?_; intro w9 hb9 hg9 hs9))
      rw [he.out, hh.out]
      exact bodyPost_ret (res_cell2 Try.results67 _ _ _ rfl rfl hb9 sPart) rfl ⟨rfl, bgrown (HB1.out) hg9 hgl⟩
    · have dsm : decide (x12 / 16 * 4 < 20) = false := by simp; omega
      by_cases hbg : (n : Int) < x12 / 16 * 4
      · have dbg : decide ((n : Int) < x12 / 16 * 4) = true := by simp; omega
        have he := Lib.hid (show tcE d4 d5 zs = 3 by rw [hE.out, if_pos (.inr hbg)])
        have hh := Lib.hid (show (tcP d4 d5 zs).val = .agg #[.int .i64 0, .int .u16 0, .int .u16 0, .int .i64 0, .int .i64 0, .int .i64 0, .bool false, .int .i64 0, .int .i64 0, .int .i64 0, .int .i64 0, .int .u32 0, .int .u32 0, .int .i64 0, .bool false] by unfold tcP; rw [if_neg (by rw [he.out]; decide)]; rfl)
        go_wp2_with (first | ((with_reducible refine gd_st 107 4 ?_); refine wpList_st rfl 107 (.tmp 4) _ rfl _ _ rfl _ rfl (HBr.out) sPart.2 (#[.int .i64 0, .int .u16 0, .int .u16 0, .int .i64 0, .int .i64 0, .int .i64 0, .bool false, .int .i64 0, .int .i64 0, .int .i64 0, .int .i64 0, .int .u32 0, .int .u32 0, .int .i64 0, .bool false]) rfl (Nat.le_of_ble_eq_true rfl) rfl ?_; intro w9 hb9 hg9 hs9))
        rw [he.out, hh.out]
        exact bodyPost_ret (res_cell2 Try.results67 _ _ _ rfl rfl hb9 sPart) rfl ⟨rfl, bgrown (HB1.out) hg9 hgl⟩
      · have dbg : decide ((n : Int) < x12 / 16 * 4) = false := by simp; omega
        have hE2 := Lib.hid (show tcE d4 d5 zs = if Ps d4 d5 6 zs ≠ 0 then 4 else 0 by rw [hE.out, if_neg (by omega)])
        have h4c : w1.cell? ⟨w.heap.size, 4, none⟩ = some (.int .u32 d4) := HBh.out.cell 4
        have h5c : w1.cell? ⟨w.heap.size, 5, none⟩ = some (.int .u32 d5) := HBh.out.cell 5
        go_wp2_with fail
        refine (sumFor_any d4 d5 6 _ n c zs _ Hn.out hl HR1.out s0 s1 t0 t1 (by decide) (by decide)).mono ?_
        rintro e w' ⟨rfl, q, rfl⟩
        by_cases hp : Ps d4 d5 6 zs = 0
        · have ep : (Ps d4 d5 6 zs != 0) = false := by simp [hp]
          have he := Lib.hid (show tcE d4 d5 zs = 0 by rw [hE2.out, if_neg (by simp [hp])])
          clear hp
          go_wp2_with fail
          refine (withPorts_any 6 0 0 x13 0 0 false 0 0 0 0 0 0 0 false _ n c zs _ Hn.out (by omega) hl (HR1.out.drewN q)).mono ?_
          rintro e w2 ⟨rfl, hb2⟩
          have HB2 := Lib.hid (bthen (below_drewN HB1.out q) hb2)
          have HBr2 := Lib.hid ((HBr.out.drewN q).below hb2)
          clear hb2
          have hh := Lib.hid (show (tcP d4 d5 zs).val = .agg #[.int .i64 6, .int .u16 (G16 zs 0), .int .u16 (G16 zs 2), .int .i64 x13, .int .i64 0, .int .i64 0, .bool false, .int .i64 0, .int .i64 0, .int .i64 0, .int .i64 0, .int .u32 0, .int .u32 0, .int .i64 0, .bool false] by unfold tcP; rw [if_pos he.out]; rw [← HX.out.2]; rfl)
          go_wp2_with (first | ((with_reducible refine gd_st 107 4 ?_); refine wpList_st rfl 107 (.tmp 4) _ rfl _ _ rfl _ rfl (HBr2.out) sPart.2 (#[.int .i64 6, .int .u16 (G16 zs 0), .int .u16 (G16 zs 2), .int .i64 x13, .int .i64 0, .int .i64 0, .bool false, .int .i64 0, .int .i64 0, .int .i64 0, .int .i64 0, .int .u32 0, .int .u32 0, .int .i64 0, .bool false]) rfl (Nat.le_of_ble_eq_true rfl) rfl ?_; intro w9 hb9 hg9 hs9))
          rw [he.out, hh.out]
          exact bodyPost_ret (res_cell2 Try.results67 _ _ _ rfl rfl hb9 sPart) rfl ⟨rfl, bgrown (HB2.out) hg9 hgl⟩
        · have ep : (Ps d4 d5 6 zs != 0) = true := by simp [hp]
          have he := Lib.hid (show tcE d4 d5 zs = 4 by rw [hE2.out, if_pos hp])
          clear hp
          have hh := Lib.hid (show (tcP d4 d5 zs).val = .agg #[.int .i64 0, .int .u16 0, .int .u16 0, .int .i64 0, .int .i64 0, .int .i64 0, .bool false, .int .i64 0, .int .i64 0, .int .i64 0, .int .i64 0, .int .u32 0, .int .u32 0, .int .i64 0, .bool false] by unfold tcP; rw [if_neg (by rw [he.out]; decide)]; rfl)
          go_wp2_with (first | ((with_reducible refine gd_st 107 4 ?_); refine wpList_st rfl 107 (.tmp 4) _ rfl _ _ rfl _ rfl (HBr.out.drewN q) sPart.2 (#[.int .i64 0, .int .u16 0, .int .u16 0, .int .i64 0, .int .i64 0, .int .i64 0, .bool false, .int .i64 0, .int .i64 0, .int .i64 0, .int .i64 0, .int .u32 0, .int .u32 0, .int .i64 0, .bool false]) rfl (Nat.le_of_ble_eq_true rfl) rfl ?_; intro w9 hb9 hg9 hs9))
          rw [he.out, hh.out]
          exact bodyPost_ret (res_cell2 Try.results67 _ _ _ rfl rfl hb9 sPart) rfl ⟨rfl, bgrown (below_drewN HB1.out q) hg9 hgl⟩
end Go.Proofs.Ytbnlpidhbilenaa
