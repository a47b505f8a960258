/-
  Contract of part.getUdp. Conditions stand in each theorem.
-/
import Derived.Test.YtbnlpidhbilenaaPart
namespace Go.Proofs.Ytbnlpidhbilenaa
open Go.RowKit Plain
set_option linter.unusedVariables false
set_option linter.unusedSimpArgs false
set_option maxRecDepth 100000

/-- what getUdp tells -/
def udE (src dst : Int) (zs : List Int) : Int := if zs.length < 8 then 2 else if G16 zs 4 ≠ (zs.length : Int) then 3 else if G16 zs 6 ≠ 0 ∧ Ps src dst 17 zs ≠ 0 then 4 else 0
def udP (src dst : Int) (zs : List Int) : Pt := if udE src dst zs = 0 then ⟨17, G16 zs 0, G16 zs 2, 0, 0, 0, false, hd0, 0, G16 zs 6 == 0⟩ else pt0
/-- what getTcp tells -/
def tcE (src dst : Int) (zs : List Int) : Int := if zs.length < 20 then 2 else if zs.getD 12 0 / 16 * 4 < 20 ∨ (zs.length : Int) < zs.getD 12 0 / 16 * 4 then 3 else if Ps src dst 6 zs ≠ 0 then 4 else 0
def tcP (src dst : Int) (zs : List Int) : Pt := if tcE src dst zs = 0 then ⟨6, G16 zs 0, G16 zs 2, zs.getD 13 0, 0, 0, false, hd0, 0, false⟩ else pt0
set_option maxHeartbeats 4000000 in
theorem getUdp_any (d0 d1 d2 d3 d4 d5 : Int) (A : Option Addr) (n c : Nat) (zs : List Int) (w : World) (hn : zs.length = n) (hl : n ≤ 1000000) (hR : Rd w A zs) (s0 : 0 ≤ d4) (s1 : d4 ≤ 4294967295) (t0 : 0 ≤ d5) (t1 : d5 ≤ 4294967295) :
    Calls Try.prog 66 #[.agg #[.int .i64 d0, .int .i64 d1, .int .i64 d2, .int .i64 d3, .int .u32 d4, .int .u32 d5], .slice A n c] w fun e w' => e = .returned (.tuple #[(udP d4 d5 zs).val, .int .i64 (udE d4 d5 zs)]) ∧ Below w.heap.size w w' := by
  have HR := Lib.hid hR
  have Hn := Lib.hid hn
  have r4 := G16_range zs hR.1 4
  have r6 := G16_range zs hR.1 6
  have rp := Ps_range d4 d5 17 zs hR.1 s0 t0 (by decide)
  clear hR hn
  go_enter Try.func66, Try.ntmps66
  go_upto_region 1 with fail
  obtain ⟨w1, hw1⟩ : ∃ w1, w1 = (w.alloc (.cells #[.int .i64 d0, .int .i64 d1, .int .i64 d2, .int .i64 d3, .int .u32 d4, .int .u32 d5] 103)).alloc (.cells #[.int .i64 0, .int .u16 0, .int .u16 0, .int .i64 0, .int .i64 0, .int .i64 0, .bool false, .int .i64 0, .int .i64 0, .int .i64 0, .int .i64 0, .int .u32 0, .int .u32 0, .int .i64 0, .bool false] 107) := ⟨_, rfl⟩
  have HBh := Lib.hid (show Blk w1 w.heap.size 103 #[.int .i64 d0, .int .i64 d1, .int .i64 d2, .int .i64 d3, .int .u32 d4, .int .u32 d5] by rw [hw1]; exact (Blk.new w _ _).alloc _)
  have hbr : Blk w1 (w.heap.size + 1) 107 #[.int .i64 0, .int .u16 0, .int .u16 0, .int .i64 0, .int .i64 0, .int .i64 0, .bool false, .int .i64 0, .int .i64 0, .int .i64 0, .int .i64 0, .int .u32 0, .int .u32 0, .int .i64 0, .bool false] := by rw [hw1]; have := Blk.new (w.alloc (.cells #[.int .i64 d0, .int .i64 d1, .int .i64 d2, .int .i64 d3, .int .u32 d4, .int .u32 d5] 103)) 107 #[.int .i64 0, .int .u16 0, .int .u16 0, .int .i64 0, .int .i64 0, .int .i64 0, .bool false, .int .i64 0, .int .i64 0, .int .i64 0, .int .i64 0, .int .u32 0, .int .u32 0, .int .i64 0, .bool false]; rwa [World.size_alloc] at this
  have HB1 := Lib.hid (show Below w.heap.size w w1 by rw [hw1]; exact bthen (ball _ _) (ball _ _))
  have HR1 := Lib.hid (HR.out.below HB1.out)
  rw [← hw1]
  clear hw1
  obtain ⟨gr, hgr⟩ : ∃ gr, gr = w.heap.size + 1 := ⟨_, rfl⟩
  have hgl : w.heap.size ≤ gr := by omega
  have hgn : ¬ w.heap.size = gr := by omega
  have hgn2 : ¬ gr = w.heap.size := by omega
  rw [← hgr] at hbr
  rw [← hgr]
  have HBr := Lib.hid hbr
  have hgw := hbr.lt
  clear hgr hbr
  by_cases h8 : n < 8
  · have i8 : (n : Int) < 8 := by omega
    have he := Lib.hid (show udE d4 d5 zs = 2 by unfold udE; rw [if_pos (by rw [Hn.out]; exact h8)])
    have hh := Lib.hid (show (udP d4 d5 zs).val = .agg #[.int .i64 0, .int .u16 0, .int .u16 0, .int .i64 0, .int .i64 0, .int .i64 0, .bool false, .int .i64 0, .int .i64 0, .int .i64 0, .int .i64 0, .int .u32 0, .int .u32 0, .int .i64 0, .bool false] by unfold udP; rw [if_neg (by rw [he.out]; decide)]; rfl)
    go_wp2_with (first | ((with_reducible refine gd_st 107 4 ?_); refine wpList_st rfl 107 (.tmp 4) _ rfl _ _ rfl _ rfl (HBr.out) sPart.2 (#[.int .i64 0, .int .u16 0, .int .u16 0, .int .i64 0, .int .i64 0, .int .i64 0, .bool false, .int .i64 0, .int .i64 0, .int .i64 0, .int .i64 0, .int .u32 0, .int .u32 0, .int .i64 0, .bool false]) rfl (Nat.le_of_ble_eq_true rfl) rfl ?_; intro w9 hb9 hg9 hs9))
    rw [he.out, hh.out]
    exact bodyPost_ret (res_cell2 Try.results66 _ _ _ rfl rfl hb9 sPart) rfl ⟨rfl, bgrown (HB1.out) hg9 hgl⟩
  · have i8 : ¬ (n : Int) < 8 := by omega
    go_wp2_with fail
    refine (get16_any A n c zs 4 4 _ Hn.out rfl (by omega) hl HR1.out).mono ?_
    rintro e w' ⟨rfl, q, rfl⟩
    by_cases h4 : G16 zs 4 = (n : Int)
    · have e4 : (G16 zs 4 != (n : Int)) = false := by simp [h4]
      have H4 := Lib.hid h4
      clear h4
      go_wp2_with fail
      refine (withPorts_any 17 0 0 0 0 0 false 0 0 0 0 0 0 0 false A n c zs _ Hn.out (by omega) hl (HR1.out.drewN q)).mono ?_
      rintro e w2 ⟨rfl, hb2⟩
      have HB2 := Lib.hid (bthen (bthen HB1.out (bdrewN _ q)) hb2)
      have HBr2 := Lib.hid ((HBr.out.drewN q).below hb2)
      have HBh2 := Lib.hid ((HBh.out.drewN q).below hb2)
      have hs2 : gr < w2.heap.size := HBr2.out.lt
      clear hb2
      go_wp2_with fail
      refine (get16_any A n c zs 6 6 _ Hn.out rfl (by omega) hl (HR.out.below (bthen HB2.out (ball _ _)))).mono ?_
      rintro e w' ⟨rfl, q2, rfl⟩
      have HBp := Lib.hid ((Blk.new w2 107 #[.int .i64 17, .int .u16 (G16 zs 0), .int .u16 (G16 zs 2), .int .i64 0, .int .i64 0, .int .i64 0, .bool false, .int .i64 0, .int .i64 0, .int .i64 0, .int .i64 0, .int .u32 0, .int .u32 0, .int .i64 0, .bool false]).drewN q2)
      have HBr3 := Lib.hid ((HBr2.out.alloc (.cells #[.int .i64 17, .int .u16 (G16 zs 0), .int .u16 (G16 zs 2), .int .i64 0, .int .i64 0, .int .i64 0, .bool false, .int .i64 0, .int .i64 0, .int .i64 0, .int .i64 0, .int .u32 0, .int .u32 0, .int .i64 0, .bool false] 107)).drewN q2)
      have HBh3 := Lib.hid ((HBh2.out.alloc (.cells #[.int .i64 17, .int .u16 (G16 zs 0), .int .u16 (G16 zs 2), .int .i64 0, .int .i64 0, .int .i64 0, .bool false, .int .i64 0, .int .i64 0, .int .i64 0, .int .i64 0, .int .u32 0, .int .u32 0, .int .i64 0, .bool false] 107)).drewN q2)
      have HB3 := Lib.hid (below_drewN (bthen HB2.out (ball w2 (.cells #[.int .i64 17, .int .u16 (G16 zs 0), .int .u16 (G16 zs 2), .int .i64 0, .int .i64 0, .int .i64 0, .bool false, .int .i64 0, .int .i64 0, .int .i64 0, .int .i64 0, .int .u32 0, .int .u32 0, .int .i64 0, .bool false] 107))) q2)
      have hpl : w.heap.size ≤ w2.heap.size := HB2.out.size
      have np1 : gr ≠ w2.heap.size := by omega
      have np3 : w.heap.size ≠ w2.heap.size := by omega
      generalize (w2.alloc (.cells #[.int .i64 17, .int .u16 (G16 zs 0), .int .u16 (G16 zs 2), .int .i64 0, .int .i64 0, .int .i64 0, .bool false, .int .i64 0, .int .i64 0, .int .i64 0, .int .i64 0, .int .u32 0, .int .u32 0, .int .i64 0, .bool false] 107)).drewN q2 = w3 at *
      generalize w2.heap.size = p at *
      by_cases hz : G16 zs 6 = 0
      · have eb : (G16 zs 6 == 0) = true := by simp [hz]
        have Hz := Lib.hid hz
        clear hz
        have he := Lib.hid (show udE d4 d5 zs = 0 by unfold udE; rw [if_neg (by rw [Hn.out]; exact h8), if_neg (by rw [Hn.out, H4.out]; simp), if_neg (fun h => h.1 Hz.out)])
        have hh := Lib.hid (show (udP d4 d5 zs).val = .agg #[.int .i64 17, .int .u16 (G16 zs 0), .int .u16 (G16 zs 2), .int .i64 0, .int .i64 0, .int .i64 0, .bool false, .int .i64 0, .int .i64 0, .int .i64 0, .int .i64 0, .int .u32 0, .int .u32 0, .int .i64 0, .bool true] by unfold udP; rw [if_pos he.out]; rw [eb]; rfl)
        go_wp2_with (first | ((with_reducible refine gd_st 4 24 ?_); refine wpList_st rfl 4 (.tmp 24) _ rfl _ _ rfl _ rfl (HBp.out) sBool (#[.int .i64 17, .int .u16 (G16 zs 0), .int .u16 (G16 zs 2), .int .i64 0, .int .i64 0, .int .i64 0, .bool false, .int .i64 0, .int .i64 0, .int .i64 0, .int .i64 0, .int .u32 0, .int .u32 0, .int .i64 0, .bool true]) rfl (Nat.le_of_ble_eq_true rfl) rfl ?_; intro w4 hbp hg4 hs4); have c14 : w4.cell? ⟨p, 14, none⟩ = some (.bool true) := hbp.cell 14 | ((with_reducible refine gd_ld 107 6 ?_); refine wpList_ld rfl 107 (.tmp 6) rfl _ rfl (hbp) sPart ?_) | ((with_reducible refine gd_st 107 4 ?_); refine wpList_st rfl 107 (.tmp 4) _ rfl _ _ rfl _ rfl (HBr3.out.grown hg4 np1) sPart.2 (#[.int .i64 17, .int .u16 (G16 zs 0), .int .u16 (G16 zs 2), .int .i64 0, .int .i64 0, .int .i64 0, .bool false, .int .i64 0, .int .i64 0, .int .i64 0, .int .i64 0, .int .u32 0, .int .u32 0, .int .i64 0, .bool true]) rfl (Nat.le_of_ble_eq_true rfl) rfl ?_; intro w9 hb9 hg9 hs9))
        rw [he.out, hh.out]
        exact bodyPost_ret (res_cell2 Try.results66 _ _ _ rfl rfl hb9 sPart) rfl ⟨rfl, bgrown (bgrown HB3.out hg4 hpl) hg9 hgl⟩
      · have eb : (G16 zs 6 == 0) = false := by simp [hz]
        have Hz := Lib.hid hz
        clear hz
        go_wp2_with (((with_reducible refine gd_st 4 24 ?_); refine wpList_st rfl 4 (.tmp 24) _ rfl _ _ rfl _ rfl (HBp.out) sBool (#[.int .i64 17, .int .u16 (G16 zs 0), .int .u16 (G16 zs 2), .int .i64 0, .int .i64 0, .int .i64 0, .bool false, .int .i64 0, .int .i64 0, .int .i64 0, .int .i64 0, .int .u32 0, .int .u32 0, .int .i64 0, .bool false]) rfl (Nat.le_of_ble_eq_true rfl) rfl ?_; intro w4 hbp hg4 hs4); have c14 : w4.cell? ⟨p, 14, none⟩ = some (.bool false) := hbp.cell 14; have h4c : w4.cell? ⟨w.heap.size, 4, none⟩ = some (.int .u32 d4) := (HBh3.out.grown hg4 np3).cell 4; have h5c : w4.cell? ⟨w.heap.size, 5, none⟩ = some (.int .u32 d5) := (HBh3.out.grown hg4 np3).cell 5)
        have HB4 := Lib.hid (bgrown HB3.out hg4 hpl)
        refine (sumFor_any d4 d5 17 A n c zs _ Hn.out hl (HR.out.below HB4.out) s0 s1 t0 t1 (by decide) (by decide)).mono ?_
        rintro e w' ⟨rfl, q3, rfl⟩
        by_cases hp : Ps d4 d5 17 zs = 0
        · have ep : (Ps d4 d5 17 zs != 0) = false := by simp [hp]
          have Hp := Lib.hid hp
          clear hp
          have he := Lib.hid (show udE d4 d5 zs = 0 by unfold udE; rw [if_neg (by rw [Hn.out]; exact h8), if_neg (by rw [Hn.out, H4.out]; simp), if_neg (fun h => h.2 Hp.out)])
          have hh := Lib.hid (show (udP d4 d5 zs).val = .agg #[.int .i64 17, .int .u16 (G16 zs 0), .int .u16 (G16 zs 2), .int .i64 0, .int .i64 0, .int .i64 0, .bool false, .int .i64 0, .int .i64 0, .int .i64 0, .int .i64 0, .int .u32 0, .int .u32 0, .int .i64 0, .bool false] by unfold udP; rw [if_pos he.out]; rw [eb]; rfl)
          go_wp2_with (first | ((with_reducible refine gd_ld 107 6 ?_); refine wpList_ld rfl 107 (.tmp 6) rfl _ rfl (hbp.drewN q3) sPart ?_) | ((with_reducible refine gd_st 107 4 ?_); refine wpList_st rfl 107 (.tmp 4) _ rfl _ _ rfl _ rfl ((HBr3.out.grown hg4 np1).drewN q3) sPart.2 (#[.int .i64 17, .int .u16 (G16 zs 0), .int .u16 (G16 zs 2), .int .i64 0, .int .i64 0, .int .i64 0, .bool false, .int .i64 0, .int .i64 0, .int .i64 0, .int .i64 0, .int .u32 0, .int .u32 0, .int .i64 0, .bool false]) rfl (Nat.le_of_ble_eq_true rfl) rfl ?_; intro w9 hb9 hg9 hs9))
          rw [he.out, hh.out]
          exact bodyPost_ret (res_cell2 Try.results66 _ _ _ rfl rfl hb9 sPart) rfl ⟨rfl, bgrown (below_drewN HB4.out q3) hg9 hgl⟩
        · have ep : (Ps d4 d5 17 zs != 0) = true := by simp [hp]
          have Hp := Lib.hid hp
          clear hp
          have he := Lib.hid (show udE d4 d5 zs = 4 by unfold udE; rw [if_neg (by rw [Hn.out]; exact h8), if_neg (by rw [Hn.out, H4.out]; simp), if_pos ⟨Hz.out, Hp.out⟩])
          have hh := Lib.hid (show (udP d4 d5 zs).val = .agg #[.int .i64 0, .int .u16 0, .int .u16 0, .int .i64 0, .int .i64 0, .int .i64 0, .bool false, .int .i64 0, .int .i64 0, .int .i64 0, .int .i64 0, .int .u32 0, .int .u32 0, .int .i64 0, .bool false] by unfold udP; rw [if_neg (by rw [he.out]; decide)]; rfl)
          go_wp2_with (first | ((with_reducible refine gd_st 107 4 ?_); refine wpList_st rfl 107 (.tmp 4) _ rfl _ _ rfl _ rfl ((HBr3.out.grown hg4 np1).drewN q3) sPart.2 (#[.int .i64 0, .int .u16 0, .int .u16 0, .int .i64 0, .int .i64 0, .int .i64 0, .bool false, .int .i64 0, .int .i64 0, .int .i64 0, .int .i64 0, .int .u32 0, .int .u32 0, .int .i64 0, .bool false]) rfl (Nat.le_of_ble_eq_true rfl) rfl ?_; intro w9 hb9 hg9 hs9))
          rw [he.out, hh.out]
          exact bodyPost_ret (res_cell2 Try.results66 _ _ _ rfl rfl hb9 sPart) rfl ⟨rfl, bgrown (below_drewN HB4.out q3) hg9 hgl⟩
    · have e4 : (G16 zs 4 != (n : Int)) = true := by simp [h4]
      have H4 := Lib.hid h4
      clear h4
      have he := Lib.hid (show udE d4 d5 zs = 3 by unfold udE; rw [if_neg (by rw [Hn.out]; exact h8), if_pos (by rw [Hn.out]; exact H4.out)])
      have hh := Lib.hid (show (udP d4 d5 zs).val = .agg #[.int .i64 0, .int .u16 0, .int .u16 0, .int .i64 0, .int .i64 0, .int .i64 0, .bool false, .int .i64 0, .int .i64 0, .int .i64 0, .int .i64 0, .int .u32 0, .int .u32 0, .int .i64 0, .bool false] by unfold udP; rw [if_neg (by rw [he.out]; decide)]; rfl)
      go_wp2_with (first | ((with_reducible refine gd_st 107 4 ?_); refine wpList_st rfl 107 (.tmp 4) _ rfl _ _ rfl _ rfl (HBr.out.drewN q) sPart.2 (#[.int .i64 0, .int .u16 0, .int .u16 0, .int .i64 0, .int .i64 0, .int .i64 0, .bool false, .int .i64 0, .int .i64 0, .int .i64 0, .int .i64 0, .int .u32 0, .int .u32 0, .int .i64 0, .bool false]) rfl (Nat.le_of_ble_eq_true rfl) rfl ?_; intro w9 hb9 hg9 hs9))
      rw [he.out, hh.out]
      exact bodyPost_ret (res_cell2 Try.results66 _ _ _ rfl rfl hb9 sPart) rfl ⟨rfl, bgrown (below_drewN HB1.out q) hg9 hgl⟩
end Go.Proofs.Ytbnlpidhbilenaa
