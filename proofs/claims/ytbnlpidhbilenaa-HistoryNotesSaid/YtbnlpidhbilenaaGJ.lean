/-
  Several small texts in one: Udp, Tcp, Err. Conditions stand in each theorem.
-/
import Derived.Test.YtbnlpidhbilenaaGI
namespace Go.Proofs.Ytbnlpidhbilenaa
open Go.RowKit Plain
set_option linter.unusedVariables false
set_option linter.unusedSimpArgs false
set_option maxRecDepth 100000

/-- what getUdp tells -/
def udE (src dst : Int) (zs : List Int) : Int := if zs.length < 8 then 2 else if G16 zs 4 ≠ (zs.length : Int) then 3 else if G16 zs 6 ≠ 0 ∧ Ps src dst 17 zs ≠ 0 then 4 else 0
def udP (src dst : Int) (zs : List Int) : Pt := if udE src dst zs = 0 then ⟨17, G16 zs 0, G16 zs 2, 0, 0, 0, false, hd0, 0, G16 zs 6 == 0⟩ else pt0
/-- what getTcp tells -/
def tcE (src dst : Int) (zs : List Int) : Int := if zs.length < 20 then 2 else if zs.getD 12 0 / 16 * 4 < 20 ∨ (zs.length : Int) < zs.getD 12 0 / 16 * 4 then 3 else if Ps src dst 6 zs ≠ 0 then 4 else 0
def tcP (src dst : Int) (zs : List Int) : Pt := if tcE src dst zs = 0 then ⟨6, G16 zs 0, G16 zs 2, zs.getD 13 0, 0, 0, false, hd0, 0, false⟩ else pt0
set_option maxHeartbeats 4000000 in
theorem getUdp_any (d0 d1 d2 d3 d4 d5 : Int) (A : Option Addr) (n c : Nat) (zs : List Int) (w : World) (hn : zs.length = n) (hl : n ≤ 1000000) (hR : Rd w A zs) (s0 : 0 ≤ d4) (s1 : d4 ≤ 4294967295) (t0 : 0 ≤ d5) (t1 : d5 ≤ 4294967295) :
    Calls Try.prog 66 #[.agg #[.int .i64 d0, .int .i64 d1, .int .i64 d2, .int .i64 d3, .int .u32 d4, .int .u32 d5], .slice A n c] w fun e w' => e = .returned (.tuple #[(udP d4 d5 zs).val, .int .i64 (udE d4 d5 zs)]) ∧ Below w.heap.size w w' := by
  have HR := Lib.hid hR
  have Hn := Lib.hid hn
  have r4 := G16_range zs hR.1 4
  have r6 := G16_range zs hR.1 6
  have rp := Ps_range d4 d5 17 zs hR.1 s0 t0 (by decide)
  clear hR hn
  go_enter Try.func66, Try.ntmps66
  go_upto_region 1 with fail
  obtain ⟨w1, hw1⟩ : ∃ w1, w1 = (w.alloc (.cells #[.int .i64 d0, .int .i64 d1, .int .i64 d2, .int .i64 d3, .int .u32 d4, .int .u32 d5] 103)).alloc (.cells #[.int .i64 0, .int .u16 0, .int .u16 0, .int .i64 0, .int .i64 0, .int .i64 0, .bool false, .int .i64 0, .int .i64 0, .int .i64 0, .int .i64 0, .int .u32 0, .int .u32 0, .int .i64 0, .bool false] 107) := ⟨_, rfl⟩
  have HBh := Lib.hid (show Blk w1 w.heap.size 103 #[.int .i64 d0, .int .i64 d1, .int .i64 d2, .int .i64 d3, .int .u32 d4, .int .u32 d5] by rw [hw1]; exact (Blk.new w _ _).alloc _)
  have hbr : Blk w1 (w.heap.size + 1) 107 #[.int .i64 0, .int .u16 0, .int .u16 0, .int .i64 0, .int .i64 0, .int .i64 0, .bool false, .int .i64 0, .int .i64 0, .int .i64 0, .int .i64 0, .int .u32 0, .int .u32 0, .int .i64 0, .bool false] := by rw [hw1]; have := Blk.new (w.alloc (.cells #[.int .i64 d0, .int .i64 d1, .int .i64 d2, .int .i64 d3, .int .u32 d4, .int .u32 d5] 103)) 107 #[.int .i64 0, .int .u16 0, .int .u16 0, .int .i64 0, .int .i64 0, .int .i64 0, .bool false, .int .i64 0, .int .i64 0, .int .i64 0, .int .i64 0, .int .u32 0, .int .u32 0, .int .i64 0, .bool false]; rwa [World.size_alloc] at this
  have HB1 := Lib.hid (show Below w.heap.size w w1 by rw [hw1]; exact bthen (ball _ _) (ball _ _))
  have HR1 := Lib.hid (HR.out.below HB1.out)
  rw [← hw1]
  clear hw1
  obtain ⟨gr, hgr⟩ : ∃ gr, gr = w.heap.size + 1 := ⟨_, rfl⟩
  have hgl : w.heap.size ≤ gr := by omega
  have hgn : ¬ w.heap.size = gr := by omega
  have hgn2 : ¬ gr = w.heap.size := by omega
  rw [← hgr] at hbr
  rw [← hgr]
  have HBr := Lib.hid hbr
  have hgw := hbr.lt
  clear hgr hbr
  by_cases h8 : n < 8
  · have i8 : (n : Int) < 8 := by omega
    have he := Lib.hid (show udE d4 d5 zs = 2 by unfold udE; rw [if_pos (by rw [Hn.out]; exact h8)])
    have hh := Lib.hid (show (udP d4 d5 zs).val = .agg #[.int .i64 0, .int .u16 0, .int .u16 0, .int .i64 0, .int .i64 0, .int .i64 0, .bool false, .int .i64 0, .int .i64 0, .int .i64 0, .int .i64 0, .int .u32 0, .int .u32 0, .int .i64 0, .bool false] by unfold udP; rw [if_neg (by rw [he.out]; decide)]; rfl)
    go_wp2_with (first | ((with_reducible refine gd_st 107 4 ?_); refine wpList_st rfl 107 (.tmp 4) _ rfl _ _ rfl _ rfl (HBr.out) sPart.2 (#[.int .i64 0, .int .u16 0, .int .u16 0, .int .i64 0, .int .i64 0, .int .i64 0, .bool false, .int .i64 0, .int .i64 0, .int .i64 0, .int .i64 0, .int .u32 0, .int .u32 0, .int .i64 0, .bool false]) rfl (Nat.le_of_ble_eq_true rfl) rfl ?_; intro w9 hb9 hg9 hs9))
    rw [he.out, hh.out]
    exact bodyPost_ret (res_cell2 Try.results66 _ _ _ rfl rfl hb9 sPart) rfl ⟨rfl, bgrown (HB1.out) hg9 hgl⟩
  · have i8 : ¬ (n : Int) < 8 := by omega
    go_wp2_with fail
    refine (get16_any A n c zs 4 4 _ Hn.out rfl (by omega) hl HR1.out).mono ?_
    rintro e w' ⟨rfl, q, rfl⟩
    by_cases h4 : G16 zs 4 = (n : Int)
    · have e4 : (G16 zs 4 != (n : Int)) = false := by simp [h4]
      have H4 := Lib.hid h4
      clear h4
      go_wp2_with fail
      refine (withPorts_any 17 0 0 0 0 0 false 0 0 0 0 0 0 0 false A n c zs _ Hn.out (by omega) hl (HR1.out.drewN q)).mono ?_
      rintro e w2 ⟨rfl, hb2⟩
      have HB2 := Lib.hid (bthen (bthen HB1.out (bdrewN _ q)) hb2)
      have HBr2 := Lib.hid ((HBr.out.drewN q).below hb2)
      have HBh2 := Lib.hid ((HBh.out.drewN q).below hb2)
      have hs2 : gr < w2.heap.size := HBr2.out.lt
      clear hb2
      go_wp2_with fail
      refine (get16_any A n c zs 6 6 _ Hn.out rfl (by omega) hl (HR.out.below (bthen HB2.out (ball _ _)))).mono ?_
      rintro e w' ⟨rfl, q2, rfl⟩
      have HBp := Lib.hid ((Blk.new w2 107 #[.int .i64 17, .int .u16 (G16 zs 0), .int .u16 (G16 zs 2), .int .i64 0, .int .i64 0, .int .i64 0, .bool false, .int .i64 0, .int .i64 0, .int .i64 0, .int .i64 0, .int .u32 0, .int .u32 0, .int .i64 0, .bool false]).drewN q2)
      have HBr3 := Lib.hid ((HBr2.out.alloc (.cells #[.int .i64 17, .int .u16 (G16 zs 0), .int .u16 (G16 zs 2), .int .i64 0, .int .i64 0, .int .i64 0, .bool false, .int .i64 0, .int .i64 0, .int .i64 0, .int .i64 0, .int .u32 0, .int .u32 0, .int .i64 0, .bool false] 107)).drewN q2)
      have HBh3 := Lib.hid ((HBh2.out.alloc (.cells #[.int .i64 17, .int .u16 (G16 zs 0), .int .u16 (G16 zs 2), .int .i64 0, .int .i64 0, .int .i64 0, .bool false, .int .i64 0, .int .i64 0, .int .i64 0, .int .i64 0, .int .u32 0, .int .u32 0, .int .i64 0, .bool false] 107)).drewN q2)
      have HB3 := Lib.hid (below_drewN (bthen HB2.out (ball w2 (.cells #[.int .i64 17, .int .u16 (G16 zs 0), .int .u16 (G16 zs 2), .int .i64 0, .int .i64 0, .int .i64 0, .bool false, .int .i64 0, .int .i64 0, .int .i64 0, .int .i64 0, .int .u32 0, .int .u32 0, .int .i64 0, .bool false] 107))) q2)
      have hpl : w.heap.size ≤ w2.heap.size := HB2.out.size
      have np1 : gr ≠ w2.heap.size := by omega
      have np3 : w.heap.size ≠ w2.heap.size := by omega
      generalize (w2.alloc (.cells #[.int .i64 17, .int .u16 (G16 zs 0), .int .u16 (G16 zs 2), .int .i64 0, .int .i64 0, .int .i64 0, .bool false, .int .i64 0, .int .i64 0, .int .i64 0, .int .i64 0, .int .u32 0, .int .u32 0, .int .i64 0, .bool false] 107)).drewN q2 = w3 at *
      generalize w2.heap.size = p at *
      by_cases hz : G16 zs 6 = 0
      · have eb : (G16 zs 6 == 0) = true := by simp [hz]
        have Hz := Lib.hid hz
        clear hz
        have he := Lib.hid (show udE d4 d5 zs = 0 by unfold udE; rw [if_neg (by rw [Hn.out]; exact h8), if_neg (by rw [Hn.out, H4.out]; simp), if_neg (fun h => h.1 Hz.out)])
        have hh := Lib.hid (show (udP d4 d5 zs).val = .agg #[.int .i64 17, .int .u16 (G16 zs 0), .int .u16 (G16 zs 2), .int .i64 0, .int .i64 0, .int .i64 0, .bool false, .int .i64 0, .int .i64 0, .int .i64 0, .int .i64 0, .int .u32 0, .int .u32 0, .int .i64 0, .bool true] by unfold udP; rw [if_pos he.out]; rw [eb]; rfl)
        go_wp2_with (first | ((with_reducible refine gd_st 4 24 ?_); refine wpList_st rfl 4 (.tmp 24) _ rfl _ _ rfl _ rfl (HBp.out) sBool (#[.int .i64 17, .int .u16 (G16 zs 0), .int .u16 (G16 zs 2), .int .i64 0, .int .i64 0, .int .i64 0, .bool false, .int .i64 0, .int .i64 0, .int .i64 0, .int .i64 0, .int .u32 0, .int .u32 0, .int .i64 0, .bool true]) rfl (Nat.le_of_ble_eq_true rfl) rfl ?_; intro w4 hbp hg4 hs4); have c14 : w4.cell? ⟨p, 14, none⟩ = some (.bool true) := hbp.cell 14 | ((with_reducible refine gd_ld 107 6 ?_); refine wpList_ld rfl 107 (.tmp 6) rfl _ rfl (hbp) sPart ?_) | ((with_reducible refine gd_st 107 4 ?_); refine wpList_st rfl 107 (.tmp 4) _ rfl _ _ rfl _ rfl (HBr3.out.grown hg4 np1) sPart.2 (#[.int .i64 17, .int .u16 (G16 zs 0), .int .u16 (G16 zs 2), .int .i64 0, .int .i64 0, .int .i64 0, .bool false, .int .i64 0, .int .i64 0, .int .i64 0, .int .i64 0, .int .u32 0, .int .u32 0, .int .i64 0, .bool true]) rfl (Nat.le_of_ble_eq_true rfl) rfl ?_; intro w9 hb9 hg9 hs9))
        rw [he.out, hh.out]
        exact bodyPost_ret (res_cell2 Try.results66 _ _ _ rfl rfl hb9 sPart) rfl ⟨rfl, bgrown (bgrown HB3.out hg4 hpl) hg9 hgl⟩
      · have eb : (G16 zs 6 == 0) = false := by simp [hz]
        have Hz := Lib.hid hz
        clear hz
        go_wp2_with (((with_reducible refine gd_st 4 24 ?_); refine wpList_st rfl 4 (.tmp 24) _ rfl _ _ rfl _ rfl (HBp.out) sBool (#[.int .i64 17, .int .u16 (G16 zs 0), .int .u16 (G16 zs 2), .int .i64 0, .int .i64 0, .int .i64 0, .bool false, .int .i64 0, .int .i64 0, .int .i64 0, .int .i64 0, .int .u32 0, .int .u32 0, .int .i64 0, .bool false]) rfl (Nat.le_of_ble_eq_true rfl) rfl ?_; intro w4 hbp hg4 hs4); have c14 : w4.cell? ⟨p, 14, none⟩ = some (.bool false) := hbp.cell 14; have h4c : w4.cell? ⟨w.heap.size, 4, none⟩ = some (.int .u32 d4) := (HBh3.out.grown hg4 np3).cell 4; have h5c : w4.cell? ⟨w.heap.size, 5, none⟩ = some (.int .u32 d5) := (HBh3.out.grown hg4 np3).cell 5)
        have HB4 := Lib.hid (bgrown HB3.out hg4 hpl)
        refine (sumFor_any d4 d5 17 A n c zs _ Hn.out hl (HR.out.below HB4.out) s0 s1 t0 t1 (by decide) (by decide)).mono ?_
        rintro e w' ⟨rfl, q3, rfl⟩
        by_cases hp : Ps d4 d5 17 zs = 0
        · have ep : (Ps d4 d5 17 zs != 0) = false := by simp [hp]
          have Hp := Lib.hid hp
          clear hp
          have he := Lib.hid (show udE d4 d5 zs = 0 by unfold udE; rw [if_neg (by rw [Hn.out]; exact h8), if_neg (by rw [Hn.out, H4.out]; simp), if_neg (fun h => h.2 Hp.out)])
          have hh := Lib.hid (show (udP d4 d5 zs).val = .agg #[.int .i64 17, .int .u16 (G16 zs 0), .int .u16 (G16 zs 2), .int .i64 0, .int .i64 0, .int .i64 0, .bool false, .int .i64 0, .int .i64 0, .int .i64 0, .int .i64 0, .int .u32 0, .int .u32 0, .int .i64 0, .bool false] by unfold udP; rw [if_pos he.out]; rw [eb]; rfl)
          go_wp2_with (first | ((with_reducible refine gd_ld 107 6 ?_); refine wpList_ld rfl 107 (.tmp 6) rfl _ rfl (hbp.drewN q3) sPart ?_) | ((with_reducible refine gd_st 107 4 ?_); refine wpList_st rfl 107 (.tmp 4) _ rfl _ _ rfl _ rfl ((HBr3.out.grown hg4 np1).drewN q3) sPart.2 (#[.int .i64 17, .int .u16 (G16 zs 0), .int .u16 (G16 zs 2), .int .i64 0, .int .i64 0, .int .i64 0, .bool false, .int .i64 0, .int .i64 0, .int .i64 0, .int .i64 0, .int .u32 0, .int .u32 0, .int .i64 0, .bool false]) rfl (Nat.le_of_ble_eq_true rfl) rfl ?_; intro w9 hb9 hg9 hs9))
          rw [he.out, hh.out]
          exact bodyPost_ret (res_cell2 Try.results66 _ _ _ rfl rfl hb9 sPart) rfl ⟨rfl, bgrown (below_drewN HB4.out q3) hg9 hgl⟩
        · have ep : (Ps d4 d5 17 zs != 0) = true := by simp [hp]
          have Hp := Lib.hid hp
          clear hp
          have he := Lib.hid (show udE d4 d5 zs = 4 by unfold udE; rw [if_neg (by rw [Hn.out]; exact h8), if_neg (by rw [Hn.out, H4.out]; simp), if_pos ⟨Hz.out, Hp.out⟩])
          have hh := Lib.hid (show (udP d4 d5 zs).val = .agg #[.int .i64 0, .int .u16 0, .int .u16 0, .int .i64 0, .int .i64 0, .int .i64 0, .bool false, .int .i64 0, .int .i64 0, .int .i64 0, .int .i64 0, .int .u32 0, .int .u32 0, .int .i64 0, .bool false] by unfold udP; rw [if_neg (by rw [he.out]; decide)]; rfl)
          go_wp2_with (first | ((with_reducible refine gd_st 107 4 ?_); refine wpList_st rfl 107 (.tmp 4) _ rfl _ _ rfl _ rfl ((HBr3.out.grown hg4 np1).drewN q3) sPart.2 (#[.int .i64 0, .int .u16 0, .int .u16 0, .int .i64 0, .int .i64 0, .int .i64 0, .bool false, .int .i64 0, .int .i64 0, .int .i64 0, .int .i64 0, .int .u32 0, .int .u32 0, .int .i64 0, .bool false]) rfl (Nat.le_of_ble_eq_true rfl) rfl ?_; intro w9 hb9 hg9 hs9))
          rw [he.out, hh.out]
          exact bodyPost_ret (res_cell2 Try.results66 _ _ _ rfl rfl hb9 sPart) rfl ⟨rfl, bgrown (below_drewN HB4.out q3) hg9 hgl⟩
    · have e4 : (G16 zs 4 != (n : Int)) = true := by simp [h4]
      have H4 := Lib.hid h4
      clear h4
      have he := Lib.hid (show udE d4 d5 zs = 3 by unfold udE; rw [if_neg (by rw [Hn.out]; exact h8), if_pos (by rw [Hn.out]; exact H4.out)])
      have hh := Lib.hid (show (udP d4 d5 zs).val = .agg #[.int .i64 0, .int .u16 0, .int .u16 0, .int .i64 0, .int .i64 0, .int .i64 0, .bool false, .int .i64 0, .int .i64 0, .int .i64 0, .int .i64 0, .int .u32 0, .int .u32 0, .int .i64 0, .bool false] by unfold udP; rw [if_neg (by rw [he.out]; decide)]; rfl)
      go_wp2_with (first | ((with_reducible refine gd_st 107 4 ?_); refine wpList_st rfl 107 (.tmp 4) _ rfl _ _ rfl _ rfl (HBr.out.drewN q) sPart.2 (#[.int .i64 0, .int .u16 0, .int .u16 0, .int .i64 0, .int .i64 0, .int .i64 0, .bool false, .int .i64 0, .int .i64 0, .int .i64 0, .int .i64 0, .int .u32 0, .int .u32 0, .int .i64 0, .bool false]) rfl (Nat.le_of_ble_eq_true rfl) rfl ?_; intro w9 hb9 hg9 hs9))
      rw [he.out, hh.out]
      exact bodyPost_ret (res_cell2 Try.results66 _ _ _ rfl rfl hb9 sPart) rfl ⟨rfl, bgrown (below_drewN HB1.out q) hg9 hgl⟩
end Go.Proofs.Ytbnlpidhbilenaa

namespace Go.Proofs.Ytbnlpidhbilenaa
open Go.RowKit Plain
set_option linter.unusedVariables false
set_option linter.unusedSimpArgs false
set_option maxRecDepth 100000

set_option maxHeartbeats 4000000 in
theorem getTcp_any (d0 d1 d2 d3 d4 d5 : Int) (A : Option Addr) (n c : Nat) (zs : List Int) (w : World) (hn : zs.length = n) (hl : n ≤ 1000000) (hR : Rd w A zs) (s0 : 0 ≤ d4) (s1 : d4 ≤ 4294967295) (t0 : 0 ≤ d5) (t1 : d5 ≤ 4294967295) :
    Calls Try.prog 67 #[.agg #[.int .i64 d0, .int .i64 d1, .int .i64 d2, .int .i64 d3, .int .u32 d4, .int .u32 d5], .slice A n c] w fun e w' => e = .returned (.tuple #[(tcP d4 d5 zs).val, .int .i64 (tcE d4 d5 zs)]) ∧ Below w.heap.size w w' := by
  have HR := Lib.hid hR
  have Hn := Lib.hid hn
  have rp := Ps_range d4 d5 6 zs hR.1 s0 t0 (by decide)
  have z12b := hR.1.getD 12
  have z13b := hR.1.getD 13
  clear hR hn
  go_enter Try.func67, Try.ntmps67
  go_upto_region 1 with fail
  obtain ⟨w1, hw1⟩ : ∃ w1, w1 = (w.alloc (.cells #[.int .i64 d0, .int .i64 d1, .int .i64 d2, .int .i64 d3, .int .u32 d4, .int .u32 d5] 103)).alloc (.cells #[.int .i64 0, .int .u16 0, .int .u16 0, .int .i64 0, .int .i64 0, .int .i64 0, .bool false, .int .i64 0, .int .i64 0, .int .i64 0, .int .i64 0, .int .u32 0, .int .u32 0, .int .i64 0, .bool false] 107) := ⟨_, rfl⟩
  have HBh := Lib.hid (show Blk w1 w.heap.size 103 #[.int .i64 d0, .int .i64 d1, .int .i64 d2, .int .i64 d3, .int .u32 d4, .int .u32 d5] by rw [hw1]; exact (Blk.new w _ _).alloc _)
  have hbr : Blk w1 (w.heap.size + 1) 107 #[.int .i64 0, .int .u16 0, .int .u16 0, .int .i64 0, .int .i64 0, .int .i64 0, .bool false, .int .i64 0, .int .i64 0, .int .i64 0, .int .i64 0, .int .u32 0, .int .u32 0, .int .i64 0, .bool false] := by rw [hw1]; have := Blk.new (w.alloc (.cells #[.int .i64 d0, .int .i64 d1, .int .i64 d2, .int .i64 d3, .int .u32 d4, .int .u32 d5] 103)) 107 #[.int .i64 0, .int .u16 0, .int .u16 0, .int .i64 0, .int .i64 0, .int .i64 0, .bool false, .int .i64 0, .int .i64 0, .int .i64 0, .int .i64 0, .int .u32 0, .int .u32 0, .int .i64 0, .bool false]; rwa [World.size_alloc] at this
  have HB1 := Lib.hid (show Below w.heap.size w w1 by rw [hw1]; exact bthen (ball _ _) (ball _ _))
  have HR1 := Lib.hid (HR.out.below HB1.out)
  rw [← hw1]
  clear hw1
  obtain ⟨gr, hgr⟩ : ∃ gr, gr = w.heap.size + 1 := ⟨_, rfl⟩
  have hgl : w.heap.size ≤ gr := by omega
  have hgn : ¬ w.heap.size = gr := by omega
  have hgn2 : ¬ gr = w.heap.size := by omega
  rw [← hgr] at hbr
  rw [← hgr]
  have HBr := Lib.hid hbr
  have hgw := hbr.lt
  clear hgr hbr
  by_cases h20 : n < 20
  · have i20 : (n : Int) < 20 := by omega
    have he := Lib.hid (show tcE d4 d5 zs = 2 by unfold tcE; rw [if_pos (by rw [Hn.out]; exact h20)])
    have hh := Lib.hid (show (tcP d4 d5 zs).val = .agg #[.int .i64 0, .int .u16 0, .int .u16 0, .int .i64 0, .int .i64 0, .int .i64 0, .bool false, .int .i64 0, .int .i64 0, .int .i64 0, .int .i64 0, .int .u32 0, .int .u32 0, .int .i64 0, .bool false] by unfold tcP; rw [if_neg (by rw [he.out]; decide)]; rfl)
    go_wp2_with (first | ((with_reducible refine gd_st 107 4 ?_); refine wpList_st rfl 107 (.tmp 4) _ rfl _ _ rfl _ rfl (HBr.out) sPart.2 (#[.int .i64 0, .int .u16 0, .int .u16 0, .int .i64 0, .int .i64 0, .int .i64 0, .bool false, .int .i64 0, .int .i64 0, .int .i64 0, .int .i64 0, .int .u32 0, .int .u32 0, .int .i64 0, .bool false]) rfl (Nat.le_of_ble_eq_true rfl) rfl ?_; intro w9 hb9 hg9 hs9))
    rw [he.out, hh.out]
    exact bodyPost_ret (res_cell2 Try.results67 _ _ _ rfl rfl hb9 sPart) rfl ⟨rfl, bgrown (HB1.out) hg9 hgl⟩
  · have i20 : ¬ (n : Int) < 20 := by omega
    obtain ⟨b, off, rfl, hc⟩ := HR1.out.2 (by rw [Hn.out]; omega)
    have c12 := hc 12 (by rw [Hn.out]; omega)
    have c13 := hc 13 (by rw [Hn.out]; omega)
    have i12 : (12 : Int) < (n : Int) := by omega
    have i13 : (13 : Int) < (n : Int) := by omega
    obtain ⟨x12, hx12⟩ : ∃ x, x = zs.getD 12 0 := ⟨_, rfl⟩
    obtain ⟨x13, hx13⟩ : ∃ x, x = zs.getD 13 0 := ⟨_, rfl⟩
    rw [← hx12] at c12 z12b
    rw [← hx13] at c13 z13b
    have HX := Lib.hid (And.intro hx12 hx13)
    clear hc hx12 hx13
    have hE := Lib.hid (show tcE d4 d5 zs = if x12 / 16 * 4 < 20 ∨ (n : Int) < x12 / 16 * 4 then 3 else if Ps d4 d5 6 zs ≠ 0 then 4 else 0 by unfold tcE; rw [if_neg (by rw [Hn.out]; exact h20), Hn.out, ← HX.out.1])
    by_cases hsm : x12 / 16 * 4 < 20
    · have dsm : decide (x12 / 16 * 4 < 20) = true := by simp; omega
      have he := Lib.hid (show tcE d4 d5 zs = 3 by rw [hE.out, if_pos (.inl hsm)])
      have hh := Lib.hid (show (tcP d4 d5 zs).val = .agg #[.int .i64 0, .int .u16 0, .int .u16 0, .int .i64 0, .int .i64 0, .int .i64 0, .bool false, .int .i64 0, .int .i64 0, .int .i64 0, .int .i64 0, .int .u32 0, .int .u32 0, .int .i64 0, .bool false] by unfold tcP; rw [if_neg (by rw [he.out]; decide)]; rfl)
      go_wp2_with (first | ((with_reducible refine gd_st 107 4 ?_); refine wpList_st rfl 107 (.tmp 4) _ rfl _ _ rfl _ rfl (HBr.out) sPart.2 (#[.int .i64 0, .int .u16 0, .int .u16 0, .int .i64 0, .int .i64 0, .int .i64 0, .bool false, .int .i64 0, .int .i64 0, .int .i64 0, .int .i64 0, .int .u32 0, .int .u32 0, .int .i64 0, .bool false]) rfl (Nat.le_of_ble_eq_true rfl) rfl ?_; intro w9 hb9 hg9 hs9))
      rw [he.out, hh.out]
      exact bodyPost_ret (res_cell2 Try.results67 _ _ _ rfl rfl hb9 sPart) rfl ⟨rfl, bgrown (HB1.out) hg9 hgl⟩
    · have dsm : decide (x12 / 16 * 4 < 20) = false := by simp; omega
      by_cases hbg : (n : Int) < x12 / 16 * 4
      · have dbg : decide ((n : Int) < x12 / 16 * 4) = true := by simp; omega
        have he := Lib.hid (show tcE d4 d5 zs = 3 by rw [hE.out, if_pos (.inr hbg)])
        have hh := Lib.hid (show (tcP d4 d5 zs).val = .agg #[.int .i64 0, .int .u16 0, .int .u16 0, .int .i64 0, .int .i64 0, .int .i64 0, .bool false, .int .i64 0, .int .i64 0, .int .i64 0, .int .i64 0, .int .u32 0, .int .u32 0, .int .i64 0, .bool false] by unfold tcP; rw [if_neg (by rw [he.out]; decide)]; rfl)
        go_wp2_with (first | ((with_reducible refine gd_st 107 4 ?_); refine wpList_st rfl 107 (.tmp 4) _ rfl _ _ rfl _ rfl (HBr.out) sPart.2 (#[.int .i64 0, .int .u16 0, .int .u16 0, .int .i64 0, .int .i64 0, .int .i64 0, .bool false, .int .i64 0, .int .i64 0, .int .i64 0, .int .i64 0, .int .u32 0, .int .u32 0, .int .i64 0, .bool false]) rfl (Nat.le_of_ble_eq_true rfl) rfl ?_; intro w9 hb9 hg9 hs9))
        rw [he.out, hh.out]
        exact bodyPost_ret (res_cell2 Try.results67 _ _ _ rfl rfl hb9 sPart) rfl ⟨rfl, bgrown (HB1.out) hg9 hgl⟩
      · have dbg : decide ((n : Int) < x12 / 16 * 4) = false := by simp; omega
        have hE2 := Lib.hid (show tcE d4 d5 zs = if Ps d4 d5 6 zs ≠ 0 then 4 else 0 by rw [hE.out, if_neg (by omega)])
        have h4c : w1.cell? ⟨w.heap.size, 4, none⟩ = some (.int .u32 d4) := HBh.out.cell 4
        have h5c : w1.cell? ⟨w.heap.size, 5, none⟩ = some (.int .u32 d5) := HBh.out.cell 5
        go_wp2_with fail
        refine (sumFor_any d4 d5 6 _ n c zs _ Hn.out hl HR1.out s0 s1 t0 t1 (by decide) (by decide)).mono ?_
        rintro e w' ⟨rfl, q, rfl⟩
        by_cases hp : Ps d4 d5 6 zs = 0
        · have ep : (Ps d4 d5 6 zs != 0) = false := by simp [hp]
          have he := Lib.hid (show tcE d4 d5 zs = 0 by rw [hE2.out, if_neg (by simp [hp])])
          clear hp
          go_wp2_with fail
          refine (withPorts_any 6 0 0 x13 0 0 false 0 0 0 0 0 0 0 false _ n c zs _ Hn.out (by omega) hl (HR1.out.drewN q)).mono ?_
          rintro e w2 ⟨rfl, hb2⟩
          have HB2 := Lib.hid (bthen (below_drewN HB1.out q) hb2)
          have HBr2 := Lib.hid ((HBr.out.drewN q).below hb2)
          clear hb2
          have hh := Lib.hid (show (tcP d4 d5 zs).val = .agg #[.int .i64 6, .int .u16 (G16 zs 0), .int .u16 (G16 zs 2), .int .i64 x13, .int .i64 0, .int .i64 0, .bool false, .int .i64 0, .int .i64 0, .int .i64 0, .int .i64 0, .int .u32 0, .int .u32 0, .int .i64 0, .bool false] by unfold tcP; rw [if_pos he.out]; rw [← HX.out.2]; rfl)
          go_wp2_with (first | ((with_reducible refine gd_st 107 4 ?_); refine wpList_st rfl 107 (.tmp 4) _ rfl _ _ rfl _ rfl (HBr2.out) sPart.2 (#[.int .i64 6, .int .u16 (G16 zs 0), .int .u16 (G16 zs 2), .int .i64 x13, .int .i64 0, .int .i64 0, .bool false, .int .i64 0, .int .i64 0, .int .i64 0, .int .i64 0, .int .u32 0, .int .u32 0, .int .i64 0, .bool false]) rfl (Nat.le_of_ble_eq_true rfl) rfl ?_; intro w9 hb9 hg9 hs9))
          rw [he.out, hh.out]
          exact bodyPost_ret (res_cell2 Try.results67 _ _ _ rfl rfl hb9 sPart) rfl ⟨rfl, bgrown (HB2.out) hg9 hgl⟩
        · have ep : (Ps d4 d5 6 zs != 0) = true := by simp [hp]
          have he := Lib.hid (show tcE d4 d5 zs = 4 by rw [hE2.out, if_pos hp])
          clear hp
          have hh := Lib.hid (show (tcP d4 d5 zs).val = .agg #[.int .i64 0, .int .u16 0, .int .u16 0, .int .i64 0, .int .i64 0, .int .i64 0, .bool false, .int .i64 0, .int .i64 0, .int .i64 0, .int .i64 0, .int .u32 0, .int .u32 0, .int .i64 0, .bool false] by unfold tcP; rw [if_neg (by rw [he.out]; decide)]; rfl)
          go_wp2_with (first | ((with_reducible refine gd_st 107 4 ?_); refine wpList_st rfl 107 (.tmp 4) _ rfl _ _ rfl _ rfl (HBr.out.drewN q) sPart.2 (#[.int .i64 0, .int .u16 0, .int .u16 0, .int .i64 0, .int .i64 0, .int .i64 0, .bool false, .int .i64 0, .int .i64 0, .int .i64 0, .int .i64 0, .int .u32 0, .int .u32 0, .int .i64 0, .bool false]) rfl (Nat.le_of_ble_eq_true rfl) rfl ?_; intro w9 hb9 hg9 hs9))
          rw [he.out, hh.out]
          exact bodyPost_ret (res_cell2 Try.results67 _ _ _ rfl rfl hb9 sPart) rfl ⟨rfl, bgrown (below_drewN HB1.out q) hg9 hgl⟩
end Go.Proofs.Ytbnlpidhbilenaa

namespace Go.Proofs.Ytbnlpidhbilenaa
open Go.RowKit Plain
set_option linter.unusedVariables false
set_option linter.unusedSimpArgs false
set_option maxRecDepth 100000

theorem isEcho_any (x : Int) (w : World) (h0 : 0 ≤ x) (h1 : x ≤ 255) :
    Calls Try.prog 105 #[.int .u8 x] w fun e w' => e = .returned (.bool (decide (x = 0 ∨ x = 8))) ∧ w = w' := by
  by_cases a0 : x = 0
  · have d0 : (x == 0) = true := by simp [a0]
    go_enter Try.func105, Try.ntmps105
    go_wp2
    go_ret
    exact ⟨by simp [a0], rfl⟩
  · have d0 : (x == 0) = false := by simp [a0]
    by_cases a8 : x = 8
    · have d8 : (x == 8) = true := by simp [a8]
      go_enter Try.func105, Try.ntmps105
      go_wp2
      go_ret
      exact ⟨by simp [a8], rfl⟩
    · have d8 : (x == 8) = false := by simp [a8]
      go_enter Try.func105, Try.ntmps105
      go_wp2
      go_ret
      exact ⟨by simp [a0, a8], rfl⟩

/-- what getError tells of the packet that an error is about -/
def erC (zs : List Int) : List Int := zs.drop (ptH zs).size.toNat
def erE (zs : List Int) : Int :=
  if ptE zs ≠ 0 then ptE zs else if (zs.length : Int) - (ptH zs).size < 8 ∨ (ptH zs).len - (ptH zs).size < 8 then 3
  else if (ptH zs).proto = 17 ∨ (ptH zs).proto = 6 then 0 else if (ptH zs).proto = 1 ∧ ((erC zs).getD 0 0 = 0 ∨ (erC zs).getD 0 0 = 8) then 0 else 6
def erP (p : Pt) (zs : List Int) : Pt :=
  if erE zs = 0 then (if (ptH zs).proto = 1 then { p with er := true, inn := ptH zs, sp := G16 (erC zs) 4, dp := G16 (erC zs) 4 } else { p with er := true, inn := ptH zs, sp := G16 (erC zs) 0, dp := G16 (erC zs) 2 }) else pt0

theorem ptE_zero (zs : List Int) (h : ptE zs = 0) : rdE zs 65535 = 0 ∧ ptH zs = fld zs := by
  have h' := h
  unfold ptE at h
  split at h
  · rename_i hh; exact absurd h hh
  · rename_i hh
    exact ⟨by simpa using hh, by unfold ptH; rw [if_pos h']⟩
theorem ptE_range (zs : List Int) : 0 ≤ ptE zs ∧ ptE zs ≤ 5 := by
  have := rdE_range zs 65535
  unfold ptE; split
  · omega
  · split <;> omega
set_option maxHeartbeats 8000000 in
theorem getError_any (p0 p1 p2 p3 p4 p5 : Int) (p6 : Bool) (d0 d1 d2 d3 d4 d5 p7 : Int) (p8 : Bool) (A : Option Addr) (n c : Nat) (zs : List Int) (w : World) (hn : zs.length = n) (hnc : n ≤ c) (hl : n ≤ 1000000) (hR : Rd w A zs) :
    Calls Try.prog 94 #[.agg #[.int .i64 p0, .int .u16 p1, .int .u16 p2, .int .i64 p3, .int .i64 p4, .int .i64 p5, .bool p6, .int .i64 d0, .int .i64 d1, .int .i64 d2, .int .i64 d3, .int .u32 d4, .int .u32 d5, .int .i64 p7, .bool p8], .slice A n c] w fun e w' => e = .returned (.tuple #[(erP ⟨p0, p1, p2, p3, p4, p5, p6, ⟨d0, d1, d2, d3, d4, d5⟩, p7, p8⟩ zs).val, .int .i64 (erE zs)]) ∧ Below w.heap.size w w' := by
  have HR := Lib.hid hR
  have Hn := Lib.hid hn
  have rE := ptE_range zs
  clear hR hn
  go_enter Try.func94, Try.ntmps94
  go_upto_region 1 with fail
  obtain ⟨w1, hw1⟩ : ∃ w1, w1 = (w.alloc (.cells #[.int .i64 p0, .int .u16 p1, .int .u16 p2, .int .i64 p3, .int .i64 p4, .int .i64 p5, .bool p6, .int .i64 d0, .int .i64 d1, .int .i64 d2, .int .i64 d3, .int .u32 d4, .int .u32 d5, .int .i64 p7, .bool p8] 107)).alloc (.cells #[.int .i64 0, .int .u16 0, .int .u16 0, .int .i64 0, .int .i64 0, .int .i64 0, .bool false, .int .i64 0, .int .i64 0, .int .i64 0, .int .i64 0, .int .u32 0, .int .u32 0, .int .i64 0, .bool false] 107) := ⟨_, rfl⟩
  have HBh := Lib.hid (show Blk w1 w.heap.size 107 #[.int .i64 p0, .int .u16 p1, .int .u16 p2, .int .i64 p3, .int .i64 p4, .int .i64 p5, .bool p6, .int .i64 d0, .int .i64 d1, .int .i64 d2, .int .i64 d3, .int .u32 d4, .int .u32 d5, .int .i64 p7, .bool p8] by rw [hw1]; exact (Blk.new w _ _).alloc _)
  have hbr : Blk w1 (w.heap.size + 1) 107 #[.int .i64 0, .int .u16 0, .int .u16 0, .int .i64 0, .int .i64 0, .int .i64 0, .bool false, .int .i64 0, .int .i64 0, .int .i64 0, .int .i64 0, .int .u32 0, .int .u32 0, .int .i64 0, .bool false] := by rw [hw1]; have := Blk.new (w.alloc (.cells #[.int .i64 p0, .int .u16 p1, .int .u16 p2, .int .i64 p3, .int .i64 p4, .int .i64 p5, .bool p6, .int .i64 d0, .int .i64 d1, .int .i64 d2, .int .i64 d3, .int .u32 d4, .int .u32 d5, .int .i64 p7, .bool p8] 107)) 107 #[.int .i64 0, .int .u16 0, .int .u16 0, .int .i64 0, .int .i64 0, .int .i64 0, .bool false, .int .i64 0, .int .i64 0, .int .i64 0, .int .i64 0, .int .u32 0, .int .u32 0, .int .i64 0, .bool false]; rwa [World.size_alloc] at this
  have HB1 := Lib.hid (show Below w.heap.size w w1 by rw [hw1]; exact bthen (ball _ _) (ball _ _))
  have HR1 := Lib.hid (HR.out.below HB1.out)
  rw [← hw1]
  clear hw1
  obtain ⟨gr, hgr⟩ : ∃ gr, gr = w.heap.size + 1 := ⟨_, rfl⟩
  have hgl : w.heap.size ≤ gr := by omega
  have hgn : ¬ w.heap.size = gr := by omega
  have hgn2 : ¬ gr = w.heap.size := by omega
  rw [← hgr] at hbr
  rw [← hgr]
  have HBr := Lib.hid hbr
  have hgw := hbr.lt
  clear hgr hbr
  go_wp2_with fail
  refine (part_any A n c zs _ Hn.out hl HR1.out).mono ?_
  rintro e w2 ⟨rfl, hb2⟩
  obtain ⟨hd, hhd⟩ : ∃ hd, hd = ptH zs := ⟨_, rfl⟩
  obtain ⟨pe, hpe⟩ : ∃ pe, pe = ptE zs := ⟨_, rfl⟩
  rw [← hhd, ← hpe]
  rw [← hpe] at rE
  obtain ⟨i0, i1, i2, i3, i4, i5⟩ := hd
  rw [show (Hd.mk i0 i1 i2 i3 i4 i5).val = .agg #[.int .i64 i0, .int .i64 i1, .int .i64 i2, .int .i64 i3, .int .u32 i4, .int .u32 i5] from rfl]
  have HB2 := Lib.hid (bthen HB1.out hb2)
  have HBr2 := Lib.hid (HBr.out.below hb2)
  have HBh2 := Lib.hid (HBh.out.below hb2)
  have hs2 : gr < w2.heap.size := HBr2.out.lt
  have Hh := Lib.hid hhd
  have Hp := Lib.hid hpe
  clear hb2 hhd hpe
  by_cases hz : pe = 0
  · have ez : (pe != 0) = false := by simp [hz]
    have hpz : ptE zs = 0 := by rw [← Hp.out]; exact hz
    obtain ⟨hrd, hfl⟩ := ptE_zero zs hpz
    obtain ⟨q0, q1, q2, q3, q4, q5⟩ := rdE_zero zs 65535 hrd
    rw [← hfl, ← Hh.out] at q2 q3 q4 q5
    rw [Hn.out] at q0 q3
    simp only at q2 q3 q4 q5
    obtain ⟨sz, rfl⟩ : ∃ sz : Nat, i0 = (sz : Int) := ⟨i0.toNat, by omega⟩
    have HE := Lib.hid (show erE zs = if (n : Int) - (sz : Int) < 8 ∨ i1 - (sz : Int) < 8 then 3 else if i3 = 17 ∨ i3 = 6 then 0 else if i3 = 1 ∧ ((zs.drop sz).getD 0 0 = 0 ∨ (zs.drop sz).getD 0 0 = 8) then 0 else 6 by
      unfold erE erC; rw [hpz, if_neg (by decide), Hn.out, ← Hh.out]; rfl)
    have HP := Lib.hid (fun (hh : erE zs = 0) => show erP ⟨p0, p1, p2, p3, p4, p5, p6, ⟨d0, d1, d2, d3, d4, d5⟩, p7, p8⟩ zs = if i3 = 1 then ⟨p0, G16 (zs.drop sz) 4, G16 (zs.drop sz) 4, p3, p4, p5, true, ⟨sz, i1, i2, i3, i4, i5⟩, p7, p8⟩ else ⟨p0, G16 (zs.drop sz) 0, G16 (zs.drop sz) 2, p3, p4, p5, true, ⟨sz, i1, i2, i3, i4, i5⟩, p7, p8⟩ by
      unfold erP erC; rw [if_pos hh, ← Hh.out]; rfl)
    have HP0 := Lib.hid (fun (hh : erE zs ≠ 0) => show (erP ⟨p0, p1, p2, p3, p4, p5, p6, ⟨d0, d1, d2, d3, d4, d5⟩, p7, p8⟩ zs).val = .agg #[.int .i64 0, .int .u16 0, .int .u16 0, .int .i64 0, .int .i64 0, .int .i64 0, .bool false, .int .i64 0, .int .i64 0, .int .i64 0, .int .i64 0, .int .u32 0, .int .u32 0, .int .i64 0, .bool false] by unfold erP; rw [if_neg hh]; rfl)
    obtain rfl : pe = 0 := hz
    clear hpz hrd hfl
    go_upto_region 4 with fail
    have HBi := Lib.hid (Blk.new w2 103 #[.int .i64 (sz : Int), .int .i64 i1, .int .i64 i2, .int .i64 i3, .int .u32 i4, .int .u32 i5])
    have HBr3 := Lib.hid (HBr2.out.alloc (.cells #[.int .i64 (sz : Int), .int .i64 i1, .int .i64 i2, .int .i64 i3, .int .u32 i4, .int .u32 i5] 103))
    have HBh3 := Lib.hid (HBh2.out.alloc (.cells #[.int .i64 (sz : Int), .int .i64 i1, .int .i64 i2, .int .i64 i3, .int .u32 i4, .int .u32 i5] 103))
    have HB3 := Lib.hid (bthen HB2.out (ball w2 (.cells #[.int .i64 (sz : Int), .int .i64 i1, .int .i64 i2, .int .i64 i3, .int .u32 i4, .int .u32 i5] 103)))
    have hpl : w.heap.size ≤ w2.heap.size := HB2.out.size
    have np1 : gr ≠ w2.heap.size := by omega
    have np2 : w2.heap.size ≠ w.heap.size := by omega
    generalize w2.alloc (.cells #[.int .i64 (sz : Int), .int .i64 i1, .int .i64 i2, .int .i64 i3, .int .u32 i4, .int .u32 i5] 103) = w3 at *
    generalize w2.heap.size = p at *
    have k0 : w3.cell? ⟨p, 0, none⟩ = some (.int .i64 (sz : Int)) := HBi.out.cell 0
    have k1 : w3.cell? ⟨p, 1, none⟩ = some (.int .i64 i1) := HBi.out.cell 1
    by_cases hn8 : (n : Int) - (sz : Int) < 8
    · have dn8 : decide ((n : Int) - (sz : Int) < 8) = true := by simp; omega
      have he := Lib.hid (show erE zs = 3 by rw [HE.out, if_pos (.inl hn8)])
      have hh := Lib.hid (HP0.out (by rw [he.out]; decide))
      go_wp2_with (first | ((with_reducible refine gd_st 107 4 ?_); refine wpList_st rfl 107 (.tmp 4) _ rfl _ _ rfl _ rfl (HBr3.out) sPart.2 (#[.int .i64 0, .int .u16 0, .int .u16 0, .int .i64 0, .int .i64 0, .int .i64 0, .bool false, .int .i64 0, .int .i64 0, .int .i64 0, .int .i64 0, .int .u32 0, .int .u32 0, .int .i64 0, .bool false]) rfl (Nat.le_of_ble_eq_true rfl) rfl ?_; intro w9 hb9 hg9 hs9))
      rw [he.out, hh.out]
      exact bodyPost_ret (res_cell2 Try.results94 _ _ _ rfl rfl hb9 sPart) rfl ⟨rfl, bgrown (HB3.out) hg9 hgl⟩
    · have dn8 : decide ((n : Int) - (sz : Int) < 8) = false := by simp; omega
      by_cases hl8 : i1 - (sz : Int) < 8
      · have dl8 : decide (i1 - (sz : Int) < 8) = true := by simp; omega
        have he := Lib.hid (show erE zs = 3 by rw [HE.out, if_pos (.inr hl8)])
        have hh := Lib.hid (HP0.out (by rw [he.out]; decide))
        go_wp2_with (first | ((with_reducible refine gd_st 107 4 ?_); refine wpList_st rfl 107 (.tmp 4) _ rfl _ _ rfl _ rfl (HBr3.out) sPart.2 (#[.int .i64 0, .int .u16 0, .int .u16 0, .int .i64 0, .int .i64 0, .int .i64 0, .bool false, .int .i64 0, .int .i64 0, .int .i64 0, .int .i64 0, .int .u32 0, .int .u32 0, .int .i64 0, .bool false]) rfl (Nat.le_of_ble_eq_true rfl) rfl ?_; intro w9 hb9 hg9 hs9))
        rw [he.out, hh.out]
        exact bodyPost_ret (res_cell2 Try.results94 _ _ _ rfl rfl hb9 sPart) rfl ⟨rfl, bgrown (HB3.out) hg9 hgl⟩
      · have dl8 : decide (i1 - (sz : Int) < 8) = false := by simp; omega
        have HE2 := Lib.hid (show erE zs = if i3 = 17 ∨ i3 = 6 then 0 else if i3 = 1 ∧ ((zs.drop sz).getD 0 0 = 0 ∨ (zs.drop sz).getD 0 0 = 8) then 0 else 6 by rw [HE.out, if_neg (by omega)])
        clear HE
        obtain ⟨b, off, rfl, hc⟩ := HR.out.2 (by rw [Hn.out]; omega)
        have isz : (sz : Int) ≤ (n : Int) := by omega
        go_upto_region 9 with (first | ((with_reducible refine gd_st 4 33 ?_); refine wpList_st rfl 4 (.tmp 33) _ rfl _ _ rfl _ rfl (HBh3.out) sBool (#[.int .i64 p0, .int .u16 p1, .int .u16 p2, .int .i64 p3, .int .i64 p4, .int .i64 p5, .bool true, .int .i64 d0, .int .i64 d1, .int .i64 d2, .int .i64 d3, .int .u32 d4, .int .u32 d5, .int .i64 p7, .bool p8]) rfl (Nat.le_of_ble_eq_true rfl) rfl ?_; intro w4 hb4 hg4 hs4) | ((with_reducible refine gd_ld 103 6 ?_); refine wpList_ld rfl 103 (.tmp 6) rfl _ rfl (HBi.out.grown hg4 np2) sHead ?_) | ((with_reducible refine gd_st 103 35 ?_); refine wpList_st rfl 103 (.tmp 35) _ rfl _ _ rfl _ rfl (hb4) sHead.2 (#[.int .i64 p0, .int .u16 p1, .int .u16 p2, .int .i64 p3, .int .i64 p4, .int .i64 p5, .bool true, .int .i64 (sz : Int), .int .i64 i1, .int .i64 i2, .int .i64 i3, .int .u32 i4, .int .u32 i5, .int .i64 p7, .bool p8]) rfl (Nat.le_of_ble_eq_true rfl) rfl ?_; intro w5 hb5 hg5 hs5; have k0' : w5.cell? ⟨p, 0, none⟩ = some (.int .i64 (sz : Int)) := ((HBi.out.grown hg4 np2).grown hg5 np2).cell 0; have k3' : w5.cell? ⟨p, 3, none⟩ = some (.int .i64 i3) := ((HBi.out.grown hg4 np2).grown hg5 np2).cell 3))
        have HB5 := Lib.hid (bgrown (bgrown HB3.out hg4 (Nat.le_refl _)) hg5 (Nat.le_refl _))
        have HBr5 := Lib.hid ((HBr3.out.grown hg4 hgn2).grown hg5 hgn2)
        have HBh5 := Lib.hid hb5
        have HRd := Lib.hid ((HR.out.below HB5.out).dropAt sz)
        have Hdl := Lib.hid (show (zs.drop sz).length = n - sz by rw [List.length_drop, Hn.out])
        have hm8 : 8 ≤ n - sz := by omega
        have hml : n - sz ≤ 1000000 := by omega
        clear hb4 hg4 hs4 hb5 hg5 hs5 hc k0 k1 k0' dn8 dl8
        obtain ⟨ys, hys⟩ : ∃ ys, ys = zs.drop sz := ⟨_, rfl⟩
        rw [← hys] at HRd Hdl HE2 HP
        obtain ⟨m, hm⟩ : ∃ m, m = n - sz := ⟨_, rfl⟩
        rw [← hm] at Hdl hm8 hml
        rw [← hm]
        have yb := HRd.out.1.getD 0
        clear hm hys
        by_cases h17 : i3 = 17
        · have e17 : (i3 == 17) = true := by simp [h17]
          have he := Lib.hid (show erE zs = 0 by rw [HE2.out, if_pos (.inl h17)])
          have hh := Lib.hid (show (erP ⟨p0, p1, p2, p3, p4, p5, p6, ⟨d0, d1, d2, d3, d4, d5⟩, p7, p8⟩ zs).val = .agg #[.int .i64 p0, .int .u16 (G16 ys 0), .int .u16 (G16 ys 2), .int .i64 p3, .int .i64 p4, .int .i64 p5, .bool true, .int .i64 (sz : Int), .int .i64 i1, .int .i64 i2, .int .i64 i3, .int .u32 i4, .int .u32 i5, .int .i64 p7, .bool p8] by rw [HP.out he.out, if_neg (by omega)]; rfl)
          clear h17
          go_wp2_with (first | ((with_reducible refine gd_ld 107 2 ?_); refine wpList_ld rfl 107 (.tmp 2) rfl _ rfl (HBh5.out) sPart ?_) | fail)
          refine (withPorts_any p0 p1 p2 p3 p4 p5 true (sz : Int) i1 i2 i3 i4 i5 p7 p8 _ m (c - sz) ys _ Hdl.out (by omega) hml HRd.out).mono ?_
          rintro e w6 ⟨rfl, hb6⟩
          have HB6 := Lib.hid (bthen HB5.out hb6)
          have HBr6 := Lib.hid (HBr5.out.below hb6)
          clear hb6
          go_wp2_with (first | ((with_reducible refine gd_st 107 4 ?_); refine wpList_st rfl 107 (.tmp 4) _ rfl _ _ rfl _ rfl (HBr6.out) sPart.2 (#[.int .i64 p0, .int .u16 (G16 ys 0), .int .u16 (G16 ys 2), .int .i64 p3, .int .i64 p4, .int .i64 p5, .bool true, .int .i64 (sz : Int), .int .i64 i1, .int .i64 i2, .int .i64 i3, .int .u32 i4, .int .u32 i5, .int .i64 p7, .bool p8]) rfl (Nat.le_of_ble_eq_true rfl) rfl ?_; intro w9 hb9 hg9 hs9))
          rw [he.out, hh.out]
          exact bodyPost_ret (res_cell2 Try.results94 _ _ _ rfl rfl hb9 sPart) rfl ⟨rfl, bgrown (HB6.out) hg9 hgl⟩
        · have e17 : (i3 == 17) = false := by simp [h17]
          by_cases h6 : i3 = 6
          · have e6 : (i3 == 6) = true := by simp [h6]
            have he := Lib.hid (show erE zs = 0 by rw [HE2.out, if_pos (.inr h6)])
            have hh := Lib.hid (show (erP ⟨p0, p1, p2, p3, p4, p5, p6, ⟨d0, d1, d2, d3, d4, d5⟩, p7, p8⟩ zs).val = .agg #[.int .i64 p0, .int .u16 (G16 ys 0), .int .u16 (G16 ys 2), .int .i64 p3, .int .i64 p4, .int .i64 p5, .bool true, .int .i64 (sz : Int), .int .i64 i1, .int .i64 i2, .int .i64 i3, .int .u32 i4, .int .u32 i5, .int .i64 p7, .bool p8] by rw [HP.out he.out, if_neg (by omega)]; rfl)
            clear h6
            go_wp2_with (first | ((with_reducible refine gd_ld 107 2 ?_); refine wpList_ld rfl 107 (.tmp 2) rfl _ rfl (HBh5.out) sPart ?_) | fail)
            refine (withPorts_any p0 p1 p2 p3 p4 p5 true (sz : Int) i1 i2 i3 i4 i5 p7 p8 _ m (c - sz) ys _ Hdl.out (by omega) hml HRd.out).mono ?_
            rintro e w6 ⟨rfl, hb6⟩
            have HB6 := Lib.hid (bthen HB5.out hb6)
            have HBr6 := Lib.hid (HBr5.out.below hb6)
            clear hb6
            go_wp2_with (first | ((with_reducible refine gd_st 107 4 ?_); refine wpList_st rfl 107 (.tmp 4) _ rfl _ _ rfl _ rfl (HBr6.out) sPart.2 (#[.int .i64 p0, .int .u16 (G16 ys 0), .int .u16 (G16 ys 2), .int .i64 p3, .int .i64 p4, .int .i64 p5, .bool true, .int .i64 (sz : Int), .int .i64 i1, .int .i64 i2, .int .i64 i3, .int .u32 i4, .int .u32 i5, .int .i64 p7, .bool p8]) rfl (Nat.le_of_ble_eq_true rfl) rfl ?_; intro w9 hb9 hg9 hs9))
            rw [he.out, hh.out]
            exact bodyPost_ret (res_cell2 Try.results94 _ _ _ rfl rfl hb9 sPart) rfl ⟨rfl, bgrown (HB6.out) hg9 hgl⟩
          · have e6 : (i3 == 6) = false := by simp [h6]
            by_cases h1 : i3 = 1
            · have e1 : (i3 == 1) = true := by simp [h1]
              have cz : w5.cell? ⟨b, off + sz, none⟩ = some (.int .u8 (ys.getD 0 0)) := by
                obtain ⟨b', off', e, hc'⟩ := HRd.out.2 (by rw [Hdl.out]; omega)
                injection e with e; injection e with e1 e2; subst e1 e2
                exact hc' 0 (by rw [Hdl.out]; omega)
              have im : 0 < m := by omega
              have HE3 := Lib.hid (show erE zs = if ys.getD 0 0 = 0 ∨ ys.getD 0 0 = 8 then 0 else 6 by
                rw [HE2.out, if_neg (by omega)]; simp only [h1, true_and])
              have HP1 := Lib.hid h1
              generalize ys.getD 0 0 = y0 at *
              clear h1
              go_wp2_with fail
              refine (isEcho_any y0 _ yb.1 yb.2).mono ?_
              rintro e w' ⟨rfl, rfl⟩
              by_cases hy : y0 = 0 ∨ y0 = 8
              · have ey : decide (y0 = 0 ∨ y0 = 8) = true := by simp [hy]
                have he := Lib.hid (show erE zs = 0 by rw [HE3.out, if_pos hy])
                have hh := Lib.hid (show (erP ⟨p0, p1, p2, p3, p4, p5, p6, ⟨d0, d1, d2, d3, d4, d5⟩, p7, p8⟩ zs).val = .agg #[.int .i64 p0, .int .u16 (G16 ys 4), .int .u16 (G16 ys 4), .int .i64 p3, .int .i64 p4, .int .i64 p5, .bool true, .int .i64 (sz : Int), .int .i64 i1, .int .i64 i2, .int .i64 i3, .int .u32 i4, .int .u32 i5, .int .i64 p7, .bool p8] by rw [HP.out he.out, if_pos HP1.out]; rfl)
                clear hy
                go_wp2_with (first | ((with_reducible refine gd_ld 107 2 ?_); refine wpList_ld rfl 107 (.tmp 2) rfl _ rfl (HBh5.out) sPart ?_) | fail)
                refine (withNumber_any p0 p1 p2 p3 p4 p5 true (sz : Int) i1 i2 i3 i4 i5 p7 p8 _ m (c - sz) ys _ Hdl.out (by omega) hml HRd.out).mono ?_
                rintro e w6 ⟨rfl, hb6⟩
                have HB6 := Lib.hid (bthen HB5.out hb6)
                have HBr6 := Lib.hid (HBr5.out.below hb6)
                clear hb6
                go_wp2_with (first | ((with_reducible refine gd_st 107 4 ?_); refine wpList_st rfl 107 (.tmp 4) _ rfl _ _ rfl _ rfl (HBr6.out) sPart.2 (#[.int .i64 p0, .int .u16 (G16 ys 4), .int .u16 (G16 ys 4), .int .i64 p3, .int .i64 p4, .int .i64 p5, .bool true, .int .i64 (sz : Int), .int .i64 i1, .int .i64 i2, .int .i64 i3, .int .u32 i4, .int .u32 i5, .int .i64 p7, .bool p8]) rfl (Nat.le_of_ble_eq_true rfl) rfl ?_; intro w9 hb9 hg9 hs9))
                rw [he.out, hh.out]
                exact bodyPost_ret (res_cell2 Try.results94 _ _ _ rfl rfl hb9 sPart) rfl ⟨rfl, bgrown (HB6.out) hg9 hgl⟩
              · have ey : decide (y0 = 0 ∨ y0 = 8) = false := by simp [hy]
                have he := Lib.hid (show erE zs = 6 by rw [HE3.out, if_neg hy])
                have hh := Lib.hid (HP0.out (by rw [he.out]; decide))
                clear hy
                go_wp2_with (first | ((with_reducible refine gd_st 107 4 ?_); refine wpList_st rfl 107 (.tmp 4) _ rfl _ _ rfl _ rfl (HBr5.out) sPart.2 (#[.int .i64 0, .int .u16 0, .int .u16 0, .int .i64 0, .int .i64 0, .int .i64 0, .bool false, .int .i64 0, .int .i64 0, .int .i64 0, .int .i64 0, .int .u32 0, .int .u32 0, .int .i64 0, .bool false]) rfl (Nat.le_of_ble_eq_true rfl) rfl ?_; intro w9 hb9 hg9 hs9))
                rw [he.out, hh.out]
                exact bodyPost_ret (res_cell2 Try.results94 _ _ _ rfl rfl hb9 sPart) rfl ⟨rfl, bgrown (HB5.out) hg9 hgl⟩
            · have e1 : (i3 == 1) = false := by simp [h1]
              have he := Lib.hid (show erE zs = 6 by rw [HE2.out, if_neg (by omega), if_neg (fun h => h1 h.1)])
              have hh := Lib.hid (HP0.out (by rw [he.out]; decide))
              clear h1 h6 h17
              go_wp2_with (first | ((with_reducible refine gd_st 107 4 ?_); refine wpList_st rfl 107 (.tmp 4) _ rfl _ _ rfl _ rfl (HBr5.out) sPart.2 (#[.int .i64 0, .int .u16 0, .int .u16 0, .int .i64 0, .int .i64 0, .int .i64 0, .bool false, .int .i64 0, .int .i64 0, .int .i64 0, .int .i64 0, .int .u32 0, .int .u32 0, .int .i64 0, .bool false]) rfl (Nat.le_of_ble_eq_true rfl) rfl ?_; intro w9 hb9 hg9 hs9))
              rw [he.out, hh.out]
              exact bodyPost_ret (res_cell2 Try.results94 _ _ _ rfl rfl hb9 sPart) rfl ⟨rfl, bgrown (HB5.out) hg9 hgl⟩
  · have ez : (pe != 0) = true := by simp [hz]
    have he := Lib.hid (show erE zs = pe by unfold erE; rw [if_pos (by rw [← Hp.out]; exact hz), Hp.out])
    have hh := Lib.hid (show (erP ⟨p0, p1, p2, p3, p4, p5, p6, ⟨d0, d1, d2, d3, d4, d5⟩, p7, p8⟩ zs).val = .agg #[.int .i64 0, .int .u16 0, .int .u16 0, .int .i64 0, .int .i64 0, .int .i64 0, .bool false, .int .i64 0, .int .i64 0, .int .i64 0, .int .i64 0, .int .u32 0, .int .u32 0, .int .i64 0, .bool false] by unfold erP; rw [if_neg (by rw [he.out]; exact hz)]; rfl)
    go_wp2_with (first | ((with_reducible refine gd_st 107 4 ?_); refine wpList_st rfl 107 (.tmp 4) _ rfl _ _ rfl _ rfl (HBr2.out.alloc _) sPart.2 (#[.int .i64 0, .int .u16 0, .int .u16 0, .int .i64 0, .int .i64 0, .int .i64 0, .bool false, .int .i64 0, .int .i64 0, .int .i64 0, .int .i64 0, .int .u32 0, .int .u32 0, .int .i64 0, .bool false]) rfl (Nat.le_of_ble_eq_true rfl) rfl ?_; intro w9 hb9 hg9 hs9))
    rw [he.out, hh.out]
    exact bodyPost_ret (res_cell2 Try.results94 _ _ _ rfl rfl hb9 sPart) rfl ⟨rfl, bgrown (bthen HB2.out (ball _ _)) hg9 hgl⟩
end Go.Proofs.Ytbnlpidhbilenaa
