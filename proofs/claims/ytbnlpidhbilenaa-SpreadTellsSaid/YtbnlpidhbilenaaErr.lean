/-
  Contract of part.getError. Conditions stand in each theorem.
-/
import Derived.Test.YtbnlpidhbilenaaTcp
namespace Go.Proofs.Ytbnlpidhbilenaa
open Go.RowKit Plain
set_option linter.unusedVariables false
set_option linter.unusedSimpArgs false
set_option maxRecDepth 100000

theorem isEcho_any (x : Int) (w : World) (h0 : 0 ≤ x) (h1 : x ≤ 255) :
    Calls Try.prog 105 #[.int .u8 x] w fun e w' => e = .returned (.bool (decide (x = 0 ∨ x = 8))) ∧ w = w' := by
  by_cases a0 : x = 0
  · have d0 : (x == 0) = true := by simp [a0]
    go_enter Try.func105, Try.ntmps105
    go_wp2
    go_ret
    exact ⟨by simp [a0], rfl⟩
  · have d0 : (x == 0) = false := by simp [a0]
    by_cases a8 : x = 8
    · have d8 : (x == 8) = true := by simp [a8]
      go_enter Try.func105, Try.ntmps105
      go_wp2
      go_ret
      exact ⟨by simp [a8], rfl⟩
    · have d8 : (x == 8) = false := by simp [a8]
      go_enter Try.func105, Try.ntmps105
      go_wp2
      go_ret
      exact ⟨by simp [a0, a8], rfl⟩

/-- what getError tells of the packet that an error is about -/
def erC (zs : List Int) : List Int := zs.drop (ptH zs).size.toNat
def erE (zs : List Int) : Int :=
  if ptE zs ≠ 0 then ptE zs else if (zs.length : Int) - (ptH zs).size < 8 ∨ (ptH zs).len - (ptH zs).size < 8 then 3
  else if (ptH zs).proto = 17 ∨ (ptH zs).proto = 6 then 0 else if (ptH zs).proto = 1 ∧ ((erC zs).getD 0 0 = 0 ∨ (erC zs).getD 0 0 = 8) then 0 else 6
def erP (p : Pt) (zs : List Int) : Pt :=
  if erE zs = 0 then (if (ptH zs).proto = 1 then { p with er := true, inn := ptH zs, sp := G16 (erC zs) 4, dp := G16 (erC zs) 4 } else { p with er := true, inn := ptH zs, sp := G16 (erC zs) 0, dp := G16 (erC zs) 2 }) else pt0

theorem ptE_zero (zs : List Int) (h : ptE zs = 0) : rdE zs 65535 = 0 ∧ ptH zs = fld zs := by
  have h' := h
  unfold ptE at h
  split at h
  · rename_i hh; exact absurd h hh
  · rename_i hh
    exact ⟨by simpa using hh, by unfold ptH; rw [if_pos h']⟩
theorem ptE_range (zs : List Int) : 0 ≤ ptE zs ∧ ptE zs ≤ 5 := by
  have := rdE_range zs 65535
  unfold ptE; split
  · omega
  · split <;> omega
set_option maxHeartbeats 8000000 in
theorem getError_any (p0 p1 p2 p3 p4 p5 : Int) (p6 : Bool) (d0 d1 d2 d3 d4 d5 p7 : Int) (p8 : Bool) (A : Option Addr) (n c : Nat) (zs : List Int) (w : World) (hn : zs.length = n) (hnc : n ≤ c) (hl : n ≤ 1000000) (hR : Rd w A zs) :
    Calls Try.prog 94 #[.agg #[.int .i64 p0, .int .u16 p1, .int .u16 p2, .int .i64 p3, .int .i64 p4, .int .i64 p5, .bool p6, .int .i64 d0, .int .i64 d1, .int .i64 d2, .int .i64 d3, .int .u32 d4, .int .u32 d5, .int .i64 p7, .bool p8], .slice A n c] w fun e w' => e = .returned (.tuple #[(erP ⟨p0, p1, p2, p3, p4, p5, p6, ⟨d0, d1, d2, d3, d4, d5⟩, p7, p8⟩ zs).val, .int .i64 (erE zs)]) ∧ Below w.heap.size w w' := by
  have HR := Lib.hid hR
  have Hn := Lib.hid hn
  have rE := ptE_range zs
  clear hR hn
  go_enter Try.func94, Try.ntmps94
  go_upto_region 1 with fail
  obtain ⟨w1, hw1⟩ : ∃ w1, w1 = (w.alloc (.cells #[.int .i64 p0, .int .u16 p1, .int .u16 p2, .int .i64 p3, .int .i64 p4, .int .i64 p5, .bool p6, .int .i64 d0, .int .i64 d1, .int .i64 d2, .int .i64 d3, .int .u32 d4, .int .u32 d5, .int .i64 p7, .bool p8] 107)).alloc (.cells #[.int .i64 0, .int .u16 0, .int .u16 0, .int .i64 0, .int .i64 0, .int .i64 0, .bool false, .int .i64 0, .int .i64 0, .int .i64 0, .int .i64 0, .int .u32 0, .int .u32 0, .int .i64 0, .bool false] 107) := ⟨_, rfl⟩
  have HBh := Lib.hid (show Blk w1 w.heap.size 107 #[.int .i64 p0, .int .u16 p1, .int .u16 p2, .int .i64 p3, .int .i64 p4, .int .i64 p5, .bool p6, .int .i64 d0, .int .i64 d1, .int .i64 d2, .int .i64 d3, .int .u32 d4, .int .u32 d5, .int .i64 p7, .bool p8] by rw [hw1]; exact (Blk.new w _ _).alloc _)
  have hbr : Blk w1 (w.heap.size + 1) 107 #[.int .i64 0, .int .u16 0, .int .u16 0, .int .i64 0, .int .i64 0, .int .i64 0, .bool false, .int .i64 0, .int .i64 0, .int .i64 0, .int .i64 0, .int .u32 0, .int .u32 0, .int .i64 0, .bool false] := by rw [hw1]; have := Blk.new (w.alloc (.cells #[.int .i64 p0, .int .u16 p1, .int .u16 p2, .int .i64 p3, .int .i64 p4, .int .i64 p5, .bool p6, .int .i64 d0, .int .i64 d1, .int .i64 d2, .int .i64 d3, .int .u32 d4, .int .u32 d5, .int .i64 p7, .bool p8] 107)) 107 #[.int .i64 0, .int .u16 0, .int .u16 0, .int .i64 0, .int .i64 0, .int .i64 0, .bool false, .int .i64 0, .int .i64 0, .int .i64 0, .int .i64 0, .int .u32 0, .int .u32 0, .int .i64 0, .bool false]; rwa [World.size_alloc] at this
  have HB1 := Lib.hid (show Below w.heap.size w w1 by rw [hw1]; exact bthen (ball _ _) (ball _ _))
  have HR1 := Lib.hid (HR.out.below HB1.out)
  rw [← hw1]
  clear hw1
  obtain ⟨gr, hgr⟩ : ∃ gr, gr = w.heap.size + 1 := ⟨_, rfl⟩
  have hgl : w.heap.size ≤ gr := by omega
  have hgn : ¬ w.heap.size = gr := by omega
  have hgn2 : ¬ gr = w.heap.size := by omega
  rw [← hgr] at hbr
  rw [← hgr]
  have HBr := Lib.hid hbr
  have hgw := hbr.lt
  clear hgr hbr
  go_wp2_with fail
  refine (part_any A n c zs _ Hn.out hl HR1.out).mono ?_
  rintro e w2 ⟨rfl, hb2⟩
  obtain ⟨hd, hhd⟩ : ∃ hd, hd = ptH zs := ⟨_, rfl⟩
  obtain ⟨pe, hpe⟩ : ∃ pe, pe = ptE zs := ⟨_, rfl⟩
  rw [← hhd, ← hpe]
  rw [← hpe] at rE
  obtain ⟨i0, i1, i2, i3, i4, i5⟩ := hd
  rw [show (Hd.mk i0 i1 i2 i3 i4 i5).val = .agg #[.int .i64 i0, .int .i64 i1, .int .i64 i2, .int .i64 i3, .int .u32 i4, .int .u32 i5] from rfl]
  have HB2 := Lib.hid (bthen HB1.out hb2)
  have HBr2 := Lib.hid (HBr.out.below hb2)
  have HBh2 := Lib.hid (HBh.out.below hb2)
  have hs2 : gr < w2.heap.size := HBr2.out.lt
  have Hh := Lib.hid hhd
  have Hp := Lib.hid hpe
  clear hb2 hhd hpe
  by_cases hz : pe = 0
  · have ez : (pe != 0) = false := by simp [hz]
    have hpz : ptE zs = 0 := by rw [← Hp.out]; exact hz
    obtain ⟨hrd, hfl⟩ := ptE_zero zs hpz
    obtain ⟨q0, q1, q2, q3, q4, q5⟩ := rdE_zero zs 65535 hrd
    rw [← hfl, ← Hh.out] at q2 q3 q4 q5
    rw [Hn.out] at q0 q3
    simp only at q2 q3 q4 q5
    obtain ⟨sz, rfl⟩ : ∃ sz : Nat, i0 = (sz : Int) := ⟨i0.toNat, by omega⟩
    have HE := Lib.hid (show erE zs = if (n : Int) - (sz : Int) < 8 ∨ i1 - (sz : Int) < 8 then 3 else if i3 = 17 ∨ i3 = 6 then 0 else if i3 = 1 ∧ ((zs.drop sz).getD 0 0 = 0 ∨ (zs.drop sz).getD 0 0 = 8) then 0 else 6 by
      unfold erE erC; rw [hpz, if_neg (by decide), Hn.out, ← Hh.out]; rfl)
    have HP := Lib.hid (fun (hh : erE zs = 0) => show erP ⟨p0, p1, p2, p3, p4, p5, p6, ⟨d0, d1, d2, d3, d4, d5⟩, p7, p8⟩ zs = if i3 = 1 then ⟨p0, G16 (zs.drop sz) 4, G16 (zs.drop sz) 4, p3, p4, p5, true, ⟨sz, i1, i2, i3, i4, i5⟩, p7, p8⟩ else ⟨p0, G16 (zs.drop sz) 0, G16 (zs.drop sz) 2, p3, p4, p5, true, ⟨sz, i1, i2, i3, i4, i5⟩, p7, p8⟩ by
      unfold erP erC; rw [if_pos hh, ← Hh.out]; rfl)
    have HP0 := Lib.hid (fun (hh : erE zs ≠ 0) => show (erP ⟨p0, p1, p2, p3, p4, p5, p6, ⟨d0, d1, d2, d3, d4, d5⟩, p7, p8⟩ zs).val = .agg #[.int .i64 0, .int .u16 0, .int .u16 0, .int .i64 0, .int .i64 0, .int .i64 0, .bool false, .int .i64 0, .int .i64 0, .int .i64 0, .int .i64 0, .int .u32 0, .int .u32 0, .int .i64 0, .bool false] by unfold erP; rw [if_neg hh]; rfl)
    obtain rfl : pe = 0 := hz
    clear hpz hrd hfl
    go_upto_region 4 with fail
    have HBi := Lib.hid (Blk.new w2 103 #[.int .i64 (sz : Int), .int .i64 i1, .int .i64 i2, .int .i64 i3, .int .u32 i4, .int .u32 i5])
    have HBr3 := Lib.hid (HBr2.out.alloc (.cells #[.int .i64 (sz : Int), .int .i64 i1, .int .i64 i2, .int .i64 i3, .int .u32 i4, .int .u32 i5] 103))
    have HBh3 := Lib.hid (HBh2.out.alloc (.cells #[.int .i64 (sz : Int), .int .i64 i1, .int .i64 i2, .int .i64 i3, .int .u32 i4, .int .u32 i5] 103))
    have HB3 := Lib.hid (bthen HB2.out (ball w2 (.cells #[.int .i64 (sz : Int), .int .i64 i1, .int .i64 i2, .int .i64 i3, .int .u32 i4, .int .u32 i5] 103)))
    have hpl : w.heap.size ≤ w2.heap.size := HB2.out.size
    have np1 : gr ≠ w2.heap.size := by omega
    have np2 : w2.heap.size ≠ w.heap.size := by omega
    generalize w2.alloc (.cells #[.int .i64 (sz : Int), .int .i64 i1, .int .i64 i2, .int .i64 i3, .int .u32 i4, .int .u32 i5] 103) = w3 at *
    generalize w2.heap.size = p at *
    have k0 : w3.cell? ⟨p, 0, none⟩ = some (.int .i64 (sz : Int)) := HBi.out.cell 0
    have k1 : w3.cell? ⟨p, 1, none⟩ = some (.int .i64 i1) := HBi.out.cell 1
    by_cases hn8 : (n : Int) - (sz : Int) < 8
    · have dn8 : decide ((n : Int) - (sz : Int) < 8) = true := by simp; omega
      have he := Lib.hid (show erE zs = 3 by rw [HE.out, if_pos (.inl hn8)])
      have hh := Lib.hid (HP0.out (by rw [he.out]; decide))
      go_wp2_with (first | ((with_reducible refine gd_st 107 4 ?_); refine wpList_st rfl 107 (.tmp 4) _ rfl _ _ rfl _ rfl (HBr3.out) sPart.2 (#[.int .i64 0, .int .u16 0, .int .u16 0, .int .i64 0, .int .i64 0, .int .i64 0, .bool false, .int .i64 0, .int .i64 0, .int .i64 0, .int .i64 0, .int .u32 0, .int .u32 0, .int .i64 0, .bool false]) rfl (Nat.le_of_ble_eq_true rfl) rfl ?_; intro w9 hb9 hg9 hs9))
      rw [he.out, hh.out]
      exact bodyPost_ret (res_cell2 Try.results94 _ _ _ rfl rfl hb9 sPart) rfl ⟨rfl, bgrown (HB3.out) hg9 hgl⟩
    · have dn8 : decide ((n : Int) - (sz : Int) < 8) = false := by simp; omega
      by_cases hl8 : i1 - (sz : Int) < 8
      · have dl8 : decide (i1 - (sz : Int) < 8) = true := by simp; omega
        have he := Lib.hid (show erE zs = 3 by rw [HE.out, if_pos (.inr hl8)])
        have hh := Lib.hid (HP0.out (by rw [he.out]; decide))
        go_wp2_with (first | ((with_reducible refine gd_st 107 4 ?_); refine wpList_st rfl 107 (.tmp 4) _ rfl _ _ rfl _ rfl (HBr3.out) sPart.2 (#[.int .i64 0, .int .u16 0, .int .u16 0, .int .i64 0, .int .i64 0, .int .i64 0, .bool false, .int .i64 0, .int .i64 0, .int .i64 0, .int .i64 0, .int .u32 0, .int .u32 0, .int .i64 0, .bool false]) rfl (Nat.le_of_ble_eq_true rfl) rfl ?_; intro w9 hb9 hg9 hs9))
        rw [he.out, hh.out]
        exact bodyPost_ret (res_cell2 Try.results94 _ _ _ rfl rfl hb9 sPart) rfl ⟨rfl, bgrown (HB3.out) hg9 hgl⟩
      · have dl8 : decide (i1 - (sz : Int) < 8) = false := by simp; omega
        have HE2 := Lib.hid (show erE zs = if i3 = 17 ∨ i3 = 6 then 0 else if i3 = 1 ∧ ((zs.drop sz).getD 0 0 = 0 ∨ (zs.drop sz).getD 0 0 = 8) then 0 else 6 by rw [HE.out, if_neg (by omega)])
        clear HE
        obtain ⟨b, off, rfl, hc⟩ := HR.out.2 (by rw [Hn.out]; omega)
        have isz : (sz : Int) ≤ (n : Int) := by omega
        go_upto_region 9 with (first | ((with_reducible refine gd_st 4 33 ?_); refine wpList_st rfl 4 (.tmp 33) _ rfl _ _ rfl _ rfl (HBh3.out) sBool (#[.int .i64 p0, .int .u16 p1, .int .u16 p2, .int .i64 p3, .int .i64 p4, .int .i64 p5, .bool true, .int .i64 d0, .int .i64 d1, .int .i64 d2, .int .i64 d3, .int .u32 d4, .int .u32 d5, .int .i64 p7, .bool p8]) rfl (Nat.le_of_ble_eq_true rfl) rfl ?_; intro w4 hb4 hg4 hs4) | ((with_reducible refine gd_ld 103 6 ?_); refine wpList_ld rfl 103 (.tmp 6) rfl _ rfl (HBi.out.grown hg4 np2) sHead ?_) | ((with_reducible refine gd_st 103 35 ?_); refine wpList_st rfl 103 (.tmp 35) _ rfl _ _ rfl _ rfl (hb4) sHead.2 (#[.int .i64 p0, .int .u16 p1, .int .u16 p2, .int .i64 p3, .int .i64 p4, .int .i64 p5, .bool true, .int .i64 (sz : Int), .int .i64 i1, .int .i64 i2, .int .i64 i3, .int .u32 i4, .int .u32 i5, .int .i64 p7, .bool p8]) rfl (Nat.le_of_ble_eq_true rfl) rfl ?_; intro w5 hb5 hg5 hs5; have k0' : w5.cell? ⟨p, 0, none⟩ = some (.int .i64 (sz : Int)) := ((HBi.out.grown hg4 np2).grown hg5 np2).cell 0; have k3' : w5.cell? ⟨p, 3, none⟩ = some (.int .i64 i3) := ((HBi.out.grown hg4 np2).grown hg5 np2).cell 3))
        have HB5 := Lib.hid (bgrown (bgrown HB3.out hg4 (Nat.le_refl _)) hg5 (Nat.le_refl _))
        have HBr5 := Lib.hid ((HBr3.out.grown hg4 hgn2).grown hg5 hgn2)
        have HBh5 := Lib.hid hb5
        have HRd := Lib.hid ((HR.out.below HB5.out).dropAt sz)
        have Hdl := Lib.hid (show (zs.drop sz).length = n - sz by rw [List.length_drop, Hn.out])
        have hm8 : 8 ≤ n - sz := by omega
        have hml : n - sz ≤ 1000000 := by omega
        clear hb4 hg4 hs4 hb5 hg5 hs5 hc k0 k1 k0' dn8 dl8
        obtain ⟨ys, hys⟩ : ∃ ys, ys = zs.drop sz := ⟨_, rfl⟩
        rw [← hys] at HRd Hdl HE2 HP
        obtain ⟨m, hm⟩ : ∃ m, m = n - sz := ⟨_, rfl⟩
        rw [← hm] at Hdl hm8 hml
        rw [← hm]
        have yb := HRd.out.1.getD 0
        clear hm hys
        by_cases h17 : i3 = 17
        · have e17 : (i3 == 17) = true := by simp [h17]
          have he := Lib.hid (show erE zs = 0 by rw [HE2.out, if_pos (.inl h17)])
          have hh := Lib.hid (show (erP ⟨p0, p1, p2, p3, p4, p5, p6, ⟨d0, d1, d2, d3, d4, d5⟩, p7, p8⟩ zs).val = .agg #[.int .i64 p0, .int .u16 (G16 ys 0), .int .u16 (G16 ys 2), .int .i64 p3, .int .i64 p4, .int .i64 p5, .bool true, .int .i64 (sz : Int), .int .i64 i1, .int .i64 i2, .int .i64 i3, .int .u32 i4, .int .u32 i5, .int .i64 p7, .bool p8] by rw [HP.out he.out, if_neg (by omega)]; rfl)
          clear h17
          go_wp2_with (first | ((with_reducible refine gd_ld 107 2 ?_); refine wpList_ld rfl 107 (.tmp 2) rfl _ rfl (HBh5.out) sPart ?_) | fail)
          refine (withPorts_any p0 p1 p2 p3 p4 p5 true (sz : Int) i1 i2 i3 i4 i5 p7 p8 _ m (c - sz) ys _ Hdl.out (by omega) hml HRd.out).mono ?_
          rintro e w6 ⟨rfl, hb6⟩
          have HB6 := Lib.hid (bthen HB5.out hb6)
          have HBr6 := Lib.hid (HBr5.out.below hb6)
          clear hb6
          go_wp2_with (first | ((with_reducible refine gd_st 107 4 ?_); refine wpList_st rfl 107 (.tmp 4) _ rfl _ _ rfl _ rfl (HBr6.out) sPart.2 (#[.int .i64 p0, .int .u16 (G16 ys 0), .int .u16 (G16 ys 2), .int .i64 p3, .int .i64 p4, .int .i64 p5, .bool true, .int .i64 (sz : Int), .int .i64 i1, .int .i64 i2, .int .i64 i3, .int .u32 i4, .int .u32 i5, .int .i64 p7, .bool p8]) rfl (Nat.le_of_ble_eq_true rfl) rfl ?_; intro w9 hb9 hg9 hs9))
          rw [he.out, hh.out]
          exact bodyPost_ret (res_cell2 Try.results94 _ _ _ rfl rfl hb9 sPart) rfl ⟨rfl, bgrown (HB6.out) hg9 hgl⟩
        · have e17 : (i3 == 17) = false := by simp [h17]
          by_cases h6 : i3 = 6
          · have e6 : (i3 == 6) = true := by simp [h6]
            have he := Lib.hid (show erE zs = 0 by rw [HE2.out, if_pos (.inr h6)])
            have hh := Lib.hid (show (erP ⟨p0, p1, p2, p3, p4, p5, p6, ⟨d0, d1, d2, d3, d4, d5⟩, p7, p8⟩ zs).val = .agg #[.int .i64 p0, .int .u16 (G16 ys 0), .int .u16 (G16 ys 2), .int .i64 p3, .int .i64 p4, .int .i64 p5, .bool true, .int .i64 (sz : Int), .int .i64 i1, .int .i64 i2, .int .i64 i3, .int .u32 i4, .int .u32 i5, .int .i64 p7, .bool p8] by rw [HP.out he.out, if_neg (by omega)]; rfl)
            clear h6
            go_wp2_with (first | ((with_reducible refine gd_ld 107 2 ?_); refine wpList_ld rfl 107 (.tmp 2) rfl _ rfl (HBh5.out) sPart ?_) | fail)
            refine (withPorts_any p0 p1 p2 p3 p4 p5 true (sz : Int) i1 i2 i3 i4 i5 p7 p8 _ m (c - sz) ys _ Hdl.out (by omega) hml HRd.out).mono ?_
            rintro e w6 ⟨rfl, hb6⟩
            have HB6 := Lib.hid (bthen HB5.out hb6)
            have HBr6 := Lib.hid (HBr5.out.below hb6)
            clear hb6
            go_wp2_with (first | ((with_reducible refine gd_st 107 4 ?_); refine wpList_st rfl 107 (.tmp 4) _ rfl _ _ rfl _ rfl (HBr6.out) sPart.2 (#[.int .i64 p0, .int .u16 (G16 ys 0), .int .u16 (G16 ys 2), .int .i64 p3, .int .i64 p4, .int .i64 p5, .bool true, .int .i64 (sz : Int), .int .i64 i1, .int .i64 i2, .int .i64 i3, .int .u32 i4, .int .u32 i5, .int .i64 p7, .bool p8]) rfl (Nat.le_of_ble_eq_true rfl) rfl ?_; intro w9 hb9 hg9 hs9))
            rw [he.out, hh.out]
            exact bodyPost_ret (res_cell2 Try.results94 _ _ _ rfl rfl hb9 sPart) rfl ⟨rfl, bgrown (HB6.out) hg9 hgl⟩
          · have e6 : (i3 == 6) = false := by simp [h6]
            by_cases h1 : i3 = 1
            · have e1 : (i3 == 1) = true := by simp [h1]
              have cz : w5.cell? ⟨b, off + sz, none⟩ = some (.int .u8 (ys.getD 0 0)) := by
                obtain ⟨b', off', e, hc'⟩ := HRd.out.2 (by rw [Hdl.out]; omega)
                injection e with e; injection e with e1 e2; subst e1 e2
                exact hc' 0 (by rw [Hdl.out]; omega)
              have im : 0 < m := by omega
              have HE3 := Lib.hid (show erE zs = if ys.getD 0 0 = 0 ∨ ys.getD 0 0 = 8 then 0 else 6 by
                rw [HE2.out, if_neg (by omega)]; simp only [h1, true_and])
              have HP1 := Lib.hid h1
              generalize ys.getD 0 0 = y0 at *
              clear h1
              go_wp2_with fail
              refine (isEcho_any y0 _ yb.1 yb.2).mono ?_
              rintro e w' ⟨rfl, rfl⟩
              by_cases hy : y0 = 0 ∨ y0 = 8
              · have ey : decide (y0 = 0 ∨ y0 = 8) = true := by simp [hy]
                have he := Lib.hid (show erE zs = 0 by rw [HE3.out, if_pos hy])
                have hh := Lib.hid (show (erP ⟨p0, p1, p2, p3, p4, p5, p6, ⟨d0, d1, d2, d3, d4, d5⟩, p7, p8⟩ zs).val = .agg #[.int .i64 p0, .int .u16 (G16 ys 4), .int .u16 (G16 ys 4), .int .i64 p3, .int .i64 p4, .int .i64 p5, .bool true, .int .i64 (sz : Int), .int .i64 i1, .int .i64 i2, .int .i64 i3, .int .u32 i4, .int .u32 i5, .int .i64 p7, .bool p8] by rw [HP.out he.out, if_pos HP1.out]; rfl)
                clear hy
                go_wp2_with (first | ((with_reducible refine gd_ld 107 2 ?_); refine wpList_ld rfl 107 (.tmp 2) rfl _ rfl (HBh5.out) sPart ?_) | fail)
                refine (withNumber_any p0 p1 p2 p3 p4 p5 true (sz : Int) i1 i2 i3 i4 i5 p7 p8 _ m (c - sz) ys _ Hdl.out (by omega) hml HRd.out).mono ?_
                rintro e w6 ⟨rfl, hb6⟩
                have HB6 := Lib.hid (bthen HB5.out hb6)
                have HBr6 := Lib.hid (HBr5.out.below hb6)
                clear hb6
                go_wp2_with (first | ((with_reducible refine gd_st 107 4 ?_); refine wpList_st rfl 107 (.tmp 4) _ rfl _ _ rfl _ rfl (HBr6.out) sPart.2 (#[.int .i64 p0, .int .u16 (G16 ys 4), .int .u16 (G16 ys 4), .int .i64 p3, .int .i64 p4, .int .i64 p5, .bool true, .int .i64 (sz : Int), .int .i64 i1, .int .i64 i2, .int .i64 i3, .int .u32 i4, .int .u32 i5, .int .i64 p7, .bool p8]) rfl (Nat.le_of_ble_eq_true rfl) rfl ?_; intro w9 hb9 hg9 hs9))
                rw [he.out, hh.out]
                exact bodyPost_ret (res_cell2 Try.results94 _ _ _ rfl rfl hb9 sPart) rfl ⟨rfl, bgrown (HB6.out) hg9 hgl⟩
              · have ey : decide (y0 = 0 ∨ y0 = 8) = false := by simp [hy]
                have he := Lib.hid (show erE zs = 6 by rw [HE3.out, if_neg hy])
                have hh := Lib.hid (HP0.out (by rw [he.out]; decide))
                clear hy
                go_wp2_with (first | ((with_reducible refine gd_st 107 4 ?_); refine wpList_st rfl 107 (.tmp 4) _ rfl _ _ rfl _ rfl (HBr5.out) sPart.2 (#[.int .i64 0, .int .u16 0, .int .u16 0, .int .i64 0, .int .i64 0, .int .i64 0, .bool false, .int .i64 0, .int .i64 0, .int .i64 0, .int .i64 0, .int .u32 0, .int .u32 0, .int .i64 0, .bool false]) rfl (Nat.le_of_ble_eq_true rfl) rfl ?_; intro w9 hb9 hg9 hs9))
                rw [he.out, hh.out]
                exact bodyPost_ret (res_cell2 Try.results94 _ _ _ rfl rfl hb9 sPart) rfl ⟨rfl, bgrown (HB5.out) hg9 hgl⟩
            · have e1 : (i3 == 1) = false := by simp [h1]
              have he := Lib.hid (show erE zs = 6 by rw [HE2.out, if_neg (by omega), if_neg (fun h => h1 h.1)])
              have hh := Lib.hid (HP0.out (by rw [he.out]; decide))
              clear h1 h6 h17
              go_wp2_with (first | ((with_reducible refine gd_st 107 4 ?_); refine wpList_st rfl 107 (.tmp 4) _ rfl _ _ rfl _ rfl (HBr5.out) sPart.2 (#[.int .i64 0, .int .u16 0, .int .u16 0, .int .i64 0, .int .i64 0, .int .i64 0, .bool false, .int .i64 0, .int .i64 0, .int .i64 0, .int .i64 0, .int .u32 0, .int .u32 0, .int .i64 0, .bool false]) rfl (Nat.le_of_ble_eq_true rfl) rfl ?_; intro w9 hb9 hg9 hs9))
              rw [he.out, hh.out]
              exact bodyPost_ret (res_cell2 Try.results94 _ _ _ rfl rfl hb9 sPart) rfl ⟨rfl, bgrown (HB5.out) hg9 hgl⟩
  · have ez : (pe != 0) = true := by simp [hz]
    have he := Lib.hid (show erE zs = pe by unfold erE; rw [if_pos (by rw [← Hp.out]; exact hz), Hp.out])
    have hh := Lib.hid (show (erP ⟨p0, p1, p2, p3, p4, p5, p6, ⟨d0, d1, d2, d3, d4, d5⟩, p7, p8⟩ zs).val = .agg #[.int .i64 0, .int .u16 0, .int .u16 0, .int .i64 0, .int .i64 0, .int .i64 0, .bool false, .int .i64 0, .int .i64 0, .int .i64 0, .int .i64 0, .int .u32 0, .int .u32 0, .int .i64 0, .bool false] by unfold erP; rw [if_neg (by rw [he.out]; exact hz)]; rfl)
    go_wp2_with (first | ((with_reducible refine gd_st 107 4 ?_); refine wpList_st rfl 107 (.tmp 4) _ rfl _ _ rfl _ rfl (HBr2.out.alloc _) sPart.2 (#[.int .i64 0, .int .u16 0, .int .u16 0, .int .i64 0, .int .i64 0, .int .i64 0, .bool false, .int .i64 0, .int .i64 0, .int .i64 0, .int .i64 0, .int .u32 0, .int .u32 0, .int .i64 0, .bool false]) rfl (Nat.le_of_ble_eq_true rfl) rfl ?_; intro w9 hb9 hg9 hs9))
    rw [he.out, hh.out]
    exact bodyPost_ret (res_cell2 Try.results94 _ _ _ rfl rfl hb9 sPart) rfl ⟨rfl, bgrown (bthen HB2.out (ball _ _)) hg9 hgl⟩
end Go.Proofs.Ytbnlpidhbilenaa
