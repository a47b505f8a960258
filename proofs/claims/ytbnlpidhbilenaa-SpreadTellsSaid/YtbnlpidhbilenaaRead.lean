/-
  Contract of head.read: the head that bytes begin with, or the error. Conditions: at most 1000000 bytes.
-/
import Derived.Test.YtbnlpidhbilenaaHead
namespace Go.Proofs.Ytbnlpidhbilenaa
open Go.RowKit Plain
set_option linter.unusedVariables false
set_option maxRecDepth 100000

/-- the error that read tells -/
def rdE (zs : List Int) (most : Int) : Int :=
  if zs.length < 20 then 2 else if zs.getD 0 0 / 16 ≠ 4 then 3 else if (fld zs).size < 20 then 3 else if (zs.length : Int) < (fld zs).size then 2
  else if (fld zs).len < (fld zs).size then 3 else if most < (fld zs).len then 3 else 0
def rdH (zs : List Int) (most : Int) : Hd := if rdE zs most = 0 then fld zs else hd0

/-- six cells of a head in a block that is known whole -/
def hcells (h : Hd) : Array Value := #[.int .i64 h.size, .int .i64 h.len, .int .i64 h.ttl, .int .i64 h.proto, .int .u32 h.src, .int .u32 h.dst]

def zeroH : Array Value := #[.int .i64 0, .int .i64 0, .int .i64 0, .int .i64 0, .int .u32 0, .int .u32 0]

set_option maxHeartbeats 2000000 in
theorem read_any (A : Option Addr) (n c : Nat) (zs : List Int) (most : Int) (w : World) (hn : zs.length = n) (hl : n ≤ 1000000) (hR : Rd w A zs) (hm0 : 0 ≤ most) (hm1 : most ≤ 1000000) :
    Calls Try.prog 63 #[.slice A n c, .int .i64 most] w fun e w' => e = .returned (.tuple #[(rdH zs most).val, .int .i64 (rdE zs most)]) ∧ Below w.heap.size w w' := by
  by_cases h20 : n < 20
  · have he := Lib.hid (show rdE zs most = 2 by unfold rdE; rw [if_pos (by omega)])
    have hh := Lib.hid (show (rdH zs most).val = .agg #[.int .i64 0, .int .i64 0, .int .i64 0, .int .i64 0, .int .u32 0, .int .u32 0] by unfold rdH; rw [he.out, if_neg (by decide)]; rfl)
    have i0 : (n : Int) < 20 := by omega
    clear hR hn
    go_enter Try.func63, Try.ntmps63
    go_wp2
    rw [he.out, hh.out]
    refine bodyPost_ret (v := .tuple #[.agg #[.int .i64 0, .int .i64 0, .int .i64 0, .int .i64 0, .int .u32 0, .int .u32 0], .int .i64 2]) (by simp [results, Try.results63, go_sem]) rfl ⟨rfl, ?_⟩
    exact (Below.refl _ _).alloc (Nat.le_refl _) _
  · have i0 : ¬ (n : Int) < 20 := by omega
    have hf := fields_any A n c zs _ hn (by omega) hl (hR.alloc (.cells #[.int .i64 0, .int .i64 0, .int .i64 0, .int .i64 0, .int .u32 0, .int .u32 0] 103))
    obtain ⟨b, off, rfl, hc⟩ := hR.2 (by omega)
    have c0 : w.cell? ⟨b, off, none⟩ = some (.int .u8 (zs.getD 0 0)) := hc 0 (by omega)
    have hlt : b < w.heap.size := block_lt_of_cell c0
    have b0 := hR.1.getD 0
    obtain ⟨hd, hhd⟩ : ∃ hd, hd = fld zs := ⟨_, rfl⟩
    rw [← hhd] at hf
    have r2 := G16_range zs hR.1 2
    have hs : 0 ≤ hd.size ∧ hd.size ≤ 60 := by rw [hhd]; simp only [fld]; omega
    have hle : 0 ≤ hd.len ∧ hd.len ≤ 65535 := by rw [hhd]; exact r2
    have HF := Lib.hid hf
    have i1 : 0 < n := by omega
    have HE := Lib.hid (show rdE zs most = if zs.getD 0 0 / 16 ≠ 4 then 3 else if hd.size < 20 then 3 else if (n : Int) < hd.size then 2 else if hd.len < hd.size then 3 else if most < hd.len then 3 else 0 by
      unfold rdE; rw [if_neg (by omega), hn, ← hhd])
    have HH := Lib.hid (show rdH zs most = if rdE zs most = 0 then hd else hd0 by unfold rdH; rw [← hhd])
    generalize zs.getD 0 0 = z0 at *
    obtain ⟨d0, d1, d2, d3, d4, d5⟩ := hd
    simp only at hs hle
    clear hf hc hR hn hhd r2
    go_enter Try.func63, Try.ntmps63
    go_wp2_with fail
    refine HF.out.mono ?_
    rintro e w1 ⟨rfl, hb1⟩
    rw [show (Hd.mk d0 d1 d2 d3 d4 d5).val = .agg #[.int .i64 d0, .int .i64 d1, .int .i64 d2, .int .i64 d3, .int .u32 d4, .int .u32 d5] from rfl]
    have bk := (Blk.new w 103 #[.int .i64 0, .int .i64 0, .int .i64 0, .int .i64 0, .int .u32 0, .int .u32 0]).below hb1
    have hs1 : w.heap.size + 1 ≤ w1.heap.size := by have := hb1.size; simpa using this
    have cz : w1.cell? ⟨b, off, none⟩ = some (.int .u8 z0) := (hb1.cell (p := ⟨b, off, none⟩) (by simp; omega)).trans ((World.cell?_alloc_lt w _ ⟨b, off, none⟩ hlt).trans c0)
    have Hbk := Lib.hid bk
    have Hb1 := Lib.hid (show Below w.heap.size w w1 from ((Below.refl _ _).alloc (Nat.le_refl _) _).trans (hb1.mono (by simp)))
    have Hcz := Lib.hid cz
    clear hb1 bk c0 cz
    go_upto_region 4 with fail
    obtain ⟨w2, hw2⟩ : ∃ w2, w2 = w1.alloc (.cells #[.int .i64 d0, .int .i64 d1, .int .i64 d2, .int .i64 d3, .int .u32 d4, .int .u32 d5] 103) := ⟨_, rfl⟩
    rw [← hw2]
    have bk2 : Blk w2 w.heap.size 103 #[.int .i64 0, .int .i64 0, .int .i64 0, .int .i64 0, .int .u32 0, .int .u32 0] := by rw [hw2]; exact Hbk.out.alloc _
    have bh2 : Blk w2 w1.heap.size 103 #[.int .i64 d0, .int .i64 d1, .int .i64 d2, .int .i64 d3, .int .u32 d4, .int .u32 d5] := by rw [hw2]; exact Blk.new w1 _ _
    have cz : w2.cell? ⟨b, off, none⟩ = some (.int .u8 z0) := by rw [hw2]; exact (World.cell?_alloc_lt w1 _ ⟨b, off, none⟩ (show b < w1.heap.size by omega)).trans Hcz.out
    have Hb2 := Lib.hid (show Below w.heap.size w w2 by rw [hw2]; exact Hb1.out.alloc Hb1.out.size _)
    have k0 := bk2.cell 0
    have k1 := bk2.cell 1
    have k2 := bk2.cell 2
    have k3 := bk2.cell 3
    have k4 := bk2.cell 4
    have k5 := bk2.cell 5
    have f0 := bk2.frozen 0
    have f1 := bk2.frozen 1
    have f2 := bk2.frozen 2
    have f3 := bk2.frozen 3
    have f4 := bk2.frozen 4
    have f5 := bk2.frozen 5
    have m0 := bh2.cell 0
    have m1 := bh2.cell 1
    have m2 := bh2.cell 2
    have m3 := bh2.cell 3
    have m4 := bh2.cell 4
    have m5 := bh2.cell 5
    simp only [List.getElem?_toArray, List.getElem?_cons_zero, List.getElem?_cons_succ] at k0 k1 k2 k3 k4 k5 m0 m1 m2 m3 m4 m5
    have hne : ¬ w.heap.size = w1.heap.size := by omega
    clear bk2 bh2 hw2 Hbk Hb1 Hcz
    generalize w1.heap.size = p at *
    by_cases h4 : z0 / 16 = 4
    · have t4 : (z0 / 16 != 4) = false := by simp [h4]
      by_cases hs20 : d0 < 20
      · have he := Lib.hid (show rdE zs most = 3 by rw [HE.out, if_neg (by simp [h4]), if_pos hs20])
        have hh := Lib.hid (show (rdH zs most).val = .agg #[.int .i64 0, .int .i64 0, .int .i64 0, .int .i64 0, .int .u32 0, .int .u32 0] by rw [HH.out, he.out, if_neg (by decide)]; rfl)
        have H4 := Lib.hid h4
        clear h4
        go_wp2
        rw [he.out, hh.out]
        refine bodyPost_ret (v := .tuple #[.agg #[.int .i64 0, .int .i64 0, .int .i64 0, .int .i64 0, .int .u32 0, .int .u32 0], .int .i64 3]) (by simp [results, Try.results63, go_sem, k0, k1, k2, k3, k4, k5]) rfl ⟨rfl, ?_⟩
        exact below_set6 Hb2.out (Nat.le_refl _) _ _ _ _ _ _
      · by_cases hns : (n : Int) < d0
        · have he := Lib.hid (show rdE zs most = 2 by rw [HE.out, if_neg (by simp [h4]), if_neg hs20, if_pos hns])
          have hh := Lib.hid (show (rdH zs most).val = .agg #[.int .i64 0, .int .i64 0, .int .i64 0, .int .i64 0, .int .u32 0, .int .u32 0] by rw [HH.out, he.out, if_neg (by decide)]; rfl)
          have H4 := Lib.hid h4
          clear h4
          go_wp2
          rw [he.out, hh.out]
          refine bodyPost_ret (v := .tuple #[.agg #[.int .i64 0, .int .i64 0, .int .i64 0, .int .i64 0, .int .u32 0, .int .u32 0], .int .i64 2]) (by simp [results, Try.results63, go_sem, k0, k1, k2, k3, k4, k5]) rfl ⟨rfl, ?_⟩
          exact below_set6 Hb2.out (Nat.le_refl _) _ _ _ _ _ _
        · by_cases hl1 : d1 < d0
          · have he := Lib.hid (show rdE zs most = 3 by rw [HE.out, if_neg (by simp [h4]), if_neg hs20, if_neg hns, if_pos hl1])
            have hh := Lib.hid (show (rdH zs most).val = .agg #[.int .i64 0, .int .i64 0, .int .i64 0, .int .i64 0, .int .u32 0, .int .u32 0] by rw [HH.out, he.out, if_neg (by decide)]; rfl)
            have dl : decide (d1 < d0) = true := by simp [hl1]
            have H4 := Lib.hid h4
            clear h4
            go_wp2
            rw [he.out, hh.out]
            refine bodyPost_ret (v := .tuple #[.agg #[.int .i64 0, .int .i64 0, .int .i64 0, .int .i64 0, .int .u32 0, .int .u32 0], .int .i64 3]) (by simp [results, Try.results63, go_sem, k0, k1, k2, k3, k4, k5]) rfl ⟨rfl, ?_⟩
            exact below_set6 Hb2.out (Nat.le_refl _) _ _ _ _ _ _
          · have dl : decide (d1 < d0) = false := by simp; omega
            by_cases hl2 : most < d1
            · have he := Lib.hid (show rdE zs most = 3 by rw [HE.out, if_neg (by simp [h4]), if_neg hs20, if_neg hns, if_neg hl1, if_pos hl2])
              have hh := Lib.hid (show (rdH zs most).val = .agg #[.int .i64 0, .int .i64 0, .int .i64 0, .int .i64 0, .int .u32 0, .int .u32 0] by rw [HH.out, he.out, if_neg (by decide)]; rfl)
              have H4 := Lib.hid h4
              clear h4
              go_wp2
              rw [he.out, hh.out]
              refine bodyPost_ret (v := .tuple #[.agg #[.int .i64 0, .int .i64 0, .int .i64 0, .int .i64 0, .int .u32 0, .int .u32 0], .int .i64 3]) (by simp [results, Try.results63, go_sem, k0, k1, k2, k3, k4, k5]) rfl ⟨rfl, ?_⟩
              exact below_set6 Hb2.out (Nat.le_refl _) _ _ _ _ _ _
            · have he := Lib.hid (show rdE zs most = 0 by rw [HE.out, if_neg (by simp [h4]), if_neg hs20, if_neg hns, if_neg hl1, if_neg hl2])
              have hh := Lib.hid (show (rdH zs most).val = .agg #[.int .i64 d0, .int .i64 d1, .int .i64 d2, .int .i64 d3, .int .u32 d4, .int .u32 d5] by rw [HH.out, he.out, if_pos rfl]; rfl)
              have H4 := Lib.hid h4
              clear h4
              go_wp2
              rw [he.out, hh.out]
              refine bodyPost_ret (v := .tuple #[.agg #[.int .i64 d0, .int .i64 d1, .int .i64 d2, .int .i64 d3, .int .u32 d4, .int .u32 d5], .int .i64 0]) (by simp [results, Try.results63, go_sem, k0, k1, k2, k3, k4, k5]) rfl ⟨rfl, ?_⟩
              exact below_set6 Hb2.out (Nat.le_refl _) _ _ _ _ _ _
    · have t4 : (z0 / 16 != 4) = true := by rw [bne_iff_ne]; exact h4
      have he := Lib.hid (show rdE zs most = 3 by rw [HE.out, if_pos h4])
      have hh := Lib.hid (show (rdH zs most).val = .agg #[.int .i64 0, .int .i64 0, .int .i64 0, .int .i64 0, .int .u32 0, .int .u32 0] by rw [HH.out, he.out, if_neg (by decide)]; rfl)
      clear h4
      go_wp2
      rw [he.out, hh.out]
      refine bodyPost_ret (v := .tuple #[.agg #[.int .i64 0, .int .i64 0, .int .i64 0, .int .i64 0, .int .u32 0, .int .u32 0], .int .i64 3]) (by simp [results, Try.results63, go_sem, k0, k1, k2, k3, k4, k5]) rfl ⟨rfl, ?_⟩
      exact below_set6 Hb2.out (Nat.le_refl _) _ _ _ _ _ _
end Go.Proofs.Ytbnlpidhbilenaa
