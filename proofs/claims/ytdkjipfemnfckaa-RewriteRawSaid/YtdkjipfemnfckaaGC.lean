/-
  Several small texts in one: Head, Read, Get. Conditions stand in each theorem.
-/
import Derived.Test.YtdkjipfemnfckaaGA
import Derived.Test.YtdkjipfemnfckaaGB
import Derived.Deep.RegionHeld3
import Derived.Deep.DeepCutAuto
namespace Go.Proofs.Ytdkjipfemnfckaa
open Go.RowKit Plain
set_option linter.unusedVariables false
set_option maxRecDepth 100000

/-- a head as a value -/
structure Hd where
  size : Int
  len : Int
  ttl : Int
  proto : Int
  src : Int
  dst : Int
def Hd.val (h : Hd) : Value := .agg #[.int .i64 h.size, .int .i64 h.len, .int .i64 h.ttl, .int .i64 h.proto, .int .u32 h.src, .int .u32 h.dst]
def hd0 : Hd := ⟨0, 0, 0, 0, 0, 0⟩
/-- the head that bytes tell -/
def fld (zs : List Int) : Hd := ⟨zs.getD 0 0 % 16 * 4, G16 zs 2, zs.getD 8 0, zs.getD 9 0, G32 zs 12, G32 zs 16⟩

theorem and15 (x : Int) (h0 : 0 ≤ x) (h1 : x ≤ 255) : bits .and .u8 x 15 = x % 16 := by go_bits2

theorem Rd.ne {w : World} {b off : Nat} {zs : List Int} (h : Rd w (some ⟨b, off, none⟩) zs) {p : Addr} (hp : p.block ≠ b) (v : Value) : Rd (w.setCell p v) (some ⟨b, off, none⟩) zs :=
  ⟨h.1, fun hl => by
    obtain ⟨b', off', e, hc⟩ := h.2 hl
    injection e with e; injection e with e1 e2; subst e1 e2
    exact ⟨b, off, rfl, fun k hk => (World.cell?_setCell_other w p ⟨b, off + k, none⟩ v (fun e => hp (by rw [e]))).trans (hc k hk)⟩⟩
theorem Rd.set6 {w : World} {b off m : Nat} {zs : List Int} (h : Rd w (some ⟨b, off, none⟩) zs) (hp : m ≠ b) (v0 v1 v2 v3 v4 v5 : Value) :
    Rd ((((((w.setCell ⟨m, 0, none⟩ v0).setCell ⟨m, 1, none⟩ v1).setCell ⟨m, 2, none⟩ v2).setCell ⟨m, 3, none⟩ v3).setCell ⟨m, 4, none⟩ v4).setCell ⟨m, 5, none⟩ v5) (some ⟨b, off, none⟩) zs :=
  (((((h.ne hp v0).ne hp v1).ne hp v2).ne hp v3).ne hp v4).ne hp v5

theorem below_set6 {B : Nat} {w0 w : World} {m : Nat} (h : Below B w0 w) (hp : B ≤ m) (v0 v1 v2 v3 v4 v5 : Value) :
    Below B w0 ((((((w.setCell ⟨m, 0, none⟩ v0).setCell ⟨m, 1, none⟩ v1).setCell ⟨m, 2, none⟩ v2).setCell ⟨m, 3, none⟩ v3).setCell ⟨m, 4, none⟩ v4).setCell ⟨m, 5, none⟩ v5) :=
  (((((h.setCell (p := ⟨m, 0, none⟩) hp v0).setCell (p := ⟨m, 1, none⟩) hp v1).setCell (p := ⟨m, 2, none⟩) hp v2).setCell (p := ⟨m, 3, none⟩) hp v3).setCell (p := ⟨m, 4, none⟩) hp v4).setCell (p := ⟨m, 5, none⟩) hp v5

set_option maxHeartbeats 2000000 in
theorem fields_any (A : Option Addr) (n c : Nat) (zs : List Int) (w : World) (hn : zs.length = n) (h20 : 20 ≤ n) (hl : n ≤ 1000000) (hR : Rd w A zs) :
    Calls Try.prog 67 #[.slice A n c] w fun e w' => e = .returned (fld zs).val ∧ Below w.heap.size w w' := by
  obtain ⟨b, off, rfl, hc⟩ := hR.2 (by omega)
  have c0 : w.cell? ⟨b, off, none⟩ = some (.int .u8 (zs.getD 0 0)) := hc 0 (by omega)
  have c8 := hc 8 (by omega)
  have c9 := hc 9 (by omega)
  have b0 := hR.1.getD 0
  have b8 := hR.1.getD 8
  have b9 := hR.1.getD 9
  have r2 := G16_range zs hR.1 2
  have r12 := G32_range zs hR.1 12
  have r16 := G32_range zs hR.1 16
  have hlt := block_lt_of_cell c0
  have HR := Lib.hid hR
  have Hn := Lib.hid hn
  have Hf := Lib.hid (show (fld zs).val = .agg #[.int .i64 (zs.getD 0 0 % 16 * 4), .int .i64 (G16 zs 2), .int .i64 (zs.getD 8 0), .int .i64 (zs.getD 9 0), .int .u32 (G32 zs 12), .int .u32 (G32 zs 16)] from rfl)
  obtain ⟨z0, e0⟩ : ∃ z, z = zs.getD 0 0 := ⟨_, rfl⟩
  obtain ⟨z8, e8⟩ : ∃ z, z = zs.getD 8 0 := ⟨_, rfl⟩
  obtain ⟨z9, e9⟩ : ∃ z, z = zs.getD 9 0 := ⟨_, rfl⟩
  rw [← e0] at Hf b0
  rw [← e8] at Hf b8
  rw [← e9] at Hf b9
  have Hz := Lib.hid (And.intro e0 (And.intro e8 e9))
  clear e0 e8 e9
  have an := and15 z0 b0.1 b0.2
  have m4 : IntKind.i64.wrap (z0 % 16 * 4) = z0 % 16 * 4 := by rw [IntKind.wrap_i64]; omega
  have v0 : IntKind.i64.wrap (z0 % 16) = z0 % 16 := by rw [IntKind.wrap_i64]; omega
  have v8 : IntKind.i64.wrap z8 = z8 := by rw [IntKind.wrap_i64]; omega
  have v9 : IntKind.i64.wrap z9 = z9 := by rw [IntKind.wrap_i64]; omega
  have v2 : IntKind.i64.wrap (G16 zs 2) = G16 zs 2 := by rw [IntKind.wrap_i64]; omega
  have i0 : 0 < n := by omega
  have hne : w.heap.size ≠ b := by have : b < w.heap.size := hlt; omega
  have i8 : (8 : Int) < (n : Int) := by omega
  have i9 : (9 : Int) < (n : Int) := by omega
  have k0 : ∀ W, Rd W (some ⟨b, off, none⟩) zs → W.cell? ⟨b, off, none⟩ = some (.int .u8 z0) := fun W h => by
    obtain ⟨b', off', e, hc'⟩ := h.2 (by omega)
    injection e with e; injection e with e1 e2; subst e1 e2
    rw [Hz.out.1]; exact hc' 0 (by omega)
  have k8 : ∀ W, Rd W (some ⟨b, off, none⟩) zs → W.cell? ⟨b, off + 8, none⟩ = some (.int .u8 z8) := fun W h => by
    obtain ⟨b', off', e, hc'⟩ := h.2 (by omega)
    injection e with e; injection e with e1 e2; subst e1 e2
    rw [Hz.out.2.1]; exact hc' 8 (by omega)
  have k9 : ∀ W, Rd W (some ⟨b, off, none⟩) zs → W.cell? ⟨b, off + 9, none⟩ = some (.int .u8 z9) := fun W h => by
    obtain ⟨b', off', e, hc'⟩ := h.2 (by omega)
    injection e with e; injection e with e1 e2; subst e1 e2
    rw [Hz.out.2.2]; exact hc' 9 (by omega)
  clear hc hR hn c0 c8 c9
  go_enter Try.func67, Try.ntmps67
  go_wp2
  go_region_held3 (fun w' => Rd w' (some ⟨b, off, none⟩) zs)
    (first | (with_reducible exact (HR.out.alloc _).drew) | (with_reducible exact (HR.out.alloc _).drewN _) | (with_reducible exact Rd.set6 (by assumption) hne _ _ _ _ _ _))
    (first
      | (go_at_call 70; refine (get16_any _ n c zs 2 2 _ Hn.out rfl (by omega) hl ?_).mono ?_; assumption; rintro e w' ⟨rfl, q, rfl⟩)
      | (go_at_call_of 81 (Value.int .i64 12); refine (get32_any _ n c zs 12 12 _ Hn.out rfl (by omega) hl ?_).mono ?_; assumption; rintro e w' ⟨rfl, q, rfl⟩)
      | (go_at_call_of 81 (Value.int .i64 16); refine (get32_any _ n c zs 16 16 _ Hn.out rfl (by omega) hl ?_).mono ?_; assumption; rintro e w' ⟨rfl, q, rfl⟩))
  go_wp2
  rw [Hf.out]
  exact bodyPost_ret (v := .agg #[.int .i64 (z0 % 16 * 4), .int .i64 (G16 zs 2), .int .i64 z8, .int .i64 z9, .int .u32 (G32 zs 12), .int .u32 (G32 zs 16)]) (by simp [results, Try.results67, go_sem]) rfl
    ⟨rfl, below_set6 (below_drewN ((Below.refl _ _).alloc (Nat.le_refl _) _) _) (Nat.le_refl _) _ _ _ _ _ _⟩

theorem and3fff (x : Int) (h0 : 0 ≤ x) (h1 : x ≤ 65535) : bits .and .u16 x 16383 = x % 16384 := by go_bits2

theorem isPiece_any (A : Option Addr) (n c : Nat) (zs : List Int) (w : World) (hn : zs.length = n) (h20 : 20 ≤ n) (hl : n ≤ 1000000) (hR : Rd w A zs) :
    Calls Try.prog 49 #[.slice A n c] w fun e w' => e = .returned (.bool (G16 zs 6 % 16384 != 0)) ∧ ∃ q, w' = w.drewN q := by
  have r6 := G16_range zs hR.1 6
  have an := and3fff _ r6.1 r6.2
  have HR := Lib.hid hR
  have Hn := Lib.hid hn
  clear hR hn
  go_enter Try.func49, Try.ntmps49
  go_wp2_with fail
  refine (get16_any A n c zs 6 6 _ Hn.out rfl (by omega) hl HR.out).mono ?_
  rintro e w' ⟨rfl, q, rfl⟩
  go_wp2
  go_ret
  exact ⟨rfl, q, rfl⟩

theorem isByte_any (v : Int) (w : World) :
    Calls Try.prog 61 #[.int .i64 v] w fun e w' => e = .returned (.bool (decide (0 ≤ v ∧ v ≤ 255))) ∧ w = w' := by
  by_cases h0 : 0 ≤ v
  · have d0 : decide (0 ≤ v) = true := by simp [h0]
    go_enter Try.func61, Try.ntmps61
    go_wp2
    go_ret
    exact ⟨by first | rfl | (simp; done) | (simp [h0]; done), rfl⟩
  · have d0 : decide (0 ≤ v) = false := by simp [h0]
    go_enter Try.func61, Try.ntmps61
    go_wp2
    go_ret
    exact ⟨by first | rfl | (simp; done) | (simp [h0]; done), rfl⟩
end Go.Proofs.Ytdkjipfemnfckaa

namespace Go.Proofs.Ytdkjipfemnfckaa
open Go.RowKit Plain
set_option linter.unusedVariables false
set_option maxRecDepth 100000

/-- the error that read tells -/
def rdE (zs : List Int) (most : Int) : Int :=
  if zs.length < 20 then 2 else if zs.getD 0 0 / 16 ≠ 4 then 3 else if (fld zs).size < 20 then 3 else if (zs.length : Int) < (fld zs).size then 2
  else if (fld zs).len < (fld zs).size then 3 else if most < (fld zs).len then 3 else 0
def rdH (zs : List Int) (most : Int) : Hd := if rdE zs most = 0 then fld zs else hd0

/-- six cells of a head in a block that is known whole -/
def hcells (h : Hd) : Array Value := #[.int .i64 h.size, .int .i64 h.len, .int .i64 h.ttl, .int .i64 h.proto, .int .u32 h.src, .int .u32 h.dst]

def zeroH : Array Value := #[.int .i64 0, .int .i64 0, .int .i64 0, .int .i64 0, .int .u32 0, .int .u32 0]

set_option maxHeartbeats 2000000 in
theorem read_any (A : Option Addr) (n c : Nat) (zs : List Int) (most : Int) (w : World) (hn : zs.length = n) (hl : n ≤ 1000000) (hR : Rd w A zs) (hm0 : 0 ≤ most) (hm1 : most ≤ 1000000) :
    Calls Try.prog 47 #[.slice A n c, .int .i64 most] w fun e w' => e = .returned (.tuple #[(rdH zs most).val, .int .i64 (rdE zs most)]) ∧ Below w.heap.size w w' := by
  by_cases h20 : n < 20
  · have he := Lib.hid (show rdE zs most = 2 by unfold rdE; rw [if_pos (by omega)])
    have hh := Lib.hid (show (rdH zs most).val = .agg #[.int .i64 0, .int .i64 0, .int .i64 0, .int .i64 0, .int .u32 0, .int .u32 0] by unfold rdH; rw [he.out, if_neg (by decide)]; rfl)
    have i0 : (n : Int) < 20 := by omega
    clear hR hn
    go_enter Try.func47, Try.ntmps47
    go_wp2
    rw [he.out, hh.out]
    refine bodyPost_ret (v := .tuple #[.agg #[.int .i64 0, .int .i64 0, .int .i64 0, .int .i64 0, .int .u32 0, .int .u32 0], .int .i64 2]) (by simp [results, Try.results47, go_sem]) rfl ⟨rfl, ?_⟩
    exact (Below.refl _ _).alloc (Nat.le_refl _) _
  · have i0 : ¬ (n : Int) < 20 := by omega
    have hf := fields_any A n c zs _ hn (by omega) hl (hR.alloc (.cells #[.int .i64 0, .int .i64 0, .int .i64 0, .int .i64 0, .int .u32 0, .int .u32 0] 67))
    obtain ⟨b, off, rfl, hc⟩ := hR.2 (by omega)
    have c0 : w.cell? ⟨b, off, none⟩ = some (.int .u8 (zs.getD 0 0)) := hc 0 (by omega)
    have hlt : b < w.heap.size := block_lt_of_cell c0
    have b0 := hR.1.getD 0
    obtain ⟨hd, hhd⟩ : ∃ hd, hd = fld zs := ⟨_, rfl⟩
    rw [← hhd] at hf
    have r2 := G16_range zs hR.1 2
    have hs : 0 ≤ hd.size ∧ hd.size ≤ 60 := by rw [hhd]; simp only [fld]; omega
    have hle : 0 ≤ hd.len ∧ hd.len ≤ 65535 := by rw [hhd]; exact r2
    have HF := Lib.hid hf
    have i1 : 0 < n := by omega
    have HE := Lib.hid (show rdE zs most = if zs.getD 0 0 / 16 ≠ 4 then 3 else if hd.size < 20 then 3 else if (n : Int) < hd.size then 2 else if hd.len < hd.size then 3 else if most < hd.len then 3 else 0 by
      unfold rdE; rw [if_neg (by omega), hn, ← hhd])
    have HH := Lib.hid (show rdH zs most = if rdE zs most = 0 then hd else hd0 by unfold rdH; rw [← hhd])
    generalize zs.getD 0 0 = z0 at *
    obtain ⟨d0, d1, d2, d3, d4, d5⟩ := hd
    simp only at hs hle
    clear hf hc hR hn hhd r2
    go_enter Try.func47, Try.ntmps47
    go_wp2_with fail
    refine HF.out.mono ?_
    rintro e w1 ⟨rfl, hb1⟩
    rw [show (Hd.mk d0 d1 d2 d3 d4 d5).val = .agg #[.int .i64 d0, .int .i64 d1, .int .i64 d2, .int .i64 d3, .int .u32 d4, .int .u32 d5] from rfl]
    have bk := (Blk.new w 67 #[.int .i64 0, .int .i64 0, .int .i64 0, .int .i64 0, .int .u32 0, .int .u32 0]).below hb1
    have hs1 : w.heap.size + 1 ≤ w1.heap.size := by have := hb1.size; simpa using this
    have cz : w1.cell? ⟨b, off, none⟩ = some (.int .u8 z0) := (hb1.cell (p := ⟨b, off, none⟩) (by simp; omega)).trans ((World.cell?_alloc_lt w _ ⟨b, off, none⟩ hlt).trans c0)
    have Hbk := Lib.hid bk
    have Hb1 := Lib.hid (show Below w.heap.size w w1 from ((Below.refl _ _).alloc (Nat.le_refl _) _).trans (hb1.mono (by simp)))
    have Hcz := Lib.hid cz
    clear hb1 bk c0 cz
    go_upto_region 4 with fail
    obtain ⟨w2, hw2⟩ : ∃ w2, w2 = w1.alloc (.cells #[.int .i64 d0, .int .i64 d1, .int .i64 d2, .int .i64 d3, .int .u32 d4, .int .u32 d5] 67) := ⟨_, rfl⟩
    rw [← hw2]
    have bk2 : Blk w2 w.heap.size 67 #[.int .i64 0, .int .i64 0, .int .i64 0, .int .i64 0, .int .u32 0, .int .u32 0] := by rw [hw2]; exact Hbk.out.alloc _
    have bh2 : Blk w2 w1.heap.size 67 #[.int .i64 d0, .int .i64 d1, .int .i64 d2, .int .i64 d3, .int .u32 d4, .int .u32 d5] := by rw [hw2]; exact Blk.new w1 _ _
    have cz : w2.cell? ⟨b, off, none⟩ = some (.int .u8 z0) := by rw [hw2]; exact (World.cell?_alloc_lt w1 _ ⟨b, off, none⟩ (show b < w1.heap.size by omega)).trans Hcz.out
    have Hb2 := Lib.hid (show Below w.heap.size w w2 by rw [hw2]; exact Hb1.out.alloc Hb1.out.size _)
    have k0 := bk2.cell 0
    have k1 := bk2.cell 1
    have k2 := bk2.cell 2
    have k3 := bk2.cell 3
    have k4 := bk2.cell 4
    have k5 := bk2.cell 5
    have f0 := bk2.frozen 0
    have f1 := bk2.frozen 1
    have f2 := bk2.frozen 2
    have f3 := bk2.frozen 3
    have f4 := bk2.frozen 4
    have f5 := bk2.frozen 5
    have m0 := bh2.cell 0
    have m1 := bh2.cell 1
    have m2 := bh2.cell 2
    have m3 := bh2.cell 3
    have m4 := bh2.cell 4
    have m5 := bh2.cell 5
    simp only [List.getElem?_toArray, List.getElem?_cons_zero, List.getElem?_cons_succ] at k0 k1 k2 k3 k4 k5 m0 m1 m2 m3 m4 m5
    have hne : ¬ w.heap.size = w1.heap.size := by omega
    clear bk2 bh2 hw2 Hbk Hb1 Hcz
    generalize w1.heap.size = p at *
    by_cases h4 : z0 / 16 = 4
    · have t4 : (z0 / 16 != 4) = false := by simp [h4]
      by_cases hs20 : d0 < 20
      · have he := Lib.hid (show rdE zs most = 3 by rw [HE.out, if_neg (by simp [h4]), if_pos hs20])
        have hh := Lib.hid (show (rdH zs most).val = .agg #[.int .i64 0, .int .i64 0, .int .i64 0, .int .i64 0, .int .u32 0, .int .u32 0] by rw [HH.out, he.out, if_neg (by decide)]; rfl)
        have H4 := Lib.hid h4
        clear h4
        go_wp2
        rw [he.out, hh.out]
        refine bodyPost_ret (v := .tuple #[.agg #[.int .i64 0, .int .i64 0, .int .i64 0, .int .i64 0, .int .u32 0, .int .u32 0], .int .i64 3]) (by simp [results, Try.results47, go_sem, k0, k1, k2, k3, k4, k5]) rfl ⟨rfl, ?_⟩
        exact below_set6 Hb2.out (Nat.le_refl _) _ _ _ _ _ _
      · by_cases hns : (n : Int) < d0
        · have he := Lib.hid (show rdE zs most = 2 by rw [HE.out, if_neg (by simp [h4]), if_neg hs20, if_pos hns])
          have hh := Lib.hid (show (rdH zs most).val = .agg #[.int .i64 0, .int .i64 0, .int .i64 0, .int .i64 0, .int .u32 0, .int .u32 0] by rw [HH.out, he.out, if_neg (by decide)]; rfl)
          have H4 := Lib.hid h4
          clear h4
          go_wp2
          rw [he.out, hh.out]
          refine bodyPost_ret (v := .tuple #[.agg #[.int .i64 0, .int .i64 0, .int .i64 0, .int .i64 0, .int .u32 0, .int .u32 0], .int .i64 2]) (by simp [results, Try.results47, go_sem, k0, k1, k2, k3, k4, k5]) rfl ⟨rfl, ?_⟩
          exact below_set6 Hb2.out (Nat.le_refl _) _ _ _ _ _ _
        · by_cases hl1 : d1 < d0
          · have he := Lib.hid (show rdE zs most = 3 by rw [HE.out, if_neg (by simp [h4]), if_neg hs20, if_neg hns, if_pos hl1])
            have hh := Lib.hid (show (rdH zs most).val = .agg #[.int .i64 0, .int .i64 0, .int .i64 0, .int .i64 0, .int .u32 0, .int .u32 0] by rw [HH.out, he.out, if_neg (by decide)]; rfl)
            have dl : decide (d1 < d0) = true := by simp [hl1]
            have H4 := Lib.hid h4
            clear h4
            go_wp2
            rw [he.out, hh.out]
            refine bodyPost_ret (v := .tuple #[.agg #[.int .i64 0, .int .i64 0, .int .i64 0, .int .i64 0, .int .u32 0, .int .u32 0], .int .i64 3]) (by simp [results, Try.results47, go_sem, k0, k1, k2, k3, k4, k5]) rfl ⟨rfl, ?_⟩
            exact below_set6 Hb2.out (Nat.le_refl _) _ _ _ _ _ _
          · have dl : decide (d1 < d0) = false := by simp; omega
            by_cases hl2 : most < d1
            · have he := Lib.hid (show rdE zs most = 3 by rw [HE.out, if_neg (by simp [h4]), if_neg hs20, if_neg hns, if_neg hl1, if_pos hl2])
              have hh := Lib.hid (show (rdH zs most).val = .agg #[.int .i64 0, .int .i64 0, .int .i64 0, .int .i64 0, .int .u32 0, .int .u32 0] by rw [HH.out, he.out, if_neg (by decide)]; rfl)
              have H4 := Lib.hid h4
              clear h4
              go_wp2
              rw [he.out, hh.out]
              refine bodyPost_ret (v := .tuple #[.agg #[.int .i64 0, .int .i64 0, .int .i64 0, .int .i64 0, .int .u32 0, .int .u32 0], .int .i64 3]) (by simp [results, Try.results47, go_sem, k0, k1, k2, k3, k4, k5]) rfl ⟨rfl, ?_⟩
              exact below_set6 Hb2.out (Nat.le_refl _) _ _ _ _ _ _
            · have he := Lib.hid (show rdE zs most = 0 by rw [HE.out, if_neg (by simp [h4]), if_neg hs20, if_neg hns, if_neg hl1, if_neg hl2])
              have hh := Lib.hid (show (rdH zs most).val = .agg #[.int .i64 d0, .int .i64 d1, .int .i64 d2, .int .i64 d3, .int .u32 d4, .int .u32 d5] by rw [HH.out, he.out, if_pos rfl]; rfl)
              have H4 := Lib.hid h4
              clear h4
              go_wp2
              rw [he.out, hh.out]
              refine bodyPost_ret (v := .tuple #[.agg #[.int .i64 d0, .int .i64 d1, .int .i64 d2, .int .i64 d3, .int .u32 d4, .int .u32 d5], .int .i64 0]) (by simp [results, Try.results47, go_sem, k0, k1, k2, k3, k4, k5]) rfl ⟨rfl, ?_⟩
              exact below_set6 Hb2.out (Nat.le_refl _) _ _ _ _ _ _
    · have t4 : (z0 / 16 != 4) = true := by rw [bne_iff_ne]; exact h4
      have he := Lib.hid (show rdE zs most = 3 by rw [HE.out, if_pos h4])
      have hh := Lib.hid (show (rdH zs most).val = .agg #[.int .i64 0, .int .i64 0, .int .i64 0, .int .i64 0, .int .u32 0, .int .u32 0] by rw [HH.out, he.out, if_neg (by decide)]; rfl)
      clear h4
      go_wp2
      rw [he.out, hh.out]
      refine bodyPost_ret (v := .tuple #[.agg #[.int .i64 0, .int .i64 0, .int .i64 0, .int .i64 0, .int .u32 0, .int .u32 0], .int .i64 3]) (by simp [results, Try.results47, go_sem, k0, k1, k2, k3, k4, k5]) rfl ⟨rfl, ?_⟩
      exact below_set6 Hb2.out (Nat.le_refl _) _ _ _ _ _ _
end Go.Proofs.Ytdkjipfemnfckaa

namespace Go.Proofs.Ytdkjipfemnfckaa
open Go.RowKit Plain
set_option linter.unusedVariables false
set_option maxRecDepth 100000

def gtE (zs : List Int) : Int :=
  if rdE zs 1500 ≠ 0 then rdE zs 1500 else if (zs.length : Int) < (fld zs).len then 2 else if Cs (zs.take (fld zs).size.toNat) ≠ 0 then 4 else if G16 zs 6 % 16384 ≠ 0 then 5 else 0
def gtH (zs : List Int) : Hd := if gtE zs = 0 then fld zs else hd0
def ptE (zs : List Int) : Int := if rdE zs 65535 ≠ 0 then rdE zs 65535 else if G16 zs 6 % 16384 ≠ 0 then 5 else 0
def ptH (zs : List Int) : Hd := if ptE zs = 0 then fld zs else hd0

theorem rdE_zero (zs : List Int) (most : Int) (h : rdE zs most = 0) : 20 ≤ zs.length ∧ zs.getD 0 0 / 16 = 4 ∧ 20 ≤ (fld zs).size ∧ (fld zs).size ≤ (zs.length : Int) ∧ (fld zs).size ≤ (fld zs).len ∧ (fld zs).len ≤ most := by
  unfold rdE at h
  split at h
  · omega
  split at h
  · omega
  split at h
  · omega
  split at h
  · omega
  split at h
  · omega
  split at h
  · omega
  rename_i a b c d e f
  exact ⟨by omega, by omega, by omega, by omega, by omega, by omega⟩
theorem rdE_range (zs : List Int) (most : Int) : 0 ≤ rdE zs most ∧ rdE zs most ≤ 3 := by unfold rdE; repeat (split <;> try omega)

set_option maxHeartbeats 2000000 in
theorem get_any (A : Option Addr) (n c : Nat) (zs : List Int) (w : World) (hn : zs.length = n) (hnc : n ≤ c) (hl : n ≤ 1000000) (hR : Rd w A zs) :
    Calls Try.prog 32 #[.slice A n c] w fun e w' => e = .returned (.tuple #[(gtH zs).val, .int .i64 (gtE zs)]) ∧ Below w.heap.size w w' := by
  have hrd := read_any A n c zs 1500 (w.alloc (.cells #[.int .i64 0, .int .i64 0, .int .i64 0, .int .i64 0, .int .u32 0, .int .u32 0] 67)) hn hl (hR.alloc _) (by omega) (by omega)
  obtain ⟨er, her⟩ : ∃ er, er = rdE zs 1500 := ⟨_, rfl⟩
  obtain ⟨hv, hhv⟩ : ∃ hv, hv = rdH zs 1500 := ⟨_, rfl⟩
  rw [← her, ← hhv] at hrd
  have HF := Lib.hid hrd
  have Her := Lib.hid her
  have Hhv := Lib.hid hhv
  have HR := Lib.hid hR
  have Hn := Lib.hid hn
  clear hrd her hhv hR hn
  obtain ⟨d0, d1, d2, d3, d4, d5⟩ := hv
  go_enter Try.func32, Try.ntmps32
  go_wp2_with fail
  refine HF.out.mono ?_
  rintro e w1 ⟨rfl, hb1⟩
  rw [show (Hd.mk d0 d1 d2 d3 d4 d5).val = .agg #[.int .i64 d0, .int .i64 d1, .int .i64 d2, .int .i64 d3, .int .u32 d4, .int .u32 d5] from rfl]
  have bk := (Blk.new w 67 #[.int .i64 0, .int .i64 0, .int .i64 0, .int .i64 0, .int .u32 0, .int .u32 0]).below hb1
  have hs1 : w.heap.size + 1 ≤ w1.heap.size := by have := hb1.size; simpa using this
  have Hbk := Lib.hid bk
  have Hb1 := Lib.hid (show Below w.heap.size w w1 from ((Below.refl _ _).alloc (Nat.le_refl _) _).trans (hb1.mono (by simp)))
  clear hb1 bk HF
  go_upto_region 2 with fail
  obtain ⟨w2, hw2⟩ : ∃ w2, w2 = w1.alloc (.cells #[.int .i64 d0, .int .i64 d1, .int .i64 d2, .int .i64 d3, .int .u32 d4, .int .u32 d5] 67) := ⟨_, rfl⟩
  rw [← hw2]
  have bk2 : Blk w2 w.heap.size 67 #[.int .i64 0, .int .i64 0, .int .i64 0, .int .i64 0, .int .u32 0, .int .u32 0] := by rw [hw2]; exact Hbk.out.alloc _
  have bh2 : Blk w2 w1.heap.size 67 #[.int .i64 d0, .int .i64 d1, .int .i64 d2, .int .i64 d3, .int .u32 d4, .int .u32 d5] := by rw [hw2]; exact Blk.new w1 _ _
  have Hb2 := Lib.hid (show Below w.heap.size w w2 by rw [hw2]; exact Hb1.out.alloc Hb1.out.size _)
  have k0 := bk2.cell 0
  have k1 := bk2.cell 1
  have k2 := bk2.cell 2
  have k3 := bk2.cell 3
  have k4 := bk2.cell 4
  have k5 := bk2.cell 5
  have f0 := bk2.frozen 0
  have f1 := bk2.frozen 1
  have f2 := bk2.frozen 2
  have f3 := bk2.frozen 3
  have f4 := bk2.frozen 4
  have f5 := bk2.frozen 5
  have m0 := bh2.cell 0
  have m1 := bh2.cell 1
  have m2 := bh2.cell 2
  have m3 := bh2.cell 3
  have m4 := bh2.cell 4
  have m5 := bh2.cell 5
  simp only [List.getElem?_toArray, List.getElem?_cons_zero, List.getElem?_cons_succ] at k0 k1 k2 k3 k4 k5 m0 m1 m2 m3 m4 m5
  have hne : ¬ w.heap.size = w1.heap.size := by omega
  clear bk2 bh2 hw2 Hbk Hb1
  generalize w1.heap.size = p at *

  by_cases hz : er = 0
  · have hrd0 : rdE zs 1500 = 0 := by rw [← Her.out]; exact hz
    obtain ⟨q0, q1, q2, q3, q4, q5⟩ := rdE_zero zs 1500 hrd0
    have hfd : fld zs = ⟨d0, d1, d2, d3, d4, d5⟩ := by have := Hhv.out; unfold rdH at this; rw [hrd0, if_pos rfl] at this; exact this.symm
    have hHR := HR.out
    rw [hfd] at q2 q3 q4 q5
    simp only at q2 q3 q4 q5
    rw [Hn.out] at q0 q3
    obtain ⟨sz, hsz⟩ : ∃ sz : Nat, (sz : Int) = d0 := ⟨d0.toNat, by omega⟩
    subst hsz
    have Hfld := Lib.hid hfd
    have Hrd0 := Lib.hid hrd0
    have HE := Lib.hid (show gtE zs = if (n : Int) < d1 then 2 else if Cs (zs.take sz) ≠ 0 then 4 else if G16 zs 6 % 16384 ≠ 0 then 5 else 0 by
      unfold gtE; rw [Hrd0.out, if_neg (by decide), Hn.out, hfd]; rfl)
    obtain rfl : er = 0 := hz
    clear hfd hrd0 hHR
    have hc16 := Cs_range _ (HR.out.1.take sz)
    by_cases hnl : (n : Int) < d1
    · have he := Lib.hid (show gtE zs = 2 by rw [HE.out, if_pos hnl])
      have hh := Lib.hid (show (gtH zs).val = .agg #[.int .i64 0, .int .i64 0, .int .i64 0, .int .i64 0, .int .u32 0, .int .u32 0] by unfold gtH; rw [he.out, if_neg (by decide)]; rfl)
      go_wp2
      rw [he.out, hh.out]
      refine bodyPost_ret (v := .tuple #[.agg #[.int .i64 0, .int .i64 0, .int .i64 0, .int .i64 0, .int .u32 0, .int .u32 0], .int .i64 2]) (by simp [results, Try.results32, go_sem, k0, k1, k2, k3, k4, k5]) rfl ⟨rfl, ?_⟩
      exact below_set6 Hb2.out (Nat.le_refl _) _ _ _ _ _ _
    · have isz : (sz : Int) ≤ (c : Int) := by omega
      have isz0 : (0 : Int) ≤ (sz : Int) := by omega
      go_wp2_with fail
      refine (of_n A sz c (zs.take sz) _ (by rw [List.length_take, Hn.out]; omega) (by omega) ((HR.out.below Hb2.out).take sz)).mono ?_
      rintro e w' ⟨rfl, qa, rfl⟩
      by_cases hcs : Cs (zs.take sz) = 0
      · have t1 : (Cs (zs.take sz) != 0) = false := by simp [hcs]
        have Hcs := Lib.hid hcs
        clear hcs
        go_wp2_with fail
        refine (isPiece_any A n c zs _ Hn.out (by omega) hl ((HR.out.below Hb2.out).drewN qa)).mono ?_
        rintro e w' ⟨rfl, qb, rfl⟩
        by_cases hp : G16 zs 6 % 16384 = 0
        · have t2 : (G16 zs 6 % 16384 != 0) = false := by simp [hp]
          have he := Lib.hid (show gtE zs = 0 by rw [HE.out, if_neg (by omega), if_neg (by simp [Hcs.out]), if_neg (by simp [hp])])
          have hh := Lib.hid (show (gtH zs).val = .agg #[.int .i64 (sz : Int), .int .i64 d1, .int .i64 d2, .int .i64 d3, .int .u32 d4, .int .u32 d5] by unfold gtH; rw [he.out, if_pos rfl, Hfld.out]; rfl)
          clear hp
          go_wp2
          rw [he.out, hh.out]
          refine bodyPost_ret (v := .tuple #[.agg #[.int .i64 (sz : Int), .int .i64 d1, .int .i64 d2, .int .i64 d3, .int .u32 d4, .int .u32 d5], .int .i64 0]) (by simp [results, Try.results32, go_sem, k0, k1, k2, k3, k4, k5]) rfl ⟨rfl, ?_⟩
          exact below_set6 (below_drewN Hb2.out _) (Nat.le_refl _) _ _ _ _ _ _
        · have t2 : (G16 zs 6 % 16384 != 0) = true := by rw [bne_iff_ne]; exact hp
          have he := Lib.hid (show gtE zs = 5 by rw [HE.out, if_neg (by omega), if_neg (by simp [Hcs.out]), if_pos hp])
          have hh := Lib.hid (show (gtH zs).val = .agg #[.int .i64 0, .int .i64 0, .int .i64 0, .int .i64 0, .int .u32 0, .int .u32 0] by unfold gtH; rw [he.out, if_neg (by decide)]; rfl)
          clear hp
          go_wp2
          rw [he.out, hh.out]
          refine bodyPost_ret (v := .tuple #[.agg #[.int .i64 0, .int .i64 0, .int .i64 0, .int .i64 0, .int .u32 0, .int .u32 0], .int .i64 5]) (by simp [results, Try.results32, go_sem, k0, k1, k2, k3, k4, k5]) rfl ⟨rfl, ?_⟩
          exact below_set6 (below_drewN Hb2.out _) (Nat.le_refl _) _ _ _ _ _ _
      · have t1 : (Cs (zs.take sz) != 0) = true := by rw [bne_iff_ne]; exact hcs
        have he := Lib.hid (show gtE zs = 4 by rw [HE.out, if_neg (by omega), if_pos hcs])
        have hh := Lib.hid (show (gtH zs).val = .agg #[.int .i64 0, .int .i64 0, .int .i64 0, .int .i64 0, .int .u32 0, .int .u32 0] by unfold gtH; rw [he.out, if_neg (by decide)]; rfl)
        clear hcs
        go_wp2
        rw [he.out, hh.out]
        refine bodyPost_ret (v := .tuple #[.agg #[.int .i64 0, .int .i64 0, .int .i64 0, .int .i64 0, .int .u32 0, .int .u32 0], .int .i64 4]) (by simp [results, Try.results32, go_sem, k0, k1, k2, k3, k4, k5]) rfl ⟨rfl, ?_⟩
        exact below_set6 (below_drewN Hb2.out _) (Nat.le_refl _) _ _ _ _ _ _
  · have t0 : (er != 0) = true := by rw [bne_iff_ne]; exact hz
    have he := Lib.hid (show gtE zs = er by unfold gtE; rw [← Her.out, if_pos hz])
    have hh := Lib.hid (show (gtH zs).val = .agg #[.int .i64 0, .int .i64 0, .int .i64 0, .int .i64 0, .int .u32 0, .int .u32 0] by unfold gtH; rw [he.out, if_neg hz]; rfl)
    clear hz
    go_wp2
    rw [he.out, hh.out]
    refine bodyPost_ret (v := .tuple #[.agg #[.int .i64 0, .int .i64 0, .int .i64 0, .int .i64 0, .int .u32 0, .int .u32 0], .int .i64 er]) (by simp [results, Try.results32, go_sem, k0, k1, k2, k3, k4, k5]) rfl ⟨rfl, ?_⟩
    exact below_set6 Hb2.out (Nat.le_refl _) _ _ _ _ _ _

set_option maxHeartbeats 2000000 in
theorem part_any (A : Option Addr) (n c : Nat) (zs : List Int) (w : World) (hn : zs.length = n) (hl : n ≤ 1000000) (hR : Rd w A zs) :
    Calls Try.prog 83 #[.slice A n c] w fun e w' => e = .returned (.tuple #[(ptH zs).val, .int .i64 (ptE zs)]) ∧ Below w.heap.size w w' := by
  have hrd := read_any A n c zs 65535 (w.alloc (.cells #[.int .i64 0, .int .i64 0, .int .i64 0, .int .i64 0, .int .u32 0, .int .u32 0] 67)) hn hl (hR.alloc _) (by omega) (by omega)
  obtain ⟨er, her⟩ : ∃ er, er = rdE zs 65535 := ⟨_, rfl⟩
  obtain ⟨hv, hhv⟩ : ∃ hv, hv = rdH zs 65535 := ⟨_, rfl⟩
  rw [← her, ← hhv] at hrd
  have HF := Lib.hid hrd
  have Her := Lib.hid her
  have Hhv := Lib.hid hhv
  have HR := Lib.hid hR
  have Hn := Lib.hid hn
  clear hrd her hhv hR hn
  obtain ⟨d0, d1, d2, d3, d4, d5⟩ := hv
  go_enter Try.func83, Try.ntmps83
  go_wp2_with fail
  refine HF.out.mono ?_
  rintro e w1 ⟨rfl, hb1⟩
  rw [show (Hd.mk d0 d1 d2 d3 d4 d5).val = .agg #[.int .i64 d0, .int .i64 d1, .int .i64 d2, .int .i64 d3, .int .u32 d4, .int .u32 d5] from rfl]
  have bk := (Blk.new w 67 #[.int .i64 0, .int .i64 0, .int .i64 0, .int .i64 0, .int .u32 0, .int .u32 0]).below hb1
  have hs1 : w.heap.size + 1 ≤ w1.heap.size := by have := hb1.size; simpa using this
  have Hbk := Lib.hid bk
  have Hb1 := Lib.hid (show Below w.heap.size w w1 from ((Below.refl _ _).alloc (Nat.le_refl _) _).trans (hb1.mono (by simp)))
  clear hb1 bk HF
  go_upto_region 2 with fail
  obtain ⟨w2, hw2⟩ : ∃ w2, w2 = w1.alloc (.cells #[.int .i64 d0, .int .i64 d1, .int .i64 d2, .int .i64 d3, .int .u32 d4, .int .u32 d5] 67) := ⟨_, rfl⟩
  rw [← hw2]
  have bk2 : Blk w2 w.heap.size 67 #[.int .i64 0, .int .i64 0, .int .i64 0, .int .i64 0, .int .u32 0, .int .u32 0] := by rw [hw2]; exact Hbk.out.alloc _
  have bh2 : Blk w2 w1.heap.size 67 #[.int .i64 d0, .int .i64 d1, .int .i64 d2, .int .i64 d3, .int .u32 d4, .int .u32 d5] := by rw [hw2]; exact Blk.new w1 _ _
  have Hb2 := Lib.hid (show Below w.heap.size w w2 by rw [hw2]; exact Hb1.out.alloc Hb1.out.size _)
  have k0 := bk2.cell 0
  have k1 := bk2.cell 1
  have k2 := bk2.cell 2
  have k3 := bk2.cell 3
  have k4 := bk2.cell 4
  have k5 := bk2.cell 5
  have f0 := bk2.frozen 0
  have f1 := bk2.frozen 1
  have f2 := bk2.frozen 2
  have f3 := bk2.frozen 3
  have f4 := bk2.frozen 4
  have f5 := bk2.frozen 5
  have m0 := bh2.cell 0
  have m1 := bh2.cell 1
  have m2 := bh2.cell 2
  have m3 := bh2.cell 3
  have m4 := bh2.cell 4
  have m5 := bh2.cell 5
  simp only [List.getElem?_toArray, List.getElem?_cons_zero, List.getElem?_cons_succ] at k0 k1 k2 k3 k4 k5 m0 m1 m2 m3 m4 m5
  have hne : ¬ w.heap.size = w1.heap.size := by omega
  clear bk2 bh2 hw2 Hbk Hb1
  generalize w1.heap.size = p at *

  by_cases hz : er = 0
  · have hrd0 : rdE zs 65535 = 0 := by rw [← Her.out]; exact hz
    obtain ⟨q0, q1, q2, q3, q4, q5⟩ := rdE_zero zs 65535 hrd0
    have hfd : fld zs = ⟨d0, d1, d2, d3, d4, d5⟩ := by have := Hhv.out; unfold rdH at this; rw [hrd0, if_pos rfl] at this; exact this.symm
    rw [hfd] at q2 q3 q4 q5
    simp only at q2 q3 q4 q5
    rw [Hn.out] at q0 q3
    obtain ⟨sz, hsz⟩ : ∃ sz : Nat, (sz : Int) = d0 := ⟨d0.toNat, by omega⟩
    subst hsz
    have Hfld := Lib.hid hfd
    have Hrd0 := Lib.hid hrd0
    have HE := Lib.hid (show ptE zs = if G16 zs 6 % 16384 ≠ 0 then 5 else 0 by unfold ptE; rw [Hrd0.out, if_neg (by decide)])
    obtain rfl : er = 0 := hz
    clear hfd hrd0
    go_wp2_with fail
    refine (isPiece_any A n c zs _ Hn.out (by omega) hl (HR.out.below Hb2.out)).mono ?_
    rintro e w' ⟨rfl, qb, rfl⟩
    by_cases hp : G16 zs 6 % 16384 = 0
    · have t2 : (G16 zs 6 % 16384 != 0) = false := by simp [hp]
      have he := Lib.hid (show ptE zs = 0 by rw [HE.out, if_neg (by simp [hp])])
      have hh := Lib.hid (show (ptH zs).val = .agg #[.int .i64 (sz : Int), .int .i64 d1, .int .i64 d2, .int .i64 d3, .int .u32 d4, .int .u32 d5] by unfold ptH; rw [he.out, if_pos rfl, Hfld.out]; rfl)
      clear hp
      go_wp2
      rw [he.out, hh.out]
      refine bodyPost_ret (v := .tuple #[.agg #[.int .i64 (sz : Int), .int .i64 d1, .int .i64 d2, .int .i64 d3, .int .u32 d4, .int .u32 d5], .int .i64 0]) (by simp [results, Try.results83, go_sem, k0, k1, k2, k3, k4, k5]) rfl ⟨rfl, ?_⟩
      exact below_set6 (below_drewN Hb2.out _) (Nat.le_refl _) _ _ _ _ _ _
    · have t2 : (G16 zs 6 % 16384 != 0) = true := by rw [bne_iff_ne]; exact hp
      have he := Lib.hid (show ptE zs = 5 by rw [HE.out, if_pos hp])
      have hh := Lib.hid (show (ptH zs).val = .agg #[.int .i64 0, .int .i64 0, .int .i64 0, .int .i64 0, .int .u32 0, .int .u32 0] by unfold ptH; rw [he.out, if_neg (by decide)]; rfl)
      clear hp
      go_wp2
      rw [he.out, hh.out]
      refine bodyPost_ret (v := .tuple #[.agg #[.int .i64 0, .int .i64 0, .int .i64 0, .int .i64 0, .int .u32 0, .int .u32 0], .int .i64 5]) (by simp [results, Try.results83, go_sem, k0, k1, k2, k3, k4, k5]) rfl ⟨rfl, ?_⟩
      exact below_set6 (below_drewN Hb2.out _) (Nat.le_refl _) _ _ _ _ _ _
  · have t0 : (er != 0) = true := by rw [bne_iff_ne]; exact hz
    have he := Lib.hid (show ptE zs = er by unfold ptE; rw [← Her.out, if_pos hz])
    have hh := Lib.hid (show (ptH zs).val = .agg #[.int .i64 0, .int .i64 0, .int .i64 0, .int .i64 0, .int .u32 0, .int .u32 0] by unfold ptH; rw [he.out, if_neg hz]; rfl)
    clear hz
    go_wp2
    rw [he.out, hh.out]
    refine bodyPost_ret (v := .tuple #[.agg #[.int .i64 0, .int .i64 0, .int .i64 0, .int .i64 0, .int .u32 0, .int .u32 0], .int .i64 er]) (by simp [results, Try.results83, go_sem, k0, k1, k2, k3, k4, k5]) rfl ⟨rfl, ?_⟩
    exact below_set6 Hb2.out (Nat.le_refl _) _ _ _ _ _ _

end Go.Proofs.Ytdkjipfemnfckaa
