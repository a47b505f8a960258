/-
  Contracts of the reference fanlightref02: Num and Get. Conditions: at most 1000000 bytes.
-/
import Derived.Test.YtbnlpidhbilenaaGI
namespace Go.Proofs.Ytbnlpidhbilenaa
open Go.RowKit Plain
set_option linter.unusedVariables false
set_option maxRecDepth 100000

/-- bytes as a number, the highest first -/
def num (zs : List Int) : Int := zs.foldl (fun n b => n * 256 + b) 0
theorem num_snoc (zs : List Int) (x : Int) : num (zs ++ [x]) = num zs * 256 + x := by unfold num; rw [List.foldl_append]; rfl
theorem num_le : ∀ (k : Nat) (zs : List Int), k ≤ 4 → By zs → 0 ≤ num (zs.take k) ∧ num (zs.take k) < 256 ^ k
  | 0, zs, _, _ => by simp [num]
  | k + 1, zs, hk, h => by
      obtain ⟨a, b⟩ := num_le k zs (by omega) h
      rcases Nat.lt_or_ge k zs.length with hl | hl
      · rw [take_one zs k hl, num_snoc]
        have := h.getD k
        rw [Int.pow_succ]
        omega
      · rw [List.take_of_length_le (by omega)]
        rw [List.take_of_length_le hl] at a b
        rw [Int.pow_succ]
        omega

theorem num_any (A : Option Addr) (n c : Nat) (zs : List Int) (w : World) (hn : zs.length = n) (h4 : n ≤ 4) (hR : Rd w A zs) :
    Calls Try.prog 58 #[.slice A n c] w fun e w' => e = .returned (.int .i64 (num zs)) ∧ w = w' := by
  have Hn := Lib.hid hn
  obtain ⟨hby, hcells⟩ := hR
  clear hn
  go_enter Try.func58, Try.ntmps58
  go_wp2
  go_loop [3, 4] (fun t i => ∃ k : Nat, k ≤ n ∧ i = .int .i64 k ∧ t = .int .i64 (num (zs.take k))) (fun _ i => n - (intOf i).toNat)
  case atStart => exact ⟨0, Nat.zero_le _, rfl, by simp [num]⟩
  case round =>
    obtain ⟨k, hk, rfl, rfl⟩ := hrel
    have b1 := num_le k zs (by omega) hby
    have b2 : num (zs.take k) < 4294967296 := by
      have : ∀ k, k ≤ 4 → (256 : Int) ^ k ≤ 4294967296 := by decide
      have := this k (by omega)
      omega
    have b0 := b1.1
    clear b1
    by_cases hlt : k < n
    · obtain ⟨b, off, rfl, hc⟩ := hcells (by rw [Hn.out]; omega)
      have c0 := hc k (by rw [Hn.out]; omega)
      have bx := hby.getD k
      have ht := Lib.hid (show num (zs.take (k + 1)) = num (zs.take k) * 256 + zs.getD k 0 by rw [take_one zs k (by rw [Hn.out]; exact hlt), num_snoc])
      generalize zs.getD k 0 = x at *
      clear hc hcells
      have i0 : (k : Int) < (n : Int) := by omega
      go_wp2
      go_round
      case rel => exact ⟨k + 1, by omega, by go_num, by rw [ht.out]⟩
      case measure => simp [intOf]; omega
    · have ht := Lib.hid (show zs.take k = zs from List.take_of_length_le (by rw [Hn.out]; omega))
      go_wp2
      go_ret
      exact ⟨ret_int' (by rw [ht.out]), rfl⟩

theorem Rd.sub {w : World} {b off : Nat} {zs : List Int} (h : Rd w (some ⟨b, off, none⟩) zs) (i k : Nat) : Rd w (some ⟨b, off + i, none⟩) ((zs.drop i).take k) :=
  ⟨(h.1.drop i).take k, fun hp => by
    rw [List.length_take, List.length_drop] at hp
    obtain ⟨b', off', e, hc⟩ := h.2 (by omega)
    injection e with e; injection e with e1 e2; subst e1 e2
    refine ⟨b, off + i, rfl, fun j hj => ?_⟩
    rw [List.length_take, List.length_drop] at hj
    rw [getD_take _ _ _ (by omega), getD_drop, Nat.add_assoc]
    exact hc (i + j) (by omega)⟩
theorem sub_len (zs : List Int) (i k n : Nat) (hn : zs.length = n) (h : i + k ≤ n) : ((zs.drop i).take k).length = k := by
  rw [List.length_take, List.length_drop]; omega
theorem num2 (zs : List Int) (i n : Nat) (hn : zs.length = n) (h : i + 2 ≤ n) : num ((zs.drop i).take 2) = G16 zs i := by
  rw [take_two _ 0 (by rw [List.length_drop]; omega)]
  simp [num, G16]
theorem num4 (zs : List Int) (i n : Nat) (hn : zs.length = n) (h : i + 4 ≤ n) : num ((zs.drop i).take 4) = G32 zs i := by
  rw [take_two _ 2 (by rw [List.length_drop]; omega), take_two _ 0 (by rw [List.length_drop]; omega)]
  simp [num, G16, G32]
  rw [show i + 2 + 1 = i + 3 from rfl]
  omega
/-- Num of two bytes, of four -/
theorem num16_any (b off n c : Nat) (zs : List Int) (i : Nat) (w : World) (hn : zs.length = n) (hi : i + 2 ≤ n) (hR : Rd w (some ⟨b, off, none⟩) zs) :
    Calls Try.prog 58 #[.slice (some ⟨b, off + i, none⟩) 2 c] w fun e w' => e = .returned (.int .i64 (G16 zs i)) ∧ w = w' := by
  have := num_any (some ⟨b, off + i, none⟩) 2 c ((zs.drop i).take 2) w (sub_len zs i 2 n hn hi) (by decide) (hR.sub i 2)
  rw [num2 zs i n hn hi] at this
  exact this
theorem num32_any (b off n c : Nat) (zs : List Int) (i : Nat) (w : World) (hn : zs.length = n) (hi : i + 4 ≤ n) (hR : Rd w (some ⟨b, off, none⟩) zs) :
    Calls Try.prog 58 #[.slice (some ⟨b, off + i, none⟩) 4 c] w fun e w' => e = .returned (.int .i64 (G32 zs i)) ∧ w = w' := by
  have := num_any (some ⟨b, off + i, none⟩) 4 c ((zs.drop i).take 4) w (sub_len zs i 4 n hn hi) (by decide) (hR.sub i 4)
  rw [num4 zs i n hn hi] at this
  exact this
theorem quiet_l {P : Program} {f : FuncId} {args : Array Value} {w : World} {n : Nat} {v : Value}
    (h : Calls P f args (w.drewN n) fun e w' => e = .returned v ∧ w.drewN n = w') : Calls P f args (w.drewN n) fun e w'' => e = .returned v ∧ ∃ m, w'' = w.drewN m :=
  h.mono fun _ _ ⟨he, hm⟩ => ⟨he, n, hm.symm⟩

theorem and3fff64 (x : Int) (h0 : 0 ≤ x) (h1 : x ≤ 65535) : bits .and .i64 x 16383 = x % 16384 := by
  obtain ⟨a, rfl⟩ := Int.eq_ofNat_of_zero_le h0
  have ha : a < 2 ^ 64 := by omega
  show IntKind.i64.wrap ((BitVec.ofInt 64 (a : Int) &&& BitVec.ofInt 64 (16383 : Int)).toNat : Int) = _
  have e1 : (BitVec.ofInt 64 (a : Int)).toNat = a := by rw [BitVec.ofInt_natCast, BitVec.toNat_ofNat]; exact Nat.mod_eq_of_lt ha
  have e2 : (BitVec.ofInt 64 (16383 : Int)).toNat = 16383 := by decide
  have e3 : a &&& 16383 = a % 16384 := Nat.and_two_pow_sub_one_eq_mod a 14
  rw [BitVec.toNat_and, e1, e2, e3, IntKind.wrap_i64]
  omega

set_option maxHeartbeats 4000000 in
theorem refGet_any (A : Option Addr) (n c : Nat) (zs : List Int) (w : World) (hn : zs.length = n) (hnc : n ≤ c) (hl : n ≤ 1000000) (hR : Rd w A zs) :
    Calls Try.prog 43 #[.slice A n c, .bool false] w fun e w' => e = .returned (.tuple #[(gtH zs).val, .int .i64 (gtE zs)]) ∧ Below w.heap.size w w' := by
  by_cases h20 : n < 20
  · have hr : rdE zs 1500 = 2 := by unfold rdE; rw [if_pos (by omega)]
    have he := Lib.hid (show gtE zs = 2 by unfold gtE; rw [hr, if_pos (by decide)])
    have hh := Lib.hid (show (gtH zs).val = .agg #[.int .i64 0, .int .i64 0, .int .i64 0, .int .i64 0, .int .u32 0, .int .u32 0] by unfold gtH; rw [he.out, if_neg (by decide)]; rfl)
    have i0 : (n : Int) < 20 := by omega
    clear hR hn hr
    go_enter Try.func43, Try.ntmps43
    go_wp2
    rw [he.out, hh.out]
    refine bodyPost_ret (v := .tuple #[.agg #[.int .i64 0, .int .i64 0, .int .i64 0, .int .i64 0, .int .u32 0, .int .u32 0], .int .i64 2]) (by simp [results, Try.results43, go_sem]) rfl ⟨rfl, ?_⟩
    exact (Below.refl _ _).alloc (Nat.le_refl _) _
  · have i0 : ¬ (n : Int) < 20 := by omega
    obtain ⟨b, off, rfl, hc⟩ := hR.2 (by omega)
    have b0 := hR.1.getD 0
    have b8 := hR.1.getD 8
    have b9 := hR.1.getD 9
    have r2 := G16_range zs hR.1 2
    have r6 := G16_range zs hR.1 6
    have r12 := G32_range zs hR.1 12
    have r16 := G32_range zs hR.1 16
    have hlt : b < w.heap.size := block_lt_of_cell (hc 0 (by omega))
    obtain ⟨z0, hz0⟩ : ∃ z, z = zs.getD 0 0 := ⟨_, rfl⟩
    obtain ⟨z8, hz8⟩ : ∃ z, z = zs.getD 8 0 := ⟨_, rfl⟩
    obtain ⟨z9, hz9⟩ : ∃ z, z = zs.getD 9 0 := ⟨_, rfl⟩
    obtain ⟨ln, hln⟩ : ∃ z, z = G16 zs 2 := ⟨_, rfl⟩
    obtain ⟨s4, hs4⟩ : ∃ z, z = G32 zs 12 := ⟨_, rfl⟩
    obtain ⟨s5, hs5⟩ : ∃ z, z = G32 zs 16 := ⟨_, rfl⟩
    have cellsAll : ∀ W, Rd W (some ⟨b, off, none⟩) zs → W.cell? ⟨b, off, none⟩ = some (.int .u8 z0) ∧ W.cell? ⟨b, off + 8, none⟩ = some (.int .u8 z8) ∧ W.cell? ⟨b, off + 9, none⟩ = some (.int .u8 z9) := fun W h => by
      obtain ⟨b', off', e, hc'⟩ := h.2 (by omega)
      injection e with e; injection e with e1 e2; subst e1 e2
      exact ⟨by rw [hz0]; exact hc' 0 (by omega), by rw [hz8]; exact hc' 8 (by omega), by rw [hz9]; exact hc' 9 (by omega)⟩
    rw [← hz0] at b0
    rw [← hz8] at b8
    rw [← hz9] at b9
    rw [← hln] at r2
    rw [← hs4] at r12
    rw [← hs5] at r16
    obtain ⟨sz, hsz⟩ : ∃ sz : Nat, (sz : Int) = z0 % 16 * 4 := ⟨(z0 % 16 * 4).toNat, by omega⟩
    have hfd : fld zs = ⟨(sz : Int), ln, z8, z9, s4, s5⟩ := by unfold fld; rw [← hz0, ← hz8, ← hz9, ← hln, ← hs4, ← hs5, hsz]
    have HRE := Lib.hid (show rdE zs 1500 = if z0 / 16 ≠ 4 then 3 else if (sz : Int) < 20 then 3 else if (n : Int) < (sz : Int) then 2 else if ln < (sz : Int) then 3 else if (1500 : Int) < ln then 3 else 0 by
      unfold rdE; rw [if_neg (by omega), hn, ← hz0, hfd])
    have HE := Lib.hid (show gtE zs = if rdE zs 1500 ≠ 0 then rdE zs 1500 else if (n : Int) < ln then 2 else if Cs (zs.take sz) ≠ 0 then 4 else if G16 zs 6 % 16384 ≠ 0 then 5 else 0 by
      unfold gtE; rw [hn, hfd]; rfl)
    have Hfld := Lib.hid hfd
    have HR := Lib.hid hR
    have Hn := Lib.hid hn
    have Hsz := Lib.hid hsz
    have hsz60 : (sz : Int) ≤ 60 := by omega
    have Hall := Lib.hid cellsAll
    have Hln := Lib.hid hln
    have Hs4 := Lib.hid hs4
    have Hs5 := Lib.hid hs5
    have i1 : 0 < n := by omega
    have ic : ¬ c < 20 := by omega
    have cm2 : ¬ c = 2 := by omega
    have cm6 : ¬ c = 6 := by omega
    have cm12 : ¬ c = 12 := by omega
    have cm16 : ¬ c = 16 := by omega
    have ici : (20 : Int) ≤ (c : Int) := by omega
    have ic16 : (16 : Int) ≤ (c : Int) := by omega
    have zm : IntKind.i64.wrap (z0 % 16) = z0 % 16 := by rw [IntKind.wrap_i64]; omega
    have zt : z0.tmod 16 = z0 % 16 := Int.tmod_eq_emod_of_nonneg b0.1
    have zq : IntKind.i64.wrap (z0 % 16 * 4) = z0 % 16 * 4 := by rw [IntKind.wrap_i64]; omega
    clear hc hR hn hfd hsz cellsAll hz0 hz8 hz9 hln hs4 hs5
    go_enter Try.func43, Try.ntmps43
    go_upto_region 3 with fail
    obtain ⟨w2, hw2⟩ : ∃ w2, w2 = w.alloc (.cells #[.int .i64 0, .int .i64 0, .int .i64 0, .int .i64 0, .int .u32 0, .int .u32 0] 84) := ⟨_, rfl⟩
    rw [← hw2]
    have bk2 : Blk w2 w.heap.size 84 #[.int .i64 0, .int .i64 0, .int .i64 0, .int .i64 0, .int .u32 0, .int .u32 0] := by rw [hw2]; exact Blk.new w _ _
    have Hb2 := Lib.hid (show Below w.heap.size w w2 by rw [hw2]; exact (Below.refl _ _).alloc (Nat.le_refl _) _)
    have HR2 := Lib.hid (HR.out.below Hb2.out)
    obtain ⟨c0, c8, c9⟩ := Hall.out _ HR2.out
    have k0 := bk2.cell 0
    have k1 := bk2.cell 1
    have k2 := bk2.cell 2
    have k3 := bk2.cell 3
    have k4 := bk2.cell 4
    have k5 := bk2.cell 5
    have f0 := bk2.frozen 0
    have f1 := bk2.frozen 1
    have f2 := bk2.frozen 2
    have f3 := bk2.frozen 3
    have f4 := bk2.frozen 4
    have f5 := bk2.frozen 5
    simp only [List.getElem?_toArray, List.getElem?_cons_zero, List.getElem?_cons_succ] at k0 k1 k2 k3 k4 k5
    have hne : w.heap.size ≠ b := by omega
    clear bk2 hw2
    go_quiet ((go_at_call 58; exact quiet_l (num16_any b off n _ zs 2 _ Hn.out (by omega) (HR2.out.drewN _))))
    rw [← Hsz.out, ← Hln.out]
    have Zq := Lib.hid (And.intro zm (And.intro zt zq))
    clear zm zt zq
    by_cases h4 : z0 / 16 = 4
    · have t4 : (z0 / 16 != 4) = false := by simp [h4]
      by_cases hs20 : (sz : Int) < 20
      · have d0 : decide ((sz : Int) < 20) = true := by simp [hs20]
        have hr : rdE zs 1500 = 3 := by rw [HRE.out, if_neg (by simp [h4]), if_pos hs20]
        have he := Lib.hid (show gtE zs = 3 by rw [HE.out, hr, if_pos (by decide)])
        have hh := Lib.hid (show (gtH zs).val = .agg #[.int .i64 0, .int .i64 0, .int .i64 0, .int .i64 0, .int .u32 0, .int .u32 0] by unfold gtH; rw [he.out, if_neg (by decide)]; rfl)
        clear hr
        clear h4
        go_wp2
        rw [he.out, hh.out]
        refine bodyPost_ret (v := .tuple #[.agg #[.int .i64 0, .int .i64 0, .int .i64 0, .int .i64 0, .int .u32 0, .int .u32 0], .int .i64 3]) (by simp [results, Try.results43, go_sem, k0, k1, k2, k3, k4, k5]) rfl ⟨rfl, ?_⟩
        exact below_set6 (below_drewN Hb2.out _) (Nat.le_refl _) _ _ _ _ _ _
      · have d0 : decide ((sz : Int) < 20) = false := by simp; omega
        by_cases hns : (n : Int) < (sz : Int)
        · skip
          have hr : rdE zs 1500 = 2 := by rw [HRE.out, if_neg (by simp [h4]), if_neg hs20, if_pos hns]
          have he := Lib.hid (show gtE zs = 2 by rw [HE.out, hr, if_pos (by decide)])
          have hh := Lib.hid (show (gtH zs).val = .agg #[.int .i64 0, .int .i64 0, .int .i64 0, .int .i64 0, .int .u32 0, .int .u32 0] by unfold gtH; rw [he.out, if_neg (by decide)]; rfl)
          clear hr
          clear h4
          go_wp2
          rw [he.out, hh.out]
          refine bodyPost_ret (v := .tuple #[.agg #[.int .i64 0, .int .i64 0, .int .i64 0, .int .i64 0, .int .u32 0, .int .u32 0], .int .i64 2]) (by simp [results, Try.results43, go_sem, k0, k1, k2, k3, k4, k5]) rfl ⟨rfl, ?_⟩
          exact below_set6 (below_drewN Hb2.out _) (Nat.le_refl _) _ _ _ _ _ _
        · by_cases hl1 : ln < (sz : Int)
          · have d1 : decide (ln < (sz : Int)) = true := by simp [hl1]
            have hr : rdE zs 1500 = 3 := by rw [HRE.out, if_neg (by simp [h4]), if_neg hs20, if_neg hns, if_pos hl1]
            have he := Lib.hid (show gtE zs = 3 by rw [HE.out, hr, if_pos (by decide)])
            have hh := Lib.hid (show (gtH zs).val = .agg #[.int .i64 0, .int .i64 0, .int .i64 0, .int .i64 0, .int .u32 0, .int .u32 0] by unfold gtH; rw [he.out, if_neg (by decide)]; rfl)
            clear hr
            clear h4
            go_wp2
            rw [he.out, hh.out]
            refine bodyPost_ret (v := .tuple #[.agg #[.int .i64 0, .int .i64 0, .int .i64 0, .int .i64 0, .int .u32 0, .int .u32 0], .int .i64 3]) (by simp [results, Try.results43, go_sem, k0, k1, k2, k3, k4, k5]) rfl ⟨rfl, ?_⟩
            exact below_set6 (below_drewN Hb2.out _) (Nat.le_refl _) _ _ _ _ _ _
          · have d1 : decide (ln < (sz : Int)) = false := by simp; omega
            by_cases hl2 : (1500 : Int) < ln
            · have d2 : decide ((1500 : Int) < ln) = true := by simp [hl2]
              have hr : rdE zs 1500 = 3 := by rw [HRE.out, if_neg (by simp [h4]), if_neg hs20, if_neg hns, if_neg hl1, if_pos hl2]
              have he := Lib.hid (show gtE zs = 3 by rw [HE.out, hr, if_pos (by decide)])
              have hh := Lib.hid (show (gtH zs).val = .agg #[.int .i64 0, .int .i64 0, .int .i64 0, .int .i64 0, .int .u32 0, .int .u32 0] by unfold gtH; rw [he.out, if_neg (by decide)]; rfl)
              clear hr
              clear h4
              go_wp2
              rw [he.out, hh.out]
              refine bodyPost_ret (v := .tuple #[.agg #[.int .i64 0, .int .i64 0, .int .i64 0, .int .i64 0, .int .u32 0, .int .u32 0], .int .i64 3]) (by simp [results, Try.results43, go_sem, k0, k1, k2, k3, k4, k5]) rfl ⟨rfl, ?_⟩
              exact below_set6 (below_drewN Hb2.out _) (Nat.le_refl _) _ _ _ _ _ _
            · have d2 : decide ((1500 : Int) < ln) = false := by simp; omega
              have hr : rdE zs 1500 = 0 := by rw [HRE.out, if_neg (by simp [h4]), if_neg hs20, if_neg hns, if_neg hl1, if_neg hl2]
              have HE2 := Lib.hid (show gtE zs = if (n : Int) < ln then 2 else if Cs (zs.take sz) ≠ 0 then 4 else if G16 zs 6 % 16384 ≠ 0 then 5 else 0 by rw [HE.out, hr, if_neg (by decide)])
              clear hr h4
              by_cases hl3 : (n : Int) < ln
              · have d3 : decide ((n : Int) < ln) = true := by simp [hl3]
                have he := Lib.hid (show gtE zs = 2 by rw [HE2.out, if_pos hl3])
                have hh := Lib.hid (show (gtH zs).val = .agg #[.int .i64 0, .int .i64 0, .int .i64 0, .int .i64 0, .int .u32 0, .int .u32 0] by unfold gtH; rw [he.out, if_neg (by decide)]; rfl)
                go_wp2
                rw [he.out, hh.out]
                refine bodyPost_ret (v := .tuple #[.agg #[.int .i64 0, .int .i64 0, .int .i64 0, .int .i64 0, .int .u32 0, .int .u32 0], .int .i64 2]) (by simp [results, Try.results43, go_sem, k0, k1, k2, k3, k4, k5]) rfl ⟨rfl, ?_⟩
                exact below_set6 (below_drewN Hb2.out _) (Nat.le_refl _) _ _ _ _ _ _
              · have d3 : decide ((n : Int) < ln) = false := by simp; omega
                have isz : (sz : Int) ≤ (c : Int) := by omega
                have isz0 : (0 : Int) ≤ (sz : Int) := by omega
                go_wp2_with fail
                refine (refOf_n _ sz c (zs.take sz) _ (by rw [List.length_take, Hn.out]; omega) (by omega) ((HR2.out.drewN nq).take sz)).mono ?_
                rintro e w' ⟨rfl, rfl⟩
                have hc16 := Cs_range _ (HR.out.1.take sz)
                by_cases hcs : Cs (zs.take sz) = 0
                · have t1 : (Cs (zs.take sz) != 0) = false := by simp [hcs]
                  have HE3 := Lib.hid (show gtE zs = if G16 zs 6 % 16384 ≠ 0 then 5 else 0 by rw [HE2.out, if_neg (by omega), if_neg (by simp [hcs])])
                  clear hcs
                  have an := and3fff64 _ r6.1 r6.2
                  go_wp2_with fail
                  refine (num16_any b off n _ zs 6 _ Hn.out (by omega) (HR2.out.drewN nq)).mono ?_
                  rintro e w' ⟨rfl, rfl⟩
                  by_cases hp : G16 zs 6 % 16384 = 0
                  · have t2 : (G16 zs 6 % 16384 != 0) = false := by simp [hp]
                    have he := Lib.hid (show gtE zs = 0 by rw [HE3.out, if_neg (by simp [hp])])
                    have hh := Lib.hid (show (gtH zs).val = .agg #[.int .i64 (sz : Int), .int .i64 ln, .int .i64 z8, .int .i64 z9, .int .u32 s4, .int .u32 s5] by unfold gtH; rw [he.out, if_pos rfl, Hfld.out]; rfl)
                    clear hp c0 c8 c9
                    go_upto_region 16 with fail
                    have kk8 : ∀ W, Rd W (some ⟨b, off, none⟩) zs → W.cell? ⟨b, off + 8, none⟩ = some (.int .u8 z8) := fun W h => (Hall.out W h).2.1
                    have kk9 : ∀ W, Rd W (some ⟨b, off, none⟩) zs → W.cell? ⟨b, off + 9, none⟩ = some (.int .u8 z9) := fun W h => (Hall.out W h).2.2
                    have i8 : (8 : Int) < (n : Int) := by omega
                    have i9 : (9 : Int) < (n : Int) := by omega
                    have v8 : IntKind.i64.wrap z8 = z8 := by rw [IntKind.wrap_i64]; omega
                    have v9 : IntKind.i64.wrap z9 = z9 := by rw [IntKind.wrap_i64]; omega
                    have v4 : IntKind.u32.wrap (G32 zs 12) = G32 zs 12 := by rw [IntKind.wrap_u32', ← Hs4.out]; omega
                    have v5 : IntKind.u32.wrap (G32 zs 16) = G32 zs 16 := by rw [IntKind.wrap_u32', ← Hs5.out]; omega
                    go_region_held3 (fun w' => Rd w' (some ⟨b, off, none⟩) zs)
                      (first | (with_reducible exact (HR2.out.drewN _).drew) | (with_reducible exact HR2.out.drewN _) | (with_reducible exact Rd.set6 (by assumption) hne _ _ _ _ _ _))
                      (first
                        | (go_at_call 58; (with_reducible refine (num32_any b off n _ zs 12 _ Hn.out (by omega) ?_).mono ?_); (first | (with_reducible exact (HR2.out.drewN _).drew) | (with_reducible exact HR2.out.drewN _) | (with_reducible assumption)); rintro e w' ⟨rfl, rfl⟩)
                        | (go_at_call 58; (with_reducible refine (num32_any b off n _ zs 16 _ Hn.out (by omega) ?_).mono ?_); (first | (with_reducible exact (HR2.out.drewN _).drew) | (with_reducible exact HR2.out.drewN _) | (with_reducible assumption)); rintro e w' ⟨rfl, rfl⟩))
                    go_wp2
                    rw [← Hs4.out, ← Hs5.out]
                    rw [he.out, hh.out]
                    refine bodyPost_ret (v := .tuple #[.agg #[.int .i64 (sz : Int), .int .i64 ln, .int .i64 z8, .int .i64 z9, .int .u32 s4, .int .u32 s5], .int .i64 0]) (by simp [results, Try.results43, go_sem, k0, k1, k2, k3, k4, k5]) rfl ⟨rfl, ?_⟩
                    exact below_set6 (below_drewN Hb2.out _) (Nat.le_refl _) _ _ _ _ _ _
                  · have t2 : (G16 zs 6 % 16384 != 0) = true := by rw [bne_iff_ne]; exact hp
                    have he := Lib.hid (show gtE zs = 5 by rw [HE3.out, if_pos hp])
                    have hh := Lib.hid (show (gtH zs).val = .agg #[.int .i64 0, .int .i64 0, .int .i64 0, .int .i64 0, .int .u32 0, .int .u32 0] by unfold gtH; rw [he.out, if_neg (by decide)]; rfl)
                    clear hp
                    go_wp2
                    rw [he.out, hh.out]
                    refine bodyPost_ret (v := .tuple #[.agg #[.int .i64 0, .int .i64 0, .int .i64 0, .int .i64 0, .int .u32 0, .int .u32 0], .int .i64 5]) (by simp [results, Try.results43, go_sem, k0, k1, k2, k3, k4, k5]) rfl ⟨rfl, ?_⟩
                    exact below_set6 (below_drewN Hb2.out _) (Nat.le_refl _) _ _ _ _ _ _
                · have t1 : (Cs (zs.take sz) != 0) = true := by rw [bne_iff_ne]; exact hcs
                  have he := Lib.hid (show gtE zs = 4 by rw [HE2.out, if_neg (by omega), if_pos hcs])
                  have hh := Lib.hid (show (gtH zs).val = .agg #[.int .i64 0, .int .i64 0, .int .i64 0, .int .i64 0, .int .u32 0, .int .u32 0] by unfold gtH; rw [he.out, if_neg (by decide)]; rfl)
                  clear hcs
                  go_wp2
                  rw [he.out, hh.out]
                  refine bodyPost_ret (v := .tuple #[.agg #[.int .i64 0, .int .i64 0, .int .i64 0, .int .i64 0, .int .u32 0, .int .u32 0], .int .i64 4]) (by simp [results, Try.results43, go_sem, k0, k1, k2, k3, k4, k5]) rfl ⟨rfl, ?_⟩
                  exact below_set6 (below_drewN Hb2.out _) (Nat.le_refl _) _ _ _ _ _ _
    · have t4 : (z0 / 16 != 4) = true := by rw [bne_iff_ne]; exact h4
      have hr : rdE zs 1500 = 3 := by rw [HRE.out, if_pos h4]
      have he := Lib.hid (show gtE zs = 3 by rw [HE.out, hr, if_pos (by decide)])
      have hh := Lib.hid (show (gtH zs).val = .agg #[.int .i64 0, .int .i64 0, .int .i64 0, .int .i64 0, .int .u32 0, .int .u32 0] by unfold gtH; rw [he.out, if_neg (by decide)]; rfl)
      clear hr
      clear h4
      go_wp2
      rw [he.out, hh.out]
      refine bodyPost_ret (v := .tuple #[.agg #[.int .i64 0, .int .i64 0, .int .i64 0, .int .i64 0, .int .u32 0, .int .u32 0], .int .i64 3]) (by simp [results, Try.results43, go_sem, k0, k1, k2, k3, k4, k5]) rfl ⟨rfl, ?_⟩
      exact below_set6 (below_drewN Hb2.out _) (Nat.le_refl _) _ _ _ _ _ _

set_option maxHeartbeats 4000000 in
theorem refPart_any (A : Option Addr) (n c : Nat) (zs : List Int) (w : World) (hn : zs.length = n) (hnc : n ≤ c) (hl : n ≤ 1000000) (hR : Rd w A zs) :
    Calls Try.prog 43 #[.slice A n c, .bool true] w fun e w' => e = .returned (.tuple #[(ptH zs).val, .int .i64 (ptE zs)]) ∧ Below w.heap.size w w' := by
  by_cases h20 : n < 20
  · have hr : rdE zs 65535 = 2 := by unfold rdE; rw [if_pos (by omega)]
    have he := Lib.hid (show ptE zs = 2 by unfold ptE; rw [hr, if_pos (by decide)])
    have hh := Lib.hid (show (ptH zs).val = .agg #[.int .i64 0, .int .i64 0, .int .i64 0, .int .i64 0, .int .u32 0, .int .u32 0] by unfold ptH; rw [he.out, if_neg (by decide)]; rfl)
    have i0 : (n : Int) < 20 := by omega
    clear hR hn hr
    go_enter Try.func43, Try.ntmps43
    go_wp2
    rw [he.out, hh.out]
    refine bodyPost_ret (v := .tuple #[.agg #[.int .i64 0, .int .i64 0, .int .i64 0, .int .i64 0, .int .u32 0, .int .u32 0], .int .i64 2]) (by simp [results, Try.results43, go_sem]) rfl ⟨rfl, ?_⟩
    exact (Below.refl _ _).alloc (Nat.le_refl _) _
  · have i0 : ¬ (n : Int) < 20 := by omega
    obtain ⟨b, off, rfl, hc⟩ := hR.2 (by omega)
    have b0 := hR.1.getD 0
    have b8 := hR.1.getD 8
    have b9 := hR.1.getD 9
    have r2 := G16_range zs hR.1 2
    have r6 := G16_range zs hR.1 6
    have r12 := G32_range zs hR.1 12
    have r16 := G32_range zs hR.1 16
    have hlt : b < w.heap.size := block_lt_of_cell (hc 0 (by omega))
    obtain ⟨z0, hz0⟩ : ∃ z, z = zs.getD 0 0 := ⟨_, rfl⟩
    obtain ⟨z8, hz8⟩ : ∃ z, z = zs.getD 8 0 := ⟨_, rfl⟩
    obtain ⟨z9, hz9⟩ : ∃ z, z = zs.getD 9 0 := ⟨_, rfl⟩
    obtain ⟨ln, hln⟩ : ∃ z, z = G16 zs 2 := ⟨_, rfl⟩
    obtain ⟨s4, hs4⟩ : ∃ z, z = G32 zs 12 := ⟨_, rfl⟩
    obtain ⟨s5, hs5⟩ : ∃ z, z = G32 zs 16 := ⟨_, rfl⟩
    have cellsAll : ∀ W, Rd W (some ⟨b, off, none⟩) zs → W.cell? ⟨b, off, none⟩ = some (.int .u8 z0) ∧ W.cell? ⟨b, off + 8, none⟩ = some (.int .u8 z8) ∧ W.cell? ⟨b, off + 9, none⟩ = some (.int .u8 z9) := fun W h => by
      obtain ⟨b', off', e, hc'⟩ := h.2 (by omega)
      injection e with e; injection e with e1 e2; subst e1 e2
      exact ⟨by rw [hz0]; exact hc' 0 (by omega), by rw [hz8]; exact hc' 8 (by omega), by rw [hz9]; exact hc' 9 (by omega)⟩
    rw [← hz0] at b0
    rw [← hz8] at b8
    rw [← hz9] at b9
    rw [← hln] at r2
    rw [← hs4] at r12
    rw [← hs5] at r16
    obtain ⟨sz, hsz⟩ : ∃ sz : Nat, (sz : Int) = z0 % 16 * 4 := ⟨(z0 % 16 * 4).toNat, by omega⟩
    have hfd : fld zs = ⟨(sz : Int), ln, z8, z9, s4, s5⟩ := by unfold fld; rw [← hz0, ← hz8, ← hz9, ← hln, ← hs4, ← hs5, hsz]
    have HRE := Lib.hid (show rdE zs 65535 = if z0 / 16 ≠ 4 then 3 else if (sz : Int) < 20 then 3 else if (n : Int) < (sz : Int) then 2 else if ln < (sz : Int) then 3 else if (65535 : Int) < ln then 3 else 0 by
      unfold rdE; rw [if_neg (by omega), hn, ← hz0, hfd])
    have HE := Lib.hid (show ptE zs = if rdE zs 65535 ≠ 0 then rdE zs 65535 else if G16 zs 6 % 16384 ≠ 0 then 5 else 0 from rfl)
    have Hfld := Lib.hid hfd
    have HR := Lib.hid hR
    have Hn := Lib.hid hn
    have Hsz := Lib.hid hsz
    have hsz60 : (sz : Int) ≤ 60 := by omega
    have Hall := Lib.hid cellsAll
    have Hln := Lib.hid hln
    have Hs4 := Lib.hid hs4
    have Hs5 := Lib.hid hs5
    have i1 : 0 < n := by omega
    have ic : ¬ c < 20 := by omega
    have cm2 : ¬ c = 2 := by omega
    have cm6 : ¬ c = 6 := by omega
    have cm12 : ¬ c = 12 := by omega
    have cm16 : ¬ c = 16 := by omega
    have ici : (20 : Int) ≤ (c : Int) := by omega
    have ic16 : (16 : Int) ≤ (c : Int) := by omega
    have zm : IntKind.i64.wrap (z0 % 16) = z0 % 16 := by rw [IntKind.wrap_i64]; omega
    have zt : z0.tmod 16 = z0 % 16 := Int.tmod_eq_emod_of_nonneg b0.1
    have zq : IntKind.i64.wrap (z0 % 16 * 4) = z0 % 16 * 4 := by rw [IntKind.wrap_i64]; omega
    clear hc hR hn hfd hsz cellsAll hz0 hz8 hz9 hln hs4 hs5
    go_enter Try.func43, Try.ntmps43
    go_upto_region 3 with fail
    obtain ⟨w2, hw2⟩ : ∃ w2, w2 = w.alloc (.cells #[.int .i64 0, .int .i64 0, .int .i64 0, .int .i64 0, .int .u32 0, .int .u32 0] 84) := ⟨_, rfl⟩
    rw [← hw2]
    have bk2 : Blk w2 w.heap.size 84 #[.int .i64 0, .int .i64 0, .int .i64 0, .int .i64 0, .int .u32 0, .int .u32 0] := by rw [hw2]; exact Blk.new w _ _
    have Hb2 := Lib.hid (show Below w.heap.size w w2 by rw [hw2]; exact (Below.refl _ _).alloc (Nat.le_refl _) _)
    have HR2 := Lib.hid (HR.out.below Hb2.out)
    obtain ⟨c0, c8, c9⟩ := Hall.out _ HR2.out
    have k0 := bk2.cell 0
    have k1 := bk2.cell 1
    have k2 := bk2.cell 2
    have k3 := bk2.cell 3
    have k4 := bk2.cell 4
    have k5 := bk2.cell 5
    have f0 := bk2.frozen 0
    have f1 := bk2.frozen 1
    have f2 := bk2.frozen 2
    have f3 := bk2.frozen 3
    have f4 := bk2.frozen 4
    have f5 := bk2.frozen 5
    simp only [List.getElem?_toArray, List.getElem?_cons_zero, List.getElem?_cons_succ] at k0 k1 k2 k3 k4 k5
    have hne : w.heap.size ≠ b := by omega
    clear bk2 hw2
    go_quiet ((go_at_call 58; exact quiet_l (num16_any b off n _ zs 2 _ Hn.out (by omega) (HR2.out.drewN _))))
    rw [← Hsz.out, ← Hln.out]
    have Zq := Lib.hid (And.intro zm (And.intro zt zq))
    clear zm zt zq
    by_cases h4 : z0 / 16 = 4
    · have t4 : (z0 / 16 != 4) = false := by simp [h4]
      by_cases hs20 : (sz : Int) < 20
      · have d0 : decide ((sz : Int) < 20) = true := by simp [hs20]
        have hr : rdE zs 65535 = 3 := by rw [HRE.out, if_neg (by simp [h4]), if_pos hs20]
        have he := Lib.hid (show ptE zs = 3 by rw [HE.out, hr, if_pos (by decide)])
        have hh := Lib.hid (show (ptH zs).val = .agg #[.int .i64 0, .int .i64 0, .int .i64 0, .int .i64 0, .int .u32 0, .int .u32 0] by unfold ptH; rw [he.out, if_neg (by decide)]; rfl)
        clear hr
        clear h4
        go_wp2
        rw [he.out, hh.out]
        refine bodyPost_ret (v := .tuple #[.agg #[.int .i64 0, .int .i64 0, .int .i64 0, .int .i64 0, .int .u32 0, .int .u32 0], .int .i64 3]) (by simp [results, Try.results43, go_sem, k0, k1, k2, k3, k4, k5]) rfl ⟨rfl, ?_⟩
        exact below_set6 (below_drewN Hb2.out _) (Nat.le_refl _) _ _ _ _ _ _
      · have d0 : decide ((sz : Int) < 20) = false := by simp; omega
        by_cases hns : (n : Int) < (sz : Int)
        · skip
          have hr : rdE zs 65535 = 2 := by rw [HRE.out, if_neg (by simp [h4]), if_neg hs20, if_pos hns]
          have he := Lib.hid (show ptE zs = 2 by rw [HE.out, hr, if_pos (by decide)])
          have hh := Lib.hid (show (ptH zs).val = .agg #[.int .i64 0, .int .i64 0, .int .i64 0, .int .i64 0, .int .u32 0, .int .u32 0] by unfold ptH; rw [he.out, if_neg (by decide)]; rfl)
          clear hr
          clear h4
          go_wp2
          rw [he.out, hh.out]
          refine bodyPost_ret (v := .tuple #[.agg #[.int .i64 0, .int .i64 0, .int .i64 0, .int .i64 0, .int .u32 0, .int .u32 0], .int .i64 2]) (by simp [results, Try.results43, go_sem, k0, k1, k2, k3, k4, k5]) rfl ⟨rfl, ?_⟩
          exact below_set6 (below_drewN Hb2.out _) (Nat.le_refl _) _ _ _ _ _ _
        · by_cases hl1 : ln < (sz : Int)
          · have d1 : decide (ln < (sz : Int)) = true := by simp [hl1]
            have hr : rdE zs 65535 = 3 := by rw [HRE.out, if_neg (by simp [h4]), if_neg hs20, if_neg hns, if_pos hl1]
            have he := Lib.hid (show ptE zs = 3 by rw [HE.out, hr, if_pos (by decide)])
            have hh := Lib.hid (show (ptH zs).val = .agg #[.int .i64 0, .int .i64 0, .int .i64 0, .int .i64 0, .int .u32 0, .int .u32 0] by unfold ptH; rw [he.out, if_neg (by decide)]; rfl)
            clear hr
            clear h4
            go_wp2
            rw [he.out, hh.out]
            refine bodyPost_ret (v := .tuple #[.agg #[.int .i64 0, .int .i64 0, .int .i64 0, .int .i64 0, .int .u32 0, .int .u32 0], .int .i64 3]) (by simp [results, Try.results43, go_sem, k0, k1, k2, k3, k4, k5]) rfl ⟨rfl, ?_⟩
            exact below_set6 (below_drewN Hb2.out _) (Nat.le_refl _) _ _ _ _ _ _
          · have d1 : decide (ln < (sz : Int)) = false := by simp; omega
            have hr : rdE zs 65535 = 0 := by rw [HRE.out, if_neg (by simp [h4]), if_neg hs20, if_neg hns, if_neg hl1, if_neg (by omega)]
            have HE3 := Lib.hid (show ptE zs = if G16 zs 6 % 16384 ≠ 0 then 5 else 0 by rw [HE.out, hr, if_neg (by decide)])
            clear hr h4
            have dd : True := trivial
            have an := and3fff64 _ r6.1 r6.2
            rcases Bool.eq_false_or_eq_true (decide ((1500 : Int) < ln)) with d2 | d2 <;> rcases Bool.eq_false_or_eq_true (decide ((n : Int) < ln)) with d3 | d3
            all_goals
              go_wp2_with fail
              refine (num16_any b off n _ zs 6 _ Hn.out (by omega) (HR2.out.drewN nq)).mono ?_
              rintro e w' ⟨rfl, rfl⟩
              by_cases hp : G16 zs 6 % 16384 = 0
              · have t2 : (G16 zs 6 % 16384 != 0) = false := by simp [hp]
                have he := Lib.hid (show ptE zs = 0 by rw [HE3.out, if_neg (by simp [hp])])
                have hh := Lib.hid (show (ptH zs).val = .agg #[.int .i64 (sz : Int), .int .i64 ln, .int .i64 z8, .int .i64 z9, .int .u32 s4, .int .u32 s5] by unfold ptH; rw [he.out, if_pos rfl, Hfld.out]; rfl)
                clear hp c0 c8 c9
                go_upto_region 16 with fail
                have kk8 : ∀ W, Rd W (some ⟨b, off, none⟩) zs → W.cell? ⟨b, off + 8, none⟩ = some (.int .u8 z8) := fun W h => (Hall.out W h).2.1
                have kk9 : ∀ W, Rd W (some ⟨b, off, none⟩) zs → W.cell? ⟨b, off + 9, none⟩ = some (.int .u8 z9) := fun W h => (Hall.out W h).2.2
                have i8 : (8 : Int) < (n : Int) := by omega
                have i9 : (9 : Int) < (n : Int) := by omega
                have v8 : IntKind.i64.wrap z8 = z8 := by rw [IntKind.wrap_i64]; omega
                have v9 : IntKind.i64.wrap z9 = z9 := by rw [IntKind.wrap_i64]; omega
                have v4 : IntKind.u32.wrap (G32 zs 12) = G32 zs 12 := by rw [IntKind.wrap_u32', ← Hs4.out]; omega
                have v5 : IntKind.u32.wrap (G32 zs 16) = G32 zs 16 := by rw [IntKind.wrap_u32', ← Hs5.out]; omega
                go_region_held3 (fun w' => Rd w' (some ⟨b, off, none⟩) zs)
                  (first | (with_reducible exact (HR2.out.drewN _).drew) | (with_reducible exact HR2.out.drewN _) | (with_reducible exact Rd.set6 (by assumption) hne _ _ _ _ _ _))
                  (first
                    | (go_at_call 58; (with_reducible refine (num32_any b off n _ zs 12 _ Hn.out (by omega) ?_).mono ?_); (first | (with_reducible exact (HR2.out.drewN _).drew) | (with_reducible exact HR2.out.drewN _) | (with_reducible assumption)); rintro e w' ⟨rfl, rfl⟩)
                    | (go_at_call 58; (with_reducible refine (num32_any b off n _ zs 16 _ Hn.out (by omega) ?_).mono ?_); (first | (with_reducible exact (HR2.out.drewN _).drew) | (with_reducible exact HR2.out.drewN _) | (with_reducible assumption)); rintro e w' ⟨rfl, rfl⟩))
                go_wp2
                rw [← Hs4.out, ← Hs5.out]
                rw [he.out, hh.out]
                refine bodyPost_ret (v := .tuple #[.agg #[.int .i64 (sz : Int), .int .i64 ln, .int .i64 z8, .int .i64 z9, .int .u32 s4, .int .u32 s5], .int .i64 0]) (by simp [results, Try.results43, go_sem, k0, k1, k2, k3, k4, k5]) rfl ⟨rfl, ?_⟩
                exact below_set6 (below_drewN Hb2.out _) (Nat.le_refl _) _ _ _ _ _ _
              · have t2 : (G16 zs 6 % 16384 != 0) = true := by rw [bne_iff_ne]; exact hp
                have he := Lib.hid (show ptE zs = 5 by rw [HE3.out, if_pos hp])
                have hh := Lib.hid (show (ptH zs).val = .agg #[.int .i64 0, .int .i64 0, .int .i64 0, .int .i64 0, .int .u32 0, .int .u32 0] by unfold ptH; rw [he.out, if_neg (by decide)]; rfl)
                clear hp
                go_wp2
                rw [he.out, hh.out]
                refine bodyPost_ret (v := .tuple #[.agg #[.int .i64 0, .int .i64 0, .int .i64 0, .int .i64 0, .int .u32 0, .int .u32 0], .int .i64 5]) (by simp [results, Try.results43, go_sem, k0, k1, k2, k3, k4, k5]) rfl ⟨rfl, ?_⟩
                exact below_set6 (below_drewN Hb2.out _) (Nat.le_refl _) _ _ _ _ _ _
    · have t4 : (z0 / 16 != 4) = true := by rw [bne_iff_ne]; exact h4
      have hr : rdE zs 65535 = 3 := by rw [HRE.out, if_pos h4]
      have he := Lib.hid (show ptE zs = 3 by rw [HE.out, hr, if_pos (by decide)])
      have hh := Lib.hid (show (ptH zs).val = .agg #[.int .i64 0, .int .i64 0, .int .i64 0, .int .i64 0, .int .u32 0, .int .u32 0] by unfold ptH; rw [he.out, if_neg (by decide)]; rfl)
      clear hr
      clear h4
      go_wp2
      rw [he.out, hh.out]
      refine bodyPost_ret (v := .tuple #[.agg #[.int .i64 0, .int .i64 0, .int .i64 0, .int .i64 0, .int .u32 0, .int .u32 0], .int .i64 3]) (by simp [results, Try.results43, go_sem, k0, k1, k2, k3, k4, k5]) rfl ⟨rfl, ?_⟩
      exact below_set6 (below_drewN Hb2.out _) (Nat.le_refl _) _ _ _ _ _ _

end Go.Proofs.Ytbnlpidhbilenaa
