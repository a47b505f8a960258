/-
  turns.Orders: of each worker how many of its Dones are in order. Conditions stand in each theorem.
-/
import Derived.Test.YtaoookahpbalaaaGoes
import Derived.StillTailTactics
namespace Go.Proofs.Ytaoookahpbalaaa
open Go.RowKit Plain
set_option linter.unusedVariables false
set_option maxRecDepth 100000

/-- Dones that lie one behind the other -/
def RdD (w : World) (A : Option Addr) (ds : List (Int × Int × Int)) : Prop :=
  0 < ds.length → ∃ b off, A = some ⟨b, off, none⟩ ∧ b < w.heap.size ∧ ∀ i, i < ds.length →
    w.cell? ⟨b, off + i * 3, none⟩ = some (.int .i64 (ds.getD i default).1) ∧ w.cell? ⟨b, off + i * 3 + 1, none⟩ = some (.int .i64 (ds.getD i default).2.1) ∧ w.cell? ⟨b, off + i * 3 + 2, none⟩ = some (.int .u64 (ds.getD i default).2.2)
theorem RdD.below {w w' : World} {A : Option Addr} {ds : List (Int × Int × Int)} {B : Nat} (h : RdD w A ds) (hb : Below B w w') (hB : w.heap.size ≤ B) : RdD w' A ds := fun hp => by
  obtain ⟨b, off, e, hl, hc⟩ := h hp
  refine ⟨b, off, e, Nat.lt_of_lt_of_le hl hb.size, fun i hi => ?_⟩
  obtain ⟨h0, h1, h2⟩ := hc i hi
  exact ⟨(hb.cell (p := ⟨b, _, none⟩) (show b < B by omega)).trans h0, (hb.cell (p := ⟨b, _, none⟩) (show b < B by omega)).trans h1, (hb.cell (p := ⟨b, _, none⟩) (show b < B by omega)).trans h2⟩

/-- one Done more -/
def oStep (n : Nat) (s : (Nat → Nat) × (Nat → Bool)) (x : Int × Int × Int) : (Nat → Nat) × (Nat → Bool) :=
  if 0 ≤ x.1 ∧ x.1 < (n : Int) then (if s.2 x.1.toNat = true then s else if x.2.1 = (s.1 x.1.toNat : Int) then (upd s.1 x.1.toNat (s.1 x.1.toNat + 1), s.2) else (s.1, upd s.2 x.1.toNat true)) else s
def oFold (n : Nat) (ds : List (Int × Int × Int)) : (Nat → Nat) × (Nat → Bool) := ds.foldl (oStep n) (fun _ => 0, fun _ => false)
theorem take_oneD (ds : List (Int × Int × Int)) (k : Nat) (h : k < ds.length) : ds.take (k + 1) = ds.take k ++ [ds.getD k default] := by
  rw [List.take_succ_eq_append_getElem h]; simp [List.getD, h]
theorem oFold_snoc (n : Nat) (ds : List (Int × Int × Int)) (k : Nat) (h : k < ds.length) : oFold n (ds.take (k + 1)) = oStep n (oFold n (ds.take k)) (ds.getD k default) := by
  unfold oFold; rw [take_oneD ds k h, List.foldl_append]; rfl
theorem oFold_le (n : Nat) : ∀ (ds : List (Int × Int × Int)) (s : (Nat → Nat) × (Nat → Bool)) (m : Nat), (∀ k, s.1 k ≤ m) → ∀ k, (ds.foldl (oStep n) s).1 k ≤ m + ds.length
  | [], s, m, h, k => by simpa using h k
  | x :: ds, s, m, h, k => by
      have := oFold_le n ds (oStep n s x) (m + 1) (fun j => by
        unfold oStep
        split
        · split
          · have := h j; omega
          · split
            · show upd s.1 _ _ j ≤ _
              unfold upd; split
              · have := h x.1.toNat; omega
              · have := h j; omega
            · have := h j; show s.1 j ≤ _; omega
        · have := h j; omega) k
      simp only [List.foldl_cons, List.length_cons]; omega
theorem infoI : (Try.prog.info? 3).map (fun i => (i.zero, i.size, i.bytes)) = some (some (.int .i64 0), 1, 8) := by kernel_rfl
theorem mkI (n : Nat) (hn : n ≤ 1000000) (w : World) : (Instr.makeSlice 50 (.int .i64 n) (.int .i64 n)).run Try.prog w = .ok (.slice (some ⟨w.heap.size, 0, none⟩) n n) (w.alloc (.cells ((List.replicate n (0 : Int)).map (Value.int .i64)).toArray 3)) :=
  run_mkN 50 3 .i64 8 Try.underlying50 infoI (by omega) n hn w

/-- who is out of order -/
structure BkB (w : World) (gb : Nat) (f : Nat → Bool) : Prop where
  bl : ∃ cs, Blk w gb 124 cs
  at_ : ∀ k, k < 64 → w.cell? ⟨gb, k, none⟩ = some (.bool (f k))
theorem BkB.free {w : World} {gb : Nat} {f : Nat → Bool} (h : BkB w gb f) (k : Nat) : w.frozen? ⟨gb, k, none⟩ = false := by obtain ⟨cs, hb⟩ := h.bl; exact hb.frozen k
theorem BkB.lt {w : World} {gb : Nat} {f : Nat → Bool} (h : BkB w gb f) : gb < w.heap.size := by obtain ⟨cs, hb⟩ := h.bl; exact hb.lt
theorem BkB.keep {w w' : World} {gb : Nat} {f : Nat → Bool} {bs : List Nat} (h : BkB w gb f) (hk : Keep bs w w') (hg : gb ∉ bs) : BkB w' gb f := by
  obtain ⟨cs, hb⟩ := h.bl
  exact ⟨⟨cs, hk.blk hb hg⟩, fun k hk' => (hk.cell (p := ⟨gb, k, none⟩) hb.lt hg).trans (h.at_ k hk')⟩
theorem BkB.set {w : World} {gb : Nat} {f : Nat → Bool} (h : BkB w gb f) (k : Nat) (hk : k < 64) (b : Bool) : BkB (w.setCell ⟨gb, k, none⟩ (.bool b)) gb (upd f k b) := by
  obtain ⟨cs, hb⟩ := h.bl
  refine ⟨⟨_, hb.set _ _⟩, fun j hj => ?_⟩
  by_cases e : j = k
  · subst e; rw [upd_same]; exact World.cell?_setCell_same _ _ _ (h.at_ j hj)
  · unfold upd; rw [if_neg e, World.cell?_setCell_other _ _ _ _ (by simp <;> omega)]; exact h.at_ j hj
theorem rep_at {v : Value} (n k : Nat) (h : k < n) : (List.replicate n v).toArray[k]? = some v := by simp [h]
theorem f64_at : ∀ k, k < 64 → (#[.bool false, .bool false, .bool false, .bool false, .bool false, .bool false, .bool false, .bool false, .bool false, .bool false, .bool false, .bool false, .bool false, .bool false, .bool false, .bool false, .bool false, .bool false, .bool false, .bool false, .bool false, .bool false, .bool false, .bool false, .bool false, .bool false, .bool false, .bool false, .bool false, .bool false, .bool false, .bool false, .bool false, .bool false, .bool false, .bool false, .bool false, .bool false, .bool false, .bool false, .bool false, .bool false, .bool false, .bool false, .bool false, .bool false, .bool false, .bool false, .bool false, .bool false, .bool false, .bool false, .bool false, .bool false, .bool false, .bool false, .bool false, .bool false, .bool false, .bool false, .bool false, .bool false, .bool false, .bool false] : Array Value)[k]? = some (.bool false) := by
  intro k hk
  exact rep_at 64 k hk
theorem BkB.made (w : World) : BkB (w.alloc (.cells #[.bool false, .bool false, .bool false, .bool false, .bool false, .bool false, .bool false, .bool false, .bool false, .bool false, .bool false, .bool false, .bool false, .bool false, .bool false, .bool false, .bool false, .bool false, .bool false, .bool false, .bool false, .bool false, .bool false, .bool false, .bool false, .bool false, .bool false, .bool false, .bool false, .bool false, .bool false, .bool false, .bool false, .bool false, .bool false, .bool false, .bool false, .bool false, .bool false, .bool false, .bool false, .bool false, .bool false, .bool false, .bool false, .bool false, .bool false, .bool false, .bool false, .bool false, .bool false, .bool false, .bool false, .bool false, .bool false, .bool false, .bool false, .bool false, .bool false, .bool false, .bool false, .bool false, .bool false, .bool false] 124)) w.heap.size (fun _ => false) := by
  have hb := Blk.new w 124 #[.bool false, .bool false, .bool false, .bool false, .bool false, .bool false, .bool false, .bool false, .bool false, .bool false, .bool false, .bool false, .bool false, .bool false, .bool false, .bool false, .bool false, .bool false, .bool false, .bool false, .bool false, .bool false, .bool false, .bool false, .bool false, .bool false, .bool false, .bool false, .bool false, .bool false, .bool false, .bool false, .bool false, .bool false, .bool false, .bool false, .bool false, .bool false, .bool false, .bool false, .bool false, .bool false, .bool false, .bool false, .bool false, .bool false, .bool false, .bool false, .bool false, .bool false, .bool false, .bool false, .bool false, .bool false, .bool false, .bool false, .bool false, .bool false, .bool false, .bool false, .bool false, .bool false, .bool false, .bool false]
  exact ⟨⟨_, hb⟩, fun k hk => by rw [hb.cell]; exact f64_at k hk⟩

set_option maxHeartbeats 2000000 in
theorem orders_any (A : Option Addr) (nl c : Nat) (ds : List (Int × Int × Int)) (wk : Int) (w : World) (hl : ds.length = nl) (hnl : nl ≤ 1000) (hnc : nl ≤ c) (hR : RdD w A ds) (n : Nat) (hn : (n : Int) = max 0 (min wk 64)) :
    Calls Try.prog 31 #[.slice A nl c, .int .i64 wk] w fun e w' => ∃ g zs, e = .returned (.slice (some ⟨g, 0, none⟩) n n) ∧ Row .i64 3 w' g zs ∧ zs.length = n ∧ (∀ k, k < n → zs.getD k 0 = ((oFold n ds).1 k : Int)) ∧ Below w.heap.size w w' := by
  have HL := Lib.hid hl
  have HR := Lib.hid hR
  have HN := Lib.hid hn
  have hn64 : n ≤ 64 := by omega
  clear hl hR hn
  go_enter Try.func31, Try.ntmps31
  go_upto_region 1 with fail
  go_cut [5] (fun s5 wx => s5 = .int .i64 n ∧ w = wx)
  case first =>
    have key : (wk < 0 ∧ (n : Int) = 0) ∨ (0 ≤ wk ∧ wk ≤ 64 ∧ (n : Int) = wk) ∨ (64 < wk ∧ (n : Int) = 64) := by have := HN.out; omega
    rcases key with ⟨h, hn⟩ | ⟨h, h', hn⟩ | ⟨h, hn⟩
    · have HE := Lib.hid hn
      clear hn
      have h2 : wk ≤ 64 := by omega
      go_wp2
      all_goals
        go_meet
        exact ⟨by rw [HE.out], rfl⟩
    · have HE := Lib.hid hn
      clear hn
      go_wp2
      all_goals
        go_meet
        exact ⟨congrArg (Value.int .i64) (by have := HE.out; omega), rfl⟩
    · have HE := Lib.hid hn
      clear hn
      go_wp2
      all_goals
        go_meet
        exact ⟨by rw [HE.out], rfl⟩
  case rest =>
    obtain ⟨rfl, rfl⟩ := hcut
    have hmk := mkI n (by omega) w
    go_upto_region 4 with fail
    clear hmk
    have e4 : ((List.replicate n (0 : Int)).map (Value.int .i64)).toArray = Array.replicate n (Value.int .i64 0) := by simp
    have hr1 := Row.made .i64 3 w n
    rw [e4] at hr1
    have HR1 := Lib.hid (hr1.alloc (.cells #[.bool false, .bool false, .bool false, .bool false, .bool false, .bool false, .bool false, .bool false, .bool false, .bool false, .bool false, .bool false, .bool false, .bool false, .bool false, .bool false, .bool false, .bool false, .bool false, .bool false, .bool false, .bool false, .bool false, .bool false, .bool false, .bool false, .bool false, .bool false, .bool false, .bool false, .bool false, .bool false, .bool false, .bool false, .bool false, .bool false, .bool false, .bool false, .bool false, .bool false, .bool false, .bool false, .bool false, .bool false, .bool false, .bool false, .bool false, .bool false, .bool false, .bool false, .bool false, .bool false, .bool false, .bool false, .bool false, .bool false, .bool false, .bool false, .bool false, .bool false, .bool false, .bool false, .bool false, .bool false] 124))
    have hb1 := BkB.made (w.alloc (.cells (Array.replicate n (Value.int .i64 0)) 3))
    rw [show (w.alloc (.cells (Array.replicate n (Value.int .i64 0)) 3)).heap.size = w.heap.size + 1 by simp] at hb1
    have HK1 := Lib.hid hb1
    have HB1 := Lib.hid (((Below.refl w.heap.size w).alloc (Nat.le_refl _) (.cells (Array.replicate n (Value.int .i64 0)) 3)).alloc (by simp) (.cells #[.bool false, .bool false, .bool false, .bool false, .bool false, .bool false, .bool false, .bool false, .bool false, .bool false, .bool false, .bool false, .bool false, .bool false, .bool false, .bool false, .bool false, .bool false, .bool false, .bool false, .bool false, .bool false, .bool false, .bool false, .bool false, .bool false, .bool false, .bool false, .bool false, .bool false, .bool false, .bool false, .bool false, .bool false, .bool false, .bool false, .bool false, .bool false, .bool false, .bool false, .bool false, .bool false, .bool false, .bool false, .bool false, .bool false, .bool false, .bool false, .bool false, .bool false, .bool false, .bool false, .bool false, .bool false, .bool false, .bool false, .bool false, .bool false, .bool false, .bool false, .bool false, .bool false, .bool false, .bool false] 124))
    clear hr1 hb1 e4
    generalize (w.alloc (.cells (Array.replicate n (Value.int .i64 0)) 3)).alloc (.cells #[.bool false, .bool false, .bool false, .bool false, .bool false, .bool false, .bool false, .bool false, .bool false, .bool false, .bool false, .bool false, .bool false, .bool false, .bool false, .bool false, .bool false, .bool false, .bool false, .bool false, .bool false, .bool false, .bool false, .bool false, .bool false, .bool false, .bool false, .bool false, .bool false, .bool false, .bool false, .bool false, .bool false, .bool false, .bool false, .bool false, .bool false, .bool false, .bool false, .bool false, .bool false, .bool false, .bool false, .bool false, .bool false, .bool false, .bool false, .bool false, .bool false, .bool false, .bool false, .bool false, .bool false, .bool false, .bool false, .bool false, .bool false, .bool false, .bool false, .bool false, .bool false, .bool false, .bool false, .bool false] 124) = w1 at *
    obtain ⟨g1, hg1⟩ : ∃ g, g = w.heap.size := ⟨_, rfl⟩
    rw [← hg1] at HR1 HK1
    rw [← hg1]
    have hg1' : w.heap.size ≤ g1 := by omega
    clear hg1
    go_wp2
    go_loopw [17] (fun s17 wr => ∃ (j : Nat) (zs : List Int) (F : (Nat → Nat) × (Nat → Bool)), s17 = .int .i64 j ∧ j ≤ nl ∧ F = oFold n (ds.take j) ∧ Row .i64 3 wr g1 zs ∧ zs.length = n ∧ (∀ k, k < n → zs.getD k 0 = (F.1 k : Int)) ∧ BkB wr (g1 + 1) F.2 ∧ Below w.heap.size w wr) (fun i _ => nl - (intOf i).toNat)
    case atStart => exact ⟨0, List.replicate n 0, _, rfl, by omega, rfl, HR1.out, List.length_replicate, (fun k hk => by simp [List.getD, hk, oFold]), HK1.out, HB1.out⟩
    case round =>
      obtain ⟨j, zs, F, rfl, hj, hF, hrow, hzl, hzs, hbk, hbel⟩ := hrel
      have HF := Lib.hid hF
      have HRW := Lib.hid hrow
      have HZL := Lib.hid hzl
      have HZS := Lib.hid hzs
      have HBK := Lib.hid hbk
      have HBL := Lib.hid hbel
      have hFle : ∀ k, F.1 k ≤ 1000 := fun k => by
        rw [hF]
        have := oFold_le n (ds.take j) (fun _ => 0, fun _ => false) 0 (fun _ => Nat.le_refl _) k
        have h2 : (ds.take j).length ≤ j := List.length_take_le _ _
        unfold oFold; omega
      have HLE := Lib.hid hFle
      clear hF hrow hzl hzs hbk hbel hFle HR1 HK1 HB1
      by_cases hlt : j < nl
      · obtain ⟨b, off, rfl, hbl, hcell⟩ := HR.out (by rw [HL.out]; omega)
        obtain ⟨q0, q1, q2⟩ := hcell j (by rw [HL.out]; exact hlt)
        have p0 := (HBL.out.cell (p := ⟨b, off + j * 3, none⟩) hbl).trans q0
        have p1 := (HBL.out.cell (p := ⟨b, off + j * 3 + 1, none⟩) hbl).trans q1
        have p2 := (HBL.out.cell (p := ⟨b, off + j * 3 + 2, none⟩) hbl).trans q2
        have HS := Lib.hid (show oFold n (ds.take (j + 1)) = oStep n F (ds.getD j default) by rw [oFold_snoc n ds j (by rw [HL.out]; exact hlt), HF.out])
        clear hcell q0 q1 q2
        generalize ds.getD j default = x at *
        obtain ⟨dw, di, dg⟩ := x
        simp only at p0 p1 p2
        have i0 : (j : Int) < (nl : Int) := by omega
        go_upto_region 8 with fail
        have H9 := Lib.hid (Blk.new wr 49 #[.int .i64 dw, .int .i64 di, .int .u64 dg])
        have hk5 := (Keep.refl [] wr).alloc (.cells #[.int .i64 dw, .int .i64 di, .int .u64 dg] 49)
        have HR5 := Lib.hid (HRW.out.alloc (.cells #[.int .i64 dw, .int .i64 di, .int .u64 dg] 49))
        have HK5 := Lib.hid (HBK.out.keep hk5 (by simp))
        have HB5 := Lib.hid (HBL.out.alloc HBL.out.size (.cells #[.int .i64 dw, .int .i64 di, .int .u64 dg] 49))
        have lg1 := HRW.out.lt
        have lg2 := HBK.out.lt
        obtain ⟨g9, hg9⟩ : ∃ g, g = wr.heap.size := ⟨_, rfl⟩
        rw [← hg9] at H9 lg1 lg2
        rw [← hg9]
        clear hg9 HRW HBK HBL p0 p1 p2 hk5
        generalize wr.alloc (.cells #[.int .i64 dw, .int .i64 di, .int .u64 dg] 49) = w5 at *
        have k0 := H9.out.cell 0
        have k1 := H9.out.cell 1
        simp only [List.getElem?_toArray, List.getElem?_cons_zero, List.getElem?_cons_succ] at k0 k1
        by_cases hin : 0 ≤ dw ∧ dw < (n : Int)
        · obtain ⟨k, rfl⟩ : ∃ k : Nat, dw = (k : Int) := ⟨dw.toNat, by omega⟩
          have hk : k < n := by omega
          have HST := Lib.hid (show oStep n F ((k : Int), di, dg) = if F.2 k = true then F else if di = (F.1 k : Int) then (upd F.1 k (F.1 k + 1), F.2) else (F.1, upd F.2 k true) by
            unfold oStep; rw [if_pos hin]; rfl)
          have d1 : decide ((k : Int) < 0) = false := by simp
          have d2 : decide ((n : Int) ≤ (k : Int)) = false := by simp; omega
          have i1 : (k : Int) < 64 := by omega
          have i2 : (k : Int) < (n : Int) := by omega
          have b0 := HK5.out.at_ k (by omega)
          clear hin
          by_cases hbr : F.2 k = true
          · rw [hbr] at b0
            have HE := Lib.hid (show oStep n F ((k : Int), di, dg) = F by rw [HST.out, if_pos hbr])
            clear hbr
            go_wp2
            go_roundw
            case rel => exact ⟨j + 1, zs, F, by go_num, by omega, by rw [HS.out, HE.out], HR5.out, HZL.out, HZS.out, HK5.out, HB5.out⟩
            case measure => simp [intOf]; omega
          · have hbr' : F.2 k = false := by simpa using hbr
            rw [hbr'] at b0
            have z0 := HR5.out.at (i := k) (by rw [HZL.out]; exact hk)
            rw [HZS.out k hk] at z0
            have zf := HR5.out.free k
            have bf := HK5.out.free k
            have hle := HLE.out k
            by_cases hdi : di = (F.1 k : Int)
            · have HE := Lib.hid (show oStep n F ((k : Int), di, dg) = (upd F.1 k (F.1 k + 1), F.2) by rw [HST.out, if_neg hbr, if_pos hdi])
              subst hdi
              clear hbr hbr'
              go_upto_region 9 with fail
              go_quiet (fail)
              go_wp2
              go_roundw
              case rel =>
                refine ⟨j + 1, zs.set k ((F.1 k : Int) + 1), (upd F.1 k (F.1 k + 1), F.2), by go_num, by omega, by rw [HS.out, HE.out], (show Row .i64 3 (w5.drewN nq) g1 zs from HR5.out).set k _, by rw [List.length_set]; exact HZL.out, fun i hi => ?_, HK5.out.keep (bs := [g1]) (((Keep.refl _ _).drewN nq).setCell (.inl (by simp)) _) (by simp), (below_drewN HB5.out nq).setCell hg1' _⟩
                show _ = ((upd F.1 k (F.1 k + 1) i : Nat) : Int)
                by_cases e : i = k
                · subst e; rw [upd_same]; simp [List.getD, HZL.out, hi]
                · unfold upd; rw [if_neg e, ← HZS.out i hi]; simp [List.getD, Ne.symm e]
              case measure => simp [intOf]; omega
            · have HE := Lib.hid (show oStep n F ((k : Int), di, dg) = (F.1, upd F.2 k true) by rw [HST.out, if_neg hbr, if_neg hdi])
              have d3 : (di == (F.1 k : Int)) = false := by rw [beq_eq_false_iff_ne]; exact hdi
              clear hbr hbr' hdi
              go_upto_region 9 with fail
              go_quiet (fail)
              go_wp2
              go_roundw
              case rel => exact ⟨j + 1, zs, (F.1, upd F.2 k true), by go_num, by omega, by rw [HS.out, HE.out], (show Row .i64 3 (w5.drewN nq) g1 zs from HR5.out).ne (p := ⟨g1 + 1, k, none⟩) (by simp) _, HZL.out, HZS.out, (HK5.out.keep (bs := []) ((Keep.refl _ _).drewN nq) (by simp)).set k (by omega) true, (below_drewN HB5.out nq).setCell (by show _ ≤ g1 + 1; omega) _⟩
              case measure => simp [intOf]; omega
        · have HE := Lib.hid (show oStep n F (dw, di, dg) = F by unfold oStep; rw [if_neg hin])
          have key : (decide (dw < 0) = true) ∨ (decide (dw < 0) = false ∧ decide ((n : Int) ≤ dw) = true) := by
            by_cases h : dw < 0
            · left; simpa using h
            · right; exact ⟨by simpa using h, by simp; omega⟩
          clear hin
          rcases key with h | ⟨h, h'⟩
          · go_wp2
            go_roundw
            case rel => exact ⟨j + 1, zs, F, by go_num, by omega, by rw [HS.out, HE.out], HR5.out, HZL.out, HZS.out, HK5.out, HB5.out⟩
            case measure => simp [intOf]; omega
          · go_wp2
            go_roundw
            case rel => exact ⟨j + 1, zs, F, by go_num, by omega, by rw [HS.out, HE.out], HR5.out, HZL.out, HZS.out, HK5.out, HB5.out⟩
            case measure => simp [intOf]; omega
      · obtain rfl : j = nl := by omega
        go_wp2
        go_ret
        have e : ds.take j = ds := List.take_of_length_le (by rw [HL.out]; omega)
        have hF := HF.out
        rw [e] at hF
        rw [← hF]
        exact ⟨g1, zs, rfl, HRW.out, HZL.out, HZS.out, HBL.out⟩
end Go.Proofs.Ytaoookahpbalaaa
