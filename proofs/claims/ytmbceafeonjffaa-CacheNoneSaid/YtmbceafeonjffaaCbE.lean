/-
  CacheOwns: once. Conditions stand in each theorem.
-/
import Derived.Test.YtmbceafeonjffaaGV
import Derived.Deep.CutBlock
namespace Go.Proofs.Ytmbceafeonjffaa
open Go.RowKit Go.Deep Plain
set_option linter.unusedVariables false
set_option linter.unusedSimpArgs false
set_option maxRecDepth 100000
def gaA (C : Nat → Cv) : Array Value := #[.pointer (some ⟨(C 0).ga, 0, none⟩), .pointer (some ⟨(C 1).ga, 0, none⟩), .pointer (some ⟨(C 2).ga, 0, none⟩)]
/-- how often the first i were told -/
structure CntP (k : Nat) (T : List Int) (i : Nat) (cl : List Int) : Prop where
  len : cl.length = k
  at' : ∀ y : Nat, y < k → cl.getD y 0 = if (y : Int) ∈ T.take i then 1 else 0
theorem CntP.start (k : Nat) (T : List Int) : CntP k T 0 (List.replicate k 0) := ⟨by simp, fun y hy => by simp [List.getD, hy]⟩
theorem CntP.zero {k i : Nat} {T cl : List Int} (h : CntP k T i cl) (ht : AllT k T) (hi : i < T.length) {y : Nat} (hy : T.getD i 0 = (y : Int)) (hk : y < k) : cl.getD y 0 = 0 := by
  rw [h.at' y hk, if_neg]
  intro hm
  obtain ⟨j, hj, e⟩ := List.mem_take_iff_getElem.1 hm
  have e2 : T[i] = (y : Int) := by rw [← hy]; simp [List.getD, hi]
  exact (List.pairwise_iff_getElem.1 ht.nd) j i (by omega) hi (by omega) (e.trans e2.symm)
theorem CntP.next {k i : Nat} {T cl : List Int} (h : CntP k T i cl) (hi : i < T.length) {y : Nat} (hy : T.getD i 0 = (y : Int)) (hk : y < k) : CntP k T (i + 1) (cl.set y 1) := by
  refine ⟨by simp [h.len], fun z hz => ?_⟩
  rw [own_set _ _ _ _ (by rw [h.len]; exact hk)]
  have hm := mem_take_succ T i hi z
  rw [hy] at hm
  by_cases e : z = y
  · rw [if_pos e, if_pos (hm.2 (.inr (by rw [e])))]
  · rw [if_neg e, h.at' z hz]
    by_cases q : (z : Int) ∈ T.take i
    · rw [if_pos q, if_pos (hm.2 (.inl q))]
    · rw [if_neg q, if_neg (fun r => (hm.1 r).elim q (fun r => e (by omega)))]
section
variable {w0 w w' w1 w2 : World} {gp gc gn N k M J v no co : Nat} {l own out : List Int} {C : Nat → Cv} {o : Nat → Nat} {S : Nat → Sv} {bk : Nat → Bool} {Ao : Option Addr}
/-- what once reads of the cache i -/
structure OnP (w2 : World) (C : Nat → Cv) (S : Nat → Sv) (i ga cn : Nat) (Zi Li : List Int) : Prop where
  ct : ctI C S (i + 1) = ctI C S i ++ Zi ++ Li
  cm : cn ≤ 100
  li : Li.length ≤ 100
  at' : (gaA C)[i]? = some (.pointer (some ⟨ga, 0, none⟩))
  al : ∀ W, Below w2.heap.size w2 W → Calls Try.prog 35 #[.pointer (some ⟨ga, 0, none⟩)] W fun e w' => ∃ A' c', e = .returned (.slice A' cn c') ∧ RdJ w' A' cn c' Zi ∧ Below W.heap.size W w'
  lv : ∀ W, Below w2.heap.size w2 W → Calls Try.prog 37 #[.pointer (some ⟨ga, 0, none⟩)] W (LvOk Li W)
theorem CoM.part (h : CoM w0 w2 gp gc gn N (k : Int) l 3 3 C o S) (hq : OwC N k l own 3 C S bk out) (hN : N ≤ 32) (hk : k ≤ 100) {i : Nat} (hi : i < 3) : ∃ ga cn Zi Li, OnP w2 C S i ga cn Zi Li := by
  have hz := hq.zlen hi
  have hl := (h.ca i hi).row.len
  obtain ⟨f1, f2⟩ := hq.lr hi (by decide)
  have hf := pigeon k _ f1 (fun x hx => ⟨(f2 x hx).1, (f2 x hx).2.1⟩)
  refine ⟨(C i).ga, (C i).n, (C i).Z, lfS (S i), rfl, by omega, by omega, ?_, fun W hb => all_any ((h.below hb).ca i hi) (by omega), fun W hb => (h.below hb).leaving hq hi (by decide) hi hN⟩
  rcases (show i = 0 ∨ i = 1 ∨ i = 2 by omega) with rfl | rfl | rfl <;> rfl
def OnR (w2 : World) (C : Nat → Cv) (S : Nat → Sv) (T0 : List Int) (s10 s11 : Value) (wr : World) : Prop :=
  ∃ (i n c : Nat) (A : Option Addr), s10 = .slice A n c ∧ s11 = .int .i64 i ∧ i ≤ 3 ∧ OwJ w2.heap.size wr A n c (T0 ++ ctI C S i) ∧ Below w2.heap.size w2 wr
def OnS (w : World) (b g9 k : Nat) (A : Option Addr) (n c : Nat) (T : List Int) (s12 : Value) (wr : World) : Prop :=
  ∃ (i : Nat) (cl : List Int), s12 = .int .i64 i ∧ i ≤ n ∧ Row .i64 3 wr g9 cl ∧ OwJ b wr A n c T ∧ Below w.heap.size w wr ∧ CntP k T i cl
theorem ctI_le (C : Nat → Cv) (S : Nat → Sv) (i : Nat) : ∀ d, (ctI C S i).length ≤ (ctI C S (i + d)).length
  | 0 => Nat.le_refl _
  | d + 1 => by
    have := ctI_le C S i d
    show _ ≤ (ctI C S (i + d) ++ (C (i + d)).Z ++ lfS (S (i + d))).length
    rw [List.length_append, List.length_append]
    omega
set_option maxHeartbeats 8000000 in
theorem once_any (h : CoM w0 w gp gc gn N (k : Int) l 3 3 C o S) (hq : OwC N k l own 3 C S bk out) (hr : CoR w w0.heap.size 3 C Ao no co out) (hN : N ≤ 32) (hk : k ≤ 100) (hkN : k ≤ 32 * N) :
    Calls Try.prog 30 #[.pointer (some ⟨gp, 0, none⟩), .agg (gaA C), .slice Ao no co, .int .i64 k] w fun e w' => e = .returned (.bool true) ∧ Below w.heap.size w w' := by
  have HAT := Lib.hid (hq.all (by decide) h.po.cl.u64 hkN)
  have hno := hr.row.len
  have hol := hq.olen
  have HFL := Lib.hid (show (freeL N l).length ≤ k by have := HAT.out.len; rw [List.length_append, List.length_append] at this; omega)
  have HFR := Lib.hid (fun W (hb : Below w.heap.size w W) => free_any (h.po.below hb) hN)
  have HPT := Lib.hid (fun W (hb : Below w.heap.size w W) i (hi : i < 3) => (h.below hb).part hq hN hk hi)
  have HRO := Lib.hid hr.row.rd
  have hmk := fun W => run_mkN 29 3 .i64 8 Try.underlying29 infoInt (by omega) k (by omega) W
  obtain ⟨aa, haa⟩ : ∃ aa, gaA C = aa := ⟨_, rfl⟩
  have HGA := Lib.hid haa
  rw [haa]
  clear h hq hr haa
  go_enter Try.func30, Try.ntmps30
  go_upto_region 2 with fail
  have hw1 := ball w (.cells aa 48)
  have hbx1 := Blk.new w 48 aa
  generalize hW1 : w.alloc (.cells aa 48) = w1 at *
  have hs1 : w1.heap.size = w.heap.size + 1 := by rw [← hW1, World.size_alloc]
  have hw2 := ball w1 (.cells (Array.replicate k (Value.int .i64 0)) 3)
  have hbx2 := hbx1.below hw2
  have hcn2 : Row .i64 3 (w1.alloc (.cells (Array.replicate k (Value.int .i64 0)) 3)) w1.heap.size (List.replicate k 0) := by
    have e : (Array.replicate k (Value.int .i64 0)) = ((List.replicate k (0 : Int)).map (Value.int .i64)).toArray := by simp
    rw [e]
    exact Row.made .i64 3 w1 k
  have hs2 : (w1.alloc (.cells (Array.replicate k (Value.int .i64 0)) 3)).heap.size = w1.heap.size + 1 := by rw [World.size_alloc]
  have HB2 := Lib.hid (bthen hw1 hw2)
  clear hw1 hw2 hW1 hbx1 hmk
  generalize w1.alloc (.cells (Array.replicate k (Value.int .i64 0)) 3) = w2 at *
  rw [hs1] at hcn2
  have HS2 := Lib.hid (show w2.heap.size = w.heap.size + 2 by rw [hs2, hs1])
  have HBX := Lib.hid hbx2
  have HCN := Lib.hid hcn2
  have hal := ball w2 (.cells #[] 3)
  have HAL := Lib.hid hal
  have HE := Lib.hid (own0J (Blk.new w2 3 #[]))
  have HFR2 := Lib.hid (HFR.out _ (bthen HB2.out hal))
  have HP2 := Lib.hid (HPT.out w2 HB2.out)
  obtain ⟨g9, hg9⟩ : ∃ g9, w.heap.size + 1 = g9 := ⟨_, rfl⟩
  rw [hg9] at HCN ⊢
  have HG9 := Lib.hid hg9
  clear hbx2 hcn2 HFR HPT hs1 hs2 hal hg9
  go_upto_region 3 with (first | (go_at_call 16; refine (HFR2.out).mono ?_; rintro e w3 ⟨A3, m3, c3, rfl, ho3, hb3⟩; have hm3 := ho3.len; have hm3k : m3 ≤ 100 := (by have := HFL.out; omega); have HO3 := Lib.hid (ho3.rj); have HE3 := Lib.hid (HE.out.below hb3); have HB3 := Lib.hid (bthen HAL.out hb3); clear ho3 hb3) | (at_builtin; refine wpList_joinJ rfl (.tmp 15) (.tmp 17) rfl rfl (HE3.out) rfl (HO3.out) (HB3.out) HB3.out.size (by omega) ?_; intro A4 c4 w4 hI4 hB4 hK4 hat4; have HI4 := Lib.hid (show OwJ w2.heap.size w4 A4 m3 c4 (freeL N l) by simpa using hI4); have HB4 := Lib.hid hB4; have HR4 := Lib.hid (HRO.out.below (bthen HB2.out hB4)); clear hI4 hB4 hK4 hat4) | (at_builtin; refine wpList_joinJ rfl (.tmp 18) (.tmp 19) rfl rfl (HI4.out) rfl (HR4.out) (HB4.out) HB4.out.size (by omega) ?_; intro A5 c5 w5 hI5 hB5 hK5 hat5; have HI5 := Lib.hid hI5; have HB5 := Lib.hid hB5; clear hI5 hB5 hK5 hat5))
  obtain ⟨T0, hT0⟩ : ∃ T0, freeL N l ++ out = T0 := ⟨_, rfl⟩
  rw [hT0] at HI5 HAT
  have HTL := Lib.hid (show ∀ i, i ≤ 3 → (T0 ++ ctI C S i).length ≤ k by
    intro i hi
    have h1 := HAT.out.len
    have h2 := ctI_le C S i (3 - i)
    rw [show i + (3 - i) = 3 by omega] at h2
    rw [List.length_append] at h1 ⊢
    omega)
  clear hT0 HI4 HE3 HO3 HB3 HB4 HR4 HRO HFL HAL HE HFR2
  go_wp2
  go_loopw [10, 11] (fun s10 s11 wr => OnR w2 C S T0 s10 s11 wr) (fun _ s11 _ => 4 - (intOf s11).toNat)
  case atStart => exact ⟨0, _, _, _, rfl, rfl, by omega, by simpa [ctI] using HI5.out, HB5.out⟩
  case round =>
    obtain ⟨i, n, c, A, rfl, rfl, hi, ho, hb⟩ := hrel
    have HO := Lib.hid ho
    have HB := Lib.hid hb
    have hnl := ho.len
    have hnk := HTL.out i hi
    clear ho hb HI5 HB5
    by_cases hlt : i < 3
    · have d : decide ((i : Int) < 3) = true := decide_eq_true (by omega)
      obtain ⟨ga, cn, Zi, Li, hP⟩ := HP2.out i hlt
      have HP := Lib.hid hP
      have hcn := hP.cm
      have hli := hP.li
      have hct := hP.ct
      have hat := hP.at'
      rw [HGA.out] at hat
      have hn100 : n ≤ 100 := by omega
      clear hP
      go_upto_region 6 with fail
      have hbc := Lib.hid (bthen HB.out (bdrew wr))
      have hoc := Lib.hid (HO.out.below (bdrew wr))
      have b5c : wr.drew.cell? ⟨w.heap.size, i, none⟩ = some (.pointer (some ⟨ga, 0, none⟩)) := ((HBX.out.below hbc.out).cell i).trans hat
      have HGT := Lib.hid hat
      have i1 : (i : Int) < 3 := by omega
      clear hat
      go_region_law (first
        | (go_simp; go_at_call 35; refine (HP.out.al _ hbc.out).mono ?_; rintro ee W7 ⟨A7, c7, rfl, hr7, hb7⟩; have hb7c := Lib.hid (bthen hbc.out hb7); have ho7 := Lib.hid (hoc.out.below hb7); have b57 : W7.cell? ⟨w.heap.size, i, none⟩ = some (.pointer (some ⟨ga, 0, none⟩)) := ((HBX.out.below hb7c.out).cell i).trans HGT.out; have hr7c := Lib.hid hr7; clear hr7 hb7)
        | (go_simp; go_at_call 37; refine (HP.out.lv _ hb8c.out).mono ?_; rintro ee W9 ⟨A9, n9, c9, rfl, hr9, hb9⟩; have hn9 := hr9.len; have hn9b : n9 ≤ 100 := (by omega); have hb9c := Lib.hid (bthen hb8c.out hb9); have ho9 := Lib.hid (ho8.out.below hb9); have b59 : W9.cell? ⟨w.heap.size, i, none⟩ = some (.pointer (some ⟨ga, 0, none⟩)) := ((HBX.out.below hb9c.out).cell i).trans HGT.out; have hr9c := Lib.hid hr9.rd; clear hr9 hb9)
        | (refine step_joinJ rfl (.tmp 30) (.tmp 34) rfl rfl (ho9.out) rfl (hr9c.out) hb9c.out.size (by omega) ?_; intro A10 c10 W10 hI10 hk10 hn10; have hb10c := Lib.hid (hk10.below hb9c.out (Nat.le_refl _) (ownLs_ge ho9.out)); have ho10 := Lib.hid hI10; clear hI10 hk10 hn10)
        | (refine step_joinJ rfl (.tmp 25) (.tmp 29) rfl rfl (ho7.out) rfl (hr7c.out) hb7c.out.size (by omega) ?_; intro A8 c8 W8 hI8 hk8 hn8; have hb8c := Lib.hid (hk8.below hb7c.out (Nat.le_refl _) (ownLs_ge ho7.out)); have ho8 := Lib.hid hI8; have b58 : W8.cell? ⟨w.heap.size, i, none⟩ = some (.pointer (some ⟨ga, 0, none⟩)) := ((HBX.out.below hb8c.out).cell i).trans HGT.out; clear hI8 hk8 hn8))
      all_goals
        go_wp2
        go_roundw
      all_goals first
        | exact ⟨i + 1, _, _, _, rfl, by go_num, by omega, by rw [hct, ← List.append_assoc, ← List.append_assoc]; exact ho10.out, hb10c.out⟩
        | (simp [intOf]; omega)
    · obtain rfl : i = 3 := by omega
      have d : decide (((3 : Nat) : Int) < 3) = false := rfl
      obtain ⟨T, hT⟩ : ∃ T, T0 ++ ctI C S 3 = T := ⟨_, rfl⟩
      rw [hT] at HO HAT
      have hTl := HAT.out.len
      obtain rfl : n = k := by have := HO.out.len; omega
      have HBW := Lib.hid (bthen HB2.out HB.out)
      have HCN3 := Lib.hid (HCN.out.below HB.out)
      have HG92 := Lib.hid (show g9 < w2.heap.size by have := HG9.out; have := HS2.out; omega)
      have HG90 := Lib.hid (show w.heap.size ≤ g9 by have := HG9.out; omega)
      clear hT HP2 HTL HB2 HB HCN HBX hnk hTl
      go_upto_region 7 with fail
      go_wp2
      go_loopw [12] (fun s12 w4 => OnS w w2.heap.size g9 n A n c T s12 w4) (fun s12 _ => n + 1 - (intOf s12).toNat)
      case atStart => exact ⟨0, _, rfl, by omega, HCN3.out, HO.out, HBW.out, CntP.start n T⟩
      case round =>
        obtain ⟨j, cl, rfl, hj, hcl, hoj, hbj, hcp⟩ := hrel
        have HCL := Lib.hid hcl
        have HOJ := Lib.hid hoj
        have HBJ := Lib.hid hbj
        have HCP := Lib.hid hcp
        clear hcl hbj hcp HCN3 HO HBW
        by_cases hlt : j < n
        · have d1 : decide ((j : Int) < (n : Int)) = true := decide_eq_true (by omega)
          have d1' : decide (j < n) = true := decide_eq_true hlt
          have hjT : j < T.length := by rw [HAT.out.len]; exact hlt
          obtain ⟨x0, x1⟩ := HAT.out.rg _ (mem_getD T j hjT)
          obtain ⟨y, hy⟩ : ∃ y : Nat, T.getD j 0 = y := ⟨(T.getD j 0).toNat, by omega⟩
          rw [hy] at x0 x1
          have hyn : y < n := by omega
          obtain ⟨ga, rfl, pa⟩ := hoj.at hlt
          rw [hy] at pa
          have pc := HCL.out.at (i := y) (by rw [HCP.out.len]; exact hyn)
          rw [HCP.out.zero HAT.out hjT hy hyn] at pc
          have fc := HCL.out.free y
          have HNX := Lib.hid (HCP.out.next hjT hy hyn)
          have hga : w2.heap.size ≤ ga := (own_blk hoj (show (Value.slice (some ⟨ga, 0, none⟩) n c).ownBlock = some ga by simp [Value.ownBlock])).1
          have hgne : ga ≠ g9 := by have := HG92.out; omega
          have d2 : decide ((y : Int) < 0) = false := decide_eq_false (by omega)
          have d3 : decide ((n : Int) ≤ (y : Int)) = false := decide_eq_false (by omega)
          have d3' : decide (n ≤ y) = false := decide_eq_false (by omega)
          have i1 : (j : Int) < (n : Int) := by omega
          have i2 : (y : Int) < (n : Int) := by omega
          clear hoj hy
          go_wp2
          go_roundw
          case rel =>
            refine ⟨j + 1, _, by go_num, by omega, HCL.out.set y 1, HOJ.out.keep ((Keep.refl [g9] _).setCell (p := ⟨g9, y, none⟩) (.inl (by simp)) _) (fun g hg => ?_), HBJ.out.setCell (p := ⟨g9, y, none⟩) HG90.out _, HNX.out⟩
            have : g = ga := by simpa [Value.ownBlock] using hg.symm
            rw [this]; simpa using hgne
          case measure => simp [intOf]; omega
        · obtain rfl : j = n := by omega
          have d1 : decide ((j : Int) < (j : Int)) = false := decide_eq_false (by omega)
          have d1' : decide (j < j) = false := decide_eq_false (by omega)
          have de : ((j : Int) == (j : Int)) = true := by simp
          clear hoj
          go_wp2
          go_ret
          exact ⟨rfl, HBJ.out⟩
end
end Go.Proofs.Ytmbceafeonjffaa
