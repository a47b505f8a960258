/-
  Package ring: the steps of a Put and of a Get. Conditions stand in each theorem.
-/
import Derived.Test.YtpaiicplcaeneaaRi
namespace Go.Proofs.Ytpaiicplcaeneaa
open Go.RowKit Plain
set_option linter.unusedVariables false
set_option maxRecDepth 100000
section
variable {w : World} {gr gc gn N : Nat} {pu go : Nat} {l : List Int} {P G : Option Nat} {p g : RSt} {v en : Int} {td : Bool}
/-- the ring's end of a step -/
theorem finish_any (en : Int) (g0 gr : Nat) (s : RSt) (w : World) (h : Blk w g0 103 (s.cs gr)) :
    Calls Try.prog 66 #[.pointer (some ⟨g0, 0, none⟩), .int .i64 en] w fun e w' => e = .returned (.tuple #[]) ∧ w' = (w.setCell ⟨g0, 3, none⟩ (.int .i64 en)).setCell ⟨g0, 1, none⟩ (.int .i64 0) := by
  have c1 : w.cell? ⟨g0, 1, none⟩ = some (.int .i64 s.nx) := h.cell 1
  have c3 : w.cell? ⟨g0, 3, none⟩ = some (.int .i64 s.en) := h.cell 3
  have f1 := h.frozen 1
  have f3 := h.frozen 3
  have d1 : (w.setCell ⟨g0, 3, none⟩ (.int .i64 en)).cell? ⟨g0, 1, none⟩ = some (.int .i64 s.nx) := (h.set 3 _).cell 1
  have e1 : (w.setCell ⟨g0, 3, none⟩ (.int .i64 en)).frozen? ⟨g0, 1, none⟩ = false := (h.set 3 _).frozen 1
  clear h
  go_enter Try.func66, Try.ntmps66
  go_wp2
  go_end0
  exact ⟨rfl, rfl⟩
/-- what a Put's or a Get's step leaves -/
def PutOk (w : World) (gr gc gn N : Nat) (pu' go' : Int) (l' : List Int) (P G : Option Nat) (p' g' : RSt) (bs : List Nat) (e : Ending) (w' : World) : Prop :=
  e = .returned (.tuple #[]) ∧ RgB w' gr gc gn N pu' go' l' P G p' g' ∧ Keep bs w w'
set_option maxHeartbeats 1000000 in
theorem put1 (h : RgB w gr gc gn N pu go l P G ⟨1, v, en, td⟩ g) {a : Nat} (ha : P = some a) (x : Nat) (hx : l.getD 0 0 = (x : Int)) (hle : x ≤ pu) (hp : pu ≤ 1000000) :
    Calls Try.prog 39 #[.pointer (some ⟨a, 0, none⟩)] w (PutOk w gr gc gn N pu go l P G (if N ≤ pu - x then ⟨0, v, 9, td⟩ else ⟨2, v, en, td⟩) g [gr, gn, a]) := by
  have hb := h.ps a ha
  have c0 : w.cell? ⟨a, 0, none⟩ = some (.pointer (some ⟨gr, 0, none⟩)) := hb.cell 0
  have c1 : w.cell? ⟨a, 1, none⟩ = some (.int .i64 1) := hb.cell 1
  have r0 : w.cell? ⟨gr, 0, none⟩ = some (.pointer (some ⟨gc, 0, none⟩)) := h.rs.cell 0
  have r1 : w.cell? ⟨gr, 1, none⟩ = some (.int .u64 N) := h.rs.cell 1
  have r2 : w.cell? ⟨gr, 2, none⟩ = some (.int .u64 pu) := h.rs.cell 2
  have f1 := hb.frozen 1
  have n2 := h.n2
  have HLD := Lib.hid (fun q => load_eq (h.cl.drewN q) 0 (by omega) (x : Int) hx)
  have H := Lib.hid h
  have HA := Lib.hid ha
  have HF := Lib.hid (fun q => finish_any 9 a gr ⟨1, v, en, td⟩ (w.drewN q) hb)
  have w1 : IntKind.u64.wrap ((pu : Int) - (x : Int)) = (pu : Int) - (x : Int) := by rw [IntKind.wrap_u64]; omega
  clear h ha hx hb
  by_cases hN : N ≤ pu - x
  · have d1 : decide ((pu : Int) - (x : Int) ≥ (N : Int)) = true := by simp; omega
    have d2 : decide ((N : Int) ≤ (pu : Int) - (x : Int)) = true := by simp; omega
    rw [if_pos hN]
    clear hN
    go_enter Try.func39, Try.ntmps39
    go_upto_region 3 with fail
    go_quiet ((go_at_call 10; exact quietB (HLD.out _)))
    go_wp2_with (go_at_call 66; refine (HF.out _).mono ?_; rintro e w' ⟨rfl, rfl⟩)
    go_end0
    exact ⟨rfl, ((H.out.drewN nq).setP HA.out 3 _ ⟨1, v, 9, td⟩ rfl).setP HA.out 1 _ ⟨0, v, 9, td⟩ rfl, (((Keep.refl _ _).drewN nq).setCell (.inl (by simp)) _).setCell (.inl (by simp)) _⟩
  · have d1 : decide ((pu : Int) - (x : Int) ≥ (N : Int)) = false := by simp; omega
    have d2 : decide ((N : Int) ≤ (pu : Int) - (x : Int)) = false := by simp; omega
    rw [if_neg hN]
    clear hN
    go_enter Try.func39, Try.ntmps39
    go_upto_region 3 with fail
    go_quiet ((go_at_call 10; exact quietB (HLD.out _)))
    go_wp2
    go_end0
    exact ⟨rfl, (H.out.drewN nq).setP HA.out 1 _ ⟨2, v, en, td⟩ rfl, (((Keep.refl _ _).drewN nq).setCell (.inl (by simp)) _)⟩
set_option maxHeartbeats 1000000 in
theorem put2 (h : RgB w gr gc gn N pu go l P G ⟨2, v, en, td⟩ g) {a : Nat} (ha : P = some a) (hv : U64 v) (hp : pu ≤ 1000000) :
    Calls Try.prog 39 #[.pointer (some ⟨a, 0, none⟩)] w (PutOk w gr gc gn N pu go (l.set (2 + pu % N) v) P G ⟨3, v, en, td⟩ g [gr, gn, a]) := by
  have hb := h.ps a ha
  have c0 : w.cell? ⟨a, 0, none⟩ = some (.pointer (some ⟨gr, 0, none⟩)) := hb.cell 0
  have c1 : w.cell? ⟨a, 1, none⟩ = some (.int .i64 2) := hb.cell 1
  have c2 : w.cell? ⟨a, 2, none⟩ = some (.int .u64 v) := hb.cell 2
  have r0 : w.cell? ⟨gr, 0, none⟩ = some (.pointer (some ⟨gc, 0, none⟩)) := h.rs.cell 0
  have r2 : w.cell? ⟨gr, 2, none⟩ = some (.int .u64 pu) := h.rs.cell 2
  have n1 := h.n1
  have n2 := h.n2
  have hlt : pu % N < N := Nat.mod_lt _ (by omega)
  have HST := Lib.hid (store_any (h.cl.drewN 1) (2 + pu % N) (by omega) v)
  have HCE := Lib.hid (fun q => cellOf_any (h.drewN q) pu hp)
  have H := Lib.hid h
  have HA := Lib.hid ha
  have HV := Lib.hid hv
  have n3 : gn ≠ gr := blk_types h.cl.nu h.rs (by decide)
  have n4 : gn ≠ a := blk_types h.cl.nu hb (by decide)
  generalize hm : 2 + pu % N = m at *
  have HM := Lib.hid hm
  clear h ha hb hv hm
  go_enter Try.func39, Try.ntmps39
  go_upto_region 7 with fail
  go_region_held3 (fun W => W.cell? ⟨gr, 0, none⟩ = some (.pointer (some ⟨gc, 0, none⟩)) ∧ W.cell? ⟨gr, 2, none⟩ = some (.int .u64 pu) ∧ W.cell? ⟨a, 2, none⟩ = some (.int .u64 v))
    (first | go_keep | assumption | (exact ⟨(World.cell?_setCell_other _ _ _ _ (by simp <;> omega)).trans r0, (World.cell?_setCell_other _ _ _ _ (by simp <;> omega)).trans r2, (World.cell?_setCell_other _ _ _ _ (by simp <;> omega)).trans c2⟩))
    (first | (go_at_call 41; refine (HCE.out 1).mono ?_; rintro e w' ⟨rfl, rfl⟩) | (go_at_call 67; refine (HST.out).mono ?_; rintro e w' ⟨rfl, hw'⟩))
  have H2 := Lib.hid ((H.out.drewN 1).setC m v HV.out)
  have HK2 := Lib.hid (((Keep.refl [gr, gn, a] w).drewN 1).setCell (p := ⟨gn, m, none⟩) (.inl (by simp)) (.int .u64 v))
  clear c0 c1 c2 r0 r2 HST HCE H
  generalize (w.drewN 1).setCell ⟨gn, m, none⟩ (.int .u64 v) = w2 at *
  have d1 : w2.cell? ⟨a, 1, none⟩ = some (.int .i64 2) := (H2.out.ps a HA.out).cell 1
  have f1 : w2.frozen? ⟨a, 1, none⟩ = false := (H2.out.ps a HA.out).frozen 1
  go_wp2
  go_end0
  exact ⟨rfl, H2.out.setP HA.out 1 _ ⟨3, v, en, td⟩ rfl, HK2.out.setCell (.inl (by simp)) _⟩
set_option maxHeartbeats 1000000 in
theorem put3 (h : RgB w gr gc gn N pu go l P G ⟨3, v, en, td⟩ g) {a : Nat} (ha : P = some a) (hx : l.getD 1 0 = (pu : Int)) (hp : pu ≤ 1000000) (m : Nat) (hm : m = pu + 1) :
    Calls Try.prog 39 #[.pointer (some ⟨a, 0, none⟩)] w (PutOk w gr gc gn N (m : Nat) go (l.set 1 (m : Int)) P G ⟨0, v, 0, td⟩ g [gr, gn, a]) := by
  have hb := h.ps a ha
  have c0 : w.cell? ⟨a, 0, none⟩ = some (.pointer (some ⟨gr, 0, none⟩)) := hb.cell 0
  have c1 : w.cell? ⟨a, 1, none⟩ = some (.int .i64 3) := hb.cell 1
  have r0 : w.cell? ⟨gr, 0, none⟩ = some (.pointer (some ⟨gc, 0, none⟩)) := h.rs.cell 0
  have HAD := Lib.hid (add_eq h.cl 1 (by omega) (pu : Int) 1 (m : Int) hx (by unfold m64; omega))
  have H2 := Lib.hid (h.setC 1 (m : Int) (by unfold U64; omega))
  have HK2 := Lib.hid ((Keep.refl [gr, gn, a] w).setCell (p := ⟨gn, 1, none⟩) (.inl (by simp)) (.int .u64 (m : Int)))
  have HA := Lib.hid ha
  clear h ha hb hx hm
  go_enter Try.func39, Try.ntmps39
  go_upto_region 10 with fail
  go_wp2_with fail
  refine (HAD.out).mono ?_
  rintro e w2 ⟨rfl, hw2⟩
  rw [← hw2] at H2 HK2
  clear hw2 c0 c1 r0 HAD
  have r2 : w2.cell? ⟨gr, 2, none⟩ = some (.int .u64 pu) := H2.out.rs.cell 2
  have f2 : w2.frozen? ⟨gr, 2, none⟩ = false := H2.out.rs.frozen 2
  go_upto_region 11 with fail
  have H3 := Lib.hid (H2.out.setR 2 (.int .u64 m) m go P G ⟨3, v, en, td⟩ g rfl H2.out.ps H2.out.gs H2.out.ne)
  have HK3 := Lib.hid (HK2.out.setCell (p := ⟨gr, 2, none⟩) (.inl (by simp)) (.int .u64 m))
  clear r2 f2 H2 HK2
  generalize w2.setCell ⟨gr, 2, none⟩ (.int .u64 m) = w3 at *
  go_wp2_with (go_at_call 66; (refine (finish_any 0 a gr ⟨3, v, en, td⟩ w3 (H3.out.ps a HA.out)).mono ?_; rintro e w' ⟨rfl, rfl⟩))
  go_end0
  exact ⟨rfl, (H3.out.setP HA.out 3 _ ⟨3, v, 0, td⟩ rfl).setP HA.out 1 _ ⟨0, v, 0, td⟩ rfl, (HK3.out.setCell (.inl (by simp)) _).setCell (.inl (by simp)) _⟩
set_option maxHeartbeats 1000000 in
theorem get4 (h : RgB w gr gc gn N pu go l P G p ⟨4, v, en, td⟩) {a : Nat} (ha : G = some a) (x : Nat) (hx : l.getD 1 0 = (x : Int)) :
    Calls Try.prog 40 #[.pointer (some ⟨a, 0, none⟩)] w (PutOk w gr gc gn N pu go l P G p (if x = go then ⟨0, v, 7, td⟩ else ⟨5, v, en, td⟩) [gr, gn, a]) := by
  have hb := h.gs a ha
  have c0 : w.cell? ⟨a, 0, none⟩ = some (.pointer (some ⟨gr, 0, none⟩)) := hb.cell 0
  have c1 : w.cell? ⟨a, 1, none⟩ = some (.int .i64 4) := hb.cell 1
  have r0 : w.cell? ⟨gr, 0, none⟩ = some (.pointer (some ⟨gc, 0, none⟩)) := h.rs.cell 0
  have r4 : w.cell? ⟨gr, 4, none⟩ = some (.int .u64 go) := h.rs.cell 4
  have f1 := hb.frozen 1
  have HLD := Lib.hid (fun q => load_eq (h.cl.drewN q) 1 (by omega) (x : Int) hx)
  have H := Lib.hid h
  have HA := Lib.hid ha
  have HF := Lib.hid (fun q => finish_any 7 a gr ⟨4, v, en, td⟩ (w.drewN q) hb)
  clear h ha hx hb
  by_cases hN : x = go
  · have d1 : ((x : Int) == (go : Int)) = true := by simp; omega
    rw [if_pos hN]
    clear hN
    go_enter Try.func40, Try.ntmps40
    go_upto_region 3 with fail
    go_quiet ((go_at_call 10; exact quietB (HLD.out _)))
    go_wp2_with (go_at_call 66; refine (HF.out _).mono ?_; rintro e w' ⟨rfl, rfl⟩)
    go_end0
    exact ⟨rfl, ((H.out.drewN nq).setG HA.out 3 _ ⟨4, v, 7, td⟩ rfl).setG HA.out 1 _ ⟨0, v, 7, td⟩ rfl, (((Keep.refl _ _).drewN nq).setCell (.inl (by simp)) _).setCell (.inl (by simp)) _⟩
  · have d1 : ((x : Int) == (go : Int)) = false := by simp; omega
    rw [if_neg hN]
    clear hN
    go_enter Try.func40, Try.ntmps40
    go_upto_region 3 with fail
    go_quiet ((go_at_call 10; exact quietB (HLD.out _)))
    go_wp2
    go_end0
    exact ⟨rfl, (H.out.drewN nq).setG HA.out 1 _ ⟨5, v, en, td⟩ rfl, (((Keep.refl _ _).drewN nq).setCell (.inl (by simp)) _)⟩
set_option maxHeartbeats 1000000 in
theorem get5 (h : RgB w gr gc gn N pu go l P G p ⟨5, v, en, td⟩) {a : Nat} (ha : G = some a) (x : Int) (hx : l.getD (2 + go % N) 0 = x) (hp : go ≤ 1000000) :
    Calls Try.prog 40 #[.pointer (some ⟨a, 0, none⟩)] w (PutOk w gr gc gn N pu go l P G p ⟨6, x, en, td⟩ [gr, gn, a]) := by
  have hb := h.gs a ha
  have c0 : w.cell? ⟨a, 0, none⟩ = some (.pointer (some ⟨gr, 0, none⟩)) := hb.cell 0
  have c1 : w.cell? ⟨a, 1, none⟩ = some (.int .i64 5) := hb.cell 1
  have c2 : w.cell? ⟨a, 2, none⟩ = some (.int .u64 v) := hb.cell 2
  have r0 : w.cell? ⟨gr, 0, none⟩ = some (.pointer (some ⟨gc, 0, none⟩)) := h.rs.cell 0
  have r4 : w.cell? ⟨gr, 4, none⟩ = some (.int .u64 go) := h.rs.cell 4
  have f2 := hb.frozen 2
  have n1 := h.n1
  have n2 := h.n2
  have hlt : go % N < N := Nat.mod_lt _ (by omega)
  have HLD := Lib.hid (fun q => load_eq (h.cl.drewN q) (2 + go % N) (by omega) x hx)
  have HCE := Lib.hid (fun q => cellOf_any (h.drewN q) go hp)
  have H := Lib.hid h
  have HA := Lib.hid ha
  have n5 : a ≠ gr := blk_types hb h.rs (by decide)
  generalize hm : 2 + go % N = m at *
  clear h ha hb hx hm
  go_enter Try.func40, Try.ntmps40
  go_upto_region 7 with fail
  go_region_held3 (fun W => W.cell? ⟨gr, 0, none⟩ = some (.pointer (some ⟨gc, 0, none⟩)) ∧ W.cell? ⟨gr, 4, none⟩ = some (.int .u64 go))
    (first | (exact ⟨(World.cell?_setCell_other _ _ _ _ (by simp <;> omega)).trans r0, (World.cell?_setCell_other _ _ _ _ (by simp <;> omega)).trans r4⟩) | go_keep | assumption)
    (first | (go_at_call 41; refine (HCE.out 1).mono ?_; rintro e w' ⟨rfl, rfl⟩) | (go_at_call 10; refine (HLD.out 1).mono ?_; rintro e w' ⟨rfl, rfl⟩))
  have H2 := Lib.hid ((H.out.drewN 1).setG HA.out 2 (.int .u64 x) ⟨5, x, en, td⟩ rfl)
  have HK2 := Lib.hid (((Keep.refl [gr, gn, a] w).drewN 1).setCell (p := ⟨a, 2, none⟩) (.inl (by simp)) (.int .u64 x))
  clear c0 c1 c2 r0 r4 HLD HCE H
  generalize (w.drewN 1).setCell ⟨a, 2, none⟩ (.int .u64 x) = w2 at *
  have d1 : w2.cell? ⟨a, 1, none⟩ = some (.int .i64 5) := (H2.out.gs a HA.out).cell 1
  have f1 : w2.frozen? ⟨a, 1, none⟩ = false := (H2.out.gs a HA.out).frozen 1
  go_wp2
  go_end0
  exact ⟨rfl, H2.out.setG HA.out 1 _ ⟨6, x, en, td⟩ rfl, HK2.out.setCell (.inl (by simp)) _⟩
set_option maxHeartbeats 1000000 in
theorem get6 (h : RgB w gr gc gn N pu go l P G p ⟨6, v, en, td⟩) {a : Nat} (ha : G = some a) (hx : l.getD 0 0 = (go : Int)) (hp : go ≤ 1000000) (m : Nat) (hm : m = go + 1) :
    Calls Try.prog 40 #[.pointer (some ⟨a, 0, none⟩)] w (PutOk w gr gc gn N pu (m : Nat) (l.set 0 (m : Int)) P G p ⟨0, v, 0, true⟩ [gr, gn, a]) := by
  have hb := h.gs a ha
  have c0 : w.cell? ⟨a, 0, none⟩ = some (.pointer (some ⟨gr, 0, none⟩)) := hb.cell 0
  have c1 : w.cell? ⟨a, 1, none⟩ = some (.int .i64 6) := hb.cell 1
  have r0 : w.cell? ⟨gr, 0, none⟩ = some (.pointer (some ⟨gc, 0, none⟩)) := h.rs.cell 0
  have HAD := Lib.hid (add_eq h.cl 0 (by omega) (go : Int) 1 (m : Int) hx (by unfold m64; omega))
  have H2 := Lib.hid (h.setC 0 (m : Int) (by unfold U64; omega))
  have HK2 := Lib.hid ((Keep.refl [gr, gn, a] w).setCell (p := ⟨gn, 0, none⟩) (.inl (by simp)) (.int .u64 (m : Int)))
  have HA := Lib.hid ha
  clear h ha hb hx hm
  go_enter Try.func40, Try.ntmps40
  go_upto_region 10 with fail
  go_wp2_with fail
  refine (HAD.out).mono ?_
  rintro e w2 ⟨rfl, hw2⟩
  rw [← hw2] at H2 HK2
  clear hw2 c0 c1 r0 HAD
  have r4 : w2.cell? ⟨gr, 4, none⟩ = some (.int .u64 go) := H2.out.rs.cell 4
  have f4 : w2.frozen? ⟨gr, 4, none⟩ = false := H2.out.rs.frozen 4
  go_upto_region 11 with fail
  have H3 := Lib.hid (H2.out.setR 4 (.int .u64 m) pu m P G p ⟨6, v, en, td⟩ rfl H2.out.ps H2.out.gs H2.out.ne)
  have HK3 := Lib.hid (HK2.out.setCell (p := ⟨gr, 4, none⟩) (.inl (by simp)) (.int .u64 m))
  clear r4 f4 H2 HK2
  generalize w2.setCell ⟨gr, 4, none⟩ (.int .u64 m) = w3 at *
  have d4 : w3.cell? ⟨a, 4, none⟩ = some (.bool td) := (H3.out.gs a HA.out).cell 4
  have e4 : w3.frozen? ⟨a, 4, none⟩ = false := (H3.out.gs a HA.out).frozen 4
  go_upto_region 12 with fail
  have H4 := Lib.hid (H3.out.setG HA.out 4 (.bool true) ⟨6, v, en, true⟩ rfl)
  have HK4 := Lib.hid (HK3.out.setCell (p := ⟨a, 4, none⟩) (.inl (by simp)) (.bool true))
  clear d4 e4 H3 HK3
  generalize w3.setCell ⟨a, 4, none⟩ (.bool true) = w4 at *
  go_wp2_with (go_at_call 66; (refine (finish_any 0 a gr ⟨6, v, en, true⟩ w4 (H4.out.gs a HA.out)).mono ?_; rintro e w' ⟨rfl, rfl⟩))
  go_end0
  exact ⟨rfl, (H4.out.setG HA.out 3 _ ⟨6, v, 0, true⟩ rfl).setG HA.out 1 _ ⟨0, v, 0, true⟩ rfl, (HK4.out.setCell (.inl (by simp)) _).setCell (.inl (by simp)) _⟩
end
end Go.Proofs.Ytpaiicplcaeneaa
