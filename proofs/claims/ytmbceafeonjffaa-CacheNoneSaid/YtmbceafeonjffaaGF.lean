/-
  Several small texts in one: PoU, PoV. Conditions stand in each theorem.
-/
import Derived.Test.YtmbceafeonjffaaGD
import Derived.Test.YtmbceafeonjffaaGC
import Derived.Deep.RegionHeld3
namespace Go.Proofs.Ytmbceafeonjffaa
open Go.RowKit Plain
set_option linter.unusedVariables false
set_option linter.unusedSimpArgs false
set_option maxRecDepth 100000
set_option maxHeartbeats 4000000 in
theorem ptake_any {w : World} {gs gc gn n : Nat} {gv : Value} {l : List Int} {s : Ps} (hc : Cl w gc gn n l) (hs : StP w gs gc gv s) (hx : s.nx = 2) (h1 : s.wd < n) (hn : n ≤ 32) (hm : s.mo ≤ 32) (hr0 : 0 ≤ s.rd.getD s.wd 0) (hr1 : s.rd.getD s.wd 0 < 18446744073709551616) (hgc : gc ≠ gs) (hgn : gn ≠ gs) :
    Calls Try.prog 47 #[.pointer (some ⟨gs, 0, none⟩)] w fun e w' => e = .returned (.tuple #[]) ∧ Cl w' gc gn n (stpP n l s).1 ∧ StP w' gs gc gv (stpP n l s).2 ∧ Keep [gn, gs] w w' := by
  obtain ⟨y, hy⟩ : ∃ y, s.rd.getD s.wd 0 = y := ⟨_, rfl⟩
  rw [hy] at hr0 hr1
  obtain ⟨yn, rfl⟩ : ∃ yn : Nat, y = yn := ⟨y.toNat, by omega⟩
  have hfr := freeF_rng (yn : Int)
  obtain ⟨fn, hfn⟩ : ∃ fn : Nat, freeF (yn : Int) = fn := ⟨(freeF (yn : Int)).toNat, by omega⟩
  have hlr := lowF_rng (freeF (yn : Int)) s.mo
  obtain ⟨sn, hsn⟩ : ∃ sn : Nat, lowF (freeF (yn : Int)) s.mo = sn := ⟨(lowF (freeF (yn : Int)) s.mo).toNat, by omega⟩
  have hsn2 : sn < 4294967296 := by omega
  have HFO := Lib.hid (fun W => freeOf_any (yn : Int) W hr0 hr1)
  rw [hfn] at HFO
  have HLO := Lib.hid (fun W => lowest_any fn s.mo W (by omega) (by omega))
  rw [← hfn, hsn] at HLO
  rw [hfn] at HLO
  obtain ⟨tv, htv⟩ : ∃ tv, tookW (yn : Int) (sn : Int) = tv := ⟨_, rfl⟩
  have hO : bits .or .u64 (yn : Int) (sn : Int) = ((yn ||| sn : Nat) : Int) := bits_or64 yn sn (by omega) (by omega)
  have hol : yn ||| sn < 18446744073709551616 := Nat.or_lt_two_pow (n := 64) (by omega) (by omega)
  have hT : IntKind.u64.wrap (bits .or .u64 (yn : Int) (sn : Int) + 4294967296) = tv := by
    rw [hO, IntKind.wrap_u64, ← htv]; unfold tookW; simp only [Int.toNat_natCast]; omega
  have htu : U64 tv := by rw [← htv]; unfold tookW U64; omega
  have HY := Lib.hid hy
  have HN := Lib.hid hx
  have HSN := Lib.hid hsn
  have HTV := Lib.hid htv
  have HS := Lib.hid hs
  have HC := Lib.hid hc
  have c0 := hs.c0
  have c2 := hs.c2
  have c4 := hs.c4
  have rr := hs.cr s.wd (by omega)
  rw [hy] at rr
  have i1 : (s.wd : Int) < 32 := by omega
  have i2 : s.wd < 32 := by omega
  clear hc hs hx hy hsn htv hfn hlr hO hol
  have HT := Lib.hid hT
  clear hT
  go_enter Try.func47, Try.ntmps47
  go_upto_region 0 with fail
  go_quiet (fail)
  have HS1 := Lib.hid (HS.out.drewN nq)
  have HC1 := Lib.hid (HC.out.drewN nq)
  have HK1 := Lib.hid ((Keep.refl [gn, gs] w).drewN nq)
  clear c0 c2 c4 rr HS HC
  generalize w.drewN nq = w1 at *
  have c4 := HS1.out.c4
  go_upto_region 1 with fail
  go_quiet ((first | (go_at_call 51; exact quietP (HFO.out _)) | (go_at_call 64; exact quietP (HLO.out _))))
  have HS2 := Lib.hid (HS1.out.drewN nq)
  have HC2 := Lib.hid (HC1.out.drewN nq)
  have HK2 := Lib.hid (HK1.out.drewN nq)
  clear c4 HS1 HC1 HK1
  generalize w1.drewN nq = w2 at *
  have c0 := HS2.out.c0
  have c2 := HS2.out.c2
  go_upto_region 2 with fail
  have hT := HT.out
  have hS : IntKind.u64.wrap (sn : Int) = (sn : Int) := by rw [IntKind.wrap_u64]; omega
  have n0 : (gn : Nat) ≠ gs := hgn
  by_cases he : l.getD s.wd 0 = (yn : Int)
  · have HF := Lib.hid (show stpP n l s = (l.set s.wd tv, { s with tk := (sn : Int), nx := 0 }) by
      unfold stpP; rw [HN.out]; simp only; rw [HY.out, if_pos he, HSN.out, HTV.out])
    have HCA := Lib.hid (cas_yes (HC2.out.drewN 1) s.wd h1 (yn : Int) tv he)
    clear he
    go_region_held3 (fun W => W.cell? ⟨gs, 0, none⟩ = some (.pointer (some ⟨gc, 0, none⟩)) ∧ W.cell? ⟨gs, 2, none⟩ = some (.int .i64 s.wd))
      (first | go_keep | assumption | (exact ⟨(World.cell?_setCell_other _ _ _ _ (by simp <;> omega)).trans c0, (World.cell?_setCell_other _ _ _ _ (by simp <;> omega)).trans c2⟩))
      (first | (go_at_call 65; refine (HCA.out).mono ?_; rintro e w' ⟨rfl, hw'⟩))
    have HS3 := Lib.hid ((HS2.out.drewN 1).ne (p := ⟨gn, s.wd, none⟩) hgn (.int .u64 tv))
    have HC3 := Lib.hid ((HC2.out.drewN 1).set s.wd tv htu)
    have HK3 := Lib.hid ((HK2.out.drewN 1).setCell (p := ⟨gn, s.wd, none⟩) (.inl (by simp)) (.int .u64 tv))
    clear c0 c2 hT hS hw'
    generalize (w2.drewN 1).setCell ⟨gn, s.wd, none⟩ (.int .u64 tv) = w3 at *
    have c37 := HS3.out.c37
    have f37 := HS3.out.free 37
    have c1 := (HS3.out.tk (sn : Int)).c1
    have f1 := (HS3.out.tk (sn : Int)).free 1
    have HS4 := Lib.hid ((HS3.out.tk (sn : Int)).nx 0)
    have HC4 := Lib.hid ((HC3.out.other (p := ⟨gs, 37, none⟩) (Ne.symm hgc) (Ne.symm hgn) (.int .u32 (sn : Int))).other (p := ⟨gs, 1, none⟩) (Ne.symm hgc) (Ne.symm hgn) (.int .i64 ((0 : Nat) : Int)))
    have HK4 := Lib.hid ((HK3.out.setCell (p := ⟨gs, 37, none⟩) (.inl (by simp)) (.int .u32 (sn : Int))).setCell (p := ⟨gs, 1, none⟩) (.inl (by simp)) (.int .i64 ((0 : Nat) : Int)))
    clear HS3 HC3 HK3
    go_wp2
    go_end0
    rw [HF.out]
    exact ⟨rfl, HC4.out, HS4.out, HK4.out⟩
  · have HF := Lib.hid (show stpP n l s = (l, { s with nx := 1 }) by
      unfold stpP; rw [HN.out]; simp only; rw [HY.out, if_neg he])
    have HCA := Lib.hid (cas_miss (HC2.out.drewN 1) s.wd h1 (yn : Int) tv he)
    clear he
    go_region_held3 (fun W => W.cell? ⟨gs, 0, none⟩ = some (.pointer (some ⟨gc, 0, none⟩)) ∧ W.cell? ⟨gs, 2, none⟩ = some (.int .i64 s.wd))
      (first | go_keep | assumption | (exact ⟨c0, c2⟩))
      (first | (go_at_call 65; refine (HCA.out).mono ?_; rintro e w' ⟨rfl, rfl⟩))
    have HS3 := Lib.hid (HS2.out.drewN 1)
    have HC3 := Lib.hid (HC2.out.drewN 1)
    have HK3 := Lib.hid (HK2.out.drewN 1)
    clear c0 c2 hT hS HS2 HC2 HK2
    generalize w2.drewN 1 = w3 at *
    have c1 := HS3.out.c1
    have f1 := HS3.out.free 1
    have HS4 := Lib.hid (HS3.out.nx 1)
    have HC4 := Lib.hid (HC3.out.other (p := ⟨gs, 1, none⟩) (Ne.symm hgc) (Ne.symm hgn) (.int .i64 ((1 : Nat) : Int)))
    have HK4 := Lib.hid (HK3.out.setCell (p := ⟨gs, 1, none⟩) (.inl (by simp)) (.int .i64 ((1 : Nat) : Int)))
    clear HS3 HC3 HK3
    go_wp2
    refine bodyPost_ret (v := .tuple #[]) (by first | rfl | kernel_rfl | (simp [results, go_sem]; done)) rfl ?_
    rw [HF.out]
    exact ⟨rfl, HC4.out, HS4.out, HK4.out⟩
end Go.Proofs.Ytmbceafeonjffaa

namespace Go.Proofs.Ytmbceafeonjffaa
open Go.RowKit Plain
set_option linter.unusedVariables false
set_option linter.unusedSimpArgs false
set_option maxRecDepth 100000
set_option maxHeartbeats 4000000 in
theorem compare_any {w : World} {gs gc gn n : Nat} {gv : Value} {l : List Int} {s : Ps} (hc : Cl w gc gn n l) (hs : StP w gs gc gv s) (hx : s.nx = 3) (h1 : s.wd < n) (hn : n ≤ 32) (ha : 1 ≤ s.ah) (ha2 : s.ah ≤ 32) (hgc : gc ≠ gs) (hgn : gn ≠ gs) :
    Calls Try.prog 48 #[.pointer (some ⟨gs, 0, none⟩)] w fun e w' => e = .returned (.tuple #[]) ∧ StP w' gs gc gv (stpP n l s).2 ∧ Keep [gs] w w' := by
  obtain ⟨x, hxx⟩ : ∃ x, l.getD s.wd 0 = x := ⟨_, rfl⟩
  obtain ⟨y, hy⟩ : ∃ y, s.rd.getD s.wd 0 = y := ⟨_, rfl⟩
  have HLD := Lib.hid (fun q => load_eq (hc.drewN q) s.wd h1 x hxx)
  have HS := Lib.hid hs
  have HX := Lib.hid hxx
  have HY := Lib.hid hy
  have HN := Lib.hid hx
  have c0 := hs.c0
  have c2 := hs.c2
  have rr := hs.cr s.wd (by omega)
  rw [hy] at rr
  have i1 : (s.wd : Int) < 32 := by omega
  have i2 : s.wd < 32 := by omega
  clear hc hs hxx hx hy
  go_enter Try.func48, Try.ntmps48
  go_upto_region 2 with fail
  go_quiet ((go_at_call 63; exact quietP (HLD.out _)))
  have HS1 := Lib.hid (HS.out.drewN nq)
  have HK1 := Lib.hid ((Keep.refl [gs] w).drewN nq)
  clear c0 c2 rr HLD HS
  generalize w.drewN nq = w1 at *
  by_cases he : x = y
  · have d : (x != y) = false := by simp [he]
    by_cases ha1 : s.ah = 1
    · have HF := Lib.hid (show (stpP n l s).2 = { s with sm := true, nx := 0 } by
        unfold stpP; rw [HN.out]; simp only; rw [HX.out, HY.out, if_neg (by simp [he]), if_pos ha1])
      have c3 := HS1.out.c3
      have d3 : ((s.ah : Int) == 1) = true := by simp [ha1]
      have c39 := HS1.out.c39
      have f39 := HS1.out.free 39
      have c1 := (HS1.out.sm true).c1
      have f1 := (HS1.out.sm true).free 1
      have HS2 := Lib.hid ((HS1.out.sm true).nx 0)
      have HK2 := Lib.hid ((HK1.out.setCell (p := ⟨gs, 39, none⟩) (.inl (by simp)) (.bool true)).setCell (p := ⟨gs, 1, none⟩) (.inl (by simp)) (.int .i64 ((0 : Nat) : Int)))
      clear he ha1 HS1 HK1
      go_wp2
      go_end0
      rw [HF.out]
      exact ⟨rfl, HS2.out, HK2.out⟩
    · obtain ⟨a, haa⟩ : ∃ a, s.ah = a + 1 := ⟨s.ah - 1, by omega⟩
      have HF := Lib.hid (show (stpP n l s).2 = { s with ah := a, wd := s.wd + 1 } by
        unfold stpP; rw [HN.out]; simp only; rw [HX.out, HY.out, if_neg (by simp [he]), if_neg ha1, haa]; rfl)
      have c3 : w1.cell? ⟨gs, 3, none⟩ = some (.int .i64 ((a : Int) + 1)) := by have := HS1.out.c3; rw [haa] at this; exact this
      have f3 := HS1.out.free 3
      have d3 : ((a : Int) + 1 == 1) = false := by simp; omega
      have c2 := (HS1.out.ah a).c2
      simp only at c2
      have f2 := (HS1.out.ah a).free 2
      have HS2 := Lib.hid ((HS1.out.ah a).wd (s.wd + 1))
      have HK2 := Lib.hid ((HK1.out.setCell (p := ⟨gs, 3, none⟩) (.inl (by simp)) (.int .i64 (a : Int))).setCell (p := ⟨gs, 2, none⟩) (.inl (by simp)) (.int .i64 ((s.wd + 1 : Nat) : Int)))
      have ha3 : a ≤ 31 := by omega
      clear he ha1 HS1 HK1 haa
      go_wp2
      go_end0
      rw [HF.out]
      exact ⟨rfl, HS2.out, HK2.out⟩
  · have d : (x != y) = true := by simp [he]
    have HF := Lib.hid (show (stpP n l s).2 = { s with nx := 0 } by
      unfold stpP; rw [HN.out]; simp only; rw [HX.out, HY.out, if_pos he])
    have c1 := HS1.out.c1
    have f1 := HS1.out.free 1
    have HS2 := Lib.hid (HS1.out.nx 0)
    have HK2 := Lib.hid (HK1.out.setCell (p := ⟨gs, 1, none⟩) (.inl (by simp)) (.int .i64 ((0 : Nat) : Int)))
    clear he HS1 HK1
    go_wp2
    go_end0
    rw [HF.out]
    exact ⟨rfl, HS2.out, HK2.out⟩
end Go.Proofs.Ytmbceafeonjffaa
