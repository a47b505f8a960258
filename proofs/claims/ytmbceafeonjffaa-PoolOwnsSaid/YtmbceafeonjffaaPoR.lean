/-
  Package pool: a step of a Take that reads. Conditions stand in each theorem.
-/
import Derived.Test.YtmbceafeonjffaaPoS
import Derived.Deep.QuietTactic
import Derived.BigQuiet
import Derived.RegionTactic
import Derived.BigRegion
import Derived.Deep.RegionLaw
namespace Go.Proofs.Ytmbceafeonjffaa
open Go.RowKit Plain
set_option linter.unusedVariables false
set_option linter.unusedSimpArgs false
set_option maxRecDepth 100000
theorem quietP {f : FuncId} {args : Array Value} {w : World} {n : Nat} {v : Value} (h : Calls Try.prog f args (w.drewN n) fun e w' => e = .returned v ∧ w.drewN n = w') :
    Calls Try.prog f args (w.drewN n) fun e w' => e = .returned v ∧ ∃ m, w' = w.drewN m := h.mono fun _ _ ⟨he, hw⟩ => ⟨he, n, hw.symm⟩
set_option maxHeartbeats 4000000 in
theorem readToTake_any {w : World} {gs gc gn n : Nat} {gv : Value} {l : List Int} {s : Ps} (hc : Cl w gc gn n l) (hs : StP w gs gc gv s) (hx : s.nx = 1) (h1 : s.wd < n) (hn : n ≤ 32) (ha : 1 ≤ s.ah) (ha2 : s.ah ≤ 32) (hgc : gc ≠ gs) (hgn : gn ≠ gs) :
    Calls Try.prog 46 #[.pointer (some ⟨gs, 0, none⟩)] w fun e w' => e = .returned (.tuple #[]) ∧ StP w' gs gc gv (stpP n l s).2 ∧ Keep [gs] w w' := by
  have hu := hc.u64 s.wd
  unfold U64 at hu
  obtain ⟨x, hxx⟩ : ∃ x, l.getD s.wd 0 = x := ⟨_, rfl⟩
  rw [hxx] at hu
  have HLD := Lib.hid (fun q => load_eq (hc.drewN q) s.wd h1 x hxx)
  have HSZ := Lib.hid (fun (W : World) (hk : Keep [gs] w W) => size_any (hc.keep hk (by simp; omega) (by simp; omega)))
  have HS := Lib.hid hs
  have HX := Lib.hid hxx
  have HN := Lib.hid hx
  have c0 := hs.c0
  have c2 := hs.c2
  have r0 := hs.cr s.wd (by omega)
  have f0 := hs.free (5 + s.wd)
  have i1 : (s.wd : Int) < 32 := by omega
  have i2 : s.wd < 32 := by omega
  clear hc hs hxx hx
  go_enter Try.func46, Try.ntmps46
  go_upto_region 0 with fail
  go_quiet ((go_at_call 63; exact quietP (HLD.out _)))
  go_upto_region 1 with fail
  have c2' : (w.drewN nq).cell? ⟨gs, 2, none⟩ = some (.int .i64 s.wd) := c2
  have r0' : (w.drewN nq).cell? ⟨gs, 5 + s.wd, none⟩ = some (.int .u64 (s.rd.getD s.wd 0)) := r0
  have f0' : (w.drewN nq).frozen? ⟨gs, 5 + s.wd, none⟩ = false := f0
  go_region
  have HS1 := Lib.hid ((HS.out.drewN (nq + 1)).rd s.wd i2 x)
  have HK1 := Lib.hid (((Keep.refl [gs] w).drewN (nq + 1)).setCell (p := ⟨gs, 5 + s.wd, none⟩) (.inl (by simp)) (.int .u64 x))
  clear c0 c2 r0 f0 c2' r0' f0'
  generalize (w.drewN (nq + 1)).setCell ⟨gs, 5 + s.wd, none⟩ (.int .u64 x) = w1 at *
  have HFO := Lib.hid (freeOf_any x w1 hu.1 hu.2)
  by_cases hf : freeF x = 0
  · have d1 : (freeF x != 0) = false := by simp [hf]
    by_cases ha1 : s.ah = 1
    · have HF := Lib.hid (show (stpP n l s).2 = { s with rd := s.rd.set s.wd x, no := true, nx := 0 } by
        unfold stpP; rw [HN.out]; simp only; rw [HX.out, if_neg (by simpa using hf), if_pos ha1])
      have c3 := HS1.out.c3
      simp only at c3
      have f38 := HS1.out.free 38
      have c38 := HS1.out.c38
      have d3 : ((s.ah : Int) == 1) = true := by simp [ha1]
      have HS2 := Lib.hid ((HS1.out.no true).nx 0)
      have c1 := (HS1.out.no true).c1
      have f1 := (HS1.out.no true).free 1
      have HK2 := Lib.hid ((HK1.out.setCell (p := ⟨gs, 38, none⟩) (.inl (by simp)) (.bool true)).setCell (p := ⟨gs, 1, none⟩) (.inl (by simp)) (.int .i64 0))
      clear ha1 hf HS1 HK1
      go_wp2_with (go_at_call 51; refine (HFO.out).mono ?_; rintro e w2 ⟨rfl, rfl⟩)
      go_end0
      refine ⟨rfl, ?_, HK2.out⟩
      rw [HF.out]
      exact HS2.out
    · obtain ⟨a, haa⟩ : ∃ a, s.ah = a + 1 := ⟨s.ah - 1, by omega⟩
      have hr : (s.wd + 1) % n < n := Nat.mod_lt _ (by omega)
      obtain ⟨r, hrr⟩ : ∃ r, (s.wd + 1) % n = r := ⟨_, rfl⟩
      have HF := Lib.hid (show (stpP n l s).2 = { s with rd := s.rd.set s.wd x, ah := a, wd := r } by
        unfold stpP; rw [HN.out]; simp only; rw [HX.out, if_neg (by simpa using hf), if_neg ha1]; simp only; rw [haa, hrr]; rfl)
      have HRR := Lib.hid (show ((s.wd : Int) + 1) % (n : Int) = (r : Int) by rw [← hrr]; simp)
      have c3 : w1.cell? ⟨gs, 3, none⟩ = some (.int .i64 ((a : Int) + 1)) := by have := HS1.out.c3; simp only at this; rw [haa] at this; exact this
      have f3 := HS1.out.free 3
      have d3 : ((a : Int) + 1 == 1) = false := by simp; omega
      have HS2 := Lib.hid (HS1.out.ah a)
      have HK2 := Lib.hid (HK1.out.setCell (p := ⟨gs, 3, none⟩) (.inl (by simp)) (.int .i64 a))
      rw [hrr] at hr
      have ha3 : a ≤ 31 := by omega
      have HV := Lib.hid (show (IntKind.i64.wrap ((s.wd : Int) + 1)).tmod (n : Int) = (r : Int) by
        rw [show IntKind.i64.wrap ((s.wd : Int) + 1) = (s.wd : Int) + 1 from IntWalk.i64_in _ (by omega), Int.tmod_eq_emod_of_nonneg (by omega)]
        exact HRR.out)
      clear ha1 hf HS1 HK1 haa hrr
      go_upto_region 3 with (go_at_call 51; refine (HFO.out).mono ?_; rintro e w2 ⟨rfl, rfl⟩)
      clear c3 f3
      generalize w1.setCell ⟨gs, 3, none⟩ (.int .i64 a) = w3 at *
      have c0 := HS2.out.c0
      have c2 : w3.cell? ⟨gs, 2, none⟩ = some (.int .i64 s.wd) := HS2.out.c2
      have f2 := HS2.out.free 2
      have HSZ2 := Lib.hid (HSZ.out w3.drew HK2.out.drew)
      have hn1 : (n : Int) ≠ 0 := by omega
      have hn2 : (0 : Int) < (n : Int) := by omega
      have hn3 : n ≠ 0 := by omega
      go_region_law (go_simp; go_at_call 39; refine (HSZ2.out).mono ?_; rintro e w4 ⟨rfl, rfl⟩)
      all_goals
        rw [HV.out]
        go_wp2
        go_end0
        refine ⟨rfl, ?_, (HK2.out.setCell (p := ⟨gs, 2, none⟩) (.inl (by simp)) (.int .i64 r)).drew⟩
        rw [HF.out]
        exact (HS2.out.wd r).drewN 1
  · have d1 : (freeF x != 0) = true := by simp [hf]
    have HF := Lib.hid (show (stpP n l s).2 = { s with rd := s.rd.set s.wd x, nx := 2 } by
      unfold stpP; rw [HN.out]; simp only; rw [HX.out, if_pos hf])
    have c1 := HS1.out.c1
    have f1 := HS1.out.free 1
    have HS2 := Lib.hid (HS1.out.nx 2)
    have HK2 := Lib.hid (HK1.out.setCell (p := ⟨gs, 1, none⟩) (.inl (by simp)) (.int .i64 2))
    clear hf HS1 HK1
    go_wp2_with (go_at_call 51; refine (HFO.out).mono ?_; rintro e w2 ⟨rfl, rfl⟩)
    go_end0
    refine ⟨rfl, ?_, HK2.out⟩
    rw [HF.out]
    exact HS2.out
end Go.Proofs.Ytmbceafeonjffaa
