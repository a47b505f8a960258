/-
  Package pool: a step of a Same. Conditions stand in each theorem.
-/
import Derived.Test.YtmbceafeonjffaaPoU
namespace Go.Proofs.Ytmbceafeonjffaa
open Go.RowKit Plain
set_option linter.unusedVariables false
set_option linter.unusedSimpArgs false
set_option maxRecDepth 100000
set_option maxHeartbeats 4000000 in
theorem compare_any {w : World} {gs gc gn n : Nat} {gv : Value} {l : List Int} {s : Ps} (hc : Cl w gc gn n l) (hs : StP w gs gc gv s) (hx : s.nx = 3) (h1 : s.wd < n) (hn : n ≤ 32) (ha : 1 ≤ s.ah) (ha2 : s.ah ≤ 32) (hgc : gc ≠ gs) (hgn : gn ≠ gs) :
    Calls Try.prog 48 #[.pointer (some ⟨gs, 0, none⟩)] w fun e w' => e = .returned (.tuple #[]) ∧ StP w' gs gc gv (stpP n l s).2 ∧ Keep [gs] w w' := by
  obtain ⟨x, hxx⟩ : ∃ x, l.getD s.wd 0 = x := ⟨_, rfl⟩
  obtain ⟨y, hy⟩ : ∃ y, s.rd.getD s.wd 0 = y := ⟨_, rfl⟩
  have HLD := Lib.hid (fun q => load_eq (hc.drewN q) s.wd h1 x hxx)
  have HS := Lib.hid hs
  have HX := Lib.hid hxx
  have HY := Lib.hid hy
  have HN := Lib.hid hx
  have c0 := hs.c0
  have c2 := hs.c2
  have rr := hs.cr s.wd (by omega)
  rw [hy] at rr
  have i1 : (s.wd : Int) < 32 := by omega
  have i2 : s.wd < 32 := by omega
  clear hc hs hxx hx hy
  go_enter Try.func48, Try.ntmps48
  go_upto_region 2 with fail
  go_quiet ((go_at_call 63; exact quietP (HLD.out _)))
  have HS1 := Lib.hid (HS.out.drewN nq)
  have HK1 := Lib.hid ((Keep.refl [gs] w).drewN nq)
  clear c0 c2 rr HLD HS
  generalize w.drewN nq = w1 at *
  by_cases he : x = y
  · have d : (x != y) = false := by simp [he]
    by_cases ha1 : s.ah = 1
    · have HF := Lib.hid (show (stpP n l s).2 = { s with sm := true, nx := 0 } by
        unfold stpP; rw [HN.out]; simp only; rw [HX.out, HY.out, if_neg (by simp [he]), if_pos ha1])
      have c3 := HS1.out.c3
      have d3 : ((s.ah : Int) == 1) = true := by simp [ha1]
      have c39 := HS1.out.c39
      have f39 := HS1.out.free 39
      have c1 := (HS1.out.sm true).c1
      have f1 := (HS1.out.sm true).free 1
      have HS2 := Lib.hid ((HS1.out.sm true).nx 0)
      have HK2 := Lib.hid ((HK1.out.setCell (p := ⟨gs, 39, none⟩) (.inl (by simp)) (.bool true)).setCell (p := ⟨gs, 1, none⟩) (.inl (by simp)) (.int .i64 ((0 : Nat) : Int)))
      clear he ha1 HS1 HK1
      go_wp2
      go_end0
      rw [HF.out]
      exact ⟨rfl, HS2.out, HK2.out⟩
    · obtain ⟨a, haa⟩ : ∃ a, s.ah = a + 1 := ⟨s.ah - 1, by omega⟩
      have HF := Lib.hid (show (stpP n l s).2 = { s with ah := a, wd := s.wd + 1 } by
        unfold stpP; rw [HN.out]; simp only; rw [HX.out, HY.out, if_neg (by simp [he]), if_neg ha1, haa]; rfl)
      have c3 : w1.cell? ⟨gs, 3, none⟩ = some (.int .i64 ((a : Int) + 1)) := by have := HS1.out.c3; rw [haa] at this; exact this
      have f3 := HS1.out.free 3
      have d3 : ((a : Int) + 1 == 1) = false := by simp; omega
      have c2 := (HS1.out.ah a).c2
      simp only at c2
      have f2 := (HS1.out.ah a).free 2
      have HS2 := Lib.hid ((HS1.out.ah a).wd (s.wd + 1))
      have HK2 := Lib.hid ((HK1.out.setCell (p := ⟨gs, 3, none⟩) (.inl (by simp)) (.int .i64 (a : Int))).setCell (p := ⟨gs, 2, none⟩) (.inl (by simp)) (.int .i64 ((s.wd + 1 : Nat) : Int)))
      have ha3 : a ≤ 31 := by omega
      clear he ha1 HS1 HK1 haa
      go_wp2
      go_end0
      rw [HF.out]
      exact ⟨rfl, HS2.out, HK2.out⟩
  · have d : (x != y) = true := by simp [he]
    have HF := Lib.hid (show (stpP n l s).2 = { s with nx := 0 } by
      unfold stpP; rw [HN.out]; simp only; rw [HX.out, HY.out, if_pos he])
    have c1 := HS1.out.c1
    have f1 := HS1.out.free 1
    have HS2 := Lib.hid (HS1.out.nx 0)
    have HK2 := Lib.hid (HK1.out.setCell (p := ⟨gs, 1, none⟩) (.inl (by simp)) (.int .i64 ((0 : Nat) : Int)))
    clear he HS1 HK1
    go_wp2
    go_end0
    rw [HF.out]
    exact ⟨rfl, HS2.out, HK2.out⟩
end Go.Proofs.Ytmbceafeonjffaa
