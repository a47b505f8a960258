/-
  CellsOnce: Cells.Once by its contracts, and the walk. Conditions stand in each theorem.
-/
import Derived.Test.YtcciooccljeicaaOnceS
import Derived.Deep.CutBlock
import Derived.Deep.DeepCutAuto
import Derived.BigQuiet
namespace Go.Proofs.Ytcciooccljeicaa
open Go.RowKit Plain
set_option linter.unusedVariables false
set_option maxRecDepth 100000

/-- the cells, done or not, and what is counted -/
structure OnS (w0 : World) (gc g0 : Nat) (d : Int) (W : World) : Prop where
  sb : ∃ a b, Blk W gc 58 #[a, .int .u32 d, .int .i32 0, b]
  nb : Blk W g0 3 #[.int .i64 d]
  ne : g0 ≠ gc
  bel : Below w0.heap.size w0 W
  bc : w0.heap.size ≤ gc
  bn : w0.heap.size ≤ g0
theorem OnS.below {w0 W W' : World} {gc g0 : Nat} {d : Int} (h : OnS w0 gc g0 d W) (hb : Below W.heap.size W W') : OnS w0 gc g0 d W' := by
  obtain ⟨a, b, hs⟩ := h.sb
  exact ⟨⟨a, b, hs.below hb⟩, h.nb.below hb, h.ne, bthen h.bel hb, h.bc, h.bn⟩
theorem hmfO : ∀ (fn : Fn) (first cap : Array Value) (w : World), (Instr.makeFunc fn first cap).run Try.prog w = .ok (.func fn first cap) w := fun _ _ _ _ => rfl

/-- Cells.Once, the first time -/
theorem once_first {w0 W : World} {gc g0 : Nat} (h : OnS w0 gc g0 0 W) :
    Calls Try.prog 11 #[.pointer (some ⟨gc, 0, none⟩), .func (.func 12) #[] #[.pointer (some ⟨g0, 0, none⟩)]] W fun e w' => e = .returned (.tuple #[]) ∧ OnS w0 gc g0 1 w' := by
  have hmf := hmfO
  obtain ⟨a, b, hs⟩ := h.sb
  have hal := ball W (.cells #[.func (.func 12) #[] #[.pointer (some ⟨g0, 0, none⟩)]] 1)
  have hbx := Blk.new W 1 #[.func (.func 12) #[] #[.pointer (some ⟨g0, 0, none⟩)]]
  have hlc := hs.lt
  have hln := h.nb.lt
  have HS := Lib.hid (hs.below hal)
  have HN := Lib.hid (h.nb.below hal)
  have HB := Lib.hid (bthen h.bel hal)
  have HH := Lib.hid h
  have hd := do_first gc W.heap.size g0 0 (by omega) _ (by omega) h.ne (hbx.cell 0) (HS.out.cell 1) (HS.out.cell 2) (HN.out.cell 0) (HS.out.frozen 1) (HS.out.frozen 2) (HN.out.frozen 0)
  rw [show (0 : Int) + 1 = 1 from rfl] at hd
  have HD := Lib.hid hd
  clear hs hal hbx h hd
  go_enter Try.func11, Try.ntmps11
  go_wp2_with (go_at_call 21; refine (HD.out).mono ?_; rintro e w9 ⟨rfl, hw9⟩; have HW9 := Lib.hid hw9; clear hw9)
  go_end0
  have n1 := HH.out.ne
  generalize W.alloc (.cells #[.func (.func 12) #[] #[.pointer (some ⟨g0, 0, none⟩)]] 1) = W1 at *
  have hw9 := HW9.out
  clear HW9 HD
  subst hw9
  refine ⟨rfl, ⟨⟨a, b, ?_⟩, ?_, n1, ?_, HH.out.bc, HH.out.bn⟩⟩
  · have b1 := HS.out.set 2 (.int .i32 1)
    have b2 := b1.ne (p := ⟨g0, 0, none⟩) n1 (.int .i64 1)
    have b3 := (b2.drew.set 1 (.int .u32 1)).set 2 (.int .i32 0)
    exact b3
  · have b1 := HN.out.ne (p := ⟨gc, 2, none⟩) (Ne.symm n1) (.int .i32 1)
    have b2 := b1.set 0 (.int .i64 1)
    have b3 := (b2.drew.ne (p := ⟨gc, 1, none⟩) (Ne.symm n1) (.int .u32 1)).ne (p := ⟨gc, 2, none⟩) (Ne.symm n1) (.int .i32 0)
    exact b3
  · have k1 := HB.out.setCell (p := ⟨gc, 2, none⟩) HH.out.bc (.int .i32 1)
    have k2 := k1.setCell (p := ⟨g0, 0, none⟩) HH.out.bn (.int .i64 1)
    have k3 := below_drewN k2 1
    exact (k3.setCell (p := ⟨gc, 1, none⟩) HH.out.bc (.int .u32 1)).setCell (p := ⟨gc, 2, none⟩) HH.out.bc (.int .i32 0)
/-- Cells.Once, done already -/
theorem once_again {w0 W : World} {gc g0 : Nat} (h : OnS w0 gc g0 1 W) (fv : Value) (hf : fv = .func (.func 12) #[] #[.pointer (some ⟨g0, 0, none⟩)]) :
    Calls Try.prog 11 #[.pointer (some ⟨gc, 0, none⟩), fv] W fun e w' => e = .returned (.tuple #[]) ∧ OnS w0 gc g0 1 w' := by
  subst hf
  have hmf := hmfO
  obtain ⟨a, b, hs⟩ := h.sb
  have hal := ball W (.cells #[.func (.func 12) #[] #[.pointer (some ⟨g0, 0, none⟩)]] 1)
  have HH := Lib.hid (h.below hal)
  have HD := fun fv => do_done ⟨gc, 1, none⟩ fv _ ((hs.below hal).cell 1)
  have HD := Lib.hid HD
  clear hs hal h
  go_enter Try.func11, Try.ntmps11
  go_wp2_with (go_at_call 21; refine (HD.out _).mono ?_; rintro e w' ⟨rfl, rfl⟩)
  go_end0
  exact ⟨rfl, HH.out⟩
/-- of none -/
theorem once_nil (W : World) (fv : Value) (hf : ∃ g0, fv = .func (.func 14) #[] #[.pointer (some ⟨g0, 0, none⟩)]) :
    Calls Try.prog 11 #[.pointer none, fv] W fun e w' => e = .returned (.tuple #[]) ∧ Below W.heap.size W w' := by
  obtain ⟨g0, rfl⟩ := hf
  have hmf := hmfO
  have HB := Lib.hid (ball W (.cells #[.func (.func 14) #[] #[.pointer (some ⟨g0, 0, none⟩)]] 1))
  go_enter Try.func11, Try.ntmps11
  go_wp2
  first | go_end0 | (simp only [Exit.inBlock, Exit.then]; refine bodyPost_ret (results_none rfl _ _ _) rfl ?_) | refine bodyPost_ret (results_none rfl _ _ _) rfl ?_
  exact ⟨rfl, HB.out⟩
theorem noneC (w : World) : Calls Try.prog 13 #[] w fun e w' => e = .returned (.pointer none) ∧ w = w' := by
  go_enter Try.func13, Try.ntmps13
  go_wp2
  go_ret
  exact ⟨rfl, rfl⟩

set_option maxHeartbeats 4000000 in
theorem cellsOnce_walk (n0 : Int) (w : World) : Calls Try.prog 4 #[.int .i64 n0] w fun e w' => e = .returned (.bool true) ∧ Below w.heap.size w w' := by
  have hmf := hmfO
  obtain ⟨K, hK, hKl⟩ := pickN n0 20 (by omega) (by omega)
  go_enter Try.func4, Try.ntmps4
  go_upto_region 2 with (go_at_call 6; refine (new_any 1 (by omega) (by omega) w).mono ?_; rintro e w1 ⟨rfl, hc, hB, hs⟩)
  have hal := ball w1 (.cells #[.int .i64 0] 3)
  have H0 := Lib.hid (show OnS w (w.heap.size + 1) w1.heap.size 0 (w1.alloc (.cells #[.int .i64 0] 3)) from
    ⟨⟨_, _, hc.st.below hal⟩, Blk.new w1 _ _, by omega, bthen hB hal, by omega, by omega⟩)
  clear hc hB hal hs
  go_upto_region 3 with fail
  generalize w1.alloc (.cells #[.int .i64 0] 3) = w2 at *
  generalize w1.heap.size = g0 at *
  generalize w.heap.size + 1 = gc at *
  go_wp2
  go_loopw [6] (fun s6 wr => ∃ j : Nat, s6 = .int .i64 j ∧ j ≤ K ∧ ∃ d : Int, OnS w gc g0 d wr ∧ ((d = 0 ∧ j = 0) ∨ (d = 1 ∧ 1 ≤ j))) (fun j _ => K - (intOf j).toNat)
  case atStart => exact ⟨0, rfl, by omega, 0, H0.out, .inl ⟨rfl, rfl⟩⟩
  case round =>
    obtain ⟨j, rfl, hj, d, hO, hd⟩ := hrel
    have HO := Lib.hid hO
    clear hO H0
    have hk20 : (K : Int) < 20 := hKl
    by_cases hjk : j < K
    · have bj : decide ((j : Int) < (K : Int)) = true := decide_eq_true (by omega)
      go_upto_region 6 with fail
      rcases hd with ⟨rfl, rfl⟩ | ⟨rfl, h1⟩
      · go_upto_region 7 with (go_at_call 11; refine (once_first HO.out).mono ?_; rintro e w3 ⟨rfl, ho3⟩; have c3 := ho3.nb.cell 0; have HO3 := Lib.hid ho3; clear ho3)
        go_wp2
        go_roundw
        case rel => exact ⟨1, by go_num, by omega, 1, HO3.out, .inr ⟨rfl, by omega⟩⟩
        case measure => simp [intOf]; omega
      · go_upto_region 7 with (go_at_call 11; refine (once_again HO.out _ rfl).mono ?_; rintro e w3 ⟨rfl, ho3⟩; have c3 := ho3.nb.cell 0; have HO3 := Lib.hid ho3; clear ho3)
        go_wp2
        go_roundw
        case rel => exact ⟨j + 1, by go_num, by omega, 1, HO3.out, .inr ⟨rfl, by omega⟩⟩
        case measure => simp [intOf]; omega
    · have bj : decide ((j : Int) < (K : Int)) = false := decide_eq_false (by omega)
      have hd2 : d < 2 := by omega
      have b2 : decide (d < 2) = true := decide_eq_true hd2
      clear hd hd2
      go_upto_region 10 with (first | (go_at_call 13; refine (noneC _).mono ?_; rintro e w3 ⟨rfl, rfl⟩) | (go_at_call 11; refine (once_nil _ _ ⟨_, rfl⟩).mono ?_; rintro e w4 ⟨rfl, hb4⟩; have HO4 := Lib.hid (HO.out.below hb4); clear hb4))
      go_wp2_with (go_at_call 10; refine (swaps_any _).mono ?_; rintro e w5 ⟨rfl, hb5⟩; have c5 := (HO4.out.below hb5).nb.cell 0; have HO5 := Lib.hid (HO4.out.below hb5); clear hb5)
      go_ret
      exact ⟨rfl, HO5.out.bel⟩
end Go.Proofs.Ytcciooccljeicaa
