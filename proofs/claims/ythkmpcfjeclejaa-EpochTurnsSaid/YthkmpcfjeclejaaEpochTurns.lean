/-
  EpochTurns: its walk.
-/
import Derived.Test.YthkmpcfjeclejaaTurnsW
namespace Go.Proofs.Ythkmpcfjeclejaa
open Go.RowKit Go.Deep Plain
set_option linter.unusedVariables false
set_option maxRecDepth 100000

/-- blocks that are the law's own -/
def BaseT (w : World) (ge gc gn gg gl gr gp gs gv gz gq : Nat) : Prop :=
  w.heap.size ≤ ge ∧ w.heap.size ≤ gc ∧ w.heap.size ≤ gn ∧ w.heap.size ≤ gg ∧ w.heap.size ≤ gl ∧ w.heap.size ≤ gr ∧ w.heap.size ≤ gp ∧ w.heap.size ≤ gs ∧ w.heap.size ≤ gv ∧ w.heap.size ≤ gz ∧ w.heap.size ≤ gq
set_option maxHeartbeats 80000000 in
theorem epochTurns_walk (n0 : Int) (A : Option Addr) (nr c : Nat) (V : Nat → Nat → Value) (w : World) (hn0 : -9223372036854775808 ≤ n0) (hn1 : n0 ≤ 9223372036854775807) (hnc : nr ≤ c) (hm : c ≤ maxLen) (hR : RdS act7 w A nr V)
    (hbody : ∀ (ge gc gn gg gl gr gp gs gv gz gq n : Nat) (c0 c2 c3 c5 c6 c9 c29 c30 c31 c32 c33 c34 c35 c36 c37 c38 c39 c40 c41 c42 c43 c44 c45 c46 c47 c48 c49 c50 c51 c52 c53 c54 c55 c56 c57 c58 c59 c60 c61 c62 c63 c64 c65 c66 c67 c68 c69 c70 c71 c72 c73 c74 c75 c76 c77 c78 c79 c80 c81 c82 c83 c84 c85 c86 c87 c88 c89 c90 c91 c92 c93 c94 c95 c96 c97 c98 c99 c100 c101 c102 c103 c370 c371 : Value), BaseT w ge gc gn gg gl gr gp gs gv gz gq → BodyT w ge gc gn gg gl gr gp gs gv gz gq n nr c A c0 c2 c3 c5 c6 c9 c29 c30 c31 c32 c33 c34 c35 c36 c37 c38 c39 c40 c41 c42 c43 c44 c45 c46 c47 c48 c49 c50 c51 c52 c53 c54 c55 c56 c57 c58 c59 c60 c61 c62 c63 c64 c65 c66 c67 c68 c69 c70 c71 c72 c73 c74 c75 c76 c77 c78 c79 c80 c81 c82 c83 c84 c85 c86 c87 c88 c89 c90 c91 c92 c93 c94 c95 c96 c97 c98 c99 c100 c101 c102 c103 c370 c371) :
    Calls Try.prog 3 #[.int .i64 n0, .slice A nr c] w fun e w' => e = .returned (.bool true) ∧ Below w.heap.size w w' := by
  unfold maxLen at hm
  have HR := Lib.hid hR
  clear hR
  go_enter Try.func3, Try.ntmps3
  go_upto_region 3 with (first | (go_at_call 10; refine (none7 _).mono ?_; rintro e w' ⟨rfl, rfl⟩) | (go_at_call 11; refine (eUnpin_nil _).mono ?_; rintro e w' ⟨rfl, rfl⟩))
  go_upto_region 6 with (first
    | (go_at_call 12; refine (moves_any _).mono ?_; rintro e w1 ⟨rfl, hb1⟩)
    | (go_at_call 13; refine (eNow_nil _).mono ?_; rintro e w' ⟨rfl, rfl⟩)
    | (go_at_call 14; refine (ePinned_nil _).mono ?_; rintro e w' ⟨rfl, rfl⟩)
    | (go_at_call 15; refine (eGive_nil _).mono ?_; rintro e w' ⟨rfl, rfl⟩)
    | (go_at_call 16; refine (eTake_nil _).mono ?_; rintro e w' ⟨rfl, rfl⟩)
    | (go_at_call 17; refine (eWaiting_nil _).mono ?_; rintro e w' ⟨rfl, rfl⟩)
    | (go_at_call 18; refine (eGiven_nil _).mono ?_; rintro e w' ⟨rfl, rfl⟩)
    | (go_at_call 19; refine (eDo_nil _).mono ?_; rintro e w' ⟨rfl, rfl⟩)
    | (go_at_call 20; refine (eWon_nil _).mono ?_; rintro e w' ⟨rfl, rfl⟩))
  have HB1 := Lib.hid hb1
  have z1 := hb1.size
  clear hb1
  by_cases hbad : n0 < 1 ∨ 64 < n0
  · have HBD := Lib.hid hbad
    by_cases h1 : n0 < 1
    · have d1 : decide (n0 < 1) = true := by simpa using h1
      clear hbad
      go_wp2_with (go_at_call 21; refine (eNew_bad n0 HBD.out _).mono ?_; rintro e w' ⟨rfl, rfl⟩)
      go_ret
      exact ⟨rfl, HB1.out⟩
    · have d1 : decide (n0 < 1) = false := by simpa using h1
      have d2 : decide ((64 : Int) < n0) = true := by simp; omega
      clear hbad
      go_wp2_with (go_at_call 21; refine (eNew_bad n0 HBD.out _).mono ?_; rintro e w' ⟨rfl, rfl⟩)
      go_ret
      exact ⟨rfl, HB1.out⟩
  obtain ⟨n, rfl⟩ : ∃ n : Nat, n0 = (n : Int) := ⟨n0.toNat, by omega⟩
  have hn1' : 1 ≤ n := by omega
  have hn2' : n ≤ 64 := by omega
  have d1 : decide ((n : Int) < 1) = false := by simp; omega
  have d2 : decide ((64 : Int) < (n : Int)) = false := by simp; omega
  clear hbad hn0 hn1
  go_upto_region 7 with (go_at_call 21; refine (eNew_any n hn1' hn2' w1).mono ?_; rintro e w2 ⟨ge, gc, gn, gg, rfl, he, hbg, hB, s1, s2, s3, s4⟩)
  have HE := Lib.hid he
  have HG := Lib.hid (Gs.made (base := w.heap.size) hbg (by omega))
  have HB2 := Lib.hid (HB1.out.trans (hB.mono z1))
  have z2 := HB2.out.size
  clear he hbg hB HB1
  go_upto_region 10 with (go_at_call 22; refine (rNew_any n hn1' hn2' w2).mono ?_; rintro e w3 ⟨gr, gp, gs, gv, rfl, hre, hbv, hB, r1, r2, r3, r4⟩)
  have HE3 := Lib.hid (HE.out.below hB)
  have HG3 := Lib.hid (HG.out.below hB)
  have HRE3 := Lib.hid hre
  have HTH3 := Lib.hid (Ts.made (base := w.heap.size) hbv (by omega))
  have HB3 := Lib.hid (HB2.out.trans (hB.mono z2))
  have z3 := HB3.out.size
  clear hre hbv hB HE HG HB2
  have k1 := run_mkS n hn2' w3
  go_upto_region 11 with fail
  clear k1
  have er : (List.replicate n (Value.pointer none)).toArray = Array.replicate n (Value.pointer none) := by simp
  have hal := ball w3 (.cells (List.replicate n (Value.pointer none)).toArray 24)
  have HST4 := Lib.hid (Sts.made gc n w3 ⟨0, 0, 0, false⟩)
  have HE4 := Lib.hid (HE3.out.below hal)
  have HG4 := Lib.hid (HG3.out.below hal)
  have HRE4 := Lib.hid (HRE3.out.below hal)
  have HTH4 := Lib.hid (HTH3.out.below hal)
  have HB4 := Lib.hid (HB3.out.trans (hal.mono z3))
  rw [er] at HST4 HE4 HG4 HRE4 HTH4 HB4
  clear hal er HE3 HG3 HRE3 HTH3 HB3
  have z4 := HB4.out.size
  generalize w3.alloc (.cells (Array.replicate n (Value.pointer none)) 24) = w4 at *
  generalize w3.heap.size = gl at *
  have k2 := run_mkBs w4
  go_upto_region 12 with fail
  clear k2
  have hal := ball w4 (.cells (Array.replicate 200 (Value.slice none 0 0)) 43)
  have HSN5 := Lib.hid (made_since w.heap.size n w4)
  have HST5 := Lib.hid (HST4.out.below hal)
  have HE5 := Lib.hid (HE4.out.below hal)
  have HG5 := Lib.hid (HG4.out.below hal)
  have HRE5 := Lib.hid (HRE4.out.below hal)
  have HTH5 := Lib.hid (HTH4.out.below hal)
  have HB5 := Lib.hid (HB4.out.trans (hal.mono z4))
  clear hal HST4 HE4 HG4 HRE4 HTH4 HB4
  have z5 := HB5.out.size
  generalize w4.alloc (.cells (Array.replicate 200 (Value.slice none 0 0)) 43) = w5 at *
  generalize w4.heap.size = gz at *
  have k3 := run_mkBo n hn2' w5
  go_upto_region 13 with fail
  clear k3
  have hal := ball w5 (.cells (Array.replicate n (Value.bool false)) 4)
  have HPB6 := Lib.hid (made_bools n w5)
  have HSN6 := Lib.hid (show Sn (w5.alloc (.cells (Array.replicate n (Value.bool false)) 4)) w.heap.size gz n 200 (fun _ => none) (fun _ _ => false) from by
    obtain ⟨cs, hb⟩ := HSN5.out.bl
    exact ⟨⟨cs, hb.below hal⟩, fun i hi => (hal.cell (p := ⟨gz, i, none⟩) hb.lt).trans (HSN5.out.cell i hi), fun i g c _ h => (by cases h), fun i j g c d _ _ h => (by cases h)⟩)
  have HST6 := Lib.hid (HST5.out.below hal)
  have HE6 := Lib.hid (HE5.out.below hal)
  have HG6 := Lib.hid (HG5.out.below hal)
  have HRE6 := Lib.hid (HRE5.out.below hal)
  have HTH6 := Lib.hid (HTH5.out.below hal)
  have HB6 := Lib.hid (HB5.out.trans (hal.mono z5))
  clear hal HST5 HE5 HG5 HRE5 HTH5 HB5 HSN5
  generalize w5.alloc (.cells (Array.replicate n (Value.bool false)) 4) = w6 at *
  generalize w5.heap.size = gq at *
  have HT0 := Lib.hid (show TurnR w ge gc gn gg gl gr gp gs gv gz gq n 0 (List.replicate (n + 1) 0) 0 (List.replicate n 0) (fun _ => none) (fun _ => ⟨0, 0, 0, false⟩) (fun _ => tz) (fun _ => []) (fun _ => none) (fun _ _ => false) (fun _ => false) w6 from
    ⟨HE6.out, HST6.out, HG6.out, HRE6.out, HTH6.out, HSN6.out, HPB6.out, fun m g c _ h => (by cases h), HB6.out, ⟨by simp, by simp, by simp [List.getD], fun j hj => by simp [List.getD, hj]⟩, ⟨Int.le_refl _, Int.le_refl _⟩, fun j hj => by simp [List.getD, hj], fun k hk => ⟨fun _ => rfl, fun g h => (by cases h)⟩, fun k s hk h => (by cases h), fun p hp h => (by cases h), fun k hk => ⟨List.Pairwise.nil, by simp, by simp⟩⟩)
  clear HE6 HST6 HG6 HRE6 HTH6 HSN6 HPB6 HB6
  have HBT := Lib.hid (show BaseT w ge gc gn gg gl gr gp gs gv gz gq from ⟨by omega, by omega, by omega, by omega, by omega, by omega, by omega, by omega, by omega, by omega, by omega⟩)
  have HBO := Lib.hid hbody
  clear hbody
  go_wp2
  refine turns_loop w ge gc gn gg gl gr gp gs gv gz gq n nr c A _ _ _ _ _ _ _ _ _ _ _ _ _ _ _ _ _ _ _ _ _ _ _ _ _ _ _ _ _ _ _ _ _ _ _ _ _ _ _ _ _ _ _ _ _ _ _ _ _ _ _ _ _ _ _ _ _ _ _ _ _ _ _ _ _ _ _ _ _ _ _ _ _ _ _ _ _ _ _ _ _ _ _ hnc (by omega) (HBO.out _ _ _ _ _ _ _ _ _ _ _ _ _ _ _ _ _ _ _ _ _ _ _ _ _ _ _ _ _ _ _ _ _ _ _ _ _ _ _ _ _ _ _ _ _ _ _ _ _ _ _ _ _ _ _ _ _ _ _ _ _ _ _ _ _ _ _ _ _ _ _ _ _ _ _ _ _ _ _ _ _ _ _ _ _ _ _ _ _ _ _ _ _ _ _ HBT.out) _ ?_ 0 _ _ _ _ _ _ _ _ _ _ _ _ _ _ _ _ _ _ _ _ _ _ _ _ _ _ _ _ _ _ _ _ _ _ _ _ _ _ _ _ _ _ _ _ _ _ _ _ _ _ _ _ _ _ _ _ _ _ _ _ _ _ _ _ _ _ _ _ _ _ _ _ _ _ _ _ _ _ _ _ _ _ _ _ _ _ _ _ _ _ _ _ _ _ _ _ _ _ _ _ _ _ _ _ _ _ _ _ _ _ _ _ _ _ _ _ _ _ _ _ _ _ _ _ _ _ _ _ _ _ _ _ _ _ _ _ _ _ _ _ _ _ _ _ _ _ _ _ _ _ _ _ _ _ _ _ _ _ _ _ _ _ _ _ _ _ _ _ _ _ _ _ _ _ _ _ _ _ _ _ _ _ _ _ _ _ _ _ _ _ _ _ _ _ _ _ _ _ _ _ _ _ _ _ _ _ _ _ _ _ _ _ _ _ _ _ _ _ _ _ _ _ _ _ _ _ _ _ _ _ _ _ _ _ _ _ _ _ _ _ _ _ _ _ _ _ _ _ _ _ _ _ _ _ _ _ _ _ _ _ _ _ _ _ _ _ _ _ _ _ _ _ _ _ _ _ _ _ _ _ _ _ ⟨by omega, by omega, _, _, _, _, _, _, _, _, _, _, HT0.out⟩
  intro a' w' hX
  unfold WXT at hX
  obtain ⟨i, hX⟩ := hX
  obtain ⟨u4, hX⟩ := hX
  obtain ⟨u15, hX⟩ := hX
  obtain ⟨u16, hX⟩ := hX
  obtain ⟨u17, hX⟩ := hX
  obtain ⟨u18, hX⟩ := hX
  obtain ⟨u19, hX⟩ := hX
  obtain ⟨u20, hX⟩ := hX
  obtain ⟨u21, hX⟩ := hX
  obtain ⟨u22, hX⟩ := hX
  obtain ⟨u23, hX⟩ := hX
  obtain ⟨u24, hX⟩ := hX
  obtain ⟨u25, hX⟩ := hX
  obtain ⟨u26, hX⟩ := hX
  obtain ⟨u27, hX⟩ := hX
  obtain ⟨u28, hX⟩ := hX
  obtain ⟨u104, hX⟩ := hX
  obtain ⟨u105, hX⟩ := hX
  obtain ⟨u106, hX⟩ := hX
  obtain ⟨u107, hX⟩ := hX
  obtain ⟨u108, hX⟩ := hX
  obtain ⟨u109, hX⟩ := hX
  obtain ⟨u110, hX⟩ := hX
  obtain ⟨u111, hX⟩ := hX
  obtain ⟨u112, hX⟩ := hX
  obtain ⟨u113, hX⟩ := hX
  obtain ⟨u114, hX⟩ := hX
  obtain ⟨u115, hX⟩ := hX
  obtain ⟨u116, hX⟩ := hX
  obtain ⟨u117, hX⟩ := hX
  obtain ⟨u118, hX⟩ := hX
  obtain ⟨u119, hX⟩ := hX
  obtain ⟨u120, hX⟩ := hX
  obtain ⟨u121, hX⟩ := hX
  obtain ⟨u122, hX⟩ := hX
  obtain ⟨u123, hX⟩ := hX
  obtain ⟨u124, hX⟩ := hX
  obtain ⟨u125, hX⟩ := hX
  obtain ⟨u126, hX⟩ := hX
  obtain ⟨u127, hX⟩ := hX
  obtain ⟨u128, hX⟩ := hX
  obtain ⟨u129, hX⟩ := hX
  obtain ⟨u130, hX⟩ := hX
  obtain ⟨u131, hX⟩ := hX
  obtain ⟨u132, hX⟩ := hX
  obtain ⟨u133, hX⟩ := hX
  obtain ⟨u134, hX⟩ := hX
  obtain ⟨u135, hX⟩ := hX
  obtain ⟨u136, hX⟩ := hX
  obtain ⟨u137, hX⟩ := hX
  obtain ⟨u138, hX⟩ := hX
  obtain ⟨u139, hX⟩ := hX
  obtain ⟨u140, hX⟩ := hX
  obtain ⟨u141, hX⟩ := hX
  obtain ⟨u142, hX⟩ := hX
  obtain ⟨u143, hX⟩ := hX
  obtain ⟨u144, hX⟩ := hX
  obtain ⟨u145, hX⟩ := hX
  obtain ⟨u146, hX⟩ := hX
  obtain ⟨u147, hX⟩ := hX
  obtain ⟨u148, hX⟩ := hX
  obtain ⟨u149, hX⟩ := hX
  obtain ⟨u150, hX⟩ := hX
  obtain ⟨u151, hX⟩ := hX
  obtain ⟨u152, hX⟩ := hX
  obtain ⟨u153, hX⟩ := hX
  obtain ⟨u154, hX⟩ := hX
  obtain ⟨u155, hX⟩ := hX
  obtain ⟨u156, hX⟩ := hX
  obtain ⟨u157, hX⟩ := hX
  obtain ⟨u158, hX⟩ := hX
  obtain ⟨u159, hX⟩ := hX
  obtain ⟨u160, hX⟩ := hX
  obtain ⟨u161, hX⟩ := hX
  obtain ⟨u162, hX⟩ := hX
  obtain ⟨u163, hX⟩ := hX
  obtain ⟨u164, hX⟩ := hX
  obtain ⟨u165, hX⟩ := hX
  obtain ⟨u166, hX⟩ := hX
  obtain ⟨u167, hX⟩ := hX
  obtain ⟨u168, hX⟩ := hX
  obtain ⟨u169, hX⟩ := hX
  obtain ⟨u170, hX⟩ := hX
  obtain ⟨u171, hX⟩ := hX
  obtain ⟨u172, hX⟩ := hX
  obtain ⟨u173, hX⟩ := hX
  obtain ⟨u174, hX⟩ := hX
  obtain ⟨u175, hX⟩ := hX
  obtain ⟨u176, hX⟩ := hX
  obtain ⟨u177, hX⟩ := hX
  obtain ⟨u178, hX⟩ := hX
  obtain ⟨u179, hX⟩ := hX
  obtain ⟨u180, hX⟩ := hX
  obtain ⟨u181, hX⟩ := hX
  obtain ⟨u182, hX⟩ := hX
  obtain ⟨u183, hX⟩ := hX
  obtain ⟨u184, hX⟩ := hX
  obtain ⟨u185, hX⟩ := hX
  obtain ⟨u186, hX⟩ := hX
  obtain ⟨u187, hX⟩ := hX
  obtain ⟨u188, hX⟩ := hX
  obtain ⟨u189, hX⟩ := hX
  obtain ⟨u190, hX⟩ := hX
  obtain ⟨u191, hX⟩ := hX
  obtain ⟨u192, hX⟩ := hX
  obtain ⟨u193, hX⟩ := hX
  obtain ⟨u194, hX⟩ := hX
  obtain ⟨u195, hX⟩ := hX
  obtain ⟨u196, hX⟩ := hX
  obtain ⟨u197, hX⟩ := hX
  obtain ⟨u198, hX⟩ := hX
  obtain ⟨u199, hX⟩ := hX
  obtain ⟨u200, hX⟩ := hX
  obtain ⟨u201, hX⟩ := hX
  obtain ⟨u202, hX⟩ := hX
  obtain ⟨u203, hX⟩ := hX
  obtain ⟨u204, hX⟩ := hX
  obtain ⟨u205, hX⟩ := hX
  obtain ⟨u206, hX⟩ := hX
  obtain ⟨u207, hX⟩ := hX
  obtain ⟨u208, hX⟩ := hX
  obtain ⟨u209, hX⟩ := hX
  obtain ⟨u210, hX⟩ := hX
  obtain ⟨u211, hX⟩ := hX
  obtain ⟨u212, hX⟩ := hX
  obtain ⟨u213, hX⟩ := hX
  obtain ⟨u214, hX⟩ := hX
  obtain ⟨u215, hX⟩ := hX
  obtain ⟨u216, hX⟩ := hX
  obtain ⟨u217, hX⟩ := hX
  obtain ⟨u218, hX⟩ := hX
  obtain ⟨u219, hX⟩ := hX
  obtain ⟨u220, hX⟩ := hX
  obtain ⟨u221, hX⟩ := hX
  obtain ⟨u222, hX⟩ := hX
  obtain ⟨u223, hX⟩ := hX
  obtain ⟨u224, hX⟩ := hX
  obtain ⟨u225, hX⟩ := hX
  obtain ⟨u226, hX⟩ := hX
  obtain ⟨u227, hX⟩ := hX
  obtain ⟨u228, hX⟩ := hX
  obtain ⟨u229, hX⟩ := hX
  obtain ⟨u230, hX⟩ := hX
  obtain ⟨u231, hX⟩ := hX
  obtain ⟨u232, hX⟩ := hX
  obtain ⟨u233, hX⟩ := hX
  obtain ⟨u234, hX⟩ := hX
  obtain ⟨u235, hX⟩ := hX
  obtain ⟨u236, hX⟩ := hX
  obtain ⟨u237, hX⟩ := hX
  obtain ⟨u238, hX⟩ := hX
  obtain ⟨u239, hX⟩ := hX
  obtain ⟨u240, hX⟩ := hX
  obtain ⟨u241, hX⟩ := hX
  obtain ⟨u242, hX⟩ := hX
  obtain ⟨u243, hX⟩ := hX
  obtain ⟨u244, hX⟩ := hX
  obtain ⟨u245, hX⟩ := hX
  obtain ⟨u246, hX⟩ := hX
  obtain ⟨u247, hX⟩ := hX
  obtain ⟨u248, hX⟩ := hX
  obtain ⟨u249, hX⟩ := hX
  obtain ⟨u250, hX⟩ := hX
  obtain ⟨u251, hX⟩ := hX
  obtain ⟨u252, hX⟩ := hX
  obtain ⟨u253, hX⟩ := hX
  obtain ⟨u254, hX⟩ := hX
  obtain ⟨u255, hX⟩ := hX
  obtain ⟨u256, hX⟩ := hX
  obtain ⟨u257, hX⟩ := hX
  obtain ⟨u258, hX⟩ := hX
  obtain ⟨u259, hX⟩ := hX
  obtain ⟨u260, hX⟩ := hX
  obtain ⟨u261, hX⟩ := hX
  obtain ⟨u262, hX⟩ := hX
  obtain ⟨u263, hX⟩ := hX
  obtain ⟨u264, hX⟩ := hX
  obtain ⟨u265, hX⟩ := hX
  obtain ⟨u266, hX⟩ := hX
  obtain ⟨u267, hX⟩ := hX
  obtain ⟨u268, hX⟩ := hX
  obtain ⟨u269, hX⟩ := hX
  obtain ⟨u270, hX⟩ := hX
  obtain ⟨u271, hX⟩ := hX
  obtain ⟨u272, hX⟩ := hX
  obtain ⟨u273, hX⟩ := hX
  obtain ⟨u274, hX⟩ := hX
  obtain ⟨u275, hX⟩ := hX
  obtain ⟨u276, hX⟩ := hX
  obtain ⟨u277, hX⟩ := hX
  obtain ⟨u278, hX⟩ := hX
  obtain ⟨u279, hX⟩ := hX
  obtain ⟨u280, hX⟩ := hX
  obtain ⟨u281, hX⟩ := hX
  obtain ⟨u282, hX⟩ := hX
  obtain ⟨u283, hX⟩ := hX
  obtain ⟨u284, hX⟩ := hX
  obtain ⟨u285, hX⟩ := hX
  obtain ⟨u286, hX⟩ := hX
  obtain ⟨u287, hX⟩ := hX
  obtain ⟨u288, hX⟩ := hX
  obtain ⟨u289, hX⟩ := hX
  obtain ⟨u290, hX⟩ := hX
  obtain ⟨u291, hX⟩ := hX
  obtain ⟨u292, hX⟩ := hX
  obtain ⟨u293, hX⟩ := hX
  obtain ⟨u294, hX⟩ := hX
  obtain ⟨u295, hX⟩ := hX
  obtain ⟨u296, hX⟩ := hX
  obtain ⟨u297, hX⟩ := hX
  obtain ⟨u298, hX⟩ := hX
  obtain ⟨u299, hX⟩ := hX
  obtain ⟨u300, hX⟩ := hX
  obtain ⟨u301, hX⟩ := hX
  obtain ⟨u302, hX⟩ := hX
  obtain ⟨u303, hX⟩ := hX
  obtain ⟨u304, hX⟩ := hX
  obtain ⟨u305, hX⟩ := hX
  obtain ⟨u306, hX⟩ := hX
  obtain ⟨u307, hX⟩ := hX
  obtain ⟨u308, hX⟩ := hX
  obtain ⟨u309, hX⟩ := hX
  obtain ⟨u310, hX⟩ := hX
  obtain ⟨u311, hX⟩ := hX
  obtain ⟨u312, hX⟩ := hX
  obtain ⟨u313, hX⟩ := hX
  obtain ⟨u314, hX⟩ := hX
  obtain ⟨u315, hX⟩ := hX
  obtain ⟨u316, hX⟩ := hX
  obtain ⟨u317, hX⟩ := hX
  obtain ⟨u318, hX⟩ := hX
  obtain ⟨u319, hX⟩ := hX
  obtain ⟨u320, hX⟩ := hX
  obtain ⟨u321, hX⟩ := hX
  obtain ⟨u322, hX⟩ := hX
  obtain ⟨u323, hX⟩ := hX
  obtain ⟨u324, hX⟩ := hX
  obtain ⟨u325, hX⟩ := hX
  obtain ⟨u326, hX⟩ := hX
  obtain ⟨u327, hX⟩ := hX
  obtain ⟨u328, hX⟩ := hX
  obtain ⟨u329, hX⟩ := hX
  obtain ⟨u330, hX⟩ := hX
  obtain ⟨u331, hX⟩ := hX
  obtain ⟨u332, hX⟩ := hX
  obtain ⟨u333, hX⟩ := hX
  obtain ⟨u334, hX⟩ := hX
  obtain ⟨u335, hX⟩ := hX
  obtain ⟨u336, hX⟩ := hX
  obtain ⟨u337, hX⟩ := hX
  obtain ⟨u338, hX⟩ := hX
  obtain ⟨u339, hX⟩ := hX
  obtain ⟨u340, hX⟩ := hX
  obtain ⟨u341, hX⟩ := hX
  obtain ⟨u342, hX⟩ := hX
  obtain ⟨u343, hX⟩ := hX
  obtain ⟨u344, hX⟩ := hX
  obtain ⟨u345, hX⟩ := hX
  obtain ⟨u346, hX⟩ := hX
  obtain ⟨u347, hX⟩ := hX
  obtain ⟨u348, hX⟩ := hX
  obtain ⟨u349, hX⟩ := hX
  obtain ⟨u350, hX⟩ := hX
  obtain ⟨u351, hX⟩ := hX
  obtain ⟨u352, hX⟩ := hX
  obtain ⟨u353, hX⟩ := hX
  obtain ⟨u354, hX⟩ := hX
  obtain ⟨u355, hX⟩ := hX
  obtain ⟨u356, hX⟩ := hX
  obtain ⟨u357, hX⟩ := hX
  obtain ⟨u358, hX⟩ := hX
  obtain ⟨u359, hX⟩ := hX
  obtain ⟨u360, hX⟩ := hX
  obtain ⟨u361, hX⟩ := hX
  obtain ⟨u362, hX⟩ := hX
  obtain ⟨u363, hX⟩ := hX
  obtain ⟨u364, hX⟩ := hX
  obtain ⟨u365, hX⟩ := hX
  obtain ⟨u366, hX⟩ := hX
  obtain ⟨u367, hX⟩ := hX
  obtain ⟨u368, hX⟩ := hX
  obtain ⟨u369, hX⟩ := hX
  obtain ⟨hb, rfl⟩ := hX
  have HB9 := Lib.hid hb
  clear hb HT0 HBT HBO
  go_wp2
  go_ret
  exact ⟨rfl, HB9.out⟩
end Go.Proofs.Ythkmpcfjeclejaa
