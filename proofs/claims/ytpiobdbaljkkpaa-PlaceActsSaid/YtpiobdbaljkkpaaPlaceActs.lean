/-
  PlaceActs: its walk.
-/
import Derived.Test.YtpiobdbaljkkpaaPlaB
import Derived.Deep.CutBlock
namespace Go.Proofs.Ytpiobdbaljkkpaa
open Go.RowKit Plain
set_option linter.unusedVariables false
set_option maxRecDepth 100000
set_option linter.unusedSimpArgs false

theorem getD_rep (n i : Nat) : (List.replicate n (0 : Int)).getD i 0 = 0 := by
  by_cases h : i < n
  · simp [List.getD, h]
  · simp [List.getD, h]

/-- behind the loop: what was copied, what is counted -/
structure TlR (w : World) (gp gc gn gl gk g17 g18 n k : Nat) (l : List Int) (ws : Nat → Wd) (ks : Nat → Fl) (W : World) : Prop where
  ast : AS w gp gc gn gl gk n l ws ks ws ks W
  row : Row .u64 45 W g18 l
  cnt : ∃ cs : List Int, Row .i64 87 W g17 cs ∧ cs.length = 4 ∧ ∀ s : Nat, s < 4 → cs.getD s 0 = (cntS l s k : Int)
section
variable {w W W' : World} {gp gc gn gl gk g17 g18 n k : Nat} {l : List Int} {ws : Nat → Wd} {ks : Nat → Fl}
theorem TlR.below (h : TlR w gp gc gn gl gk g17 g18 n k l ws ks W) (hb : Below W.heap.size W W') : TlR w gp gc gn gl gk g17 g18 n k l ws ks W' := by
  obtain ⟨cs, h1, h2, h3⟩ := h.cnt
  exact ⟨h.ast.below hb, h.row.below hb, cs, h1.below hb, h2, h3⟩
theorem TlR.at (h : TlR w gp gc gn gl gk g17 g18 n k l ws ks W) (s : Nat) (hs : s < 4) : W.cell? ⟨g17, s, none⟩ = some (.int .i64 (cntS l s k)) := by
  obtain ⟨cs, h1, h2, h3⟩ := h.cnt
  rw [h1.at (by omega), h3 s hs]
theorem TlR.free (h : TlR w gp gc gn gl gk g17 g18 n k l ws ks W) (s : Nat) : W.frozen? ⟨g17, s, none⟩ = false := by
  obtain ⟨cs, h1, _⟩ := h.cnt
  exact h1.free s
theorem TlR.st (h : TlR w gp gc gn gl gk g17 g18 n k l ws ks W) (hk : k < n) : (wdOf (l.getD (2 * k) 0)).st = (ws k).st := by
  rw [h.ast.lw k hk, wdOf_num _ (h.ast.cw k)]
theorem TlR.inc (h : TlR w gp gc gn gl gk g17 g18 n k l ws ks W) (hk : k < n) (s : Nat) (hs : s < 4) (hst : (ws k).st = (s : Int)) (h17 : g17 ≠ gp ∧ g17 ≠ gc ∧ g17 ≠ gn ∧ g17 ≠ gl ∧ g17 ≠ gk ∧ g17 ≠ g18 ∧ w.heap.size ≤ g17) :
    TlR w gp gc gn gl gk g17 g18 n (k + 1) l ws ks (W.setCell ⟨g17, s, none⟩ (.int .i64 ((cntS l s k : Int) + 1))) := by
  have hs2 := h.st hk
  obtain ⟨cs, h1, h2, h3⟩ := h.cnt
  have hK : Keep [g17] W (W.setCell ⟨g17, s, none⟩ (.int .i64 ((cntS l s k : Int) + 1))) := (Keep.refl [g17] W).setCell (p := ⟨g17, s, none⟩) (.inl (by simp)) _
  refine ⟨h.ast.keep hK (by intro y hy; simp at hy; subst hy; exact ⟨h17.1, h17.2.1, h17.2.2.1, h17.2.2.2.1, h17.2.2.2.2.1, h17.2.2.2.2.2.2⟩), hK.row h.row (by simp; omega), _, h1.set s _, by simpa using h2, fun t ht => ?_⟩
  rw [getD_set _ _ _ _ (by omega), cntS, hs2, hst]
  by_cases e : t = s
  · subst e
    rw [if_pos rfl, if_pos rfl]; omega
  · rw [if_neg e, if_neg (by omega), h3 t ht]; omega
end
theorem rpackE (x : Wd) (hx : x.can = true) (w : World) : Calls Try.prog 36 #[.agg #[.int .i64 x.st, .int .i64 x.gn, .int .i64 x.tr, .int .i64 x.sn]] w fun e w' => e = .returned (.tuple #[.int .u64 x.num, .bool true]) ∧ Below w.heap.size w w' := by
  have h := rpack_any x w
  rw [hx] at h
  exact h
theorem numberE (x : Fl) (hx : x.can) (w : World) : Calls Try.prog 37 #[.agg #[.int .i64 x.p, .int .u32 x.a, .int .u16 x.o]] w fun e w' => e = .returned (.int .u64 x.num) ∧ Below w.heap.size w w' := number_any x hx w
set_option maxHeartbeats 80000000 in
theorem placeActs_walk (n0 : Int) (A : Option Addr) (nr c : Nat) (V : Nat → Av) (w : World) (hn0 : -9223372036854775808 ≤ n0) (hn1 : n0 ≤ 9223372036854775807) (hnc : nr ≤ c) (hm : c ≤ maxLen) (hR : RdA w A nr V) :
    Calls Try.prog 7 #[.int .i64 n0, .slice A nr c] w fun e w' => e = .returned (.bool true) ∧ Below w.heap.size w w' := by
  unfold maxLen at hm
  have HR := Lib.hid hR
  clear hR
  go_enter Try.func7, Try.ntmps7
  go_wp2_with fail
  refine (moves_any _).mono ?_
  rintro e w1 ⟨rfl, hb⟩
  have HB1 := Lib.hid hb
  clear hb
  go_wp2_with (first | (go_at_call 22; refine (none10 _).mono ?_; rintro e w' ⟨rfl, rfl⟩) | fail)
  refine (pload_nil _).mono ?_
  rintro e w2 ⟨rfl, hb⟩
  have HB2 := Lib.hid (bthen HB1.out hb)
  clear hb HB1
  go_wp2_with (first | (go_at_call 22; refine (none10 _).mono ?_; rintro e w' ⟨rfl, rfl⟩) | fail)
  refine (pcas_nil 0 0 0 0 1 1 0 0 _).mono ?_
  rintro e w3 ⟨rfl, hb⟩
  have HB3 := Lib.hid (bthen HB2.out hb)
  clear hb HB2
  go_wp2_with (first | (go_at_call 22; refine (none10 _).mono ?_; rintro e w' ⟨rfl, rfl⟩) | fail)
  refine (pkey_nil _).mono ?_
  rintro e w4 ⟨rfl, hb⟩
  have HB4 := Lib.hid (bthen HB3.out hb)
  clear hb HB3
  go_wp2_with (first | (go_at_call 22; refine (none10 _).mono ?_; rintro e w' ⟨rfl, rfl⟩) | fail)
  refine (psetkey_nil 0 0 0 _).mono ?_
  rintro e w5 ⟨rfl, hb⟩
  have HB5 := Lib.hid (bthen HB4.out hb)
  clear hb HB4
  go_wp2_with (first | (go_at_call 22; refine (none10 _).mono ?_; rintro e w' ⟨rfl, rfl⟩) | (go_at_call 27; refine (psize_nil _).mono ?_; rintro e w' ⟨rfl, rfl⟩) | (go_at_call 28; refine (pcount_nil _ _).mono ?_; rintro e w' ⟨rfl, rfl⟩) | (go_at_call 29; refine (pcopy_nil _).mono ?_; rintro e w' ⟨rfl, rfl⟩) | fail)
  by_cases hbad : n0 < 1 ∨ 3072 < n0
  · have HBD := Lib.hid hbad
    refine (pnew_bad n0 hbad _).mono ?_
    rintro e w6 ⟨rfl, rfl⟩
    by_cases h1 : n0 < 1
    · have d1 : decide (n0 < 1) = true := by simpa using h1
      go_wp2
      go_ret
      exact ⟨rfl, HB5.out⟩
    · have d1 : decide (n0 < 1) = false := by simpa using h1
      have d2 : decide ((3072 : Int) < n0) = true := by simp; omega
      go_wp2
      go_ret
      exact ⟨rfl, HB5.out⟩
  obtain ⟨n, rfl⟩ : ∃ n : Nat, n0 = (n : Int) := ⟨n0.toNat, by omega⟩
  have hnn : 1 ≤ n := by omega
  have hnx : n ≤ 3072 := by omega
  have d1 : decide ((n : Int) < 1) = false := by simp; omega
  have d2 : decide ((3072 : Int) < (n : Int)) = false := by simp; omega
  clear hbad hn0 hn1
  refine (pnew_any n hnn hnx _).mono ?_
  rintro e w6 ⟨rfl, hp, hb, hs⟩
  have H6 := Lib.hid hp
  have HB6 := Lib.hid (bthen HB5.out hb)
  have hs5 := HB5.out.size
  have hm1 := fun W => run_mkWd n hnx W
  have hm2 := fun W => run_mkFl n hnx W
  clear hp hb HB5 hs
  generalize w5.heap.size + 2 = gp at *
  generalize w5.heap.size + 1 = gc at *
  obtain ⟨gn, hgn⟩ : ∃ g, g = w5.heap.size := ⟨_, rfl⟩
  rw [← hgn] at H6 hs5
  clear hgn
  go_upto_region 6 with fail
  go_cut [7, 8] (fun s7 s8 wx => ∃ gl gk, s7 = .slice (some ⟨gl, 0, none⟩) n n ∧ s8 = .slice (some ⟨gk, 0, none⟩) n n ∧ AS w gp gc gn gl gk n (List.replicate (2 * n) 0) (fun _ => wz) (fun _ => fz) (fun _ => wz) (fun _ => fz) wx)
  case first => as_aux_lemma =>
    go_region
    · have hA := AS.made (w0 := w) (n := n) H6.out (getD_rep _) hs5 HB6.out (w' := ((w6.alloc (.cells (madeCells #[.int .i64 0, .int .i64 0, .int .i64 0, .int .i64 0] (n * 4)) 78)).alloc (.cells (madeCells #[.int .i64 0, .int .u32 0, .int .u16 0] (n * 3)) 79))) (gl := w6.heap.size) (gk := w6.heap.size + 1) (b2all w6 _ _) (Nat.le_refl _) (by omega) (by omega) ((Blk.new w6 _ _).alloc _) (by
        have := Blk.new (w6.alloc (.cells (madeCells #[.int .i64 0, .int .i64 0, .int .i64 0, .int .i64 0] (n * 4)) 78)) 79 (madeCells #[.int .i64 0, .int .u32 0, .int .u16 0] (n * 3))
        rw [World.size_alloc] at this
        exact this)
      have HA := Lib.hid hA
      clear hA hm1 hm2
      generalize (w6.alloc (.cells (madeCells #[.int .i64 0, .int .i64 0, .int .i64 0, .int .i64 0] (n * 4)) 78)).alloc (.cells (madeCells #[.int .i64 0, .int .u32 0, .int .u16 0] (n * 3)) 79) = w7 at *
      go_wp2_with fail
      go_meet
      exact ⟨_, _, rfl, rfl, HA.out.drew⟩
    · have hA := AS.made (w0 := w) (n := n) H6.out (getD_rep _) hs5 HB6.out (w' := ((w6.alloc (.cells (madeCells #[.int .i64 0, .int .u32 0, .int .u16 0] (n * 3)) 79)).alloc (.cells (madeCells #[.int .i64 0, .int .i64 0, .int .i64 0, .int .i64 0] (n * 4)) 78))) (gl := w6.heap.size + 1) (gk := w6.heap.size) (b2all w6 _ _) (by omega) (Nat.le_refl _) (by omega) (by
        have := Blk.new (w6.alloc (.cells (madeCells #[.int .i64 0, .int .u32 0, .int .u16 0] (n * 3)) 79)) 78 (madeCells #[.int .i64 0, .int .i64 0, .int .i64 0, .int .i64 0] (n * 4))
        rw [World.size_alloc] at this
        exact this) ((Blk.new w6 _ _).alloc _)
      have HA := Lib.hid hA
      clear hA hm1 hm2
      generalize (w6.alloc (.cells (madeCells #[.int .i64 0, .int .u32 0, .int .u16 0] (n * 3)) 79)).alloc (.cells (madeCells #[.int .i64 0, .int .i64 0, .int .i64 0, .int .i64 0] (n * 4)) 78) = w7 at *
      go_wp2_with fail
      go_meet
      exact ⟨_, _, rfl, rfl, HA.out.drew⟩
  case rest =>
    obtain ⟨gl, gk, rfl, rfl, hA⟩ := hcut
    have HA0 := Lib.hid hA
    clear hA hm1 hm2 H6 HB6 hs5
    go_wp2
    refine place_loop w gp gc gn gl gk n nr c A _ _ _ _ _ _ _ _ _ _ _ _ _ _ _ _ _ _ _ _ _ _ _ _ _ _ _ _ _ _ _ _ _ _ _ _ _ _ _ _ _ _ _ _ _ _ _ _ _ _ _ _ _ _ _ _ _ _ _ _ _ _ _ _ _ _ _ _ _ _ _ _ _ _ _ _ _ _ _ _ _ _ _ _ _ _ _ _ _ _ _ _ _ _ _ _ _ _ _ _ _ _ _ _ _ _ _ _ _ _ _ _ _ _ _ _ _ _ _ _ _ _ _ _ _ _ _ _ _ _ _ _ _ _ _ _ _ _ _ _ _ hnc (by omega) (place_body w gp gc gn gl gk n nr c A _ _ _ _ _ _ _ _ _ _ _ _ _ _ _ _ _ _ _ _ _ _ _ _ _ _ _ _ _ _ _ _ _ _ _ _ _ _ _ _ _ _ _ _ _ _ _ _ _ _ _ _ _ _ _ _ _ _ _ _ _ _ _ _ _ _ _ _ _ _ _ _ _ _ _ _ _ _ _ _ _ _ _ _ _ _ _ _ _ _ _ _ _ _ _ _ _ _ _ _ _ _ _ _ _ _ _ _ _ _ _ _ _ _ _ _ _ _ _ _ _ _ _ _ _ _ _ _ _ _ _ _ _ _ _ _ _ _ _ _ _ V hnn hnx hnc (by omega) HR.out) _ ?_ 0 _ _ _ _ _ _ _ _ _ _ _ _ _ _ _ _ _ _ _ _ _ _ _ _ _ _ _ _ _ _ _ _ _ _ _ _ _ _ _ _ _ _ _ _ _ _ _ _ _ _ _ _ _ _ _ _ _ _ _ _ _ _ _ _ _ _ _ _ _ _ _ _ _ _ _ _ _ _ _ _ _ _ _ _ _ _ _ _ _ _ _ _ _ _ _ _ _ _ _ _ _ _ _ _ _ _ _ _ _ _ _ _ _ _ _ _ _ _ _ _ _ _ _ _ _ _ _ _ _ _ _ _ _ _ _ _ _ _ _ _ _ _ _ _ _ _ _ _ _ _ _ _ _ _ _ _ _ _ _ _ _ _ _ _ _ _ _ _ _ _ _ _ _ _ _ _ _ _ _ _ _ _ _ _ _ _ _ _ _ _ _ _ _ _ _ _ _ _ _ _ _ _ _ _ _ _ _ _ _ _ _ _ _ _ _ _ _ _ _ _ _ _ _ _ _ _ _ ⟨by omega, by omega, _, _, _, HA0.out⟩
    clear HA0
    intro a' w' hX
    unfold WXP at hX
    obtain ⟨i, hX⟩ := hX
    obtain ⟨u4, hX⟩ := hX
    obtain ⟨u10, hX⟩ := hX
    obtain ⟨u11, hX⟩ := hX
    obtain ⟨u12, hX⟩ := hX
    obtain ⟨u13, hX⟩ := hX
    obtain ⟨u14, hX⟩ := hX
    obtain ⟨u15, hX⟩ := hX
    obtain ⟨u16, hX⟩ := hX
    obtain ⟨u86, hX⟩ := hX
    obtain ⟨u87, hX⟩ := hX
    obtain ⟨u88, hX⟩ := hX
    obtain ⟨u89, hX⟩ := hX
    obtain ⟨u90, hX⟩ := hX
    obtain ⟨u91, hX⟩ := hX
    obtain ⟨u92, hX⟩ := hX
    obtain ⟨u93, hX⟩ := hX
    obtain ⟨u94, hX⟩ := hX
    obtain ⟨u95, hX⟩ := hX
    obtain ⟨u96, hX⟩ := hX
    obtain ⟨u97, hX⟩ := hX
    obtain ⟨u98, hX⟩ := hX
    obtain ⟨u99, hX⟩ := hX
    obtain ⟨u100, hX⟩ := hX
    obtain ⟨u101, hX⟩ := hX
    obtain ⟨u102, hX⟩ := hX
    obtain ⟨u103, hX⟩ := hX
    obtain ⟨u104, hX⟩ := hX
    obtain ⟨u105, hX⟩ := hX
    obtain ⟨u106, hX⟩ := hX
    obtain ⟨u107, hX⟩ := hX
    obtain ⟨u108, hX⟩ := hX
    obtain ⟨u109, hX⟩ := hX
    obtain ⟨u110, hX⟩ := hX
    obtain ⟨u111, hX⟩ := hX
    obtain ⟨u112, hX⟩ := hX
    obtain ⟨u113, hX⟩ := hX
    obtain ⟨u114, hX⟩ := hX
    obtain ⟨u115, hX⟩ := hX
    obtain ⟨u116, hX⟩ := hX
    obtain ⟨u117, hX⟩ := hX
    obtain ⟨u118, hX⟩ := hX
    obtain ⟨u119, hX⟩ := hX
    obtain ⟨u120, hX⟩ := hX
    obtain ⟨u121, hX⟩ := hX
    obtain ⟨u122, hX⟩ := hX
    obtain ⟨u123, hX⟩ := hX
    obtain ⟨u124, hX⟩ := hX
    obtain ⟨u125, hX⟩ := hX
    obtain ⟨u126, hX⟩ := hX
    obtain ⟨u127, hX⟩ := hX
    obtain ⟨u128, hX⟩ := hX
    obtain ⟨u129, hX⟩ := hX
    obtain ⟨u130, hX⟩ := hX
    obtain ⟨u131, hX⟩ := hX
    obtain ⟨u132, hX⟩ := hX
    obtain ⟨u133, hX⟩ := hX
    obtain ⟨u134, hX⟩ := hX
    obtain ⟨u135, hX⟩ := hX
    obtain ⟨u136, hX⟩ := hX
    obtain ⟨u137, hX⟩ := hX
    obtain ⟨u138, hX⟩ := hX
    obtain ⟨u139, hX⟩ := hX
    obtain ⟨u140, hX⟩ := hX
    obtain ⟨u141, hX⟩ := hX
    obtain ⟨u142, hX⟩ := hX
    obtain ⟨u143, hX⟩ := hX
    obtain ⟨u144, hX⟩ := hX
    obtain ⟨u145, hX⟩ := hX
    obtain ⟨u146, hX⟩ := hX
    obtain ⟨u147, hX⟩ := hX
    obtain ⟨u148, hX⟩ := hX
    obtain ⟨u149, hX⟩ := hX
    obtain ⟨u150, hX⟩ := hX
    obtain ⟨u151, hX⟩ := hX
    obtain ⟨u152, hX⟩ := hX
    obtain ⟨u153, hX⟩ := hX
    obtain ⟨u154, hX⟩ := hX
    obtain ⟨u155, hX⟩ := hX
    obtain ⟨u156, hX⟩ := hX
    obtain ⟨u157, hX⟩ := hX
    obtain ⟨u158, hX⟩ := hX
    obtain ⟨u159, hX⟩ := hX
    obtain ⟨u160, hX⟩ := hX
    obtain ⟨u161, hX⟩ := hX
    obtain ⟨u162, hX⟩ := hX
    obtain ⟨u163, hX⟩ := hX
    obtain ⟨u164, hX⟩ := hX
    obtain ⟨u165, hX⟩ := hX
    obtain ⟨u166, hX⟩ := hX
    obtain ⟨u167, hX⟩ := hX
    obtain ⟨u168, hX⟩ := hX
    obtain ⟨u169, hX⟩ := hX
    obtain ⟨u170, hX⟩ := hX
    obtain ⟨u171, hX⟩ := hX
    obtain ⟨u172, hX⟩ := hX
    obtain ⟨u173, hX⟩ := hX
    obtain ⟨u174, hX⟩ := hX
    obtain ⟨u175, hX⟩ := hX
    obtain ⟨u176, hX⟩ := hX
    obtain ⟨u177, hX⟩ := hX
    obtain ⟨u178, hX⟩ := hX
    obtain ⟨u179, hX⟩ := hX
    obtain ⟨u180, hX⟩ := hX
    obtain ⟨u181, hX⟩ := hX
    obtain ⟨u182, hX⟩ := hX
    obtain ⟨u183, hX⟩ := hX
    obtain ⟨u184, hX⟩ := hX
    obtain ⟨u185, hX⟩ := hX
    obtain ⟨u186, hX⟩ := hX
    obtain ⟨u187, hX⟩ := hX
    obtain ⟨u188, hX⟩ := hX
    obtain ⟨u189, hX⟩ := hX
    obtain ⟨u190, hX⟩ := hX
    obtain ⟨u191, hX⟩ := hX
    obtain ⟨u192, hX⟩ := hX
    obtain ⟨u193, hX⟩ := hX
    obtain ⟨u194, hX⟩ := hX
    obtain ⟨u195, hX⟩ := hX
    obtain ⟨u196, hX⟩ := hX
    obtain ⟨u197, hX⟩ := hX
    obtain ⟨u198, hX⟩ := hX
    obtain ⟨u199, hX⟩ := hX
    obtain ⟨u200, hX⟩ := hX
    obtain ⟨u201, hX⟩ := hX
    obtain ⟨u202, hX⟩ := hX
    obtain ⟨u203, hX⟩ := hX
    obtain ⟨u204, hX⟩ := hX
    obtain ⟨u205, hX⟩ := hX
    obtain ⟨u206, hX⟩ := hX
    obtain ⟨u207, hX⟩ := hX
    obtain ⟨u208, hX⟩ := hX
    obtain ⟨u209, hX⟩ := hX
    obtain ⟨u210, hX⟩ := hX
    obtain ⟨u211, hX⟩ := hX
    obtain ⟨u212, hX⟩ := hX
    obtain ⟨u213, hX⟩ := hX
    obtain ⟨u214, hX⟩ := hX
    obtain ⟨u215, hX⟩ := hX
    obtain ⟨u216, hX⟩ := hX
    obtain ⟨u217, hX⟩ := hX
    obtain ⟨u218, hX⟩ := hX
    obtain ⟨u219, hX⟩ := hX
    obtain ⟨u220, hX⟩ := hX
    obtain ⟨u221, hX⟩ := hX
    obtain ⟨u222, hX⟩ := hX
    obtain ⟨u223, hX⟩ := hX
    obtain ⟨u224, hX⟩ := hX
    obtain ⟨u225, hX⟩ := hX
    obtain ⟨u226, hX⟩ := hX
    obtain ⟨u227, hX⟩ := hX
    obtain ⟨u228, hX⟩ := hX
    obtain ⟨u229, hX⟩ := hX
    obtain ⟨u230, hX⟩ := hX
    obtain ⟨u231, hX⟩ := hX
    obtain ⟨u232, hX⟩ := hX
    obtain ⟨u233, hX⟩ := hX
    obtain ⟨u234, hX⟩ := hX
    obtain ⟨u235, hX⟩ := hX
    obtain ⟨u236, hX⟩ := hX
    obtain ⟨u237, hX⟩ := hX
    obtain ⟨u238, hX⟩ := hX
    obtain ⟨u239, hX⟩ := hX
    obtain ⟨u240, hX⟩ := hX
    obtain ⟨u241, hX⟩ := hX
    obtain ⟨u242, hX⟩ := hX
    obtain ⟨u243, hX⟩ := hX
    obtain ⟨u244, hX⟩ := hX
    obtain ⟨u245, hX⟩ := hX
    obtain ⟨u246, hX⟩ := hX
    obtain ⟨u247, hX⟩ := hX
    obtain ⟨u248, hX⟩ := hX
    obtain ⟨u249, hX⟩ := hX
    obtain ⟨u250, hX⟩ := hX
    obtain ⟨u251, hX⟩ := hX
    obtain ⟨u252, hX⟩ := hX
    obtain ⟨u253, hX⟩ := hX
    obtain ⟨u254, hX⟩ := hX
    obtain ⟨u255, hX⟩ := hX
    obtain ⟨u256, hX⟩ := hX
    obtain ⟨u257, hX⟩ := hX
    obtain ⟨u258, hX⟩ := hX
    obtain ⟨u259, hX⟩ := hX
    obtain ⟨u260, hX⟩ := hX
    obtain ⟨u261, hX⟩ := hX
    obtain ⟨u262, hX⟩ := hX
    obtain ⟨u263, hX⟩ := hX
    obtain ⟨u264, hX⟩ := hX
    obtain ⟨u265, hX⟩ := hX
    obtain ⟨u266, hX⟩ := hX
    obtain ⟨u267, hX⟩ := hX
    obtain ⟨u268, hX⟩ := hX
    obtain ⟨u269, hX⟩ := hX
    obtain ⟨u270, hX⟩ := hX
    obtain ⟨u271, hX⟩ := hX
    obtain ⟨u272, hX⟩ := hX
    obtain ⟨u273, hX⟩ := hX
    obtain ⟨u274, hX⟩ := hX
    obtain ⟨u275, hX⟩ := hX
    obtain ⟨u276, hX⟩ := hX
    obtain ⟨u277, hX⟩ := hX
    obtain ⟨u278, hX⟩ := hX
    obtain ⟨u279, hX⟩ := hX
    obtain ⟨u280, hX⟩ := hX
    obtain ⟨u281, hX⟩ := hX
    obtain ⟨u282, hX⟩ := hX
    obtain ⟨u283, hX⟩ := hX
    obtain ⟨u284, hX⟩ := hX
    obtain ⟨u285, hX⟩ := hX
    obtain ⟨u286, hX⟩ := hX
    obtain ⟨u287, hX⟩ := hX
    obtain ⟨u288, hX⟩ := hX
    obtain ⟨u289, hX⟩ := hX
    obtain ⟨u290, hX⟩ := hX
    obtain ⟨u291, hX⟩ := hX
    obtain ⟨u292, hX⟩ := hX
    obtain ⟨u293, hX⟩ := hX
    obtain ⟨u294, hX⟩ := hX
    obtain ⟨u295, hX⟩ := hX
    obtain ⟨u296, hX⟩ := hX
    obtain ⟨u297, hX⟩ := hX
    obtain ⟨u298, hX⟩ := hX
    obtain ⟨u299, hX⟩ := hX
    obtain ⟨u300, hX⟩ := hX
    obtain ⟨u301, hX⟩ := hX
    obtain ⟨u302, hX⟩ := hX
    obtain ⟨u303, hX⟩ := hX
    obtain ⟨⟨l, ws, ks, hA⟩, rfl⟩ := hX
    have HA := Lib.hid hA
    clear hA
    go_upto_region 40 with fail
    have B17 := Lib.hid (Blk.new w' 87 #[.int .i64 0, .int .i64 0, .int .i64 0, .int .i64 0])
    have A17 := Lib.hid (HA.out.below (ball w' (.cells #[.int .i64 0, .int .i64 0, .int .i64 0, .int .i64 0] 87)))
    have hap : gp ≠ w'.heap.size ∧ gc ≠ w'.heap.size ∧ gn ≠ w'.heap.size ∧ gl ≠ w'.heap.size ∧ gk ≠ w'.heap.size ∧ w.heap.size ≤ w'.heap.size := by
      have h1 := HA.out.pl.lt
      have h2 := HA.out.ltl
      have h3 := HA.out.ltk
      have h4 := HA.out.bel.size
      omega
    clear HA
    generalize w'.alloc (.cells #[.int .i64 0, .int .i64 0, .int .i64 0, .int .i64 0] 87) = wa at *
    generalize w'.heap.size = g17 at *
    obtain ⟨n2, hn2⟩ : ∃ n2, 2 * n = n2 := ⟨_, rfl⟩
    have hC := pcopy_any A17.out.pl
    rw [hn2] at hC
    have HC := Lib.hid hC
    have HN2 := Lib.hid hn2
    have t1 : ((n2 : Int) != 2 * (n : Int)) = false := by simp; omega
    have t2 : ((n2 : Int) == 2 * (n : Int)) = true := by simp; omega
    have HT1 := Lib.hid t1
    clear hC hn2
    go_wp2_with (first | (go_at_call 29; refine HC.out.mono ?_; rintro e wb ⟨rfl, hrow, hb⟩; have AX := Lib.hid (A17.out.below hb)) | (go_at_call 27; refine (psize_any AX.out.pl).mono ?_; rintro e w3 ⟨rfl, rfl⟩) | fail)
    clear t1 t2
    have h18 : g17 < wa.heap.size := B17.out.lt
    have h17 : g17 ≠ gp ∧ g17 ≠ gc ∧ g17 ≠ gn ∧ g17 ≠ gl ∧ g17 ≠ gk ∧ g17 ≠ wa.heap.size ∧ w.heap.size ≤ g17 := by omega
    have HT0 := Lib.hid (show TlR w gp gc gn gl gk g17 wa.heap.size n 0 l ws ks wb from ⟨AX.out, hrow, [0, 0, 0, 0], B17.out.below hb, rfl, fun s hs => by
      have : s = 0 ∨ s = 1 ∨ s = 2 ∨ s = 3 := by omega
      rcases this with rfl | rfl | rfl | rfl <;> rfl⟩)
    clear hrow hb AX HC A17 B17 h18 hap
    generalize wa.heap.size = g18 at *
    go_loopw [19, 20, 21] (fun s19 s20 s21 wt => ∃ k : Nat, s19 = .int .i64 k ∧ k ≤ n ∧ TlR w gp gc gn gl gk g17 g18 n k l ws ks wt) (fun k _ _ _ => n - (intOf k).toNat)
    case atStart => exact ⟨0, rfl, by omega, HT0.out⟩
    case round =>
      obtain ⟨k, rfl, hk, hT⟩ := hrel
      have HT := Lib.hid hT
      clear hT HT0
      by_cases hlt : k < n
      · have i0 : (k : Int) < (n : Int) := by omega
        obtain ⟨s, hs4, hst⟩ : ∃ s : Nat, s < 4 ∧ (ws k).st = (s : Int) := by
          have := (can_iff _).1 (HT.out.ast.cw k)
          exact ⟨(ws k).st.toNat, by omega, by omega⟩
        have HST := Lib.hid hst
        clear hst
        obtain ⟨y0, y1, y2, y3⟩ := HT.out.ast.cl k hlt
        have HPK := Lib.hid (rpackE (ws k) (HT.out.ast.cw k))
        go_upto_region 47 with (go_at_call 36; refine (HPK.out _).mono ?_; rintro e w2 ⟨rfl, hb2⟩)
        have HT2 := Lib.hid (HT.out.below hb2)
        clear y0 y1 y2 y3 hb2 HPK
        go_cut [350] (fun s350 wx => s350 = .bool false ∧ TlR w gp gc gn gl gk g17 g18 n k l ws ks wx)
        case first =>
          obtain ⟨m, hm2⟩ : ∃ m, m = 2 * k := ⟨_, rfl⟩
          have j0 : (m : Int) < (n2 : Int) := by have := HN2.out; omega
          have j1 : (m : Int) + 1 < (n2 : Int) := by have := HN2.out; omega
          have j2 : (0 : Int) ≤ (m : Int) + 1 := by omega
          have j3 : ((m : Int) + 1).toNat = m + 1 := by omega
          have hw1 : IntKind.i64.wrap (2 * (k : Int)) = (m : Int) := by rw [IntWalk.i64_in _ (by omega)]; omega
          have hw2 : IntKind.i64.wrap ((m : Int) + 1) = (m : Int) + 1 := IntWalk.i64_in _ (by omega)
          have r1 : ∀ W, TlR w gp gc gn gl gk g17 g18 n k l ws ks W → W.cell? ⟨g18, m, none⟩ = some (.int .u64 (ws k).num) := fun W h => by
            rw [h.row.at (by have := h.ast.pl.cl.len; omega), hm2, h.ast.lw k hlt]
          have r2 : ∀ W, TlR w gp gc gn gl gk g17 g18 n k l ws ks W → W.cell? ⟨g18, m + 1, none⟩ = some (.int .u64 (ks k).num) := fun W h => by
            rw [h.row.at (by have := h.ast.pl.cl.len; omega), hm2, h.ast.lk k hlt]
          have r30 : ∀ W, TlR w gp gc gn gl gk g17 g18 n k l ws ks W → W.cell? ⟨gk, k * 3, none⟩ = some (.int .i64 (ks k).p) := fun W h => (h.ast.cf k hlt).1
          have r31 : ∀ W, TlR w gp gc gn gl gk g17 g18 n k l ws ks W → W.cell? ⟨gk, k * 3 + 1, none⟩ = some (.int .u32 (ks k).a) := fun W h => (h.ast.cf k hlt).2.1
          have r32 : ∀ W, TlR w gp gc gn gl gk g17 g18 n k l ws ks W → W.cell? ⟨gk, k * 3 + 2, none⟩ = some (.int .u16 (ks k).o) := fun W h => (h.ast.cf k hlt).2.2
          clear hm2
          refine wp_region_held_drew (S := (fun W => TlR w gp gc gn gl gk g17 g18 n k l ws ks W)) (by kernel_rfl) (HT2.out.below (bdrew _)) (fun hHeld => ?_)
          refine wpAnyH_take (i := 0) (oi := ⟨some 330, _, _, _, _, _⟩) (v := ?tvp0) rfl (by kernel_rfl) (by kernel_rfl) (by kernel_rfl) (fun _ _ _ h => h) (Or.inl ⟨by kernel_rfl, ?typ0⟩) (by assumption) ?trp0
          case typ0 => (intro w hSw; first | (go_simp; done) | (go_simp; with_reducible rfl))
          case' trp0 => try simp only [Act.put, List.setIfInBounds_toArray, List.set_cons_zero, List.set_cons_succ]
          refine wpAnyH_take (i := 1) (oi := ⟨some 331, _, _, _, _, _⟩) (v := ?tvp1) rfl (by kernel_rfl) (by kernel_rfl) (by kernel_rfl) (fun _ _ _ h => h) (Or.inl ⟨by kernel_rfl, ?typ1⟩) (by assumption) ?trp1
          case typ1 => (intro w hSw; first | (go_simp; done) | (go_simp; with_reducible rfl))
          case' trp1 => try simp only [Act.put, List.setIfInBounds_toArray, List.set_cons_zero, List.set_cons_succ]
          refine wpAnyH_take (i := 2) (oi := ⟨some 332, _, _, _, _, _⟩) (v := ?tvp2) rfl (by kernel_rfl) (by kernel_rfl) (by kernel_rfl) (fun _ _ _ h => h) (Or.inl ⟨by kernel_rfl, ?typ2⟩) (by assumption) ?trp2
          case typ2 => (intro w hSw; first | (go_simp; done) | (go_simp; with_reducible rfl))
          case' trp2 => try simp only [Act.put, List.setIfInBounds_toArray, List.set_cons_zero, List.set_cons_succ]
          refine wpAnyH_take (i := 3) (oi := ⟨some 333, _, _, _, _, _⟩) (v := ?tvp3) rfl (by kernel_rfl) (by kernel_rfl) (by kernel_rfl) (fun _ _ _ h => h) (Or.inl ⟨by kernel_rfl, ?typ3⟩) (by assumption) ?trp3
          case typ3 => (intro w hSw; first | (go_simp; done) | (go_simp; with_reducible rfl))
          case' trp3 => try simp only [Act.put, List.setIfInBounds_toArray, List.set_cons_zero, List.set_cons_succ]
          refine wpAnyH_take (i := 4) (oi := ⟨some 334, _, _, _, _, _⟩) (v := ?tvp4) rfl (by kernel_rfl) (by kernel_rfl) (by kernel_rfl) (fun _ _ _ h => h) (Or.inl ⟨by kernel_rfl, ?typ4⟩) (by assumption) ?trp4
          case typ4 => (intro w hSw; first | (go_simp; done) | (go_simp; with_reducible rfl))
          case' trp4 => try simp only [Act.put, List.setIfInBounds_toArray, List.set_cons_zero, List.set_cons_succ]
          refine wpAnyH_take (i := 5) (oi := ⟨some 335, _, _, _, _, _⟩) (v := ?tvp5) rfl (by kernel_rfl) (by kernel_rfl) (by kernel_rfl) (fun _ _ _ h => h) (Or.inl ⟨by kernel_rfl, ?typ5⟩) (by assumption) ?trp5
          case typ5 => (intro w hSw; first | (go_simp; done) | (go_simp; with_reducible rfl))
          case' trp5 => try simp only [Act.put, List.setIfInBounds_toArray, List.set_cons_zero, List.set_cons_succ]
          refine wpAnyH_take (i := 6) (oi := ⟨some 336, _, _, _, _, _⟩) (v := ?tvp6) rfl (by kernel_rfl) (by kernel_rfl) (by kernel_rfl) (fun _ _ _ h => h) (Or.inl ⟨by kernel_rfl, ?typ6⟩) (by assumption) ?trp6
          case typ6 => (intro w hSw; first | (go_simp; done) | (go_simp; with_reducible rfl))
          case' trp6 => try simp only [Act.put, List.setIfInBounds_toArray, List.set_cons_zero, List.set_cons_succ]
          refine wpAnyH_take (i := 7) (oi := ⟨some 337, _, _, _, _, _⟩) (v := ?tvp7) rfl (by kernel_rfl) (by kernel_rfl) (by kernel_rfl) (fun _ _ _ h => h) (Or.inl ⟨by kernel_rfl, ?typ7⟩) (by assumption) ?trp7
          case typ7 => (intro w hSw; first | (go_simp; done) | (go_simp; with_reducible rfl))
          case' trp7 => try simp only [Act.put, List.setIfInBounds_toArray, List.set_cons_zero, List.set_cons_succ]
          refine wpAnyH_take (i := 8) (oi := ⟨some 338, _, _, _, _, _⟩) (v := ?tvp8) rfl (by kernel_rfl) (by kernel_rfl) (by kernel_rfl) (fun _ _ _ h => h) (Or.inl ⟨by kernel_rfl, ?typ8⟩) (by assumption) ?trp8
          case typ8 => (intro w hSw; first | (go_simp; done) | (go_simp; with_reducible rfl))
          case' trp8 => try simp only [Act.put, List.setIfInBounds_toArray, List.set_cons_zero, List.set_cons_succ]
          refine wpAnyH_take (i := 9) (oi := ⟨some 339, _, _, _, _, _⟩) (v := ?tvp9) rfl (by kernel_rfl) (by kernel_rfl) (by kernel_rfl) (fun _ _ _ h => h) (Or.inl ⟨by kernel_rfl, ?typ9⟩) (by assumption) ?trp9
          case typ9 => (intro w hSw; first | (go_simp; done) | (go_simp; with_reducible rfl))
          case' trp9 => try simp only [Act.put, List.setIfInBounds_toArray, List.set_cons_zero, List.set_cons_succ]
          refine wpAnyH_take (i := 10) (oi := ⟨some 340, _, _, _, _, _⟩) (v := ?tvp10) rfl (by kernel_rfl) (by kernel_rfl) (by kernel_rfl) (fun _ _ _ h => h) (Or.inl ⟨by kernel_rfl, ?typ10⟩) (by assumption) ?trp10
          case typ10 => (intro w hSw; first | (go_simp; done) | (go_simp; with_reducible rfl))
          case' trp10 => try simp only [Act.put, List.setIfInBounds_toArray, List.set_cons_zero, List.set_cons_succ]
          refine wpAnyH_take (i := 11) (oi := ⟨some 341, _, _, _, _, _⟩) (v := ?tvp11) rfl (by kernel_rfl) (by kernel_rfl) (by kernel_rfl) (fun _ _ _ h => h) (Or.inl ⟨by kernel_rfl, ?typ11⟩) (by assumption) ?trp11
          case typ11 => (intro w hSw; first | (go_simp; done) | (go_simp; with_reducible rfl))
          case' trp11 => try simp only [Act.put, List.setIfInBounds_toArray, List.set_cons_zero, List.set_cons_succ]
          refine wpAnyH_take (i := 12) (oi := ⟨some 342, _, _, _, _, _⟩) (v := ?tvp12) rfl (by kernel_rfl) (by kernel_rfl) (by kernel_rfl) (fun _ _ _ h => h) (Or.inl ⟨by kernel_rfl, ?typ12⟩) (by assumption) ?trp12
          case typ12 => (intro w hSw; first | (go_simp; done) | (go_simp; with_reducible rfl))
          case' trp12 => try simp only [Act.put, List.setIfInBounds_toArray, List.set_cons_zero, List.set_cons_succ]
          refine wpAnyH_take (i := 13) (oi := ⟨some 343, _, _, _, _, _⟩) (v := ?tvp13) rfl (by kernel_rfl) (by kernel_rfl) (by kernel_rfl) (fun _ _ _ h => h) (Or.inl ⟨by kernel_rfl, ?typ13⟩) (by assumption) ?trp13
          case typ13 => (intro w hSw; first | (go_simp; done) | (go_simp; with_reducible rfl))
          case' trp13 => try simp only [Act.put, List.setIfInBounds_toArray, List.set_cons_zero, List.set_cons_succ]
          refine wpAnyH_take (i := 14) (oi := ⟨some 344, _, _, _, _, _⟩) (v := ?tvp14) rfl (by kernel_rfl) (by kernel_rfl) (by kernel_rfl) (fun _ _ _ h => h) (Or.inl ⟨by kernel_rfl, ?typ14⟩) (by assumption) ?trp14
          case typ14 => (intro w hSw; first | (go_simp; done) | (go_simp; with_reducible rfl))
          case' trp14 => try simp only [Act.put, List.setIfInBounds_toArray, List.set_cons_zero, List.set_cons_succ]
          refine wpAnyH_take (i := 15) (oi := ⟨some 345, _, _, _, _, _⟩) (v := ?tvp15) rfl (by kernel_rfl) (by kernel_rfl) (by kernel_rfl) (fun _ _ _ h => h) (Or.inl ⟨by kernel_rfl, ?typ15⟩) (by assumption) ?trp15
          case typ15 => (intro w hSw; first | (go_simp; done) | (go_simp; with_reducible rfl))
          case' trp15 => try simp only [Act.put, List.setIfInBounds_toArray, List.set_cons_zero, List.set_cons_succ]
          refine wpAnyH_take (i := 16) (oi := ⟨some 346, _, _, _, _, _⟩) (v := ?tvp16) rfl (by kernel_rfl) (by kernel_rfl) (by kernel_rfl) (fun _ _ _ h => h) (Or.inl ⟨by kernel_rfl, ?typ16⟩) (by assumption) ?trp16
          case typ16 => (intro w hSw; first | (go_simp; done) | (go_simp; with_reducible rfl))
          case' trp16 => try simp only [Act.put, List.setIfInBounds_toArray, List.set_cons_zero, List.set_cons_succ]
          refine wpAnyH_take (i := 17) (oi := ⟨some 347, _, _, _, _, _⟩) (v := ?tvp17) rfl (by kernel_rfl) (by kernel_rfl) (by kernel_rfl) (fun _ _ _ h => h) (Or.inl ⟨by kernel_rfl, ?typ17⟩) (by assumption) ?trp17
          case typ17 => (intro w hSw; first | (go_simp; done) | (go_simp; with_reducible rfl))
          case' trp17 => try simp only [Act.put, List.setIfInBounds_toArray, List.set_cons_zero, List.set_cons_succ]
          refine wpAnyH_ready (rs := [18]) (by kernel_rfl) (by simp) ?_
          refine AllReadyH.cons (o := ⟨some 348, _, _, _, _, _⟩) rfl (fun K hK => ?_) AllReadyH.nil
          go_simp
          go_at_call 37
          refine (numberE (ks k) (HT.out.ast.ck k) _).mono ?_
          rintro e w4 ⟨rfl, hb4⟩
          have hSp18 : ((fun W => TlR w gp gc gn gl gk g17 g18 n k l ws ks W)) w4 := TlR.below hHeld hb4
          refine hK.out _ _ hSp18 (fun hHeld0 => ?_)
          clear hK K hHeld0 hHeld
          try simp only [Act.put, List.setIfInBounds_toArray, List.set_cons_zero, List.set_cons_succ]
          have hHeld : ((fun W => TlR w gp gc gn gl gk g17 g18 n k l ws ks W)) w4 := hSp18
          clear hSp18
          refine wpAnyH_take (i := 19) (oi := ⟨some 349, _, _, _, _, _⟩) (v := ?tvp19) rfl (by kernel_rfl) (by kernel_rfl) (by kernel_rfl) (fun _ _ _ h => h) (Or.inl ⟨by kernel_rfl, ?typ19⟩) (by assumption) ?trp19
          case typ19 => (intro w hSw; first | (go_simp; done) | (go_simp; with_reducible rfl))
          case' trp19 => try simp only [Act.put, List.setIfInBounds_toArray, List.set_cons_zero, List.set_cons_succ]
          refine wpAnyH_take (i := 20) (oi := ⟨some 350, _, _, _, _, _⟩) (v := ?tvp20) rfl (by kernel_rfl) (by kernel_rfl) (by kernel_rfl) (fun _ _ _ h => h) (Or.inl ⟨by kernel_rfl, ?typ20⟩) (by assumption) ?trp20
          case typ20 => (intro w hSw; first | (go_simp; done) | (go_simp; with_reducible rfl))
          case' trp20 => try simp only [Act.put, List.setIfInBounds_toArray, List.set_cons_zero, List.set_cons_succ]
          refine wpAnyH_done (by kernel_rfl) ?_ _
          go_wp2_with fail
          go_meet
          exact ⟨rfl, hHeld⟩
        case rest =>
          obtain ⟨rfl, hT⟩ := hcut
          have HT3 := Lib.hid hT
          clear hT HT2
          obtain ⟨y0, y1, y2, y3⟩ := HT3.out.ast.cl k hlt
          rw [HST.out] at y0
          have q := HT3.out.at s hs4
          have f := HT3.out.free s
          have hcl := cntS_le l s k
          have HF := Lib.hid (HT3.out.inc hlt s hs4 HST.out h17)
          generalize cntS l s k = cc at *
          have i4 : (s : Int) < 4 := by omega
          go_wp2
          go_roundw
          case rel => exact ⟨k + 1, by go_num, by omega, HF.out⟩
          case measure => simp [intOf]; omega
      · obtain rfl : k = n := by omega
        go_wp2
        go_loopw [22] (fun s22 wt => ∃ j : Nat, s22 = .int .i64 j ∧ j ≤ 4 ∧ TlR w gp gc gn gl gk g17 g18 k k l ws ks wt) (fun j _ => 4 - (intOf j).toNat)
        case atStart => exact ⟨0, rfl, by omega, HT.out⟩
        case round =>
          obtain ⟨j, rfl, hj, hT⟩ := hrel
          have HU := Lib.hid hT
          clear hT HT
          by_cases hj4 : j < 4
          · have i4 : (j : Int) < 4 := by omega
            have r1 : ∀ W, TlR w gp gc gn gl gk g17 g18 k k l ws ks W → W.cell? ⟨g17, j, none⟩ = some (.int .i64 (cntS l j k)) := fun W h => h.at j hj4
            go_upto_region 53 with fail
            refine wp_region_held_drew (S := (fun W => TlR w gp gc gn gl gk g17 g18 k k l ws ks W)) (by kernel_rfl) (HU.out.below (bdrew _)) (fun hHeld => ?_)
            refine wpAnyH_take (i := 0) (oi := ⟨some 364, _, _, _, _, _⟩) (v := ?tvq0) rfl (by kernel_rfl) (by kernel_rfl) (by kernel_rfl) (fun _ _ _ h => h) (Or.inl ⟨by kernel_rfl, ?tyq0⟩) (by assumption) ?trq0
            case tyq0 => (intro w hSw; first | (go_simp; done) | (go_simp; with_reducible rfl))
            case' trq0 => try simp only [Act.put, List.setIfInBounds_toArray, List.set_cons_zero, List.set_cons_succ]
            refine wpAnyH_take (i := 1) (oi := ⟨some 365, _, _, _, _, _⟩) (v := ?tvq1) rfl (by kernel_rfl) (by kernel_rfl) (by kernel_rfl) (fun _ _ _ h => h) (Or.inl ⟨by kernel_rfl, ?tyq1⟩) (by assumption) ?trq1
            case tyq1 => (intro w hSw; first | (go_simp; done) | (go_simp; with_reducible rfl))
            case' trq1 => try simp only [Act.put, List.setIfInBounds_toArray, List.set_cons_zero, List.set_cons_succ]
            refine wpAnyH_take (i := 3) (oi := ⟨some 367, _, _, _, _, _⟩) (v := ?tvq3) rfl (by kernel_rfl) (by kernel_rfl) (by kernel_rfl) (fun _ _ _ h => h) (Or.inl ⟨by kernel_rfl, ?tyq3⟩) (by assumption) ?trq3
            case tyq3 => (intro w hSw; first | (go_simp; done) | (go_simp; with_reducible rfl))
            case' trq3 => try simp only [Act.put, List.setIfInBounds_toArray, List.set_cons_zero, List.set_cons_succ]
            refine wpAnyH_take (i := 4) (oi := ⟨some 368, _, _, _, _, _⟩) (v := ?tvq4) rfl (by kernel_rfl) (by kernel_rfl) (by kernel_rfl) (fun _ _ _ h => h) (Or.inl ⟨by kernel_rfl, ?tyq4⟩) (by assumption) ?trq4
            case tyq4 => (intro w hSw; first | (go_simp; done) | (go_simp; with_reducible rfl))
            case' trq4 => try simp only [Act.put, List.setIfInBounds_toArray, List.set_cons_zero, List.set_cons_succ]
            refine wpAnyH_take (i := 5) (oi := ⟨some 369, _, _, _, _, _⟩) (v := ?tvq5) rfl (by kernel_rfl) (by kernel_rfl) (by kernel_rfl) (fun _ _ _ h => h) (Or.inl ⟨by kernel_rfl, ?tyq5⟩) (by assumption) ?trq5
            case tyq5 => (intro w hSw; first | (go_simp; done) | (go_simp; with_reducible rfl))
            case' trq5 => try simp only [Act.put, List.setIfInBounds_toArray, List.set_cons_zero, List.set_cons_succ]
            refine wpAnyH_ready (rs := [2]) (by kernel_rfl) (by simp) ?_
            refine AllReadyH.cons (o := ⟨some 366, _, _, _, _, _⟩) rfl (fun K hK => ?_) AllReadyH.nil
            go_simp
            go_at_call 28
            refine (pcount_any (hHeld.ast.pl) (j : Int)).mono ?_
            rintro e w4 ⟨rfl, hb4⟩
            have hSq2 : ((fun W => TlR w gp gc gn gl gk g17 g18 k k l ws ks W)) w4 := TlR.below hHeld hb4
            refine hK.out _ _ hSq2 (fun hHeld0 => ?_)
            clear hK K hHeld0 hHeld
            try simp only [Act.put, List.setIfInBounds_toArray, List.set_cons_zero, List.set_cons_succ]
            have hHeld : ((fun W => TlR w gp gc gn gl gk g17 g18 k k l ws ks W)) w4 := hSq2
            clear hSq2
            refine wpAnyH_take (i := 6) (oi := ⟨some 370, _, _, _, _, _⟩) (v := ?tvq6) rfl (by kernel_rfl) (by kernel_rfl) (by kernel_rfl) (fun _ _ _ h => h) (Or.inl ⟨by kernel_rfl, ?tyq6⟩) (by assumption) ?trq6
            case tyq6 => (intro w hSw; first | (go_simp; done) | (go_simp; with_reducible rfl))
            case' trq6 => try simp only [Act.put, List.setIfInBounds_toArray, List.set_cons_zero, List.set_cons_succ]
            refine wpAnyH_done (by kernel_rfl) ?_ _
            have HU2 := Lib.hid hHeld
            clear hHeld HU r1
            go_wp2
            go_roundw
            case rel => exact ⟨j + 1, by go_num, by omega, HU2.out⟩
            case measure => simp [intOf]; omega
          · obtain rfl : j = 4 := by omega
            go_wp2
            go_ret
            exact ⟨rfl, HU.out.ast.bel⟩
end Go.Proofs.Ytpiobdbaljkkpaa
