/-
  The document's epochs (fanlightref07): Do, case by case. Conditions stand in each theorem.
-/
import Derived.Test.YthkmpcfjeclejaaRe
namespace Go.Proofs.Ythkmpcfjeclejaa
open Go.RowKit Go.Deep Plain
set_option linter.unusedVariables false
set_option maxRecDepth 100000
section
variable {w w' : World} {gr gp gs gv n : Nat} {now s : Int} {pins : List Int} {T : Nat → Tv}

set_option maxHeartbeats 2000000 in
theorem rdo0 {adv : Bool} {p : Int} (h : ReB w gr gp gs gv n now pins T) (k : Nat) (hk : k < n) (hT : T k = ⟨false, adv, p, s⟩) :
    Calls Try.prog 27 #[.pointer (some ⟨gr, 0, none⟩), .int .i64 k] w fun e w' => e = .returned (.tuple #[.bool true, .bool false, .bool false]) ∧ ReB w' gr gp gs gv n now pins (upE T k (T k)) ∧ Keep [gr, gp, gs] w w' := by
  have c0 : w.cell? ⟨gr, 0, none⟩ = some (.int .i64 now) := h.st.cell 0
  have c1 : w.cell? ⟨gr, 1, none⟩ = some (.slice (some ⟨gp, 0, none⟩) n n) := h.st.cell 1
  have c2 : w.cell? ⟨gr, 2, none⟩ = some (.slice (some ⟨gs, 0, none⟩) n n) := h.st.cell 2
  have fr := h.st.frozen 0
  obtain ⟨a0, a1, a2, a3⟩ := h.sc k hk
  rw [hT] at a0 a1 a2 a3
  simp only at a0 a1 a2 a3
  have f0 := h.free (k * 4)
  have f2 := h.free (k * 4 + 2)
  have f3 := h.free (k * 4 + 3)
  have hn2 := h.n2
  have i0 : (k : Int) < (n : Int) := by omega
  obtain ⟨ne1, ne2, ne3⟩ := h.ne
  have H := Lib.hid h
  have HT := Lib.hid hT
  have lts : gs < w.heap.size := by obtain ⟨cs, hb⟩ := h.sb; exact hb.lt
  have ltp : gp < w.heap.size := h.pin.lt
  clear h hT
  go_enter Try.func27, Try.ntmps27
  go_wp2
  refine bodyPost_ret (v := .tuple #[.bool true, .bool false, .bool false]) (by simp [results, Try.results27, go_sem]) rfl ?_
  exact ⟨rfl, by rw [upE_id]; exact H.out, Keep.refl _ _⟩

set_option maxHeartbeats 2000000 in
theorem rdo1 (h : ReB w gr gp gs gv n now pins T) (k : Nat) (hk : k < n) (hT : T k = ⟨true, false, 0, s⟩) :
    Calls Try.prog 27 #[.pointer (some ⟨gr, 0, none⟩), .int .i64 k] w fun e w' => e = .returned (.tuple #[.bool false, .bool false, .bool false]) ∧ ReB w' gr gp gs gv n now pins (upE T k ⟨true, false, 1, now⟩) ∧ Keep [gr, gp, gs] w w' := by
  have c0 : w.cell? ⟨gr, 0, none⟩ = some (.int .i64 now) := h.st.cell 0
  have c1 : w.cell? ⟨gr, 1, none⟩ = some (.slice (some ⟨gp, 0, none⟩) n n) := h.st.cell 1
  have c2 : w.cell? ⟨gr, 2, none⟩ = some (.slice (some ⟨gs, 0, none⟩) n n) := h.st.cell 2
  have fr := h.st.frozen 0
  obtain ⟨a0, a1, a2, a3⟩ := h.sc k hk
  rw [hT] at a0 a1 a2 a3
  simp only at a0 a1 a2 a3
  have f0 := h.free (k * 4)
  have f2 := h.free (k * 4 + 2)
  have f3 := h.free (k * 4 + 3)
  have hn2 := h.n2
  have i0 : (k : Int) < (n : Int) := by omega
  obtain ⟨ne1, ne2, ne3⟩ := h.ne
  have H := Lib.hid h
  have HT := Lib.hid hT
  have lts : gs < w.heap.size := by obtain ⟨cs, hb⟩ := h.sb; exact hb.lt
  have ltp : gp < w.heap.size := h.pin.lt
  clear h hT
  go_enter Try.func27, Try.ntmps27
  go_wp2
  refine bodyPost_ret (v := .tuple #[.bool false, .bool false, .bool false]) (by simp [results, Try.results27, go_sem]) rfl ?_
  refine ⟨rfl, ?_, ((Keep.refl _ _).setCell (.inl (by simp)) _).setCell (.inl (by simp)) _⟩
  have q := (H.out.stepC k hk 3 (by omega) (.int .i64 now) ⟨true, false, 0, now⟩ (by simp) (by simp) (by simp) (by simp) (by rw [HT.out]; simp) (by rw [HT.out]; simp) (by rw [HT.out]; simp) (by simp)).stepC k hk 2 (by omega) (.int .i64 1) ⟨true, false, 1, now⟩ (by simp) (by simp) (by simp) (by simp) (by rw [upE_same]; simp) (by rw [upE_same]; simp) (by simp) (by rw [upE_same]; simp)
  rw [upE_upE] at q
  exact q

set_option maxHeartbeats 2000000 in
theorem rdo4 (h : ReB w gr gp gs gv n now pins T) (k : Nat) (hk : k < n) (hT : T k = ⟨true, true, 0, s⟩) :
    Calls Try.prog 27 #[.pointer (some ⟨gr, 0, none⟩), .int .i64 k] w fun e w' => e = .returned (.tuple #[.bool false, .bool false, .bool false]) ∧ ReB w' gr gp gs gv n now pins (upE T k ⟨true, true, 1, now⟩) ∧ Keep [gr, gp, gs] w w' := by
  have c0 : w.cell? ⟨gr, 0, none⟩ = some (.int .i64 now) := h.st.cell 0
  have c1 : w.cell? ⟨gr, 1, none⟩ = some (.slice (some ⟨gp, 0, none⟩) n n) := h.st.cell 1
  have c2 : w.cell? ⟨gr, 2, none⟩ = some (.slice (some ⟨gs, 0, none⟩) n n) := h.st.cell 2
  have fr := h.st.frozen 0
  obtain ⟨a0, a1, a2, a3⟩ := h.sc k hk
  rw [hT] at a0 a1 a2 a3
  simp only at a0 a1 a2 a3
  have f0 := h.free (k * 4)
  have f2 := h.free (k * 4 + 2)
  have f3 := h.free (k * 4 + 3)
  have hn2 := h.n2
  have i0 : (k : Int) < (n : Int) := by omega
  obtain ⟨ne1, ne2, ne3⟩ := h.ne
  have H := Lib.hid h
  have HT := Lib.hid hT
  have lts : gs < w.heap.size := by obtain ⟨cs, hb⟩ := h.sb; exact hb.lt
  have ltp : gp < w.heap.size := h.pin.lt
  clear h hT
  go_enter Try.func27, Try.ntmps27
  go_wp2
  refine bodyPost_ret (v := .tuple #[.bool false, .bool false, .bool false]) (by simp [results, Try.results27, go_sem]) rfl ?_
  refine ⟨rfl, ?_, ((Keep.refl _ _).setCell (.inl (by simp)) _).setCell (.inl (by simp)) _⟩
  have q := (H.out.stepC k hk 3 (by omega) (.int .i64 now) ⟨true, true, 0, now⟩ (by simp) (by simp) (by simp) (by simp) (by rw [HT.out]; simp) (by rw [HT.out]; simp) (by rw [HT.out]; simp) (by simp)).stepC k hk 2 (by omega) (.int .i64 1) ⟨true, true, 1, now⟩ (by simp) (by simp) (by simp) (by simp) (by rw [upE_same]; simp) (by rw [upE_same]; simp) (by simp) (by rw [upE_same]; simp)
  rw [upE_upE] at q
  exact q

set_option maxHeartbeats 2000000 in
theorem rdo2 (h : ReB w gr gp gs gv n now pins T) (k : Nat) (hk : k < n) (hs : 0 ≤ s ∧ s ≤ 100000) (hT : T k = ⟨true, false, 1, s⟩) :
    Calls Try.prog 27 #[.pointer (some ⟨gr, 0, none⟩), .int .i64 k] w fun e w' => e = .returned (.tuple #[.bool false, .bool false, .bool false]) ∧ ReB w' gr gp gs gv n now (pins.set k (s + 1)) (upE T k ⟨true, false, 2, s⟩) ∧ Keep [gr, gp, gs] w w' := by
  have c0 : w.cell? ⟨gr, 0, none⟩ = some (.int .i64 now) := h.st.cell 0
  have c1 : w.cell? ⟨gr, 1, none⟩ = some (.slice (some ⟨gp, 0, none⟩) n n) := h.st.cell 1
  have c2 : w.cell? ⟨gr, 2, none⟩ = some (.slice (some ⟨gs, 0, none⟩) n n) := h.st.cell 2
  have fr := h.st.frozen 0
  obtain ⟨a0, a1, a2, a3⟩ := h.sc k hk
  rw [hT] at a0 a1 a2 a3
  simp only at a0 a1 a2 a3
  have f0 := h.free (k * 4)
  have f2 := h.free (k * 4 + 2)
  have f3 := h.free (k * 4 + 3)
  have hn2 := h.n2
  have i0 : (k : Int) < (n : Int) := by omega
  obtain ⟨ne1, ne2, ne3⟩ := h.ne
  have H := Lib.hid h
  have HT := Lib.hid hT
  have lts : gs < w.heap.size := by obtain ⟨cs, hb⟩ := h.sb; exact hb.lt
  have ltp : gp < w.heap.size := h.pin.lt
  have cp := h.pin.at (i := k) (by rw [h.len]; exact hk)
  have fp := h.pin.free k
  obtain ⟨s0, s1⟩ := hs
  have o1 : (⟨gp, k, none⟩ : Addr) ≠ ⟨gr, 1, none⟩ := fun e => ne1 (by injection e with e; exact e.symm)
  have o2 : (⟨gp, k, none⟩ : Addr) ≠ ⟨gs, k * 4 + 3, none⟩ := fun e => ne3 (by injection e with e)
  have o3 : (⟨gs, k * 4 + 2, none⟩ : Addr) ≠ ⟨gr, 1, none⟩ := fun e => ne2 (by injection e with e; exact e.symm)
  have o4 : (⟨gs, k * 4 + 2, none⟩ : Addr) ≠ ⟨gs, k * 4 + 3, none⟩ := by simp
  have K1 := Lib.hid (fun W : World => fun v => show W.cell? ⟨gr, 1, none⟩ = some (.slice (some ⟨gp, 0, none⟩) n n) ∧ W.cell? ⟨gs, k * 4 + 3, none⟩ = some (.int .i64 s) → (W.setCell ⟨gp, k, none⟩ v).cell? ⟨gr, 1, none⟩ = some (.slice (some ⟨gp, 0, none⟩) n n) ∧ (W.setCell ⟨gp, k, none⟩ v).cell? ⟨gs, k * 4 + 3, none⟩ = some (.int .i64 s) from fun h => ⟨(World.cell?_setCell_other _ _ _ _ o1).trans h.1, (World.cell?_setCell_other _ _ _ _ o2).trans h.2⟩)
  have K2 := Lib.hid (fun W : World => fun v => show W.cell? ⟨gr, 1, none⟩ = some (.slice (some ⟨gp, 0, none⟩) n n) ∧ W.cell? ⟨gs, k * 4 + 3, none⟩ = some (.int .i64 s) → (W.setCell ⟨gs, k * 4 + 2, none⟩ v).cell? ⟨gr, 1, none⟩ = some (.slice (some ⟨gp, 0, none⟩) n n) ∧ (W.setCell ⟨gs, k * 4 + 2, none⟩ v).cell? ⟨gs, k * 4 + 3, none⟩ = some (.int .i64 s) from fun h => ⟨(World.cell?_setCell_other _ _ _ _ o3).trans h.1, (World.cell?_setCell_other _ _ _ _ o4).trans h.2⟩)
  have F1 := Lib.hid (show  (w.setCell ⟨gp, k, none⟩ (.int .i64 (IntKind.i64.wrap (s + 1)))).drew.cell? ⟨gr, 1, none⟩ = some (.slice (some ⟨gp, 0, none⟩) n n) ∧ (w.setCell ⟨gp, k, none⟩ (.int .i64 (IntKind.i64.wrap (s + 1)))).drew.cell? ⟨gs, k * 4 + 3, none⟩ = some (.int .i64 s) from K1.out w _ ⟨c1, a3⟩)
  have F2 := Lib.hid (show  (w.setCell ⟨gs, k * 4 + 2, none⟩ (.int .i64 2)).drew.cell? ⟨gr, 1, none⟩ = some (.slice (some ⟨gp, 0, none⟩) n n) ∧ (w.setCell ⟨gs, k * 4 + 2, none⟩ (.int .i64 2)).drew.cell? ⟨gs, k * 4 + 3, none⟩ = some (.int .i64 s) from K2.out w _ ⟨c1, a3⟩)
  have F3 := Lib.hid (show  ((w.setCell ⟨gp, k, none⟩ (.int .i64 (IntKind.i64.wrap (s + 1)))).setCell ⟨gs, k * 4 + 2, none⟩ (.int .i64 2)).drew.cell? ⟨gr, 1, none⟩ = some (.slice (some ⟨gp, 0, none⟩) n n) ∧ ((w.setCell ⟨gp, k, none⟩ (.int .i64 (IntKind.i64.wrap (s + 1)))).setCell ⟨gs, k * 4 + 2, none⟩ (.int .i64 2)).drew.cell? ⟨gs, k * 4 + 3, none⟩ = some (.int .i64 s) from K2.out _ _ (K1.out w _ ⟨c1, a3⟩))
  have F4 := Lib.hid (show  ((w.setCell ⟨gs, k * 4 + 2, none⟩ (.int .i64 2)).setCell ⟨gp, k, none⟩ (.int .i64 (IntKind.i64.wrap (s + 1)))).drew.cell? ⟨gr, 1, none⟩ = some (.slice (some ⟨gp, 0, none⟩) n n) ∧ ((w.setCell ⟨gs, k * 4 + 2, none⟩ (.int .i64 2)).setCell ⟨gp, k, none⟩ (.int .i64 (IntKind.i64.wrap (s + 1)))).drew.cell? ⟨gs, k * 4 + 3, none⟩ = some (.int .i64 s) from K1.out _ _ (K2.out w _ ⟨c1, a3⟩))
  have es : IntKind.i64.wrap (s + 1) = s + 1 := by rw [IntKind.wrap_i64]; omega
  have HT := Lib.hid hT
  have QAB := Lib.hid (by have q := ((h.pinC k (IntKind.i64.wrap (s + 1))).stepC k hk 2 (by omega) (.int .i64 2) ⟨true, false, 2, s⟩ (by simp) (by simp) (by simp) (by simp) (by rw [HT.out]; simp) (by rw [HT.out]; simp) (by simp) (by rw [HT.out]; simp)).drewN 1; rw [show pins.set k (IntKind.i64.wrap (s + 1)) = pins.set k (s + 1) by rw [es]] at q; exact q)
  have QBA := Lib.hid (by have q := ((h.stepC k hk 2 (by omega) (.int .i64 2) ⟨true, false, 2, s⟩ (by simp) (by simp) (by simp) (by simp) (by rw [HT.out]; simp) (by rw [HT.out]; simp) (by simp) (by rw [HT.out]; simp)).pinC k (IntKind.i64.wrap (s + 1))).drewN 1; rw [show pins.set k (IntKind.i64.wrap (s + 1)) = pins.set k (s + 1) by rw [es]] at q; exact q)
  have KAB := Lib.hid ((((Keep.refl [gr, gp, gs] w).setCell (p := ⟨gp, k, none⟩) (.inl (by simp)) (.int .i64 (IntKind.i64.wrap (s + 1)))).setCell (p := ⟨gs, k * 4 + 2, none⟩) (.inl (by simp)) (.int .i64 2)).drewN 1)
  have KBA := Lib.hid ((((Keep.refl [gr, gp, gs] w).setCell (p := ⟨gs, k * 4 + 2, none⟩) (.inl (by simp)) (.int .i64 2)).setCell (p := ⟨gp, k, none⟩) (.inl (by simp)) (.int .i64 (IntKind.i64.wrap (s + 1)))).drewN 1)
  clear es
  clear h hT
  go_enter Try.func27, Try.ntmps27
  go_upto_region 9 with fail
  go_region_held3 (fun W => W.cell? ⟨gr, 1, none⟩ = some (.slice (some ⟨gp, 0, none⟩) n n) ∧ W.cell? ⟨gs, k * 4 + 3, none⟩ = some (.int .i64 s))
    (first | exact F1.out | exact F2.out | exact F3.out | exact F4.out | assumption | go_keep)
    (fail)
  all_goals
    go_wp2
    refine bodyPost_ret (v := .tuple #[.bool false, .bool false, .bool false]) (by simp [results, Try.results27, go_sem]) rfl ?_
    first
      | exact ⟨rfl, QAB.out, KAB.out⟩
      | exact ⟨rfl, QBA.out, KBA.out⟩

set_option maxHeartbeats 2000000 in
theorem rdo3y (h : ReB w gr gp gs gv n now pins T) (k : Nat) (hk : k < n) (he : now = s) (hT : T k = ⟨true, false, 2, s⟩) :
    Calls Try.prog 27 #[.pointer (some ⟨gr, 0, none⟩), .int .i64 k] w fun e w' => e = .returned (.tuple #[.bool true, .bool false, .bool true]) ∧ ReB w' gr gp gs gv n now pins (upE T k ⟨false, false, 2, s⟩) ∧ Keep [gr, gp, gs] w w' := by
  have c0 : w.cell? ⟨gr, 0, none⟩ = some (.int .i64 now) := h.st.cell 0
  have c1 : w.cell? ⟨gr, 1, none⟩ = some (.slice (some ⟨gp, 0, none⟩) n n) := h.st.cell 1
  have c2 : w.cell? ⟨gr, 2, none⟩ = some (.slice (some ⟨gs, 0, none⟩) n n) := h.st.cell 2
  have fr := h.st.frozen 0
  obtain ⟨a0, a1, a2, a3⟩ := h.sc k hk
  rw [hT] at a0 a1 a2 a3
  simp only at a0 a1 a2 a3
  have f0 := h.free (k * 4)
  have f2 := h.free (k * 4 + 2)
  have f3 := h.free (k * 4 + 3)
  have hn2 := h.n2
  have i0 : (k : Int) < (n : Int) := by omega
  obtain ⟨ne1, ne2, ne3⟩ := h.ne
  have H := Lib.hid h
  have HT := Lib.hid hT
  have lts : gs < w.heap.size := by obtain ⟨cs, hb⟩ := h.sb; exact hb.lt
  have ltp : gp < w.heap.size := h.pin.lt
  have d1 : (now == s) = true := by simp [he]
  clear he
  clear h hT
  go_enter Try.func27, Try.ntmps27
  go_upto_region 11 with fail
  go_quiet (fail)
  go_wp2
  refine bodyPost_ret (v := .tuple #[.bool true, .bool false, .bool true]) (by simp [results, Try.results27, go_sem]) rfl ?_
  exact ⟨rfl, (H.out.drewN nq).stepC k hk 0 (by omega) (.bool false) ⟨false, false, 2, s⟩ (by simp) (by simp) (by simp) (by simp) (by simp) (fun _ => by first | (rw [HT.out]; done) | (rw [HT.out]; rfl)) (fun _ => by first | (rw [HT.out]; done) | (rw [HT.out]; rfl)) (fun _ => by first | (rw [HT.out]; done) | (rw [HT.out]; rfl)), ((Keep.refl _ _).drewN nq).setCell (.inl (by simp)) _⟩

set_option maxHeartbeats 2000000 in
theorem rdo3n (h : ReB w gr gp gs gv n now pins T) (k : Nat) (hk : k < n) (he : now ≠ s) (hT : T k = ⟨true, false, 2, s⟩) :
    Calls Try.prog 27 #[.pointer (some ⟨gr, 0, none⟩), .int .i64 k] w fun e w' => e = .returned (.tuple #[.bool false, .bool false, .bool false]) ∧ ReB w' gr gp gs gv n now pins (upE T k ⟨true, false, 0, s⟩) ∧ Keep [gr, gp, gs] w w' := by
  have c0 : w.cell? ⟨gr, 0, none⟩ = some (.int .i64 now) := h.st.cell 0
  have c1 : w.cell? ⟨gr, 1, none⟩ = some (.slice (some ⟨gp, 0, none⟩) n n) := h.st.cell 1
  have c2 : w.cell? ⟨gr, 2, none⟩ = some (.slice (some ⟨gs, 0, none⟩) n n) := h.st.cell 2
  have fr := h.st.frozen 0
  obtain ⟨a0, a1, a2, a3⟩ := h.sc k hk
  rw [hT] at a0 a1 a2 a3
  simp only at a0 a1 a2 a3
  have f0 := h.free (k * 4)
  have f2 := h.free (k * 4 + 2)
  have f3 := h.free (k * 4 + 3)
  have hn2 := h.n2
  have i0 : (k : Int) < (n : Int) := by omega
  obtain ⟨ne1, ne2, ne3⟩ := h.ne
  have H := Lib.hid h
  have HT := Lib.hid hT
  have lts : gs < w.heap.size := by obtain ⟨cs, hb⟩ := h.sb; exact hb.lt
  have ltp : gp < w.heap.size := h.pin.lt
  have d1 : (now == s) = false := by simp [he]
  clear he
  clear h hT
  go_enter Try.func27, Try.ntmps27
  go_upto_region 11 with fail
  go_quiet (fail)
  go_wp2
  refine bodyPost_ret (v := .tuple #[.bool false, .bool false, .bool false]) (by simp [results, Try.results27, go_sem]) rfl ?_
  exact ⟨rfl, (H.out.drewN nq).stepC k hk 2 (by omega) (.int .i64 0) ⟨true, false, 0, s⟩ (by simp) (by simp) (by simp) (by simp) (fun _ => by first | (rw [HT.out]; done) | (rw [HT.out]; rfl)) (fun _ => by first | (rw [HT.out]; done) | (rw [HT.out]; rfl)) (by simp) (fun _ => by first | (rw [HT.out]; done) | (rw [HT.out]; rfl)), ((Keep.refl _ _).drewN nq).setCell (.inl (by simp)) _⟩

set_option maxHeartbeats 2000000 in
theorem rdo5z (h : ReB w gr gp gs gv n now pins T) (k : Nat) (hk : k < n) (q : Nat) (hq : q < n) (hx : pins.getD q 0 ≠ 0 ∧ pins.getD q 0 ≠ s + 1) (hs : 0 ≤ s ∧ s ≤ 100000) (hT : T k = ⟨true, true, (q : Int) + 1, s⟩) :
    Calls Try.prog 27 #[.pointer (some ⟨gr, 0, none⟩), .int .i64 k] w fun e w' => e = .returned (.tuple #[.bool true, .bool false, .bool false]) ∧ ReB w' gr gp gs gv n now pins (upE T k ⟨false, true, (q : Int) + 1 + 1, s⟩) ∧ Keep [gr, gp, gs] w w' := by
  have c0 : w.cell? ⟨gr, 0, none⟩ = some (.int .i64 now) := h.st.cell 0
  have c1 : w.cell? ⟨gr, 1, none⟩ = some (.slice (some ⟨gp, 0, none⟩) n n) := h.st.cell 1
  have c2 : w.cell? ⟨gr, 2, none⟩ = some (.slice (some ⟨gs, 0, none⟩) n n) := h.st.cell 2
  have fr := h.st.frozen 0
  obtain ⟨a0, a1, a2, a3⟩ := h.sc k hk
  rw [hT] at a0 a1 a2 a3
  simp only at a0 a1 a2 a3
  have f0 := h.free (k * 4)
  have f2 := h.free (k * 4 + 2)
  have f3 := h.free (k * 4 + 3)
  have hn2 := h.n2
  have i0 : (k : Int) < (n : Int) := by omega
  obtain ⟨ne1, ne2, ne3⟩ := h.ne
  have H := Lib.hid h
  have HT := Lib.hid hT
  have lts : gs < w.heap.size := by obtain ⟨cs, hb⟩ := h.sb; exact hb.lt
  have ltp : gp < w.heap.size := h.pin.lt
  obtain ⟨s0, s1⟩ := hs
  have cp := h.pin.at (i := q) (by rw [h.len]; exact hq)
  generalize pins.getD q 0 = x at *
  have e1 : ((q : Int) + 1 == 0) = false := by simp; omega
  have e2 : decide ((q : Int) + 1 ≤ (n : Int)) = true := by simp; omega
  have iq : (q : Int) < (n : Int) := by omega
  obtain ⟨x1, x2⟩ := hx
  have d1 : (x != 0) = true := by rw [bne_iff_ne]; exact x1
  have d2 : (x != s + 1) = true := by rw [bne_iff_ne]; exact x2
  clear x1 x2
  clear h hT
  go_enter Try.func27, Try.ntmps27
  go_upto_region 23 with fail
  go_quiet (fail)
  go_upto_region 24 with fail
  go_quiet (fail)
  go_wp2
  refine bodyPost_ret (v := .tuple #[.bool true, .bool false, .bool false]) (by simp [results, Try.results27, go_sem]) rfl ?_
  refine ⟨rfl, ?_, (((Keep.refl [gr, gp, gs] w).drewN _).setCell (p := ⟨gs, k * 4 + 2, none⟩) (.inl (by simp)) _).setCell (p := ⟨gs, k * 4, none⟩) (.inl (by simp)) _⟩
  rw [← upE_upE T k ⟨true, true, (q : Int) + 1 + 1, s⟩ ⟨false, true, (q : Int) + 1 + 1, s⟩]
  exact ((H.out.drewN _).stepC k hk 2 (by omega) (.int .i64 ((q : Int) + 1 + 1)) ⟨true, true, (q : Int) + 1 + 1, s⟩ (by simp) (by simp) (by simp) (by simp) (fun _ => by first | (rw [HT.out]; done) | (rw [HT.out]; rfl)) (fun _ => by first | (rw [HT.out]; done) | (rw [HT.out]; rfl)) (by simp) (fun _ => by first | (rw [HT.out]; done) | (rw [HT.out]; rfl))).stepC k hk 0 (by omega) (.bool false) ⟨false, true, (q : Int) + 1 + 1, s⟩ (by simp) (by simp) (by simp) (by simp) (by simp) (fun _ => by first | (rw [upE_same]; done) | (rw [upE_same]; rfl)) (fun _ => by first | (rw [upE_same]; done) | (rw [upE_same]; rfl)) (fun _ => by first | (rw [upE_same]; done) | (rw [upE_same]; rfl))

set_option maxHeartbeats 2000000 in
theorem rdo5g (h : ReB w gr gp gs gv n now pins T) (k : Nat) (hk : k < n) (q : Nat) (hq : q < n) (hx : ¬ (pins.getD q 0 ≠ 0 ∧ pins.getD q 0 ≠ s + 1)) (hs : 0 ≤ s ∧ s ≤ 100000) (hT : T k = ⟨true, true, (q : Int) + 1, s⟩) :
    Calls Try.prog 27 #[.pointer (some ⟨gr, 0, none⟩), .int .i64 k] w fun e w' => e = .returned (.tuple #[.bool false, .bool false, .bool false]) ∧ ReB w' gr gp gs gv n now pins (upE T k ⟨true, true, (q : Int) + 1 + 1, s⟩) ∧ Keep [gr, gp, gs] w w' := by
  have c0 : w.cell? ⟨gr, 0, none⟩ = some (.int .i64 now) := h.st.cell 0
  have c1 : w.cell? ⟨gr, 1, none⟩ = some (.slice (some ⟨gp, 0, none⟩) n n) := h.st.cell 1
  have c2 : w.cell? ⟨gr, 2, none⟩ = some (.slice (some ⟨gs, 0, none⟩) n n) := h.st.cell 2
  have fr := h.st.frozen 0
  obtain ⟨a0, a1, a2, a3⟩ := h.sc k hk
  rw [hT] at a0 a1 a2 a3
  simp only at a0 a1 a2 a3
  have f0 := h.free (k * 4)
  have f2 := h.free (k * 4 + 2)
  have f3 := h.free (k * 4 + 3)
  have hn2 := h.n2
  have i0 : (k : Int) < (n : Int) := by omega
  obtain ⟨ne1, ne2, ne3⟩ := h.ne
  have H := Lib.hid h
  have HT := Lib.hid hT
  have lts : gs < w.heap.size := by obtain ⟨cs, hb⟩ := h.sb; exact hb.lt
  have ltp : gp < w.heap.size := h.pin.lt
  obtain ⟨s0, s1⟩ := hs
  have cp := h.pin.at (i := q) (by rw [h.len]; exact hq)
  generalize pins.getD q 0 = x at *
  have e1 : ((q : Int) + 1 == 0) = false := by simp; omega
  have e2 : decide ((q : Int) + 1 ≤ (n : Int)) = true := by simp; omega
  have iq : (q : Int) < (n : Int) := by omega
  have key : (x != 0) = false ∨ ((x != 0) = true ∧ (x != s + 1) = false) := by
    by_cases h0 : x = 0
    · left; simp [h0]
    · right; refine ⟨by rw [bne_iff_ne]; exact h0, ?_⟩
      have : x = s + 1 := Classical.byContradiction fun hne => hx ⟨h0, hne⟩
      simp [this]
  clear hx
  clear h hT
  go_enter Try.func27, Try.ntmps27
  go_upto_region 23 with fail
  go_quiet (fail)
  go_upto_region 24 with fail
  go_quiet (fail)
  rcases key with k1 | ⟨k1, k2⟩
  all_goals
    go_wp2
    refine bodyPost_ret (v := .tuple #[.bool false, .bool false, .bool false]) (by simp [results, Try.results27, go_sem]) rfl ?_
    refine ⟨rfl, ?_, ((Keep.refl [gr, gp, gs] w).drewN _).setCell (p := ⟨gs, k * 4 + 2, none⟩) (.inl (by simp)) _⟩
    exact (H.out.drewN _).stepC k hk 2 (by omega) (.int .i64 ((q : Int) + 1 + 1)) ⟨true, true, (q : Int) + 1 + 1, s⟩ (by simp) (by simp) (by simp) (by simp) (fun _ => by first | (rw [HT.out]; done) | (rw [HT.out]; rfl)) (fun _ => by first | (rw [HT.out]; done) | (rw [HT.out]; rfl)) (by simp) (fun _ => by first | (rw [HT.out]; done) | (rw [HT.out]; rfl))

set_option maxHeartbeats 2000000 in
theorem rdo6y (h : ReB w gr gp gs gv n now pins T) (k : Nat) (hk : k < n) (he : now = s) (hnow : 0 ≤ now ∧ now ≤ 100000) (hT : T k = ⟨true, true, (n : Int) + 1, s⟩) :
    Calls Try.prog 27 #[.pointer (some ⟨gr, 0, none⟩), .int .i64 k] w fun e w' => e = .returned (.tuple #[.bool true, .bool true, .bool false]) ∧ ReB w' gr gp gs gv n (now + 1) pins (upE T k ⟨false, true, (n : Int) + 1, s⟩) ∧ Keep [gr, gp, gs] w w' := by
  have c0 : w.cell? ⟨gr, 0, none⟩ = some (.int .i64 now) := h.st.cell 0
  have c1 : w.cell? ⟨gr, 1, none⟩ = some (.slice (some ⟨gp, 0, none⟩) n n) := h.st.cell 1
  have c2 : w.cell? ⟨gr, 2, none⟩ = some (.slice (some ⟨gs, 0, none⟩) n n) := h.st.cell 2
  have fr := h.st.frozen 0
  obtain ⟨a0, a1, a2, a3⟩ := h.sc k hk
  rw [hT] at a0 a1 a2 a3
  simp only at a0 a1 a2 a3
  have f0 := h.free (k * 4)
  have f2 := h.free (k * 4 + 2)
  have f3 := h.free (k * 4 + 3)
  have hn2 := h.n2
  have i0 : (k : Int) < (n : Int) := by omega
  obtain ⟨ne1, ne2, ne3⟩ := h.ne
  have H := Lib.hid h
  have HT := Lib.hid hT
  have lts : gs < w.heap.size := by obtain ⟨cs, hb⟩ := h.sb; exact hb.lt
  have ltp : gp < w.heap.size := h.pin.lt
  have e1 : ((n : Int) + 1 == 0) = false := by simp; omega
  have e2 : decide ((n : Int) + 1 ≤ (n : Int)) = false := decide_eq_false (by omega)
  obtain ⟨w0, w1⟩ := hnow
  have d1 : (now == s) = true := by simp [he]
  clear he
  clear h hT
  go_enter Try.func27, Try.ntmps27
  go_upto_region 23 with fail
  go_quiet (fail)
  go_upto_region 17 with fail
  have HQ := Lib.hid (show ReB ((w.drewN nq).setCell ⟨gs, k * 4, none⟩ (.bool false)) gr gp gs gv n now pins (upE T k ⟨false, true, (n : Int) + 1, s⟩) from (H.out.drewN nq).stepC k hk 0 (by omega) (.bool false) ⟨false, true, (n : Int) + 1, s⟩ (by simp) (by simp) (by simp) (by simp) (by simp) (fun _ => by first | (rw [HT.out]; done) | (rw [HT.out]; rfl)) (fun _ => by first | (rw [HT.out]; done) | (rw [HT.out]; rfl)) (fun _ => by first | (rw [HT.out]; done) | (rw [HT.out]; rfl)))
  have HK := Lib.hid ((((Keep.refl [gr, gp, gs] w).drewN nq).setCell (p := ⟨gs, k * 4, none⟩) (.inl (by simp)) (.bool false)))
  have b0 := HQ.out.st.cell 0
  have bf := HQ.out.st.frozen 0
  obtain ⟨b1, b2, b3, b4⟩ := HQ.out.sc k hk
  rw [upE_same] at b1 b2 b3 b4
  clear c0 c1 c2 fr a0 a1 a2 a3 f0 f2 f3
  simp only [List.getElem?_toArray, List.getElem?_cons_zero] at b0
  generalize (w.drewN nq).setCell ⟨gs, k * 4, none⟩ (.bool false) = w2 at *
  go_quiet (fail)
  go_wp2
  refine bodyPost_ret (v := .tuple #[.bool true, .bool true, .bool false]) (by simp [results, Try.results27, go_sem]) rfl ?_
  exact ⟨rfl, (HQ.out.drewN _).nowC (now + 1), (HK.out.drewN _).setCell (p := ⟨gr, 0, none⟩) (.inl (by simp)) _⟩

set_option maxHeartbeats 2000000 in
theorem rdo6n (h : ReB w gr gp gs gv n now pins T) (k : Nat) (hk : k < n) (he : now ≠ s) (hT : T k = ⟨true, true, (n : Int) + 1, s⟩) :
    Calls Try.prog 27 #[.pointer (some ⟨gr, 0, none⟩), .int .i64 k] w fun e w' => e = .returned (.tuple #[.bool true, .bool false, .bool false]) ∧ ReB w' gr gp gs gv n now pins (upE T k ⟨false, true, (n : Int) + 1, s⟩) ∧ Keep [gr, gp, gs] w w' := by
  have c0 : w.cell? ⟨gr, 0, none⟩ = some (.int .i64 now) := h.st.cell 0
  have c1 : w.cell? ⟨gr, 1, none⟩ = some (.slice (some ⟨gp, 0, none⟩) n n) := h.st.cell 1
  have c2 : w.cell? ⟨gr, 2, none⟩ = some (.slice (some ⟨gs, 0, none⟩) n n) := h.st.cell 2
  have fr := h.st.frozen 0
  obtain ⟨a0, a1, a2, a3⟩ := h.sc k hk
  rw [hT] at a0 a1 a2 a3
  simp only at a0 a1 a2 a3
  have f0 := h.free (k * 4)
  have f2 := h.free (k * 4 + 2)
  have f3 := h.free (k * 4 + 3)
  have hn2 := h.n2
  have i0 : (k : Int) < (n : Int) := by omega
  obtain ⟨ne1, ne2, ne3⟩ := h.ne
  have H := Lib.hid h
  have HT := Lib.hid hT
  have lts : gs < w.heap.size := by obtain ⟨cs, hb⟩ := h.sb; exact hb.lt
  have ltp : gp < w.heap.size := h.pin.lt
  have e1 : ((n : Int) + 1 == 0) = false := by simp; omega
  have e2 : decide ((n : Int) + 1 ≤ (n : Int)) = false := decide_eq_false (by omega)
  have d1 : (now == s) = false := by simp [he]
  clear he
  clear h hT
  go_enter Try.func27, Try.ntmps27
  go_upto_region 23 with fail
  go_quiet (fail)
  go_upto_region 17 with fail
  have HQ := Lib.hid (show ReB ((w.drewN nq).setCell ⟨gs, k * 4, none⟩ (.bool false)) gr gp gs gv n now pins (upE T k ⟨false, true, (n : Int) + 1, s⟩) from (H.out.drewN nq).stepC k hk 0 (by omega) (.bool false) ⟨false, true, (n : Int) + 1, s⟩ (by simp) (by simp) (by simp) (by simp) (by simp) (fun _ => by first | (rw [HT.out]; done) | (rw [HT.out]; rfl)) (fun _ => by first | (rw [HT.out]; done) | (rw [HT.out]; rfl)) (fun _ => by first | (rw [HT.out]; done) | (rw [HT.out]; rfl)))
  have HK := Lib.hid ((((Keep.refl [gr, gp, gs] w).drewN nq).setCell (p := ⟨gs, k * 4, none⟩) (.inl (by simp)) (.bool false)))
  have b0 := HQ.out.st.cell 0
  have bf := HQ.out.st.frozen 0
  obtain ⟨b1, b2, b3, b4⟩ := HQ.out.sc k hk
  rw [upE_same] at b1 b2 b3 b4
  clear c0 c1 c2 fr a0 a1 a2 a3 f0 f2 f3
  simp only [List.getElem?_toArray, List.getElem?_cons_zero] at b0
  generalize (w.drewN nq).setCell ⟨gs, k * 4, none⟩ (.bool false) = w2 at *
  go_quiet (fail)
  go_wp2
  refine bodyPost_ret (v := .tuple #[.bool true, .bool false, .bool false]) (by simp [results, Try.results27, go_sem]) rfl ?_
  exact ⟨rfl, HQ.out.drewN _, HK.out.drewN _⟩
end
end Go.Proofs.Ythkmpcfjeclejaa
