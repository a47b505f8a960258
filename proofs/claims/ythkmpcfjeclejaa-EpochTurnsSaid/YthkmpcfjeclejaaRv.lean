/-
  The document's epochs (fanlightref07): what was given up: Give, Waiting, Given. Conditions stand in each theorem.
-/
import Derived.Test.YthkmpcfjeclejaaRe
namespace Go.Proofs.Ythkmpcfjeclejaa
open Go.RowKit Go.Deep Plain
set_option linter.unusedVariables false
set_option maxRecDepth 100000

theorem infoTh : (Try.prog.info? 118).map (fun i => (i.zero, i.size, i.bytes)) = some (some (.agg #[.int .u64 0, .int .i64 0]), 2, 16) := by kernel_rfl
def thC (gs : List (Int × Int)) : List Value := gs.flatMap fun x => [.int .u64 x.1, .int .i64 x.2]
theorem thC_snoc (gs : List (Int × Int)) (x : Int × Int) : thC (gs ++ [x]) = thC gs ++ [.int .u64 x.1, .int .i64 x.2] := by unfold thC; simp
theorem thC_cons (x : Int × Int) (r : List (Int × Int)) : thC (x :: r) = Value.int .u64 x.1 :: Value.int .i64 x.2 :: thC r := rfl
theorem thC_len (gs : List (Int × Int)) : (thC gs).length = gs.length * 2 := by
  induction gs with
  | nil => rfl
  | cons x r ih => rw [thC_cons]; simp only [List.length_cons, ih]; omega
theorem thC_at (gs : List (Int × Int)) : ∀ i, i < gs.length → (thC gs)[i * 2]? = some (.int .u64 (gs.getD i default).1) ∧ (thC gs)[i * 2 + 1]? = some (.int .i64 (gs.getD i default).2) := by
  induction gs with
  | nil => intro i hi; simp at hi
  | cons x r ih =>
    intro i hi
    rw [thC_cons]
    cases i with
    | zero => exact ⟨rfl, rfl⟩
    | succ i =>
      have h := ih i (by simpa using hi)
      rw [show (i + 1) * 2 = i * 2 + 2 by omega]
      exact h

set_option maxHeartbeats 8000000 in
theorem rGive_any {w : World} {gr gp gs gv n base : Nat} {now : Int} {pins : List Int} {T : Nat → Tv} (h : ReB w gr gp gs gv n now pins T) (i : Nat) (hi : i < n) (what : Int) (A : Option Addr) (k c : Nat) (gl : List (Int × Int)) (hk : gl.length = k) (hkm : k ≤ 100000) (cs : Array Value) (hbg : Blk w gv 116 cs) (ci : w.cell? ⟨gv, i, none⟩ = some (.slice A k c)) (how : w.ownsRow base 118 2 (.slice A k c) k (thC gl)) (hbase : base ≤ w.heap.size)
    (hA : ∀ g, (Value.slice A k c).ownBlock = some g → g ≠ gr ∧ g ≠ gv) :
    Calls Try.prog 29 #[.pointer (some ⟨gr, 0, none⟩), .int .i64 i, .int .u64 what] w fun e w' => e = .returned (.tuple #[]) ∧ ∃ gx cap, w'.ownsRow base 118 2 (.slice (some ⟨gx, 0, none⟩) (k + 1) cap) (k + 1) (thC (gl ++ [(what, now)])) ∧ Blk w' gv 116 (cs.setIfInBounds i (.slice (some ⟨gx, 0, none⟩) (k + 1) cap)) ∧ Keep (gv :: ownL (.slice A k c)) w w' ∧ ((Value.slice A k c).ownBlock = some gx ∨ w.heap.size ≤ gx) := by
  have c0 : w.cell? ⟨gr, 0, none⟩ = some (.int .i64 now) := h.st.cell 0
  have c3 : w.cell? ⟨gr, 3, none⟩ = some (.slice (some ⟨gv, 0, none⟩) n n) := h.st.cell 3
  have hn2 := h.n2
  have i0 : (i : Int) < (n : Int) := by omega
  have fg := hbg.frozen i
  have HO := Lib.hid how
  obtain ⟨iD, hiD, hzD, hsD, hbD⟩ := info_parts infoTh
  have lg := hbg.lt
  have HBG := Lib.hid hbg
  have le := h.st.lt
  have HBE := Lib.hid h.st
  have ZE := Lib.hid (show some gr ≠ (Value.slice A k c).ownBlock from fun e => (hA gr e.symm).1 rfl)
  have ZN := Lib.hid (show some gv ≠ (Value.slice A k c).ownBlock from fun e => (hA gv e.symm).2 rfl)
  have a1 : ((w.drewN 1).alloc (.cells #[.int .u64 what, .int .i64 now] 118)).cell? ⟨gv, i, none⟩ = some (.slice A k c) := (World.cell?_alloc_lt (w.drewN 1) _ ⟨gv, i, none⟩ lg).trans ci
  have a2 : ((w.drewN 1).alloc (.cells #[.int .u64 what, .int .i64 now] 118)).cell? ⟨gr, 3, none⟩ = some (.slice (some ⟨gv, 0, none⟩) n n) := (World.cell?_alloc_lt (w.drewN 1) _ ⟨gr, 3, none⟩ le).trans c3
  have a3 : ((w.drewN 1).alloc (.cells #[.int .u64 what, .int .i64 now] 118)).cell? ⟨gr, 0, none⟩ = some (.int .i64 now) := (World.cell?_alloc_lt (w.drewN 1) _ ⟨gr, 0, none⟩ le).trans c0
  clear h hbg how
  go_enter Try.func29, Try.ntmps29
  go_upto_region 0 with fail
  go_region_law (first
    | (refine step_append_lies _ (by rfl) _ _ _ (by rfl) base 118 iD _ 2 16 Try.underlying116 hiD hzD hsD hbD rfl (by omega) (.slice A k c) k (thC gl) (by rfl) ((HO.out.drew).alloc _)
        ⟨w.heap.size, 0, none⟩ 1 1 [.int .u64 what, .int .i64 now] (by rfl) (by rfl) (World.news_of_block (cs := #[.int .u64 what, .int .i64 now]) (t := 118) (fr := (0, 0)) (heap_alloc_new (w.drewN 1) _)) (by simp [Value.oneCell'])
        (by omega) (by unfold maxLen; omega) (by omega) (by simp; omega) (w.heap.size + 1) (by simp) ?_; intro gx cap w1 hown1 hgrow hat hlt1; have bz : Blk w1 gv 116 cs := (hgrow.block gv (by simp; omega) ZN.out).trans (Blk.alloc (Blk.drewN HBG.out 1) _); have z1 := (bz.cell i).trans ((HBG.out.cell i).symm.trans ci); have z2 := bz.frozen i; have be := (hgrow.block gr (by simp; omega) ZE.out).trans (Blk.alloc (Blk.drewN HBE.out 1) _); have z3 := Blk.cell be 3; have z4 := Blk.cell be 0))
  all_goals
    have hgx : gv ≠ gx := by
      intro e
      rcases hat with hat | hat
      · exact (hA gx hat).2 e.symm
      · omega
    have HOW := Lib.hid (own_grown (own_below hown1 (Below.refl _ _)) (grown_setCell w1 gv i (.slice (some ⟨gx, 0, none⟩) (k + 1) cap)) (fun g1 h1 h2 => by
      simp [Value.ownBlock] at h1 h2
      omega))
    have HBF := Lib.hid (Blk.set bz i (.slice (some ⟨gx, 0, none⟩) (k + 1) cap))
    have HKF := Lib.hid ((((Keep.refl (gv :: ownL (.slice A k c)) w).drewN 1).alloc (.cells #[.int .u64 what, .int .i64 now] 118)).trans (((Keep.own hgrow).mono (fun x hx => List.mem_cons_of_mem _ hx)).setCell (p := ⟨gv, i, none⟩) (.inl (by simp)) (.slice (some ⟨gx, 0, none⟩) (k + 1) cap)))
    have HAT := Lib.hid (show (Value.slice A k c).ownBlock = some gx ∨ w.heap.size ≤ gx by
      rcases hat with hat | hat
      · exact .inl hat
      · exact .inr (by omega))
    clear hown1 hgrow hat bz be z1 z2 z3 z4 a1 a2 a3 ci c0 c3 fg
    generalize w1.setCell ⟨gv, i, none⟩ (.slice (some ⟨gx, 0, none⟩) (k + 1) cap) = w9 at *
    go_wp2
    go_end0
    exact ⟨rfl, gx, cap, by rw [thC_snoc]; exact HOW.out, HBF.out, HKF.out, HAT.out⟩
theorem rWaiting_any {w : World} {gr gp gs gv n : Nat} {now : Int} {pins : List Int} {T : Nat → Tv} (h : ReB w gr gp gs gv n now pins T) (i : Nat) (hi : i < n) (A : Option Addr) (k c : Nat) (ci : w.cell? ⟨gv, i, none⟩ = some (.slice A k c)) :
    Calls Try.prog 31 #[.pointer (some ⟨gr, 0, none⟩), .int .i64 i] w fun e w' => e = .returned (.int .i64 k) ∧ w = w' := by
  have c3 : w.cell? ⟨gr, 3, none⟩ = some (.slice (some ⟨gv, 0, none⟩) n n) := h.st.cell 3
  have hn2 := h.n2
  have i0 : (i : Int) < (n : Int) := by omega
  clear h
  go_enter Try.func31, Try.ntmps31
  go_wp2
  go_ret
  exact ⟨rfl, rfl⟩
end Go.Proofs.Ythkmpcfjeclejaa
