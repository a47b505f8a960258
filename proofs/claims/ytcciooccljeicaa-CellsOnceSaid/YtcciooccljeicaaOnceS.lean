/-
  sync.Once in one goroutine, as package cells uses it: the slow road, and Do twice. Conditions stand in each theorem.
-/
import Derived.Test.YtcciooccljeicaaOnce
namespace Go.Proofs.Ytcciooccljeicaa
open Go.RowKit Plain
set_option linter.unusedVariables false
set_option maxRecDepth 100000

set_option maxHeartbeats 4000000 in
/-- the slow road: not yet done, the lock free -/
theorem slow_any (gc gf g0 : Nat) (x : Int) (hx : 0 ≤ x ∧ x ≤ 1000) (w : World) (n1 : gf ≠ gc) (n2 : g0 ≠ gc)
    (hp : w.cell? ⟨gf, 0, none⟩ = some (.func (.func 12) #[] #[.pointer (some ⟨g0, 0, none⟩)]))
    (h0 : w.cell? ⟨gc, 1, none⟩ = some (.int .u32 0)) (h1 : w.cell? ⟨gc, 2, none⟩ = some (.int .i32 0)) (h3 : w.cell? ⟨g0, 0, none⟩ = some (.int .i64 x))
    (f0 : w.frozen? ⟨gc, 1, none⟩ = false) (f1 : w.frozen? ⟨gc, 2, none⟩ = false) (f3 : w.frozen? ⟨g0, 0, none⟩ = false) :
    Calls Try.prog 36 #[.pointer (some ⟨gc, 1, none⟩), .func (.func 22) #[] #[.pointer (some ⟨gf, 0, none⟩)]] w fun e w' => e = .returned (.tuple #[]) ∧
      w' = (((w.setCell ⟨gc, 2, none⟩ (.int .i32 1)).setCell ⟨g0, 0, none⟩ (.int .i64 (x + 1))).drew.setCell ⟨gc, 1, none⟩ (.int .u32 1)).setCell ⟨gc, 2, none⟩ (.int .i32 0) := by
  have ng : ∀ (a b i j : Nat), a ≠ b → (⟨a, i, none⟩ : Addr) ≠ ⟨b, j, none⟩ := fun a b i j h e => h (congrArg Addr.block e)
  have h01 : (w.setCell ⟨gc, 2, none⟩ (.int .i32 1)).cell? ⟨gc, 1, none⟩ = some (.int .u32 0) := (World.cell?_setCell_other _ ⟨gc, 2, none⟩ ⟨gc, 1, none⟩ _ (by simp)).trans h0
  have hl := run_call_load (P := Try.prog) Try.func56 (by kernel_rfl) (by kernel_rfl) (by kernel_rfl) .u32 (by kernel_rfl) (w := w.setCell ⟨gc, 2, none⟩ (.int .i32 1)) (a := ⟨gc, 1, none⟩) (x := 0) h01
  have hp1 : (w.setCell ⟨gc, 2, none⟩ (.int .i32 1)).cell? ⟨gf, 0, none⟩ = some (.func (.func 12) #[] #[.pointer (some ⟨g0, 0, none⟩)]) := (World.cell?_setCell_other _ ⟨gc, 2, none⟩ ⟨gf, 0, none⟩ _ (ng _ _ _ _ (Ne.symm n1))).trans hp
  have h31 : (w.setCell ⟨gc, 2, none⟩ (.int .i32 1)).cell? ⟨g0, 0, none⟩ = some (.int .i64 x) := (World.cell?_setCell_other _ ⟨gc, 2, none⟩ ⟨g0, 0, none⟩ _ (ng _ _ _ _ (Ne.symm n2))).trans h3
  have f31 : (w.setCell ⟨gc, 2, none⟩ (.int .i32 1)).frozen? ⟨g0, 0, none⟩ = false := by simp [f3]
  have hnot : ∀ (x : Bool) (w : World), (Op.unary .not (.bool x)).run Try.prog w = .ok (.bool (!x)) w := fun _ _ => rfl
  have HQ := Lib.hid (once1_any ⟨gf, 0, none⟩ ⟨g0, 0, none⟩ x hx _ hp1 h31 f31)
  go_enter_defers Try.func36, Try.ntmps36
  go_wp2_with (first | (go_at_call 57; refine (lock_free ⟨gc, 2, none⟩ _ (by go_simp) (by go_simp)).mono ?_; rintro e w' ⟨rfl, rfl⟩) | (go_at_call 35; go_in) | (go_at_call 22; refine (HQ.out).mono ?_; rintro e w' ⟨rfl, rfl⟩))
  have e0 : (((w.setCell ⟨gc, 2, none⟩ (.int .i32 1)).setCell ⟨g0, 0, none⟩ (.int .i64 (x + 1))).cell? ⟨gc, 1, none⟩) = some (.int .u32 0) := (World.cell?_setCell_other _ ⟨g0, 0, none⟩ ⟨gc, 1, none⟩ _ (ng _ _ _ _ n2)).trans h01
  have e1 : (((w.setCell ⟨gc, 2, none⟩ (.int .i32 1)).setCell ⟨g0, 0, none⟩ (.int .i64 (x + 1))).drew.setCell ⟨gc, 1, none⟩ (.int .u32 1)).cell? ⟨gc, 2, none⟩ = some (.int .i32 1) := by
    refine (World.cell?_setCell_other _ ⟨gc, 1, none⟩ ⟨gc, 2, none⟩ _ (by simp)).trans ?_
    rw [World.cell?_drew]
    exact (World.cell?_setCell_other _ ⟨g0, 0, none⟩ ⟨gc, 2, none⟩ _ (ng _ _ _ _ n2)).trans (World.cell?_setCell_same w _ _ h1)
  refine leaves_cons (f := 59) (args := #[.pointer (some ⟨gc, 1, none⟩), .bool true]) (by simp) (by simp [go_sem]) ?_
  refine (storeB_deferred ⟨gc, 1, none⟩ (.int .u32 0) .returning _ e0 (by simp [f0])).mono ?_
  rintro e u' w'' ⟨rfl, rfl, rfl⟩
  refine leaves_cons (f := 58) (args := #[.pointer (some ⟨gc, 2, none⟩)]) (by simp [settle]) (by simp [go_sem]) ?_
  refine (unlock_deferred ⟨gc, 2, none⟩ _ _ e1 (by simp [f1])).mono ?_
  rintro e u' w'' ⟨rfl, rfl, rfl⟩
  simp [Leaves, settle, results, Try.results36]
/-- Do, not yet done -/
theorem do_first (gc gf g0 : Nat) (x : Int) (hx : 0 ≤ x ∧ x ≤ 1000) (w : World) (n1 : gf ≠ gc) (n2 : g0 ≠ gc)
    (hp : w.cell? ⟨gf, 0, none⟩ = some (.func (.func 12) #[] #[.pointer (some ⟨g0, 0, none⟩)]))
    (h0 : w.cell? ⟨gc, 1, none⟩ = some (.int .u32 0)) (h1 : w.cell? ⟨gc, 2, none⟩ = some (.int .i32 0)) (h3 : w.cell? ⟨g0, 0, none⟩ = some (.int .i64 x))
    (f0 : w.frozen? ⟨gc, 1, none⟩ = false) (f1 : w.frozen? ⟨gc, 2, none⟩ = false) (f3 : w.frozen? ⟨g0, 0, none⟩ = false) :
    Calls Try.prog 21 #[.pointer (some ⟨gc, 1, none⟩), .func (.func 22) #[] #[.pointer (some ⟨gf, 0, none⟩)]] w fun e w' => e = .returned (.tuple #[]) ∧
      w' = (((w.setCell ⟨gc, 2, none⟩ (.int .i32 1)).setCell ⟨g0, 0, none⟩ (.int .i64 (x + 1))).drew.setCell ⟨gc, 1, none⟩ (.int .u32 1)).setCell ⟨gc, 2, none⟩ (.int .i32 0) := by
  have hl := run_call_load (P := Try.prog) Try.func56 (by kernel_rfl) (by kernel_rfl) (by kernel_rfl) .u32 (by kernel_rfl) h0
  have hnot : ∀ (x : Bool) (w : World), (Op.unary .not (.bool x)).run Try.prog w = .ok (.bool (!x)) w := fun _ _ => rfl
  have HS := Lib.hid (slow_any gc gf g0 x hx w n1 n2 hp h0 h1 h3 f0 f1 f3)
  go_enter Try.func21, Try.ntmps21
  go_wp2_with (first | (go_at_call 36; refine (HS.out).mono ?_; rintro e w' ⟨rfl, rfl⟩) | (go_at_call 35; go_in))
  go_end0
  exact ⟨rfl, rfl⟩
/-- Do, done already -/
theorem do_done (a : Addr) (fv : Value) (w : World) (h0 : w.cell? a = some (.int .u32 1)) :
    Calls Try.prog 21 #[.pointer (some a), fv] w fun e w' => e = .returned (.tuple #[]) ∧ w' = w := by
  have hl := run_call_load (P := Try.prog) Try.func56 (by kernel_rfl) (by kernel_rfl) (by kernel_rfl) .u32 (by kernel_rfl) h0
  have hnot : ∀ (x : Bool) (w : World), (Op.unary .not (.bool x)).run Try.prog w = .ok (.bool (!x)) w := fun _ _ => rfl
  go_enter Try.func21, Try.ntmps21
  go_wp2
  go_end0
  exact ⟨rfl, rfl⟩
end Go.Proofs.Ytcciooccljeicaa
