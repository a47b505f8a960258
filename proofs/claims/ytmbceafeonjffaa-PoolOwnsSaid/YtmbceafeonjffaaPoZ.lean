/-
  Package pool: Do, one step of whatever was begun. Conditions stand in each theorem.
-/
import Derived.Test.YtmbceafeonjffaaPoY
namespace Go.Proofs.Ytmbceafeonjffaa
open Go.RowKit Plain
set_option linter.unusedVariables false
set_option linter.unusedSimpArgs false
set_option maxRecDepth 100000
set_option maxHeartbeats 2000000 in
theorem pdo_1 {w : World} {gp gs nx : Nat} {R : World → Prop} (c1 : w.cell? ⟨gs, 1, none⟩ = some (.int .i64 1)) (H : Calls Try.prog 46 #[.pointer (some ⟨gs, 0, none⟩)] w fun e w' => e = .returned (.tuple #[]) ∧ R w') (HR : ∀ w', R w' → w'.cell? ⟨gs, 1, none⟩ = some (.int .i64 nx)) :
    Calls Try.prog 14 #[.pointer (some ⟨gp, 0, none⟩), .pointer (some ⟨gs, 0, none⟩)] w fun e w' => e = .returned (.bool ((nx : Int) == 0)) ∧ R w' := by
  have HH := Lib.hid H
  have HR := Lib.hid HR
  clear H
  go_enter Try.func14, Try.ntmps14
  go_wp2_with (go_at_call 46; refine (HH.out).mono ?_; rintro e w2 ⟨rfl, hr⟩; have k1 := HR.out _ hr; have HRR := Lib.hid hr; clear hr)
  go_ret
  exact ⟨rfl, HRR.out⟩
set_option maxHeartbeats 2000000 in
theorem pdo_2 {w : World} {gp gs nx : Nat} {R : World → Prop} (c1 : w.cell? ⟨gs, 1, none⟩ = some (.int .i64 2)) (H : Calls Try.prog 47 #[.pointer (some ⟨gs, 0, none⟩)] w fun e w' => e = .returned (.tuple #[]) ∧ R w') (HR : ∀ w', R w' → w'.cell? ⟨gs, 1, none⟩ = some (.int .i64 nx)) :
    Calls Try.prog 14 #[.pointer (some ⟨gp, 0, none⟩), .pointer (some ⟨gs, 0, none⟩)] w fun e w' => e = .returned (.bool ((nx : Int) == 0)) ∧ R w' := by
  have HH := Lib.hid H
  have HR := Lib.hid HR
  clear H
  go_enter Try.func14, Try.ntmps14
  go_wp2_with (go_at_call 47; refine (HH.out).mono ?_; rintro e w2 ⟨rfl, hr⟩; have k1 := HR.out _ hr; have HRR := Lib.hid hr; clear hr)
  go_ret
  exact ⟨rfl, HRR.out⟩
set_option maxHeartbeats 2000000 in
theorem pdo_3 {w : World} {gp gs nx : Nat} {R : World → Prop} (c1 : w.cell? ⟨gs, 1, none⟩ = some (.int .i64 3)) (H : Calls Try.prog 48 #[.pointer (some ⟨gs, 0, none⟩)] w fun e w' => e = .returned (.tuple #[]) ∧ R w') (HR : ∀ w', R w' → w'.cell? ⟨gs, 1, none⟩ = some (.int .i64 nx)) :
    Calls Try.prog 14 #[.pointer (some ⟨gp, 0, none⟩), .pointer (some ⟨gs, 0, none⟩)] w fun e w' => e = .returned (.bool ((nx : Int) == 0)) ∧ R w' := by
  have HH := Lib.hid H
  have HR := Lib.hid HR
  clear H
  go_enter Try.func14, Try.ntmps14
  go_wp2_with (go_at_call 48; refine (HH.out).mono ?_; rintro e w2 ⟨rfl, hr⟩; have k1 := HR.out _ hr; have HRR := Lib.hid hr; clear hr)
  go_ret
  exact ⟨rfl, HRR.out⟩
set_option maxHeartbeats 2000000 in
theorem pdo_4 {w : World} {gp gs nx : Nat} {R : World → Prop} (c1 : w.cell? ⟨gs, 1, none⟩ = some (.int .i64 4)) (H : Calls Try.prog 49 #[.pointer (some ⟨gs, 0, none⟩)] w fun e w' => e = .returned (.tuple #[]) ∧ R w') (HR : ∀ w', R w' → w'.cell? ⟨gs, 1, none⟩ = some (.int .i64 nx)) :
    Calls Try.prog 14 #[.pointer (some ⟨gp, 0, none⟩), .pointer (some ⟨gs, 0, none⟩)] w fun e w' => e = .returned (.bool ((nx : Int) == 0)) ∧ R w' := by
  have HH := Lib.hid H
  have HR := Lib.hid HR
  clear H
  go_enter Try.func14, Try.ntmps14
  go_wp2_with (go_at_call 49; refine (HH.out).mono ?_; rintro e w2 ⟨rfl, hr⟩; have k1 := HR.out _ hr; have HRR := Lib.hid hr; clear hr)
  go_ret
  exact ⟨rfl, HRR.out⟩
set_option maxHeartbeats 2000000 in
theorem pdo_5 {w : World} {gp gs nx : Nat} {R : World → Prop} (c1 : w.cell? ⟨gs, 1, none⟩ = some (.int .i64 5)) (H : Calls Try.prog 50 #[.pointer (some ⟨gs, 0, none⟩)] w fun e w' => e = .returned (.tuple #[]) ∧ R w') (HR : ∀ w', R w' → w'.cell? ⟨gs, 1, none⟩ = some (.int .i64 nx)) :
    Calls Try.prog 14 #[.pointer (some ⟨gp, 0, none⟩), .pointer (some ⟨gs, 0, none⟩)] w fun e w' => e = .returned (.bool ((nx : Int) == 0)) ∧ R w' := by
  have HH := Lib.hid H
  have HR := Lib.hid HR
  clear H
  go_enter Try.func14, Try.ntmps14
  go_wp2_with (go_at_call 50; refine (HH.out).mono ?_; rintro e w2 ⟨rfl, hr⟩; have k1 := HR.out _ hr; have HRR := Lib.hid hr; clear hr)
  go_ret
  exact ⟨rfl, HRR.out⟩
set_option maxHeartbeats 2000000 in
theorem pdo_0 {w : World} {gp gs : Nat} (c1 : w.cell? ⟨gs, 1, none⟩ = some (.int .i64 0)) :
    Calls Try.prog 14 #[.pointer (some ⟨gp, 0, none⟩), .pointer (some ⟨gs, 0, none⟩)] w fun e w' => e = .returned (.bool true) ∧ w = w' := by
  go_enter Try.func14, Try.ntmps14
  go_wp2
  go_ret
  exact ⟨rfl, rfl⟩
end Go.Proofs.Ytmbceafeonjffaa
