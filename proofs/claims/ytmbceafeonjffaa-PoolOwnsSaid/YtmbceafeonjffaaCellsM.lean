/-
  Contracts of the methods of package cells (but Once). Conditions stand in each theorem.
-/
import Derived.Test.YtmbceafeonjffaaCells
namespace Go.Proofs.Ytmbceafeonjffaa
open Go.RowKit Plain
set_option linter.unusedVariables false
set_option maxRecDepth 100000

section
variable {w : World} {gc gn n : Nat} {l : List Int}
theorem size_any (h : Cl w gc gn n l) :
    Calls Try.prog 39 #[.pointer (some ⟨gc, 0, none⟩)] w fun e w' => e = .returned (.int .i64 n) ∧ w = w' := by
  have h0 := h.st.cell 0
  simp only [List.getElem?_toArray, List.getElem?_cons_zero] at h0
  go_enter Try.func39, Try.ntmps39
  go_wp2
  go_ret
  exact ⟨rfl, rfl⟩
theorem size_nil (w : World) :
    Calls Try.prog 39 #[.pointer none] w fun e w' => e = .returned (.int .i64 0) ∧ w = w' := by
  go_enter Try.func39, Try.ntmps39
  go_wp2
  go_ret
  exact ⟨rfl, rfl⟩
/-- is there such a place? -/
def inC (n : Nat) (i : Int) : Bool := decide (0 ≤ i ∧ i < (n : Int))
theorem has_any (h : Cl w gc gn n l) (i : Int) :
    Calls Try.prog 58 #[.pointer (some ⟨gc, 0, none⟩), .int .i64 i] w fun e w' => e = .returned (.bool (inC n i)) ∧ w = w' := by
  have H := Lib.hid h
  clear h
  by_cases h0 : 0 ≤ i
  · have e : inC n i = decide (i < (n : Int)) := by unfold inC; simp [h0]
    have e0 : decide (0 ≤ i) = true := by simpa using h0
    rw [e]
    clear e
    go_enter Try.func58, Try.ntmps58
    go_wp2_with (go_at_call 39; refine (size_any H.out).mono ?_; rintro e w' ⟨rfl, rfl⟩)
    go_ret
    exact ⟨rfl, rfl⟩
  · have e : inC n i = false := by unfold inC; simp; omega
    have e0 : decide (0 ≤ i) = false := by simpa using h0
    rw [e]
    clear e
    go_enter Try.func58, Try.ntmps58
    go_wp2
    go_ret
    exact ⟨rfl, rfl⟩
theorem has_nil (i : Int) (w : World) :
    Calls Try.prog 58 #[.pointer none, .int .i64 i] w fun e w' => e = .returned (.bool false) ∧ w = w' := by
  by_cases h0 : 0 ≤ i
  · have e0 : decide (0 ≤ i) = true := by simpa using h0
    have e1 : decide (i < 0) = false := by simp; omega
    go_enter Try.func58, Try.ntmps58
    go_wp2_with (go_at_call 39; refine (size_nil _).mono ?_; rintro e w' ⟨rfl, rfl⟩)
    go_ret
    exact ⟨rfl, rfl⟩
  · have e0 : decide (0 ≤ i) = false := by simpa using h0
    go_enter Try.func58, Try.ntmps58
    go_wp2
    go_ret
    exact ⟨rfl, rfl⟩
theorem inC_nat {i : Nat} (hi : i < n) : inC n (i : Int) = true := by unfold inC; simp; omega

theorem load_any (h : Cl w gc gn n l) (i : Nat) (hi : i < n) :
    Calls Try.prog 63 #[.pointer (some ⟨gc, 0, none⟩), .int .i64 i] w fun e w' => e = .returned (.int .u64 (l.getD i 0)) ∧ w = w' := by
  have h0 := h.st.cell 0
  simp only [List.getElem?_toArray, List.getElem?_cons_zero] at h0
  have hi' : (i : Int) < (n : Int) := by omega
  have H := Lib.hid h
  clear h
  go_enter Try.func63, Try.ntmps63
  go_wp2_with (first | (go_at_call 58; refine (has_any H.out _).mono ?_; rintro e w' ⟨rfl, rfl⟩; rw [inC_nat hi]) | (go_at_call 82; refine (aload gn _ _ _ (H.out.at hi)).mono ?_; rintro e w' ⟨rfl, rfl⟩))
  go_ret
  exact ⟨rfl, rfl⟩
theorem load_out (h : Cl w gc gn n l) (i : Int) (hi : inC n i = false) :
    Calls Try.prog 63 #[.pointer (some ⟨gc, 0, none⟩), .int .i64 i] w fun e w' => e = .returned (.int .u64 0) ∧ w = w' := by
  have H := Lib.hid h
  clear h
  go_enter Try.func63, Try.ntmps63
  go_wp2_with (go_at_call 58; refine (has_any H.out _).mono ?_; rintro e w' ⟨rfl, rfl⟩; rw [hi])
  go_ret
  exact ⟨rfl, rfl⟩
theorem load_nil (i : Int) (w : World) :
    Calls Try.prog 63 #[.pointer none, .int .i64 i] w fun e w' => e = .returned (.int .u64 0) ∧ w = w' := by
  go_enter Try.func63, Try.ntmps63
  go_wp2_with (go_at_call 58; refine (has_nil _ _).mono ?_; rintro e w' ⟨rfl, rfl⟩)
  go_ret
  exact ⟨rfl, rfl⟩

theorem store_any (h : Cl w gc gn n l) (i : Nat) (hi : i < n) (y : Int) :
    Calls Try.prog 40 #[.pointer (some ⟨gc, 0, none⟩), .int .i64 i, .int .u64 y] w fun e w' => e = .returned (.tuple #[]) ∧ w' = w.setCell ⟨gn, i, none⟩ (.int .u64 y) := by
  have h0 := h.st.cell 0
  simp only [List.getElem?_toArray, List.getElem?_cons_zero] at h0
  have hi' : (i : Int) < (n : Int) := by omega
  have H := Lib.hid h
  clear h
  go_enter Try.func40, Try.ntmps40
  go_wp2_with (first | (go_at_call 58; refine (has_any H.out _).mono ?_; rintro e w' ⟨rfl, rfl⟩; rw [inC_nat hi]) | (go_at_call 59; refine (astore gn _ _ _ _ (H.out.at hi) (H.out.free _)).mono ?_; rintro e w' ⟨rfl, rfl⟩))
  go_end0
  exact ⟨rfl, rfl⟩
theorem store_out (h : Cl w gc gn n l) (i : Int) (hi : inC n i = false) (y : Int) :
    Calls Try.prog 40 #[.pointer (some ⟨gc, 0, none⟩), .int .i64 i, .int .u64 y] w fun e w' => e = .returned (.tuple #[]) ∧ w = w' := by
  have H := Lib.hid h
  clear h
  go_enter Try.func40, Try.ntmps40
  go_wp2_with (go_at_call 58; refine (has_any H.out _).mono ?_; rintro e w' ⟨rfl, rfl⟩; rw [hi])
  go_end0
  exact ⟨rfl, rfl⟩
theorem store_nil (i y : Int) (w : World) :
    Calls Try.prog 40 #[.pointer none, .int .i64 i, .int .u64 y] w fun e w' => e = .returned (.tuple #[]) ∧ w = w' := by
  go_enter Try.func40, Try.ntmps40
  go_wp2_with (go_at_call 58; refine (has_nil _ _).mono ?_; rintro e w' ⟨rfl, rfl⟩)
  go_end0
  exact ⟨rfl, rfl⟩

theorem cas_hit (h : Cl w gc gn n l) (i : Nat) (hi : i < n) (y : Int) :
    Calls Try.prog 65 #[.pointer (some ⟨gc, 0, none⟩), .int .i64 i, .int .u64 (l.getD i 0), .int .u64 y] w fun e w' => e = .returned (.bool true) ∧ w' = w.setCell ⟨gn, i, none⟩ (.int .u64 y) := by
  have h0 := h.st.cell 0
  simp only [List.getElem?_toArray, List.getElem?_cons_zero] at h0
  have hi' : (i : Int) < (n : Int) := by omega
  have H := Lib.hid h
  clear h
  go_enter Try.func65, Try.ntmps65
  go_wp2_with (first | (go_at_call 58; refine (has_any H.out _).mono ?_; rintro e w' ⟨rfl, rfl⟩; rw [inC_nat hi]) | (go_at_call 83; refine (acas_hit gn _ _ _ _ (H.out.at hi) (H.out.free _)).mono ?_; rintro e w' ⟨rfl, rfl⟩))
  go_ret
  exact ⟨rfl, rfl⟩
theorem cas_miss (h : Cl w gc gn n l) (i : Nat) (hi : i < n) (o y : Int) (hne : ¬ l.getD i 0 = o) :
    Calls Try.prog 65 #[.pointer (some ⟨gc, 0, none⟩), .int .i64 i, .int .u64 o, .int .u64 y] w fun e w' => e = .returned (.bool false) ∧ w = w' := by
  have h0 := h.st.cell 0
  simp only [List.getElem?_toArray, List.getElem?_cons_zero] at h0
  have hi' : (i : Int) < (n : Int) := by omega
  have H := Lib.hid h
  have HN := Lib.hid hne
  clear h hne
  go_enter Try.func65, Try.ntmps65
  go_wp2_with (first | (go_at_call 58; refine (has_any H.out _).mono ?_; rintro e w' ⟨rfl, rfl⟩; rw [inC_nat hi]) | (go_at_call 83; refine (acas_miss gn _ _ _ _ _ (H.out.at hi) (H.out.free _) HN.out).mono ?_; rintro e w' ⟨rfl, rfl⟩))
  go_ret
  exact ⟨rfl, rfl⟩
theorem cas_yes (h : Cl w gc gn n l) (i : Nat) (hi : i < n) (o y : Int) (he : l.getD i 0 = o) :
    Calls Try.prog 65 #[.pointer (some ⟨gc, 0, none⟩), .int .i64 i, .int .u64 o, .int .u64 y] w fun e w' => e = .returned (.bool true) ∧ w' = w.setCell ⟨gn, i, none⟩ (.int .u64 y) := by
  subst he; exact cas_hit h i hi y
theorem cas_out (h : Cl w gc gn n l) (i : Int) (hi : inC n i = false) (o y : Int) :
    Calls Try.prog 65 #[.pointer (some ⟨gc, 0, none⟩), .int .i64 i, .int .u64 o, .int .u64 y] w fun e w' => e = .returned (.bool false) ∧ w = w' := by
  have H := Lib.hid h
  clear h
  go_enter Try.func65, Try.ntmps65
  go_wp2_with (go_at_call 58; refine (has_any H.out _).mono ?_; rintro e w' ⟨rfl, rfl⟩; rw [hi])
  go_ret
  exact ⟨rfl, rfl⟩
theorem cas_nil (i o y : Int) (w : World) :
    Calls Try.prog 65 #[.pointer none, .int .i64 i, .int .u64 o, .int .u64 y] w fun e w' => e = .returned (.bool false) ∧ w = w' := by
  go_enter Try.func65, Try.ntmps65
  go_wp2_with (go_at_call 58; refine (has_nil _ _).mono ?_; rintro e w' ⟨rfl, rfl⟩)
  go_ret
  exact ⟨rfl, rfl⟩

theorem load_eq (h : Cl w gc gn n l) (i : Nat) (hi : i < n) (x : Int) (hx : l.getD i 0 = x) :
    Calls Try.prog 63 #[.pointer (some ⟨gc, 0, none⟩), .int .i64 i] w fun e w' => e = .returned (.int .u64 x) ∧ w = w' := by
  subst hx; exact load_any h i hi
theorem m64_u (x : Int) : U64 (m64 x) := by unfold m64 U64; omega
end
end Go.Proofs.Ytmbceafeonjffaa
