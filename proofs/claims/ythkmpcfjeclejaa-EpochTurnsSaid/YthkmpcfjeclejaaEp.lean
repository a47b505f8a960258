/-
  Package epoch: the world's epoch and each worker's pin are cells; small calls. Conditions stand in each theorem.
-/
import Derived.Test.YthkmpcfjeclejaaCKeep
import Derived.Deep.RegionHeld3
namespace Go.Proofs.Ythkmpcfjeclejaa
open Go.RowKit Plain
set_option linter.unusedVariables false
set_option maxRecDepth 100000

/-- a call that leaves the world as it is, among draws -/
theorem quietB {f : FuncId} {args : Array Value} {w : World} {n : Nat} {v : Value} (h : Calls Try.prog f args (w.drewN n) fun e w' => e = .returned v ∧ w.drewN n = w') :
    Calls Try.prog f args (w.drewN n) fun e w' => e = .returned v ∧ ∃ m, w' = w.drewN m := h.mono fun _ _ ⟨he, hw⟩ => ⟨he, n, hw.symm⟩

/-- Epochs of n workers: the struct in block ge, its cells, the row of what was given up in block gg -/
structure EpB (w : World) (ge gc gn gg n : Nat) (l : List Int) : Prop where
  es : Blk w ge 102 #[.pointer (some ⟨gc, 0, none⟩), .slice (some ⟨gg, 0, none⟩) n n]
  cl : Cl w gc gn (n + 1) l
  n1 : 1 ≤ n
  n2 : n ≤ 64
  ne : ge ≠ gn
section
variable {w w' : World} {ge gc gn gg n : Nat} {l : List Int}
theorem EpB.below (h : EpB w ge gc gn gg n l) (hb : Below w.heap.size w w') : EpB w' ge gc gn gg n l := ⟨h.es.below hb, h.cl.below hb, h.n1, h.n2, h.ne⟩
theorem EpB.keep {bs : List Nat} (h : EpB w ge gc gn gg n l) (hk : Keep bs w w') (h1 : ge ∉ bs) (h2 : gc ∉ bs) (h3 : gn ∉ bs) : EpB w' ge gc gn gg n l := ⟨hk.blk h.es h1, h.cl.keep hk h2 h3, h.n1, h.n2, h.ne⟩
theorem EpB.drewN (h : EpB w ge gc gn gg n l) (q : Nat) : EpB (w.drewN q) ge gc gn gg n l := ⟨h.es, h.cl.drewN q, h.n1, h.n2, h.ne⟩
theorem EpB.set (h : EpB w ge gc gn gg n l) (i : Nat) (x : Int) (hx : U64 x) : EpB (w.setCell ⟨gn, i, none⟩ (.int .u64 x)) ge gc gn gg n (l.set i x) := ⟨h.es.ne (p := ⟨gn, i, none⟩) (Ne.symm h.ne) _, h.cl.set i x hx, h.n1, h.n2, h.ne⟩
theorem EpB.ptr (h : EpB w ge gc gn gg n l) : w.cell? ⟨ge, 0, none⟩ = some (.pointer (some ⟨gc, 0, none⟩)) := h.es.cell 0
theorem EpB.row (h : EpB w ge gc gn gg n l) : w.cell? ⟨ge, 1, none⟩ = some (.slice (some ⟨gg, 0, none⟩) n n) := h.es.cell 1

theorem ehas_any (h : EpB w ge gc gn gg n l) (i : Int) :
    Calls Try.prog 54 #[.pointer (some ⟨ge, 0, none⟩), .int .i64 i] w fun e w' => e = .returned (.bool (inC n i)) ∧ w = w' := by
  have c1 := h.row
  have H := Lib.hid h
  clear h
  by_cases h0 : 0 ≤ i
  · have e : inC n i = decide (i < (n : Int)) := by unfold inC; simp [h0]
    have e0 : decide (0 ≤ i) = true := by simpa using h0
    rw [e]
    clear e
    go_enter Try.func54, Try.ntmps54
    go_wp2
    go_ret
    exact ⟨rfl, rfl⟩
  · have e : inC n i = false := by unfold inC; simp; omega
    have e0 : decide (0 ≤ i) = false := by simpa using h0
    rw [e]
    clear e
    go_enter Try.func54, Try.ntmps54
    go_wp2
    go_ret
    exact ⟨rfl, rfl⟩
theorem ehas_nil (i : Int) (w : World) :
    Calls Try.prog 54 #[.pointer none, .int .i64 i] w fun e w' => e = .returned (.bool false) ∧ w = w' := by
  go_enter Try.func54, Try.ntmps54
  go_wp2
  go_ret
  exact ⟨rfl, rfl⟩
theorem cellOf_any (i : Nat) (hi : i ≤ 1000) (w : World) :
    Calls Try.prog 56 #[.int .i64 i] w fun e w' => e = .returned (.int .i64 ((i + 1 : Nat) : Int)) ∧ w = w' := by
  have e : (1 + (i : Int)) = ((i + 1 : Nat) : Int) := by omega
  have HE := Lib.hid e
  clear e
  go_enter Try.func56, Try.ntmps56
  go_wp2
  go_ret
  exact ⟨by rw [← HE.out]; rfl, rfl⟩
theorem enow_any (h : EpB w ge gc gn gg n l) :
    Calls Try.prog 57 #[.pointer (some ⟨ge, 0, none⟩)] w fun e w' => e = .returned (.int .u64 (l.getD 0 0)) ∧ w = w' := by
  have c0 := h.ptr
  have H := Lib.hid h
  clear h
  go_enter Try.func57, Try.ntmps57
  go_wp2_with (go_at_call 51; refine (load_any H.out.cl 0 (by omega)).mono ?_; rintro e w' ⟨rfl, rfl⟩)
  go_ret
  exact ⟨rfl, rfl⟩
theorem enow_nil (w : World) : Calls Try.prog 57 #[.pointer none] w fun e w' => e = .returned (.int .u64 0) ∧ w = w' := by
  go_enter Try.func57, Try.ntmps57
  go_wp2
  go_ret
  exact ⟨rfl, rfl⟩
theorem eNow_any (h : EpB w ge gc gn gg n l) (x : Nat) (hx : l.getD 0 0 = (x : Int)) (hx2 : x ≤ 1000000) :
    Calls Try.prog 13 #[.pointer (some ⟨ge, 0, none⟩)] w fun e w' => e = .returned (.int .i64 x) ∧ w = w' := by
  have H := Lib.hid h
  have HX := Lib.hid hx
  clear h hx
  go_enter Try.func13, Try.ntmps13
  go_wp2_with (go_at_call 57; refine (enow_any H.out).mono ?_; rintro e w' ⟨rfl, rfl⟩; rw [HX.out])
  go_ret
  exact ⟨rfl, rfl⟩
theorem ePinned_any (h : EpB w ge gc gn gg n l) (i : Nat) (hi : i < n) (x : Nat) (hx : l.getD (i + 1) 0 = (x : Int)) (hx2 : x ≤ 1000000) :
    Calls Try.prog 14 #[.pointer (some ⟨ge, 0, none⟩), .int .i64 i] w fun e w' => e = .returned (.int .i64 ((x : Int) - 1)) ∧ ∃ q, w' = w.drewN q := by
  have c0 := h.ptr
  have hn2 := h.n2
  have H := Lib.hid h
  have HX := Lib.hid hx
  have HI := Lib.hid (inC_nat hi)
  have HLD := Lib.hid (fun q => load_eq (h.cl.drewN q) (i + 1) (by omega) (x : Int) hx)
  clear h hx
  have w1 : IntKind.i64.wrap (x : Int) = (x : Int) := by rw [IntKind.wrap_i64]; omega
  have w2 : IntKind.i64.wrap ((x : Int) - 1) = (x : Int) - 1 := by rw [IntKind.wrap_i64]; omega
  go_enter Try.func14, Try.ntmps14
  go_upto_region 3 with (go_at_call 54; refine (ehas_any H.out _).mono ?_; rintro e w' ⟨rfl, rfl⟩; rw [HI.out])
  go_quiet ((first | (go_at_call 56; exact quietB (cellOf_any i (by omega) _)) | (go_at_call 51; exact quietB (HLD.out _))))
  go_wp2
  go_ret
  exact ⟨rfl, _, rfl⟩
theorem eWon_any {w : World} {gs : Nat} {a b c d : Value} {t : TypeId} {won : Bool} (h : Blk w gs t #[a, b, c, d, .bool won]) :
    Calls Try.prog 20 #[.pointer (some ⟨gs, 0, none⟩)] w fun e w' => e = .returned (.bool won) ∧ w = w' := by
  have c4 : w.cell? ⟨gs, 4, none⟩ = some (.bool won) := h.cell 4
  clear h
  go_enter Try.func20, Try.ntmps20
  go_wp2
  go_ret
  exact ⟨rfl, rfl⟩
end
end Go.Proofs.Ythkmpcfjeclejaa
