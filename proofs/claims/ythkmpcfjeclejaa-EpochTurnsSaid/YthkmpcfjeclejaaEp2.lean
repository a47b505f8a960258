/-
  Package epoch: Pin, Advance, Unpin. Conditions stand in each theorem.
-/
import Derived.Test.YthkmpcfjeclejaaEp
namespace Go.Proofs.Ythkmpcfjeclejaa
open Go.RowKit Plain
set_option linter.unusedVariables false
set_option maxRecDepth 100000

/-- a Step: what it does next, the epoch that was read, a cell, whether it won -/
def St (w : World) (gs gc : Nat) (nx ep ce : Int) (won : Bool) : Prop := Blk w gs 112 #[.pointer (some ⟨gc, 0, none⟩), .int .i64 nx, .int .u64 ep, .int .i64 ce, .bool won]

section
variable {w : World} {ge gc gn gg n : Nat} {l : List Int}
theorem eAdvance_any (h : EpB w ge gc gn gg n l) :
    Calls Try.prog 26 #[.pointer (some ⟨ge, 0, none⟩)] w fun e w' => e = .returned (.pointer (some ⟨w.heap.size, 0, none⟩)) ∧ St w' w.heap.size gc 4 0 1 false ∧ Below w.heap.size w w' := by
  have c0 := h.ptr
  have lg := h.es.lt
  have H := Lib.hid h
  clear h
  go_enter Try.func26, Try.ntmps26
  go_upto_region 3 with fail
  go_region_held3 (fun W => W.cell? ⟨ge, 0, none⟩ = some (.pointer (some ⟨gc, 0, none⟩)))
    (first | go_keep | assumption)
    (first | (go_at_call 56; refine (cellOf_any 0 (by omega) _).mono ?_; rintro e w' ⟨rfl, rfl⟩))
  go_wp2
  go_ret
  exact ⟨rfl, Blk.drew (Blk.new w _ _), (ball w _).drew⟩
theorem ePin_any (h : EpB w ge gc gn gg n l) (i : Nat) (hi : i < n) :
    Calls Try.prog 24 #[.pointer (some ⟨ge, 0, none⟩), .int .i64 i] w fun e w' => e = .returned (.pointer (some ⟨w.heap.size, 0, none⟩)) ∧ St w' w.heap.size gc 1 0 ((i + 1 : Nat) : Int) false ∧ Below w.heap.size w w' := by
  have c0 := h.ptr
  have lg := h.es.lt
  have hn2 := h.n2
  have H := Lib.hid h
  have HI := Lib.hid (inC_nat hi)
  clear h
  go_enter Try.func24, Try.ntmps24
  go_upto_region 3 with (go_at_call 54; refine (ehas_any H.out _).mono ?_; rintro e w' ⟨rfl, rfl⟩; rw [HI.out])
  go_region_held3 (fun W => W.cell? ⟨ge, 0, none⟩ = some (.pointer (some ⟨gc, 0, none⟩)))
    (first | go_keep | assumption)
    (first | (go_at_call 56; refine (cellOf_any i (by omega) _).mono ?_; rintro e w' ⟨rfl, rfl⟩))
  go_wp2
  go_ret
  exact ⟨rfl, Blk.drew (Blk.new w _ _), (ball w _).drew⟩
theorem eUnpin_any (h : EpB w ge gc gn gg n l) (i : Nat) (hi : i < n) :
    Calls Try.prog 11 #[.pointer (some ⟨ge, 0, none⟩), .int .i64 i] w fun e w' => e = .returned (.tuple #[]) ∧ EpB w' ge gc gn gg n (l.set (i + 1) 0) ∧ Keep [gn] w w' := by
  have c0 := h.ptr
  have hn2 := h.n2
  have hne := h.ne
  have H := Lib.hid h
  have HI := Lib.hid (inC_nat hi)
  have HS := Lib.hid (store_any (h.cl.drewN 1) (i + 1) (by omega) 0)
  clear h
  go_enter Try.func11, Try.ntmps11
  go_upto_region 1 with (go_at_call 54; refine (ehas_any H.out _).mono ?_; rintro e w' ⟨rfl, rfl⟩; rw [HI.out])
  go_region_held3 (fun W => W.cell? ⟨ge, 0, none⟩ = some (.pointer (some ⟨gc, 0, none⟩)))
    (first | go_keep | assumption | (exact (World.cell?_setCell_other _ _ _ _ (by simp <;> omega)).trans c0))
    (first | (go_at_call 56; refine (cellOf_any i (by omega) _).mono ?_; rintro e w' ⟨rfl, rfl⟩) | (go_at_call 55; refine (HS.out).mono ?_; rintro e w' ⟨rfl, hw⟩))
  go_wp2
  go_end0
  refine ⟨rfl, ?_, ?_⟩
  · first | exact (H.out.drewN 1).set (i + 1) 0 (by unfold U64; omega) | rw [hw]; exact (H.out.drewN 1).set (i + 1) 0 (by unfold U64; omega)
  · first | exact ((Keep.refl [gn] w).drewN 1).setCell (.inl (by simp)) _ | rw [hw]; exact ((Keep.refl [gn] w).drewN 1).setCell (.inl (by simp)) _

theorem St.keep {bs : List Nat} {w w' : World} {gs gc : Nat} {nx ep ce : Int} {won : Bool} (h : St w gs gc nx ep ce won) (hk : Keep bs w w') (hg : gs ∉ bs) : St w' gs gc nx ep ce won := hk.blk h hg
theorem EpB.other {w : World} {ge gc gn gg n gs : Nat} {l : List Int} (h : EpB w ge gc gn gg n l) (h1 : ge ≠ gs) (h2 : gc ≠ gs) (h3 : gn ≠ gs) (i : Nat) (v : Value) : EpB (w.setCell ⟨gs, i, none⟩ v) ge gc gn gg n l :=
  h.keep (bs := [gs]) ((Keep.refl _ _).setCell (.inl (by simp)) v) (by simpa using h1) (by simpa using h2) (by simpa using h3)
/-- what one step of a Step comes to: the cells, what is next, the epoch that was read, the cell, whether it won -/
def stepF (n : Nat) (l : List Int) (nx : Nat) (ep : Int) (ce : Nat) (won : Bool) : List Int × Nat × Int × Nat × Bool :=
  match nx with
  | 1 => (l, 2, l.getD 0 0, ce, won)
  | 2 => (l.set ce (m64 (ep + 1)), 3, ep, ce, won)
  | 3 => if l.getD 0 0 = ep then (l, 0, ep, ce, won) else (l, 1, ep, ce, won)
  | 4 => (l, 5, l.getD 0 0, ce, won)
  | 5 => if l.getD ce 0 ≠ 0 ∧ l.getD ce 0 ≠ m64 (ep + 1) then (l, 0, ep, ce + 1, won) else if n + 1 ≤ ce + 1 then (l, 6, ep, ce + 1, won) else (l, 5, ep, ce + 1, won)
  | 6 => if l.getD 0 0 = ep then (l.set 0 (m64 (ep + 1)), 0, ep, ce, true) else (l, 0, ep, ce, false)
  | _ => (l, nx, ep, ce, won)

set_option maxHeartbeats 1000000 in
theorem pin1_any {gs : Nat} {ep ce : Int} {won : Bool} (h : EpB w ge gc gn gg n l) (hs : St w gs gc 1 ep ce won) (n1 : ge ≠ gs) (n2 : gc ≠ gs) (n3 : gn ≠ gs) :
    Calls Try.prog 61 #[.pointer (some ⟨gs, 0, none⟩)] w fun e w' => e = .returned (.tuple #[]) ∧ EpB w' ge gc gn gg n l ∧ St w' gs gc 2 (l.getD 0 0) ce won ∧ Keep [gn, gs] w w' := by
  unfold St at hs
  have c0 : w.cell? ⟨gs, 0, none⟩ = some (.pointer (some ⟨gc, 0, none⟩)) := hs.cell 0
  have c1 : w.cell? ⟨gs, 1, none⟩ = some (.int .i64 1) := hs.cell 1
  have c2 : w.cell? ⟨gs, 2, none⟩ = some (.int .u64 ep) := hs.cell 2
  have f1 := hs.frozen 1
  have f2 := hs.frozen 2
  have H := Lib.hid h
  have HS := Lib.hid hs
  clear h hs
  go_enter Try.func61, Try.ntmps61
  go_wp2_with (go_at_call 51; refine (load_any H.out.cl 0 (by omega)).mono ?_; rintro e w' ⟨rfl, rfl⟩)
  go_end0
  exact ⟨rfl, (H.out.other n1 n2 n3 2 _).other n1 n2 n3 1 _, (HS.out.set 2 _).set 1 _, ((Keep.refl _ _).setCell (.inl (by simp)) _).setCell (.inl (by simp)) _⟩
set_option maxHeartbeats 1000000 in
theorem adv4_any {gs : Nat} {ep ce : Int} {won : Bool} (h : EpB w ge gc gn gg n l) (hs : St w gs gc 4 ep ce won) (n1 : ge ≠ gs) (n2 : gc ≠ gs) (n3 : gn ≠ gs) :
    Calls Try.prog 62 #[.pointer (some ⟨gs, 0, none⟩)] w fun e w' => e = .returned (.tuple #[]) ∧ EpB w' ge gc gn gg n l ∧ St w' gs gc 5 (l.getD 0 0) ce won ∧ Keep [gn, gs] w w' := by
  unfold St at hs
  have c0 : w.cell? ⟨gs, 0, none⟩ = some (.pointer (some ⟨gc, 0, none⟩)) := hs.cell 0
  have c1 : w.cell? ⟨gs, 1, none⟩ = some (.int .i64 4) := hs.cell 1
  have c2 : w.cell? ⟨gs, 2, none⟩ = some (.int .u64 ep) := hs.cell 2
  have f1 := hs.frozen 1
  have f2 := hs.frozen 2
  have H := Lib.hid h
  have HS := Lib.hid hs
  clear h hs
  go_enter Try.func62, Try.ntmps62
  go_wp2_with (go_at_call 51; refine (load_any H.out.cl 0 (by omega)).mono ?_; rintro e w' ⟨rfl, rfl⟩)
  go_end0
  exact ⟨rfl, (H.out.other n1 n2 n3 2 _).other n1 n2 n3 1 _, (HS.out.set 2 _).set 1 _, ((Keep.refl _ _).setCell (.inl (by simp)) _).setCell (.inl (by simp)) _⟩
end
end Go.Proofs.Ythkmpcfjeclejaa
