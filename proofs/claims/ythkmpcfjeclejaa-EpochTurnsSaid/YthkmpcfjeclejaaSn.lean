/-
  fanlightlaw07: who was pinned when something was given up: rows of bools; 'unpinned'. Conditions stand in each theorem.
-/
import Derived.Test.YthkmpcfjeclejaaRg
namespace Go.Proofs.Ythkmpcfjeclejaa
open Go.RowKit Go.Deep Plain
set_option linter.unusedVariables false
set_option maxRecDepth 100000

def slB (n : Nat) : Option (Nat × Nat) → Value
  | none => .slice none 0 0
  | some (g, c) => .slice (some ⟨g, 0, none⟩) n c
/-- m slots, each none or a row of n bools of its own -/
structure Sn (w : World) (base gz n m : Nat) (V : Nat → Option (Nat × Nat)) (B : Nat → Nat → Bool) : Prop where
  bl : ∃ cs, Blk w gz 43 cs
  cell : ∀ i, i < m → w.cell? ⟨gz, i, none⟩ = some (slB n (V i))
  row : ∀ i g c, i < m → V i = some (g, c) → base ≤ g ∧ n ≤ c ∧ c ≤ 9223372036854775807 ∧ (∃ cs, Blk w g 4 cs) ∧ ∀ p, p < n → w.cell? ⟨g, p, none⟩ = some (.bool (B i p))
  inj : ∀ i j g c d, i < m → j < m → V i = some (g, c) → V j = some (g, d) → i = j
/-- all blocks but its rows are as they were -/
def KeepS (m : Nat) (V : Nat → Option (Nat × Nat)) (w w' : World) : Prop :=
  w'.os = w.os ∧ w'.tape = w.tape ∧ w'.output = w.output ∧ w.heap.size ≤ w'.heap.size ∧ ∀ b, b < w.heap.size → (∀ i g c, i < m → V i = some (g, c) → b ≠ g) → w'.heap[b]? = w.heap[b]?
section
variable {w w' : World} {base gz n m : Nat} {V : Nat → Option (Nat × Nat)} {B : Nat → Nat → Bool}
theorem KeepS.refl (m : Nat) (V : Nat → Option (Nat × Nat)) (w : World) : KeepS m V w w := ⟨rfl, rfl, rfl, Nat.le_refl _, fun _ _ _ => rfl⟩
theorem KeepS.set (h : KeepS m V w w') {i g c : Nat} (hi : i < m) (hv : V i = some (g, c)) (p : Nat) (v : Value) : KeepS m V w (w'.setCell ⟨g, p, none⟩ v) :=
  ⟨h.1, h.2.1, h.2.2.1, by simpa [World.setCell] using h.2.2.2.1, fun b hb hn => (Below.heap_setCell w' ⟨g, p, none⟩ v b (fun e => hn i g c hi hv e)).trans (h.2.2.2.2 b hb hn)⟩
theorem KeepS.below {B0 : Nat} {w0 : World} (h : KeepS m V w w') (hb : Below B0 w0 w) (h0 : B0 ≤ w0.heap.size) (hv : ∀ i g c, i < m → V i = some (g, c) → B0 ≤ g) : Below B0 w0 w' :=
  ⟨h.1.trans hb.os, h.2.1.trans hb.tape, h.2.2.1.trans hb.output, Nat.le_trans hb.size h.2.2.2.1, fun b hlt => (h.2.2.2.2 b (Nat.lt_of_lt_of_le hlt (Nat.le_trans h0 hb.size)) (fun i g c hi hvi e => by have := hv i g c hi hvi; omega)).trans (hb.block b hlt)⟩
theorem Sn.put (h : Sn w base gz n m V B) {i g c : Nat} (hi : i < m) (hv : V i = some (g, c)) (p : Nat) (x : Bool) : Sn (w.setCell ⟨g, p, none⟩ (.bool x)) base gz n m V (fun j q => if j = i ∧ q = p then x else B j q) := by
  obtain ⟨cs, hb⟩ := h.bl
  obtain ⟨_, _, _, ⟨ds, hg⟩, _⟩ := h.row i g c hi hv
  have ne : gz ≠ g := blk_types hb hg (by decide)
  refine ⟨⟨cs, hb.ne (p := ⟨g, p, none⟩) (Ne.symm ne) _⟩, fun j hj => ?_, fun j b d hj hvj => ?_, h.inj⟩
  · rw [World.cell?_setCell_other _ _ _ _ (by intro e; injection e with e; exact ne e.symm)]; exact h.cell j hj
  · obtain ⟨a1, a2, a3, ⟨es, hbj⟩, a4⟩ := h.row j b d hj hvj
    by_cases e : j = i
    · subst e
      obtain ⟨rfl, rfl⟩ : b = g ∧ d = c := by rw [hv] at hvj; injection hvj with e; injection e with e1 e2; exact ⟨e1.symm, e2.symm⟩
      refine ⟨a1, a2, a3, ⟨_, hg.set p _⟩, fun q hq => ?_⟩
      by_cases eq : q = p
      · subst eq; rw [if_pos ⟨rfl, rfl⟩]; exact World.cell?_setCell_same _ _ _ (a4 q hq)
      · rw [if_neg (fun hh => eq hh.2), World.cell?_setCell_other _ _ _ _ (by intro e; injection e with _ e; exact eq e.symm)]; exact a4 q hq
    · have nb : b ≠ g := fun e2 => e (h.inj j i g d c hj hi (e2 ▸ hvj) hv)
      refine ⟨a1, a2, a3, ⟨es, hbj.ne (p := ⟨g, p, none⟩) (Ne.symm nb) _⟩, fun q hq => ?_⟩
      rw [if_neg (fun hh => e hh.1), World.cell?_setCell_other _ _ _ _ (by intro e2; injection e2 with e2; exact nb e2.symm)]; exact a4 q hq

/-- a worker is pinned no more -/
def clr (B : Nat → Nat → Bool) (k j : Nat) (i p : Nat) : Bool := if i < j ∧ p = k then false else B i p
set_option maxHeartbeats 4000000 in
theorem unpinned_any (h : Sn w base gz n m V B) (k : Nat) (hk : k < n) (hm : m ≤ 1000) (cz : Nat) :
    Calls Try.prog 25 #[.slice (some ⟨gz, 0, none⟩) m cz, .int .i64 k] w fun e w' => e = .returned (.tuple #[]) ∧ Sn w' base gz n m V (clr B k m) ∧ KeepS m V w w' := by
  have H := Lib.hid h
  clear h
  have HC0 := Lib.hid (show clr B k 0 = B from by funext i p; unfold clr; simp)
  go_enter Try.func25, Try.ntmps25
  go_wp2
  go_loopw [4] (fun s4 wr => ∃ j : Nat, s4 = .int .i64 j ∧ j ≤ m ∧ Sn wr base gz n m V (clr B k j) ∧ KeepS m V w wr) (fun j _ => m - (intOf j).toNat)
  case atStart => exact ⟨0, rfl, by omega, by rw [HC0.out]; exact H.out, KeepS.refl _ _ _⟩
  case round =>
    obtain ⟨j, rfl, hj, hs, hK⟩ := hrel
    have HS := Lib.hid hs
    have HK := Lib.hid hK
    clear hs hK H HC0
    by_cases hlt : j < m
    · have j0 : (j : Int) < (m : Int) := by omega
      have cj := HS.out.cell j hlt
      cases hv : V j with
      | none =>
        rw [hv] at cj
        have cj' : wr.cell? ⟨gz, j, none⟩ = some (.slice none 0 0) := cj
        have HS2 := Lib.hid (show Sn wr base gz n m V (clr B k (j + 1)) from ⟨HS.out.bl, HS.out.cell, fun i g c hi hvi => by
          obtain ⟨a1, a2, a3, a4, a5⟩ := HS.out.row i g c hi hvi
          have ne : i ≠ j := fun e => by rw [e, hv] at hvi; cases hvi
          refine ⟨a1, a2, a3, a4, fun p hp => ?_⟩
          rw [a5 p hp]
          unfold clr
          by_cases c1 : i < j ∧ p = k
          · rw [if_pos c1, if_pos ⟨by omega, c1.2⟩]
          · rw [if_neg c1, if_neg (fun hh => c1 ⟨by omega, hh.2⟩)], HS.out.inj⟩)
        clear cj HS hv
        go_wp2
        go_roundw
        case rel => exact ⟨j + 1, by go_num, by omega, HS2.out, HK.out⟩
        case measure => simp [intOf]; omega
      | some gc =>
        obtain ⟨g, c⟩ := gc
        rw [hv] at cj
        have cj' : wr.cell? ⟨gz, j, none⟩ = some (.slice (some ⟨g, 0, none⟩) n c) := cj
        obtain ⟨a1, a2, a3, ⟨ds, a4⟩, a5⟩ := HS.out.row j g c hlt hv
        have ck := a5 k hk
        have fk := a4.frozen k
        have n0 : (0 : Int) < (n : Int) := by omega
        have k0 : (k : Int) < (n : Int) := by omega
        have HS2 := Lib.hid (show Sn (wr.setCell ⟨g, k, none⟩ (.bool false)) base gz n m V (clr B k (j + 1)) from by
          have q := HS.out.put hlt hv k false
          have e : (fun i p => if i = j ∧ p = k then false else clr B k j i p) = clr B k (j + 1) := by
            funext i p
            unfold clr
            by_cases c1 : i < j ∧ p = k
            · rw [if_neg (by omega), if_pos c1, if_pos ⟨by omega, c1.2⟩]
            · by_cases c2 : i = j ∧ p = k
              · rw [if_pos c2, if_pos ⟨by omega, c2.2⟩]
              · rw [if_neg c2, if_neg c1, if_neg (fun hh => by rcases Nat.lt_or_ge i j with q | q
                                                               · exact c1 ⟨q, hh.2⟩
                                                               · exact c2 ⟨by omega, hh.2⟩)]
          rw [e] at q
          exact q)
        have HK2 := Lib.hid (HK.out.set hlt hv k (.bool false))
        clear cj HS hv a5 a4
        go_wp2
        go_roundw
        case rel => exact ⟨j + 1, by go_num, by omega, HS2.out, HK2.out⟩
        case measure => simp [intOf]; omega
    · obtain rfl : j = m := by omega
      go_wp2
      go_end0
      exact ⟨rfl, HS.out, HK.out⟩
end
end Go.Proofs.Ythkmpcfjeclejaa
