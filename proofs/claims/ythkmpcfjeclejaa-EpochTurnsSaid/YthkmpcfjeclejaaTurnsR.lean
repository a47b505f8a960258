/-
  EpochTurns: the state of its loop. Conditions stand in each theorem.
-/
import Derived.Test.YthkmpcfjeclejaaThm
import Derived.Test.YthkmpcfjeclejaaSn
import Derived.Test.YthkmpcfjeclejaaEpNil
import Derived.Test.YthkmpcfjeclejaaEpL
namespace Go.Proofs.Ythkmpcfjeclejaa
open Go.RowKit Go.Deep Plain
set_option linter.unusedVariables false
set_option maxRecDepth 100000

/-- which Steps go on -/
def actS (P : Nat → Option Nat) (S : Nat → Sv) (k : Nat) : Option Sv := (P k).map fun _ => S k
/-- who is pinned, in a row of bools -/
def PnB (w : World) (gq n : Nat) (pn : Nat → Bool) : Prop := (∃ cs, Blk w gq 4 cs) ∧ ∀ p, p < n → w.cell? ⟨gq, p, none⟩ = some (.bool (pn p))
/-- where all stand: the program's epochs, the document's, who was pinned when -/
structure TurnR (w : World) (ge gc gn gg gl gr gp gs gv gz gq n i : Nat) (l : List Int) (now : Int) (pins : List Int) (P : Nat → Option Nat) (S : Nat → Sv) (T : Nat → Tv) (G : Nat → List (Int × Int)) (V : Nat → Option (Nat × Nat)) (B : Nat → Nat → Bool) (pn : Nat → Bool) (wr : World) : Prop where
  ep : EpB wr ge gc gn gg n l
  st : Sts wr gl gc n P S
  gi : Gs wr w.heap.size gg n G
  re : ReB wr gr gp gs gv n now pins T
  th : Ts wr w.heap.size gv n G
  sn : Sn wr w.heap.size gz n 200 V B
  pb : PnB wr gq n pn
  qv : ∀ m g c, m < 200 → V m = some (g, c) → g ≠ gq
  bel : Below w.heap.size w wr
  sl : SimL n l now pins
  nw : 0 ≤ now ∧ now ≤ i
  lb : ∀ j, j < n → l.getD (j + 1) 0 ≤ now + 1
  sim : ∀ k, k < n → (P k = none → (T k).on = false) ∧ ∀ g, P k = some g → SimS n k (S k) (T k) ∧ w.heap.size ≤ g
  ok : PlOk n l now (actS P S)
  pin : ∀ p, p < n → pn p = true → ∃ a, PinAt n l now (actS P S) p a
  giv : ∀ k, k < n → Srt (G k) ∧ (G k).length ≤ i ∧ ∀ x, x ∈ G k → (0 ≤ x.2 ∧ x.2 ≤ now) ∧ ∃ m : Nat, x.1 = (m : Int) ∧ 1 ≤ m ∧ m ≤ i ∧ ∀ g, V m = some g → ∀ p, p < n → B m p = true → pn p = true ∧ l.getD (p + 1) 0 ≤ x.2 + 1
/-- nobody is pinned who was when a ripe thing was given up -/
theorem TurnR.ripe {w wr : World} {ge gc gn gg gl gr gp gs gv gz gq n i : Nat} {l : List Int} {now : Int} {pins : List Int} {P : Nat → Option Nat} {S : Nat → Sv} {T : Nat → Tv} {G : Nat → List (Int × Int)} {V : Nat → Option (Nat × Nat)} {B : Nat → Nat → Bool} {pn : Nat → Bool}
    (h : TurnR w ge gc gn gg gl gr gp gs gv gz gq n i l now pins P S T G V B pn wr) {k m p : Nat} (hk : k < n) (hp : p < n) {x : Int × Int} (hx : x ∈ G k) (hr : x.2 + 2 ≤ now) (hm : x.1 = (m : Int)) {g : Nat × Nat} (hv : V m = some g) : B m p = false := by
  cases hb : B m p
  · rfl
  · exfalso
    obtain ⟨_, m', hm', _, _, hc⟩ := (h.giv k hk).2.2 x hx
    obtain rfl : m' = m := by omega
    obtain ⟨h1, h2⟩ := hc g hv p hp hb
    obtain ⟨a, p1, p2, p3, p4, _, _⟩ := h.pin p hp h1
    omega
theorem made_bools (n : Nat) (w : World) : PnB (w.alloc (.cells (Array.replicate n (Value.bool false)) 4)) w.heap.size n (fun _ => false) := by
  have hb := Blk.new w 4 (Array.replicate n (Value.bool false))
  exact ⟨⟨_, hb⟩, fun p hp => by rw [hb.cell]; simp [hp]⟩
theorem made_since (base n : Nat) (w : World) : Sn (w.alloc (.cells (Array.replicate 200 (Value.slice none 0 0)) 43)) base w.heap.size n 200 (fun _ => none) (fun _ _ => false) := by
  have hb := Blk.new w 43 (Array.replicate 200 (Value.slice none 0 0))
  refine ⟨⟨_, hb⟩, fun i hi => ?_, fun i g c _ h => (by cases h), fun i j g c d _ _ h => (by cases h)⟩
  rw [hb.cell]
  simp [hi, slB]
theorem infoBo : (Try.prog.info? 4).map (fun i => (i.zero, i.size, i.bytes)) = some (some (.bool false), 1, 1) := by kernel_rfl
theorem infoBs : (Try.prog.info? 43).map (fun i => (i.zero, i.size, i.bytes)) = some (some (.slice none 0 0), 1, 24) := by kernel_rfl
theorem run_mkBo (n : Nat) (hn : n ≤ 64) (w : World) : (Instr.makeSlice 43 (.int .i64 n) (.int .i64 n)).run Try.prog w = .ok (.slice (some ⟨w.heap.size, 0, none⟩) n n) (w.alloc (.cells (Array.replicate n (Value.bool false)) 4)) := by
  obtain ⟨i, hi, hz, hs, hb⟩ := info_parts infoBo
  have h := run_make (P := Try.prog) w 43 4 i _ Try.underlying43 hi hz .i64 .i64 n n (by omega) (by omega) (by rw [hb]; omega) (by omega)
  have e1 : madeCells (Value.bool false).cells (n * 1) = Array.replicate n (Value.bool false) := by
    apply Array.ext'
    rw [show (Value.bool false).cells = #[Value.bool false] from rfl, toList_madeCells_one, Nat.mul_one]; simp
  rw [hs, Int.toNat_natCast, e1] at h
  exact h
theorem run_mkBs (w : World) : (Instr.makeSlice 42 (.int .i64 200) (.int .i64 200)).run Try.prog w = .ok (.slice (some ⟨w.heap.size, 0, none⟩) 200 200) (w.alloc (.cells (Array.replicate 200 (Value.slice none 0 0)) 43)) := by
  obtain ⟨i, hi, hz, hs, hb⟩ := info_parts infoBs
  have h := run_make (P := Try.prog) w 42 43 i _ Try.underlying42 hi hz .i64 .i64 200 200 (by omega) (by omega) (by rw [hb]; omega) (by omega)
  have e1 : madeCells (Value.slice none 0 0).cells (200 * 1) = Array.replicate 200 (Value.slice none 0 0) := by
    apply Array.ext'
    rw [show (Value.slice none 0 0).cells = #[Value.slice none 0 0] from rfl, toList_madeCells_one, Nat.mul_one]; simp
  rw [hs, show ((200 : Int).toNat) = 200 from rfl, e1] at h
  exact h
end Go.Proofs.Ythkmpcfjeclejaa
