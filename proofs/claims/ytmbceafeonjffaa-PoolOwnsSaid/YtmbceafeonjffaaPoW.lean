/-
  Package pool: what is to be given back, and its next word. Conditions stand in each theorem.
-/
import Derived.Test.YtmbceafeonjffaaPoV
namespace Go.Proofs.Ytmbceafeonjffaa
open Go.RowKit Plain
set_option linter.unusedVariables false
set_option linter.unusedSimpArgs false
set_option maxRecDepth 100000
/-- what is to be given back reads as a list -/
def GiR (w : World) (gs : Nat) (gv : Value) (gi : List (Nat × Int)) : Prop :=
  ∃ A n c, gv = .slice A n c ∧ gi.length = n ∧ n ≤ c ∧ c ≤ 1000 ∧ (0 < n → ∃ gg off, A = some ⟨gg, off, none⟩ ∧ gg < w.heap.size ∧ gg ≠ gs ∧ ∀ i, i < n → w.cell? ⟨gg, off + i * 2, none⟩ = some (.int .i64 (gi.getD i (0, 0)).1) ∧ w.cell? ⟨gg, off + i * 2 + 1, none⟩ = some (.int .u32 (gi.getD i (0, 0)).2))
theorem GiR.keep {w w' : World} {gs : Nat} {gv : Value} {gi : List (Nat × Int)} (h : GiR w gs gv gi) {bs : List Nat} (hk : Keep bs w w') (hb : ∀ g, g ≠ gs → (∃ o v, w.cell? ⟨g, o, none⟩ = some (.int .u32 v)) → g ∉ bs) : GiR w' gs gv gi := by
  obtain ⟨A, n, c, e, h1, h2, h3, h4⟩ := h
  refine ⟨A, n, c, e, h1, h2, h3, fun hp => ?_⟩
  obtain ⟨gg, off, e2, hl, hne, hc⟩ := h4 hp
  have hn := hb gg hne ⟨_, _, (hc 0 hp).2⟩
  exact ⟨gg, off, e2, Nat.lt_of_lt_of_le hl hk.size, hne, fun i hi => ⟨(hk.cell (p := ⟨gg, off + i * 2, none⟩) hl hn).trans (hc i hi).1, (hk.cell (p := ⟨gg, off + i * 2 + 1, none⟩) hl hn).trans (hc i hi).2⟩⟩
theorem GiR.self {w w' : World} {gs : Nat} {gv : Value} {gi : List (Nat × Int)} (h : GiR w gs gv gi) (hk : Keep [gs] w w') : GiR w' gs gv gi := h.keep hk (fun g hg _ => by simpa using hg)
theorem GiR.below {w w' : World} {gs : Nat} {gv : Value} {gi : List (Nat × Int)} (h : GiR w gs gv gi) (hb : Below w.heap.size w w') : GiR w' gs gv gi := h.keep (Keep.of_below (bs := []) hb) (fun g _ _ => by simp)
set_option maxHeartbeats 2000000 in
theorem openGift_any {w : World} {gs gc : Nat} {A : Option Addr} {n c : Nat} {s : Ps} (hs : StP w gs gc (.slice A n c) s) :
    Calls Try.prog 43 #[.pointer (some ⟨gs, 0, none⟩)] w fun e w' => e = .returned (.tuple #[]) ∧ StP w' gs gc (.slice A n c) { s with nx := if n = 0 then 0 else 4 } ∧ w'.heap.size = w.heap.size ∧ Keep [gs] w w' := by
  have c1 := hs.c1
  have f1 := hs.free 1
  have c40 : (w.setCell ⟨gs, 1, none⟩ (.int .i64 0)).cell? ⟨gs, 40, none⟩ = some (.slice A n c) := (hs.nx 0).c40
  have c1' : (w.setCell ⟨gs, 1, none⟩ (.int .i64 0)).cell? ⟨gs, 1, none⟩ = some (.int .i64 0) := (hs.nx 0).c1
  have f1' : (w.setCell ⟨gs, 1, none⟩ (.int .i64 0)).frozen? ⟨gs, 1, none⟩ = false := (hs.nx 0).free 1
  have HS1 := Lib.hid (hs.nx 0)
  have HS2 := Lib.hid ((hs.nx 0).nx 4)
  have HK1 := Lib.hid ((Keep.refl [gs] w).setCell (p := ⟨gs, 1, none⟩) (.inl (by simp)) (.int .i64 ((0 : Nat) : Int)))
  have HK2 := Lib.hid (((Keep.refl [gs] w).setCell (p := ⟨gs, 1, none⟩) (.inl (by simp)) (.int .i64 ((0 : Nat) : Int))).setCell (p := ⟨gs, 1, none⟩) (.inl (by simp)) (.int .i64 ((4 : Nat) : Int)))
  clear hs
  by_cases hn : n = 0
  · have d : decide (0 < n) = false := decide_eq_false (by omega)
    have d' : decide ((0 : Int) < (n : Int)) = false := decide_eq_false (by omega)
    have HN := Lib.hid hn
    clear hn
    go_enter Try.func43, Try.ntmps43
    go_wp2
    go_end0
    exact ⟨rfl, (by have h := HS1.out; rw [HN.out] at h; exact h), by simp [World.setCell], HK1.out⟩
  · have d : decide (0 < n) = true := decide_eq_true (by omega)
    have d' : decide ((0 : Int) < (n : Int)) = true := decide_eq_true (by omega)
    have HN := Lib.hid hn
    clear hn
    go_enter Try.func43, Try.ntmps43
    go_wp2
    go_end0
    exact ⟨rfl, HS2.out, by simp [World.setCell], HK2.out⟩
set_option maxHeartbeats 2000000 in
theorem closeGift_any {w : World} {gs gc : Nat} {gv : Value} {s : Ps} (hs : StP w gs gc gv s) (hg : GiR w gs gv s.gi) (h0 : 0 < s.gi.length) :
    Calls Try.prog 66 #[.pointer (some ⟨gs, 0, none⟩)] w fun e w' => e = .returned (.tuple #[]) ∧ (∃ gv', StP w' gs gc gv' s.close ∧ GiR w' gs gv' s.close.gi) ∧ Keep [gs] w w' := by
  obtain ⟨A, n, c, rfl, hl, hnc, hc1, hcell⟩ := hg
  obtain ⟨gg, off, rfl, hgl, hne, hcell⟩ := hcell (by omega)
  have c40 := hs.c40
  have f40 := hs.free 40
  have hgi : s.close.gi = s.gi.drop 1 := rfl
  by_cases hc : c = 1
  · obtain rfl : n = 1 := by omega
    subst hc
    have HS1 := Lib.hid (hs.gi (.slice (some ⟨gg, off, none⟩) 0 0))
    have HOG := Lib.hid (openGift_any HS1.out)
    have HL := Lib.hid hl
    have HK1 := Lib.hid ((Keep.refl [gs] w).setCell (p := ⟨gs, 40, none⟩) (.inl (by simp)) (.slice (some ⟨gg, off, none⟩) 0 0))
    clear hs hcell hl
    go_enter Try.func66, Try.ntmps66
    go_wp2_with (go_at_call 43; refine (HOG.out).mono ?_; rintro e w2 ⟨rfl, h2, _, k2⟩)
    go_end0
    refine ⟨rfl, ⟨.slice (some ⟨gg, off, none⟩) 0 0, ⟨?_, h2.len⟩, ⟨some ⟨gg, off, none⟩, 0, 0, rfl, by rw [hgi, List.length_drop, HL.out], Nat.le_refl _, by omega, fun h => absurd h (by omega)⟩⟩, HK1.out.trans k2⟩
    have hb := h2.blk
    unfold Ps.close
    rw [if_pos (by rw [HL.out]; omega)]
    exact hb
  · have hc2 : ¬ 1 = c := fun h => hc h.symm
    have hc3 : (1 : Int) ≤ (c : Int) := by omega
    have hc4 : (1 : Int) ≤ (n : Int) := by omega
    have hn1 : 1 ≤ n := by omega
    have HS1 := Lib.hid (hs.gi (.slice (some ⟨gg, off + 2, none⟩) (n - 1) (c - 1)))
    have HOG := Lib.hid (openGift_any HS1.out)
    have HL := Lib.hid hl
    have HCE := Lib.hid hcell
    have HK1 := Lib.hid ((Keep.refl [gs] w).setCell (p := ⟨gs, 40, none⟩) (.inl (by simp)) (.slice (some ⟨gg, off + 2, none⟩) (n - 1) (c - 1)))
    clear hs hcell hl
    go_enter Try.func66, Try.ntmps66
    go_wp2_with (go_at_call 43; refine (HOG.out).mono ?_; rintro e w2 ⟨rfl, h2, _, k2⟩)
    go_end0
    have HK2 := HK1.out.trans k2
    have hdr : ∀ i, s.close.gi.getD i (0, 0) = s.gi.getD (i + 1) (0, 0) := fun i => by rw [hgi]; simp [List.getD, Nat.add_comm]
    refine ⟨rfl, ⟨.slice (some ⟨gg, off + 2, none⟩) (n - 1) (c - 1), ⟨?_, h2.len⟩, ⟨some ⟨gg, off + 2, none⟩, n - 1, c - 1, rfl, by rw [hgi, List.length_drop, HL.out], by omega, by omega, fun h => ⟨gg, off + 2, rfl, Nat.lt_of_lt_of_le hgl HK2.size, hne, fun i hi => ?_⟩⟩⟩, HK2⟩
    · have hb := h2.blk
      unfold Ps.close
      have e : (if s.gi.length ≤ 1 then (0 : Nat) else 4) = if n - 1 = 0 then 0 else 4 := by
        rw [HL.out]
        by_cases q : n ≤ 1
        · rw [if_pos q, if_pos (by omega)]
        · rw [if_neg q, if_neg (by omega)]
      rw [e]
      exact hb
    · have hnb : gg ∉ [gs] := by simpa using hne
      obtain ⟨q1, q2⟩ := HCE.out (i + 1) (by omega)
      have e1 : off + 2 + i * 2 = off + (i + 1) * 2 := by omega
      rw [hdr, e1]
      exact ⟨(HK2.cell (p := ⟨gg, off + (i + 1) * 2, none⟩) hgl hnb).trans q1, (HK2.cell (p := ⟨gg, off + (i + 1) * 2 + 1, none⟩) hgl hnb).trans q2⟩
end Go.Proofs.Ytmbceafeonjffaa
