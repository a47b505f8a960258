/-
  Several small texts in one: PoZ, PoA, PoP. Conditions stand in each theorem.
-/
import Derived.Test.YtmbceafeonjffaaGG
namespace Go.Proofs.Ytmbceafeonjffaa
open Go.RowKit Plain
set_option linter.unusedVariables false
set_option linter.unusedSimpArgs false
set_option maxRecDepth 100000
set_option maxHeartbeats 2000000 in
theorem pdo_1 {w : World} {gp gs nx : Nat} {R : World → Prop} (c1 : w.cell? ⟨gs, 1, none⟩ = some (.int .i64 1)) (H : Calls Try.prog 46 #[.pointer (some ⟨gs, 0, none⟩)] w fun e w' => e = .returned (.tuple #[]) ∧ R w') (HR : ∀ w', R w' → w'.cell? ⟨gs, 1, none⟩ = some (.int .i64 nx)) :
    Calls Try.prog 14 #[.pointer (some ⟨gp, 0, none⟩), .pointer (some ⟨gs, 0, none⟩)] w fun e w' => e = .returned (.bool ((nx : Int) == 0)) ∧ R w' := by
  have HH := Lib.hid H
  have HR := Lib.hid HR
  clear H
  go_enter Try.func14, Try.ntmps14
  go_wp2_with (go_at_call 46; refine (HH.out).mono ?_; rintro e w2 ⟨rfl, hr⟩; have k1 := HR.out _ hr; have HRR := Lib.hid hr; clear hr)
  go_ret
  exact ⟨rfl, HRR.out⟩
set_option maxHeartbeats 2000000 in
theorem pdo_2 {w : World} {gp gs nx : Nat} {R : World → Prop} (c1 : w.cell? ⟨gs, 1, none⟩ = some (.int .i64 2)) (H : Calls Try.prog 47 #[.pointer (some ⟨gs, 0, none⟩)] w fun e w' => e = .returned (.tuple #[]) ∧ R w') (HR : ∀ w', R w' → w'.cell? ⟨gs, 1, none⟩ = some (.int .i64 nx)) :
    Calls Try.prog 14 #[.pointer (some ⟨gp, 0, none⟩), .pointer (some ⟨gs, 0, none⟩)] w fun e w' => e = .returned (.bool ((nx : Int) == 0)) ∧ R w' := by
  have HH := Lib.hid H
  have HR := Lib.hid HR
  clear H
  go_enter Try.func14, Try.ntmps14
  go_wp2_with (go_at_call 47; refine (HH.out).mono ?_; rintro e w2 ⟨rfl, hr⟩; have k1 := HR.out _ hr; have HRR := Lib.hid hr; clear hr)
  go_ret
  exact ⟨rfl, HRR.out⟩
set_option maxHeartbeats 2000000 in
theorem pdo_3 {w : World} {gp gs nx : Nat} {R : World → Prop} (c1 : w.cell? ⟨gs, 1, none⟩ = some (.int .i64 3)) (H : Calls Try.prog 48 #[.pointer (some ⟨gs, 0, none⟩)] w fun e w' => e = .returned (.tuple #[]) ∧ R w') (HR : ∀ w', R w' → w'.cell? ⟨gs, 1, none⟩ = some (.int .i64 nx)) :
    Calls Try.prog 14 #[.pointer (some ⟨gp, 0, none⟩), .pointer (some ⟨gs, 0, none⟩)] w fun e w' => e = .returned (.bool ((nx : Int) == 0)) ∧ R w' := by
  have HH := Lib.hid H
  have HR := Lib.hid HR
  clear H
  go_enter Try.func14, Try.ntmps14
  go_wp2_with (go_at_call 48; refine (HH.out).mono ?_; rintro e w2 ⟨rfl, hr⟩; have k1 := HR.out _ hr; have HRR := Lib.hid hr; clear hr)
  go_ret
  exact ⟨rfl, HRR.out⟩
set_option maxHeartbeats 2000000 in
theorem pdo_4 {w : World} {gp gs nx : Nat} {R : World → Prop} (c1 : w.cell? ⟨gs, 1, none⟩ = some (.int .i64 4)) (H : Calls Try.prog 49 #[.pointer (some ⟨gs, 0, none⟩)] w fun e w' => e = .returned (.tuple #[]) ∧ R w') (HR : ∀ w', R w' → w'.cell? ⟨gs, 1, none⟩ = some (.int .i64 nx)) :
    Calls Try.prog 14 #[.pointer (some ⟨gp, 0, none⟩), .pointer (some ⟨gs, 0, none⟩)] w fun e w' => e = .returned (.bool ((nx : Int) == 0)) ∧ R w' := by
  have HH := Lib.hid H
  have HR := Lib.hid HR
  clear H
  go_enter Try.func14, Try.ntmps14
  go_wp2_with (go_at_call 49; refine (HH.out).mono ?_; rintro e w2 ⟨rfl, hr⟩; have k1 := HR.out _ hr; have HRR := Lib.hid hr; clear hr)
  go_ret
  exact ⟨rfl, HRR.out⟩
set_option maxHeartbeats 2000000 in
theorem pdo_5 {w : World} {gp gs nx : Nat} {R : World → Prop} (c1 : w.cell? ⟨gs, 1, none⟩ = some (.int .i64 5)) (H : Calls Try.prog 50 #[.pointer (some ⟨gs, 0, none⟩)] w fun e w' => e = .returned (.tuple #[]) ∧ R w') (HR : ∀ w', R w' → w'.cell? ⟨gs, 1, none⟩ = some (.int .i64 nx)) :
    Calls Try.prog 14 #[.pointer (some ⟨gp, 0, none⟩), .pointer (some ⟨gs, 0, none⟩)] w fun e w' => e = .returned (.bool ((nx : Int) == 0)) ∧ R w' := by
  have HH := Lib.hid H
  have HR := Lib.hid HR
  clear H
  go_enter Try.func14, Try.ntmps14
  go_wp2_with (go_at_call 50; refine (HH.out).mono ?_; rintro e w2 ⟨rfl, hr⟩; have k1 := HR.out _ hr; have HRR := Lib.hid hr; clear hr)
  go_ret
  exact ⟨rfl, HRR.out⟩
set_option maxHeartbeats 2000000 in
theorem pdo_0 {w : World} {gp gs : Nat} (c1 : w.cell? ⟨gs, 1, none⟩ = some (.int .i64 0)) :
    Calls Try.prog 14 #[.pointer (some ⟨gp, 0, none⟩), .pointer (some ⟨gs, 0, none⟩)] w fun e w' => e = .returned (.bool true) ∧ w = w' := by
  go_enter Try.func14, Try.ntmps14
  go_wp2
  go_ret
  exact ⟨rfl, rfl⟩
end Go.Proofs.Ytmbceafeonjffaa

namespace Go.Proofs.Ytmbceafeonjffaa
open Go.RowKit Plain
set_option linter.unusedVariables false
set_option linter.unusedSimpArgs false
set_option maxRecDepth 100000
/-- what Take begins -/
def TakeOk (n gc : Nat) (fr most : Int) (w : World) (e : Ending) (w' : World) : Prop :=
  ∃ wd mo : Nat, wd < n ∧ 1 ≤ mo ∧ mo ≤ 32 ∧ (∀ k : Nat, k < 1000000 → fr = k → wd = k % n) ∧ (∀ k : Nat, 1 ≤ k → k ≤ 32 → most = k → mo = k) ∧ e = .returned (.pointer (some ⟨w.heap.size, 0, none⟩)) ∧ StP w' w.heap.size gc (.slice none 0 0) ⟨1, wd, n, mo, List.replicate 32 0, 0, false, false, []⟩ ∧ Below w.heap.size w w'
set_option maxHeartbeats 2000000 in
theorem pTake_any {w : World} {gp gc gn n : Nat} {size : Int} {l : List Int} (h : PoS w gp gc gn n size l) (h1 : 1 ≤ n) (hn : n ≤ 32) (fr most : Int) (m0 : -9223372036854775808 ≤ most) (m1 : most ≤ 9223372036854775807) :
    Calls Try.prog 11 #[.pointer (some ⟨gp, 0, none⟩), .int .i64 fr, .int .i64 most] w (TakeOk n gc fr most w) := by
  have c0 : w.cell? ⟨gp, 0, none⟩ = some (.pointer (some ⟨gc, 0, none⟩)) := h.ps.cell 0
  have HCT := Lib.hid (pcount_any8 h)
  obtain ⟨K, hK, hKl⟩ := pickN fr (n : Int) (by omega) (by omega)
  have hKx : ∀ k : Nat, k < 1000000 → fr = k → K = k % n := fun k hk e => by
    subst e
    have e1 : IntKind.u64.wrap (k : Int) = (k : Int) := by rw [IntKind.wrap_u64]; omega
    rw [e1, Int.tmod_eq_emod_of_nonneg (by omega)] at hK
    have e2 : ((k : Int) % (n : Int)) = ((k % n : Nat) : Int) := by simp
    have e3 : k % n < n := Nat.mod_lt _ (by omega)
    rw [e2] at hK
    generalize k % n = r at *
    unfold wrap64 at hK
    omega
  have hw : IntKind.u64.wrap (n : Int) = (n : Int) := by rw [IntKind.wrap_u64]; omega
  have hnz : (n : Int) ≠ 0 := by omega
  have hnz' : n ≠ 0 := by omega
  have hnp : (0 : Int) < (n : Int) := by omega
  obtain ⟨mo, hmo⟩ : ∃ mo : Nat, (if 32 < (if most < 1 then (1 : Int) else most) then (32 : Int) else if most < 1 then 1 else most) = (mo : Int) := ⟨(if 32 < (if most < 1 then (1 : Int) else most) then (32 : Int) else if most < 1 then 1 else most).toNat, by split <;> (try split) <;> omega⟩
  have hmr : 1 ≤ mo ∧ mo ≤ 32 := by
    have : (1 : Int) ≤ (mo : Int) ∧ (mo : Int) ≤ 32 := by rw [← hmo]; split <;> (try split) <;> omega
    omega
  have hmx : ∀ k : Nat, 1 ≤ k → k ≤ 32 → most = k → mo = k := fun k h1 h2 e => by
    subst e
    rw [if_neg (show ¬ (k : Int) < 1 by omega), if_neg (show ¬ (32 : Int) < (k : Int) by omega)] at hmo
    omega
  have HKX := Lib.hid hKx
  have HMX := Lib.hid hmx
  clear hKx hmx
  have HMO := Lib.hid hmo
  clear hmo
  have HS := Lib.hid (show StP ((w.alloc (.cells (Ps.cs ⟨1, K, n, mo, List.replicate 32 0, 0, false, false, []⟩ gc (.slice none 0 0)).toArray 78)).drew) w.heap.size gc (.slice none 0 0) ⟨1, K, n, mo, List.replicate 32 0, 0, false, false, []⟩ from ⟨(Blk.new w _ _).drew, by simp⟩)
  have HB := Lib.hid (show Below w.heap.size w ((w.alloc (.cells (Ps.cs ⟨1, K, n, mo, List.replicate 32 0, 0, false, false, []⟩ gc (.slice none 0 0)).toArray 78)).drew) from (ball w _).drew)
  clear h
  go_enter Try.func11, Try.ntmps11
  go_upto_region 4 with (go_at_call 41; refine (HCT.out).mono ?_; rintro e w1 ⟨rfl, rfl⟩)
  go_region
  rw [HMO.out]
  have e : (#[.pointer (some ⟨gc, 0, none⟩), .int .i64 1, .int .i64 K, .int .i64 n, .int .i64 mo, .int .u64 0, .int .u64 0, .int .u64 0, .int .u64 0, .int .u64 0, .int .u64 0, .int .u64 0, .int .u64 0, .int .u64 0, .int .u64 0, .int .u64 0, .int .u64 0, .int .u64 0, .int .u64 0, .int .u64 0, .int .u64 0, .int .u64 0, .int .u64 0, .int .u64 0, .int .u64 0, .int .u64 0, .int .u64 0, .int .u64 0, .int .u64 0, .int .u64 0, .int .u64 0, .int .u64 0, .int .u64 0, .int .u64 0, .int .u64 0, .int .u64 0, .int .u64 0, .int .u32 0, .bool false, .bool false, .slice none 0 0] : Array Value) = (Ps.cs ⟨1, K, n, mo, List.replicate 32 0, 0, false, false, []⟩ gc (.slice none 0 0)).toArray := rfl
  rw [e]
  clear e
  generalize (w.alloc (.cells (Ps.cs ⟨1, K, n, mo, List.replicate 32 0, 0, false, false, []⟩ gc (.slice none 0 0)).toArray 78)).drew = w2 at *
  go_wp2
  all_goals
    go_ret
    exact ⟨K, mo, by omega, hmr.1, hmr.2, HKX.out, HMX.out, rfl, HS.out, HB.out⟩
end Go.Proofs.Ytmbceafeonjffaa

namespace Go.Proofs.Ytmbceafeonjffaa
open Go.RowKit Plain
set_option linter.unusedVariables false
set_option linter.unusedSimpArgs false
set_option maxRecDepth 100000
/-- blocks of unlike types are apart -/
theorem blkT {w : World} {b c : Nat} {t u : TypeId} {cs ds : Array Value} (h : Blk w b t cs) (h' : Blk w c u ds) (hne : t ≠ u) : b ≠ c := by
  rintro rfl
  unfold Blk at h h'
  rw [h] at h'
  injection h' with h'
  injection h' with _ h'
  exact hne h'
theorem getD_set_or (l : List Int) (i j : Nat) (x : Int) : (l.set i x).getD j 0 = l.getD j 0 ∨ (l.set i x).getD j 0 = x := by
  by_cases e : i = j
  · subst e
    by_cases hl : i < l.length
    · right; simp [List.getD, hl]
    · left; rw [List.set_eq_of_length_le (by omega)]
  · left; simp [List.getD, List.getElem?_set_ne e]
structure OkS (n : Nat) (s : Ps) : Prop where
  rd : ∀ j, U64 (s.rd.getD j 0)
  mo : s.mo ≤ 32
  wd : s.wd < n
  tr : 0 ≤ s.tk ∧ s.tk < 4294967296
  tk : s.nx = 1 ∨ s.nx = 2 → 1 ≤ s.ah ∧ s.ah ≤ n
  sm : s.nx = 3 → s.wd + s.ah = n ∧ 1 ≤ s.ah
  gv : s.nx = 4 ∨ s.nx = 5 → 0 < s.gi.length
  gi : ∀ g ∈ s.gi, g.1 < n ∧ 0 < g.2 ∧ g.2 < 4294967296
  nx : s.nx ≤ 5
theorem OkS.hd {n : Nat} {s : Ps} (h : OkS n s) (h0 : 0 < s.gi.length) : (s.gi.getD 0 (0, 0)).1 < n ∧ 0 < (s.gi.getD 0 (0, 0)).2 ∧ (s.gi.getD 0 (0, 0)).2 < 4294967296 := by
  have e : s.gi.getD 0 (0, 0) = s.gi[0] := by simp [List.getD, h0]
  rw [e]
  exact h.gi _ (List.getElem_mem h0)
theorem OkS.read {n : Nat} {s : Ps} (h : OkS n s) (i : Nat) (x : Int) (hx : U64 x) : ∀ j, U64 ((s.rd.set i x).getD j 0) := fun j => by
  rcases getD_set_or s.rd i j x with e | e <;> rw [e]
  · exact h.rd j
  · exact hx
theorem OkS.close {n : Nat} {s : Ps} (h : OkS n s) : OkS n s.close := by
  refine ⟨h.rd, h.mo, h.wd, h.tr, ?_, ?_, ?_, fun g hg => h.gi g (List.mem_of_mem_drop hg), ?_⟩
  · intro q
    by_cases e : s.gi.length ≤ 1
    · simp [Ps.close, e] at q
    · simp [Ps.close, e] at q
  · intro q
    by_cases e : s.gi.length ≤ 1
    · simp [Ps.close, e] at q
    · simp [Ps.close, e] at q
  · intro q
    by_cases e : s.gi.length ≤ 1
    · simp [Ps.close, e] at q
    · show 0 < (s.gi.drop 1).length
      rw [List.length_drop]; omega
  · show (if s.gi.length ≤ 1 then 0 else 4) ≤ 5
    split <;> omega
theorem OkS.step {n : Nat} {l : List Int} {s : Ps} (h : OkS n s) (hl : ∀ j, U64 (l.getD j 0)) : OkS n (stpP n l s).2 := by
  have hn0 : 0 < n := Nat.lt_of_le_of_lt (Nat.zero_le _) h.wd
  unfold stpP
  split
  · rename_i e
    have hr := h.read s.wd _ (hl s.wd)
    obtain ⟨k1, k2⟩ := h.tk (.inl e)
    simp only
    split
    · exact ⟨hr, h.mo, h.wd, h.tr, fun _ => ⟨k1, k2⟩, fun q => by simp at q, fun q => by simp at q, h.gi, by simp⟩
    · split
      · exact ⟨hr, h.mo, h.wd, h.tr, fun q => by simp at q, fun q => by simp at q, fun q => by simp at q, h.gi, by simp⟩
      · exact ⟨hr, h.mo, Nat.mod_lt _ hn0, h.tr, fun _ => ⟨by simp only; omega, by simp only; omega⟩, fun q => by simp [e] at q, fun q => by simp [e] at q, h.gi, by simp [e]⟩
  · rename_i e
    obtain ⟨k1, k2⟩ := h.tk (.inr e)
    simp only
    split
    · exact ⟨h.rd, h.mo, h.wd, lowF_rng _ _, fun q => by simp at q, fun q => by simp at q, fun q => by simp at q, h.gi, by simp⟩
    · exact ⟨h.rd, h.mo, h.wd, h.tr, fun _ => ⟨k1, k2⟩, fun q => by simp at q, fun q => by simp at q, h.gi, by simp⟩
  · rename_i e
    obtain ⟨k1, k2⟩ := h.sm e
    split
    · exact ⟨h.rd, h.mo, h.wd, h.tr, fun q => by simp at q, fun q => by simp at q, fun q => by simp at q, h.gi, by simp⟩
    · split
      · exact ⟨h.rd, h.mo, h.wd, h.tr, fun q => by simp at q, fun q => by simp at q, fun q => by simp at q, h.gi, by simp⟩
      · exact ⟨h.rd, h.mo, by simp only; omega, h.tr, fun q => by simp [e] at q, fun _ => ⟨by simp only; omega, by simp only; omega⟩, fun q => by simp [e] at q, h.gi, by simp [e]⟩
  · rename_i e
    have hr := h.read (s.gi.getD 0 (0, 0)).1 _ (hl (s.gi.getD 0 (0, 0)).1)
    have h2 : OkS n { s with rd := s.rd.set (s.gi.getD 0 (0, 0)).1 (l.getD (s.gi.getD 0 (0, 0)).1 0) } := ⟨hr, h.mo, h.wd, h.tr, h.tk, h.sm, h.gv, h.gi, h.nx⟩
    simp only
    split
    · exact h2.close
    · exact ⟨hr, h.mo, h.wd, h.tr, fun q => by simp at q, fun q => by simp at q, fun q => h.gv (.inl e), h.gi, by simp⟩
  · rename_i e
    simp only
    split
    · exact h.close
    · exact ⟨h.rd, h.mo, h.wd, h.tr, fun q => by simp at q, fun q => by simp at q, fun q => h.gv (.inr e), h.gi, by simp⟩
  · exact h
/-- nothing that is to be given back can lie in such a block -/
def NoG (w : World) (g : Nat) : Prop := ∀ cs, Blk w g 81 cs → ∀ o u v, w.cell? ⟨g, o, none⟩ = some (.int .i64 u) → w.cell? ⟨g, o + 1, none⟩ ≠ some (.int .u32 v)
theorem NoG.new {w : World} {g : Nat} (h : w.heap.size ≤ g) : NoG w g := fun _ _ o u v e => by
  have : w.heap[g]? = none := by simp; omega
  simp [World.cell?, this] at e
theorem NoG.ints {w : World} {g : Nat} {t : TypeId} {k : IntKind} {l : List Int} (h : Blk w g t (l.map (Value.int k)).toArray) : NoG w g := fun _ _ o u v e e' => by
  rw [h.cell] at e e'
  simp only [List.getElem?_toArray, List.getElem?_map] at e e'
  cases q : l[o]? with
  | none => rw [q] at e; cases e
  | some y =>
    cases q' : l[o + 1]? with
    | none => rw [q'] at e'; cases e'
    | some y' =>
      rw [q] at e; rw [q'] at e'
      simp at e e'
      obtain ⟨rfl, _⟩ := e
      obtain ⟨e', _⟩ := e'
      cases e'
theorem NoG.typ {w : World} {g : Nat} {t : TypeId} {cs : Array Value} (h : Blk w g t cs) (ht : t ≠ 81) : NoG w g := fun _ h2 => absurd rfl (blkT h h2 ht)
theorem NoG.row {w : World} {g : Nat} {t : TypeId} {k : IntKind} {l : List Int} (h : Row k t w g l) : NoG w g := NoG.ints (t := t) (k := k) (l := l) h
theorem NoG.cl {w : World} {gc gn n : Nat} {l : List Int} (h : Cl w gc gn n l) : NoG w gn := NoG.ints h.nu
theorem NoG.step {w : World} {gs gc : Nat} {gv : Value} {s : Ps} (h : StP w gs gc gv s) : NoG w gs := fun _ _ o u v e e' => by
  rcases Nat.lt_or_ge o 5 with ho | ho
  · rcases o with _ | _ | _ | _ | _ | o
    · rw [h.c0] at e; cases e
    · rw [show 0 + 1 + 1 = 2 from rfl, h.c2] at e'; cases e'
    · rw [show 0 + 1 + 1 + 1 = 3 from rfl, h.c3] at e'; cases e'
    · rw [show 0 + 1 + 1 + 1 + 1 = 4 from rfl, h.c4] at e'; cases e'
    · rw [show 0 + 1 + 1 + 1 + 1 + 1 = 5 + 0 from rfl, h.cr 0 (by omega)] at e'; cases e'
    · omega
  · rcases Nat.lt_or_ge o 37 with ho2 | ho2
    · have := h.cr (o - 5) (by omega)
      rw [show 5 + (o - 5) = o by omega] at this
      rw [this] at e; cases e
    · obtain ⟨q, rfl⟩ : ∃ q, o = 37 + q := ⟨o - 37, by omega⟩
      rw [h.blk.cell] at e e'
      simp only [List.getElem?_toArray] at e e'
      rw [cs_end h.len] at e
      rw [show 37 + q + 1 = 37 + (q + 1) by omega, cs_end h.len] at e'
      rcases q with _ | _ | _ | q
      · cases e
      · cases e
      · cases e
      · cases e'
theorem GiR.keepG {w w' : World} {gs : Nat} {gv : Value} {gi : List (Nat × Int)} (h : GiR w gs gv gi) {bs : List Nat} (hk : Keep bs w w') (hb : ∀ g ∈ bs, g ≠ gs → NoG w g) : GiR w' gs gv gi := by
  obtain ⟨A, n, c, e, h1, h2, h3, h4⟩ := h
  refine ⟨A, n, c, e, h1, h2, h3, fun hp => ?_⟩
  obtain ⟨gg, off, e2, hl, hne, ⟨gcs, hgB⟩, hc⟩ := h4 hp
  have hn : gg ∉ bs := fun hm => hb gg hm hne gcs hgB _ _ _ (hc 0 hp).1 (hc 0 hp).2
  exact ⟨gg, off, e2, Nat.lt_of_lt_of_le hl hk.size, hne, ⟨gcs, hk.blk hgB hn⟩, fun i hi => ⟨(hk.cell (p := ⟨gg, off + i * 2, none⟩) hl hn).trans (hc i hi).1, (hk.cell (p := ⟨gg, off + i * 2 + 1, none⟩) hl hn).trans (hc i hi).2⟩⟩
/-- a Step wholly -/
structure StW (w : World) (gs gc n : Nat) (s : Ps) : Prop where
  ex : ∃ gv, StP w gs gc gv s ∧ GiR w gs gv s.gi
  ok : OkS n s
section
variable {w w' : World} {gs gc n : Nat} {s : Ps}
theorem StW.keep {bs : List Nat} (h : StW w gs gc n s) (hk : Keep bs w w') (h1 : gs ∉ bs) (h2 : ∀ g ∈ bs, NoG w g) : StW w' gs gc n s := by
  obtain ⟨⟨gv, hs, hg⟩, ok⟩ := h
  exact ⟨⟨gv, hs.keep hk h1, hg.keepG hk fun g hm _ => h2 g hm⟩, ok⟩
theorem StW.below (h : StW w gs gc n s) (hb : Below w.heap.size w w') : StW w' gs gc n s := h.keep (Keep.of_below (bs := []) hb) (by simp) (by simp)
theorem StW.lt (h : StW w gs gc n s) : gs < w.heap.size := by obtain ⟨⟨gv, hs, hg⟩, ok⟩ := h; exact hs.blk.lt
theorem StW.nog (h : StW w gs gc n s) : NoG w gs := by obtain ⟨⟨gv, hs, hg⟩, ok⟩ := h; exact NoG.step hs
theorem StW.c1 (h : StW w gs gc n s) : w.cell? ⟨gs, 1, none⟩ = some (.int .i64 s.nx) := by obtain ⟨⟨gv, hs, hg⟩, ok⟩ := h; exact hs.c1
theorem StW.typ (h : StW w gs gc n s) {g : Nat} {t : TypeId} {cs : Array Value} (hb : Blk w g t cs) (ht : t ≠ 78) : g ≠ gs := by obtain ⟨⟨gv, hs, hg⟩, ok⟩ := h; exact blkT hb hs.blk ht
end
theorem nx_dec (x : Nat) : ((x : Int) == 0) = decide (x = 0) := by
  by_cases h : x = 0
  · simp [h]
  · have : ¬ (x : Int) = 0 := by omega
    simp [h]
/-- a step of whatever was begun -/
theorem pDo_any {w : World} {gp gc gn n gs : Nat} {size : Int} {l : List Int} {s : Ps} (hp : PoS w gp gc gn n size l) (hs : StW w gs gc n s) (hn : n ≤ 32) :
    Calls Try.prog 14 #[.pointer (some ⟨gp, 0, none⟩), .pointer (some ⟨gs, 0, none⟩)] w fun e w' => e = .returned (.bool (decide ((stpP n l s).2.nx = 0))) ∧ PoS w' gp gc gn n size (stpP n l s).1 ∧ StW w' gs gc n (stpP n l s).2 ∧ Keep [gn, gs] w w' := by
  have hok := hs.ok
  have hu := hp.cl.u64
  have hok2 := hok.step hu
  have h1 : gp ≠ gs := hs.typ hp.ps (by decide)
  have h2 : gc ≠ gs := hs.typ hp.cl.st (by decide)
  have h3 : gn ≠ gs := hs.typ hp.cl.nu (by decide)
  have c1 := hs.c1
  obtain ⟨⟨gv, hsp, hg⟩, _⟩ := hs
  have hk : ∀ {w' : World}, Keep [gs] w w' → PoS w' gp gc gn n size l ∧ Keep [gn, gs] w w' := fun k => ⟨hp.keep k (by simpa using h1) (by simpa using h2) (by simpa using h3), k.mono (by simp)⟩
  have hkn : ∀ {w' : World} {l' : List Int}, Cl w' gc gn n l' → Keep [gn, gs] w w' → PoS w' gp gc gn n size l' := fun c k => ⟨k.blk hp.ps (by simp [h1, hp.nn]), c, hp.nn, hp.nc⟩
  have hgi : ∀ {w' : World}, (stpP n l s).2.gi = s.gi → Keep [gn, gs] w w' → GiR w' gs gv (stpP n l s).2.gi := fun e k => by rw [e]; exact hg.gn hp.cl k
  have hcase : s.nx = 0 ∨ s.nx = 1 ∨ s.nx = 2 ∨ s.nx = 3 ∨ s.nx = 4 ∨ s.nx = 5 := by have := hok.nx; omega
  rw [← nx_dec]
  rcases hcase with e | e | e | e | e | e
  · have e1 : stpP n l s = (l, s) := by unfold stpP; rw [e]; rfl
    rw [e] at c1
    refine (pdo_0 (gp := gp) c1).mono ?_
    rintro e2 w' ⟨rfl, rfl⟩
    rw [e1]
    exact ⟨by rw [e]; rfl, hp, ⟨⟨gv, hsp, hg⟩, hok⟩, Keep.refl _ _⟩
  · obtain ⟨k1, k2⟩ := hok.tk (.inl e)
    have e1 : (stpP n l s).1 = l ∧ (stpP n l s).2.gi = s.gi := by
      unfold stpP; rw [e]; simp only; split
      · exact ⟨rfl, rfl⟩
      · split <;> exact ⟨rfl, rfl⟩
    rw [e] at c1
    refine (pdo_1 (gp := gp) c1 (readToTake_any hp.cl hsp e hok.wd hn k1 (by omega) h2 h3) (fun w' h => h.1.c1)).mono ?_
    rintro e2 w' ⟨rfl, q1, q2⟩
    refine ⟨rfl, by rw [e1.1]; exact (hk q2).1, ⟨⟨gv, q1, hgi e1.2 (hk q2).2⟩, hok2⟩, (hk q2).2⟩
  · have e1 : (stpP n l s).2.gi = s.gi := by
      unfold stpP; rw [e]; simp only; split <;> rfl
    rw [e] at c1
    refine (pdo_2 (gp := gp) c1 (ptake_any hp.cl hsp e hok.wd hn hok.mo (hok.rd _).1 (hok.rd _).2 h2 h3) (fun w' h => h.2.1.c1)).mono ?_
    rintro e2 w' ⟨rfl, q0, q1, q2⟩
    exact ⟨rfl, hkn q0 q2, ⟨⟨gv, q1, hgi e1 q2⟩, hok2⟩, q2⟩
  · obtain ⟨k1, k2⟩ := hok.sm e
    have e1 : (stpP n l s).1 = l ∧ (stpP n l s).2.gi = s.gi := by
      unfold stpP; rw [e]; simp only; split
      · exact ⟨rfl, rfl⟩
      · split <;> exact ⟨rfl, rfl⟩
    rw [e] at c1
    refine (pdo_3 (gp := gp) c1 (compare_any hp.cl hsp e hok.wd hn k2 (by omega) h2 h3) (fun w' h => h.1.c1)).mono ?_
    rintro e2 w' ⟨rfl, q1, q2⟩
    exact ⟨rfl, by rw [e1.1]; exact (hk q2).1, ⟨⟨gv, q1, hgi e1.2 (hk q2).2⟩, hok2⟩, (hk q2).2⟩
  · have h0 := hok.gv (.inl e)
    obtain ⟨k1, k2, k3⟩ := hok.hd h0
    have e1 : (stpP n l s).1 = l := by
      unfold stpP; rw [e]; simp only; split <;> rfl
    rw [e] at c1
    refine (pdo_4 (gp := gp) c1 (readToGive_any hp.cl hsp hg h0 e k1 hn (by omega) k3 h2 h3) (fun w' h => by obtain ⟨⟨gv', q, _⟩, _⟩ := h; exact q.c1)).mono ?_
    rintro e2 w' ⟨rfl, ⟨gv', q1, q3⟩, q2⟩
    exact ⟨rfl, by rw [e1]; exact (hk q2).1, ⟨⟨gv', q1, q3⟩, hok2⟩, (hk q2).2⟩
  · have h0 := hok.gv (.inr e)
    obtain ⟨k1, k2, k3⟩ := hok.hd h0
    rw [e] at c1
    refine (pdo_5 (gp := gp) c1 (give_any hp.cl hsp hg h0 e k1 hn (by omega) k3 (hok.rd _).1 (hok.rd _).2 h2 h3) (fun w' h => by obtain ⟨_, ⟨gv', q, _⟩, _⟩ := h; exact q.c1)).mono ?_
    rintro e2 w' ⟨rfl, q0, ⟨gv', q1, q3⟩, q2⟩
    exact ⟨rfl, hkn q0 q2, ⟨⟨gv', q1, q3⟩, hok2⟩, q2⟩
end Go.Proofs.Ytmbceafeonjffaa
