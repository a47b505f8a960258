/-
  A map from int to int that the call makes: its entries in the order in which they came; reading it, and a new key. Conditions stand in each theorem.
-/
import Derived.Maps.Own
import Derived.Maps.OwnOps
import Derived.WideKeyEntry
import Derived.Test.YtdkjipfemnfckaaRwE
namespace Go.Proofs.Ytdkjipfemnfckaa
open Go.RowKit Plain Go.ChangeMaps Go.MapKept
open Go.Maps (Keyed int_keyed keyOf_int_mk)
set_option linter.unusedVariables false
set_option maxRecDepth 100000

/-- the entries, as they came -/
def entV : List (Int × Int) → Nat → List MapEntry
  | [], _ => []
  | m :: r, c => ⟨.int .i64 m.1, .int .i64 m.2, c⟩ :: entV r (c + 1)
theorem entV_app (m : Int × Int) : ∀ (ks : List (Int × Int)) (c : Nat), entV (ks ++ [m]) c = entV ks c ++ [⟨.int .i64 m.1, .int .i64 m.2, c + ks.length⟩]
  | [], c => rfl
  | k :: r, c => by
    rw [List.cons_append]
    unfold entV
    rw [entV_app m r (c + 1), List.cons_append, List.length_cons]
    rw [show c + 1 + r.length = c + (r.length + 1) by omega]
theorem entV_mem {e : MapEntry} : ∀ (ks : List (Int × Int)) (c : Nat), e ∈ entV ks c → ∃ m, m ∈ ks ∧ e.key = .int .i64 m.1 ∧ e.val = .int .i64 m.2
  | [], c, h => by simp [entV] at h
  | k :: r, c, h => by
    unfold entV at h
    rcases List.mem_cons.1 h with h | h
    · subst h; exact ⟨k, List.mem_cons_self, rfl, rfl⟩
    · obtain ⟨m, h1, h2, h3⟩ := entV_mem r (c + 1) h
      exact ⟨m, List.mem_cons_of_mem _ h1, h2, h3⟩
theorem entV_has {m : Int × Int} : ∀ (ks : List (Int × Int)) (c : Nat), m ∈ ks → ∃ e, e ∈ entV ks c ∧ e.key = .int .i64 m.1
  | [], c, h => by simp at h
  | k :: r, c, h => by
    unfold entV
    rcases List.mem_cons.1 h with h | h
    · subst h; exact ⟨_, List.mem_cons_self, rfl⟩
    · obtain ⟨e, h1, h2⟩ := entV_has r (c + 1) h
      exact ⟨e, List.mem_cons_of_mem _ h1, h2⟩
theorem lawI : Keyed Try.prog 3 := int_keyed Try.underlying3
def I64 (m : Int) : Prop := -9223372036854775808 ≤ m ∧ m ≤ 9223372036854775807
theorem wfI {m : Int} (h : I64 m) : (Lit.int .i64 m).wf = true := by
  unfold I64 at h
  exact WalkArith.wf_i64 (by omega)
theorem keyI {m : Int} (h : I64 m) : keyOf Try.prog 3 (.int .i64 m) = some (.int .i64 m) := keyOf_int_mk Try.underlying3 (wfI h)
/-- block b is a map with these keys and elements; no key comes twice -/
structure MpV (w : World) (b : Nat) (ks : List (Int × Int)) : Prop where
  blk : w.heap[b]? = some (.map (entV ks 0).toArray ks.length)
  wf : ∀ m, m ∈ ks → I64 m.1
  nd : ∀ m m', m ∈ ks → m' ∈ ks → m.1 = m'.1 → m = m'
section
variable {w w' : World} {b : Nat} {ks : List (Int × Int)}
theorem MpV.lt (h : MpV w b ks) : b < w.heap.size := (Array.getElem?_eq_some_iff.1 h.blk).1
theorem MpV.keep {bs : List Nat} (h : MpV w b ks) (hk : Keep bs w w') (hb : b ∉ bs) : MpV w' b ks := ⟨(hk.block b h.lt hb).trans h.blk, h.wf, h.nd⟩
theorem MpV.below (h : MpV w b ks) (hb : Below w.heap.size w w') : MpV w' b ks := h.keep (Keep.of_below (bs := []) hb) (by simp)
theorem MpV.drewN (h : MpV w b ks) (q : Nat) : MpV (w.drewN q) b ks := ⟨h.blk, h.wf, h.nd⟩
theorem MpV.keys (h : MpV w b ks) : ∀ e ∈ entV ks 0, ∃ l, keyOf Try.prog 3 e.key = some l := fun e he => by
  obtain ⟨m, h1, h2, _⟩ := entV_mem ks 0 he
  exact ⟨_, by rw [h2]; exact keyI (h.wf m h1)⟩
theorem MpV.made (w : World) : MpV (w.alloc (.map #[] 0)) w.heap.size [] := ⟨(MapKept.heap_alloc w _).1, by simp, by simp⟩
/-- what is read: nought, and there is no such key; or a key's element -/
theorem MpV.look (h : MpV w b ks) (m : Int) (hm : I64 m) : ∃ x : Int, (Instr.lookup 42 (.map (some b)) (.int .i64 m) false).run Try.prog w = .ok (.int .i64 x) w ∧ ((x = 0 ∧ ∀ q ∈ ks, q.1 ≠ m) ∨ (m, x) ∈ ks) := by
  rcases lawI.find w (keyI hm) (entV ks 0) h.keys with ⟨h1, h2⟩ | ⟨j, e, h1, h2, h3⟩
  · refine ⟨0, ?_, Or.inl ⟨rfl, fun q hq hc => ?_⟩⟩
    · simp [Instr.lookup, run_underlying Try.underlying42, MapKept.run_getObj_map h.blk, lawI.check w _ (keyI hm), h1, Result.andThen]
    · obtain ⟨e, he, hk⟩ := entV_has ks 0 hq
      exact h2 e he (by rw [hk, hc])
  · obtain ⟨q, h4, h5, h6⟩ := entV_mem ks 0 (List.mem_of_getElem? h2)
    have hq : q.1 = m := by
      rw [h3] at h5
      injection h5 with _ h5
      exact h5.symm
    refine ⟨q.2, ?_, Or.inr (by rw [← hq]; exact h4)⟩
    simp [Instr.lookup, run_underlying Try.underlying42, MapKept.run_getObj_map h.blk, lawI.check w _ (keyI hm), h1, h6, Result.andThen]
theorem keep_setBlockV {es : Array MapEntry} {clock : Nat} (hb : w.heap[b]? = some (.map es clock)) (o : Obj) : Keep [b] w (setBlock w b o) :=
  ⟨rfl, rfl, rfl, by simp [setBlock], fun i _ hi => heap_setBlock_other hb _ (by simpa using hi)⟩
theorem MpV.nokey (h : MpV w b ks) (m : Int) (hm : I64 m) (hn : ∀ q ∈ ks, q.1 ≠ m) : (Instr.findKey 3 (.int .i64 m) (entV ks 0)).run Try.prog w = .ok none w := by
  rcases lawI.find w (keyI hm) (entV ks 0) h.keys with ⟨h1, h2⟩ | ⟨j, e, h1, h2, h3⟩
  · exact h1
  · obtain ⟨q, h4, h5, _⟩ := entV_mem ks 0 (List.mem_of_getElem? h2)
    rw [h3] at h5
    injection h5 with _ h5
    exact absurd h5.symm (hn q h4)
theorem push_entV (ks : List (Int × Int)) (m v : Int) : (entV ks 0).toArray.push ⟨.int .i64 m, .int .i64 v, ks.length⟩ = (entV (ks ++ [(m, v)]) 0).toArray := by
  apply Array.ext'
  rw [entV_app (m, v)]
  simp
theorem MpV.put (h : MpV w b ks) (m v : Int) (hm : I64 m) (hn : ∀ q ∈ ks, q.1 ≠ m) : ∃ w', (Instr.mapUpdate 42 (.map (some b)) (.int .i64 m) (.int .i64 v)).run Try.prog w = .ok () w' ∧ MpV w' b (ks ++ [(m, v)]) ∧ Keep [b] w w' := by
  refine ⟨setBlock w b (.map (entV (ks ++ [(m, v)]) 0).toArray (ks.length + 1)), ?_, ⟨?_, ?_, ?_⟩, keep_setBlockV h.blk _⟩
  · rw [← push_entV]
    simp [Instr.mapUpdate, run_underlying Try.underlying42, MapKept.run_getObj_map h.blk, lawI.check w _ (keyI hm), h.nokey m hm hn, MapKept.run_setObj_map _ h.blk, Result.andThen, setBlock]
  · rw [heap_setBlock_same h.blk]; simp
  · intro x hx
    rcases List.mem_append.1 hx with hx | hx
    · exact h.wf x hx
    · have : x = (m, v) := by simpa using hx
      subst this; exact hm
  · intro x y hx hy hxy
    rcases List.mem_append.1 hx with hx | hx <;> rcases List.mem_append.1 hy with hy | hy
    · exact h.nd x y hx hy hxy
    · have : y = (m, v) := by simpa using hy
      subst this; exact absurd hxy (hn x hx)
    · have : x = (m, v) := by simpa using hx
      subst this; exact absurd hxy.symm (hn y hy)
    · have h1 : x = (m, v) := by simpa using hx
      have h2 : y = (m, v) := by simpa using hy
      rw [h1, h2]
end
end Go.Proofs.Ytdkjipfemnfckaa
