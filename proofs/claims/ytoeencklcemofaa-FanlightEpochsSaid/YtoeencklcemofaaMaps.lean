/-
  A map of numbers that the call makes, whose elements are all 1: its keys in the order in which they came; reading it, and a new key by either way to store. Conditions stand in each theorem.
-/
import Derived.Maps.Own
import Derived.Maps.OwnOps
import Derived.WideKeyEntry
import Derived.Test.YtoeencklcemofaaEpRow
namespace Go.Proofs.Ytoeencklcemofaa
open Go.RowKit Go.Deep Plain Go.ChangeMaps Go.MapKept
open Go.Maps (Keyed int_keyed keyOf_int_mk)
set_option linter.unusedVariables false
set_option maxRecDepth 100000

/-- the entries: the keys, each with 1, as they came -/
def entF : List Int → Nat → List MapEntry
  | [], _ => []
  | m :: r, c => ⟨.int .u64 m, .int .i64 1, c⟩ :: entF r (c + 1)
theorem entF_app (m : Int) (v : Value) : ∀ (ks : List Int) (c : Nat), entF (ks ++ [m]) c = entF ks c ++ [⟨.int .u64 m, .int .i64 1, c + ks.length⟩]
  | [], c => rfl
  | k :: r, c => by
    rw [List.cons_append]
    unfold entF
    rw [entF_app m v r (c + 1), List.cons_append, List.length_cons]
    rw [show c + 1 + r.length = c + (r.length + 1) by omega]
theorem entF_len : ∀ (ks : List Int) (c : Nat), (entF ks c).length = ks.length
  | [], c => rfl
  | k :: r, c => by unfold entF; rw [List.length_cons, List.length_cons, entF_len r]
theorem entF_mem {e : MapEntry} : ∀ (ks : List Int) (c : Nat), e ∈ entF ks c → (∃ m, m ∈ ks ∧ e.key = .int .u64 m) ∧ e.val = .int .i64 1 ∧ c ≤ e.born ∧ e.born < c + ks.length
  | [], c, h => by simp [entF] at h
  | k :: r, c, h => by
    unfold entF at h
    rcases List.mem_cons.1 h with h | h
    · subst h; exact ⟨⟨k, List.mem_cons_self, rfl⟩, rfl, Nat.le_refl _, by rw [List.length_cons]; simp⟩
    · obtain ⟨⟨m, h1, h2⟩, h3, h4, h5⟩ := entF_mem r (c + 1) h
      exact ⟨⟨m, List.mem_cons_of_mem _ h1, h2⟩, h3, by omega, by rw [List.length_cons]; omega⟩
theorem entF_has {m : Int} : ∀ (ks : List Int) (c : Nat), m ∈ ks → ∃ e, e ∈ entF ks c ∧ e.key = .int .u64 m
  | [], c, h => by simp at h
  | k :: r, c, h => by
    unfold entF
    rcases List.mem_cons.1 h with h | h
    · subst h; exact ⟨_, List.mem_cons_self, rfl⟩
    · obtain ⟨e, h1, h2⟩ := entF_has r (c + 1) h
      exact ⟨e, List.mem_cons_of_mem _ h1, h2⟩
theorem law64 : Keyed Try.prog 24 := int_keyed Try.underlying24
theorem wf64 {m : Int} (h : U64 m) : (Lit.int .u64 m).wf = true := by
  unfold U64 at h
  exact WalkArith.wf_u64 (by omega)
theorem key64 {m : Int} (h : U64 m) : keyOf Try.prog 24 (.int .u64 m) = some (.int .u64 m) := keyOf_int_mk Try.underlying24 (wf64 h)
theorem zeroI (w : World) : (zeroValue 3).run Try.prog w = .ok (.int .i64 0) w := by kernel_rfl

/-- block b is a map in which the keys ks have 1, and no other one is -/
def MpI (w : World) (b : Nat) (ks : List Int) : Prop := w.heap[b]? = some (.map (entF ks 0).toArray ks.length) ∧ ∀ m, m ∈ ks → U64 m
section
variable {w w' : World} {b : Nat} {ks : List Int}
theorem MpI.lt (h : MpI w b ks) : b < w.heap.size := (Array.getElem?_eq_some_iff.1 h.1).1
theorem MpI.keep {bs : List Nat} (h : MpI w b ks) (hk : Keep bs w w') (hb : b ∉ bs) : MpI w' b ks := ⟨(hk.block b h.lt hb).trans h.1, h.2⟩
theorem MpI.below (h : MpI w b ks) (hb : Below w.heap.size w w') : MpI w' b ks := h.keep (Keep.of_below (bs := []) hb) (by simp)
theorem MpI.drewN (h : MpI w b ks) (q : Nat) : MpI (w.drewN q) b ks := h
theorem MpI.blk {g : Nat} {t : TypeId} {cs : Array Value} (h : MpI w b ks) (hb : Blk w g t cs) : b ≠ g := by
  rintro rfl
  have := h.1.symm.trans hb
  injection this with this
  cases this
theorem MpI.set {g : Nat} {t : TypeId} (h : MpI w b ks) (hb : ∃ cs, Blk w g t cs) (i : Nat) (v : Value) : MpI (w.setCell ⟨g, i, none⟩ v) b ks := by
  obtain ⟨cs, hb⟩ := hb
  exact h.keep (bs := [g]) ((Keep.refl _ _).setCell (.inl (by simp)) v) (by simpa using h.blk hb)
theorem MpI.keys (h : MpI w b ks) : ∀ e ∈ entF ks 0, ∃ l, keyOf Try.prog 24 e.key = some l := fun e he => by
  obtain ⟨⟨m, h1, h2⟩, _⟩ := entF_mem ks 0 he
  exact ⟨_, by rw [h2]; exact key64 (h.2 m h1)⟩
theorem MpI.made (w : World) : MpI (w.alloc (.map #[] 0)) w.heap.size [] := ⟨(MapKept.heap_alloc w _).1, by simp⟩
theorem MpI.look (h : MpI w b ks) (m : Int) (hm : U64 m) (x : Int) (hx : x = if m ∈ ks then 1 else 0) : (Instr.lookup 93 (.map (some b)) (.int .u64 m) false).run Try.prog w = .ok (.int .i64 x) w := by
  subst hx
  rcases law64.find w (key64 hm) (entF ks 0) h.keys with ⟨h1, h2⟩ | ⟨j, e, h1, h2, h3⟩
  · have hn : m ∉ ks := fun hc => by obtain ⟨e, he, hk⟩ := entF_has ks 0 hc; exact h2 e he hk
    rw [if_neg hn]
    simp [Instr.lookup, run_underlying Try.underlying93, MapKept.run_getObj_map h.1, law64.check w _ (key64 hm), h1, Result.andThen]
  · obtain ⟨⟨m', h4, h5⟩, h6, _⟩ := entF_mem ks 0 (List.mem_of_getElem? h2)
    have hn : m ∈ ks := by
      rw [h3] at h5
      injection h5 with _ h5
      rw [h5]; exact h4
    rw [if_pos hn]
    simp [Instr.lookup, run_underlying Try.underlying93, MapKept.run_getObj_map h.1, law64.check w _ (key64 hm), h1, h6, Result.andThen]
theorem keep_setBlock {es : Array MapEntry} {clock : Nat} (hb : w.heap[b]? = some (.map es clock)) (o : Obj) : Keep [b] w (setBlock w b o) :=
  ⟨rfl, rfl, rfl, by simp [setBlock], fun i _ hi => heap_setBlock_other hb _ (by simpa using hi)⟩
theorem MpI.nokey (h : MpI w b ks) (m : Int) (hm : U64 m) (hn : m ∉ ks) : (Instr.findKey 24 (.int .u64 m) (entF ks 0)).run Try.prog w = .ok none w := by
  rcases law64.find w (key64 hm) (entF ks 0) h.keys with ⟨h1, h2⟩ | ⟨j, e, h1, h2, h3⟩
  · exact h1
  · obtain ⟨⟨m', h4, h5⟩, _⟩ := entF_mem ks 0 (List.mem_of_getElem? h2)
    rw [h3] at h5
    injection h5 with _ h5
    exact absurd (h5 ▸ h4) hn
theorem push_entF (ks : List Int) (m : Int) : (entF ks 0).toArray.push ⟨.int .u64 m, .int .i64 1, ks.length⟩ = (entF (ks ++ [m]) 0).toArray := by
  apply Array.ext'
  rw [entF_app m (.int .i64 1)]
  simp
theorem MpI.put (h : MpI w b ks) (m : Int) (hm : U64 m) (hn : m ∉ ks) : ∃ w', (Instr.mapUpdate 93 (.map (some b)) (.int .u64 m) (.int .i64 1)).run Try.prog w = .ok () w' ∧ MpI w' b (ks ++ [m]) ∧ Keep [b] w w' := by
  refine ⟨setBlock w b (.map (entF (ks ++ [m]) 0).toArray (ks.length + 1)), ?_, ⟨?_, ?_⟩, keep_setBlock h.1 _⟩
  · rw [← push_entF]
    simp [Instr.mapUpdate, run_underlying Try.underlying93, MapKept.run_getObj_map h.1, law64.check w _ (key64 hm), h.nokey m hm hn, MapKept.run_setObj_map _ h.1, Result.andThen, setBlock]
  · rw [heap_setBlock_same h.1]; simp
  · intro x hx
    rcases List.mem_append.1 hx with hx | hx
    · exact h.2 x hx
    · have : x = m := by simpa using hx
      subst this; exact hm
theorem MpI.entry (h : MpI w b ks) (m : Int) (hm : U64 m) (hn : m ∉ ks) : ∃ (st : Int) (w1 w2 : World), (Instr.mapEntry 93 (.map (some b)) (.int .u64 m)).run Try.prog w = .ok (.tuple #[.int .i64 0, .int .i64 st]) w1 ∧
    (Instr.entryStore 93 (.map (some b)) (.int .i64 st) (.int .i64 1)).run Try.prog w1 = .ok () w2 ∧ MpI w2 b (ks ++ [m]) ∧ Keep [b] w w1 ∧ Keep [b] w w2 := by
  obtain ⟨es1, he1⟩ : ∃ a : Array MapEntry, a = (entF ks 0).toArray.push ⟨.int .u64 m, .int .i64 0, ks.length⟩ := ⟨_, rfl⟩
  have hb1 : (setBlock w b (.map ((entF ks 0).toArray.push ⟨.int .u64 m, .int .i64 0, ks.length⟩) (ks.length + 1))).heap[b]? = some (.map ((entF ks 0).toArray.push ⟨.int .u64 m, .int .i64 0, ks.length⟩) (ks.length + 1)) := heap_setBlock_same h.1 _
  have hidx : ((entF ks 0).toArray.push ⟨.int .u64 m, .int .i64 0, ks.length⟩).findIdx? (fun e => ((e.born : Nat) : Int) == ((ks.length : Nat) : Int)) = some ks.length := by
    rw [Go.WideElems.findIdx_arr, Array.toList_push, List.findIdx?_append]
    have hno : (entF ks 0).findIdx? (fun e => ((e.born : Nat) : Int) == ((ks.length : Nat) : Int)) = none := by
      rw [List.findIdx?_eq_none_iff]
      intro e he
      obtain ⟨_, _, _, h4⟩ := entF_mem ks 0 he
      simp; omega
    simp [hno, entF_len]
  rw [← he1] at hb1 hidx
  have hmod : ((entF ks 0).toArray.push ⟨.int .u64 m, .int .i64 0, ks.length⟩).modify ks.length (fun e => { e with val := .int .i64 1 }) = (entF (ks ++ [m]) 0).toArray := by
    rw [← push_entF]
    apply Array.ext'
    have hl := entF_len ks 0
    rw [Array.toList_modify, Array.toList_push, Array.toList_push]
    have := Go.WideElems.modify_last (fun e : MapEntry => { e with val := .int .i64 1 }) ⟨.int .u64 m, .int .i64 0, ks.length⟩ (entF ks 0)
    rw [hl] at this
    exact this
  rw [← he1] at hmod
  refine ⟨ks.length, setBlock w b (.map es1 (ks.length + 1)), setBlock (setBlock w b (.map es1 (ks.length + 1))) b (.map (entF (ks ++ [m]) 0).toArray (ks.length + 1)), ?_, ?_, ⟨?_, ?_⟩, keep_setBlock h.1 _, (keep_setBlock h.1 _).trans (keep_setBlock hb1 _)⟩
  · rw [he1]
    simp [Instr.mapEntry, run_underlying Try.underlying93, MapKept.run_getObj_map h.1, law64.check w _ (key64 hm), h.nokey m hm hn, MapKept.run_setObj_map _ h.1, Result.andThen, setBlock, goInt]
  · generalize setBlock w b (.map es1 (ks.length + 1)) = w1 at hb1 ⊢
    simp [Instr.entryStore, MapKept.run_getObj_map hb1, asInt, asIntOf, hidx, hmod, MapKept.run_setObj_map _ hb1, Result.andThen, setBlock]
  · rw [heap_setBlock_same hb1]; simp
  · intro x hx
    rcases List.mem_append.1 hx with hx | hx
    · exact h.2 x hx
    · have : x = m := by simpa using hx
      subst this; exact hm
end
end Go.Proofs.Ytoeencklcemofaa
