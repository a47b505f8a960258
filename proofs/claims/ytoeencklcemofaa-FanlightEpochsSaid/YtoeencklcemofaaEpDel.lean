/-
  Package epoch: what slices.Delete does with the first ones of a row of gifts. Conditions stand in each theorem.
-/
import Derived.Test.YtoeencklcemofaaEpRipe
import Derived.Lib.SliceRun
import Derived.Lib.SlicesDelete
namespace Go.Proofs.Ytoeencklcemofaa
open Go.RowKit Go.Deep Plain
set_option linter.unusedVariables false
set_option maxRecDepth 100000

theorem Blk.setCells {g : Nat} {t : TypeId} : ∀ (vs : List Value) (o : Nat) (w : World) (cs : Array Value), Blk w g t cs → Blk (w.setCells g o vs) g t (Go.Lib.lay cs o vs)
  | [], _, _, _, h => h
  | v :: r, o, w, cs, h => Blk.setCells r (o + 1) _ _ (h.set o v)
theorem grown_setCells (g : Nat) : ∀ (vs : List Value) (o : Nat) (w : World), w.grownBy (w.setCells g o vs) (some g)
  | [], _, w => ⟨rfl, rfl, rfl, Nat.le_refl _, fun _ _ _ => rfl⟩
  | v :: r, o, w => by
    have h1 := grown_setCell w g o v
    have h2 := grown_setCells g r (o + 1) (w.setCell ⟨g, o, none⟩ v)
    exact ⟨h2.os.trans h1.os, h2.tape.trans h1.tape, h2.output.trans h1.output, Nat.le_trans h1.size h2.size, fun k hk hn => (h2.block k (Nat.lt_of_lt_of_le hk h1.size) hn).trans (h1.block k hk hn)⟩
theorem Keep.setCells {bs : List Nat} {w w' : World} {g : Nat} (h : Keep bs w w') (hg : g ∈ bs) (o : Nat) (vs : List Value) : Keep bs w (w'.setCells g o vs) :=
  h.trans (Keep.of_grown (grown_setCells g vs o w') hg)
theorem zero_gi (w : World) : (zeroValue 142).run Try.prog w = .ok (.agg #[.int .u64 0, .int .u64 0]) w := by kernel_rfl

/-- the cells of so many zero gifts -/
def zgi (m : Nat) : List Value := (Builtin.zeroCells #[.int .u64 0, .int .u64 0] m).toList
theorem zgi_len (m : Nat) : (zgi m).length = m * 2 := by unfold zgi Builtin.zeroCells; simp
theorem zgi_one (m : Nat) : ∀ v ∈ zgi m, v.oneCell' = true := by
  unfold zgi Builtin.zeroCells
  intro v hv
  simp only [Array.toList_map, List.mem_map] at hv
  obtain ⟨i, _, rfl⟩ := hv
  have h2 : i % 2 = 0 ∨ i % 2 = 1 := by omega
  rcases h2 with h | h <;> (simp only [List.size_toArray, List.length_cons, List.length_nil, h]; rfl)
theorem run_clear_gi (w : World) (ty : TypeId) (b o m c : Nat) (hm : 0 < m) (hc : ∀ j, j < m * 2 → (w.cell? ⟨b, o + j, none⟩).isSome = true) (hf : ∀ j, j < m * 2 → w.frozen? ⟨b, o + j, none⟩ = false) :
    (Builtin.clear_ #[140] ty #[.slice (some ⟨b, o, none⟩) m c]).run Try.prog w = .ok (.tuple #[]) (w.setCells b o (zgi m)) := by
  have hst := run_storeCells_cells (P := Try.prog) b o (zgi m) 0 w (by rw [zgi_len]; simpa using hc) (by rw [zgi_len]; simpa using hf) (zgi_one m)
  simp only [Nat.add_zero] at hst
  have hz : (Builtin.zeroCells (Value.agg #[.int .u64 0, .int .u64 0]).cells m).toList = zgi m := rfl
  obtain ⟨q, rfl⟩ : ∃ q, m = q + 1 := ⟨m - 1, by omega⟩
  simp [Builtin.clear_, run_underlying Try.underlying140, zero_gi w, hz, hst]

theorem giC_len (gs : List (Int × Int)) : (giC gs).length = gs.length * 2 := by
  unfold giC
  induction gs with
  | nil => rfl
  | cons x r ih => simp only [List.flatMap_cons, List.length_append, ih, List.length_cons, List.length_nil]; omega
theorem giC_drop (gs : List (Int × Int)) : ∀ n, giC (gs.drop n) = (giC gs).drop (n * 2) := by
  unfold giC
  induction gs with
  | nil => intro n; simp
  | cons x r ih =>
    intro n
    cases n with
    | zero => simp
    | succ n =>
      rw [List.drop_succ_cons, ih n, List.flatMap_cons]
      simp only [Nat.add_mul, Nat.one_mul, List.cons_append, List.nil_append]
      rfl
theorem giC_one (gs : List (Int × Int)) : ∀ v ∈ giC gs, v.oneCell' = true := by
  unfold giC
  intro v hv
  simp only [List.mem_flatMap, List.mem_cons, List.not_mem_nil, or_false] at hv
  obtain ⟨x, _, rfl | rfl⟩ := hv <;> rfl

/-- the block behind both stores -/
theorem lay_take (cur : Array Value) (xs ys : List Value) (h : xs.length + ys.length ≤ cur.size) : (Go.Lib.lay (Go.Lib.lay cur 0 xs) xs.length ys).toList.take xs.length = xs := by
  apply List.ext_getElem?
  intro j
  rw [List.getElem?_take]
  split
  · rename_i hj
    rw [Array.getElem?_toList, Go.Lib.lay_get? _ _ _ _ (by rw [Go.Lib.lay_size]; omega), if_neg (by omega), Go.Lib.lay_get? _ _ _ _ (by omega), if_pos (by omega)]
    simp
  · rename_i hj
    rw [List.getElem?_eq_none (by omega)]

set_option maxHeartbeats 4000000 in
theorem del_any {w : World} {base : Nat} (A : Option Addr) (k c n : Nat) (gs : List (Int × Int)) (hk : gs.length = k) (hkm : k ≤ 100000) (hn : n ≤ k) (how : w.ownsRow base 142 2 (.slice A k c) k (giC gs)) :
    Calls Try.prog 93 #[.slice A k c, .int .i64 0, .int .i64 n] w fun e w' => e = .returned (.slice A ((k - n : Nat) : Nat) c) ∧ w'.ownsRow base 142 2 (.slice A ((k - n : Nat) : Nat) c) (k - n) (giC (gs.drop n)) ∧ Keep (ownL (.slice A k c)) w w' := by
  by_cases hn0 : n = 0
  · subst hn0
    have H := Lib.hid how
    have kc : k ≤ c := by
      rcases how.2 with ⟨e, _⟩ | ⟨g, cap, cur, e, _, _, h, _⟩
      · injection e with _ e1 e2; omega
      · injection e with _ e1 e2; omega
    clear how
    have HA : A = none → c = 0 := by
      intro e; subst e
      rcases H.out.2 with ⟨e, _⟩ | ⟨g, cap, cur, e, _⟩
      · injection e
      · injection e with e; cases e
    cases A with
    | none =>
      obtain rfl := HA rfl
      obtain rfl : k = 0 := by omega
      go_enter Try.func93, Try.ntmps93
      go_wp2
      go_ret
      exact ⟨rfl, by simpa using H.out, Keep.refl _ _⟩
    | some a =>
      have cm : c ≤ maxLen := by
        rcases H.out.2 with ⟨e, _⟩ | ⟨g, cap, cur, e, _, _, _, h, _⟩
        · injection e with e; cases e
        · injection e with _ _ e2; omega
      unfold maxLen at cm
      clear HA
      go_enter Try.func93, Try.ntmps93
      go_wp2
      all_goals (go_ret; exact ⟨rfl, by simpa using H.out, Keep.refl _ _⟩)
  · rcases how.2 with ⟨_, e⟩ | ⟨g, cap, cur, e, hb, hg, hcap, hmx, hsz, htk⟩
    · omega
    injection e with e1 e2 e3
    subst e1 e3
    have hx := how.1
    clear how
    unfold maxLen at hmx
    have hB : Blk w g 142 cur := hg
    obtain ⟨news, hnews⟩ : ∃ x, x = giC (gs.drop n) := ⟨_, rfl⟩
    have hlen : news.length = (k - n) * 2 := by rw [hnews, giC_len, List.length_drop, hk]
    have hB1 := Blk.setCells news 0 w.drew cur hB.drew
    obtain ⟨A, hA, hsrc⟩ : ∃ A : Addr, (if c = n then (some ⟨g, 0, none⟩ : Option Addr) else some ⟨g, n * 2, none⟩) = some A ∧ Hid (∀ t u, news[t]? = some u → w.drew.cell? (A.add t) = some u) := by
      by_cases h : c = n
      · refine ⟨⟨g, 0, none⟩, by simp [h], Lib.hid fun t u hu => ?_⟩
        have h0 : news.length = 0 := by rw [hlen]; omega
        rw [List.length_eq_zero_iff.1 h0] at hu
        simp at hu
      · refine ⟨⟨g, n * 2, none⟩, by simp [h], Lib.hid fun t u hu => ?_⟩
        have ht : t < (k - n) * 2 := by
          have := (List.getElem?_eq_some_iff.1 hu).1
          rwa [hlen] at this
        rw [Addr.add_lit, Blk.cell hB.drew]
        rw [hnews, giC_drop, ← htk, List.getElem?_drop, List.getElem?_take, if_pos (by omega), Array.getElem?_toList] at hu
        exact hu
    have s1 := Lib.hid hlen
    have s2 := Lib.hid (show ∀ u ∈ news, u.oneCell' = true by rw [hnews]; exact giC_one _)
    have s3 := Lib.hid (show ∀ t, t < news.length → (w.drew.cell? ⟨g, 0 + 0 * 2 + t, none⟩).isSome = true ∧ w.drew.frozen? ⟨g, 0 + 0 * 2 + t, none⟩ = false from fun t ht => ⟨by rw [Blk.cell hB.drew, Array.getElem?_eq_getElem (by omega)]; rfl, hB.drew.frozen _⟩)
    have hcl : ∀ ty, (Builtin.clear_ #[140] ty #[.slice (some ⟨g, (k - n) * 2, none⟩) (k - (k - n)) (c - (k - n))]).run Try.prog (w.drew.setCells g 0 news) = .ok (.tuple #[]) ((w.drew.setCells g 0 news).setCells g ((k - n) * 2) (zgi (k - (k - n)))) :=
      fun ty => run_clear_gi _ ty g ((k - n) * 2) (k - (k - n)) _ (by omega) (fun j hj => by rw [Blk.cell hB1, Array.getElem?_eq_getElem (by rw [Go.Lib.lay_size]; omega)]; rfl) (fun j hj => hB1.frozen _)
    have HB2 := Lib.hid (Blk.setCells (zgi (k - (k - n))) ((k - n) * 2) _ _ hB1)
    have HK := Lib.hid ((((Keep.refl [g] w).drewN 1).setCells (g := g) (by simp) 0 news).setCells (g := g) (by simp) ((k - n) * 2) (zgi (k - (k - n))))
    have HN := Lib.hid hnews
    have HCUR := Lib.hid hsz
    obtain ⟨iD, hiD, hzD, hsD, hbD⟩ := info_parts infoGi
    clear hB1 hB hg htk hnews hx hsz
    go_enter Try.func93, Try.ntmps93
    go_wp2_with fail
    clear e2
    have hn1 : 0 < n := by omega
    have hnc : n ≤ c := by omega
    go_region_law (refine step_append_room rfl (.tmp 22) (.tmp 25) 140 rfl 142 iD 2 Try.underlying140 hiD hsD g 0 0 c (by simp [Act.eval, Act.put]) A (k - n) (c - n) news (by simp [Act.eval, Act.put]) s1.out hsrc.out s2.out (by omega) s3.out ?_)
    have hkc : ¬ c = k - n := by omega
    have hk0 : ¬ k - (k - n) = 0 := by omega
    clear hsrc s3 hA hiD hzD hsD hbD
    go_wp2
    go_ret
    rw [← HN.out]
    refine ⟨rfl, ⟨hlen, .inr ⟨g, c, _, rfl, hb, HB2.out, by omega, by unfold maxLen; omega, by rw [Go.Lib.lay_size, Go.Lib.lay_size]; exact HCUR.out, ?_⟩⟩, HK.out⟩
    have h := lay_take cur news (zgi (k - (k - n))) (by rw [zgi_len, hlen, HCUR.out]; omega)
    rw [hlen] at h
    exact h
end Go.Proofs.Ytoeencklcemofaa
