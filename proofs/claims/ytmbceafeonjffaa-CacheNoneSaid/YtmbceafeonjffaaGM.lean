/-
  Several small texts in one: CaA, CaB, CaC. Conditions stand in each theorem.
-/
import Derived.Test.YtmbceafeonjffaaGL
import Derived.Lib.SliceRun
import Derived.Lib.SlicesDelete
import Derived.Deep.AppendLies
import Derived.RegionTactic
import Derived.BigRegion
import Derived.Deep.RegionLaw
namespace Go.Proofs.Ytmbceafeonjffaa
open Go.RowKit Go.Deep Plain
set_option linter.unusedVariables false
set_option linter.unusedSimpArgs false
set_option maxRecDepth 100000
/-- a row of ints of one's own -/
def OwJ (base : Nat) (w : World) (A : Option Addr) (n c : Nat) (zs : List Int) : Prop := w.ownsRow base 3 1 (.slice A n c) n (iv zs)
/-- ints that read as a list, where they may be nil -/
structure RdJ (w : World) (A : Option Addr) (n c : Nat) (zs : List Int) : Prop where
  len : zs.length = n
  rd : RdI w A zs
  nil : A = none → c = 0
section
variable {w w' w0 : World} {base base' n c m : Nat} {A : Option Addr} {zs : List Int}
theorem OwI.j (h : OwI base w A n c zs) : OwJ base w A n c zs := h.row
theorem OwI.rj (h : OwI base w A n c zs) : RdJ w A n c zs := ⟨h.len, h.rdI, fun e => by
  rcases h.row.2 with ⟨q, _⟩ | ⟨g, cap, cur, q, _⟩
  · injection q
  · rw [e] at q; injection q with q; cases q⟩
theorem OwJ.len (h : OwJ base w A n c zs) : zs.length = n := by have := h.1; simpa [iv] using this
theorem OwJ.below (h : OwJ base w A n c zs) (hb : Below w.heap.size w w') : OwJ base w' A n c zs := own_below h hb
theorem OwJ.lower (h : OwJ base w A n c zs) (hb : base' ≤ base) : OwJ base' w A n c zs := own_base h hb
theorem OwJ.nil (base : Nat) (w : World) : OwJ base w none 0 0 [] := World.ownsRow_nil _ _ _ _
theorem OwJ.keep {bs : List Nat} (h : OwJ base w A n c zs) (hk : Keep bs w w') (hb : ∀ g, (Value.slice A n c).ownBlock = some g → g ∉ bs) : OwJ base w' A n c zs := own_keep h hk hb
/-- what such a row is -/
theorem OwJ.shape (h : OwJ base w A n c zs) : (A = none ∧ n = 0 ∧ c = 0) ∨ ∃ g cur, A = some ⟨g, 0, none⟩ ∧ base ≤ g ∧ Blk w g 3 cur ∧ n ≤ c ∧ c ≤ maxLen ∧ cur.size = c ∧ cur.toList.take n = iv zs := by
  rcases h.2 with ⟨q, h2⟩ | ⟨g, cap, cur, q, hb, hh, hnc, hcm, hcs, htk⟩
  · injection q with q1 q2 q3
    exact .inl ⟨q1, q2, q3⟩
  · injection q with q1 q2 q3
    subst q1 q3
    exact .inr ⟨g, cur, rfl, hb, hh, hnc, hcm, by omega, by simpa using htk⟩
theorem OwJ.of {g : Nat} {cur : Array Value} (hl : zs.length = n) (hb : base ≤ g) (h : Blk w g 3 cur) (hn : n ≤ c) (hc : c ≤ maxLen) (hs : cur.size = c) (ht : cur.toList.take n = iv zs) : OwJ base w (some ⟨g, 0, none⟩) n c zs :=
  ⟨by simp [iv, hl], .inr ⟨g, c, cur, rfl, hb, h, hn, hc, by omega, by simpa using ht⟩⟩
/-- the last ones are left out -/
theorem OwJ.less (h : OwJ base w A n c zs) (hm : m ≤ n) : OwJ base w A m c (zs.take m) := by
  have hl := h.len
  rcases h.shape with ⟨rfl, rfl, rfl⟩ | ⟨g, cur, rfl, hb, hh, hnc, hcm, hcs, htk⟩
  · obtain rfl : m = 0 := by omega
    simpa using OwJ.nil base w
  · refine OwJ.of (by rw [List.length_take]; omega) hb hh (by omega) hcm hcs ?_
    rw [show iv (zs.take m) = (iv zs).take m by simp [iv], ← htk, List.take_take, Nat.min_eq_left hm]
theorem OwJ.rd (h : OwJ base w A n c zs) : RdJ w A n c zs := by
  have hl := h.len
  rcases h.shape with ⟨rfl, rfl, rfl⟩ | ⟨g, cur, rfl, hb, hh, hnc, hcm, hcs, htk⟩
  · exact ⟨hl, fun h0 => by omega, fun _ => rfl⟩
  · refine ⟨hl, fun h0 => ⟨g, 0, rfl, hh.lt, fun j hj => ?_⟩, fun e => by cases e⟩
    rw [Nat.zero_add, hh.cell j]
    have h3 : (cur.toList.take n)[j]? = (iv zs)[j]? := by rw [htk]
    rw [List.getElem?_take_of_lt (by omega)] at h3
    have h4 : (iv zs)[j]? = some (.int .i64 (zs.getD j 0)) := by simp [iv, hj, List.getD]
    rw [h4] at h3
    simpa using h3
theorem OwJ.nc (h : OwJ base w A n c zs) : n ≤ c ∧ c ≤ maxLen := by
  rcases h.shape with ⟨_, rfl, rfl⟩ | ⟨g, cur, _, hb, hh, hnc, hcm, hcs, htk⟩
  · exact ⟨Nat.le_refl _, Nat.zero_le _⟩
  · exact ⟨hnc, hcm⟩
theorem RdJ.below (h : RdJ w A n c zs) (hb : Below w.heap.size w w') : RdJ w' A n c zs := ⟨h.len, h.rd.below hb, h.nil⟩
theorem RdJ.less (h : RdJ w A n c zs) (hm : m ≤ n) : RdJ w A m c (zs.take m) := ⟨by rw [List.length_take, h.len]; omega, fun hp => by
  rw [List.length_take] at hp
  obtain ⟨b, off, e, hl, hc⟩ := h.rd (by omega)
  refine ⟨b, off, e, hl, fun j hj => ?_⟩
  rw [List.length_take] at hj
  rw [hc j (by omega)]
  simp [List.getD, List.getElem?_take_of_lt (show j < m by omega)], h.nil⟩
end
/-- many more at a row's end -/
theorem wpList_joinJ {w w0 : World} {base n m c2 : Nat} {A A2 : Option Addr} {c : Nat} {zs ys : List Int} {ops : Array Oper} {rest : List Oper} {o : Oper} {a : Act} {Q : Exit → Act → World → Prop} (hgd : o.guard = none) (sx xx : Operand)
    (ho : o.op = .call { callee := .builtin .append, args := #[sx, xx], argTypes := #[29, 29] })
    (hs : a.eval sx = .slice A n c) (hI : OwJ base w A n c zs) (hx : a.eval xx = .slice A2 m c2) (hJ : RdJ w A2 m c2 ys) (B : Below base w0 w) (hbase : base ≤ w.heap.size) (hn : n + m ≤ 1000000)
    (h : ∀ A' c' w', OwJ base w' A' (n + m) c' (zs ++ ys) → Below base w0 w' → Keep (ownLs (.slice A n c)) w w' → ((Value.slice A' (n + m) c').ownBlock = (Value.slice A n c).ownBlock ∨ (Value.slice A' (n + m) c').ownBlock = some w.heap.size) → wpList Try.prog ops Q rest (a.put o.dst (.slice A' (n + m : Nat) c')) w') :
    wpList Try.prog ops Q (o :: rest) a w := by
  obtain ⟨i, hi, hz, hsz, hb⟩ := info_parts infoInt
  rcases A2 with _ | ad
  · obtain rfl := hJ.nil rfl
    have hy : ys = [] := by
      rcases Nat.eq_zero_or_pos ys.length with h0 | h0
      · exact List.length_eq_zero_iff.1 h0
      · obtain ⟨_, _, e, _⟩ := hJ.rd h0
        cases e
    subst hy
    obtain rfl : m = 0 := by have := hJ.len; simpa using this.symm
    refine wpList_append_own_none hgd sx xx 29 ho base 3 i 1 Try.underlying29 hi _ n (iv zs) hs hI hx ?_
    exact h A c w (by simpa using hI) B (Keep.refl _ _) (.inl rfl)
  · have hlen := hJ.len
    have hcells : ∀ j u, (iv ys)[j]? = some u → w.cell? (ad.add j) = some u := by
      intro j u hu
      have hj : j < ys.length := by have := (List.getElem?_eq_some_iff.1 hu).1; simpa [iv] using this
      obtain ⟨b, off, e, _, hc⟩ := hJ.rd (by omega)
      injection e with e
      subst e
      rw [addr_add, hc j hj, ← hu]
      simp [iv, hj, List.getD]
    refine wpList_append_own_at w hgd sx xx 29 ho base 3 i (.int .i64 0) 1 8 Try.underlying29 hi hz hsz hb rfl (by decide) _ n (iv zs) hs hI ad m c2 (iv ys) hx (by simp [iv, hlen]) hcells (by intro u hu; obtain ⟨x, _, rfl⟩ := List.mem_map.1 hu; rfl) (by unfold maxLen; omega) (by omega) hbase ?_
    intro v' w' how hg hnil hat
    have hk : Keep (ownLs (.slice A n c)) w w' := Keep.owns hg
    have hB : Below base w0 w' := B.grown hg hbase (fun k hk => (own_blk hI hk).1)
    rw [← iv_app] at how
    rcases how.2 with ⟨e, hn0⟩ | ⟨g', cap, cur, e, _⟩
    · subst e
      have hn : n + m = 0 := by simpa using hn0
      have := h none 0 w' (by rw [hn]; rw [hn] at how; exact how) hB hk (by rw [hn]; exact hat)
      rw [hn] at this
      exact this
    · subst e
      exact h (some ⟨g', 0, none⟩) cap w' how hB hk hat
/-- one more at a row's end -/
theorem wpList_addJ {w w0 : World} {base n : Nat} {A : Option Addr} {c : Nat} {zs : List Int} {ops : Array Oper} {rest : List Oper} {o : Oper} {a : Act} {Q : Exit → Act → World → Prop} (hgd : o.guard = none) (sx xx : Operand)
    (ho : o.op = .call { callee := .builtin .append, args := #[sx, xx], argTypes := #[29, 29] })
    (hs : a.eval sx = .slice A n c) (hI : OwJ base w A n c zs) (B : Below base w0 w) (hbase : base ≤ w.heap.size) (v : Int) (hn : n ≤ 900000)
    (H : Nat) (hx : a.eval xx = .slice (some ⟨H, 0, none⟩) 1 1) (hH : w.heap.size = H)
    (h : ∀ A' c' w', OwJ base w' A' (n + 1) c' (zs ++ [v]) → Below base w0 w' → Keep (ownLs (.slice A n c)) w w' → (∀ g, (Value.slice A' (n + 1) c').ownBlock = some g → (Value.slice A n c).ownBlock = some g ∨ w.heap.size ≤ g) → wpList Try.prog ops Q rest (a.put o.dst (.slice A' (n + 1) c')) w') :
    wpList Try.prog ops Q (o :: rest) a (w.alloc (.cells #[.int .i64 v] 3)) := by
  have hal := ball w (.cells #[.int .i64 v] 3)
  have hbk := Blk.new w 3 #[.int .i64 v]
  rw [hH] at hbk
  refine wpList_joinJ hgd sx xx ho hs (hI.below hal) (A2 := some ⟨H, 0, none⟩) (m := 1) (c2 := 1) (ys := [v]) hx ⟨rfl, fun _ => ⟨H, 0, rfl, hbk.lt, fun j hj => ?_⟩, fun e => by cases e⟩ (B.alloc hbase _) (by simp; omega) (by omega) ?_
  · obtain rfl : j = 0 := by simpa using hj
    exact hbk.cell 0
  · intro A' c' w' h1 h2 h3 h4
    refine h A' c' w' h1 h2 ((Keep.of_below (bs := ownLs (.slice A n c)) hal).trans h3) (fun g hg => ?_)
    rcases h4 with q | q
    · left; rw [← q]; exact hg
    · right
      rw [hg] at q
      injection q with q
      rw [World.size_alloc] at q
      omega
end Go.Proofs.Ytmbceafeonjffaa

namespace Go.Proofs.Ytmbceafeonjffaa
open Go.RowKit Go.Deep Plain
set_option linter.unusedVariables false
set_option linter.unusedSimpArgs false
set_option maxRecDepth 100000
theorem Blk.setCells {g : Nat} {t : TypeId} : ∀ (vs : List Value) (o : Nat) (w : World) (cs : Array Value), Blk w g t cs → Blk (w.setCells g o vs) g t (Go.Lib.lay cs o vs)
  | [], _, _, _, h => h
  | v :: r, o, w, cs, h => Blk.setCells r (o + 1) _ _ (h.set o v)
theorem grown_setCells (g : Nat) : ∀ (vs : List Value) (o : Nat) (w : World), w.grownBy (w.setCells g o vs) (some g)
  | [], _, w => ⟨rfl, rfl, rfl, Nat.le_refl _, fun _ _ _ => rfl⟩
  | v :: r, o, w => by
    have h1 := grown_setCell w g o v
    have h2 := grown_setCells g r (o + 1) (w.setCell ⟨g, o, none⟩ v)
    exact ⟨h2.os.trans h1.os, h2.tape.trans h1.tape, h2.output.trans h1.output, Nat.le_trans h1.size h2.size, fun k hk hn => (h2.block k (Nat.lt_of_lt_of_le hk h1.size) hn).trans (h1.block k hk hn)⟩
theorem Keep.setCells {bs : List Nat} {w w' : World} {g : Nat} (h : Keep bs w w') (hg : g ∈ bs) (o : Nat) (vs : List Value) : Keep bs w (w'.setCells g o vs) :=
  h.trans (Keep.of_grown (grown_setCells g vs o w') hg)
theorem zero_int (w : World) : (zeroValue 3).run Try.prog w = .ok (.int .i64 0) w := by kernel_rfl
def zin (m : Nat) : List Value := (Builtin.zeroCells #[.int .i64 0] m).toList
theorem zin_len (m : Nat) : (zin m).length = m := by unfold zin Builtin.zeroCells; simp
theorem zin_one (m : Nat) : ∀ v ∈ zin m, v.oneCell' = true := by
  unfold zin Builtin.zeroCells
  intro v hv
  simp only [Array.toList_map, List.mem_map] at hv
  obtain ⟨i, _, rfl⟩ := hv
  have h2 : i % 1 = 0 := Nat.mod_one i
  simp only [List.size_toArray, List.length_cons, List.length_nil]
  rw [h2]; rfl
theorem run_clear_in (w : World) (ty : TypeId) (b o m c : Nat) (hm : 0 < m) (hc : ∀ j, j < m → (w.cell? ⟨b, o + j, none⟩).isSome = true) (hf : ∀ j, j < m → w.frozen? ⟨b, o + j, none⟩ = false) :
    (Builtin.clear_ #[29] ty #[.slice (some ⟨b, o, none⟩) m c]).run Try.prog w = .ok (.tuple #[]) (w.setCells b o (zin m)) := by
  have hst := run_storeCells_cells (P := Try.prog) b o (zin m) 0 w (by rw [zin_len]; simpa using hc) (by rw [zin_len]; simpa using hf) (zin_one m)
  simp only [Nat.add_zero] at hst
  have hz : (Builtin.zeroCells (Value.int .i64 0).cells m).toList = zin m := rfl
  obtain ⟨q, rfl⟩ : ∃ q, m = q + 1 := ⟨m - 1, by omega⟩
  simp [Builtin.clear_, run_underlying Try.underlying29, zero_int w, hz, hst]
theorem iv_one (zs : List Int) : ∀ v ∈ iv zs, v.oneCell' = true := by
  intro v hv
  unfold iv at hv
  obtain ⟨x, _, rfl⟩ := List.mem_map.1 hv
  rfl
theorem iv_len (zs : List Int) : (iv zs).length = zs.length := by simp [iv]
theorem iv_drop (zs : List Int) (n : Nat) : iv (zs.drop n) = (iv zs).drop n := by simp [iv]
/-- the block behind both stores -/
theorem lay_take (cur : Array Value) (xs ys : List Value) (h : xs.length + ys.length ≤ cur.size) : (Go.Lib.lay (Go.Lib.lay cur 0 xs) xs.length ys).toList.take xs.length = xs := by
  apply List.ext_getElem?
  intro j
  rw [List.getElem?_take]
  split
  · rename_i hj
    rw [Array.getElem?_toList, Go.Lib.lay_get? _ _ _ _ (by rw [Go.Lib.lay_size]; omega), if_neg (by omega), Go.Lib.lay_get? _ _ _ _ (by omega), if_pos (by omega)]
    simp
  · rename_i hj
    rw [List.getElem?_eq_none (by omega)]
set_option maxHeartbeats 4000000 in
theorem delI_any {w : World} {base : Nat} (A : Option Addr) (k c n : Nat) (zs : List Int) (hkm : k ≤ 100000) (hn : n ≤ k) (how : OwJ base w A k c zs) :
    Calls Try.prog 69 #[.slice A k c, .int .i64 0, .int .i64 n] w fun e w' => e = .returned (.slice A ((k - n : Nat) : Nat) c) ∧ OwJ base w' A (k - n) c (zs.drop n) ∧ Keep (ownLs (.slice A k c)) w w' := by
  have hk := how.len
  have hnc := how.nc
  by_cases hn0 : n = 0
  · subst hn0
    have H := Lib.hid how
    obtain ⟨kc, cm⟩ := hnc
    unfold maxLen at cm
    rcases how.shape with ⟨rfl, rfl, rfl⟩ | ⟨g, cur, rfl, _⟩
    · clear how
      go_enter Try.func69, Try.ntmps69
      go_wp2
      go_ret
      exact ⟨rfl, by simpa using H.out, Keep.refl _ _⟩
    · clear how
      go_enter Try.func69, Try.ntmps69
      go_wp2
      all_goals (go_ret; exact ⟨rfl, by simpa using H.out, Keep.refl _ _⟩)
  · rcases how.shape with ⟨rfl, rfl, rfl⟩ | ⟨g, cur, rfl, hb, hB, hcap, hmx, hsz, htk⟩
    · omega
    clear how
    unfold maxLen at hmx
    obtain ⟨news, hnews⟩ : ∃ x, x = iv (zs.drop n) := ⟨_, rfl⟩
    have hlen : news.length = (k - n) * 1 := by rw [hnews, iv_len, List.length_drop, hk, Nat.mul_one]
    have hB1 := Blk.setCells news 0 w.drew cur hB.drew
    obtain ⟨A, hA, hsrc⟩ : ∃ A : Addr, (if c = n then (some ⟨g, 0, none⟩ : Option Addr) else some ⟨g, n, none⟩) = some A ∧ Hid (∀ t u, news[t]? = some u → w.drew.cell? (A.add t) = some u) := by
      by_cases h : c = n
      · refine ⟨⟨g, 0, none⟩, by simp [h], Lib.hid fun t u hu => ?_⟩
        have h0 : news.length = 0 := by rw [hlen]; omega
        rw [List.length_eq_zero_iff.1 h0] at hu
        simp at hu
      · refine ⟨⟨g, n, none⟩, by simp [h], Lib.hid fun t u hu => ?_⟩
        have ht : t < (k - n) * 1 := by
          have := (List.getElem?_eq_some_iff.1 hu).1
          rwa [hlen] at this
        rw [Addr.add_lit, Blk.cell hB.drew]
        rw [hnews, iv_drop, ← htk, List.getElem?_drop, List.getElem?_take, if_pos (by omega), Array.getElem?_toList] at hu
        exact hu
    have s1 := Lib.hid hlen
    have s2 := Lib.hid (show ∀ u ∈ news, u.oneCell' = true by rw [hnews]; exact iv_one _)
    have s3 := Lib.hid (show ∀ t, t < news.length → (w.drew.cell? ⟨g, 0 + 0 * 1 + t, none⟩).isSome = true ∧ w.drew.frozen? ⟨g, 0 + 0 * 1 + t, none⟩ = false from fun t ht => ⟨by rw [Blk.cell hB.drew, Array.getElem?_eq_getElem (by omega)]; rfl, hB.drew.frozen _⟩)
    have hcl : ∀ ty, (Builtin.clear_ #[29] ty #[.slice (some ⟨g, k - n, none⟩) (k - (k - n)) (c - (k - n))]).run Try.prog (w.drew.setCells g 0 news) = .ok (.tuple #[]) ((w.drew.setCells g 0 news).setCells g (k - n) (zin (k - (k - n)))) :=
      fun ty => run_clear_in _ ty g (k - n) (k - (k - n)) _ (by omega) (fun j hj => by rw [Blk.cell hB1, Array.getElem?_eq_getElem (by rw [Go.Lib.lay_size]; omega)]; rfl) (fun j hj => hB1.frozen _)
    have HB2 := Lib.hid (Blk.setCells (zin (k - (k - n))) (k - n) _ _ hB1)
    have HK := Lib.hid ((((Keep.refl [g] w).drewN 1).setCells (g := g) (by simp) 0 news).setCells (g := g) (by simp) (k - n) (zin (k - (k - n))))
    have HN := Lib.hid hnews
    have HCUR := Lib.hid hsz
    obtain ⟨iD, hiD, hzD, hsD, hbD⟩ := info_parts infoInt
    clear hB1 hB htk hnews hsz
    go_enter Try.func69, Try.ntmps69
    go_wp2_with fail
    have hn1 : 0 < n := by omega
    have hnc : n ≤ c := by omega
    go_region_law (refine step_append_room rfl (.tmp 22) (.tmp 25) 29 rfl 3 iD 1 Try.underlying29 hiD hsD g 0 0 c (by simp [Act.eval, Act.put]) A (k - n) (c - n) news (by simp [Act.eval, Act.put]) s1.out hsrc.out s2.out (by omega) s3.out ?_)
    have hkc : ¬ c = k - n := by omega
    have hk0 : ¬ k - (k - n) = 0 := by omega
    clear hsrc s3 hA hiD hzD hsD hbD
    go_wp2
    go_ret
    refine ⟨rfl, OwJ.of (by rw [List.length_drop]; omega) hb HB2.out (by omega) (by unfold maxLen; omega) (by rw [Go.Lib.lay_size, Go.Lib.lay_size]; exact HCUR.out) ?_, HK.out⟩
    have h := lay_take cur news (zin (k - (k - n))) (by rw [zin_len, hlen, HCUR.out]; omega)
    rw [hlen, Nat.mul_one] at h
    rw [← HN.out]
    exact h
end Go.Proofs.Ytmbceafeonjffaa

namespace Go.Proofs.Ytmbceafeonjffaa
open Go.RowKit Go.Deep Plain
set_option linter.unusedVariables false
set_option linter.unusedSimpArgs false
set_option maxRecDepth 100000
theorem set_ne' (l : List Int) (i j : Nat) (x : Int) (h : j ≠ i) : (l.set i x).getD j 0 = l.getD j 0 := by simp [List.getD, List.getElem?_set_ne (fun q => h q.symm)]
theorem set_eq' (l : List Int) (i : Nat) (x : Int) (h : i < l.length) : (l.set i x).getD i 0 = x := by simp [List.getD, h]
theorem List.take_set_of_lt' (l : List Value) (n i : Nat) (x : Value) (h : i < n) : (l.set i x).take n = (l.take n).set i x := by rw [List.take_set]
/-- the first i, and the last i, have changed places -/
def RvI (zs L : List Int) (i : Nat) : Prop := L.length = zs.length ∧ ∀ q, q < zs.length → L.getD q 0 = if q < i ∨ zs.length < q + 1 + i then zs.getD (zs.length - 1 - q) 0 else zs.getD q 0
theorem RvI.start (zs : List Int) : RvI zs zs 0 := ⟨rfl, fun q hq => by rw [if_neg (by omega)]⟩
theorem RvI.next {zs L : List Int} {i j : Nat} (h : RvI zs L i) (hij : i + j + 1 = zs.length) (hl : i < j) : RvI zs ((L.set i (L.getD j 0)).set j (L.getD i 0)) (i + 1) := by
  refine ⟨by simp [h.1], fun q hq => ?_⟩
  have hi := h.2 i (by omega)
  have hj := h.2 j (by omega)
  rw [if_neg (by omega)] at hi hj
  by_cases e1 : q = j
  · subst e1
    rw [set_eq' _ _ _ (by simp [h.1]; omega), hi, if_pos (by omega)]
    congr 1; omega
  · rw [set_ne' _ _ _ _ e1]
    by_cases e2 : q = i
    · subst e2
      rw [set_eq' _ _ _ (by rw [h.1]; omega), hj, if_pos (by omega)]
      congr 1; omega
    · rw [set_ne' _ _ _ _ e2, h.2 q hq]
      by_cases c : q < i ∨ zs.length < q + 1 + i
      · rw [if_pos c, if_pos (by omega)]
      · rw [if_neg c, if_neg (by omega)]
theorem RvI.stop {zs L : List Int} {i j : Int} {k : Nat} (h : RvI zs L k) (hk : i = k) (hij : i + j + 1 = zs.length) (hl : ¬ i < j) : L = zs.reverse := by
  refine List.ext_getElem? fun q => ?_
  by_cases hq : q < zs.length
  · have h2 := h.2 q hq
    have hL : q < L.length := by rw [h.1]; exact hq
    have e : L[q]? = some (L.getD q 0) := by simp [List.getD, hL]
    rw [e, h2, List.getElem?_reverse hq]
    by_cases c : q < k ∨ zs.length < q + 1 + k
    · rw [if_pos c]; simp [List.getD, show zs.length - 1 - q < zs.length by omega]
    · rw [if_neg c]
      have : q = zs.length - 1 - q := by omega
      rw [← this]
      simp [List.getD, hq]
  · rw [List.getElem?_eq_none (by rw [h.1]; omega), List.getElem?_eq_none (by simp; omega)]
theorem OwJ.set {base n c : Nat} {w : World} {g : Nat} {zs : List Int} (h : OwJ base w (some ⟨g, 0, none⟩) n c zs) (q : Nat) (hq : q < n) (x : Int) : OwJ base (w.setCell ⟨g, q, none⟩ (.int .i64 x)) (some ⟨g, 0, none⟩) n c (zs.set q x) := by
  have hl := h.len
  rcases h.shape with ⟨e, _⟩ | ⟨g', cur, e, hb, hh, hnc, hcm, hcs, htk⟩
  · cases e
  · cases e
    have h2 := hh.set q (.int .i64 x)
    refine OwJ.of (by simp [hl]) hb h2 hnc hcm (by simp [hcs]) ?_
    rw [Array.toList_setIfInBounds, List.take_set_of_lt' _ _ _ _ hq, htk]
    simp [iv, List.map_set]
set_option maxHeartbeats 4000000 in
theorem rev_any {w : World} {base : Nat} (A : Option Addr) (n c : Nat) (zs : List Int) (hn : n ≤ 100000) (how : OwJ base w A n c zs) :
    Calls Try.prog 68 #[.slice A n c] w fun e w' => e = .returned (.tuple #[]) ∧ OwJ base w' A n c zs.reverse ∧ Keep (ownLs (.slice A n c)) w w' := by
  have hl := how.len
  have HO := Lib.hid how
  have HL := Lib.hid hl
  clear how hl
  go_enter Try.func68, Try.ntmps68
  go_wp2
  go_loopw [2, 3] (fun s2 s3 wr => ∃ (i : Nat) (j : Int) (L : List Int), s2 = .int .i64 i ∧ s3 = .int .i64 j ∧ (i : Int) + j + 1 = n ∧ RvI zs L i ∧ OwJ base wr A n c L ∧ Keep (ownLs (.slice A n c)) w wr) (fun s2 _ _ => n + 1 - (intOf s2).toNat)
  case atStart => exact ⟨0, (n : Int) - 1, zs, rfl, rfl, by omega, RvI.start zs, HO.out, Keep.refl _ _⟩
  case round =>
    obtain ⟨i, j, L, rfl, rfl, hij, hR, hO, hK⟩ := hrel
    have HR := Lib.hid hR
    have HO2 := Lib.hid hO
    have HK := Lib.hid hK
    clear hR hO hK
    by_cases hlt : (i : Int) < j
    · have d : decide ((i : Int) < j) = true := decide_eq_true hlt
      obtain ⟨j, rfl⟩ : ∃ q : Nat, j = q := ⟨j.toNat, by omega⟩
      have hj : j < n := by omega
      have hi : i < n := by omega
      obtain ⟨g, off, rfl, hg, hc⟩ := HO2.out.rd.rd (by rw [HR.out.1, HL.out]; omega)
      have hoff : off = 0 := by
        rcases HO2.out.shape with ⟨e, _⟩ | ⟨g', cur, e, _⟩
        · cases e
        · injection e with e; injection e
      subst hoff
      have p0 : wr.cell? ⟨g, i, none⟩ = some (.int .i64 (L.getD i 0)) := by have := hc i (by rw [HR.out.1, HL.out]; omega); rwa [Nat.zero_add] at this
      have p1 : wr.cell? ⟨g, j, none⟩ = some (.int .i64 (L.getD j 0)) := by have := hc j (by rw [HR.out.1, HL.out]; omega); rwa [Nat.zero_add] at this
      have f0 : ∀ q, wr.frozen? ⟨g, q, none⟩ = false := fun q => by
        rcases HO2.out.shape with ⟨e, _⟩ | ⟨g', cur, e, _, hh, _⟩
        · cases e
        · injection e with e; injection e with e; subst e; exact hh.frozen q
      have f1 := f0 i
      have f2 := f0 j
      have HN := Lib.hid (HR.out.next (j := j) (by rw [HL.out]; omega) (by omega))
      obtain ⟨x, hx⟩ : ∃ x, L.getD i 0 = x := ⟨_, rfl⟩
      obtain ⟨y, hy⟩ : ∃ y, L.getD j 0 = y := ⟨_, rfl⟩
      rw [hx] at p0 HN
      rw [hy] at p1 HN
      have HO3 := Lib.hid ((HO2.out.set i hi y).set j hj x)
      have i1 : (i : Int) < (n : Int) := by omega
      have i2 : (j : Int) < (n : Int) := by omega
      have hne : i ≠ j := by omega
      have d' : decide (i < j) = true := decide_eq_true (by omega)
      have hij2 : i + j + 1 = n := by omega
      clear hc hx hy f0 hlt
      go_upto_region 3 with fail
      go_region
      have HO4 := Lib.hid (show OwJ base (((wr.setCell ⟨g, i, none⟩ (.int .i64 y)).setCell ⟨g, j, none⟩ (.int .i64 x)).drew) (some ⟨g, 0, none⟩) n c ((L.set i y).set j x) from HO3.out.below (bdrew _))
      have HK4 := Lib.hid (((HK.out.setCell (p := ⟨g, i, none⟩) (.inl (by simp [ownLs, Value.ownBlock])) (.int .i64 y)).setCell (p := ⟨g, j, none⟩) (.inl (by simp [ownLs, Value.ownBlock])) (.int .i64 x)).drew)
      clear p0 p1 f1 f2 HO3 HO2 HK
      generalize ((wr.setCell ⟨g, i, none⟩ (.int .i64 y)).setCell ⟨g, j, none⟩ (.int .i64 x)).drew = w5 at *
      go_wp2
      go_roundw
      case rel => exact ⟨i + 1, (j : Int) - 1, _, by go_num, rfl, by omega, HN.out, HO4.out, HK4.out⟩
      case measure => simp [intOf]; omega
    · have d : decide ((i : Int) < j) = false := decide_eq_false hlt
      have HE := Lib.hid (HR.out.stop rfl (by rw [HL.out]; exact hij) hlt)
      go_wp2
      go_end0
      exact ⟨rfl, by rw [← HE.out]; exact HO2.out, HK.out⟩
/-- a row without elements -/
theorem own0J {w : World} {g : Nat} (hb : Blk w g 3 #[]) : OwJ g w (some ⟨g, 0, none⟩) 0 0 [] :=
  ⟨rfl, Or.inr ⟨g, 0, #[], rfl, Nat.le_refl _, hb, Nat.le_refl _, Nat.zero_le _, rfl, rfl⟩⟩
set_option maxHeartbeats 4000000 in
theorem clone_any {w : World} {A : Option Addr} {n c : Nat} {zs : List Int} (h : RdJ w A n c zs) (hn : n ≤ 900000) :
    Calls Try.prog 57 #[.slice A n c] w fun e w' => ∃ A' c', e = .returned (.slice A' n c') ∧ RdJ w' A' n c' zs ∧ Below w.heap.size w w' := by
  rcases A with _ | a
  · obtain rfl := h.nil rfl
    have hz : zs = [] := by
      rcases Nat.eq_zero_or_pos zs.length with h0 | h0
      · exact List.length_eq_zero_iff.1 h0
      · obtain ⟨_, _, e, _⟩ := h.rd h0
        cases e
    subst hz
    obtain rfl : n = 0 := by have := h.len; simpa using this.symm
    have H := Lib.hid h
    have hq : ∀ W, (binOp .eql 29 (.slice none 0 0) (.slice none 0 0)).run Try.prog W = .ok (.bool true) W := fun W => by rfl
    clear h
    go_enter Try.func57, Try.ntmps57
    go_wp2
    go_ret
    exact ⟨none, 0, rfl, H.out, Below.refl _ _⟩
  · have hal := ball w (.cells #[] 3)
    have HR := Lib.hid (h.below hal)
    have HB := Lib.hid hal
    have HE := Lib.hid (own0J (Blk.new w 3 #[]))
    have hq : ∀ W, (binOp .eql 29 (.slice (some a) n c) (.slice none 0 0)).run Try.prog W = .ok (.bool false) W := fun W => by rfl
    clear h hal
    go_enter Try.func57, Try.ntmps57
    go_wp2_with (at_builtin; refine wpList_joinJ rfl (.tmp 5) (.tmp 6) rfl rfl (HE.out) rfl (HR.out) (Below.refl _ _) (by simp) (by omega) ?_; intro A' c' w' hI' hB' hK' _; have HI1 := Lib.hid hI'; have HK1 := Lib.hid hK'; clear hI' hB' hK'; rw [Nat.zero_add] at *)
    go_ret
    refine ⟨A', c', rfl, ?_, HK1.out.below HB.out (Nat.le_refl _) (fun x hx => by simp [ownLs, Value.ownBlock] at hx; omega)⟩
    have h2 := HI1.out.rd
    simpa using h2
end Go.Proofs.Ytmbceafeonjffaa
