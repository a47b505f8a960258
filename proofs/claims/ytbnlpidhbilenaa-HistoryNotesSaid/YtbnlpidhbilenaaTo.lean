/-
  fanlightlaw18.To: an event as an Entry, with frames of its own. Conditions stand in each theorem.
-/
import Derived.Test.YtbnlpidhbilenaaGD
import Derived.Deep.RegionHeld3
namespace Go.Proofs.Ytbnlpidhbilenaa
open Go.RowKit Go.Deep Plain
set_option linter.unusedVariables false
set_option linter.unusedSimpArgs false
set_option maxRecDepth 100000
theorem own0 {w : World} {g : Nat} (hb : Blk w g 5 #[]) : w.ownsRow g 5 1 (.slice (some ⟨g, 0, none⟩) 0 0) 0 [] :=
  ⟨rfl, Or.inr ⟨g, 0, #[], rfl, Nat.le_refl _, hb, Nat.le_refl _, Nat.zero_le _, rfl, rfl⟩⟩
/-- bytes are appended to a row of none -/
theorem app0 {w : World} {g : Nat} (hb : Blk w g 5 #[]) {B : Option Addr} {m d : Nat} {ys : List Int} (hR : Rd w B ys) (hm : ys.length = m) (hl : m ≤ 140737488355328) (ty : TypeId) :
    ∃ A' c' w', (Builtin.append_ #[27, 27] ty #[.slice (some ⟨g, 0, none⟩) 0 0, .slice B m d]).run Try.prog w = .ok (.slice A' m c') w' ∧ w.grownBy w' (some g) := by
  obtain ⟨i, hi, hz, hs, hby⟩ := info_parts info8
  rcases B with _ | ad
  · have hm0 : m = 0 := by
      rcases Nat.eq_zero_or_pos m with h0 | h0
      · exact h0
      · obtain ⟨_, _, h, _⟩ := hR.2 (by omega)
        cases h
    subst hm0
    refine ⟨some ⟨g, 0, none⟩, 0, w, ?_, World.grownBy.refl w _⟩
    simp [Builtin.append_, run_underlying Try.underlying27, sizeOf, typeInfo, hi, Builtin.lenOf, Builtin.firstCells, storeCells]
  · have hcells : ∀ j u, (ys.map (Value.int .u8))[j]? = some u → w.cell? (ad.add j) = some u := by
      intro j u hu
      rcases Nat.eq_zero_or_pos ys.length with h0 | h0
      · have hys : ys = [] := List.eq_nil_of_length_eq_zero h0
        subst hys
        simp at hu
      · obtain ⟨b, off, e, hc⟩ := hR.2 h0
        injection e with e
        subst e
        have hj : j < ys.length := by
          rcases Nat.lt_or_ge j ys.length with h | h
          · exact h
          · rw [List.getElem?_eq_none (by simpa using h)] at hu; cases hu
        have h1 := hc j hj
        have hadd : (⟨b, off, none⟩ : Addr).add j = ⟨b, off + j, none⟩ := by unfold Addr.add; split <;> simp_all
        rw [hadd, h1, ← hu]
        simp [hj, List.getD]
    obtain ⟨v', w1, hrun, h2, h3, _, _⟩ := run_append_own_at (P := Try.prog) w g 27 ty 5 i (.int .u8 0) 1 1 Try.underlying27 hi hz hs hby rfl (by decide) (.slice (some ⟨g, 0, none⟩) 0 0) 0 _ (own0 hb) ad m d (ys.map (Value.int .u8))
      (by simpa using hm) hcells (by intro u hu; obtain ⟨x, _, rfl⟩ := List.mem_map.1 hu; rfl) (by unfold maxLen; omega) (by omega) (Nat.le_of_lt hb.lt)
    rw [Nat.zero_add] at h2
    rcases h2.2 with ⟨e, hn0⟩ | ⟨g', cap, cur, e, r⟩
    · subst e
      have hn : m = 0 := by simpa using hn0
      subst hn
      exact ⟨none, 0, w1, hrun, h3⟩
    · subst e
      exact ⟨some ⟨g', 0, none⟩, cap, w1, hrun, h3⟩
theorem app0_step {w : World} {g : Nat} {ops : Array Oper} {o : Oper} {a : Act} {K : Act → World → Prop} {Q : Exit → Act → World → Prop} {E : Prop} (hgd : o.guard = none) (s x : Operand)
    (ho : o.op = .call { callee := .builtin .append, args := #[s, x], argTypes := #[27, 27] })
    (hs : a.eval s = .slice (some ⟨g, 0, none⟩) 0 0) (hb : Blk w g 5 #[]) {B : Option Addr} {m d : Nat} (ys : List Int) (hx : a.eval x = .slice B m d) (hR : Rd w B ys) (hm : ys.length = m) (hl : m ≤ 140737488355328)
    (h : ∀ A' c' w', w.grownBy w' (some g) → K (a.put o.dst (.slice A' m c')) w') :
    if Region.wanted o (yielded ops a.tmps) = true then Oper.wp Try.prog o a w K Q else E := by
  have hw : Region.wanted o (yielded ops a.tmps) = true := by simp [Region.wanted, hgd]
  rw [if_pos hw]
  obtain ⟨A', c', w', hrun, h3⟩ := app0 hb hR hm hl o.type (d := d)
  unfold Oper.wp execOp
  simp only [ho, resolve, invoke, builtin, Sem.run_bind, Sem.run_pure, Result.andThen_ok, List.map_toArray, List.map_cons, List.map_nil, hs, hx, hrun]
  exact h A' c' w' h3
theorem Blk.set11 {W : World} {g : Nat} {t : TypeId} {z0 z1 z2 z3 z4 z5 z6 z7 z8 z9 z10 : Value} (h : Blk W g t #[z0, z1, z2, z3, z4, z5, z6, z7, z8, z9, z10]) (v0 v1 v2 v3 v4 v5 v6 v7 v8 v9 v10 : Value) : Blk (((((((((((W.setCell ⟨g, 0, none⟩ v0).setCell ⟨g, 1, none⟩ v1).setCell ⟨g, 2, none⟩ v2).setCell ⟨g, 3, none⟩ v3).setCell ⟨g, 4, none⟩ v4).setCell ⟨g, 5, none⟩ v5).setCell ⟨g, 6, none⟩ v6).setCell ⟨g, 7, none⟩ v7).setCell ⟨g, 8, none⟩ v8).setCell ⟨g, 9, none⟩ v9).setCell ⟨g, 10, none⟩ v10) g t #[v0, v1, v2, v3, v4, v5, v6, v7, v8, v9, v10] := by
  have h0 : Blk (W.setCell ⟨g, 0, none⟩ v0) g t #[v0, z1, z2, z3, z4, z5, z6, z7, z8, z9, z10] := h.set 0 v0
  have h1 : Blk ((W.setCell ⟨g, 0, none⟩ v0).setCell ⟨g, 1, none⟩ v1) g t #[v0, v1, z2, z3, z4, z5, z6, z7, z8, z9, z10] := h0.set 1 v1
  have h2 : Blk (((W.setCell ⟨g, 0, none⟩ v0).setCell ⟨g, 1, none⟩ v1).setCell ⟨g, 2, none⟩ v2) g t #[v0, v1, v2, z3, z4, z5, z6, z7, z8, z9, z10] := h1.set 2 v2
  have h3 : Blk ((((W.setCell ⟨g, 0, none⟩ v0).setCell ⟨g, 1, none⟩ v1).setCell ⟨g, 2, none⟩ v2).setCell ⟨g, 3, none⟩ v3) g t #[v0, v1, v2, v3, z4, z5, z6, z7, z8, z9, z10] := h2.set 3 v3
  have h4 : Blk (((((W.setCell ⟨g, 0, none⟩ v0).setCell ⟨g, 1, none⟩ v1).setCell ⟨g, 2, none⟩ v2).setCell ⟨g, 3, none⟩ v3).setCell ⟨g, 4, none⟩ v4) g t #[v0, v1, v2, v3, v4, z5, z6, z7, z8, z9, z10] := h3.set 4 v4
  have h5 : Blk ((((((W.setCell ⟨g, 0, none⟩ v0).setCell ⟨g, 1, none⟩ v1).setCell ⟨g, 2, none⟩ v2).setCell ⟨g, 3, none⟩ v3).setCell ⟨g, 4, none⟩ v4).setCell ⟨g, 5, none⟩ v5) g t #[v0, v1, v2, v3, v4, v5, z6, z7, z8, z9, z10] := h4.set 5 v5
  have h6 : Blk (((((((W.setCell ⟨g, 0, none⟩ v0).setCell ⟨g, 1, none⟩ v1).setCell ⟨g, 2, none⟩ v2).setCell ⟨g, 3, none⟩ v3).setCell ⟨g, 4, none⟩ v4).setCell ⟨g, 5, none⟩ v5).setCell ⟨g, 6, none⟩ v6) g t #[v0, v1, v2, v3, v4, v5, v6, z7, z8, z9, z10] := h5.set 6 v6
  have h7 : Blk ((((((((W.setCell ⟨g, 0, none⟩ v0).setCell ⟨g, 1, none⟩ v1).setCell ⟨g, 2, none⟩ v2).setCell ⟨g, 3, none⟩ v3).setCell ⟨g, 4, none⟩ v4).setCell ⟨g, 5, none⟩ v5).setCell ⟨g, 6, none⟩ v6).setCell ⟨g, 7, none⟩ v7) g t #[v0, v1, v2, v3, v4, v5, v6, v7, z8, z9, z10] := h6.set 7 v7
  have h8 : Blk (((((((((W.setCell ⟨g, 0, none⟩ v0).setCell ⟨g, 1, none⟩ v1).setCell ⟨g, 2, none⟩ v2).setCell ⟨g, 3, none⟩ v3).setCell ⟨g, 4, none⟩ v4).setCell ⟨g, 5, none⟩ v5).setCell ⟨g, 6, none⟩ v6).setCell ⟨g, 7, none⟩ v7).setCell ⟨g, 8, none⟩ v8) g t #[v0, v1, v2, v3, v4, v5, v6, v7, v8, z9, z10] := h7.set 8 v8
  have h9 : Blk ((((((((((W.setCell ⟨g, 0, none⟩ v0).setCell ⟨g, 1, none⟩ v1).setCell ⟨g, 2, none⟩ v2).setCell ⟨g, 3, none⟩ v3).setCell ⟨g, 4, none⟩ v4).setCell ⟨g, 5, none⟩ v5).setCell ⟨g, 6, none⟩ v6).setCell ⟨g, 7, none⟩ v7).setCell ⟨g, 8, none⟩ v8).setCell ⟨g, 9, none⟩ v9) g t #[v0, v1, v2, v3, v4, v5, v6, v7, v8, v9, z10] := h8.set 9 v9
  have h10 : Blk (((((((((((W.setCell ⟨g, 0, none⟩ v0).setCell ⟨g, 1, none⟩ v1).setCell ⟨g, 2, none⟩ v2).setCell ⟨g, 3, none⟩ v3).setCell ⟨g, 4, none⟩ v4).setCell ⟨g, 5, none⟩ v5).setCell ⟨g, 6, none⟩ v6).setCell ⟨g, 7, none⟩ v7).setCell ⟨g, 8, none⟩ v8).setCell ⟨g, 9, none⟩ v9).setCell ⟨g, 10, none⟩ v10) g t #[v0, v1, v2, v3, v4, v5, v6, v7, v8, v9, v10] := h9.set 10 v10
  exact h10
theorem Blk.ne11 {W : World} {g k : Nat} {t : TypeId} {cs : Array Value} (h : Blk W k t cs) (hp : g ≠ k) (v0 v1 v2 v3 v4 v5 v6 v7 v8 v9 v10 : Value) : Blk (((((((((((W.setCell ⟨g, 0, none⟩ v0).setCell ⟨g, 1, none⟩ v1).setCell ⟨g, 2, none⟩ v2).setCell ⟨g, 3, none⟩ v3).setCell ⟨g, 4, none⟩ v4).setCell ⟨g, 5, none⟩ v5).setCell ⟨g, 6, none⟩ v6).setCell ⟨g, 7, none⟩ v7).setCell ⟨g, 8, none⟩ v8).setCell ⟨g, 9, none⟩ v9).setCell ⟨g, 10, none⟩ v10) k t cs :=
  (((((((((((h.ne (p := ⟨g, 0, none⟩) hp v0).ne (p := ⟨g, 1, none⟩) hp v1).ne (p := ⟨g, 2, none⟩) hp v2).ne (p := ⟨g, 3, none⟩) hp v3).ne (p := ⟨g, 4, none⟩) hp v4).ne (p := ⟨g, 5, none⟩) hp v5).ne (p := ⟨g, 6, none⟩) hp v6).ne (p := ⟨g, 7, none⟩) hp v7).ne (p := ⟨g, 8, none⟩) hp v8).ne (p := ⟨g, 9, none⟩) hp v9).ne (p := ⟨g, 10, none⟩) hp v10)
theorem below_set11 {B : Nat} {w0 W : World} {g : Nat} (h : Below B w0 W) (hp : B ≤ g) (v0 v1 v2 v3 v4 v5 v6 v7 v8 v9 v10 : Value) : Below B w0 (((((((((((W.setCell ⟨g, 0, none⟩ v0).setCell ⟨g, 1, none⟩ v1).setCell ⟨g, 2, none⟩ v2).setCell ⟨g, 3, none⟩ v3).setCell ⟨g, 4, none⟩ v4).setCell ⟨g, 5, none⟩ v5).setCell ⟨g, 6, none⟩ v6).setCell ⟨g, 7, none⟩ v7).setCell ⟨g, 8, none⟩ v8).setCell ⟨g, 9, none⟩ v9).setCell ⟨g, 10, none⟩ v10) :=
  (((((((((((h.setCell (p := ⟨g, 0, none⟩) hp v0).setCell (p := ⟨g, 1, none⟩) hp v1).setCell (p := ⟨g, 2, none⟩) hp v2).setCell (p := ⟨g, 3, none⟩) hp v3).setCell (p := ⟨g, 4, none⟩) hp v4).setCell (p := ⟨g, 5, none⟩) hp v5).setCell (p := ⟨g, 6, none⟩) hp v6).setCell (p := ⟨g, 7, none⟩) hp v7).setCell (p := ⟨g, 8, none⟩) hp v8).setCell (p := ⟨g, 9, none⟩) hp v9).setCell (p := ⟨g, 10, none⟩) hp v10)
/-- the event's cells, and the Entry's -/
def ToS (w : World) (X : Array Value) (W : World) : Prop := Below w.heap.size w W ∧ Blk W w.heap.size 47 X ∧ ∃ z0 z1 z2 z3 z4 z5 z6 z7 z8 z9 z10 : Value, Blk W (w.heap.size + 1) 55 #[z0, z1, z2, z3, z4, z5, z6, z7, z8, z9, z10]
theorem ToS.bel {w W : World} {X : Array Value} (h : ToS w X W) : Below w.heap.size w W := h.1
theorem ToS.drew {w W : World} {X : Array Value} (h : ToS w X W) : ToS w X W.drew := ⟨h.1.drew, h.2.1, h.2.2⟩
theorem ToS.alloc {w W : World} {X : Array Value} (h : ToS w X W) (o : Obj) : ToS w X (W.alloc o) := by
  obtain ⟨h1, h2, z0, z1, z2, z3, z4, z5, z6, z7, z8, z9, z10, h3⟩ := h
  exact ⟨h1.alloc h1.size _, h2.alloc _, z0, z1, z2, z3, z4, z5, z6, z7, z8, z9, z10, h3.alloc _⟩
theorem ToS.grown {w W W' : World} {X : Array Value} {g : Nat} (h : ToS w X W) (hg : W.grownBy W' (some g)) (hl : w.heap.size + 1 < g) : ToS w X W' := by
  obtain ⟨h1, h2, z0, z1, z2, z3, z4, z5, z6, z7, z8, z9, z10, h3⟩ := h
  exact ⟨h1.grown hg h1.size (fun k hk => by cases hk; omega), h2.grown hg (by omega), z0, z1, z2, z3, z4, z5, z6, z7, z8, z9, z10, h3.grown hg (by omega)⟩
theorem ToS.set11 {w W : World} {X : Array Value} {g : Nat} (h : ToS w X W) (hg : g = w.heap.size + 1) (v0 v1 v2 v3 v4 v5 v6 v7 v8 v9 v10 : Value) : ToS w X (((((((((((W.setCell ⟨g, 0, none⟩ v0).setCell ⟨g, 1, none⟩ v1).setCell ⟨g, 2, none⟩ v2).setCell ⟨g, 3, none⟩ v3).setCell ⟨g, 4, none⟩ v4).setCell ⟨g, 5, none⟩ v5).setCell ⟨g, 6, none⟩ v6).setCell ⟨g, 7, none⟩ v7).setCell ⟨g, 8, none⟩ v8).setCell ⟨g, 9, none⟩ v9).setCell ⟨g, 10, none⟩ v10) := by
  subst hg
  obtain ⟨h1, h2, z0, z1, z2, z3, z4, z5, z6, z7, z8, z9, z10, h3⟩ := h
  exact ⟨below_set11 h1 (by omega) v0 v1 v2 v3 v4 v5 v6 v7 v8 v9 v10, Blk.ne11 h2 (by omega) v0 v1 v2 v3 v4 v5 v6 v7 v8 v9 v10, v0, v1, v2, v3, v4, v5, v6, v7, v8, v9, v10, Blk.set11 h3 v0 v1 v2 v3 v4 v5 v6 v7 v8 v9 v10⟩
/-- an event's frames read as these bytes -/
structure FrT (w : World) (x : En) (f a : List Int) : Prop where
  fr : Rd w x.fA f
  fl : f.length = x.fn
  fm : x.fn ≤ 140737488355328
  ar : Rd w x.aA a
  al : a.length = x.an
  am : x.an ≤ 140737488355328
set_option maxHeartbeats 16000000 in
theorem to_any (x : En) (f a : List Int) (w : World) (h : FrT w x f a) : Calls Try.prog 24 #[x.val] w fun e w' => ∃ y : En, e = .returned y.val ∧ x.like y ∧ Below w.heap.size w w' := by
  obtain ⟨b, e, ends, out, fA, fn, fc, tick, port, aA, an, ac, err, pr, po⟩ := x
  unfold En.val En.cs
  have hb1 := bthen (ball w (.cells #[.int .i64 b, .int .i64 e, .bool ends, .bool out, .slice fA fn fc, .int .i64 tick, .int .i64 port, .slice aA an ac, .int .i64 err, .int .i64 pr, .int .i64 po] 47)) (ball (w.alloc (.cells #[.int .i64 b, .int .i64 e, .bool ends, .bool out, .slice fA fn fc, .int .i64 tick, .int .i64 port, .slice aA an ac, .int .i64 err, .int .i64 pr, .int .i64 po] 47)) (.cells #[.int .i64 0, .int .i64 0, .bool false, .bool false, .slice none 0 0, .int .i64 0, .int .i64 0, .slice none 0 0, .int .i64 0, .int .i64 0, .int .i64 0] 55))
  have hx : Blk ((w.alloc (.cells #[.int .i64 b, .int .i64 e, .bool ends, .bool out, .slice fA fn fc, .int .i64 tick, .int .i64 port, .slice aA an ac, .int .i64 err, .int .i64 pr, .int .i64 po] 47)).alloc (.cells #[.int .i64 0, .int .i64 0, .bool false, .bool false, .slice none 0 0, .int .i64 0, .int .i64 0, .slice none 0 0, .int .i64 0, .int .i64 0, .int .i64 0] 55)) w.heap.size 47 #[.int .i64 b, .int .i64 e, .bool ends, .bool out, .slice fA fn fc, .int .i64 tick, .int .i64 port, .slice aA an ac, .int .i64 err, .int .i64 pr, .int .i64 po] := (Blk.new w _ _).alloc _
  have hz := Blk.new (w.alloc (.cells #[.int .i64 b, .int .i64 e, .bool ends, .bool out, .slice fA fn fc, .int .i64 tick, .int .i64 port, .slice aA an ac, .int .i64 err, .int .i64 pr, .int .i64 po] 47)) 55 #[.int .i64 0, .int .i64 0, .bool false, .bool false, .slice none 0 0, .int .i64 0, .int .i64 0, .slice none 0 0, .int .i64 0, .int .i64 0, .int .i64 0]
  rw [World.size_alloc] at hz
  obtain ⟨w1, hw1⟩ : ∃ w1, w1 = (w.alloc (.cells #[.int .i64 b, .int .i64 e, .bool ends, .bool out, .slice fA fn fc, .int .i64 tick, .int .i64 port, .slice aA an ac, .int .i64 err, .int .i64 pr, .int .i64 po] 47)).alloc (.cells #[.int .i64 0, .int .i64 0, .bool false, .bool false, .slice none 0 0, .int .i64 0, .int .i64 0, .slice none 0 0, .int .i64 0, .int .i64 0, .int .i64 0] 55) := ⟨_, rfl⟩
  rw [← hw1] at hb1 hx hz
  have HW := Lib.hid hw1
  have HSZ := Lib.hid (show w1.heap.size = w.heap.size + 2 by rw [hw1]; simp)
  obtain ⟨Xa, hXa⟩ : ∃ q : Array Value, q = #[.int .i64 b, .int .i64 e, .bool ends, .bool out, .slice fA fn fc, .int .i64 tick, .int .i64 port, .slice aA an ac, .int .i64 err, .int .i64 pr, .int .i64 po] := ⟨_, rfl⟩
  rw [← hXa] at hx
  have HXA := Lib.hid hXa
  have S0 : ToS w Xa w1 := ⟨hb1, hx, _, _, _, _, _, _, _, _, _, _, _, hz⟩
  have HF := Lib.hid h
  have b1 : Blk ((w1.alloc (.cells #[] 5)).drew) w1.heap.size 5 #[] := (Blk.new w1 _ _).drew
  have b2 : Blk (((w1.alloc (.cells #[] 5)).alloc (.cells #[] 5)).drew) w1.heap.size 5 #[] := ((Blk.new w1 _ _).alloc _).drew
  have b3 : Blk (((w1.alloc (.cells #[] 5)).alloc (.cells #[] 5)).drew) (w1.heap.size + 1) 5 #[] := by
    have := Blk.new (w1.alloc (.cells #[] 5)) 5 #[]
    rw [World.size_alloc] at this
    exact this.drew
  have G1 := Lib.hid b1
  have G2 := Lib.hid b2
  have G3 := Lib.hid b3
  have r0 : ∀ W, ToS w Xa W → W.cell? ⟨w.heap.size, 0, none⟩ = some (.int .i64 b) := fun W h => by rw [h.2.1.cell 0, HXA.out]; rfl
  have r1 : ∀ W, ToS w Xa W → W.cell? ⟨w.heap.size, 1, none⟩ = some (.int .i64 e) := fun W h => by rw [h.2.1.cell 1, HXA.out]; rfl
  have r2 : ∀ W, ToS w Xa W → W.cell? ⟨w.heap.size, 2, none⟩ = some (.bool ends) := fun W h => by rw [h.2.1.cell 2, HXA.out]; rfl
  have r3 : ∀ W, ToS w Xa W → W.cell? ⟨w.heap.size, 3, none⟩ = some (.bool out) := fun W h => by rw [h.2.1.cell 3, HXA.out]; rfl
  have r4 : ∀ W, ToS w Xa W → W.cell? ⟨w.heap.size, 4, none⟩ = some (.slice fA fn fc) := fun W h => by rw [h.2.1.cell 4, HXA.out]; rfl
  have r5 : ∀ W, ToS w Xa W → W.cell? ⟨w.heap.size, 5, none⟩ = some (.int .i64 tick) := fun W h => by rw [h.2.1.cell 5, HXA.out]; rfl
  have r6 : ∀ W, ToS w Xa W → W.cell? ⟨w.heap.size, 6, none⟩ = some (.int .i64 port) := fun W h => by rw [h.2.1.cell 6, HXA.out]; rfl
  have r7 : ∀ W, ToS w Xa W → W.cell? ⟨w.heap.size, 7, none⟩ = some (.slice aA an ac) := fun W h => by rw [h.2.1.cell 7, HXA.out]; rfl
  have r8 : ∀ W, ToS w Xa W → W.cell? ⟨w.heap.size, 8, none⟩ = some (.int .i64 err) := fun W h => by rw [h.2.1.cell 8, HXA.out]; rfl
  have r9 : ∀ W, ToS w Xa W → W.cell? ⟨w.heap.size, 9, none⟩ = some (.int .i64 pr) := fun W h => by rw [h.2.1.cell 9, HXA.out]; rfl
  have r10 : ∀ W, ToS w Xa W → W.cell? ⟨w.heap.size, 10, none⟩ = some (.int .i64 po) := fun W h => by rw [h.2.1.cell 10, HXA.out]; rfl
  clear hw1 hx hz hb1 h b1 b2 b3 hXa
  go_enter Try.func24, Try.ntmps24
  go_upto_region 1 with fail
  rw [← HW.out]
  go_region_held3 (fun W => ToS w Xa W)
    (first | (with_reducible assumption) | (with_reducible exact ToS.drew S0) | (with_reducible exact ToS.drew (ToS.alloc S0 _)) | (with_reducible exact ToS.drew (ToS.alloc (ToS.alloc S0 _) _)) | (with_reducible exact ToS.alloc (by assumption) _) | (with_reducible exact ToS.set11 (by assumption) rfl _ _ _ _ _ _ _ _ _ _ _))
    (first
      | (refine app0_step rfl (.tmp 12) (.tmp 15) rfl rfl (by with_reducible exact G1.out) f rfl (HF.out.fr.below (ToS.bel (by with_reducible assumption))) HF.out.fl HF.out.fm ?_; intro A5 c5 w5 hg5; have S5 := ToS.grown (by with_reducible assumption) hg5 (by have := HSZ.out; omega); have n5 : w.heap.size + 1 < w5.heap.size := by (have := hg5.size; have := G1.out.lt; have := HSZ.out; omega))
      | (refine app0_step rfl (.tmp 12) (.tmp 15) rfl rfl (by with_reducible exact G2.out) f rfl (HF.out.fr.below (ToS.bel (by with_reducible assumption))) HF.out.fl HF.out.fm ?_; intro A5 c5 w5 hg5; have S5 := ToS.grown (by with_reducible assumption) hg5 (by have := HSZ.out; omega); have b24 := G3.out.grown hg5 (by omega))
      | (refine app0_step rfl (.tmp 12) (.tmp 15) rfl rfl (by with_reducible exact G3.out) f rfl (HF.out.fr.below (ToS.bel (by with_reducible assumption))) HF.out.fl HF.out.fm ?_; intro A5 c5 w5 hg5; have S5 := ToS.grown (by with_reducible assumption) hg5 (by have := HSZ.out; omega); have b24 := G2.out.grown hg5 (by omega))
      | (refine app0_step rfl (.tmp 24) (.tmp 26) rfl rfl (by with_reducible exact b24) a rfl (HF.out.ar.below (ToS.bel (by with_reducible assumption))) HF.out.al HF.out.am ?_; intro A6 c6 w6 hg6; have S6 := ToS.grown (by with_reducible assumption) hg6 (by have := HSZ.out; omega); obtain ⟨z0, z1, z2, z3, z4, z5, z6, z7, z8, z9, z10, hz6⟩ := S6.2.2; have kc0 := hz6.cell 0; have kf0 := hz6.frozen 0; have kc1 := hz6.cell 1; have kf1 := hz6.frozen 1; have kc2 := hz6.cell 2; have kf2 := hz6.frozen 2; have kc3 := hz6.cell 3; have kf3 := hz6.frozen 3; have kc4 := hz6.cell 4; have kf4 := hz6.frozen 4; have kc5 := hz6.cell 5; have kf5 := hz6.frozen 5; have kc6 := hz6.cell 6; have kf6 := hz6.frozen 6; have kc7 := hz6.cell 7; have kf7 := hz6.frozen 7; have kc8 := hz6.cell 8; have kf8 := hz6.frozen 8; have kc9 := hz6.cell 9; have kf9 := hz6.frozen 9; have kc10 := hz6.cell 10; have kf10 := hz6.frozen 10)
      | (refine app0_step rfl (.tmp 24) (.tmp 26) rfl rfl (by with_reducible exact Blk.new w5 _ _) a rfl (HF.out.ar.below (ToS.bel (by with_reducible assumption))) HF.out.al HF.out.am ?_; intro A6 c6 w6 hg6; have S6 := ToS.grown (by with_reducible assumption) hg6 n5; obtain ⟨z0, z1, z2, z3, z4, z5, z6, z7, z8, z9, z10, hz6⟩ := S6.2.2; have kc0 := hz6.cell 0; have kf0 := hz6.frozen 0; have kc1 := hz6.cell 1; have kf1 := hz6.frozen 1; have kc2 := hz6.cell 2; have kf2 := hz6.frozen 2; have kc3 := hz6.cell 3; have kf3 := hz6.frozen 3; have kc4 := hz6.cell 4; have kf4 := hz6.frozen 4; have kc5 := hz6.cell 5; have kf5 := hz6.frozen 5; have kc6 := hz6.cell 6; have kf6 := hz6.frozen 6; have kc7 := hz6.cell 7; have kf7 := hz6.frozen 7; have kc8 := hz6.cell 8; have kf8 := hz6.frozen 8; have kc9 := hz6.cell 9; have kf9 := hz6.frozen 9; have kc10 := hz6.cell 10; have kf10 := hz6.frozen 10))
  all_goals
    have HZ := Lib.hid hz6
    have HB := Lib.hid S6.1
    go_wp2
    exact bodyPost_ret (res_cell1 Try.results24 _ _ rfl (Blk.set11 HZ.out _ _ _ _ _ _ _ _ _ _ _) sEn) rfl ⟨⟨b, e, ends, out, A5, fn, c5, tick, port, A6, an, c6, err, pr, po⟩, rfl, ⟨rfl, rfl, rfl, rfl, rfl, rfl, rfl, rfl, rfl, rfl, rfl⟩, below_set11 HB.out (by omega) _ _ _ _ _ _ _ _ _ _ _⟩
end Go.Proofs.Ytbnlpidhbilenaa
