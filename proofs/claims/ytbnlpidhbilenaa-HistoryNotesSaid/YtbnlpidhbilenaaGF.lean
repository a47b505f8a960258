/-
  Several small texts in one: Hnt, Hns. Conditions stand in each theorem.
-/
import Derived.Test.YtbnlpidhbilenaaGD
import Derived.Test.YtbnlpidhbilenaaHa2
namespace Go.Proofs.Ytbnlpidhbilenaa
open Go.RowKit Go.Deep Plain
set_option linter.unusedVariables false
set_option linter.unusedSimpArgs false
set_option maxRecDepth 100000
theorem infoEv : (Try.prog.info? 47).map (fun i => (i.zero, i.size, i.bytes)) = some (some (.agg #[.int .i64 0, .int .i64 0, .bool false, .bool false, .slice none 0 0, .int .i64 0, .int .i64 0, .slice none 0 0, .int .i64 0, .int .i64 0, .int .i64 0]), 11, 120) := by kernel_rfl
/-- append of bytes to a row of one's own, at a step of a region that draws -/
theorem app_step {w : World} {base n c : Nat} {A : Option Addr} {zs : List Int} {ops : Array Oper} {o : Oper} {a : Act} {K : Act → World → Prop} {Q : Exit → Act → World → Prop} {E : Prop} (hgd : o.guard = none) (s x : Operand)
    (ho : o.op = .call { callee := .builtin .append, args := #[s, x], argTypes := #[27, 27] })
    (hs : a.eval s = .slice A n c) (hown : Own w base A n c zs) {B : Option Addr} {m d : Nat} (ys : List Int) (hx : a.eval x = .slice B m d) (hR : Rd w B ys) (hm : ys.length = m) (hl : n + m ≤ 1000000000) (hbase : base ≤ w.heap.size)
    (h : ∀ A' c' w', Own w' base A' (n + m) c' (zs ++ ys) → w.grownBy w' (Value.slice A n c).ownBlock → (A' = A ∨ A' = some ⟨w.heap.size, 0, none⟩) → K (a.put o.dst (.slice A' (n + m) c')) w') :
    if Region.wanted o (yielded ops a.tmps) = true then Oper.wp Try.prog o a w K Q else E := by
  have hw : Region.wanted o (yielded ops a.tmps) = true := by simp [Region.wanted, hgd]
  rw [if_pos hw]
  obtain ⟨A', c', w', hrun, h2, h3, h4⟩ := run_app hown hR hm hl hbase o.type (d := d)
  unfold Oper.wp execOp
  simp only [ho, resolve, invoke, builtin, Sem.run_bind, Sem.run_pure, Result.andThen_ok, List.map_toArray, List.map_cons, List.map_nil, hs, hx, hrun]
  exact h A' c' w' h2 h3 h4
/-- an event is put behind a row of one's own, at a step of a region that draws -/
theorem ev_step {w : World} {base na : Nat} {A : Option Addr} {c : Nat} {es : List En} {ops : Array Oper} {o : Oper} {a : Act} {K : Act → World → Prop} {Q : Exit → Act → World → Prop} {E : Prop} (hgd : o.guard = none) (sx xx : Operand)
    (ho : o.op = .call { callee := .builtin .append, args := #[sx, xx], argTypes := #[38, 38] })
    (hs : a.eval sx = .slice A na c) (hO : w.ownsRow base 47 11 (.slice A na c) na (enC es)) (hbase : base ≤ w.heap.size) (x : En) (hn : na ≤ 100000)
    (H : Nat) (hx : a.eval xx = .slice (some ⟨H, 0, none⟩) 1 1) (hbk : Blk w H 47 x.cs.toArray)
    (h : ∀ A' c' w', w'.ownsRow base 47 11 (.slice A' (na + 1) c') (na + 1) (enC (es ++ [x])) → w.grownBy w' (Value.slice A na c).ownBlock → ((Value.slice A na c).ownBlock = (Value.slice A' (na + 1) c').ownBlock ∨ ∀ g, (Value.slice A' (na + 1) c').ownBlock = some g → w.heap.size ≤ g) → K (a.put o.dst (.slice A' (na + 1) c')) w') :
    if Region.wanted o (yielded ops a.tmps) = true then Oper.wp Try.prog o a w K Q else E := by
  obtain ⟨i, hi, hz, hsz, hb⟩ := info_parts infoEv
  refine step_append_lies (P := Try.prog) (w := w) hgd sx xx 38 ho base 47 i _ 11 120 Try.underlying38 hi hz hsz hb rfl (by omega) _ na (enC es) hs hO ⟨H, 0, none⟩ 1 1 x.cs hx rfl ?_ ?_ (by omega) (by unfold maxLen; omega) (by omega) hbase _ rfl ?_
  · intro j u hu
    rw [addr_add, Nat.zero_add, hbk.cell]
    simpa using hu
  · intro u hu
    exact enC_one [x] u (by unfold enC; simpa using hu)
  · intro g cap w' how hg hgo hlt
    refine h (some ⟨g, 0, none⟩) cap w' ?_ hg ?_
    · rw [enC_snoc]; exact how
    · rcases hgo with q | q
      · exact .inl q
      · refine .inr fun g1 h1 => ?_
        simp [Value.ownBlock] at h1
        omega
/-- the same, in order -/
theorem wpList_ev {w : World} {base na : Nat} {A : Option Addr} {c : Nat} {es : List En} {ops : Array Oper} {rest : List Oper} {o : Oper} {a : Act} {Q : Exit → Act → World → Prop} (hgd : o.guard = none) (sx xx : Operand)
    (ho : o.op = .call { callee := .builtin .append, args := #[sx, xx], argTypes := #[38, 38] })
    (hs : a.eval sx = .slice A na c) (hO : w.ownsRow base 47 11 (.slice A na c) na (enC es)) (hbase : base ≤ w.heap.size) (x : En) (hn : na ≤ 100000)
    (H : Nat) (hx : a.eval xx = .slice (some ⟨H, 0, none⟩) 1 1) (hbk : Blk w H 47 x.cs.toArray)
    (h : ∀ A' c' w', w'.ownsRow base 47 11 (.slice A' (na + 1) c') (na + 1) (enC (es ++ [x])) → w.grownBy w' (Value.slice A na c).ownBlock → ((Value.slice A na c).ownBlock = (Value.slice A' (na + 1) c').ownBlock ∨ ∀ g, (Value.slice A' (na + 1) c').ownBlock = some g → w.heap.size ≤ g) → wpList Try.prog ops Q rest (a.put o.dst (.slice A' (na + 1) c')) w') :
    wpList Try.prog ops Q (o :: rest) a w := by
  obtain ⟨i, hi, hz, hsz, hb⟩ := info_parts infoEv
  refine wpList_append_lies (P := Try.prog) (w := w) hgd sx xx 38 ho base 47 i _ 11 120 Try.underlying38 hi hz hsz hb rfl (by omega) _ na (enC es) hs hO ⟨H, 0, none⟩ 1 1 x.cs hx rfl ?_ ?_ (by omega) (by unfold maxLen; omega) (by omega) hbase _ rfl ?_
  · intro j u hu
    rw [addr_add, Nat.zero_add, hbk.cell]
    simpa using hu
  · intro u hu
    exact enC_one [x] u (by unfold enC; simpa using hu)
  · intro g cap w' how hg hgo hlt
    refine h (some ⟨g, 0, none⟩) cap w' ?_ hg ?_
    · rw [enC_snoc]; exact how
    · rcases hgo with q | q
      · exact .inl q
      · refine .inr fun g1 h1 => ?_
        simp [Value.ownBlock] at h1
        omega
/-- the frames of an entry lie outside some blocks -/
structure FrA (w : World) (bs : List Nat) (x : En) (f a : List Int) : Prop where
  fs : FrS w x f a
  fo : ∀ p, x.fA = some p → p.block < w.heap.size ∧ p.block ∉ bs
  ao : ∀ p, x.aA = some p → p.block < w.heap.size ∧ p.block ∉ bs
theorem FrA.keep {w w' : World} {bs bs' cs : List Nat} {x : En} {f a : List Int} (h : FrA w bs x f a) (hk : Keep cs w w') (hc : ∀ c ∈ cs, c ∈ bs ∨ w.heap.size ≤ c) (hb : ∀ b ∈ bs', b ∈ bs ∨ w.heap.size ≤ b) : FrA w' bs' x f a := by
  have hn : ∀ p : Addr, p.block < w.heap.size ∧ p.block ∉ bs → p.block ∉ cs := fun p hp hm => by
    rcases hc _ hm with q | q
    · exact hp.2 q
    · omega
  have hn2 : ∀ p : Addr, p.block < w.heap.size ∧ p.block ∉ bs → p.block < w'.heap.size ∧ p.block ∉ bs' := fun p hp => ⟨Nat.lt_of_lt_of_le hp.1 hk.size, fun hm => by
    rcases hb _ hm with q | q
    · exact hp.2 q
    · omega⟩
  exact ⟨⟨rd_keep h.fs.fr hk (fun p hp => hn p (h.fo p hp)), h.fs.fl, h.fs.f0, h.fs.fm, rd_keep h.fs.ar hk (fun p hp => hn p (h.ao p hp)), h.fs.al, h.fs.a0, h.fs.am⟩, fun p hp => hn2 p (h.fo p hp), fun p hp => hn2 p (h.ao p hp)⟩
def ntB (gh : Nat) (hA : Option Addr) (k hc : Nat) (lA : Option Addr) (lc : Nat) : List Nat := hiL gh (.slice hA k hc) ++ (Value.slice lA k lc).ownBlock.toList
def PlE (now : Nat) (x : En) : Prop := 1 ≤ x.b ∧ x.b ≤ now ∧ ((x.e = -1 ∧ x.ends = false) ∨ (x.b < x.e ∧ x.e ≤ now))
/-- what holds behind i steps -/
structure NtR (w0 w : World) (gh i now k : Nat) (hA : Option Addr) (hc : Nat) (es : List En) (lA : Option Addr) (lc : Nat) (ls : List En) (F G : Nat → List Int) : Prop where
  bel : Below w0.heap.size w0 w
  hs : HiS w w0.heap.size gh now (.slice hA k hc) es
  hl : es.length = k
  ro : w.ownsRow w0.heap.size 47 11 (.slice lA k lc) k (enC ls)
  ll : ls.length = k
  lk : ∀ j, j < k → (es.getD j en0).like (ls.getD j en0)
  fe : ∀ j, j < k → FrA w (ntB gh hA k hc lA lc) (es.getD j en0) (F j) (G j)
  fl : ∀ j, j < k → FrA w (ntB gh hA k hc lA lc) (ls.getD j en0) (F j) (G j)
  pl : ∀ j, j < k → PlE now (es.getD j en0)
  kn : k ≤ now
  ni : now ≤ i
def upF (F : Nat → List Int) (k : Nat) (f : List Int) : Nat → List Int := fun j => if j = k then f else F j
theorem PlE.succ {now : Nat} {x : En} (h : PlE now x) : PlE (now + 1) x := by
  obtain ⟨h1, h2, h3⟩ := h
  refine ⟨h1, by omega, ?_⟩
  rcases h3 with q | ⟨q, r⟩
  · exact .inl q
  · exact .inr ⟨q, by omega⟩
theorem enD_snoc_lt {es : List En} {x : En} {j : Nat} (h : j < es.length) : (es ++ [x]).getD j en0 = es.getD j en0 := by simp [List.getD, h, List.getElem?_append_left h]
theorem enD_snoc_eq {es : List En} {x : En} {j : Nat} (h : j = es.length) : (es ++ [x]).getD j en0 = x := by subst h; simp [List.getD]
theorem enD_set_eq {es : List En} {x : En} {j : Nat} (h : j < es.length) : (es.set j x).getD j en0 = x := by simp [List.getD, h]
theorem enD_set_ne {es : List En} {x : En} {j k : Nat} (h : j ≠ k) : (es.set k x).getD j en0 = es.getD j en0 := by simp [List.getD, List.getElem?_set_ne (fun q => h q.symm)]
section
variable {w0 w we : World} {gh i now k : Nat} {hA lA : Option Addr} {hc lc : Nat} {es ls : List En} {F G : Nat → List Int}
/-- nothing was noted -/
theorem NtR.same (h : NtR w0 w gh i now k hA hc es lA lc ls F G) (hk : Keep [] w we) (i' : Nat) (hi : i ≤ i') : NtR w0 we gh i' now k hA hc es lA lc ls F G :=
  ⟨hk.below h.bel (Nat.le_refl _) (fun x hx => by cases hx), h.hs.keep hk (by simp) (by simp), h.hl, own_keep h.ro hk (by simp), h.ll, h.lk,
    fun j hj => (h.fe j hj).keep hk (by simp) (fun b hb => .inl hb), fun j hj => (h.fl j hj).keep hk (by simp) (fun b hb => .inl hb), h.pl, h.kn, Nat.le_trans h.ni hi⟩
theorem NtR.below (h : NtR w0 w gh i now k hA hc es lA lc ls F G) (hb : Below w.heap.size w we) : NtR w0 we gh i now k hA hc es lA lc ls F G := h.same (Keep.of_below hb) i (Nat.le_refl _)
theorem NtR.low (h : NtR w0 w gh i now k hA hc es lA lc ls F G) : ∀ b ∈ ntB gh hA k hc lA lc, w0.heap.size ≤ b ∧ b < w.heap.size := fun b hb => by
  unfold ntB at hb
  rcases List.mem_append.1 hb with q | q
  · refine ⟨h.hs.low b q, ?_⟩
    unfold hiL at q
    rcases List.mem_cons.1 q with rfl | q
    · exact h.hs.st.lt
    · rw [Option.mem_toList] at q
      exact (own_blk h.hs.row q).2.1
  · rw [Option.mem_toList] at q
    have := own_blk h.ro q
    exact ⟨this.1, this.2.1⟩
/-- one more was noted -/
theorem NtR.snoc (h : NtR w0 w gh i now k hA hc es lA lc ls F G) {hA' lA' : Option Addr} {hc' lc' : Nat} {x y : En} {f a : List Int} (hs : HiS we w0.heap.size gh ((now + 1 : Nat) : Int) (.slice hA' (k + 1) hc') (es ++ [x]))
    (ro : we.ownsRow w0.heap.size 47 11 (.slice lA' (k + 1) lc') (k + 1) (enC (ls ++ [y]))) (hk : Keep (ntB gh hA k hc lA lc) w we)
    (hb : ∀ b ∈ ntB gh hA' (k + 1) hc' lA' lc', b ∈ ntB gh hA k hc lA lc ∨ w.heap.size ≤ b) (hxy : x.like y) (fx : FrA we (ntB gh hA' (k + 1) hc' lA' lc') x f a) (fy : FrA we (ntB gh hA' (k + 1) hc' lA' lc') y f a) (px : PlE (now + 1) x) :
    NtR w0 we gh (i + 1) (now + 1) (k + 1) hA' hc' (es ++ [x]) lA' lc' (ls ++ [y]) (upF F k f) (upF G k a) := by
  have hel := h.hl
  have hll := h.ll
  refine ⟨hk.below h.bel (Nat.le_refl _) (fun b hb => (h.low b hb).1), hs, by simp [hel], ro, by simp [hll], fun j hj => ?_, fun j hj => ?_, fun j hj => ?_, fun j hj => ?_, by have := h.kn; omega, by have := h.ni; omega⟩
  · by_cases e : j = k
    · rw [enD_snoc_eq (by omega), enD_snoc_eq (by omega)]; exact hxy
    · rw [enD_snoc_lt (by omega), enD_snoc_lt (by omega)]; exact h.lk j (by omega)
  · by_cases e : j = k
    · rw [enD_snoc_eq (by omega)]; unfold upF; rw [if_pos e, if_pos e]; exact fx
    · rw [enD_snoc_lt (by omega)]; unfold upF; rw [if_neg e, if_neg e]; exact (h.fe j (by omega)).keep hk (fun c hc => .inl hc) hb
  · by_cases e : j = k
    · rw [enD_snoc_eq (by omega)]; unfold upF; rw [if_pos e, if_pos e]; exact fy
    · rw [enD_snoc_lt (by omega)]; unfold upF; rw [if_neg e, if_neg e]; exact (h.fl j (by omega)).keep hk (fun c hc => .inl hc) hb
  · by_cases e : j = k
    · rw [enD_snoc_eq (by omega)]; exact px
    · rw [enD_snoc_lt (by omega)]; exact (h.pl j (by omega)).succ
/-- one that was noted is done -/
theorem NtR.setk (h : NtR w0 w gh i now k hA hc es lA lc ls F G) {q : Nat} (hq : q < k) {x y : En} {f a : List Int} (hs : HiS we w0.heap.size gh ((now + 1 : Nat) : Int) (.slice hA k hc) (es.set q x))
    (ro : we.ownsRow w0.heap.size 47 11 (.slice lA k lc) k (enC (ls.set q y))) (hk : Keep (ntB gh hA k hc lA lc) w we)
    (hxy : x.like y) (fx : FrA we (ntB gh hA k hc lA lc) x f a) (fy : FrA we (ntB gh hA k hc lA lc) y f a) (px : PlE (now + 1) x) :
    NtR w0 we gh (i + 1) (now + 1) k hA hc (es.set q x) lA lc (ls.set q y) (upF F q f) (upF G q a) := by
  have hel := h.hl
  have hll := h.ll
  refine ⟨hk.below h.bel (Nat.le_refl _) (fun b hb => (h.low b hb).1), hs, by simp [hel], ro, by simp [hll], fun j hj => ?_, fun j hj => ?_, fun j hj => ?_, fun j hj => ?_, by have := h.kn; omega, by have := h.ni; omega⟩
  · by_cases e : j = q
    · subst e; rw [enD_set_eq (by omega), enD_set_eq (by omega)]; exact hxy
    · rw [enD_set_ne e, enD_set_ne e]; exact h.lk j (by omega)
  · by_cases e : j = q
    · subst e; rw [enD_set_eq (by omega)]; unfold upF; rw [if_pos rfl, if_pos rfl]; exact fx
    · rw [enD_set_ne e]; unfold upF; rw [if_neg e, if_neg e]; exact (h.fe j (by omega)).keep hk (fun c hc => .inl hc) (fun b hb => .inl hb)
  · by_cases e : j = q
    · subst e; rw [enD_set_eq (by omega)]; unfold upF; rw [if_pos rfl, if_pos rfl]; exact fy
    · rw [enD_set_ne e]; unfold upF; rw [if_neg e, if_neg e]; exact (h.fl j (by omega)).keep hk (fun c hc => .inl hc) (fun b hb => .inl hb)
  · by_cases e : j = q
    · subst e; rw [enD_set_eq (by omega)]; exact px
    · rw [enD_set_ne e]; exact (h.pl j (by omega)).succ
end
theorem rd_lt {w : World} {A : Option Addr} {zs : List Int} (h : Rd w A zs) (h0 : 0 < zs.length) : ∀ p, A = some p → p.block < w.heap.size := fun p hp => by
  obtain ⟨b, off, e, hc⟩ := h.2 h0
  have q := hc 0 h0
  rw [e] at hp
  injection hp with hp
  rw [← hp]
  exact block_lt_of_cell q
end Go.Proofs.Ytbnlpidhbilenaa

namespace Go.Proofs.Ytbnlpidhbilenaa
open Go.RowKit Go.Deep Plain
set_option linter.unusedVariables false
set_option linter.unusedSimpArgs false
set_option maxRecDepth 100000
theorem own_notinV {w : World} {base n : Nat} {v : Value} {xs : List Value} (h : w.ownsRow base 47 11 v n xs) {g : Nat} {t : TypeId} {cs : Array Value} (hb : Blk w g t cs) (hne : t ≠ 47) : g ∉ v.ownBlock.toList := by
  intro hm
  rw [Option.mem_toList] at hm
  obtain ⟨_, _, cur, q⟩ := own_blk h hm
  unfold Blk at hb
  rw [hb] at q
  injection q with q
  injection q with _ q
  exact hne q
theorem Own.keep {w w' : World} {base n c : Nat} {A : Option Addr} {zs : List Int} {bs : List Nat} (h : Own w base A n c zs) (hk : Keep bs w w') (hn : ∀ p, A = some p → p.block ∉ bs) : Own w' base A n c zs :=
  ⟨h.len, h.byt, own_keep h.row hk (fun g hg => by
    cases A with
    | none => cases hg
    | some p => 
      have e : p.block = g := by
        rcases h.form with ⟨q, _⟩ | ⟨g1, q, _, _⟩
        · cases q
        · injection q with q
          subst q
          injection hg with hg
      rw [← e]
      exact hn p rfl)⟩
section
variable {w0 wr w5 w6 w7 w8 : World} {gh i now k : Nat} {hA lA : Option Addr} {hcc lc : Nat} {es ls : List En} {F G : Nat → List Int}
/-- two rows side by side -/
theorem NtR.apart (h : NtR w0 wr gh i now k hA hcc es lA lc ls F G) : ∀ g, (Value.slice hA k hcc).ownBlock = some g → g ∉ (Value.slice lA k lc).ownBlock.toList := fun g hg hm => by
  rw [Option.mem_toList] at hm
  exact own_types h.hs.row h.ro (by decide) hg hm
theorem NtR.ghno (h : NtR w0 wr gh i now k hA hcc es lA lc ls F G) : gh ∉ (Value.slice lA k lc).ownBlock.toList := own_notinV h.ro h.hs.st (by decide)
theorem NtR.begun (h : NtR w0 wr gh i now k hA hcc es lA lc ls F G) (hb5 : Below wr.heap.size wr w5) {B5 gf m cc : Nat} {fz : List Int} (hof : Own w5 B5 (some ⟨gf, 0, none⟩) m cc fz) (hgf : wr.heap.size ≤ gf) (hgf5 : gf < w5.heap.size) (hm : 20 ≤ m) (hm2 : m ≤ 120)
    {out : Bool} {tick port : Int} {hA' fA' : Option Addr} {hc' fc' : Nat} (hh6 : HiS w6 w0.heap.size gh ((now : Int) + 1) (.slice hA' (k + 1) hc') (es ++ [⟨(now : Int) + 1, -1, false, out, fA', m, fc', tick, port, none, 0, 0, 0, 0, 0⟩]))
    (hf6 : Rd w6 fA' fz) (hp6 : ∀ p, fA' = some p → w5.heap.size ≤ p.block) (hn6 : fA' = none → fc' = 0) (hk6 : Keep (hiL gh (.slice hA k hcc)) w5 w6)
    (ho6 : (Value.slice hA k hcc).ownBlock = (Value.slice hA' (k + 1) hc').ownBlock ∨ ∀ g, (Value.slice hA' (k + 1) hc').ownBlock = some g → w5.heap.size ≤ g) (hd6 : 0 < m → ∀ p g, fA' = some p → (Value.slice hA' (k + 1) hc').ownBlock = some g → p.block ≠ g)
    {A7 : Option Addr} {c7 : Nat} (h7 : Own w7 w6.heap.size A7 m c7 fz) (hk7 : Keep [] w6 w7) {lA' : Option Addr} {lc' : Nat}
    (h8 : w8.ownsRow w0.heap.size 47 11 (.slice lA' (k + 1) lc') (k + 1) (enC (ls ++ [⟨(now : Int) + 1, -1, false, out, A7, m, c7, tick, port, none, 0, 0, 0, 0, 0⟩]))) (hk8 : Keep ((Value.slice lA k lc).ownBlock.toList) w7 w8)
    (ho8 : (Value.slice lA k lc).ownBlock = (Value.slice lA' (k + 1) lc').ownBlock ∨ ∀ g, (Value.slice lA' (k + 1) lc').ownBlock = some g → w7.heap.size ≤ g) (v : Value) :
    ∃ hA2 hc2 es2 lA2 lc2 ls2 F2 G2, lA2 = lA' ∧ lc2 = lc' ∧ NtR w0 (w8.setCell ⟨gf, 0, none⟩ v) gh (i + 1) (now + 1) (k + 1) hA2 hc2 es2 lA2 lc2 ls2 F2 G2 := by
  have hlow := h.low
  have s5 := hb5.size
  have s6 := hk6.size
  have s7 := hk7.size
  have s8 := hk8.size
  have hfl : fz.length = m := hof.len
  have hghl : gh < wr.heap.size := h.hs.st.lt
  have hhl : ∀ g, (Value.slice hA k hcc).ownBlock = some g → g < wr.heap.size := fun g hg => (own_blk h.hs.row hg).2.1
  have hll : ∀ g, (Value.slice lA k lc).ownBlock = some g → g < wr.heap.size := fun g hg => (own_blk h.ro hg).2.1
  have hfa : ∀ p, fA' = some p → p.block < w6.heap.size := rd_lt hf6 (by omega)
  have h7f : ∀ p, A7 = some p → w6.heap.size ≤ p.block ∧ p.block < w7.heap.size := fun p hp => by
    rcases h7.form with ⟨q, _⟩ | ⟨g, q, q1, q2⟩
    · rw [q] at hp; cases hp
    · rw [q] at hp; injection hp with hp; rw [← hp]; exact ⟨q1, q2⟩
  have hv' : ∀ g, (Value.slice hA' (k + 1) hc').ownBlock = some g → g < wr.heap.size ∨ (w5.heap.size ≤ g ∧ g < w6.heap.size) := fun g hg => by
    have h2 := (own_blk hh6.row hg).2.1
    rcases ho6 with q | q
    · rw [← q] at hg; exact .inl (hhl g hg)
    · exact .inr ⟨q g hg, h2⟩
  have hl' : ∀ g, (Value.slice lA' (k + 1) lc').ownBlock = some g → g < wr.heap.size ∨ w7.heap.size ≤ g := fun g hg => by
    rcases ho8 with q | q
    · rw [← q] at hg; exact .inl (hll g hg)
    · exact .inr (q g hg)
  have hlm : ∀ g ∈ (Value.slice lA k lc).ownBlock.toList, g < wr.heap.size := fun g hg => hll g (by rwa [Option.mem_toList] at hg)
  have kk8 : Keep (gf :: (Value.slice lA k lc).ownBlock.toList) w7 (w8.setCell ⟨gf, 0, none⟩ v) := (hk8.mono (fun x hx => List.mem_cons_of_mem _ hx)).setCell (p := ⟨gf, 0, none⟩) (.inl List.mem_cons_self) v
  have kk6 : Keep (gf :: (Value.slice lA k lc).ownBlock.toList) w6 (w8.setCell ⟨gf, 0, none⟩ v) := (hk7.mono (fun x hx => by cases hx)).trans kk8
  have hro6 : w6.ownsRow w0.heap.size 47 11 (.slice lA k lc) k (enC ls) := by
    refine own_keep (own_below h.ro hb5) hk6 (fun g hg hm => ?_)
    unfold hiL at hm
    rcases List.mem_cons.1 hm with e | e
    · exact h.ghno (by rw [Option.mem_toList, hg, e])
    · rw [Option.mem_toList] at e
      exact own_types h.hs.row h.ro (by decide) e hg
  have hs9 : HiS (w8.setCell ⟨gf, 0, none⟩ v) w0.heap.size gh ((now + 1 : Nat) : Int) (.slice hA' (k + 1) hc') (es ++ [⟨(now : Int) + 1, -1, false, out, fA', m, fc', tick, port, none, 0, 0, 0, 0, 0⟩]) := by
    refine HiS.keep (by rw [show ((now + 1 : Nat) : Int) = (now : Int) + 1 by omega]; exact hh6) kk6 ?_ (fun g hg hm => ?_)
    · intro hm
      rcases List.mem_cons.1 hm with e | e
      · omega
      · exact h.ghno e
    · rcases List.mem_cons.1 hm with e | e
      · rcases hv' g hg with q | q <;> omega
      · rw [Option.mem_toList] at e
        exact own_types hh6.row hro6 (by decide) hg e
  have hr9 : (w8.setCell ⟨gf, 0, none⟩ v).ownsRow w0.heap.size 47 11 (.slice lA' (k + 1) lc') (k + 1) (enC (ls ++ [⟨(now : Int) + 1, -1, false, out, A7, m, c7, tick, port, none, 0, 0, 0, 0, 0⟩])) := by
    refine own_keep h8 (bs := [gf]) ((Keep.refl _ w8).setCell (p := ⟨gf, 0, none⟩) (.inl (by simp)) v) (fun g hg hm => ?_)
    rw [List.mem_singleton] at hm
    rcases hl' g hg with q | q <;> omega
  have hkk : Keep (ntB gh hA k hcc lA lc) wr (w8.setCell ⟨gf, 0, none⟩ v) := by
    refine Keep.setCell (p := ⟨gf, 0, none⟩) ((((Keep.of_below hb5).trans (hk6.mono (fun x hx => by unfold ntB; exact List.mem_append_left _ hx))).trans (hk7.mono (fun x hx => by cases hx))).trans (hk8.mono (fun x hx => by unfold ntB; exact List.mem_append_right _ hx))) (.inr hgf) v
  have hbb : ∀ b ∈ ntB gh hA' (k + 1) hc' lA' lc', b = gh ∨ (Value.slice hA' (k + 1) hc').ownBlock = some b ∨ (Value.slice lA' (k + 1) lc').ownBlock = some b := fun b hb => by
    unfold ntB hiL at hb
    rcases List.mem_append.1 hb with q | q
    · rcases List.mem_cons.1 q with q | q
      · exact .inl q
      · rw [Option.mem_toList] at q; exact .inr (.inl q)
    · rw [Option.mem_toList] at q; exact .inr (.inr q)
  have hfl9 : ∀ p, fA' = some p → p.block ∉ gf :: (Value.slice lA k lc).ownBlock.toList := fun p hp hm => by
    have := hp6 p hp
    rcases List.mem_cons.1 hm with e | e
    · omega
    · have := hlm _ e; omega
  have h7l9 : ∀ p, A7 = some p → p.block ∉ gf :: (Value.slice lA k lc).ownBlock.toList := fun p hp hm => by
    have := h7f p hp
    rcases List.mem_cons.1 hm with e | e
    · omega
    · have := hlm _ e; omega
  have s9 : (w8.setCell ⟨gf, 0, none⟩ v).heap.size = w8.heap.size := by simp [World.setCell]
  have rn : ∀ W : World, Rd W none [] := fun W => ⟨By.nil, fun h => absurd h (by simp)⟩
  refine ⟨hA', hc', _, lA', lc', _, upF F k fz, upF G k [], rfl, rfl, h.snoc hs9 hr9 hkk ?_ ⟨rfl, rfl, rfl, rfl, rfl, rfl, rfl, rfl, rfl, rfl, rfl⟩ ⟨⟨rd_keep hf6 kk6 hfl9, hfl, hn6, by show m ≤ 1000000; omega, rn _, rfl, fun _ => rfl, by show 0 ≤ 1000000; omega⟩, fun p hp => ⟨?_, fun hm => ?_⟩, fun p hp => (by cases hp)⟩
    ⟨⟨rd_keep h7.rd kk8 h7l9, hfl, fun e => ?_, by show m ≤ 1000000; omega, rn _, rfl, fun _ => rfl, by show 0 ≤ 1000000; omega⟩, fun p hp => ⟨?_, fun hm => ?_⟩, fun p hp => (by cases hp)⟩ ⟨by show (1 : Int) ≤ (now : Int) + 1; omega, by show (now : Int) + 1 ≤ ((now + 1 : Nat) : Int); omega, .inl ⟨rfl, rfl⟩⟩⟩
  · intro b hb
    rcases hbb b hb with q | q | q
    · exact .inl (by unfold ntB hiL; simp [q])
    · rcases ho6 with e | e
      · rw [← e] at q; exact .inl (by unfold ntB hiL; simp [q])
      · have := e b q; exact .inr (by omega)
    · rcases ho8 with e | e
      · rw [← e] at q; exact .inl (by unfold ntB hiL; simp [q])
      · have := e b q; exact .inr (by omega)
  · have := hfa p hp; omega
  · have q1 := hfa p hp
    have q2 := hp6 p hp
    rcases hbb _ hm with q | q | q
    · omega
    · exact hd6 (by omega) p _ hp q rfl
    · rcases hl' _ q with q3 | q3 <;> omega
  · rcases h7.form with ⟨_, _, q⟩ | ⟨g, q, _, _⟩
    · exact q
    · have e' : A7 = none := e
      rw [q] at e'; cases e'
  · have := h7f p hp; omega
  · have q1 := h7f p hp
    rcases hbb _ hm with q | q | q
    · omega
    · rcases hv' _ q with q3 | q3 <;> omega
    · rcases hl' _ q with q3 | q3 <;> omega
theorem NtR.ended (h : NtR w0 wr gh i now k hA hcc es lA lc ls F G) (hb5 : Below wr.heap.size wr w5) {since tick proto port : Int} (hs1 : 1 ≤ since) (hs2 : since ≤ now) {hA' : Option Addr} {hc' : Nat}
    (hh6 : HiS w6 w0.heap.size gh ((now : Int) + 1) (.slice hA' (k + 1) hc') (es ++ [⟨since, (now : Int) + 1, true, false, none, 0, 0, tick, 0, none, 0, 0, 0, proto, port⟩])) (hk6 : Keep (hiL gh (.slice hA k hcc)) w5 w6)
    (ho6 : (Value.slice hA k hcc).ownBlock = (Value.slice hA' (k + 1) hc').ownBlock ∨ ∀ g, (Value.slice hA' (k + 1) hc').ownBlock = some g → w5.heap.size ≤ g) {lA' : Option Addr} {lc' : Nat}
    (h8 : w8.ownsRow w0.heap.size 47 11 (.slice lA' (k + 1) lc') (k + 1) (enC (ls ++ [⟨since, (now : Int) + 1, true, false, none, 0, 0, tick, 0, none, 0, 0, 0, proto, port⟩]))) (hk8 : Keep ((Value.slice lA k lc).ownBlock.toList) w6 w8)
    (ho8 : (Value.slice lA k lc).ownBlock = (Value.slice lA' (k + 1) lc').ownBlock ∨ ∀ g, (Value.slice lA' (k + 1) lc').ownBlock = some g → w6.heap.size ≤ g) :
    ∃ hA2 hc2 es2 lA2 lc2 ls2 F2 G2, lA2 = lA' ∧ lc2 = lc' ∧ NtR w0 w8 gh (i + 1) (now + 1) (k + 1) hA2 hc2 es2 lA2 lc2 ls2 F2 G2 := by
  have s5 := hb5.size
  have s6 := hk6.size
  have hro6 : w6.ownsRow w0.heap.size 47 11 (.slice lA k lc) k (enC ls) := by
    refine own_keep (own_below h.ro hb5) hk6 (fun g hg hm => ?_)
    unfold hiL at hm
    rcases List.mem_cons.1 hm with e | e
    · exact h.ghno (by rw [Option.mem_toList, hg, e])
    · rw [Option.mem_toList] at e
      exact own_types h.hs.row h.ro (by decide) e hg
  have hs9 : HiS w8 w0.heap.size gh ((now + 1 : Nat) : Int) (.slice hA' (k + 1) hc') (es ++ [⟨since, (now : Int) + 1, true, false, none, 0, 0, tick, 0, none, 0, 0, 0, proto, port⟩]) := by
    refine HiS.keep (by rw [show ((now + 1 : Nat) : Int) = (now : Int) + 1 by omega]; exact hh6) hk8 h.ghno (fun g hg hm => ?_)
    rw [Option.mem_toList] at hm
    exact own_types hh6.row hro6 (by decide) hg hm
  have hkk : Keep (ntB gh hA k hcc lA lc) wr w8 := ((Keep.of_below hb5).trans (hk6.mono (fun x hx => by unfold ntB; exact List.mem_append_left _ hx))).trans (hk8.mono (fun x hx => by unfold ntB; exact List.mem_append_right _ hx))
  have hbb : ∀ b ∈ ntB gh hA' (k + 1) hc' lA' lc', b = gh ∨ (Value.slice hA' (k + 1) hc').ownBlock = some b ∨ (Value.slice lA' (k + 1) lc').ownBlock = some b := fun b hb => by
    unfold ntB hiL at hb
    rcases List.mem_append.1 hb with q | q
    · rcases List.mem_cons.1 q with q | q
      · exact .inl q
      · rw [Option.mem_toList] at q; exact .inr (.inl q)
    · rw [Option.mem_toList] at q; exact .inr (.inr q)
  have rn : ∀ W : World, Rd W none [] := fun W => ⟨By.nil, fun h => absurd h (by simp)⟩
  have hfr : FrA w8 (ntB gh hA' (k + 1) hc' lA' lc') ⟨since, (now : Int) + 1, true, false, none, 0, 0, tick, 0, none, 0, 0, 0, proto, port⟩ [] [] :=
    ⟨⟨rn _, rfl, fun _ => rfl, by show 0 ≤ 1000000; omega, rn _, rfl, fun _ => rfl, by show 0 ≤ 1000000; omega⟩, fun p hp => (by cases hp), fun p hp => (by cases hp)⟩
  refine ⟨hA', hc', _, lA', lc', _, upF F k [], upF G k [], rfl, rfl, h.snoc hs9 h8 hkk ?_ ⟨rfl, rfl, rfl, rfl, rfl, rfl, rfl, rfl, rfl, rfl, rfl⟩ hfr hfr ⟨hs1, by show since ≤ ((now + 1 : Nat) : Int); omega, .inr ⟨by show since < (now : Int) + 1; omega, by show (now : Int) + 1 ≤ ((now + 1 : Nat) : Int); omega⟩⟩⟩
  intro b hb
  rcases hbb b hb with q | q | q
  · exact .inl (by unfold ntB hiL; simp [q])
  · rcases ho6 with e | e
    · rw [← e] at q; exact .inl (by unfold ntB hiL; simp [q])
    · have := e b q; exact .inr (by omega)
  · rcases ho8 with e | e
    · rw [← e] at q; exact .inl (by unfold ntB hiL; simp [q])
    · have := e b q; exact .inr (by omega)
theorem NtR.done (h : NtR w0 wr gh i now k hA hcc es lA lc ls F G) (hb5 : Below wr.heap.size wr w5) {B5 gf m cc : Nat} {fz : List Int} (hof : Own w5 B5 (some ⟨gf, 0, none⟩) m cc fz) (hgf : wr.heap.size ≤ gf) (hgf5 : gf < w5.heap.size) (hm : 20 ≤ m) (hm2 : m ≤ 120)
    {q : Nat} (hq : q < k) (x y : En) (hx : es.getD q en0 = x) (hy : ls.getD q en0 = y) (hxe : x.e = -1) {err P : Int} {A' : Option Addr} {c' : Nat} (hh6 : HiS w6 w0.heap.size gh ((now : Int) + 1) (.slice hA k hcc) (es.set q { x with e := (now : Int) + 1, aA := A', an := m, ac := c', err := err, port := P }))
    (hf6 : Rd w6 A' fz) (hp6 : ∀ p, A' = some p → w5.heap.size ≤ p.block) (hn6 : A' = none → c' = 0) (hk6 : Keep (hiL gh (.slice hA k hcc)) w5 w6)
    {A7 : Option Addr} {c7 : Nat} (h7 : Rd w7 A7 fz) (hp7 : ∀ p, A7 = some p → w6.heap.size ≤ p.block) (hn7 : A7 ≠ none) (hk7 : Keep [] w6 w7)
    (h8 : w8.ownsRow w0.heap.size 47 11 (.slice lA k lc) k (enC (ls.set q { y with e := (now : Int) + 1, aA := A7, an := m, ac := c7, err := err, port := P }))) (hk8 : Keep ((Value.slice lA k lc).ownBlock.toList) w7 w8) (v : Value) :
    ∃ hA2 hc2 es2 lA2 lc2 ls2 F2 G2, lA2 = lA ∧ lc2 = lc ∧ NtR w0 (w8.setCell ⟨gf, 0, none⟩ v) gh (i + 1) (now + 1) k hA2 hc2 es2 lA2 lc2 ls2 F2 G2 := by
  have hlow := h.low
  have s5 := hb5.size
  have s6 := hk6.size
  have s7 := hk7.size
  have s8 := hk8.size
  have hfl : fz.length = m := hof.len
  have hpl := h.pl q hq
  have hfe := h.fe q hq
  have hfl0 := h.fl q hq
  have hlk := h.lk q hq
  rw [hx] at hpl hfe hlk
  rw [hy] at hfl0 hlk
  have hbl : ∀ b ∈ ntB gh hA k hcc lA lc, b < wr.heap.size := fun b hb => (hlow b hb).2
  have hin : ∀ b ∈ (Value.slice lA k lc).ownBlock.toList, b ∈ ntB gh hA k hcc lA lc := fun b hb => by unfold ntB; exact List.mem_append_right _ hb
  have hih : ∀ b ∈ hiL gh (.slice hA k hcc), b ∈ ntB gh hA k hcc lA lc := fun b hb => by unfold ntB; exact List.mem_append_left _ hb
  have kk8 : Keep (gf :: (Value.slice lA k lc).ownBlock.toList) w7 (w8.setCell ⟨gf, 0, none⟩ v) := (hk8.mono (fun x hx => List.mem_cons_of_mem _ hx)).setCell (p := ⟨gf, 0, none⟩) (.inl List.mem_cons_self) v
  have kk6 : Keep (gf :: (Value.slice lA k lc).ownBlock.toList) w6 (w8.setCell ⟨gf, 0, none⟩ v) := (hk7.mono (fun x hx => by cases hx)).trans kk8
  have hkk : Keep (ntB gh hA k hcc lA lc) wr (w8.setCell ⟨gf, 0, none⟩ v) :=
    Keep.setCell (p := ⟨gf, 0, none⟩) ((((Keep.of_below hb5).trans (hk6.mono hih)).trans (hk7.mono (fun x hx => by cases hx))).trans (hk8.mono hin)) (.inr hgf) v
  have hs9 : HiS (w8.setCell ⟨gf, 0, none⟩ v) w0.heap.size gh ((now + 1 : Nat) : Int) (.slice hA k hcc) (es.set q { x with e := (now : Int) + 1, aA := A', an := m, ac := c', err := err, port := P }) := by
    refine HiS.keep (by rw [show ((now + 1 : Nat) : Int) = (now : Int) + 1 by omega]; exact hh6) kk6 ?_ (fun g hg hm => ?_)
    · intro hm
      rcases List.mem_cons.1 hm with e | e
      · have := h.hs.st.lt; omega
      · exact h.ghno e
    · rcases List.mem_cons.1 hm with e | e
      · have := (own_blk h.hs.row hg).2.1; omega
      · exact h.apart g hg e
  have hr9 : (w8.setCell ⟨gf, 0, none⟩ v).ownsRow w0.heap.size 47 11 (.slice lA k lc) k (enC (ls.set q { y with e := (now : Int) + 1, aA := A7, an := m, ac := c7, err := err, port := P })) := by
    refine own_keep h8 (bs := [gf]) ((Keep.refl _ w8).setCell (p := ⟨gf, 0, none⟩) (.inl (by simp)) v) (fun g hg hm => ?_)
    rw [List.mem_singleton] at hm
    have := (own_blk h.ro hg).2.1
    omega
  have s9 : (w8.setCell ⟨gf, 0, none⟩ v).heap.size = w8.heap.size := by simp [World.setCell]
  have fx := hfe.keep hkk (fun b hb => .inl hb) (fun b hb => .inl hb)
  have fy := hfl0.keep hkk (fun b hb => .inl hb) (fun b hb => .inl hb)
  have ha6 : ∀ p, A' = some p → p.block < w6.heap.size := rd_lt hf6 (by omega)
  have ha7 : ∀ p, A7 = some p → p.block < w7.heap.size := rd_lt h7 (by omega)
  have n6 : ∀ p, A' = some p → p.block ∉ ntB gh hA k hcc lA lc := fun p hp hm => by have := hp6 p hp; have := hbl _ hm; omega
  have n7 : ∀ p, A7 = some p → p.block ∉ ntB gh hA k hcc lA lc := fun p hp hm => by have := hp7 p hp; have := hbl _ hm; omega
  refine ⟨hA, hcc, _, lA, lc, _, upF F q (F q), upF G q fz, rfl, rfl, h.setk hq hs9 hr9 hkk ?_ ?_ ?_ ?_⟩
  · obtain ⟨q1, q2, q3, q4, q5, q6, q7, q8, q9, q10, q11⟩ := hlk
    exact ⟨q1, rfl, q3, q4, q5, q6, rfl, rfl, rfl, q10, q11⟩
  · refine ⟨⟨fx.fs.fr, fx.fs.fl, fx.fs.f0, fx.fs.fm, rd_keep hf6 kk6 (fun p hp hm => ?_), hfl, hn6, by show m ≤ 1000000; omega⟩, fx.fo, fun p hp => ⟨?_, n6 p hp⟩⟩
    · have := hp6 p hp
      rcases List.mem_cons.1 hm with e | e
      · omega
      · exact n6 p hp (hin _ e)
    · have := ha6 p hp; omega
  · refine ⟨⟨fy.fs.fr, fy.fs.fl, fy.fs.f0, fy.fs.fm, rd_keep h7 kk8 (fun p hp hm => ?_), hfl, fun e => absurd e hn7, by show m ≤ 1000000; omega⟩, fy.fo, fun p hp => ⟨?_, n7 p hp⟩⟩
    · have := hp7 p hp
      rcases List.mem_cons.1 hm with e | e
      · omega
      · exact n7 p hp (hin _ e)
    · have := ha7 p hp; omega
  · obtain ⟨p1, p2, p3⟩ := hpl
    exact ⟨p1, by show x.b ≤ ((now + 1 : Nat) : Int); omega, .inr ⟨by show x.b < (now : Int) + 1; omega, by show (now : Int) + 1 ≤ ((now + 1 : Nat) : Int); omega⟩⟩
end
/-- while an event is made: the step lies there, and only the row of events, and new blocks, are written -/
def SN (w6 : World) (gx : Nat) (X : Array Value) (lb : List Nat) (W : World) : Prop := Blk W gx 42 X ∧ Keep lb w6 W
theorem SN.drew {w6 W : World} {gx : Nat} {X : Array Value} {lb : List Nat} (h : SN w6 gx X lb W) : SN w6 gx X lb W.drew := ⟨h.1.drew, h.2.drew⟩
theorem SN.alloc {w6 W : World} {gx : Nat} {X : Array Value} {lb : List Nat} (h : SN w6 gx X lb W) (o : Obj) : SN w6 gx X lb (W.alloc o) := ⟨h.1.alloc o, h.2.alloc o⟩
theorem SN.grownN {w6 W W' : World} {gx g : Nat} {X : Array Value} {lb : List Nat} (h : SN w6 gx X lb W) (hg : W.grownBy W' (some g)) (h1 : w6.heap.size ≤ g) (h2 : gx < w6.heap.size) : SN w6 gx X lb W' :=
  ⟨h.1.grown hg (by omega), h.2.new (Keep.of_grown hg List.mem_cons_self) h1⟩
theorem SN.below {w6 W W' : World} {gx : Nat} {X : Array Value} {lb : List Nat} (h : SN w6 gx X lb W) (hb : Below W.heap.size W W') : SN w6 gx X lb W' := ⟨h.1.below hb, h.2.trans (Keep.of_below hb)⟩
theorem app_new_step {w : World} {base g : Nat} {ops : Array Oper} {o : Oper} {a : Act} {K : Act → World → Prop} {Q : Exit → Act → World → Prop} {E : Prop} (hgd : o.guard = none) (s x : Operand)
    (ho : o.op = .call { callee := .builtin .append, args := #[s, x], argTypes := #[27, 27] })
    (hs : a.eval s = .slice (some ⟨g, 0, none⟩) 0 0) (hown : Own w base (some ⟨g, 0, none⟩) 0 0 []) {B : Option Addr} {m d : Nat} (ys : List Int) (hx : a.eval x = .slice B m d) (hR : Rd w B ys) (hm : ys.length = m) (hl : m ≤ 1000000)
    (h : ∀ A' c' w', Own w' base A' m c' ys → w.grownBy w' (some g) → K (a.put o.dst (.slice A' m c')) w') :
    if Region.wanted o (yielded ops a.tmps) = true then Oper.wp Try.prog o a w K Q else E := by
  refine app_step hgd s x ho hs hown ys hx hR hm (by omega) (by have := hown.row.lt g rfl; omega) ?_
  intro A' c' w' h1 h2 _
  rw [Nat.zero_add] at h1 ⊢
  rw [List.nil_append] at h1
  exact h A' c' w' h1 h2
theorem SN.kept {w6 W W' : World} {gx : Nat} {X : Array Value} {lb lb' : List Nat} (h : SN w6 gx X lb W) (hk : Keep lb' W W') (e : lb = lb') (hx : gx ∉ lb) : SN w6 gx X lb W' := by
  subst e
  exact ⟨hk.blk h.1 hx, h.2.trans hk⟩
theorem ev_new_step {w : World} {base na : Nat} {A : Option Addr} {c : Nat} {es : List En} {ops : Array Oper} {o : Oper} {a : Act} {K : Act → World → Prop} {Q : Exit → Act → World → Prop} {E : Prop} (hgd : o.guard = none) (sx xx : Operand)
    (ho : o.op = .call { callee := .builtin .append, args := #[sx, xx], argTypes := #[38, 38] })
    (hs : a.eval sx = .slice A na c) (hO : w.ownsRow base 47 11 (.slice A na c) na (enC es)) (hbase : base ≤ w.heap.size) (x : En) (hn : na ≤ 100000)
    (hx : a.eval xx = .slice (some ⟨w.heap.size, 0, none⟩) 1 1)
    (h : ∀ A' c' w', w'.ownsRow base 47 11 (.slice A' (na + 1) c') (na + 1) (enC (es ++ [x])) → Keep ((Value.slice A na c).ownBlock.toList) w w' → ((Value.slice A na c).ownBlock = (Value.slice A' (na + 1) c').ownBlock ∨ ∀ g, (Value.slice A' (na + 1) c').ownBlock = some g → w.heap.size ≤ g) → K (a.put o.dst (.slice A' (na + 1) c')) w') :
    if Region.wanted o (yielded ops a.tmps) = true then Oper.wp Try.prog o a (w.alloc (.cells x.cs.toArray 47)) K Q else E := by
  refine ev_step hgd sx xx ho hs (own_below hO (ball w _)) (by rw [World.size_alloc]; omega) x hn w.heap.size hx (Blk.new w _ _) ?_
  intro A' c' w' h1 h2 h3
  refine h A' c' w' h1 (((Keep.refl _ w).alloc _).trans (Keep.of_grownO h2 (fun g1 h1 => by rw [h1]; simp))) ?_
  rcases h3 with q | q
  · exact .inl q
  · refine .inr fun g hg => ?_
    have := q g hg
    rw [World.size_alloc] at this
    omega
/-- the same, in order -/
theorem wpList_ev_new {w : World} {base na : Nat} {A : Option Addr} {c : Nat} {es : List En} {ops : Array Oper} {rest : List Oper} {o : Oper} {a : Act} {Q : Exit → Act → World → Prop} (hgd : o.guard = none) (sx xx : Operand)
    (ho : o.op = .call { callee := .builtin .append, args := #[sx, xx], argTypes := #[38, 38] })
    (hs : a.eval sx = .slice A na c) (hO : w.ownsRow base 47 11 (.slice A na c) na (enC es)) (hbase : base ≤ w.heap.size) (x : En) (hn : na ≤ 100000)
    (hx : a.eval xx = .slice (some ⟨w.heap.size, 0, none⟩) 1 1)
    (h : ∀ A' c' w', w'.ownsRow base 47 11 (.slice A' (na + 1) c') (na + 1) (enC (es ++ [x])) → Keep ((Value.slice A na c).ownBlock.toList) w w' → ((Value.slice A na c).ownBlock = (Value.slice A' (na + 1) c').ownBlock ∨ ∀ g, (Value.slice A' (na + 1) c').ownBlock = some g → w.heap.size ≤ g) → wpList Try.prog ops Q rest (a.put o.dst (.slice A' (na + 1) c')) w') :
    wpList Try.prog ops Q (o :: rest) a (w.alloc (.cells x.cs.toArray 47)) := by
  refine wpList_ev hgd sx xx ho hs (own_below hO (ball w _)) (by rw [World.size_alloc]; omega) x hn w.heap.size hx (Blk.new w _ _) ?_
  intro A' c' w' h1 h2 h3
  refine h A' c' w' h1 (((Keep.refl _ w).alloc _).trans (Keep.of_grownO h2 (fun g1 h1 => by rw [h1]; simp))) ?_
  rcases h3 with q | q
  · exact .inl q
  · refine .inr fun g hg => ?_
    have := q g hg
    rw [World.size_alloc] at this
    omega
end Go.Proofs.Ytbnlpidhbilenaa
