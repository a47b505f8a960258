/-
  Package turns: many turns, by picks (byPicks, Run), and then all that is left (Rest). Conditions stand in each theorem.
-/
import Derived.Test.YtgengboaoniogaaTurn2
namespace Go.Proofs.Ytgengboaoniogaa
open Go.RowKit Plain
set_option linter.unusedVariables false
set_option maxRecDepth 100000

/-- how things stand: the cells, of each worker how many Ops are done and what it keeps, and what was told -/
structure TS where
  l : List Int
  D : Nat → Nat
  K : Nat → Int
  out : List (Nat × Nat × Int)
/-- a turn of worker i -/
def one (os : Nat → List OpV) (s : TS) (i : Nat) : TS :=
  if s.D i < (os i).length then
    ⟨stL s.l ((os i).getD (s.D i) default) (s.K i), upd s.D i (s.D i + 1), upd s.K i (stK s.l ((os i).getD (s.D i) default) (s.K i)), s.out ++ [(i, s.D i, stG s.l ((os i).getD (s.D i) default) (s.K i))]⟩
  else s
def many (os : Nat → List OpV) (s : TS) (is : List Nat) : TS := is.foldl (one os) s
theorem many_snoc (os : Nat → List OpV) (s : TS) (is : List Nat) (i : Nat) : many os s (is ++ [i]) = one os (many os s is) i := by unfold many; rw [List.foldl_append]; rfl
theorem many_append (os : Nat → List OpV) (s : TS) (is js : List Nat) : many os s (is ++ js) = many os (many os s is) js := by unfold many; rw [List.foldl_append]
theorem one_yes (os : Nat → List OpV) (s : TS) (i : Nat) (h : s.D i < (os i).length) : one os s i = ⟨stL s.l ((os i).getD (s.D i) default) (s.K i), upd s.D i (s.D i + 1), upd s.K i (stK s.l ((os i).getD (s.D i) default) (s.K i)), s.out ++ [(i, s.D i, stG s.l ((os i).getD (s.D i) default) (s.K i))]⟩ := by unfold one; rw [if_pos h]
theorem one_no (os : Nat → List OpV) (s : TS) (i : Nat) (h : ¬ s.D i < (os i).length) : one os s i = s := by unfold one; rw [if_neg h]

def outC (out : List (Nat × Nat × Int)) : List Value := out.flatMap fun x => [.int .i64 x.1, .int .i64 x.2.1, .int .u64 x.2.2]
theorem outC_snoc (out : List (Nat × Nat × Int)) (x : Nat × Nat × Int) : outC (out ++ [x]) = outC out ++ [.int .i64 x.1, .int .i64 x.2.1, .int .u64 x.2.2] := by unfold outC; simp
def sumD (D : Nat → Nat) : Nat → Nat
  | 0 => 0
  | n + 1 => sumD D n + D n
theorem sumD_upd (D : Nat → Nat) (i : Nat) (x : Nat) : ∀ m, i < m → sumD (upd D i x) m + D i = sumD D m + x
  | 0, h => absurd h (by omega)
  | m + 1, h => by
      by_cases e : i = m
      · subst e
        have : ∀ k, k ≤ i → sumD (upd D i x) k = sumD D k := by
          intro k
          induction k with
          | zero => intro _; rfl
          | succ k ih =>
            intro hk
            simp only [sumD]
            rw [ih (by omega)]
            unfold upd; rw [if_neg (by omega)]
        simp only [sumD]
        rw [this i (Nat.le_refl _), upd_same]; omega
      · have := sumD_upd D i x m (by omega)
        simp only [sumD]
        have e2 : upd D i x m = D m := by unfold upd; rw [if_neg (by omega)]
        rw [e2]; omega
theorem sumD_le (D : Nat → Nat) (b : Nat) : ∀ m, (∀ i, i < m → D i ≤ b) → sumD D m ≤ m * b
  | 0, _ => by simp [sumD]
  | m + 1, h => by
      have := sumD_le D b m (fun i hi => h i (by omega))
      have h2 := h m (by omega)
      simp only [sumD, Nat.succ_mul]; omega

theorem ownsRow_keep {w w' : World} {bs : List Nat} {base size n : Nat} {e : TypeId} {v : Value} {xs : List Value} (h : w.ownsRow base e size v n xs) (hk : Keep bs w w') (hb : ∀ x ∈ bs, x < base) : w'.ownsRow base e size v n xs := by
  refine ⟨h.1, ?_⟩
  rcases h.2 with e | ⟨g, cap, cur, e, hg, hh, r⟩
  · exact .inl e
  · refine .inr ⟨g, cap, cur, e, hg, ?_, r⟩
    have hlt : g < w.heap.size := (Array.getElem?_eq_some_iff.1 hh).1
    rw [hk.block g hlt (fun hx => by have := hb g hx; omega)]; exact hh

/-- what stays as it is all through: programs, and where things lie -/
structure TP (w0 : World) (gc gn gw m : Nat) (P : Nat → Value) (V : Nat → Option Addr × Nat × Nat) (os : Nat → List OpV) : Prop where
  pr : ∀ i, i < m → P i = slV (V i)
  rd : ∀ i, i < m → RdP w0 (V i).1 (os i)
  ln : ∀ i, i < m → (os i).length = (V i).2.1 ∧ (V i).2.1 ≤ 1000000
  off : ∀ i, i < m → offB [gn, gw] (V i).1
  lc : gc < w0.heap.size
  lg : gn < w0.heap.size
  lw : gw < w0.heap.size
  n1 : gw ≠ gc
  n2 : gw ≠ gn
  m64 : m ≤ 64
/-- how it lies in memory -/
structure TM (w0 w : World) (gc gn n gw m : Nat) (P : Nat → Value) (os : Nat → List OpV) (s : TS) (ov : Value) : Prop where
  cl : Cl w gc gn n s.l
  wk : Wks w gw m P s.D s.K
  kp : Keep [gn, gw] w0 w
  ku : ∀ i, U64 (s.K i)
  ow : w.ownsRow w0.heap.size 35 3 ov s.out.length (outC s.out)
  ou : s.out.length = sumD s.D m
  dl : ∀ i, i < m → s.D i ≤ (os i).length
section
variable {w0 w : World} {gc gn n gw m : Nat} {P : Nat → Value} {V : Nat → Option Addr × Nat × Nat} {os : Nat → List OpV} {s : TS} {ov : Value}
theorem TM.drewN (h : TM w0 w gc gn n gw m P os s ov) (q : Nat) : TM w0 (w.drewN q) gc gn n gw m P os s ov :=
  ⟨h.cl.drewN q, h.wk.keep ((Keep.refl [] w).drewN q) (by simp), h.kp.drewN q, h.ku, ownsRow_keep h.ow ((Keep.refl [] w).drewN q) (fun x hx => absurd hx (by simp)), h.ou, h.dl⟩
theorem TM.few (h : TM w0 w gc gn n gw m P os s ov) (hp : TP w0 gc gn gw m P V os) : s.out.length ≤ 64000000 := by
  rw [h.ou]
  have h1 := sumD_le s.D 1000000 m (fun i hi => by have := h.dl i hi; have := (hp.ln i hi); omega)
  have h2 : m * 1000000 ≤ 64 * 1000000 := Nat.mul_le_mul_right _ hp.m64
  omega
theorem slotForm (h : w.ownsRow w0.heap.size 35 3 ov n (outC s.out)) : ∃ A c, ov = .slice A n c := by
  rcases h.2 with ⟨e, h0⟩ | ⟨g, cap, cur, e, _⟩
  · exact ⟨none, 0, by rw [e, h0]⟩
  · exact ⟨_, _, e⟩
theorem stK_u (l : List Int) (hl : ∀ i, U64 (l.getD i 0)) (o : OpV) (k : Int) (hk : U64 k) (ho : o.ok) : U64 (stK l o k) := by
  have h0 : U64 0 := by unfold U64; omega
  have h1 : U64 1 := by unfold U64; omega
  unfold stK
  split
  · unfold stG
    split
    · unfold opG
      split
      · exact hl _
      · split <;> assumption
      · exact m64_u _
      · exact h0
    · exact h0
  · exact hk
end
theorem infoD : (Try.prog.info? 35).map (fun i => (i.zero, i.size, i.bytes)) = some (some (.agg #[.int .i64 0, .int .i64 0, .int .u64 0]), 3, 24) := by kernel_rfl

/-- append of one Done: what is told, and what is left -/
theorem wpList_done {w0 w : World} {gc gn n gw m : Nat} {P : Nat → Value} {V : Nat → Option Addr × Nat × Nat} {os : Nat → List OpV} {l : List Int} {D : Nat → Nat} {K : Nat → Int} {out : List (Nat × Nat × Int)} {A : Option Addr} {c : Nat} {ops : Array Oper} {rest : List Oper} {o : Oper} {a : Act} {Q : Exit → Act → World → Prop} (hgd : o.guard = none) (sx xx : Operand)
    (ho : o.op = .call { callee := .builtin .append, args := #[sx, xx], argTypes := #[32, 32] })
    (hs : a.eval sx = .slice A out.length c) (cl : Cl w gc gn n l) (wk : Wks w gw m P D K) (kp : Keep [gn, gw] w0 w) (ow : w.ownsRow w0.heap.size 35 3 (.slice A out.length c) out.length (outC out)) (hp : TP w0 gc gn gw m P V os)
    (x : Nat × Nat × Int) (H : Nat) (hx : a.eval xx = .slice (some ⟨H, 0, none⟩) 1 1) (hH : w.heap.size = H) (hfew : out.length ≤ 64000000)
    (h : ∀ A' c' w', w'.ownsRow w0.heap.size 35 3 (.slice A' (out.length + 1) c') (out.length + 1) (outC (out ++ [x])) → Cl w' gc gn n l → Wks w' gw m P D K → Keep [gn, gw] w0 w' →
      wpList Try.prog ops Q rest (a.put o.dst (.slice A' (out.length + 1) c')) w') :
    wpList Try.prog ops Q (o :: rest) a (w.alloc (.cells #[.int .i64 x.1, .int .i64 x.2.1, .int .u64 x.2.2] 35)) := by
  obtain ⟨i, hi, hz, hsz, hb⟩ := info_parts infoD
  have hk1 := (Keep.refl [] w).alloc (.cells #[.int .i64 x.1, .int .i64 x.2.1, .int .u64 x.2.2] 35)
  have hbk := Blk.new w 35 #[.int .i64 x.1, .int .i64 x.2.1, .int .u64 x.2.2]
  rw [hH] at hbk
  refine wpList_append_lies (P := Try.prog) (w := w.alloc (.cells #[.int .i64 x.1, .int .i64 x.2.1, .int .u64 x.2.2] 35)) hgd sx xx 32 ho w0.heap.size 35 i _ 3 24 Try.underlying32 hi hz hsz hb rfl (by omega) _ out.length (outC out) hs (ownsRow_keep ow hk1 (fun y hy => absurd hy (by simp))) ⟨H, 0, none⟩ 1 1 [.int .i64 x.1, .int .i64 x.2.1, .int .u64 x.2.2] hx rfl ?_ ?_ (by omega) (by unfold maxLen; omega) (by omega) (Nat.le_trans kp.size (by simp)) _ rfl ?_
  · intro j u hu
    rw [addr_add, Nat.zero_add, hbk.cell]
    simpa using hu
  · intro u hu
    simp at hu
    rcases hu with rfl | rfl | rfl <;> rfl
  · intro g cap w' how hg hgo hlt
    have hfar : ∀ b, (Value.slice A out.length c).ownBlock = some b → w0.heap.size ≤ b := by
      intro b hb'
      rcases ow.2 with ⟨e, _⟩ | ⟨g', cap', cur', e, hge, _⟩
      · rw [e] at hb'; cases hb'
      · rw [e] at hb'; simp [Value.ownBlock] at hb'; omega
    have hkk : Keep [] (w.alloc (.cells #[.int .i64 x.1, .int .i64 x.2.1, .int .u64 x.2.2] 35)) w' ∨ ∃ b, w0.heap.size ≤ b ∧ Keep [b] (w.alloc (.cells #[.int .i64 x.1, .int .i64 x.2.1, .int .u64 x.2.2] 35)) w' := by
      cases hob : (Value.slice A out.length c).ownBlock with
      | none => rw [hob] at hg; exact .inl (Keep.of_grownO hg (fun _ h => by cases h))
      | some b => rw [hob] at hg; exact .inr ⟨b, hfar b hob, Keep.of_grown hg (by simp)⟩
    have hcl := cl.keep hk1 (by simp) (by simp)
    have hwk := wk.keep hk1 (by simp)
    have hkp := kp.alloc (.cells #[.int .i64 x.1, .int .i64 x.2.1, .int .u64 x.2.2] 35)
    rw [outC_snoc] at h
    have l1 := hp.lc
    have l2 := hp.lg
    have l3 := hp.lw
    rcases hkk with hkk | ⟨b, hb0, hkk⟩
    · exact h _ _ _ how (hcl.keep hkk (by simp) (by simp)) (hwk.keep hkk (by simp)) (hkp.trans (hkk.mono (by simp)))
    · exact h _ _ _ how (hcl.keep hkk (by simp; omega) (by simp; omega)) (hwk.keep hkk (by simp; omega)) (Keep.new hkp (hkk.mono (by simp)) hb0)
end Go.Proofs.Ytgengboaoniogaa
