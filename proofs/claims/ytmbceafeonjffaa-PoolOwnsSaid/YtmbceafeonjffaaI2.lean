/-
  Two rows of ints of one's own that grow by append, side by side. Conditions stand in each theorem.
-/
import Derived.Test.YtmbceafeonjffaaOwns
import Derived.Deep.AppendLies
namespace Go.Proofs.Ytmbceafeonjffaa
open Go.RowKit Plain
set_option linter.unusedVariables false
set_option maxRecDepth 100000
theorem infoInt : (Try.prog.info? 3).map (fun i => (i.zero, i.size, i.bytes)) = some (some (.int .i64 0), 1, 8) := by kernel_rfl
def iv (l : List Int) : List Value := l.map (Value.int .i64)
theorem iv_app (a b : List Int) : iv (a ++ b) = iv a ++ iv b := by unfold iv; simp
structure I2 (w : World) (base na nb : Nat) (va vb : Value) (xa xb : List Int) : Prop where
  ra : w.ownsRow base 3 1 va na (iv xa)
  rb : w.ownsRow base 3 1 vb nb (iv xb)
  ap : ∀ g, va.ownBlock = some g → vb.ownBlock ≠ some g
theorem I2.swap {w : World} {base na nb : Nat} {va vb : Value} {xa xb : List Int} (h : I2 w base na nb va vb xa xb) : I2 w base nb na vb va xb xa := ⟨h.rb, h.ra, fun g h1 h2 => h.ap g h2 h1⟩
theorem I2.nil (w : World) (base : Nat) : I2 w base 0 0 (.slice none 0 0) (.slice none 0 0) [] [] := ⟨World.ownsRow_nil _ _ _ _, World.ownsRow_nil _ _ _ _, fun g h => by cases h⟩
theorem I2.below {w w' : World} {base na nb : Nat} {va vb : Value} {xa xb : List Int} (h : I2 w base na nb va vb xa xb) (hb : Below w.heap.size w w') : I2 w' base na nb va vb xa xb := ⟨own_below h.ra hb, own_below h.rb hb, h.ap⟩
theorem wpList_i2 {w w0 : World} {base na nb : Nat} {A : Option Addr} {c : Nat} {vb : Value} {xa xb : List Int} {ops : Array Oper} {rest : List Oper} {o : Oper} {a : Act} {Q : Exit → Act → World → Prop} (hgd : o.guard = none) (sx xx : Operand)
    (ho : o.op = .call { callee := .builtin .append, args := #[sx, xx], argTypes := #[29, 29] })
    (hs : a.eval sx = .slice A na c) (hI : I2 w base na nb (.slice A na c) vb xa xb) (B : Below base w0 w) (hbase : base ≤ w.heap.size) (x : Int) (hn : na ≤ 1000000)
    (H : Nat) (hx : a.eval xx = .slice (some ⟨H, 0, none⟩) 1 1) (hH : w.heap.size = H)
    (h : ∀ A' c' w', I2 w' base (na + 1) nb (.slice A' (na + 1) c') vb (xa ++ [x]) xb → Below base w0 w' → Keep ((Value.slice A na c).ownBlock.toList) w w' → wpList Try.prog ops Q rest (a.put o.dst (.slice A' (na + 1) c')) w') :
    wpList Try.prog ops Q (o :: rest) a (w.alloc (.cells #[.int .i64 x] 3)) := by
  obtain ⟨i, hi, hz, hsz, hb⟩ := info_parts infoInt
  have hal := ball w (.cells #[.int .i64 x] 3)
  have ra1 := own_below hI.ra hal
  have rb1 := own_below hI.rb hal
  have hbk := Blk.new w 3 #[.int .i64 x]
  rw [hH] at hbk
  refine wpList_append_lies (P := Try.prog) (w := w.alloc (.cells #[.int .i64 x] 3)) hgd sx xx 29 ho base 3 i _ 1 8 Try.underlying29 hi hz hsz hb rfl (by omega) _ na (iv xa) hs ra1 ⟨H, 0, none⟩ 1 1 [.int .i64 x] hx rfl ?_ ?_ (by omega) (by unfold maxLen; omega) (by omega) (by simp; omega) _ rfl ?_
  · intro j u hu
    rw [addr_add, Nat.zero_add, hbk.cell]
    simpa using hu
  · intro u hu
    simp at hu
    subst hu; rfl
  · intro g cap w' how hg hgo hlt
    refine h (some ⟨g, 0, none⟩) cap w' ⟨?_, own_grown rb1 hg (fun g1 h1 h2 => hI.ap g1 h2 h1), ?_⟩ ?_ ?_
    · rw [iv_app]; exact how
    · intro g1 h1 h2
      simp [Value.ownBlock] at h1
      subst h1
      rcases hgo with hgo | hgo
      · exact hI.ap g hgo h2
      · have := (own_blk hI.rb h2).2.1
        rw [World.size_alloc] at hgo
        omega
    · exact (B.alloc hbase _).grown hg (by simp; omega) (fun k hk => (own_blk ra1 hk).1)
    · exact ((Keep.refl _ w).alloc _).trans (Keep.of_grownO hg (fun g1 h1 => by rw [h1]; simp))
theorem own_notin {w : World} {base n : Nat} {v : Value} {xs : List Value} (h : w.ownsRow base 3 1 v n xs) {g : Nat} {t : TypeId} {cs : Array Value} (hb : Blk w g t cs) (hne : t ≠ 3) : g ∉ v.ownBlock.toList := by
  intro hm
  rw [Option.mem_toList] at hm
  obtain ⟨_, _, cur, q⟩ := own_blk h hm
  unfold Blk at hb
  rw [hb] at q
  injection q with q
  injection q with _ q
  exact hne q
/-- a row of ints, as it is read -/
theorem own_rdn {w : World} {base n : Nat} {A : Option Addr} {m c : Nat} {xs : List Int} (h : w.ownsRow base 3 1 (.slice A m c) n (iv xs)) (hw : ∀ x ∈ xs, (Lit.int .i64 x).wf = true) : RdN .i64 w A xs ∧ xs.length = n ∧ m = n ∧ n ≤ c := by
  have hlen : xs.length = n := by have := h.1; simpa [iv] using this
  rcases h.2 with ⟨hv, rfl⟩ | ⟨g, cap, cur, hv, hg, hh, hnc, hcm, hcs, htk⟩
  · injection hv with e1 e2 e3
    subst e1 e2 e3
    obtain rfl : xs = [] := List.length_eq_zero_iff.1 hlen
    exact ⟨⟨by simp, fun h => absurd h (by simp)⟩, rfl, rfl, Nat.le_refl _⟩
  · injection hv with e1 e2 e3
    subst e1 e2 e3
    refine ⟨⟨hw, fun hp => ⟨g, 0, rfl, (Array.getElem?_eq_some_iff.1 hh).1, fun j hj => ?_⟩⟩, hlen, rfl, hnc⟩
    have e1 : cur.toList[j]? = (iv xs)[j]? := by
      rw [← htk, List.getElem?_take_of_lt (by omega)]
    unfold iv at e1
    rw [List.getElem?_map] at e1
    simp only [Array.getElem?_toList] at e1
    simp only [World.cell?, hh, Nat.zero_add, e1]
    simp [List.getD, hj]
end Go.Proofs.Ytmbceafeonjffaa
