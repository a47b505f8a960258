/-
  The reference's Orders, and that it tells the same. Conditions stand in each theorem.
-/
import Derived.Test.YtaoookahpbalaaaOrd
namespace Go.Proofs.Ytaoookahpbalaaa
open Go.RowKit Plain
set_option linter.unusedVariables false
set_option maxRecDepth 100000

/-- how many of w's Dones are in order, behind m of them -/
def rc (w : Int) : List (Int × Int × Int) → Nat → Nat
  | [], m => m
  | x :: xs, m => if x.1 = w then (if x.2.1 = (m : Int) then rc w xs (m + 1) else m) else rc w xs m
theorem rc_le (w : Int) : ∀ (ds : List (Int × Int × Int)) (m : Nat), rc w ds m ≤ m + ds.length
  | [], m => by simp [rc]
  | x :: xs, m => by
      simp only [rc, List.length_cons]
      split
      · split
        · have := rc_le w xs (m + 1); omega
        · omega
      · have := rc_le w xs m; omega
theorem drop_oneD (ds : List (Int × Int × Int)) (k : Nat) (h : k < ds.length) : ds.drop k = ds.getD k default :: ds.drop (k + 1) := by
  rw [List.drop_eq_getElem_cons h]; simp [List.getD, h]
/-- both ways of counting tell the same -/
theorem fold_rc (n : Nat) (k : Nat) (hk : k < n) : ∀ (ds : List (Int × Int × Int)) (s : (Nat → Nat) × (Nat → Bool)), (ds.foldl (oStep n) s).1 k = if s.2 k = true then s.1 k else rc (k : Int) ds (s.1 k)
  | [], s => by simp [rc]
  | x :: ds, s => by
      have ih := fold_rc n k hk ds (oStep n s x)
      simp only [List.foldl_cons]
      rw [ih]
      clear ih
      by_cases hin : 0 ≤ x.1 ∧ x.1 < (n : Int)
      · by_cases hb : s.2 x.1.toNat = true
        · have e : oStep n s x = s := by unfold oStep; rw [if_pos hin, if_pos hb]
          rw [e]
          by_cases hx : x.1 = (k : Int)
          · have : s.2 k = true := by rw [hx] at hb; simpa using hb
            rw [if_pos this, if_pos this]
          · simp only [rc, if_neg hx]
        · by_cases hd : x.2.1 = (s.1 x.1.toNat : Int)
          · have e : oStep n s x = (upd s.1 x.1.toNat (s.1 x.1.toNat + 1), s.2) := by unfold oStep; rw [if_pos hin, if_neg hb, if_pos hd]
            rw [e]
            by_cases hx : x.1 = (k : Int)
            · have hxk : x.1.toNat = k := by omega
              rw [hxk] at hb hd ⊢
              rw [if_neg hb, if_neg hb]
              simp only [rc, if_pos hx, if_pos hd, upd_same]
            · have hxk : k ≠ x.1.toNat := by omega
              simp only [rc, if_neg hx]
              unfold upd
              rw [if_neg hxk]
          · have e : oStep n s x = (s.1, upd s.2 x.1.toNat true) := by unfold oStep; rw [if_pos hin, if_neg hb, if_neg hd]
            rw [e]
            by_cases hx : x.1 = (k : Int)
            · have hxk : x.1.toNat = k := by omega
              rw [hxk] at hb hd ⊢
              rw [if_neg hb]
              simp only [rc, if_pos hx, if_neg hd, upd_same, if_true]
            · have hxk : k ≠ x.1.toNat := by omega
              simp only [rc, if_neg hx]
              unfold upd
              rw [if_neg hxk]
      · have e : oStep n s x = s := by unfold oStep; rw [if_neg hin]
        have hx : ¬ x.1 = (k : Int) := by omega
        rw [e]
        simp only [rc, if_neg hx]
theorem oFold_rc (n k : Nat) (hk : k < n) (ds : List (Int × Int × Int)) : (oFold n ds).1 k = rc (k : Int) ds 0 := by
  unfold oFold; rw [fold_rc n k hk]; simp

def rcV (ds : List (Int × Int × Int)) (n : Nat) : List Value := (List.range n).map fun (j : Nat) => Value.int .i64 (rc (j : Int) ds 0 : Int)
/-- append of one int onto a row of one's own -/
theorem wpList_int {w w0 : World} {base n : Nat} {A : Option Addr} {c : Nat} {xs : List Value} {ops : Array Oper} {rest : List Oper} {o : Oper} {a : Act} {Q : Exit → Act → World → Prop} (hgd : o.guard = none) (sx xx : Operand)
    (ho : o.op = .call { callee := .builtin .append, args := #[sx, xx], argTypes := #[50, 50] })
    (hs : a.eval sx = .slice A n c) (hP : w.ownsRow base 3 1 (.slice A n c) n xs) (B : Below base w0 w) (hbase : base ≤ w.heap.size) (x : Int) (hn : n ≤ 1000000)
    (H : Nat) (hx : a.eval xx = .slice (some ⟨H, 0, none⟩) 1 1) (hH : w.heap.size = H)
    (h : ∀ A' c' w', w'.ownsRow base 3 1 (.slice A' (n + 1) c') (n + 1) (xs ++ [.int .i64 x]) → Below base w0 w' → wpList Try.prog ops Q rest (a.put o.dst (.slice A' (n + 1) c')) w') :
    wpList Try.prog ops Q (o :: rest) a (w.alloc (.cells #[.int .i64 x] 3)) := by
  obtain ⟨i, hi, hz, hsz, hb⟩ := info_parts infoI
  have hk1 := (Keep.refl [] w).alloc (.cells #[.int .i64 x] 3)
  have hP1 := ownsRow_keep hP hk1 (fun y hy => absurd hy (by simp))
  have hbk := Blk.new w 3 #[.int .i64 x]
  rw [hH] at hbk
  refine wpList_append_lies (P := Try.prog) (w := w.alloc (.cells #[.int .i64 x] 3)) hgd sx xx 50 ho base 3 i _ 1 8 Try.underlying50 hi hz hsz hb rfl (by omega) _ n _ hs hP1 ⟨H, 0, none⟩ 1 1 [.int .i64 x] hx rfl ?_ ?_ (by omega) (by unfold maxLen; omega) (by omega) (by simp; omega) _ rfl ?_
  · intro j u hu
    rw [addr_add, Nat.zero_add, hbk.cell]
    simpa using hu
  · intro u hu
    simp at hu
    subst hu; rfl
  · intro g cap w' how hg hgo hlt
    exact h _ _ _ how ((B.alloc hbase (.cells #[.int .i64 x] 3)).grown hg (by simp; omega) (fun k hk => by have := hP1.lt k hk; omega))

set_option maxHeartbeats 2000000 in
theorem rorders_any (A : Option Addr) (nl c : Nat) (ds : List (Int × Int × Int)) (wk : Int) (w : World) (hl : ds.length = nl) (hnl : nl ≤ 1000) (hnc : nl ≤ c) (hR : RdD w A ds) (n : Nat) (hn : (n : Int) = max 0 (min wk 64)) :
    Calls Try.prog 32 #[.slice A nl c, .int .i64 wk] w fun e w' => ∃ A' c', e = .returned (.slice A' n c') ∧ w'.ownsRow w.heap.size 3 1 (.slice A' n c') n (rcV ds n) ∧ Below w.heap.size w w' := by
  have HL := Lib.hid hl
  have HR := Lib.hid hR
  have HN := Lib.hid hn
  have hn64 : n ≤ 64 := by omega
  have hnw : (n : Int) ≤ wk ∨ n = 0 := by omega
  clear hl hR hn
  go_enter Try.func32, Try.ntmps32
  go_wp2
  go_loopw [5, 6] (fun s5 s6 wr => ∃ (k c' : Nat) (A' : Option Addr), s5 = .slice A' k c' ∧ s6 = .int .i64 k ∧ k ≤ n ∧ wr.ownsRow w.heap.size 3 1 (.slice A' k c') k (rcV ds k) ∧ Below w.heap.size w wr) (fun _ i _ => n - (intOf i).toNat)
  case atStart => exact ⟨0, 0, none, rfl, rfl, by omega, World.ownsRow_nil _ _ _ _, Below.refl _ _⟩
  case round =>
    obtain ⟨k, c', A', rfl, rfl, hk, how, hB⟩ := hrel
    have HO := Lib.hid how
    have HB := Lib.hid hB
    have hsz := hB.size
    clear how hB
    by_cases hlt : k < n
    · have i0 : (k : Int) < wk := by omega
      have i1 : (k : Int) < 64 := by omega
      go_wp2
      go_loop [7, 8] (fun s7 s8 => ∃ (m q : Nat), s7 = .int .i64 m ∧ s8 = .int .i64 q ∧ q ≤ nl ∧ m ≤ q ∧ rc (k : Int) ds 0 = rc (k : Int) (ds.drop q) m) (fun _ i => nl - (intOf i).toNat)
      case atStart => exact ⟨0, 0, rfl, rfl, by omega, by omega, rfl⟩
      case round =>
        obtain ⟨m, q, rfl, rfl, hq, hmq, hrc⟩ := hrel
        have HRC := Lib.hid hrc
        clear hrc
        by_cases hql : q < nl
        · obtain ⟨b, off, rfl, hbl, hcell⟩ := HR.out (by rw [HL.out]; omega)
          obtain ⟨q0, q1, q2⟩ := hcell q (by rw [HL.out]; exact hql)
          have p0 := (HB.out.cell (p := ⟨b, off + q * 3, none⟩) hbl).trans q0
          have p1 := (HB.out.cell (p := ⟨b, off + q * 3 + 1, none⟩) hbl).trans q1
          have HD := Lib.hid (drop_oneD ds q (by rw [HL.out]; exact hql))
          clear hcell q0 q1 q2
          generalize ds.getD q default = x at *
          obtain ⟨dw, di, dg⟩ := x
          simp only at p0 p1
          have j0 : (q : Int) < (nl : Int) := by omega
          by_cases hdw : dw = (k : Int)
          · subst hdw
            by_cases hdi : di = (m : Int)
            · subst hdi
              have HE := Lib.hid (show rc (k : Int) (ds.drop q) m = rc (k : Int) (ds.drop (q + 1)) (m + 1) by rw [HD.out]; simp [rc])
              go_wp2
              go_round
              case rel => exact ⟨m + 1, q + 1, by go_num, by go_num, by omega, by omega, by rw [HRC.out, HE.out]⟩
              case measure => simp [intOf]; omega
            · have HE := Lib.hid (show rc (k : Int) ds 0 = m by rw [HRC.out, HD.out]; simp [rc, hdi])
              have d1 : (di != (m : Int)) = true := by rw [bne_iff_ne]; exact hdi
              clear hdi
              have HV := Lib.hid (show rcV ds (k + 1) = rcV ds k ++ [.int .i64 (m : Int)] by unfold rcV; rw [List.range_succ, List.map_append, ← HE.out]; rfl)
              go_wp2_with (at_builtin; refine wpList_int rfl (.tmp 40) (.tmp 42) rfl rfl HO.out HB.out hsz (m : Int) (by omega) _ rfl rfl ?_)
              intro A2 c2 w2 how2 hB2
              rw [← HV.out] at how2
              have HO2 := Lib.hid how2
              have HB2 := Lib.hid hB2
              clear how2 hB2
              go_wp2
              go_roundw
              case rel => exact ⟨k + 1, c2, A2, rfl, by go_num, by omega, HO2.out, HB2.out⟩
              case measure => simp [intOf]; omega
          · have HE := Lib.hid (show rc (k : Int) (ds.drop q) m = rc (k : Int) (ds.drop (q + 1)) m by rw [HD.out]; simp [rc, hdw])
            have d1 : (dw == (k : Int)) = false := by rw [beq_eq_false_iff_ne]; exact hdw
            clear hdw
            go_wp2
            go_round
            case rel => exact ⟨m, q + 1, by first | rfl | go_num, by go_num, by omega, by omega, by rw [HRC.out, HE.out]⟩
            case measure => simp [intOf]; omega
        · obtain rfl : q = nl := by omega
          have HE := Lib.hid (show rc (k : Int) ds 0 = m by rw [HRC.out, List.drop_of_length_le (by rw [HL.out]; omega)]; rfl)
          have HV := Lib.hid (show rcV ds (k + 1) = rcV ds k ++ [.int .i64 (m : Int)] by unfold rcV; rw [List.range_succ, List.map_append, ← HE.out]; rfl)
          go_wp2_with (at_builtin; refine wpList_int rfl (.tmp 40) (.tmp 42) rfl rfl HO.out HB.out hsz (m : Int) (by omega) _ rfl rfl ?_)
          intro A2 c2 w2 how2 hB2
          rw [← HV.out] at how2
          have HO2 := Lib.hid how2
          have HB2 := Lib.hid hB2
          clear how2 hB2
          go_wp2
          go_roundw
          case rel => exact ⟨k + 1, c2, A2, rfl, by go_num, by omega, HO2.out, HB2.out⟩
          case measure => simp [intOf]; omega
    · obtain rfl : k = n := by omega
      have key : decide ((k : Int) < wk) = false ∨ (decide ((k : Int) < wk) = true ∧ decide ((k : Int) < 64) = false) := by
        have := HN.out
        by_cases h : (k : Int) < wk
        · right; exact ⟨by simpa using h, by simp; omega⟩
        · left; simpa using h
      rcases key with h | ⟨h, h'⟩
      · go_wp2
        go_ret
        exact ⟨A', c', rfl, HO.out, HB.out⟩
      · go_wp2
        go_ret
        exact ⟨A', c', rfl, HO.out, HB.out⟩
end Go.Proofs.Ytaoookahpbalaaa
