/-
  Package epoch: an Advance that nothing stops; 'moves' tells true. Conditions stand in each theorem.
-/
import Derived.Test.YtoeencklcemofaaEpRow
namespace Go.Proofs.Ytoeencklcemofaa
open Go.RowKit Go.Deep Plain
set_option linter.unusedVariables false
set_option maxRecDepth 100000

/-- an Advance that nothing stops, behind so many of its own steps -/
def adv (n : Nat) (x : Int) (t : Nat) : Sv := if t = 0 then ⟨4, 0, 1, false⟩ else if t ≤ n then ⟨5, x, t, false⟩ else if t = n + 1 then ⟨6, x, n + 1, false⟩ else ⟨0, x, n + 1, true⟩
theorem adv_ok (n : Nat) (x : Int) (t : Nat) (h1 : 1 ≤ n) : SvOk n (adv n x t) := by
  unfold adv SvOk
  repeat' split
  all_goals (simp only; omega)
theorem adv_go {n : Nat} {l : List Int} {x : Int} (h0 : l.getD 0 0 = x) (hl : ∀ k, 1 ≤ k → k ≤ n → l.getD k 0 = 0 ∨ l.getD k 0 = m64 (x + 1)) (h1 : 1 ≤ n) (t : Nat) (ht : t ≤ n) : stp n l (adv n x t) = (l, adv n x (t + 1)) := by
  unfold adv stp
  by_cases e : t = 0
  · subst e
    rw [if_pos rfl, if_neg (by omega), if_pos (by omega)]
    simp only [stepF, h0]
  · rw [if_neg e, if_pos ht, if_neg (by omega)]
    have hk : ¬ (l.getD t 0 ≠ 0 ∧ l.getD t 0 ≠ m64 (x + 1)) := by
      rintro ⟨a, b⟩
      rcases hl t (by omega) ht with h | h
      · exact a h
      · exact b h
    simp only [stepF]
    rw [if_neg hk]
    by_cases e2 : n + 1 ≤ t + 1
    · rw [if_pos e2, if_neg (by omega), if_pos (by omega)]
      have : t = n := by omega
      subst this; rfl
    · rw [if_neg e2, if_pos (by omega)]
theorem adv_end {n : Nat} {l : List Int} {x : Int} (h0 : l.getD 0 0 = x) : stp n l (adv n x (n + 1)) = (l.set 0 (m64 (x + 1)), adv n x (n + 2)) := by
  unfold adv stp
  rw [if_neg (by omega), if_neg (by omega), if_pos rfl, if_neg (by omega), if_neg (by omega), if_neg (by omega)]
  simp only [stepF]
  rw [if_pos h0]

section
variable {w w' : World} {ge gc gn gg n gs : Nat} {l : List Int} {x : Int}
theorem stp_t {s : Sv} (h : EpB w ge gc gn gg n l) (hs : StV w gs gc s) (ho : SvOk n s) :
    Calls Try.prog 51 #[.pointer (some ⟨ge, 0, none⟩), .pointer (some ⟨gs, 0, none⟩)] w fun e w' => e = .returned (.bool ((stp n l s).2.nx == 0)) ∧ EpB w' ge gc gn gg n (stp n l s).1 ∧ StV w' gs gc (stp n l s).2 ∧ Keep [gn, gs] w w' :=
  stp_any h hs ho (blk_types h.es hs (by decide)) (blk_types h.cl.st hs (by decide)) (blk_types h.cl.nu hs (by decide))
theorem adv_do (h : EpB w ge gc gn gg n l) (t : Nat) (hs : StV w gs gc (adv n x t)) (h0 : l.getD 0 0 = x) (hl : ∀ k, 1 ≤ k → k ≤ n → l.getD k 0 = 0 ∨ l.getD k 0 = m64 (x + 1)) (ht : t ≤ n) :
    Calls Try.prog 51 #[.pointer (some ⟨ge, 0, none⟩), .pointer (some ⟨gs, 0, none⟩)] w fun e w' => e = .returned (.bool false) ∧ EpB w' ge gc gn gg n l ∧ StV w' gs gc (adv n x (t + 1)) ∧ Keep [gn, gs] w w' := by
  have hd := stp_t h hs (adv_ok n x t h.n1)
  rw [adv_go h0 hl h.n1 t ht] at hd
  have : ((adv n x (t + 1)).nx == 0) = false := by
    unfold adv
    rw [if_neg (by omega)]
    split
    · rfl
    · rw [if_pos (by omega)]; rfl
  simp only [this] at hd
  exact hd
theorem adv_fin (h : EpB w ge gc gn gg n l) (hs : StV w gs gc (adv n x (n + 1))) (h0 : l.getD 0 0 = x) :
    Calls Try.prog 51 #[.pointer (some ⟨ge, 0, none⟩), .pointer (some ⟨gs, 0, none⟩)] w fun e w' => e = .returned (.bool true) ∧ EpB w' ge gc gn gg n (l.set 0 (m64 (x + 1))) ∧ StV w' gs gc (adv n x (n + 2)) ∧ Keep [gn, gs] w w' := by
  have hd := stp_t h hs (adv_ok n x (n + 1) h.n1)
  rw [adv_end h0] at hd
  have : ((adv n x (n + 2)).nx == 0) = true := by
    unfold adv
    rw [if_neg (by omega), if_neg (by omega), if_neg (by omega)]; rfl
  simp only [this] at hd
  exact hd
theorem adv_won (t : Nat) (hs : StV w gs gc (adv n x (n + 2))) :
    Calls Try.prog 52 #[.pointer (some ⟨gs, 0, none⟩)] w fun e w' => e = .returned (.bool true) ∧ w = w' := by
  have : adv n x (n + 2) = ⟨0, x, n + 1, true⟩ := by
    unfold adv
    rw [if_neg (by omega), if_neg (by omega), if_neg (by omega)]
  rw [this] at hs
  exact eWon_any hs
/-- what was given up stays while Steps go on -/
theorem Gs.done {base m : Nat} {G : Nat → List (Int × Int)} {s : Sv} (hg : Gs w base gg m G) (h : EpB w ge gc gn gg n l) (hs : StV w gs gc s) (hk : Keep [gn, gs] w w') : Gs w' base gg m G := by
  obtain ⟨cs, hb⟩ := hg.blk
  refine hg.keep hk ?_ ?_
  · simp only [List.mem_cons, List.not_mem_nil, or_false, not_or]
    exact ⟨blk_types hb h.cl.nu (by decide), blk_types hb hs (by decide)⟩
  · intro b hb
    simp only [List.mem_cons, List.not_mem_nil, or_false] at hb
    rcases hb with rfl | rfl
    · exact ⟨_, _, h.cl.nu, by decide⟩
    · exact ⟨_, _, hs, by decide⟩
theorem EpB.below0 (h : EpB w ge gc gn gg n l) (hb : Below w.heap.size w w') : EpB w' ge gc gn gg n l := h.below hb
theorem Keep.two {B a b : Nat} {w0 : World} (hk : Keep [a, b] w w') (hb : Below B w0 w) (h0 : B ≤ w0.heap.size) (h1 : B ≤ a) (h2 : B ≤ b) : Below B w0 w' :=
  hk.below hb h0 (by simp only [List.mem_cons, List.not_mem_nil, or_false]; rintro y (rfl | rfl) <;> assumption)
end

set_option maxHeartbeats 4000000 in
theorem moves_any (w : World) :
    Calls Try.prog 49 #[] w fun e w' => e = .returned (.bool true) ∧ Below w.heap.size w w' := by
  go_enter Try.func49, Try.ntmps49
  go_upto_region 2 with (go_at_call 48; refine (eNew_any 2 (by omega) (by omega) w).mono ?_; rintro e w1 ⟨ge, gc, gn, gg, rfl, he, hbg, hB, s1, s2, s3, s4⟩)
  have HE := Lib.hid he
  have HG := Lib.hid (Gs.made hbg s4)
  have HB := Lib.hid hB
  have z1 := hB.size
  clear he hbg hB
  go_upto_region 3 with (go_at_call 59; refine (gsGive HE.out HG.out 0 (by omega) 7 (by simp) z1).mono ?_; rintro e w2 ⟨rfl, hg, hk⟩)
  have HE2 := Lib.hid (hk.ep HE.out HG.out.blk)
  have HB2 := Lib.hid (hk.below HB.out (Nat.le_refl _) (Nat.le_refl _) s4)
  have HG2 := Lib.hid hg
  clear hg hk HE HG HB z1
  go_wp2
  go_loopw [4] (fun s4 wr => ∃ i : Nat, s4 = .int .i64 i ∧ i ≤ 2 ∧ EpB wr ge gc gn gg 2 [(i : Int), 0, 0] ∧ Gs wr w.heap.size gg 2 (upE (fun _ => []) 0 ([] ++ [(7, 0)])) ∧ Below w.heap.size w wr) (fun i _ => 2 - (intOf i).toNat)
  case atStart => exact ⟨0, rfl, by omega, HE2.out, HG2.out, HB2.out⟩
  case round =>
    obtain ⟨i, rfl, hi, he, hg, hB⟩ := hrel
    have HE := Lib.hid he
    have HG := Lib.hid hg
    have HB := Lib.hid hB
    have z1 := hB.size
    clear he hg hB HE2 HG2 HB2
    by_cases hlt : i < 2
    · go_upto_region 7 with (go_at_call 50; refine (eAdvance_any HE.out).mono ?_; rintro e w3 ⟨rfl, hs, hb⟩)
      have HE3 := Lib.hid (HE.out.below hb)
      have HG3 := Lib.hid (HG.out.below hb)
      have HB3 := Lib.hid (HB.out.trans (hb.mono z1))
      have HS3 := Lib.hid (show StV w3 wr.heap.size gc (adv 2 i 0) from hs)
      clear hs hb HE HG HB
      generalize hgs : wr.heap.size = gs at *
      go_wp2
      go_loopw [6] (fun s6 wt => ∃ t : Nat, s6 = .int .i64 t ∧ t ≤ 3 ∧ EpB wt ge gc gn gg 2 [(i : Int), 0, 0] ∧ StV wt gs gc (adv 2 i t) ∧ Gs wt w.heap.size gg 2 (upE (fun _ => []) 0 ([] ++ [(7, 0)])) ∧ Below w.heap.size w wt) (fun t _ => 4 - (intOf t).toNat)
      case atStart => exact ⟨0, rfl, by omega, HE3.out, HS3.out, HG3.out, HB3.out⟩
      case round =>
        obtain ⟨t, rfl, ht, he, hs, hg, hB⟩ := hrel
        have HE := Lib.hid he
        have HS := Lib.hid hs
        have HG := Lib.hid hg
        have HB := Lib.hid hB
        have HL := Lib.hid (show ∀ k, 1 ≤ k → k ≤ 2 → ([(i : Int), 0, 0] : List Int).getD k 0 = 0 ∨ ([(i : Int), 0, 0] : List Int).getD k 0 = m64 ((i : Int) + 1) from fun k h1 h2 => .inl (by
          rcases (show k = 1 ∨ k = 2 by omega) with rfl | rfl <;> rfl))
        have zt := hB.size
        clear he hs hg hB HE3 HS3 HG3 HB3
        by_cases h3 : t < 3
        · go_wp2_with (go_at_call 51; refine (adv_do HE.out t HS.out rfl HL.out (by omega)).mono ?_; rintro e w4 ⟨rfl, he4, hs4, hk4⟩)
          have HG4 := Lib.hid (HG.out.done HE.out HS.out hk4)
          have HB4 := Lib.hid (hk4.two HB.out (Nat.le_refl _) s3 (by omega))
          go_roundw
          case rel => exact ⟨t + 1, by go_num, by omega, he4, hs4, HG4.out, HB4.out⟩
          case measure => simp [intOf]; omega
        · obtain rfl : t = 3 := by omega
          go_upto_region 10 with (go_at_call 51; refine (adv_fin HE.out HS.out rfl).mono ?_; rintro e w4 ⟨rfl, he4, hs4, hk4⟩)
          have HG4 := Lib.hid (HG.out.done HE.out HS.out hk4)
          have HB4 := Lib.hid (hk4.two HB.out (Nat.le_refl _) s3 (by omega))
          have HE4 := Lib.hid (show EpB w4 ge gc gn gg 2 [((i + 1 : Nat) : Int), 0, 0] from by
            have e : m64 ((i : Int) + 1) = ((i + 1 : Nat) : Int) := by unfold m64; omega
            have e2 : ([(i : Int), 0, 0] : List Int).set 0 (m64 ((i : Int) + 1)) = [((i + 1 : Nat) : Int), 0, 0] := by rw [e]; rfl
            rw [e2] at he4; exact he4)
          have HS4 := Lib.hid hs4
          clear he4 hs4 hk4 HG HB HE HS
          go_wp2_with (go_at_call 52; refine (adv_won 0 HS4.out).mono ?_; rintro e w5 ⟨rfl, rfl⟩)
          go_roundw
          case rel => exact ⟨i + 1, by go_num, by omega, HE4.out, HG4.out, HB4.out⟩
          case measure => simp [intOf]; omega
    · obtain rfl : i = 2 := by omega
      have HOK : GOk (upE (fun _ => ([] : List (Int × Int))) 0 ([] ++ [(7, 0)]) 0) := by
        intro j hj
        obtain rfl : j = 0 := by simp [upE] at hj; omega
        simp [upE]
      have HT := Lib.hid (gsTake HE.out HG.out 0 (by omega) (by simp [upE]) HOK 1 (by decide))
      clear HOK
      go_upto_region 13 with (go_at_call 61; refine (HT.out).mono ?_; rintro e w3 ⟨rfl, hrow, hg, hk⟩)
      have HE3 := Lib.hid (hk.ep HE.out HG.out.blk)
      have HB3 := Lib.hid (hk.below HB.out (Nat.le_refl _) (Nat.le_refl _) s4)
      have hrow' : Row .u64 24 w3 wr.heap.size [7] := hrow
      have c7 : w3.cell? ⟨wr.heap.size, 0, none⟩ = some (.int .u64 7) := hrow'.at (by simp)
      clear hrow hg hk hrow' HE HG HB
      generalize wr.heap.size = gr at *
      go_wp2_with (first | (go_at_call 53; refine (eNow_any HE3.out 2 rfl (by omega)).mono ?_; rintro e w4 ⟨rfl, rfl⟩) | (go_at_call 81; refine (ePinned_any HE3.out 0 (by omega) 0 rfl (by omega)).mono ?_; rintro e w4 ⟨rfl, q, rfl⟩))
      go_ret
      exact ⟨rfl, below_drewN HB3.out _⟩
end Go.Proofs.Ytoeencklcemofaa
