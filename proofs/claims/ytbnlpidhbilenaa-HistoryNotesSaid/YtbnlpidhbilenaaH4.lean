/-
  Package history: Width. Conditions stand in each theorem.
-/
import Derived.Test.YtbnlpidhbilenaaH3
import Derived.Test.YtbnlpidhbilenaaI2
import Derived.Test.YtbnlpidhbilenaaGE
namespace Go.Proofs.Ytbnlpidhbilenaa
open Go.RowKit Plain
set_option linter.unusedVariables false
set_option linter.unusedSimpArgs false
set_option maxRecDepth 100000
def En.wf (x : En) : Prop := (Lit.int .i64 x.b).wf = true ∧ (Lit.int .i64 x.e).wf = true
def widR (L : List En) : Nat := if rgt (L.map En.t3) = true then wid (L.map En.t3) else 0
theorem bs_take (L : List En) (k : Nat) (hk : k < L.length) : bsOf ((L.map En.t3).take (k + 1)) = bsOf ((L.map En.t3).take k) ++ [(L.getD k en0).b] := by
  unfold bsOf
  rw [List.take_succ_eq_append_getElem (by simpa using hk)]
  simp [List.getD, hk, En.t3]
theorem es_take (L : List En) (k : Nat) (hk : k < L.length) : esOf ((L.map En.t3).take (k + 1)) = esOf ((L.map En.t3).take k) ++ (if (L.getD k en0).e = -1 then [] else [(L.getD k en0).e]) := by
  unfold esOf
  rw [List.take_succ_eq_append_getElem (by simpa using hk)]
  by_cases h : (L[k]).e = -1
  · simp [List.getD, hk, En.t3, h]
  · simp [List.getD, hk, En.t3, h]
theorem bsOf_len (L : List T3) : (bsOf L).length = L.length := by unfold bsOf; simp
theorem esOf_len (L : List T3) : (esOf L).length ≤ L.length := by
  unfold esOf; exact Nat.le_trans (List.length_filter_le _ _) (by simp)
theorem bs_wf {L : List En} (h : ∀ x ∈ L, x.wf) : ∀ x ∈ bsOf (L.map En.t3), (Lit.int .i64 x).wf = true := by
  intro x hx
  unfold bsOf at hx
  simp only [List.map_map, List.mem_map] at hx
  obtain ⟨y, hy, rfl⟩ := hx
  exact (h y hy).1
theorem es_wf {L : List En} (h : ∀ x ∈ L, x.wf) : ∀ x ∈ esOf (L.map En.t3), (Lit.int .i64 x).wf = true := by
  intro x hx
  unfold esOf at hx
  have hx := (List.mem_filter.1 hx).1
  simp only [List.map_map, List.mem_map] at hx
  obtain ⟨y, hy, rfl⟩ := hx
  exact (h y hy).2
theorem perm_wf {l l' : List Int} (hp : l.Perm l') (h : ∀ x ∈ l', (Lit.int .i64 x).wf = true) : ∀ x ∈ l, (Lit.int .i64 x).wf = true := fun x hx => h x (hp.mem_iff.1 hx)
/-- the state of the loop -/
def WiR (L : List En) (n : Nat) (w0 : World) (s3 s4 s12 : Value) (wr : World) : Prop :=
  ∃ (k n2 : Nat) (A1 A2 : Option Addr) (c1 c2 : Nat), k ≤ n ∧ s12 = .int .i64 k ∧ s3 = .slice A1 k c1 ∧ s4 = .slice A2 n2 c2 ∧ n2 ≤ k ∧
    I2 wr w0.heap.size k n2 (.slice A1 k c1) (.slice A2 n2 c2) (bsOf ((L.map En.t3).take k)) (esOf ((L.map En.t3).take k)) ∧ Below w0.heap.size w0 wr
set_option maxHeartbeats 4000000 in
theorem width_any (A : Option Addr) (n c : Nat) (L : List En) (w : World) (hn : L.length = n) (hl : n ≤ 100000) (hR : RdE w A L) (hw : ∀ x ∈ L, x.wf) :
    Calls Try.prog 20 #[.slice A n c] w fun e w' => e = .returned (.int .i64 (widR L)) ∧ Below w.heap.size w w' := by
  have HRi := Lib.hid (right_any A n c L w hn (by omega) hR)
  have Hn := Lib.hid hn
  have HR := Lib.hid hR
  have HWf := Lib.hid hw
  clear hn hR hw
  by_cases hr : rgt (L.map En.t3) = false
  · have HE := Lib.hid (show widR L = 0 by unfold widR; rw [hr]; rfl)
    have HRi := Lib.hid (show Calls Try.prog 19 #[.slice A n c] w fun e w' => e = .returned (.bool false) ∧ Below w.heap.size w w' by have := HRi.out; rw [hr] at this; exact this)
    clear hr
    go_enter Try.func20, Try.ntmps20
    go_wp2_with (go_at_call 19; refine (HRi.out).mono ?_; rintro ee w1 ⟨rfl, hb⟩)
    go_ret
    exact ⟨by rw [HE.out]; rfl, hb⟩
  · have hr' : rgt (L.map En.t3) = true := by cases h : rgt (L.map En.t3) <;> simp_all
    clear hr
    have hr := hr'
    clear hr'
    have HE := Lib.hid (show widR L = wid (L.map En.t3) by unfold widR; rw [hr]; rfl)
    have HRi := Lib.hid (show Calls Try.prog 19 #[.slice A n c] w fun e w' => e = .returned (.bool true) ∧ Below w.heap.size w w' by have := HRi.out; rw [hr] at this; exact this)
    have HT := Lib.hid hr
    clear hr
    go_enter Try.func20, Try.ntmps20
    go_upto_region 4 with (go_at_call 19; refine (HRi.out).mono ?_; rintro ee w1 ⟨rfl, hb⟩; have HB1 := Lib.hid hb; clear hb)
    go_wp2
    go_loopw [3, 4, 12] (fun s3 s4 s12 wr => WiR L n w s3 s4 s12 wr) (fun _ _ s12 _ => n - (intOf s12).toNat)
    case atStart => exact ⟨0, 0, none, none, 0, 0, Nat.zero_le _, rfl, rfl, rfl, Nat.le_refl _, I2.nil _ _, HB1.out⟩
    case round =>
      obtain ⟨k, n2, A1, A2, c1, c2, hk, rfl, rfl, rfl, hn2, hI, hb⟩ := hrel
      have HI := Lib.hid hI
      have HB := Lib.hid hb
      clear hI hb HB1
      by_cases hlt : k < n
      · have hbk : decide ((k : Int) < (n : Int)) = true := decide_eq_true (by omega)
        obtain ⟨g, off, rfl, hg, hc⟩ := HR.out (by have := Hn.out; omega)
        have HA := Lib.hid (((fun h => (hc k h).below HB.out hg) (by have := Hn.out; omega)))
        have HTb := Lib.hid (bs_take L k (by have := Hn.out; omega))
        have HTe := Lib.hid (es_take L k (by have := Hn.out; omega))
        clear hc
        generalize L.getD k en0 = x at *
        have HD := Lib.hid (isDone_any x)
        obtain ⟨b, e, ends, out, fA, fn, fc, tick, port, aA, an, ac, err, pr, po⟩ := x
        simp only at HTb HTe
        unfold En.val at HD
        unfold En.cs at *
        have HZ := Lib.hid (Blk.new wr 55 #[.int .i64 0, .int .i64 0, .bool false, .bool false, .slice none 0 0, .int .i64 0, .int .i64 0, .slice none 0 0, .int .i64 0, .int .i64 0, .int .i64 0])
        have HB1 := Lib.hid (bthen HB.out (ball wr (.cells #[.int .i64 0, .int .i64 0, .bool false, .bool false, .slice none 0 0, .int .i64 0, .int .i64 0, .slice none 0 0, .int .i64 0, .int .i64 0, .int .i64 0] 55)))
        have HI1 := Lib.hid (HI.out.below (ball wr (.cells #[.int .i64 0, .int .i64 0, .bool false, .bool false, .slice none 0 0, .int .i64 0, .int .i64 0, .slice none 0 0, .int .i64 0, .int .i64 0, .int .i64 0] 55)))
        have HS := Lib.hid (show w.heap.size ≤ wr.heap.size from HB.out.size)
        go_upto_region 7 with (first | ((with_reducible refine gd_ldt 55 14 ?_); refine wpList_ldc rfl 55 (.tmp 14) rfl _ rfl _ (HA.out) sEn ?_) | ((with_reducible refine gd_st 55 6 ?_); refine wpList_st rfl 55 (.tmp 6) _ rfl _ _ rfl _ rfl (HZ.out) sEn.2 (#[.int .i64 b, .int .i64 e, .bool ends, .bool out, .slice fA fn fc, .int .i64 tick, .int .i64 port, .slice aA an ac, .int .i64 err, .int .i64 pr, .int .i64 po]) rfl (Nat.le_of_ble_eq_true rfl) rfl ?_; intro w4 hb4 hg4 hs4))
        have k0 : w4.cell? ⟨wr.heap.size, 0, none⟩ = some (.int .i64 b) := hb4.cell 0
        have hni : ∀ {v : Value} {m : Nat} {xs : List Value}, wr.ownsRow w.heap.size 3 1 v m xs → ∀ g1, v.ownBlock = some g1 → some wr.heap.size ≠ some g1 := fun h g1 h1 h2 => by
          have := (own_blk h h1).2.1
          injection h2 with h2
          omega
        have HI4 := Lib.hid (show I2 w4 w.heap.size k n2 (.slice A1 k c1) (.slice A2 n2 c2) (bsOf ((L.map En.t3).take k)) (esOf ((L.map En.t3).take k)) from
          ⟨own_grown HI1.out.ra hg4 (fun g1 h1 => hni HI.out.ra g1 h1), own_grown HI1.out.rb hg4 (fun g1 h1 => hni HI.out.rb g1 h1), HI1.out.ap⟩)
        have HK := Lib.hid hb4
        have HB4 := Lib.hid (bgrown HB1.out hg4 HS.out)
        clear hb4 hg4 hs4 HZ HB1 HA hni HI1 HI
        generalize wr.heap.size = g4 at *
        go_upto_region 8 with (at_builtin; refine wpList_i2 rfl (.tmp 16) (.tmp 19) rfl rfl (HI4.out) (HB4.out) (HB4.out.size) b (by omega) _ rfl rfl ?_; intro A1' c1' w5 hI5 hb5 hk5; have HK5 := Lib.hid (hk5.blk HK.out (own_notin HI4.out.ra HK.out (by decide))); have HI5 := Lib.hid (show I2 w5 w.heap.size (k + 1) n2 (.slice A1' (k + 1) c1') (.slice A2 n2 c2) (bsOf ((L.map En.t3).take (k + 1))) (esOf ((L.map En.t3).take k)) by rw [HTb.out]; exact hI5); have HB5 := Lib.hid hb5; clear hI5 hb5 hk5)
        clear k0 HI4 HB4
        by_cases he : e = -1
        · subst he
          have q : ((-1 : Int) != -1) = false := by decide
          go_wp2_with (first | ((with_reducible refine gd_ldt 55 6 ?_); refine wpList_ldw (by rfl) 55 (.tmp 6) rfl _ rfl _ (Blk.at HK5.out) sEn ?_) | (go_at_call 41; refine (HD.out _).mono ?_; rintro ee w6 ⟨rfl, hx⟩; have HI6 := Lib.hid (HI5.out.below hx); have HB6 := Lib.hid (bthen HB5.out hx); clear hx))
          go_roundw
          case rel => exact ⟨k + 1, n2, A1', A2, c1', c2, by omega, by go_num, rfl, rfl, by omega, by have := HI6.out; rw [HTe.out]; simpa using this, HB6.out⟩
          case measure => simp [intOf]; omega
        · have q : (e != -1) = true := by simp [he]
          have HE1 := Lib.hid he
          clear he
          go_wp2_with (first | ((with_reducible refine gd_ldt 55 6 ?_); refine wpList_ldw (by rfl) 55 (.tmp 6) rfl _ rfl _ (Blk.at HK5.out) sEn ?_) | (go_at_call 41; refine (HD.out _).mono ?_; rintro ee w6 ⟨rfl, hx⟩; have k1 := (HK5.out.below hx).cell 1; have HI6 := Lib.hid (HI5.out.below hx).swap; have HB6 := Lib.hid (bthen HB5.out hx); clear hx) | (at_builtin; refine wpList_i2 rfl (.tmp 23) (.tmp 26) rfl rfl (HI6.out) (HB6.out) (HB6.out.size) e (by omega) _ rfl rfl ?_; intro A2' c2' w7 hI7 hb7 hk7; have HI7 := Lib.hid hI7.swap; have HB7 := Lib.hid hb7; clear hI7 hb7 hk7))
          go_roundw
          case rel => exact ⟨k + 1, n2 + 1, A1', A2', c1', c2', by omega, by go_num, rfl, rfl, by omega, by have := HI7.out; rw [HTe.out, if_neg HE1.out]; exact this, HB7.out⟩
          case measure => simp [intOf]; omega
      · have hbk : decide ((k : Int) < (n : Int)) = false := decide_eq_false (by omega)
        obtain rfl : k = n := by omega
        have ht : (L.map En.t3).take k = L.map En.t3 := List.take_of_length_le (by rw [List.length_map, Hn.out]; omega)
        have HI1 := Lib.hid (show I2 wr w.heap.size k n2 (.slice A1 k c1) (.slice A2 n2 c2) (bsOf (L.map En.t3)) (esOf (L.map En.t3)) by have := HI.out; rw [ht] at this; exact this)
        clear ht hlt HI
        have HS1 := Lib.hid (sort_own _ _ HI1.out.ra (by omega))
        go_upto_region 12 with (go_at_call 47; refine (HS1.out).mono ?_; rintro ee w5 ⟨rfl, ho, hk5⟩; have HO5 := Lib.hid ho; have HK5 := Lib.hid hk5; clear ho hk5)
        have hap : ∀ g, (Value.slice A2 n2 c2).ownBlock = some g → g ∉ (Value.slice A1 k c1).ownBlock.toList := fun g h1 h2 => by
          rw [Option.mem_toList] at h2
          exact HI1.out.ap g h2 h1
        have hap2 : ∀ g, (Value.slice A1 k c1).ownBlock = some g → g ∉ (Value.slice A2 n2 c2).ownBlock.toList := fun g h1 h2 => by
          rw [Option.mem_toList] at h2
          exact HI1.out.ap g h1 h2
        have HB5 := Lib.hid (HK5.out.below HB.out (Nat.le_refl _) (fun x hx => by rw [Option.mem_toList] at hx; exact (own_blk HI1.out.ra hx).1))
        have HS2 := Lib.hid (sort_own _ _ (own_keep HI1.out.rb HK5.out hap) (by omega))
        go_upto_region 13 with (go_at_call 47; refine (HS2.out).mono ?_; rintro ee w6 ⟨rfl, ho, hk6⟩; have HO6 := Lib.hid ho; have HK6 := Lib.hid hk6; clear ho hk6)
        have HB6 := Lib.hid (HK6.out.below HB5.out (Nat.le_refl _) (fun x hx => by rw [Option.mem_toList] at hx; exact (own_blk HI1.out.rb hx).1))
        have ha := own_rdn (own_keep HO5.out HK6.out hap2) (perm_wf (srt_perm _) (bs_wf HWf.out))
        have hb := own_rdn HO6.out (perm_wf (srt_perm _) (es_wf HWf.out))
        have HW := Lib.hid (widest_any A1 A2 k c1 n2 c2 _ _ w6 ha.2.1 hb.2.1 (by omega) (by omega) ha.1 hb.1 (srt_sorted _) (srt_sorted _))
        have HF := Lib.hid (show wst (srt (bsOf (L.map En.t3))) (srt (esOf (L.map En.t3))) k = widR L by
          rw [HE.out, ← wid_wst (L.map En.t3) HT.out _ _ (srt_perm _) (srt_perm _) (srt_sorted _), srt_len, bsOf_len, List.length_map, Hn.out])
        clear ha hb hap hap2
        go_wp2_with (go_at_call 48; refine (HW.out).mono ?_; rintro ee w7 ⟨rfl, rfl⟩)
        go_ret
        exact ⟨by rw [HF.out]; rfl, HB6.out⟩
end Go.Proofs.Ytbnlpidhbilenaa
