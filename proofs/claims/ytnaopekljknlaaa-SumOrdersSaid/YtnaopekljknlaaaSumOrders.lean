/-
  SumOrders: its walk.
-/
import Derived.Test.YtnaopekljknlaaaOpenW
namespace Go.Proofs.Ytnaopekljknlaaa
open Go.RowKit Plain
set_option linter.unusedVariables false

/-- the sum of k words from the r-th on, round and round -/
def rsum (ws : List Int) (r : Nat) : Nat → Int
  | 0 => 0
  | k + 1 => rsum ws r k + ws.getD ((k + r) % ws.length) 0
theorem wsum_take_succ (l : List Int) (k : Nat) (h : k < l.length) : wsum (l.take (k + 1)) = wsum (l.take k) + l.getD k 0 := by
  rw [take_one l k h, wsum_append]; simp [wsum]
theorem rsum_take (ws : List Int) (r : Nat) (hr : r < ws.length) : ∀ k, k ≤ ws.length → rsum ws r k = wsum ((ws.drop r ++ ws.take r).take k)
  | 0, _ => by simp [rsum, wsum]
  | k + 1, h => by
      have hl : (ws.drop r ++ ws.take r).length = ws.length := by simp; omega
      rw [wsum_take_succ _ k (by omega), rsum, rsum_take ws r hr k (by omega)]
      congr 1
      rcases Nat.lt_or_ge (k + r) ws.length with h1 | h1
      · rw [Nat.mod_eq_of_lt h1]
        simp only [List.getD]
        rw [List.getElem?_append_left (by rw [List.length_drop]; omega), List.getElem?_drop, Nat.add_comm]
      · have e : (k + r) % ws.length = k + r - ws.length := by
          rw [Nat.mod_eq_sub_mod h1, Nat.mod_eq_of_lt (by omega)]
        rw [e]
        simp only [List.getD]
        rw [List.getElem?_append_right (by rw [List.length_drop]; omega), List.length_drop, List.getElem?_take, if_pos (by omega)]
        congr 2
        omega
theorem rsum_all (ws : List Int) (r : Nat) (hr : r < ws.length) : rsum ws r ws.length = wsum ws := by
  have hl : (ws.drop r ++ ws.take r).length = ws.length := by simp; omega
  rw [rsum_take ws r hr _ (Nat.le_refl _), List.take_of_length_le (by omega), wsum_append]
  have := wsum_append (ws.take r) (ws.drop r)
  rw [List.take_append_drop] at this
  omega

set_option maxHeartbeats 4000000 in
theorem sumOrders_walk (A : Option Addr) (n c : Nat) (zs : List Int) (turn zeros : Int) (w : World) (hn : zs.length = n) (hnc : n ≤ c) (hm : c ≤ maxLen) (hR : RdW w A zs)
    (ht0 : -9223372036854775808 ≤ turn) (ht1 : turn ≤ 9223372036854775807) (hz0 : -9223372036854775808 ≤ zeros) (hz1 : zeros ≤ 9223372036854775807) :
    Calls Try.prog 5 #[.slice A n c, .int .i64 turn, .int .i64 zeros] w fun e w' => e = .returned (.bool true) ∧ Below w.heap.size w w' := by
  unfold maxLen at hm
  have Hn := Lib.hid hn
  clear hn
  go_enter Try.func5, Try.ntmps5
  go_upto_region 1 with fail
  go_cut [0] (fun s0 wx => ∃ (k : Nat) (ws : List Int), s0 = .slice A k c ∧ ws.length = k ∧ k ≤ 100 ∧ RdW w A ws ∧ wx = w)
  case first =>
    by_cases h100 : n ≤ 100
    · go_wp2
      go_meet
      exact ⟨n, zs, rfl, Hn.out, h100, hR, rfl⟩
    · go_wp2
      go_meet
      exact ⟨100, zs.take 100, rfl, by rw [List.length_take, Hn.out]; omega, Nat.le_refl _, hR.take 100, rfl⟩
  case rest =>
    obtain ⟨k, ws, rfl, hk, hk100, hW, rfl⟩ := hcut
    have HW := Lib.hid hW
    have Hk := Lib.hid hk
    clear hR hW hk
    obtain ⟨r, hr⟩ : ∃ r : Nat, 0 < k → wrap64 ((IntKind.u64.wrap turn).tmod (k : Int)) = (r : Int) ∧ r < k := by
      rcases Nat.eq_zero_or_pos k with h | h
      · exact ⟨0, fun h' => by omega⟩
      · obtain ⟨r, h1, h2⟩ := pick_any turn k (by omega) (by omega)
        exact ⟨r, fun _ => ⟨h1, by omega⟩⟩
    obtain ⟨z, hz⟩ : ∃ z : Nat, 0 < k → wrap64 ((IntKind.u64.wrap zeros).tmod (k : Int)) = (z : Int) ∧ z < k := by
      rcases Nat.eq_zero_or_pos k with h | h
      · exact ⟨0, fun h' => by omega⟩
      · obtain ⟨r, h1, h2⟩ := pick_any zeros k (by omega) (by omega)
        exact ⟨r, fun _ => ⟨h1, by omega⟩⟩
    have Hr := Lib.hid hr
    have Hz := Lib.hid hz
    clear hr hz
    go_wp2
    go_loopw [7, 8, 10] (fun s7 s8 i wr => ∃ (j c1 c2 m : Nat) (A1 A2 : Option Addr) (bl : List Int), s7 = .slice A1 (2 * j) c1 ∧ s8 = .slice A2 m c2 ∧ i = .int .i64 j ∧ j ≤ k ∧
        Own wr wc.heap.size A1 (2 * j) c1 (W1 (ws.take j)) ∧ Own wr wc.heap.size A2 m c2 bl ∧ m % 2 = 0 ∧ m ≤ 6 * j ∧ tot bl = rsum ws r j ∧ Dis A1 A2 ∧ Below wc.heap.size wc wr) (fun _ _ i _ => k - (intOf i).toNat)
    case atStart =>
      exact ⟨0, 0, 0, 0, none, none, [], rfl, rfl, rfl, Nat.zero_le _, Own.nil _ _, Own.nil _ _, rfl, by omega, rfl, (fun g h _ => by cases h), Below.refl _ _⟩
    case round =>
      obtain ⟨j, c1, c2, m, A1, A2, bl, rfl, rfl, rfl, hj, ho1, ho2, hm2, hml, htot, hd, hbel⟩ := hrel
      have hsz := hbel.size
      by_cases hlt : j < k
      · obtain ⟨hr, hrk⟩ := Hr.out (by omega)
        obtain ⟨hz, hzk⟩ := Hz.out (by omega)
        obtain ⟨b, off, rfl, hb, hc⟩ := HW.out.2 (by rw [Hk.out]; omega)
        have c0 := (hbel.cell (p := ⟨b, off + j, none⟩) hb).trans (hc j (by rw [Hk.out]; exact hlt))
        have hjr : (j + r) % k < k := Nat.mod_lt _ (by omega)
        have c1' := fun (W : World) (hW : Below wc.heap.size wc W) => (hW.cell (p := ⟨b, off + (j + r) % k, none⟩) hb).trans (hc ((j + r) % k) (by rw [Hk.out]; exact hjr))
        have bx := words_getD HW.out.1 j
        have by_ := words_getD HW.out.1 ((j + r) % k)
        have e1 := Lib.hid (W1_snoc ws j (by rw [Hk.out]; exact hlt))
        have e2 := Lib.hid (show rsum ws r (j + 1) = rsum ws r j + ws.getD ((j + r) % k) 0 by rw [rsum, Hk.out])
        generalize ws.getD j 0 = x at *
        generalize ws.getD ((j + r) % k) 0 = y at *
        have C1 := Lib.hid c1'
        have Ho1 := Lib.hid ho1
        have Ho2 := Lib.hid ho2
        have Hd := Lib.hid hd
        have Hb := Lib.hid hbel
        have Ht := Lib.hid htot
        clear ho1 ho2 hd hbel hc htot c1'
        have i0 : (j : Int) < (k : Int) := by omega
        go_wp2_with (at_builtin; refine wpList_app rfl (.tmp 29) (.tmp 35) rfl rfl (Ho1.out.alloc _) [x / 256, x % 256] rfl (Own.lit _ (Nat.le_refl _) _ (by exact By.mk (by omega) (by omega) (By.mk (by omega) (by omega) By.nil)) 2 rfl (by decide) _ rfl).rd rfl (by omega) (by simp; omega) ?_)
        intro A1' c1' w1 ho1' hg1 hA1
        have ho2 := (Ho2.out.alloc _).apart (Ho1.out.alloc _) hg1 Hd.out.symm
        have hd := Dis.grown Hd.out.symm Ho2.out hA1 (by omega)
        have hb1 := below_app (Hb.out.alloc (by simpa using hsz) _) hg1 (Ho1.out.alloc _) (Nat.le_refl _) (by simp; omega)
        have hsz1 := hb1.size
        have c2' := C1.out w1 hb1
        rw [← e1.out] at ho1'
        have Ho1' := Lib.hid ho1'
        have Ho2' := Lib.hid ho2
        have Hd' := Lib.hid hd
        have Hb1 := Lib.hid hb1
        clear ho1' ho2 hd hb1 hg1 hA1 Ho1 Ho2 Hd Hb c0 C1
        have i4 : (((j : Int) + (r : Int)) % (k : Int)).toNat = (j + r) % k := by
          have : (((j + r) % k : Nat) : Int) = ((j : Int) + (r : Int)) % (k : Int) := by simp
          omega
        have i5 : 0 ≤ ((j : Int) + (r : Int)) % (k : Int) := Int.emod_nonneg _ (by omega)
        have i6 : ((j : Int) + (r : Int)) % (k : Int) < (k : Int) := Int.emod_lt_of_pos _ (by omega)
        go_wp2_with (at_builtin; refine wpList_app rfl (.tmp 50) (.tmp 56) rfl rfl (Ho2'.out.alloc _) [y / 256, y % 256] rfl (Own.lit _ (Nat.le_refl _) _ (by exact By.mk (by omega) (by omega) (By.mk (by omega) (by omega) By.nil)) 2 rfl (by decide) _ rfl).rd rfl (by omega) (by simp; omega) ?_)
        intro A2' c2'' w2 ho2' hg2 hA2
        have ho1 := (Ho1'.out.alloc _).apart (Ho2'.out.alloc _) hg2 Hd'.out.symm
        have hd := Dis.grown Hd'.out.symm Ho1'.out hA2 (by omega)
        have hb2 := below_app (Hb1.out.alloc (by simpa using hsz1) _) hg2 (Ho2'.out.alloc _) (Nat.le_refl _) (by simp; omega)
        have hsz2 := hb2.size
        have hle2 : bl.length % 2 = 0 := by rw [Ho2'.out.len]; exact hm2
        have ht2 : tot (bl ++ [y / 256, y % 256]) = rsum ws r (j + 1) := by
          rw [tot_append _ _ hle2, e2.out, Ht.out]; simp only [tot]; omega
        obtain ⟨bl2, hbl2⟩ : ∃ l, l = bl ++ [y / 256, y % 256] := ⟨_, rfl⟩
        rw [← hbl2] at ht2 ho2'
        have Ht2 := Lib.hid ht2
        have Ho1'' := Lib.hid ho1
        have Ho2'' := Lib.hid ho2'
        have Hd'' := Lib.hid hd
        have Hb2 := Lib.hid hb2
        clear hg2 hA2 Ho1' Ho2' Hd' Hb1 ho1 ho2' hd hb2 ht2 hbl2 hle2 c2' i4
        by_cases hjz : j = z
        · have hjz1 : ((j : Int) == (z : Int)) = true := by simp [hjz]
          have Hjz := Lib.hid hjz
          clear hjz
          go_wp2_with (at_builtin; refine wpList_app rfl (.tmp 66) (.tmp 67) rfl rfl (Ho2''.out.alloc _) [0, 0, 0, 0] rfl (Own.lit _ (Nat.le_refl _) _ (by exact By.mk (by omega) (by omega) (By.mk (by omega) (by omega) (By.mk (by omega) (by omega) (By.mk (by omega) (by omega) By.nil)))) 4 rfl (by decide) _ rfl).rd rfl (by omega) (by simp; omega) ?_)
          intro A3 c3 w3 ho3 hg3 hA3
          have ho1 := (Ho1''.out.alloc _).apart (Ho2''.out.alloc _) hg3 Hd''.out
          have hd := Dis.grown Hd''.out Ho1''.out hA3 (by omega)
          have hb3 := below_app (Hb2.out.alloc (by simpa using hsz2) _) hg3 (Ho2''.out.alloc _) (Nat.le_refl _) (by simp; omega)
          have ht3 : tot (bl2 ++ [0, 0, 0, 0]) = rsum ws r (j + 1) := by
            rw [tot_append _ _ (by rw [Ho2''.out.len]; omega), Ht2.out]; simp only [tot]; omega
          have R := Lib.hid (And.intro ho1 (And.intro ho3 (And.intro ht3 (And.intro hd hb3))))
          clear ho1 ho3 hd hb3 ht3 hg3 hA3
          go_wp2
          go_roundw
          case rel =>
            obtain ⟨ho1, ho3, ht3, hd, hb3⟩ := R.out
            exact ⟨j + 1, c1', c3, _, A1', A3, _, rfl, rfl, by go_num, by omega, ho1, ho3, by omega, by omega, ht3, hd, hb3⟩
          case measure => simp [intOf]; omega
        · have hjz1 : ((j : Int) == (z : Int)) = false := by simp; omega
          have Hjz := Lib.hid hjz
          clear hjz
          go_wp2
          go_roundw
          case rel => exact ⟨j + 1, c1', c2'', _, A1', A2', bl2, rfl, rfl, by go_num, by omega, Ho1''.out, Ho2''.out, by omega, by omega, Ht2.out, Hd''.out, Hb2.out⟩
          case measure => simp [intOf]; omega
      · obtain rfl : j = k := by omega
        have hws := Lib.hid (show ws.take j = ws by rw [← Hk.out, List.take_length])
        rw [hws.out] at ho1
        have hsum : tot bl = tot (W1 ws) := by
          rw [htot, tot_W1]
          rcases Nat.eq_zero_or_pos j with h | h
          · subst h
            have : ws = [] := List.eq_nil_of_length_eq_zero Hk.out
            subst this
            rfl
          · have := rsum_all ws r (by rw [Hk.out]; exact (Hr.out h).2)
            rw [Hk.out] at this
            exact this
        have f1 : (Cs (W1 ws) == Cs bl) = true := by unfold Cs; rw [hsum]; simp
        have f2 : (F (7 + tot (W1 ws)) == F (7 + tot bl)) = true := by rw [hsum]; simp
        have Ho1 := Lib.hid ho1
        have Ho2 := Lib.hid ho2
        have Hb := Lib.hid hbel
        clear ho1 ho2 hbel hd hsum htot
        go_wp2_with fail
        refine (sums_any _).mono ?_
        rintro e w3 ⟨rfl, hb3⟩
        have Ho1' := Lib.hid (Ho1.out.below hb3)
        have Ho2' := Lib.hid (Ho2.out.below hb3)
        have Hb3 := Lib.hid (Hb.out.trans (hb3.mono hsz))
        clear hb3
        go_wp2_with fail
        refine (of_n _ _ _ (W1 ws) _ Ho1'.out.len (by omega) Ho1'.out.rd).mono ?_
        rintro e w' ⟨rfl, q1, rfl⟩
        go_wp2_with fail
        refine (of_n _ _ _ bl _ Ho2'.out.len (by omega) (Ho2'.out.drewN _).rd).mono ?_
        rintro e w' ⟨rfl, q2, rfl⟩
        go_wp2_with fail
        refine (more_n 7 _ _ _ (W1 ws) _ (by omega) (by omega) Ho1'.out.len (by omega) (Ho1'.out.drewN _).rd).mono ?_
        rintro e w' ⟨rfl, q3, rfl⟩
        go_wp2_with fail
        refine (more_n 7 _ _ _ bl _ (by omega) (by omega) Ho2'.out.len (by omega) (Ho2'.out.drewN _).rd).mono ?_
        rintro e w' ⟨rfl, q4, rfl⟩
        go_wp2
        go_ret
        exact ⟨rfl, below_drewN Hb3.out _⟩
end Go.Proofs.Ytnaopekljknlaaa
