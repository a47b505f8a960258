/-
  Package history: All. Conditions stand in each theorem.
-/
import Derived.Test.YtbnlpidhbilenaaH7
import Derived.Laws.MakeOwn
namespace Go.Proofs.Ytbnlpidhbilenaa
open Go.RowKit Go.Deep Plain
set_option linter.unusedVariables false
set_option linter.unusedSimpArgs false
set_option maxRecDepth 100000
theorem made_en (n : Nat) : madeCells #[.int .i64 0, .int .i64 0, .bool false, .bool false, .slice none 0 0, .int .i64 0, .int .i64 0, .slice none 0 0, .int .i64 0, .int .i64 0, .int .i64 0] (n * 11) = (enC (List.replicate n en0)).toArray := by
  apply Array.ext_getElem?
  intro j
  have hl : (enC (List.replicate n en0)).length = n * 11 := by rw [enC_len, List.length_replicate]
  by_cases hj : j < n * 11
  · have e := enC_at (List.replicate n en0) (j / 11) (j % 11) (by rw [List.length_replicate]; omega) (by omega)
    rw [show j / 11 * 11 + j % 11 = j by omega] at e
    have e2 : (List.replicate n en0).getD (j / 11) en0 = en0 := by simp [List.getD, show j / 11 < n by omega]
    rw [e2] at e
    simp only [List.getElem?_toArray]
    rw [e]
    unfold madeCells
    have hm : j % 11 < 11 := by omega
    simp [hj]
    generalize j % 11 = m at *
    obtain rfl | rfl | rfl | rfl | rfl | rfl | rfl | rfl | rfl | rfl | rfl : m = 0 ∨ m = 1 ∨ m = 2 ∨ m = 3 ∨ m = 4 ∨ m = 5 ∨ m = 6 ∨ m = 7 ∨ m = 8 ∨ m = 9 ∨ m = 10 := by omega
    all_goals rfl
  · rw [Array.getElem?_eq_none (by unfold madeCells; simp; omega), Array.getElem?_eq_none (by simp [hl]; omega)]
theorem run_mkEn (n : Nat) (hn : n ≤ 100000) (w : World) : (Instr.makeSlice 36 (.int .i64 n) (.int .i64 n)).run Try.prog w = .ok (.slice (some ⟨w.heap.size, 0, none⟩) n n) (w.alloc (.cells (enC (List.replicate n en0)).toArray 55)) := by
  obtain ⟨i, hi, hz, hs, hb⟩ := info_parts infoEn
  have h := run_make (P := Try.prog) w 36 55 i _ Try.underlying36 hi hz .i64 .i64 n n (by omega) (by omega) (by rw [hb]; omega) (by omega)
  rw [hs, Int.toNat_natCast, show (Value.agg #[.int .i64 0, .int .i64 0, .bool false, .bool false, .slice none 0 0, .int .i64 0, .int .i64 0, .slice none 0 0, .int .i64 0, .int .i64 0, .int .i64 0]).cells = #[.int .i64 0, .int .i64 0, .bool false, .bool false, .slice none 0 0, .int .i64 0, .int .i64 0, .slice none 0 0, .int .i64 0, .int .i64 0, .int .i64 0] from rfl, made_en] at h
  exact h
theorem enC_put (L : List En) (i : Nat) (y : En) (hi : i < L.length) : (enC L).take (i * 11) ++ y.cs ++ (enC L).drop (i * 11 + 11) = enC (L.set i y) := by
  have h1 : enC L = enC (L.take i) ++ enC (L.drop i) := by
    have q : enC (L.take i ++ L.drop i) = enC (L.take i) ++ enC (L.drop i) := by unfold enC; exact List.flatMap_append
    rw [List.take_append_drop] at q
    exact q
  have h2 : L.drop i = L[i] :: L.drop (i + 1) := List.drop_eq_getElem_cons hi
  have h3 : (enC (L.take i)).length = i * 11 := by rw [enC_len, List.length_take]; congr 1; omega
  have h4 : enC (L.drop i) = (L[i]).cs ++ enC (L.drop (i + 1)) := by rw [h2]; rfl
  have h5 : (enC L).take (i * 11) = enC (L.take i) := by rw [h1, List.take_append_of_le_length (by omega), List.take_of_length_le (by omega)]
  have h6 : (enC L).drop (i * 11 + 11) = enC (L.drop (i + 1)) := by
    rw [h1, h4, ← List.append_assoc, List.drop_append_of_le_length (by rw [List.length_append, h3]; exact Nat.le_refl _), List.drop_of_length_le (by rw [List.length_append, h3]; exact Nat.le_refl _), List.nil_append]
  rw [h5, h6, List.set_eq_take_append_cons_drop, if_pos hi]
  unfold enC
  simp
/-- the frames of an Entry read as these bytes -/
structure FrS (w : World) (x : En) (f a : List Int) : Prop where
  fr : Rd w x.fA f
  fl : f.length = x.fn
  f0 : x.fA = none → x.fc = 0
  fm : x.fn ≤ 1000000
  ar : Rd w x.aA a
  al : a.length = x.an
  a0 : x.aA = none → x.ac = 0
  am : x.an ≤ 1000000
theorem FrS.below {w w' : World} {x : En} {f a : List Int} (h : FrS w x f a) (hb : Below w.heap.size w w') : FrS w' x f a := ⟨h.fr.below hb, h.fl, h.f0, h.fm, h.ar.below hb, h.al, h.a0, h.am⟩
/-- the same Entry, with frames of its own -/
def En.like (x y : En) : Prop := y.b = x.b ∧ y.e = x.e ∧ y.ends = x.ends ∧ y.out = x.out ∧ y.fn = x.fn ∧ y.tick = x.tick ∧ y.port = x.port ∧ y.an = x.an ∧ y.err = x.err ∧ y.pr = x.pr ∧ y.po = x.po
theorem blk_rde {w : World} {g : Nat} {t : TypeId} {L : List En} (h : Blk w g t (enC L).toArray) : RdE w (some ⟨g, 0, none⟩) L := fun hp => ⟨g, 0, rfl, h.lt, fun i hi j v hv => by
  have hj : j < 11 := (List.getElem?_eq_some_iff.1 hv).1
  rw [addr_add, h.cell]
  simp only [List.getElem?_toArray]
  rw [Nat.zero_add, enC_at L i j hi hj, hv]⟩
/-- its frames lie behind a block -/
def NewS (g : Nat) (y : En) : Prop := (∀ p, y.fA = some p → g < p.block) ∧ (∀ p, y.aA = some p → g < p.block)
theorem frs_keep {w w' : World} {x : En} {f a : List Int} {g : Nat} (h : FrS w x f a) (hk : Keep [g] w w') (hn : NewS g x) : FrS w' x f a :=
  ⟨rd_keep h.fr hk (fun p hp => by have := hn.1 p hp; simp; omega), h.fl, h.f0, h.fm, rd_keep h.ar hk (fun p hp => by have := hn.2 p hp; simp; omega), h.al, h.a0, h.am⟩
/-- what All tells: so many Entries as there are, each like its own, in memory of its own -/
def AlOk (n : Nat) (es : List En) (F G : Nat → List Int) (w : World) (e : Ending) (w' : World) : Prop :=
  ∃ A' L, e = .returned (.slice A' n n) ∧ L.length = n ∧ RdE w' A' L ∧ Below w.heap.size w w' ∧ ∀ i, i < n → (es.getD i en0).like (L.getD i en0) ∧ FrS w' (L.getD i en0) (F i) (G i)
/-- the loop: the first k are done -/
def AllR (w0 : World) (gL n : Nat) (es : List En) (F G : Nat → List Int) (k : Nat) (wr : World) : Prop :=
  ∃ L : List En, L.length = n ∧ Blk wr gL 55 (enC L).toArray ∧ Below w0.heap.size w0 wr ∧ ∀ i, i < k → (es.getD i en0).like (L.getD i en0) ∧ FrS wr (L.getD i en0) (F i) (G i) ∧ NewS gL (L.getD i en0)
set_option maxHeartbeats 8000000 in
theorem all_any {w : World} {base gh gE : Nat} {now : Int} {n c : Nat} {es : List En} (h : HiS w base gh now (.slice (some ⟨gE, 0, none⟩) n c) es) (hn : es.length = n) (hl : n ≤ 1000) (F G : Nat → List Int) (hF : ∀ i, i < n → FrS w (es.getD i en0) (F i) (G i)) :
    Calls Try.prog 15 #[.pointer (some ⟨gh, 0, none⟩)] w (AlOk n es F G w) := by
  have hgl := h.st.lt
  have hgE : gE < w.heap.size := (own_blk h.row rfl).2.1
  have hmk := run_mkEn n (by omega) w
  have c1 : w.cell? ⟨gh, 1, none⟩ = some (.slice (some ⟨gE, 0, none⟩) n c) := h.st.cell 1
  have Hn := Lib.hid hn
  have HH := Lib.hid h
  have HFr := Lib.hid hF
  have HR0 := Lib.hid (show AllR w w.heap.size n es F G 0 (w.alloc (.cells (enC (List.replicate n en0)).toArray 55)) from ⟨List.replicate n en0, by simp, Blk.new w _ _, ball w _, fun i hi => absurd hi (by omega)⟩)
  clear h hn hF
  go_enter Try.func15, Try.ntmps15
  go_upto_region 4 with fail
  have c2 : (w.alloc (.cells (enC (List.replicate n en0)).toArray 55)).cell? ⟨gh, 1, none⟩ = some (.slice (some ⟨gE, 0, none⟩) n c) := (World.cell?_alloc_lt w _ ⟨gh, 1, none⟩ hgl).trans c1
  clear hmk
  generalize w.alloc (.cells (enC (List.replicate n en0)).toArray 55) = w1 at *
  obtain ⟨gL, hgL⟩ : ∃ g, g = w.heap.size := ⟨_, rfl⟩
  rw [← hgL] at HR0
  rw [← hgL]
  have HgL := Lib.hid hgL
  clear hgL c1
  go_wp2
  go_loopw [19] (fun s19 wr => ∃ k : Nat, k ≤ n ∧ s19 = .int .i64 k ∧ AllR w gL n es F G k wr) (fun s19 _ => n - (intOf s19).toNat)
  case atStart => exact ⟨0, Nat.zero_le _, rfl, HR0.out⟩
  case round =>
    obtain ⟨k, hk, rfl, hR⟩ := hrel
    have HR := Lib.hid hR
    clear hR
    by_cases hlt : k < n
    · have hbk : decide ((k : Int) < (n : Int)) = true := decide_eq_true (by omega)
      obtain ⟨L, hLl, hLb, hB, hLi⟩ := HR.out
      have HLl := Lib.hid hLl
      have HLi := Lib.hid hLi
      have HB := Lib.hid hB
      have HAx := Lib.hid ((HH.out.at Hn.out k hlt).below hB hgE)
      have HFx := Lib.hid ((HFr.out k hlt).below hB)
      have HX := Lib.hid (show es.getD k en0 = es.getD k en0 from rfl)
      obtain ⟨x, hx⟩ : ∃ x, x = es.getD k en0 := ⟨_, rfl⟩
      rw [← hx] at HAx HFx
      have HX := Lib.hid hx
      have HZ := Lib.hid (Blk.new wr 55 #[.int .i64 0, .int .i64 0, .bool false, .bool false, .slice none 0 0, .int .i64 0, .int .i64 0, .slice none 0 0, .int .i64 0, .int .i64 0, .int .i64 0])
      have HLb := Lib.hid (Blk.alloc hLb (.cells #[.int .i64 0, .int .i64 0, .bool false, .bool false, .slice none 0 0, .int .i64 0, .int .i64 0, .slice none 0 0, .int .i64 0, .int .i64 0, .int .i64 0] 55))
      have hlL := hLb.lt
      have HB1 := Lib.hid (bthen HB.out (ball wr (.cells #[.int .i64 0, .int .i64 0, .bool false, .bool false, .slice none 0 0, .int .i64 0, .int .i64 0, .slice none 0 0, .int .i64 0, .int .i64 0, .int .i64 0] 55)))
      have HS := Lib.hid (show w.heap.size ≤ wr.heap.size from HB.out.size)
      clear hx hB hLi hLl hLb
      obtain ⟨b, e, ends, out, fA, fn, fc, tick, port, aA, an, ac, err, pr, po⟩ := x
      unfold En.cs at HAx
      simp only at HAx
      go_upto_region 7 with (first | ((with_reducible refine gd_ldt 55 22 ?_); refine wpList_ldc rfl 55 (.tmp 22) rfl _ rfl _ (HAx.out) sEn ?_) | ((with_reducible refine gd_st 55 5 ?_); refine wpList_st rfl 55 (.tmp 5) _ rfl _ _ rfl _ rfl (HZ.out) sEn.2 (#[.int .i64 b, .int .i64 e, .bool ends, .bool out, .slice fA fn fc, .int .i64 tick, .int .i64 port, .slice aA an ac, .int .i64 err, .int .i64 pr, .int .i64 po]) rfl (Nat.le_of_ble_eq_true rfl) rfl ?_; intro w4 hb4 hg4 hs4))
      have HKW := Lib.hid (((Keep.refl [gL] wr).alloc (.cells #[.int .i64 0, .int .i64 0, .bool false, .bool false, .slice none 0 0, .int .i64 0, .int .i64 0, .slice none 0 0, .int .i64 0, .int .i64 0, .int .i64 0] 55)).new (Keep.of_grown hg4 (bs := wr.heap.size :: [gL]) (by simp)) (Nat.le_refl _))
      have hsw : w4.heap.size = wr.heap.size + 1 := by rw [hs4, World.size_alloc]
      have HB4 := Lib.hid (bgrown HB1.out hg4 HS.out)
      have HL4 := Lib.hid (Blk.grown HLb.out hg4 (by omega))
      have HK4 := Lib.hid hb4
      have HF4 := Lib.hid (show FrS w4 ⟨b, e, ends, out, fA, fn, fc, tick, port, aA, an, ac, err, pr, po⟩ (F k) (G k) from ((HFr.out k hlt)).below HB4.out |> fun h => by rw [← HX.out] at h; exact h)
      have x4 : w4.cell? ⟨wr.heap.size, 3 + 1, none⟩ = some (.slice fA fn fc) := hb4.cell 4
      have x7 : w4.cell? ⟨wr.heap.size, 7, none⟩ = some (.slice aA an ac) := hb4.cell 7
      have HC1 := Lib.hid (show ∀ W, Below w4.heap.size w4 W → Calls Try.prog 39 #[.slice fA fn fc] W (ClOk fA fn (F k) W) from fun W hW => clone_any fA fn fc (F k) W HF4.out.fl HF4.out.fm (HF4.out.fr.below hW) HF4.out.f0)
      have HC2 := Lib.hid (show ∀ W, Below w4.heap.size w4 W → Calls Try.prog 39 #[.slice aA an ac] W (ClOk aA an (G k) W) from fun W hW => clone_any aA an ac (G k) W HF4.out.al HF4.out.am (HF4.out.ar.below hW) HF4.out.a0)
      clear hb4 hg4 hs4 HZ HB1 HAx HFx HLb
      go_region_law (go_simp; go_at_call 39; first
        | ((with_reducible refine (HC1.out _ (bdrew w4)).mono ?_); rintro ee w5 ⟨fA', fc', rfl, hc1, hc2, hr5, hp5, hnn5, hb5⟩; have x7' := ((HK4.out.drew).below hb5).cell 7)
        | ((with_reducible refine (HC2.out _ (bthen (bdrew w4) hb5)).mono ?_); rintro ee w6 ⟨aA', ac', rfl, hd1, hd2, hr6, hp6, hnn6, hb6⟩; have y4 := (((HK4.out.drew).below hb5).below hb6).cell 4; have g4 := Blk.frozen (((HK4.out.drew).below hb5).below hb6) 4; have y7 := (((HK4.out.drew).below hb5).below hb6).cell 7; have g7 := Blk.frozen (((HK4.out.drew).below hb5).below hb6) 7))
      all_goals
        have hs45 : w4.heap.size ≤ w5.heap.size := hb5.size
        have hs56 : w5.heap.size ≤ w6.heap.size := hb6.size
        have hp5' : ∀ p, fA' = some p → w4.heap.size ≤ p.block := hp5
        have HX8 := Lib.hid (show Blk ((w6.setCell ⟨wr.heap.size, 4, none⟩ (.slice fA' fn fc')).setCell ⟨wr.heap.size, 7, none⟩ (.slice aA' an ac')) wr.heap.size 55 #[.int .i64 b, .int .i64 e, .bool ends, .bool out, .slice fA' fn fc', .int .i64 tick, .int .i64 port, .slice aA' an ac', .int .i64 err, .int .i64 pr, .int .i64 po] from ((((HK4.out.drew).below hb5).below hb6).set 4 (.slice fA' fn fc')).set 7 (.slice aA' an ac'))
        have HL8 := Lib.hid (((((HL4.out.drew).below hb5).below hb6).ne (p := ⟨wr.heap.size, 4, none⟩) (by simp; omega) (.slice fA' fn fc')).ne (p := ⟨wr.heap.size, 7, none⟩) (by simp; omega) (.slice aA' an ac'))
        have HW8 := Lib.hid (show Keep [gL] wr ((w6.setCell ⟨wr.heap.size, 4, none⟩ (.slice fA' fn fc')).setCell ⟨wr.heap.size, 7, none⟩ (.slice aA' an ac')) from
          (((HKW.out.drew.trans (Keep.of_below hb5)).trans (Keep.of_below hb6)).setCell (p := ⟨wr.heap.size, 4, none⟩) (.inr (Nat.le_refl _)) (.slice fA' fn fc')).setCell (p := ⟨wr.heap.size, 7, none⟩) (.inr (Nat.le_refl _)) (.slice aA' an ac'))
        have HR8 := Lib.hid (rd_keep hr5 (bs := [wr.heap.size]) (((Keep.of_below hb6).setCell (p := ⟨wr.heap.size, 4, none⟩) (.inl (by simp)) (.slice fA' fn fc')).setCell (p := ⟨wr.heap.size, 7, none⟩) (.inl (by simp)) (.slice aA' an ac')) (fun p hp => by have := hp5' p hp; simp; omega))
        have HT8 := Lib.hid (rd_keep hr6 (bs := [wr.heap.size]) (((Keep.refl _ w6).setCell (p := ⟨wr.heap.size, 4, none⟩) (.inl (by simp)) (.slice fA' fn fc')).setCell (p := ⟨wr.heap.size, 7, none⟩) (.inl (by simp)) (.slice aA' an ac')) (fun p hp => by have := hp6 p hp; simp; omega))
        have HB8 := Lib.hid (((bthen (bthen HB4.out.drew hb5) hb6).setCell (p := ⟨wr.heap.size, 4, none⟩) (HS.out) (.slice fA' fn fc')).setCell (p := ⟨wr.heap.size, 7, none⟩) (HS.out) (.slice aA' an ac'))
        have HN8 := Lib.hid (show NewS gL ⟨b, e, ends, out, fA', fn, fc', tick, port, aA', an, ac', err, pr, po⟩ from ⟨fun p hp => by have := hp5' p hp; omega, fun p hp => by have := hp6 p hp; omega⟩)
        have HNN5 := Lib.hid hnn5
        have HNN6 := Lib.hid hnn6
        clear x4 x7 x7' y4 g4 y7 g7 hb5 hb6 hr5 hr6 hp5 hp6 hp5' hnn5 hnn6
        go_upto_region 8 with fail
        generalize (w6.setCell ⟨wr.heap.size, 4, none⟩ (.slice fA' fn fc')).setCell ⟨wr.heap.size, 7, none⟩ (.slice aA' an ac') = w8 at *
        have HPut := Lib.hid (enC_put L k ⟨b, e, ends, out, fA', fn, fc', tick, port, aA', an, ac', err, pr, po⟩ (by have := HLl.out; omega))
        go_wp2_with (first | ((with_reducible refine gd_ldt 55 5 ?_); refine wpList_ldw (by rfl) 55 (.tmp 5) rfl _ rfl _ (Blk.at HX8.out) sEn ?_) | ((with_reducible refine gd_st 55 39 ?_); refine wpList_st rfl 55 (.tmp 39) _ rfl gL (k * 11) rfl (.agg #[.int .i64 b, .int .i64 e, .bool ends, .bool out, .slice fA' fn fc', .int .i64 tick, .int .i64 port, .slice aA' an ac', .int .i64 err, .int .i64 pr, .int .i64 po]) rfl (HL8.out) sEn.2 (enC (L.set k ⟨b, e, ends, out, fA', fn, fc', tick, port, aA', an, ac', err, pr, po⟩)).toArray (congrArg List.toArray HPut.out.symm) (by have := HLl.out; have := enC_len L; simp [Value.cells]; omega) rfl ?_; intro w9 hb9 hg9 hs9))
        go_roundw
        case rel =>
          have hk9 : Keep [gL] wr w9 := HW8.out.trans (Keep.of_grown hg9 (by simp))
          refine ⟨k + 1, by omega, by go_num, L.set k ⟨b, e, ends, out, fA', fn, fc', tick, port, aA', an, ac', err, pr, po⟩, by rw [List.length_set]; exact HLl.out, hb9, bgrown HB8.out hg9 (by have := HgL.out; omega), fun i hi => ?_⟩
          by_cases hik : i = k
          · subst hik
            have e : (L.set i ⟨b, e, ends, out, fA', fn, fc', tick, port, aA', an, ac', err, pr, po⟩).getD i en0 = ⟨b, e, ends, out, fA', fn, fc', tick, port, aA', an, ac', err, pr, po⟩ := by have := HLl.out; simp [List.getD, show i < L.length by omega]
            rw [e, ← HX.out]
            refine ⟨⟨rfl, rfl, rfl, rfl, rfl, rfl, rfl, rfl, rfl, rfl, rfl⟩, ⟨?_, HF4.out.fl, ?_, HF4.out.fm, ?_, HF4.out.al, ?_, HF4.out.am⟩, HN8.out⟩
            · exact rd_keep HR8.out (Keep.of_grown hg9 (bs := [gL]) (by simp)) (fun p hp => by have := HN8.out.1 p hp; simp; omega)
            · exact HNN5.out
            · exact rd_keep HT8.out (Keep.of_grown hg9 (bs := [gL]) (by simp)) (fun p hp => by have := HN8.out.2 p hp; simp; omega)
            · exact HNN6.out
          · have e : (L.set k ⟨b, e, ends, out, fA', fn, fc', tick, port, aA', an, ac', err, pr, po⟩).getD i en0 = L.getD i en0 := by simp [List.getD, List.getElem?_set_ne (fun h => hik h.symm)]
            rw [e]
            obtain ⟨h1, h2, h3⟩ := HLi.out i (by omega)
            exact ⟨h1, frs_keep h2 hk9 h3, h3⟩
        case measure => simp [intOf]; omega
    · have hbk : decide ((k : Int) < (n : Int)) = false := decide_eq_false (by omega)
      obtain rfl : k = n := by omega
      obtain ⟨L, hLl, hLb, hB, hLi⟩ := HR.out
      have HF := Lib.hid (show AlOk k es F G w (.returned (.slice (some ⟨gL, 0, none⟩) k k)) wr from ⟨some ⟨gL, 0, none⟩, L, rfl, hLl, blk_rde hLb, hB, fun i hi => ⟨(hLi i hi).1, (hLi i hi).2.1⟩⟩)
      clear hLl hLb hB hLi
      go_wp2
      go_ret
      exact HF.out
end Go.Proofs.Ytbnlpidhbilenaa
