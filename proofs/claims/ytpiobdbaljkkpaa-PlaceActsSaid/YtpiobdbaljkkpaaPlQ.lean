/-
  Places, and two rows that tell what should be there (fanlightlaw10.PlaceActs): the state of its loop. Conditions stand in each theorem.
-/
import Derived.Test.YtpiobdbaljkkpaaPlZ
import Derived.Test.YtpiobdbaljkkpaaPlA
import Derived.Test.YtpiobdbaljkkpaaUpd
namespace Go.Proofs.Ytpiobdbaljkkpaa
open Go.RowKit Plain
set_option linter.unusedVariables false
set_option maxRecDepth 100000
set_option linter.unusedSimpArgs false

structure AS (w0 : World) (gp gc gn gl gk n : Nat) (l : List Int) (ws : Nat → Wd) (ks : Nat → Fl) (vs : Nat → Wd) (js : Nat → Fl) (W : World) : Prop where
  pl : PlB W gp gc gn n l
  lw : ∀ i, i < n → l.getD (2 * i) 0 = (ws i).num
  lk : ∀ i, i < n → l.getD (2 * i + 1) 0 = (ks i).num
  cw : ∀ i, (ws i).can = true
  ck : ∀ i, (ks i).can
  cl : ∀ i, i < n → W.cell? ⟨gl, i * 4, none⟩ = some (.int .i64 (vs i).st) ∧ W.cell? ⟨gl, i * 4 + 1, none⟩ = some (.int .i64 (vs i).gn) ∧ W.cell? ⟨gl, i * 4 + 2, none⟩ = some (.int .i64 (vs i).tr) ∧ W.cell? ⟨gl, i * 4 + 3, none⟩ = some (.int .i64 (vs i).sn)
  cf : ∀ i, i < n → W.cell? ⟨gk, i * 3, none⟩ = some (.int .i64 (js i).p) ∧ W.cell? ⟨gk, i * 3 + 1, none⟩ = some (.int .u32 (js i).a) ∧ W.cell? ⟨gk, i * 3 + 2, none⟩ = some (.int .u16 (js i).o)
  bw : ∃ cs, Blk W gl 78 cs
  bk : ∃ cs, Blk W gk 79 cs
  lp : gl ≠ gp ∧ gl ≠ gc ∧ gl ≠ gn
  kp : gk ≠ gp ∧ gk ≠ gc ∧ gk ≠ gn ∧ gk ≠ gl
  nn : w0.heap.size ≤ gn ∧ w0.heap.size ≤ gl ∧ w0.heap.size ≤ gk
  bel : Below w0.heap.size w0 W

section
variable {w0 : World} {gp gc gn gl gk n : Nat} {l : List Int} {ws vs : Nat → Wd} {ks js : Nat → Fl} {W W' : World}
theorem AS.ltl (h : AS w0 gp gc gn gl gk n l ws ks vs js W) : gl < W.heap.size := by obtain ⟨_, hb⟩ := h.bw; exact hb.lt
theorem AS.ltk (h : AS w0 gp gc gn gl gk n l ws ks vs js W) : gk < W.heap.size := by obtain ⟨_, hb⟩ := h.bk; exact hb.lt
theorem AS.freel (h : AS w0 gp gc gn gl gk n l ws ks vs js W) (i : Nat) : W.frozen? ⟨gl, i, none⟩ = false := by obtain ⟨_, hb⟩ := h.bw; exact hb.frozen i
theorem AS.freek (h : AS w0 gp gc gn gl gk n l ws ks vs js W) (i : Nat) : W.frozen? ⟨gk, i, none⟩ = false := by obtain ⟨_, hb⟩ := h.bk; exact hb.frozen i
theorem AS.rows {bs : List Nat} {l' : List Int} {ws' : Nat → Wd} {ks' : Nat → Fl} (h : AS w0 gp gc gn gl gk n l ws ks vs js W) (hk : Keep bs W W') (h4 : gl ∉ bs) (h5 : gk ∉ bs) (h6 : ∀ x ∈ bs, w0.heap.size ≤ x)
    (hp : PlB W' gp gc gn n l') (h1 : ∀ i, i < n → l'.getD (2 * i) 0 = (ws' i).num) (h2 : ∀ i, i < n → l'.getD (2 * i + 1) 0 = (ks' i).num) (h3 : ∀ i, (ws' i).can = true) (h7 : ∀ i, (ks' i).can) : AS w0 gp gc gn gl gk n l' ws' ks' vs js W' := by
  have ll := h.ltl
  have lk := h.ltk
  obtain ⟨cs, hb⟩ := h.bw
  obtain ⟨cs', hb'⟩ := h.bk
  refine ⟨hp, h1, h2, h3, h7, fun i hi => ?_, fun i hi => ?_, ⟨cs, hk.blk hb h4⟩, ⟨cs', hk.blk hb' h5⟩, h.lp, h.kp, h.nn, hk.below h.bel (Nat.le_refl _) h6⟩
  · obtain ⟨a, b, c, d⟩ := h.cl i hi
    exact ⟨(hk.cell (p := ⟨gl, i * 4, none⟩) ll h4).trans a, (hk.cell (p := ⟨gl, i * 4 + 1, none⟩) ll h4).trans b, (hk.cell (p := ⟨gl, i * 4 + 2, none⟩) ll h4).trans c, (hk.cell (p := ⟨gl, i * 4 + 3, none⟩) ll h4).trans d⟩
  · obtain ⟨a, b, c⟩ := h.cf i hi
    exact ⟨(hk.cell (p := ⟨gk, i * 3, none⟩) lk h5).trans a, (hk.cell (p := ⟨gk, i * 3 + 1, none⟩) lk h5).trans b, (hk.cell (p := ⟨gk, i * 3 + 2, none⟩) lk h5).trans c⟩
theorem AS.keep {bs : List Nat} (h : AS w0 gp gc gn gl gk n l ws ks vs js W) (hk : Keep bs W W') (hb : ∀ x ∈ bs, x ≠ gp ∧ x ≠ gc ∧ x ≠ gn ∧ x ≠ gl ∧ x ≠ gk ∧ w0.heap.size ≤ x) : AS w0 gp gc gn gl gk n l ws ks vs js W' :=
  h.rows hk (fun hx => (hb _ hx).2.2.2.1 rfl) (fun hx => (hb _ hx).2.2.2.2.1 rfl) (fun x hx => (hb x hx).2.2.2.2.2) (h.pl.keep hk (fun hx => (hb _ hx).1 rfl) (fun hx => (hb _ hx).2.1 rfl) (fun hx => (hb _ hx).2.2.1 rfl)) h.lw h.lk h.cw h.ck
theorem AS.below (h : AS w0 gp gc gn gl gk n l ws ks vs js W) (hb : Below W.heap.size W W') : AS w0 gp gc gn gl gk n l ws ks vs js W' := h.keep (bs := []) (Keep.of_below hb) (fun x hx => absurd hx (by simp))
theorem AS.drew (h : AS w0 gp gc gn gl gk n l ws ks vs js W) : AS w0 gp gc gn gl gk n l ws ks vs js W.drew := h.below (bdrew W)
theorem getD_set (L : List Int) (i j : Nat) (v : Int) (h : i < L.length) : (L.set i v).getD j 0 = if j = i then v else L.getD j 0 := by
  by_cases e : j = i
  · subst e; simp [List.getD, h]
  · rw [if_neg e]; simp [List.getD, Ne.symm e]
theorem AS.cas (h : AS w0 gp gc gn gl gk n l ws ks vs js W) (i : Nat) (hi : i < n) (x : Wd) (hx : x.can = true) (hp : PlB W' gp gc gn n (l.set (2 * i) x.num)) (hk : Keep [gn] W W') : AS w0 gp gc gn gl gk n (l.set (2 * i) x.num) (upd ws i x) ks vs js W' := by
  have hl := h.pl.cl.len
  refine h.rows hk (by simpa using h.lp.2.2) (by simpa using h.kp.2.2.1) (by simpa using h.nn.1) hp (fun j hj => ?_) (fun j hj => ?_) (fun j => ?_) h.ck
  · rw [getD_set _ _ _ _ (by omega)]
    unfold upd
    by_cases e : j = i
    · rw [if_pos (by omega), if_pos e]
    · rw [if_neg (by omega), if_neg e]; exact h.lw j hj
  · rw [getD_set _ _ _ _ (by omega), if_neg (by omega)]; exact h.lk j hj
  · unfold upd; split
    · exact hx
    · exact h.cw j
theorem AS.skey (h : AS w0 gp gc gn gl gk n l ws ks vs js W) (i : Nat) (hi : i < n) (x : Fl) (hx : x.can) (hp : PlB W' gp gc gn n (l.set (2 * i + 1) x.num)) (hk : Keep [gn] W W') : AS w0 gp gc gn gl gk n (l.set (2 * i + 1) x.num) ws (upd ks i x) vs js W' := by
  have hl := h.pl.cl.len
  refine h.rows hk (by simpa using h.lp.2.2) (by simpa using h.kp.2.2.1) (by simpa using h.nn.1) hp (fun j hj => ?_) (fun j hj => ?_) h.cw (fun j => ?_)
  · rw [getD_set _ _ _ _ (by omega), if_neg (by omega)]; exact h.lw j hj
  · rw [getD_set _ _ _ _ (by omega)]
    unfold upd
    by_cases e : j = i
    · rw [if_pos (by omega), if_pos e]
    · rw [if_neg (by omega), if_neg e]; exact h.lk j hj
  · unfold upd; split
    · exact hx
    · exact h.ck j
theorem AS.setw (h : AS w0 gp gc gn gl gk n l ws ks vs js W) (i : Nat) (hi : i < n) (x : Wd) :
    AS w0 gp gc gn gl gk n l ws ks (upd vs i x) js ((((W.setCell ⟨gl, i * 4, none⟩ (.int .i64 x.st)).setCell ⟨gl, i * 4 + 1, none⟩ (.int .i64 x.gn)).setCell ⟨gl, i * 4 + 2, none⟩ (.int .i64 x.tr)).setCell ⟨gl, i * 4 + 3, none⟩ (.int .i64 x.sn)) := by
  have hk : Keep [gl] W ((((W.setCell ⟨gl, i * 4, none⟩ (.int .i64 x.st)).setCell ⟨gl, i * 4 + 1, none⟩ (.int .i64 x.gn)).setCell ⟨gl, i * 4 + 2, none⟩ (.int .i64 x.tr)).setCell ⟨gl, i * 4 + 3, none⟩ (.int .i64 x.sn)) :=
    ((((Keep.refl [gl] W).setCell (p := ⟨gl, i * 4, none⟩) (.inl (by simp)) _).setCell (p := ⟨gl, i * 4 + 1, none⟩) (.inl (by simp)) _).setCell (p := ⟨gl, i * 4 + 2, none⟩) (.inl (by simp)) _).setCell (p := ⟨gl, i * 4 + 3, none⟩) (.inl (by simp)) _
  obtain ⟨cs, hb⟩ := h.bw
  obtain ⟨cs', hb'⟩ := h.bk
  have lk := h.ltk
  refine ⟨h.pl.keep hk (by simpa using h.lp.1.symm) (by simpa using h.lp.2.1.symm) (by simpa using h.lp.2.2.symm), h.lw, h.lk, h.cw, h.ck, fun j hj => ?_, fun j hj => ?_, ⟨_, (((hb.set _ _).set _ _).set _ _).set _ _⟩, ⟨cs', hk.blk hb' (by simpa using h.kp.2.2.2)⟩, h.lp, h.kp, h.nn, hk.below h.bel (Nat.le_refl _) (by simpa using h.nn.2.1)⟩
  · obtain ⟨a, b, c, d⟩ := h.cl j hj
    by_cases e : j = i
    · subst e
      rw [upd_same]
      refine ⟨?_, ?_, ?_, ?_⟩
      · rw [World.cell?_setCell_other _ _ _ _ (by simp), World.cell?_setCell_other _ _ _ _ (by simp), World.cell?_setCell_other _ _ _ _ (by simp)]; exact World.cell?_setCell_same _ _ _ a
      · rw [World.cell?_setCell_other _ _ _ _ (by simp), World.cell?_setCell_other _ _ _ _ (by simp)]
        exact World.cell?_setCell_same _ _ _ (by rw [World.cell?_setCell_other _ _ _ _ (by simp)]; exact b)
      · rw [World.cell?_setCell_other _ _ _ _ (by simp)]
        exact World.cell?_setCell_same _ _ _ (by rw [World.cell?_setCell_other _ _ _ _ (by simp), World.cell?_setCell_other _ _ _ _ (by simp)]; exact c)
      · exact World.cell?_setCell_same _ _ _ (by rw [World.cell?_setCell_other _ _ _ _ (by simp), World.cell?_setCell_other _ _ _ _ (by simp), World.cell?_setCell_other _ _ _ _ (by simp)]; exact d)
    · unfold upd
      rw [if_neg e]
      refine ⟨?_, ?_, ?_, ?_⟩ <;> (rw [World.cell?_setCell_other _ _ _ _ (by simp <;> omega), World.cell?_setCell_other _ _ _ _ (by simp <;> omega), World.cell?_setCell_other _ _ _ _ (by simp <;> omega), World.cell?_setCell_other _ _ _ _ (by simp <;> omega)]; assumption)
  · obtain ⟨a, b, c⟩ := h.cf j hj
    have h5 : gk ∉ [gl] := by simpa using h.kp.2.2.2
    exact ⟨(hk.cell (p := ⟨gk, j * 3, none⟩) lk h5).trans a, (hk.cell (p := ⟨gk, j * 3 + 1, none⟩) lk h5).trans b, (hk.cell (p := ⟨gk, j * 3 + 2, none⟩) lk h5).trans c⟩
theorem AS.setk (h : AS w0 gp gc gn gl gk n l ws ks vs js W) (i : Nat) (hi : i < n) (x : Fl) :
    AS w0 gp gc gn gl gk n l ws ks vs (upd js i x) (((W.setCell ⟨gk, i * 3, none⟩ (.int .i64 x.p)).setCell ⟨gk, i * 3 + 1, none⟩ (.int .u32 x.a)).setCell ⟨gk, i * 3 + 2, none⟩ (.int .u16 x.o)) := by
  have hk : Keep [gk] W (((W.setCell ⟨gk, i * 3, none⟩ (.int .i64 x.p)).setCell ⟨gk, i * 3 + 1, none⟩ (.int .u32 x.a)).setCell ⟨gk, i * 3 + 2, none⟩ (.int .u16 x.o)) :=
    (((Keep.refl [gk] W).setCell (p := ⟨gk, i * 3, none⟩) (.inl (by simp)) _).setCell (p := ⟨gk, i * 3 + 1, none⟩) (.inl (by simp)) _).setCell (p := ⟨gk, i * 3 + 2, none⟩) (.inl (by simp)) _
  obtain ⟨cs, hb⟩ := h.bw
  obtain ⟨cs', hb'⟩ := h.bk
  have ll := h.ltl
  refine ⟨h.pl.keep hk (by simpa using h.kp.1.symm) (by simpa using h.kp.2.1.symm) (by simpa using h.kp.2.2.1.symm), h.lw, h.lk, h.cw, h.ck, fun j hj => ?_, fun j hj => ?_, ⟨cs, hk.blk hb (by simpa using h.kp.2.2.2.symm)⟩, ⟨_, ((hb'.set _ _).set _ _).set _ _⟩, h.lp, h.kp, h.nn, hk.below h.bel (Nat.le_refl _) (by simpa using h.nn.2.2)⟩
  · obtain ⟨a, b, c, d⟩ := h.cl j hj
    have h5 : gl ∉ [gk] := by simpa using h.kp.2.2.2.symm
    exact ⟨(hk.cell (p := ⟨gl, j * 4, none⟩) ll h5).trans a, (hk.cell (p := ⟨gl, j * 4 + 1, none⟩) ll h5).trans b, (hk.cell (p := ⟨gl, j * 4 + 2, none⟩) ll h5).trans c, (hk.cell (p := ⟨gl, j * 4 + 3, none⟩) ll h5).trans d⟩
  · obtain ⟨a, b, c⟩ := h.cf j hj
    by_cases e : j = i
    · subst e
      rw [upd_same]
      refine ⟨?_, ?_, ?_⟩
      · rw [World.cell?_setCell_other _ _ _ _ (by simp), World.cell?_setCell_other _ _ _ _ (by simp)]; exact World.cell?_setCell_same _ _ _ a
      · rw [World.cell?_setCell_other _ _ _ _ (by simp)]
        exact World.cell?_setCell_same _ _ _ (by rw [World.cell?_setCell_other _ _ _ _ (by simp)]; exact b)
      · exact World.cell?_setCell_same _ _ _ (by rw [World.cell?_setCell_other _ _ _ _ (by simp), World.cell?_setCell_other _ _ _ _ (by simp)]; exact c)
    · unfold upd
      rw [if_neg e]
      refine ⟨?_, ?_, ?_⟩ <;> (rw [World.cell?_setCell_other _ _ _ _ (by simp <;> omega), World.cell?_setCell_other _ _ _ _ (by simp <;> omega), World.cell?_setCell_other _ _ _ _ (by simp <;> omega)]; assumption)
/-- what the places tell -/
theorem AS.load (h : AS w0 gp gc gn gl gk n l ws ks vs js W) (i : Nat) (hi : i < n) : Calls Try.prog 23 #[.pointer (some ⟨gp, 0, none⟩), .int .i64 i] W fun e w' => e = .returned (ws i).val ∧ Below W.heap.size W w' := by
  have := pload_any h.pl i hi
  rw [h.lw i hi, wdOf_num _ (h.cw i)] at this
  exact this
theorem AS.key (h : AS w0 gp gc gn gl gk n l ws ks vs js W) (i : Nat) (hi : i < n) : Calls Try.prog 25 #[.pointer (some ⟨gp, 0, none⟩), .int .i64 i] W fun e w' => e = .returned (ks i).val ∧ Below W.heap.size W w' := by
  have := pkey_any h.pl i hi
  rw [h.lk i hi, flOf_num _ (h.ck i)] at this
  exact this
/-- Cas, whatever is asked -/
theorem AS.casAny (h : AS w0 gp gc gn gl gk n l ws ks vs js W) (i : Int) (o x : Wd) (v : Bool) (hv : v = (inC n i && (o.may x && decide (ws i.toNat = o)))) :
    Calls Try.prog 24 #[.pointer (some ⟨gp, 0, none⟩), .int .i64 i, o.val, x.val] W fun e w' => e = .returned (.bool v) ∧ ∃ l', AS w0 gp gc gn gl gk n l' (if v then upd ws i.toNat x else ws) ks vs js w' ∧ Keep [gn] W w' := by
  cases hi : inC n i
  · rw [hi, Bool.false_and] at hv
    subst hv
    exact (pcas_out h.pl i hi o x).mono fun e w' ⟨he, hb⟩ => ⟨he, l, by simpa using h.below hb, Keep.of_below hb⟩
  · obtain ⟨h0, h1⟩ : 0 ≤ i ∧ i < n := by unfold inC at hi; simpa using hi
    obtain ⟨k, rfl⟩ := Int.eq_ofNat_of_zero_le h0
    have hk : k < n := by omega
    rw [hi, Bool.true_and] at hv
    simp only [Int.ofNat_eq_natCast, Int.toNat_natCast] at hv ⊢
    by_cases hm : o.may x = true
    · rw [hm, Bool.true_and] at hv
      have hco := (may_can hm).1
      have e : v = decide (l.getD (2 * k) 0 = o.num) := by
        rw [hv, h.lw k hk]
        by_cases hh : ws k = o
        · subst hh; simp
        · have : ¬ (ws k).num = o.num := fun h' => hh (num_inj _ _ (h.cw k) hco h')
          simp [hh, this]
      refine (pcas_may h.pl k hk o x hm v e).mono ?_
      rintro e' w' ⟨rfl, h2, h3⟩
      refine ⟨rfl, ?_⟩
      cases v
      · refine ⟨l, ?_, h3⟩
        exact h.rows h3 (by simpa using h.lp.2.2) (by simpa using h.kp.2.2.1) (by simpa using h.nn.1) h2 h.lw h.lk h.cw h.ck
      · exact ⟨_, h.cas k hk x (may_can hm).2 h2 h3, h3⟩
    · have hm' : o.may x = false := by simpa using hm
      rw [hm', Bool.false_and] at hv
      subst hv
      exact (pcas_no h.pl k hk o x hm').mono fun e w' ⟨he, hb⟩ => ⟨he, l, by simpa using h.below hb, Keep.of_below hb⟩
theorem AS.setAny (h : AS w0 gp gc gn gl gk n l ws ks vs js W) (i : Int) (x : Fl) (hx : (0 ≤ x.a ∧ x.a ≤ 4294967295) ∧ (0 ≤ x.o ∧ x.o ≤ 65535)) (v : Bool) (hv : v = (inC n i && wi x.p 255)) :
    Calls Try.prog 26 #[.pointer (some ⟨gp, 0, none⟩), .int .i64 i, x.val] W fun e w' => e = .returned (.int .i64 (if v then 0 else 1)) ∧ ∃ l', AS w0 gp gc gn gl gk n l' ws (if v then upd ks i.toNat x else ks) vs js w' ∧ Keep [gn] W w' := by
  cases v
  · have hx' : inC n i = false ∨ wi x.p 255 = false := by
      have := hv.symm
      rwa [Bool.and_eq_false_iff] at this
    exact (psetkey_no h.pl i x hx').mono fun e w' ⟨he, hb⟩ => ⟨by simpa using he, l, by simpa using h.below hb, Keep.of_below hb⟩
  · have h2 := hv.symm
    rw [Bool.and_eq_true] at h2
    obtain ⟨hi, hw⟩ := h2
    obtain ⟨h0, h1⟩ : 0 ≤ i ∧ i < n := by unfold inC at hi; simpa using hi
    obtain ⟨k, rfl⟩ := Int.eq_ofNat_of_zero_le h0
    have hk : k < n := by omega
    have hc : x.can := ⟨(wi_iff _ _).1 hw, hx⟩
    simp only [Int.ofNat_eq_natCast, Int.toNat_natCast]
    exact (psetkey_any h.pl k hk x hc).mono fun e w' ⟨he, hp, hk'⟩ => ⟨by simpa using he, _, by simpa using h.skey k hk x hc hp hk', hk'⟩
end

theorem infoWd : (Try.prog.info? 78).map (fun i => (i.zero, i.size, i.bytes)) = some (some (.agg #[.int .i64 0, .int .i64 0, .int .i64 0, .int .i64 0]), 4, 32) := by kernel_rfl
theorem infoFl : (Try.prog.info? 79).map (fun i => (i.zero, i.size, i.bytes)) = some (some (.agg #[.int .i64 0, .int .u32 0, .int .u16 0]), 3, 16) := by kernel_rfl
theorem made4 (a b c d : Value) (n i : Nat) (hi : i < n) : (madeCells #[a, b, c, d] (n * 4))[i * 4]? = some a ∧ (madeCells #[a, b, c, d] (n * 4))[i * 4 + 1]? = some b ∧ (madeCells #[a, b, c, d] (n * 4))[i * 4 + 2]? = some c ∧ (madeCells #[a, b, c, d] (n * 4))[i * 4 + 3]? = some d := by
  have h0 : i * 4 < n * 4 := by omega
  have h1 : i * 4 + 1 < n * 4 := by omega
  have h2 : i * 4 + 2 < n * 4 := by omega
  have h3 : i * 4 + 3 < n * 4 := by omega
  have m0 : i * 4 % 4 = 0 := by omega
  have m1 : (i * 4 + 1) % 4 = 1 := by omega
  have m2 : (i * 4 + 2) % 4 = 2 := by omega
  have m3 : (i * 4 + 3) % 4 = 3 := by omega
  refine ⟨?_, ?_, ?_, ?_⟩ <;> simp [madeCells, h0, h1, h2, h3, m0, m1, m2, m3]
theorem run_mkWd (n : Nat) (hn : n ≤ 3072) (w : World) : (Instr.makeSlice 76 (.int .i64 n) (.int .i64 n)).run Try.prog w = .ok (.slice (some ⟨w.heap.size, 0, none⟩) n n) (w.alloc (.cells (madeCells #[.int .i64 0, .int .i64 0, .int .i64 0, .int .i64 0] (n * 4)) 78)) := by
  obtain ⟨i, hi, hz, hs, hb⟩ := info_parts infoWd
  have h := run_make (P := Try.prog) w 76 78 i _ Try.underlying76 hi hz .i64 .i64 n n (by omega) (by omega) (by rw [hb]; omega) (by omega)
  rw [hs, Int.toNat_natCast] at h
  exact h
theorem run_mkFl (n : Nat) (hn : n ≤ 3072) (w : World) : (Instr.makeSlice 77 (.int .i64 n) (.int .i64 n)).run Try.prog w = .ok (.slice (some ⟨w.heap.size, 0, none⟩) n n) (w.alloc (.cells (madeCells #[.int .i64 0, .int .u32 0, .int .u16 0] (n * 3)) 79)) := by
  obtain ⟨i, hi, hz, hs, hb⟩ := info_parts infoFl
  have h := run_make (P := Try.prog) w 77 79 i _ Try.underlying77 hi hz .i64 .i64 n n (by omega) (by omega) (by rw [hb]; omega) (by omega)
  rw [hs, Int.toNat_natCast] at h
  exact h
/-- the state at first, whichever row was made first -/
theorem AS.made {w0 w : World} {gp gc gn n : Nat} {l : List Int} (hp : PlB w gp gc gn n l) (hl : ∀ i, l.getD i 0 = 0) (hn : w0.heap.size ≤ gn) (hb : Below w0.heap.size w0 w) {w' : World} {gl gk : Nat} (hB : Below w.heap.size w w') (hgl : w.heap.size ≤ gl) (hgk : w.heap.size ≤ gk) (hne : gk ≠ gl)
    (h1 : Blk w' gl 78 (madeCells #[.int .i64 0, .int .i64 0, .int .i64 0, .int .i64 0] (n * 4))) (h2 : Blk w' gk 79 (madeCells #[.int .i64 0, .int .u32 0, .int .u16 0] (n * 3))) :
    AS w0 gp gc gn gl gk n l (fun _ => wz) (fun _ => fz) (fun _ => wz) (fun _ => fz) w' := by
  obtain ⟨a, b, c⟩ := hp.lt
  have hs := hb.size
  refine ⟨hp.below hB, fun i _ => hl _, fun i _ => hl _, fun _ => by decide, fun _ => by unfold Fl.can fz; simp, fun i hi => ?_, fun i hi => ?_, ⟨_, h1⟩, ⟨_, h2⟩, ⟨by omega, by omega, by omega⟩, ⟨by omega, by omega, by omega, hne⟩, ⟨hn, by omega, by omega⟩, bthen hb hB⟩
  · obtain ⟨q0, q1, q2, q3⟩ := made4 (.int .i64 0) (.int .i64 0) (.int .i64 0) (.int .i64 0) n i hi
    rw [h1.cell, h1.cell, h1.cell, h1.cell]
    exact ⟨q0, q1, q2, q3⟩
  · obtain ⟨q0, q1, q2⟩ := made3 (.int .i64 0) (.int .u32 0) (.int .u16 0) n i hi
    rw [h2.cell, h2.cell, h2.cell]
    exact ⟨q0, q1, q2⟩
end Go.Proofs.Ytpiobdbaljkkpaa
