/-
  CacheOwns: each call of its round, with whose each number is behind it. Conditions stand in each theorem.
-/
import Derived.Test.YtmbceafeonjffaaCbF
namespace Go.Proofs.Ytmbceafeonjffaa
open Go.RowKit Go.Deep Plain
set_option linter.unusedVariables false
set_option linter.unusedSimpArgs false
set_option maxRecDepth 100000
/-- what lies there behind a call, while the Step's place is not written yet; out is what was told, rr what its slice holds -/
def LayR (w0 : World) (gp gc gn N k gl g9 : Nat) (A : Option Addr) (n c : Nat) (out rr : List Int) (v : Nat) (S : Nat → Sv) (t : Sv) (W : World) : Prop :=
  ∃ l own C bk, CoM w0 W gp gc gn N (k : Int) l 3 3 C id (upS S v t) ∧ OwC N k l own 3 C (upS S v t) bk out ∧ CoR W w0.heap.size 3 C A n c rr ∧ Blk W gl 48 (gaA C) ∧ Blk W g9 50 (sgA S)
/-- out and its slice may be unlike for a while -/
structure OwnX (w0 w : World) (gp gc gn N k gl g9 : Nat) (A : Option Addr) (n c : Nat) (out rr : List Int) : Prop where
  ex : ∃ l own C S bk, CoM w0 w gp gc gn N (k : Int) l 3 3 C id S ∧ OwC N k l own 3 C S bk out ∧ CoR w w0.heap.size 3 C A n c rr ∧ Blk w gl 48 (gaA C) ∧ Blk w g9 50 (sgA S)
  hl : w0.heap.size ≤ gl
  h9 : w0.heap.size ≤ g9
section
variable {w0 w w' : World} {gp gc gn N k gl g9 v n c : Nat} {l l' own own' : List Int} {C : Nat → Cv} {S : Nat → Sv} {bk bk' : Nat → Bool} {A : Option Addr} {out out2 rr : List Int} {x : Cv} {t : Sv}
theorem LayR.lay (h : LayR w0 gp gc gn N k gl g9 A n c out rr v S t w) (hv : v < 3) (b1 : w0.heap.size ≤ gl) (b2 : w0.heap.size ≤ g9) : OwnX w0 (w.setCell ⟨g9, v, none⟩ (sgV' t)) gp gc gn N k gl g9 A n c out rr := by
  obtain ⟨l, own, C, bk, hc, ho, hr, hl, h9⟩ := h
  have hk := (Keep.refl [g9] w).setCell (p := ⟨g9, v, none⟩) (.inl (by simp)) (sgV' t)
  have q := h9.set v (sgV' t)
  rw [sgA_set S hv] at q
  exact ⟨⟨l, own, C, _, bk, hc.one h9 (by decide) (by decide) (by decide) (by decide) (by decide) (by decide) (by decide) (by decide) b2 hk, ho, ⟨hr.row.keep hk (hr.row.off h9 (by decide)), hr.ap⟩, hk.blk hl (by simpa using blkT hl h9 (by decide)), q⟩, b1, b2⟩
theorem LayR.stay (h : LayR w0 gp gc gn N k gl g9 A n c out rr v S t w) (hv : v < 3) (he : sgV' t = sgV' (S v)) (b1 : w0.heap.size ≤ gl) (b2 : w0.heap.size ≤ g9) : OwnX w0 w gp gc gn N k gl g9 A n c out rr := by
  obtain ⟨l, own, C, bk, hc, ho, hr, hl, h9⟩ := h
  exact ⟨⟨l, own, C, _, bk, hc, ho, hr, hl, by rw [sgA_same S hv t he]; exact h9⟩, b1, b2⟩
theorem LayR.cell (h : LayR w0 gp gc gn N k gl g9 A n c out rr v S t w) (hv : v < 3) : w.cell? ⟨g9, v, none⟩ = some (sgV' (S v)) ∧ w.frozen? ⟨g9, v, none⟩ = false := by
  obtain ⟨l, own, C, bk, hc, ho, hr, hl, h9⟩ := h
  exact ⟨(h9.cell v).trans (sgA_at S hv), h9.frozen v⟩
theorem LayR.below (h : LayR w0 gp gc gn N k gl g9 A n c out rr v S t w) (hb : Below w.heap.size w w') : LayR w0 gp gc gn N k gl g9 A n c out rr v S t w' := by
  obtain ⟨l, own, C, bk, hc, ho, hr, hl, h9⟩ := h
  exact ⟨l, own, C, bk, hc.below hb, ho, hr.below hb, hl.below hb, h9.below hb⟩
theorem LayR.row (h : LayR w0 gp gc gn N k gl g9 A n c out rr v S t w) : OwJ w0.heap.size w A n c rr := by
  obtain ⟨l, own, C, bk, hc, ho, hr, hl, h9⟩ := h
  exact hr.row
theorem OwnX.below (h : OwnX w0 w gp gc gn N k gl g9 A n c out rr) (hb : Below w.heap.size w w') : OwnX w0 w' gp gc gn N k gl g9 A n c out rr := by
  obtain ⟨⟨l, own, C, S, bk, hc, ho, hr, hl, h9⟩, b1, b2⟩ := h
  exact ⟨⟨l, own, C, S, bk, hc.below hb, ho, hr.below hb, hl.below hb, h9.below hb⟩, b1, b2⟩
theorem OwnX.row (h : OwnX w0 w gp gc gn N k gl g9 A n c out rr) : OwJ w0.heap.size w A n c rr := by
  obtain ⟨⟨l, own, C, S, bk, hc, ho, hr, hl, h9⟩, b1, b2⟩ := h
  exact hr.row
theorem OwnX.be (h : OwnX w0 w gp gc gn N k gl g9 A n c out rr) : Below w0.heap.size w0 w := by
  obtain ⟨⟨l, own, C, S, bk, hc, ho, hr, hl, h9⟩, b1, b2⟩ := h
  exact hc.be
theorem OwnX.olen (h : OwnX w0 w gp gc gn N k gl g9 A n c out rr) : out.length ≤ k := by
  obtain ⟨⟨l, own, C, S, bk, hc, ho, hr, hl, h9⟩, b1, b2⟩ := h
  exact ho.olen
theorem OwnX.val (h : OwnX w0 w gp gc gn N k gl g9 A n c out out) : ∃ l own C S bk, OwnV w0 w gp gc gn N k gl g9 l own C S bk A n c out := by
  obtain ⟨⟨l, own, C, S, bk, hc, ho, hr, hl, h9⟩, b1, b2⟩ := h
  exact ⟨l, own, C, S, bk, hc, ho, hr, hl, h9, b1, b2⟩
/-- another rr of ints stands for out -/
theorem OwnX.rowK (h : OwnX w0 w gp gc gn N k gl g9 A n c out rr) {A' : Option Addr} {n' c' : Nat} {row' : List Int} (hr : OwJ w0.heap.size w' A' n' c' row') (hk : Keep (ownLs (.slice A n c)) w w') (ho : ∀ g, (Value.slice A' n' c').ownBlock = some g → (Value.slice A n c).ownBlock = some g ∨ w.heap.size ≤ g) :
    OwnX w0 w' gp gc gn N k gl g9 A' n' c' out row' := by
  obtain ⟨⟨l, own, C, S, bk, hc, how, hro, hl, h9⟩, b1, b2⟩ := h
  have hj := hro.row
  have hty : ∀ {b : Nat} {t : TypeId} {cs : Array Value}, Blk w b t cs → t ≠ 3 → b ∉ ownLs (.slice A n c) := fun hb ht => hj.out hb ht
  have hng : ∀ g ∈ ownLs (.slice A n c), NoG w g := fun g hg => by
    obtain ⟨cur, q⟩ := ownLs_blk hj g hg
    exact NoG.typ q (by decide)
  refine ⟨⟨l, own, C, S, bk, ⟨hc.po.rowK hj hk, fun u hu => (hc.ca u hu).keep hk (hty (hc.ca u hu).st (by decide)) (hro.ap u hu).mem, fun u hu g e => ?_, fun j hj' => (hc.ss j hj').keep hk (fun gt o e => hty ((hc.ss j hj' gt o e).2.1) (by decide)) (fun gt gs p e hm => ?_) hng, hc.dg, hc.dr, hc.ds, hk.below hc.be (Nat.le_refl _) (ownLs_ge hj), hc.bg, hc.bn, hc.om⟩, how, ⟨hr, fun u hu g a b => ?_⟩, hk.blk hl (hty hl (by decide)), hk.blk h9 (hty h9 (by decide))⟩, b1, b2⟩
  · obtain ⟨cs, q⟩ := hc.bs u hu g e
    exact ⟨cs, hk.blk q (hty q (by decide))⟩
  · obtain ⟨cur, q⟩ := ownLs_blk hj gs hm
    exact ((hc.ss j hj' gt _ e).2.2 gs p rfl).2.typ q (by decide) rfl
  · rcases ho g b with q | q
    · exact hro.ap u hu g a q
    · have := (hc.ca u hu).row.own_lt g a; omega
/-- out's rr is laid anew -/
theorem OwnX.rowNew (h : OwnX w0 w gp gc gn N k gl g9 A n c out rr) {A' : Option Addr} {n' c' : Nat} {row' : List Int} (hr : OwJ w.heap.size w' A' n' c' row') (hb : Below w.heap.size w w') : OwnX w0 w' gp gc gn N k gl g9 A' n' c' out row' := by
  obtain ⟨⟨l, own, C, S, bk, hc, how, hro, hl, h9⟩, b1, b2⟩ := h
  refine ⟨⟨l, own, C, S, bk, hc.below hb, how, ⟨hr.lower hc.be.size, fun u hu g a b => ?_⟩, hl.below hb, h9.below hb⟩, b1, b2⟩
  have := (hc.ca u hu).row.own_lt g a
  have := (own_blk hr b).1
  omega
theorem OwnV.n100 (h : OwnV w0 w gp gc gn N k gl g9 l own C S bk A n c out) (hv : v < 3) (hk : k ≤ 100) : (C v).n ≤ 100 := by
  have h1 := h.ow.zlen hv
  have h2 := (h.co.ca v hv).row.len
  omega
/-- a Do -/
def OwnD (w0 : World) (gp gc gn N k gl g9 : Nat) (A : Option Addr) (n c : Nat) (out : List Int) (v : Nat) (S : Nat → Sv) (e : Ending) (W : World) : Prop :=
  ∃ b : Bool, e = .returned (.bool b) ∧ (b = true → LayR w0 gp gc gn N k gl g9 A n c out out v S none W) ∧ (b = false → OwnX w0 W gp gc gn N k gl g9 A n c out out)
theorem OwnV.doAny {g0 gt : Nat} {o : Option (Nat × Ps)} (h : OwnV w0 w gp gc gn N k gl g9 l own C S bk A n c out) (hv : v < 3) (hS : S v = some (gt, o)) (hN : N ≤ 32) (hk : k ≤ 100) (hkN : k ≤ 32 * N) :
    Calls Try.prog 25 #[.pointer (some ⟨g0, 0, none⟩), .pointer (some ⟨gt, 0, none⟩)] w (OwnD w0 gp gc gn N k gl g9 A n c out v S) := by
  have hC : upS C v (C v) = C := upS_self C v
  rcases o with _ | ⟨gs, p⟩
  · refine (h.co.doR (g0 := g0) (v := v) (j := v) hv rfl hS).mono ?_
    rintro e W ⟨rfl, hc, hk, _⟩
    rw [← hC] at hc
    have ho : OwC N k l own 3 (upS C v (C v)) (upS S v none) bk out := by
      rw [hC]
      exact h.ow.put0 hv (by unfold pS; rw [hS]; rfl) (by rw [hS]; rfl) (by rw [hS]; rfl) rfl rfl rfl
    obtain ⟨q1, q2, q3, q4, q5⟩ := h.call hv hc hk rfl ho
    exact ⟨true, rfl, fun _ => ⟨l, own, _, bk, q1, q2, q3, q4, q5⟩, (fun q => by cases q)⟩
  · have hok := ((h.co.ss v hv gt _ hS).2.2 gs p rfl).2.ok
    refine (h.co.doS (g0 := g0) (v := v) (j := v) hv rfl hS hN (by have := h.n100 hv hk; omega)).mono ?_
    rintro e W (⟨rfl, hx, hc, hk⟩ | ⟨rfl, hx, A', n', c', hc, hk, _, _⟩)
    · obtain ⟨own2, ho⟩ := h.ow.goes hv (by decide) hS hok h.co.po.cl.u64 hkN h.co.po.cl.len hx
      rw [← hC] at hc
      have ho' : OwC N k (stpP N l p).1 own2 3 (upS C v (C v)) (upS S v (some (gt, some (gs, (stpP N l p).2)))) bk out := by rw [hC]; exact ho
      obtain ⟨q1, q2, q3, q4, q5⟩ := h.call hv hc hk rfl ho'
      exact ⟨false, rfl, (fun q => by cases q), fun _ => LayR.stay ⟨_, own2, _, bk, q1, q2, q3, q4, q5⟩ hv (by rw [hS]; rfl) h.hl h.h9⟩
    · obtain ⟨own2, ho⟩ := h.ow.done hv (by decide) hS hok h.co.po.cl.u64 hkN h.co.po.cl.len hx (x := ⟨(C v).ga, homF (C v).home (stpP N l p).2, A', n', c', (C v).Z ++ gotF (stpP N l p).2, if (C v).bk = some gs then none else (C v).bk⟩) rfl rfl
      obtain ⟨q1, q2, q3, q4, q5⟩ := h.call hv hc hk rfl ho
      exact ⟨true, rfl, fun _ => ⟨_, own2, _, bk, q1, q2, q3, q4, q5⟩, (fun q => by cases q)⟩
/-- a Fill, a Flush, a Put -/
def OwnF (w0 : World) (gp gc gn N k gl g9 : Nat) (A : Option Addr) (n c : Nat) (out rr : List Int) (v : Nat) (S : Nat → Sv) (e : Ending) (W : World) : Prop :=
  ∃ gt q, e = .returned (.pointer (some ⟨gt, 0, none⟩)) ∧ LayR w0 gp gc gn N k gl g9 A n c out rr v S (some (gt, q)) W
theorem OwnV.fill (h : OwnV w0 w gp gc gn N k gl g9 l own C S bk A n c out) (hv : v < 3) (hS : S v = none) (h1 : 1 ≤ N) (hN : N ≤ 32) :
    Calls Try.prog 26 #[.pointer (some ⟨(C v).ga, 0, none⟩)] w (OwnF w0 gp gc gn N k gl g9 A n c out out v S) := by
  refine (h.co.fill (v := v) (j := v) hv rfl h1 hN).mono ?_
  rintro e W ⟨gt, q, rfl, hc, hb, hq⟩
  refine ⟨gt, q, rfl, ?_⟩
  rcases hq with rfl | ⟨hb0, hn0, gs, wd, _, rfl⟩
  · exact ⟨l, own, C, bk, hc, h.ow.put0 hv (by unfold pS; rw [hS]; rfl) (by rw [hS]; rfl) (by rw [hS]; rfl) rfl rfl rfl, h.ro.below hb, h.bl.below hb, h.b9.below hb⟩
  · exact ⟨l, own, C, _, hc, h.ow.take hv (by decide) hS gt gs wd, h.ro.below hb, h.bl.below hb, h.b9.below hb⟩
theorem OwnV.flush (h : OwnV w0 w gp gc gn N k gl g9 l own C S bk A n c out) (hv : v < 3) (hS : S v = none) (h1 : 1 ≤ N) (hN : N ≤ 32) (hk : k ≤ 100) (hkN : k ≤ 32 * N) :
    Calls Try.prog 29 #[.pointer (some ⟨(C v).ga, 0, none⟩)] w (OwnF w0 gp gc gn N k gl g9 A n c out out v S) := by
  have hl := (h.co.ca v hv).row.len
  refine (h.co.flush (v := v) (j := v) hv rfl h1 hN (by omega) (by have := h.n100 hv hk; omega)).mono ?_
  rintro e W ⟨gt, q, x, rfl, hc, hk', hx, hcase⟩
  refine ⟨gt, q, rfl, ?_⟩
  have hc2 := hc _ (.inr rfl)
  rcases hcase with ⟨_, rfl, hz, hb⟩ | ⟨_, hm, hz, gb, hb, rfl⟩
  · have ho : OwC N k l own 3 (upS C v x) (upS S v (some (gt, none))) bk out := by
      have h0 := h.ow.put0 hv (t := some (gt, none)) (by unfold pS; rw [hS]; rfl) (by rw [hS]; rfl) (by rw [hS]; rfl) rfl rfl rfl
      refine ⟨h0.ow, fun u hu => ?_, fun u hu => ?_, h0.o, h0.rg, fun u hu => ?_, h0.no, h0.sm⟩
      · by_cases e : u = v
        · subst e; rw [upS_same, hb]; exact h0.kb u hu
        · rw [upS_ne _ _ e]; exact h0.kb u hu
      · by_cases e : u = v
        · subst e; rw [upS_same, hz]; exact h0.z u hu
        · rw [upS_ne _ _ e]; exact h0.z u hu
      · by_cases e : u = v
        · subst e; rw [upS_same, hz]; exact h0.nz u hu
        · rw [upS_ne _ _ e]; exact h0.nz u hu
    obtain ⟨q1, q2, q3, q4, q5⟩ := h.call hv hc2 hk' hx ho
    exact ⟨l, own, _, bk, q1, q2, q3, q4, q5⟩
  · have ht : (C v).Z.take (C v).n = (C v).Z := List.take_of_length_le (by omega)
    have hd : (C v).Z.drop (C v).n = [] := List.drop_eq_nil_of_le (by omega)
    rw [ht] at hc2 ⊢
    rw [hd] at hz
    have ho := h.ow.back hv (by decide) hS h1 hN hkN (x := x) gt gb hz hb
    obtain ⟨q1, q2, q3, q4, q5⟩ := h.call hv hc2 hk' hx ho
    exact ⟨l, own, _, _, q1, q2, q3, q4, q5⟩
theorem OwnV.put {X Y : List Int} {y : Int} (h : OwnV w0 w gp gc gn N k gl g9 l own C S bk A n c out) (hv : v < 3) (hS : S v = none) (h1 : 1 ≤ N) (hN : N ≤ 32) (hkN : k ≤ 32 * N) (hn0 : (C v).n = 0) (ho : out = X ++ y :: Y) :
    Calls Try.prog 28 #[.pointer (some ⟨(C v).ga, 0, none⟩), .int .i64 y] w (OwnF w0 gp gc gn N k gl g9 A n c (X ++ Y) out v S) := by
  refine (h.co.put (v := v) (j := v) hv rfl h1 hN (by omega) (by omega) y).mono ?_
  rintro e W ⟨gt, q, x, rfl, hc, hk', hx, hcase⟩
  refine ⟨gt, q, rfl, ?_⟩
  have hc2 := hc _ (.inr rfl)
  have hm : (if (C v).n + 1 ≤ 16 then 0 else 8) = 0 := if_pos (by omega)
  rcases hcase with ⟨_, rfl, hz, hb⟩ | ⟨_, hm2, _⟩
  · have h0 := h.ow.put hv (by decide) hS ho hz hb
    have h2 := h0.put0 hv (t := some (gt, none)) (by unfold pS; rw [hS]; rfl) (by rw [hS]; rfl) (by rw [hS]; rfl) rfl rfl rfl
    exact ⟨l, _, _, bk, hc2, h2, h.co.rowK hv rfl hk' h.ro, by rw [gaA_same C v x hx]; exact h.co.blkK hv rfl hk' h.bl (by decide) (by decide) (by decide) (by decide) (by decide), h.co.blkK hv rfl hk' h.b9 (by decide) (by decide) (by decide) (by decide) (by decide)⟩
  · rw [hm] at hm2; omega
/-- a Pop -/
def OwnP (w0 : World) (gp gc gn N k gl g9 : Nat) (l own : List Int) (C : Nat → Cv) (S : Nat → Sv) (bk : Nat → Bool) (A : Option Addr) (n c : Nat) (out : List Int) (v : Nat) (w : World) (e : Ending) (W : World) : Prop :=
  (∀ g cs, Blk w g 54 cs → Blk W g 54 cs) ∧ ((∃ y, e = .returned (.tuple #[.int .i64 y, .bool true]) ∧ OwnX w0 W gp gc gn N k gl g9 A n c (out ++ [y]) out) ∨
  (∃ y C', e = .returned (.tuple #[.int .i64 y, .bool false]) ∧ C'.ga = (C v).ga ∧ C'.n = 0 ∧ OwnV w0 W gp gc gn N k gl g9 l own (upS C v C') S bk A n c out))
theorem OwnV.pop (h : OwnV w0 w gp gc gn N k gl g9 l own C S bk A n c out) (hv : v < 3) (hk : k ≤ 100) :
    Calls Try.prog 27 #[.pointer (some ⟨(C v).ga, 0, none⟩)] w (OwnP w0 gp gc gn N k gl g9 l own C S bk A n c out v w) := by
  have hl := (h.co.ca v hv).row.len
  refine (h.co.pop (v := v) (j := v) hv rfl (by have := h.n100 hv hk; omega)).mono ?_
  rintro e W ⟨rfl, hc, hk'⟩
  have hS : upS S v (S v) = S := upS_self S v
  have hk2 : CoK w W gc gn N (C v) { C v with n := (C v).n - 1, Z := (C v).Z.take ((C v).n - 1) } (S v) := by
    obtain ⟨bs, a, b, d⟩ := hk'
    refine ⟨bs, a, fun g hg => ?_, d⟩
    rcases b g hg with z | z | z | z | ⟨o', z⟩ | ⟨gt, p, z⟩
    · exact .inl z
    · exact .inr (.inl z)
    · exact .inr (.inr (.inl z))
    · exact .inr (.inr (.inr (.inl z)))
    · cases z
    · cases z
  have hro := h.co.rowK (j := v) hv rfl hk2 h.ro
  have hbl := h.co.blkK (j := v) hv rfl hk2 h.bl (by decide) (by decide) (by decide) (by decide) (by decide)
  have hb9 := h.co.blkK (j := v) hv rfl hk2 h.b9 (by decide) (by decide) (by decide) (by decide) (by decide)
  have hga : gaA (upS C v { C v with n := (C v).n - 1, Z := (C v).Z.take ((C v).n - 1) }) = gaA C := gaA_same C v _ rfl
  rw [← hga] at hbl
  refine ⟨fun g cs hg => h.co.blkK (j := v) hv rfl hk2 hg (by decide) (by decide) (by decide) (by decide) (by decide), ?_⟩
  by_cases hp : 0 < (C v).n
  · obtain ⟨m, hm⟩ : ∃ m, (C v).n = m + 1 := ⟨(C v).n - 1, by omega⟩
    obtain ⟨Z', y, hZ, hl', hg', ht'⟩ := last_of hl hm
    have e1 : topF (C v).Z = y := by unfold topF; rw [hl, hm]; exact hg'
    rw [e1, decide_eq_true hp]
    refine .inl ⟨y, rfl, ⟨l, _, _, S, bk, hc, h.ow.pop hv (by decide) hZ (by show (C v).Z.take ((C v).n - 1) = Z'; rw [hm]; exact ht') rfl, hro, hbl, hb9⟩, h.hl, h.h9⟩
  · have hn0 : (C v).n = 0 := by omega
    rw [decide_eq_false hp]
    have hz0 : (C v).Z = [] := List.length_eq_zero_iff.1 (by omega)
    have e : ({ C v with n := (C v).n - 1, Z := (C v).Z.take ((C v).n - 1) } : Cv) = C v := by
      have a : (C v).n - 1 = (C v).n := by omega
      have b : (C v).Z.take ((C v).n - 1) = (C v).Z := by rw [hz0]; simp
      show Cv.mk (C v).ga (C v).home (C v).A ((C v).n - 1) (C v).c ((C v).Z.take ((C v).n - 1)) (C v).bk = C v
      rw [b, a]
    have hu : upS C v ({ C v with n := (C v).n - 1, Z := (C v).Z.take ((C v).n - 1) } : Cv) = C := by rw [e]; exact upS_self C v
    have hu2 : upS C v (C v) = C := upS_self C v
    refine .inr ⟨_, C v, rfl, rfl, hn0, ?_⟩
    rw [hu2]
    exact ⟨hu ▸ hc, h.ow, hu ▸ hro, hu ▸ hbl, hb9, h.hl, h.h9⟩
/-- a Pop, told by one Bool -/
def OwnQ (w0 : World) (gp gc gn N k gl g9 : Nat) (l own : List Int) (C : Nat → Cv) (S : Nat → Sv) (bk : Nat → Bool) (A : Option Addr) (n c : Nat) (out : List Int) (v : Nat) (w : World) (e : Ending) (W : World) : Prop :=
  (∀ g cs, Blk w g 54 cs → Blk W g 54 cs) ∧ ∃ (y : Int) (b : Bool), e = .returned (.tuple #[.int .i64 y, .bool b]) ∧ (b = true → OwnX w0 W gp gc gn N k gl g9 A n c (out ++ [y]) out) ∧ (b = false → ∃ C', C'.ga = (C v).ga ∧ C'.n = 0 ∧ OwnV w0 W gp gc gn N k gl g9 l own (upS C v C') S bk A n c out)
theorem OwnV.popQ (h : OwnV w0 w gp gc gn N k gl g9 l own C S bk A n c out) (hv : v < 3) (hk : k ≤ 100) :
    Calls Try.prog 27 #[.pointer (some ⟨(C v).ga, 0, none⟩)] w (OwnQ w0 gp gc gn N k gl g9 l own C S bk A n c out v w) :=
  (h.pop hv hk).mono fun e W q => by
    obtain ⟨qb, q⟩ := q
    refine ⟨qb, ?_⟩
    rcases q with ⟨y, he, hx⟩ | ⟨y, C', he, h1, h2, hx⟩
    · exact ⟨y, true, he, fun _ => hx, (fun q => by cases q)⟩
    · exact ⟨y, false, he, (fun q => by cases q), fun _ => ⟨C', h1, h2, hx⟩⟩
/-- what Put asks: a cache without numbers -/
theorem OwnV.putQ {X Y : List Int} {y : Int} {C' : Cv} {ga : Nat} (h : OwnV w0 w gp gc gn N k gl g9 l own (upS C v C') S bk A n c out) (hv : v < 3) (hS : S v = none) (h1 : 1 ≤ N) (hN : N ≤ 32) (hkN : k ≤ 32 * N) (hga : C'.ga = ga) (hn0 : C'.n = 0) (ho : out = X ++ y :: Y) :
    Calls Try.prog 28 #[.pointer (some ⟨ga, 0, none⟩), .int .i64 y] w (OwnF w0 gp gc gn N k gl g9 A n c (X ++ Y) out v S) := by
  have hs : upS C v C' v = C' := upS_same C v C'
  have := h.put hv hS h1 hN hkN (by rw [hs]; exact hn0) ho
  rw [hs, hga] at this
  exact this
end
end Go.Proofs.Ytmbceafeonjffaa
