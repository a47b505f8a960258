/-
  EpochTurns: where all stand behind each kind of call. Conditions stand in each theorem.
-/
import Derived.Test.YthkmpcfjeclejaaTurnsR
namespace Go.Proofs.Ythkmpcfjeclejaa
open Go.RowKit Go.Deep Plain
set_option linter.unusedVariables false
set_option maxRecDepth 1000000

/-- behind the switch -/
def SwR (w : World) (ge gc gn gg gl gr gp gs gv gz gq n i : Nat) (wr : World) : Prop :=
  ∃ l now pins P S T G V B pn, TurnR w ge gc gn gg gl gr gp gs gv gz gq n i l now pins P S T G V B pn wr
theorem Sn.below {w w' : World} {base gz n m : Nat} {V : Nat → Option (Nat × Nat)} {B : Nat → Nat → Bool} (h : Sn w base gz n m V B) (hb : Below w.heap.size w w') : Sn w' base gz n m V B := by
  obtain ⟨cs, hz⟩ := h.bl
  refine ⟨⟨cs, hz.below hb⟩, fun i hi => (hb.cell (p := ⟨gz, i, none⟩) hz.lt).trans (h.cell i hi), fun i g c hi hv => ?_, h.inj⟩
  obtain ⟨a1, a2, a3, ⟨ds, a4⟩, a5⟩ := h.row i g c hi hv
  exact ⟨a1, a2, a3, ⟨ds, a4.below hb⟩, fun p hp => (hb.cell (p := ⟨g, p, none⟩) a4.lt).trans (a5 p hp)⟩
theorem PnB.below {w w' : World} {gq n : Nat} {pn : Nat → Bool} (h : PnB w gq n pn) (hb : Below w.heap.size w w') : PnB w' gq n pn := by
  obtain ⟨⟨cs, hz⟩, h2⟩ := h
  exact ⟨⟨cs, hz.below hb⟩, fun p hp => (hb.cell (p := ⟨gq, p, none⟩) hz.lt).trans (h2 p hp)⟩
theorem TurnR.below {w wr w' : World} {ge gc gn gg gl gr gp gs gv gz gq n i : Nat} {l : List Int} {now : Int} {pins : List Int} {P : Nat → Option Nat} {S : Nat → Sv} {T : Nat → Tv} {G : Nat → List (Int × Int)} {V : Nat → Option (Nat × Nat)} {B : Nat → Nat → Bool} {pn : Nat → Bool}
    (h : TurnR w ge gc gn gg gl gr gp gs gv gz gq n i l now pins P S T G V B pn wr) (hb : Below wr.heap.size wr w') : TurnR w ge gc gn gg gl gr gp gs gv gz gq n i l now pins P S T G V B pn w' :=
  ⟨h.ep.below hb, h.st.below hb, h.gi.below hb, h.re.below hb, h.th.below hb, h.sn.below hb, h.pb.below hb, h.qv, h.bel.trans (hb.mono h.bel.size), h.sl, h.nw, h.lb, h.sim, h.ok, h.pin, h.giv⟩
theorem Sn.fr {L : List TypeId} {w w' : World} {base gz n m : Nat} {V : Nat → Option (Nat × Nat)} {B : Nat → Nat → Bool} (h : Sn w base gz n m V B) (f : Fr L w w') (h1 : 43 ∉ L) (h2 : 4 ∉ L) : Sn w' base gz n m V B := by
  have hb := h.bl
  obtain ⟨cs, hz⟩ := h.bl
  refine ⟨⟨cs, f.2 _ _ _ hz h1⟩, fun i hi => f.cell hb h1 (h.cell i hi), fun i g c hi hv => ?_, h.inj⟩
  obtain ⟨a1, a2, a3, a4, a5⟩ := h.row i g c hi hv
  have a4' := a4
  obtain ⟨ds, a4⟩ := a4
  exact ⟨a1, a2, a3, ⟨ds, f.2 _ _ _ a4 h2⟩, fun p hp => f.cell a4' h2 (a5 p hp)⟩
theorem PnB.fr {L : List TypeId} {w w' : World} {gq n : Nat} {pn : Nat → Bool} (h : PnB w gq n pn) (f : Fr L w w') (h2 : 4 ∉ L) : PnB w' gq n pn := by
  have hb := h.1
  obtain ⟨cs, hz⟩ := h.1
  exact ⟨⟨cs, f.2 _ _ _ hz h2⟩, fun p hp => f.cell hb h2 (h.2 p hp)⟩
theorem fr_set {w : World} {gl : Nat} {t : TypeId} (hb : ∃ cs, Blk w gl t cs) (i : Nat) (v : Value) : Fr [t] w (w.setCell ⟨gl, i, none⟩ v) := by
  obtain ⟨cs, hb⟩ := hb
  refine Fr.of_keep (bs := [gl]) ((Keep.refl _ _).setCell (.inl (by simp)) v) fun b hx => ?_
  obtain rfl : b = gl := by simpa using hx
  exact ⟨_, _, hb, by simp⟩
theorem actS_put (P : Nat → Option Nat) (S : Nat → Sv) (K g : Nat) (s : Sv) : actS (upE P K (some g)) (upE S K s) = upE (actS P S) K (some s) := by
  funext k
  by_cases e : k = K
  · subst e; unfold actS; rw [upE_same, upE_same, upE_same]; rfl
  · unfold actS; rw [upE_ne _ _ e, upE_ne _ _ e, upE_ne _ _ e]
theorem PlOk.begin {n K : Nat} {l : List Int} {now : Int} {A : Nat → Option Sv} {s : Sv} (h : PlOk n l now A) (hs : (s.nx = 1 ∧ s.ce = K + 1) ∨ (s.nx = 4 ∧ s.ce = 1)) : PlOk n l now (upE A K (some s)) := by
  intro k t hk ht
  by_cases e : k = K
  · subst e
    rw [upE_same] at ht
    injection ht with ht
    subst ht
    omega
  · rw [upE_ne _ _ e] at ht; exact h k t hk ht
theorem PinAt.begin {n K p : Nat} {l : List Int} {now a : Int} {A : Nat → Option Sv} {s : Sv} (h : PinAt n l now A p a) (hs : s.nx = 4 ∨ (s.nx = 1 ∧ p ≠ K)) : PinAt n l now (upE A K (some s)) p a := by
  obtain ⟨p1, p2, p3, p4, p5, p6⟩ := h
  refine ⟨p1, p2, p3, p4, fun k t hk ht => ?_, fun t ht => ?_⟩
  · by_cases e : k = K
    · subst e
      rw [upE_same] at ht
      injection ht with ht
      subst ht
      exact ⟨fun _ => by omega, fun _ => by omega⟩
    · rw [upE_ne _ _ e] at ht; exact p5 k t hk ht
  · by_cases e : p = K
    · subst e
      rw [upE_same] at ht
      injection ht with ht
      subst ht
      omega
    · rw [upE_ne _ _ e] at ht; exact p6 t ht
/-- an Advance begins -/
theorem TurnR.adv {w wr w' : World} {ge gc gn gg gl gr gp gs gv gz gq n i K g : Nat} {l : List Int} {now : Int} {pins : List Int} {P : Nat → Option Nat} {S : Nat → Sv} {T : Nat → Tv} {G : Nat → List (Int × Int)} {V : Nat → Option (Nat × Nat)} {B : Nat → Nat → Bool} {pn : Nat → Bool}
    (h : TurnR w ge gc gn gg gl gr gp gs gv gz gq n i l now pins P S T G V B pn wr) (hK : K < n) (hg : w.heap.size ≤ g)
    (e1 : EpB w' ge gc gn gg n l) (e2 : Sts w' gl gc n (upE P K (some g)) (upE S K (Sv.mk 4 0 1 false))) (e3 : Gs w' w.heap.size gg n G) (e4 : ReB w' gr gp gs gv n now pins (upE T K ⟨true, true, 0, 0⟩)) (e5 : Ts w' w.heap.size gv n G) (e6 : Sn w' w.heap.size gz n 200 V B) (e7 : PnB w' gq n pn) (e8 : Below w.heap.size w w') :
    TurnR w ge gc gn gg gl gr gp gs gv gz gq n i l now pins (upE P K (some g)) (upE S K (Sv.mk 4 0 1 false)) (upE T K ⟨true, true, 0, 0⟩) G V B pn w' := by
  refine ⟨e1, e2, e3, e4, e5, e6, e7, h.qv, e8, h.sl, h.nw, h.lb, fun k hk => ?_, ?_, fun p hp hpn => ?_, h.giv⟩
  · by_cases e : k = K
    · subst e
      rw [upE_same, upE_same, upE_same]
      refine ⟨fun h => (by cases h), fun g' hg' => ⟨⟨rfl, rfl, ⟨Int.le_refl _, by show (0 : Int) ≤ 100000; omega⟩, .inr (.inr (.inr (.inl ⟨rfl, rfl, rfl, rfl⟩)))⟩, ?_⟩⟩
      injection hg' with hg'; omega
    · rw [upE_ne _ _ e, upE_ne _ _ e, upE_ne _ _ e]; exact h.sim k hk
  · rw [actS_put]; exact h.ok.begin (.inr ⟨rfl, rfl⟩)
  · obtain ⟨a, ha⟩ := h.pin p hp hpn
    exact ⟨a, by rw [actS_put]; exact ha.begin (.inl rfl)⟩
/-- one call more -/
theorem TurnR.up {w wr : World} {ge gc gn gg gl gr gp gs gv gz gq n i : Nat} {l : List Int} {now : Int} {pins : List Int} {P : Nat → Option Nat} {S : Nat → Sv} {T : Nat → Tv} {G : Nat → List (Int × Int)} {V : Nat → Option (Nat × Nat)} {B : Nat → Nat → Bool} {pn : Nat → Bool}
    (h : TurnR w ge gc gn gg gl gr gp gs gv gz gq n i l now pins P S T G V B pn wr) : TurnR w ge gc gn gg gl gr gp gs gv gz gq n (i + 1) l now pins P S T G V B pn wr :=
  ⟨h.ep, h.st, h.gi, h.re, h.th, h.sn, h.pb, h.qv, h.bel, h.sl, ⟨h.nw.1, by have := h.nw.2; omega⟩, h.lb, h.sim, h.ok, h.pin, fun k hk => ⟨(h.giv k hk).1, by have := (h.giv k hk).2.1; omega, fun x hx => by
    obtain ⟨a, m, b, c, d, e⟩ := (h.giv k hk).2.2 x hx
    exact ⟨a, m, b, c, by omega, e⟩⟩⟩

theorem PnB.put {w : World} {gq n : Nat} {pn : Nat → Bool} (h : PnB w gq n pn) (K : Nat) (x : Bool) : PnB (w.setCell ⟨gq, K, none⟩ (.bool x)) gq n (upE pn K x) := by
  obtain ⟨⟨cs, hz⟩, h2⟩ := h
  refine ⟨⟨_, hz.set K _⟩, fun p hp => ?_⟩
  by_cases e : p = K
  · subst e; rw [upE_same]; exact World.cell?_setCell_same _ _ _ (h2 p hp)
  · rw [upE_ne _ _ e, World.cell?_setCell_other _ _ _ _ (by intro e2; injection e2 with _ e2; exact e e2.symm)]; exact h2 p hp
/-- what was given up by who isn't pinned any more -/
theorem giv_clr {n i K : Nat} {l l' : List Int} {now : Int} {V : Nat → Option (Nat × Nat)} {B : Nat → Nat → Bool} {pn : Nat → Bool} {gl : List (Int × Int)} (hi : i ≤ 150) (hl : ∀ p, p < n → p ≠ K → l'.getD (p + 1) 0 = l.getD (p + 1) 0)
    (h : Srt gl ∧ gl.length ≤ i ∧ ∀ x, x ∈ gl → (0 ≤ x.2 ∧ x.2 ≤ now) ∧ ∃ m : Nat, x.1 = (m : Int) ∧ 1 ≤ m ∧ m ≤ i ∧ ∀ g, V m = some g → ∀ p, p < n → B m p = true → pn p = true ∧ l.getD (p + 1) 0 ≤ x.2 + 1) :
    Srt gl ∧ gl.length ≤ i ∧ ∀ x, x ∈ gl → (0 ≤ x.2 ∧ x.2 ≤ now) ∧ ∃ m : Nat, x.1 = (m : Int) ∧ 1 ≤ m ∧ m ≤ i ∧ ∀ g, V m = some g → ∀ p, p < n → clr B K 200 m p = true → upE pn K false p = true ∧ l'.getD (p + 1) 0 ≤ x.2 + 1 := by
  refine ⟨h.1, h.2.1, fun x hx => ?_⟩
  obtain ⟨a, m, b, c, d, e⟩ := h.2.2 x hx
  refine ⟨a, m, b, c, d, fun g hv p hp hb => ?_⟩
  unfold clr at hb
  split at hb
  · cases hb
  · rename_i hn
    have hpk : p ≠ K := fun q => hn ⟨by omega, q⟩
    rw [upE_ne _ _ hpk, hl p hp hpk]
    exact e g hv p hp hb
/-- a Pin begins -/
theorem TurnR.pinB {w wr w' : World} {ge gc gn gg gl gr gp gs gv gz gq n i K : Nat} {l : List Int} {now : Int} {pins : List Int} {P : Nat → Option Nat} {S : Nat → Sv} {T : Nat → Tv} {G : Nat → List (Int × Int)} {V : Nat → Option (Nat × Nat)} {B : Nat → Nat → Bool} {pn : Nat → Bool} {g : Nat}
    (h : TurnR w ge gc gn gg gl gr gp gs gv gz gq n i l now pins P S T G V B pn wr) (hK : K < n) (hi : i ≤ 150) (hg : w.heap.size ≤ g)
    (e1 : EpB w' ge gc gn gg n l) (e2 : Sts w' gl gc n (upE P K (some g)) (upE S K (Sv.mk 1 0 (K + 1) false))) (e3 : Gs w' w.heap.size gg n G) (e4 : ReB w' gr gp gs gv n now pins (upE T K ⟨true, false, 0, 0⟩)) (e5 : Ts w' w.heap.size gv n G) (e6 : Sn w' w.heap.size gz n 200 V (clr B K 200)) (e7 : PnB w' gq n (upE pn K false)) (e8 : Below w.heap.size w w') :
    TurnR w ge gc gn gg gl gr gp gs gv gz gq n i l now pins (upE P K (some g)) (upE S K (Sv.mk 1 0 (K + 1) false)) (upE T K ⟨true, false, 0, 0⟩) G V (clr B K 200) (upE pn K false) w' := by
  refine ⟨e1, e2, e3, e4, e5, e6, e7, h.qv, e8, h.sl, h.nw, h.lb, fun k hk => ?_, ?_, fun p hp hpn => ?_, fun k hk => giv_clr hi (fun _ _ _ => rfl) (h.giv k hk)⟩
  · by_cases e : k = K
    · subst e
      rw [upE_same, upE_same, upE_same]
      refine ⟨fun h => (by cases h), fun g' hg' => ⟨⟨rfl, rfl, ⟨Int.le_refl _, by show (0 : Int) ≤ 100000; omega⟩, .inl ⟨rfl, rfl, rfl, rfl⟩⟩, ?_⟩⟩
      injection hg' with hg'; omega
    · rw [upE_ne _ _ e, upE_ne _ _ e, upE_ne _ _ e]; exact h.sim k hk
  · rw [actS_put]; exact h.ok.begin (.inl ⟨rfl, rfl⟩)
  · have ne : p ≠ K := fun e => by rw [e, upE_same] at hpn; cases hpn
    rw [upE_ne _ _ ne] at hpn
    obtain ⟨a, ha⟩ := h.pin p hp hpn
    exact ⟨a, by rw [actS_put]; exact ha.begin (.inr ⟨rfl, ne⟩)⟩
/-- who was pinned is so no more -/
theorem TurnR.unp {w wr w' : World} {ge gc gn gg gl gr gp gs gv gz gq n i K : Nat} {l : List Int} {now : Int} {pins : List Int} {P : Nat → Option Nat} {S : Nat → Sv} {T : Nat → Tv} {G : Nat → List (Int × Int)} {V : Nat → Option (Nat × Nat)} {B : Nat → Nat → Bool} {pn : Nat → Bool}
    (h : TurnR w ge gc gn gg gl gr gp gs gv gz gq n i l now pins P S T G V B pn wr) (hK : K < n) (hi : i ≤ 150) (hP : P K = none)
    (e1 : EpB w' ge gc gn gg n (l.set (K + 1) 0)) (e2 : Sts w' gl gc n P S) (e3 : Gs w' w.heap.size gg n G) (e4 : ReB w' gr gp gs gv n now (pins.set K 0) T) (e5 : Ts w' w.heap.size gv n G) (e6 : Sn w' w.heap.size gz n 200 V (clr B K 200)) (e7 : PnB w' gq n (upE pn K false)) (e8 : Below w.heap.size w w') :
    TurnR w ge gc gn gg gl gr gp gs gv gz gq n i (l.set (K + 1) 0) now (pins.set K 0) P S T G V (clr B K 200) (upE pn K false) w' := by
  have hl := h.sl.1
  have hc : ∀ p, p ≠ K → (l.set (K + 1) 0).getD (p + 1) 0 = l.getD (p + 1) 0 := fun p hp => by rw [gets _ _ _ _ (by omega), if_neg (by omega)]
  refine ⟨e1, e2, e3, e4, e5, e6, e7, h.qv, e8, h.sl.pin hK 0, h.nw, (fun j hj => by
    rw [gets _ _ _ _ (by omega)]
    have := h.lb j hj
    have := h.nw.1
    split <;> omega), h.sim, fun k s hk hs => ?_, fun p hp hpn => ?_, fun k hk => giv_clr hi (fun p _ hp => hc p hp) (h.giv k hk)⟩
  · obtain ⟨a, b, c, d, e, f⟩ := h.ok k s hk hs
    have ne : k ≠ K := fun q => by rw [q] at hs; unfold actS at hs; rw [hP] at hs; cases hs
    refine ⟨a, b, c, d, e, fun q => ?_⟩
    rw [hc k ne]; exact f q
  · have ne : p ≠ K := fun e => by rw [e, upE_same] at hpn; cases hpn
    rw [upE_ne _ _ ne] at hpn
    obtain ⟨a, p1, p2⟩ := h.pin p hp hpn
    exact ⟨a, by rw [hc p ne]; exact p1, p2⟩
theorem srt_snoc {gl : List (Int × Int)} (h : Srt gl) (x : Int × Int) (hx : ∀ y, y ∈ gl → y.2 ≤ x.2) : Srt (gl ++ [x]) := by
  unfold Srt at *
  rw [List.pairwise_append]
  refine ⟨h, List.pairwise_singleton _ _, fun a ha b hb => ?_⟩
  have e : b = x := by simpa using hb
  subst e
  exact hx a ha
/-- something is given up -/
theorem TurnR.give {w wr w' : World} {ge gc gn gg gl gr gp gs gv gz gq n i K : Nat} {l : List Int} {now : Int} {pins : List Int} {P : Nat → Option Nat} {S : Nat → Sv} {T : Nat → Tv} {G : Nat → List (Int × Int)} {V : Nat → Option (Nat × Nat)} {B : Nat → Nat → Bool} {pn : Nat → Bool} {g c : Nat}
    (h : TurnR w ge gc gn gg gl gr gp gs gv gz gq n i l now pins P S T G V B pn wr) (hK : K < n) (hgq : g ≠ gq)
    (e1 : EpB w' ge gc gn gg n l) (e2 : Sts w' gl gc n P S) (e3 : Gs w' w.heap.size gg n (upE G K (G K ++ [(((i + 1 : Nat) : Int), now)]))) (e4 : ReB w' gr gp gs gv n now pins T) (e5 : Ts w' w.heap.size gv n (upE G K (G K ++ [(((i + 1 : Nat) : Int), now)]))) (e6 : Sn w' w.heap.size gz n 200 (upE V (i + 1) (some (g, c))) (upE B (i + 1) pn)) (e7 : PnB w' gq n pn) (e8 : Below w.heap.size w w') :
    TurnR w ge gc gn gg gl gr gp gs gv gz gq n (i + 1) l now pins P S T (upE G K (G K ++ [(((i + 1 : Nat) : Int), now)])) (upE V (i + 1) (some (g, c))) (upE B (i + 1) pn) pn w' := by
  have hnw := h.nw
  have old : ∀ gl : List (Int × Int), (∀ x, x ∈ gl → (0 ≤ x.2 ∧ x.2 ≤ now) ∧ ∃ m : Nat, x.1 = (m : Int) ∧ 1 ≤ m ∧ m ≤ i ∧ ∀ g, V m = some g → ∀ p, p < n → B m p = true → pn p = true ∧ l.getD (p + 1) 0 ≤ x.2 + 1) → ∀ x, x ∈ gl → (0 ≤ x.2 ∧ x.2 ≤ now) ∧ ∃ m : Nat, x.1 = (m : Int) ∧ 1 ≤ m ∧ m ≤ i + 1 ∧ ∀ g', upE V (i + 1) (some (g, c)) m = some g' → ∀ p, p < n → upE B (i + 1) pn m p = true → pn p = true ∧ l.getD (p + 1) 0 ≤ x.2 + 1 := fun gl hg x hx => by
    obtain ⟨a, m, b, d, e, f⟩ := hg x hx
    refine ⟨a, m, b, d, by omega, ?_⟩
    rw [upE_ne _ _ (show m ≠ i + 1 by omega), upE_ne _ _ (show m ≠ i + 1 by omega)]
    exact f
  refine ⟨e1, e2, e3, e4, e5, e6, e7, fun m g' c' hm hv => ?_, e8, h.sl, ⟨hnw.1, by have := hnw.2; omega⟩, h.lb, h.sim, h.ok, h.pin, fun k hk => ?_⟩
  · by_cases e : m = i + 1
    · subst e
      rw [upE_same] at hv
      injection hv with hv
      injection hv with hv _
      omega
    · rw [upE_ne _ _ e] at hv; exact h.qv m g' c' hm hv
  · obtain ⟨g1, g2, g3⟩ := h.giv k hk
    by_cases e : k = K
    · subst e
      rw [upE_same]
      refine ⟨srt_snoc g1 _ fun y hy => (g3 y hy).1.2, by rw [List.length_append]; simp; omega, fun x hx => ?_⟩
      rw [List.mem_append] at hx
      rcases hx with hx | hx
      · exact old _ g3 x hx
      · obtain rfl : x = (((i + 1 : Nat) : Int), now) := by simpa using hx
        refine ⟨⟨hnw.1, Int.le_refl _⟩, i + 1, rfl, by omega, by omega, fun g' _ p hp hb => ?_⟩
        rw [upE_same] at hb
        obtain ⟨a, p1, p2, p3, _⟩ := h.pin p hp hb
        exact ⟨hb, by show l.getD (p + 1) 0 ≤ now + 1; omega⟩
    · rw [upE_ne _ _ e]
      exact ⟨g1, by omega, old _ g3⟩
/-- a Step has gone on, and isn't done -/
theorem actS_did {P : Nat → Option Nat} {S : Nat → Sv} {K g : Nat} {s : Sv} (hP : P K = some g) (h0 : s.nx ≠ 0) : actS P (upE S K s) = upE (actS P S) K (aft s) := by
  funext k
  by_cases e : k = K
  · subst e; unfold actS aft; rw [upE_same, upE_same, hP, if_neg h0]; rfl
  · unfold actS; rw [upE_ne _ _ e, upE_ne _ _ e]
theorem actS_done {P : Nat → Option Nat} {S : Nat → Sv} {K : Nat} {s s' : Sv} (h0 : s.nx = 0) : actS (upE P K none) (upE S K s') = upE (actS P S) K (aft s) := by
  funext k
  by_cases e : k = K
  · subst e; unfold actS aft; rw [upE_same, upE_same, upE_same, if_pos h0]; rfl
  · unfold actS; rw [upE_ne _ _ e, upE_ne _ _ e, upE_ne _ _ e]
theorem lb_step {n : Nat} {l : List Int} {now now' : Int} {A : Nat → Option Sv} {k : Nat} {s : Sv} (hl : l.length = n + 1) (h0 : l.getD 0 0 = now) (hn : 0 ≤ now ∧ now ≤ 100000) (hk : k < n) (hP : PlOk n l now A) (hs : A k = some s) (hle : now ≤ now') (hb : ∀ j, j < n → l.getD (j + 1) 0 ≤ now + 1) : ∀ j, j < n → (stp n l s).1.getD (j + 1) 0 ≤ now' + 1 := by
  obtain ⟨_, _, hc⟩ := thm_now hl h0 hn hk hP hs
  intro j hj
  by_cases e : j = k
  · subst e
    have hbj := hb j hj
    obtain ⟨h1, h2, h3, h4, h5, h6⟩ := hP j s hj hs
    clear hs hP hc hb
    obtain ⟨nx, ep, ce, won⟩ := s
    simp only at h1 h2 h3 h4 h5 h6
    rcases h1 with rfl | rfl | rfl | rfl | rfl | rfl
    · show l.getD (j + 1) 0 ≤ _; omega
    · have c := h3 (by omega)
      subst c
      have h22 := h2 (by omega)
      have hm := m64_small (show 0 ≤ ep + 1 by omega) (by omega)
      show (l.set (j + 1) (m64 (ep + 1))).getD (j + 1) 0 ≤ _
      rw [gets _ _ _ _ (by omega), if_pos rfl, hm]; omega
    · unfold stp; simp only [stepF]; split <;> (show l.getD (j + 1) 0 ≤ _; omega)
    · show l.getD (j + 1) 0 ≤ _; omega
    · unfold stp; simp only [stepF]; split
      · show l.getD (j + 1) 0 ≤ _; omega
      · split <;> (show l.getD (j + 1) 0 ≤ _; omega)
    · unfold stp; simp only [stepF]; split
      · show (l.set 0 _).getD (j + 1) 0 ≤ _
        rw [gets _ _ _ _ (by omega), if_neg (by omega)]; omega
      · show l.getD (j + 1) 0 ≤ _; omega
  · rw [hc j hj e]; have := hb j hj; omega
/-- all that a step of one's own leaves as it was -/
theorem TurnR.onward {w wr w' : World} {ge gc gn gg gl gr gp gs gv gz gq n i K : Nat} {l : List Int} {now : Int} {pins : List Int} {P : Nat → Option Nat} {S : Nat → Sv} {T : Nat → Tv} {G : Nat → List (Int × Int)} {V : Nat → Option (Nat × Nat)} {B : Nat → Nat → Bool} {pn : Nat → Bool} {g : Nat} {now' : Int}
    (h : TurnR w ge gc gn gg gl gr gp gs gv gz gq n i l now pins P S T G V B pn wr) (hK : K < n) (hP : P K = some g) (hi : i ≤ 150) (h' : (stp n l (S K)).1.getD 0 0 = now') :
    (now ≤ now' ∧ now' ≤ i + 1) ∧ PlOk n (stp n l (S K)).1 now' (upE (actS P S) K (aft (stp n l (S K)).2)) ∧
    (∀ p, p < n → pn p = true → ∃ a, PinAt n (stp n l (S K)).1 now' (upE (actS P S) K (aft (stp n l (S K)).2)) p a) ∧
    ((S K).nx = 3 → (stp n l (S K)).2.nx = 0 → ∃ a, PinAt n (stp n l (S K)).1 now' (upE (actS P S) K (aft (stp n l (S K)).2)) K a) ∧
    (∀ k, k < n → Srt (G k) ∧ (G k).length ≤ i + 1 ∧ ∀ x, x ∈ G k → (0 ≤ x.2 ∧ x.2 ≤ now') ∧ ∃ m : Nat, x.1 = (m : Int) ∧ 1 ≤ m ∧ m ≤ i + 1 ∧ ∀ g, V m = some g → ∀ p, p < n → B m p = true → pn p = true ∧ (stp n l (S K)).1.getD (p + 1) 0 ≤ x.2 + 1) ∧ ∀ j, j < n → (stp n l (S K)).1.getD (j + 1) 0 ≤ now' + 1 := by
  have hs : actS P S K = some (S K) := by unfold actS; rw [hP]; rfl
  have hl := h.sl.1
  have h0 := h.sl.2.2.1
  have hnw := h.nw
  have hn : 0 ≤ now ∧ now ≤ 100000 := ⟨hnw.1, by have := hnw.2; omega⟩
  obtain ⟨t1, ⟨x, hx, hx2⟩, t3⟩ := thm_now hl h0 hn hK h.ok hs
  rw [h'] at hx
  subst hx
  have hle : now ≤ now' ∧ now' ≤ i + 1 := by
    have := hnw.2
    rcases hx2 with e | ⟨e, _⟩ <;> omega
  refine ⟨hle, plOk_step hl h0 hn hK h.ok hs h', fun p hp hpn => ?_, fun h3 hd => ?_, fun k hk => ?_, lb_step hl h0 hn hK h.ok hs hle.1 h.lb⟩
  · obtain ⟨a, ha⟩ := h.pin p hp hpn
    exact ⟨a, pinAt_step hl h0 hn hK hp h.ok hs h' ha⟩
  · obtain ⟨q1, q2⟩ := pinAt_new h0 hK h.ok hs h3 hd
    have e : now' = now := by rw [q1, h0] at h'; exact h'.symm
    have ea : aft (stp n l (S K)).2 = none := by unfold aft; rw [if_pos hd]
    rw [q1, e, ea]
    exact ⟨_, q2⟩
  · obtain ⟨g1, g2, g3⟩ := h.giv k hk
    refine ⟨g1, by omega, fun x hx => ?_⟩
    obtain ⟨⟨a1, a2⟩, m, b, c, d, e⟩ := g3 x hx
    refine ⟨⟨a1, by omega⟩, m, b, c, by omega, fun g' hv p hp hb => ?_⟩
    obtain ⟨c1, c2⟩ := e g' hv p hp hb
    refine ⟨c1, ?_⟩
    by_cases ep : p = K
    · subst ep
      obtain ⟨a, p1, p2, p3, p4, p5, p6⟩ := h.pin p hp c1
      have h6 := (h.ok p (S p) hp hs).1
      rw [thm_self (now := now) hp hs (p6 _ hs) (by omega) hl]
      exact c2
    · rw [t3 p hp ep]; exact c2
/-- a Step has gone on -/
theorem TurnR.did {w wr w' : World} {ge gc gn gg gl gr gp gs gv gz gq n i K : Nat} {l : List Int} {now : Int} {pins : List Int} {P : Nat → Option Nat} {S : Nat → Sv} {T : Nat → Tv} {G : Nat → List (Int × Int)} {V : Nat → Option (Nat × Nat)} {B : Nat → Nat → Bool} {pn : Nat → Bool} {g : Nat} {now' : Int} {pins' : List Int} {t' : Tv}
    (h : TurnR w ge gc gn gg gl gr gp gs gv gz gq n i l now pins P S T G V B pn wr) (hK : K < n) (hP : P K = some g) (hi : i ≤ 150) (h0 : (stp n l (S K)).2.nx ≠ 0) (hsl : SimL n (stp n l (S K)).1 now' pins') (hss : SimS n K (stp n l (S K)).2 t')
    (e1 : EpB w' ge gc gn gg n (stp n l (S K)).1) (e2 : Sts w' gl gc n P (upE S K (stp n l (S K)).2)) (e3 : Gs w' w.heap.size gg n G) (e4 : ReB w' gr gp gs gv n now' pins' (upE T K t')) (e5 : Ts w' w.heap.size gv n G) (e6 : Sn w' w.heap.size gz n 200 V B) (e7 : PnB w' gq n pn) (e8 : Below w.heap.size w w') :
    TurnR w ge gc gn gg gl gr gp gs gv gz gq n (i + 1) (stp n l (S K)).1 now' pins' P (upE S K (stp n l (S K)).2) (upE T K t') G V B pn w' := by
  obtain ⟨a, b, c, d, e, f⟩ := h.onward (w' := w) hK hP hi hsl.2.2.1
  have hnw := h.nw
  refine ⟨e1, e2, e3, e4, e5, e6, e7, h.qv, e8, hsl, ⟨by omega, a.2⟩, f, fun k hk => ?_, by rw [actS_did hP h0]; exact b, by rw [actS_did hP h0]; exact c, e⟩
  by_cases ek : k = K
  · subst ek
    rw [upE_same, upE_same]
    exact ⟨fun q => absurd (hP.symm.trans q) (by simp), fun g' hg' => ⟨hss, ((h.sim k hk).2 g' hg').2⟩⟩
  · rw [upE_ne _ _ ek, upE_ne _ _ ek]; exact h.sim k hk
/-- a Step is done -/
theorem TurnR.done {w wr w' : World} {ge gc gn gg gl gr gp gs gv gz gq n i K : Nat} {l : List Int} {now : Int} {pins : List Int} {P : Nat → Option Nat} {S : Nat → Sv} {T : Nat → Tv} {G : Nat → List (Int × Int)} {V : Nat → Option (Nat × Nat)} {B : Nat → Nat → Bool} {pn : Nat → Bool} {g : Nat} {now' : Int} {pins' : List Int} {t' : Tv} {s' : Sv}
    (h : TurnR w ge gc gn gg gl gr gp gs gv gz gq n i l now pins P S T G V B pn wr) (hK : K < n) (hP : P K = some g) (hi : i ≤ 150) (h0 : (stp n l (S K)).2.nx = 0) (hsl : SimL n (stp n l (S K)).1 now' pins') (hss : t'.on = false)
    (e1 : EpB w' ge gc gn gg n (stp n l (S K)).1) (e2 : Sts w' gl gc n (upE P K none) (upE S K s')) (e3 : Gs w' w.heap.size gg n G) (e4 : ReB w' gr gp gs gv n now' pins' (upE T K t')) (e5 : Ts w' w.heap.size gv n G) (e6 : Sn w' w.heap.size gz n 200 V B) (e7 : PnB w' gq n (upE pn K (pn K || ((S K).nx == 3)))) (e8 : Below w.heap.size w w') :
    TurnR w ge gc gn gg gl gr gp gs gv gz gq n (i + 1) (stp n l (S K)).1 now' pins' (upE P K none) (upE S K s') (upE T K t') G V B (upE pn K (pn K || ((S K).nx == 3))) w' := by
  obtain ⟨a, b, c, d, e, f⟩ := h.onward (w' := w) hK hP hi hsl.2.2.1
  have hnw := h.nw
  have hpn : ∀ p, pn p = true → upE pn K (pn K || ((S K).nx == 3)) p = true := fun p hp => by
    by_cases ep : p = K
    · subst ep; rw [upE_same, hp]; rfl
    · rw [upE_ne _ _ ep]; exact hp
  refine ⟨e1, e2, e3, e4, e5, e6, e7, h.qv, e8, hsl, ⟨by omega, a.2⟩, f, fun k hk => ?_, by rw [actS_done h0]; exact b, fun p hp hq => ?_, fun k hk => ?_⟩
  · by_cases ek : k = K
    · subst ek
      rw [upE_same, upE_same, upE_same]
      exact ⟨fun _ => hss, fun g' hg' => absurd hg' (by simp)⟩
    · rw [upE_ne _ _ ek, upE_ne _ _ ek, upE_ne _ _ ek]; exact h.sim k hk
  · rw [actS_done h0]
    by_cases ep : p = K
    · subst ep
      rw [upE_same] at hq
      cases hpp : pn p with
      | true => exact c p hp hpp
      | false =>
        rw [hpp] at hq
        have h3 : (S p).nx = 3 := by simpa using hq
        exact d h3 h0
    · rw [upE_ne _ _ ep] at hq; exact c p hp hq
  · obtain ⟨g1, g2, g3⟩ := e k hk
    refine ⟨g1, g2, fun x hx => ?_⟩
    obtain ⟨q1, m, q2, q3, q4, q5⟩ := g3 x hx
    exact ⟨q1, m, q2, q3, q4, fun g' hv p hp hb => ⟨hpn p (q5 g' hv p hp hb).1, (q5 g' hv p hp hb).2⟩⟩
/-- what is ripe is taken -/
theorem TurnR.took {w wr w' : World} {ge gc gn gg gl gr gp gs gv gz gq n i K : Nat} {l : List Int} {now : Int} {pins : List Int} {P : Nat → Option Nat} {S : Nat → Sv} {T : Nat → Tv} {G : Nat → List (Int × Int)} {V : Nat → Option (Nat × Nat)} {B : Nat → Nat → Bool} {pn : Nat → Bool}
    (h : TurnR w ge gc gn gg gl gr gp gs gv gz gq n i l now pins P S T G V B pn wr) (hK : K < n) (r : Nat) {V' : Nat → Option (Nat × Nat)} (hV : ∀ m g, V' m = some g → V m = some g)
    (e1 : EpB w' ge gc gn gg n l) (e2 : Sts w' gl gc n P S) (e3 : Gs w' w.heap.size gg n (upE G K ((G K).drop r))) (e4 : ReB w' gr gp gs gv n now pins T) (e5 : Ts w' w.heap.size gv n (upE G K ((G K).drop r))) (e6 : Sn w' w.heap.size gz n 200 V' B) (e7 : PnB w' gq n pn) (e8 : Below w.heap.size w w') :
    TurnR w ge gc gn gg gl gr gp gs gv gz gq n i l now pins P S T (upE G K ((G K).drop r)) V' B pn w' := by
  have key : ∀ gl : List (Int × Int), (∀ x, x ∈ gl → (0 ≤ x.2 ∧ x.2 ≤ now) ∧ ∃ m : Nat, x.1 = (m : Int) ∧ 1 ≤ m ∧ m ≤ i ∧ ∀ g, V m = some g → ∀ p, p < n → B m p = true → pn p = true ∧ l.getD (p + 1) 0 ≤ x.2 + 1) → ∀ x, x ∈ gl → (0 ≤ x.2 ∧ x.2 ≤ now) ∧ ∃ m : Nat, x.1 = (m : Int) ∧ 1 ≤ m ∧ m ≤ i ∧ ∀ g, V' m = some g → ∀ p, p < n → B m p = true → pn p = true ∧ l.getD (p + 1) 0 ≤ x.2 + 1 := fun gl hg x hx => by
    obtain ⟨a, m, b, d, e, f⟩ := hg x hx
    exact ⟨a, m, b, d, e, fun g hv => f g (hV m g hv)⟩
  refine ⟨e1, e2, e3, e4, e5, e6, e7, fun m g c hm hv => h.qv m g c hm (hV m _ hv), e8, h.sl, h.nw, h.lb, h.sim, h.ok, h.pin, fun k hk => ?_⟩
  obtain ⟨g1, g2, g3⟩ := h.giv k hk
  by_cases e : k = K
  · subst e
    rw [upE_same]
    refine ⟨List.Pairwise.sublist (List.drop_sublist _ _) g1, by rw [List.length_drop]; omega, key _ fun x hx => g3 x (List.mem_of_mem_drop hx)⟩
  · rw [upE_ne _ _ e]; exact ⟨g1, g2, key _ g3⟩
/-- what is taken was given up when nobody was pinned who is so still -/
theorem TurnR.free {w wr w' : World} {ge gc gn gg gl gr gp gs gv gz gq n i K : Nat} {l : List Int} {now : Int} {pins : List Int} {P : Nat → Option Nat} {S : Nat → Sv} {T : Nat → Tv} {G : Nat → List (Int × Int)} {V : Nat → Option (Nat × Nat)} {B : Nat → Nat → Bool} {pn : Nat → Bool}
    (h : TurnR w ge gc gn gg gl gr gp gs gv gz gq n i l now pins P S T G V B pn wr) (hK : K < n) {r : Nat} (hr : r = ripeN (G K) now) {j : Nat} (hj : j < r) : ∃ m : Nat, ((G K).getD j default).1 = (m : Int) ∧ 1 ≤ m ∧ m ≤ i ∧ ∀ g, V m = some g → ∀ p, p < n → B m p = false := by
  have hrl : r ≤ (G K).length := hr ▸ ripeN_le _ _
  have hlt : j < (G K).length := by omega
  have hget : (G K).getD j default = (G K)[j] := by simp [List.getD, hlt]
  have hx : (G K)[j] ∈ G K := List.getElem_mem hlt
  have hripe : ((G K)[j]).2 + 2 ≤ now := by
    have ht : ∀ gl : List (Int × Int), ∀ j (hj : j < (gl.takeWhile fun x => decide (x.2 + 2 ≤ now)).length) (hl : j < gl.length), gl[j].2 + 2 ≤ now := by
      intro gl
      induction gl with
      | nil => intro j hj; simp at hj
      | cons x t ih =>
        intro j hj hl
        rw [List.takeWhile_cons] at hj
        split at hj
        · rename_i hd
          cases j with
          | zero => simpa using hd
          | succ j => simp only [List.getElem_cons_succ]; exact ih j (by simpa using hj) (by simpa using hl)
        · simp at hj
    exact ht _ j (by unfold ripeN at hr; omega) hlt
  rw [hget]
  obtain ⟨a, m, b, c, d, e⟩ := (h.giv K hK).2.2 _ hx
  exact ⟨m, b, c, d, fun g hv p hp => h.ripe hK hp hx hripe b hv⟩
end Go.Proofs.Ythkmpcfjeclejaa
