/-
  EpochTurns: the worlds in which all stand, call by call. Conditions stand in each theorem.
-/
import Derived.Test.YthkmpcfjeclejaaTurnsS
import Derived.Test.YthkmpcfjeclejaaEpochTurns
namespace Go.Proofs.Ythkmpcfjeclejaa
open Go.RowKit Go.Deep Plain
set_option linter.unusedVariables false
set_option maxRecDepth 1000000

/-- all that stands in the world -/
structure Wo (w : World) (ge gc gn gg gl gr gp gs gv gz gq n : Nat) (l : List Int) (now : Int) (pins : List Int) (P : Nat → Option Nat) (S : Nat → Sv) (T : Nat → Tv) (G H : Nat → List (Int × Int)) (V : Nat → Option (Nat × Nat)) (B : Nat → Nat → Bool) (pn : Nat → Bool) (wr : World) : Prop where
  ba : BaseT w ge gc gn gg gl gr gp gs gv gz gq
  ep : EpB wr ge gc gn gg n l
  st : Sts wr gl gc n P S
  gi : Gs wr w.heap.size gg n G
  re : ReB wr gr gp gs gv n now pins T
  th : Ts wr w.heap.size gv n H
  sn : Sn wr w.heap.size gz n 200 V B
  pb : PnB wr gq n pn
  bel : Below w.heap.size w wr
  qv : ∀ m g c, m < 200 → V m = some (g, c) → g ≠ gq
theorem fr_unp {w w' : World} {base gz n m : Nat} {V : Nat → Option (Nat × Nat)} {B : Nat → Nat → Bool} (h : Sn w base gz n m V B) (hk : KeepS m V w w') : Fr [4] w w' := by
  refine ⟨hk.2.2.2.1, fun b t cs hb ht => (hk.2.2.2.2 b hb.lt fun i g c hi hv e => ?_).trans hb⟩
  obtain ⟨_, _, _, ⟨ds, hg⟩, _⟩ := h.row i g c hi hv
  exact blk_types hb hg (by simpa using ht) e
theorem Sn.slot {w : World} {base gz n m : Nat} {V : Nat → Option (Nat × Nat)} {B : Nat → Nat → Bool} (h : Sn w base gz n m V B) (i : Nat) (hi : i < m) (o : Option (Nat × Nat)) (x : Nat → Bool)
    (ho : ∀ g c, o = some (g, c) → base ≤ g ∧ n ≤ c ∧ c ≤ 9223372036854775807 ∧ (∃ cs, Blk w g 4 cs) ∧ (∀ p, p < n → w.cell? ⟨g, p, none⟩ = some (.bool (x p))) ∧ ∀ j d, j < m → V j ≠ some (g, d)) :
    Sn (w.setCell ⟨gz, i, none⟩ (slB n o)) base gz n m (upE V i o) (upE B i x) := by
  obtain ⟨cs, hb⟩ := h.bl
  have old : ∀ g ds, Blk w g 4 ds → Blk (w.setCell ⟨gz, i, none⟩ (slB n o)) g 4 ds := fun g ds hg => hg.ne (p := ⟨gz, i, none⟩) (blk_types hb hg (by decide)) _
  have oldc : ∀ g ds p, Blk w g 4 ds → (w.setCell ⟨gz, i, none⟩ (slB n o)).cell? ⟨g, p, none⟩ = w.cell? ⟨g, p, none⟩ := fun g ds p hg => by
    have ne : gz ≠ g := blk_types hb hg (by decide)
    exact World.cell?_setCell_other _ _ _ _ (by intro e; injection e with e; exact ne e)
  refine ⟨⟨_, hb.set i _⟩, fun j hj => ?_, fun j b d hj hv => ?_, fun j k b c d hj hk hv hw => ?_⟩
  · by_cases e : j = i
    · subst e; rw [upE_same]; exact World.cell?_setCell_same _ _ _ (h.cell j hj)
    · rw [upE_ne _ _ e, World.cell?_setCell_other _ _ _ _ (by intro e2; injection e2 with _ e2; exact e e2.symm)]; exact h.cell j hj
  · by_cases e : j = i
    · subst e
      rw [upE_same] at hv
      obtain ⟨a1, a2, a3, ⟨ds, a4⟩, a5, _⟩ := ho b d hv
      refine ⟨a1, a2, a3, ⟨ds, old b ds a4⟩, fun p hp => ?_⟩
      rw [upE_same, oldc b ds p a4]; exact a5 p hp
    · rw [upE_ne _ _ e] at hv
      obtain ⟨a1, a2, a3, ⟨ds, a4⟩, a5⟩ := h.row j b d hj hv
      refine ⟨a1, a2, a3, ⟨ds, old b ds a4⟩, fun p hp => ?_⟩
      rw [upE_ne _ _ e, oldc b ds p a4]; exact a5 p hp
  · by_cases e : j = i
    · by_cases f : k = i
      · rw [e, f]
      · rw [e, upE_same] at hv
        rw [upE_ne _ _ f] at hw
        exact absurd hw ((ho b c hv).2.2.2.2.2 k d hk)
    · by_cases f : k = i
      · rw [f, upE_same] at hw
        rw [upE_ne _ _ e] at hv
        exact absurd hv ((ho b d hw).2.2.2.2.2 j c hj)
      · rw [upE_ne _ _ e] at hv
        rw [upE_ne _ _ f] at hw
        exact h.inj j k b c d hj hk hv hw
theorem Sn.ne {w : World} {base gz n m g0 : Nat} {V : Nat → Option (Nat × Nat)} {B : Nat → Nat → Bool} (h : Sn w base gz n m V B) (hb : ∃ cs, Blk w g0 4 cs) (hq : ∀ i g c, i < m → V i = some (g, c) → g ≠ g0) (K : Nat) (v : Value) : Sn (w.setCell ⟨g0, K, none⟩ v) base gz n m V B := by
  obtain ⟨cs, hz⟩ := h.bl
  obtain ⟨ds, hg⟩ := hb
  have ne : g0 ≠ gz := Ne.symm (blk_types hz hg (by decide))
  refine ⟨⟨cs, hz.ne (p := ⟨g0, K, none⟩) ne _⟩, fun i hi => ?_, fun i g c hi hv => ?_, h.inj⟩
  · rw [World.cell?_setCell_other _ _ _ _ (by intro e; injection e with e; exact ne e)]; exact h.cell i hi
  · obtain ⟨a1, a2, a3, ⟨es, a4⟩, a5⟩ := h.row i g c hi hv
    have ng : g0 ≠ g := Ne.symm (hq i g c hi hv)
    refine ⟨a1, a2, a3, ⟨es, a4.ne (p := ⟨g0, K, none⟩) ng _⟩, fun p hp => ?_⟩
    rw [World.cell?_setCell_other _ _ _ _ (by intro e; injection e with e; exact ng e)]; exact a5 p hp
theorem PnB.unp {w w' : World} {gq n m : Nat} {V : Nat → Option (Nat × Nat)} {pn : Nat → Bool} (h : PnB w gq n pn) (hk : KeepS m V w w') (hq : ∀ i g c, i < m → V i = some (g, c) → g ≠ gq) : PnB w' gq n pn := by
  obtain ⟨⟨cs, hz⟩, h2⟩ := h
  have hbk : w'.heap[gq]? = w.heap[gq]? := hk.2.2.2.2 gq hz.lt fun i g c hi hv e => hq i g c hi hv e.symm
  refine ⟨⟨cs, hbk.trans hz⟩, fun p hp => ?_⟩
  have e : w'.cell? ⟨gq, p, none⟩ = w.cell? ⟨gq, p, none⟩ := World.cell?_of_block hbk
  rw [e]; exact h2 p hp
section
variable {w wr w' : World} {ge gc gn gg gl gr gp gs gv gz gq n K : Nat} {l : List Int} {now : Int} {pins : List Int} {P : Nat → Option Nat} {S : Nat → Sv} {T : Nat → Tv} {G H : Nat → List (Int × Int)} {V : Nat → Option (Nat × Nat)} {B : Nat → Nat → Bool} {pn : Nat → Bool}
theorem TurnR.wo {i : Nat} (h : TurnR w ge gc gn gg gl gr gp gs gv gz gq n i l now pins P S T G V B pn wr) (hb : BaseT w ge gc gn gg gl gr gp gs gv gz gq) : Wo w ge gc gn gg gl gr gp gs gv gz gq n l now pins P S T G G V B pn wr := ⟨hb, h.ep, h.st, h.gi, h.re, h.th, h.sn, h.pb, h.bel, h.qv⟩
theorem Wo.below (h : Wo w ge gc gn gg gl gr gp gs gv gz gq n l now pins P S T G H V B pn wr) (hb : Below wr.heap.size wr w') : Wo w ge gc gn gg gl gr gp gs gv gz gq n l now pins P S T G H V B pn w' :=
  ⟨h.ba, h.ep.below hb, h.st.below hb, h.gi.below hb, h.re.below hb, h.th.below hb, h.sn.below hb, h.pb.below hb, h.bel.trans (hb.mono h.bel.size), h.qv⟩
theorem Wo.rdo {now' : Int} {pins' : List Int} {T' : Nat → Tv} (h : Wo w ge gc gn gg gl gr gp gs gv gz gq n l now pins P S T G H V B pn wr) (hr : ReB w' gr gp gs gv n now' pins' T') (hk : Keep [gr, gp, gs] wr w') : Wo w ge gc gn gg gl gr gp gs gv gz gq n l now' pins' P S T' G H V B pn w' := by
  obtain ⟨b1, b2, b3, b4, b5, b6, b7, b8, b9, b10, b11⟩ := h.ba
  have f := fr_rdo h.re hk (by simp)
  exact ⟨h.ba, h.ep.fr f (by decide) (by decide) (by decide), h.st.fr f (by decide) (by decide), h.gi.fr f (by decide) (by decide), hr, h.th.fr f (by decide) (by decide), h.sn.fr f (by decide) (by decide), h.pb.fr f (by decide), hk.below h.bel (Nat.le_refl _) (by simp; omega), h.qv⟩
theorem Wo.rbegin {now' : Int} {pins' : List Int} {T' : Nat → Tv} (h : Wo w ge gc gn gg gl gr gp gs gv gz gq n l now pins P S T G H V B pn wr) (hr : ReB w' gr gp gs gv n now' pins' T') (hk : Keep [gs] wr w') : Wo w ge gc gn gg gl gr gp gs gv gz gq n l now' pins' P S T' G H V B pn w' := by
  obtain ⟨b1, b2, b3, b4, b5, b6, b7, b8, b9, b10, b11⟩ := h.ba
  have f := fr_rdo h.re hk (by simp)
  exact ⟨h.ba, h.ep.fr f (by decide) (by decide) (by decide), h.st.fr f (by decide) (by decide), h.gi.fr f (by decide) (by decide), hr, h.th.fr f (by decide) (by decide), h.sn.fr f (by decide) (by decide), h.pb.fr f (by decide), hk.below h.bel (Nat.le_refl _) (by simp; omega), h.qv⟩
theorem Wo.runpin {now' : Int} {pins' : List Int} {T' : Nat → Tv} (h : Wo w ge gc gn gg gl gr gp gs gv gz gq n l now pins P S T G H V B pn wr) (hr : ReB w' gr gp gs gv n now' pins' T') (hk : Keep [gp] wr w') : Wo w ge gc gn gg gl gr gp gs gv gz gq n l now' pins' P S T' G H V B pn w' := by
  obtain ⟨b1, b2, b3, b4, b5, b6, b7, b8, b9, b10, b11⟩ := h.ba
  have f := fr_rdo h.re hk (by simp)
  exact ⟨h.ba, h.ep.fr f (by decide) (by decide) (by decide), h.st.fr f (by decide) (by decide), h.gi.fr f (by decide) (by decide), hr, h.th.fr f (by decide) (by decide), h.sn.fr f (by decide) (by decide), h.pb.fr f (by decide), hk.below h.bel (Nat.le_refl _) (by simp; omega), h.qv⟩
theorem Wo.pset (h : Wo w ge gc gn gg gl gr gp gs gv gz gq n l now pins P S T G H V B pn wr) (K : Nat) (x : Bool) : Wo w ge gc gn gg gl gr gp gs gv gz gq n l now pins P S T G H V B (upE pn K x) (wr.setCell ⟨gq, K, none⟩ (.bool x)) := by
  obtain ⟨b1, b2, b3, b4, b5, b6, b7, b8, b9, b10, b11⟩ := h.ba
  have f := fr_set h.pb.1 K (.bool x)
  exact ⟨h.ba, h.ep.fr f (by decide) (by decide) (by decide), h.st.fr f (by decide) (by decide), h.gi.fr f (by decide) (by decide), h.re.fr f (by decide) (by decide) (by decide), h.th.fr f (by decide) (by decide), h.sn.ne h.pb.1 h.qv K _, h.pb.put K x, h.bel.setCell (p := ⟨gq, K, none⟩) b11 _, h.qv⟩
theorem Wo.unp {B' : Nat → Nat → Bool} (h : Wo w ge gc gn gg gl gr gp gs gv gz gq n l now pins P S T G H V B pn wr) (hs : Sn w' w.heap.size gz n 200 V B') (hk : KeepS 200 V wr w') : Wo w ge gc gn gg gl gr gp gs gv gz gq n l now pins P S T G H V B' pn w' := by
  obtain ⟨b1, b2, b3, b4, b5, b6, b7, b8, b9, b10, b11⟩ := h.ba
  have f := fr_unp h.sn hk
  exact ⟨h.ba, h.ep.fr f (by decide) (by decide) (by decide), h.st.fr f (by decide) (by decide), h.gi.fr f (by decide) (by decide), h.re.fr f (by decide) (by decide) (by decide), h.th.fr f (by decide) (by decide), hs, h.pb.unp hk h.qv, hk.below h.bel (Nat.le_refl _) (fun i g c hi hv => (h.sn.row i g c hi hv).1), h.qv⟩
theorem Wo.step {g : Nat} {s : Sv} (h : Wo w ge gc gn gg gl gr gp gs gv gz gq n l now pins P S T G H V B pn wr) (hK : K < n) (hs : StV wr g gc s) (hn : ∀ j, j < n → P j ≠ some g) : Wo w ge gc gn gg gl gr gp gs gv gz gq n l now pins (upE P K (some g)) (upE S K s) T G H V B pn (wr.setCell ⟨gl, K, none⟩ (.pointer (some ⟨g, 0, none⟩))) := by
  obtain ⟨b1, b2, b3, b4, b5, b6, b7, b8, b9, b10, b11⟩ := h.ba
  have f := fr_set h.st.bl K (.pointer (some ⟨g, 0, none⟩))
  exact ⟨h.ba, h.ep.fr f (by decide) (by decide) (by decide), h.st.put1 hK g s hs hn, h.gi.fr f (by decide) (by decide), h.re.fr f (by decide) (by decide) (by decide), h.th.fr f (by decide) (by decide), h.sn.fr f (by decide) (by decide), h.pb.fr f (by decide), h.bel.setCell (p := ⟨gl, K, none⟩) b5 _, h.qv⟩
theorem Wo.nostep {s : Sv} (h : Wo w ge gc gn gg gl gr gp gs gv gz gq n l now pins P S T G H V B pn wr) (hK : K < n) : Wo w ge gc gn gg gl gr gp gs gv gz gq n l now pins (upE P K none) (upE S K s) T G H V B pn (wr.setCell ⟨gl, K, none⟩ (.pointer none)) := by
  obtain ⟨b1, b2, b3, b4, b5, b6, b7, b8, b9, b10, b11⟩ := h.ba
  have f := fr_set h.st.bl K (.pointer none)
  exact ⟨h.ba, h.ep.fr f (by decide) (by decide) (by decide), (h.st.put hK none s (fun g e => by cases e)), h.gi.fr f (by decide) (by decide), h.re.fr f (by decide) (by decide) (by decide), h.th.fr f (by decide) (by decide), h.sn.fr f (by decide) (by decide), h.pb.fr f (by decide), h.bel.setCell (p := ⟨gl, K, none⟩) b5 _, h.qv⟩
theorem Wo.did {g : Nat} {l' : List Int} {s : Sv} (h : Wo w ge gc gn gg gl gr gp gs gv gz gq n l now pins P S T G H V B pn wr) (hK : K < n) (hP : P K = some g) (hg : w.heap.size ≤ g) (he : EpB w' ge gc gn gg n l') (hs : StV w' g gc s) (hk : Keep [gn, g] wr w') : Wo w ge gc gn gg gl gr gp gs gv gz gq n l' now pins P (upE S K s) T G H V B pn w' := by
  obtain ⟨b1, b2, b3, b4, b5, b6, b7, b8, b9, b10, b11⟩ := h.ba
  have f := fr_do h.ep (h.st.st K g hK hP) hk
  exact ⟨h.ba, he, h.st.did h.ep hK hP hk hs, h.gi.fr f (by decide) (by decide), h.re.fr f (by decide) (by decide) (by decide), h.th.fr f (by decide) (by decide), h.sn.fr f (by decide) (by decide), h.pb.fr f (by decide), hk.below h.bel (Nat.le_refl _) (by simp; omega), h.qv⟩
theorem Wo.unpin {l' : List Int} (h : Wo w ge gc gn gg gl gr gp gs gv gz gq n l now pins P S T G H V B pn wr) (he : EpB w' ge gc gn gg n l') (hk : Keep [gn] wr w') : Wo w ge gc gn gg gl gr gp gs gv gz gq n l' now pins P S T G H V B pn w' := by
  obtain ⟨b1, b2, b3, b4, b5, b6, b7, b8, b9, b10, b11⟩ := h.ba
  have f := fr_unpin h.ep hk
  exact ⟨h.ba, he, h.st.fr f (by decide) (by decide), h.gi.fr f (by decide) (by decide), h.re.fr f (by decide) (by decide) (by decide), h.th.fr f (by decide) (by decide), h.sn.fr f (by decide) (by decide), h.pb.fr f (by decide), hk.below h.bel (Nat.le_refl _) (by simp; omega), h.qv⟩
theorem Wo.gave {G' : Nat → List (Int × Int)} (h : Wo w ge gc gn gg gl gr gp gs gv gz gq n l now pins P S T G H V B pn wr) (hg : Gs w' w.heap.size gg n G') (hk : KeepG w.heap.size gg wr w') : Wo w ge gc gn gg gl gr gp gs gv gz gq n l now pins P S T G' H V B pn w' := by
  obtain ⟨b1, b2, b3, b4, b5, b6, b7, b8, b9, b10, b11⟩ := h.ba
  have f := fr_give h.gi.blk hk
  exact ⟨h.ba, h.ep.fr f (by decide) (by decide) (by decide), h.st.fr f (by decide) (by decide), hg, h.re.fr f (by decide) (by decide) (by decide), h.th.fr f (by decide) (by decide), h.sn.fr f (by decide) (by decide), h.pb.fr f (by decide), hk.below h.bel (Nat.le_refl _) (Nat.le_refl _) b4, h.qv⟩
theorem Wo.rgave {H' : Nat → List (Int × Int)} (h : Wo w ge gc gn gg gl gr gp gs gv gz gq n l now pins P S T G H V B pn wr) (hg : Ts w' w.heap.size gv n H') (hk : KeepT w.heap.size gv wr w') : Wo w ge gc gn gg gl gr gp gs gv gz gq n l now pins P S T G H' V B pn w' := by
  obtain ⟨b1, b2, b3, b4, b5, b6, b7, b8, b9, b10, b11⟩ := h.ba
  have f := fr_rgive h.th.blk hk
  exact ⟨h.ba, h.ep.fr f (by decide) (by decide) (by decide), h.st.fr f (by decide) (by decide), h.gi.fr f (by decide) (by decide), h.re.fr f (by decide) (by decide) (by decide), hg, h.sn.fr f (by decide) (by decide), h.pb.fr f (by decide), hk.below h.bel (Nat.le_refl _) (Nat.le_refl _) b9, h.qv⟩
theorem Wo.rtook {H' : Nat → List (Int × Int)} (h : Wo w ge gc gn gg gl gr gp gs gv gz gq n l now pins P S T G H V B pn wr) (hg : Ts w' w.heap.size gv n H') (hk : Keep [gv] wr w') : Wo w ge gc gn gg gl gr gp gs gv gz gq n l now pins P S T G H' V B pn w' := by
  obtain ⟨b1, b2, b3, b4, b5, b6, b7, b8, b9, b10, b11⟩ := h.ba
  have f := fr_rtake h.th.blk hk
  exact ⟨h.ba, h.ep.fr f (by decide) (by decide) (by decide), h.st.fr f (by decide) (by decide), h.gi.fr f (by decide) (by decide), h.re.fr f (by decide) (by decide) (by decide), hg, h.sn.fr f (by decide) (by decide), h.pb.fr f (by decide), hk.below h.bel (Nat.le_refl _) (by simp; omega), h.qv⟩
theorem Wo.slot (h : Wo w ge gc gn gg gl gr gp gs gv gz gq n l now pins P S T G H V B pn wr) (i : Nat) (hi : i < 200) (o : Option (Nat × Nat)) (x : Nat → Bool)
    (ho : ∀ g c, o = some (g, c) → w.heap.size ≤ g ∧ n ≤ c ∧ c ≤ 9223372036854775807 ∧ (∃ cs, Blk wr g 4 cs) ∧ (∀ p, p < n → wr.cell? ⟨g, p, none⟩ = some (.bool (x p))) ∧ (∀ j d, j < 200 → V j ≠ some (g, d)) ∧ g ≠ gq) :
    Wo w ge gc gn gg gl gr gp gs gv gz gq n l now pins P S T G H (upE V i o) (upE B i x) pn (wr.setCell ⟨gz, i, none⟩ (slB n o)) := by
  obtain ⟨b1, b2, b3, b4, b5, b6, b7, b8, b9, b10, b11⟩ := h.ba
  have f := fr_set h.sn.bl i (slB n o)
  refine ⟨h.ba, h.ep.fr f (by decide) (by decide) (by decide), h.st.fr f (by decide) (by decide), h.gi.fr f (by decide) (by decide), h.re.fr f (by decide) (by decide) (by decide), h.th.fr f (by decide) (by decide), h.sn.slot i hi o x (fun g c e => by obtain ⟨a, b, c, d, e, f, _⟩ := ho g c e; exact ⟨a, b, c, d, e, f⟩), h.pb.fr f (by decide), h.bel.setCell (p := ⟨gz, i, none⟩) b10 _, fun m g c hm hv => ?_⟩
  by_cases e : m = i
  · subst e; rw [upE_same] at hv; exact (ho g c hv).2.2.2.2.2.2
  · rw [upE_ne _ _ e] at hv; exact h.qv m g c hm hv
theorem infoB : (Try.prog.info? 4).map (fun i => (i.zero, i.size, i.bytes)) = some (some (.bool false), 1, 1) := by kernel_rfl
/-- a copy of who is pinned -/
theorem wpList_copyB {w : World} {gq n : Nat} {pn : Nat → Bool} {ops : Array Oper} {rest : List Oper} {o : Oper} {a : Act} {Q : Exit → Act → World → Prop} (hgd : o.guard = none) (sx xx : Operand)
    (ho : o.op = .call { callee := .builtin .append, args := #[sx, xx], argTypes := #[43, 43] })
    (hp : PnB w gq n pn) (hn1 : 1 ≤ n) (hn2 : n ≤ 64) (hs : a.eval sx = .slice (some ⟨w.heap.size, 0, none⟩) 0 0) (hx : a.eval xx = .slice (some ⟨gq, 0, none⟩) n n)
    (h : ∀ g c w', w.heap.size ≤ g → n ≤ c → c ≤ 9223372036854775807 → (∃ cs, Blk w' g 4 cs) → (∀ p, p < n → w'.cell? ⟨g, p, none⟩ = some (.bool (pn p))) → Below w.heap.size w w' → wpList Try.prog ops Q rest (a.put o.dst (.slice (some ⟨g, 0, none⟩) n c)) w') :
    wpList Try.prog ops Q (o :: rest) a (w.alloc (.cells #[] 4)) := by
  obtain ⟨i, hi, hz, hsz, hb⟩ := info_parts infoB
  have hal := ball w (.cells #[] 4)
  have hp' := hp.below hal
  have how0 : (w.alloc (.cells #[] 4)).ownsRow w.heap.size 4 1 (.slice (some ⟨w.heap.size, 0, none⟩) 0 0) 0 [] := World.ownsRow_lit w #[] 0 (Nat.le_refl _) (Nat.zero_le _) rfl
  refine wpList_append_lies (P := Try.prog) (w := w.alloc (.cells #[] 4)) hgd sx xx 43 ho w.heap.size 4 i _ 1 1 Try.underlying43 hi hz hsz hb rfl (by omega) _ 0 [] hs how0 ⟨gq, 0, none⟩ n n ((List.range n).map fun p => Value.bool (pn p)) hx (by simp) ?_ ?_ (by omega) (by unfold maxLen; omega) (by omega) (by simp) _ rfl ?_
  · intro j u hu
    rw [addr_add, Nat.zero_add]
    have hj : j < n := by
      have := (List.getElem?_eq_some_iff.1 hu).1
      simpa using this
    rw [hp'.2 j hj]
    simpa [hj] using hu
  · intro u hu
    simp at hu
    obtain ⟨p, _, rfl⟩ := hu
    rfl
  · intro g cap w' how hg hgo hlt
    rw [Nat.zero_add] at how ⊢
    rw [List.nil_append] at how
    have hge : w.heap.size ≤ g := by
      rcases hgo with e | e
      · simp [Value.ownBlock] at e; omega
      · rw [World.size_alloc] at e; omega
    have hcell : ∀ p, p < n → w'.cell? ⟨g, p, none⟩ = some (.bool (pn p)) := fun p hpn => by
      rw [World.ownsRow.cellAt how p (by omega)]; simp [hpn]
    have hB : Below w.heap.size w w' := ((Below.refl _ _).alloc (Nat.le_refl _) _).grown hg (by rw [World.size_alloc]; omega) (fun k hk => by simp [Value.ownBlock] at hk; omega)
    rcases how.2 with ⟨q, _⟩ | ⟨g', cap', cur, q, hb', hh, h1, h2, h3, _⟩
    · cases q
    · injection q with q1 q2 q3
      injection q1 with q1
      injection q1 with q1
      subst q1
      subst q3
      exact h g cap w' hge h1 (by unfold maxLen at h2; omega) ⟨cur, hh⟩ hcell hB
end
end Go.Proofs.Ythkmpcfjeclejaa
