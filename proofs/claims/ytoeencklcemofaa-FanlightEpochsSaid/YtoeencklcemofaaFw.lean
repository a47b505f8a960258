/-
  FanlightEpochs: all that stands in the world, call by call. Conditions stand in each theorem.
-/
import Derived.Test.YtoeencklcemofaaFan
import Derived.Test.YtoeencklcemofaaMaps
namespace Go.Proofs.Ytoeencklcemofaa
open Go.RowKit Go.Deep Plain
set_option linter.unusedVariables false
set_option maxRecDepth 100000

/-- a row of n numbers -/
def NuR (q : IntKind) (t : TypeId) (w : World) (g n : Nat) (f : Nat → Nat) : Prop := (∃ cs, Blk w g t cs) ∧ ∀ j, j < n → w.cell? ⟨g, j, none⟩ = some (.int q (f j))
section
variable {q : IntKind} {t : TypeId} {w w' : World} {g n : Nat} {f : Nat → Nat}
theorem NuR.fr {L : List TypeId} (h : NuR q t w g n f) (x : Fr L w w') (ht : t ∉ L) : NuR q t w' g n f := by
  have hb := h.1
  obtain ⟨cs, hz⟩ := h.1
  exact ⟨⟨cs, x.2 _ _ _ hz ht⟩, fun p hp => x.cell hb ht (h.2 p hp)⟩
theorem NuR.below (h : NuR q t w g n f) (hb : Below w.heap.size w w') : NuR q t w' g n f := h.fr (L := []) (Fr.below hb) (by simp)
theorem NuR.free (h : NuR q t w g n f) (i : Nat) : w.frozen? ⟨g, i, none⟩ = false := by obtain ⟨cs, hb⟩ := h.1; exact hb.frozen i
theorem NuR.put (h : NuR q t w g n f) (K x : Nat) : NuR q t (w.setCell ⟨g, K, none⟩ (.int q x)) g n (upE f K x) := by
  obtain ⟨⟨cs, hz⟩, h2⟩ := h
  refine ⟨⟨_, hz.set K _⟩, fun p hp => ?_⟩
  by_cases e : p = K
  · subst e; rw [upE_same]; exact World.cell?_setCell_same _ _ _ (h2 p hp)
  · rw [upE_ne _ _ e, World.cell?_setCell_other _ _ _ _ (by intro e2; injection e2 with _ e2; exact e e2.symm)]; exact h2 p hp
theorem NuR.made (q : IntKind) (t : TypeId) (w : World) (n : Nat) : NuR q t (w.alloc (.cells ((List.replicate n (0 : Int)).map (Value.int q)).toArray t)) w.heap.size n (fun _ => 0) :=
  ⟨⟨_, Row.made q t w n⟩, fun j hj => by rw [(Row.made q t w n).at (by simpa using hj)]; simp [List.getD, hj]⟩
end
theorem Cl.fr {L : List TypeId} {w w' : World} {kc kn m : Nat} {l : List Int} (h : Cl w kc kn m l) (x : Fr L w w') (h1 : 135 ∉ L) (h2 : 138 ∉ L) : Cl w' kc kn m l := ⟨h.len, x.2 _ _ _ h.st h1, x.2 _ _ _ h.nu h2, h.ne, h.rg⟩
theorem fr_map {w w' : World} {b : Nat} {ks : List Int} (h : MpI w b ks) (hk : Keep [b] w w') : Fr [] w w' := ⟨hk.size, fun g t cs hb _ => hk.blk hb (by simpa using Ne.symm (h.blk hb))⟩
theorem MpI.keepG {w w' : World} {base gg b : Nat} {ks : List Int} (h : MpI w b ks) (hg : ∃ cs, Blk w gg 140 cs) (hk : KeepG base gg w w') : MpI w' b ks := by
  obtain ⟨bs, hk, ha⟩ := hk
  refine h.keep hk fun hb => ?_
  rcases ha b hb with e | ⟨_, cs, e⟩
  · obtain ⟨cs, hg⟩ := hg; exact h.blk hg e
  · exact h.blk e rfl
/-- all that stands in the world -/
structure Fw (w : World) (ge gc gn gg kc kn gl ga gb bt bv n nx : Nat) (l : List Int) (la lr : Nat → Nat) (P : Nat → Option Nat) (S : Nat → Sv) (G : Nat → List (Int × Int)) (tk gv : List Int) (wr : World) : Prop where
  ep : EpB wr ge gc gn gg n l
  cl : Cl wr kc kn 1 [((nx : Int) - 1)]
  cn : kn ≠ gn ∧ kc ≠ gc
  st : Sts wr gl gc n P S
  pg : ∀ j g, j < n → P j = some g → w.heap.size ≤ g
  gi : Gs wr w.heap.size gg n G
  ra : NuR .i64 3 wr ga n la
  rr : NuR .u64 24 wr gb n lr
  mt : MpI wr bt tk
  mv : MpI wr bv gv
  mn : bt ≠ bv
  bel : Below w.heap.size w wr
  bs : w.heap.size ≤ ge ∧ w.heap.size ≤ gc ∧ w.heap.size ≤ gn ∧ w.heap.size ≤ gg ∧ w.heap.size ≤ kc ∧ w.heap.size ≤ kn ∧ w.heap.size ≤ gl ∧ w.heap.size ≤ ga ∧ w.heap.size ≤ gb ∧ w.heap.size ≤ bt ∧ w.heap.size ≤ bv
section
variable {w wr w' : World} {ge gc gn gg kc kn gl ga gb bt bv n nx K : Nat} {l : List Int} {la lr : Nat → Nat} {P : Nat → Option Nat} {S : Nat → Sv} {G : Nat → List (Int × Int)} {tk gv : List Int}
theorem Fw.below (h : Fw w ge gc gn gg kc kn gl ga gb bt bv n nx l la lr P S G tk gv wr) (hb : Below wr.heap.size wr w') : Fw w ge gc gn gg kc kn gl ga gb bt bv n nx l la lr P S G tk gv w' :=
  ⟨h.ep.below hb, h.cl.below hb, h.cn, h.st.below hb, h.pg, h.gi.below hb, h.ra.below hb, h.rr.below hb, h.mt.below hb, h.mv.below hb, h.mn, h.bel.trans (hb.mono h.bel.size), h.bs⟩
theorem Fw.aset (h : Fw w ge gc gn gg kc kn gl ga gb bt bv n nx l la lr P S G tk gv wr) (K x : Nat) (v : Int) (hv : (x : Int) = v) : Fw w ge gc gn gg kc kn gl ga gb bt bv n nx l (upE la K x) lr P S G tk gv (wr.setCell ⟨ga, K, none⟩ (.int .i64 v)) := by
  obtain ⟨b1, b2, b3, b4, b5, b6, b7, b8, b9, b10, b11⟩ := h.bs
  subst hv
  have f := fr_set h.ra.1 K (.int .i64 x)
  exact ⟨h.ep.fr f (by decide) (by decide) (by decide), h.cl.fr f (by decide) (by decide), h.cn, h.st.fr f (by decide) (by decide), h.pg, h.gi.fr f (by decide) (by decide), h.ra.put K x, h.rr.fr f (by decide), h.mt.set h.ra.1 _ _, h.mv.set h.ra.1 _ _, h.mn, h.bel.setCell (p := ⟨ga, K, none⟩) b8 _, h.bs⟩
theorem Fw.rset (h : Fw w ge gc gn gg kc kn gl ga gb bt bv n nx l la lr P S G tk gv wr) (K x : Nat) (v : Int) (hv : (x : Int) = v) : Fw w ge gc gn gg kc kn gl ga gb bt bv n nx l la (upE lr K x) P S G tk gv (wr.setCell ⟨gb, K, none⟩ (.int .u64 v)) := by
  obtain ⟨b1, b2, b3, b4, b5, b6, b7, b8, b9, b10, b11⟩ := h.bs
  subst hv
  have f := fr_set h.rr.1 K (.int .u64 x)
  exact ⟨h.ep.fr f (by decide) (by decide) (by decide), h.cl.fr f (by decide) (by decide), h.cn, h.st.fr f (by decide) (by decide), h.pg, h.gi.fr f (by decide) (by decide), h.ra.fr f (by decide), h.rr.put K x, h.mt.set h.rr.1 _ _, h.mv.set h.rr.1 _ _, h.mn, h.bel.setCell (p := ⟨gb, K, none⟩) b9 _, h.bs⟩
theorem Fw.step {g : Nat} {s : Sv} (h : Fw w ge gc gn gg kc kn gl ga gb bt bv n nx l la lr P S G tk gv wr) (hK : K < n) (hg : w.heap.size ≤ g) (hs : StV wr g gc s) (hn : ∀ j, j < n → P j ≠ some g) : Fw w ge gc gn gg kc kn gl ga gb bt bv n nx l la lr (upE P K (some g)) (upE S K s) G tk gv (wr.setCell ⟨gl, K, none⟩ (.pointer (some ⟨g, 0, none⟩))) := by
  obtain ⟨b1, b2, b3, b4, b5, b6, b7, b8, b9, b10, b11⟩ := h.bs
  have f := fr_set h.st.bl K (.pointer (some ⟨g, 0, none⟩))
  exact ⟨h.ep.fr f (by decide) (by decide) (by decide), h.cl.fr f (by decide) (by decide), h.cn, h.st.put1 hK g s hs hn, fun j g2 hj hp => by
    by_cases e : j = K
    · rw [e, upE_same] at hp; injection hp with hp; omega
    · rw [upE_ne _ _ e] at hp; exact h.pg j g2 hj hp, h.gi.fr f (by decide) (by decide), h.ra.fr f (by decide), h.rr.fr f (by decide), h.mt.set h.st.bl _ _, h.mv.set h.st.bl _ _, h.mn, h.bel.setCell (p := ⟨gl, K, none⟩) b7 _, h.bs⟩
theorem Fw.did {g : Nat} {l' : List Int} {s : Sv} (h : Fw w ge gc gn gg kc kn gl ga gb bt bv n nx l la lr P S G tk gv wr) (hK : K < n) (hP : P K = some g) (he : EpB w' ge gc gn gg n l') (hs : StV w' g gc s) (hk : Keep [gn, g] wr w') : Fw w ge gc gn gg kc kn gl ga gb bt bv n nx l' la lr P (upE S K s) G tk gv w' := by
  obtain ⟨b1, b2, b3, b4, b5, b6, b7, b8, b9, b10, b11⟩ := h.bs
  have hst := h.st.st K g hK hP
  have hg := h.pg K g hK hP
  have f := fr_do h.ep hst hk
  have k1 : kc ∉ [gn, g] := by simp only [List.mem_cons, List.not_mem_nil, or_false, not_or]; exact ⟨blk_types h.cl.st h.ep.cl.nu (by decide), blk_types h.cl.st hst (by decide)⟩
  have k2 : kn ∉ [gn, g] := by simp only [List.mem_cons, List.not_mem_nil, or_false, not_or]; exact ⟨h.cn.1, blk_types h.cl.nu hst (by decide)⟩
  have k3 : bt ∉ [gn, g] := by simp only [List.mem_cons, List.not_mem_nil, or_false, not_or]; exact ⟨h.mt.blk h.ep.cl.nu, h.mt.blk hst⟩
  have k4 : bv ∉ [gn, g] := by simp only [List.mem_cons, List.not_mem_nil, or_false, not_or]; exact ⟨h.mv.blk h.ep.cl.nu, h.mv.blk hst⟩
  exact ⟨he, h.cl.keep hk k1 k2, h.cn, h.st.did h.ep hK hP hk hs, h.pg, h.gi.fr f (by decide) (by decide), h.ra.fr f (by decide), h.rr.fr f (by decide), h.mt.keep hk k3, h.mv.keep hk k4, h.mn, hk.below h.bel (Nat.le_refl _) (by simp; omega), h.bs⟩
theorem Fw.unpin {l' : List Int} (h : Fw w ge gc gn gg kc kn gl ga gb bt bv n nx l la lr P S G tk gv wr) (he : EpB w' ge gc gn gg n l') (hk : Keep [gn] wr w') : Fw w ge gc gn gg kc kn gl ga gb bt bv n nx l' la lr P S G tk gv w' := by
  obtain ⟨b1, b2, b3, b4, b5, b6, b7, b8, b9, b10, b11⟩ := h.bs
  have f := fr_unpin h.ep hk
  have k1 : kc ∉ [gn] := by simpa using blk_types h.cl.st h.ep.cl.nu (by decide)
  have k2 : kn ∉ [gn] := by simpa using h.cn.1
  have k3 : bt ∉ [gn] := by simpa using h.mt.blk h.ep.cl.nu
  have k4 : bv ∉ [gn] := by simpa using h.mv.blk h.ep.cl.nu
  exact ⟨he, h.cl.keep hk k1 k2, h.cn, h.st.fr f (by decide) (by decide), h.pg, h.gi.fr f (by decide) (by decide), h.ra.fr f (by decide), h.rr.fr f (by decide), h.mt.keep hk k3, h.mv.keep hk k4, h.mn, hk.below h.bel (Nat.le_refl _) (by simp; omega), h.bs⟩
theorem Fw.gave {G' : Nat → List (Int × Int)} (h : Fw w ge gc gn gg kc kn gl ga gb bt bv n nx l la lr P S G tk gv wr) (hg : Gs w' w.heap.size gg n G') (hk : KeepG w.heap.size gg wr w') : Fw w ge gc gn gg kc kn gl ga gb bt bv n nx l la lr P S G' tk gv w' := by
  obtain ⟨b1, b2, b3, b4, b5, b6, b7, b8, b9, b10, b11⟩ := h.bs
  have f := fr_give h.gi.blk hk
  exact ⟨h.ep.fr f (by decide) (by decide) (by decide), h.cl.fr f (by decide) (by decide), h.cn, h.st.fr f (by decide) (by decide), h.pg, hg, h.ra.fr f (by decide), h.rr.fr f (by decide), h.mt.keepG h.gi.blk hk, h.mv.keepG h.gi.blk hk, h.mn, hk.below h.bel (Nat.le_refl _) (Nat.le_refl _) b4, h.bs⟩
theorem Fw.cas (h : Fw w ge gc gn gg kc kn gl ga gb bt bv n nx l la lr P S G tk gv wr) (x : Nat) (hx : x ≤ 1000000) (h1 : 1 ≤ x) (v : Int) (hv : (x : Int) - 1 = v) : Fw w ge gc gn gg kc kn gl ga gb bt bv n x l la lr P S G tk gv (wr.setCell ⟨kn, 0, none⟩ (.int .u64 v)) := by
  obtain ⟨b1, b2, b3, b4, b5, b6, b7, b8, b9, b10, b11⟩ := h.bs
  subst hv
  have hk : Keep [kn] wr (wr.setCell ⟨kn, 0, none⟩ (.int .u64 ((x : Int) - 1))) := (Keep.refl _ _).setCell (.inl (by simp)) _
  have f := fr_set ⟨_, h.cl.nu⟩ 0 (.int .u64 ((x : Int) - 1))
  have k1 : ge ∉ [kn] := by simpa using blk_types h.ep.es h.cl.nu (by decide)
  have k2 : gc ∉ [kn] := by simpa using blk_types h.ep.cl.st h.cl.nu (by decide)
  have k3 : gn ∉ [kn] := by simpa using Ne.symm h.cn.1
  exact ⟨h.ep.keep hk k1 k2 k3, h.cl.set 0 _ (by unfold U64; omega), h.cn, h.st.fr f (by decide) (by decide), h.pg, h.gi.fr f (by decide) (by decide), h.ra.fr f (by decide), h.rr.fr f (by decide), h.mt.set ⟨_, h.cl.nu⟩ _ _, h.mv.set ⟨_, h.cl.nu⟩ _ _, h.mn, h.bel.setCell (p := ⟨kn, 0, none⟩) b6 _, h.bs⟩
theorem Fw.tput {tk' : List Int} (h : Fw w ge gc gn gg kc kn gl ga gb bt bv n nx l la lr P S G tk gv wr) (hm : MpI w' bt tk') (hk : Keep [bt] wr w') : Fw w ge gc gn gg kc kn gl ga gb bt bv n nx l la lr P S G tk' gv w' := by
  obtain ⟨b1, b2, b3, b4, b5, b6, b7, b8, b9, b10, b11⟩ := h.bs
  have f := fr_map h.mt hk
  exact ⟨h.ep.fr f (by decide) (by decide) (by decide), h.cl.fr f (by decide) (by decide), h.cn, h.st.fr f (by decide) (by decide), h.pg, h.gi.fr f (by decide) (by decide), h.ra.fr f (by decide), h.rr.fr f (by decide), hm, h.mv.keep hk (by simpa using Ne.symm h.mn), h.mn, hk.below h.bel (Nat.le_refl _) (by simp; omega), h.bs⟩
theorem Fw.gput {gv' : List Int} (h : Fw w ge gc gn gg kc kn gl ga gb bt bv n nx l la lr P S G tk gv wr) (hm : MpI w' bv gv') (hk : Keep [bv] wr w') : Fw w ge gc gn gg kc kn gl ga gb bt bv n nx l la lr P S G tk gv' w' := by
  obtain ⟨b1, b2, b3, b4, b5, b6, b7, b8, b9, b10, b11⟩ := h.bs
  have f := fr_map h.mv hk
  exact ⟨h.ep.fr f (by decide) (by decide) (by decide), h.cl.fr f (by decide) (by decide), h.cn, h.st.fr f (by decide) (by decide), h.pg, h.gi.fr f (by decide) (by decide), h.ra.fr f (by decide), h.rr.fr f (by decide), h.mt.keep hk (by simpa using h.mn), hm, h.mn, hk.below h.bel (Nat.le_refl _) (by simp; omega), h.bs⟩
end
end Go.Proofs.Ytoeencklcemofaa
