/-
  Several small texts in one: CbJ, CbK, CbL. Conditions stand in each theorem.
-/
import Derived.Test.YtmbceafeonjffaaCbI
import Derived.Test.YtmbceafeonjffaaCbF
import Derived.Test.YtmbceafeonjffaaGP
namespace Go.Proofs.Ytmbceafeonjffaa
open Go.RowKit Go.Deep Plain
set_option linter.unusedVariables false
set_option linter.unusedSimpArgs false
set_option maxRecDepth 100000
def o3 (j : Nat) : Nat := if j = 2 then 1 else 0
/-- a row of ints, from somewhere on, apart from all caches' -/
structure CoN (w : World) (base M : Nat) (C : Nat → Cv) (A : Option Addr) (n c : Nat) : Prop where
  row : ∃ zs, OwK base w A n c zs
  ap : ∀ u, u < M → ApR (C u).A (C u).n (C u).c A n c
theorem CoK.any {w w' : World} {gc gn N : Nat} {x x' : Cv} (h : CoK w w' gc gn N x x' none) (s : Sv) : CoK w w' gc gn N x x' s := by
  obtain ⟨bs, a, b, d⟩ := h
  refine ⟨bs, a, fun g hg => ?_, d⟩
  rcases b g hg with z | z | z | z | ⟨o', z⟩ | ⟨gt, p, z⟩
  · exact .inl z
  · exact .inr (.inl z)
  · exact .inr (.inr (.inl z))
  · exact .inr (.inr (.inr (.inl z)))
  · cases z
  · cases z
section
variable {w0 w w' W : World} {gp gc gn N M J v j base n c : Nat} {size : Int} {l l' : List Int} {C : Nat → Cv} {o : Nat → Nat} {S : Nat → Sv} {bs : List Nat} {x : Cv} {A A' : Option Addr} {b : Int}
theorem CoN.below (h : CoN w base M C A n c) (hb : Below w.heap.size w w') : CoN w' base M C A n c := by
  obtain ⟨zs, q⟩ := h.row
  exact ⟨⟨zs, q.below hb⟩, h.ap⟩
theorem CoM.intT (h : CoM w0 w gp gc gn N size l M J C o S) (hv : v < M) (hj : j < J) {g : Nat} {cur : Array Value} (q : Blk w g 3 cur) (ha : (C v).row.ownBlock ≠ some g) (hbs : ∀ g ∈ bs, CoT w gc gn N (C v) (S j) g) : g ∉ bs := fun hm => by
  rcases hbs g hm with z | z | z | z | ⟨o', z⟩ | ⟨gt, p, z⟩
  · have := q.lt; omega
  · subst z; exact blkT q h.po.cl.nu (by decide) rfl
  · subst z; exact blkT q (h.ca v hv).st (by decide) rfl
  · exact ha z
  · exact blkT q (h.ss j hj g o' z).2.1 (by decide) rfl
  · exact ((h.ss j hj gt _ z).2.2 g p rfl).2.typ q (by decide) rfl
theorem CoM.rowN (h : CoM w0 w gp gc gn N size l M J C o S) (hj : j < J) (ho : o j = v) (hk : CoK w w' gc gn N (C v) x (S j)) (hr : CoN w base M C A n c) : CoN w' base M (upS C v x) A n c := by
  have hv : v < M := ho ▸ h.om j hj
  obtain ⟨bs, k, q, r⟩ := hk
  obtain ⟨zs, hz⟩ := hr.row
  refine ⟨⟨zs, hz.keep k (fun g hg => ?_)⟩, fun u hu g a b => ?_⟩
  · obtain ⟨_, cur, hb⟩ := hz.blk hg
    exact h.intT hv hj hb (fun e => hr.ap v hv g e hg) q
  · by_cases e : u = v
    · subst e
      rw [upS_same] at a
      rcases r g a with z | z
      · exact hr.ap u hu g z b
      · obtain ⟨_, cur, hb⟩ := hz.blk b
        have := hb.lt; omega
    · rw [upS_ne _ _ e] at a
      exact hr.ap u hu g a b
/-- that row is written, or another one takes its place -/
theorem CoM.heldK (h : CoM w0 w gp gc gn N size l M J C o S) (hr : CoN w w0.heap.size M C A n c) (hk : Keep (ownLs (.slice A n c)) w w') : CoM w0 w' gp gc gn N size l M J C o S := by
  obtain ⟨zs, hz⟩ := hr.row
  have hblk : ∀ g ∈ ownLs (.slice A n c), w0.heap.size ≤ g ∧ ∃ cur, Blk w g 3 cur := fun g hg => hz.blk (mem_ownLs hg)
  have hty : ∀ {b : Nat} {t : TypeId} {cs : Array Value}, Blk w b t cs → t ≠ 3 → b ∉ ownLs (.slice A n c) := fun hb ht hm => by
    obtain ⟨_, cur, q⟩ := hblk _ hm
    exact blkT hb q ht rfl
  have hng : ∀ g ∈ ownLs (.slice A n c), NoG w g := fun g hg => by
    obtain ⟨_, cur, q⟩ := hblk g hg
    exact NoG.typ q (by decide)
  refine ⟨h.po.keep hk (hty h.po.ps (by decide)) (hty h.po.cl.st (by decide)) (hty h.po.cl.nu (by decide)), fun u hu => (h.ca u hu).keep hk (hty (h.ca u hu).st (by decide)) (fun g hg hm => hr.ap u hu g hg (mem_ownLs hm)), fun u hu g e => ?_, fun i hi => (h.ss i hi).keep hk (fun gt o e => hty ((h.ss i hi gt o e).2.1) (by decide)) (fun gt gs p e hm => ?_) hng, h.dg, h.dr, h.ds, hk.below h.be (Nat.le_refl _) (fun g hg => (hblk g hg).1), h.bg, h.bn, h.om⟩
  · obtain ⟨cs, q⟩ := h.bs u hu g e
    exact ⟨cs, hk.blk q (hty q (by decide))⟩
  · obtain ⟨_, cur, q⟩ := hblk gs hm
    exact ((h.ss i hi gt _ e).2.2 gs p rfl).2.typ q (by decide) rfl
theorem CoN.next (h : CoM w0 w gp gc gn N size l M J C o S) (hr : CoN w w0.heap.size M C A n c) {n' c' : Nat} {zs : List Int} (hn : OwK w0.heap.size w' A' n' c' zs) (ho : ∀ g, (Value.slice A' n' c').ownBlock = some g → (Value.slice A n c).ownBlock = some g ∨ w.heap.size ≤ g) : CoN w' w0.heap.size M C A' n' c' :=
  ⟨⟨zs, hn⟩, fun u hu g a b => by
    rcases ho g b with q | q
    · exact hr.ap u hu g a q
    · have := (h.ca u hu).row.own_lt g a; omega⟩
/-- a Step is run -/
def CoU (w0 : World) (gp gc gn N : Nat) (size : Int) (l : List Int) (M J : Nat) (C : Nat → Cv) (o : Nat → Nat) (S : Nat → Sv) (v j : Nat) (b : Int) (w : World) (e : Ending) (w' : World) : Prop :=
  ∃ (q : Int) (l' : List Int) (x : Cv), e = .returned (.int .i64 q) ∧ CoM w0 w' gp gc gn N size l' M J (upS C v x) o (upS S j none) ∧ CoK w w' gc gn N (C v) x (S j) ∧ x.ga = (C v).ga ∧ (x.bk = none ∨ x.bk = (C v).bk) ∧ WfP N l' (b + 299) ∧ x.n ≤ (C v).n + 32
theorem got_len (s : Ps) : (gotF s).length ≤ 32 := by
  unfold gotF
  split
  · simp
  · rw [List.length_reverse]
    exact numsI_len _ _ 32
theorem CoM.run {g0 gt : Nat} {q : Option (Nat × Ps)} (h : CoM w0 w gp gc gn N size l M J C o S) (hj : j < J) (ho : o j = v) (hS : S j = some (gt, q)) (hN : N ≤ 32) (hn : (C v).n ≤ 100000) (hw : WfP N l b) (hb : b ≤ 4294960000) :
    Calls Try.prog 31 #[.pointer (some ⟨g0, 0, none⟩), .pointer (some ⟨gt, 0, none⟩)] w (CoU w0 gp gc gn N size l M J C o S v j b w) := by
  have hv : v < M := ho ▸ h.om j hj
  obtain ⟨s1, s2, s3⟩ := h.ss j hj gt _ hS
  rw [ho] at s2
  have hz := h.be.size
  have hC : upS C v (C v) = C := upS_self C v
  rcases q with _ | ⟨gs, p⟩
  · refine (cRun_rest (g0 := g0) (h.ca v hv) s2).mono ?_
    rintro e w' ⟨rfl, ht, hk⟩
    have hbs : ∀ g ∈ [gt], CoT w gc gn N (C v) (S j) g := fun g hg => by
      rw [List.mem_singleton] at hg
      rw [hg]; exact .inr (.inr (.inr (.inr (.inl ⟨_, hS⟩))))
    refine ⟨1, l, C v, rfl, ?_, ⟨_, hk, hbs, fun g q => .inl q⟩, rfl, .inr rfl, hw.mono (by omega), by omega⟩
    exact h.upd (v := v) (x := C v) (t := none) hj ho rfl (h.po.oneK s2 (by decide) (by decide) (by decide) hk) ((h.ca v hv).keep hk (by simpa using fun q => blkT s2 (h.ca v hv).st (by decide) q.symm) ((h.ca v hv).row.off s2 (by decide))) (h.bg v hv).2 hk hbs (fun g q => .inl q)
      (fun gt' gs' p' e _ => by rw [hS] at e; cases e) (fun g e => by obtain ⟨cs, q⟩ := h.bs v hv g e; exact ⟨cs, hk.blk q (by simpa using fun z => blkT q s2 (by decide) z)⟩) (SvW.nil _ _ _ _ _) (fun i _ _ => (SvN.nil _).2)
  · obtain ⟨s4, s5⟩ := s3 gs p rfl
    refine (cRun_some (g0 := g0) (h.ca v hv) h.po s2 s5 hN hn hz (h.bs v hv)).mono ?_
    rintro e w' (⟨k, hk1, hk2, hx, hnd, rfl, hp, ht, hs, hk, A', c', n', hc, hown⟩ | ⟨rfl, hnd, hc, hp, ht, hs, hk⟩)
    · have hbs : ∀ g ∈ (gt :: gn :: gs :: (C v).ga :: ownLs (.slice (C v).A (C v).n (C v).c)), CoT w gc gn N (C v) (S j) g := fun g hg => by
        simp only [List.mem_cons] at hg
        rcases hg with q | q | q | q | q
        · rw [q]; exact .inr (.inr (.inr (.inr (.inl ⟨_, hS⟩))))
        · exact .inr (.inl q)
        · rw [q]; exact .inr (.inr (.inr (.inr (.inr ⟨gt, p, hS⟩))))
        · exact .inr (.inr (.inl q))
        · exact .inr (.inr (.inr (.inl (mem_ownLs q))))
      have hbk : (if (C v).bk = some gs then none else (C v).bk) = none ∨ (if (C v).bk = some gs then none else (C v).bk) = (C v).bk := by
        split
        · exact .inl rfl
        · exact .inr rfl
      refine ⟨k, _, ⟨(C v).ga, homF (C v).home (itP N l p k).2, A', n', c', (C v).Z ++ gotF (itP N l p k).2, if (C v).bk = some gs then none else (C v).bk⟩, rfl, ?_, ⟨_, hk, hbs, hown⟩, rfl, hbk, ((it_wf hw s5.ok k (by omega)).1).mono (by omega), ?_⟩
      · refine h.upd (v := v) (t := none) hj ho rfl hp hc (homF_lt (h.bg v hv).2 (by have := hs.ok.wd; omega)) hk hbs hown (fun gt' gs' p' e _ => by rw [hS] at e; cases e; exact hs.isb) (fun g e => ?_) (SvW.nil _ _ _ _ _) (fun i _ _ => (SvN.nil _).2)
        by_cases q : (C v).bk = some gs
        · simp only [q, if_true] at e; cases e
        · simp only [q, if_false] at e
          obtain ⟨cs, hcs⟩ := h.bs v hv g e
          by_cases eg : g = gs
          · subst eg; exact hs.isb
          · refine ⟨cs, hk.blk hcs fun hm => ?_⟩
            simp only [List.mem_cons] at hm
            rcases hm with z | z | z | z | z
            · exact blkT hcs s2 (by decide) z
            · exact blkT hcs h.po.cl.nu (by decide) z
            · exact eg z
            · exact blkT hcs (h.ca v hv).st (by decide) z
            · obtain ⟨_, _, cur, q2⟩ := own_blk (h.ca v hv).row (mem_ownLs z)
              exact blkT hcs (show Blk w g 3 cur from q2) (by decide) rfl
      · have h1 := hc.row.len
        have h2 := (h.ca v hv).row.len
        have h3 := got_len (itP N l p k).2
        rw [List.length_append] at h1
        show n' ≤ (C v).n + 32
        omega
    · have hbs : ∀ g ∈ [gn, gs], CoT w gc gn N (C v) (S j) g := fun g hg => by
        simp only [List.mem_cons, List.not_mem_nil, or_false] at hg
        rcases hg with q | q
        · exact .inr (.inl q)
        · rw [q]; exact .inr (.inr (.inr (.inr (.inr ⟨gt, p, hS⟩))))
      refine ⟨-1, _, C v, rfl, ?_, ⟨_, hk, hbs, fun g q => .inl q⟩, rfl, .inr rfl, ((it_wf hw s5.ok 299 (by omega)).1).mono (by omega), by omega⟩
      exact h.upd (v := v) (x := C v) (t := none) hj ho rfl hp hc (h.bg v hv).2 hk hbs (fun g q => .inl q) (fun gt' gs' p' e _ => by rw [hS] at e; cases e; exact hs.isb) (bk_keep h.po (h.bs v hv) hs hk) (SvW.nil _ _ _ _ _) (fun i _ _ => (SvN.nil _).2)
/-- a Pop, beside such a row -/
def CoQ (w0 : World) (gp gc gn N : Nat) (size : Int) (l : List Int) (M J : Nat) (C0 : Nat → Cv) (o : Nat → Nat) (S : Nat → Sv) (v : Nat) (x : Cv) (A : Option Addr) (n c : Nat) (w : World) (e : Ending) (W : World) : Prop :=
  ∃ (y : Int) (ok : Bool) (x' : Cv), e = .returned (.tuple #[.int .i64 y, .bool ok]) ∧ CoM w0 W gp gc gn N size l M J (upS C0 v x') o S ∧ CoN W w0.heap.size M (upS C0 v x') A n c ∧ x'.ga = x.ga ∧ x'.bk = x.bk ∧ (ok = false → x'.n = 0) ∧ x'.n + (if ok = true then 1 else 0) ≤ x.n ∧ (∀ g cs, Blk w g 54 cs → Blk W g 54 cs)
theorem CoM.popN {C0 : Nat → Cv} (h : CoM w0 w gp gc gn N size l M J (upS C0 v x) o S) (hr : CoN w w0.heap.size M (upS C0 v x) A n c) (hj : j < J) (ho : o j = v) (hn : x.n ≤ 100000) :
    Calls Try.prog 27 #[.pointer (some ⟨x.ga, 0, none⟩)] w (CoQ w0 gp gc gn N size l M J C0 o S v x A n c w) := by
  have hs : upS C0 v x v = x := upS_same C0 v x
  have hp := h.pop (v := v) (j := j) hj ho (by rw [hs]; exact hn)
  rw [hs] at hp
  refine hp.mono ?_
  rintro e W ⟨rfl, hc, hk⟩
  rw [hs] at hc hk ⊢
  rw [upS_up] at hc
  have hk2 : CoK w W gc gn N ((upS C0 v x) v) { x with n := x.n - 1, Z := x.Z.take (x.n - 1) } (S j) := by rw [hs]; exact hk.any _
  have hr2 := h.rowN hj ho hk2 hr
  rw [upS_up] at hr2
  refine ⟨_, _, _, rfl, hc, hr2, rfl, rfl, fun q => ?_, ?_, fun g cs hg => h.blkK hj ho hk2 hg (by decide) (by decide) (by decide) (by decide) (by decide)⟩
  · have : ¬ 0 < x.n := of_decide_eq_false q
    show x.n - 1 = 0
    omega
  · show x.n - 1 + (if decide (0 < x.n) = true then 1 else 0) ≤ x.n
    by_cases q : 0 < x.n
    · rw [if_pos (decide_eq_true q)]; omega
    · rw [if_neg (by simpa using q)]; omega
end
end Go.Proofs.Ytmbceafeonjffaa

namespace Go.Proofs.Ytmbceafeonjffaa
open Go.RowKit Go.Deep Plain
set_option linter.unusedVariables false
set_option linter.unusedSimpArgs false
set_option maxRecDepth 100000
theorem PnP.calm {n : Nat} {l : List Int} {t : Ps} {s : Option Ps} {full calm over on : Bool} (h : PnP n l t s full calm over on) : PnP n l t s full false over on := by
  rcases h with ⟨h1, h2, h3, h4, h5, h6⟩ | ⟨h1, h2, h3, h4, h5⟩
  · exact .inl ⟨h1, h2, h3, h4, h5, h6.1, fun q => by cases q⟩
  · exact .inr ⟨h1, h2, h3, (fun q => by cases q), h5⟩
/-- the Fill, or the Again of it, that goes on -/
def PhS (N : Nat) (l : List Int) (S : Nat → Sv) (full on : Bool) (s16 s17 : Value) : Prop :=
  (s16 = .pointer none ∧ s17 = .pointer none ∧ S 0 = none ∧ S 1 = none) ∨
  (∃ gt gs t, s16 = .pointer (some ⟨gt, 0, none⟩) ∧ s17 = .pointer none ∧ S 0 = some (gt, some (gs, t)) ∧ S 1 = none ∧ t.tk = 0 ∧ t.rd.length = 32 ∧ PnP N l t none full false false false) ∨
  (∃ g0 gt gs u t, s16 = .pointer (some ⟨g0, 0, none⟩) ∧ s17 = .pointer (some ⟨gt, 0, none⟩) ∧ S 0 = none ∧ S 1 = some (gt, some (gs, u)) ∧ u.tk = 0 ∧ PnP N l t (some u) full false true on)
section
variable {N : Nat} {l l2 : List Int} {S S2 : Nat → Sv} {full on : Bool} {s16 s17 : Value}
theorem PhS.other (h : PhS N l S full on s16 s17) (hc : ChP N l l2) (hn : 0 < N) (e0 : S2 0 = S 0) (e1 : S2 1 = S 1) :
    (s17 = .pointer none ∧ PhS N l2 S2 full on s16 s17) ∨ (∃ gt, s17 = .pointer (some ⟨gt, 0, none⟩) ∧ ∀ af : Bool, (af = false → ¬ ∀ j, j < N → fulF (l2.getD j 0)) → PhS N l2 S2 (full && (on || af)) on s16 s17) := by
  rcases h with ⟨h1, h2, h3, h4⟩ | ⟨gt, gs, t, h1, h2, h3, h4, h5, h6, h7⟩ | ⟨g0, gt, gs, u, t, h1, h2, h3, h4, h5, h6⟩
  · exact .inl ⟨h2, .inl ⟨h1, h2, by rw [e0, h3], by rw [e1, h4]⟩⟩
  · refine .inl ⟨h2, .inr (.inl ⟨gt, gs, t, h1, h2, by rw [e0, h3], by rw [e1, h4], h5, h6, ?_⟩)⟩
    have q := h7.other hc hn true (fun q => by cases q)
    simpa using q
  · refine .inr ⟨gt, h2, fun af ha => .inr (.inr ⟨g0, gt, gs, u, t, h1, h2, by rw [e0, h3], by rw [e1, h4], h5, ?_⟩)⟩
    have q := h6.other hc hn af ha
    simpa using q
end
structure NnV (w0 w : World) (gp gc gn N k ga0 ga1 : Nat) (nh ch : Nat) (Ah : Option Addr) (l : List Int) (C : Nat → Cv) (S : Nat → Sv) (b : Int) (za zb : Nat) : Prop where
  co : CoM w0 w gp gc gn N (k : Int) l 2 3 C o3 S
  ro : CoN w w0.heap.size 2 C Ah nh ch
  g0 : (C 0).ga = ga0
  g1 : (C 1).ga = ga1
  z0 : (C 0).n ≤ za
  b0 : (C 0).bk = none
  z1 : (C 1).n ≤ zb
  wf : WfP N l b
section
variable {w0 w w' : World} {gp gc gn N k ga0 ga1 nh ch za zb : Nat} {Ah : Option Addr} {l l2 : List Int} {C : Nat → Cv} {S S2 : Nat → Sv} {b : Int} {full on : Bool} {s16 s17 : Value}
theorem o30 : o3 0 = 0 := rfl
theorem o31 : o3 1 = 0 := rfl
theorem o32 : o3 2 = 1 := rfl
theorem NnV.below (h : NnV w0 w gp gc gn N k ga0 ga1 nh ch Ah l C S b za zb) (hb : Below w.heap.size w w') : NnV w0 w' gp gc gn N k ga0 ga1 nh ch Ah l C S b za zb := ⟨h.co.below hb, h.ro.below hb, h.g0, h.g1, h.z0, h.b0, h.z1, h.wf⟩
theorem NnV.up (h : NnV w0 w gp gc gn N k ga0 ga1 nh ch Ah l C S b za zb) {b' : Int} {za' zb' : Nat} (h1 : b ≤ b') (h2 : za ≤ za') (h3 : zb ≤ zb') : NnV w0 w gp gc gn N k ga0 ga1 nh ch Ah l C S b' za' zb' := ⟨h.co, h.ro, h.g0, h.g1, Nat.le_trans h.z0 h2, h.b0, Nat.le_trans h.z1 h3, h.wf.mono h1⟩
theorem NnV.fulz (h : NnV w0 w gp gc gn N k ga0 ga1 nh ch Ah l C S b za zb) (q : (freeL N l).length ≠ 0) : ¬ ∀ j, j < N → fulF (l.getD j 0) := fun z => q ((freeI_zero l N).2 z)
/-- the row is another one -/
theorem NnV.held (h : NnV w0 w gp gc gn N k ga0 ga1 nh ch Ah l C S b za zb) {A' : Option Addr} {n' c' : Nat} {zs : List Int} (hk : Keep (ownLs (.slice Ah nh ch)) w w') (hn : OwK w0.heap.size w' A' n' c' zs) (ho : ∀ g, (Value.slice A' n' c').ownBlock = some g → (Value.slice Ah nh ch).ownBlock = some g ∨ w.heap.size ≤ g) : NnV w0 w' gp gc gn N k ga0 ga1 n' c' A' l C S b za zb :=
  ⟨h.co.heldK h.ro hk, h.ro.next h.co hn ho, h.g0, h.g1, h.z0, h.b0, h.z1, h.wf⟩
/-- what a deed of b's leaves -/
def NbR (w0 : World) (gp gc gn N k ga0 ga1 nh ch : Nat) (Ah : Option Addr) (l : List Int) (S : Nat → Sv) (b : Int) (za zb : Nat) (t : Sv) (W : World) : Prop :=
  ∃ l2 C2, NnV w0 W gp gc gn N k ga0 ga1 nh ch Ah l2 C2 (upS S 2 t) (b + 1) za zb ∧ ChP N l l2
theorem NnV.doB {g0 gt : Nat} {q : Option (Nat × Ps)} (h : NnV w0 w gp gc gn N k ga0 ga1 nh ch Ah l C S b za zb) (hS : S 2 = some (gt, q)) (hN : N ≤ 32) (hz : zb ≤ 9000) (hb : b ≤ 4294960000) :
    Calls Try.prog 25 #[.pointer (some ⟨g0, 0, none⟩), .pointer (some ⟨gt, 0, none⟩)] w fun e W => ∃ d : Bool, e = .returned (.bool d) ∧ ∃ t, (d = true → t = none) ∧ (d = false → sgV' t = sgV' (S 2)) ∧ NbR w0 gp gc gn N k ga0 ga1 nh ch Ah l S b za (zb + 32) t W := by
  have hz1 := h.z1
  rcases q with _ | ⟨gs, p⟩
  · refine (h.co.doR (g0 := g0) (v := 1) (j := 2) (by decide) o32 hS).mono ?_
    rintro e W ⟨rfl, hc, hk, _⟩
    have hr := h.co.rowN (v := 1) (j := 2) (by decide) o32 hk h.ro
    rw [show upS C 1 (C 1) = C from upS_self C 1] at hr
    exact ⟨true, rfl, none, (fun _ => rfl), (fun q => by cases q), l, C, ⟨hc, hr, h.g0, h.g1, h.z0, h.b0, by omega, h.wf.mono (by omega)⟩, ChP.refl _ _⟩
  · have hok := ((h.co.ss 2 (by decide) gt _ hS).2.2 gs p rfl).2.ok
    have hch := hok.ch h.wf (by omega)
    refine (h.co.doS (g0 := g0) (v := 1) (j := 2) (by decide) o32 hS hN (by omega)).mono ?_
    rintro e W (⟨rfl, hx, hc, hk⟩ | ⟨rfl, hx, A', n', c', hc, hk, _, _⟩)
    · have hr := h.co.rowN (v := 1) (j := 2) (by decide) o32 hk h.ro
      rw [show upS C 1 (C 1) = C from upS_self C 1] at hr
      exact ⟨false, rfl, some (gt, some (gs, (stpP N l p).2)), (fun q => by cases q), (fun _ => by rw [hS]; rfl), _, C, ⟨hc, hr, h.g0, h.g1, h.z0, h.b0, by omega, hch.wf h.wf⟩, hch⟩
    · have hr := h.co.rowN (v := 1) (j := 2) (by decide) o32 hk h.ro
      have hl := (hc.ca 1 (by decide)).row.len
      have hl0 := (h.co.ca 1 (by decide)).row.len
      have hg := got_len (stpP N l p).2
      refine ⟨true, rfl, none, (fun _ => rfl), (fun q => by cases q), _, _, ⟨hc, hr, ?_, ?_, ?_, ?_, ?_, hch.wf h.wf⟩, hch⟩
      · rw [upS_ne _ _ (by decide)]; exact h.g0
      · rw [upS_same]; exact h.g1
      · rw [upS_ne _ _ (by decide)]; exact h.z0
      · rw [upS_ne _ _ (by decide)]; exact h.b0
      · rw [upS_same] at hl ⊢
        simp only [List.length_append] at hl
        show n' ≤ zb + 32
        omega
theorem NnV.fillB (h : NnV w0 w gp gc gn N k ga0 ga1 nh ch Ah l C S b za zb) (h1 : 1 ≤ N) (hN : N ≤ 32) :
    Calls Try.prog 26 #[.pointer (some ⟨ga1, 0, none⟩)] w fun e W => ∃ gt q, e = .returned (.pointer (some ⟨gt, 0, none⟩)) ∧ NbR w0 gp gc gn N k ga0 ga1 nh ch Ah l S b za (zb + 32) (some (gt, q)) W := by
  have hf := h.co.fill (v := 1) (j := 2) (by decide) o32 h1 hN
  rw [h.g1] at hf
  refine hf.mono ?_
  rintro e W ⟨gt, q, rfl, hc, hb, _⟩
  exact ⟨gt, q, rfl, l, C, ⟨hc, h.ro.below hb, h.g0, h.g1, h.z0, h.b0, by have := h.z1; omega, h.wf.mono (by omega)⟩, ChP.refl _ _⟩
/-- what Put and Flush leave of the cache's length -/
theorem CoV.len {Z2 : List Int} {m j v : Nat} {e : Ending} (h : CoV w0 gp gc gn N (k : Int) l 2 3 C o3 S v j Z2 m w e w') (hv : v < 2) :
    ∃ gt q x, e = .returned (.pointer (some ⟨gt, 0, none⟩)) ∧ (∀ t, (t = none ∨ t = some (gt, q)) → CoM w0 w' gp gc gn N (k : Int) l 2 3 (upS C v x) o3 (upS S j t)) ∧ CoK w w' gc gn N (C v) x (S j) ∧ x.ga = (C v).ga ∧ x.n ≤ Z2.length := by
  obtain ⟨gt, q, x, rfl, hc, hk, hx, hcase⟩ := h
  refine ⟨gt, q, x, rfl, hc, hk, hx, ?_⟩
  have hl := ((hc none (.inl rfl)).ca v hv).row.len
  rw [upS_same] at hl
  rcases hcase with ⟨_, _, hz, _⟩ | ⟨_, _, hz, _⟩
  · rw [hz] at hl; omega
  · rw [hz, List.length_drop] at hl; omega
theorem NnV.putB (h : NnV w0 w gp gc gn N k ga0 ga1 nh ch Ah l C S b za zb) (hS : S 2 = none) (h1 : 1 ≤ N) (hN : N ≤ 32) (hk : k ≤ 32 * N) (hz : zb ≤ 9000) (y : Int) :
    Calls Try.prog 28 #[.pointer (some ⟨ga1, 0, none⟩), .int .i64 y] w fun e W => ∃ v C2, e = .returned v ∧ NnV w0 W gp gc gn N k ga0 ga1 nh ch Ah l C2 S b za (zb + 1) := by
  have hz1 := h.z1
  have hl := (h.co.ca 1 (by decide)).row.len
  have hf := h.co.put (v := 1) (j := 2) (by decide) o32 h1 hN (by omega) (by omega) y
  rw [h.g1] at hf
  refine hf.mono ?_
  intro e W hcv
  obtain ⟨gt, q, x, rfl, hc, hk', hx, hxn⟩ := hcv.len (by decide)
  have hc0 := hc none (.inl rfl)
  rw [show upS S 2 none = S by rw [← hS]; exact upS_self S 2] at hc0
  have hr := h.co.rowN (v := 1) (j := 2) (by decide) o32 hk' h.ro
  refine ⟨_, _, rfl, hc0, hr, ?_, ?_, ?_, ?_, ?_, h.wf⟩
  · rw [upS_ne _ _ (by decide)]; exact h.g0
  · rw [upS_same, hx]; exact h.g1
  · rw [upS_ne _ _ (by decide)]; exact h.z0
  · rw [upS_ne _ _ (by decide)]; exact h.b0
  · rw [upS_same]; rw [List.length_append, hl] at hxn; simp at hxn; omega
theorem NnV.flushB (h : NnV w0 w gp gc gn N k ga0 ga1 nh ch Ah l C S b za zb) (h1 : 1 ≤ N) (hN : N ≤ 32) (hk : k ≤ 32 * N) (hz : zb ≤ 9000) :
    Calls Try.prog 29 #[.pointer (some ⟨ga1, 0, none⟩)] w fun e W => ∃ gt q, e = .returned (.pointer (some ⟨gt, 0, none⟩)) ∧ NbR w0 gp gc gn N k ga0 ga1 nh ch Ah l S b za (zb + 31) (some (gt, q)) W := by
  have hz1 := h.z1
  have hl := (h.co.ca 1 (by decide)).row.len
  have hf := h.co.flush (v := 1) (j := 2) (by decide) o32 h1 hN (by omega) (by omega)
  rw [h.g1] at hf
  refine hf.mono ?_
  intro e W hcv
  obtain ⟨gt, q, x, rfl, hc, hk', hx, hxn⟩ := hcv.len (by decide)
  have hr := h.co.rowN (v := 1) (j := 2) (by decide) o32 hk' h.ro
  refine ⟨gt, q, rfl, l, _, ⟨hc _ (.inr rfl), hr, ?_, ?_, ?_, ?_, ?_, h.wf.mono (by omega)⟩, ChP.refl _ _⟩
  · rw [upS_ne _ _ (by decide)]; exact h.g0
  · rw [upS_same, hx]; exact h.g1
  · rw [upS_ne _ _ (by decide)]; exact h.z0
  · rw [upS_ne _ _ (by decide)]; exact h.b0
  · rw [upS_same]; omega
/-- a Pop of b's, of a's -/
def PopR (w0 : World) (gp gc gn N k ga0 ga1 nh ch : Nat) (Ah : Option Addr) (l : List Int) (C : Nat → Cv) (S : Nat → Sv) (b : Int) (za zb v : Nat) (e : Ending) (W : World) : Prop :=
  ∃ (y : Int) (ok : Bool) (C2 : Nat → Cv), e = .returned (.tuple #[.int .i64 y, .bool ok]) ∧ NnV w0 W gp gc gn N k ga0 ga1 nh ch Ah l C2 S b za zb ∧ (ok = false → (C2 v).n = 0) ∧ (C2 v).n + (if ok = true then 1 else 0) ≤ (C v).n
theorem NnV.popB (h : NnV w0 w gp gc gn N k ga0 ga1 nh ch Ah l C S b za zb) (hz : zb ≤ 9000) :
    Calls Try.prog 27 #[.pointer (some ⟨ga1, 0, none⟩)] w (PopR w0 gp gc gn N k ga0 ga1 nh ch Ah l C S b za zb 1) := by
  have hz1 := h.z1
  have hC : upS C 1 (C 1) = C := upS_self C 1
  have hp := CoM.popN (C0 := C) (x := C 1) (v := 1) (j := 2) (by rw [hC]; exact h.co) (by rw [hC]; exact h.ro) (by decide) o32 (by omega)
  rw [h.g1] at hp
  refine hp.mono ?_
  rintro e W ⟨y, ok, x', rfl, hc, hr, hx, _, h0, hn, _⟩
  refine ⟨y, ok, _, rfl, ⟨hc, hr, ?_, ?_, ?_, ?_, ?_, h.wf⟩, by rw [upS_same]; exact h0, by rw [upS_same]; exact hn⟩
  · rw [upS_ne _ _ (by decide)]; exact h.g0
  · rw [upS_same, hx]; exact h.g1
  · rw [upS_ne _ _ (by decide)]; exact h.z0
  · rw [upS_ne _ _ (by decide)]; exact h.b0
  · rw [upS_same]
    have : x'.n ≤ (C 1).n := Nat.le_trans (Nat.le_add_right _ _) hn
    omega
theorem NnV.popA (h : NnV w0 w gp gc gn N k ga0 ga1 nh ch Ah l C S b za zb) (hz : za ≤ 9000) :
    Calls Try.prog 27 #[.pointer (some ⟨ga0, 0, none⟩)] w (PopR w0 gp gc gn N k ga0 ga1 nh ch Ah l C S b za zb 0) := by
  have hz0 := h.z0
  have hC : upS C 0 (C 0) = C := upS_self C 0
  have hp := CoM.popN (C0 := C) (x := C 0) (v := 0) (j := 0) (by rw [hC]; exact h.co) (by rw [hC]; exact h.ro) (by decide) o30 (by omega)
  rw [h.g0] at hp
  refine hp.mono ?_
  rintro e W ⟨y, ok, x', rfl, hc, hr, hx, hbk, h0, hn, _⟩
  refine ⟨y, ok, _, rfl, ⟨hc, hr, ?_, ?_, ?_, ?_, ?_, h.wf⟩, by rw [upS_same]; exact h0, by rw [upS_same]; exact hn⟩
  · rw [upS_same, hx]; exact h.g0
  · rw [upS_ne _ _ (by decide)]; exact h.g1
  · rw [upS_same]
    have : x'.n ≤ (C 0).n := Nat.le_trans (Nat.le_add_right _ _) hn
    omega
  · rw [upS_same, hbk]; exact h.b0
  · rw [upS_ne _ _ (by decide)]; exact h.z1
/-- b's Step is run -/
theorem NnV.runB {g0 gt : Nat} {q : Option (Nat × Ps)} (h : NnV w0 w gp gc gn N k ga0 ga1 nh ch Ah l C S b za zb) (hS : S 2 = some (gt, q)) (hN : N ≤ 32) (hz : zb ≤ 9000) (hb : b ≤ 4294960000) :
    Calls Try.prog 31 #[.pointer (some ⟨g0, 0, none⟩), .pointer (some ⟨gt, 0, none⟩)] w fun e W => ∃ (q : Int) (l2 : List Int) (C2 : Nat → Cv), e = .returned (.int .i64 q) ∧ NnV w0 W gp gc gn N k ga0 ga1 nh ch Ah l2 C2 (upS S 2 none) (b + 299) za (zb + 32) := by
  have hz1 := h.z1
  refine (h.co.run (g0 := g0) (v := 1) (j := 2) (by decide) o32 hS hN (by omega) h.wf hb).mono ?_
  rintro e W ⟨q, l2, x, rfl, hc, hk, hx, _, hw, hn⟩
  have hr := h.co.rowN (v := 1) (j := 2) (by decide) o32 hk h.ro
  refine ⟨q, l2, _, rfl, hc, hr, ?_, ?_, ?_, ?_, ?_, hw⟩
  · rw [upS_ne _ _ (by decide)]; exact h.g0
  · rw [upS_same, hx]; exact h.g1
  · rw [upS_ne _ _ (by decide)]; exact h.z0
  · rw [upS_ne _ _ (by decide)]; exact h.b0
  · rw [upS_same]; omega
/-- a begins to take -/
theorem NnV.fillA (h : NnV w0 w gp gc gn N k ga0 ga1 nh ch Ah l C S b 0 zb) (h1 : 1 ≤ N) (hN : N ≤ 32) (hS : S 1 = none) :
    Calls Try.prog 26 #[.pointer (some ⟨ga0, 0, none⟩)] w fun e W => ∃ gt t, e = .returned (.pointer (some ⟨gt, 0, none⟩)) ∧ NnV w0 W gp gc gn N k ga0 ga1 nh ch Ah l C (upS S 0 t) b 0 zb ∧ ∀ full on, PhS N l (upS S 0 t) full on (.pointer (some ⟨gt, 0, none⟩)) (.pointer none) := by
  have hc := h.co.ca 0 (by decide)
  have hn0 : (C 0).n = 0 := by have := h.z0; omega
  rw [h.b0, hn0, h.g0] at hc
  refine (fill_take hc h.co.po h1 hN (h.co.bg 0 (by decide)).2).mono ?_
  rintro e W ⟨gt, gs, wd, rfl, hgt, hgs, hwd, _, ht, hs, hb⟩
  refine ⟨gt, some (gt, some (gs, tkP wd N)), rfl, ⟨h.co.reg (v := 0) (j := 0) (by decide) o30 hb hgt (by rw [h.g0]; exact ht) (fun gs' p e => by cases e; exact ⟨hgs, hs⟩), h.ro.below hb, h.g0, h.g1, h.z0, h.b0, h.z1, h.wf⟩, fun full on => .inr (.inl ⟨gt, gs, tkP wd N, rfl, rfl, upS_same _ _ _, by rw [upS_ne _ _ (by decide)]; exact hS, rfl, by simp [tkP], ?_⟩)⟩
  exact (PnP.start N l wd 8 full).calm
end
end Go.Proofs.Ytmbceafeonjffaa

namespace Go.Proofs.Ytmbceafeonjffaa
open Go.RowKit Go.Deep Plain
set_option linter.unusedVariables false
set_option linter.unusedSimpArgs false
set_option maxRecDepth 100000
section
variable {w0 w w' : World} {gp gc gn N k ga0 ga1 nh ch zb : Nat} {Ah : Option Addr} {l l2 : List Int} {C : Nat → Cv} {S S2 : Nat → Sv} {b : Int} {full on : Bool} {s16 s17 : Value}
theorem got_none {s : Ps} (h : s.tk = 0) : gotF s = [] := by unfold gotF; rw [if_pos h]
/-- a's Step is done: what the caches are -/
theorem NnV.aft {A' : Option Addr} {n' c' j gs za : Nat} {t : Sv} {p : Ps} {b' : Int} (h : NnV w0 w gp gc gn N k ga0 ga1 nh ch Ah l C S b 0 zb) (hj : j < 3) (ho : o3 j = 0) (hc : CoM w0 w' gp gc gn N (k : Int) l2 2 3 (upS C 0 ⟨(C 0).ga, homF (C 0).home p, A', n', c', (C 0).Z ++ gotF p, if (C 0).bk = some gs then none else (C 0).bk⟩) o3 (upS S j t))
    (hk : CoK w w' gc gn N (C 0) ⟨(C 0).ga, homF (C 0).home p, A', n', c', (C 0).Z ++ gotF p, if (C 0).bk = some gs then none else (C 0).bk⟩ (S j)) (hw : WfP N l2 b') (hg : (gotF p).length ≤ za) :
    NnV w0 w' gp gc gn N k ga0 ga1 nh ch Ah l2 (upS C 0 ⟨(C 0).ga, homF (C 0).home p, A', n', c', (C 0).Z ++ gotF p, if (C 0).bk = some gs then none else (C 0).bk⟩) (upS S j t) b' za zb := by
  have hr := h.co.rowN (v := 0) (j := j) hj ho hk h.ro
  have hl := (hc.ca 0 (by decide)).row.len
  have hl0 := (h.co.ca 0 (by decide)).row.len
  have hz := h.z0
  refine ⟨hc, hr, ?_, ?_, ?_, ?_, ?_, hw⟩
  · rw [upS_same]; exact h.g0
  · rw [upS_ne _ _ (by decide)]; exact h.g1
  · rw [upS_same] at hl ⊢
    simp only [List.length_append] at hl
    show n' ≤ za
    omega
  · rw [upS_same]
    show (if (C 0).bk = some gs then none else (C 0).bk) = none
    rw [h.b0]; simp
  · rw [upS_ne _ _ (by decide)]; exact h.z1
/-- an Again goes on -/
theorem NnV.doAgain {g0 gt gs : Nat} {u t : Ps} (h : NnV w0 w gp gc gn N k ga0 ga1 nh ch Ah l C S b 0 zb) (hS : S 1 = some (gt, some (gs, u))) (hS0 : S 0 = none) (hu : u.tk = 0) (hP : PnP N l t (some u) full false true on) (hN : N ≤ 32) :
    Calls Try.prog 25 #[.pointer (some ⟨g0, 0, none⟩), .pointer (some ⟨gt, 0, none⟩)] w fun e W => ∃ d : Bool, e = .returned (.bool d) ∧
      (d = false → ∃ S2, NnV w0 W gp gc gn N k ga0 ga1 nh ch Ah l C S2 b 0 zb ∧ S2 2 = S 2 ∧ ∀ q0 : Nat, PhS N l S2 full true (.pointer (some ⟨q0, 0, none⟩)) (.pointer (some ⟨gt, 0, none⟩))) ∧
      (d = true → ∃ C2 S2 ca u2, NnV w0 W gp gc gn N k ga0 ga1 nh ch Ah l C2 S2 b 0 zb ∧ S2 0 = none ∧ S2 1 = none ∧ S2 2 = S 2 ∧ CsB W gt ca (some gs) ∧ StW W gs gc N u2 ∧ (u2.sm = true → full = true)) := by
  have hok := ((h.co.ss 1 (by decide) gt _ hS).2.2 gs u rfl).2.ok
  obtain ⟨_, c1, c2, c3⟩ := hP.compare hok.sm
  have hz := h.z0
  have htk : (stpP N l u).2.tk = 0 := by
    rcases hP with ⟨_, q, _⟩ | ⟨_, _, _, _, q⟩
    · cases q
    · rcases q with ⟨q, _⟩ | ⟨u', q, _, q3, _⟩
      · cases q
      · cases q
        unfold stpP
        rw [q3]
        simp only
        split
        · exact hu
        · split <;> exact hu
  refine (h.co.doS (g0 := g0) (v := 0) (j := 1) (by decide) o31 hS hN (by omega)).mono ?_
  rintro e W (⟨rfl, hx, hc, hk⟩ | ⟨rfl, hx, A', n', c', hc, hk, ht, hs⟩)
  · have hr := h.co.rowN (v := 0) (j := 1) (by decide) o31 hk h.ro
    rw [show upS C 0 (C 0) = C from upS_self C 0] at hr
    rw [c1] at hc
    refine ⟨false, rfl, (fun _ => ⟨_, ⟨hc, hr, h.g0, h.g1, h.z0, h.b0, h.z1, h.wf⟩, upS_ne _ _ (by decide), fun q0 => .inr (.inr ⟨q0, gt, gs, _, t, rfl, rfl, by rw [upS_ne _ _ (by decide)]; exact hS0, upS_same _ _ _, htk, c2 hx⟩)⟩), (fun q => by cases q)⟩
  · rw [c1] at hc
    refine ⟨true, rfl, (fun q => by cases q), fun _ => ⟨_, _, none, _, h.aft (by decide) o31 hc hk h.wf (by rw [got_none htk]; simp), by rw [upS_ne _ _ (by decide)]; exact hS0, upS_same _ _ _, upS_ne _ _ (by decide), ht, hs, (c3 hx).1⟩⟩
/-- a Fill goes on -/
theorem NnV.doOwn {g0 gt gs : Nat} {t : Ps} (h : NnV w0 w gp gc gn N k ga0 ga1 nh ch Ah l C S b 0 zb) (hS : S 0 = some (gt, some (gs, t))) (hS1 : S 1 = none) (htk : t.tk = 0) (hrd : t.rd.length = 32) (hP : PnP N l t none full false false false) (hN : N ≤ 32) (hb : b ≤ 4294960000) :
    Calls Try.prog 25 #[.pointer (some ⟨g0, 0, none⟩), .pointer (some ⟨gt, 0, none⟩)] w fun e W => ∃ d : Bool, e = .returned (.bool d) ∧
      (d = false → ∃ S2, NnV w0 W gp gc gn N k ga0 ga1 nh ch Ah l C S2 b 0 zb ∧ S2 2 = S 2 ∧ ∀ on, PhS N l S2 full on (.pointer (some ⟨gt, 0, none⟩)) (.pointer none)) ∧
      (d = true → ∃ l2 C2 S2 t2, NnV w0 W gp gc gn N k ga0 ga1 nh ch Ah l2 C2 S2 (b + 1) 32 zb ∧ S2 0 = none ∧ S2 1 = none ∧ S2 2 = S 2 ∧ CsB W gt none (some gs) ∧ StW W gs gc N t2 ∧
        (t2.no = true → (C2 0).n = 0 ∧ ∀ f : Bool, (f = false → ¬ ∀ j, j < N → fulF (l2.getD j 0)) → PnP N l2 t2 none f false true false)) := by
  have hok := ((h.co.ss 0 (by decide) gt _ hS).2.2 gs t rfl).2.ok
  have hnx : t.nx = 1 ∨ t.nx = 2 := by
    rcases hP with ⟨_, _, _, _, q, _⟩ | ⟨q, _⟩
    · exact q
    · cases q
  obtain ⟨c1, c2⟩ := hP.take hok.wd hrd hN (hok.tk hnx)
  have hz := h.z0
  have hch := hok.ch h.wf (by omega)
  have hl32 : (stpP N l t).2.rd.length = 32 := by
    have := itP_rd N l t 1
    rw [hrd] at this
    exact this
  have htk2 : (stpP N l t).2.nx ≠ 0 ∨ (stpP N l t).2.no = true → (stpP N l t).2.tk = 0 := by
    have hno : t.no = false := by
      rcases hP with ⟨_, _, _, q, _⟩ | ⟨q, _⟩
      · exact q
      · cases q
    rcases hnx with e | e
    · intro _
      unfold stpP
      rw [e]
      simp only
      split
      · exact htk
      · split <;> exact htk
    · unfold stpP
      rw [e]
      simp only
      split
      · intro q
        rcases q with q | q
        · simp at q
        · simp only at q; rw [hno] at q; cases q
      · intro _; exact htk
  refine (h.co.doS (g0 := g0) (v := 0) (j := 0) (by decide) o30 hS hN (by omega)).mono ?_
  rintro e W (⟨rfl, hx, hc, hk⟩ | ⟨rfl, hx, A', n', c', hc, hk, ht, hs⟩)
  · obtain ⟨d1, d2⟩ := c1 hx
    have hr := h.co.rowN (v := 0) (j := 0) (by decide) o30 hk h.ro
    rw [show upS C 0 (C 0) = C from upS_self C 0] at hr
    rw [d1] at hc
    exact ⟨false, rfl, (fun _ => ⟨_, ⟨hc, hr, h.g0, h.g1, h.z0, h.b0, h.z1, h.wf⟩, upS_ne _ _ (by decide), fun on => .inr (.inl ⟨gt, gs, _, rfl, rfl, upS_same _ _ _, by rw [upS_ne _ _ (by decide)]; exact hS1, htk2 (.inl hx), hl32, d2⟩)⟩), (fun q => by cases q)⟩
  · have hv := h.aft (za := 32) (by decide) o30 hc hk (hch.wf h.wf) (got_len _)
    refine ⟨true, rfl, (fun q => by cases q), fun _ => ⟨_, _, _, _, hv, upS_same _ _ _, by rw [upS_ne _ _ (by decide)]; exact hS1, upS_ne _ _ (by decide), ht, hs, fun hno => ?_⟩⟩
    have hv0 := h.aft (za := 0) (by decide) o30 hc hk (hch.wf h.wf) (by rw [got_none (htk2 (.inr hno))]; simp)
    have hz0 := hv0.z0
    refine ⟨by omega, fun f hf => ?_⟩
    obtain ⟨d1, d2⟩ := c2 hx hno
    rw [d1] at hf ⊢
    exact d2 f hf
/-- the Again begins -/
theorem NnV.again {gt gs : Nat} {t : Ps} {ca : Option Nat} (h : NnV w0 w gp gc gn N k ga0 ga1 nh ch Ah l C S b 0 zb) (hS0 : S 0 = none) (hN : N ≤ 32) (ht : CsB w gt ca (some gs)) (hs : StW w gs gc N t) (hno : t.no = true) :
    Calls Try.prog 34 #[.pointer (some ⟨ga0, 0, none⟩), .pointer (some ⟨gt, 0, none⟩)] w fun e W => ∃ g2 t2, e = .returned (.pointer (some ⟨g2, 0, none⟩)) ∧ NnV w0 W gp gc gn N k ga0 ga1 nh ch Ah l C (upS S 1 t2) b 0 zb ∧ Below w.heap.size w W ∧ ∀ f, PnP N l t none f false true false → PhS N l (upS S 1 t2) f false (.pointer (some ⟨gt, 0, none⟩)) (.pointer (some ⟨g2, 0, none⟩)) := by
  have hc := h.co.ca 0 (by decide)
  rw [h.g0] at hc
  refine (again_yes hc h.co.po hN ht hs hno).mono ?_
  rintro e W ⟨g2, g3, rfl, h2, h3, hcs, hst, hb⟩
  refine ⟨g2, some (g2, some (g3, sameP N t)), rfl, ⟨h.co.reg (v := 0) (j := 1) (by decide) o31 hb h2 (by rw [h.g0]; exact hcs) (fun gs' p e => by cases e; exact ⟨h3, hst⟩), h.ro.below hb, h.g0, h.g1, h.z0, h.b0, h.z1, h.wf⟩, hb, fun f hf => ?_⟩
  exact .inr (.inr ⟨gt, g2, g3, sameP N t, t, rfl, rfl, by rw [upS_ne _ _ (by decide)]; exact hS0, upS_same _ _ _, rfl, hf.same.2⟩)
end
end Go.Proofs.Ytmbceafeonjffaa
