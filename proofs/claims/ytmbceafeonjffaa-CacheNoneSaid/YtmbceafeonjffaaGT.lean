/-
  Several small texts in one: CaY, CaZ. Conditions stand in each theorem.
-/
import Derived.Test.YtmbceafeonjffaaGS
import Derived.Deep.AppendLies
namespace Go.Proofs.Ytmbceafeonjffaa
open Go.RowKit Go.Deep Plain
set_option linter.unusedVariables false
set_option linter.unusedSimpArgs false
set_option maxRecDepth 100000
structure StkX (w0 w : World) (ga gp gc gn N k home : Nat) (A : Option Addr) (n c : Nat) (Am : Option Addr) (nm cm : Nat) (Ah : Option Addr) (nh ch : Nat) (Z M H l : List Int) : Prop where
  po : PoS w gp gc gn N (k : Int) l
  ca : CaS w ga gp home A n c Z none w0.heap.size
  mi : OwJ w0.heap.size w Am nm cm M
  he : OwJ w0.heap.size w Ah nh ch H
  a1 : ApR A n c Am nm cm
  a2 : ApR A n c Ah nh ch
  a3 : ApR Am nm cm Ah nh ch
  be : Below w0.heap.size w0 w
  bg : w0.heap.size ≤ ga ∧ w0.heap.size ≤ gp ∧ w0.heap.size ≤ gc ∧ w0.heap.size ≤ gn
  hm : home < 100000
section
variable {w0 w w' w1 : World} {ga gp gc gn N k home n c nm cm nh ch n' c' : Nat} {A Am Ah A' : Option Addr} {Z M M' H H' l own : List Int} {e : Ending}
theorem StkV.x (h : StkV w0 w ga gp gc gn N k home A n c Am nm cm Ah nh ch Z H l own) : StkX w0 w ga gp gc gn N k home A n c Am nm cm Ah nh ch Z Z H l :=
  ⟨h.po, h.ca, h.mi, h.he, h.a1, h.a2, h.a3, h.be, h.bg, h.hm⟩
theorem StkX.v (h : StkX w0 w ga gp gc gn N k home A n c Am nm cm Ah nh ch Z Z H l) (s : StkP N k l own Z H) : StkV w0 w ga gp gc gn N k home A n c Am nm cm Ah nh ch Z H l own :=
  ⟨h.po, h.ca, h.mi, h.he, s, h.a1, h.a2, h.a3, h.be, h.bg, h.hm⟩
theorem StkX.below (h : StkX w0 w ga gp gc gn N k home A n c Am nm cm Ah nh ch Z M H l) (hb : Below w.heap.size w w') : StkX w0 w' ga gp gc gn N k home A n c Am nm cm Ah nh ch Z M H l :=
  ⟨h.po.below hb, h.ca.below hb, h.mi.below hb, h.he.below hb, h.a1, h.a2, h.a3, bthen h.be hb, h.bg, h.hm⟩
theorem OwJ.own_lt {base : Nat} {zs : List Int} (h : OwJ base w A n c zs) : ∀ g, (Value.slice A n c).ownBlock = some g → g < w.heap.size := fun g hg => by
  obtain ⟨_, _, cur, q⟩ := own_blk h hg
  exact Blk.lt (show Blk w g 3 cur from q)
/-- the row 'mine' is another one -/
theorem StkX.miK (h : StkX w0 w ga gp gc gn N k home A n c Am nm cm Ah nh ch Z M H l) (hr : OwJ w0.heap.size w' A' n' c' M') (hk : Keep (ownLs (.slice Am nm cm)) w w') (ho : ∀ g, (Value.slice A' n' c').ownBlock = some g → (Value.slice Am nm cm).ownBlock = some g ∨ w.heap.size ≤ g) :
    StkX w0 w' ga gp gc gn N k home A n c A' n' c' Ah nh ch Z M' H l := by
  refine ⟨h.po.rowK h.mi hk, h.ca.keep hk (h.mi.out h.ca.st (by decide)) h.a1.mem, hr, h.he.keep hk (h.a3.symm.mem), fun g q1 q2 => ?_, h.a2, fun g q1 q2 => ?_, hk.below h.be (Nat.le_refl _) (ownLs_ge h.mi), h.bg, h.hm⟩
  · rcases ho g q2 with q | q
    · exact h.a1 g q1 q
    · have := h.ca.row.own_lt g q1; omega
  · rcases ho g q1 with q | q
    · exact h.a3 g q q2
    · have := h.he.own_lt g q2; omega
/-- the row 'held' is another one -/
theorem StkX.heK (h : StkX w0 w ga gp gc gn N k home A n c Am nm cm Ah nh ch Z M H l) (hr : OwJ w0.heap.size w' A' n' c' H') (hk : Keep (ownLs (.slice Ah nh ch)) w w') (ho : ∀ g, (Value.slice A' n' c').ownBlock = some g → (Value.slice Ah nh ch).ownBlock = some g ∨ w.heap.size ≤ g) :
    StkX w0 w' ga gp gc gn N k home A n c Am nm cm A' n' c' Z M H' l := by
  refine ⟨h.po.rowK h.he hk, h.ca.keep hk (h.he.out h.ca.st (by decide)) h.a2.mem, h.mi.keep hk h.a3.mem, hr, h.a1, fun g q1 q2 => ?_, fun g q1 q2 => ?_, hk.below h.be (Nat.le_refl _) (ownLs_ge h.he), h.bg, h.hm⟩
  · rcases ho g q2 with q | q
    · exact h.a2 g q1 q
    · have := h.ca.row.own_lt g q1; omega
  · rcases ho g q2 with q | q
    · exact h.a3 g q1 q
    · have := h.mi.own_lt g q1; omega
/-- the cache is another one -/
theorem StkX.caK {bs : List Nat} {home' : Nat} {Z' l' : List Int} (h : StkX w0 w ga gp gc gn N k home A n c Am nm cm Ah nh ch Z M H l) (hp : PoS w' gp gc gn N (k : Int) l') (hc : CaS w' ga gp home' A' n' c' Z' none w0.heap.size) (hh : home' < 100000) (hk : Keep bs w w')
    (hbs : ∀ g ∈ bs, w.heap.size ≤ g ∨ g = gn ∨ g = ga ∨ (Value.slice A n c).ownBlock = some g) (ho : ∀ g, (Value.slice A' n' c').ownBlock = some g → (Value.slice A n c).ownBlock = some g ∨ w.heap.size ≤ g) :
    StkX w0 w' ga gp gc gn N k home' A' n' c' Am nm cm Ah nh ch Z' M H l' := by
  have hN : ∀ {B : Option Addr} {m d : Nat} {zs : List Int}, OwJ w0.heap.size w B m d zs → ApR A n c B m d → ∀ g, (Value.slice B m d).ownBlock = some g → g ∉ bs := fun hj ha g hg hm => by
    rcases hbs g hm with q | q | q | q
    · have := hj.own_lt g hg; omega
    · exact hj.off h.po.cl.nu (by decide) g hg (by simp [q])
    · exact hj.off h.ca.st (by decide) g hg (by simp [q])
    · exact ha g q hg
  refine ⟨hp, hc, h.mi.keep hk (hN h.mi h.a1), h.he.keep hk (hN h.he h.a2), fun g q1 q2 => ?_, fun g q1 q2 => ?_, h.a3, hk.below h.be (Nat.le_refl _) (fun g hg => ?_), h.bg, hh⟩
  · rcases ho g q1 with q | q
    · exact h.a1 g q q2
    · have := h.mi.own_lt g q2; omega
  · rcases ho g q1 with q | q
    · exact h.a2 g q q2
    · have := h.he.own_lt g q2; omega
  · have hz := h.be.size
    rcases hbs g hg with q | q | q | q
    · omega
    · have := h.bg.2.2.2; omega
    · have := h.bg.1; omega
    · exact (own_blk h.ca.row q).1
theorem mem_ownLs {v : Value} {g : Nat} (h : g ∈ ownLs v) : v.ownBlock = some g := by
  unfold ownLs at h
  split at h
  · rename_i b hb
    obtain rfl : g = b := by simpa using h
    exact hb
  · simp at h
/-- what a Put and its run leave -/
def PutOk (w0 : World) (ga gp gc gn N k : Nat) (Am : Option Addr) (nm cm : Nat) (Ah : Option Addr) (nh ch : Nat) (P : List Int → Prop) (M H H' : List Int) (e : Ending) (w' : World) : Prop :=
  ∃ q : Nat, 1 ≤ q ∧ q ≤ 299 ∧ e = .returned (.int .i64 q) ∧ ∃ l' own' A' c' n' home' Zn, P Zn ∧ StkX w0 w' ga gp gc gn N k home' A' n' c' Am nm cm Ah nh ch Zn M H l' ∧ StkP N k l' own' Zn H'
theorem stk_put {g0 : Nat} {x : Int} (h : StkX w0 w ga gp gc gn N k home A n c Am nm cm Ah nh ch Z M H l) (s : StkP N k l own Z (H' ++ [x])) (h1 : 1 ≤ N) (hN : N ≤ 32) (hk : k ≤ 32 * N) (hn : n ≤ 16) (hm : MvOk ga gp gc gn N home (k : Int) A n c (Z ++ [x]) (if n + 1 ≤ 16 then 0 else 8) none w0.heap.size w e w1) :
    ∃ gt, e = .returned (.pointer (some ⟨gt, 0, none⟩)) ∧ Calls Try.prog 31 #[.pointer (some ⟨g0, 0, none⟩), .pointer (some ⟨gt, 0, none⟩)] w1 (PutOk w0 ga gp gc gn N k Am nm cm Ah nh ch (fun Zn => Zn = if n + 1 ≤ 16 then Z ++ [x] else (Z ++ [x]).drop 8) M H H') := by
  obtain ⟨gt, A1, c1, n1, rfl, hgt, hkp, hown, hcase⟩ := hm
  have hl : Z.length = n := h.ca.row.len
  have hs2 := s.push
  have hwz : w0.heap.size ≤ w.heap.size := h.be.size
  have hp1 : PoS w1 gp gc gn N (k : Int) l := h.po.keepC h.ca hkp
  have hw1 := hkp.size
  refine ⟨gt, rfl, ?_⟩
  rcases hcase with ⟨hz, ht, hc⟩ | ⟨_, hz, gb, hgb, ht, hc, hs⟩
  · have h16 : n + 1 ≤ 16 := by
      rcases hz with q | q
      · exact absurd rfl q
      · by_cases z : n + 1 ≤ 16
        · exact z
        · rw [if_neg z] at q; omega
    rw [if_pos h16]
    have hX1 := h.caK (w' := w1) hp1 hc h.hm hkp (fun g hg => (by
      rcases List.mem_cons.1 hg with q | q
      · exact .inr (.inr (.inl q))
      · exact .inr (.inr (.inr (mem_ownLs q))))) hown
    refine (cRun_rest (g0 := g0) hc ht).mono ?_
    rintro e w2 ⟨rfl, ht2, hk2⟩
    refine ⟨1, by omega, by omega, rfl, l, _, A1, c1, n1, home, Z ++ [x], rfl, ?_, hs2⟩
    have hc2 : CaS w2 ga gp home A1 n1 c1 (Z ++ [x]) none w0.heap.size := hc.keep hk2 (by simpa using fun q => blkT ht hc.st (by decide) q.symm) (hc.row.off ht (by decide))
    exact h.caK (hp1.oneK ht (by decide) (by decide) (by decide) hk2) hc2 h.hm ((hkp.mono (cs := gt :: ga :: ownLs (.slice A n c)) (fun g hg => List.mem_cons_of_mem _ hg)).trans (hk2.mono (by simp))) (fun g hg => (by
      rcases List.mem_cons.1 hg with q | q
      · left; omega
      · rcases List.mem_cons.1 q with q | q
        · exact .inr (.inr (.inl q))
        · exact .inr (.inr (.inr (mem_ownLs q))))) hown
  · have h16 : ¬ n + 1 ≤ 16 := fun q => by rw [if_pos q] at hz; omega
    rw [if_neg h16] at hs hc ⊢
    have hn1 : n1 = 9 := by
      have := hc.row.len
      rw [List.length_drop, List.length_append, hl] at this
      simp at this
      omega
    have hst : StkP N k l (own.set x.toNat 1) ((Z ++ [x]).take 8 ++ (Z ++ [x]).drop 8) H' := by rw [List.take_append_drop]; exact hs2
    refine (stk_back (g0 := g0) hc hp1 ht hs h1 hN hk (by omega) h.hm (Nat.le_trans hwz hw1) hst (by rw [List.length_take, List.length_append, hl]; simp; omega)).mono ?_
    rintro e w2 ⟨q, q1, q2, rfl, hk2, l', own', Z', A2, c2, n2, home2, rfl, hh2, hp2, hc2, hst2, hown2⟩
    refine ⟨q, q1, q2, rfl, l', own', A2, c2, n2, home2, _, rfl, ?_, hst2⟩
    refine h.caK (bs := gt :: gn :: gb :: ga :: (ownLs (.slice A1 n1 c1) ++ ownLs (.slice A n c))) hp2 hc2 hh2 ((hkp.mono (by intro g hg; simp only [List.mem_cons, List.mem_append] at hg ⊢; rcases hg with q | q; exact .inr (.inr (.inr (.inl q))); exact .inr (.inr (.inr (.inr (.inr q)))))).trans (hk2.mono (by intro g hg; simp only [List.mem_cons, List.mem_append] at hg ⊢; rcases hg with q | q | q | q | q; exact .inl q; exact .inr (.inl q); exact .inr (.inr (.inl q)); exact .inr (.inr (.inr (.inl q))); exact .inr (.inr (.inr (.inr (.inl q)))))))
      (fun g hg => ?_) (fun g hg => ?_)
    · simp only [List.mem_cons, List.mem_append] at hg
      rcases hg with q | q | q | q | q | q
      · left; omega
      · exact .inr (.inl q)
      · left; omega
      · exact .inr (.inr (.inl q))
      · rcases hown g (mem_ownLs q) with z | z
        · exact .inr (.inr (.inr z))
        · exact .inl z
      · exact .inr (.inr (.inr (mem_ownLs q)))
    · rcases hown2 g hg with q | q
      · exact hown g q
      · right; omega
/-- a Fill that has nothing to do, and its run -/
theorem stk_fill0 {g0 : Nat} (h : StkX w0 w ga gp gc gn N k home A n c Am nm cm Ah nh ch Z M H l) (s : StkP N k l own Z H) (hf : RestOk ga w e w1) :
    ∃ gt, e = .returned (.pointer (some ⟨gt, 0, none⟩)) ∧ Calls Try.prog 31 #[.pointer (some ⟨g0, 0, none⟩), .pointer (some ⟨gt, 0, none⟩)] w1 (PutOk w0 ga gp gc gn N k Am nm cm Ah nh ch (fun Zn => Zn = Z) M H H) := by
  obtain ⟨gt, rfl, hgt, ht, hb⟩ := hf
  refine ⟨gt, rfl, ?_⟩
  have h1 := h.below hb
  refine (cRun_rest (g0 := g0) h1.ca ht).mono ?_
  rintro e w2 ⟨rfl, ht2, hk2⟩
  refine ⟨1, by omega, by omega, rfl, l, own, A, c, n, home, Z, rfl, ?_, s⟩
  have hc2 : CaS w2 ga gp home A n c Z none w0.heap.size := h1.ca.keep hk2 (by simpa using fun q => blkT ht h1.ca.st (by decide) q.symm) (h1.ca.row.off ht (by decide))
  exact h.caK (h1.po.oneK ht (by decide) (by decide) (by decide) hk2) hc2 h.hm ((Keep.of_below (bs := [gt]) hb).trans hk2) (fun g hg => (by
    rw [List.mem_singleton] at hg; left; omega)) (fun g q => .inl q)
/-- a Fill that takes, and its run -/
theorem stk_fill1 {g0 : Nat} (h : StkX w0 w ga gp gc gn N k home A 0 c Am nm cm Ah nh ch [] M H l) (s : StkP N k l own [] H) (h1 : 1 ≤ N) (hN : N ≤ 32) (hk : k ≤ 32 * N) (hf : FillOk ga gc N home w e w1) :
    ∃ gt, e = .returned (.pointer (some ⟨gt, 0, none⟩)) ∧ Calls Try.prog 31 #[.pointer (some ⟨g0, 0, none⟩), .pointer (some ⟨gt, 0, none⟩)] w1 (PutOk w0 ga gp gc gn N k Am nm cm Ah nh ch (fun Zn => Zn.length ≤ 8) M H H) := by
  obtain ⟨gt, gs, wd, rfl, hgt, hgs, hwd, hwe, ht, hst, hb⟩ := hf
  refine ⟨gt, rfl, ?_⟩
  have hx := h.below hb
  refine (stk_fill (g0 := g0) hx.ca hx.po ht hst hN hk h.hm hx.be.size s).mono ?_
  rintro e w2 ⟨q, q1, q2, rfl, hk2, l', own', Z', A2, c2, n2, home2, hz, hh2, hp2, hc2, hst2, hown2⟩
  refine ⟨q, q1, q2, rfl, l', own', A2, c2, n2, home2, Z', hz, ?_, hst2⟩
  refine h.caK hp2 hc2 hh2 ((Keep.of_below hb).trans hk2) (fun g hg => ?_) (fun g hg => ?_)
  · simp only [List.mem_cons] at hg
    rcases hg with q | q | q | q | q
    · left; omega
    · exact .inr (.inl q)
    · left; omega
    · exact .inr (.inr (.inl q))
    · exact .inr (.inr (.inr (mem_ownLs q)))
  · rcases hown2 g hg with q | q
    · exact .inl q
    · right
      have := hb.size
      omega
end
end Go.Proofs.Ytmbceafeonjffaa

namespace Go.Proofs.Ytmbceafeonjffaa
open Go.RowKit Go.Deep Plain
set_option linter.unusedVariables false
set_option linter.unusedSimpArgs false
set_option maxRecDepth 100000
/-- one more at a row's end, in a region that draws its order -/
theorem step_addJ {w : World} {base n c : Nat} {A : Option Addr} {zs : List Int} {ops : Array Oper} {o : Oper} {a : Act} {K : Act → World → Prop} {Q : Exit → Act → World → Prop} {E : Prop} (hgd : o.guard = none) (sx xx : Operand)
    (ho : o.op = .call { callee := .builtin .append, args := #[sx, xx], argTypes := #[29, 29] })
    (hs : a.eval sx = .slice A n c) (hI : OwJ base w A n c zs) (hbase : base ≤ w.heap.size) (v : Int) (hn : n ≤ 900000) {H : Nat} (hx : a.eval xx = .slice (some ⟨H, 0, none⟩) 1 1) (hH : Blk w H 3 #[.int .i64 v])
    (h : ∀ A' c' w', OwJ base w' A' (n + 1) c' (zs ++ [v]) → Keep (ownLs (.slice A n c)) w w' → (∀ g, (Value.slice A' (n + 1) c').ownBlock = some g → (Value.slice A n c).ownBlock = some g ∨ w.heap.size ≤ g) → K (a.put o.dst (.slice A' (n + 1) c')) w') :
    if Region.wanted o (yielded ops a.tmps) = true then Oper.wp Try.prog o a w K Q else E := by
  obtain ⟨i, hi, hz, hsz, hb⟩ := info_parts infoInt
  refine step_append_lies w hgd sx xx 29 ho base 3 i (.int .i64 0) 1 8 Try.underlying29 hi hz hsz hb rfl (by decide) (.slice A n c) n (iv zs) hs hI ⟨H, 0, none⟩ 1 1 [.int .i64 v] hx rfl (World.news_of_block (cs := #[.int .i64 v]) hH) (by intro u hu; simp at hu; subst hu; rfl) (by decide) (by unfold maxLen; omega) (by omega) hbase w.heap.size rfl ?_
  intro g cap w' how hg hgo hlt
  refine h (some ⟨g, 0, none⟩) cap w' (by unfold OwJ; rw [iv_app]; exact how) (Keep.owns hg) (fun q hq => ?_)
  have : q = g := by simpa [Value.ownBlock] using hq.symm
  subst this
  rcases hgo with z | z
  · exact .inl z
  · right; omega
section
variable {w0 w w' w1 : World} {ga gp gc gn N k home n c nm cm nh ch n' c' m : Nat} {A Am Ah A' : Option Addr} {Z M M' H H' l own : List Int} {e : Ending}
theorem own_any_len (m c' : Nat) (A : Option Addr) (n c : Nat) : (Value.slice A m c').ownBlock = (Value.slice A n c).ownBlock := by cases A <;> rfl
theorem StkX.heLess (h : StkX w0 w ga gp gc gn N k home A n c Am nm cm Ah nh ch Z M H l) (hm : m ≤ nh) : StkX w0 w ga gp gc gn N k home A n c Am nm cm Ah m ch Z M (H.take m) l :=
  ⟨h.po, h.ca, h.mi, h.he.less hm, h.a1, fun g q1 q2 => h.a2 g q1 (by rw [own_any_len m ch Ah nh ch] at q2; exact q2), fun g q1 q2 => h.a3 g q1 (by rw [own_any_len m ch Ah nh ch] at q2; exact q2), h.be, h.bg, h.hm⟩
theorem StkX.miLess (h : StkX w0 w ga gp gc gn N k home A n c Am nm cm Ah nh ch Z M H l) (hm : m ≤ nm) : StkX w0 w ga gp gc gn N k home A n c Am m cm Ah nh ch Z (M.take m) H l :=
  ⟨h.po, h.ca, h.mi.less hm, h.he, fun g q1 q2 => h.a1 g q1 (by rw [own_any_len m cm Am nm cm] at q2; exact q2), h.a2, fun g q1 q2 => h.a3 g (by rw [own_any_len m cm Am nm cm] at q1; exact q1) q2, h.be, h.bg, h.hm⟩
/-- the row 'mine' is laid anew -/
theorem StkX.miNew (h : StkX w0 w ga gp gc gn N k home A n c Am nm cm Ah nh ch Z M H l) (hr : OwJ w0.heap.size w' A' n' c' M') (hb : Below w.heap.size w w') (ho : ∀ g, (Value.slice A' n' c').ownBlock = some g → w.heap.size ≤ g) :
    StkX w0 w' ga gp gc gn N k home A n c A' n' c' Ah nh ch Z M' H l := by
  have h2 := h.below hb
  refine ⟨h2.po, h2.ca, hr, h2.he, fun g q1 q2 => ?_, h.a2, fun g q1 q2 => ?_, h2.be, h.bg, h.hm⟩
  · have := h.ca.row.own_lt g q1; have := ho g q2; omega
  · have := h.he.own_lt g q2; have := ho g q1; omega
theorem StkX.miNew2 (h : StkX w0 w ga gp gc gn N k home A n c Am nm cm Ah nh ch Z M H l) (hr : OwJ w.heap.size w' A' n' c' M') (hb : Below w.heap.size w w1) (hk : Keep (ownLs (.slice (some ⟨w.heap.size, 0, none⟩) 0 0)) w1 w') :
    StkX w0 w' ga gp gc gn N k home A n c A' n' c' Ah nh ch Z M' H l :=
  h.miNew (hr.lower h.be.size) (hk.below hb (Nat.le_refl _) (fun x hx => by simp [ownLs, Value.ownBlock] at hx; omega)) (fun g hg => (own_blk hr hg).1)
theorem PutOk.imp {P Q : List Int → Prop} (hPQ : ∀ Zn, P Zn → Q Zn) (h : PutOk w0 ga gp gc gn N k Am nm cm Ah nh ch P M H H' e w) : PutOk w0 ga gp gc gn N k Am nm cm Ah nh ch Q M H H' e w := by
  obtain ⟨q, q1, q2, he, l', own', A', c', n', home', Zn, hz, hx, hs⟩ := h
  exact ⟨q, q1, q2, he, l', own', A', c', n', home', Zn, hPQ _ hz, hx, hs⟩
/-- a Fill and its run, whatever stands there -/
def FilOk (g0 : Nat) (w0 : World) (ga gp gc gn N k n : Nat) (Am : Option Addr) (nm cm : Nat) (Ah : Option Addr) (nh ch : Nat) (Z M H : List Int) (e : Ending) (w1 : World) : Prop :=
  ∃ gt, e = .returned (.pointer (some ⟨gt, 0, none⟩)) ∧ Calls Try.prog 31 #[.pointer (some ⟨g0, 0, none⟩), .pointer (some ⟨gt, 0, none⟩)] w1 (PutOk w0 ga gp gc gn N k Am nm cm Ah nh ch (fun Zn => (0 < n → Zn = Z) ∧ Zn.length ≤ 16) M H H)
theorem stk_fillAny {g0 : Nat} (h : StkX w0 w ga gp gc gn N k home A n c Am nm cm Ah nh ch Z M H l) (s : StkP N k l own Z H) (h1 : 1 ≤ N) (hN : N ≤ 32) (hk : k ≤ 32 * N) (hz : Z.length ≤ 16) :
    Calls Try.prog 26 #[.pointer (some ⟨ga, 0, none⟩)] w (FilOk g0 w0 ga gp gc gn N k n Am nm cm Ah nh ch Z M H) := by
  have hl := h.ca.row.len
  by_cases h0 : n = 0
  · subst h0
    obtain rfl : Z = [] := List.length_eq_zero_iff.1 hl
    refine (fill_take h.ca h.po h1 hN h.hm).mono fun e w1 hf => ?_
    obtain ⟨gt, he, hr⟩ := stk_fill1 (g0 := g0) h s h1 hN hk hf
    exact ⟨gt, he, hr.mono fun _ _ q => q.imp (fun Zn hz => ⟨fun q => absurd q (by omega), Nat.le_trans hz (by decide)⟩)⟩
  · refine (fill_rest h.ca (.inr (by omega))).mono fun e w1 hf => ?_
    obtain ⟨gt, he, hr⟩ := stk_fill0 (g0 := g0) h s hf
    exact ⟨gt, he, hr.mono fun _ _ q => q.imp (fun Zn e => ⟨fun _ => e, by rw [e]; exact hz⟩)⟩
theorem StkX.pop (h : StkX w0 w ga gp gc gn N k home A n c Am nm cm Ah nh ch Z M H l) (hc : CaS w' ga gp home A m c Z.dropLast none w0.heap.size) (hk : Keep [ga] w w') : StkX w0 w' ga gp gc gn N k home A m c Am nm cm Ah nh ch Z.dropLast M H l :=
  h.caK (h.po.oneK h.ca.st (by decide) (by decide) (by decide) hk) hc h.hm hk (fun g hg => by rw [List.mem_singleton] at hg; exact .inr (.inr (.inl hg))) (fun g q => .inl (by rw [own_any_len m c A n c] at q; exact q))
theorem StkX.drewN (h : StkX w0 w ga gp gc gn N k home A n c Am nm cm Ah nh ch Z M H l) (q : Nat) : StkX w0 (w.drewN q) ga gp gc gn N k home A n c Am nm cm Ah nh ch Z M H l := h.below (bdrewN w q)
/-- an element of such a row -/
theorem OwJ.at (h : OwJ m w A n c Z) {i : Nat} (hi : i < n) : ∃ g, A = some ⟨g, 0, none⟩ ∧ w.cell? ⟨g, i, none⟩ = some (.int .i64 (Z.getD i 0)) := by
  have hl := h.len
  obtain ⟨g, off, rfl, hg, hc⟩ := h.rd.rd (by omega)
  have hoff : off = 0 := by
    rcases h.shape with ⟨e, _⟩ | ⟨g', cur, e, _⟩
    · cases e
    · injection e with e; injection e
  subst hoff
  have := hc i (by omega)
  rw [Nat.zero_add] at this
  exact ⟨g, rfl, this⟩
theorem last_of {L : List Int} {n m : Nat} (hl : L.length = n) (hm : n = m + 1) : ∃ L' x, L = L' ++ [x] ∧ L'.length = m ∧ L.getD m 0 = x ∧ L.take m = L' := by
  have hne : L ≠ [] := fun e => by rw [e] at hl; simp at hl; omega
  refine ⟨L.dropLast, L.getLast hne, (List.dropLast_concat_getLast hne).symm, by simp; omega, ?_, ?_⟩
  · rw [List.getLast_eq_getElem]
    have : L.length - 1 = m := by omega
    simp [List.getD, this, show m < L.length by omega]
  · rw [List.dropLast_eq_take]
    congr 1; omega
end
end Go.Proofs.Ytmbceafeonjffaa
