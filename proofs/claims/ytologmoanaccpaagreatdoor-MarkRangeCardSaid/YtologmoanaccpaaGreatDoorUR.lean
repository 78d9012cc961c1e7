/-
  met: claims can be met where no set of claims is short
  math of the reference's Assign: one beast after another
  the first assignment, one beast after another
  the reference's Assign 50
  met for all lists; which owner serves a beast
  the reference's Assign 50: the inner loop's question
-/
import Derived.Test.YtologmoanaccpaaGreatDoorUM
import Derived.Test.YtologmoanaccpaaGreatDoorBK
namespace Go.Proofs.YtologmoanaccpaaGreatDoor
set_option linter.all false
open Go.RowKit Go.Shelf

theorem metR_iff {ms : List Mk} {fs : List Fd} {day : Int} {found : List Sg} {cls : List Cl} (g : GoodS ms fs found cls) : metR ms fs day found cls = true ↔ ∀ x : PS (clN cls), shB (fitsN ms fs day found cls) (wtL cls) x.1 = false := by
  unfold metR
  rw [List.all_eq_true]
  constructor
  · intro h x
    obtain ⟨S, hS, hR⟩ := ex_S x.2.2
    have := h S (List.mem_range.2 hS)
    rw [sh_sh g.hok g.hfo g.hcl g.hmk g.hc g.hn hR g.hs] at this
    simpa using this
  · intro h S _
    obtain ⟨P, hP⟩ := ex_P g.hc g.hn S
    rw [sh_sh g.hok g.hfo g.hcl g.hmk g.hc g.hn hP g.hs]
    by_cases hz : P = 0
    · rw [hz, shB_zero (clN_41 g.hc) (clN_0 g.hc)]; rfl
    · rw [h ⟨P, hz, hP.1⟩]; rfl
/-- the code's search says of every hearing that lies in memory: it can be met, or there is a shortage -/
theorem hall_at {A B C D : Option Addr} {n c m d p q u v : Nat} {ms : List Mk} {fs : List Fd} {day : Int} {found : List Sg} {cls : List Cl} {w : World} (hs : SmA w A n c ms B m d fs) (hfo : SlA sgV 6 Sg.ok w C p q found) (hcl : SlA clC 2 Cl.ok w D u v cls) (hE : EnvT w) (h0 : chE ms fs day found cls = 0) : (∃ ow, FirstA (fitsN ms fs day found cls) (clN cls) (wtL cls) ow) ∨ ShA (fitsN ms fs day found cls) (clN cls) (wtL cls) := by
  obtain ⟨e, w', _, ⟨⟨h1, _⟩ | ⟨_, ⟨hb, ow, _, _, h2, _⟩ | ⟨_, h2⟩⟩, _⟩, _⟩ := assign_any A B C D n c m d p q u v ms fs day found cls w hs hfo hcl hE []
  · exact absurd h0 h1
  · exact .inl ⟨ow, h2⟩
  · exact .inr h2
theorem metR_first {A B C D : Option Addr} {n c m d p q u v : Nat} {ms : List Mk} {fs : List Fd} {day : Int} {found : List Sg} {cls : List Cl} {w : World} (hs : SmA w A n c ms B m d fs) (hfo : SlA sgV 6 Sg.ok w C p q found) (hcl : SlA clC 2 Cl.ok w D u v cls) (hE : EnvT w) (h0 : chE ms fs day found cls = 0) : metR ms fs day found cls = true ↔ ∃ ow, MetA (fitsN ms fs day found cls) (clN cls) (wtL cls) ow := by
  have g := GoodS.of h0 hs.1.2.2.2.1 hs.2.2.2.2.1 hfo.2.2.2.1
  rw [metR_iff g]
  constructor
  · intro h
    rcases hall_at hs hfo hcl hE h0 with ⟨ow, h1⟩ | h1
    · exact ⟨ow, h1.1⟩
    · obtain ⟨x, hx⟩ := sh_some h1 (clN_41 g.hc) (clN_0 g.hc) fitsN_cl
      rw [h x] at hx
      cases hx
  · rintro ⟨ow, h1⟩ x
    exact met_shB h1 (clN_41 g.hc) (clN_0 g.hc) x.2.2
/-- less of an owner: his wants by one, all else as it was -/
theorem lsC_own (cls : List Cl) (k : Nat) : (lsC cls k).map Cl.own = cls.map Cl.own := by
  unfold lsC
  cases h : cls[k]? with
  | none => rfl
  | some x =>
    simp only
    rw [List.map_set]
    apply List.ext_getElem?
    intro i
    by_cases hi : k = i
    · subst hi
      have hl := (List.getElem?_eq_some_iff.1 h).1
      rw [List.getElem?_set_self (by rw [List.length_map]; exact hl), List.getElem?_map, h]
      rfl
    · rw [List.getElem?_set_ne hi]
theorem clN_map (l : List Cl) : clN l = (l.map Cl.own).foldl (fun a x => a ||| 2 ^ x.toNat) 0 := by
  unfold clN
  rw [List.foldl_map]
theorem lsC_clN (cls : List Cl) (k : Nat) : clN (lsC cls k) = clN cls := by rw [clN_map, clN_map, lsC_own]
theorem lsC_fits (ms : List Mk) (fs : List Fd) (day : Int) (found : List Sg) (cls : List Cl) (k : Nat) : fitsN ms fs day found (lsC cls k) = fitsN ms fs day found cls := by unfold fitsN; rw [lsC_clN]
end Go.Proofs.YtologmoanaccpaaGreatDoor

namespace Go.Proofs.YtologmoanaccpaaGreatDoor
set_option linter.all false
open Go.RowKit Go.Shelf

theorem lsC_at {cls : List Cl} {k : Nat} {x : Cl} (h : cls[k]? = some x) : lsC cls k = cls.set k ⟨x.own, x.num - 1⟩ := by unfold lsC; rw [h]
theorem lsC_cl {cls : List Cl} {k : Nat} {x : Cl} (h : cls[k]? = some x) (hp : 0 < x.num) (hc : ∀ c ∈ cls, claimB c = true) : ∀ c ∈ lsC cls k, claimB c = true := by
  intro c hm
  rw [lsC_at h] at hm
  rcases List.mem_or_eq_of_mem_set hm with h1 | h1
  · exact hc c h1
  · subst h1
    have := claim_bd (hc x (List.mem_of_getElem? h))
    unfold claimB
    rw [Bool.and_eq_true, inB_iff, inB_iff]
    dsimp only
    omega
theorem lsC_wc {cls : List Cl} {k : Nat} {x : Cl} (h : cls[k]? = some x) (hp : 0 < x.num) (hc : ∀ c ∈ cls, claimB c = true) (hn : (cls.map Cl.own).Nodup) (q : Nat) : wc (clN cls) (wtL (lsC cls k)) q = wc (clN cls) (wtL cls) q - if q = x.own.toNat then 1 else 0 := by
  have hc' := lsC_cl h hp hc
  have hn' : ((lsC cls k).map Cl.own).Nodup := by rw [lsC_own]; exact hn
  have hxm := List.mem_of_getElem? h
  by_cases hq : ∃ c ∈ cls, c.own.toNat = q
  · obtain ⟨c, hm, he⟩ := hq
    obtain ⟨j, hj⟩ := List.getElem?_of_mem hm
    subst he
    have e1 := wc_own hc hn hm
    rw [e1]
    by_cases hjk : k = j
    · subst hjk
      rw [h] at hj
      cases hj
      have hm2 : (⟨x.own, x.num - 1⟩ : Cl) ∈ lsC cls k := by
        rw [lsC_at h]
        exact List.mem_of_getElem? (i := k) (by rw [List.getElem?_set_self (List.getElem?_eq_some_iff.1 h).1])
      have e2 := wc_own hc' hn' hm2
      rw [lsC_clN] at e2
      dsimp only at e2
      rw [e2, if_pos rfl]
    · have hm2 : c ∈ lsC cls k := by
        rw [lsC_at h]
        exact List.mem_of_getElem? (i := j) (by rw [List.getElem?_set_ne hjk]; exact hj)
      have e2 := wc_own hc' hn' hm2
      rw [lsC_clN] at e2
      rw [e2, if_neg, Int.sub_zero]
      intro e
      have f1 := cmX_own hn hj
      have f2 := cmX_own hn h
      have b1 := (claim_bd (hc c hm)).1
      have b2 := (claim_bd (hc x hxm)).1
      rw [show c.own = x.own by omega, f2] at f1
      exact hjk (Option.some.inj f1)
  · have hb : (clN cls).testBit q = false := by
      rw [clN_bit, List.any_eq_false]
      intro c hm
      simpa using fun e => hq ⟨c, hm, e⟩
    unfold wc
    rw [hb, if_neg (by simp), if_neg (by simp), if_neg (fun e => hq ⟨x, hxm, e.symm⟩), Int.sub_zero]
def MetB (fits : List Nat) (g : Nat → Int) (ow : List Int) : Prop := SkV fits ow ∧ ∀ o : Nat, 1 ≤ o → o ≤ 40 → ((ow.count (o : Int) : Nat) : Int) = g o
theorem metB_A {fits : List Nat} {cl : Nat} {wt ow : List Int} : MetA fits cl wt ow ↔ MetB fits (wc cl wt) ow := Iff.rfl
theorem skV_cons {f : Nat} {fits : List Nat} {y : Int} {ow : List Int} : SkV (f :: fits) (y :: ow) ↔ (y = 0 ∨ (1 ≤ y ∧ y ≤ 40 ∧ f.testBit y.toNat = true)) ∧ SkV fits ow := by
  unfold SkV
  constructor
  · rintro ⟨hl, h⟩
    refine ⟨?_, by simpa using hl, fun b x hb hx => ?_⟩
    · by_cases hy : y = 0
      · exact .inl hy
      · obtain ⟨h1, h2, g, hg, h3⟩ := h 0 y rfl hy
        cases hg
        exact .inr ⟨h1, h2, h3⟩
    · exact h (b + 1) x hb hx
  · rintro ⟨hy, hl, h⟩
    refine ⟨by simpa using hl, fun b x hb hx => ?_⟩
    cases b with
    | zero =>
      cases hb
      rcases hy with hy | ⟨h1, h2, h3⟩
      · exact absurd hy hx
      · exact ⟨h1, h2, f, rfl, h3⟩
    | succ b => exact h b x hb hx
theorem metB_cons {f : Nat} {fits : List Nat} {g : Nat → Int} {y : Int} {ow : List Int} : MetB (f :: fits) g (y :: ow) ↔ (y = 0 ∧ MetB fits g ow) ∨ (1 ≤ y ∧ y ≤ 40 ∧ f.testBit y.toNat = true ∧ MetB fits (fun q => g q - if q = y.toNat then 1 else 0) ow) := by
  unfold MetB
  rw [skV_cons]
  constructor
  · rintro ⟨⟨hy, hs⟩, hc⟩
    by_cases h0 : y = 0
    · refine .inl ⟨h0, hs, fun o h1 h2 => ?_⟩
      have := hc o h1 h2
      rw [List.count_cons, if_neg (by simp; omega)] at this
      simpa using this
    · rcases hy with hy | ⟨h1, h2, h3⟩
      · exact absurd hy h0
      · refine .inr ⟨h1, h2, h3, hs, fun o h4 h5 => ?_⟩
        have := hc o h4 h5
        rw [List.count_cons] at this
        dsimp only
        by_cases ho : o = y.toNat
        · rw [if_pos (by simp; omega)] at this
          rw [if_pos ho]
          omega
        · rw [if_neg (by simp; omega)] at this
          rw [if_neg ho]
          omega
  · rintro (⟨h0, hs, hc⟩ | ⟨h1, h2, h3, hs, hc⟩)
    · refine ⟨⟨.inl h0, hs⟩, fun o h4 h5 => ?_⟩
      rw [List.count_cons, if_neg (by simp; omega)]
      simpa using hc o h4 h5
    · refine ⟨⟨.inr ⟨h1, h2, h3⟩, hs⟩, fun o h4 h5 => ?_⟩
      have := hc o h4 h5
      dsimp only at this
      rw [List.count_cons]
      by_cases ho : o = y.toNat
      · rw [if_pos (by simp; omega)]
        rw [if_pos ho] at this
        omega
      · rw [if_neg (by simp; omega)]
        rw [if_neg ho] at this
        omega
end Go.Proofs.YtologmoanaccpaaGreatDoor

namespace Go.Proofs.YtologmoanaccpaaGreatDoor
set_option linter.all false
open Go.RowKit Go.Shelf

def FirstB (fits : List Nat) (g : Nat → Int) (ow : List Int) : Prop := MetB fits g ow ∧ ∀ ow', MetB fits g ow' → ow' = ow ∨ LexLt ow ow'
theorem lex_cons {x : Int} {p q : List Int} (h : LexLt (x :: p) (x :: q)) : LexLt p q := by
  obtain ⟨i, h1, a, b, h2, h3, h4⟩ := h
  cases i with
  | zero =>
    cases h2
    cases h3
    omega
  | succ i => exact ⟨i, fun j hj => h1 (j + 1) (by omega), a, b, h2, h3, h4⟩
theorem lex_head {x y : Int} {p q : List Int} (h : LexLt (x :: p) (y :: q)) : x ≤ y := by
  obtain ⟨i, h1, a, b, h2, h3, h4⟩ := h
  cases i with
  | zero =>
    cases h2
    cases h3
    omega
  | succ i =>
    have := h1 0 (by omega)
    cases this
    omega
theorem firstB_nil {g : Nat → Int} {ow : List Int} (h : FirstB [] g ow) : ow = [] := List.length_eq_zero_iff.1 h.1.1.1
theorem firstB_zero {f : Nat} {fits : List Nat} {g : Nat → Int} {y : Int} {t : List Int} (h : FirstB (f :: fits) g (y :: t)) (he : ∃ t', MetB fits g t') : y = 0 ∧ FirstB fits g t := by
  obtain ⟨t', ht'⟩ := he
  have hy : y = 0 := by
    have h0 : y = 0 ∨ 1 ≤ y := by
      rcases metB_cons.1 h.1 with ⟨h1, _⟩ | ⟨h1, _⟩
      · exact .inl h1
      · exact .inr h1
    rcases h.2 (0 :: t') (metB_cons.2 (.inl ⟨rfl, ht'⟩)) with h1 | h1
    · cases h1; rfl
    · have := lex_head h1
      omega
  subst hy
  refine ⟨rfl, ?_, fun ow' hm => ?_⟩
  · rcases metB_cons.1 h.1 with ⟨_, h1⟩ | ⟨h1, _⟩
    · exact h1
    · omega
  · rcases h.2 (0 :: ow') (metB_cons.2 (.inl ⟨rfl, hm⟩)) with h1 | h1
    · exact .inl (List.cons.inj h1).2
    · exact .inr (lex_cons h1)
theorem firstB_pos {f : Nat} {fits : List Nat} {g : Nat → Int} {y : Int} {t : List Int} (h : FirstB (f :: fits) g (y :: t)) (he : ¬ ∃ t', MetB fits g t') : (1 ≤ y ∧ y ≤ 40 ∧ f.testBit y.toNat = true) ∧ FirstB fits (fun q => g q - if q = y.toNat then 1 else 0) t ∧ ∀ z : Int, 1 ≤ z → z < y → f.testBit z.toNat = true → ¬ ∃ t', MetB fits (fun q => g q - if q = z.toNat then 1 else 0) t' := by
  rcases metB_cons.1 h.1 with ⟨_, h1⟩ | ⟨h1, h2, h3, h4⟩
  · exact absurd ⟨t, h1⟩ he
  refine ⟨⟨h1, h2, h3⟩, ⟨h4, fun ow' hm => ?_⟩, fun z hz1 hz2 hz3 => ?_⟩
  · rcases h.2 (y :: ow') (metB_cons.2 (.inr ⟨h1, h2, h3, hm⟩)) with h5 | h5
    · exact .inl (List.cons.inj h5).2
    · exact .inr (lex_cons h5)
  · rintro ⟨t', ht'⟩
    rcases h.2 (z :: t') (metB_cons.2 (.inr ⟨hz1, by omega, hz3, ht'⟩)) with h5 | h5
    · have := (List.cons.inj h5).1
      omega
    · have := lex_head h5
      omega
end Go.Proofs.YtologmoanaccpaaGreatDoor

namespace Go.Proofs.YtologmoanaccpaaGreatDoor
set_option linter.all false
open Go.RowKit Go.Shelf

theorem sla_drop {α : Type} {enc : α → List Value} {k : Nat} {ok : α → Prop} {w : World} {b off n c i : Nat} {xs : List α} (h : SlA enc k ok w (some ⟨b, off, none⟩) n c xs) (hi : i ≤ n) : SlA enc k ok w (some ⟨b, off + i * k, none⟩) (n - i) (c - i) (xs.drop i) := by
  refine ⟨by rw [List.length_drop, h.1], by have := h.2.1; omega, by have := h.2.2.1; omega, fun x hx => h.2.2.2.1 x (List.mem_of_mem_drop hx), fun h0 => ⟨b, off + i * k, rfl, fun j x hx t v hv => ?_⟩⟩
  obtain ⟨b', off', e, ht⟩ := h.2.2.2.2 (by omega)
  cases e
  rw [List.getElem?_drop] at hx
  have := ht (i + j) x hx t v hv
  rwa [show off + (i + j) * k + t = off + i * k + j * k + t by rw [Nat.add_mul]; omega] at this
theorem lex_two {p q : List Int} (h : LexLt p q) (k : LexLt q p) : False := lex_irrefl h k
theorem first_one {fits : List Nat} {cl : Nat} {wt ow ow' : List Int} (h : FirstA fits cl wt ow) (h' : FirstA fits cl wt ow') : ow = ow' := by
  rcases h.2 ow' h'.1 with h1 | h1
  · exact h1.symm
  · rcases h'.2 ow h.1 with h2 | h2
    · exact h2
    · exact (lex_two h1 h2).elim
theorem firstA_B {fits : List Nat} {cl : Nat} {wt ow : List Int} : FirstA fits cl wt ow ↔ FirstB fits (wc cl wt) ow := Iff.rfl
/-- what stays true of the claims that are left -/
structure LeftA (cls L : List Cl) : Prop where
  (ow : L.map Cl.own = cls.map Cl.own) (cl : ∀ c ∈ L, claimB c = true)
theorem LeftA.len {cls L : List Cl} (h : LeftA cls L) : L.length = cls.length := by
  have := congrArg List.length h.ow
  simpa using this
theorem LeftA.clN {cls L : List Cl} (h : LeftA cls L) : clN L = clN cls := by rw [clN_map, clN_map, h.ow]
theorem LeftA.step {cls L : List Cl} (h : LeftA cls L) {k : Nat} {x : Cl} (hx : L[k]? = some x) (hp : 0 < x.num) : LeftA cls (lsC L k) := ⟨by rw [lsC_own]; exact h.ow, lsC_cl hx hp h.cl⟩
theorem LeftA.chE {ms : List Mk} {fs : List Fd} {day : Int} {found rest : List Sg} {cls L : List Cl} (h : LeftA cls L) (h0 : chE ms fs day found cls = 0) (hr : rest.length ≤ found.length) (hm : ∀ s ∈ rest, s ∈ found) : Go.Proofs.YtologmoanaccpaaGreatDoor.chE ms fs day rest L = 0 := by
  unfold Go.Proofs.YtologmoanaccpaaGreatDoor.chE at h0 ⊢
  obtain ⟨h1, h2, h3, h4⟩ := fstE_four h0
  have h5 : fnE rest = 0 := by
    unfold fnE at h3 ⊢
    by_cases h6 : 60 < found.length
    · rw [if_pos h6] at h3; cases h3
    · rw [if_neg h6] at h3
      rw [if_neg (by omega)]
      have h7 : found.all sightB = true := by
        cases e : found.all sightB
        · rw [e] at h3; cases h3
        · rfl
      have h8 : rest.all sightB = true := by
        rw [List.all_eq_true] at h7 ⊢
        exact fun s hs => h7 s (hm s hs)
      rw [h8]
      rw [h7] at h3
      exact h3
  have h6 : clE L = 0 := by
    obtain ⟨h7, h8, h9⟩ := cl_ok h4
    unfold clE
    rw [if_neg (by rw [h.len]; omega), if_pos (List.all_eq_true.2 h.cl), if_neg]
    rw [h.ow]
    unfold repB
    simpa using h9
  rw [h1, h2, h5, h6]
  rfl
end Go.Proofs.YtologmoanaccpaaGreatDoor

namespace Go.Proofs.YtologmoanaccpaaGreatDoor
set_option linter.all false
open Go.RowKit Go.Shelf

theorem sla_new {α : Type} {enc : α → List Value} {k : Nat} {ok : α → Prop} (hk : ∀ x, (enc x).length = k) (w : World) (t : TypeId) (xs : List α) (ho : ∀ x ∈ xs, ok x) (hl : xs.length ≤ 1000) : SlA enc k ok (w.alloc (.cells (xs.flatMap enc).toArray t)) (some ⟨w.heap.size, 0, none⟩) xs.length xs.length xs :=
  ⟨rfl, Nat.le_refl _, by omega, ho, fun _ => ⟨w.heap.size, 0, rfl, fun i x hx j v hv => by
    rw [Nat.zero_add]
    exact (RowC.new w (xs.flatMap enc) t (i * k + j) v (flat_at hk xs i x j v hx hv)).1⟩⟩
theorem cl_i64 {c : Cl} (h : claimB c = true) : c.ok := by
  have := claim_bd h
  unfold Cl.ok i64
  omega
theorem metR_all {A B : Option Addr} {n c m d : Nat} {ms : List Mk} {fs : List Fd} {day : Int} {found : List Sg} {cls : List Cl} {w : World} (hs : SmA w A n c ms B m d fs) (hE : EnvT w) (hso : ∀ s ∈ found, s.ok) (h0 : chE ms fs day found cls = 0) : metR ms fs day found cls = true ↔ ∃ ow, MetA (fitsN ms fs day found cls) (clN cls) (wtL cls) ow := by
  obtain ⟨hl1, hl2, hc⟩ := ch_sizes h0
  have s1 := sla_new (ok := Sg.ok) (show ∀ s : Sg, (sgV s).length = 6 from fun _ => rfl) w 39 found hso (by omega)
  have k1 : Kept w (w.alloc (.cells (found.flatMap sgV).toArray 39)) := (Kept.refl w).alloc _
  have s2 := sla_new (ok := Cl.ok) clC_two (w.alloc (.cells (found.flatMap sgV).toArray 39)) 94 cls (fun c hm => cl_i64 (hc c hm)) (by omega)
  have k2 : Kept (w.alloc (.cells (found.flatMap sgV).toArray 39)) ((w.alloc (.cells (found.flatMap sgV).toArray 39)).alloc (.cells (cls.flatMap clC).toArray 94)) := (Kept.refl _).alloc _
  exact metR_first (hs.kept (k1.trans k2)) (s1.kept k2) s2 (hE.kept (k1.trans k2)) h0
/-- whether an owner serves a beast, the claims that are left and the beasts behind it -/
def srvB (ms : List Mk) (fs : List Fd) (day : Int) (rest : List Sg) (L : List Cl) (s : Sg) (z : Int) : Bool := match cmX L z with
  | some k => (match L[k]? with | some x => decide (0 < x.num) | none => false) && (fitR ms fs day s z && metR ms fs day rest (lsC L k))
  | none => false
theorem srv_iff {A B : Option Addr} {n c m d : Nat} {ms : List Mk} {fs : List Fd} {day : Int} {found rest : List Sg} {cls L : List Cl} {w : World} {s : Sg} (hs : SmA w A n c ms B m d fs) (hE : EnvT w) (g : GoodS ms fs found cls) (h0 : chE ms fs day found cls = 0) (hL : LeftA cls L) (hsf : s ∈ found) (hrl : rest.length ≤ found.length) (hrm : ∀ s ∈ rest, s ∈ found) (z : Int) (hz1 : 1 ≤ z) (hz2 : z ≤ 40) : srvB ms fs day rest L s z = true ↔ ((ownD ms fs day s &&& clN cls).testBit z.toNat = true ∧ ∃ t, MetB (fitsN ms fs day rest cls) (fun q => wc (clN cls) (wtL L) q - if q = z.toNat then 1 else 0) t) := by
  have hnL : (L.map Cl.own).Nodup := by rw [hL.ow]; exact g.hn
  have hro : ∀ s ∈ rest, s.ok := fun s h => g.hs s (hrm s h)
  have hfr : ∀ L', clN L' = clN cls → fitsN ms fs day rest L' = fitsN ms fs day rest cls := fun L' h => by unfold fitsN; rw [h]
  have hbit : ∀ (k : Nat) (x : Cl), L[k]? = some x → x.own = z → (ownD ms fs day s &&& clN cls).testBit z.toNat = fitR ms fs day s z := fun k x hx he => by
    have hm := List.mem_of_getElem? hx
    rw [Nat.testBit_and, ownD_bit g.hcl g.hmk, ← hL.clN, clN_bit, show (L.any fun c => decide (c.own.toNat = z.toNat)) = true from List.any_eq_true.2 ⟨x, hm, by simp [he]⟩, Bool.and_true, ← fitR_O g.hok g.hfo (g.hs s hsf), show ((z.toNat : Nat) : Int) = z by omega]
  have hmet : ∀ (k : Nat) (x : Cl), L[k]? = some x → x.own = z → 0 < x.num → (metR ms fs day rest (lsC L k) = true ↔ ∃ t, MetB (fitsN ms fs day rest cls) (fun q => wc (clN cls) (wtL L) q - if q = z.toNat then 1 else 0) t) := fun k x hx he hp => by
    have hL' := hL.step hx hp
    rw [metR_all hs hE hro (hL'.chE h0 hrl hrm), hfr _ hL'.clN]
    have hfun : wc (clN (lsC L k)) (wtL (lsC L k)) = fun q => wc (clN cls) (wtL L) q - if q = z.toNat then 1 else 0 := by
      funext q
      rw [lsC_clN, lsC_wc hx hp hL.cl hnL q, hL.clN, he]
    constructor
    · rintro ⟨ow, h⟩
      rw [metB_A, hfun] at h
      exact ⟨ow, h⟩
    · rintro ⟨ow, h⟩
      refine ⟨ow, ?_⟩
      rw [metB_A, hfun]
      exact h
  unfold srvB
  cases hr : cmX L z with
  | some k =>
    obtain ⟨x, hx, he⟩ := cmX_get hr
    simp only
    rw [hx]
    simp only
    rw [Bool.and_eq_true, Bool.and_eq_true, decide_eq_true_eq]
    constructor
    · rintro ⟨hp, hf, hm⟩
      exact ⟨by rw [hbit k x hx he]; exact hf, (hmet k x hx he hp).1 hm⟩
    · rintro ⟨hf, t, ht⟩
      have hp : 0 < x.num := by
        have h1 := ht.2 z.toNat (by omega) (by omega)
        dsimp only at h1
        rw [if_pos rfl] at h1
        have h2 := wc_own hL.cl hnL (List.mem_of_getElem? hx)
        rw [he, hL.clN] at h2
        omega
      exact ⟨hp, by rw [← hbit k x hx he]; exact hf, (hmet k x hx he hp).2 ⟨t, ht⟩⟩
  | none =>
    have hno := cmX_no hr
    constructor
    · intro h; cases h
    · rintro ⟨hf, _⟩
      rw [Nat.testBit_and, Bool.and_eq_true, ← hL.clN, clN_bit, List.any_eq_true] at hf
      obtain ⟨x, hx, he⟩ := hf.2
      have he : x.own.toNat = z.toNat := by simpa using he
      exact absurd (own_cl hL.cl hx (by omega) he) (hno x hx)
end Go.Proofs.YtologmoanaccpaaGreatDoor

namespace Go.Proofs.YtologmoanaccpaaGreatDoor
set_option linter.all false
open Go.RowKit Go.Shelf

def RaP (w : World) (ms : List Mk) (fs : List Fd) (day : Int) (found : List Sg) (cls : List Cl) (e : Ending) (w' : World) : Prop :=
  ((chE ms fs day found cls ≠ 0 ∧ e = .returned (.tuple #[.slice none 0 0, .bool false, .int .i64 (chE ms fs day found cls)])) ∨
   (chE ms fs day found cls = 0 ∧ ((ShA (fitsN ms fs day found cls) (clN cls) (wtL cls) ∧ e = .returned (.tuple #[.slice none 0 0, .bool false, .int .i64 0])) ∨
     (∃ ow A n c, FirstA (fitsN ms fs day found cls) (clN cls) (wtL cls) ow ∧ e = .returned (.tuple #[.slice A n c, .bool true, .int .i64 0]) ∧ IntA w' A n c ow)))) ∧ Kept w w'
theorem RaP.no {w : World} {ms : List Mk} {fs : List Fd} {day : Int} {found : List Sg} {cls : List Cl} {e : Ending} {w' : World} (E : Int) (h : chE ms fs day found cls = E) (h0 : E ≠ 0) (he : e = .returned (.tuple #[.slice none 0 0, .bool false, .int .i64 E])) (hk : Kept w w') : RaP w ms fs day found cls e w' :=
  ⟨.inl ⟨by rw [h]; exact h0, by rw [h]; exact he⟩, hk⟩
/-- the state of the outer loop -/
structure AsI (w W0 : World) (ms : List Mk) (fs : List Fd) (day : Int) (found : List Sg) (cls : List Cl) (ow : List Int) (i : Nat) (u cap : Nat) (L : List Cl) (DA : Option Addr) (o : Value) (W : World) : Prop where
  (sl : SlA clC 2 Cl.ok W DA u cap L) (lf : LeftA cls L) (out : W.ownsRow W0.heap.size 3 1 o i ((ow.take i).flatMap inC))
  (first : FirstB ((fitsN ms fs day found cls).drop i) (wc (clN cls) (wtL L)) (ow.drop i)) (kept : Kept W0 W)
theorem AsI.zero {w W0 : World} {ms : List Mk} {fs : List Fd} {day : Int} {found : List Sg} {cls : List Cl} {ow : List Int} {i u cap : Nat} {L : List Cl} {DA : Option Addr} {o : Value} {W W' : World} (h : AsI w W0 ms fs day found cls ow i u cap L DA o W) {s : Sg} {y : Int} {t : List Int} (ht : ow.drop i = y :: t) (hs : found[i]? = some s) : (fitsN ms fs day found cls).drop i = (ownD ms fs day s &&& clN cls) :: fitsN ms fs day (found.drop (i + 1)) cls ∧ t = ow.drop (i + 1) ∧ ow.take (i + 1) = ow.take i ++ [y] ∧ ow[i]? = some y := by
  have hl := (List.getElem?_eq_some_iff.1 hs)
  obtain ⟨hl1, hl2⟩ := hl
  have hy : ow[i]? = some y := by
    have : (ow.drop i)[0]? = some y := by rw [ht]; rfl
    rwa [List.getElem?_drop, Nat.add_zero] at this
  refine ⟨?_, ?_, ?_, hy⟩
  · unfold fitsN
    rw [← List.map_drop, List.drop_eq_getElem_cons hl1, hl2, List.map_cons]
  · have := congrArg (List.drop 1) ht
    rw [List.drop_drop] at this
    simpa using this.symm
  · rw [take_snoc' hy]
/-- the question of the inner loop says which owner comes first -/
theorem srv_dec {A B : Option Addr} {n c m d : Nat} {ms : List Mk} {fs : List Fd} {day : Int} {found rest : List Sg} {cls L : List Cl} {w : World} {s : Sg} (hs : SmA w A n c ms B m d fs) (hE : EnvT w) (g : GoodS ms fs found cls) (h0 : chE ms fs day found cls = 0) (hL : LeftA cls L) (hsf : s ∈ found) (hrl : rest.length ≤ found.length) (hrm : ∀ s ∈ rest, s ∈ found) {y : Int} {t : List Int} (hf : FirstB ((ownD ms fs day s &&& clN cls) :: fitsN ms fs day rest cls) (wc (clN cls) (wtL L)) (y :: t)) (hn : metR ms fs day rest L = false) : (1 ≤ y ∧ y ≤ 40) ∧ FirstB (fitsN ms fs day rest cls) (fun q => wc (clN cls) (wtL L) q - if q = y.toNat then 1 else 0) t ∧ ∀ z : Int, 1 ≤ z → z ≤ y → srvB ms fs day rest L s z = decide (z = y) := by
  have hne : ¬ ∃ t', MetB (fitsN ms fs day rest cls) (wc (clN cls) (wtL L)) t' := by
    rintro ⟨t', ht'⟩
    have h1 := (metR_all (day := day) hs hE (fun s h => g.hs s (hrm s h)) (hL.chE h0 hrl hrm)).2 ⟨t', by
      rw [metB_A, hL.clN, show fitsN ms fs day rest L = fitsN ms fs day rest cls by unfold fitsN; rw [hL.clN]]
      exact ht'⟩
    rw [hn] at h1
    cases h1
  obtain ⟨⟨h1, h2, h3⟩, h4, h5⟩ := firstB_pos hf hne
  refine ⟨⟨h1, h2⟩, h4, fun z hz1 hz2 => ?_⟩
  rw [Bool.eq_iff_iff, srv_iff hs hE g h0 hL hsf hrl hrm z hz1 (by omega), decide_eq_true_eq]
  constructor
  · rintro ⟨h6, h7⟩
    by_cases hzy : z = y
    · exact hzy
    · exact absurd h7 (h5 z hz1 (by omega) h6)
  · rintro rfl
    exact ⟨h3, t, h4.1⟩
/-- one beast goes to its owner -/
theorem first_less {ms : List Mk} {fs : List Fd} {day : Int} {found rest : List Sg} {cls L : List Cl} {s : Sg} {y : Int} {t : List Int} (hL : LeftA cls L) (hn : (cls.map Cl.own).Nodup) (hsv : srvB ms fs day rest L s y = true) (hf : FirstB (fitsN ms fs day rest cls) (fun q => wc (clN cls) (wtL L) q - if q = y.toNat then 1 else 0) t) : ∃ k x, cmX L y = some k ∧ L[k]? = some x ∧ 0 < x.num ∧ LeftA cls (lsC L k) ∧ FirstB (fitsN ms fs day rest cls) (wc (clN cls) (wtL (lsC L k))) t := by
  unfold srvB at hsv
  cases hr : cmX L y with
  | none => rw [hr] at hsv; cases hsv
  | some k =>
    obtain ⟨x, hx, he⟩ := cmX_get hr
    rw [hr] at hsv
    simp only at hsv
    rw [hx] at hsv
    simp only at hsv
    rw [Bool.and_eq_true, decide_eq_true_eq] at hsv
    refine ⟨k, x, rfl, hx, hsv.1, hL.step hx hsv.1, ?_⟩
    have hnL : (L.map Cl.own).Nodup := by rw [hL.ow]; exact hn
    have hfun : wc (clN cls) (wtL (lsC L k)) = fun q => wc (clN cls) (wtL L) q - if q = y.toNat then 1 else 0 := by
      funext q
      have := lsC_wc hx hsv.1 hL.cl hnL q
      rw [hL.clN, he] at this
      exact this
    rw [hfun]
    exact hf
end Go.Proofs.YtologmoanaccpaaGreatDoor
