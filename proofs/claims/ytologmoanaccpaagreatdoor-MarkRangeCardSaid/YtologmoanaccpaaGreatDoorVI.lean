/-
  math of MarkSure: an assignment without one beast
  the law's helper without 70
-/
import Derived.Test.YtologmoanaccpaaGreatDoorUR
import Derived.Test.YtologmoanaccpaaGreatDoorBK
import Derived.Test.YtologmoanaccpaaGreatDoorVA
namespace Go.Proofs.YtologmoanaccpaaGreatDoor
set_option linter.all false
open Go.RowKit Go.Shelf

theorem met_shG {ms : List Mk} {fs : List Fd} {day : Int} {found : List Sg} {cls : List Cl} (g : GoodS ms fs found cls) {ow : List Int} (hm : MetA (fitsN ms fs day found cls) (clN cls) (wtL cls) ow) (hs : ShA (fitsN ms fs day found cls) (clN cls) (wtL cls)) : False := by
  obtain ⟨x, hx⟩ := sh_some hs (clN_41 g.hc) (clN_0 g.hc) fitsN_cl
  rw [met_shB hm (clN_41 g.hc) (clN_0 g.hc) x.2.2] at hx
  cases hx
def erL {α : Type} (l : List α) (i : Nat) : List α := l.take i ++ l.drop (i + 1)
theorem erL_at {α : Type} (l : List α) (i b : Nat) (hi : i < l.length) : (erL l i)[b]? = if b < i then l[b]? else l[b + 1]? := by
  unfold erL
  rw [← List.eraseIdx_eq_take_drop_succ, List.getElem?_eraseIdx]
theorem erL_len {α : Type} (l : List α) (i : Nat) (hi : i < l.length) : (erL l i).length = l.length - 1 := by
  unfold erL
  rw [List.length_append, List.length_take, List.length_drop]
  omega
theorem erL_mem {α : Type} {l : List α} {i : Nat} {x : α} (h : x ∈ erL l i) : x ∈ l := by
  unfold erL at h
  rcases List.mem_append.1 h with h | h
  · exact List.mem_of_mem_take h
  · exact List.mem_of_mem_drop h
theorem erL_split {α : Type} {l : List α} {i : Nat} {y : α} (h : l[i]? = some y) : l = l.take i ++ y :: l.drop (i + 1) := by
  obtain ⟨h1, h2⟩ := List.getElem?_eq_some_iff.1 h
  conv => lhs; rw [← List.take_append_drop i l, List.drop_eq_getElem_cons h1, h2]
theorem erL_count {ow : List Int} {i : Nat} {y : Int} (h : ow[i]? = some y) (o : Int) : (((erL ow i).count o : Nat) : Int) = ((ow.count o : Nat) : Int) - if o = y then 1 else 0 := by
  have e : ow.count o = (erL ow i).count o + if y = o then 1 else 0 := by
    conv => lhs; rw [erL_split h]
    unfold erL
    rw [List.count_append, List.count_append, List.count_cons]
    simp only [beq_iff_eq]
    omega
  rw [e]
  by_cases hy : o = y
  · rw [if_pos hy.symm, if_pos hy]; omega
  · rw [if_neg (fun h => hy h.symm), if_neg hy]; omega
theorem skV_erase {fits : List Nat} {ow : List Int} (h : SkV fits ow) {i : Nat} (hi : i < ow.length) : SkV (erL fits i) (erL ow i) := by
  have hl := h.1
  refine ⟨by rw [erL_len _ _ hi, erL_len _ _ (by omega), hl], fun b x hb hx => ?_⟩
  rw [erL_at _ _ _ hi] at hb
  split at hb
  · rename_i hbi
    obtain ⟨h1, h2, f, hf, h3⟩ := h.2 b x hb hx
    exact ⟨h1, h2, f, by rw [erL_at _ _ _ (by omega), if_pos hbi]; exact hf, h3⟩
  · rename_i hbi
    obtain ⟨h1, h2, f, hf, h3⟩ := h.2 (b + 1) x hb hx
    exact ⟨h1, h2, f, by rw [erL_at _ _ _ (by omega), if_neg hbi]; exact hf, h3⟩
theorem metB_erase {fits : List Nat} {g : Nat → Int} {ow : List Int} (h : MetB fits g ow) {i : Nat} {y : Int} (hy : ow[i]? = some y) : MetB (erL fits i) (fun q => g q - if ((q : Nat) : Int) = y then 1 else 0) (erL ow i) :=
  ⟨skV_erase h.1 (List.getElem?_eq_some_iff.1 hy).1, fun o h1 h2 => by rw [erL_count hy, h.2 o h1 h2]⟩
theorem fitsN_erase (ms : List Mk) (fs : List Fd) (day : Int) (found : List Sg) (cls : List Cl) (i : Nat) : fitsN ms fs day (erL found i) cls = erL (fitsN ms fs day found cls) i := by
  unfold fitsN erL
  rw [List.map_append, List.map_take, List.map_drop]
theorem metA_nobody {ms : List Mk} {fs : List Fd} {day : Int} {found : List Sg} {cls : List Cl} {ow : List Int} (h : MetA (fitsN ms fs day found cls) (clN cls) (wtL cls) ow) {i : Nat} (hy : ow[i]? = some 0) : MetA (fitsN ms fs day (erL found i) cls) (clN cls) (wtL cls) (erL ow i) := by
  have h1 := metB_erase (metB_A.1 h) hy
  rw [metB_A, fitsN_erase]
  refine ⟨h1.1, fun o h2 h3 => ?_⟩
  have := h1.2 o h2 h3
  dsimp only at this
  rw [if_neg (by omega)] at this
  omega
theorem metA_other {ms : List Mk} {fs : List Fd} {day : Int} {found : List Sg} {cls : List Cl} {ow : List Int} (g : GoodS ms fs found cls) (h : MetA (fitsN ms fs day found cls) (clN cls) (wtL cls) ow) {i : Nat} {y : Int} {s : Sg} (hy : ow[i]? = some y) (hs : found[i]? = some s) (hn : y ≠ 0) : ∃ k c, cls[k]? = some c ∧ c.own = y ∧ 0 < c.num ∧ (ownD ms fs day s).testBit y.toNat = true ∧ MetA (fitsN ms fs day (erL found i) (lsC cls k)) (clN (lsC cls k)) (wtL (lsC cls k)) (erL ow i) := by
  obtain ⟨h1, h2, f, hf, hb⟩ := h.1.2 i y hy hn
  unfold fitsN at hf
  rw [List.getElem?_map, hs] at hf
  cases hf
  rw [Nat.testBit_and, Bool.and_eq_true, clN_bit, List.any_eq_true] at hb
  obtain ⟨hb1, c, hc, he⟩ := hb
  have he : c.own.toNat = y.toNat := by simpa using he
  have hco := own_cl g.hc hc (x := y) (by omega) he
  obtain ⟨k, hk⟩ := List.getElem?_of_mem hc
  have hnum : 0 < c.num := by
    have h3 := h.2 y.toNat (by omega) (by omega)
    have h4 := wc_own g.hc g.hn hc
    rw [hco] at h4
    rw [h4, show ((y.toNat : Nat) : Int) = y by omega] at h3
    have : 0 < ow.count y := List.count_pos_iff.2 (List.mem_of_getElem? hy)
    omega
  refine ⟨k, c, hk, hco, hnum, hb1, ?_⟩
  have h5 := metB_erase (metB_A.1 h) hy
  rw [metB_A, lsC_fits, fitsN_erase]
  refine ⟨h5.1, fun o h6 h7 => ?_⟩
  have := h5.2 o h6 h7
  dsimp only at this
  rw [this, lsC_clN, lsC_wc hk hnum g.hc g.hn o, hco]
  by_cases ho : ((o : Nat) : Int) = y
  · rw [if_pos ho, if_pos (by omega)]
  · rw [if_neg ho, if_neg (by omega)]
theorem chE_erase {ms : List Mk} {fs : List Fd} {day : Int} {found : List Sg} {cls L : List Cl} (h0 : chE ms fs day found cls = 0) (hL : LeftA cls L) (i : Nat) : chE ms fs day (erL found i) L = 0 :=
  hL.chE h0 (by unfold erL; rw [List.length_append, List.length_take, List.length_drop]; omega) (fun s h => erL_mem (i := i) h)
theorem leftA_refl {ms : List Mk} {fs : List Fd} {day : Int} {found : List Sg} {cls : List Cl} (h0 : chE ms fs day found cls = 0) : LeftA cls cls := ⟨rfl, (ch_sizes h0).2.2⟩
/-- what Assign says: yes where there is an assignment -/
theorem AsP.or {w w' : World} {ms : List Mk} {fs : List Fd} {day : Int} {found : List Sg} {cls : List Cl} {p : Nat} {e : Ending} (g : GoodS ms fs found cls) (h0 : chE ms fs day found cls = 0) (h : AsP w ms fs day found cls p e w') : ∃ A n c b, e = .returned (.tuple #[.slice A n c, .bool b, .int .i64 0]) ∧ Kept w w' ∧ ((∃ ow, MetA (fitsN ms fs day found cls) (clN cls) (wtL cls) ow) ↔ b = true) := by
  obtain ⟨⟨h2, _⟩ | ⟨_, ⟨hb, ow', he, hr, hf, _⟩ | ⟨he, h2⟩⟩, hk⟩ := h
  · exact absurd h0 h2
  · exact ⟨_, _, _, true, he, hk, fun _ => rfl, fun _ => ⟨ow', hf.1⟩⟩
  · exact ⟨_, _, _, false, he, hk, fun ⟨ow, h3⟩ => (met_shG g h3 h2).elim, fun h => by cases h⟩
theorem goodS_erase {ms : List Mk} {fs : List Fd} {found : List Sg} {cls : List Cl} (g : GoodS ms fs found cls) (i : Nat) : GoodS ms fs (erL found i) cls := ⟨g.hok, g.hfo, g.hcl, g.hmk, g.hc, g.hn, fun s h => g.hs s (erL_mem (i := i) h)⟩
theorem met_shF {fits : List Nat} {cl : Nat} {wt ow : List Int} (h41 : cl < 2 ^ 41) (hc0 : cl.testBit 0 = false) (hsub : ∀ f ∈ fits, ∀ q, f.testBit q = true → cl.testBit q = true) (hm : MetA fits cl wt ow) (hs : ShA fits cl wt) : False := by
  obtain ⟨x, hx⟩ := sh_some hs h41 hc0 hsub
  rw [met_shB hm h41 hc0 x.2.2] at hx
  cases hx
theorem off_at {fits : List Nat} {i b : Nat} {v f : Nat} (h : (fits.set i v)[b]? = some f) : (b = i ∧ f = v) ∨ (b ≠ i ∧ fits[b]? = some f) := by
  by_cases hb : i = b
  · subst hb
    have hl := (List.getElem?_eq_some_iff.1 h).1
    rw [List.length_set] at hl
    rw [List.getElem?_set_self hl] at h
    exact .inl ⟨rfl, (Option.some.inj h).symm⟩
  · rw [List.getElem?_set_ne hb] at h
    exact .inr ⟨fun e => hb e.symm, h⟩
theorem fit_64 {fits : List Nat} {cl : Nat} (h41 : cl < 2 ^ 41) (hsub : ∀ f ∈ fits, ∀ q, f.testBit q = true → cl.testBit q = true) : ∀ f ∈ fits, f < 2 ^ 64 := fun f hf => by
  refine Nat.lt_of_lt_of_le (Nat.lt_pow_two_of_testBit f (n := 41) fun q hq => ?_) (by decide)
  cases e : f.testBit q
  · rfl
  · have := hsub f hf q e
    rw [Nat.testBit_lt_two_pow (Nat.lt_of_lt_of_le h41 (Nat.pow_le_pow_right (by decide) hq))] at this
    cases this
theorem met_off {fits : List Nat} {cl : Nat} {wt ow : List Int} {i : Nat} {f : Nat} {x : Int} (h64 : f < 2 ^ 64) (hf : fits[i]? = some f) (hx1 : 1 ≤ x) (hx2 : x ≤ 40) : MetA (fits.set i (offN (fits.getD i 0) x.toNat)) cl wt ow ↔ (MetA fits cl wt ow ∧ ow[i]? ≠ some x) := by
  have hg : fits.getD i 0 = f := by rw [List.getD_eq_getElem?_getD, hf]; rfl
  have hl := (List.getElem?_eq_some_iff.1 hf).1
  rw [hg]
  unfold MetA SkV
  rw [List.length_set]
  constructor
  · rintro ⟨⟨h1, h2⟩, h3⟩
    refine ⟨⟨⟨h1, fun b z hb hz => ?_⟩, h3⟩, fun hix => ?_⟩
    · obtain ⟨h4, h5, g, hg', h6⟩ := h2 b z hb hz
      rcases off_at hg' with ⟨rfl, rfl⟩ | ⟨_, h7⟩
      · rw [offN_bit h64 (by omega), Bool.and_eq_true] at h6
        exact ⟨h4, h5, f, hf, h6.1⟩
      · exact ⟨h4, h5, g, h7, h6⟩
    · obtain ⟨_, _, g, hg', h6⟩ := h2 i x hix (by omega)
      rcases off_at hg' with ⟨_, rfl⟩ | ⟨h7, _⟩
      · rw [offN_bit h64 (by omega), Bool.and_eq_true] at h6
        simp at h6
      · exact h7 rfl
  · rintro ⟨⟨⟨h1, h2⟩, h3⟩, hne⟩
    refine ⟨⟨h1, fun b z hb hz => ?_⟩, h3⟩
    obtain ⟨h4, h5, g, hg', h6⟩ := h2 b z hb hz
    by_cases hbi : b = i
    · subst hbi
      rw [hf] at hg'
      cases hg'
      refine ⟨h4, h5, _, List.getElem?_set_self hl, ?_⟩
      rw [offN_bit h64 (by omega), h6, Bool.true_and, bne_iff_ne]
      intro e
      exact hne (by rw [hb, show z = x by omega])
    · exact ⟨h4, h5, g, by rw [List.getElem?_set_ne (fun e => hbi e.symm)]; exact hg', h6⟩
theorem off_sub {fits : List Nat} {cl : Nat} {i : Nat} {f : Nat} {o : Nat} (ho : o < 64) (h64 : f < 2 ^ 64) (hf : fits[i]? = some f) (hsub : ∀ f ∈ fits, ∀ q, f.testBit q = true → cl.testBit q = true) : ∀ g ∈ fits.set i (offN (fits.getD i 0) o), ∀ q, g.testBit q = true → cl.testBit q = true := fun g hg q hq => by
  have hgd : fits.getD i 0 = f := by rw [List.getD_eq_getElem?_getD, hf]; rfl
  rw [hgd] at hg
  rcases List.mem_or_eq_of_mem_set hg with h | h
  · exact hsub g h q hq
  · rw [h, offN_bit h64 ho, Bool.and_eq_true] at hq
    exact hsub f (List.mem_of_getElem? hf) q hq.1
/-- who is certain is in every assignment -/
theorem ct_sure {fits : List Nat} {cl : Nat} {wt ow ows res : List Int} {p i : Nat} {z : Int} (h41 : cl < 2 ^ 41) (hc0 : cl.testBit 0 = false) (hsub : ∀ f ∈ fits, ∀ q, f.testBit q = true → cl.testBit q = true) (hq : CtQ fits cl wt ow p res) (hm : MetA fits cl wt ow) (hi : i < p) (hp : p = fits.length) (hr : res[i]? = some z) (hz : z ≠ 0) (hms : MetA fits cl wt ows) : ows[i]? = some z := by
  have hl := hm.1.1
  obtain ⟨x, hx⟩ : ∃ x, ow[i]? = some x := ⟨_, List.getElem?_eq_getElem (by omega)⟩
  have h1 := hq i x z hx hr
  rw [if_pos hi] at h1
  rcases h1 with ⟨h2, h3, h4⟩ | ⟨h2, _⟩
  · subst h3
    obtain ⟨h5, h6, f, hf, _⟩ := hm.1.2 i z hx hz
    have h64 := fit_64 h41 hsub f (List.mem_of_getElem? hf)
    by_cases hne : ows[i]? = some z
    · exact hne
    · exact (met_shF h41 hc0 (off_sub (by omega) h64 hf hsub) ((met_off h64 hf h5 h6).2 ⟨hms, hne⟩) h4).elim
  · exact absurd h2 hz
/-- if nobody is certain, somebody else may have the beast -/
theorem ct_free {fits : List Nat} {cl : Nat} {wt ow res : List Int} {p i : Nat} {v : Int} (h41 : cl < 2 ^ 41) (hsub : ∀ f ∈ fits, ∀ q, f.testBit q = true → cl.testBit q = true) (hq : CtQ fits cl wt ow p res) (hm : MetA fits cl wt ow) (hi : i < p) (hp : p = fits.length) (hr : res[i]? = some 0) (hv : v ≠ 0) : ∃ ow' z, MetA fits cl wt ow' ∧ ow'[i]? = some z ∧ z ≠ v := by
  have hl := hm.1.1
  obtain ⟨x, hx⟩ : ∃ x, ow[i]? = some x := ⟨_, List.getElem?_eq_getElem (by omega)⟩
  by_cases hxv : x = v
  · subst hxv
    have h1 := hq i x 0 hx hr
    rw [if_pos hi] at h1
    rcases h1 with ⟨h2, h3, _⟩ | ⟨_, h2 | ⟨ow', h2⟩⟩
    · exact absurd h3.symm h2
    · exact absurd h2 hv
    · obtain ⟨h5, h6, f, hf, _⟩ := hm.1.2 i x hx hv
      have h64 := fit_64 h41 hsub f (List.mem_of_getElem? hf)
      obtain ⟨h7, h8⟩ := (met_off h64 hf h5 h6).1 h2
      have hl' := h7.1.1
      obtain ⟨z, hz⟩ : ∃ z, ow'[i]? = some z := ⟨_, List.getElem?_eq_getElem (by omega)⟩
      exact ⟨ow', z, h7, hz, fun e => h8 (by rw [hz, e])⟩
  · exact ⟨ow, x, hm, hx, hxv⟩
end Go.Proofs.YtologmoanaccpaaGreatDoor

namespace Go.Proofs.YtologmoanaccpaaGreatDoor
set_option linter.all false
open Go.RowKit Go.Shelf

/-- an append to an own row, of perhaps nothing, as a step of a region that draws -/
theorem step_app {ops : Array Oper} {o : Oper} {a : Act} {w : World} {K : Act → World → Prop} {Q : Exit → Act → World → Prop} {E : Prop} (hgd : o.guard = none) (s x : Operand) (t : TypeId)
    (ho : o.op = .call { callee := .builtin .append, args := #[s, x], argTypes := #[t, t] })
    (base : Nat) (e : TypeId) (i : TypeInfo) (z : Value) (size bytes : Nat) (ht : Tryz.prog.underlying t = some (.slice e)) (hi : Tryz.prog.info? e = some i) (hz : i.zero = some z)
    (hsize : i.size = size) (hby : i.bytes = bytes) (hzs : z.cells.size = size) (hsz : 0 < size)
    (b n0 c0 : Nat) (xs : List Value) (hs : a.eval s = .slice (some ⟨b, 0, none⟩) n0 c0) (hown : w.ownsRow base e size (.slice (some ⟨b, 0, none⟩) n0 c0) n0 xs)
    (A : Option Addr) (n c : Nat) (news : List Value) (hx : a.eval x = .slice A n c) (hl : news.length = n * size)
    (hnews : 0 < n → ∃ ad, A = some ad ∧ ∀ j u, news[j]? = some u → w.cell? (ad.add j) = some u) (h1 : ∀ u ∈ news, u.oneCell' = true)
    (h63 : n0 + n ≤ maxLen) (hbytes : (n0 + n) * bytes ≤ 140737488355328) (hbase : base ≤ w.heap.size)
    (h : ∀ g d w', w'.ownsRow base e size (.slice (some ⟨g, 0, none⟩) (n0 + n) d) (n0 + n) (xs ++ news) → w.grownBy w' (some b) → (g = b ∨ w.heap.size ≤ g) → K (a.put o.dst (.slice (some ⟨g, 0, none⟩) (n0 + n) d)) w') :
    if Region.wanted o (yielded ops a.tmps) = true then Oper.wp Tryz.prog o a w K Q else E := by
  by_cases hn : 0 < n
  · obtain ⟨ad, rfl, hne⟩ := hnews hn
    refine step_append_lies w hgd s x t ho base e i z size bytes ht hi hz hsize hby hzs hsz _ n0 xs hs hown ad n c news hx hl hne h1 hn h63 hbytes hbase _ rfl ?_
    intro g cap w' h2 h3 h4 h5
    refine h _ _ _ h2 h3 ?_
    rcases h4 with h4 | h4
    · injection h4 with h4
      exact .inl h4.symm
    · exact .inr (by omega)
  · obtain rfl : n = 0 := by omega
    obtain rfl : news = [] := List.eq_nil_of_length_eq_zero (by omega)
    have hw : Region.wanted o (yielded ops a.tmps) = true := by simp [Region.wanted, hgd]
    rw [if_pos hw]
    have hr := run_append_zero (P := Tryz.prog) w base t o.type e i size ht hi _ n0 xs hown A c
    unfold Oper.wp execOp
    simp only [ho, resolve, invoke, builtin, Sem.run_bind, Sem.run_pure, Result.andThen_ok, List.map_toArray, List.map_cons, List.map_nil, hs, hx, hr]
    have := h b c0 w (by rw [List.append_nil]; exact hown) (World.grownBy.refl _ _) (.inl rfl)
    exact this
theorem GoodS.left {ms : List Mk} {fs : List Fd} {found : List Sg} {cls L : List Cl} (g : GoodS ms fs found cls) (h : LeftA cls L) : GoodS ms fs found L := ⟨g.hok, g.hfo, g.hcl, g.hmk, h.cl, by rw [h.ow]; exact g.hn, g.hs⟩
theorem info39v : (Tryz.prog.info? 39).map (fun i => (i.zero, i.size, i.bytes)) = some (some (.agg #[.int .u8 0, .int .u8 0, .int .u8 0, .int .u8 0, .int .u8 0, .int .u8 0]), 6, 6) := by kernel_rfl
theorem sgV_one {l : List Sg} : ∀ u ∈ l.flatMap sgV, u.oneCell' = true := fun u hu => by
  obtain ⟨z, _, h1⟩ := List.mem_flatMap.1 hu
  simp [sgV] at h1
  rcases h1 with h1 | h1 | h1 | h1 | h1 | h1 <;> subst h1 <;> rfl
theorem clC_one {l : List Cl} : ∀ u ∈ l.flatMap clC, u.oneCell' = true := fun u hu => by
  obtain ⟨z, _, h1⟩ := List.mem_flatMap.1 hu
  simp [clC] at h1
  rcases h1 with h1 | h1 <;> subst h1 <;> rfl
theorem sla_take {α : Type} {enc : α → List Value} {k : Nat} {ok : α → Prop} {w : World} {A : Option Addr} {n c i : Nat} {xs : List α} (h : SlA enc k ok w A n c xs) (hi : i ≤ n) : SlA enc k ok w A i i (xs.take i) :=
  ⟨by rw [List.length_take, h.1]; omega, Nat.le_refl _, by have := h.2.1; have := h.2.2.1; omega, fun x hx => h.2.2.2.1 x (List.mem_of_mem_take hx), fun h0 => by
    obtain ⟨b, off, e, ht⟩ := h.2.2.2.2 (by omega)
    exact ⟨b, off, e, fun j x hx => ht j x (by
      rw [List.getElem?_take] at hx
      split at hx
      · exact hx
      · cases hx)⟩⟩
/-- a copy of claims with one number less by one -/
theorem less_row {W : World} {g d u k : Nat} {cls : List Cl} {x : Cl} (hr : RowC W g (cls.flatMap clC)) (hu : cls.length = u) (hud : u ≤ d) (hd : d ≤ 9223372036854775807) (hok : ∀ c ∈ cls, c.ok) (hx : cls[k]? = some x) (hp : 0 < x.num) : SlA clC 2 Cl.ok (W.setCell ⟨g, k * 2 + 1, none⟩ (.int .i64 (x.num - 1))) (some ⟨g, 0, none⟩) u d (lsC cls k) := by
  have hkl := (List.getElem?_eq_some_iff.1 hx).1
  have hcx : lsC cls k = cls.set k ⟨x.own, x.num - 1⟩ := lsC_at hx
  have hput := hr.put (j := k * 2 + 1) (by rw [clC_flen]; omega) (.int .i64 (x.num - 1))
  have hflat : (cls.flatMap clC).set (k * 2 + 1) (.int .i64 (x.num - 1)) = (lsC cls k).flatMap clC := by
    rw [hcx]
    apply List.ext_getElem?
    intro j
    cases e : ((cls.set k ⟨x.own, x.num - 1⟩).flatMap clC)[j]? with
    | none =>
      rw [List.getElem?_eq_none_iff] at e ⊢
      rw [List.length_set]
      rw [clC_flen] at e ⊢
      simpa using e
    | some y =>
      obtain ⟨i, z, t, rfl, h1, h2⟩ := clC_at e
      have ht : t < 2 := (List.getElem?_eq_some_iff.1 h2).1
      by_cases hik : k = i
      · subst hik
        rw [List.getElem?_set_self hkl] at h1
        cases h1
        by_cases ht1 : t = 1
        · subst ht1
          rw [List.getElem?_set_self (by rw [clC_flen]; omega)]
          exact h2
        · obtain rfl : t = 0 := by omega
          rw [List.getElem?_set_ne (by omega)]
          rw [flat_at clC_two cls k x 0 _ hx rfl]
          exact h2
      · rw [List.getElem?_set_ne hik] at h1
        rw [List.getElem?_set_ne (by omega)]
        exact flat_at clC_two cls i z t y h1 h2
  rw [hflat] at hput
  refine ⟨by rw [hcx, List.length_set, hu], hud, hd, fun z hz => ?_, fun _ => ⟨g, 0, rfl, fun i z hz j y hy => ?_⟩⟩
  · rw [hcx] at hz
    rcases List.mem_or_eq_of_mem_set hz with h | h
    · exact hok z h
    · subst h
      have := hok x (List.mem_of_getElem? hx)
      exact ⟨this.1, by have := this.2; unfold i64 at this ⊢; dsimp only; omega⟩
  · rw [Nat.zero_add]
    exact (hput _ _ (flat_at clC_two _ i z j y hz hy)).1
set_option maxRecDepth 100000 in
set_option maxHeartbeats 12800000 in
theorem without_any (A B C D : Option Addr) (n c m d p q u v : Nat) (ms : List Mk) (fs : List Fd) (day : Int) (found : List Sg) (cls : List Cl) (i : Nat) (o : Int) (s : Sg) (w : World) (hs : SmA w A n c ms B m d fs) (hfo : SlA sgV 6 Sg.ok w C p q found) (hcl : SlA clC 2 Cl.ok w D u v cls) (hEv : EnvT w) (h0 : chE ms fs day found cls = 0) (hsi : found[i]? = some s) (hex : ∃ ow z, MetA (fitsN ms fs day found cls) (clN cls) (wtL cls) ow ∧ ow[i]? = some z ∧ z ≠ o) :
    Calls Tryz.prog 70 #[.agg #[.slice A n c, .slice B m d], .int .i64 day, .slice C p q, .slice D u v, .int .i64 (i : Int), .int .i64 o] w fun e w' => e = .returned (.bool true) ∧ Kept w w' := by
  obtain ⟨W0, hW0⟩ : ∃ W0, W0 = w.alloc (.cells #[.slice A n c, .slice B m d] 25) := ⟨_, rfl⟩
  have K0 : RowKit.Hid (Kept w W0) := Lib.hid (by rw [hW0]; exact (Kept.refl _).alloc _)
  have R0 : RowKit.Hid (RowC W0 w.heap.size [.slice A n c, .slice B m d]) := Lib.hid (by rw [hW0]; exact RowC.new w [.slice A n c, .slice B m d] 25)
  obtain ⟨i3, hi3, hz3a, hz3b, hz3c⟩ := info_parts info39v
  obtain ⟨i4, hi4, hz4a, hz4b, hz4c⟩ := info_parts info94x
  have HW := Lib.hid hW0
  have HS := Lib.hid (hs.kept K0.out)
  have HFO := Lib.hid (hfo.kept K0.out)
  have HCL := Lib.hid (hcl.kept K0.out)
  have HEV := Lib.hid (hEv.kept K0.out)
  have HCN := Lib.hid hcl.1
  have HFN := Lib.hid hfo.1
  have hg := GoodS.of h0 hs.1.2.2.2.1 hs.2.2.2.2.1 hfo.2.2.2.1
  have HG := Lib.hid hg
  have HH0 := Lib.hid h0
  obtain ⟨hp60, hu10, hcb⟩ := ch_sizes h0
  rw [hfo.1] at hp60
  rw [hcl.1] at hu10
  have hip : i < p := by rw [← hfo.1]; exact (List.getElem?_eq_some_iff.1 hsi).1
  have HSI := Lib.hid hsi
  have HCB := Lib.hid hcb
  have hpc := hfo.2.1
  have hpm := hfo.2.2.1
  have huc := hcl.2.1
  have hum := hcl.2.2.1
  have HA49 : RowKit.Hid (∀ (C' D' : Option Addr) (p' q' v' : Nat) (L : List Cl) W, Kept W0 W → SlA sgV 6 Sg.ok W C' p' q' (erL found i) → SlA clC 2 Cl.ok W D' u v' L → LeftA cls L → Calls Tryz.prog 49 #[.agg #[.slice A n c, .slice B m d], .int .i64 day, .slice C' p' q', .slice D' u v'] W fun e w' => ∃ A n c b, e = .returned (.tuple #[.slice A n c, .bool b, .int .i64 0]) ∧ Kept W w' ∧ ((∃ ow, MetA (fitsN ms fs day (erL found i) L) (clN L) (wtL L) ow) ↔ b = true)) := Lib.hid (fun C' D' p' q' v' L W hW h1 h2 h3 => (assign_any A B C' D' n c m d p' q' u v' ms fs day (erL found i) L W (HS.out.kept hW) h1 h2 (HEV.out.kept hW)).mono fun e w' h => AsP.or ((goodS_erase HG.out i).left h3) (chE_erase HH0.out h3 i) h)
  have H28 : RowKit.Hid (∀ (y : Cl) W, Kept W0 W → y ∈ cls → Calls Tryz.prog 28 #[.agg #[.slice A n c, .slice B m d], .int .i64 day, .agg #[.int .u8 s.s0, .int .u8 s.s1, .int .u8 s.s2, .int .u8 s.s3, .int .u8 s.s4, .int .u8 s.s5], .int .i64 y.own] W fun e w' => e = .returned (.tuple #[.bool ((ownD ms fs day s).testBit y.own.toNat), .int .i64 0]) ∧ Kept W w') := Lib.hid (fun y W hW hy => (fitsM_any A B n c m d ms fs day y.own s W (HS.out.kept hW) (HG.out.hs s (List.mem_of_getElem? HSI.out))).mono fun e w' h => by
    have hz : ftE ms fs day s y.own = 0 := by
      have h1 := HH0.out
      unfold chE at h1
      obtain ⟨e1, e2, e3, _⟩ := fstE_four h1
      have hss : sightB s = true := (fn_ok e3).2 s (List.mem_of_getElem? HSI.out)
      have hb := (claim_bd (HCB.out y hy)).1
      unfold ftE
      rw [e1, e2, hss, inB_iff.2 hb]
      rfl
    obtain ⟨⟨h1, _⟩ | ⟨_, h1⟩, hk⟩ := h
    · exact absurd hz h1
    · exact ⟨h1, hk⟩)
  have HTG : RowKit.Hid ((¬ ∃ ow, MetA (fitsN ms fs day (erL found i) cls) (clN cls) (wtL cls) ow) → ∃ k x, cls[k]? = some x ∧ x.own ≠ o ∧ 0 < x.num ∧ (ownD ms fs day s).testBit x.own.toNat = true ∧ ∃ ow, MetA (fitsN ms fs day (erL found i) (lsC cls k)) (clN (lsC cls k)) (wtL (lsC cls k)) ow) := Lib.hid (fun hno => by
    obtain ⟨ow, z, h1, h2, h3⟩ := hex
    by_cases hz : z = 0
    · rw [hz] at h2
      exact absurd ⟨_, metA_nobody h1 h2⟩ hno
    · obtain ⟨k, x, h4, h5, h6, h7, h8⟩ := metA_other hg h1 h2 hsi hz
      exact ⟨k, x, h4, by rw [h5]; exact h3, h6, by rw [h5]; exact h7, _, h8⟩)
  obtain ⟨A1, hrun1, hs1⟩ : ∃ A1, (∀ W, (Instr.sliceAt 62 (.slice C p q) none (some (.int .i64 (i : Int))) (some (.int .i64 (i : Int)))).run Tryz.prog W = .ok (.slice A1 i i) W) ∧ SlA sgV 6 Sg.ok W0 A1 i i (found.take i) := by
    obtain ⟨fb, fo, hC, _⟩ := HFO.out.2.2.2.2 (by omega)
    subst hC
    have hi0 : (0 : Int) ≤ (i : Int) := by omega
    have hiq : (i : Int) ≤ (q : Int) := by omega
    exact ⟨some ⟨fb, fo, none⟩, fun W => by (go_simp), sla_take HFO.out (by omega)⟩
  obtain ⟨A2, p2, q2, hrun2, hs2⟩ : ∃ A2 p2 q2, (∀ W, (Instr.sliceAt 62 (.slice C p q) (some (.int .i64 ((i : Int) + 1))) none none).run Tryz.prog W = .ok (.slice A2 p2 q2) W) ∧ SlA sgV 6 Sg.ok W0 A2 p2 q2 (found.drop (i + 1)) := by
    obtain ⟨fb, fo, hC, _⟩ := HFO.out.2.2.2.2 (by omega)
    subst hC
    have hi1p : (i : Int) + 1 ≤ (p : Int) := by omega
    have hi1q : (i : Int) + 1 ≤ (q : Int) := by omega
    by_cases hcap : q = i + 1
    · obtain rfl : p = i + 1 := by omega
      subst hcap
      exact ⟨some ⟨fb, fo, none⟩, i + 1 - (i + 1), i + 1 - (i + 1), fun W => by (go_simp; intro h; omega), ⟨by rw [List.length_drop, HFN.out], by omega, by omega, fun x hx => HFO.out.2.2.2.1 x (List.mem_of_mem_drop hx), fun h0 => by omega⟩⟩
    · exact ⟨some ⟨fb, fo + (i + 1) * 6, none⟩, p - (i + 1), q - (i + 1), fun W => by (go_simp; intro h; omega), sla_drop HFO.out (by omega)⟩
  have HS1 := Lib.hid hs1
  have HS2 := Lib.hid hs2
  have HL1 : RowKit.Hid (((found.take i).flatMap sgV).length = i * 6) := Lib.hid (by rw [flat_lenV (k := 6) (fun _ => rfl), hs1.1])
  have HL2 : RowKit.Hid (((found.drop (i + 1)).flatMap sgV).length = p2 * 6) := Lib.hid (by rw [flat_lenV (k := 6) (fun _ => rfl), hs2.1])
  have hip2 : i + p2 = p - 1 := by have h1 := hs2.1; rw [List.length_drop, HFN.out] at h1; omega
  have HIP := Lib.hid hip2
  have hipm : i + p2 ≤ 60 := by omega
  clear hW0 hs hfo hcl hEv h0 hg hsi hcb hex hs1 hs2 hip2
  have a0 := (R0.out 0 _ rfl).1
  have a1 := (R0.out 1 _ rfl).1
  have la := cell_lt a0
  have hwi : IntKind.i64.wrap ((i : Int) + 1) = (i : Int) + 1 := IntWalk.i64_in _ (by omega)
  go_enter Tryz.func70, Tryz.ntmps70
  go_upto_region 1 with (fail)
  rw [← HW.out]
  clear a0 a1 la
  obtain ⟨Wd, hWd⟩ : ∃ Wd, Wd = W0.drew := ⟨_, rfl⟩
  have HKd : RowKit.Hid (Kept W0 Wd) := Lib.hid (by rw [hWd]; exact (Kept.refl W0).drew)
  refine wp_region_held_drew (S := fun W => Kept W0 W) (by kernel_rfl) (Kept.refl W0).drew (fun hHeld => ?_)
  rw [← hWd] at hHeld ⊢
  clear hWd
  refine take_at (i := 1) (d := some 22) (v := ?_) rfl rfl (by kernel_rfl) (by kernel_rfl) (by kernel_rfl) (fun _ _ _ h => h) (Or.inl ⟨by rfl, ?_⟩) hHeld ?_
  rotate_left
  · intro w hSw
    try dsimp only at hSw
    go_simp
    try (with_reducible rfl)
  try simp only [Act.put, List.setIfInBounds_toArray, List.set_cons_zero, List.set_cons_succ]
  refine take_at (i := 2) (d := some 23) (v := ?_) rfl rfl (by kernel_rfl) (by kernel_rfl) (by kernel_rfl) (fun _ _ _ h => h) (Or.inl ⟨by rfl, ?_⟩) hHeld ?_
  rotate_left
  · intro w hSw
    try dsimp only at hSw
    go_simp
    try (with_reducible rfl)
  try simp only [Act.put, List.setIfInBounds_toArray, List.set_cons_zero, List.set_cons_succ]
  refine take_at (i := 3) (d := some 24) (v := ?_) rfl rfl (by kernel_rfl) (by kernel_rfl) (by kernel_rfl) (fun _ _ _ h => h) (Or.inl ⟨by rfl, ?_⟩) hHeld ?_
  rotate_left
  · intro w hSw
    try dsimp only at hSw
    go_simp
    try (with_reducible rfl)
  try simp only [Act.put, List.setIfInBounds_toArray, List.set_cons_zero, List.set_cons_succ]
  refine take_at (i := 4) (d := some 25) (v := .slice A1 i i) rfl rfl (by kernel_rfl) (by kernel_rfl) (by kernel_rfl) (fun _ _ _ h => h) (Or.inl ⟨by rfl, ?_⟩) hHeld ?_
  · intro w hSw
    first | (go_simp; exact hrun1 _) | (go_simp; done) | exact hrun1 _
  try simp only [Act.put, List.setIfInBounds_toArray, List.set_cons_zero, List.set_cons_succ]
  refine take_at (i := 6) (d := some 27) (v := ?_) rfl rfl (by kernel_rfl) (by kernel_rfl) (by kernel_rfl) (fun _ _ _ h => h) (Or.inl ⟨by rfl, ?_⟩) hHeld ?_
  rotate_left
  · intro w hSw
    try dsimp only at hSw
    go_simp
    try (with_reducible rfl)
  try simp only [Act.put, List.setIfInBounds_toArray, List.set_cons_zero, List.set_cons_succ]
  refine take_at (i := 7) (d := some 28) (v := ?_) rfl rfl (by kernel_rfl) (by kernel_rfl) (by kernel_rfl) (fun _ _ _ h => h) (Or.inl ⟨by rfl, ?_⟩) hHeld ?_
  rotate_left
  · intro w hSw
    try dsimp only at hSw
    go_simp
    try (with_reducible rfl)
  try simp only [Act.put, List.setIfInBounds_toArray, List.set_cons_zero, List.set_cons_succ]
  refine take_at (i := 8) (d := some 29) (v := ?_) rfl rfl (by kernel_rfl) (by kernel_rfl) (by kernel_rfl) (fun _ _ _ h => h) (Or.inl ⟨by rfl, ?_⟩) hHeld ?_
  rotate_left
  · intro w hSw
    try dsimp only at hSw
    go_simp
    try (with_reducible rfl)
  try simp only [Act.put, List.setIfInBounds_toArray, List.set_cons_zero, List.set_cons_succ]
  refine take_at (i := 9) (d := some 30) (v := .slice A2 p2 q2) rfl rfl (by kernel_rfl) (by kernel_rfl) (by kernel_rfl) (fun _ _ _ h => h) (Or.inl ⟨by rfl, ?_⟩) hHeld ?_
  · intro w hSw
    first | (go_simp; exact hrun2 _) | (go_simp; done) | exact hrun2 _
  try simp only [Act.put, List.setIfInBounds_toArray, List.set_cons_zero, List.set_cons_succ]
  refine wpAnyH_ready (rs := [0]) (by kernel_rfl) (by simp) ?_
  refine AllReadyH.cons rfl (fun K hK => ?_) AllReadyH.nil
  rw [if_pos (by rfl)]
  go_simp
  obtain ⟨V1, hV1⟩ : ∃ V1, V1 = Wd.alloc (.cells #[] 39) := ⟨_, rfl⟩
  rw [← hV1]
  have kn : Kept Wd V1 := by rw [hV1]; exact (Kept.refl _).alloc _
  have HK1 := Lib.hid (HKd.out.trans kn)
  have HO1 : RowKit.Hid (V1.ownsRow W0.heap.size 39 6 (.slice (some ⟨Wd.heap.size, 0, none⟩) 0 0) 0 []) := Lib.hid (by rw [hV1]; exact own_base (own00 Wd _ 39 6 rfl) HKd.out.size)
  refine hK.out _ _ HK1.out (fun hHeld => ?_)
  clear hK K hV1 kn
  try simp only [Act.put, List.setIfInBounds_toArray, List.set_cons_zero, List.set_cons_succ]
  refine wpAnyH_ready (rs := [5]) (by kernel_rfl) (by simp) ?_
  refine AllReadyH.cons rfl (fun K hK => ?_) AllReadyH.nil
  refine step_app rfl (.tmp 21) (.tmp 25) 62 rfl W0.heap.size 39 i3 _ 6 6 Tryz.underlying62 hi3 hz3a hz3b hz3c rfl (by decide) Wd.heap.size 0 0 [] rfl HO1.out A1 i i ((found.take i).flatMap sgV) rfl HL1.out (slA_news (fun _ => rfl) (by decide) (HS1.out.kept HK1.out)) sgV_one (by unfold maxLen; omega) (by omega) HK1.out.size ?_
  intro g2 d2 V2 hown hgrow hg
  rw [Nat.zero_add] at hown ⊢
  have HK2 := Lib.hid (HK1.out.grown hgrow (fun q hq => by injection hq with hq; rw [← hq]; exact (HO1.out.lt _ rfl).1))
  have HO2 := Lib.hid hown
  refine hK.out _ _ HK2.out (fun hHeld => ?_)
  clear hK K hown hgrow hg
  try simp only [Act.put, List.setIfInBounds_toArray, List.set_cons_zero, List.set_cons_succ]
  refine wpAnyH_ready (rs := [10]) (by kernel_rfl) (by simp) ?_
  refine AllReadyH.cons rfl (fun K hK => ?_) AllReadyH.nil
  refine step_app rfl (.tmp 26) (.tmp 30) 62 rfl W0.heap.size 39 i3 _ 6 6 Tryz.underlying62 hi3 hz3a hz3b hz3c rfl (by decide) g2 i d2 ([] ++ (found.take i).flatMap sgV) rfl HO2.out A2 p2 q2 ((found.drop (i + 1)).flatMap sgV) rfl HL2.out (slA_news (fun _ => rfl) (by decide) (HS2.out.kept HK2.out)) sgV_one (by unfold maxLen; omega) (by omega) HK2.out.size ?_
  intro g3 d3 V3 hown hgrow hg
  have HK3 := Lib.hid (HK2.out.grown hgrow (fun q hq => by injection hq with hq; rw [← hq]; exact (HO2.out.lt _ rfl).1))
  have HRS : RowKit.Hid (SlA sgV 6 Sg.ok V3 (some ⟨g3, 0, none⟩) (i + p2) d3 (erL found i)) := Lib.hid (own_slB (enc := sgV) (ok := Sg.ok) (xs := erL found i) (fun _ => rfl) (by have h := hown; rw [List.nil_append] at h; unfold erL; rw [List.flatMap_append]; exact h) (by rw [erL_len _ _ (by rw [HFN.out]; exact hip), HFN.out, HIP.out]) (fun x hx => HG.out.hs x (erL_mem hx)))
  refine hK.out _ _ HK3.out (fun hHeld => ?_)
  clear hK K hown hgrow hg
  try simp only [Act.put, List.setIfInBounds_toArray, List.set_cons_zero, List.set_cons_succ]
  refine take_at (i := 11) (d := some 13) (v := ?_) rfl rfl (by kernel_rfl) (by kernel_rfl) (by kernel_rfl) (fun _ _ _ h => h) (Or.inl ⟨by rfl, ?_⟩) hHeld ?_
  rotate_left
  · intro w hSw
    try dsimp only at hSw
    go_simp
    try (with_reducible rfl)
  try simp only [Act.put, List.setIfInBounds_toArray, List.set_cons_zero, List.set_cons_succ]
  refine wpAnyH_done (by kernel_rfl) ?_ _
  have HC1 := Lib.hid (HA49.out (some ⟨g3, 0, none⟩) D (i + p2) d3 v cls V3 HK3.out HRS.out (HCL.out.kept HK3.out) (leftA_refl HH0.out))
  have a0 := (R0.out.kept HK3.out 0 _ rfl).1
  have a1 := (R0.out.kept HK3.out 1 _ rfl).1
  have la := cell_lt a0
  go_wp2_with fail
  refine HC1.out.mono ?_
  rintro e w3 ⟨A3, n3, c3, b3, rfl, hk3, hb3⟩
  have HK4 := Lib.hid (HK3.out.trans hk3)
  have HR4 := Lib.hid (HRS.out.kept hk3)
  clear hk3 a0 a1 la
  cases b3 with
  | true =>
    go_wp2_with fail
    go_ret
    exact ⟨rfl, K0.out.trans HK4.out⟩
  | false =>
    obtain ⟨k, x, hkx, hxo, hxn, hxt, hxm⟩ := HTG.out (fun h => by have := hb3.1 h; cases this)
    have hku : k < u := by rw [← HCN.out]; exact (List.getElem?_eq_some_iff.1 hkx).1
    have HKX := Lib.hid hkx
    have HXO := Lib.hid hxo
    have HXN := Lib.hid hxn
    have HXT := Lib.hid hxt
    have HXM := Lib.hid hxm
    clear hb3 hkx hxo hxn hxt hxm
    go_wp2_with fail
    go_loopw [15, 16, 17, 18, 19, 20] (fun _ _ j _ _ _ wr => ∃ j' : Nat, j' ≤ k ∧ j = .int .i64 j' ∧ Kept w3 wr) (fun _ _ j _ _ _ _ => k + 1 - (intOf j).toNat)
    case atStart => exact ⟨0, by omega, by first | rfl | go_num, Kept.refl _⟩
    case round =>
      obtain ⟨j, hj, rfl, hkr⟩ := hrel
      have HKR := Lib.hid hkr
      clear hkr
      obtain ⟨y, hy⟩ : ∃ y, cls[j]? = some y := ⟨_, List.getElem?_eq_getElem (by rw [HCN.out]; omega)⟩
      have hym := List.mem_of_getElem? hy
      have HYC := Lib.hid hy
      have hju : (j : Int) < (u : Int) := by omega
      have hj0 : (0 : Int) ≤ (j : Int) := by omega
      have hi0 : (0 : Int) ≤ (i : Int) := by omega
      have hi1 : (i : Int) < (p : Int) := by omega
      obtain ⟨b1, hb1⟩ : ∃ b, (y.own == o) = b := ⟨_, rfl⟩
      obtain ⟨b2, hb2⟩ : ∃ b, decide (y.num < 1) = b := ⟨_, rfl⟩
      obtain ⟨tb, htb⟩ : ∃ b, (ownD ms fs day s).testBit y.own.toNat = b := ⟨_, rfl⟩
      have HCO : RowKit.Hid ((b1 || (b2 || !tb)) = true → j ≠ k) := Lib.hid (fun h e => by
        subst e
        have h1 := HKX.out
        rw [hy] at h1
        cases h1
        rw [← hb1, ← hb2, ← htb, HXT.out, show (x.own == o) = false by simpa using HXO.out, show decide (x.num < 1) = false by have := HXN.out; simp; omega] at h
        cases h)
      have HFT := Lib.hid (fun W hW => H28.out y W hW hym)
      rw [htb] at HFT
      obtain ⟨fb, fo, hC, htc⟩ := HFO.out.2.2.2.2 (by omega)
      subst hC
      obtain ⟨cb, co, hD, hty⟩ := HCL.out.2.2.2.2 (by omega)
      subst hD
      have HT1 := Lib.hid (fun t v (hv : (sgV s)[t]? = some v) => htc i s HSI.out t v hv)
      have HT2 := Lib.hid (fun t v (hv : (clC y)[t]? = some v) => hty j y hy t v hv)
      clear htc hty hy htb
      go_upto_region 8 with (fail)
      have SC : RowKit.Hid (∀ W, Kept wr W → W.cell? ⟨w.heap.size, 0, none⟩ = some (.slice A n c) ∧ W.cell? ⟨w.heap.size, 1, none⟩ = some (.slice B m d) ∧ W.cell? ⟨fb, fo + i * 6, none⟩ = some (.int .u8 s.s0) ∧ W.cell? ⟨fb, fo + i * 6 + 1, none⟩ = some (.int .u8 s.s1) ∧ W.cell? ⟨fb, fo + i * 6 + 2, none⟩ = some (.int .u8 s.s2) ∧ W.cell? ⟨fb, fo + i * 6 + 3, none⟩ = some (.int .u8 s.s3) ∧ W.cell? ⟨fb, fo + i * 6 + 4, none⟩ = some (.int .u8 s.s4) ∧ W.cell? ⟨fb, fo + i * 6 + 5, none⟩ = some (.int .u8 s.s5) ∧ W.cell? ⟨cb, co + j * 2, none⟩ = some (.int .i64 y.own) ∧ W.cell? ⟨cb, co + j * 2 + 1, none⟩ = some (.int .i64 y.num) ∧ Kept wr W) := Lib.hid (fun W hW => by
        have h3 := HK4.out.trans (HKR.out.trans hW)
        have y0 := HT2.out 0 _ rfl
        have s0 := HT1.out 0 _ rfl
        rw [Nat.add_zero] at y0 s0
        exact ⟨(R0.out.kept h3 0 _ rfl).1, (R0.out.kept h3 1 _ rfl).1, (h3.cells _ _ (cell_lt s0)).trans s0, (h3.cells _ _ (cell_lt (HT1.out 1 _ rfl))).trans (HT1.out 1 _ rfl), (h3.cells _ _ (cell_lt (HT1.out 2 _ rfl))).trans (HT1.out 2 _ rfl), (h3.cells _ _ (cell_lt (HT1.out 3 _ rfl))).trans (HT1.out 3 _ rfl), (h3.cells _ _ (cell_lt (HT1.out 4 _ rfl))).trans (HT1.out 4 _ rfl), (h3.cells _ _ (cell_lt (HT1.out 5 _ rfl))).trans (HT1.out 5 _ rfl), (h3.cells _ _ (cell_lt y0)).trans y0, (h3.cells _ _ (cell_lt (HT2.out 1 _ rfl))).trans (HT2.out 1 _ rfl), hW⟩)
      have kd := (Kept.refl wr).drew
      have q0 := (SC.out _ (Kept.refl _)).1
      have lq := cell_lt q0
      have q2 := (SC.out _ (Kept.refl _)).2.2.1
      have lq2 := cell_lt q2
      have q8 := (SC.out _ (Kept.refl _)).2.2.2.2.2.2.2.2.1
      have lq8 := cell_lt q8
      clear q0 q2 q8
      have HFT2 := Lib.hid (fun W (hW : Kept wr W) => HFT.out W (HK4.out.trans (HKR.out.trans hW)))
      clear HFT
      cases b1 with
      | true =>
        have HJK := Lib.hid (HCO.out rfl)
        go_region_held3 (fun W => W.cell? ⟨w.heap.size, 0, none⟩ = some (.slice A n c) ∧ W.cell? ⟨w.heap.size, 1, none⟩ = some (.slice B m d) ∧ W.cell? ⟨fb, fo + i * 6, none⟩ = some (.int .u8 s.s0) ∧ W.cell? ⟨fb, fo + i * 6 + 1, none⟩ = some (.int .u8 s.s1) ∧ W.cell? ⟨fb, fo + i * 6 + 2, none⟩ = some (.int .u8 s.s2) ∧ W.cell? ⟨fb, fo + i * 6 + 3, none⟩ = some (.int .u8 s.s3) ∧ W.cell? ⟨fb, fo + i * 6 + 4, none⟩ = some (.int .u8 s.s4) ∧ W.cell? ⟨fb, fo + i * 6 + 5, none⟩ = some (.int .u8 s.s5) ∧ W.cell? ⟨cb, co + j * 2, none⟩ = some (.int .i64 y.own) ∧ W.cell? ⟨cb, co + j * 2 + 1, none⟩ = some (.int .i64 y.num) ∧ Kept wr W)
          (first
            | (with_reducible exact SC.out _ kd)
            | (with_reducible exact SC.out _ kk9)
            | fail)
          (first
            | (go_at_call 28; with_reducible refine (HFT2.out _ kd).mono ?_; rintro e w9 ⟨rfl, hk9⟩; have kk9 : Kept wr w9 := (by with_reducible exact kd.trans hk9))
            | fail)
        have q9 := SC.out _ kk9
        have y0 := q9.2.2.2.2.2.2.2.2.1
        have y1 := q9.2.2.2.2.2.2.2.2.2.1
        have ly := cell_lt y0
        clear q9
        go_wp2_with fail
        go_roundw
        case rel => exact ⟨j + 1, by have := HJK.out; omega, by go_num, HKR.out.trans kk9⟩
        case measure => simp [intOf]; omega
      | false =>
        cases b2 with
        | true =>
          have HJK := Lib.hid (HCO.out rfl)
          go_region_held3 (fun W => W.cell? ⟨w.heap.size, 0, none⟩ = some (.slice A n c) ∧ W.cell? ⟨w.heap.size, 1, none⟩ = some (.slice B m d) ∧ W.cell? ⟨fb, fo + i * 6, none⟩ = some (.int .u8 s.s0) ∧ W.cell? ⟨fb, fo + i * 6 + 1, none⟩ = some (.int .u8 s.s1) ∧ W.cell? ⟨fb, fo + i * 6 + 2, none⟩ = some (.int .u8 s.s2) ∧ W.cell? ⟨fb, fo + i * 6 + 3, none⟩ = some (.int .u8 s.s3) ∧ W.cell? ⟨fb, fo + i * 6 + 4, none⟩ = some (.int .u8 s.s4) ∧ W.cell? ⟨fb, fo + i * 6 + 5, none⟩ = some (.int .u8 s.s5) ∧ W.cell? ⟨cb, co + j * 2, none⟩ = some (.int .i64 y.own) ∧ W.cell? ⟨cb, co + j * 2 + 1, none⟩ = some (.int .i64 y.num) ∧ Kept wr W)
            (first
              | (with_reducible exact SC.out _ kd)
              | (with_reducible exact SC.out _ kk9)
              | fail)
            (first
              | (go_at_call 28; with_reducible refine (HFT2.out _ kd).mono ?_; rintro e w9 ⟨rfl, hk9⟩; have kk9 : Kept wr w9 := (by with_reducible exact kd.trans hk9))
              | fail)
          have q9 := SC.out _ kk9
          have y0 := q9.2.2.2.2.2.2.2.2.1
          have y1 := q9.2.2.2.2.2.2.2.2.2.1
          have ly := cell_lt y0
          clear q9
          go_wp2_with fail
          go_roundw
          case rel => exact ⟨j + 1, by have := HJK.out; omega, by go_num, HKR.out.trans kk9⟩
          case measure => simp [intOf]; omega
        | false =>
          cases tb with
          | false =>
            have HJK := Lib.hid (HCO.out rfl)
            go_region_held3 (fun W => W.cell? ⟨w.heap.size, 0, none⟩ = some (.slice A n c) ∧ W.cell? ⟨w.heap.size, 1, none⟩ = some (.slice B m d) ∧ W.cell? ⟨fb, fo + i * 6, none⟩ = some (.int .u8 s.s0) ∧ W.cell? ⟨fb, fo + i * 6 + 1, none⟩ = some (.int .u8 s.s1) ∧ W.cell? ⟨fb, fo + i * 6 + 2, none⟩ = some (.int .u8 s.s2) ∧ W.cell? ⟨fb, fo + i * 6 + 3, none⟩ = some (.int .u8 s.s3) ∧ W.cell? ⟨fb, fo + i * 6 + 4, none⟩ = some (.int .u8 s.s4) ∧ W.cell? ⟨fb, fo + i * 6 + 5, none⟩ = some (.int .u8 s.s5) ∧ W.cell? ⟨cb, co + j * 2, none⟩ = some (.int .i64 y.own) ∧ W.cell? ⟨cb, co + j * 2 + 1, none⟩ = some (.int .i64 y.num) ∧ Kept wr W)
              (first
                | (with_reducible exact SC.out _ kd)
                | (with_reducible exact SC.out _ kk9)
                | fail)
              (first
                | (go_at_call 28; with_reducible refine (HFT2.out _ kd).mono ?_; rintro e w9 ⟨rfl, hk9⟩; have kk9 : Kept wr w9 := (by with_reducible exact kd.trans hk9))
                | fail)
            have q9 := SC.out _ kk9
            have y0 := q9.2.2.2.2.2.2.2.2.1
            have y1 := q9.2.2.2.2.2.2.2.2.2.1
            have ly := cell_lt y0
            clear q9
            go_wp2_with fail
            go_roundw
            case rel => exact ⟨j + 1, by have := HJK.out; omega, by go_num, HKR.out.trans kk9⟩
            case measure => simp [intOf]; omega
          | true =>
            go_region_held3 (fun W => W.cell? ⟨w.heap.size, 0, none⟩ = some (.slice A n c) ∧ W.cell? ⟨w.heap.size, 1, none⟩ = some (.slice B m d) ∧ W.cell? ⟨fb, fo + i * 6, none⟩ = some (.int .u8 s.s0) ∧ W.cell? ⟨fb, fo + i * 6 + 1, none⟩ = some (.int .u8 s.s1) ∧ W.cell? ⟨fb, fo + i * 6 + 2, none⟩ = some (.int .u8 s.s2) ∧ W.cell? ⟨fb, fo + i * 6 + 3, none⟩ = some (.int .u8 s.s3) ∧ W.cell? ⟨fb, fo + i * 6 + 4, none⟩ = some (.int .u8 s.s4) ∧ W.cell? ⟨fb, fo + i * 6 + 5, none⟩ = some (.int .u8 s.s5) ∧ W.cell? ⟨cb, co + j * 2, none⟩ = some (.int .i64 y.own) ∧ W.cell? ⟨cb, co + j * 2 + 1, none⟩ = some (.int .i64 y.num) ∧ Kept wr W)
              (first
                | (with_reducible exact SC.out _ kd)
                | (with_reducible exact SC.out _ kk9)
                | fail)
              (first
                | (go_at_call 28; with_reducible refine (HFT2.out _ kd).mono ?_; rintro e w9 ⟨rfl, hk9⟩; have kk9 : Kept wr w9 := (by with_reducible exact kd.trans hk9))
                | fail)
            have q9 := SC.out _ kk9
            have y0 := q9.2.2.2.2.2.2.2.2.1
            have y1 := q9.2.2.2.2.2.2.2.2.2.1
            have ly := cell_lt y0
            clear q9
            have hynum : 0 < y.num := by have := of_decide_eq_false hb2; omega
            have HYN := Lib.hid hynum
            have hyn60 := (claim_bd (HCB.out y hym)).2
            have hw1 : IntKind.i64.wrap (y.num - 1) = y.num - 1 := IntWalk.i64_in _ (by omega)
            have HKQ := Lib.hid (HK4.out.trans (HKR.out.trans kk9))
            have HNC : RowKit.Hid (0 < u → ∃ a, (some ⟨cb, co, none⟩ : Option Addr) = some a ∧ ∀ t z, (cls.flatMap clC)[t]? = some z → (w9.alloc (.cells #[] 94)).cell? (a.add t) = some z) := Lib.hid (slA_news clC_two (by decide) (HCL.out.kept (HKQ.out.alloc _)))
            have HLC : RowKit.Hid ((cls.flatMap clC).length = u * 2) := Lib.hid (by rw [clC_flen, HCN.out])
            go_upto_region 11 with (first
              | (at_builtin; refine wpList_copy w9 _ rfl (.tmp 90) (.tmp 91) 70 rfl 94 i4 _ 2 16 Tryz.underlying70 hi4 hz4a hz4b hz4c rfl (by decide) rfl rfl _ u v (cls.flatMap clC) rfl HLC.out HNC.out clC_one (by unfold maxLen; omega) (by omega) ?_; intro G d5 w5 hown5 hkk5)
              | fail)
            obtain ⟨g5, rfl, hr5, hg5, hud5, hd5⟩ : ∃ g, G = some ⟨g, 0, none⟩ ∧ RowC w5 g (cls.flatMap clC) ∧ w9.heap.size ≤ g ∧ u ≤ d5 ∧ d5 ≤ 9223372036854775807 := by
              rcases hown5.2 with ⟨h1, h0⟩ | ⟨g, cap, cur, h1, hb, hh, h2, h3, _⟩
              · omega
              · cases h1
                exact ⟨g, rfl, own_rowC hown5, hb, h2, by unfold maxLen at h3; omega⟩
            have HR5 := Lib.hid hr5
            have HG5 := Lib.hid hg5
            have HKK5 := Lib.hid hkk5
            have c1 := (hr5 (j * 2 + 1) (.int .i64 y.num) (flat_at clC_two cls j y 1 _ HYC.out rfl)).1
            have f1 := (hr5 (j * 2 + 1) (.int .i64 y.num) (flat_at clC_two cls j y 1 _ HYC.out rfl)).2
            have lc1 := cell_lt c1
            have hix : ∀ w, (Instr.indexAt 70 (.slice (some ⟨g5, 0, none⟩) u d5) (.int .i64 (j : Int))).run Tryz.prog w = .ok (.pointer (some ⟨g5, j * 2, none⟩)) w := fun w => by
              go_simp
            clear hr5 hg5 hkk5 hown5 y0 y1 ly
            go_upto_region 12 with (fail)
            try rw [hix]
            try go_upto_region 12 with (fail)
            obtain ⟨W6, hW6⟩ : ∃ W6, W6 = w5.setCell ⟨g5, j * 2 + 1, none⟩ (.int .i64 (y.num - 1)) := ⟨_, rfl⟩
            try rw [← hW6]
            have HSL6 : RowKit.Hid (SlA clC 2 Cl.ok W6 (some ⟨g5, 0, none⟩) u d5 (lsC cls j)) := Lib.hid (by rw [hW6]; exact less_row HR5.out HCN.out hud5 hd5 HCL.out.2.2.2.1 HYC.out HYN.out)
            have k6 : Kept w9 W6 := by rw [hW6]; exact HKK5.out.setCell (p := ⟨g5, j * 2 + 1, none⟩) HG5.out _
            have HK6 := Lib.hid (HKR.out.trans (kk9.trans k6))
            have HKW6 := Lib.hid (HK4.out.trans HK6.out)
            clear hW6 k6 c1 f1 lc1 hix
            have HC6 := Lib.hid (HA49.out (some ⟨g3, 0, none⟩) (some ⟨g5, 0, none⟩) (i + p2) d3 d5 (lsC cls j) W6 HKW6.out (HR4.out.kept HK6.out) HSL6.out ((leftA_refl HH0.out).step HYC.out HYN.out))
            have a0 := (R0.out.kept HKW6.out 0 _ rfl).1
            have a1 := (R0.out.kept HKW6.out 1 _ rfl).1
            have la := cell_lt a0
            go_wp2_with fail
            refine HC6.out.mono ?_
            rintro e w7 ⟨A7, n7, c7, b7, rfl, hk7, hb7⟩
            have HK7 := Lib.hid (HK6.out.trans hk7)
            have HKW7 := Lib.hid (HKW6.out.trans hk7)
            have HB7 := Lib.hid hb7
            clear hk7 hb7 a0 a1 la
            cases b7 with
            | true =>
              go_wp2_with fail
              go_ret
              exact ⟨rfl, K0.out.trans HKW7.out⟩
            | false =>
              have HJK : RowKit.Hid (j ≠ k) := Lib.hid (fun e => by
                subst e
                have := HB7.out.1 HXM.out
                cases this)
              go_wp2_with fail
              go_roundw
              case rel => exact ⟨j + 1, by have := HJK.out; omega, by go_num, HK7.out⟩
              case measure => simp [intOf]; omega
end Go.Proofs.YtologmoanaccpaaGreatDoor
