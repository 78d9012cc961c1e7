/-
  alive: what its calls return.
  alive: its calls.
  alive.
-/
import Derived.Test.YtcjpecdnenemaaaGreatDoorGQ
import Derived.Test.YtcjpecdnenemaaaGreatDoorGP
import Derived.BigQuiet
namespace Go.Proofs.YtcjpecdnenemaaaGreatDoor
set_option linter.all false
open Go.RowKit Go.Shelf

def cowB : ByteArray := ⟨#[99, 111, 119]⟩
def sheepB : ByteArray := ⟨#[115, 104, 101, 101, 112]⟩
def coupleB : ByteArray := ⟨#[99, 111, 117, 112, 108, 101]⟩
def hd2 : List Hd := [⟨cowB, 2⟩, ⟨sheepB, 10⟩]
def hd3 : List Hd := [⟨cowB, 2⟩, ⟨sheepB, 10⟩, ⟨coupleB, 5⟩]
def smpX : Eqv := ⟨4, 100, 10, sheepB, 1, 5, 0⟩
set_option maxRecDepth 100000
theorem al_norm : normS 6 (-8) = (-3, 4, 0) := by kernel_rfl
theorem al_mul : mulS 2 3 3 4 = (1, 2, 0) := by kernel_rfl
theorem al_of : ofS smpT sheepB 150 15 = (smpX, 0) := by kernel_rfl
theorem al_uses0 : eachE smpT hd2 0 1 0 0 = 0 := by kernel_rfl
theorem al_uses : excF ((eachL smpT hd2 0 0).zip (hd2.map (·.num))) 0 1 = some (9, 2) := by kernel_rfl
theorem al_ex : exS smpT cowB sheepB 3 0 0 = (12, 0) := by kernel_rfl
theorem al_ex1 : inForceS smpT cowB 0 0 = some ⟨1, 0, 0, cowB, 1, 1, 0⟩ := by kernel_rfl
theorem al_ex2 : inForceS smpT sheepB 0 0 = some ⟨2, 0, 0, sheepB, 1, 4, 0⟩ := by kernel_rfl
theorem al_most : mostS smpT coupleB 5 2 0 0 = (6, 0) := by kernel_rfl
theorem al_fill0 : eachE smpT hd3 4 1 0 0 = 0 := by kernel_rfl
theorem al_fill : fillS (4, 1) ((eachL smpT hd3 0 0).zip hd3) = some ((0, 1), [⟨cowB, 2⟩, ⟨sheepB, 8⟩, ⟨coupleB, 0⟩]) := by kernel_rfl
theorem al_div : divS 5 2 [1, 2, 2] = ([(1, 2), (1, 1), (1, 1)], 0) := by kernel_rfl
theorem al_sum : sumOfS [1, 1, 1] (inB 10 0 1000000000) = (3, 0) := by kernel_rfl
end Go.Proofs.YtcjpecdnenemaaaGreatDoor

namespace Go.Proofs.YtcjpecdnenemaaaGreatDoor
set_option linter.all false
open Go.RowKit Go.Shelf
set_option maxRecDepth 100000
theorem al_whole : wholeL 10 [1, 1, 1] 2 = [4, 3, 3] := by kernel_rfl
theorem al_frm : frmS smpT sheepB = [0, 100] := by kernel_rfl
theorem al_ms : ([0, 100] : List Int).mergeSort (fun x y => decide (x ≤ y)) = [0, 100] := by first | exact List.mergeSort_of_pairwise (by simp) | exact List.mergeSort_of_pairwise (by decide) | decide | (simp [List.mergeSort, List.merge]; done)
theorem al_starts : startsS smpT sheepB = [0, 100] := by
  unfold startsS
  rw [al_frm, al_ms]
  kernel_rfl
theorem al_turns : turnsS smpT sheepB 15 = [0, 100] := by
  unfold turnsS
  rw [al_starts, if_pos smp_chk]
  kernel_rfl

/-- ints in memory, to be read -/
def RowV (W : World) (b : Nat) (zs : List Int) : Prop := ∀ (j : Nat) z, zs[j]? = some z → W.cell? ⟨b, j, none⟩ = some (.int .i64 z)
theorem c_norm (W : World) : Calls Tryz.prog 19 #[.int .i64 6, .int .i64 (-8)] W fun e w' => e = .returned (.tuple #[.agg #[.int .i64 (-3), .int .i64 4], .int .i64 0]) ∧ Kept W w' := by
  have := norm_any 6 (-8) W
  rwa [al_norm] at this
theorem c_mul (W : World) : Calls Tryz.prog 31 #[.agg #[.int .i64 2, .int .i64 3], .agg #[.int .i64 3, .int .i64 4]] W fun e w' => e = .returned (.tuple #[.agg #[.int .i64 1, .int .i64 2], .int .i64 0]) ∧ Kept W w' := by
  have := mul_any 2 3 3 4 W
  rwa [al_mul] at this
theorem c_of (W : World) (A : Option Addr) (c : Nat) (hT : TabA W A 5 c smpT) : Calls Tryz.prog 48 #[.slice A 5 c, .string ⟨#[115, 104, 101, 101, 112]⟩, .int .i64 150, .int .i64 15] W fun e w' => e = .returned (.tuple #[.agg #[.int .i64 4, .int .i64 100, .int .i64 10, .string ⟨#[115, 104, 101, 101, 112]⟩, .int .i64 1, .int .i64 5, .int .i64 0], .int .i64 0]) ∧ Kept W w' := by
  have := of_any A 5 c smpT sheepB 150 15 W hT (by omega)
  rwa [al_of] at this
theorem heads2 (W : World) (b : Nat) (h : RowC W b [.string ⟨#[99, 111, 119]⟩, .int .i64 2, .string ⟨#[115, 104, 101, 101, 112]⟩, .int .i64 10]) : HeadsA W (some ⟨b, 0, none⟩) 2 2 hd2 := by
  refine ⟨rfl, by omega, by omega, fun x hx => ?_, fun _ => ⟨b, 0, rfl, fun i x hx => ?_⟩⟩
  · simp [hd2] at hx
    rcases hx with rfl | rfl <;> exact ⟨by decide, by decide, by decide⟩
  · match i, hx with
    | 0, hx => cases hx; exact ⟨(h 0 _ rfl).1, (h 1 _ rfl).1⟩
    | 1, hx => cases hx; exact ⟨(h 2 _ rfl).1, (h 3 _ rfl).1⟩
    | i + 2, hx => simp [hd2] at hx
theorem heads3 (W : World) (b : Nat) (h : RowC W b [.string ⟨#[99, 111, 119]⟩, .int .i64 2, .string ⟨#[115, 104, 101, 101, 112]⟩, .int .i64 10, .string ⟨#[99, 111, 117, 112, 108, 101]⟩, .int .i64 5]) : HeadsA W (some ⟨b, 0, none⟩) 3 3 hd3 := by
  refine ⟨rfl, by omega, by omega, fun x hx => ?_, fun _ => ⟨b, 0, rfl, fun i x hx => ?_⟩⟩
  · simp [hd3] at hx
    rcases hx with rfl | rfl | rfl <;> exact ⟨by decide, by decide, by decide⟩
  · match i, hx with
    | 0, hx => cases hx; exact ⟨(h 0 _ rfl).1, (h 1 _ rfl).1⟩
    | 1, hx => cases hx; exact ⟨(h 2 _ rfl).1, (h 3 _ rfl).1⟩
    | 2, hx => cases hx; exact ⟨(h 4 _ rfl).1, (h 5 _ rfl).1⟩
    | i + 3, hx => simp [hd3] at hx
theorem c_uses (W : World) (A : Option Addr) (c b : Nat) (hT : TabA W A 5 c smpT) (h : RowC W b [.string ⟨#[99, 111, 119]⟩, .int .i64 2, .string ⟨#[115, 104, 101, 101, 112]⟩, .int .i64 10]) :
    Calls Tryz.prog 59 #[.slice A 5 c, .slice (some ⟨b, 0, none⟩) 2 2, .int .i64 0, .int .i64 0] W fun e w' => e = .returned (.tuple #[.agg #[.int .i64 9, .int .i64 2], .int .i64 0]) ∧ Kept W w' :=
  uses_ok A 5 c smpT _ 2 2 hd2 0 0 9 2 W hT (by omega) (heads2 W b h) al_uses0 al_uses
theorem c_ex (W : World) (A : Option Addr) (c : Nat) (hT : TabA W A 5 c smpT) : Calls Tryz.prog 68 #[.slice A 5 c, .string ⟨#[99, 111, 119]⟩, .string ⟨#[115, 104, 101, 101, 112]⟩, .int .i64 3, .int .i64 0, .int .i64 0] W fun e w' => e = .returned (.tuple #[.int .i64 12, .int .i64 0]) ∧ Kept W w' := by
  have := exchange_any A 5 c smpT cowB sheepB 3 0 0 W hT (by omega) (fun x y hx hy _ => by
    rw [al_ex1] at hx; rw [al_ex2] at hy; cases hx; cases hy; decide)
  rwa [al_ex] at this
theorem c_most (W : World) (A : Option Addr) (c : Nat) (hT : TabA W A 5 c smpT) : Calls Tryz.prog 66 #[.slice A 5 c, .string ⟨#[99, 111, 117, 112, 108, 101]⟩, .agg #[.int .i64 5, .int .i64 2], .int .i64 0, .int .i64 0] W fun e w' => e = .returned (.tuple #[.int .i64 6, .int .i64 0]) ∧ Kept W w' := by
  have := most_any A 5 c smpT coupleB 5 2 0 0 W hT (by omega)
  rwa [al_most] at this
theorem c_fill (W : World) (A : Option Addr) (c b : Nat) (hb : b < W.heap.size) (hT : TabA W A 5 c smpT) (h : RowC W b [.string ⟨#[99, 111, 119]⟩, .int .i64 2, .string ⟨#[115, 104, 101, 101, 112]⟩, .int .i64 10, .string ⟨#[99, 111, 117, 112, 108, 101]⟩, .int .i64 5]) :
    Calls Tryz.prog 63 #[.slice A 5 c, .slice (some ⟨b, 0, none⟩) 3 3, .agg #[.int .i64 4, .int .i64 1], .int .i64 0, .int .i64 0] W fun e w' => ∃ g cap, e = .returned (.tuple #[.slice (some ⟨g, 0, none⟩) 3 cap, .int .i64 0]) ∧ w'.cell? ⟨g, 3, none⟩ = some (.int .i64 8) ∧ w'.cell? ⟨g, 5, none⟩ = some (.int .i64 0) ∧ 3 ≤ cap ∧ Kept W w' := by
  refine (fill_ok A 5 c smpT _ 3 3 hd3 4 1 0 0 0 1 _ W hT (by omega) (heads3 W b h) (fun b' off e => by injection e with e; injection e with e; omega) al_fill0 al_fill).mono ?_
  rintro e w' ⟨v, ⟨rfl, ho⟩, hk⟩
  rcases own_form ho with ⟨_, h0⟩ | ⟨g, cap, rfl, h1, _⟩
  · simp at h0
  · exact ⟨g, cap, rfl, by rw [ho.cellAt 3 (by simp)]; rfl, by rw [ho.cellAt 5 (by simp)]; rfl, h1, hk⟩
theorem ints_of (W : World) (b : Nat) (zs : List Int) (hb : zs.length ≤ 100) (hz : ∀ z ∈ zs, 0 ≤ z ∧ z ≤ 100) (h : RowC W b (zs.map (Value.int .i64))) : IntsA W (some ⟨b, 0, none⟩) zs.length zs.length zs :=
  ⟨rfl, by omega, by omega, fun z h => by have := hz z h; omega, fun _ => ⟨b, 0, rfl, fun j z hj => by rw [Nat.zero_add]; exact (h j _ (by rw [List.getElem?_map, hj]; rfl)).1⟩⟩
theorem c_div (W : World) (b : Nat) (h : RowC W b [.int .i64 1, .int .i64 2, .int .i64 2]) : Calls Tryz.prog 70 #[.agg #[.int .i64 5, .int .i64 2], .slice (some ⟨b, 0, none⟩) 3 3] W fun e w' => ∃ g, e = .returned (.tuple #[.slice (some ⟨g, 0, none⟩) 3 3, .int .i64 0]) ∧ RowC w' g [.int .i64 1, .int .i64 2, .int .i64 1, .int .i64 1, .int .i64 1, .int .i64 1] ∧ Kept W w' := by
  refine (divide_any (some ⟨b, 0, none⟩) 3 3 [1, 2, 2] 5 2 W (ints_of W b [1, 2, 2] (by decide) (by decide) h)).mono ?_
  rw [al_div]
  rintro e w' ⟨⟨h, _⟩ | ⟨_, g, rfl, _, hr⟩, hk⟩
  · exact absurd rfl h
  · exact ⟨g, rfl, hr, hk⟩
theorem c_whole (W : World) (b : Nat) (h : RowC W b [.int .i64 1, .int .i64 1, .int .i64 1]) : Calls Tryz.prog 72 #[.int .i64 10, .slice (some ⟨b, 0, none⟩) 3 3] W fun e w' => ∃ g, e = .returned (.tuple #[.slice (some ⟨g, 0, none⟩) 3 3, .int .i64 0]) ∧ RowC w' g [.int .i64 4, .int .i64 3, .int .i64 3] ∧ Kept W w' := by
  refine (whole_few (some ⟨b, 0, none⟩) 3 3 [1, 1, 1] 10 W (ints_of W b [1, 1, 1] (by decide) (by decide) h) (by omega)).mono ?_
  rintro e w' ⟨⟨h, _⟩ | ⟨_, g, rfl, _, hr⟩, hk⟩
  · rw [al_sum] at h; exact absurd rfl h
  · refine ⟨g, rfl, ?_, hk⟩
    rw [show ([1, 1, 1] : List Int).length - 1 = 2 from rfl, al_whole] at hr
    exact hr
theorem c_turns (W : World) (A : Option Addr) (c : Nat) (hT : TabA W A 5 c smpT) : Calls Tryz.prog 54 #[.slice A 5 c, .string ⟨#[115, 104, 101, 101, 112]⟩, .int .i64 15] W fun e w' => ∃ g cap, e = .returned (.slice (some ⟨g, 0, none⟩) 2 cap) ∧ w'.cell? ⟨g, 0, none⟩ = some (.int .i64 0) ∧ w'.cell? ⟨g, 1, none⟩ = some (.int .i64 100) ∧ 2 ≤ cap ∧ Kept W w' := by
  have := turns_any A 5 c smpT sheepB 15 W hT (by omega)
  rw [al_turns] at this
  refine this.mono ?_
  rintro e w' ⟨v, rfl, ho, hk⟩
  rcases own_form ho with ⟨_, h0⟩ | ⟨g, cap, rfl, h1, _⟩
  · simp at h0
  · exact ⟨g, cap, rfl, by rw [ho.cellAt 0 (by simp)]; rfl, by rw [ho.cellAt 1 (by simp)]; rfl, h1, hk⟩
theorem c_equal (W : World) (g1 c1 g2 c2 : Nat) (zs : List Int) (hl : zs.length ≤ 100) (h1 : RowV W g1 zs) (h2 : RowV W g2 zs) : Calls Tryz.prog 53 #[.slice (some ⟨g1, 0, none⟩) zs.length c1, .slice (some ⟨g2, 0, none⟩) zs.length c2] W fun e w' => e = .returned (.bool true) ∧ Kept W w' := by
  refine (Tryz.slices_Equal_int g1 0 zs.length c1 g2 0 zs.length c2 zs zs W (by omega) (by omega) (by omega) (by omega) (fun j hj => ?_) (fun j hj => ?_)).mono ?_
  · rw [Nat.zero_add, h1 j _ (List.getElem?_eq_getElem hj)]; simp [List.getD, List.getElem?_eq_getElem hj]
  · rw [Nat.zero_add, h2 j _ (List.getElem?_eq_getElem hj)]; simp [List.getD, List.getElem?_eq_getElem hj]
  · rintro e w' ⟨rfl, q, rfl⟩
    exact ⟨by simp, (Kept.refl _).drewN q⟩
end Go.Proofs.YtcjpecdnenemaaaGreatDoor

namespace Go.Proofs.YtcjpecdnenemaaaGreatDoor
set_option linter.all false
open Go.RowKit Go.Shelf

theorem RowC.at1 {W : World} {vs : List Value} {t : TypeId} {m : Nat} (h : W.heap.size = m) : RowC (W.alloc (.cells vs.toArray t)) m vs := by subst h; exact RowC.new W vs t
theorem RowC.ints {W : World} {b : Nat} {zs : List Int} (h : RowC W b (zs.map (Value.int .i64))) : RowV W b zs := fun j z hz => (h j _ (by rw [List.getElem?_map, hz]; rfl)).1
theorem RowV.kept {W W' : World} {b : Nat} {zs : List Int} (h : RowV W b zs) (hk : Kept W W') : RowV W' b zs := fun j z hz => (hk.cells _ _ (cell_lt (h j z hz))).trans (h j z hz)

set_option maxRecDepth 100000 in
set_option maxHeartbeats 3200000 in
theorem alive_any (w : World) (hE : Env w) : Calls Tryz.prog 33 #[] w fun e w' => e = .returned (.bool true) ∧ Kept w w' := by
  have HE := Lib.hid hE
  clear hE
  go_enter Tryz.func33, Tryz.ntmps33
  go_wp2_with fail
  refine (sample_any w HE.out).mono ?_
  rintro e w1 ⟨v, ⟨rfl, hown⟩, hk1⟩
  obtain ⟨A, c, rfl⟩ : ∃ A c, v = .slice A 5 c := by
    rcases own_form hown with ⟨_, h0⟩ | ⟨g, c, e, _⟩
    · omega
    · exact ⟨_, c, e⟩
  have HT := Lib.hid (own_tabA hown rfl smp_sort)
  have HK1 := Lib.hid hk1
  clear hown hk1
  go_wp2_with fail
  refine (c_norm _).mono ?_
  rintro e w2 ⟨rfl, hk2⟩
  have H2 := Lib.hid (RowC.new w2 [.int .i64 (-3), .int .i64 4] 23)
  have K2 := Lib.hid hk2
  clear hk2
  go_wp2_with fail
  refine (c_mul _).mono ?_
  rintro e w3 ⟨rfl, hk3⟩
  have H3 := Lib.hid (RowC.new w3 [.int .i64 1, .int .i64 2] 23)
  have S3 := Lib.hid hk3
  have K3 := Lib.hid ((K2.out.alloc _).trans hk3)
  clear hk3
  go_wp2_with fail
  refine (c_of _ A c (HT.out.kept (K3.out.alloc _))).mono ?_
  rintro e w4 ⟨rfl, hk4⟩
  have H4 := Lib.hid (RowC.new w4 [.int .i64 4, .int .i64 100, .int .i64 10, .string ⟨#[115, 104, 101, 101, 112]⟩, .int .i64 1, .int .i64 5, .int .i64 0] 37)
  have S4 := Lib.hid hk4
  have K4 := Lib.hid ((K3.out.alloc _).trans hk4)
  clear hk4
  go_wp2_with fail
  refine (c_uses _ A c (w4.heap.size + 1) (HT.out.kept ((K4.out.alloc _).alloc _)) (RowC.at1 (vs := [.string ⟨#[99, 111, 119]⟩, .int .i64 2, .string ⟨#[115, 104, 101, 101, 112]⟩, .int .i64 10]) (by simp))).mono ?_
  rintro e w5 ⟨rfl, hk5⟩
  have H5 := Lib.hid (RowC.new w5 [.int .i64 9, .int .i64 2] 23)
  have S5 := Lib.hid (((Kept.refl _).alloc _).trans hk5)
  have K5 := Lib.hid (((K4.out.alloc _).alloc _).trans hk5)
  clear hk5
  go_wp2_with fail
  refine (c_ex _ A c (HT.out.kept (K5.out.alloc _))).mono ?_
  rintro e w6 ⟨rfl, hk6⟩
  have S6 := Lib.hid hk6
  have K6 := Lib.hid ((K5.out.alloc _).trans hk6)
  clear hk6
  go_wp2_with fail
  refine (c_most _ A c (HT.out.kept K6.out)).mono ?_
  rintro e w7 ⟨rfl, hk7⟩
  have S7 := Lib.hid hk7
  have K7 := Lib.hid (K6.out.trans hk7)
  clear hk7
  go_wp2_with fail
  refine (c_fill _ A c w7.heap.size (by simp) (HT.out.kept (K7.out.alloc _)) (RowC.at1 (vs := [.string ⟨#[99, 111, 119]⟩, .int .i64 2, .string ⟨#[115, 104, 101, 101, 112]⟩, .int .i64 10, .string ⟨#[99, 111, 117, 112, 108, 101]⟩, .int .i64 5]) rfl)).mono ?_
  rintro e w8 ⟨gf, cf, rfl, f3, f5, hcf, hk8⟩
  have F3 := Lib.hid f3
  have F5 := Lib.hid f5
  have S8 := Lib.hid (((Kept.refl _).alloc _).trans hk8)
  have K8 := Lib.hid ((K7.out.alloc _).trans hk8)
  clear hk8 f3 f5
  go_wp2_with fail
  refine (c_div _ w8.heap.size (RowC.at1 (vs := [.int .i64 1, .int .i64 2, .int .i64 2]) rfl)).mono ?_
  rintro e w9 ⟨gd, rfl, hd, hk9⟩
  have HD := Lib.hid hd
  have S9 := Lib.hid (((Kept.refl w8).alloc _).trans hk9)
  have K9 := Lib.hid ((K8.out.alloc _).trans hk9)
  clear hk9 hd
  go_wp2_with fail
  refine (c_whole _ w9.heap.size (RowC.at1 (vs := [.int .i64 1, .int .i64 1, .int .i64 1]) rfl)).mono ?_
  rintro e w10 ⟨gw, rfl, hw, hk10⟩
  have HW := Lib.hid hw
  have S10 := Lib.hid (((Kept.refl w9).alloc _).trans hk10)
  have K10 := Lib.hid ((K9.out.alloc _).trans hk10)
  clear hk10 hw
  have kf := S9.out.trans S10.out
  have f3 := (kf.cells _ _ (cell_lt F3.out)).trans F3.out
  have f5 := (kf.cells _ _ (cell_lt F5.out)).trans F5.out
  clear kf
  go_wp2_with fail
  refine (c_equal _ gw 3 w10.heap.size 3 [4, 3, 3] (by decide) ((RowC.ints (zs := [4, 3, 3]) HW.out).kept ((Kept.refl _).alloc _)) (RowC.ints (zs := [4, 3, 3]) (RowC.at1 (vs := [.int .i64 4, .int .i64 3, .int .i64 3]) rfl))).mono ?_
  rintro e w11 ⟨rfl, hk11⟩
  have S11 := Lib.hid (((Kept.refl w10).alloc _).trans hk11)
  have K11 := Lib.hid ((K10.out.alloc _).trans hk11)
  clear hk11
  go_wp2_with fail
  refine (c_turns _ A c (HT.out.kept K11.out)).mono ?_
  rintro e w12 ⟨gt, ct, rfl, t0, t1, hct, hk12⟩
  have hrt : RowV w12 gt [0, 100] := by
    intro j z hz
    match j, hz with
    | 0, hz => cases hz; exact t0
    | 1, hz => cases hz; exact t1
    | j + 2, hz => simp at hz
  have HRt := Lib.hid hrt
  have S12 := Lib.hid hk12
  have K12 := Lib.hid (K11.out.trans hk12)
  clear hk12 t0 t1 hrt
  go_wp2_with fail
  refine (c_equal _ gt ct w12.heap.size 2 [0, 100] (by decide) (HRt.out.kept ((Kept.refl _).alloc _)) (RowC.ints (zs := [0, 100]) (RowC.at1 (vs := [.int .i64 0, .int .i64 100]) rfl))).mono ?_
  rintro e w13 ⟨rfl, hk13⟩
  have S13 := Lib.hid (((Kept.refl w12).alloc _).trans hk13)
  have K13 := Lib.hid ((K12.out.alloc _).trans hk13)
  have D13 := S10.out.trans (S11.out.trans (S12.out.trans S13.out))
  have k8 := S8.out.trans (S9.out.trans D13)
  have k5 := S6.out.trans (S7.out.trans k8)
  have r5 := H5.out.kept k5
  have k4 := (S5.out.trans ((Kept.refl _).alloc _)).trans k5
  have r4 := H4.out.kept k4
  have k3 := (S4.out.trans ((Kept.refl _).alloc _)).trans k4
  have r3 := H3.out.kept k3
  have r2 := H2.out.kept ((S3.out.trans ((Kept.refl _).alloc _)).trans k3)
  have rd := HD.out.kept D13
  have a0 := (r2 0 _ rfl).1
  have a1 := (r2 1 _ rfl).1
  have b0 := (r3 0 _ rfl).1
  have b1 := (r3 1 _ rfl).1
  have x0 := (r4 0 _ rfl).1
  have u0 := (r5 0 _ rfl).1
  have u1 := (r5 1 _ rfl).1
  have d0 := (rd 0 _ rfl).1
  have d1 := (rd 1 _ rfl).1
  have d2 := (rd 2 _ rfl).1
  have d3 := (rd 3 _ rfl).1
  clear D13 k8 k5 r5 k4 r4 k3 r3 r2 rd f3 f5
  go_wp2_with fail
  go_quiet (fail)
  go_wp2
  go_ret
  refine ⟨rfl, ?_⟩
  have KK := HK1.out.trans K13.out
  first
    | exact KK
    | exact KK.drew
    | exact KK.drewN _
    | exact KK.trans (by assumption)
end Go.Proofs.YtcjpecdnenemaaaGreatDoor
