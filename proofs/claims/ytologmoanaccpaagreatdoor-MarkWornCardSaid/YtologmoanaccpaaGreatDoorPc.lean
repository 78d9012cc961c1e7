/-
  Assign
-/
import Derived.Test.YtologmoanaccpaaGreatDoorPb
import Derived.Test.YtologmoanaccpaaGreatDoorOk
namespace Go.Proofs.YtologmoanaccpaaGreatDoor
set_option linter.all false
open Go.RowKit Go.Shelf

theorem cl_ok {l : List Cl} (h : clE l = 0) : l.length ≤ 10 ∧ (∀ x ∈ l, claimB x = true) ∧ (l.map Cl.own).Nodup := by
  unfold clE at h
  split at h
  · omega
  · rename_i h0
    split at h
    · rename_i h1
      split at h
      · omega
      · rename_i h2
        refine ⟨by omega, fun x hx => List.all_eq_true.1 h1 x hx, ?_⟩
        unfold repB at h2
        simpa using h2
    · omega
theorem claim_bd {x : Cl} (h : claimB x = true) : (1 ≤ x.own ∧ x.own ≤ 40) ∧ 0 ≤ x.num ∧ x.num ≤ 60 := by
  unfold claimB at h
  rw [Bool.and_eq_true, inB_iff, inB_iff] at h
  exact h
def fitsN (ms : List Mk) (fs : List Fd) (day : Int) (found : List Sg) (cls : List Cl) : List Nat := found.map fun s => ownD ms fs day s &&& clN cls
theorem clN_41 {l : List Cl} (h : ∀ x ∈ l, claimB x = true) : clN l < 2 ^ 41 := clN_lt l 0 (by decide) fun x hx => (claim_bd (h x hx)).1.2
theorem clN_0 {l : List Cl} (h : ∀ x ∈ l, claimB x = true) : (clN l).testBit 0 = false := by
  rw [clN_bit, Bool.eq_false_iff, Ne, List.any_eq_true]
  rintro ⟨x, hx, e⟩
  have := (claim_bd (h x hx)).1.1
  simp at e
  omega
theorem fitsN_cl {ms : List Mk} {fs : List Fd} {day : Int} {found : List Sg} {cls : List Cl} : ∀ f ∈ fitsN ms fs day found cls, ∀ q, f.testBit q = true → (clN cls).testBit q = true := fun f hf q hq => by
  unfold fitsN at hf
  obtain ⟨s, _, rfl⟩ := List.mem_map.1 hf
  rw [Nat.testBit_and] at hq
  simp at hq
  exact hq.2
def AsP (w : World) (ms : List Mk) (fs : List Fd) (day : Int) (found : List Sg) (cls : List Cl) (p : Nat) (e : Ending) (w' : World) : Prop :=
  ((chE ms fs day found cls ≠ 0 ∧ e = .returned (.tuple #[.slice none 0 0, .bool false, .int .i64 (chE ms fs day found cls)])) ∨
   (chE ms fs day found cls = 0 ∧ ((∃ hb ow, e = .returned (.tuple #[.slice (some ⟨hb, 0, none⟩) p p, .bool true, .int .i64 0]) ∧ HasR w' (some ⟨hb, 0, none⟩) p p hb 0 ow ∧ FirstA (fitsN ms fs day found cls) (clN cls) (wtL cls) ow ∧ w.heap.size ≤ hb) ∨
     (e = .returned (.tuple #[.slice none 0 0, .bool false, .int .i64 0]) ∧ ShA (fitsN ms fs day found cls) (clN cls) (wtL cls))))) ∧ Kept w w'
set_option maxRecDepth 100000 in
set_option maxHeartbeats 3200000 in
theorem assign_any (A B C D : Option Addr) (n c m d p q u v : Nat) (ms : List Mk) (fs : List Fd) (day : Int) (found : List Sg) (cls : List Cl) (w : World) (hs : SmA w A n c ms B m d fs) (hfo : SlA sgV 6 Sg.ok w C p q found) (hcl : SlA clC 2 Cl.ok w D u v cls) (hE : EnvT w) :
    Calls Tryz.prog 49 #[.agg #[.slice A n c, .slice B m d], .int .i64 day, .slice C p q, .slice D u v] w (AsP w ms fs day found cls p) := by
  obtain ⟨W0, hW0⟩ : ∃ W0, W0 = w.alloc (.cells #[.slice A n c, .slice B m d] 25) := ⟨_, rfl⟩
  have K0 : RowKit.Hid (Kept w W0) := Lib.hid (by rw [hW0]; exact (Kept.refl _).alloc _)
  have R0 : RowKit.Hid (RowC W0 w.heap.size [.slice A n c, .slice B m d]) := Lib.hid (by rw [hW0]; exact RowC.new w [.slice A n c, .slice B m d] 25)
  have HW := Lib.hid hW0
  have HS := Lib.hid (hs.kept K0.out)
  have HFO := Lib.hid (hfo.kept K0.out)
  have HCL := Lib.hid (hcl.kept K0.out)
  have HE := Lib.hid (hE.kept K0.out)
  have H30 : RowKit.Hid (Calls Tryz.prog 113 #[.agg #[.slice A n c, .slice B m d], .int .i64 day, .slice C p q, .slice D u v] W0 fun e w' => e = .returned (.int .i64 (chE ms fs day found cls)) ∧ Kept W0 w') := Lib.hid (checkHearing_any A B C D n c m d p q u v ms fs day found cls W0 HS.out HFO.out HCL.out)
  obtain ⟨E, hEe⟩ : ∃ E, chE ms fs day found cls = E := ⟨_, rfl⟩
  rw [hEe] at H30
  have HEE := Lib.hid hEe
  have a0 := (R0.out 0 _ rfl).1
  have a1 := (R0.out 1 _ rfl).1
  have la := cell_lt a0
  clear hW0 hs hfo hcl hE hEe
  go_enter Tryz.func49, Tryz.ntmps49
  go_upto_region 1 with (fail)
  rw [← HW.out]
  go_wp2_with fail
  refine H30.out.mono ?_
  rintro e w1 ⟨rfl, hk1⟩
  have K1 := Lib.hid hk1
  have R1 := Lib.hid (R0.out.kept hk1)
  have b0 := (R1.out 0 _ rfl).1
  have b1 := (R1.out 1 _ rfl).1
  have lb := cell_lt b0
  clear hk1 a0 a1 la
  by_cases h0 : E = 0
  · subst h0
    have hch := HEE.out
    obtain ⟨e1, e2, e3, e4⟩ := fstE_four hch
    obtain ⟨c1, c2, c3⟩ := cl_ok e4
    have H31 := Lib.hid (hear_any A B C D n c m d p q u v ms fs day found cls w1 (HS.out.kept K1.out) (HFO.out.kept K1.out) (HCL.out.kept K1.out) hch)
    have C2 := Lib.hid c2
    have C3 := Lib.hid c3
    clear hch e1 e2 e3 e4 c1 c2 c3
    go_wp2_with fail
    refine H31.out.mono ?_
    rintro e w2 ⟨F, cF, fb, fo, rfl, hfit, _, hk2⟩
    have K2 := Lib.hid (K1.out.trans hk2)
    have H32 := Lib.hid (first_any F p cF fb fo (clN cls) (wtL cls) (fitsN ms fs day found cls) w2 hfit (wtL_len _) (wtL_bd C3.out (fun x hx => (claim_bd (C2.out x hx)).1) (fun x hx => (claim_bd (C2.out x hx)).2)) (clN_41 C2.out) (clN_0 C2.out) (HE.out.kept K2.out) fitsN_cl)
    clear hfit hk2
    go_wp2_with fail
    refine H32.out.mono ?_
    rintro e w3 ⟨⟨hb, ow, rfl, hh, hf, hle⟩ | ⟨rfl, hsh⟩, hk3⟩
    · have HH := Lib.hid hh
      have HF := Lib.hid hf
      have K3 := Lib.hid (K0.out.trans (K2.out.trans hk3))
      have HLE : RowKit.Hid (w.heap.size ≤ hb) := Lib.hid (by have := K0.out.size; have := K2.out.size; omega)
      clear hh hf hk3
      go_wp2
      go_ret3
      exact ⟨.inr ⟨HEE.out, .inl ⟨hb, ow, rfl, HH.out, HF.out, HLE.out⟩⟩, K3.out⟩
    · have HSH := Lib.hid hsh
      have K3 := Lib.hid (K0.out.trans (K2.out.trans hk3))
      clear hsh hk3
      go_wp2
      go_ret3
      exact ⟨.inr ⟨HEE.out, .inr ⟨rfl, HSH.out⟩⟩, K3.out⟩
  · have h1 : (E == 0) = false := by simpa using h0
    have H0 := Lib.hid h0
    clear h0
    go_wp2_with fail
    go_ret3
    exact ⟨.inl ⟨by rw [HEE.out]; exact H0.out, by rw [HEE.out]; rfl⟩, K0.out.trans K1.out⟩
end Go.Proofs.YtologmoanaccpaaGreatDoor
