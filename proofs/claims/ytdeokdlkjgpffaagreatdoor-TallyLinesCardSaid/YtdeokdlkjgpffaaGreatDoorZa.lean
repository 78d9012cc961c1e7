/- the reference's digits -/
import Derived.Test.YtdeokdlkjgpffaaGreatDoorXd
import Derived.Laws.IdiomStrings
namespace Go.Proofs.YtdeokdlkjgpffaaGreatDoor
set_option linter.all false
open Go.RowKit Go.Shelf

def digB (n : Nat) : ByteArray := ⟨(Lib.decDigits n).toArray⟩
theorem digB_size {n : Nat} (h : n ≤ 9223372036854775807) : (digB n).size ≤ 21 := by
  have := itoaB_len (n : Int) (by omega) (by omega)
  unfold itoaB at this
  rw [show Lib.itoa (n : Int) = Lib.decDigits n by unfold Lib.itoa; rw [if_neg (by omega)]; simp] at this
  show (digB n).data.size ≤ 21
  unfold digB
  simpa using this
set_option maxRecDepth 100000 in
set_option maxHeartbeats 1600000 in
theorem digits_any (n : Nat) : n ≤ 9223372036854775807 → ∀ w : World, Calls Tryz.prog 52 #[.int .i64 n] w fun e w' => e = .returned (.string (digB n)) ∧ Kept w w' := by
  induction n using Nat.strongRecOn with
  | ind n ih =>
    intro hn w
    by_cases h : n < 10
    · have hb : digB n = ⟨#[UInt8.ofNat (48 + n)]⟩ := by unfold digB; rw [Lib.decDigits_one h]
      have HB := Lib.hid hb
      clear hb ih
      have hv : ((UInt8.ofNat (48 + n)).toNat : Int) = 48 + (n : Int) := by rw [UInt8.toNat_ofNat']; omega
      have hd : (convert 99 9 (.slice (some ⟨w.heap.size, 0, none⟩) 1 1)).run Tryz.prog (w.alloc (.cells #[.int .u8 (48 + (n : Int))] 5)) = .ok (.string ⟨#[UInt8.ofNat (48 + n)]⟩) (w.alloc (.cells #[.int .u8 (48 + (n : Int))] 5)) := by
        have h9 := run_convert_bytes_back (P := Tryz.prog) (w.alloc (.cells #[.int .u8 (48 + (n : Int))] 5)) 99 9 5 ⟨w.heap.size, 0, none⟩ 1 [UInt8.ofNat (48 + n)] Tryz.underlying99 Tryz.underlying5 Tryz.underlying9 (by
          intro j hj
          match j, hj with
          | 0, _ => rw [show ((⟨w.heap.size, 0, none⟩ : Addr).add 0) = ⟨w.heap.size, 0, none⟩ by rfl, cell_of_row _ _ _ _ _ _ (heap_alloc_new w _)]; simp [hv]; omega)
        exact h9
      clear hv
      go_enter Tryz.func52, Tryz.ntmps52
      go_wp2
      go_ret
      exact ⟨by rw [HB.out]; simp, (Kept.refl _).alloc _⟩
    · have H1 := Lib.hid (ih (n / 10) (by omega) (by omega))
      have H2 := Lib.hid (ih (n % 10) (by omega) (by omega))
      have c1 : ((n / 10 : Nat) : Int) = (n : Int) / 10 := by omega
      have c2 : ((n % 10 : Nat) : Int) = (n : Int) % 10 := by omega
      rw [c1] at H1
      rw [c2] at H2
      have HB : RowKit.Hid (digB n = digB (n / 10) ++ digB (n % 10)) := Lib.hid (by
        unfold digB
        rw [Lib.decDigits, dif_neg h, Lib.decDigits_one (show n % 10 < 10 by omega)]
        simp [ByteArray.ext_iff])
      have HS1 : RowKit.Hid ((digB (n / 10)).size ≤ 21) := Lib.hid (digB_size (by omega))
      have HS2 : RowKit.Hid ((digB (n % 10)).size ≤ 21) := Lib.hid (digB_size (by omega))
      clear ih c1 c2
      go_enter Tryz.func52, Tryz.ntmps52
      go_wp2_with fail
      refine (H1.out _).mono ?_
      rintro e w1 ⟨rfl, hk1⟩
      have K1 := Lib.hid hk1
      clear hk1
      go_wp2_with fail
      refine (H2.out _).mono ?_
      rintro e w2 ⟨rfl, hk2⟩
      have K2 := Lib.hid (K1.out.trans hk2)
      clear hk2
      go_wp2
      · exfalso
        have h1 := HS1.out
        have h2 := HS2.out
        rename_i hbig
        clear HS1 HS2
        omega
      · go_ret
        exact ⟨by rw [HB.out]; rfl, K2.out⟩
end Go.Proofs.YtdeokdlkjgpffaaGreatDoor
