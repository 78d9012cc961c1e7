/-
  the shelf's contracts of strings.Split and slices.Index at this program (lay-shelf.mjs, lay-plain.mjs, prune.py)
  reading what is seen: words, read, readSigns
  reading a sight: readSigns, readAll, ReadSight, where the line has a form
  ReadSight, where the line has a form
-/
import Derived.Test.YtologmoanaccpaaGreatDoorProg
import Derived.Test.YtologmoanaccpaaGreatDoorMb
import Derived.Test.YtologmoanaccpaaGreatDoorMm
import Derived.Shelf.Strings.Split
import Derived.Shelf.Slices.Turned
import Derived.Ground.Names2Prog
namespace Go.Proofs
def Tryz.lays146_ren : Go.Shelf.Ren := ⟨fun | 146 => 138 | 221 => 193 | 268 => 216 | 138 => 217 | 143 => 218 | 195 => 241 | 197 => 242 | 218 => 243 | 219 => 244 | 260 => 258 | 217 => 259 | 225 => 260 | 224 => 261 | 267 => 262 | 266 => 268 | 314 => 269 | n => n, fun | 9 => 9 | 31 => 172 | 3 => 3 | 4 => 4 | 0 => 0 | 105 => 274 | 21 => 21 | 5 => 5 | 46 => 212 | 119 => 298 | 139 => 301 | 138 => 300 | 146 => 302 | 51 => 247 | n => n, fun | 1 => 2 | 3 => 5 | 4 => 6 | n => n⟩
theorem Tryz.lays146 : Go.Proofs.Lays.n146 Tryz.prog Tryz.lays146_ren := {
  mixed := by kernel_rfl
  f138 := Tryz.func217.trans (congrArg some (by kernel_rfl))
  f143 := Tryz.func218.trans (congrArg some (by kernel_rfl))
  f146 := Tryz.func138.trans (congrArg some (by kernel_rfl))
  f195 := Tryz.func241.trans (congrArg some (by kernel_rfl))
  f197 := Tryz.func242.trans (congrArg some (by kernel_rfl))
  f217 := Tryz.func259.trans (congrArg some (by kernel_rfl))
  f218 := Tryz.func243.trans (congrArg some (by kernel_rfl))
  f219 := Tryz.func244.trans (congrArg some (by kernel_rfl))
  f221 := Tryz.func193.trans (congrArg some (by kernel_rfl))
  f224 := Tryz.func261.trans (congrArg some (by kernel_rfl))
  f225 := Tryz.func260.trans (congrArg some (by kernel_rfl))
  f260 := Tryz.func258.trans (congrArg some (by kernel_rfl))
  f266 := Tryz.func268.trans (congrArg some (by kernel_rfl))
  f267 := Tryz.func262.trans (congrArg some (by kernel_rfl))
  f268 := Tryz.func216.trans (congrArg some (by kernel_rfl))
  f314 := Tryz.func269.trans (congrArg some (by kernel_rfl))
  t0 := Tryz.underlying0
  a0 := Tryz.isAgg0
  z0 := Tryz.sizeOf0
  v0 := Tryz.zeroValue0
  t3 := Tryz.underlying3
  a3 := Tryz.isAgg3
  z3 := Tryz.sizeOf3
  v3 := Tryz.zeroValue3
  t4 := Tryz.underlying4
  a4 := Tryz.isAgg4
  z4 := Tryz.sizeOf4
  v4 := Tryz.zeroValue4
  t5 := Tryz.underlying5
  a5 := Tryz.isAgg5
  z5 := Tryz.sizeOf5
  v5 := Tryz.zeroValue5
  t9 := Tryz.underlying9
  a9 := Tryz.isAgg9
  z9 := Tryz.sizeOf9
  v9 := Tryz.zeroValue9
  t21 := Tryz.underlying21
  a21 := Tryz.isAgg21
  z21 := Tryz.sizeOf21
  v21 := Tryz.zeroValue21
  t31 := Tryz.underlying172
  a31 := Tryz.isAgg172
  z31 := Tryz.sizeOf172
  v31 := Tryz.zeroValue172
  t46 := Tryz.underlying212
  a46 := Tryz.isAgg212
  z46 := Tryz.sizeOf212
  v46 := Tryz.zeroValue212
  t51 := Tryz.underlying247
  a51 := Tryz.isAgg247
  z51 := Tryz.sizeOf247
  v51 := Tryz.zeroValue247
  t105 := Tryz.underlying274
  a105 := Tryz.isAgg274
  z105 := Tryz.sizeOf274
  v105 := Tryz.zeroValue274
  t119 := Tryz.underlying298
  a119 := Tryz.isAgg298
  z119 := Tryz.sizeOf298
  t138 := Tryz.underlying300
  a138 := Tryz.isAgg300
  z138 := Tryz.sizeOf300
  v138 := Tryz.zeroValue300
  t139 := Tryz.underlying301
  a139 := Tryz.isAgg301
  z139 := Tryz.sizeOf301
  v139 := Tryz.zeroValue301
  t146 := Tryz.underlying302
  a146 := Tryz.isAgg302
  z146 := Tryz.sizeOf302
  v146 := Tryz.zeroValue302
  g1 := by kernel_rfl
  g3 := by kernel_rfl
  g4 := by kernel_rfl }
open Go.RowKit Go.Lib in
/-- strings.Split. (LAID: no walk: one application.) -/
theorem Tryz.strings_Split (s sep : ByteArray) (m : Int) (w : World) (hs : s.size < 4294967281) (hm : w.cell? ⟨2, 0, none⟩ = some (.int .i64 m)) (h1 : 1 ≤ sep.size) :
    Calls Tryz.prog 138 #[.string s, .string sep] w fun e w' =>
      e = .returned (.slice (some ⟨w.heap.size, 0, none⟩) (Lib.countB s sep + 1) (Lib.countB s sep + 1)) ∧ w' = w.alloc (.cells ((Lib.splitB sep 0 (Lib.countB s sep) s).map Value.string).toArray 9) := Any.strings_Split Tryz.lays146 (by kernel_rfl) s sep m w hs hm h1
def Tryz.lays109_ren : Go.Shelf.Ren := ⟨fun | 109 => 221 | n => n, fun | 31 => 172 | 9 => 9 | 3 => 3 | 0 => 0 | 4 => 4 | n => n, fun | n => n⟩
theorem Tryz.lays109 : Go.Proofs.Lays.n109 Tryz.prog Tryz.lays109_ren := {
  mixed := by kernel_rfl
  f109 := Tryz.func221.trans (congrArg some (by kernel_rfl))
  t0 := Tryz.underlying0
  a0 := Tryz.isAgg0
  z0 := Tryz.sizeOf0
  v0 := Tryz.zeroValue0
  t3 := Tryz.underlying3
  a3 := Tryz.isAgg3
  z3 := Tryz.sizeOf3
  v3 := Tryz.zeroValue3
  t4 := Tryz.underlying4
  a4 := Tryz.isAgg4
  z4 := Tryz.sizeOf4
  v4 := Tryz.zeroValue4
  t9 := Tryz.underlying9
  a9 := Tryz.isAgg9
  z9 := Tryz.sizeOf9
  v9 := Tryz.zeroValue9
  t31 := Tryz.underlying172
  a31 := Tryz.isAgg172
  z31 := Tryz.sizeOf172
  v31 := Tryz.zeroValue172 }
open Go.Lib in
/-- slices.Index at []string: "Index returns the index of the first occurrence of v in s, or -1 if not present.": IT RETURNS 'Lib.idxOfS (the elements) v'; the world is as it was. 'zs': what the cells behind the slice's address hold (its spare capacity too, if you have it); 'zs.take n': its elements. (LAID: no walk: one application.) -/
theorem Tryz.slices_Index_string (b off n c : Nat) (zs : List ByteArray) (x : ByteArray) (w : World) (hz : n ≤ zs.length) (hbig : n ≤ 9223372036854775807) (hc : ∀ j, j < zs.length → w.cell? ⟨b, off + j, none⟩ = some (.string (zs.getD j ByteArray.empty))) :
    Calls Tryz.prog 221 #[.slice (some ⟨b, off, none⟩) n c, .string x] w fun e w' => e = .returned (.int .i64 (Lib.idxOfS (zs.take n) x)) ∧ w' = w := Any.slices_Index_string Tryz.lays109 b off n c zs x w hz hbig hc
end Go.Proofs

namespace Go.Proofs.YtologmoanaccpaaGreatDoor
set_option linter.all false
open Go.RowKit Go.Shelf

def earW : List ByteArray := [⟨#[112, 108, 97, 105, 110]⟩, ⟨#[99, 114, 111, 112, 112, 101, 100]⟩, ⟨#[102, 111, 114, 107, 101, 100]⟩, ⟨#[114, 105, 116, 116, 101, 100]⟩, ⟨#[104, 111, 108, 101, 100]⟩]
def smitW : List ByteArray := [⟨#[98, 97, 114, 101]⟩, ⟨#[114, 101, 100]⟩, ⟨#[98, 108, 117, 101]⟩, ⟨#[103, 114, 101, 101, 110]⟩, ⟨#[98, 108, 97, 99, 107]⟩]
def wornB : ByteArray := ⟨#[119, 111, 114, 110]⟩
def wrdV (ws : List ByteArray) : Value := .agg (ws.map Value.string).toArray
def zeroW : List Value := [.string ByteArray.empty, .string ByteArray.empty, .string ByteArray.empty, .string ByteArray.empty, .string ByteArray.empty]
set_option maxHeartbeats 2000000 in
theorem earWords_any (w : World) : Calls Tryz.prog 188 #[] w fun e w' => e = .returned (wrdV earW) ∧ Kept w w' := by
  have hi : (Tryz.prog.info? 230).map (·.size) = some 5 := by kernel_rfl
  go_enter Tryz.func188, Tryz.ntmps188
  go_upto_region 1 with (fail)
  go_wp2_with (refine wpList_store_row rfl 230 (.tmp 0) (.tmp 1) rfl w.heap.size (earW.map Value.string).toArray rfl rfl 230 zeroW.toArray (heap_alloc_new w _) (by rw [hi]; rfl) rfl rfl ?_)
  refine bodyPost_ret (v := wrdV earW) (results_cell_row (fn := Tryz.f188) (p := 0) (ty := 230) rfl _ _ w.heap.size 230 (earW.map Value.string).toArray (0, 0) _ rfl (heap_alloc_new w _) Tryz.underlying230 rfl (by rw [hi]; rfl)) rfl ⟨rfl, (Kept.refl w).alloc _⟩
set_option maxHeartbeats 2000000 in
theorem smitWords_any (w : World) : Calls Tryz.prog 190 #[] w fun e w' => e = .returned (wrdV smitW) ∧ Kept w w' := by
  have hi : (Tryz.prog.info? 230).map (·.size) = some 5 := by kernel_rfl
  go_enter Tryz.func190, Tryz.ntmps190
  go_upto_region 1 with (fail)
  go_wp2_with (refine wpList_store_row rfl 230 (.tmp 0) (.tmp 1) rfl w.heap.size (smitW.map Value.string).toArray rfl rfl 230 zeroW.toArray (heap_alloc_new w _) (by rw [hi]; rfl) rfl rfl ?_)
  refine bodyPost_ret (v := wrdV smitW) (results_cell_row (fn := Tryz.f190) (p := 0) (ty := 230) rfl _ _ w.heap.size 230 (smitW.map Value.string).toArray (0, 0) _ rfl (heap_alloc_new w _) Tryz.underlying230 rfl (by rw [hi]; rfl)) rfl ⟨rfl, (Kept.refl w).alloc _⟩
theorem need_true (w : World) : Calls Tryz.prog 139 #[.bool true] w fun e w' => e = .returned (.tuple #[]) ∧ w = w' := by
  go_enter Tryz.func139, Tryz.ntmps139
  go_wp2
  go_end0
  exact ⟨rfl, rfl⟩
/-- what is seen by a word, if it is one -/
def rdW (ws : List ByteArray) (x : ByteArray) : Int := if x = wornB then 9 else Lib.idxOfS ws x
def rdOk (ws : List ByteArray) (x : ByteArray) : Prop := x = wornB ∨ (0 ≤ Lib.idxOfS ws x ∧ Lib.idxOfS ws x < 5)
set_option maxRecDepth 100000 in
set_option maxHeartbeats 2000000 in
theorem read_good (ws : List ByteArray) (x : ByteArray) (h5 : ws.length = 5) (hg : rdOk ws x) (w : World) :
    Calls Tryz.prog 195 #[wrdV ws, .string x] w fun e w' => e = .returned (.int .u8 (rdW ws x)) ∧ Kept w w' := by
  match ws, h5 with
  | [a0, a1, a2, a3, a4], _ =>
  obtain ⟨W1, hW1⟩ : ∃ W1, W1 = w.alloc (.cells #[.string a0, .string a1, .string a2, .string a3, .string a4] 230) := ⟨_, rfl⟩
  have k1 : Kept w W1 := by rw [hW1]; exact (Kept.refl w).alloc _
  have r1 : RowC W1 w.heap.size [.string a0, .string a1, .string a2, .string a3, .string a4] := by rw [hW1]; exact RowC.new w _ 230
  have HIX := Lib.hid (Tryz.slices_Index_string w.heap.size 0 5 5 [a0, a1, a2, a3, a4] x W1 (by simp) (by omega) (fun j hj => by
    rw [Nat.zero_add]
    match j, hj with
    | 0, _ => exact (r1 0 _ rfl).1
    | 1, _ => exact (r1 1 _ rfl).1
    | 2, _ => exact (r1 2 _ rfl).1
    | 3, _ => exact (r1 3 _ rfl).1
    | 4, _ => exact (r1 4 _ rfl).1
    | j + 5, h => simp at h; omega))
  have HW1 := Lib.hid hW1
  have HK1 := Lib.hid k1
  have a0' := (r1 0 _ rfl).1
  have la := cell_lt a0'
  clear hW1 k1 r1
  by_cases hx : x = wornB
  · subst hx
    have h1 : rdW [a0, a1, a2, a3, a4] wornB = 9 := by unfold rdW; rw [if_pos rfl]
    have H1 := Lib.hid h1
    clear h1 hg
    unfold wornB wrdV
    go_enter Tryz.func195, Tryz.ntmps195
    go_wp2_with fail
    go_ret
    exact ⟨by rw [show (⟨#[119, 111, 114, 110]⟩ : ByteArray) = wornB from rfl, H1.out]; rfl, (Kept.refl _).alloc _⟩
  · obtain ⟨g1, g2⟩ := hg.resolve_left hx
    obtain ⟨z, hz⟩ : ∃ z, Lib.idxOfS [a0, a1, a2, a3, a4] x = z := ⟨_, rfl⟩
    have ht : List.take 5 [a0, a1, a2, a3, a4] = [a0, a1, a2, a3, a4] := rfl
    rw [ht] at HIX
    rw [hz] at g1 g2 HIX
    have h1 : rdW [a0, a1, a2, a3, a4] x = z := by unfold rdW; rw [if_neg hx, hz]
    have H1 := Lib.hid h1
    have hxw : (x.toList == [119, 111, 114, 110]) = false := by
      have h := (Lib.bytes_beq_false_iff x wornB).2 hx
      rw [show wornB.toList = [119, 111, 114, 110] by rw [ByteArray.toList_eq]; rfl] at h
      exact h
    have hge : decide (0 ≤ z) = true := by simp; omega
    have hcv : IntKind.u8.wrap z = z := by rw [IntKind.wrap_u8]; omega
    have HN : RowKit.Hid (∀ W, Calls Tryz.prog 139 #[.bool true] W fun e w' => e = .returned (.tuple #[]) ∧ W = w') := Lib.hid (fun W => need_true W)
    clear h1 hz hx ht hg
    unfold wrdV
    go_enter Tryz.func195, Tryz.ntmps195
    go_upto_region 1 with (fail)
    rw [← HW1.out]
    go_wp2_with fail
    refine HIX.out.mono ?_
    rintro e w2 ⟨rfl, rfl⟩
    go_wp2_with fail
    refine (HN.out _).mono ?_
    rintro e w2 ⟨rfl, rfl⟩
    go_wp2_with fail
    go_ret
    exact ⟨by rw [H1.out]; rfl, HK1.out⟩
end Go.Proofs.YtologmoanaccpaaGreatDoor

namespace Go.Proofs.YtologmoanaccpaaGreatDoor
set_option linter.all false
open Go.RowKit Go.Shelf

def rdP (k : Nat) (x : ByteArray) : Int := if k < 2 then rdW earW x else rdW smitW x
def rdPk (k : Nat) (x : ByteArray) : Prop := if k < 2 then rdOk earW x else rdOk smitW x
def rdR (ws : List ByteArray) (k : Nat) : List Value := (List.range 6).map fun i => .int .u8 (if i < k then rdP i (ws.getD i ByteArray.empty) else 0)
theorem rdR_len (ws : List ByteArray) (k : Nat) : (rdR ws k).length = 6 := by simp [rdR]
theorem rdR_set (ws : List ByteArray) {k : Nat} {x : ByteArray} (hx : ws[k]? = some x) : (rdR ws k).set k (.int .u8 (rdP k x)) = rdR ws (k + 1) := by
  unfold rdR
  apply List.ext_getElem?
  intro i
  rw [List.getElem?_set, List.length_map, List.length_range, List.getElem?_map, List.getElem?_map]
  by_cases hi : i < 6
  · rw [List.getElem?_range hi]
    by_cases h : k = i
    · subst h
      rw [if_pos rfl, if_pos hi]
      simp [hx]
    · rw [if_neg h]
      by_cases h2 : i < k
      · simp [h2, show i < k + 1 by omega]
      · simp [h2, show ¬ i < k + 1 by omega]
  · rw [List.getElem?_eq_none (by simp; omega)]
    by_cases h : k = i
    · rw [if_pos h, if_neg (by omega)]; rfl
    · rw [if_neg h]; rfl
def rdA (ws : List ByteArray) : Value := .agg (rdR ws 6).toArray
set_option maxRecDepth 100000 in
set_option maxHeartbeats 2000000 in
theorem readSigns_good (b off c : Nat) (ws : List ByteArray) (hl : ws.length = 6) (hg : ∀ k x, ws[k]? = some x → rdPk k x) (w : World) (hc : ∀ j x, ws[j]? = some x → w.cell? ⟨b, off + j, none⟩ = some (.string x)) :
    Calls Tryz.prog 141 #[.slice (some ⟨b, off, none⟩) 6 c] w fun e w' => e = .returned (rdA ws) ∧ Kept w w' := by
  have hmf : ∀ (fn : Fn) (first cap : Array Value) (w : World), (Instr.makeFunc fn first cap).run Tryz.prog w = .ok (.func fn first cap) w := fun _ _ _ _ => rfl
  obtain ⟨EW, hEW⟩ : ∃ E, wrdV earW = E := ⟨_, rfl⟩
  obtain ⟨SW, hSW⟩ : ∃ E, wrdV smitW = E := ⟨_, rfl⟩
  have H188 : RowKit.Hid (∀ W, Calls Tryz.prog 188 #[] W fun e w' => e = .returned EW ∧ Kept W w') := Lib.hid (fun W => by rw [← hEW]; exact earWords_any W)
  have H190 : RowKit.Hid (∀ W, Calls Tryz.prog 190 #[] W fun e w' => e = .returned SW ∧ Kept W w') := Lib.hid (fun W => by rw [← hSW]; exact smitWords_any W)
  have HRE : RowKit.Hid (∀ x W, rdOk earW x → Calls Tryz.prog 195 #[EW, .string x] W fun e w' => e = .returned (.int .u8 (rdW earW x)) ∧ Kept W w') := Lib.hid (fun x W h => by rw [← hEW]; exact read_good earW x rfl h W)
  have HRS : RowKit.Hid (∀ x W, rdOk smitW x → Calls Tryz.prog 195 #[SW, .string x] W fun e w' => e = .returned (.int .u8 (rdW smitW x)) ∧ Kept W w') := Lib.hid (fun x W h => by rw [← hSW]; exact read_good smitW x rfl h W)
  have HN : RowKit.Hid (∀ W, Calls Tryz.prog 139 #[.bool true] W fun e w' => e = .returned (.tuple #[]) ∧ W = w') := Lib.hid (fun W => need_true W)
  have HEA : RowKit.Hid (∀ (k : Nat) W, Calls Tryz.prog 165 #[.int .i64 (k : Int)] W fun e w' => e = .returned (.bool (decide ((k : Int) < 2))) ∧ W = w') := Lib.hid (fun k W => isEar_any k W)
  obtain ⟨W1, hW1⟩ : ∃ W1, W1 = w.alloc (.cells #[.int .u8 0, .int .u8 0, .int .u8 0, .int .u8 0, .int .u8 0, .int .u8 0] 30) := ⟨_, rfl⟩
  have k1 : Kept w W1 := by rw [hW1]; exact (Kept.refl w).alloc _
  have r1 : RowC W1 w.heap.size (rdR [] 0) := by rw [hW1]; exact RowC.new w (rdR [] 0) 30
  have HG := Lib.hid hg
  have HC := Lib.hid hc
  have HL := Lib.hid hl
  have HW1 := Lib.hid hW1
  have HK1 := Lib.hid k1
  have HR1 := Lib.hid r1
  clear hW1 k1 r1 hEW hSW hg hc hl
  go_enter Tryz.func141, Tryz.ntmps141
  go_upto_region 1 with (fail)
  rw [← HW1.out]
  go_wp2_with fail
  refine (HN.out _).mono ?_
  rintro e w2 ⟨rfl, rfl⟩
  go_wp2_with fail
  refine (H188.out _).mono ?_
  rintro e w2 ⟨rfl, hk2⟩
  have HK2 := Lib.hid hk2
  clear hk2
  go_wp2_with fail
  refine (H190.out _).mono ?_
  rintro e w3 ⟨rfl, hk3⟩
  have HK3 := Lib.hid (HK2.out.trans hk3)
  clear hk3
  go_upto_region 4 with (fail)
  obtain ⟨W4, hW4⟩ : ∃ W4, W4 = w3.alloc (.cells #[.int .u8 0, .int .u8 0, .int .u8 0, .int .u8 0, .int .u8 0, .int .u8 0] 30) := ⟨_, rfl⟩
  have k4 : Kept w3 W4 := by rw [hW4]; exact (Kept.refl _).alloc _
  have r4 : RowC W4 w3.heap.size (rdR ws 0) := by rw [hW4]; exact RowC.new w3 (rdR ws 0) 30
  have HR4 := Lib.hid r4
  have HK4 := Lib.hid k4
  rw [← hW4]
  clear hW4 k4 r4
  go_wp2_with fail
  go_loopw [19] (fun i wr => ∃ k : Nat, k ≤ 6 ∧ i = .int .i64 k ∧ RowC wr w3.heap.size (rdR ws k) ∧ Kept w3 wr) (fun i _ => 6 - (intOf i).toNat)
  case atStart => exact ⟨0, by omega, by first | rfl | go_num, HR4.out, HK4.out⟩
  case round =>
    obtain ⟨k, hk, rfl, hr, hkr⟩ := hrel
    have HR := Lib.hid hr
    have HKR := Lib.hid hkr
    have hsz := hkr.size
    clear hr hkr
    by_cases hlt : k < 6
    · obtain ⟨x, hx⟩ : ∃ x, ws[k]? = some x := ⟨_, List.getElem?_eq_getElem (by rw [HL.out]; exact hlt)⟩
      have c0 := (((HK1.out.trans HK3.out).trans HKR.out).cells _ _ (cell_lt (HC.out k x hx))).trans (HC.out k x hx)
      have lc := cell_lt c0
      have HX := Lib.hid hx
      have hgk := HG.out k x hx
      clear hx
      go_wp2_with fail
      refine (HEA.out k _).mono ?_
      rintro e w5 ⟨rfl, rfl⟩
      by_cases h2 : k < 2
      · have hd : decide ((k : Int) < 2) = true := by simp; omega
        have hgk2 : rdOk earW x := by unfold rdPk at hgk; rwa [if_pos h2] at hgk
        have HRX := Lib.hid (HRE.out x wr hgk2)
        have HPV : RowKit.Hid (rdP k x = rdW earW x) := Lib.hid (by unfold rdP; rw [if_pos h2])
        rw [hd]
        clear hgk hgk2
        go_wp2_with fail
        refine HRX.out.mono ?_
        rintro e w6 ⟨rfl, hk6⟩
        have HK6 := Lib.hid (HKR.out.trans hk6)
        have hr6 := HR.out.kept hk6
        obtain ⟨g1, g2⟩ := hr6 k _ (List.getElem?_eq_getElem (by rw [rdR_len]; exact hlt))
        have l6 := cell_lt g1
        have HR6 := Lib.hid hr6
        clear hk6 hr6 c0 lc
        go_wp2_with fail
        go_roundw
        case rel =>
          refine ⟨k + 1, by omega, by go_num, ?_, HK6.out.setCell (p := ⟨w3.heap.size, k, none⟩) (Nat.le_refl _) _⟩
          rw [← rdR_set ws HX.out, HPV.out]
          exact HR6.out.put (by rw [rdR_len]; exact hlt) _
        case measure => simp [intOf]; omega
      · have hd : decide ((k : Int) < 2) = false := by simp; omega
        have hgk2 : rdOk smitW x := by unfold rdPk at hgk; rwa [if_neg h2] at hgk
        have HRX := Lib.hid (HRS.out x wr hgk2)
        have HPV : RowKit.Hid (rdP k x = rdW smitW x) := Lib.hid (by unfold rdP; rw [if_neg h2])
        rw [hd]
        clear hgk hgk2
        go_wp2_with fail
        refine HRX.out.mono ?_
        rintro e w6 ⟨rfl, hk6⟩
        have HK6 := Lib.hid (HKR.out.trans hk6)
        have hr6 := HR.out.kept hk6
        obtain ⟨g1, g2⟩ := hr6 k _ (List.getElem?_eq_getElem (by rw [rdR_len]; exact hlt))
        have l6 := cell_lt g1
        have HR6 := Lib.hid hr6
        clear hk6 hr6 c0 lc
        go_wp2_with fail
        go_roundw
        case rel =>
          refine ⟨k + 1, by omega, by go_num, ?_, HK6.out.setCell (p := ⟨w3.heap.size, k, none⟩) (Nat.le_refl _) _⟩
          rw [← rdR_set ws HX.out, HPV.out]
          exact HR6.out.put (by rw [rdR_len]; exact hlt) _
        case measure => simp [intOf]; omega
    · obtain rfl : k = 6 := by omega
      obtain ⟨v0, v1, v2, v3, v4, v5, hv⟩ : ∃ v0 v1 v2 v3 v4 v5 : Int, rdR ws 6 = [.int .u8 v0, .int .u8 v1, .int .u8 v2, .int .u8 v3, .int .u8 v4, .int .u8 v5] := ⟨_, _, _, _, _, _, rfl⟩
      have hr := HR.out
      rw [hv] at hr
      have d0 := (hr 0 _ rfl).1
      have d1 := (hr 1 _ rfl).1
      have d2 := (hr 2 _ rfl).1
      have d3 := (hr 3 _ rfl).1
      have d4 := (hr 4 _ rfl).1
      have d5 := (hr 5 _ rfl).1
      have ld := cell_lt d0
      have hb := (HR1.out.kept HK3.out).kept HKR.out
      obtain ⟨z01, z02⟩ := hb 0 _ rfl
      obtain ⟨z11, z12⟩ := hb 1 _ rfl
      obtain ⟨z21, z22⟩ := hb 2 _ rfl
      obtain ⟨z31, z32⟩ := hb 3 _ rfl
      obtain ⟨z41, z42⟩ := hb 4 _ rfl
      obtain ⟨z51, z52⟩ := hb 5 _ rfl
      have lz := cell_lt z01
      have HV := Lib.hid hv
      have HKE := Lib.hid ((HK1.out.trans HK3.out).trans HKR.out)
      clear hr hb hv
      go_wp2_with fail
      refine bodyPost_ret (v := .agg #[.int .u8 v0, .int .u8 v1, .int .u8 v2, .int .u8 v3, .int .u8 v4, .int .u8 v5]) (by simp [results, Tryz.results141, go_sem, z01, z11, z21, z31, z41, z51]) rfl ⟨?_, ?_⟩
      · unfold rdA
        rw [HV.out]
      · exact (((((HKE.out.setCell (by simp; try omega) _).setCell (by simp; try omega) _).setCell (by simp; try omega) _).setCell (by simp; try omega) _).setCell (by simp; try omega) _).setCell (by simp; try omega) _
end Go.Proofs.YtologmoanaccpaaGreatDoor

namespace Go.Proofs.YtologmoanaccpaaGreatDoor
set_option linter.all false
open Go.RowKit Go.Shelf

def spB : ByteArray := ⟨#[32]⟩
def EnvM (w : World) : Prop := ∃ m, w.cell? ⟨2, 0, none⟩ = some (.int .i64 m)
theorem EnvM.kept {w w' : World} (h : EnvM w) (hk : Kept w w') : EnvM w' := by
  obtain ⟨m, hm⟩ := h
  exact ⟨m, (hk.cells _ _ (cell_lt hm)).trans hm⟩
/-- a line with a form: its words -/
def lineOk (s : ByteArray) (ws : List ByteArray) : Prop :=
  s.size < 4294967281 ∧ Lib.splitB spB 0 (Lib.countB s spB) s = ws ∧ Lib.countB s spB = 5 ∧ ws.length = 6 ∧ ∀ k x, ws[k]? = some x → rdPk k x
theorem catch_idle (p q : Addr) (w : World) :
    CallsD Tryz.prog 196 #[.pointer (some p), .pointer (some q)] .returning w fun e u' w' => e = .returned (.tuple #[]) ∧ u' = .returning ∧ w' = w := by
  refine callsD_of_wpS Tryz.func196 rfl fun c₀ cs hu => ?_
  apply wpS_seq
  apply wpS_region
  simp [wpOpsS, go_sem, recoverD, hu, Tryz.ntmps196, Exit.thenS]
  refine wpS_cond (t := false) (by simp [Act.eval, Array.replicate]) ?_
  simp only [Bool.false_eq_true, if_false]
  refine wpS_of_wp (wp_skip ?_)
  cases c₀
  simp_all [bodyPostS, results, Tryz.results196]
set_option maxRecDepth 100000 in
set_option maxHeartbeats 2000000 in
theorem readClosure_good (bp : Nat) (s : ByteArray) (ws : List ByteArray) (hs : lineOk s ws) (w : World) (hE : EnvM w) (hc : w.cell? ⟨bp, 0, none⟩ = some (.string s)) :
    Calls Tryz.prog 146 #[.pointer (some ⟨bp, 0, none⟩)] w fun e w' => e = .returned (rdA ws) ∧ Kept w w' := by
  obtain ⟨h1, h2, h3, h4, h5⟩ := hs
  obtain ⟨v0, v1, v2, v3, v4, v5, hv⟩ : ∃ v0 v1 v2 v3 v4 v5 : Int, rdR ws 6 = [.int .u8 v0, .int .u8 v1, .int .u8 v2, .int .u8 v3, .int .u8 v4, .int .u8 v5] := ⟨_, _, _, _, _, _, rfl⟩
  have hrd : rdA ws = .agg #[.int .u8 v0, .int .u8 v1, .int .u8 v2, .int .u8 v3, .int .u8 v4, .int .u8 v5] := by unfold rdA; rw [hv]
  rw [hrd]
  obtain ⟨W1, hW1⟩ : ∃ W1, W1 = w.alloc (.cells #[.int .u8 0, .int .u8 0, .int .u8 0, .int .u8 0, .int .u8 0, .int .u8 0] 39) := ⟨_, rfl⟩
  have k1 : Kept w W1 := by rw [hW1]; exact (Kept.refl w).alloc _
  have r1 : RowC W1 w.heap.size [.int .u8 0, .int .u8 0, .int .u8 0, .int .u8 0, .int .u8 0, .int .u8 0] := by rw [hW1]; exact RowC.new w _ 39
  have c1 : W1.cell? ⟨bp, 0, none⟩ = some (.string s) := (k1.cells _ _ (cell_lt hc)).trans hc
  obtain ⟨m, hm⟩ := hE.kept k1
  have HSP := Lib.hid (Tryz.strings_Split s spB m W1 h1 hm (by decide))
  rw [h3, show 5 + 1 = 6 from rfl] at HSP
  have h2' := h2
  rw [h3] at h2'
  rw [h2'] at HSP
  obtain ⟨W2, hW2⟩ : ∃ W2, W2 = W1.alloc (.cells (ws.map Value.string).toArray 9) := ⟨_, rfl⟩
  have k2 : Kept W1 W2 := by rw [hW2]; exact (Kept.refl W1).alloc _
  have r2 : RowC W2 W1.heap.size (ws.map Value.string) := by rw [hW2]; exact RowC.new W1 _ 9
  rw [← hW2] at HSP
  have HRS := Lib.hid (readSigns_good W1.heap.size 0 6 ws h4 h5 W2 (fun j x hj => by rw [Nat.zero_add]; exact (r2 j (.string x) (by rw [List.getElem?_map, hj]; rfl)).1))
  rw [hrd] at HRS
  have HR1 := Lib.hid (r1.kept k2)
  have HK2 := Lib.hid (k1.trans k2)
  have HW1 := Lib.hid hW1
  have lc := cell_lt c1
  clear hW1 hW2 k1 r1 k2 r2 h1 h2 h2' h3 h4 h5 hrd hv hc hE hm
  unfold spB at HSP
  go_enter Tryz.func146, Tryz.ntmps146
  go_upto_region 1 with (fail)
  rw [← HW1.out]
  go_wp2_with fail
  refine HSP.out.mono ?_
  rintro e w2 ⟨rfl, rfl⟩
  go_wp2_with fail
  refine HRS.out.mono ?_
  rintro e w3 ⟨rfl, hk3⟩
  have hb := HR1.out.kept hk3
  obtain ⟨z01, z02⟩ := hb 0 _ rfl
  obtain ⟨z11, z12⟩ := hb 1 _ rfl
  obtain ⟨z21, z22⟩ := hb 2 _ rfl
  obtain ⟨z31, z32⟩ := hb 3 _ rfl
  obtain ⟨z41, z42⟩ := hb 4 _ rfl
  obtain ⟨z51, z52⟩ := hb 5 _ rfl
  have lz := cell_lt z01
  have HKE := Lib.hid (HK2.out.trans hk3)
  clear hb hk3
  go_wp2_with fail
  refine bodyPost_ret (v := .agg #[.int .u8 v0, .int .u8 v1, .int .u8 v2, .int .u8 v3, .int .u8 v4, .int .u8 v5]) (by simp [results, Tryz.results146, go_sem, z01, z11, z21, z31, z41, z51]) rfl ⟨rfl, ?_⟩
  exact (((((HKE.out.setCell (by simp; try omega) _).setCell (by simp; try omega) _).setCell (by simp; try omega) _).setCell (by simp; try omega) _).setCell (by simp; try omega) _).setCell (by simp; try omega) _
set_option maxRecDepth 100000 in
set_option maxHeartbeats 2000000 in
theorem readAll_good (bp : Nat) (s : ByteArray) (ws : List ByteArray) (hs : lineOk s ws) (w : World) (hE : EnvM w) (hc : w.cell? ⟨bp, 0, none⟩ = some (.string s)) :
    Calls Tryz.prog 145 #[.func (.func 146) #[] #[.pointer (some ⟨bp, 0, none⟩)]] w fun e w' => e = .returned (.tuple #[rdA ws, .int .i64 0]) ∧ Kept w w' := by
  have hmf : ∀ (fn : Fn) (first cap : Array Value) (w : World), (Instr.makeFunc fn first cap).run Tryz.prog w = .ok (.func fn first cap) w := fun _ _ _ _ => rfl
  obtain ⟨v0, v1, v2, v3, v4, v5, hv⟩ : ∃ v0 v1 v2 v3 v4 v5 : Int, rdR ws 6 = [.int .u8 v0, .int .u8 v1, .int .u8 v2, .int .u8 v3, .int .u8 v4, .int .u8 v5] := ⟨_, _, _, _, _, _, rfl⟩
  have hrd : rdA ws = .agg #[.int .u8 v0, .int .u8 v1, .int .u8 v2, .int .u8 v3, .int .u8 v4, .int .u8 v5] := by unfold rdA; rw [hv]
  obtain ⟨W1, hW1⟩ : ∃ W1, W1 = (w.alloc (.cells #[.int .u8 0, .int .u8 0, .int .u8 0, .int .u8 0, .int .u8 0, .int .u8 0] 39)).alloc (.cells #[.int .i64 0] 27) := ⟨_, rfl⟩
  have k1 : Kept w W1 := by rw [hW1]; exact ((Kept.refl w).alloc _).alloc _
  have r1 : RowC W1 w.heap.size [.int .u8 0, .int .u8 0, .int .u8 0, .int .u8 0, .int .u8 0, .int .u8 0] := by rw [hW1]; exact (RowC.new w _ 39).kept ((Kept.refl _).alloc _)
  have r2 : RowC W1 (w.heap.size + 1) [.int .i64 0] := by
    rw [hW1]
    have h := RowC.new (w.alloc (.cells #[.int .u8 0, .int .u8 0, .int .u8 0, .int .u8 0, .int .u8 0, .int .u8 0] 39)) [.int .i64 0] 27
    rw [World.size_alloc] at h
    exact h
  have HCL := Lib.hid (readClosure_good bp s ws hs W1 (hE.kept k1) ((k1.cells _ _ (cell_lt hc)).trans hc))
  rw [hrd] at HCL ⊢
  have HR1 := Lib.hid r1
  have HR2 := Lib.hid r2
  have HK1 := Lib.hid k1
  have HW1 := Lib.hid hW1
  clear hW1 k1 r1 r2 hrd hv hc hE
  go_enter_defers Tryz.func145, Tryz.ntmps145
  go_upto_region 1 with (fail)
  rw [← HW1.out]
  go_wp2_with fail
  refine HCL.out.mono ?_
  rintro e w3 ⟨rfl, hk3⟩
  have hb := HR1.out.kept hk3
  have hb2 := HR2.out.kept hk3
  obtain ⟨z01, z02⟩ := hb 0 _ rfl
  obtain ⟨z11, z12⟩ := hb 1 _ rfl
  obtain ⟨z21, z22⟩ := hb 2 _ rfl
  obtain ⟨z31, z32⟩ := hb 3 _ rfl
  obtain ⟨z41, z42⟩ := hb 4 _ rfl
  obtain ⟨z51, z52⟩ := hb 5 _ rfl
  obtain ⟨y01, y02⟩ := hb2 0 _ rfl
  have lz := cell_lt z01
  have ly := cell_lt y01
  have HKE := Lib.hid (HK1.out.trans hk3)
  clear hb hb2 hk3
  go_wp2_with fail
  refine leaves_cons (f := 196) (args := #[.pointer (some ⟨w.heap.size, 0, none⟩), .pointer (some ⟨w.heap.size + 1, 0, none⟩)]) (by simp) (by simp [go_sem]) ?_
  refine (catch_idle ⟨w.heap.size, 0, none⟩ ⟨w.heap.size + 1, 0, none⟩ _).mono ?_
  rintro e u' w'' ⟨rfl, rfl, rfl⟩
  simp [Leaves, settle, results, Tryz.results145, go_sem, z01, z11, z21, z31, z41, z51, y01]
  exact ((((((HKE.out.setCell (by simp; try omega) _).setCell (by simp; try omega) _).setCell (by simp; try omega) _).setCell (by simp; try omega) _).setCell (by simp; try omega) _).setCell (by simp; try omega) _).setCell (by simp; try omega) _
set_option maxRecDepth 100000 in
set_option maxHeartbeats 2000000 in
theorem readSight_good (s : ByteArray) (ws : List ByteArray) (hs : lineOk s ws) (w : World) (hE : EnvM w) :
    Calls Tryz.prog 67 #[.string s] w fun e w' => e = .returned (.tuple #[rdA ws, .int .i64 0]) ∧ Kept w w' := by
  have hmf : ∀ (fn : Fn) (first cap : Array Value) (w : World), (Instr.makeFunc fn first cap).run Tryz.prog w = .ok (.func fn first cap) w := fun _ _ _ _ => rfl
  obtain ⟨v0, v1, v2, v3, v4, v5, hv⟩ : ∃ v0 v1 v2 v3 v4 v5 : Int, rdR ws 6 = [.int .u8 v0, .int .u8 v1, .int .u8 v2, .int .u8 v3, .int .u8 v4, .int .u8 v5] := ⟨_, _, _, _, _, _, rfl⟩
  have hrd : rdA ws = .agg #[.int .u8 v0, .int .u8 v1, .int .u8 v2, .int .u8 v3, .int .u8 v4, .int .u8 v5] := by unfold rdA; rw [hv]
  obtain ⟨W1, hW1⟩ : ∃ W1, W1 = (w.alloc (.cells #[.string s] 9)).alloc (.cells #[.int .u8 0, .int .u8 0, .int .u8 0, .int .u8 0, .int .u8 0, .int .u8 0] 39) := ⟨_, rfl⟩
  have k1 : Kept w W1 := by rw [hW1]; exact ((Kept.refl w).alloc _).alloc _
  have r1 : RowC W1 w.heap.size [.string s] := by rw [hW1]; exact (RowC.new w _ 9).kept ((Kept.refl _).alloc _)
  have r2 : RowC W1 (w.heap.size + 1) [.int .u8 0, .int .u8 0, .int .u8 0, .int .u8 0, .int .u8 0, .int .u8 0] := by
    rw [hW1]
    have h := RowC.new (w.alloc (.cells #[.string s] 9)) [.int .u8 0, .int .u8 0, .int .u8 0, .int .u8 0, .int .u8 0, .int .u8 0] 39
    rw [World.size_alloc] at h
    exact h
  have HCL := Lib.hid (readAll_good w.heap.size s ws hs W1 (hE.kept k1) (r1 0 _ rfl).1)
  rw [hrd] at HCL ⊢
  have HR2 := Lib.hid r2
  have HK1 := Lib.hid k1
  have HW1 := Lib.hid hW1
  clear hW1 k1 r1 r2 hrd hv hE
  go_enter Tryz.func67, Tryz.ntmps67
  go_upto_region 1 with (fail)
  rw [← HW1.out]
  go_wp2_with fail
  refine HCL.out.mono ?_
  rintro e w3 ⟨rfl, hk3⟩
  have hb := HR2.out.kept hk3
  obtain ⟨z01, z02⟩ := hb 0 _ rfl
  obtain ⟨z11, z12⟩ := hb 1 _ rfl
  obtain ⟨z21, z22⟩ := hb 2 _ rfl
  obtain ⟨z31, z32⟩ := hb 3 _ rfl
  obtain ⟨z41, z42⟩ := hb 4 _ rfl
  obtain ⟨z51, z52⟩ := hb 5 _ rfl
  have lz := cell_lt z01
  have HKE := Lib.hid (HK1.out.trans hk3)
  clear hb hk3
  go_wp2_with fail
  refine bodyPost_ret (v := .tuple #[.agg #[.int .u8 v0, .int .u8 v1, .int .u8 v2, .int .u8 v3, .int .u8 v4, .int .u8 v5], .int .i64 0]) (by simp [results, Tryz.results67, go_sem, z01, z11, z21, z31, z41, z51]) rfl ⟨rfl, ?_⟩
  exact (((((HKE.out.setCell (by simp; try omega) _).setCell (by simp; try omega) _).setCell (by simp; try omega) _).setCell (by simp; try omega) _).setCell (by simp; try omega) _).setCell (by simp; try omega) _
end Go.Proofs.YtologmoanaccpaaGreatDoor
