import Derived.Test.YtbhlddfjfcmncaaZg
import Derived.Test.YtbhlddfjfcmncaaZb
import Derived.Test.YtbhlddfjfcmncaaYk
import Derived.Maps.OwnIn
import Derived.Maps.OwnSet
import Derived.RangeFuncNested
import Derived.RangeFuncBound
import Derived.RangeFuncCalls
import Derived.RangeFuncLeaves
import Derived.Shelf.Abstract
import Derived.Shelf.RegionOpen
import Derived.WalkKit
import Derived.OwnWalkIn
import Derived.TacticsInMore
import Derived.LoopNIn
import Derived.LoopIn
import Derived.WalkSpells
import Derived.WalkLawsBesides
import Derived.BigQuiet
import Derived.Deep.QuietTactic
import Derived.Lib.Hide
import Derived.Deep.RegionHeld3
import Derived.StillTailTactics
import Derived.Lib.MakeNoZero
import Derived.Laws.CopyOwn
import Derived.Deep.RegionLaw
import Derived.Deep.LoopGhost
import Derived.Deep.CutBlock
import Derived.Deep.DeepCutAuto
import Derived.Lib.IndexAny
namespace Go.Proofs.Ytbhlddfjfcmncaa
open Go.RowKit Go.Shelf
attribute [local go_sem] Oper.semAt_some
theorem Later_arg (f r : ByteArray) (n : Int) (w : World) (ht : tideB (f, r) = true) (hn : n < 0 ∨ (¬ n < 0 ∧ 60 < n)) :
    Calls Try.prog 28 #[.agg #[.string f, .string r], .int .i64 n] w fun e w' => e = .returned (errV 1) ∧ Below w.heap.size w w' := by
  have E := checkE_ok ht
  obtain ⟨z1, z2, z3⟩ := tideB_size ht
  clear ht
  rcases hn with hn | ⟨hn1, hn2⟩
  all_goals
    go_enter Try.func28, Try.ntmps28
    go_wp2_with fail
    refine (check_one (w.heap.size + 1 + 1) _ f r _ (by simp [cell_al]) (by simp [cell_al]) (size_le _ z1) (size_le _ z2)).mono ?_
    rintro e w1 ⟨rfl, hb1⟩
    have B1 : Hid (Below w.heap.size w w1) := Lib.hid (((((Below.refl _ _).alloc (Nat.le_refl _) _).alloc (by rw [size_al]; omega) _).alloc (by rw [size_al, size_al]; omega) _).trans (hb1.mono (by rw [size_al, size_al, size_al]; omega)))
    have c0 := below_at hb1 (b := w.heap.size + 1) (o := 0) (v := .string { data := #[] }) (by rw [size_al, size_al, size_al]; omega) (by simp [cell_al])
    have c1 := below_at hb1 (b := w.heap.size + 1) (o := 1) (v := .string { data := #[] }) (by rw [size_al, size_al, size_al]; omega) (by simp [cell_al])
    have f0 : w1.frozen? ⟨w.heap.size + 1, 0, none⟩ = false := (hb1.frozen (p := ⟨w.heap.size + 1, 0, none⟩) (by show _ + 1 < _; rw [size_al, size_al, size_al]; omega)).trans (by simp [frozen_al])
    have f1 : w1.frozen? ⟨w.heap.size + 1, 1, none⟩ = false := (hb1.frozen (p := ⟨w.heap.size + 1, 1, none⟩) (by show _ + 1 < _; rw [size_al, size_al, size_al]; omega)).trans (by simp [frozen_al])
    clear hb1
    go_wp2_with fail
    exact bodyPost_ret (v := errV 1) (by simp [results, Try.results28, go_sem, c0, c1]; rfl) rfl ⟨rfl, (B1.out.setCell (p := ⟨w.heap.size + 1, 0, none⟩) (by show _ ≤ _ + 1; omega) _).setCell (p := ⟨w.heap.size + 1, 1, none⟩) (by show _ ≤ _ + 1; omega) _⟩
/-- what Later answers -/
def laterV (f r : ByteArray) (n : Nat) : Value := fitV (formF (laterL f r n) (n + f.size)) (formR (laterL f r n) (n + f.size))
theorem rep_list {w : World} {g n : Nat} (h : ∀ i, i < n → w.cell? ⟨g, i, none⟩ = some (encB 48)) : ∀ i (hi : i < ((List.replicate n (48 : UInt8)).map encB).length), w.cell? ⟨g, 0 + i, none⟩ = some ((List.replicate n (48 : UInt8)).map encB)[i] := fun i hi => by
  rw [Nat.zero_add, h i (by simpa using hi)]; simp
theorem enc_one (l : List UInt8) : ∀ u ∈ l.map encB, u.oneCell' = true := fun u hu => by
  obtain ⟨c, _, rfl⟩ := List.mem_map.1 hu; rfl
set_option maxRecDepth 100000 in
set_option maxHeartbeats 1000000 in
theorem Later_ok (f r : ByteArray) (n : Nat) (w : World) (ht : tideB (f, r) = true) (hn : n ≤ 60) :
    Calls Try.prog 28 #[.agg #[.string f, .string r], .int .i64 n] w fun e w' => e = .returned (laterV f r n) ∧ Below w.heap.size w w' := by
  have HV : Hid (laterV f r n = fitV (formF (laterL f r n) (n + f.size)) (formR (laterL f r n) (n + f.size))) := Lib.hid rfl
  have E := checkE_ok ht
  obtain ⟨z1, z2, z3⟩ := tideB_size ht
  clear ht
  have t1 : ((n : Int) < 0) = False := by simp
  have t2 : decide ((60 : Int) < (n : Int)) = false := decide_eq_false (by omega)
  have LL : (laterL f r n).length = n + f.size + r.size := by unfold laterL; simp [toldL_length]; omega
  have HL : Hid ((List.replicate n (48 : UInt8)).map encB ++ (toldL f r (f.size + r.size)).map encB = (laterL f r n).map encB) := Lib.hid (by unfold laterL; rw [List.map_append])
  go_enter Try.func28, Try.ntmps28
  go_wp2_with fail
  refine (check_one (w.heap.size + 1 + 1) _ f r _ (by simp [cell_al]) (by simp [cell_al]) (size_le _ z1) (size_le _ z2)).mono ?_
  rintro e w1 ⟨rfl, hb1⟩
  obtain ⟨W0, hW0⟩ : ∃ W0, W0 = (w.alloc (.cells #[.string f, .string r] 23)).alloc (.cells #[.string { data := #[] }, .string { data := #[] }] 23) := ⟨_, rfl⟩
  have hsz : W0.heap.size = w.heap.size + 2 := by rw [hW0, size_al, size_al]
  have B0 : Hid (Below w.heap.size w W0) := Lib.hid (by rw [hW0]; exact ((Below.refl _ _).alloc (Nat.le_refl _) _).alloc (by rw [size_al]; omega) _)
  have P : Hid (∀ W, Below W0.heap.size W0 W → W.cell? ⟨w.heap.size, 0, none⟩ = some (.string f) ∧ W.cell? ⟨w.heap.size, 1, none⟩ = some (.string r)) := Lib.hid (fun W h => by
    refine ⟨below_at h (by omega) ?_, below_at h (by omega) ?_⟩ <;> (rw [hW0]; simp [cell_al]))
  have Z : Hid (∀ W, Below W0.heap.size W0 W → W.cell? ⟨w.heap.size + 1, 0, none⟩ = some (.string { data := #[] }) ∧ W.cell? ⟨w.heap.size + 1, 1, none⟩ = some (.string { data := #[] }) ∧ W.frozen? ⟨w.heap.size + 1, 0, none⟩ = false ∧ W.frozen? ⟨w.heap.size + 1, 1, none⟩ = false) := Lib.hid (fun W h => by
    refine ⟨below_at h (by omega) ?_, below_at h (by omega) ?_, (h.frozen (p := ⟨w.heap.size + 1, 0, none⟩) (by show _ + 1 < _; omega)).trans ?_, (h.frozen (p := ⟨w.heap.size + 1, 1, none⟩) (by show _ + 1 < _; omega)).trans ?_⟩ <;> (rw [hW0]; simp [cell_al, frozen_al]))
  have T1 : Hid (Below W0.heap.size W0 w1) := Lib.hid (by
    rw [← hW0] at hb1; exact ((Below.refl _ _).alloc (Nat.le_refl _) _).trans (hb1.mono (by rw [size_al]; omega)))
  have Hsz := Lib.hid hsz
  clear hb1 hW0 hsz
  go_wp2_with fail
  refine (repeat_any w1.heap.size 1 n 48 _ (by omega) (by simp [cell_al]; rfl)).mono ?_
  rintro e w2 ⟨g2, rfl, hg2, hrow2, hb2⟩
  have T2 : Hid (Below W0.heap.size W0 w2) := Lib.hid ((T1.out.alloc T1.out.size _).trans (hb2.mono (by have := T1.out.size; rw [size_al]; omega)))
  have R2 := Lib.hid hrow2
  clear hrow2 hb2 hg2
  obtain ⟨b0, b1⟩ := P.out w2 T2.out
  have HFI : Hid ((f.size : Int) + (r.size : Int) = ((f.size + r.size : Nat) : Int)) := Lib.hid (by omega)
  go_wp2_with fail
  rw [HFI.out]
  refine (told_any f r (f.size + r.size) _ z3 (by omega)).mono ?_
  rintro e w3 ⟨g3, rfl, hg3, hrow3, hb3⟩
  have T3 : Hid (Below W0.heap.size W0 w3) := Lib.hid (Below.andThen T2.out hb3 (Nat.le_refl _))
  obtain ⟨cap, cs, w4, hap, hcap, hrow4, hb4⟩ := append_new 85 5 (.int .u8 0) 1 Try.underlying85 infoB w3 g2 0 n (f.size + r.size) g3 0 (f.size + r.size) ((List.replicate n (48 : UInt8)).map encB) ((toldL f r (f.size + r.size)).map encB) (by simp) (by simp [toldL_length])
    (rep_list fun i hi => below_at hb3 (block_lt_of_cell (R2.out i hi)) (R2.out i hi)) (fun i hi => by rw [Nat.zero_add]; exact row_cells (rest := []) (by rw [List.append_nil]; exact hrow3) i hi) (enc_one _) (by omega) (by omega) (by omega)
  have T4 : Hid (Below W0.heap.size W0 w4) := Lib.hid (Below.andThen T3.out hb4 (Nat.le_refl _))
  rw [HL.out] at hrow4
  have FO : Hid (∀ g, g = w3.heap.size → Calls Try.prog 72 #[.slice (some ⟨g, 0, none⟩) (n + (f.size + r.size)) cap, .int .i64 ((n + f.size : Nat) : Int)] w4 fun e w' => e = .returned (.agg #[.string (toS (formF (laterL f r n) (n + f.size))), .string (toS (formR (laterL f r n) (n + f.size)))]) ∧ Below w4.heap.size w4 w') := Lib.hid (fun g hg => by
    subst hg
    exact formOf_any w3.heap.size 0 (n + (f.size + r.size)) cap (n + f.size) (laterL f r n) w4 (by omega) (by omega) (by omega) hcap (fun i hi => by rw [Nat.zero_add, row_cells hrow4 i (by simpa using hi)]; simp) hrow4.lt)
  have L1 := formF_le (laterL f r n) (n + f.size)
  have L2 := formR_le (laterL f r n) (n + f.size)
  have E3 : Hid ((n : Int) + (f.size : Int) = ((n + f.size : Nat) : Int)) := Lib.hid (by omega)
  clear hg3 hb3 hrow3 hrow4 hb4 hcap R2 HL b0 b1
  rw [LL] at L1 L2
  generalize formF (laterL f r n) (n + f.size) = FF at *
  generalize formR (laterL f r n) (n + f.size) = RR at *
  obtain ⟨b0, b1⟩ := P.out w4 T4.out
  go_wp2_with (at_builtin; refine wpList_append_run rfl _ _ 85 rfl _ _ _ _ rfl rfl hap ?_)
  rw [E3.out]
  refine (FO.out _ rfl).mono ?_
  rintro e w5 ⟨rfl, hb5⟩
  have T5 : Hid (Below W0.heap.size W0 w5) := Lib.hid (Below.andThen T4.out hb5 (Nat.le_refl _))
  clear hb5 FO b0 b1 hap
  go_wp2_with fail
  refine (fitting_L FF RR _ (by omega) (by omega)).mono ?_
  rintro e w6 ⟨rfl, hb6⟩
  have T6 : Hid (Below W0.heap.size W0 w6) := Lib.hid (Below.andThen T5.out hb6 (Nat.le_refl _))
  clear hb6
  obtain ⟨r0, r1, q0, q1⟩ := Z.out w6 T6.out
  obtain ⟨va, vb, vc, hv⟩ := fitV_cases FF RR
  have HVV := Lib.hid (HV.out.trans hv)
  rw [hv]
  clear hv
  go_wp2_with fail
  exact bodyPost_ret (v := .tuple #[.agg #[.string va, .string vb], .int .i64 vc]) (by simp [results, Try.results28, go_sem, r0, r1]) rfl ⟨by rw [HVV.out], ((B0.out.trans (T6.out.mono (by rw [Hsz.out]; omega))).setCell (p := ⟨w.heap.size + 1, 0, none⟩) (by show _ ≤ _ + 1; omega) _).setCell (p := ⟨w.heap.size + 1, 1, none⟩) (by show _ ≤ _ + 1; omega) _⟩
end Go.Proofs.Ytbhlddfjfcmncaa
