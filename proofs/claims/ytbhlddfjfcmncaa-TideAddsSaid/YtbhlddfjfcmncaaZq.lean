import Derived.Test.YtbhlddfjfcmncaaZp
import Derived.Test.YtbhlddfjfcmncaaYn
import Derived.Maps.OwnIn
import Derived.Maps.OwnSet
import Derived.RangeFuncNested
import Derived.RangeFuncBound
import Derived.RangeFuncCalls
import Derived.RangeFuncLeaves
import Derived.Shelf.Abstract
import Derived.Shelf.RegionOpen
import Derived.WalkKit
import Derived.OwnWalkIn
import Derived.TacticsInMore
import Derived.LoopNIn
import Derived.LoopIn
import Derived.WalkSpells
import Derived.WalkLawsBesides
import Derived.BigQuiet
import Derived.Deep.QuietTactic
import Derived.Lib.Hide
import Derived.Deep.RegionHeld3
import Derived.StillTailTactics
import Derived.Lib.MakeNoZero
import Derived.Laws.CopyOwn
import Derived.Deep.RegionLaw
import Derived.Deep.LoopGhost
import Derived.Deep.CutBlock
import Derived.Deep.DeepCutAuto
import Derived.Lib.IndexAny
namespace Go.Proofs.Ytbhlddfjfcmncaa
open Go.RowKit Go.Shelf
attribute [local go_sem] Oper.semAt_some
theorem same_split {f r g s : ByteArray} (ht : tideB (f, r) = true) (hu : tideB (g, s) = true) :
    (∀ i, hasB f r i = hasB g s i) ∨ ∃ d, d < spanF f g + spanR r s ∧ hasB f r d ≠ hasB g s d ∧ ∀ i, i < d → hasB f r i = hasB g s i := by
  obtain ⟨z1, z2, z3⟩ := tideB_size ht
  obtain ⟨y1, y2, y3⟩ := tideB_size hu
  obtain ⟨h1, h2⟩ := spanR_bd z3 z2 y3 y2
  have hp := join_per f r g s (fun a b => a != b)
  cases ho : findFrom (fun i => hasB f r i != hasB g s i) (spanF f g + spanR r s) 0 with
  | some d =>
    obtain ⟨a, b⟩ := findFrom_some ho
    have c := findFrom_ge ho
    refine .inr ⟨d, by omega, by simpa using a, fun i hi => ?_⟩
    have := b i (Nat.zero_le _) hi
    simpa using this
  | none =>
    have hno := findFrom_none ho
    refine .inl fun i => ?_
    by_cases hi : i < spanF f g + spanR r s
    · have := hno i (Nat.zero_le _) (by omega); simpa using this
    · have e := Nat.div_add_mod (i - spanF f g) (spanR r s)
      have lt := Nat.mod_lt (i - spanF f g) (show 0 < spanR r s from h1)
      rw [Nat.mul_comm] at e
      generalize (i - spanF f g) / spanR r s = m at *
      generalize (i - spanF f g) % spanR r s = b at *
      have := hp.mul m (spanF f g + b) (by omega)
      rw [show spanF f g + b + m * spanR r s = i by omega] at this
      have h3 := hno (spanF f g + b) (Nat.zero_le _) (by omega)
      rw [← this] at h3
      simpa using h3
theorem forms_iff {f r g s : ByteArray} (ht : tideB (f, r) = true) (hu : tideB (g, s) = true) :
    (toS (fmF f r) = toS (fmF g s) ∧ toS (fmR f r) = toS (fmR g s)) ↔ ∀ i, hasB f r i = hasB g s i := by
  have h1 := (told_form ht).1
  have h2 := (told_form hu).1
  constructor
  · rintro ⟨e1, e2⟩ i
    rw [← h1.has i, ← h2.has i, e1, e2]
  · intro h
    exact (h1.congr h).unique h2
set_option maxRecDepth 100000 in
set_option maxHeartbeats 1000000 in
theorem Same_yes (f r g s : ByteArray) (w : World) (ht : tideB (f, r) = true) (hu : tideB (g, s) = true) (heq : ∀ i, hasB f r i = hasB g s i) :
    Calls Try.prog 24 #[.agg #[.string f, .string r], .agg #[.string g, .string s]] w fun e w' => e = .returned (.tuple #[.int .i64 0, .bool true, .int .i64 0]) ∧ Below w.heap.size w w' := by
  have E := checkE2_ok ht hu
  obtain ⟨z1, z2, z3⟩ := tideB_size ht
  obtain ⟨y1, y2, y3⟩ := tideB_size hu
  obtain ⟨e1, e2⟩ := (forms_iff ht hu).2 heq
  have FM : Hid (∀ (f r p q : ByteArray) W, (f.size ≤ 60 ∧ r.size ≤ 60 ∧ 1 ≤ r.size ∧ toS (fmF f r) = p ∧ toS (fmR f r) = q) → Calls Try.prog 59 #[.agg #[.string f, .string r]] W fun e w' => e = .returned (.agg #[.string p, .string q]) ∧ Below W.heap.size W w') := Lib.hid (by
    rintro f r p q W ⟨h1, h2, h3, rfl, rfl⟩; exact form_any f r W h1 h2 h3)
  obtain ⟨p, hp⟩ : ∃ p, toS (fmF g s) = p := ⟨_, rfl⟩
  obtain ⟨q, hq⟩ : ∃ q, toS (fmR g s) = q := ⟨_, rfl⟩
  have H1 := Lib.hid (And.intro z1 (And.intro z2 (And.intro z3 (And.intro (e1.trans hp) (e2.trans hq)))))
  have H2 := Lib.hid (And.intro y1 (And.intro y2 (And.intro y3 (And.intro hp hq))))
  clear ht hu heq e1 e2 hp hq
  go_enter Try.func24, Try.ntmps24
  go_wp2_with fail
  refine (check_two (w.heap.size + 1 + 1) _ f r g s _ (by simp [cell_al]) (by simp [cell_al]) (by simp [cell_al]) (by simp [cell_al]) (size_le _ z1) (size_le _ z2) (size_le _ y1) (size_le _ y2)).mono ?_
  rintro e w1 ⟨rfl, hb1⟩
  obtain ⟨W0, hW0⟩ : ∃ W0, W0 = (w.alloc (.cells #[.string f, .string r] 23)).alloc (.cells #[.string g, .string s] 23) := ⟨_, rfl⟩
  have hsz : W0.heap.size = w.heap.size + 2 := by rw [hW0, size_al, size_al]
  have B0 : Hid (Below w.heap.size w W0) := Lib.hid (by rw [hW0]; exact ((Below.refl _ _).alloc (Nat.le_refl _) _).alloc (by rw [size_al]; omega) _)
  have P : Hid (∀ W, Below W0.heap.size W0 W → W.cell? ⟨w.heap.size, 0, none⟩ = some (.string f) ∧ W.cell? ⟨w.heap.size, 1, none⟩ = some (.string r) ∧ W.cell? ⟨w.heap.size + 1, 0, none⟩ = some (.string g) ∧ W.cell? ⟨w.heap.size + 1, 1, none⟩ = some (.string s)) := Lib.hid (fun W h => by
    refine ⟨below_at h (by omega) ?_, below_at h (by omega) ?_, below_at h (by omega) ?_, below_at h (by omega) ?_⟩ <;> (rw [hW0]; simp [cell_al] <;> (intro h; omega)))
  have T1 : Hid (Below W0.heap.size W0 w1) := Lib.hid (by
    rw [← hW0] at hb1; exact ((Below.refl _ _).alloc (Nat.le_refl _) _).trans (hb1.mono (by rw [size_al]; omega)))
  have Hsz := Lib.hid hsz
  have lt1 : Hid (w.heap.size + 1 < w1.heap.size) := Lib.hid (by have := T1.out.size; omega)
  clear hb1 hW0 hsz
  obtain ⟨b0, b1, b2, b3⟩ := P.out w1 T1.out
  have D := Lib.hid (And.intro b0 (And.intro b1 (And.intro b2 b3)))
  clear b0 b1 b2 b3
  go_wp2_with fail
  have k0 := Kl.cell (by have := lt1.out; omega) D.out.1
  have k1 := Kl.cell (by have := lt1.out; omega) D.out.2.1
  have k2 := Kl.cell lt1.out D.out.2.2.1
  have k3 := Kl.cell lt1.out D.out.2.2.2
  refine wp_region_below (by kernel_rfl) (by kernel_rfl) ?_
  repeat (go_big_quiet_step (exact Kl.call (FM.out _ _ _ _ _ (by first | exact H1.out | exact H2.out))))
  refine wpQuiet_nil ?_
  rintro _ ⟨wq, rfl⟩
  have T2 := Lib.hid (Below.andThen T1.out wq.h (Nat.le_refl _))
  clear k0 k1 k2 k3 FM
  go_wp2_with fail
  go_ret3
  exact ⟨rfl, B0.out.trans (T2.out.mono (by have := Hsz.out; omega))⟩
set_option maxRecDepth 100000 in
set_option maxHeartbeats 1000000 in
theorem Same_no (f r g s : ByteArray) (w : World) (ht : tideB (f, r) = true) (hu : tideB (g, s) = true) (d : Nat) (hd1 : d < spanF f g + spanR r s) (hd2 : hasB f r d ≠ hasB g s d) (hd3 : ∀ i, i < d → hasB f r i = hasB g s i) :
    Calls Try.prog 24 #[.agg #[.string f, .string r], .agg #[.string g, .string s]] w fun e w' => e = .returned (.tuple #[.int .i64 d, .bool false, .int .i64 0]) ∧ Below w.heap.size w w' := by
  have E := checkE2_ok ht hu
  obtain ⟨z1, z2, z3⟩ := tideB_size ht
  obtain ⟨y1, y2, y3⟩ := tideB_size hu
  have hne : ¬ (toS (fmF f r) = toS (fmF g s) ∧ toS (fmR f r) = toS (fmR g s)) := fun h => hd2 ((forms_iff ht hu).1 h d)
  have hS := spanR_bd z3 z2 y3 y2
  have HS : Hid (∀ b c w, w.cell? ⟨b, 0, none⟩ = some (.string f) → w.cell? ⟨b, 1, none⟩ = some (.string r) → w.cell? ⟨b, 2, none⟩ = some (.string g) → w.cell? ⟨b, 3, none⟩ = some (.string s) → Calls Try.prog 60 #[.slice (some ⟨b, 0, none⟩) 2 c] w fun e w' => e = .returned (.tuple #[.int .i64 (spanF f g), .int .i64 (spanR r s)]) ∧ Below w.heap.size w w') := Lib.hid (fun b c w h0 h1 h2 h3 => span_two b c f r g s w h0 h1 h2 h3 z1 z2 z3 y1 y2 y3)
  have hsf : spanF f g ≤ 60 := by unfold spanF; omega
  have HI : Hid (∀ b W, AtBo W b 0 (hoursL (joinY f r g s (fun a b => a != b)) (spanF f g + spanR r s)) → Calls Try.prog 63 #[.slice (some ⟨b, 0, none⟩) (spanF f g + spanR r s) (spanF f g + spanR r s), .bool true] W fun e w' => e = .returned (.int .i64 d) ∧ W = w') := Lib.hid (fun b W h => by
    refine index_any b 0 _ _ d _ W (hoursL_length _ _) (by omega) h ?_ ?_
    · unfold hoursL joinY; simp [hd1, hd2]
    · intro i hi; unfold hoursL joinY; simp [show i < spanF f g + spanR r s by omega, hd3 i hi])
  have HJ : Hid (∀ W, Calls Try.prog 61 #[.agg #[.string f, .string r], .agg #[.string g, .string s], .int .i64 ((spanF f g + spanR r s : Nat) : Int), .func (.func 62) #[] #[]] W fun e w' => ∃ b, e = .returned (.slice (some ⟨b, 0, none⟩) (spanF f g + spanR r s) (spanF f g + spanR r s)) ∧ W.heap.size ≤ b ∧ Row w' b 4 ((hoursL (joinY f r g s (fun a b => a != b)) (spanF f g + spanR r s)).map encBo) ∧ Below W.heap.size W w') := Lib.hid (fun W => joinedB_any f r g s _ 62 (fun a b => a != b) W z3 y3 (by omega) cf62 differ_cl)
  have FM : Hid (∀ (f r p q : ByteArray) W, (f.size ≤ 60 ∧ r.size ≤ 60 ∧ 1 ≤ r.size ∧ toS (fmF f r) = p ∧ toS (fmR f r) = q) → Calls Try.prog 59 #[.agg #[.string f, .string r]] W fun e w' => e = .returned (.agg #[.string p, .string q]) ∧ Below W.heap.size W w') := Lib.hid (by
    rintro f r p q W ⟨h1, h2, h3, rfl, rfl⟩; exact form_any f r W h1 h2 h3)
  obtain ⟨p, hp⟩ : ∃ p, toS (fmF f r) = p := ⟨_, rfl⟩
  obtain ⟨q, hq⟩ : ∃ q, toS (fmR f r) = q := ⟨_, rfl⟩
  obtain ⟨p', hp'⟩ : ∃ p, toS (fmF g s) = p := ⟨_, rfl⟩
  obtain ⟨q', hq'⟩ : ∃ q, toS (fmR g s) = q := ⟨_, rfl⟩
  rw [hp, hq, hp', hq'] at hne
  have H1 := Lib.hid (And.intro z1 (And.intro z2 (And.intro z3 (And.intro hp hq))))
  have H2 := Lib.hid (And.intro y1 (And.intro y2 (And.intro y3 (And.intro hp' hq'))))
  have hc : (p.toList == p'.toList) = false ∨ (p = p' ∧ (q.toList == q'.toList) = false) := by
    by_cases hpp : p = p'
    · refine .inr ⟨hpp, beq_eq_false_iff_ne.2 fun h => hne ⟨hpp, ?_⟩⟩
      exact ByteArray.ext (by rw [ByteArray.toList_eq, ByteArray.toList_eq] at h; exact Array.toList_inj.1 h)
    · refine .inl (beq_eq_false_iff_ne.2 fun h => hpp ?_)
      exact ByteArray.ext (by rw [ByteArray.toList_eq, ByteArray.toList_eq] at h; exact Array.toList_inj.1 h)
  clear ht hu hd1 hd2 hd3 hp hq hp' hq' hne
  have HC := Lib.hid hc
  clear hc
  generalize spanF f g = F0 at *
  generalize spanR r s = R0 at *
  generalize hoursL (joinY f r g s (fun a b => a != b)) (F0 + R0) = l at *
  go_enter Try.func24, Try.ntmps24
  go_wp2_with fail
  refine (check_two (w.heap.size + 1 + 1) _ f r g s _ (by simp [cell_al]) (by simp [cell_al]) (by simp [cell_al]) (by simp [cell_al]) (size_le _ z1) (size_le _ z2) (size_le _ y1) (size_le _ y2)).mono ?_
  rintro e w1 ⟨rfl, hb1⟩
  obtain ⟨W0, hW0⟩ : ∃ W0, W0 = (w.alloc (.cells #[.string f, .string r] 23)).alloc (.cells #[.string g, .string s] 23) := ⟨_, rfl⟩
  have hsz : W0.heap.size = w.heap.size + 2 := by rw [hW0, size_al, size_al]
  have B0 : Hid (Below w.heap.size w W0) := Lib.hid (by rw [hW0]; exact ((Below.refl _ _).alloc (Nat.le_refl _) _).alloc (by rw [size_al]; omega) _)
  have P : Hid (∀ W, Below W0.heap.size W0 W → W.cell? ⟨w.heap.size, 0, none⟩ = some (.string f) ∧ W.cell? ⟨w.heap.size, 1, none⟩ = some (.string r) ∧ W.cell? ⟨w.heap.size + 1, 0, none⟩ = some (.string g) ∧ W.cell? ⟨w.heap.size + 1, 1, none⟩ = some (.string s)) := Lib.hid (fun W h => by
    refine ⟨below_at h (by omega) ?_, below_at h (by omega) ?_, below_at h (by omega) ?_, below_at h (by omega) ?_⟩ <;> (rw [hW0]; simp [cell_al] <;> (intro h; omega)))
  have T1 : Hid (Below W0.heap.size W0 w1) := Lib.hid (by
    rw [← hW0] at hb1; exact ((Below.refl _ _).alloc (Nat.le_refl _) _).trans (hb1.mono (by rw [size_al]; omega)))
  have Hsz := Lib.hid hsz
  have lt1 : Hid (w.heap.size + 1 < w1.heap.size) := Lib.hid (by have := T1.out.size; omega)
  clear hb1 hW0 hsz
  obtain ⟨b0, b1, b2, b3⟩ := P.out w1 T1.out
  have D := Lib.hid (And.intro b0 (And.intro b1 (And.intro b2 b3)))
  clear b0 b1 b2 b3
  go_wp2_with fail
  have k0 := Kl.cell (by have := lt1.out; omega) D.out.1
  have k1 := Kl.cell (by have := lt1.out; omega) D.out.2.1
  have k2 := Kl.cell lt1.out D.out.2.2.1
  have k3 := Kl.cell lt1.out D.out.2.2.2
  refine wp_region_below (by kernel_rfl) (by kernel_rfl) ?_
  rcases HC.out with hc1 | ⟨rfl, hc1⟩
  all_goals
   clear HC
   repeat (go_big_quiet_step (exact Kl.call (FM.out _ _ _ _ _ (by first | exact H1.out | exact H2.out))))
   refine wpQuiet_nil ?_
   rintro _ ⟨wq, rfl⟩
   have T2 := Lib.hid (Below.andThen T1.out wq.h (Nat.le_refl _))
   clear k0 k1 k2 k3 FM hc1 H1 H2
   obtain ⟨b0, b1, b2, b3⟩ := P.out wq.W T2.out
   go_wp2_with fail
   refine (HS.out _ _ _ (by simp [cell_al]) (by simp [cell_al]) (by simp [cell_al]) (by simp [cell_al])).mono ?_
   rintro e w3 ⟨rfl, hb3⟩
   have T3 : Hid (Below W0.heap.size W0 w3) := Lib.hid ((T2.out.alloc T2.out.size _).trans (hb3.mono (by have := T2.out.size; rw [size_al]; omega)))
   clear hb3 b0 b1 b2 b3
   obtain ⟨b0, b1, b2, b3⟩ := P.out w3 T3.out
   have E1 : Hid ((F0 : Int) + (R0 : Int) = ((F0 + R0 : Nat) : Int)) := Lib.hid (by omega)
   go_wp2_with fail
   rw [E1.out]
   refine (HJ.out _).mono ?_
   rintro e w4 ⟨b, rfl, hb, hrow, hb4⟩
   have T4 := Lib.hid (Below.andThen T3.out hb4 (Nat.le_refl _))
   have hat : AtBo w4 b 0 l := fun i hi => by rw [Nat.zero_add, row_cells (rest := []) (by rw [List.append_nil]; exact hrow) i (by simpa using hi)]; simp [encBo]
   have HAT := Lib.hid hat
   clear hb hrow hb4 b0 b1 b2 b3 hat
   go_wp2_with fail
   refine (HI.out _ _ HAT.out).mono ?_
   rintro e w5 ⟨rfl, rfl⟩
   go_wp2_with fail
   go_ret3
   exact ⟨rfl, B0.out.trans (T4.out.mono (by have := Hsz.out; omega))⟩
set_option maxRecDepth 100000 in
set_option maxHeartbeats 1000000 in
theorem refDiffer_any (f r g s : ByteArray) (d : Nat) (v : Int) (w : World) (ht : tideB (f, r) = true) (hu : tideB (g, s) = true) (hd : ∀ i, i < d → hasB f r i = hasB g s i) (hc : (d = enoughN f r g s ∧ v = -1) ∨ (d < enoughN f r g s ∧ hasB f r d ≠ hasB g s d ∧ v = d)) :
    Calls Try.prog 45 #[.agg #[.string f, .string r], .agg #[.string g, .string s]] w fun e w' => e = .returned (.int .i64 v) ∧ Below w.heap.size w w' := by
  obtain ⟨z1, z2, z3⟩ := tideB_size ht
  obtain ⟨y1, y2, y3⟩ := tideB_size hu
  have n3 := enough_le z1 z3 z2 y1 y3 y2
  have C1 : Hid (∀ W, Calls Try.prog 86 #[.agg #[.string f, .string r], .agg #[.string g, .string s]] W fun e w' => e = .returned (.int .i64 (enoughN f r g s)) ∧ Below W.heap.size W w') := Lib.hid (fun W => refEnough_any f r g s W z1 z3 z2 y1 y3 y2)
  have HC : Hid (∀ (f r : ByteArray) (k : Nat) (b : Bool) W, (1 ≤ r.size ∧ k ≤ 4000000000 ∧ hasB f r k = b) → Calls Try.prog 39 #[.agg #[.string f, .string r], .int .i64 k] W fun e w' => e = .returned (.bool b) ∧ Below W.heap.size W w') := Lib.hid fun f r k b W h => by rw [← h.2.2]; exact refHas_any f r k W h.1 h.2.1
  have HD := Lib.hid hd
  clear ht hu hd
  generalize enoughN f r g s = N at *
  have hdN : d ≤ N := by rcases hc with h | h <;> omega
  have HE := Lib.hid hc
  clear hc
  go_enter Try.func45, Try.ntmps45
  go_wp2_with fail
  obtain ⟨W0, hW0⟩ : ∃ W0, W0 = (w.alloc (.cells #[.string f, .string r] 24)).alloc (.cells #[.string g, .string s] 24) := ⟨_, rfl⟩
  have hsz : W0.heap.size = w.heap.size + 2 := by rw [hW0, size_al, size_al]
  have B0 : Hid (Below w.heap.size w W0) := Lib.hid (by rw [hW0]; exact ((Below.refl _ _).alloc (Nat.le_refl _) _).alloc (by rw [size_al]; omega) _)
  have P : Hid (∀ W, Below W0.heap.size W0 W → W.cell? ⟨w.heap.size, 0, none⟩ = some (.string f) ∧ W.cell? ⟨w.heap.size, 1, none⟩ = some (.string r) ∧ W.cell? ⟨w.heap.size + 1, 0, none⟩ = some (.string g) ∧ W.cell? ⟨w.heap.size + 1, 1, none⟩ = some (.string s)) := Lib.hid (fun W h => by
    refine ⟨below_at h (by omega) ?_, below_at h (by omega) ?_, below_at h (by omega) ?_, below_at h (by omega) ?_⟩ <;> (rw [hW0]; simp [cell_al] <;> (intro h; omega)))
  refine (C1.out _).mono ?_
  rintro e w1 ⟨rfl, hb1⟩
  have T1 : Hid (Below W0.heap.size W0 w1) := Lib.hid (by rw [← hW0] at hb1; exact hb1)
  have Hsz := Lib.hid hsz
  clear hb1 hW0 hsz C1
  go_wp2_with fail
  go_loopw [6] (fun x wr => ∃ k : Nat, k ≤ d ∧ x = .int .i64 k ∧ Hid (Below W0.heap.size W0 wr)) (fun x _ => N - (intOf x).toNat)
  case atStart => exact ⟨0, Nat.zero_le _, rfl, T1⟩
  case round =>
    obtain ⟨k, hk, rfl, TB⟩ := hrel
    obtain ⟨b0, b1, b2, b3⟩ := P.out wr TB.out
    have lt1 : w.heap.size + 1 < wr.heap.size := by have := TB.out.size; have := Hsz.out; omega
    by_cases hkd : k < d
    · have hx := HD.out k hkd
      have hlt : k < N := by omega
      have k0 := Kl.cell (by omega) b0
      have k1 := Kl.cell (by omega) b1
      have k2 := Kl.cell lt1 b2
      have k3 := Kl.cell lt1 b3
      have k9 : k ≤ 4000000000 := by omega
      cases hX : hasB g s k
      all_goals
        have M1 := Lib.hid (And.intro z3 (And.intro k9 (hx.trans hX)))
        have M2 := Lib.hid (And.intro y3 (And.intro k9 hX))
        clear hx hX b0 b1 b2 b3
        go_wp2_with fail
        refine wp_region_below (by kernel_rfl) (by kernel_rfl) ?_
        repeat (go_big_quiet_step (exact Kl.call (HC.out _ _ _ _ _ (by first | exact M1.out | exact M2.out))))
        refine wpQuiet_nil ?_
        rintro _ ⟨wq, rfl⟩
        have T2 := Lib.hid (Below.andThen TB.out wq.h (Nat.le_refl _))
        clear k0 k1 k2 k3
        go_wp2_with fail
        go_roundw
        case rel => exact ⟨k + 1, hkd, by go_num, T2⟩
        case measure => simp [intOf]; omega
    · obtain rfl : k = d := by omega
      rcases HE.out with ⟨h1, h2⟩ | ⟨h1, h2, h3⟩
      · subst h2
        have hge : ¬ k < N := by omega
        clear HE HD
        go_wp2_with fail
        go_ret
        exact ⟨rfl, B0.out.trans (TB.out.mono (by have := Hsz.out; omega))⟩
      · subst h3
        have k0 := Kl.cell (by omega) b0
        have k1 := Kl.cell (by omega) b1
        have k2 := Kl.cell lt1 b2
        have k3 := Kl.cell lt1 b3
        have k9 : k ≤ 4000000000 := by omega
        clear b0 b1 b2 b3 HE HD
        cases hX : hasB f r k
        all_goals
          cases hY : hasB g s k
          all_goals
            first
              | exact absurd (hX.trans hY.symm) h2
              | (have M1 := Lib.hid (And.intro z3 (And.intro k9 hX))
                 have M2 := Lib.hid (And.intro y3 (And.intro k9 hY))
                 clear hX hY h2
                 go_wp2_with fail
                 refine wp_region_below (by kernel_rfl) (by kernel_rfl) ?_
                 repeat (go_big_quiet_step (exact Kl.call (HC.out _ _ _ _ _ (by first | exact M1.out | exact M2.out))))
                 refine wpQuiet_nil ?_
                 rintro _ ⟨wq, rfl⟩
                 have T2 := Lib.hid (Below.andThen TB.out wq.h (Nat.le_refl _))
                 clear k0 k1 k2 k3
                 go_wp2_with fail
                 go_ret
                 exact ⟨rfl, B0.out.trans (T2.out.mono (by have := Hsz.out; omega))⟩)
end Go.Proofs.Ytbhlddfjfcmncaa
