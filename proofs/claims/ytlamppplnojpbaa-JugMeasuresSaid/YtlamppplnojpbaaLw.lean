import Derived.Test.YtlamppplnojpbaaLu
import Derived.Test.YtlamppplnojpbaaLo
import Derived.Laws.AppendOwn
import Derived.ChangeKeysEq
import Derived.Maps.RangeWalk
import Derived.Maps.OwnIn
import Derived.Maps.AppendAt
import Derived.RangeFuncNested
import Derived.RangeFuncBound
import Derived.RangeFuncCalls
import Derived.RangeFuncLeaves
import Derived.Shelf.Abstract
import Derived.Shelf.RegionOpen
import Derived.WalkKit
import Derived.WalkMore
import Derived.OwnWalkIn
import Derived.TacticsInMore
import Derived.LoopNIn
import Derived.LoopIn
import Derived.WalkSpells
import Derived.WalkLawsBesides
import Derived.BigQuiet
import Derived.Deep.QuietTactic
import Derived.Lib.Hide
import Derived.Deep.RegionHeld3
import Derived.StillTailTactics
import Derived.Deep.LoopGhost
import Derived.Maps.OwnSet
import Derived.Lib.IndexAny
import Derived.Sort.QuietThIn
import Derived.Sort.QuietTacIn
import Derived.Sort.BigQuietIn
import Derived.Laws.OwnMore
namespace Go.Proofs.Ytlamppplnojpbaa
open Go.RowKit Go.Shelf
attribute [local go_sem] Oper.semAt_some
/-! the numbers of fillings -/
def codR (ss fs : List Int) : Nat → Int
  | 0 => 0
  | i + 1 => codR ss fs i * (ss.getD i 0 + 1) + fs.getD i 0
def prodR (ss : List Int) : Nat → Int
  | 0 => 1
  | i + 1 => prodR ss i * (ss.getD i 0 + 1)
theorem cod_bd {ss fs : List Int} (h : ∀ i, i < ss.length → (1 ≤ ss.getD i 0 ∧ ss.getD i 0 ≤ 12) ∧ 0 ≤ fs.getD i 0 ∧ fs.getD i 0 ≤ ss.getD i 0) : ∀ n, n ≤ ss.length → 0 ≤ codR ss fs n ∧ codR ss fs n < prodR ss n ∧ prodR ss n ≤ 13 ^ n
  | 0, _ => by simp [codR, prodR]
  | n + 1, hn => by
    obtain ⟨h1, h2, h3⟩ := cod_bd h n (by omega)
    obtain ⟨⟨a1, a2⟩, b1, b2⟩ := h n (by omega)
    rw [codR, prodR]
    generalize codR ss fs n = c at *
    generalize prodR ss n = p at *
    generalize ss.getD n 0 = s at *
    generalize fs.getD n 0 = f at *
    refine ⟨?_, ?_, ?_⟩
    · have := Int.mul_nonneg h1 (show 0 ≤ s + 1 by omega); omega
    · have : (c + 1) * (s + 1) ≤ p * (s + 1) := Int.mul_le_mul_of_nonneg_right (by omega) (by omega)
      rw [Int.add_mul] at this; omega
    · have h4 : p * (s + 1) ≤ 13 ^ n * 13 := Int.mul_le_mul h3 (by omega) (by omega) (Int.pow_nonneg (by decide))
      rw [Int.pow_succ]; exact h4
theorem cod_inj {ss fs gs : List Int} (hs : ∀ i, i < ss.length → 1 ≤ ss.getD i 0) : ∀ n, n ≤ ss.length → (∀ i, i < n → 0 ≤ fs.getD i 0 ∧ fs.getD i 0 ≤ ss.getD i 0) → (∀ i, i < n → 0 ≤ gs.getD i 0 ∧ gs.getD i 0 ≤ ss.getD i 0) → codR ss fs n = codR ss gs n → ∀ i, i < n → fs.getD i 0 = gs.getD i 0
  | 0, _, _, _, _, i, hi => by omega
  | n + 1, hn, hf, hg, e, i, hi => by
    rw [codR, codR] at e
    have a := hf n (by omega)
    have b := hg n (by omega)
    have hsn := hs n (by omega)
    have e1 : codR ss fs n = codR ss gs n ∧ fs.getD n 0 = gs.getD n 0 := by
      have hh : (codR ss fs n - codR ss gs n) * (ss.getD n 0 + 1) = gs.getD n 0 - fs.getD n 0 := by rw [Int.sub_mul]; omega
      have hd : codR ss fs n - codR ss gs n = 0 := by
        generalize codR ss fs n - codR ss gs n = d at *
        rcases Int.lt_trichotomy d 0 with h | h | h
        · have : d * (ss.getD n 0 + 1) ≤ -1 * (ss.getD n 0 + 1) := Int.mul_le_mul_of_nonneg_right (by omega) (by omega)
          omega
        · exact h
        · have : 1 * (ss.getD n 0 + 1) ≤ d * (ss.getD n 0 + 1) := Int.mul_le_mul_of_nonneg_right (by omega) (by omega)
          omega
      rw [hd, Int.zero_mul] at hh
      omega
    rcases Nat.lt_or_ge i n with h | h
    · exact cod_inj hs n (by omega) (fun j hj => hf j (by omega)) (fun j hj => hg j (by omega)) e1.1 i h
    · rw [show i = n by omega]; exact e1.2
/-- a step that changes nothing leads to what is known -/
theorem visit_filter {P : List Int} {gl : List Int → Bool} {here : List Int} {cnt : Int} : ∀ (xs : List (Int × Int)) (s : Sn × List (List Int)), (lookA s.1 here).isSome = true → visit P gl here cnt (stepsF P here xs) s = visit P gl here cnt xs s
  | [], s, _ => rfl
  | x :: xs, s, h => by
    unfold stepsF
    rw [List.filter_cons]
    by_cases e : afterF P here x.1 x.2 = here
    · have : (!decide (afterF P here x.1 x.2 = here)) = false := by simp [e]
      rw [this]
      simp only [Bool.false_eq_true, if_false]
      rw [visit, e, if_pos h]
      exact visit_filter xs s h
    · have : (!decide (afterF P here x.1 x.2 = here)) = true := by simp [e]
      rw [this]
      simp only [if_true]
      rw [visit, visit]
      have hadd : ∀ c : Cm, (lookA ((afterF P here x.1 x.2, c) :: s.1) here).isSome = true := fun c => by
        rw [lookA]
        split
        · rfl
        · exact h
      split
      · exact visit_filter xs s h
      · split
        · rfl
        · exact visit_filter xs _ (hadd _)
set_option maxRecDepth 100000 in
set_option maxHeartbeats 1000000 in
theorem Code_any (ss fs : List Int) (v u : Value) (w : World) (hv : SlI w v ss) (hu : SlI w u fs) (hj : jugsB ss = true) (hf : fitsB ss fs = true) :
    Calls Try.prog 37 #[v, u] w fun e w' => e = .returned (.int .i64 (codR ss fs ss.length)) ∧ Below w.heap.size w w' := by
  obtain ⟨hfit, hfl, _⟩ := fits_pad hj hf
  have hn := jugsB_len hj
  have hb0 : ∀ i, i < ss.length → (1 ≤ ss.getD i 0 ∧ ss.getD i 0 ≤ 12) ∧ 0 ≤ fs.getD i 0 ∧ fs.getD i 0 ≤ ss.getD i 0 := fun i hi => by
    have h1 := hfit.2 i (by omega)
    rw [padF_getD _ _ (by omega), padF_getD _ _ (by omega)] at h1
    have h2 := jugsB_in hj (List.getElem_mem hi)
    rw [← getD_lt hi] at h2
    omega
  have HBD := Lib.hid (cod_bd hb0)
  have HB0 := Lib.hid hb0
  obtain ⟨a, c, rfl, hc, hs⟩ := hv
  obtain ⟨a', c', rfl, hc', hs'⟩ := hu
  rw [hfl]
  have HS := Lib.hid hs
  have HS' := Lib.hid hs'
  have HFL := Lib.hid hfl
  clear hs hs' hj hf hfit hb0 hfl hc'
  go_enter Try.func37, Try.ntmps37
  go_wp2_with fail
  go_loopw [5, 6] (fun ov iv wr => ∃ i : Nat, i ≤ ss.length ∧ iv = .int .i64 (i : Int) ∧ ov = .int .i64 (codR ss fs i) ∧ Hid (Below w.heap.size w wr)) (fun _ iv _ => (ss.length - intOf iv).toNat)
  case atStart => exact ⟨0, by omega, rfl, rfl, Lib.hid (Below.refl _ _)⟩
  case round =>
    obtain ⟨i, hi, rfl, rfl, HB⟩ := hrel
    have kw : IntKind.i64.wrap ((i : Int) + 1) = ((i + 1 : Nat) : Int) := by rw [i64_of _ (by omega) (by omega)]; omega
    by_cases hlt : i < ss.length
    · have hd : decide ((i : Int) < (ss.length : Int)) = true := decide_eq_true (by omega)
      have hdn : decide (i < ss.length) = true := decide_eq_true hlt
      have hlf : i < fs.length := by rw [HFL.out]; exact hlt
      obtain ⟨b, o, rfl, hbl, hi1⟩ : ∃ b o, a = some ⟨b, o, none⟩ ∧ b < w.heap.size ∧ IntsAt w b o ss := HS.out.resolve_left (fun e => by rw [e] at hlt; simp at hlt)
      obtain ⟨b', o', rfl, hbl', hi2⟩ : ∃ b o, a' = some ⟨b, o, none⟩ ∧ b < w.heap.size ∧ IntsAt w b o fs := HS'.out.resolve_left (fun e => by rw [e] at hlf; simp at hlf)
      have k1 := below_at HB.out hbl (hi1.at_ i hlt)
      have k2 := below_at HB.out hbl' (hi2.at_ i hlf)
      rw [← getD_lt hlt] at k1
      rw [← getD_lt hlf] at k2
      have hb1 := HBD.out (i + 1) (by omega)
      have hb2 := HB0.out i hlt
      have hbi := HBD.out i hi
      have h13 : (13 : Int) ^ (i + 1) ≤ 28561 := by
        rcases (show i = 0 ∨ i = 1 ∨ i = 2 ∨ i = 3 by omega) with rfl | rfl | rfl | rfl <;> decide
      rw [codR] at hb1
      have HSN := Lib.hid (show codR ss fs (i + 1) = codR ss fs i * (ss.getD i 0 + 1) + fs.getD i 0 from rfl)
      clear hi1 hi2 hlf
      generalize codR ss fs i = cd at *
      generalize ss.getD i 0 = s at *
      generalize fs.getD i 0 = f at *
      have hm : cd * (s + 1) ≤ 28561 := by omega
      have hm0 : 0 ≤ cd * (s + 1) := Int.mul_nonneg hbi.1 (by omega)
      have n1 : IntKind.i64.wrap (s + 1) = s + 1 := i64_of _ (by omega) (by omega)
      have n2 : IntKind.i64.wrap (cd * (s + 1)) = cd * (s + 1) := i64_of _ (by omega) (by omega)
      have n3 : IntKind.i64.wrap (cd * (s + 1) + f) = cd * (s + 1) + f := i64_of _ (by omega) (by omega)
      clear hb1 hbi h13 hm hm0
      go_wp2_with fail
      go_quiet (fail)
      go_wp2_with fail
      exact ⟨⟨i + 1, by omega, by simp, by rw [HSN.out], Lib.hid (below_drewN HB.out _)⟩, by simp [intOf]; omega⟩
    · have hd : decide ((i : Int) < (ss.length : Int)) = false := decide_eq_false (by omega)
      have hdn : decide (i < ss.length) = false := decide_eq_false hlt
      obtain rfl : i = ss.length := by omega
      go_wp2_with fail
      go_ret
      exact ⟨rfl, HB.out⟩
end Go.Proofs.Ytlamppplnojpbaa
