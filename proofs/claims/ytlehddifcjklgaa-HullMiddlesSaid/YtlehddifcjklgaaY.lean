import Derived.Test.YtlehddifcjklgaaV
import Derived.Maps.OwnIn
import Derived.Maps.OwnSet
import Derived.Maps.AppendAt
import Derived.RangeFuncNested
import Derived.RangeFuncBound
import Derived.RangeFuncCalls
import Derived.RangeFuncLeaves
import Derived.Shelf.Abstract
import Derived.Shelf.RegionOpen
import Derived.WalkKit
import Derived.OwnWalkIn
import Derived.TacticsInMore
import Derived.LoopNIn
import Derived.LoopIn
import Derived.WalkMore
import Derived.Sort.QuietThIn
import Derived.Sort.QuietTacIn
import Derived.Sort.BigQuietIn
import Derived.WalkSpells
import Derived.WalkLawsBesides
import Derived.BigQuiet
import Derived.Deep.QuietTactic
import Derived.Lib.Hide
import Derived.Deep.RegionHeld3
import Derived.StillTailTactics
import Derived.Deep.LoopGhost
import Derived.Lib.IndexAny
namespace Go.Proofs.Ytlehddifcjklgaa
open Go.RowKit Go.Shelf
attribute [local go_sem] Oper.semAt_some
def plankB (p : Pt) : Bool := decide (-1000 ≤ p.1) && decide (p.1 ≤ 1000) && (decide (1 ≤ p.2) && decide (p.2 ≤ 100))
def twrB (ps : List Pt) : Bool := decide (1 ≤ ps.length) && decide (ps.length ≤ 12) && ps.all plankB
theorem plank_false {p1 p2 : Int} (h : p1 < -1000 ∨ 1000 < p1 ∨ p2 < 1 ∨ 100 < p2) : plankB (p1, p2) = false := by
  unfold plankB
  rcases h with h | h | h | h <;> simp <;> omega
theorem plank_true {p1 p2 : Int} (h1 : -1000 ≤ p1) (h2 : p1 ≤ 1000) (h3 : 1 ≤ p2) (h4 : p2 ≤ 100) : plankB (p1, p2) = true := by
  unfold plankB; simp; omega
theorem twr_len {ps : List Pt} (h : twrB ps = true) : 1 ≤ ps.length ∧ ps.length ≤ 12 := by
  unfold twrB at h; simp at h; omega
theorem twr_bd {ps : List Pt} (h : twrB ps = true) {i : Nat} (hi : i < ps.length) : Bd 1000 ps[i].1 ∧ 1 ≤ ps[i].2 ∧ ps[i].2 ≤ 100 := by
  unfold twrB at h
  simp only [Bool.and_eq_true, List.all_eq_true] at h
  have := h.2 _ (List.getElem_mem hi)
  simp [plankB] at this
  unfold Bd; omega
theorem CheckTower_short (ps : List Pt) (v : Option Addr) (c : Nat) (w : World) (hl : ps.length ≤ 1000000) (h : ps.length < 1 ∨ 12 < ps.length) :
    Calls Try.prog 47 #[.slice v ps.length c] w fun e w' => e = .returned (.int .i64 (if twrB ps then 0 else 31)) ∧ Below w.heap.size w w' := by
  have fin : twrB ps = false := by
    unfold twrB; rcases h with h | h <;> simp <;> omega
  rw [fin]
  clear fin
  rcases h with h | h
  · have d1 : decide ((ps.length : Int) < 1) = true := decide_eq_true (by omega)
    go_enter Try.func47, Try.ntmps47
    go_wp2
    go_ret
    exact ⟨rfl, Below.refl _ _⟩
  · have d1 : decide ((ps.length : Int) < 1) = false := decide_eq_false (by omega)
    have d2 : decide (12 < (ps.length : Int)) = true := decide_eq_true (by omega)
    go_enter Try.func47, Try.ntmps47
    go_wp2
    go_ret
    exact ⟨rfl, Below.refl _ _⟩
set_option maxHeartbeats 1000000 in
theorem CheckTower_mid (ps : List Pt) (b o c : Nat) (w : World) (hp : PtsAt w b o ps) (h1 : 1 ≤ ps.length) (h12 : ps.length ≤ 12) :
    Calls Try.prog 47 #[.slice (some ⟨b, o, none⟩) ps.length c] w fun e w' => e = .returned (.int .i64 (if twrB ps then 0 else 31)) ∧ Below w.heap.size w w' := by
  have d1 : decide ((ps.length : Int) < 1) = false := decide_eq_false (by omega)
  have d2 : decide (12 < (ps.length : Int)) = false := decide_eq_false (by omega)
  obtain ⟨E, hE⟩ : ∃ E : Int, E = if twrB ps then 0 else 31 := ⟨_, rfl⟩
  rw [← hE]
  have HE := Lib.hid hE
  have HP := Lib.hid hp
  clear hp hE
  go_enter Try.func47, Try.ntmps47
  go_wp2
  go_loopw [17] (fun i wr => ∃ k : Nat, k ≤ ps.length ∧ i = .int .i64 (k : Int) ∧ Hid (Below w.heap.size w wr) ∧ Hid ((ps.take k).all plankB = true)) (fun i _ => ps.length - (intOf i).toNat)
  case atStart => exact ⟨0, by omega, rfl, Lib.hid (Below.refl _ _), Lib.hid rfl⟩
  case round =>
    obtain ⟨k, hk, rfl, HB, HK⟩ := hrel
    by_cases hlt : k < ps.length
    · have hd : decide ((k : Int) < (ps.length : Int)) = true := decide_eq_true (by omega)
      have hx := below_at HB.out HP.out.lt (HP.out.x k hlt)
      have hy := below_at HB.out HP.out.lt (HP.out.y k hlt)
      have hs : (ps.take (k + 1)).all plankB = plankB ps[k] := by
        rw [List.take_succ_eq_append_getElem hlt, List.all_append, HK.out]; simp
      have HS := Lib.hid hs
      have hf : plankB ps[k] = false → E = 31 := fun h => by
        rw [HE.out]
        have : twrB ps = false := by
          unfold twrB
          rw [Bool.and_eq_false_iff]; right
          rw [List.all_eq_false]; exact ⟨ps[k], List.getElem_mem _, by simp [h]⟩
        rw [this]; rfl
      have HF := Lib.hid hf
      have HB1 := Lib.hid (Below.al HB.out (Nat.le_refl _) (.cells #[.int .i64 ps[k].1, .int .i64 ps[k].2] 58))
      clear hs hf
      generalize ps[k] = p at *
      obtain ⟨p1, p2⟩ := p
      simp only at hx hy HB1
      have c0 : (wr.alloc (.cells #[.int .i64 p1, .int .i64 p2] 58)).cell? ⟨wr.heap.size, 0, none⟩ = some (.int .i64 p1) := by simp [cell_al]
      have c1 : (wr.alloc (.cells #[.int .i64 p1, .int .i64 p2] 58)).cell? ⟨wr.heap.size, 1, none⟩ = some (.int .i64 p2) := by simp [cell_al]
      go_wp2
      go_region
      generalize (wr.alloc (.cells #[.int .i64 p1, .int .i64 p2] 58)) = Z at *
      have HZ := Lib.hid HB1.out.drew
      by_cases a1 : p1 < -1000
      · have dd : decide (p1 < -1000) = true := decide_eq_true a1
        have HEE := Lib.hid (HF.out (plank_false (.inl a1)))
        clear c0 c1 hx hy
        go_wp2
        go_ret
        exact ⟨ret_int HEE.out.symm, HZ.out⟩
      by_cases a2 : 1000 < p1
      · have dd : decide (p1 < -1000) = false := decide_eq_false a1
        have de : decide (1000 < p1) = true := decide_eq_true a2
        have HEE := Lib.hid (HF.out (plank_false (.inr (.inl a2))))
        clear c0 c1 hx hy
        go_wp2
        go_ret
        exact ⟨ret_int HEE.out.symm, HZ.out⟩
      by_cases a3 : p2 < 1
      · have dd : decide (p1 < -1000) = false := decide_eq_false a1
        have de : decide (1000 < p1) = false := decide_eq_false a2
        have df : decide (p2 < 1) = true := decide_eq_true a3
        have HEE := Lib.hid (HF.out (plank_false (.inr (.inr (.inl a3)))))
        clear c0 c1 hx hy
        go_wp2
        go_ret
        exact ⟨ret_int HEE.out.symm, HZ.out⟩
      by_cases a4 : 100 < p2
      · have dd : decide (p1 < -1000) = false := decide_eq_false a1
        have de : decide (1000 < p1) = false := decide_eq_false a2
        have df : decide (p2 < 1) = false := decide_eq_false a3
        have dg : decide (100 < p2) = true := decide_eq_true a4
        have HEE := Lib.hid (HF.out (plank_false (.inr (.inr (.inr a4)))))
        clear c0 c1 hx hy
        go_wp2
        go_ret
        exact ⟨ret_int HEE.out.symm, HZ.out⟩
      have dd : decide (p1 < -1000) = false := decide_eq_false a1
      have de : decide (1000 < p1) = false := decide_eq_false a2
      have df : decide (p2 < 1) = false := decide_eq_false a3
      have dg : decide (100 < p2) = false := decide_eq_false a4
      have HT := Lib.hid (plank_true (p1 := p1) (p2 := p2) (by omega) (by omega) (by omega) (by omega))
      clear c0 c1 hx hy
      go_wp2
      go_roundw
      case rel => exact ⟨k + 1, by omega, rfl, HZ, Lib.hid (by rw [HS.out]; exact HT.out)⟩
      case measure => simp [intOf]; omega
    · have hd : decide ((k : Int) < (ps.length : Int)) = false := decide_eq_false (by omega)
      have hk2 : k = ps.length := by omega
      subst hk2
      have ht : E = 0 := by
        have h := HK.out
        rw [List.take_length] at h
        rw [HE.out]; unfold twrB; rw [h]; simp [h1, h12]
      have HT := Lib.hid ht
      clear ht
      go_wp2
      go_ret
      exact ⟨ret_int HT.out.symm, HB.out⟩
theorem CheckTower_any (ps : List Pt) (b o c : Nat) (w : World) (hp : PtsAt w b o ps) (hl : ps.length ≤ 1000000) :
    Calls Try.prog 47 #[.slice (some ⟨b, o, none⟩) ps.length c] w fun e w' => e = .returned (.int .i64 (if twrB ps then 0 else 31)) ∧ Below w.heap.size w w' := by
  by_cases h : ps.length < 1 ∨ 12 < ps.length
  · exact CheckTower_short ps _ c w hl h
  · exact CheckTower_mid ps b o c w hp (by omega) (by omega)
set_option maxHeartbeats 400000 in
theorem right_any (a1 a2 : Int) (w : World) (h1 : Bd 100000000 a1) (h2 : Bd 100000000 a2) :
    Calls Try.prog 93 #[.agg #[.int .i64 a1, .int .i64 a2]] w fun e w' => e = .returned (.int .i64 (a1 + a2)) ∧ Below w.heap.size w w' := by
  have e1 := i64_bd (h1.add h2) (by omega)
  go_enter Try.func93, Try.ntmps93
  go_wp2_with fail
  go_ret
  exact ⟨rfl, (Below.refl w.heap.size w).alloc (Nat.le_refl _) _⟩
end Go.Proofs.Ytlehddifcjklgaa
