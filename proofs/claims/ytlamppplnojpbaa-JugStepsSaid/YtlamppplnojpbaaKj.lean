import Derived.Test.YtlamppplnojpbaaKi
import Derived.Laws.AppendOwn
import Derived.ChangeKeysEq
import Derived.Maps.RangeWalk
import Derived.Maps.OwnIn
import Derived.Maps.AppendAt
import Derived.RangeFuncNested
import Derived.RangeFuncBound
import Derived.RangeFuncCalls
import Derived.RangeFuncLeaves
import Derived.Shelf.Abstract
import Derived.Shelf.RegionOpen
import Derived.WalkKit
import Derived.WalkMore
import Derived.OwnWalkIn
import Derived.TacticsInMore
import Derived.LoopNIn
import Derived.LoopIn
import Derived.WalkSpells
import Derived.WalkLawsBesides
import Derived.BigQuiet
import Derived.Deep.QuietTactic
import Derived.Lib.Hide
import Derived.Deep.RegionHeld3
import Derived.StillTailTactics
import Derived.Deep.LoopGhost
import Derived.Maps.OwnSet
import Derived.Lib.IndexAny
import Derived.Sort.QuietThIn
import Derived.Sort.QuietTacIn
import Derived.Sort.BigQuietIn
namespace Go.Proofs.Ytlamppplnojpbaa
open Go.RowKit Go.Shelf
attribute [local go_sem] Oper.semAt_some
theorem IntsAt.drewN {w : World} {b o : Nat} {zs : List Int} (h : IntsAt w b o zs) (n : Nat) : IntsAt (w.drewN n) b o zs := ⟨h.lt, h.at_⟩
set_option maxHeartbeats 1000000 in
theorem ints_any (xs ys : List Int) (g h c d : Nat) (w : World) (hx : IntsAt w g 0 xs) (hy : IntsAt w h 0 ys) (hl : xs.length = ys.length) (h1 : xs.length ≤ 1000) :
    Calls Try.prog 35 #[.slice (some ⟨g, 0, none⟩) xs.length c, .slice (some ⟨h, 0, none⟩) ys.length d] w fun e w' => e = .returned (.bool (decide (xs = ys))) ∧ Below w.heap.size w w' := by
  have d1 : ((xs.length : Int) != (ys.length : Int)) = false := by simp; omega
  have HX := Lib.hid hx
  have HY := Lib.hid hy
  have HL := Lib.hid hl
  obtain ⟨E, hE⟩ : ∃ E, decide (xs = ys) = E := ⟨_, rfl⟩
  rw [hE]
  have HE := Lib.hid hE
  clear hx hy hl hE
  go_enter Try.func35, Try.ntmps35
  go_wp2_with fail
  go_loopw [5] (fun i wr => ∃ k : Nat, k ≤ xs.length ∧ i = .int .i64 (k : Int) ∧ Hid (∃ n, wr = w.drewN n) ∧ Hid (xs.take k = ys.take k)) (fun i _ => xs.length - (intOf i).toNat)
  case atStart => exact ⟨0, by omega, rfl, Lib.hid ⟨0, rfl⟩, Lib.hid rfl⟩
  case round =>
    obtain ⟨k, hk, rfl, HN, HK⟩ := hrel
    obtain ⟨n, hn⟩ := HN.out
    have HW := Lib.hid (show Below w.heap.size w wr by rw [hn]; exact below_drewN (Below.refl _ _) _)
    have HX1 := Lib.hid (show IntsAt wr g 0 xs by rw [hn]; exact HX.out.drewN n)
    have HY1 := Lib.hid (show IntsAt wr h 0 ys by rw [hn]; exact HY.out.drewN n)
    have HNN := Lib.hid hn
    clear hn
    by_cases hlt : k < xs.length
    · have hlt2 : k < ys.length := by have := HL.out; omega
      have hd : decide ((k : Int) < (xs.length : Int)) = true := decide_eq_true (by omega)
      have c1 := HX1.out.at_ k hlt
      have c2 := HY1.out.at_ k hlt2
      rw [Nat.zero_add] at c1 c2
      have hs1 : xs.take (k + 1) = xs.take k ++ [xs[k]] := List.take_succ_eq_append_getElem hlt
      have hs2 : ys.take (k + 1) = ys.take k ++ [ys[k]] := List.take_succ_eq_append_getElem hlt2
      have hne : xs[k] ≠ ys[k] → E = false := fun hne => by
        rw [← HE.out]; refine decide_eq_false fun e => hne ?_
        subst e; rfl
      have S1 := Lib.hid hs1
      have S2 := Lib.hid hs2
      have HNE := Lib.hid hne
      clear hs1 hs2 hne
      generalize xs[k] = a at *
      generalize ys[k] = b at *
      go_wp2_with fail
      go_quiet (fail)
      by_cases hab : a = b
      · have dd : (a != b) = false := by simp [hab]
        subst hab
        clear HNE
        go_wp2_with fail
        go_roundw
        case rel => exact ⟨k + 1, by omega, rfl, Lib.hid ⟨_, by rw [HNN.out, drewN_drewN]⟩, Lib.hid (by rw [S1.out, S2.out, HK.out])⟩
        case measure => simp [intOf]; omega
      · have dd : (a != b) = true := by simp [hab]
        have HF := Lib.hid (HNE.out hab)
        clear hab HNE
        go_wp2_with fail
        go_ret
        exact ⟨ret_bool HF.out.symm, below_drewN HW.out _⟩
    · have hd : decide ((k : Int) < (xs.length : Int)) = false := decide_eq_false (by omega)
      have hfin : E = true := by
        rw [← HE.out]; refine decide_eq_true ?_
        have := HK.out
        rw [List.take_of_length_le (by omega), List.take_of_length_le (by have := HL.out; omega)] at this
        exact this
      have HF := Lib.hid hfin
      clear hfin
      go_wp2_with fail
      go_ret
      exact ⟨ret_bool HF.out.symm, HW.out⟩
theorem own_ints {W : World} {n₀ k : Nat} {zs : List Int} {v : Value} (h : W.ownsRow n₀ 3 1 v k (zs.map encI)) (hz : zs ≠ []) : ∃ g cap, v = .slice (some ⟨g, 0, none⟩) zs.length cap ∧ g < W.heap.size ∧ IntsAt W g 0 zs := by
  have hl : k = zs.length := by have := h.1; rw [List.length_map] at this; omega
  subst hl
  rcases h.2 with ⟨_, hn⟩ | ⟨g, cap, cur, rfl, _, hgb, _⟩
  · exact absurd (List.eq_nil_of_length_eq_zero hn) hz
  · have hlt := (Array.getElem?_eq_some_iff.1 hgb).1
    refine ⟨g, cap, rfl, hlt, .inr hlt, fun i hi => ?_⟩
    have := h.cells (g := g) rfl i (encI zs[i]) (by simp [hi])
    rw [Nat.zero_add]
    by_cases h0 : i = 0
    · subst h0; simpa [Addr.add, encI] using this
    · simpa [Addr.add, encI, h0] using this
theorem sli_new (w : World) (zs : List Int) : SlI (w.alloc (.cells (zs.map encI).toArray 3)) (.slice (some ⟨w.heap.size, 0, none⟩) zs.length zs.length) zs := by
  have r := Row.new w 3 (zs.map encI)
  refine ⟨_, _, rfl, Nat.le_refl _, .inr ⟨_, 0, rfl, r.lt, .inr r.lt, fun i hi => ?_⟩⟩
  rw [Nat.zero_add, r.cell, List.getElem?_map, List.getElem?_eq_getElem hi]; rfl
set_option maxRecDepth 100000 in
set_option maxHeartbeats 400000 in
theorem Check_any (zs : List Int) (v : Value) (w : World) (hv : SlI w v zs) (hl : zs.length ≤ 1000000) : Calls Try.prog 18 #[v] w fun e w' => e = .returned (.int .i64 (errJ zs)) ∧ Below w.heap.size w w' := by
  have HC := Lib.hid (check_any zs v w hv hl)
  clear hv hl
  go_enter Try.func18, Try.ntmps18
  go_wp2_with fail
  refine HC.out.mono ?_
  rintro e w1 ⟨rfl, hb⟩
  have HB := Lib.hid hb
  clear hb HC
  go_wp2_with fail
  go_ret
  exact ⟨rfl, HB.out⟩
theorem ev5 : ringL false 3 5 4 20 0 0 [] = some ([(-1, 1), (1, 0), (0, -1), (1, 0), (-1, 1), (1, 0)], true) := by decide +kernel
theorem ev6 : ringL true 3 5 3 20 0 0 [] = some ([(-1, 0)], true) := by decide +kernel
theorem aw_Fewest (w : World) : Calls Try.prog 21 #[.slice (some ⟨w.heap.size, 0, none⟩) 2 2, .int .i64 4] (w.alloc (.cells #[.int .i64 3, .int .i64 5] 3)) fun e w' => e = .returned (.tuple #[.int .i64 6, .bool true, .int .i64 0]) ∧ Below w.heap.size w w' := by
  obtain ⟨r, hr, hf⟩ := evOk_some ev1
  simp only [Bool.and_eq_true, decide_eq_true_eq] at hf
  have ba := (Below.refl w.heap.size w).alloc (Nat.le_refl _) (.cells #[.int .i64 3, .int .i64 5] 3)
  refine (Fewest_ok [3, 5] _ 4 _ (sli_new w [3, 5]) (by simp) (by decide) (by decide) r (srch_mono (d := 28502) hr)).mono fun e w' ⟨h1, h2⟩ => ⟨?_, Below.andThen ba h2 (Nat.le_refl _)⟩
  rw [h1, hf.1, hf.2]; rfl
theorem aw_Way (w : World) : Calls Try.prog 27 #[.slice (some ⟨w.heap.size, 0, none⟩) 3 3, .slice (some ⟨w.heap.size + 1, 0, none⟩) 3 3, .slice (some ⟨w.heap.size + 1 + 1, 0, none⟩) 3 3, .bool true] (((w.alloc (.cells #[.int .i64 8, .int .i64 5, .int .i64 3] 3)).alloc (.cells #[.int .i64 8, .int .i64 0, .int .i64 0] 3)).alloc (.cells #[.int .i64 4, .int .i64 4, .int .i64 0] 3))
    fun e w' => (∃ a c, e = .returned (.tuple #[.slice a 7 c, .bool true, .int .i64 0])) ∧ Below w.heap.size w w' := by
  obtain ⟨r, hr, hf⟩ := evOk_some ev2
  simp only [Bool.and_eq_true, decide_eq_true_eq] at hf
  have s1 := sli_new w [8, 5, 3]
  have b1 := (Below.refl w.heap.size w).alloc (Nat.le_refl _) (.cells (([8, 5, 3] : List Int).map encI).toArray 3)
  have z1 := size_al w (.cells (([8, 5, 3] : List Int).map encI).toArray 3)
  obtain ⟨w1, hw1⟩ : ∃ w1, w.alloc (.cells (([8, 5, 3] : List Int).map encI).toArray 3) = w1 := ⟨_, rfl⟩
  rw [hw1] at s1 b1 z1
  have s2 := sli_new w1 [8, 0, 0]
  have b2 := (Below.refl w1.heap.size w1).alloc (Nat.le_refl _) (.cells (([8, 0, 0] : List Int).map encI).toArray 3)
  have z2 := size_al w1 (.cells (([8, 0, 0] : List Int).map encI).toArray 3)
  obtain ⟨w2, hw2⟩ : ∃ w2, w1.alloc (.cells (([8, 0, 0] : List Int).map encI).toArray 3) = w2 := ⟨_, rfl⟩
  rw [hw2] at s2 b2 z2
  have s3 := sli_new w2 [4, 4, 0]
  have b3 := (Below.refl w2.heap.size w2).alloc (Nat.le_refl _) (.cells (([4, 4, 0] : List Int).map encI).toArray 3)
  obtain ⟨w3, hw3⟩ : ∃ w3, w2.alloc (.cells (([4, 4, 0] : List Int).map encI).toArray 3) = w3 := ⟨_, rfl⟩
  rw [hw3] at s3 b3
  rw [z2, z1] at s3
  rw [z1] at s2
  have e3 : ((w.alloc (.cells #[.int .i64 8, .int .i64 5, .int .i64 3] 3)).alloc (.cells #[.int .i64 8, .int .i64 0, .int .i64 0] 3)).alloc (.cells #[.int .i64 4, .int .i64 4, .int .i64 0] 3) = w3 := by rw [← hw3, ← hw2, ← hw1]; rfl
  rw [e3]
  refine (Way_ok [8, 5, 3] [8, 0, 0] [4, 4, 0] _ _ _ true w3 ((s1.grow b2).grow b3) (by simp) (s2.grow b3) s3 (by decide) r (srch_mono (d := 28502) hr)).mono fun e w' ⟨s, h1, h2, h3⟩ => ⟨?_, Below.andThen (Below.andThen (Below.andThen b1 b2 (Nat.le_refl _)) b3 (Nat.le_refl _)) h3 (Nat.le_refl _)⟩
  obtain ⟨a, c, rfl, _⟩ := OwnP.open h2
  rw [h1, hf.1, hf.2]
  exact ⟨a, c, rfl⟩
theorem aw_Amounts (w : World) : Calls Try.prog 20 #[.slice (some ⟨w.heap.size, 0, none⟩) 2 2] (w.alloc (.cells #[.int .i64 4, .int .i64 6] 3)) fun e w' => ∃ s, e = .returned (.tuple #[s, .int .i64 0]) ∧ w'.ownsRow w.heap.size 3 1 s 4 ([0, 2, 4, 6].map encI) ∧ Below w.heap.size w w' := by
  obtain ⟨r, hr, hf⟩ := evOk_some ev3
  have hf := of_decide_eq_true hf
  have ba := (Below.refl w.heap.size w).alloc (Nat.le_refl _) (.cells #[.int .i64 4, .int .i64 6] 3)
  refine (Amounts_ok [4, 6] _ _ (sli_new w [4, 6]) (by decide) r (srch_mono (d := 28502) hr)).mono fun e w' ⟨s, h1, h2, h3⟩ => ⟨s, h1, ?_, Below.andThen ba h3 (Nat.le_refl _)⟩
  have hl : ([4, 6] : List Int).length = 2 := rfl
  rw [hl, hf] at h2
  exact owns_mono h2 ba.size
theorem aw_Two (w : World) : Calls Try.prog 41 #[.int .i64 3, .int .i64 5, .int .i64 4] w fun e w' => e = .returned (.tuple #[.int .i64 6, .bool true, .int .i64 0]) ∧ Below w.heap.size w w' := by
  refine (Two_ok 3 5 4 (by decide) 20 (by omega) _ _ ev4 ev5 w).mono fun e w' ⟨h1, h2⟩ => ⟨?_, h2⟩
  rw [h1]; rfl
theorem aw_TwoWay (w : World) : Calls Try.prog 42 #[.int .i64 3, .int .i64 5, .int .i64 3, .bool true] w fun e w' => (∃ s, e = .returned (.tuple #[s, .bool true, .int .i64 0]) ∧ OwnP w' w.heap.size s [(-1, 0)]) ∧ Below w.heap.size w w' :=
  (TwoWay_ok 3 5 3 true (by decide) 20 (by omega) _ ev6 w).mono fun e w' ⟨s, h1, h2, h3⟩ => ⟨⟨s, h1, h2⟩, h3⟩
theorem aw_Steps (w : World) : Calls Try.prog 25 #[.slice (some ⟨w.heap.size, 0, none⟩) 1 1, .slice (some ⟨w.heap.size + 1, 0, none⟩) 1 1, .bool false] ((w.alloc (.cells #[.int .i64 2] 3)).alloc (.cells #[.int .i64 0] 3)) fun e w' => (∃ s, e = .returned (.tuple #[s, .int .i64 0]) ∧ OwnP w' w.heap.size s [(-1, 0)]) ∧ Below w.heap.size w w' := by
  have s1 := sli_new w [2]
  have b1 := (Below.refl w.heap.size w).alloc (Nat.le_refl _) (.cells (([2] : List Int).map encI).toArray 3)
  have z1 := size_al w (.cells (([2] : List Int).map encI).toArray 3)
  obtain ⟨w1, hw1⟩ : ∃ w1, w.alloc (.cells (([2] : List Int).map encI).toArray 3) = w1 := ⟨_, rfl⟩
  rw [hw1] at s1 b1 z1
  have s2 := sli_new w1 [0]
  have b2 := (Below.refl w1.heap.size w1).alloc (Nat.le_refl _) (.cells (([0] : List Int).map encI).toArray 3)
  obtain ⟨w2, hw2⟩ : ∃ w2, w1.alloc (.cells (([0] : List Int).map encI).toArray 3) = w2 := ⟨_, rfl⟩
  rw [hw2] at s2 b2
  rw [z1] at s2
  have e2 : (w.alloc (.cells #[.int .i64 2] 3)).alloc (.cells #[.int .i64 0] 3) = w2 := by rw [← hw2, ← hw1]; rfl
  rw [e2]
  have hst : stepsF (padF [2]) (padF [0]) (ssF false ([2] : List Int).length) = [(-1, 0)] := by decide
  refine (Steps_ok [2] [0] _ _ false w2 (s1.grow b2) (by simp) s2 (by decide)).mono fun e w' ⟨s, h1, h2, h3⟩ => ⟨⟨s, h1, ?_⟩, Below.andThen (Below.andThen b1 b2 (Nat.le_refl _)) h3 (Nat.le_refl _)⟩
  rw [hst] at h2
  exact owns_mono h2 (Nat.le_trans b1.size b2.size)
end Go.Proofs.Ytlamppplnojpbaa
